/- Layer 10: what is wrong with a message, type by type, by the program. -/
import Derived.Test.YtdmlgheajblcdaaGreatK14
import Derived.WalkKit
import Derived.ProofKit
import Derived.Handy
import Derived.WalkLawsBesides
import Derived.WalkSpells
import Derived.BigQuiet
import Derived.BigCall
import Derived.Deep.QuietTactic
import Derived.Deep.Light
import Derived.Deep.OwnRows
import Derived.Laws.AppendOwnNone
import Derived.Laws.Strings3
import Derived.Laws.RangeAny
import Derived.Deep.RegionWith
import Derived.Lib.BitFns
import Derived.Lib.Walk
import Derived.Lib.Strings
import Derived.Lib.OthersKept
import Derived.Deep.CutBlock
import Derived.Deep.DeepCutAuto
import Derived.Deep.LoopGhost
import Derived.Deep.RegionHeld3
import Derived.Lib.SmallJoins
import Derived.Maps.AppendAt
import Derived.Laws.IdiomStrings
import Derived.Lib.AppendZeros
import Derived.Deep.WholeRow
import Derived.Laws.BitsAllLaws
import Derived.Lib.ConvBytes
import Derived.Deep.RegionLaw
namespace Go.Proofs.YtdmlgheajblcdaaGreat
open Go.RowKit
set_option linter.unusedVariables false
set_option linter.unusedSimpArgs false
set_option maxRecDepth 20000
theorem endsQ (a b : Int) (ha : I64 a) (hb : I64 b) (hg : inn a 0 200000 = true) (g : Bool) (h : (decide (b = 0) || (inn b 0 200000 && inn (b - a) 1 3660)) = g) (w : World) : Calls Tryz.prog 144 #[.int .i64 a, .int .i64 b] w (BP g w) := by
  by_cases e0 : b = 0
  · have H : Hid (true = g) := by unfold Hid; rw [← h, decide_eq_true e0]; rfl
    have z0 : (b == 0) = true := by rw [e0]; rfl
    clear h e0
    go_enter Tryz.func144, Tryz.ntmps144
    go_wp2_with fail
    go_ret
    exact BP.mk H.out
  · have z0 : (b == 0) = false := by rw [beq_eq_false_iff_ne]; exact e0
    by_cases e1 : inn b 0 200000 = true
    · have hr : 0 ≤ a ∧ a ≤ 200000 ∧ 0 ≤ b ∧ b ≤ 200000 := by
        unfold inn at hg e1
        rw [Bool.and_eq_true, decide_eq_true_iff, decide_eq_true_iff] at hg e1
        omega
      have h2 : inn (b - a) 1 3660 = g := by rw [← h, decide_eq_false e0, e1]; rfl
      obtain ⟨r1, r2, r3, r4⟩ := hr
      clear h e0 hg
      go_enter Tryz.func144, Tryz.ntmps144
      go_wp2_with (first | (go_at_call 143; refine (xgood _ _ e1 _).mono ?_; rintro e w2 ⟨rfl, rfl⟩) | (go_at_call 39; refine (xwithin _ _ _ _ h2 _).mono ?_; rintro e w2 ⟨rfl, rfl⟩))
      go_ret
      exact BP.mk rfl
    · have e1 : inn b 0 200000 = false := by simpa using e1
      have H : Hid (false = g) := by unfold Hid; rw [← h, decide_eq_false e0, e1]; rfl
      clear h e0 hg
      go_enter Tryz.func144, Tryz.ntmps144
      go_wp2_with (go_at_call 143; refine (xgood _ _ e1 _).mono ?_; rintro e w2 ⟨rfl, rfl⟩)
      go_ret
      exact BP.mk H.out
set_option maxHeartbeats 4000000 in
theorem check1 (m : Mg) (pa ia ca ba : Option Addr) (pc ic cc bc : Nat) (w : World) (hs : m.name.length ≤ 9223372036854775807) (g : Nat) (hg : (if mbr m.mem = true then C0.nm m.name else 1) = g) : Calls Tryz.prog 165 #[.agg #[.int .i64 m.mem, .string ⟨m.name.toArray⟩]] w (KP (.int .i64 g) w) := by
  have HG : Hid ((if mbr m.mem = true then C0.nm m.name else 1) = g) := hg
  have HB : Hid (Below w.heap.size w (w.alloc (.cells #[.int .i64 m.mem, .string ⟨m.name.toArray⟩] 76))) := below_a w _
  clear hg
  have HC : Hid (∀ w, Calls Tryz.prog 167 #[.string ⟨m.name.toArray⟩] w (TB (N4.chk m.name).1 (C0.nm m.name) w)) := fun w => xname m.name hs _ rfl w
  generalize C0.nm m.name = dd at *
  go_enter Tryz.func165, Tryz.ntmps165
  by_cases e1 : mbr m.mem = true
  · have HG2 : Hid (dd = g) := by have := HG.out; rw [if_pos e1] at this; exact this
    clear HG
    go_wp2_with (first | (go_at_call 140; refine (xmember _ _ (by first | exact e1) _).mono ?_; rintro e w2 ⟨rfl, rfl⟩))
    refine (HC.out _).mono ?_
    rintro e w2 ⟨rfl, hb2⟩
    have HB2 : Hid (Below w.heap.size w w2) := bt HB.out hb2.out
    clear hb2
    go_wp2_with fail
    go_ret
    exact KP.mk (by rw [← HG2.out]; rfl) HB2.out
  · have e1 : mbr m.mem = false := by simpa using e1
    have HG2 : Hid (1 = g) := by have := HG.out; rw [if_neg (ff e1)] at this; exact this
    clear HG
    go_wp2_with (first | (go_at_call 140; refine (xmember _ _ (by first | exact e1) _).mono ?_; rintro e w2 ⟨rfl, rfl⟩))
    go_ret
    exact KP.mk (by rw [← HG2.out]; rfl) HB.out
set_option maxHeartbeats 4000000 in
theorem check2 (m : Mg) (pa ia ca ba : Option Addr) (pc ic cc bc : Nat) (w : World) (hs : m.a.i.length ≤ 9223372036854775807) (g : Nat) (hg : (C0.ast m.a) = g) : Calls Tryz.prog 174 #[.agg #[.string ⟨m.a.i.toArray⟩, .int .i64 m.a.iss, .int .i64 m.a.rat, .int .i64 m.a.mat, .string ⟨m.a.cur.toArray⟩]] w (KP (.int .i64 g) w) := by
  have HG : Hid ((C0.ast m.a) = g) := hg
  have HB : Hid (Below w.heap.size w (w.alloc (.cells #[.string ⟨m.a.i.toArray⟩, .int .i64 m.a.iss, .int .i64 m.a.rat, .int .i64 m.a.mat, .string ⟨m.a.cur.toArray⟩] 78))) := below_a w _
  clear hg
  have HC : Hid (∀ w, Calls Tryz.prog 176 #[.agg #[.string ⟨m.a.i.toArray⟩, .int .i64 m.a.iss, .int .i64 m.a.rat, .int .i64 m.a.mat, .string ⟨m.a.cur.toArray⟩]] w (NB (C0.ast m.a : Nat) w)) := fun w => xasset m.a hs _ rfl w
  generalize C0.ast m.a = dd at *
  go_enter Tryz.func174, Tryz.ntmps174
  have HG2 : Hid (dd = g) := HG.out
  clear HG
  go_wp2_with fail
  refine (HC.out _).mono ?_
  rintro e w2 ⟨rfl, hb2⟩
  have HB2 : Hid (Below w.heap.size w w2) := bt HB.out hb2.out
  clear hb2
  go_wp2_with fail
  go_ret
  exact KP.mk (by rw [← HG2.out]; rfl) HB2.out
set_option maxHeartbeats 4000000 in
theorem check3 (m : Mg) (pa ia ca ba : Option Addr) (pc ic cc bc : Nat) (w : World) (hC : Cts w.heap.size w ca m.b.cuts) (hI : Ins w.heap.size w ba m.b.bar) (hlc : m.b.cuts.length ≤ 9223372036854775807) (hlb : m.b.bar.length ≤ 9223372036854775807) (g : Nat) (hg : (bkE C0 m.b) = g) : Calls Tryz.prog 179 #[.agg #[.int .i64 m.b.id, .int .i64 m.b.ver, .string ⟨m.b.cur.toArray⟩, .int .i64 m.b.rat, .int .i64 m.b.least, .int .i64 m.b.most, .slice ca m.b.cuts.length cc, .int .i64 m.b.iss, .int .i64 m.b.ass, .slice ba m.b.bar.length bc]] w (KP (.int .i64 g) w) := by
  have HG : Hid ((bkE C0 m.b) = g) := hg
  have HB : Hid (Below w.heap.size w (w.alloc (.cells #[.int .i64 m.b.id, .int .i64 m.b.ver, .string ⟨m.b.cur.toArray⟩, .int .i64 m.b.rat, .int .i64 m.b.least, .int .i64 m.b.most, .slice ca m.b.cuts.length cc, .int .i64 m.b.iss, .int .i64 m.b.ass, .slice ba m.b.bar.length bc] 80))) := below_a w _
  clear hg
  have HC : Hid (∀ W, Below w.heap.size w W → Calls Tryz.prog 16 #[.agg #[.int .i64 m.b.id, .int .i64 m.b.ver, .string ⟨m.b.cur.toArray⟩, .int .i64 m.b.rat, .int .i64 m.b.least, .int .i64 m.b.most, .slice ca m.b.cuts.length cc, .int .i64 m.b.iss, .int .i64 m.b.ass, .slice ba m.b.bar.length bc]] W (KP (.int .i64 (bkE C0 m.b : Nat)) W)) := fun W hb => xBasket m.b ca ba cc bc W ((hC.keep hb).mono hb.size) ((hI.keep hb).mono hb.size) hlc hlb _ rfl
  generalize bkE C0 m.b = dd at *
  clear hC hI
  go_enter Tryz.func179, Tryz.ntmps179
  have HG2 : Hid (dd = g) := HG.out
  clear HG
  go_wp2_with fail
  refine (HC.out _ HB.out).mono ?_
  rintro e w2 ⟨rfl, hb2⟩
  have HB2 : Hid (Below w.heap.size w w2) := bt HB.out hb2.out
  clear hb2
  go_wp2_with fail
  go_ret
  exact KP.mk (by rw [← HG2.out]; rfl) HB2.out
set_option maxHeartbeats 4000000 in
theorem check6 (m : Mg) (pa ia ca ba : Option Addr) (pc ic cc bc : Nat) (w : World) (hn : I64 m.n) (g : Nat) (hg : (if C0.cu m.t = true then if mbr m.mem = true then if sgn m.n = true then 0 else 1 else 1 else 11) = g) : Calls Tryz.prog 186 #[.agg #[.int .i64 m.mem, .string ⟨m.t.toArray⟩, .int .i64 m.n]] w (KP (.int .i64 g) w) := by
  have HG : Hid ((if C0.cu m.t = true then if mbr m.mem = true then if sgn m.n = true then 0 else 1 else 1 else 11) = g) := hg
  have HB : Hid (Below w.heap.size w (w.alloc (.cells #[.int .i64 m.mem, .string ⟨m.t.toArray⟩, .int .i64 m.n] 84))) := below_a w _
  clear hg
  go_enter Tryz.func186, Tryz.ntmps186
  by_cases e0 : C0.cu m.t = true
  · by_cases e1 : mbr m.mem = true
    · by_cases e2 : sgn m.n = true
      · have HG2 : Hid (0 = g) := by have := HG.out; rw [if_pos e0, if_pos e1, if_pos e2] at this; exact this
        clear HG
        go_wp2_with (first | (go_at_call 42; refine (xcur _ _ (by first | exact e0) _).mono ?_; rintro e w2 ⟨rfl, rfl⟩) | (go_at_call 140; refine (xmember _ _ (by first | exact e1) _).mono ?_; rintro e w2 ⟨rfl, rfl⟩) | (go_at_call 188; refine (xchange _ hn _ e2 _).mono ?_; rintro e w2 ⟨rfl, rfl⟩))
        go_ret
        exact KP.mk (by rw [← HG2.out]; rfl) HB.out
      · have e2 : sgn m.n = false := by simpa using e2
        have HG2 : Hid (1 = g) := by have := HG.out; rw [if_pos e0, if_pos e1, if_neg (ff e2)] at this; exact this
        clear HG
        go_wp2_with (first | (go_at_call 42; refine (xcur _ _ (by first | exact e0) _).mono ?_; rintro e w2 ⟨rfl, rfl⟩) | (go_at_call 140; refine (xmember _ _ (by first | exact e1) _).mono ?_; rintro e w2 ⟨rfl, rfl⟩) | (go_at_call 188; refine (xchange _ hn _ e2 _).mono ?_; rintro e w2 ⟨rfl, rfl⟩))
        go_ret
        exact KP.mk (by rw [← HG2.out]; rfl) HB.out
    · have e1 : mbr m.mem = false := by simpa using e1
      have HG2 : Hid (1 = g) := by have := HG.out; rw [if_pos e0, if_neg (ff e1)] at this; exact this
      clear HG
      go_wp2_with (first | (go_at_call 42; refine (xcur _ _ (by first | exact e0) _).mono ?_; rintro e w2 ⟨rfl, rfl⟩) | (go_at_call 140; refine (xmember _ _ (by first | exact e1) _).mono ?_; rintro e w2 ⟨rfl, rfl⟩) | (go_at_call 188; refine (xchange _ hn _ e2 _).mono ?_; rintro e w2 ⟨rfl, rfl⟩))
      go_ret
      exact KP.mk (by rw [← HG2.out]; rfl) HB.out
  · have e0 : C0.cu m.t = false := by simpa using e0
    have HG2 : Hid (11 = g) := by have := HG.out; rw [if_neg (ff e0)] at this; exact this
    clear HG
    go_wp2_with (first | (go_at_call 42; refine (xcur _ _ (by first | exact e0) _).mono ?_; rintro e w2 ⟨rfl, rfl⟩) | (go_at_call 140; refine (xmember _ _ (by first | exact e1) _).mono ?_; rintro e w2 ⟨rfl, rfl⟩) | (go_at_call 188; refine (xchange _ hn _ e2 _).mono ?_; rintro e w2 ⟨rfl, rfl⟩))
    go_ret
    exact KP.mk (by rw [← HG2.out]; rfl) HB.out
set_option maxHeartbeats 4000000 in
theorem check7 (m : Mg) (pa ia ca ba : Option Addr) (pc ic cc bc : Nat) (w : World) (hn : I64 m.n) (hs : m.t.length ≤ 9223372036854775807) (g : Nat) (hg : (if mbr m.mem = true then if sgn m.n = true then C0.is m.t else 1 else 1) = g) : Calls Tryz.prog 190 #[.agg #[.int .i64 m.mem, .string ⟨m.t.toArray⟩, .int .i64 m.n]] w (KP (.int .i64 g) w) := by
  have HG : Hid ((if mbr m.mem = true then if sgn m.n = true then C0.is m.t else 1 else 1) = g) := hg
  have HB : Hid (Below w.heap.size w (w.alloc (.cells #[.int .i64 m.mem, .string ⟨m.t.toArray⟩, .int .i64 m.n] 86))) := below_a w _
  clear hg
  have HC : Hid (∀ w, Calls Tryz.prog 151 #[.string ⟨m.t.toArray⟩] w (NP .i64 (C0.is m.t : Nat) w)) := fun w => xisin m.t hs _ rfl w
  generalize C0.is m.t = dd at *
  go_enter Tryz.func190, Tryz.ntmps190
  by_cases e1 : mbr m.mem = true
  · by_cases e2 : sgn m.n = true
    · have HG2 : Hid (dd = g) := by have := HG.out; rw [if_pos e1, if_pos e2] at this; exact this
      clear HG
      go_wp2_with (first | (go_at_call 140; refine (xmember _ _ (by first | exact e1) _).mono ?_; rintro e w2 ⟨rfl, rfl⟩) | (go_at_call 188; refine (xchange _ hn _ e2 _).mono ?_; rintro e w2 ⟨rfl, rfl⟩) | (go_at_call 151; refine (HC.out _).mono ?_; rintro e w2 ⟨rfl, rfl⟩))
      go_ret
      exact KP.mk (by rw [← HG2.out]; rfl) HB.out
    · have e2 : sgn m.n = false := by simpa using e2
      have HG2 : Hid (1 = g) := by have := HG.out; rw [if_pos e1, if_neg (ff e2)] at this; exact this
      clear HG
      go_wp2_with (first | (go_at_call 140; refine (xmember _ _ (by first | exact e1) _).mono ?_; rintro e w2 ⟨rfl, rfl⟩) | (go_at_call 188; refine (xchange _ hn _ e2 _).mono ?_; rintro e w2 ⟨rfl, rfl⟩))
      go_ret
      exact KP.mk (by rw [← HG2.out]; rfl) HB.out
  · have e1 : mbr m.mem = false := by simpa using e1
    have HG2 : Hid (1 = g) := by have := HG.out; rw [if_neg (ff e1)] at this; exact this
    clear HG
    go_wp2_with (first | (go_at_call 140; refine (xmember _ _ (by first | exact e1) _).mono ?_; rintro e w2 ⟨rfl, rfl⟩) | (go_at_call 188; refine (xchange _ hn _ e2 _).mono ?_; rintro e w2 ⟨rfl, rfl⟩))
    go_ret
    exact KP.mk (by rw [← HG2.out]; rfl) HB.out
set_option maxHeartbeats 4000000 in
theorem check8a (m : Mg) (pa ia ca ba : Option Addr) (pc ic cc bc : Nat) (w : World) (hs : m.q.side = 1) (h1 : I64 m.q.st) (h2 : I64 m.q.en) (g : Nat) (hg : (if mbr m.q.mem = true then if amt m.q.id = true then if inn m.q.side 1 2 = true then if inn m.q.bas 1 64 = true then if amt m.q.am = true then if inn m.q.rate (-1000000) 1000000 = true then if inn m.q.st 0 200000 = true then if (decide (m.q.en = 0) || (inn m.q.en 0 200000 && inn (m.q.en - m.q.st) 1 3660)) = true then 0 else 10 else 10 else 1 else 1 else 1 else 1 else 1 else 1) = g) : Calls Tryz.prog 138 #[.agg #[.int .i64 m.q.id, .int .i64 m.q.mem, .int .i64 m.q.side, .int .i64 m.q.bas, .int .i64 m.q.am, .int .i64 m.q.rate, .int .i64 m.q.st, .int .i64 m.q.en]] w (KP (.int .i64 g) w) := by
  have HG : Hid ((if mbr m.q.mem = true then if amt m.q.id = true then if inn m.q.side 1 2 = true then if inn m.q.bas 1 64 = true then if amt m.q.am = true then if inn m.q.rate (-1000000) 1000000 = true then if inn m.q.st 0 200000 = true then if (decide (m.q.en = 0) || (inn m.q.en 0 200000 && inn (m.q.en - m.q.st) 1 3660)) = true then 0 else 10 else 10 else 1 else 1 else 1 else 1 else 1 else 1) = g) := hg
  have HB : Hid (Below w.heap.size w ((w.alloc (.cells #[.int .i64 m.q.id, .int .i64 m.q.mem, .int .i64 m.q.side, .int .i64 m.q.bas, .int .i64 m.q.am, .int .i64 m.q.rate, .int .i64 m.q.st, .int .i64 m.q.en] 63)).alloc (.cells #[.int .i64 m.q.id, .int .i64 m.q.mem, .int .i64 m.q.side, .int .i64 m.q.bas, .int .i64 m.q.am, .int .i64 m.q.rate, .int .i64 m.q.st, .int .i64 m.q.en] 30))) := bt (below_a w _) (below_a _ _)
  clear hg
  have z1 : (m.q.side != 1) = false := by rw [hs]; rfl
  have e3 : inn m.q.side 1 2 = true := by rw [hs]; decide
  clear hs
  go_enter Tryz.func138, Tryz.ntmps138
  by_cases e1 : mbr m.q.mem = true
  · by_cases e2 : amt m.q.id = true
    · have e3 : inn m.q.side 1 2 = true := e3
      by_cases e4 : inn m.q.bas 1 64 = true
      · by_cases e5 : amt m.q.am = true
        · by_cases e6 : inn m.q.rate (-1000000) 1000000 = true
          · by_cases e7 : inn m.q.st 0 200000 = true
            · by_cases e8 : (decide (m.q.en = 0) || (inn m.q.en 0 200000 && inn (m.q.en - m.q.st) 1 3660)) = true
              · have HG2 : Hid (0 = g) := by have := HG.out; rw [if_pos e1, if_pos e2, if_pos e3, if_pos e4, if_pos e5, if_pos e6, if_pos e7, if_pos e8] at this; exact this
                clear HG
                go_wp2_with (first | (go_at_call 140; refine (xmember _ _ (by first | exact e1) _).mono ?_; rintro e w2 ⟨rfl, rfl⟩) | (go_at_call 40; refine (xnumber _ _ (by first | exact e2) _).mono ?_; rintro e w2 ⟨rfl, rfl⟩) | (go_at_call 39; refine (xwithin _ _ _ _ (by first | exact e4) _).mono ?_; rintro e w2 ⟨rfl, rfl⟩) | (go_at_call 141; refine (xamount _ _ (by first | exact e5) _).mono ?_; rintro e w2 ⟨rfl, rfl⟩) | (go_at_call 142; refine (xrate _ _ (by first | exact e6) _).mono ?_; rintro e w2 ⟨rfl, rfl⟩) | (go_at_call 143; refine (xgood _ _ (by first | exact e7) _).mono ?_; rintro e w2 ⟨rfl, rfl⟩) | (go_at_call 144; refine (endsQ _ _ h1 h2 e7 _ e8 _).mono ?_; rintro e w2 ⟨rfl, rfl⟩))
                go_ret
                exact KP.mk (by rw [← HG2.out]; rfl) HB.out
              · have e8 : (decide (m.q.en = 0) || (inn m.q.en 0 200000 && inn (m.q.en - m.q.st) 1 3660)) = false := by simpa using e8
                have HG2 : Hid (10 = g) := by have := HG.out; rw [if_pos e1, if_pos e2, if_pos e3, if_pos e4, if_pos e5, if_pos e6, if_pos e7, if_neg (ff e8)] at this; exact this
                clear HG
                go_wp2_with (first | (go_at_call 140; refine (xmember _ _ (by first | exact e1) _).mono ?_; rintro e w2 ⟨rfl, rfl⟩) | (go_at_call 40; refine (xnumber _ _ (by first | exact e2) _).mono ?_; rintro e w2 ⟨rfl, rfl⟩) | (go_at_call 39; refine (xwithin _ _ _ _ (by first | exact e4) _).mono ?_; rintro e w2 ⟨rfl, rfl⟩) | (go_at_call 141; refine (xamount _ _ (by first | exact e5) _).mono ?_; rintro e w2 ⟨rfl, rfl⟩) | (go_at_call 142; refine (xrate _ _ (by first | exact e6) _).mono ?_; rintro e w2 ⟨rfl, rfl⟩) | (go_at_call 143; refine (xgood _ _ (by first | exact e7) _).mono ?_; rintro e w2 ⟨rfl, rfl⟩) | (go_at_call 144; refine (endsQ _ _ h1 h2 e7 _ e8 _).mono ?_; rintro e w2 ⟨rfl, rfl⟩))
                go_ret
                exact KP.mk (by rw [← HG2.out]; rfl) HB.out
            · have e7 : inn m.q.st 0 200000 = false := by simpa using e7
              have HG2 : Hid (10 = g) := by have := HG.out; rw [if_pos e1, if_pos e2, if_pos e3, if_pos e4, if_pos e5, if_pos e6, if_neg (ff e7)] at this; exact this
              clear HG
              go_wp2_with (first | (go_at_call 140; refine (xmember _ _ (by first | exact e1) _).mono ?_; rintro e w2 ⟨rfl, rfl⟩) | (go_at_call 40; refine (xnumber _ _ (by first | exact e2) _).mono ?_; rintro e w2 ⟨rfl, rfl⟩) | (go_at_call 39; refine (xwithin _ _ _ _ (by first | exact e4) _).mono ?_; rintro e w2 ⟨rfl, rfl⟩) | (go_at_call 141; refine (xamount _ _ (by first | exact e5) _).mono ?_; rintro e w2 ⟨rfl, rfl⟩) | (go_at_call 142; refine (xrate _ _ (by first | exact e6) _).mono ?_; rintro e w2 ⟨rfl, rfl⟩) | (go_at_call 143; refine (xgood _ _ (by first | exact e7) _).mono ?_; rintro e w2 ⟨rfl, rfl⟩) | (go_at_call 144; refine (endsQ _ _ h1 h2 e7 _ e8 _).mono ?_; rintro e w2 ⟨rfl, rfl⟩))
              go_ret
              exact KP.mk (by rw [← HG2.out]; rfl) HB.out
          · have e6 : inn m.q.rate (-1000000) 1000000 = false := by simpa using e6
            have HG2 : Hid (1 = g) := by have := HG.out; rw [if_pos e1, if_pos e2, if_pos e3, if_pos e4, if_pos e5, if_neg (ff e6)] at this; exact this
            clear HG
            go_wp2_with (first | (go_at_call 140; refine (xmember _ _ (by first | exact e1) _).mono ?_; rintro e w2 ⟨rfl, rfl⟩) | (go_at_call 40; refine (xnumber _ _ (by first | exact e2) _).mono ?_; rintro e w2 ⟨rfl, rfl⟩) | (go_at_call 39; refine (xwithin _ _ _ _ (by first | exact e4) _).mono ?_; rintro e w2 ⟨rfl, rfl⟩) | (go_at_call 141; refine (xamount _ _ (by first | exact e5) _).mono ?_; rintro e w2 ⟨rfl, rfl⟩) | (go_at_call 142; refine (xrate _ _ (by first | exact e6) _).mono ?_; rintro e w2 ⟨rfl, rfl⟩) | (go_at_call 143; refine (xgood _ _ (by first | exact e7) _).mono ?_; rintro e w2 ⟨rfl, rfl⟩) | (go_at_call 144; refine (endsQ _ _ h1 h2 e7 _ e8 _).mono ?_; rintro e w2 ⟨rfl, rfl⟩))
            go_ret
            exact KP.mk (by rw [← HG2.out]; rfl) HB.out
        · have e5 : amt m.q.am = false := by simpa using e5
          have HG2 : Hid (1 = g) := by have := HG.out; rw [if_pos e1, if_pos e2, if_pos e3, if_pos e4, if_neg (ff e5)] at this; exact this
          clear HG
          go_wp2_with (first | (go_at_call 140; refine (xmember _ _ (by first | exact e1) _).mono ?_; rintro e w2 ⟨rfl, rfl⟩) | (go_at_call 40; refine (xnumber _ _ (by first | exact e2) _).mono ?_; rintro e w2 ⟨rfl, rfl⟩) | (go_at_call 39; refine (xwithin _ _ _ _ (by first | exact e4) _).mono ?_; rintro e w2 ⟨rfl, rfl⟩) | (go_at_call 141; refine (xamount _ _ (by first | exact e5) _).mono ?_; rintro e w2 ⟨rfl, rfl⟩) | (go_at_call 142; refine (xrate _ _ (by first | exact e6) _).mono ?_; rintro e w2 ⟨rfl, rfl⟩) | (go_at_call 143; refine (xgood _ _ (by first | exact e7) _).mono ?_; rintro e w2 ⟨rfl, rfl⟩) | (go_at_call 144; refine (endsQ _ _ h1 h2 e7 _ e8 _).mono ?_; rintro e w2 ⟨rfl, rfl⟩))
          go_ret
          exact KP.mk (by rw [← HG2.out]; rfl) HB.out
      · have e4 : inn m.q.bas 1 64 = false := by simpa using e4
        have HG2 : Hid (1 = g) := by have := HG.out; rw [if_pos e1, if_pos e2, if_pos e3, if_neg (ff e4)] at this; exact this
        clear HG
        go_wp2_with (first | (go_at_call 140; refine (xmember _ _ (by first | exact e1) _).mono ?_; rintro e w2 ⟨rfl, rfl⟩) | (go_at_call 40; refine (xnumber _ _ (by first | exact e2) _).mono ?_; rintro e w2 ⟨rfl, rfl⟩) | (go_at_call 39; refine (xwithin _ _ _ _ (by first | exact e4) _).mono ?_; rintro e w2 ⟨rfl, rfl⟩) | (go_at_call 141; refine (xamount _ _ (by first | exact e5) _).mono ?_; rintro e w2 ⟨rfl, rfl⟩) | (go_at_call 142; refine (xrate _ _ (by first | exact e6) _).mono ?_; rintro e w2 ⟨rfl, rfl⟩) | (go_at_call 143; refine (xgood _ _ (by first | exact e7) _).mono ?_; rintro e w2 ⟨rfl, rfl⟩) | (go_at_call 144; refine (endsQ _ _ h1 h2 e7 _ e8 _).mono ?_; rintro e w2 ⟨rfl, rfl⟩))
        go_ret
        exact KP.mk (by rw [← HG2.out]; rfl) HB.out
    · have e2 : amt m.q.id = false := by simpa using e2
      have HG2 : Hid (1 = g) := by have := HG.out; rw [if_pos e1, if_neg (ff e2)] at this; exact this
      clear HG
      go_wp2_with (first | (go_at_call 140; refine (xmember _ _ (by first | exact e1) _).mono ?_; rintro e w2 ⟨rfl, rfl⟩) | (go_at_call 40; refine (xnumber _ _ (by first | exact e2) _).mono ?_; rintro e w2 ⟨rfl, rfl⟩) | (go_at_call 39; refine (xwithin _ _ _ _ (by first | exact e4) _).mono ?_; rintro e w2 ⟨rfl, rfl⟩) | (go_at_call 141; refine (xamount _ _ (by first | exact e5) _).mono ?_; rintro e w2 ⟨rfl, rfl⟩) | (go_at_call 142; refine (xrate _ _ (by first | exact e6) _).mono ?_; rintro e w2 ⟨rfl, rfl⟩) | (go_at_call 143; refine (xgood _ _ (by first | exact e7) _).mono ?_; rintro e w2 ⟨rfl, rfl⟩) | (go_at_call 144; refine (endsQ _ _ h1 h2 e7 _ e8 _).mono ?_; rintro e w2 ⟨rfl, rfl⟩))
      go_ret
      exact KP.mk (by rw [← HG2.out]; rfl) HB.out
  · have e1 : mbr m.q.mem = false := by simpa using e1
    have HG2 : Hid (1 = g) := by have := HG.out; rw [if_neg (ff e1)] at this; exact this
    clear HG
    go_wp2_with (first | (go_at_call 140; refine (xmember _ _ (by first | exact e1) _).mono ?_; rintro e w2 ⟨rfl, rfl⟩) | (go_at_call 40; refine (xnumber _ _ (by first | exact e2) _).mono ?_; rintro e w2 ⟨rfl, rfl⟩) | (go_at_call 39; refine (xwithin _ _ _ _ (by first | exact e4) _).mono ?_; rintro e w2 ⟨rfl, rfl⟩) | (go_at_call 141; refine (xamount _ _ (by first | exact e5) _).mono ?_; rintro e w2 ⟨rfl, rfl⟩) | (go_at_call 142; refine (xrate _ _ (by first | exact e6) _).mono ?_; rintro e w2 ⟨rfl, rfl⟩) | (go_at_call 143; refine (xgood _ _ (by first | exact e7) _).mono ?_; rintro e w2 ⟨rfl, rfl⟩) | (go_at_call 144; refine (endsQ _ _ h1 h2 e7 _ e8 _).mono ?_; rintro e w2 ⟨rfl, rfl⟩))
    go_ret
    exact KP.mk (by rw [← HG2.out]; rfl) HB.out
set_option maxHeartbeats 4000000 in
theorem check8b (m : Mg) (pa ia ca ba : Option Addr) (pc ic cc bc : Nat) (w : World) (hs : m.q.side ≠ 1) (h1 : I64 m.q.st) (h2 : I64 m.q.en) (g : Nat) (hg : (if mbr m.q.mem = true then if amt m.q.id = true then if inn m.q.side 1 2 = true then if inn m.q.bas 1 64 = true then if amt m.q.am = true then if inn m.q.rate (-1000000) 1000000 = true then if inn m.q.st 0 200000 = true then if (decide (m.q.en = 0) || (inn m.q.en 0 200000 && inn (m.q.en - m.q.st) 1 3660)) = true then 0 else 10 else 10 else 1 else 1 else 1 else 1 else 1 else 1) = g) : Calls Tryz.prog 138 #[.agg #[.int .i64 m.q.id, .int .i64 m.q.mem, .int .i64 m.q.side, .int .i64 m.q.bas, .int .i64 m.q.am, .int .i64 m.q.rate, .int .i64 m.q.st, .int .i64 m.q.en]] w (KP (.int .i64 g) w) := by
  have HG : Hid ((if mbr m.q.mem = true then if amt m.q.id = true then if inn m.q.side 1 2 = true then if inn m.q.bas 1 64 = true then if amt m.q.am = true then if inn m.q.rate (-1000000) 1000000 = true then if inn m.q.st 0 200000 = true then if (decide (m.q.en = 0) || (inn m.q.en 0 200000 && inn (m.q.en - m.q.st) 1 3660)) = true then 0 else 10 else 10 else 1 else 1 else 1 else 1 else 1 else 1) = g) := hg
  have HB : Hid (Below w.heap.size w ((w.alloc (.cells #[.int .i64 m.q.id, .int .i64 m.q.mem, .int .i64 m.q.side, .int .i64 m.q.bas, .int .i64 m.q.am, .int .i64 m.q.rate, .int .i64 m.q.st, .int .i64 m.q.en] 63)).alloc (.cells #[.int .i64 m.q.id, .int .i64 m.q.mem, .int .i64 m.q.side, .int .i64 m.q.bas, .int .i64 m.q.am, .int .i64 m.q.rate, .int .i64 m.q.st, .int .i64 m.q.en] 30))) := bt (below_a w _) (below_a _ _)
  clear hg
  have z1 : (m.q.side != 1) = true := by rw [bne_iff_ne]; exact hs
  have HS : Hid (m.q.side ≠ 1) := hs
  clear hs
  go_enter Tryz.func138, Tryz.ntmps138
  by_cases e1 : mbr m.q.mem = true
  · by_cases e2 : amt m.q.id = true
    · by_cases e3 : inn m.q.side 1 2 = true
      · have z2 : (m.q.side != 2) = false := by have hs := HS.out; unfold inn at e3; rw [Bool.and_eq_true, decide_eq_true_iff, decide_eq_true_iff] at e3; rw [bne_eq_false_iff_eq]; omega
        by_cases e4 : inn m.q.bas 1 64 = true
        · by_cases e5 : amt m.q.am = true
          · by_cases e6 : inn m.q.rate (-1000000) 1000000 = true
            · by_cases e7 : inn m.q.st 0 200000 = true
              · by_cases e8 : (decide (m.q.en = 0) || (inn m.q.en 0 200000 && inn (m.q.en - m.q.st) 1 3660)) = true
                · have HG2 : Hid (0 = g) := by have := HG.out; rw [if_pos e1, if_pos e2, if_pos e3, if_pos e4, if_pos e5, if_pos e6, if_pos e7, if_pos e8] at this; exact this
                  clear HG
                  go_wp2_with (first | (go_at_call 140; refine (xmember _ _ (by first | exact e1) _).mono ?_; rintro e w2 ⟨rfl, rfl⟩) | (go_at_call 40; refine (xnumber _ _ (by first | exact e2) _).mono ?_; rintro e w2 ⟨rfl, rfl⟩) | (go_at_call 39; refine (xwithin _ _ _ _ (by first | exact e4) _).mono ?_; rintro e w2 ⟨rfl, rfl⟩) | (go_at_call 141; refine (xamount _ _ (by first | exact e5) _).mono ?_; rintro e w2 ⟨rfl, rfl⟩) | (go_at_call 142; refine (xrate _ _ (by first | exact e6) _).mono ?_; rintro e w2 ⟨rfl, rfl⟩) | (go_at_call 143; refine (xgood _ _ (by first | exact e7) _).mono ?_; rintro e w2 ⟨rfl, rfl⟩) | (go_at_call 144; refine (endsQ _ _ h1 h2 e7 _ e8 _).mono ?_; rintro e w2 ⟨rfl, rfl⟩))
                  go_ret
                  exact KP.mk (by rw [← HG2.out]; rfl) HB.out
                · have e8 : (decide (m.q.en = 0) || (inn m.q.en 0 200000 && inn (m.q.en - m.q.st) 1 3660)) = false := by simpa using e8
                  have HG2 : Hid (10 = g) := by have := HG.out; rw [if_pos e1, if_pos e2, if_pos e3, if_pos e4, if_pos e5, if_pos e6, if_pos e7, if_neg (ff e8)] at this; exact this
                  clear HG
                  go_wp2_with (first | (go_at_call 140; refine (xmember _ _ (by first | exact e1) _).mono ?_; rintro e w2 ⟨rfl, rfl⟩) | (go_at_call 40; refine (xnumber _ _ (by first | exact e2) _).mono ?_; rintro e w2 ⟨rfl, rfl⟩) | (go_at_call 39; refine (xwithin _ _ _ _ (by first | exact e4) _).mono ?_; rintro e w2 ⟨rfl, rfl⟩) | (go_at_call 141; refine (xamount _ _ (by first | exact e5) _).mono ?_; rintro e w2 ⟨rfl, rfl⟩) | (go_at_call 142; refine (xrate _ _ (by first | exact e6) _).mono ?_; rintro e w2 ⟨rfl, rfl⟩) | (go_at_call 143; refine (xgood _ _ (by first | exact e7) _).mono ?_; rintro e w2 ⟨rfl, rfl⟩) | (go_at_call 144; refine (endsQ _ _ h1 h2 e7 _ e8 _).mono ?_; rintro e w2 ⟨rfl, rfl⟩))
                  go_ret
                  exact KP.mk (by rw [← HG2.out]; rfl) HB.out
              · have e7 : inn m.q.st 0 200000 = false := by simpa using e7
                have HG2 : Hid (10 = g) := by have := HG.out; rw [if_pos e1, if_pos e2, if_pos e3, if_pos e4, if_pos e5, if_pos e6, if_neg (ff e7)] at this; exact this
                clear HG
                go_wp2_with (first | (go_at_call 140; refine (xmember _ _ (by first | exact e1) _).mono ?_; rintro e w2 ⟨rfl, rfl⟩) | (go_at_call 40; refine (xnumber _ _ (by first | exact e2) _).mono ?_; rintro e w2 ⟨rfl, rfl⟩) | (go_at_call 39; refine (xwithin _ _ _ _ (by first | exact e4) _).mono ?_; rintro e w2 ⟨rfl, rfl⟩) | (go_at_call 141; refine (xamount _ _ (by first | exact e5) _).mono ?_; rintro e w2 ⟨rfl, rfl⟩) | (go_at_call 142; refine (xrate _ _ (by first | exact e6) _).mono ?_; rintro e w2 ⟨rfl, rfl⟩) | (go_at_call 143; refine (xgood _ _ (by first | exact e7) _).mono ?_; rintro e w2 ⟨rfl, rfl⟩) | (go_at_call 144; refine (endsQ _ _ h1 h2 e7 _ e8 _).mono ?_; rintro e w2 ⟨rfl, rfl⟩))
                go_ret
                exact KP.mk (by rw [← HG2.out]; rfl) HB.out
            · have e6 : inn m.q.rate (-1000000) 1000000 = false := by simpa using e6
              have HG2 : Hid (1 = g) := by have := HG.out; rw [if_pos e1, if_pos e2, if_pos e3, if_pos e4, if_pos e5, if_neg (ff e6)] at this; exact this
              clear HG
              go_wp2_with (first | (go_at_call 140; refine (xmember _ _ (by first | exact e1) _).mono ?_; rintro e w2 ⟨rfl, rfl⟩) | (go_at_call 40; refine (xnumber _ _ (by first | exact e2) _).mono ?_; rintro e w2 ⟨rfl, rfl⟩) | (go_at_call 39; refine (xwithin _ _ _ _ (by first | exact e4) _).mono ?_; rintro e w2 ⟨rfl, rfl⟩) | (go_at_call 141; refine (xamount _ _ (by first | exact e5) _).mono ?_; rintro e w2 ⟨rfl, rfl⟩) | (go_at_call 142; refine (xrate _ _ (by first | exact e6) _).mono ?_; rintro e w2 ⟨rfl, rfl⟩) | (go_at_call 143; refine (xgood _ _ (by first | exact e7) _).mono ?_; rintro e w2 ⟨rfl, rfl⟩) | (go_at_call 144; refine (endsQ _ _ h1 h2 e7 _ e8 _).mono ?_; rintro e w2 ⟨rfl, rfl⟩))
              go_ret
              exact KP.mk (by rw [← HG2.out]; rfl) HB.out
          · have e5 : amt m.q.am = false := by simpa using e5
            have HG2 : Hid (1 = g) := by have := HG.out; rw [if_pos e1, if_pos e2, if_pos e3, if_pos e4, if_neg (ff e5)] at this; exact this
            clear HG
            go_wp2_with (first | (go_at_call 140; refine (xmember _ _ (by first | exact e1) _).mono ?_; rintro e w2 ⟨rfl, rfl⟩) | (go_at_call 40; refine (xnumber _ _ (by first | exact e2) _).mono ?_; rintro e w2 ⟨rfl, rfl⟩) | (go_at_call 39; refine (xwithin _ _ _ _ (by first | exact e4) _).mono ?_; rintro e w2 ⟨rfl, rfl⟩) | (go_at_call 141; refine (xamount _ _ (by first | exact e5) _).mono ?_; rintro e w2 ⟨rfl, rfl⟩) | (go_at_call 142; refine (xrate _ _ (by first | exact e6) _).mono ?_; rintro e w2 ⟨rfl, rfl⟩) | (go_at_call 143; refine (xgood _ _ (by first | exact e7) _).mono ?_; rintro e w2 ⟨rfl, rfl⟩) | (go_at_call 144; refine (endsQ _ _ h1 h2 e7 _ e8 _).mono ?_; rintro e w2 ⟨rfl, rfl⟩))
            go_ret
            exact KP.mk (by rw [← HG2.out]; rfl) HB.out
        · have e4 : inn m.q.bas 1 64 = false := by simpa using e4
          have HG2 : Hid (1 = g) := by have := HG.out; rw [if_pos e1, if_pos e2, if_pos e3, if_neg (ff e4)] at this; exact this
          clear HG
          go_wp2_with (first | (go_at_call 140; refine (xmember _ _ (by first | exact e1) _).mono ?_; rintro e w2 ⟨rfl, rfl⟩) | (go_at_call 40; refine (xnumber _ _ (by first | exact e2) _).mono ?_; rintro e w2 ⟨rfl, rfl⟩) | (go_at_call 39; refine (xwithin _ _ _ _ (by first | exact e4) _).mono ?_; rintro e w2 ⟨rfl, rfl⟩) | (go_at_call 141; refine (xamount _ _ (by first | exact e5) _).mono ?_; rintro e w2 ⟨rfl, rfl⟩) | (go_at_call 142; refine (xrate _ _ (by first | exact e6) _).mono ?_; rintro e w2 ⟨rfl, rfl⟩) | (go_at_call 143; refine (xgood _ _ (by first | exact e7) _).mono ?_; rintro e w2 ⟨rfl, rfl⟩) | (go_at_call 144; refine (endsQ _ _ h1 h2 e7 _ e8 _).mono ?_; rintro e w2 ⟨rfl, rfl⟩))
          go_ret
          exact KP.mk (by rw [← HG2.out]; rfl) HB.out
      · have e3 : inn m.q.side 1 2 = false := by simpa using e3
        have HG2 : Hid (1 = g) := by have := HG.out; rw [if_pos e1, if_pos e2, if_neg (ff e3)] at this; exact this
        clear HG
        have z2 : (m.q.side != 2) = true := by have hs := HS.out; unfold inn at e3; rw [Bool.and_eq_false_iff, decide_eq_false_iff_not, decide_eq_false_iff_not] at e3; rw [bne_iff_ne]; omega
        go_wp2_with (first | (go_at_call 140; refine (xmember _ _ (by first | exact e1) _).mono ?_; rintro e w2 ⟨rfl, rfl⟩) | (go_at_call 40; refine (xnumber _ _ (by first | exact e2) _).mono ?_; rintro e w2 ⟨rfl, rfl⟩) | (go_at_call 39; refine (xwithin _ _ _ _ (by first | exact e4) _).mono ?_; rintro e w2 ⟨rfl, rfl⟩) | (go_at_call 141; refine (xamount _ _ (by first | exact e5) _).mono ?_; rintro e w2 ⟨rfl, rfl⟩) | (go_at_call 142; refine (xrate _ _ (by first | exact e6) _).mono ?_; rintro e w2 ⟨rfl, rfl⟩) | (go_at_call 143; refine (xgood _ _ (by first | exact e7) _).mono ?_; rintro e w2 ⟨rfl, rfl⟩) | (go_at_call 144; refine (endsQ _ _ h1 h2 e7 _ e8 _).mono ?_; rintro e w2 ⟨rfl, rfl⟩))
        go_ret
        exact KP.mk (by rw [← HG2.out]; rfl) HB.out
    · have e2 : amt m.q.id = false := by simpa using e2
      have HG2 : Hid (1 = g) := by have := HG.out; rw [if_pos e1, if_neg (ff e2)] at this; exact this
      clear HG
      go_wp2_with (first | (go_at_call 140; refine (xmember _ _ (by first | exact e1) _).mono ?_; rintro e w2 ⟨rfl, rfl⟩) | (go_at_call 40; refine (xnumber _ _ (by first | exact e2) _).mono ?_; rintro e w2 ⟨rfl, rfl⟩) | (go_at_call 39; refine (xwithin _ _ _ _ (by first | exact e4) _).mono ?_; rintro e w2 ⟨rfl, rfl⟩) | (go_at_call 141; refine (xamount _ _ (by first | exact e5) _).mono ?_; rintro e w2 ⟨rfl, rfl⟩) | (go_at_call 142; refine (xrate _ _ (by first | exact e6) _).mono ?_; rintro e w2 ⟨rfl, rfl⟩) | (go_at_call 143; refine (xgood _ _ (by first | exact e7) _).mono ?_; rintro e w2 ⟨rfl, rfl⟩) | (go_at_call 144; refine (endsQ _ _ h1 h2 e7 _ e8 _).mono ?_; rintro e w2 ⟨rfl, rfl⟩))
      go_ret
      exact KP.mk (by rw [← HG2.out]; rfl) HB.out
  · have e1 : mbr m.q.mem = false := by simpa using e1
    have HG2 : Hid (1 = g) := by have := HG.out; rw [if_neg (ff e1)] at this; exact this
    clear HG
    go_wp2_with (first | (go_at_call 140; refine (xmember _ _ (by first | exact e1) _).mono ?_; rintro e w2 ⟨rfl, rfl⟩) | (go_at_call 40; refine (xnumber _ _ (by first | exact e2) _).mono ?_; rintro e w2 ⟨rfl, rfl⟩) | (go_at_call 39; refine (xwithin _ _ _ _ (by first | exact e4) _).mono ?_; rintro e w2 ⟨rfl, rfl⟩) | (go_at_call 141; refine (xamount _ _ (by first | exact e5) _).mono ?_; rintro e w2 ⟨rfl, rfl⟩) | (go_at_call 142; refine (xrate _ _ (by first | exact e6) _).mono ?_; rintro e w2 ⟨rfl, rfl⟩) | (go_at_call 143; refine (xgood _ _ (by first | exact e7) _).mono ?_; rintro e w2 ⟨rfl, rfl⟩) | (go_at_call 144; refine (endsQ _ _ h1 h2 e7 _ e8 _).mono ?_; rintro e w2 ⟨rfl, rfl⟩))
    go_ret
    exact KP.mk (by rw [← HG2.out]; rfl) HB.out
set_option maxHeartbeats 4000000 in
theorem check9 (m : Mg) (pa ia ca ba : Option Addr) (pc ic cc bc : Nat) (w : World)  (g : Nat) (hg : (if mbr m.mem = true then if amt m.n = true then 0 else 1 else 1) = g) : Calls Tryz.prog 193 #[.agg #[.int .i64 m.mem, .int .i64 m.n]] w (KP (.int .i64 g) w) := by
  have HG : Hid ((if mbr m.mem = true then if amt m.n = true then 0 else 1 else 1) = g) := hg
  have HB : Hid (Below w.heap.size w (w.alloc (.cells #[.int .i64 m.mem, .int .i64 m.n] 88))) := below_a w _
  clear hg
  go_enter Tryz.func193, Tryz.ntmps193
  by_cases e1 : mbr m.mem = true
  · by_cases e2 : amt m.n = true
    · have HG2 : Hid (0 = g) := by have := HG.out; rw [if_pos e1, if_pos e2] at this; exact this
      clear HG
      go_wp2_with (first | (go_at_call 140; refine (xmember _ _ (by first | exact e1) _).mono ?_; rintro e w2 ⟨rfl, rfl⟩) | (go_at_call 40; refine (xnumber _ _ (by first | exact e2) _).mono ?_; rintro e w2 ⟨rfl, rfl⟩))
      go_ret
      exact KP.mk (by rw [← HG2.out]; rfl) HB.out
    · have e2 : amt m.n = false := by simpa using e2
      have HG2 : Hid (1 = g) := by have := HG.out; rw [if_pos e1, if_neg (ff e2)] at this; exact this
      clear HG
      go_wp2_with (first | (go_at_call 140; refine (xmember _ _ (by first | exact e1) _).mono ?_; rintro e w2 ⟨rfl, rfl⟩) | (go_at_call 40; refine (xnumber _ _ (by first | exact e2) _).mono ?_; rintro e w2 ⟨rfl, rfl⟩))
      go_ret
      exact KP.mk (by rw [← HG2.out]; rfl) HB.out
  · have e1 : mbr m.mem = false := by simpa using e1
    have HG2 : Hid (1 = g) := by have := HG.out; rw [if_neg (ff e1)] at this; exact this
    clear HG
    go_wp2_with (first | (go_at_call 140; refine (xmember _ _ (by first | exact e1) _).mono ?_; rintro e w2 ⟨rfl, rfl⟩) | (go_at_call 40; refine (xnumber _ _ (by first | exact e2) _).mono ?_; rintro e w2 ⟨rfl, rfl⟩))
    go_ret
    exact KP.mk (by rw [← HG2.out]; rfl) HB.out
set_option maxHeartbeats 4000000 in
theorem check10 (m : Mg) (pa ia ca ba : Option Addr) (pc ic cc bc : Nat) (w : World)  (g : Nat) (hg : (if mbr m.mem = true then if amt m.tr = true then dayE C0 m.day else 1 else 1) = g) : Calls Tryz.prog 196 #[.agg #[.int .i64 m.mem, .int .i64 m.tr, .int .i64 m.day]] w (KP (.int .i64 g) w) := by
  have HG : Hid ((if mbr m.mem = true then if amt m.tr = true then dayE C0 m.day else 1 else 1) = g) := hg
  have HB : Hid (Below w.heap.size w (w.alloc (.cells #[.int .i64 m.mem, .int .i64 m.tr, .int .i64 m.day] 90))) := below_a w _
  clear hg
  have HC : Hid (∀ w, Calls Tryz.prog 163 #[.int .i64 m.day] w (NP .i64 (dayE C0 m.day : Nat) w)) := fun w => xday m.day _ rfl w
  generalize dayE C0 m.day = dd at *
  go_enter Tryz.func196, Tryz.ntmps196
  by_cases e1 : mbr m.mem = true
  · by_cases e2 : amt m.tr = true
    · have HG2 : Hid (dd = g) := by have := HG.out; rw [if_pos e1, if_pos e2] at this; exact this
      clear HG
      go_wp2_with (first | (go_at_call 140; refine (xmember _ _ (by first | exact e1) _).mono ?_; rintro e w2 ⟨rfl, rfl⟩) | (go_at_call 40; refine (xnumber _ _ (by first | exact e2) _).mono ?_; rintro e w2 ⟨rfl, rfl⟩) | (go_at_call 163; refine (HC.out _).mono ?_; rintro e w2 ⟨rfl, rfl⟩))
      go_ret
      exact KP.mk (by rw [← HG2.out]; rfl) HB.out
    · have e2 : amt m.tr = false := by simpa using e2
      have HG2 : Hid (1 = g) := by have := HG.out; rw [if_pos e1, if_neg (ff e2)] at this; exact this
      clear HG
      go_wp2_with (first | (go_at_call 140; refine (xmember _ _ (by first | exact e1) _).mono ?_; rintro e w2 ⟨rfl, rfl⟩) | (go_at_call 40; refine (xnumber _ _ (by first | exact e2) _).mono ?_; rintro e w2 ⟨rfl, rfl⟩))
      go_ret
      exact KP.mk (by rw [← HG2.out]; rfl) HB.out
  · have e1 : mbr m.mem = false := by simpa using e1
    have HG2 : Hid (1 = g) := by have := HG.out; rw [if_neg (ff e1)] at this; exact this
    clear HG
    go_wp2_with (first | (go_at_call 140; refine (xmember _ _ (by first | exact e1) _).mono ?_; rintro e w2 ⟨rfl, rfl⟩) | (go_at_call 40; refine (xnumber _ _ (by first | exact e2) _).mono ?_; rintro e w2 ⟨rfl, rfl⟩))
    go_ret
    exact KP.mk (by rw [← HG2.out]; rfl) HB.out
set_option maxHeartbeats 4000000 in
theorem check12 (m : Mg) (pa ia ca ba : Option Addr) (pc ic cc bc : Nat) (w : World)  (g : Nat) (hg : (if mbr m.mem = true then dayE C0 m.day else 1) = g) : Calls Tryz.prog 199 #[.agg #[.int .i64 m.mem, .int .i64 m.day, .bool m.done]] w (KP (.int .i64 g) w) := by
  have HG : Hid ((if mbr m.mem = true then dayE C0 m.day else 1) = g) := hg
  have HB : Hid (Below w.heap.size w (w.alloc (.cells #[.int .i64 m.mem, .int .i64 m.day, .bool m.done] 92))) := below_a w _
  clear hg
  have HC : Hid (∀ w, Calls Tryz.prog 163 #[.int .i64 m.day] w (NP .i64 (dayE C0 m.day : Nat) w)) := fun w => xday m.day _ rfl w
  generalize dayE C0 m.day = dd at *
  go_enter Tryz.func199, Tryz.ntmps199
  by_cases e1 : mbr m.mem = true
  · have HG2 : Hid (dd = g) := by have := HG.out; rw [if_pos e1] at this; exact this
    clear HG
    go_wp2_with (first | (go_at_call 140; refine (xmember _ _ (by first | exact e1) _).mono ?_; rintro e w2 ⟨rfl, rfl⟩) | (go_at_call 163; refine (HC.out _).mono ?_; rintro e w2 ⟨rfl, rfl⟩))
    go_ret
    exact KP.mk (by rw [← HG2.out]; rfl) HB.out
  · have e1 : mbr m.mem = false := by simpa using e1
    have HG2 : Hid (1 = g) := by have := HG.out; rw [if_neg (ff e1)] at this; exact this
    clear HG
    go_wp2_with (first | (go_at_call 140; refine (xmember _ _ (by first | exact e1) _).mono ?_; rintro e w2 ⟨rfl, rfl⟩))
    go_ret
    exact KP.mk (by rw [← HG2.out]; rfl) HB.out
set_option maxHeartbeats 4000000 in
theorem check13 (m : Mg) (pa ia ca ba : Option Addr) (pc ic cc bc : Nat) (w : World)  (g : Nat) (hg : (if mbr m.mem = true then 0 else 1) = g) : Calls Tryz.prog 203 #[.agg #[.int .i64 m.mem]] w (KP (.int .i64 g) w) := by
  have HG : Hid ((if mbr m.mem = true then 0 else 1) = g) := hg
  have HB : Hid (Below w.heap.size w (w.alloc (.cells #[.int .i64 m.mem] 94))) := below_a w _
  clear hg
  go_enter Tryz.func203, Tryz.ntmps203
  by_cases e1 : mbr m.mem = true
  · have HG2 : Hid (0 = g) := by have := HG.out; rw [if_pos e1] at this; exact this
    clear HG
    go_wp2_with (first | (go_at_call 140; refine (xmember _ _ (by first | exact e1) _).mono ?_; rintro e w2 ⟨rfl, rfl⟩))
    go_ret
    exact KP.mk (by rw [← HG2.out]; rfl) HB.out
  · have e1 : mbr m.mem = false := by simpa using e1
    have HG2 : Hid (1 = g) := by have := HG.out; rw [if_neg (ff e1)] at this; exact this
    clear HG
    go_wp2_with (first | (go_at_call 140; refine (xmember _ _ (by first | exact e1) _).mono ?_; rintro e w2 ⟨rfl, rfl⟩))
    go_ret
    exact KP.mk (by rw [← HG2.out]; rfl) HB.out
set_option maxHeartbeats 4000000 in
theorem check14 (m : Mg) (pa ia ca ba : Option Addr) (pc ic cc bc : Nat) (w : World)  (g : Nat) (hg : (if mbr m.mem = true then if inn m.n 0 1125899906842624 = true then 0 else 1 else 1) = g) : Calls Tryz.prog 206 #[.agg #[.int .i64 m.mem, .int .i64 m.n]] w (KP (.int .i64 g) w) := by
  have HG : Hid ((if mbr m.mem = true then if inn m.n 0 1125899906842624 = true then 0 else 1 else 1) = g) := hg
  have HB : Hid (Below w.heap.size w (w.alloc (.cells #[.int .i64 m.mem, .int .i64 m.n] 96))) := below_a w _
  clear hg
  go_enter Tryz.func206, Tryz.ntmps206
  by_cases e1 : mbr m.mem = true
  · by_cases e2 : inn m.n 0 1125899906842624 = true
    · have HG2 : Hid (0 = g) := by have := HG.out; rw [if_pos e1, if_pos e2] at this; exact this
      clear HG
      go_wp2_with (first | (go_at_call 140; refine (xmember _ _ (by first | exact e1) _).mono ?_; rintro e w2 ⟨rfl, rfl⟩) | (go_at_call 39; refine (xwithin _ _ _ _ (by first | exact e2) _).mono ?_; rintro e w2 ⟨rfl, rfl⟩))
      go_ret
      exact KP.mk (by rw [← HG2.out]; rfl) HB.out
    · have e2 : inn m.n 0 1125899906842624 = false := by simpa using e2
      have HG2 : Hid (1 = g) := by have := HG.out; rw [if_pos e1, if_neg (ff e2)] at this; exact this
      clear HG
      go_wp2_with (first | (go_at_call 140; refine (xmember _ _ (by first | exact e1) _).mono ?_; rintro e w2 ⟨rfl, rfl⟩) | (go_at_call 39; refine (xwithin _ _ _ _ (by first | exact e2) _).mono ?_; rintro e w2 ⟨rfl, rfl⟩))
      go_ret
      exact KP.mk (by rw [← HG2.out]; rfl) HB.out
  · have e1 : mbr m.mem = false := by simpa using e1
    have HG2 : Hid (1 = g) := by have := HG.out; rw [if_neg (ff e1)] at this; exact this
    clear HG
    go_wp2_with (first | (go_at_call 140; refine (xmember _ _ (by first | exact e1) _).mono ?_; rintro e w2 ⟨rfl, rfl⟩) | (go_at_call 39; refine (xwithin _ _ _ _ (by first | exact e2) _).mono ?_; rintro e w2 ⟨rfl, rfl⟩))
    go_ret
    exact KP.mk (by rw [← HG2.out]; rfl) HB.out
set_option maxHeartbeats 4000000 in
theorem check15 (m : Mg) (pa ia ca ba : Option Addr) (pc ic cc bc : Nat) (w : World)  (g : Nat) (hg : (if amt m.tr = true then if inn m.rate (-1000000) 1000000 = true then dayE C0 m.day else 1 else 1) = g) : Calls Tryz.prog 209 #[.agg #[.int .i64 m.tr, .int .i64 m.day, .int .i64 m.rate]] w (KP (.int .i64 g) w) := by
  have HG : Hid ((if amt m.tr = true then if inn m.rate (-1000000) 1000000 = true then dayE C0 m.day else 1 else 1) = g) := hg
  have HB : Hid (Below w.heap.size w (w.alloc (.cells #[.int .i64 m.tr, .int .i64 m.day, .int .i64 m.rate] 98))) := below_a w _
  clear hg
  have HC : Hid (∀ w, Calls Tryz.prog 163 #[.int .i64 m.day] w (NP .i64 (dayE C0 m.day : Nat) w)) := fun w => xday m.day _ rfl w
  generalize dayE C0 m.day = dd at *
  go_enter Tryz.func209, Tryz.ntmps209
  by_cases e1 : amt m.tr = true
  · by_cases e2 : inn m.rate (-1000000) 1000000 = true
    · have HG2 : Hid (dd = g) := by have := HG.out; rw [if_pos e1, if_pos e2] at this; exact this
      clear HG
      go_wp2_with (first | (go_at_call 40; refine (xnumber _ _ (by first | exact e1) _).mono ?_; rintro e w2 ⟨rfl, rfl⟩) | (go_at_call 142; refine (xrate _ _ (by first | exact e2) _).mono ?_; rintro e w2 ⟨rfl, rfl⟩) | (go_at_call 163; refine (HC.out _).mono ?_; rintro e w2 ⟨rfl, rfl⟩))
      go_ret
      exact KP.mk (by rw [← HG2.out]; rfl) HB.out
    · have e2 : inn m.rate (-1000000) 1000000 = false := by simpa using e2
      have HG2 : Hid (1 = g) := by have := HG.out; rw [if_pos e1, if_neg (ff e2)] at this; exact this
      clear HG
      go_wp2_with (first | (go_at_call 40; refine (xnumber _ _ (by first | exact e1) _).mono ?_; rintro e w2 ⟨rfl, rfl⟩) | (go_at_call 142; refine (xrate _ _ (by first | exact e2) _).mono ?_; rintro e w2 ⟨rfl, rfl⟩))
      go_ret
      exact KP.mk (by rw [← HG2.out]; rfl) HB.out
  · have e1 : amt m.tr = false := by simpa using e1
    have HG2 : Hid (1 = g) := by have := HG.out; rw [if_neg (ff e1)] at this; exact this
    clear HG
    go_wp2_with (first | (go_at_call 40; refine (xnumber _ _ (by first | exact e1) _).mono ?_; rintro e w2 ⟨rfl, rfl⟩) | (go_at_call 142; refine (xrate _ _ (by first | exact e2) _).mono ?_; rintro e w2 ⟨rfl, rfl⟩))
    go_ret
    exact KP.mk (by rw [← HG2.out]; rfl) HB.out
end Go.Proofs.YtdmlgheajblcdaaGreat
