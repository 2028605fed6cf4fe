/- Layer 10: what is wrong with a lot, with prices, with a swap, by the program. -/
import Derived.Test.YtdmlgheajblcdaaGreatMQ
import Derived.WalkKit
import Derived.ProofKit
import Derived.Handy
import Derived.WalkLawsBesides
import Derived.WalkSpells
import Derived.BigQuiet
import Derived.BigCall
import Derived.Deep.QuietTactic
import Derived.Deep.Light
import Derived.Deep.OwnRows
import Derived.Laws.AppendOwnNone
import Derived.Laws.Strings3
import Derived.Laws.RangeAny
import Derived.Deep.RegionWith
import Derived.Lib.BitFns
import Derived.Lib.Walk
import Derived.Lib.Strings
import Derived.Lib.OthersKept
import Derived.Deep.CutBlock
import Derived.Deep.DeepCutAuto
import Derived.Deep.LoopGhost
import Derived.Deep.RegionHeld3
import Derived.Lib.SmallJoins
import Derived.Maps.AppendAt
import Derived.Laws.IdiomStrings
import Derived.Lib.AppendZeros
import Derived.Deep.WholeRow
import Derived.Laws.BitsAllLaws
import Derived.Lib.ConvBytes
import Derived.Deep.RegionLaw
namespace Go.Proofs.YtdmlgheajblcdaaGreat
open Go.RowKit
set_option linter.unusedVariables false
set_option linter.unusedSimpArgs false
set_option maxRecDepth 20000
theorem xlot (l : Lt) (hs : l.i.length ≤ 9223372036854775807) (g : Nat) (hg : lotE C0 l = g) (w : World) : Calls Tryz.prog 149 #[.agg #[.string ⟨l.i.toArray⟩, .int .i64 l.q]] w (KP (.int .i64 g) w) := by
  have HB : Hid (Below w.heap.size w (w.alloc (.cells #[.string ⟨l.i.toArray⟩, .int .i64 l.q] 32))) := below_a w _
  have HC : Hid (∀ w, Calls Tryz.prog 151 #[.string ⟨l.i.toArray⟩] w (NP .i64 (C0.is l.i : Nat) w)) := fun w => xisin l.i hs _ rfl w
  unfold lotE at hg
  by_cases e1 : amt l.q = true
  · rw [if_pos e1] at hg
    subst hg
    generalize C0.is l.i = g at *
    go_enter Tryz.func149, Tryz.ntmps149
    go_wp2_with (first | (go_at_call 141; refine (xamount _ _ e1 _).mono ?_; rintro e w2 ⟨rfl, rfl⟩) | (go_at_call 151; refine (HC.out _).mono ?_; rintro e w2 ⟨rfl, rfl⟩))
    go_ret
    exact KP.mk rfl HB.out
  · have e1 : amt l.q = false := by simpa using e1
    rw [if_neg (ff e1)] at hg
    subst hg
    go_enter Tryz.func149, Tryz.ntmps149
    go_wp2_with (go_at_call 141; refine (xamount _ _ e1 _).mono ?_; rintro e w2 ⟨rfl, rfl⟩)
    go_ret
    exact KP.mk rfl HB.out
theorem lotsE_at {xs : List Lt} {k : Nat} (h : k < xs.length) : lotsE C0 (xs.drop k) = if lotE C0 xs[k] = 0 then lotsE C0 (xs.drop (k + 1)) else lotE C0 xs[k] := by
  rw [drop_at' h]; rfl
set_option maxHeartbeats 4000000 in
theorem check11 (m : Mg) (pa ia ca ba : Option Addr) (pc ic cc bc : Nat) (w : World) (hL : Lts w.heap.size w ia m.ins) (ho : m.out.i.length ≤ 9223372036854775807) (hi : ∀ y ∈ m.ins, y.i.length ≤ 9223372036854775807) (hl : m.ins.length ≤ 9223372036854775807) (g : Nat) (hg : (if mbr m.mem = true then if amt m.tr = true then if decide (m.ins.length ≤ 64) = true then lotsE C0 (m.out :: m.ins) else 1 else 1 else 1) = g) : Calls Tryz.prog 147 #[.agg #[.int .i64 m.mem, .int .i64 m.tr, .string ⟨m.out.i.toArray⟩, .int .i64 m.out.q, .slice ia m.ins.length ic]] w (KP (.int .i64 g) w) := by
  have HG : Hid ((if mbr m.mem = true then if amt m.tr = true then if decide (m.ins.length ≤ 64) = true then lotsE C0 (m.out :: m.ins) else 1 else 1 else 1) = g) := hg
  have HB : Hid (Below w.heap.size w (w.alloc (.cells #[.int .i64 m.mem, .int .i64 m.tr, .string ⟨m.out.i.toArray⟩, .int .i64 m.out.q, .slice ia m.ins.length ic] 67))) := below_a w _
  have HI : Hid (Lts w.heap.size w ia m.ins) := hL
  have HS : Hid (∀ y ∈ m.ins, y.i.length ≤ 9223372036854775807) := hi
  have HO : Hid (∀ w, Calls Tryz.prog 149 #[.agg #[.string ⟨m.out.i.toArray⟩, .int .i64 m.out.q]] w (KP (.int .i64 (lotE C0 m.out : Nat)) w)) := fun w => xlot m.out ho _ rfl w
  have HX : Hid (Bx (w.alloc (.cells #[.int .i64 m.mem, .int .i64 m.tr, .string ⟨m.out.i.toArray⟩, .int .i64 m.out.q, .slice ia m.ins.length ic] 67)) w.heap.size #[.int .i64 m.mem, .int .i64 m.tr, .string ⟨m.out.i.toArray⟩, .int .i64 m.out.q, .slice ia m.ins.length ic] 67) := Bx.new _ _ _
  clear hg hL hi ho
  by_cases e1 : mbr m.mem = true
  · by_cases e2 : amt m.tr = true
    · by_cases e3 : decide (m.ins.length ≤ 64) = true
      · have e3n : ¬ (m.ins.length : Int) > 64 := by have := of_decide_eq_true e3; omega
        have HG1 : Hid ((if lotE C0 m.out = 0 then lotsE C0 m.ins else lotE C0 m.out) = g) := by have := HG.out; rw [if_pos e1, if_pos e2, if_pos e3] at this; exact this
        clear HG
        generalize lotE C0 m.out = lo at *
        go_enter Tryz.func147, Tryz.ntmps147
        go_wp2_with (first | (go_at_call 140; refine (xmember _ _ e1 _).mono ?_; rintro e w2 ⟨rfl, rfl⟩) | (go_at_call 40; refine (xnumber _ _ e2 _).mono ?_; rintro e w2 ⟨rfl, rfl⟩))
        refine (HO.out _).mono ?_
        rintro e w2 ⟨rfl, hb2⟩
        have HB2 : Hid (Below w.heap.size w w2) := bt HB.out hb2.out
        have x4 : w2.cell? ⟨w.heap.size, 4, none⟩ = some (.slice ia m.ins.length ic) := (HX.out.keep hb2.out).cell 4
        clear hb2 HB HX HO
        by_cases e4 : lo = 0
        · have HG2 : Hid (lotsE C0 m.ins = g) := by have := HG1.out; rw [if_pos e4] at this; exact this
          have z4 : ((lo : Int) != 0) = false := by rw [e4]; rfl
          clear HG1 e4
          go_wp2_with fail
          clear x4
          go_loopw [32] (fun i wr => ∃ (k : Nat), i = .int .i64 k ∧ k ≤ m.ins.length ∧ Hid (lotsE C0 (m.ins.drop k) = g) ∧ Hid (Below w.heap.size w wr)) (fun i _ => m.ins.length - (Lib.intOf i).toNat)
          case atStart => exact ⟨0, rfl, Nat.zero_le _, HG2, HB2⟩
          case round =>
            clear HG2 HB2
            obtain ⟨k, rfl, hk, HK, HBw⟩ := hrel
            by_cases hkn : k < m.ins.length
            · have hkz : (k : Int) < (m.ins.length : Int) := by omega
              obtain ⟨b, off, rfl, hbl, hce⟩ := HI.out (by omega)
              have hc1 : wr.cell? ⟨b, off + k * 2, none⟩ = some (.string ⟨m.ins[k].i.toArray⟩) := (HBw.out.cell (by exact hbl)).trans (hce k hkn).1
              have hc2 : wr.cell? ⟨b, off + k * 2 + 1, none⟩ = some (.int .i64 m.ins[k].q) := (HBw.out.cell (by exact hbl)).trans (hce k hkn).2
              have HC : Hid (∀ w, Calls Tryz.prog 149 #[.agg #[.string ⟨m.ins[k].i.toArray⟩, .int .i64 m.ins[k].q]] w (KP (.int .i64 (lotE C0 m.ins[k] : Nat)) w)) := fun w => xlot m.ins[k] (HS.out _ (List.getElem_mem hkn)) _ rfl w
              have HK2 : Hid ((if lotE C0 m.ins[k] = 0 then lotsE C0 (m.ins.drop (k + 1)) else lotE C0 m.ins[k]) = g) := by unfold Hid; rw [← lotsE_at hkn]; exact HK.out
              have HBa : Hid (∀ o, Below w.heap.size w (wr.alloc o)) := fun o => HBw.out.alloc HBw.out.size _
              clear HK hce
              generalize lotE C0 m.ins[k] = lk at *
              generalize (⟨m.ins[k].i.toArray⟩ : ByteArray) = X at *
              generalize m.ins[k].q = q at *
              go_wp2_with fail
              refine (HC.out _).mono ?_
              rintro e w5 ⟨rfl, hb5⟩
              have HB5 : Hid (Below w.heap.size w w5) := bt (HBa.out _) hb5.out
              clear hb5
              by_cases e5 : lk = 0
              · have HK3 : Hid (lotsE C0 (m.ins.drop (k + 1)) = g) := by have := HK2.out; rw [if_pos e5] at this; exact this
                have z5 : ((lk : Int) != 0) = false := by rw [e5]; rfl
                clear HK2 e5
                go_wp2_with fail
                exact ⟨⟨k + 1, by go_num, by omega, HK3, HB5⟩, by simp [Lib.intOf]; omega⟩
              · have HK3 : Hid (lk = g) := by have := HK2.out; rw [if_neg e5] at this; exact this
                have z5 : ((lk : Int) != 0) = true := by rw [bne_iff_ne]; omega
                clear HK2 e5
                go_wp2_with fail
                go_ret
                exact KP.mk (by rw [← HK3.out]; rfl) HB5.out
            · have hkz : ¬ (k : Int) < (m.ins.length : Int) := by omega
              have HK3 : Hid (0 = g) := by have := HK.out; rw [List.drop_of_length_le (by omega)] at this; exact this
              clear HK
              go_wp2_with fail
              go_ret
              exact KP.mk (by rw [← HK3.out]; rfl) HBw.out
        · have HG2 : Hid (lo = g) := by have := HG1.out; rw [if_neg e4] at this; exact this
          have z4 : ((lo : Int) != 0) = true := by rw [bne_iff_ne]; omega
          clear HG1 e4
          go_wp2_with fail
          go_ret
          exact KP.mk (by rw [← HG2.out]; rfl) HB2.out
      · have e3 : decide (m.ins.length ≤ 64) = false := by simpa using e3
        have e3n : (m.ins.length : Int) > 64 := by have := of_decide_eq_false e3; omega
        go_enter Tryz.func147, Tryz.ntmps147
        have HG2 : Hid (1 = g) := by have := HG.out; rw [if_pos e1, if_pos e2, if_neg (ff e3)] at this; exact this
        clear HG
        go_wp2_with (first | (go_at_call 140; refine (xmember _ _ e1 _).mono ?_; rintro e w2 ⟨rfl, rfl⟩) | (go_at_call 40; refine (xnumber _ _ e2 _).mono ?_; rintro e w2 ⟨rfl, rfl⟩))
        go_ret
        exact KP.mk (by rw [← HG2.out]; rfl) HB.out
    · have e2 : amt m.tr = false := by simpa using e2
      go_enter Tryz.func147, Tryz.ntmps147
      have HG2 : Hid (1 = g) := by have := HG.out; rw [if_pos e1, if_neg (ff e2)] at this; exact this
      clear HG
      go_wp2_with (first | (go_at_call 140; refine (xmember _ _ e1 _).mono ?_; rintro e w2 ⟨rfl, rfl⟩) | (go_at_call 40; refine (xnumber _ _ e2 _).mono ?_; rintro e w2 ⟨rfl, rfl⟩))
      go_ret
      exact KP.mk (by rw [← HG2.out]; rfl) HB.out
  · have e1 : mbr m.mem = false := by simpa using e1
    go_enter Tryz.func147, Tryz.ntmps147
    have HG2 : Hid (1 = g) := by have := HG.out; rw [if_neg (ff e1)] at this; exact this
    clear HG
    go_wp2_with (first | (go_at_call 140; refine (xmember _ _ e1 _).mono ?_; rintro e w2 ⟨rfl, rfl⟩) | (go_at_call 40; refine (xnumber _ _ e2 _).mono ?_; rintro e w2 ⟨rfl, rfl⟩))
    go_ret
    exact KP.mk (by rw [← HG2.out]; rfl) HB.out
end Go.Proofs.YtdmlgheajblcdaaGreat
