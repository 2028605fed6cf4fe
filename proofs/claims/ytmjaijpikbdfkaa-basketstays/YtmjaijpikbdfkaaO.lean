/- layer 14: lacking, New, of, least, Left of both, Index, Contains, has -/
import Derived.Test.YtmjaijpikbdfkaaN
import Derived.WalkKit
import Derived.ProofKit
import Derived.Handy
import Derived.WalkLawsBesides
import Derived.WalkSpells
import Derived.BigQuiet
import Derived.BigCall
import Derived.Deep.QuietTactic
import Derived.Deep.Light
import Derived.Deep.OwnRows
import Derived.Laws.AppendOwnNone
import Derived.Laws.Strings3
import Derived.Laws.RangeAny
import Derived.Deep.RegionWith
import Derived.Lib.BitFns
import Derived.Lib.Walk
import Derived.Lib.Strings
import Derived.Lib.OthersKept
import Derived.Deep.CutBlock
import Derived.Deep.DeepCutAuto
import Derived.Deep.LoopGhost
import Derived.Deep.RegionHeld3
import Derived.Lib.SmallJoins
import Derived.Maps.AppendAt
import Derived.Laws.IdiomStrings
import Derived.Lib.AppendZeros
import Derived.Deep.WholeRow
import Derived.Laws.BitsAllLaws
import Derived.Lib.ConvBytes
import Derived.Deep.RegionLaw
import Derived.Maps.OwnSet
import Derived.Maps.OwnOps
import Derived.Maps.RangeWalk
import Derived.Maps.Ext
import Derived.DeepKeys4
import Derived.Laws.StructEq
import Derived.Deep.MidRow
import Derived.Lib.Bytealg
import Derived.Lib.Overlaps
import Derived.Lib.AppendZerosOnto
import Derived.Laws.MakeOwn
import Derived.Deep.Upon
namespace Go.Proofs.Ytmjaijpikbdfkaa
open Go.RowKit
set_option linter.unusedVariables false
set_option linter.unusedSimpArgs false
set_option maxRecDepth 20000
def acs (a : As) : Array Value := #[.string a.i, .int .i64 a.iss, .int .i64 a.rat, .int .i64 a.mat, .string a.c]
theorem xlack {w : World} {p m : Nat} (h : Bx w p #[.map (some m)] 57) : Calls Try.prog 41 #[.pointer (some ⟨p, 0, none⟩)] w (BP false w) := by
  have qm := run_eql_map_nil (P := Try.prog) w 55 3 34 (some m) Try.underlying55
  have c0 : w.cell? ⟨p, 0, none⟩ = some (.map (some m)) := h.cell 0
  clear h
  go_enter Try.func41, Try.ntmps41
  go_wp2_with fail
  go_ret
  exact ⟨rfl, rfl⟩
theorem xlack_zero {w : World} {p : Nat} (h : Bx w p #[.map none] 57) : Calls Try.prog 41 #[.pointer (some ⟨p, 0, none⟩)] w (BP true w) := by
  have qm := run_eql_map_nil (P := Try.prog) w 55 3 34 none Try.underlying55
  have c0 : w.cell? ⟨p, 0, none⟩ = some (.map none) := h.cell 0
  clear h
  go_enter Try.func41, Try.ntmps41
  go_wp2_with fail
  go_ret
  exact ⟨rfl, rfl⟩
theorem xlack_nil (w : World) : Calls Try.prog 41 #[.pointer none] w (BP true w) := by
  go_enter Try.func41, Try.ntmps41
  go_wp2_with fail
  go_ret
  exact ⟨rfl, rfl⟩
def NwP (w : World) (e : Ending) (w' : World) : Prop := e = .returned (.pointer (some ⟨w.heap.size + 1, 0, none⟩)) ∧ Hid (Bo (fun k => w.heap.size ≤ k) w' (w.heap.size + 1) w.heap.size [] ∧ Below w.heap.size w w')
theorem xnew (w : World) : Calls Try.prog 15 #[] w (NwP w) := by
  have hmm := @run_makeMap Try.prog
  have HL : Hid (Bo (fun k => w.heap.size ≤ k) ((w.alloc (.map #[] 0)).alloc (.cells #[.map (some w.heap.size)] 57)) (w.heap.size + 1) w.heap.size []) := by
    have h1 := Bo.new (F := fun k => w.heap.size ≤ k) (Mp.made w) (Nat.le_refl _) (by rw [World.size_alloc]; omega)
    rw [World.size_alloc] at h1
    exact h1
  have HB : Hid (Below w.heap.size w ((w.alloc (.map #[] 0)).alloc (.cells #[.map (some w.heap.size)] 57))) := ((Below.refl _ w).alloc (Nat.le_refl _) _).alloc (by simp) _
  go_enter Try.func15, Try.ntmps15
  go_wp2
  go_ret
  exact ⟨rfl, HL.out, HB.out⟩
theorem wf_of {n : Int} (h : -9223372036854775808 ≤ n) (h2 : n ≤ 9223372036854775807) : Wf n := by
  unfold Wf
  simp [Lit.wf]
  exact ⟨h, h2⟩
theorem xof {F : Nat → Prop} {w : World} {p m : Nat} {L : List En} (h : Bo F w p m L) (id : Int) (hid : Wf id) : Calls Try.prog 43 #[.pointer (some ⟨p, 0, none⟩), .int .i64 id] w fun e w' => e = .returned (gt (L.map kv) id) ∧ w = w' := by
  have HC : Hid (Calls Try.prog 41 #[.pointer (some ⟨p, 0, none⟩)] w (BP false w)) := xlack h.bx
  have k1 : (Instr.lookup 55 (.map (some m)) (.int .i64 id) false).run Try.prog w = .ok (gt (L.map kv) id) w := h.mp.look hid
  have c0 : w.cell? ⟨p, 0, none⟩ = some (.map (some m)) := h.bx.cell 0
  clear h
  generalize gt (L.map kv) id = v at *
  go_enter Try.func43, Try.ntmps43
  go_wp2_with (go_at_call 41; refine HC.out.mono ?_; rintro e w2 ⟨rfl, rfl⟩)
  go_ret
  exact ⟨rfl, rfl⟩
theorem xof_no {v : Value} {w : World} (h : Calls Try.prog 41 #[v] w (BP true w)) (id : Int) : Calls Try.prog 43 #[v, .int .i64 id] w fun e w' => e = .returned (.slice none 0 0) ∧ w = w' := by
  have HC : Hid (Calls Try.prog 41 #[v] w (BP true w)) := h
  clear h
  go_enter Try.func43, Try.ntmps43
  go_wp2_with (go_at_call 41; refine HC.out.mono ?_; rintro e w2 ⟨rfl, rfl⟩)
  go_ret
  exact ⟨rfl, rfl⟩
theorem xleast (x : Bm) (w : World) : Calls Try.prog 37 #[.agg (bcs x).toArray] w (KP (.int .i64 (max x.b.least 1)) w) := by
  have HB : Hid (∀ y, Below w.heap.size w (w.alloc y)) := fun y => below_a w y
  unfold bcs
  generalize hn : max x.b.least 1 = n
  have HN : Hid (n = max x.b.least 1) := hn.symm
  clear hn
  generalize x.b.least = l at *
  go_enter Try.func37, Try.ntmps37
  go_wp2_with fail
  go_ret
  exact KP.mk (congrArg (Value.int .i64) HN.out.symm) (HB.out _)
theorem xleft (a : As) (d : Int) (hm : 0 ≤ a.mat ∧ a.mat ≤ 200000) (w : World) : Calls Try.prog 36 #[.agg (acs a), .int .i64 d] w (KP (.int .i64 (leftN a.mat d)) w) := by
  have HB : Hid (∀ y, Below w.heap.size w (w.alloc y)) := fun y => below_a w y
  unfold leftN acs
  generalize a.mat = m at *
  by_cases h1 : d < 0
  · rw [if_pos (.inl h1)]
    go_enter Try.func36, Try.ntmps36
    go_wp2_with fail
    go_ret
    exact KP.mk rfl (HB.out _)
  by_cases h2 : 200000 < d
  · rw [if_pos (.inr h2)]
    go_enter Try.func36, Try.ntmps36
    go_wp2_with fail
    go_ret
    exact KP.mk rfl (HB.out _)
  · rw [if_neg (by omega)]
    go_enter Try.func36, Try.ntmps36
    go_wp2_with fail
    go_ret
    exact KP.mk rfl (HB.out _)
theorem rleft (a : As) (d : Int) (hm : 0 ≤ a.mat ∧ a.mat ≤ 200000) (w : World) : Calls Try.prog 34 #[.agg (acs a), .int .i64 d] w (KP (.int .i64 (leftN a.mat d)) w) := by
  have HB : Hid (∀ y, Below w.heap.size w (w.alloc y)) := fun y => below_a w y
  unfold leftN acs
  generalize a.mat = m at *
  by_cases h1 : d < 0
  · rw [if_pos (.inl h1)]
    go_enter Try.func34, Try.ntmps34
    go_wp2_with fail
    go_ret
    exact KP.mk rfl (HB.out _)
  by_cases h2 : 200000 < d
  · rw [if_pos (.inr h2)]
    go_enter Try.func34, Try.ntmps34
    go_wp2_with fail
    go_ret
    exact KP.mk rfl (HB.out _)
  · rw [if_neg (by omega)]
    go_enter Try.func34, Try.ntmps34
    go_wp2_with fail
    go_ret
    exact KP.mk rfl (HB.out _)
def IxP (g : Bool) (w : World) (e : Ending) (w' : World) : Prop := ∃ n : Int, e = .returned (.int .i64 n) ∧ Hid (decide (0 ≤ n) = g) ∧ w = w'
theorem IxP.mk {g : Bool} {w : World} {n : Int} (h : decide (0 ≤ n) = g) : IxP g w (.returned (.int .i64 n)) w := ⟨n, rfl, h, rfl⟩
theorem con_at {xs : List Int} {n : Int} {k : Nat} (h : k < xs.length) : (xs.drop k).contains n = (decide (n = xs[k]) || (xs.drop (k + 1)).contains n) := by
  rw [drop_at' h, List.contains_cons]
  congr 1
set_option maxHeartbeats 4000000 in
theorem xindex (xs : List Int) (a : Option Addr) (cap : Nat) (n : Int) (w : World) (hC : Ins w.heap.size w a xs) (hl : xs.length ≤ 1000000000000) (g : Bool) (hg : xs.contains n = g) : Calls Try.prog 49 #[.slice a xs.length cap, .int .i64 n] w (IxP g w) := by
  have HI : Hid (Ins w.heap.size w a xs) := hC
  have HG : Hid ((xs.drop 0).contains n = g) := hg
  clear hC hg
  go_enter Try.func49, Try.ntmps49
  go_wp2_with fail
  go_loopw [8] (fun i wr => ∃ (k : Nat), i = .int .i64 k ∧ k ≤ xs.length ∧ Hid ((xs.drop k).contains n = g) ∧ wr = w) (fun i _ => xs.length - (Lib.intOf i).toNat)
  case atStart => exact ⟨0, rfl, Nat.zero_le _, HG, rfl⟩
  case round =>
    clear HG
    obtain ⟨k, rfl, hk, HK, rfl⟩ := hrel
    by_cases hkn : k < xs.length
    · have hkz : (k : Int) < (xs.length : Int) := by omega
      obtain ⟨b, off, rfl, hbl, hce⟩ := HI.out (by omega)
      have hc1 := hce k hkn
      have HK2 : Hid ((decide (n = xs[k]) || (xs.drop (k + 1)).contains n) = g) := by unfold Hid; rw [← con_at hkn]; exact HK.out
      clear HK hce
      generalize xs[k] = x at *
      by_cases e1 : n = x
      · have HK3 : Hid (true = g) := by have := HK2.out; rw [decide_eq_true e1] at this; exact this
        clear HK2
        subst e1
        go_wp2_with fail
        go_ret
        exact IxP.mk (by rw [← HK3.out]; simp)
      · have HK3 : Hid ((xs.drop (k + 1)).contains n = g) := by have := HK2.out; rw [decide_eq_false e1] at this; exact this
        have e2 : (n == x) = false := by simpa using e1
        clear HK2
        go_wp2_with fail
        exact ⟨⟨k + 1, by go_num, by omega, HK3, trivial⟩, by simp [Lib.intOf]; omega⟩
    · have hkz : ¬ (k : Int) < (xs.length : Int) := by omega
      have HK3 : Hid (false = g) := by have := HK.out; rw [List.drop_of_length_le (by omega)] at this; exact this
      go_wp2_with fail
      go_ret
      exact IxP.mk HK3.out
theorem xcontainsB (xs : List Int) (a : Option Addr) (cap : Nat) (n : Int) (w : World) (hC : Ins w.heap.size w a xs) (hl : xs.length ≤ 1000000000000) (g : Bool) (hg : xs.contains n = g) : Calls Try.prog 38 #[.slice a xs.length cap, .int .i64 n] w (BP g w) := by
  have H1 : Hid (Calls Try.prog 49 #[.slice a xs.length cap, .int .i64 n] w (IxP g w)) := xindex xs a cap n w hC hl g hg
  clear hC hg
  go_enter Try.func38, Try.ntmps38
  go_wp2_with (go_at_call 49; refine H1.out.mono ?_; rintro e w2 ⟨i, rfl, HI, rfl⟩)
  go_ret
  exact BP.mk HI.out
set_option maxHeartbeats 4000000 in
theorem rhasB (xs : List Int) (a : Option Addr) (cap : Nat) (n : Int) (w : World) (hC : Ins w.heap.size w a xs) (hl : xs.length ≤ 1000000000000) (g : Bool) (hg : xs.contains n = g) : Calls Try.prog 35 #[.slice a xs.length cap, .int .i64 n] w (BP g w) := by
  have HI : Hid (Ins w.heap.size w a xs) := hC
  have HG : Hid ((xs.drop 0).contains n = g) := hg
  clear hC hg
  go_enter Try.func35, Try.ntmps35
  go_wp2_with fail
  go_loopw [5] (fun i wr => ∃ (k : Nat), i = .int .i64 k ∧ k ≤ xs.length ∧ Hid ((xs.drop k).contains n = g) ∧ wr = w) (fun i _ => xs.length - (Lib.intOf i).toNat)
  case atStart => exact ⟨0, rfl, Nat.zero_le _, HG, rfl⟩
  case round =>
    clear HG
    obtain ⟨k, rfl, hk, HK, rfl⟩ := hrel
    by_cases hkn : k < xs.length
    · have hkz : (k : Int) < (xs.length : Int) := by omega
      obtain ⟨b, off, rfl, hbl, hce⟩ := HI.out (by omega)
      have hc1 := hce k hkn
      have HK2 : Hid ((decide (n = xs[k]) || (xs.drop (k + 1)).contains n) = g) := by unfold Hid; rw [← con_at hkn]; exact HK.out
      clear HK hce
      generalize xs[k] = x at *
      by_cases e1 : n = x
      · have HK3 : Hid (true = g) := by have := HK2.out; rw [decide_eq_true e1] at this; exact this
        clear HK2
        subst e1
        go_wp2_with fail
        go_ret
        exact BP.mk HK3.out
      · have HK3 : Hid ((xs.drop (k + 1)).contains n = g) := by have := HK2.out; rw [decide_eq_false e1] at this; exact this
        have e2 : (x == n) = false := by simp; exact fun h => e1 h.symm
        clear HK2
        go_wp2_with fail
        exact ⟨⟨k + 1, by go_num, by omega, HK3, trivial⟩, by simp [Lib.intOf]; omega⟩
    · have hkz : ¬ (k : Int) < (xs.length : Int) := by omega
      have HK3 : Hid (false = g) := by have := HK.out; rw [List.drop_of_length_le (by omega)] at this; exact this
      go_wp2_with fail
      go_ret
      exact BP.mk HK3.out
theorem BP.kp {g : Bool} {w : World} {e : Ending} {w' : World} (h : BP g w e w') : KP (.bool g) w e w' := ⟨h.1, by rw [← h.2]; exact Below.refl _ _⟩
theorem rhas (xs : List Int) (a : Option Addr) (cap : Nat) (n : Int) (w : World) (hC : Ins w.heap.size w a xs) (hl : xs.length ≤ 1000000000000) (g : Bool) (hg : xs.contains n = g) : Calls Try.prog 35 #[.slice a xs.length cap, .int .i64 n] w (KP (.bool g) w) := (rhasB xs a cap n w hC hl g hg).mono fun _ _ h => h.kp
theorem xcontains (xs : List Int) (a : Option Addr) (cap : Nat) (n : Int) (w : World) (hC : Ins w.heap.size w a xs) (hl : xs.length ≤ 1000000000000) (g : Bool) (hg : xs.contains n = g) : Calls Try.prog 38 #[.slice a xs.length cap, .int .i64 n] w (KP (.bool g) w) := (xcontainsB xs a cap n w hC hl g hg).mono fun _ _ h => h.kp
end Go.Proofs.Ytmjaijpikbdfkaa
