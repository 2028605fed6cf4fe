/- layer 11: a new ledger, a balance, a post -/
import Derived.Test.YtbfnfebmmhhegaaH
import Derived.Test.YtbfnfebmmhhegaaG
import Derived.WalkKit
import Derived.ProofKit
import Derived.Handy
import Derived.WalkLawsBesides
import Derived.WalkSpells
import Derived.BigQuiet
import Derived.BigCall
import Derived.Deep.QuietTactic
import Derived.Deep.Light
import Derived.Deep.OwnRows
import Derived.Laws.AppendOwnNone
import Derived.Laws.Strings3
import Derived.Laws.RangeAny
import Derived.Deep.RegionWith
import Derived.Lib.BitFns
import Derived.Lib.Walk
import Derived.Lib.Strings
import Derived.Lib.OthersKept
import Derived.Deep.CutBlock
import Derived.Deep.DeepCutAuto
import Derived.Deep.LoopGhost
import Derived.Deep.RegionHeld3
import Derived.Lib.SmallJoins
import Derived.Maps.AppendAt
import Derived.Laws.IdiomStrings
import Derived.Lib.AppendZeros
import Derived.Deep.WholeRow
import Derived.Laws.BitsAllLaws
import Derived.Lib.ConvBytes
import Derived.Deep.RegionLaw
import Derived.Maps.OwnSet
import Derived.Maps.OwnOps
import Derived.Maps.RangeWalk
import Derived.Maps.Ext
import Derived.DeepKeys4
import Derived.Laws.StructEq
namespace Go.Proofs.Ytbfnfebmmhhegaa
open Go.RowKit
set_option linter.unusedVariables false
set_option linter.unusedSimpArgs false
theorem xnew (w : World) : Calls Try.prog 35 #[] w fun e w' => e = .returned (.pointer (some ⟨w.heap.size + 1, 0, none⟩)) ∧ Lg w' (w.heap.size + 1) w.heap.size [] ∧ Below w.heap.size w w' := by
  have hmm := @run_makeMap Try.prog
  have HL : Hid (Lg ((w.alloc (.map #[] 0)).alloc (.cells #[.map (some w.heap.size)] 109)) (w.heap.size + 1) w.heap.size []) := by
    have h1 := Bx.new (w.alloc (.map #[] 0)) #[.map (some w.heap.size)] 109
    rw [World.size_alloc] at h1
    exact ⟨h1, (Mp.made w).kept (grown_alloc _ _ none) (by simp)⟩
  have HB : Hid (Below w.heap.size w ((w.alloc (.map #[] 0)).alloc (.cells #[.map (some w.heap.size)] 109))) := ((Below.refl _ w).alloc (Nat.le_refl _) _).alloc (by simp) _
  go_enter Try.func35, Try.ntmps35
  go_wp2
  go_ret
  exact ⟨rfl, HL.out, HB.out⟩
set_option maxRecDepth 20000 in
set_option maxHeartbeats 1000000 in
theorem xbal (q m : Nat) (L : List Num.Bal) (o b : Int) (s : ByteArray) (ha : Wa (o, b, s.toList)) (w : World) (h : Lg w q m L) : Calls Try.prog 42 #[.pointer (some ⟨q, 0, none⟩), .agg #[.int .i64 o, .int .i64 b, .string s]] w fun e w' => e = .returned (.int .i64 (Num.get L (o, b, s.toList))) ∧ Below w.heap.size w w' := by
  obtain ⟨w1, hw1⟩ : ∃ w1, w1 = w.alloc (.cells #[.int .i64 o, .int .i64 b, .string s] 69) := ⟨_, rfl⟩
  have HW : Hid (w.alloc (.cells #[.int .i64 o, .int .i64 b, .string s] 69) = w1) := hw1.symm
  have hX : Bx w1 w.heap.size #[.int .i64 o, .int .i64 b, .string s] 69 := by rw [hw1]; exact Bx.new w _ _
  have hL : Lg w1 q m L := by rw [hw1]; exact h.alloc _
  have HB : Hid (∀ k, Below w.heap.size w (w1.drewN k)) := by intro k; rw [hw1]; exact ((Below.refl _ w).alloc (Nat.le_refl _) _).trans ⟨rfl, rfl, rfl, Nat.le_refl _, fun _ _ => rfl⟩
  have HC : Hid (Calls Try.prog 60 #[.pointer (some ⟨q, 0, none⟩)] w1 fun e w' => e = .returned (.bool false) ∧ w' = w1) := xlack q m L w1 hL
  have k1 : ∀ k, (Instr.lookup 107 (.map (some m)) (.agg #[.int .i64 o, .int .i64 b, .string s]) false).run Try.prog (w1.drewN k) = .ok (.int .i64 (Num.get L (o, b, s.toList))) (w1.drewN k) := fun k => (hL.drewN k).m.look' ha
  have cq : w1.cell? ⟨q, 0, none⟩ = some (.map (some m)) := hL.b.cell 0
  have c0 : w1.cell? ⟨w.heap.size, 0, none⟩ = some (.int .i64 o) := hX.cell 0
  have c1 : w1.cell? ⟨w.heap.size, 1, none⟩ = some (.int .i64 b) := hX.cell 1
  have c2 : w1.cell? ⟨w.heap.size, 2, none⟩ = some (.string s) := hX.cell 2
  generalize Num.get L (o, b, s.toList) = G at *
  clear hX hL hw1 h ha
  go_enter Try.func42, Try.ntmps42
  go_upto_region 1 with fail
  rw [HW.out]
  go_wp2_with (go_at_call 60; refine HC.out.mono ?_; rintro e w2 ⟨rfl, rfl⟩)
  go_quiet (fail)
  go_wp2_with fail
  go_ret
  exact ⟨rfl, HB.out _⟩
theorem whyf_okx {L : List Num.Bal} : ∀ (xs : List Ex), Num.whyf L (xs.map Ex.ent) = 0 → ∃ ys : List Ok7, ys.map (·.1) = xs := by
  intro xs
  induction xs generalizing L with
  | nil => exact fun _ => ⟨[], rfl⟩
  | cons x r ih =>
    intro h
    by_cases c : Num.flt L x.ent = 0
    · simp only [List.map_cons, Num.whyf, if_pos c] at h
      obtain ⟨ys, hy⟩ := ih h
      have f := Num.flt_ok c
      exact ⟨⟨x, ⟨f.a1, f.a2, f.wf, f.wt⟩⟩ :: ys, by simp [hy]⟩
    · simp only [List.map_cons, Num.whyf, if_neg c] at h
      exact absurd h c
theorem Es.take {B m : Nat} {w : World} {a : Option Addr} {n cap : Nat} {xs : List Ex} (h : Es B m w (.slice a n cap) xs) {k : Nat} (hk : k ≤ xs.length) : Es B m w (.slice a k cap) (xs.take k) := by
  obtain ⟨p, c, e, h1⟩ := h
  injection e with e1 e2 e3
  subst e1 e3
  have hl : (xs.take k).length = k := by simp; omega
  refine ⟨a, cap, by rw [hl], fun h2 => ?_⟩
  obtain ⟨blk, off, rfl, h3, h4, h5⟩ := h1 (by omega)
  exact ⟨blk, off, rfl, h3, h4, fun i hi j hj => by have := h5 i (by omega) j hj; simpa using this⟩
def PostP (q m : Nat) (L : List Num.Bal) (n e : Int) (w : World) (x : Ending) (w' : World) : Prop := x = .returned (.tuple #[.int .i64 n, .int .i64 e]) ∧ Lg w' q m L ∧ w.grownBy w' (some m)
end Go.Proofs.Ytbfnfebmmhhegaa
