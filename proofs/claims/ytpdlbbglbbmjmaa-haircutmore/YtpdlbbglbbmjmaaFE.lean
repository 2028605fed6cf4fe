/- Walks of the sums of package fixnum and of the reference. Conditions: what the slice holds are ints. -/
import Derived.Test.YtpdlbbglbbmjmaaFD
import Derived.WalkKit
import Derived.ProofKit
import Derived.Handy
import Derived.WalkLawsBesides
import Derived.WalkSpells
import Derived.BigQuiet
import Derived.Deep.QuietTactic
import Derived.Deep.Light
import Derived.Deep.OwnRows
import Derived.Laws.AppendOwnNone
import Derived.Deep.RegionWith
import Derived.Lib.BitFns
import Derived.Lib.Walk
import Derived.Deep.CutBlock
import Derived.Deep.DeepCutAuto
import Derived.Deep.LoopGhost
import Derived.Deep.RegionHeld
namespace Go.Proofs.Ytpdlbbglbbmjmaa.N1
open Go.RowKit
set_option linter.unusedVariables false
set_option linter.unusedSimpArgs false

/-- a slice value whose elements read as these ints -/
def Seg (w : World) (v : Value) (xs : List Int) : Prop :=
  ∃ a cap, v = .slice a xs.length cap ∧ (xs ≠ [] → ∃ b off, a = some ⟨b, off, none⟩ ∧ b < w.heap.size ∧ ∀ j, j < xs.length → w.cell? ⟨b, off + j, none⟩ = some (.int .i64 (xs.getD j 0)))
/-- all are ints; the length is one -/
def Ints (xs : List Int) : Prop := (∀ j, -9223372036854775808 ≤ xs.getD j 0 ∧ xs.getD j 0 ≤ 9223372036854775807) ∧ xs.length ≤ 9223372036854775807

theorem Seg.below {w w' : World} {v : Value} {xs : List Int} (h : Seg w v xs) (hb : Below w.heap.size w w') : Seg w' v xs := by
  obtain ⟨a, cap, rfl, h2⟩ := h
  refine ⟨a, cap, rfl, fun hx => ?_⟩
  obtain ⟨b, off, rfl, hlt, hc⟩ := h2 hx
  exact ⟨b, off, rfl, Nat.lt_of_lt_of_le hlt hb.size, fun j hj => (hb.cell (by exact hlt)).trans (hc j hj)⟩

/-- the sum, from s on: what it is, and its error -/
def sumS (s : Int) : List Int → Int
  | [] => s
  | x :: xs => if -9223372036854775808 ≤ s + x ∧ s + x ≤ 9223372036854775807 then sumS (s + x) xs else 0
def sumE (s : Int) : List Int → Int
  | [] => 0
  | x :: xs => if -9223372036854775808 ≤ s + x ∧ s + x ≤ 9223372036854775807 then sumE (s + x) xs else 9

theorem drop_getD (xs : List Int) (k : Nat) (h : k < xs.length) : xs.drop k = xs.getD k 0 :: xs.drop (k + 1) := by
  rw [List.drop_eq_getElem_cons h]
  simp [h]

theorem sum_step (s : Int) (xs : List Int) (k : Nat) (h : k < xs.length) (hf : -9223372036854775808 ≤ s + xs.getD k 0 ∧ s + xs.getD k 0 ≤ 9223372036854775807) :
    sumS s (xs.drop k) = sumS (s + xs.getD k 0) (xs.drop (k + 1)) ∧ sumE s (xs.drop k) = sumE (s + xs.getD k 0) (xs.drop (k + 1)) := by
  rw [drop_getD xs k h]
  exact ⟨if_pos hf, if_pos hf⟩
theorem sum_over (s : Int) (xs : List Int) (k : Nat) (h : k < xs.length) (hf : ¬ (-9223372036854775808 ≤ s + xs.getD k 0 ∧ s + xs.getD k 0 ≤ 9223372036854775807)) :
    sumS s (xs.drop k) = 0 ∧ sumE s (xs.drop k) = 9 := by
  rw [drop_getD xs k h]
  exact ⟨if_neg hf, if_neg hf⟩
theorem sum_end (s : Int) (xs : List Int) : sumS s (xs.drop xs.length) = s ∧ sumE s (xs.drop xs.length) = 0 := by
  rw [List.drop_length]
  exact ⟨rfl, rfl⟩

def SumPost (xs : List Int) (w : World) (e : Ending) (w' : World) : Prop :=
  e = .returned (.tuple #[.int .i64 (sumS 0 xs), .int .i64 (sumE 0 xs)]) ∧ w = w'

/-- no more than 64, and none below 0 -/
def goodB (xs : List Int) : Bool := decide (xs.length ≤ 64) && xs.all (fun x => decide (0 ≤ x))

theorem goodB_long (xs : List Int) (h : 64 < xs.length) : goodB xs = false := by
  unfold goodB
  rw [decide_eq_false (by omega)]
  rfl
theorem goodB_neg (xs : List Int) (k : Nat) (h : k < xs.length) (hn : xs.getD k 0 < 0) : goodB xs = false := by
  unfold goodB
  have : xs.all (fun x => decide (0 ≤ x)) = false := by
    rw [List.all_eq_false]
    exact ⟨xs.getD k 0, by simp [h], by simp; simp at hn; omega⟩
  rw [this, Bool.and_false]
theorem goodB_all (xs : List Int) (h : xs.length ≤ 64) (hn : ∀ j, j < xs.length → 0 ≤ xs.getD j 0) : goodB xs = true := by
  unfold goodB
  rw [decide_eq_true h, Bool.true_and, List.all_eq_true]
  intro x hx
  obtain ⟨j, hj, rfl⟩ := List.mem_iff_getElem.1 hx
  have := hn j hj
  simp [hj] at this
  simp [this]
theorem goodB_iff (xs : List Int) (h : goodB xs = true) : xs.length ≤ 64 ∧ ∀ j, 0 ≤ xs.getD j 0 := by
  unfold goodB at h
  rw [Bool.and_eq_true, List.all_eq_true] at h
  refine ⟨of_decide_eq_true h.1, fun j => ?_⟩
  by_cases hj : j < xs.length
  · have := h.2 xs[j] (List.getElem_mem hj)
    simp [hj]
    exact of_decide_eq_true this
  · simp [hj]

def GoodPost (xs : List Int) (w : World) (e : Ending) (w' : World) : Prop := e = .returned (.bool (goodB xs)) ∧ w = w'
end Go.Proofs.Ytpdlbbglbbmjmaa.N1
