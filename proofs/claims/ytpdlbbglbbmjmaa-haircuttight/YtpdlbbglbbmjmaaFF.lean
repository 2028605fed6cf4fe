/- Rows of numbers in memory; walks of the comparison of two lists and of the giving out of what is left. Conditions: what the lists hold are ints. -/
import Derived.Test.YtpdlbbglbbmjmaaFE
import Derived.WalkKit
import Derived.ProofKit
import Derived.Handy
import Derived.WalkLawsBesides
import Derived.WalkSpells
import Derived.BigQuiet
import Derived.Deep.QuietTactic
import Derived.Deep.Light
import Derived.Deep.OwnRows
import Derived.Laws.AppendOwnNone
import Derived.Deep.RegionWith
import Derived.Lib.BitFns
import Derived.Lib.Walk
import Derived.Deep.CutBlock
import Derived.Deep.DeepCutAuto
import Derived.Deep.LoopGhost
import Derived.Deep.RegionHeld
namespace Go.Proofs.Ytpdlbbglbbmjmaa.N1
open Go.RowKit
set_option linter.unusedVariables false
set_option linter.unusedSimpArgs false

/-- block g holds these numbers, and nothing else -/
def Row (w : World) (g : Nat) (k : IntKind) (E : TypeId) (xs : List Int) : Prop := w.heap[g]? = some (.cells (xs.map (Value.int k)).toArray E (0, 0))

section
variable {w w' : World} {g : Nat} {k : IntKind} {E : TypeId} {xs : List Int}
theorem Row.lt (h : Row w g k E xs) : g < w.heap.size := (Array.getElem?_eq_some_iff.1 h).1
theorem Row.cell (h : Row w g k E xs) (j : Nat) (hj : j < xs.length) : w.cell? ⟨g, j, none⟩ = some (.int k (xs.getD j 0)) := by
  unfold Row at h
  simp [World.cell?, h, hj]
theorem Row.frozen (h : Row w g k E xs) (j : Nat) : w.frozen? ⟨g, j, none⟩ = false := by
  unfold Row at h
  simp [World.frozen?, h]
theorem Row.set (h : Row w g k E xs) (j : Nat) (u : Int) : Row (w.setCell ⟨g, j, none⟩ (.int k u)) g k E (xs.set j u) := by
  unfold Row at h ⊢
  simp [World.setCell, Array.getElem?_modify, h, List.map_set]
theorem Row.below {B : Nat} (h : Row w g k E xs) (hb : Below B w w') (hg : g < B) : Row w' g k E xs := (hb.block g hg).trans h
theorem Row.drewN (h : Row w g k E xs) (n : Nat) : Row (w.drewN n) g k E xs := h
theorem Row.other (h : Row w g k E xs) (b j : Nat) (u : Value) (hb : b ≠ g) : Row (w.setCell ⟨b, j, none⟩ u) g k E xs := by
  unfold Row at h ⊢
  rw [Below.heap_setCell _ _ _ _ (by exact fun e => hb e.symm)]
  exact h
theorem Row.alloc (h : Row w g k E xs) (o : Obj) : Row (w.alloc o) g k E xs := (Below.heap_alloc w o g h.lt).trans h
theorem Row.new (w : World) (xs : List Int) (k : IntKind) (E : TypeId) : Row (w.alloc (.cells (xs.map (Value.int k)).toArray E)) w.heap.size k E xs := by
  exact heap_alloc_new w _
theorem Row.seg (h : Row w g .i64 E xs) (cap : Nat) : Seg w (.slice (some ⟨g, 0, none⟩) xs.length cap) xs :=
  ⟨_, cap, rfl, fun _ => ⟨g, 0, rfl, h.lt, fun j hj => by rw [Nat.zero_add]; exact h.cell j hj⟩⟩
end

/-- nothing but block g has turned -/
structure Only (g : Nat) (w w' : World) : Prop where
  os : w'.os = w.os
  tape : w'.tape = w.tape
  output : w'.output = w.output
  size : w'.heap.size = w.heap.size
  block : ∀ k, k ≠ g → w'.heap[k]? = w.heap[k]?
theorem Only.refl (g : Nat) (w : World) : Only g w w := ⟨rfl, rfl, rfl, rfl, fun _ _ => rfl⟩
theorem Only.set {g : Nat} {a w : World} (h : Only g a w) (j : Nat) (u : Value) : Only g a (w.setCell ⟨g, j, none⟩ u) :=
  ⟨h.os, h.tape, h.output, by simp [World.setCell, h.size], fun k hk => (Below.heap_setCell _ _ _ _ hk).trans (h.block k hk)⟩
theorem Only.drewN {g : Nat} {a w : World} (h : Only g a w) (n : Nat) : Only g a (w.drewN n) := ⟨h.os, h.tape, h.output, h.size, h.block⟩
theorem Only.below {g B : Nat} {a w w' : World} (h : Only g w w') (hB : Below B a w) (hg : B ≤ g) : Below B a w' :=
  hB.trans ⟨h.os, h.tape, h.output, Nat.le_of_eq h.size.symm, fun k hk => h.block k (by omega)⟩
theorem Only.cell {g : Nat} {w w' : World} (h : Only g w w') {p : Addr} (hp : p.block ≠ g) : w'.cell? p = w.cell? p := World.cell?_of_block (w := w) (h.block p.block hp)

/-- what is left, given out, 1 to each with a weight -/
def giveS : List Int → List Int → Int → List Int
  | y :: ys, x :: xs, l => if l = 0 then y :: ys else if 0 < x then (y + 1) :: giveS ys xs (l - 1) else y :: giveS ys xs l
  | ys, _, _ => ys

theorem giveS_zero (ys xs : List Int) : giveS ys xs 0 = ys := by
  cases ys <;> cases xs <;> simp [giveS]

theorem take_getD (xs : List Int) (k : Nat) (h : k < xs.length) : xs.take (k + 1) = xs.take k ++ [xs.getD k 0] := by
  rw [List.take_add_one]
  simp [h]

def IntsPost (xs ys : List Int) (w : World) (e : Ending) (w' : World) : Prop := e = .returned (.bool (decide (xs = ys))) ∧ ∃ n, w' = w.drewN n

/-- what the loop of giveOut keeps -/
def GiveRel (ys xs : List Int) (l : Int) (g : Nat) (w : World) (k : Nat) (t : Int) (zs : List Int) (wr : World) : Prop :=
  zs.length = xs.length ∧ Row wr g .i64 3 zs ∧ Only g w wr ∧ giveS ys xs l = zs.take k ++ giveS (zs.drop k) (xs.drop k) t ∧ (∀ j, 0 ≤ zs.getD j 0) ∧ (∀ j, k ≤ j → zs.getD j 0 + t ≤ 9223372036854775807)

theorem GiveRel.start {ys xs : List Int} {l : Int} {g : Nat} {w : World} (he : ys.length = xs.length) (hy : ∀ j, 0 ≤ ys.getD j 0 ∧ ys.getD j 0 + l ≤ 9223372036854775807) (hrow : Row w g .i64 3 ys) : GiveRel ys xs l g w 0 l ys w :=
  ⟨he, hrow, Only.refl _ _, by simp, fun j => (hy j).1, fun j _ => (hy j).2⟩
theorem GiveRel.stop {ys xs : List Int} {l : Int} {g : Nat} {w : World} {k : Nat} {zs : List Int} {wr : World} (h : GiveRel ys xs l g w k 0 zs wr) : Row wr g .i64 3 (giveS ys xs l) ∧ Only g w wr := by
  obtain ⟨_, h2, h3, h4, _⟩ := h
  rw [giveS_zero, List.take_append_drop] at h4
  rw [h4]
  exact ⟨h2, h3⟩
theorem GiveRel.done {ys xs : List Int} {l : Int} {g : Nat} {w : World} {t : Int} {zs : List Int} {wr : World} (h : GiveRel ys xs l g w xs.length t zs wr) : Row wr g .i64 3 (giveS ys xs l) ∧ Only g w wr := by
  obtain ⟨h1, h2, h3, h4, _⟩ := h
  rw [← h1, List.take_length, List.drop_length] at h4
  simp [giveS] at h4
  rw [h4]
  exact ⟨h2, h3⟩
theorem GiveRel.no {ys xs : List Int} {l : Int} {g : Nat} {w : World} {k : Nat} {t : Int} {zs : List Int} {wr : World} (h : GiveRel ys xs l g w k t zs wr) (hk : k < xs.length) (ht : t ≠ 0) (hx : ¬ 0 < xs.getD k 0) : GiveRel ys xs l g w (k + 1) t zs wr := by
  obtain ⟨h1, h2, h3, h4, h5, h6⟩ := h
  refine ⟨h1, h2, h3, ?_, h5, fun j hj => h6 j (by omega)⟩
  rw [h4, drop_getD zs k (by omega), drop_getD xs k hk, giveS, if_neg ht, if_neg hx, take_getD zs k (by omega), List.append_assoc]
  rfl
theorem GiveRel.yes {ys xs : List Int} {l : Int} {g : Nat} {w : World} {k : Nat} {t : Int} {zs : List Int} {wr : World} (h : GiveRel ys xs l g w k t zs wr) (hk : k < xs.length) (ht : 0 < t) (hx : 0 < xs.getD k 0) :
    GiveRel ys xs l g w (k + 1) (t - 1) (zs.set k (zs.getD k 0 + 1)) (wr.setCell ⟨g, k, none⟩ (.int .i64 (zs.getD k 0 + 1))) := by
  obtain ⟨h1, h2, h3, h4, h5, h6⟩ := h
  refine ⟨by simpa using h1, h2.set _ _, h3.set _ _, ?_, ?_, ?_⟩
  · rw [h4, drop_getD zs k (by omega), drop_getD xs k hk, giveS, if_neg (by omega), if_pos hx, take_getD (zs.set k _) k (by simp; omega), List.append_assoc]
    have e1 : (zs.set k (zs.getD k 0 + 1)).getD k 0 = zs.getD k 0 + 1 := by simp [List.getD_eq_getElem?_getD, List.getElem?_set, show k < zs.length by omega]
    rw [e1, List.take_set_of_le (Nat.le_refl k), List.drop_set_of_lt (Nat.lt_succ_self k)]
    rfl
  · intro j
    have := h5 j
    have := h5 k
    by_cases e : k = j
    · subst e; simp [List.getD_eq_getElem?_getD, List.getElem?_set, show k < zs.length by omega] at *; omega
    · simp [List.getD_eq_getElem?_getD, List.getElem?_set, e] at *; omega
  · intro j hj
    have := h6 j (by omega)
    simp [List.getD_eq_getElem?_getD, List.getElem?_set, show k ≠ j by omega] at *
    omega

def GivePost (ys xs : List Int) (l : Int) (g : Nat) (w : World) (e : Ending) (w' : World) : Prop := e = .returned (.tuple #[]) ∧ Row w' g .i64 3 (giveS ys xs l) ∧ Only g w w'
end Go.Proofs.Ytpdlbbglbbmjmaa.N1
