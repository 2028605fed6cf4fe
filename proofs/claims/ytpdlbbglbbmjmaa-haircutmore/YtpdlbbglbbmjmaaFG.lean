/- The walk of Share of package fixnum. Conditions: the arguments are ints; each product has no upper word, or Div64 of math/bits divides as it should. -/
import Derived.Test.YtpdlbbglbbmjmaaFF
import Derived.WalkKit
import Derived.ProofKit
import Derived.Handy
import Derived.WalkLawsBesides
import Derived.WalkSpells
import Derived.BigQuiet
import Derived.Deep.QuietTactic
import Derived.Deep.Light
import Derived.Deep.OwnRows
import Derived.Laws.AppendOwnNone
import Derived.Deep.RegionWith
import Derived.Lib.BitFns
import Derived.Lib.Walk
import Derived.Deep.CutBlock
import Derived.Deep.DeepCutAuto
import Derived.Deep.LoopGhost
import Derived.Deep.RegionHeld
namespace Go.Proofs.Ytpdlbbglbbmjmaa.N1
open Go.RowKit
set_option linter.unusedVariables false
set_option linter.unusedSimpArgs false

/-- the parts, rounded down -/
def parts (amount T : Int) (xs : List Int) : List Int := xs.map (fun x => amount * x / T)
def shareE (amount : Int) (xs : List Int) : Int := if amount < 0 ∨ goodB xs = false then 1 else if sumE 0 xs ≠ 0 then sumE 0 xs else if sumS 0 xs = 0 then 6 else 0
def shareL (amount : Int) (xs : List Int) : List Int := if shareE amount xs = 0 then giveS (parts amount (sumS 0 xs) xs) xs (amount - (parts amount (sumS 0 xs) xs).sum) else []

theorem sumE_or (s : Int) (xs : List Int) : sumE s xs = 0 ∨ sumE s xs = 9 := by
  induction xs generalizing s with
  | nil => exact Or.inl rfl
  | cons x xs ih => unfold sumE; split; exact ih _; exact Or.inr rfl
theorem sum_ok (s : Int) (xs : List Int) (h : sumE s xs = 0) : sumS s xs = s + xs.sum := by
  induction xs generalizing s with
  | nil => simp [sumS]
  | cons x xs ih =>
    unfold sumE at h
    unfold sumS
    split at h
    · rw [if_pos (by assumption), ih _ h, List.sum_cons]; omega
    · omega
theorem sumS_range (s : Int) (xs : List Int) (hs : -9223372036854775808 ≤ s ∧ s ≤ 9223372036854775807) : -9223372036854775808 ≤ sumS s xs ∧ sumS s xs ≤ 9223372036854775807 := by
  induction xs generalizing s with
  | nil => exact hs
  | cons x xs ih => unfold sumS; split; exact ih _ (by assumption); omega

theorem sum_nonneg (xs : List Int) (h : ∀ x ∈ xs, 0 ≤ x) : 0 ≤ xs.sum := by
  induction xs with
  | nil => simp
  | cons x xs ih =>
    have := ih fun y hy => h y (List.mem_cons_of_mem _ hy)
    have := h x (List.mem_cons_self ..)
    rw [List.sum_cons]; omega
/-- a part of the list has no greater sum -/
theorem sum_part (xs : List Int) (h : ∀ x ∈ xs, 0 ≤ x) (k : Nat) : (xs.take k).sum ≤ xs.sum := by
  have := sum_nonneg (xs.drop k) fun x hx => h x (List.mem_of_mem_drop hx)
  have e : xs.sum = (xs.take k).sum + (xs.drop k).sum := by rw [← List.sum_append, List.take_append_drop]
  omega
theorem mem_le_sum (xs : List Int) (h : ∀ x ∈ xs, 0 ≤ x) (x : Int) (hx : x ∈ xs) : x ≤ xs.sum := by
  induction xs with
  | nil => cases hx
  | cons y ys ih =>
    have h1 := h y (List.mem_cons_self ..)
    have h2 := sum_nonneg ys fun z hz => h z (List.mem_cons_of_mem _ hz)
    rw [List.sum_cons]
    cases List.mem_cons.1 hx with
    | inl e => subst e; omega
    | inr e => have := ih (fun z hz => h z (List.mem_cons_of_mem _ hz)) e; omega
/-- the parts' sum, times T, is at most the amount times the weights' sum -/
theorem parts_sum (amount T : Int) (hT : 0 < T) (xs : List Int) : (parts amount T xs).sum * T ≤ amount * xs.sum := by
  induction xs with
  | nil => simp [parts]
  | cons x xs ih =>
    have h1 : amount * x / T * T ≤ amount * x := Int.ediv_mul_le _ (by omega)
    simp only [parts, List.map_cons, List.sum_cons] at *
    rw [Int.add_mul, Int.mul_add]
    omega
theorem parts_take (amount T : Int) (xs : List Int) (k : Nat) : (parts amount T xs).take k = parts amount T (xs.take k) := by
  simp [parts, List.map_take]
theorem parts_le (amount T : Int) (h0 : 0 ≤ amount) (hT : 0 < T) (xs : List Int) (h : ∀ x ∈ xs, 0 ≤ x) (hs : xs.sum ≤ T) : (parts amount T xs).sum ≤ amount := by
  have h1 := parts_sum amount T hT xs
  have h2 : amount * xs.sum ≤ amount * T := Int.mul_le_mul_of_nonneg_left hs h0
  exact Int.le_of_mul_le_mul_right (Int.le_trans h1 h2) hT
theorem parts_nonneg (amount T : Int) (h0 : 0 ≤ amount) (hT : 0 < T) (xs : List Int) (h : ∀ x ∈ xs, 0 ≤ x) : ∀ y ∈ parts amount T xs, 0 ≤ y := by
  intro y hy
  obtain ⟨x, hx, rfl⟩ := List.mem_map.1 hy
  exact Int.ediv_nonneg (Int.mul_nonneg h0 (h x hx)) (by omega)

/-- one part, as MulDiv tells it -/
theorem part_md (amount x T : Int) (h0 : 0 ≤ amount ∧ amount ≤ 9223372036854775807) (hx : 0 ≤ x ∧ x ≤ T) (hT : 0 < T) : mdS amount x T 1 = amount * x / T := by
  have hn : negB amount x T = false := by
    unfold negB
    rw [decide_eq_false (by omega), decide_eq_false (by omega), decide_eq_false (by omega)]
    rfl
  have e1 : (amount.natAbs : Int) = amount := by omega
  have e2 : (x.natAbs : Int) = x := by omega
  have e3 : (T.natAbs : Int) = T := by omega
  have hle : amount * x / T ≤ amount := by
    have h1 : amount * x / T * T ≤ amount * x := Int.ediv_mul_le _ (by omega)
    have h2 : amount * x ≤ amount * T := Int.mul_le_mul_of_nonneg_left hx.2 h0.1
    exact Int.le_of_mul_le_mul_right (Int.le_trans h1 h2) hT
  have hge : 0 ≤ amount * x / T := Int.ediv_nonneg (Int.mul_nonneg h0.1 hx.1) (by omega)
  have ha : ∀ r d b, awayB 1 r d b false = false := by intro r d b; simp [awayB]
  rw [mdS, if_neg (by omega), mdN, hn, mdQ, e1, e2, e3, hn, ha, if_neg (by simp), sgnd, if_neg (by simp), fitS, if_pos (by omega)]

def SharePost (amount : Int) (xs : List Int) (w : World) (e : Ending) (w' : World) : Prop :=
  ∃ v, e = .returned (.tuple #[v, .int .i64 (shareE amount xs)]) ∧ Seg w' v (shareL amount xs) ∧ Below w.heap.size w w'

theorem seg_nil (w : World) : Seg w (.slice none 0 0) [] := ⟨none, 0, rfl, fun h => absurd rfl h⟩

theorem ret_share {v : Value} {a b : Int} (h : a = b) : Ending.returned (.tuple #[v, .int .i64 a]) = .returned (.tuple #[v, .int .i64 b]) := by rw [h]

theorem share_bad (amount : Int) (xs : List Int) (w w' : World) (n : Int) (hn : n ≠ 0) (h : shareE amount xs = n) (hb : Below w.heap.size w w') : SharePost amount xs w (.returned (.tuple #[.slice none 0 0, .int .i64 n])) w' := by
  refine ⟨_, ret_share h.symm, ?_, hb⟩
  rw [shareL, if_neg (by rw [h]; exact hn)]
  exact seg_nil w'

theorem Try.info3 : (Try.prog.info? 3).map (fun i => (i.zero, i.size, i.bytes)) = some (some (.int .i64 0), 1, 8) := by kernel_rfl

theorem made_zeros (k : IntKind) (n : Nat) : madeCells #[Value.int k 0] n = ((List.replicate n (0 : Int)).map (Value.int k)).toArray := by
  apply Array.ext
  · simp [madeCells]
  · intro i h1 h2
    simp [madeCells, Nat.mod_one]

/-- what the loop of Share keeps: k parts are laid -/
def ShareRel (amount T : Int) (xs : List Int) (g : Nat) (w : World) (k : Nat) (t : Int) (wr : World) : Prop :=
  Row wr g .i64 3 ((parts amount T xs).take k ++ List.replicate (xs.length - k) 0) ∧ w.heap.size ≤ g ∧ Below w.heap.size w wr ∧ t = amount - ((parts amount T xs).take k).sum

theorem ShareRel.step {amount T : Int} {xs : List Int} {g : Nat} {w : World} {k : Nat} {t : Int} {wr w1 : World} (h : ShareRel amount T xs g w k t wr) (hk : k < xs.length) (hb : Below wr.heap.size wr w1) :
    ShareRel amount T xs g w (k + 1) (t - amount * xs.getD k 0 / T) (w1.setCell ⟨g, k, none⟩ (.int .i64 (amount * xs.getD k 0 / T))) := by
  obtain ⟨h1, h2, h3, h4⟩ := h
  have hlen : (parts amount T xs).length = xs.length := by simp [parts]
  have hget : (parts amount T xs).getD k 0 = amount * xs.getD k 0 / T := by simp [parts, hk]
  refine ⟨?_, h2, (h3.trans (hb.mono h3.size)).setCell h2 _, ?_⟩
  · have h5 := (h1.below hb h1.lt).set k (amount * xs.getD k 0 / T)
    have e : (((parts amount T xs).take k ++ List.replicate (xs.length - k) 0).set k (amount * xs.getD k 0 / T)) = (parts amount T xs).take (k + 1) ++ List.replicate (xs.length - (k + 1)) 0 := by
      rw [take_getD _ k (by omega), hget, show xs.length - k = (xs.length - (k + 1)) + 1 by omega, List.replicate_succ, List.set_append_right _ _ (by simp; omega)]
      simp [show k - min k (parts amount T xs).length = 0 by omega]
    rw [e] at h5
    exact h5
  · rw [take_getD _ k (by omega), hget, List.sum_append, h4]
    simp
    omega

theorem ShareRel.cell {amount T : Int} {xs : List Int} {g : Nat} {w : World} {k : Nat} {t : Int} {wr w1 : World} (h : ShareRel amount T xs g w k t wr) (hk : k < xs.length) (hb : Below wr.heap.size wr w1) :
    (∃ u, w1.cell? ⟨g, k, none⟩ = some (.int .i64 u)) ∧ w1.frozen? ⟨g, k, none⟩ = false := by
  have h5 := h.1.below hb h.1.lt
  exact ⟨⟨_, h5.cell k (by simp [parts]; omega)⟩, h5.frozen k⟩

theorem giveS_length (ys xs : List Int) (l : Int) : (giveS ys xs l).length = ys.length := by
  induction ys generalizing xs l with
  | nil => simp [giveS]
  | cons y ys ih =>
    cases xs with
    | nil => simp [giveS]
    | cons x xs =>
      unfold giveS
      split
      · rfl
      · split <;> simp [ih]
end Go.Proofs.Ytpdlbbglbbmjmaa.N1
