/- layer 16, numbers: what comes next in a list, by an order: a rising row, each once -/
import Derived.Test.YtdfadcbchiogjaaGreatRows
import Derived.WalkKit
namespace Go.Proofs.YtdfadcbchiogjaaGreat
open Go.RowKit
set_option linter.unusedVariables false
set_option linter.unusedSimpArgs false
structure Ord1 {α : Type} (lt : α → α → Bool) : Prop where
  irr : ∀ a, lt a a = false
  tr : ∀ a b c, lt a b = true → lt b c = true → lt a c = true
  tri : ∀ a b, lt a b = true ∨ a = b ∨ lt b a = true
theorem Ord1.asym {α : Type} {lt : α → α → Bool} (h : Ord1 lt) {a b : α} (k : lt a b = true) : lt b a = false := by
  cases h1 : lt b a with
  | false => rfl
  | true =>
    have := h.tr _ _ _ k h1
    rw [h.irr] at this
    cases this
def abv {α : Type} (lt : α → α → Bool) (last : Option α) (x : α) : Bool := match last with
  | none => true
  | some y => lt y x
/-- the least of a list above one, and below what was found -/
def lss {α : Type} (lt : α → α → Bool) (x : α) : Option α → Bool
  | none => true
  | some m => lt x m
def stp {α : Type} (lt : α → α → Bool) (last : Option α) (x : α) (n : Option α) : Option α := if (abv lt last x && lss lt x n) = true then some x else n
def nxt {α : Type} (lt : α → α → Bool) (last : Option α) : List α → Option α → Option α
  | [], n => n
  | x :: L, n => nxt lt last L (stp lt last x n)
theorem nxt_take {α : Type} (lt : α → α → Bool) (last : Option α) : ∀ (L : List α) (n : Option α) (k : Nat) (hk : k < L.length), nxt lt last (L.take (k + 1)) n = stp lt last L[k] (nxt lt last (L.take k) n)
  | x :: L, n, 0, _ => rfl
  | x :: L, n, k + 1, hk => nxt_take lt last L _ k (by simpa using hk)
/-- what was found is the least so far -/
def Lst {α : Type} (lt : α → α → Bool) (last : Option α) (L : List α) (n : Option α) : Prop := match n with
  | none => ∀ x ∈ L, abv lt last x = false
  | some m => m ∈ L ∧ abv lt last m = true ∧ ∀ x ∈ L, abv lt last x = true → lt x m = false
theorem lst_snoc {α : Type} {lt : α → α → Bool} (h : Ord1 lt) {last : Option α} {L : List α} {n : Option α} (hn : Lst lt last L n) (x : α) : Lst lt last (L ++ [x]) (stp lt last x n) := by
  unfold stp
  cases n with
  | none =>
    cases hx : abv lt last x with
    | true =>
      simp only [lss, Bool.and_self, if_true]
      refine ⟨by simp, hx, fun y hy hy2 => ?_⟩
      rcases List.mem_append.1 hy with hy | hy
      · have := hn y hy
        rw [hy2] at this
        cases this
      · simp at hy
        subst hy
        exact h.irr _
    | false =>
      simp only [Bool.false_and, Bool.false_eq_true, if_false]
      intro y hy
      rcases List.mem_append.1 hy with hy | hy
      · exact hn y hy
      · simp at hy
        subst hy
        exact hx
  | some m =>
    obtain ⟨h1, h2, h3⟩ := hn
    cases hx : abv lt last x with
    | true =>
      cases hl : lt x m with
      | true =>
        simp only [lss, hl, Bool.and_self, if_true]
        refine ⟨by simp, hx, fun y hy hy2 => ?_⟩
        rcases List.mem_append.1 hy with hy | hy
        · have h4 := h3 y hy hy2
          cases h5 : lt y x with
          | false => rfl
          | true =>
            have := h.tr _ _ _ h5 hl
            rw [h4] at this
            cases this
        · simp at hy
          subst hy
          exact h.irr _
      | false =>
        simp only [lss, hl, Bool.and_false, Bool.false_eq_true, if_false]
        refine ⟨List.mem_append_left _ h1, h2, fun y hy hy2 => ?_⟩
        rcases List.mem_append.1 hy with hy | hy
        · exact h3 y hy hy2
        · simp at hy
          subst hy
          exact hl
    | false =>
      simp only [Bool.false_and, Bool.false_eq_true, if_false]
      refine ⟨List.mem_append_left _ h1, h2, fun y hy hy2 => ?_⟩
      rcases List.mem_append.1 hy with hy | hy
      · exact h3 y hy hy2
      · simp at hy
        subst hy
        rw [hx] at hy2
        cases hy2
theorem nxt_lst {α : Type} {lt : α → α → Bool} (h : Ord1 lt) (last : Option α) (L : List α) : ∀ k, k ≤ L.length → Lst lt last (L.take k) (nxt lt last (L.take k) none)
  | 0, _ => fun x hx => by simp at hx
  | k + 1, hk => by
    have ih := nxt_lst h last L k (by omega)
    rw [nxt_take lt last L none k (by omega), ← List.take_append_getElem (show k < L.length by omega)]
    exact lst_snoc h ih _
/-- a rising row, each once -/
def insU {α : Type} [DecidableEq α] (lt : α → α → Bool) (x : α) (l : List α) : List α := if x ∈ l then l else l.filter (fun y => lt y x) ++ x :: l.filter (fun y => lt x y)
def ups {α : Type} [DecidableEq α] (lt : α → α → Bool) : List α → List α
  | [] => []
  | x :: L => insU lt x (ups lt L)
theorem insU_mem {α : Type} [DecidableEq α] {lt : α → α → Bool} (h : Ord1 lt) {x y : α} {l : List α} : y ∈ insU lt x l ↔ y = x ∨ y ∈ l := by
  unfold insU
  split
  · rename_i hx
    constructor
    · exact .inr
    · rintro (rfl | hy)
      · exact hx
      · exact hy
  · simp only [List.mem_append, List.mem_cons, List.mem_filter]
    constructor
    · rintro (⟨hy, _⟩ | hy | ⟨hy, _⟩)
      · exact .inr hy
      · exact .inl hy
      · exact .inr hy
    · rintro (rfl | hy)
      · exact .inr (.inl rfl)
      · rcases h.tri y x with k | k | k
        · exact .inl ⟨hy, k⟩
        · exact .inr (.inl k)
        · exact .inr (.inr ⟨hy, k⟩)
theorem ups_mem {α : Type} [DecidableEq α] {lt : α → α → Bool} (h : Ord1 lt) {y : α} : ∀ {L : List α}, y ∈ ups lt L ↔ y ∈ L
  | [] => Iff.rfl
  | x :: L => by
    rw [ups, insU_mem h, ups_mem h, List.mem_cons]
theorem ups_up {α : Type} [DecidableEq α] {lt : α → α → Bool} (h : Ord1 lt) : ∀ L : List α, (ups lt L).Pairwise (fun a b => lt a b = true)
  | [] => List.Pairwise.nil
  | x :: L => by
    have ih := ups_up h L
    rw [ups]
    unfold insU
    split
    · exact ih
    · rw [List.pairwise_append]
      refine ⟨ih.filter _, List.pairwise_cons.2 ⟨fun y hy => (List.mem_filter.1 hy).2, ih.filter _⟩, fun a ha b hb => ?_⟩
      have h1 := (List.mem_filter.1 ha).2
      rcases List.mem_cons.1 hb with rfl | hb
      · exact h1
      · exact h.tr _ _ _ h1 (List.mem_filter.1 hb).2
theorem excl_len {α : Type} {p q : α → Bool} (h : ∀ a, p a = true → q a = false) : ∀ l : List α, (l.filter p).length + (l.filter q).length ≤ l.length
  | [] => by simp
  | x :: l => by
    have ih := excl_len h l
    simp only [List.filter_cons]
    cases hp : p x with
    | true => simp only [h x hp, if_true, Bool.false_eq_true, if_false, List.length_cons]; omega
    | false => cases q x <;> simp <;> omega
theorem ups_len {α : Type} [DecidableEq α] {lt : α → α → Bool} (h : Ord1 lt) : ∀ L : List α, (ups lt L).length ≤ L.length
  | [] => Nat.le_refl _
  | x :: L => by
    have ih := ups_len h L
    rw [ups]
    unfold insU
    split
    · simp only [List.length_cons]; omega
    · have h2 := excl_len (p := fun y => lt y x) (q := fun y => lt x y) (fun a ha => h.asym ha) (ups lt L)
      simp only [List.length_append, List.length_cons]
      omega
/-- the k-th round finds the k-th -/
theorem nxt_ups {α : Type} [DecidableEq α] {lt : α → α → Bool} (h : Ord1 lt) (L : List α) (k : Nat) (hk : k ≤ (ups lt L).length) : nxt lt (if k = 0 then none else (ups lt L)[k - 1]?) L none = (ups lt L)[k]? := by
  have hl := nxt_lst h (if k = 0 then none else (ups lt L)[k - 1]?) L L.length (Nat.le_refl _)
  rw [List.take_length] at hl
  have hup := List.pairwise_iff_getElem.1 (ups_up h L)
  have hab : ∀ j (hj : j < (ups lt L).length), abv lt (if k = 0 then none else (ups lt L)[k - 1]?) (ups lt L)[j] = decide (k ≤ j) := fun j hj => by
    by_cases k0 : k = 0
    · rw [if_pos k0]
      simp [abv, k0]
    · rw [if_neg k0, List.getElem?_eq_getElem (by omega)]
      unfold abv
      by_cases hkj : k ≤ j
      · simp only [hkj, decide_true]
        exact hup (k - 1) j (by omega) hj (by omega)
      · simp only [hkj, decide_false]
        rcases Nat.lt_or_ge j (k - 1) with h1 | h1
        · exact h.asym (hup j (k - 1) hj (by omega) h1)
        · have : j = k - 1 := by omega
          subst this
          exact h.irr _
  generalize nxt lt (if k = 0 then none else (ups lt L)[k - 1]?) L none = n at *
  cases n with
  | none =>
    rcases Nat.lt_or_ge k (ups lt L).length with h1 | h1
    · have h2 := hl (ups lt L)[k] ((ups_mem h).1 (List.getElem_mem h1))
      rw [hab k h1] at h2
      simp at h2
    · rw [List.getElem?_eq_none h1]
  | some m =>
    obtain ⟨h1, h2, h3⟩ := hl
    obtain ⟨j, hj, rfl⟩ := List.getElem_of_mem ((ups_mem h).2 h1)
    rw [hab j hj] at h2
    have hkj : k ≤ j := of_decide_eq_true h2
    have hkl : k < (ups lt L).length := by omega
    have h4 := h3 (ups lt L)[k] ((ups_mem h).1 (List.getElem_mem hkl)) (by rw [hab k hkl]; simp)
    rcases Nat.lt_or_ge k j with h5 | h5
    · rw [hup k j hkl hj h5] at h4
      cases h4
    · have : j = k := by omega
      subst this
      rw [List.getElem?_eq_getElem hj]
theorem ordI : Ord1 (fun a b : Int => decide (a < b)) := ⟨fun a => by simp, fun a b c h1 h2 => by simp at *; omega, fun a b => by simp; omega⟩
theorem ordS : Ord1 (fun a b : List UInt8 => decide (a < b)) := ⟨fun a => by simp [List.lt_irrefl], fun a b c h1 h2 => decide_eq_true (List.lt_trans (of_decide_eq_true h1) (of_decide_eq_true h2)), fun a b => by
  by_cases h : a < b
  · exact .inl (decide_eq_true h)
  · by_cases h2 : b < a
    · exact .inr (.inr (decide_eq_true h2))
    · exact .inr (.inl (List.le_antisymm (List.not_lt.1 h2) (List.not_lt.1 h)))⟩
end Go.Proofs.YtdfadcbchiogjaaGreat
