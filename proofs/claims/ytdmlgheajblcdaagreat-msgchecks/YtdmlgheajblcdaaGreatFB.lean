/- Layer 4, numbers alone: all signs of a text from a place on; what is written as signs is read as them; the mark of what is no sign. -/
import Derived.Test.YtdmlgheajblcdaaGreatFA
import Derived.WalkKit
namespace Go.Proofs.YtdmlgheajblcdaaGreat.N4
open Go.RowKit
set_option linter.unusedVariables false
set_option linter.unusedSimpArgs false
theorem D_eq (l : List UInt8) (p : Nat) : D l p = dg (bt l p) (bt l (p + 1)) (bt l (p + 2)) (bt l (p + 3)) := rfl

theorem dg_w (a b c d : Nat) : 1 ≤ (dg a b c d).2.1 ∧ (dg a b c d).2.1 ≤ 4 := by
  unfold dg
  repeat' split
  all_goals simp
theorem D_pos (l : List UInt8) (p : Nat) : 1 ≤ (D l p).2.1 := (dg_w _ _ _ _).1

/-- A sign's number. -/
def Vl (c : Nat) : Prop := c < 55296 ∨ 57343 < c ∧ c < 1114112

theorem ite_fst {p : Prop} [Decidable p] (a b : Nat × Nat × Bool) : (if p then a else b).1 = if p then a.1 else b.1 := by split <;> rfl

set_option maxRecDepth 100000 in
theorem dg_V (a b c d : Nat) : Vl (dg a b c d).1 := by
  unfold dg Vl
  simp only [ite_fst]
  repeat' split
  all_goals omega
theorem D_V (l : List UInt8) (p : Nat) : Vl (D l p).1 := dg_V _ _ _ _
theorem Vl.le {c : Nat} (h : Vl c) : c < 1114112 := by unfold Vl at h; omega

/-- The bytes of a sign do not go beyond the text's end. -/
theorem D_in (l : List UInt8) (p : Nat) (h : p < l.length) : p + (D l p).2.1 ≤ l.length := by
  have e1 : l.length ≤ p + 1 → bt l (p + 1) = 0 := fun h => bt_end h
  have e2 : l.length ≤ p + 2 → bt l (p + 2) = 0 := fun h => bt_end h
  have e3 : l.length ≤ p + 3 → bt l (p + 3) = 0 := fun h => bt_end h
  rw [D_eq]
  generalize bt l (p + 1) = b at *
  generalize bt l (p + 2) = c at *
  generalize bt l (p + 3) = d at *
  unfold dg
  repeat' split
  all_goals (try simp only); omega

def sgF (l : List UInt8) : Nat → Nat → List (Nat × Nat × Bool)
  | 0, _ => []
  | f + 1, p => if p < l.length then (p, (D l p).1, (D l p).2.2) :: sgF l f (p + (D l p).2.1) else []
/-- The signs from a place on: where each begins, its number, and whether its bytes are one. -/
def sg (l : List UInt8) (p : Nat) : List (Nat × Nat × Bool) := sgF l (l.length - p) p

theorem sgF_more (l : List UInt8) : ∀ f g p, l.length ≤ p + f → l.length ≤ p + g → sgF l f p = sgF l g p
  | 0, 0, _, _, _ => rfl
  | 0, g + 1, p, h, _ => by
    have : ¬ p < l.length := by omega
    simp [sgF, this]
  | f + 1, 0, p, _, h => by
    have : ¬ p < l.length := by omega
    simp [sgF, this]
  | f + 1, g + 1, p, h, k => by
    unfold sgF
    have := D_pos l p
    rw [sgF_more l f g (p + (D l p).2.1) (by omega) (by omega)]

theorem sg_end {l : List UInt8} {p : Nat} (h : l.length ≤ p) : sg l p = [] := by
  unfold sg
  rw [show l.length - p = 0 by omega]
  rfl
theorem sg_step {l : List UInt8} {p : Nat} (h : p < l.length) : sg l p = (p, (D l p).1, (D l p).2.2) :: sg l (p + (D l p).2.1) := by
  unfold sg
  obtain ⟨f, hf⟩ : ∃ f, l.length - p = f + 1 := ⟨l.length - p - 1, by omega⟩
  have := D_pos l p
  rw [hf, sgF, if_pos h, sgF_more l f (l.length - (p + (D l p).2.1)) _ (by omega) (by omega)]

/-- The numbers of the signs from a place on. -/
def cs (l : List UInt8) (p : Nat) : List Nat := (sg l p).map fun x => x.2.1
/-- Where they begin. -/
def ps (l : List UInt8) (p : Nat) : List Nat := (sg l p).map fun x => x.1
/-- Are all bytes part of one? -/
def ok (l : List UInt8) (p : Nat) : Bool := (sg l p).all fun x => x.2.2

theorem cs_end {l : List UInt8} {p : Nat} (h : l.length ≤ p) : cs l p = [] := by simp [cs, sg_end h]
theorem ps_end {l : List UInt8} {p : Nat} (h : l.length ≤ p) : ps l p = [] := by simp [ps, sg_end h]
theorem ok_end {l : List UInt8} {p : Nat} (h : l.length ≤ p) : ok l p = true := by simp [ok, sg_end h]
theorem cs_step {l : List UInt8} {p : Nat} (h : p < l.length) : cs l p = (D l p).1 :: cs l (p + (D l p).2.1) := by simp [cs, sg_step h]
theorem ps_step {l : List UInt8} {p : Nat} (h : p < l.length) : ps l p = p :: ps l (p + (D l p).2.1) := by simp [ps, sg_step h]
theorem ok_step {l : List UInt8} {p : Nat} (h : p < l.length) : ok l p = ((D l p).2.2 && ok l (p + (D l p).2.1)) := by simp [ok, sg_step h]

theorem cs_ps (l : List UInt8) (p : Nat) : (cs l p).length = (ps l p).length := by simp [cs, ps]
theorem sg_len (l : List UInt8) : ∀ n p, l.length ≤ p + n → (sg l p).length ≤ n
  | 0, p, h => by rw [sg_end (by omega)]; simp
  | n + 1, p, h => by
    by_cases hp : p < l.length
    · have := D_pos l p
      have := sg_len l n (p + (D l p).2.1) (by omega)
      rw [sg_step hp, List.length_cons]
      omega
    · rw [sg_end (by omega)]; simp
theorem cs_len (l : List UInt8) : (cs l 0).length ≤ l.length := by
  have := sg_len l l.length 0 (by omega)
  simpa [cs] using this

theorem sg_V (l : List UInt8) : ∀ n p, l.length ≤ p + n → ∀ x ∈ sg l p, Vl x.2.1 ∧ p ≤ x.1 ∧ x.1 < l.length
  | 0, p, h => by rw [sg_end (by omega)]; simp
  | n + 1, p, h => by
    by_cases hp : p < l.length
    · have hd := D_pos l p
      have ih := sg_V l n (p + (D l p).2.1) (by omega)
      rw [sg_step hp]
      intro x hx
      rcases List.mem_cons.1 hx with rfl | hx
      · exact ⟨D_V l p, Nat.le_refl _, hp⟩
      · have := ih x hx
        exact ⟨this.1, by omega, this.2.2⟩
    · rw [sg_end (by omega)]; simp
theorem cs_V (l : List UInt8) (p : Nat) : ∀ c ∈ cs l p, Vl c := by
  intro c hc
  obtain ⟨x, hx, rfl⟩ := List.mem_map.1 hc
  exact (sg_V l l.length p (by omega) x hx).1
theorem ps_lt (l : List UInt8) (p : Nat) : ∀ c ∈ ps l p, p ≤ c ∧ c < l.length := by
  intro c hc
  obtain ⟨x, hx, rfl⟩ := List.mem_map.1 hc
  exact (sg_V l l.length p (by omega) x hx).2

/-! The mark. -/
theorem dg_mark (a b c d : Nat) : (dg a b c d).2.2 = false → (dg a b c d).1 = 65533 := by
  unfold dg
  repeat' split
  all_goals simp
set_option maxRecDepth 100000 in
theorem dg_is (a b c d : Nat) (ha : a < 256) (h : (dg a b c d).1 = 65533) : (dg a b c d).2.2 = true ↔ (a = 239 ∧ b = 191 ∧ c = 189) := by
  revert h
  unfold dg
  repeat' split
  all_goals intro h
  all_goals simp only at h ⊢
  all_goals (try simp only [true_iff, Bool.false_eq_true, false_iff])
  all_goals omega

/-- A text that begins with these three bytes. -/
theorem pre_mark (l : List UInt8) (p : Nat) : [239, 191, 189].isPrefixOf (l.drop p) = true ↔ (bt l p = 239 ∧ bt l (p + 1) = 191 ∧ bt l (p + 2) = 189) := by
  have hz : ∀ i, bt l (p + i) = bt (l.drop p) i := by
    intro i
    simp [bt, List.getD_eq_getElem?_getD, List.getElem?_drop]
  have h0 := hz 0
  rw [Nat.add_zero] at h0
  rw [h0, hz 1, hz 2]
  generalize l.drop p = m
  have hu : ∀ (x : UInt8) (n : Nat), n < 256 → (x.toNat = n ↔ x = UInt8.ofNat n) := by
    intro x n hn
    constructor
    · intro h
      apply UInt8.toNat_inj.1
      rw [h]
      simp
      omega
    · rintro rfl
      simp
      omega
  match m with
  | [] => simp [bt]
  | [a] => simp [bt]
  | [a, b] => simp [bt]
  | a :: b :: c :: r =>
    simp only [bt, List.getD_cons_zero, List.getD_cons_succ, hu _ 239 (by omega), hu _ 191 (by omega), hu _ 189 (by omega)]
    simp [List.isPrefixOf]
    constructor
    · rintro ⟨rfl, rfl, rfl⟩; exact ⟨rfl, rfl, rfl⟩
    · rintro ⟨rfl, rfl, rfl⟩; exact ⟨rfl, rfl, rfl⟩

theorem D_is (l : List UInt8) (p : Nat) : (D l p).2.2 = !(decide ((D l p).1 = 65533) && !([239, 191, 189].isPrefixOf (l.drop p))) := by
  by_cases h : (D l p).1 = 65533
  · have h1 := dg_is _ _ _ _ (bt_lt l p) h
    have h2 := pre_mark l p
    rw [← h2] at h1
    rw [D_eq]
    cases hb : (dg (bt l p) (bt l (p + 1)) (bt l (p + 2)) (bt l (p + 3))).2.2
    · rw [hb] at h1
      have : ([239, 191, 189].isPrefixOf (l.drop p)) = false := by
        cases hx : [239, 191, 189].isPrefixOf (l.drop p)
        · rfl
        · exact absurd (h1.2 hx) (by simp)
      rw [this]
      rw [D_eq] at h
      rw [h]
      rfl
    · rw [hb] at h1
      have : ([239, 191, 189].isPrefixOf (l.drop p)) = true := h1.1 rfl
      rw [this]
      simp
  · cases hb : (D l p).2.2
    · exact absurd (dg_mark _ _ _ _ hb) h
    · simp [h]

/-! What is written. -/
theorem bt_shift (x y : List UInt8) (i : Nat) : bt (x ++ y) (x.length + i) = bt y i := by
  simp [bt, List.getD_eq_getElem?_getD, List.getElem?_append_right]
theorem D_shift (x y : List UInt8) (i : Nat) : D (x ++ y) (x.length + i) = D y i := by
  rw [D_eq, D_eq, bt_shift, Nat.add_assoc, bt_shift, Nat.add_assoc, bt_shift, Nat.add_assoc, bt_shift]
theorem cs_shift (x y : List UInt8) : ∀ n i, y.length ≤ i + n → cs (x ++ y) (x.length + i) = cs y i
  | 0, i, h => by rw [cs_end (l := x ++ y) (by simp; omega), cs_end (l := y) (by omega)]
  | n + 1, i, h => by
    by_cases hi : i < y.length
    · have := D_pos y i
      rw [cs_step hi, cs_step (by simp; omega), D_shift, Nat.add_assoc, cs_shift x y n _ (by omega)]
    · rw [cs_end (l := x ++ y) (by simp; omega), cs_end (l := y) (by omega)]
end Go.Proofs.YtdmlgheajblcdaaGreat.N4
