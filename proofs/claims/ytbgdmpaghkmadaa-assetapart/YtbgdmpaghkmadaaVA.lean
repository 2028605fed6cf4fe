/- Numbers of layer 5: signs, their digits, the sum that tells a slip, and what the calls answer, as functions of lists of bytes. -/
import Derived.Test.YtbgdmpaghkmadaaRows
import Derived.WalkKit
namespace Go.Proofs.Ytbgdmpaghkmadaa.N5
open Go.RowKit
set_option linter.unusedVariables false
set_option linter.unusedSimpArgs false
abbrev Up (c : Nat) : Prop := 65 ≤ c ∧ c ≤ 90
abbrev Dg (c : Nat) : Prop := 48 ≤ c ∧ c ≤ 57
def dsc (c : Nat) : List Nat := if 65 ≤ c ∧ c ≤ 90 then [(c - 55) / 10, (c - 55) % 10] else [c - 48]
def ds : List UInt8 → List Nat
  | [] => []
  | c :: l => dsc c.toNat ++ ds l
def wgt (b : Bool) (d : Nat) : Nat := if b then 2 * d / 10 + 2 * d % 10 else d
def sm : Bool → List Nat → Nat
  | _, [] => 0
  | b, d :: r => wgt b d + sm (!b) r
def fl : Bool → List Nat → Bool
  | b, [] => b
  | b, _ :: r => fl (!b) r
def full (l : List UInt8) : Nat := sm false (ds l).reverse
def tot (l : List UInt8) : Nat := sm true (ds l).reverse
def dgN (l : List UInt8) : Nat := (10 - tot l % 10) % 10
/-- letters and digits alone -/
def an : List UInt8 → Bool
  | [] => true
  | c :: l => (decide (Up c.toNat) || decide (Dg c.toNat)) && an l
/-- from place i on: a letter, or, behind the land, a digit -/
def okFrom : Nat → List UInt8 → Bool
  | _, [] => true
  | i, c :: l => (decide (Up c.toNat) || (decide (2 ≤ i) && decide (Dg c.toNat))) && okFrom (i + 1) l
def head (l : List UInt8) : Bool := decide (l.length = 11) && okFrom 0 l
def rgt (l : List UInt8) : Bool := an l && decide (full l % 10 = 0)
def shp (l : List UInt8) : Bool := decide (l.length = 12) && (decide (Dg (l.getD 11 0).toNat) && head (l.take 11))
def chk (l : List UInt8) : Nat := if shp l = true then (if full l % 10 = 0 then 0 else 12) else 11

theorem ds_append : ∀ a b : List UInt8, ds (a ++ b) = ds a ++ ds b
  | [], b => rfl
  | x :: a, b => by rw [List.cons_append, ds, ds, ds_append a b, List.append_assoc]
theorem an_append : ∀ a b : List UInt8, an (a ++ b) = (an a && an b)
  | [], b => by simp [an]
  | x :: a, b => by rw [List.cons_append, an, an, an_append a b, Bool.and_assoc]
theorem sm_append : ∀ (b : Bool) (x y : List Nat), sm b (x ++ y) = sm b x + sm (fl b x) y
  | b, [], y => by simp [sm, fl]
  | b, d :: x, y => by rw [List.cons_append, sm, sm, fl, sm_append (!b) x y, Nat.add_assoc]
theorem wgt_le : ∀ (b : Bool) (d : Nat), d ≤ 9 → wgt b d ≤ 9 := by
  intro b d h
  unfold wgt
  split <;> omega
theorem dsc_le {c : Nat} (h : Up c ∨ Dg c) : ∀ d ∈ dsc c, d ≤ 9 := by
  unfold dsc
  intro d hd
  split at hd
  · simp only [List.mem_cons, List.not_mem_nil, or_false] at hd
    omega
  · simp only [List.mem_cons, List.not_mem_nil, or_false] at hd
    omega
theorem ds_le : ∀ {l : List UInt8}, an l = true → ∀ d ∈ ds l, d ≤ 9
  | [], _ => by simp [ds]
  | c :: l, h => by
    rw [an, Bool.and_eq_true, Bool.or_eq_true, decide_eq_true_eq, decide_eq_true_eq] at h
    intro d hd
    rw [ds, List.mem_append] at hd
    rcases hd with hd | hd
    · exact dsc_le h.1 d hd
    · exact ds_le h.2 d hd
theorem dsc_len (c : Nat) : (dsc c).length ≤ 2 := by
  unfold dsc
  split <;> simp
theorem ds_len : ∀ l : List UInt8, (ds l).length ≤ 2 * l.length
  | [] => by simp [ds]
  | c :: l => by
    have h1 := dsc_len c.toNat
    have h2 := ds_len l
    rw [ds, List.length_append, List.length_cons]
    omega
theorem sm_le : ∀ (b : Bool) (x : List Nat), (∀ d ∈ x, d ≤ 9) → sm b x ≤ 9 * x.length
  | b, [], _ => by simp [sm]
  | b, d :: x, h => by
    have h1 := wgt_le b d (h d (by simp))
    have h2 := sm_le (!b) x (fun e he => h e (by simp [he]))
    rw [sm, List.length_cons]
    omega
theorem dsc_dg {c : Nat} (h : Dg c) : dsc c = [c - 48] := by
  unfold dsc
  rw [if_neg (by omega)]
theorem dsc_up {c : Nat} (h : Up c) : dsc c = [(c - 55) / 10, (c - 55) % 10] := by
  unfold dsc
  rw [if_pos h]
theorem full_snoc (l : List UInt8) (c : UInt8) (h : Dg c.toNat) : full (l ++ [c]) = (c.toNat - 48) + tot l := by
  unfold full tot
  rw [ds_append, ds, ds, dsc_dg h]
  simp [sm, wgt]
theorem dgN_lt (l : List UInt8) : dgN l < 10 := Nat.mod_lt _ (by omega)
theorem full_dgN (l : List UInt8) (c : UInt8) (h : Dg c.toNat) : full (l ++ [c]) % 10 = 0 ↔ c.toNat = 48 + dgN l := by
  rw [full_snoc l c h]
  unfold dgN
  omega
/-- one step of the sum, from the right -/
theorem sm_up (b : Bool) (l : List UInt8) (c : UInt8) (h : Up c.toNat) : sm b (ds (l ++ [c])).reverse = wgt b ((c.toNat - 55) % 10) + wgt (!b) ((c.toNat - 55) / 10) + sm b (ds l).reverse := by
  rw [ds_append, ds, ds, dsc_up h]
  simp [sm, Nat.add_assoc]
theorem sm_dg (b : Bool) (l : List UInt8) (c : UInt8) (h : Dg c.toNat) : sm b (ds (l ++ [c])).reverse = wgt b (c.toNat - 48) + sm (!b) (ds l).reverse := by
  rw [ds_append, ds, ds, dsc_dg h]
  simp [sm]
theorem okFrom_an : ∀ {i : Nat} {l : List UInt8}, okFrom i l = true → an l = true
  | _, [], _ => rfl
  | i, c :: l, h => by
    rw [okFrom, Bool.and_eq_true] at h
    rw [an, okFrom_an h.2, Bool.and_true]
    have h1 := h.1
    simp only [Bool.or_eq_true, Bool.and_eq_true, decide_eq_true_eq] at h1 ⊢
    omega
theorem okFrom_of_an : ∀ {i : Nat} {l : List UInt8}, 2 ≤ i → okFrom i l = an l
  | _, [], _ => rfl
  | i, c :: l, h => by
    rw [okFrom, an, okFrom_of_an (by omega : 2 ≤ i + 1), decide_eq_true h, Bool.true_and]
theorem head_an {l : List UInt8} (h : head l = true) : an l = true := by
  unfold head at h
  rw [Bool.and_eq_true] at h
  exact okFrom_an h.2
theorem head_len {l : List UInt8} (h : head l = true) : l.length = 11 := by
  unfold head at h
  rw [Bool.and_eq_true, decide_eq_true_eq] at h
  exact h.1
theorem head_eq {l : List UInt8} (hl : l.length = 11) : head l = (an l && (decide (65 ≤ (l.getD 0 0).toNat) && decide (65 ≤ (l.getD 1 0).toNat))) := by
  match l, hl with
  | a :: b :: l, hl =>
    unfold head
    rw [decide_eq_true hl, Bool.true_and, okFrom, okFrom, okFrom_of_an (by omega), an, an]
    simp only [List.getD_cons_zero, List.getD_cons_succ]
    rw [Bool.eq_iff_iff]
    simp only [Bool.or_eq_true, Bool.and_eq_true, decide_eq_true_eq]
    constructor
    · rintro ⟨h1, h2, h3⟩
      exact ⟨⟨by omega, by omega, h3⟩, by omega, by omega⟩
    · rintro ⟨⟨h1, h2, h3⟩, h4, h5⟩
      exact ⟨by omega, by omega, h3⟩
end Go.Proofs.Ytbgdmpaghkmadaa.N5
