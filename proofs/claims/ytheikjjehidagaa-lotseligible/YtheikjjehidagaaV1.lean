/- numbers of securities as numbers -/
import Derived.Test.YtheikjjehidagaaRows
import Derived.WalkKit
namespace Go.Proofs.Ytheikjjehidagaa.H5.N5
open Go.RowKit
set_option linter.unusedVariables false
set_option linter.unusedSimpArgs false
abbrev Up (c : Nat) : Prop := 65 ≤ c ∧ c ≤ 90
abbrev Dg (c : Nat) : Prop := 48 ≤ c ∧ c ≤ 57
def dsc (c : Nat) : List Nat := if 65 ≤ c ∧ c ≤ 90 then [(c - 55) / 10, (c - 55) % 10] else [c - 48]
def ds : List UInt8 → List Nat
  | [] => []
  | c :: l => dsc c.toNat ++ ds l
def wgt (b : Bool) (d : Nat) : Nat := if b then 2 * d / 10 + 2 * d % 10 else d
def sm : Bool → List Nat → Nat
  | _, [] => 0
  | b, d :: r => wgt b d + sm (!b) r
def fl : Bool → List Nat → Bool
  | b, [] => b
  | b, _ :: r => fl (!b) r
def full (l : List UInt8) : Nat := sm false (ds l).reverse
def tot (l : List UInt8) : Nat := sm true (ds l).reverse
def dgN (l : List UInt8) : Nat := (10 - tot l % 10) % 10
/-- letters and digits alone -/
def an : List UInt8 → Bool
  | [] => true
  | c :: l => (decide (Up c.toNat) || decide (Dg c.toNat)) && an l
/-- from place i on: a letter, or, behind the land, a digit -/
def okFrom : Nat → List UInt8 → Bool
  | _, [] => true
  | i, c :: l => (decide (Up c.toNat) || (decide (2 ≤ i) && decide (Dg c.toNat))) && okFrom (i + 1) l
def head (l : List UInt8) : Bool := decide (l.length = 11) && okFrom 0 l
def rgt (l : List UInt8) : Bool := an l && decide (full l % 10 = 0)
def shp (l : List UInt8) : Bool := decide (l.length = 12) && (decide (Dg (l.getD 11 0).toNat) && head (l.take 11))
def chk (l : List UInt8) : Nat := if shp l = true then (if full l % 10 = 0 then 0 else 12) else 11

theorem ds_append : ∀ a b : List UInt8, ds (a ++ b) = ds a ++ ds b
  | [], b => rfl
  | x :: a, b => by rw [List.cons_append, ds, ds, ds_append a b, List.append_assoc]
theorem an_append : ∀ a b : List UInt8, an (a ++ b) = (an a && an b)
  | [], b => by simp [an]
  | x :: a, b => by rw [List.cons_append, an, an, an_append a b, Bool.and_assoc]
theorem sm_append : ∀ (b : Bool) (x y : List Nat), sm b (x ++ y) = sm b x + sm (fl b x) y
  | b, [], y => by simp [sm, fl]
  | b, d :: x, y => by rw [List.cons_append, sm, sm, fl, sm_append (!b) x y, Nat.add_assoc]
theorem wgt_le : ∀ (b : Bool) (d : Nat), d ≤ 9 → wgt b d ≤ 9 := by
  intro b d h
  unfold wgt
  split <;> omega
theorem dsc_le {c : Nat} (h : Up c ∨ Dg c) : ∀ d ∈ dsc c, d ≤ 9 := by
  unfold dsc
  intro d hd
  split at hd
  · simp only [List.mem_cons, List.not_mem_nil, or_false] at hd
    omega
  · simp only [List.mem_cons, List.not_mem_nil, or_false] at hd
    omega
theorem ds_le : ∀ {l : List UInt8}, an l = true → ∀ d ∈ ds l, d ≤ 9
  | [], _ => by simp [ds]
  | c :: l, h => by
    rw [an, Bool.and_eq_true, Bool.or_eq_true, decide_eq_true_eq, decide_eq_true_eq] at h
    intro d hd
    rw [ds, List.mem_append] at hd
    rcases hd with hd | hd
    · exact dsc_le h.1 d hd
    · exact ds_le h.2 d hd
theorem dsc_len (c : Nat) : (dsc c).length ≤ 2 := by
  unfold dsc
  split <;> simp
theorem ds_len : ∀ l : List UInt8, (ds l).length ≤ 2 * l.length
  | [] => by simp [ds]
  | c :: l => by
    have h1 := dsc_len c.toNat
    have h2 := ds_len l
    rw [ds, List.length_append, List.length_cons]
    omega
theorem sm_le : ∀ (b : Bool) (x : List Nat), (∀ d ∈ x, d ≤ 9) → sm b x ≤ 9 * x.length
  | b, [], _ => by simp [sm]
  | b, d :: x, h => by
    have h1 := wgt_le b d (h d (by simp))
    have h2 := sm_le (!b) x (fun e he => h e (by simp [he]))
    rw [sm, List.length_cons]
    omega
theorem dsc_dg {c : Nat} (h : Dg c) : dsc c = [c - 48] := by
  unfold dsc
  rw [if_neg (by omega)]
theorem dsc_up {c : Nat} (h : Up c) : dsc c = [(c - 55) / 10, (c - 55) % 10] := by
  unfold dsc
  rw [if_pos h]
theorem full_snoc (l : List UInt8) (c : UInt8) (h : Dg c.toNat) : full (l ++ [c]) = (c.toNat - 48) + tot l := by
  unfold full tot
  rw [ds_append, ds, ds, dsc_dg h]
  simp [sm, wgt]
theorem dgN_lt (l : List UInt8) : dgN l < 10 := Nat.mod_lt _ (by omega)
theorem full_dgN (l : List UInt8) (c : UInt8) (h : Dg c.toNat) : full (l ++ [c]) % 10 = 0 ↔ c.toNat = 48 + dgN l := by
  rw [full_snoc l c h]
  unfold dgN
  omega
/-- one step of the sum, from the right -/
theorem sm_up (b : Bool) (l : List UInt8) (c : UInt8) (h : Up c.toNat) : sm b (ds (l ++ [c])).reverse = wgt b ((c.toNat - 55) % 10) + wgt (!b) ((c.toNat - 55) / 10) + sm b (ds l).reverse := by
  rw [ds_append, ds, ds, dsc_up h]
  simp [sm, Nat.add_assoc]
theorem sm_dg (b : Bool) (l : List UInt8) (c : UInt8) (h : Dg c.toNat) : sm b (ds (l ++ [c])).reverse = wgt b (c.toNat - 48) + sm (!b) (ds l).reverse := by
  rw [ds_append, ds, ds, dsc_dg h]
  simp [sm]
theorem okFrom_an : ∀ {i : Nat} {l : List UInt8}, okFrom i l = true → an l = true
  | _, [], _ => rfl
  | i, c :: l, h => by
    rw [okFrom, Bool.and_eq_true] at h
    rw [an, okFrom_an h.2, Bool.and_true]
    have h1 := h.1
    simp only [Bool.or_eq_true, Bool.and_eq_true, decide_eq_true_eq] at h1 ⊢
    omega
theorem okFrom_of_an : ∀ {i : Nat} {l : List UInt8}, 2 ≤ i → okFrom i l = an l
  | _, [], _ => rfl
  | i, c :: l, h => by
    rw [okFrom, an, okFrom_of_an (by omega : 2 ≤ i + 1), decide_eq_true h, Bool.true_and]
theorem head_an {l : List UInt8} (h : head l = true) : an l = true := by
  unfold head at h
  rw [Bool.and_eq_true] at h
  exact okFrom_an h.2
theorem head_len {l : List UInt8} (h : head l = true) : l.length = 11 := by
  unfold head at h
  rw [Bool.and_eq_true, decide_eq_true_eq] at h
  exact h.1
theorem head_eq {l : List UInt8} (hl : l.length = 11) : head l = (an l && (decide (65 ≤ (l.getD 0 0).toNat) && decide (65 ≤ (l.getD 1 0).toNat))) := by
  match l, hl with
  | a :: b :: l, hl =>
    unfold head
    rw [decide_eq_true hl, Bool.true_and, okFrom, okFrom, okFrom_of_an (by omega), an, an]
    simp only [List.getD_cons_zero, List.getD_cons_succ]
    rw [Bool.eq_iff_iff]
    simp only [Bool.or_eq_true, Bool.and_eq_true, decide_eq_true_eq]
    constructor
    · rintro ⟨h1, h2, h3⟩
      exact ⟨⟨by omega, by omega, h3⟩, by omega, by omega⟩
    · rintro ⟨⟨h1, h2, h3⟩, h4, h5⟩
      exact ⟨by omega, by omega, h3⟩
theorem okFrom_iff : ∀ {i : Nat} {l : List UInt8}, okFrom i l = true ↔ ∀ j, j < l.length → Up (l.getD j 0).toNat ∨ 2 ≤ i + j ∧ Dg (l.getD j 0).toNat
  | _, [] => by simp [okFrom]
  | i, c :: l => by
    rw [okFrom, Bool.and_eq_true, okFrom_iff]
    simp only [Bool.or_eq_true, Bool.and_eq_true, decide_eq_true_eq]
    constructor
    · rintro ⟨h1, h2⟩ j hj
      match j with
      | 0 => simpa using h1
      | j + 1 =>
        have := h2 j (by simpa using hj)
        rw [List.getD_cons_succ]
        rw [show i + (j + 1) = i + 1 + j by omega]
        exact this
    · intro h
      refine ⟨by simpa using h 0 (by simp), fun j hj => ?_⟩
      have := h (j + 1) (by simpa using hj)
      rw [List.getD_cons_succ] at this
      rw [show i + 1 + j = i + (j + 1) by omega]
      exact this
theorem take_getD {l : List UInt8} {n j : Nat} (h : j < n) : (l.take n).getD j 0 = l.getD j 0 := by
  rw [List.getD_eq_getElem?_getD, List.getD_eq_getElem?_getD, List.getElem?_take_of_lt h]
theorem shp_iff {l : List UInt8} : shp l = true ↔ l.length = 12 ∧ (∀ j, j < 11 → Up (l.getD j 0).toNat ∨ 2 ≤ j ∧ Dg (l.getD j 0).toNat) ∧ Dg (l.getD 11 0).toNat := by
  unfold shp head
  simp only [Bool.and_eq_true, decide_eq_true_eq, okFrom_iff]
  constructor
  · rintro ⟨h1, h2, h3, h4⟩
    refine ⟨h1, fun j hj => ?_, h2⟩
    have := h4 j (by omega)
    rw [take_getD hj, Nat.zero_add] at this
    exact this
  · rintro ⟨h1, h2, h3⟩
    refine ⟨h1, h3, by simp [h1], fun j hj => ?_⟩
    have hj' : j < 11 := by
      have : (l.take 11).length = 11 := by simp [h1]
      omega
    rw [take_getD hj', Nat.zero_add]
    exact h2 j hj'
theorem last_of {l : List UInt8} (h : l.length = 12) : l = l.take 11 ++ [l.getD 11 0] := by
  have h1 : l.drop 11 = [l.getD 11 0] := by
    rw [List.drop_eq_getElem_cons (by omega), List.drop_of_length_le (by omega), List.getD_eq_getElem?_getD, List.getElem?_eq_getElem (by omega)]
    rfl
  rw [← h1, List.take_append_drop]
theorem full_last {l : List UInt8} (h : l.length = 12) (hd : Dg (l.getD 11 0).toNat) : full l % 10 = 0 ↔ (l.getD 11 0).toNat = 48 + dgN (l.take 11) := by
  have h1 := full_dgN (l.take 11) (l.getD 11 0) hd
  rw [← last_of h] at h1
  exact h1
theorem chk_ok {l : List UInt8} : chk l = 0 ↔ shp l = true ∧ full l % 10 = 0 := by
  unfold chk
  split
  · split
    · simp_all
    · simp_all
  · simp_all
theorem chk_cases (l : List UInt8) : chk l = 0 ∨ chk l = 11 ∨ chk l = 12 := by
  unfold chk
  split
  · split
    · exact Or.inl rfl
    · exact Or.inr (Or.inr rfl)
  · exact Or.inr (Or.inl rfl)
def zer (n : Nat) : List UInt8 := List.replicate n 48
def elev (land own : List UInt8) : List UInt8 := land ++ (zer (9 - own.length) ++ own)
def mkOk (land own : List UInt8) : Bool := decide (land.length = 2) && (decide (own.length ≤ 9) && head (elev land own))
def lastB (l : List UInt8) : UInt8 := (48 + dgN l).toUInt8
def mk (land own : List UInt8) : List UInt8 := if mkOk land own = true then elev land own ++ [lastB (elev land own)] else []
def mkE (land own : List UInt8) : Nat := if mkOk land own = true then 0 else 11
def trim (l : List UInt8) : List UInt8 := l.dropWhile (fun c => c == 48)
def landOf (l : List UInt8) : List UInt8 := if chk l = 0 then l.take 2 else []
def ownOf (l : List UInt8) : List UInt8 := if chk l = 0 then trim ((l.drop 2).take 9) else []
theorem lastB_nat (l : List UInt8) : (lastB l).toNat = 48 + dgN l := by
  have := dgN_lt l
  unfold lastB
  simp
  omega
theorem mk_snoc {l : List UInt8} (h : head l = true) : chk (l ++ [lastB l]) = 0 := by
  have hl := head_len h
  have hlast : (l ++ [lastB l]).getD 11 0 = lastB l := by
    rw [List.getD_eq_getElem?_getD, List.getElem?_append_right (by omega)]
    simp [hl]
  have hdg : Dg (lastB l).toNat := by
    have := lastB_nat l
    have := dgN_lt l
    omega
  rw [chk_ok]
  refine ⟨?_, ?_⟩
  · unfold shp
    rw [hlast, decide_eq_true hdg, List.take_append_of_le_length (by omega), List.take_of_length_le (by omega), h]
    simp [hl]
  · rw [full_dgN l _ hdg, lastB_nat]
theorem trim_zer : ∀ (n : Nat) (l : List UInt8), trim (zer n ++ l) = trim l
  | 0, l => by simp [zer]
  | n + 1, l => by
    have := trim_zer n l
    unfold trim zer at *
    rw [List.replicate_succ, List.cons_append, List.dropWhile_cons_of_pos (by decide)]
    exact this
theorem back_all {land own : List UInt8} (h : mkOk land own = true) : chk (mk land own) = 0 ∧ landOf (mk land own) = land ∧ ownOf (mk land own) = trim own := by
  have h0 := h
  unfold mkOk at h0
  simp only [Bool.and_eq_true, decide_eq_true_eq] at h0
  obtain ⟨h1, h2, h3⟩ := h0
  have hc : chk (mk land own) = 0 := by
    unfold mk
    rw [if_pos h]
    exact mk_snoc h3
  refine ⟨hc, ?_, ?_⟩
  · unfold landOf
    rw [if_pos hc]
    unfold mk
    rw [if_pos h]
    unfold elev
    rw [List.append_assoc, List.take_append_of_le_length (by omega), List.take_of_length_le (by omega)]
  · unfold ownOf
    rw [if_pos hc]
    unfold mk
    rw [if_pos h]
    unfold elev
    rw [List.append_assoc, List.drop_append_of_le_length (by omega), List.drop_of_length_le (by omega), List.nil_append, List.take_append_of_le_length (by simp [zer]; omega), List.take_of_length_le (by simp [zer]; omega), trim_zer]
theorem mk_none {land own : List UInt8} (h : ¬ mkOk land own = true) : mk land own = [] := by
  unfold mk
  rw [if_neg h]
theorem wgt_inj : ∀ b : Bool, ∀ x, x < 10 → ∀ y, y < 10 → wgt b x % 10 = wgt b y % 10 → x = y := by decide +kernel
theorem wgt_two : ∀ b : Bool, ∀ x, x < 10 → ∀ y, y < 10 → (wgt b y + wgt (!b) x) % 10 = (wgt b x + wgt (!b) y) % 10 → x = y ∨ x = 0 ∧ y = 9 ∨ x = 9 ∧ y = 0 := by decide +kernel
theorem full_at (p q : List UInt8) (x : UInt8) (h : Dg x.toNat) : full (p ++ x :: q) = sm false (ds q).reverse + (wgt (fl false (ds q).reverse) (x.toNat - 48) + sm (!fl false (ds q).reverse) (ds p).reverse) := by
  unfold full
  rw [ds_append, ds, dsc_dg h, List.reverse_append, List.reverse_append, List.append_assoc, sm_append]
  simp [sm]
theorem full_at2 (p q : List UInt8) (x y : UInt8) (h : Dg x.toNat) (h2 : Dg y.toNat) : full (p ++ x :: y :: q) = sm false (ds q).reverse + (wgt (fl false (ds q).reverse) (y.toNat - 48) + (wgt (!fl false (ds q).reverse) (x.toNat - 48) + sm (fl false (ds q).reverse) (ds p).reverse)) := by
  unfold full
  rw [ds_append, ds, ds, dsc_dg h, dsc_dg h2, List.reverse_append, List.reverse_append, List.reverse_append, List.append_assoc, List.append_assoc, sm_append]
  simp [sm]
theorem getD_app (p q : List UInt8) (x : UInt8) (j : Nat) : (p ++ x :: q).getD j 0 = if j < p.length then p.getD j 0 else if j = p.length then x else q.getD (j - p.length - 1) 0 := by
  rw [List.getD_eq_getElem?_getD, List.getD_eq_getElem?_getD, List.getD_eq_getElem?_getD]
  by_cases h : j < p.length
  · rw [if_pos h, List.getElem?_append_left h]
  · rw [if_neg h, List.getElem?_append_right (by omega)]
    by_cases h2 : j = p.length
    · rw [if_pos h2, h2, Nat.sub_self]
      rfl
    · rw [if_neg h2, show j - p.length = (j - p.length - 1) + 1 by omega]
      simp
theorem shp_at {p q : List UInt8} {x d : UInt8} (h : shp (p ++ x :: q) = true) (hx : Dg x.toNat) (hd : Dg d.toNat) : shp (p ++ d :: q) = true := by
  rw [shp_iff] at h ⊢
  obtain ⟨h1, h2, h3⟩ := h
  have hp : 2 ≤ p.length := by
    by_cases hp : 2 ≤ p.length
    · exact hp
    · have := h2 p.length (by omega)
      rw [getD_app, if_neg (by omega), if_pos rfl] at this
      omega
  refine ⟨by simpa using h1, fun j hj => ?_, ?_⟩
  · have := h2 j hj
    rw [getD_app] at this ⊢
    by_cases k1 : j < p.length
    · rw [if_pos k1] at this ⊢
      exact this
    · rw [if_neg k1] at this ⊢
      by_cases k2 : j = p.length
      · rw [if_pos k2]
        exact Or.inr ⟨by omega, hd⟩
      · rw [if_neg k2] at this ⊢
        exact this
  · rw [getD_app] at h3 ⊢
    by_cases k1 : 11 < p.length
    · rw [if_pos k1] at h3 ⊢
      exact h3
    · rw [if_neg k1] at h3 ⊢
      by_cases k2 : 11 = p.length
      · rw [if_pos k2]
        exact hd
      · rw [if_neg k2] at h3 ⊢
        exact h3
theorem slip_one {p q : List UInt8} {x d : UInt8} (h : chk (p ++ x :: q) = 0) (hx : Dg x.toNat) (hd : Dg d.toNat) : chk (p ++ d :: q) = 0 ↔ d = x := by
  rw [chk_ok] at h ⊢
  obtain ⟨h1, h2⟩ := h
  constructor
  · rintro ⟨_, h3⟩
    rw [full_at _ _ _ hx] at h2
    rw [full_at _ _ _ hd] at h3
    have := wgt_inj (fl false (ds q).reverse) (d.toNat - 48) (by omega) (x.toNat - 48) (by omega) (by omega)
    exact UInt8.toNat_inj.1 (by omega)
  · rintro rfl
    exact ⟨h1, h2⟩
theorem slip_two {p q : List UInt8} {x y : UInt8} (h : chk (p ++ x :: y :: q) = 0) (hx : Dg x.toNat) (hy : Dg y.toNat) (h9 : ¬ (x.toNat = 48 ∧ y.toNat = 57 ∨ x.toNat = 57 ∧ y.toNat = 48)) : chk (p ++ y :: x :: q) = 0 ↔ x = y := by
  rw [chk_ok] at h ⊢
  obtain ⟨h1, h2⟩ := h
  constructor
  · rintro ⟨_, h3⟩
    rw [full_at2 _ _ _ _ hx hy] at h2
    rw [full_at2 _ _ _ _ hy hx] at h3
    have := wgt_two (fl false (ds q).reverse) (x.toNat - 48) (by omega) (y.toNat - 48) (by omega) (by omega)
    rcases this with h | h | h
    · exact UInt8.toNat_inj.1 (by omega)
    · omega
    · omega
  · rintro rfl
    exact ⟨h1, h2⟩
end Go.Proofs.Ytheikjjehidagaa.H5.N5
