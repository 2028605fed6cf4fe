/- Numbers of layer 5: signs, their digits, the sum that tells a slip, and what the calls answer, as functions of lists of bytes. -/
import Derived.Test.YtdmlgheajblcdaaGreatRows
import Derived.WalkKit
import Derived.ProofKit
import Derived.Handy
import Derived.WalkLawsBesides
import Derived.WalkSpells
import Derived.BigQuiet
import Derived.BigCall
import Derived.Deep.QuietTactic
import Derived.Deep.Light
import Derived.Deep.OwnRows
import Derived.Laws.AppendOwnNone
import Derived.Laws.Strings3
import Derived.Laws.RangeAny
import Derived.Deep.RegionWith
import Derived.Lib.BitFns
import Derived.Lib.Walk
import Derived.Lib.Strings
import Derived.Lib.OthersKept
import Derived.Deep.CutBlock
import Derived.Deep.DeepCutAuto
import Derived.Deep.LoopGhost
import Derived.Deep.RegionHeld3
import Derived.Lib.SmallJoins
import Derived.Maps.AppendAt
import Derived.Laws.IdiomStrings
import Derived.Lib.AppendZeros
import Derived.Deep.WholeRow
import Derived.Laws.BitsAllLaws
import Derived.Lib.ConvBytes
import Derived.Deep.RegionLaw
namespace Go.Proofs.YtdmlgheajblcdaaGreat.N5
open Go.RowKit
set_option linter.unusedVariables false
set_option linter.unusedSimpArgs false
abbrev Up (c : Nat) : Prop := 65 ≤ c ∧ c ≤ 90
abbrev Dg (c : Nat) : Prop := 48 ≤ c ∧ c ≤ 57
def dsc (c : Nat) : List Nat := if 65 ≤ c ∧ c ≤ 90 then [(c - 55) / 10, (c - 55) % 10] else [c - 48]
def ds : List UInt8 → List Nat
  | [] => []
  | c :: l => dsc c.toNat ++ ds l
def wgt (b : Bool) (d : Nat) : Nat := if b then 2 * d / 10 + 2 * d % 10 else d
def sm : Bool → List Nat → Nat
  | _, [] => 0
  | b, d :: r => wgt b d + sm (!b) r
def fl : Bool → List Nat → Bool
  | b, [] => b
  | b, _ :: r => fl (!b) r
def full (l : List UInt8) : Nat := sm false (ds l).reverse
def tot (l : List UInt8) : Nat := sm true (ds l).reverse
def dgN (l : List UInt8) : Nat := (10 - tot l % 10) % 10
/-- letters and digits alone -/
def an : List UInt8 → Bool
  | [] => true
  | c :: l => (decide (Up c.toNat) || decide (Dg c.toNat)) && an l
/-- from place i on: a letter, or, behind the land, a digit -/
def okFrom : Nat → List UInt8 → Bool
  | _, [] => true
  | i, c :: l => (decide (Up c.toNat) || (decide (2 ≤ i) && decide (Dg c.toNat))) && okFrom (i + 1) l
def head (l : List UInt8) : Bool := decide (l.length = 11) && okFrom 0 l
def rgt (l : List UInt8) : Bool := an l && decide (full l % 10 = 0)
def shp (l : List UInt8) : Bool := decide (l.length = 12) && (decide (Dg (l.getD 11 0).toNat) && head (l.take 11))
def chk (l : List UInt8) : Nat := if shp l = true then (if full l % 10 = 0 then 0 else 12) else 11

theorem ds_append : ∀ a b : List UInt8, ds (a ++ b) = ds a ++ ds b
  | [], b => rfl
  | x :: a, b => by rw [List.cons_append, ds, ds, ds_append a b, List.append_assoc]
theorem an_append : ∀ a b : List UInt8, an (a ++ b) = (an a && an b)
  | [], b => by simp [an]
  | x :: a, b => by rw [List.cons_append, an, an, an_append a b, Bool.and_assoc]
theorem sm_append : ∀ (b : Bool) (x y : List Nat), sm b (x ++ y) = sm b x + sm (fl b x) y
  | b, [], y => by simp [sm, fl]
  | b, d :: x, y => by rw [List.cons_append, sm, sm, fl, sm_append (!b) x y, Nat.add_assoc]
theorem wgt_le : ∀ (b : Bool) (d : Nat), d ≤ 9 → wgt b d ≤ 9 := by
  intro b d h
  unfold wgt
  split <;> omega
theorem dsc_le {c : Nat} (h : Up c ∨ Dg c) : ∀ d ∈ dsc c, d ≤ 9 := by
  unfold dsc
  intro d hd
  split at hd
  · simp only [List.mem_cons, List.not_mem_nil, or_false] at hd
    omega
  · simp only [List.mem_cons, List.not_mem_nil, or_false] at hd
    omega
theorem ds_le : ∀ {l : List UInt8}, an l = true → ∀ d ∈ ds l, d ≤ 9
  | [], _ => by simp [ds]
  | c :: l, h => by
    rw [an, Bool.and_eq_true, Bool.or_eq_true, decide_eq_true_eq, decide_eq_true_eq] at h
    intro d hd
    rw [ds, List.mem_append] at hd
    rcases hd with hd | hd
    · exact dsc_le h.1 d hd
    · exact ds_le h.2 d hd
theorem dsc_len (c : Nat) : (dsc c).length ≤ 2 := by
  unfold dsc
  split <;> simp
theorem ds_len : ∀ l : List UInt8, (ds l).length ≤ 2 * l.length
  | [] => by simp [ds]
  | c :: l => by
    have h1 := dsc_len c.toNat
    have h2 := ds_len l
    rw [ds, List.length_append, List.length_cons]
    omega
theorem sm_le : ∀ (b : Bool) (x : List Nat), (∀ d ∈ x, d ≤ 9) → sm b x ≤ 9 * x.length
  | b, [], _ => by simp [sm]
  | b, d :: x, h => by
    have h1 := wgt_le b d (h d (by simp))
    have h2 := sm_le (!b) x (fun e he => h e (by simp [he]))
    rw [sm, List.length_cons]
    omega
theorem dsc_dg {c : Nat} (h : Dg c) : dsc c = [c - 48] := by
  unfold dsc
  rw [if_neg (by omega)]
theorem dsc_up {c : Nat} (h : Up c) : dsc c = [(c - 55) / 10, (c - 55) % 10] := by
  unfold dsc
  rw [if_pos h]
theorem full_snoc (l : List UInt8) (c : UInt8) (h : Dg c.toNat) : full (l ++ [c]) = (c.toNat - 48) + tot l := by
  unfold full tot
  rw [ds_append, ds, ds, dsc_dg h]
  simp [sm, wgt]
theorem dgN_lt (l : List UInt8) : dgN l < 10 := Nat.mod_lt _ (by omega)
theorem full_dgN (l : List UInt8) (c : UInt8) (h : Dg c.toNat) : full (l ++ [c]) % 10 = 0 ↔ c.toNat = 48 + dgN l := by
  rw [full_snoc l c h]
  unfold dgN
  omega
/-- one step of the sum, from the right -/
theorem sm_up (b : Bool) (l : List UInt8) (c : UInt8) (h : Up c.toNat) : sm b (ds (l ++ [c])).reverse = wgt b ((c.toNat - 55) % 10) + wgt (!b) ((c.toNat - 55) / 10) + sm b (ds l).reverse := by
  rw [ds_append, ds, ds, dsc_up h]
  simp [sm, Nat.add_assoc]
theorem sm_dg (b : Bool) (l : List UInt8) (c : UInt8) (h : Dg c.toNat) : sm b (ds (l ++ [c])).reverse = wgt b (c.toNat - 48) + sm (!b) (ds l).reverse := by
  rw [ds_append, ds, ds, dsc_dg h]
  simp [sm]
theorem okFrom_an : ∀ {i : Nat} {l : List UInt8}, okFrom i l = true → an l = true
  | _, [], _ => rfl
  | i, c :: l, h => by
    rw [okFrom, Bool.and_eq_true] at h
    rw [an, okFrom_an h.2, Bool.and_true]
    have h1 := h.1
    simp only [Bool.or_eq_true, Bool.and_eq_true, decide_eq_true_eq] at h1 ⊢
    omega
theorem okFrom_of_an : ∀ {i : Nat} {l : List UInt8}, 2 ≤ i → okFrom i l = an l
  | _, [], _ => rfl
  | i, c :: l, h => by
    rw [okFrom, an, okFrom_of_an (by omega : 2 ≤ i + 1), decide_eq_true h, Bool.true_and]
theorem head_an {l : List UInt8} (h : head l = true) : an l = true := by
  unfold head at h
  rw [Bool.and_eq_true] at h
  exact okFrom_an h.2
theorem head_len {l : List UInt8} (h : head l = true) : l.length = 11 := by
  unfold head at h
  rw [Bool.and_eq_true, decide_eq_true_eq] at h
  exact h.1
theorem head_eq {l : List UInt8} (hl : l.length = 11) : head l = (an l && (decide (65 ≤ (l.getD 0 0).toNat) && decide (65 ≤ (l.getD 1 0).toNat))) := by
  match l, hl with
  | a :: b :: l, hl =>
    unfold head
    rw [decide_eq_true hl, Bool.true_and, okFrom, okFrom, okFrom_of_an (by omega), an, an]
    simp only [List.getD_cons_zero, List.getD_cons_succ]
    rw [Bool.eq_iff_iff]
    simp only [Bool.or_eq_true, Bool.and_eq_true, decide_eq_true_eq]
    constructor
    · rintro ⟨h1, h2, h3⟩
      exact ⟨⟨by omega, by omega, h3⟩, by omega, by omega⟩
    · rintro ⟨⟨h1, h2, h3⟩, h4, h5⟩
      exact ⟨by omega, by omega, h3⟩
end Go.Proofs.YtdmlgheajblcdaaGreat.N5

/- Numbers of layer 5: what Check, Make and Land answer, that what is made is told again, and that slips are told. -/
namespace Go.Proofs.YtdmlgheajblcdaaGreat.N5
open Go.RowKit
set_option linter.unusedVariables false
set_option linter.unusedSimpArgs false
theorem okFrom_iff : ∀ {i : Nat} {l : List UInt8}, okFrom i l = true ↔ ∀ j, j < l.length → Up (l.getD j 0).toNat ∨ 2 ≤ i + j ∧ Dg (l.getD j 0).toNat
  | _, [] => by simp [okFrom]
  | i, c :: l => by
    rw [okFrom, Bool.and_eq_true, okFrom_iff]
    simp only [Bool.or_eq_true, Bool.and_eq_true, decide_eq_true_eq]
    constructor
    · rintro ⟨h1, h2⟩ j hj
      match j with
      | 0 => simpa using h1
      | j + 1 =>
        have := h2 j (by simpa using hj)
        rw [List.getD_cons_succ]
        rw [show i + (j + 1) = i + 1 + j by omega]
        exact this
    · intro h
      refine ⟨by simpa using h 0 (by simp), fun j hj => ?_⟩
      have := h (j + 1) (by simpa using hj)
      rw [List.getD_cons_succ] at this
      rw [show i + 1 + j = i + (j + 1) by omega]
      exact this
theorem take_getD {l : List UInt8} {n j : Nat} (h : j < n) : (l.take n).getD j 0 = l.getD j 0 := by
  rw [List.getD_eq_getElem?_getD, List.getD_eq_getElem?_getD, List.getElem?_take_of_lt h]
theorem shp_iff {l : List UInt8} : shp l = true ↔ l.length = 12 ∧ (∀ j, j < 11 → Up (l.getD j 0).toNat ∨ 2 ≤ j ∧ Dg (l.getD j 0).toNat) ∧ Dg (l.getD 11 0).toNat := by
  unfold shp head
  simp only [Bool.and_eq_true, decide_eq_true_eq, okFrom_iff]
  constructor
  · rintro ⟨h1, h2, h3, h4⟩
    refine ⟨h1, fun j hj => ?_, h2⟩
    have := h4 j (by omega)
    rw [take_getD hj, Nat.zero_add] at this
    exact this
  · rintro ⟨h1, h2, h3⟩
    refine ⟨h1, h3, by simp [h1], fun j hj => ?_⟩
    have hj' : j < 11 := by
      have : (l.take 11).length = 11 := by simp [h1]
      omega
    rw [take_getD hj', Nat.zero_add]
    exact h2 j hj'
theorem last_of {l : List UInt8} (h : l.length = 12) : l = l.take 11 ++ [l.getD 11 0] := by
  have h1 : l.drop 11 = [l.getD 11 0] := by
    rw [List.drop_eq_getElem_cons (by omega), List.drop_of_length_le (by omega), List.getD_eq_getElem?_getD, List.getElem?_eq_getElem (by omega)]
    rfl
  rw [← h1, List.take_append_drop]
theorem full_last {l : List UInt8} (h : l.length = 12) (hd : Dg (l.getD 11 0).toNat) : full l % 10 = 0 ↔ (l.getD 11 0).toNat = 48 + dgN (l.take 11) := by
  have h1 := full_dgN (l.take 11) (l.getD 11 0) hd
  rw [← last_of h] at h1
  exact h1
theorem chk_ok {l : List UInt8} : chk l = 0 ↔ shp l = true ∧ full l % 10 = 0 := by
  unfold chk
  split
  · split
    · simp_all
    · simp_all
  · simp_all
theorem chk_cases (l : List UInt8) : chk l = 0 ∨ chk l = 11 ∨ chk l = 12 := by
  unfold chk
  split
  · split
    · exact Or.inl rfl
    · exact Or.inr (Or.inr rfl)
  · exact Or.inr (Or.inl rfl)
def zer (n : Nat) : List UInt8 := List.replicate n 48
def elev (land own : List UInt8) : List UInt8 := land ++ (zer (9 - own.length) ++ own)
def mkOk (land own : List UInt8) : Bool := decide (land.length = 2) && (decide (own.length ≤ 9) && head (elev land own))
def lastB (l : List UInt8) : UInt8 := (48 + dgN l).toUInt8
def mk (land own : List UInt8) : List UInt8 := if mkOk land own = true then elev land own ++ [lastB (elev land own)] else []
def mkE (land own : List UInt8) : Nat := if mkOk land own = true then 0 else 11
def trim (l : List UInt8) : List UInt8 := l.dropWhile (fun c => c == 48)
def landOf (l : List UInt8) : List UInt8 := if chk l = 0 then l.take 2 else []
def ownOf (l : List UInt8) : List UInt8 := if chk l = 0 then trim ((l.drop 2).take 9) else []
theorem lastB_nat (l : List UInt8) : (lastB l).toNat = 48 + dgN l := by
  have := dgN_lt l
  unfold lastB
  simp
  omega
theorem mk_snoc {l : List UInt8} (h : head l = true) : chk (l ++ [lastB l]) = 0 := by
  have hl := head_len h
  have hlast : (l ++ [lastB l]).getD 11 0 = lastB l := by
    rw [List.getD_eq_getElem?_getD, List.getElem?_append_right (by omega)]
    simp [hl]
  have hdg : Dg (lastB l).toNat := by
    have := lastB_nat l
    have := dgN_lt l
    omega
  rw [chk_ok]
  refine ⟨?_, ?_⟩
  · unfold shp
    rw [hlast, decide_eq_true hdg, List.take_append_of_le_length (by omega), List.take_of_length_le (by omega), h]
    simp [hl]
  · rw [full_dgN l _ hdg, lastB_nat]
theorem trim_zer : ∀ (n : Nat) (l : List UInt8), trim (zer n ++ l) = trim l
  | 0, l => by simp [zer]
  | n + 1, l => by
    have := trim_zer n l
    unfold trim zer at *
    rw [List.replicate_succ, List.cons_append, List.dropWhile_cons_of_pos (by decide)]
    exact this
theorem back_all {land own : List UInt8} (h : mkOk land own = true) : chk (mk land own) = 0 ∧ landOf (mk land own) = land ∧ ownOf (mk land own) = trim own := by
  have h0 := h
  unfold mkOk at h0
  simp only [Bool.and_eq_true, decide_eq_true_eq] at h0
  obtain ⟨h1, h2, h3⟩ := h0
  have hc : chk (mk land own) = 0 := by
    unfold mk
    rw [if_pos h]
    exact mk_snoc h3
  refine ⟨hc, ?_, ?_⟩
  · unfold landOf
    rw [if_pos hc]
    unfold mk
    rw [if_pos h]
    unfold elev
    rw [List.append_assoc, List.take_append_of_le_length (by omega), List.take_of_length_le (by omega)]
  · unfold ownOf
    rw [if_pos hc]
    unfold mk
    rw [if_pos h]
    unfold elev
    rw [List.append_assoc, List.drop_append_of_le_length (by omega), List.drop_of_length_le (by omega), List.nil_append, List.take_append_of_le_length (by simp [zer]; omega), List.take_of_length_le (by simp [zer]; omega), trim_zer]
theorem mk_none {land own : List UInt8} (h : ¬ mkOk land own = true) : mk land own = [] := by
  unfold mk
  rw [if_neg h]
theorem wgt_inj : ∀ b : Bool, ∀ x, x < 10 → ∀ y, y < 10 → wgt b x % 10 = wgt b y % 10 → x = y := by decide +kernel
theorem wgt_two : ∀ b : Bool, ∀ x, x < 10 → ∀ y, y < 10 → (wgt b y + wgt (!b) x) % 10 = (wgt b x + wgt (!b) y) % 10 → x = y ∨ x = 0 ∧ y = 9 ∨ x = 9 ∧ y = 0 := by decide +kernel
theorem full_at (p q : List UInt8) (x : UInt8) (h : Dg x.toNat) : full (p ++ x :: q) = sm false (ds q).reverse + (wgt (fl false (ds q).reverse) (x.toNat - 48) + sm (!fl false (ds q).reverse) (ds p).reverse) := by
  unfold full
  rw [ds_append, ds, dsc_dg h, List.reverse_append, List.reverse_append, List.append_assoc, sm_append]
  simp [sm]
theorem full_at2 (p q : List UInt8) (x y : UInt8) (h : Dg x.toNat) (h2 : Dg y.toNat) : full (p ++ x :: y :: q) = sm false (ds q).reverse + (wgt (fl false (ds q).reverse) (y.toNat - 48) + (wgt (!fl false (ds q).reverse) (x.toNat - 48) + sm (fl false (ds q).reverse) (ds p).reverse)) := by
  unfold full
  rw [ds_append, ds, ds, dsc_dg h, dsc_dg h2, List.reverse_append, List.reverse_append, List.reverse_append, List.append_assoc, List.append_assoc, sm_append]
  simp [sm]
theorem getD_app (p q : List UInt8) (x : UInt8) (j : Nat) : (p ++ x :: q).getD j 0 = if j < p.length then p.getD j 0 else if j = p.length then x else q.getD (j - p.length - 1) 0 := by
  rw [List.getD_eq_getElem?_getD, List.getD_eq_getElem?_getD, List.getD_eq_getElem?_getD]
  by_cases h : j < p.length
  · rw [if_pos h, List.getElem?_append_left h]
  · rw [if_neg h, List.getElem?_append_right (by omega)]
    by_cases h2 : j = p.length
    · rw [if_pos h2, h2, Nat.sub_self]
      rfl
    · rw [if_neg h2, show j - p.length = (j - p.length - 1) + 1 by omega]
      simp
theorem shp_at {p q : List UInt8} {x d : UInt8} (h : shp (p ++ x :: q) = true) (hx : Dg x.toNat) (hd : Dg d.toNat) : shp (p ++ d :: q) = true := by
  rw [shp_iff] at h ⊢
  obtain ⟨h1, h2, h3⟩ := h
  have hp : 2 ≤ p.length := by
    by_cases hp : 2 ≤ p.length
    · exact hp
    · have := h2 p.length (by omega)
      rw [getD_app, if_neg (by omega), if_pos rfl] at this
      omega
  refine ⟨by simpa using h1, fun j hj => ?_, ?_⟩
  · have := h2 j hj
    rw [getD_app] at this ⊢
    by_cases k1 : j < p.length
    · rw [if_pos k1] at this ⊢
      exact this
    · rw [if_neg k1] at this ⊢
      by_cases k2 : j = p.length
      · rw [if_pos k2]
        exact Or.inr ⟨by omega, hd⟩
      · rw [if_neg k2] at this ⊢
        exact this
  · rw [getD_app] at h3 ⊢
    by_cases k1 : 11 < p.length
    · rw [if_pos k1] at h3 ⊢
      exact h3
    · rw [if_neg k1] at h3 ⊢
      by_cases k2 : 11 = p.length
      · rw [if_pos k2]
        exact hd
      · rw [if_neg k2] at h3 ⊢
        exact h3
theorem slip_one {p q : List UInt8} {x d : UInt8} (h : chk (p ++ x :: q) = 0) (hx : Dg x.toNat) (hd : Dg d.toNat) : chk (p ++ d :: q) = 0 ↔ d = x := by
  rw [chk_ok] at h ⊢
  obtain ⟨h1, h2⟩ := h
  constructor
  · rintro ⟨_, h3⟩
    rw [full_at _ _ _ hx] at h2
    rw [full_at _ _ _ hd] at h3
    have := wgt_inj (fl false (ds q).reverse) (d.toNat - 48) (by omega) (x.toNat - 48) (by omega) (by omega)
    exact UInt8.toNat_inj.1 (by omega)
  · rintro rfl
    exact ⟨h1, h2⟩
theorem slip_two {p q : List UInt8} {x y : UInt8} (h : chk (p ++ x :: y :: q) = 0) (hx : Dg x.toNat) (hy : Dg y.toNat) (h9 : ¬ (x.toNat = 48 ∧ y.toNat = 57 ∨ x.toNat = 57 ∧ y.toNat = 48)) : chk (p ++ y :: x :: q) = 0 ↔ x = y := by
  rw [chk_ok] at h ⊢
  obtain ⟨h1, h2⟩ := h
  constructor
  · rintro ⟨_, h3⟩
    rw [full_at2 _ _ _ _ hx hy] at h2
    rw [full_at2 _ _ _ _ hy hx] at h3
    have := wgt_two (fl false (ds q).reverse) (x.toNat - 48) (by omega) (y.toNat - 48) (by omega) (by omega)
    rcases this with h | h | h
    · exact UInt8.toNat_inj.1 (by omega)
    · omega
    · omega
  · rintro rfl
    exact ⟨h1, h2⟩
end Go.Proofs.YtdmlgheajblcdaaGreat.N5

/- The program's tests and turns of one sign: letter, digit, value, weigh. Condition: it is a byte. -/
namespace Go.Proofs.YtdmlgheajblcdaaGreat.N5
open Go.RowKit
set_option linter.unusedVariables false
set_option linter.unusedSimpArgs false
/-- A call answers a bool, and leaves the world alone. -/
def BP (p : Prop) [Decidable p] (w : World) (e : Ending) (w' : World) : Prop := e = .returned (.bool (decide p)) ∧ w = w'
theorem BP.t {p : Prop} [Decidable p] {w : World} (h : p) : BP p w (.returned (.bool true)) w := ⟨by rw [decide_eq_true h], rfl⟩
theorem BP.f {p : Prop} [Decidable p] {w : World} (h : ¬ p) : BP p w (.returned (.bool false)) w := ⟨by rw [decide_eq_false h], rfl⟩
theorem BP.b {p : Prop} [Decidable p] {w : World} {b : Bool} (h : b = true ↔ p) : BP p w (.returned (.bool b)) w := ⟨by rw [Bool.eq_iff_iff.2 (h.trans decide_eq_true_iff.symm)], rfl⟩
theorem calls_t {p : Prop} [Decidable p] {f : Nat} {args : Array Value} {w : World} (h : Calls Tryz.prog f args w (BP p w)) (hp : p) : Calls Tryz.prog f args w fun e w' => e = .returned (.bool true) ∧ w = w' :=
  h.mono fun e w' ⟨he, hw⟩ => ⟨by rw [he, decide_eq_true hp], hw⟩
theorem calls_f {p : Prop} [Decidable p] {f : Nat} {args : Array Value} {w : World} (h : Calls Tryz.prog f args w (BP p w)) (hp : ¬ p) : Calls Tryz.prog f args w fun e w' => e = .returned (.bool false) ∧ w = w' :=
  h.mono fun e w' ⟨he, hw⟩ => ⟨by rw [he, decide_eq_false hp], hw⟩
/-- A call answers a number, and leaves the world alone. -/
def NP (k : IntKind) (n : Int) (w : World) (e : Ending) (w' : World) : Prop := e = .returned (.int k n) ∧ w = w'
theorem NP.mk {k : IntKind} {n m : Int} {w : World} (h : m = n) : NP k n w (.returned (.int k m)) w := ⟨by rw [h], rfl⟩

set_option maxHeartbeats 4000000 in
theorem xletter (c : Nat) (hc : c < 256) (w : World) : Calls Tryz.prog 157 #[.int .u8 c] w (BP (Up c) w) := by
  go_enter Tryz.func157, Tryz.ntmps157
  go_wp2_with go_in
  all_goals go_ret
  all_goals first | exact BP.t (by omega) | exact BP.f (by omega) | (refine BP.b ?_; simp only [Bool.and_eq_true, Bool.or_eq_true, decide_eq_true_eq, bne_iff_ne, ne_eq, beq_iff_eq]; omega)
set_option maxHeartbeats 4000000 in
theorem xdigit (c : Nat) (hc : c < 256) (w : World) : Calls Tryz.prog 153 #[.int .u8 c] w (BP (Dg c) w) := by
  go_enter Tryz.func153, Tryz.ntmps153
  go_wp2_with go_in
  all_goals go_ret
  all_goals first | exact BP.t (by omega) | exact BP.f (by omega) | (refine BP.b ?_; simp only [Bool.and_eq_true, Bool.or_eq_true, decide_eq_true_eq, bne_iff_ne, ne_eq, beq_iff_eq]; omega)
/-- the number that a sign stands for -/
def vl (c : Nat) : Nat := if 65 ≤ c ∧ c ≤ 90 then c - 55 else c - 48
theorem vl_up {c : Nat} (h : Up c) : vl c = c - 55 := if_pos h
theorem vl_dg {c : Nat} (h : Dg c) : vl c = c - 48 := if_neg (by omega)
set_option maxHeartbeats 4000000 in
theorem xvalue (c : Nat) (hc : c < 256) (h : Up c ∨ Dg c) (w : World) : Calls Tryz.prog 158 #[.int .u8 c] w (NP .i64 (vl c) w) := by
  by_cases h1 : Up c
  · have H : Hid (vl c = c - 55) := vl_up h1
    have H1 : Hid (Up c) := h1
    have h65 : 65 ≤ c := h1.1
    clear h h1
    go_enter Tryz.func158, Tryz.ntmps158
    go_wp2_with fail
    refine (calls_t (xletter c hc _) H1.out).mono ?_
    rintro e w1 ⟨rfl, rfl⟩
    go_wp2_with fail
    go_ret
    exact NP.mk (by rw [H.out]; omega)
  · have h2 : Dg c := h.resolve_left h1
    have H : Hid (vl c = c - 48) := vl_dg h2
    have H1 : Hid (¬ Up c) := h1
    have h48 : 48 ≤ c := h2.1
    clear h h1 h2
    go_enter Tryz.func158, Tryz.ntmps158
    go_wp2_with fail
    refine (calls_f (xletter c hc _) H1.out).mono ?_
    rintro e w1 ⟨rfl, rfl⟩
    go_wp2_with fail
    go_ret
    exact NP.mk (by rw [H.out]; omega)
set_option maxHeartbeats 4000000 in
theorem xweigh (d : Nat) (hd : d ≤ 9) (b : Bool) (w : World) : Calls Tryz.prog 159 #[.int .i64 d, .bool b] w (NP .i64 (wgt b d) w) := by
  cases b
  · go_enter Tryz.func159, Tryz.ntmps159
    go_wp2_with fail
    go_ret
    exact NP.mk (by simp [wgt])
  · go_enter Tryz.func159, Tryz.ntmps159
    go_wp2_with fail
    go_ret
    exact NP.mk (by simp only [wgt, if_true]; omega)
end Go.Proofs.YtdmlgheajblcdaaGreat.N5

/- The program's walks over a text: head, sum. Condition: none; sum: a text of eleven letters and digits. -/
namespace Go.Proofs.YtdmlgheajblcdaaGreat.N5
open Go.RowKit
set_option linter.unusedVariables false
set_option linter.unusedSimpArgs false
theorem at_data {s : ByteArray} {k : Nat} (h : k < s.size) : s.data.toList.getD k 0 = s[k] := by
  have h1 : k < s.data.toList.length := h
  rw [List.getD_eq_getElem?_getD, List.getElem?_eq_getElem h1]
  rfl
theorem drop_at {s : ByteArray} {k : Nat} (h : k < s.size) : s.data.toList.drop k = s[k] :: s.data.toList.drop (k + 1) := by
  have h1 : k < s.data.toList.length := h
  rw [List.drop_eq_getElem_cons h1]
  rfl
theorem take_at {s : ByteArray} {k : Nat} (h : k < s.size) : s.data.toList.take (k + 1) = s.data.toList.take k ++ [s[k]] := by
  rw [List.take_succ_eq_append_getElem (by simpa using h)]
  rfl
set_option maxHeartbeats 4000000 in
theorem xhead (s : ByteArray) (hs : s.size ≤ 9223372036854775807) (w : World) : Calls Tryz.prog 155 #[.string s] w (BP (head s.data.toList = true) w) := by
  have HL : Hid (s.data.toList.length = s.size) := rfl
  by_cases h11 : s.size = 11
  · have HH : Hid (head s.data.toList = okFrom 0 s.data.toList) := by
      unfold Hid head
      rw [HL.out, decide_eq_true h11, Bool.true_and]
    have hne : (((s.size : Nat) : Int) != 11) = false := by rw [h11]; rfl
    have h11z : (s.size : Int) ≤ 11 := by omega
    have H11 : Hid (s.size = 11) := h11
    clear h11
    go_enter Tryz.func155, Tryz.ntmps155
    go_wp2_with fail
    go_loopw [9] (fun i wr => ∃ k : Nat, i = .int .i64 k ∧ k ≤ s.size ∧ w = wr ∧ Hid (okFrom k (s.data.toList.drop k) = okFrom 0 s.data.toList)) (fun i _ => s.size - (Lib.intOf i).toNat)
    case atStart => exact ⟨0, rfl, Nat.zero_le _, by first | rfl | trivial, rfl⟩
    case round =>
      obtain ⟨k, rfl, hk, rfl, hok⟩ := hrel
      by_cases hkn : k < s.size
      · have hkz : (k : Int) < (s.size : Int) := by omega
        have Hd := drop_at hkn
        obtain ⟨x, hx⟩ : ∃ x : UInt8, s[k] = x := ⟨_, rfl⟩
        rw [hx] at Hd
        have HS : Hid (okFrom 0 s.data.toList = ((decide (Up x.toNat) || (decide (2 ≤ k) && decide (Dg x.toNat))) && okFrom (k + 1) (s.data.toList.drop (k + 1)))) := by
          have h1 := hok.out
          rw [Hd, okFrom] at h1
          exact h1.symm
        have hxl := x.toNat_lt
        clear Hd hok
        by_cases hu : Up x.toNat
        · have HU : Hid (Up x.toNat) := hu
          clear hu
          go_wp2_with (go_at_call 157; refine (calls_t (xletter x.toNat (by omega) _) HU.out).mono ?_; rintro e w1 ⟨rfl, rfl⟩)
          go_roundw
          case rel =>
            refine ⟨k + 1, by go_num, by omega, by first | rfl | trivial, ?_⟩
            unfold Hid
            rw [HS.out, decide_eq_true HU.out, Bool.true_or, Bool.true_and]
          case measure =>
            simp [Lib.intOf]
            omega
        · have HU : Hid (¬ Up x.toNat) := hu
          clear hu
          by_cases h2 : k < 2
          · have h2z : (k : Int) < 2 := by omega
            go_wp2_with (go_at_call 157; refine (calls_f (xletter x.toNat (by omega) _) HU.out).mono ?_; rintro e w1 ⟨rfl, rfl⟩)
            go_ret
            refine BP.f ?_
            rw [HH.out, HS.out, decide_eq_false HU.out, decide_eq_false (by omega : ¬ 2 ≤ k), Bool.false_and, Bool.or_false, Bool.false_and]
            exact Bool.false_ne_true
          · have h2z : ¬ (k : Int) < 2 := by omega
            by_cases hg : Dg x.toNat
            · have HG : Hid (Dg x.toNat) := hg
              clear hg
              go_wp2_with (first | (go_at_call 157; refine (calls_f (xletter x.toNat (by omega) _) HU.out).mono ?_; rintro e w1 ⟨rfl, rfl⟩) | (go_at_call 153; refine (calls_t (xdigit x.toNat (by omega) _) HG.out).mono ?_; rintro e w1 ⟨rfl, rfl⟩))
              go_roundw
              case rel =>
                refine ⟨k + 1, by go_num, by omega, by first | rfl | trivial, ?_⟩
                unfold Hid
                rw [HS.out, decide_eq_true HG.out, decide_eq_true (by omega : 2 ≤ k), Bool.true_and, Bool.or_true, Bool.true_and]
              case measure =>
                simp [Lib.intOf]
                omega
            · have HG : Hid (¬ Dg x.toNat) := hg
              clear hg
              go_wp2_with (first | (go_at_call 157; refine (calls_f (xletter x.toNat (by omega) _) HU.out).mono ?_; rintro e w1 ⟨rfl, rfl⟩) | (go_at_call 153; refine (calls_f (xdigit x.toNat (by omega) _) HG.out).mono ?_; rintro e w1 ⟨rfl, rfl⟩))
              go_ret
              refine BP.f ?_
              rw [HH.out, HS.out, decide_eq_false HU.out, decide_eq_false HG.out, Bool.and_false, Bool.or_false, Bool.false_and]
              exact Bool.false_ne_true
      · have hkz : ¬ (k : Int) < (s.size : Int) := by omega
        go_wp2_with fail
        go_ret
        refine BP.t ?_
        have h1 := hok.out
        rw [List.drop_of_length_le (by rw [HL.out]; omega), okFrom] at h1
        rw [HH.out]
        exact h1.symm
  · have HH : Hid (¬ head s.data.toList = true) := fun h => h11 ((HL.out).symm.trans (head_len h))
    have hne : (((s.size : Nat) : Int) != 11) = true := by rw [bne_iff_ne]; omega
    clear h11
    go_enter Tryz.func155, Tryz.ntmps155
    go_wp2_with fail
    go_ret
    exact BP.f HH.out
theorem an_at {l : List UInt8} (h : an l = true) : ∀ x ∈ l, Up x.toNat ∨ Dg x.toNat := by
  intro x hx
  induction l with
  | nil => simp at hx
  | cons c l ih =>
    rw [an, Bool.and_eq_true, Bool.or_eq_true, decide_eq_true_eq, decide_eq_true_eq] at h
    rcases List.mem_cons.1 hx with rfl | hx
    · exact h.1
    · exact ih h.2 hx
theorem xweighZ (z : Int) (d : Nat) (hz : z = d) (hd : d ≤ 9) (b : Bool) (w : World) : Calls Tryz.prog 159 #[.int .i64 z, .bool b] w (NP .i64 (wgt b d) w) := by
  subst hz
  exact xweigh d hd b w
set_option maxHeartbeats 4000000 in
theorem xsum (s : ByteArray) (hs : s.size = 11) (ha : an s.data.toList = true) (w : World) : Calls Tryz.prog 156 #[.string s] w (NP .i64 (tot s.data.toList) w) := by
  have HL : Hid (s.data.toList.length = s.size) := rfl
  have HA : Hid (∀ k (h : k < s.size), Up s[k].toNat ∨ Dg s[k].toNat) := fun k h => an_at ha _ (by rw [← at_data h, List.getD_eq_getElem?_getD, List.getElem?_eq_getElem (by exact h)]; exact List.getElem_mem _)
  have hs11 : (s.size : Int) ≤ 11 := by omega
  have hs11' : 11 ≤ (s.size : Int) := by omega
  have HS11 : Hid (s.size = 11) := hs
  clear hs ha
  go_enter Tryz.func156, Tryz.ntmps156
  go_wp2_with fail
  go_loopw [3, 4, 5] (fun t d i wr => ∃ (k m : Nat) (b : Bool), i = .int .i64 ((k : Int) - 1) ∧ k ≤ s.size ∧ t = .int .i64 m ∧ d = .bool b ∧ m ≤ 18 * (11 - k) ∧ w = wr ∧ Hid (m + sm b (ds (s.data.toList.take k)).reverse = tot s.data.toList)) (fun _ _ i _ => (Lib.intOf i + 1).toNat)
  case atStart => exact ⟨s.size, 0, true, by first | rfl | go_num, Nat.le_refl _, rfl, rfl, by omega, by first | rfl | trivial, by unfold Hid tot; rw [List.take_of_length_le (by rw [HL.out]; omega), Nat.zero_add]⟩
  case round =>
    obtain ⟨k, m, b, rfl, hk, rfl, rfl, hm, rfl, hsum⟩ := hrel
    have hm11 : m ≤ 18 * 11 := by omega
    by_cases hkn : 0 < k
    · obtain ⟨j, rfl⟩ : ∃ j, k = j + 1 := ⟨k - 1, by omega⟩
      have hj : j < s.size := by omega
      have e1 : ((j + 1 : Nat) : Int) - 1 = (j : Int) := by omega
      have hjz : (j : Int) < (s.size : Int) := by omega
      have ht := take_at hj
      have hAN := HA.out j hj
      obtain ⟨x, hx⟩ : ∃ x : UInt8, s[j] = x := ⟨_, rfl⟩
      rw [hx] at ht hAN
      have hxl := x.toNat_lt
      rw [e1]
      by_cases hu : Up x.toNat
      · have hst : Hid (m + (wgt b ((x.toNat - 55) % 10) + wgt (!b) ((x.toNat - 55) / 10) + sm b (ds (s.data.toList.take j)).reverse) = tot s.data.toList) := by
          have h1 := hsum.out
          rw [ht, sm_up b _ x hu] at h1
          exact h1
        have hw1 := wgt_le b ((x.toNat - 55) % 10) (by omega)
        have hw2 := wgt_le (!b) ((x.toNat - 55) / 10) (by omega)
        have HU : Hid (Up x.toNat) := hu
        have HV : Hid (vl x.toNat = x.toNat - 55) := vl_up hu
        have hv : vl x.toNat ≤ 35 := by rw [HV.out]; omega
        have e2 : (x.toNat - 55) % 10 = vl x.toNat % 10 := by rw [HV.out]
        have e3 : (x.toNat - 55) / 10 = vl x.toNat / 10 := by rw [HV.out]
        rw [e2, e3] at hst
        rw [e2] at hw1
        rw [e3] at hw2
        have HX : Hid (∀ w, Calls Tryz.prog 158 #[.int .u8 x.toNat] w (NP .i64 (vl x.toNat) w)) := fun w => xvalue x.toNat (by omega) hAN w
        have HP : Hid (∀ w, Calls Tryz.prog 159 #[.int .i64 ((vl x.toNat : Int) % 10), .bool b] w (NP .i64 (wgt b (vl x.toNat % 10)) w)) := fun w => xweighZ _ _ (by omega) (by omega) b w
        have HQ : Hid (∀ w, Calls Tryz.prog 159 #[.int .i64 ((vl x.toNat : Int) / 10), .bool (!b)] w (NP .i64 (wgt (!b) (vl x.toNat / 10)) w)) := fun w => xweighZ _ _ (by omega) (by omega) (!b) w
        clear hu ht hAN hsum e1 e2 e3 HV
        generalize vl x.toNat = v at *
        generalize wgt b (v % 10) = p at *
        generalize wgt (!b) (v / 10) = q at *
        go_wp2_with fail
        refine (HX.out _).mono ?_
        rintro e w1 ⟨rfl, rfl⟩
        go_wp2_with fail
        refine (HP.out _).mono ?_
        rintro e w1 ⟨rfl, rfl⟩
        go_wp2_with fail
        refine (calls_t (xletter x.toNat (by omega) _) HU.out).mono ?_
        rintro e w1 ⟨rfl, rfl⟩
        go_wp2_with fail
        refine (HQ.out _).mono ?_
        rintro e w1 ⟨rfl, rfl⟩
        go_wp2_with fail
        go_roundw
        case rel =>
          refine ⟨j, m + p + q, b, by go_num, by omega, by go_num, rfl, by omega, by first | rfl | trivial, ?_⟩
          have h1 := hst.out
          unfold Hid
          omega
        case measure =>
          simp [Lib.intOf]
      · have hg : Dg x.toNat := hAN.resolve_left hu
        have hst : Hid (m + (wgt b (x.toNat - 48) + sm (!b) (ds (s.data.toList.take j)).reverse) = tot s.data.toList) := by
          have h1 := hsum.out
          rw [ht, sm_dg b _ x hg] at h1
          exact h1
        have hw1 := wgt_le b (x.toNat - 48) (by omega)
        have HU : Hid (¬ Up x.toNat) := hu
        have HV : Hid (vl x.toNat = x.toNat - 48) := vl_dg hg
        have hv : vl x.toNat ≤ 9 := by rw [HV.out]; omega
        rw [← HV.out] at hst hw1
        have HX : Hid (∀ w, Calls Tryz.prog 158 #[.int .u8 x.toNat] w (NP .i64 (vl x.toNat) w)) := fun w => xvalue x.toNat (by omega) hAN w
        have HP : Hid (∀ w, Calls Tryz.prog 159 #[.int .i64 ((vl x.toNat : Int) % 10), .bool b] w (NP .i64 (wgt b (vl x.toNat)) w)) := fun w => xweighZ _ _ (by omega) (by omega) b w
        clear hu hg ht hAN hsum e1 HV
        generalize vl x.toNat = v at *
        generalize wgt b v = p at *
        go_wp2_with fail
        refine (HX.out _).mono ?_
        rintro e w1 ⟨rfl, rfl⟩
        go_wp2_with fail
        refine (HP.out _).mono ?_
        rintro e w1 ⟨rfl, rfl⟩
        go_wp2_with fail
        refine (calls_f (xletter x.toNat (by omega) _) HU.out).mono ?_
        rintro e w1 ⟨rfl, rfl⟩
        go_wp2_with fail
        go_roundw
        case rel =>
          refine ⟨j, m + p, !b, by go_num, by omega, by go_num, rfl, by omega, by first | rfl | trivial, ?_⟩
          have h1 := hst.out
          unfold Hid
          omega
        case measure =>
          simp [Lib.intOf]
    · obtain rfl : k = 0 := by omega
      go_wp2_with fail
      go_ret
      refine NP.mk ?_
      have h1 := hsum.out
      rw [List.take_zero] at h1
      simp [ds, sm] at h1
      omega
end Go.Proofs.YtdmlgheajblcdaaGreat.N5

/- The program's Digit and Check. Condition: none. -/
namespace Go.Proofs.YtdmlgheajblcdaaGreat.N5
open Go.RowKit
set_option linter.unusedVariables false
set_option linter.unusedSimpArgs false
def DP (a e : Nat) (w : World) (r : Ending) (w' : World) : Prop := r = .returned (.tuple #[.int .u8 a, .int .i64 e]) ∧ w = w'
theorem DP.mk {a e : Nat} {x y : Int} {w : World} (h : x = a) (h2 : y = e) : DP a e w (.returned (.tuple #[.int .u8 x, .int .i64 y])) w := ⟨by rw [h, h2], rfl⟩
def dgA (l : List UInt8) : Nat := if head l = true then 48 + dgN l else 0
def dgE (l : List UInt8) : Nat := if head l = true then 0 else 11
set_option maxHeartbeats 4000000 in
theorem xDigit (s : ByteArray) (hs : s.size ≤ 9223372036854775807) (w : World) : Calls Tryz.prog 154 #[.string s] w (DP (dgA s.data.toList) (dgE s.data.toList) w) := by
  by_cases h : head s.data.toList = true
  · have HA : Hid (dgA s.data.toList = 48 + dgN s.data.toList) := if_pos h
    have HE : Hid (dgE s.data.toList = 0) := if_pos h
    have HH : Hid (head s.data.toList = true) := h
    have h11 : s.size = 11 := head_len h
    have HS : Hid (∀ w, Calls Tryz.prog 156 #[.string s] w (NP .i64 (tot s.data.toList) w)) := fun w => xsum s h11 (head_an h) w
    have ht : tot s.data.toList ≤ 198 := by
      have h1 := sm_le true (ds s.data.toList).reverse (fun d hd => ds_le (head_an h) d (List.mem_reverse.1 hd))
      have h2 := ds_len s.data.toList
      have h3 : s.data.toList.length = 11 := h11
      unfold tot
      rw [List.length_reverse] at h1
      omega
    have HD : Hid (dgN s.data.toList = (10 - tot s.data.toList % 10) % 10) := rfl
    clear h h11
    generalize tot s.data.toList = t at *
    go_enter Tryz.func154, Tryz.ntmps154
    go_wp2_with fail
    refine (calls_t (xhead s hs _) HH.out).mono ?_
    rintro e w1 ⟨rfl, rfl⟩
    go_wp2_with fail
    refine (HS.out _).mono ?_
    rintro e w1 ⟨rfl, rfl⟩
    go_wp2_with fail
    go_ret2
    refine DP.mk ?_ ?_
    · rw [HA.out, HD.out]
      omega
    · rw [HE.out]
      rfl
  · have HA : Hid (dgA s.data.toList = 0) := if_neg h
    have HE : Hid (dgE s.data.toList = 11) := if_neg h
    have HH : Hid (¬ head s.data.toList = true) := h
    clear h
    go_enter Tryz.func154, Tryz.ntmps154
    go_wp2_with fail
    refine (calls_f (xhead s hs _) HH.out).mono ?_
    rintro e w1 ⟨rfl, rfl⟩
    go_wp2_with fail
    go_ret2
    exact DP.mk (by rw [HA.out]; rfl) (by rw [HE.out]; rfl)
theorem ext_take (s : ByteArray) (e : Nat) : (s.extract 0 e).data.toList = s.data.toList.take e := by
  simp [ByteArray.data_extract]
theorem ext_size (s : ByteArray) (e : Nat) : (s.extract 0 e).size ≤ s.size := by
  simp [ByteArray.size_extract]
  omega
set_option maxHeartbeats 4000000 in
theorem xCheck (s : ByteArray) (hs : s.size ≤ 9223372036854775807) (w : World) : Calls Tryz.prog 151 #[.string s] w (NP .i64 (chk s.data.toList) w) := by
  by_cases h12 : s.size = 12
  · have hne : (((s.size : Nat) : Int) != 12) = false := by rw [h12]; rfl
    have h12z : (12 : Int) ≤ (s.size : Int) := by omega
    have h11n : 11 < s.size := by omega
    have hx : s.data.toList.getD 11 0 = s[11] := at_data h11n
    have hl12 : s.data.toList.length = 12 := h12
    have HF := @full_last s.data.toList hl12
    have HSH : Hid (shp s.data.toList = (decide (Dg (s.data.toList.getD 11 0).toNat) && head (s.data.toList.take 11))) := by
      unfold Hid shp
      rw [decide_eq_true hl12, Bool.true_and]
    rw [hx] at HF
    rw [hx] at HSH
    obtain ⟨x, hx2⟩ : ∃ x : UInt8, s[11] = x := ⟨_, rfl⟩
    rw [hx2] at HF HSH
    have hxl := x.toNat_lt
    have HFH : Hid (Dg x.toNat → (full s.data.toList % 10 = 0 ↔ x.toNat = 48 + dgN (s.data.toList.take 11))) := HF
    have HC : Hid (∀ w, Calls Tryz.prog 154 #[.string (s.extract 0 11)] w (DP (dgA (s.data.toList.take 11)) (dgE (s.data.toList.take 11)) w)) := fun w => by
      have := xDigit (s.extract 0 11) (Nat.le_trans (ext_size s 11) hs) w
      rw [ext_take] at this
      exact this
    clear HF hx h12 hl12
    by_cases hg : Dg x.toNat
    · have HG : Hid (Dg x.toNat) := hg
      clear hg
      by_cases hh : head (s.data.toList.take 11) = true
      · have HD := dgN_lt (s.data.toList.take 11)
        have hA : dgA (s.data.toList.take 11) = 48 + dgN (s.data.toList.take 11) := if_pos hh
        have hE : dgE (s.data.toList.take 11) = 0 := if_pos hh
        have HS : Hid (shp s.data.toList = true) := by
          unfold Hid
          rw [HSH.out, decide_eq_true HG.out, hh]
          rfl
        rw [hA, hE] at HC
        clear hh hA hE HSH
        generalize dgN (s.data.toList.take 11) = d at *
        by_cases hd : x.toNat = 48 + d
        · have hc : Hid (chk s.data.toList = 0) := by
            unfold Hid chk
            rw [if_pos HS.out, if_pos ((HFH.out HG.out).2 hd)]
          have hb : ((((48 + d : Nat) : Int) != ((x.toNat : Nat) : Int))) = false := by rw [hd]; simp
          clear hd
          go_enter Tryz.func151, Tryz.ntmps151
          go_wp2_with (first | (go_at_call 153; refine (calls_t (xdigit x.toNat (by omega) _) HG.out).mono ?_; rintro e w1 ⟨rfl, rfl⟩) | (go_at_call 154; refine (HC.out _).mono ?_; rintro e w1 ⟨rfl, rfl⟩))
          go_ret
          exact NP.mk (by rw [hc.out]; rfl)
        · have hc : Hid (chk s.data.toList = 12) := by
            unfold Hid chk
            rw [if_pos HS.out, if_neg (fun h => hd ((HFH.out HG.out).1 h))]
          have hb : ((((48 + d : Nat) : Int) != ((x.toNat : Nat) : Int))) = true := by rw [bne_iff_ne]; omega
          clear hd
          go_enter Tryz.func151, Tryz.ntmps151
          go_wp2_with (first | (go_at_call 153; refine (calls_t (xdigit x.toNat (by omega) _) HG.out).mono ?_; rintro e w1 ⟨rfl, rfl⟩) | (go_at_call 154; refine (HC.out _).mono ?_; rintro e w1 ⟨rfl, rfl⟩))
          go_ret
          exact NP.mk (by rw [hc.out]; rfl)
      · have hA : dgA (s.data.toList.take 11) = 0 := if_neg hh
        have hE : dgE (s.data.toList.take 11) = 11 := if_neg hh
        have hc : Hid (chk s.data.toList = 11) := by
          unfold Hid chk
          rw [if_neg (by rw [HSH.out, Bool.and_eq_true]; exact fun h => hh h.2)]
        rw [hA, hE] at HC
        clear hh hA hE HSH HFH
        go_enter Tryz.func151, Tryz.ntmps151
        go_wp2_with (first | (go_at_call 153; refine (calls_t (xdigit x.toNat (by omega) _) HG.out).mono ?_; rintro e w1 ⟨rfl, rfl⟩) | (go_at_call 154; refine (HC.out _).mono ?_; rintro e w1 ⟨rfl, rfl⟩))
        go_ret
        exact NP.mk (by rw [hc.out]; rfl)
    · have HG : Hid (¬ Dg x.toNat) := hg
      have hc : Hid (chk s.data.toList = 11) := by
        unfold Hid chk
        rw [if_neg (by rw [HSH.out, Bool.and_eq_true, decide_eq_true_eq]; exact fun h => hg h.1)]
      clear hg HSH HFH HC
      go_enter Tryz.func151, Tryz.ntmps151
      go_wp2_with (go_at_call 153; refine (calls_f (xdigit x.toNat (by omega) _) HG.out).mono ?_; rintro e w1 ⟨rfl, rfl⟩)
      go_ret
      exact NP.mk (by rw [hc.out]; rfl)
  · have hne : (((s.size : Nat) : Int) != 12) = true := by rw [bne_iff_ne]; omega
    have hc : Hid (chk s.data.toList = 11) := by
      unfold Hid chk shp
      rw [if_neg (by rw [Bool.and_eq_true, decide_eq_true_eq]; exact fun h => h12 h.1)]
    clear h12
    go_enter Tryz.func151, Tryz.ntmps151
    go_wp2_with fail
    go_ret
    exact NP.mk (by rw [hc.out]; rfl)
end Go.Proofs.YtdmlgheajblcdaaGreat.N5
