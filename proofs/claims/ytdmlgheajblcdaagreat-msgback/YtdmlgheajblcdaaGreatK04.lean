/- Layer 4, numbers alone: the signs of a text, read byte by byte, are what a range tells; where each begins, and whether its bytes are one. -/
import Derived.Test.YtdmlgheajblcdaaGreatRows
import Derived.WalkKit
import Derived.ProofKit
import Derived.Handy
import Derived.WalkLawsBesides
import Derived.WalkSpells
import Derived.BigQuiet
import Derived.BigCall
import Derived.Deep.QuietTactic
import Derived.Deep.Light
import Derived.Deep.OwnRows
import Derived.Laws.AppendOwnNone
import Derived.Laws.Strings3
import Derived.Laws.RangeAny
import Derived.Deep.RegionWith
import Derived.Lib.BitFns
import Derived.Lib.Walk
import Derived.Lib.Strings
import Derived.Lib.OthersKept
import Derived.Deep.CutBlock
import Derived.Deep.DeepCutAuto
import Derived.Deep.LoopGhost
import Derived.Deep.RegionHeld3
import Derived.Lib.SmallJoins
import Derived.Maps.AppendAt
import Derived.Laws.IdiomStrings
import Derived.Lib.AppendZeros
import Derived.Deep.WholeRow
import Derived.Laws.BitsAllLaws
import Derived.Lib.ConvBytes
import Derived.Deep.RegionLaw
import Derived.Lib.IndexBytes
namespace Go.Proofs.YtdmlgheajblcdaaGreat.N4
open Go.RowKit
set_option linter.unusedVariables false
set_option linter.unusedSimpArgs false
/-- The byte at a place; 0: there is none. -/
def bt (l : List UInt8) (i : Nat) : Nat := (l.getD i 0).toNat

/-- A sign by its bytes: its number, how many bytes it has, and whether these are one. -/
def dg (a b c d : Nat) : Nat × Nat × Bool :=
  if a < 128 then (a, 1, true)
  else if 194 ≤ a ∧ a < 224 ∧ 128 ≤ b ∧ b < 192 then ((a - 192) * 64 + (b - 128), 2, true)
  else if 224 ≤ a ∧ a < 240 ∧ 128 ≤ b ∧ b < 192 ∧ 128 ≤ c ∧ c < 192 ∧ 2048 ≤ (a - 224) * 4096 + (b - 128) * 64 + (c - 128) ∧ ((a - 224) * 4096 + (b - 128) * 64 + (c - 128) < 55296 ∨ 57343 < (a - 224) * 4096 + (b - 128) * 64 + (c - 128)) then ((a - 224) * 4096 + (b - 128) * 64 + (c - 128), 3, true)
  else if 240 ≤ a ∧ a < 245 ∧ 128 ≤ b ∧ b < 192 ∧ 128 ≤ c ∧ c < 192 ∧ 128 ≤ d ∧ d < 192 ∧ 65536 ≤ (a - 240) * 262144 + (b - 128) * 4096 + (c - 128) * 64 + (d - 128) ∧ (a - 240) * 262144 + (b - 128) * 4096 + (c - 128) * 64 + (d - 128) < 1114112 then ((a - 240) * 262144 + (b - 128) * 4096 + (c - 128) * 64 + (d - 128), 4, true)
  else (65533, 1, false)

/-- The sign at a place. -/
def D (l : List UInt8) (p : Nat) : Nat × Nat × Bool := dg (bt l p) (bt l (p + 1)) (bt l (p + 2)) (bt l (p + 3))

theorem get_bt (s : ByteArray) (i : Nat) : (s.get! i).toNat = bt s.data.toList i := by
  unfold bt
  by_cases h : i < s.data.size
  · have : s.get! i = s.data[i] := by
      show s.data[i]! = _
      exact getElem!_pos s.data i h
    rw [this, List.getD_eq_getElem?_getD, Array.getElem?_toList, Array.getElem?_eq_getElem h]
    rfl
  · have : s.get! i = 0 := by
      show s.data[i]! = _
      rw [getElem!_neg s.data i h]
      rfl
    rw [this, List.getD_eq_getElem?_getD, Array.getElem?_toList, Array.getElem?_eq_none (by omega)]
    rfl

theorem bt_lt (l : List UInt8) (i : Nat) : bt l i < 256 := UInt8.toNat_lt _
theorem bt_end {l : List UInt8} {i : Nat} (h : l.length ≤ i) : bt l i = 0 := by
  unfold bt
  rw [List.getD_eq_getElem?_getD, List.getElem?_eq_none h]
  rfl

theorem ite_pair {p : Prop} [Decidable p] (a b : Nat × Nat × Bool) : ((if p then a else b).1, (if p then a else b).2.1) = if p then (a.1, a.2.1) else (b.1, b.2.1) := by
  split <;> rfl

theorem valid_nat (n : Nat) : Utf8.valid (n : Int) = true ↔ (n < 55296 ∨ 57344 ≤ n ∧ n ≤ 1114111) := by
  unfold Utf8.valid
  simp only [Bool.or_eq_true, Bool.and_eq_true, decide_eq_true_eq]
  omega

set_option maxHeartbeats 2000000 in
set_option maxRecDepth 100000 in
theorem decode_dg (s : ByteArray) (i : Nat) : Utf8.decode s i = ((D s.data.toList i).1, (D s.data.toList i).2.1) := by
  have hc : ∀ k, (decide (i + k < s.size) && bt s.data.toList (i + k) / 64 == 2) = decide (128 ≤ bt s.data.toList (i + k) ∧ bt s.data.toList (i + k) < 192) := by
    intro k
    rw [Bool.eq_iff_iff, Bool.and_eq_true, beq_iff_eq, decide_eq_true_eq, decide_eq_true_eq]
    have hl : s.data.toList.length = s.size := rfl
    by_cases h : i + k < s.size
    · omega
    · have : bt s.data.toList (i + k) = 0 := bt_end (by omega)
      omega
  unfold Utf8.decode D
  simp only [get_bt, hc]
  have h0 := bt_lt s.data.toList i; have h1 := bt_lt s.data.toList (i + 1); have h2 := bt_lt s.data.toList (i + 2); have h3 := bt_lt s.data.toList (i + 3)
  rw [Nat.add_zero]
  generalize bt s.data.toList i = a at *
  generalize bt s.data.toList (i + 1) = b at *
  generalize bt s.data.toList (i + 2) = c at *
  generalize bt s.data.toList (i + 3) = d at *
  clear hc
  unfold dg
  simp only [ite_pair, Bool.and_eq_true, decide_eq_true_eq, beq_iff_eq, ge_iff_le, valid_nat, Utf8.runeError]
  by_cases k1 : a < 128
  · rw [if_pos k1, if_pos k1]
  rw [if_neg k1, if_neg k1]
  by_cases k2 : a < 224
  · rw [if_neg (c := 224 ≤ a ∧ _) (by omega), if_neg (c := 240 ≤ a ∧ _) (by omega), if_neg (c := (a / 16 = 14 ∧ _) ∧ _) (by omega), if_neg (c := ((a / 8 = 30 ∧ _) ∧ _) ∧ _) (by omega)]
    repeat' split
    all_goals first | rfl | (exfalso; omega) | (congr 1; omega)
  rw [if_neg (c := 194 ≤ a ∧ _) (by omega), if_neg (c := a / 32 = 6 ∧ _) (by omega)]
  by_cases k3 : a < 240
  · rw [if_neg (c := 240 ≤ a ∧ _) (by omega), if_neg (c := ((a / 8 = 30 ∧ _) ∧ _) ∧ _) (by omega)]
    by_cases kb : (128 ≤ b ∧ b < 192) ∧ 128 ≤ c ∧ c < 192
    · have e3 : a % 16 * 4096 + b % 64 * 64 + c % 64 = (a - 224) * 4096 + (b - 128) * 64 + (c - 128) := by omega
      rw [e3]
      repeat' split
      all_goals first | (exfalso; omega) | rfl
    · rw [if_neg (by omega), if_neg (by omega)]
  · rw [if_neg (c := 224 ≤ a ∧ _) (by omega), if_neg (c := (a / 16 = 14 ∧ _) ∧ _) (by omega)]
    by_cases kb : (128 ≤ b ∧ b < 192) ∧ (128 ≤ c ∧ c < 192) ∧ 128 ≤ d ∧ d < 192
    · by_cases k5 : a < 248
      · have e3 : a % 8 * 262144 + b % 64 * 4096 + c % 64 * 64 + d % 64 = (a - 240) * 262144 + (b - 128) * 4096 + (c - 128) * 64 + (d - 128) := by omega
        rw [e3]
        have e4 : 245 ≤ a → 1114112 ≤ (a - 240) * 262144 + (b - 128) * 4096 + (c - 128) * 64 + (d - 128) := by omega
        repeat' split
        all_goals first | (exfalso; omega) | rfl
      · rw [if_neg (by omega), if_neg (by omega)]
    · rw [if_neg (by omega), if_neg (by omega)]
end Go.Proofs.YtdmlgheajblcdaaGreat.N4

/- Layer 4, numbers alone: all signs of a text from a place on; what is written as signs is read as them; the mark of what is no sign. -/
namespace Go.Proofs.YtdmlgheajblcdaaGreat.N4
open Go.RowKit
set_option linter.unusedVariables false
set_option linter.unusedSimpArgs false
theorem D_eq (l : List UInt8) (p : Nat) : D l p = dg (bt l p) (bt l (p + 1)) (bt l (p + 2)) (bt l (p + 3)) := rfl

theorem dg_w (a b c d : Nat) : 1 ≤ (dg a b c d).2.1 ∧ (dg a b c d).2.1 ≤ 4 := by
  unfold dg
  repeat' split
  all_goals simp
theorem D_pos (l : List UInt8) (p : Nat) : 1 ≤ (D l p).2.1 := (dg_w _ _ _ _).1

/-- A sign's number. -/
def Vl (c : Nat) : Prop := c < 55296 ∨ 57343 < c ∧ c < 1114112

theorem ite_fst {p : Prop} [Decidable p] (a b : Nat × Nat × Bool) : (if p then a else b).1 = if p then a.1 else b.1 := by split <;> rfl

set_option maxRecDepth 100000 in
theorem dg_V (a b c d : Nat) : Vl (dg a b c d).1 := by
  unfold dg Vl
  simp only [ite_fst]
  repeat' split
  all_goals omega
theorem D_V (l : List UInt8) (p : Nat) : Vl (D l p).1 := dg_V _ _ _ _
theorem Vl.le {c : Nat} (h : Vl c) : c < 1114112 := by unfold Vl at h; omega

/-- The bytes of a sign do not go beyond the text's end. -/
theorem D_in (l : List UInt8) (p : Nat) (h : p < l.length) : p + (D l p).2.1 ≤ l.length := by
  have e1 : l.length ≤ p + 1 → bt l (p + 1) = 0 := fun h => bt_end h
  have e2 : l.length ≤ p + 2 → bt l (p + 2) = 0 := fun h => bt_end h
  have e3 : l.length ≤ p + 3 → bt l (p + 3) = 0 := fun h => bt_end h
  rw [D_eq]
  generalize bt l (p + 1) = b at *
  generalize bt l (p + 2) = c at *
  generalize bt l (p + 3) = d at *
  unfold dg
  repeat' split
  all_goals (try simp only); omega

def sgF (l : List UInt8) : Nat → Nat → List (Nat × Nat × Bool)
  | 0, _ => []
  | f + 1, p => if p < l.length then (p, (D l p).1, (D l p).2.2) :: sgF l f (p + (D l p).2.1) else []
/-- The signs from a place on: where each begins, its number, and whether its bytes are one. -/
def sg (l : List UInt8) (p : Nat) : List (Nat × Nat × Bool) := sgF l (l.length - p) p

theorem sgF_more (l : List UInt8) : ∀ f g p, l.length ≤ p + f → l.length ≤ p + g → sgF l f p = sgF l g p
  | 0, 0, _, _, _ => rfl
  | 0, g + 1, p, h, _ => by
    have : ¬ p < l.length := by omega
    simp [sgF, this]
  | f + 1, 0, p, _, h => by
    have : ¬ p < l.length := by omega
    simp [sgF, this]
  | f + 1, g + 1, p, h, k => by
    unfold sgF
    have := D_pos l p
    rw [sgF_more l f g (p + (D l p).2.1) (by omega) (by omega)]

theorem sg_end {l : List UInt8} {p : Nat} (h : l.length ≤ p) : sg l p = [] := by
  unfold sg
  rw [show l.length - p = 0 by omega]
  rfl
theorem sg_step {l : List UInt8} {p : Nat} (h : p < l.length) : sg l p = (p, (D l p).1, (D l p).2.2) :: sg l (p + (D l p).2.1) := by
  unfold sg
  obtain ⟨f, hf⟩ : ∃ f, l.length - p = f + 1 := ⟨l.length - p - 1, by omega⟩
  have := D_pos l p
  rw [hf, sgF, if_pos h, sgF_more l f (l.length - (p + (D l p).2.1)) _ (by omega) (by omega)]

/-- The numbers of the signs from a place on. -/
def cs (l : List UInt8) (p : Nat) : List Nat := (sg l p).map fun x => x.2.1
/-- Where they begin. -/
def ps (l : List UInt8) (p : Nat) : List Nat := (sg l p).map fun x => x.1
/-- Are all bytes part of one? -/
def ok (l : List UInt8) (p : Nat) : Bool := (sg l p).all fun x => x.2.2

theorem cs_end {l : List UInt8} {p : Nat} (h : l.length ≤ p) : cs l p = [] := by simp [cs, sg_end h]
theorem ps_end {l : List UInt8} {p : Nat} (h : l.length ≤ p) : ps l p = [] := by simp [ps, sg_end h]
theorem ok_end {l : List UInt8} {p : Nat} (h : l.length ≤ p) : ok l p = true := by simp [ok, sg_end h]
theorem cs_step {l : List UInt8} {p : Nat} (h : p < l.length) : cs l p = (D l p).1 :: cs l (p + (D l p).2.1) := by simp [cs, sg_step h]
theorem ps_step {l : List UInt8} {p : Nat} (h : p < l.length) : ps l p = p :: ps l (p + (D l p).2.1) := by simp [ps, sg_step h]
theorem ok_step {l : List UInt8} {p : Nat} (h : p < l.length) : ok l p = ((D l p).2.2 && ok l (p + (D l p).2.1)) := by simp [ok, sg_step h]

theorem cs_ps (l : List UInt8) (p : Nat) : (cs l p).length = (ps l p).length := by simp [cs, ps]
theorem sg_len (l : List UInt8) : ∀ n p, l.length ≤ p + n → (sg l p).length ≤ n
  | 0, p, h => by rw [sg_end (by omega)]; simp
  | n + 1, p, h => by
    by_cases hp : p < l.length
    · have := D_pos l p
      have := sg_len l n (p + (D l p).2.1) (by omega)
      rw [sg_step hp, List.length_cons]
      omega
    · rw [sg_end (by omega)]; simp
theorem cs_len (l : List UInt8) : (cs l 0).length ≤ l.length := by
  have := sg_len l l.length 0 (by omega)
  simpa [cs] using this

theorem sg_V (l : List UInt8) : ∀ n p, l.length ≤ p + n → ∀ x ∈ sg l p, Vl x.2.1 ∧ p ≤ x.1 ∧ x.1 < l.length
  | 0, p, h => by rw [sg_end (by omega)]; simp
  | n + 1, p, h => by
    by_cases hp : p < l.length
    · have hd := D_pos l p
      have ih := sg_V l n (p + (D l p).2.1) (by omega)
      rw [sg_step hp]
      intro x hx
      rcases List.mem_cons.1 hx with rfl | hx
      · exact ⟨D_V l p, Nat.le_refl _, hp⟩
      · have := ih x hx
        exact ⟨this.1, by omega, this.2.2⟩
    · rw [sg_end (by omega)]; simp
theorem cs_V (l : List UInt8) (p : Nat) : ∀ c ∈ cs l p, Vl c := by
  intro c hc
  obtain ⟨x, hx, rfl⟩ := List.mem_map.1 hc
  exact (sg_V l l.length p (by omega) x hx).1
theorem ps_lt (l : List UInt8) (p : Nat) : ∀ c ∈ ps l p, p ≤ c ∧ c < l.length := by
  intro c hc
  obtain ⟨x, hx, rfl⟩ := List.mem_map.1 hc
  exact (sg_V l l.length p (by omega) x hx).2

/-! The mark. -/
theorem dg_mark (a b c d : Nat) : (dg a b c d).2.2 = false → (dg a b c d).1 = 65533 := by
  unfold dg
  repeat' split
  all_goals simp
set_option maxRecDepth 100000 in
theorem dg_is (a b c d : Nat) (ha : a < 256) (h : (dg a b c d).1 = 65533) : (dg a b c d).2.2 = true ↔ (a = 239 ∧ b = 191 ∧ c = 189) := by
  revert h
  unfold dg
  repeat' split
  all_goals intro h
  all_goals simp only at h ⊢
  all_goals (try simp only [true_iff, Bool.false_eq_true, false_iff])
  all_goals omega

/-- A text that begins with these three bytes. -/
theorem pre_mark (l : List UInt8) (p : Nat) : [239, 191, 189].isPrefixOf (l.drop p) = true ↔ (bt l p = 239 ∧ bt l (p + 1) = 191 ∧ bt l (p + 2) = 189) := by
  have hz : ∀ i, bt l (p + i) = bt (l.drop p) i := by
    intro i
    simp [bt, List.getD_eq_getElem?_getD, List.getElem?_drop]
  have h0 := hz 0
  rw [Nat.add_zero] at h0
  rw [h0, hz 1, hz 2]
  generalize l.drop p = m
  have hu : ∀ (x : UInt8) (n : Nat), n < 256 → (x.toNat = n ↔ x = UInt8.ofNat n) := by
    intro x n hn
    constructor
    · intro h
      apply UInt8.toNat_inj.1
      rw [h]
      simp
      omega
    · rintro rfl
      simp
      omega
  match m with
  | [] => simp [bt]
  | [a] => simp [bt]
  | [a, b] => simp [bt]
  | a :: b :: c :: r =>
    simp only [bt, List.getD_cons_zero, List.getD_cons_succ, hu _ 239 (by omega), hu _ 191 (by omega), hu _ 189 (by omega)]
    simp [List.isPrefixOf]
    constructor
    · rintro ⟨rfl, rfl, rfl⟩; exact ⟨rfl, rfl, rfl⟩
    · rintro ⟨rfl, rfl, rfl⟩; exact ⟨rfl, rfl, rfl⟩

theorem D_is (l : List UInt8) (p : Nat) : (D l p).2.2 = !(decide ((D l p).1 = 65533) && !([239, 191, 189].isPrefixOf (l.drop p))) := by
  by_cases h : (D l p).1 = 65533
  · have h1 := dg_is _ _ _ _ (bt_lt l p) h
    have h2 := pre_mark l p
    rw [← h2] at h1
    rw [D_eq]
    cases hb : (dg (bt l p) (bt l (p + 1)) (bt l (p + 2)) (bt l (p + 3))).2.2
    · rw [hb] at h1
      have : ([239, 191, 189].isPrefixOf (l.drop p)) = false := by
        cases hx : [239, 191, 189].isPrefixOf (l.drop p)
        · rfl
        · exact absurd (h1.2 hx) (by simp)
      rw [this]
      rw [D_eq] at h
      rw [h]
      rfl
    · rw [hb] at h1
      have : ([239, 191, 189].isPrefixOf (l.drop p)) = true := h1.1 rfl
      rw [this]
      simp
  · cases hb : (D l p).2.2
    · exact absurd (dg_mark _ _ _ _ hb) h
    · simp [h]

/-! What is written. -/
theorem bt_shift (x y : List UInt8) (i : Nat) : bt (x ++ y) (x.length + i) = bt y i := by
  simp [bt, List.getD_eq_getElem?_getD, List.getElem?_append_right]
theorem D_shift (x y : List UInt8) (i : Nat) : D (x ++ y) (x.length + i) = D y i := by
  rw [D_eq, D_eq, bt_shift, Nat.add_assoc, bt_shift, Nat.add_assoc, bt_shift, Nat.add_assoc, bt_shift]
theorem cs_shift (x y : List UInt8) : ∀ n i, y.length ≤ i + n → cs (x ++ y) (x.length + i) = cs y i
  | 0, i, h => by rw [cs_end (l := x ++ y) (by simp; omega), cs_end (l := y) (by omega)]
  | n + 1, i, h => by
    by_cases hi : i < y.length
    · have := D_pos y i
      rw [cs_step hi, cs_step (by simp; omega), D_shift, Nat.add_assoc, cs_shift x y n _ (by omega)]
    · rw [cs_end (l := x ++ y) (by simp; omega), cs_end (l := y) (by omega)]
end Go.Proofs.YtdmlgheajblcdaaGreat.N4

/- Layer 4, numbers alone: small letters, plain letters, columns, cuts, fits, and the test of a name, sign by sign. -/
namespace Go.Proofs.YtdmlgheajblcdaaGreat.N4
open Go.RowKit
set_option linter.unusedVariables false
set_option linter.unusedSimpArgs false
def wd (c : Nat) : Nat :=
  if c < 32 ∨ 127 ≤ c ∧ c ≤ 159 ∨ 768 ≤ c ∧ c ≤ 879 then 0
  else if 4352 ≤ c ∧ c ≤ 4447 ∨ 11904 ≤ c ∧ c ≤ 42191 ∨ 44032 ≤ c ∧ c ≤ 55203 ∨ 63744 ≤ c ∧ c ≤ 64255 ∨ 65281 ≤ c ∧ c ≤ 65376 ∨ 127744 ≤ c ∧ c ≤ 128591 then 2
  else 1
abbrev Let (c : Nat) : Prop := 97 ≤ c ∧ c ≤ 122 ∨ 65 ≤ c ∧ c ≤ 90 ∨ 192 ≤ c ∧ c ≤ 383 ∧ c ≠ 215 ∧ c ≠ 247
abbrev Dig (c : Nat) : Prop := 48 ≤ c ∧ c ≤ 57
abbrev Jnt (c : Nat) : Prop := c = 32 ∨ c = 45 ∨ c = 46 ∨ c = 38 ∨ c = 39
abbrev Bad (k last c : Nat) : Prop := ¬ Let c ∧ (k = 0 ∨ ¬ Dig c ∧ ¬ Jnt c) ∨ 0 < k ∧ c = 32 ∧ Jnt last ∧ last ≠ 46 ∧ last ≠ 38
def chkG (z : Nat) : List (Nat × Nat × Bool) → Nat → Nat → Nat × Nat
  | [], k, last => (z, if k = 0 ∨ last = 32 then 11 else 0)
  | x :: L, k, last => if k = 40 then (x.1, 2) else if Bad k last x.2.1 then (x.1, 11) else chkG z L (k + 1) x.2.1
end Go.Proofs.YtdmlgheajblcdaaGreat.N4

/- The walks of the program's tests and turns of one sign. Condition: it is a sign's number. -/
namespace Go.Proofs.YtdmlgheajblcdaaGreat.N4
open Go.RowKit
set_option linter.unusedVariables false
set_option linter.unusedSimpArgs false
/-- A call answers a bool, and leaves the world alone. -/
def BP (p : Prop) [Decidable p] (w : World) (e : Ending) (w' : World) : Prop := e = .returned (.bool (decide p)) ∧ w = w'
theorem BP.t {p : Prop} [Decidable p] {w : World} (h : p) : BP p w (.returned (.bool true)) w := ⟨by rw [decide_eq_true h], rfl⟩
theorem BP.f {p : Prop} [Decidable p] {w : World} (h : ¬ p) : BP p w (.returned (.bool false)) w := ⟨by rw [decide_eq_false h], rfl⟩
theorem BP.b {p : Prop} [Decidable p] {w : World} {b : Bool} (h : b = true ↔ p) : BP p w (.returned (.bool b)) w := ⟨by rw [Bool.eq_iff_iff.2 (h.trans decide_eq_true_iff.symm)], rfl⟩
theorem calls_t {p : Prop} [Decidable p] {f : Nat} {args : Array Value} {w : World} (h : Calls Tryz.prog f args w (BP p w)) (hp : p) : Calls Tryz.prog f args w fun e w' => e = .returned (.bool true) ∧ w = w' :=
  h.mono fun e w' ⟨he, hw⟩ => ⟨by rw [he, decide_eq_true hp], hw⟩
theorem calls_f {p : Prop} [Decidable p] {f : Nat} {args : Array Value} {w : World} (h : Calls Tryz.prog f args w (BP p w)) (hp : ¬ p) : Calls Tryz.prog f args w fun e w' => e = .returned (.bool false) ∧ w = w' :=
  h.mono fun e w' ⟨he, hw⟩ => ⟨by rw [he, decide_eq_false hp], hw⟩
/-- A call answers a number, and leaves the world alone. -/
def NP (k : IntKind) (n : Int) (w : World) (e : Ending) (w' : World) : Prop := e = .returned (.int k n) ∧ w = w'
theorem NP.mk {k : IntKind} {n m : Int} {w : World} (h : m = n) : NP k n w (.returned (.int k m)) w := ⟨by rw [h], rfl⟩

set_option maxHeartbeats 4000000 in
theorem xletter (c : Nat) (hc : c < 1114112) (w : World) : Calls Tryz.prog 168 #[.int .i32 c] w (BP (Let c) w) := by
  go_enter Tryz.func168, Tryz.ntmps168
  go_wp2_with go_in
  all_goals go_ret
  all_goals first | exact BP.t (by omega) | exact BP.f (by omega) | (refine BP.b ?_; simp only [Bool.and_eq_true, Bool.or_eq_true, decide_eq_true_eq, bne_iff_ne, ne_eq, beq_iff_eq]; omega)
set_option maxHeartbeats 4000000 in
theorem xdigit (c : Nat) (hc : c < 1114112) (w : World) : Calls Tryz.prog 172 #[.int .i32 c] w (BP (Dig c) w) := by
  go_enter Tryz.func172, Tryz.ntmps172
  go_wp2_with go_in
  all_goals go_ret
  all_goals first | exact BP.t (by omega) | exact BP.f (by omega) | (refine BP.b ?_; simp only [Bool.and_eq_true, Bool.or_eq_true, decide_eq_true_eq, bne_iff_ne, ne_eq, beq_iff_eq]; omega)
set_option maxHeartbeats 4000000 in
theorem xjoint (c : Nat) (hc : c < 1114112) (w : World) : Calls Tryz.prog 171 #[.int .i32 c] w (BP (Jnt c) w) := by
  by_cases h : Jnt c
  · rcases h with rfl | rfl | rfl | rfl | rfl
    all_goals
      go_enter Tryz.func171, Tryz.ntmps171
      go_wp2_with go_in
      go_ret
      exact BP.t (by decide)
  · have h1 : ((c : Int) == 32) = false := beq_eq_false_iff_ne.2 (by omega)
    have h2 : ((c : Int) == 45) = false := beq_eq_false_iff_ne.2 (by omega)
    have h3 : ((c : Int) == 46) = false := beq_eq_false_iff_ne.2 (by omega)
    have h4 : ((c : Int) == 38) = false := beq_eq_false_iff_ne.2 (by omega)
    have h5 : ((c : Int) == 39) = false := beq_eq_false_iff_ne.2 (by omega)
    have H : Hid (¬ Jnt c) := h
    clear h
    go_enter Tryz.func171, Tryz.ntmps171
    go_wp2_with go_in
    go_ret
    exact BP.f H.out
abbrev May (a c : Nat) : Prop := (c = 32 ∧ (a = 46 ∨ a = 38 ∨ ¬ Jnt a)) ∨ (c ≠ 32 ∧ (Let c ∨ Dig c ∨ Jnt c))
set_option maxHeartbeats 4000000 in
theorem xmay (a c : Nat) (ha : a < 1114112) (hc : c < 1114112) (w : World) : Calls Tryz.prog 169 #[.int .i32 a, .int .i32 c] w (BP (May a c) w) := by
  by_cases h : c = 32
  · subst h
    by_cases h1 : a = 46
    · subst h1
      go_enter Tryz.func169, Tryz.ntmps169
      go_wp2_with fail
      go_ret
      exact BP.t (by decide)
    by_cases h2 : a = 38
    · subst h2
      go_enter Tryz.func169, Tryz.ntmps169
      go_wp2_with fail
      go_ret
      exact BP.t (by decide)
    have g1 : ((a : Int) == 46) = false := beq_eq_false_iff_ne.2 (by omega)
    have g2 : ((a : Int) == 38) = false := beq_eq_false_iff_ne.2 (by omega)
    have H1 : Hid (¬ a = 46) := h1
    have H2 : Hid (¬ a = 38) := h2
    clear h1 h2
    by_cases h3 : Jnt a
    · have H3 : Hid (Jnt a) := h3
      clear h3
      go_enter Tryz.func169, Tryz.ntmps169
      go_wp2_with fail
      refine (calls_t (xjoint a ha _) H3.out).mono ?_
      rintro e w1 ⟨rfl, rfl⟩
      go_wp2_with fail
      go_ret
      exact BP.f (by have := H1.out; have := H2.out; have := H3.out; omega)
    · have H3 : Hid (¬ Jnt a) := h3
      clear h3
      go_enter Tryz.func169, Tryz.ntmps169
      go_wp2_with fail
      refine (calls_f (xjoint a ha _) H3.out).mono ?_
      rintro e w1 ⟨rfl, rfl⟩
      go_wp2_with fail
      go_ret
      exact BP.t (Or.inl ⟨rfl, Or.inr (Or.inr H3.out)⟩)
  · have g : ((c : Int) == 32) = false := beq_eq_false_iff_ne.2 (by omega)
    have H : Hid (¬ c = 32) := h
    clear h
    by_cases h1 : Let c
    · have H1 : Hid (Let c) := h1
      clear h1
      go_enter Tryz.func169, Tryz.ntmps169
      go_wp2_with fail
      refine (calls_t (xletter c hc _) H1.out).mono ?_
      rintro e w1 ⟨rfl, rfl⟩
      go_wp2_with fail
      go_ret
      exact BP.t (Or.inr ⟨H.out, Or.inl H1.out⟩)
    by_cases h2 : Dig c
    · have H1 : Hid (¬ Let c) := h1
      have H2 : Hid (Dig c) := h2
      clear h1 h2
      go_enter Tryz.func169, Tryz.ntmps169
      go_wp2_with fail
      refine (calls_f (xletter c hc _) H1.out).mono ?_
      rintro e w1 ⟨rfl, rfl⟩
      go_wp2_with fail
      refine (calls_t (xdigit c hc _) H2.out).mono ?_
      rintro e w1 ⟨rfl, rfl⟩
      go_wp2_with fail
      go_ret
      exact BP.t (Or.inr ⟨H.out, Or.inr (Or.inl H2.out)⟩)
    have H1 : Hid (¬ Let c) := h1
    have H2 : Hid (¬ Dig c) := h2
    clear h1 h2
    by_cases h3 : Jnt c
    · have H3 : Hid (Jnt c) := h3
      clear h3
      go_enter Tryz.func169, Tryz.ntmps169
      go_wp2_with fail
      refine (calls_f (xletter c hc _) H1.out).mono ?_
      rintro e w1 ⟨rfl, rfl⟩
      go_wp2_with fail
      refine (calls_f (xdigit c hc _) H2.out).mono ?_
      rintro e w1 ⟨rfl, rfl⟩
      go_wp2_with fail
      refine (calls_t (xjoint c hc _) H3.out).mono ?_
      rintro e w1 ⟨rfl, rfl⟩
      go_wp2_with fail
      go_ret
      exact BP.t (Or.inr ⟨H.out, Or.inr (Or.inr H3.out)⟩)
    · have H3 : Hid (¬ Jnt c) := h3
      clear h3
      go_enter Tryz.func169, Tryz.ntmps169
      go_wp2_with fail
      refine (calls_f (xletter c hc _) H1.out).mono ?_
      rintro e w1 ⟨rfl, rfl⟩
      go_wp2_with fail
      refine (calls_f (xdigit c hc _) H2.out).mono ?_
      rintro e w1 ⟨rfl, rfl⟩
      go_wp2_with fail
      refine (calls_f (xjoint c hc _) H3.out).mono ?_
      rintro e w1 ⟨rfl, rfl⟩
      go_wp2_with fail
      go_ret
      exact BP.f (by have h1 := H1.out; have h2 := H2.out; have h3 := H3.out; have h := H.out; rintro (⟨k, _⟩ | ⟨_, k | k | k⟩); exact h k; exact h1 k; exact h2 k; exact h3 k)
end Go.Proofs.YtdmlgheajblcdaaGreat.N4

/- The reference's sign at a place: the walks of at, tail and Sign. Condition: the place is one of the text, which has fewer than 2 to the 47th bytes. -/
namespace Go.Proofs.YtdmlgheajblcdaaGreat.N4
open Go.RowKit
set_option linter.unusedVariables false
set_option linter.unusedSimpArgs false
def atv (s : ByteArray) (j : Int) : Int := if j < s.size then (bt s.data.toList j.toNat : Int) else -1
theorem rat (s : ByteArray) (j : Int) (h0 : 0 ≤ j) (w : World) : Calls Tryz.prog 119 #[.string s, .int .i64 j] w fun e w' => e = .returned (.int .i64 (atv s j)) ∧ w = w' := by
  obtain ⟨i, rfl⟩ := Int.eq_ofNat_of_zero_le h0
  by_cases h : i < s.size
  · have h' : (i : Int) < (s.size : Int) := by omega
    have H : Hid (atv s i = (s[i].toNat : Int)) := by
      unfold Hid atv
      rw [if_pos h', Int.toNat_natCast, bt, List.getD_eq_getElem?_getD]
      have : s.data.toList[i]? = some s[i] := Lib.data_getElem? s i h
      rw [this]
      rfl
    have hb : (s[i].toNat : Int) < 256 := by have := s[i].toNat_lt; omega
    go_enter Tryz.func119, Tryz.ntmps119
    go_wp2_with fail
    go_ret
    exact ⟨by rw [H.out]; rfl, rfl⟩
  · have h' : ¬ (i : Int) < (s.size : Int) := by omega
    have H : Hid (atv s i = -1) := by
      unfold Hid atv
      rw [if_neg h']
    go_enter Tryz.func119, Tryz.ntmps119
    go_wp2_with fail
    go_ret
    exact ⟨by rw [H.out]; rfl, rfl⟩
theorem rtail (c : Int) (w : World) : Calls Tryz.prog 120 #[.int .i64 c] w (BP (128 ≤ c ∧ c < 192) w) := by
  go_enter Tryz.func120, Tryz.ntmps120
  go_wp2_with fail
  all_goals go_ret
  all_goals first | exact BP.t (by omega) | exact BP.f (by omega) | (refine BP.b ?_; simp only [Bool.and_eq_true, Bool.or_eq_true, decide_eq_true_eq, bne_iff_ne, ne_eq, beq_iff_eq]; omega)
theorem atv_in (s : ByteArray) (j : Int) (h0 : 0 ≤ j) : (atv s j = (bt s.data.toList j.toNat : Int) ∨ (atv s j = -1 ∧ bt s.data.toList j.toNat = 0)) := by
  unfold atv
  split
  · exact .inl rfl
  · refine .inr ⟨rfl, bt_end ?_⟩
    have : s.data.toList.length = s.size := rfl
    omega

def SP (x : Nat × Nat × Bool) (w : World) (e : Ending) (w' : World) : Prop := e = .returned (.tuple #[.int .i64 x.1, .int .i64 x.2.1, .bool x.2.2]) ∧ w = w'
theorem SP.mk {x : Nat × Nat × Bool} {w : World} {n k : Int} {b : Bool} (h : x = (n.toNat, k.toNat, b)) (hn : 0 ≤ n) (hk : 0 ≤ k) : SP x w (.returned (.tuple #[.int .i64 n, .int .i64 k, .bool b])) w := by
  subst h
  refine ⟨?_, rfl⟩
  rw [show ((n.toNat, k.toNat, b).1 : Int) = n from Int.toNat_of_nonneg hn, show (((n.toNat, k.toNat, b).2.1 : Nat) : Int) = k from Int.toNat_of_nonneg hk]
theorem dgbad {a b c d : Nat} (h1 : ¬ a < 128) (h2 : ¬ (194 ≤ a ∧ a < 224 ∧ 128 ≤ b ∧ b < 192)) (h3 : ¬ (224 ≤ a ∧ a < 240 ∧ 128 ≤ b ∧ b < 192 ∧ 128 ≤ c ∧ c < 192 ∧ 2048 ≤ (a - 224) * 4096 + (b - 128) * 64 + (c - 128) ∧ ((a - 224) * 4096 + (b - 128) * 64 + (c - 128) < 55296 ∨ 57343 < (a - 224) * 4096 + (b - 128) * 64 + (c - 128))))
    (h4 : ¬ (240 ≤ a ∧ a < 245 ∧ 128 ≤ b ∧ b < 192 ∧ 128 ≤ c ∧ c < 192 ∧ 128 ≤ d ∧ d < 192 ∧ 65536 ≤ (a - 240) * 262144 + (b - 128) * 4096 + (c - 128) * 64 + (d - 128) ∧ (a - 240) * 262144 + (b - 128) * 4096 + (c - 128) * 64 + (d - 128) < 1114112)) : dg a b c d = (65533, 1, false) := by
  unfold dg
  rw [if_neg h1, if_neg h2, if_neg h3, if_neg h4]

set_option maxHeartbeats 8000000 in
set_option maxRecDepth 100000 in
theorem rsign (s : ByteArray) (i : Int) (h0 : 0 ≤ i) (hi : i < s.size) (hs : (s.size : Int) ≤ 140737488355328) (w : World) : Calls Tryz.prog 116 #[.string s, .int .i64 i] w (SP (D s.data.toList i.toNat) w) := by
  have e1 : (i + 1).toNat = i.toNat + 1 := by omega
  have e2 : (i + 2).toNat = i.toNat + 2 := by omega
  have e3 : (i + 3).toNat = i.toNat + 3 := by omega
  have F0 : atv s i = (bt s.data.toList i.toNat : Int) := by unfold atv; rw [if_pos hi]
  have F1 := atv_in s (i + 1) (by omega)
  have F2 := atv_in s (i + 2) (by omega)
  have F3 := atv_in s (i + 3) (by omega)
  rw [e1] at F1; rw [e2] at F2; rw [e3] at F3
  have hA := bt_lt s.data.toList i.toNat
  have hB := bt_lt s.data.toList (i.toNat + 1)
  have hC := bt_lt s.data.toList (i.toNat + 2)
  have hD := bt_lt s.data.toList (i.toNat + 3)
  rw [D_eq]
  generalize bt s.data.toList i.toNat = A at *
  generalize bt s.data.toList (i.toNat + 1) = B at *
  generalize bt s.data.toList (i.toNat + 2) = C at *
  generalize bt s.data.toList (i.toNat + 3) = E at *
  clear e1 e2 e3
  have Ha : Hid (atv s i = (A : Int)) := F0
  have hb0 : -1 ≤ atv s (i + 1) := by omega
  have hb1 : atv s (i + 1) < 256 := by omega
  have hc0 : -1 ≤ atv s (i + 2) := by omega
  have hc1 : atv s (i + 2) < 256 := by omega
  have hd0 : -1 ≤ atv s (i + 3) := by omega
  have hd1 : atv s (i + 3) < 256 := by omega
  have ha0 : 0 ≤ atv s i := by omega
  have ha1 : atv s i < 256 := by omega
  have HF : Hid ((atv s (i + 1) = (B : Int) ∨ (atv s (i + 1) = -1 ∧ B = 0)) ∧ (atv s (i + 2) = (C : Int) ∨ (atv s (i + 2) = -1 ∧ C = 0)) ∧ (atv s (i + 3) = (E : Int) ∨ (atv s (i + 3) = -1 ∧ E = 0))) := ⟨F1, F2, F3⟩
  clear F0 F1 F2 F3
  by_cases k1 : atv s i < 128
  · have H : Hid (dg A B C E = (A, 1, true)) := by
      unfold Hid dg
      rw [if_pos (by have := Ha.out; omega)]
    clear hA hB hC hD
    go_enter Tryz.func116, Tryz.ntmps116
    go_wp2_with (first | (go_at_call 119; refine (rat _ _ (by omega) _).mono ?_; rintro e w1 ⟨rfl, rfl⟩) | (go_at_call 120; refine (calls_t (rtail _ _) (by omega)).mono ?_; rintro e w1 ⟨rfl, rfl⟩) | (go_at_call 120; refine (calls_f (rtail _ _) (by omega)).mono ?_; rintro e w1 ⟨rfl, rfl⟩))
    go_ret3
    exact SP.mk (by rw [H.out, Ha.out]; rfl) (by have := Ha.out; omega) (by omega)
  by_cases k2 : atv s i < 194
  · have H : Hid (dg A B C E = (65533, 1, false)) := dgbad (by have := Ha.out; omega) (by have := Ha.out; omega) (by have := Ha.out; omega) (by have := Ha.out; omega)
    have q1 : ¬ 194 ≤ atv s i := by omega
    have q2 : ¬ 224 ≤ atv s i := by omega
    have q3 : ¬ 240 ≤ atv s i := by omega
    clear hA hB hC hD
    go_enter Tryz.func116, Tryz.ntmps116
    go_wp2_with (first | (go_at_call 119; refine (rat _ _ (by omega) _).mono ?_; rintro e w1 ⟨rfl, rfl⟩) | (go_at_call 120; refine (calls_t (rtail _ _) (by omega)).mono ?_; rintro e w1 ⟨rfl, rfl⟩) | (go_at_call 120; refine (calls_f (rtail _ _) (by omega)).mono ?_; rintro e w1 ⟨rfl, rfl⟩))
    go_ret3
    exact SP.mk (by rw [H.out]; rfl) (by omega) (by omega)
  have q1 : 194 ≤ atv s i := by omega
  by_cases k3 : atv s i < 224
  · have q2 : ¬ 224 ≤ atv s i := by omega
    have q3 : ¬ 240 ≤ atv s i := by omega
    by_cases k4 : 128 ≤ atv s (i + 1) ∧ atv s (i + 1) < 192
    · have H : Hid (dg A B C E = (((atv s i - 192) * 64 + atv s (i + 1) - 128).toNat, 2, true)) := by
        have := Ha.out
        have := HF.out.1
        unfold Hid dg
        rw [if_neg (by omega), if_pos (by omega)]
        exact Prod.ext (by show (A - 192) * 64 + (B - 128) = _; omega) rfl
      obtain ⟨k5, k6⟩ := k4
      clear hA hB hC hD
      go_enter Tryz.func116, Tryz.ntmps116
      go_wp2_with (first | (go_at_call 119; refine (rat _ _ (by omega) _).mono ?_; rintro e w1 ⟨rfl, rfl⟩) | (go_at_call 120; refine (calls_t (rtail _ _) (by omega)).mono ?_; rintro e w1 ⟨rfl, rfl⟩) | (go_at_call 120; refine (calls_f (rtail _ _) (by omega)).mono ?_; rintro e w1 ⟨rfl, rfl⟩))
      go_ret3
      exact SP.mk (by rw [H.out]; rfl) (by omega) (by omega)
    · have H : Hid (dg A B C E = (65533, 1, false)) := dgbad (by have := Ha.out; omega) (by have := HF.out.1; omega) (by have := Ha.out; omega) (by have := Ha.out; omega)
      have K4 : Hid _ := k4
      clear hA hB hC hD k4
      go_enter Tryz.func116, Tryz.ntmps116
      go_wp2_with (first | (go_at_call 119; refine (rat _ _ (by omega) _).mono ?_; rintro e w1 ⟨rfl, rfl⟩) | (go_at_call 120; refine (calls_t (rtail _ _) (by omega)).mono ?_; rintro e w1 ⟨rfl, rfl⟩) | (go_at_call 120; refine (calls_f (rtail _ _) K4.out).mono ?_; rintro e w1 ⟨rfl, rfl⟩))
      go_ret3
      exact SP.mk (by rw [H.out]; rfl) (by omega) (by omega)
  have q2 : 224 ≤ atv s i := by omega
  by_cases k4 : atv s i < 240
  · have q3 : ¬ 240 ≤ atv s i := by omega
    by_cases k5 : 128 ≤ atv s (i + 1) ∧ atv s (i + 1) < 192
    · by_cases k6 : 128 ≤ atv s (i + 2) ∧ atv s (i + 2) < 192
      · have HF' := HF.out
        have HA' := Ha.out
        have H3 : Hid (2048 ≤ (atv s i - 224) * 4096 + (atv s (i + 1) - 128) * 64 + atv s (i + 2) - 128 ∧ ((atv s i - 224) * 4096 + (atv s (i + 1) - 128) * 64 + atv s (i + 2) - 128 < 55296 ∨ 57343 < (atv s i - 224) * 4096 + (atv s (i + 1) - 128) * 64 + atv s (i + 2) - 128) → dg A B C E = (((atv s i - 224) * 4096 + (atv s (i + 1) - 128) * 64 + atv s (i + 2) - 128).toNat, 3, true)) := by
          intro hn
          unfold dg
          rw [if_neg (by omega), if_neg (by omega), if_pos (by omega)]
          exact Prod.ext (by show (A - 224) * 4096 + (B - 128) * 64 + (C - 128) = _; omega) rfl
        have HB : Hid (¬ (2048 ≤ (atv s i - 224) * 4096 + (atv s (i + 1) - 128) * 64 + atv s (i + 2) - 128 ∧ ((atv s i - 224) * 4096 + (atv s (i + 1) - 128) * 64 + atv s (i + 2) - 128 < 55296 ∨ 57343 < (atv s i - 224) * 4096 + (atv s (i + 1) - 128) * 64 + atv s (i + 2) - 128)) → dg A B C E = (65533, 1, false)) := by
          intro hn
          exact dgbad (by omega) (by omega) (by omega) (by omega)
        obtain ⟨k5, k7⟩ := k5
        obtain ⟨k6, k8⟩ := k6
        clear hA hB hC hD HF' HA'
        go_enter Tryz.func116, Tryz.ntmps116
        go_wp2_with (first | (go_at_call 119; refine (rat _ _ (by omega) _).mono ?_; rintro e w1 ⟨rfl, rfl⟩) | (go_at_call 120; refine (calls_t (rtail _ _) (by omega)).mono ?_; rintro e w1 ⟨rfl, rfl⟩) | (go_at_call 120; refine (calls_f (rtail _ _) (by omega)).mono ?_; rintro e w1 ⟨rfl, rfl⟩))
        all_goals go_ret3
        all_goals first
          | exact SP.mk (by rw [H3.out (by omega)]; rfl) (by omega) (by omega)
          | exact SP.mk (by rw [HB.out (by omega)]; rfl) (by omega) (by omega)
      · have H : Hid (dg A B C E = (65533, 1, false)) := dgbad (by have := Ha.out; omega) (by have := Ha.out; omega) (by have := HF.out; omega) (by have := Ha.out; omega)
        have K : Hid _ := k6
        obtain ⟨k5, k7⟩ := k5
        clear hA hB hC hD k6
        go_enter Tryz.func116, Tryz.ntmps116
        go_wp2_with (first | (go_at_call 119; refine (rat _ _ (by omega) _).mono ?_; rintro e w1 ⟨rfl, rfl⟩) | (go_at_call 120; refine (calls_t (rtail _ _) (by omega)).mono ?_; rintro e w1 ⟨rfl, rfl⟩) | (go_at_call 120; refine (calls_f (rtail _ _) K.out).mono ?_; rintro e w1 ⟨rfl, rfl⟩))
        go_ret3
        exact SP.mk (by rw [H.out]; rfl) (by omega) (by omega)
    · have H : Hid (dg A B C E = (65533, 1, false)) := dgbad (by have := Ha.out; omega) (by have := Ha.out; omega) (by have := HF.out; omega) (by have := Ha.out; omega)
      have K : Hid _ := k5
      clear hA hB hC hD k5
      go_enter Tryz.func116, Tryz.ntmps116
      go_wp2_with (first | (go_at_call 119; refine (rat _ _ (by omega) _).mono ?_; rintro e w1 ⟨rfl, rfl⟩) | (go_at_call 120; refine (calls_t (rtail _ _) (by omega)).mono ?_; rintro e w1 ⟨rfl, rfl⟩) | (go_at_call 120; refine (calls_f (rtail _ _) K.out).mono ?_; rintro e w1 ⟨rfl, rfl⟩))
      go_ret3
      exact SP.mk (by rw [H.out]; rfl) (by omega) (by omega)
  have q3 : 240 ≤ atv s i := by omega
  by_cases k5 : atv s i < 245
  · by_cases k6 : 128 ≤ atv s (i + 1) ∧ atv s (i + 1) < 192
    · by_cases k7 : 128 ≤ atv s (i + 2) ∧ atv s (i + 2) < 192
      · by_cases k8 : 128 ≤ atv s (i + 3) ∧ atv s (i + 3) < 192
        · have HF' := HF.out
          have HA' := Ha.out
          have H3 : Hid (65536 ≤ (atv s i - 240) * 262144 + (atv s (i + 1) - 128) * 4096 + (atv s (i + 2) - 128) * 64 + atv s (i + 3) - 128 ∧ (atv s i - 240) * 262144 + (atv s (i + 1) - 128) * 4096 + (atv s (i + 2) - 128) * 64 + atv s (i + 3) - 128 < 1114112 → dg A B C E = (((atv s i - 240) * 262144 + (atv s (i + 1) - 128) * 4096 + (atv s (i + 2) - 128) * 64 + atv s (i + 3) - 128).toNat, 4, true)) := by
            intro hn
            unfold dg
            rw [if_neg (by omega), if_neg (by omega), if_neg (by omega), if_pos (by omega)]
            exact Prod.ext (by show (A - 240) * 262144 + (B - 128) * 4096 + (C - 128) * 64 + (E - 128) = _; omega) rfl
          have HB : Hid (¬ (65536 ≤ (atv s i - 240) * 262144 + (atv s (i + 1) - 128) * 4096 + (atv s (i + 2) - 128) * 64 + atv s (i + 3) - 128 ∧ (atv s i - 240) * 262144 + (atv s (i + 1) - 128) * 4096 + (atv s (i + 2) - 128) * 64 + atv s (i + 3) - 128 < 1114112) → dg A B C E = (65533, 1, false)) := by
            intro hn
            exact dgbad (by omega) (by omega) (by omega) (by omega)
          obtain ⟨k6, k9⟩ := k6
          obtain ⟨k7, k10⟩ := k7
          obtain ⟨k8, k11⟩ := k8
          clear hA hB hC hD HF' HA'
          go_enter Tryz.func116, Tryz.ntmps116
          go_wp2_with (first | (go_at_call 119; refine (rat _ _ (by omega) _).mono ?_; rintro e w1 ⟨rfl, rfl⟩) | (go_at_call 120; refine (calls_t (rtail _ _) (by omega)).mono ?_; rintro e w1 ⟨rfl, rfl⟩) | (go_at_call 120; refine (calls_f (rtail _ _) (by omega)).mono ?_; rintro e w1 ⟨rfl, rfl⟩))
          all_goals go_ret3
          all_goals first
            | exact SP.mk (by rw [H3.out (by omega)]; rfl) (by omega) (by omega)
            | exact SP.mk (by rw [HB.out (by omega)]; rfl) (by omega) (by omega)
        · have H : Hid (dg A B C E = (65533, 1, false)) := dgbad (by have := Ha.out; omega) (by have := Ha.out; omega) (by have := Ha.out; omega) (by have := HF.out; omega)
          have K : Hid _ := k8
          obtain ⟨k6, k9⟩ := k6
          obtain ⟨k7, k10⟩ := k7
          clear hA hB hC hD k8
          go_enter Tryz.func116, Tryz.ntmps116
          go_wp2_with (first | (go_at_call 119; refine (rat _ _ (by omega) _).mono ?_; rintro e w1 ⟨rfl, rfl⟩) | (go_at_call 120; refine (calls_t (rtail _ _) (by omega)).mono ?_; rintro e w1 ⟨rfl, rfl⟩) | (go_at_call 120; refine (calls_f (rtail _ _) K.out).mono ?_; rintro e w1 ⟨rfl, rfl⟩))
          go_ret3
          exact SP.mk (by rw [H.out]; rfl) (by omega) (by omega)
      · have H : Hid (dg A B C E = (65533, 1, false)) := dgbad (by have := Ha.out; omega) (by have := Ha.out; omega) (by have := Ha.out; omega) (by have := HF.out; omega)
        have K : Hid _ := k7
        obtain ⟨k6, k9⟩ := k6
        clear hA hB hC hD k7
        go_enter Tryz.func116, Tryz.ntmps116
        go_wp2_with (first | (go_at_call 119; refine (rat _ _ (by omega) _).mono ?_; rintro e w1 ⟨rfl, rfl⟩) | (go_at_call 120; refine (calls_t (rtail _ _) (by omega)).mono ?_; rintro e w1 ⟨rfl, rfl⟩) | (go_at_call 120; refine (calls_f (rtail _ _) K.out).mono ?_; rintro e w1 ⟨rfl, rfl⟩))
        go_ret3
        exact SP.mk (by rw [H.out]; rfl) (by omega) (by omega)
    · have H : Hid (dg A B C E = (65533, 1, false)) := dgbad (by have := Ha.out; omega) (by have := Ha.out; omega) (by have := Ha.out; omega) (by have := HF.out; omega)
      have K : Hid _ := k6
      clear hA hB hC hD k6
      go_enter Tryz.func116, Tryz.ntmps116
      go_wp2_with (first | (go_at_call 119; refine (rat _ _ (by omega) _).mono ?_; rintro e w1 ⟨rfl, rfl⟩) | (go_at_call 120; refine (calls_t (rtail _ _) (by omega)).mono ?_; rintro e w1 ⟨rfl, rfl⟩) | (go_at_call 120; refine (calls_f (rtail _ _) K.out).mono ?_; rintro e w1 ⟨rfl, rfl⟩))
      go_ret3
      exact SP.mk (by rw [H.out]; rfl) (by omega) (by omega)
  · have H : Hid (dg A B C E = (65533, 1, false)) := dgbad (by have := Ha.out; omega) (by have := Ha.out; omega) (by have := Ha.out; omega) (by have := Ha.out; omega)
    clear hA hB hC hD
    go_enter Tryz.func116, Tryz.ntmps116
    go_wp2_with (first | (go_at_call 119; refine (rat _ _ (by omega) _).mono ?_; rintro e w1 ⟨rfl, rfl⟩) | (go_at_call 120; refine (calls_t (rtail _ _) (by omega)).mono ?_; rintro e w1 ⟨rfl, rfl⟩) | (go_at_call 120; refine (calls_f (rtail _ _) (by omega)).mono ?_; rintro e w1 ⟨rfl, rfl⟩))
    go_ret3
    exact SP.mk (by rw [H.out]; rfl) (by omega) (by omega)
end Go.Proofs.YtdmlgheajblcdaaGreat.N4

/- The program's walks over a text, sign by sign: Count, Width, head. Condition: the text has at most 2 to the 47th bytes. -/
namespace Go.Proofs.YtdmlgheajblcdaaGreat.N4
open Go.RowKit
set_option linter.unusedVariables false
set_option linter.unusedSimpArgs false
def NB (n : Int) (w : World) (e : Ending) (w' : World) : Prop := e = .returned (.int .i64 n) ∧ Below w.heap.size w w'
theorem NB.mk {n m : Int} {w w' : World} (h : m = n) (hb : Below w.heap.size w w') : NB n w (.returned (.int .i64 m)) w' := ⟨by rw [h], hb⟩
theorem next_D (w : World) (s : ByteArray) (pos : Nat) (ty : TypeId) (h : pos < s.size) :
    (Instr.next (.pointer (some ⟨w.heap.size, 0, none⟩)) true ty).run Tryz.prog (w.iter s pos) =
      .ok (.tuple #[.bool true, .int .i64 pos, .int .i32 (D s.data.toList pos).1]) (w.iter s (pos + (D s.data.toList pos).2.1)) := by
  rw [run_next_any w s pos ty h, decode_dg]
theorem below_iter (w : World) (s : ByteArray) (pos : Nat) : Below w.heap.size w (w.iter s pos) := (Below.refl _ w).alloc (Nat.le_refl _) _

def TB (x : Nat × Nat) (w : World) (e : Ending) (w' : World) : Prop := e = .returned (.tuple #[.int .i64 x.1, .int .i64 x.2]) ∧ Below w.heap.size w w'
theorem TB.mk {x : Nat × Nat} {a b : Int} {w w' : World} (h : a = x.1) (h2 : b = x.2) (hb : Below w.heap.size w w') : TB x w (.returned (.tuple #[.int .i64 a, .int .i64 b])) w' := ⟨by rw [h, h2], hb⟩
end Go.Proofs.YtdmlgheajblcdaaGreat.N4
