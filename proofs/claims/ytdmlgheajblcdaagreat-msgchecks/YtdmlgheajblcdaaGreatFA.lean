/- Layer 4, numbers alone: the signs of a text, read byte by byte, are what a range tells; where each begins, and whether its bytes are one. -/
import Derived.Test.YtdmlgheajblcdaaGreatRows
import Derived.WalkKit
namespace Go.Proofs.YtdmlgheajblcdaaGreat.N4
open Go.RowKit
set_option linter.unusedVariables false
set_option linter.unusedSimpArgs false
/-- The byte at a place; 0: there is none. -/
def bt (l : List UInt8) (i : Nat) : Nat := (l.getD i 0).toNat

/-- A sign by its bytes: its number, how many bytes it has, and whether these are one. -/
def dg (a b c d : Nat) : Nat × Nat × Bool :=
  if a < 128 then (a, 1, true)
  else if 194 ≤ a ∧ a < 224 ∧ 128 ≤ b ∧ b < 192 then ((a - 192) * 64 + (b - 128), 2, true)
  else if 224 ≤ a ∧ a < 240 ∧ 128 ≤ b ∧ b < 192 ∧ 128 ≤ c ∧ c < 192 ∧ 2048 ≤ (a - 224) * 4096 + (b - 128) * 64 + (c - 128) ∧ ((a - 224) * 4096 + (b - 128) * 64 + (c - 128) < 55296 ∨ 57343 < (a - 224) * 4096 + (b - 128) * 64 + (c - 128)) then ((a - 224) * 4096 + (b - 128) * 64 + (c - 128), 3, true)
  else if 240 ≤ a ∧ a < 245 ∧ 128 ≤ b ∧ b < 192 ∧ 128 ≤ c ∧ c < 192 ∧ 128 ≤ d ∧ d < 192 ∧ 65536 ≤ (a - 240) * 262144 + (b - 128) * 4096 + (c - 128) * 64 + (d - 128) ∧ (a - 240) * 262144 + (b - 128) * 4096 + (c - 128) * 64 + (d - 128) < 1114112 then ((a - 240) * 262144 + (b - 128) * 4096 + (c - 128) * 64 + (d - 128), 4, true)
  else (65533, 1, false)

/-- The sign at a place. -/
def D (l : List UInt8) (p : Nat) : Nat × Nat × Bool := dg (bt l p) (bt l (p + 1)) (bt l (p + 2)) (bt l (p + 3))

theorem get_bt (s : ByteArray) (i : Nat) : (s.get! i).toNat = bt s.data.toList i := by
  unfold bt
  by_cases h : i < s.data.size
  · have : s.get! i = s.data[i] := by
      show s.data[i]! = _
      exact getElem!_pos s.data i h
    rw [this, List.getD_eq_getElem?_getD, Array.getElem?_toList, Array.getElem?_eq_getElem h]
    rfl
  · have : s.get! i = 0 := by
      show s.data[i]! = _
      rw [getElem!_neg s.data i h]
      rfl
    rw [this, List.getD_eq_getElem?_getD, Array.getElem?_toList, Array.getElem?_eq_none (by omega)]
    rfl

theorem bt_lt (l : List UInt8) (i : Nat) : bt l i < 256 := UInt8.toNat_lt _
theorem bt_end {l : List UInt8} {i : Nat} (h : l.length ≤ i) : bt l i = 0 := by
  unfold bt
  rw [List.getD_eq_getElem?_getD, List.getElem?_eq_none h]
  rfl

theorem ite_pair {p : Prop} [Decidable p] (a b : Nat × Nat × Bool) : ((if p then a else b).1, (if p then a else b).2.1) = if p then (a.1, a.2.1) else (b.1, b.2.1) := by
  split <;> rfl

theorem valid_nat (n : Nat) : Utf8.valid (n : Int) = true ↔ (n < 55296 ∨ 57344 ≤ n ∧ n ≤ 1114111) := by
  unfold Utf8.valid
  simp only [Bool.or_eq_true, Bool.and_eq_true, decide_eq_true_eq]
  omega

set_option maxHeartbeats 2000000 in
set_option maxRecDepth 100000 in
theorem decode_dg (s : ByteArray) (i : Nat) : Utf8.decode s i = ((D s.data.toList i).1, (D s.data.toList i).2.1) := by
  have hc : ∀ k, (decide (i + k < s.size) && bt s.data.toList (i + k) / 64 == 2) = decide (128 ≤ bt s.data.toList (i + k) ∧ bt s.data.toList (i + k) < 192) := by
    intro k
    rw [Bool.eq_iff_iff, Bool.and_eq_true, beq_iff_eq, decide_eq_true_eq, decide_eq_true_eq]
    have hl : s.data.toList.length = s.size := rfl
    by_cases h : i + k < s.size
    · omega
    · have : bt s.data.toList (i + k) = 0 := bt_end (by omega)
      omega
  unfold Utf8.decode D
  simp only [get_bt, hc]
  have h0 := bt_lt s.data.toList i; have h1 := bt_lt s.data.toList (i + 1); have h2 := bt_lt s.data.toList (i + 2); have h3 := bt_lt s.data.toList (i + 3)
  rw [Nat.add_zero]
  generalize bt s.data.toList i = a at *
  generalize bt s.data.toList (i + 1) = b at *
  generalize bt s.data.toList (i + 2) = c at *
  generalize bt s.data.toList (i + 3) = d at *
  clear hc
  unfold dg
  simp only [ite_pair, Bool.and_eq_true, decide_eq_true_eq, beq_iff_eq, ge_iff_le, valid_nat, Utf8.runeError]
  by_cases k1 : a < 128
  · rw [if_pos k1, if_pos k1]
  rw [if_neg k1, if_neg k1]
  by_cases k2 : a < 224
  · rw [if_neg (c := 224 ≤ a ∧ _) (by omega), if_neg (c := 240 ≤ a ∧ _) (by omega), if_neg (c := (a / 16 = 14 ∧ _) ∧ _) (by omega), if_neg (c := ((a / 8 = 30 ∧ _) ∧ _) ∧ _) (by omega)]
    repeat' split
    all_goals first | rfl | (exfalso; omega) | (congr 1; omega)
  rw [if_neg (c := 194 ≤ a ∧ _) (by omega), if_neg (c := a / 32 = 6 ∧ _) (by omega)]
  by_cases k3 : a < 240
  · rw [if_neg (c := 240 ≤ a ∧ _) (by omega), if_neg (c := ((a / 8 = 30 ∧ _) ∧ _) ∧ _) (by omega)]
    by_cases kb : (128 ≤ b ∧ b < 192) ∧ 128 ≤ c ∧ c < 192
    · have e3 : a % 16 * 4096 + b % 64 * 64 + c % 64 = (a - 224) * 4096 + (b - 128) * 64 + (c - 128) := by omega
      rw [e3]
      repeat' split
      all_goals first | (exfalso; omega) | rfl
    · rw [if_neg (by omega), if_neg (by omega)]
  · rw [if_neg (c := 224 ≤ a ∧ _) (by omega), if_neg (c := (a / 16 = 14 ∧ _) ∧ _) (by omega)]
    by_cases kb : (128 ≤ b ∧ b < 192) ∧ (128 ≤ c ∧ c < 192) ∧ 128 ≤ d ∧ d < 192
    · by_cases k5 : a < 248
      · have e3 : a % 8 * 262144 + b % 64 * 4096 + c % 64 * 64 + d % 64 = (a - 240) * 262144 + (b - 128) * 4096 + (c - 128) * 64 + (d - 128) := by omega
        rw [e3]
        have e4 : 245 ≤ a → 1114112 ≤ (a - 240) * 262144 + (b - 128) * 4096 + (c - 128) * 64 + (d - 128) := by omega
        repeat' split
        all_goals first | (exfalso; omega) | rfl
      · rw [if_neg (by omega), if_neg (by omega)]
    · rw [if_neg (by omega), if_neg (by omega)]
end Go.Proofs.YtdmlgheajblcdaaGreat.N4
