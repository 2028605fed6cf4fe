/- The numbers of layer 3: a meter's exact worth, some days, rates by days; no program. No condition. -/
import Derived.Test.YtdkhpoepdimniaaV
import Derived.WalkKit
import Derived.ProofKit
import Derived.Handy
import Derived.WalkLawsBesides
import Derived.WalkSpells
import Derived.BigQuiet
import Derived.Deep.QuietTactic
import Derived.Deep.Light
import Derived.Deep.OwnRows
import Derived.Laws.AppendOwnNone
import Derived.Deep.RegionWith
import Derived.Lib.BitFns
import Derived.Lib.Walk
import Derived.Deep.CutBlock
import Derived.Deep.DeepCutAuto
import Derived.Deep.LoopGhost
import Derived.Deep.RegionHeld3
import Derived.Lib.SmallJoins
namespace Go.Proofs.Ytdkhpoepdimniaa
open Go.RowKit
set_option linter.unusedVariables false
set_option linter.unusedSimpArgs false
/-- a product divided, rounded down -/
abbrev Amt (a : Int) : Prop := 0 ≤ a ∧ a ≤ 1125899906842624
abbrev Rtd (t : Int) : Prop := -1000000 ≤ t ∧ t ≤ 1000000
abbrev Spn (n : Int) : Prop := 0 ≤ n ∧ n ≤ 3660
abbrev I64 (n : Int) : Prop := -9223372036854775808 ≤ n ∧ n ≤ 9223372036854775807

theorem prod_le (a t B C : Int) (ha : 0 ≤ a ∧ a ≤ B) (ht : -C ≤ t ∧ t ≤ C) (hC : 0 ≤ C) : -(B * C) ≤ a * t ∧ a * t ≤ B * C := by
  have h1 : a * t ≤ a * C := Int.mul_le_mul_of_nonneg_left ht.2 ha.1
  have h2 : a * C ≤ B * C := Int.mul_le_mul_of_nonneg_right ha.2 hC
  have h3 : a * (-C) ≤ a * t := Int.mul_le_mul_of_nonneg_left ht.1 ha.1
  have h4 : a * (-C) = -(a * C) := Int.mul_neg a C
  omega

/-- what Simple answers -/
def simS (a t n : Int) : Int := if Amt a ∧ Rtd t ∧ Spn n then a * (t * n) / 360000000 else 0
def simE (a t n : Int) : Int := if Amt a ∧ Rtd t ∧ Spn n then 0 else 1

/-- what Day answers: the units, the rest, the error -/
abbrev dayOk (r a t : Int) : Prop := Amt a ∧ Rtd t ∧ (0 ≤ r ∧ r < 360000000)
def dayW (u r a t : Int) : Int := u + (r + a * t) / 360000000
def dayE (u r a t : Int) : Int := if dayOk r a t then (if I64 (dayW u r a t) then 0 else 9) else 1
def dayU (u r a t : Int) : Int := if dayE u r a t = 0 then dayW u r a t else u
def dayR (u r a t : Int) : Int := if dayE u r a t = 0 then (r + a * t) % 360000000 else r

/-- what Days answers, so many days being left, of a meter that was u0, r0 and is u, r -/
def daysG (a t u0 r0 : Int) : Int → Int → Nat → Int × Int × Int
  | u, r, 0 => (u, r, 0)
  | u, r, n + 1 => if dayE u r a t = 0 then daysG a t u0 r0 (dayU u r a t) (dayR u r a t) n else (u0, r0, dayE u r a t)
def daysA (u r a t n : Int) : Int × Int × Int := if Spn n then daysG a t u r u r n.toNat else (u, r, 1)

theorem dayE_bad {u r a t : Int} (h : ¬ dayOk r a t) : dayE u r a t = 1 := by unfold dayE; rw [if_neg h]
theorem dayE_ok {u r a t : Int} (h : dayOk r a t) (h2 : I64 (dayW u r a t)) : dayE u r a t = 0 := by unfold dayE; rw [if_pos h, if_pos h2]
theorem dayE_over {u r a t : Int} (h : dayOk r a t) (h2 : ¬ I64 (dayW u r a t)) : dayE u r a t = 9 := by unfold dayE; rw [if_pos h, if_neg h2]
theorem dayU_err {u r a t : Int} (h : dayE u r a t ≠ 0) : dayU u r a t = u := if_neg h
theorem dayR_err {u r a t : Int} (h : dayE u r a t ≠ 0) : dayR u r a t = r := if_neg h
theorem dayU_ok {u r a t : Int} (h : dayE u r a t = 0) : dayU u r a t = dayW u r a t := if_pos h
theorem dayR_ok {u r a t : Int} (h : dayE u r a t = 0) : dayR u r a t = (r + a * t) % 360000000 := if_pos h
theorem dayE_zero {u r a t : Int} (h : dayE u r a t = 0) : dayOk r a t ∧ I64 (dayW u r a t) := by
  unfold dayE at h
  split at h
  · split at h
    · exact ⟨by assumption, by assumption⟩
    · cases h
  · cases h
theorem dayU_I64 {u r a t : Int} (hu : I64 u) : I64 (dayU u r a t) := by
  unfold dayU
  split
  · rename_i h; exact (dayE_zero h).2
  · exact hu
theorem dayR_I64 {u r a t : Int} (hr : I64 r) : I64 (dayR u r a t) := by
  unfold dayR
  split
  · omega
  · exact hr

/-- rates by days: the days and the rates, a row of pairs -/
abbrev Pairs := List (Int × Int)
/-- the rate of the last one whose day isn't above d -/
def rateO : Pairs → Int → Option Int
  | [], _ => none
  | (x, t) :: l, d => match rateO l d with
    | some s => some s
    | none => if x ≤ d then some t else none
def rateV (l : Pairs) (d : Int) : Int := (rateO l d).getD 0
def rateB (l : Pairs) (d : Int) : Bool := (rateO l d).isSome

def Pairs.at (l : Pairs) (k : Nat) : Int × Int := l.getD k (0, 0)

theorem rateO_append (l m : Pairs) (d : Int) : rateO (l ++ m) d = match rateO m d with | some s => some s | none => rateO l d := by
  induction l with
  | nil => simp only [List.nil_append, rateO]; cases rateO m d <;> rfl
  | cons p l ih =>
    obtain ⟨x, t⟩ := p
    simp only [List.cons_append, rateO, ih]
    cases rateO m d <;> rfl
theorem take_at (l : Pairs) (k : Nat) (h : k < l.length) : l.take (k + 1) = l.take k ++ [l.at k] := by
  rw [List.take_add_one, Pairs.at, List.getD_eq_getElem?_getD, List.getElem?_eq_getElem h]
  rfl
theorem drop_at (l : Pairs) (k : Nat) (h : k < l.length) : l.drop k = l.at k :: l.drop (k + 1) := by
  rw [List.drop_eq_getElem_cons h, Pairs.at, List.getD_eq_getElem?_getD, List.getElem?_eq_getElem h]
  rfl
theorem rateO_take_yes (l : Pairs) (k : Nat) (d : Int) (h : k < l.length) (hd : (l.at k).1 ≤ d) : rateO (l.take (k + 1)) d = some (l.at k).2 := by
  rw [take_at l k h, rateO_append]
  simp [rateO, hd]
theorem rateO_take_no (l : Pairs) (k : Nat) (d : Int) (h : k < l.length) (hd : ¬ (l.at k).1 ≤ d) : rateO (l.take (k + 1)) d = rateO (l.take k) d := by
  rw [take_at l k h, rateO_append]
  simp [rateO, hd]
theorem rateO_none (l : Pairs) (d : Int) (h : ∀ p ∈ l, d < p.1) : rateO l d = none := by
  induction l with
  | nil => rfl
  | cons p l ih =>
    obtain ⟨x, t⟩ := p
    rw [rateO, ih (fun p hp => h p (List.mem_cons_of_mem _ hp))]
    have := h (x, t) (List.mem_cons_self ..)
    simp only at this
    simp
    omega
theorem rateO_drop_none (l : Pairs) (k : Nat) (d : Int) (h : ∀ j, k ≤ j → j < l.length → d < (l.at j).1) : rateO (l.drop k) d = none := by
  refine rateO_none _ d (fun p hp => ?_)
  obtain ⟨i, hi, rfl⟩ := List.mem_iff_getElem.1 hp
  have hi' : k + i < l.length := by
    rw [List.length_drop] at hi
    omega
  have := h (k + i) (by omega) hi'
  rw [Pairs.at, List.getD_eq_getElem?_getD, List.getElem?_eq_getElem hi'] at this
  rw [List.getElem_drop]
  exact this
/-- the rate of the k-th, where the k-th is the last one whose day isn't above -/
theorem rateO_at (l : Pairs) (k : Nat) (d : Int) (hk : k < l.length) (h0 : (l.at k).1 ≤ d) (h : ∀ j, k < j → j < l.length → d < (l.at j).1) : rateO l d = some (l.at k).2 := by
  have h1 := rateO_append (l.take (k + 1)) (l.drop (k + 1)) d
  rw [List.take_append_drop, rateO_drop_none l (k + 1) d (fun j h1 h2 => h j (by omega) h2), rateO_take_yes l k d hk h0] at h1
  exact h1

/-- what Check answers, the k-th being next, n being left -/
def chkF (l : Pairs) : Nat → Nat → Int
  | 0, _ => 0
  | n + 1, k =>
    if ¬ (0 ≤ (l.at k).1 ∧ (l.at k).1 ≤ 200000) ∨ 0 < k ∧ (l.at k).1 ≤ (l.at (k - 1)).1 then 10
    else if ¬ Rtd (l.at k).2 then 1 else chkF l n (k + 1)
def chkG (l : Pairs) (k : Nat) : Int := chkF l (l.length - k) k
def chk (l : Pairs) : Int := if l.length = 0 then 6 else if 64 < l.length then 2 else chkG l 0

theorem chkG_eq (l : Pairs) (k : Nat) (hk : k < l.length) : chkG l k = if ¬ (0 ≤ (l.at k).1 ∧ (l.at k).1 ≤ 200000) ∨ 0 < k ∧ (l.at k).1 ≤ (l.at (k - 1)).1 then 10 else if ¬ Rtd (l.at k).2 then 1 else chkG l (k + 1) := by
  unfold chkG
  rw [show l.length - k = (l.length - (k + 1)) + 1 by omega]
  rfl
theorem chkG_day (l : Pairs) (k : Nat) (hk : k < l.length) (h : ¬ (0 ≤ (l.at k).1 ∧ (l.at k).1 ≤ 200000) ∨ 0 < k ∧ (l.at k).1 ≤ (l.at (k - 1)).1) : chkG l k = 10 := by
  rw [chkG_eq l k hk, if_pos h]
theorem chkG_rate (l : Pairs) (k : Nat) (hk : k < l.length) (h : ¬ (¬ (0 ≤ (l.at k).1 ∧ (l.at k).1 ≤ 200000) ∨ 0 < k ∧ (l.at k).1 ≤ (l.at (k - 1)).1)) (h2 : ¬ Rtd (l.at k).2) : chkG l k = 1 := by
  rw [chkG_eq l k hk, if_neg h, if_pos h2]
theorem chkG_next (l : Pairs) (k : Nat) (hk : k < l.length) (h : ¬ (¬ (0 ≤ (l.at k).1 ∧ (l.at k).1 ≤ 200000) ∨ 0 < k ∧ (l.at k).1 ≤ (l.at (k - 1)).1)) (h2 : Rtd (l.at k).2) : chkG l k = chkG l (k + 1) := by
  rw [chkG_eq l k hk, if_neg h, if_neg (fun h => h h2)]
theorem chkG_end (l : Pairs) (k : Nat) (hk : ¬ k < l.length) : chkG l k = 0 := by
  unfold chkG
  rw [show l.length - k = 0 by omega]
  rfl
theorem chkG_zero' (l : Pairs) (n : Nat) : ∀ k, l.length - k = n → chkG l k = 0 → ∀ j, k ≤ j → j < l.length → (0 ≤ (l.at j).1 ∧ (l.at j).1 ≤ 200000) ∧ (0 < j → (l.at (j - 1)).1 < (l.at j).1) ∧ Rtd (l.at j).2 := by
  induction n with
  | zero => intro k hk _ j h1 h2; omega
  | succ n ih =>
    intro k hn h
    have hk : k < l.length := by omega
    by_cases h1 : ¬ (0 ≤ (l.at k).1 ∧ (l.at k).1 ≤ 200000) ∨ 0 < k ∧ (l.at k).1 ≤ (l.at (k - 1)).1
    · rw [chkG_day l k hk h1] at h; cases h
    by_cases h2 : Rtd (l.at k).2
    · rw [chkG_next l k hk h1 h2] at h
      have ih := ih (k + 1) (by omega) h
      intro j hj hl
      by_cases e : j = k
      · subst e
        refine ⟨by omega, fun h0 => by omega, h2⟩
      · exact ih j (by omega) hl
    · rw [chkG_rate l k hk h1 h2] at h; cases h
theorem chkG_zero (l : Pairs) (k : Nat) (h : chkG l k = 0) : ∀ j, k ≤ j → j < l.length → (0 ≤ (l.at j).1 ∧ (l.at j).1 ≤ 200000) ∧ (0 < j → (l.at (j - 1)).1 < (l.at j).1) ∧ Rtd (l.at j).2 := chkG_zero' l _ k rfl h
/-- rates that are in order -/
structure Good (l : Pairs) : Prop where
  pos : 0 < l.length
  few : l.length ≤ 64
  day : ∀ j, j < l.length → 0 ≤ (l.at j).1 ∧ (l.at j).1 ≤ 200000
  up : ∀ j, 0 < j → j < l.length → (l.at (j - 1)).1 < (l.at j).1
  rate : ∀ j, j < l.length → Rtd (l.at j).2
theorem chk_good (l : Pairs) (h : chk l = 0) : Good l := by
  unfold chk at h
  split at h
  · cases h
  split at h
  · cases h
  have h1 := chkG_zero l 0 h
  exact ⟨by omega, by omega, fun j hj => (h1 j (by omega) hj).1, fun j h0 hj => (h1 j (by omega) hj).2.1 h0, fun j hj => (h1 j (by omega) hj).2.2⟩
theorem Good.rise {l : Pairs} (h : Good l) (i : Nat) : ∀ j, i < j → j < l.length → (l.at i).1 < (l.at j).1
  | 0, h1, _ => absurd h1 (by omega)
  | j + 1, h1, h2 => by
    have := h.up (j + 1) (by omega) h2
    rw [Nat.add_sub_cancel] at this
    by_cases e : i = j
    · subst e; exact this
    · have := Good.rise h i j (by omega) (by omega); omega
theorem rateO_rtd (l : Pairs) (h : ∀ j, j < l.length → Rtd (l.at j).2) (d : Int) : Rtd (rateV l d) := by
  unfold rateV
  have key : ∀ (m : Pairs), (∀ p ∈ m, Rtd p.2) → ∀ s, rateO m d = some s → Rtd s := by
    intro m
    induction m with
    | nil => intro _ s hs; cases hs
    | cons p m ih =>
      obtain ⟨x, t⟩ := p
      intro hm s hs
      rw [rateO] at hs
      cases hr : rateO m d with
      | some s' => rw [hr] at hs; cases hs; exact ih (fun p hp => hm p (List.mem_cons_of_mem _ hp)) _ hr
      | none =>
        rw [hr] at hs
        simp only at hs
        split at hs
        · cases hs; exact hm (x, t) (List.mem_cons_self ..)
        · cases hs
  cases hr : rateO l d with
  | none => exact ⟨by decide, by decide⟩
  | some s =>
    refine key l (fun p hp => ?_) s hr
    obtain ⟨j, hj, rfl⟩ := List.mem_iff_getElem.1 hp
    have := h j hj
    rwa [Pairs.at, List.getD_eq_getElem?_getD, List.getElem?_eq_getElem hj] at this

/-- the rates of n days from one on, together -/
def sumR (l : Pairs) (d : Int) : Nat → Int
  | 0 => 0
  | n + 1 => sumR l d n + rateV l (d + n)
theorem sumR_bound (l : Pairs) (h : ∀ j, j < l.length → Rtd (l.at j).2) (d : Int) (n : Nat) : -(1000000 * (n : Int)) ≤ sumR l d n ∧ sumR l d n ≤ 1000000 * (n : Int) := by
  induction n with
  | zero => simp [sumR]
  | succ n ih =>
    have := rateO_rtd l h (d + n)
    simp only [sumR]
    omega
theorem sumR_add (l : Pairs) (d : Int) (m n : Nat) : sumR l d (m + n) = sumR l d m + sumR l (d + m) n := by
  induction n with
  | zero => simp [sumR]
  | succ n ih =>
    rw [← Nat.add_assoc, sumR, ih, sumR, show d + ((m + n : Nat) : Int) = d + m + n by omega]
    omega
theorem sumR_const (l : Pairs) (d t : Int) (n : Nat) (h : ∀ j, j < n → rateV l (d + (j : Int)) = t) : sumR l d n = t * n := by
  induction n with
  | zero => simp [sumR]
  | succ n ih =>
    rw [sumR, ih (fun j hj => h j (by omega)), h n (by omega)]
    grind

/-- a day between two -/
def clampN (f t x : Int) : Nat := ((if x < f then f else if t < x then t else x) - f).toNat
/-- the rates of the days ahead of the k-th one's, at once -/
theorem sum_piece (l : Pairs) (hg : Good l) (f t : Int) (hft : f ≤ t) (k : Nat) (hk : k < l.length) (hf : (l.at 0).1 ≤ f) (b : Int)
    (hb : b = if k + 1 < l.length ∧ (l.at (k + 1)).1 < t then (l.at (k + 1)).1 else t) (a : Int) (ha : a = if (l.at k).1 < f then f else (l.at k).1) :
    sumR l f (clampN f t (if k + 1 < l.length then (l.at (k + 1)).1 else t)) = sumR l f (clampN f t (l.at k).1) + (if a < b then (l.at k).2 * (b - a) else 0) := by
  have hx : ∀ j, k < j → j < l.length → (l.at k).1 < (l.at j).1 := hg.rise k
  obtain ⟨y, hy⟩ : ∃ y, y = if k + 1 < l.length then (l.at (k + 1)).1 else t := ⟨_, rfl⟩
  rw [← hy]
  by_cases hab : a < b
  · rw [if_pos hab]
    obtain ⟨n, hn⟩ : ∃ n : Nat, (n : Int) = b - a := ⟨(b - a).toNat, by omega⟩
    have h1 : clampN f t (l.at k).1 = (a - f).toNat ∧ f ≤ a := by
      unfold clampN
      by_cases c1 : (l.at k).1 < f
      · rw [if_pos c1] at ha ⊢; omega
      · rw [if_neg c1] at ha ⊢
        by_cases c2 : t < (l.at k).1
        · exfalso; split at hb <;> omega
        · rw [if_neg c2]; omega
    have h2 : clampN f t y = (b - f).toNat := by
      unfold clampN
      split at hb
      · rename_i c
        rw [if_pos c.1] at hy
        rw [if_neg (by omega), if_neg (by omega)]; omega
      · rename_i c
        by_cases c1 : k + 1 < l.length
        · rw [if_pos c1] at hy
          by_cases c2 : t < y
          · rw [if_neg (by omega), if_pos c2]; omega
          · rw [if_neg (by omega), if_neg c2]; omega
        · rw [if_neg c1] at hy
          rw [if_neg (by omega), if_neg (by omega)]; omega
    rw [h1.1, h2, show (b - f).toNat = (a - f).toNat + n by omega, sumR_add, show f + ((a - f).toNat : Int) = a by omega, sumR_const l a (l.at k).2 n, hn]
    intro j hj
    unfold rateV
    rw [rateO_at l k (a + j) hk (by split at ha <;> omega)]
    · rfl
    · intro i h3 h4
      have h5 : (l.at (k + 1)).1 ≤ (l.at i).1 := by
        by_cases e : i = k + 1
        · subst e; exact Int.le_refl _
        · exact Int.le_of_lt (hg.rise (k + 1) i (by omega) h4)
      split at hb <;> omega
  · rw [if_neg hab]
    have h1 : clampN f t y = clampN f t (l.at k).1 := by
      have hky : k + 1 < l.length → (l.at k).1 < y := fun c => by rw [if_pos c] at hy; rw [hy]; exact hx (k + 1) (by omega) c
      unfold clampN
      by_cases c : k + 1 < l.length
      · have := hky c
        rw [if_pos c] at hy
        rw [← hy] at hb
        by_cases c1 : y < t
        · rw [if_pos ⟨c, c1⟩] at hb
          congr 1
          by_cases c3 : (l.at k).1 < f
          · rw [if_pos c3] at ha
            rw [if_pos c3]
            split
            · rfl
            · rw [if_neg (by omega)]; omega
          · rw [if_neg c3] at ha; omega
        · rw [if_neg (by omega)] at hb
          congr 1
          by_cases c3 : (l.at k).1 < f
          · rw [if_pos c3] at ha
            rw [if_pos c3]
            split
            · rfl
            · split <;> omega
          · rw [if_neg c3] at ha
            rw [if_neg c3, if_neg (show ¬ y < f by omega)]
            split <;> split <;> omega
      · rw [if_neg c] at hy
        rw [if_neg (by omega)] at hb
        congr 1
        by_cases c3 : (l.at k).1 < f
        · rw [if_pos c3] at ha
          rw [if_pos c3]
          split
          · rfl
          · split <;> omega
        · rw [if_neg c3] at ha
          rw [if_neg c3, if_neg (show ¬ y < f by omega)]
          split <;> split <;> omega
    rw [h1, Int.add_zero]
theorem sum_first (l : Pairs) (f t : Int) (hft : f ≤ t) (hf : (l.at 0).1 ≤ f) : sumR l f (clampN f t (l.at 0).1) = 0 := by
  have : clampN f t (l.at 0).1 = 0 := by
    unfold clampN
    split
    · omega
    · split <;> omega
  rw [this]; rfl
theorem clamp_end (f t : Int) (hft : f ≤ t) : clampN f t t = (t - f).toNat := by
  unfold clampN
  rw [if_neg (by omega), if_neg (by omega)]

/-- what Run answers: the error; the exact interest, in parts -/
def runE (l : Pairs) (a f t : Int) : Int :=
  if chk l ≠ 0 then chk l
  else if ¬ (0 ≤ f ∧ f ≤ 200000) ∨ ¬ (0 ≤ t ∧ t ≤ 200000) ∨ ¬ Spn (t - f) ∨ f < (l.at 0).1 then 10
  else if ¬ Amt a then 1 else 0
def runT (l : Pairs) (a f t : Int) : Int := if runE l a f t = 0 then a * sumR l f (t - f).toNat else 0

theorem runE_zero {l : Pairs} {a f t : Int} (h : runE l a f t = 0) : Good l ∧ (0 ≤ f ∧ f ≤ 200000) ∧ (0 ≤ t ∧ t ≤ 200000) ∧ Spn (t - f) ∧ (l.at 0).1 ≤ f ∧ Amt a := by
  unfold runE at h
  split at h
  · rename_i c; exact absurd h c
  · rename_i c
    split at h
    · cases h
    · rename_i d
      split at h
      · cases h
      · rename_i e
        exact ⟨chk_good l (by omega), by omega, by omega, by omega, by omega, by omega⟩
theorem runT_bound (l : Pairs) (a f t : Int) : -4120793659044003840000000 ≤ runT l a f t ∧ runT l a f t ≤ 4120793659044003840000000 := by
  unfold runT
  split
  · rename_i h
    obtain ⟨h1, -, -, h4, -, h6⟩ := runE_zero h
    have h7 := sumR_bound l h1.rate f (t - f).toNat
    have h8 := prod_le a (sumR l f (t - f).toNat) 1125899906842624 3660000000 h6 (by omega) (by omega)
    omega
  · omega
end Go.Proofs.Ytdkhpoepdimniaa
