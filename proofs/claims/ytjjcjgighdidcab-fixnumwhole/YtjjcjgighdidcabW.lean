/- FixnumWhole: for every input the law returns true. No condition. Here: what shares come to, and the walk of the law itself, out of the walks of what it calls. -/
import Derived.Test.YtjjcjgighdidcabI
import Derived.Test.YtjjcjgighdidcabV
import Derived.WalkKit
import Derived.ProofKit
import Derived.Handy
import Derived.WalkLawsBesides
import Derived.WalkSpells
import Derived.BigQuiet
import Derived.Deep.QuietTactic
import Derived.Deep.Light
import Derived.Deep.OwnRows
import Derived.Laws.AppendOwnNone
import Derived.Deep.RegionWith
import Derived.Lib.BitFns
import Derived.Lib.Walk
import Derived.Deep.CutBlock
import Derived.Deep.DeepCutAuto
import Derived.Deep.LoopGhost
namespace Go.Proofs.Ytjjcjgighdidcab
open Go.RowKit
set_option linter.unusedVariables false
set_option linter.unusedSimpArgs false
/-- how many have a weight -/
def cnt : List Int → Int
  | [] => 0
  | x :: xs => (if 0 < x then 1 else 0) + cnt xs

theorem cnt_nonneg (xs : List Int) : 0 ≤ cnt xs := by
  induction xs with
  | nil => simp [cnt]
  | cons x xs ih => unfold cnt; split <;> omega
theorem give_sum (ys xs : List Int) (l : Int) (he : ys.length = xs.length) (h0 : 0 ≤ l) (hl : l ≤ cnt xs) : (giveS ys xs l).sum = ys.sum + l := by
  induction ys generalizing xs l with
  | nil =>
    have : xs = [] := List.eq_nil_of_length_eq_zero (by simpa using he.symm)
    subst this
    simp [cnt] at hl
    simp [giveS]
    omega
  | cons y ys ih =>
    cases xs with
    | nil => simp at he
    | cons x xs =>
      have hc := cnt_nonneg xs
      unfold cnt at hl
      unfold giveS
      split
      · rename_i h; subst h; simp
      · split
        · rename_i hx
          rw [if_pos hx] at hl
          rw [List.sum_cons, List.sum_cons, ih xs (l - 1) (by simpa using he) (by omega) (by omega)]
          omega
        · rename_i hx
          rw [if_neg hx] at hl
          rw [List.sum_cons, List.sum_cons, ih xs l (by simpa using he) h0 (by omega)]
          omega
theorem give_get (ys xs : List Int) (l : Int) (i : Nat) (he : ys.length = xs.length) (hi : i < xs.length) : (giveS ys xs l).getD i 0 = ys.getD i 0 ∨ ((giveS ys xs l).getD i 0 = ys.getD i 0 + 1 ∧ 0 < xs.getD i 0) := by
  induction ys generalizing xs l i with
  | nil => simp at he; omega
  | cons y ys ih =>
    cases xs with
    | nil => simp at hi
    | cons x xs =>
      unfold giveS
      split
      · exact Or.inl rfl
      · split
        · rename_i hx
          cases i with
          | zero => exact Or.inr ⟨by simp, by simpa using hx⟩
          | succ i => simpa using ih xs (l - 1) i (by simpa using he) (by simpa using hi)
        · cases i with
          | zero => exact Or.inl (by simp)
          | succ i => simpa using ih xs l i (by simpa using he) (by simpa using hi)

theorem parts_rest (amount T : Int) (hT : 0 < T) (xs : List Int) (h : ∀ x ∈ xs, 0 ≤ x) : amount * xs.sum ≤ (parts amount T xs).sum * T + (T - 1) * cnt xs := by
  induction xs with
  | nil => simp [parts, cnt]
  | cons x xs ih =>
    have ih' := ih fun y hy => h y (List.mem_cons_of_mem _ hy)
    have hx := h x (List.mem_cons_self ..)
    have e := Int.mul_ediv_add_emod (amount * x) T
    have m := Int.emod_lt_of_pos (amount * x) hT
    simp only [parts, List.map_cons, List.sum_cons, cnt] at *
    rw [Int.mul_add, Int.add_mul]
    rw [Int.mul_comm T] at e
    by_cases h0 : 0 < x
    · rw [if_pos h0, Int.mul_add, Int.mul_one]
      omega
    · obtain rfl : x = 0 := by omega
      rw [if_neg (by omega), Int.mul_add]
      simp
      omega

theorem left_le (amount : Int) (xs : List Int) (h0 : 0 ≤ amount) (h : ∀ x ∈ xs, 0 ≤ x) (hT : 0 < xs.sum) : 0 ≤ amount - (parts amount xs.sum xs).sum ∧ amount - (parts amount xs.sum xs).sum ≤ cnt xs := by
  have h1 := parts_le amount xs.sum h0 hT xs h (Int.le_refl _)
  refine ⟨by omega, ?_⟩
  have h2 := parts_rest amount xs.sum hT xs h
  have hc := cnt_nonneg xs
  have h3 : (xs.sum - 1) * cnt xs ≤ xs.sum * cnt xs := Int.mul_le_mul_of_nonneg_right (by omega) hc
  have h4 : amount * xs.sum ≤ ((parts amount xs.sum xs).sum + cnt xs) * xs.sum := by
    rw [Int.add_mul, Int.mul_comm (cnt xs)]
    omega
  have h5 := Int.le_of_mul_le_mul_right h4 hT
  omega

theorem sum_fits (xs : List Int) (s : Int) (h : ∀ x ∈ xs, 0 ≤ x) (hs : 0 ≤ s) (hm : s + xs.sum ≤ 9223372036854775807) : sumE s xs = 0 ∧ sumS s xs = s + xs.sum := by
  induction xs generalizing s with
  | nil => simp [sumE, sumS]
  | cons x xs ih =>
    have hx := h x (List.mem_cons_self ..)
    have hn := sum_nonneg xs fun y hy => h y (List.mem_cons_of_mem _ hy)
    rw [List.sum_cons] at hm ⊢
    have ih' := ih (s + x) (fun y hy => h y (List.mem_cons_of_mem _ hy)) (by omega) (by omega)
    unfold sumE sumS
    rw [if_pos (by omega), if_pos (by omega)]
    exact ⟨ih'.1, by rw [ih'.2]; omega⟩

/-- what is told of shares where there is no error -/
def Whole (amount : Int) (xs : List Int) : Prop :=
  sumE 0 xs = 0 ∧ 0 < sumS 0 xs ∧ (0 ≤ amount ∧ ∀ j, 0 ≤ xs.getD j 0 ∧ xs.getD j 0 ≤ sumS 0 xs) ∧ sumE 0 (shareL amount xs) = 0 ∧ sumS 0 (shareL amount xs) = amount ∧ (shareL amount xs).length = xs.length ∧ xs.length ≤ 64 ∧
    (∀ j, j < xs.length → ((shareL amount xs).getD j 0 = mdS amount (xs.getD j 0) (sumS 0 xs) 1 ∨ (shareL amount xs).getD j 0 = mdS amount (xs.getD j 0) (sumS 0 xs) 1 + 1 ∧ 0 < xs.getD j 0) ∧ 0 ≤ mdS amount (xs.getD j 0) (sumS 0 xs) 1 ∧ (xs.getD j 0 = 0 → mdS amount (xs.getD j 0) (sumS 0 xs) 1 = 0)) ∧
    (∀ j, 0 ≤ (shareL amount xs).getD j 0 ∧ (shareL amount xs).getD j 0 ≤ 9223372036854775807)

theorem whole_of (amount : Int) (xs : List Int) (ha : amount ≤ 9223372036854775807) (he : shareE amount xs = 0) : Whole amount xs := by
  have hL : shareL amount xs = giveS (parts amount (sumS 0 xs) xs) xs (amount - (parts amount (sumS 0 xs) xs).sum) := if_pos he
  have h0 : ¬ (amount < 0 ∨ goodB xs = false) := fun h => by rw [shareE, if_pos h] at he; cases he
  rw [shareE, if_neg h0] at he
  have h1 : sumE 0 xs = 0 := by
    rcases sumE_or 0 xs with h | h
    · exact h
    · rw [if_pos (by omega)] at he; exact he
  rw [if_neg (by omega)] at he
  have h2 : sumS 0 xs ≠ 0 := fun h => by rw [if_pos h] at he; cases he
  have hg : goodB xs = true := by
    cases h : goodB xs
    · exact absurd (Or.inr h) h0
    · rfl
  obtain ⟨h64, hpos⟩ := goodB_iff xs hg
  have hmem : ∀ x ∈ xs, 0 ≤ x := by
    intro x hx
    obtain ⟨j, hj, rfl⟩ := List.mem_iff_getElem.1 hx
    have := hpos j
    simpa [hj] using this
  have h5 : sumS 0 xs = xs.sum := by rw [sum_ok 0 xs h1]; omega
  have h6 := sum_nonneg xs hmem
  have hT : 0 < xs.sum := by omega
  have ha0 : 0 ≤ amount := by omega
  have hll := left_le amount xs ha0 hmem hT
  have hlen : (parts amount xs.sum xs).length = xs.length := by simp [parts]
  have hgs := give_sum (parts amount xs.sum xs) xs _ hlen hll.1 hll.2
  have hgg := fun i hi => give_get (parts amount xs.sum xs) xs (amount - (parts amount xs.sum xs).sum) i hlen hi
  have hpn := parts_nonneg amount xs.sum ha0 hT xs hmem
  rw [← h5] at hgs hgg hpn hlen hll
  rw [← hL] at hgs hgg
  have hle : ∀ j, 0 ≤ xs.getD j 0 ∧ xs.getD j 0 ≤ sumS 0 xs := by
    intro j
    refine ⟨hpos j, ?_⟩
    by_cases hj : j < xs.length
    · rw [h5]; exact mem_le_sum xs hmem _ (by simp [hj])
    · rw [List.getD_eq_getElem?_getD, List.getElem?_eq_none (by omega)]; simp; omega
  have hmd : ∀ j, j < xs.length → mdS amount (xs.getD j 0) (sumS 0 xs) 1 = (parts amount (sumS 0 xs) xs).getD j 0 := by
    intro j hj
    rw [part_md amount _ _ ⟨ha0, ha⟩ (hle j) (by omega)]
    simp [parts, hj]
  have hpart : ∀ j, j < xs.length → 0 ≤ (parts amount (sumS 0 xs) xs).getD j 0 := by
    intro j hj
    exact hpn _ (by simp [show j < (parts amount (sumS 0 xs) xs).length by omega])
  have hLlen : (shareL amount xs).length = xs.length := by rw [hL, giveS_length, hlen]
  have hLn : ∀ y ∈ shareL amount xs, 0 ≤ y := by
    intro y hy
    obtain ⟨j, hj, rfl⟩ := List.mem_iff_getElem.1 hy
    rw [hLlen] at hj
    have h7 := hgg j hj
    have h8 := hpart j hj
    have e : (shareL amount xs)[j] = (shareL amount xs).getD j 0 := by simp [show j < (shareL amount xs).length by omega]
    rw [e]
    omega
  have hss := sum_fits (shareL amount xs) 0 hLn (by omega) (by omega)
  refine ⟨h1, by omega, ⟨ha0, hle⟩, hss.1, by rw [hss.2]; omega, hLlen, h64, fun j hj => ⟨?_, ?_, ?_⟩, fun j => ?_⟩
  · rw [hmd j hj]; exact hgg j hj
  · rw [hmd j hj]; exact hpart j hj
  · intro hz
    rw [part_md amount _ _ ⟨ha0, ha⟩ (hle j) (by omega), hz]
    simp
  · by_cases hj : j < (shareL amount xs).length
    · have hm : (shareL amount xs).getD j 0 ∈ shareL amount xs := by simp [hj]
      have h7 := hLn _ hm
      have h8 := mem_le_sum _ hLn _ hm
      omega
    · rw [List.getD_eq_getElem?_getD, List.getElem?_eq_none (by omega)]; simp

theorem whole_walk_err (a : Int) (v : Value) (xs : List Int) (w : World) (ha : -9223372036854775808 ≤ a ∧ a ≤ 9223372036854775807) (hx : Ints xs) (hv : Seg w v xs) (he : shareE a xs ≠ 0) : Calls Try.prog 3 #[.int .i64 a, v] w (TruePost w) := by
  have hL : shareL a xs = [] := if_neg he
  have HX : Hid (Ints xs) := hx
  have HV : Hid (Seg w v xs) := hv
  have hne : (shareE a xs != 0) = true := by simp [he]
  clear hx hv he
  go_enter Try.func3, Try.ntmps3
  go_wp2_with fail
  refine (xshare a xs v _ ha HX.out HV.out (Or.inr xdiv64)).mono ?_
  rintro e w1 ⟨v1, rfl, hs1, hb1⟩
  rw [hL] at hs1
  obtain ⟨a1, c1, rfl, -⟩ := hs1
  have Hb1 : Hid (Below w.heap.size w w1) := hb1
  clear hb1 hL
  generalize shareE a xs = p at hne
  simp only [List.length_nil]
  go_wp2_with fail
  refine (awake_true _).mono ?_
  rintro e w2 ⟨rfl, hb2⟩
  have Hb2 : Hid (Below w.heap.size w w2) := Hb1.out.trans (hb2.mono Hb1.out.size)
  clear hb2
  go_wp2
  go_ret
  exact ⟨rfl, Hb2.out⟩

theorem whole_walk_row (a : Int) (b off cap : Nat) (xs : List Int) (w : World) (ha : -9223372036854775808 ≤ a ∧ a ≤ 9223372036854775807) (hx : Ints xs) (hne : xs ≠ []) (hbw : b < w.heap.size) (hc : ∀ j, j < xs.length → w.cell? ⟨b, off + j, none⟩ = some (.int .i64 (xs.getD j 0))) (he : shareE a xs = 0) :
    Calls Try.prog 3 #[.int .i64 a, .slice (some ⟨b, off, none⟩) xs.length cap] w (TruePost w) := by
  have HV : Hid (Seg w (.slice (some ⟨b, off, none⟩) xs.length cap) xs) := ⟨_, _, rfl, fun _ => ⟨b, off, rfl, hbw, hc⟩⟩
  have HX : Hid (Ints xs) := hx
  have hW := whole_of a xs ha.2 he
  have HW : Hid (Whole a xs) := hW
  have hl64 : xs.length ≤ 64 := hW.2.2.2.2.2.2.1
  have HC : Hid _ := hc
  have HE : Hid (shareE a xs = 0) := he
  clear hx hc he hW
  go_enter Try.func3, Try.ntmps3
  go_wp2_with fail
  refine (xshare a xs _ _ ha HX.out HV.out (Or.inr xdiv64)).mono ?_
  rintro e w1 ⟨v1, rfl, hs1, hb1⟩
  rw [HE.out]
  have Hs1 : Hid (Seg w1 v1 (shareL a xs)) := hs1
  have HB1 : Hid (Below w.heap.size w w1) := hb1
  have HV1 : Hid (Seg w1 (.slice (some ⟨b, off, none⟩) xs.length cap) xs) := Seg.below HV.out hb1
  obtain ⟨a1, c1, rfl, h1⟩ := hs1
  obtain ⟨g1, o1, rfl, hg1, hc1⟩ := h1 (by intro e; have := HW.out.2.2.2.2.2.1; rw [e] at this; exact hne (List.eq_nil_of_length_eq_zero this.symm))
  have HC1 : Hid _ := hc1
  have hll : (shareL a xs).length = xs.length := HW.out.2.2.2.2.2.1
  clear hb1 hc1 h1
  go_wp2_with fail
  refine (rsum xs _ _ HX.out HV1.out).mono ?_
  rintro e w2 ⟨rfl, rfl⟩
  rw [HW.out.1]
  generalize hT : sumS 0 xs = T
  have HT : Hid _ := hT
  clear hT
  go_wp2_with fail
  rw [hll] at Hs1
  refine (rsum (shareL a xs) _ _ ⟨fun j => by have := HW.out.2.2.2.2.2.2.2.2 j; omega, by omega⟩ Hs1.out).mono ?_
  rintro e w2 ⟨rfl, rfl⟩
  rw [HW.out.2.2.2.1, HW.out.2.2.2.2.1]
  have hTr : 0 < T ∧ T ≤ 9223372036854775807 := by
    have h5 := HW.out.2.1
    have h6 := sumS_range 0 xs (by omega)
    rw [HT.out] at h5 h6
    omega
  go_wp2_with fail
  go_loopw [11] (fun i wr => ∃ k : Nat, k ≤ xs.length ∧ i = .int .i64 k ∧ Hid (Below w1.heap.size w1 wr))
    (fun i _ => xs.length - (intOf i).toNat)
  case atStart => exact ⟨0, by omega, rfl, Below.refl _ _⟩
  case round =>
    obtain ⟨k, hk, rfl, hbel⟩ := hrel
    by_cases hlt : k < xs.length
    · have hlt' : (k : Int) < xs.length := by omega
      have hcx := ((hbel.out.cell (p := ⟨b, off + k, none⟩) (by have := HB1.out.size; simp; omega)).trans (HB1.out.cell (p := ⟨b, off + k, none⟩) hbw)).trans (HC.out k hlt)
      have hxr := HX.out.1 k
      have hfx := HW.out.2.2.2.2.2.2.2.1 k hlt
      have hfo := HW.out.2.2.2.2.2.2.2.2 k
      have hco : w1.cell? ⟨g1, o1 + k, none⟩ = some (.int .i64 ((shareL a xs).getD k 0)) := HC1.out k (by rw [hll]; exact hlt)
      rw [HT.out] at hfx
      generalize hxk : xs.getD k 0 = x at hcx hxr hfx
      generalize hok : (shareL a xs).getD k 0 = o at hfx hfo hco
      have Hco : Hid (w1.cell? ⟨g1, o1 + k, none⟩ = some (.int .i64 o)) := hco
      have Hfx : Hid _ := hfx
      clear hxk hok hfx hco
      go_wp2_with fail
      refine (rmuldiv a x T 1 ha hxr (by omega) _).mono ?_
      rintro e w3 ⟨rfl, hb3⟩
      replace hcx := cell_kept hb3 hcx
      have hco := cell_kept hb3 (cell_kept hbel.out Hco.out)
      have HB3 : Hid (Below w1.heap.size w1 w3) := hbel.out.trans (hb3.mono hbel.out.size)
      have hfx := Hfx.out
      clear hb3 Hco hbel Hfx
      generalize mdS a x T 1 = n at hfx
      generalize mdE a x T 1 = en
      obtain ⟨hor, hn0, hz⟩ := hfx
      by_cases hx0 : x = 0
      · have hn : n = 0 := hz hx0
        have ho : o = 0 := by omega
        clear hz hor
        subst hx0 hn ho
        go_wp2
        exact ⟨⟨k + 1, hlt, by go_num, HB3.out⟩, by simp [intOf]; omega⟩
      · have hx0' : (x == 0) = false := by simp [hx0]
        have hon : n ≤ o ∧ o - n ≤ 1 := by omega
        have hon1 : ¬ o < n := by omega
        have hon2 : ¬ 1 < o - n := by omega
        clear hz hor hx0
        go_wp2
        exact ⟨⟨k + 1, hlt, by go_num, HB3.out⟩, by simp [intOf]; omega⟩
    · have hlt' : ¬ (k : Int) < xs.length := by omega
      go_wp2_with fail
      refine (awake_true _).mono ?_
      rintro e w4 ⟨rfl, hb4⟩
      have h5 : Below w.heap.size w wr := HB1.out.trans (hbel.out.mono HB1.out.size)
      have HB4 : Hid (Below w.heap.size w w4) := h5.trans (hb4.mono h5.size)
      clear hb4 h5
      go_wp2
      go_ret
      exact ⟨rfl, HB4.out⟩

theorem whole_walk (a : Int) (v : Value) (xs : List Int) (w : World) (ha : -9223372036854775808 ≤ a ∧ a ≤ 9223372036854775807) (hx : Ints xs) (hv : Seg w v xs) : Calls Try.prog 3 #[.int .i64 a, v] w (TruePost w) := by
  by_cases he : shareE a xs = 0
  · have hW := whole_of a xs ha.2 he
    have hne : xs ≠ [] := fun e => by subst e; have := hW.2.1; simp [sumS] at this
    obtain ⟨aa, cap, rfl, h⟩ := hv
    obtain ⟨b, off, rfl, hb, hc⟩ := h hne
    exact whole_walk_row a b off cap xs w ha hx hne hb hc he
  · exact whole_walk_err a v xs w ha hx hv he
end Go.Proofs.Ytjjcjgighdidcab
