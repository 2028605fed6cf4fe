/- Walks of the sums of package fixnum and of the reference. Conditions: what the slice holds are ints. -/
import Derived.Test.YtjjcjgighdidcaaD
import Derived.WalkKit
import Derived.ProofKit
import Derived.Handy
import Derived.WalkLawsBesides
import Derived.WalkSpells
import Derived.BigQuiet
import Derived.Deep.QuietTactic
import Derived.Deep.Light
namespace Go.Proofs.Ytjjcjgighdidcaa
open Go.RowKit
set_option linter.unusedVariables false
set_option linter.unusedSimpArgs false
/-- a slice value whose elements read as these ints -/
def Seg (w : World) (v : Value) (xs : List Int) : Prop :=
  ∃ a cap, v = .slice a xs.length cap ∧ (xs ≠ [] → ∃ b off, a = some ⟨b, off, none⟩ ∧ b < w.heap.size ∧ ∀ j, j < xs.length → w.cell? ⟨b, off + j, none⟩ = some (.int .i64 (xs.getD j 0)))
/-- all are ints; the length is one -/
def Ints (xs : List Int) : Prop := (∀ j, -9223372036854775808 ≤ xs.getD j 0 ∧ xs.getD j 0 ≤ 9223372036854775807) ∧ xs.length ≤ 9223372036854775807

theorem Seg.below {w w' : World} {v : Value} {xs : List Int} (h : Seg w v xs) (hb : Below w.heap.size w w') : Seg w' v xs := by
  obtain ⟨a, cap, rfl, h2⟩ := h
  refine ⟨a, cap, rfl, fun hx => ?_⟩
  obtain ⟨b, off, rfl, hlt, hc⟩ := h2 hx
  exact ⟨b, off, rfl, Nat.lt_of_lt_of_le hlt hb.size, fun j hj => (hb.cell (by exact hlt)).trans (hc j hj)⟩

/-- the sum, from s on: what it is, and its error -/
def sumS (s : Int) : List Int → Int
  | [] => s
  | x :: xs => if -9223372036854775808 ≤ s + x ∧ s + x ≤ 9223372036854775807 then sumS (s + x) xs else 0
def sumE (s : Int) : List Int → Int
  | [] => 0
  | x :: xs => if -9223372036854775808 ≤ s + x ∧ s + x ≤ 9223372036854775807 then sumE (s + x) xs else 9

theorem drop_getD (xs : List Int) (k : Nat) (h : k < xs.length) : xs.drop k = xs.getD k 0 :: xs.drop (k + 1) := by
  rw [List.drop_eq_getElem_cons h]
  simp [h]

theorem sum_step (s : Int) (xs : List Int) (k : Nat) (h : k < xs.length) (hf : -9223372036854775808 ≤ s + xs.getD k 0 ∧ s + xs.getD k 0 ≤ 9223372036854775807) :
    sumS s (xs.drop k) = sumS (s + xs.getD k 0) (xs.drop (k + 1)) ∧ sumE s (xs.drop k) = sumE (s + xs.getD k 0) (xs.drop (k + 1)) := by
  rw [drop_getD xs k h]
  exact ⟨if_pos hf, if_pos hf⟩
theorem sum_over (s : Int) (xs : List Int) (k : Nat) (h : k < xs.length) (hf : ¬ (-9223372036854775808 ≤ s + xs.getD k 0 ∧ s + xs.getD k 0 ≤ 9223372036854775807)) :
    sumS s (xs.drop k) = 0 ∧ sumE s (xs.drop k) = 9 := by
  rw [drop_getD xs k h]
  exact ⟨if_neg hf, if_neg hf⟩
theorem sum_end (s : Int) (xs : List Int) : sumS s (xs.drop xs.length) = s ∧ sumE s (xs.drop xs.length) = 0 := by
  rw [List.drop_length]
  exact ⟨rfl, rfl⟩

def SumPost (xs : List Int) (w : World) (e : Ending) (w' : World) : Prop :=
  e = .returned (.tuple #[.int .i64 (sumS 0 xs), .int .i64 (sumE 0 xs)]) ∧ w = w'

theorem xsum_row (xs : List Int) (b off cap : Nat) (w : World) (hx : Ints xs) (hc : ∀ j, j < xs.length → w.cell? ⟨b, off + j, none⟩ = some (.int .i64 (xs.getD j 0))) :
    Calls Try.prog 30 #[.slice (some ⟨b, off, none⟩) xs.length cap] w (SumPost xs w) := by
  obtain ⟨hr, hl⟩ := hx
  have Hr : Hid _ := hr
  have Hc : Hid _ := hc
  clear hr hc
  go_enter Try.func30, Try.ntmps30
  go_wp2
  go_loop [4, 11] (fun s i => ∃ k : Nat, ∃ t : Int, k ≤ xs.length ∧ i = .int .i64 k ∧ s = .int .i64 t ∧ (-9223372036854775808 ≤ t ∧ t ≤ 9223372036854775807) ∧ Hid (sumS 0 xs = sumS t (xs.drop k) ∧ sumE 0 xs = sumE t (xs.drop k)))
    (fun _ i => xs.length - (intOf i).toNat)
  case atStart => exact ⟨0, 0, by omega, rfl, rfl, by omega, ⟨rfl, rfl⟩⟩
  case round =>
    obtain ⟨k, t, hk, rfl, rfl, ht, hs⟩ := hrel
    have hcell : k < xs.length → w.cell? ⟨b, off + k, none⟩ = some (.int .i64 (xs.getD k 0)) := fun _ => Hc.out k (by omega)
    have hx := Hr.out k
    generalize hxk : xs.getD k 0 = x at hcell hx
    have Hx : Hid _ := hxk
    clear hxk
    go_wp2_with fail
    · have hlt : k < xs.length := by assumption
      refine (xplus t x ht hx _).mono ?_
      rintro e w1 ⟨rfl, rfl⟩
      by_cases hf : -9223372036854775808 ≤ t + x ∧ t + x ≤ 9223372036854775807
      · rw [show fitS (t + x) = t + x from if_pos hf, show fitE (t + x) = 0 from if_pos hf]
        go_wp2
        go_round
        case rel =>
          have h7 := sum_step t xs k hlt (by rw [Hx.out]; exact hf)
          rw [Hx.out] at h7
          exact ⟨k + 1, t + x, hlt, by go_num, rfl, hf, hs.out.1.trans h7.1, hs.out.2.trans h7.2⟩
        case measure => simp [intOf]; omega
      · rw [show fitS (t + x) = 0 from if_neg hf, show fitE (t + x) = 9 from if_neg hf]
        go_wp2
        go_ret2
        have h7 := sum_over t xs k hlt (by rw [Hx.out]; exact hf)
        exact ⟨ret_two (hs.out.1.trans h7.1).symm (hs.out.2.trans h7.2).symm, rfl⟩
    · obtain rfl : k = xs.length := by omega
      go_ret2
      have h7 := sum_end t xs
      exact ⟨ret_two (hs.out.1.trans h7.1).symm (hs.out.2.trans h7.2).symm, rfl⟩

theorem xsum (xs : List Int) (v : Value) (w : World) (hx : Ints xs) (hv : Seg w v xs) : Calls Try.prog 30 #[v] w (SumPost xs w) := by
  obtain ⟨a, cap, rfl, h⟩ := hv
  by_cases h0 : xs = []
  · subst h0
    clear h
    go_enter Try.func30, Try.ntmps30
    go_wp2
    refine wp_loop_rounds 1 ?_
    rw [rounds_succ]
    go_wp2
    go_ret2
    exact ⟨ret_two rfl rfl, rfl⟩
  · obtain ⟨b, off, rfl, hb, hc⟩ := h h0
    exact xsum_row xs b off cap w hx hc

theorem rsum_row (xs : List Int) (b off cap : Nat) (w : World) (hx : Ints xs) (hc : ∀ j, j < xs.length → w.cell? ⟨b, off + j, none⟩ = some (.int .i64 (xs.getD j 0))) :
    Calls Try.prog 31 #[.slice (some ⟨b, off, none⟩) xs.length cap] w (SumPost xs w) := by
  obtain ⟨hr, hl⟩ := hx
  have Hr : Hid _ := hr
  have Hc : Hid _ := hc
  clear hr hc
  go_enter Try.func31, Try.ntmps31
  go_wp2
  go_loop [4, 5] (fun s i => ∃ k : Nat, ∃ t : Int, k ≤ xs.length ∧ i = .int .i64 k ∧ s = .int .i64 t ∧ (-9223372036854775808 ≤ t ∧ t ≤ 9223372036854775807) ∧ Hid (sumS 0 xs = sumS t (xs.drop k) ∧ sumE 0 xs = sumE t (xs.drop k)))
    (fun _ i => xs.length - (intOf i).toNat)
  case atStart => exact ⟨0, 0, by omega, rfl, rfl, by omega, ⟨rfl, rfl⟩⟩
  case round =>
    obtain ⟨k, t, hk, rfl, rfl, ht, hs⟩ := hrel
    have hcell : k < xs.length → w.cell? ⟨b, off + k, none⟩ = some (.int .i64 (xs.getD k 0)) := fun _ => Hc.out k (by omega)
    have hx := Hr.out k
    generalize hxk : xs.getD k 0 = x at hcell hx
    have Hx : Hid _ := hxk
    clear hxk
    go_wp2_with fail
    · have hlt : k < xs.length := by assumption
      refine (rplus t x ht hx _).mono ?_
      rintro e w1 ⟨rfl, rfl⟩
      by_cases hf : -9223372036854775808 ≤ t + x ∧ t + x ≤ 9223372036854775807
      · rw [show fitS (t + x) = t + x from if_pos hf, show fitE (t + x) = 0 from if_pos hf]
        go_wp2
        go_round
        case rel =>
          have h7 := sum_step t xs k hlt (by rw [Hx.out]; exact hf)
          rw [Hx.out] at h7
          exact ⟨k + 1, t + x, hlt, by go_num, rfl, hf, hs.out.1.trans h7.1, hs.out.2.trans h7.2⟩
        case measure => simp [intOf]; omega
      · rw [show fitS (t + x) = 0 from if_neg hf, show fitE (t + x) = 9 from if_neg hf]
        go_wp2
        go_ret2
        have h7 := sum_over t xs k hlt (by rw [Hx.out]; exact hf)
        exact ⟨ret_two (hs.out.1.trans h7.1).symm (hs.out.2.trans h7.2).symm, rfl⟩
    · obtain rfl : k = xs.length := by omega
      go_ret2
      have h7 := sum_end t xs
      exact ⟨ret_two (hs.out.1.trans h7.1).symm (hs.out.2.trans h7.2).symm, rfl⟩

theorem rsum (xs : List Int) (v : Value) (w : World) (hx : Ints xs) (hv : Seg w v xs) : Calls Try.prog 31 #[v] w (SumPost xs w) := by
  obtain ⟨a, cap, rfl, h⟩ := hv
  by_cases h0 : xs = []
  · subst h0
    clear h
    go_enter Try.func31, Try.ntmps31
    go_wp2
    refine wp_loop_rounds 1 ?_
    rw [rounds_succ]
    go_wp2
    go_ret2
    exact ⟨ret_two rfl rfl, rfl⟩
  · obtain ⟨b, off, rfl, hb, hc⟩ := h h0
    exact rsum_row xs b off cap w hx hc


/-- no more than 64, and none below 0 -/
def goodB (xs : List Int) : Bool := decide (xs.length ≤ 64) && xs.all (fun x => decide (0 ≤ x))

theorem goodB_long (xs : List Int) (h : 64 < xs.length) : goodB xs = false := by
  unfold goodB
  rw [decide_eq_false (by omega)]
  rfl
theorem goodB_neg (xs : List Int) (k : Nat) (h : k < xs.length) (hn : xs.getD k 0 < 0) : goodB xs = false := by
  unfold goodB
  have : xs.all (fun x => decide (0 ≤ x)) = false := by
    rw [List.all_eq_false]
    exact ⟨xs.getD k 0, by simp [h], by simp; simp at hn; omega⟩
  rw [this, Bool.and_false]
theorem goodB_all (xs : List Int) (h : xs.length ≤ 64) (hn : ∀ j, j < xs.length → 0 ≤ xs.getD j 0) : goodB xs = true := by
  unfold goodB
  rw [decide_eq_true h, Bool.true_and, List.all_eq_true]
  intro x hx
  obtain ⟨j, hj, rfl⟩ := List.mem_iff_getElem.1 hx
  have := hn j hj
  simp [hj] at this
  simp [this]
theorem goodB_iff (xs : List Int) (h : goodB xs = true) : xs.length ≤ 64 ∧ ∀ j, 0 ≤ xs.getD j 0 := by
  unfold goodB at h
  rw [Bool.and_eq_true, List.all_eq_true] at h
  refine ⟨of_decide_eq_true h.1, fun j => ?_⟩
  by_cases hj : j < xs.length
  · have := h.2 xs[j] (List.getElem_mem hj)
    simp [hj]
    exact of_decide_eq_true this
  · simp [hj]

def GoodPost (xs : List Int) (w : World) (e : Ending) (w' : World) : Prop := e = .returned (.bool (goodB xs)) ∧ w = w'

theorem xgood_row (xs : List Int) (b off cap : Nat) (w : World) (hx : Ints xs) (hc : ∀ j, j < xs.length → w.cell? ⟨b, off + j, none⟩ = some (.int .i64 (xs.getD j 0))) :
    Calls Try.prog 41 #[.slice (some ⟨b, off, none⟩) xs.length cap] w (GoodPost xs w) := by
  obtain ⟨hr, hl⟩ := hx
  have Hr : Hid _ := hr
  have Hc : Hid _ := hc
  clear hr hc
  by_cases h64 : 64 < xs.length
  · go_enter Try.func41, Try.ntmps41
    go_wp2
    go_ret
    exact ⟨ret_bool (goodB_long xs h64).symm, rfl⟩
  go_enter Try.func41, Try.ntmps41
  go_wp2
  go_loop [10] (fun i => ∃ k : Nat, k ≤ xs.length ∧ i = .int .i64 k ∧ Hid (∀ j, j < k → 0 ≤ xs.getD j 0))
    (fun i => xs.length - (intOf i).toNat)
  case atStart => exact ⟨0, by omega, rfl, fun j hj => by omega⟩
  case round =>
    obtain ⟨k, hk, rfl, hs⟩ := hrel
    have hcell : k < xs.length → w.cell? ⟨b, off + k, none⟩ = some (.int .i64 (xs.getD k 0)) := fun _ => Hc.out k (by omega)
    generalize hxk : xs.getD k 0 = x at hcell
    have Hx : Hid _ := hxk
    clear hxk
    go_wp2
    · have hlt : k < xs.length := by assumption
      have hn : x < 0 := by assumption
      go_ret
      exact ⟨ret_bool (goodB_neg xs k hlt (by rw [Hx.out]; exact hn)).symm, rfl⟩
    · have hlt : k < xs.length := by assumption
      have hn : 0 ≤ x := by assumption
      go_round
      case rel =>
        refine ⟨k + 1, hlt, by go_num, fun j hj => ?_⟩
        by_cases h : j = k
        · subst h; rw [Hx.out]; exact hn
        · exact hs.out j (by omega)
      case measure => simp [intOf]; omega
    · obtain rfl : k = xs.length := by omega
      go_ret
      exact ⟨ret_bool (goodB_all xs (by omega) hs.out).symm, rfl⟩

theorem xgood (xs : List Int) (v : Value) (w : World) (hx : Ints xs) (hv : Seg w v xs) : Calls Try.prog 41 #[v] w (GoodPost xs w) := by
  obtain ⟨a, cap, rfl, h⟩ := hv
  by_cases h0 : xs = []
  · subst h0
    clear h
    go_enter Try.func41, Try.ntmps41
    go_wp2
    refine wp_loop_rounds 1 ?_
    rw [rounds_succ]
    go_wp2
    go_ret
    exact ⟨ret_bool rfl, rfl⟩
  · obtain ⟨b, off, rfl, hb, hc⟩ := h h0
    exact xgood_row xs b off cap w hx hc
end Go.Proofs.Ytjjcjgighdidcaa
