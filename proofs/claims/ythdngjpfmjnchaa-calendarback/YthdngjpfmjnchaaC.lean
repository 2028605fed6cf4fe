/- Walks of the plain functions of package calendar and of the reference. Conditions: years are not far off. -/
import Derived.Test.YthdngjpfmjnchaaB
import Derived.WalkKit
import Derived.ProofKit
import Derived.Handy
import Derived.WalkLawsBesides
import Derived.WalkSpells
import Derived.BigQuiet
import Derived.Deep.QuietTactic
import Derived.Deep.Light
import Derived.Deep.OwnRows
import Derived.Laws.AppendOwnNone
import Derived.Deep.RegionWith
import Derived.Lib.BitFns
import Derived.Lib.Walk
import Derived.Deep.CutBlock
import Derived.Deep.DeepCutAuto
import Derived.Deep.LoopGhost
import Derived.Deep.RegionHeld3
import Derived.Lib.SlicesCompact
namespace Go.Proofs.Ythdngjpfmjnchaa
open Go.RowKit
set_option linter.unusedVariables false
set_option linter.unusedSimpArgs false
def RetPost (v : Value) (w : World) (e : Ending) (w' : World) : Prop := e = .returned v ∧ w = w'
theorem ret_int {a b : Int} (h : a = b) : Ending.returned (.int .i64 a) = .returned (.int .i64 b) := by rw [h]
theorem ret_bool {a b : Bool} (h : a = b) : Ending.returned (.bool a) = .returned (.bool b) := by rw [h]
theorem ret_two {a b c d : Int} (h1 : a = c) (h2 : b = d) : Ending.returned (.tuple #[.int .i64 a, .int .i64 b]) = .returned (.tuple #[.int .i64 c, .int .i64 d]) := by rw [h1, h2]

theorem xleaps (y : Int) (h : 0 ≤ y ∧ y ≤ 1000000) (w : World) : Calls Try.prog 47 #[.int .i64 y] w (RetPost (.int .i64 (lps y)) w) := by
  go_enter Try.func47, Try.ntmps47
  go_wp2
  go_ret
  exact ⟨ret_int (by unfold lps; omega), rfl⟩

theorem lps_range (y : Int) (h : 0 ≤ y ∧ y ≤ 1000000) : 0 ≤ lps y ∧ lps y ≤ 1000000 := by
  unfold lps
  omega

theorem xleap (y : Int) (h : 1 ≤ y ∧ y ≤ 1000000) (w : World) : Calls Try.prog 48 #[.int .i64 y] w (RetPost (.bool (leapB y)) w) := by
  have b1 := lps_range y (by omega)
  have b2 := lps_range (y - 1) (by omega)
  go_enter Try.func48, Try.ntmps48
  go_wp2_with fail
  refine (xleaps y (by omega) _).mono ?_
  rintro e w1 ⟨rfl, rfl⟩
  go_wp2_with fail
  refine (xleaps (y - 1) (by omega) _).mono ?_
  rintro e w1 ⟨rfl, rfl⟩
  have hb : Hid (leapB y = decide (lps (y - 1) < lps y)) := rfl
  generalize lps y = p at *
  generalize lps (y - 1) = q at *
  go_wp2
  go_ret
  exact ⟨ret_bool hb.out.symm, rfl⟩

theorem xdays (y : Int) (h : 1970 ≤ y ∧ y ≤ 1000000) (w : World) : Calls Try.prog 34 #[.int .i64 y] w (RetPost (.int .i64 (YB y)) w) := by
  have b2 := lps_range (y - 1) (by omega)
  have hy : YB y = (y - 1970) * 365 + lps (y - 1) - 477 := rfl
  rw [hy]
  clear hy
  go_enter Try.func34, Try.ntmps34
  go_wp2_with fail
  refine (xleaps (y - 1) (by omega) _).mono ?_
  rintro e w1 ⟨rfl, rfl⟩
  generalize lps (y - 1) = q at *
  go_wp2_with fail
  refine (xleaps 1969 (by omega) _).mono ?_
  rintro e w1 ⟨rfl, rfl⟩
  rw [show lps 1969 = 477 by decide]
  go_wp2
  go_ret
  exact ⟨ret_int rfl, rfl⟩

theorem xmonth (y m : Int) (h : 1 ≤ y ∧ y ≤ 1000000) (hm : -9223372036854775808 ≤ m ∧ m ≤ 9223372036854775807) (w : World) : Calls Try.prog 35 #[.int .i64 y, .int .i64 m] w (RetPost (.int .i64 (dim y m)) w) := by
  by_cases h4 : m = 4 ∨ m = 6 ∨ m = 9 ∨ m = 11
  · have hd : dim y m = 30 := if_pos h4
    rw [hd]
    clear hd
    rcases h4 with rfl | rfl | rfl | rfl
    all_goals
      go_enter Try.func35, Try.ntmps35
      go_wp2
      go_ret
      exact ⟨rfl, rfl⟩
  by_cases h2 : m = 2
  · subst h2
    have hd := dim_two y
    have H2 : Hid (dim y 2 = if leapB y then 29 else 28) := hd
    generalize dim y 2 = r at H2
    clear h4 hd
    go_enter Try.func35, Try.ntmps35
    go_wp2_with fail
    refine (xleap y h _).mono ?_
    rintro e w1 ⟨rfl, rfl⟩
    cases hl : leapB y
    · rw [hl] at H2
      obtain rfl : r = 28 := H2.out
      go_wp2
      go_ret
      exact ⟨rfl, rfl⟩
    · rw [hl] at H2
      obtain rfl : r = 29 := H2.out
      go_wp2
      go_ret
      exact ⟨rfl, rfl⟩
  · have hd : dim y m = 31 := by rw [dim, if_neg h4, if_neg h2]
    rw [hd]
    have e1 : (m == 4) = false := by simp; omega
    have e2 : (m == 6) = false := by simp; omega
    have e3 : (m == 9) = false := by simp; omega
    have e4 : (m == 11) = false := by simp; omega
    have e5 : (m == 2) = false := by simp; omega
    clear h4 h2 hd
    go_enter Try.func35, Try.ntmps35
    go_wp2
    go_ret
    exact ⟨rfl, rfl⟩

theorem xgood (d : Int) (h : -9223372036854775808 ≤ d ∧ d ≤ 9223372036854775807) (w : World) : Calls Try.prog 14 #[.int .i64 d] w (RetPost (.bool (decide (GoodD d))) w) := by
  by_cases h0 : 0 ≤ d
  · have H : Hid (decide (GoodD d) = decide (d ≤ 200000)) := by
      show _ = _
      rw [decide_eq_decide]
      exact ⟨fun q => q.2, fun q => ⟨h0, q⟩⟩
    generalize decide (GoodD d) = r at H
    go_enter Try.func14, Try.ntmps14
    go_wp2
    go_ret
    exact ⟨ret_bool H.out.symm, rfl⟩
  · have H : Hid (decide (GoodD d) = false) := decide_eq_false fun q => h0 q.1
    generalize decide (GoodD d) = r at H
    go_enter Try.func14, Try.ntmps14
    go_wp2
    go_ret
    exact ⟨ret_bool H.out.symm, rfl⟩
theorem rgood (d : Int) (h : -9223372036854775808 ≤ d ∧ d ≤ 9223372036854775807) (w : World) : Calls Try.prog 15 #[.int .i64 d] w (RetPost (.bool (decide (GoodD d))) w) := by
  by_cases h0 : 0 ≤ d
  · have H : Hid (decide (GoodD d) = decide (d ≤ 200000)) := by
      show _ = _
      rw [decide_eq_decide]
      exact ⟨fun q => q.2, fun q => ⟨h0, q⟩⟩
    generalize decide (GoodD d) = r at H
    go_enter Try.func15, Try.ntmps15
    go_wp2
    go_ret
    exact ⟨ret_bool H.out.symm, rfl⟩
  · have H : Hid (decide (GoodD d) = false) := decide_eq_false fun q => h0 q.1
    generalize decide (GoodD d) = r at H
    go_enter Try.func15, Try.ntmps15
    go_wp2
    go_ret
    exact ⟨ret_bool H.out.symm, rfl⟩

theorem tmod7 (d : Int) : (d.tmod 7 = d % 7 ∨ d.tmod 7 = d % 7 - 7) ∧ -7 < d.tmod 7 ∧ d.tmod 7 < 7 := by
  rcases Int.le_total 0 d with h | h
  · rw [Int.tmod_eq_emod_of_nonneg h]; omega
  · have e : d.tmod 7 = -((-d) % 7) := by
      rw [← Int.tmod_eq_emod_of_nonneg (show 0 ≤ -d by omega), Int.neg_tmod, Int.neg_neg]
    rw [e]; omega
theorem tmod7_pos (d : Int) (h : 0 ≤ d) : d.tmod 7 = d % 7 := Int.tmod_eq_emod_of_nonneg h

theorem xweek (d : Int) (h : -9223372036854775808 ≤ d ∧ d ≤ 9223372036854775807) (w : World) : Calls Try.prog 16 #[.int .i64 d] w (RetPost (.int .i64 ((d + 3) % 7)) w) := by
  go_enter Try.func16, Try.ntmps16
  go_wp2
  go_ret
  refine ⟨ret_int ?_, rfl⟩
  have h1 := tmod7 d
  generalize d.tmod 7 = t at *
  have e1 : wrap64 (t + 7) = t + 7 := by unfold wrap64; omega
  have e2 : wrap64 (t + 7 + 3) = t + 7 + 3 := by unfold wrap64; omega
  rw [e1, e2, tmod7_pos _ (by omega)]
  omega
theorem rweek (d : Int) (h : -9223372036854775808 ≤ d ∧ d ≤ 9223372036854775807) (w : World) : Calls Try.prog 17 #[.int .i64 d] w (RetPost (.int .i64 ((d + 3) % 7)) w) := by
  have h1 := tmod7 d
  go_enter Try.func17, Try.ntmps17
  go_wp2
  · go_ret
    refine ⟨ret_int ?_, rfl⟩
    omega
  · go_ret
    refine ⟨ret_int ?_, rfl⟩
    omega

/-- what the reference's Days leaves: the month's length; new memory aside nothing has turned -/
def NewPost (v : Value) (w : World) (e : Ending) (w' : World) : Prop := e = .returned v ∧ Below w.heap.size w w'

set_option maxHeartbeats 2000000 in
theorem rdays (y m : Int) (h : 1 ≤ y ∧ y ≤ 1000000) (hm : 1 ≤ m ∧ m ≤ 12) (w : World) : Calls Try.prog 36 #[.int .i64 y, .int .i64 m] w (NewPost (.int .i64 (dim y m)) w) := by
  obtain rfl | rfl | rfl | rfl | rfl | rfl | rfl | rfl | rfl | rfl | rfl | rfl : m = 1 ∨ m = 2 ∨ m = 3 ∨ m = 4 ∨ m = 5 ∨ m = 6 ∨ m = 7 ∨ m = 8 ∨ m = 9 ∨ m = 10 ∨ m = 11 ∨ m = 12 := by omega
  · go_enter Try.func36, Try.ntmps36
    go_wp2
    go_ret
    exact ⟨rfl, (Below.refl _ _).alloc (Nat.le_refl _) _⟩
  · have hl := leap_iff y
    have hd := dim_two y
    by_cases c4 : y % 400 = 0
    · have hd2 : Hid (dim y 2 = 29) := by rw [hd, if_pos (hl.2 (.inl c4))]; rfl
      generalize dim y 2 = r at hd2
      have e4 : (y % 400 == 0) = true := by simp [c4]
      clear hl hd
      go_enter Try.func36, Try.ntmps36
      go_wp2
      go_ret
      exact ⟨by rw [hd2.out]; rfl, (Below.refl _ _).alloc (Nat.le_refl _) _⟩
    · have e4 : (y % 400 == 0) = false := by simp [c4]
      by_cases c1 : y % 4 = 0
      · have e1 : (y % 4 == 0) = true := by simp [c1]
        by_cases c2 : y % 100 = 0
        · have e2 : (y % 100 != 0) = false := by simp [c2]
          have hd2 : Hid (dim y 2 = 28) := by rw [hd, if_neg (fun q => by have := hl.1 q; omega)]; rfl
          generalize dim y 2 = r at hd2
          clear hl hd
          go_enter Try.func36, Try.ntmps36
          go_wp2
          go_ret
          exact ⟨by rw [hd2.out]; rfl, (Below.refl _ _).alloc (Nat.le_refl _) _⟩
        · have e2 : (y % 100 != 0) = true := by simp [c2]
          have hd2 : Hid (dim y 2 = 29) := by rw [hd, if_pos (hl.2 (.inr ⟨c1, c2⟩))]; rfl
          generalize dim y 2 = r at hd2
          clear hl hd
          go_enter Try.func36, Try.ntmps36
          go_wp2
          go_ret
          exact ⟨by rw [hd2.out]; rfl, (Below.refl _ _).alloc (Nat.le_refl _) _⟩
      · have e1 : (y % 4 == 0) = false := by simp [c1]
        have hd2 : Hid (dim y 2 = 28) := by rw [hd, if_neg (fun q => by have := hl.1 q; omega)]; rfl
        generalize dim y 2 = r at hd2
        clear hl hd
        go_enter Try.func36, Try.ntmps36
        go_wp2
        go_ret
        exact ⟨by rw [hd2.out]; rfl, (Below.refl _ _).alloc (Nat.le_refl _) _⟩
  all_goals
    go_enter Try.func36, Try.ntmps36
    go_wp2
    go_ret
    exact ⟨rfl, (Below.refl _ _).alloc (Nat.le_refl _) _⟩
end Go.Proofs.Ythdngjpfmjnchaa
