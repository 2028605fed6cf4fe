/- Walks of the plain tests of layer 3, of Simple, of a day's interest and of Day, of the program and of the reference. Conditions: the arguments are ints. -/
import Derived.Test.YtdkhpoepdimniabNa
import Derived.WalkKit
import Derived.ProofKit
import Derived.Handy
import Derived.WalkLawsBesides
import Derived.WalkSpells
import Derived.BigQuiet
import Derived.Deep.QuietTactic
import Derived.Deep.Light
import Derived.Deep.OwnRows
import Derived.Laws.AppendOwnNone
import Derived.Deep.RegionWith
import Derived.Lib.BitFns
import Derived.Lib.Walk
import Derived.Deep.CutBlock
import Derived.Deep.DeepCutAuto
import Derived.Deep.LoopGhost
import Derived.Deep.RegionHeld3
import Derived.Lib.SmallJoins
namespace Go.Proofs.Ytdkhpoepdimniab
open Go.RowKit
set_option linter.unusedVariables false
set_option linter.unusedSimpArgs false

theorem md_floor (a b c : Int) (hc : 0 < c) : mdN a b c 1 = a * b / c := by
  have hcn : (c.natAbs : Int) = c := by omega
  have hneg : negB a b c = (decide (a < 0) != decide (b < 0)) := by simp [negB, show ¬ c < 0 by omega]
  have h0 : 0 ≤ (a.natAbs : Int) * b.natAbs := Int.mul_nonneg (by omega) (by omega)
  rw [mdN, mdQ, hcn]
  have hab : ((a.natAbs : Int) * b.natAbs = a * b ∧ negB a b c = false) ∨ ((a.natAbs : Int) * b.natAbs = -(a * b) ∧ negB a b c = true) := by
    rw [hneg]
    by_cases ha : a < 0
    · by_cases hb : b < 0
      · left
        rw [show (a.natAbs : Int) = -a by omega, show (b.natAbs : Int) = -b by omega, Int.neg_mul_neg]
        simp [ha, hb]
      · right
        rw [show (a.natAbs : Int) = -a by omega, show (b.natAbs : Int) = b by omega, Int.neg_mul]
        simp [ha, hb]
    · by_cases hb : b < 0
      · right
        rw [show (a.natAbs : Int) = a by omega, show (b.natAbs : Int) = -b by omega, Int.mul_neg]
        simp [ha, hb]
      · left
        rw [show (a.natAbs : Int) = a by omega, show (b.natAbs : Int) = b by omega]
        simp [ha, hb]
  rcases hab with ⟨e, hn⟩ | ⟨e, hn⟩
  · rw [hn, e]
    simp [awayB, sgnd]
  · rw [hn, e]
    rw [show a * b = -((a.natAbs : Int) * b.natAbs) by omega] at *
    generalize (a.natAbs : Int) * b.natAbs = x at *
    simp only [Int.neg_neg] at *
    have h1 := Int.mul_ediv_add_emod x c
    have h2 := Int.emod_nonneg x (show c ≠ 0 by omega)
    have h3 := Int.emod_lt_of_pos x hc
    by_cases hr : x % c = 0
    · have : awayB 1 (x % c) c (x / c) true = false := by simp [awayB, hr]
      rw [this]
      simp only [sgnd, if_true, if_false, Bool.false_eq_true]
      refine (Int.ediv_eq_iff_of_pos hc).2 ?_ |>.symm
      have e1 : -(x / c) * c = -(c * (x / c)) := by rw [Int.neg_mul, Int.mul_comm]
      omega
    · have : awayB 1 (x % c) c (x / c) true = true := by simp [awayB, hr]
      rw [this]
      simp only [sgnd, if_true]
      refine (Int.ediv_eq_iff_of_pos hc).2 ?_ |>.symm
      have e1 : -(x / c + 1) * c = -(c * (x / c)) - c := by rw [Int.neg_mul, Int.add_mul, Int.mul_comm]; omega
      omega
def amtB (a : Int) : Bool := decide (Amt a)
def rtdB (a : Int) : Bool := decide (Rtd a)
def spnB (a : Int) : Bool := decide (Spn a)
def dyB (a : Int) : Bool := decide (0 ≤ a ∧ a ≤ 200000)
def BoolPost (b : Bool) (w : World) (e : Ending) (w' : World) : Prop := e = .returned (.bool b) ∧ w = w'

theorem xga (a : Int) (w : World) : Calls Try.prog 7 #[.int .i64 a] w (BoolPost (amtB a) w) := by
  go_enter Try.func7, Try.ntmps7
  go_wp2
  all_goals go_ret
  all_goals exact ⟨ret_bool (by unfold amtB; symm; first | exact decide_eq_true (by omega) | exact decide_eq_false (by omega) | (simp; omega)), rfl⟩
theorem xgr (a : Int) (w : World) : Calls Try.prog 8 #[.int .i64 a] w (BoolPost (rtdB a) w) := by
  go_enter Try.func8, Try.ntmps8
  go_wp2
  all_goals go_ret
  all_goals exact ⟨ret_bool (by unfold rtdB; symm; first | exact decide_eq_true (by omega) | exact decide_eq_false (by omega) | (simp; omega)), rfl⟩
theorem xgs (a : Int) (w : World) : Calls Try.prog 9 #[.int .i64 a] w (BoolPost (spnB a) w) := by
  go_enter Try.func9, Try.ntmps9
  go_wp2
  all_goals go_ret
  all_goals exact ⟨ret_bool (by unfold spnB; symm; first | exact decide_eq_true (by omega) | exact decide_eq_false (by omega) | (simp; omega)), rfl⟩
theorem amtB_t {a : Int} (h : amtB a = true) : Amt a := of_decide_eq_true h
theorem amtB_f {a : Int} (h : amtB a = false) : ¬ Amt a := of_decide_eq_false h
theorem rtdB_t {a : Int} (h : rtdB a = true) : Rtd a := of_decide_eq_true h
theorem rtdB_f {a : Int} (h : rtdB a = false) : ¬ Rtd a := of_decide_eq_false h
theorem spnB_t {a : Int} (h : spnB a = true) : Spn a := of_decide_eq_true h
theorem spnB_f {a : Int} (h : spnB a = false) : ¬ Spn a := of_decide_eq_false h
theorem dyB_t {a : Int} (h : dyB a = true) : 0 ≤ a ∧ a ≤ 200000 := of_decide_eq_true h
theorem dyB_f {a : Int} (h : dyB a = false) : ¬ (0 ≤ a ∧ a ≤ 200000) := of_decide_eq_false h

/-- MulDiv by the parts of a unit, rounded down, where the outcome has its place -/
theorem md_here (a b : Int) (h : I64 (a * b / 360000000)) : mdS a b 360000000 1 = a * b / 360000000 ∧ mdE a b 360000000 1 = 0 := by
  rw [mdS, mdE, if_neg (by omega), if_neg (by omega), md_floor a b 360000000 (by omega)]
  exact ⟨if_pos h, if_pos h⟩
def SimPost (a t n : Int) (w : World) (e : Ending) (w' : World) : Prop :=
  e = .returned (.tuple #[.int .i64 (simS a t n), .int .i64 (simE a t n)]) ∧ Below w.heap.size w w'
theorem sim_no {a t n : Int} (h : ¬ (Amt a ∧ Rtd t ∧ Spn n)) : simS a t n = 0 ∧ simE a t n = 1 := ⟨if_neg h, if_neg h⟩
theorem sim_yes {a t n : Int} (h : Amt a ∧ Rtd t ∧ Spn n) : simS a t n = a * (t * n) / 360000000 ∧ simE a t n = 0 := ⟨if_pos h, if_pos h⟩
theorem tn_bound {t n : Int} (ht : Rtd t) (hn : Spn n) : -3660000000 ≤ t * n ∧ t * n ≤ 3660000000 := by
  have := prod_le n t 3660 1000000 hn ht (by omega)
  rw [Int.mul_comm n t] at this
  omega
theorem sim_fits {a x : Int} (ha : Amt a) (hx : -3660000000 ≤ x ∧ x ≤ 3660000000) : I64 (a * x / 360000000) := by
  have := prod_le a x 1125899906842624 3660000000 ha hx (by omega)
  generalize a * x = y at *
  omega

end Go.Proofs.Ytdkhpoepdimniab
