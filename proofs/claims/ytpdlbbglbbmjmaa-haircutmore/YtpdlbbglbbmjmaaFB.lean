/- Walks of the sum, the difference, the rounding test and the sign of package fixnum. Conditions: the arguments lie in their ranges. -/
import Derived.Test.YtpdlbbglbbmjmaaFA
import Derived.WalkKit
import Derived.ProofKit
import Derived.Handy
import Derived.WalkLawsBesides
import Derived.WalkSpells
import Derived.BigQuiet
import Derived.Deep.QuietTactic
import Derived.Deep.Light
import Derived.Deep.OwnRows
import Derived.Laws.AppendOwnNone
import Derived.Deep.RegionWith
import Derived.Lib.BitFns
import Derived.Lib.Walk
import Derived.Deep.CutBlock
import Derived.Deep.DeepCutAuto
import Derived.Deep.LoopGhost
import Derived.Deep.RegionHeld
namespace Go.Proofs.Ytpdlbbglbbmjmaa.N1
open Go.RowKit
set_option linter.unusedVariables false
set_option linter.unusedSimpArgs false

def AddPost (a b c d : Int) (w : World) (e : Ending) (w' : World) : Prop :=
  ∃ hi lo, e = .returned (.tuple #[.agg #[.int .u64 hi, .int .u64 lo], .bool (decide (wd a b + wd c d < wd 18446744073709551616 0))]) ∧ (0 ≤ hi ∧ hi < 18446744073709551616) ∧ (0 ≤ lo ∧ lo < 18446744073709551616) ∧
    Hid (wd hi lo = if wd a b + wd c d < wd 18446744073709551616 0 then wd a b + wd c d else 0) ∧ Below w.heap.size w w'

theorem ret_wide_bool {a b c d : Int} {x y : Bool} (h1 : a = c) (h2 : b = d) (h : x = y) : Ending.returned (.tuple #[.agg #[.int .u64 a, .int .u64 b], .bool x]) = .returned (.tuple #[.agg #[.int .u64 c, .int .u64 d], .bool y]) := by rw [h1, h2, h]

theorem xadd (a b c d : Int) (ha : 0 ≤ a ∧ a < 18446744073709551616) (hb : 0 ≤ b ∧ b < 18446744073709551616) (hc : 0 ≤ c ∧ c < 18446744073709551616) (hd : 0 ≤ d ∧ d < 18446744073709551616) (w : World) :
    Calls Try.prog 65 #[.agg #[.int .u64 a, .int .u64 b], .agg #[.int .u64 c, .int .u64 d]] w (AddPost a b c d w) := by
  go_enter Try.func65, Try.ntmps65
  go_wp2_with fail
  all_goals refine (xless _ _ _ _ (by simp only [IntKind.wrap_u64]; omega) (by simp only [IntKind.wrap_u64]; omega) (by omega) (by omega) _).mono ?_
  all_goals rintro e w1 ⟨rfl, rfl⟩
  all_goals go_wp2
  all_goals go_returns
  all_goals refine ⟨_, _, ret_wide_bool rfl rfl ?_, ?_, ?_, ?_, by go_grown⟩
  all_goals go_light
  all_goals first
    | exact (decide_eq_true (by simp only [wd, IntKind.wrap_u64] at *; omega)).symm
    | exact (decide_eq_false (by simp only [wd, IntKind.wrap_u64] at *; omega)).symm
    | (unfold Hid; rw [if_pos (by simp only [wd, IntKind.wrap_u64] at *; omega)]; simp only [wd, IntKind.wrap_u64] at *; omega)
    | (unfold Hid; rw [if_neg (by simp only [wd, IntKind.wrap_u64] at *; omega)]; simp only [wd, IntKind.wrap_u64] at *; omega)
    | (simp only [wd, IntKind.wrap_u64] at *; omega)

def SubPost (a b c d : Int) (w : World) (e : Ending) (w' : World) : Prop :=
  ∃ hi lo, e = .returned (.tuple #[.agg #[.int .u64 hi, .int .u64 lo], .bool (decide (wd c d ≤ wd a b))]) ∧ (0 ≤ hi ∧ hi < 18446744073709551616) ∧ (0 ≤ lo ∧ lo < 18446744073709551616) ∧
    Hid (wd hi lo = if wd c d ≤ wd a b then wd a b - wd c d else 0) ∧ Below w.heap.size w w'

theorem and_one (b : Int) (hb : 0 ≤ b ∧ b < 18446744073709551616) : bits .and .u64 b 1 = b % 2 := by
  obtain ⟨n, rfl⟩ := Int.eq_ofNat_of_zero_le hb.1
  rw [u64_and _ _ (by omega) (by omega) (by omega) (by omega)]
  simp
def awayB (how r d b : Int) (neg : Bool) : Bool := decide (how = 1 ∧ neg = true ∧ r ≠ 0 ∨ how = 2 ∧ neg = false ∧ r ≠ 0 ∨ how = 4 ∧ (2 * r > d ∨ 2 * r = d ∧ b % 2 = 1))

theorem awayB_no (r d b : Int) (neg : Bool) (g : r < d - r) : awayB 4 r d b neg = false := by
  unfold awayB
  refine decide_eq_false ?_
  rintro (h | h | h) <;> omega

theorem xaway4a (a b r d : Int) (neg : Bool) (hb : 0 ≤ b ∧ b < 18446744073709551616) (hr : 0 ≤ r ∧ r < 18446744073709551616) (hd : 0 ≤ d ∧ d < 18446744073709551616) (hrd : r < d) (w : World) (g : d - r < r):
    Calls Try.prog 64 #[.agg #[.int .u64 a, .int .u64 b], .int .u64 r, .int .u64 d, .bool neg, .int .i64 4] w fun e w' =>
      e = .returned (.bool (awayB 4 r d b neg)) ∧ w' = w.alloc (.cells #[.int .u64 a, .int .u64 b] 103) := by
    go_enter Try.func64, Try.ntmps64
    go_wp2
    go_ret
    refine ⟨ret_bool ?_, rfl⟩
    simp [awayB]; omega
theorem xaway4b (a b r d : Int) (neg : Bool) (hb : 0 ≤ b ∧ b < 18446744073709551616) (hr : 0 ≤ r ∧ r < 18446744073709551616) (hd : 0 ≤ d ∧ d < 18446744073709551616) (hrd : r < d) (w : World) (g : r < d - r):
    Calls Try.prog 64 #[.agg #[.int .u64 a, .int .u64 b], .int .u64 r, .int .u64 d, .bool neg, .int .i64 4] w fun e w' =>
      e = .returned (.bool (awayB 4 r d b neg)) ∧ w' = w.alloc (.cells #[.int .u64 a, .int .u64 b] 103) := by
    have g2 : (r == d - r) = false := by simp; omega
    go_enter Try.func64, Try.ntmps64
    go_wp2
    go_ret
    exact ⟨ret_bool (by rw [awayB_no r d b neg g]; exact decide_eq_false (by omega)), rfl⟩
theorem xaway4c (a b r : Int) (neg : Bool) (hb : 0 ≤ b ∧ b < 18446744073709551616) (hr : 0 ≤ r ∧ r + r < 18446744073709551616) (hrd : 0 < r) (w : World) :
    Calls Try.prog 64 #[.agg #[.int .u64 a, .int .u64 b], .int .u64 r, .int .u64 (r + r), .bool neg, .int .i64 4] w fun e w' =>
      e = .returned (.bool (awayB 4 r (r + r) b neg)) ∧ w' = w.alloc (.cells #[.int .u64 a, .int .u64 b] 103) := by
    go_enter Try.func64, Try.ntmps64
    go_wp2
    go_ret
    refine ⟨ret_bool ?_, rfl⟩
    rw [and_one b hb]
    have e2 : ¬ r + r < 2 * r := by omega
    have e3 : 2 * r = r + r := by omega
    by_cases hb2 : b % 2 = 1
    · rw [beq_iff_eq.2 hb2]; unfold awayB; exact (decide_eq_true (Or.inr (Or.inr ⟨rfl, Or.inr ⟨e3, hb2⟩⟩))).symm
    · rw [beq_eq_false_iff_ne.2 hb2]; unfold awayB; refine (decide_eq_false ?_).symm; rintro (h | h | h) <;> omega

theorem xaway (a b r d : Int) (neg : Bool) (how : Int) (hb : 0 ≤ b ∧ b < 18446744073709551616) (hr : 0 ≤ r ∧ r < 18446744073709551616) (hd : 0 ≤ d ∧ d < 18446744073709551616) (hrd : r < d) (w : World) :
    Calls Try.prog 64 #[.agg #[.int .u64 a, .int .u64 b], .int .u64 r, .int .u64 d, .bool neg, .int .i64 how] w fun e w' =>
      e = .returned (.bool (awayB how r d b neg)) ∧ w' = w.alloc (.cells #[.int .u64 a, .int .u64 b] 103) := by
  by_cases e1 : how = 1
  · subst e1
    cases neg <;> go_enter Try.func64, Try.ntmps64 <;> go_wp2
    all_goals go_ret
    all_goals exact ⟨ret_bool (by simp [awayB, bne] <;> rfl), rfl⟩
  by_cases e2 : how = 2
  · subst e2
    cases neg <;> go_enter Try.func64, Try.ntmps64 <;> go_wp2
    all_goals go_ret
    all_goals exact ⟨ret_bool (by simp [awayB, bne] <;> rfl), rfl⟩
  by_cases e4 : how = 4
  · subst e4
    by_cases g1 : d - r < r
    · exact xaway4a a b r d neg hb hr hd hrd w g1
    by_cases g2 : r < d - r
    · exact xaway4b a b r d neg hb hr hd hrd w g2
    obtain rfl : d = r + r := by omega
    exact xaway4c a b r neg hb (by omega) (by omega) w
  · have f1 : (how == 1) = false := by simp [e1]
    have f2 : (how == 2) = false := by simp [e2]
    have f4 : (how == 4) = false := by simp [e4]
    go_enter Try.func64, Try.ntmps64
    go_wp2
    go_ret
    exact ⟨ret_bool (by simp [awayB, e1, e2, e4]), rfl⟩

/-- a number with its sign -/
def sgnd (neg : Bool) (n : Int) : Int := if neg = true then - n else n

theorem xsigned (a b : Int) (neg : Bool) (ha : 0 ≤ a ∧ a < 18446744073709551616) (hb : 0 ≤ b ∧ b < 18446744073709551616) (w : World) :
    Calls Try.prog 66 #[.agg #[.int .u64 a, .int .u64 b], .bool neg] w fun e w' =>
      e = .returned (.tuple #[.int .i64 (fitS (sgnd neg (wd a b))), .int .i64 (fitE (sgnd neg (wd a b)))]) ∧ w' = w.alloc (.cells #[.int .u64 a, .int .u64 b] 103) := by
  cases neg <;> go_enter Try.func66, Try.ntmps66 <;> go_wp2
  all_goals go_ret2
  all_goals refine ⟨?_, by simp [*]⟩
  all_goals (simp [sgnd, fitS, fitE, wd, wrap64, IntKind.wrap_u64]; try omega)
end Go.Proofs.Ytpdlbbglbbmjmaa.N1
