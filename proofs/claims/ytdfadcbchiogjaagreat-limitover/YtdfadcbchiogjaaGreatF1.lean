/- package fixnum: sums, sizes, products, MulDiv, shares -/
import Derived.Test.YtdfadcbchiogjaaGreatRows
import Derived.WalkKit
import Derived.ProofKit
import Derived.Handy
import Derived.WalkLawsBesides
import Derived.WalkSpells
import Derived.BigQuiet
import Derived.Deep.QuietTactic
import Derived.Deep.Light
import Derived.Deep.OwnRows
import Derived.Laws.AppendOwnNone
import Derived.Deep.RegionWith
import Derived.Lib.BitFns
import Derived.Lib.Walk
import Derived.Deep.CutBlock
import Derived.Deep.DeepCutAuto
import Derived.Deep.LoopGhost
import Derived.Deep.RegionHeld
namespace Go.Proofs.YtdfadcbchiogjaaGreat.N1
open Go.RowKit
set_option linter.unusedVariables false
set_option linter.unusedSimpArgs false

/-- what a sum or a difference comes to: it, or nothing and ErrOver -/
def fitS (n : Int) : Int := if -9223372036854775808 ≤ n ∧ n ≤ 9223372036854775807 then n else 0
def fitE (n : Int) : Int := if -9223372036854775808 ≤ n ∧ n ≤ 9223372036854775807 then 0 else 9
/-- the number of a Wide -/
def wd (a b : Int) : Int := a * 18446744073709551616 + b

theorem ret_int {k : IntKind} {a b : Int} (h : a = b) : Ending.returned (.int k a) = .returned (.int k b) := by rw [h]
theorem ret_bool {a b : Bool} (h : a = b) : Ending.returned (.bool a) = .returned (.bool b) := by rw [h]

theorem xplus (a b : Int) (ha : -9223372036854775808 ≤ a ∧ a ≤ 9223372036854775807) (hb : -9223372036854775808 ≤ b ∧ b ≤ 9223372036854775807) (w : World) :
    Calls Tryz.prog 45 #[.int .i64 a, .int .i64 b] w fun e w' => e = .returned (.tuple #[.int .i64 (fitS (a + b)), .int .i64 (fitE (a + b))]) ∧ w = w' := by
  go_enter Tryz.func45, Tryz.ntmps45
  go_wp2
  all_goals go_ret2
  all_goals (refine ⟨?_, rfl⟩; rename_i h; unfold fitS fitE wrap64 at *; simp at h ⊢; omega)

theorem rplus (a b : Int) (ha : -9223372036854775808 ≤ a ∧ a ≤ 9223372036854775807) (hb : -9223372036854775808 ≤ b ∧ b ≤ 9223372036854775807) (w : World) :
    Calls Tryz.prog 55 #[.int .i64 a, .int .i64 b] w fun e w' => e = .returned (.tuple #[.int .i64 (fitS (a + b)), .int .i64 (fitE (a + b))]) ∧ w = w' := by
  go_enter Tryz.func55, Tryz.ntmps55
  go_wp2
  all_goals go_ret2
  all_goals (refine ⟨?_, rfl⟩; unfold fitS fitE; simp; omega)

theorem xsize (a : Int) (ha : -9223372036854775808 ≤ a ∧ a ≤ 9223372036854775807) (w : World) :
    Calls Tryz.prog 49 #[.int .i64 a] w fun e w' => e = .returned (.int .u64 (a.natAbs : Int)) ∧ w = w' := by
  go_enter Tryz.func49, Tryz.ntmps49
  go_wp2
  all_goals go_ret
  all_goals refine ⟨?_, rfl⟩
  · exact ret_int (by simp only [IntKind.wrap_u64]; omega)
  · exact ret_int (by omega)

theorem xless (a b c d : Int) (ha : 0 ≤ a ∧ a < 18446744073709551616) (hb : 0 ≤ b ∧ b < 18446744073709551616) (hc : 0 ≤ c ∧ c < 18446744073709551616) (hd : 0 ≤ d ∧ d < 18446744073709551616) (w : World) :
    Calls Tryz.prog 78 #[.agg #[.int .u64 a, .int .u64 b], .agg #[.int .u64 c, .int .u64 d]] w fun e w' =>
      e = .returned (.bool (decide (wd a b < wd c d))) ∧ w' = (w.alloc (.cells #[.int .u64 a, .int .u64 b] 106)).alloc (.cells #[.int .u64 c, .int .u64 d] 106) := by
  go_enter Tryz.func78, Tryz.ntmps78
  go_wp2
  all_goals go_ret
  all_goals refine ⟨ret_bool ?_, by simp [*]⟩
  all_goals (unfold wd; simp; try omega)

/-- the product's upper and lower word, as Mul builds them -/
theorem mul_words (x y : Int) (hx0 : 0 ≤ x) (hx : x < 18446744073709551616) (hy0 : 0 ≤ y) (hy : y < 18446744073709551616) :
    (((x / 4294967296 * (y / 4294967296)) % 18446744073709551616 +
      (((x / 4294967296 * (y % 4294967296)) % 18446744073709551616 + ((x % 4294967296 * (y % 4294967296)) % 18446744073709551616) / 4294967296) % 18446744073709551616) / 4294967296) % 18446744073709551616 +
      (((x % 4294967296 * (y / 4294967296)) % 18446744073709551616 + (((x / 4294967296 * (y % 4294967296)) % 18446744073709551616 + ((x % 4294967296 * (y % 4294967296)) % 18446744073709551616) / 4294967296) % 18446744073709551616) % 4294967296) % 18446744073709551616) / 4294967296) % 18446744073709551616 * 18446744073709551616
    + (((((x % 4294967296 * (y / 4294967296)) % 18446744073709551616 + (((x / 4294967296 * (y % 4294967296)) % 18446744073709551616 + ((x % 4294967296 * (y % 4294967296)) % 18446744073709551616) / 4294967296) % 18446744073709551616) % 4294967296) % 18446744073709551616) * 4294967296) % 18446744073709551616
    + ((x % 4294967296 * (y % 4294967296)) % 18446744073709551616) % 4294967296) = x * y := by
  have ex : x = x / 4294967296 * 4294967296 + x % 4294967296 := by omega
  have ey : y = y / 4294967296 * 4294967296 + y % 4294967296 := by omega
  generalize hx1 : x / 4294967296 = x1 at *
  generalize hx0' : x % 4294967296 = x0 at *
  generalize hy1 : y / 4294967296 = y1 at *
  generalize hy0' : y % 4294967296 = y0 at *
  have b1 : 0 ≤ x1 ∧ x1 ≤ 4294967295 := by omega
  have b2 : 0 ≤ x0 ∧ x0 ≤ 4294967295 := by omega
  have b3 : 0 ≤ y1 ∧ y1 ≤ 4294967295 := by omega
  have b4 : 0 ≤ y0 ∧ y0 ≤ 4294967295 := by omega
  have pA := prod_bound x1 y1 b1.1 b1.2 b3.1 b3.2
  have pB := prod_bound x1 y0 b1.1 b1.2 b4.1 b4.2
  have pC := prod_bound x0 y0 b2.1 b2.2 b4.1 b4.2
  have pD := prod_bound x0 y1 b2.1 b2.2 b3.1 b3.2
  have hxy : x * y = x1 * y1 * 18446744073709551616 + (x1 * y0 + x0 * y1) * 4294967296 + x0 * y0 := by rw [ex, ey]; exact split_mul x1 x0 y1 y0
  rw [hxy]
  generalize x1 * y1 = A at *
  generalize x1 * y0 = B at *
  generalize x0 * y0 = C at *
  generalize x0 * y1 = D at *
  omega

theorem or_low (a b : Int) (h0 : 0 ≤ a) (h1 : a < 4294967296) (h2 : 0 ≤ b) (h3 : b < 4294967296) : bits .or .u64 (a * 4294967296) b = a * 4294967296 + b := by
  rw [u64_or _ _ (by omega) (by omega) h2 (by omega)]
  obtain ⟨n, rfl⟩ := Int.eq_ofNat_of_zero_le h0
  obtain ⟨m, rfl⟩ := Int.eq_ofNat_of_zero_le h2
  have e1 : ((n : Int) * 4294967296).toNat = n <<< 32 := by rw [Nat.shiftLeft_eq]; omega
  rw [e1, Int.toNat_natCast, ← Nat.shiftLeft_add_eq_or_of_lt (by omega), Nat.shiftLeft_eq]
  omega

theorem xmul (a b : Int) (ha : 0 ≤ a ∧ a < 18446744073709551616) (hb : 0 ≤ b ∧ b < 18446744073709551616) (w : World) :
    Calls Tryz.prog 50 #[.int .u64 a, .int .u64 b] w fun e w' =>
      ∃ hi lo, e = .returned (.agg #[.int .u64 hi, .int .u64 lo]) ∧ (0 ≤ hi ∧ hi < 18446744073709551616) ∧ (0 ≤ lo ∧ lo < 18446744073709551616) ∧ Hid (wd hi lo = a * b) ∧ Below w.heap.size w w' := by
  go_enter Tryz.func50, Tryz.ntmps50
  go_wp2
  go_returns
  refine ⟨_, _, rfl, ?_, ?_, ?_, by go_grown⟩
  · simp only [IntKind.wrap_u64]; omega
  · simp (disch := omega) only [and_low32, IntKind.wrap_u64]
    rw [show ∀ x : Int, x * 4294967296 % 18446744073709551616 = x % 4294967296 * 4294967296 from fun x => by omega, or_low _ _ (by omega) (by omega) (by omega) (by omega)]
    omega
  · have h := mul_words a b ha.1 ha.2 hb.1 hb.2
    simp (disch := omega) only [and_low32, IntKind.wrap_u64]
    rw [show ∀ x : Int, x * 4294967296 % 18446744073709551616 = x % 4294967296 * 4294967296 from fun x => by omega] at h ⊢
    rw [or_low _ _ (by omega) (by omega) (by omega) (by omega)]
    exact h

def AddPost (a b c d : Int) (w : World) (e : Ending) (w' : World) : Prop :=
  ∃ hi lo, e = .returned (.tuple #[.agg #[.int .u64 hi, .int .u64 lo], .bool (decide (wd a b + wd c d < wd 18446744073709551616 0))]) ∧ (0 ≤ hi ∧ hi < 18446744073709551616) ∧ (0 ≤ lo ∧ lo < 18446744073709551616) ∧
    Hid (wd hi lo = if wd a b + wd c d < wd 18446744073709551616 0 then wd a b + wd c d else 0) ∧ Below w.heap.size w w'

theorem ret_wide_bool {a b c d : Int} {x y : Bool} (h1 : a = c) (h2 : b = d) (h : x = y) : Ending.returned (.tuple #[.agg #[.int .u64 a, .int .u64 b], .bool x]) = .returned (.tuple #[.agg #[.int .u64 c, .int .u64 d], .bool y]) := by rw [h1, h2, h]

theorem xadd (a b c d : Int) (ha : 0 ≤ a ∧ a < 18446744073709551616) (hb : 0 ≤ b ∧ b < 18446744073709551616) (hc : 0 ≤ c ∧ c < 18446744073709551616) (hd : 0 ≤ d ∧ d < 18446744073709551616) (w : World) :
    Calls Tryz.prog 53 #[.agg #[.int .u64 a, .int .u64 b], .agg #[.int .u64 c, .int .u64 d]] w (AddPost a b c d w) := by
  go_enter Tryz.func53, Tryz.ntmps53
  go_wp2_with fail
  all_goals refine (xless _ _ _ _ (by simp only [IntKind.wrap_u64]; omega) (by simp only [IntKind.wrap_u64]; omega) (by omega) (by omega) _).mono ?_
  all_goals rintro e w1 ⟨rfl, rfl⟩
  all_goals go_wp2
  all_goals go_returns
  all_goals refine ⟨_, _, ret_wide_bool rfl rfl ?_, ?_, ?_, ?_, by go_grown⟩
  all_goals go_light
  all_goals first
    | exact (decide_eq_true (by simp only [wd, IntKind.wrap_u64] at *; omega)).symm
    | exact (decide_eq_false (by simp only [wd, IntKind.wrap_u64] at *; omega)).symm
    | (unfold Hid; rw [if_pos (by simp only [wd, IntKind.wrap_u64] at *; omega)]; simp only [wd, IntKind.wrap_u64] at *; omega)
    | (unfold Hid; rw [if_neg (by simp only [wd, IntKind.wrap_u64] at *; omega)]; simp only [wd, IntKind.wrap_u64] at *; omega)
    | (simp only [wd, IntKind.wrap_u64] at *; omega)

def SubPost (a b c d : Int) (w : World) (e : Ending) (w' : World) : Prop :=
  ∃ hi lo, e = .returned (.tuple #[.agg #[.int .u64 hi, .int .u64 lo], .bool (decide (wd c d ≤ wd a b))]) ∧ (0 ≤ hi ∧ hi < 18446744073709551616) ∧ (0 ≤ lo ∧ lo < 18446744073709551616) ∧
    Hid (wd hi lo = if wd c d ≤ wd a b then wd a b - wd c d else 0) ∧ Below w.heap.size w w'

theorem and_one (b : Int) (hb : 0 ≤ b ∧ b < 18446744073709551616) : bits .and .u64 b 1 = b % 2 := by
  obtain ⟨n, rfl⟩ := Int.eq_ofNat_of_zero_le hb.1
  rw [u64_and _ _ (by omega) (by omega) (by omega) (by omega)]
  simp
def awayB (how r d b : Int) (neg : Bool) : Bool := decide (how = 1 ∧ neg = true ∧ r ≠ 0 ∨ how = 2 ∧ neg = false ∧ r ≠ 0 ∨ how = 4 ∧ (2 * r > d ∨ 2 * r = d ∧ b % 2 = 1))

theorem awayB_no (r d b : Int) (neg : Bool) (g : r < d - r) : awayB 4 r d b neg = false := by
  unfold awayB
  refine decide_eq_false ?_
  rintro (h | h | h) <;> omega

theorem xaway4a (a b r d : Int) (neg : Bool) (hb : 0 ≤ b ∧ b < 18446744073709551616) (hr : 0 ≤ r ∧ r < 18446744073709551616) (hd : 0 ≤ d ∧ d < 18446744073709551616) (hrd : r < d) (w : World) (g : d - r < r):
    Calls Tryz.prog 52 #[.agg #[.int .u64 a, .int .u64 b], .int .u64 r, .int .u64 d, .bool neg, .int .i64 4] w fun e w' =>
      e = .returned (.bool (awayB 4 r d b neg)) ∧ w' = w.alloc (.cells #[.int .u64 a, .int .u64 b] 106) := by
    go_enter Tryz.func52, Tryz.ntmps52
    go_wp2
    go_ret
    refine ⟨ret_bool ?_, rfl⟩
    simp [awayB]; omega
theorem xaway4b (a b r d : Int) (neg : Bool) (hb : 0 ≤ b ∧ b < 18446744073709551616) (hr : 0 ≤ r ∧ r < 18446744073709551616) (hd : 0 ≤ d ∧ d < 18446744073709551616) (hrd : r < d) (w : World) (g : r < d - r):
    Calls Tryz.prog 52 #[.agg #[.int .u64 a, .int .u64 b], .int .u64 r, .int .u64 d, .bool neg, .int .i64 4] w fun e w' =>
      e = .returned (.bool (awayB 4 r d b neg)) ∧ w' = w.alloc (.cells #[.int .u64 a, .int .u64 b] 106) := by
    have g2 : (r == d - r) = false := by simp; omega
    go_enter Tryz.func52, Tryz.ntmps52
    go_wp2
    go_ret
    exact ⟨ret_bool (by rw [awayB_no r d b neg g]; exact decide_eq_false (by omega)), rfl⟩
theorem xaway4c (a b r : Int) (neg : Bool) (hb : 0 ≤ b ∧ b < 18446744073709551616) (hr : 0 ≤ r ∧ r + r < 18446744073709551616) (hrd : 0 < r) (w : World) :
    Calls Tryz.prog 52 #[.agg #[.int .u64 a, .int .u64 b], .int .u64 r, .int .u64 (r + r), .bool neg, .int .i64 4] w fun e w' =>
      e = .returned (.bool (awayB 4 r (r + r) b neg)) ∧ w' = w.alloc (.cells #[.int .u64 a, .int .u64 b] 106) := by
    go_enter Tryz.func52, Tryz.ntmps52
    go_wp2
    go_ret
    refine ⟨ret_bool ?_, rfl⟩
    rw [and_one b hb]
    have e2 : ¬ r + r < 2 * r := by omega
    have e3 : 2 * r = r + r := by omega
    by_cases hb2 : b % 2 = 1
    · rw [beq_iff_eq.2 hb2]; unfold awayB; exact (decide_eq_true (Or.inr (Or.inr ⟨rfl, Or.inr ⟨e3, hb2⟩⟩))).symm
    · rw [beq_eq_false_iff_ne.2 hb2]; unfold awayB; refine (decide_eq_false ?_).symm; rintro (h | h | h) <;> omega

theorem xaway (a b r d : Int) (neg : Bool) (how : Int) (hb : 0 ≤ b ∧ b < 18446744073709551616) (hr : 0 ≤ r ∧ r < 18446744073709551616) (hd : 0 ≤ d ∧ d < 18446744073709551616) (hrd : r < d) (w : World) :
    Calls Tryz.prog 52 #[.agg #[.int .u64 a, .int .u64 b], .int .u64 r, .int .u64 d, .bool neg, .int .i64 how] w fun e w' =>
      e = .returned (.bool (awayB how r d b neg)) ∧ w' = w.alloc (.cells #[.int .u64 a, .int .u64 b] 106) := by
  by_cases e1 : how = 1
  · subst e1
    cases neg <;> go_enter Tryz.func52, Tryz.ntmps52 <;> go_wp2
    all_goals go_ret
    all_goals exact ⟨ret_bool (by simp [awayB, bne] <;> rfl), rfl⟩
  by_cases e2 : how = 2
  · subst e2
    cases neg <;> go_enter Tryz.func52, Tryz.ntmps52 <;> go_wp2
    all_goals go_ret
    all_goals exact ⟨ret_bool (by simp [awayB, bne] <;> rfl), rfl⟩
  by_cases e4 : how = 4
  · subst e4
    by_cases g1 : d - r < r
    · exact xaway4a a b r d neg hb hr hd hrd w g1
    by_cases g2 : r < d - r
    · exact xaway4b a b r d neg hb hr hd hrd w g2
    obtain rfl : d = r + r := by omega
    exact xaway4c a b r neg hb (by omega) (by omega) w
  · have f1 : (how == 1) = false := by simp [e1]
    have f2 : (how == 2) = false := by simp [e2]
    have f4 : (how == 4) = false := by simp [e4]
    go_enter Tryz.func52, Tryz.ntmps52
    go_wp2
    go_ret
    exact ⟨ret_bool (by simp [awayB, e1, e2, e4]), rfl⟩

/-- a number with its sign -/
def sgnd (neg : Bool) (n : Int) : Int := if neg = true then - n else n

theorem xsigned (a b : Int) (neg : Bool) (ha : 0 ≤ a ∧ a < 18446744073709551616) (hb : 0 ≤ b ∧ b < 18446744073709551616) (w : World) :
    Calls Tryz.prog 54 #[.agg #[.int .u64 a, .int .u64 b], .bool neg] w fun e w' =>
      e = .returned (.tuple #[.int .i64 (fitS (sgnd neg (wd a b))), .int .i64 (fitE (sgnd neg (wd a b)))]) ∧ w' = w.alloc (.cells #[.int .u64 a, .int .u64 b] 106) := by
  cases neg <;> go_enter Tryz.func54, Tryz.ntmps54 <;> go_wp2
  all_goals go_ret2
  all_goals refine ⟨?_, by simp [*]⟩
  all_goals (simp [sgnd, fitS, fitE, wd, wrap64, IntKind.wrap_u64]; try omega)

def Div64Said : Prop := ∀ (hi lo y : Int) (w : World), 0 ≤ hi → hi < y → y < 18446744073709551616 → 0 ≤ lo → lo < 18446744073709551616 →
  Calls Tryz.prog 77 #[.int .u64 hi, .int .u64 lo, .int .u64 y] w fun e w' => e = .returned (.tuple #[.int .u64 (wd hi lo / y), .int .u64 (wd hi lo % y)]) ∧ ∃ m, w' = w.drewN m

theorem ret_two {k : IntKind} {k' : IntKind} {a b c d : Int} (h1 : a = c) (h2 : b = d) : Ending.returned (.tuple #[.int k a, .int k' b]) = .returned (.tuple #[.int k c, .int k' d]) := by rw [h1, h2]

theorem xdiv64_zero (lo y : Int) (w : World) (hy : 0 < y ∧ y < 18446744073709551616) (hl : 0 ≤ lo ∧ lo < 18446744073709551616) :
    Calls Tryz.prog 77 #[.int .u64 0, .int .u64 lo, .int .u64 y] w fun e w' => e = .returned (.tuple #[.int .u64 (wd 0 lo / y), .int .u64 (wd 0 lo % y)]) ∧ ∃ m, w' = w.drewN m := by
  have g0 : (y == 0) = false := by simp; omega
  go_enter Tryz.func77, Tryz.ntmps77
  go_wp2
  go_quiet (fail)
  go_wp2
  go_ret2
  exact ⟨ret_two (by simp [wd]) (by simp [wd]), _, rfl⟩

theorem below_drewN {B : Nat} {a w : World} {n : Nat} (h : Below B a w) : Below B a (w.drewN n) := ⟨h.os, h.tape, h.output, h.size, h.block⟩

theorem div_words (a b d : Int) : wd (a / d) (wd (a % d) b / d) * d + wd (a % d) b % d = wd a b := by
  have h1 := Int.mul_ediv_add_emod (wd (a % d) b) d
  have h2 := Int.mul_ediv_add_emod a d
  generalize wd (a % d) b / d = q at *
  generalize hr : wd (a % d) b % d = r at *
  unfold wd at *
  generalize a / d = x at *
  generalize a % d = y at *
  grind

theorem div_low (a b d : Int) (ha : 0 ≤ a ∧ a < 18446744073709551616) (hb : 0 ≤ b ∧ b < 18446744073709551616) (hd : 0 < d ∧ d < 18446744073709551616) : 0 ≤ wd (a % d) b / d ∧ wd (a % d) b / d < 18446744073709551616 := by
  have h1 := Int.emod_nonneg a (show d ≠ 0 by omega)
  have h2 := Int.emod_lt_of_pos a hd.1
  unfold wd
  constructor
  · exact Int.ediv_nonneg (by omega) (by omega)
  · exact Int.ediv_lt_of_lt_mul hd.1 (by omega)

def DivPost (a b d : Int) (w : World) (e : Ending) (w' : World) : Prop :=
  ∃ qh ql r, e = .returned (.tuple #[.agg #[.int .u64 qh, .int .u64 ql], .int .u64 r]) ∧ (0 ≤ qh ∧ qh < 18446744073709551616) ∧ (0 ≤ ql ∧ ql < 18446744073709551616) ∧ (0 ≤ r ∧ r < d) ∧
    Hid (wd qh ql * d + r = wd a b) ∧ Below w.heap.size w w'

theorem xdiv_any (a b d : Int) (ha : 0 ≤ a ∧ a < 18446744073709551616) (hb : 0 ≤ b ∧ b < 18446744073709551616) (hd : 0 < d ∧ d < 18446744073709551616) (w : World)
    (H : ∀ w, Calls Tryz.prog 77 #[.int .u64 (a % d), .int .u64 b, .int .u64 d] w fun e w' => e = .returned (.tuple #[.int .u64 (wd (a % d) b / d), .int .u64 (wd (a % d) b % d)]) ∧ ∃ m, w' = w.drewN m) :
    Calls Tryz.prog 51 #[.agg #[.int .u64 a, .int .u64 b], .int .u64 d] w (DivPost a b d w) := by
  have g0 : (d == 0) = false := by simp; omega
  have HH : Hid _ := H
  clear H
  go_enter Tryz.func51, Tryz.ntmps51
  go_wp2
  go_quiet (first | (go_at_call 77; exact Calls.quiet_of (HH.out _)))
  go_wp2
  go_returns
  refine ⟨_, _, _, rfl, ?_, ?_, ?_, ?_, ?_⟩
  · exact ⟨Int.ediv_nonneg ha.1 (by omega), Int.lt_of_le_of_lt (Int.ediv_le_self _ ha.1) ha.2⟩
  · exact div_low a b d ha hb hd
  · exact ⟨Int.emod_nonneg _ (by omega), Int.emod_lt_of_pos _ hd.1⟩
  · exact div_words a b d
  · refine Below.setCell (Below.setCell (below_drewN (Below.alloc (Below.alloc (Below.refl _ _) (Nat.le_refl _) _) ?_ _)) ?_ _) ?_ _ <;> simp

theorem xdiv (a b d : Int) (ha : 0 ≤ a ∧ a < 18446744073709551616) (hb : 0 ≤ b ∧ b < 18446744073709551616) (hd : 0 < d ∧ d < 18446744073709551616) (w : World) (H : a % d = 0 ∨ Div64Said) :
    Calls Tryz.prog 51 #[.agg #[.int .u64 a, .int .u64 b], .int .u64 d] w (DivPost a b d w) := by
  refine xdiv_any a b d ha hb hd w fun w => ?_
  rcases H with h | h
  · rw [h]; exact xdiv64_zero b d w hd hb
  · exact h (a % d) b d w (Int.emod_nonneg _ (by omega)) (Int.emod_lt_of_pos _ hd.1) hd.2 hb.1 hb.2

theorem xdiv_none (a b : Int) (w : World) :
    Calls Tryz.prog 51 #[.agg #[.int .u64 a, .int .u64 b], .int .u64 0] w fun e w' => e = .returned (.tuple #[.agg #[.int .u64 0, .int .u64 0], .int .u64 0]) ∧ Below w.heap.size w w' := by
  go_enter Tryz.func51, Tryz.ntmps51
  go_wp2
  go_returns
  exact ⟨rfl, by go_grown⟩

def negB (a b c : Int) : Bool := (decide (a < 0) != decide (b < 0)) != decide (c < 0)
/-- the sizes' quotient, rounded -/
def mdQ (a b c how : Int) : Int :=
  if awayB how ((a.natAbs : Int) * b.natAbs % c.natAbs) c.natAbs ((a.natAbs : Int) * b.natAbs / c.natAbs) (negB a b c) = true then (a.natAbs : Int) * b.natAbs / c.natAbs + 1 else (a.natAbs : Int) * b.natAbs / c.natAbs
/-- with its sign -/
def mdN (a b c how : Int) : Int := sgnd (negB a b c) (mdQ a b c how)
/-- what MulDiv answers: the number, the error -/
def mdS (a b c how : Int) : Int := if c = 0 ∨ how < 1 ∨ 4 < how then 0 else fitS (mdN a b c how)
def mdE (a b c how : Int) : Int := if c = 0 ∨ how < 1 ∨ 4 < how then 1 else fitE (mdN a b c how)

def MulDivPost (a b c how : Int) (w : World) (e : Ending) (w' : World) : Prop :=
  e = .returned (.tuple #[.int .i64 (mdS a b c how), .int .i64 (mdE a b c how)]) ∧ Below w.heap.size w w'

theorem xmuldiv_bad (a b c how : Int) (w : World) (h : c = 0 ∨ how < 1 ∨ 4 < how) :
    Calls Tryz.prog 28 #[.int .i64 a, .int .i64 b, .int .i64 c, .int .i64 how] w (MulDivPost a b c how w) := by
  have e1 : mdS a b c how = 0 := if_pos h
  have e2 : mdE a b c how = 1 := if_pos h
  have E1 : Hid (mdS a b c how = 0) := e1
  have E2 : Hid (mdE a b c how = 1) := e2
  clear e1 e2
  by_cases h0 : c = 0
  · subst h0
    go_enter Tryz.func28, Tryz.ntmps28
    go_wp2
    go_ret2
    exact ⟨ret_two E1.out.symm E2.out.symm, Below.refl _ _⟩
  have g0 : (c == 0) = false := by simp [h0]
  by_cases h1 : how < 1
  · go_enter Tryz.func28, Tryz.ntmps28
    go_wp2
    go_ret2
    exact ⟨ret_two E1.out.symm E2.out.symm, Below.refl _ _⟩
  have h2 : 4 < how := by omega
  go_enter Tryz.func28, Tryz.ntmps28
  go_wp2
  go_ret2
  exact ⟨ret_two E1.out.symm E2.out.symm, Below.refl _ _⟩

theorem wd_zero (a b : Int) (ha : 0 ≤ a ∧ a < 18446744073709551616) (hb : 0 ≤ b ∧ b < 18446744073709551616) (h : wd a b < 18446744073709551616) : a = 0 := by
  unfold wd at h
  omega

theorem md_quot (a b c ph pl qh ql r d : Int) (hprod : wd ph pl = (a.natAbs : Int) * b.natAbs) (hquo : wd qh ql * d + r = wd ph pl) (hr : 0 ≤ r ∧ r < d) (hd : d = (c.natAbs : Int)) :
    (a.natAbs : Int) * b.natAbs / c.natAbs = wd qh ql ∧ (a.natAbs : Int) * b.natAbs % c.natAbs = r := by
  rw [← hd, ← hprod, ← hquo]
  generalize wd qh ql = q
  have h1 := (Int.ediv_emod_unique (a := q * d + r) (b := d) (r := r) (q := q) (by omega)).2 ⟨by rw [Int.mul_comm d q]; omega, hr.1, hr.2⟩
  exact h1

theorem awayB_lo (how r d qh ql : Int) (ng : Bool) : awayB how r d (wd qh ql) ng = awayB how r d ql ng := by
  have : wd qh ql % 2 = ql % 2 := by unfold wd; omega
  unfold awayB
  rw [this]

theorem md_no (a b c how ph pl qh ql r d : Int) (ng : Bool) (hprod : wd ph pl = (a.natAbs : Int) * b.natAbs) (hquo : wd qh ql * d + r = wd ph pl) (hr : 0 ≤ r ∧ r < d) (hd : d = (c.natAbs : Int)) (hng : ng = negB a b c)
    (haw : awayB how r d ql ng = false) : mdN a b c how = sgnd ng (wd qh ql) := by
  obtain ⟨h1, h2⟩ := md_quot a b c ph pl qh ql r d hprod hquo hr hd
  unfold mdN mdQ
  rw [h1, h2, ← hng, ← hd, awayB_lo, haw, if_neg (by simp)]

theorem md_yes (a b c how ph pl qh ql r d sh sl : Int) (ng : Bool) (ha : -9223372036854775808 ≤ a ∧ a ≤ 9223372036854775807) (hb : -9223372036854775808 ≤ b ∧ b ≤ 9223372036854775807) (hprod : wd ph pl = (a.natAbs : Int) * b.natAbs) (hquo : wd qh ql * d + r = wd ph pl) (hr : 0 ≤ r ∧ r < d) (hd : d = (c.natAbs : Int)) (hng : ng = negB a b c)
    (haw : awayB how r d ql ng = true) (hs : wd sh sl = if wd qh ql + wd 0 1 < wd 18446744073709551616 0 then wd qh ql + wd 0 1 else 0) : mdN a b c how = sgnd ng (wd sh sl) := by
  obtain ⟨h1, h2⟩ := md_quot a b c ph pl qh ql r d hprod hquo hr hd
  have h3 : wd qh ql ≤ (a.natAbs : Int) * b.natAbs := by
    rw [← h1]
    exact Int.ediv_le_self _ (Int.mul_nonneg (by omega) (by omega))
  have h4 : (a.natAbs : Int) * b.natAbs ≤ 9223372036854775808 * 9223372036854775808 := Int.mul_le_mul (by omega) (by omega) (by omega) (by omega)
  have h5 : wd 0 1 = 1 := rfl
  have h6 : wd 18446744073709551616 0 = 340282366920938463463374607431768211456 := rfl
  rw [if_pos (by omega), h5] at hs
  unfold mdN mdQ
  rw [h1, h2, ← hng, ← hd, awayB_lo, haw, if_pos rfl, hs]

theorem xmuldiv_good (a b c how : Int) (ha : -9223372036854775808 ≤ a ∧ a ≤ 9223372036854775807) (hb : -9223372036854775808 ≤ b ∧ b ≤ 9223372036854775807) (hc : -9223372036854775808 ≤ c ∧ c ≤ 9223372036854775807)
    (w : World) (h0 : c ≠ 0) (h1 : 1 ≤ how) (h2 : how ≤ 4) (H : (a.natAbs : Int) * b.natAbs < 18446744073709551616 ∨ Div64Said) :
    Calls Tryz.prog 28 #[.int .i64 a, .int .i64 b, .int .i64 c, .int .i64 how] w (MulDivPost a b c how w) := by
  have g0 : (c == 0) = false := by simp [h0]
  have HH : Hid _ := H
  clear H
  go_enter Tryz.func28, Tryz.ntmps28
  go_wp2_with fail
  refine (xsize c hc _).mono ?_
  rintro e w1 ⟨rfl, rfl⟩
  go_wp2_with fail
  refine (xsize a ha _).mono ?_
  rintro e w1 ⟨rfl, rfl⟩
  go_wp2_with fail
  refine (xsize b hb _).mono ?_
  rintro e w1 ⟨rfl, rfl⟩
  go_wp2_with fail
  refine (xmul _ _ (by omega) (by omega) _).mono ?_
  rintro e w1 ⟨ph, pl, rfl, bph, bpl, hprod, hb1⟩
  go_wp2_with fail
  have hS : ph % ↑c.natAbs = 0 ∨ Div64Said := by
    rcases HH.out with h | h
    · left
      have hp := hprod.out
      obtain rfl : ph = 0 := wd_zero ph pl bph bpl (by rw [hp]; exact h)
      simp
    · exact Or.inr h
  obtain ⟨d, hd⟩ : ∃ d : Int, d = (c.natAbs : Int) := ⟨_, rfl⟩
  have bd : 0 < d ∧ d < 18446744073709551616 := by omega
  rw [← hd] at hS ⊢
  have Hd : Hid _ := hd
  clear hd
  refine (xdiv ph pl d bph bpl bd _ hS).mono ?_
  rintro e w2 ⟨qh, ql, r, rfl, bqh, bql, brr, hquo, hb2⟩
  clear hS HH bph bpl
  have Hb : Hid (Below w.heap.size w w2) := hb1.trans (hb2.mono hb1.size)
  clear hb1 hb2
  go_wp2_with fail
  generalize hng : (!(!decide (a < 0) == decide (b < 0)) == decide (c < 0)) = ng
  have Hng : Hid (ng = negB a b c) := hng.symm
  clear hng
  refine (xaway qh ql r d ng how bql ⟨brr.1, by omega⟩ ⟨by omega, bd.2⟩ brr.2 _).mono ?_
  rintro e w3 ⟨rfl, rfl⟩
  generalize haw : awayB how r d ql ng = aw
  have Haw : Hid _ := haw
  clear haw
  have hsz : Hid (w.heap.size ≤ w2.heap.size) := Hb.out.size
  cases aw
  · go_wp2_with fail
    refine (xsigned qh ql ng bqh bql _).mono ?_
    rintro e w4 ⟨rfl, rfl⟩
    go_wp2
    go_ret2
    have hm := md_no a b c how ph pl qh ql r d ng hprod.out hquo.out brr Hd.out Hng.out Haw.out
    refine ⟨ret_two ?_ ?_, ?_⟩
    · rw [mdS, if_neg (by omega), hm]
    · rw [mdE, if_neg (by omega), hm]
    · have := hsz.out
      refine Below.alloc (Below.alloc (Below.alloc Hb.out ?_ _) ?_ _) ?_ _
      all_goals first | omega | (simp; omega)
  · go_wp2_with fail
    refine (xadd qh ql 0 1 bqh bql (by omega) (by omega) _).mono ?_
    rintro e w4 ⟨sh, sl, rfl, bsh, bsl, hsum, hb4⟩
    have c0 : w4.cell? ⟨w2.heap.size, 0, none⟩ = some (.int .u64 qh) := (hb4.cell (by simp; omega)).trans (World.cell?_alloc2_first ..)
    have c1 : w4.cell? ⟨w2.heap.size, 1, none⟩ = some (.int .u64 ql) := (hb4.cell (by simp; omega)).trans (World.cell?_alloc2_first ..)
    have f0 : w4.frozen? ⟨w2.heap.size, 0, none⟩ = false := (hb4.frozen (by simp; omega)).trans (World.frozen?_alloc2_first ..)
    have f1 : w4.frozen? ⟨w2.heap.size, 1, none⟩ = false := (hb4.frozen (by simp; omega)).trans (World.frozen?_alloc2_first ..)
    have Hb4 : Hid _ := hb4
    clear hb4
    generalize hok : decide (wd qh ql + wd 0 1 < wd 18446744073709551616 0) = ok
    have Hok : Hid _ := hok
    clear hok
    go_wp2_with fail
    refine (xsigned sh sl ng bsh bsl _).mono ?_
    rintro e w5 ⟨rfl, rfl⟩
    go_wp2
    go_ret2
    have hm := md_yes a b c how ph pl qh ql r d sh sl ng ha hb hprod.out hquo.out brr Hd.out Hng.out Haw.out hsum.out
    refine ⟨ret_two ?_ ?_, ?_⟩
    · rw [mdS, if_neg (by omega), hm]
    · rw [mdE, if_neg (by omega), hm]
    · have h7 := hsz.out
      have h8 := Hb4.out.size
      simp at h8
      have hB : Below w.heap.size w w4 := by
        refine Below.trans (Below.alloc (Below.alloc Hb.out ?_ _) ?_ _) (Hb4.out.mono ?_)
        all_goals first | omega | (simp; omega)
      refine Below.alloc (Below.setCell (Below.setCell hB ?_ _) ?_ _) ?_ _
      all_goals first | omega | (simp; omega)

theorem xmuldiv (a b c how : Int) (ha : -9223372036854775808 ≤ a ∧ a ≤ 9223372036854775807) (hb : -9223372036854775808 ≤ b ∧ b ≤ 9223372036854775807) (hc : -9223372036854775808 ≤ c ∧ c ≤ 9223372036854775807)
    (w : World) (H : (a.natAbs : Int) * b.natAbs < 18446744073709551616 ∨ Div64Said) :
    Calls Tryz.prog 28 #[.int .i64 a, .int .i64 b, .int .i64 c, .int .i64 how] w (MulDivPost a b c how w) := by
  by_cases h : c = 0 ∨ how < 1 ∨ 4 < how
  · exact xmuldiv_bad a b c how w h
  · exact xmuldiv_good a b c how ha hb hc w (by omega) (by omega) (by omega) H

/-- a slice value whose elements read as these ints -/
def Seg (w : World) (v : Value) (xs : List Int) : Prop :=
  ∃ a cap, v = .slice a xs.length cap ∧ (xs ≠ [] → ∃ b off, a = some ⟨b, off, none⟩ ∧ b < w.heap.size ∧ ∀ j, j < xs.length → w.cell? ⟨b, off + j, none⟩ = some (.int .i64 (xs.getD j 0)))
/-- all are ints; the length is one -/
def Ints (xs : List Int) : Prop := (∀ j, -9223372036854775808 ≤ xs.getD j 0 ∧ xs.getD j 0 ≤ 9223372036854775807) ∧ xs.length ≤ 9223372036854775807

theorem Seg.below {w w' : World} {v : Value} {xs : List Int} (h : Seg w v xs) (hb : Below w.heap.size w w') : Seg w' v xs := by
  obtain ⟨a, cap, rfl, h2⟩ := h
  refine ⟨a, cap, rfl, fun hx => ?_⟩
  obtain ⟨b, off, rfl, hlt, hc⟩ := h2 hx
  exact ⟨b, off, rfl, Nat.lt_of_lt_of_le hlt hb.size, fun j hj => (hb.cell (by exact hlt)).trans (hc j hj)⟩

/-- the sum, from s on: what it is, and its error -/
def sumS (s : Int) : List Int → Int
  | [] => s
  | x :: xs => if -9223372036854775808 ≤ s + x ∧ s + x ≤ 9223372036854775807 then sumS (s + x) xs else 0
def sumE (s : Int) : List Int → Int
  | [] => 0
  | x :: xs => if -9223372036854775808 ≤ s + x ∧ s + x ≤ 9223372036854775807 then sumE (s + x) xs else 9

theorem drop_getD (xs : List Int) (k : Nat) (h : k < xs.length) : xs.drop k = xs.getD k 0 :: xs.drop (k + 1) := by
  rw [List.drop_eq_getElem_cons h]
  simp [h]

theorem sum_step (s : Int) (xs : List Int) (k : Nat) (h : k < xs.length) (hf : -9223372036854775808 ≤ s + xs.getD k 0 ∧ s + xs.getD k 0 ≤ 9223372036854775807) :
    sumS s (xs.drop k) = sumS (s + xs.getD k 0) (xs.drop (k + 1)) ∧ sumE s (xs.drop k) = sumE (s + xs.getD k 0) (xs.drop (k + 1)) := by
  rw [drop_getD xs k h]
  exact ⟨if_pos hf, if_pos hf⟩
theorem sum_over (s : Int) (xs : List Int) (k : Nat) (h : k < xs.length) (hf : ¬ (-9223372036854775808 ≤ s + xs.getD k 0 ∧ s + xs.getD k 0 ≤ 9223372036854775807)) :
    sumS s (xs.drop k) = 0 ∧ sumE s (xs.drop k) = 9 := by
  rw [drop_getD xs k h]
  exact ⟨if_neg hf, if_neg hf⟩
theorem sum_end (s : Int) (xs : List Int) : sumS s (xs.drop xs.length) = s ∧ sumE s (xs.drop xs.length) = 0 := by
  rw [List.drop_length]
  exact ⟨rfl, rfl⟩

def SumPost (xs : List Int) (w : World) (e : Ending) (w' : World) : Prop :=
  e = .returned (.tuple #[.int .i64 (sumS 0 xs), .int .i64 (sumE 0 xs)]) ∧ w = w'

/-- no more than 64, and none below 0 -/
def goodB (xs : List Int) : Bool := decide (xs.length ≤ 64) && xs.all (fun x => decide (0 ≤ x))

theorem goodB_long (xs : List Int) (h : 64 < xs.length) : goodB xs = false := by
  unfold goodB
  rw [decide_eq_false (by omega)]
  rfl
theorem goodB_neg (xs : List Int) (k : Nat) (h : k < xs.length) (hn : xs.getD k 0 < 0) : goodB xs = false := by
  unfold goodB
  have : xs.all (fun x => decide (0 ≤ x)) = false := by
    rw [List.all_eq_false]
    exact ⟨xs.getD k 0, by simp [h], by simp; simp at hn; omega⟩
  rw [this, Bool.and_false]
theorem goodB_all (xs : List Int) (h : xs.length ≤ 64) (hn : ∀ j, j < xs.length → 0 ≤ xs.getD j 0) : goodB xs = true := by
  unfold goodB
  rw [decide_eq_true h, Bool.true_and, List.all_eq_true]
  intro x hx
  obtain ⟨j, hj, rfl⟩ := List.mem_iff_getElem.1 hx
  have := hn j hj
  simp [hj] at this
  simp [this]
theorem goodB_iff (xs : List Int) (h : goodB xs = true) : xs.length ≤ 64 ∧ ∀ j, 0 ≤ xs.getD j 0 := by
  unfold goodB at h
  rw [Bool.and_eq_true, List.all_eq_true] at h
  refine ⟨of_decide_eq_true h.1, fun j => ?_⟩
  by_cases hj : j < xs.length
  · have := h.2 xs[j] (List.getElem_mem hj)
    simp [hj]
    exact of_decide_eq_true this
  · simp [hj]

def GoodPost (xs : List Int) (w : World) (e : Ending) (w' : World) : Prop := e = .returned (.bool (goodB xs)) ∧ w = w'

/-- block g holds these numbers, and nothing else -/
def Row (w : World) (g : Nat) (k : IntKind) (E : TypeId) (xs : List Int) : Prop := w.heap[g]? = some (.cells (xs.map (Value.int k)).toArray E (0, 0))

section
variable {w w' : World} {g : Nat} {k : IntKind} {E : TypeId} {xs : List Int}
theorem Row.lt (h : Row w g k E xs) : g < w.heap.size := (Array.getElem?_eq_some_iff.1 h).1
theorem Row.cell (h : Row w g k E xs) (j : Nat) (hj : j < xs.length) : w.cell? ⟨g, j, none⟩ = some (.int k (xs.getD j 0)) := by
  unfold Row at h
  simp [World.cell?, h, hj]
theorem Row.frozen (h : Row w g k E xs) (j : Nat) : w.frozen? ⟨g, j, none⟩ = false := by
  unfold Row at h
  simp [World.frozen?, h]
theorem Row.set (h : Row w g k E xs) (j : Nat) (u : Int) : Row (w.setCell ⟨g, j, none⟩ (.int k u)) g k E (xs.set j u) := by
  unfold Row at h ⊢
  simp [World.setCell, Array.getElem?_modify, h, List.map_set]
theorem Row.below {B : Nat} (h : Row w g k E xs) (hb : Below B w w') (hg : g < B) : Row w' g k E xs := (hb.block g hg).trans h
theorem Row.drewN (h : Row w g k E xs) (n : Nat) : Row (w.drewN n) g k E xs := h
theorem Row.other (h : Row w g k E xs) (b j : Nat) (u : Value) (hb : b ≠ g) : Row (w.setCell ⟨b, j, none⟩ u) g k E xs := by
  unfold Row at h ⊢
  rw [Below.heap_setCell _ _ _ _ (by exact fun e => hb e.symm)]
  exact h
theorem Row.alloc (h : Row w g k E xs) (o : Obj) : Row (w.alloc o) g k E xs := (Below.heap_alloc w o g h.lt).trans h
theorem Row.new (w : World) (xs : List Int) (k : IntKind) (E : TypeId) : Row (w.alloc (.cells (xs.map (Value.int k)).toArray E)) w.heap.size k E xs := by
  exact heap_alloc_new w _
theorem Row.seg (h : Row w g .i64 E xs) (cap : Nat) : Seg w (.slice (some ⟨g, 0, none⟩) xs.length cap) xs :=
  ⟨_, cap, rfl, fun _ => ⟨g, 0, rfl, h.lt, fun j hj => by rw [Nat.zero_add]; exact h.cell j hj⟩⟩
end

/-- nothing but block g has turned -/
structure Only (g : Nat) (w w' : World) : Prop where
  os : w'.os = w.os
  tape : w'.tape = w.tape
  output : w'.output = w.output
  size : w'.heap.size = w.heap.size
  block : ∀ k, k ≠ g → w'.heap[k]? = w.heap[k]?
theorem Only.refl (g : Nat) (w : World) : Only g w w := ⟨rfl, rfl, rfl, rfl, fun _ _ => rfl⟩
theorem Only.set {g : Nat} {a w : World} (h : Only g a w) (j : Nat) (u : Value) : Only g a (w.setCell ⟨g, j, none⟩ u) :=
  ⟨h.os, h.tape, h.output, by simp [World.setCell, h.size], fun k hk => (Below.heap_setCell _ _ _ _ hk).trans (h.block k hk)⟩
theorem Only.drewN {g : Nat} {a w : World} (h : Only g a w) (n : Nat) : Only g a (w.drewN n) := ⟨h.os, h.tape, h.output, h.size, h.block⟩
theorem Only.below {g B : Nat} {a w w' : World} (h : Only g w w') (hB : Below B a w) (hg : B ≤ g) : Below B a w' :=
  hB.trans ⟨h.os, h.tape, h.output, Nat.le_of_eq h.size.symm, fun k hk => h.block k (by omega)⟩
theorem Only.cell {g : Nat} {w w' : World} (h : Only g w w') {p : Addr} (hp : p.block ≠ g) : w'.cell? p = w.cell? p := World.cell?_of_block (w := w) (h.block p.block hp)

/-- what is left, given out, 1 to each with a weight -/
def giveS : List Int → List Int → Int → List Int
  | y :: ys, x :: xs, l => if l = 0 then y :: ys else if 0 < x then (y + 1) :: giveS ys xs (l - 1) else y :: giveS ys xs l
  | ys, _, _ => ys

theorem giveS_zero (ys xs : List Int) : giveS ys xs 0 = ys := by
  cases ys <;> cases xs <;> simp [giveS]

theorem take_getD (xs : List Int) (k : Nat) (h : k < xs.length) : xs.take (k + 1) = xs.take k ++ [xs.getD k 0] := by
  rw [List.take_add_one]
  simp [h]

def IntsPost (xs ys : List Int) (w : World) (e : Ending) (w' : World) : Prop := e = .returned (.bool (decide (xs = ys))) ∧ ∃ n, w' = w.drewN n

/-- what the loop of giveOut keeps -/
def GiveRel (ys xs : List Int) (l : Int) (g : Nat) (w : World) (k : Nat) (t : Int) (zs : List Int) (wr : World) : Prop :=
  zs.length = xs.length ∧ Row wr g .i64 3 zs ∧ Only g w wr ∧ giveS ys xs l = zs.take k ++ giveS (zs.drop k) (xs.drop k) t ∧ (∀ j, 0 ≤ zs.getD j 0) ∧ (∀ j, k ≤ j → zs.getD j 0 + t ≤ 9223372036854775807)

theorem GiveRel.start {ys xs : List Int} {l : Int} {g : Nat} {w : World} (he : ys.length = xs.length) (hy : ∀ j, 0 ≤ ys.getD j 0 ∧ ys.getD j 0 + l ≤ 9223372036854775807) (hrow : Row w g .i64 3 ys) : GiveRel ys xs l g w 0 l ys w :=
  ⟨he, hrow, Only.refl _ _, by simp, fun j => (hy j).1, fun j _ => (hy j).2⟩
theorem GiveRel.stop {ys xs : List Int} {l : Int} {g : Nat} {w : World} {k : Nat} {zs : List Int} {wr : World} (h : GiveRel ys xs l g w k 0 zs wr) : Row wr g .i64 3 (giveS ys xs l) ∧ Only g w wr := by
  obtain ⟨_, h2, h3, h4, _⟩ := h
  rw [giveS_zero, List.take_append_drop] at h4
  rw [h4]
  exact ⟨h2, h3⟩
theorem GiveRel.done {ys xs : List Int} {l : Int} {g : Nat} {w : World} {t : Int} {zs : List Int} {wr : World} (h : GiveRel ys xs l g w xs.length t zs wr) : Row wr g .i64 3 (giveS ys xs l) ∧ Only g w wr := by
  obtain ⟨h1, h2, h3, h4, _⟩ := h
  rw [← h1, List.take_length, List.drop_length] at h4
  simp [giveS] at h4
  rw [h4]
  exact ⟨h2, h3⟩
theorem GiveRel.no {ys xs : List Int} {l : Int} {g : Nat} {w : World} {k : Nat} {t : Int} {zs : List Int} {wr : World} (h : GiveRel ys xs l g w k t zs wr) (hk : k < xs.length) (ht : t ≠ 0) (hx : ¬ 0 < xs.getD k 0) : GiveRel ys xs l g w (k + 1) t zs wr := by
  obtain ⟨h1, h2, h3, h4, h5, h6⟩ := h
  refine ⟨h1, h2, h3, ?_, h5, fun j hj => h6 j (by omega)⟩
  rw [h4, drop_getD zs k (by omega), drop_getD xs k hk, giveS, if_neg ht, if_neg hx, take_getD zs k (by omega), List.append_assoc]
  rfl
theorem GiveRel.yes {ys xs : List Int} {l : Int} {g : Nat} {w : World} {k : Nat} {t : Int} {zs : List Int} {wr : World} (h : GiveRel ys xs l g w k t zs wr) (hk : k < xs.length) (ht : 0 < t) (hx : 0 < xs.getD k 0) :
    GiveRel ys xs l g w (k + 1) (t - 1) (zs.set k (zs.getD k 0 + 1)) (wr.setCell ⟨g, k, none⟩ (.int .i64 (zs.getD k 0 + 1))) := by
  obtain ⟨h1, h2, h3, h4, h5, h6⟩ := h
  refine ⟨by simpa using h1, h2.set _ _, h3.set _ _, ?_, ?_, ?_⟩
  · rw [h4, drop_getD zs k (by omega), drop_getD xs k hk, giveS, if_neg (by omega), if_pos hx, take_getD (zs.set k _) k (by simp; omega), List.append_assoc]
    have e1 : (zs.set k (zs.getD k 0 + 1)).getD k 0 = zs.getD k 0 + 1 := by simp [List.getD_eq_getElem?_getD, List.getElem?_set, show k < zs.length by omega]
    rw [e1, List.take_set_of_le (Nat.le_refl k), List.drop_set_of_lt (Nat.lt_succ_self k)]
    rfl
  · intro j
    have := h5 j
    have := h5 k
    by_cases e : k = j
    · subst e; simp [List.getD_eq_getElem?_getD, List.getElem?_set, show k < zs.length by omega] at *; omega
    · simp [List.getD_eq_getElem?_getD, List.getElem?_set, e] at *; omega
  · intro j hj
    have := h6 j (by omega)
    simp [List.getD_eq_getElem?_getD, List.getElem?_set, show k ≠ j by omega] at *
    omega

def GivePost (ys xs : List Int) (l : Int) (g : Nat) (w : World) (e : Ending) (w' : World) : Prop := e = .returned (.tuple #[]) ∧ Row w' g .i64 3 (giveS ys xs l) ∧ Only g w w'

/-- the parts, rounded down -/
def parts (amount T : Int) (xs : List Int) : List Int := xs.map (fun x => amount * x / T)
def shareE (amount : Int) (xs : List Int) : Int := if amount < 0 ∨ goodB xs = false then 1 else if sumE 0 xs ≠ 0 then sumE 0 xs else if sumS 0 xs = 0 then 6 else 0
def shareL (amount : Int) (xs : List Int) : List Int := if shareE amount xs = 0 then giveS (parts amount (sumS 0 xs) xs) xs (amount - (parts amount (sumS 0 xs) xs).sum) else []

theorem sumE_or (s : Int) (xs : List Int) : sumE s xs = 0 ∨ sumE s xs = 9 := by
  induction xs generalizing s with
  | nil => exact Or.inl rfl
  | cons x xs ih => unfold sumE; split; exact ih _; exact Or.inr rfl
theorem sum_ok (s : Int) (xs : List Int) (h : sumE s xs = 0) : sumS s xs = s + xs.sum := by
  induction xs generalizing s with
  | nil => simp [sumS]
  | cons x xs ih =>
    unfold sumE at h
    unfold sumS
    split at h
    · rw [if_pos (by assumption), ih _ h, List.sum_cons]; omega
    · omega
theorem sumS_range (s : Int) (xs : List Int) (hs : -9223372036854775808 ≤ s ∧ s ≤ 9223372036854775807) : -9223372036854775808 ≤ sumS s xs ∧ sumS s xs ≤ 9223372036854775807 := by
  induction xs generalizing s with
  | nil => exact hs
  | cons x xs ih => unfold sumS; split; exact ih _ (by assumption); omega

theorem sum_nonneg (xs : List Int) (h : ∀ x ∈ xs, 0 ≤ x) : 0 ≤ xs.sum := by
  induction xs with
  | nil => simp
  | cons x xs ih =>
    have := ih fun y hy => h y (List.mem_cons_of_mem _ hy)
    have := h x (List.mem_cons_self ..)
    rw [List.sum_cons]; omega
/-- a part of the list has no greater sum -/
theorem sum_part (xs : List Int) (h : ∀ x ∈ xs, 0 ≤ x) (k : Nat) : (xs.take k).sum ≤ xs.sum := by
  have := sum_nonneg (xs.drop k) fun x hx => h x (List.mem_of_mem_drop hx)
  have e : xs.sum = (xs.take k).sum + (xs.drop k).sum := by rw [← List.sum_append, List.take_append_drop]
  omega
theorem mem_le_sum (xs : List Int) (h : ∀ x ∈ xs, 0 ≤ x) (x : Int) (hx : x ∈ xs) : x ≤ xs.sum := by
  induction xs with
  | nil => cases hx
  | cons y ys ih =>
    have h1 := h y (List.mem_cons_self ..)
    have h2 := sum_nonneg ys fun z hz => h z (List.mem_cons_of_mem _ hz)
    rw [List.sum_cons]
    cases List.mem_cons.1 hx with
    | inl e => subst e; omega
    | inr e => have := ih (fun z hz => h z (List.mem_cons_of_mem _ hz)) e; omega
/-- the parts' sum, times T, is at most the amount times the weights' sum -/
theorem parts_sum (amount T : Int) (hT : 0 < T) (xs : List Int) : (parts amount T xs).sum * T ≤ amount * xs.sum := by
  induction xs with
  | nil => simp [parts]
  | cons x xs ih =>
    have h1 : amount * x / T * T ≤ amount * x := Int.ediv_mul_le _ (by omega)
    simp only [parts, List.map_cons, List.sum_cons] at *
    rw [Int.add_mul, Int.mul_add]
    omega
theorem parts_take (amount T : Int) (xs : List Int) (k : Nat) : (parts amount T xs).take k = parts amount T (xs.take k) := by
  simp [parts, List.map_take]
theorem parts_le (amount T : Int) (h0 : 0 ≤ amount) (hT : 0 < T) (xs : List Int) (h : ∀ x ∈ xs, 0 ≤ x) (hs : xs.sum ≤ T) : (parts amount T xs).sum ≤ amount := by
  have h1 := parts_sum amount T hT xs
  have h2 : amount * xs.sum ≤ amount * T := Int.mul_le_mul_of_nonneg_left hs h0
  exact Int.le_of_mul_le_mul_right (Int.le_trans h1 h2) hT
theorem parts_nonneg (amount T : Int) (h0 : 0 ≤ amount) (hT : 0 < T) (xs : List Int) (h : ∀ x ∈ xs, 0 ≤ x) : ∀ y ∈ parts amount T xs, 0 ≤ y := by
  intro y hy
  obtain ⟨x, hx, rfl⟩ := List.mem_map.1 hy
  exact Int.ediv_nonneg (Int.mul_nonneg h0 (h x hx)) (by omega)

/-- one part, as MulDiv tells it -/
theorem part_md (amount x T : Int) (h0 : 0 ≤ amount ∧ amount ≤ 9223372036854775807) (hx : 0 ≤ x ∧ x ≤ T) (hT : 0 < T) : mdS amount x T 1 = amount * x / T := by
  have hn : negB amount x T = false := by
    unfold negB
    rw [decide_eq_false (by omega), decide_eq_false (by omega), decide_eq_false (by omega)]
    rfl
  have e1 : (amount.natAbs : Int) = amount := by omega
  have e2 : (x.natAbs : Int) = x := by omega
  have e3 : (T.natAbs : Int) = T := by omega
  have hle : amount * x / T ≤ amount := by
    have h1 : amount * x / T * T ≤ amount * x := Int.ediv_mul_le _ (by omega)
    have h2 : amount * x ≤ amount * T := Int.mul_le_mul_of_nonneg_left hx.2 h0.1
    exact Int.le_of_mul_le_mul_right (Int.le_trans h1 h2) hT
  have hge : 0 ≤ amount * x / T := Int.ediv_nonneg (Int.mul_nonneg h0.1 hx.1) (by omega)
  have ha : ∀ r d b, awayB 1 r d b false = false := by intro r d b; simp [awayB]
  rw [mdS, if_neg (by omega), mdN, hn, mdQ, e1, e2, e3, hn, ha, if_neg (by simp), sgnd, if_neg (by simp), fitS, if_pos (by omega)]

def SharePost (amount : Int) (xs : List Int) (w : World) (e : Ending) (w' : World) : Prop :=
  ∃ v, e = .returned (.tuple #[v, .int .i64 (shareE amount xs)]) ∧ Seg w' v (shareL amount xs) ∧ Below w.heap.size w w'

theorem seg_nil (w : World) : Seg w (.slice none 0 0) [] := ⟨none, 0, rfl, fun h => absurd rfl h⟩

theorem ret_share {v : Value} {a b : Int} (h : a = b) : Ending.returned (.tuple #[v, .int .i64 a]) = .returned (.tuple #[v, .int .i64 b]) := by rw [h]

theorem share_bad (amount : Int) (xs : List Int) (w w' : World) (n : Int) (hn : n ≠ 0) (h : shareE amount xs = n) (hb : Below w.heap.size w w') : SharePost amount xs w (.returned (.tuple #[.slice none 0 0, .int .i64 n])) w' := by
  refine ⟨_, ret_share h.symm, ?_, hb⟩
  rw [shareL, if_neg (by rw [h]; exact hn)]
  exact seg_nil w'

theorem Tryz.info3 : (Tryz.prog.info? 3).map (fun i => (i.zero, i.size, i.bytes)) = some (some (.int .i64 0), 1, 8) := by kernel_rfl

theorem made_zeros (k : IntKind) (n : Nat) : madeCells #[Value.int k 0] n = ((List.replicate n (0 : Int)).map (Value.int k)).toArray := by
  apply Array.ext
  · simp [madeCells]
  · intro i h1 h2
    simp [madeCells, Nat.mod_one]

/-- what the loop of Share keeps: k parts are laid -/
def ShareRel (amount T : Int) (xs : List Int) (g : Nat) (w : World) (k : Nat) (t : Int) (wr : World) : Prop :=
  Row wr g .i64 3 ((parts amount T xs).take k ++ List.replicate (xs.length - k) 0) ∧ w.heap.size ≤ g ∧ Below w.heap.size w wr ∧ t = amount - ((parts amount T xs).take k).sum

theorem ShareRel.step {amount T : Int} {xs : List Int} {g : Nat} {w : World} {k : Nat} {t : Int} {wr w1 : World} (h : ShareRel amount T xs g w k t wr) (hk : k < xs.length) (hb : Below wr.heap.size wr w1) :
    ShareRel amount T xs g w (k + 1) (t - amount * xs.getD k 0 / T) (w1.setCell ⟨g, k, none⟩ (.int .i64 (amount * xs.getD k 0 / T))) := by
  obtain ⟨h1, h2, h3, h4⟩ := h
  have hlen : (parts amount T xs).length = xs.length := by simp [parts]
  have hget : (parts amount T xs).getD k 0 = amount * xs.getD k 0 / T := by simp [parts, hk]
  refine ⟨?_, h2, (h3.trans (hb.mono h3.size)).setCell h2 _, ?_⟩
  · have h5 := (h1.below hb h1.lt).set k (amount * xs.getD k 0 / T)
    have e : (((parts amount T xs).take k ++ List.replicate (xs.length - k) 0).set k (amount * xs.getD k 0 / T)) = (parts amount T xs).take (k + 1) ++ List.replicate (xs.length - (k + 1)) 0 := by
      rw [take_getD _ k (by omega), hget, show xs.length - k = (xs.length - (k + 1)) + 1 by omega, List.replicate_succ, List.set_append_right _ _ (by simp; omega)]
      simp [show k - min k (parts amount T xs).length = 0 by omega]
    rw [e] at h5
    exact h5
  · rw [take_getD _ k (by omega), hget, List.sum_append, h4]
    simp
    omega

theorem ShareRel.cell {amount T : Int} {xs : List Int} {g : Nat} {w : World} {k : Nat} {t : Int} {wr w1 : World} (h : ShareRel amount T xs g w k t wr) (hk : k < xs.length) (hb : Below wr.heap.size wr w1) :
    (∃ u, w1.cell? ⟨g, k, none⟩ = some (.int .i64 u)) ∧ w1.frozen? ⟨g, k, none⟩ = false := by
  have h5 := h.1.below hb h.1.lt
  exact ⟨⟨_, h5.cell k (by simp [parts]; omega)⟩, h5.frozen k⟩

theorem giveS_length (ys xs : List Int) (l : Int) : (giveS ys xs l).length = ys.length := by
  induction ys generalizing xs l with
  | nil => simp [giveS]
  | cons y ys ih =>
    cases xs with
    | nil => simp [giveS]
    | cons x xs =>
      unfold giveS
      split
      · rfl
      · split <;> simp [ih]

theorem md_vals : mdS 7 3 2 1 = 10 ∧ mdE 7 3 2 1 = 0 ∧ mdS 7 3 2 4 = 10 ∧ mdE 7 3 2 4 = 0 ∧ mdS (-7) 3 2 1 = -11 ∧ mdE (-7) 3 2 1 = 0 := by decide
theorem share_vals : shareE 10 [1, 1, 1] = 0 ∧ shareL 10 [1, 1, 1] = [4, 3, 3] := by decide

def TruePost (w : World) (e : Ending) (w' : World) : Prop := e = .returned (.bool true) ∧ Below w.heap.size w w'
end Go.Proofs.YtdfadcbchiogjaaGreat.N1
