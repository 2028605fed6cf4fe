/- Walks of the division of package fixnum. Conditions: the arguments lie in their ranges; the upper word leaves no rest, or Div64 of math/bits divides as it should. -/
import Derived.Test.YtpdlbbglbbmjmaaFB
import Derived.WalkKit
import Derived.ProofKit
import Derived.Handy
import Derived.WalkLawsBesides
import Derived.WalkSpells
import Derived.BigQuiet
import Derived.Deep.QuietTactic
import Derived.Deep.Light
import Derived.Deep.OwnRows
import Derived.Laws.AppendOwnNone
import Derived.Deep.RegionWith
import Derived.Lib.BitFns
import Derived.Lib.Walk
import Derived.Deep.CutBlock
import Derived.Deep.DeepCutAuto
import Derived.Deep.LoopGhost
import Derived.Deep.RegionHeld
namespace Go.Proofs.Ytpdlbbglbbmjmaa.N1
open Go.RowKit
set_option linter.unusedVariables false
set_option linter.unusedSimpArgs false

def Div64Said : Prop := ∀ (hi lo y : Int) (w : World), 0 ≤ hi → hi < y → y < 18446744073709551616 → 0 ≤ lo → lo < 18446744073709551616 →
  Calls Try.prog 84 #[.int .u64 hi, .int .u64 lo, .int .u64 y] w fun e w' => e = .returned (.tuple #[.int .u64 (wd hi lo / y), .int .u64 (wd hi lo % y)]) ∧ ∃ m, w' = w.drewN m

theorem ret_two {k : IntKind} {k' : IntKind} {a b c d : Int} (h1 : a = c) (h2 : b = d) : Ending.returned (.tuple #[.int k a, .int k' b]) = .returned (.tuple #[.int k c, .int k' d]) := by rw [h1, h2]

theorem xdiv64_zero (lo y : Int) (w : World) (hy : 0 < y ∧ y < 18446744073709551616) (hl : 0 ≤ lo ∧ lo < 18446744073709551616) :
    Calls Try.prog 84 #[.int .u64 0, .int .u64 lo, .int .u64 y] w fun e w' => e = .returned (.tuple #[.int .u64 (wd 0 lo / y), .int .u64 (wd 0 lo % y)]) ∧ ∃ m, w' = w.drewN m := by
  have g0 : (y == 0) = false := by simp; omega
  go_enter Try.func84, Try.ntmps84
  go_wp2
  go_quiet (fail)
  go_wp2
  go_ret2
  exact ⟨ret_two (by simp [wd]) (by simp [wd]), _, rfl⟩

theorem below_drewN {B : Nat} {a w : World} {n : Nat} (h : Below B a w) : Below B a (w.drewN n) := ⟨h.os, h.tape, h.output, h.size, h.block⟩

theorem div_words (a b d : Int) : wd (a / d) (wd (a % d) b / d) * d + wd (a % d) b % d = wd a b := by
  have h1 := Int.mul_ediv_add_emod (wd (a % d) b) d
  have h2 := Int.mul_ediv_add_emod a d
  generalize wd (a % d) b / d = q at *
  generalize hr : wd (a % d) b % d = r at *
  unfold wd at *
  generalize a / d = x at *
  generalize a % d = y at *
  grind

theorem div_low (a b d : Int) (ha : 0 ≤ a ∧ a < 18446744073709551616) (hb : 0 ≤ b ∧ b < 18446744073709551616) (hd : 0 < d ∧ d < 18446744073709551616) : 0 ≤ wd (a % d) b / d ∧ wd (a % d) b / d < 18446744073709551616 := by
  have h1 := Int.emod_nonneg a (show d ≠ 0 by omega)
  have h2 := Int.emod_lt_of_pos a hd.1
  unfold wd
  constructor
  · exact Int.ediv_nonneg (by omega) (by omega)
  · exact Int.ediv_lt_of_lt_mul hd.1 (by omega)

def DivPost (a b d : Int) (w : World) (e : Ending) (w' : World) : Prop :=
  ∃ qh ql r, e = .returned (.tuple #[.agg #[.int .u64 qh, .int .u64 ql], .int .u64 r]) ∧ (0 ≤ qh ∧ qh < 18446744073709551616) ∧ (0 ≤ ql ∧ ql < 18446744073709551616) ∧ (0 ≤ r ∧ r < d) ∧
    Hid (wd qh ql * d + r = wd a b) ∧ Below w.heap.size w w'

theorem xdiv_any (a b d : Int) (ha : 0 ≤ a ∧ a < 18446744073709551616) (hb : 0 ≤ b ∧ b < 18446744073709551616) (hd : 0 < d ∧ d < 18446744073709551616) (w : World)
    (H : ∀ w, Calls Try.prog 84 #[.int .u64 (a % d), .int .u64 b, .int .u64 d] w fun e w' => e = .returned (.tuple #[.int .u64 (wd (a % d) b / d), .int .u64 (wd (a % d) b % d)]) ∧ ∃ m, w' = w.drewN m) :
    Calls Try.prog 63 #[.agg #[.int .u64 a, .int .u64 b], .int .u64 d] w (DivPost a b d w) := by
  have g0 : (d == 0) = false := by simp; omega
  have HH : Hid _ := H
  clear H
  go_enter Try.func63, Try.ntmps63
  go_wp2
  go_quiet (first | (go_at_call 84; exact Calls.quiet_of (HH.out _)))
  go_wp2
  go_returns
  refine ⟨_, _, _, rfl, ?_, ?_, ?_, ?_, ?_⟩
  · exact ⟨Int.ediv_nonneg ha.1 (by omega), Int.lt_of_le_of_lt (Int.ediv_le_self _ ha.1) ha.2⟩
  · exact div_low a b d ha hb hd
  · exact ⟨Int.emod_nonneg _ (by omega), Int.emod_lt_of_pos _ hd.1⟩
  · exact div_words a b d
  · refine Below.setCell (Below.setCell (below_drewN (Below.alloc (Below.alloc (Below.refl _ _) (Nat.le_refl _) _) ?_ _)) ?_ _) ?_ _ <;> simp

theorem xdiv (a b d : Int) (ha : 0 ≤ a ∧ a < 18446744073709551616) (hb : 0 ≤ b ∧ b < 18446744073709551616) (hd : 0 < d ∧ d < 18446744073709551616) (w : World) (H : a % d = 0 ∨ Div64Said) :
    Calls Try.prog 63 #[.agg #[.int .u64 a, .int .u64 b], .int .u64 d] w (DivPost a b d w) := by
  refine xdiv_any a b d ha hb hd w fun w => ?_
  rcases H with h | h
  · rw [h]; exact xdiv64_zero b d w hd hb
  · exact h (a % d) b d w (Int.emod_nonneg _ (by omega)) (Int.emod_lt_of_pos _ hd.1) hd.2 hb.1 hb.2

theorem xdiv_none (a b : Int) (w : World) :
    Calls Try.prog 63 #[.agg #[.int .u64 a, .int .u64 b], .int .u64 0] w fun e w' => e = .returned (.tuple #[.agg #[.int .u64 0, .int .u64 0], .int .u64 0]) ∧ Below w.heap.size w w' := by
  go_enter Try.func63, Try.ntmps63
  go_wp2
  go_returns
  exact ⟨rfl, by go_grown⟩
end Go.Proofs.Ytpdlbbglbbmjmaa.N1
