/- The reference's tests and turns of one sign. -/
import Derived.Test.YtdmlgheajblcdaaGreatFQ
import Derived.WalkKit
import Derived.ProofKit
import Derived.Handy
import Derived.WalkLawsBesides
import Derived.WalkSpells
import Derived.BigQuiet
import Derived.BigCall
import Derived.Deep.QuietTactic
import Derived.Deep.Light
import Derived.Deep.OwnRows
import Derived.Laws.AppendOwnNone
import Derived.Laws.Strings3
import Derived.Laws.RangeAny
import Derived.Deep.RegionWith
import Derived.Lib.BitFns
import Derived.Lib.Walk
import Derived.Lib.Strings
import Derived.Lib.OthersKept
import Derived.Deep.CutBlock
import Derived.Deep.DeepCutAuto
import Derived.Deep.LoopGhost
import Derived.Deep.RegionHeld3
import Derived.Lib.SmallJoins
import Derived.Maps.AppendAt
import Derived.Laws.IdiomStrings
import Derived.Lib.AppendZeros
import Derived.Deep.WholeRow
import Derived.Laws.BitsAllLaws
import Derived.Lib.ConvBytes
import Derived.Deep.RegionLaw
import Derived.Lib.IndexBytes
namespace Go.Proofs.YtdmlgheajblcdaaGreat.N4
open Go.RowKit
set_option linter.unusedVariables false
set_option linter.unusedSimpArgs false
set_option maxHeartbeats 4000000 in
theorem rletter (c : Nat) (w : World) : Calls Tryz.prog 103 #[.int .i64 c] w (BP (Let c) w) := by
  go_enter Tryz.func103, Tryz.ntmps103
  go_wp2_with go_in
  all_goals go_ret
  all_goals first | exact BP.t (by omega) | exact BP.f (by omega) | (refine BP.b ?_; simp only [Bool.and_eq_true, Bool.or_eq_true, decide_eq_true_eq, bne_iff_ne, ne_eq, beq_iff_eq]; omega)
set_option maxHeartbeats 4000000 in
theorem rdigit (c : Nat) (w : World) : Calls Tryz.prog 104 #[.int .i64 c] w (BP (Dig c) w) := by
  go_enter Tryz.func104, Tryz.ntmps104
  go_wp2_with go_in
  all_goals go_ret
  all_goals first | exact BP.t (by omega) | exact BP.f (by omega) | (refine BP.b ?_; simp only [Bool.and_eq_true, Bool.or_eq_true, decide_eq_true_eq, bne_iff_ne, ne_eq, beq_iff_eq]; omega)
set_option maxHeartbeats 4000000 in
theorem rjoint (c : Nat) (w : World) : Calls Tryz.prog 105 #[.int .i64 c] w (BP (Jnt c) w) := by
  by_cases h : Jnt c
  · rcases h with rfl | rfl | rfl | rfl | rfl
    all_goals
      go_enter Tryz.func105, Tryz.ntmps105
      go_wp2_with go_in
      go_ret
      exact BP.t (by decide)
  · have h1 : ((c : Int) == 32) = false := beq_eq_false_iff_ne.2 (by omega)
    have h2 : ((c : Int) == 45) = false := beq_eq_false_iff_ne.2 (by omega)
    have h3 : ((c : Int) == 46) = false := beq_eq_false_iff_ne.2 (by omega)
    have h4 : ((c : Int) == 38) = false := beq_eq_false_iff_ne.2 (by omega)
    have h5 : ((c : Int) == 39) = false := beq_eq_false_iff_ne.2 (by omega)
    have H : Hid (¬ Jnt c) := h
    clear h
    go_enter Tryz.func105, Tryz.ntmps105
    go_wp2_with go_in
    go_ret
    exact BP.f H.out
end Go.Proofs.YtdmlgheajblcdaaGreat.N4
