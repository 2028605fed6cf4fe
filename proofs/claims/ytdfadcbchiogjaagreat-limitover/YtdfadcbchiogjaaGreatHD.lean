/- layer 15: the chapter's example; laws More, Tight, Covers -/
import Derived.Test.YtdfadcbchiogjaaGreatHC
import Derived.WalkKit
import Derived.ProofKit
import Derived.Handy
import Derived.WalkLawsBesides
import Derived.WalkSpells
import Derived.BigQuiet
import Derived.BigCall
import Derived.Deep.QuietTactic
import Derived.Deep.Light
import Derived.Deep.OwnRows
import Derived.Laws.AppendOwnNone
import Derived.Laws.Strings3
import Derived.Laws.RangeAny
import Derived.Deep.RegionWith
import Derived.Lib.BitFns
import Derived.Lib.Walk
import Derived.Lib.Strings
import Derived.Lib.OthersKept
import Derived.Deep.CutBlock
import Derived.Deep.DeepCutAuto
import Derived.Deep.LoopGhost
import Derived.Deep.RegionHeld3
import Derived.Lib.SmallJoins
import Derived.Maps.AppendAt
import Derived.Laws.IdiomStrings
import Derived.Lib.AppendZeros
import Derived.Deep.WholeRow
import Derived.Laws.BitsAllLaws
import Derived.Lib.ConvBytes
import Derived.Deep.RegionLaw
namespace Go.Proofs.YtdfadcbchiogjaaGreat.H5
open Go.RowKit
set_option linter.unusedVariables false
set_option linter.unusedSimpArgs false
set_option maxRecDepth 20000
open N1
theorem co_rng (q p c : Int) : 0 ≤ coS q p c ∧ coS q p c ≤ 4835703278458516698 ∧ (coE q p c = 0 ∨ coE q p c = 1) := by
  by_cases h : Gd p c ∧ Qk q
  · rw [(co_yes h.1 h.2).1, (co_yes h.1 h.2).2]
    have := cv_bounds h.1 h.2
    omega
  · rw [(co_no h).1, (co_no h).2]; omega
theorem co_ok {q p c : Int} (h : coE q p c = 0) : Gd p c ∧ Qk q ∧ coS q p c = cv q p c := by
  by_cases k : Gd p c ∧ Qk q
  · exact ⟨k.1, k.2, (co_yes k.1 k.2).1⟩
  · rw [(co_no k).2] at h; omega
end Go.Proofs.YtdfadcbchiogjaaGreat.H5
