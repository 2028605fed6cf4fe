/- The walk of awake: the chapter's examples hold. No condition. -/
import Derived.Test.YtpdlbbglbbmjmaaFG
import Derived.WalkKit
import Derived.ProofKit
import Derived.Handy
import Derived.WalkLawsBesides
import Derived.WalkSpells
import Derived.BigQuiet
import Derived.Deep.QuietTactic
import Derived.Deep.Light
import Derived.Deep.OwnRows
import Derived.Laws.AppendOwnNone
import Derived.Deep.RegionWith
import Derived.Lib.BitFns
import Derived.Lib.Walk
import Derived.Deep.CutBlock
import Derived.Deep.DeepCutAuto
import Derived.Deep.LoopGhost
import Derived.Deep.RegionHeld
namespace Go.Proofs.Ytpdlbbglbbmjmaa.N1
open Go.RowKit
set_option linter.unusedVariables false
set_option linter.unusedSimpArgs false

theorem md_vals : mdS 7 3 2 1 = 10 ∧ mdE 7 3 2 1 = 0 ∧ mdS 7 3 2 4 = 10 ∧ mdE 7 3 2 4 = 0 ∧ mdS (-7) 3 2 1 = -11 ∧ mdE (-7) 3 2 1 = 0 := by decide
theorem share_vals : shareE 10 [1, 1, 1] = 0 ∧ shareL 10 [1, 1, 1] = [4, 3, 3] := by decide

def TruePost (w : World) (e : Ending) (w' : World) : Prop := e = .returned (.bool true) ∧ Below w.heap.size w w'
end Go.Proofs.Ytpdlbbglbbmjmaa.N1
