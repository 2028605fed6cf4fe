/- FixnumDiv: for every input the law returns true. No condition. Here: the walk of the law itself, out of the walks of what it calls. -/
import Derived.Test.YtpdlbbglbbmjmaaFT
import Derived.Test.YtpdlbbglbbmjmaaFR
import Derived.WalkKit
import Derived.ProofKit
import Derived.Handy
import Derived.WalkLawsBesides
import Derived.WalkSpells
import Derived.BigQuiet
import Derived.Deep.QuietTactic
import Derived.Deep.Light
import Derived.Deep.OwnRows
import Derived.Laws.AppendOwnNone
import Derived.Deep.RegionWith
import Derived.Lib.BitFns
import Derived.Lib.Walk
import Derived.Deep.CutBlock
import Derived.Deep.DeepCutAuto
import Derived.Deep.LoopGhost
import Derived.Deep.RegionHeld
namespace Go.Proofs.Ytpdlbbglbbmjmaa.N1
open Go.RowKit
set_option linter.unusedVariables false
set_option linter.unusedSimpArgs false

theorem cell_kept {w w' : World} (hb : Below w.heap.size w w') {p : Addr} {v : Value} (h : w.cell? p = some v) : w'.cell? p = some v := (hb.cell (World.block_lt_of_cell? w p h)).trans h

theorem div_unique {x y q r q' r' : Int} (h : q * y + r = x) (hr : 0 ≤ r ∧ r < y) (h' : q' * y + r' = x) (hr' : 0 ≤ r' ∧ r' < y) : q = q' ∧ r = r' := by
  have h1 := (Int.ediv_emod_unique (a := x) (b := y) (r := r) (q := q) (by omega)).2 ⟨by rw [Int.mul_comm y q]; omega, hr.1, hr.2⟩
  have h2 := (Int.ediv_emod_unique (a := x) (b := y) (r := r') (q := q') (by omega)).2 ⟨by rw [Int.mul_comm y q']; omega, hr'.1, hr'.2⟩
  exact ⟨h1.1.symm.trans h2.1, h1.2.symm.trans h2.2⟩
end Go.Proofs.Ytpdlbbglbbmjmaa.N1
