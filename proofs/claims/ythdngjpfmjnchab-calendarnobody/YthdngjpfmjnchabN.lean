/- CalendarNobody: for every input the law returns true. No condition. Here: the walks on no calendar, and the walk of the law itself. -/
import Derived.Test.YthdngjpfmjnchabH
import Derived.WalkKit
import Derived.ProofKit
import Derived.Handy
import Derived.WalkLawsBesides
import Derived.WalkSpells
import Derived.BigQuiet
import Derived.Deep.QuietTactic
import Derived.Deep.Light
import Derived.Deep.OwnRows
import Derived.Laws.AppendOwnNone
import Derived.Deep.RegionWith
import Derived.Lib.BitFns
import Derived.Lib.Walk
import Derived.Deep.CutBlock
import Derived.Deep.DeepCutAuto
import Derived.Deep.LoopGhost
import Derived.Deep.RegionHeld3
import Derived.Lib.SlicesCompact
import Derived.Laws.CopyOwn
import Derived.Sort.OwnSortedInts
namespace Go.Proofs.Ythdngjpfmjnchab
open Go.RowKit
set_option linter.unusedVariables false
set_option linter.unusedSimpArgs false
theorem nnone (w : World) : Calls Try.prog 15 #[.pointer none] w (RetPost (.bool true) w) := by
  go_enter Try.func15, Try.ntmps15
  go_wp2
  go_ret
  exact ⟨rfl, rfl⟩
def NilPost (w : World) (e : Ending) (w' : World) : Prop := e = .returned (.tuple #[.int .i64 0, .int .i64 3]) ∧ w = w'
theorem nnearest (d s : Int) (w : World) : Calls Try.prog 12 #[.pointer none, .int .i64 d, .int .i64 s] w (NilPost w) := by
  go_enter Try.func12, Try.ntmps12
  go_wp2_with fail
  refine (nnone _).mono ?_
  rintro e w1 ⟨rfl, rfl⟩
  go_wp2_with fail
  go_ret2
  exact ⟨rfl, rfl⟩
theorem nnext (d : Int) (w : World) : Calls Try.prog 4 #[.pointer none, .int .i64 d] w (NilPost w) := by
  go_enter Try.func4, Try.ntmps4
  go_wp2_with fail
  refine (nnearest d 1 _).mono ?_
  rintro e w1 ⟨rfl, rfl⟩
  go_wp2_with fail
  go_ret2
  exact ⟨rfl, rfl⟩
theorem nback (d : Int) (w : World) : Calls Try.prog 5 #[.pointer none, .int .i64 d] w (NilPost w) := by
  go_enter Try.func5, Try.ntmps5
  go_wp2_with fail
  refine (nnearest d (-1) _).mono ?_
  rintro e w1 ⟨rfl, rfl⟩
  go_wp2_with fail
  go_ret2
  exact ⟨rfl, rfl⟩
theorem nmove (d n : Int) (w : World) : Calls Try.prog 6 #[.pointer none, .int .i64 d, .int .i64 n] w (NilPost w) := by
  by_cases hn : n < 0
  · go_enter Try.func6, Try.ntmps6
    go_wp2_with fail
    refine (nnearest d (-1) _).mono ?_
    rintro e w1 ⟨rfl, rfl⟩
    go_wp2_with fail
    go_ret2
    exact ⟨rfl, rfl⟩
  · have hn2 : 0 ≤ n := by omega
    go_enter Try.func6, Try.ntmps6
    go_wp2_with fail
    refine (nnearest d 1 _).mono ?_
    rintro e w1 ⟨rfl, rfl⟩
    go_wp2_with fail
    go_ret2
    exact ⟨rfl, rfl⟩
theorem nroll (d : Int) (w : World) : Calls Try.prog 7 #[.pointer none, .int .i64 d] w (NilPost w) := by
  go_enter Try.func7, Try.ntmps7
  go_wp2_with fail
  refine (nnext d _).mono ?_
  rintro e w1 ⟨rfl, rfl⟩
  go_wp2_with fail
  refine (nback d _).mono ?_
  rintro e w1 ⟨rfl, rfl⟩
  go_wp2_with fail
  go_ret2
  exact ⟨rfl, rfl⟩
theorem nmonths (d n : Int) (w : World) : Calls Try.prog 8 #[.pointer none, .int .i64 d, .int .i64 n] w (NilPost w) := by
  go_enter Try.func8, Try.ntmps8
  go_wp2_with fail
  refine (nnone _).mono ?_
  rintro e w1 ⟨rfl, rfl⟩
  go_wp2_with fail
  go_ret2
  exact ⟨rfl, rfl⟩
theorem nworks (d : Int) (w : World) : Calls Try.prog 9 #[.pointer none, .int .i64 d] w (RetPost (.bool false) w) := by
  go_enter Try.func9, Try.ntmps9
  go_wp2_with fail
  refine (nnone _).mono ?_
  rintro e w1 ⟨rfl, rfl⟩
  go_wp2_with fail
  go_ret
  exact ⟨rfl, rfl⟩
theorem ncount (a b : Int) (w : World) : Calls Try.prog 10 #[.pointer none, .int .i64 a, .int .i64 b] w (RetPost (.int .i64 0) w) := by
  go_enter Try.func10, Try.ntmps10
  go_wp2_with fail
  refine (nnone _).mono ?_
  rintro e w1 ⟨rfl, rfl⟩
  go_wp2_with fail
  go_ret
  exact ⟨rfl, rfl⟩

set_option maxHeartbeats 4000000 in
set_option maxRecDepth 100000 in
theorem nobody_walk (day n : Int) (w : World) (hday : -9223372036854775808 ≤ day ∧ day ≤ 9223372036854775807) (hn : -9223372036854775808 ≤ n ∧ n ≤ 9223372036854775807) : Calls Try.prog 3 #[.int .i64 day, .int .i64 n] w (TruePost w) := by
  go_enter Try.func3, Try.ntmps3
  go_wp2_with fail
  refine (nnext day _).mono ?_
  rintro e w1 ⟨rfl, rfl⟩
  go_wp2_with fail
  refine (nback day _).mono ?_
  rintro e w1 ⟨rfl, rfl⟩
  go_wp2_with fail
  refine (nmove day n _).mono ?_
  rintro e w1 ⟨rfl, rfl⟩
  go_wp2_with fail
  refine (nroll day _).mono ?_
  rintro e w1 ⟨rfl, rfl⟩
  go_wp2_with fail
  refine (nmonths day n _).mono ?_
  rintro e w1 ⟨rfl, rfl⟩
  go_wp2_with fail
  refine (nworks day _).mono ?_
  rintro e w1 ⟨rfl, rfl⟩
  by_cases h : 3000 < n
  · have e1 : decide (3000 < n) = true := decide_eq_true h
    clear h
    go_wp2_with fail
    refine (awake_true _).mono ?_
    rintro e w2 ⟨rfl, hb⟩
    have HB : Hid (Below w.heap.size w w2) := hb
    clear hb
    go_wp2_with fail
    go_ret
    exact ⟨rfl, HB.out⟩
  · have e1 : decide (3000 < n) = false := decide_eq_false h
    clear h
    go_wp2_with fail
    refine (ncount day n _).mono ?_
    rintro e w1 ⟨rfl, rfl⟩
    go_wp2_with fail
    refine (awake_true _).mono ?_
    rintro e w2 ⟨rfl, hb⟩
    have HB : Hid (Below w.heap.size w w2) := hb
    clear hb
    go_wp2_with fail
    go_ret
    exact ⟨rfl, HB.out⟩
theorem wf_i64 {a : Int} (h : (Lit.int .i64 a).wf = true) : -9223372036854775808 ≤ a ∧ a ≤ 9223372036854775807 := by
  simpa [Lit.wf, IntKind.min, IntKind.max, IntKind.signed, IntKind.bits] using h
end Go.Proofs.Ythdngjpfmjnchab
