/- The walks of awake (the chapter's examples hold), and of the laws AccrueSimple and AccrueDays. Conditions: the arguments are ints. -/
import Derived.Test.YtdkhpoepdimniabNf
import Derived.WalkKit
import Derived.ProofKit
import Derived.Handy
import Derived.WalkLawsBesides
import Derived.WalkSpells
import Derived.BigQuiet
import Derived.Deep.QuietTactic
import Derived.Deep.Light
import Derived.Deep.OwnRows
import Derived.Laws.AppendOwnNone
import Derived.Deep.RegionWith
import Derived.Lib.BitFns
import Derived.Lib.Walk
import Derived.Deep.CutBlock
import Derived.Deep.DeepCutAuto
import Derived.Deep.LoopGhost
import Derived.Deep.RegionHeld3
import Derived.Lib.SmallJoins
namespace Go.Proofs.Ytdkhpoepdimniab
open Go.RowKit
set_option linter.unusedVariables false
set_option linter.unusedSimpArgs false

theorem sim_val : simS 360000000 50000 1 = 50000 ∧ simE 360000000 50000 1 = 0 := by decide +kernel
theorem days_val : daysA 0 0 100 50000 71 = (0, 355000000, 0) := by decide +kernel
theorem days_val2 : daysA 0 0 100 50000 72 = (1, 0, 0) := by decide +kernel
theorem SimPost.of {a t n x y : Int} {w w' : World} {e : Ending} (h : SimPost a t n w e w') (h1 : simS a t n = x) (h2 : simE a t n = y) : IntPost x y w e w' := by
  unfold SimPost at h
  rw [h1, h2] at h
  exact h
def MetPost (x y z : Int) (w : World) (e : Ending) (w' : World) : Prop := e = .returned (.tuple #[.agg #[.int .i64 x, .int .i64 y], .int .i64 z]) ∧ Below w.heap.size w w'
theorem DaysPost.of {u r a t n x y z : Int} {w w' : World} {e : Ending} (h : DaysPost u r a t n w e w') (h1 : daysA u r a t n = (x, y, z)) : MetPost x y z w e w' := by
  unfold DaysPost at h
  rw [h1] at h
  exact h

set_option maxHeartbeats 4000000 in
set_option maxRecDepth 100000 in
theorem awake_true (w : World) : Calls Try.prog 5 #[] w (TruePost w) := by
  go_enter Try.func5, Try.ntmps5
  go_wp2_with fail
  refine ((xsimple 360000000 50000 1 (by decide) (by decide) (by decide) _).mono (fun _ _ h => h.of sim_val.1 sim_val.2)).mono ?_
  rintro e w1 ⟨rfl, hb1⟩
  have W1 : Hid (Below w.heap.size w w1) := hb1
  clear hb1
  go_wp2_with fail
  refine ((xdays 0 0 100 50000 71 (by decide) (by decide) (by decide) (by decide) (by decide) _).mono (fun _ _ h => h.of days_val)).mono ?_
  rintro e w2 ⟨rfl, hb2⟩
  have W2 : Hid (Below w.heap.size w w2) := W1.out.trans (hb2.mono W1.out.size)
  clear hb2
  have HB2 : Hid (Blk (w2.alloc (.cells #[.int .i64 0, .int .i64 355000000] 32)) w2.heap.size 32 0 355000000) := Blk.new _ _ _ _
  have W3 : Hid (Below w.heap.size w (w2.alloc (.cells #[.int .i64 0, .int .i64 355000000] 32))) := W2.out.alloc W2.out.size _
  go_upto_region 3 with fail
  obtain ⟨w3, hw3⟩ : ∃ w3, w3 = w2.alloc (.cells #[.int .i64 0, .int .i64 355000000] 32) := ⟨_, rfl⟩
  rw [← hw3] at HB2 W3 ⊢
  clear hw3
  go_wp2_with fail
  refine ((xdays 0 0 100 50000 72 (by decide) (by decide) (by decide) (by decide) (by decide) _).mono (fun _ _ h => h.of days_val2)).mono ?_
  rintro e w4 ⟨rfl, hb4⟩
  have HB4 : Hid (Blk w4 w2.heap.size 32 0 355000000) := HB2.out.kept hb4
  have W4 : Hid (Below w.heap.size w w4) := W3.out.trans (hb4.mono W3.out.size)
  clear hb4
  have HB5 : Hid (Blk (w4.alloc (.cells #[.int .i64 1, .int .i64 0] 32)) w4.heap.size 32 1 0) := Blk.new _ _ _ _
  have HB6 : Hid (Blk (w4.alloc (.cells #[.int .i64 1, .int .i64 0] 32)) w2.heap.size 32 0 355000000) := HB4.out.alloc _
  have W5 : Hid (Below w.heap.size w (w4.alloc (.cells #[.int .i64 1, .int .i64 0] 32))) := W4.out.alloc W4.out.size _
  go_upto_region 4 with fail
  generalize w4.alloc (.cells #[.int .i64 1, .int .i64 0] 32) = w5 at *
  have f0 := HB5.out.c0
  have f1 := HB5.out.c1
  have f2 := HB6.out.c0
  go_wp2
  go_ret
  exact ⟨rfl, W5.out⟩
theorem TruePost.of {w w1 w' : World} {e : Ending} (h : TruePost w1 e w') (hb : Below w.heap.size w w1) : TruePost w e w' := ⟨h.1, hb.trans (h.2.mono hb.size)⟩

theorem wf_i64 {a : Int} (h : (Lit.int .i64 a).wf = true) : -9223372036854775808 ≤ a ∧ a ≤ 9223372036854775807 := by
  simpa [Lit.wf, IntKind.min, IntKind.max, IntKind.signed, IntKind.bits] using h
end Go.Proofs.Ytdkhpoepdimniab
