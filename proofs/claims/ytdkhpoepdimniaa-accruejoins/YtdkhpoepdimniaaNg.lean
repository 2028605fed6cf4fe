/- The walks of awake (the chapter's examples hold), and of the laws AccrueSimple and AccrueDays. Conditions: the arguments are ints. -/
import Derived.Test.YtdkhpoepdimniaaNf
import Derived.WalkKit
import Derived.ProofKit
import Derived.Handy
import Derived.WalkLawsBesides
import Derived.WalkSpells
import Derived.BigQuiet
import Derived.Deep.QuietTactic
import Derived.Deep.Light
import Derived.Deep.OwnRows
import Derived.Laws.AppendOwnNone
import Derived.Deep.RegionWith
import Derived.Lib.BitFns
import Derived.Lib.Walk
import Derived.Deep.CutBlock
import Derived.Deep.DeepCutAuto
import Derived.Deep.LoopGhost
import Derived.Deep.RegionHeld3
import Derived.Lib.SmallJoins
namespace Go.Proofs.Ytdkhpoepdimniaa
open Go.RowKit
set_option linter.unusedVariables false
set_option linter.unusedSimpArgs false
theorem sim_val : simS 360000000 50000 1 = 50000 ∧ simE 360000000 50000 1 = 0 := by decide +kernel
theorem days_val : daysA 0 0 100 50000 71 = (0, 355000000, 0) := by decide +kernel
theorem days_val2 : daysA 0 0 100 50000 72 = (1, 0, 0) := by decide +kernel
theorem SimPost.of {a t n x y : Int} {w w' : World} {e : Ending} (h : SimPost a t n w e w') (h1 : simS a t n = x) (h2 : simE a t n = y) : IntPost x y w e w' := by
  unfold SimPost at h
  rw [h1, h2] at h
  exact h
def MetPost (x y z : Int) (w : World) (e : Ending) (w' : World) : Prop := e = .returned (.tuple #[.agg #[.int .i64 x, .int .i64 y], .int .i64 z]) ∧ Below w.heap.size w w'
theorem DaysPost.of {u r a t n x y z : Int} {w w' : World} {e : Ending} (h : DaysPost u r a t n w e w') (h1 : daysA u r a t n = (x, y, z)) : MetPost x y z w e w' := by
  unfold DaysPost at h
  rw [h1] at h
  exact h

set_option maxHeartbeats 4000000 in
set_option maxRecDepth 100000 in
theorem awake_true (w : World) : Calls Try.prog 11 #[] w (TruePost w) := by
  go_enter Try.func11, Try.ntmps11
  go_wp2_with fail
  refine ((xsimple 360000000 50000 1 (by decide) (by decide) (by decide) _).mono (fun _ _ h => h.of sim_val.1 sim_val.2)).mono ?_
  rintro e w1 ⟨rfl, hb1⟩
  have W1 : Hid (Below w.heap.size w w1) := hb1
  clear hb1
  go_wp2_with fail
  refine ((xdays 0 0 100 50000 71 (by decide) (by decide) (by decide) (by decide) (by decide) _).mono (fun _ _ h => h.of days_val)).mono ?_
  rintro e w2 ⟨rfl, hb2⟩
  have W2 : Hid (Below w.heap.size w w2) := W1.out.trans (hb2.mono W1.out.size)
  clear hb2
  have HB2 : Hid (Blk (w2.alloc (.cells #[.int .i64 0, .int .i64 355000000] 31)) w2.heap.size 31 0 355000000) := Blk.new _ _ _ _
  have W3 : Hid (Below w.heap.size w (w2.alloc (.cells #[.int .i64 0, .int .i64 355000000] 31))) := W2.out.alloc W2.out.size _
  go_upto_region 3 with fail
  obtain ⟨w3, hw3⟩ : ∃ w3, w3 = w2.alloc (.cells #[.int .i64 0, .int .i64 355000000] 31) := ⟨_, rfl⟩
  rw [← hw3] at HB2 W3 ⊢
  clear hw3
  go_wp2_with fail
  refine ((xdays 0 0 100 50000 72 (by decide) (by decide) (by decide) (by decide) (by decide) _).mono (fun _ _ h => h.of days_val2)).mono ?_
  rintro e w4 ⟨rfl, hb4⟩
  have HB4 : Hid (Blk w4 w2.heap.size 31 0 355000000) := HB2.out.kept hb4
  have W4 : Hid (Below w.heap.size w w4) := W3.out.trans (hb4.mono W3.out.size)
  clear hb4
  have HB5 : Hid (Blk (w4.alloc (.cells #[.int .i64 1, .int .i64 0] 31)) w4.heap.size 31 1 0) := Blk.new _ _ _ _
  have HB6 : Hid (Blk (w4.alloc (.cells #[.int .i64 1, .int .i64 0] 31)) w2.heap.size 31 0 355000000) := HB4.out.alloc _
  have W5 : Hid (Below w.heap.size w (w4.alloc (.cells #[.int .i64 1, .int .i64 0] 31))) := W4.out.alloc W4.out.size _
  go_upto_region 4 with fail
  generalize w4.alloc (.cells #[.int .i64 1, .int .i64 0] 31) = w5 at *
  have f0 := HB5.out.c0
  have f1 := HB5.out.c1
  have f2 := HB6.out.c0
  go_wp2
  go_ret
  exact ⟨rfl, W5.out⟩
theorem TruePost.of {w w1 w' : World} {e : Ending} (h : TruePost w1 e w') (hb : Below w.heap.size w w1) : TruePost w e w' := ⟨h.1, hb.trans (h.2.mono hb.size)⟩

set_option maxHeartbeats 4000000 in
set_option maxRecDepth 100000 in
theorem simple_walk (a t n : Int) (ha : I64 a) (ht : I64 t) (hn : I64 n) (w : World) : Calls Try.prog 3 #[.int .i64 a, .int .i64 t, .int .i64 n] w (TruePost w) := by
  have HA : Hid (I64 a ∧ I64 t ∧ I64 n) := ⟨ha, ht, hn⟩
  clear ha ht hn
  go_enter Try.func3, Try.ntmps3
  go_wp2_with fail
  refine (xsimple a t n HA.out.1 HA.out.2.1 HA.out.2.2 _).mono ?_
  rintro e w1 ⟨rfl, hb1⟩
  have W1 : Hid (Below w.heap.size w w1) := hb1
  clear hb1
  go_wp2_with fail
  refine (rsimple a t n HA.out.1 HA.out.2.1 HA.out.2.2 _).mono ?_
  rintro e w2 ⟨rfl, hb2⟩
  have W2 : Hid (Below w.heap.size w w2) := W1.out.trans (hb2.mono W1.out.size)
  clear hb2
  generalize simS a t n = x at *
  generalize simE a t n = y at *
  go_wp2_with fail
  refine (awake_true _).mono ?_
  rintro e w3 ⟨rfl, hb3⟩
  go_wp2
  go_ret
  exact ⟨rfl, W2.out.trans (hb3.mono W2.out.size)⟩

set_option maxHeartbeats 4000000 in
set_option maxRecDepth 100000 in
theorem days_walk (u r a t n : Int) (hu : I64 u) (hr : I64 r) (ha : I64 a) (ht : I64 t) (hn : I64 n) (w : World) : Calls Try.prog 4 #[.agg #[.int .i64 u, .int .i64 r], .int .i64 a, .int .i64 t, .int .i64 n] w (TruePost w) := by
  have HA : Hid (I64 u ∧ I64 r ∧ I64 a ∧ I64 t) := ⟨hu, hr, ha, ht⟩
  have HN : Hid (I64 n) := hn
  clear hu hr ha ht
  have W0 : Hid (Below w.heap.size w ((w.alloc (.cells #[.int .i64 u, .int .i64 r] 30)).alloc (.cells #[.int .i64 u, .int .i64 r] 31))) := ((Below.refl _ _).alloc (Nat.le_refl _) _).alloc (by simp) _
  have M0 : Hid (Blk ((w.alloc (.cells #[.int .i64 u, .int .i64 r] 30)).alloc (.cells #[.int .i64 u, .int .i64 r] 31)) w.heap.size 30 u r) := (Blk.new _ _ _ _).alloc _
  have X0 : Hid (Blk ((w.alloc (.cells #[.int .i64 u, .int .i64 r] 30)).alloc (.cells #[.int .i64 u, .int .i64 r] 31)) (w.heap.size + 1) 31 u r) := by
    have := Blk.new (w.alloc (.cells #[.int .i64 u, .int .i64 r] 30)) 31 u r
    show Blk _ _ _ _ _
    simpa using this
  go_enter Try.func4, Try.ntmps4
  go_upto_region 2 with fail
  generalize ((w.alloc (.cells #[.int .i64 u, .int .i64 r] 30)).alloc (.cells #[.int .i64 u, .int .i64 r] 31)) = w0 at *
  have f0 := X0.out.c0
  have f1 := X0.out.c1
  go_wp2_with fail
  refine (xday u r a t HA.out.1 HA.out.2.1 HA.out.2.2.1 HA.out.2.2.2 _).mono ?_
  rintro e w1 ⟨rfl, hb1⟩
  generalize hU : dayU u r a t = p
  generalize hR : dayR u r a t = q
  generalize hE : dayE u r a t = z
  have W2 : Hid (Below w.heap.size w (w1.alloc (.cells #[.int .i64 p, .int .i64 q] 31))) := by
    have := W0.out.trans (hb1.mono W0.out.size)
    exact this.alloc this.size _
  have M2 : Hid (Blk (w1.alloc (.cells #[.int .i64 p, .int .i64 q] 31)) w.heap.size 30 u r) := (M0.out.kept hb1).alloc _
  have X2 : Hid (Blk (w1.alloc (.cells #[.int .i64 p, .int .i64 q] 31)) (w.heap.size + 1) 31 u r) := (X0.out.kept hb1).alloc _
  have D2 : Hid (Blk (w1.alloc (.cells #[.int .i64 p, .int .i64 q] 31)) w1.heap.size 31 p q) := Blk.new _ _ _ _
  clear hb1 f0 f1 W0 M0 X0
  go_upto_region 3 with fail
  generalize w1.alloc (.cells #[.int .i64 p, .int .i64 q] 31) = w2 at *
  have f0 := M2.out.c0
  have f1 := M2.out.c1
  go_wp2_with fail
  refine (rday u r a t HA.out.1 HA.out.2.1 HA.out.2.2.1 HA.out.2.2.2 _).mono ?_
  rintro e w3 ⟨rfl, hb3⟩
  rw [hU, hR, hE]
  have W4 : Hid (Below w.heap.size w (w3.alloc (.cells #[.int .i64 p, .int .i64 q] 30))) := by
    have := W2.out.trans (hb3.mono W2.out.size)
    exact this.alloc this.size _
  have M4 : Hid (Blk (w3.alloc (.cells #[.int .i64 p, .int .i64 q] 30)) w.heap.size 30 u r) := (M2.out.kept hb3).alloc _
  have X4 : Hid (Blk (w3.alloc (.cells #[.int .i64 p, .int .i64 q] 30)) (w.heap.size + 1) 31 u r) := (X2.out.kept hb3).alloc _
  have D4 : Hid (Blk (w3.alloc (.cells #[.int .i64 p, .int .i64 q] 30)) w1.heap.size 31 p q) := (D2.out.kept hb3).alloc _
  have E4 : Hid (Blk (w3.alloc (.cells #[.int .i64 p, .int .i64 q] 30)) w3.heap.size 30 p q) := Blk.new _ _ _ _
  clear hb3 f0 f1 W2 M2 X2 D2
  go_upto_region 4 with fail
  generalize w3.alloc (.cells #[.int .i64 p, .int .i64 q] 30) = w4 at *
  have f0 := D4.out.c0
  have f1 := D4.out.c1
  have f2 := E4.out.c0
  have f3 := E4.out.c1
  clear hU hR hE
  by_cases hl : 200 < n ∧ n ≤ 3660
  · obtain ⟨hl1, hl2⟩ := hl
    go_wp2_with fail
    refine (awake_true _).mono ?_
    rintro e w5 ⟨rfl, hb5⟩
    go_wp2
    go_ret
    exact ⟨rfl, W4.out.trans (hb5.mono W4.out.size)⟩
  · have g0 := X4.out.c0
    have g1 := X4.out.c1
    have hl' : n ≤ 200 ∨ 3660 < n := by omega
    clear hl
    rcases hl' with hl' | hl'
    all_goals
      go_upto_region 8 with fail
      clear f0 f1 f2 f3
      go_wp2_with fail
      refine (xdays u r a t n HA.out.1 HA.out.2.1 HA.out.2.2.1 HA.out.2.2.2 HN.out _).mono ?_
      rintro e w5 ⟨rfl, hb5⟩
      generalize hU : (daysA u r a t n).1 = p'
      generalize hR : (daysA u r a t n).2.1 = q'
      generalize hE : (daysA u r a t n).2.2 = z'
      have W6 : Hid (Below w.heap.size w (w5.alloc (.cells #[.int .i64 p', .int .i64 q'] 31))) := by
        have := W4.out.trans (hb5.mono W4.out.size)
        exact this.alloc this.size _
      have M6 : Hid (Blk (w5.alloc (.cells #[.int .i64 p', .int .i64 q'] 31)) w.heap.size 30 u r) := (M4.out.kept hb5).alloc _
      have D6 : Hid (Blk (w5.alloc (.cells #[.int .i64 p', .int .i64 q'] 31)) w5.heap.size 31 p' q') := Blk.new _ _ _ _
      clear hb5 g0 g1 W4 M4 X4 D4 E4
      go_upto_region 9 with fail
      generalize w5.alloc (.cells #[.int .i64 p', .int .i64 q'] 31) = w6 at *
      have f0 := M6.out.c0
      have f1 := M6.out.c1
      go_wp2_with fail
      refine (rdays u r a t n HA.out.1 HA.out.2.1 HA.out.2.2.1 HA.out.2.2.2 HN.out _).mono ?_
      rintro e w7 ⟨rfl, hb7⟩
      rw [hU, hR, hE]
      have W8 : Hid (Below w.heap.size w (w7.alloc (.cells #[.int .i64 p', .int .i64 q'] 30))) := by
        have := W6.out.trans (hb7.mono W6.out.size)
        exact this.alloc this.size _
      have D8 : Hid (Blk (w7.alloc (.cells #[.int .i64 p', .int .i64 q'] 30)) w5.heap.size 31 p' q') := (D6.out.kept hb7).alloc _
      have E8 : Hid (Blk (w7.alloc (.cells #[.int .i64 p', .int .i64 q'] 30)) w7.heap.size 30 p' q') := Blk.new _ _ _ _
      clear hb7 f0 f1 W6 M6 D6 hU hR hE
      go_upto_region 10 with fail
      generalize w7.alloc (.cells #[.int .i64 p', .int .i64 q'] 30) = w8 at *
      have f0 := D8.out.c0
      have f1 := D8.out.c1
      have f2 := E8.out.c0
      have f3 := E8.out.c1
      go_wp2_with fail
      refine (awake_true _).mono ?_
      rintro e w9 ⟨rfl, hb9⟩
      go_wp2
      go_ret
      exact ⟨rfl, W8.out.trans (hb9.mono W8.out.size)⟩

theorem wf_i64 {a : Int} (h : (Lit.int .i64 a).wf = true) : -9223372036854775808 ≤ a ∧ a ≤ 9223372036854775807 := by
  simpa [Lit.wf, IntKind.min, IntKind.max, IntKind.signed, IntKind.bits] using h
end Go.Proofs.Ytdkhpoepdimniaa
