/- layer 14: laws Takes and Within -/
import Derived.Test.YtmjaijpikbdfkaaIB
import Derived.Test.YtmjaijpikbdfkaaF
import Derived.WalkKit
import Derived.ProofKit
import Derived.Handy
import Derived.WalkLawsBesides
import Derived.WalkSpells
import Derived.BigQuiet
import Derived.BigCall
import Derived.Deep.QuietTactic
import Derived.Deep.Light
import Derived.Deep.OwnRows
import Derived.Laws.AppendOwnNone
import Derived.Laws.Strings3
import Derived.Laws.RangeAny
import Derived.Deep.RegionWith
import Derived.Lib.BitFns
import Derived.Lib.Walk
import Derived.Lib.Strings
import Derived.Lib.OthersKept
import Derived.Deep.CutBlock
import Derived.Deep.DeepCutAuto
import Derived.Deep.LoopGhost
import Derived.Deep.RegionHeld3
import Derived.Lib.SmallJoins
import Derived.Maps.AppendAt
import Derived.Laws.IdiomStrings
import Derived.Lib.AppendZeros
import Derived.Deep.WholeRow
import Derived.Laws.BitsAllLaws
import Derived.Lib.ConvBytes
import Derived.Deep.RegionLaw
import Derived.Maps.OwnSet
import Derived.Maps.OwnOps
import Derived.Maps.RangeWalk
import Derived.Maps.Ext
import Derived.DeepKeys4
import Derived.Laws.StructEq
import Derived.Deep.MidRow
import Derived.Lib.Bytealg
import Derived.Lib.Overlaps
import Derived.Lib.AppendZerosOnto
import Derived.Laws.MakeOwn
import Derived.Deep.Upon
import Derived.Sort.OwnSortedInts
namespace Go.Proofs.Ytmjaijpikbdfkaa
open Go.RowKit
set_option linter.unusedVariables false
set_option linter.unusedSimpArgs false
set_option maxRecDepth 20000
set_option maxHeartbeats 16000000 in
theorem ltakes0 (i0 i1 i3 i4 i5 i7 i8 j0 j1 j3 j4 j5 j7 j8 : Int) (s t : ByteArray) (ca ba cb bb : Option Addr) (nc cc nb bc nd cd ne bd : Nat) (ai ac : ByteArray) (a1 a2 m d : Int) (w : World) (E1 E2 : Nat) (wy : Int) (wv z : Bool) (hz : (wy == 0) = z)
    (H8a : ∀ W, Below w.heap.size w W → Calls Try.prog 8 #[.agg #[.int .i64 i0, .int .i64 i1, .string s, .int .i64 i3, .int .i64 i4, .int .i64 i5, .slice ca nc cc, .int .i64 i7, .int .i64 i8, .slice ba nb bc]] W (KP (.int .i64 E1) W))
    (H8b : ∀ W, Below w.heap.size w W → Calls Try.prog 8 #[.agg #[.int .i64 j0, .int .i64 j1, .string t, .int .i64 j3, .int .i64 j4, .int .i64 j5, .slice cb nd cd, .int .i64 j7, .int .i64 j8, .slice bb ne bd]] W (KP (.int .i64 E2) W))
    (H10 : E1 = 0 → E2 = 0 → 0 ≤ m ∧ m ≤ 200000 → ∀ W, Below w.heap.size w W → Calls Try.prog 10 #[.agg #[.int .i64 i0, .int .i64 i1, .string s, .int .i64 i3, .int .i64 i4, .int .i64 i5, .slice ca nc cc, .int .i64 i7, .int .i64 i8, .slice ba nb bc], .agg #[.string ai, .int .i64 a1, .int .i64 a2, .int .i64 m, .string ac], .int .i64 d] W (KP (.int .i64 wy) W))
    (H11 : E1 = 0 → E2 = 0 → 0 ≤ m ∧ m ≤ 200000 → ∀ W, Below w.heap.size w W → Calls Try.prog 11 #[.agg #[.int .i64 i0, .int .i64 i1, .string s, .int .i64 i3, .int .i64 i4, .int .i64 i5, .slice ca nc cc, .int .i64 i7, .int .i64 i8, .slice ba nb bc], .agg #[.string ai, .int .i64 a1, .int .i64 a2, .int .i64 m, .string ac], .int .i64 d] W (KP (.int .i64 wy) W))
    (H12 : E1 = 0 → E2 = 0 → 0 ≤ m ∧ m ≤ 200000 → ∀ W, Below w.heap.size w W → Calls Try.prog 12 #[.agg #[.int .i64 i0, .int .i64 i1, .string s, .int .i64 i3, .int .i64 i4, .int .i64 i5, .slice ca nc cc, .int .i64 i7, .int .i64 i8, .slice ba nb bc], .agg #[.string ai, .int .i64 a1, .int .i64 a2, .int .i64 m, .string ac], .int .i64 d] W (KP (.bool z) W))
    (H13 : E1 = 0 → E2 = 0 → 0 ≤ m ∧ m ≤ 200000 → ∀ W, Below w.heap.size w W → Calls Try.prog 13 #[.agg #[.int .i64 i0, .int .i64 i1, .string s, .int .i64 i3, .int .i64 i4, .int .i64 i5, .slice ca nc cc, .int .i64 i7, .int .i64 i8, .slice ba nb bc], .agg #[.int .i64 j0, .int .i64 j1, .string t, .int .i64 j3, .int .i64 j4, .int .i64 j5, .slice cb nd cd, .int .i64 j7, .int .i64 j8, .slice bb ne bd]] W (KP (.bool wv) W))
    (H14 : E1 = 0 → E2 = 0 → 0 ≤ m ∧ m ≤ 200000 → ∀ W, Below w.heap.size w W → Calls Try.prog 14 #[.agg #[.int .i64 i0, .int .i64 i1, .string s, .int .i64 i3, .int .i64 i4, .int .i64 i5, .slice ca nc cc, .int .i64 i7, .int .i64 i8, .slice ba nb bc], .agg #[.int .i64 j0, .int .i64 j1, .string t, .int .i64 j3, .int .i64 j4, .int .i64 j5, .slice cb nd cd, .int .i64 j7, .int .i64 j8, .slice bb ne bd]] W (KP (.bool wv) W))
    : Calls Try.prog 3 #[.agg #[.int .i64 i0, .int .i64 i1, .string s, .int .i64 i3, .int .i64 i4, .int .i64 i5, .slice ca nc cc, .int .i64 i7, .int .i64 i8, .slice ba nb bc], .agg #[.int .i64 j0, .int .i64 j1, .string t, .int .i64 j3, .int .i64 j4, .int .i64 j5, .slice cb nd cd, .int .i64 j7, .int .i64 j8, .slice bb ne bd], .agg #[.string ai, .int .i64 a1, .int .i64 a2, .int .i64 m, .string ac], .int .i64 d] w (OkP w) := by
  have K8a : Hid (∀ W, Below w.heap.size w W → Calls Try.prog 8 #[.agg #[.int .i64 i0, .int .i64 i1, .string s, .int .i64 i3, .int .i64 i4, .int .i64 i5, .slice ca nc cc, .int .i64 i7, .int .i64 i8, .slice ba nb bc]] W (KP (.int .i64 E1) W)) := H8a
  have K8b : Hid (∀ W, Below w.heap.size w W → Calls Try.prog 8 #[.agg #[.int .i64 j0, .int .i64 j1, .string t, .int .i64 j3, .int .i64 j4, .int .i64 j5, .slice cb nd cd, .int .i64 j7, .int .i64 j8, .slice bb ne bd]] W (KP (.int .i64 E2) W)) := H8b
  have KH10 : Hid (E1 = 0 → E2 = 0 → 0 ≤ m ∧ m ≤ 200000 → ∀ W, Below w.heap.size w W → Calls Try.prog 10 #[.agg #[.int .i64 i0, .int .i64 i1, .string s, .int .i64 i3, .int .i64 i4, .int .i64 i5, .slice ca nc cc, .int .i64 i7, .int .i64 i8, .slice ba nb bc], .agg #[.string ai, .int .i64 a1, .int .i64 a2, .int .i64 m, .string ac], .int .i64 d] W (KP (.int .i64 wy) W)) := H10
  have KH11 : Hid (E1 = 0 → E2 = 0 → 0 ≤ m ∧ m ≤ 200000 → ∀ W, Below w.heap.size w W → Calls Try.prog 11 #[.agg #[.int .i64 i0, .int .i64 i1, .string s, .int .i64 i3, .int .i64 i4, .int .i64 i5, .slice ca nc cc, .int .i64 i7, .int .i64 i8, .slice ba nb bc], .agg #[.string ai, .int .i64 a1, .int .i64 a2, .int .i64 m, .string ac], .int .i64 d] W (KP (.int .i64 wy) W)) := H11
  have KH12 : Hid (E1 = 0 → E2 = 0 → 0 ≤ m ∧ m ≤ 200000 → ∀ W, Below w.heap.size w W → Calls Try.prog 12 #[.agg #[.int .i64 i0, .int .i64 i1, .string s, .int .i64 i3, .int .i64 i4, .int .i64 i5, .slice ca nc cc, .int .i64 i7, .int .i64 i8, .slice ba nb bc], .agg #[.string ai, .int .i64 a1, .int .i64 a2, .int .i64 m, .string ac], .int .i64 d] W (KP (.bool z) W)) := H12
  have KH13 : Hid (E1 = 0 → E2 = 0 → 0 ≤ m ∧ m ≤ 200000 → ∀ W, Below w.heap.size w W → Calls Try.prog 13 #[.agg #[.int .i64 i0, .int .i64 i1, .string s, .int .i64 i3, .int .i64 i4, .int .i64 i5, .slice ca nc cc, .int .i64 i7, .int .i64 i8, .slice ba nb bc], .agg #[.int .i64 j0, .int .i64 j1, .string t, .int .i64 j3, .int .i64 j4, .int .i64 j5, .slice cb nd cd, .int .i64 j7, .int .i64 j8, .slice bb ne bd]] W (KP (.bool wv) W)) := H13
  have KH14 : Hid (E1 = 0 → E2 = 0 → 0 ≤ m ∧ m ≤ 200000 → ∀ W, Below w.heap.size w W → Calls Try.prog 14 #[.agg #[.int .i64 i0, .int .i64 i1, .string s, .int .i64 i3, .int .i64 i4, .int .i64 i5, .slice ca nc cc, .int .i64 i7, .int .i64 i8, .slice ba nb bc], .agg #[.int .i64 j0, .int .i64 j1, .string t, .int .i64 j3, .int .i64 j4, .int .i64 j5, .slice cb nd cd, .int .i64 j7, .int .i64 j8, .slice bb ne bd]] W (KP (.bool wv) W)) := H14
  have K9 : Hid (∀ W, Calls Try.prog 9 #[] W (OkP W)) := fun W => xawake W
  clear H8a H8b H10 H11 H12 H13 H14
  have HX : Hid (Bx (((w.alloc (.cells #[.int .i64 i0, .int .i64 i1, .string s, .int .i64 i3, .int .i64 i4, .int .i64 i5, .slice ca nc cc, .int .i64 i7, .int .i64 i8, .slice ba nb bc] 25)).alloc (.cells #[.int .i64 j0, .int .i64 j1, .string t, .int .i64 j3, .int .i64 j4, .int .i64 j5, .slice cb nd cd, .int .i64 j7, .int .i64 j8, .slice bb ne bd] 25)).alloc (.cells #[.string ai, .int .i64 a1, .int .i64 a2, .int .i64 m, .string ac] 27)) w.heap.size #[.int .i64 i0, .int .i64 i1, .string s, .int .i64 i3, .int .i64 i4, .int .i64 i5, .slice ca nc cc, .int .i64 i7, .int .i64 i8, .slice ba nb bc] 25) := ((Bx.new w _ _).kept (World.grownBy_alloc _ _ none) (by simp)).kept (World.grownBy_alloc _ _ none) (by simp)
  have HY : Hid (Bx (((w.alloc (.cells #[.int .i64 i0, .int .i64 i1, .string s, .int .i64 i3, .int .i64 i4, .int .i64 i5, .slice ca nc cc, .int .i64 i7, .int .i64 i8, .slice ba nb bc] 25)).alloc (.cells #[.int .i64 j0, .int .i64 j1, .string t, .int .i64 j3, .int .i64 j4, .int .i64 j5, .slice cb nd cd, .int .i64 j7, .int .i64 j8, .slice bb ne bd] 25)).alloc (.cells #[.string ai, .int .i64 a1, .int .i64 a2, .int .i64 m, .string ac] 27)) (w.heap.size + 1) #[.int .i64 j0, .int .i64 j1, .string t, .int .i64 j3, .int .i64 j4, .int .i64 j5, .slice cb nd cd, .int .i64 j7, .int .i64 j8, .slice bb ne bd] 25) := by
    have := Bx.new (w.alloc (.cells #[.int .i64 i0, .int .i64 i1, .string s, .int .i64 i3, .int .i64 i4, .int .i64 i5, .slice ca nc cc, .int .i64 i7, .int .i64 i8, .slice ba nb bc] 25)) #[.int .i64 j0, .int .i64 j1, .string t, .int .i64 j3, .int .i64 j4, .int .i64 j5, .slice cb nd cd, .int .i64 j7, .int .i64 j8, .slice bb ne bd] 25
    rw [World.size_alloc] at this
    exact this.kept (World.grownBy_alloc _ _ none) (by simp)
  have HZ : Hid (Bx (((w.alloc (.cells #[.int .i64 i0, .int .i64 i1, .string s, .int .i64 i3, .int .i64 i4, .int .i64 i5, .slice ca nc cc, .int .i64 i7, .int .i64 i8, .slice ba nb bc] 25)).alloc (.cells #[.int .i64 j0, .int .i64 j1, .string t, .int .i64 j3, .int .i64 j4, .int .i64 j5, .slice cb nd cd, .int .i64 j7, .int .i64 j8, .slice bb ne bd] 25)).alloc (.cells #[.string ai, .int .i64 a1, .int .i64 a2, .int .i64 m, .string ac] 27)) (w.heap.size + 2) #[.string ai, .int .i64 a1, .int .i64 a2, .int .i64 m, .string ac] 27) := by
    have := Bx.new ((w.alloc (.cells #[.int .i64 i0, .int .i64 i1, .string s, .int .i64 i3, .int .i64 i4, .int .i64 i5, .slice ca nc cc, .int .i64 i7, .int .i64 i8, .slice ba nb bc] 25)).alloc (.cells #[.int .i64 j0, .int .i64 j1, .string t, .int .i64 j3, .int .i64 j4, .int .i64 j5, .slice cb nd cd, .int .i64 j7, .int .i64 j8, .slice bb ne bd] 25)) #[.string ai, .int .i64 a1, .int .i64 a2, .int .i64 m, .string ac] 27
    rw [World.size_alloc, World.size_alloc] at this
    exact this
  have HB : Hid (Below w.heap.size w (((w.alloc (.cells #[.int .i64 i0, .int .i64 i1, .string s, .int .i64 i3, .int .i64 i4, .int .i64 i5, .slice ca nc cc, .int .i64 i7, .int .i64 i8, .slice ba nb bc] 25)).alloc (.cells #[.int .i64 j0, .int .i64 j1, .string t, .int .i64 j3, .int .i64 j4, .int .i64 j5, .slice cb nd cd, .int .i64 j7, .int .i64 j8, .slice bb ne bd] 25)).alloc (.cells #[.string ai, .int .i64 a1, .int .i64 a2, .int .i64 m, .string ac] 27))) := (((Below.refl _ w).alloc (Nat.le_refl _) _).alloc (by simp) _).alloc (by simp; omega) _
  go_enter Try.func3, Try.ntmps3
  go_upto_region 1 with fail
  generalize (((w.alloc (.cells #[.int .i64 i0, .int .i64 i1, .string s, .int .i64 i3, .int .i64 i4, .int .i64 i5, .slice ca nc cc, .int .i64 i7, .int .i64 i8, .slice ba nb bc] 25)).alloc (.cells #[.int .i64 j0, .int .i64 j1, .string t, .int .i64 j3, .int .i64 j4, .int .i64 j5, .slice cb nd cd, .int .i64 j7, .int .i64 j8, .slice bb ne bd] 25)).alloc (.cells #[.string ai, .int .i64 a1, .int .i64 a2, .int .i64 m, .string ac] 27)) = w0 at *
  have x0 : w0.cell? ⟨w.heap.size, 0, none⟩ = some (.int .i64 i0) := HX.out.cell 0
  have x1 : w0.cell? ⟨w.heap.size, 1, none⟩ = some (.int .i64 i1) := HX.out.cell 1
  have x2 : w0.cell? ⟨w.heap.size, 2, none⟩ = some (.string s) := HX.out.cell 2
  have x3 : w0.cell? ⟨w.heap.size, 3, none⟩ = some (.int .i64 i3) := HX.out.cell 3
  have x4 : w0.cell? ⟨w.heap.size, 4, none⟩ = some (.int .i64 i4) := HX.out.cell 4
  have x5 : w0.cell? ⟨w.heap.size, 5, none⟩ = some (.int .i64 i5) := HX.out.cell 5
  have x6 : w0.cell? ⟨w.heap.size, 6, none⟩ = some (.slice ca nc cc) := HX.out.cell 6
  have x7 : w0.cell? ⟨w.heap.size, 7, none⟩ = some (.int .i64 i7) := HX.out.cell 7
  have x8 : w0.cell? ⟨w.heap.size, 8, none⟩ = some (.int .i64 i8) := HX.out.cell 8
  have x9 : w0.cell? ⟨w.heap.size, 9, none⟩ = some (.slice ba nb bc) := HX.out.cell 9
  have y0 : w0.cell? ⟨w.heap.size + 1, 0, none⟩ = some (.int .i64 j0) := HY.out.cell 0
  have y1 : w0.cell? ⟨w.heap.size + 1, 1, none⟩ = some (.int .i64 j1) := HY.out.cell 1
  have y2 : w0.cell? ⟨w.heap.size + 1, 2, none⟩ = some (.string t) := HY.out.cell 2
  have y3 : w0.cell? ⟨w.heap.size + 1, 3, none⟩ = some (.int .i64 j3) := HY.out.cell 3
  have y4 : w0.cell? ⟨w.heap.size + 1, 4, none⟩ = some (.int .i64 j4) := HY.out.cell 4
  have y5 : w0.cell? ⟨w.heap.size + 1, 5, none⟩ = some (.int .i64 j5) := HY.out.cell 5
  have y6 : w0.cell? ⟨w.heap.size + 1, 6, none⟩ = some (.slice cb nd cd) := HY.out.cell 6
  have y7 : w0.cell? ⟨w.heap.size + 1, 7, none⟩ = some (.int .i64 j7) := HY.out.cell 7
  have y8 : w0.cell? ⟨w.heap.size + 1, 8, none⟩ = some (.int .i64 j8) := HY.out.cell 8
  have y9 : w0.cell? ⟨w.heap.size + 1, 9, none⟩ = some (.slice bb ne bd) := HY.out.cell 9
  have z0 : w0.cell? ⟨w.heap.size + 2, 0, none⟩ = some (.string ai) := HZ.out.cell 0
  have z1 : w0.cell? ⟨w.heap.size + 2, 1, none⟩ = some (.int .i64 a1) := HZ.out.cell 1
  have z2 : w0.cell? ⟨w.heap.size + 2, 2, none⟩ = some (.int .i64 a2) := HZ.out.cell 2
  have z3 : w0.cell? ⟨w.heap.size + 2, 3, none⟩ = some (.int .i64 m) := HZ.out.cell 3
  have z4 : w0.cell? ⟨w.heap.size + 2, 4, none⟩ = some (.string ac) := HZ.out.cell 4
  go_wp2_with fail
  refine (K8a.out _ HB.out).mono ?_
  rintro e w1 ⟨rfl, hb⟩
  have HX1 : Hid (Bx w1 w.heap.size #[.int .i64 i0, .int .i64 i1, .string s, .int .i64 i3, .int .i64 i4, .int .i64 i5, .slice ca nc cc, .int .i64 i7, .int .i64 i8, .slice ba nb bc] 25) := HX.out.keep hb.out
  have HY1 : Hid (Bx w1 (w.heap.size + 1) #[.int .i64 j0, .int .i64 j1, .string t, .int .i64 j3, .int .i64 j4, .int .i64 j5, .slice cb nd cd, .int .i64 j7, .int .i64 j8, .slice bb ne bd] 25) := HY.out.keep hb.out
  have HZ1 : Hid (Bx w1 (w.heap.size + 2) #[.string ai, .int .i64 a1, .int .i64 a2, .int .i64 m, .string ac] 27) := HZ.out.keep hb.out
  have HB1 : Hid (Below w.heap.size w w1) := HB.out.trans (hb.out.mono HB.out.size)
  clear x0 x1 x2 x3 x4 x5 x6 x7 x8 x9 y0 y1 y2 y3 y4 y5 y6 y7 y8 y9 z0 z1 z2 z3 z4 HX HY HZ HB hb K8a
  have x0 : w1.cell? ⟨w.heap.size, 0, none⟩ = some (.int .i64 i0) := HX1.out.cell 0
  have x1 : w1.cell? ⟨w.heap.size, 1, none⟩ = some (.int .i64 i1) := HX1.out.cell 1
  have x2 : w1.cell? ⟨w.heap.size, 2, none⟩ = some (.string s) := HX1.out.cell 2
  have x3 : w1.cell? ⟨w.heap.size, 3, none⟩ = some (.int .i64 i3) := HX1.out.cell 3
  have x4 : w1.cell? ⟨w.heap.size, 4, none⟩ = some (.int .i64 i4) := HX1.out.cell 4
  have x5 : w1.cell? ⟨w.heap.size, 5, none⟩ = some (.int .i64 i5) := HX1.out.cell 5
  have x6 : w1.cell? ⟨w.heap.size, 6, none⟩ = some (.slice ca nc cc) := HX1.out.cell 6
  have x7 : w1.cell? ⟨w.heap.size, 7, none⟩ = some (.int .i64 i7) := HX1.out.cell 7
  have x8 : w1.cell? ⟨w.heap.size, 8, none⟩ = some (.int .i64 i8) := HX1.out.cell 8
  have x9 : w1.cell? ⟨w.heap.size, 9, none⟩ = some (.slice ba nb bc) := HX1.out.cell 9
  have y0 : w1.cell? ⟨w.heap.size + 1, 0, none⟩ = some (.int .i64 j0) := HY1.out.cell 0
  have y1 : w1.cell? ⟨w.heap.size + 1, 1, none⟩ = some (.int .i64 j1) := HY1.out.cell 1
  have y2 : w1.cell? ⟨w.heap.size + 1, 2, none⟩ = some (.string t) := HY1.out.cell 2
  have y3 : w1.cell? ⟨w.heap.size + 1, 3, none⟩ = some (.int .i64 j3) := HY1.out.cell 3
  have y4 : w1.cell? ⟨w.heap.size + 1, 4, none⟩ = some (.int .i64 j4) := HY1.out.cell 4
  have y5 : w1.cell? ⟨w.heap.size + 1, 5, none⟩ = some (.int .i64 j5) := HY1.out.cell 5
  have y6 : w1.cell? ⟨w.heap.size + 1, 6, none⟩ = some (.slice cb nd cd) := HY1.out.cell 6
  have y7 : w1.cell? ⟨w.heap.size + 1, 7, none⟩ = some (.int .i64 j7) := HY1.out.cell 7
  have y8 : w1.cell? ⟨w.heap.size + 1, 8, none⟩ = some (.int .i64 j8) := HY1.out.cell 8
  have y9 : w1.cell? ⟨w.heap.size + 1, 9, none⟩ = some (.slice bb ne bd) := HY1.out.cell 9
  have z0 : w1.cell? ⟨w.heap.size + 2, 0, none⟩ = some (.string ai) := HZ1.out.cell 0
  have z1 : w1.cell? ⟨w.heap.size + 2, 1, none⟩ = some (.int .i64 a1) := HZ1.out.cell 1
  have z2 : w1.cell? ⟨w.heap.size + 2, 2, none⟩ = some (.int .i64 a2) := HZ1.out.cell 2
  have z3 : w1.cell? ⟨w.heap.size + 2, 3, none⟩ = some (.int .i64 m) := HZ1.out.cell 3
  have z4 : w1.cell? ⟨w.heap.size + 2, 4, none⟩ = some (.string ac) := HZ1.out.cell 4
  by_cases hE1 : ¬ E1 = 0
  · have hez : ((E1 : Int) != 0) = true := by simp [hE1]
    clear hE1 K8b KH10 KH11 KH12 KH13 KH14
    go_wp2_with (go_at_call 9; refine (K9.out _).mono ?_; rintro e wz ⟨rfl, HBz⟩; have Kz : Hid (Below w.heap.size w wz) := HB1.out.trans (HBz.mono HB1.out.size); clear HBz)
    go_ret
    exact ⟨rfl, Kz.out⟩
  have hE1 : E1 = 0 := Decidable.of_not_not hE1
  have hez : ((E1 : Int) != 0) = false := by simp [hE1]
  have HE1 : Hid (E1 = 0) := hE1
  clear hE1
  go_wp2_with fail
  refine (K8b.out _ HB1.out).mono ?_
  rintro e w2 ⟨rfl, hb⟩
  have HX2 : Hid (Bx w2 w.heap.size #[.int .i64 i0, .int .i64 i1, .string s, .int .i64 i3, .int .i64 i4, .int .i64 i5, .slice ca nc cc, .int .i64 i7, .int .i64 i8, .slice ba nb bc] 25) := HX1.out.keep hb.out
  have HY2 : Hid (Bx w2 (w.heap.size + 1) #[.int .i64 j0, .int .i64 j1, .string t, .int .i64 j3, .int .i64 j4, .int .i64 j5, .slice cb nd cd, .int .i64 j7, .int .i64 j8, .slice bb ne bd] 25) := HY1.out.keep hb.out
  have HZ2 : Hid (Bx w2 (w.heap.size + 2) #[.string ai, .int .i64 a1, .int .i64 a2, .int .i64 m, .string ac] 27) := HZ1.out.keep hb.out
  have HB2 : Hid (Below w.heap.size w w2) := HB1.out.trans (hb.out.mono HB1.out.size)
  clear x0 x1 x2 x3 x4 x5 x6 x7 x8 x9 y0 y1 y2 y3 y4 y5 y6 y7 y8 y9 z0 z1 z2 z3 z4 HX1 HY1 HZ1 HB1 hb K8b
  have x0 : w2.cell? ⟨w.heap.size, 0, none⟩ = some (.int .i64 i0) := HX2.out.cell 0
  have x1 : w2.cell? ⟨w.heap.size, 1, none⟩ = some (.int .i64 i1) := HX2.out.cell 1
  have x2 : w2.cell? ⟨w.heap.size, 2, none⟩ = some (.string s) := HX2.out.cell 2
  have x3 : w2.cell? ⟨w.heap.size, 3, none⟩ = some (.int .i64 i3) := HX2.out.cell 3
  have x4 : w2.cell? ⟨w.heap.size, 4, none⟩ = some (.int .i64 i4) := HX2.out.cell 4
  have x5 : w2.cell? ⟨w.heap.size, 5, none⟩ = some (.int .i64 i5) := HX2.out.cell 5
  have x6 : w2.cell? ⟨w.heap.size, 6, none⟩ = some (.slice ca nc cc) := HX2.out.cell 6
  have x7 : w2.cell? ⟨w.heap.size, 7, none⟩ = some (.int .i64 i7) := HX2.out.cell 7
  have x8 : w2.cell? ⟨w.heap.size, 8, none⟩ = some (.int .i64 i8) := HX2.out.cell 8
  have x9 : w2.cell? ⟨w.heap.size, 9, none⟩ = some (.slice ba nb bc) := HX2.out.cell 9
  have y0 : w2.cell? ⟨w.heap.size + 1, 0, none⟩ = some (.int .i64 j0) := HY2.out.cell 0
  have y1 : w2.cell? ⟨w.heap.size + 1, 1, none⟩ = some (.int .i64 j1) := HY2.out.cell 1
  have y2 : w2.cell? ⟨w.heap.size + 1, 2, none⟩ = some (.string t) := HY2.out.cell 2
  have y3 : w2.cell? ⟨w.heap.size + 1, 3, none⟩ = some (.int .i64 j3) := HY2.out.cell 3
  have y4 : w2.cell? ⟨w.heap.size + 1, 4, none⟩ = some (.int .i64 j4) := HY2.out.cell 4
  have y5 : w2.cell? ⟨w.heap.size + 1, 5, none⟩ = some (.int .i64 j5) := HY2.out.cell 5
  have y6 : w2.cell? ⟨w.heap.size + 1, 6, none⟩ = some (.slice cb nd cd) := HY2.out.cell 6
  have y7 : w2.cell? ⟨w.heap.size + 1, 7, none⟩ = some (.int .i64 j7) := HY2.out.cell 7
  have y8 : w2.cell? ⟨w.heap.size + 1, 8, none⟩ = some (.int .i64 j8) := HY2.out.cell 8
  have y9 : w2.cell? ⟨w.heap.size + 1, 9, none⟩ = some (.slice bb ne bd) := HY2.out.cell 9
  have z0 : w2.cell? ⟨w.heap.size + 2, 0, none⟩ = some (.string ai) := HZ2.out.cell 0
  have z1 : w2.cell? ⟨w.heap.size + 2, 1, none⟩ = some (.int .i64 a1) := HZ2.out.cell 1
  have z2 : w2.cell? ⟨w.heap.size + 2, 2, none⟩ = some (.int .i64 a2) := HZ2.out.cell 2
  have z3 : w2.cell? ⟨w.heap.size + 2, 3, none⟩ = some (.int .i64 m) := HZ2.out.cell 3
  have z4 : w2.cell? ⟨w.heap.size + 2, 4, none⟩ = some (.string ac) := HZ2.out.cell 4
  by_cases hE2 : ¬ E2 = 0
  · have hez2 : ((E2 : Int) != 0) = true := by simp [hE2]
    clear hE2 KH10 KH11 KH12 KH13 KH14
    go_wp2_with (go_at_call 9; refine (K9.out _).mono ?_; rintro e wz ⟨rfl, HBz⟩; have Kz : Hid (Below w.heap.size w wz) := HB2.out.trans (HBz.mono HB2.out.size); clear HBz)
    go_ret
    exact ⟨rfl, Kz.out⟩
  have hE2 : E2 = 0 := Decidable.of_not_not hE2
  have hez2 : ((E2 : Int) != 0) = false := by simp [hE2]
  have HE2 : Hid (E2 = 0) := hE2
  clear hE2
  by_cases hm0 : m < 0
  · clear KH10 KH11 KH12 KH13 KH14
    go_wp2_with (go_at_call 9; refine (K9.out _).mono ?_; rintro e wz ⟨rfl, HBz⟩; have Kz : Hid (Below w.heap.size w wz) := HB2.out.trans (HBz.mono HB2.out.size); clear HBz)
    go_ret
    exact ⟨rfl, Kz.out⟩
  by_cases hm1 : 200000 < m
  · clear KH10 KH11 KH12 KH13 KH14
    go_wp2_with (go_at_call 9; refine (K9.out _).mono ?_; rintro e wz ⟨rfl, HBz⟩; have Kz : Hid (Below w.heap.size w wz) := HB2.out.trans (HBz.mono HB2.out.size); clear HBz)
    go_ret
    exact ⟨rfl, Kz.out⟩
  have JH10 := KH10.out HE1.out HE2.out (by omega)
  have H10 : Hid (∀ W, Below w.heap.size w W → Calls Try.prog 10 #[.agg #[.int .i64 i0, .int .i64 i1, .string s, .int .i64 i3, .int .i64 i4, .int .i64 i5, .slice ca nc cc, .int .i64 i7, .int .i64 i8, .slice ba nb bc], .agg #[.string ai, .int .i64 a1, .int .i64 a2, .int .i64 m, .string ac], .int .i64 d] W (KP (.int .i64 wy) W)) := JH10
  clear JH10 KH10
  have JH11 := KH11.out HE1.out HE2.out (by omega)
  have H11 : Hid (∀ W, Below w.heap.size w W → Calls Try.prog 11 #[.agg #[.int .i64 i0, .int .i64 i1, .string s, .int .i64 i3, .int .i64 i4, .int .i64 i5, .slice ca nc cc, .int .i64 i7, .int .i64 i8, .slice ba nb bc], .agg #[.string ai, .int .i64 a1, .int .i64 a2, .int .i64 m, .string ac], .int .i64 d] W (KP (.int .i64 wy) W)) := JH11
  clear JH11 KH11
  have JH12 := KH12.out HE1.out HE2.out (by omega)
  have H12 : Hid (∀ W, Below w.heap.size w W → Calls Try.prog 12 #[.agg #[.int .i64 i0, .int .i64 i1, .string s, .int .i64 i3, .int .i64 i4, .int .i64 i5, .slice ca nc cc, .int .i64 i7, .int .i64 i8, .slice ba nb bc], .agg #[.string ai, .int .i64 a1, .int .i64 a2, .int .i64 m, .string ac], .int .i64 d] W (KP (.bool z) W)) := JH12
  clear JH12 KH12
  have JH13 := KH13.out HE1.out HE2.out (by omega)
  have H13 : Hid (∀ W, Below w.heap.size w W → Calls Try.prog 13 #[.agg #[.int .i64 i0, .int .i64 i1, .string s, .int .i64 i3, .int .i64 i4, .int .i64 i5, .slice ca nc cc, .int .i64 i7, .int .i64 i8, .slice ba nb bc], .agg #[.int .i64 j0, .int .i64 j1, .string t, .int .i64 j3, .int .i64 j4, .int .i64 j5, .slice cb nd cd, .int .i64 j7, .int .i64 j8, .slice bb ne bd]] W (KP (.bool wv) W)) := JH13
  clear JH13 KH13
  have JH14 := KH14.out HE1.out HE2.out (by omega)
  have H14 : Hid (∀ W, Below w.heap.size w W → Calls Try.prog 14 #[.agg #[.int .i64 i0, .int .i64 i1, .string s, .int .i64 i3, .int .i64 i4, .int .i64 i5, .slice ca nc cc, .int .i64 i7, .int .i64 i8, .slice ba nb bc], .agg #[.int .i64 j0, .int .i64 j1, .string t, .int .i64 j3, .int .i64 j4, .int .i64 j5, .slice cb nd cd, .int .i64 j7, .int .i64 j8, .slice bb ne bd]] W (KP (.bool wv) W)) := JH14
  clear JH14 KH14
  go_wp2_with fail
  refine (H10.out _ HB2.out).mono ?_
  rintro e w3 ⟨rfl, hb⟩
  have HX3 : Hid (Bx w3 w.heap.size #[.int .i64 i0, .int .i64 i1, .string s, .int .i64 i3, .int .i64 i4, .int .i64 i5, .slice ca nc cc, .int .i64 i7, .int .i64 i8, .slice ba nb bc] 25) := HX2.out.keep hb.out
  have HY3 : Hid (Bx w3 (w.heap.size + 1) #[.int .i64 j0, .int .i64 j1, .string t, .int .i64 j3, .int .i64 j4, .int .i64 j5, .slice cb nd cd, .int .i64 j7, .int .i64 j8, .slice bb ne bd] 25) := HY2.out.keep hb.out
  have HZ3 : Hid (Bx w3 (w.heap.size + 2) #[.string ai, .int .i64 a1, .int .i64 a2, .int .i64 m, .string ac] 27) := HZ2.out.keep hb.out
  have HB3 : Hid (Below w.heap.size w w3) := HB2.out.trans (hb.out.mono HB2.out.size)
  clear x0 x1 x2 x3 x4 x5 x6 x7 x8 x9 y0 y1 y2 y3 y4 y5 y6 y7 y8 y9 z0 z1 z2 z3 z4 HX2 HY2 HZ2 HB2 hb H10
  have hss : (wy == wy) = true := by simp
  have hzz : (z == z) = true := by simp
  have hvv : (wv == wv) = true := by simp
  go_upto_region 4 with fail
  refine wp_region_held (S := fun W => Bx W w.heap.size #[.int .i64 i0, .int .i64 i1, .string s, .int .i64 i3, .int .i64 i4, .int .i64 i5, .slice ca nc cc, .int .i64 i7, .int .i64 i8, .slice ba nb bc] 25 ∧ Bx W (w.heap.size + 1) #[.int .i64 j0, .int .i64 j1, .string t, .int .i64 j3, .int .i64 j4, .int .i64 j5, .slice cb nd cd, .int .i64 j7, .int .i64 j8, .slice bb ne bd] 25 ∧ Bx W (w.heap.size + 2) #[.string ai, .int .i64 a1, .int .i64 a2, .int .i64 m, .string ac] 27) (by kernel_rfl) ?_
  change wpAnyH _ _ _ _ _ 28 #[false, false, false, false, false, false, false, false, false, false, false, false, false, false, false, false, false, false, false, false, false, false, false, false, false, false, false, false] _ w3.drew
  obtain ⟨v0, hv0⟩ : ∃ v, v = w3.drew := ⟨_, rfl⟩
  have hD : Below w3.heap.size w3 v0 := by rw [hv0]; exact ⟨rfl, rfl, rfl, Nat.le_refl _, fun _ _ => rfl⟩
  have hS0 : Bx v0 w.heap.size #[.int .i64 i0, .int .i64 i1, .string s, .int .i64 i3, .int .i64 i4, .int .i64 i5, .slice ca nc cc, .int .i64 i7, .int .i64 i8, .slice ba nb bc] 25 ∧ Bx v0 (w.heap.size + 1) #[.int .i64 j0, .int .i64 j1, .string t, .int .i64 j3, .int .i64 j4, .int .i64 j5, .slice cb nd cd, .int .i64 j7, .int .i64 j8, .slice bb ne bd] 25 ∧ Bx v0 (w.heap.size + 2) #[.string ai, .int .i64 a1, .int .i64 a2, .int .i64 m, .string ac] 27 := ⟨HX3.out.keep hD, HY3.out.keep hD, HZ3.out.keep hD⟩
  have hB0 : Below w.heap.size w v0 := HB3.out.trans (hD.mono HB3.out.size)
  rw [← hv0]
  clear hv0 hD HX3 HY3 HZ3 HB3
  refine takeR (fuel := 27) (i := 0) (v := .agg #[.int .i64 i0, .int .i64 i1, .string s, .int .i64 i3, .int .i64 i4, .int .i64 i5, .slice ca nc cc, .int .i64 i7, .int .i64 i8, .slice ba nb bc]) rfl (by kernel_rfl) (by kernel_rfl) (by kernel_rfl) (fun _ _ _ h => h) (Or.inl ⟨rfl, fun W hW => exl _ _ _ _ rfl (.pointer (some ⟨w.heap.size, 0, none⟩)) _ rfl (loadB hW.1)⟩) hS0 ?_
  simp only [Act.put, List.setIfInBounds_toArray, List.set_cons_zero, List.set_cons_succ]
  refine takeR (fuel := 26) (i := 1) (v := .agg #[.string ai, .int .i64 a1, .int .i64 a2, .int .i64 m, .string ac]) rfl (by kernel_rfl) (by kernel_rfl) (by kernel_rfl) (fun _ _ _ h => h) (Or.inl ⟨rfl, fun W hW => exl _ _ _ _ rfl (.pointer (some ⟨w.heap.size + 2, 0, none⟩)) _ rfl (load27 hW.2.2)⟩) hS0 ?_
  simp only [Act.put, List.setIfInBounds_toArray, List.set_cons_zero, List.set_cons_succ]
  refine takeR (fuel := 25) (i := 2) (v := .int .i64 d) rfl (by kernel_rfl) (by kernel_rfl) (by kernel_rfl) (fun _ _ _ h => h) (Or.inl ⟨rfl, fun W hW => by go_simp⟩) hS0 ?_
  simp only [Act.put, List.setIfInBounds_toArray, List.set_cons_zero, List.set_cons_succ]
  refine takeR (fuel := 24) (i := 4) (v := .int .i64 wy) rfl (by kernel_rfl) (by kernel_rfl) (by kernel_rfl) (fun _ _ _ h => h) (Or.inl ⟨rfl, fun W hW => by go_simp⟩) hS0 ?_
  simp only [Act.put, List.setIfInBounds_toArray, List.set_cons_zero, List.set_cons_succ]
  refine consR (fuel := 23) (i := 3) rfl (by kernel_rfl) (fun K hK => ?_)
  rw [if_pos (by rfl)]
  go_simp
  refine (H11.out _ hB0).mono ?_
  rintro e v1 ⟨rfl, hk1⟩
  have hd1 : Below v0.heap.size v0 v1 := hk1.out
  refine hK.out _ _ ⟨hS0.1.keep hd1, hS0.2.1.keep hd1, hS0.2.2.keep hd1⟩ (fun hS1 => ?_)
  clear hK
  have hB1 : Below w.heap.size w v1 := hB0.trans (hd1.mono hB0.size)
  clear hB0 hS0 hk1 hd1
  try simp only [Act.put, List.setIfInBounds_toArray, List.set_cons_zero, List.set_cons_succ]
  refine takeR (fuel := 22) (i := 5) (v := .bool true) rfl (by kernel_rfl) (by kernel_rfl) (by kernel_rfl) (fun _ _ _ h => h) (Or.inl ⟨rfl, fun W hW => by go_simp⟩) hS1 ?_
  simp only [Act.put, List.setIfInBounds_toArray, List.set_cons_zero, List.set_cons_succ]
  refine takeR (fuel := 21) (i := 6) (v := .bool true) rfl (by kernel_rfl) (by kernel_rfl) (by kernel_rfl) (fun _ _ _ h => h) (Or.inl ⟨rfl, fun W hW => by go_simp⟩) hS1 ?_
  simp only [Act.put, List.setIfInBounds_toArray, List.set_cons_zero, List.set_cons_succ]
  refine takeR (fuel := 20) (i := 7) (v := .agg #[.int .i64 i0, .int .i64 i1, .string s, .int .i64 i3, .int .i64 i4, .int .i64 i5, .slice ca nc cc, .int .i64 i7, .int .i64 i8, .slice ba nb bc]) rfl (by kernel_rfl) (by kernel_rfl) (by kernel_rfl) (fun _ _ _ h => h) (Or.inl ⟨rfl, fun W hW => exl _ _ _ _ rfl (.pointer (some ⟨w.heap.size, 0, none⟩)) _ rfl (loadB hW.1)⟩) hS1 ?_
  simp only [Act.put, List.setIfInBounds_toArray, List.set_cons_zero, List.set_cons_succ]
  refine takeR (fuel := 19) (i := 8) (v := .agg #[.string ai, .int .i64 a1, .int .i64 a2, .int .i64 m, .string ac]) rfl (by kernel_rfl) (by kernel_rfl) (by kernel_rfl) (fun _ _ _ h => h) (Or.inl ⟨rfl, fun W hW => exl _ _ _ _ rfl (.pointer (some ⟨w.heap.size + 2, 0, none⟩)) _ rfl (load27 hW.2.2)⟩) hS1 ?_
  simp only [Act.put, List.setIfInBounds_toArray, List.set_cons_zero, List.set_cons_succ]
  refine takeR (fuel := 18) (i := 9) (v := .int .i64 d) rfl (by kernel_rfl) (by kernel_rfl) (by kernel_rfl) (fun _ _ _ h => h) (Or.inl ⟨rfl, fun W hW => by go_simp⟩) hS1 ?_
  simp only [Act.put, List.setIfInBounds_toArray, List.set_cons_zero, List.set_cons_succ]
  refine takeR (fuel := 17) (i := 11) (v := .int .i64 wy) rfl (by kernel_rfl) (by kernel_rfl) (by kernel_rfl) (fun _ _ _ h => h) (Or.inl ⟨rfl, fun W hW => by go_simp⟩) hS1 ?_
  simp only [Act.put, List.setIfInBounds_toArray, List.set_cons_zero, List.set_cons_succ]
  refine takeR (fuel := 16) (i := 12) (v := .bool z) rfl (by kernel_rfl) (by kernel_rfl) (by kernel_rfl) (fun _ _ _ h => h) (Or.inl ⟨rfl, fun W hW => by go_simp⟩) hS1 ?_
  simp only [Act.put, List.setIfInBounds_toArray, List.set_cons_zero, List.set_cons_succ]
  refine consR (fuel := 15) (i := 10) rfl (by kernel_rfl) (fun K hK => ?_)
  rw [if_pos (by rfl)]
  go_simp
  refine (H12.out _ hB1).mono ?_
  rintro e v2 ⟨rfl, hk2⟩
  have hd2 : Below v1.heap.size v1 v2 := hk2.out
  refine hK.out _ _ ⟨hS1.1.keep hd2, hS1.2.1.keep hd2, hS1.2.2.keep hd2⟩ (fun hS2 => ?_)
  clear hK
  have hB2 : Below w.heap.size w v2 := hB1.trans (hd2.mono hB1.size)
  clear hB1 hS1 hk2 hd2
  try simp only [Act.put, List.setIfInBounds_toArray, List.set_cons_zero, List.set_cons_succ]
  refine takeR (fuel := 14) (i := 13) (v := .bool true) rfl (by kernel_rfl) (by kernel_rfl) (by kernel_rfl) (fun _ _ _ h => h) (Or.inl ⟨rfl, fun W hW => by go_simp⟩) hS2 ?_
  simp only [Act.put, List.setIfInBounds_toArray, List.set_cons_zero, List.set_cons_succ]
  refine takeR (fuel := 13) (i := 14) (v := .bool true) rfl (by kernel_rfl) (by kernel_rfl) (by kernel_rfl) (fun _ _ _ h => h) (Or.inl ⟨rfl, fun W hW => by go_simp⟩) hS2 ?_
  simp only [Act.put, List.setIfInBounds_toArray, List.set_cons_zero, List.set_cons_succ]
  refine takeR (fuel := 12) (i := 15) (v := .bool true) rfl (by kernel_rfl) (by kernel_rfl) (by kernel_rfl) (fun _ _ _ h => h) (Or.inl ⟨rfl, fun W hW => by go_simp⟩) hS2 ?_
  simp only [Act.put, List.setIfInBounds_toArray, List.set_cons_zero, List.set_cons_succ]
  refine takeR (fuel := 11) (i := 16) (v := .agg #[.int .i64 i0, .int .i64 i1, .string s, .int .i64 i3, .int .i64 i4, .int .i64 i5, .slice ca nc cc, .int .i64 i7, .int .i64 i8, .slice ba nb bc]) rfl (by kernel_rfl) (by kernel_rfl) (by kernel_rfl) (fun _ _ _ h => h) (Or.inl ⟨rfl, fun W hW => exl _ _ _ _ rfl (.pointer (some ⟨w.heap.size, 0, none⟩)) _ rfl (loadB hW.1)⟩) hS2 ?_
  simp only [Act.put, List.setIfInBounds_toArray, List.set_cons_zero, List.set_cons_succ]
  refine takeR (fuel := 10) (i := 17) (v := .agg #[.int .i64 j0, .int .i64 j1, .string t, .int .i64 j3, .int .i64 j4, .int .i64 j5, .slice cb nd cd, .int .i64 j7, .int .i64 j8, .slice bb ne bd]) rfl (by kernel_rfl) (by kernel_rfl) (by kernel_rfl) (fun _ _ _ h => h) (Or.inl ⟨rfl, fun W hW => exl _ _ _ _ rfl (.pointer (some ⟨w.heap.size + 1, 0, none⟩)) _ rfl (loadB hW.2.1)⟩) hS2 ?_
  simp only [Act.put, List.setIfInBounds_toArray, List.set_cons_zero, List.set_cons_succ]
  refine takeR (fuel := 9) (i := 19) (v := .agg #[.int .i64 i0, .int .i64 i1, .string s, .int .i64 i3, .int .i64 i4, .int .i64 i5, .slice ca nc cc, .int .i64 i7, .int .i64 i8, .slice ba nb bc]) rfl (by kernel_rfl) (by kernel_rfl) (by kernel_rfl) (fun _ _ _ h => h) (Or.inl ⟨rfl, fun W hW => exl _ _ _ _ rfl (.pointer (some ⟨w.heap.size, 0, none⟩)) _ rfl (loadB hW.1)⟩) hS2 ?_
  simp only [Act.put, List.setIfInBounds_toArray, List.set_cons_zero, List.set_cons_succ]
  refine takeR (fuel := 8) (i := 20) (v := .agg #[.int .i64 j0, .int .i64 j1, .string t, .int .i64 j3, .int .i64 j4, .int .i64 j5, .slice cb nd cd, .int .i64 j7, .int .i64 j8, .slice bb ne bd]) rfl (by kernel_rfl) (by kernel_rfl) (by kernel_rfl) (fun _ _ _ h => h) (Or.inl ⟨rfl, fun W hW => exl _ _ _ _ rfl (.pointer (some ⟨w.heap.size + 1, 0, none⟩)) _ rfl (loadB hW.2.1)⟩) hS2 ?_
  simp only [Act.put, List.setIfInBounds_toArray, List.set_cons_zero, List.set_cons_succ]
  refine consR (fuel := 7) (i := 18) rfl (by kernel_rfl) (fun K hK => ?_)
  rw [if_pos (by rfl)]
  go_simp
  refine (H13.out _ hB2).mono ?_
  rintro e v3 ⟨rfl, hk3⟩
  have hd3 : Below v2.heap.size v2 v3 := hk3.out
  refine hK.out _ _ ⟨hS2.1.keep hd3, hS2.2.1.keep hd3, hS2.2.2.keep hd3⟩ (fun hS3 => ?_)
  clear hK
  have hB3 : Below w.heap.size w v3 := hB2.trans (hd3.mono hB2.size)
  clear hB2 hS2 hk3 hd3
  try simp only [Act.put, List.setIfInBounds_toArray, List.set_cons_zero, List.set_cons_succ]
  refine consR (fuel := 6) (i := 21) rfl (by kernel_rfl) (fun K hK => ?_)
  rw [if_pos (by rfl)]
  go_simp
  refine (H14.out _ hB3).mono ?_
  rintro e v4 ⟨rfl, hk4⟩
  have hd4 : Below v3.heap.size v3 v4 := hk4.out
  refine hK.out _ _ ⟨hS3.1.keep hd4, hS3.2.1.keep hd4, hS3.2.2.keep hd4⟩ (fun hS4 => ?_)
  clear hK
  have hB4 : Below w.heap.size w v4 := hB3.trans (hd4.mono hB3.size)
  clear hB3 hS3 hk4 hd4
  try simp only [Act.put, List.setIfInBounds_toArray, List.set_cons_zero, List.set_cons_succ]
  refine takeR (fuel := 5) (i := 22) (v := .bool true) rfl (by kernel_rfl) (by kernel_rfl) (by kernel_rfl) (fun _ _ _ h => h) (Or.inl ⟨rfl, fun W hW => by go_simp⟩) hS4 ?_
  simp only [Act.put, List.setIfInBounds_toArray, List.set_cons_zero, List.set_cons_succ]
  refine takeR (fuel := 4) (i := 23) (v := .bool true) rfl (by kernel_rfl) (by kernel_rfl) (by kernel_rfl) (fun _ _ _ h => h) (Or.inl ⟨rfl, fun W hW => by go_simp⟩) hS4 ?_
  simp only [Act.put, List.setIfInBounds_toArray, List.set_cons_zero, List.set_cons_succ]
  refine takeR (fuel := 3) (i := 24) (v := .bool true) rfl (by kernel_rfl) (by kernel_rfl) (by kernel_rfl) (fun _ _ _ h => h) (Or.inl ⟨rfl, fun W hW => by go_simp⟩) hS4 ?_
  simp only [Act.put, List.setIfInBounds_toArray, List.set_cons_zero, List.set_cons_succ]
  refine consR (fuel := 2) (i := 25) rfl (by kernel_rfl) (fun K hK => ?_)
  rw [if_pos (by rfl)]
  go_simp
  refine (K9.out _).mono ?_
  rintro e v5 ⟨rfl, hk5⟩
  have hd5 : Below v4.heap.size v4 v5 := hk5
  refine hK.out _ _ ⟨hS4.1.keep hd5, hS4.2.1.keep hd5, hS4.2.2.keep hd5⟩ (fun hS5 => ?_)
  clear hK
  have hB5 : Below w.heap.size w v5 := hB4.trans (hd5.mono hB4.size)
  clear hB4 hS4 hk5 hd5
  try simp only [Act.put, List.setIfInBounds_toArray, List.set_cons_zero, List.set_cons_succ]
  refine takeR (fuel := 1) (i := 26) (v := .bool true) rfl (by kernel_rfl) (by kernel_rfl) (by kernel_rfl) (fun _ _ _ h => h) (Or.inl ⟨rfl, fun W hW => by go_simp⟩) hS5 ?_
  simp only [Act.put, List.setIfInBounds_toArray, List.set_cons_zero, List.set_cons_succ]
  refine takeR (fuel := 0) (i := 27) (v := .bool true) rfl (by kernel_rfl) (by kernel_rfl) (by kernel_rfl) (fun _ _ _ h => h) (Or.inl ⟨rfl, fun W hW => by go_simp⟩) hS5 ?_
  simp only [Act.put, List.setIfInBounds_toArray, List.set_cons_zero, List.set_cons_succ]
  have HBy : Hid (Below w.heap.size w v5) := hB5
  refine wpAnyH_done (by kernel_rfl) ?_ _
  go_wp2_with fail
  go_ret
  exact ⟨rfl, HBy.out⟩
set_option maxHeartbeats 16000000 in
theorem lwithin0 (i0 i1 i3 i4 i5 i7 i8 j0 j1 j3 j4 j5 j7 j8 : Int) (s t : ByteArray) (ca ba cb bb : Option Addr) (nc cc nb bc nd cd ne bd : Nat) (ai ac : ByteArray) (a1 a2 m d : Int) (w : World) (E1 E2 : Nat) (wv f1 f2 : Bool) (hf : wv = true → f1 = true → f2 = true)
    (H8a : ∀ W, Below w.heap.size w W → Calls Try.prog 8 #[.agg #[.int .i64 i0, .int .i64 i1, .string s, .int .i64 i3, .int .i64 i4, .int .i64 i5, .slice ca nc cc, .int .i64 i7, .int .i64 i8, .slice ba nb bc]] W (KP (.int .i64 E1) W))
    (H8b : ∀ W, Below w.heap.size w W → Calls Try.prog 8 #[.agg #[.int .i64 j0, .int .i64 j1, .string t, .int .i64 j3, .int .i64 j4, .int .i64 j5, .slice cb nd cd, .int .i64 j7, .int .i64 j8, .slice bb ne bd]] W (KP (.int .i64 E2) W))
    (H13 : E1 = 0 → E2 = 0 → 0 ≤ m ∧ m ≤ 200000 → ∀ W, Below w.heap.size w W → Calls Try.prog 13 #[.agg #[.int .i64 i0, .int .i64 i1, .string s, .int .i64 i3, .int .i64 i4, .int .i64 i5, .slice ca nc cc, .int .i64 i7, .int .i64 i8, .slice ba nb bc], .agg #[.int .i64 j0, .int .i64 j1, .string t, .int .i64 j3, .int .i64 j4, .int .i64 j5, .slice cb nd cd, .int .i64 j7, .int .i64 j8, .slice bb ne bd]] W (KP (.bool wv) W))
    (H13b : E1 = 0 → E2 = 0 → 0 ≤ m ∧ m ≤ 200000 → ∀ W, Below w.heap.size w W → Calls Try.prog 13 #[.agg #[.int .i64 i0, .int .i64 i1, .string s, .int .i64 i3, .int .i64 i4, .int .i64 i5, .slice ca nc cc, .int .i64 i7, .int .i64 i8, .slice ba nb bc], .agg #[.int .i64 i0, .int .i64 i1, .string s, .int .i64 i3, .int .i64 i4, .int .i64 i5, .slice ca nc cc, .int .i64 i7, .int .i64 i8, .slice ba nb bc]] W (KP (.bool true) W))
    (H12 : E1 = 0 → E2 = 0 → 0 ≤ m ∧ m ≤ 200000 → ∀ W, Below w.heap.size w W → Calls Try.prog 12 #[.agg #[.int .i64 i0, .int .i64 i1, .string s, .int .i64 i3, .int .i64 i4, .int .i64 i5, .slice ca nc cc, .int .i64 i7, .int .i64 i8, .slice ba nb bc], .agg #[.string ai, .int .i64 a1, .int .i64 a2, .int .i64 m, .string ac], .int .i64 d] W (KP (.bool f1) W))
    (H12c : E1 = 0 → E2 = 0 → 0 ≤ m ∧ m ≤ 200000 → ∀ W, Below w.heap.size w W → Calls Try.prog 12 #[.agg #[.int .i64 j0, .int .i64 j1, .string t, .int .i64 j3, .int .i64 j4, .int .i64 j5, .slice cb nd cd, .int .i64 j7, .int .i64 j8, .slice bb ne bd], .agg #[.string ai, .int .i64 a1, .int .i64 a2, .int .i64 m, .string ac], .int .i64 d] W (KP (.bool f2) W))
    : Calls Try.prog 4 #[.agg #[.int .i64 i0, .int .i64 i1, .string s, .int .i64 i3, .int .i64 i4, .int .i64 i5, .slice ca nc cc, .int .i64 i7, .int .i64 i8, .slice ba nb bc], .agg #[.int .i64 j0, .int .i64 j1, .string t, .int .i64 j3, .int .i64 j4, .int .i64 j5, .slice cb nd cd, .int .i64 j7, .int .i64 j8, .slice bb ne bd], .agg #[.string ai, .int .i64 a1, .int .i64 a2, .int .i64 m, .string ac], .int .i64 d] w (OkP w) := by
  have K8a : Hid (∀ W, Below w.heap.size w W → Calls Try.prog 8 #[.agg #[.int .i64 i0, .int .i64 i1, .string s, .int .i64 i3, .int .i64 i4, .int .i64 i5, .slice ca nc cc, .int .i64 i7, .int .i64 i8, .slice ba nb bc]] W (KP (.int .i64 E1) W)) := H8a
  have K8b : Hid (∀ W, Below w.heap.size w W → Calls Try.prog 8 #[.agg #[.int .i64 j0, .int .i64 j1, .string t, .int .i64 j3, .int .i64 j4, .int .i64 j5, .slice cb nd cd, .int .i64 j7, .int .i64 j8, .slice bb ne bd]] W (KP (.int .i64 E2) W)) := H8b
  have KH13 : Hid (E1 = 0 → E2 = 0 → 0 ≤ m ∧ m ≤ 200000 → ∀ W, Below w.heap.size w W → Calls Try.prog 13 #[.agg #[.int .i64 i0, .int .i64 i1, .string s, .int .i64 i3, .int .i64 i4, .int .i64 i5, .slice ca nc cc, .int .i64 i7, .int .i64 i8, .slice ba nb bc], .agg #[.int .i64 j0, .int .i64 j1, .string t, .int .i64 j3, .int .i64 j4, .int .i64 j5, .slice cb nd cd, .int .i64 j7, .int .i64 j8, .slice bb ne bd]] W (KP (.bool wv) W)) := H13
  have KH13b : Hid (E1 = 0 → E2 = 0 → 0 ≤ m ∧ m ≤ 200000 → ∀ W, Below w.heap.size w W → Calls Try.prog 13 #[.agg #[.int .i64 i0, .int .i64 i1, .string s, .int .i64 i3, .int .i64 i4, .int .i64 i5, .slice ca nc cc, .int .i64 i7, .int .i64 i8, .slice ba nb bc], .agg #[.int .i64 i0, .int .i64 i1, .string s, .int .i64 i3, .int .i64 i4, .int .i64 i5, .slice ca nc cc, .int .i64 i7, .int .i64 i8, .slice ba nb bc]] W (KP (.bool true) W)) := H13b
  have KH12 : Hid (E1 = 0 → E2 = 0 → 0 ≤ m ∧ m ≤ 200000 → ∀ W, Below w.heap.size w W → Calls Try.prog 12 #[.agg #[.int .i64 i0, .int .i64 i1, .string s, .int .i64 i3, .int .i64 i4, .int .i64 i5, .slice ca nc cc, .int .i64 i7, .int .i64 i8, .slice ba nb bc], .agg #[.string ai, .int .i64 a1, .int .i64 a2, .int .i64 m, .string ac], .int .i64 d] W (KP (.bool f1) W)) := H12
  have KH12c : Hid (E1 = 0 → E2 = 0 → 0 ≤ m ∧ m ≤ 200000 → ∀ W, Below w.heap.size w W → Calls Try.prog 12 #[.agg #[.int .i64 j0, .int .i64 j1, .string t, .int .i64 j3, .int .i64 j4, .int .i64 j5, .slice cb nd cd, .int .i64 j7, .int .i64 j8, .slice bb ne bd], .agg #[.string ai, .int .i64 a1, .int .i64 a2, .int .i64 m, .string ac], .int .i64 d] W (KP (.bool f2) W)) := H12c
  have K9 : Hid (∀ W, Calls Try.prog 9 #[] W (OkP W)) := fun W => xawake W
  clear H8a H8b H13 H13b H12 H12c
  have HX : Hid (Bx (((w.alloc (.cells #[.int .i64 i0, .int .i64 i1, .string s, .int .i64 i3, .int .i64 i4, .int .i64 i5, .slice ca nc cc, .int .i64 i7, .int .i64 i8, .slice ba nb bc] 25)).alloc (.cells #[.int .i64 j0, .int .i64 j1, .string t, .int .i64 j3, .int .i64 j4, .int .i64 j5, .slice cb nd cd, .int .i64 j7, .int .i64 j8, .slice bb ne bd] 25)).alloc (.cells #[.string ai, .int .i64 a1, .int .i64 a2, .int .i64 m, .string ac] 27)) w.heap.size #[.int .i64 i0, .int .i64 i1, .string s, .int .i64 i3, .int .i64 i4, .int .i64 i5, .slice ca nc cc, .int .i64 i7, .int .i64 i8, .slice ba nb bc] 25) := ((Bx.new w _ _).kept (World.grownBy_alloc _ _ none) (by simp)).kept (World.grownBy_alloc _ _ none) (by simp)
  have HY : Hid (Bx (((w.alloc (.cells #[.int .i64 i0, .int .i64 i1, .string s, .int .i64 i3, .int .i64 i4, .int .i64 i5, .slice ca nc cc, .int .i64 i7, .int .i64 i8, .slice ba nb bc] 25)).alloc (.cells #[.int .i64 j0, .int .i64 j1, .string t, .int .i64 j3, .int .i64 j4, .int .i64 j5, .slice cb nd cd, .int .i64 j7, .int .i64 j8, .slice bb ne bd] 25)).alloc (.cells #[.string ai, .int .i64 a1, .int .i64 a2, .int .i64 m, .string ac] 27)) (w.heap.size + 1) #[.int .i64 j0, .int .i64 j1, .string t, .int .i64 j3, .int .i64 j4, .int .i64 j5, .slice cb nd cd, .int .i64 j7, .int .i64 j8, .slice bb ne bd] 25) := by
    have := Bx.new (w.alloc (.cells #[.int .i64 i0, .int .i64 i1, .string s, .int .i64 i3, .int .i64 i4, .int .i64 i5, .slice ca nc cc, .int .i64 i7, .int .i64 i8, .slice ba nb bc] 25)) #[.int .i64 j0, .int .i64 j1, .string t, .int .i64 j3, .int .i64 j4, .int .i64 j5, .slice cb nd cd, .int .i64 j7, .int .i64 j8, .slice bb ne bd] 25
    rw [World.size_alloc] at this
    exact this.kept (World.grownBy_alloc _ _ none) (by simp)
  have HZ : Hid (Bx (((w.alloc (.cells #[.int .i64 i0, .int .i64 i1, .string s, .int .i64 i3, .int .i64 i4, .int .i64 i5, .slice ca nc cc, .int .i64 i7, .int .i64 i8, .slice ba nb bc] 25)).alloc (.cells #[.int .i64 j0, .int .i64 j1, .string t, .int .i64 j3, .int .i64 j4, .int .i64 j5, .slice cb nd cd, .int .i64 j7, .int .i64 j8, .slice bb ne bd] 25)).alloc (.cells #[.string ai, .int .i64 a1, .int .i64 a2, .int .i64 m, .string ac] 27)) (w.heap.size + 2) #[.string ai, .int .i64 a1, .int .i64 a2, .int .i64 m, .string ac] 27) := by
    have := Bx.new ((w.alloc (.cells #[.int .i64 i0, .int .i64 i1, .string s, .int .i64 i3, .int .i64 i4, .int .i64 i5, .slice ca nc cc, .int .i64 i7, .int .i64 i8, .slice ba nb bc] 25)).alloc (.cells #[.int .i64 j0, .int .i64 j1, .string t, .int .i64 j3, .int .i64 j4, .int .i64 j5, .slice cb nd cd, .int .i64 j7, .int .i64 j8, .slice bb ne bd] 25)) #[.string ai, .int .i64 a1, .int .i64 a2, .int .i64 m, .string ac] 27
    rw [World.size_alloc, World.size_alloc] at this
    exact this
  have HB : Hid (Below w.heap.size w (((w.alloc (.cells #[.int .i64 i0, .int .i64 i1, .string s, .int .i64 i3, .int .i64 i4, .int .i64 i5, .slice ca nc cc, .int .i64 i7, .int .i64 i8, .slice ba nb bc] 25)).alloc (.cells #[.int .i64 j0, .int .i64 j1, .string t, .int .i64 j3, .int .i64 j4, .int .i64 j5, .slice cb nd cd, .int .i64 j7, .int .i64 j8, .slice bb ne bd] 25)).alloc (.cells #[.string ai, .int .i64 a1, .int .i64 a2, .int .i64 m, .string ac] 27))) := (((Below.refl _ w).alloc (Nat.le_refl _) _).alloc (by simp) _).alloc (by simp; omega) _
  go_enter Try.func4, Try.ntmps4
  go_upto_region 1 with fail
  generalize (((w.alloc (.cells #[.int .i64 i0, .int .i64 i1, .string s, .int .i64 i3, .int .i64 i4, .int .i64 i5, .slice ca nc cc, .int .i64 i7, .int .i64 i8, .slice ba nb bc] 25)).alloc (.cells #[.int .i64 j0, .int .i64 j1, .string t, .int .i64 j3, .int .i64 j4, .int .i64 j5, .slice cb nd cd, .int .i64 j7, .int .i64 j8, .slice bb ne bd] 25)).alloc (.cells #[.string ai, .int .i64 a1, .int .i64 a2, .int .i64 m, .string ac] 27)) = w0 at *
  have x0 : w0.cell? ⟨w.heap.size, 0, none⟩ = some (.int .i64 i0) := HX.out.cell 0
  have x1 : w0.cell? ⟨w.heap.size, 1, none⟩ = some (.int .i64 i1) := HX.out.cell 1
  have x2 : w0.cell? ⟨w.heap.size, 2, none⟩ = some (.string s) := HX.out.cell 2
  have x3 : w0.cell? ⟨w.heap.size, 3, none⟩ = some (.int .i64 i3) := HX.out.cell 3
  have x4 : w0.cell? ⟨w.heap.size, 4, none⟩ = some (.int .i64 i4) := HX.out.cell 4
  have x5 : w0.cell? ⟨w.heap.size, 5, none⟩ = some (.int .i64 i5) := HX.out.cell 5
  have x6 : w0.cell? ⟨w.heap.size, 6, none⟩ = some (.slice ca nc cc) := HX.out.cell 6
  have x7 : w0.cell? ⟨w.heap.size, 7, none⟩ = some (.int .i64 i7) := HX.out.cell 7
  have x8 : w0.cell? ⟨w.heap.size, 8, none⟩ = some (.int .i64 i8) := HX.out.cell 8
  have x9 : w0.cell? ⟨w.heap.size, 9, none⟩ = some (.slice ba nb bc) := HX.out.cell 9
  have y0 : w0.cell? ⟨w.heap.size + 1, 0, none⟩ = some (.int .i64 j0) := HY.out.cell 0
  have y1 : w0.cell? ⟨w.heap.size + 1, 1, none⟩ = some (.int .i64 j1) := HY.out.cell 1
  have y2 : w0.cell? ⟨w.heap.size + 1, 2, none⟩ = some (.string t) := HY.out.cell 2
  have y3 : w0.cell? ⟨w.heap.size + 1, 3, none⟩ = some (.int .i64 j3) := HY.out.cell 3
  have y4 : w0.cell? ⟨w.heap.size + 1, 4, none⟩ = some (.int .i64 j4) := HY.out.cell 4
  have y5 : w0.cell? ⟨w.heap.size + 1, 5, none⟩ = some (.int .i64 j5) := HY.out.cell 5
  have y6 : w0.cell? ⟨w.heap.size + 1, 6, none⟩ = some (.slice cb nd cd) := HY.out.cell 6
  have y7 : w0.cell? ⟨w.heap.size + 1, 7, none⟩ = some (.int .i64 j7) := HY.out.cell 7
  have y8 : w0.cell? ⟨w.heap.size + 1, 8, none⟩ = some (.int .i64 j8) := HY.out.cell 8
  have y9 : w0.cell? ⟨w.heap.size + 1, 9, none⟩ = some (.slice bb ne bd) := HY.out.cell 9
  have z0 : w0.cell? ⟨w.heap.size + 2, 0, none⟩ = some (.string ai) := HZ.out.cell 0
  have z1 : w0.cell? ⟨w.heap.size + 2, 1, none⟩ = some (.int .i64 a1) := HZ.out.cell 1
  have z2 : w0.cell? ⟨w.heap.size + 2, 2, none⟩ = some (.int .i64 a2) := HZ.out.cell 2
  have z3 : w0.cell? ⟨w.heap.size + 2, 3, none⟩ = some (.int .i64 m) := HZ.out.cell 3
  have z4 : w0.cell? ⟨w.heap.size + 2, 4, none⟩ = some (.string ac) := HZ.out.cell 4
  go_wp2_with fail
  refine (K8a.out _ HB.out).mono ?_
  rintro e w1 ⟨rfl, hb⟩
  have HX1 : Hid (Bx w1 w.heap.size #[.int .i64 i0, .int .i64 i1, .string s, .int .i64 i3, .int .i64 i4, .int .i64 i5, .slice ca nc cc, .int .i64 i7, .int .i64 i8, .slice ba nb bc] 25) := HX.out.keep hb.out
  have HY1 : Hid (Bx w1 (w.heap.size + 1) #[.int .i64 j0, .int .i64 j1, .string t, .int .i64 j3, .int .i64 j4, .int .i64 j5, .slice cb nd cd, .int .i64 j7, .int .i64 j8, .slice bb ne bd] 25) := HY.out.keep hb.out
  have HZ1 : Hid (Bx w1 (w.heap.size + 2) #[.string ai, .int .i64 a1, .int .i64 a2, .int .i64 m, .string ac] 27) := HZ.out.keep hb.out
  have HB1 : Hid (Below w.heap.size w w1) := HB.out.trans (hb.out.mono HB.out.size)
  clear x0 x1 x2 x3 x4 x5 x6 x7 x8 x9 y0 y1 y2 y3 y4 y5 y6 y7 y8 y9 z0 z1 z2 z3 z4 HX HY HZ HB hb K8a
  have x0 : w1.cell? ⟨w.heap.size, 0, none⟩ = some (.int .i64 i0) := HX1.out.cell 0
  have x1 : w1.cell? ⟨w.heap.size, 1, none⟩ = some (.int .i64 i1) := HX1.out.cell 1
  have x2 : w1.cell? ⟨w.heap.size, 2, none⟩ = some (.string s) := HX1.out.cell 2
  have x3 : w1.cell? ⟨w.heap.size, 3, none⟩ = some (.int .i64 i3) := HX1.out.cell 3
  have x4 : w1.cell? ⟨w.heap.size, 4, none⟩ = some (.int .i64 i4) := HX1.out.cell 4
  have x5 : w1.cell? ⟨w.heap.size, 5, none⟩ = some (.int .i64 i5) := HX1.out.cell 5
  have x6 : w1.cell? ⟨w.heap.size, 6, none⟩ = some (.slice ca nc cc) := HX1.out.cell 6
  have x7 : w1.cell? ⟨w.heap.size, 7, none⟩ = some (.int .i64 i7) := HX1.out.cell 7
  have x8 : w1.cell? ⟨w.heap.size, 8, none⟩ = some (.int .i64 i8) := HX1.out.cell 8
  have x9 : w1.cell? ⟨w.heap.size, 9, none⟩ = some (.slice ba nb bc) := HX1.out.cell 9
  have y0 : w1.cell? ⟨w.heap.size + 1, 0, none⟩ = some (.int .i64 j0) := HY1.out.cell 0
  have y1 : w1.cell? ⟨w.heap.size + 1, 1, none⟩ = some (.int .i64 j1) := HY1.out.cell 1
  have y2 : w1.cell? ⟨w.heap.size + 1, 2, none⟩ = some (.string t) := HY1.out.cell 2
  have y3 : w1.cell? ⟨w.heap.size + 1, 3, none⟩ = some (.int .i64 j3) := HY1.out.cell 3
  have y4 : w1.cell? ⟨w.heap.size + 1, 4, none⟩ = some (.int .i64 j4) := HY1.out.cell 4
  have y5 : w1.cell? ⟨w.heap.size + 1, 5, none⟩ = some (.int .i64 j5) := HY1.out.cell 5
  have y6 : w1.cell? ⟨w.heap.size + 1, 6, none⟩ = some (.slice cb nd cd) := HY1.out.cell 6
  have y7 : w1.cell? ⟨w.heap.size + 1, 7, none⟩ = some (.int .i64 j7) := HY1.out.cell 7
  have y8 : w1.cell? ⟨w.heap.size + 1, 8, none⟩ = some (.int .i64 j8) := HY1.out.cell 8
  have y9 : w1.cell? ⟨w.heap.size + 1, 9, none⟩ = some (.slice bb ne bd) := HY1.out.cell 9
  have z0 : w1.cell? ⟨w.heap.size + 2, 0, none⟩ = some (.string ai) := HZ1.out.cell 0
  have z1 : w1.cell? ⟨w.heap.size + 2, 1, none⟩ = some (.int .i64 a1) := HZ1.out.cell 1
  have z2 : w1.cell? ⟨w.heap.size + 2, 2, none⟩ = some (.int .i64 a2) := HZ1.out.cell 2
  have z3 : w1.cell? ⟨w.heap.size + 2, 3, none⟩ = some (.int .i64 m) := HZ1.out.cell 3
  have z4 : w1.cell? ⟨w.heap.size + 2, 4, none⟩ = some (.string ac) := HZ1.out.cell 4
  by_cases hE1 : ¬ E1 = 0
  · have hez : ((E1 : Int) != 0) = true := by simp [hE1]
    clear hE1 K8b KH13 KH13b KH12 KH12c
    go_wp2_with (go_at_call 9; refine (K9.out _).mono ?_; rintro e wz ⟨rfl, HBz⟩; have Kz : Hid (Below w.heap.size w wz) := HB1.out.trans (HBz.mono HB1.out.size); clear HBz)
    go_ret
    exact ⟨rfl, Kz.out⟩
  have hE1 : E1 = 0 := Decidable.of_not_not hE1
  have hez : ((E1 : Int) != 0) = false := by simp [hE1]
  have HE1 : Hid (E1 = 0) := hE1
  clear hE1
  go_wp2_with fail
  refine (K8b.out _ HB1.out).mono ?_
  rintro e w2 ⟨rfl, hb⟩
  have HX2 : Hid (Bx w2 w.heap.size #[.int .i64 i0, .int .i64 i1, .string s, .int .i64 i3, .int .i64 i4, .int .i64 i5, .slice ca nc cc, .int .i64 i7, .int .i64 i8, .slice ba nb bc] 25) := HX1.out.keep hb.out
  have HY2 : Hid (Bx w2 (w.heap.size + 1) #[.int .i64 j0, .int .i64 j1, .string t, .int .i64 j3, .int .i64 j4, .int .i64 j5, .slice cb nd cd, .int .i64 j7, .int .i64 j8, .slice bb ne bd] 25) := HY1.out.keep hb.out
  have HZ2 : Hid (Bx w2 (w.heap.size + 2) #[.string ai, .int .i64 a1, .int .i64 a2, .int .i64 m, .string ac] 27) := HZ1.out.keep hb.out
  have HB2 : Hid (Below w.heap.size w w2) := HB1.out.trans (hb.out.mono HB1.out.size)
  clear x0 x1 x2 x3 x4 x5 x6 x7 x8 x9 y0 y1 y2 y3 y4 y5 y6 y7 y8 y9 z0 z1 z2 z3 z4 HX1 HY1 HZ1 HB1 hb K8b
  have x0 : w2.cell? ⟨w.heap.size, 0, none⟩ = some (.int .i64 i0) := HX2.out.cell 0
  have x1 : w2.cell? ⟨w.heap.size, 1, none⟩ = some (.int .i64 i1) := HX2.out.cell 1
  have x2 : w2.cell? ⟨w.heap.size, 2, none⟩ = some (.string s) := HX2.out.cell 2
  have x3 : w2.cell? ⟨w.heap.size, 3, none⟩ = some (.int .i64 i3) := HX2.out.cell 3
  have x4 : w2.cell? ⟨w.heap.size, 4, none⟩ = some (.int .i64 i4) := HX2.out.cell 4
  have x5 : w2.cell? ⟨w.heap.size, 5, none⟩ = some (.int .i64 i5) := HX2.out.cell 5
  have x6 : w2.cell? ⟨w.heap.size, 6, none⟩ = some (.slice ca nc cc) := HX2.out.cell 6
  have x7 : w2.cell? ⟨w.heap.size, 7, none⟩ = some (.int .i64 i7) := HX2.out.cell 7
  have x8 : w2.cell? ⟨w.heap.size, 8, none⟩ = some (.int .i64 i8) := HX2.out.cell 8
  have x9 : w2.cell? ⟨w.heap.size, 9, none⟩ = some (.slice ba nb bc) := HX2.out.cell 9
  have y0 : w2.cell? ⟨w.heap.size + 1, 0, none⟩ = some (.int .i64 j0) := HY2.out.cell 0
  have y1 : w2.cell? ⟨w.heap.size + 1, 1, none⟩ = some (.int .i64 j1) := HY2.out.cell 1
  have y2 : w2.cell? ⟨w.heap.size + 1, 2, none⟩ = some (.string t) := HY2.out.cell 2
  have y3 : w2.cell? ⟨w.heap.size + 1, 3, none⟩ = some (.int .i64 j3) := HY2.out.cell 3
  have y4 : w2.cell? ⟨w.heap.size + 1, 4, none⟩ = some (.int .i64 j4) := HY2.out.cell 4
  have y5 : w2.cell? ⟨w.heap.size + 1, 5, none⟩ = some (.int .i64 j5) := HY2.out.cell 5
  have y6 : w2.cell? ⟨w.heap.size + 1, 6, none⟩ = some (.slice cb nd cd) := HY2.out.cell 6
  have y7 : w2.cell? ⟨w.heap.size + 1, 7, none⟩ = some (.int .i64 j7) := HY2.out.cell 7
  have y8 : w2.cell? ⟨w.heap.size + 1, 8, none⟩ = some (.int .i64 j8) := HY2.out.cell 8
  have y9 : w2.cell? ⟨w.heap.size + 1, 9, none⟩ = some (.slice bb ne bd) := HY2.out.cell 9
  have z0 : w2.cell? ⟨w.heap.size + 2, 0, none⟩ = some (.string ai) := HZ2.out.cell 0
  have z1 : w2.cell? ⟨w.heap.size + 2, 1, none⟩ = some (.int .i64 a1) := HZ2.out.cell 1
  have z2 : w2.cell? ⟨w.heap.size + 2, 2, none⟩ = some (.int .i64 a2) := HZ2.out.cell 2
  have z3 : w2.cell? ⟨w.heap.size + 2, 3, none⟩ = some (.int .i64 m) := HZ2.out.cell 3
  have z4 : w2.cell? ⟨w.heap.size + 2, 4, none⟩ = some (.string ac) := HZ2.out.cell 4
  by_cases hE2 : ¬ E2 = 0
  · have hez2 : ((E2 : Int) != 0) = true := by simp [hE2]
    clear hE2 KH13 KH13b KH12 KH12c
    go_wp2_with (go_at_call 9; refine (K9.out _).mono ?_; rintro e wz ⟨rfl, HBz⟩; have Kz : Hid (Below w.heap.size w wz) := HB2.out.trans (HBz.mono HB2.out.size); clear HBz)
    go_ret
    exact ⟨rfl, Kz.out⟩
  have hE2 : E2 = 0 := Decidable.of_not_not hE2
  have hez2 : ((E2 : Int) != 0) = false := by simp [hE2]
  have HE2 : Hid (E2 = 0) := hE2
  clear hE2
  by_cases hm0 : m < 0
  · clear KH13 KH13b KH12 KH12c
    go_wp2_with (go_at_call 9; refine (K9.out _).mono ?_; rintro e wz ⟨rfl, HBz⟩; have Kz : Hid (Below w.heap.size w wz) := HB2.out.trans (HBz.mono HB2.out.size); clear HBz)
    go_ret
    exact ⟨rfl, Kz.out⟩
  by_cases hm1 : 200000 < m
  · clear KH13 KH13b KH12 KH12c
    go_wp2_with (go_at_call 9; refine (K9.out _).mono ?_; rintro e wz ⟨rfl, HBz⟩; have Kz : Hid (Below w.heap.size w wz) := HB2.out.trans (HBz.mono HB2.out.size); clear HBz)
    go_ret
    exact ⟨rfl, Kz.out⟩
  have JH13 := KH13.out HE1.out HE2.out (by omega)
  have H13 : Hid (∀ W, Below w.heap.size w W → Calls Try.prog 13 #[.agg #[.int .i64 i0, .int .i64 i1, .string s, .int .i64 i3, .int .i64 i4, .int .i64 i5, .slice ca nc cc, .int .i64 i7, .int .i64 i8, .slice ba nb bc], .agg #[.int .i64 j0, .int .i64 j1, .string t, .int .i64 j3, .int .i64 j4, .int .i64 j5, .slice cb nd cd, .int .i64 j7, .int .i64 j8, .slice bb ne bd]] W (KP (.bool wv) W)) := JH13
  clear JH13 KH13
  have JH13b := KH13b.out HE1.out HE2.out (by omega)
  have H13b : Hid (∀ W, Below w.heap.size w W → Calls Try.prog 13 #[.agg #[.int .i64 i0, .int .i64 i1, .string s, .int .i64 i3, .int .i64 i4, .int .i64 i5, .slice ca nc cc, .int .i64 i7, .int .i64 i8, .slice ba nb bc], .agg #[.int .i64 i0, .int .i64 i1, .string s, .int .i64 i3, .int .i64 i4, .int .i64 i5, .slice ca nc cc, .int .i64 i7, .int .i64 i8, .slice ba nb bc]] W (KP (.bool true) W)) := JH13b
  clear JH13b KH13b
  have JH12 := KH12.out HE1.out HE2.out (by omega)
  have H12 : Hid (∀ W, Below w.heap.size w W → Calls Try.prog 12 #[.agg #[.int .i64 i0, .int .i64 i1, .string s, .int .i64 i3, .int .i64 i4, .int .i64 i5, .slice ca nc cc, .int .i64 i7, .int .i64 i8, .slice ba nb bc], .agg #[.string ai, .int .i64 a1, .int .i64 a2, .int .i64 m, .string ac], .int .i64 d] W (KP (.bool f1) W)) := JH12
  clear JH12 KH12
  have JH12c := KH12c.out HE1.out HE2.out (by omega)
  have H12c : Hid (∀ W, Below w.heap.size w W → Calls Try.prog 12 #[.agg #[.int .i64 j0, .int .i64 j1, .string t, .int .i64 j3, .int .i64 j4, .int .i64 j5, .slice cb nd cd, .int .i64 j7, .int .i64 j8, .slice bb ne bd], .agg #[.string ai, .int .i64 a1, .int .i64 a2, .int .i64 m, .string ac], .int .i64 d] W (KP (.bool f2) W)) := JH12c
  clear JH12c KH12c
  cases wv with
  | false =>
    clear H12 H12c hf
    go_wp2_with fail
    refine (H13.out _ HB2.out).mono ?_
    rintro e w3 ⟨rfl, hb⟩
    have HX3 : Hid (Bx w3 w.heap.size #[.int .i64 i0, .int .i64 i1, .string s, .int .i64 i3, .int .i64 i4, .int .i64 i5, .slice ca nc cc, .int .i64 i7, .int .i64 i8, .slice ba nb bc] 25) := HX2.out.keep hb.out
    have HY3 : Hid (Bx w3 (w.heap.size + 1) #[.int .i64 j0, .int .i64 j1, .string t, .int .i64 j3, .int .i64 j4, .int .i64 j5, .slice cb nd cd, .int .i64 j7, .int .i64 j8, .slice bb ne bd] 25) := HY2.out.keep hb.out
    have HZ3 : Hid (Bx w3 (w.heap.size + 2) #[.string ai, .int .i64 a1, .int .i64 a2, .int .i64 m, .string ac] 27) := HZ2.out.keep hb.out
    have HB3 : Hid (Below w.heap.size w w3) := HB2.out.trans (hb.out.mono HB2.out.size)
    clear x0 x1 x2 x3 x4 x5 x6 x7 x8 x9 y0 y1 y2 y3 y4 y5 y6 y7 y8 y9 z0 z1 z2 z3 z4 HX2 HY2 HZ2 HB2 hb H13
    have x0 : w3.cell? ⟨w.heap.size, 0, none⟩ = some (.int .i64 i0) := HX3.out.cell 0
    have x1 : w3.cell? ⟨w.heap.size, 1, none⟩ = some (.int .i64 i1) := HX3.out.cell 1
    have x2 : w3.cell? ⟨w.heap.size, 2, none⟩ = some (.string s) := HX3.out.cell 2
    have x3 : w3.cell? ⟨w.heap.size, 3, none⟩ = some (.int .i64 i3) := HX3.out.cell 3
    have x4 : w3.cell? ⟨w.heap.size, 4, none⟩ = some (.int .i64 i4) := HX3.out.cell 4
    have x5 : w3.cell? ⟨w.heap.size, 5, none⟩ = some (.int .i64 i5) := HX3.out.cell 5
    have x6 : w3.cell? ⟨w.heap.size, 6, none⟩ = some (.slice ca nc cc) := HX3.out.cell 6
    have x7 : w3.cell? ⟨w.heap.size, 7, none⟩ = some (.int .i64 i7) := HX3.out.cell 7
    have x8 : w3.cell? ⟨w.heap.size, 8, none⟩ = some (.int .i64 i8) := HX3.out.cell 8
    have x9 : w3.cell? ⟨w.heap.size, 9, none⟩ = some (.slice ba nb bc) := HX3.out.cell 9
    have y0 : w3.cell? ⟨w.heap.size + 1, 0, none⟩ = some (.int .i64 j0) := HY3.out.cell 0
    have y1 : w3.cell? ⟨w.heap.size + 1, 1, none⟩ = some (.int .i64 j1) := HY3.out.cell 1
    have y2 : w3.cell? ⟨w.heap.size + 1, 2, none⟩ = some (.string t) := HY3.out.cell 2
    have y3 : w3.cell? ⟨w.heap.size + 1, 3, none⟩ = some (.int .i64 j3) := HY3.out.cell 3
    have y4 : w3.cell? ⟨w.heap.size + 1, 4, none⟩ = some (.int .i64 j4) := HY3.out.cell 4
    have y5 : w3.cell? ⟨w.heap.size + 1, 5, none⟩ = some (.int .i64 j5) := HY3.out.cell 5
    have y6 : w3.cell? ⟨w.heap.size + 1, 6, none⟩ = some (.slice cb nd cd) := HY3.out.cell 6
    have y7 : w3.cell? ⟨w.heap.size + 1, 7, none⟩ = some (.int .i64 j7) := HY3.out.cell 7
    have y8 : w3.cell? ⟨w.heap.size + 1, 8, none⟩ = some (.int .i64 j8) := HY3.out.cell 8
    have y9 : w3.cell? ⟨w.heap.size + 1, 9, none⟩ = some (.slice bb ne bd) := HY3.out.cell 9
    have z0 : w3.cell? ⟨w.heap.size + 2, 0, none⟩ = some (.string ai) := HZ3.out.cell 0
    have z1 : w3.cell? ⟨w.heap.size + 2, 1, none⟩ = some (.int .i64 a1) := HZ3.out.cell 1
    have z2 : w3.cell? ⟨w.heap.size + 2, 2, none⟩ = some (.int .i64 a2) := HZ3.out.cell 2
    have z3 : w3.cell? ⟨w.heap.size + 2, 3, none⟩ = some (.int .i64 m) := HZ3.out.cell 3
    have z4 : w3.cell? ⟨w.heap.size + 2, 4, none⟩ = some (.string ac) := HZ3.out.cell 4
    go_wp2_with fail
    refine (H13b.out _ HB3.out).mono ?_
    rintro e w4 ⟨rfl, hb⟩
    have HX4 : Hid (Bx w4 w.heap.size #[.int .i64 i0, .int .i64 i1, .string s, .int .i64 i3, .int .i64 i4, .int .i64 i5, .slice ca nc cc, .int .i64 i7, .int .i64 i8, .slice ba nb bc] 25) := HX3.out.keep hb.out
    have HY4 : Hid (Bx w4 (w.heap.size + 1) #[.int .i64 j0, .int .i64 j1, .string t, .int .i64 j3, .int .i64 j4, .int .i64 j5, .slice cb nd cd, .int .i64 j7, .int .i64 j8, .slice bb ne bd] 25) := HY3.out.keep hb.out
    have HZ4 : Hid (Bx w4 (w.heap.size + 2) #[.string ai, .int .i64 a1, .int .i64 a2, .int .i64 m, .string ac] 27) := HZ3.out.keep hb.out
    have HB4 : Hid (Below w.heap.size w w4) := HB3.out.trans (hb.out.mono HB3.out.size)
    clear x0 x1 x2 x3 x4 x5 x6 x7 x8 x9 y0 y1 y2 y3 y4 y5 y6 y7 y8 y9 z0 z1 z2 z3 z4 HX3 HY3 HZ3 HB3 hb H13b
    have x0 : w4.cell? ⟨w.heap.size, 0, none⟩ = some (.int .i64 i0) := HX4.out.cell 0
    have x1 : w4.cell? ⟨w.heap.size, 1, none⟩ = some (.int .i64 i1) := HX4.out.cell 1
    have x2 : w4.cell? ⟨w.heap.size, 2, none⟩ = some (.string s) := HX4.out.cell 2
    have x3 : w4.cell? ⟨w.heap.size, 3, none⟩ = some (.int .i64 i3) := HX4.out.cell 3
    have x4 : w4.cell? ⟨w.heap.size, 4, none⟩ = some (.int .i64 i4) := HX4.out.cell 4
    have x5 : w4.cell? ⟨w.heap.size, 5, none⟩ = some (.int .i64 i5) := HX4.out.cell 5
    have x6 : w4.cell? ⟨w.heap.size, 6, none⟩ = some (.slice ca nc cc) := HX4.out.cell 6
    have x7 : w4.cell? ⟨w.heap.size, 7, none⟩ = some (.int .i64 i7) := HX4.out.cell 7
    have x8 : w4.cell? ⟨w.heap.size, 8, none⟩ = some (.int .i64 i8) := HX4.out.cell 8
    have x9 : w4.cell? ⟨w.heap.size, 9, none⟩ = some (.slice ba nb bc) := HX4.out.cell 9
    have y0 : w4.cell? ⟨w.heap.size + 1, 0, none⟩ = some (.int .i64 j0) := HY4.out.cell 0
    have y1 : w4.cell? ⟨w.heap.size + 1, 1, none⟩ = some (.int .i64 j1) := HY4.out.cell 1
    have y2 : w4.cell? ⟨w.heap.size + 1, 2, none⟩ = some (.string t) := HY4.out.cell 2
    have y3 : w4.cell? ⟨w.heap.size + 1, 3, none⟩ = some (.int .i64 j3) := HY4.out.cell 3
    have y4 : w4.cell? ⟨w.heap.size + 1, 4, none⟩ = some (.int .i64 j4) := HY4.out.cell 4
    have y5 : w4.cell? ⟨w.heap.size + 1, 5, none⟩ = some (.int .i64 j5) := HY4.out.cell 5
    have y6 : w4.cell? ⟨w.heap.size + 1, 6, none⟩ = some (.slice cb nd cd) := HY4.out.cell 6
    have y7 : w4.cell? ⟨w.heap.size + 1, 7, none⟩ = some (.int .i64 j7) := HY4.out.cell 7
    have y8 : w4.cell? ⟨w.heap.size + 1, 8, none⟩ = some (.int .i64 j8) := HY4.out.cell 8
    have y9 : w4.cell? ⟨w.heap.size + 1, 9, none⟩ = some (.slice bb ne bd) := HY4.out.cell 9
    have z0 : w4.cell? ⟨w.heap.size + 2, 0, none⟩ = some (.string ai) := HZ4.out.cell 0
    have z1 : w4.cell? ⟨w.heap.size + 2, 1, none⟩ = some (.int .i64 a1) := HZ4.out.cell 1
    have z2 : w4.cell? ⟨w.heap.size + 2, 2, none⟩ = some (.int .i64 a2) := HZ4.out.cell 2
    have z3 : w4.cell? ⟨w.heap.size + 2, 3, none⟩ = some (.int .i64 m) := HZ4.out.cell 3
    have z4 : w4.cell? ⟨w.heap.size + 2, 4, none⟩ = some (.string ac) := HZ4.out.cell 4
    go_wp2_with (go_at_call 9; refine (K9.out _).mono ?_; rintro e wz ⟨rfl, HBz⟩; have Kz : Hid (Below w.heap.size w wz) := HB4.out.trans (HBz.mono HB4.out.size); clear HBz)
    go_ret
    exact ⟨rfl, Kz.out⟩
  | true =>
    cases f1 with
    | false =>
      clear H12c hf
      go_wp2_with fail
      refine (H13.out _ HB2.out).mono ?_
      rintro e w3 ⟨rfl, hb⟩
      have HX3 : Hid (Bx w3 w.heap.size #[.int .i64 i0, .int .i64 i1, .string s, .int .i64 i3, .int .i64 i4, .int .i64 i5, .slice ca nc cc, .int .i64 i7, .int .i64 i8, .slice ba nb bc] 25) := HX2.out.keep hb.out
      have HY3 : Hid (Bx w3 (w.heap.size + 1) #[.int .i64 j0, .int .i64 j1, .string t, .int .i64 j3, .int .i64 j4, .int .i64 j5, .slice cb nd cd, .int .i64 j7, .int .i64 j8, .slice bb ne bd] 25) := HY2.out.keep hb.out
      have HZ3 : Hid (Bx w3 (w.heap.size + 2) #[.string ai, .int .i64 a1, .int .i64 a2, .int .i64 m, .string ac] 27) := HZ2.out.keep hb.out
      have HB3 : Hid (Below w.heap.size w w3) := HB2.out.trans (hb.out.mono HB2.out.size)
      clear x0 x1 x2 x3 x4 x5 x6 x7 x8 x9 y0 y1 y2 y3 y4 y5 y6 y7 y8 y9 z0 z1 z2 z3 z4 HX2 HY2 HZ2 HB2 hb H13
      have x0 : w3.cell? ⟨w.heap.size, 0, none⟩ = some (.int .i64 i0) := HX3.out.cell 0
      have x1 : w3.cell? ⟨w.heap.size, 1, none⟩ = some (.int .i64 i1) := HX3.out.cell 1
      have x2 : w3.cell? ⟨w.heap.size, 2, none⟩ = some (.string s) := HX3.out.cell 2
      have x3 : w3.cell? ⟨w.heap.size, 3, none⟩ = some (.int .i64 i3) := HX3.out.cell 3
      have x4 : w3.cell? ⟨w.heap.size, 4, none⟩ = some (.int .i64 i4) := HX3.out.cell 4
      have x5 : w3.cell? ⟨w.heap.size, 5, none⟩ = some (.int .i64 i5) := HX3.out.cell 5
      have x6 : w3.cell? ⟨w.heap.size, 6, none⟩ = some (.slice ca nc cc) := HX3.out.cell 6
      have x7 : w3.cell? ⟨w.heap.size, 7, none⟩ = some (.int .i64 i7) := HX3.out.cell 7
      have x8 : w3.cell? ⟨w.heap.size, 8, none⟩ = some (.int .i64 i8) := HX3.out.cell 8
      have x9 : w3.cell? ⟨w.heap.size, 9, none⟩ = some (.slice ba nb bc) := HX3.out.cell 9
      have y0 : w3.cell? ⟨w.heap.size + 1, 0, none⟩ = some (.int .i64 j0) := HY3.out.cell 0
      have y1 : w3.cell? ⟨w.heap.size + 1, 1, none⟩ = some (.int .i64 j1) := HY3.out.cell 1
      have y2 : w3.cell? ⟨w.heap.size + 1, 2, none⟩ = some (.string t) := HY3.out.cell 2
      have y3 : w3.cell? ⟨w.heap.size + 1, 3, none⟩ = some (.int .i64 j3) := HY3.out.cell 3
      have y4 : w3.cell? ⟨w.heap.size + 1, 4, none⟩ = some (.int .i64 j4) := HY3.out.cell 4
      have y5 : w3.cell? ⟨w.heap.size + 1, 5, none⟩ = some (.int .i64 j5) := HY3.out.cell 5
      have y6 : w3.cell? ⟨w.heap.size + 1, 6, none⟩ = some (.slice cb nd cd) := HY3.out.cell 6
      have y7 : w3.cell? ⟨w.heap.size + 1, 7, none⟩ = some (.int .i64 j7) := HY3.out.cell 7
      have y8 : w3.cell? ⟨w.heap.size + 1, 8, none⟩ = some (.int .i64 j8) := HY3.out.cell 8
      have y9 : w3.cell? ⟨w.heap.size + 1, 9, none⟩ = some (.slice bb ne bd) := HY3.out.cell 9
      have z0 : w3.cell? ⟨w.heap.size + 2, 0, none⟩ = some (.string ai) := HZ3.out.cell 0
      have z1 : w3.cell? ⟨w.heap.size + 2, 1, none⟩ = some (.int .i64 a1) := HZ3.out.cell 1
      have z2 : w3.cell? ⟨w.heap.size + 2, 2, none⟩ = some (.int .i64 a2) := HZ3.out.cell 2
      have z3 : w3.cell? ⟨w.heap.size + 2, 3, none⟩ = some (.int .i64 m) := HZ3.out.cell 3
      have z4 : w3.cell? ⟨w.heap.size + 2, 4, none⟩ = some (.string ac) := HZ3.out.cell 4
      go_wp2_with fail
      refine (H12.out _ HB3.out).mono ?_
      rintro e w4 ⟨rfl, hb⟩
      have HX4 : Hid (Bx w4 w.heap.size #[.int .i64 i0, .int .i64 i1, .string s, .int .i64 i3, .int .i64 i4, .int .i64 i5, .slice ca nc cc, .int .i64 i7, .int .i64 i8, .slice ba nb bc] 25) := HX3.out.keep hb.out
      have HY4 : Hid (Bx w4 (w.heap.size + 1) #[.int .i64 j0, .int .i64 j1, .string t, .int .i64 j3, .int .i64 j4, .int .i64 j5, .slice cb nd cd, .int .i64 j7, .int .i64 j8, .slice bb ne bd] 25) := HY3.out.keep hb.out
      have HZ4 : Hid (Bx w4 (w.heap.size + 2) #[.string ai, .int .i64 a1, .int .i64 a2, .int .i64 m, .string ac] 27) := HZ3.out.keep hb.out
      have HB4 : Hid (Below w.heap.size w w4) := HB3.out.trans (hb.out.mono HB3.out.size)
      clear x0 x1 x2 x3 x4 x5 x6 x7 x8 x9 y0 y1 y2 y3 y4 y5 y6 y7 y8 y9 z0 z1 z2 z3 z4 HX3 HY3 HZ3 HB3 hb H12
      have x0 : w4.cell? ⟨w.heap.size, 0, none⟩ = some (.int .i64 i0) := HX4.out.cell 0
      have x1 : w4.cell? ⟨w.heap.size, 1, none⟩ = some (.int .i64 i1) := HX4.out.cell 1
      have x2 : w4.cell? ⟨w.heap.size, 2, none⟩ = some (.string s) := HX4.out.cell 2
      have x3 : w4.cell? ⟨w.heap.size, 3, none⟩ = some (.int .i64 i3) := HX4.out.cell 3
      have x4 : w4.cell? ⟨w.heap.size, 4, none⟩ = some (.int .i64 i4) := HX4.out.cell 4
      have x5 : w4.cell? ⟨w.heap.size, 5, none⟩ = some (.int .i64 i5) := HX4.out.cell 5
      have x6 : w4.cell? ⟨w.heap.size, 6, none⟩ = some (.slice ca nc cc) := HX4.out.cell 6
      have x7 : w4.cell? ⟨w.heap.size, 7, none⟩ = some (.int .i64 i7) := HX4.out.cell 7
      have x8 : w4.cell? ⟨w.heap.size, 8, none⟩ = some (.int .i64 i8) := HX4.out.cell 8
      have x9 : w4.cell? ⟨w.heap.size, 9, none⟩ = some (.slice ba nb bc) := HX4.out.cell 9
      have y0 : w4.cell? ⟨w.heap.size + 1, 0, none⟩ = some (.int .i64 j0) := HY4.out.cell 0
      have y1 : w4.cell? ⟨w.heap.size + 1, 1, none⟩ = some (.int .i64 j1) := HY4.out.cell 1
      have y2 : w4.cell? ⟨w.heap.size + 1, 2, none⟩ = some (.string t) := HY4.out.cell 2
      have y3 : w4.cell? ⟨w.heap.size + 1, 3, none⟩ = some (.int .i64 j3) := HY4.out.cell 3
      have y4 : w4.cell? ⟨w.heap.size + 1, 4, none⟩ = some (.int .i64 j4) := HY4.out.cell 4
      have y5 : w4.cell? ⟨w.heap.size + 1, 5, none⟩ = some (.int .i64 j5) := HY4.out.cell 5
      have y6 : w4.cell? ⟨w.heap.size + 1, 6, none⟩ = some (.slice cb nd cd) := HY4.out.cell 6
      have y7 : w4.cell? ⟨w.heap.size + 1, 7, none⟩ = some (.int .i64 j7) := HY4.out.cell 7
      have y8 : w4.cell? ⟨w.heap.size + 1, 8, none⟩ = some (.int .i64 j8) := HY4.out.cell 8
      have y9 : w4.cell? ⟨w.heap.size + 1, 9, none⟩ = some (.slice bb ne bd) := HY4.out.cell 9
      have z0 : w4.cell? ⟨w.heap.size + 2, 0, none⟩ = some (.string ai) := HZ4.out.cell 0
      have z1 : w4.cell? ⟨w.heap.size + 2, 1, none⟩ = some (.int .i64 a1) := HZ4.out.cell 1
      have z2 : w4.cell? ⟨w.heap.size + 2, 2, none⟩ = some (.int .i64 a2) := HZ4.out.cell 2
      have z3 : w4.cell? ⟨w.heap.size + 2, 3, none⟩ = some (.int .i64 m) := HZ4.out.cell 3
      have z4 : w4.cell? ⟨w.heap.size + 2, 4, none⟩ = some (.string ac) := HZ4.out.cell 4
      go_wp2_with fail
      refine (H13b.out _ HB4.out).mono ?_
      rintro e w5 ⟨rfl, hb⟩
      have HX5 : Hid (Bx w5 w.heap.size #[.int .i64 i0, .int .i64 i1, .string s, .int .i64 i3, .int .i64 i4, .int .i64 i5, .slice ca nc cc, .int .i64 i7, .int .i64 i8, .slice ba nb bc] 25) := HX4.out.keep hb.out
      have HY5 : Hid (Bx w5 (w.heap.size + 1) #[.int .i64 j0, .int .i64 j1, .string t, .int .i64 j3, .int .i64 j4, .int .i64 j5, .slice cb nd cd, .int .i64 j7, .int .i64 j8, .slice bb ne bd] 25) := HY4.out.keep hb.out
      have HZ5 : Hid (Bx w5 (w.heap.size + 2) #[.string ai, .int .i64 a1, .int .i64 a2, .int .i64 m, .string ac] 27) := HZ4.out.keep hb.out
      have HB5 : Hid (Below w.heap.size w w5) := HB4.out.trans (hb.out.mono HB4.out.size)
      clear x0 x1 x2 x3 x4 x5 x6 x7 x8 x9 y0 y1 y2 y3 y4 y5 y6 y7 y8 y9 z0 z1 z2 z3 z4 HX4 HY4 HZ4 HB4 hb H13b
      have x0 : w5.cell? ⟨w.heap.size, 0, none⟩ = some (.int .i64 i0) := HX5.out.cell 0
      have x1 : w5.cell? ⟨w.heap.size, 1, none⟩ = some (.int .i64 i1) := HX5.out.cell 1
      have x2 : w5.cell? ⟨w.heap.size, 2, none⟩ = some (.string s) := HX5.out.cell 2
      have x3 : w5.cell? ⟨w.heap.size, 3, none⟩ = some (.int .i64 i3) := HX5.out.cell 3
      have x4 : w5.cell? ⟨w.heap.size, 4, none⟩ = some (.int .i64 i4) := HX5.out.cell 4
      have x5 : w5.cell? ⟨w.heap.size, 5, none⟩ = some (.int .i64 i5) := HX5.out.cell 5
      have x6 : w5.cell? ⟨w.heap.size, 6, none⟩ = some (.slice ca nc cc) := HX5.out.cell 6
      have x7 : w5.cell? ⟨w.heap.size, 7, none⟩ = some (.int .i64 i7) := HX5.out.cell 7
      have x8 : w5.cell? ⟨w.heap.size, 8, none⟩ = some (.int .i64 i8) := HX5.out.cell 8
      have x9 : w5.cell? ⟨w.heap.size, 9, none⟩ = some (.slice ba nb bc) := HX5.out.cell 9
      have y0 : w5.cell? ⟨w.heap.size + 1, 0, none⟩ = some (.int .i64 j0) := HY5.out.cell 0
      have y1 : w5.cell? ⟨w.heap.size + 1, 1, none⟩ = some (.int .i64 j1) := HY5.out.cell 1
      have y2 : w5.cell? ⟨w.heap.size + 1, 2, none⟩ = some (.string t) := HY5.out.cell 2
      have y3 : w5.cell? ⟨w.heap.size + 1, 3, none⟩ = some (.int .i64 j3) := HY5.out.cell 3
      have y4 : w5.cell? ⟨w.heap.size + 1, 4, none⟩ = some (.int .i64 j4) := HY5.out.cell 4
      have y5 : w5.cell? ⟨w.heap.size + 1, 5, none⟩ = some (.int .i64 j5) := HY5.out.cell 5
      have y6 : w5.cell? ⟨w.heap.size + 1, 6, none⟩ = some (.slice cb nd cd) := HY5.out.cell 6
      have y7 : w5.cell? ⟨w.heap.size + 1, 7, none⟩ = some (.int .i64 j7) := HY5.out.cell 7
      have y8 : w5.cell? ⟨w.heap.size + 1, 8, none⟩ = some (.int .i64 j8) := HY5.out.cell 8
      have y9 : w5.cell? ⟨w.heap.size + 1, 9, none⟩ = some (.slice bb ne bd) := HY5.out.cell 9
      have z0 : w5.cell? ⟨w.heap.size + 2, 0, none⟩ = some (.string ai) := HZ5.out.cell 0
      have z1 : w5.cell? ⟨w.heap.size + 2, 1, none⟩ = some (.int .i64 a1) := HZ5.out.cell 1
      have z2 : w5.cell? ⟨w.heap.size + 2, 2, none⟩ = some (.int .i64 a2) := HZ5.out.cell 2
      have z3 : w5.cell? ⟨w.heap.size + 2, 3, none⟩ = some (.int .i64 m) := HZ5.out.cell 3
      have z4 : w5.cell? ⟨w.heap.size + 2, 4, none⟩ = some (.string ac) := HZ5.out.cell 4
      go_wp2_with (go_at_call 9; refine (K9.out _).mono ?_; rintro e wz ⟨rfl, HBz⟩; have Kz : Hid (Below w.heap.size w wz) := HB5.out.trans (HBz.mono HB5.out.size); clear HBz)
      go_ret
      exact ⟨rfl, Kz.out⟩
    | true =>
      have hf2 : f2 = true := hf rfl rfl
      subst hf2
      clear hf
      go_wp2_with fail
      refine (H13.out _ HB2.out).mono ?_
      rintro e w3 ⟨rfl, hb⟩
      have HX3 : Hid (Bx w3 w.heap.size #[.int .i64 i0, .int .i64 i1, .string s, .int .i64 i3, .int .i64 i4, .int .i64 i5, .slice ca nc cc, .int .i64 i7, .int .i64 i8, .slice ba nb bc] 25) := HX2.out.keep hb.out
      have HY3 : Hid (Bx w3 (w.heap.size + 1) #[.int .i64 j0, .int .i64 j1, .string t, .int .i64 j3, .int .i64 j4, .int .i64 j5, .slice cb nd cd, .int .i64 j7, .int .i64 j8, .slice bb ne bd] 25) := HY2.out.keep hb.out
      have HZ3 : Hid (Bx w3 (w.heap.size + 2) #[.string ai, .int .i64 a1, .int .i64 a2, .int .i64 m, .string ac] 27) := HZ2.out.keep hb.out
      have HB3 : Hid (Below w.heap.size w w3) := HB2.out.trans (hb.out.mono HB2.out.size)
      clear x0 x1 x2 x3 x4 x5 x6 x7 x8 x9 y0 y1 y2 y3 y4 y5 y6 y7 y8 y9 z0 z1 z2 z3 z4 HX2 HY2 HZ2 HB2 hb H13
      have x0 : w3.cell? ⟨w.heap.size, 0, none⟩ = some (.int .i64 i0) := HX3.out.cell 0
      have x1 : w3.cell? ⟨w.heap.size, 1, none⟩ = some (.int .i64 i1) := HX3.out.cell 1
      have x2 : w3.cell? ⟨w.heap.size, 2, none⟩ = some (.string s) := HX3.out.cell 2
      have x3 : w3.cell? ⟨w.heap.size, 3, none⟩ = some (.int .i64 i3) := HX3.out.cell 3
      have x4 : w3.cell? ⟨w.heap.size, 4, none⟩ = some (.int .i64 i4) := HX3.out.cell 4
      have x5 : w3.cell? ⟨w.heap.size, 5, none⟩ = some (.int .i64 i5) := HX3.out.cell 5
      have x6 : w3.cell? ⟨w.heap.size, 6, none⟩ = some (.slice ca nc cc) := HX3.out.cell 6
      have x7 : w3.cell? ⟨w.heap.size, 7, none⟩ = some (.int .i64 i7) := HX3.out.cell 7
      have x8 : w3.cell? ⟨w.heap.size, 8, none⟩ = some (.int .i64 i8) := HX3.out.cell 8
      have x9 : w3.cell? ⟨w.heap.size, 9, none⟩ = some (.slice ba nb bc) := HX3.out.cell 9
      have y0 : w3.cell? ⟨w.heap.size + 1, 0, none⟩ = some (.int .i64 j0) := HY3.out.cell 0
      have y1 : w3.cell? ⟨w.heap.size + 1, 1, none⟩ = some (.int .i64 j1) := HY3.out.cell 1
      have y2 : w3.cell? ⟨w.heap.size + 1, 2, none⟩ = some (.string t) := HY3.out.cell 2
      have y3 : w3.cell? ⟨w.heap.size + 1, 3, none⟩ = some (.int .i64 j3) := HY3.out.cell 3
      have y4 : w3.cell? ⟨w.heap.size + 1, 4, none⟩ = some (.int .i64 j4) := HY3.out.cell 4
      have y5 : w3.cell? ⟨w.heap.size + 1, 5, none⟩ = some (.int .i64 j5) := HY3.out.cell 5
      have y6 : w3.cell? ⟨w.heap.size + 1, 6, none⟩ = some (.slice cb nd cd) := HY3.out.cell 6
      have y7 : w3.cell? ⟨w.heap.size + 1, 7, none⟩ = some (.int .i64 j7) := HY3.out.cell 7
      have y8 : w3.cell? ⟨w.heap.size + 1, 8, none⟩ = some (.int .i64 j8) := HY3.out.cell 8
      have y9 : w3.cell? ⟨w.heap.size + 1, 9, none⟩ = some (.slice bb ne bd) := HY3.out.cell 9
      have z0 : w3.cell? ⟨w.heap.size + 2, 0, none⟩ = some (.string ai) := HZ3.out.cell 0
      have z1 : w3.cell? ⟨w.heap.size + 2, 1, none⟩ = some (.int .i64 a1) := HZ3.out.cell 1
      have z2 : w3.cell? ⟨w.heap.size + 2, 2, none⟩ = some (.int .i64 a2) := HZ3.out.cell 2
      have z3 : w3.cell? ⟨w.heap.size + 2, 3, none⟩ = some (.int .i64 m) := HZ3.out.cell 3
      have z4 : w3.cell? ⟨w.heap.size + 2, 4, none⟩ = some (.string ac) := HZ3.out.cell 4
      go_wp2_with fail
      refine (H12.out _ HB3.out).mono ?_
      rintro e w4 ⟨rfl, hb⟩
      have HX4 : Hid (Bx w4 w.heap.size #[.int .i64 i0, .int .i64 i1, .string s, .int .i64 i3, .int .i64 i4, .int .i64 i5, .slice ca nc cc, .int .i64 i7, .int .i64 i8, .slice ba nb bc] 25) := HX3.out.keep hb.out
      have HY4 : Hid (Bx w4 (w.heap.size + 1) #[.int .i64 j0, .int .i64 j1, .string t, .int .i64 j3, .int .i64 j4, .int .i64 j5, .slice cb nd cd, .int .i64 j7, .int .i64 j8, .slice bb ne bd] 25) := HY3.out.keep hb.out
      have HZ4 : Hid (Bx w4 (w.heap.size + 2) #[.string ai, .int .i64 a1, .int .i64 a2, .int .i64 m, .string ac] 27) := HZ3.out.keep hb.out
      have HB4 : Hid (Below w.heap.size w w4) := HB3.out.trans (hb.out.mono HB3.out.size)
      clear x0 x1 x2 x3 x4 x5 x6 x7 x8 x9 y0 y1 y2 y3 y4 y5 y6 y7 y8 y9 z0 z1 z2 z3 z4 HX3 HY3 HZ3 HB3 hb H12
      have x0 : w4.cell? ⟨w.heap.size, 0, none⟩ = some (.int .i64 i0) := HX4.out.cell 0
      have x1 : w4.cell? ⟨w.heap.size, 1, none⟩ = some (.int .i64 i1) := HX4.out.cell 1
      have x2 : w4.cell? ⟨w.heap.size, 2, none⟩ = some (.string s) := HX4.out.cell 2
      have x3 : w4.cell? ⟨w.heap.size, 3, none⟩ = some (.int .i64 i3) := HX4.out.cell 3
      have x4 : w4.cell? ⟨w.heap.size, 4, none⟩ = some (.int .i64 i4) := HX4.out.cell 4
      have x5 : w4.cell? ⟨w.heap.size, 5, none⟩ = some (.int .i64 i5) := HX4.out.cell 5
      have x6 : w4.cell? ⟨w.heap.size, 6, none⟩ = some (.slice ca nc cc) := HX4.out.cell 6
      have x7 : w4.cell? ⟨w.heap.size, 7, none⟩ = some (.int .i64 i7) := HX4.out.cell 7
      have x8 : w4.cell? ⟨w.heap.size, 8, none⟩ = some (.int .i64 i8) := HX4.out.cell 8
      have x9 : w4.cell? ⟨w.heap.size, 9, none⟩ = some (.slice ba nb bc) := HX4.out.cell 9
      have y0 : w4.cell? ⟨w.heap.size + 1, 0, none⟩ = some (.int .i64 j0) := HY4.out.cell 0
      have y1 : w4.cell? ⟨w.heap.size + 1, 1, none⟩ = some (.int .i64 j1) := HY4.out.cell 1
      have y2 : w4.cell? ⟨w.heap.size + 1, 2, none⟩ = some (.string t) := HY4.out.cell 2
      have y3 : w4.cell? ⟨w.heap.size + 1, 3, none⟩ = some (.int .i64 j3) := HY4.out.cell 3
      have y4 : w4.cell? ⟨w.heap.size + 1, 4, none⟩ = some (.int .i64 j4) := HY4.out.cell 4
      have y5 : w4.cell? ⟨w.heap.size + 1, 5, none⟩ = some (.int .i64 j5) := HY4.out.cell 5
      have y6 : w4.cell? ⟨w.heap.size + 1, 6, none⟩ = some (.slice cb nd cd) := HY4.out.cell 6
      have y7 : w4.cell? ⟨w.heap.size + 1, 7, none⟩ = some (.int .i64 j7) := HY4.out.cell 7
      have y8 : w4.cell? ⟨w.heap.size + 1, 8, none⟩ = some (.int .i64 j8) := HY4.out.cell 8
      have y9 : w4.cell? ⟨w.heap.size + 1, 9, none⟩ = some (.slice bb ne bd) := HY4.out.cell 9
      have z0 : w4.cell? ⟨w.heap.size + 2, 0, none⟩ = some (.string ai) := HZ4.out.cell 0
      have z1 : w4.cell? ⟨w.heap.size + 2, 1, none⟩ = some (.int .i64 a1) := HZ4.out.cell 1
      have z2 : w4.cell? ⟨w.heap.size + 2, 2, none⟩ = some (.int .i64 a2) := HZ4.out.cell 2
      have z3 : w4.cell? ⟨w.heap.size + 2, 3, none⟩ = some (.int .i64 m) := HZ4.out.cell 3
      have z4 : w4.cell? ⟨w.heap.size + 2, 4, none⟩ = some (.string ac) := HZ4.out.cell 4
      go_wp2_with fail
      refine (H12c.out _ HB4.out).mono ?_
      rintro e w5 ⟨rfl, hb⟩
      have HX5 : Hid (Bx w5 w.heap.size #[.int .i64 i0, .int .i64 i1, .string s, .int .i64 i3, .int .i64 i4, .int .i64 i5, .slice ca nc cc, .int .i64 i7, .int .i64 i8, .slice ba nb bc] 25) := HX4.out.keep hb.out
      have HY5 : Hid (Bx w5 (w.heap.size + 1) #[.int .i64 j0, .int .i64 j1, .string t, .int .i64 j3, .int .i64 j4, .int .i64 j5, .slice cb nd cd, .int .i64 j7, .int .i64 j8, .slice bb ne bd] 25) := HY4.out.keep hb.out
      have HZ5 : Hid (Bx w5 (w.heap.size + 2) #[.string ai, .int .i64 a1, .int .i64 a2, .int .i64 m, .string ac] 27) := HZ4.out.keep hb.out
      have HB5 : Hid (Below w.heap.size w w5) := HB4.out.trans (hb.out.mono HB4.out.size)
      clear x0 x1 x2 x3 x4 x5 x6 x7 x8 x9 y0 y1 y2 y3 y4 y5 y6 y7 y8 y9 z0 z1 z2 z3 z4 HX4 HY4 HZ4 HB4 hb H12c
      have x0 : w5.cell? ⟨w.heap.size, 0, none⟩ = some (.int .i64 i0) := HX5.out.cell 0
      have x1 : w5.cell? ⟨w.heap.size, 1, none⟩ = some (.int .i64 i1) := HX5.out.cell 1
      have x2 : w5.cell? ⟨w.heap.size, 2, none⟩ = some (.string s) := HX5.out.cell 2
      have x3 : w5.cell? ⟨w.heap.size, 3, none⟩ = some (.int .i64 i3) := HX5.out.cell 3
      have x4 : w5.cell? ⟨w.heap.size, 4, none⟩ = some (.int .i64 i4) := HX5.out.cell 4
      have x5 : w5.cell? ⟨w.heap.size, 5, none⟩ = some (.int .i64 i5) := HX5.out.cell 5
      have x6 : w5.cell? ⟨w.heap.size, 6, none⟩ = some (.slice ca nc cc) := HX5.out.cell 6
      have x7 : w5.cell? ⟨w.heap.size, 7, none⟩ = some (.int .i64 i7) := HX5.out.cell 7
      have x8 : w5.cell? ⟨w.heap.size, 8, none⟩ = some (.int .i64 i8) := HX5.out.cell 8
      have x9 : w5.cell? ⟨w.heap.size, 9, none⟩ = some (.slice ba nb bc) := HX5.out.cell 9
      have y0 : w5.cell? ⟨w.heap.size + 1, 0, none⟩ = some (.int .i64 j0) := HY5.out.cell 0
      have y1 : w5.cell? ⟨w.heap.size + 1, 1, none⟩ = some (.int .i64 j1) := HY5.out.cell 1
      have y2 : w5.cell? ⟨w.heap.size + 1, 2, none⟩ = some (.string t) := HY5.out.cell 2
      have y3 : w5.cell? ⟨w.heap.size + 1, 3, none⟩ = some (.int .i64 j3) := HY5.out.cell 3
      have y4 : w5.cell? ⟨w.heap.size + 1, 4, none⟩ = some (.int .i64 j4) := HY5.out.cell 4
      have y5 : w5.cell? ⟨w.heap.size + 1, 5, none⟩ = some (.int .i64 j5) := HY5.out.cell 5
      have y6 : w5.cell? ⟨w.heap.size + 1, 6, none⟩ = some (.slice cb nd cd) := HY5.out.cell 6
      have y7 : w5.cell? ⟨w.heap.size + 1, 7, none⟩ = some (.int .i64 j7) := HY5.out.cell 7
      have y8 : w5.cell? ⟨w.heap.size + 1, 8, none⟩ = some (.int .i64 j8) := HY5.out.cell 8
      have y9 : w5.cell? ⟨w.heap.size + 1, 9, none⟩ = some (.slice bb ne bd) := HY5.out.cell 9
      have z0 : w5.cell? ⟨w.heap.size + 2, 0, none⟩ = some (.string ai) := HZ5.out.cell 0
      have z1 : w5.cell? ⟨w.heap.size + 2, 1, none⟩ = some (.int .i64 a1) := HZ5.out.cell 1
      have z2 : w5.cell? ⟨w.heap.size + 2, 2, none⟩ = some (.int .i64 a2) := HZ5.out.cell 2
      have z3 : w5.cell? ⟨w.heap.size + 2, 3, none⟩ = some (.int .i64 m) := HZ5.out.cell 3
      have z4 : w5.cell? ⟨w.heap.size + 2, 4, none⟩ = some (.string ac) := HZ5.out.cell 4
      go_wp2_with fail
      refine (H13b.out _ HB5.out).mono ?_
      rintro e w6 ⟨rfl, hb⟩
      have HX6 : Hid (Bx w6 w.heap.size #[.int .i64 i0, .int .i64 i1, .string s, .int .i64 i3, .int .i64 i4, .int .i64 i5, .slice ca nc cc, .int .i64 i7, .int .i64 i8, .slice ba nb bc] 25) := HX5.out.keep hb.out
      have HY6 : Hid (Bx w6 (w.heap.size + 1) #[.int .i64 j0, .int .i64 j1, .string t, .int .i64 j3, .int .i64 j4, .int .i64 j5, .slice cb nd cd, .int .i64 j7, .int .i64 j8, .slice bb ne bd] 25) := HY5.out.keep hb.out
      have HZ6 : Hid (Bx w6 (w.heap.size + 2) #[.string ai, .int .i64 a1, .int .i64 a2, .int .i64 m, .string ac] 27) := HZ5.out.keep hb.out
      have HB6 : Hid (Below w.heap.size w w6) := HB5.out.trans (hb.out.mono HB5.out.size)
      clear x0 x1 x2 x3 x4 x5 x6 x7 x8 x9 y0 y1 y2 y3 y4 y5 y6 y7 y8 y9 z0 z1 z2 z3 z4 HX5 HY5 HZ5 HB5 hb H13b
      have x0 : w6.cell? ⟨w.heap.size, 0, none⟩ = some (.int .i64 i0) := HX6.out.cell 0
      have x1 : w6.cell? ⟨w.heap.size, 1, none⟩ = some (.int .i64 i1) := HX6.out.cell 1
      have x2 : w6.cell? ⟨w.heap.size, 2, none⟩ = some (.string s) := HX6.out.cell 2
      have x3 : w6.cell? ⟨w.heap.size, 3, none⟩ = some (.int .i64 i3) := HX6.out.cell 3
      have x4 : w6.cell? ⟨w.heap.size, 4, none⟩ = some (.int .i64 i4) := HX6.out.cell 4
      have x5 : w6.cell? ⟨w.heap.size, 5, none⟩ = some (.int .i64 i5) := HX6.out.cell 5
      have x6 : w6.cell? ⟨w.heap.size, 6, none⟩ = some (.slice ca nc cc) := HX6.out.cell 6
      have x7 : w6.cell? ⟨w.heap.size, 7, none⟩ = some (.int .i64 i7) := HX6.out.cell 7
      have x8 : w6.cell? ⟨w.heap.size, 8, none⟩ = some (.int .i64 i8) := HX6.out.cell 8
      have x9 : w6.cell? ⟨w.heap.size, 9, none⟩ = some (.slice ba nb bc) := HX6.out.cell 9
      have y0 : w6.cell? ⟨w.heap.size + 1, 0, none⟩ = some (.int .i64 j0) := HY6.out.cell 0
      have y1 : w6.cell? ⟨w.heap.size + 1, 1, none⟩ = some (.int .i64 j1) := HY6.out.cell 1
      have y2 : w6.cell? ⟨w.heap.size + 1, 2, none⟩ = some (.string t) := HY6.out.cell 2
      have y3 : w6.cell? ⟨w.heap.size + 1, 3, none⟩ = some (.int .i64 j3) := HY6.out.cell 3
      have y4 : w6.cell? ⟨w.heap.size + 1, 4, none⟩ = some (.int .i64 j4) := HY6.out.cell 4
      have y5 : w6.cell? ⟨w.heap.size + 1, 5, none⟩ = some (.int .i64 j5) := HY6.out.cell 5
      have y6 : w6.cell? ⟨w.heap.size + 1, 6, none⟩ = some (.slice cb nd cd) := HY6.out.cell 6
      have y7 : w6.cell? ⟨w.heap.size + 1, 7, none⟩ = some (.int .i64 j7) := HY6.out.cell 7
      have y8 : w6.cell? ⟨w.heap.size + 1, 8, none⟩ = some (.int .i64 j8) := HY6.out.cell 8
      have y9 : w6.cell? ⟨w.heap.size + 1, 9, none⟩ = some (.slice bb ne bd) := HY6.out.cell 9
      have z0 : w6.cell? ⟨w.heap.size + 2, 0, none⟩ = some (.string ai) := HZ6.out.cell 0
      have z1 : w6.cell? ⟨w.heap.size + 2, 1, none⟩ = some (.int .i64 a1) := HZ6.out.cell 1
      have z2 : w6.cell? ⟨w.heap.size + 2, 2, none⟩ = some (.int .i64 a2) := HZ6.out.cell 2
      have z3 : w6.cell? ⟨w.heap.size + 2, 3, none⟩ = some (.int .i64 m) := HZ6.out.cell 3
      have z4 : w6.cell? ⟨w.heap.size + 2, 4, none⟩ = some (.string ac) := HZ6.out.cell 4
      go_wp2_with (go_at_call 9; refine (K9.out _).mono ?_; rintro e wz ⟨rfl, HBz⟩; have Kz : Hid (Below w.heap.size w wz) := HB6.out.trans (HBz.mono HB6.out.size); clear HBz)
      go_ret
      exact ⟨rfl, Kz.out⟩
theorem bk_len {b : Bk} (h : bkE C0 b = 0) : b.bar.length ≤ 1000000 ∧ 0 ≤ b.least := by
  have := cur_len h
  omega
theorem ltakes (x y : Bm) (a : As) (d : Int) (w : World) (hx : Ha w.heap.size w x) (hy : Ha w.heap.size w y) (lx : x.b.cuts.length ≤ 9223372036854775807 ∧ x.b.bar.length ≤ 9223372036854775807) (ly : y.b.cuts.length ≤ 9223372036854775807 ∧ y.b.bar.length ≤ 9223372036854775807) : Calls Try.prog 3 #[.agg (bcs x).toArray, .agg (bcs y).toArray, .agg (acs a), .int .i64 d] w (OkP w) :=
  ltakes0 x.b.id x.b.ver x.b.rat x.b.least x.b.most x.b.iss x.b.ass y.b.id y.b.ver y.b.rat y.b.least y.b.most y.b.iss y.b.ass ⟨x.b.cur.toArray⟩ ⟨y.b.cur.toArray⟩ x.ca x.ba y.ca y.ba x.b.cuts.length x.cc x.b.bar.length x.bc y.b.cuts.length y.cc y.b.bar.length y.bc a.i a.c a.iss a.rat a.mat d w (bkE C0 x.b) (bkE C0 y.b) (why x.b a d) (wi x.b y.b) (decide (why x.b a d = 0)) (by by_cases h : why x.b a d = 0 <;> simp [h])
    (fun W hW => rBasket x.b x.ca x.ba x.cc x.bc W (hx.on hW (Nat.le_refl _)).1 (hx.on hW (Nat.le_refl _)).2 lx.1 lx.2 _ rfl)
    (fun W hW => rBasket y.b y.ca y.ba y.cc y.bc W (hy.on hW (Nat.le_refl _)).1 (hy.on hW (Nat.le_refl _)).2 ly.1 ly.2 _ rfl)
    (fun e1 _ hm W hW => rwhy x a d hm W (hx.on hW (Nat.le_refl _)) (bk_len e1).1)
    (fun e1 _ hm W hW => xwhy x a d hm W (hx.on hW (Nat.le_refl _)) (bk_len e1).1)
    (fun e1 _ hm W hW => xfits x a d hm W (hx.on hW (Nat.le_refl _)) (bk_len e1).1)
    (fun e1 e2 _ W hW => xwithinA x y W (hx.on hW (Nat.le_refl _)) (hy.on hW (Nat.le_refl _)) (bk_len e1).1 (bk_len e2).1)
    (fun e1 e2 _ W hW => rwithin x y W (hx.on hW (Nat.le_refl _)) (hy.on hW (Nat.le_refl _)) (bk_len e1).1 (bk_len e2).1 (bk_len e1).2 (bk_len e2).2)
theorem lwithin (x y : Bm) (a : As) (d : Int) (w : World) (hx : Ha w.heap.size w x) (hy : Ha w.heap.size w y) (lx : x.b.cuts.length ≤ 9223372036854775807 ∧ x.b.bar.length ≤ 9223372036854775807) (ly : y.b.cuts.length ≤ 9223372036854775807 ∧ y.b.bar.length ≤ 9223372036854775807) : Calls Try.prog 4 #[.agg (bcs x).toArray, .agg (bcs y).toArray, .agg (acs a), .int .i64 d] w (OkP w) :=
  lwithin0 x.b.id x.b.ver x.b.rat x.b.least x.b.most x.b.iss x.b.ass y.b.id y.b.ver y.b.rat y.b.least y.b.most y.b.iss y.b.ass ⟨x.b.cur.toArray⟩ ⟨y.b.cur.toArray⟩ x.ca x.ba y.ca y.ba x.b.cuts.length x.cc x.b.bar.length x.bc y.b.cuts.length y.cc y.b.bar.length y.bc a.i a.c a.iss a.rat a.mat d w (bkE C0 x.b) (bkE C0 y.b) (wi x.b y.b) (decide (why x.b a d = 0)) (decide (why y.b a d = 0)) (fun h1 h2 => decide_eq_true (wi_why h1 (of_decide_eq_true h2)))
    (fun W hW => rBasket x.b x.ca x.ba x.cc x.bc W (hx.on hW (Nat.le_refl _)).1 (hx.on hW (Nat.le_refl _)).2 lx.1 lx.2 _ rfl)
    (fun W hW => rBasket y.b y.ca y.ba y.cc y.bc W (hy.on hW (Nat.le_refl _)).1 (hy.on hW (Nat.le_refl _)).2 ly.1 ly.2 _ rfl)
    (fun e1 e2 _ W hW => xwithinA x y W (hx.on hW (Nat.le_refl _)) (hy.on hW (Nat.le_refl _)) (bk_len e1).1 (bk_len e2).1)
    (fun e1 _ _ W hW => by
      have := xwithinA x x W (hx.on hW (Nat.le_refl _)) (hx.on hW (Nat.le_refl _)) (bk_len e1).1 (bk_len e1).1
      rw [wi_self] at this
      exact this)
    (fun e1 _ hm W hW => xfits x a d hm W (hx.on hW (Nat.le_refl _)) (bk_len e1).1)
    (fun _ e2 hm W hW => xfits y a d hm W (hy.on hW (Nat.le_refl _)) (bk_len e2).1)
end Go.Proofs.Ytmjaijpikbdfkaa
