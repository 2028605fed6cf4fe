/- layer 16: law Nobody -/
import Derived.Test.YtdfadcbchiogjaaNO
import Derived.Test.YtdfadcbchiogjaaNB
import Derived.WalkKit
import Derived.ProofKit
import Derived.Handy
import Derived.WalkLawsBesides
import Derived.WalkSpells
import Derived.BigQuiet
import Derived.BigCall
import Derived.Deep.QuietTactic
import Derived.Deep.Light
import Derived.Deep.OwnRows
import Derived.Laws.AppendOwnNone
import Derived.Laws.Strings3
import Derived.Laws.RangeAny
import Derived.Deep.RegionWith
import Derived.Lib.BitFns
import Derived.Lib.Walk
import Derived.Lib.Strings
import Derived.Lib.OthersKept
import Derived.Deep.CutBlock
import Derived.Deep.DeepCutAuto
import Derived.Deep.LoopGhost
import Derived.Deep.RegionHeld3
import Derived.Lib.SmallJoins
import Derived.Maps.AppendAt
import Derived.Laws.IdiomStrings
import Derived.Lib.AppendZeros
import Derived.Deep.WholeRow
import Derived.Laws.BitsAllLaws
import Derived.Lib.ConvBytes
import Derived.Deep.RegionLaw
import Derived.Maps.OwnSet
import Derived.Maps.OwnOps
import Derived.Maps.RangeWalk
import Derived.Maps.Ext
import Derived.DeepKeys4
import Derived.Laws.StructEq
import Derived.Deep.MidRow
import Derived.Lib.Bytealg
import Derived.Lib.AppendZerosOnto
import Derived.Laws.MakeOwn
import Derived.Deep.Upon
import Derived.Sort.KeysCollected
namespace Go.Proofs.Ytdfadcbchiogjaa
open Go.RowKit
set_option linter.unusedVariables false
set_option linter.unusedSimpArgs false
set_option maxRecDepth 20000
set_option maxHeartbeats 4000000 in
theorem lnobody (x : As) (c : Int) (w : World) : Calls Try.prog 6 #[.agg (acs x).toArray, .int .i64 c] w (OkP w) := by
  obtain ⟨w1, hw1⟩ : ∃ w1, w.alloc (.cells (acs x).toArray 28) = w1 := ⟨_, rfl⟩
  have hX : Bx w1 w.heap.size (acs x).toArray 28 := by rw [← hw1]; exact Bx.new w _ _
  have HB : Hid (Below w.heap.size w w1) := by rw [← hw1]; exact below_a w _
  have HX : Hid (∀ W, Below w1.heap.size w1 W → W.cell? ⟨w.heap.size, 0, none⟩ = some (.string x.i) ∧ W.cell? ⟨w.heap.size, 1, none⟩ = some (.int .i64 x.iss) ∧ W.cell? ⟨w.heap.size, 2, none⟩ = some (.int .i64 x.rat) ∧ W.cell? ⟨w.heap.size, 3, none⟩ = some (.int .i64 x.mat) ∧ W.cell? ⟨w.heap.size, 4, none⟩ = some (.string x.c)) := fun W hb => by
    have := hX.below hb hX.lt
    exact ⟨this.cell 0, this.cell 1, this.cell 2, this.cell 3, this.cell 4⟩
  have HR : Hid (∀ W, Calls Try.prog 14 #[.pointer none, .agg (acs x).toArray] W (RmP 0 W)) := fun W => nroom x W
  have HA : Hid (∀ W, Calls Try.prog 10 #[.pointer none, .agg (acs x).toArray, .int .i64 c] W (RmP 3 W)) := fun W => nadd x c W
  have HT : Hid (∀ W, Calls Try.prog 12 #[.pointer none, .agg (acs x).toArray, .int .i64 c] W (RmP 3 W)) := fun W => ntake x c W
  have HS : Hid (∀ W, Calls Try.prog 16 #[.pointer none] W (RmP 0 W)) := fun W => nsum W
  have HO : Hid (∀ W, Calls Try.prog 17 #[.pointer none] W (RmP 0 W)) := fun W => nopen W
  have HU : Hid (∀ W, Calls Try.prog 20 #[.pointer none] W (fun e w' => e = .returned (.slice none 0 0) ∧ W = w')) := fun W => nuses W
  have HK : Hid (∀ W, Calls Try.prog 22 #[] W (OkP W)) := fun W => xawake W
  obtain ⟨x0, x1, x2, x3, x4⟩ := HX.out w1 (Below.refl _ _)
  obtain ⟨i, iss, rat, mat, cc⟩ := x
  simp only [acs] at *
  clear hX
  go_enter Try.func6, Try.ntmps6
  go_wp2_with (first
    | (go_at_call 14; refine (HR.out _).mono ?_; clear HR; rintro e w2 ⟨rfl, b2⟩; have B2 : Hid (Below w1.heap.size w1 w2) := b2; clear b2; obtain ⟨y0, y1, y2, y3, y4⟩ := HX.out w2 B2.out)
    | (go_at_call 10; refine (HA.out _).mono ?_; clear HA; rintro e w3 ⟨rfl, b3⟩; have B3 : Hid (Below w1.heap.size w1 w3) := B2.out.trans (b3.mono B2.out.size); clear b3 B2; obtain ⟨z0, z1, z2, z3, z4⟩ := HX.out w3 B3.out)
    | (go_at_call 12; refine (HT.out _).mono ?_; clear HT; rintro e w4 ⟨rfl, b4⟩; have B4 : Hid (Below w1.heap.size w1 w4) := B3.out.trans (b4.mono B3.out.size); clear b4 B3)
    | (go_at_call 16; refine (HS.out _).mono ?_; clear HS; rintro e w5 ⟨rfl, b5⟩; have B5 : Hid (Below w1.heap.size w1 w5) := B4.out.trans (b5.mono B4.out.size); clear b5 B4)
    | (go_at_call 17; refine (HO.out _).mono ?_; clear HO; rintro e w6 ⟨rfl, b6⟩; have B6 : Hid (Below w1.heap.size w1 w6) := B5.out.trans (b6.mono B5.out.size); clear b6 B5)
    | (go_at_call 20; refine (HU.out _).mono ?_; clear HU; rintro e w7 ⟨rfl, rfl⟩)
    | (go_at_call 22; refine (HK.out _).mono ?_; clear HK; rintro e w8 ⟨rfl, b8⟩; have B8 : Hid (Below w1.heap.size w1 w8) := B6.out.trans (b8.mono B6.out.size); clear b8 B6))
  go_ret
  exact ⟨rfl, HB.out.trans (B8.out.mono HB.out.size)⟩
end Go.Proofs.Ytdfadcbchiogjaa
