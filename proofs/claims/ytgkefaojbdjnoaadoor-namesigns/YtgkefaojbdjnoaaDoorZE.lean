/- What the chapter tells by cases: the walk of awake. Condition: the library's table of blanks is as it was laid. -/
import Derived.Test.YtgkefaojbdjnoaaDoorZD
import Derived.WalkKit
import Derived.ProofKit
import Derived.Handy
import Derived.WalkLawsBesides
import Derived.WalkSpells
import Derived.BigQuiet
import Derived.BigCall
import Derived.Deep.QuietTactic
import Derived.Deep.Light
import Derived.Deep.OwnRows
import Derived.Laws.AppendOwnNone
import Derived.Laws.Strings3
import Derived.Laws.RangeAny
import Derived.Deep.RegionWith
import Derived.Lib.BitFns
import Derived.Lib.Walk
import Derived.Lib.Strings
import Derived.Lib.OthersKept
import Derived.Deep.CutBlock
import Derived.Deep.DeepCutAuto
import Derived.Deep.LoopGhost
import Derived.Deep.RegionHeld3
import Derived.Lib.SmallJoins
import Derived.Maps.AppendAt
import Derived.Laws.IdiomStrings
namespace Go.Proofs.YtgkefaojbdjnoaaDoor
open Go.RowKit
set_option linter.unusedVariables false
set_option linter.unusedSimpArgs false
set_option maxRecDepth 100000 in
theorem ex1 : chk [66, 97, 110, 107, 32, 38, 32, 67, 111] = (9, 0) := by decide +kernel
set_option maxRecDepth 100000 in
theorem ex2 : plain [77, 195, 188, 108, 108, 101, 114, 45, 195, 150, 108] = [77, 85, 69, 76, 76, 69, 82, 32, 79, 69, 76] := by decide +kernel
set_option maxRecDepth 100000 in
theorem ex3 : short [77, 195, 188, 108, 108, 101, 114, 45, 195, 150, 108] = [77, 79] := by decide +kernel
set_option maxRecDepth 100000 in
theorem ex4 : fitZ [97, 98, 99, 100, 101, 102] 4 = [97, 98, 99, 46] := by decide +kernel
set_option maxRecDepth 100000 in
theorem ex5 : width [228, 184, 173] = 2 := by decide +kernel
/-- A law's end: true, and nothing turned of what was there. -/
def TRUE (w : World) (e : Ending) (w' : World) : Prop := e = .returned (.bool true) ∧ Below w.heap.size w w'
set_option maxRecDepth 100000 in
set_option maxHeartbeats 8000000 in
theorem awake (w : World) (ht : Tab w) : Calls Tryd.prog 11 #[] w (TRUE w) := by
  have HT : Hid (Tab w) := ht
  clear ht
  have C1 : Hid (∀ w, Calls Tryd.prog 9 #[.string ⟨#[66, 97, 110, 107, 32, 38, 32, 67, 111]⟩] w fun e w' => e = .returned (.tuple #[.int .i64 9, .int .i64 0]) ∧ Below w.heap.size w w') := fun w => by
    have h := xcheck ⟨#[66, 97, 110, 107, 32, 38, 32, 67, 111]⟩ (by show 9 ≤ _; omega) w
    have h2 : chk (⟨#[66, 97, 110, 107, 32, 38, 32, 67, 111]⟩ : ByteArray).data.toList = (9, 0) := ex1
    rw [h2] at h
    exact h
  have C2 : Hid (∀ w, Calls Tryd.prog 24 #[.string ⟨#[77, 195, 188, 108, 108, 101, 114, 45, 195, 150, 108]⟩] w fun e w' => e = .returned (.string ⟨#[77, 85, 69, 76, 76, 69, 82, 32, 79, 69, 76]⟩) ∧ Below w.heap.size w w') := fun w => by
    have h := xplains ⟨#[77, 195, 188, 108, 108, 101, 114, 45, 195, 150, 108]⟩ w (by show 11 ≤ _; omega)
    have h2 : plain (⟨#[77, 195, 188, 108, 108, 101, 114, 45, 195, 150, 108]⟩ : ByteArray).data.toList = [77, 85, 69, 76, 76, 69, 82, 32, 79, 69, 76] := ex2
    rw [h2] at h
    exact h
  have C3 : Hid (∀ w, Tab w → Calls Tryd.prog 26 #[.string ⟨#[77, 195, 188, 108, 108, 101, 114, 45, 195, 150, 108]⟩] w fun e w' => e = .returned (.string ⟨#[77, 79]⟩) ∧ Below w.heap.size w w') := fun w ht => by
    have h := xshort ⟨#[77, 195, 188, 108, 108, 101, 114, 45, 195, 150, 108]⟩ w (by show 11 ≤ _; omega) ht
    have h2 : short (⟨#[77, 195, 188, 108, 108, 101, 114, 45, 195, 150, 108]⟩ : ByteArray).data.toList = [77, 79] := ex3
    rw [h2] at h
    exact h
  have C4 : Hid (∀ w, Calls Tryd.prog 19 #[.string ⟨#[97, 98, 99, 100, 101, 102]⟩, .int .i64 4] w fun e w' => e = .returned (.string ⟨#[97, 98, 99, 46]⟩) ∧ Below w.heap.size w w') := fun w => by
    have h := xfit ⟨#[97, 98, 99, 100, 101, 102]⟩ (by show 6 ≤ _; omega) 4 w
    have h2 : fitZ (⟨#[97, 98, 99, 100, 101, 102]⟩ : ByteArray).data.toList 4 = [97, 98, 99, 46] := ex4
    rw [h2] at h
    exact h
  have C5 : Hid (∀ w, Calls Tryd.prog 15 #[.string ⟨#[228, 184, 173]⟩] w fun e w' => e = .returned (.int .i64 2) ∧ Below w.heap.size w w') := fun w => by
    have h := xwidth ⟨#[228, 184, 173]⟩ (by show 3 ≤ _; omega) w
    have h2 : width (⟨#[228, 184, 173]⟩ : ByteArray).data.toList = 2 := ex5
    rw [h2] at h
    exact h
  go_enter Tryd.func11, Tryd.ntmps11
  go_wp2_with fail
  refine Calls.mono (C1.out _) ?_
  rintro e w1 ⟨rfl, hb1⟩
  go_wp2_with fail
  refine Calls.mono (C2.out _) ?_
  rintro e w2 ⟨rfl, hb2⟩
  go_wp2_with fail
  have HB2 : Hid (Below w.heap.size w w2) := hb1.trans (hb2.mono hb1.size)
  refine Calls.mono (C3.out _ (HT.out.below HB2.out)) ?_
  rintro e w3 ⟨rfl, hb3⟩
  go_wp2_with fail
  refine Calls.mono (C4.out _) ?_
  rintro e w4 ⟨rfl, hb4⟩
  go_wp2_with fail
  refine Calls.mono (C5.out _) ?_
  rintro e w5 ⟨rfl, hb5⟩
  go_wp2_with fail
  go_ret
  have HB3 := HB2.out.trans (hb3.mono HB2.out.size)
  have HB4 := HB3.trans (hb4.mono HB3.size)
  exact ⟨rfl, HB4.trans (hb5.mono HB4.size)⟩
end Go.Proofs.YtgkefaojbdjnoaaDoor
