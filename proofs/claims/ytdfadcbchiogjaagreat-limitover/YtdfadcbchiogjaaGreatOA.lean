/- layer 16: the document's New -/
import Derived.Test.YtdfadcbchiogjaaGreatNY
import Derived.WalkKit
import Derived.ProofKit
import Derived.Handy
import Derived.WalkLawsBesides
import Derived.WalkSpells
import Derived.BigQuiet
import Derived.BigCall
import Derived.Deep.QuietTactic
import Derived.Deep.Light
import Derived.Deep.OwnRows
import Derived.Laws.AppendOwnNone
import Derived.Laws.Strings3
import Derived.Laws.RangeAny
import Derived.Deep.RegionWith
import Derived.Lib.BitFns
import Derived.Lib.Walk
import Derived.Lib.Strings
import Derived.Lib.OthersKept
import Derived.Deep.CutBlock
import Derived.Deep.DeepCutAuto
import Derived.Deep.LoopGhost
import Derived.Deep.RegionHeld3
import Derived.Lib.SmallJoins
import Derived.Maps.AppendAt
import Derived.Laws.IdiomStrings
import Derived.Lib.AppendZeros
import Derived.Deep.WholeRow
import Derived.Laws.BitsAllLaws
import Derived.Lib.ConvBytes
import Derived.Deep.RegionLaw
import Derived.Maps.OwnSet
import Derived.Maps.OwnOps
import Derived.Maps.RangeWalk
import Derived.Maps.Ext
import Derived.DeepKeys4
import Derived.Laws.StructEq
import Derived.Deep.MidRow
import Derived.Lib.Bytealg
import Derived.Lib.AppendZerosOnto
import Derived.Laws.MakeOwn
import Derived.Deep.Upon
import Derived.Sort.KeysCollected
namespace Go.Proofs.YtdfadcbchiogjaaGreat
open Go.RowKit
set_option linter.unusedVariables false
set_option linter.unusedSimpArgs false
set_option maxRecDepth 20000
open N1
def RnP (n i a E : Int) (w : World) (e : Ending) (w' : World) : Prop := e = .returned (.tuple #[.agg #[.int .i64 n, .int .i64 i, .int .i64 a, .slice none 0 0], .int .i64 E]) ∧ Hid (Below w.heap.size w w')
theorem rnew_fin {w W : World} (x : Bq) (n i a : Int) (hX : Bx W (w.heap.size + 1) #[.int .i64 0, .int .i64 0, .int .i64 0, .slice none 0 0] 65) (hb : Below w.heap.size w W) (E : Int) :
    (loadVar 65 ⟨w.heap.size + 1, 0, none⟩).run Tryz.prog ((((W.setCell ⟨w.heap.size + 1, 0, none⟩ (.int .i64 n)).setCell ⟨w.heap.size + 1, 1, none⟩ (.int .i64 i)).setCell ⟨w.heap.size + 1, 2, none⟩ (.int .i64 a)).setCell ⟨w.heap.size + 1, 3, none⟩ (.slice none 0 0)) = .ok (.agg #[.int .i64 n, .int .i64 i, .int .i64 a, .slice none 0 0]) ((((W.setCell ⟨w.heap.size + 1, 0, none⟩ (.int .i64 n)).setCell ⟨w.heap.size + 1, 1, none⟩ (.int .i64 i)).setCell ⟨w.heap.size + 1, 2, none⟩ (.int .i64 a)).setCell ⟨w.heap.size + 1, 3, none⟩ (.slice none 0 0)) ∧
    RnP n i a E w (.returned (.tuple #[.agg #[.int .i64 n, .int .i64 i, .int .i64 a, .slice none 0 0], .int .i64 E])) ((((W.setCell ⟨w.heap.size + 1, 0, none⟩ (.int .i64 n)).setCell ⟨w.heap.size + 1, 1, none⟩ (.int .i64 i)).setCell ⟨w.heap.size + 1, 2, none⟩ (.int .i64 a)).setCell ⟨w.heap.size + 1, 3, none⟩ (.slice none 0 0)) :=
  ⟨load35 (set4 hX), rfl, set4_below hb (by omega)⟩
set_option maxHeartbeats 8000000 in
theorem rnew (x : Bq) (need : Int) (w : World) : Calls Tryz.prog 21 #[.agg (bqs x).toArray, .int .i64 need] w (fun e w' => (OkN need x.iss x.ast → RnP need (prt need x.iss) (prt need x.ast) 0 w e w') ∧ (¬ OkN need x.iss x.ast → RnP 0 0 0 1 w e w')) := by
  by_cases hok : OkN need x.iss x.ast
  · refine Calls.mono (R := RnP need (prt need x.iss) (prt need x.ast) 0 w) ?_ (fun e w' h => ⟨fun _ => h, fun k => absurd hok k⟩)
    obtain ⟨w1, hw1⟩ : ∃ w1, (w.alloc (.cells (bqs x).toArray 25)).alloc (.cells #[.int .i64 0, .int .i64 0, .int .i64 0, .slice none 0 0] 65) = w1 := ⟨_, rfl⟩
    have HB : Hid (Below w.heap.size w w1) := by rw [← hw1]; exact (below_a w _).alloc (by simp) _
    have hX : Bx w1 w.heap.size (bqs x).toArray 25 := by rw [← hw1]; exact (Bx.new w _ _).below (below_a _ _) (by simp)
    have hZ : Bx w1 (w.heap.size + 1) #[.int .i64 0, .int .i64 0, .int .i64 0, .slice none 0 0] 65 := by rw [← hw1]; have := Bx.new (w.alloc (.cells (bqs x).toArray 25)) #[.int .i64 0, .int .i64 0, .int .i64 0, .slice none 0 0] 65; rw [World.size_alloc] at this; exact this
    have HX : Hid (∀ W, Below w1.heap.size w1 W → (W.cell? ⟨w.heap.size, 7, none⟩ = some (.int .i64 x.iss) ∧ W.cell? ⟨w.heap.size, 8, none⟩ = some (.int .i64 x.ast)) ∧ (W.cell? ⟨w.heap.size + 1, 0, none⟩ = some (.int .i64 0) ∧ W.cell? ⟨w.heap.size + 1, 1, none⟩ = some (.int .i64 0) ∧ W.cell? ⟨w.heap.size + 1, 2, none⟩ = some (.int .i64 0) ∧ W.cell? ⟨w.heap.size + 1, 3, none⟩ = some (.slice none 0 0)) ∧
        W.frozen? ⟨w.heap.size + 1, 0, none⟩ = false ∧ W.frozen? ⟨w.heap.size + 1, 1, none⟩ = false ∧ W.frozen? ⟨w.heap.size + 1, 2, none⟩ = false ∧ W.frozen? ⟨w.heap.size + 1, 3, none⟩ = false) := fun W hb => by
      have k1 := hX.below hb hX.lt
      have k3 := hZ.below hb hZ.lt
      exact ⟨⟨k1.cell 7, k1.cell 8⟩, ⟨k3.cell 0, k3.cell 1, k3.cell 2, k3.cell 3⟩, k3.froz 0, k3.froz 1, k3.froz 2, k3.froz 3⟩
    have hmd : ∀ b, 0 ≤ b ∧ b ≤ 1000000 → ∃ E : Int, ∀ W, Calls Tryz.prog 31 #[.int .i64 need, .int .i64 b, .int .i64 1000000, .int .i64 1] W fun e w' => e = .returned (.tuple #[.int .i64 (prt need b), .int .i64 E]) ∧ Below W.heap.size W w' := fun b hb => by
      refine ⟨mdE need b 1000000 1, fun W => ?_⟩
      have H := rmuldiv need b 1000000 1 (by have := hok.1; omega) (by omega) (by omega) W
      have e1 : mdS need b 1000000 1 = prt need b := part_md need b 1000000 (by have := hok.1; omega) hb (by omega)
      unfold MulDivPost at H
      rwa [e1] at H
    obtain ⟨E1, h1⟩ := hmd x.iss hok.2.1
    obtain ⟨E2, h2⟩ := hmd x.ast hok.2.2
    have HM1 : Hid (∀ W, Calls Tryz.prog 31 #[.int .i64 need, .int .i64 x.iss, .int .i64 1000000, .int .i64 1] W fun e w' => e = .returned (.tuple #[.int .i64 (prt need x.iss), .int .i64 E1]) ∧ Below W.heap.size W w') := h1
    have HM2 : Hid (∀ W, Calls Tryz.prog 31 #[.int .i64 need, .int .i64 x.ast, .int .i64 1000000, .int .i64 1] W fun e w' => e = .returned (.tuple #[.int .i64 (prt need x.ast), .int .i64 E2]) ∧ Below W.heap.size W w') := h2
    have HF : Hid (∀ W, Below w1.heap.size w1 W → _) := fun W hb => rnew_fin (w := w) (W := W) x need (prt need x.iss) (prt need x.ast) (hZ.below hb hZ.lt) (HB.out.trans (hb.mono HB.out.size)) 0
    obtain ⟨⟨x7, x8⟩, ⟨z0, z1, z2, z3⟩, f0, f1, f2, f3⟩ := HX.out w1 (Below.refl _ _)
    have n1 : ¬ need < 0 := by have := hok.1; omega
    have n2 : ¬ 1125899906842624 < need := by have := hok.1; omega
    have n3 : ¬ x.iss < 0 := by have := hok.2.1; omega
    have n4 : ¬ 1000000 < x.iss := by have := hok.2.1; omega
    have n5 : ¬ x.ast < 0 := by have := hok.2.2; omega
    have n6 : ¬ 1000000 < x.ast := by have := hok.2.2; omega
    clear hX hZ hmd h1 h2 hok
    obtain ⟨id, ver, cur, rat, least, most, ca, cn, cc, iss, ast, ba, bn, bc⟩ := x
    simp only [bqs] at *
    generalize prt need iss = P1 at *
    generalize prt need ast = P2 at *
    go_enter Tryz.func21, Tryz.ntmps21
    go_wp2_with (first
      | (go_at_call 31; refine (HM1.out _).mono ?_; clear HM1; rintro e w2 ⟨rfl, b2⟩; have HB2 : Hid (Below w1.heap.size w1 w2) := b2; clear b2 x7 x8 z0 z1 z2 z3 f0 f1 f2 f3; obtain ⟨⟨x7, x8⟩, ⟨z0, z1, z2, z3⟩, f0, f1, f2, f3⟩ := HX.out w2 HB2.out)
      | (go_at_call 31; refine (HM2.out _).mono ?_; clear HM2; rintro e w3 ⟨rfl, b3⟩; have HB3 : Hid (Below w1.heap.size w1 w3) := HB2.out.trans (b3.mono HB2.out.size); clear b3 x7 x8 z0 z1 z2 z3 f0 f1 f2 f3; obtain ⟨⟨x7, x8⟩, ⟨z0, z1, z2, z3⟩, f0, f1, f2, f3⟩ := HX.out w3 HB3.out))
    obtain ⟨q1, q2⟩ := HF.out w3 HB3.out
    refine bodyPost_ret (res_cell2 _ _ 4 65 5 ⟨w.heap.size + 1, 0, none⟩ _ _ _ rfl rfl rfl q1) rfl ?_
    exact q2
  · refine Calls.mono (R := RnP 0 0 0 1 w) ?_ (fun e w' h => ⟨fun k => absurd k hok, fun _ => h⟩)
    obtain ⟨w1, hw1⟩ : ∃ w1, (w.alloc (.cells (bqs x).toArray 25)).alloc (.cells #[.int .i64 0, .int .i64 0, .int .i64 0, .slice none 0 0] 65) = w1 := ⟨_, rfl⟩
    have HB : Hid (Below w.heap.size w w1) := by rw [← hw1]; exact (below_a w _).alloc (by simp) _
    have hX : Bx w1 w.heap.size (bqs x).toArray 25 := by rw [← hw1]; exact (Bx.new w _ _).below (below_a _ _) (by simp)
    have hZ : Bx w1 (w.heap.size + 1) #[.int .i64 0, .int .i64 0, .int .i64 0, .slice none 0 0] 65 := by rw [← hw1]; have := Bx.new (w.alloc (.cells (bqs x).toArray 25)) #[.int .i64 0, .int .i64 0, .int .i64 0, .slice none 0 0] 65; rw [World.size_alloc] at this; exact this
    have HF := hid_in (rnew_fin (w := w) (W := w1) x 0 0 0 hZ HB.out 1)
    have x7 : w1.cell? ⟨w.heap.size, 7, none⟩ = some (.int .i64 x.iss) := hX.cell 7
    have x8 : w1.cell? ⟨w.heap.size, 8, none⟩ = some (.int .i64 x.ast) := hX.cell 8
    have z0 : w1.cell? ⟨w.heap.size + 1, 0, none⟩ = some (.int .i64 0) := hZ.cell 0
    have z1 : w1.cell? ⟨w.heap.size + 1, 1, none⟩ = some (.int .i64 0) := hZ.cell 1
    have z2 : w1.cell? ⟨w.heap.size + 1, 2, none⟩ = some (.int .i64 0) := hZ.cell 2
    have z3 : w1.cell? ⟨w.heap.size + 1, 3, none⟩ = some (.slice none 0 0) := hZ.cell 3
    have f0 : w1.frozen? ⟨w.heap.size + 1, 0, none⟩ = false := hZ.froz 0
    have f1 : w1.frozen? ⟨w.heap.size + 1, 1, none⟩ = false := hZ.froz 1
    have f2 : w1.frozen? ⟨w.heap.size + 1, 2, none⟩ = false := hZ.froz 2
    have f3 : w1.frozen? ⟨w.heap.size + 1, 3, none⟩ = false := hZ.froz 3
    clear hX hZ
    obtain ⟨id, ver, cur, rat, least, most, ca, cn, cc, iss, ast, ba, bn, bc⟩ := x
    simp only [bqs, OkN] at *
    have hcs : need < 0 ∨ (¬ need < 0 ∧ 1125899906842624 < need) ∨ (¬ need < 0 ∧ ¬ 1125899906842624 < need ∧ iss < 0) ∨ (¬ need < 0 ∧ ¬ 1125899906842624 < need ∧ ¬ iss < 0 ∧ 1000000 < iss) ∨ (¬ need < 0 ∧ ¬ 1125899906842624 < need ∧ ¬ iss < 0 ∧ ¬ 1000000 < iss ∧ ast < 0) ∨ (¬ need < 0 ∧ ¬ 1125899906842624 < need ∧ ¬ iss < 0 ∧ ¬ 1000000 < iss ∧ ¬ ast < 0 ∧ 1000000 < ast) := by omega
    clear hok
    rcases hcs with h | ⟨n1, h⟩ | ⟨n1, n2, h⟩ | ⟨n1, n2, n3, h⟩ | ⟨n1, n2, n3, n4, h⟩ | ⟨n1, n2, n3, n4, n5, h⟩
    all_goals
      go_enter Tryz.func21, Tryz.ntmps21
      go_wp2_with fail
      refine bodyPost_ret (res_cell2 _ _ 4 65 5 ⟨w.heap.size + 1, 0, none⟩ _ _ _ rfl rfl rfl HF.out.1) rfl ?_
      exact HF.out.2
end Go.Proofs.YtdfadcbchiogjaaGreat
