/- layer 16: the document's Take -/
import Derived.Test.YtdfadcbchiogjaaNY
import Derived.WalkKit
import Derived.ProofKit
import Derived.Handy
import Derived.WalkLawsBesides
import Derived.WalkSpells
import Derived.BigQuiet
import Derived.BigCall
import Derived.Deep.QuietTactic
import Derived.Deep.Light
import Derived.Deep.OwnRows
import Derived.Laws.AppendOwnNone
import Derived.Laws.Strings3
import Derived.Laws.RangeAny
import Derived.Deep.RegionWith
import Derived.Lib.BitFns
import Derived.Lib.Walk
import Derived.Lib.Strings
import Derived.Lib.OthersKept
import Derived.Deep.CutBlock
import Derived.Deep.DeepCutAuto
import Derived.Deep.LoopGhost
import Derived.Deep.RegionHeld3
import Derived.Lib.SmallJoins
import Derived.Maps.AppendAt
import Derived.Laws.IdiomStrings
import Derived.Lib.AppendZeros
import Derived.Deep.WholeRow
import Derived.Laws.BitsAllLaws
import Derived.Lib.ConvBytes
import Derived.Deep.RegionLaw
import Derived.Maps.OwnSet
import Derived.Maps.OwnOps
import Derived.Maps.RangeWalk
import Derived.Maps.Ext
import Derived.DeepKeys4
import Derived.Laws.StructEq
import Derived.Deep.MidRow
import Derived.Lib.Bytealg
import Derived.Lib.AppendZerosOnto
import Derived.Laws.MakeOwn
import Derived.Deep.Upon
import Derived.Sort.KeysCollected
namespace Go.Proofs.Ytdfadcbchiogjaa
open Go.RowKit
set_option linter.unusedVariables false
set_option linter.unusedSimpArgs false
set_option maxRecDepth 20000
set_option maxHeartbeats 8000000 in
theorem rtake {w : World} {v : Value} {T : Tb} {k : Nat} (h : Lo w v T.L) (g : Good T k) (hk : k ≤ 900) (a : As) {c : Int} (hc : Rng c) : Calls Try.prog 11 #[.agg (rtc T v).toArray, .agg (acs a).toArray, .int .i64 c] w (RaP (T.take a.iss a.i.data.toList c) (tkE T a.iss a.i.data.toList c) w) := by
  obtain ⟨sa, sc, rfl, -⟩ := h.read
  obtain ⟨w1, hw1⟩ : ∃ w1, ((w.alloc (.cells (rtc T (.slice sa T.L.length sc)).toArray 35)).alloc (.cells (acs a).toArray 28)).alloc (.cells #[.int .i64 0, .int .i64 0, .int .i64 0, .slice none 0 0] 35) = w1 := ⟨_, rfl⟩
  have HB : Hid (Below w.heap.size w w1) := by rw [← hw1]; exact ((below_a w _).alloc (by simp) _).alloc (by simp; omega) _
  have hX : Bx w1 w.heap.size (rtc T (.slice sa T.L.length sc)).toArray 35 := by rw [← hw1]; exact ((Bx.new w _ _).below (below_a _ _) (by simp)).below (below_a _ _) (by simp; omega)
  have hY : Bx w1 (w.heap.size + 1) (acs a).toArray 28 := by rw [← hw1]; have := Bx.new (w.alloc (.cells (rtc T (.slice sa T.L.length sc)).toArray 35)) (acs a).toArray 28; rw [World.size_alloc] at this; exact this.below (below_a _ _) (by simp)
  have hZ : Bx w1 (w.heap.size + 1 + 1) #[.int .i64 0, .int .i64 0, .int .i64 0, .slice none 0 0] 35 := by rw [← hw1]; have := Bx.new ((w.alloc (.cells (rtc T (.slice sa T.L.length sc)).toArray 35)).alloc (.cells (acs a).toArray 28)) #[.int .i64 0, .int .i64 0, .int .i64 0, .slice none 0 0] 35; rw [World.size_alloc, World.size_alloc] at this; exact this
  have h1 : Lo w1 (.slice sa T.L.length sc) T.L := h.below HB.out
  have HX : Hid (∀ W, Below w1.heap.size w1 W → (W.cell? ⟨w.heap.size, 0, none⟩ = some (.int .i64 T.need) ∧ W.cell? ⟨w.heap.size, 1, none⟩ = some (.int .i64 T.li) ∧ W.cell? ⟨w.heap.size, 2, none⟩ = some (.int .i64 T.la) ∧ W.cell? ⟨w.heap.size, 3, none⟩ = some (.slice sa T.L.length sc)) ∧
      (W.cell? ⟨w.heap.size + 1, 0, none⟩ = some (.string a.i) ∧ W.cell? ⟨w.heap.size + 1, 1, none⟩ = some (.int .i64 a.iss) ∧ W.cell? ⟨w.heap.size + 1, 2, none⟩ = some (.int .i64 a.rat) ∧ W.cell? ⟨w.heap.size + 1, 3, none⟩ = some (.int .i64 a.mat) ∧ W.cell? ⟨w.heap.size + 1, 4, none⟩ = some (.string a.c)) ∧
      (W.cell? ⟨w.heap.size + 1 + 1, 0, none⟩ = some (.int .i64 0) ∧ W.cell? ⟨w.heap.size + 1 + 1, 1, none⟩ = some (.int .i64 0) ∧ W.cell? ⟨w.heap.size + 1 + 1, 2, none⟩ = some (.int .i64 0) ∧ W.cell? ⟨w.heap.size + 1 + 1, 3, none⟩ = some (.slice none 0 0)) ∧
      W.frozen? ⟨w.heap.size + 1 + 1, 0, none⟩ = false ∧ W.frozen? ⟨w.heap.size + 1 + 1, 1, none⟩ = false ∧ W.frozen? ⟨w.heap.size + 1 + 1, 2, none⟩ = false ∧ W.frozen? ⟨w.heap.size + 1 + 1, 3, none⟩ = false) := fun W hb => by
    have k1 := hX.below hb hX.lt
    have k2 := hY.below hb hY.lt
    have k3 := hZ.below hb hZ.lt
    exact ⟨⟨k1.cell 0, k1.cell 1, k1.cell 2, k1.cell 3⟩, ⟨k2.cell 0, k2.cell 1, k2.cell 2, k2.cell 3, k2.cell 4⟩, ⟨k3.cell 0, k3.cell 1, k3.cell 2, k3.cell 3⟩, k3.froz 0, k3.froz 1, k3.froz 2, k3.froz 3⟩
  have HF : Hid (∀ W (M : List Pt) (E : Int) ya n yc, Below w1.heap.size w1 W → Lo W (.slice ya n yc) M → n = M.length →
      (loadVar 35 ⟨w.heap.size + 1 + 1, 0, none⟩).run Try.prog ((((W.setCell ⟨w.heap.size + 1 + 1, 0, none⟩ (.int .i64 T.need)).setCell ⟨w.heap.size + 1 + 1, 1, none⟩ (.int .i64 T.li)).setCell ⟨w.heap.size + 1 + 1, 2, none⟩ (.int .i64 T.la)).setCell ⟨w.heap.size + 1 + 1, 3, none⟩ (.slice ya n yc)) = .ok (.agg #[.int .i64 T.need, .int .i64 T.li, .int .i64 T.la, .slice ya n yc]) ((((W.setCell ⟨w.heap.size + 1 + 1, 0, none⟩ (.int .i64 T.need)).setCell ⟨w.heap.size + 1 + 1, 1, none⟩ (.int .i64 T.li)).setCell ⟨w.heap.size + 1 + 1, 2, none⟩ (.int .i64 T.la)).setCell ⟨w.heap.size + 1 + 1, 3, none⟩ (.slice ya n yc)) ∧
      RaP { T with L := M } E w (.returned (.tuple #[.agg #[.int .i64 T.need, .int .i64 T.li, .int .i64 T.la, .slice ya n yc], .int .i64 E])) ((((W.setCell ⟨w.heap.size + 1 + 1, 0, none⟩ (.int .i64 T.need)).setCell ⟨w.heap.size + 1 + 1, 1, none⟩ (.int .i64 T.li)).setCell ⟨w.heap.size + 1 + 1, 2, none⟩ (.int .i64 T.la)).setCell ⟨w.heap.size + 1 + 1, 3, none⟩ (.slice ya n yc))) := fun W M E ya n yc hb ho hn => by
    have k3 := hZ.below hb hZ.lt
    exact ⟨load35 (set4 k3), _, rfl, set4_own ho k3 (by decide), set4_below (HB.out.trans (hb.mono HB.out.size)) (by omega)⟩
  have HA : Hid (∀ W, Below w1.heap.size w1 W → Calls Try.prog 29 #[.agg (rtc T (.slice sa T.L.length sc)).toArray, .string a.i] W fun e w' => e = .returned (.int .i64 (smA T.L a.i.data.toList)) ∧ Hid (Below w1.heap.size w1 w')) := fun W hb => (rasset (h1.below hb) T.need T.li T.la a.i (g.tkA (by omega) a.i.data.toList) (by have := g.l; omega)).mono fun e w' hh => ⟨hh.1, hb.trans (hh.2.mono hb.size)⟩
  have HI : Hid (∀ W, Below w1.heap.size w1 W → Calls Try.prog 30 #[.agg (rtc T (.slice sa T.L.length sc)).toArray, .int .i64 a.iss] W fun e w' => e = .returned (.int .i64 (smI T.L a.iss)) ∧ Hid (Below w1.heap.size w1 w')) := fun W hb => (rissuer (h1.below hb) T.need T.li T.la a.iss (g.tkI (by omega) a.iss) (by have := g.l; omega)).mono fun e w' hh => ⟨hh.1, hb.trans (hh.2.mono hb.size)⟩
  have HW : Hid (∀ W, Below w1.heap.size w1 W → Calls Try.prog 26 #[.agg (rtc T (.slice sa T.L.length sc)).toArray, .agg (acs a).toArray, .int .i64 (-c)] W (WiP T.need T.li T.la (T.L ++ [⟨a.iss, a.i.data.toList, -c⟩]) W)) := fun W hb => rwith (h1.below hb) (by have := g.l; omega) a (-c) T.need T.li T.la
  have HL0 : Hid (Lo w1 (.slice sa T.L.length sc) T.L) := h1
  obtain ⟨⟨x0, x1, x2, x3⟩, ⟨y0, y1, y2, y3, y4⟩, ⟨z0, z1, z2, z3⟩, f0, f1, f2, f3⟩ := HX.out w1 (Below.refl _ _)
  have gi := g.i a.iss
  have gli := g.li
  have gne := g.need
  rw [take_eq]
  by_cases h0 : c < 0
  · have he : tkE T a.iss a.i.data.toList c = 1 := by unfold tkE; rw [if_pos h0]
    rw [he]
    simp only [Nat.one_ne_zero, if_false]
    obtain ⟨i, iss, rat, mat, cc⟩ := a
    simp only [acs, rtc] at *
    clear h h1 hX hY hZ g he HA HI HW gi gli gne
    go_enter Try.func11, Try.ntmps11
    go_wp2_with fail
    obtain ⟨q1, q2⟩ := HF.out w1 T.L 1 sa T.L.length sc (Below.refl _ _) HL0.out rfl
    refine bodyPost_ret (res_cell2 _ _ 6 35 7 ⟨w.heap.size + 1 + 1, 0, none⟩ _ _ _ rfl rfl rfl q1) rfl ?_
    exact q2
  · by_cases h2 : smA T.L a.i.data.toList < c
    · have he : tkE T a.iss a.i.data.toList c = 20 := by unfold tkE; rw [if_neg h0, if_pos (.inl h2)]
      rw [he]
      simp only [show ¬ (20 : Nat) = 0 by decide, if_false]
      obtain ⟨i, iss, rat, mat, cc⟩ := a
      simp only [acs, rtc] at *
      clear h h1 hX hY hZ g he HI HW gi gli gne
      generalize smA T.L i.data.toList = R at *
      go_enter Try.func11, Try.ntmps11
      go_wp2_with (go_at_call 29; refine (HA.out w1 (Below.refl _ _)).mono ?_; clear HA; rintro e w2 ⟨rfl, HB2⟩; clear x0 x1 x2 x3 y0 y1 y2 y3 y4 z0 z1 z2 z3 f0 f1 f2 f3; obtain ⟨⟨x0, x1, x2, x3⟩, ⟨y0, y1, y2, y3, y4⟩, ⟨z0, z1, z2, z3⟩, f0, f1, f2, f3⟩ := HX.out w2 HB2.out)
      obtain ⟨q1, q2⟩ := HF.out w2 T.L 20 sa T.L.length sc HB2.out (HL0.out.below HB2.out) rfl
      refine bodyPost_ret (res_cell2 _ _ 6 35 7 ⟨w.heap.size + 1 + 1, 0, none⟩ _ _ _ rfl rfl rfl q1) rfl ?_
      exact q2
    · by_cases h3 : smI T.L a.iss < c
      · have he : tkE T a.iss a.i.data.toList c = 20 := by unfold tkE; rw [if_neg h0, if_pos (.inr h3)]
        rw [he]
        simp only [show ¬ (20 : Nat) = 0 by decide, if_false]
        obtain ⟨i, iss, rat, mat, cc⟩ := a
        simp only [acs, rtc] at *
        clear h h1 hX hY hZ g he HW gi gli gne
        generalize smA T.L i.data.toList = R at *
        generalize smI T.L iss = R2 at *
        go_enter Try.func11, Try.ntmps11
        go_wp2_with (first | (go_at_call 29; refine (HA.out w1 (Below.refl _ _)).mono ?_; clear HA; rintro e w2 ⟨rfl, HB2⟩; clear x0 x1 x2 x3 y0 y1 y2 y3 y4 z0 z1 z2 z3 f0 f1 f2 f3; obtain ⟨⟨x0, x1, x2, x3⟩, ⟨y0, y1, y2, y3, y4⟩, ⟨z0, z1, z2, z3⟩, f0, f1, f2, f3⟩ := HX.out w2 HB2.out) | (go_at_call 30; refine (HI.out w2 HB2.out).mono ?_; clear HI; rintro e w3 ⟨rfl, HB3⟩; clear x0 x1 x2 x3 y0 y1 y2 y3 y4 z0 z1 z2 z3 f0 f1 f2 f3; obtain ⟨⟨x0, x1, x2, x3⟩, ⟨y0, y1, y2, y3, y4⟩, ⟨z0, z1, z2, z3⟩, f0, f1, f2, f3⟩ := HX.out w3 HB3.out))
        obtain ⟨q1, q2⟩ := HF.out w3 T.L 20 sa T.L.length sc HB3.out (HL0.out.below HB3.out) rfl
        refine bodyPost_ret (res_cell2 _ _ 6 35 7 ⟨w.heap.size + 1 + 1, 0, none⟩ _ _ _ rfl rfl rfl q1) rfl ?_
        exact q2
      · have he : tkE T a.iss a.i.data.toList c = 0 := by unfold tkE; rw [if_neg h0, if_neg (by omega)]
        rw [he]
        simp only [if_true]
        have hn1 : wrap64 (0 - c) = -c := by unfold wrap64; omega
        have hn2 : wrap64 (-c) = -c := by unfold wrap64; omega
        obtain ⟨i, iss, rat, mat, cc⟩ := a
        simp only [acs, rtc] at *
        unfold Tb.more
        generalize hM : T.L ++ [(⟨iss, i.data.toList, -c⟩ : Pt)] = M at *
        clear h h1 hX hY hZ g he hM gi gli gne
        generalize smA T.L i.data.toList = R at *
        generalize smI T.L iss = R2 at *
        go_enter Try.func11, Try.ntmps11
        go_wp2_with (first | (go_at_call 29; refine (HA.out w1 (Below.refl _ _)).mono ?_; clear HA; rintro e w2 ⟨rfl, HB2⟩; clear x0 x1 x2 x3 y0 y1 y2 y3 y4 z0 z1 z2 z3 f0 f1 f2 f3; obtain ⟨⟨x0, x1, x2, x3⟩, ⟨y0, y1, y2, y3, y4⟩, ⟨z0, z1, z2, z3⟩, f0, f1, f2, f3⟩ := HX.out w2 HB2.out) | (go_at_call 30; refine (HI.out w2 HB2.out).mono ?_; clear HI; rintro e w3 ⟨rfl, HB3⟩; clear x0 x1 x2 x3 y0 y1 y2 y3 y4 z0 z1 z2 z3 f0 f1 f2 f3; obtain ⟨⟨x0, x1, x2, x3⟩, ⟨y0, y1, y2, y3, y4⟩, ⟨z0, z1, z2, z3⟩, f0, f1, f2, f3⟩ := HX.out w3 HB3.out) | (go_at_call 26; refine (HW.out w3 HB3.out).mono ?_; clear HW; rintro e w4 ⟨v4, rfl, HV⟩; obtain ⟨ya, yc, rfl, -⟩ := own_read HV.out.1 HV.out.1.1; have HB4 : Hid (Below w1.heap.size w1 w4) := HB3.out.trans (HV.out.2.mono HB3.out.size); clear x0 x1 x2 x3 y0 y1 y2 y3 y4 z0 z1 z2 z3 f0 f1 f2 f3; obtain ⟨⟨x0, x1, x2, x3⟩, ⟨y0, y1, y2, y3, y4⟩, ⟨z0, z1, z2, z3⟩, f0, f1, f2, f3⟩ := HX.out w4 HB4.out))
        obtain ⟨q1, q2⟩ := HF.out w4 M 0 ya M.length yc HB4.out HV.out.1 rfl
        refine bodyPost_ret (res_cell2 _ _ 6 35 7 ⟨w.heap.size + 1 + 1, 0, none⟩ _ _ _ rfl rfl rfl q1) rfl ?_
        exact q2
end Go.Proofs.Ytdfadcbchiogjaa
