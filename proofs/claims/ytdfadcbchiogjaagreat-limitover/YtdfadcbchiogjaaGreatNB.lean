/- layer 16: Add, Take of the program; of no table -/
import Derived.Test.YtdfadcbchiogjaaGreatNA
import Derived.WalkKit
import Derived.ProofKit
import Derived.Handy
import Derived.WalkLawsBesides
import Derived.WalkSpells
import Derived.BigQuiet
import Derived.BigCall
import Derived.Deep.QuietTactic
import Derived.Deep.Light
import Derived.Deep.OwnRows
import Derived.Laws.AppendOwnNone
import Derived.Laws.Strings3
import Derived.Laws.RangeAny
import Derived.Deep.RegionWith
import Derived.Lib.BitFns
import Derived.Lib.Walk
import Derived.Lib.Strings
import Derived.Lib.OthersKept
import Derived.Deep.CutBlock
import Derived.Deep.DeepCutAuto
import Derived.Deep.LoopGhost
import Derived.Deep.RegionHeld3
import Derived.Lib.SmallJoins
import Derived.Maps.AppendAt
import Derived.Laws.IdiomStrings
import Derived.Lib.AppendZeros
import Derived.Deep.WholeRow
import Derived.Laws.BitsAllLaws
import Derived.Lib.ConvBytes
import Derived.Deep.RegionLaw
import Derived.Maps.OwnSet
import Derived.Maps.OwnOps
import Derived.Maps.RangeWalk
import Derived.Maps.Ext
import Derived.DeepKeys4
import Derived.Laws.StructEq
import Derived.Deep.MidRow
import Derived.Lib.Bytealg
import Derived.Lib.AppendZerosOnto
import Derived.Laws.MakeOwn
import Derived.Deep.Upon
import Derived.Sort.KeysCollected
namespace Go.Proofs.YtdfadcbchiogjaaGreat
open Go.RowKit
set_option linter.unusedVariables false
set_option linter.unusedSimpArgs false
set_option maxRecDepth 20000
def AdP (p m1 m2 : Nat) (t : Tb) (E : Int) (w : World) (e : Ending) (w' : World) : Prop := e = .returned (.int .i64 E) ∧ Hid (Tm w' p m1 m2 t ∧ Kt m1 m2 w w')
theorem add_eq (t : Tb) (i : Int) (s : List UInt8) (c : Int) : t.add i s c = if addE t i s c = 0 then t.more i s c else t := rfl
theorem take_eq (t : Tb) (i : Int) (s : List UInt8) (c : Int) : t.take i s c = if tkE t i s c = 0 then t.more i s (-c) else t := rfl
theorem xadd {w : World} {p m1 m2 k : Nat} {t : Tb} (h : Tm w p m1 m2 t) (g : Good t k) (hk : k ≤ 1000) {a : As} (ha : Wa a) {c : Int} (hc : Rng c) :
    Calls Tryz.prog 14 #[.pointer (some ⟨p, 0, none⟩), .agg (acs a).toArray, .int .i64 c] w (AdP p m1 m2 (t.add a.iss a.i.data.toList c) (addE t a.iss a.i.data.toList c) w) := by
  obtain ⟨w1, hw1⟩ : ∃ w1, w.alloc (.cells (acs a).toArray 48) = w1 := ⟨_, rfl⟩
  have h1 : Tm w1 p m1 m2 t := by rw [← hw1]; exact h.alloc _
  have hX : Bx w1 w.heap.size (acs a).toArray 48 := by rw [← hw1]; exact Bx.new w _ _
  have hB : Below w.heap.size w w1 := by rw [← hw1]; exact (Below.refl _ w).alloc (Nat.le_refl _) _
  have hsz : w1.heap.size = w.heap.size + 1 := by rw [← hw1]; simp
  have HL : Hid (Calls Tryz.prog 34 #[.pointer (some ⟨p, 0, none⟩)] w1 (BP false w1)) := xlack h1
  have HR : Hid (Calls Tryz.prog 13 #[.pointer (some ⟨p, 0, none⟩), .agg (acs a).toArray] w1 (RmP (t.room a.iss a.i.data.toList) w1)) := xroom h1 g ha
  have hx : ∀ w2, Below w1.heap.size w1 w2 → w2.cell? ⟨w.heap.size, 0, none⟩ = some (.string a.i) ∧ w2.cell? ⟨w.heap.size, 1, none⟩ = some (.int .i64 a.iss) ∧ w2.cell? ⟨w.heap.size, 2, none⟩ = some (.int .i64 a.rat) ∧ w2.cell? ⟨w.heap.size, 3, none⟩ = some (.int .i64 a.mat) ∧ w2.cell? ⟨w.heap.size, 4, none⟩ = some (.string a.c) := fun w2 hb => by
    have := hX.below hb hX.lt
    exact ⟨this.cell 0, this.cell 1, this.cell 2, this.cell 3, this.cell 4⟩
  obtain ⟨x0, x1, x2, x3, x4⟩ := hx w1 (Below.refl _ _)
  rw [add_eq]
  have gr := g.room a.iss a.i.data.toList
  have gi := g.i a.iss
  have ga := g.a a.i.data.toList
  have gn := g.need
  have gl1 := g.li
  have gl2 := g.la
  by_cases h0 : c < 0
  · have he : addE t a.iss a.i.data.toList c = 1 := by unfold addE; rw [if_pos h0]
    rw [he]
    simp only [Nat.one_ne_zero, if_false]
    have HF : Hid (AdP p m1 m2 t (1 : Nat) w (.returned (.int .i64 1)) w1) := ⟨rfl, h1, Kt.of_below hB⟩
    obtain ⟨i, iss, rat, mat, cc⟩ := a
    simp only [acs] at *
    clear h h1 hX hB ha he HR gr gi ga hx
    go_enter Tryz.func14, Tryz.ntmps14
    go_wp2_with (go_at_call 34; refine HL.out.mono ?_; clear HL; rintro e w2 ⟨rfl, rfl⟩)
    go_ret
    exact HF.out
  · by_cases h2 : t.room a.iss a.i.data.toList < c
    · have he : addE t a.iss a.i.data.toList c = 24 := by unfold addE; rw [if_neg h0, if_pos h2]
      rw [he]
      simp only [show ¬ (24 : Nat) = 0 by decide, if_false]
      have HF : Hid (∀ w2, Below w1.heap.size w1 w2 → AdP p m1 m2 t (24 : Nat) w (.returned (.int .i64 24)) w2) := fun w2 hb => ⟨rfl, h1.below hb, (Kt.of_below hB).trans (Kt.of_below hb)⟩
      obtain ⟨i, iss, rat, mat, cc⟩ := a
      simp only [acs] at *
      clear h h1 hX hB ha he gr gi ga hx
      generalize t.room iss i.data.toList = R at *
      go_enter Tryz.func14, Tryz.ntmps14
      go_wp2_with (first | (go_at_call 34; refine HL.out.mono ?_; clear HL; rintro e w2 ⟨rfl, rfl⟩) | (go_at_call 13; refine HR.out.mono ?_; clear HR; rintro e w3 ⟨rfl, hb3⟩))
      go_ret
      exact HF.out _ hb3
    · have he : addE t a.iss a.i.data.toList c = 0 := by unfold addE; rw [if_neg h0, if_neg h2]
      rw [he]
      simp only [if_true]
      have HS : Hid (∀ w2, Below w1.heap.size w1 w2 → w2.cell? ⟨w.heap.size, 0, none⟩ = some (.string a.i) ∧ w2.cell? ⟨w.heap.size, 1, none⟩ = some (.int .i64 a.iss) ∧ w2.cell? ⟨w.heap.size, 2, none⟩ = some (.int .i64 a.rat) ∧ w2.cell? ⟨w.heap.size, 3, none⟩ = some (.int .i64 a.mat) ∧ w2.cell? ⟨w.heap.size, 4, none⟩ = some (.string a.c) ∧
          Calls Tryz.prog 17 #[.pointer (some ⟨p, 0, none⟩), .agg (acs a).toArray, .int .i64 c] w2 fun e w' => e = .returned (.tuple #[]) ∧ Hid (AdP p m1 m2 (t.more a.iss a.i.data.toList c) (0 : Nat) w (.returned (.int .i64 0)) w')) := fun w2 hb => by
        obtain ⟨y0, y1, y2, y3, y4⟩ := hx w2 hb
        refine ⟨y0, y1, y2, y3, y4, (xshift (h1.below hb) (by have := g.l; omega) ha (by unfold Rng; omega) (by unfold Rng; omega)).mono fun e w' hh => ?_⟩
        exact ⟨hh.1, rfl, hh.2.1, ((Kt.of_below hB).trans (Kt.of_below hb)).trans hh.2.2⟩
      obtain ⟨i, iss, rat, mat, cc⟩ := a
      simp only [acs] at *
      clear h h1 hX hB ha he gr gi ga hx
      generalize t.more iss i.data.toList c = T at *
      generalize t.room iss i.data.toList = R at *
      go_enter Tryz.func14, Tryz.ntmps14
      go_wp2_with (first | (go_at_call 34; refine HL.out.mono ?_; clear HL; rintro e w2 ⟨rfl, rfl⟩) | (go_at_call 13; refine HR.out.mono ?_; clear HR; rintro e w3 ⟨rfl, hb3⟩; obtain ⟨y0, y1, y2, y3, y4, HC⟩ := HS.out _ hb3) | (go_at_call 17; refine HC.mono ?_; clear HC; rintro e w4 ⟨rfl, HF⟩))
      go_ret
      exact HF.out
/-- of no table -/
theorem nroom (a : As) (w : World) : Calls Tryz.prog 13 #[.pointer none, .agg (acs a).toArray] w (RmP 0 w) := by
  have HL : Hid (∀ w, Calls Tryz.prog 34 #[.pointer none] w (BP true w)) := fun w => xlack0 w
  have HB : Hid (∀ y, Below w.heap.size w (w.alloc y)) := fun y => (Below.refl _ w).alloc (Nat.le_refl _) _
  obtain ⟨i, iss, rat, mat, cc⟩ := a
  simp only [acs] at *
  go_enter Tryz.func13, Tryz.ntmps13
  go_wp2_with (go_at_call 34; refine (HL.out _).mono ?_; rintro e w2 ⟨rfl, rfl⟩)
  go_ret
  exact ⟨rfl, HB.out _⟩
theorem nadd (a : As) (c : Int) (w : World) : Calls Tryz.prog 14 #[.pointer none, .agg (acs a).toArray, .int .i64 c] w (RmP 3 w) := by
  have HL : Hid (∀ w, Calls Tryz.prog 34 #[.pointer none] w (BP true w)) := fun w => xlack0 w
  have HB : Hid (∀ y, Below w.heap.size w (w.alloc y)) := fun y => (Below.refl _ w).alloc (Nat.le_refl _) _
  obtain ⟨i, iss, rat, mat, cc⟩ := a
  simp only [acs] at *
  go_enter Tryz.func14, Tryz.ntmps14
  go_wp2_with (go_at_call 34; refine (HL.out _).mono ?_; rintro e w2 ⟨rfl, rfl⟩)
  go_ret
  exact ⟨rfl, HB.out _⟩
theorem nsum (w : World) : Calls Tryz.prog 35 #[.pointer none] w (RmP 0 w) := by
  have HL : Hid (∀ w, Calls Tryz.prog 34 #[.pointer none] w (BP true w)) := fun w => xlack0 w
  go_enter Tryz.func35, Tryz.ntmps35
  go_wp2_with (go_at_call 34; refine (HL.out _).mono ?_; rintro e w2 ⟨rfl, rfl⟩)
  go_ret
  exact ⟨rfl, Below.refl _ _⟩
theorem nopen (w : World) : Calls Tryz.prog 15 #[.pointer none] w (RmP 0 w) := by
  have HL : Hid (∀ w, Calls Tryz.prog 34 #[.pointer none] w (BP true w)) := fun w => xlack0 w
  go_enter Tryz.func15, Tryz.ntmps15
  go_wp2_with (go_at_call 34; refine (HL.out _).mono ?_; rintro e w2 ⟨rfl, rfl⟩)
  go_ret
  exact ⟨rfl, Below.refl _ _⟩
theorem nuses (w : World) : Calls Tryz.prog 19 #[.pointer none] w (fun e w' => e = .returned (.slice none 0 0) ∧ w = w') := by
  have HL : Hid (∀ w, Calls Tryz.prog 34 #[.pointer none] w (BP true w)) := fun w => xlack0 w
  go_enter Tryz.func19, Tryz.ntmps19
  go_wp2_with (go_at_call 34; refine (HL.out _).mono ?_; rintro e w2 ⟨rfl, rfl⟩)
  go_ret
  exact ⟨rfl, rfl⟩
end Go.Proofs.YtdfadcbchiogjaaGreat
