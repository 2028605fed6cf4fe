/- layer 14: rules for euros, the chapter's example -/
import Derived.Test.YtmjaijpikbdfkaaIA
import Derived.Test.YtmjaijpikbdfkaaE
import Derived.WalkKit
import Derived.ProofKit
import Derived.Handy
import Derived.WalkLawsBesides
import Derived.WalkSpells
import Derived.BigQuiet
import Derived.BigCall
import Derived.Deep.QuietTactic
import Derived.Deep.Light
import Derived.Deep.OwnRows
import Derived.Laws.AppendOwnNone
import Derived.Laws.Strings3
import Derived.Laws.RangeAny
import Derived.Deep.RegionWith
import Derived.Lib.BitFns
import Derived.Lib.Walk
import Derived.Lib.Strings
import Derived.Lib.OthersKept
import Derived.Deep.CutBlock
import Derived.Deep.DeepCutAuto
import Derived.Deep.LoopGhost
import Derived.Deep.RegionHeld3
import Derived.Lib.SmallJoins
import Derived.Maps.AppendAt
import Derived.Laws.IdiomStrings
import Derived.Lib.AppendZeros
import Derived.Deep.WholeRow
import Derived.Laws.BitsAllLaws
import Derived.Lib.ConvBytes
import Derived.Deep.RegionLaw
import Derived.Maps.OwnSet
import Derived.Maps.OwnOps
import Derived.Maps.RangeWalk
import Derived.Maps.Ext
import Derived.DeepKeys4
import Derived.Laws.StructEq
import Derived.Deep.MidRow
import Derived.Lib.Bytealg
import Derived.Lib.Overlaps
import Derived.Lib.AppendZerosOnto
import Derived.Laws.MakeOwn
import Derived.Deep.Upon
import Derived.Sort.OwnSortedInts
namespace Go.Proofs.Ytmjaijpikbdfkaa
open Go.RowKit
set_option linter.unusedVariables false
set_option linter.unusedSimpArgs false
set_option maxRecDepth 20000
def plB : Bk := ⟨1, 1, [69, 85, 82], 5, 30, 1000, [⟨1000, 20, 0⟩], 0, 0, []⟩
def plM (g : Nat) : Bm := ⟨plB, some ⟨g, 0, none⟩, 1, none, 0⟩
def PlP (w : World) (e : Ending) (w' : World) : Prop := ∃ g, e = .returned (.agg #[.int .i64 1, .int .i64 1, .string ⟨#[69, 85, 82]⟩, .int .i64 5, .int .i64 30, .int .i64 1000, .slice (some ⟨g, 0, none⟩) 1 1, .int .i64 0, .int .i64 0, .slice none 0 0]) ∧ Hid (Ha w'.heap.size w' (plM g) ∧ Below w.heap.size w w')
theorem xplain (w : World) : Calls Try.prog 29 #[] w (PlP w) := by
  have HF : Hid (∀ y, Ha ((w.alloc y).alloc (.cells #[.int .i64 1000, .int .i64 20, .int .i64 0] 53)).heap.size ((w.alloc y).alloc (.cells #[.int .i64 1000, .int .i64 20, .int .i64 0] 53)) (plM (w.heap.size + 1)) ∧ Below w.heap.size w ((w.alloc y).alloc (.cells #[.int .i64 1000, .int .i64 20, .int .i64 0] 53))) := fun y => by
    have hx : Bx ((w.alloc y).alloc (.cells #[.int .i64 1000, .int .i64 20, .int .i64 0] 53)) (w.heap.size + 1) #[.int .i64 1000, .int .i64 20, .int .i64 0] 53 := by
      have := Bx.new (w.alloc y) #[.int .i64 1000, .int .i64 20, .int .i64 0] 53
      rw [World.size_alloc] at this
      exact this
    refine ⟨⟨fun _ => ⟨w.heap.size + 1, 0, rfl, hx.lt, fun j hj => ?_⟩, fun h => absurd h (Nat.lt_irrefl 0)⟩, ((Below.refl _ w).alloc (Nat.le_refl _) _).alloc (by simp) _⟩
    have hj0 : j = 0 := by have : j < 1 := hj; omega
    subst hj0
    exact ⟨hx.cell 0, hx.cell 1, hx.cell 2⟩
  go_enter Try.func29, Try.ntmps29
  go_wp2
  go_returns
  exact ⟨_, rfl, HF.out _⟩
def aw1 : As := ⟨⟨#[]⟩, 0, 6, 100, ⟨#[69, 85, 82]⟩⟩
def aw2 : As := ⟨⟨#[]⟩, 0, 5, 29, ⟨#[69, 85, 82]⟩⟩
def aw3 : As := ⟨⟨#[]⟩, 0, 5, 30, ⟨#[69, 85, 82]⟩⟩
def OkP (w : World) (e : Ending) (w' : World) : Prop := e = .returned (.bool true) ∧ Below w.heap.size w w'
theorem why1 : why plB aw1 0 = 2 := by decide +kernel
theorem why2 : why plB aw2 0 = 3 := by decide +kernel
theorem why3 : why plB aw3 0 = 0 := by decide +kernel
theorem plE : bkE C0 plB = 0 := by decide +kernel
theorem plS : setE [] plB 0 = 0 := by decide +kernel
theorem plI : ids (setL [] plB 0) = [1] := by decide +kernel
theorem plR : Srt (setL [] plB 0) := setL_srt List.Pairwise.nil _ _

theorem load27 {W : World} {b : Nat} {v0 v1 v2 v3 v4 : Value} (h : Bx W b #[v0, v1, v2, v3, v4] 27) : (Instr.loadAt 27 (.pointer (some ⟨b, 0, none⟩))).run Try.prog W = .ok (.agg #[v0, v1, v2, v3, v4]) W := by
  have c0 : W.cell? ⟨b, 0, none⟩ = some v0 := h.cell 0
  have c1 : W.cell? ⟨b, 1, none⟩ = some v1 := h.cell 1
  have c2 : W.cell? ⟨b, 2, none⟩ = some v2 := h.cell 2
  have c3 : W.cell? ⟨b, 3, none⟩ = some v3 := h.cell 3
  have c4 : W.cell? ⟨b, 4, none⟩ = some v4 := h.cell 4
  clear h
  go_simp
set_option maxHeartbeats 16000000 in
theorem xawake (w : World) : Calls Try.prog 9 #[] w (OkP w) := by
  have HX : Hid (Bx (((w.alloc (.cells #[.string ⟨#[]⟩, .int .i64 0, .int .i64 6, .int .i64 100, .string ⟨#[69, 85, 82]⟩] 27)).alloc (.cells #[.string ⟨#[]⟩, .int .i64 0, .int .i64 5, .int .i64 29, .string ⟨#[69, 85, 82]⟩] 27)).alloc (.cells #[.string ⟨#[]⟩, .int .i64 0, .int .i64 5, .int .i64 30, .string ⟨#[69, 85, 82]⟩] 27)) w.heap.size #[.string ⟨#[]⟩, .int .i64 0, .int .i64 6, .int .i64 100, .string ⟨#[69, 85, 82]⟩] 27) := ((Bx.new w _ _).kept (World.grownBy_alloc _ _ none) (by simp)).kept (World.grownBy_alloc _ _ none) (by simp)
  have HY : Hid (Bx (((w.alloc (.cells #[.string ⟨#[]⟩, .int .i64 0, .int .i64 6, .int .i64 100, .string ⟨#[69, 85, 82]⟩] 27)).alloc (.cells #[.string ⟨#[]⟩, .int .i64 0, .int .i64 5, .int .i64 29, .string ⟨#[69, 85, 82]⟩] 27)).alloc (.cells #[.string ⟨#[]⟩, .int .i64 0, .int .i64 5, .int .i64 30, .string ⟨#[69, 85, 82]⟩] 27)) (w.heap.size + 1) #[.string ⟨#[]⟩, .int .i64 0, .int .i64 5, .int .i64 29, .string ⟨#[69, 85, 82]⟩] 27) := by
    have := Bx.new (w.alloc (.cells #[.string ⟨#[]⟩, .int .i64 0, .int .i64 6, .int .i64 100, .string ⟨#[69, 85, 82]⟩] 27)) #[.string ⟨#[]⟩, .int .i64 0, .int .i64 5, .int .i64 29, .string ⟨#[69, 85, 82]⟩] 27
    rw [World.size_alloc] at this
    exact this.kept (World.grownBy_alloc _ _ none) (by simp)
  have HZ : Hid (Bx (((w.alloc (.cells #[.string ⟨#[]⟩, .int .i64 0, .int .i64 6, .int .i64 100, .string ⟨#[69, 85, 82]⟩] 27)).alloc (.cells #[.string ⟨#[]⟩, .int .i64 0, .int .i64 5, .int .i64 29, .string ⟨#[69, 85, 82]⟩] 27)).alloc (.cells #[.string ⟨#[]⟩, .int .i64 0, .int .i64 5, .int .i64 30, .string ⟨#[69, 85, 82]⟩] 27)) (w.heap.size + 2) #[.string ⟨#[]⟩, .int .i64 0, .int .i64 5, .int .i64 30, .string ⟨#[69, 85, 82]⟩] 27) := by
    have := Bx.new ((w.alloc (.cells #[.string ⟨#[]⟩, .int .i64 0, .int .i64 6, .int .i64 100, .string ⟨#[69, 85, 82]⟩] 27)).alloc (.cells #[.string ⟨#[]⟩, .int .i64 0, .int .i64 5, .int .i64 29, .string ⟨#[69, 85, 82]⟩] 27)) #[.string ⟨#[]⟩, .int .i64 0, .int .i64 5, .int .i64 30, .string ⟨#[69, 85, 82]⟩] 27
    rw [World.size_alloc, World.size_alloc] at this
    exact this
  have HB : Hid (Below w.heap.size w (((w.alloc (.cells #[.string ⟨#[]⟩, .int .i64 0, .int .i64 6, .int .i64 100, .string ⟨#[69, 85, 82]⟩] 27)).alloc (.cells #[.string ⟨#[]⟩, .int .i64 0, .int .i64 5, .int .i64 29, .string ⟨#[69, 85, 82]⟩] 27)).alloc (.cells #[.string ⟨#[]⟩, .int .i64 0, .int .i64 5, .int .i64 30, .string ⟨#[69, 85, 82]⟩] 27))) := (((Below.refl _ w).alloc (Nat.le_refl _) _).alloc (by simp) _).alloc (by simp; omega) _
  have H15 : Hid (∀ W, Calls Try.prog 15 #[] W (NwP W)) := fun W => xnew W
  have H29 : Hid (∀ W, Calls Try.prog 29 #[] W (PlP W)) := fun W => xplain W
  go_enter Try.func9, Try.ntmps9
  go_upto_region 4 with fail
  generalize (((w.alloc (.cells #[.string ⟨#[]⟩, .int .i64 0, .int .i64 6, .int .i64 100, .string ⟨#[69, 85, 82]⟩] 27)).alloc (.cells #[.string ⟨#[]⟩, .int .i64 0, .int .i64 5, .int .i64 29, .string ⟨#[69, 85, 82]⟩] 27)).alloc (.cells #[.string ⟨#[]⟩, .int .i64 0, .int .i64 5, .int .i64 30, .string ⟨#[69, 85, 82]⟩] 27)) = w3 at *
  go_upto_region 5 with (go_at_call 15; refine (H15.out _).mono ?_; clear H15; rintro e w4 ⟨rfl, HN⟩)
  have HO4 : Hid (Bo (fun k => w3.heap.size ≤ k) w4 (w3.heap.size + 1) w3.heap.size []) := HN.out.1
  have hb34 := HN.out.2
  have HX4 : Hid (Bx w4 w.heap.size #[.string ⟨#[]⟩, .int .i64 0, .int .i64 6, .int .i64 100, .string ⟨#[69, 85, 82]⟩] 27) := HX.out.keep hb34
  have HY4 : Hid (Bx w4 (w.heap.size + 1) #[.string ⟨#[]⟩, .int .i64 0, .int .i64 5, .int .i64 29, .string ⟨#[69, 85, 82]⟩] 27) := HY.out.keep hb34
  have HZ4 : Hid (Bx w4 (w.heap.size + 2) #[.string ⟨#[]⟩, .int .i64 0, .int .i64 5, .int .i64 30, .string ⟨#[69, 85, 82]⟩] 27) := HZ.out.keep hb34
  have HB4 : Hid (Below w.heap.size w w4) := HB.out.trans (hb34.mono HB.out.size)
  have HS3 : Hid (w.heap.size ≤ w3.heap.size ∧ w.heap.size < w3.heap.size ∧ w.heap.size + 1 < w3.heap.size ∧ w.heap.size + 2 < w3.heap.size) := ⟨HB.out.size, HX.out.lt, HY.out.lt, HZ.out.lt⟩
  clear HX HY HZ HB HN hb34
  generalize w3.heap.size = bm at *
  refine wp_region_held (S := fun W => Bx W w.heap.size #[.string ⟨#[]⟩, .int .i64 0, .int .i64 6, .int .i64 100, .string ⟨#[69, 85, 82]⟩] 27 ∧ Bx W (w.heap.size + 1) #[.string ⟨#[]⟩, .int .i64 0, .int .i64 5, .int .i64 29, .string ⟨#[69, 85, 82]⟩] 27 ∧ Bx W (w.heap.size + 2) #[.string ⟨#[]⟩, .int .i64 0, .int .i64 5, .int .i64 30, .string ⟨#[69, 85, 82]⟩] 27) (by kernel_rfl) ?_
  change wpAnyH _ _ _ _ _ 28 #[false, false, false, false, false, false, false, false, false, false, false, false, false, false, false, false, false, false, false, false, false, false, false, false, false, false, false, false] _ w4.drew
  obtain ⟨v0, hv0⟩ : ∃ v, v = w4.drew := ⟨_, rfl⟩
  have hD : Below w4.heap.size w4 v0 := by rw [hv0]; exact ⟨rfl, rfl, rfl, Nat.le_refl _, fun _ _ => rfl⟩
  have hS0 : Bx v0 w.heap.size #[.string ⟨#[]⟩, .int .i64 0, .int .i64 6, .int .i64 100, .string ⟨#[69, 85, 82]⟩] 27 ∧ Bx v0 (w.heap.size + 1) #[.string ⟨#[]⟩, .int .i64 0, .int .i64 5, .int .i64 29, .string ⟨#[69, 85, 82]⟩] 27 ∧ Bx v0 (w.heap.size + 2) #[.string ⟨#[]⟩, .int .i64 0, .int .i64 5, .int .i64 30, .string ⟨#[69, 85, 82]⟩] 27 := ⟨HX4.out.keep hD, HY4.out.keep hD, HZ4.out.keep hD⟩
  have hB0 : Below w.heap.size w v0 := HB4.out.trans (hD.mono HB4.out.size)
  have hO0 : Bo (fun k => bm ≤ k) v0 (bm + 1) bm [] := HO4.out.below hD
  rw [← hv0]
  clear hv0 hD HO4 HX4 HY4 HZ4 HB4
  refine takeR (fuel := 27) (i := 1) (v := .agg #[.string ⟨#[]⟩, .int .i64 0, .int .i64 6, .int .i64 100, .string ⟨#[69, 85, 82]⟩]) rfl (by kernel_rfl) (by kernel_rfl) (by kernel_rfl) (fun _ _ _ h => h) (Or.inl ⟨rfl, fun W hW => exl _ _ _ _ rfl (.pointer (some ⟨w.heap.size, 0, none⟩)) _ rfl (load27 hW.1)⟩) hS0 ?_
  simp only [Act.put, List.setIfInBounds_toArray, List.set_cons_zero, List.set_cons_succ]
  refine consR (fuel := 26) (i := 0) rfl (by kernel_rfl) (fun K hK => ?_)
  rw [if_pos (by rfl)]
  go_simp
  refine (H29.out v0).mono ?_
  rintro e v1 ⟨ga, rfl, hpga⟩
  have hd1 : Below v0.heap.size v0 v1 := hpga.out.2
  have hAga : Ha v1.heap.size v1 (plM ga) := hpga.out.1
  refine hK.out _ _ ⟨hS0.1.keep hd1, hS0.2.1.keep hd1, hS0.2.2.keep hd1⟩ (fun hS1 => ?_)
  clear hK
  have hB1 : Below w.heap.size w v1 := hB0.trans (hd1.mono hB0.size)
  have hO1 : Bo (fun k => bm ≤ k) v1 (bm + 1) bm [] := hO0.below hd1
  clear hB0 hO0 hS0
  try simp only [Act.put, List.setIfInBounds_toArray, List.set_cons_zero, List.set_cons_succ]
  have hc2 : Calls Try.prog 11 #[.agg #[.int .i64 1, .int .i64 1, .string ⟨#[69, 85, 82]⟩, .int .i64 5, .int .i64 30, .int .i64 1000, .slice (some ⟨ga, 0, none⟩) 1 1, .int .i64 0, .int .i64 0, .slice none 0 0], .agg #[.string ⟨#[]⟩, .int .i64 0, .int .i64 6, .int .i64 100, .string ⟨#[69, 85, 82]⟩], .int .i64 0] v1 (KP (.int .i64 2) v1) := by have := xwhy (plM ga) aw1 0 (by decide) v1 hAga (show (0 : Nat) ≤ 1000000 by omega); rw [show (plM ga).b = plB from rfl, why1] at this; exact this
  refine consR (fuel := 25) (i := 2) rfl (by kernel_rfl) (fun K hK => ?_)
  rw [if_pos (by rfl)]
  go_simp
  refine (hc2).mono ?_
  rintro e v2 ⟨rfl, hk2⟩
  have hd2 : Below v1.heap.size v1 v2 := hk2.out
  refine hK.out _ _ ⟨hS1.1.keep hd2, hS1.2.1.keep hd2, hS1.2.2.keep hd2⟩ (fun hS2 => ?_)
  clear hK
  have hB2 : Below w.heap.size w v2 := hB1.trans (hd2.mono hB1.size)
  have hO2 : Bo (fun k => bm ≤ k) v2 (bm + 1) bm [] := hO1.below hd2
  clear hB1 hO1 hS1
  try simp only [Act.put, List.setIfInBounds_toArray, List.set_cons_zero, List.set_cons_succ]
  refine takeR (fuel := 24) (i := 3) (v := .bool true) rfl (by kernel_rfl) (by kernel_rfl) (by kernel_rfl) (fun _ _ _ h => h) (Or.inl ⟨rfl, fun W hW => by go_simp⟩) hS2 ?_
  simp only [Act.put, List.setIfInBounds_toArray, List.set_cons_zero, List.set_cons_succ]
  refine takeR (fuel := 23) (i := 4) (v := .bool true) rfl (by kernel_rfl) (by kernel_rfl) (by kernel_rfl) (fun _ _ _ h => h) (Or.inl ⟨rfl, fun W hW => by go_simp⟩) hS2 ?_
  simp only [Act.put, List.setIfInBounds_toArray, List.set_cons_zero, List.set_cons_succ]
  refine takeR (fuel := 22) (i := 6) (v := .agg #[.string ⟨#[]⟩, .int .i64 0, .int .i64 5, .int .i64 29, .string ⟨#[69, 85, 82]⟩]) rfl (by kernel_rfl) (by kernel_rfl) (by kernel_rfl) (fun _ _ _ h => h) (Or.inl ⟨rfl, fun W hW => exl _ _ _ _ rfl (.pointer (some ⟨w.heap.size + 1, 0, none⟩)) _ rfl (load27 hW.2.1)⟩) hS2 ?_
  simp only [Act.put, List.setIfInBounds_toArray, List.set_cons_zero, List.set_cons_succ]
  refine consR (fuel := 21) (i := 5) rfl (by kernel_rfl) (fun K hK => ?_)
  rw [if_pos (by rfl)]
  go_simp
  refine (H29.out v2).mono ?_
  rintro e v3 ⟨gb, rfl, hpgb⟩
  have hd3 : Below v2.heap.size v2 v3 := hpgb.out.2
  have hAgb : Ha v3.heap.size v3 (plM gb) := hpgb.out.1
  refine hK.out _ _ ⟨hS2.1.keep hd3, hS2.2.1.keep hd3, hS2.2.2.keep hd3⟩ (fun hS3 => ?_)
  clear hK
  have hB3 : Below w.heap.size w v3 := hB2.trans (hd3.mono hB2.size)
  have hO3 : Bo (fun k => bm ≤ k) v3 (bm + 1) bm [] := hO2.below hd3
  clear hB2 hO2 hS2
  try simp only [Act.put, List.setIfInBounds_toArray, List.set_cons_zero, List.set_cons_succ]
  have hc7 : Calls Try.prog 11 #[.agg #[.int .i64 1, .int .i64 1, .string ⟨#[69, 85, 82]⟩, .int .i64 5, .int .i64 30, .int .i64 1000, .slice (some ⟨gb, 0, none⟩) 1 1, .int .i64 0, .int .i64 0, .slice none 0 0], .agg #[.string ⟨#[]⟩, .int .i64 0, .int .i64 5, .int .i64 29, .string ⟨#[69, 85, 82]⟩], .int .i64 0] v3 (KP (.int .i64 3) v3) := by have := xwhy (plM gb) aw2 0 (by decide) v3 hAgb (show (0 : Nat) ≤ 1000000 by omega); rw [show (plM gb).b = plB from rfl, why2] at this; exact this
  refine consR (fuel := 20) (i := 7) rfl (by kernel_rfl) (fun K hK => ?_)
  rw [if_pos (by rfl)]
  go_simp
  refine (hc7).mono ?_
  rintro e v4 ⟨rfl, hk7⟩
  have hd4 : Below v3.heap.size v3 v4 := hk7.out
  refine hK.out _ _ ⟨hS3.1.keep hd4, hS3.2.1.keep hd4, hS3.2.2.keep hd4⟩ (fun hS4 => ?_)
  clear hK
  have hB4 : Below w.heap.size w v4 := hB3.trans (hd4.mono hB3.size)
  have hO4 : Bo (fun k => bm ≤ k) v4 (bm + 1) bm [] := hO3.below hd4
  clear hB3 hO3 hS3
  try simp only [Act.put, List.setIfInBounds_toArray, List.set_cons_zero, List.set_cons_succ]
  refine takeR (fuel := 19) (i := 8) (v := .bool true) rfl (by kernel_rfl) (by kernel_rfl) (by kernel_rfl) (fun _ _ _ h => h) (Or.inl ⟨rfl, fun W hW => by go_simp⟩) hS4 ?_
  simp only [Act.put, List.setIfInBounds_toArray, List.set_cons_zero, List.set_cons_succ]
  refine takeR (fuel := 18) (i := 9) (v := .bool true) rfl (by kernel_rfl) (by kernel_rfl) (by kernel_rfl) (fun _ _ _ h => h) (Or.inl ⟨rfl, fun W hW => by go_simp⟩) hS4 ?_
  simp only [Act.put, List.setIfInBounds_toArray, List.set_cons_zero, List.set_cons_succ]
  refine takeR (fuel := 17) (i := 10) (v := .bool true) rfl (by kernel_rfl) (by kernel_rfl) (by kernel_rfl) (fun _ _ _ h => h) (Or.inl ⟨rfl, fun W hW => by go_simp⟩) hS4 ?_
  simp only [Act.put, List.setIfInBounds_toArray, List.set_cons_zero, List.set_cons_succ]
  refine takeR (fuel := 16) (i := 12) (v := .agg #[.string ⟨#[]⟩, .int .i64 0, .int .i64 5, .int .i64 30, .string ⟨#[69, 85, 82]⟩]) rfl (by kernel_rfl) (by kernel_rfl) (by kernel_rfl) (fun _ _ _ h => h) (Or.inl ⟨rfl, fun W hW => exl _ _ _ _ rfl (.pointer (some ⟨w.heap.size + 2, 0, none⟩)) _ rfl (load27 hW.2.2)⟩) hS4 ?_
  simp only [Act.put, List.setIfInBounds_toArray, List.set_cons_zero, List.set_cons_succ]
  refine consR (fuel := 15) (i := 11) rfl (by kernel_rfl) (fun K hK => ?_)
  rw [if_pos (by rfl)]
  go_simp
  refine (H29.out v4).mono ?_
  rintro e v5 ⟨gc, rfl, hpgc⟩
  have hd5 : Below v4.heap.size v4 v5 := hpgc.out.2
  have hAgc : Ha v5.heap.size v5 (plM gc) := hpgc.out.1
  refine hK.out _ _ ⟨hS4.1.keep hd5, hS4.2.1.keep hd5, hS4.2.2.keep hd5⟩ (fun hS5 => ?_)
  clear hK
  have hB5 : Below w.heap.size w v5 := hB4.trans (hd5.mono hB4.size)
  have hO5 : Bo (fun k => bm ≤ k) v5 (bm + 1) bm [] := hO4.below hd5
  clear hB4 hO4 hS4
  try simp only [Act.put, List.setIfInBounds_toArray, List.set_cons_zero, List.set_cons_succ]
  have hc13 : Calls Try.prog 12 #[.agg #[.int .i64 1, .int .i64 1, .string ⟨#[69, 85, 82]⟩, .int .i64 5, .int .i64 30, .int .i64 1000, .slice (some ⟨gc, 0, none⟩) 1 1, .int .i64 0, .int .i64 0, .slice none 0 0], .agg #[.string ⟨#[]⟩, .int .i64 0, .int .i64 5, .int .i64 30, .string ⟨#[69, 85, 82]⟩], .int .i64 0] v5 (KP (.bool true) v5) := by have := xfits (plM gc) aw3 0 (by decide) v5 hAgc (show (0 : Nat) ≤ 1000000 by omega); rw [show (plM gc).b = plB from rfl, why3] at this; exact this
  refine consR (fuel := 14) (i := 13) rfl (by kernel_rfl) (fun K hK => ?_)
  rw [if_pos (by rfl)]
  go_simp
  refine (hc13).mono ?_
  rintro e v6 ⟨rfl, hk13⟩
  have hd6 : Below v5.heap.size v5 v6 := hk13.out
  refine hK.out _ _ ⟨hS5.1.keep hd6, hS5.2.1.keep hd6, hS5.2.2.keep hd6⟩ (fun hS6 => ?_)
  clear hK
  have hB6 : Below w.heap.size w v6 := hB5.trans (hd6.mono hB5.size)
  have hO6 : Bo (fun k => bm ≤ k) v6 (bm + 1) bm [] := hO5.below hd6
  clear hB5 hO5 hS5
  try simp only [Act.put, List.setIfInBounds_toArray, List.set_cons_zero, List.set_cons_succ]
  refine takeR (fuel := 13) (i := 14) (v := .bool true) rfl (by kernel_rfl) (by kernel_rfl) (by kernel_rfl) (fun _ _ _ h => h) (Or.inl ⟨rfl, fun W hW => by go_simp⟩) hS6 ?_
  simp only [Act.put, List.setIfInBounds_toArray, List.set_cons_zero, List.set_cons_succ]
  refine takeR (fuel := 12) (i := 15) (v := .bool true) rfl (by kernel_rfl) (by kernel_rfl) (by kernel_rfl) (fun _ _ _ h => h) (Or.inl ⟨rfl, fun W hW => by go_simp⟩) hS6 ?_
  simp only [Act.put, List.setIfInBounds_toArray, List.set_cons_zero, List.set_cons_succ]
  refine takeR (fuel := 11) (i := 16) (v := .pointer (some ⟨bm + 1, 0, none⟩)) rfl (by kernel_rfl) (by kernel_rfl) (by kernel_rfl) (fun _ _ _ h => h) (Or.inl ⟨rfl, fun W hW => by go_simp⟩) hS6 ?_
  simp only [Act.put, List.setIfInBounds_toArray, List.set_cons_zero, List.set_cons_succ]
  refine consR (fuel := 10) (i := 17) rfl (by kernel_rfl) (fun K hK => ?_)
  rw [if_pos (by rfl)]
  go_simp
  refine (H29.out v6).mono ?_
  rintro e v7 ⟨gd, rfl, hpgd⟩
  have hd7 : Below v6.heap.size v6 v7 := hpgd.out.2
  have hAgd : Ha v7.heap.size v7 (plM gd) := hpgd.out.1
  refine hK.out _ _ ⟨hS6.1.keep hd7, hS6.2.1.keep hd7, hS6.2.2.keep hd7⟩ (fun hS7 => ?_)
  clear hK
  have hB7 : Below w.heap.size w v7 := hB6.trans (hd7.mono hB6.size)
  have hO7 : Bo (fun k => bm ≤ k) v7 (bm + 1) bm [] := hO6.below hd7
  clear hB6 hO6 hS6
  try simp only [Act.put, List.setIfInBounds_toArray, List.set_cons_zero, List.set_cons_succ]
  have hset : Calls Try.prog 18 #[.pointer (some ⟨bm + 1, 0, none⟩), .agg #[.int .i64 1, .int .i64 1, .string ⟨#[69, 85, 82]⟩, .int .i64 5, .int .i64 30, .int .i64 1000, .slice (some ⟨gd, 0, none⟩) 1 1, .int .i64 0, .int .i64 0, .slice none 0 0]] v7 (SeP (fun k => bm ≤ k) (bm + 1) bm [] [] plB 0 v7) := xset hO7 Rel.new (by decide) (by decide) (plM gd) hAgd (show (1 : Nat) ≤ 1000000 by omega) (show (0 : Nat) ≤ 1000000 by omega) 0 plE
  refine consR (fuel := 9) (i := 18) rfl (by kernel_rfl) (fun K hK => ?_)
  rw [if_pos (by rfl)]
  go_simp
  refine hset.mono ?_
  rintro e vz ⟨rfl, hz⟩
  obtain ⟨L', hOz, hRz, hKz, hLz⟩ := hz.out
  rw [plS]
  have hbz : Below bm v7 vz := hKz.below (fun k hk => hk) (Nat.le_of_lt hO7.mp.lt)
  have hs3 := HS3.out
  refine hK.out _ _ ⟨hS7.1.below hbz hs3.2.1, hS7.2.1.below hbz hs3.2.2.1, hS7.2.2.below hbz hs3.2.2.2⟩ (fun hSz => ?_)
  clear hK
  have hBz : Below w.heap.size w vz := hB7.trans (hbz.mono hs3.1)
  have hids : Calls Try.prog 30 #[.pointer (some ⟨bm + 1, 0, none⟩)] vz (IdP [1] vz) := by
    have := xids hOz hRz plR (by simp at hLz; omega)
    rw [plI] at this
    exact this
  try simp only [Act.put, List.setIfInBounds_toArray, List.set_cons_zero, List.set_cons_succ]
  refine takeR (fuel := 8) (i := 19) (v := .bool true) rfl (by kernel_rfl) (by kernel_rfl) (by kernel_rfl) (fun _ _ _ h => h) (Or.inl ⟨rfl, fun W hW => by go_simp⟩) hSz ?_
  simp only [Act.put, List.setIfInBounds_toArray, List.set_cons_zero, List.set_cons_succ]
  refine takeR (fuel := 7) (i := 20) (v := .bool true) rfl (by kernel_rfl) (by kernel_rfl) (by kernel_rfl) (fun _ _ _ h => h) (Or.inl ⟨rfl, fun W hW => by go_simp⟩) hSz ?_
  simp only [Act.put, List.setIfInBounds_toArray, List.set_cons_zero, List.set_cons_succ]
  refine takeR (fuel := 6) (i := 21) (v := .bool true) rfl (by kernel_rfl) (by kernel_rfl) (by kernel_rfl) (fun _ _ _ h => h) (Or.inl ⟨rfl, fun W hW => by go_simp⟩) hSz ?_
  simp only [Act.put, List.setIfInBounds_toArray, List.set_cons_zero, List.set_cons_succ]
  refine takeR (fuel := 5) (i := 22) (v := .pointer (some ⟨bm + 1, 0, none⟩)) rfl (by kernel_rfl) (by kernel_rfl) (by kernel_rfl) (fun _ _ _ h => h) (Or.inl ⟨rfl, fun W hW => by go_simp⟩) hSz ?_
  simp only [Act.put, List.setIfInBounds_toArray, List.set_cons_zero, List.set_cons_succ]
  refine consR (fuel := 4) (i := 23) rfl (by kernel_rfl) (fun K hK => ?_)
  rw [if_pos (by rfl)]
  go_simp
  refine hids.mono ?_
  rintro e vy ⟨ay, cy, rfl, hy⟩
  have hdy := hy.out.2
  refine hK.out _ _ ⟨hSz.1.keep hdy, hSz.2.1.keep hdy, hSz.2.2.keep hdy⟩ (fun hSy => ?_)
  clear hK
  have HBy : Hid (Below w.heap.size w vy) := hBz.trans (hdy.mono hBz.size)
  try simp only [Act.put, List.setIfInBounds_toArray, List.set_cons_zero, List.set_cons_succ]
  refine takeR (fuel := 3) (i := 24) (v := .int .i64 1) rfl (by kernel_rfl) (by kernel_rfl) (by kernel_rfl) (fun _ _ _ h => h) (Or.inl ⟨rfl, fun W hW => by go_simp⟩) hSy ?_
  simp only [Act.put, List.setIfInBounds_toArray, List.set_cons_zero, List.set_cons_succ]
  refine takeR (fuel := 2) (i := 25) (v := .bool true) rfl (by kernel_rfl) (by kernel_rfl) (by kernel_rfl) (fun _ _ _ h => h) (Or.inl ⟨rfl, fun W hW => by go_simp⟩) hSy ?_
  simp only [Act.put, List.setIfInBounds_toArray, List.set_cons_zero, List.set_cons_succ]
  refine takeR (fuel := 1) (i := 26) (v := .bool true) rfl (by kernel_rfl) (by kernel_rfl) (by kernel_rfl) (fun _ _ _ h => h) (Or.inl ⟨rfl, fun W hW => by go_simp⟩) hSy ?_
  simp only [Act.put, List.setIfInBounds_toArray, List.set_cons_zero, List.set_cons_succ]
  refine takeR (fuel := 0) (i := 27) (v := .bool true) rfl (by kernel_rfl) (by kernel_rfl) (by kernel_rfl) (fun _ _ _ h => h) (Or.inl ⟨rfl, fun W hW => by go_simp⟩) hSy ?_
  simp only [Act.put, List.setIfInBounds_toArray, List.set_cons_zero, List.set_cons_succ]
  refine wpAnyH_done (by kernel_rfl) ?_ _
  go_wp2_with fail
  go_ret
  exact ⟨rfl, HBy.out⟩
end Go.Proofs.Ytmjaijpikbdfkaa
