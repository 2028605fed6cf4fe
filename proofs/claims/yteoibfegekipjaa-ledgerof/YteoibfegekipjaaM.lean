/- layer 11: the chapter's example -/
import Derived.Test.YteoibfegekipjaaL
import Derived.Test.YteoibfegekipjaaK
import Derived.WalkKit
import Derived.ProofKit
import Derived.Handy
import Derived.WalkLawsBesides
import Derived.WalkSpells
import Derived.BigQuiet
import Derived.BigCall
import Derived.Deep.QuietTactic
import Derived.Deep.Light
import Derived.Deep.OwnRows
import Derived.Laws.AppendOwnNone
import Derived.Laws.Strings3
import Derived.Laws.RangeAny
import Derived.Deep.RegionWith
import Derived.Lib.BitFns
import Derived.Lib.Walk
import Derived.Lib.Strings
import Derived.Lib.OthersKept
import Derived.Deep.CutBlock
import Derived.Deep.DeepCutAuto
import Derived.Deep.LoopGhost
import Derived.Deep.RegionHeld3
import Derived.Lib.SmallJoins
import Derived.Maps.AppendAt
import Derived.Laws.IdiomStrings
import Derived.Lib.AppendZeros
import Derived.Deep.WholeRow
import Derived.Laws.BitsAllLaws
import Derived.Lib.ConvBytes
import Derived.Deep.RegionLaw
import Derived.Maps.OwnSet
import Derived.Maps.OwnOps
import Derived.Maps.RangeWalk
import Derived.Maps.Ext
import Derived.DeepKeys4
import Derived.Laws.StructEq
namespace Go.Proofs.Yteoibfegekipjaa
open Go.RowKit
set_option linter.unusedVariables false
set_option linter.unusedSimpArgs false
def tB : ByteArray := ⟨#[116]⟩
def xA : Ex := ⟨0, 0, ⟨#[116]⟩, 1, 0, ⟨#[116]⟩, 5⟩
def xB : Ex := ⟨1, 0, ⟨#[116]⟩, 2, 0, ⟨#[116]⟩, 3⟩
theorem tL : (⟨#[116]⟩ : ByteArray).toList = [116] := by rw [ByteArray.toList_eq]
theorem entA : xA.ent = ((0, 0, [116]), (1, 0, [116]), 5) := by simp only [Ex.ent, xA, tL]
theorem entB : xB.ent = ((1, 0, [116]), (2, 0, [116]), 3) := by simp only [Ex.ent, xB, tL]
def LA : List Num.Bal := Num.post [] [((0, 0, [116]), (1, 0, [116]), 5), ((1, 0, [116]), (2, 0, [116]), 3)]
theorem fA1 : Num.howf [] [((0, 0, [116]), (1, 0, [116]), 5), ((1, 0, [116]), (2, 0, [116]), 3)] = 2 := by decide +kernel
theorem fA2 : Num.whyf [] [((0, 0, [116]), (1, 0, [116]), 5), ((1, 0, [116]), (2, 0, [116]), 3)] = 0 := by decide +kernel
theorem fA3 : Num.howf LA [((1, 0, [116]), (2, 0, [116]), 3)] = 0 := by decide +kernel
theorem fA4 : Num.whyf LA [((1, 0, [116]), (2, 0, [116]), 3)] = 20 := by decide +kernel
theorem fA5 : Num.get LA (1, 0, [116]) = 2 := by decide +kernel
theorem fA6 : Num.get LA (2, 0, [116]) = 3 := by decide +kernel
theorem fA7 : Num.hld 0 [116] LA = -5 := by decide +kernel
theorem fA8 : Num.post LA [((1, 0, [116]), (2, 0, [116]), 3)] = LA := by decide +kernel
theorem fA9 : LA.length ≤ 100000 := by decide +kernel
theorem gA : Num.Good LA := Num.Good.nil.post _
set_option maxRecDepth 20000 in
set_option maxHeartbeats 1000000 in
theorem xawake (w : World) : Calls Try.prog 10 #[] w fun e w' => e = .returned (.bool true) ∧ Below w.heap.size w w' := by
  have HN : Hid (Calls Try.prog 11 #[] w fun e w' => e = .returned (.pointer (some ⟨w.heap.size + 1, 0, none⟩)) ∧ Lg w' (w.heap.size + 1) w.heap.size [] ∧ Below w.heap.size w w') := xnew w
  obtain ⟨q, hq⟩ : ∃ q, q = w.heap.size + 1 := ⟨_, rfl⟩
  obtain ⟨m, hm⟩ : ∃ m, m = w.heap.size := ⟨_, rfl⟩
  rw [← hq, ← hm] at HN
  have HM : Hid (w.heap.size ≤ m) := by unfold Hid; omega
  clear hq hm
  go_enter Try.func10, Try.ntmps10
  go_upto_region 2 with (go_at_call 11; refine HN.out.mono ?_; rintro e w1 ⟨rfl, h1, hb1⟩)
  have hb1 := hb1.mono HM.out
  have hq1 := h1.b.lt
  have hm1 := h1.m.lt
  have HL3 : Hid (Lg ((w1.alloc (.cells #[.int .i64 1, .int .i64 0, .string ⟨#[116]⟩] 40)).alloc (.cells #[.int .i64 2, .int .i64 0, .string ⟨#[116]⟩] 40)) q m []) := (h1.alloc _).alloc _
  have HB3 : Hid (Below w.heap.size w ((w1.alloc (.cells #[.int .i64 1, .int .i64 0, .string ⟨#[116]⟩] 40)).alloc (.cells #[.int .i64 2, .int .i64 0, .string ⟨#[116]⟩] 40))) := (hb1.alloc hb1.size _).alloc (by have := hb1.size; simp; omega) _
  have HX3 : Hid (Bx ((w1.alloc (.cells #[.int .i64 1, .int .i64 0, .string ⟨#[116]⟩] 40)).alloc (.cells #[.int .i64 2, .int .i64 0, .string ⟨#[116]⟩] 40)) w1.heap.size #[.int .i64 1, .int .i64 0, .string ⟨#[116]⟩] 40) := (Bx.new w1 _ _).kept (grown_alloc _ _ none) (by simp)
  have HY3 : Hid (Bx ((w1.alloc (.cells #[.int .i64 1, .int .i64 0, .string ⟨#[116]⟩] 40)).alloc (.cells #[.int .i64 2, .int .i64 0, .string ⟨#[116]⟩] 40)) (w1.heap.size + 1) #[.int .i64 2, .int .i64 0, .string ⟨#[116]⟩] 40) := by
    have := Bx.new (w1.alloc (.cells #[.int .i64 1, .int .i64 0, .string ⟨#[116]⟩] 40)) #[.int .i64 2, .int .i64 0, .string ⟨#[116]⟩] 40
    rw [World.size_alloc] at this
    exact this
  clear h1 hb1 HN
  go_upto_region 3 with fail
  generalize (w1.alloc (.cells #[.int .i64 1, .int .i64 0, .string ⟨#[116]⟩] 40)).alloc (.cells #[.int .i64 2, .int .i64 0, .string ⟨#[116]⟩] 40) = w3 at *
  obtain ⟨pa, hpa⟩ : ∃ pa, pa = w1.heap.size := ⟨_, rfl⟩
  obtain ⟨pb, hpb⟩ : ∃ pb, pb = w1.heap.size + 1 := ⟨_, rfl⟩
  rw [← hpb] at HY3
  rw [← hpa] at HX3
  rw [← hpb, ← hpa]
  have hma : m ≠ pa := by omega
  have hmb : m ≠ pb := by omega
  clear hpa hpb hm1 hq1
  have a0 : w3.cell? ⟨pa, 0, none⟩ = some (.int .i64 1) := HX3.out.cell 0
  have a1 : w3.cell? ⟨pa, 1, none⟩ = some (.int .i64 0) := HX3.out.cell 1
  have a2 : w3.cell? ⟨pa, 2, none⟩ = some (.string ⟨#[116]⟩) := HX3.out.cell 2
  have b0 : w3.cell? ⟨pb, 0, none⟩ = some (.int .i64 2) := HY3.out.cell 0
  have b1 : w3.cell? ⟨pb, 1, none⟩ = some (.int .i64 0) := HY3.out.cell 1
  have b2 : w3.cell? ⟨pb, 2, none⟩ = some (.string ⟨#[116]⟩) := HY3.out.cell 2
  have HP1 : Hid (Calls Try.prog 13 #[.pointer (some ⟨q, 0, none⟩), .slice (some ⟨w3.heap.size, 0, none⟩) 2 2] (w3.alloc (.cells #[.int .i64 0, .int .i64 0, .string ⟨#[116]⟩, .int .i64 1, .int .i64 0, .string ⟨#[116]⟩, .int .i64 5, .int .i64 1, .int .i64 0, .string ⟨#[116]⟩, .int .i64 2, .int .i64 0, .string ⟨#[116]⟩, .int .i64 3] 72)) fun e w' => e = .returned (.tuple #[.int .i64 2, .int .i64 0]) ∧ Hid (Lg w' q m LA ∧ Below w.heap.size w w' ∧ Bx w' pa #[.int .i64 1, .int .i64 0, .string ⟨#[116]⟩] 40 ∧ Bx w' pb #[.int .i64 2, .int .i64 0, .string ⟨#[116]⟩] 40)) := by
    have hbx := Bx.new w3 #[.int .i64 0, .int .i64 0, .string ⟨#[116]⟩, .int .i64 1, .int .i64 0, .string ⟨#[116]⟩, .int .i64 5, .int .i64 1, .int .i64 0, .string ⟨#[116]⟩, .int .i64 2, .int .i64 0, .string ⟨#[116]⟩, .int .i64 3] 72
    have hml := HL3.out.m.lt
    refine (xpost q m [] Num.Good.nil (by simp) [xA, xB] (by simp) (some ⟨w3.heap.size, 0, none⟩) 2 2 (by omega) _ (HL3.out.alloc _) ?_).mono ?_
    · refine ⟨_, _, rfl, fun _ => ⟨w3.heap.size, 0, rfl, by simp, by omega, fun i hi k hk => ?_⟩⟩
      rw [hbx.cell]
      rcases i with _ | _ | i
      · rcases k with _ | _ | _ | _ | _ | _ | _ | k <;> first | rfl | omega
      · rcases k with _ | _ | _ | _ | _ | _ | _ | k <;> first | rfl | omega
      · simp at hi; omega
    · rintro e w' ⟨rfl, k1, k2⟩
      simp only [List.map_cons, List.map_nil, entA, entB, fA1, fA2] at k1 ⊢
      have kk := grown_trans (grown_alloc w3 (.cells #[.int .i64 0, .int .i64 0, .string ⟨#[116]⟩, .int .i64 1, .int .i64 0, .string ⟨#[116]⟩, .int .i64 5, .int .i64 1, .int .i64 0, .string ⟨#[116]⟩, .int .i64 2, .int .i64 0, .string ⟨#[116]⟩, .int .i64 3] 72) (some m)) k2
      exact ⟨rfl, k1, HB3.out.grown kk HB3.out.size (fun k e => by cases e; exact HM.out), HX3.out.kept kk (by simp; omega), HY3.out.kept kk (by simp; omega)⟩
  go_upto_region 4 with (go_at_call 13; refine HP1.out.mono ?_; rintro e w4 ⟨rfl, HZ4⟩)
  clear HP1 HL3 HB3 HX3 HY3 a0 a1 a2 b0 b1 b2
  have HL4 : Hid (Lg w4 q m LA) := HZ4.out.1
  have HB4 : Hid (Below w.heap.size w w4) := HZ4.out.2.1
  have HAw4 : Hid (Bx w4 pa #[.int .i64 1, .int .i64 0, .string ⟨#[116]⟩] 40) := HZ4.out.2.2.1
  have HBw4 : Hid (Bx w4 pb #[.int .i64 2, .int .i64 0, .string ⟨#[116]⟩] 40) := HZ4.out.2.2.2
  clear HZ4
  have xa0 : w4.cell? ⟨pa, 0, none⟩ = some (.int .i64 1) := (HAw4).out.cell 0
  have xa1 : w4.cell? ⟨pa, 1, none⟩ = some (.int .i64 0) := (HAw4).out.cell 1
  have xa2 : w4.cell? ⟨pa, 2, none⟩ = some (.string ⟨#[116]⟩) := (HAw4).out.cell 2
  have xb0 : w4.cell? ⟨pb, 0, none⟩ = some (.int .i64 2) := (HBw4).out.cell 0
  have xb1 : w4.cell? ⟨pb, 1, none⟩ = some (.int .i64 0) := (HBw4).out.cell 1
  have xb2 : w4.cell? ⟨pb, 2, none⟩ = some (.string ⟨#[116]⟩) := (HBw4).out.cell 2
  have HP2 : Hid (Calls Try.prog 13 #[.pointer (some ⟨q, 0, none⟩), .slice (some ⟨w4.heap.size, 0, none⟩) 1 1] (w4.alloc (.cells #[.int .i64 1, .int .i64 0, .string ⟨#[116]⟩, .int .i64 2, .int .i64 0, .string ⟨#[116]⟩, .int .i64 3] 72)) fun e w' => e = .returned (.tuple #[.int .i64 0, .int .i64 20]) ∧ Hid (Lg w' q m LA ∧ Below w.heap.size w w' ∧ Bx w' pa #[.int .i64 1, .int .i64 0, .string ⟨#[116]⟩] 40 ∧ Bx w' pb #[.int .i64 2, .int .i64 0, .string ⟨#[116]⟩] 40)) := by
    have hbx := Bx.new w4 #[.int .i64 1, .int .i64 0, .string ⟨#[116]⟩, .int .i64 2, .int .i64 0, .string ⟨#[116]⟩, .int .i64 3] 72
    have hml := HL4.out.m.lt
    refine (xpost q m LA gA fA9 [xB] (by simp) (some ⟨w4.heap.size, 0, none⟩) 1 1 (by omega) _ (HL4.out.alloc _) ?_).mono ?_
    · refine ⟨_, _, rfl, fun _ => ⟨w4.heap.size, 0, rfl, by simp, by omega, fun i hi k hk => ?_⟩⟩
      rw [hbx.cell]
      rcases i with _ | i
      · rcases k with _ | _ | _ | _ | _ | _ | _ | k <;> first | rfl | omega
      · simp at hi
    · rintro e w' ⟨rfl, k1, k2⟩
      simp only [List.map_cons, List.map_nil, entB, fA3, fA4, fA8] at k1 ⊢
      have kk := grown_trans (grown_alloc w4 (.cells #[.int .i64 1, .int .i64 0, .string ⟨#[116]⟩, .int .i64 2, .int .i64 0, .string ⟨#[116]⟩, .int .i64 3] 72) (some m)) k2
      exact ⟨rfl, k1, HB4.out.grown kk HB4.out.size (fun k e => by cases e; exact HM.out), HAw4.out.kept kk (by simp; omega), HBw4.out.kept kk (by simp; omega)⟩
  go_upto_region 5 with (go_at_call 13; refine HP2.out.mono ?_; rintro e w5 ⟨rfl, HZ5⟩)
  clear HP2 HL4 HB4 HAw4 HBw4 xa0 xa1 xa2 xb0 xb1 xb2
  have HL5 : Hid (Lg w5 q m LA) := HZ5.out.1
  have HB5 : Hid (Below w.heap.size w w5) := HZ5.out.2.1
  have HAw5 : Hid (Bx w5 pa #[.int .i64 1, .int .i64 0, .string ⟨#[116]⟩] 40) := HZ5.out.2.2.1
  have HBw5 : Hid (Bx w5 pb #[.int .i64 2, .int .i64 0, .string ⟨#[116]⟩] 40) := HZ5.out.2.2.2
  clear HZ5
  have ya0 : w5.cell? ⟨pa, 0, none⟩ = some (.int .i64 1) := HAw5.out.cell 0
  have ya1 : w5.cell? ⟨pa, 1, none⟩ = some (.int .i64 0) := HAw5.out.cell 1
  have ya2 : w5.cell? ⟨pa, 2, none⟩ = some (.string ⟨#[116]⟩) := HAw5.out.cell 2
  have HQ1 : Hid (Calls Try.prog 20 #[.pointer (some ⟨q, 0, none⟩), .agg #[.int .i64 1, .int .i64 0, .string ⟨#[116]⟩]] w5 fun e w' => e = .returned (.int .i64 2) ∧ Hid (Below w5.heap.size w5 w')) := by
    refine (xbal q m LA 1 0 ⟨#[116]⟩ ⟨by decide, by decide, by rw [tL]; decide⟩ w5 HL5.out).mono ?_
    rintro e w' ⟨rfl, hb⟩
    rw [tL, fA5]
    exact ⟨rfl, hb⟩
  have HQ2 : Hid (∀ w6, Below w5.heap.size w5 w6 → Calls Try.prog 20 #[.pointer (some ⟨q, 0, none⟩), .agg #[.int .i64 2, .int .i64 0, .string ⟨#[116]⟩]] w6 fun e w' => e = .returned (.int .i64 3) ∧ Hid (Below w5.heap.size w5 w')) := by
    intro w6 h6
    refine (xbal q m LA 2 0 ⟨#[116]⟩ ⟨by decide, by decide, by rw [tL]; decide⟩ w6 (HL5.out.below h6)).mono ?_
    rintro e w' ⟨rfl, hb⟩
    rw [tL, fA6]
    exact ⟨rfl, h6.trans (hb.mono h6.size)⟩
  have HQ3 : Hid (∀ w6, Below w5.heap.size w5 w6 → Calls Try.prog 24 #[.pointer (some ⟨q, 0, none⟩), .string ⟨#[116]⟩] w6 fun e w' => e = .returned (.int .i64 5) ∧ Hid (Below w.heap.size w w')) := by
    intro w6 h6
    refine (xout q m LA ⟨#[116]⟩ w6 (HL5.out.below h6)).mono ?_
    rintro e w' ⟨rfl, hb⟩
    rw [tL, fA7, show wrap64 (-wrap64 (-5)) = 5 by unfold wrap64; omega]
    exact ⟨rfl, HB5.out.trans ((h6.trans (hb.mono h6.size)).mono HB5.out.size)⟩
  go_wp2_with (first | (go_at_call 20; refine HQ1.out.mono ?_; clear HQ1; rintro e w6 ⟨rfl, HB6⟩; have zb0 : w6.cell? ⟨pb, 0, none⟩ = some (.int .i64 2) := (HBw5.out.below HB6.out HBw5.out.lt).cell 0; have zb1 : w6.cell? ⟨pb, 1, none⟩ = some (.int .i64 0) := (HBw5.out.below HB6.out HBw5.out.lt).cell 1; have zb2 : w6.cell? ⟨pb, 2, none⟩ = some (.string ⟨#[116]⟩) := (HBw5.out.below HB6.out HBw5.out.lt).cell 2) | (go_at_call 20; refine (HQ2.out _ HB6.out).mono ?_; clear HQ2; rintro e w7 ⟨rfl, HB7⟩) | (go_at_call 24; refine (HQ3.out _ HB7.out).mono ?_; rintro e w8 ⟨rfl, HB8⟩))
  go_ret
  exact ⟨rfl, HB8.out⟩
end Go.Proofs.Yteoibfegekipjaa
