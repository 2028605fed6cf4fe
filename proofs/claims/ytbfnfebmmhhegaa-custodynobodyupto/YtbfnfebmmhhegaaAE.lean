/- layer 11: the document: an entry done -/
import Derived.Test.YtbfnfebmmhhegaaAD
import Derived.WalkKit
import Derived.ProofKit
import Derived.Handy
import Derived.WalkLawsBesides
import Derived.WalkSpells
import Derived.BigQuiet
import Derived.BigCall
import Derived.Deep.QuietTactic
import Derived.Deep.Light
import Derived.Deep.OwnRows
import Derived.Laws.AppendOwnNone
import Derived.Laws.Strings3
import Derived.Laws.RangeAny
import Derived.Deep.RegionWith
import Derived.Lib.BitFns
import Derived.Lib.Walk
import Derived.Lib.Strings
import Derived.Lib.OthersKept
import Derived.Deep.CutBlock
import Derived.Deep.DeepCutAuto
import Derived.Deep.LoopGhost
import Derived.Deep.RegionHeld3
import Derived.Lib.SmallJoins
import Derived.Maps.AppendAt
import Derived.Laws.IdiomStrings
import Derived.Lib.AppendZeros
import Derived.Deep.WholeRow
import Derived.Laws.BitsAllLaws
import Derived.Lib.ConvBytes
import Derived.Deep.RegionLaw
import Derived.Maps.OwnSet
import Derived.Maps.OwnOps
import Derived.Maps.RangeWalk
import Derived.Maps.Ext
import Derived.DeepKeys4
import Derived.Laws.StructEq
import Derived.Shelf.SlSortCmp.NoneTotal
namespace Go.Proofs.Ytbfnfebmmhhegaa
open Go.RowKit
set_option linter.unusedVariables false
set_option linter.unusedSimpArgs false
set_option maxRecDepth 20000
def nx (L : List Num.Bal) (e : Num.Ent) : List Num.Bal := if Num.flt L e = 0 then Num.mv L e.1 e.2.1 e.2.2 else L
def MovP (L : List Num.Bal) (e : Num.Ent) (w : World) (x : Ending) (w' : World) : Prop := ∃ a' cap', x = .returned (.tuple #[.slice a' (nx L e).length cap', .int .i64 (Num.flt L e)]) ∧ (nx L e).length ≤ cap' ∧ Bs w' a' (nx L e) ∧ Below w.heap.size w w'
theorem setp_bs {L : List Num.Bal} {w : World} {v : Value} {w' : World} (h : w'.ownsRow w.heap.size 68 4 v L.length (bcells L)) : ∃ a cap, v = .slice a L.length cap ∧ L.length ≤ cap ∧ Bs w' a L := own_bs h rfl
set_option maxHeartbeats 16000000 in
theorem rmove (L : List Num.Bal) (g : Num.Good L) (hl : L.length ≤ 100000) (a : Option Addr) (cap : Nat) (hcap : L.length ≤ cap) (o b o2 b2 n : Int) (s s2 : ByteArray) (w : World) (h : Bs w a L) : Calls Try.prog 76 #[.slice a L.length cap, .agg #[.int .i64 o, .int .i64 b, .string s, .int .i64 o2, .int .i64 b2, .string s2, .int .i64 n]] w (MovP L ((o, b, s.toList), (o2, b2, s2.toList), n) w) := by
  obtain ⟨w1, hw1⟩ : ∃ w1, w1 = w.alloc (.cells #[.int .i64 o, .int .i64 b, .string s, .int .i64 o2, .int .i64 b2, .string s2, .int .i64 n] 112) := ⟨_, rfl⟩
  have HW : Hid (w.alloc (.cells #[.int .i64 o, .int .i64 b, .string s, .int .i64 o2, .int .i64 b2, .string s2, .int .i64 n] 112) = w1) := hw1.symm
  have hX : Bx w1 w.heap.size #[.int .i64 o, .int .i64 b, .string s, .int .i64 o2, .int .i64 b2, .string s2, .int .i64 n] 112 := by rw [hw1]; exact Bx.new w _ _
  have hb1 : Below w.heap.size w w1 := by rw [hw1]; exact (Below.refl _ w).alloc (Nat.le_refl _) _
  have HBs : Hid (∀ W, Below w1.heap.size w1 W → Bs W a L) := fun W hW => (h.below hb1).below hW
  have HNO : Hid (∀ F w', Num.flt L ((o, b, s.toList), (o2, b2, s2.toList), n) = F → F ≠ 0 → Below w1.heap.size w1 w' → MovP L ((o, b, s.toList), (o2, b2, s2.toList), n) w (.returned (.tuple #[.slice a L.length cap, .int .i64 F])) w') := fun F w' hF hF0 hb => by
    have e : nx L ((o, b, s.toList), (o2, b2, s2.toList), n) = L := if_neg (by rw [hF]; exact hF0)
    refine ⟨a, cap, ?_, ?_, ?_, hb1.trans (hb.mono hb1.size)⟩
    · rw [e, hF]
    · rw [e]; exact hcap
    · rw [e]; exact HBs.out w' hb
  have HY : Hid (∀ W, Below w1.heap.size w1 W → W.cell? ⟨w.heap.size, 0, none⟩ = some (.int .i64 o) ∧ W.cell? ⟨w.heap.size, 1, none⟩ = some (.int .i64 b) ∧ W.cell? ⟨w.heap.size, 2, none⟩ = some (.string s) ∧ W.cell? ⟨w.heap.size, 3, none⟩ = some (.int .i64 o2) ∧ W.cell? ⟨w.heap.size, 4, none⟩ = some (.int .i64 b2) ∧ W.cell? ⟨w.heap.size, 5, none⟩ = some (.string s2) ∧ W.cell? ⟨w.heap.size, 6, none⟩ = some (.int .i64 n)) := fun W hW => ⟨(hX.below hW hX.lt).cell 0, (hX.below hW hX.lt).cell 1, (hX.below hW hX.lt).cell 2, (hX.below hW hX.lt).cell 3, (hX.below hW hX.lt).cell 4, (hX.below hW hX.lt).cell 5, (hX.below hW hX.lt).cell 6⟩
  have HB1 : Hid (Below w.heap.size w w1) := hb1
  have HR1 : Hid (Below w1.heap.size w1 w1) := Below.refl _ _
  have HWf : Hid (∀ W, Below w1.heap.size w1 W → Calls Try.prog 71 #[.agg #[.int .i64 o, .int .i64 b, .string s]] W fun e w' => e = .returned (.int .i64 (Num.wr (o, b, s.toList))) ∧ Below w1.heap.size w1 w') := fun W hW => (rwrong o b s W).mono fun _ _ k => ⟨k.1, by rw [k.2]; exact hW.alloc hW.size _⟩
  have HWt : Hid (∀ W, Below w1.heap.size w1 W → Calls Try.prog 71 #[.agg #[.int .i64 o2, .int .i64 b2, .string s2]] W fun e w' => e = .returned (.int .i64 (Num.wr (o2, b2, s2.toList))) ∧ Below w1.heap.size w1 w') := fun W hW => (rwrong o2 b2 s2 W).mono fun _ _ k => ⟨k.1, by rw [k.2]; exact hW.alloc hW.size _⟩
  obtain ⟨z0, z1, z2, z3, z4, z5, z6⟩ := HY.out w1 (Below.refl _ _)
  have HGd : Hid (Num.Good L) := g
  have HLl : Hid (L.length ≤ 100000) := hl
  clear h hX hb1 hw1 g hl
  by_cases hA : n < 1
  · have HF : Hid (∀ w', Below w1.heap.size w1 w' → MovP L ((o, b, s.toList), (o2, b2, s2.toList), n) w (.returned (.tuple #[.slice a L.length cap, .int .i64 1])) w') := fun w' hb => HNO.out 1 w' (if_pos (.inl hA)) (by decide) hb
    clear HNO HWf HWt HY
    go_enter Try.func76, Try.ntmps76
    go_upto_region 1 with fail
    rw [HW.out]
    go_wp2_with fail
    go_returns
    exact HF.out _ HR1.out
  by_cases hB : 1125899906842624 < n
  · have HF : Hid (∀ w', Below w1.heap.size w1 w' → MovP L ((o, b, s.toList), (o2, b2, s2.toList), n) w (.returned (.tuple #[.slice a L.length cap, .int .i64 1])) w') := fun w' hb => HNO.out 1 w' (if_pos (.inr hB)) (by decide) hb
    clear HNO HWf HWt HY
    go_enter Try.func76, Try.ntmps76
    go_upto_region 1 with fail
    rw [HW.out]
    go_wp2_with fail
    go_returns
    exact HF.out _ HR1.out
  have f0 : ¬ (n < 1 ∨ 1125899906842624 < n) := by omega
  by_cases hC : Num.wr (o, b, s.toList) = 0
  case neg =>
    have hC' : (Num.wr (o, b, s.toList) != 0) = true := by simp [hC]
    have HF : Hid (∀ w', Below w1.heap.size w1 w' → MovP L ((o, b, s.toList), (o2, b2, s2.toList), n) w (.returned (.tuple #[.slice a L.length cap, .int .i64 (Num.wr (o, b, s.toList))])) w') := fun w' hb => HNO.out _ w' ((if_neg f0).trans (if_pos hC)) hC hb
    generalize Num.wr (o, b, s.toList) = F1 at *
    clear HNO HWt f0 hC
    go_enter Try.func76, Try.ntmps76
    go_upto_region 1 with fail
    rw [HW.out]
    go_wp2_with (first | (go_at_call 71; refine (HWf.out _ HR1.out).mono ?_; rintro e w2 ⟨rfl, hb2⟩; obtain ⟨y0, y1, y2, y3, y4, y5, y6⟩ := HY.out _ hb2; have HR2 : Hid (Below w1.heap.size w1 w2) := hb2; clear hb2 HR1) | (go_at_call 71; refine (HWf.out _ HR2.out).mono ?_; rintro e w3 ⟨rfl, hb3⟩; have HR3 : Hid (Below w1.heap.size w1 w3) := hb3; clear hb3 HR2))
    go_returns
    exact HF.out _ HR3.out
  by_cases hD : Num.wr (o2, b2, s2.toList) = 0
  case neg =>
    have hD' : (Num.wr (o2, b2, s2.toList) != 0) = true := by simp [hD]
    have HF : Hid (∀ w', Below w1.heap.size w1 w' → MovP L ((o, b, s.toList), (o2, b2, s2.toList), n) w (.returned (.tuple #[.slice a L.length cap, .int .i64 (Num.wr (o2, b2, s2.toList))])) w') := fun w' hb => HNO.out _ w' ((if_neg f0).trans ((if_neg (by simp [hC])).trans (if_pos hD))) hD hb
    rw [hC] at HWf
    generalize Num.wr (o2, b2, s2.toList) = F2 at *
    clear HNO f0 hC hD
    go_enter Try.func76, Try.ntmps76
    go_upto_region 1 with fail
    rw [HW.out]
    go_wp2_with (first | (go_at_call 71; refine (HWf.out _ HR1.out).mono ?_; rintro e w2 ⟨rfl, hb2⟩; obtain ⟨y0, y1, y2, y3, y4, y5, y6⟩ := HY.out _ hb2; have HR2 : Hid (Below w1.heap.size w1 w2) := hb2; clear hb2 HR1) | (go_at_call 71; refine (HWt.out _ HR2.out).mono ?_; rintro e w3 ⟨rfl, hb3⟩; obtain ⟨x0, x1, x2, x3, x4, x5, x6⟩ := HY.out _ hb3; have HR3 : Hid (Below w1.heap.size w1 w3) := hb3; clear hb3 HR2) | (go_at_call 71; refine (HWt.out _ HR3.out).mono ?_; rintro e w4 ⟨rfl, hb4⟩; have HR4 : Hid (Below w1.heap.size w1 w4) := hb4; clear hb4 HR3))
    go_returns
    exact HF.out _ HR4.out
  by_cases hE : s.toList = s2.toList
  case neg =>
    have hE' : (s.toList == s2.toList) = false := by simp [hE]
    have HF : Hid (∀ w', Below w1.heap.size w1 w' → MovP L ((o, b, s.toList), (o2, b2, s2.toList), n) w (.returned (.tuple #[.slice a L.length cap, .int .i64 21])) w') := fun w' hb => HNO.out _ w' ((if_neg f0).trans ((if_neg (by simp [hC])).trans ((if_neg (by simp [hD])).trans (if_pos hE)))) (by decide) hb
    rw [hC] at HWf
    rw [hD] at HWt
    clear HNO f0 hC hD hE
    go_enter Try.func76, Try.ntmps76
    go_upto_region 1 with fail
    rw [HW.out]
    go_wp2_with (first | (go_at_call 71; refine (HWf.out _ HR1.out).mono ?_; rintro e w2 ⟨rfl, hb2⟩; obtain ⟨y0, y1, y2, y3, y4, y5, y6⟩ := HY.out _ hb2; have HR2 : Hid (Below w1.heap.size w1 w2) := hb2; clear hb2 HR1) | (go_at_call 71; refine (HWt.out _ HR2.out).mono ?_; rintro e w3 ⟨rfl, hb3⟩; obtain ⟨x0, x1, x2, x3, x4, x5, x6⟩ := HY.out _ hb3; have HR3 : Hid (Below w1.heap.size w1 w3) := hb3; clear hb3 HR2))
    go_returns
    exact HF.out _ HR3.out
  have hE' : (s.toList == s2.toList) = true := by simp [hE]
  have gb := HGd.out.get (o, b, s.toList)
  have HGe : Hid (∀ W, Below w1.heap.size w1 W → Calls Try.prog 15 #[.slice a L.length cap, .agg #[.int .i64 o, .int .i64 b, .string s]] W fun e w' => e = .returned (.int .i64 (Num.get L (o, b, s.toList))) ∧ Below W.heap.size W w') := fun W hW => (rget L (by have := HLl.out; omega) a cap o b s W (HBs.out W hW)).mono fun _ _ k => k
  have HFl : Hid (∀ F, (if Num.get L (o, b, s.toList) - n < 0 ∧ 0 < o then (20 : Int) else if Num.get L (o, b, s.toList) - n < -72057594037927936 ∨ 72057594037927936 < Num.get (Num.set L (o, b, s.toList) (Num.get L (o, b, s.toList) - n)) (o2, b2, s2.toList) + n then 9 else 0) = F → Num.flt L ((o, b, s.toList), (o2, b2, s2.toList), n) = F) := fun F hF => (if_neg f0).trans ((if_neg (by simp [hC])).trans ((if_neg (by simp [hD])).trans ((if_neg (by simp [hE])).trans hF)))
  have HSe : Hid (∀ W, Below w1.heap.size w1 W → Calls Try.prog 87 #[.slice a L.length cap, .agg #[.int .i64 o, .int .i64 b, .string s], .int .i64 (Num.get L (o, b, s.toList) - n)] W (SetP (Num.set L (o, b, s.toList) (Num.get L (o, b, s.toList) - n)) W)) := fun W hW => rset L (by have := HLl.out; omega) a cap o b _ s W (HBs.out W hW)
  have HM : Hid (Num.mv L (o, b, s.toList) (o2, b2, s2.toList) n = Num.set (Num.set L (o, b, s.toList) (Num.get L (o, b, s.toList) - n)) (o2, b2, s2.toList) (Num.get (Num.set L (o, b, s.toList) (Num.get L (o, b, s.toList) - n)) (o2, b2, s2.toList) + n)) := rfl
  have hg2 : -72057594037927936 - 72057594037927936 ≤ Num.get (Num.set L (o, b, s.toList) (Num.get L (o, b, s.toList) - n)) (o2, b2, s2.toList) ∧ Num.get (Num.set L (o, b, s.toList) (Num.get L (o, b, s.toList) - n)) (o2, b2, s2.toList) ≤ 72057594037927936 := by
    have gc := HGd.out.get (o2, b2, s2.toList)
    rw [Num.get_set]
    split <;> omega
  have hlen : (Num.set L (o, b, s.toList) (Num.get L (o, b, s.toList) - n)).length ≤ 200000 := by have := Num.length_set L (o, b, s.toList) (Num.get L (o, b, s.toList) - n); have := HLl.out; omega
  obtain ⟨L2, hL2⟩ : ∃ L2, L2 = Num.set L (o, b, s.toList) (Num.get L (o, b, s.toList) - n) := ⟨_, rfl⟩
  rw [← hL2] at HFl HSe HM hg2 hlen
  clear hL2
  generalize Num.get L (o, b, s.toList) = G1 at *
  obtain ⟨G2, hG2⟩ : ∃ G2, G2 = Num.get L2 (o2, b2, s2.toList) := ⟨_, rfl⟩
  have HG2 : Hid (∀ W a' cap', Bs W a' L2 → Calls Try.prog 15 #[.slice a' L2.length cap', .agg #[.int .i64 o2, .int .i64 b2, .string s2]] W fun e w' => e = .returned (.int .i64 G2) ∧ Below W.heap.size W w') := fun W a' cap' hW => by rw [hG2]; exact (rget L2 (by omega) a' cap' o2 b2 s2 W hW).mono fun _ _ k => k
  have HS2 : Hid (∀ W a' cap', Bs W a' L2 → Calls Try.prog 87 #[.slice a' L2.length cap', .agg #[.int .i64 o2, .int .i64 b2, .string s2], .int .i64 (G2 + n)] W (SetP (Num.mv L (o, b, s.toList) (o2, b2, s2.toList) n) W)) := fun W a' cap' hW => by rw [HM.out, ← hG2]; exact rset L2 (by omega) a' cap' o2 b2 _ s2 W hW
  rw [← hG2] at HFl hg2
  have r1 : Rng (G1 - n) := by unfold Rng; omega
  have r2 : Rng (G2 + n) := by unfold Rng; omega
  have i1 := r1.w
  have i2 := r1.w64
  have i3 := r2.w
  have i4 := r2.w64
  have HYES : Hid (Num.flt L ((o, b, s.toList), (o2, b2, s2.toList), n) = 0 → ∀ v W W', Below w1.heap.size w1 W → W'.ownsRow W.heap.size 68 4 v (Num.mv L (o, b, s.toList) (o2, b2, s2.toList) n).length (bcells (Num.mv L (o, b, s.toList) (o2, b2, s2.toList) n)) → Below W.heap.size W W' → MovP L ((o, b, s.toList), (o2, b2, s2.toList), n) w (.returned (.tuple #[v, .int .i64 0])) W') := fun hF v W W' hW ho hb => by
    obtain ⟨a', c', rfl, hc', hB'⟩ := own_bs ho rfl
    have e : nx L ((o, b, s.toList), (o2, b2, s2.toList), n) = Num.mv L (o, b, s.toList) (o2, b2, s2.toList) n := if_pos hF
    refine ⟨a', c', ?_, ?_, ?_, HB1.out.trans ((hW.trans (hb.mono hW.size)).mono HB1.out.size)⟩
    · rw [e, hF]
    · rw [e]; exact hc'
    · rw [e]; exact hB'
  rw [hC] at HWf
  rw [hD] at HWt
  clear HM hG2 f0 hC hD hE gb r1 r2
  go_enter Try.func76, Try.ntmps76
  go_upto_region 1 with fail
  rw [HW.out]
  go_upto_region 9 with (first | (go_at_call 71; refine (HWf.out _ HR1.out).mono ?_; rintro e w2 ⟨rfl, hb2⟩; obtain ⟨y0, y1, y2, y3, y4, y5, y6⟩ := HY.out _ hb2; have HR2 : Hid (Below w1.heap.size w1 w2) := hb2; clear hb2 HR1) | (go_at_call 71; refine (HWt.out _ HR2.out).mono ?_; rintro e w3 ⟨rfl, hb3⟩; obtain ⟨x0, x1, x2, x3, x4, x5, x6⟩ := HY.out _ hb3; have HR3 : Hid (Below w1.heap.size w1 w3) := hb3; clear hb3 HR2))
  clear y0 y1 y2 y3 y4 y5 y6 x0 x1 x2 x3 x4 x5 x6 z0 z1 z2 z3 z4 z5 z6 HWf HWt
  refine wp_region_held (S := fun W => Below w1.heap.size w1 W) (by kernel_rfl) ?_
  change wpAnyH _ _ _ _ _ 8 #[false, false, false, false, false, false, false, false] _ w3.drew
  have hT0 : Below w3.heap.size w3 w3.drew := ⟨rfl, rfl, rfl, Nat.le_refl _, fun _ _ => rfl⟩
  have hS0 : Below w1.heap.size w1 w3.drew := HR3.out.trans (hT0.mono HR3.out.size)
  obtain ⟨v0, hv0⟩ : ∃ v, v = w3.drew := ⟨_, rfl⟩
  rw [← hv0] at hS0 hT0 ⊢
  clear hv0
  refine takeR (fuel := 7) (i := 0) (v := .slice a L.length cap) rfl (by kernel_rfl) (by kernel_rfl) (by kernel_rfl) (fun _ _ _ h => h) (Or.inl ⟨rfl, fun W hW => by go_simp⟩) hS0 ?_
  simp only [Act.put, List.setIfInBounds_toArray, List.set_cons_zero, List.set_cons_succ]
  refine takeR (fuel := 6) (i := 1) (v := .pointer (some ⟨w.heap.size, 0, none⟩)) rfl (by kernel_rfl) (by kernel_rfl) (by kernel_rfl) (fun _ _ _ h => h) (Or.inl ⟨rfl, fun W hW => by go_simp⟩) hS0 ?_
  simp only [Act.put, List.setIfInBounds_toArray, List.set_cons_zero, List.set_cons_succ]
  refine takeR (fuel := 5) (i := 2) (v := .agg #[.int .i64 o, .int .i64 b, .string s]) rfl (by kernel_rfl) (by kernel_rfl) (by kernel_rfl) (fun _ _ _ h => h) (Or.inl ⟨rfl, fun W hW => exl _ _ _ _ rfl _ _ rfl (load42 W w.heap.size 0 _ _ _ _ _ rfl rfl (HY.out W hW).1 (HY.out W hW).2.1 (HY.out W hW).2.2.1)⟩) hS0 ?_
  simp only [Act.put, List.setIfInBounds_toArray, List.set_cons_zero, List.set_cons_succ]
  refine takeR (fuel := 4) (i := 4) (v := .pointer (some ⟨w.heap.size, 6, none⟩)) rfl (by kernel_rfl) (by kernel_rfl) (by kernel_rfl) (fun _ _ _ h => h) (Or.inl ⟨rfl, fun W hW => by go_simp⟩) hS0 ?_
  simp only [Act.put, List.setIfInBounds_toArray, List.set_cons_zero, List.set_cons_succ]
  refine takeR (fuel := 3) (i := 5) (v := .int .i64 n) rfl (by kernel_rfl) (by kernel_rfl) (by kernel_rfl) (fun _ _ _ h => h) (Or.inl ⟨rfl, fun W hW => by have cj : W.cell? ⟨w.heap.size, 6, none⟩ = some (.int .i64 n) := (HY.out W hW).2.2.2.2.2.2; go_simp⟩) hS0 ?_
  simp only [Act.put, List.setIfInBounds_toArray, List.set_cons_zero, List.set_cons_succ]
  refine consR (fuel := 2) (i := 3) rfl (by kernel_rfl) (fun K hK => ?_)
  rw [if_pos (by rfl)]
  go_simp
  refine (HGe.out v0 hS0).mono ?_
  rintro e v1 ⟨rfl, hC⟩
  refine hK.out _ _ (hS0.trans (hC.mono hS0.size)) (fun hS1 => ?_)
  have hT1 := hT0.trans (hC.mono hT0.size)
  clear hK hC
  try simp only [Act.put, List.setIfInBounds_toArray, List.set_cons_zero, List.set_cons_succ]
  refine takeR (fuel := 1) (i := 6) (v := .int .i64 (G1 - n)) rfl (by kernel_rfl) (by kernel_rfl) (by kernel_rfl) (fun _ _ _ h => h) (Or.inl ⟨rfl, fun W hW => by go_simp⟩) hS1 ?_
  simp only [Act.put, List.setIfInBounds_toArray, List.set_cons_zero, List.set_cons_succ]
  refine takeR (fuel := 0) (i := 7) (v := .int .i64 (G1 - n)) rfl (by kernel_rfl) (by kernel_rfl) (by kernel_rfl) (fun _ _ _ h => h) (Or.inl ⟨rfl, fun W hW => by go_simp⟩) hS1 ?_
  simp only [Act.put, List.setIfInBounds_toArray, List.set_cons_zero, List.set_cons_succ]
  refine wpAnyH_done (by kernel_rfl) ?_ _
  obtain ⟨q0, q1, q2, q3, q4, q5, q6⟩ := HY.out v1 hS1
  have HRv : Hid (Below w1.heap.size w1 v1) := hS1
  clear hS0 hS1
  by_cases hH : G1 - n < 0 ∧ 0 < o
  · obtain ⟨hH1, hH2⟩ := hH
    have HF : Hid (MovP L ((o, b, s.toList), (o2, b2, s2.toList), n) w (.returned (.tuple #[.slice a L.length cap, .int .i64 20])) v1) := HNO.out 20 v1 (HFl.out 20 (if_pos ⟨hH1, hH2⟩)) (by decide) HRv.out
    clear HNO HFl HYES
    go_wp2_with fail
    go_returns
    exact HF.out
  have HF2 : Hid (∀ F, (if G1 - n < -72057594037927936 ∨ 72057594037927936 < G2 + n then (9 : Int) else 0) = F → Num.flt L ((o, b, s.toList), (o2, b2, s2.toList), n) = F) := fun F hF => HFl.out F ((if_neg hH).trans hF)
  have hcs : (G1 - n < 0 ∧ ¬ 0 < o) ∨ ¬ G1 - n < 0 := by
    by_cases c : G1 - n < 0
    · exact .inl ⟨c, fun k => hH ⟨c, k⟩⟩
    · exact .inr c
  clear hH HFl
  rcases hcs with ⟨hH1, hH2⟩ | hH1
  all_goals
    go_upto_region 13 with (go_at_call 87; refine (HSe.out _ HRv.out).mono ?_; rintro e w5 ⟨v7, rfl, ho7, hb7⟩; obtain ⟨a7, c7, rfl, hc7, hB7⟩ := own_bs ho7 rfl; have HB7 : Hid (Bs w5 a7 L2) := hB7; have HR5 : Hid (Below w1.heap.size w1 w5) := HRv.out.trans (hb7.mono HRv.out.size); clear hB7 hb7 ho7 hc7)
    clear q0 q1 q2 q3 q4 q5 q6
    refine wp_region_held (S := fun W => Below w1.heap.size w1 W) (by kernel_rfl) ?_
    change wpAnyH _ _ _ _ _ 8 #[false, false, false, false, false, false, false, false] _ w5.drew
    have hT2 : Below w5.heap.size w5 w5.drew := ⟨rfl, rfl, rfl, Nat.le_refl _, fun _ _ => rfl⟩
    have hS2 : Below w1.heap.size w1 w5.drew := HR5.out.trans (hT2.mono HR5.out.size)
    obtain ⟨v2, hv0⟩ : ∃ v, v = w5.drew := ⟨_, rfl⟩
    rw [← hv0] at hS2 hT2 ⊢
    clear hv0
    refine takeR (fuel := 7) (i := 0) (v := .slice a7 L2.length c7) rfl (by kernel_rfl) (by kernel_rfl) (by kernel_rfl) (fun _ _ _ h => h) (Or.inl ⟨rfl, fun W hW => by go_simp⟩) hS2 ?_
    simp only [Act.put, List.setIfInBounds_toArray, List.set_cons_zero, List.set_cons_succ]
    refine takeR (fuel := 6) (i := 1) (v := .pointer (some ⟨w.heap.size, 3, none⟩)) rfl (by kernel_rfl) (by kernel_rfl) (by kernel_rfl) (fun _ _ _ h => h) (Or.inl ⟨rfl, fun W hW => by go_simp⟩) hS2 ?_
    simp only [Act.put, List.setIfInBounds_toArray, List.set_cons_zero, List.set_cons_succ]
    refine takeR (fuel := 5) (i := 2) (v := .agg #[.int .i64 o2, .int .i64 b2, .string s2]) rfl (by kernel_rfl) (by kernel_rfl) (by kernel_rfl) (fun _ _ _ h => h) (Or.inl ⟨rfl, fun W hW => exl _ _ _ _ rfl _ _ rfl (load42 W w.heap.size 3 _ _ _ _ _ rfl rfl (HY.out W hW).2.2.2.1 (HY.out W hW).2.2.2.2.1 (HY.out W hW).2.2.2.2.2.1)⟩) hS2 ?_
    simp only [Act.put, List.setIfInBounds_toArray, List.set_cons_zero, List.set_cons_succ]
    refine takeR (fuel := 4) (i := 4) (v := .pointer (some ⟨w.heap.size, 6, none⟩)) rfl (by kernel_rfl) (by kernel_rfl) (by kernel_rfl) (fun _ _ _ h => h) (Or.inl ⟨rfl, fun W hW => by go_simp⟩) hS2 ?_
    simp only [Act.put, List.setIfInBounds_toArray, List.set_cons_zero, List.set_cons_succ]
    refine takeR (fuel := 3) (i := 5) (v := .int .i64 n) rfl (by kernel_rfl) (by kernel_rfl) (by kernel_rfl) (fun _ _ _ h => h) (Or.inl ⟨rfl, fun W hW => by have cj : W.cell? ⟨w.heap.size, 6, none⟩ = some (.int .i64 n) := (HY.out W hW).2.2.2.2.2.2; go_simp⟩) hS2 ?_
    simp only [Act.put, List.setIfInBounds_toArray, List.set_cons_zero, List.set_cons_succ]
    refine consR (fuel := 2) (i := 3) rfl (by kernel_rfl) (fun K hK => ?_)
    rw [if_pos (by rfl)]
    go_simp
    refine (HG2.out v2 a7 c7 (HB7.out.below hT2)).mono ?_
    rintro e v3 ⟨rfl, hC⟩
    refine hK.out _ _ (hS2.trans (hC.mono hS2.size)) (fun hS3 => ?_)
    have hT3 := hT2.trans (hC.mono hT2.size)
    clear hK hC
    try simp only [Act.put, List.setIfInBounds_toArray, List.set_cons_zero, List.set_cons_succ]
    refine takeR (fuel := 1) (i := 6) (v := .int .i64 (G2 + n)) rfl (by kernel_rfl) (by kernel_rfl) (by kernel_rfl) (fun _ _ _ h => h) (Or.inl ⟨rfl, fun W hW => by go_simp⟩) hS3 ?_
    simp only [Act.put, List.setIfInBounds_toArray, List.set_cons_zero, List.set_cons_succ]
    refine takeR (fuel := 0) (i := 7) (v := .int .i64 (G2 + n)) rfl (by kernel_rfl) (by kernel_rfl) (by kernel_rfl) (fun _ _ _ h => h) (Or.inl ⟨rfl, fun W hW => by go_simp⟩) hS3 ?_
    simp only [Act.put, List.setIfInBounds_toArray, List.set_cons_zero, List.set_cons_succ]
    refine wpAnyH_done (by kernel_rfl) ?_ _
    obtain ⟨q0, q1, q2, q3, q4, q5, q6⟩ := HY.out v3 hS3
    have HRw : Hid (Below w1.heap.size w1 v3 ∧ Bs v3 a7 L2) := ⟨hS3, HB7.out.below hT3⟩
    clear hS2 hS3 hT2 hT3
    by_cases hI : G1 - n < -72057594037927936
    · have HF : Hid (MovP L ((o, b, s.toList), (o2, b2, s2.toList), n) w (.returned (.tuple #[.slice a L.length cap, .int .i64 9])) v3) := HNO.out 9 v3 (HF2.out 9 (if_pos (.inl hI))) (by decide) HRw.out.1
      clear HNO HF2 HYES
      go_wp2_with fail
      go_returns
      exact HF.out
    by_cases hJ : 72057594037927936 < G2 + n
    · have HF : Hid (MovP L ((o, b, s.toList), (o2, b2, s2.toList), n) w (.returned (.tuple #[.slice a L.length cap, .int .i64 9])) v3) := HNO.out 9 v3 (HF2.out 9 (if_pos (.inr hJ))) (by decide) HRw.out.1
      clear HNO HF2 HYES
      go_wp2_with fail
      go_returns
      exact HF.out
    have HZ : Hid (Calls Try.prog 87 #[.slice a7 L2.length c7, .agg #[.int .i64 o2, .int .i64 b2, .string s2], .int .i64 (G2 + n)] v3 fun e w' => ∃ v, e = .returned v ∧ Hid (MovP L ((o, b, s.toList), (o2, b2, s2.toList), n) w (.returned (.tuple #[v, .int .i64 0])) w')) := (HS2.out v3 a7 c7 HRw.out.2).mono fun e w' ⟨v, hv, ho, hb⟩ => ⟨v, hv, HYES.out (HF2.out 0 (if_neg (by omega))) v v3 w' HRw.out.1 ho hb⟩
    clear HNO HF2 HYES HS2
    go_wp2_with (go_at_call 87; refine HZ.out.mono ?_; rintro e w9 ⟨v9, rfl, HK⟩)
    go_returns
    exact HK.out
end Go.Proofs.Ytbfnfebmmhhegaa
