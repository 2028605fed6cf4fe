/- layer 11: the document: balances with what an account has -/
import Derived.Test.YtbfnfebmmhhegaaAC
import Derived.WalkKit
import Derived.ProofKit
import Derived.Handy
import Derived.WalkLawsBesides
import Derived.WalkSpells
import Derived.BigQuiet
import Derived.BigCall
import Derived.Deep.QuietTactic
import Derived.Deep.Light
import Derived.Deep.OwnRows
import Derived.Laws.AppendOwnNone
import Derived.Laws.Strings3
import Derived.Laws.RangeAny
import Derived.Deep.RegionWith
import Derived.Lib.BitFns
import Derived.Lib.Walk
import Derived.Lib.Strings
import Derived.Lib.OthersKept
import Derived.Deep.CutBlock
import Derived.Deep.DeepCutAuto
import Derived.Deep.LoopGhost
import Derived.Deep.RegionHeld3
import Derived.Lib.SmallJoins
import Derived.Maps.AppendAt
import Derived.Laws.IdiomStrings
import Derived.Lib.AppendZeros
import Derived.Deep.WholeRow
import Derived.Laws.BitsAllLaws
import Derived.Lib.ConvBytes
import Derived.Deep.RegionLaw
import Derived.Maps.OwnSet
import Derived.Maps.OwnOps
import Derived.Maps.RangeWalk
import Derived.Maps.Ext
import Derived.DeepKeys4
import Derived.Laws.StructEq
import Derived.Shelf.SlSortCmp.NoneTotal
namespace Go.Proofs.Ytbfnfebmmhhegaa
open Go.RowKit
set_option linter.unusedVariables false
set_option linter.unusedSimpArgs false
set_option maxRecDepth 20000
def SetP (L : List Num.Bal) (w : World) (e : Ending) (w' : World) : Prop := ∃ v, e = .returned v ∧ w'.ownsRow w.heap.size 68 4 v L.length (bcells L) ∧ Below w.heap.size w w'
theorem load44 (W : World) (b p p1 p2 p3 : Nat) (v0 v1 v2 v3 : Value) (h1 : p1 = p + 1) (h2 : p2 = p + 2) (h3 : p3 = p + 3) (c0 : W.cell? ⟨b, p, none⟩ = some v0) (c1 : W.cell? ⟨b, p1, none⟩ = some v1) (c2 : W.cell? ⟨b, p2, none⟩ = some v2) (c3 : W.cell? ⟨b, p3, none⟩ = some v3) : (Instr.loadAt 68 (.pointer (some ⟨b, p, none⟩))).run Try.prog W = .ok (.agg #[v0, v1, v2, v3]) W := by
  subst h1 h2 h3
  go_simp
/-- one more balance at an own row's end -/
theorem app44 {B n : Nat} {w0 w : World} {v : Value} {O : List Num.Bal} (o b k : Int) (t : ByteArray) (hB0 : B = w0.heap.size) (h : w.ownsRow B 68 4 v O.length (bcells O)) (hb : Below B w0 w) (hn : O.length ≤ 3000000) (p : Num.Bal) (hp : bcs p = [.int .i64 o, .int .i64 b, .string t, .int .i64 k]) :
    ∃ v' w', (Builtin.append_ #[25, 25] 25 #[v, .slice (some ⟨w.heap.size, 0, none⟩) 1 1]).run Try.prog (w.alloc (.cells #[.int .i64 o, .int .i64 b, .string t, .int .i64 k] 68)) = .ok v' w' ∧ w'.ownsRow B 68 4 v' (O ++ [p]).length (bcells (O ++ [p])) ∧ Below B w0 w' := by
  have hB : B ≤ w.heap.size := by rw [hB0]; exact hb.size
  obtain ⟨v', w', hr, ho, hg⟩ := app_gen (T := 68) (Sl := 25) (k := 4) (bytes := 40) Try.underlying25 info44 rfl (by omega) [.int .i64 o, .int .i64 b, .string t, .int .i64 k] rfl (by intro u hu; simp at hu; rcases hu with rfl | rfl | rfl | rfl <;> rfl) h hB (by omega) (by unfold maxLen; omega)
  refine ⟨v', w', hr, ?_, ((hb.alloc hB _).grown hg (by simp; omega) (fun j hj => (h.lt j hj).1))⟩
  rw [bcells_app, hp, List.length_append]
  exact ho
set_option maxHeartbeats 16000000 in
theorem rset (L : List Num.Bal) (hl : L.length ≤ 1000000) (a : Option Addr) (cap : Nat) (o b n : Int) (s : ByteArray) (w : World) (h : Bs w a L) : Calls Try.prog 87 #[.slice a L.length cap, .agg #[.int .i64 o, .int .i64 b, .string s], .int .i64 n] w (SetP (Num.set L (o, b, s.toList) n) w) := by
  obtain ⟨w1, hw1⟩ : ∃ w1, w1 = w.alloc (.cells #[.int .i64 o, .int .i64 b, .string s] 40) := ⟨_, rfl⟩
  have HW : Hid (w.alloc (.cells #[.int .i64 o, .int .i64 b, .string s] 40) = w1) := hw1.symm
  have HX : Hid (Bx w1 w.heap.size #[.int .i64 o, .int .i64 b, .string s] 40) := by rw [hw1]; exact Bx.new w _ _
  have hb1 : Below w.heap.size w w1 := by rw [hw1]; exact (Below.refl _ w).alloc (Nat.le_refl _) _
  have HB1 : Hid (Below w.heap.size w w1) := hb1
  have HBs : Hid (Bs w1 a L) := h.below hb1
  have HEND : Hid (∀ (O : List Num.Bal) v w', Num.set L (o, b, s.toList) n = O → w'.ownsRow w1.heap.size 68 4 v O.length (bcells O) → Below w1.heap.size w1 w' → SetP (Num.set L (o, b, s.toList) n) w (.returned v) w') := fun O v w' hO ho hb => ⟨v, rfl, by rw [hO]; exact own_mono ho hb1.size, hb1.trans (hb.mono hb1.size)⟩
  have HST : Hid (∀ d, d = (n == 0) → Num.set L (o, b, s.toList) n = [] ++ Num.setF (o, b, s.toList) n d (L.drop 0)) := fun d hd => by rw [hd]; rfl
  have hp0 : bcs ((o, b, s.toList), n) = [.int .i64 o, .int .i64 b, .string s, .int .i64 n] := by unfold bcs; rw [toList_S]
  have HP0 : Hid (bcs ((o, b, s.toList), n) = [.int .i64 o, .int .i64 b, .string s, .int .i64 n]) := hp0
  have HHL : Hid (L.length ≤ 1000000) := hl
  clear hb1 h hw1 hp0
  generalize Num.set L (o, b, s.toList) n = FIN at *
  go_enter Try.func87, Try.ntmps87
  go_wp2_with fail
  rw [HW.out]
  go_loopw [7, 8, 9] (fun v dv i wr => ∃ (k : Nat) (d : Bool) (O : List Num.Bal), k ≤ L.length ∧ i = .int .i64 k ∧ dv = .bool d ∧ Hid (wr.ownsRow w1.heap.size 68 4 v O.length (bcells O) ∧ Below w1.heap.size w1 wr ∧ FIN = O ++ Num.setF (o, b, s.toList) n d (L.drop k) ∧ O.length ≤ 2 * k))
    (fun _ _ i _ => L.length - (intOf i).toNat)
  case atStart => exact ⟨0, _, [], Nat.zero_le _, rfl, rfl, World.ownsRow_nil _ _ _ _, Below.refl _ _, HST.out _ rfl, by simp⟩
  case round =>
    obtain ⟨k, d, O, hk, rfl, rfl, HR⟩ := hrel
    clear HST
    by_cases hkn : k < L.length
    · have hkz : (k : Int) < (L.length : Int) := by omega
      obtain ⟨blk, off, rfl, hbl, hcs⟩ := HBs.out (by omega)
      have hc4 := hcs k hkn
      have hdr := List.drop_eq_getElem_cons hkn
      have HCell : Hid (∀ W, Below w1.heap.size w1 W → Bx W w.heap.size #[.int .i64 o, .int .i64 b, .string s] 40) := fun W hW => HX.out.below hW HX.out.lt
      generalize L[k] = x at *
      obtain ⟨⟨po, pb, pt⟩, pn⟩ := x
      obtain ⟨T, hT⟩ : ∃ T, T = S pt := ⟨_, rfl⟩
      have hxs : bcs ((po, pb, pt), pn) = [.int .i64 po, .int .i64 pb, .string T, .int .i64 pn] := by rw [hT]; rfl
      have HXS : Hid (bcs ((po, pb, pt), pn) = [.int .i64 po, .int .i64 pb, .string T, .int .i64 pn]) := hxs
      have hTl : T.toList = pt := by rw [hT, S_toList]
      rw [hxs] at hc4
      have HC : Hid (∀ W, Below w1.heap.size w1 W → W.cell? ⟨blk, off + k * 4, none⟩ = some (.int .i64 po) ∧ W.cell? ⟨blk, off + k * 4 + 1, none⟩ = some (.int .i64 pb) ∧ W.cell? ⟨blk, off + k * 4 + 2, none⟩ = some (.string T) ∧ W.cell? ⟨blk, off + k * 4 + 3, none⟩ = some (.int .i64 pn)) := fun W hW => ⟨(hW.cell (p := ⟨blk, _, none⟩) hbl).trans (hc4 0 (by omega)), (hW.cell (p := ⟨blk, _, none⟩) hbl).trans (hc4 1 (by omega)), (hW.cell (p := ⟨blk, _, none⟩) hbl).trans (hc4 2 (by omega)), (hW.cell (p := ⟨blk, _, none⟩) hbl).trans (hc4 3 (by omega))⟩
      obtain ⟨c0, c1, c2, c3⟩ := HC.out wr HR.out.2.1
      have d0 : wr.cell? ⟨w.heap.size, 0, none⟩ = some (.int .i64 o) := (HCell.out wr HR.out.2.1).cell 0
      have d1 : wr.cell? ⟨w.heap.size, 1, none⟩ = some (.int .i64 b) := (HCell.out wr HR.out.2.1).cell 1
      have d2 : wr.cell? ⟨w.heap.size, 2, none⟩ = some (.string s) := (HCell.out wr HR.out.2.1).cell 2
      have hne := fun w => eq42 po pb o b T s w
      have HSe : Hid ((po, pb, pt) = (o, b, s.toList) → FIN = O ++ Num.setF (o, b, s.toList) n d (L.drop (k + 1))) := fun hq => by
        rw [HR.out.2.2.1, hdr, Num.setF, if_pos hq]
      have HSf : Hid ((po, pb, pt) ≠ (o, b, s.toList) → (!d && Num.aheadB (o, b, s.toList) (po, pb, T.toList)) = false → FIN = (O ++ [((po, pb, pt), pn)]) ++ Num.setF (o, b, s.toList) n d (L.drop (k + 1))) := fun hq hd => by
        rw [hTl] at hd
        rw [HR.out.2.2.1, hdr, Num.setF, if_neg hq, if_neg (by rw [hd]; simp)]
        simp
      have HSt : Hid ((po, pb, pt) ≠ (o, b, s.toList) → (!d && Num.aheadB (o, b, s.toList) (po, pb, T.toList)) = true → FIN = ((O ++ [((o, b, s.toList), n)]) ++ [((po, pb, pt), pn)]) ++ Num.setF (o, b, s.toList) n true (L.drop (k + 1))) := fun hq hd => by
        rw [hTl] at hd
        rw [HR.out.2.2.1, hdr, Num.setF, if_neg hq, if_pos hd]
        simp
      have HOb : Hid (O.length ≤ 2 * k ∧ O.length ≤ 2000000) := ⟨HR.out.2.2.2, by have := HR.out.2.2.2; have := HHL.out; omega⟩
      have HAH : Hid (∀ W, Calls Try.prog 72 #[.agg #[.int .i64 o, .int .i64 b, .string s], .agg #[.int .i64 po, .int .i64 pb, .string T]] W fun e w' => e = .returned (.bool (Num.aheadB (o, b, s.toList) (po, pb, T.toList))) ∧ Below W.heap.size W w') := fun W => rahead o b s po pb T W
      have hdx : ((po, pb, pt) = (o, b, s.toList) ∧ decide ((po, pb, T.toList) = (o, b, s.toList)) = true) ∨ ((po, pb, pt) ≠ (o, b, s.toList) ∧ decide ((po, pb, T.toList) = (o, b, s.toList)) = false) := by
        rw [hTl]
        by_cases e : (po, pb, pt) = (o, b, s.toList)
        · exact .inl ⟨e, decide_eq_true e⟩
        · exact .inr ⟨e, decide_eq_false e⟩
      generalize decide ((po, pb, T.toList) = (o, b, s.toList)) = dq at *
      generalize Num.aheadB (o, b, s.toList) (po, pb, T.toList) = ah at *
      have HRo : Hid (wr.ownsRow w1.heap.size 68 4 u7 O.length (bcells O) ∧ Below w1.heap.size w1 wr) := ⟨HR.out.1, HR.out.2.1⟩
      clear hc4 hcs hdr hT hxs hTl HR
      go_upto_region 6 with fail
      go_quiet (fail)
      obtain ⟨wx, hwx⟩ : ∃ wx, wx = wr.drewN nq := ⟨_, rfl⟩
      rw [← hwx]
      have HB2 : Hid (wx.ownsRow w1.heap.size 68 4 u7 O.length (bcells O) ∧ Below w1.heap.size w1 wx) := by rw [hwx]; exact ⟨HRo.out.1, HRo.out.2.trans ⟨rfl, rfl, rfl, Nat.le_refl _, fun _ _ => rfl⟩⟩
      have HME : Hid (∀ z, L.length - (k + 1) < L.length - (intOf (.int .i64 (k : Int))).toNat ∧ z = z) := fun z => ⟨by simp [intOf]; omega, rfl⟩
      clear hwx c0 c1 c2 c3 d0 d1 d2 HRo hne
      rcases hdx with ⟨heq, rfl⟩ | ⟨heq, rfl⟩
      · have HF : Hid (FIN = O ++ Num.setF (o, b, s.toList) n d (L.drop (k + 1))) := HSe.out heq
        clear HSe HSf HSt heq
        go_wp2_with fail
        go_roundw
        case rel => exact ⟨k + 1, d, O, by omega, by simp, rfl, HB2.out.1, HB2.out.2, HF.out, by have := HOb.out.1; omega⟩
        case measure => simp [intOf]; omega
      · cases d with
        | true =>
          have HF : Hid (FIN = (O ++ [((po, pb, pt), pn)]) ++ Num.setF (o, b, s.toList) n true (L.drop (k + 1))) := HSf.out heq rfl
          clear HSe HSf HSt heq
          go_upto_region 7 with fail
          go_quiet (fail)
          obtain ⟨wy, hwy⟩ : ∃ wy, wy = wx.drewN nq := ⟨_, rfl⟩
          rw [← hwy]
          have hB3 : wy.ownsRow w1.heap.size 68 4 u7 O.length (bcells O) ∧ Below w1.heap.size w1 wy := by rw [hwy]; exact ⟨HB2.out.1, HB2.out.2.trans ⟨rfl, rfl, rfl, Nat.le_refl _, fun _ _ => rfl⟩⟩
          obtain ⟨c0, c1, c2, c3⟩ := HC.out wy hB3.2
          have d0 : wy.cell? ⟨w.heap.size, 0, none⟩ = some (.int .i64 o) := (HCell.out wy hB3.2).cell 0
          have d1 : wy.cell? ⟨w.heap.size, 1, none⟩ = some (.int .i64 b) := (HCell.out wy hB3.2).cell 1
          have d2 : wy.cell? ⟨w.heap.size, 2, none⟩ = some (.string s) := (HCell.out wy hB3.2).cell 2
          obtain ⟨v', w6, hr6, ho6, hb6⟩ := app44 (n := 0) po pb pn T rfl hB3.1 hB3.2 (by have := HOb.out.2; omega) _ HXS.out
          have HO6 : Hid (w6.ownsRow w1.heap.size 68 4 v' (O ++ [((po, pb, pt), pn)]).length (bcells (O ++ [((po, pb, pt), pn)])) ∧ Below w1.heap.size w1 w6) := ⟨ho6, hb6⟩
          clear hwy ho6 hb6 hB3
          go_wp2_with (at_builtin; refine Lib.wpList_append_run _ rfl _ _ 25 25 rfl _ _ rfl rfl _ w6 hr6 ?_)
          go_roundw
          case rel => exact ⟨k + 1, true, _, by omega, by simp, rfl, HO6.out.1, HO6.out.2, HF.out, by have := HOb.out.1; simp; omega⟩
          case measure => simp [intOf]; omega
        | false =>
          go_upto_region 7 with fail
          refine wp_region_held (S := fun W => Below w1.heap.size w1 W) (by kernel_rfl) ?_
          change wpAnyH _ _ _ _ _ 11 #[false, false, false, false, false, false, false, false, false, false, false] _ wx.drew
          have hT0 : Below wx.heap.size wx wx.drew := ⟨rfl, rfl, rfl, Nat.le_refl _, fun _ _ => rfl⟩
          have hS0 : Below w1.heap.size w1 wx.drew := HB2.out.2.trans (hT0.mono HB2.out.2.size)
          obtain ⟨v0, hv0⟩ : ∃ v, v = wx.drew := ⟨_, rfl⟩
          rw [← hv0] at hS0 hT0 ⊢
          clear hv0
          refine takeR (fuel := 10) (i := 0) (v := .bool false) rfl (by kernel_rfl) (by kernel_rfl) (by kernel_rfl) (fun _ _ _ h => h) (Or.inl ⟨rfl, fun W hW => by go_simp⟩) hS0 ?_
          simp only [Act.put, List.setIfInBounds_toArray, List.set_cons_zero, List.set_cons_succ]
          refine takeR (fuel := 9) (i := 1) (v := .bool true) rfl (by kernel_rfl) (by kernel_rfl) (by kernel_rfl) (fun _ _ _ h => h) (Or.inl ⟨rfl, fun W hW => by go_simp⟩) hS0 ?_
          simp only [Act.put, List.setIfInBounds_toArray, List.set_cons_zero, List.set_cons_succ]
          refine takeR (fuel := 8) (i := 2) (v := .bool true) rfl (by kernel_rfl) (by kernel_rfl) (by kernel_rfl) (fun _ _ _ h => h) (Or.inl ⟨rfl, fun W hW => by go_simp⟩) hS0 ?_
          simp only [Act.put, List.setIfInBounds_toArray, List.set_cons_zero, List.set_cons_succ]
          refine takeR (fuel := 7) (i := 3) (v := .agg #[.int .i64 o, .int .i64 b, .string s]) rfl (by kernel_rfl) (by kernel_rfl) (by kernel_rfl) (fun _ _ _ h => h) (Or.inl ⟨rfl, fun W hW => exl _ _ _ _ rfl _ _ rfl (load42 W w.heap.size 0 _ _ _ _ _ rfl rfl ((HCell.out W hW).cell 0) ((HCell.out W hW).cell 1) ((HCell.out W hW).cell 2))⟩) hS0 ?_
          simp only [Act.put, List.setIfInBounds_toArray, List.set_cons_zero, List.set_cons_succ]
          refine takeR (fuel := 6) (i := 4) (v := .slice (some ⟨blk, off, none⟩) L.length cap) rfl (by kernel_rfl) (by kernel_rfl) (by kernel_rfl) (fun _ _ _ h => h) (Or.inl ⟨rfl, fun W hW => by go_simp⟩) hS0 ?_
          simp only [Act.put, List.setIfInBounds_toArray, List.set_cons_zero, List.set_cons_succ]
          refine takeR (fuel := 5) (i := 5) (v := .int .i64 k) rfl (by kernel_rfl) (by kernel_rfl) (by kernel_rfl) (fun _ _ _ h => h) (Or.inl ⟨rfl, fun W hW => by go_simp⟩) hS0 ?_
          simp only [Act.put, List.setIfInBounds_toArray, List.set_cons_zero, List.set_cons_succ]
          refine takeR (fuel := 4) (i := 6) (v := .pointer (some ⟨blk, off + k * 4, none⟩)) rfl (by kernel_rfl) (by kernel_rfl) (by kernel_rfl) (fun _ _ _ h => h) (Or.inl ⟨rfl, fun W hW => by go_simp⟩) hS0 ?_
          simp only [Act.put, List.setIfInBounds_toArray, List.set_cons_zero, List.set_cons_succ]
          refine takeR (fuel := 3) (i := 7) (v := .pointer (some ⟨blk, off + k * 4, none⟩)) rfl (by kernel_rfl) (by kernel_rfl) (by kernel_rfl) (fun _ _ _ h => h) (Or.inl ⟨rfl, fun W hW => by go_simp⟩) hS0 ?_
          simp only [Act.put, List.setIfInBounds_toArray, List.set_cons_zero, List.set_cons_succ]
          refine takeR (fuel := 2) (i := 8) (v := .agg #[.int .i64 po, .int .i64 pb, .string T]) rfl (by kernel_rfl) (by kernel_rfl) (by kernel_rfl) (fun _ _ _ h => h) (Or.inl ⟨rfl, fun W hW => exl _ _ _ _ rfl _ _ rfl (load42 W blk (off + k * 4) _ _ _ _ _ rfl rfl (HC.out W hW).1 (HC.out W hW).2.1 (HC.out W hW).2.2.1)⟩) hS0 ?_
          simp only [Act.put, List.setIfInBounds_toArray, List.set_cons_zero, List.set_cons_succ]
          refine consR (fuel := 1) (i := 9) rfl (by kernel_rfl) (fun K hK => ?_)
          rw [if_pos (by rfl)]
          go_simp
          refine (HAH.out v0).mono ?_
          rintro e v1 ⟨rfl, hC⟩
          refine hK.out _ _ (hS0.trans (hC.mono hS0.size)) (fun hS1 => ?_)
          have hT1 := hT0.trans (hC.mono hT0.size)
          clear hK hC
          try simp only [Act.put, List.setIfInBounds_toArray, List.set_cons_zero, List.set_cons_succ]
          refine takeR (fuel := 0) (i := 10) (v := .bool ah) rfl (by kernel_rfl) (by kernel_rfl) (by kernel_rfl) (fun _ _ _ h => h) (Or.inl ⟨rfl, fun W hW => by go_simp⟩) hS1 ?_
          simp only [Act.put, List.setIfInBounds_toArray, List.set_cons_zero, List.set_cons_succ]
          refine wpAnyH_done (by kernel_rfl) ?_ _
          have hB3 : v1.ownsRow w1.heap.size 68 4 u7 O.length (bcells O) ∧ Below w1.heap.size w1 v1 := ⟨own_below HB2.out.1 hT1, hS1⟩
          obtain ⟨c0, c1, c2, c3⟩ := HC.out v1 hB3.2
          have d0 : v1.cell? ⟨w.heap.size, 0, none⟩ = some (.int .i64 o) := (HCell.out v1 hB3.2).cell 0
          have d1 : v1.cell? ⟨w.heap.size, 1, none⟩ = some (.int .i64 b) := (HCell.out v1 hB3.2).cell 1
          have d2 : v1.cell? ⟨w.heap.size, 2, none⟩ = some (.string s) := (HCell.out v1 hB3.2).cell 2
          cases ah with
          | true =>
            have HF : Hid (FIN = ((O ++ [((o, b, s.toList), n)]) ++ [((po, pb, pt), pn)]) ++ Num.setF (o, b, s.toList) n true (L.drop (k + 1))) := HSt.out heq rfl
            obtain ⟨va, w5, hr5, ho5, hb5⟩ := app44 (n := 0) o b n s rfl hB3.1 hB3.2 (by have := HOb.out.2; omega) _ HP0.out
            obtain ⟨e0, e1, e2, e3⟩ := HC.out w5 hb5
            obtain ⟨v', w6, hr6, ho6, hb6⟩ := app44 (n := 0) po pb pn T rfl ho5 hb5 (by have := HOb.out.2; simp; omega) _ HXS.out
            have HO6 : Hid (w6.ownsRow w1.heap.size 68 4 v' ((O ++ [((o, b, s.toList), n)]) ++ [((po, pb, pt), pn)]).length (bcells ((O ++ [((o, b, s.toList), n)]) ++ [((po, pb, pt), pn)])) ∧ Below w1.heap.size w1 w6) := ⟨ho6, hb6⟩
            clear ho6 hb6 hB3 ho5 hb5 HSe HSf HSt heq hS0 hS1 hT0 hT1 HAH
            go_wp2_with (first | (at_builtin; refine Lib.wpList_append_run _ rfl _ _ 25 25 rfl _ _ rfl rfl _ w5 hr5 ?_) | (at_builtin; refine Lib.wpList_append_run _ rfl _ _ 25 25 rfl _ _ rfl rfl _ w6 hr6 ?_))
            go_roundw
            case rel => exact ⟨k + 1, true, _, by omega, by simp, rfl, HO6.out.1, HO6.out.2, HF.out, by have := HOb.out.1; simp; omega⟩
            case measure => simp [intOf]; omega
          | false =>
            have HF : Hid (FIN = (O ++ [((po, pb, pt), pn)]) ++ Num.setF (o, b, s.toList) n false (L.drop (k + 1))) := HSf.out heq rfl
            obtain ⟨v', w6, hr6, ho6, hb6⟩ := app44 (n := 0) po pb pn T rfl hB3.1 hB3.2 (by have := HOb.out.2; omega) _ HXS.out
            have HO6 : Hid (w6.ownsRow w1.heap.size 68 4 v' (O ++ [((po, pb, pt), pn)]).length (bcells (O ++ [((po, pb, pt), pn)])) ∧ Below w1.heap.size w1 w6) := ⟨ho6, hb6⟩
            clear ho6 hb6 hB3 HSe HSf HSt heq hS0 hS1 hT0 hT1 HAH
            go_wp2_with (at_builtin; refine Lib.wpList_append_run _ rfl _ _ 25 25 rfl _ _ rfl rfl _ w6 hr6 ?_)
            go_roundw
            case rel => exact ⟨k + 1, false, _, by omega, by simp, rfl, HO6.out.1, HO6.out.2, HF.out, by have := HOb.out.1; simp; omega⟩
            case measure => simp [intOf]; omega
    · have hkz : ¬ (k : Int) < (L.length : Int) := by omega
      cases d with
      | true =>
        have HF : Hid (SetP FIN w (.returned u7) wr) := HEND.out O u7 wr (by rw [HR.out.2.2.1, List.drop_eq_nil_of_le (by omega)]; simp [Num.setF]) HR.out.1 HR.out.2.1
        clear HEND
        go_wp2_with fail
        go_ret
        exact HF.out
      | false =>
        have d0 : wr.cell? ⟨w.heap.size, 0, none⟩ = some (.int .i64 o) := (HX.out.below HR.out.2.1 HX.out.lt).cell 0
        have d1 : wr.cell? ⟨w.heap.size, 1, none⟩ = some (.int .i64 b) := (HX.out.below HR.out.2.1 HX.out.lt).cell 1
        have d2 : wr.cell? ⟨w.heap.size, 2, none⟩ = some (.string s) := (HX.out.below HR.out.2.1 HX.out.lt).cell 2
        obtain ⟨v', w5, hr5, ho5, hb5⟩ := app44 (n := 0) o b n s rfl HR.out.1 HR.out.2.1 (by have := HR.out.2.2.2; have := HHL.out; omega) _ HP0.out
        have HF : Hid (SetP FIN w (.returned v') w5) := HEND.out _ v' w5 (by rw [HR.out.2.2.1, List.drop_eq_nil_of_le (by omega)]; simp [Num.setF]) ho5 hb5
        clear HEND ho5 hb5
        go_wp2_with (at_builtin; refine Lib.wpList_append_run _ rfl _ _ 25 25 rfl _ _ rfl rfl _ w5 hr5 ?_)
        go_ret
        exact HF.out
end Go.Proofs.Ytbfnfebmmhhegaa
