/- layer 14: has a book just these rules -/
import Derived.Test.YtmjaijpikbdfkaaIE
import Derived.Test.YtmjaijpikbdfkaaJB
import Derived.Test.YtmjaijpikbdfkaaG
import Derived.WalkKit
import Derived.ProofKit
import Derived.Handy
import Derived.WalkLawsBesides
import Derived.WalkSpells
import Derived.BigQuiet
import Derived.BigCall
import Derived.Deep.QuietTactic
import Derived.Deep.Light
import Derived.Deep.OwnRows
import Derived.Laws.AppendOwnNone
import Derived.Laws.Strings3
import Derived.Laws.RangeAny
import Derived.Deep.RegionWith
import Derived.Lib.BitFns
import Derived.Lib.Walk
import Derived.Lib.Strings
import Derived.Lib.OthersKept
import Derived.Deep.CutBlock
import Derived.Deep.DeepCutAuto
import Derived.Deep.LoopGhost
import Derived.Deep.RegionHeld3
import Derived.Lib.SmallJoins
import Derived.Maps.AppendAt
import Derived.Laws.IdiomStrings
import Derived.Lib.AppendZeros
import Derived.Deep.WholeRow
import Derived.Laws.BitsAllLaws
import Derived.Lib.ConvBytes
import Derived.Deep.RegionLaw
import Derived.Maps.OwnSet
import Derived.Maps.OwnOps
import Derived.Maps.RangeWalk
import Derived.Maps.Ext
import Derived.DeepKeys4
import Derived.Laws.StructEq
import Derived.Deep.MidRow
import Derived.Lib.Bytealg
import Derived.Lib.Overlaps
import Derived.Lib.AppendZerosOnto
import Derived.Laws.MakeOwn
import Derived.Deep.Upon
import Derived.Sort.OwnSortedInts
namespace Go.Proofs.Ytmjaijpikbdfkaa
open Go.RowKit
set_option linter.unusedVariables false
set_option linter.unusedSimpArgs false
set_option maxRecDepth 20000
theorem ysame (x y : Bm) (h : x.b = y.b) (w : World) (hx : Ha w.heap.size w x) (hy : Ha w.heap.size w y) (hc : x.b.cuts.length ≤ 1000000) (hb : x.b.bar.length ≤ 1000000) : Calls Try.prog 23 #[.agg (bcs x).toArray, .agg (bcs y).toArray] w (KP (.bool true) w) := by
  obtain ⟨xb, ca, cc, ba, bc⟩ := x
  obtain ⟨yb, ca2, cc2, ba2, bc2⟩ := y
  obtain rfl : xb = yb := h
  exact yBaskets xb ca ca2 ba ba2 cc cc2 bc bc2 w hx.1 hy.1 hx.2 hy.2 (Nat.le_trans hc (by omega)) (Nat.le_trans hb (by omega))
set_option maxHeartbeats 16000000 in
theorem xshows {F : Nat → Prop} {w : World} {p m : Nat} {L : List En} (ys : List Bm) (h : Bo F w p m L) (g : Gr L (ys.map (fun y : Bm => y.b))) (a : Option Addr) (cap : Nat) (hr : Rw 10 bcs w a ys) (hy : ∀ y ∈ ys, Ha w.heap.size w y) : Calls Try.prog 19 #[.pointer (some ⟨p, 0, none⟩), .slice a ys.length cap] w (BB true w) := by
  have hyl : ys.length ≤ 1000000 := by have := g.n; rw [List.length_map] at this; exact this
  have HALL : Hid (Calls Try.prog 27 #[.pointer (some ⟨p, 0, none⟩)] w (AaP (ys.map (fun y : Bm => y.b)) w)) := xall h g
  have HIDS : Hid (∀ W, Below w.heap.size w W → Calls Try.prog 30 #[.pointer (some ⟨p, 0, none⟩)] W (IdP (ids (ys.map (fun y : Bm => y.b))) W)) := fun W hW => xids (h.below hW) g.rl g.s g.l
  have HJDS : Hid (∀ W, Below w.heap.size w W → Calls Try.prog 45 #[.slice a ys.length cap] W (JdP (ids (ys.map (fun y : Bm => y.b))) W)) := fun W hW => rids ys a cap W (hr.below hW) hyl
  have hsl : (ids (ys.map (fun y : Bm => y.b))).length ≤ 1000000 := Nat.le_trans (ids_len _) g.n
  have H24 : Hid (∀ (a1 a2 : Option Addr) (c1 c2 : Nat) W, Rw 1 ics W a1 (ids (ys.map (fun y : Bm => y.b))) → Rw 1 ics W a2 (ids (ys.map (fun y : Bm => y.b))) → Calls Try.prog 24 #[.slice a1 (ids (ys.map (fun y : Bm => y.b))).length c1, .slice a2 (ids (ys.map (fun y : Bm => y.b))).length c2] W (KP (.bool true) W)) := fun a1 a2 c1 c2 W h1 h2 => rints _ a1 a2 c1 c2 W h1 h2 hsl
  have HE : Hid (∀ y ∈ ys, y.b.cuts.length ≤ 1000000 ∧ y.b.bar.length ≤ 1000000) := fun y hy => (sm_of (g.e y.b (List.mem_map.2 ⟨y, hy, rfl⟩))).2
  have HRW : Hid (Rw 10 bcs w a ys) := hr
  have HHA : Hid (∀ y ∈ ys, Ha w.heap.size w y) := hy
  generalize ids (ys.map (fun y : Bm => y.b)) = S at *
  have hlz : (ys.length : Int) ≤ 1000000 := by omega
  have hne : ((ys.length : Int) != (ys.length : Int)) = false := by simp
  clear h g hr hy hsl
  go_enter Try.func19, Try.ntmps19
  go_upto_region 2 with (go_at_call 27; refine HALL.out.mono ?_; clear HALL; rintro e w1 ⟨v, zs, rfl, HZ⟩)
  obtain ⟨za, zc, hv, _, hzr⟩ := HZ.out.2.1.rw
  subst hv
  have hzl : zs.length = ys.length := by have := congrArg List.length HZ.out.1; simpa using this
  rw [hzl]
  have HB1 : Hid (Below w.heap.size w w1) := HZ.out.2.2
  have HZR : Hid (Rw 10 bcs w1 za zs) := hzr
  have HZB : Hid (zs.map (·.b) = ys.map (fun y : Bm => y.b)) := HZ.out.1
  have HZH : Hid (∀ z ∈ zs, Ha w1.heap.size w1 z) := fun z hz => (HZ.out.2.1.h z hz).ha
  have HZL : Hid (zs.length = ys.length) := hzl
  clear HZ hzr hzl
  go_wp2_with (first | (go_at_call 30; refine (HIDS.out _ HB1.out).mono ?_; clear HIDS; rintro e w2 ⟨a1, c1, rfl, HI⟩; obtain ⟨a1', c1', e0, _, hi1⟩ := own_rw ics_len HI.out.1 rfl; injection e0 with e1 e2 e3; subst e1; have HI2 : Hid (Rw 1 ics w2 a1 S) := hi1; have HB12 : Hid (Below w1.heap.size w1 w2) := HI.out.2; clear hi1 e2 e3 HI) | (go_at_call 45; refine (HJDS.out _ (HB1.out.trans (HB12.out.mono HB1.out.size))).mono ?_; clear HJDS; rintro e w3 ⟨a2, c2, rfl, HJ⟩; obtain ⟨a2', c2', e0, _, hj1⟩ := own_rw ics_len HJ.out.1 rfl; injection e0 with e1 e2 e3; subst e1; have HI3 : Hid (Rw 1 ics w3 a1 S) := HI2.out.below HJ.out.2; have HJ3 : Hid (Rw 1 ics w3 a2 S) := hj1; have HB13 : Hid (Below w1.heap.size w1 w3) := bt HB12.out HJ.out.2; clear hj1 e2 e3 HJ HI2 HB12) | (go_at_call 24; refine (H24.out _ _ _ _ _ HI3.out HJ3.out).mono ?_; clear H24; rintro e w4 ⟨rfl, HK⟩; have HB14 : Hid (Below w1.heap.size w1 w4) := bt HB13.out HK.out; clear HK HI3 HJ3 HB13))
  go_loopw [6] (fun i wr => ∃ (k : Nat), k ≤ ys.length ∧ i = .int .i64 k ∧ Hid (Below w1.heap.size w1 wr))
    (fun i _ => ys.length - (intOf i).toNat)
  case atStart => exact ⟨0, Nat.zero_le _, rfl, HB14.out⟩
  case round =>
    obtain ⟨k, hk, rfl, HZ⟩ := hrel
    by_cases hkn : k < ys.length
    · have hkz : (k : Int) < (ys.length : Int) := by omega
      have hkzs : k < zs.length := by have := HZL.out; omega
      have hbw : Below w.heap.size w wr := HB1.out.trans (HZ.out.mono HB1.out.size)
      obtain ⟨blk, off, rfl, hbl, hcs⟩ := HRW.out (by omega)
      obtain ⟨blk2, off2, rfl, hbl2, hcs2⟩ := HZR.out (by omega)
      have hc := hcs k hkn
      have hc2 := hcs2 k hkzs
      have hbb : zs[k].b = ys[k].b := by
        have h1 : (zs.map (·.b))[k]? = (ys.map (fun y : Bm => y.b))[k]? := by rw [HZB.out]
        rw [List.getElem?_map, List.getElem?_map, List.getElem?_eq_getElem hkn, List.getElem?_eq_getElem hkzs] at h1
        injection h1
      have hsm := HE.out ys[k] (List.getElem_mem hkn)
      have hz1 := (HZH.out zs[k] (List.getElem_mem hkzs)).on HZ.out (Nat.le_refl _)
      have hy1 := (HHA.out ys[k] (List.getElem_mem hkn)).on hbw (Nat.le_refl _)
      have HLY : Hid (∀ W, Below wr.heap.size wr W → (Instr.loadAt 25 (.pointer (some ⟨blk, off + k * 10, none⟩))).run Try.prog W = .ok (.agg (bcs ys[k]).toArray) W) := fun W hW => row_load (fun j hj => ((bt hbw hW).cell (p := ⟨blk, off + k * 10 + j, none⟩) hbl).trans (hc j hj))
      have HLZ : Hid (∀ W, Below wr.heap.size wr W → (Instr.loadAt 25 (.pointer (some ⟨blk2, off2 + k * 10, none⟩))).run Try.prog W = .ok (.agg (bcs zs[k]).toArray) W) := fun W hW => row_load (fun j hj => ((bt HZ.out hW).cell (p := ⟨blk2, off2 + k * 10 + j, none⟩) hbl2).trans (hc2 j hj))
      have HCS : Hid (∀ W, Below wr.heap.size wr W → Calls Try.prog 23 #[.agg (bcs zs[k]).toArray, .agg (bcs ys[k]).toArray] W (KP (.bool true) W)) := fun W hW => ysame zs[k] ys[k] hbb W (hz1.on hW (Nat.le_refl _)) (hy1.on hW (Nat.le_refl _)) (by rw [hbb]; exact hsm.1) (by rw [hbb]; exact hsm.2)
      generalize (bcs zs[k]).toArray = Mz at *
      generalize (bcs ys[k]).toArray = My at *
      clear hcs hcs2 hc hc2 hbb hsm hz1 hy1 hbw HZH HHA HE HZB HRW HZR
      have hjl : (k : Int) < (ys.length : Int) := hkz
      have hj0 : (0 : Int) ≤ k := by omega
      go_upto_region 7 with fail
      refine wp_region_held (S := fun W => Below wr.heap.size wr W) (by kernel_rfl) ?_
      change wpAnyH _ _ _ _ _ 10 #[false, false, false, false, false, false, false, false, false, false] _ wr.drew
      obtain ⟨v0, hv0⟩ : ∃ v, v = wr.drew := ⟨_, rfl⟩
      have hS0 : Below wr.heap.size wr v0 := by rw [hv0]; exact ⟨rfl, rfl, rfl, Nat.le_refl _, fun _ _ => rfl⟩
      rw [← hv0]
      clear hv0
      refine takeR (fuel := 9) (i := 0) (v := .slice (some ⟨blk2, off2, none⟩) ys.length zc) rfl (by kernel_rfl) (by kernel_rfl) (by kernel_rfl) (fun _ _ _ h => h) (Or.inl ⟨rfl, fun W hW => by go_simp⟩) hS0 ?_
      simp only [Act.put, List.setIfInBounds_toArray, List.set_cons_zero, List.set_cons_succ]
      refine takeR (fuel := 8) (i := 1) (v := .int .i64 k) rfl (by kernel_rfl) (by kernel_rfl) (by kernel_rfl) (fun _ _ _ h => h) (Or.inl ⟨rfl, fun W hW => by go_simp⟩) hS0 ?_
      simp only [Act.put, List.setIfInBounds_toArray, List.set_cons_zero, List.set_cons_succ]
      refine takeR (fuel := 7) (i := 2) (v := .pointer (some ⟨blk2, off2 + k * 10, none⟩)) rfl (by kernel_rfl) (by kernel_rfl) (by kernel_rfl) (fun _ _ _ h => h) (Or.inl ⟨rfl, fun W hW => by go_simp⟩) hS0 ?_
      simp only [Act.put, List.setIfInBounds_toArray, List.set_cons_zero, List.set_cons_succ]
      refine takeR (fuel := 6) (i := 3) (v := .agg Mz) rfl (by kernel_rfl) (by kernel_rfl) (by kernel_rfl) (fun _ _ _ h => h) (Or.inl ⟨rfl, fun W hW => exl _ _ _ _ rfl (.pointer (some ⟨blk2, off2 + k * 10, none⟩)) _ rfl (HLZ.out W hW)⟩) hS0 ?_
      simp only [Act.put, List.setIfInBounds_toArray, List.set_cons_zero, List.set_cons_succ]
      refine takeR (fuel := 5) (i := 4) (v := .slice (some ⟨blk, off, none⟩) ys.length cap) rfl (by kernel_rfl) (by kernel_rfl) (by kernel_rfl) (fun _ _ _ h => h) (Or.inl ⟨rfl, fun W hW => by go_simp⟩) hS0 ?_
      simp only [Act.put, List.setIfInBounds_toArray, List.set_cons_zero, List.set_cons_succ]
      refine takeR (fuel := 4) (i := 5) (v := .int .i64 k) rfl (by kernel_rfl) (by kernel_rfl) (by kernel_rfl) (fun _ _ _ h => h) (Or.inl ⟨rfl, fun W hW => by go_simp⟩) hS0 ?_
      simp only [Act.put, List.setIfInBounds_toArray, List.set_cons_zero, List.set_cons_succ]
      refine takeR (fuel := 3) (i := 6) (v := .pointer (some ⟨blk, off + k * 10, none⟩)) rfl (by kernel_rfl) (by kernel_rfl) (by kernel_rfl) (fun _ _ _ h => h) (Or.inl ⟨rfl, fun W hW => by go_simp⟩) hS0 ?_
      simp only [Act.put, List.setIfInBounds_toArray, List.set_cons_zero, List.set_cons_succ]
      refine takeR (fuel := 2) (i := 7) (v := .agg My) rfl (by kernel_rfl) (by kernel_rfl) (by kernel_rfl) (fun _ _ _ h => h) (Or.inl ⟨rfl, fun W hW => exl _ _ _ _ rfl (.pointer (some ⟨blk, off + k * 10, none⟩)) _ rfl (HLY.out W hW)⟩) hS0 ?_
      simp only [Act.put, List.setIfInBounds_toArray, List.set_cons_zero, List.set_cons_succ]
      refine consR (fuel := 1) (i := 8) rfl (by kernel_rfl) (fun K hK => ?_)
      rw [if_pos (by rfl)]
      go_simp
      refine (HCS.out _ hS0).mono ?_
      rintro e v1 ⟨rfl, hk1⟩
      refine hK.out _ _ (hS0.trans (hk1.out.mono hS0.size)) (fun hS1 => ?_)
      clear hK
      try simp only [Act.put, List.setIfInBounds_toArray, List.set_cons_zero, List.set_cons_succ]
      refine takeR (fuel := 0) (i := 9) (v := .bool false) rfl (by kernel_rfl) (by kernel_rfl) (by kernel_rfl) (fun _ _ _ h => h) (Or.inl ⟨rfl, fun W hW => by go_simp⟩) hS1 ?_
      simp only [Act.put, List.setIfInBounds_toArray, List.set_cons_zero, List.set_cons_succ]
      have HF : Hid (Below w1.heap.size w1 v1) := bt HZ.out hS1
      clear hk1 hS0 HCS HLY HLZ hS1 HZ
      refine wpAnyH_done (by kernel_rfl) ?_ _
      go_wp2_with fail
      go_roundw
      case rel => exact ⟨k + 1, by omega, by simp, HF.out⟩
      case measure => simp [intOf]; omega
    · have hkz : ¬ (k : Int) < (ys.length : Int) := by omega
      go_wp2_with fail
      go_ret
      exact ⟨rfl, HB1.out.trans (HZ.out.mono HB1.out.size)⟩
end Go.Proofs.Ytmjaijpikbdfkaa
