/- layer 16: Over of the program -/
import Derived.Test.YtdfadcbchiogjaaGreatPA
import Derived.WalkKit
import Derived.ProofKit
import Derived.Handy
import Derived.WalkLawsBesides
import Derived.WalkSpells
import Derived.BigQuiet
import Derived.BigCall
import Derived.Deep.QuietTactic
import Derived.Deep.Light
import Derived.Deep.OwnRows
import Derived.Laws.AppendOwnNone
import Derived.Laws.Strings3
import Derived.Laws.RangeAny
import Derived.Deep.RegionWith
import Derived.Lib.BitFns
import Derived.Lib.Walk
import Derived.Lib.Strings
import Derived.Lib.OthersKept
import Derived.Deep.CutBlock
import Derived.Deep.DeepCutAuto
import Derived.Deep.LoopGhost
import Derived.Deep.RegionHeld3
import Derived.Lib.SmallJoins
import Derived.Maps.AppendAt
import Derived.Laws.IdiomStrings
import Derived.Lib.AppendZeros
import Derived.Deep.WholeRow
import Derived.Laws.BitsAllLaws
import Derived.Lib.ConvBytes
import Derived.Deep.RegionLaw
import Derived.Maps.OwnSet
import Derived.Maps.OwnOps
import Derived.Maps.RangeWalk
import Derived.Maps.Ext
import Derived.DeepKeys4
import Derived.Laws.StructEq
import Derived.Deep.MidRow
import Derived.Lib.Bytealg
import Derived.Lib.AppendZerosOnto
import Derived.Laws.MakeOwn
import Derived.Deep.Upon
import Derived.Sort.KeysCollected
namespace Go.Proofs.YtdfadcbchiogjaaGreat
open Go.RowKit
set_option linter.unusedVariables false
set_option linter.unusedSimpArgs false
set_option maxRecDepth 20000
theorem Bx.row9 {W : World} {b : Nat} {x : H5.It} (h : Bx W b (H5.its x).toArray 55) : W.cell? ⟨b, 2, none⟩ = some (.string x.a.i) ∧ W.cell? ⟨b, 3, none⟩ = some (.int .i64 x.a.iss) ∧ W.cell? ⟨b, 4, none⟩ = some (.int .i64 x.a.rat) ∧ W.cell? ⟨b, 5, none⟩ = some (.int .i64 x.a.mat) ∧ W.cell? ⟨b, 6, none⟩ = some (.string x.a.c) := ⟨h.cell 2, h.cell 3, h.cell 4, h.cell 5, h.cell 6⟩
theorem its_at {wr w : World} {blk off : Nat} {l : List H5.It} {k : Nat} (hcs : ∀ i (h : i < l.length), ∀ j, j < 9 → w.cell? ⟨blk, off + i * 9 + j, none⟩ = (H5.its l[i])[j]?) (hb : Below w.heap.size w wr) (hbl : blk < w.heap.size) (hk : k < l.length) :
    ∀ j, j < 9 → wr.cell? ⟨blk, off + k * 9 + j, none⟩ = (H5.its l[k])[j]? := fun j hj => (hb.cell (p := ⟨blk, off + k * 9 + j, none⟩) hbl).trans (hcs k hk j hj)
set_option maxHeartbeats 16000000 in
theorem xover (hdf : DfOk) (x : Bq) (need : Int) (xs : List H5.It) (hx : ∀ y ∈ xs, WI y) (a : Option Addr) (cap : Nat) (w : World) (hp : Rw 9 H5.its w a xs) (hl : xs.length ≤ 1000000) : Calls Tryz.prog 5 #[.agg (bqs x).toArray, .int .i64 need, .slice a xs.length cap] w (OvP 59 (ovL need x.iss x.ast xs) (ovE need x.iss x.ast xs) w) := by
  obtain ⟨w1, hw1⟩ : ∃ w1, w.alloc (.cells (bqs x).toArray 25) = w1 := ⟨_, rfl⟩
  have hX : Bx w1 w.heap.size (bqs x).toArray 25 := by rw [← hw1]; exact Bx.new w _ _
  have HB : Hid (Below w.heap.size w w1) := by rw [← hw1]; exact below_a w _
  have x0 := hX.cell 0
  have x1 := hX.cell 1
  have x2 := hX.cell 2
  have x3 := hX.cell 3
  have x4 := hX.cell 4
  have x5 := hX.cell 5
  have x6 := hX.cell 6
  have x7 := hX.cell 7
  have x8 := hX.cell 8
  have x9 := hX.cell 9
  by_cases hok : OkN need x.iss x.ast
  · have HN : Hid (Calls Tryz.prog 12 #[.agg (bqs x).toArray, .int .i64 need] w1 (NwP need x.iss x.ast w1)) := xnew x need hok w1
    have hlz : (xs.length : Int) ≤ 1000000 := by omega
    have hOK := hok
    obtain ⟨id, ver, cur, rat, least, most, ca, cn, cc, iss, ast, ba, bn, bc⟩ := x
    simp only [bqs] at *
    simp only [List.getElem?_toArray, List.getElem?_cons_zero, List.getElem?_cons_succ] at x0 x1 x2 x3 x4 x5 x6 x7 x8 x9
    clear hX
    by_cases h64 : xs.length ≤ 64
    · have h64z : (xs.length : Int) ≤ 64 := by omega
      have HGd : Hid (Fits xs → ovL need iss ast xs = ovs (ovT need iss ast xs) ∧ ovE need iss ast xs = 0) := fun hf => ov_good hOK h64 hf
      have HOv : Hid (¬ Fits xs → ovL need iss ast xs = [] ∧ ovE need iss ast xs = 9) := fun hf => ov_over hOK h64 hf
      have HP : Hid (Rw 9 H5.its w a xs) := hp
      have HX : Hid (∀ y ∈ xs, WI y) := hx
      have HN0 : Hid (newT need iss ast = ovT need iss ast (xs.take 0)) := rfl
      clear hok hOK hp hx
      go_enter Tryz.func5, Tryz.ntmps5
      go_wp2_with (go_at_call 12; refine HN.out.mono ?_; clear HN; rintro e w2 ⟨p, m1, m2, rfl, HZ⟩
                   have HS0 : Hid (Tm w2 p m1 m2 (ovT need iss ast (xs.take 0)) ∧ Below w.heap.size w w2 ∧ w.heap.size ≤ m1 ∧ w.heap.size ≤ m2) := ⟨by rw [← HN0.out]; exact HZ.out.1, HB.out.trans (HZ.out.2.2.2.2.mono HB.out.size), Nat.le_trans HB.out.size HZ.out.2.2.1, Nat.le_trans HB.out.size HZ.out.2.2.2.1⟩
                   clear HZ x0 x1 x2 x3 x4 x5 x6 x7 x8 x9 HN0)
      go_loopw [27] (fun i wr => ∃ k : Nat, k ≤ xs.length ∧ i = .int .i64 k ∧ Hid (Tm wr p m1 m2 (ovT need iss ast (xs.take k)) ∧ Below w.heap.size w wr ∧ Fits (xs.take k)))
        (fun i _ => xs.length - (intOf i).toNat)
      case atStart => exact ⟨0, Nat.zero_le _, rfl, HS0.out.1, HS0.out.2.1, fun y hy => (by simp at hy)⟩
      case round =>
        obtain ⟨k, hk, rfl, HR⟩ := hrel
        by_cases hkn : k < xs.length
        · have hkz : (k : Int) < (xs.length : Int) := by omega
          obtain ⟨blk, off, rfl, hbl, hcs⟩ := HP.out (by omega)
          have hc9 := its_at hcs HR.out.2.1 hbl hkn
          have HM : Hid (Below w.heap.size w wr ∧ w.heap.size ≤ m1 ∧ w.heap.size ≤ m2 ∧ Fits (xs.take k)) := ⟨HR.out.2.1, HS0.out.2.2.1, HS0.out.2.2.2, HR.out.2.2⟩
          have HV : Hid (Calls Tryz.prog 16 #[.agg (H5.its xs[k]).toArray] (wr.alloc (.cells (H5.its xs[k]).toArray 55)) fun e w' => e = .returned (.int .i64 xs[k].co) ∧ Hid (Tm w' p m1 m2 (ovT need iss ast (xs.take k)) ∧ Bx w' wr.heap.size (H5.its xs[k]).toArray 55 ∧ Below wr.heap.size wr w')) :=
            (H5.xicov xs[k] (HX.out _ (List.getElem_mem hkn)).c _).mono fun e w' hh => by
              have hb2 : Below wr.heap.size wr w' := (below_a wr _).trans (hh.2.mono (by simp))
              exact ⟨hh.1, HR.out.1.below hb2, (Bx.new wr _ _).below hh.2 (by simp), hb2⟩
          have HQ : Hid (∀ W, xs[k].co ≤ 1125899906842624 → Tm W p m1 m2 (ovT need iss ast (xs.take k)) → Calls Tryz.prog 17 #[.pointer (some ⟨p, 0, none⟩), .agg #[.string xs[k].a.i, .int .i64 xs[k].a.iss, .int .i64 xs[k].a.rat, .int .i64 xs[k].a.mat, .string xs[k].a.c], .int .i64 xs[k].co] W (ShP p m1 m2 (ovT need iss ast (xs.take (k + 1))) W)) := fun W hc ht => by
            have hwi := HX.out _ (List.getElem_mem hkn)
            have hf := fits_box (fits_succ hkn HR.out.2.2 hc) (by rw [List.length_take]; omega)
            have h1 := hf.1 xs[k].a.iss
            have h2 := hf.2 xs[k].a.i.data.toList
            rw [cov_take hkn, smI_app] at h1
            rw [cov_take hkn, smA_app] at h2
            simp only [smI, smA, ptx, if_true] at h1 h2
            have := xshift ht (by show (cov _).length ≤ _; rw [cov_len, List.length_take]; omega) (a := ⟨xs[k].a.i, xs[k].a.iss, xs[k].a.rat, xs[k].a.mat, xs[k].a.c⟩) ⟨hwi.i, hwi.n⟩ (c := xs[k].co) (by show Rng (smI (cov (xs.take k)) xs[k].a.iss + xs[k].co); unfold Rng; omega) (by show Rng (smA (cov (xs.take k)) xs[k].a.i.data.toList + xs[k].co); unfold Rng; omega)
            rwa [ovT_more need iss ast hkn] at this
          have HFt : Hid (xs[k].co ≤ 1125899906842624 → Fits (xs.take (k + 1))) := fun hc => fits_succ hkn HR.out.2.2 hc
          have HNf : Hid (¬ xs[k].co ≤ 1125899906842624 → ovL need iss ast xs = [] ∧ ovE need iss ast xs = 9) := fun hc => HOv.out (fun hf => hc (hf _ (List.getElem_mem hkn)))
          have hco := H5.It.co_rng xs[k]
          generalize xs[k].co = C at *
          generalize xs[k] = y at *
          obtain ⟨yl, yq, ⟨ai, a1, a2, a3, ac⟩, yp, yc⟩ := y
          simp only [H5.its] at *
          have c0 : wr.cell? ⟨blk, off + k * 9, none⟩ = some (.string yl) := hc9 0 (by omega)
          have c1 : wr.cell? ⟨blk, off + k * 9 + 1, none⟩ = some (.int .i64 yq) := hc9 1 (by omega)
          have c2 : wr.cell? ⟨blk, off + k * 9 + 2, none⟩ = some (.string ai) := hc9 2 (by omega)
          have c3 : wr.cell? ⟨blk, off + k * 9 + 3, none⟩ = some (.int .i64 a1) := hc9 3 (by omega)
          have c4 : wr.cell? ⟨blk, off + k * 9 + 4, none⟩ = some (.int .i64 a2) := hc9 4 (by omega)
          have c5 : wr.cell? ⟨blk, off + k * 9 + 5, none⟩ = some (.int .i64 a3) := hc9 5 (by omega)
          have c6 : wr.cell? ⟨blk, off + k * 9 + 6, none⟩ = some (.string ac) := hc9 6 (by omega)
          have c7 : wr.cell? ⟨blk, off + k * 9 + 7, none⟩ = some (.int .i64 yp) := hc9 7 (by omega)
          have c8 : wr.cell? ⟨blk, off + k * 9 + 8, none⟩ = some (.int .i64 yc) := hc9 8 (by omega)
          clear hc9 hcs HR HX HP HS0
          by_cases hC : C ≤ 1125899906842624
          · replace HQ := hid_in (fun W => HQ.out W hC)
            have HF1 : Hid (Fits (xs.take (k + 1))) := HFt.out hC
            clear HNf HFt HOv
            go_wp2_with (first
              | (go_at_call 16; refine HV.out.mono ?_; clear HV; rintro e w3 ⟨rfl, HY⟩
                 have d2 : w3.cell? ⟨wr.heap.size, 2, none⟩ = some (.string ai) := HY.out.2.1.cell 2
                 have d3 : w3.cell? ⟨wr.heap.size, 3, none⟩ = some (.int .i64 a1) := HY.out.2.1.cell 3
                 have d4 : w3.cell? ⟨wr.heap.size, 4, none⟩ = some (.int .i64 a2) := HY.out.2.1.cell 4
                 have d5 : w3.cell? ⟨wr.heap.size, 5, none⟩ = some (.int .i64 a3) := HY.out.2.1.cell 5
                 have d6 : w3.cell? ⟨wr.heap.size, 6, none⟩ = some (.string ac) := HY.out.2.1.cell 6)
              | (go_at_call 17; refine (HQ.out _ HY.out.1).mono ?_; clear HQ; rintro e w4 ⟨rfl, ht, hkt⟩
                 have HT4 : Hid (Tm w4 p m1 m2 (ovT need iss ast (xs.take (k + 1))) ∧ Below w.heap.size w w4) := ⟨ht, by
                   have h3 := HM.out.1.trans (HY.out.2.2.mono HM.out.1.size)
                   exact h3.trans (hkt.below h3.size HM.out.2.1 HM.out.2.2.1)⟩
                 clear ht hkt HY))
            go_roundw
            case rel => exact ⟨k + 1, by omega, by simp, HT4.out.1, HT4.out.2, HF1.out⟩
            case measure => simp [intOf]; omega
          · have HE : Hid (ovL need iss ast xs = [] ∧ ovE need iss ast xs = 9) := HNf.out hC
            clear HNf HFt HOv HQ HGd
            go_wp2_with (go_at_call 16; refine HV.out.mono ?_; clear HV; rintro e w3 ⟨rfl, HY⟩)
            go_ret2
            rw [HE.out.1, HE.out.2]
            exact OvP.nil (HM.out.1.trans (HY.out.2.2.mono HM.out.1.size))
        · have hkz : ¬ (k : Int) < (xs.length : Int) := by omega
          have e : k = xs.length := by omega
          have hr := HR.out
          rw [e, List.take_length] at hr
          obtain ⟨r1, r2, r3⟩ := hr
          have hb := fits_box r3 h64
          have HU : Hid (Calls Tryz.prog 19 #[.pointer (some ⟨p, 0, none⟩)] wr (UsP 59 4 ucs (ovT need iss ast xs).uses wr)) := xuses r1 (fun n => (hb.1 n).1) (fun s => (hb.2 s).1) (by show (cov _).length ≤ _; rw [cov_len]; omega) (Wx.s HX.out)
          have HL : Hid ((ovT need iss ast xs).uses.length ≤ 1000000) := by
            have := uses_few (t := ovT need iss ast xs) (n := 64) (by show (cov _).length ≤ _; rw [cov_len]; omega)
            unfold Hid
            omega
          have HE := HGd.out r3
          have HBw : Hid (Below w.heap.size w wr) := r2
          obtain ⟨F, hF⟩ : ∃ F, F = (ovT need iss ast xs).uses.filter (fun u => decide (u.l < u.c)) := ⟨_, rfl⟩
          have HDF : Hid (∀ w3 v3, w3.ownsRow wr.heap.size 59 4 v3 (ovT need iss ast xs).uses.length (rcs ucs (ovT need iss ast xs).uses) ∧ Below wr.heap.size wr w3 → Calls Tryz.prog 18 #[v3, .func (.func 20) #[] #[]] w3 fun e w' => ∃ v', e = .returned v' ∧ Hid (w'.ownsRow w.heap.size 59 4 v' F.length (rcs ucs F) ∧ Below w.heap.size w w')) := fun w3 v3 h3 => by
            rw [hF]
            exact hdf w.heap.size w w3 v3 _ (own_mono h3.1 HBw.out.size) HL.out (Nat.le_trans HBw.out.size h3.2.size) (HBw.out.trans (h3.2.mono HBw.out.size))
          have HE2 : Hid (ovL need iss ast xs = F ∧ ovE need iss ast xs = 0) := ⟨by rw [HE.1, hF]; rfl, HE.2⟩
          clear hb r1 r2 r3 HR HGd HOv HE HP HX HS0 hdf
          clear hF HL
          generalize (ovT need iss ast xs).uses = U at *
          go_wp2_with (first
            | (go_at_call 19; refine HU.out.mono ?_; clear HU; rintro e w3 ⟨v3, rfl, H3⟩)
            | (go_at_call 18; refine (HDF.out w3 v3 H3.out).mono ?_; rintro e w4 ⟨v4, rfl, H4⟩))
          go_ret2
          rw [HE2.out.1, HE2.out.2]
          exact ⟨_, rfl, H4⟩
    · have h64z : ¬ (xs.length : Int) ≤ 64 := by omega
      have HLg := ov_long hOK h64
      rw [HLg.1, HLg.2]
      clear hok hOK hp hx HLg
      go_enter Tryz.func5, Tryz.ntmps5
      go_wp2_with (go_at_call 12; refine HN.out.mono ?_; clear HN; rintro e w2 ⟨p, m1, m2, rfl, HZ⟩
                   have HS0 : Hid (Below w.heap.size w w2) := HB.out.trans (HZ.out.2.2.2.2.mono HB.out.size)
                   clear HZ)
      go_ret2
      exact OvP.nil HS0.out
  · have HN : Hid (Calls Tryz.prog 12 #[.agg (bqs x).toArray, .int .i64 need] w1 (NbP w1)) := xnewbad x need hok w1
    have HE := ov_arg (xs := xs) hok
    rw [HE.1, HE.2]
    obtain ⟨id, ver, cur, rat, least, most, ca, cn, cc, iss, ast, ba, bn, bc⟩ := x
    simp only [bqs] at *
    simp only [List.getElem?_toArray, List.getElem?_cons_zero, List.getElem?_cons_succ] at x0 x1 x2 x3 x4 x5 x6 x7 x8 x9
    clear hX hok hp hx HE
    go_enter Tryz.func5, Tryz.ntmps5
    go_wp2_with (go_at_call 12; refine HN.out.mono ?_; clear HN; rintro e w2 ⟨rfl, HB2⟩
                 have HS0 : Hid (Below w.heap.size w w2) := HB.out.trans (HB2.mono HB.out.size))
    go_ret2
    exact OvP.nil HS0.out
end Go.Proofs.YtdfadcbchiogjaaGreat
