/- layer 14: law Tells -/
import Derived.Test.YtmjaijpikbdfkaaJH
import Derived.Test.YtmjaijpikbdfkaaJD
import Derived.Test.YtmjaijpikbdfkaaJE
import Derived.WalkKit
import Derived.ProofKit
import Derived.Handy
import Derived.WalkLawsBesides
import Derived.WalkSpells
import Derived.BigQuiet
import Derived.BigCall
import Derived.Deep.QuietTactic
import Derived.Deep.Light
import Derived.Deep.OwnRows
import Derived.Laws.AppendOwnNone
import Derived.Laws.Strings3
import Derived.Laws.RangeAny
import Derived.Deep.RegionWith
import Derived.Lib.BitFns
import Derived.Lib.Walk
import Derived.Lib.Strings
import Derived.Lib.OthersKept
import Derived.Deep.CutBlock
import Derived.Deep.DeepCutAuto
import Derived.Deep.LoopGhost
import Derived.Deep.RegionHeld3
import Derived.Lib.SmallJoins
import Derived.Maps.AppendAt
import Derived.Laws.IdiomStrings
import Derived.Lib.AppendZeros
import Derived.Deep.WholeRow
import Derived.Laws.BitsAllLaws
import Derived.Lib.ConvBytes
import Derived.Deep.RegionLaw
import Derived.Maps.OwnSet
import Derived.Maps.OwnOps
import Derived.Maps.RangeWalk
import Derived.Maps.Ext
import Derived.DeepKeys4
import Derived.Laws.StructEq
import Derived.Deep.MidRow
import Derived.Lib.Bytealg
import Derived.Lib.Overlaps
import Derived.Lib.AppendZerosOnto
import Derived.Laws.MakeOwn
import Derived.Deep.Upon
import Derived.Sort.OwnSortedInts
namespace Go.Proofs.Ytmjaijpikbdfkaa
open Go.RowKit
set_option linter.unusedVariables false
set_option linter.unusedSimpArgs false
set_option maxRecDepth 20000
theorem at_map (ys : List Bm) (id ver : Int) : (atM ys id ver).map (fun y : Bm => y.b) = atL (ys.map (fun y : Bm => y.b)) id (if ver = 0 then ((of (ys.map (fun y : Bm => y.b)) id).length : Int) else ver) := by
  have hl : (of (ys.map (fun y : Bm => y.b)) id).length = (ofm ys id).length := by rw [← ofm_of, List.length_map]
  unfold atM pickM atL
  rw [hl]
  by_cases h : (if ver = 0 then ((ofm ys id).length : Int) else ver) < 1 ∨ ((ofm ys id).length : Int) < (if ver = 0 then ((ofm ys id).length : Int) else ver)
  · rw [if_pos h, if_pos h]
    rfl
  · rw [if_neg h, if_neg h, ← ofm_of, List.getElem?_map]
theorem getD_b (q : Option Bm) : (q.getD Zm).b = (q.map (fun y : Bm => y.b)).getD Bk.z := by cases q <;> rfl
theorem some_b (q : Option Bm) : q.isSome = (q.map (fun y : Bm => y.b)).isSome := by cases q <;> rfl
theorem at_mem {ys : List Bm} {id ver : Int} {z : Bm} (h : atM ys id ver = some z) : z ∈ ys := by
  unfold atM pickM at h
  generalize (if ver = 0 then ((ofm ys id).length : Int) else ver) = u at h
  split at h
  · cases h
  · exact ofm_mem (List.mem_of_getElem? h)
theorem at_ha {ys : List Bm} {id ver : Int} {B : Nat} {w : World} (h : ∀ y ∈ ys, Ha B w y) : Ha B w ((atM ys id ver).getD Zm) := by
  cases hq : atM ys id ver with
  | none => exact ⟨fun h => absurd h (Nat.lt_irrefl 0), fun h => absurd h (Nat.lt_irrefl 0)⟩
  | some z =>
    exact h z (at_mem hq)
theorem at_sm {ys : List Bm} {k : Nat} (g : Gd (ys.map (fun y : Bm => y.b)) k) (id ver : Int) : (((atM ys id ver).map (fun y : Bm => y.b)).getD Bk.z).cuts.length ≤ 1000000 ∧ (((atM ys id ver).map (fun y : Bm => y.b)).getD Bk.z).bar.length ≤ 1000000 := by
  cases hq : atM ys id ver with
  | none => exact ⟨Nat.zero_le _, Nat.zero_le _⟩
  | some z =>
    have hz : z ∈ ys := at_mem hq
    exact (sm_of (g.2.1 z.b (List.mem_map.2 ⟨z, hz, rfl⟩))).2
set_option maxHeartbeats 32000000 in
theorem ltells (l : List Bm) (ad : Option Addr) (cap : Nat) (id ver : Int) (ai ac : ByteArray) (a1 a2 m day : Int) (w : World) (hr : Rw 10 bcs w ad l) (hq : ∀ y ∈ l, Wq w y) (hid : Wf id) : Calls Try.prog 6 #[.slice ad l.length cap, .int .i64 id, .int .i64 ver, .agg #[.string ai, .int .i64 a1, .int .i64 a2, .int .i64 m, .string ac], .int .i64 day] w (OkP w) := by
  obtain ⟨wb, hwb⟩ : ∃ wb, wb = w.alloc (.cells #[.string ai, .int .i64 a1, .int .i64 a2, .int .i64 m, .string ac] 27) := ⟨_, rfl⟩
  have hbb : Below w.heap.size w wb := by rw [hwb]; exact below_a w _
  have HBB : Hid (Below w.heap.size w wb) := hbb
  have HLT : Hid (w.heap.size < wb.heap.size) := by unfold Hid; rw [hwb]; simp
  have HXA : Hid (Bx wb w.heap.size #[.string ai, .int .i64 a1, .int .i64 a2, .int .i64 m, .string ac] 27) := by rw [hwb]; exact Bx.new w _ _
  have HW : Hid (w.alloc (.cells #[.string ai, .int .i64 a1, .int .i64 a2, .int .i64 m, .string ac] 27) = wb) := hwb.symm
  have HRW : Hid (Rw 10 bcs wb ad l) := hr.below hbb
  have HQ : Hid (∀ y ∈ l, Wq w y) := hq
  have HNW : Hid (Calls Try.prog 15 #[] wb (NwP wb)) := xnew wb
  have K9 : Hid (∀ W, Calls Try.prog 9 #[] W (OkP W)) := fun W => xawake W
  have HID : Hid (Wf id) := hid
  have c3 : wb.cell? ⟨w.heap.size, 3, none⟩ = some (.int .i64 m) := HXA.out.cell 3
  clear hr hq hwb hbb hid
  go_enter Try.func6, Try.ntmps6
  go_upto_region 1 with fail
  rw [HW.out]
  clear HW
  by_cases hm0 : m < 0
  · go_wp2_with (go_at_call 9; refine (K9.out _).mono ?_; rintro e wz ⟨rfl, HBz⟩; have Kz : Hid (Below w.heap.size w wz) := HBB.out.trans (HBz.mono HBB.out.size); clear HBz)
    go_ret
    exact ⟨rfl, Kz.out⟩
  by_cases hm1 : 200000 < m
  · go_wp2_with (go_at_call 9; refine (K9.out _).mono ?_; rintro e wz ⟨rfl, HBz⟩; have Kz : Hid (Below w.heap.size w wz) := HBB.out.trans (HBz.mono HBB.out.size); clear HBz)
    go_ret
    exact ⟨rfl, Kz.out⟩
  have HM : Hid (0 ≤ m ∧ m ≤ 200000) := ⟨by omega, by omega⟩
  go_wp2_with (go_at_call 15; refine HNW.out.mono ?_; clear HNW; rintro e w1 ⟨rfl, HN⟩)
  have HP1 : Hid (Pl wb.heap.size wb w1 (wb.heap.size + 1) wb.heap.size (.slice none 0 0) [] [] 0) := Pl.start HN.out.1 HN.out.2
  clear HN c3 hm0 hm1
  go_loopw [12, 13] (fun v i wr => ∃ (k : Nat) (ys : List Bm), k ≤ l.length ∧ k ≤ 80 ∧ i = .int .i64 k ∧ Hid (Pl wb.heap.size wb wr (wb.heap.size + 1) wb.heap.size (v) (ys.map (fun y : Bm => y.b)) ys k ∧ Gd (ys.map (fun y : Bm => y.b)) k))
    (fun _ i _ => l.length - (intOf i).toNat)
  case atStart => exact ⟨0, [], Nat.zero_le _, Nat.zero_le _, rfl, HP1.out, Gd.nil⟩
  case round =>
    obtain ⟨k, ys, hk, hk8, rfl, HZ⟩ := hrel
    by_cases hkn : k < l.length ∧ k < 80
    · have hkl : k < l.length := hkn.1
      have hkz : (k : Int) < (l.length : Int) := by omega
      have hk80 : (k : Int) < 80 := by omega
      obtain ⟨blk, off, rfl, hbl, hcs⟩ := HRW.out (by omega)
      have hc := hcs k hkl
      have HXQ : Hid (Wq w l[k]) := HQ.out _ (List.getElem_mem hkl)
      have HLD : Hid (∀ W, Below wb.heap.size wb W → (Instr.loadAt 25 (.pointer (some ⟨blk, off + k * 10, none⟩))).run Try.prog W = .ok (.agg (bcs l[k]).toArray) W) := fun W hW => row_load (fun j hj => (hW.cell (p := ⟨blk, off + k * 10 + j, none⟩) hbl).trans (hc j hj))
      generalize l[k] = x at *
      have H16 : Hid (∀ W, Calls Try.prog 16 #[.agg (bcs x).toArray] W (KP (.bool (smB x.b)) W)) := fun W => rsmall x W
      obtain ⟨va, vc, hv, _⟩ := HZ.out.1.row
      subst hv
      clear hcs hc HQ HRW hkn
      cases hsm : smB x.b with
      | false =>
        rw [hsm] at H16
        have HL0 := HLD.out wr HZ.out.1.bel
        have HL1 : Hid ((Instr.loadAt 25 (.pointer (some ⟨blk, off + k * 10, none⟩))).run Try.prog wr = .ok (.agg (bcs x).toArray) wr) := HL0
        clear HLD HL0 hsm HXQ
        generalize (bcs x).toArray = Mx at *
        go_wp2_with (first | (guard_target =~ wpList _ _ _ (⟨_, Op.load 25 _, _, _, _, _⟩ :: _) _ _; refine wl_load _ rfl 25 _ rfl _ rfl _ HL1.out ?_; go_simp) | (go_at_call 16; refine (H16.out _).mono ?_; clear H16; rintro e w2 ⟨rfl, HB⟩; have HP2 : Hid (Pl wb.heap.size wb w2 (wb.heap.size + 1) wb.heap.size (.slice va ys.length vc) (ys.map (fun y : Bm => y.b)) ys k) := HZ.out.1.below HB.out; clear HB))
        go_roundw
        case rel => exact ⟨k + 1, ys, by omega, by omega, by simp, HP2.out.mono (Nat.le_succ k), HZ.out.2.mono (Nat.le_succ k)⟩
        case measure => simp [intOf]; omega
      | true =>
        rw [hsm] at H16
        have hsb : x.b.cuts.length ≤ 100 ∧ x.b.bar.length ≤ 100 := by unfold smB at hsm; simpa using hsm
        have HSB : Hid (x.b.cuts.length ≤ 100 ∧ x.b.bar.length ≤ 100) := hsb
        clear hsm hsb
        have HL0 := HLD.out wr HZ.out.1.bel
        have HL1 : Hid ((Instr.loadAt 25 (.pointer (some ⟨blk, off + k * 10, none⟩))).run Try.prog wr = .ok (.agg (bcs x).toArray) wr) := HL0
        clear HL0
        go_upto_region 9 with (first | (guard_target =~ wpList _ _ _ (⟨_, Op.load 25 _, _, _, _, _⟩ :: _) _ _; refine wl_load _ rfl 25 _ rfl _ rfl _ HL1.out ?_; go_simp) | (go_at_call 16; refine (H16.out _).mono ?_; clear H16; rintro e w2 ⟨rfl, HB⟩; have HP2 : Hid (Pl wb.heap.size wb w2 (wb.heap.size + 1) wb.heap.size (.slice va ys.length vc) (ys.map (fun y : Bm => y.b)) ys k) := HZ.out.1.below HB.out; clear HB))
        have HG : Hid (Gd (ys.map (fun y : Bm => y.b)) k) := HZ.out.2
        clear HL1 HZ
        have hxa : ∀ W, Below wb.heap.size wb W → Ha wb.heap.size W x := fun W hW => (HXQ.out.on (HBB.out.trans (hW.mono HBB.out.size))).mono HBB.out.size
        have HXH : Hid (∀ W, Below wb.heap.size wb W → Ha wb.heap.size W x) := hxa
        clear hxa
        have HC18 : Hid (Calls Try.prog 18 #[.pointer (some ⟨wb.heap.size + 1, 0, none⟩), .agg (bcs x).toArray] w2 (fun e w' => e = .returned (.int .i64 (setE (ys.map (fun y : Bm => y.b)) x.b (bkE C0 x.b) : Nat)) ∧ Hid (Pl wb.heap.size wb w' (wb.heap.size + 1) wb.heap.size (.slice va ys.length vc) (setL (ys.map (fun y : Bm => y.b)) x.b (bkE C0 x.b)) ys (k + 1)))) := HP2.out.set HG.out (by omega) x ((HXH.out w2 HP2.out.bel).mono HP2.out.size) (by have := HSB.out; omega) (by have := HSB.out; omega)
        have HL0 := HLD.out w2 HP2.out.bel
        have HL2 : Hid ((Instr.loadAt 25 (.pointer (some ⟨blk, off + k * 10, none⟩))).run Try.prog w2 = .ok (.agg (bcs x).toArray) w2) := HL0
        clear HL0
        go_upto_region 10 with (first | (guard_target =~ wpList _ _ _ (⟨_, Op.load 25 _, _, _, _, _⟩ :: _) _ _; refine wl_load _ rfl 25 _ rfl _ rfl _ HL2.out ?_; go_simp) | (go_at_call 18; refine HC18.out.mono ?_; clear HC18; rintro e w3 ⟨rfl, HP3⟩))
        have HC17 : Hid (Calls Try.prog 17 #[.slice va ys.length vc, .agg (bcs x).toArray] w3 (fun e w' => ∃ v' zs, e = .returned (.tuple #[v', .int .i64 (setE (ys.map (·.b)) x.b (bkE C0 x.b) : Nat)]) ∧ Hid (Pl wb.heap.size wb w' (wb.heap.size + 1) wb.heap.size (v') (setL (ys.map (fun y : Bm => y.b)) x.b (bkE C0 x.b)) zs (k + 1) ∧ zs.map (·.b) = setL (ys.map (·.b)) x.b (bkE C0 x.b) ∧ zs.length ≤ ys.length + 1))) := HP3.out.rset HG.out.1 (by have := HG.out.2.2; rw [List.length_map] at this; omega) x (HXH.out w3 HP3.out.bel) (by have := HSB.out; omega) (by have := HSB.out; omega)
        have HL0 := HLD.out w3 HP3.out.bel
        have HL3 : Hid ((Instr.loadAt 25 (.pointer (some ⟨blk, off + k * 10, none⟩))).run Try.prog w3 = .ok (.agg (bcs x).toArray) w3) := HL0
        have HG4 : Hid (Gd (setL (ys.map (fun y : Bm => y.b)) x.b (bkE C0 x.b)) (k + 1)) := HG.out.set x.b
        clear HL0 HL2 HLD HP2 HP3 HG HXQ HSB HXH
        generalize (bcs x).toArray = Mx at *
        go_wp2_with (first | (guard_target =~ wpList _ _ _ (⟨_, Op.load 25 _, _, _, _, _⟩ :: _) _ _; refine wl_load _ rfl 25 _ rfl _ rfl _ HL3.out ?_; go_simp) | (go_at_call 17; refine HC17.out.mono ?_; clear HC17; rintro e w4 ⟨v4, zs, rfl, HT⟩))
        go_roundw
        case rel =>
          have hz : zs.map (fun y : Bm => y.b) = setL (ys.map (fun y : Bm => y.b)) x.b (bkE C0 x.b) := HT.out.2.1
          exact ⟨k + 1, zs, by omega, by omega, by simp, by rw [hz]; exact HT.out.1, by rw [hz]; exact HG4.out⟩
        case measure => simp [intOf]; omega
    · have hend : ((k : Int) < (l.length : Int) ∧ ¬ (k : Int) < 80) ∨ ¬ (k : Int) < (l.length : Int) := by omega
      have HG : Hid (Gd (ys.map (fun y : Bm => y.b)) k) := HZ.out.2
      have HPa : Hid (Pl wb.heap.size wb wr (wb.heap.size + 1) wb.heap.size (u12) (ys.map (fun y : Bm => y.b)) ys k) := HZ.out.1
      obtain ⟨va, vc, hv, _⟩ := HPa.out.row
      subst hv
      obtain ⟨q1, hq1⟩ : ∃ q, q = atL (ys.map (fun y : Bm => y.b)) id (of (ys.map (fun y : Bm => y.b)) id).length := ⟨_, rfl⟩
      obtain ⟨q2, hq2⟩ : ∃ q, q = atL (ys.map (fun y : Bm => y.b)) id ver := ⟨_, rfl⟩
      obtain ⟨c1, hc1⟩ : ∃ q, q = (atM ys id 0).getD Zm := ⟨_, rfl⟩
      obtain ⟨c2, hc2⟩ : ∃ q, q = (atM ys id ver).getD Zm := ⟨_, rfl⟩
      have he1 : (atM ys id 0).map (fun y : Bm => y.b) = q1 := by rw [hq1, at_map, if_pos rfl]
      have hs1 : (atM ys id 0).isSome = q1.isSome := by rw [some_b, he1]
      have hb1 : c1.b = q1.getD Bk.z := by rw [hc1, getD_b, he1]
      have hl1 : (q1.getD Bk.z).cuts.length ≤ 1000000 ∧ (q1.getD Bk.z).bar.length ≤ 1000000 := by rw [← he1]; exact at_sm HG.out id 0
      have hh1 : ∀ W, (∀ y ∈ ys, Ha W.heap.size W y) → Ha W.heap.size W c1 := fun W h => by rw [hc1]; exact at_ha h
      have hh2 : ∀ W, (∀ y ∈ ys, Ha W.heap.size W y) → Ha W.heap.size W c2 := fun W h => by rw [hc2]; exact at_ha h
      have H20 : Hid (∀ W, Pl wb.heap.size wb W (wb.heap.size + 1) wb.heap.size (.slice va ys.length vc) (ys.map (fun y : Bm => y.b)) ys k → Calls Try.prog 20 #[.pointer (some ⟨wb.heap.size + 1, 0, none⟩), .int .i64 id] W (AtX q1 W)) := fun W hW => by obtain ⟨F, L, h1, h2⟩ := hW.gr HG.out (by omega); rw [hq1]; exact xget h1 h2 id HID.out
      have H22 : Hid (∀ W, Pl wb.heap.size wb W (wb.heap.size + 1) wb.heap.size (.slice va ys.length vc) (ys.map (fun y : Bm => y.b)) ys k → Calls Try.prog 22 #[.pointer (some ⟨wb.heap.size + 1, 0, none⟩), .int .i64 id, .int .i64 ver] W (AtX q2 W)) := fun W hW => by obtain ⟨F, L, h1, h2⟩ := hW.gr HG.out (by omega); rw [hq2]; exact xat h1 h2 id ver HID.out
      have hyl : ys.length ≤ 1000000 := by have := HG.out.2.2; rw [List.length_map] at this; omega
      have H21 : Hid (∀ W v, Pl wb.heap.size wb W (wb.heap.size + 1) wb.heap.size (.slice va ys.length vc) (ys.map (fun y : Bm => y.b)) ys k → Calls Try.prog 21 #[.slice va ys.length vc, .int .i64 id, .int .i64 v] W (AtP (atM ys id v) W)) := fun W v hW => by
        obtain ⟨a', cap', e, hrow⟩ := hW.row
        injection e with e1 _ e3
        subst e1
        exact rat ys va vc id v W hrow hyl
      have H25 : Hid (∀ W, Pl wb.heap.size wb W (wb.heap.size + 1) wb.heap.size (.slice va ys.length vc) (ys.map (fun y : Bm => y.b)) ys k → Calls Try.prog 25 #[.pointer (some ⟨wb.heap.size + 1, 0, none⟩), .agg #[.string ai, .int .i64 a1, .int .i64 a2, .int .i64 m, .string ac], .int .i64 day] W (IdP (takes (ys.map (fun y : Bm => y.b)) ⟨ai, a1, a2, m, ac⟩ day) W)) := fun W hW => by obtain ⟨F, L, h1, h2⟩ := hW.gr HG.out (by omega); exact xtakes h1 h2 ⟨ai, a1, a2, m, ac⟩ day HM.out
      have H26 : Hid (∀ W, Pl wb.heap.size wb W (wb.heap.size + 1) wb.heap.size (.slice va ys.length vc) (ys.map (fun y : Bm => y.b)) ys k → Calls Try.prog 26 #[.slice va ys.length vc, .agg #[.string ai, .int .i64 a1, .int .i64 a2, .int .i64 m, .string ac], .int .i64 day] W (JdP (takes (ys.map (fun y : Bm => y.b)) ⟨ai, a1, a2, m, ac⟩ day) W)) := fun W hW => by
        obtain ⟨a', cap', e, hrow⟩ := hW.row
        injection e with e1 _ e3
        subst e1
        exact rtakes ys va vc ⟨ai, a1, a2, m, ac⟩ day W hrow hyl HG.out.1 HM.out hW.ha (fun y hy => (sm_of (HG.out.2.1 y.b (List.mem_map.2 ⟨y, hy, rfl⟩))).2.2)
      have htl : (takes (ys.map (fun y : Bm => y.b)) ⟨ai, a1, a2, m, ac⟩ day).length ≤ 1000000 := Nat.le_trans (List.length_filter_le _ _) (Nat.le_trans (ids_len _) (Nat.le_trans HG.out.2.2 (by omega)))
      generalize takes (ys.map (fun y : Bm => y.b)) ⟨ai, a1, a2, m, ac⟩ day = T at *
      have H24 : Hid (∀ (x1 x2 : Option Addr) (y1 y2 : Nat) W, Rw 1 ics W x1 T → Rw 1 ics W x2 T → Calls Try.prog 24 #[.slice x1 T.length y1, .slice x2 T.length y2] W (KP (.bool true) W)) := fun x1 x2 y1 y2 W h1 h2 => rints T x1 x2 y1 y2 W h1 h2 htl
      have HB1 : Hid (c1.b = q1.getD Bk.z) := hb1
      have HH1 : Hid (∀ W, (∀ y ∈ ys, Ha W.heap.size W y) → Ha W.heap.size W c1) := hh1
      have HH2 : Hid (∀ W, (∀ y ∈ ys, Ha W.heap.size W y) → Ha W.heap.size W c2) := hh2
      have HL1 : Hid ((q1.getD Bk.z).cuts.length ≤ 1000000 ∧ (q1.getD Bk.z).bar.length ≤ 1000000) := hl1
      -- with the version that is asked
      have HV : Hid (∃ (z : Bm) (g : Bool), q2.isSome = g ∧ z.b = q2.getD Bk.z ∧ ((q2.getD Bk.z).cuts.length ≤ 1000000 ∧ (q2.getD Bk.z).bar.length ≤ 1000000) ∧ ((ver = 0 ∧ z = Zm ∧ g = false) ∨ (ver ≠ 0 ∧ z = c2 ∧ (atM ys id ver).isSome = g))) := by
        by_cases hv0 : ver = 0
        · refine ⟨Zm, false, ?_, ?_, ?_, .inl ⟨hv0, rfl, rfl⟩⟩
          · rw [hq2, atL_no (.inl (by omega))]; rfl
          · rw [hq2, atL_no (.inl (by omega))]; rfl
          · rw [hq2, atL_no (.inl (by omega))]; exact ⟨Nat.zero_le _, Nat.zero_le _⟩
        · have he2 : (atM ys id ver).map (fun y : Bm => y.b) = q2 := by rw [hq2, at_map, if_neg hv0]
          refine ⟨c2, q2.isSome, rfl, ?_, ?_, .inr ⟨hv0, rfl, by rw [some_b, he2]⟩⟩
          · rw [hc2, getD_b, he2]
          · rw [← he2]; exact at_sm HG.out id ver
      have HA0 : Hid (∀ W, AtP (atM ys id 0) W = fun e w' => e = .returned (.tuple #[.agg (bcs c1).toArray, .bool q1.isSome]) ∧ Hid (Below W.heap.size W w')) := fun W => by unfold AtP; rw [hs1, hc1]
      have HAV : Hid (∀ W, AtP (atM ys id ver) W = fun e w' => e = .returned (.tuple #[.agg (bcs c2).toArray, .bool (atM ys id ver).isSome]) ∧ Hid (Below W.heap.size W w')) := fun W => by unfold AtP; rw [hc2]
      clear HZ hq1 hq2 hc1 hc2 he1 hs1 hb1 hl1 hh1 hh2 hyl htl HRW HQ hk hkn
      rcases hend with ⟨hkz, hk80⟩ | hkz
      all_goals
        go_upto_region 11 with fail
        have HC1 : Hid (Calls Try.prog 20 #[.pointer (some ⟨wb.heap.size + 1, 0, none⟩), .int .i64 id] wr (AtX q1 wr)) := H20.out wr HPa.out
        go_upto_region 12 with (first | (go_at_call 20; refine HC1.out.mono ?_; clear HC1; rintro e x1 ⟨y1, rfl, hy⟩; have HSQ : Hid ((Instr.storeAt 25 (.pointer (some ⟨x1.heap.size, 0, none⟩)) (.agg (bcs y1).toArray)).run Try.prog (x1.alloc (.cells #[.int .i64 0, .int .i64 0, .string ⟨#[]⟩, .int .i64 0, .int .i64 0, .int .i64 0, .slice none 0 0, .int .i64 0, .int .i64 0, .slice none 0 0] 25)) = .ok () ((x1.alloc (.cells #[.int .i64 0, .int .i64 0, .string ⟨#[]⟩, .int .i64 0, .int .i64 0, .int .i64 0, .slice none 0 0, .int .i64 0, .int .i64 0, .slice none 0 0] 25)).setRow x1.heap.size (bcs y1).toArray)) := box_store (Bx.new _ _ _) rfl y1) | (guard_target =~ wpList _ _ _ (⟨_, Op.store 25 _ _, _, _, _, _⟩ :: _) _ _; refine wl_store _ _ rfl 25 _ _ rfl _ _ rfl rfl HSQ.out ?_; go_simp))
        have hb0 : Below wr.heap.size wr x1 := hy.out.2.2
        have hb3 : Below x1.heap.size x1 ((x1.alloc (.cells #[.int .i64 0, .int .i64 0, .string ⟨#[]⟩, .int .i64 0, .int .i64 0, .int .i64 0, .slice none 0 0, .int .i64 0, .int .i64 0, .slice none 0 0] 25)).setRow x1.heap.size (bcs y1).toArray) := below_setR (below_a _ _) (Nat.le_refl _)
        have HX1 : Hid (Bx ((x1.alloc (.cells #[.int .i64 0, .int .i64 0, .string ⟨#[]⟩, .int .i64 0, .int .i64 0, .int .i64 0, .slice none 0 0, .int .i64 0, .int .i64 0, .slice none 0 0] 25)).setRow x1.heap.size (bcs y1).toArray) x1.heap.size (bcs y1).toArray 25) := (Bx.new _ _ _).setR
        generalize ((x1.alloc (.cells #[.int .i64 0, .int .i64 0, .string ⟨#[]⟩, .int .i64 0, .int .i64 0, .int .i64 0, .slice none 0 0, .int .i64 0, .int .i64 0, .slice none 0 0] 25)).setRow x1.heap.size (bcs y1).toArray) = z1 at *
        have hbz : Below wr.heap.size wr z1 := bt hb0 hb3
        have HP1 : Hid (Pl wb.heap.size wb z1 (wb.heap.size + 1) wb.heap.size (.slice va ys.length vc) (ys.map (fun y : Bm => y.b)) ys k) := HPa.out.below hbz
        have HY1 : Hid (y1.b = q1.getD Bk.z ∧ Ha z1.heap.size z1 y1) := ⟨hy.out.1, hy.out.2.1.ha.on hb3 (Nat.le_refl _)⟩
        clear hy H20
        clear hb0 hb3 hbz HSQ HPa
        generalize x1.heap.size = b1 at *
        have HC2 : Hid (Calls Try.prog 21 #[.slice va ys.length vc, .int .i64 id, .int .i64 0] z1 (fun e w' => e = .returned (.tuple #[.agg (bcs c1).toArray, .bool q1.isSome]) ∧ Hid (Below z1.heap.size z1 w'))) := by rw [← HA0.out z1]; exact H21.out z1 0 HP1.out
        go_upto_region 13 with (first | (go_at_call 21; refine HC2.out.mono ?_; clear HC2; rintro e x2 ⟨rfl, hbx⟩; have HSQ : Hid ((Instr.storeAt 25 (.pointer (some ⟨x2.heap.size, 0, none⟩)) (.agg (bcs c1).toArray)).run Try.prog (x2.alloc (.cells #[.int .i64 0, .int .i64 0, .string ⟨#[]⟩, .int .i64 0, .int .i64 0, .int .i64 0, .slice none 0 0, .int .i64 0, .int .i64 0, .slice none 0 0] 25)) = .ok () ((x2.alloc (.cells #[.int .i64 0, .int .i64 0, .string ⟨#[]⟩, .int .i64 0, .int .i64 0, .int .i64 0, .slice none 0 0, .int .i64 0, .int .i64 0, .slice none 0 0] 25)).setRow x2.heap.size (bcs c1).toArray)) := box_store (Bx.new _ _ _) rfl c1) | (guard_target =~ wpList _ _ _ (⟨_, Op.store 25 _ _, _, _, _, _⟩ :: _) _ _; refine wl_store _ _ rfl 25 _ _ rfl _ _ rfl rfl HSQ.out ?_; go_simp))
        have hb0 : Below z1.heap.size z1 x2 := hbx.out
        have hb3 : Below x2.heap.size x2 ((x2.alloc (.cells #[.int .i64 0, .int .i64 0, .string ⟨#[]⟩, .int .i64 0, .int .i64 0, .int .i64 0, .slice none 0 0, .int .i64 0, .int .i64 0, .slice none 0 0] 25)).setRow x2.heap.size (bcs c1).toArray) := below_setR (below_a _ _) (Nat.le_refl _)
        have HX2 : Hid (Bx ((x2.alloc (.cells #[.int .i64 0, .int .i64 0, .string ⟨#[]⟩, .int .i64 0, .int .i64 0, .int .i64 0, .slice none 0 0, .int .i64 0, .int .i64 0, .slice none 0 0] 25)).setRow x2.heap.size (bcs c1).toArray) x2.heap.size (bcs c1).toArray 25) := (Bx.new _ _ _).setR
        generalize ((x2.alloc (.cells #[.int .i64 0, .int .i64 0, .string ⟨#[]⟩, .int .i64 0, .int .i64 0, .int .i64 0, .slice none 0 0, .int .i64 0, .int .i64 0, .slice none 0 0] 25)).setRow x2.heap.size (bcs c1).toArray) = z2 at *
        have hbz : Below z1.heap.size z1 z2 := bt hb0 hb3
        have HP2 : Hid (Pl wb.heap.size wb z2 (wb.heap.size + 1) wb.heap.size (.slice va ys.length vc) (ys.map (fun y : Bm => y.b)) ys k) := HP1.out.below hbz
        have HX1b : Hid (Bx z2 b1 (bcs y1).toArray 25) := HX1.out.keep hbz
        have HY1b : Hid (y1.b = q1.getD Bk.z ∧ Ha z2.heap.size z2 y1) := ⟨HY1.out.1, HY1.out.2.on hbz (Nat.le_refl _)⟩
        clear hbx HX1 HY1 HA0
        clear hb0 hb3 hbz HSQ HP1
        generalize x2.heap.size = b2 at *
        have HC3 : Hid (Calls Try.prog 22 #[.pointer (some ⟨wb.heap.size + 1, 0, none⟩), .int .i64 id, .int .i64 ver] z2 (AtX q2 z2)) := H22.out z2 HP2.out
        go_upto_region 14 with (first | (go_at_call 22; refine HC3.out.mono ?_; clear HC3; rintro e x3 ⟨y2, rfl, hy⟩; have HSQ : Hid ((Instr.storeAt 25 (.pointer (some ⟨x3.heap.size, 0, none⟩)) (.agg (bcs y2).toArray)).run Try.prog (x3.alloc (.cells #[.int .i64 0, .int .i64 0, .string ⟨#[]⟩, .int .i64 0, .int .i64 0, .int .i64 0, .slice none 0 0, .int .i64 0, .int .i64 0, .slice none 0 0] 25)) = .ok () ((x3.alloc (.cells #[.int .i64 0, .int .i64 0, .string ⟨#[]⟩, .int .i64 0, .int .i64 0, .int .i64 0, .slice none 0 0, .int .i64 0, .int .i64 0, .slice none 0 0] 25)).setRow x3.heap.size (bcs y2).toArray)) := box_store (Bx.new _ _ _) rfl y2) | (guard_target =~ wpList _ _ _ (⟨_, Op.store 25 _ _, _, _, _, _⟩ :: _) _ _; refine wl_store _ _ rfl 25 _ _ rfl _ _ rfl rfl HSQ.out ?_; go_simp))
        have hb0 : Below z2.heap.size z2 x3 := hy.out.2.2
        have hb3 : Below x3.heap.size x3 ((x3.alloc (.cells #[.int .i64 0, .int .i64 0, .string ⟨#[]⟩, .int .i64 0, .int .i64 0, .int .i64 0, .slice none 0 0, .int .i64 0, .int .i64 0, .slice none 0 0] 25)).setRow x3.heap.size (bcs y2).toArray) := below_setR (below_a _ _) (Nat.le_refl _)
        have HX3 : Hid (Bx ((x3.alloc (.cells #[.int .i64 0, .int .i64 0, .string ⟨#[]⟩, .int .i64 0, .int .i64 0, .int .i64 0, .slice none 0 0, .int .i64 0, .int .i64 0, .slice none 0 0] 25)).setRow x3.heap.size (bcs y2).toArray) x3.heap.size (bcs y2).toArray 25) := (Bx.new _ _ _).setR
        generalize ((x3.alloc (.cells #[.int .i64 0, .int .i64 0, .string ⟨#[]⟩, .int .i64 0, .int .i64 0, .int .i64 0, .slice none 0 0, .int .i64 0, .int .i64 0, .slice none 0 0] 25)).setRow x3.heap.size (bcs y2).toArray) = z3 at *
        have hbz : Below z2.heap.size z2 z3 := bt hb0 hb3
        have HP3 : Hid (Pl wb.heap.size wb z3 (wb.heap.size + 1) wb.heap.size (.slice va ys.length vc) (ys.map (fun y : Bm => y.b)) ys k) := HP2.out.below hbz
        have HX1c : Hid (Bx z3 b1 (bcs y1).toArray 25) := HX1b.out.keep hbz
        have HX2c : Hid (Bx z3 b2 (bcs c1).toArray 25) := HX2.out.keep hbz
        have HY1c : Hid (y1.b = q1.getD Bk.z ∧ Ha z3.heap.size z3 y1) := ⟨HY1b.out.1, HY1b.out.2.on hbz (Nat.le_refl _)⟩
        have HY2 : Hid (y2.b = q2.getD Bk.z ∧ Ha z3.heap.size z3 y2) := ⟨hy.out.1, hy.out.2.1.ha.on hb3 (Nat.le_refl _)⟩
        clear hy HX1b HY1b HX2 H22
        clear hb0 hb3 hbz HSQ HP2
        generalize x3.heap.size = b3 at *
        have HC4 : Hid (Calls Try.prog 21 #[.slice va ys.length vc, .int .i64 id, .int .i64 ver] z3 (fun e w' => e = .returned (.tuple #[.agg (bcs c2).toArray, .bool (atM ys id ver).isSome]) ∧ Hid (Below z3.heap.size z3 w'))) := by rw [← HAV.out z3]; exact H21.out z3 ver HP3.out
        go_upto_region 15 with (first | (go_at_call 21; refine HC4.out.mono ?_; clear HC4; rintro e x4 ⟨rfl, hbx⟩; have HSQ : Hid ((Instr.storeAt 25 (.pointer (some ⟨x4.heap.size, 0, none⟩)) (.agg (bcs c2).toArray)).run Try.prog (x4.alloc (.cells #[.int .i64 0, .int .i64 0, .string ⟨#[]⟩, .int .i64 0, .int .i64 0, .int .i64 0, .slice none 0 0, .int .i64 0, .int .i64 0, .slice none 0 0] 25)) = .ok () ((x4.alloc (.cells #[.int .i64 0, .int .i64 0, .string ⟨#[]⟩, .int .i64 0, .int .i64 0, .int .i64 0, .slice none 0 0, .int .i64 0, .int .i64 0, .slice none 0 0] 25)).setRow x4.heap.size (bcs c2).toArray)) := box_store (Bx.new _ _ _) rfl c2) | (guard_target =~ wpList _ _ _ (⟨_, Op.store 25 _ _, _, _, _, _⟩ :: _) _ _; refine wl_store _ _ rfl 25 _ _ rfl _ _ rfl rfl HSQ.out ?_; go_simp))
        have hb0 : Below z3.heap.size z3 x4 := hbx.out
        have hb3 : Below x4.heap.size x4 ((x4.alloc (.cells #[.int .i64 0, .int .i64 0, .string ⟨#[]⟩, .int .i64 0, .int .i64 0, .int .i64 0, .slice none 0 0, .int .i64 0, .int .i64 0, .slice none 0 0] 25)).setRow x4.heap.size (bcs c2).toArray) := below_setR (below_a _ _) (Nat.le_refl _)
        have HX4 : Hid (Bx ((x4.alloc (.cells #[.int .i64 0, .int .i64 0, .string ⟨#[]⟩, .int .i64 0, .int .i64 0, .int .i64 0, .slice none 0 0, .int .i64 0, .int .i64 0, .slice none 0 0] 25)).setRow x4.heap.size (bcs c2).toArray) x4.heap.size (bcs c2).toArray 25) := (Bx.new _ _ _).setR
        generalize ((x4.alloc (.cells #[.int .i64 0, .int .i64 0, .string ⟨#[]⟩, .int .i64 0, .int .i64 0, .int .i64 0, .slice none 0 0, .int .i64 0, .int .i64 0, .slice none 0 0] 25)).setRow x4.heap.size (bcs c2).toArray) = z4 at *
        have hbz : Below z3.heap.size z3 z4 := bt hb0 hb3
        have HP4 : Hid (Pl wb.heap.size wb z4 (wb.heap.size + 1) wb.heap.size (.slice va ys.length vc) (ys.map (fun y : Bm => y.b)) ys k) := HP3.out.below hbz
        have HX1d : Hid (Bx z4 b1 (bcs y1).toArray 25) := HX1c.out.keep hbz
        have HX2d : Hid (Bx z4 b2 (bcs c1).toArray 25) := HX2c.out.keep hbz
        have HX3d : Hid (Bx z4 b3 (bcs y2).toArray 25) := HX3.out.keep hbz
        have HY1d : Hid (y1.b = q1.getD Bk.z ∧ Ha z4.heap.size z4 y1) := ⟨HY1c.out.1, HY1c.out.2.on hbz (Nat.le_refl _)⟩
        have HY2d : Hid (y2.b = q2.getD Bk.z ∧ Ha z4.heap.size z4 y2) := ⟨HY2.out.1, HY2.out.2.on hbz (Nat.le_refl _)⟩
        have HLT4 : Hid (b1 < x4.heap.size ∧ b2 < x4.heap.size ∧ b3 < x4.heap.size) := ⟨Nat.lt_of_lt_of_le HX1c.out.lt hb0.size, Nat.lt_of_lt_of_le HX2c.out.lt hb0.size, Nat.lt_of_lt_of_le HX3.out.lt hb0.size⟩
        have HBX4 : Hid (wr.heap.size ≤ x4.heap.size → True) := fun _ => trivial
        have HPX : Hid (wb.heap.size ≤ x4.heap.size ∧ Below z3.heap.size z3 z4 ∧ z3.heap.size ≤ x4.heap.size) := ⟨Nat.le_trans HP3.out.size hb0.size, hbz, hb0.size⟩
        have HP3k : Hid (Pl wb.heap.size wb z3 (wb.heap.size + 1) wb.heap.size (.slice va ys.length vc) (ys.map (fun y : Bm => y.b)) ys k) := HP3.out
        clear hbx HX1c HX2c HX3 H21 HAV
        clear hb0 hb3 hbz HSQ HP3
        generalize x4.heap.size = b4 at *
        obtain ⟨zc, gv, hg2, hz2, hl2, hcase⟩ := HV.out
        have HG2 : Hid (q2.isSome = gv) := hg2
        have HZ2 : Hid (zc.b = q2.getD Bk.z) := hz2
        have HL2 : Hid ((q2.getD Bk.z).cuts.length ≤ 1000000 ∧ (q2.getD Bk.z).bar.length ≤ 1000000) := hl2
        clear hz2 hl2 HV
        rw [hg2]
        clear hg2
        have HSTZ : Hid ((Instr.storeAt 25 (.pointer (some ⟨b4, 0, none⟩)) (.agg #[.int .i64 0, .int .i64 0, .string ⟨#[]⟩, .int .i64 0, .int .i64 0, .int .i64 0, .slice none 0 0, .int .i64 0, .int .i64 0, .slice none 0 0])).run Try.prog z4 = .ok () (z4.setRow b4 #[.int .i64 0, .int .i64 0, .string ⟨#[]⟩, .int .i64 0, .int .i64 0, .int .i64 0, .slice none 0 0, .int .i64 0, .int .i64 0, .slice none 0 0])) := box_store HX4.out rfl Zm
        have HPZ : Hid (Pl wb.heap.size wb (z4.setRow b4 #[.int .i64 0, .int .i64 0, .string ⟨#[]⟩, .int .i64 0, .int .i64 0, .int .i64 0, .slice none 0 0, .int .i64 0, .int .i64 0, .slice none 0 0]) (wb.heap.size + 1) wb.heap.size (.slice va ys.length vc) (ys.map (fun y : Bm => y.b)) ys k) := HP3k.out.below (below_setR HPX.out.2.1 HPX.out.2.2)
        have HXZ : Hid (Bx (z4.setRow b4 #[.int .i64 0, .int .i64 0, .string ⟨#[]⟩, .int .i64 0, .int .i64 0, .int .i64 0, .slice none 0 0, .int .i64 0, .int .i64 0, .slice none 0 0]) b4 #[.int .i64 0, .int .i64 0, .string ⟨#[]⟩, .int .i64 0, .int .i64 0, .int .i64 0, .slice none 0 0, .int .i64 0, .int .i64 0, .slice none 0 0] 25) := HX4.out.setR
        have HXY : Hid (∀ (b : Nat) (y : Bm), b < b4 → Bx z4 b (bcs y).toArray 25 → Bx (z4.setRow b4 #[.int .i64 0, .int .i64 0, .string ⟨#[]⟩, .int .i64 0, .int .i64 0, .int .i64 0, .slice none 0 0, .int .i64 0, .int .i64 0, .slice none 0 0]) b (bcs y).toArray 25) := fun b y hb h => h.othR (by omega)
        have HHZ : Hid (∀ y : Bm, Ha z3.heap.size z3 y → Ha (z4.setRow b4 #[.int .i64 0, .int .i64 0, .string ⟨#[]⟩, .int .i64 0, .int .i64 0, .int .i64 0, .slice none 0 0, .int .i64 0, .int .i64 0, .slice none 0 0]).heap.size (z4.setRow b4 #[.int .i64 0, .int .i64 0, .string ⟨#[]⟩, .int .i64 0, .int .i64 0, .int .i64 0, .slice none 0 0, .int .i64 0, .int .i64 0, .slice none 0 0]) y) := fun y h => h.on (below_setR HPX.out.2.1 HPX.out.2.2) (Nat.le_refl _)
        rcases hcase with ⟨hv0, hzc, hgf⟩ | ⟨hv0, hzc, hgf⟩
        · have hvb : (ver == 0) = true := by simp [hv0]
          have hk1 : Hid (Pl wb.heap.size wb (z4.setRow b4 #[.int .i64 0, .int .i64 0, .string ⟨#[]⟩, .int .i64 0, .int .i64 0, .int .i64 0, .slice none 0 0, .int .i64 0, .int .i64 0, .slice none 0 0]) (wb.heap.size + 1) wb.heap.size (.slice va ys.length vc) (ys.map (fun y : Bm => y.b)) ys k ∧ Bx (z4.setRow b4 #[.int .i64 0, .int .i64 0, .string ⟨#[]⟩, .int .i64 0, .int .i64 0, .int .i64 0, .slice none 0 0, .int .i64 0, .int .i64 0, .slice none 0 0]) b1 (bcs y1).toArray 25 ∧ Bx (z4.setRow b4 #[.int .i64 0, .int .i64 0, .string ⟨#[]⟩, .int .i64 0, .int .i64 0, .int .i64 0, .slice none 0 0, .int .i64 0, .int .i64 0, .slice none 0 0]) b2 (bcs c1).toArray 25 ∧ Bx (z4.setRow b4 #[.int .i64 0, .int .i64 0, .string ⟨#[]⟩, .int .i64 0, .int .i64 0, .int .i64 0, .slice none 0 0, .int .i64 0, .int .i64 0, .slice none 0 0]) b3 (bcs y2).toArray 25 ∧ Bx (z4.setRow b4 #[.int .i64 0, .int .i64 0, .string ⟨#[]⟩, .int .i64 0, .int .i64 0, .int .i64 0, .slice none 0 0, .int .i64 0, .int .i64 0, .slice none 0 0]) b4 (bcs zc).toArray 25 ∧ Ha (z4.setRow b4 #[.int .i64 0, .int .i64 0, .string ⟨#[]⟩, .int .i64 0, .int .i64 0, .int .i64 0, .slice none 0 0, .int .i64 0, .int .i64 0, .slice none 0 0]).heap.size (z4.setRow b4 #[.int .i64 0, .int .i64 0, .string ⟨#[]⟩, .int .i64 0, .int .i64 0, .int .i64 0, .slice none 0 0, .int .i64 0, .int .i64 0, .slice none 0 0]) y1 ∧ Ha (z4.setRow b4 #[.int .i64 0, .int .i64 0, .string ⟨#[]⟩, .int .i64 0, .int .i64 0, .int .i64 0, .slice none 0 0, .int .i64 0, .int .i64 0, .slice none 0 0]).heap.size (z4.setRow b4 #[.int .i64 0, .int .i64 0, .string ⟨#[]⟩, .int .i64 0, .int .i64 0, .int .i64 0, .slice none 0 0, .int .i64 0, .int .i64 0, .slice none 0 0]) c1 ∧ Ha (z4.setRow b4 #[.int .i64 0, .int .i64 0, .string ⟨#[]⟩, .int .i64 0, .int .i64 0, .int .i64 0, .slice none 0 0, .int .i64 0, .int .i64 0, .slice none 0 0]).heap.size (z4.setRow b4 #[.int .i64 0, .int .i64 0, .string ⟨#[]⟩, .int .i64 0, .int .i64 0, .int .i64 0, .slice none 0 0, .int .i64 0, .int .i64 0, .slice none 0 0]) y2 ∧ Ha (z4.setRow b4 #[.int .i64 0, .int .i64 0, .string ⟨#[]⟩, .int .i64 0, .int .i64 0, .int .i64 0, .slice none 0 0, .int .i64 0, .int .i64 0, .slice none 0 0]).heap.size (z4.setRow b4 #[.int .i64 0, .int .i64 0, .string ⟨#[]⟩, .int .i64 0, .int .i64 0, .int .i64 0, .slice none 0 0, .int .i64 0, .int .i64 0, .slice none 0 0]) zc) := ⟨HPZ.out, HXY.out b1 y1 HLT4.out.1 HX1d.out, HXY.out b2 c1 HLT4.out.2.1 HX2d.out, HXY.out b3 y2 HLT4.out.2.2 HX3d.out, by rw [hzc]; exact HXZ.out, HHZ.out y1 HY1c.out.2, HH1.out _ HPZ.out.ha, HHZ.out y2 HY2.out.2, by rw [hzc]; exact (zm_hx (fun _ => True) _).ha⟩
          subst hgf
          clear hv0 hzc HX1d HX2d HX3d HX4 HPZ HXZ HXY HHZ HP3k HY1d HY2d HLT4 HBX4 HG2 HP4
          have HALL := hk1
          clear hk1
          go_upto_region 17 with (guard_target =~ wpList _ _ _ (⟨_, Op.store 25 _ _, _, _, _, _⟩ :: _) _ _; refine wl_store _ _ rfl 25 _ _ rfl _ _ rfl rfl HSTZ.out ?_; go_simp)
          clear HSTZ
          generalize (z4.setRow b4 #[.int .i64 0, .int .i64 0, .string ⟨#[]⟩, .int .i64 0, .int .i64 0, .int .i64 0, .slice none 0 0, .int .i64 0, .int .i64 0, .slice none 0 0]) = z5 at *
          have hsel : Below z5.heap.size z5 z5 := Below.refl _ _
          have HC23a : Hid (∀ W, Below z5.heap.size z5 W → Calls Try.prog 23 #[.agg (bcs y1).toArray, .agg (bcs c1).toArray] W (KP (.bool true) W)) := fun W hW => ysame y1 c1 (HY1c.out.1.trans HB1.out.symm) W (HALL.out.2.2.2.2.2.1.on hW (Nat.le_refl _)) (HALL.out.2.2.2.2.2.2.1.on hW (Nat.le_refl _)) (by rw [HY1c.out.1]; exact HL1.out.1) (by rw [HY1c.out.1]; exact HL1.out.2)
          have HC23b : Hid (∀ W, Below z5.heap.size z5 W → Calls Try.prog 23 #[.agg (bcs y2).toArray, .agg (bcs zc).toArray] W (KP (.bool true) W)) := fun W hW => ysame y2 zc (HY2.out.1.trans HZ2.out.symm) W (HALL.out.2.2.2.2.2.2.2.1.on hW (Nat.le_refl _)) (HALL.out.2.2.2.2.2.2.2.2.on hW (Nat.le_refl _)) (by rw [HY2.out.1]; exact HL2.out.1) (by rw [HY2.out.1]; exact HL2.out.2)
          have HC25 : Hid (∀ W, Below z5.heap.size z5 W → Calls Try.prog 25 #[.pointer (some ⟨wb.heap.size + 1, 0, none⟩), .agg #[.string ai, .int .i64 a1, .int .i64 a2, .int .i64 m, .string ac], .int .i64 day] W (IdP T W)) := fun W hW => H25.out W (HALL.out.1.below hW)
          have HC26 : Hid (∀ W, Below z5.heap.size z5 W → Calls Try.prog 26 #[.slice va ys.length vc, .agg #[.string ai, .int .i64 a1, .int .i64 a2, .int .i64 m, .string ac], .int .i64 day] W (JdP T W)) := fun W hW => H26.out W (HALL.out.1.below hW)
          have HA1 : Hid (∀ W, Below z5.heap.size z5 W → (Instr.loadAt 25 (.pointer (some ⟨b1, 0, none⟩))).run Try.prog W = .ok (.agg (bcs y1).toArray) W) := fun W hW => box_loadAt (HALL.out.2.1.keep hW)
          have HA2 : Hid (∀ W, Below z5.heap.size z5 W → (Instr.loadAt 25 (.pointer (some ⟨b2, 0, none⟩))).run Try.prog W = .ok (.agg (bcs c1).toArray) W) := fun W hW => box_loadAt (HALL.out.2.2.1.keep hW)
          have HA3 : Hid (∀ W, Below z5.heap.size z5 W → (Instr.loadAt 25 (.pointer (some ⟨b3, 0, none⟩))).run Try.prog W = .ok (.agg (bcs y2).toArray) W) := fun W hW => box_loadAt (HALL.out.2.2.2.1.keep hW)
          have HA4 : Hid (∀ W, Below z5.heap.size z5 W → (Instr.loadAt 25 (.pointer (some ⟨b4, 0, none⟩))).run Try.prog W = .ok (.agg (bcs zc).toArray) W) := fun W hW => box_loadAt (HALL.out.2.2.2.2.1.keep hW)
          have HA5 : Hid (∀ W, Below z5.heap.size z5 W → (Instr.loadAt 27 (.pointer (some ⟨w.heap.size, 0, none⟩))).run Try.prog W = .ok (.agg #[.string ai, .int .i64 a1, .int .i64 a2, .int .i64 m, .string ac]) W) := fun W hW => load27 ((HXA.out.below HALL.out.1.bel HLT.out).keep hW)
          have HBF : Hid (Below w.heap.size w z5) := HBB.out.trans (HALL.out.1.bel.mono HBB.out.size)
          have hg1 : (q1.isSome == q1.isSome) = true := by simp
          have hg3 : (false == false) = true := by simp
          generalize (bcs y1).toArray = M1 at *
          generalize (bcs c1).toArray = M2 at *
          generalize (bcs y2).toArray = M3 at *
          generalize (bcs zc).toArray = M4 at *
          generalize q1.isSome = g1 at *
          clear HALL HY1c HY2 HB1 HZ2 HL1 HL2 H25 H26 HXA HG HM HH1 HH2 HBB HPX
          refine wp_region_held (S := fun W => Below z5.heap.size z5 W) (by kernel_rfl) ?_
          change wpAnyH _ _ _ _ _ 33 #[false, false, false, false, false, false, false, false, false, false, false, false, false, false, false, false, false, false, false, false, false, false, false, false, false, false, false, false, false, false, false, false, false] _ z5.drew
          obtain ⟨v0, hv0⟩ : ∃ v, v = z5.drew := ⟨_, rfl⟩
          have hS0 : Below z5.heap.size z5 v0 := by rw [hv0]; exact ⟨rfl, rfl, rfl, Nat.le_refl _, fun _ _ => rfl⟩
          rw [← hv0]
          clear hv0
          refine takeR (fuel := 32) (i := 0) (v := .agg M1) rfl (by kernel_rfl) (by kernel_rfl) (by kernel_rfl) (fun _ _ _ h => h) (Or.inl ⟨rfl, fun W hW => exl _ _ _ _ rfl (.pointer (some ⟨b1, 0, none⟩)) _ rfl (HA1.out W hW)⟩) hS0 ?_
          simp only [Act.put, List.setIfInBounds_toArray, List.set_cons_zero, List.set_cons_succ]
          refine takeR (fuel := 31) (i := 1) (v := .agg M2) rfl (by kernel_rfl) (by kernel_rfl) (by kernel_rfl) (fun _ _ _ h => h) (Or.inl ⟨rfl, fun W hW => exl _ _ _ _ rfl (.pointer (some ⟨b2, 0, none⟩)) _ rfl (HA2.out W hW)⟩) hS0 ?_
          simp only [Act.put, List.setIfInBounds_toArray, List.set_cons_zero, List.set_cons_succ]
          refine consR (fuel := 30) (i := 2) rfl (by kernel_rfl) (fun K hK => ?_)
          rw [if_pos (by rfl)]
          go_simp
          refine (HC23a.out _ hS0).mono ?_
          rintro e v1 ⟨rfl, hk0⟩
          have hk := hk0.out
          have hS1 : Below z5.heap.size z5 v1 := hS0.trans (hk.mono hS0.size)
          refine hK.out _ _ hS1 (fun _ => ?_)
          clear hK
          try simp only [Act.put, List.setIfInBounds_toArray, List.set_cons_zero, List.set_cons_succ]
          refine takeR (fuel := 29) (i := 3) (v := .bool true) rfl (by kernel_rfl) (by kernel_rfl) (by kernel_rfl) (fun _ _ _ h => h) (Or.inl ⟨rfl, fun W hW => by go_simp⟩) hS1 ?_
          simp only [Act.put, List.setIfInBounds_toArray, List.set_cons_zero, List.set_cons_succ]
          refine takeR (fuel := 28) (i := 4) (v := .bool g1) rfl (by kernel_rfl) (by kernel_rfl) (by kernel_rfl) (fun _ _ _ h => h) (Or.inl ⟨rfl, fun W hW => by go_simp⟩) hS1 ?_
          simp only [Act.put, List.setIfInBounds_toArray, List.set_cons_zero, List.set_cons_succ]
          refine takeR (fuel := 27) (i := 5) (v := .bool g1) rfl (by kernel_rfl) (by kernel_rfl) (by kernel_rfl) (fun _ _ _ h => h) (Or.inl ⟨rfl, fun W hW => by go_simp⟩) hS1 ?_
          simp only [Act.put, List.setIfInBounds_toArray, List.set_cons_zero, List.set_cons_succ]
          refine takeR (fuel := 26) (i := 6) (v := .bool true) rfl (by kernel_rfl) (by kernel_rfl) (by kernel_rfl) (fun _ _ _ h => h) (Or.inl ⟨rfl, fun W hW => by go_simp⟩) hS1 ?_
          simp only [Act.put, List.setIfInBounds_toArray, List.set_cons_zero, List.set_cons_succ]
          refine takeR (fuel := 25) (i := 7) (v := .bool true) rfl (by kernel_rfl) (by kernel_rfl) (by kernel_rfl) (fun _ _ _ h => h) (Or.inl ⟨rfl, fun W hW => by go_simp⟩) hS1 ?_
          simp only [Act.put, List.setIfInBounds_toArray, List.set_cons_zero, List.set_cons_succ]
          refine takeR (fuel := 24) (i := 8) (v := .bool true) rfl (by kernel_rfl) (by kernel_rfl) (by kernel_rfl) (fun _ _ _ h => h) (Or.inl ⟨rfl, fun W hW => by go_simp⟩) hS1 ?_
          simp only [Act.put, List.setIfInBounds_toArray, List.set_cons_zero, List.set_cons_succ]
          refine takeR (fuel := 23) (i := 9) (v := .agg M3) rfl (by kernel_rfl) (by kernel_rfl) (by kernel_rfl) (fun _ _ _ h => h) (Or.inl ⟨rfl, fun W hW => exl _ _ _ _ rfl (.pointer (some ⟨b3, 0, none⟩)) _ rfl (HA3.out W hW)⟩) hS1 ?_
          simp only [Act.put, List.setIfInBounds_toArray, List.set_cons_zero, List.set_cons_succ]
          refine takeR (fuel := 22) (i := 10) (v := .agg M4) rfl (by kernel_rfl) (by kernel_rfl) (by kernel_rfl) (fun _ _ _ h => h) (Or.inl ⟨rfl, fun W hW => exl _ _ _ _ rfl (.pointer (some ⟨b4, 0, none⟩)) _ rfl (HA4.out W hW)⟩) hS1 ?_
          simp only [Act.put, List.setIfInBounds_toArray, List.set_cons_zero, List.set_cons_succ]
          refine consR (fuel := 21) (i := 11) rfl (by kernel_rfl) (fun K hK => ?_)
          rw [if_pos (by rfl)]
          go_simp
          refine (HC23b.out _ hS1).mono ?_
          rintro e v2 ⟨rfl, hk0⟩
          have hk := hk0.out
          have hS2 : Below z5.heap.size z5 v2 := hS1.trans (hk.mono hS1.size)
          refine hK.out _ _ hS2 (fun _ => ?_)
          clear hK
          try simp only [Act.put, List.setIfInBounds_toArray, List.set_cons_zero, List.set_cons_succ]
          refine takeR (fuel := 20) (i := 12) (v := .bool true) rfl (by kernel_rfl) (by kernel_rfl) (by kernel_rfl) (fun _ _ _ h => h) (Or.inl ⟨rfl, fun W hW => by go_simp⟩) hS2 ?_
          simp only [Act.put, List.setIfInBounds_toArray, List.set_cons_zero, List.set_cons_succ]
          refine takeR (fuel := 19) (i := 13) (v := .bool true) rfl (by kernel_rfl) (by kernel_rfl) (by kernel_rfl) (fun _ _ _ h => h) (Or.inl ⟨rfl, fun W hW => by go_simp⟩) hS2 ?_
          simp only [Act.put, List.setIfInBounds_toArray, List.set_cons_zero, List.set_cons_succ]
          refine takeR (fuel := 18) (i := 14) (v := .bool false) rfl (by kernel_rfl) (by kernel_rfl) (by kernel_rfl) (fun _ _ _ h => h) (Or.inl ⟨rfl, fun W hW => by go_simp⟩) hS2 ?_
          simp only [Act.put, List.setIfInBounds_toArray, List.set_cons_zero, List.set_cons_succ]
          refine takeR (fuel := 17) (i := 15) (v := .bool false) rfl (by kernel_rfl) (by kernel_rfl) (by kernel_rfl) (fun _ _ _ h => h) (Or.inl ⟨rfl, fun W hW => by go_simp⟩) hS2 ?_
          simp only [Act.put, List.setIfInBounds_toArray, List.set_cons_zero, List.set_cons_succ]
          refine takeR (fuel := 16) (i := 16) (v := .bool true) rfl (by kernel_rfl) (by kernel_rfl) (by kernel_rfl) (fun _ _ _ h => h) (Or.inl ⟨rfl, fun W hW => by go_simp⟩) hS2 ?_
          simp only [Act.put, List.setIfInBounds_toArray, List.set_cons_zero, List.set_cons_succ]
          refine takeR (fuel := 15) (i := 17) (v := .bool true) rfl (by kernel_rfl) (by kernel_rfl) (by kernel_rfl) (fun _ _ _ h => h) (Or.inl ⟨rfl, fun W hW => by go_simp⟩) hS2 ?_
          simp only [Act.put, List.setIfInBounds_toArray, List.set_cons_zero, List.set_cons_succ]
          refine takeR (fuel := 14) (i := 18) (v := .bool true) rfl (by kernel_rfl) (by kernel_rfl) (by kernel_rfl) (fun _ _ _ h => h) (Or.inl ⟨rfl, fun W hW => by go_simp⟩) hS2 ?_
          simp only [Act.put, List.setIfInBounds_toArray, List.set_cons_zero, List.set_cons_succ]
          refine takeR (fuel := 13) (i := 19) (v := .pointer (some ⟨wb.heap.size + 1, 0, none⟩)) rfl (by kernel_rfl) (by kernel_rfl) (by kernel_rfl) (fun _ _ _ h => h) (Or.inl ⟨rfl, fun W hW => by go_simp⟩) hS2 ?_
          simp only [Act.put, List.setIfInBounds_toArray, List.set_cons_zero, List.set_cons_succ]
          refine takeR (fuel := 12) (i := 20) (v := .agg #[.string ai, .int .i64 a1, .int .i64 a2, .int .i64 m, .string ac]) rfl (by kernel_rfl) (by kernel_rfl) (by kernel_rfl) (fun _ _ _ h => h) (Or.inl ⟨rfl, fun W hW => exl _ _ _ _ rfl (.pointer (some ⟨w.heap.size, 0, none⟩)) _ rfl (HA5.out W hW)⟩) hS2 ?_
          simp only [Act.put, List.setIfInBounds_toArray, List.set_cons_zero, List.set_cons_succ]
          refine takeR (fuel := 11) (i := 21) (v := .int .i64 day) rfl (by kernel_rfl) (by kernel_rfl) (by kernel_rfl) (fun _ _ _ h => h) (Or.inl ⟨rfl, fun W hW => by go_simp⟩) hS2 ?_
          simp only [Act.put, List.setIfInBounds_toArray, List.set_cons_zero, List.set_cons_succ]
          refine takeR (fuel := 10) (i := 23) (v := .slice va ys.length vc) rfl (by kernel_rfl) (by kernel_rfl) (by kernel_rfl) (fun _ _ _ h => h) (Or.inl ⟨rfl, fun W hW => by go_simp⟩) hS2 ?_
          simp only [Act.put, List.setIfInBounds_toArray, List.set_cons_zero, List.set_cons_succ]
          refine takeR (fuel := 9) (i := 24) (v := .agg #[.string ai, .int .i64 a1, .int .i64 a2, .int .i64 m, .string ac]) rfl (by kernel_rfl) (by kernel_rfl) (by kernel_rfl) (fun _ _ _ h => h) (Or.inl ⟨rfl, fun W hW => exl _ _ _ _ rfl (.pointer (some ⟨w.heap.size, 0, none⟩)) _ rfl (HA5.out W hW)⟩) hS2 ?_
          simp only [Act.put, List.setIfInBounds_toArray, List.set_cons_zero, List.set_cons_succ]
          refine takeR (fuel := 8) (i := 25) (v := .int .i64 day) rfl (by kernel_rfl) (by kernel_rfl) (by kernel_rfl) (fun _ _ _ h => h) (Or.inl ⟨rfl, fun W hW => by go_simp⟩) hS2 ?_
          simp only [Act.put, List.setIfInBounds_toArray, List.set_cons_zero, List.set_cons_succ]
          refine consR (fuel := 7) (i := 22) rfl (by kernel_rfl) (fun K hK => ?_)
          rw [if_pos (by rfl)]
          go_simp
          refine (HC25.out _ hS2).mono ?_
          rintro e v3 ⟨p1, r1, rfl, hid1⟩
          have hk := hid1.out.2
          have hS3 : Below z5.heap.size z5 v3 := hS2.trans (hk.mono hS2.size)
          obtain ⟨p1', r1', e0, _, hi1⟩ := own_rw ics_len hid1.out.1 rfl
          injection e0 with e1 e2 e3
          subst e1
          refine hK.out _ _ hS3 (fun _ => ?_)
          clear hK
          try simp only [Act.put, List.setIfInBounds_toArray, List.set_cons_zero, List.set_cons_succ]
          refine consR (fuel := 6) (i := 26) rfl (by kernel_rfl) (fun K hK => ?_)
          rw [if_pos (by rfl)]
          go_simp
          refine (HC26.out _ hS3).mono ?_
          rintro e v4 ⟨p2, r2, rfl, hid2⟩
          have hk := hid2.out.2
          have hS4 : Below z5.heap.size z5 v4 := hS3.trans (hk.mono hS3.size)
          obtain ⟨p2', r2', e0, _, hi2⟩ := own_rw ics_len hid2.out.1 rfl
          injection e0 with e1 e2 e3
          subst e1
          have hi1 := hi1.below hk
          refine hK.out _ _ hS4 (fun _ => ?_)
          clear hK
          try simp only [Act.put, List.setIfInBounds_toArray, List.set_cons_zero, List.set_cons_succ]
          refine consR (fuel := 5) (i := 27) rfl (by kernel_rfl) (fun K hK => ?_)
          rw [if_pos (by rfl)]
          go_simp
          refine (H24.out _ _ _ _ _ hi1 hi2).mono ?_
          rintro e v5 ⟨rfl, hk0⟩
          have hk := hk0.out
          have hS5 : Below z5.heap.size z5 v5 := hS4.trans (hk.mono hS4.size)
          refine hK.out _ _ hS5 (fun _ => ?_)
          clear hK
          try simp only [Act.put, List.setIfInBounds_toArray, List.set_cons_zero, List.set_cons_succ]
          refine takeR (fuel := 4) (i := 28) (v := .bool true) rfl (by kernel_rfl) (by kernel_rfl) (by kernel_rfl) (fun _ _ _ h => h) (Or.inl ⟨rfl, fun W hW => by go_simp⟩) hS5 ?_
          simp only [Act.put, List.setIfInBounds_toArray, List.set_cons_zero, List.set_cons_succ]
          refine takeR (fuel := 3) (i := 29) (v := .bool true) rfl (by kernel_rfl) (by kernel_rfl) (by kernel_rfl) (fun _ _ _ h => h) (Or.inl ⟨rfl, fun W hW => by go_simp⟩) hS5 ?_
          simp only [Act.put, List.setIfInBounds_toArray, List.set_cons_zero, List.set_cons_succ]
          refine consR (fuel := 2) (i := 30) rfl (by kernel_rfl) (fun K hK => ?_)
          rw [if_pos (by rfl)]
          go_simp
          refine (K9.out _).mono ?_
          rintro e v6 ⟨rfl, hk⟩
          have hS6 : Below z5.heap.size z5 v6 := hS5.trans (hk.mono hS5.size)
          refine hK.out _ _ hS6 (fun _ => ?_)
          clear hK
          try simp only [Act.put, List.setIfInBounds_toArray, List.set_cons_zero, List.set_cons_succ]
          refine takeR (fuel := 1) (i := 31) (v := .bool true) rfl (by kernel_rfl) (by kernel_rfl) (by kernel_rfl) (fun _ _ _ h => h) (Or.inl ⟨rfl, fun W hW => by go_simp⟩) hS6 ?_
          simp only [Act.put, List.setIfInBounds_toArray, List.set_cons_zero, List.set_cons_succ]
          refine takeR (fuel := 0) (i := 32) (v := .bool true) rfl (by kernel_rfl) (by kernel_rfl) (by kernel_rfl) (fun _ _ _ h => h) (Or.inl ⟨rfl, fun W hW => by go_simp⟩) hS6 ?_
          simp only [Act.put, List.setIfInBounds_toArray, List.set_cons_zero, List.set_cons_succ]
          have HBy : Hid (Below w.heap.size w v6) := HBF.out.trans (hS6.mono HBF.out.size)
          refine wpAnyH_done (by kernel_rfl) ?_ _
          go_wp2_with fail
          go_ret
          exact ⟨rfl, HBy.out⟩
        · have hvb : (ver == 0) = false := by simp [hv0]
          rw [hgf]
          have HALL : Hid (Pl wb.heap.size wb z4 (wb.heap.size + 1) wb.heap.size (.slice va ys.length vc) (ys.map (fun y : Bm => y.b)) ys k ∧ Bx z4 b1 (bcs y1).toArray 25 ∧ Bx z4 b2 (bcs c1).toArray 25 ∧ Bx z4 b3 (bcs y2).toArray 25 ∧ Bx z4 b4 (bcs zc).toArray 25 ∧ Ha z4.heap.size z4 y1 ∧ Ha z4.heap.size z4 c1 ∧ Ha z4.heap.size z4 y2 ∧ Ha z4.heap.size z4 zc) := ⟨HP4.out, HX1d.out, HX2d.out, HX3d.out, by rw [hzc]; exact HX4.out, HY1d.out.2, HH1.out _ HP4.out.ha, HY2d.out.2, by rw [hzc]; exact HH2.out _ HP4.out.ha⟩
          clear hv0 hzc hgf HX1d HX2d HX3d HX4 HPZ HXZ HXY HHZ HP3k HY1d HY2d HLT4 HBX4 HG2 HP4 HSTZ
          go_upto_region 17 with fail
          generalize z4 = z5 at *
          have hsel : Below z5.heap.size z5 z5 := Below.refl _ _
          have HC23a : Hid (∀ W, Below z5.heap.size z5 W → Calls Try.prog 23 #[.agg (bcs y1).toArray, .agg (bcs c1).toArray] W (KP (.bool true) W)) := fun W hW => ysame y1 c1 (HY1c.out.1.trans HB1.out.symm) W (HALL.out.2.2.2.2.2.1.on hW (Nat.le_refl _)) (HALL.out.2.2.2.2.2.2.1.on hW (Nat.le_refl _)) (by rw [HY1c.out.1]; exact HL1.out.1) (by rw [HY1c.out.1]; exact HL1.out.2)
          have HC23b : Hid (∀ W, Below z5.heap.size z5 W → Calls Try.prog 23 #[.agg (bcs y2).toArray, .agg (bcs zc).toArray] W (KP (.bool true) W)) := fun W hW => ysame y2 zc (HY2.out.1.trans HZ2.out.symm) W (HALL.out.2.2.2.2.2.2.2.1.on hW (Nat.le_refl _)) (HALL.out.2.2.2.2.2.2.2.2.on hW (Nat.le_refl _)) (by rw [HY2.out.1]; exact HL2.out.1) (by rw [HY2.out.1]; exact HL2.out.2)
          have HC25 : Hid (∀ W, Below z5.heap.size z5 W → Calls Try.prog 25 #[.pointer (some ⟨wb.heap.size + 1, 0, none⟩), .agg #[.string ai, .int .i64 a1, .int .i64 a2, .int .i64 m, .string ac], .int .i64 day] W (IdP T W)) := fun W hW => H25.out W (HALL.out.1.below hW)
          have HC26 : Hid (∀ W, Below z5.heap.size z5 W → Calls Try.prog 26 #[.slice va ys.length vc, .agg #[.string ai, .int .i64 a1, .int .i64 a2, .int .i64 m, .string ac], .int .i64 day] W (JdP T W)) := fun W hW => H26.out W (HALL.out.1.below hW)
          have HA1 : Hid (∀ W, Below z5.heap.size z5 W → (Instr.loadAt 25 (.pointer (some ⟨b1, 0, none⟩))).run Try.prog W = .ok (.agg (bcs y1).toArray) W) := fun W hW => box_loadAt (HALL.out.2.1.keep hW)
          have HA2 : Hid (∀ W, Below z5.heap.size z5 W → (Instr.loadAt 25 (.pointer (some ⟨b2, 0, none⟩))).run Try.prog W = .ok (.agg (bcs c1).toArray) W) := fun W hW => box_loadAt (HALL.out.2.2.1.keep hW)
          have HA3 : Hid (∀ W, Below z5.heap.size z5 W → (Instr.loadAt 25 (.pointer (some ⟨b3, 0, none⟩))).run Try.prog W = .ok (.agg (bcs y2).toArray) W) := fun W hW => box_loadAt (HALL.out.2.2.2.1.keep hW)
          have HA4 : Hid (∀ W, Below z5.heap.size z5 W → (Instr.loadAt 25 (.pointer (some ⟨b4, 0, none⟩))).run Try.prog W = .ok (.agg (bcs zc).toArray) W) := fun W hW => box_loadAt (HALL.out.2.2.2.2.1.keep hW)
          have HA5 : Hid (∀ W, Below z5.heap.size z5 W → (Instr.loadAt 27 (.pointer (some ⟨w.heap.size, 0, none⟩))).run Try.prog W = .ok (.agg #[.string ai, .int .i64 a1, .int .i64 a2, .int .i64 m, .string ac]) W) := fun W hW => load27 ((HXA.out.below HALL.out.1.bel HLT.out).keep hW)
          have HBF : Hid (Below w.heap.size w z5) := HBB.out.trans (HALL.out.1.bel.mono HBB.out.size)
          have hg1 : (q1.isSome == q1.isSome) = true := by simp
          have hg3 : (gv == gv) = true := by simp
          generalize (bcs y1).toArray = M1 at *
          generalize (bcs c1).toArray = M2 at *
          generalize (bcs y2).toArray = M3 at *
          generalize (bcs zc).toArray = M4 at *
          generalize q1.isSome = g1 at *
          clear HALL HY1c HY2 HB1 HZ2 HL1 HL2 H25 H26 HXA HG HM HH1 HH2 HBB HPX
          refine wp_region_held (S := fun W => Below z5.heap.size z5 W) (by kernel_rfl) ?_
          change wpAnyH _ _ _ _ _ 33 #[false, false, false, false, false, false, false, false, false, false, false, false, false, false, false, false, false, false, false, false, false, false, false, false, false, false, false, false, false, false, false, false, false] _ z5.drew
          obtain ⟨v0, hv0⟩ : ∃ v, v = z5.drew := ⟨_, rfl⟩
          have hS0 : Below z5.heap.size z5 v0 := by rw [hv0]; exact ⟨rfl, rfl, rfl, Nat.le_refl _, fun _ _ => rfl⟩
          rw [← hv0]
          clear hv0
          refine takeR (fuel := 32) (i := 0) (v := .agg M1) rfl (by kernel_rfl) (by kernel_rfl) (by kernel_rfl) (fun _ _ _ h => h) (Or.inl ⟨rfl, fun W hW => exl _ _ _ _ rfl (.pointer (some ⟨b1, 0, none⟩)) _ rfl (HA1.out W hW)⟩) hS0 ?_
          simp only [Act.put, List.setIfInBounds_toArray, List.set_cons_zero, List.set_cons_succ]
          refine takeR (fuel := 31) (i := 1) (v := .agg M2) rfl (by kernel_rfl) (by kernel_rfl) (by kernel_rfl) (fun _ _ _ h => h) (Or.inl ⟨rfl, fun W hW => exl _ _ _ _ rfl (.pointer (some ⟨b2, 0, none⟩)) _ rfl (HA2.out W hW)⟩) hS0 ?_
          simp only [Act.put, List.setIfInBounds_toArray, List.set_cons_zero, List.set_cons_succ]
          refine consR (fuel := 30) (i := 2) rfl (by kernel_rfl) (fun K hK => ?_)
          rw [if_pos (by rfl)]
          go_simp
          refine (HC23a.out _ hS0).mono ?_
          rintro e v1 ⟨rfl, hk0⟩
          have hk := hk0.out
          have hS1 : Below z5.heap.size z5 v1 := hS0.trans (hk.mono hS0.size)
          refine hK.out _ _ hS1 (fun _ => ?_)
          clear hK
          try simp only [Act.put, List.setIfInBounds_toArray, List.set_cons_zero, List.set_cons_succ]
          refine takeR (fuel := 29) (i := 3) (v := .bool true) rfl (by kernel_rfl) (by kernel_rfl) (by kernel_rfl) (fun _ _ _ h => h) (Or.inl ⟨rfl, fun W hW => by go_simp⟩) hS1 ?_
          simp only [Act.put, List.setIfInBounds_toArray, List.set_cons_zero, List.set_cons_succ]
          refine takeR (fuel := 28) (i := 4) (v := .bool g1) rfl (by kernel_rfl) (by kernel_rfl) (by kernel_rfl) (fun _ _ _ h => h) (Or.inl ⟨rfl, fun W hW => by go_simp⟩) hS1 ?_
          simp only [Act.put, List.setIfInBounds_toArray, List.set_cons_zero, List.set_cons_succ]
          refine takeR (fuel := 27) (i := 5) (v := .bool g1) rfl (by kernel_rfl) (by kernel_rfl) (by kernel_rfl) (fun _ _ _ h => h) (Or.inl ⟨rfl, fun W hW => by go_simp⟩) hS1 ?_
          simp only [Act.put, List.setIfInBounds_toArray, List.set_cons_zero, List.set_cons_succ]
          refine takeR (fuel := 26) (i := 6) (v := .bool true) rfl (by kernel_rfl) (by kernel_rfl) (by kernel_rfl) (fun _ _ _ h => h) (Or.inl ⟨rfl, fun W hW => by go_simp⟩) hS1 ?_
          simp only [Act.put, List.setIfInBounds_toArray, List.set_cons_zero, List.set_cons_succ]
          refine takeR (fuel := 25) (i := 7) (v := .bool true) rfl (by kernel_rfl) (by kernel_rfl) (by kernel_rfl) (fun _ _ _ h => h) (Or.inl ⟨rfl, fun W hW => by go_simp⟩) hS1 ?_
          simp only [Act.put, List.setIfInBounds_toArray, List.set_cons_zero, List.set_cons_succ]
          refine takeR (fuel := 24) (i := 8) (v := .bool true) rfl (by kernel_rfl) (by kernel_rfl) (by kernel_rfl) (fun _ _ _ h => h) (Or.inl ⟨rfl, fun W hW => by go_simp⟩) hS1 ?_
          simp only [Act.put, List.setIfInBounds_toArray, List.set_cons_zero, List.set_cons_succ]
          refine takeR (fuel := 23) (i := 9) (v := .agg M3) rfl (by kernel_rfl) (by kernel_rfl) (by kernel_rfl) (fun _ _ _ h => h) (Or.inl ⟨rfl, fun W hW => exl _ _ _ _ rfl (.pointer (some ⟨b3, 0, none⟩)) _ rfl (HA3.out W hW)⟩) hS1 ?_
          simp only [Act.put, List.setIfInBounds_toArray, List.set_cons_zero, List.set_cons_succ]
          refine takeR (fuel := 22) (i := 10) (v := .agg M4) rfl (by kernel_rfl) (by kernel_rfl) (by kernel_rfl) (fun _ _ _ h => h) (Or.inl ⟨rfl, fun W hW => exl _ _ _ _ rfl (.pointer (some ⟨b4, 0, none⟩)) _ rfl (HA4.out W hW)⟩) hS1 ?_
          simp only [Act.put, List.setIfInBounds_toArray, List.set_cons_zero, List.set_cons_succ]
          refine consR (fuel := 21) (i := 11) rfl (by kernel_rfl) (fun K hK => ?_)
          rw [if_pos (by rfl)]
          go_simp
          refine (HC23b.out _ hS1).mono ?_
          rintro e v2 ⟨rfl, hk0⟩
          have hk := hk0.out
          have hS2 : Below z5.heap.size z5 v2 := hS1.trans (hk.mono hS1.size)
          refine hK.out _ _ hS2 (fun _ => ?_)
          clear hK
          try simp only [Act.put, List.setIfInBounds_toArray, List.set_cons_zero, List.set_cons_succ]
          refine takeR (fuel := 20) (i := 12) (v := .bool true) rfl (by kernel_rfl) (by kernel_rfl) (by kernel_rfl) (fun _ _ _ h => h) (Or.inl ⟨rfl, fun W hW => by go_simp⟩) hS2 ?_
          simp only [Act.put, List.setIfInBounds_toArray, List.set_cons_zero, List.set_cons_succ]
          refine takeR (fuel := 19) (i := 13) (v := .bool true) rfl (by kernel_rfl) (by kernel_rfl) (by kernel_rfl) (fun _ _ _ h => h) (Or.inl ⟨rfl, fun W hW => by go_simp⟩) hS2 ?_
          simp only [Act.put, List.setIfInBounds_toArray, List.set_cons_zero, List.set_cons_succ]
          refine takeR (fuel := 18) (i := 14) (v := .bool gv) rfl (by kernel_rfl) (by kernel_rfl) (by kernel_rfl) (fun _ _ _ h => h) (Or.inl ⟨rfl, fun W hW => by go_simp⟩) hS2 ?_
          simp only [Act.put, List.setIfInBounds_toArray, List.set_cons_zero, List.set_cons_succ]
          refine takeR (fuel := 17) (i := 15) (v := .bool gv) rfl (by kernel_rfl) (by kernel_rfl) (by kernel_rfl) (fun _ _ _ h => h) (Or.inl ⟨rfl, fun W hW => by go_simp⟩) hS2 ?_
          simp only [Act.put, List.setIfInBounds_toArray, List.set_cons_zero, List.set_cons_succ]
          refine takeR (fuel := 16) (i := 16) (v := .bool true) rfl (by kernel_rfl) (by kernel_rfl) (by kernel_rfl) (fun _ _ _ h => h) (Or.inl ⟨rfl, fun W hW => by go_simp⟩) hS2 ?_
          simp only [Act.put, List.setIfInBounds_toArray, List.set_cons_zero, List.set_cons_succ]
          refine takeR (fuel := 15) (i := 17) (v := .bool true) rfl (by kernel_rfl) (by kernel_rfl) (by kernel_rfl) (fun _ _ _ h => h) (Or.inl ⟨rfl, fun W hW => by go_simp⟩) hS2 ?_
          simp only [Act.put, List.setIfInBounds_toArray, List.set_cons_zero, List.set_cons_succ]
          refine takeR (fuel := 14) (i := 18) (v := .bool true) rfl (by kernel_rfl) (by kernel_rfl) (by kernel_rfl) (fun _ _ _ h => h) (Or.inl ⟨rfl, fun W hW => by go_simp⟩) hS2 ?_
          simp only [Act.put, List.setIfInBounds_toArray, List.set_cons_zero, List.set_cons_succ]
          refine takeR (fuel := 13) (i := 19) (v := .pointer (some ⟨wb.heap.size + 1, 0, none⟩)) rfl (by kernel_rfl) (by kernel_rfl) (by kernel_rfl) (fun _ _ _ h => h) (Or.inl ⟨rfl, fun W hW => by go_simp⟩) hS2 ?_
          simp only [Act.put, List.setIfInBounds_toArray, List.set_cons_zero, List.set_cons_succ]
          refine takeR (fuel := 12) (i := 20) (v := .agg #[.string ai, .int .i64 a1, .int .i64 a2, .int .i64 m, .string ac]) rfl (by kernel_rfl) (by kernel_rfl) (by kernel_rfl) (fun _ _ _ h => h) (Or.inl ⟨rfl, fun W hW => exl _ _ _ _ rfl (.pointer (some ⟨w.heap.size, 0, none⟩)) _ rfl (HA5.out W hW)⟩) hS2 ?_
          simp only [Act.put, List.setIfInBounds_toArray, List.set_cons_zero, List.set_cons_succ]
          refine takeR (fuel := 11) (i := 21) (v := .int .i64 day) rfl (by kernel_rfl) (by kernel_rfl) (by kernel_rfl) (fun _ _ _ h => h) (Or.inl ⟨rfl, fun W hW => by go_simp⟩) hS2 ?_
          simp only [Act.put, List.setIfInBounds_toArray, List.set_cons_zero, List.set_cons_succ]
          refine takeR (fuel := 10) (i := 23) (v := .slice va ys.length vc) rfl (by kernel_rfl) (by kernel_rfl) (by kernel_rfl) (fun _ _ _ h => h) (Or.inl ⟨rfl, fun W hW => by go_simp⟩) hS2 ?_
          simp only [Act.put, List.setIfInBounds_toArray, List.set_cons_zero, List.set_cons_succ]
          refine takeR (fuel := 9) (i := 24) (v := .agg #[.string ai, .int .i64 a1, .int .i64 a2, .int .i64 m, .string ac]) rfl (by kernel_rfl) (by kernel_rfl) (by kernel_rfl) (fun _ _ _ h => h) (Or.inl ⟨rfl, fun W hW => exl _ _ _ _ rfl (.pointer (some ⟨w.heap.size, 0, none⟩)) _ rfl (HA5.out W hW)⟩) hS2 ?_
          simp only [Act.put, List.setIfInBounds_toArray, List.set_cons_zero, List.set_cons_succ]
          refine takeR (fuel := 8) (i := 25) (v := .int .i64 day) rfl (by kernel_rfl) (by kernel_rfl) (by kernel_rfl) (fun _ _ _ h => h) (Or.inl ⟨rfl, fun W hW => by go_simp⟩) hS2 ?_
          simp only [Act.put, List.setIfInBounds_toArray, List.set_cons_zero, List.set_cons_succ]
          refine consR (fuel := 7) (i := 22) rfl (by kernel_rfl) (fun K hK => ?_)
          rw [if_pos (by rfl)]
          go_simp
          refine (HC25.out _ hS2).mono ?_
          rintro e v3 ⟨p1, r1, rfl, hid1⟩
          have hk := hid1.out.2
          have hS3 : Below z5.heap.size z5 v3 := hS2.trans (hk.mono hS2.size)
          obtain ⟨p1', r1', e0, _, hi1⟩ := own_rw ics_len hid1.out.1 rfl
          injection e0 with e1 e2 e3
          subst e1
          refine hK.out _ _ hS3 (fun _ => ?_)
          clear hK
          try simp only [Act.put, List.setIfInBounds_toArray, List.set_cons_zero, List.set_cons_succ]
          refine consR (fuel := 6) (i := 26) rfl (by kernel_rfl) (fun K hK => ?_)
          rw [if_pos (by rfl)]
          go_simp
          refine (HC26.out _ hS3).mono ?_
          rintro e v4 ⟨p2, r2, rfl, hid2⟩
          have hk := hid2.out.2
          have hS4 : Below z5.heap.size z5 v4 := hS3.trans (hk.mono hS3.size)
          obtain ⟨p2', r2', e0, _, hi2⟩ := own_rw ics_len hid2.out.1 rfl
          injection e0 with e1 e2 e3
          subst e1
          have hi1 := hi1.below hk
          refine hK.out _ _ hS4 (fun _ => ?_)
          clear hK
          try simp only [Act.put, List.setIfInBounds_toArray, List.set_cons_zero, List.set_cons_succ]
          refine consR (fuel := 5) (i := 27) rfl (by kernel_rfl) (fun K hK => ?_)
          rw [if_pos (by rfl)]
          go_simp
          refine (H24.out _ _ _ _ _ hi1 hi2).mono ?_
          rintro e v5 ⟨rfl, hk0⟩
          have hk := hk0.out
          have hS5 : Below z5.heap.size z5 v5 := hS4.trans (hk.mono hS4.size)
          refine hK.out _ _ hS5 (fun _ => ?_)
          clear hK
          try simp only [Act.put, List.setIfInBounds_toArray, List.set_cons_zero, List.set_cons_succ]
          refine takeR (fuel := 4) (i := 28) (v := .bool true) rfl (by kernel_rfl) (by kernel_rfl) (by kernel_rfl) (fun _ _ _ h => h) (Or.inl ⟨rfl, fun W hW => by go_simp⟩) hS5 ?_
          simp only [Act.put, List.setIfInBounds_toArray, List.set_cons_zero, List.set_cons_succ]
          refine takeR (fuel := 3) (i := 29) (v := .bool true) rfl (by kernel_rfl) (by kernel_rfl) (by kernel_rfl) (fun _ _ _ h => h) (Or.inl ⟨rfl, fun W hW => by go_simp⟩) hS5 ?_
          simp only [Act.put, List.setIfInBounds_toArray, List.set_cons_zero, List.set_cons_succ]
          refine consR (fuel := 2) (i := 30) rfl (by kernel_rfl) (fun K hK => ?_)
          rw [if_pos (by rfl)]
          go_simp
          refine (K9.out _).mono ?_
          rintro e v6 ⟨rfl, hk⟩
          have hS6 : Below z5.heap.size z5 v6 := hS5.trans (hk.mono hS5.size)
          refine hK.out _ _ hS6 (fun _ => ?_)
          clear hK
          try simp only [Act.put, List.setIfInBounds_toArray, List.set_cons_zero, List.set_cons_succ]
          refine takeR (fuel := 1) (i := 31) (v := .bool true) rfl (by kernel_rfl) (by kernel_rfl) (by kernel_rfl) (fun _ _ _ h => h) (Or.inl ⟨rfl, fun W hW => by go_simp⟩) hS6 ?_
          simp only [Act.put, List.setIfInBounds_toArray, List.set_cons_zero, List.set_cons_succ]
          refine takeR (fuel := 0) (i := 32) (v := .bool true) rfl (by kernel_rfl) (by kernel_rfl) (by kernel_rfl) (fun _ _ _ h => h) (Or.inl ⟨rfl, fun W hW => by go_simp⟩) hS6 ?_
          simp only [Act.put, List.setIfInBounds_toArray, List.set_cons_zero, List.set_cons_succ]
          have HBy : Hid (Below w.heap.size w v6) := HBF.out.trans (hS6.mono HBF.out.size)
          refine wpAnyH_done (by kernel_rfl) ?_ _
          go_wp2_with fail
          go_ret
          exact ⟨rfl, HBy.out⟩
end Go.Proofs.Ytmjaijpikbdfkaa
