/- layer 14: law Stays -/
import Derived.Test.YtmjaijpikbdfkaaJM
import Derived.Test.YtmjaijpikbdfkaaJL
import Derived.Test.YtmjaijpikbdfkaaJK
import Derived.Test.YtmjaijpikbdfkaaJH
import Derived.WalkKit
import Derived.ProofKit
import Derived.Handy
import Derived.WalkLawsBesides
import Derived.WalkSpells
import Derived.BigQuiet
import Derived.BigCall
import Derived.Deep.QuietTactic
import Derived.Deep.Light
import Derived.Deep.OwnRows
import Derived.Laws.AppendOwnNone
import Derived.Laws.Strings3
import Derived.Laws.RangeAny
import Derived.Deep.RegionWith
import Derived.Lib.BitFns
import Derived.Lib.Walk
import Derived.Lib.Strings
import Derived.Lib.OthersKept
import Derived.Deep.CutBlock
import Derived.Deep.DeepCutAuto
import Derived.Deep.LoopGhost
import Derived.Deep.RegionHeld3
import Derived.Lib.SmallJoins
import Derived.Maps.AppendAt
import Derived.Laws.IdiomStrings
import Derived.Lib.AppendZeros
import Derived.Deep.WholeRow
import Derived.Laws.BitsAllLaws
import Derived.Lib.ConvBytes
import Derived.Deep.RegionLaw
import Derived.Maps.OwnSet
import Derived.Maps.OwnOps
import Derived.Maps.RangeWalk
import Derived.Maps.Ext
import Derived.DeepKeys4
import Derived.Laws.StructEq
import Derived.Deep.MidRow
import Derived.Lib.Bytealg
import Derived.Lib.Overlaps
import Derived.Lib.AppendZerosOnto
import Derived.Laws.MakeOwn
import Derived.Deep.Upon
import Derived.Sort.OwnSortedInts
namespace Go.Proofs.Ytmjaijpikbdfkaa
open Go.RowKit
set_option linter.unusedVariables false
set_option linter.unusedSimpArgs false
set_option maxRecDepth 20000
theorem Rq.of_ow {G : Nat → Prop} {w : World} {e k n cap : Nat} {a : Option Addr} {cs : List Value} (h : Ow G w e k (.slice a n cap) n cs) : Rq G w a e (n * k) := by
  intro h0
  rcases h.1.2 with ⟨_, h2⟩ | ⟨g, cap', cur, hv, hB, hg, hnc, _, hcs, _⟩
  · rw [h2, Nat.zero_mul] at h0
    exact absurd h0 (Nat.lt_irrefl 0)
  · injection hv with e1 _ _
    subst e1
    exact ⟨g, cur, rfl, h.2 g rfl, hg, by rw [hcs]; exact Nat.mul_le_mul_right k hnc⟩
set_option maxHeartbeats 64000000 in
theorem lstays (l l2 : List Bm) (ad ad2 : Option Addr) (cap cap2 : Nat) (w : World) (hr : Rw 10 bcs w ad l) (hq : ∀ y ∈ l, Wq w y) (hr2 : Rw 10 bcs w ad2 l2) (hq2 : ∀ y ∈ l2, Wq w y) : Calls Try.prog 7 #[.slice ad l.length cap, .slice ad2 l2.length cap2] w (OkP w) := by
  have HRW : Hid (Rw 10 bcs w ad l) := hr
  have HQ : Hid (∀ y ∈ l, Wq w y) := hq
  have HRW2 : Hid (Rw 10 bcs w ad2 l2) := hr2
  have HQ2 : Hid (∀ y ∈ l2, Wq w y) := hq2
  have HNW : Hid (Calls Try.prog 15 #[] w (NwP w)) := xnew w
  have K9 : Hid (∀ W, Calls Try.prog 9 #[] W (OkP W)) := fun W => xawake W
  clear hr hq hr2 hq2
  go_enter Try.func7, Try.ntmps7
  go_wp2_with (go_at_call 15; refine HNW.out.mono ?_; clear HNW; rintro e w1 ⟨rfl, HN⟩)
  have HP1 : Hid (Pl w.heap.size w w1 (w.heap.size + 1) w.heap.size (.slice none 0 0) [] [] 0) := Pl.start HN.out.1 HN.out.2
  clear HN
  go_loopw [6, 7] (fun v i wr => ∃ (k : Nat) (ys : List Bm), k ≤ l.length ∧ k ≤ 40 ∧ i = .int .i64 k ∧ Hid (Pl w.heap.size w wr (w.heap.size + 1) w.heap.size (v) (ys.map (fun y : Bm => y.b)) ys k ∧ Gd (ys.map (fun y : Bm => y.b)) k))
    (fun _ i _ => l.length - (intOf i).toNat)
  case atStart => exact ⟨0, [], Nat.zero_le _, Nat.zero_le _, rfl, HP1.out, Gd.nil⟩
  case round =>
    obtain ⟨k, ys, hk, hk8, rfl, HZ⟩ := hrel
    by_cases hkn : k < l.length ∧ k < 40
    · have hkl : k < l.length := hkn.1
      have hkz : (k : Int) < (l.length : Int) := by omega
      have hk80 : (k : Int) < 40 := by omega
      obtain ⟨blk, off, rfl, hbl, hcs⟩ := HRW.out (by omega)
      have hc := hcs k hkl
      have HXQ : Hid (Wq w l[k]) := HQ.out _ (List.getElem_mem hkl)
      have HLD : Hid (∀ W, Below w.heap.size w W → (Instr.loadAt 25 (.pointer (some ⟨blk, off + k * 10, none⟩))).run Try.prog W = .ok (.agg (bcs l[k]).toArray) W) := fun W hW => row_load (fun j hj => (hW.cell (p := ⟨blk, off + k * 10 + j, none⟩) hbl).trans (hc j hj))
      generalize l[k] = x at *
      have H16 : Hid (∀ W, Calls Try.prog 16 #[.agg (bcs x).toArray] W (KP (.bool (smB x.b)) W)) := fun W => rsmall x W
      obtain ⟨va, vc, hv, _⟩ := HZ.out.1.row
      subst hv
      clear hcs hc HQ HRW hkn HRW2 HQ2
      cases hsm : smB x.b with
      | false =>
        rw [hsm] at H16
        have HL0 := HLD.out wr HZ.out.1.bel
        have HL1 : Hid ((Instr.loadAt 25 (.pointer (some ⟨blk, off + k * 10, none⟩))).run Try.prog wr = .ok (.agg (bcs x).toArray) wr) := HL0
        clear HLD HL0 hsm HXQ
        generalize (bcs x).toArray = Mx at *
        go_wp2_with (first | (guard_target =~ wpList _ _ _ (⟨_, Op.load 25 _, _, _, _, _⟩ :: _) _ _; refine wl_load _ rfl 25 _ rfl _ rfl _ HL1.out ?_; go_simp) | (go_at_call 16; refine (H16.out _).mono ?_; clear H16; rintro e w2 ⟨rfl, HB⟩; have HP2 : Hid (Pl w.heap.size w w2 (w.heap.size + 1) w.heap.size (.slice va ys.length vc) (ys.map (fun y : Bm => y.b)) ys k) := HZ.out.1.below HB.out; clear HB))
        go_roundw
        case rel => exact ⟨k + 1, ys, by omega, by omega, by simp, HP2.out.mono (Nat.le_succ k), HZ.out.2.mono (Nat.le_succ k)⟩
        case measure => simp [intOf]; omega
      | true =>
        rw [hsm] at H16
        have hsb : x.b.cuts.length ≤ 100 ∧ x.b.bar.length ≤ 100 := by unfold smB at hsm; simpa using hsm
        have HSB : Hid (x.b.cuts.length ≤ 100 ∧ x.b.bar.length ≤ 100) := hsb
        clear hsm hsb
        have HL0 := HLD.out wr HZ.out.1.bel
        have HL1 : Hid ((Instr.loadAt 25 (.pointer (some ⟨blk, off + k * 10, none⟩))).run Try.prog wr = .ok (.agg (bcs x).toArray) wr) := HL0
        clear HL0
        go_upto_region 7 with (first | (guard_target =~ wpList _ _ _ (⟨_, Op.load 25 _, _, _, _, _⟩ :: _) _ _; refine wl_load _ rfl 25 _ rfl _ rfl _ HL1.out ?_; go_simp) | (go_at_call 16; refine (H16.out _).mono ?_; clear H16; rintro e w2 ⟨rfl, HB⟩; have HP2 : Hid (Pl w.heap.size w w2 (w.heap.size + 1) w.heap.size (.slice va ys.length vc) (ys.map (fun y : Bm => y.b)) ys k) := HZ.out.1.below HB.out; clear HB))
        have HG : Hid (Gd (ys.map (fun y : Bm => y.b)) k) := HZ.out.2
        clear HL1 HZ
        have HXH : Hid (∀ W, Below w.heap.size w W → Ha w.heap.size W x) := fun W hW => HXQ.out.on hW
        have HBW2 : Hid (Below w.heap.size w w2) := HP2.out.bel
        have HL0 := HLD.out w2 HP2.out.bel
        have HL2 : Hid ((Instr.loadAt 25 (.pointer (some ⟨blk, off + k * 10, none⟩))).run Try.prog w2 = .ok (.agg (bcs x).toArray) w2) := HL0
        have HSQ : Hid ((Instr.storeAt 25 (.pointer (some ⟨w2.heap.size, 0, none⟩)) (.agg (bcs x).toArray)).run Try.prog (w2.alloc (.cells #[.int .i64 0, .int .i64 0, .string ⟨#[]⟩, .int .i64 0, .int .i64 0, .int .i64 0, .slice none 0 0, .int .i64 0, .int .i64 0, .slice none 0 0] 25)) = .ok () ((w2.alloc (.cells #[.int .i64 0, .int .i64 0, .string ⟨#[]⟩, .int .i64 0, .int .i64 0, .int .i64 0, .slice none 0 0, .int .i64 0, .int .i64 0, .slice none 0 0] 25)).setRow w2.heap.size (bcs x).toArray)) := box_store (Bx.new _ _ _) rfl x
        clear HL0
        go_upto_region 8 with (first | (guard_target =~ wpList _ _ _ (⟨_, Op.load 25 _, _, _, _, _⟩ :: _) _ _; refine wl_load _ rfl 25 _ rfl _ rfl _ HL2.out ?_; go_simp) | (guard_target =~ wpList _ _ _ (⟨_, Op.store 25 _ _, _, _, _, _⟩ :: _) _ _; refine wl_store _ _ rfl 25 _ _ rfl _ _ rfl rfl HSQ.out ?_; go_simp))
        have hbu : Below w2.heap.size w2 ((w2.alloc (.cells #[.int .i64 0, .int .i64 0, .string ⟨#[]⟩, .int .i64 0, .int .i64 0, .int .i64 0, .slice none 0 0, .int .i64 0, .int .i64 0, .slice none 0 0] 25)).setRow w2.heap.size (bcs x).toArray) := below_setR (below_a _ _) (Nat.le_refl _)
        have HX1 : Hid (Bx ((w2.alloc (.cells #[.int .i64 0, .int .i64 0, .string ⟨#[]⟩, .int .i64 0, .int .i64 0, .int .i64 0, .slice none 0 0, .int .i64 0, .int .i64 0, .slice none 0 0] 25)).setRow w2.heap.size (bcs x).toArray) w2.heap.size (bcs x).toArray 25) := (Bx.new _ _ _).setR
        generalize ((w2.alloc (.cells #[.int .i64 0, .int .i64 0, .string ⟨#[]⟩, .int .i64 0, .int .i64 0, .int .i64 0, .slice none 0 0, .int .i64 0, .int .i64 0, .slice none 0 0] 25)).setRow w2.heap.size (bcs x).toArray) = u1 at *
        have HB1 : Hid (Below w2.heap.size w2 u1) := hbu
        have HQB : Hid (w2.heap.size ≤ w2.heap.size) := Nat.le_refl _
        obtain ⟨qb, hqb⟩ : ∃ q, q = w2.heap.size := ⟨_, rfl⟩
        have HQE : Hid (qb = w2.heap.size) := hqb
        rw [← hqb] at HX1 ⊢
        clear hbu HSQ HL2 hqb HQB
        have hu1 := HXH.out u1 (HBW2.out.trans (HB1.out.mono HBW2.out.size))
        have hsz1 : w.heap.size ≤ u1.heap.size := Nat.le_trans HBW2.out.size HB1.out.size
        obtain ⟨a6, k6, u2, hr2, ho2, hb2⟩ := cop_cuts x.cc (hu1.mono hsz1).1 (by have := HSB.out; omega)
        have c6 : (u1.alloc (.cells #[] 53)).cell? ⟨qb, 6, none⟩ = some (.slice x.ca x.b.cuts.length x.cc) := (HX1.out.keep (below_a u1 _)).cell 6
        have hx2 := HX1.out.keep hb2
        have d6 : u2.cell? ⟨qb, 6, none⟩ = some (.slice x.ca x.b.cuts.length x.cc) := hx2.cell 6
        have f6 : u2.frozen? ⟨qb, 6, none⟩ = false := hx2.froz 6
        have HX3 : Hid (Bx (u2.setCell ⟨qb, 6, none⟩ (.slice a6 x.b.cuts.length k6)) qb (bcs ⟨x.b, a6, k6, x.ba, x.bc⟩).toArray 25) := hx2.setc 6 (.slice a6 x.b.cuts.length k6)
        have HO3 : Hid ((u2.setCell ⟨qb, 6, none⟩ (.slice a6 x.b.cuts.length k6)).ownsRow u1.heap.size 53 3 (.slice a6 x.b.cuts.length k6) x.b.cuts.length (rcs ccs x.b.cuts)) := own_grown ho2 (grown_set u2 qb 6 _) (own_nb ho2 hx2 (by decide))
        have HB3 : Hid (Below w2.heap.size w2 (u2.setCell ⟨qb, 6, none⟩ (.slice a6 x.b.cuts.length k6))) := (bt HB1.out hb2).setCell (p := ⟨qb, 6, none⟩) (by have := HQE.out; show w2.heap.size ≤ qb; omega) _
        clear ho2 hb2 hu1 hsz1 hx2
        go_upto_region 9 with (at_builtin; refine Lib.wpList_append_run _ rfl _ _ 22 22 rfl _ _ rfl rfl _ u2 hr2 ?_)
        clear hr2 c6 d6 f6 HX1
        generalize (u2.setCell ⟨qb, 6, none⟩ (.slice a6 x.b.cuts.length k6)) = u3 at *
        have hu3 := HXH.out u3 (HBW2.out.trans (HB3.out.mono HBW2.out.size))
        have hsz3 : w.heap.size ≤ u3.heap.size := Nat.le_trans HBW2.out.size HB3.out.size
        obtain ⟨a9, k9, u4, hr4, ho4, hb4⟩ := cop_bars x.bc (hu3.mono hsz3).2 (by have := HSB.out; omega)
        have c9 : (u3.alloc (.cells #[] 3)).cell? ⟨qb, 9, none⟩ = some (.slice x.ba x.b.bar.length x.bc) := (HX3.out.keep (below_a u3 _)).cell 9
        have hx4 := HX3.out.keep hb4
        have d9 : u4.cell? ⟨qb, 9, none⟩ = some (.slice x.ba x.b.bar.length x.bc) := hx4.cell 9
        have f9 : u4.frozen? ⟨qb, 9, none⟩ = false := hx4.froz 9
        have HX5 : Hid (Bx (u4.setCell ⟨qb, 9, none⟩ (.slice a9 x.b.bar.length k9)) qb (bcs ⟨x.b, a6, k6, a9, k9⟩).toArray 25) := hx4.setc 9 (.slice a9 x.b.bar.length k9)
        have ho34 := own_below HO3.out hb4
        have HO5 : Hid ((u4.setCell ⟨qb, 9, none⟩ (.slice a9 x.b.bar.length k9)).ownsRow u1.heap.size 53 3 (.slice a6 x.b.cuts.length k6) x.b.cuts.length (rcs ccs x.b.cuts)) := own_grown ho34 (grown_set u4 qb 9 _) (own_nb ho34 hx4 (by decide))
        have HO6 : Hid ((u4.setCell ⟨qb, 9, none⟩ (.slice a9 x.b.bar.length k9)).ownsRow u3.heap.size 3 1 (.slice a9 x.b.bar.length k9) x.b.bar.length (rcs ics x.b.bar)) := own_grown ho4 (grown_set u4 qb 9 _) (own_nb ho4 hx4 (by decide))
        have HB5 : Hid (Below w2.heap.size w2 (u4.setCell ⟨qb, 9, none⟩ (.slice a9 x.b.bar.length k9))) := (bt HB3.out hb4).setCell (p := ⟨qb, 9, none⟩) (by have := HQE.out; show w2.heap.size ≤ qb; omega) _
        clear ho4 hb4 hu3 hsz3 hx4 ho34
        go_upto_region 10 with (at_builtin; refine Lib.wpList_append_run _ rfl _ _ 23 23 rfl _ _ rfl rfl _ u4 hr4 ?_)
        clear hr4 c9 d9 f9 HX3 HO3
        generalize (u4.setCell ⟨qb, 9, none⟩ (.slice a9 x.b.bar.length k9)) = u5 at *
        obtain ⟨G, hG⟩ : ∃ G : Nat → Prop, G = fun q => w2.heap.size ≤ q ∧ q < u5.heap.size := ⟨_, rfl⟩
        have HPA5 : Hid (PlA G w.heap.size w u5 (w.heap.size + 1) w.heap.size (.slice va ys.length vc) (ys.map (fun y : Bm => y.b)) ys k) := by unfold Hid; rw [hG]; exact PlA.of HP2.out HB5.out
        have HGB : Hid (G qb) := by unfold Hid; rw [hG]; exact ⟨by have := HQE.out; omega, HX5.out.lt⟩
        have HQC : Hid (Rq G u5 a6 53 (x.b.cuts.length * 3)) := Rq.of_own HO5.out (fun g h1 h2 => by rw [hG]; exact ⟨Nat.le_trans HB1.out.size h1, h2⟩)
        have HQR : Hid (Rq G u5 a9 3 (x.b.bar.length * 1)) := Rq.of_own HO6.out (fun g h1 h2 => by rw [hG]; exact ⟨Nat.le_trans HB3.out.size h1, h2⟩)
        have HHY : Hid (Ha u5.heap.size u5 ⟨x.b, a6, k6, a9, k9⟩) := by
          obtain ⟨b1, e1, h1, _, h2⟩ := own_rw ccs_len HO5.out rfl
          obtain ⟨b2, e2, h3, _, h4⟩ := own_rw ics_len HO6.out rfl
          injection h1 with h1 _ _
          injection h3 with h3 _ _
          subst h1 h3
          exact ⟨h2.cts, h4.ins⟩
        clear hG HP2 HB1 HB3 HB5 HO5 HO6 HBW2
        have HC18 : Hid (Calls Try.prog 18 #[.pointer (some ⟨w.heap.size + 1, 0, none⟩), .agg (bcs ⟨x.b, a6, k6, a9, k9⟩).toArray] u5 (fun e w' => e = .returned (.int .i64 (setE (ys.map (fun y : Bm => y.b)) x.b (bkE C0 x.b) : Nat)) ∧ Hid (PlA G w.heap.size w w' (w.heap.size + 1) w.heap.size (.slice va ys.length vc) (setL (ys.map (fun y : Bm => y.b)) x.b (bkE C0 x.b)) ys (k + 1) ∧ ∀ q, G q → w'.heap[q]? = u5.heap[q]?))) := HPA5.out.set HG.out (by omega) ⟨x.b, a6, k6, a9, k9⟩ HHY.out (by have := HSB.out; show x.b.cuts.length ≤ 1000000; omega) (by have := HSB.out; show x.b.bar.length ≤ 1000000; omega)
        have HLB : Hid ((Instr.loadAt 25 (.pointer (some ⟨qb, 0, none⟩))).run Try.prog u5 = .ok (.agg (bcs ⟨x.b, a6, k6, a9, k9⟩).toArray) u5) := box_loadAt HX5.out
        go_upto_region 11 with (first | (guard_target =~ wpList _ _ _ (⟨_, Op.load 25 _, _, _, _, _⟩ :: _) _ _; refine wl_load _ rfl 25 _ rfl _ rfl _ HLB.out ?_; go_simp) | (go_at_call 18; refine HC18.out.mono ?_; clear HC18; rintro e u6 ⟨rfl, HS6⟩))
        have HC17 : Hid (Calls Try.prog 17 #[.slice va ys.length vc, .agg (bcs x).toArray] u6 (fun e w' => ∃ v' zs, e = .returned (.tuple #[v', .int .i64 (setE (ys.map (·.b)) x.b (bkE C0 x.b) : Nat)]) ∧ Hid (PlA G w.heap.size w w' (w.heap.size + 1) w.heap.size (v') (setL (ys.map (fun y : Bm => y.b)) x.b (bkE C0 x.b)) zs (k + 1) ∧ zs.map (·.b) = setL (ys.map (·.b)) x.b (bkE C0 x.b) ∧ Below u6.heap.size u6 w'))) := HS6.out.1.rset HG.out.1 (by have := HG.out.2.2; rw [List.length_map] at this; omega) x (HXH.out u6 HS6.out.1.pl.bel) (by have := HSB.out; omega) (by have := HSB.out; omega)
        have HL0 := HLD.out u6 HS6.out.1.pl.bel
        have HL3 : Hid ((Instr.loadAt 25 (.pointer (some ⟨blk, off + k * 10, none⟩))).run Try.prog u6 = .ok (.agg (bcs x).toArray) u6) := HL0
        have HX6 : Hid (Bx u6 qb (bcs ⟨x.b, a6, k6, a9, k9⟩).toArray 25) := (HS6.out.2 qb HGB.out).trans HX5.out
        have HQC6 : Hid (Rq G u6 a6 53 (x.b.cuts.length * 3)) := HQC.out.gk HS6.out.2
        have HQR6 : Hid (Rq G u6 a9 3 (x.b.bar.length * 1)) := HQR.out.gk HS6.out.2
        have HG4 : Hid (Gd (setL (ys.map (fun y : Bm => y.b)) x.b (bkE C0 x.b)) (k + 1)) := HG.out.set x.b
        clear HL0 HLB HLD HPA5 HS6 HG HXQ HXH HHY HX5 HQC HQR HGB HQE
        go_upto_region 12 with (first | (guard_target =~ wpList _ _ _ (⟨_, Op.load 25 _, _, _, _, _⟩ :: _) _ _; refine wl_load _ rfl 25 _ rfl _ rfl _ HL3.out ?_; go_simp) | (go_at_call 17; refine HC17.out.mono ?_; clear HC17; rintro e u7 ⟨v7, zs, rfl, HT⟩))
        have HX7 : Hid (Bx u7 qb (bcs ⟨x.b, a6, k6, a9, k9⟩).toArray 25) := HX6.out.keep HT.out.2.2
        have HQC7 : Hid (Rq G u7 a6 53 (x.b.cuts.length * 3)) := HQC6.out.keep HT.out.2.2
        have HQR7 : Hid (Rq G u7 a9 3 (x.b.bar.length * 1)) := HQR6.out.keep HT.out.2.2
        have HZM : Hid (zs.map (fun y : Bm => y.b) = setL (ys.map (fun y : Bm => y.b)) x.b (bkE C0 x.b)) := HT.out.2.1
        have HPA7 : Hid (PlA G w.heap.size w u7 (w.heap.size + 1) w.heap.size (v7) (setL (ys.map (fun y : Bm => y.b)) x.b (bkE C0 x.b)) zs (k + 1)) := HT.out.1
        have HCL : Hid (x.b.cuts.length ≤ 100 ∧ x.b.bar.length ≤ 100) := HSB.out
        clear HL3 HX6 HQC6 HQR6 HT HSB
        have hcl1 : (x.b.cuts.length : Int) ≤ 100 := by have := HCL.out.1; omega
        have hbl1 : (x.b.bar.length : Int) ≤ 100 := by have := HCL.out.2; omega
        generalize setL (ys.map (fun y : Bm => y.b)) x.b (bkE C0 x.b) = r2 at *
        have HXT : Hid (∀ W, Bx W qb (bcs ⟨x.b, a6, k6, a9, k9⟩).toArray 25 → W.cell? ⟨qb, 6, none⟩ = some (.slice a6 x.b.cuts.length k6) ∧ W.cell? ⟨qb, 9, none⟩ = some (.slice a9 x.b.bar.length k9)) := fun W h => ⟨h.cell 6, h.cell 9⟩
        have HNE : Hid (∀ W g cur T, Bx W qb (bcs ⟨x.b, a6, k6, a9, k9⟩).toArray 25 → Bx W g cur T → T ≠ 25 → qb ≠ g) := fun W g cur T h1 h2 hT e => by
          subst e
          unfold Bx at h1 h2
          rw [h1] at h2
          injection h2 with h2
          injection h2 with _ h2
          exact hT h2.symm
        generalize (bcs ⟨x.b, a6, k6, a9, k9⟩).toArray = My at *
        generalize x.b.cuts.length = nc at *
        generalize x.b.bar.length = nb at *
        go_wp2_with fail
        go_loopw [9] (fun i wr => ∃ (k2 : Nat), k2 ≤ nc ∧ i = .int .i64 k2 ∧ Hid (PlA G w.heap.size w wr (w.heap.size + 1) w.heap.size (v7) r2 zs (k + 1) ∧ Bx wr qb My 25 ∧ Rq G wr a6 53 (nc * 3) ∧ Rq G wr a9 3 (nb * 1)))
          (fun i _ => nc - (intOf i).toNat)
        case atStart => exact ⟨0, Nat.zero_le _, rfl, HPA7.out, HX7.out, HQC7.out, HQR7.out⟩
        case round =>
          obtain ⟨k2, hk2, rfl, HY⟩ := hrel
          have c6 := (HXT.out _ HY.out.2.1).1
          by_cases hk2n : k2 < nc
          · have hk2z : (k2 : Int) < (nc : Int) := by omega
            obtain ⟨g, cur, ha6, hGg, hBg, hsz⟩ := HY.out.2.2.1 (by omega)
            subst ha6
            have hi : k2 * 3 + 2 < cur.size := by omega
            have s0 : wr.cell? ⟨g, k2 * 3 + 2, none⟩ = some cur[k2 * 3 + 2] := (hBg.cell (k2 * 3 + 2)).trans (Array.getElem?_eq_getElem hi)
            have f0 : wr.frozen? ⟨g, k2 * 3 + 2, none⟩ = false := hBg.froz (k2 * 3 + 2)
            have HF : Hid (PlA G w.heap.size w (wr.setCell ⟨g, k2 * 3 + 2, none⟩ (.int .i64 7)) (w.heap.size + 1) w.heap.size (v7) r2 zs (k + 1) ∧ Bx (wr.setCell ⟨g, k2 * 3 + 2, none⟩ (.int .i64 7)) qb My 25 ∧ Rq G (wr.setCell ⟨g, k2 * 3 + 2, none⟩ (.int .i64 7)) (some ⟨g, 0, none⟩) 53 (nc * 3) ∧ Rq G (wr.setCell ⟨g, k2 * 3 + 2, none⟩ (.int .i64 7)) a9 3 (nb * 1)) := ⟨HY.out.1.write (kf_set hGg), HY.out.2.1.oset (HNE.out _ _ _ _ HY.out.2.1 hBg (by decide)) _ _, HY.out.2.2.1.set _ _ _, HY.out.2.2.2.set _ _ _⟩
            generalize cur[k2 * 3 + 2] = cv at *
            clear hBg hsz hi HY HNE hGg
            go_wp2_with fail
            go_roundw
            case rel => exact ⟨k2 + 1, by omega, by simp, HF.out⟩
            case measure => simp [intOf]; omega
          · have hk2z : ¬ (k2 : Int) < (nc : Int) := by omega
            have HPA8 : Hid (PlA G w.heap.size w wr (w.heap.size + 1) w.heap.size (v7) r2 zs (k + 1)) := HY.out.1
            have HX8 : Hid (Bx wr qb My 25) := HY.out.2.1
            have HQR8 : Hid (Rq G wr a9 3 (nb * 1)) := HY.out.2.2.2
            clear HY HPA7 HX7 HQC7 HQR7
            go_wp2_with fail
            clear c6 hk2z hk2n
            go_loopw [10] (fun i wr => ∃ (k3 : Nat), k3 ≤ nb ∧ i = .int .i64 k3 ∧ Hid (PlA G w.heap.size w wr (w.heap.size + 1) w.heap.size (v7) r2 zs (k + 1) ∧ Bx wr qb My 25 ∧ Rq G wr a9 3 (nb * 1)))
              (fun i _ => nb - (intOf i).toNat)
            case atStart => exact ⟨0, Nat.zero_le _, rfl, HPA8.out, HX8.out, HQR8.out⟩
            case round =>
              obtain ⟨k3, hk3, rfl, HY⟩ := hrel
              have c9 := (HXT.out _ HY.out.2.1).2
              by_cases hk3n : k3 < nb
              · have hk3z : (k3 : Int) < (nb : Int) := by omega
                obtain ⟨g, cur, ha9, hGg, hBg, hsz⟩ := HY.out.2.2 (by omega)
                subst ha9
                have hi : k3 < cur.size := by omega
                have s0 : wr.cell? ⟨g, k3, none⟩ = some cur[k3] := (hBg.cell k3).trans (Array.getElem?_eq_getElem hi)
                have f0 : wr.frozen? ⟨g, k3, none⟩ = false := hBg.froz k3
                have HF : Hid (PlA G w.heap.size w (wr.setCell ⟨g, k3, none⟩ (.int .i64 9999)) (w.heap.size + 1) w.heap.size (v7) r2 zs (k + 1) ∧ Bx (wr.setCell ⟨g, k3, none⟩ (.int .i64 9999)) qb My 25 ∧ Rq G (wr.setCell ⟨g, k3, none⟩ (.int .i64 9999)) (some ⟨g, 0, none⟩) 3 (nb * 1)) := ⟨HY.out.1.write (kf_set hGg), HY.out.2.1.oset (HNE.out _ _ _ _ HY.out.2.1 hBg (by decide)) _ _, HY.out.2.2.set _ _ _⟩
                generalize cur[k3] = cv at *
                clear hBg hsz hi HY HNE hGg
                go_wp2_with fail
                go_roundw
                case rel => exact ⟨k3 + 1, by omega, by simp, HF.out⟩
                case measure => simp [intOf]; omega
              · have hk3z : ¬ (k3 : Int) < (nb : Int) := by omega
                have HPL9 : Hid (Pl w.heap.size w wr (w.heap.size + 1) w.heap.size (v7) r2 zs (k + 1)) := HY.out.1.pl
                clear HY HPA8 HX8 HQR8 HXT HNE
                go_wp2_with fail
                go_roundw
                case rel => exact ⟨k + 1, zs, by omega, by omega, by simp, by rw [HZM.out]; exact HPL9.out, by rw [HZM.out]; exact HG4.out⟩
                case measure => simp [intOf]; omega
    · have hend : ((k : Int) < (l.length : Int) ∧ ¬ (k : Int) < 40) ∨ ¬ (k : Int) < (l.length : Int) := by omega
      have HG : Hid (Gd (ys.map (fun y : Bm => y.b)) k) := HZ.out.2
      have HPa : Hid (Pl w.heap.size w wr (w.heap.size + 1) w.heap.size (u6) (ys.map (fun y : Bm => y.b)) ys k) := HZ.out.1
      obtain ⟨va, vc, hv, _⟩ := HPa.out.row
      subst hv
      have HALL : Hid (Calls Try.prog 27 #[.pointer (some ⟨w.heap.size + 1, 0, none⟩)] wr (AaP (ys.map (fun y : Bm => y.b)) wr)) := by
        obtain ⟨F, L, h1, h2⟩ := HPa.out.gr HG.out (by omega)
        exact xall h1 h2
      clear HZ HRW HQ
      rcases hend with ⟨hkz, hk80⟩ | hkz
      all_goals
        go_upto_region 21 with (go_at_call 27; refine HALL.out.mono ?_; clear HALL; rintro e wl ⟨v, zs, rfl, HA⟩)
        obtain ⟨za, zc, hv, _, hzr⟩ := HA.out.2.1.rw
        subst hv
        have HBL : Hid (Below wr.heap.size wr wl) := HA.out.2.2
        have HOW : Hid (wl.ownsRow wr.heap.size 25 10 (.slice za zs.length zc) zs.length (rcs bcs zs)) := HA.out.2.1.o
        have HQZ : Hid (∀ z ∈ zs, Rq (fun q => wr.heap.size ≤ q) wl z.ca 53 (z.b.cuts.length * 3) ∧ z.b.cuts.length ≤ 1000000) := fun z hz => ⟨Rq.of_ow (HA.out.2.1.h z hz).1, by
          have h1 : z.b ∈ (ys.map (fun y : Bm => y.b)) := by rw [← HA.out.1]; exact List.mem_map.2 ⟨z, hz, rfl⟩
          exact (sm_of (HG.out.2.1 z.b h1)).2.1⟩
        have hzl : zs.length ≤ 40 := by
          have h1 := congrArg List.length HA.out.1
          rw [List.length_map] at h1
          have h2 := HG.out.2.2
          omega
        have HRZ : Hid (∀ W, Sh wl W → Rw 10 bcs W za zs) := fun W hW => by
          obtain ⟨a, c, e, _, h⟩ := own_rw bcs_len (hW.own HOW.out (by decide)) rfl
          injection e with e _ _
          subst e
          exact h
        clear HA hzr HOW
        generalize wr = wo at *
        go_wp2_with fail
        go_loopw [12] (fun i wr => ∃ (k1 : Nat), k1 ≤ zs.length ∧ i = .int .i64 k1 ∧ Hid (Sh wl wr ∧ Below wo.heap.size wo wr))
          (fun i _ => zs.length - (intOf i).toNat)
        case atStart => exact ⟨0, Nat.zero_le _, rfl, Sh.refl _, HBL.out⟩
        case round =>
          obtain ⟨k1, hk1, rfl, HY⟩ := hrel
          by_cases hk1n : k1 < zs.length
          · have hk1z : (k1 : Int) < (zs.length : Int) := by omega
            obtain ⟨blk, off, rfl, _, _⟩ := HRZ.out wl (Sh.refl _) (by omega)
            have HC6 : Hid (∀ W, Sh wl W → W.cell? ⟨blk, off + k1 * 10 + 6, none⟩ = some (.slice zs[k1].ca zs[k1].b.cuts.length zs[k1].cc)) := fun W hW => by
              obtain ⟨b', o', e, _, hcs⟩ := HRZ.out W hW (by omega)
              injection e with e
              injection e with e1 e2
              subst e1 e2
              exact hcs k1 hk1n 6 (by omega)
            have HQ1 : Hid (Rq (fun q => wo.heap.size ≤ q) wl zs[k1].ca 53 (zs[k1].b.cuts.length * 3)) := (HQZ.out _ (List.getElem_mem hk1n)).1
            have hn1 : (zs[k1].b.cuts.length : Int) ≤ 1000000 := by have := (HQZ.out _ (List.getElem_mem hk1n)).2; omega
            generalize zs[k1].ca = ca at *
            generalize zs[k1].b.cuts.length = nc at *
            generalize zs[k1].cc = cc at *
            clear HRZ HQZ
            go_wp2_with fail
            go_loopw [13] (fun i wr => ∃ (k2 : Nat), k2 ≤ nc ∧ i = .int .i64 k2 ∧ Hid (Sh wl wr ∧ Below wo.heap.size wo wr))
              (fun i _ => nc - (intOf i).toNat)
            case atStart => exact ⟨0, Nat.zero_le _, rfl, HY.out.1, HY.out.2⟩
            case round =>
              clear HY
              obtain ⟨k2, hk2, rfl, HY⟩ := hrel
              have c6 := HC6.out _ HY.out.1
              by_cases hk2n : k2 < nc
              · have hk2z : (k2 : Int) < (nc : Int) := by omega
                obtain ⟨g, cur, hca, hGg, hBg, hsz⟩ := HQ1.out.sh HY.out.1 (by omega)
                subst hca
                have hi : k2 * 3 < cur.size := by omega
                have s0 : wr.cell? ⟨g, k2 * 3, none⟩ = some cur[k2 * 3] := (hBg.cell (k2 * 3)).trans (Array.getElem?_eq_getElem hi)
                have f0 : wr.frozen? ⟨g, k2 * 3, none⟩ = false := hBg.froz (k2 * 3)
                have HF : Hid (Sh wl (wr.setCell ⟨g, k2 * 3, none⟩ (.int .i64 3)) ∧ Below wo.heap.size wo (wr.setCell ⟨g, k2 * 3, none⟩ (.int .i64 3))) := ⟨HY.out.1.set hBg _ _, HY.out.2.setCell (p := ⟨g, k2 * 3, none⟩) hGg _⟩
                generalize cur[k2 * 3] = cv at *
                clear hBg hsz hi HY HC6 hGg HQ1
                go_wp2_with fail
                go_roundw
                case rel => exact ⟨k2 + 1, by omega, by simp, HF.out⟩
                case measure => simp [intOf]; omega
              · have hk2z : ¬ (k2 : Int) < (nc : Int) := by omega
                clear HC6 HQ1
                go_wp2_with fail
                go_roundw
                case rel => exact ⟨k1 + 1, by omega, by simp, HY.out⟩
                case measure => simp [intOf]; omega
          · have hk1z : ¬ (k1 : Int) < (zs.length : Int) := by omega
            have HPx : Hid (Pl w.heap.size w wr (w.heap.size + 1) w.heap.size (.slice va ys.length vc) (ys.map (fun y : Bm => y.b)) ys k) := HPa.out.below HY.out.2
            have HC28 : Hid (Calls Try.prog 28 #[.pointer (some ⟨w.heap.size + 1, 0, none⟩)] wr (fun e w' => e = .returned (.pointer (some ⟨wr.heap.size + 1, 0, none⟩)) ∧ Hid (∃ M, Bo (fun q => wr.heap.size ≤ q) w' (wr.heap.size + 1) wr.heap.size M ∧ Rel M (ys.map (fun y : Bm => y.b)) ∧ M.length ≤ 40 ∧ Below wr.heap.size wr w'))) := by
              have h8 := HPx.out
              obtain ⟨F, L, h1, h2, h3, h4, _⟩ := h8
              refine (xclone28 h1 ⟨h3, HG.out.1, HG.out.2.1, by omega, by have := HG.out.2.2; omega⟩).mono ?_
              rintro e w' ⟨rfl, hh⟩
              obtain ⟨M, q1, q2, q3, q4⟩ := hh.out
              exact ⟨rfl, M, q1, q2, by omega, q4⟩
            clear HY HRZ HQZ HBL HPa
            go_upto_region 29 with (go_at_call 28; refine HC28.out.mono ?_; clear HC28; rintro e wy ⟨rfl, HM⟩)
            obtain ⟨M, hM1, hM2, hM3, hM4⟩ := HM.out
            have HM0 : Hid (Bo (fun q => wr.heap.size ≤ q) wy (wr.heap.size + 1) wr.heap.size M ∧ Rel M (ys.map (fun y : Bm => y.b)) ∧ M.length ≤ 40 ∧ Below wr.heap.size wr wy) := ⟨hM1, hM2, hM3, hM4⟩
            clear HM hM1 hM2 hM3 hM4
            generalize wr = wx at *
            have HWX : Hid (Below w.heap.size w wx) := HPx.out.bel
            go_wp2_with fail
            go_loopw [15] (fun i wr => ∃ (j : Nat) (M2 : List En) (r2 : List Bk) (F2 : Nat → Prop), j ≤ l2.length ∧ j ≤ 20 ∧ i = .int .i64 j ∧ Hid (Bo F2 wr (wx.heap.size + 1) wx.heap.size M2 ∧ (∀ q, F2 q → wx.heap.size ≤ q) ∧ Rel M2 r2 ∧ M2.length ≤ 100 + j ∧ r2.length ≤ 100 + j ∧ Below wx.heap.size wx wr))
              (fun i _ => l2.length - (intOf i).toNat)
            case atStart => exact ⟨0, M, (ys.map (fun y : Bm => y.b)), _, Nat.zero_le _, Nat.zero_le _, rfl, HM0.out.1, fun q hq => hq, HM0.out.2.1, by have := HM0.out.2.2.1; omega, by have := HG.out.2.2; omega, HM0.out.2.2.2⟩
            case round =>
              clear HM0
              obtain ⟨j, M2, r2, F2, hj, hj20, rfl, HY⟩ := hrel
              by_cases hjn : j < l2.length ∧ j < 20
              · have hjl : j < l2.length := hjn.1
                have hjz : (j : Int) < (l2.length : Int) := by omega
                have hj20z : (j : Int) < 20 := by omega
                obtain ⟨blk, off, rfl, hbl, hcs⟩ := HRW2.out (by omega)
                have hc := hcs j hjl
                have HXQ : Hid (Wq w l2[j]) := HQ2.out _ (List.getElem_mem hjl)
                have HLD : Hid (∀ W, Below w.heap.size w W → (Instr.loadAt 25 (.pointer (some ⟨blk, off + j * 10, none⟩))).run Try.prog W = .ok (.agg (bcs l2[j]).toArray) W) := fun W hW => row_load (fun i hi => (hW.cell (p := ⟨blk, off + j * 10 + i, none⟩) hbl).trans (hc i hi))
                generalize l2[j] = x at *
                have H16 : Hid (∀ W, Calls Try.prog 16 #[.agg (bcs x).toArray] W (KP (.bool (smB x.b)) W)) := fun W => rsmall x W
                have hbw : Below w.heap.size w wr := HWX.out.trans (HY.out.2.2.2.2.2.mono HWX.out.size)
                have HBW : Hid (Below w.heap.size w wr) := hbw
                have HL0 := HLD.out wr hbw
                have HL1 : Hid ((Instr.loadAt 25 (.pointer (some ⟨blk, off + j * 10, none⟩))).run Try.prog wr = .ok (.agg (bcs x).toArray) wr) := HL0
                clear HL0 hcs hc hjn hbw HRW2 HQ2 HPx HG
                cases hsm : smB x.b with
                | false =>
                  rw [hsm] at H16
                  clear HLD hsm HXQ
                  generalize (bcs x).toArray = Mx at *
                  go_wp2_with (first | (guard_target =~ wpList _ _ _ (⟨_, Op.load 25 _, _, _, _, _⟩ :: _) _ _; refine wl_load _ rfl 25 _ rfl _ rfl _ HL1.out ?_; go_simp) | (go_at_call 16; refine (H16.out _).mono ?_; clear H16; rintro e w3 ⟨rfl, HB⟩; have HY3 : Hid (Bo F2 w3 (wx.heap.size + 1) wx.heap.size M2 ∧ Below wx.heap.size wx w3) := ⟨HY.out.1.below HB.out, HY.out.2.2.2.2.2.trans (HB.out.mono HY.out.2.2.2.2.2.size)⟩; clear HB))
                  go_roundw
                  case rel => exact ⟨j + 1, M2, r2, F2, by omega, by omega, by simp, HY3.out.1, HY.out.2.1, HY.out.2.2.1, by have := HY.out.2.2.2.1; omega, by have := HY.out.2.2.2.2.1; omega, HY3.out.2⟩
                  case measure => simp [intOf]; omega
                | true =>
                  rw [hsm] at H16
                  have hsb : x.b.cuts.length ≤ 100 ∧ x.b.bar.length ≤ 100 := by unfold smB at hsm; simpa using hsm
                  have HSB : Hid (x.b.cuts.length ≤ 100 ∧ x.b.bar.length ≤ 100) := hsb
                  clear hsm hsb
                  go_upto_region 33 with (first | (guard_target =~ wpList _ _ _ (⟨_, Op.load 25 _, _, _, _, _⟩ :: _) _ _; refine wl_load _ rfl 25 _ rfl _ rfl _ HL1.out ?_; go_simp) | (go_at_call 16; refine (H16.out _).mono ?_; clear H16; rintro e w3 ⟨rfl, HB⟩; have HB3 : Hid (Below wr.heap.size wr w3) := HB.out; clear HB))
                  have hbw3 : Below w.heap.size w w3 := HBW.out.trans (HB3.out.mono HBW.out.size)
                  have HL0 := HLD.out w3 hbw3
                  have HL2 : Hid ((Instr.loadAt 25 (.pointer (some ⟨blk, off + j * 10, none⟩))).run Try.prog w3 = .ok (.agg (bcs x).toArray) w3) := HL0
                  have HC18 : Hid (Calls Try.prog 18 #[.pointer (some ⟨wx.heap.size + 1, 0, none⟩), .agg (bcs x).toArray] w3 (SeP F2 (wx.heap.size + 1) wx.heap.size M2 r2 x.b (bkE C0 x.b) w3)) := xset (HY.out.1.below HB3.out) HY.out.2.2.1 (by have := HY.out.2.2.2.1; omega) (by have := HY.out.2.2.2.2.1; omega) x ((HXQ.out.on hbw3).mono hbw3.size) (by have := HSB.out; omega) (by have := HSB.out; omega) _ rfl
                  have HBX3 : Hid (Below wx.heap.size wx w3) := HY.out.2.2.2.2.2.trans (HB3.out.mono HY.out.2.2.2.2.2.size)
                  clear HL0 HL1 HLD hbw3 HXQ HSB HB3
                  generalize (bcs x).toArray = Mx at *
                  go_wp2_with (first | (guard_target =~ wpList _ _ _ (⟨_, Op.load 25 _, _, _, _, _⟩ :: _) _ _; refine wl_load _ rfl 25 _ rfl _ rfl _ HL2.out ?_; go_simp) | (go_at_call 18; refine HC18.out.mono ?_; clear HC18; rintro e w4 ⟨rfl, HS4⟩))
                  go_roundw
                  case rel =>
                    obtain ⟨M3, q1, q2, q3, q4⟩ := HS4.out
                    refine ⟨j + 1, M3, setL r2 x.b (bkE C0 x.b), _, by omega, by omega, by simp, q1, fun q hq => ?_, q2, by have := HY.out.2.2.2.1; omega, by have := HY.out.2.2.2.2.1; have := setL_len r2 x.b (bkE C0 x.b); omega, ?_⟩
                    · rcases hq with hq | hq
                      · exact HY.out.2.1 q hq
                      · exact Nat.le_trans HBX3.out.size hq
                    · exact HBX3.out.trans (q3.below HY.out.2.1 HBX3.out.size)
                  case measure => simp [intOf]; omega
              · have hend2 : ((j : Int) < (l2.length : Int) ∧ ¬ (j : Int) < 20) ∨ ¬ (j : Int) < (l2.length : Int) := by omega
                have HP34 : Hid (Pl w.heap.size w wr (w.heap.size + 1) w.heap.size (.slice va ys.length vc) (ys.map (fun y : Bm => y.b)) ys k) := HPx.out.below HY.out.2.2.2.2.2
                have HC19 : Hid (Calls Try.prog 19 #[.pointer (some ⟨w.heap.size + 1, 0, none⟩), .slice va ys.length vc] wr (BB true wr)) := HP34.out.shows HG.out (by omega) rfl
                have HBW : Hid (Below w.heap.size w wr) := HP34.out.bel
                clear HY HPx HG HP34 HRW2 HQ2 HWX
                rcases hend2 with ⟨hjz, hj20z⟩ | hjz
                all_goals
                  go_upto_region 36 with (go_at_call 19; refine HC19.out.mono ?_; clear HC19; rintro e ws ⟨rfl, hbs⟩)
                  have HBS : Hid (Below w.heap.size w ws) := HBW.out.trans (hbs.mono HBW.out.size)
                  clear hbs HBW
                  have HXZ : Hid (Bx ((ws.alloc (.cells #[.map none] 57)).alloc (.cells #[.pointer none, .pointer (some ⟨ws.heap.size, 0, none⟩)] 35)) ws.heap.size #[.map none] 57) := (Bx.new ws _ _).kept (World.grownBy_alloc _ _ none) (by simp)
                  have HXS : Hid (Bx ((ws.alloc (.cells #[.map none] 57)).alloc (.cells #[.pointer none, .pointer (some ⟨ws.heap.size, 0, none⟩)] 35)) (ws.heap.size + 1) #[.pointer none, .pointer (some ⟨ws.heap.size, 0, none⟩)] 35) := by
                    have := Bx.new (ws.alloc (.cells #[.map none] 57)) #[.pointer none, .pointer (some ⟨ws.heap.size, 0, none⟩)] 35
                    rw [World.size_alloc] at this
                    exact this
                  have HBZ : Hid (Below w.heap.size w ((ws.alloc (.cells #[.map none] 57)).alloc (.cells #[.pointer none, .pointer (some ⟨ws.heap.size, 0, none⟩)] 35))) := (HBS.out.alloc HBS.out.size _).alloc (by simp; have := HBS.out.size; omega) _
                  go_wp2_with fail
                  obtain ⟨wz, hwz⟩ : ∃ x, x = ((ws.alloc (.cells #[.map none] 57)).alloc (.cells #[.pointer none, .pointer (some ⟨ws.heap.size, 0, none⟩)] 35)) := ⟨_, rfl⟩
                  rw [← hwz] at HXZ HXS HBZ ⊢
                  clear hwz
                  generalize ws.heap.size = qz at *
                  go_loopw [143] (fun i wr => ∃ (j : Nat), j ≤ 2 ∧ i = .int .i64 j ∧ Hid (Below wz.heap.size wz wr))
                    (fun i _ => 2 - (intOf i).toNat)
                  case atStart => exact ⟨0, by omega, rfl, Below.refl _ _⟩
                  case round =>
                    obtain ⟨j2, hj2, rfl, HY⟩ := hrel
                    by_cases hj2n : j2 < 2
                    · have hj2z : (j2 : Int) < 2 := by omega
                      have hj20 : (0 : Int) ≤ j2 := by omega
                      obtain ⟨ob, hob, hlk⟩ : ∃ o, wr.cell? ⟨qz + 1, j2, none⟩ = some (.pointer o) ∧ Lk wr (.pointer o) := by
                        have hx := HXS.out.keep HY.out
                        rcases (by omega : j2 = 0 ∨ j2 = 1) with rfl | rfl
                        · exact ⟨none, hx.cell 0, Lk.nil0 _⟩
                        · exact ⟨some ⟨qz, 0, none⟩, hx.cell 1, (Lk.zero HXZ.out).below HY.out⟩
                      have HLK : Hid (Lk wr (.pointer ob)) := hlk
                      have H20 : Hid (Calls Try.prog 20 #[.pointer ob, .int .i64 1] wr fun e w' => e = .returned (.tuple #[.agg (bcs Zm).toArray, .bool false]) ∧ Hid (Below wr.heap.size wr w')) := nget hlk 1
                      clear hlk
                      go_upto_region 40 with (first | (go_at_call 20; refine H20.out.mono ?_; clear H20; rintro e u1 ⟨rfl, hb1⟩; have HSQ : Hid ((Instr.storeAt 25 (.pointer (some ⟨u1.heap.size, 0, none⟩)) (.agg (bcs Zm).toArray)).run Try.prog (u1.alloc (.cells #[.int .i64 0, .int .i64 0, .string ⟨#[]⟩, .int .i64 0, .int .i64 0, .int .i64 0, .slice none 0 0, .int .i64 0, .int .i64 0, .slice none 0 0] 25)) = .ok () ((u1.alloc (.cells #[.int .i64 0, .int .i64 0, .string ⟨#[]⟩, .int .i64 0, .int .i64 0, .int .i64 0, .slice none 0 0, .int .i64 0, .int .i64 0, .slice none 0 0] 25)).setRow u1.heap.size (bcs Zm).toArray)) := box_store (Bx.new _ _ _) rfl Zm) | (guard_target =~ wpList _ _ _ (⟨_, Op.store 25 _ _, _, _, _, _⟩ :: _) _ _; refine wl_store _ _ rfl 25 _ _ rfl _ _ rfl rfl HSQ.out ?_; go_simp))
                      have HU : Hid (Below wr.heap.size wr ((u1.alloc (.cells #[.int .i64 0, .int .i64 0, .string ⟨#[]⟩, .int .i64 0, .int .i64 0, .int .i64 0, .slice none 0 0, .int .i64 0, .int .i64 0, .slice none 0 0] 25)).setRow u1.heap.size (bcs Zm).toArray)) := bt hb1.out (below_setR (below_a _ _) (Nat.le_refl _))
                      generalize ((u1.alloc (.cells #[.int .i64 0, .int .i64 0, .string ⟨#[]⟩, .int .i64 0, .int .i64 0, .int .i64 0, .slice none 0 0, .int .i64 0, .int .i64 0, .slice none 0 0] 25)).setRow u1.heap.size (bcs Zm).toArray) = u2 at *
                      clear HSQ hb1 hob
                      have H29 : Hid (Calls Try.prog 29 #[] u2 (PlP u2)) := xplain u2
                      have H18 : Hid (∀ W g, Below wr.heap.size wr W → Calls Try.prog 18 #[.pointer ob, .agg #[.int .i64 1, .int .i64 1, .string ⟨#[69, 85, 82]⟩, .int .i64 5, .int .i64 30, .int .i64 1000, .slice (some ⟨g, 0, none⟩) 1 1, .int .i64 0, .int .i64 0, .slice none 0 0]] W fun e w' => e = .returned (.int .i64 3) ∧ Below W.heap.size W w') := fun W g hW => nset (HLK.out.below hW) (plM g)
                      have H30 : Hid (∀ W, Below wr.heap.size wr W → Calls Try.prog 30 #[.pointer ob] W fun e w' => e = .returned (.slice none 0 0) ∧ W = w') := fun W hW => nids (HLK.out.below hW)
                      have H27 : Hid (∀ W, Below wr.heap.size wr W → Calls Try.prog 27 #[.pointer ob] W fun e w' => e = .returned (.slice none 0 0) ∧ W = w') := fun W hW => nall (HLK.out.below hW)
                      have H25 : Hid (∀ W, Below wr.heap.size wr W → Calls Try.prog 25 #[.pointer ob, .agg #[.string ⟨#[]⟩, .int .i64 0, .int .i64 0, .int .i64 0, .string ⟨#[]⟩], .int .i64 0] W fun e w' => e = .returned (.slice none 0 0) ∧ Below W.heap.size W w') := fun W hW => ntakes (HLK.out.below hW) _ _ _ _ _ _
                      have H28 : Hid (∀ W, Below wr.heap.size wr W → Calls Try.prog 28 #[.pointer ob] W fun e w' => e = .returned (.pointer none) ∧ W = w') := fun W hW => nclone (HLK.out.below hW)
                      clear HLK
                      go_wp2_with (first | (go_at_call 29; refine H29.out.mono ?_; clear H29; rintro e u3 ⟨gp, rfl, hp3⟩; have HU3 : Hid (Below wr.heap.size wr u3) := bt HU.out hp3.out.2; clear hp3) | (go_at_call 18; refine (H18.out _ _ HU3.out).mono ?_; clear H18; rintro e u4 ⟨rfl, hp4⟩; have HU4 : Hid (Below wr.heap.size wr u4) := bt HU3.out hp4; clear hp4) | (go_at_call 30; refine (H30.out _ HU4.out).mono ?_; clear H30; rintro e u5 ⟨rfl, rfl⟩) | (go_at_call 27; refine (H27.out _ HU4.out).mono ?_; clear H27; rintro e u6 ⟨rfl, rfl⟩) | (go_at_call 25; refine (H25.out _ HU4.out).mono ?_; clear H25; rintro e u7 ⟨rfl, hp7⟩; have HU7 : Hid (Below wr.heap.size wr u7) := bt HU4.out hp7; clear hp7) | (go_at_call 28; refine (H28.out _ HU7.out).mono ?_; clear H28; rintro e u8 ⟨rfl, rfl⟩))
                      go_roundw
                      case rel => exact ⟨j2 + 1, by omega, by simp, bt HY.out HU7.out⟩
                      case measure => simp [intOf]; omega
                    · have hj2z : ¬ (j2 : Int) < 2 := by omega
                      have HBE : Hid (Below w.heap.size w wr) := HBZ.out.trans (HY.out.mono HBZ.out.size)
                      clear HY
                      go_wp2_with (go_at_call 9; refine (K9.out _).mono ?_; rintro e wq ⟨rfl, HBz⟩; have Kz : Hid (Below w.heap.size w wq) := HBE.out.trans (HBz.mono HBE.out.size); clear HBz)
                      go_ret
                      exact ⟨rfl, Kz.out⟩
end Go.Proofs.Ytmjaijpikbdfkaa
