/- The reference's reader: Uint. -/
import Derived.Test.YtgdoeflnfcjefaaP
import Derived.WalkKit
import Derived.ProofKit
import Derived.Handy
import Derived.WalkLawsBesides
import Derived.WalkSpells
import Derived.BigQuiet
import Derived.BigCall
import Derived.Deep.QuietTactic
import Derived.Deep.Light
import Derived.Deep.OwnRows
import Derived.Laws.AppendOwnNone
import Derived.Laws.Strings3
import Derived.Laws.RangeAny
import Derived.Deep.RegionWith
import Derived.Lib.BitFns
import Derived.Lib.Walk
import Derived.Lib.Strings
import Derived.Lib.OthersKept
import Derived.Deep.CutBlock
import Derived.Deep.DeepCutAuto
import Derived.Deep.LoopGhost
import Derived.Deep.RegionHeld3
import Derived.Lib.SmallJoins
import Derived.Maps.AppendAt
import Derived.Laws.IdiomStrings
import Derived.Lib.AppendZeros
import Derived.Deep.WholeRow
import Derived.Laws.BitsAllLaws
import Derived.Lib.ConvBytes
import Derived.Deep.RegionLaw
namespace Go.Proofs.Ytgdoeflnfcjefaa
open Go.RowKit
set_option linter.unusedVariables false
set_option linter.unusedSimpArgs false
theorem rUint_is (r : Rd) (h : r.e = 0) : rUint r = if (rdU (r.s.drop r.at_)).1 = 0 then ({ r with at_ := r.at_ + (rdU (r.s.drop r.at_)).2.2 }, (rdU (r.s.drop r.at_)).2.1) else (r.fl (rdU (r.s.drop r.at_)).1, 0) := by
  unfold rUint Rd.fl
  rw [if_neg (by simpa using h)]
  rw [if_pos h]
theorem qcells_one (X : Rd) : ∀ v ∈ (qcells X).toList, v.oneCell' = true := by
  intro v hv
  simp only [qcells, List.mem_cons, List.not_mem_nil, or_false] at hv
  rcases hv with rfl | rfl | rfl <;> rfl
theorem qput {w : World} {z : Nat} {r : Rd} (h : Rq w z r) (X : Rd) : (storeCells ⟨z, 0, none⟩ (qcells X).toList).run Try.prog w = .ok () (w.setRow z (qcells X)) := by
  have := run_storeCells_at Try.prog z 0 39 (qcells X).toList 0 (qcells r) w h.blk (by simp [qcells]) (qcells_one X)
  rw [this]
  congr 2
theorem Rq.put {w : World} {z : Nat} {r : Rd} (h : Rq w z r) (X : Rd) : Rq (w.setRow z (qcells X)) z X := ⟨setRow_heap w z _ _ 39 (0, 0) h.blk⟩
theorem three_set {w : World} {z : Nat} {r : Rd} (h : Rq w z r) (X : Rd) : ((w.setCell ⟨z, 0, none⟩ (.string ⟨X.s.toArray⟩)).setCell ⟨z, 1, none⟩ (.int .i64 X.at_)).setCell ⟨z, 2, none⟩ (.int .i64 X.e) = w.setRow z (qcells X) := by
  have hs : ∀ (cs : Array Value), (w.setRow z cs).heap[z]? = some (.cells cs 39 (0, 0)) := fun cs => setRow_heap w z _ _ 39 (0, 0) h.blk
  rw [setCell_eq_setRow w z 0 _ 39 (0, 0) _ h.blk]
  rw [setCell_eq_setRow _ z 1 _ 39 (0, 0) _ (hs _), setRow_setRow]
  rw [setCell_eq_setRow _ z 2 _ 39 (0, 0) _ (hs _), setRow_setRow]
  rfl
theorem below_setRow {B : Nat} {a w : World} {q : Nat} {cs : Array Value} (h : Below B a w) (hq : B ≤ q) : Below B a (w.setRow q cs) :=
  ⟨h.os, h.tape, h.output, by have := h.size; simpa [World.setRow] using this, fun k hk => (setRow_other w q k cs (by omega)).trans (h.block k hk)⟩
theorem QP.mk {v u : Value} {r x : Rd} {w w' : World} (hv : u = v) (hx : x = r) (hb : Below w.heap.size w w') : QP v r w (.returned (.tuple #[.agg (qcells x), u])) w' := ⟨by rw [hv, hx], hb⟩
theorem Rq.new2 (w : World) (r : Rd) : Rq ((w.alloc (.cells (qcells r) 39)).alloc (.cells (qcells ⟨[], 0, 0⟩) 39)) w.heap.size r ∧ Rq ((w.alloc (.cells (qcells r) 39)).alloc (.cells (qcells ⟨[], 0, 0⟩) 39)) (w.heap.size + 1) ⟨[], 0, 0⟩ ∧ Below w.heap.size w ((w.alloc (.cells (qcells r) 39)).alloc (.cells (qcells ⟨[], 0, 0⟩) 39)) := by
  have e : (w.alloc (.cells (qcells r) 39)).heap.size = w.heap.size + 1 := by simp
  refine ⟨?_, ?_, (below_new w _).alloc (by omega) _⟩
  · refine (Rq.new w r).keep (below_new _ _)
  · have := Rq.new (w.alloc (.cells (qcells r) 39)) ⟨[], 0, 0⟩
    rw [e] at this
    exact this
set_option maxRecDepth 20000 in
set_option maxHeartbeats 4000000 in
theorem quint (r : Rd) (hr : r.at_ ≤ r.s.length) (hs : r.s.length ≤ 1099511627776) (w : World) : Calls Try.prog 37 #[.agg (qcells r)] w (QP (.int .u64 (rUint r).2) (rUint r).1 w) := by
  by_cases h0 : r.e = 0
  · have HU : Hid (rUint r = if (rdU (r.s.drop r.at_)).1 = 0 then ({ r with at_ := r.at_ + (rdU (r.s.drop r.at_)).2.2 }, (rdU (r.s.drop r.at_)).2.1) else (r.fl (rdU (r.s.drop r.at_)).1, 0)) := rUint_is r h0
    have hz : ((r.e : Int) != 0) = false := by rw [h0]; rfl
    have HN := Rq.new2 w r
    have HB0 : Hid (Below w.heap.size w ((w.alloc (.cells (qcells r) 39)).alloc (.cells (qcells ⟨[], 0, 0⟩) 39))) := HN.2.2
    have HQ0 : Hid (Rq ((w.alloc (.cells (qcells r) 39)).alloc (.cells (qcells ⟨[], 0, 0⟩) 39)) w.heap.size r) := HN.1
    have HO0 : Hid (Rq ((w.alloc (.cells (qcells r) 39)).alloc (.cells (qcells ⟨[], 0, 0⟩) 39)) (w.heap.size + 1) ⟨[], 0, 0⟩) := HN.2.1
    obtain ⟨S, hS⟩ : ∃ S : ByteArray, S = ⟨r.s.toArray⟩ := ⟨_, rfl⟩
    have HF : Hid (∀ (e : Nat) (w : World), Calls Try.prog 48 #[.agg #[.string S, .int .i64 r.at_, .int .i64 r.e], .int .i64 e] w fun x w' => x = .returned (.agg (qcells (r.fl e))) ∧ Below w.heap.size w w') := fun e w => by rw [hS]; exact qfail r e w
    have hsz : S.size = r.s.length := by rw [hS]; rfl
    have hds : r.s = S.data.toList := by rw [hS]
    have HS : Hid (S = ⟨r.s.toArray⟩) := hS
    have hs2 : S.size ≤ 1099511627776 := by omega
    have ha : r.at_ ≤ S.size := by omega
    have HG : Hid (∀ i (h : r.at_ + i < S.size), (r.s.drop r.at_)[i]? = some (S[r.at_ + i])) := fun i h => by
      rw [List.getElem?_drop, hds, List.getElem?_eq_getElem (show r.at_ + i < S.data.toList.length from h)]
      rfl
    have HL : Hid ((r.s.drop r.at_).length = S.size - r.at_) := by unfold Hid; rw [List.length_drop, hsz]
    have HJ0 : Hid (Jn (r.s.drop r.at_) 0) := Jn.zero _
    clear hS hsz hds hs hr HN
    clear h0
    generalize r.s.drop r.at_ = D at *
    obtain ⟨N, HN⟩ : ∃ N : Nat, Hid (N = 12) := ⟨12, rfl⟩
    go_enter Try.func37, Try.ntmps37
    go_upto_region 1 with fail
    show Code.wp _ _ _ _ ((w.alloc (.cells (qcells r) 39)).alloc (.cells (qcells ⟨[], 0, 0⟩) 39))
    generalize (w.alloc (.cells (qcells r) 39)).alloc (.cells (qcells ⟨[], 0, 0⟩) 39) = wA at *
    generalize hZ : w.heap.size = z at *
    have HZ : Hid (w.heap.size = z) := hZ
    clear hZ
    have c2 : wA.cell? ⟨z, 2, none⟩ = some (.int .i64 r.e) := HQ0.out.cell 2
    go_wp2_with fail
    go_loopw [4] (fun i wr => ∃ (k : Nat), i = .int .i64 k ∧ 1 ≤ k ∧ k ≤ 11 ∧ Hid (Jn D (k - 1)) ∧ Hid (Rq wr z r) ∧ Hid (Rq wr (z + 1) ⟨[], 0, 0⟩) ∧ Hid (Below z w wr)) (fun i _ => N - (Lib.intOf i).toNat)
    case atStart => exact ⟨1, rfl, by omega, by omega, HJ0, HQ0, HO0, HB0⟩
    case round =>
      clear HJ0 HQ0 HO0 HB0 c2
      obtain ⟨k, rfl, hk1, hk11, HJ, HQ, HO, HB⟩ := hrel
      have c0 : wr.cell? ⟨z, 0, none⟩ = some (.string S) := by rw [HS.out]; exact HQ.out.cell 0
      have c1 : wr.cell? ⟨z, 1, none⟩ = some (.int .i64 r.at_) := HQ.out.cell 1
      have c2 : wr.cell? ⟨z, 2, none⟩ = some (.int .i64 r.e) := HQ.out.cell 2
      have hkz : (k : Int) ≤ 11 := by omega
      by_cases hl : S.size < r.at_ + k
      · have hlz : (S.size : Int) < (r.at_ : Int) + (k : Int) := by omega
        have HE : Hid (rUint r = (r.fl 14, 0)) := by
          unfold Hid
          rw [HU.out, HJ.out.short (by rw [HL.out]; omega), if_neg (by simp)]
        go_wp2_with fail
        refine (HF.out 14 _).mono ?_
        rintro e w3 ⟨rfl, hb3⟩
        have HB3 : Hid (Below z w w3) := HB.out.trans (hb3.mono (by have := HB.out.size; rw [HZ.out] at this; exact this))
        have HO3 : Hid (Rq w3 (z + 1) ⟨[], 0, 0⟩) := HO.out.keep hb3
        have hst := qput HO3.out (r.fl 14)
        have hsz3 : (qcells (r.fl 14)).size = 3 := rfl
        have HO4 : Hid (Rq (w3.setRow (z + 1) (qcells (r.fl 14))) (z + 1) (r.fl 14)) := HO3.out.put _
        have HB4 : Hid (Below z w (w3.setRow (z + 1) (qcells (r.fl 14)))) := below_setRow HB3.out (by omega)
        clear hb3 c0 c1 c2 HO3 HB3 HO HB HF HQ HJ
        go_wp2_with fail
        generalize w3.setRow (z + 1) (qcells (r.fl 14)) = w4 at *
        have d0 : w4.cell? ⟨z + 1, 0, none⟩ = some (.string ⟨(r.fl 14).s.toArray⟩) := HO4.out.cell 0
        have d1 : w4.cell? ⟨z + 1, 1, none⟩ = some (.int .i64 (r.fl 14).at_) := HO4.out.cell 1
        have d2 : w4.cell? ⟨z + 1, 2, none⟩ = some (.int .i64 (r.fl 14).e) := HO4.out.cell 2
        refine bodyPost_ret (by simp [results, Try.results37, go_sem, d0, d1, d2]; try rfl) rfl ?_
        exact QP.mk (by rw [HE.out]; rfl) (by rw [HE.out]) (by rw [HZ.out]; exact HB4.out)
      · have hlz : ¬ (S.size : Int) < (r.at_ : Int) + (k : Int) := by omega
        have hlt : r.at_ + (k - 1) < S.size := by omega
        have hlt0 : r.at_ < S.size := by omega
        obtain ⟨x, hx⟩ : ∃ x : UInt8, S[r.at_ + (k - 1)] = x := ⟨_, rfl⟩
        obtain ⟨y, hy⟩ : ∃ y : UInt8, S[r.at_] = y := ⟨_, rfl⟩
        have hxl := x.toNat_lt
        have hyl := y.toNat_lt
        have hix : ∀ w : World, (Instr.index 9 (.string S) (.int .i64 ((r.at_ : Int) + k - 1))).run Try.prog w = .ok (.int .u8 (x.toNat : Int)) w := fun w => idx_at hlt hx (by omega) w
        have hiy : ∀ w : World, (Instr.index 9 (.string S) (.int .i64 (r.at_ : Int))).run Try.prog w = .ok (.int .u8 (y.toNat : Int)) w := fun w => idx_at hlt0 hy rfl w
        have HX : Hid (D[k - 1]? = some x) := by unfold Hid; rw [HG.out _ hlt, hx]
        have HY : Hid (D[0]? = some y) := by unfold Hid; rw [HG.out 0 (by omega)]; exact congrArg some hy
        clear hx hy
        by_cases hf : (k = 1 ∧ x.toNat = 128) ∨ k = 11 ∨ k = 10 ∧ 129 < y.toNat
        · have HE : Hid (rUint r = (r.fl 15, 0)) := by
            unfold Hid
            have : rdU D = (15, 0, 0) := by
              by_cases h1 : k = 1 ∧ x.toNat = 128
              · have h2 := HX.out
                rw [h1.1] at h2
                exact Jn.form1 h2 h1.2
              · exact HJ.out.form2 HX.out HY.out (by omega) (by omega)
            rw [HU.out, this, if_neg (by simp)]
          rcases hf with ⟨h1, h2⟩ | h1 | ⟨h1, h2⟩
          · have e1 : ((k : Int) == 1) = true := by rw [beq_iff_eq]; omega
            have e2 : ((x.toNat : Int) == 128) = true := by rw [beq_iff_eq]; omega
            clear h1 h2
            go_wp2_with fail
            refine (HF.out 15 _).mono ?_
            rintro e w3 ⟨rfl, hb3⟩
            have HB3 : Hid (Below z w w3) := HB.out.trans (hb3.mono (by have := HB.out.size; rw [HZ.out] at this; exact this))
            have HO3 : Hid (Rq w3 (z + 1) ⟨[], 0, 0⟩) := HO.out.keep hb3
            have hst := qput HO3.out (r.fl 15)
            have hsz3 : (qcells (r.fl 15)).size = 3 := rfl
            have HO4 : Hid (Rq (w3.setRow (z + 1) (qcells (r.fl 15))) (z + 1) (r.fl 15)) := HO3.out.put _
            have HB4 : Hid (Below z w (w3.setRow (z + 1) (qcells (r.fl 15)))) := below_setRow HB3.out (by omega)
            clear hb3 c0 c1 c2 HO3 HB3 HO HB HF HQ HJ
            go_wp2_with fail
            generalize w3.setRow (z + 1) (qcells (r.fl 15)) = w4 at *
            have d0 : w4.cell? ⟨z + 1, 0, none⟩ = some (.string ⟨(r.fl 15).s.toArray⟩) := HO4.out.cell 0
            have d1 : w4.cell? ⟨z + 1, 1, none⟩ = some (.int .i64 (r.fl 15).at_) := HO4.out.cell 1
            have d2 : w4.cell? ⟨z + 1, 2, none⟩ = some (.int .i64 (r.fl 15).e) := HO4.out.cell 2
            refine bodyPost_ret (by simp [results, Try.results37, go_sem, d0, d1, d2]; try rfl) rfl ?_
            exact QP.mk (by rw [HE.out]; rfl) (by rw [HE.out]) (by rw [HZ.out]; exact HB4.out)
          · have e1 : ((k : Int) == 1) = false := by rw [beq_eq_false_iff_ne]; omega
            have e2 : ((k : Int) == 11) = true := by rw [beq_iff_eq]; omega
            clear h1
            go_wp2_with fail
            refine (HF.out 15 _).mono ?_
            rintro e w3 ⟨rfl, hb3⟩
            have HB3 : Hid (Below z w w3) := HB.out.trans (hb3.mono (by have := HB.out.size; rw [HZ.out] at this; exact this))
            have HO3 : Hid (Rq w3 (z + 1) ⟨[], 0, 0⟩) := HO.out.keep hb3
            have hst := qput HO3.out (r.fl 15)
            have hsz3 : (qcells (r.fl 15)).size = 3 := rfl
            have HO4 : Hid (Rq (w3.setRow (z + 1) (qcells (r.fl 15))) (z + 1) (r.fl 15)) := HO3.out.put _
            have HB4 : Hid (Below z w (w3.setRow (z + 1) (qcells (r.fl 15)))) := below_setRow HB3.out (by omega)
            clear hb3 c0 c1 c2 HO3 HB3 HO HB HF HQ HJ
            go_wp2_with fail
            generalize w3.setRow (z + 1) (qcells (r.fl 15)) = w4 at *
            have d0 : w4.cell? ⟨z + 1, 0, none⟩ = some (.string ⟨(r.fl 15).s.toArray⟩) := HO4.out.cell 0
            have d1 : w4.cell? ⟨z + 1, 1, none⟩ = some (.int .i64 (r.fl 15).at_) := HO4.out.cell 1
            have d2 : w4.cell? ⟨z + 1, 2, none⟩ = some (.int .i64 (r.fl 15).e) := HO4.out.cell 2
            refine bodyPost_ret (by simp [results, Try.results37, go_sem, d0, d1, d2]; try rfl) rfl ?_
            exact QP.mk (by rw [HE.out]; rfl) (by rw [HE.out]) (by rw [HZ.out]; exact HB4.out)
          · have e1 : ((k : Int) == 1) = false := by rw [beq_eq_false_iff_ne]; omega
            have e2 : ((k : Int) == 11) = false := by rw [beq_eq_false_iff_ne]; omega
            have e3 : ((k : Int) == 10) = true := by rw [beq_iff_eq]; omega
            have e4 : (129 : Int) < (y.toNat : Int) := by omega
            clear h1 h2
            go_wp2_with fail
            refine (HF.out 15 _).mono ?_
            rintro e w3 ⟨rfl, hb3⟩
            have HB3 : Hid (Below z w w3) := HB.out.trans (hb3.mono (by have := HB.out.size; rw [HZ.out] at this; exact this))
            have HO3 : Hid (Rq w3 (z + 1) ⟨[], 0, 0⟩) := HO.out.keep hb3
            have hst := qput HO3.out (r.fl 15)
            have hsz3 : (qcells (r.fl 15)).size = 3 := rfl
            have HO4 : Hid (Rq (w3.setRow (z + 1) (qcells (r.fl 15))) (z + 1) (r.fl 15)) := HO3.out.put _
            have HB4 : Hid (Below z w (w3.setRow (z + 1) (qcells (r.fl 15)))) := below_setRow HB3.out (by omega)
            clear hb3 c0 c1 c2 HO3 HB3 HO HB HF HQ HJ
            go_wp2_with fail
            generalize w3.setRow (z + 1) (qcells (r.fl 15)) = w4 at *
            have d0 : w4.cell? ⟨z + 1, 0, none⟩ = some (.string ⟨(r.fl 15).s.toArray⟩) := HO4.out.cell 0
            have d1 : w4.cell? ⟨z + 1, 1, none⟩ = some (.int .i64 (r.fl 15).at_) := HO4.out.cell 1
            have d2 : w4.cell? ⟨z + 1, 2, none⟩ = some (.int .i64 (r.fl 15).e) := HO4.out.cell 2
            refine bodyPost_ret (by simp [results, Try.results37, go_sem, d0, d1, d2]; try rfl) rfl ?_
            exact QP.mk (by rw [HE.out]; rfl) (by rw [HE.out]) (by rw [HZ.out]; exact HB4.out)
        · have h0 : ¬ (k - 1 = 0 ∧ x.toNat = 128) := by omega
          have HM : Hid (¬ 144115188075855872 ≤ gv 0 (D.take (k - 1))) := HJ.out.small HX.out HY.out h0 (by omega)
          have hk10 : k ≠ 11 := by omega
          have hnf1 : k = 1 → x.toNat ≠ 128 := by omega
          have hnf2 : k = 10 → y.toNat ≤ 129 := by omega
          by_cases hc : x.toNat < 128
          · have hcz : (x.toNat : Int) < 128 := by omega
            have HE : Hid (rUint r = ({ r with at_ := r.at_ + k }, gv 0 (D.take k))) := by
              unfold Hid
              have := HJ.out.last HX.out h0 HM.out hc
              rw [show k - 1 + 1 = k by omega] at this
              rw [HU.out, this, if_pos rfl]
            clear hf h0
            by_cases hw : k = 1
            · have e1 : ((k : Int) == 1) = true := by rw [beq_iff_eq]; omega
              have e2 : ((x.toNat : Int) == 128) = false := by rw [beq_eq_false_iff_ne]; have := hnf1 hw; omega
              have e3 : ((k : Int) == 11) = false := by rw [beq_eq_false_iff_ne]; omega
              have e4 : ((k : Int) == 10) = false := by rw [beq_eq_false_iff_ne]; omega
              clear hw hnf1 hnf2
              go_wp2_with fail
              go_loopw [6, 7] (fun v i wi => ∃ (a n : Nat), v = .int .u64 n ∧ i = .int .i64 a ∧ a ≤ k ∧ Hid (n = gv 0 (D.take a)) ∧ Hid (Rq wi z r) ∧ Hid (Rq wi (z + 1) ⟨[], 0, 0⟩) ∧ Hid (Below z w wi)) (fun _ i _ => k - (Lib.intOf i).toNat)
              case atStart => exact ⟨0, 0, rfl, rfl, by omega, rfl, HQ.out, HO.out, HB.out⟩
              case round =>
                clear c0 c1 c2 HQ HO HB
                obtain ⟨a, n, rfl, rfl, hak, HA, HQ, HO, HB⟩ := hrel
                by_cases hlt2 : a < k
                · have haz : (a : Int) < (k : Int) := by omega
                  have c0 : wr.cell? ⟨z, 0, none⟩ = some (.string S) := by rw [HS.out]; exact HQ.out.cell 0
                  have c1 : wr.cell? ⟨z, 1, none⟩ = some (.int .i64 r.at_) := HQ.out.cell 1
                  have hlt3 : r.at_ + a < S.size := by omega
                  obtain ⟨u, hu⟩ : ∃ u : UInt8, S[r.at_ + a] = u := ⟨_, rfl⟩
                  have hul := u.toNat_lt
                  have hiu : ∀ w : World, (Instr.index 9 (.string S) (.int .i64 ((r.at_ : Int) + a))).run Try.prog w = .ok (.int .u8 (u.toNat : Int)) w := fun w => idx_at hlt3 hu rfl w
                  have hn57 : n < 144115188075855872 := by
                    have h1 := gv_take_le D (show a ≤ k - 1 by omega)
                    have h2 := HM.out
                    rw [HA.out]
                    omega
                  have HA2 : Hid (n * 128 + u.toNat % 128 = gv 0 (D.take (a + 1))) := by
                    unfold Hid
                    rw [take_snoc (by rw [HG.out a hlt3, hu]), gv_snoc, HA.out]
                  clear hu HA
                  go_wp2_with fail
                  exact ⟨⟨a + 1, n * 128 + u.toNat % 128, by rw [Int.natCast_add, Int.natCast_mul]; rfl, by go_num, by omega, HA2.out, HQ.out, HO.out, HB.out⟩, by simp [Lib.intOf]; omega⟩
                · have haz : ¬ (a : Int) < (k : Int) := by omega
                  have hak2 : a = k := by omega
                  subst hak2
                  have c0 : wr.cell? ⟨z, 0, none⟩ = some (.string S) := by rw [HS.out]; exact HQ.out.cell 0
                  have c1 : wr.cell? ⟨z, 1, none⟩ = some (.int .i64 r.at_) := HQ.out.cell 1
                  have c2 : wr.cell? ⟨z, 2, none⟩ = some (.int .i64 r.e) := HQ.out.cell 2
                  have f1 := HQ.out.froz 1
                  have HQ5 : Hid (Rq (wr.setCell ⟨z, 1, none⟩ (.int .i64 ((r.at_ : Int) + a))) z { r with at_ := r.at_ + a }) := HQ.out.setAt (r.at_ + a)
                  have HO5 : Hid (Rq (wr.setCell ⟨z, 1, none⟩ (.int .i64 ((r.at_ : Int) + a))) (z + 1) ⟨[], 0, 0⟩) := HO.out.same (Below.heap_setCell wr _ _ _ (by simp))
                  have HB5 : Hid (Below z w (wr.setCell ⟨z, 1, none⟩ (.int .i64 ((r.at_ : Int) + a)))) := HB.out.setCell (by simp) _
                  go_upto_region 18 with fail
                  generalize wr.setCell ⟨z, 1, none⟩ (.int .i64 ((r.at_ : Int) + a)) = w5 at *
                  clear c0 c1 c2 f1
                  have c0 : w5.cell? ⟨z, 0, none⟩ = some (.string S) := by rw [HS.out]; exact HQ5.out.cell 0
                  have c1 : w5.cell? ⟨z, 1, none⟩ = some (.int .i64 ((r.at_ : Int) + a)) := HQ5.out.cell 1
                  have c2 : w5.cell? ⟨z, 2, none⟩ = some (.int .i64 r.e) := HQ5.out.cell 2
                  have g0 := HO5.out.froz 0
                  have g1 := HO5.out.froz 1
                  have g2 := HO5.out.froz 2
                  have b0 : w5.cell? ⟨z + 1, 0, none⟩ = some (.string ⟨#[]⟩) := HO5.out.cell 0
                  have b1 : w5.cell? ⟨z + 1, 1, none⟩ = some (.int .i64 0) := HO5.out.cell 1
                  have b2 : w5.cell? ⟨z + 1, 2, none⟩ = some (.int .i64 0) := HO5.out.cell 2
                  have HT : Hid (((w5.setCell ⟨z + 1, 0, none⟩ (.string S)).setCell ⟨z + 1, 1, none⟩ (.int .i64 ((r.at_ : Int) + a))).setCell ⟨z + 1, 2, none⟩ (.int .i64 r.e) = w5.setRow (z + 1) (qcells { r with at_ := r.at_ + a })) := by unfold Hid; rw [HS.out]; exact three_set HO5.out { r with at_ := r.at_ + a }
                  have HO6 : Hid (Rq (w5.setRow (z + 1) (qcells { r with at_ := r.at_ + a })) (z + 1) { r with at_ := r.at_ + a }) := HO5.out.put _
                  have HB6 : Hid (Below z w (w5.setRow (z + 1) (qcells { r with at_ := r.at_ + a }))) := below_setRow HB5.out (by omega)
                  go_wp2_with fail
                  rw [HT.out]
                  generalize w5.setRow (z + 1) (qcells { r with at_ := r.at_ + a }) = w6 at *
                  have d0 : w6.cell? ⟨z + 1, 0, none⟩ = some (.string ⟨r.s.toArray⟩) := HO6.out.cell 0
                  have d1 : w6.cell? ⟨z + 1, 1, none⟩ = some (.int .i64 ((r.at_ + a : Nat) : Int)) := HO6.out.cell 1
                  have d2 : w6.cell? ⟨z + 1, 2, none⟩ = some (.int .i64 r.e) := HO6.out.cell 2
                  refine bodyPost_ret (by simp [results, Try.results37, go_sem, d0, d1, d2]; try rfl) rfl ?_
                  exact QP.mk (x := { r with at_ := r.at_ + a }) (by rw [HE.out, HA.out]) (by rw [HE.out]) (by rw [HZ.out]; exact HB6.out)
            have hw1 := hw
            clear hw
            by_cases hw : k = 10
            · have e1 : ((k : Int) == 1) = false := by rw [beq_eq_false_iff_ne]; omega
              have e3 : ((k : Int) == 11) = false := by rw [beq_eq_false_iff_ne]; omega
              have e4 : ((k : Int) == 10) = true := by rw [beq_iff_eq]; omega
              have e5 : ¬ (129 : Int) < (y.toNat : Int) := by have := hnf2 hw; omega
              clear hw hw1 hnf1 hnf2
              go_wp2_with fail
              go_loopw [6, 7] (fun v i wi => ∃ (a n : Nat), v = .int .u64 n ∧ i = .int .i64 a ∧ a ≤ k ∧ Hid (n = gv 0 (D.take a)) ∧ Hid (Rq wi z r) ∧ Hid (Rq wi (z + 1) ⟨[], 0, 0⟩) ∧ Hid (Below z w wi)) (fun _ i _ => k - (Lib.intOf i).toNat)
              case atStart => exact ⟨0, 0, rfl, rfl, by omega, rfl, HQ.out, HO.out, HB.out⟩
              case round =>
                clear c0 c1 c2 HQ HO HB
                obtain ⟨a, n, rfl, rfl, hak, HA, HQ, HO, HB⟩ := hrel
                by_cases hlt2 : a < k
                · have haz : (a : Int) < (k : Int) := by omega
                  have c0 : wr.cell? ⟨z, 0, none⟩ = some (.string S) := by rw [HS.out]; exact HQ.out.cell 0
                  have c1 : wr.cell? ⟨z, 1, none⟩ = some (.int .i64 r.at_) := HQ.out.cell 1
                  have hlt3 : r.at_ + a < S.size := by omega
                  obtain ⟨u, hu⟩ : ∃ u : UInt8, S[r.at_ + a] = u := ⟨_, rfl⟩
                  have hul := u.toNat_lt
                  have hiu : ∀ w : World, (Instr.index 9 (.string S) (.int .i64 ((r.at_ : Int) + a))).run Try.prog w = .ok (.int .u8 (u.toNat : Int)) w := fun w => idx_at hlt3 hu rfl w
                  have hn57 : n < 144115188075855872 := by
                    have h1 := gv_take_le D (show a ≤ k - 1 by omega)
                    have h2 := HM.out
                    rw [HA.out]
                    omega
                  have HA2 : Hid (n * 128 + u.toNat % 128 = gv 0 (D.take (a + 1))) := by
                    unfold Hid
                    rw [take_snoc (by rw [HG.out a hlt3, hu]), gv_snoc, HA.out]
                  clear hu HA
                  go_wp2_with fail
                  exact ⟨⟨a + 1, n * 128 + u.toNat % 128, by rw [Int.natCast_add, Int.natCast_mul]; rfl, by go_num, by omega, HA2.out, HQ.out, HO.out, HB.out⟩, by simp [Lib.intOf]; omega⟩
                · have haz : ¬ (a : Int) < (k : Int) := by omega
                  have hak2 : a = k := by omega
                  subst hak2
                  have c0 : wr.cell? ⟨z, 0, none⟩ = some (.string S) := by rw [HS.out]; exact HQ.out.cell 0
                  have c1 : wr.cell? ⟨z, 1, none⟩ = some (.int .i64 r.at_) := HQ.out.cell 1
                  have c2 : wr.cell? ⟨z, 2, none⟩ = some (.int .i64 r.e) := HQ.out.cell 2
                  have f1 := HQ.out.froz 1
                  have HQ5 : Hid (Rq (wr.setCell ⟨z, 1, none⟩ (.int .i64 ((r.at_ : Int) + a))) z { r with at_ := r.at_ + a }) := HQ.out.setAt (r.at_ + a)
                  have HO5 : Hid (Rq (wr.setCell ⟨z, 1, none⟩ (.int .i64 ((r.at_ : Int) + a))) (z + 1) ⟨[], 0, 0⟩) := HO.out.same (Below.heap_setCell wr _ _ _ (by simp))
                  have HB5 : Hid (Below z w (wr.setCell ⟨z, 1, none⟩ (.int .i64 ((r.at_ : Int) + a)))) := HB.out.setCell (by simp) _
                  go_upto_region 18 with fail
                  generalize wr.setCell ⟨z, 1, none⟩ (.int .i64 ((r.at_ : Int) + a)) = w5 at *
                  clear c0 c1 c2 f1
                  have c0 : w5.cell? ⟨z, 0, none⟩ = some (.string S) := by rw [HS.out]; exact HQ5.out.cell 0
                  have c1 : w5.cell? ⟨z, 1, none⟩ = some (.int .i64 ((r.at_ : Int) + a)) := HQ5.out.cell 1
                  have c2 : w5.cell? ⟨z, 2, none⟩ = some (.int .i64 r.e) := HQ5.out.cell 2
                  have g0 := HO5.out.froz 0
                  have g1 := HO5.out.froz 1
                  have g2 := HO5.out.froz 2
                  have b0 : w5.cell? ⟨z + 1, 0, none⟩ = some (.string ⟨#[]⟩) := HO5.out.cell 0
                  have b1 : w5.cell? ⟨z + 1, 1, none⟩ = some (.int .i64 0) := HO5.out.cell 1
                  have b2 : w5.cell? ⟨z + 1, 2, none⟩ = some (.int .i64 0) := HO5.out.cell 2
                  have HT : Hid (((w5.setCell ⟨z + 1, 0, none⟩ (.string S)).setCell ⟨z + 1, 1, none⟩ (.int .i64 ((r.at_ : Int) + a))).setCell ⟨z + 1, 2, none⟩ (.int .i64 r.e) = w5.setRow (z + 1) (qcells { r with at_ := r.at_ + a })) := by unfold Hid; rw [HS.out]; exact three_set HO5.out { r with at_ := r.at_ + a }
                  have HO6 : Hid (Rq (w5.setRow (z + 1) (qcells { r with at_ := r.at_ + a })) (z + 1) { r with at_ := r.at_ + a }) := HO5.out.put _
                  have HB6 : Hid (Below z w (w5.setRow (z + 1) (qcells { r with at_ := r.at_ + a }))) := below_setRow HB5.out (by omega)
                  go_wp2_with fail
                  rw [HT.out]
                  generalize w5.setRow (z + 1) (qcells { r with at_ := r.at_ + a }) = w6 at *
                  have d0 : w6.cell? ⟨z + 1, 0, none⟩ = some (.string ⟨r.s.toArray⟩) := HO6.out.cell 0
                  have d1 : w6.cell? ⟨z + 1, 1, none⟩ = some (.int .i64 ((r.at_ + a : Nat) : Int)) := HO6.out.cell 1
                  have d2 : w6.cell? ⟨z + 1, 2, none⟩ = some (.int .i64 r.e) := HO6.out.cell 2
                  refine bodyPost_ret (by simp [results, Try.results37, go_sem, d0, d1, d2]; try rfl) rfl ?_
                  exact QP.mk (x := { r with at_ := r.at_ + a }) (by rw [HE.out, HA.out]) (by rw [HE.out]) (by rw [HZ.out]; exact HB6.out)
            have hw2 := hw
            clear hw
            have e1 : ((k : Int) == 1) = false := by rw [beq_eq_false_iff_ne]; omega
            have e3 : ((k : Int) == 11) = false := by rw [beq_eq_false_iff_ne]; omega
            have e4 : ((k : Int) == 10) = false := by rw [beq_eq_false_iff_ne]; omega
            clear hw1 hw2 hnf1 hnf2
            go_wp2_with fail
            go_loopw [6, 7] (fun v i wi => ∃ (a n : Nat), v = .int .u64 n ∧ i = .int .i64 a ∧ a ≤ k ∧ Hid (n = gv 0 (D.take a)) ∧ Hid (Rq wi z r) ∧ Hid (Rq wi (z + 1) ⟨[], 0, 0⟩) ∧ Hid (Below z w wi)) (fun _ i _ => k - (Lib.intOf i).toNat)
            case atStart => exact ⟨0, 0, rfl, rfl, by omega, rfl, HQ.out, HO.out, HB.out⟩
            case round =>
              clear c0 c1 c2 HQ HO HB
              obtain ⟨a, n, rfl, rfl, hak, HA, HQ, HO, HB⟩ := hrel
              by_cases hlt2 : a < k
              · have haz : (a : Int) < (k : Int) := by omega
                have c0 : wr.cell? ⟨z, 0, none⟩ = some (.string S) := by rw [HS.out]; exact HQ.out.cell 0
                have c1 : wr.cell? ⟨z, 1, none⟩ = some (.int .i64 r.at_) := HQ.out.cell 1
                have hlt3 : r.at_ + a < S.size := by omega
                obtain ⟨u, hu⟩ : ∃ u : UInt8, S[r.at_ + a] = u := ⟨_, rfl⟩
                have hul := u.toNat_lt
                have hiu : ∀ w : World, (Instr.index 9 (.string S) (.int .i64 ((r.at_ : Int) + a))).run Try.prog w = .ok (.int .u8 (u.toNat : Int)) w := fun w => idx_at hlt3 hu rfl w
                have hn57 : n < 144115188075855872 := by
                  have h1 := gv_take_le D (show a ≤ k - 1 by omega)
                  have h2 := HM.out
                  rw [HA.out]
                  omega
                have HA2 : Hid (n * 128 + u.toNat % 128 = gv 0 (D.take (a + 1))) := by
                  unfold Hid
                  rw [take_snoc (by rw [HG.out a hlt3, hu]), gv_snoc, HA.out]
                clear hu HA
                go_wp2_with fail
                exact ⟨⟨a + 1, n * 128 + u.toNat % 128, by rw [Int.natCast_add, Int.natCast_mul]; rfl, by go_num, by omega, HA2.out, HQ.out, HO.out, HB.out⟩, by simp [Lib.intOf]; omega⟩
              · have haz : ¬ (a : Int) < (k : Int) := by omega
                have hak2 : a = k := by omega
                subst hak2
                have c0 : wr.cell? ⟨z, 0, none⟩ = some (.string S) := by rw [HS.out]; exact HQ.out.cell 0
                have c1 : wr.cell? ⟨z, 1, none⟩ = some (.int .i64 r.at_) := HQ.out.cell 1
                have c2 : wr.cell? ⟨z, 2, none⟩ = some (.int .i64 r.e) := HQ.out.cell 2
                have f1 := HQ.out.froz 1
                have HQ5 : Hid (Rq (wr.setCell ⟨z, 1, none⟩ (.int .i64 ((r.at_ : Int) + a))) z { r with at_ := r.at_ + a }) := HQ.out.setAt (r.at_ + a)
                have HO5 : Hid (Rq (wr.setCell ⟨z, 1, none⟩ (.int .i64 ((r.at_ : Int) + a))) (z + 1) ⟨[], 0, 0⟩) := HO.out.same (Below.heap_setCell wr _ _ _ (by simp))
                have HB5 : Hid (Below z w (wr.setCell ⟨z, 1, none⟩ (.int .i64 ((r.at_ : Int) + a)))) := HB.out.setCell (by simp) _
                go_upto_region 18 with fail
                generalize wr.setCell ⟨z, 1, none⟩ (.int .i64 ((r.at_ : Int) + a)) = w5 at *
                clear c0 c1 c2 f1
                have c0 : w5.cell? ⟨z, 0, none⟩ = some (.string S) := by rw [HS.out]; exact HQ5.out.cell 0
                have c1 : w5.cell? ⟨z, 1, none⟩ = some (.int .i64 ((r.at_ : Int) + a)) := HQ5.out.cell 1
                have c2 : w5.cell? ⟨z, 2, none⟩ = some (.int .i64 r.e) := HQ5.out.cell 2
                have g0 := HO5.out.froz 0
                have g1 := HO5.out.froz 1
                have g2 := HO5.out.froz 2
                have b0 : w5.cell? ⟨z + 1, 0, none⟩ = some (.string ⟨#[]⟩) := HO5.out.cell 0
                have b1 : w5.cell? ⟨z + 1, 1, none⟩ = some (.int .i64 0) := HO5.out.cell 1
                have b2 : w5.cell? ⟨z + 1, 2, none⟩ = some (.int .i64 0) := HO5.out.cell 2
                have HT : Hid (((w5.setCell ⟨z + 1, 0, none⟩ (.string S)).setCell ⟨z + 1, 1, none⟩ (.int .i64 ((r.at_ : Int) + a))).setCell ⟨z + 1, 2, none⟩ (.int .i64 r.e) = w5.setRow (z + 1) (qcells { r with at_ := r.at_ + a })) := by unfold Hid; rw [HS.out]; exact three_set HO5.out { r with at_ := r.at_ + a }
                have HO6 : Hid (Rq (w5.setRow (z + 1) (qcells { r with at_ := r.at_ + a })) (z + 1) { r with at_ := r.at_ + a }) := HO5.out.put _
                have HB6 : Hid (Below z w (w5.setRow (z + 1) (qcells { r with at_ := r.at_ + a }))) := below_setRow HB5.out (by omega)
                go_wp2_with fail
                rw [HT.out]
                generalize w5.setRow (z + 1) (qcells { r with at_ := r.at_ + a }) = w6 at *
                have d0 : w6.cell? ⟨z + 1, 0, none⟩ = some (.string ⟨r.s.toArray⟩) := HO6.out.cell 0
                have d1 : w6.cell? ⟨z + 1, 1, none⟩ = some (.int .i64 ((r.at_ + a : Nat) : Int)) := HO6.out.cell 1
                have d2 : w6.cell? ⟨z + 1, 2, none⟩ = some (.int .i64 r.e) := HO6.out.cell 2
                refine bodyPost_ret (by simp [results, Try.results37, go_sem, d0, d1, d2]; try rfl) rfl ?_
                exact QP.mk (x := { r with at_ := r.at_ + a }) (by rw [HE.out, HA.out]) (by rw [HE.out]) (by rw [HZ.out]; exact HB6.out)
          · have hcz : ¬ (x.toNat : Int) < 128 := by omega
            have HJ2 : Hid (Jn D (k + 1 - 1)) := by
              unfold Hid
              have := HJ.out.more HX.out h0 HM.out (by omega) hc
              rw [show k - 1 + 1 = k + 1 - 1 by omega] at this
              exact this
            clear hf h0
            by_cases hw : k = 1
            · have e1 : ((k : Int) == 1) = true := by rw [beq_iff_eq]; omega
              have e2 : ((x.toNat : Int) == 128) = false := by rw [beq_eq_false_iff_ne]; have := hnf1 hw; omega
              have e3 : ((k : Int) == 11) = false := by rw [beq_eq_false_iff_ne]; omega
              have e4 : ((k : Int) == 10) = false := by rw [beq_eq_false_iff_ne]; omega
              clear hw hnf1 hnf2
              go_wp2_with fail
              exact ⟨⟨k + 1, by go_num, by omega, by omega, HJ2.out, HQ.out, HO.out, HB.out⟩, by have := HN.out; simp [Lib.intOf]; omega⟩
            have hw1 := hw
            clear hw
            by_cases hw : k = 10
            · have e1 : ((k : Int) == 1) = false := by rw [beq_eq_false_iff_ne]; omega
              have e3 : ((k : Int) == 11) = false := by rw [beq_eq_false_iff_ne]; omega
              have e4 : ((k : Int) == 10) = true := by rw [beq_iff_eq]; omega
              have e5 : ¬ (129 : Int) < (y.toNat : Int) := by have := hnf2 hw; omega
              clear hw hw1 hnf1 hnf2
              go_wp2_with fail
              exact ⟨⟨k + 1, by go_num, by omega, by omega, HJ2.out, HQ.out, HO.out, HB.out⟩, by have := HN.out; simp [Lib.intOf]; omega⟩
            have hw2 := hw
            clear hw
            have e1 : ((k : Int) == 1) = false := by rw [beq_eq_false_iff_ne]; omega
            have e3 : ((k : Int) == 11) = false := by rw [beq_eq_false_iff_ne]; omega
            have e4 : ((k : Int) == 10) = false := by rw [beq_eq_false_iff_ne]; omega
            clear hw1 hw2 hnf1 hnf2
            go_wp2_with fail
            exact ⟨⟨k + 1, by go_num, by omega, by omega, HJ2.out, HQ.out, HO.out, HB.out⟩, by have := HN.out; simp [Lib.intOf]; omega⟩
  · have hz : ((r.e : Int) != 0) = true := by rw [bne_iff_ne]; omega
    have HU : Hid (rUint r = (r, 0)) := rUint_bad h0
    unfold QP
    rw [HU.out]
    unfold qcells
    generalize (⟨r.s.toArray⟩ : ByteArray) = S
    generalize r.at_ = a
    clear HU
    go_enter Try.func37, Try.ntmps37
    go_wp2_with fail
    go_returns
    exact ⟨rfl, (below_new w _).alloc (by simp) _⟩
end Go.Proofs.Ytgdoeflnfcjefaa
