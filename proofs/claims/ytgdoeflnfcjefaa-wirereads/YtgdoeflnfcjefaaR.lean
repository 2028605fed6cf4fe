/- The reference's reader: Bool, End. -/
import Derived.Test.YtgdoeflnfcjefaaQ
import Derived.WalkKit
import Derived.ProofKit
import Derived.Handy
import Derived.WalkLawsBesides
import Derived.WalkSpells
import Derived.BigQuiet
import Derived.BigCall
import Derived.Deep.QuietTactic
import Derived.Deep.Light
import Derived.Deep.OwnRows
import Derived.Laws.AppendOwnNone
import Derived.Laws.Strings3
import Derived.Laws.RangeAny
import Derived.Deep.RegionWith
import Derived.Lib.BitFns
import Derived.Lib.Walk
import Derived.Lib.Strings
import Derived.Lib.OthersKept
import Derived.Deep.CutBlock
import Derived.Deep.DeepCutAuto
import Derived.Deep.LoopGhost
import Derived.Deep.RegionHeld3
import Derived.Lib.SmallJoins
import Derived.Maps.AppendAt
import Derived.Laws.IdiomStrings
import Derived.Lib.AppendZeros
import Derived.Deep.WholeRow
import Derived.Laws.BitsAllLaws
import Derived.Lib.ConvBytes
import Derived.Deep.RegionLaw
namespace Go.Proofs.Ytgdoeflnfcjefaa
open Go.RowKit
set_option linter.unusedVariables false
set_option linter.unusedSimpArgs false
theorem rBool_short {r : Rd} (h0 : r.e = 0) (h : r.s.length ≤ r.at_) : rBool r = (r.fl 14, false) := by
  unfold rBool Rd.fl
  rw [if_neg (by simpa using h0), if_pos h0, List.getElem?_eq_none h]
theorem rBool_at2 {r : Rd} (h0 : r.e = 0) {c : UInt8} (h : r.s[r.at_]? = some c) : rBool r = if 1 < c.toNat then (r.fl 15, false) else ({ r with at_ := r.at_ + 1 }, c.toNat == 1) := by
  unfold rBool Rd.fl
  rw [if_neg (by simpa using h0), if_pos h0, h]
theorem QP.lit {v u : Value} {r x : Rd} {S : ByteArray} {a e : Int} {w w' : World} (hS : S = ⟨r.s.toArray⟩) (hx : x.s = r.s) (ha : a = x.at_) (he : e = x.e) (hv : u = v) (hb : Below w.heap.size w w') : QP v x w (.returned (.tuple #[.agg #[.string S, .int .i64 a, .int .i64 e], u])) w' := by
  refine ⟨?_, hb⟩
  rw [qlit hS hx, ha, he, hv]
theorem beq_e (n : Nat) : ((n : Int) == 0) = (n == 0) := by
  by_cases h : n = 0
  · rw [h]; rfl
  · rw [show (n == 0) = false by simpa using h, beq_eq_false_iff_ne]; omega
set_option maxHeartbeats 4000000 in
theorem qend (r : Rd) (hr : r.at_ ≤ r.s.length) (hs : r.s.length ≤ 1099511627776) (w : World) : Calls Try.prog 43 #[.agg (qcells r)] w (QP (.bool (rEnd r).2) (rEnd r).1 w) := by
  obtain ⟨S, HS⟩ : ∃ S : ByteArray, Hid (S = ⟨r.s.toArray⟩) := ⟨_, rfl⟩
  have HF : Hid (∀ (e : Nat) (w : World), Calls Try.prog 48 #[.agg #[.string S, .int .i64 r.at_, .int .i64 r.e], .int .i64 e] w fun x w' => x = .returned (.agg #[.string S, .int .i64 (r.fl e).at_, .int .i64 (r.fl e).e]) ∧ Hid (Below w.heap.size w w')) := fun e w => ffl HS.out e w
  have hSz : S.size = r.s.length := by rw [HS.out]; rfl
  have hs2 : S.size ≤ 1099511627776 := by omega
  have ha : r.at_ ≤ S.size := by omega
  by_cases hl : r.at_ < S.size
  · have hlz : (r.at_ : Int) < (S.size : Int) := by omega
    have HI : Hid (rEnd r = (r.fl 16, (r.fl 16).e == 0)) := by unfold Hid rEnd; rw [if_pos (by omega)]
    have HX : Hid ((r.fl 16).s = r.s) := fl_s r 16
    have HFC : Hid (∀ (w : World), Calls Try.prog 48 #[.agg #[.string S, .int .i64 r.at_, .int .i64 r.e], .int .i64 16] w fun x w' => x = .returned (.agg #[.string S, .int .i64 (r.fl 16).at_, .int .i64 (r.fl 16).e]) ∧ Hid (Below w.heap.size w w')) := fun w => HF.out 16 w
    have HN := Rq.new2 w r
    have HB0 : Hid (Below w.heap.size w ((w.alloc (.cells (qcells r) 39)).alloc (.cells (qcells ⟨[], 0, 0⟩) 39))) := HN.2.2
    have HQ0 : Hid (Rq ((w.alloc (.cells (qcells r) 39)).alloc (.cells (qcells ⟨[], 0, 0⟩) 39)) w.heap.size r) := HN.1
    have HO0 : Hid (Rq ((w.alloc (.cells (qcells r) 39)).alloc (.cells (qcells ⟨[], 0, 0⟩) 39)) (w.heap.size + 1) ⟨[], 0, 0⟩) := HN.2.1
    clear HN
    clear hSz hr hs HF
    generalize r.fl 16 = X at *
    go_enter Try.func43, Try.ntmps43
    go_upto_region 1 with fail
    show Code.wp _ _ _ _ ((w.alloc (.cells (qcells r) 39)).alloc (.cells (qcells ⟨[], 0, 0⟩) 39))
    generalize (w.alloc (.cells (qcells r) 39)).alloc (.cells (qcells ⟨[], 0, 0⟩) 39) = wA at *
    generalize hZ : w.heap.size = z at *
    have HZ : Hid (w.heap.size = z) := hZ
    clear hZ
    have c0 : wA.cell? ⟨z, 0, none⟩ = some (.string S) := by rw [HS.out]; exact HQ0.out.cell 0
    have c1 : wA.cell? ⟨z, 1, none⟩ = some (.int .i64 r.at_) := HQ0.out.cell 1
    have c2 : wA.cell? ⟨z, 2, none⟩ = some (.int .i64 r.e) := HQ0.out.cell 2
    go_wp2_with fail
    refine (HFC.out _).mono ?_
    rintro e w3 ⟨rfl, HB3⟩
    have HQ3 : Hid (Rq w3 z r) := HQ0.out.keep HB3.out
    have HO3 : Hid (Rq w3 (z + 1) ⟨[], 0, 0⟩) := HO0.out.keep HB3.out
    have hAz : z ≤ wA.heap.size := by have := HB0.out.size; rw [HZ.out] at this; exact this
    have HB4 : Hid (Below z w w3) := HB0.out.trans (HB3.out.mono hAz)
    clear c0 c1 c2 hAz
    have c0 : w3.cell? ⟨z, 0, none⟩ = some (.string S) := by rw [HS.out]; exact HQ3.out.cell 0
    have c1 : w3.cell? ⟨z, 1, none⟩ = some (.int .i64 r.at_) := HQ3.out.cell 1
    have c2 : w3.cell? ⟨z, 2, none⟩ = some (.int .i64 r.e) := HQ3.out.cell 2
    have f0 := HQ3.out.froz 0
    have f1 := HQ3.out.froz 1
    have f2 := HQ3.out.froz 2
    have HT3 : Hid (((w3.setCell ⟨z, 0, none⟩ (.string S)).setCell ⟨z, 1, none⟩ (.int .i64 X.at_)).setCell ⟨z, 2, none⟩ (.int .i64 X.e) = w3.setRow z (qcells X)) := three_lit HQ3.out HS.out HX.out
    have HQ5 : Hid (Rq (w3.setRow z (qcells X)) z X) := HQ3.out.put X
    have HO5 : Hid (Rq (w3.setRow z (qcells X)) (z + 1) ⟨[], 0, 0⟩) := HO3.out.aside (by omega)
    have HB5 : Hid (Below z w (w3.setRow z (qcells X))) := below_setRow HB4.out (Nat.le_refl _)
    go_upto_region 3 with fail
    rw [HT3.out]
    generalize w3.setRow z (qcells X) = w5 at *
    clear c0 c1 c2 f0 f1 f2 HT3 HQ3 HO3 HB4 HB3 HQ0 HO0 HB0
    have c0 : w5.cell? ⟨z, 0, none⟩ = some (.string S) := by rw [HS.out, ← HX.out]; exact HQ5.out.cell 0
    have c1 : w5.cell? ⟨z, 1, none⟩ = some (.int .i64 X.at_) := HQ5.out.cell 1
    have c2 : w5.cell? ⟨z, 2, none⟩ = some (.int .i64 X.e) := HQ5.out.cell 2
    have g0 := HO5.out.froz 0
    have g1 := HO5.out.froz 1
    have g2 := HO5.out.froz 2
    have b0 : w5.cell? ⟨z + 1, 0, none⟩ = some (.string ⟨#[]⟩) := HO5.out.cell 0
    have b1 : w5.cell? ⟨z + 1, 1, none⟩ = some (.int .i64 0) := HO5.out.cell 1
    have b2 : w5.cell? ⟨z + 1, 2, none⟩ = some (.int .i64 0) := HO5.out.cell 2
    have HT : Hid (((w5.setCell ⟨z + 1, 0, none⟩ (.string S)).setCell ⟨z + 1, 1, none⟩ (.int .i64 X.at_)).setCell ⟨z + 1, 2, none⟩ (.int .i64 X.e) = w5.setRow (z + 1) (qcells X)) := three_lit HO5.out HS.out HX.out
    have HO9 : Hid (Rq (w5.setRow (z + 1) (qcells X)) (z + 1) X) := HO5.out.put _
    have HB9 : Hid (Below z w (w5.setRow (z + 1) (qcells X))) := below_setRow HB5.out (by omega)
    have HOd : Hid (Rq (w5.setRow (z + 1) (qcells X)).drew (z + 1) X) := HO9.out.same rfl
    have HBd : Hid (Below z w (w5.setRow (z + 1) (qcells X)).drew) := bdrew HB9.out 1
    go_region
    rw [HT.out]
    generalize (w5.setRow (z + 1) (qcells X)).drew = w9 at *
    have d0 : w9.cell? ⟨z + 1, 0, none⟩ = some (.string ⟨X.s.toArray⟩) := HOd.out.cell 0
    have d1 : w9.cell? ⟨z + 1, 1, none⟩ = some (.int .i64 X.at_) := HOd.out.cell 1
    have d2 : w9.cell? ⟨z + 1, 2, none⟩ = some (.int .i64 X.e) := HOd.out.cell 2
    clear HT HO9 HB9 b0 b1 b2 g0 g1 g2 c0 c1 c2
    go_wp2_with fail
    refine bodyPost_ret (by simp [results, Try.results43, go_sem, d0, d1, d2]; try rfl) rfl ?_
    exact QP.mk (x := X) (by rw [HI.out]; exact congrArg Value.bool (beq_e _)) (by rw [HI.out]) (by rw [HZ.out]; exact HBd.out)
  · have hlz : ¬ (r.at_ : Int) < (S.size : Int) := by omega
    have HI : Hid (rEnd r = (r, r.e == 0)) := by unfold Hid rEnd; rw [if_neg (by omega)]
    have HQ : Hid (qcells r = #[.string S, .int .i64 r.at_, .int .i64 r.e]) := qlit HS.out rfl
    rw [HQ.out]
    clear hSz hr hs
    go_enter Try.func43, Try.ntmps43
    go_wp2_with fail
    go_region
    go_wp2_with fail
    go_returns
    exact QP.lit HS.out (by rw [HI.out]) (by rw [HI.out]) (by rw [HI.out]) (by rw [HI.out]; exact congrArg Value.bool (beq_e _)) (by first | exact (((below_new w _).alloc (by simp) _).drew) | exact bdrew ((below_new w _).alloc (by simp) _) 1)
set_option maxHeartbeats 4000000 in
theorem qbool (r : Rd) (hr : r.at_ ≤ r.s.length) (hs : r.s.length ≤ 1099511627776) (w : World) : Calls Try.prog 40 #[.agg (qcells r)] w (QP (.bool (rBool r).2) (rBool r).1 w) := by
  obtain ⟨S, HS⟩ : ∃ S : ByteArray, Hid (S = ⟨r.s.toArray⟩) := ⟨_, rfl⟩
  have HF : Hid (∀ (e : Nat) (w : World), Calls Try.prog 48 #[.agg #[.string S, .int .i64 r.at_, .int .i64 r.e], .int .i64 e] w fun x w' => x = .returned (.agg #[.string S, .int .i64 (r.fl e).at_, .int .i64 (r.fl e).e]) ∧ Hid (Below w.heap.size w w')) := fun e w => ffl HS.out e w
  have hSz : S.size = r.s.length := by rw [HS.out]; rfl
  have hs2 : S.size ≤ 1099511627776 := by omega
  have ha : r.at_ ≤ S.size := by omega
  by_cases h0 : r.e = 0
  · have hz : ((r.e : Int) != 0) = false := by rw [h0]; rfl
    by_cases hl : r.at_ < S.size
    · have hlz : ¬ (S.size : Int) ≤ (r.at_ : Int) := by omega
      obtain ⟨x, hx⟩ : ∃ x : UInt8, S[r.at_] = x := ⟨_, rfl⟩
      have hxl := x.toNat_lt
      have hiy : ∀ w : World, (Instr.index 9 (.string S) (.int .i64 (r.at_ : Int))).run Try.prog w = .ok (.int .u8 (x.toNat : Int)) w := fun w => idx_at hl hx rfl w
      have HG : Hid (rBool r = if 1 < x.toNat then (r.fl 15, false) else ({ r with at_ := r.at_ + 1 }, x.toNat == 1)) := rBool_at2 h0 (by
        rw [List.getElem?_eq_getElem (by omega), ← hx]
        simp only [HS.out]
        rfl)
      clear hx
      by_cases hc : 1 < x.toNat
      · have hcz : (1 : Int) < (x.toNat : Int) := by omega
        have HD : Hid (rBool r = (r.fl 15, false)) := by unfold Hid; rw [HG.out, if_pos hc]
        have HN := Rq.new2 w r
        have HB0 : Hid (Below w.heap.size w ((w.alloc (.cells (qcells r) 39)).alloc (.cells (qcells ⟨[], 0, 0⟩) 39))) := HN.2.2
        have HQ0 : Hid (Rq ((w.alloc (.cells (qcells r) 39)).alloc (.cells (qcells ⟨[], 0, 0⟩) 39)) w.heap.size r) := HN.1
        have HO0 : Hid (Rq ((w.alloc (.cells (qcells r) 39)).alloc (.cells (qcells ⟨[], 0, 0⟩) 39)) (w.heap.size + 1) ⟨[], 0, 0⟩) := HN.2.1
        clear HN
        clear hSz hr hs h0
        go_enter Try.func40, Try.ntmps40
        go_upto_region 1 with fail
        show Code.wp _ _ _ _ ((w.alloc (.cells (qcells r) 39)).alloc (.cells (qcells ⟨[], 0, 0⟩) 39))
        generalize (w.alloc (.cells (qcells r) 39)).alloc (.cells (qcells ⟨[], 0, 0⟩) 39) = wA at *
        generalize hZ : w.heap.size = z at *
        have HZ : Hid (w.heap.size = z) := hZ
        clear hZ
        have c0 : wA.cell? ⟨z, 0, none⟩ = some (.string S) := by rw [HS.out]; exact HQ0.out.cell 0
        have c1 : wA.cell? ⟨z, 1, none⟩ = some (.int .i64 r.at_) := HQ0.out.cell 1
        have c2 : wA.cell? ⟨z, 2, none⟩ = some (.int .i64 r.e) := HQ0.out.cell 2
        go_wp2_with fail
        refine (HF.out 15 _).mono ?_
        rintro e w6 ⟨rfl, HB6⟩
        have HO6 : Hid (Rq w6 (z + 1) ⟨[], 0, 0⟩) := HO0.out.keep HB6.out
        have h5z : z ≤ wA.heap.size := by have := HB0.out.size; rw [HZ.out] at this; exact this
        have HB7 : Hid (Below z w w6) := HB0.out.trans (HB6.out.mono h5z)
        have HXf : Hid ((r.fl 15).s = r.s) := fl_s r 15
        clear HF c0 c1 c2 HQ0
        generalize r.fl 15 = Z at *
        have g0 := HO6.out.froz 0
        have g1 := HO6.out.froz 1
        have g2 := HO6.out.froz 2
        have b0 : w6.cell? ⟨z + 1, 0, none⟩ = some (.string ⟨#[]⟩) := HO6.out.cell 0
        have b1 : w6.cell? ⟨z + 1, 1, none⟩ = some (.int .i64 0) := HO6.out.cell 1
        have b2 : w6.cell? ⟨z + 1, 2, none⟩ = some (.int .i64 0) := HO6.out.cell 2
        have HT : Hid (((w6.setCell ⟨z + 1, 0, none⟩ (.string S)).setCell ⟨z + 1, 1, none⟩ (.int .i64 Z.at_)).setCell ⟨z + 1, 2, none⟩ (.int .i64 Z.e) = w6.setRow (z + 1) (qcells Z)) := three_lit HO6.out HS.out HXf.out
        have HO9 : Hid (Rq (w6.setRow (z + 1) (qcells Z)) (z + 1) Z) := HO6.out.put _
        have HB9 : Hid (Below z w (w6.setRow (z + 1) (qcells Z))) := below_setRow HB7.out (by omega)
        go_wp2_with fail
        rw [HT.out]
        generalize w6.setRow (z + 1) (qcells Z) = w9 at *
        have d0 : w9.cell? ⟨z + 1, 0, none⟩ = some (.string ⟨Z.s.toArray⟩) := HO9.out.cell 0
        have d1 : w9.cell? ⟨z + 1, 1, none⟩ = some (.int .i64 Z.at_) := HO9.out.cell 1
        have d2 : w9.cell? ⟨z + 1, 2, none⟩ = some (.int .i64 Z.e) := HO9.out.cell 2
        refine bodyPost_ret (by simp [results, Try.results40, go_sem, d0, d1, d2]; try rfl) rfl ?_
        exact QP.mk (x := Z) (by rw [HD.out]) (by rw [HD.out]) (by rw [HZ.out]; exact HB9.out)
      · have hcz : ¬ (1 : Int) < (x.toNat : Int) := by omega
        have HD : Hid (rBool r = ({ r with at_ := r.at_ + 1 }, x.toNat == 1)) := by unfold Hid; rw [HG.out, if_neg hc]
        have HB : Hid (((x.toNat : Int) == 1) = (x.toNat == 1)) := by
          unfold Hid
          by_cases h1 : x.toNat = 1
          · rw [h1]; rfl
          · rw [show (x.toNat == 1) = false by simpa using h1]; rw [beq_eq_false_iff_ne]; omega
        have HQ : Hid (qcells r = #[.string S, .int .i64 r.at_, .int .i64 r.e]) := qlit HS.out rfl
        rw [HQ.out]
        clear hSz hr hs h0 HG hc
        go_enter Try.func40, Try.ntmps40
        go_wp2_with fail
        go_region
        go_wp2_with fail
        go_returns
        exact QP.lit HS.out (by rw [HD.out]) (by rw [HD.out]; rfl) (by rw [HD.out]) (by rw [HD.out]; exact congrArg Value.bool HB.out) (by first | exact bdrew ((below_new w _).alloc (by simp) _) 1)
    · have hlz : (S.size : Int) ≤ (r.at_ : Int) := by omega
      have HD : Hid (rBool r = (r.fl 14, false)) := rBool_short h0 (by omega)
      have HN := Rq.new2 w r
      have HB0 : Hid (Below w.heap.size w ((w.alloc (.cells (qcells r) 39)).alloc (.cells (qcells ⟨[], 0, 0⟩) 39))) := HN.2.2
      have HQ0 : Hid (Rq ((w.alloc (.cells (qcells r) 39)).alloc (.cells (qcells ⟨[], 0, 0⟩) 39)) w.heap.size r) := HN.1
      have HO0 : Hid (Rq ((w.alloc (.cells (qcells r) 39)).alloc (.cells (qcells ⟨[], 0, 0⟩) 39)) (w.heap.size + 1) ⟨[], 0, 0⟩) := HN.2.1
      clear HN
      clear hSz hr hs h0
      go_enter Try.func40, Try.ntmps40
      go_upto_region 1 with fail
      show Code.wp _ _ _ _ ((w.alloc (.cells (qcells r) 39)).alloc (.cells (qcells ⟨[], 0, 0⟩) 39))
      generalize (w.alloc (.cells (qcells r) 39)).alloc (.cells (qcells ⟨[], 0, 0⟩) 39) = wA at *
      generalize hZ : w.heap.size = z at *
      have HZ : Hid (w.heap.size = z) := hZ
      clear hZ
      have c0 : wA.cell? ⟨z, 0, none⟩ = some (.string S) := by rw [HS.out]; exact HQ0.out.cell 0
      have c1 : wA.cell? ⟨z, 1, none⟩ = some (.int .i64 r.at_) := HQ0.out.cell 1
      have c2 : wA.cell? ⟨z, 2, none⟩ = some (.int .i64 r.e) := HQ0.out.cell 2
      go_wp2_with fail
      refine (HF.out 14 _).mono ?_
      rintro e w6 ⟨rfl, HB6⟩
      have HO6 : Hid (Rq w6 (z + 1) ⟨[], 0, 0⟩) := HO0.out.keep HB6.out
      have h5z : z ≤ wA.heap.size := by have := HB0.out.size; rw [HZ.out] at this; exact this
      have HB7 : Hid (Below z w w6) := HB0.out.trans (HB6.out.mono h5z)
      have HXf : Hid ((r.fl 14).s = r.s) := fl_s r 14
      clear HF c0 c1 c2 HQ0
      generalize r.fl 14 = Z at *
      have g0 := HO6.out.froz 0
      have g1 := HO6.out.froz 1
      have g2 := HO6.out.froz 2
      have b0 : w6.cell? ⟨z + 1, 0, none⟩ = some (.string ⟨#[]⟩) := HO6.out.cell 0
      have b1 : w6.cell? ⟨z + 1, 1, none⟩ = some (.int .i64 0) := HO6.out.cell 1
      have b2 : w6.cell? ⟨z + 1, 2, none⟩ = some (.int .i64 0) := HO6.out.cell 2
      have HT : Hid (((w6.setCell ⟨z + 1, 0, none⟩ (.string S)).setCell ⟨z + 1, 1, none⟩ (.int .i64 Z.at_)).setCell ⟨z + 1, 2, none⟩ (.int .i64 Z.e) = w6.setRow (z + 1) (qcells Z)) := three_lit HO6.out HS.out HXf.out
      have HO9 : Hid (Rq (w6.setRow (z + 1) (qcells Z)) (z + 1) Z) := HO6.out.put _
      have HB9 : Hid (Below z w (w6.setRow (z + 1) (qcells Z))) := below_setRow HB7.out (by omega)
      go_wp2_with fail
      rw [HT.out]
      generalize w6.setRow (z + 1) (qcells Z) = w9 at *
      have d0 : w9.cell? ⟨z + 1, 0, none⟩ = some (.string ⟨Z.s.toArray⟩) := HO9.out.cell 0
      have d1 : w9.cell? ⟨z + 1, 1, none⟩ = some (.int .i64 Z.at_) := HO9.out.cell 1
      have d2 : w9.cell? ⟨z + 1, 2, none⟩ = some (.int .i64 Z.e) := HO9.out.cell 2
      refine bodyPost_ret (by simp [results, Try.results40, go_sem, d0, d1, d2]; try rfl) rfl ?_
      exact QP.mk (x := Z) (by rw [HD.out]) (by rw [HD.out]) (by rw [HZ.out]; exact HB9.out)
  · have hz : ((r.e : Int) != 0) = true := by rw [bne_iff_ne]; omega
    have HD : Hid (rBool r = (r, false)) := rBool_bad h0
    have HQ : Hid (qcells r = #[.string S, .int .i64 r.at_, .int .i64 r.e]) := qlit HS.out rfl
    rw [HQ.out]
    clear hSz hr hs h0 HF
    go_enter Try.func40, Try.ntmps40
    go_wp2_with fail
    go_returns
    exact QP.lit HS.out (by rw [HD.out]) (by rw [HD.out]) (by rw [HD.out]) (by rw [HD.out]) ((below_new w _).alloc (by simp) _)
end Go.Proofs.Ytgdoeflnfcjefaa
