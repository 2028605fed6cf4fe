/- The reference's reader: Int, Count, End, Bool. -/
import Derived.Test.YtgdoeflnfcjefaaP2
import Derived.WalkKit
import Derived.ProofKit
import Derived.Handy
import Derived.WalkLawsBesides
import Derived.WalkSpells
import Derived.BigQuiet
import Derived.BigCall
import Derived.Deep.QuietTactic
import Derived.Deep.Light
import Derived.Deep.OwnRows
import Derived.Laws.AppendOwnNone
import Derived.Laws.Strings3
import Derived.Laws.RangeAny
import Derived.Deep.RegionWith
import Derived.Lib.BitFns
import Derived.Lib.Walk
import Derived.Lib.Strings
import Derived.Lib.OthersKept
import Derived.Deep.CutBlock
import Derived.Deep.DeepCutAuto
import Derived.Deep.LoopGhost
import Derived.Deep.RegionHeld3
import Derived.Lib.SmallJoins
import Derived.Maps.AppendAt
import Derived.Laws.IdiomStrings
import Derived.Lib.AppendZeros
import Derived.Deep.WholeRow
import Derived.Laws.BitsAllLaws
import Derived.Lib.ConvBytes
import Derived.Deep.RegionLaw
namespace Go.Proofs.Ytgdoeflnfcjefaa
open Go.RowKit
set_option linter.unusedVariables false
set_option linter.unusedSimpArgs false
theorem rUint_s {r : Rd} (h : r.at_ ≤ r.s.length) : (rUint r).1.s = r.s := (rUint_ok (show r.Ok from h)).2.1
theorem qlit {r : Rd} {S : ByteArray} (hS : S = ⟨r.s.toArray⟩) {X : Rd} (hX : X.s = r.s) : qcells X = #[.string S, .int .i64 X.at_, .int .i64 X.e] := by
  rw [hS, ← hX]
  rfl
theorem fl_s (r : Rd) (e : Nat) : (r.fl e).s = r.s := by unfold Rd.fl; split <;> rfl
/-- a reader is stored where one lay -/
theorem three_lit {w : World} {z : Nat} {r Y : Rd} {S : ByteArray} (h : Rq w z Y) (hS : S = ⟨r.s.toArray⟩) {X : Rd} (hX : X.s = r.s) : ((w.setCell ⟨z, 0, none⟩ (.string S)).setCell ⟨z, 1, none⟩ (.int .i64 X.at_)).setCell ⟨z, 2, none⟩ (.int .i64 X.e) = w.setRow z (qcells X) := by
  rw [hS, ← hX]
  exact three_set h X
theorem ufl {r : Rd} {S : ByteArray} (hS : S = ⟨r.s.toArray⟩) (hr : r.at_ ≤ r.s.length) (hs : r.s.length ≤ 1099511627776) (w : World) : Calls Try.prog 37 #[.agg #[.string S, .int .i64 r.at_, .int .i64 r.e]] w fun e w' => e = .returned (.tuple #[.agg #[.string S, .int .i64 (rUint r).1.at_, .int .i64 (rUint r).1.e], .int .u64 (rUint r).2]) ∧ Hid (Below w.heap.size w w') := by
  have h := quint r hr hs w
  unfold QP at h
  rw [qlit hS (rUint_s hr)] at h
  rw [hS] at h ⊢
  exact h
theorem ffl {r : Rd} {S : ByteArray} (hS : S = ⟨r.s.toArray⟩) (e : Nat) (w : World) : Calls Try.prog 48 #[.agg #[.string S, .int .i64 r.at_, .int .i64 r.e], .int .i64 e] w fun x w' => x = .returned (.agg #[.string S, .int .i64 (r.fl e).at_, .int .i64 (r.fl e).e]) ∧ Hid (Below w.heap.size w w') := by
  have h := qfail r e w
  rw [qlit hS (fl_s r e)] at h
  rw [hS] at h ⊢
  exact h
theorem Rq.aside {w : World} {z q : Nat} {r : Rd} {cs : Array Value} (h : Rq w z r) (hn : z ≠ q) : Rq (w.setRow q cs) z r := h.same (setRow_other w q z cs hn)
set_option maxHeartbeats 4000000 in
theorem qint (r : Rd) (hr : r.at_ ≤ r.s.length) (hs : r.s.length ≤ 1099511627776) (w : World) : Calls Try.prog 38 #[.agg (qcells r)] w (QP (.int .i64 (rInt r).2) (rInt r).1 w) := by
  obtain ⟨S, HS⟩ : ∃ S : ByteArray, Hid (S = ⟨r.s.toArray⟩) := ⟨_, rfl⟩
  have HU : Hid (∀ w, Calls Try.prog 37 #[.agg #[.string S, .int .i64 r.at_, .int .i64 r.e]] w fun e w' => e = .returned (.tuple #[.agg #[.string S, .int .i64 (rUint r).1.at_, .int .i64 (rUint r).1.e], .int .u64 (rUint r).2]) ∧ Hid (Below w.heap.size w w')) := fun w => ufl HS.out hr hs w
  have HX : Hid ((rUint r).1.s = r.s) := rUint_s hr
  have hu := (rUint_ok (show r.Ok from hr)).2.2.2
  have HI : Hid (rInt r = ((rUint r).1, un (rUint r).2)) := rfl
  have HN := Rq.new2 w r
  have HB0 : Hid (Below w.heap.size w ((w.alloc (.cells (qcells r) 39)).alloc (.cells (qcells ⟨[], 0, 0⟩) 39))) := HN.2.2
  have HQ0 : Hid (Rq ((w.alloc (.cells (qcells r) 39)).alloc (.cells (qcells ⟨[], 0, 0⟩) 39)) w.heap.size r) := HN.1
  have HO0 : Hid (Rq ((w.alloc (.cells (qcells r) 39)).alloc (.cells (qcells ⟨[], 0, 0⟩) 39)) (w.heap.size + 1) ⟨[], 0, 0⟩) := HN.2.1
  clear HN
  clear hr hs
  generalize (rUint r).1 = X at *
  generalize (rUint r).2 = u at *
  go_enter Try.func38, Try.ntmps38
  go_upto_region 1 with fail
  show Code.wp _ _ _ _ ((w.alloc (.cells (qcells r) 39)).alloc (.cells (qcells ⟨[], 0, 0⟩) 39))
  generalize (w.alloc (.cells (qcells r) 39)).alloc (.cells (qcells ⟨[], 0, 0⟩) 39) = wA at *
  generalize hZ : w.heap.size = z at *
  have HZ : Hid (w.heap.size = z) := hZ
  clear hZ
  have c0 : wA.cell? ⟨z, 0, none⟩ = some (.string S) := by rw [HS.out]; exact HQ0.out.cell 0
  have c1 : wA.cell? ⟨z, 1, none⟩ = some (.int .i64 r.at_) := HQ0.out.cell 1
  have c2 : wA.cell? ⟨z, 2, none⟩ = some (.int .i64 r.e) := HQ0.out.cell 2
  have f0 := HQ0.out.froz 0
  have f1 := HQ0.out.froz 1
  have f2 := HQ0.out.froz 2
  go_wp2_with fail
  refine (HU.out _).mono ?_
  rintro e w3 ⟨rfl, HB3⟩
  have HQ3 : Hid (Rq w3 z r) := HQ0.out.keep HB3.out
  have HO3 : Hid (Rq w3 (z + 1) ⟨[], 0, 0⟩) := HO0.out.keep HB3.out
  have hAz : z ≤ wA.heap.size := by have := HB0.out.size; rw [HZ.out] at this; exact this
  have HB4 : Hid (Below z w w3) := HB0.out.trans (HB3.out.mono hAz)
  clear c0 c1 c2 f0 f1 f2 hAz
  have c0 : w3.cell? ⟨z, 0, none⟩ = some (.string S) := by rw [HS.out]; exact HQ3.out.cell 0
  have c1 : w3.cell? ⟨z, 1, none⟩ = some (.int .i64 r.at_) := HQ3.out.cell 1
  have c2 : w3.cell? ⟨z, 2, none⟩ = some (.int .i64 r.e) := HQ3.out.cell 2
  have f0 := HQ3.out.froz 0
  have f1 := HQ3.out.froz 1
  have f2 := HQ3.out.froz 2
  have HT3 : Hid (((w3.setCell ⟨z, 0, none⟩ (.string S)).setCell ⟨z, 1, none⟩ (.int .i64 X.at_)).setCell ⟨z, 2, none⟩ (.int .i64 X.e) = w3.setRow z (qcells X)) := three_lit HQ3.out HS.out HX.out
  have HQ5 : Hid (Rq (w3.setRow z (qcells X)) z X) := HQ3.out.put X
  have HO5 : Hid (Rq (w3.setRow z (qcells X)) (z + 1) ⟨[], 0, 0⟩) := HO3.out.aside (by omega)
  have HB5 : Hid (Below z w (w3.setRow z (qcells X))) := below_setRow HB4.out (Nat.le_refl _)
  go_upto_region 2 with fail
  rw [HT3.out]
  generalize w3.setRow z (qcells X) = w5 at *
  clear c0 c1 c2 f0 f1 f2 HT3 HQ3 HO3 HB4 HB3 HQ0 HO0 HB0
  have c0 : w5.cell? ⟨z, 0, none⟩ = some (.string S) := by rw [HS.out, ← HX.out]; exact HQ5.out.cell 0
  have c1 : w5.cell? ⟨z, 1, none⟩ = some (.int .i64 X.at_) := HQ5.out.cell 1
  have c2 : w5.cell? ⟨z, 2, none⟩ = some (.int .i64 X.e) := HQ5.out.cell 2
  have g0 := HO5.out.froz 0
  have g1 := HO5.out.froz 1
  have g2 := HO5.out.froz 2
  have b0 : w5.cell? ⟨z + 1, 0, none⟩ = some (.string ⟨#[]⟩) := HO5.out.cell 0
  have b1 : w5.cell? ⟨z + 1, 1, none⟩ = some (.int .i64 0) := HO5.out.cell 1
  have b2 : w5.cell? ⟨z + 1, 2, none⟩ = some (.int .i64 0) := HO5.out.cell 2
  have HT : Hid (((w5.setCell ⟨z + 1, 0, none⟩ (.string S)).setCell ⟨z + 1, 1, none⟩ (.int .i64 X.at_)).setCell ⟨z + 1, 2, none⟩ (.int .i64 X.e) = w5.setRow (z + 1) (qcells X)) := three_lit HO5.out HS.out HX.out
  have HO9 : Hid (Rq (w5.setRow (z + 1) (qcells X)) (z + 1) X) := HO5.out.put _
  have HB9 : Hid (Below z w (w5.setRow (z + 1) (qcells X))) := below_setRow HB5.out (by omega)
  by_cases h1 : u % 2 = 1
  · have h1z : ((u : Int) % 2 == 1) = true := by rw [beq_iff_eq]; omega
    have HV : Hid (-1 - (u : Int) / 2 = (rInt r).2) := by unfold Hid; rw [HI.out]; simp only [un, h1, if_true]; omega
    go_wp2_with fail
    rw [HT.out]
    generalize w5.setRow (z + 1) (qcells X) = w9 at *
    have d0 : w9.cell? ⟨z + 1, 0, none⟩ = some (.string ⟨X.s.toArray⟩) := HO9.out.cell 0
    have d1 : w9.cell? ⟨z + 1, 1, none⟩ = some (.int .i64 X.at_) := HO9.out.cell 1
    have d2 : w9.cell? ⟨z + 1, 2, none⟩ = some (.int .i64 X.e) := HO9.out.cell 2
    refine bodyPost_ret (by simp [results, Try.results38, go_sem, d0, d1, d2]; try rfl) rfl ?_
    exact QP.mk (x := X) (by rw [← HV.out]) (by rw [HI.out]) (by rw [HZ.out]; exact HB9.out)
  · have h1z : ((u : Int) % 2 == 1) = false := by rw [beq_eq_false_iff_ne]; omega
    have HV : Hid ((u : Int) / 2 = (rInt r).2) := by unfold Hid; rw [HI.out]; simp only [un, h1, if_false]; omega
    go_wp2_with fail
    rw [HT.out]
    generalize w5.setRow (z + 1) (qcells X) = w9 at *
    have d0 : w9.cell? ⟨z + 1, 0, none⟩ = some (.string ⟨X.s.toArray⟩) := HO9.out.cell 0
    have d1 : w9.cell? ⟨z + 1, 1, none⟩ = some (.int .i64 X.at_) := HO9.out.cell 1
    have d2 : w9.cell? ⟨z + 1, 2, none⟩ = some (.int .i64 X.e) := HO9.out.cell 2
    refine bodyPost_ret (by simp [results, Try.results38, go_sem, d0, d1, d2]; try rfl) rfl ?_
    exact QP.mk (x := X) (by rw [← HV.out]) (by rw [HI.out]) (by rw [HZ.out]; exact HB9.out)
theorem rCount_is (r : Rd) (m : Int) : rCount r m = if (rUint r).1.e ≠ 0 then ((rUint r).1, 0) else if m < ((rUint r).2 : Int) then (r.fl 2, 0) else rUint r := rfl
theorem uint_e0 {r : Rd} (h : (rUint r).1.e = 0) : r.e = 0 := by
  apply Classical.byContradiction
  intro hn
  rw [rUint_bad hn] at h
  exact hn h
theorem uint_at {r : Rd} (h : (rUint r).1.e = 0) : (rUint r).1 = { r with at_ := (rUint r).1.at_ } := by
  have h0 := uint_e0 h
  unfold rUint at h ⊢
  rw [if_neg (by simpa using h0)] at h ⊢
  by_cases h1 : (rdU (r.s.drop r.at_)).1 = 0
  · rw [if_pos h1]
  · rw [if_neg h1] at h
    exact absurd h h1
theorem rText_is (r : Rd) (m : Int) : rText r m = if (rUint r).1.e ≠ 0 then ((rUint r).1, []) else if m < ((rUint r).2 : Int) then (r.fl 2, []) else if r.s.length < (rUint r).1.at_ + (rUint r).2 then (r.fl 14, []) else ({ (rUint r).1 with at_ := (rUint r).1.at_ + (rUint r).2 }, (r.s.drop (rUint r).1.at_).take (rUint r).2) := by
  unfold rText
  rw [rCount_is]
  by_cases h : (rUint r).1.e ≠ 0
  · rw [if_pos h, if_pos h, if_pos h]
  · rw [if_neg h, if_neg h]
    have h0 : (rUint r).1.e = 0 := by simpa using h
    by_cases h2 : m < ((rUint r).2 : Int)
    · rw [if_pos h2, if_pos h2]
      have h1 := uint_e0 h0
      rw [if_pos (by simp [Rd.fl, h1])]
    · rw [if_neg h2, if_neg h2, if_neg h]
      have e := uint_at h0
      split
      · rfl
      · rw [e]
set_option maxHeartbeats 4000000 in
theorem qcount (r : Rd) (m : Int) (hm : I64 m) (hr : r.at_ ≤ r.s.length) (hs : r.s.length ≤ 1099511627776) (w : World) : Calls Try.prog 42 #[.agg (qcells r), .int .i64 m] w (QP (.int .i64 (rCount r m).2) (rCount r m).1 w) := by
  obtain ⟨S, HS⟩ : ∃ S : ByteArray, Hid (S = ⟨r.s.toArray⟩) := ⟨_, rfl⟩
  have HU : Hid (∀ w, Calls Try.prog 37 #[.agg #[.string S, .int .i64 r.at_, .int .i64 r.e]] w fun e w' => e = .returned (.tuple #[.agg #[.string S, .int .i64 (rUint r).1.at_, .int .i64 (rUint r).1.e], .int .u64 (rUint r).2]) ∧ Hid (Below w.heap.size w w')) := fun w => ufl HS.out hr hs w
  have HF : Hid (∀ (e : Nat) (w : World), Calls Try.prog 48 #[.agg #[.string S, .int .i64 r.at_, .int .i64 r.e], .int .i64 e] w fun x w' => x = .returned (.agg #[.string S, .int .i64 (r.fl e).at_, .int .i64 (r.fl e).e]) ∧ Hid (Below w.heap.size w w')) := fun e w => ffl HS.out e w
  have HX : Hid ((rUint r).1.s = r.s) := rUint_s hr
  have hok := rUint_ok (show r.Ok from hr)
  have hu := hok.2.2.2
  have hxa : (rUint r).1.at_ ≤ r.s.length := by have h1 : (rUint r).1.at_ ≤ (rUint r).1.s.length := hok.1; rw [hok.2.1] at h1; exact h1
  have HI : Hid (rCount r m = if (rUint r).1.e ≠ 0 then ((rUint r).1, 0) else if m < ((rUint r).2 : Int) then (r.fl 2, 0) else ((rUint r).1, (rUint r).2)) := rCount_is r m
  have HN := Rq.new2 w r
  have HB0 : Hid (Below w.heap.size w ((w.alloc (.cells (qcells r) 39)).alloc (.cells (qcells ⟨[], 0, 0⟩) 39))) := HN.2.2
  have HQ0 : Hid (Rq ((w.alloc (.cells (qcells r) 39)).alloc (.cells (qcells ⟨[], 0, 0⟩) 39)) w.heap.size r) := HN.1
  have HO0 : Hid (Rq ((w.alloc (.cells (qcells r) 39)).alloc (.cells (qcells ⟨[], 0, 0⟩) 39)) (w.heap.size + 1) ⟨[], 0, 0⟩) := HN.2.1
  clear HN
  obtain ⟨hm1, hm2⟩ := hm
  have hSz : S.size = r.s.length := by rw [HS.out]; rfl
  have hs2 : S.size ≤ 1099511627776 := by omega
  have hxs : (rUint r).1.at_ ≤ S.size := by omega
  clear hr hs hok hSz hxa
  generalize (rUint r).1 = X at *
  generalize (rUint r).2 = u at *
  go_enter Try.func42, Try.ntmps42
  go_upto_region 1 with fail
  show Code.wp _ _ _ _ ((w.alloc (.cells (qcells r) 39)).alloc (.cells (qcells ⟨[], 0, 0⟩) 39))
  generalize (w.alloc (.cells (qcells r) 39)).alloc (.cells (qcells ⟨[], 0, 0⟩) 39) = wA at *
  generalize hZ : w.heap.size = z at *
  have HZ : Hid (w.heap.size = z) := hZ
  clear hZ
  have c0 : wA.cell? ⟨z, 0, none⟩ = some (.string S) := by rw [HS.out]; exact HQ0.out.cell 0
  have c1 : wA.cell? ⟨z, 1, none⟩ = some (.int .i64 r.at_) := HQ0.out.cell 1
  have c2 : wA.cell? ⟨z, 2, none⟩ = some (.int .i64 r.e) := HQ0.out.cell 2
  go_wp2_with fail
  refine (HU.out _).mono ?_
  rintro e w3 ⟨rfl, HB3⟩
  have HQ3 : Hid (Rq w3 z r) := HQ0.out.keep HB3.out
  have HO3 : Hid (Rq w3 (z + 1) ⟨[], 0, 0⟩) := HO0.out.keep HB3.out
  have hAz : z ≤ wA.heap.size := by have := HB0.out.size; rw [HZ.out] at this; exact this
  have HB4 : Hid (Below z w w3) := HB0.out.trans (HB3.out.mono hAz)
  have h3z : z ≤ w3.heap.size := by have := HB4.out.size; rw [HZ.out] at this; exact this
  have hy1 : z + 1 < w3.heap.size := HO3.out.lt
  have HE3 : Hid (w3.alloc (.cells #[.string S, .int .i64 X.at_, .int .i64 X.e] 39) = w3.alloc (.cells (qcells X) 39)) := by unfold Hid; rw [qlit HS.out HX.out]
  have HQ5 : Hid (Rq (w3.alloc (.cells (qcells X) 39)) z r) := HQ3.out.keep (below_new _ _)
  have HO5 : Hid (Rq (w3.alloc (.cells (qcells X) 39)) (z + 1) ⟨[], 0, 0⟩) := HO3.out.keep (below_new _ _)
  have HY5 : Hid (Rq (w3.alloc (.cells (qcells X) 39)) w3.heap.size X) := Rq.new _ _
  have HB5 : Hid (Below z w (w3.alloc (.cells (qcells X) 39))) := HB4.out.alloc h3z _
  clear c0 c1 c2 hAz
  go_upto_region 2 with fail
  rw [HE3.out]
  generalize w3.alloc (.cells (qcells X) 39) = w5 at *
  generalize w3.heap.size = y at *
  clear HE3 HQ3 HO3 HB4 HB3 HQ0 HO0 HB0
  have c0 : w5.cell? ⟨z, 0, none⟩ = some (.string S) := by rw [HS.out]; exact HQ5.out.cell 0
  have c1 : w5.cell? ⟨z, 1, none⟩ = some (.int .i64 r.at_) := HQ5.out.cell 1
  have c2 : w5.cell? ⟨z, 2, none⟩ = some (.int .i64 r.e) := HQ5.out.cell 2
  have y0 : w5.cell? ⟨y, 0, none⟩ = some (.string S) := by rw [HS.out, ← HX.out]; exact HY5.out.cell 0
  have y1 : w5.cell? ⟨y, 1, none⟩ = some (.int .i64 X.at_) := HY5.out.cell 1
  have y2 : w5.cell? ⟨y, 2, none⟩ = some (.int .i64 X.e) := HY5.out.cell 2
  by_cases hxe : X.e = 0
  · have hxz : ((X.e : Int) != 0) = false := by rw [hxe]; rfl
    by_cases hlt : m < (u : Int)
    · have HD : Hid (rCount r m = (r.fl 2, 0)) := by unfold Hid; rw [HI.out, if_neg (by simpa using hxe), if_pos hlt]
      clear hxe
      by_cases h0 : m < 0
      ·
        go_wp2_with fail
        refine (HF.out 2 _).mono ?_
        rintro e w6 ⟨rfl, HB6⟩
        have HO6 : Hid (Rq w6 (z + 1) ⟨[], 0, 0⟩) := HO5.out.keep HB6.out
        have h5z : z ≤ w5.heap.size := by have := HB5.out.size; rw [HZ.out] at this; exact this
        have HB7 : Hid (Below z w w6) := HB5.out.trans (HB6.out.mono h5z)
        have HXf : Hid ((r.fl 2).s = r.s) := fl_s r 2
        have HF0 := HF
        clear HF c0 c1 c2
        generalize r.fl 2 = Z at *
        have g0 := HO6.out.froz 0
        have g1 := HO6.out.froz 1
        have g2 := HO6.out.froz 2
        have b0 : w6.cell? ⟨z + 1, 0, none⟩ = some (.string ⟨#[]⟩) := HO6.out.cell 0
        have b1 : w6.cell? ⟨z + 1, 1, none⟩ = some (.int .i64 0) := HO6.out.cell 1
        have b2 : w6.cell? ⟨z + 1, 2, none⟩ = some (.int .i64 0) := HO6.out.cell 2
        have HT : Hid (((w6.setCell ⟨z + 1, 0, none⟩ (.string S)).setCell ⟨z + 1, 1, none⟩ (.int .i64 Z.at_)).setCell ⟨z + 1, 2, none⟩ (.int .i64 Z.e) = w6.setRow (z + 1) (qcells Z)) := three_lit HO6.out HS.out HXf.out
        have HO9 : Hid (Rq (w6.setRow (z + 1) (qcells Z)) (z + 1) Z) := HO6.out.put _
        have HB9 : Hid (Below z w (w6.setRow (z + 1) (qcells Z))) := below_setRow HB7.out (by omega)
        go_wp2_with fail
        rw [HT.out]
        generalize w6.setRow (z + 1) (qcells Z) = w9 at *
        have d0 : w9.cell? ⟨z + 1, 0, none⟩ = some (.string ⟨Z.s.toArray⟩) := HO9.out.cell 0
        have d1 : w9.cell? ⟨z + 1, 1, none⟩ = some (.int .i64 Z.at_) := HO9.out.cell 1
        have d2 : w9.cell? ⟨z + 1, 2, none⟩ = some (.int .i64 Z.e) := HO9.out.cell 2
        refine bodyPost_ret (by simp [results, Try.results42, go_sem, d0, d1, d2]; try rfl) rfl ?_
        exact QP.mk (x := Z) (by rw [HD.out]; rfl) (by rw [HD.out]) (by rw [HZ.out]; exact HB9.out)
      · have hw : IntKind.u64.wrap m = m := IntWalk.u64_in m (by omega)
        go_wp2_with fail
        refine (HF.out 2 _).mono ?_
        rintro e w6 ⟨rfl, HB6⟩
        have HO6 : Hid (Rq w6 (z + 1) ⟨[], 0, 0⟩) := HO5.out.keep HB6.out
        have h5z : z ≤ w5.heap.size := by have := HB5.out.size; rw [HZ.out] at this; exact this
        have HB7 : Hid (Below z w w6) := HB5.out.trans (HB6.out.mono h5z)
        have HXf : Hid ((r.fl 2).s = r.s) := fl_s r 2
        have HF0 := HF
        clear HF c0 c1 c2
        generalize r.fl 2 = Z at *
        have g0 := HO6.out.froz 0
        have g1 := HO6.out.froz 1
        have g2 := HO6.out.froz 2
        have b0 : w6.cell? ⟨z + 1, 0, none⟩ = some (.string ⟨#[]⟩) := HO6.out.cell 0
        have b1 : w6.cell? ⟨z + 1, 1, none⟩ = some (.int .i64 0) := HO6.out.cell 1
        have b2 : w6.cell? ⟨z + 1, 2, none⟩ = some (.int .i64 0) := HO6.out.cell 2
        have HT : Hid (((w6.setCell ⟨z + 1, 0, none⟩ (.string S)).setCell ⟨z + 1, 1, none⟩ (.int .i64 Z.at_)).setCell ⟨z + 1, 2, none⟩ (.int .i64 Z.e) = w6.setRow (z + 1) (qcells Z)) := three_lit HO6.out HS.out HXf.out
        have HO9 : Hid (Rq (w6.setRow (z + 1) (qcells Z)) (z + 1) Z) := HO6.out.put _
        have HB9 : Hid (Below z w (w6.setRow (z + 1) (qcells Z))) := below_setRow HB7.out (by omega)
        go_wp2_with fail
        rw [HT.out]
        generalize w6.setRow (z + 1) (qcells Z) = w9 at *
        have d0 : w9.cell? ⟨z + 1, 0, none⟩ = some (.string ⟨Z.s.toArray⟩) := HO9.out.cell 0
        have d1 : w9.cell? ⟨z + 1, 1, none⟩ = some (.int .i64 Z.at_) := HO9.out.cell 1
        have d2 : w9.cell? ⟨z + 1, 2, none⟩ = some (.int .i64 Z.e) := HO9.out.cell 2
        refine bodyPost_ret (by simp [results, Try.results42, go_sem, d0, d1, d2]; try rfl) rfl ?_
        exact QP.mk (x := Z) (by rw [HD.out]; rfl) (by rw [HD.out]) (by rw [HZ.out]; exact HB9.out)
    · have HD : Hid (rCount r m = (X, u)) := by unfold Hid; rw [HI.out, if_neg (by simpa using hxe), if_neg hlt]
      clear hxe
      have h0 : ¬ m < 0 := by omega
      have hw : IntKind.u64.wrap m = m := IntWalk.u64_in m (by omega)
      have hu2 : (u : Int) ≤ 9223372036854775807 := by omega
      have g0 := HO5.out.froz 0
      have g1 := HO5.out.froz 1
      have g2 := HO5.out.froz 2
      have b0 : w5.cell? ⟨z + 1, 0, none⟩ = some (.string ⟨#[]⟩) := HO5.out.cell 0
      have b1 : w5.cell? ⟨z + 1, 1, none⟩ = some (.int .i64 0) := HO5.out.cell 1
      have b2 : w5.cell? ⟨z + 1, 2, none⟩ = some (.int .i64 0) := HO5.out.cell 2
      have HT : Hid (((w5.setCell ⟨z + 1, 0, none⟩ (.string S)).setCell ⟨z + 1, 1, none⟩ (.int .i64 X.at_)).setCell ⟨z + 1, 2, none⟩ (.int .i64 X.e) = w5.setRow (z + 1) (qcells X)) := three_lit HO5.out HS.out HX.out
      have HO9 : Hid (Rq (w5.setRow (z + 1) (qcells X)) (z + 1) X) := HO5.out.put _
      have HB9 : Hid (Below z w (w5.setRow (z + 1) (qcells X))) := below_setRow HB5.out (by omega)
      go_wp2_with fail
      rw [HT.out]
      generalize w5.setRow (z + 1) (qcells X) = w9 at *
      have d0 : w9.cell? ⟨z + 1, 0, none⟩ = some (.string ⟨X.s.toArray⟩) := HO9.out.cell 0
      have d1 : w9.cell? ⟨z + 1, 1, none⟩ = some (.int .i64 X.at_) := HO9.out.cell 1
      have d2 : w9.cell? ⟨z + 1, 2, none⟩ = some (.int .i64 X.e) := HO9.out.cell 2
      refine bodyPost_ret (by simp [results, Try.results42, go_sem, d0, d1, d2]; try rfl) rfl ?_
      exact QP.mk (x := X) (by rw [HD.out]) (by rw [HD.out]) (by rw [HZ.out]; exact HB9.out)
  · have hxz : ((X.e : Int) != 0) = true := by rw [bne_iff_ne]; omega
    have HD : Hid (rCount r m = (X, 0)) := by unfold Hid; rw [HI.out, if_pos hxe]
    clear hxe
    have g0 := HO5.out.froz 0
    have g1 := HO5.out.froz 1
    have g2 := HO5.out.froz 2
    have b0 : w5.cell? ⟨z + 1, 0, none⟩ = some (.string ⟨#[]⟩) := HO5.out.cell 0
    have b1 : w5.cell? ⟨z + 1, 1, none⟩ = some (.int .i64 0) := HO5.out.cell 1
    have b2 : w5.cell? ⟨z + 1, 2, none⟩ = some (.int .i64 0) := HO5.out.cell 2
    have HT : Hid (((w5.setCell ⟨z + 1, 0, none⟩ (.string S)).setCell ⟨z + 1, 1, none⟩ (.int .i64 X.at_)).setCell ⟨z + 1, 2, none⟩ (.int .i64 X.e) = w5.setRow (z + 1) (qcells X)) := three_lit HO5.out HS.out HX.out
    have HO9 : Hid (Rq (w5.setRow (z + 1) (qcells X)) (z + 1) X) := HO5.out.put _
    have HB9 : Hid (Below z w (w5.setRow (z + 1) (qcells X))) := below_setRow HB5.out (by omega)
    go_wp2_with fail
    rw [HT.out]
    generalize w5.setRow (z + 1) (qcells X) = w9 at *
    have d0 : w9.cell? ⟨z + 1, 0, none⟩ = some (.string ⟨X.s.toArray⟩) := HO9.out.cell 0
    have d1 : w9.cell? ⟨z + 1, 1, none⟩ = some (.int .i64 X.at_) := HO9.out.cell 1
    have d2 : w9.cell? ⟨z + 1, 2, none⟩ = some (.int .i64 X.e) := HO9.out.cell 2
    refine bodyPost_ret (by simp [results, Try.results42, go_sem, d0, d1, d2]; try rfl) rfl ?_
    exact QP.mk (x := X) (by rw [HD.out]; rfl) (by rw [HD.out]) (by rw [HZ.out]; exact HB9.out)
set_option maxHeartbeats 4000000 in
theorem qtext (r : Rd) (m : Int) (hm : I64 m) (hr : r.at_ ≤ r.s.length) (hs : r.s.length ≤ 1099511627776) (w : World) : Calls Try.prog 39 #[.agg (qcells r), .int .i64 m] w (QP (.string ⟨(rText r m).2.toArray⟩) (rText r m).1 w) := by
  obtain ⟨S, HS⟩ : ∃ S : ByteArray, Hid (S = ⟨r.s.toArray⟩) := ⟨_, rfl⟩
  have HU : Hid (∀ w, Calls Try.prog 37 #[.agg #[.string S, .int .i64 r.at_, .int .i64 r.e]] w fun e w' => e = .returned (.tuple #[.agg #[.string S, .int .i64 (rUint r).1.at_, .int .i64 (rUint r).1.e], .int .u64 (rUint r).2]) ∧ Hid (Below w.heap.size w w')) := fun w => ufl HS.out hr hs w
  have HF : Hid (∀ (e : Nat) (w : World), Calls Try.prog 48 #[.agg #[.string S, .int .i64 r.at_, .int .i64 r.e], .int .i64 e] w fun x w' => x = .returned (.agg #[.string S, .int .i64 (r.fl e).at_, .int .i64 (r.fl e).e]) ∧ Hid (Below w.heap.size w w')) := fun e w => ffl HS.out e w
  have HX : Hid ((rUint r).1.s = r.s) := rUint_s hr
  have hok := rUint_ok (show r.Ok from hr)
  have hu := hok.2.2.2
  have hxa : (rUint r).1.at_ ≤ r.s.length := by have h1 : (rUint r).1.at_ ≤ (rUint r).1.s.length := hok.1; rw [hok.2.1] at h1; exact h1
  have HI : Hid (rText r m = if (rUint r).1.e ≠ 0 then ((rUint r).1, []) else if m < ((rUint r).2 : Int) then (r.fl 2, []) else if r.s.length < (rUint r).1.at_ + (rUint r).2 then (r.fl 14, []) else ({ (rUint r).1 with at_ := (rUint r).1.at_ + (rUint r).2 }, (r.s.drop (rUint r).1.at_).take (rUint r).2)) := rText_is r m
  have HN := Rq.new2 w r
  have HB0 : Hid (Below w.heap.size w ((w.alloc (.cells (qcells r) 39)).alloc (.cells (qcells ⟨[], 0, 0⟩) 39))) := HN.2.2
  have HQ0 : Hid (Rq ((w.alloc (.cells (qcells r) 39)).alloc (.cells (qcells ⟨[], 0, 0⟩) 39)) w.heap.size r) := HN.1
  have HO0 : Hid (Rq ((w.alloc (.cells (qcells r) 39)).alloc (.cells (qcells ⟨[], 0, 0⟩) 39)) (w.heap.size + 1) ⟨[], 0, 0⟩) := HN.2.1
  clear HN
  obtain ⟨hm1, hm2⟩ := hm
  have hSz : S.size = r.s.length := by rw [HS.out]; rfl
  have hs2 : S.size ≤ 1099511627776 := by omega
  have hxs : (rUint r).1.at_ ≤ S.size := by omega
  have HL : Hid (r.s.length = S.size) := hSz.symm
  have HC : Hid (∀ a b, (r.s.drop a).take b = (S.extract a (a + b)).data.toList) := fun a b => by rw [ext_list, HS.out, Nat.add_sub_cancel_left]
  clear hr hs hok hSz hxa
  generalize (rUint r).1 = X at *
  generalize (rUint r).2 = u at *
  go_enter Try.func39, Try.ntmps39
  go_upto_region 1 with fail
  show Code.wp _ _ _ _ ((w.alloc (.cells (qcells r) 39)).alloc (.cells (qcells ⟨[], 0, 0⟩) 39))
  generalize (w.alloc (.cells (qcells r) 39)).alloc (.cells (qcells ⟨[], 0, 0⟩) 39) = wA at *
  generalize hZ : w.heap.size = z at *
  have HZ : Hid (w.heap.size = z) := hZ
  clear hZ
  have c0 : wA.cell? ⟨z, 0, none⟩ = some (.string S) := by rw [HS.out]; exact HQ0.out.cell 0
  have c1 : wA.cell? ⟨z, 1, none⟩ = some (.int .i64 r.at_) := HQ0.out.cell 1
  have c2 : wA.cell? ⟨z, 2, none⟩ = some (.int .i64 r.e) := HQ0.out.cell 2
  go_wp2_with fail
  refine (HU.out _).mono ?_
  rintro e w3 ⟨rfl, HB3⟩
  have HQ3 : Hid (Rq w3 z r) := HQ0.out.keep HB3.out
  have HO3 : Hid (Rq w3 (z + 1) ⟨[], 0, 0⟩) := HO0.out.keep HB3.out
  have hAz : z ≤ wA.heap.size := by have := HB0.out.size; rw [HZ.out] at this; exact this
  have HB4 : Hid (Below z w w3) := HB0.out.trans (HB3.out.mono hAz)
  have h3z : z ≤ w3.heap.size := by have := HB4.out.size; rw [HZ.out] at this; exact this
  have hy1 : z + 1 < w3.heap.size := HO3.out.lt
  have HE3 : Hid (w3.alloc (.cells #[.string S, .int .i64 X.at_, .int .i64 X.e] 39) = w3.alloc (.cells (qcells X) 39)) := by unfold Hid; rw [qlit HS.out HX.out]
  have HQ5 : Hid (Rq (w3.alloc (.cells (qcells X) 39)) z r) := HQ3.out.keep (below_new _ _)
  have HO5 : Hid (Rq (w3.alloc (.cells (qcells X) 39)) (z + 1) ⟨[], 0, 0⟩) := HO3.out.keep (below_new _ _)
  have HY5 : Hid (Rq (w3.alloc (.cells (qcells X) 39)) w3.heap.size X) := Rq.new _ _
  have HB5 : Hid (Below z w (w3.alloc (.cells (qcells X) 39))) := HB4.out.alloc h3z _
  clear c0 c1 c2 hAz
  go_upto_region 2 with fail
  rw [HE3.out]
  generalize w3.alloc (.cells (qcells X) 39) = w5 at *
  generalize w3.heap.size = y at *
  clear HE3 HQ3 HO3 HB4 HB3 HQ0 HO0 HB0
  have c0 : w5.cell? ⟨z, 0, none⟩ = some (.string S) := by rw [HS.out]; exact HQ5.out.cell 0
  have c1 : w5.cell? ⟨z, 1, none⟩ = some (.int .i64 r.at_) := HQ5.out.cell 1
  have c2 : w5.cell? ⟨z, 2, none⟩ = some (.int .i64 r.e) := HQ5.out.cell 2
  have y0 : w5.cell? ⟨y, 0, none⟩ = some (.string S) := by rw [HS.out, ← HX.out]; exact HY5.out.cell 0
  have y1 : w5.cell? ⟨y, 1, none⟩ = some (.int .i64 X.at_) := HY5.out.cell 1
  have y2 : w5.cell? ⟨y, 2, none⟩ = some (.int .i64 X.e) := HY5.out.cell 2
  by_cases hxe : X.e = 0
  · have hxz : ((X.e : Int) != 0) = false := by rw [hxe]; rfl
    by_cases hlt : m < (u : Int)
    · have HD : Hid (rText r m = (r.fl 2, [])) := by unfold Hid; rw [HI.out, if_neg (by simpa using hxe), if_pos hlt]
      clear hxe
      by_cases h0 : m < 0
      ·
        go_wp2_with fail
        refine (HF.out 2 _).mono ?_
        rintro e w6 ⟨rfl, HB6⟩
        have HO6 : Hid (Rq w6 (z + 1) ⟨[], 0, 0⟩) := HO5.out.keep HB6.out
        have h5z : z ≤ w5.heap.size := by have := HB5.out.size; rw [HZ.out] at this; exact this
        have HB7 : Hid (Below z w w6) := HB5.out.trans (HB6.out.mono h5z)
        have HXf : Hid ((r.fl 2).s = r.s) := fl_s r 2
        have HF0 := HF
        clear HF c0 c1 c2
        generalize r.fl 2 = Z at *
        have g0 := HO6.out.froz 0
        have g1 := HO6.out.froz 1
        have g2 := HO6.out.froz 2
        have b0 : w6.cell? ⟨z + 1, 0, none⟩ = some (.string ⟨#[]⟩) := HO6.out.cell 0
        have b1 : w6.cell? ⟨z + 1, 1, none⟩ = some (.int .i64 0) := HO6.out.cell 1
        have b2 : w6.cell? ⟨z + 1, 2, none⟩ = some (.int .i64 0) := HO6.out.cell 2
        have HT : Hid (((w6.setCell ⟨z + 1, 0, none⟩ (.string S)).setCell ⟨z + 1, 1, none⟩ (.int .i64 Z.at_)).setCell ⟨z + 1, 2, none⟩ (.int .i64 Z.e) = w6.setRow (z + 1) (qcells Z)) := three_lit HO6.out HS.out HXf.out
        have HO9 : Hid (Rq (w6.setRow (z + 1) (qcells Z)) (z + 1) Z) := HO6.out.put _
        have HB9 : Hid (Below z w (w6.setRow (z + 1) (qcells Z))) := below_setRow HB7.out (by omega)
        go_wp2_with fail
        rw [HT.out]
        generalize w6.setRow (z + 1) (qcells Z) = w9 at *
        have d0 : w9.cell? ⟨z + 1, 0, none⟩ = some (.string ⟨Z.s.toArray⟩) := HO9.out.cell 0
        have d1 : w9.cell? ⟨z + 1, 1, none⟩ = some (.int .i64 Z.at_) := HO9.out.cell 1
        have d2 : w9.cell? ⟨z + 1, 2, none⟩ = some (.int .i64 Z.e) := HO9.out.cell 2
        refine bodyPost_ret (by simp [results, Try.results39, go_sem, d0, d1, d2]; try rfl) rfl ?_
        exact QP.mk (x := Z) (by rw [HD.out]) (by rw [HD.out]) (by rw [HZ.out]; exact HB9.out)
      · have hw : IntKind.u64.wrap m = m := IntWalk.u64_in m (by omega)
        go_wp2_with fail
        refine (HF.out 2 _).mono ?_
        rintro e w6 ⟨rfl, HB6⟩
        have HO6 : Hid (Rq w6 (z + 1) ⟨[], 0, 0⟩) := HO5.out.keep HB6.out
        have h5z : z ≤ w5.heap.size := by have := HB5.out.size; rw [HZ.out] at this; exact this
        have HB7 : Hid (Below z w w6) := HB5.out.trans (HB6.out.mono h5z)
        have HXf : Hid ((r.fl 2).s = r.s) := fl_s r 2
        have HF0 := HF
        clear HF c0 c1 c2
        generalize r.fl 2 = Z at *
        have g0 := HO6.out.froz 0
        have g1 := HO6.out.froz 1
        have g2 := HO6.out.froz 2
        have b0 : w6.cell? ⟨z + 1, 0, none⟩ = some (.string ⟨#[]⟩) := HO6.out.cell 0
        have b1 : w6.cell? ⟨z + 1, 1, none⟩ = some (.int .i64 0) := HO6.out.cell 1
        have b2 : w6.cell? ⟨z + 1, 2, none⟩ = some (.int .i64 0) := HO6.out.cell 2
        have HT : Hid (((w6.setCell ⟨z + 1, 0, none⟩ (.string S)).setCell ⟨z + 1, 1, none⟩ (.int .i64 Z.at_)).setCell ⟨z + 1, 2, none⟩ (.int .i64 Z.e) = w6.setRow (z + 1) (qcells Z)) := three_lit HO6.out HS.out HXf.out
        have HO9 : Hid (Rq (w6.setRow (z + 1) (qcells Z)) (z + 1) Z) := HO6.out.put _
        have HB9 : Hid (Below z w (w6.setRow (z + 1) (qcells Z))) := below_setRow HB7.out (by omega)
        go_wp2_with fail
        rw [HT.out]
        generalize w6.setRow (z + 1) (qcells Z) = w9 at *
        have d0 : w9.cell? ⟨z + 1, 0, none⟩ = some (.string ⟨Z.s.toArray⟩) := HO9.out.cell 0
        have d1 : w9.cell? ⟨z + 1, 1, none⟩ = some (.int .i64 Z.at_) := HO9.out.cell 1
        have d2 : w9.cell? ⟨z + 1, 2, none⟩ = some (.int .i64 Z.e) := HO9.out.cell 2
        refine bodyPost_ret (by simp [results, Try.results39, go_sem, d0, d1, d2]; try rfl) rfl ?_
        exact QP.mk (x := Z) (by rw [HD.out]) (by rw [HD.out]) (by rw [HZ.out]; exact HB9.out)
    · have h0 : ¬ m < 0 := by omega
      have hw : IntKind.u64.wrap m = m := IntWalk.u64_in m (by omega)
      have hu2 : (u : Int) ≤ 9223372036854775807 := by omega
      have hw2 : IntKind.u64.wrap ((S.size : Int) - X.at_) = (S.size : Int) - X.at_ := IntWalk.u64_in _ (by omega)
      by_cases hsh : S.size < X.at_ + u
      · have hshz : (S.size : Int) - X.at_ < (u : Int) := by omega
        have HD : Hid (rText r m = (r.fl 14, [])) := by unfold Hid; rw [HI.out, if_neg (by simpa using hxe), if_neg hlt, if_pos (by rw [HL.out]; exact hsh)]
        clear hxe
        go_wp2_with fail
        refine (HF.out 14 _).mono ?_
        rintro e w6 ⟨rfl, HB6⟩
        have HO6 : Hid (Rq w6 (z + 1) ⟨[], 0, 0⟩) := HO5.out.keep HB6.out
        have h5z : z ≤ w5.heap.size := by have := HB5.out.size; rw [HZ.out] at this; exact this
        have HB7 : Hid (Below z w w6) := HB5.out.trans (HB6.out.mono h5z)
        have HXf : Hid ((r.fl 14).s = r.s) := fl_s r 14
        have HF0 := HF
        clear HF c0 c1 c2
        generalize r.fl 14 = Z at *
        have g0 := HO6.out.froz 0
        have g1 := HO6.out.froz 1
        have g2 := HO6.out.froz 2
        have b0 : w6.cell? ⟨z + 1, 0, none⟩ = some (.string ⟨#[]⟩) := HO6.out.cell 0
        have b1 : w6.cell? ⟨z + 1, 1, none⟩ = some (.int .i64 0) := HO6.out.cell 1
        have b2 : w6.cell? ⟨z + 1, 2, none⟩ = some (.int .i64 0) := HO6.out.cell 2
        have HT : Hid (((w6.setCell ⟨z + 1, 0, none⟩ (.string S)).setCell ⟨z + 1, 1, none⟩ (.int .i64 Z.at_)).setCell ⟨z + 1, 2, none⟩ (.int .i64 Z.e) = w6.setRow (z + 1) (qcells Z)) := three_lit HO6.out HS.out HXf.out
        have HO9 : Hid (Rq (w6.setRow (z + 1) (qcells Z)) (z + 1) Z) := HO6.out.put _
        have HB9 : Hid (Below z w (w6.setRow (z + 1) (qcells Z))) := below_setRow HB7.out (by omega)
        go_wp2_with fail
        rw [HT.out]
        generalize w6.setRow (z + 1) (qcells Z) = w9 at *
        have d0 : w9.cell? ⟨z + 1, 0, none⟩ = some (.string ⟨Z.s.toArray⟩) := HO9.out.cell 0
        have d1 : w9.cell? ⟨z + 1, 1, none⟩ = some (.int .i64 Z.at_) := HO9.out.cell 1
        have d2 : w9.cell? ⟨z + 1, 2, none⟩ = some (.int .i64 Z.e) := HO9.out.cell 2
        refine bodyPost_ret (by simp [results, Try.results39, go_sem, d0, d1, d2]; try rfl) rfl ?_
        exact QP.mk (x := Z) (by rw [HD.out]) (by rw [HD.out]) (by rw [HZ.out]; exact HB9.out)
      · have hshz : ¬ (S.size : Int) - X.at_ < (u : Int) := by omega
        have HD : Hid (rText r m = ({ X with at_ := X.at_ + u }, (S.extract X.at_ (X.at_ + u)).data.toList)) := by unfold Hid; rw [HI.out, if_neg (by simpa using hxe), if_neg hlt, if_neg (by rw [HL.out]; exact hsh), HC.out]
        clear hxe
        have hb1 : (0 : Int) ≤ (X.at_ : Int) := by omega
        have hb2 : (X.at_ : Int) ≤ (X.at_ : Int) + u := by omega
        have hb3 : (X.at_ : Int) + u ≤ (S.size : Int) := by omega
        have hb4 : (0 : Int) ≤ (X.at_ : Int) + u := by omega
        have k1 := HY5.out.froz 1
        have HY7 : Hid (Rq (w5.setCell ⟨y, 1, none⟩ (.int .i64 ((X.at_ : Int) + u))) y { X with at_ := X.at_ + u }) := HY5.out.setAt (X.at_ + u)
        have HO7 : Hid (Rq (w5.setCell ⟨y, 1, none⟩ (.int .i64 ((X.at_ : Int) + u))) (z + 1) ⟨[], 0, 0⟩) := HO5.out.same (Below.heap_setCell w5 _ _ _ (by show z + 1 ≠ y; omega))
        have HB7 : Hid (Below z w (w5.setCell ⟨y, 1, none⟩ (.int .i64 ((X.at_ : Int) + u)))) := HB5.out.setCell (by show z ≤ y; omega) _
        go_upto_region 10 with fail
        generalize w5.setCell ⟨y, 1, none⟩ (.int .i64 ((X.at_ : Int) + u)) = w7 at *
        clear c0 c1 c2 y0 y1 y2 k1
        have HX7 : Hid (({ X with at_ := X.at_ + u } : Rd).s = r.s) := HX.out
        have HA7 : Hid (({ X with at_ := X.at_ + u } : Rd).at_ = X.at_ + u) := rfl
        have HE7 : Hid (({ X with at_ := X.at_ + u } : Rd).e = X.e) := rfl
        have y0 : w7.cell? ⟨y, 0, none⟩ = some (.string S) := by rw [HS.out, ← HX.out]; exact HY7.out.cell 0
        have y1 : w7.cell? ⟨y, 1, none⟩ = some (.int .i64 ({ X with at_ := X.at_ + u } : Rd).at_) := HY7.out.cell 1
        have y2 : w7.cell? ⟨y, 2, none⟩ = some (.int .i64 ({ X with at_ := X.at_ + u } : Rd).e) := HY7.out.cell 2
        generalize S.extract X.at_ (X.at_ + u) = T at *
        generalize ({ X with at_ := X.at_ + u } : Rd) = Z at *
        have g0 := HO7.out.froz 0
        have g1 := HO7.out.froz 1
        have g2 := HO7.out.froz 2
        have b0 : w7.cell? ⟨z + 1, 0, none⟩ = some (.string ⟨#[]⟩) := HO7.out.cell 0
        have b1 : w7.cell? ⟨z + 1, 1, none⟩ = some (.int .i64 0) := HO7.out.cell 1
        have b2 : w7.cell? ⟨z + 1, 2, none⟩ = some (.int .i64 0) := HO7.out.cell 2
        have HT : Hid (((w7.setCell ⟨z + 1, 0, none⟩ (.string S)).setCell ⟨z + 1, 1, none⟩ (.int .i64 Z.at_)).setCell ⟨z + 1, 2, none⟩ (.int .i64 Z.e) = w7.setRow (z + 1) (qcells Z)) := three_lit HO7.out HS.out HX7.out
        have HO9 : Hid (Rq (w7.setRow (z + 1) (qcells Z)) (z + 1) Z) := HO7.out.put _
        have HB9 : Hid (Below z w (w7.setRow (z + 1) (qcells Z))) := below_setRow HB7.out (by omega)
        go_wp2_with fail
        rw [HT.out]
        generalize w7.setRow (z + 1) (qcells Z) = w9 at *
        have d0 : w9.cell? ⟨z + 1, 0, none⟩ = some (.string ⟨Z.s.toArray⟩) := HO9.out.cell 0
        have d1 : w9.cell? ⟨z + 1, 1, none⟩ = some (.int .i64 Z.at_) := HO9.out.cell 1
        have d2 : w9.cell? ⟨z + 1, 2, none⟩ = some (.int .i64 Z.e) := HO9.out.cell 2
        refine bodyPost_ret (by simp [results, Try.results39, go_sem, d0, d1, d2]; try rfl) rfl ?_
        exact QP.mk (x := Z) (by rw [HD.out]) (by rw [HD.out]) (by rw [HZ.out]; exact HB9.out)
  · have hxz : ((X.e : Int) != 0) = true := by rw [bne_iff_ne]; omega
    have HD : Hid (rText r m = (X, [])) := by unfold Hid; rw [HI.out, if_pos hxe]
    clear hxe
    have g0 := HO5.out.froz 0
    have g1 := HO5.out.froz 1
    have g2 := HO5.out.froz 2
    have b0 : w5.cell? ⟨z + 1, 0, none⟩ = some (.string ⟨#[]⟩) := HO5.out.cell 0
    have b1 : w5.cell? ⟨z + 1, 1, none⟩ = some (.int .i64 0) := HO5.out.cell 1
    have b2 : w5.cell? ⟨z + 1, 2, none⟩ = some (.int .i64 0) := HO5.out.cell 2
    have HT : Hid (((w5.setCell ⟨z + 1, 0, none⟩ (.string S)).setCell ⟨z + 1, 1, none⟩ (.int .i64 X.at_)).setCell ⟨z + 1, 2, none⟩ (.int .i64 X.e) = w5.setRow (z + 1) (qcells X)) := three_lit HO5.out HS.out HX.out
    have HO9 : Hid (Rq (w5.setRow (z + 1) (qcells X)) (z + 1) X) := HO5.out.put _
    have HB9 : Hid (Below z w (w5.setRow (z + 1) (qcells X))) := below_setRow HB5.out (by omega)
    go_wp2_with fail
    rw [HT.out]
    generalize w5.setRow (z + 1) (qcells X) = w9 at *
    have d0 : w9.cell? ⟨z + 1, 0, none⟩ = some (.string ⟨X.s.toArray⟩) := HO9.out.cell 0
    have d1 : w9.cell? ⟨z + 1, 1, none⟩ = some (.int .i64 X.at_) := HO9.out.cell 1
    have d2 : w9.cell? ⟨z + 1, 2, none⟩ = some (.int .i64 X.e) := HO9.out.cell 2
    refine bodyPost_ret (by simp [results, Try.results39, go_sem, d0, d1, d2]; try rfl) rfl ?_
    exact QP.mk (x := X) (by rw [HD.out]) (by rw [HD.out]) (by rw [HZ.out]; exact HB9.out)
end Go.Proofs.Ytgdoeflnfcjefaa
