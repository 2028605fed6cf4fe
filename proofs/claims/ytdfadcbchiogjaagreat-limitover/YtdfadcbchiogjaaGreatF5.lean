/- quotients; MulDiv of the reference -/
import Derived.Test.YtdfadcbchiogjaaGreatF4
import Derived.Test.YtdfadcbchiogjaaGreatF3
import Derived.WalkKit
import Derived.ProofKit
import Derived.Handy
import Derived.WalkLawsBesides
import Derived.WalkSpells
import Derived.BigQuiet
import Derived.Deep.QuietTactic
import Derived.Deep.Light
import Derived.Deep.OwnRows
import Derived.Laws.AppendOwnNone
import Derived.Deep.RegionWith
import Derived.Lib.BitFns
import Derived.Lib.Walk
import Derived.Deep.CutBlock
import Derived.Deep.DeepCutAuto
import Derived.Deep.LoopGhost
import Derived.Deep.RegionHeld
namespace Go.Proofs.YtdfadcbchiogjaaGreat.N1
open Go.RowKit
set_option linter.unusedVariables false
set_option linter.unusedSimpArgs false

theorem cell_kept {w w' : World} (hb : Below w.heap.size w w') {p : Addr} {v : Value} (h : w.cell? p = some v) : w'.cell? p = some v := (hb.cell (World.block_lt_of_cell? w p h)).trans h

theorem div_unique {x y q r q' r' : Int} (h : q * y + r = x) (hr : 0 ≤ r ∧ r < y) (h' : q' * y + r' = x) (hr' : 0 ≤ r' ∧ r' < y) : q = q' ∧ r = r' := by
  have h1 := (Int.ediv_emod_unique (a := x) (b := y) (r := r) (q := q) (by omega)).2 ⟨by rw [Int.mul_comm y q]; omega, hr.1, hr.2⟩
  have h2 := (Int.ediv_emod_unique (a := x) (b := y) (r := r') (q := q') (by omega)).2 ⟨by rw [Int.mul_comm y q']; omega, hr'.1, hr'.2⟩
  exact ⟨h1.1.symm.trans h2.1, h1.2.symm.trans h2.2⟩

theorem rsize (n : Int) (hn : -9223372036854775808 ≤ n ∧ n ≤ 9223372036854775807) (w : World) : Calls Tryz.prog 58 #[.int .i64 n] w (BigPost (n.natAbs : Int) 4 w) := by
  by_cases h0 : n = -9223372036854775808
  · subst h0
    go_enter Tryz.func58, Tryz.ntmps58
    go_wp2_with fail
    refine (rof 9223372036854775808 _ (by omega)).mono ?_
    rintro e w1 ⟨v, ds, rfl, ho, hd, hb, hz⟩
    have Ho : Hid (Own w.heap.size w1 v ds) := ho
    clear ho
    go_wp2
    go_ret
    exact ⟨v, ds, rfl, Ho.out, hd, hb, hz⟩
  have g0 : (n == -9223372036854775808) = false := by simp [h0]
  by_cases h1 : n < 0
  · have e1 : ((n.natAbs : Nat) : Int) = 0 - n := by omega
    rw [e1]
    clear e1
    go_enter Tryz.func58, Tryz.ntmps58
    go_wp2_with fail
    have e2 : (-n : Int) = 0 - n := by omega
    try rw [e2]
    refine (rof (0 - n) _ (by omega)).mono ?_
    rintro e w1 ⟨v, ds, rfl, ho, hd, hb, hz⟩
    have Ho : Hid (Own w.heap.size w1 v ds) := ho
    clear ho e2
    go_wp2
    go_ret
    exact ⟨v, ds, rfl, Ho.out, hd, hb, hz⟩
  · have e1 : ((n.natAbs : Nat) : Int) = n := by omega
    rw [e1]
    clear e1
    go_enter Tryz.func58, Tryz.ntmps58
    go_wp2_with fail
    refine (rof n _ (by omega)).mono ?_
    rintro e w1 ⟨v, ds, rfl, ho, hd, hb, hz⟩
    have Ho : Hid (Own w.heap.size w1 v ds) := ho
    clear ho
    go_wp2
    go_ret
    exact ⟨v, ds, rfl, Ho.out, hd, hb, hz⟩

set_option maxRecDepth 100000 in
theorem rmuldiv_bad (a b c how : Int) (w : World) (h : c = 0 ∨ how < 1 ∨ 4 < how) :
    Calls Tryz.prog 31 #[.int .i64 a, .int .i64 b, .int .i64 c, .int .i64 how] w (MulDivPost a b c how w) := by
  have e1 : mdS a b c how = 0 := if_pos h
  have e2 : mdE a b c how = 1 := if_pos h
  have E1 : Hid (mdS a b c how = 0) := e1
  have E2 : Hid (mdE a b c how = 1) := e2
  clear e1 e2
  by_cases h0 : c = 0
  · subst h0
    go_enter Tryz.func31, Tryz.ntmps31
    go_wp2
    go_ret2
    exact ⟨ret_two E1.out.symm E2.out.symm, Below.refl _ _⟩
  have g0 : (c == 0) = false := by simp [h0]
  by_cases h1 : how < 1
  · go_enter Tryz.func31, Tryz.ntmps31
    go_wp2
    go_ret2
    exact ⟨ret_two E1.out.symm E2.out.symm, Below.refl _ _⟩
  have h2 : 4 < how := by omega
  go_enter Tryz.func31, Tryz.ntmps31
  go_wp2
  go_ret2
  exact ⟨ret_two E1.out.symm E2.out.symm, Below.refl _ _⟩

theorem away_1 (r d q : Int) (ng : Bool) (hr : 0 < r) : awayB 1 r d q ng = ng := by
  cases ng
  · exact decide_eq_false (by rintro (h | h | h) <;> simp at h)
  · exact decide_eq_true (Or.inl ⟨rfl, rfl, by omega⟩)
theorem away_2 (r d q : Int) (ng : Bool) (hr : 0 < r) : awayB 2 r d q ng = !ng := by
  cases ng
  · exact decide_eq_true (Or.inr (Or.inl ⟨rfl, rfl, by omega⟩))
  · exact decide_eq_false (by rintro (h | h | h) <;> simp at h)
theorem away_3 (r d q : Int) (ng : Bool) : awayB 3 r d q ng = false := decide_eq_false (by rintro (h | h | h) <;> omega)
theorem away_4l (r d q : Int) (ng : Bool) (h : 2 * r < d) : awayB 4 r d q ng = false := decide_eq_false (by rintro (h | h | h) <;> omega)
theorem away_4g (r d q : Int) (ng : Bool) (h : d < 2 * r) : awayB 4 r d q ng = true := decide_eq_true (Or.inr (Or.inr ⟨rfl, Or.inl h⟩))
theorem away_4e (r d q : Int) (ng : Bool) (h : 2 * r = d) : awayB 4 r d q ng = decide (q % 2 = 1) := by
  by_cases hq : q % 2 = 1
  · rw [decide_eq_true hq]; exact decide_eq_true (Or.inr (Or.inr ⟨rfl, Or.inr ⟨h, hq⟩⟩))
  · rw [decide_eq_false hq]; exact decide_eq_false (by rintro (h | h | h) <;> omega)
theorem md_div (a b c d q r : Int) (h : q * d + r = (a.natAbs : Int) * b.natAbs) (hr : 0 ≤ r ∧ r < d) (hd : d = (c.natAbs : Int)) : (a.natAbs : Int) * b.natAbs / c.natAbs = q ∧ (a.natAbs : Int) * b.natAbs % c.natAbs = r := by
  rw [← hd, ← h]
  exact (Int.ediv_emod_unique (a := q * d + r) (b := d) (r := r) (q := q) (by omega)).2 ⟨by rw [Int.mul_comm d q]; omega, hr.1, hr.2⟩
theorem md_bound (a b d q r : Int) (ha : -9223372036854775808 ≤ a ∧ a ≤ 9223372036854775807) (hb : -9223372036854775808 ≤ b ∧ b ≤ 9223372036854775807) (h : q * d + r = (a.natAbs : Int) * b.natAbs) (hd : 0 < d) (hr : 0 ≤ r) (hq : 0 ≤ q) : 0 ≤ q ∧ q ≤ 85070591730234615865843651857942052864 := by
  refine ⟨hq, ?_⟩
  have h4 : (a.natAbs : Int) * b.natAbs ≤ 9223372036854775808 * 9223372036854775808 := Int.mul_le_mul (by omega) (by omega) (by omega) (by omega)
  have h5 : q * 1 ≤ q * d := Int.mul_le_mul_of_nonneg_left (by omega) hq
  omega
theorem fit_out (n : Int) (h : n < -9223372036854775808 ∨ 9223372036854775807 < n) : fitS n = 0 ∧ fitE n = 9 := ⟨if_neg (by omega), if_neg (by omega)⟩
theorem fit_in (n : Int) (h : -9223372036854775808 ≤ n ∧ n ≤ 9223372036854775807) : fitS n = n ∧ fitE n = 0 := ⟨if_pos h, if_pos h⟩
theorem sgnd_f (n : Int) : sgnd false n = n := rfl
theorem sgnd_t (n : Int) : sgnd true n = - n := rfl
theorem wd_0 (n : Int) : wd 0 n = n := by unfold wd; omega
theorem md_fin_a (hi lo : Int) (ng : Bool) (h1 : 0 ≤ hi ∧ hi < 18446744073709551616) (h2 : 0 ≤ lo ∧ lo < 18446744073709551616) (h : 0 < hi) : fitS (sgnd ng (wd hi lo)) = 0 ∧ fitE (sgnd ng (wd hi lo)) = 9 := by
  have e : 18446744073709551616 ≤ wd hi lo := by unfold wd; omega
  cases ng
  · rw [sgnd_f]; exact fit_out _ (by omega)
  · rw [sgnd_t]; exact fit_out _ (by omega)
theorem md_fin_b (lo : Int) (ng : Bool) (h2 : 0 ≤ lo ∧ lo < 18446744073709551616) (h : 9223372036854775808 < lo) : fitS (sgnd ng (wd 0 lo)) = 0 ∧ fitE (sgnd ng (wd 0 lo)) = 9 := by
  rw [wd_0]
  cases ng
  · rw [sgnd_f]; exact fit_out _ (by omega)
  · rw [sgnd_t]; exact fit_out _ (by omega)
theorem md_fin_p (lo : Int) (h1 : 0 ≤ lo) (h : lo < 9223372036854775808) : fitS (sgnd false (wd 0 lo)) = lo ∧ fitE (sgnd false (wd 0 lo)) = 0 := by
  rw [wd_0, sgnd_f]
  exact fit_in lo (by omega)
theorem md_fin_m (lo : Int) (h1 : 0 ≤ lo) (h : lo < 9223372036854775808) : fitS (sgnd true (wd 0 lo)) = 0 - lo ∧ fitE (sgnd true (wd 0 lo)) = 0 := by
  rw [wd_0, sgnd_t, show (0 - lo : Int) = - lo by omega]
  exact fit_in _ (by omega)
theorem md_fin_c : fitS (sgnd false (wd 0 9223372036854775808)) = 0 ∧ fitE (sgnd false (wd 0 9223372036854775808)) = 9 := by
  rw [wd_0, sgnd_f]
  exact fit_out _ (by omega)
theorem md_fin_d : fitS (sgnd true (wd 0 9223372036854775808)) = -9223372036854775808 ∧ fitE (sgnd true (wd 0 9223372036854775808)) = 0 := by
  rw [wd_0, sgnd_t]
  exact fit_in _ (by omega)
theorem len8 (ds : List Int) (h : Norm ds) : decide (ds.length ≤ 8) = decide (val ds < wd 18446744073709551616 0) := by
  have e : pw 8 = wd 18446744073709551616 0 := by decide
  rw [← e, decide_eq_decide]
  constructor
  · intro h1
    have h2 := val_lt ds h.1
    have h3 := pw_mono h1
    omega
  · intro h1
    rcases Nat.lt_or_ge 8 ds.length with h2 | h2
    · exfalso
      have h3 := val_ge ds h (by intro e; subst e; simp at h2)
      have h4 := pw_mono (show 8 ≤ ds.length - 1 by omega)
      omega
    · exact h2
theorem awayB_zero (how d q : Int) (ng : Bool) (hd : 0 < d) : awayB how (val []) d q ng = false := by
  unfold awayB
  refine decide_eq_false ?_
  simp only [val]
  rintro (h | h | h) <;> omega

set_option maxRecDepth 100000 in
set_option maxHeartbeats 2000000 in
theorem rmuldiv_good (a b c how : Int) (ha : -9223372036854775808 ≤ a ∧ a ≤ 9223372036854775807) (hb : -9223372036854775808 ≤ b ∧ b ≤ 9223372036854775807) (hc : -9223372036854775808 ≤ c ∧ c ≤ 9223372036854775807)
    (w : World) (h0 : c ≠ 0) (h1 : 1 ≤ how) (h2 : how ≤ 4) :
    Calls Tryz.prog 31 #[.int .i64 a, .int .i64 b, .int .i64 c, .int .i64 how] w (MulDivPost a b c how w) := by
  have g0 : (c == 0) = false := by simp [h0]
  go_enter Tryz.func31, Tryz.ntmps31
  go_wp2_with fail
  generalize hng : (!(!decide (a < 0) == decide (b < 0)) == decide (c < 0)) = ng
  have Hng : Hid (ng = negB a b c) := hng.symm
  clear hng
  refine (rsize a ha _).mono ?_
  rintro e w1 ⟨va, da, rfl, hoa, hna, hb1, -⟩
  have Hoa : Hid (Own w.heap.size w1 va da) := hoa
  have HB1 : Hid (Below w.heap.size w w1) := hb1
  clear hoa hb1
  go_wp2_with fail
  refine (rsize b hb _).mono ?_
  rintro e w2 ⟨vb, db, rfl, hob, hnb, hb2, -⟩
  have Hob : Hid (Own w1.heap.size w2 vb db) := hob
  have HB2 : Hid (Below w.heap.size w w2) := HB1.out.trans (hb2.mono HB1.out.size)
  have HDa : Hid (Dig w2 va da) := Dig.below (Own.dig Hoa.out) hb2
  clear hob hb2 HB1 Hoa
  go_wp2_with fail
  refine (rmul da db va vb _ hna.out.1.1 hnb.out.1.1 (by have := hna.out.2.2; omega) (by have := hnb.out.2.2; omega) HDa.out (Own.dig Hob.out)).mono ?_
  rintro e w3 ⟨vp, dp, rfl, hop, hnp, hb3⟩
  have Hop : Hid (Own w2.heap.size w3 vp dp) := hop
  have HB3 : Hid (Below w.heap.size w w3) := HB2.out.trans (hb3.mono HB2.out.size)
  clear hop hb3 HB2 HDa Hob
  go_wp2_with fail
  refine (rsize c hc _).mono ?_
  rintro e w4 ⟨vc, dc, rfl, hoc, hnc, hb4, -⟩
  have Hoc : Hid (Own w3.heap.size w4 vc dc) := hoc
  have HB4 : Hid (Below w.heap.size w w4) := HB3.out.trans (hb4.mono HB3.out.size)
  have HDp : Hid (Dig w4 vp dp) := Dig.below (Own.dig Hop.out) hb4
  clear hoc hb4 HB3 Hop
  go_wp2_with fail
  refine (rdiv dp dc vp vc _ hnp.out.1 hnc.out.1 (by have := hnp.out.2.2; have := hna.out.2.2; have := hnb.out.2.2; omega) (by have := hnc.out.2.2; omega) (by rw [hnc.out.2.1]; omega) HDp.out (Own.dig Hoc.out)).mono ?_
  rintro e w5 ⟨vq, qs, vr, rs, rfl, hoq, hor, hdv, hb5⟩
  have Hoq : Hid (Own w4.heap.size w5 vq qs) := hoq
  have Hor : Hid (Own w4.heap.size w5 vr rs) := hor
  have HB5 : Hid (Below w.heap.size w w5) := HB4.out.trans (hb5.mono HB4.out.size)
  clear hoq hor hb5 HB4 HDp Hoc
  obtain ⟨aq, cq, rfl, -, -, hcq⟩ := Own.dig Hoq.out
  obtain ⟨ar, cr, rfl, -, -, hcr⟩ := Own.dig Hor.out
  have Hcq : Hid _ := hcq
  clear hcq hcr
  obtain ⟨d, hd⟩ : ∃ d : Int, d = (c.natAbs : Int) := ⟨_, rfl⟩
  have hd0 : 0 < d := by omega
  have hd1 : d ≤ 9223372036854775808 := by omega
  have hrv : 0 ≤ val rs ∧ val rs < d := ⟨val_nonneg rs hdv.out.2.1.1, by have := hdv.out.2.2.2.1; rw [hnc.out.2.1, ← hd] at this; exact this⟩
  have Hd : Hid (d = (c.natAbs : Int)) := hd
  clear hd
  have hrl : rs.length ≤ 4 := by have := hdv.out.2.2.2.2.2; have := hnc.out.2.2; omega
  have hql : qs.length ≤ 9 := by have := hdv.out.2.2.2.2.1; have := hnp.out.2.2; have := hna.out.2.2; have := hnb.out.2.2; omega
  have Hrv : Hid _ := hrv
  clear hrv
  go_upto_if 50 with fail
  go_cut [13] (fun m wc => m = .bool (awayB how (val rs) d (val qs) ng) ∧ Hid (Below w5.heap.size w5 wc))
  case first =>
    by_cases hr0 : rs = []
    · have hl0 : (rs.length : Int) = 0 := by rw [hr0]; rfl
      have hl0' : ¬ 0 < rs.length := by omega
      have haw : awayB how (val rs) d (val qs) ng = false := by rw [hr0]; exact awayB_zero how _ _ ng hd0
      have Haw : Hid _ := haw
      clear haw hr0
      go_wp2_with fail
      go_meet
      case rel => exact ⟨by rw [Haw.out], Below.refl _ _⟩
    · have hl0 : 0 < rs.length := List.length_pos_iff.2 hr0
      have hl0' : (0 : Int) < rs.length := by omega
      have hrp : Hid (0 < val rs) := by
        have h5 := val_ge rs hdv.out.2.1 hr0
        have h6 := pw_pos (rs.length - 1)
        show 0 < val rs
        omega
      clear hr0
      go_wp2_with fail
      refine (radd rs rs _ _ _ hdv.out.2.1.1 hdv.out.2.1.1 (by omega) (by omega) (Own.dig Hor.out) (Own.dig Hor.out)).mono ?_
      rintro e w6 ⟨v6, d6, rfl, ho6, hn6, hb6⟩
      have Ho6 : Hid (Own w5.heap.size w6 v6 d6) := ho6
      have HB6 : Hid (Below w5.heap.size w5 w6) := hb6
      clear ho6 hb6
      go_wp2_with fail
      refine (rsize c hc _).mono ?_
      rintro e w7 ⟨v7, d7, rfl, ho7, hn7, hb7, -⟩
      have Ho7 : Hid (Own w6.heap.size w7 v7 d7) := ho7
      have HB7 : Hid (Below w5.heap.size w5 w7) := HB6.out.trans (hb7.mono HB6.out.size)
      have HD6 : Hid (Dig w7 v6 d6) := Dig.below (Own.dig Ho6.out) hb7
      clear ho7 hb7 HB6 Ho6
      go_wp2_with fail
      refine (rcompare d6 d7 v6 v7 _ hn6.out.1 hn7.out.1 (by have := hn6.out.2.2; omega) (by have := hn7.out.2.2; omega) HD6.out (Own.dig Ho7.out)).mono ?_
      rintro e w8 ⟨tw, rfl, btw, htw, k8, rfl⟩
      have htv : (tw < 0 ↔ 2 * val rs < d) ∧ (tw = 0 ↔ 2 * val rs = d) := by
        have h5 := htw.out
        rw [hn6.out.2.1, hn7.out.2.1, ← Hd.out] at h5
        rw [show 2 * val rs = val rs + val rs by omega]
        exact h5
      have Htv : Hid _ := htv
      clear htv htw HD6 Ho7
      by_cases hq0 : 0 < qs.length
      · have hq0' : (0 : Int) < qs.length := by omega
        obtain ⟨gq, eq, hgq, hcq⟩ := Hcq.out (List.length_pos_iff.1 hq0)
        have hc0 := (HB7.out.cell (p := ⟨gq, 0, none⟩) hgq).trans (hcq 0 hq0)
        have hx0 := hdv.out.1.1.get 0
        have hodd : val qs % 2 = qs.getD 0 0 % 2 := by
          have h5 := val_get qs 0 hq0
          rw [List.drop_zero] at h5
          rw [h5]
          omega
        generalize qs.getD 0 0 = x0 at hc0 hx0 hodd
        have Hodd : Hid _ := hodd
        clear hcq hodd
        subst eq
        by_cases ho : x0 % 2 = 1
        · have ho' : (x0 % 2 == 1) = true := by simp [ho]
          have hov : Hid (val qs % 2 = 1) := Hodd.out.trans ho
          clear ho
          by_cases e1 : how = 1
          · subst e1
            cases ng <;> (go_wp2_with fail; go_meet; case rel => exact ⟨congrArg Value.bool (away_1 _ _ _ _ hrp.out).symm, below_drewN HB7.out⟩)
          by_cases e2 : how = 2
          · subst e2
            cases ng <;> (go_wp2_with fail; go_meet; case rel => exact ⟨congrArg Value.bool (by rw [away_2 _ _ _ _ hrp.out]; rfl), below_drewN HB7.out⟩)
          by_cases e3 : how = 3
          · subst e3
            go_wp2_with fail
            go_meet
            case rel => exact ⟨congrArg Value.bool (away_3 _ _ _ _).symm, below_drewN HB7.out⟩
          obtain rfl : how = 4 := by omega
          rcases Int.lt_trichotomy tw 0 with ht | ht | ht
          · have ht' : (tw == 0) = false := by simp; omega
            have hr4 : Hid (awayB 4 (val rs) d (val qs) ng = false) := away_4l _ _ _ _ (Htv.out.1.1 ht)
            have hr6 : Hid (decide (0 < tw) = false) := decide_eq_false (by omega)
            go_wp2_with fail
            go_meet
            case rel => exact ⟨congrArg Value.bool (hr6.out.trans hr4.out.symm), below_drewN HB7.out⟩
          · subst ht
            have hr4 : Hid (awayB 4 (val rs) d (val qs) ng = decide (val qs % 2 = 1)) := away_4e _ _ _ _ (Htv.out.2.1 rfl)
            have hr5 : Hid (decide (val qs % 2 = 1) = true) := decide_eq_true hov.out
            go_wp2_with fail
            go_meet
            case rel => exact ⟨congrArg Value.bool (hr4.out.trans hr5.out).symm, below_drewN HB7.out⟩
          · have hr4 : Hid (awayB 4 (val rs) d (val qs) ng = true) := away_4g _ _ _ _ (by have := Htv.out; omega)
            go_wp2_with fail
            go_meet
            case rel => exact ⟨congrArg Value.bool hr4.out.symm, below_drewN HB7.out⟩
        · have ho' : (x0 % 2 == 1) = false := by simp [ho]
          have hov : Hid (val qs % 2 ≠ 1) := by rw [Hodd.out]; exact ho
          clear ho
          by_cases e1 : how = 1
          · subst e1
            cases ng <;> (go_wp2_with fail; go_meet; case rel => exact ⟨congrArg Value.bool (away_1 _ _ _ _ hrp.out).symm, below_drewN HB7.out⟩)
          by_cases e2 : how = 2
          · subst e2
            cases ng <;> (go_wp2_with fail; go_meet; case rel => exact ⟨congrArg Value.bool (by rw [away_2 _ _ _ _ hrp.out]; rfl), below_drewN HB7.out⟩)
          by_cases e3 : how = 3
          · subst e3
            go_wp2_with fail
            go_meet
            case rel => exact ⟨congrArg Value.bool (away_3 _ _ _ _).symm, below_drewN HB7.out⟩
          obtain rfl : how = 4 := by omega
          rcases Int.lt_trichotomy tw 0 with ht | ht | ht
          · have ht' : (tw == 0) = false := by simp; omega
            have hr4 : Hid (awayB 4 (val rs) d (val qs) ng = false) := away_4l _ _ _ _ (Htv.out.1.1 ht)
            have hr6 : Hid (decide (0 < tw) = false) := decide_eq_false (by omega)
            go_wp2_with fail
            go_meet
            case rel => exact ⟨congrArg Value.bool (hr6.out.trans hr4.out.symm), below_drewN HB7.out⟩
          · subst ht
            have hr4 : Hid (awayB 4 (val rs) d (val qs) ng = decide (val qs % 2 = 1)) := away_4e _ _ _ _ (Htv.out.2.1 rfl)
            have hr5 : Hid (decide (val qs % 2 = 1) = false) := decide_eq_false hov.out
            go_wp2_with fail
            go_meet
            case rel => exact ⟨congrArg Value.bool (hr4.out.trans hr5.out).symm, below_drewN HB7.out⟩
          · have hr4 : Hid (awayB 4 (val rs) d (val qs) ng = true) := away_4g _ _ _ _ (by have := Htv.out; omega)
            go_wp2_with fail
            go_meet
            case rel => exact ⟨congrArg Value.bool hr4.out.symm, below_drewN HB7.out⟩
      · have hq0' : ¬ (0 : Int) < qs.length := by omega
        have hov : Hid (val qs % 2 ≠ 1) := by
          have h5 : qs = [] := List.eq_nil_of_length_eq_zero (by omega)
          rw [h5]
          show val [] % 2 ≠ 1
          decide
        by_cases e1 : how = 1
        · subst e1
          cases ng <;> (go_wp2_with fail; go_meet; case rel => exact ⟨congrArg Value.bool (away_1 _ _ _ _ hrp.out).symm, below_drewN HB7.out⟩)
        by_cases e2 : how = 2
        · subst e2
          cases ng <;> (go_wp2_with fail; go_meet; case rel => exact ⟨congrArg Value.bool (by rw [away_2 _ _ _ _ hrp.out]; rfl), below_drewN HB7.out⟩)
        by_cases e3 : how = 3
        · subst e3
          go_wp2_with fail
          go_meet
          case rel => exact ⟨congrArg Value.bool (away_3 _ _ _ _).symm, below_drewN HB7.out⟩
        obtain rfl : how = 4 := by omega
        rcases Int.lt_trichotomy tw 0 with ht | ht | ht
        · have ht' : (tw == 0) = false := by simp; omega
          have hr4 : Hid (awayB 4 (val rs) d (val qs) ng = false) := away_4l _ _ _ _ (Htv.out.1.1 ht)
          have hr6 : Hid (decide (0 < tw) = false) := decide_eq_false (by omega)
          go_wp2_with fail
          go_meet
          case rel => exact ⟨congrArg Value.bool (hr6.out.trans hr4.out.symm), below_drewN HB7.out⟩
        · subst ht
          have hr4 : Hid (awayB 4 (val rs) d (val qs) ng = decide (val qs % 2 = 1)) := away_4e _ _ _ _ (Htv.out.2.1 rfl)
          have hr5 : Hid (decide (val qs % 2 = 1) = false) := decide_eq_false hov.out
          go_wp2_with fail
          go_meet
          case rel => exact ⟨congrArg Value.bool (hr4.out.trans hr5.out).symm, below_drewN HB7.out⟩
        · have hr4 : Hid (awayB 4 (val rs) d (val qs) ng = true) := away_4g _ _ _ _ (by have := Htv.out; omega)
          go_wp2_with fail
          go_meet
          case rel => exact ⟨congrArg Value.bool hr4.out.symm, below_drewN HB7.out⟩
  case rest =>
    obtain ⟨rfl, hbel⟩ := hcut
    have hmdq : mdQ a b c how = if awayB how (val rs) d (val qs) ng = true then val qs + 1 else val qs := by
      obtain ⟨-, -, h3, h4, -⟩ := hdv.out
      rw [hnp.out.2.1, hnc.out.2.1, hna.out.2.1, hnb.out.2.1, ← Hd.out] at h3
      have h5 := md_div a b c d (val qs) (val rs) h3 Hrv.out Hd.out
      rw [mdQ, h5.1, h5.2, ← Hng.out, ← Hd.out]
    have hqb : 0 ≤ val qs ∧ val qs ≤ 85070591730234615865843651857942052864 := by
      obtain ⟨h0q, -, h3, -⟩ := hdv.out
      rw [hnp.out.2.1, hnc.out.2.1, hna.out.2.1, hnb.out.2.1, ← Hd.out] at h3
      exact md_bound a b d (val qs) (val rs) ha hb h3 hd0 Hrv.out.1 (val_nonneg qs h0q.1)
    have Hqb : Hid _ := hqb
    have Hmdq : Hid _ := hmdq
    clear hmdq hqb
    generalize haw : awayB how (val rs) d (val qs) ng = aw at *
    clear haw
    have hDq : Dig wc (.slice aq qs.length cq) qs := Dig.below (Own.dig Hoq.out) hbel.out
    have HDq : Hid (Dig wc (.slice aq qs.length cq) qs) := hDq
    have HBc : Hid (Below w.heap.size w wc) := HB5.out.trans (hbel.out.mono HB5.out.size)
    clear hDq hbel Hor Hoq Hcq HB5
    obtain ⟨w8, rfl⟩ : ∃ w8 : World, w8 = wc := ⟨_, rfl⟩
    go_upto_if 95 with fail
    go_cut [11] (fun v wc => Hid (∃ ds, Dig wc v ds ∧ Norm ds ∧ val ds = mdQ a b c how ∧ ds.length ≤ 10) ∧ Hid (Below w.heap.size w wc))
    case first =>
      cases aw
      · go_wp2_with fail
        go_meet
        case rel => exact ⟨⟨qs, HDq.out, hdv.out.1, by rw [Hmdq.out]; simp, by omega⟩, HBc.out⟩
      · go_wp2_with fail
        refine (rof 1 _ (by omega)).mono ?_
        rintro e w9 ⟨v9, d9, rfl, ho9, hn9, hb9, -⟩
        have Ho9 : Hid (Own w8.heap.size w9 v9 d9) := ho9
        have HB9 : Hid (Below w.heap.size w w9) := HBc.out.trans (hb9.mono HBc.out.size)
        have HDq9 : Hid (Dig w9 (.slice aq qs.length cq) qs) := Dig.below HDq.out hb9
        clear ho9 hb9
        go_wp2_with fail
        refine (radd qs d9 _ v9 _ hdv.out.1.1 hn9.out.1.1 (by omega) (by have := hn9.out.2.2; omega) HDq9.out (Own.dig Ho9.out)).mono ?_
        rintro e w10 ⟨v10, d10, rfl, ho10, hn10, hb10⟩
        have Ho10 : Hid (Own w9.heap.size w10 v10 d10) := ho10
        have HB10 : Hid (Below w.heap.size w w10) := HB9.out.trans (hb10.mono HB9.out.size)
        clear ho10 hb10
        go_wp2_with fail
        go_meet
        case rel => exact ⟨⟨d10, Own.dig Ho10.out, hn10.out.1, by rw [hn10.out.2.1, hn9.out.2.1, Hmdq.out]; simp, by have := hn10.out.2.2; have := hn9.out.2.2; omega⟩, HB10.out⟩
    case rest =>
      obtain ⟨hv11, hbc⟩ := hcut
      obtain ⟨ds, hD, hN, hV, hL⟩ := hv11.out
      have HD : Hid (Dig wc u11 ds) := hD
      have HN : Hid (Norm ds ∧ val ds = mdQ a b c how) := ⟨hN, hV⟩
      clear hD hN hV
      go_wp2_with fail
      refine (rhalves ds u11 _ HN.out.1.1 (by omega) HD.out).mono ?_
      rintro e w11 ⟨hi, lo, rfl, bhi, blo, hw1, -, rfl⟩
      have hN : wd hi lo = mdQ a b c how := by
        have h5 : mdQ a b c how ≤ 85070591730234615865843651857942052865 := by
          rw [Hmdq.out]
          have := Hqb.out
          split <;> omega
        have h6 := len8 ds HN.out.1
        rw [HN.out.2, decide_eq_true (show mdQ a b c how < wd 18446744073709551616 0 by rw [show wd 18446744073709551616 0 = 340282366920938463463374607431768211456 from rfl]; omega)] at h6
        rw [hw1.out (of_decide_eq_true h6), HN.out.2]
      have hfin : Hid (mdS a b c how = fitS (sgnd ng (wd hi lo)) ∧ mdE a b c how = fitE (sgnd ng (wd hi lo))) := by
        rw [hN]
        refine ⟨?_, ?_⟩
        · rw [mdS, if_neg (by omega), mdN, Hng.out]
        · rw [mdE, if_neg (by omega), mdN, Hng.out]
      clear hN hw1 HN HD hv11 Hmdq Hqb
      generalize decide (ds.length ≤ 8) = fi
      by_cases c1 : 0 < hi
      · have hf := md_fin_a hi lo ng bhi blo c1
        have Hf : Hid _ := hf
        clear hf
        go_wp2
        go_ret2
        exact ⟨ret_two (hfin.out.1.trans Hf.out.1).symm (hfin.out.2.trans Hf.out.2).symm, hbc.out⟩
      obtain rfl : hi = 0 := by omega
      by_cases c2 : 9223372036854775808 < lo
      · have hf := md_fin_b lo ng blo c2
        have Hf : Hid _ := hf
        clear hf
        go_wp2
        go_ret2
        exact ⟨ret_two (hfin.out.1.trans Hf.out.1).symm (hfin.out.2.trans Hf.out.2).symm, hbc.out⟩
      by_cases c3 : lo = 9223372036854775808
      · subst c3
        cases ng
        · have Hf : Hid (fitS (sgnd false (wd 0 9223372036854775808)) = 0 ∧ fitE (sgnd false (wd 0 9223372036854775808)) = 9) := md_fin_c
          go_wp2
          go_ret2
          exact ⟨ret_two (hfin.out.1.trans Hf.out.1).symm (hfin.out.2.trans Hf.out.2).symm, hbc.out⟩
        · have Hf : Hid (fitS (sgnd true (wd 0 9223372036854775808)) = -9223372036854775808 ∧ fitE (sgnd true (wd 0 9223372036854775808)) = 0) := md_fin_d
          go_wp2
          go_ret2
          exact ⟨ret_two (hfin.out.1.trans Hf.out.1).symm (hfin.out.2.trans Hf.out.2).symm, hbc.out⟩
      have c4 : lo < 9223372036854775808 := by omega
      have c3' : (lo == 9223372036854775808) = false := by simp; omega
      cases ng
      · have Hf : Hid (fitS (sgnd false (wd 0 lo)) = lo ∧ fitE (sgnd false (wd 0 lo)) = 0) := md_fin_p lo blo.1 c4
        go_wp2
        go_ret2
        exact ⟨ret_two (hfin.out.1.trans Hf.out.1).symm (hfin.out.2.trans Hf.out.2).symm, hbc.out⟩
      · have Hf : Hid (fitS (sgnd true (wd 0 lo)) = 0 - lo ∧ fitE (sgnd true (wd 0 lo)) = 0) := md_fin_m lo blo.1 c4
        go_wp2
        go_ret2
        exact ⟨ret_two (by rw [hfin.out.1, Hf.out.1]; omega) (hfin.out.2.trans Hf.out.2).symm, hbc.out⟩

theorem rmuldiv (a b c how : Int) (ha : -9223372036854775808 ≤ a ∧ a ≤ 9223372036854775807) (hb : -9223372036854775808 ≤ b ∧ b ≤ 9223372036854775807) (hc : -9223372036854775808 ≤ c ∧ c ≤ 9223372036854775807) (w : World) :
    Calls Tryz.prog 31 #[.int .i64 a, .int .i64 b, .int .i64 c, .int .i64 how] w (MulDivPost a b c how w) := by
  by_cases h : c = 0 ∨ how < 1 ∨ 4 < how
  · exact rmuldiv_bad a b c how w h
  · exact rmuldiv_good a b c how ha hb hc w (by omega) (by omega) (by omega)
end Go.Proofs.YtdfadcbchiogjaaGreat.N1
