/- The walk of Day of the reference. Conditions: the arguments are ints. -/
import Derived.Test.YtdkhpoepdimniaaNd
import Derived.WalkKit
import Derived.ProofKit
import Derived.Handy
import Derived.WalkLawsBesides
import Derived.WalkSpells
import Derived.BigQuiet
import Derived.Deep.QuietTactic
import Derived.Deep.Light
import Derived.Deep.OwnRows
import Derived.Laws.AppendOwnNone
import Derived.Deep.RegionWith
import Derived.Lib.BitFns
import Derived.Lib.Walk
import Derived.Deep.CutBlock
import Derived.Deep.DeepCutAuto
import Derived.Deep.LoopGhost
import Derived.Deep.RegionHeld3
import Derived.Lib.SmallJoins
namespace Go.Proofs.Ytdkhpoepdimniaa
open Go.RowKit
set_option linter.unusedVariables false
set_option linter.unusedSimpArgs false
/-- what is left, with the dividend's sign -/
def RestOf (x m : Int) : Prop := (-360000000 < m ∧ m < 360000000) ∧ (m < 0 → m + 360000000 = x % 360000000) ∧ (0 ≤ m → m = x % 360000000)
theorem tm (x : Int) : ∃ k, x.tmod 360000000 = x - 360000000 * k ∧ -360000000 < x.tmod 360000000 ∧ x.tmod 360000000 < 360000000 := by
  have h1 := Int.mul_tdiv_add_tmod x 360000000
  refine ⟨x.tdiv 360000000, by omega, ?_, Int.tmod_lt_of_pos x (by omega)⟩
  have h2 := Int.tmod_lt_of_pos (-x) (b := 360000000) (by omega)
  rw [Int.neg_tmod] at h2
  omega
theorem rest_of (a t : Int) (ha : Amt a) (ht : Rtd t) : RestOf (a * t) ((wrap64 ((wrap64 ((wrap64 (a / 1048576 % 360000000 * t)).tmod 360000000 * 1048576)).tmod 360000000 + (wrap64 (a % 1048576 * t)).tmod 360000000)).tmod 360000000) := by
  have b0 : 0 ≤ a / 1048576 % 360000000 ∧ a / 1048576 % 360000000 ≤ 360000000 := by omega
  have b1 := prod_le (a / 1048576 % 360000000) t 360000000 1000000 b0 ht (by omega)
  have b2 : 0 ≤ a % 1048576 ∧ a % 1048576 ≤ 1048576 := by omega
  have b3 := prod_le (a % 1048576) t 1048576 1000000 b2 ht (by omega)
  have e : a * t = (a / 1048576 % 360000000 * t) * 1048576 + a % 1048576 * t + 360000000 * (a / 1048576 / 360000000 * t * 1048576) := by
    have h1 : a = (a / 1048576 % 360000000 + 360000000 * (a / 1048576 / 360000000)) * 1048576 + a % 1048576 := by omega
    generalize a / 1048576 % 360000000 = p at h1 ⊢
    generalize a / 1048576 / 360000000 = q at h1 ⊢
    generalize a % 1048576 = l at h1 ⊢
    rw [h1]
    grind
  generalize a / 1048576 % 360000000 * t = p at *
  generalize a / 1048576 / 360000000 * t * 1048576 = k0 at *
  generalize a % 1048576 * t = l at *
  rw [show wrap64 p = p by unfold wrap64; omega, show wrap64 l = l by unfold wrap64; omega]
  obtain ⟨k1, h1, h2⟩ := tm p
  obtain ⟨k3, h5, h6⟩ := tm l
  generalize p.tmod 360000000 = p' at *
  generalize l.tmod 360000000 = l' at *
  rw [show wrap64 (p' * 1048576) = p' * 1048576 by unfold wrap64; omega]
  obtain ⟨k2, h3, h4⟩ := tm (p' * 1048576)
  generalize (p' * 1048576).tmod 360000000 = y at *
  rw [show wrap64 (y + l') = y + l' by unfold wrap64; omega]
  obtain ⟨k4, h7, h8⟩ := tm (y + l')
  generalize (y + l').tmod 360000000 = m at *
  generalize a * t = x at *
  refine ⟨h8, fun _ => ?_, fun _ => ?_⟩ <;> omega
set_option maxHeartbeats 4000000 in
set_option maxRecDepth 100000 in
theorem rday (u r a t : Int) (hu : I64 u) (hr : I64 r) (ha : I64 a) (ht : I64 t) (w : World) : Calls Try.prog 13 #[.agg #[.int .i64 u, .int .i64 r], .int .i64 a, .int .i64 t] w (DayPost u r a t w) := by
  go_enter Try.func13, Try.ntmps13
  go_wp2_with fail
  refine (rga a _).mono ?_
  rintro e w1 ⟨rfl, rfl⟩
  cases h1 : amtB a
  · have H : Hid _ := day_no (u := u) (r := r) (a := a) (t := t) (fun h => amtB_f h1 h.1)
    clear h1
    go_wp2
    go_returns
    exact ⟨ret_meter H.out.1 H.out.2.1 H.out.2.2, by go_grown⟩
  have A1 : Hid _ := amtB_t h1
  clear h1
  go_wp2_with fail
  refine (rgr t _).mono ?_
  rintro e w1 ⟨rfl, rfl⟩
  cases h2 : rtdB t
  · have H : Hid _ := day_no (u := u) (r := r) (a := a) (t := t) (fun h => rtdB_f h2 h.2.1)
    clear h2
    go_wp2
    go_returns
    exact ⟨ret_meter H.out.1 H.out.2.1 H.out.2.2, by go_grown⟩
  have A2 : Hid _ := rtdB_t h2
  clear h2
  by_cases h3 : r < 0
  · have H : Hid _ := day_no (u := u) (r := r) (a := a) (t := t) (fun h => by have := h.2.2; omega)
    go_wp2
    go_returns
    exact ⟨ret_meter H.out.1 H.out.2.1 H.out.2.2, by go_grown⟩
  by_cases h4 : 360000000 ≤ r
  · have H : Hid _ := day_no (u := u) (r := r) (a := a) (t := t) (fun h => by have := h.2.2; omega)
    go_wp2
    go_returns
    exact ⟨ret_meter H.out.1 H.out.2.1 H.out.2.2, by go_grown⟩
  have HO : Hid (dayOk r a t) := ⟨A1.out, A2.out, by omega, by omega⟩
  have hb := at_bound A1.out A2.out
  have HT : Hid (Two w 30 u r 0 0 _) := Two.new w 30 u r 0 0
  go_wp2_with fail
  refine (rmd a t _ rfl ha ht ⟨by omega, by omega⟩ _).mono ?_
  rintro e w1 ⟨rfl, hb1⟩
  have HT1 : Hid (Two w 30 u r 0 0 w1) := HT.out.below hb1
  clear HT hb1
  have f0 := HT1.out.c0
  have f1 := HT1.out.c1
  have f2 := HT1.out.d0
  have f3 := HT1.out.d1
  have g0 := HT1.out.fr2 0
  have g1 := HT1.out.fr2 1
  have hx : Hid (dayW u r a t = u + (r + a * t) / 360000000) := rfl
  have D1 := fun h2 => (day_over (u := u) HO.out h2)
  have D2 := fun h2 => (day_yes (u := u) HO.out h2)
  rw [hx.out] at D1 D2
  have HD1 : Hid _ := D1
  have HD2 : Hid _ := D2
  have ha' := A1.out
  have ht' := A2.out
  have HK : Hid (RestOf (a * t) ((wrap64 ((wrap64 ((wrap64 (a / 1048576 % 360000000 * t)).tmod 360000000 * 1048576)).tmod 360000000 + (wrap64 (a % 1048576 * t)).tmod 360000000)).tmod 360000000)) := rest_of a t A1.out A2.out
  clear D1 D2 hx HO
  go_upto_region 7 with fail
  generalize (wrap64 ((wrap64 ((wrap64 (a / 1048576 % 360000000 * t)).tmod 360000000 * 1048576)).tmod 360000000 + (wrap64 (a % 1048576 * t)).tmod 360000000)).tmod 360000000 = m at *
  have hk := HK.out
  clear HK
  unfold RestOf at hk
  obtain ⟨k1, k2, k3⟩ := hk
  generalize a * t = x at *
  have hz : 0 ≤ x % 360000000 ∧ x % 360000000 < 360000000 := by omega
  by_cases hm : m < 0
  · have k4 := k2 hm
    clear k2 k3
    obtain rfl : m = x % 360000000 - 360000000 := by omega
    by_cases hc : 360000000 ≤ x % 360000000 + r
    · have HE : Hid (u + (x / 360000000 + 1) = u + (r + x) / 360000000 ∧ x % 360000000 + r - 360000000 = (r + x) % 360000000) := ⟨by omega, by omega⟩
      have hq : I64 (x / 360000000 + 1) := ⟨by omega, by omega⟩
      go_wp2_with fail
      refine (rplus u (x / 360000000 + 1) hu hq _).mono ?_
      rintro e w2 ⟨rfl, rfl⟩
      by_cases hfit : I64 (u + (x / 360000000 + 1))
      · rw [(fit_in _ hfit).1, (fit_in _ hfit).2]
        have H : Hid _ := HD2.out (by rw [← HE.out.1]; exact hfit)
        go_wp2_with fail
        refine bodyPost_ret (by simp [results, Try.results13, go_sem, f0, f1, f2, f3]; try rfl) rfl ?_
        exact ⟨ret_meter (HE.out.1.trans H.out.1) (HE.out.2.trans H.out.2.1) H.out.2.2, (HT1.out.bel.setCell (Nat.le_succ _) _).setCell (Nat.le_succ _) _⟩
      · rw [(fit_out _ (by omega)).1, (fit_out _ (by omega)).2]
        have H : Hid _ := HD1.out (by rw [← HE.out.1]; exact hfit)
        go_wp2_with fail
        refine bodyPost_ret (by simp [results, Try.results13, go_sem, f0, f1, f2, f3]; try rfl) rfl ?_
        exact ⟨ret_meter H.out.1 H.out.2.1 H.out.2.2, (HT1.out.bel.setCell (Nat.le_succ _) _).setCell (Nat.le_succ _) _⟩
    · have HE : Hid (u + x / 360000000 = u + (r + x) / 360000000 ∧ x % 360000000 + r = (r + x) % 360000000) := ⟨by omega, by omega⟩
      have hq : I64 (x / 360000000) := ⟨by omega, by omega⟩
      go_wp2_with fail
      refine (rplus u (x / 360000000) hu hq _).mono ?_
      rintro e w2 ⟨rfl, rfl⟩
      by_cases hfit : I64 (u + (x / 360000000))
      · rw [(fit_in _ hfit).1, (fit_in _ hfit).2]
        have H : Hid _ := HD2.out (by rw [← HE.out.1]; exact hfit)
        go_wp2_with fail
        refine bodyPost_ret (by simp [results, Try.results13, go_sem, f0, f1, f2, f3]; try rfl) rfl ?_
        exact ⟨ret_meter (HE.out.1.trans H.out.1) (HE.out.2.trans H.out.2.1) H.out.2.2, (HT1.out.bel.setCell (Nat.le_succ _) _).setCell (Nat.le_succ _) _⟩
      · rw [(fit_out _ (by omega)).1, (fit_out _ (by omega)).2]
        have H : Hid _ := HD1.out (by rw [← HE.out.1]; exact hfit)
        go_wp2_with fail
        refine bodyPost_ret (by simp [results, Try.results13, go_sem, f0, f1, f2, f3]; try rfl) rfl ?_
        exact ⟨ret_meter H.out.1 H.out.2.1 H.out.2.2, (HT1.out.bel.setCell (Nat.le_succ _) _).setCell (Nat.le_succ _) _⟩
  · have k4 := k3 (by omega)
    clear k2 k3
    subst k4
    by_cases hc : 360000000 ≤ x % 360000000 + r
    · have HE : Hid (u + (x / 360000000 + 1) = u + (r + x) / 360000000 ∧ x % 360000000 + r - 360000000 = (r + x) % 360000000) := ⟨by omega, by omega⟩
      have hq : I64 (x / 360000000 + 1) := ⟨by omega, by omega⟩
      go_wp2_with fail
      refine (rplus u (x / 360000000 + 1) hu hq _).mono ?_
      rintro e w2 ⟨rfl, rfl⟩
      by_cases hfit : I64 (u + (x / 360000000 + 1))
      · rw [(fit_in _ hfit).1, (fit_in _ hfit).2]
        have H : Hid _ := HD2.out (by rw [← HE.out.1]; exact hfit)
        go_wp2_with fail
        refine bodyPost_ret (by simp [results, Try.results13, go_sem, f0, f1, f2, f3]; try rfl) rfl ?_
        exact ⟨ret_meter (HE.out.1.trans H.out.1) (HE.out.2.trans H.out.2.1) H.out.2.2, (HT1.out.bel.setCell (Nat.le_succ _) _).setCell (Nat.le_succ _) _⟩
      · rw [(fit_out _ (by omega)).1, (fit_out _ (by omega)).2]
        have H : Hid _ := HD1.out (by rw [← HE.out.1]; exact hfit)
        go_wp2_with fail
        refine bodyPost_ret (by simp [results, Try.results13, go_sem, f0, f1, f2, f3]; try rfl) rfl ?_
        exact ⟨ret_meter H.out.1 H.out.2.1 H.out.2.2, (HT1.out.bel.setCell (Nat.le_succ _) _).setCell (Nat.le_succ _) _⟩
    · have HE : Hid (u + x / 360000000 = u + (r + x) / 360000000 ∧ x % 360000000 + r = (r + x) % 360000000) := ⟨by omega, by omega⟩
      have hq : I64 (x / 360000000) := ⟨by omega, by omega⟩
      go_wp2_with fail
      refine (rplus u (x / 360000000) hu hq _).mono ?_
      rintro e w2 ⟨rfl, rfl⟩
      by_cases hfit : I64 (u + (x / 360000000))
      · rw [(fit_in _ hfit).1, (fit_in _ hfit).2]
        have H : Hid _ := HD2.out (by rw [← HE.out.1]; exact hfit)
        go_wp2_with fail
        refine bodyPost_ret (by simp [results, Try.results13, go_sem, f0, f1, f2, f3]; try rfl) rfl ?_
        exact ⟨ret_meter (HE.out.1.trans H.out.1) (HE.out.2.trans H.out.2.1) H.out.2.2, (HT1.out.bel.setCell (Nat.le_succ _) _).setCell (Nat.le_succ _) _⟩
      · rw [(fit_out _ (by omega)).1, (fit_out _ (by omega)).2]
        have H : Hid _ := HD1.out (by rw [← HE.out.1]; exact hfit)
        go_wp2_with fail
        refine bodyPost_ret (by simp [results, Try.results13, go_sem, f0, f1, f2, f3]; try rfl) rfl ?_
        exact ⟨ret_meter H.out.1 H.out.2.1 H.out.2.2, (HT1.out.bel.setCell (Nat.le_succ _) _).setCell (Nat.le_succ _) _⟩
end Go.Proofs.Ytdkhpoepdimniaa
