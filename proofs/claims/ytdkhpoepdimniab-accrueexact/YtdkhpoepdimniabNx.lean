/- AccrueExact: for every input the law returns true. No condition. Here: the walk of the law itself, out of the walks of what it calls. -/
import Derived.Test.YtdkhpoepdimniabNg
import Derived.WalkKit
import Derived.ProofKit
import Derived.Handy
import Derived.WalkLawsBesides
import Derived.WalkSpells
import Derived.BigQuiet
import Derived.Deep.QuietTactic
import Derived.Deep.Light
import Derived.Deep.OwnRows
import Derived.Laws.AppendOwnNone
import Derived.Deep.RegionWith
import Derived.Lib.BitFns
import Derived.Lib.Walk
import Derived.Deep.CutBlock
import Derived.Deep.DeepCutAuto
import Derived.Deep.LoopGhost
import Derived.Deep.RegionHeld3
import Derived.Lib.SmallJoins
namespace Go.Proofs.Ytdkhpoepdimniab
open Go.RowKit
set_option linter.unusedVariables false
set_option linter.unusedSimpArgs false

theorem md_ceil (a b c : Int) (hc : 0 < c) : mdN a b c 2 = -(-(a * b) / c) := by
  have hcn : (c.natAbs : Int) = c := by omega
  have hneg : negB a b c = (decide (a < 0) != decide (b < 0)) := by simp [negB, show ¬ c < 0 by omega]
  have h0 : 0 ≤ (a.natAbs : Int) * b.natAbs := Int.mul_nonneg (by omega) (by omega)
  rw [mdN, mdQ, hcn]
  have hab : ((a.natAbs : Int) * b.natAbs = a * b ∧ negB a b c = false) ∨ ((a.natAbs : Int) * b.natAbs = -(a * b) ∧ negB a b c = true) := by
    rw [hneg]
    by_cases ha : a < 0
    · by_cases hb : b < 0
      · left
        rw [show (a.natAbs : Int) = -a by omega, show (b.natAbs : Int) = -b by omega, Int.neg_mul_neg]
        simp [ha, hb]
      · right
        rw [show (a.natAbs : Int) = -a by omega, show (b.natAbs : Int) = b by omega, Int.neg_mul]
        simp [ha, hb]
    · by_cases hb : b < 0
      · right
        rw [show (a.natAbs : Int) = a by omega, show (b.natAbs : Int) = -b by omega, Int.mul_neg]
        simp [ha, hb]
      · left
        rw [show (a.natAbs : Int) = a by omega, show (b.natAbs : Int) = b by omega]
        simp [ha, hb]
  rcases hab with ⟨e, hn⟩ | ⟨e, hn⟩
  · rw [hn, e]
    rw [e] at h0
    generalize a * b = x at *
    have h1 := Int.mul_ediv_add_emod x c
    have h2 := Int.emod_nonneg x (show c ≠ 0 by omega)
    have h3 := Int.emod_lt_of_pos x hc
    by_cases hr : x % c = 0
    · have : awayB 2 (x % c) c (x / c) false = false := by simp [awayB, hr]
      rw [this]
      simp only [sgnd, if_false, Bool.false_eq_true]
      have : -x / c = -(x / c) := by
        refine (Int.ediv_eq_iff_of_pos hc).2 ?_
        have e1 : -(x / c) * c = -(c * (x / c)) := by rw [Int.neg_mul, Int.mul_comm]
        omega
      omega
    · have : awayB 2 (x % c) c (x / c) false = true := by simp [awayB, hr]
      rw [this]
      simp only [sgnd, if_true, if_false, Bool.false_eq_true]
      have : -x / c = -(x / c + 1) := by
        refine (Int.ediv_eq_iff_of_pos hc).2 ?_
        have e1 : -(x / c + 1) * c = -(c * (x / c)) - c := by rw [Int.neg_mul, Int.add_mul, Int.mul_comm]; omega
        omega
      omega
  · rw [hn, e]
    simp [awayB, sgnd]
theorem ceil_here (a b : Int) (h : I64 (-(-(a * b) / 360000000))) : mdS a b 360000000 2 = -(-(a * b) / 360000000) ∧ mdE a b 360000000 2 = 0 := by
  rw [mdS, mdE, if_neg (by omega), if_neg (by omega), md_ceil a b 360000000 (by omega)]
  exact ⟨if_pos h, if_pos h⟩
theorem rmc (a b c : Int) (hc : c = 360000000) (ha : I64 a) (hb : I64 b) (hf : I64 (-(-(a * b) / 360000000))) (w : World) : Calls Try.prog 6 #[.int .i64 a, .int .i64 b, .int .i64 c, .int .i64 2] w (FloorPost (-(-(a * b) / 360000000)) w) := by
  have hm := ceil_here a b hf
  rw [← hc] at hm ⊢
  exact (rmuldiv a b c 2 ha hb (by omega) w).mono (fun e w' h => h.floor hm.1 hm.2)

set_option maxHeartbeats 4000000 in
set_option maxRecDepth 100000 in
theorem exact_walk (a r n : Int) (w : World) (ha : I64 a) (hr : I64 r) (hn : I64 n) :
    Calls Try.prog 3 #[.int .i64 a, .int .i64 r, .int .i64 n] w (TruePost w) := by
  have HA : Hid (I64 a ∧ I64 r ∧ I64 n) := ⟨ha, hr, hn⟩
  by_cases hok : Amt a ∧ Rtd r ∧ Spn n
  case neg =>
    have hs := sim_no hok
    have HS : Hid _ := hs
    clear hs hok
    go_enter Try.func3, Try.ntmps3
    go_wp2_with fail
    refine (xsimple a r n HA.out.1 HA.out.2.1 HA.out.2.2 _).mono ?_
    rintro e w1 ⟨rfl, hb1⟩
    rw [HS.out.1, HS.out.2]
    go_wp2_with fail
    refine (awake_true _).mono ?_
    rintro e w2 ⟨rfl, hb2⟩
    go_wp2
    go_ret
    exact ⟨rfl, hb1.trans (hb2.mono hb1.size)⟩
  have h1 := sim_yes hok
  have h2 := sim_yes (a := a) (t := -r) (n := n) ⟨hok.1, ⟨by omega, by omega⟩, hok.2.2⟩
  have hneg : a * (-r * n) = -(a * (r * n)) := by
    rw [Int.neg_mul, Int.mul_neg]
  rw [hneg] at h2
  have hb := tn_bound hok.2.1 hok.2.2
  have hfit := prod_le a (r * n) 1125899906842624 3660000000 hok.1 hb (by omega)
  have hr' : Rtd r := hok.2.1
  have HB : Hid (I64 (r * n)) := ⟨by omega, by omega⟩
  have Hw : Hid (wrap64 (r * n) = r * n) := by
    show wrap64 (r * n) = r * n
    unfold wrap64
    omega
  have HF : Hid (I64 (-(-(a * (r * n)) / 360000000))) := by
    generalize a * (r * n) = x at *
    exact ⟨by omega, by omega⟩
  have H1 : Hid _ := h1
  have H2 : Hid _ := h2
  clear h1 h2 hneg hb hok
  go_enter Try.func3, Try.ntmps3
  go_wp2_with fail
  refine (xsimple a r n HA.out.1 HA.out.2.1 HA.out.2.2 _).mono ?_
  rintro e w1 ⟨rfl, hb1⟩
  rw [H1.out.1, H1.out.2]
  have W1 : Hid (Below w.heap.size w w1) := hb1
  clear hb1
  go_wp2_with fail
  rw [Hw.out]
  refine (rmc a (r * n) _ rfl HA.out.1 HB.out HF.out _).mono ?_
  rintro e w2 ⟨rfl, hb2⟩
  have W2 : Hid (Below w.heap.size w w2) := W1.out.trans (hb2.mono W1.out.size)
  clear hb2
  go_wp2_with fail
  refine (xsimple a (-r) n HA.out.1 ⟨by omega, by omega⟩ HA.out.2.2 _).mono ?_
  rintro e w3 ⟨rfl, hb3⟩
  rw [H2.out.1, H2.out.2]
  have W3 : Hid (Below w.heap.size w w3) := W2.out.trans (hb3.mono W2.out.size)
  clear hb3
  generalize a * (r * n) = x at *
  have e1 : -(-x / 360000000) = x / 360000000 ∨ -(-x / 360000000) = x / 360000000 + 1 := by omega
  have e2 : -x / 360000000 = -(-(-x / 360000000)) := by omega
  have e3 : -12000000000000000 ≤ x / 360000000 ∧ x / 360000000 ≤ 12000000000000000 := by omega
  generalize -(-x / 360000000) = u at *
  rw [e2]
  generalize x / 360000000 = p at *
  clear e2 H1 H2 HF hfit
  rcases e1 with rfl | rfl
  all_goals
    go_wp2_with fail
    refine (awake_true _).mono ?_
    rintro e w4 ⟨rfl, hb4⟩
    go_wp2
    go_ret
    exact ⟨rfl, W3.out.trans (hb4.mono W3.out.size)⟩
end Go.Proofs.Ytdkhpoepdimniab
