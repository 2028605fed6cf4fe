/- layer 13: what so many are worth, of both; the chapter's example -/
import Derived.Test.YtdfadcbchiogjaaGreatA
import Derived.Test.YtdfadcbchiogjaaGreatF5
import Derived.WalkKit
import Derived.ProofKit
import Derived.Handy
import Derived.WalkLawsBesides
import Derived.WalkSpells
import Derived.BigQuiet
import Derived.BigCall
import Derived.Deep.QuietTactic
import Derived.Deep.Light
import Derived.Deep.OwnRows
import Derived.Laws.AppendOwnNone
import Derived.Laws.Strings3
import Derived.Laws.RangeAny
import Derived.Deep.RegionWith
import Derived.Lib.BitFns
import Derived.Lib.Walk
import Derived.Lib.Strings
import Derived.Lib.OthersKept
import Derived.Deep.CutBlock
import Derived.Deep.DeepCutAuto
import Derived.Deep.LoopGhost
import Derived.Deep.RegionHeld3
import Derived.Lib.SmallJoins
import Derived.Maps.AppendAt
import Derived.Laws.IdiomStrings
import Derived.Lib.AppendZeros
import Derived.Deep.WholeRow
import Derived.Laws.BitsAllLaws
import Derived.Lib.ConvBytes
import Derived.Deep.RegionLaw
namespace Go.Proofs.YtdfadcbchiogjaaGreat.H5
open Go.RowKit
set_option linter.unusedVariables false
set_option linter.unusedSimpArgs false
open N1
set_option maxRecDepth 20000
abbrev Rng (n : Int) : Prop := -9223372036854775808 ≤ n ∧ n ≤ 9223372036854775807
theorem md_floor (a b c : Int) (hc : 0 < c) : mdN a b c 1 = a * b / c := by
  have hcn : (c.natAbs : Int) = c := by omega
  have hneg : negB a b c = (decide (a < 0) != decide (b < 0)) := by simp [negB, show ¬ c < 0 by omega]
  have h0 : 0 ≤ (a.natAbs : Int) * b.natAbs := Int.mul_nonneg (by omega) (by omega)
  rw [mdN, mdQ, hcn]
  have hab : ((a.natAbs : Int) * b.natAbs = a * b ∧ negB a b c = false) ∨ ((a.natAbs : Int) * b.natAbs = -(a * b) ∧ negB a b c = true) := by
    rw [hneg]
    by_cases ha : a < 0
    · by_cases hb : b < 0
      · left
        rw [show (a.natAbs : Int) = -a by omega, show (b.natAbs : Int) = -b by omega, Int.neg_mul_neg]
        simp [ha, hb]
      · right
        rw [show (a.natAbs : Int) = -a by omega, show (b.natAbs : Int) = b by omega, Int.neg_mul]
        simp [ha, hb]
    · by_cases hb : b < 0
      · right
        rw [show (a.natAbs : Int) = a by omega, show (b.natAbs : Int) = -b by omega, Int.mul_neg]
        simp [ha, hb]
      · left
        rw [show (a.natAbs : Int) = a by omega, show (b.natAbs : Int) = b by omega]
        simp [ha, hb]
  rcases hab with ⟨e, hn⟩ | ⟨e, hn⟩
  · rw [hn, e]
    simp [awayB, sgnd]
  · rw [hn, e]
    rw [show a * b = -((a.natAbs : Int) * b.natAbs) by omega] at *
    generalize (a.natAbs : Int) * b.natAbs = x at *
    simp only [Int.neg_neg] at *
    have h1 := Int.mul_ediv_add_emod x c
    have h2 := Int.emod_nonneg x (show c ≠ 0 by omega)
    have h3 := Int.emod_lt_of_pos x hc
    by_cases hr : x % c = 0
    · have : awayB 1 (x % c) c (x / c) true = false := by simp [awayB, hr]
      rw [this]
      simp only [sgnd, if_true, if_false, Bool.false_eq_true]
      refine (Int.ediv_eq_iff_of_pos hc).2 ?_ |>.symm
      have e1 : -(x / c) * c = -(c * (x / c)) := by rw [Int.neg_mul, Int.mul_comm]
      omega
    · have : awayB 1 (x % c) c (x / c) true = true := by simp [awayB, hr]
      rw [this]
      simp only [sgnd, if_true]
      refine (Int.ediv_eq_iff_of_pos hc).2 ?_ |>.symm
      have e1 : -(x / c + 1) * c = -(c * (x / c)) - c := by rw [Int.neg_mul, Int.add_mul, Int.mul_comm]; omega
      omega

theorem prod_le (a t B C : Int) (ha : 0 ≤ a ∧ a ≤ B) (ht : 0 ≤ t ∧ t ≤ C) : 0 ≤ a * t ∧ a * t ≤ B * C := by
  have h1 : a * t ≤ a * C := Int.mul_le_mul_of_nonneg_left ht.2 ha.1
  have h2 : a * C ≤ B * C := Int.mul_le_mul_of_nonneg_right ha.2 (by omega)
  have h3 := Int.mul_nonneg ha.1 ht.1
  omega
abbrev Okq (q p : Int) : Prop := (0 ≤ q ∧ q ≤ 1125899906842624) ∧ (1 ≤ p ∧ p ≤ 4294967296)
def woS (q p : Int) : Int := if Okq q p then q * p / 1000000 else 0
def woE (q p : Int) : Int := if Okq q p then 0 else 1
theorem wo_no {q p : Int} (h : ¬ Okq q p) : woS q p = 0 ∧ woE q p = 1 := ⟨if_neg h, if_neg h⟩
theorem wo_yes {q p : Int} (h : Okq q p) : woS q p = q * p / 1000000 ∧ woE q p = 0 := ⟨if_pos h, if_pos h⟩
theorem wo_fits {q p : Int} (h : Okq q p) : 0 ≤ q * p / 1000000 ∧ q * p / 1000000 ≤ 4835703278458516698 := by
  have := prod_le q p 1125899906842624 4294967296 h.1 (by omega)
  generalize q * p = y at *
  omega
theorem wo_rng (q p : Int) : 0 ≤ woS q p ∧ woS q p ≤ 4835703278458516698 := by
  by_cases h : Okq q p
  · rw [(wo_yes h).1]; exact wo_fits h
  · rw [(wo_no h).1]; omega
theorem md_here {q p : Int} (h : Okq q p) : mdS q p 1000000 1 = q * p / 1000000 ∧ mdE q p 1000000 1 = 0 := by
  have hf := wo_fits h
  rw [mdS, mdE, if_neg (by omega), if_neg (by omega), md_floor q p 1000000 (by omega)]
  exact ⟨if_pos (by omega), if_pos (by omega)⟩
def WoP (a e : Int) (w : World) (r : Ending) (w' : World) : Prop := r = .returned (.tuple #[.int .i64 a, .int .i64 e]) ∧ Below w.heap.size w w'
theorem xmd (q p c : Int) (hc : c = 1000000) (h : Okq q p) (w : World) : Calls Tryz.prog 28 #[.int .i64 q, .int .i64 p, .int .i64 c, .int .i64 1] w (WoP (q * p / 1000000) 0 w) := by
  have hm := md_here h
  rw [← hc] at hm ⊢
  refine (xmuldiv q p c 1 (by omega) (by omega) (by omega) w (Or.inr xdiv64)).mono (fun e w' k => ?_)
  obtain ⟨k1, k2⟩ := k
  rw [hm.1, hm.2] at k1
  exact ⟨k1, k2⟩
theorem rmd (q p c : Int) (hc : c = 1000000) (h : Okq q p) (w : World) : Calls Tryz.prog 31 #[.int .i64 q, .int .i64 p, .int .i64 c, .int .i64 1] w (WoP (q * p / 1000000) 0 w) := by
  have hm := md_here h
  rw [← hc] at hm ⊢
  refine (rmuldiv q p c 1 (by omega) (by omega) (by omega) w).mono (fun e w' k => ?_)
  obtain ⟨k1, k2⟩ := k
  rw [hm.1, hm.2] at k1
  exact ⟨k1, k2⟩
def BoP (b : Bool) (w : World) (e : Ending) (w' : World) : Prop := e = .returned (.bool b) ∧ w = w'
def gpB (p : Int) : Bool := decide (1 ≤ p ∧ p ≤ 4294967296)
theorem xgp (p : Int) (w : World) : Calls Tryz.prog 82 #[.int .i64 p] w (BoP (gpB p) w) := by
  go_enter Tryz.func82, Tryz.ntmps82
  go_wp2
  all_goals go_ret
  all_goals exact ⟨ret_bool (by unfold gpB; symm; first | exact decide_eq_true (by omega) | exact decide_eq_false (by omega) | (simp; omega)), rfl⟩
set_option maxHeartbeats 4000000 in
theorem xworth (q p : Int) (w : World) : Calls Tryz.prog 66 #[.int .i64 q, .int .i64 p] w (WoP (woS q p) (woE q p) w) := by
  have HB : Hid (Below w.heap.size w w) := Below.refl _ w
  by_cases h1 : q < 0
  · rw [(wo_no (q := q) (p := p) (by omega)).1, (wo_no (q := q) (p := p) (by omega)).2]
    go_enter Tryz.func66, Tryz.ntmps66
    go_wp2_with fail
    go_ret2
    exact ⟨rfl, HB.out⟩
  by_cases h2 : 1125899906842624 < q
  · rw [(wo_no (q := q) (p := p) (by omega)).1, (wo_no (q := q) (p := p) (by omega)).2]
    go_enter Tryz.func66, Tryz.ntmps66
    go_wp2_with fail
    go_ret2
    exact ⟨rfl, HB.out⟩
  have HG : Hid (∀ w, Calls Tryz.prog 82 #[.int .i64 p] w (BoP (gpB p) w)) := fun w => xgp p w
  by_cases h3 : 1 ≤ p ∧ p ≤ 4294967296
  · have hy : Okq q p := ⟨by omega, h3⟩
    rw [(wo_yes hy).1, (wo_yes hy).2]
    have hg : gpB p = true := decide_eq_true h3
    rw [hg] at HG
    have HM : Hid (∀ c, c = 1000000 → Calls Tryz.prog 28 #[.int .i64 q, .int .i64 p, .int .i64 c, .int .i64 1] w (WoP (q * p / 1000000) 0 w)) := fun c hc => xmd q p c hc hy w
    clear hg hy
    generalize q * p / 1000000 = r at *
    go_enter Tryz.func66, Tryz.ntmps66
    go_wp2_with (first | (go_at_call 82; refine (HG.out _).mono ?_; rintro e w1 ⟨rfl, rfl⟩) | (go_at_call 28; refine (HM.out _ rfl).mono ?_; rintro e w1 ⟨rfl, HB1⟩))
    go_ret2
    exact ⟨rfl, HB1⟩
  · rw [(wo_no (q := q) (p := p) (by omega)).1, (wo_no (q := q) (p := p) (by omega)).2]
    have hg : gpB p = false := decide_eq_false h3
    rw [hg] at HG
    clear hg
    go_enter Tryz.func66, Tryz.ntmps66
    go_wp2_with (go_at_call 82; refine (HG.out _).mono ?_; rintro e w1 ⟨rfl, rfl⟩)
    go_ret2
    exact ⟨rfl, HB.out⟩
set_option maxHeartbeats 4000000 in
theorem rworth (q p : Int) (w : World) : Calls Tryz.prog 72 #[.int .i64 q, .int .i64 p] w (WoP (woS q p) (woE q p) w) := by
  have HB : Hid (Below w.heap.size w w) := Below.refl _ w
  have no : (q < 0 ∨ 1125899906842624 < q ∨ p < 1 ∨ 4294967296 < p) → woS q p = 0 ∧ woE q p = 1 := fun h => wo_no (by omega)
  by_cases h1 : q < 0
  · rw [(no (by omega)).1, (no (by omega)).2]
    clear no
    go_enter Tryz.func72, Tryz.ntmps72
    go_wp2_with fail
    go_ret2
    exact ⟨rfl, HB.out⟩
  by_cases h2 : 1125899906842624 < q
  · rw [(no (by omega)).1, (no (by omega)).2]
    clear no
    go_enter Tryz.func72, Tryz.ntmps72
    go_wp2_with fail
    go_ret2
    exact ⟨rfl, HB.out⟩
  by_cases h3 : p < 1
  · rw [(no (by omega)).1, (no (by omega)).2]
    clear no
    go_enter Tryz.func72, Tryz.ntmps72
    go_wp2_with fail
    go_ret2
    exact ⟨rfl, HB.out⟩
  by_cases h4 : 4294967296 < p
  · rw [(no (by omega)).1, (no (by omega)).2]
    clear no
    go_enter Tryz.func72, Tryz.ntmps72
    go_wp2_with fail
    go_ret2
    exact ⟨rfl, HB.out⟩
  · have hy : Okq q p := ⟨by omega, by omega⟩
    rw [(wo_yes hy).1, (wo_yes hy).2]
    have HM : Hid (∀ c, c = 1000000 → Calls Tryz.prog 31 #[.int .i64 q, .int .i64 p, .int .i64 c, .int .i64 1] w (WoP (q * p / 1000000) 0 w)) := fun c hc => rmd q p c hc hy w
    clear hy no
    generalize q * p / 1000000 = r at *
    go_enter Tryz.func72, Tryz.ntmps72
    go_wp2_with (go_at_call 31; refine (HM.out _ rfl).mono ?_; rintro e w1 ⟨rfl, HB1⟩)
    go_ret2
    exact ⟨rfl, HB1⟩
def OkP (w : World) (e : Ending) (w' : World) : Prop := e = .returned (.bool true) ∧ Below w.heap.size w w'
end Go.Proofs.YtdfadcbchiogjaaGreat.H5
