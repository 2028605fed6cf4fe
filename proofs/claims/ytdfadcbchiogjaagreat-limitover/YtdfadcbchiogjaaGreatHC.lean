/- layer 15: Cover, Least and Most of the document, reckoned back -/
import Derived.Test.YtdfadcbchiogjaaGreatHB
import Derived.WalkKit
import Derived.ProofKit
import Derived.Handy
import Derived.WalkLawsBesides
import Derived.WalkSpells
import Derived.BigQuiet
import Derived.BigCall
import Derived.Deep.QuietTactic
import Derived.Deep.Light
import Derived.Deep.OwnRows
import Derived.Laws.AppendOwnNone
import Derived.Laws.Strings3
import Derived.Laws.RangeAny
import Derived.Deep.RegionWith
import Derived.Lib.BitFns
import Derived.Lib.Walk
import Derived.Lib.Strings
import Derived.Lib.OthersKept
import Derived.Deep.CutBlock
import Derived.Deep.DeepCutAuto
import Derived.Deep.LoopGhost
import Derived.Deep.RegionHeld3
import Derived.Lib.SmallJoins
import Derived.Maps.AppendAt
import Derived.Laws.IdiomStrings
import Derived.Lib.AppendZeros
import Derived.Deep.WholeRow
import Derived.Laws.BitsAllLaws
import Derived.Lib.ConvBytes
import Derived.Deep.RegionLaw
namespace Go.Proofs.YtdfadcbchiogjaaGreat.H5
open Go.RowKit
set_option linter.unusedVariables false
set_option linter.unusedSimpArgs false
set_option maxRecDepth 20000
open N1
theorem rgood (p c : Int) (w : World) : Calls Tryz.prog 71 #[.int .i64 p, .int .i64 c] w (BoP (gdB p c) w) := by
  go_enter Tryz.func71, Tryz.ntmps71
  go_wp2
  all_goals go_ret
  all_goals exact ⟨ret_bool (by unfold gdB; symm; first | exact decide_eq_true (by omega) | exact decide_eq_false (by omega) | (rw [Bool.eq_iff_iff, decide_eq_true_iff, decide_eq_true_iff]; omega)), rfl⟩
theorem rmd2 (x d u : Int) (hu : u = 1000000) (hx : 0 ≤ x ∧ x ≤ 4835703278458516698) (hd : 0 ≤ d ∧ d ≤ 1000000) (w : World) : Calls Tryz.prog 31 #[.int .i64 x, .int .i64 d, .int .i64 u, .int .i64 1] w (WoP (x * d / 1000000) 0 w) := by
  have h1 : 0 ≤ x * d := Int.mul_nonneg hx.1 (by omega)
  have h2 : x * d ≤ x * 1000000 := Int.mul_le_mul_of_nonneg_left (by omega) hx.1
  have hm : mdS x d 1000000 1 = x * d / 1000000 ∧ mdE x d 1000000 1 = 0 := by
    rw [mdS, mdE, if_neg (by omega), if_neg (by omega), md_floor x d 1000000 (by omega)]
    generalize x * d = y at *
    exact ⟨if_pos (by omega), if_pos (by omega)⟩
  rw [← hu] at hm ⊢
  refine (rmuldiv x d u 1 (by omega) (by omega) (by omega) w).mono (fun e w' k => ?_)
  obtain ⟨k1, k2⟩ := k
  rw [hm.1, hm.2] at k1
  exact ⟨k1, k2⟩
theorem rup (a d u : Int) (hu : u = 1000000) (ha : 0 ≤ a ∧ a ≤ 9223372036854775807) (hd : 0 < d ∧ d ≤ 4294967296) (w : World) : Calls Tryz.prog 31 #[.int .i64 a, .int .i64 u, .int .i64 d, .int .i64 2] w (WoP (fitS (up (a * 1000000) d)) (fitE (up (a * 1000000) d)) w) := by
  have hm := md_up (a := a) (b := 1000000) (c := d) hd.1 ha.1 (by omega)
  rw [← hu] at hm ⊢
  refine (rmuldiv a u d 2 (by omega) (by omega) (by omega) w).mono (fun e w' k => ?_)
  obtain ⟨k1, k2⟩ := k
  rw [hm.1, hm.2] at k1
  exact ⟨k1, k2⟩
set_option maxHeartbeats 4000000 in
theorem rcover (q p c : Int) (hc : Rng c) (w : World) : Calls Tryz.prog 43 #[.int .i64 q, .int .i64 p, .int .i64 c] w (WoP (coS q p c) (coE q p c) w) := by
  have HB : Hid (Below w.heap.size w w) := Below.refl _ w
  have HG : Hid (∀ w, Calls Tryz.prog 71 #[.int .i64 p, .int .i64 c] w (BoP (gdB p c) w)) := fun w => rgood p c w
  by_cases h1 : Gd p c
  · have hg : gdB p c = true := decide_eq_true h1
    rw [hg] at HG
    clear hg
    have HW : Hid (∀ w, Calls Tryz.prog 72 #[.int .i64 q, .int .i64 p] w (WoP (woS q p) (woE q p) w)) := fun w => rworth q p w
    by_cases h2 : Qk q
    · rw [(co_yes h1 h2).1, (co_yes h1 h2).2]
      rw [(wo_yes (q := q) (p := p) ⟨h2, h1.1⟩).1, (wo_yes (q := q) (p := p) ⟨h2, h1.1⟩).2] at HW
      have hf := wo_fits (q := q) (p := p) ⟨h2, h1.1⟩
      unfold cv
      generalize q * p / 1000000 = x at *
      have HM : Hid (∀ u, u = 1000000 → ∀ w, Calls Tryz.prog 31 #[.int .i64 x, .int .i64 (1000000 - c), .int .i64 u, .int .i64 1] w (WoP (x * (1000000 - c) / 1000000) 0 w)) := fun u hu w => rmd2 x (1000000 - c) u hu hf (by omega) w
      generalize x * (1000000 - c) / 1000000 = r at *
      clear hf
      go_enter Tryz.func43, Tryz.ntmps43
      go_wp2_with (first | (go_at_call 71; refine (HG.out _).mono ?_; rintro e w1 ⟨rfl, rfl⟩) | (go_at_call 72; refine (HW.out _).mono ?_; rintro e w1 ⟨rfl, HB1⟩; have K1 : Hid (Below w.heap.size w w1) := HB1; clear HB1) | (go_at_call 31; refine (HM.out _ rfl _).mono ?_; rintro e w2 ⟨rfl, HB2⟩; have K2 : Hid (Below w.heap.size w w2) := K1.out.trans (HB2.mono K1.out.size); clear HB2))
      go_ret2
      exact ⟨rfl, K2.out⟩
    · rw [(co_no (by omega)).1, (co_no (by omega)).2]
      rw [(wo_no (q := q) (p := p) (by omega)).1, (wo_no (q := q) (p := p) (by omega)).2] at HW
      go_enter Tryz.func43, Tryz.ntmps43
      go_wp2_with (first | (go_at_call 71; refine (HG.out _).mono ?_; rintro e w1 ⟨rfl, rfl⟩) | (go_at_call 72; refine (HW.out _).mono ?_; rintro e w1 ⟨rfl, HB1⟩))
      go_ret2
      exact ⟨rfl, HB1⟩
  · rw [(co_no (by omega)).1, (co_no (by omega)).2]
    have hg : gdB p c = false := decide_eq_false h1
    rw [hg] at HG
    clear hg
    go_enter Tryz.func43, Tryz.ntmps43
    go_wp2_with (go_at_call 71; refine (HG.out _).mono ?_; rintro e w1 ⟨rfl, rfl⟩)
    go_ret2
    exact ⟨rfl, HB.out⟩
end Go.Proofs.YtdfadcbchiogjaaGreat.H5
