/- The reference's low, Text. -/
import Derived.Test.YtgkefaojbdjnoaaDoorR
import Derived.WalkKit
import Derived.ProofKit
import Derived.Handy
import Derived.WalkLawsBesides
import Derived.WalkSpells
import Derived.BigQuiet
import Derived.BigCall
import Derived.Deep.QuietTactic
import Derived.Deep.Light
import Derived.Deep.OwnRows
import Derived.Laws.AppendOwnNone
import Derived.Laws.Strings3
import Derived.Laws.RangeAny
import Derived.Deep.RegionWith
import Derived.Lib.BitFns
import Derived.Lib.Walk
import Derived.Lib.Strings
import Derived.Lib.OthersKept
import Derived.Deep.CutBlock
import Derived.Deep.DeepCutAuto
import Derived.Deep.LoopGhost
import Derived.Deep.RegionHeld3
import Derived.Lib.SmallJoins
import Derived.Maps.AppendAt
import Derived.Laws.IdiomStrings
namespace Go.Proofs.YtgkefaojbdjnoaaDoor
open Go.RowKit
set_option linter.unusedVariables false
set_option linter.unusedSimpArgs false
set_option maxHeartbeats 4000000 in
theorem rlow (c : Nat) (hc : c < 1114112) (w : World) : Calls Tryd.prog 45 #[.int .i64 c] w (NP .i64 (low c) w) := by
  have hdv : (c : Int).tdiv 2 = ((c / 2 : Nat) : Int) := by rw [Int.tdiv_eq_ediv_of_nonneg (by omega)]; omega
  have hmd : (c : Int).tmod 2 = ((c % 2 : Nat) : Int) := by rw [Int.tmod_eq_emod_of_nonneg (by omega)]; omega
  by_cases k1 : c = 215
  · subst k1
    clear hdv hmd
    go_enter Tryd.func45, Tryd.ntmps45
    go_wp2_with fail
    go_ret
    exact NP.mk (by decide)
  have g1 : ((c : Int) == 215) = false := beq_eq_false_iff_ne.2 (by omega)
  by_cases k4 : c = 376
  · subst k4
    clear hdv hmd
    go_enter Tryd.func45, Tryd.ntmps45
    go_wp2_with fail
    go_ret
    exact NP.mk (by decide)
  have g2 : ((c : Int) == 376) = false := beq_eq_false_iff_ne.2 (by omega)
  have HD : Hid ((c : Int).tdiv 2 = ((c / 2 : Nat) : Int)) := hdv
  have H1 : Hid (c ≠ 215) := k1
  have H4 : Hid (c ≠ 376) := k4
  clear k1 k4 hdv
  by_cases h1 : 65 ≤ c ∧ c ≤ 90
  · have H : Hid (low c = c + 32) := by unfold Hid low; rw [if_pos (by omega)]
    obtain ⟨k2, k3⟩ := h1
    have k2' : (65 : Int) ≤ c := by omega
    have k3' : (c : Int) ≤ 90 := by omega
    clear hmd
    go_enter Tryd.func45, Tryd.ntmps45
    go_wp2_with fail
    go_ret
    exact NP.mk (by rw [H.out]; omega)
  by_cases h2 : 192 ≤ c ∧ c ≤ 222
  · have H : Hid (low c = c + 32) := by unfold Hid low; rw [if_pos (by have := H1.out; omega)]
    obtain ⟨k2, k3⟩ := h2
    have k2' : (192 : Int) ≤ c := by omega
    have k3' : (c : Int) ≤ 222 := by omega
    have k4' : ¬ (c : Int) ≤ 90 := by omega
    have k5' : (65 : Int) ≤ c := by omega
    clear hmd h1
    go_enter Tryd.func45, Tryd.ntmps45
    go_wp2_with fail
    go_ret
    exact NP.mk (by rw [H.out]; omega)
  have n1 : Hid (¬ (65 ≤ c ∧ c ≤ 90)) := h1
  have n2 : Hid (¬ (192 ≤ c ∧ c ≤ 222)) := h2
  by_cases h3 : 256 ≤ c ∧ c ≤ 311 ∨ 330 ≤ c ∧ c ≤ 375
  · have H : Hid (low c = c / 2 * 2 + 1) := by unfold Hid low; rw [if_neg (by omega), if_neg (by have := H4.out; omega), if_pos h3]
    have k4' : ¬ (c : Int) ≤ 90 := by omega
    have k5' : ¬ (c : Int) ≤ 222 := by omega
    have k6' : (65 : Int) ≤ c := by omega
    have k7' : (192 : Int) ≤ c := by omega
    have k8' : (256 : Int) ≤ c := by omega
    clear hmd h1 h2
    rcases h3 with ⟨k5, k6⟩ | ⟨k5, k6⟩
    · have q1 : (c : Int) ≤ 311 := by omega
      go_enter Tryd.func45, Tryd.ntmps45
      go_wp2_with fail
      go_ret
      exact NP.mk (by rw [H.out]; omega)
    · have q1 : ¬ (c : Int) ≤ 311 := by omega
      have q2 : (330 : Int) ≤ c := by omega
      have q3 : (c : Int) ≤ 375 := by omega
      go_enter Tryd.func45, Tryd.ntmps45
      go_wp2_with fail
      go_ret
      exact NP.mk (by rw [H.out]; omega)
  have n3 : Hid (¬ (256 ≤ c ∧ c ≤ 311 ∨ 330 ≤ c ∧ c ≤ 375)) := h3
  clear h1 h2 h3
  have hlow : Hid (low c = if (313 ≤ c ∧ c ≤ 328 ∨ 377 ≤ c ∧ c ≤ 382) ∧ c % 2 = 1 then c + 1 else c) := by
    unfold Hid low
    rw [if_neg (by have := n1.out; have := n2.out; omega), if_neg H4.out, if_neg n3.out]
  by_cases hm : c % 2 = 1
  · have gm : (((c : Int) % 2) == 1) = true := beq_iff_eq.2 (by omega)
    have HM : Hid (c % 2 = 1) := hm
    clear hm hmd
    go_enter Tryd.func45, Tryd.ntmps45
    go_wp2_with fail
    all_goals go_ret
    all_goals (refine NP.mk ?_; rw [hlow.out]; have := n1.out; have := n2.out; have := n3.out; have := HM.out; have := H1.out; split)
    all_goals omega
  · have gm : (((c : Int) % 2) == 1) = false := beq_eq_false_iff_ne.2 (by omega)
    have HM : Hid (¬ c % 2 = 1) := hm
    clear hm hmd
    go_enter Tryd.func45, Tryd.ntmps45
    go_wp2_with fail
    all_goals go_ret
    all_goals (refine NP.mk ?_; rw [hlow.out]; have := n1.out; have := n2.out; have := n3.out; have := HM.out; have := H1.out; split)
    all_goals omega
end Go.Proofs.YtgkefaojbdjnoaaDoor
