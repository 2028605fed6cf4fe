/- The walks of within (told ahead) and small. Condition: it is a sign's number. -/
import Derived.Test.YtgkefaojbdjnoaaDoorE
import Derived.WalkKit
import Derived.ProofKit
import Derived.Handy
import Derived.WalkLawsBesides
import Derived.WalkSpells
import Derived.BigQuiet
import Derived.BigCall
import Derived.Deep.QuietTactic
import Derived.Deep.Light
import Derived.Deep.OwnRows
import Derived.Laws.AppendOwnNone
import Derived.Laws.Strings3
import Derived.Laws.RangeAny
import Derived.Deep.RegionWith
import Derived.Lib.BitFns
import Derived.Lib.Walk
import Derived.Lib.Strings
import Derived.Lib.OthersKept
import Derived.Deep.CutBlock
import Derived.Deep.DeepCutAuto
import Derived.Deep.LoopGhost
import Derived.Deep.RegionHeld3
import Derived.Lib.SmallJoins
import Derived.Maps.AppendAt
import Derived.Laws.IdiomStrings
namespace Go.Proofs.YtgkefaojbdjnoaaDoor
open Go.RowKit
set_option linter.unusedVariables false
set_option linter.unusedSimpArgs false
theorem xwt (r a b : Int) (h : a ≤ r ∧ r ≤ b) (w : World) : Calls Tryd.prog 52 #[.int .i32 r, .int .i32 a, .int .i32 b] w fun e w' => e = .returned (.bool true) ∧ w = w' := by
  obtain ⟨h1, h2⟩ := h
  go_enter Tryd.func52, Tryd.ntmps52
  go_wp2
  go_ret
  exact ⟨rfl, rfl⟩
theorem xwf (r a b : Int) (h : ¬ (a ≤ r ∧ r ≤ b)) (w : World) : Calls Tryd.prog 52 #[.int .i32 r, .int .i32 a, .int .i32 b] w fun e w' => e = .returned (.bool false) ∧ w = w' := by
  by_cases h1 : a ≤ r
  · have h2 : ¬ r ≤ b := by omega
    clear h
    go_enter Tryd.func52, Tryd.ntmps52
    go_wp2
    go_ret
    exact ⟨rfl, rfl⟩
  · clear h
    go_enter Tryd.func52, Tryd.ntmps52
    go_wp2
    go_ret
    exact ⟨rfl, rfl⟩
set_option maxHeartbeats 4000000 in
theorem xsmall (c : Nat) (hc : c < 1114112) (w : World) : Calls Tryd.prog 42 #[.int .i32 c] w (NP .i32 (low c) w) := by
  by_cases k1 : c = 215
  · subst k1
    go_enter Tryd.func42, Tryd.ntmps42
    go_wp2_with fail
    go_ret
    exact NP.mk (by decide)
  have g1 : ((c : Int) == 215) = false := beq_eq_false_iff_ne.2 (by omega)
  by_cases k2 : 65 ≤ c ∧ c ≤ 90
  · have H : Hid (low c = c + 32) := by unfold Hid low; rw [if_pos (by omega)]
    obtain ⟨k2, k3⟩ := k2
    clear k1
    go_enter Tryd.func42, Tryd.ntmps42
    go_wp2_with (first | (go_at_call 52; refine (xwt _ _ _ (by omega) _).mono ?_; rintro e w1 ⟨rfl, rfl⟩) | (go_at_call 52; refine (xwf _ _ _ (by omega) _).mono ?_; rintro e w1 ⟨rfl, rfl⟩))
    go_ret
    exact NP.mk (by rw [H.out]; omega)
  by_cases k3 : 192 ≤ c ∧ c ≤ 222
  · have H : Hid (low c = c + 32) := by unfold Hid low; rw [if_pos (by omega)]
    obtain ⟨k2, k3⟩ := k3
    clear k1
    go_enter Tryd.func42, Tryd.ntmps42
    go_wp2_with (first | (go_at_call 52; refine (xwt _ _ _ (by omega) _).mono ?_; rintro e w1 ⟨rfl, rfl⟩) | (go_at_call 52; refine (xwf _ _ _ (by omega) _).mono ?_; rintro e w1 ⟨rfl, rfl⟩))
    go_ret
    exact NP.mk (by rw [H.out]; omega)
  by_cases k4 : c = 376
  · subst k4
    clear k1 k2 k3
    go_enter Tryd.func42, Tryd.ntmps42
    go_wp2_with (first | (go_at_call 52; refine (xwt _ _ _ (by omega) _).mono ?_; rintro e w1 ⟨rfl, rfl⟩) | (go_at_call 52; refine (xwf _ _ _ (by omega) _).mono ?_; rintro e w1 ⟨rfl, rfl⟩))
    go_ret
    exact NP.mk (by decide)
  have g2 : ((c : Int) == 376) = false := beq_eq_false_iff_ne.2 (by omega)
  by_cases k5 : 256 ≤ c ∧ c ≤ 311 ∨ 330 ≤ c ∧ c ≤ 375
  · have H : Hid (low c = c / 2 * 2 + 1) := by unfold Hid low; rw [if_neg (by omega), if_neg (by omega), if_pos k5]
    have Hb : Hid (bits .or .i32 (c : Int) 1 = ((c / 2 * 2 + 1 : Nat) : Int)) := bitor1 c (by omega)
    clear k1 k2 k3 k4
    rcases k5 with ⟨k5, k6⟩ | ⟨k5, k6⟩
    all_goals
      go_enter Tryd.func42, Tryd.ntmps42
      go_wp2_with (first | (go_at_call 52; refine (xwt _ _ _ (by omega) _).mono ?_; rintro e w1 ⟨rfl, rfl⟩) | (go_at_call 52; refine (xwf _ _ _ (by omega) _).mono ?_; rintro e w1 ⟨rfl, rfl⟩))
      go_ret
      exact NP.mk (by rw [H.out]; exact Hb.out)
  by_cases k6 : 313 ≤ c ∧ c ≤ 328 ∨ 377 ≤ c ∧ c ≤ 382
  · have H : Hid (low c = c + c % 2) := by
      unfold Hid low
      rw [if_neg (by omega), if_neg (by omega), if_neg k5]
      split
      all_goals omega
    have Hb : Hid (bits .and .i32 (c : Int) 1 = ((c % 2 : Nat) : Int)) := bitand1 c (by omega)
    clear k1 k2 k3 k4 k5
    rcases k6 with ⟨k5, k6⟩ | ⟨k5, k6⟩
    all_goals
      go_enter Tryd.func42, Tryd.ntmps42
      go_wp2_with (first | (go_at_call 52; refine (xwt _ _ _ (by omega) _).mono ?_; rintro e w1 ⟨rfl, rfl⟩) | (go_at_call 52; refine (xwf _ _ _ (by omega) _).mono ?_; rintro e w1 ⟨rfl, rfl⟩))
      go_ret
      refine NP.mk (m := wrap32 ((c : Int) + bits .and .i32 (c : Int) 1)) ?_
      rw [H.out, Hb.out]
      unfold wrap32
      omega
  · have H : Hid (low c = c) := by
      unfold Hid low
      rw [if_neg (by omega), if_neg (by omega), if_neg k5, if_neg (by omega)]
    have q1 : ¬ (65 ≤ (c : Int) ∧ (c : Int) ≤ 90) := by omega
    have q2 : ¬ (192 ≤ (c : Int) ∧ (c : Int) ≤ 222) := by omega
    have q3 : ¬ (256 ≤ (c : Int) ∧ (c : Int) ≤ 311) := by omega
    have q4 : ¬ (330 ≤ (c : Int) ∧ (c : Int) ≤ 375) := by omega
    have q5 : ¬ (313 ≤ (c : Int) ∧ (c : Int) ≤ 328) := by omega
    have q6 : ¬ (377 ≤ (c : Int) ∧ (c : Int) ≤ 382) := by omega
    have Q : Hid (¬ (65 ≤ (c : Int) ∧ (c : Int) ≤ 90) ∧ ¬ (192 ≤ (c : Int) ∧ (c : Int) ≤ 222) ∧ ¬ (256 ≤ (c : Int) ∧ (c : Int) ≤ 311) ∧ ¬ (330 ≤ (c : Int) ∧ (c : Int) ≤ 375) ∧ ¬ (313 ≤ (c : Int) ∧ (c : Int) ≤ 328) ∧ ¬ (377 ≤ (c : Int) ∧ (c : Int) ≤ 382)) := ⟨q1, q2, q3, q4, q5, q6⟩
    clear k1 k2 k3 k4 k5 k6 q1 q2 q3 q4 q5 q6
    go_enter Tryd.func42, Tryd.ntmps42
    go_wp2_with (go_at_call 52; refine (xwf _ _ _ (by have := Q.out; omega) _).mono ?_; rintro e w1 ⟨rfl, rfl⟩)
    go_ret
    exact NP.mk (by rw [H.out])
end Go.Proofs.YtgkefaojbdjnoaaDoor
