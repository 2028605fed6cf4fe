/- layer 15: Cover, within, Least and Most of the program -/
import Derived.Test.YtpdlbbglbbmjmaaHA
import Derived.WalkKit
import Derived.ProofKit
import Derived.Handy
import Derived.WalkLawsBesides
import Derived.WalkSpells
import Derived.BigQuiet
import Derived.BigCall
import Derived.Deep.QuietTactic
import Derived.Deep.Light
import Derived.Deep.OwnRows
import Derived.Laws.AppendOwnNone
import Derived.Laws.Strings3
import Derived.Laws.RangeAny
import Derived.Deep.RegionWith
import Derived.Lib.BitFns
import Derived.Lib.Walk
import Derived.Lib.Strings
import Derived.Lib.OthersKept
import Derived.Deep.CutBlock
import Derived.Deep.DeepCutAuto
import Derived.Deep.LoopGhost
import Derived.Deep.RegionHeld3
import Derived.Lib.SmallJoins
import Derived.Maps.AppendAt
import Derived.Laws.IdiomStrings
import Derived.Lib.AppendZeros
import Derived.Deep.WholeRow
import Derived.Laws.BitsAllLaws
import Derived.Lib.ConvBytes
import Derived.Deep.RegionLaw
namespace Go.Proofs.Ytpdlbbglbbmjmaa
open Go.RowKit
set_option linter.unusedVariables false
set_option linter.unusedSimpArgs false
set_option maxRecDepth 20000
open N1
theorem xgt (p c : Int) (w : World) : Calls Try.prog 38 #[.int .i64 p, .int .i64 c] w (BoP (gdB p c) w) := by
  go_enter Try.func38, Try.ntmps38
  go_wp2
  all_goals go_ret
  all_goals exact ⟨ret_bool (by unfold gdB; symm; first | exact decide_eq_true (by omega) | exact decide_eq_false (by omega) | (rw [Bool.eq_iff_iff, decide_eq_true_iff, decide_eq_true_iff]; omega)), rfl⟩
theorem xgq (q : Int) (w : World) : Calls Try.prog 45 #[.int .i64 q] w (BoP (qkB q) w) := by
  go_enter Try.func45, Try.ntmps45
  go_wp2
  all_goals go_ret
  all_goals exact ⟨ret_bool (by unfold qkB; symm; first | exact decide_eq_true (by omega) | exact decide_eq_false (by omega) | (rw [Bool.eq_iff_iff, decide_eq_true_iff, decide_eq_true_iff]; omega)), rfl⟩
theorem xmd2 (x d u : Int) (hu : u = 1000000) (hx : 0 ≤ x ∧ x ≤ 4835703278458516698) (hd : 0 ≤ d ∧ d ≤ 1000000) (w : World) : Calls Try.prog 40 #[.int .i64 x, .int .i64 d, .int .i64 u, .int .i64 1] w (WoP (x * d / 1000000) 0 w) := by
  have h1 : 0 ≤ x * d := Int.mul_nonneg hx.1 (by omega)
  have h2 : x * d ≤ x * 1000000 := Int.mul_le_mul_of_nonneg_left (by omega) hx.1
  have hm : mdS x d 1000000 1 = x * d / 1000000 ∧ mdE x d 1000000 1 = 0 := by
    rw [mdS, mdE, if_neg (by omega), if_neg (by omega), md_floor x d 1000000 (by omega)]
    generalize x * d = y at *
    exact ⟨if_pos (by omega), if_pos (by omega)⟩
  rw [← hu] at hm ⊢
  refine (xmuldiv x d u 1 (by omega) (by omega) (by omega) w (Or.inr xdiv64)).mono (fun e w' k => ?_)
  obtain ⟨k1, k2⟩ := k
  rw [hm.1, hm.2] at k1
  exact ⟨k1, k2⟩
set_option maxHeartbeats 4000000 in
theorem xcover (q p c : Int) (hc : Rng c) (w : World) : Calls Try.prog 13 #[.int .i64 q, .int .i64 p, .int .i64 c] w (WoP (coS q p c) (coE q p c) w) := by
  have HB : Hid (Below w.heap.size w w) := Below.refl _ w
  have HG : Hid (∀ w, Calls Try.prog 38 #[.int .i64 p, .int .i64 c] w (BoP (gdB p c) w)) := fun w => xgt p c w
  by_cases h1 : Gd p c
  · have hg : gdB p c = true := decide_eq_true h1
    rw [hg] at HG
    clear hg
    have HW : Hid (∀ w, Calls Try.prog 39 #[.int .i64 q, .int .i64 p] w (WoP (woS q p) (woE q p) w)) := fun w => xworth q p w
    by_cases h2 : Qk q
    · rw [(co_yes h1 h2).1, (co_yes h1 h2).2]
      rw [(wo_yes (q := q) (p := p) ⟨h2, h1.1⟩).1, (wo_yes (q := q) (p := p) ⟨h2, h1.1⟩).2] at HW
      have hf := wo_fits (q := q) (p := p) ⟨h2, h1.1⟩
      unfold cv
      generalize q * p / 1000000 = x at *
      have HM : Hid (∀ u, u = 1000000 → ∀ w, Calls Try.prog 40 #[.int .i64 x, .int .i64 (1000000 - c), .int .i64 u, .int .i64 1] w (WoP (x * (1000000 - c) / 1000000) 0 w)) := fun u hu w => xmd2 x (1000000 - c) u hu hf (by omega) w
      generalize x * (1000000 - c) / 1000000 = r at *
      clear hf
      go_enter Try.func13, Try.ntmps13
      go_wp2_with (first | (go_at_call 38; refine (HG.out _).mono ?_; rintro e w1 ⟨rfl, rfl⟩) | (go_at_call 39; refine (HW.out _).mono ?_; rintro e w1 ⟨rfl, HB1⟩; have K1 : Hid (Below w.heap.size w w1) := HB1; clear HB1) | (go_at_call 40; refine (HM.out _ rfl _).mono ?_; rintro e w2 ⟨rfl, HB2⟩; have K2 : Hid (Below w.heap.size w w2) := K1.out.trans (HB2.mono K1.out.size); clear HB2))
      go_ret2
      exact ⟨rfl, K2.out⟩
    · rw [(co_no (by omega)).1, (co_no (by omega)).2]
      rw [(wo_no (q := q) (p := p) (by omega)).1, (wo_no (q := q) (p := p) (by omega)).2] at HW
      go_enter Try.func13, Try.ntmps13
      go_wp2_with (first | (go_at_call 38; refine (HG.out _).mono ?_; rintro e w1 ⟨rfl, rfl⟩) | (go_at_call 39; refine (HW.out _).mono ?_; rintro e w1 ⟨rfl, HB1⟩))
      go_ret2
      exact ⟨rfl, HB1⟩
  · rw [(co_no (by omega)).1, (co_no (by omega)).2]
    have hg : gdB p c = false := decide_eq_false h1
    rw [hg] at HG
    clear hg
    go_enter Try.func13, Try.ntmps13
    go_wp2_with (go_at_call 38; refine (HG.out _).mono ?_; rintro e w1 ⟨rfl, rfl⟩)
    go_ret2
    exact ⟨rfl, HB.out⟩
def NuP (n : Int) (w : World) (e : Ending) (w' : World) : Prop := e = .returned (.int .i64 n) ∧ Below w.heap.size w w'
set_option maxHeartbeats 8000000 in
theorem xwithin (l p c q : Int) (hg : Gd p c) (hl : -1 ≤ l ∧ l ≤ 9223372036854775807) (hq : Qk q) (w : World) : Calls Try.prog 44 #[.int .i64 l, .int .i64 p, .int .i64 c, .int .i64 q] w (NuP (wiN l p c q) w) := by
  have HN : Hid (0 ≤ wiN l p c q ∧ wiN l p c q ≤ q + 1) := wi_bounds hg hl.1 hq
  have HI : Hid (∀ m, m ≤ q → (cv m p c ≤ l ↔ m < wiN l p c q)) := fun m hm => wi_iff hg hm
  have HC : Hid (∀ m, 0 ≤ m → m ≤ q → ∀ w, Calls Try.prog 13 #[.int .i64 m, .int .i64 p, .int .i64 c] w (WoP (cv m p c) 0 w)) := fun m h0 hm w => by
    have h := xcover m p c (by omega) w
    rw [(co_yes hg (by omega)).1, (co_yes hg (by omega)).2] at h
    exact h
  have HV : Hid (∀ m, 0 ≤ m → m ≤ q → 0 ≤ cv m p c ∧ cv m p c ≤ 4835703278458516698) := fun m h0 hm => cv_bounds hg (by omega)
  generalize wiN l p c q = N at *
  generalize hcv : (fun m => cv m p c) = f
  have HF : Hid (∀ m, cv m p c = f m) := fun m => by rw [← hcv]
  clear hcv
  go_enter Try.func44, Try.ntmps44
  go_wp2_with fail
  go_loopw [9, 10] (fun s9 s10 wr => ∃ lo hi : Int, s9 = .int .i64 lo ∧ s10 = .int .i64 hi ∧ 0 ≤ lo ∧ lo ≤ hi ∧ hi ≤ q + 1 ∧ Hid (lo ≤ N ∧ N ≤ hi ∧ Below w.heap.size w wr))
    (fun s9 s10 _ => (intOf s10 - intOf s9).toNat)
  case atStart => exact ⟨0, q + 1, rfl, rfl, Int.le_refl _, by omega, Int.le_refl _, HN.out.1, HN.out.2, Below.refl _ _⟩
  case round =>
    obtain ⟨lo, hi, rfl, rfl, h0, hlh, hin, HR⟩ := hrel
    by_cases hlt : lo < hi
    · obtain ⟨m, hm⟩ : ∃ m, m = (lo + hi) / 2 := ⟨_, rfl⟩
      have hmz : (lo + hi) / 2 = m := hm.symm
      have hm0 : 0 ≤ m := by omega
      have hml : m ≤ q := by omega
      have HL : Hid (lo ≤ m ∧ m < hi) := by constructor <;> omega
      have HK : Hid (f m ≤ l ↔ m < N) := by have := HI.out m hml; rw [HF.out] at this; exact this
      have HC2 : Hid (∀ w, Calls Try.prog 13 #[.int .i64 m, .int .i64 p, .int .i64 c] w (WoP (f m) 0 w)) := fun w => by rw [← HF.out]; exact HC.out m hm0 hml w
      have hvb := HV.out m hm0 hml
      rw [HF.out] at hvb
      generalize f m = v at *
      clear hm HI
      by_cases hc : v ≤ l
      · have HQ : Hid (m + 1 ≤ N ∧ N ≤ hi) := by have := HK.out.1 hc; have := HR.out; constructor <;> omega
        have HBr : Hid (Below w.heap.size w wr) := HR.out.2.2
        clear HK HR
        go_wp2_with (go_at_call 13; refine (HC2.out _).mono ?_; clear HC2; rintro e w1 ⟨rfl, HB1⟩; have K1 : Hid (Below w.heap.size w w1) := HBr.out.trans (HB1.mono HBr.out.size); clear HB1)
        go_roundw
        case rel => exact ⟨m + 1, hi, by simp, rfl, by omega, by have := HL.out; omega, hin, HQ.out.1, HQ.out.2, K1.out⟩
        case measure => have := HL.out; simp [intOf]; omega
      · have HQ : Hid (lo ≤ N ∧ N ≤ m) := by have h9 : ¬ m < N := fun h => hc (HK.out.2 h); have := HR.out; constructor <;> omega
        have HBr : Hid (Below w.heap.size w wr) := HR.out.2.2
        clear HK HR
        go_wp2_with (go_at_call 13; refine (HC2.out _).mono ?_; clear HC2; rintro e w1 ⟨rfl, HB1⟩; have K1 : Hid (Below w.heap.size w w1) := HBr.out.trans (HB1.mono HBr.out.size); clear HB1)
        go_roundw
        case rel => exact ⟨lo, m, rfl, by simp, h0, by have := HL.out; omega, by omega, HQ.out.1, HQ.out.2, K1.out⟩
        case measure => have := HL.out; simp [intOf]; omega
    · have HE : Hid (NuP N w (.returned (.int .i64 lo)) wr) := by
        have := HR.out
        exact ⟨by rw [show lo = N by omega], this.2.2⟩
      clear HR
      go_wp2_with fail
      go_ret
      exact HE.out
def LeP (n : Int) (b : Bool) (w : World) (e : Ending) (w' : World) : Prop := e = .returned (.tuple #[.int .i64 n, .bool b]) ∧ Below w.heap.size w w'
theorem le_no {n p c : Int} (h : ¬ LeY n p c) : leS n p c = 0 ∧ leB n p c = false := ⟨if_neg h, decide_eq_false h⟩
theorem le_yes {n p c : Int} (h : LeY n p c) : leS n p c = lq n p c ∧ leB n p c = true := ⟨if_pos h, decide_eq_true h⟩
set_option maxHeartbeats 4000000 in
theorem xleast (n p c : Int) (hn : Rng n) (hc : Rng c) (w : World) : Calls Try.prog 15 #[.int .i64 n, .int .i64 p, .int .i64 c] w (LeP (leS n p c) (leB n p c) w) := by
  have HB : Hid (Below w.heap.size w w) := Below.refl _ w
  have HG : Hid (∀ w, Calls Try.prog 38 #[.int .i64 p, .int .i64 c] w (BoP (gdB p c) w)) := fun w => xgt p c w
  by_cases h0 : n < 0
  · rw [(le_no (n := n) (p := p) (c := c) (by omega)).1, (le_no (n := n) (p := p) (c := c) (by omega)).2]
    go_enter Try.func15, Try.ntmps15
    go_wp2_with fail
    go_ret2
    exact ⟨rfl, HB.out⟩
  by_cases h1 : Gd p c
  · have hg : gdB p c = true := decide_eq_true h1
    rw [hg] at HG
    clear hg
    have HW : Hid (∀ y, y = 1125899906842624 → ∀ w, Calls Try.prog 44 #[.int .i64 (n - 1), .int .i64 p, .int .i64 c, .int .i64 y] w (NuP (wiN (n - 1) p c y) w)) := fun y hy w => xwithin (n - 1) p c y h1 (by omega) (by omega) w
    have hb := wi_bounds (limit := n - 1) (qty := 1125899906842624) h1 (by omega) (by omega)
    have hw : wiN (n - 1) p c 1125899906842624 = min (lq n p c) 1125899906842625 := by unfold wiN; rw [show n - 1 + 1 = n by omega]; rfl
    have HW2 : Hid (∀ y, y = 1125899906842624 → ∀ w, Calls Try.prog 44 #[.int .i64 (n - 1), .int .i64 p, .int .i64 c, .int .i64 y] w (NuP (wiN (n - 1) p c 1125899906842624) w)) := fun y hy w => by
      have := HW.out y hy w
      rw [hy] at this ⊢
      exact this
    clear HW
    generalize wiN (n - 1) p c 1125899906842624 = N at *
    by_cases h2 : LeY n p c
    · rw [(le_yes h2).1, (le_yes h2).2]
      have hN : N = lq n p c := by rw [hw]; have := h2.2.2; omega
      rw [← hN]
      have h3 : N ≤ 1125899906842624 := by rw [hN]; exact h2.2.2
      clear hw h2 hN
      go_enter Try.func15, Try.ntmps15
      go_wp2_with (first | (go_at_call 38; refine (HG.out _).mono ?_; rintro e w1 ⟨rfl, rfl⟩) | (go_at_call 44; refine (HW2.out _ rfl _).mono ?_; rintro e w1 ⟨rfl, HB1⟩))
      go_ret2
      exact ⟨rfl, HB1⟩
    · rw [(le_no h2).1, (le_no h2).2]
      have h3 : 1125899906842624 < N := by rw [hw]; have : 1125899906842624 < lq n p c := by omega
                                           omega
      clear hw h2
      go_enter Try.func15, Try.ntmps15
      go_wp2_with (first | (go_at_call 38; refine (HG.out _).mono ?_; rintro e w1 ⟨rfl, rfl⟩) | (go_at_call 44; refine (HW2.out _ rfl _).mono ?_; rintro e w1 ⟨rfl, HB1⟩))
      go_ret2
      exact ⟨rfl, HB1⟩
  · rw [(le_no (n := n) (p := p) (c := c) (by omega)).1, (le_no (n := n) (p := p) (c := c) (by omega)).2]
    have hg : gdB p c = false := decide_eq_false h1
    rw [hg] at HG
    clear hg
    go_enter Try.func15, Try.ntmps15
    go_wp2_with (go_at_call 38; refine (HG.out _).mono ?_; rintro e w1 ⟨rfl, rfl⟩)
    go_ret2
    exact ⟨rfl, HB.out⟩
theorem mo_no {l p c q : Int} (h : ¬ (0 ≤ l ∧ Qk q ∧ Gd p c)) : moS l p c q = -1 := if_neg h
theorem mo_yes {l p c q : Int} (h : 0 ≤ l ∧ Qk q ∧ Gd p c) : moS l p c q = wiN l p c q - 1 := if_pos h
set_option maxHeartbeats 4000000 in
theorem xmost (l p c q : Int) (hl : Rng l) (w : World) : Calls Try.prog 17 #[.int .i64 l, .int .i64 p, .int .i64 c, .int .i64 q] w (NuP (moS l p c q) w) := by
  have HB : Hid (Below w.heap.size w w) := Below.refl _ w
  have HG : Hid (∀ w, Calls Try.prog 38 #[.int .i64 p, .int .i64 c] w (BoP (gdB p c) w)) := fun w => xgt p c w
  have HQ : Hid (∀ w, Calls Try.prog 45 #[.int .i64 q] w (BoP (qkB q) w)) := fun w => xgq q w
  by_cases h0 : l < 0
  · rw [mo_no (by omega)]
    go_enter Try.func17, Try.ntmps17
    go_wp2_with fail
    go_ret
    exact ⟨rfl, HB.out⟩
  by_cases h1 : Qk q
  · have hg : qkB q = true := decide_eq_true h1
    rw [hg] at HQ
    clear hg
    by_cases h2 : Gd p c
    · have hg : gdB p c = true := decide_eq_true h2
      rw [hg] at HG
      clear hg
      rw [mo_yes ⟨by omega, h1, h2⟩]
      have HW : Hid (∀ w, Calls Try.prog 44 #[.int .i64 l, .int .i64 p, .int .i64 c, .int .i64 q] w (NuP (wiN l p c q) w)) := fun w => xwithin l p c q h2 (by omega) h1 w
      have hb := wi_bounds (limit := l) (qty := q) h2 (by omega) h1
      generalize wiN l p c q = N at *
      go_enter Try.func17, Try.ntmps17
      go_wp2_with (first | (go_at_call 38; refine (HG.out _).mono ?_; rintro e w1 ⟨rfl, rfl⟩) | (go_at_call 45; refine (HQ.out _).mono ?_; rintro e w1 ⟨rfl, rfl⟩) | (go_at_call 44; refine (HW.out _).mono ?_; rintro e w1 ⟨rfl, HB1⟩))
      go_ret
      exact ⟨rfl, HB1⟩
    · have hg : gdB p c = false := decide_eq_false h2
      rw [hg] at HG
      clear hg
      rw [mo_no (by omega)]
      go_enter Try.func17, Try.ntmps17
      go_wp2_with (first | (go_at_call 38; refine (HG.out _).mono ?_; rintro e w1 ⟨rfl, rfl⟩) | (go_at_call 45; refine (HQ.out _).mono ?_; rintro e w1 ⟨rfl, rfl⟩))
      go_ret
      exact ⟨rfl, HB.out⟩
  · have hg : qkB q = false := decide_eq_false h1
    rw [hg] at HQ
    clear hg
    rw [mo_no (by omega)]
    go_enter Try.func17, Try.ntmps17
    go_wp2_with (go_at_call 45; refine (HQ.out _).mono ?_; rintro e w1 ⟨rfl, rfl⟩)
    go_ret
    exact ⟨rfl, HB.out⟩
end Go.Proofs.Ytpdlbbglbbmjmaa
