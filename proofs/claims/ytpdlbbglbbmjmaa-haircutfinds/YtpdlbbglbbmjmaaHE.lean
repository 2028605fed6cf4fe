/- layer 15: laws Covers and Tight -/
import Derived.Test.YtpdlbbglbbmjmaaHD
import Derived.WalkKit
import Derived.ProofKit
import Derived.Handy
import Derived.WalkLawsBesides
import Derived.WalkSpells
import Derived.BigQuiet
import Derived.BigCall
import Derived.Deep.QuietTactic
import Derived.Deep.Light
import Derived.Deep.OwnRows
import Derived.Laws.AppendOwnNone
import Derived.Laws.Strings3
import Derived.Laws.RangeAny
import Derived.Deep.RegionWith
import Derived.Lib.BitFns
import Derived.Lib.Walk
import Derived.Lib.Strings
import Derived.Lib.OthersKept
import Derived.Deep.CutBlock
import Derived.Deep.DeepCutAuto
import Derived.Deep.LoopGhost
import Derived.Deep.RegionHeld3
import Derived.Lib.SmallJoins
import Derived.Maps.AppendAt
import Derived.Laws.IdiomStrings
import Derived.Lib.AppendZeros
import Derived.Deep.WholeRow
import Derived.Laws.BitsAllLaws
import Derived.Lib.ConvBytes
import Derived.Deep.RegionLaw
namespace Go.Proofs.Ytpdlbbglbbmjmaa
open Go.RowKit
set_option linter.unusedVariables false
set_option linter.unusedSimpArgs false
set_option maxRecDepth 20000
open N1
set_option maxHeartbeats 8000000 in
theorem lcovers (q p c n : Int) (hn : Rng n) (hc : Rng c) (w : World) : Calls Try.prog 4 #[.int .i64 q, .int .i64 p, .int .i64 c, .int .i64 n] w (OkP w) := by
  have HA : Hid (∀ w, Calls Try.prog 10 #[] w (OkP w)) := fun w => xawake w
  have H1 : Hid (∀ w, Calls Try.prog 13 #[.int .i64 q, .int .i64 p, .int .i64 c] w (WoP (coS q p c) (coE q p c) w)) := fun w => xcover q p c hc w
  have H2 : Hid (∀ w, Calls Try.prog 14 #[.int .i64 q, .int .i64 p, .int .i64 c] w (WoP (coS q p c) (coE q p c) w)) := fun w => rcover q p c hc w
  have H3 : Hid (∀ w, Calls Try.prog 15 #[.int .i64 n, .int .i64 p, .int .i64 c] w (LeP (leS n p c) (leB n p c) w)) := fun w => xleast n p c hn hc w
  have H4 : Hid (∀ w, Calls Try.prog 16 #[.int .i64 n, .int .i64 p, .int .i64 c] w (LeP (leS n p c) (leB n p c) w)) := fun w => rleast n p c hn hc w
  have H5 : Hid (∀ w, Calls Try.prog 17 #[.int .i64 n, .int .i64 p, .int .i64 c, .int .i64 q] w (NuP (moS n p c q) w)) := fun w => xmost n p c q hn w
  have H6 : Hid (∀ w, Calls Try.prog 18 #[.int .i64 n, .int .i64 p, .int .i64 c, .int .i64 q] w (NuP (moS n p c q) w)) := fun w => rmost n p c q hn hc w
  generalize coS q p c = s at *
  generalize coE q p c = e at *
  generalize leS n p c = y at *
  generalize leB n p c = b at *
  generalize moS n p c q = m at *
  clear hn hc
  go_enter Try.func4, Try.ntmps4
  go_wp2_with (first | (go_at_call 13; refine (H1.out _).mono ?_; clear H1; rintro _ w1 ⟨rfl, HB⟩; have K1 : Hid (Below w.heap.size w w1) := HB; clear HB) | (go_at_call 14; refine (H2.out _).mono ?_; clear H2; rintro _ w2 ⟨rfl, HB⟩; have K2 : Hid (Below w.heap.size w w2) := K1.out.trans (HB.mono K1.out.size); clear HB) | (go_at_call 15; refine (H3.out _).mono ?_; clear H3; rintro _ w3 ⟨rfl, HB⟩; have K3 : Hid (Below w.heap.size w w3) := K2.out.trans (HB.mono K2.out.size); clear HB) | (go_at_call 16; refine (H4.out _).mono ?_; clear H4; rintro _ w4 ⟨rfl, HB⟩; have K4 : Hid (Below w.heap.size w w4) := K3.out.trans (HB.mono K3.out.size); clear HB) | (go_at_call 17; refine (H5.out _).mono ?_; clear H5; rintro _ w5 ⟨rfl, HB⟩; have K5 : Hid (Below w.heap.size w w5) := K4.out.trans (HB.mono K4.out.size); clear HB) | (go_at_call 18; refine (H6.out _).mono ?_; clear H6; rintro _ w6 ⟨rfl, HB⟩; have K6 : Hid (Below w.heap.size w w6) := K5.out.trans (HB.mono K5.out.size); clear HB) | (go_at_call 10; refine (HA.out _).mono ?_; clear HA; rintro _ w7 ⟨rfl, HB⟩; have K7 : Hid (Below w.heap.size w w7) := K6.out.trans (HB.mono K6.out.size); clear HB))
  go_ret
  exact ⟨rfl, K7.out⟩
theorem lq_pos {n p c : Int} (hg : Gd p c) (hn : 0 ≤ n) : 1 ≤ lq (n + 1) p c := by
  rcases (by omega : 1 ≤ lq (n + 1) p c ∨ lq (n + 1) p c ≤ 0) with h | h
  · exact h
  · have := (cv_iff hg (n + 1) 0).2 h
    rw [cv_zero] at this
    omega
/-- the least, and one fewer -/
theorem ti_least {n p c : Int} (h : LeY n p c) : coE (lq n p c) p c = 0 ∧ n ≤ coS (lq n p c) p c ∧ (0 < lq n p c → coE (lq n p c - 1) p c = 0 ∧ coS (lq n p c - 1) p c < n) := by
  have h0 := lq_nonneg h.1 h.2.1
  have h1 := co_yes (q := lq n p c) h.1 ⟨h0, h.2.2⟩
  refine ⟨h1.2, ?_, fun h2 => ?_⟩
  · rw [h1.1]; exact lq_least h.1
  · have h3 := co_yes (q := lq n p c - 1) h.1 (by have := h.2.2; omega)
    refine ⟨h3.2, ?_⟩
    rw [h3.1]
    have := cv_iff h.1 n (lq n p c - 1)
    omega
/-- the most, and one more -/
theorem ti_most {n p c q : Int} (h : 0 ≤ n ∧ Qk q ∧ Gd p c) : 0 ≤ wiN n p c q - 1 ∧ wiN n p c q - 1 ≤ q ∧ coE (wiN n p c q - 1) p c = 0 ∧ coS (wiN n p c q - 1) p c ≤ n ∧ (wiN n p c q - 1 ≠ q → coE (wiN n p c q) p c = 0 ∧ n < coS (wiN n p c q) p c) := by
  have h0 := lq_pos h.2.2 h.1
  have hw : wiN n p c q = min (lq (n + 1) p c) (q + 1) := rfl
  have h1 : 0 ≤ wiN n p c q - 1 ∧ wiN n p c q - 1 ≤ q := by have := h.2.1; omega
  have h2 := co_yes (q := wiN n p c q - 1) h.2.2 (by have := h.2.1; omega)
  refine ⟨h1.1, h1.2, h2.2, ?_, fun h3 => ?_⟩
  · rw [h2.1]; exact (wi_iff (qty := q) h.2.2 h1.2).2 (by omega)
  · have h4 := co_yes (q := wiN n p c q) h.2.2 (by have := h.2.1; omega)
    refine ⟨h4.2, ?_⟩
    rw [h4.1]
    have := wi_iff (limit := n) (qty := q) h.2.2 (m := wiN n p c q) (by omega)
    omega
set_option maxHeartbeats 32000000 in
theorem ltight (q p c n : Int) (hq : Rng q) (hn : Rng n) (hc : Rng c) (w : World) : Calls Try.prog 5 #[.int .i64 q, .int .i64 p, .int .i64 c, .int .i64 n] w (OkP w) := by
  have HA : Hid (∀ w, Calls Try.prog 10 #[] w (OkP w)) := fun w => xawake w
  have H1 : Hid (∀ w, Calls Try.prog 15 #[.int .i64 n, .int .i64 p, .int .i64 c] w (LeP (leS n p c) (leB n p c) w)) := fun w => xleast n p c hn hc w
  have H4 : Hid (∀ w, Calls Try.prog 17 #[.int .i64 n, .int .i64 p, .int .i64 c, .int .i64 q] w (NuP (moS n p c q) w)) := fun w => xmost n p c q hn w
  have HC : Hid (∀ y, ∀ w, Calls Try.prog 13 #[.int .i64 y, .int .i64 p, .int .i64 c] w (WoP (coS y p c) (coE y p c) w)) := fun y w => xcover y p c hc w
  by_cases k1 : LeY n p c
  · have t1 := ti_least k1
    rw [(le_yes k1).1, (le_yes k1).2] at H1
    have hl0 := lq_nonneg k1.1 k1.2.1
    have hl1 := k1.2.2
    have H2 : Hid (∀ w, Calls Try.prog 13 #[.int .i64 (lq n p c), .int .i64 p, .int .i64 c] w (WoP (coS (lq n p c) p c) 0 w)) := fun w => by have := HC.out (lq n p c) w; rw [t1.1] at this; exact this
    by_cases k4 : 0 < lq n p c
    · have H3 : Hid (∀ w, Calls Try.prog 13 #[.int .i64 (lq n p c - 1), .int .i64 p, .int .i64 c] w (WoP (coS (lq n p c - 1) p c) 0 w)) := fun w => by have := HC.out (lq n p c - 1) w; rw [(t1.2.2 k4).1] at this; exact this
      have b1 := t1.2.1
      have b2 := (t1.2.2 k4).2
      clear t1 k1
      generalize lq n p c = l at *
      generalize coS (l - 1) p c = y2 at *
      generalize coS l p c = y1 at *
      by_cases k2 : 0 ≤ n ∧ Qk q ∧ Gd p c
      · have t2 := ti_most k2
        rw [mo_yes k2] at H4
        have hqq := k2.2.1
        clear k2
        have H5 : Hid (∀ w, Calls Try.prog 13 #[.int .i64 (wiN n p c q - 1), .int .i64 p, .int .i64 c] w (WoP (coS (wiN n p c q - 1) p c) 0 w)) := fun w => by have := HC.out (wiN n p c q - 1) w; rw [t2.2.2.1] at this; exact this
        by_cases k3 : wiN n p c q - 1 = q
        · obtain ⟨a1, a2, _, a4, _⟩ := t2
          rw [k3] at H4 H5 a4
          clear HC k3 a1 a2
          generalize coS q p c = x2 at *
          have hbe : (q == q) = true := by simp
          go_enter Try.func5, Try.ntmps5
          go_wp2_with (first | (go_at_call 15; refine (H1.out _).mono ?_; clear H1; rintro _ w1 ⟨rfl, HB⟩; have K1 : Hid (Below w.heap.size w w1) := HB; clear HB) | (go_at_call 13; refine (H2.out _).mono ?_; clear H2; rintro _ w2 ⟨rfl, HB⟩; have K2 : Hid (Below w.heap.size w w2) := K1.out.trans (HB.mono K1.out.size); clear HB) | (go_at_call 13; refine (H3.out _).mono ?_; clear H3; rintro _ w3 ⟨rfl, HB⟩; have K3 : Hid (Below w.heap.size w w3) := K2.out.trans (HB.mono K2.out.size); clear HB) | (go_at_call 17; refine (H4.out _).mono ?_; clear H4; rintro _ w4 ⟨rfl, HB⟩; have K4 : Hid (Below w.heap.size w w4) := K3.out.trans (HB.mono K3.out.size); clear HB) | (go_at_call 13; refine (H5.out _).mono ?_; clear H5; rintro _ w5 ⟨rfl, HB⟩; have K5 : Hid (Below w.heap.size w w5) := K4.out.trans (HB.mono K4.out.size); clear HB) | (go_at_call 10; refine (HA.out _).mono ?_; clear HA; rintro _ w6 ⟨rfl, HB⟩; have K6 : Hid (Below w.heap.size w w6) := K5.out.trans (HB.mono K5.out.size); clear HB))
          go_ret
          exact ⟨rfl, K6.out⟩
        · have t3 := t2.2.2.2.2 k3
          have H6 : Hid (∀ w, Calls Try.prog 13 #[.int .i64 (wiN n p c q), .int .i64 p, .int .i64 c] w (WoP (coS (wiN n p c q) p c) 0 w)) := fun w => by have := HC.out (wiN n p c q) w; rw [t3.1] at this; exact this
          obtain ⟨a1, a2, _, a4, _⟩ := t2
          have a5 := t3.2
          have hbe : (wiN n p c q - 1 == q) = false := by simp [k3]
          obtain ⟨m, hm⟩ : ∃ m, m = wiN n p c q - 1 := ⟨_, rfl⟩
          have hm2 : wiN n p c q = m + 1 := by omega
          rw [hm2] at a5 H6
          rw [← hm] at H4 H5 a1 a2 a4 hbe
          generalize coS (m + 1) p c = x3 at *
          generalize coS m p c = x2 at *
          clear HC k3 t3 hm hm2
          go_enter Try.func5, Try.ntmps5
          go_wp2_with (first | (go_at_call 15; refine (H1.out _).mono ?_; clear H1; rintro _ w1 ⟨rfl, HB⟩; have K1 : Hid (Below w.heap.size w w1) := HB; clear HB) | (go_at_call 13; refine (H2.out _).mono ?_; clear H2; rintro _ w2 ⟨rfl, HB⟩; have K2 : Hid (Below w.heap.size w w2) := K1.out.trans (HB.mono K1.out.size); clear HB) | (go_at_call 13; refine (H3.out _).mono ?_; clear H3; rintro _ w3 ⟨rfl, HB⟩; have K3 : Hid (Below w.heap.size w w3) := K2.out.trans (HB.mono K2.out.size); clear HB) | (go_at_call 17; refine (H4.out _).mono ?_; clear H4; rintro _ w4 ⟨rfl, HB⟩; have K4 : Hid (Below w.heap.size w w4) := K3.out.trans (HB.mono K3.out.size); clear HB) | (go_at_call 13; refine (H5.out _).mono ?_; clear H5; rintro _ w5 ⟨rfl, HB⟩; have K5 : Hid (Below w.heap.size w w5) := K4.out.trans (HB.mono K4.out.size); clear HB) | (go_at_call 13; refine (H6.out _).mono ?_; clear H6; rintro _ w6 ⟨rfl, HB⟩; have K6 : Hid (Below w.heap.size w w6) := K5.out.trans (HB.mono K5.out.size); clear HB) | (go_at_call 10; refine (HA.out _).mono ?_; clear HA; rintro _ w7 ⟨rfl, HB⟩; have K7 : Hid (Below w.heap.size w w7) := K6.out.trans (HB.mono K6.out.size); clear HB))
          go_ret
          exact ⟨rfl, K7.out⟩
      · rw [mo_no k2] at H4
        clear HC k2
        go_enter Try.func5, Try.ntmps5
        go_wp2_with (first | (go_at_call 15; refine (H1.out _).mono ?_; clear H1; rintro _ w1 ⟨rfl, HB⟩; have K1 : Hid (Below w.heap.size w w1) := HB; clear HB) | (go_at_call 13; refine (H2.out _).mono ?_; clear H2; rintro _ w2 ⟨rfl, HB⟩; have K2 : Hid (Below w.heap.size w w2) := K1.out.trans (HB.mono K1.out.size); clear HB) | (go_at_call 13; refine (H3.out _).mono ?_; clear H3; rintro _ w3 ⟨rfl, HB⟩; have K3 : Hid (Below w.heap.size w w3) := K2.out.trans (HB.mono K2.out.size); clear HB) | (go_at_call 17; refine (H4.out _).mono ?_; clear H4; rintro _ w4 ⟨rfl, HB⟩; have K4 : Hid (Below w.heap.size w w4) := K3.out.trans (HB.mono K3.out.size); clear HB) | (go_at_call 10; refine (HA.out _).mono ?_; clear HA; rintro _ w5 ⟨rfl, HB⟩; have K5 : Hid (Below w.heap.size w w5) := K4.out.trans (HB.mono K4.out.size); clear HB))
        go_ret
        exact ⟨rfl, K5.out⟩
    · have b1 := t1.2.1
      have k5 : lq n p c = 0 := by omega
      clear t1 k1
      rw [k5] at H1 H2 b1
      clear k4 k5 hl0 hl1
      generalize coS 0 p c = y1 at *
      by_cases k2 : 0 ≤ n ∧ Qk q ∧ Gd p c
      · have t2 := ti_most k2
        rw [mo_yes k2] at H4
        have hqq := k2.2.1
        clear k2
        have H5 : Hid (∀ w, Calls Try.prog 13 #[.int .i64 (wiN n p c q - 1), .int .i64 p, .int .i64 c] w (WoP (coS (wiN n p c q - 1) p c) 0 w)) := fun w => by have := HC.out (wiN n p c q - 1) w; rw [t2.2.2.1] at this; exact this
        by_cases k3 : wiN n p c q - 1 = q
        · obtain ⟨a1, a2, _, a4, _⟩ := t2
          rw [k3] at H4 H5 a4
          clear HC k3 a1 a2
          generalize coS q p c = x2 at *
          have hbe : (q == q) = true := by simp
          go_enter Try.func5, Try.ntmps5
          go_wp2_with (first | (go_at_call 15; refine (H1.out _).mono ?_; clear H1; rintro _ w1 ⟨rfl, HB⟩; have K1 : Hid (Below w.heap.size w w1) := HB; clear HB) | (go_at_call 13; refine (H2.out _).mono ?_; clear H2; rintro _ w2 ⟨rfl, HB⟩; have K2 : Hid (Below w.heap.size w w2) := K1.out.trans (HB.mono K1.out.size); clear HB) | (go_at_call 17; refine (H4.out _).mono ?_; clear H4; rintro _ w3 ⟨rfl, HB⟩; have K3 : Hid (Below w.heap.size w w3) := K2.out.trans (HB.mono K2.out.size); clear HB) | (go_at_call 13; refine (H5.out _).mono ?_; clear H5; rintro _ w4 ⟨rfl, HB⟩; have K4 : Hid (Below w.heap.size w w4) := K3.out.trans (HB.mono K3.out.size); clear HB) | (go_at_call 10; refine (HA.out _).mono ?_; clear HA; rintro _ w5 ⟨rfl, HB⟩; have K5 : Hid (Below w.heap.size w w5) := K4.out.trans (HB.mono K4.out.size); clear HB))
          go_ret
          exact ⟨rfl, K5.out⟩
        · have t3 := t2.2.2.2.2 k3
          have H6 : Hid (∀ w, Calls Try.prog 13 #[.int .i64 (wiN n p c q), .int .i64 p, .int .i64 c] w (WoP (coS (wiN n p c q) p c) 0 w)) := fun w => by have := HC.out (wiN n p c q) w; rw [t3.1] at this; exact this
          obtain ⟨a1, a2, _, a4, _⟩ := t2
          have a5 := t3.2
          have hbe : (wiN n p c q - 1 == q) = false := by simp [k3]
          obtain ⟨m, hm⟩ : ∃ m, m = wiN n p c q - 1 := ⟨_, rfl⟩
          have hm2 : wiN n p c q = m + 1 := by omega
          rw [hm2] at a5 H6
          rw [← hm] at H4 H5 a1 a2 a4 hbe
          generalize coS (m + 1) p c = x3 at *
          generalize coS m p c = x2 at *
          clear HC k3 t3 hm hm2
          go_enter Try.func5, Try.ntmps5
          go_wp2_with (first | (go_at_call 15; refine (H1.out _).mono ?_; clear H1; rintro _ w1 ⟨rfl, HB⟩; have K1 : Hid (Below w.heap.size w w1) := HB; clear HB) | (go_at_call 13; refine (H2.out _).mono ?_; clear H2; rintro _ w2 ⟨rfl, HB⟩; have K2 : Hid (Below w.heap.size w w2) := K1.out.trans (HB.mono K1.out.size); clear HB) | (go_at_call 17; refine (H4.out _).mono ?_; clear H4; rintro _ w3 ⟨rfl, HB⟩; have K3 : Hid (Below w.heap.size w w3) := K2.out.trans (HB.mono K2.out.size); clear HB) | (go_at_call 13; refine (H5.out _).mono ?_; clear H5; rintro _ w4 ⟨rfl, HB⟩; have K4 : Hid (Below w.heap.size w w4) := K3.out.trans (HB.mono K3.out.size); clear HB) | (go_at_call 13; refine (H6.out _).mono ?_; clear H6; rintro _ w5 ⟨rfl, HB⟩; have K5 : Hid (Below w.heap.size w w5) := K4.out.trans (HB.mono K4.out.size); clear HB) | (go_at_call 10; refine (HA.out _).mono ?_; clear HA; rintro _ w6 ⟨rfl, HB⟩; have K6 : Hid (Below w.heap.size w w6) := K5.out.trans (HB.mono K5.out.size); clear HB))
          go_ret
          exact ⟨rfl, K6.out⟩
      · rw [mo_no k2] at H4
        clear HC k2
        go_enter Try.func5, Try.ntmps5
        go_wp2_with (first | (go_at_call 15; refine (H1.out _).mono ?_; clear H1; rintro _ w1 ⟨rfl, HB⟩; have K1 : Hid (Below w.heap.size w w1) := HB; clear HB) | (go_at_call 13; refine (H2.out _).mono ?_; clear H2; rintro _ w2 ⟨rfl, HB⟩; have K2 : Hid (Below w.heap.size w w2) := K1.out.trans (HB.mono K1.out.size); clear HB) | (go_at_call 17; refine (H4.out _).mono ?_; clear H4; rintro _ w3 ⟨rfl, HB⟩; have K3 : Hid (Below w.heap.size w w3) := K2.out.trans (HB.mono K2.out.size); clear HB) | (go_at_call 10; refine (HA.out _).mono ?_; clear HA; rintro _ w4 ⟨rfl, HB⟩; have K4 : Hid (Below w.heap.size w w4) := K3.out.trans (HB.mono K3.out.size); clear HB))
        go_ret
        exact ⟨rfl, K4.out⟩
  · rw [(le_no k1).1, (le_no k1).2] at H1
    clear k1
    by_cases k2 : 0 ≤ n ∧ Qk q ∧ Gd p c
    · have t2 := ti_most k2
      rw [mo_yes k2] at H4
      have hqq := k2.2.1
      clear k2
      have H5 : Hid (∀ w, Calls Try.prog 13 #[.int .i64 (wiN n p c q - 1), .int .i64 p, .int .i64 c] w (WoP (coS (wiN n p c q - 1) p c) 0 w)) := fun w => by have := HC.out (wiN n p c q - 1) w; rw [t2.2.2.1] at this; exact this
      by_cases k3 : wiN n p c q - 1 = q
      · obtain ⟨a1, a2, _, a4, _⟩ := t2
        rw [k3] at H4 H5 a4
        clear HC k3 a1 a2
        generalize coS q p c = x2 at *
        have hbe : (q == q) = true := by simp
        go_enter Try.func5, Try.ntmps5
        go_wp2_with (first | (go_at_call 15; refine (H1.out _).mono ?_; clear H1; rintro _ w1 ⟨rfl, HB⟩; have K1 : Hid (Below w.heap.size w w1) := HB; clear HB) | (go_at_call 17; refine (H4.out _).mono ?_; clear H4; rintro _ w2 ⟨rfl, HB⟩; have K2 : Hid (Below w.heap.size w w2) := K1.out.trans (HB.mono K1.out.size); clear HB) | (go_at_call 13; refine (H5.out _).mono ?_; clear H5; rintro _ w3 ⟨rfl, HB⟩; have K3 : Hid (Below w.heap.size w w3) := K2.out.trans (HB.mono K2.out.size); clear HB) | (go_at_call 10; refine (HA.out _).mono ?_; clear HA; rintro _ w4 ⟨rfl, HB⟩; have K4 : Hid (Below w.heap.size w w4) := K3.out.trans (HB.mono K3.out.size); clear HB))
        go_ret
        exact ⟨rfl, K4.out⟩
      · have t3 := t2.2.2.2.2 k3
        have H6 : Hid (∀ w, Calls Try.prog 13 #[.int .i64 (wiN n p c q), .int .i64 p, .int .i64 c] w (WoP (coS (wiN n p c q) p c) 0 w)) := fun w => by have := HC.out (wiN n p c q) w; rw [t3.1] at this; exact this
        obtain ⟨a1, a2, _, a4, _⟩ := t2
        have a5 := t3.2
        have hbe : (wiN n p c q - 1 == q) = false := by simp [k3]
        obtain ⟨m, hm⟩ : ∃ m, m = wiN n p c q - 1 := ⟨_, rfl⟩
        have hm2 : wiN n p c q = m + 1 := by omega
        rw [hm2] at a5 H6
        rw [← hm] at H4 H5 a1 a2 a4 hbe
        generalize coS (m + 1) p c = x3 at *
        generalize coS m p c = x2 at *
        clear HC k3 t3 hm hm2
        go_enter Try.func5, Try.ntmps5
        go_wp2_with (first | (go_at_call 15; refine (H1.out _).mono ?_; clear H1; rintro _ w1 ⟨rfl, HB⟩; have K1 : Hid (Below w.heap.size w w1) := HB; clear HB) | (go_at_call 17; refine (H4.out _).mono ?_; clear H4; rintro _ w2 ⟨rfl, HB⟩; have K2 : Hid (Below w.heap.size w w2) := K1.out.trans (HB.mono K1.out.size); clear HB) | (go_at_call 13; refine (H5.out _).mono ?_; clear H5; rintro _ w3 ⟨rfl, HB⟩; have K3 : Hid (Below w.heap.size w w3) := K2.out.trans (HB.mono K2.out.size); clear HB) | (go_at_call 13; refine (H6.out _).mono ?_; clear H6; rintro _ w4 ⟨rfl, HB⟩; have K4 : Hid (Below w.heap.size w w4) := K3.out.trans (HB.mono K3.out.size); clear HB) | (go_at_call 10; refine (HA.out _).mono ?_; clear HA; rintro _ w5 ⟨rfl, HB⟩; have K5 : Hid (Below w.heap.size w w5) := K4.out.trans (HB.mono K4.out.size); clear HB))
        go_ret
        exact ⟨rfl, K5.out⟩
    · rw [mo_no k2] at H4
      clear HC k2
      go_enter Try.func5, Try.ntmps5
      go_wp2_with (first | (go_at_call 15; refine (H1.out _).mono ?_; clear H1; rintro _ w1 ⟨rfl, HB⟩; have K1 : Hid (Below w.heap.size w w1) := HB; clear HB) | (go_at_call 17; refine (H4.out _).mono ?_; clear H4; rintro _ w2 ⟨rfl, HB⟩; have K2 : Hid (Below w.heap.size w w2) := K1.out.trans (HB.mono K1.out.size); clear HB) | (go_at_call 10; refine (HA.out _).mono ?_; clear HA; rintro _ w3 ⟨rfl, HB⟩; have K3 : Hid (Below w.heap.size w w3) := K2.out.trans (HB.mono K2.out.size); clear HB))
      go_ret
      exact ⟨rfl, K3.out⟩
end Go.Proofs.Ytpdlbbglbbmjmaa
