/- layer 15: the chapter's example; laws More, Tight, Covers -/
import Derived.Test.YtpdlbbglbbmjmaaHC
import Derived.WalkKit
import Derived.ProofKit
import Derived.Handy
import Derived.WalkLawsBesides
import Derived.WalkSpells
import Derived.BigQuiet
import Derived.BigCall
import Derived.Deep.QuietTactic
import Derived.Deep.Light
import Derived.Deep.OwnRows
import Derived.Laws.AppendOwnNone
import Derived.Laws.Strings3
import Derived.Laws.RangeAny
import Derived.Deep.RegionWith
import Derived.Lib.BitFns
import Derived.Lib.Walk
import Derived.Lib.Strings
import Derived.Lib.OthersKept
import Derived.Deep.CutBlock
import Derived.Deep.DeepCutAuto
import Derived.Deep.LoopGhost
import Derived.Deep.RegionHeld3
import Derived.Lib.SmallJoins
import Derived.Maps.AppendAt
import Derived.Laws.IdiomStrings
import Derived.Lib.AppendZeros
import Derived.Deep.WholeRow
import Derived.Laws.BitsAllLaws
import Derived.Lib.ConvBytes
import Derived.Deep.RegionLaw
namespace Go.Proofs.Ytpdlbbglbbmjmaa
open Go.RowKit
set_option linter.unusedVariables false
set_option linter.unusedSimpArgs false
set_option maxRecDepth 20000
open N1
theorem wf_rng {n : Int} (h : (Lit.int .i64 n).wf = true) : Rng n := by
  simpa [Lit.wf, IntKind.min, IntKind.max, IntKind.signed, IntKind.bits, Rng] using h
set_option maxHeartbeats 4000000 in
theorem xawake (w : World) : Calls Try.prog 10 #[] w (OkP w) := by
  have HC : Hid (∀ w, Calls Try.prog 13 #[.int .i64 1000, .int .i64 990000, .int .i64 100000] w (WoP 891 0 w)) := fun w => xcover 1000 990000 100000 (by omega) w
  have HL : Hid (∀ w, Calls Try.prog 15 #[.int .i64 891, .int .i64 990000, .int .i64 100000] w (LeP 1000 true w)) := fun w => xleast 891 990000 100000 (by omega) (by omega) w
  go_enter Try.func10, Try.ntmps10
  go_wp2_with (first | (go_at_call 13; refine (HC.out _).mono ?_; rintro e w1 ⟨rfl, HB1⟩; have K1 : Hid (Below w.heap.size w w1) := HB1; clear HB1) | (go_at_call 15; refine (HL.out _).mono ?_; rintro e w2 ⟨rfl, HB2⟩; have K2 : Hid (Below w.heap.size w w2) := K1.out.trans (HB2.mono K1.out.size); clear HB2))
  go_ret
  exact ⟨rfl, K2.out⟩
theorem co_rng (q p c : Int) : 0 ≤ coS q p c ∧ coS q p c ≤ 4835703278458516698 ∧ (coE q p c = 0 ∨ coE q p c = 1) := by
  by_cases h : Gd p c ∧ Qk q
  · rw [(co_yes h.1 h.2).1, (co_yes h.1 h.2).2]
    have := cv_bounds h.1 h.2
    omega
  · rw [(co_no h).1, (co_no h).2]; omega
theorem co_ok {q p c : Int} (h : coE q p c = 0) : Gd p c ∧ Qk q ∧ coS q p c = cv q p c := by
  by_cases k : Gd p c ∧ Qk q
  · exact ⟨k.1, k.2, (co_yes k.1 k.2).1⟩
  · rw [(co_no k).2] at h; omega
set_option maxHeartbeats 8000000 in
theorem lmore (a b p c m : Int) (hc : Rng c) (hm : Rng m) (w : World) : Calls Try.prog 6 #[.int .i64 a, .int .i64 b, .int .i64 p, .int .i64 c, .int .i64 m] w (OkP w) := by
  have HA : Hid (∀ w, Calls Try.prog 10 #[] w (OkP w)) := fun w => xawake w
  by_cases h1 : b < a
  · go_enter Try.func6, Try.ntmps6
    go_wp2_with (go_at_call 10; refine (HA.out _).mono ?_; rintro e w1 ⟨rfl, HB1⟩)
    go_ret
    exact ⟨rfl, HB1⟩
  by_cases h2 : m < c
  · go_enter Try.func6, Try.ntmps6
    go_wp2_with (go_at_call 10; refine (HA.out _).mono ?_; rintro e w1 ⟨rfl, HB1⟩)
    go_ret
    exact ⟨rfl, HB1⟩
  have fin : ∀ (x e y f z g : Int), (e = 0 ∨ e = 1) → (f = 0 ∨ f = 1) → (g = 0 ∨ g = 1) → (e = 0 → f = 0 → g = 0 → x ≤ y ∧ z ≤ y ∧ 0 ≤ x) → (∀ w, Calls Try.prog 13 #[.int .i64 a, .int .i64 p, .int .i64 c] w (WoP x e w)) → (∀ w, Calls Try.prog 13 #[.int .i64 b, .int .i64 p, .int .i64 c] w (WoP y f w)) → (∀ w, Calls Try.prog 13 #[.int .i64 b, .int .i64 p, .int .i64 m] w (WoP z g w)) → Calls Try.prog 6 #[.int .i64 a, .int .i64 b, .int .i64 p, .int .i64 c, .int .i64 m] w (OkP w) := by
    intro x e y f z g he hf hg hh c1 c2 c3
    have H1 : Hid (∀ w, Calls Try.prog 13 #[.int .i64 a, .int .i64 p, .int .i64 c] w (WoP x e w)) := c1
    have H2 : Hid (∀ w, Calls Try.prog 13 #[.int .i64 b, .int .i64 p, .int .i64 c] w (WoP y f w)) := c2
    have H3 : Hid (∀ w, Calls Try.prog 13 #[.int .i64 b, .int .i64 p, .int .i64 m] w (WoP z g w)) := c3
    clear c1 c2 c3
    rcases he with rfl | rfl
    · rcases hf with rfl | rfl
      · rcases hg with rfl | rfl
        · obtain ⟨k1, k2, k3⟩ := hh rfl rfl rfl
          clear hh
          go_enter Try.func6, Try.ntmps6
          go_wp2_with (first | (go_at_call 13; refine (H1.out _).mono ?_; clear H1; rintro e w1 ⟨rfl, HB1⟩; have K1 : Hid (Below w.heap.size w w1) := HB1; clear HB1) | (go_at_call 13; refine (H2.out _).mono ?_; clear H2; rintro e w2 ⟨rfl, HB2⟩; have K2 : Hid (Below w.heap.size w w2) := K1.out.trans (HB2.mono K1.out.size); clear HB2) | (go_at_call 13; refine (H3.out _).mono ?_; clear H3; rintro e w3 ⟨rfl, HB3⟩; have K3 : Hid (Below w.heap.size w w3) := K2.out.trans (HB3.mono K2.out.size); clear HB3) | (go_at_call 10; refine (HA.out _).mono ?_; rintro e w4 ⟨rfl, HB4⟩; have K4 : Hid (Below w.heap.size w w4) := K3.out.trans (HB4.mono K3.out.size); clear HB4))
          go_ret
          exact ⟨rfl, K4.out⟩
        · clear hh
          go_enter Try.func6, Try.ntmps6
          go_wp2_with (first | (go_at_call 13; refine (H1.out _).mono ?_; clear H1; rintro e w1 ⟨rfl, HB1⟩; have K1 : Hid (Below w.heap.size w w1) := HB1; clear HB1) | (go_at_call 13; refine (H2.out _).mono ?_; clear H2; rintro e w2 ⟨rfl, HB2⟩; have K2 : Hid (Below w.heap.size w w2) := K1.out.trans (HB2.mono K1.out.size); clear HB2) | (go_at_call 13; refine (H3.out _).mono ?_; clear H3; rintro e w3 ⟨rfl, HB3⟩; have K3 : Hid (Below w.heap.size w w3) := K2.out.trans (HB3.mono K2.out.size); clear HB3) | (go_at_call 10; refine (HA.out _).mono ?_; rintro e w4 ⟨rfl, HB4⟩; have K4 : Hid (Below w.heap.size w w4) := K3.out.trans (HB4.mono K3.out.size); clear HB4))
          go_ret
          exact ⟨rfl, K4.out⟩
      · clear hh hg
        go_enter Try.func6, Try.ntmps6
        go_wp2_with (first | (go_at_call 13; refine (H1.out _).mono ?_; clear H1; rintro e w1 ⟨rfl, HB1⟩; have K1 : Hid (Below w.heap.size w w1) := HB1; clear HB1) | (go_at_call 13; refine (H2.out _).mono ?_; clear H2; rintro e w2 ⟨rfl, HB2⟩; have K2 : Hid (Below w.heap.size w w2) := K1.out.trans (HB2.mono K1.out.size); clear HB2) | (go_at_call 13; refine (H3.out _).mono ?_; clear H3; rintro e w3 ⟨rfl, HB3⟩; have K3 : Hid (Below w.heap.size w w3) := K2.out.trans (HB3.mono K2.out.size); clear HB3) | (go_at_call 10; refine (HA.out _).mono ?_; rintro e w4 ⟨rfl, HB4⟩; have K4 : Hid (Below w.heap.size w w4) := K3.out.trans (HB4.mono K3.out.size); clear HB4))
        go_ret
        exact ⟨rfl, K4.out⟩
    · clear hh hf hg
      go_enter Try.func6, Try.ntmps6
      go_wp2_with (first | (go_at_call 13; refine (H1.out _).mono ?_; clear H1; rintro e w1 ⟨rfl, HB1⟩; have K1 : Hid (Below w.heap.size w w1) := HB1; clear HB1) | (go_at_call 13; refine (H2.out _).mono ?_; clear H2; rintro e w2 ⟨rfl, HB2⟩; have K2 : Hid (Below w.heap.size w w2) := K1.out.trans (HB2.mono K1.out.size); clear HB2) | (go_at_call 13; refine (H3.out _).mono ?_; clear H3; rintro e w3 ⟨rfl, HB3⟩; have K3 : Hid (Below w.heap.size w w3) := K2.out.trans (HB3.mono K2.out.size); clear HB3) | (go_at_call 10; refine (HA.out _).mono ?_; rintro e w4 ⟨rfl, HB4⟩; have K4 : Hid (Below w.heap.size w w4) := K3.out.trans (HB4.mono K3.out.size); clear HB4))
      go_ret
      exact ⟨rfl, K4.out⟩
  refine fin _ _ _ _ _ _ (co_rng a p c).2.2 (co_rng b p c).2.2 (co_rng b p m).2.2 (fun e1 e2 e3 => ?_) (fun w => xcover a p c hc w) (fun w => xcover b p c hc w) (fun w => xcover b p m hm w)
  have k1 := co_ok e1
  have k2 := co_ok e2
  have k3 := co_ok e3
  rw [k1.2.2, k2.2.2, k3.2.2]
  exact ⟨cv_mono k1.1 (by omega), cv_cut k1.1.1.1 k2.2.1.1 (by omega), (cv_bounds k1.1 k1.2.1).1⟩
end Go.Proofs.Ytpdlbbglbbmjmaa
