/- layer 13: law More -/
import Derived.Test.YtbgdmpaghkmadaaWA
import Derived.WalkKit
import Derived.ProofKit
import Derived.Handy
import Derived.WalkLawsBesides
import Derived.WalkSpells
import Derived.BigQuiet
import Derived.BigCall
import Derived.Deep.QuietTactic
import Derived.Deep.Light
import Derived.Deep.OwnRows
import Derived.Laws.AppendOwnNone
import Derived.Laws.Strings3
import Derived.Laws.RangeAny
import Derived.Deep.RegionWith
import Derived.Lib.BitFns
import Derived.Lib.Walk
import Derived.Lib.Strings
import Derived.Lib.OthersKept
import Derived.Deep.CutBlock
import Derived.Deep.DeepCutAuto
import Derived.Deep.LoopGhost
import Derived.Deep.RegionHeld3
import Derived.Lib.SmallJoins
import Derived.Maps.AppendAt
import Derived.Laws.IdiomStrings
import Derived.Lib.AppendZeros
import Derived.Deep.WholeRow
import Derived.Laws.BitsAllLaws
import Derived.Lib.ConvBytes
import Derived.Deep.RegionLaw
namespace Go.Proofs.Ytbgdmpaghkmadaa
open Go.RowKit
set_option linter.unusedVariables false
set_option linter.unusedSimpArgs false
set_option maxRecDepth 20000
theorem more_num {a b p : Int} (ha : 0 ≤ a ∧ a ≤ 562949953421312) (hb : 0 ≤ b ∧ b ≤ 562949953421312) (hp : 1 ≤ p ∧ p ≤ 4294967296) : woS a p + woS b p ≤ woS (a + b) p ∧ woS (a + b) p ≤ woS a p + woS b p + 1 := by
  rw [(wo_yes (q := a) (p := p) ⟨by omega, hp⟩).1, (wo_yes (q := b) (p := p) ⟨by omega, hp⟩).1, (wo_yes (q := a + b) (p := p) ⟨by omega, hp⟩).1, Int.add_mul]
  generalize a * p = x
  generalize b * p = y
  omega
theorem wo_small {a p : Int} (ha : 0 ≤ a ∧ a ≤ 562949953421312) : 0 ≤ woS a p ∧ woS a p ≤ 2417851639229258349 := by
  by_cases h : Okq a p
  · rw [(wo_yes h).1]
    have := N1.wd_0 0
    have := prod_le a p 562949953421312 4294967296 ha (by omega)
    generalize a * p = y at *
    omega
  · rw [(wo_no h).1]; omega
set_option maxHeartbeats 8000000 in
theorem lmore (a b p : Int) (ha : Rng a) (hb : Rng b) (w : World) : Calls Try.prog 7 #[.int .i64 a, .int .i64 b, .int .i64 p] w (OkP w) := by
  have HA : Hid (∀ w, Calls Try.prog 12 #[] w (OkP w)) := fun w => xawake w
  by_cases h1 : a < 0
  · go_enter Try.func7, Try.ntmps7
    go_wp2_with (go_at_call 12; refine (HA.out _).mono ?_; rintro e w1 ⟨rfl, HB1⟩)
    go_ret
    exact ⟨rfl, HB1⟩
  by_cases h2 : b < 0
  · go_enter Try.func7, Try.ntmps7
    go_wp2_with (go_at_call 12; refine (HA.out _).mono ?_; rintro e w1 ⟨rfl, HB1⟩)
    go_ret
    exact ⟨rfl, HB1⟩
  by_cases h3 : 562949953421312 < a
  · go_enter Try.func7, Try.ntmps7
    go_wp2_with (go_at_call 12; refine (HA.out _).mono ?_; rintro e w1 ⟨rfl, HB1⟩)
    go_ret
    exact ⟨rfl, HB1⟩
  by_cases h4 : 562949953421312 < b
  · go_enter Try.func7, Try.ntmps7
    go_wp2_with (go_at_call 12; refine (HA.out _).mono ?_; rintro e w1 ⟨rfl, HB1⟩)
    go_ret
    exact ⟨rfl, HB1⟩
  have fin : ∀ (x y z e : Int), ((e = 0 ∧ x + y ≤ z ∧ z ≤ x + y + 1 ∧ 0 ≤ x ∧ 0 ≤ y ∧ x ≤ 2417851639229258349 ∧ y ≤ 2417851639229258349) ∨ (e = 1 ∧ x = 0 ∧ y = 0 ∧ z = 0)) → (∀ w, Calls Try.prog 17 #[.int .i64 a, .int .i64 p] w (WoP x e w)) → (∀ w, Calls Try.prog 17 #[.int .i64 b, .int .i64 p] w (WoP y e w)) → (∀ w, Calls Try.prog 17 #[.int .i64 (a + b), .int .i64 p] w (WoP z e w)) → Calls Try.prog 7 #[.int .i64 a, .int .i64 b, .int .i64 p] w (OkP w) := by
    intro x y z e hc c1 c2 c3
    have H1 : Hid (∀ w, Calls Try.prog 17 #[.int .i64 a, .int .i64 p] w (WoP x e w)) := c1
    have H2 : Hid (∀ w, Calls Try.prog 17 #[.int .i64 b, .int .i64 p] w (WoP y e w)) := c2
    have H3 : Hid (∀ w, Calls Try.prog 17 #[.int .i64 (a + b), .int .i64 p] w (WoP z e w)) := c3
    clear c1 c2 c3
    rcases hc with ⟨rfl, k1, k2, k3, k4, k5, k6⟩ | ⟨rfl, rfl, rfl, rfl⟩
    · have g1 : x ≤ z := by omega
      have g2 : y ≤ z := by omega
      go_enter Try.func7, Try.ntmps7
      go_wp2_with (first | (go_at_call 17; refine (H1.out _).mono ?_; clear H1; rintro e w1 ⟨rfl, HB1⟩; have K1 : Hid (Below w.heap.size w w1) := HB1; clear HB1) | (go_at_call 17; refine (H2.out _).mono ?_; clear H2; rintro e w2 ⟨rfl, HB2⟩; have K2 : Hid (Below w.heap.size w w2) := K1.out.trans (HB2.mono K1.out.size); clear HB2) | (go_at_call 17; refine (H3.out _).mono ?_; clear H3; rintro e w3 ⟨rfl, HB3⟩; have K3 : Hid (Below w.heap.size w w3) := K2.out.trans (HB3.mono K2.out.size); clear HB3) | (go_at_call 12; refine (HA.out _).mono ?_; rintro e w4 ⟨rfl, HB4⟩; have K4 : Hid (Below w.heap.size w w4) := K3.out.trans (HB4.mono K3.out.size); clear HB4))
      go_ret
      exact ⟨rfl, K4.out⟩
    · go_enter Try.func7, Try.ntmps7
      go_wp2_with (first | (go_at_call 17; refine (H1.out _).mono ?_; clear H1; rintro e w1 ⟨rfl, HB1⟩; have K1 : Hid (Below w.heap.size w w1) := HB1; clear HB1) | (go_at_call 17; refine (H2.out _).mono ?_; clear H2; rintro e w2 ⟨rfl, HB2⟩; have K2 : Hid (Below w.heap.size w w2) := K1.out.trans (HB2.mono K1.out.size); clear HB2) | (go_at_call 17; refine (H3.out _).mono ?_; clear H3; rintro e w3 ⟨rfl, HB3⟩; have K3 : Hid (Below w.heap.size w w3) := K2.out.trans (HB3.mono K2.out.size); clear HB3) | (go_at_call 12; refine (HA.out _).mono ?_; rintro e w4 ⟨rfl, HB4⟩; have K4 : Hid (Below w.heap.size w w4) := K3.out.trans (HB4.mono K3.out.size); clear HB4))
      go_ret
      exact ⟨rfl, K4.out⟩
  have e1 : woE a p = woE (a + b) p := by
    unfold woE
    by_cases h : 1 ≤ p ∧ p ≤ 4294967296
    · rw [if_pos ⟨by omega, h⟩, if_pos ⟨by omega, h⟩]
    · rw [if_neg (by omega), if_neg (by omega)]
  have e2 : woE b p = woE (a + b) p := by
    unfold woE
    by_cases h : 1 ≤ p ∧ p ≤ 4294967296
    · rw [if_pos ⟨by omega, h⟩, if_pos ⟨by omega, h⟩]
    · rw [if_neg (by omega), if_neg (by omega)]
  refine fin (woS a p) (woS b p) (woS (a + b) p) (woE (a + b) p) ?_ (fun w => by rw [← e1]; exact xworth a p w) (fun w => by rw [← e2]; exact xworth b p w) (fun w => xworth (a + b) p w)
  by_cases h : 1 ≤ p ∧ p ≤ 4294967296
  · left
    have k := more_num (a := a) (b := b) (p := p) (by omega) (by omega) h
    have ka := wo_small (a := a) (p := p) (by omega)
    have kb := wo_small (a := b) (p := p) (by omega)
    exact ⟨(wo_yes ⟨by omega, h⟩).2, k.1, k.2, ka.1, kb.1, ka.2, kb.2⟩
  · right
    exact ⟨(wo_no (by omega)).2, (wo_no (by omega)).1, (wo_no (by omega)).1, (wo_no (by omega)).1⟩
theorem wf_rng {n : Int} (h : (Lit.int .i64 n).wf = true) : Rng n := by
  simpa [Lit.wf, IntKind.min, IntKind.max, IntKind.signed, IntKind.bits, Rng] using h
end Go.Proofs.Ytbgdmpaghkmadaa
