/- The walks of the program's tests and turns of one sign. Condition: it is a sign's number. -/
import Derived.Test.YtdmlgheajblcdaaGreatFC
import Derived.WalkKit
import Derived.ProofKit
import Derived.Handy
import Derived.WalkLawsBesides
import Derived.WalkSpells
import Derived.BigQuiet
import Derived.BigCall
import Derived.Deep.QuietTactic
import Derived.Deep.Light
import Derived.Deep.OwnRows
import Derived.Laws.AppendOwnNone
import Derived.Laws.Strings3
import Derived.Laws.RangeAny
import Derived.Deep.RegionWith
import Derived.Lib.BitFns
import Derived.Lib.Walk
import Derived.Lib.Strings
import Derived.Lib.OthersKept
import Derived.Deep.CutBlock
import Derived.Deep.DeepCutAuto
import Derived.Deep.LoopGhost
import Derived.Deep.RegionHeld3
import Derived.Lib.SmallJoins
import Derived.Maps.AppendAt
import Derived.Laws.IdiomStrings
import Derived.Lib.AppendZeros
import Derived.Deep.WholeRow
import Derived.Laws.BitsAllLaws
import Derived.Lib.ConvBytes
import Derived.Deep.RegionLaw
namespace Go.Proofs.YtdmlgheajblcdaaGreat.N4
open Go.RowKit
set_option linter.unusedVariables false
set_option linter.unusedSimpArgs false
/-- A call answers a bool, and leaves the world alone. -/
def BP (p : Prop) [Decidable p] (w : World) (e : Ending) (w' : World) : Prop := e = .returned (.bool (decide p)) ∧ w = w'
theorem BP.t {p : Prop} [Decidable p] {w : World} (h : p) : BP p w (.returned (.bool true)) w := ⟨by rw [decide_eq_true h], rfl⟩
theorem BP.f {p : Prop} [Decidable p] {w : World} (h : ¬ p) : BP p w (.returned (.bool false)) w := ⟨by rw [decide_eq_false h], rfl⟩
theorem BP.b {p : Prop} [Decidable p] {w : World} {b : Bool} (h : b = true ↔ p) : BP p w (.returned (.bool b)) w := ⟨by rw [Bool.eq_iff_iff.2 (h.trans decide_eq_true_iff.symm)], rfl⟩
theorem calls_t {p : Prop} [Decidable p] {f : Nat} {args : Array Value} {w : World} (h : Calls Tryz.prog f args w (BP p w)) (hp : p) : Calls Tryz.prog f args w fun e w' => e = .returned (.bool true) ∧ w = w' :=
  h.mono fun e w' ⟨he, hw⟩ => ⟨by rw [he, decide_eq_true hp], hw⟩
theorem calls_f {p : Prop} [Decidable p] {f : Nat} {args : Array Value} {w : World} (h : Calls Tryz.prog f args w (BP p w)) (hp : ¬ p) : Calls Tryz.prog f args w fun e w' => e = .returned (.bool false) ∧ w = w' :=
  h.mono fun e w' ⟨he, hw⟩ => ⟨by rw [he, decide_eq_false hp], hw⟩
/-- A call answers a number, and leaves the world alone. -/
def NP (k : IntKind) (n : Int) (w : World) (e : Ending) (w' : World) : Prop := e = .returned (.int k n) ∧ w = w'
theorem NP.mk {k : IntKind} {n m : Int} {w : World} (h : m = n) : NP k n w (.returned (.int k m)) w := ⟨by rw [h], rfl⟩

set_option maxHeartbeats 4000000 in
theorem xletter (c : Nat) (hc : c < 1114112) (w : World) : Calls Tryz.prog 168 #[.int .i32 c] w (BP (Let c) w) := by
  go_enter Tryz.func168, Tryz.ntmps168
  go_wp2_with go_in
  all_goals go_ret
  all_goals first | exact BP.t (by omega) | exact BP.f (by omega) | (refine BP.b ?_; simp only [Bool.and_eq_true, Bool.or_eq_true, decide_eq_true_eq, bne_iff_ne, ne_eq, beq_iff_eq]; omega)
set_option maxHeartbeats 4000000 in
theorem xdigit (c : Nat) (hc : c < 1114112) (w : World) : Calls Tryz.prog 172 #[.int .i32 c] w (BP (Dig c) w) := by
  go_enter Tryz.func172, Tryz.ntmps172
  go_wp2_with go_in
  all_goals go_ret
  all_goals first | exact BP.t (by omega) | exact BP.f (by omega) | (refine BP.b ?_; simp only [Bool.and_eq_true, Bool.or_eq_true, decide_eq_true_eq, bne_iff_ne, ne_eq, beq_iff_eq]; omega)
set_option maxHeartbeats 4000000 in
theorem xjoint (c : Nat) (hc : c < 1114112) (w : World) : Calls Tryz.prog 171 #[.int .i32 c] w (BP (Jnt c) w) := by
  by_cases h : Jnt c
  · rcases h with rfl | rfl | rfl | rfl | rfl
    all_goals
      go_enter Tryz.func171, Tryz.ntmps171
      go_wp2_with go_in
      go_ret
      exact BP.t (by decide)
  · have h1 : ((c : Int) == 32) = false := beq_eq_false_iff_ne.2 (by omega)
    have h2 : ((c : Int) == 45) = false := beq_eq_false_iff_ne.2 (by omega)
    have h3 : ((c : Int) == 46) = false := beq_eq_false_iff_ne.2 (by omega)
    have h4 : ((c : Int) == 38) = false := beq_eq_false_iff_ne.2 (by omega)
    have h5 : ((c : Int) == 39) = false := beq_eq_false_iff_ne.2 (by omega)
    have H : Hid (¬ Jnt c) := h
    clear h
    go_enter Tryz.func171, Tryz.ntmps171
    go_wp2_with go_in
    go_ret
    exact BP.f H.out
abbrev May (a c : Nat) : Prop := (c = 32 ∧ (a = 46 ∨ a = 38 ∨ ¬ Jnt a)) ∨ (c ≠ 32 ∧ (Let c ∨ Dig c ∨ Jnt c))
set_option maxHeartbeats 4000000 in
theorem xmay (a c : Nat) (ha : a < 1114112) (hc : c < 1114112) (w : World) : Calls Tryz.prog 169 #[.int .i32 a, .int .i32 c] w (BP (May a c) w) := by
  by_cases h : c = 32
  · subst h
    by_cases h1 : a = 46
    · subst h1
      go_enter Tryz.func169, Tryz.ntmps169
      go_wp2_with fail
      go_ret
      exact BP.t (by decide)
    by_cases h2 : a = 38
    · subst h2
      go_enter Tryz.func169, Tryz.ntmps169
      go_wp2_with fail
      go_ret
      exact BP.t (by decide)
    have g1 : ((a : Int) == 46) = false := beq_eq_false_iff_ne.2 (by omega)
    have g2 : ((a : Int) == 38) = false := beq_eq_false_iff_ne.2 (by omega)
    have H1 : Hid (¬ a = 46) := h1
    have H2 : Hid (¬ a = 38) := h2
    clear h1 h2
    by_cases h3 : Jnt a
    · have H3 : Hid (Jnt a) := h3
      clear h3
      go_enter Tryz.func169, Tryz.ntmps169
      go_wp2_with fail
      refine (calls_t (xjoint a ha _) H3.out).mono ?_
      rintro e w1 ⟨rfl, rfl⟩
      go_wp2_with fail
      go_ret
      exact BP.f (by have := H1.out; have := H2.out; have := H3.out; omega)
    · have H3 : Hid (¬ Jnt a) := h3
      clear h3
      go_enter Tryz.func169, Tryz.ntmps169
      go_wp2_with fail
      refine (calls_f (xjoint a ha _) H3.out).mono ?_
      rintro e w1 ⟨rfl, rfl⟩
      go_wp2_with fail
      go_ret
      exact BP.t (Or.inl ⟨rfl, Or.inr (Or.inr H3.out)⟩)
  · have g : ((c : Int) == 32) = false := beq_eq_false_iff_ne.2 (by omega)
    have H : Hid (¬ c = 32) := h
    clear h
    by_cases h1 : Let c
    · have H1 : Hid (Let c) := h1
      clear h1
      go_enter Tryz.func169, Tryz.ntmps169
      go_wp2_with fail
      refine (calls_t (xletter c hc _) H1.out).mono ?_
      rintro e w1 ⟨rfl, rfl⟩
      go_wp2_with fail
      go_ret
      exact BP.t (Or.inr ⟨H.out, Or.inl H1.out⟩)
    by_cases h2 : Dig c
    · have H1 : Hid (¬ Let c) := h1
      have H2 : Hid (Dig c) := h2
      clear h1 h2
      go_enter Tryz.func169, Tryz.ntmps169
      go_wp2_with fail
      refine (calls_f (xletter c hc _) H1.out).mono ?_
      rintro e w1 ⟨rfl, rfl⟩
      go_wp2_with fail
      refine (calls_t (xdigit c hc _) H2.out).mono ?_
      rintro e w1 ⟨rfl, rfl⟩
      go_wp2_with fail
      go_ret
      exact BP.t (Or.inr ⟨H.out, Or.inr (Or.inl H2.out)⟩)
    have H1 : Hid (¬ Let c) := h1
    have H2 : Hid (¬ Dig c) := h2
    clear h1 h2
    by_cases h3 : Jnt c
    · have H3 : Hid (Jnt c) := h3
      clear h3
      go_enter Tryz.func169, Tryz.ntmps169
      go_wp2_with fail
      refine (calls_f (xletter c hc _) H1.out).mono ?_
      rintro e w1 ⟨rfl, rfl⟩
      go_wp2_with fail
      refine (calls_f (xdigit c hc _) H2.out).mono ?_
      rintro e w1 ⟨rfl, rfl⟩
      go_wp2_with fail
      refine (calls_t (xjoint c hc _) H3.out).mono ?_
      rintro e w1 ⟨rfl, rfl⟩
      go_wp2_with fail
      go_ret
      exact BP.t (Or.inr ⟨H.out, Or.inr (Or.inr H3.out)⟩)
    · have H3 : Hid (¬ Jnt c) := h3
      clear h3
      go_enter Tryz.func169, Tryz.ntmps169
      go_wp2_with fail
      refine (calls_f (xletter c hc _) H1.out).mono ?_
      rintro e w1 ⟨rfl, rfl⟩
      go_wp2_with fail
      refine (calls_f (xdigit c hc _) H2.out).mono ?_
      rintro e w1 ⟨rfl, rfl⟩
      go_wp2_with fail
      refine (calls_f (xjoint c hc _) H3.out).mono ?_
      rintro e w1 ⟨rfl, rfl⟩
      go_wp2_with fail
      go_ret
      exact BP.f (by have h1 := H1.out; have h2 := H2.out; have h3 := H3.out; have h := H.out; rintro (⟨k, _⟩ | ⟨_, k | k | k⟩); exact h k; exact h1 k; exact h2 k; exact h3 k)
end Go.Proofs.YtdmlgheajblcdaaGreat.N4
