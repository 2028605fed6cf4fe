/- The program's tests and turns of one sign: letter, digit, value, weigh. Condition: it is a byte. -/
import Derived.Test.YtbgdmpaghkmadaaVB
import Derived.WalkKit
import Derived.ProofKit
import Derived.Handy
import Derived.WalkLawsBesides
import Derived.WalkSpells
import Derived.BigQuiet
import Derived.BigCall
import Derived.Deep.QuietTactic
import Derived.Deep.Light
import Derived.Deep.OwnRows
import Derived.Laws.AppendOwnNone
import Derived.Laws.Strings3
import Derived.Laws.RangeAny
import Derived.Deep.RegionWith
import Derived.Lib.BitFns
import Derived.Lib.Walk
import Derived.Lib.Strings
import Derived.Lib.OthersKept
import Derived.Deep.CutBlock
import Derived.Deep.DeepCutAuto
import Derived.Deep.LoopGhost
import Derived.Deep.RegionHeld3
import Derived.Lib.SmallJoins
import Derived.Maps.AppendAt
import Derived.Laws.IdiomStrings
import Derived.Lib.AppendZeros
import Derived.Deep.WholeRow
import Derived.Laws.BitsAllLaws
import Derived.Lib.ConvBytes
import Derived.Deep.RegionLaw
namespace Go.Proofs.Ytbgdmpaghkmadaa.N5
open Go.RowKit
set_option linter.unusedVariables false
set_option linter.unusedSimpArgs false
/-- A call answers a bool, and leaves the world alone. -/
def BP (p : Prop) [Decidable p] (w : World) (e : Ending) (w' : World) : Prop := e = .returned (.bool (decide p)) ∧ w = w'
theorem BP.t {p : Prop} [Decidable p] {w : World} (h : p) : BP p w (.returned (.bool true)) w := ⟨by rw [decide_eq_true h], rfl⟩
theorem BP.f {p : Prop} [Decidable p] {w : World} (h : ¬ p) : BP p w (.returned (.bool false)) w := ⟨by rw [decide_eq_false h], rfl⟩
theorem BP.b {p : Prop} [Decidable p] {w : World} {b : Bool} (h : b = true ↔ p) : BP p w (.returned (.bool b)) w := ⟨by rw [Bool.eq_iff_iff.2 (h.trans decide_eq_true_iff.symm)], rfl⟩
theorem calls_t {p : Prop} [Decidable p] {f : Nat} {args : Array Value} {w : World} (h : Calls Try.prog f args w (BP p w)) (hp : p) : Calls Try.prog f args w fun e w' => e = .returned (.bool true) ∧ w = w' :=
  h.mono fun e w' ⟨he, hw⟩ => ⟨by rw [he, decide_eq_true hp], hw⟩
theorem calls_f {p : Prop} [Decidable p] {f : Nat} {args : Array Value} {w : World} (h : Calls Try.prog f args w (BP p w)) (hp : ¬ p) : Calls Try.prog f args w fun e w' => e = .returned (.bool false) ∧ w = w' :=
  h.mono fun e w' ⟨he, hw⟩ => ⟨by rw [he, decide_eq_false hp], hw⟩
/-- A call answers a number, and leaves the world alone. -/
def NP (k : IntKind) (n : Int) (w : World) (e : Ending) (w' : World) : Prop := e = .returned (.int k n) ∧ w = w'
theorem NP.mk {k : IntKind} {n m : Int} {w : World} (h : m = n) : NP k n w (.returned (.int k m)) w := ⟨by rw [h], rfl⟩

set_option maxHeartbeats 4000000 in
theorem xletter (c : Nat) (hc : c < 256) (w : World) : Calls Try.prog 90 #[.int .u8 c] w (BP (Up c) w) := by
  go_enter Try.func90, Try.ntmps90
  go_wp2_with go_in
  all_goals go_ret
  all_goals first | exact BP.t (by omega) | exact BP.f (by omega) | (refine BP.b ?_; simp only [Bool.and_eq_true, Bool.or_eq_true, decide_eq_true_eq, bne_iff_ne, ne_eq, beq_iff_eq]; omega)
set_option maxHeartbeats 4000000 in
theorem xdigit (c : Nat) (hc : c < 256) (w : World) : Calls Try.prog 77 #[.int .u8 c] w (BP (Dg c) w) := by
  go_enter Try.func77, Try.ntmps77
  go_wp2_with go_in
  all_goals go_ret
  all_goals first | exact BP.t (by omega) | exact BP.f (by omega) | (refine BP.b ?_; simp only [Bool.and_eq_true, Bool.or_eq_true, decide_eq_true_eq, bne_iff_ne, ne_eq, beq_iff_eq]; omega)
/-- the number that a sign stands for -/
def vl (c : Nat) : Nat := if 65 ≤ c ∧ c ≤ 90 then c - 55 else c - 48
theorem vl_up {c : Nat} (h : Up c) : vl c = c - 55 := if_pos h
theorem vl_dg {c : Nat} (h : Dg c) : vl c = c - 48 := if_neg (by omega)
set_option maxHeartbeats 4000000 in
theorem xvalue (c : Nat) (hc : c < 256) (h : Up c ∨ Dg c) (w : World) : Calls Try.prog 91 #[.int .u8 c] w (NP .i64 (vl c) w) := by
  by_cases h1 : Up c
  · have H : Hid (vl c = c - 55) := vl_up h1
    have H1 : Hid (Up c) := h1
    have h65 : 65 ≤ c := h1.1
    clear h h1
    go_enter Try.func91, Try.ntmps91
    go_wp2_with fail
    refine (calls_t (xletter c hc _) H1.out).mono ?_
    rintro e w1 ⟨rfl, rfl⟩
    go_wp2_with fail
    go_ret
    exact NP.mk (by rw [H.out]; omega)
  · have h2 : Dg c := h.resolve_left h1
    have H : Hid (vl c = c - 48) := vl_dg h2
    have H1 : Hid (¬ Up c) := h1
    have h48 : 48 ≤ c := h2.1
    clear h h1 h2
    go_enter Try.func91, Try.ntmps91
    go_wp2_with fail
    refine (calls_f (xletter c hc _) H1.out).mono ?_
    rintro e w1 ⟨rfl, rfl⟩
    go_wp2_with fail
    go_ret
    exact NP.mk (by rw [H.out]; omega)
set_option maxHeartbeats 4000000 in
theorem xweigh (d : Nat) (hd : d ≤ 9) (b : Bool) (w : World) : Calls Try.prog 92 #[.int .i64 d, .bool b] w (NP .i64 (wgt b d) w) := by
  cases b
  · go_enter Try.func92, Try.ntmps92
    go_wp2_with fail
    go_ret
    exact NP.mk (by simp [wgt])
  · go_enter Try.func92, Try.ntmps92
    go_wp2_with fail
    go_ret
    exact NP.mk (by simp only [wgt, if_true]; omega)
end Go.Proofs.Ytbgdmpaghkmadaa.N5
