/- Walks of Simple, of the program and of the reference. Conditions: the arguments are ints. -/
import Derived.Test.YtdkhpoepdimniabNb
import Derived.WalkKit
import Derived.ProofKit
import Derived.Handy
import Derived.WalkLawsBesides
import Derived.WalkSpells
import Derived.BigQuiet
import Derived.Deep.QuietTactic
import Derived.Deep.Light
import Derived.Deep.OwnRows
import Derived.Laws.AppendOwnNone
import Derived.Deep.RegionWith
import Derived.Lib.BitFns
import Derived.Lib.Walk
import Derived.Deep.CutBlock
import Derived.Deep.DeepCutAuto
import Derived.Deep.LoopGhost
import Derived.Deep.RegionHeld3
import Derived.Lib.SmallJoins
namespace Go.Proofs.Ytdkhpoepdimniab
open Go.RowKit
set_option linter.unusedVariables false
set_option linter.unusedSimpArgs false

def FloorPost (y : Int) (w : World) (e : Ending) (w' : World) : Prop := e = .returned (.tuple #[.int .i64 y, .int .i64 0]) ∧ Below w.heap.size w w'
theorem MulDivPost.floor {a b c how y : Int} {w w' : World} {e : Ending} (h : MulDivPost a b c how w e w') (h1 : mdS a b c how = y) (h2 : mdE a b c how = 0) : FloorPost y w e w' := by
  unfold MulDivPost at h
  rw [h1, h2] at h
  exact h
theorem xmd (a b c : Int) (hc : c = 360000000) (ha : I64 a) (hb : I64 b) (hf : I64 (a * b / 360000000)) (w : World) : Calls Try.prog 10 #[.int .i64 a, .int .i64 b, .int .i64 c, .int .i64 1] w (FloorPost (a * b / 360000000) w) := by
  have hm := md_here a b hf
  rw [← hc] at hm ⊢
  exact (xmuldiv a b c 1 ha hb (by omega) w (Or.inr xdiv64)).mono (fun e w' h => h.floor hm.1 hm.2)
theorem rmd (a b c : Int) (hc : c = 360000000) (ha : I64 a) (hb : I64 b) (hf : I64 (a * b / 360000000)) (w : World) : Calls Try.prog 6 #[.int .i64 a, .int .i64 b, .int .i64 c, .int .i64 1] w (FloorPost (a * b / 360000000) w) := by
  have hm := md_here a b hf
  rw [← hc] at hm ⊢
  exact (rmuldiv a b c 1 ha hb (by omega) w).mono (fun e w' h => h.floor hm.1 hm.2)
set_option maxHeartbeats 4000000 in
set_option maxRecDepth 100000 in
theorem xsimple (a t n : Int) (ha : I64 a) (ht : I64 t) (hn : I64 n) (w : World) : Calls Try.prog 4 #[.int .i64 a, .int .i64 t, .int .i64 n] w (SimPost a t n w) := by
  have HA : Hid (I64 a) := ha
  go_enter Try.func4, Try.ntmps4
  go_wp2_with fail
  refine (xga a _).mono ?_
  rintro e w1 ⟨rfl, rfl⟩
  cases h1 : amtB a
  · have H : Hid _ := sim_no (a := a) (t := t) (n := n) (fun h => amtB_f h1 h.1)
    clear h1
    go_wp2
    go_ret2
    exact ⟨ret_two H.out.1.symm H.out.2.symm, Below.refl _ _⟩
  have A1 : Hid _ := amtB_t h1
  clear h1
  go_wp2_with fail
  refine (xgr t _).mono ?_
  rintro e w1 ⟨rfl, rfl⟩
  cases h2 : rtdB t
  · have H : Hid _ := sim_no (a := a) (t := t) (n := n) (fun h => rtdB_f h2 h.2.1)
    clear h2
    go_wp2
    go_ret2
    exact ⟨ret_two H.out.1.symm H.out.2.symm, Below.refl _ _⟩
  have A2 : Hid _ := rtdB_t h2
  clear h2
  go_wp2_with fail
  refine (xgs n _).mono ?_
  rintro e w1 ⟨rfl, rfl⟩
  cases h3 : spnB n
  · have H : Hid _ := sim_no (a := a) (t := t) (n := n) (fun h => spnB_f h3 h.2.2)
    clear h3
    go_wp2
    go_ret2
    exact ⟨ret_two H.out.1.symm H.out.2.symm, Below.refl _ _⟩
  have A3 : Hid _ := spnB_t h3
  clear h3
  have hb := tn_bound A2.out A3.out
  have H : Hid _ := sim_yes (a := a) (t := t) (n := n) ⟨A1.out, A2.out, A3.out⟩
  have hw : wrap64 (t * n) = t * n := by unfold wrap64; omega
  have Hw : Hid _ := hw
  have Hb : Hid _ := hb
  clear hw hb
  go_wp2_with fail
  rw [Hw.out]
  refine (xmd a (t * n) _ rfl HA.out (by have := Hb.out; constructor <;> omega) (sim_fits A1.out Hb.out) _).mono ?_
  rintro e w1 ⟨rfl, hb1⟩
  generalize a * (t * n) / 360000000 = y at *
  go_wp2
  go_ret2
  exact ⟨ret_two H.out.1.symm H.out.2.symm, hb1⟩
end Go.Proofs.Ytdkhpoepdimniab
