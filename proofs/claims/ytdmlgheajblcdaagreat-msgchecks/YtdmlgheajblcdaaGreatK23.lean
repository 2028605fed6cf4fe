/- Layer 10: the law Checks, every kind. -/
import Derived.Test.YtdmlgheajblcdaaGreatK21
import Derived.Test.YtdmlgheajblcdaaGreatK22
import Derived.WalkKit
import Derived.ProofKit
import Derived.Handy
import Derived.WalkLawsBesides
import Derived.WalkSpells
import Derived.BigQuiet
import Derived.BigCall
import Derived.Deep.QuietTactic
import Derived.Deep.Light
import Derived.Deep.OwnRows
import Derived.Laws.AppendOwnNone
import Derived.Laws.Strings3
import Derived.Laws.RangeAny
import Derived.Deep.RegionWith
import Derived.Lib.BitFns
import Derived.Lib.Walk
import Derived.Lib.Strings
import Derived.Lib.OthersKept
import Derived.Deep.CutBlock
import Derived.Deep.DeepCutAuto
import Derived.Deep.LoopGhost
import Derived.Deep.RegionHeld3
import Derived.Lib.SmallJoins
import Derived.Maps.AppendAt
import Derived.Laws.IdiomStrings
import Derived.Lib.AppendZeros
import Derived.Deep.WholeRow
import Derived.Laws.BitsAllLaws
import Derived.Lib.ConvBytes
import Derived.Deep.RegionLaw
namespace Go.Proofs.YtdmlgheajblcdaaGreat
open Go.RowKit
set_option linter.unusedVariables false
set_option linter.unusedSimpArgs false
set_option maxRecDepth 20000
set_option maxHeartbeats 4000000 in
theorem lChecksBig (M : Array Value) (hsz : M.size = 36) (w : World) (hsm : ∀ W, Calls Tryz.prog 9 #[.agg M] W (KP (.bool false) W)) : Calls Tryz.prog 3 #[.agg M] w (KP (.bool true) w) := by
  have HSM : Hid (∀ W, Calls Tryz.prog 9 #[.agg M] W (KP (.bool false) W)) := hsm
  have HX0 : Hid (Bx (w.alloc (.cells M 35)) w.heap.size M 35) := Bx.new _ _ _
  have HB0 : Hid (Below w.heap.size w (w.alloc (.cells M 35))) := below_a w _
  have HLD : Hid (∀ W, Bx W w.heap.size M 35 → (Instr.loadAt 35 (.pointer (some ⟨w.heap.size, 0, none⟩))).run Tryz.prog W = .ok (.agg M) W) := fun W h => hloadAt W w.heap.size M hsz h
  clear hsm
  go_enter Tryz.func3, Tryz.ntmps3
  go_upto_region 1 with fail
  generalize hw1 : w.alloc (.cells M 35) = w1 at *
  have HX : Hid (Bx w1 w.heap.size M 35) := HX0.out
  have HB : Hid (Below w.heap.size w w1) := HB0.out
  clear HX0 HB0 hw1
  go_wp2_with (guard_target =~ wpList _ _ _ (⟨_, Op.load 35 _, _, _, _, _⟩ :: _) _ _; refine wl_load _ rfl 35 _ rfl _ rfl _ (HLD.out _ HX.out) ?_; go_simp)
  refine (HSM.out _).mono ?_
  rintro e w2 ⟨rfl, hb2⟩
  have HB2 : Hid (Below w.heap.size w w2) := bt HB.out hb2.out
  clear hb2 HX HB HSM
  go_wp2_with fail
  refine (awake _).mono ?_
  rintro e w3 ⟨rfl, hb3⟩
  have HB3 : Hid (Below w.heap.size w w3) := bt HB2.out hb3.out
  clear hb3 HB2
  go_wp2_with fail
  go_ret
  exact KP.mk rfl HB3.out
theorem lChecks (m : Mg) (pa ia ca ba : Option Addr) (pc ic cc bc : Nat) (w : World) (hH : Hld w.heap.size w m pa ia ca ba) (hW : m.Wf) (hZ : Szd m) : Calls Tryz.prog 3 #[.agg (mcs m pa ia ca ba pc ic cc bc)] w (KP (.bool true) w) := by
  have h1 : m.name.length ≤ 9223372036854775807 := by have := hZ.name; omega
  have h2 : m.t.length ≤ 9223372036854775807 := by have := hZ.t; omega
  by_cases hS : smB m = true
  · have hsm : ∀ W, Calls Tryz.prog 9 #[.agg (mcs m pa ia ca ba pc ic cc bc)] W (KP (.bool true) W) := fun W => by have := rSmall m pa ia ca ba pc ic cc bc W h1 h2; rw [hS] at this; exact this
    by_cases hk : m.k = 1
    · exact lChecks1 (mcs m pa ia ca ba pc ic cc bc) (mcs_size m pa ia ca ba pc ic cc bc) (m.mem) ⟨m.name.toArray⟩ (by rw [← hk]; rfl) w _ 0 hsm (fun W => of1 m pa ia ca ba pc ic cc bc W hk) (fun W hb => xCk1 m pa ia ca ba pc ic cc bc hk W (hH.on hb) hW hZ) (fun W hb => rCk1 m pa ia ca ba pc ic cc bc hk W (hH.on hb) hW hZ) (fun W => send1 (m.mem) ⟨m.name.toArray⟩ W) (fun W => rSend0 m pa ia ca ba pc ic cc bc (by omega) (by omega) (by omega) (by omega) W)
    have q1 := hk
    clear hk
    by_cases hk : m.k = 2
    · exact lChecks2 (mcs m pa ia ca ba pc ic cc bc) (mcs_size m pa ia ca ba pc ic cc bc) ⟨m.a.i.toArray⟩ (m.a.iss) (m.a.rat) (m.a.mat) ⟨m.a.cur.toArray⟩ (by rw [← hk]; rfl) w _ 0 hsm (fun W => of2 m pa ia ca ba pc ic cc bc W hk) (fun W hb => xCk2 m pa ia ca ba pc ic cc bc hk W (hH.on hb) hW hZ) (fun W hb => rCk2 m pa ia ca ba pc ic cc bc hk W (hH.on hb) hW hZ) (fun W => send2 ⟨m.a.i.toArray⟩ (m.a.iss) (m.a.rat) (m.a.mat) ⟨m.a.cur.toArray⟩ W) (fun W => rSend0 m pa ia ca ba pc ic cc bc (by omega) (by omega) (by omega) (by omega) W)
    have q2 := hk
    clear hk
    by_cases hk : m.k = 3
    · exact lChecks3 (mcs m pa ia ca ba pc ic cc bc) (mcs_size m pa ia ca ba pc ic cc bc) (m.b.id) (m.b.ver) ⟨m.b.cur.toArray⟩ (m.b.rat) (m.b.least) (m.b.most) ca (m.b.cuts.length) cc (m.b.iss) (m.b.ass) ba (m.b.bar.length) bc (by rw [← hk]; rfl) w _ 0 hsm (fun W => of3 m pa ia ca ba pc ic cc bc W hk) (fun W hb => xCk3 m pa ia ca ba pc ic cc bc hk W (hH.on hb) hW hZ) (fun W hb => rCk3 m pa ia ca ba pc ic cc bc hk W (hH.on hb) hW hZ) (fun W => send3 (m.b.id) (m.b.ver) ⟨m.b.cur.toArray⟩ (m.b.rat) (m.b.least) (m.b.most) ca (m.b.cuts.length) cc (m.b.iss) (m.b.ass) ba (m.b.bar.length) bc W) (fun W => rSend0 m pa ia ca ba pc ic cc bc (by omega) (by omega) (by omega) (by omega) W)
    have q3 := hk
    clear hk
    by_cases hk : m.k = 4
    · exact lChecks4 (mcs m pa ia ca ba pc ic cc bc) (mcs_size m pa ia ca ba pc ic cc bc) pa (m.ps.length) pc (by rw [← hk]; rfl) w _ 0 hsm (fun W => of4 m pa ia ca ba pc ic cc bc W hk) (fun W hb => xCk4 m pa ia ca ba pc ic cc bc hk W (hH.on hb) hW hZ) (fun W hb => rCk4 m pa ia ca ba pc ic cc bc hk W (hH.on hb) hW hZ) (fun W => send4 pa (m.ps.length) pc W) (fun W => rSend0 m pa ia ca ba pc ic cc bc (by omega) (by omega) (by omega) (by omega) W)
    have q4 := hk
    clear hk
    by_cases hk : m.k = 5
    · exact lChecks5 (mcs m pa ia ca ba pc ic cc bc) (mcs_size m pa ia ca ba pc ic cc bc) (m.day) (by rw [← hk]; rfl) w _ 0 hsm (fun W => of5 m pa ia ca ba pc ic cc bc W hk) (fun W hb => xCk5 m pa ia ca ba pc ic cc bc hk W (hH.on hb) hW hZ) (fun W hb => rCk5 m pa ia ca ba pc ic cc bc hk W (hH.on hb) hW hZ) (fun W => send5 (m.day) W) (fun W => rSend0 m pa ia ca ba pc ic cc bc (by omega) (by omega) (by omega) (by omega) W)
    have q5 := hk
    clear hk
    by_cases hk : m.k = 6
    · exact lChecks6 (mcs m pa ia ca ba pc ic cc bc) (mcs_size m pa ia ca ba pc ic cc bc) (m.mem) ⟨m.t.toArray⟩ (m.n) (by rw [← hk]; rfl) w _ 0 hsm (fun W => of6 m pa ia ca ba pc ic cc bc W hk) (fun W hb => xCk6 m pa ia ca ba pc ic cc bc hk W (hH.on hb) hW hZ) (fun W hb => rCk6 m pa ia ca ba pc ic cc bc hk W (hH.on hb) hW hZ) (fun W => send6 (m.mem) ⟨m.t.toArray⟩ (m.n) W) (fun W => rSend0 m pa ia ca ba pc ic cc bc (by omega) (by omega) (by omega) (by omega) W)
    have q6 := hk
    clear hk
    by_cases hk : m.k = 7
    · exact lChecks7 (mcs m pa ia ca ba pc ic cc bc) (mcs_size m pa ia ca ba pc ic cc bc) (m.mem) ⟨m.t.toArray⟩ (m.n) (by rw [← hk]; rfl) w _ 0 hsm (fun W => of7 m pa ia ca ba pc ic cc bc W hk) (fun W hb => xCk7 m pa ia ca ba pc ic cc bc hk W (hH.on hb) hW hZ) (fun W hb => rCk7 m pa ia ca ba pc ic cc bc hk W (hH.on hb) hW hZ) (fun W => send7 (m.mem) ⟨m.t.toArray⟩ (m.n) W) (fun W => rSend0 m pa ia ca ba pc ic cc bc (by omega) (by omega) (by omega) (by omega) W)
    have q7 := hk
    clear hk
    by_cases hk : m.k = 8
    · exact lChecks8 (mcs m pa ia ca ba pc ic cc bc) (mcs_size m pa ia ca ba pc ic cc bc) (m.q.id) (m.q.mem) (m.q.side) (m.q.bas) (m.q.am) (m.q.rate) (m.q.st) (m.q.en) (by rw [← hk]; rfl) w _ m.q.mem hsm (fun W => of8 m pa ia ca ba pc ic cc bc W hk) (fun W hb => xCk8 m pa ia ca ba pc ic cc bc hk W (hH.on hb) hW hZ) (fun W hb => rCk8 m pa ia ca ba pc ic cc bc hk W (hH.on hb) hW hZ) (fun W => send8 (m.q.id) (m.q.mem) (m.q.side) (m.q.bas) (m.q.am) (m.q.rate) (m.q.st) (m.q.en) W) (fun W => rSend8 m pa ia ca ba pc ic cc bc hk W)
    have q8 := hk
    clear hk
    by_cases hk : m.k = 9
    · exact lChecks9 (mcs m pa ia ca ba pc ic cc bc) (mcs_size m pa ia ca ba pc ic cc bc) (m.mem) (m.n) (by rw [← hk]; rfl) w _ m.mem hsm (fun W => of9 m pa ia ca ba pc ic cc bc W hk) (fun W hb => xCk9 m pa ia ca ba pc ic cc bc hk W (hH.on hb) hW hZ) (fun W hb => rCk9 m pa ia ca ba pc ic cc bc hk W (hH.on hb) hW hZ) (fun W => send9 (m.mem) (m.n) W) (fun W => rSend9 m pa ia ca ba pc ic cc bc hk W)
    have q9 := hk
    clear hk
    by_cases hk : m.k = 10
    · exact lChecks10 (mcs m pa ia ca ba pc ic cc bc) (mcs_size m pa ia ca ba pc ic cc bc) (m.mem) (m.tr) (m.day) (by rw [← hk]; rfl) w _ m.mem hsm (fun W => of10 m pa ia ca ba pc ic cc bc W hk) (fun W hb => xCk10 m pa ia ca ba pc ic cc bc hk W (hH.on hb) hW hZ) (fun W hb => rCk10 m pa ia ca ba pc ic cc bc hk W (hH.on hb) hW hZ) (fun W => send10 (m.mem) (m.tr) (m.day) W) (fun W => rSend10 m pa ia ca ba pc ic cc bc hk W)
    have q10 := hk
    clear hk
    by_cases hk : m.k = 11
    · exact lChecks11 (mcs m pa ia ca ba pc ic cc bc) (mcs_size m pa ia ca ba pc ic cc bc) (m.mem) (m.tr) ⟨m.out.i.toArray⟩ (m.out.q) ia (m.ins.length) ic (by rw [← hk]; rfl) w _ m.mem hsm (fun W => of11 m pa ia ca ba pc ic cc bc W hk) (fun W hb => xCk11 m pa ia ca ba pc ic cc bc hk W (hH.on hb) hW hZ) (fun W hb => rCk11 m pa ia ca ba pc ic cc bc hk W (hH.on hb) hW hZ) (fun W => send11 (m.mem) (m.tr) ⟨m.out.i.toArray⟩ (m.out.q) ia (m.ins.length) ic W) (fun W => rSend11 m pa ia ca ba pc ic cc bc hk W)
    have q11 := hk
    clear hk
    by_cases hk : m.k = 12
    · exact lChecks12 (mcs m pa ia ca ba pc ic cc bc) (mcs_size m pa ia ca ba pc ic cc bc) (m.mem) (m.day) (m.done) (by rw [← hk]; rfl) w _ 0 hsm (fun W => of12 m pa ia ca ba pc ic cc bc W hk) (fun W hb => xCk12 m pa ia ca ba pc ic cc bc hk W (hH.on hb) hW hZ) (fun W hb => rCk12 m pa ia ca ba pc ic cc bc hk W (hH.on hb) hW hZ) (fun W => send12 (m.mem) (m.day) (m.done) W) (fun W => rSend0 m pa ia ca ba pc ic cc bc (by omega) (by omega) (by omega) (by omega) W)
    have q12 := hk
    clear hk
    by_cases hk : m.k = 13
    · exact lChecks13 (mcs m pa ia ca ba pc ic cc bc) (mcs_size m pa ia ca ba pc ic cc bc) (m.mem) (by rw [← hk]; rfl) w _ 0 hsm (fun W => of13 m pa ia ca ba pc ic cc bc W hk) (fun W hb => xCk13 m pa ia ca ba pc ic cc bc hk W (hH.on hb) hW hZ) (fun W hb => rCk13 m pa ia ca ba pc ic cc bc hk W (hH.on hb) hW hZ) (fun W => send13 (m.mem) W) (fun W => rSend0 m pa ia ca ba pc ic cc bc (by omega) (by omega) (by omega) (by omega) W)
    have q13 := hk
    clear hk
    by_cases hk : m.k = 14
    · exact lChecks14 (mcs m pa ia ca ba pc ic cc bc) (mcs_size m pa ia ca ba pc ic cc bc) (m.mem) (m.n) (by rw [← hk]; rfl) w _ 0 hsm (fun W => of14 m pa ia ca ba pc ic cc bc W hk) (fun W hb => xCk14 m pa ia ca ba pc ic cc bc hk W (hH.on hb) hW hZ) (fun W hb => rCk14 m pa ia ca ba pc ic cc bc hk W (hH.on hb) hW hZ) (fun W => send14 (m.mem) (m.n) W) (fun W => rSend0 m pa ia ca ba pc ic cc bc (by omega) (by omega) (by omega) (by omega) W)
    have q14 := hk
    clear hk
    by_cases hk : m.k = 15
    · exact lChecks15 (mcs m pa ia ca ba pc ic cc bc) (mcs_size m pa ia ca ba pc ic cc bc) (m.tr) (m.day) (m.rate) (by rw [← hk]; rfl) w _ 0 hsm (fun W => of15 m pa ia ca ba pc ic cc bc W hk) (fun W hb => xCk15 m pa ia ca ba pc ic cc bc hk W (hH.on hb) hW hZ) (fun W hb => rCk15 m pa ia ca ba pc ic cc bc hk W (hH.on hb) hW hZ) (fun W => send15 (m.tr) (m.day) (m.rate) W) (fun W => rSend0 m pa ia ca ba pc ic cc bc (by omega) (by omega) (by omega) (by omega) W)
    have q15 := hk
    clear hk
    have h0 : inn m.k 1 15 = false := by unfold inn; rw [Bool.and_eq_false_iff, decide_eq_false_iff_not, decide_eq_false_iff_not]; omega
    exact lChecks0 (mcs m pa ia ca ba pc ic cc bc) (mcs_size m pa ia ca ba pc ic cc bc) m.k (by omega) rfl w 17 0 hsm (fun W => of0 m pa ia ca ba pc ic cc bc W h0) (fun W hb => checkV0 W) (fun W hb => rCheck0 m pa ia ca ba pc ic cc bc W h0) (fun W => send0 W) (fun W => rSend0 m pa ia ca ba pc ic cc bc (by omega) (by omega) (by omega) (by omega) W)
  · have hS : smB m = false := by simpa using hS
    exact lChecksBig (mcs m pa ia ca ba pc ic cc bc) (mcs_size m pa ia ca ba pc ic cc bc) w (fun W => by have := rSmall m pa ia ca ba pc ic cc bc W h1 h2; rw [hS] at this; exact this)
end Go.Proofs.YtdmlgheajblcdaaGreat
