/- Layer 10: messages without what their kind has not, by the reference. -/
import Derived.Test.YtdmlgheajblcdaaGreatN29
import Derived.WalkKit
import Derived.ProofKit
import Derived.Handy
import Derived.WalkLawsBesides
import Derived.WalkSpells
import Derived.BigQuiet
import Derived.BigCall
import Derived.Deep.QuietTactic
import Derived.Deep.Light
import Derived.Deep.OwnRows
import Derived.Laws.AppendOwnNone
import Derived.Laws.Strings3
import Derived.Laws.RangeAny
import Derived.Deep.RegionWith
import Derived.Lib.BitFns
import Derived.Lib.Walk
import Derived.Lib.Strings
import Derived.Lib.OthersKept
import Derived.Deep.CutBlock
import Derived.Deep.DeepCutAuto
import Derived.Deep.LoopGhost
import Derived.Deep.RegionHeld3
import Derived.Lib.SmallJoins
import Derived.Maps.AppendAt
import Derived.Laws.IdiomStrings
import Derived.Lib.AppendZeros
import Derived.Deep.WholeRow
import Derived.Laws.BitsAllLaws
import Derived.Lib.ConvBytes
import Derived.Deep.RegionLaw
import Derived.Deep.MidRow
namespace Go.Proofs.YtdmlgheajblcdaaGreat
open Go.RowKit
set_option linter.unusedVariables false
set_option linter.unusedSimpArgs false
set_option maxRecDepth 100000
theorem wl_build1 {P : Program} {ops : Array Oper} {rest : List Oper} {o : Oper} {a : Act} {Q : Exit → Act → World → Prop} (w : World) (hgd : o.guard = none) (t : TypeId) (n0 : Nat) (x0 : Operand) (ho : o.op = .build t #[(n0, x0)]) (v0 : Value) (h0 : a.eval x0 = v0) (v' : Value) (hr : (Instr.build t #[(n0, v0)]).run P w = .ok v' w) (h : wpList P ops Q rest (a.put o.dst v') w) : wpList P ops Q (o :: rest) a w :=
  wpList_plain hgd fun K hK => by
    unfold Oper.wp execOp
    simp only [ho, List.map_toArray, List.map_cons, List.map_nil, h0, Sem.run_bind, Sem.run_pure, Result.andThen_ok, hr]
    exact hK _ _ h
def setL : Array Value → Nat → List Value → Array Value
  | C, _, [] => C
  | C, o, v :: vs => setL (C.setIfInBounds o v) (o + 1) vs
theorem Bx.cellsSet {b T : Nat} : ∀ (vs : List Value) (o : Nat) (w : World) (C : Array Value), Bx w b C T → Bx (w.setCells b o vs) b (setL C o vs) T
  | [], _, _, _, h => h
  | v :: vs, o, w, C, h => Bx.cellsSet vs (o + 1) _ _ (h.cellSet (k := o) v)
theorem Bx.cellsOther {b p T : Nat} {C : Array Value} (hn : b ≠ p) : ∀ (vs : List Value) (o : Nat) (w : World), Bx w b C T → Bx (w.setCells p o vs) b C T
  | [], _, _, h => h
  | v :: vs, o, w, h => Bx.cellsOther hn vs (o + 1) _ (h.cellOther (k := o) hn v)
theorem Bt.cells {p : Nat} : ∀ (vs : List Value) (o : Nat) (w : World), Bt p w (w.setCells p o vs)
  | [], _, w => Bt.refl p w
  | v :: vs, o, w => (Bt.set p w o v).trans (Bt.cells vs (o + 1) _)
theorem Bx.there {w : World} {b T n o : Nat} {C : Array Value} (h : Bx w b C T) (hn : o + n ≤ C.size) : w.there b o n := fun j hj => ⟨by rw [h.cell (o + j), Array.getElem?_eq_getElem (by omega)]; rfl, h.froz _⟩
theorem load32m (W : World) (b : Nat) (v30 v31 : Value) (c30 : W.cell? ⟨b, 30, none⟩ = some v30) (c31 : W.cell? ⟨b, 31, none⟩ = some v31) : (Instr.loadAt 32 (.pointer (some ⟨b, 30, none⟩))).run Tryz.prog W = .ok (.agg #[v30, v31]) W := by
  go_simp
theorem build1 (k : Int) (w : World) : (Instr.build 35 #[(0, .int .i64 k)]).run Tryz.prog w = .ok (.agg (mcs { Mg.z with k := k } none none none none 0 0 0 0)) w := by kernel_rfl
end Go.Proofs.YtdmlgheajblcdaaGreat

/- Layer 10: messages without what their kind has not, by the reference. -/
namespace Go.Proofs.YtdmlgheajblcdaaGreat
open Go.RowKit
set_option linter.unusedVariables false
set_option linter.unusedSimpArgs false
set_option maxRecDepth 100000
set_option maxHeartbeats 8000000 in
theorem plain1 (m : Mg) (pa ia ca ba : Option Addr) (pc ic cc bc : Nat) (hk : m.k = 1) (w : World) : Calls Tryz.prog 24 #[.agg (mcs m pa ia ca ba pc ic cc bc)] w (KP (.agg (mcs { Mg.z with k := 1, mem := m.mem, name := m.name } none none none none 0 0 0 0)) w) := by
  have HX0 : Hid (Bx ((w.alloc (.cells (mcs m pa ia ca ba pc ic cc bc) 35)).alloc (.cells (mcs Mg.z none none none none 0 0 0 0) 35)) w.heap.size (mcs m pa ia ca ba pc ic cc bc) 35) := (Bx.new w _ _).keep (below_a _ _)
  have HY0 : Hid (Bx ((w.alloc (.cells (mcs m pa ia ca ba pc ic cc bc) 35)).alloc (.cells (mcs Mg.z none none none none 0 0 0 0) 35)) (w.heap.size + 1) (mcs Mg.z none none none none 0 0 0 0) 35) := by have := Bx.new (w.alloc (.cells (mcs m pa ia ca ba pc ic cc bc) 35)) (mcs Mg.z none none none none 0 0 0 0) 35; rwa [size_a] at this
  have HB0 : Hid (Below w.heap.size w ((w.alloc (.cells (mcs m pa ia ca ba pc ic cc bc) 35)).alloc (.cells (mcs Mg.z none none none none 0 0 0 0) 35))) := bt (below_a w _) (below_a _ _)
  have hsz0 : w.heap.size + 2 ≤ ((w.alloc (.cells (mcs m pa ia ca ba pc ic cc bc) 35)).alloc (.cells (mcs Mg.z none none none none 0 0 0 0) 35)).heap.size := by rw [size_a, size_a]; omega
  have HBu : Hid (∀ W, (Instr.build 35 #[(0, .int .i64 1)]).run Tryz.prog W = .ok (.agg (mcs { Mg.z with k := 1 } none none none none 0 0 0 0)) W) := fun W => build1 _ W
  go_enter Tryz.func24, Tryz.ntmps24
  go_upto_region 1 with fail
  show Code.wp _ _ _ _ ((w.alloc (.cells (mcs m pa ia ca ba pc ic cc bc) 35)).alloc (.cells (mcs Mg.z none none none none 0 0 0 0) 35))
  generalize ((w.alloc (.cells (mcs m pa ia ca ba pc ic cc bc) 35)).alloc (.cells (mcs Mg.z none none none none 0 0 0 0) 35)) = w1 at *
  have hlt : w.heap.size < w1.heap.size := by omega
  have c0 : w1.cell? ⟨w.heap.size, 0, none⟩ = some (.int .i64 1) := by have := HX0.out.cell 0; rw [show (mcs m pa ia ca ba pc ic cc bc)[0]? = some (.int .i64 m.k) from rfl, hk] at this; exact this
  have hne : w.heap.size ≠ w1.heap.size := by omega
  have hne1 : w.heap.size + 1 ≠ w1.heap.size := by omega
  have HX2 : Hid (Bx ((w1.alloc (.cells (mcs Mg.z none none none none 0 0 0 0) 35)).setRow w1.heap.size (mcs { Mg.z with k := 1 } none none none none 0 0 0 0)) w.heap.size (mcs m pa ia ca ba pc ic cc bc) 35) := (HX0.out.keep (below_a _ _)).other hne
  have HY2 : Hid (Bx ((w1.alloc (.cells (mcs Mg.z none none none none 0 0 0 0) 35)).setRow w1.heap.size (mcs { Mg.z with k := 1 } none none none none 0 0 0 0)) (w.heap.size + 1) (mcs Mg.z none none none none 0 0 0 0) 35) := (HY0.out.keep (below_a _ _)).other hne1
  have HP2 : Hid (Bx ((w1.alloc (.cells (mcs Mg.z none none none none 0 0 0 0) 35)).setRow w1.heap.size (mcs { Mg.z with k := 1 } none none none none 0 0 0 0)) w1.heap.size (mcs { Mg.z with k := 1 } none none none none 0 0 0 0) 35) := Bx.set (Bx.new _ _ _)
  have HB2 : Hid (Below w.heap.size w ((w1.alloc (.cells (mcs Mg.z none none none none 0 0 0 0) 35)).setRow w1.heap.size (mcs { Mg.z with k := 1 } none none none none 0 0 0 0))) := below_setRow' (bt HB0.out (below_a _ _)) (by omega)
  have HST1 : Hid ((Instr.storeAt 35 (.pointer (some ⟨w1.heap.size, 0, none⟩)) (.agg (mcs { Mg.z with k := 1 } none none none none 0 0 0 0))).run Tryz.prog (w1.alloc (.cells (mcs Mg.z none none none none 0 0 0 0) 35)) = .ok () ((w1.alloc (.cells (mcs Mg.z none none none none 0 0 0 0) 35)).setRow w1.heap.size (mcs { Mg.z with k := 1 } none none none none 0 0 0 0))) := storeT (T := 35) (n := 36) (w1.alloc (.cells (mcs Mg.z none none none none 0 0 0 0) 35)) w1.heap.size (mcs Mg.z none none none none 0 0 0 0) (mcs { Mg.z with k := 1 } none none none none 0 0 0 0) info35 (Bx.new _ _ _) rfl rfl (mcs_one _ _ _ _ _ _ _ _ _)
  have HLE : Hid (w.heap.size ≤ w1.heap.size) := by unfold Hid; omega
  generalize ((w1.alloc (.cells (mcs Mg.z none none none none 0 0 0 0) 35)).setRow w1.heap.size (mcs { Mg.z with k := 1 } none none none none 0 0 0 0)) = w2 at *
  clear HX0 HY0 HB0 hsz0
  go_upto_region 2 with (first | (guard_target =~ wpList _ _ _ (⟨_, Op.build 35 _, _, _, _, _⟩ :: _) _ _; refine wl_build1 _ rfl 35 _ _ rfl _ rfl _ (HBu.out _) ?_; go_simp) | (guard_target =~ wpList _ _ _ (⟨_, Op.store 35 _ _, _, _, _, _⟩ :: _) _ _; refine wl_store _ _ rfl 35 _ _ rfl _ _ rfl rfl HST1.out ?_; go_simp))
  clear HST1 HBu c0 hlt
  generalize w1.heap.size = pp at *
  have c0 : w2.cell? ⟨w.heap.size, 0, none⟩ = some (.int .i64 1) := by have := HX2.out.cell 0; rw [show (mcs m pa ia ca ba pc ic cc bc)[0]? = some (.int .i64 m.k) from rfl, hk] at this; exact this
  have c1 : w2.cell? ⟨w.heap.size, 1, none⟩ = some (.int .i64 m.mem) := HX2.out.cell 1
  have d1 : w2.cell? ⟨pp, 1, none⟩ = some (.int .i64 0) := HP2.out.cell 1
  have f1 : w2.frozen? ⟨pp, 1, none⟩ = false := HP2.out.froz 1
  obtain ⟨w3, hw⟩ : ∃ v, v = (w2.setCell ⟨pp, 1, none⟩ (.int .i64 m.mem)) := ⟨_, rfl⟩
  have HX3 : Hid (Bx w3 w.heap.size (mcs m pa ia ca ba pc ic cc bc) 35) := by unfold Hid; rw [hw]; exact (HX2.out.cellOther (k := 1) hne _)
  have HY3 : Hid (Bx w3 (w.heap.size + 1) (mcs Mg.z none none none none 0 0 0 0) 35) := by unfold Hid; rw [hw]; exact (HY2.out.cellOther (k := 1) hne1 _)
  have HP3 : Hid (Bx w3 pp (mcs { Mg.z with k := 1, mem := m.mem } none none none none 0 0 0 0) 35) := by
    unfold Hid
    rw [hw]
    have h := HP2.out.cellSet (k := 1) (.int .i64 m.mem)
    have e : (mcs { Mg.z with k := 1 } none none none none 0 0 0 0).setIfInBounds 1 (.int .i64 m.mem) = (mcs { Mg.z with k := 1, mem := m.mem } none none none none 0 0 0 0) := by kernel_rfl
    rw [e] at h
    exact h
  have HB3 : Hid (Below w.heap.size w w3) := by unfold Hid; rw [hw]; exact HB2.out.trans (((Bt.refl pp _).trans (Bt.set pp _ 1 (.int .i64 m.mem))).below HLE.out HB2.out.size)
  clear HX2 HY2 HP2 HB2
  go_upto_region 4 with fail
  rw [← hw]
  clear hw c0 c1 d1 f1
  have c0 : w3.cell? ⟨w.heap.size, 0, none⟩ = some (.int .i64 1) := by have := HX3.out.cell 0; rw [show (mcs m pa ia ca ba pc ic cc bc)[0]? = some (.int .i64 m.k) from rfl, hk] at this; exact this
  have c2 : w3.cell? ⟨w.heap.size, 2, none⟩ = some (.string ⟨m.name.toArray⟩) := HX3.out.cell 2
  have d2 : w3.cell? ⟨pp, 2, none⟩ = some (.string ⟨#[]⟩) := HP3.out.cell 2
  have f2 : w3.frozen? ⟨pp, 2, none⟩ = false := HP3.out.froz 2
  obtain ⟨w4, hw⟩ : ∃ v, v = (w3.setCell ⟨pp, 2, none⟩ (.string ⟨m.name.toArray⟩)) := ⟨_, rfl⟩
  have HX4 : Hid (Bx w4 w.heap.size (mcs m pa ia ca ba pc ic cc bc) 35) := by unfold Hid; rw [hw]; exact (HX3.out.cellOther (k := 2) hne _)
  have HY4 : Hid (Bx w4 (w.heap.size + 1) (mcs Mg.z none none none none 0 0 0 0) 35) := by unfold Hid; rw [hw]; exact (HY3.out.cellOther (k := 2) hne1 _)
  have HP4 : Hid (Bx w4 pp (mcs { Mg.z with k := 1, mem := m.mem, name := m.name } none none none none 0 0 0 0) 35) := by
    unfold Hid
    rw [hw]
    have h := HP3.out.cellSet (k := 2) (.string ⟨m.name.toArray⟩)
    have e : (mcs { Mg.z with k := 1, mem := m.mem } none none none none 0 0 0 0).setIfInBounds 2 (.string ⟨m.name.toArray⟩) = (mcs { Mg.z with k := 1, mem := m.mem, name := m.name } none none none none 0 0 0 0) := by kernel_rfl
    rw [e] at h
    exact h
  have HB4 : Hid (Below w.heap.size w w4) := by unfold Hid; rw [hw]; exact HB3.out.trans (((Bt.refl pp _).trans (Bt.set pp _ 2 (.string ⟨m.name.toArray⟩))).below HLE.out HB3.out.size)
  clear HX3 HY3 HP3 HB3
  go_upto_region 6 with fail
  rw [← hw]
  clear hw c0 c2 d2 f2
  have c0 : w4.cell? ⟨w.heap.size, 0, none⟩ = some (.int .i64 1) := by have := HX4.out.cell 0; rw [show (mcs m pa ia ca ba pc ic cc bc)[0]? = some (.int .i64 m.k) from rfl, hk] at this; exact this
  have HLD : Hid ((Instr.loadAt 35 (.pointer (some ⟨pp, 0, none⟩))).run Tryz.prog w4 = .ok (.agg (mcs { Mg.z with k := 1, mem := m.mem, name := m.name } none none none none 0 0 0 0)) w4) := hloadAt w4 pp _ rfl HP4.out
  have HST : Hid ((Instr.storeAt 35 (.pointer (some ⟨w.heap.size + 1, 0, none⟩)) (.agg (mcs { Mg.z with k := 1, mem := m.mem, name := m.name } none none none none 0 0 0 0))).run Tryz.prog w4 = .ok () (w4.setRow (w.heap.size + 1) (mcs { Mg.z with k := 1, mem := m.mem, name := m.name } none none none none 0 0 0 0))) := hstore w4 (w.heap.size + 1) _ _ HY4.out rfl rfl (mcs_one _ _ _ _ _ _ _ _ _)
  have hld := hload (w4.setRow (w.heap.size + 1) (mcs { Mg.z with k := 1, mem := m.mem, name := m.name } none none none none 0 0 0 0)) (w.heap.size + 1) (mcs { Mg.z with k := 1, mem := m.mem, name := m.name } none none none none 0 0 0 0) rfl HY4.out.set
  have HBz : Hid (Below w.heap.size w (w4.setRow (w.heap.size + 1) (mcs { Mg.z with k := 1, mem := m.mem, name := m.name } none none none none 0 0 0 0))) := below_setRow' HB4.out (by omega)
  clear HX4 HY4 HP4 HB4
  generalize (mcs { Mg.z with k := 1, mem := m.mem, name := m.name } none none none none 0 0 0 0) = PP at *
  go_wp2_with (first | (guard_target =~ wpList _ _ _ (⟨_, Op.load 35 _, _, _, _, _⟩ :: _) _ _; refine wl_load _ rfl 35 _ rfl _ rfl _ HLD.out ?_; go_simp) | (guard_target =~ wpList _ _ _ (⟨_, Op.store 35 _ _, _, _, _, _⟩ :: _) _ _; refine wl_store _ _ rfl 35 _ _ rfl _ _ rfl rfl HST.out ?_; go_simp))
  refine bodyPost_ret (res_cell _ _ 2 35 _ _ _ rfl rfl hld) rfl ?_
  exact ⟨rfl, HBz⟩
set_option maxHeartbeats 8000000 in
theorem plain2 (m : Mg) (pa ia ca ba : Option Addr) (pc ic cc bc : Nat) (hk : m.k = 2) (w : World) : Calls Tryz.prog 24 #[.agg (mcs m pa ia ca ba pc ic cc bc)] w (KP (.agg (mcs { Mg.z with k := 2, a := m.a } none none none none 0 0 0 0)) w) := by
  have HX0 : Hid (Bx ((w.alloc (.cells (mcs m pa ia ca ba pc ic cc bc) 35)).alloc (.cells (mcs Mg.z none none none none 0 0 0 0) 35)) w.heap.size (mcs m pa ia ca ba pc ic cc bc) 35) := (Bx.new w _ _).keep (below_a _ _)
  have HY0 : Hid (Bx ((w.alloc (.cells (mcs m pa ia ca ba pc ic cc bc) 35)).alloc (.cells (mcs Mg.z none none none none 0 0 0 0) 35)) (w.heap.size + 1) (mcs Mg.z none none none none 0 0 0 0) 35) := by have := Bx.new (w.alloc (.cells (mcs m pa ia ca ba pc ic cc bc) 35)) (mcs Mg.z none none none none 0 0 0 0) 35; rwa [size_a] at this
  have HB0 : Hid (Below w.heap.size w ((w.alloc (.cells (mcs m pa ia ca ba pc ic cc bc) 35)).alloc (.cells (mcs Mg.z none none none none 0 0 0 0) 35))) := bt (below_a w _) (below_a _ _)
  have hsz0 : w.heap.size + 2 ≤ ((w.alloc (.cells (mcs m pa ia ca ba pc ic cc bc) 35)).alloc (.cells (mcs Mg.z none none none none 0 0 0 0) 35)).heap.size := by rw [size_a, size_a]; omega
  have HBu : Hid (∀ W, (Instr.build 35 #[(0, .int .i64 2)]).run Tryz.prog W = .ok (.agg (mcs { Mg.z with k := 2 } none none none none 0 0 0 0)) W) := fun W => build1 _ W
  go_enter Tryz.func24, Tryz.ntmps24
  go_upto_region 1 with fail
  show Code.wp _ _ _ _ ((w.alloc (.cells (mcs m pa ia ca ba pc ic cc bc) 35)).alloc (.cells (mcs Mg.z none none none none 0 0 0 0) 35))
  generalize ((w.alloc (.cells (mcs m pa ia ca ba pc ic cc bc) 35)).alloc (.cells (mcs Mg.z none none none none 0 0 0 0) 35)) = w1 at *
  have hlt : w.heap.size < w1.heap.size := by omega
  have c0 : w1.cell? ⟨w.heap.size, 0, none⟩ = some (.int .i64 2) := by have := HX0.out.cell 0; rw [show (mcs m pa ia ca ba pc ic cc bc)[0]? = some (.int .i64 m.k) from rfl, hk] at this; exact this
  have hne : w.heap.size ≠ w1.heap.size := by omega
  have hne1 : w.heap.size + 1 ≠ w1.heap.size := by omega
  have HX2 : Hid (Bx ((w1.alloc (.cells (mcs Mg.z none none none none 0 0 0 0) 35)).setRow w1.heap.size (mcs { Mg.z with k := 2 } none none none none 0 0 0 0)) w.heap.size (mcs m pa ia ca ba pc ic cc bc) 35) := (HX0.out.keep (below_a _ _)).other hne
  have HY2 : Hid (Bx ((w1.alloc (.cells (mcs Mg.z none none none none 0 0 0 0) 35)).setRow w1.heap.size (mcs { Mg.z with k := 2 } none none none none 0 0 0 0)) (w.heap.size + 1) (mcs Mg.z none none none none 0 0 0 0) 35) := (HY0.out.keep (below_a _ _)).other hne1
  have HP2 : Hid (Bx ((w1.alloc (.cells (mcs Mg.z none none none none 0 0 0 0) 35)).setRow w1.heap.size (mcs { Mg.z with k := 2 } none none none none 0 0 0 0)) w1.heap.size (mcs { Mg.z with k := 2 } none none none none 0 0 0 0) 35) := Bx.set (Bx.new _ _ _)
  have HB2 : Hid (Below w.heap.size w ((w1.alloc (.cells (mcs Mg.z none none none none 0 0 0 0) 35)).setRow w1.heap.size (mcs { Mg.z with k := 2 } none none none none 0 0 0 0))) := below_setRow' (bt HB0.out (below_a _ _)) (by omega)
  have HST1 : Hid ((Instr.storeAt 35 (.pointer (some ⟨w1.heap.size, 0, none⟩)) (.agg (mcs { Mg.z with k := 2 } none none none none 0 0 0 0))).run Tryz.prog (w1.alloc (.cells (mcs Mg.z none none none none 0 0 0 0) 35)) = .ok () ((w1.alloc (.cells (mcs Mg.z none none none none 0 0 0 0) 35)).setRow w1.heap.size (mcs { Mg.z with k := 2 } none none none none 0 0 0 0))) := storeT (T := 35) (n := 36) (w1.alloc (.cells (mcs Mg.z none none none none 0 0 0 0) 35)) w1.heap.size (mcs Mg.z none none none none 0 0 0 0) (mcs { Mg.z with k := 2 } none none none none 0 0 0 0) info35 (Bx.new _ _ _) rfl rfl (mcs_one _ _ _ _ _ _ _ _ _)
  have HLE : Hid (w.heap.size ≤ w1.heap.size) := by unfold Hid; omega
  generalize ((w1.alloc (.cells (mcs Mg.z none none none none 0 0 0 0) 35)).setRow w1.heap.size (mcs { Mg.z with k := 2 } none none none none 0 0 0 0)) = w2 at *
  clear HX0 HY0 HB0 hsz0
  go_upto_region 2 with (first | (guard_target =~ wpList _ _ _ (⟨_, Op.build 35 _, _, _, _, _⟩ :: _) _ _; refine wl_build1 _ rfl 35 _ _ rfl _ rfl _ (HBu.out _) ?_; go_simp) | (guard_target =~ wpList _ _ _ (⟨_, Op.store 35 _ _, _, _, _, _⟩ :: _) _ _; refine wl_store _ _ rfl 35 _ _ rfl _ _ rfl rfl HST1.out ?_; go_simp))
  clear HST1 HBu c0 hlt
  generalize w1.heap.size = pp at *
  have c0 : w2.cell? ⟨w.heap.size, 0, none⟩ = some (.int .i64 2) := by have := HX2.out.cell 0; rw [show (mcs m pa ia ca ba pc ic cc bc)[0]? = some (.int .i64 m.k) from rfl, hk] at this; exact this
  have HLm : Hid (∀ W, Bx W w.heap.size (mcs m pa ia ca ba pc ic cc bc) 35 → (Instr.loadAt 23 (.pointer (some ⟨w.heap.size, 3, none⟩))).run Tryz.prog W = .ok (.agg #[.string ⟨m.a.i.toArray⟩, .int .i64 m.a.iss, .int .i64 m.a.rat, .int .i64 m.a.mat, .string ⟨m.a.cur.toArray⟩]) W) := fun W h => load23 W _ _ _ _ _ _ (h.cell 3) (h.cell 4) (h.cell 5) (h.cell 6) (h.cell 7)
  have HSm : Hid ((Instr.storeAt 23 (.pointer (some ⟨pp, 3, none⟩)) (.agg #[.string ⟨m.a.i.toArray⟩, .int .i64 m.a.iss, .int .i64 m.a.rat, .int .i64 m.a.mat, .string ⟨m.a.cur.toArray⟩])).run Tryz.prog w2 = .ok () (w2.setCells pp 3 [.string ⟨m.a.i.toArray⟩, .int .i64 m.a.iss, .int .i64 m.a.rat, .int .i64 m.a.mat, .string ⟨m.a.cur.toArray⟩])) := run_storeAt_mid w2 pp 3 23 #[.string ⟨m.a.i.toArray⟩, .int .i64 m.a.iss, .int .i64 m.a.rat, .int .i64 m.a.mat, .string ⟨m.a.cur.toArray⟩] (HP2.out.there (by show 3 + 5 ≤ (mcs _ _ _ _ _ _ _ _ _).size; rw [mcs_size]; omega)) info23 (by simp [Value.oneCell'])
  have HX3 : Hid (Bx (w2.setCells pp 3 [.string ⟨m.a.i.toArray⟩, .int .i64 m.a.iss, .int .i64 m.a.rat, .int .i64 m.a.mat, .string ⟨m.a.cur.toArray⟩]) w.heap.size (mcs m pa ia ca ba pc ic cc bc) 35) := Bx.cellsOther hne _ _ _ HX2.out
  have HY3 : Hid (Bx (w2.setCells pp 3 [.string ⟨m.a.i.toArray⟩, .int .i64 m.a.iss, .int .i64 m.a.rat, .int .i64 m.a.mat, .string ⟨m.a.cur.toArray⟩]) (w.heap.size + 1) (mcs Mg.z none none none none 0 0 0 0) 35) := Bx.cellsOther hne1 _ _ _ HY2.out
  have HP3 : Hid (Bx (w2.setCells pp 3 [.string ⟨m.a.i.toArray⟩, .int .i64 m.a.iss, .int .i64 m.a.rat, .int .i64 m.a.mat, .string ⟨m.a.cur.toArray⟩]) pp (mcs { Mg.z with k := 2, a := m.a } none none none none 0 0 0 0) 35) := by
    unfold Hid
    have h := Bx.cellsSet [.string ⟨m.a.i.toArray⟩, .int .i64 m.a.iss, .int .i64 m.a.rat, .int .i64 m.a.mat, .string ⟨m.a.cur.toArray⟩] 3 w2 _ HP2.out
    have e : setL (mcs { Mg.z with k := 2 } none none none none 0 0 0 0) 3 [.string ⟨m.a.i.toArray⟩, .int .i64 m.a.iss, .int .i64 m.a.rat, .int .i64 m.a.mat, .string ⟨m.a.cur.toArray⟩] = (mcs { Mg.z with k := 2, a := m.a } none none none none 0 0 0 0) := by kernel_rfl
    rw [e] at h
    exact h
  have HB3 : Hid (Below w.heap.size w (w2.setCells pp 3 [.string ⟨m.a.i.toArray⟩, .int .i64 m.a.iss, .int .i64 m.a.rat, .int .i64 m.a.mat, .string ⟨m.a.cur.toArray⟩])) := HB2.out.trans ((Bt.cells _ _ _).below HLE.out HB2.out.size)
  have HLn : Hid ((Instr.loadAt 23 (.pointer (some ⟨w.heap.size, 3, none⟩))).run Tryz.prog w2 = .ok (.agg #[.string ⟨m.a.i.toArray⟩, .int .i64 m.a.iss, .int .i64 m.a.rat, .int .i64 m.a.mat, .string ⟨m.a.cur.toArray⟩]) w2) := HLm.out _ HX2.out
  clear HX2 HY2 HP2 HB2 HLm
  generalize hw : (w2.setCells pp 3 [.string ⟨m.a.i.toArray⟩, .int .i64 m.a.iss, .int .i64 m.a.rat, .int .i64 m.a.mat, .string ⟨m.a.cur.toArray⟩]) = w3 at *
  go_upto_region 8 with (first | (guard_target =~ wpList _ _ _ (⟨_, Op.load 23 _, _, _, _, _⟩ :: _) _ _; refine wl_load _ rfl 23 _ rfl _ rfl _ HLn.out ?_; go_simp) | (guard_target =~ wpList _ _ _ (⟨_, Op.store 23 _ _, _, _, _, _⟩ :: _) _ _; refine wl_store _ _ rfl 23 _ _ rfl _ _ rfl rfl HSm.out ?_; go_simp))
  clear hw c0 HLn HSm
  have c0 : w3.cell? ⟨w.heap.size, 0, none⟩ = some (.int .i64 2) := by have := HX3.out.cell 0; rw [show (mcs m pa ia ca ba pc ic cc bc)[0]? = some (.int .i64 m.k) from rfl, hk] at this; exact this
  have HLD : Hid ((Instr.loadAt 35 (.pointer (some ⟨pp, 0, none⟩))).run Tryz.prog w3 = .ok (.agg (mcs { Mg.z with k := 2, a := m.a } none none none none 0 0 0 0)) w3) := hloadAt w3 pp _ rfl HP3.out
  have HST : Hid ((Instr.storeAt 35 (.pointer (some ⟨w.heap.size + 1, 0, none⟩)) (.agg (mcs { Mg.z with k := 2, a := m.a } none none none none 0 0 0 0))).run Tryz.prog w3 = .ok () (w3.setRow (w.heap.size + 1) (mcs { Mg.z with k := 2, a := m.a } none none none none 0 0 0 0))) := hstore w3 (w.heap.size + 1) _ _ HY3.out rfl rfl (mcs_one _ _ _ _ _ _ _ _ _)
  have hld := hload (w3.setRow (w.heap.size + 1) (mcs { Mg.z with k := 2, a := m.a } none none none none 0 0 0 0)) (w.heap.size + 1) (mcs { Mg.z with k := 2, a := m.a } none none none none 0 0 0 0) rfl HY3.out.set
  have HBz : Hid (Below w.heap.size w (w3.setRow (w.heap.size + 1) (mcs { Mg.z with k := 2, a := m.a } none none none none 0 0 0 0))) := below_setRow' HB3.out (by omega)
  clear HX3 HY3 HP3 HB3
  generalize (mcs { Mg.z with k := 2, a := m.a } none none none none 0 0 0 0) = PP at *
  go_wp2_with (first | (guard_target =~ wpList _ _ _ (⟨_, Op.load 35 _, _, _, _, _⟩ :: _) _ _; refine wl_load _ rfl 35 _ rfl _ rfl _ HLD.out ?_; go_simp) | (guard_target =~ wpList _ _ _ (⟨_, Op.store 35 _ _, _, _, _, _⟩ :: _) _ _; refine wl_store _ _ rfl 35 _ _ rfl _ _ rfl rfl HST.out ?_; go_simp))
  refine bodyPost_ret (res_cell _ _ 2 35 _ _ _ rfl rfl hld) rfl ?_
  exact ⟨rfl, HBz⟩
set_option maxHeartbeats 8000000 in
theorem plain3 (m : Mg) (pa ia ca ba : Option Addr) (pc ic cc bc : Nat) (hk : m.k = 3) (w : World) : Calls Tryz.prog 24 #[.agg (mcs m pa ia ca ba pc ic cc bc)] w (KP (.agg (mcs { Mg.z with k := 3, b := m.b } none none ca ba 0 0 cc bc)) w) := by
  have HX0 : Hid (Bx ((w.alloc (.cells (mcs m pa ia ca ba pc ic cc bc) 35)).alloc (.cells (mcs Mg.z none none none none 0 0 0 0) 35)) w.heap.size (mcs m pa ia ca ba pc ic cc bc) 35) := (Bx.new w _ _).keep (below_a _ _)
  have HY0 : Hid (Bx ((w.alloc (.cells (mcs m pa ia ca ba pc ic cc bc) 35)).alloc (.cells (mcs Mg.z none none none none 0 0 0 0) 35)) (w.heap.size + 1) (mcs Mg.z none none none none 0 0 0 0) 35) := by have := Bx.new (w.alloc (.cells (mcs m pa ia ca ba pc ic cc bc) 35)) (mcs Mg.z none none none none 0 0 0 0) 35; rwa [size_a] at this
  have HB0 : Hid (Below w.heap.size w ((w.alloc (.cells (mcs m pa ia ca ba pc ic cc bc) 35)).alloc (.cells (mcs Mg.z none none none none 0 0 0 0) 35))) := bt (below_a w _) (below_a _ _)
  have hsz0 : w.heap.size + 2 ≤ ((w.alloc (.cells (mcs m pa ia ca ba pc ic cc bc) 35)).alloc (.cells (mcs Mg.z none none none none 0 0 0 0) 35)).heap.size := by rw [size_a, size_a]; omega
  have HBu : Hid (∀ W, (Instr.build 35 #[(0, .int .i64 3)]).run Tryz.prog W = .ok (.agg (mcs { Mg.z with k := 3 } none none none none 0 0 0 0)) W) := fun W => build1 _ W
  go_enter Tryz.func24, Tryz.ntmps24
  go_upto_region 1 with fail
  show Code.wp _ _ _ _ ((w.alloc (.cells (mcs m pa ia ca ba pc ic cc bc) 35)).alloc (.cells (mcs Mg.z none none none none 0 0 0 0) 35))
  generalize ((w.alloc (.cells (mcs m pa ia ca ba pc ic cc bc) 35)).alloc (.cells (mcs Mg.z none none none none 0 0 0 0) 35)) = w1 at *
  have hlt : w.heap.size < w1.heap.size := by omega
  have c0 : w1.cell? ⟨w.heap.size, 0, none⟩ = some (.int .i64 3) := by have := HX0.out.cell 0; rw [show (mcs m pa ia ca ba pc ic cc bc)[0]? = some (.int .i64 m.k) from rfl, hk] at this; exact this
  have hne : w.heap.size ≠ w1.heap.size := by omega
  have hne1 : w.heap.size + 1 ≠ w1.heap.size := by omega
  have HX2 : Hid (Bx ((w1.alloc (.cells (mcs Mg.z none none none none 0 0 0 0) 35)).setRow w1.heap.size (mcs { Mg.z with k := 3 } none none none none 0 0 0 0)) w.heap.size (mcs m pa ia ca ba pc ic cc bc) 35) := (HX0.out.keep (below_a _ _)).other hne
  have HY2 : Hid (Bx ((w1.alloc (.cells (mcs Mg.z none none none none 0 0 0 0) 35)).setRow w1.heap.size (mcs { Mg.z with k := 3 } none none none none 0 0 0 0)) (w.heap.size + 1) (mcs Mg.z none none none none 0 0 0 0) 35) := (HY0.out.keep (below_a _ _)).other hne1
  have HP2 : Hid (Bx ((w1.alloc (.cells (mcs Mg.z none none none none 0 0 0 0) 35)).setRow w1.heap.size (mcs { Mg.z with k := 3 } none none none none 0 0 0 0)) w1.heap.size (mcs { Mg.z with k := 3 } none none none none 0 0 0 0) 35) := Bx.set (Bx.new _ _ _)
  have HB2 : Hid (Below w.heap.size w ((w1.alloc (.cells (mcs Mg.z none none none none 0 0 0 0) 35)).setRow w1.heap.size (mcs { Mg.z with k := 3 } none none none none 0 0 0 0))) := below_setRow' (bt HB0.out (below_a _ _)) (by omega)
  have HST1 : Hid ((Instr.storeAt 35 (.pointer (some ⟨w1.heap.size, 0, none⟩)) (.agg (mcs { Mg.z with k := 3 } none none none none 0 0 0 0))).run Tryz.prog (w1.alloc (.cells (mcs Mg.z none none none none 0 0 0 0) 35)) = .ok () ((w1.alloc (.cells (mcs Mg.z none none none none 0 0 0 0) 35)).setRow w1.heap.size (mcs { Mg.z with k := 3 } none none none none 0 0 0 0))) := storeT (T := 35) (n := 36) (w1.alloc (.cells (mcs Mg.z none none none none 0 0 0 0) 35)) w1.heap.size (mcs Mg.z none none none none 0 0 0 0) (mcs { Mg.z with k := 3 } none none none none 0 0 0 0) info35 (Bx.new _ _ _) rfl rfl (mcs_one _ _ _ _ _ _ _ _ _)
  have HLE : Hid (w.heap.size ≤ w1.heap.size) := by unfold Hid; omega
  generalize ((w1.alloc (.cells (mcs Mg.z none none none none 0 0 0 0) 35)).setRow w1.heap.size (mcs { Mg.z with k := 3 } none none none none 0 0 0 0)) = w2 at *
  clear HX0 HY0 HB0 hsz0
  go_upto_region 2 with (first | (guard_target =~ wpList _ _ _ (⟨_, Op.build 35 _, _, _, _, _⟩ :: _) _ _; refine wl_build1 _ rfl 35 _ _ rfl _ rfl _ (HBu.out _) ?_; go_simp) | (guard_target =~ wpList _ _ _ (⟨_, Op.store 35 _ _, _, _, _, _⟩ :: _) _ _; refine wl_store _ _ rfl 35 _ _ rfl _ _ rfl rfl HST1.out ?_; go_simp))
  clear HST1 HBu c0 hlt
  generalize w1.heap.size = pp at *
  have c0 : w2.cell? ⟨w.heap.size, 0, none⟩ = some (.int .i64 3) := by have := HX2.out.cell 0; rw [show (mcs m pa ia ca ba pc ic cc bc)[0]? = some (.int .i64 m.k) from rfl, hk] at this; exact this
  have HLm : Hid (∀ W, Bx W w.heap.size (mcs m pa ia ca ba pc ic cc bc) 35 → (Instr.loadAt 27 (.pointer (some ⟨w.heap.size, 8, none⟩))).run Tryz.prog W = .ok (.agg #[.int .i64 m.b.id, .int .i64 m.b.ver, .string ⟨m.b.cur.toArray⟩, .int .i64 m.b.rat, .int .i64 m.b.least, .int .i64 m.b.most, .slice ca m.b.cuts.length cc, .int .i64 m.b.iss, .int .i64 m.b.ass, .slice ba m.b.bar.length bc]) W) := fun W h => load27 W _ _ _ _ _ _ _ _ _ _ _ (h.cell 8) (h.cell 9) (h.cell 10) (h.cell 11) (h.cell 12) (h.cell 13) (h.cell 14) (h.cell 15) (h.cell 16) (h.cell 17)
  have HSm : Hid ((Instr.storeAt 27 (.pointer (some ⟨pp, 8, none⟩)) (.agg #[.int .i64 m.b.id, .int .i64 m.b.ver, .string ⟨m.b.cur.toArray⟩, .int .i64 m.b.rat, .int .i64 m.b.least, .int .i64 m.b.most, .slice ca m.b.cuts.length cc, .int .i64 m.b.iss, .int .i64 m.b.ass, .slice ba m.b.bar.length bc])).run Tryz.prog w2 = .ok () (w2.setCells pp 8 [.int .i64 m.b.id, .int .i64 m.b.ver, .string ⟨m.b.cur.toArray⟩, .int .i64 m.b.rat, .int .i64 m.b.least, .int .i64 m.b.most, .slice ca m.b.cuts.length cc, .int .i64 m.b.iss, .int .i64 m.b.ass, .slice ba m.b.bar.length bc])) := run_storeAt_mid w2 pp 8 27 #[.int .i64 m.b.id, .int .i64 m.b.ver, .string ⟨m.b.cur.toArray⟩, .int .i64 m.b.rat, .int .i64 m.b.least, .int .i64 m.b.most, .slice ca m.b.cuts.length cc, .int .i64 m.b.iss, .int .i64 m.b.ass, .slice ba m.b.bar.length bc] (HP2.out.there (by show 8 + 10 ≤ (mcs _ _ _ _ _ _ _ _ _).size; rw [mcs_size]; omega)) info27 (by simp [Value.oneCell'])
  have HX3 : Hid (Bx (w2.setCells pp 8 [.int .i64 m.b.id, .int .i64 m.b.ver, .string ⟨m.b.cur.toArray⟩, .int .i64 m.b.rat, .int .i64 m.b.least, .int .i64 m.b.most, .slice ca m.b.cuts.length cc, .int .i64 m.b.iss, .int .i64 m.b.ass, .slice ba m.b.bar.length bc]) w.heap.size (mcs m pa ia ca ba pc ic cc bc) 35) := Bx.cellsOther hne _ _ _ HX2.out
  have HY3 : Hid (Bx (w2.setCells pp 8 [.int .i64 m.b.id, .int .i64 m.b.ver, .string ⟨m.b.cur.toArray⟩, .int .i64 m.b.rat, .int .i64 m.b.least, .int .i64 m.b.most, .slice ca m.b.cuts.length cc, .int .i64 m.b.iss, .int .i64 m.b.ass, .slice ba m.b.bar.length bc]) (w.heap.size + 1) (mcs Mg.z none none none none 0 0 0 0) 35) := Bx.cellsOther hne1 _ _ _ HY2.out
  have HP3 : Hid (Bx (w2.setCells pp 8 [.int .i64 m.b.id, .int .i64 m.b.ver, .string ⟨m.b.cur.toArray⟩, .int .i64 m.b.rat, .int .i64 m.b.least, .int .i64 m.b.most, .slice ca m.b.cuts.length cc, .int .i64 m.b.iss, .int .i64 m.b.ass, .slice ba m.b.bar.length bc]) pp (mcs { Mg.z with k := 3, b := m.b } none none ca ba 0 0 cc bc) 35) := by
    unfold Hid
    have h := Bx.cellsSet [.int .i64 m.b.id, .int .i64 m.b.ver, .string ⟨m.b.cur.toArray⟩, .int .i64 m.b.rat, .int .i64 m.b.least, .int .i64 m.b.most, .slice ca m.b.cuts.length cc, .int .i64 m.b.iss, .int .i64 m.b.ass, .slice ba m.b.bar.length bc] 8 w2 _ HP2.out
    have e : setL (mcs { Mg.z with k := 3 } none none none none 0 0 0 0) 8 [.int .i64 m.b.id, .int .i64 m.b.ver, .string ⟨m.b.cur.toArray⟩, .int .i64 m.b.rat, .int .i64 m.b.least, .int .i64 m.b.most, .slice ca m.b.cuts.length cc, .int .i64 m.b.iss, .int .i64 m.b.ass, .slice ba m.b.bar.length bc] = (mcs { Mg.z with k := 3, b := m.b } none none ca ba 0 0 cc bc) := by kernel_rfl
    rw [e] at h
    exact h
  have HB3 : Hid (Below w.heap.size w (w2.setCells pp 8 [.int .i64 m.b.id, .int .i64 m.b.ver, .string ⟨m.b.cur.toArray⟩, .int .i64 m.b.rat, .int .i64 m.b.least, .int .i64 m.b.most, .slice ca m.b.cuts.length cc, .int .i64 m.b.iss, .int .i64 m.b.ass, .slice ba m.b.bar.length bc])) := HB2.out.trans ((Bt.cells _ _ _).below HLE.out HB2.out.size)
  have HLn : Hid ((Instr.loadAt 27 (.pointer (some ⟨w.heap.size, 8, none⟩))).run Tryz.prog w2 = .ok (.agg #[.int .i64 m.b.id, .int .i64 m.b.ver, .string ⟨m.b.cur.toArray⟩, .int .i64 m.b.rat, .int .i64 m.b.least, .int .i64 m.b.most, .slice ca m.b.cuts.length cc, .int .i64 m.b.iss, .int .i64 m.b.ass, .slice ba m.b.bar.length bc]) w2) := HLm.out _ HX2.out
  clear HX2 HY2 HP2 HB2 HLm
  generalize hw : (w2.setCells pp 8 [.int .i64 m.b.id, .int .i64 m.b.ver, .string ⟨m.b.cur.toArray⟩, .int .i64 m.b.rat, .int .i64 m.b.least, .int .i64 m.b.most, .slice ca m.b.cuts.length cc, .int .i64 m.b.iss, .int .i64 m.b.ass, .slice ba m.b.bar.length bc]) = w3 at *
  go_upto_region 10 with (first | (guard_target =~ wpList _ _ _ (⟨_, Op.load 27 _, _, _, _, _⟩ :: _) _ _; refine wl_load _ rfl 27 _ rfl _ rfl _ HLn.out ?_; go_simp) | (guard_target =~ wpList _ _ _ (⟨_, Op.store 27 _ _, _, _, _, _⟩ :: _) _ _; refine wl_store _ _ rfl 27 _ _ rfl _ _ rfl rfl HSm.out ?_; go_simp))
  clear hw c0 HLn HSm
  have c0 : w3.cell? ⟨w.heap.size, 0, none⟩ = some (.int .i64 3) := by have := HX3.out.cell 0; rw [show (mcs m pa ia ca ba pc ic cc bc)[0]? = some (.int .i64 m.k) from rfl, hk] at this; exact this
  have HLD : Hid ((Instr.loadAt 35 (.pointer (some ⟨pp, 0, none⟩))).run Tryz.prog w3 = .ok (.agg (mcs { Mg.z with k := 3, b := m.b } none none ca ba 0 0 cc bc)) w3) := hloadAt w3 pp _ rfl HP3.out
  have HST : Hid ((Instr.storeAt 35 (.pointer (some ⟨w.heap.size + 1, 0, none⟩)) (.agg (mcs { Mg.z with k := 3, b := m.b } none none ca ba 0 0 cc bc))).run Tryz.prog w3 = .ok () (w3.setRow (w.heap.size + 1) (mcs { Mg.z with k := 3, b := m.b } none none ca ba 0 0 cc bc))) := hstore w3 (w.heap.size + 1) _ _ HY3.out rfl rfl (mcs_one _ _ _ _ _ _ _ _ _)
  have hld := hload (w3.setRow (w.heap.size + 1) (mcs { Mg.z with k := 3, b := m.b } none none ca ba 0 0 cc bc)) (w.heap.size + 1) (mcs { Mg.z with k := 3, b := m.b } none none ca ba 0 0 cc bc) rfl HY3.out.set
  have HBz : Hid (Below w.heap.size w (w3.setRow (w.heap.size + 1) (mcs { Mg.z with k := 3, b := m.b } none none ca ba 0 0 cc bc))) := below_setRow' HB3.out (by omega)
  clear HX3 HY3 HP3 HB3
  generalize (mcs { Mg.z with k := 3, b := m.b } none none ca ba 0 0 cc bc) = PP at *
  go_wp2_with (first | (guard_target =~ wpList _ _ _ (⟨_, Op.load 35 _, _, _, _, _⟩ :: _) _ _; refine wl_load _ rfl 35 _ rfl _ rfl _ HLD.out ?_; go_simp) | (guard_target =~ wpList _ _ _ (⟨_, Op.store 35 _ _, _, _, _, _⟩ :: _) _ _; refine wl_store _ _ rfl 35 _ _ rfl _ _ rfl rfl HST.out ?_; go_simp))
  refine bodyPost_ret (res_cell _ _ 2 35 _ _ _ rfl rfl hld) rfl ?_
  exact ⟨rfl, HBz⟩
set_option maxHeartbeats 8000000 in
theorem plain4 (m : Mg) (pa ia ca ba : Option Addr) (pc ic cc bc : Nat) (hk : m.k = 4) (w : World) : Calls Tryz.prog 24 #[.agg (mcs m pa ia ca ba pc ic cc bc)] w (KP (.agg (mcs { Mg.z with k := 4, ps := m.ps } pa none none none pc 0 0 0)) w) := by
  have HX0 : Hid (Bx ((w.alloc (.cells (mcs m pa ia ca ba pc ic cc bc) 35)).alloc (.cells (mcs Mg.z none none none none 0 0 0 0) 35)) w.heap.size (mcs m pa ia ca ba pc ic cc bc) 35) := (Bx.new w _ _).keep (below_a _ _)
  have HY0 : Hid (Bx ((w.alloc (.cells (mcs m pa ia ca ba pc ic cc bc) 35)).alloc (.cells (mcs Mg.z none none none none 0 0 0 0) 35)) (w.heap.size + 1) (mcs Mg.z none none none none 0 0 0 0) 35) := by have := Bx.new (w.alloc (.cells (mcs m pa ia ca ba pc ic cc bc) 35)) (mcs Mg.z none none none none 0 0 0 0) 35; rwa [size_a] at this
  have HB0 : Hid (Below w.heap.size w ((w.alloc (.cells (mcs m pa ia ca ba pc ic cc bc) 35)).alloc (.cells (mcs Mg.z none none none none 0 0 0 0) 35))) := bt (below_a w _) (below_a _ _)
  have hsz0 : w.heap.size + 2 ≤ ((w.alloc (.cells (mcs m pa ia ca ba pc ic cc bc) 35)).alloc (.cells (mcs Mg.z none none none none 0 0 0 0) 35)).heap.size := by rw [size_a, size_a]; omega
  have HBu : Hid (∀ W, (Instr.build 35 #[(0, .int .i64 4)]).run Tryz.prog W = .ok (.agg (mcs { Mg.z with k := 4 } none none none none 0 0 0 0)) W) := fun W => build1 _ W
  go_enter Tryz.func24, Tryz.ntmps24
  go_upto_region 1 with fail
  show Code.wp _ _ _ _ ((w.alloc (.cells (mcs m pa ia ca ba pc ic cc bc) 35)).alloc (.cells (mcs Mg.z none none none none 0 0 0 0) 35))
  generalize ((w.alloc (.cells (mcs m pa ia ca ba pc ic cc bc) 35)).alloc (.cells (mcs Mg.z none none none none 0 0 0 0) 35)) = w1 at *
  have hlt : w.heap.size < w1.heap.size := by omega
  have c0 : w1.cell? ⟨w.heap.size, 0, none⟩ = some (.int .i64 4) := by have := HX0.out.cell 0; rw [show (mcs m pa ia ca ba pc ic cc bc)[0]? = some (.int .i64 m.k) from rfl, hk] at this; exact this
  have hne : w.heap.size ≠ w1.heap.size := by omega
  have hne1 : w.heap.size + 1 ≠ w1.heap.size := by omega
  have HX2 : Hid (Bx ((w1.alloc (.cells (mcs Mg.z none none none none 0 0 0 0) 35)).setRow w1.heap.size (mcs { Mg.z with k := 4 } none none none none 0 0 0 0)) w.heap.size (mcs m pa ia ca ba pc ic cc bc) 35) := (HX0.out.keep (below_a _ _)).other hne
  have HY2 : Hid (Bx ((w1.alloc (.cells (mcs Mg.z none none none none 0 0 0 0) 35)).setRow w1.heap.size (mcs { Mg.z with k := 4 } none none none none 0 0 0 0)) (w.heap.size + 1) (mcs Mg.z none none none none 0 0 0 0) 35) := (HY0.out.keep (below_a _ _)).other hne1
  have HP2 : Hid (Bx ((w1.alloc (.cells (mcs Mg.z none none none none 0 0 0 0) 35)).setRow w1.heap.size (mcs { Mg.z with k := 4 } none none none none 0 0 0 0)) w1.heap.size (mcs { Mg.z with k := 4 } none none none none 0 0 0 0) 35) := Bx.set (Bx.new _ _ _)
  have HB2 : Hid (Below w.heap.size w ((w1.alloc (.cells (mcs Mg.z none none none none 0 0 0 0) 35)).setRow w1.heap.size (mcs { Mg.z with k := 4 } none none none none 0 0 0 0))) := below_setRow' (bt HB0.out (below_a _ _)) (by omega)
  have HST1 : Hid ((Instr.storeAt 35 (.pointer (some ⟨w1.heap.size, 0, none⟩)) (.agg (mcs { Mg.z with k := 4 } none none none none 0 0 0 0))).run Tryz.prog (w1.alloc (.cells (mcs Mg.z none none none none 0 0 0 0) 35)) = .ok () ((w1.alloc (.cells (mcs Mg.z none none none none 0 0 0 0) 35)).setRow w1.heap.size (mcs { Mg.z with k := 4 } none none none none 0 0 0 0))) := storeT (T := 35) (n := 36) (w1.alloc (.cells (mcs Mg.z none none none none 0 0 0 0) 35)) w1.heap.size (mcs Mg.z none none none none 0 0 0 0) (mcs { Mg.z with k := 4 } none none none none 0 0 0 0) info35 (Bx.new _ _ _) rfl rfl (mcs_one _ _ _ _ _ _ _ _ _)
  have HLE : Hid (w.heap.size ≤ w1.heap.size) := by unfold Hid; omega
  generalize ((w1.alloc (.cells (mcs Mg.z none none none none 0 0 0 0) 35)).setRow w1.heap.size (mcs { Mg.z with k := 4 } none none none none 0 0 0 0)) = w2 at *
  clear HX0 HY0 HB0 hsz0
  go_upto_region 2 with (first | (guard_target =~ wpList _ _ _ (⟨_, Op.build 35 _, _, _, _, _⟩ :: _) _ _; refine wl_build1 _ rfl 35 _ _ rfl _ rfl _ (HBu.out _) ?_; go_simp) | (guard_target =~ wpList _ _ _ (⟨_, Op.store 35 _ _, _, _, _, _⟩ :: _) _ _; refine wl_store _ _ rfl 35 _ _ rfl _ _ rfl rfl HST1.out ?_; go_simp))
  clear HST1 HBu c0 hlt
  generalize w1.heap.size = pp at *
  have c0 : w2.cell? ⟨w.heap.size, 0, none⟩ = some (.int .i64 4) := by have := HX2.out.cell 0; rw [show (mcs m pa ia ca ba pc ic cc bc)[0]? = some (.int .i64 m.k) from rfl, hk] at this; exact this
  have c18 : w2.cell? ⟨w.heap.size, 18, none⟩ = some (.slice pa m.ps.length pc) := HX2.out.cell 18
  have d18 : w2.cell? ⟨pp, 18, none⟩ = some (.slice none 0 0) := HP2.out.cell 18
  have f18 : w2.frozen? ⟨pp, 18, none⟩ = false := HP2.out.froz 18
  obtain ⟨w3, hw⟩ : ∃ v, v = (w2.setCell ⟨pp, 18, none⟩ (.slice pa m.ps.length pc)) := ⟨_, rfl⟩
  have HX3 : Hid (Bx w3 w.heap.size (mcs m pa ia ca ba pc ic cc bc) 35) := by unfold Hid; rw [hw]; exact (HX2.out.cellOther (k := 18) hne _)
  have HY3 : Hid (Bx w3 (w.heap.size + 1) (mcs Mg.z none none none none 0 0 0 0) 35) := by unfold Hid; rw [hw]; exact (HY2.out.cellOther (k := 18) hne1 _)
  have HP3 : Hid (Bx w3 pp (mcs { Mg.z with k := 4, ps := m.ps } pa none none none pc 0 0 0) 35) := by
    unfold Hid
    rw [hw]
    have h := HP2.out.cellSet (k := 18) (.slice pa m.ps.length pc)
    have e : (mcs { Mg.z with k := 4 } none none none none 0 0 0 0).setIfInBounds 18 (.slice pa m.ps.length pc) = (mcs { Mg.z with k := 4, ps := m.ps } pa none none none pc 0 0 0) := by kernel_rfl
    rw [e] at h
    exact h
  have HB3 : Hid (Below w.heap.size w w3) := by unfold Hid; rw [hw]; exact HB2.out.trans (((Bt.refl pp _).trans (Bt.set pp _ 18 (.slice pa m.ps.length pc))).below HLE.out HB2.out.size)
  clear HX2 HY2 HP2 HB2
  go_upto_region 12 with fail
  rw [← hw]
  clear hw c0 c18 d18 f18
  have c0 : w3.cell? ⟨w.heap.size, 0, none⟩ = some (.int .i64 4) := by have := HX3.out.cell 0; rw [show (mcs m pa ia ca ba pc ic cc bc)[0]? = some (.int .i64 m.k) from rfl, hk] at this; exact this
  have HLD : Hid ((Instr.loadAt 35 (.pointer (some ⟨pp, 0, none⟩))).run Tryz.prog w3 = .ok (.agg (mcs { Mg.z with k := 4, ps := m.ps } pa none none none pc 0 0 0)) w3) := hloadAt w3 pp _ rfl HP3.out
  have HST : Hid ((Instr.storeAt 35 (.pointer (some ⟨w.heap.size + 1, 0, none⟩)) (.agg (mcs { Mg.z with k := 4, ps := m.ps } pa none none none pc 0 0 0))).run Tryz.prog w3 = .ok () (w3.setRow (w.heap.size + 1) (mcs { Mg.z with k := 4, ps := m.ps } pa none none none pc 0 0 0))) := hstore w3 (w.heap.size + 1) _ _ HY3.out rfl rfl (mcs_one _ _ _ _ _ _ _ _ _)
  have hld := hload (w3.setRow (w.heap.size + 1) (mcs { Mg.z with k := 4, ps := m.ps } pa none none none pc 0 0 0)) (w.heap.size + 1) (mcs { Mg.z with k := 4, ps := m.ps } pa none none none pc 0 0 0) rfl HY3.out.set
  have HBz : Hid (Below w.heap.size w (w3.setRow (w.heap.size + 1) (mcs { Mg.z with k := 4, ps := m.ps } pa none none none pc 0 0 0))) := below_setRow' HB3.out (by omega)
  clear HX3 HY3 HP3 HB3
  generalize (mcs { Mg.z with k := 4, ps := m.ps } pa none none none pc 0 0 0) = PP at *
  go_wp2_with (first | (guard_target =~ wpList _ _ _ (⟨_, Op.load 35 _, _, _, _, _⟩ :: _) _ _; refine wl_load _ rfl 35 _ rfl _ rfl _ HLD.out ?_; go_simp) | (guard_target =~ wpList _ _ _ (⟨_, Op.store 35 _ _, _, _, _, _⟩ :: _) _ _; refine wl_store _ _ rfl 35 _ _ rfl _ _ rfl rfl HST.out ?_; go_simp))
  refine bodyPost_ret (res_cell _ _ 2 35 _ _ _ rfl rfl hld) rfl ?_
  exact ⟨rfl, HBz⟩
set_option maxHeartbeats 8000000 in
theorem plain5 (m : Mg) (pa ia ca ba : Option Addr) (pc ic cc bc : Nat) (hk : m.k = 5) (w : World) : Calls Tryz.prog 24 #[.agg (mcs m pa ia ca ba pc ic cc bc)] w (KP (.agg (mcs { Mg.z with k := 5, day := m.day } none none none none 0 0 0 0)) w) := by
  have HX0 : Hid (Bx ((w.alloc (.cells (mcs m pa ia ca ba pc ic cc bc) 35)).alloc (.cells (mcs Mg.z none none none none 0 0 0 0) 35)) w.heap.size (mcs m pa ia ca ba pc ic cc bc) 35) := (Bx.new w _ _).keep (below_a _ _)
  have HY0 : Hid (Bx ((w.alloc (.cells (mcs m pa ia ca ba pc ic cc bc) 35)).alloc (.cells (mcs Mg.z none none none none 0 0 0 0) 35)) (w.heap.size + 1) (mcs Mg.z none none none none 0 0 0 0) 35) := by have := Bx.new (w.alloc (.cells (mcs m pa ia ca ba pc ic cc bc) 35)) (mcs Mg.z none none none none 0 0 0 0) 35; rwa [size_a] at this
  have HB0 : Hid (Below w.heap.size w ((w.alloc (.cells (mcs m pa ia ca ba pc ic cc bc) 35)).alloc (.cells (mcs Mg.z none none none none 0 0 0 0) 35))) := bt (below_a w _) (below_a _ _)
  have hsz0 : w.heap.size + 2 ≤ ((w.alloc (.cells (mcs m pa ia ca ba pc ic cc bc) 35)).alloc (.cells (mcs Mg.z none none none none 0 0 0 0) 35)).heap.size := by rw [size_a, size_a]; omega
  have HBu : Hid (∀ W, (Instr.build 35 #[(0, .int .i64 5)]).run Tryz.prog W = .ok (.agg (mcs { Mg.z with k := 5 } none none none none 0 0 0 0)) W) := fun W => build1 _ W
  go_enter Tryz.func24, Tryz.ntmps24
  go_upto_region 1 with fail
  show Code.wp _ _ _ _ ((w.alloc (.cells (mcs m pa ia ca ba pc ic cc bc) 35)).alloc (.cells (mcs Mg.z none none none none 0 0 0 0) 35))
  generalize ((w.alloc (.cells (mcs m pa ia ca ba pc ic cc bc) 35)).alloc (.cells (mcs Mg.z none none none none 0 0 0 0) 35)) = w1 at *
  have hlt : w.heap.size < w1.heap.size := by omega
  have c0 : w1.cell? ⟨w.heap.size, 0, none⟩ = some (.int .i64 5) := by have := HX0.out.cell 0; rw [show (mcs m pa ia ca ba pc ic cc bc)[0]? = some (.int .i64 m.k) from rfl, hk] at this; exact this
  have hne : w.heap.size ≠ w1.heap.size := by omega
  have hne1 : w.heap.size + 1 ≠ w1.heap.size := by omega
  have HX2 : Hid (Bx ((w1.alloc (.cells (mcs Mg.z none none none none 0 0 0 0) 35)).setRow w1.heap.size (mcs { Mg.z with k := 5 } none none none none 0 0 0 0)) w.heap.size (mcs m pa ia ca ba pc ic cc bc) 35) := (HX0.out.keep (below_a _ _)).other hne
  have HY2 : Hid (Bx ((w1.alloc (.cells (mcs Mg.z none none none none 0 0 0 0) 35)).setRow w1.heap.size (mcs { Mg.z with k := 5 } none none none none 0 0 0 0)) (w.heap.size + 1) (mcs Mg.z none none none none 0 0 0 0) 35) := (HY0.out.keep (below_a _ _)).other hne1
  have HP2 : Hid (Bx ((w1.alloc (.cells (mcs Mg.z none none none none 0 0 0 0) 35)).setRow w1.heap.size (mcs { Mg.z with k := 5 } none none none none 0 0 0 0)) w1.heap.size (mcs { Mg.z with k := 5 } none none none none 0 0 0 0) 35) := Bx.set (Bx.new _ _ _)
  have HB2 : Hid (Below w.heap.size w ((w1.alloc (.cells (mcs Mg.z none none none none 0 0 0 0) 35)).setRow w1.heap.size (mcs { Mg.z with k := 5 } none none none none 0 0 0 0))) := below_setRow' (bt HB0.out (below_a _ _)) (by omega)
  have HST1 : Hid ((Instr.storeAt 35 (.pointer (some ⟨w1.heap.size, 0, none⟩)) (.agg (mcs { Mg.z with k := 5 } none none none none 0 0 0 0))).run Tryz.prog (w1.alloc (.cells (mcs Mg.z none none none none 0 0 0 0) 35)) = .ok () ((w1.alloc (.cells (mcs Mg.z none none none none 0 0 0 0) 35)).setRow w1.heap.size (mcs { Mg.z with k := 5 } none none none none 0 0 0 0))) := storeT (T := 35) (n := 36) (w1.alloc (.cells (mcs Mg.z none none none none 0 0 0 0) 35)) w1.heap.size (mcs Mg.z none none none none 0 0 0 0) (mcs { Mg.z with k := 5 } none none none none 0 0 0 0) info35 (Bx.new _ _ _) rfl rfl (mcs_one _ _ _ _ _ _ _ _ _)
  have HLE : Hid (w.heap.size ≤ w1.heap.size) := by unfold Hid; omega
  generalize ((w1.alloc (.cells (mcs Mg.z none none none none 0 0 0 0) 35)).setRow w1.heap.size (mcs { Mg.z with k := 5 } none none none none 0 0 0 0)) = w2 at *
  clear HX0 HY0 HB0 hsz0
  go_upto_region 2 with (first | (guard_target =~ wpList _ _ _ (⟨_, Op.build 35 _, _, _, _, _⟩ :: _) _ _; refine wl_build1 _ rfl 35 _ _ rfl _ rfl _ (HBu.out _) ?_; go_simp) | (guard_target =~ wpList _ _ _ (⟨_, Op.store 35 _ _, _, _, _, _⟩ :: _) _ _; refine wl_store _ _ rfl 35 _ _ rfl _ _ rfl rfl HST1.out ?_; go_simp))
  clear HST1 HBu c0 hlt
  generalize w1.heap.size = pp at *
  have c0 : w2.cell? ⟨w.heap.size, 0, none⟩ = some (.int .i64 5) := by have := HX2.out.cell 0; rw [show (mcs m pa ia ca ba pc ic cc bc)[0]? = some (.int .i64 m.k) from rfl, hk] at this; exact this
  have c19 : w2.cell? ⟨w.heap.size, 19, none⟩ = some (.int .i64 m.day) := HX2.out.cell 19
  have d19 : w2.cell? ⟨pp, 19, none⟩ = some (.int .i64 0) := HP2.out.cell 19
  have f19 : w2.frozen? ⟨pp, 19, none⟩ = false := HP2.out.froz 19
  obtain ⟨w3, hw⟩ : ∃ v, v = (w2.setCell ⟨pp, 19, none⟩ (.int .i64 m.day)) := ⟨_, rfl⟩
  have HX3 : Hid (Bx w3 w.heap.size (mcs m pa ia ca ba pc ic cc bc) 35) := by unfold Hid; rw [hw]; exact (HX2.out.cellOther (k := 19) hne _)
  have HY3 : Hid (Bx w3 (w.heap.size + 1) (mcs Mg.z none none none none 0 0 0 0) 35) := by unfold Hid; rw [hw]; exact (HY2.out.cellOther (k := 19) hne1 _)
  have HP3 : Hid (Bx w3 pp (mcs { Mg.z with k := 5, day := m.day } none none none none 0 0 0 0) 35) := by
    unfold Hid
    rw [hw]
    have h := HP2.out.cellSet (k := 19) (.int .i64 m.day)
    have e : (mcs { Mg.z with k := 5 } none none none none 0 0 0 0).setIfInBounds 19 (.int .i64 m.day) = (mcs { Mg.z with k := 5, day := m.day } none none none none 0 0 0 0) := by kernel_rfl
    rw [e] at h
    exact h
  have HB3 : Hid (Below w.heap.size w w3) := by unfold Hid; rw [hw]; exact HB2.out.trans (((Bt.refl pp _).trans (Bt.set pp _ 19 (.int .i64 m.day))).below HLE.out HB2.out.size)
  clear HX2 HY2 HP2 HB2
  go_upto_region 14 with fail
  rw [← hw]
  clear hw c0 c19 d19 f19
  have c0 : w3.cell? ⟨w.heap.size, 0, none⟩ = some (.int .i64 5) := by have := HX3.out.cell 0; rw [show (mcs m pa ia ca ba pc ic cc bc)[0]? = some (.int .i64 m.k) from rfl, hk] at this; exact this
  have HLD : Hid ((Instr.loadAt 35 (.pointer (some ⟨pp, 0, none⟩))).run Tryz.prog w3 = .ok (.agg (mcs { Mg.z with k := 5, day := m.day } none none none none 0 0 0 0)) w3) := hloadAt w3 pp _ rfl HP3.out
  have HST : Hid ((Instr.storeAt 35 (.pointer (some ⟨w.heap.size + 1, 0, none⟩)) (.agg (mcs { Mg.z with k := 5, day := m.day } none none none none 0 0 0 0))).run Tryz.prog w3 = .ok () (w3.setRow (w.heap.size + 1) (mcs { Mg.z with k := 5, day := m.day } none none none none 0 0 0 0))) := hstore w3 (w.heap.size + 1) _ _ HY3.out rfl rfl (mcs_one _ _ _ _ _ _ _ _ _)
  have hld := hload (w3.setRow (w.heap.size + 1) (mcs { Mg.z with k := 5, day := m.day } none none none none 0 0 0 0)) (w.heap.size + 1) (mcs { Mg.z with k := 5, day := m.day } none none none none 0 0 0 0) rfl HY3.out.set
  have HBz : Hid (Below w.heap.size w (w3.setRow (w.heap.size + 1) (mcs { Mg.z with k := 5, day := m.day } none none none none 0 0 0 0))) := below_setRow' HB3.out (by omega)
  clear HX3 HY3 HP3 HB3
  generalize (mcs { Mg.z with k := 5, day := m.day } none none none none 0 0 0 0) = PP at *
  go_wp2_with (first | (guard_target =~ wpList _ _ _ (⟨_, Op.load 35 _, _, _, _, _⟩ :: _) _ _; refine wl_load _ rfl 35 _ rfl _ rfl _ HLD.out ?_; go_simp) | (guard_target =~ wpList _ _ _ (⟨_, Op.store 35 _ _, _, _, _, _⟩ :: _) _ _; refine wl_store _ _ rfl 35 _ _ rfl _ _ rfl rfl HST.out ?_; go_simp))
  refine bodyPost_ret (res_cell _ _ 2 35 _ _ _ rfl rfl hld) rfl ?_
  exact ⟨rfl, HBz⟩
end Go.Proofs.YtdmlgheajblcdaaGreat
