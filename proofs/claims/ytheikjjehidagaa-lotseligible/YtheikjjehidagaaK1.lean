/- layer 17: the stable sort's exchanges, by the program -/
import Derived.Test.YtheikjjehidagaaRA
import Derived.Test.YtheikjjehidagaaSB
import Derived.Test.YtheikjjehidagaaShelf2
import Derived.WalkKit
import Derived.ProofKit
import Derived.Handy
import Derived.WalkLawsBesides
import Derived.WalkSpells
import Derived.BigQuiet
import Derived.BigCall
import Derived.Deep.QuietTactic
import Derived.Deep.Light
import Derived.Deep.OwnRows
import Derived.Laws.AppendOwnNone
import Derived.Laws.Strings3
import Derived.Laws.RangeAny
import Derived.Deep.RegionWith
import Derived.Lib.BitFns
import Derived.Lib.Walk
import Derived.Lib.Strings
import Derived.Lib.OthersKept
import Derived.Deep.CutBlock
import Derived.Deep.DeepCutAuto
import Derived.Deep.LoopGhost
import Derived.Deep.RegionHeld3
import Derived.Lib.SmallJoins
import Derived.Maps.AppendAt
import Derived.Laws.IdiomStrings
import Derived.Lib.AppendZeros
import Derived.Deep.WholeRow
import Derived.Laws.BitsAllLaws
import Derived.Lib.ConvBytes
import Derived.Deep.RegionLaw
import Derived.Maps.OwnSet
import Derived.Maps.OwnOps
import Derived.Maps.RangeWalk
import Derived.Maps.Ext
import Derived.DeepKeys4
import Derived.Laws.StructEq
import Derived.Deep.MidRow
import Derived.Lib.Bytealg
import Derived.Lib.AppendZerosOnto
import Derived.Laws.MakeOwn
import Derived.Deep.Upon
import Derived.Sort.KeysCollected
import Derived.Shelf.SlSortCmp.KitK
namespace Go.Proofs.Ytheikjjehidagaa
open Go.RowKit
set_option linter.unusedVariables false
set_option linter.unusedSimpArgs false
open Go.Sort (grow SWO PermIn SortedIn HoldsK swp permIn_refl permIn_trans permIn_all swp_permIn)
open H5 (It its its_len its_one)
set_option maxRecDepth 20000
set_option linter.unusedSectionVars false
abbrev Ei := It × Nat
def ies (x : Ei) : List Value := its x.1
theorem ies_len (x : Ei) : (ies x).length = 9 := rfl
theorem ies_one (x : Ei) : ∀ v ∈ ies x, v.oneCell' = true := its_one x.1
def cfE (x y : Ei) : Int := cfI x.1 y.1
theorem ltE (x y : Ei) : ltOf cfE x y = SS.lt1 ltI x y := cfI_lt x.1 y.1
theorem ltE_eq : ltOf cfE = SS.lt1 ltI := by
  funext x y
  exact ltE x y
theorem step_load {P : Program} (w : World) {ops : Array Oper} {o : Oper} {a : Act} {K : Act → World → Prop} {Q : Exit → Act → World → Prop} {E : Prop} (hgd : o.guard = none) (t : TypeId) (x : Operand) (ho : o.op = .load t x) (vx : Value) (hx : a.eval x = vx) (v' : Value) (hr : (Instr.loadAt t vx).run P w = .ok v' w) (h : K (a.put o.dst v') w) :
    if Region.wanted o (yielded ops a.tmps) = true then Oper.wp P o a w K Q else E := by
  have hw : Region.wanted o (yielded ops a.tmps) = true := by simp [Region.wanted, hgd]
  rw [if_pos hw]
  unfold Oper.wp execOp
  simp only [ho, hx, Sem.run_bind, Sem.run_pure, Result.andThen_ok, hr]
  exact h
theorem step_store {P : Program} (w w' : World) {ops : Array Oper} {o : Oper} {a : Act} {K : Act → World → Prop} {Q : Exit → Act → World → Prop} {E : Prop} (hgd : o.guard = none) (t : TypeId) (x y : Operand) (ho : o.op = .store t x y) (vx vy : Value) (hx : a.eval x = vx) (hy : a.eval y = vy) (hr : (Instr.storeAt t vx vy).run P w = .ok () w') (h : K (a.put o.dst undef) w') :
    if Region.wanted o (yielded ops a.tmps) = true then Oper.wp P o a w K Q else E := by
  have hw : Region.wanted o (yielded ops a.tmps) = true := by simp [Region.wanted, hgd]
  rw [if_pos hw]
  unfold Oper.wp execOp
  simp only [ho, hx, hy, Sem.run_bind, Sem.run_pure, Result.andThen_ok, hr]
  exact h
theorem ld47 {W : World} {a : Addr} {v : Array Value} (h : (loadCellsFrom a 0 9 #[]).run Try.prog W = .ok v W) : (Instr.loadAt 47 (.pointer (some a))).run Try.prog W = .ok (.agg v) W := by
  simp only [Instr.loadAt, Instr.sureAddr, asAddr, Sem.run_bind, Sem.run_pure, Result.andThen_ok]
  unfold loadVar
  simp only [Sem.run_bind, Try.isAgg47, Try.sizeOf47, Result.andThen_ok, if_true]
  unfold loadCells
  simp only [Sem.run_bind, Try.sizeOf47, Result.andThen_ok, h, Sem.run_pure]
theorem st47 {W W' : World} {a : Addr} {c : List Value} (h : (storeCells a c 0).run Try.prog W = .ok () W') (hc : c.length = 9) : (Instr.storeAt 47 (.pointer (some a)) (.agg c.toArray)).run Try.prog W = .ok () W' := by
  simp only [Instr.storeAt, Instr.sureAddr, asAddr, Sem.run_bind, Sem.run_pure, Result.andThen_ok]
  unfold storeVar
  simp only [Sem.run_bind, Try.sizeOf47, Result.andThen_ok]
  rw [if_neg (by simp [Value.cells, hc])]
  exact h
section
variable [Inhabited It]
abbrev Sv (w0 : World) (blk off : Nat) (d : Array Ei) (W : World) : Prop := SWK ies 9 w0 blk off d W
theorem claysE (blk off size : Nat) (w : World) : CmpLays Try.prog 49 #[] ies 9 cfE blk off size w := fun _ _ _ _ x y => (xrank x.1 y.1 _).mono fun _ _ h => h
/-- the row that is sorted -/
structure Ro (w0 : World) (blk off : Nat) (d0 : Array Ei) : Prop where
  r : RowK ies 9 w0 blk off d0
  s : d0.size ≤ 1000000
def SrP (w0 : World) (blk off : Nat) (P : Array Ei → Prop) (e : Ending) (w' : World) : Prop := e = .returned (.tuple #[]) ∧ ∃ d', Sv w0 blk off d' w' ∧ P d'
set_option maxHeartbeats 8000000 in
theorem xswaps {w0 W : World} {blk off cap : Nat} {d0 d : Array Ei} (R : Ro w0 blk off d0) (hd : d.size = d0.size) (hW : Sv w0 blk off d W) {a b m : Nat} (ha : a + m ≤ b) (hb : b + m ≤ d.size) :
    Calls Try.prog 117 #[.slice (some ⟨blk, off, none⟩) d.size cap, .int .i64 a, .int .i64 b, .int .i64 m, .func (.func 49) #[] #[]] W (SrP w0 blk off (fun e => SS.Sw a b m d e ∧ PermIn a (b + m) d e)) := by
  have hds : d.size ≤ 1000000 := by rw [hd]; exact R.s
  have mixed := Try.ins20.mixed
  have HR : Hid (Ro w0 blk off d0) := R
  have HH0 : Hid (Sv w0 blk off d W ∧ d.size = d0.size) := ⟨hW, hd⟩
  clear hW hd R
  go_enter Try.func117, Try.ntmps117
  go_wp2_with fail
  go_loopw [10] (fun i wr => ∃ (k : Nat) (e : Array Ei), k ≤ m ∧ i = .int .i64 k ∧ Hid (Sv w0 blk off e wr ∧ SS.Sw a b k d e ∧ PermIn a (b + m) d e))
    (fun i _ => m - (Lib.intOf i).toNat)
  case atStart => exact ⟨0, d, Nat.zero_le _, rfl, HH0.out.1, SS.Sw.zero a b d, permIn_refl d a (b + m)⟩
  case round =>
    obtain ⟨k, e, hk, rfl, HS⟩ := hrel
    by_cases hkm : k < m
    · have hkz : (k : Int) < (m : Int) := by omega
      have hse : e.size = d.size := HS.out.2.1.1
      have hse0 : e.size = d0.size := by rw [hse]; exact HH0.out.2
      obtain ⟨A, hA⟩ : ∃ A, A = a + k := ⟨_, rfl⟩
      obtain ⟨B, hB⟩ : ∃ B, B = b + k := ⟨_, rfl⟩
      have hAz : (a : Int) + (k : Int) = (A : Int) := by omega
      have hBz : (b : Int) + (k : Int) = (B : Int) := by omega
      have hA2 : A < e.size := by omega
      have hB2 : B < e.size := by omega
      have hAl : (A : Int) < (d.size : Int) := by omega
      have hBl : (B : Int) < (d.size : Int) := by omega
      have hAw : IntKind.i64.wrap (A : Int) = (A : Int) := by rw [IntKind.wrap_i64]; omega
      have hBw : IntKind.i64.wrap (B : Int) = (B : Int) := by rw [IntKind.wrap_i64]; omega
      have l1 := HS.out.1.ld1 HR.out.r hse0 Try.prog B hB2
      have l2 := HS.out.1.ld1 HR.out.r hse0 Try.prog A hA2
      have s1 := HS.out.1.st1 HR.out.r hse0 Try.prog A hA2 e[B]!
      have s2 := HS.out.1.st2 HR.out.r hse0 Try.prog A B hA2 hB2 e[B]! e[A]!
      have HZ : Hid (SS.Sw a b (k + 1) d (swp e A B) ∧ PermIn a (b + m) d (swp e A B)) := by
        have q := permIn_trans d e (swp e A B) a (b + m) HS.out.2.2 (swp_permIn e a (b + m) A B (by omega) (by omega) (by omega) (by omega) (by omega))
        refine ⟨?_, q⟩
        rw [hA, hB]
        exact HS.out.2.1.step (by omega) (by omega)
      have HW2 := hid_in (HS.out.1.swapped HR.out.r A B hA2 hB2)
      have z1 : (ies e[B]!).length = 9 := rfl
      have z2 : (ies e[A]!).length = 9 := rfl
      clear HS hse hse0 hA2 hB2 hA hB
      generalize ies e[B]! = cB at *
      generalize ies e[A]! = cA at *
      replace l1 := ld47 l1
      replace l2 := ld47 l2
      replace s1 := st47 s1 z1
      replace s2 := st47 s2 z2
      go_wp2_with fail
      refine wp_region_held (S := fun _ => True) (by kernel_rfl) ?_
      change wpAnyH _ _ _ _ _ 24 #[false, false, false, false, false, false, false, false, false, false, false, false, false, false, false, false, false, false, false, false, false, false, false, false] _ wr.drew
      refine takeR (fuel := 23) (i := 0) (v := .slice (some ⟨blk, off, none⟩) d.size cap) rfl (by kernel_rfl) (by kernel_rfl) (by kernel_rfl) (fun _ _ _ h => h) (Or.inl ⟨rfl, fun W hW => by go_simp⟩) trivial ?_
      simp only [Act.put, List.setIfInBounds_toArray, List.set_cons_zero, List.set_cons_succ]
      refine takeR (fuel := 22) (i := 1) (v := .int .i64 a) rfl (by kernel_rfl) (by kernel_rfl) (by kernel_rfl) (fun _ _ _ h => h) (Or.inl ⟨rfl, fun W hW => by go_simp⟩) trivial ?_
      simp only [Act.put, List.setIfInBounds_toArray, List.set_cons_zero, List.set_cons_succ]
      refine takeR (fuel := 21) (i := 2) (v := .int .i64 k) rfl (by kernel_rfl) (by kernel_rfl) (by kernel_rfl) (fun _ _ _ h => h) (Or.inl ⟨rfl, fun W hW => by go_simp⟩) trivial ?_
      simp only [Act.put, List.setIfInBounds_toArray, List.set_cons_zero, List.set_cons_succ]
      refine takeR (fuel := 20) (i := 3) (v := .int .i64 A) rfl (by kernel_rfl) (by kernel_rfl) (by kernel_rfl) (fun _ _ _ h => h) (Or.inl ⟨rfl, fun W hW => by go_simp⟩) trivial ?_
      simp only [Act.put, List.setIfInBounds_toArray, List.set_cons_zero, List.set_cons_succ]
      refine takeR (fuel := 19) (i := 4) (v := .slice (some ⟨blk, off, none⟩) d.size cap) rfl (by kernel_rfl) (by kernel_rfl) (by kernel_rfl) (fun _ _ _ h => h) (Or.inl ⟨rfl, fun W hW => by go_simp⟩) trivial ?_
      simp only [Act.put, List.setIfInBounds_toArray, List.set_cons_zero, List.set_cons_succ]
      refine takeR (fuel := 18) (i := 5) (v := .int .i64 b) rfl (by kernel_rfl) (by kernel_rfl) (by kernel_rfl) (fun _ _ _ h => h) (Or.inl ⟨rfl, fun W hW => by go_simp⟩) trivial ?_
      simp only [Act.put, List.setIfInBounds_toArray, List.set_cons_zero, List.set_cons_succ]
      refine takeR (fuel := 17) (i := 6) (v := .int .i64 k) rfl (by kernel_rfl) (by kernel_rfl) (by kernel_rfl) (fun _ _ _ h => h) (Or.inl ⟨rfl, fun W hW => by go_simp⟩) trivial ?_
      simp only [Act.put, List.setIfInBounds_toArray, List.set_cons_zero, List.set_cons_succ]
      refine takeR (fuel := 16) (i := 7) (v := .int .i64 B) rfl (by kernel_rfl) (by kernel_rfl) (by kernel_rfl) (fun _ _ _ h => h) (Or.inl ⟨rfl, fun W hW => by go_simp⟩) trivial ?_
      simp only [Act.put, List.setIfInBounds_toArray, List.set_cons_zero, List.set_cons_succ]
      refine takeR (fuel := 15) (i := 8) (v := .slice (some ⟨blk, off, none⟩) d.size cap) rfl (by kernel_rfl) (by kernel_rfl) (by kernel_rfl) (fun _ _ _ h => h) (Or.inl ⟨rfl, fun W hW => by go_simp⟩) trivial ?_
      simp only [Act.put, List.setIfInBounds_toArray, List.set_cons_zero, List.set_cons_succ]
      refine takeR (fuel := 14) (i := 9) (v := .int .i64 b) rfl (by kernel_rfl) (by kernel_rfl) (by kernel_rfl) (fun _ _ _ h => h) (Or.inl ⟨rfl, fun W hW => by go_simp⟩) trivial ?_
      simp only [Act.put, List.setIfInBounds_toArray, List.set_cons_zero, List.set_cons_succ]
      refine takeR (fuel := 13) (i := 10) (v := .int .i64 k) rfl (by kernel_rfl) (by kernel_rfl) (by kernel_rfl) (fun _ _ _ h => h) (Or.inl ⟨rfl, fun W hW => by go_simp⟩) trivial ?_
      simp only [Act.put, List.setIfInBounds_toArray, List.set_cons_zero, List.set_cons_succ]
      refine takeR (fuel := 12) (i := 11) (v := .int .i64 B) rfl (by kernel_rfl) (by kernel_rfl) (by kernel_rfl) (fun _ _ _ h => h) (Or.inl ⟨rfl, fun W hW => by go_simp⟩) trivial ?_
      simp only [Act.put, List.setIfInBounds_toArray, List.set_cons_zero, List.set_cons_succ]
      refine takeR (fuel := 11) (i := 12) (v := .pointer (some ⟨blk, off + B * 9, none⟩)) rfl (by kernel_rfl) (by kernel_rfl) (by kernel_rfl) (fun _ _ _ h => h) (Or.inl ⟨rfl, fun W hW => by go_simp⟩) trivial ?_
      simp only [Act.put, List.setIfInBounds_toArray, List.set_cons_zero, List.set_cons_succ]
      refine takeR (fuel := 10) (i := 14) (v := .slice (some ⟨blk, off, none⟩) d.size cap) rfl (by kernel_rfl) (by kernel_rfl) (by kernel_rfl) (fun _ _ _ h => h) (Or.inl ⟨rfl, fun W hW => by go_simp⟩) trivial ?_
      simp only [Act.put, List.setIfInBounds_toArray, List.set_cons_zero, List.set_cons_succ]
      refine takeR (fuel := 9) (i := 15) (v := .int .i64 a) rfl (by kernel_rfl) (by kernel_rfl) (by kernel_rfl) (fun _ _ _ h => h) (Or.inl ⟨rfl, fun W hW => by go_simp⟩) trivial ?_
      simp only [Act.put, List.setIfInBounds_toArray, List.set_cons_zero, List.set_cons_succ]
      refine takeR (fuel := 8) (i := 16) (v := .int .i64 k) rfl (by kernel_rfl) (by kernel_rfl) (by kernel_rfl) (fun _ _ _ h => h) (Or.inl ⟨rfl, fun W hW => by go_simp⟩) trivial ?_
      simp only [Act.put, List.setIfInBounds_toArray, List.set_cons_zero, List.set_cons_succ]
      refine takeR (fuel := 7) (i := 17) (v := .int .i64 A) rfl (by kernel_rfl) (by kernel_rfl) (by kernel_rfl) (fun _ _ _ h => h) (Or.inl ⟨rfl, fun W hW => by go_simp⟩) trivial ?_
      simp only [Act.put, List.setIfInBounds_toArray, List.set_cons_zero, List.set_cons_succ]
      refine takeR (fuel := 6) (i := 18) (v := .pointer (some ⟨blk, off + A * 9, none⟩)) rfl (by kernel_rfl) (by kernel_rfl) (by kernel_rfl) (fun _ _ _ h => h) (Or.inl ⟨rfl, fun W hW => by go_simp⟩) trivial ?_
      simp only [Act.put, List.setIfInBounds_toArray, List.set_cons_zero, List.set_cons_succ]
      refine consR2 (fuel := 5) (i := 13) (j := 19) rfl rfl (by kernel_rfl) (fun K hK => ?_) (fun K hK => ?_)
      · refine step_load _ rfl _ _ rfl _ (by first | rfl | go_simp) _ l1 ?_
        refine hK.out _ _ trivial (fun _ => ?_)
        clear hK
        try simp only [Act.put, List.setIfInBounds_toArray, List.set_cons_zero, List.set_cons_succ]
        refine consR (fuel := 4) (i := 19) rfl (by kernel_rfl) (fun K hK => ?_)
        refine step_load _ rfl _ _ rfl _ (by first | rfl | go_simp) _ l2 ?_
        refine hK.out _ _ trivial (fun _ => ?_)
        clear hK
        try simp only [Act.put, List.setIfInBounds_toArray, List.set_cons_zero, List.set_cons_succ]
        refine takeR (fuel := 3) (i := 20) (v := .pointer (some ⟨blk, off + A * 9, none⟩)) rfl (by kernel_rfl) (by kernel_rfl) (by kernel_rfl) (fun _ _ _ h => h) (Or.inl ⟨rfl, fun W hW => by go_simp⟩) trivial ?_
        simp only [Act.put, List.setIfInBounds_toArray, List.set_cons_zero, List.set_cons_succ]
        refine consR (fuel := 2) (i := 21) rfl (by kernel_rfl) (fun K hK => ?_)
        refine step_store _ _ rfl _ _ _ rfl _ _ (by first | rfl | go_simp) (by first | rfl | go_simp) s1 ?_
        refine hK.out _ _ trivial (fun _ => ?_)
        clear hK
        try simp only [Act.put, List.setIfInBounds_toArray, List.set_cons_zero, List.set_cons_succ]
        refine takeR (fuel := 1) (i := 22) (v := .pointer (some ⟨blk, off + B * 9, none⟩)) rfl (by kernel_rfl) (by kernel_rfl) (by kernel_rfl) (fun _ _ _ h => h) (Or.inl ⟨rfl, fun W hW => by go_simp⟩) trivial ?_
        simp only [Act.put, List.setIfInBounds_toArray, List.set_cons_zero, List.set_cons_succ]
        refine consR (fuel := 0) (i := 23) rfl (by kernel_rfl) (fun K hK => ?_)
        refine step_store _ _ rfl _ _ _ rfl _ _ (by first | rfl | go_simp) (by first | rfl | go_simp) s2 ?_
        refine hK.out _ _ trivial (fun _ => ?_)
        clear hK
        try simp only [Act.put, List.setIfInBounds_toArray, List.set_cons_zero, List.set_cons_succ]
        refine wpAnyH_done (by kernel_rfl) ?_ _
        go_wp2_with fail
        go_roundw
        case rel => exact ⟨k + 1, swp e A B, by omega, by simp, HW2.out, HZ.out⟩
        case measure => simp [Lib.intOf]; omega
      · refine step_load _ rfl _ _ rfl _ (by first | rfl | go_simp) _ l2 ?_
        refine hK.out _ _ trivial (fun _ => ?_)
        clear hK
        try simp only [Act.put, List.setIfInBounds_toArray, List.set_cons_zero, List.set_cons_succ]
        refine consR (fuel := 4) (i := 13) rfl (by kernel_rfl) (fun K hK => ?_)
        refine step_load _ rfl _ _ rfl _ (by first | rfl | go_simp) _ l1 ?_
        refine hK.out _ _ trivial (fun _ => ?_)
        clear hK
        try simp only [Act.put, List.setIfInBounds_toArray, List.set_cons_zero, List.set_cons_succ]
        refine takeR (fuel := 3) (i := 20) (v := .pointer (some ⟨blk, off + A * 9, none⟩)) rfl (by kernel_rfl) (by kernel_rfl) (by kernel_rfl) (fun _ _ _ h => h) (Or.inl ⟨rfl, fun W hW => by go_simp⟩) trivial ?_
        simp only [Act.put, List.setIfInBounds_toArray, List.set_cons_zero, List.set_cons_succ]
        refine consR (fuel := 2) (i := 21) rfl (by kernel_rfl) (fun K hK => ?_)
        refine step_store _ _ rfl _ _ _ rfl _ _ (by first | rfl | go_simp) (by first | rfl | go_simp) s1 ?_
        refine hK.out _ _ trivial (fun _ => ?_)
        clear hK
        try simp only [Act.put, List.setIfInBounds_toArray, List.set_cons_zero, List.set_cons_succ]
        refine takeR (fuel := 1) (i := 22) (v := .pointer (some ⟨blk, off + B * 9, none⟩)) rfl (by kernel_rfl) (by kernel_rfl) (by kernel_rfl) (fun _ _ _ h => h) (Or.inl ⟨rfl, fun W hW => by go_simp⟩) trivial ?_
        simp only [Act.put, List.setIfInBounds_toArray, List.set_cons_zero, List.set_cons_succ]
        refine consR (fuel := 0) (i := 23) rfl (by kernel_rfl) (fun K hK => ?_)
        refine step_store _ _ rfl _ _ _ rfl _ _ (by first | rfl | go_simp) (by first | rfl | go_simp) s2 ?_
        refine hK.out _ _ trivial (fun _ => ?_)
        clear hK
        try simp only [Act.put, List.setIfInBounds_toArray, List.set_cons_zero, List.set_cons_succ]
        refine wpAnyH_done (by kernel_rfl) ?_ _
        go_wp2_with fail
        go_roundw
        case rel => exact ⟨k + 1, swp e A B, by omega, by simp, HW2.out, HZ.out⟩
        case measure => simp [Lib.intOf]; omega
    · have hkz : ¬ (k : Int) < (m : Int) := by omega
      have HF : Hid (SrP w0 blk off (fun e => SS.Sw a b m d e ∧ PermIn a (b + m) d e) (.returned (.tuple #[])) wr) := ⟨rfl, e, HS.out.1, by rw [show m = k by omega]; exact HS.out.2.1, HS.out.2.2⟩
      clear HS
      go_wp2_with fail
      refine bodyPost_ret (results_none rfl _ _ _) rfl ?_
      exact HF.out
theorem xswapsn {w0 W : World} {blk off cap n : Nat} {d0 d : Array Ei} (R : Ro w0 blk off d0) (hd : d.size = d0.size) (hn : d.size = n) (hW : Sv w0 blk off d W) {a b m : Nat} (ha : a + m ≤ b) (hb : b + m ≤ d.size) :
    Calls Try.prog 117 #[.slice (some ⟨blk, off, none⟩) n cap, .int .i64 a, .int .i64 b, .int .i64 m, .func (.func 49) #[] #[]] W (SrP w0 blk off (fun e => SS.Sw a b m d e ∧ PermIn a (b + m) d e)) := by
  subst hn
  exact xswaps R hd hW ha hb
end
end Go.Proofs.Ytheikjjehidagaa

/- layer 17: the stable sort's turns, by the program -/
namespace Go.Proofs.Ytheikjjehidagaa
open Go.RowKit
set_option linter.unusedVariables false
set_option linter.unusedSimpArgs false
open Go.Sort (grow SWO PermIn SortedIn HoldsK swp permIn_refl permIn_trans permIn_all swp_permIn)
open H5 (It its its_len its_one)
set_option maxRecDepth 20000
set_option linter.unusedSectionVars false
theorem wN {n : Nat} (h : n ≤ 4000000) : wrap64 (n : Int) = n := by unfold wrap64; omega
theorem wK {n : Nat} (h : n ≤ 4000000) : IntKind.i64.wrap (n : Int) = n := by rw [IntKind.wrap_i64]; omega
theorem sub_z {i j k : Nat} (h : k = j - i) (hl : i ≤ j) : (j : Int) - (i : Int) = (k : Int) := by omega
theorem rot_z {m i j B : Nat} (h : B = m + j - i) (hl : i ≤ j) : B + i = m + j ∧ m ≤ B ∧ (m : Int) + (j : Int) - (i : Int) = (B : Int) := by omega
theorem sub_lt' {i j k : Nat} (h : k = j - i) (hl : i < j) (h0 : 0 < i) : i + k < i + j := by omega
theorem rot_a {s m i A : Nat} (h : s + i ≤ m) (hA : A = m - i) : s ≤ A := by omega
theorem rot_b {m i A : Nat} (h : A + i = m) (j : Nat) : A ≤ m + j := by omega
theorem rot_c {m i j e : Nat} (h : m + j ≤ e) (hij : i = j) : m + i ≤ e := by omega
theorem rot_d {m i j A B : Nat} (h : A + i = m) (hB : B + i = m + j) : A ≤ B + i := by omega
section
variable [Inhabited It]
set_option maxHeartbeats 8000000 in
theorem xrot {w0 W : World} {blk off cap n : Nat} {d0 d : Array Ei} (R : Ro w0 blk off d0) (hd : d.size = d0.size) (hn : d.size = n) (hW : Sv w0 blk off d W) {s m e : Nat} (h1 : s < m) (h2 : m < e) (h3 : e ≤ d.size) :
    Calls Try.prog 109 #[.slice (some ⟨blk, off, none⟩) n cap, .int .i64 s, .int .i64 m, .int .i64 e, .func (.func 49) #[] #[]] W (SrP w0 blk off (fun f => SS.Rot s m e d f ∧ PermIn s e d f)) := by
  have hds : d.size ≤ 1000000 := by rw [hd]; exact R.s
  have HR : Hid (Ro w0 blk off d0) := R
  have HH0 : Hid (Sv w0 blk off d W ∧ d.size = d0.size ∧ d.size = n) := ⟨hW, hd, hn⟩
  have hms : (m : Int) - (s : Int) = ((m - s : Nat) : Int) := by omega
  have hem : (e : Int) - (m : Int) = ((e - m : Nat) : Int) := by omega
  have HI0 : Hid (SS.RotI s m e (m - s) (e - m) d d) := SS.RotI.start d h1 h2
  have hI0 : m - s ≤ 1000000 := by omega
  have hJ0 : e - m ≤ 1000000 := by omega
  have hmz : m ≤ 1000000 := by omega
  have he3 : e ≤ d.size := h3
  clear hW hd R hn h1 h2 h3
  generalize m - s = I0 at *
  generalize e - m = J0 at *
  go_enter Try.func109, Try.ntmps109
  go_wp2_with fail
  go_loopw [10, 11] (fun x y wr => ∃ (i j : Nat) (f : Array Ei), x = .int .i64 i ∧ y = .int .i64 j ∧ i ≤ 1000000 ∧ j ≤ 1000000 ∧ Hid (Sv w0 blk off f wr ∧ SS.RotI s m e i j d f ∧ PermIn s e d f))
    (fun x y _ => (Lib.intOf x).toNat + (Lib.intOf y).toNat)
  case atStart => exact ⟨I0, J0, d, by first | rfl | go_num | (congr 1; omega), by first | rfl | go_num | (congr 1; omega), hI0, hJ0, HH0.out.1, HI0.out, permIn_refl d s e⟩
  case round =>
    clear HI0 hms hem hI0 hJ0
    obtain ⟨i, j, f, rfl, rfl, hi, hj, HS⟩ := hrel
    have hf0 : f.size = d0.size := by rw [HS.out.2.1.1]; exact HH0.out.2.1
    have hfn : f.size = n := by rw [HS.out.2.1.1]; exact HH0.out.2.2
    have hfd : f.size = d.size := HS.out.2.1.1
    obtain ⟨b1, b2, b3, b4⟩ := HS.out.2.1.2.1
    have HIJ : Hid (i ≤ 1000000 ∧ j ≤ 1000000) := ⟨hi, hj⟩
    obtain ⟨A, hA⟩ : ∃ A, A = m - i := ⟨_, rfl⟩
    have hiA : A + i = m := by omega
    have hmj1 : m + j ≤ f.size := by rw [hfd]; exact Nat.le_trans b2 he3
    have hAz : (m : Int) - (i : Int) = (A : Int) := by omega
    have hAw : wrap64 (A : Int) = (A : Int) := wN (Nat.le_trans (by rw [← hiA]; exact Nat.le_add_right A i) (Nat.le_trans hmz (by decide)))
    by_cases hij : i = j
    · have hijz : ((i : Int) != (j : Int)) = false := by simp [hij]
      have HC : Hid (Calls Try.prog 117 #[.slice (some ⟨blk, off, none⟩) n cap, .int .i64 A, .int .i64 m, .int .i64 i, .func (.func 49) #[] #[]] wr fun x w' => x = .returned (.tuple #[]) ∧ Hid (SrP w0 blk off (fun f => SS.Rot s m e d f ∧ PermIn s e d f) (.returned (.tuple #[])) w')) := (xswapsn HR.out hf0 hfn HS.out.1 (a := A) (b := m) (m := i) (Nat.le_of_eq hiA) (by rw [hij]; exact hmj1)).mono fun x w' hh => by
        obtain ⟨rfl, g, hg, hsw, hpm⟩ := hh
        refine ⟨rfl, rfl, g, hg, ?_, permIn_trans d f g s e HS.out.2.2 (SS.permIn_wide (rot_a b1 hA) (rot_b hiA i) (rot_c b2 hij) (by rw [hfd]; exact he3) hpm)⟩
        have h1 := HS.out.2.1
        rw [← hij] at h1
        rw [hA] at hsw
        exact h1.done hsw
      clear HS hf0 hfn hfd hA hiA hmj1 b1 b2 b3 b4 hij hi hj hmz he3 hds
      go_wp2_with (go_at_call 117; refine HC.out.mono ?_; clear HC; rintro x w2 ⟨rfl, HZ⟩)
      refine bodyPost_ret (results_none rfl _ _ _) rfl ?_
      exact HZ.out
    · have hijz : ((i : Int) != (j : Int)) = true := by simp; omega
      by_cases hgt : j < i
      · have hgtz : (j : Int) < (i : Int) := by omega
        obtain ⟨i2, hi2⟩ : ∃ i2, i2 = i - j := ⟨_, rfl⟩
        have hi2z : (i : Int) - (j : Int) = (i2 : Int) := by omega
        have hi2b : i2 ≤ 1000000 := by rw [hi2]; exact Nat.le_trans (Nat.sub_le i j) hi
        have hi2w : wrap64 (i2 : Int) = (i2 : Int) := wN (Nat.le_trans hi2b (by decide))
        have HC : Hid (Calls Try.prog 117 #[.slice (some ⟨blk, off, none⟩) n cap, .int .i64 A, .int .i64 m, .int .i64 j, .func (.func 49) #[] #[]] wr fun x w' => x = .returned (.tuple #[]) ∧ ∃ g, Hid (Sv w0 blk off g w' ∧ SS.RotI s m e i2 j d g ∧ PermIn s e d g)) := by
          have q1 : A + j ≤ m := by rw [← hiA]; exact Nat.add_le_add_left (Nat.le_of_lt hgt) A
          refine (xswapsn (cap := cap) HR.out hf0 hfn HS.out.1 q1 hmj1).mono ?_
          rintro x w' ⟨rfl, g, hg, hsw, hpm⟩
          have hp2 := permIn_trans d f g s e HS.out.2.2 (SS.permIn_wide (rot_a b1 hA) (rot_b hiA j) b2 (by rw [hfd]; exact he3) hpm)
          rw [hA] at hsw
          have h1 := HS.out.2.1.left hgt hsw
          rw [← hi2] at h1
          exact ⟨rfl, g, hg, h1, hp2⟩
        have HBd : Hid (i2 ≤ 1000000) := hi2b
        have HLT : Hid (i2 + j < i + j) := by unfold Hid; omega
        clear HS hf0 hfn hfd hA hiA hmj1 b1 b2 b3 b4 hi2 hij hgt hi2b hi hj hmz he3 hds
        go_wp2_with (go_at_call 117; refine HC.out.mono ?_; clear HC; rintro x w2 ⟨rfl, g, HZ⟩)
        go_roundw
        case rel => exact ⟨i2, j, g, congrArg _ hi2w, rfl, HBd.out, HIJ.out.2, HZ.out⟩
        case measure => rw [hi2w]; exact HLT.out
      · have hle : i ≤ j := Nat.le_of_not_lt hgt
        have hlt : i < j := Nat.lt_of_le_of_ne hle hij
        have hgtz : ¬ (j : Int) < (i : Int) := fun h => hgt (Int.ofNat_lt.1 h)
        obtain ⟨j2, hj2⟩ : ∃ j2, j2 = j - i := ⟨_, rfl⟩
        have hj2z : (j : Int) - (i : Int) = (j2 : Int) := sub_z hj2 hle
        have hj2b : j2 ≤ 1000000 := by rw [hj2]; exact Nat.le_trans (Nat.sub_le j i) hj
        have hj2w : wrap64 (j2 : Int) = (j2 : Int) := wN (Nat.le_trans hj2b (by decide))
        obtain ⟨B, hB⟩ : ∃ B, B = m + j - i := ⟨_, rfl⟩
        obtain ⟨hBi, hmB, hBz⟩ := rot_z hB hle
        have hBb : B ≤ 2000000 := by rw [hB]; exact Nat.le_trans (Nat.sub_le (m + j) i) (Nat.add_le_add hmz hj)
        have hBw : wrap64 (B : Int) = (B : Int) := wN (Nat.le_trans hBb (by decide))
        have hmj : wrap64 ((m : Int) + (j : Int)) = (m : Int) + (j : Int) := by
          have := wN (n := m + j) (Nat.le_trans (Nat.add_le_add hmz hj) (by decide))
          rwa [Int.natCast_add] at this
        have HC : Hid (Calls Try.prog 117 #[.slice (some ⟨blk, off, none⟩) n cap, .int .i64 A, .int .i64 B, .int .i64 i, .func (.func 49) #[] #[]] wr fun x w' => x = .returned (.tuple #[]) ∧ ∃ g, Hid (Sv w0 blk off g w' ∧ SS.RotI s m e i j2 d g ∧ PermIn s e d g)) := (xswapsn HR.out hf0 hfn HS.out.1 (a := A) (b := B) (m := i) (by rw [hiA]; exact hmB) (by rw [hBi]; exact hmj1)).mono fun x w' hh => by
          obtain ⟨rfl, g, hg, hsw, hpm⟩ := hh
          have hp2 := permIn_trans d f g s e HS.out.2.2 (SS.permIn_wide (rot_a b1 hA) (rot_d hiA hBi) (by rw [hBi]; exact b2) (by rw [hfd]; exact he3) hpm)
          rw [hA, hB] at hsw
          rw [hj2]
          exact ⟨rfl, g, hg, HS.out.2.1.right hlt hsw, hp2⟩
        have HBd : Hid (j2 ≤ 1000000) := hj2b
        have HLT : Hid (i + j2 < i + j) := sub_lt' hj2 hlt b3
        clear HS hf0 hfn hfd hA hiA hmj1 b1 b2 b3 b4 hj2 hB hle hlt hij hgt hBi hmB hj2b hi hj hmz he3 hds hBb
        go_wp2_with (go_at_call 117; refine HC.out.mono ?_; clear HC; rintro x w2 ⟨rfl, g, HZ⟩)
        go_roundw
        case rel => exact ⟨i, j2, g, rfl, congrArg _ hj2w, HIJ.out.1, HBd.out, HZ.out⟩
        case measure => rw [hj2w]; exact HLT.out
end
end Go.Proofs.Ytheikjjehidagaa

/- layer 17: two runs merged, by the program -/
namespace Go.Proofs.Ytheikjjehidagaa
open Go.RowKit
set_option linter.unusedVariables false
set_option linter.unusedSimpArgs false
open Go.Sort (grow SWO PermIn SortedIn HoldsK swp permIn_refl permIn_trans permIn_all swp_permIn)
open H5 (It its its_len its_one)
set_option maxRecDepth 20000
set_option linter.unusedSectionVars false
theorem mid_z {i j h : Nat} (e : h = (i + j) / 2) (hl : i < j) : ((i : Int) + (j : Int)) / 2 = (h : Int) ∧ i ≤ h ∧ h < j := by omega
theorem le_tr3 {a b c d : Nat} (h1 : a ≤ b) (h2 : b ≤ c) (h3 : c ≤ d) : a ≤ d := by omega
theorem up_lt {k s : Nat} (h : k + 1 < s) : s - (k + 1 + 1) < s - (k + 1) := by omega
theorem fnd_up {Q : Nat → Prop} {lo hi i j h : Nat} (h1 : lo ≤ i) (h2 : i ≤ h) (h3 : h < j) (h4 : j ≤ hi) (hq : Q h) (hj : j < hi → ¬ Q j) : lo ≤ h + 1 ∧ h + 1 ≤ j ∧ j ≤ hi ∧ (lo < h + 1 → Q (h + 1 - 1)) ∧ (j < hi → ¬ Q j) := ⟨by omega, by omega, h4, fun _ => hq, hj⟩
theorem fnd_dn {Q : Nat → Prop} {lo hi i j h : Nat} (h1 : lo ≤ i) (h2 : i ≤ h) (h3 : h < j) (h4 : j ≤ hi) (hq : ¬ Q h) (hi' : lo < i → Q (i - 1)) : lo ≤ i ∧ i ≤ h ∧ h ≤ hi ∧ (lo < i → Q (i - 1)) ∧ (h < hi → ¬ Q h) := ⟨h1, h2, by omega, hi', fun _ => hq⟩
/-- a search by halves under way -/
def Srh (Q : Nat → Prop) (lo hi i j : Nat) : Prop := lo ≤ i ∧ i ≤ j ∧ j ≤ hi ∧ (lo < i → Q (i - 1)) ∧ (j < hi → ¬ Q j)
theorem Srh.start {Q : Nat → Prop} {lo hi : Nat} (h : lo ≤ hi) : Srh Q lo hi lo hi := ⟨Nat.le_refl _, h, Nat.le_refl _, fun h => absurd h (Nat.lt_irrefl _), fun h => absurd h (Nat.lt_irrefl _)⟩
theorem Srh.up {Q : Nat → Prop} {lo hi i j h : Nat} (s : Srh Q lo hi i j) (h2 : i ≤ h) (h3 : h < j) (hq : Q h) : Srh Q lo hi (h + 1) j := ⟨Nat.le_trans s.1 (Nat.le_succ_of_le h2), h3, s.2.2.1, fun _ => hq, s.2.2.2.2⟩
theorem Srh.dn {Q : Nat → Prop} {lo hi i j h : Nat} (s : Srh Q lo hi i j) (h2 : i ≤ h) (h3 : h < j) (hq : ¬ Q h) : Srh Q lo hi i h := ⟨s.1, h2, Nat.le_trans (Nat.le_of_lt h3) s.2.2.1, s.2.2.2.1, fun _ => hq⟩
theorem Srh.fnd {Q : Nat → Prop} {lo hi i j : Nat} (s : Srh Q lo hi i j) (h : ¬ i < j) : SS.Fnd Q lo hi i := by
  obtain ⟨h1, h2, h3, h4, h5⟩ := s
  have e : i = j := Nat.le_antisymm h2 (Nat.le_of_not_lt h)
  subst e
  exact ⟨h1, h3, h4, h5⟩
theorem num_l {a m b i j H n : Nat} {Q : Nat → Prop} (h1 : m = a + 1) (h3 : b ≤ n) (h4 : n ≤ 1000000) (s : Srh Q m b i j) (h : H < j) : H < n ∧ a < n ∧ i + j ≤ 4000000 := by
  obtain ⟨s1, s2, s3, _⟩ := s
  omega
theorem num_l2 {a m b i I1 n : Nat} (h : I1 = i - 1) (h1 : m = a + 1) (h3 : b ≤ n) (h4 : n ≤ 1000000) (h5 : m ≤ i) (h6 : i ≤ b) : (i : Int) - 1 = (I1 : Int) ∧ I1 ≤ 4000000 ∧ i ≤ b ∧ a ≤ I1 := by omega
theorem num_l3 {b i k I1 K1 n e : Nat} (h : K1 = k + 1) (he : e = n) (h3 : b ≤ n) (h4 : n ≤ 1000000) (hk : k < I1) (h5 : I1 + 1 = i) (h6 : i ≤ b) : (k : Int) + 1 = (K1 : Int) ∧ k < e ∧ K1 < e ∧ K1 ≤ 4000000 := by omega
theorem num_l4 {a b i k I1 K1 n e : Nat} (h : K1 = k + 1) (he : e = n) (hk : k < I1) (h5 : I1 + 1 = i) (h6 : i ≤ b) (h3 : b ≤ n) (h7 : a ≤ k) : k < b ∧ a ≤ K1 ∧ K1 < b ∧ b ≤ e := by omega
theorem num_r0 {a m b : Nat} (h0 : a + 1 < m) (h1 : b = m + 1) (h : b ≤ 1000000) : ∃ D : Nat, (m : Int) - (a : Int) = (D : Int) ∧ wrap64 (D : Int) = (D : Int) ∧ ((D : Int) == 1) = false ∧ (b : Int) - (m : Int) = 1 := by
  refine ⟨m - a, by omega, by unfold wrap64; omega, ?_, by omega⟩
  rw [beq_eq_false_iff_ne]
  omega
theorem num_r {a m b i j H n : Nat} {Q : Nat → Prop} (h1 : b = m + 1) (h3 : b ≤ n) (h4 : n ≤ 1000000) (s : Srh Q a m i j) (h : H < j) : H < n ∧ m < n ∧ i + j ≤ 4000000 := by
  obtain ⟨s1, s2, s3, _⟩ := s
  omega
theorem num_r1 {i K : Nat} (h : i < K) : K - 1 + 1 = K := by omega
theorem num_r3 {b m k K1 n e : Nat} (h : k + 1 = K1) (he : e = n) (h1 : b = m + 1) (h3 : b ≤ n) (h4 : n ≤ 1000000) (h5 : K1 ≤ m) : (K1 : Int) - 1 = (k : Int) ∧ k < e ∧ K1 < e ∧ k ≤ 4000000 := by omega
theorem num_r4 {a b m i k K1 n e : Nat} (h : k + 1 = K1) (he : e = n) (hk : i < K1) (h0 : a ≤ i) (h5 : K1 ≤ m) (h1 : b = m + 1) (h3 : b ≤ n) : a ≤ K1 ∧ K1 < b ∧ a ≤ k ∧ k < b ∧ b ≤ e ∧ i ≤ k ∧ k ≤ m ∧ m < n := by omega
theorem mid_w {i j h : Nat} (e : h = (i + j) / 2) (hb : i + j ≤ 4000000) : wrap64 (IntKind.u64.wrap (wrap64 ((i : Int) + (j : Int))) / 2) = (h : Int) := by
  have h1 : wrap64 ((i : Int) + (j : Int)) = ((i + j : Nat) : Int) := by unfold wrap64; omega
  rw [h1]
  have h2 : IntKind.u64.wrap ((i + j : Nat) : Int) = ((i + j : Nat) : Int) := IntWalk.u64_in _ (by omega)
  rw [h2]
  unfold wrap64
  omega
theorem wN1 {n : Nat} (h : n ≤ 1000000) : wrap64 ((n : Int) + 1) = ((n + 1 : Nat) : Int) := by unfold wrap64; omega
theorem ms_up {i j H : Nat} (h1 : i ≤ H) (h2 : H < j) : j - (H + 1) < j - i := by omega
theorem ms_dn {i j H : Nat} (h1 : i ≤ H) (h2 : H < j) : H - i < j - i := by omega
theorem ms_k {k K1 I1 : Nat} (h : K1 = k + 1) (hk : k < I1) : I1 - K1 < I1 - k := by omega
section
variable [Inhabited It]
/-- a row loaded, in a world of the sort's -/
theorem Sv.ld {w0 : World} {blk off : Nat} {d0 d : Array Ei} (R : Ro w0 blk off d0) (hd : d.size = d0.size) {i : Nat} (hi : i < d.size) : ∀ W, Sv w0 blk off d W → (Instr.loadAt 47 (.pointer (some ⟨blk, off + i * 9, none⟩))).run Try.prog W = .ok (.agg (ies d[i]!).toArray) W := fun W h => ld47 (SWK.load h R.r hd Try.prog i hi)
theorem Sv.cmp {w0 : World} {blk off : Nat} {d : Array Ei} (x y : Ei) : ∀ W, Sv w0 blk off d W → Calls Try.prog 49 #[.agg (ies x).toArray, .agg (ies y).toArray] W fun e w' => e = .returned (.int .i64 (cfE x y)) ∧ Hid (Sv w0 blk off d w') := fun W h => (xrank x.1 y.1 W).mono fun e w' hh => by
  obtain ⟨rfl, q, os, rfl⟩ := hh
  exact ⟨rfl, SWK.grown h q os⟩
/-- an exchange of neighbours -/
theorem Sv.swap2 {w0 W : World} {blk off : Nat} {d0 e : Array Ei} (R : Ro w0 blk off d0) (hs : e.size = d0.size) (h : Sv w0 blk off e W) {A B : Nat} (hA : A < e.size) (hB : B < e.size) :
    ∃ w1 w2, (Instr.loadAt 47 (.pointer (some ⟨blk, off + B * 9, none⟩))).run Try.prog W.drew = .ok (.agg (ies e[B]!).toArray) W.drew ∧ (Instr.loadAt 47 (.pointer (some ⟨blk, off + A * 9, none⟩))).run Try.prog W.drew = .ok (.agg (ies e[A]!).toArray) W.drew ∧
      (Instr.storeAt 47 (.pointer (some ⟨blk, off + A * 9, none⟩)) (.agg (ies e[B]!).toArray)).run Try.prog W.drew = .ok () w1 ∧ (Instr.storeAt 47 (.pointer (some ⟨blk, off + B * 9, none⟩)) (.agg (ies e[A]!).toArray)).run Try.prog w1 = .ok () w2 ∧ Sv w0 blk off (swp e A B) w2 :=
  ⟨_, _, ld47 (h.ld1 R.r hs Try.prog B hB), ld47 (h.ld1 R.r hs Try.prog A hA), st47 (h.st1 R.r hs Try.prog A hA e[B]!) rfl, st47 (h.st2 R.r hs Try.prog A B hA hB e[B]! e[A]!) rfl, h.swapped R.r A B hA hB⟩
set_option maxHeartbeats 8000000 in
theorem xsymL {w0 W : World} {blk off cap n : Nat} {d0 d : Array Ei} (R : Ro w0 blk off d0) (hd : d.size = d0.size) (hn : d.size = n) (hW : Sv w0 blk off d W) {a m b : Nat} (h1 : m = a + 1) (h2 : m < b) (h3 : b ≤ d.size) :
    Calls Try.prog 97 #[.slice (some ⟨blk, off, none⟩) n cap, .int .i64 a, .int .i64 m, .int .i64 b, .func (.func 49) #[] #[]] W (SrP w0 blk off (SS.SmP ltI a m b d)) := by
  have mixed := Try.ins20.mixed
  have HR : Hid (Ro w0 blk off d0) := R
  have hds : d.size ≤ 1000000 := by rw [hd]; exact R.s
  have HH0 : Hid (Sv w0 blk off d W ∧ d.size = d0.size ∧ d.size = n) := ⟨hW, hd, hn⟩
  have HN : Hid (m = a + 1 ∧ m < b ∧ b ≤ d.size ∧ d.size ≤ 1000000) := ⟨h1, h2, h3, hds⟩
  have hmz : (m : Int) - (a : Int) = 1 := by omega
  clear hW hd R hn hds h1 h2 h3
  go_enter Try.func97, Try.ntmps97
  go_wp2_with fail
  go_loopw [10, 11] (fun x y wr => ∃ (i j : Nat), x = .int .i64 i ∧ y = .int .i64 j ∧ Hid (Sv w0 blk off d wr ∧ Srh (fun h => ltI d[h]!.1 d[a]!.1 = true) m b i j))
    (fun x y _ => (Lib.intOf y).toNat - (Lib.intOf x).toNat)
  case atStart => exact ⟨m, b, rfl, rfl, HH0.out.1, Srh.start (Nat.le_of_lt HN.out.2.1)⟩
  case round =>
    obtain ⟨i, j, rfl, rfl, HS⟩ := hrel
    by_cases hij : i < j
    · have hijz : (i : Int) < (j : Int) := Int.ofNat_lt.2 hij
      obtain ⟨H, hH⟩ : ∃ H, H = (i + j) / 2 := ⟨_, rfl⟩
      obtain ⟨hHz, hH1, hH2⟩ := mid_z hH hij
      have HSV : Hid (Sv w0 blk off d wr) := HS.out.1
      obtain ⟨q1, q2, q3⟩ := num_l HN.out.1 HN.out.2.2.1 HN.out.2.2.2 HS.out.2 hH2
      have hHw := mid_w hH q3
      have hHs : wrap64 ((H : Int) + 1) = ((H + 1 : Nat) : Int) := wN1 (Nat.le_trans (Nat.le_of_lt q1) HN.out.2.2.2)
      have hHn : (H : Int) < (n : Int) := by rw [← HH0.out.2.2]; exact Int.ofNat_lt.2 q1
      have han : (a : Int) < (n : Int) := by rw [← HH0.out.2.2]; exact Int.ofNat_lt.2 q2
      have LX := hid_in (Sv.ld HR.out HH0.out.2.1 q1)
      have LY := hid_in (Sv.ld HR.out HH0.out.2.1 q2)
      have HCMP : Hid (∀ W, Sv w0 blk off d W → Calls Try.prog 49 #[.agg (ies d[H]!).toArray, .agg (ies d[a]!).toArray] W fun e w' => e = .returned (.int .i64 (cfE d[H]! d[a]!)) ∧ Hid (Sv w0 blk off d w')) := Sv.cmp d[H]! d[a]!
      by_cases hC : cfE d[H]! d[a]! < 0
      · have HZ : Hid (Srh (fun h => ltI d[h]!.1 d[a]!.1 = true) m b (H + 1) j) := HS.out.2.up hH1 hH2 (by rw [← cfI_lt]; exact decide_eq_true hC)
        have HM : Hid (j - (H + 1) < j - i) := ms_up hH1 hH2
        clear HS hij hH hHz hH1 hH2 q1 q2 q3
        generalize cfE d[H]! d[a]! = C at *
        generalize ies d[H]! = cX at *
        generalize ies d[a]! = cY at *
        go_upto_region 5 with fail
        refine wp_region_held (S := Sv w0 blk off d) (by kernel_rfl) ?_
        change wpAnyH _ _ _ _ _ 11 #[false, false, false, false, false, false, false, false, false, false, false] _ wr.drew
        have hS0 : Sv w0 blk off d wr.drew := HSV.out.drew
        refine takeR (fuel := 10) (i := 0) (v := .func (.func 49) #[] #[]) rfl (by kernel_rfl) (by kernel_rfl) (by kernel_rfl) (fun _ _ _ h => h) (Or.inl ⟨rfl, fun W hW => by go_simp⟩) hS0 ?_
        simp only [Act.put, List.setIfInBounds_toArray, List.set_cons_zero, List.set_cons_succ]
        refine takeR (fuel := 9) (i := 1) (v := .slice (some ⟨blk, off, none⟩) n cap) rfl (by kernel_rfl) (by kernel_rfl) (by kernel_rfl) (fun _ _ _ h => h) (Or.inl ⟨rfl, fun W hW => by go_simp⟩) hS0 ?_
        simp only [Act.put, List.setIfInBounds_toArray, List.set_cons_zero, List.set_cons_succ]
        refine takeR (fuel := 8) (i := 2) (v := .int .i64 H) rfl (by kernel_rfl) (by kernel_rfl) (by kernel_rfl) (fun _ _ _ h => h) (Or.inl ⟨rfl, fun W hW => by go_simp⟩) hS0 ?_
        simp only [Act.put, List.setIfInBounds_toArray, List.set_cons_zero, List.set_cons_succ]
        refine takeR (fuel := 7) (i := 3) (v := .pointer (some ⟨blk, off + H * 9, none⟩)) rfl (by kernel_rfl) (by kernel_rfl) (by kernel_rfl) (fun _ _ _ h => h) (Or.inl ⟨rfl, fun W hW => by go_simp⟩) hS0 ?_
        simp only [Act.put, List.setIfInBounds_toArray, List.set_cons_zero, List.set_cons_succ]
        refine takeR (fuel := 6) (i := 4) (v := .agg cX.toArray) rfl (by kernel_rfl) (by kernel_rfl) (by kernel_rfl) (fun _ _ _ h => h) (Or.inl ⟨rfl, fun W hW => exl _ _ _ _ rfl (.pointer (some ⟨blk, off + H * 9, none⟩)) _ rfl (LX.out W hW)⟩) hS0 ?_
        simp only [Act.put, List.setIfInBounds_toArray, List.set_cons_zero, List.set_cons_succ]
        refine takeR (fuel := 5) (i := 5) (v := .slice (some ⟨blk, off, none⟩) n cap) rfl (by kernel_rfl) (by kernel_rfl) (by kernel_rfl) (fun _ _ _ h => h) (Or.inl ⟨rfl, fun W hW => by go_simp⟩) hS0 ?_
        simp only [Act.put, List.setIfInBounds_toArray, List.set_cons_zero, List.set_cons_succ]
        refine takeR (fuel := 4) (i := 6) (v := .int .i64 a) rfl (by kernel_rfl) (by kernel_rfl) (by kernel_rfl) (fun _ _ _ h => h) (Or.inl ⟨rfl, fun W hW => by go_simp⟩) hS0 ?_
        simp only [Act.put, List.setIfInBounds_toArray, List.set_cons_zero, List.set_cons_succ]
        refine takeR (fuel := 3) (i := 7) (v := .pointer (some ⟨blk, off + a * 9, none⟩)) rfl (by kernel_rfl) (by kernel_rfl) (by kernel_rfl) (fun _ _ _ h => h) (Or.inl ⟨rfl, fun W hW => by go_simp⟩) hS0 ?_
        simp only [Act.put, List.setIfInBounds_toArray, List.set_cons_zero, List.set_cons_succ]
        refine takeR (fuel := 2) (i := 8) (v := .agg cY.toArray) rfl (by kernel_rfl) (by kernel_rfl) (by kernel_rfl) (fun _ _ _ h => h) (Or.inl ⟨rfl, fun W hW => exl _ _ _ _ rfl (.pointer (some ⟨blk, off + a * 9, none⟩)) _ rfl (LY.out W hW)⟩) hS0 ?_
        simp only [Act.put, List.setIfInBounds_toArray, List.set_cons_zero, List.set_cons_succ]
        refine consR (fuel := 1) (i := 9) rfl (by kernel_rfl) (fun K hK => ?_)
        rw [if_pos (by rfl)]
        go_simp
        refine (HCMP.out _ hS0).mono ?_
        rintro x v1 ⟨rfl, HV1⟩
        refine hK.out _ _ HV1.out (fun hS1 => ?_)
        clear hK
        try simp only [Act.put, List.setIfInBounds_toArray, List.set_cons_zero, List.set_cons_succ]
        refine takeR (fuel := 0) (i := 10) (v := .bool true) rfl (by kernel_rfl) (by kernel_rfl) (by kernel_rfl) (fun _ _ _ h => h) (Or.inl ⟨rfl, fun W hW => by go_simp⟩) hS1 ?_
        simp only [Act.put, List.setIfInBounds_toArray, List.set_cons_zero, List.set_cons_succ]
        refine wpAnyH_done (by kernel_rfl) ?_ _
        go_wp2_with fail
        go_roundw
        case rel => exact ⟨H + 1, j, by first | rfl | exact congrArg _ hHs, rfl, HV1.out, HZ.out⟩
        case measure => first | exact HM.out | (rw [hHs]; exact HM.out)
      · have HZ : Hid (Srh (fun h => ltI d[h]!.1 d[a]!.1 = true) m b i H) := HS.out.2.dn hH1 hH2 (by show ¬ ltI d[H]!.1 d[a]!.1 = true; rw [← cfI_lt]; intro h; exact hC (of_decide_eq_true h))
        have HM : Hid (H - i < j - i) := ms_dn hH1 hH2
        clear HS hij hH hHz hH1 hH2 q1 q2 q3
        generalize cfE d[H]! d[a]! = C at *
        generalize ies d[H]! = cX at *
        generalize ies d[a]! = cY at *
        go_upto_region 5 with fail
        refine wp_region_held (S := Sv w0 blk off d) (by kernel_rfl) ?_
        change wpAnyH _ _ _ _ _ 11 #[false, false, false, false, false, false, false, false, false, false, false] _ wr.drew
        have hS0 : Sv w0 blk off d wr.drew := HSV.out.drew
        refine takeR (fuel := 10) (i := 0) (v := .func (.func 49) #[] #[]) rfl (by kernel_rfl) (by kernel_rfl) (by kernel_rfl) (fun _ _ _ h => h) (Or.inl ⟨rfl, fun W hW => by go_simp⟩) hS0 ?_
        simp only [Act.put, List.setIfInBounds_toArray, List.set_cons_zero, List.set_cons_succ]
        refine takeR (fuel := 9) (i := 1) (v := .slice (some ⟨blk, off, none⟩) n cap) rfl (by kernel_rfl) (by kernel_rfl) (by kernel_rfl) (fun _ _ _ h => h) (Or.inl ⟨rfl, fun W hW => by go_simp⟩) hS0 ?_
        simp only [Act.put, List.setIfInBounds_toArray, List.set_cons_zero, List.set_cons_succ]
        refine takeR (fuel := 8) (i := 2) (v := .int .i64 H) rfl (by kernel_rfl) (by kernel_rfl) (by kernel_rfl) (fun _ _ _ h => h) (Or.inl ⟨rfl, fun W hW => by go_simp⟩) hS0 ?_
        simp only [Act.put, List.setIfInBounds_toArray, List.set_cons_zero, List.set_cons_succ]
        refine takeR (fuel := 7) (i := 3) (v := .pointer (some ⟨blk, off + H * 9, none⟩)) rfl (by kernel_rfl) (by kernel_rfl) (by kernel_rfl) (fun _ _ _ h => h) (Or.inl ⟨rfl, fun W hW => by go_simp⟩) hS0 ?_
        simp only [Act.put, List.setIfInBounds_toArray, List.set_cons_zero, List.set_cons_succ]
        refine takeR (fuel := 6) (i := 4) (v := .agg cX.toArray) rfl (by kernel_rfl) (by kernel_rfl) (by kernel_rfl) (fun _ _ _ h => h) (Or.inl ⟨rfl, fun W hW => exl _ _ _ _ rfl (.pointer (some ⟨blk, off + H * 9, none⟩)) _ rfl (LX.out W hW)⟩) hS0 ?_
        simp only [Act.put, List.setIfInBounds_toArray, List.set_cons_zero, List.set_cons_succ]
        refine takeR (fuel := 5) (i := 5) (v := .slice (some ⟨blk, off, none⟩) n cap) rfl (by kernel_rfl) (by kernel_rfl) (by kernel_rfl) (fun _ _ _ h => h) (Or.inl ⟨rfl, fun W hW => by go_simp⟩) hS0 ?_
        simp only [Act.put, List.setIfInBounds_toArray, List.set_cons_zero, List.set_cons_succ]
        refine takeR (fuel := 4) (i := 6) (v := .int .i64 a) rfl (by kernel_rfl) (by kernel_rfl) (by kernel_rfl) (fun _ _ _ h => h) (Or.inl ⟨rfl, fun W hW => by go_simp⟩) hS0 ?_
        simp only [Act.put, List.setIfInBounds_toArray, List.set_cons_zero, List.set_cons_succ]
        refine takeR (fuel := 3) (i := 7) (v := .pointer (some ⟨blk, off + a * 9, none⟩)) rfl (by kernel_rfl) (by kernel_rfl) (by kernel_rfl) (fun _ _ _ h => h) (Or.inl ⟨rfl, fun W hW => by go_simp⟩) hS0 ?_
        simp only [Act.put, List.setIfInBounds_toArray, List.set_cons_zero, List.set_cons_succ]
        refine takeR (fuel := 2) (i := 8) (v := .agg cY.toArray) rfl (by kernel_rfl) (by kernel_rfl) (by kernel_rfl) (fun _ _ _ h => h) (Or.inl ⟨rfl, fun W hW => exl _ _ _ _ rfl (.pointer (some ⟨blk, off + a * 9, none⟩)) _ rfl (LY.out W hW)⟩) hS0 ?_
        simp only [Act.put, List.setIfInBounds_toArray, List.set_cons_zero, List.set_cons_succ]
        refine consR (fuel := 1) (i := 9) rfl (by kernel_rfl) (fun K hK => ?_)
        rw [if_pos (by rfl)]
        go_simp
        refine (HCMP.out _ hS0).mono ?_
        rintro x v1 ⟨rfl, HV1⟩
        refine hK.out _ _ HV1.out (fun hS1 => ?_)
        clear hK
        try simp only [Act.put, List.setIfInBounds_toArray, List.set_cons_zero, List.set_cons_succ]
        refine takeR (fuel := 0) (i := 10) (v := .bool false) rfl (by kernel_rfl) (by kernel_rfl) (by kernel_rfl) (fun _ _ _ h => h) (Or.inl ⟨rfl, fun W hW => by go_simp⟩) hS1 ?_
        simp only [Act.put, List.setIfInBounds_toArray, List.set_cons_zero, List.set_cons_succ]
        refine wpAnyH_done (by kernel_rfl) ?_ _
        go_wp2_with fail
        go_roundw
        case rel => exact ⟨i, H, rfl, by first | rfl | exact congrArg _ hHw, HV1.out, HZ.out⟩
        case measure => first | exact HM.out | (rw [hHw]; exact HM.out)
    · have hijz : ¬ (i : Int) < (j : Int) := fun h => hij (Int.ofNat_lt.1 h)
      have HF := hid_in (HS.out.2.fnd hij)
      obtain ⟨I1, hI1⟩ : ∃ I1, I1 = i - 1 := ⟨_, rfl⟩
      obtain ⟨hI1z, hI1b, hib, haI⟩ := num_l2 hI1 HN.out.1 HN.out.2.2.1 HN.out.2.2.2 HF.out.1 HF.out.2.1
      have hI1w : wrap64 (I1 : Int) = (I1 : Int) := wN hI1b
      have HU0 : Hid (Sv w0 blk off d wr ∧ SS.Up a (a + 1) d d ∧ PermIn a b d d ∧ a ≤ I1) := ⟨HS.out.1, SS.Up.start a d, permIn_refl d a b, haI⟩
      have HI1 : Hid (I1 + 1 = i ∧ i ≤ b) := ⟨by omega, hib⟩
      clear HS hij hI1 hI1b hib haI
      go_wp2_with fail
      go_loopw [13] (fun x wr => ∃ (k : Nat) (e : Array Ei), x = .int .i64 k ∧ Hid (Sv w0 blk off e wr ∧ SS.Up a (k + 1) d e ∧ PermIn a b d e ∧ k ≤ I1 ∧ a ≤ k))
        (fun x _ => I1 - (Lib.intOf x).toNat)
      case atStart => exact ⟨a, d, rfl, HU0.out.1, HU0.out.2.1, HU0.out.2.2.1, HU0.out.2.2.2, Nat.le_refl _⟩
      case round =>
        clear HU0
        obtain ⟨k, e, rfl, HS⟩ := hrel
        by_cases hk : k < I1
        · have hkz : (k : Int) < (I1 : Int) := Int.ofNat_lt.2 hk
          obtain ⟨K1, hK1⟩ : ∃ K1, K1 = k + 1 := ⟨_, rfl⟩
          have hse : e.size = d.size := HS.out.2.1.1
          obtain ⟨hK1z, hkn, hK1n, hK1b⟩ := num_l3 hK1 hse HN.out.2.2.1 HN.out.2.2.2 hk HI1.out.1 HI1.out.2
          have hK1w : wrap64 (K1 : Int) = (K1 : Int) := wN hK1b
          have hK1v : IntKind.i64.wrap (K1 : Int) = (K1 : Int) := wK hK1b
          have hen : e.size = n := hse.trans HH0.out.2.2
          have hknz : (k : Int) < (n : Int) := by rw [← hen]; exact Int.ofNat_lt.2 hkn
          have hK1nz : (K1 : Int) < (n : Int) := by rw [← hen]; exact Int.ofNat_lt.2 hK1n
          obtain ⟨w1, w2, l1, l2, s1, s2, hv⟩ := HS.out.1.swap2 HR.out (hse.trans HH0.out.2.1) hkn hK1n
          have HZ : Hid (Sv w0 blk off (swp e k K1) w2 ∧ SS.Up a (K1 + 1) d (swp e k K1) ∧ PermIn a b d (swp e k K1) ∧ K1 ≤ I1 ∧ a ≤ K1) := by
            obtain ⟨z1, z2, z3, z4⟩ := num_l4 hK1 hse hk HI1.out.1 HI1.out.2 HN.out.2.2.1 HS.out.2.2.2.2
            refine ⟨hv, ?_, permIn_trans d e _ a b HS.out.2.2.1 (swp_permIn e a b k K1 HS.out.2.2.2.2 z1 z2 z3 z4), by rw [hK1]; exact hk, by rw [hK1]; exact Nat.le_succ_of_le HS.out.2.2.2.2⟩
            rw [hK1]
            exact HS.out.2.1.step HS.out.2.2.2.2 (by rw [← hse, ← hK1]; exact hK1n)
          have HM : Hid (I1 - K1 < I1 - k) := ms_k hK1 hk
          clear HS hse hkn hK1n hen hK1b hv hk hK1
          generalize ies e[K1]! = cB at *
          generalize ies e[k]! = cA at *
          go_upto_region 11 with fail
          refine wp_region_held (S := fun _ => True) (by kernel_rfl) ?_
          change wpAnyH _ _ _ _ _ 18 #[false, false, false, false, false, false, false, false, false, false, false, false, false, false, false, false, false, false] _ wr.drew
          refine takeR (fuel := 17) (i := 0) (v := .slice (some ⟨blk, off, none⟩) n cap) rfl (by kernel_rfl) (by kernel_rfl) (by kernel_rfl) (fun _ _ _ h => h) (Or.inl ⟨rfl, fun W hW => by go_simp⟩) trivial ?_
          simp only [Act.put, List.setIfInBounds_toArray, List.set_cons_zero, List.set_cons_succ]
          refine takeR (fuel := 16) (i := 1) (v := .int .i64 k) rfl (by kernel_rfl) (by kernel_rfl) (by kernel_rfl) (fun _ _ _ h => h) (Or.inl ⟨rfl, fun W hW => by go_simp⟩) trivial ?_
          simp only [Act.put, List.setIfInBounds_toArray, List.set_cons_zero, List.set_cons_succ]
          refine takeR (fuel := 15) (i := 2) (v := .slice (some ⟨blk, off, none⟩) n cap) rfl (by kernel_rfl) (by kernel_rfl) (by kernel_rfl) (fun _ _ _ h => h) (Or.inl ⟨rfl, fun W hW => by go_simp⟩) trivial ?_
          simp only [Act.put, List.setIfInBounds_toArray, List.set_cons_zero, List.set_cons_succ]
          refine takeR (fuel := 14) (i := 3) (v := .int .i64 k) rfl (by kernel_rfl) (by kernel_rfl) (by kernel_rfl) (fun _ _ _ h => h) (Or.inl ⟨rfl, fun W hW => by go_simp⟩) trivial ?_
          simp only [Act.put, List.setIfInBounds_toArray, List.set_cons_zero, List.set_cons_succ]
          refine takeR (fuel := 13) (i := 4) (v := .int .i64 K1) rfl (by kernel_rfl) (by kernel_rfl) (by kernel_rfl) (fun _ _ _ h => h) (Or.inl ⟨rfl, fun W hW => by go_simp⟩) trivial ?_
          simp only [Act.put, List.setIfInBounds_toArray, List.set_cons_zero, List.set_cons_succ]
          refine takeR (fuel := 12) (i := 5) (v := .slice (some ⟨blk, off, none⟩) n cap) rfl (by kernel_rfl) (by kernel_rfl) (by kernel_rfl) (fun _ _ _ h => h) (Or.inl ⟨rfl, fun W hW => by go_simp⟩) trivial ?_
          simp only [Act.put, List.setIfInBounds_toArray, List.set_cons_zero, List.set_cons_succ]
          refine takeR (fuel := 11) (i := 6) (v := .int .i64 k) rfl (by kernel_rfl) (by kernel_rfl) (by kernel_rfl) (fun _ _ _ h => h) (Or.inl ⟨rfl, fun W hW => by go_simp⟩) trivial ?_
          simp only [Act.put, List.setIfInBounds_toArray, List.set_cons_zero, List.set_cons_succ]
          refine takeR (fuel := 10) (i := 7) (v := .int .i64 K1) rfl (by kernel_rfl) (by kernel_rfl) (by kernel_rfl) (fun _ _ _ h => h) (Or.inl ⟨rfl, fun W hW => by go_simp⟩) trivial ?_
          simp only [Act.put, List.setIfInBounds_toArray, List.set_cons_zero, List.set_cons_succ]
          refine takeR (fuel := 9) (i := 8) (v := .pointer (some ⟨blk, off + K1 * 9, none⟩)) rfl (by kernel_rfl) (by kernel_rfl) (by kernel_rfl) (fun _ _ _ h => h) (Or.inl ⟨rfl, fun W hW => by go_simp⟩) trivial ?_
          simp only [Act.put, List.setIfInBounds_toArray, List.set_cons_zero, List.set_cons_succ]
          refine takeR (fuel := 8) (i := 10) (v := .slice (some ⟨blk, off, none⟩) n cap) rfl (by kernel_rfl) (by kernel_rfl) (by kernel_rfl) (fun _ _ _ h => h) (Or.inl ⟨rfl, fun W hW => by go_simp⟩) trivial ?_
          simp only [Act.put, List.setIfInBounds_toArray, List.set_cons_zero, List.set_cons_succ]
          refine takeR (fuel := 7) (i := 11) (v := .int .i64 k) rfl (by kernel_rfl) (by kernel_rfl) (by kernel_rfl) (fun _ _ _ h => h) (Or.inl ⟨rfl, fun W hW => by go_simp⟩) trivial ?_
          simp only [Act.put, List.setIfInBounds_toArray, List.set_cons_zero, List.set_cons_succ]
          refine takeR (fuel := 6) (i := 12) (v := .pointer (some ⟨blk, off + k * 9, none⟩)) rfl (by kernel_rfl) (by kernel_rfl) (by kernel_rfl) (fun _ _ _ h => h) (Or.inl ⟨rfl, fun W hW => by go_simp⟩) trivial ?_
          simp only [Act.put, List.setIfInBounds_toArray, List.set_cons_zero, List.set_cons_succ]
          refine consR2 (fuel := 5) (i := 9) (j := 13) rfl rfl (by kernel_rfl) (fun K hK => ?_) (fun K hK => ?_)
          · refine step_load _ rfl _ _ rfl _ (by first | rfl | go_simp) _ l1 ?_
            refine hK.out _ _ trivial (fun _ => ?_)
            clear hK
            try simp only [Act.put, List.setIfInBounds_toArray, List.set_cons_zero, List.set_cons_succ]
            refine consR (fuel := 4) (i := 13) rfl (by kernel_rfl) (fun K hK => ?_)
            refine step_load _ rfl _ _ rfl _ (by first | rfl | go_simp) _ l2 ?_
            refine hK.out _ _ trivial (fun _ => ?_)
            clear hK
            try simp only [Act.put, List.setIfInBounds_toArray, List.set_cons_zero, List.set_cons_succ]
            refine takeR (fuel := 3) (i := 14) (v := .pointer (some ⟨blk, off + k * 9, none⟩)) rfl (by kernel_rfl) (by kernel_rfl) (by kernel_rfl) (fun _ _ _ h => h) (Or.inl ⟨rfl, fun W hW => by go_simp⟩) trivial ?_
            simp only [Act.put, List.setIfInBounds_toArray, List.set_cons_zero, List.set_cons_succ]
            refine consR (fuel := 2) (i := 15) rfl (by kernel_rfl) (fun K hK => ?_)
            refine step_store _ _ rfl _ _ _ rfl _ _ (by first | rfl | go_simp) (by first | rfl | go_simp) s1 ?_
            refine hK.out _ _ trivial (fun _ => ?_)
            clear hK
            try simp only [Act.put, List.setIfInBounds_toArray, List.set_cons_zero, List.set_cons_succ]
            refine takeR (fuel := 1) (i := 16) (v := .pointer (some ⟨blk, off + K1 * 9, none⟩)) rfl (by kernel_rfl) (by kernel_rfl) (by kernel_rfl) (fun _ _ _ h => h) (Or.inl ⟨rfl, fun W hW => by go_simp⟩) trivial ?_
            simp only [Act.put, List.setIfInBounds_toArray, List.set_cons_zero, List.set_cons_succ]
            refine consR (fuel := 0) (i := 17) rfl (by kernel_rfl) (fun K hK => ?_)
            refine step_store _ _ rfl _ _ _ rfl _ _ (by first | rfl | go_simp) (by first | rfl | go_simp) s2 ?_
            refine hK.out _ _ trivial (fun _ => ?_)
            clear hK
            try simp only [Act.put, List.setIfInBounds_toArray, List.set_cons_zero, List.set_cons_succ]
            refine wpAnyH_done (by kernel_rfl) ?_ _
            go_wp2_with fail
            go_roundw
            case rel => exact ⟨K1, swp e k K1, by first | rfl | exact congrArg _ hK1w, HZ.out⟩
            case measure => first | exact HM.out | (rw [hK1w]; exact HM.out)
          · refine step_load _ rfl _ _ rfl _ (by first | rfl | go_simp) _ l2 ?_
            refine hK.out _ _ trivial (fun _ => ?_)
            clear hK
            try simp only [Act.put, List.setIfInBounds_toArray, List.set_cons_zero, List.set_cons_succ]
            refine consR (fuel := 4) (i := 9) rfl (by kernel_rfl) (fun K hK => ?_)
            refine step_load _ rfl _ _ rfl _ (by first | rfl | go_simp) _ l1 ?_
            refine hK.out _ _ trivial (fun _ => ?_)
            clear hK
            try simp only [Act.put, List.setIfInBounds_toArray, List.set_cons_zero, List.set_cons_succ]
            refine takeR (fuel := 3) (i := 14) (v := .pointer (some ⟨blk, off + k * 9, none⟩)) rfl (by kernel_rfl) (by kernel_rfl) (by kernel_rfl) (fun _ _ _ h => h) (Or.inl ⟨rfl, fun W hW => by go_simp⟩) trivial ?_
            simp only [Act.put, List.setIfInBounds_toArray, List.set_cons_zero, List.set_cons_succ]
            refine consR (fuel := 2) (i := 15) rfl (by kernel_rfl) (fun K hK => ?_)
            refine step_store _ _ rfl _ _ _ rfl _ _ (by first | rfl | go_simp) (by first | rfl | go_simp) s1 ?_
            refine hK.out _ _ trivial (fun _ => ?_)
            clear hK
            try simp only [Act.put, List.setIfInBounds_toArray, List.set_cons_zero, List.set_cons_succ]
            refine takeR (fuel := 1) (i := 16) (v := .pointer (some ⟨blk, off + K1 * 9, none⟩)) rfl (by kernel_rfl) (by kernel_rfl) (by kernel_rfl) (fun _ _ _ h => h) (Or.inl ⟨rfl, fun W hW => by go_simp⟩) trivial ?_
            simp only [Act.put, List.setIfInBounds_toArray, List.set_cons_zero, List.set_cons_succ]
            refine consR (fuel := 0) (i := 17) rfl (by kernel_rfl) (fun K hK => ?_)
            refine step_store _ _ rfl _ _ _ rfl _ _ (by first | rfl | go_simp) (by first | rfl | go_simp) s2 ?_
            refine hK.out _ _ trivial (fun _ => ?_)
            clear hK
            try simp only [Act.put, List.setIfInBounds_toArray, List.set_cons_zero, List.set_cons_succ]
            refine wpAnyH_done (by kernel_rfl) ?_ _
            go_wp2_with fail
            go_roundw
            case rel => exact ⟨K1, swp e k K1, by first | rfl | exact congrArg _ hK1w, HZ.out⟩
            case measure => first | exact HM.out | (rw [hK1w]; exact HM.out)
        · have hkz : ¬ (k : Int) < (I1 : Int) := fun h => hk (Int.ofNat_lt.1 h)
          have HR2 : Hid (SrP w0 blk off (SS.SmP ltI a m b d) (.returned (.tuple #[])) wr) := by
            refine ⟨rfl, e, HS.out.1, HS.out.2.2.1, fun hr => ?_⟩
            have hki : k + 1 = i := by have h1 := HS.out.2.2.2.1; have h2 := HI1.out.1; clear HS; omega
            have hu := HS.out.2.1
            rw [hki] at hu
            have hm := HN.out.1
            rw [hm] at hr HF
            exact SS.one_left swoI HF.out hu hr
          clear HS
          go_wp2_with fail
          refine bodyPost_ret (results_none rfl _ _ _) rfl ?_
          exact HR2.out
set_option maxHeartbeats 8000000 in
theorem xsymR {w0 W : World} {blk off cap n : Nat} {d0 d : Array Ei} (R : Ro w0 blk off d0) (hd : d.size = d0.size) (hn : d.size = n) (hW : Sv w0 blk off d W) {a m b : Nat} (h0 : a + 1 < m) (h1 : b = m + 1) (h3 : b ≤ d.size) :
    Calls Try.prog 97 #[.slice (some ⟨blk, off, none⟩) n cap, .int .i64 a, .int .i64 m, .int .i64 b, .func (.func 49) #[] #[]] W (SrP w0 blk off (SS.SmP ltI a m b d)) := by
  have mixed := Try.ins20.mixed
  have HR : Hid (Ro w0 blk off d0) := R
  have hds : d.size ≤ 1000000 := by rw [hd]; exact R.s
  have HH0 : Hid (Sv w0 blk off d W ∧ d.size = d0.size ∧ d.size = n) := ⟨hW, hd, hn⟩
  have HN : Hid (b = m + 1 ∧ a + 1 < m ∧ b ≤ d.size ∧ d.size ≤ 1000000) := ⟨h1, h0, h3, hds⟩
  obtain ⟨D, hmz, hmw, hm1, hbz⟩ := num_r0 h0 h1 (Nat.le_trans h3 hds)
  clear hW hd R hn hds h0 h1 h3
  go_enter Try.func97, Try.ntmps97
  go_wp2_with fail
  try simp only [hmz, hmw]
  clear hmz hmw
  go_loopw [14, 15] (fun x y wr => ∃ (i j : Nat), x = .int .i64 i ∧ y = .int .i64 j ∧ Hid (Sv w0 blk off d wr ∧ Srh (fun h => ltI d[m]!.1 d[h]!.1 = false) a m i j))
    (fun x y _ => (Lib.intOf y).toNat - (Lib.intOf x).toNat)
  case atStart => exact ⟨a, m, rfl, rfl, HH0.out.1, Srh.start (Nat.le_of_lt (Nat.lt_of_succ_lt HN.out.2.1))⟩
  case round =>
    obtain ⟨i, j, rfl, rfl, HS⟩ := hrel
    by_cases hij : i < j
    · have hijz : (i : Int) < (j : Int) := Int.ofNat_lt.2 hij
      obtain ⟨H, hH⟩ : ∃ H, H = (i + j) / 2 := ⟨_, rfl⟩
      obtain ⟨hHz, hH1, hH2⟩ := mid_z hH hij
      have HSV : Hid (Sv w0 blk off d wr) := HS.out.1
      obtain ⟨q1, q2, q3⟩ := num_r HN.out.1 HN.out.2.2.1 HN.out.2.2.2 HS.out.2 hH2
      have hHw := mid_w hH q3
      have hHs : wrap64 ((H : Int) + 1) = ((H + 1 : Nat) : Int) := wN1 (Nat.le_trans (Nat.le_of_lt q1) HN.out.2.2.2)
      have hHn : (H : Int) < (n : Int) := by rw [← HH0.out.2.2]; exact Int.ofNat_lt.2 q1
      have hmn : (m : Int) < (n : Int) := by rw [← HH0.out.2.2]; exact Int.ofNat_lt.2 q2
      have LX := hid_in (Sv.ld HR.out HH0.out.2.1 q2)
      have LY := hid_in (Sv.ld HR.out HH0.out.2.1 q1)
      have HCMP : Hid (∀ W, Sv w0 blk off d W → Calls Try.prog 49 #[.agg (ies d[m]!).toArray, .agg (ies d[H]!).toArray] W fun e w' => e = .returned (.int .i64 (cfE d[m]! d[H]!)) ∧ Hid (Sv w0 blk off d w')) := Sv.cmp d[m]! d[H]!
      by_cases hC : cfE d[m]! d[H]! < 0
      · have HZ : Hid (Srh (fun h => ltI d[m]!.1 d[h]!.1 = false) a m i H) := HS.out.2.dn hH1 hH2 (by show ¬ ltI d[m]!.1 d[H]!.1 = false; rw [← cfI_lt]; intro h; exact of_decide_eq_false h hC)
        have HM : Hid (H - i < j - i) := ms_dn hH1 hH2
        clear HS hij hH hHz hH1 hH2 q1 q2 q3
        generalize cfE d[m]! d[H]! = C at *
        generalize ies d[m]! = cX at *
        generalize ies d[H]! = cY at *
        go_upto_region 17 with fail
        refine wp_region_held (S := Sv w0 blk off d) (by kernel_rfl) ?_
        change wpAnyH _ _ _ _ _ 12 #[false, false, false, false, false, false, false, false, false, false, false, false] _ wr.drew
        have hS0 : Sv w0 blk off d wr.drew := HSV.out.drew
        refine takeR (fuel := 11) (i := 0) (v := .func (.func 49) #[] #[]) rfl (by kernel_rfl) (by kernel_rfl) (by kernel_rfl) (fun _ _ _ h => h) (Or.inl ⟨rfl, fun W hW => by go_simp⟩) hS0 ?_
        simp only [Act.put, List.setIfInBounds_toArray, List.set_cons_zero, List.set_cons_succ]
        refine takeR (fuel := 10) (i := 1) (v := .slice (some ⟨blk, off, none⟩) n cap) rfl (by kernel_rfl) (by kernel_rfl) (by kernel_rfl) (fun _ _ _ h => h) (Or.inl ⟨rfl, fun W hW => by go_simp⟩) hS0 ?_
        simp only [Act.put, List.setIfInBounds_toArray, List.set_cons_zero, List.set_cons_succ]
        refine takeR (fuel := 9) (i := 2) (v := .int .i64 m) rfl (by kernel_rfl) (by kernel_rfl) (by kernel_rfl) (fun _ _ _ h => h) (Or.inl ⟨rfl, fun W hW => by go_simp⟩) hS0 ?_
        simp only [Act.put, List.setIfInBounds_toArray, List.set_cons_zero, List.set_cons_succ]
        refine takeR (fuel := 8) (i := 3) (v := .pointer (some ⟨blk, off + m * 9, none⟩)) rfl (by kernel_rfl) (by kernel_rfl) (by kernel_rfl) (fun _ _ _ h => h) (Or.inl ⟨rfl, fun W hW => by go_simp⟩) hS0 ?_
        simp only [Act.put, List.setIfInBounds_toArray, List.set_cons_zero, List.set_cons_succ]
        refine takeR (fuel := 7) (i := 4) (v := .agg cX.toArray) rfl (by kernel_rfl) (by kernel_rfl) (by kernel_rfl) (fun _ _ _ h => h) (Or.inl ⟨rfl, fun W hW => exl _ _ _ _ rfl (.pointer (some ⟨blk, off + m * 9, none⟩)) _ rfl (LX.out W hW)⟩) hS0 ?_
        simp only [Act.put, List.setIfInBounds_toArray, List.set_cons_zero, List.set_cons_succ]
        refine takeR (fuel := 6) (i := 5) (v := .slice (some ⟨blk, off, none⟩) n cap) rfl (by kernel_rfl) (by kernel_rfl) (by kernel_rfl) (fun _ _ _ h => h) (Or.inl ⟨rfl, fun W hW => by go_simp⟩) hS0 ?_
        simp only [Act.put, List.setIfInBounds_toArray, List.set_cons_zero, List.set_cons_succ]
        refine takeR (fuel := 5) (i := 6) (v := .int .i64 H) rfl (by kernel_rfl) (by kernel_rfl) (by kernel_rfl) (fun _ _ _ h => h) (Or.inl ⟨rfl, fun W hW => by go_simp⟩) hS0 ?_
        simp only [Act.put, List.setIfInBounds_toArray, List.set_cons_zero, List.set_cons_succ]
        refine takeR (fuel := 4) (i := 7) (v := .pointer (some ⟨blk, off + H * 9, none⟩)) rfl (by kernel_rfl) (by kernel_rfl) (by kernel_rfl) (fun _ _ _ h => h) (Or.inl ⟨rfl, fun W hW => by go_simp⟩) hS0 ?_
        simp only [Act.put, List.setIfInBounds_toArray, List.set_cons_zero, List.set_cons_succ]
        refine takeR (fuel := 3) (i := 8) (v := .agg cY.toArray) rfl (by kernel_rfl) (by kernel_rfl) (by kernel_rfl) (fun _ _ _ h => h) (Or.inl ⟨rfl, fun W hW => exl _ _ _ _ rfl (.pointer (some ⟨blk, off + H * 9, none⟩)) _ rfl (LY.out W hW)⟩) hS0 ?_
        simp only [Act.put, List.setIfInBounds_toArray, List.set_cons_zero, List.set_cons_succ]
        refine consR (fuel := 2) (i := 9) rfl (by kernel_rfl) (fun K hK => ?_)
        rw [if_pos (by rfl)]
        go_simp
        refine (HCMP.out _ hS0).mono ?_
        rintro x v1 ⟨rfl, HV1⟩
        refine hK.out _ _ HV1.out (fun hS1 => ?_)
        clear hK
        try simp only [Act.put, List.setIfInBounds_toArray, List.set_cons_zero, List.set_cons_succ]
        refine takeR (fuel := 1) (i := 10) (v := .bool true) rfl (by kernel_rfl) (by kernel_rfl) (by kernel_rfl) (fun _ _ _ h => h) (Or.inl ⟨rfl, fun W hW => by go_simp⟩) hS1 ?_
        simp only [Act.put, List.setIfInBounds_toArray, List.set_cons_zero, List.set_cons_succ]
        refine takeR (fuel := 0) (i := 11) (v := .bool false) rfl (by kernel_rfl) (by kernel_rfl) (by kernel_rfl) (fun _ _ _ h => h) (Or.inl ⟨rfl, fun W hW => by go_simp⟩) hS1 ?_
        simp only [Act.put, List.setIfInBounds_toArray, List.set_cons_zero, List.set_cons_succ]
        refine wpAnyH_done (by kernel_rfl) ?_ _
        go_wp2_with fail
        go_roundw
        case rel => exact ⟨i, H, rfl, by first | rfl | exact congrArg _ hHw, HV1.out, HZ.out⟩
        case measure => first | exact HM.out | (rw [hHw]; exact HM.out)
      · have HZ : Hid (Srh (fun h => ltI d[m]!.1 d[h]!.1 = false) a m (H + 1) j) := HS.out.2.up hH1 hH2 (by show ltI d[m]!.1 d[H]!.1 = false; rw [← cfI_lt]; exact decide_eq_false hC)
        have HM : Hid (j - (H + 1) < j - i) := ms_up hH1 hH2
        clear HS hij hH hHz hH1 hH2 q1 q2 q3
        generalize cfE d[m]! d[H]! = C at *
        generalize ies d[m]! = cX at *
        generalize ies d[H]! = cY at *
        go_upto_region 17 with fail
        refine wp_region_held (S := Sv w0 blk off d) (by kernel_rfl) ?_
        change wpAnyH _ _ _ _ _ 12 #[false, false, false, false, false, false, false, false, false, false, false, false] _ wr.drew
        have hS0 : Sv w0 blk off d wr.drew := HSV.out.drew
        refine takeR (fuel := 11) (i := 0) (v := .func (.func 49) #[] #[]) rfl (by kernel_rfl) (by kernel_rfl) (by kernel_rfl) (fun _ _ _ h => h) (Or.inl ⟨rfl, fun W hW => by go_simp⟩) hS0 ?_
        simp only [Act.put, List.setIfInBounds_toArray, List.set_cons_zero, List.set_cons_succ]
        refine takeR (fuel := 10) (i := 1) (v := .slice (some ⟨blk, off, none⟩) n cap) rfl (by kernel_rfl) (by kernel_rfl) (by kernel_rfl) (fun _ _ _ h => h) (Or.inl ⟨rfl, fun W hW => by go_simp⟩) hS0 ?_
        simp only [Act.put, List.setIfInBounds_toArray, List.set_cons_zero, List.set_cons_succ]
        refine takeR (fuel := 9) (i := 2) (v := .int .i64 m) rfl (by kernel_rfl) (by kernel_rfl) (by kernel_rfl) (fun _ _ _ h => h) (Or.inl ⟨rfl, fun W hW => by go_simp⟩) hS0 ?_
        simp only [Act.put, List.setIfInBounds_toArray, List.set_cons_zero, List.set_cons_succ]
        refine takeR (fuel := 8) (i := 3) (v := .pointer (some ⟨blk, off + m * 9, none⟩)) rfl (by kernel_rfl) (by kernel_rfl) (by kernel_rfl) (fun _ _ _ h => h) (Or.inl ⟨rfl, fun W hW => by go_simp⟩) hS0 ?_
        simp only [Act.put, List.setIfInBounds_toArray, List.set_cons_zero, List.set_cons_succ]
        refine takeR (fuel := 7) (i := 4) (v := .agg cX.toArray) rfl (by kernel_rfl) (by kernel_rfl) (by kernel_rfl) (fun _ _ _ h => h) (Or.inl ⟨rfl, fun W hW => exl _ _ _ _ rfl (.pointer (some ⟨blk, off + m * 9, none⟩)) _ rfl (LX.out W hW)⟩) hS0 ?_
        simp only [Act.put, List.setIfInBounds_toArray, List.set_cons_zero, List.set_cons_succ]
        refine takeR (fuel := 6) (i := 5) (v := .slice (some ⟨blk, off, none⟩) n cap) rfl (by kernel_rfl) (by kernel_rfl) (by kernel_rfl) (fun _ _ _ h => h) (Or.inl ⟨rfl, fun W hW => by go_simp⟩) hS0 ?_
        simp only [Act.put, List.setIfInBounds_toArray, List.set_cons_zero, List.set_cons_succ]
        refine takeR (fuel := 5) (i := 6) (v := .int .i64 H) rfl (by kernel_rfl) (by kernel_rfl) (by kernel_rfl) (fun _ _ _ h => h) (Or.inl ⟨rfl, fun W hW => by go_simp⟩) hS0 ?_
        simp only [Act.put, List.setIfInBounds_toArray, List.set_cons_zero, List.set_cons_succ]
        refine takeR (fuel := 4) (i := 7) (v := .pointer (some ⟨blk, off + H * 9, none⟩)) rfl (by kernel_rfl) (by kernel_rfl) (by kernel_rfl) (fun _ _ _ h => h) (Or.inl ⟨rfl, fun W hW => by go_simp⟩) hS0 ?_
        simp only [Act.put, List.setIfInBounds_toArray, List.set_cons_zero, List.set_cons_succ]
        refine takeR (fuel := 3) (i := 8) (v := .agg cY.toArray) rfl (by kernel_rfl) (by kernel_rfl) (by kernel_rfl) (fun _ _ _ h => h) (Or.inl ⟨rfl, fun W hW => exl _ _ _ _ rfl (.pointer (some ⟨blk, off + H * 9, none⟩)) _ rfl (LY.out W hW)⟩) hS0 ?_
        simp only [Act.put, List.setIfInBounds_toArray, List.set_cons_zero, List.set_cons_succ]
        refine consR (fuel := 2) (i := 9) rfl (by kernel_rfl) (fun K hK => ?_)
        rw [if_pos (by rfl)]
        go_simp
        refine (HCMP.out _ hS0).mono ?_
        rintro x v1 ⟨rfl, HV1⟩
        refine hK.out _ _ HV1.out (fun hS1 => ?_)
        clear hK
        try simp only [Act.put, List.setIfInBounds_toArray, List.set_cons_zero, List.set_cons_succ]
        refine takeR (fuel := 1) (i := 10) (v := .bool false) rfl (by kernel_rfl) (by kernel_rfl) (by kernel_rfl) (fun _ _ _ h => h) (Or.inl ⟨rfl, fun W hW => by go_simp⟩) hS1 ?_
        simp only [Act.put, List.setIfInBounds_toArray, List.set_cons_zero, List.set_cons_succ]
        refine takeR (fuel := 0) (i := 11) (v := .bool true) rfl (by kernel_rfl) (by kernel_rfl) (by kernel_rfl) (fun _ _ _ h => h) (Or.inl ⟨rfl, fun W hW => by go_simp⟩) hS1 ?_
        simp only [Act.put, List.setIfInBounds_toArray, List.set_cons_zero, List.set_cons_succ]
        refine wpAnyH_done (by kernel_rfl) ?_ _
        go_wp2_with fail
        go_roundw
        case rel => exact ⟨H + 1, j, by first | rfl | exact congrArg _ hHs, rfl, HV1.out, HZ.out⟩
        case measure => first | exact HM.out | (rw [hHs]; exact HM.out)
    · have hijz : ¬ (i : Int) < (j : Int) := fun h => hij (Int.ofNat_lt.1 h)
      have HF := hid_in (HS.out.2.fnd hij)
      have HU0 : Hid (Sv w0 blk off d wr ∧ SS.Down m m d d ∧ PermIn a b d d) := ⟨HS.out.1, SS.Down.start m d, permIn_refl d a b⟩
      clear HS hij
      go_wp2_with fail
      go_loopw [17] (fun x wr => ∃ (k : Nat) (e : Array Ei), x = .int .i64 k ∧ Hid (Sv w0 blk off e wr ∧ SS.Down k m d e ∧ PermIn a b d e ∧ i ≤ k ∧ k ≤ m))
        (fun x _ => (Lib.intOf x).toNat)
      case atStart => exact ⟨m, d, rfl, HU0.out.1, HU0.out.2.1, HU0.out.2.2, HF.out.2.1, Nat.le_refl _⟩
      case round =>
        clear HU0
        obtain ⟨K1, e, rfl, HS⟩ := hrel
        by_cases hk : i < K1
        · have hkz : (i : Int) < (K1 : Int) := Int.ofNat_lt.2 hk
          obtain ⟨k, hK1⟩ : ∃ k, k + 1 = K1 := ⟨K1 - 1, num_r1 hk⟩
          have hse : e.size = d.size := HS.out.2.1.1
          obtain ⟨hK1z, hkn, hK1n, hK1b⟩ := num_r3 hK1 hse HN.out.1 HN.out.2.2.1 HN.out.2.2.2 HS.out.2.2.2.2
          have hkw : wrap64 (k : Int) = (k : Int) := wN hK1b
          have hK1v : IntKind.i64.wrap (k : Int) = (k : Int) := wK hK1b
          have hen : e.size = n := hse.trans HH0.out.2.2
          have hknz : (k : Int) < (n : Int) := by rw [← hen]; exact Int.ofNat_lt.2 hkn
          have hK1nz : (K1 : Int) < (n : Int) := by rw [← hen]; exact Int.ofNat_lt.2 hK1n
          obtain ⟨w1, w2, l1, l2, s1, s2, hv⟩ := HS.out.1.swap2 HR.out (hse.trans HH0.out.2.1) hK1n hkn
          have HZ : Hid (Sv w0 blk off (swp e K1 k) w2 ∧ SS.Down k m d (swp e K1 k) ∧ PermIn a b d (swp e K1 k) ∧ i ≤ k ∧ k ≤ m) := by
            obtain ⟨z0, z1, z2, z3, z4, z5, z6, z7⟩ := num_r4 hK1 hse hk HF.out.1 HS.out.2.2.2.2 HN.out.1 HN.out.2.2.1
            refine ⟨hv, ?_, permIn_trans d e _ a b HS.out.2.2.1 (swp_permIn e a b K1 k z0 z1 z2 z3 z4), z5, z6⟩
            have hst := HS.out.2.1
            rw [← hK1] at hst ⊢
            exact hst.step (by rw [hK1]; exact HS.out.2.2.2.2) z7
          have HM : Hid (k < K1) := by rw [← hK1]; exact Nat.lt_succ_self k
          clear HS hse hkn hK1n hen hK1b hv hk hK1
          generalize ies e[K1]! = cA at *
          generalize ies e[k]! = cB at *
          go_upto_region 23 with fail
          refine wp_region_held (S := fun _ => True) (by kernel_rfl) ?_
          change wpAnyH _ _ _ _ _ 18 #[false, false, false, false, false, false, false, false, false, false, false, false, false, false, false, false, false, false] _ wr.drew
          refine takeR (fuel := 17) (i := 0) (v := .slice (some ⟨blk, off, none⟩) n cap) rfl (by kernel_rfl) (by kernel_rfl) (by kernel_rfl) (fun _ _ _ h => h) (Or.inl ⟨rfl, fun W hW => by go_simp⟩) trivial ?_
          simp only [Act.put, List.setIfInBounds_toArray, List.set_cons_zero, List.set_cons_succ]
          refine takeR (fuel := 16) (i := 1) (v := .int .i64 K1) rfl (by kernel_rfl) (by kernel_rfl) (by kernel_rfl) (fun _ _ _ h => h) (Or.inl ⟨rfl, fun W hW => by go_simp⟩) trivial ?_
          simp only [Act.put, List.setIfInBounds_toArray, List.set_cons_zero, List.set_cons_succ]
          refine takeR (fuel := 15) (i := 2) (v := .slice (some ⟨blk, off, none⟩) n cap) rfl (by kernel_rfl) (by kernel_rfl) (by kernel_rfl) (fun _ _ _ h => h) (Or.inl ⟨rfl, fun W hW => by go_simp⟩) trivial ?_
          simp only [Act.put, List.setIfInBounds_toArray, List.set_cons_zero, List.set_cons_succ]
          refine takeR (fuel := 14) (i := 3) (v := .int .i64 K1) rfl (by kernel_rfl) (by kernel_rfl) (by kernel_rfl) (fun _ _ _ h => h) (Or.inl ⟨rfl, fun W hW => by go_simp⟩) trivial ?_
          simp only [Act.put, List.setIfInBounds_toArray, List.set_cons_zero, List.set_cons_succ]
          refine takeR (fuel := 13) (i := 4) (v := .int .i64 k) rfl (by kernel_rfl) (by kernel_rfl) (by kernel_rfl) (fun _ _ _ h => h) (Or.inl ⟨rfl, fun W hW => by go_simp⟩) trivial ?_
          simp only [Act.put, List.setIfInBounds_toArray, List.set_cons_zero, List.set_cons_succ]
          refine takeR (fuel := 12) (i := 5) (v := .slice (some ⟨blk, off, none⟩) n cap) rfl (by kernel_rfl) (by kernel_rfl) (by kernel_rfl) (fun _ _ _ h => h) (Or.inl ⟨rfl, fun W hW => by go_simp⟩) trivial ?_
          simp only [Act.put, List.setIfInBounds_toArray, List.set_cons_zero, List.set_cons_succ]
          refine takeR (fuel := 11) (i := 6) (v := .int .i64 K1) rfl (by kernel_rfl) (by kernel_rfl) (by kernel_rfl) (fun _ _ _ h => h) (Or.inl ⟨rfl, fun W hW => by go_simp⟩) trivial ?_
          simp only [Act.put, List.setIfInBounds_toArray, List.set_cons_zero, List.set_cons_succ]
          refine takeR (fuel := 10) (i := 7) (v := .int .i64 k) rfl (by kernel_rfl) (by kernel_rfl) (by kernel_rfl) (fun _ _ _ h => h) (Or.inl ⟨rfl, fun W hW => by go_simp⟩) trivial ?_
          simp only [Act.put, List.setIfInBounds_toArray, List.set_cons_zero, List.set_cons_succ]
          refine takeR (fuel := 9) (i := 8) (v := .pointer (some ⟨blk, off + k * 9, none⟩)) rfl (by kernel_rfl) (by kernel_rfl) (by kernel_rfl) (fun _ _ _ h => h) (Or.inl ⟨rfl, fun W hW => by go_simp⟩) trivial ?_
          simp only [Act.put, List.setIfInBounds_toArray, List.set_cons_zero, List.set_cons_succ]
          refine takeR (fuel := 8) (i := 10) (v := .slice (some ⟨blk, off, none⟩) n cap) rfl (by kernel_rfl) (by kernel_rfl) (by kernel_rfl) (fun _ _ _ h => h) (Or.inl ⟨rfl, fun W hW => by go_simp⟩) trivial ?_
          simp only [Act.put, List.setIfInBounds_toArray, List.set_cons_zero, List.set_cons_succ]
          refine takeR (fuel := 7) (i := 11) (v := .int .i64 K1) rfl (by kernel_rfl) (by kernel_rfl) (by kernel_rfl) (fun _ _ _ h => h) (Or.inl ⟨rfl, fun W hW => by go_simp⟩) trivial ?_
          simp only [Act.put, List.setIfInBounds_toArray, List.set_cons_zero, List.set_cons_succ]
          refine takeR (fuel := 6) (i := 12) (v := .pointer (some ⟨blk, off + K1 * 9, none⟩)) rfl (by kernel_rfl) (by kernel_rfl) (by kernel_rfl) (fun _ _ _ h => h) (Or.inl ⟨rfl, fun W hW => by go_simp⟩) trivial ?_
          simp only [Act.put, List.setIfInBounds_toArray, List.set_cons_zero, List.set_cons_succ]
          refine consR2 (fuel := 5) (i := 9) (j := 13) rfl rfl (by kernel_rfl) (fun K hK => ?_) (fun K hK => ?_)
          · refine step_load _ rfl _ _ rfl _ (by first | rfl | go_simp) _ l1 ?_
            refine hK.out _ _ trivial (fun _ => ?_)
            clear hK
            try simp only [Act.put, List.setIfInBounds_toArray, List.set_cons_zero, List.set_cons_succ]
            refine consR (fuel := 4) (i := 13) rfl (by kernel_rfl) (fun K hK => ?_)
            refine step_load _ rfl _ _ rfl _ (by first | rfl | go_simp) _ l2 ?_
            refine hK.out _ _ trivial (fun _ => ?_)
            clear hK
            try simp only [Act.put, List.setIfInBounds_toArray, List.set_cons_zero, List.set_cons_succ]
            refine takeR (fuel := 3) (i := 14) (v := .pointer (some ⟨blk, off + K1 * 9, none⟩)) rfl (by kernel_rfl) (by kernel_rfl) (by kernel_rfl) (fun _ _ _ h => h) (Or.inl ⟨rfl, fun W hW => by go_simp⟩) trivial ?_
            simp only [Act.put, List.setIfInBounds_toArray, List.set_cons_zero, List.set_cons_succ]
            refine consR (fuel := 2) (i := 15) rfl (by kernel_rfl) (fun K hK => ?_)
            refine step_store _ _ rfl _ _ _ rfl _ _ (by first | rfl | go_simp) (by first | rfl | go_simp) s1 ?_
            refine hK.out _ _ trivial (fun _ => ?_)
            clear hK
            try simp only [Act.put, List.setIfInBounds_toArray, List.set_cons_zero, List.set_cons_succ]
            refine takeR (fuel := 1) (i := 16) (v := .pointer (some ⟨blk, off + k * 9, none⟩)) rfl (by kernel_rfl) (by kernel_rfl) (by kernel_rfl) (fun _ _ _ h => h) (Or.inl ⟨rfl, fun W hW => by go_simp⟩) trivial ?_
            simp only [Act.put, List.setIfInBounds_toArray, List.set_cons_zero, List.set_cons_succ]
            refine consR (fuel := 0) (i := 17) rfl (by kernel_rfl) (fun K hK => ?_)
            refine step_store _ _ rfl _ _ _ rfl _ _ (by first | rfl | go_simp) (by first | rfl | go_simp) s2 ?_
            refine hK.out _ _ trivial (fun _ => ?_)
            clear hK
            try simp only [Act.put, List.setIfInBounds_toArray, List.set_cons_zero, List.set_cons_succ]
            refine wpAnyH_done (by kernel_rfl) ?_ _
            go_wp2_with fail
            go_roundw
            case rel => exact ⟨k, swp e K1 k, by first | rfl | exact congrArg _ hkw, HZ.out⟩
            case measure => first | exact HM.out | (rw [hkw]; exact HM.out)
          · refine step_load _ rfl _ _ rfl _ (by first | rfl | go_simp) _ l2 ?_
            refine hK.out _ _ trivial (fun _ => ?_)
            clear hK
            try simp only [Act.put, List.setIfInBounds_toArray, List.set_cons_zero, List.set_cons_succ]
            refine consR (fuel := 4) (i := 9) rfl (by kernel_rfl) (fun K hK => ?_)
            refine step_load _ rfl _ _ rfl _ (by first | rfl | go_simp) _ l1 ?_
            refine hK.out _ _ trivial (fun _ => ?_)
            clear hK
            try simp only [Act.put, List.setIfInBounds_toArray, List.set_cons_zero, List.set_cons_succ]
            refine takeR (fuel := 3) (i := 14) (v := .pointer (some ⟨blk, off + K1 * 9, none⟩)) rfl (by kernel_rfl) (by kernel_rfl) (by kernel_rfl) (fun _ _ _ h => h) (Or.inl ⟨rfl, fun W hW => by go_simp⟩) trivial ?_
            simp only [Act.put, List.setIfInBounds_toArray, List.set_cons_zero, List.set_cons_succ]
            refine consR (fuel := 2) (i := 15) rfl (by kernel_rfl) (fun K hK => ?_)
            refine step_store _ _ rfl _ _ _ rfl _ _ (by first | rfl | go_simp) (by first | rfl | go_simp) s1 ?_
            refine hK.out _ _ trivial (fun _ => ?_)
            clear hK
            try simp only [Act.put, List.setIfInBounds_toArray, List.set_cons_zero, List.set_cons_succ]
            refine takeR (fuel := 1) (i := 16) (v := .pointer (some ⟨blk, off + k * 9, none⟩)) rfl (by kernel_rfl) (by kernel_rfl) (by kernel_rfl) (fun _ _ _ h => h) (Or.inl ⟨rfl, fun W hW => by go_simp⟩) trivial ?_
            simp only [Act.put, List.setIfInBounds_toArray, List.set_cons_zero, List.set_cons_succ]
            refine consR (fuel := 0) (i := 17) rfl (by kernel_rfl) (fun K hK => ?_)
            refine step_store _ _ rfl _ _ _ rfl _ _ (by first | rfl | go_simp) (by first | rfl | go_simp) s2 ?_
            refine hK.out _ _ trivial (fun _ => ?_)
            clear hK
            try simp only [Act.put, List.setIfInBounds_toArray, List.set_cons_zero, List.set_cons_succ]
            refine wpAnyH_done (by kernel_rfl) ?_ _
            go_wp2_with fail
            go_roundw
            case rel => exact ⟨k, swp e K1 k, by first | rfl | exact congrArg _ hkw, HZ.out⟩
            case measure => first | exact HM.out | (rw [hkw]; exact HM.out)
        · have hkz : ¬ (i : Int) < (K1 : Int) := fun h => hk (Int.ofNat_lt.1 h)
          have HR2 : Hid (SrP w0 blk off (SS.SmP ltI a m b d) (.returned (.tuple #[])) wr) := by
            refine ⟨rfl, e, HS.out.1, HS.out.2.2.1, fun hr => ?_⟩
            have hki : K1 = i := Nat.le_antisymm (Nat.le_of_not_lt hk) HS.out.2.2.2.1
            have hu := HS.out.2.1
            rw [hki] at hu
            have hm := HN.out.1
            rw [hm] at hr ⊢
            exact SS.one_right swoI HF.out hu hr
          clear HS
          go_wp2_with fail
          refine bodyPost_ret (results_none rfl _ _ _) rfl ?_
          exact HR2.out
end
end Go.Proofs.Ytheikjjehidagaa
