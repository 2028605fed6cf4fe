/- layer 17: the stable sort's exchanges, by the program -/
import Derived.Test.YtheikjjehidagaaRA
import Derived.Test.YtheikjjehidagaaSB
import Derived.Test.YtheikjjehidagaaShelf2
import Derived.WalkKit
import Derived.ProofKit
import Derived.Handy
import Derived.WalkLawsBesides
import Derived.WalkSpells
import Derived.BigQuiet
import Derived.BigCall
import Derived.Deep.QuietTactic
import Derived.Deep.Light
import Derived.Deep.OwnRows
import Derived.Laws.AppendOwnNone
import Derived.Laws.Strings3
import Derived.Laws.RangeAny
import Derived.Deep.RegionWith
import Derived.Lib.BitFns
import Derived.Lib.Walk
import Derived.Lib.Strings
import Derived.Lib.OthersKept
import Derived.Deep.CutBlock
import Derived.Deep.DeepCutAuto
import Derived.Deep.LoopGhost
import Derived.Deep.RegionHeld3
import Derived.Lib.SmallJoins
import Derived.Maps.AppendAt
import Derived.Laws.IdiomStrings
import Derived.Lib.AppendZeros
import Derived.Deep.WholeRow
import Derived.Laws.BitsAllLaws
import Derived.Lib.ConvBytes
import Derived.Deep.RegionLaw
import Derived.Maps.OwnSet
import Derived.Maps.OwnOps
import Derived.Maps.RangeWalk
import Derived.Maps.Ext
import Derived.DeepKeys4
import Derived.Laws.StructEq
import Derived.Deep.MidRow
import Derived.Lib.Bytealg
import Derived.Lib.AppendZerosOnto
import Derived.Laws.MakeOwn
import Derived.Deep.Upon
import Derived.Sort.KeysCollected
import Derived.Shelf.SlSortCmp.KitK
namespace Go.Proofs.Ytheikjjehidagaa
open Go.RowKit
set_option linter.unusedVariables false
set_option linter.unusedSimpArgs false
open Go.Sort (grow SWO PermIn SortedIn HoldsK swp permIn_refl permIn_trans permIn_all swp_permIn)
open H5 (It its its_len its_one)
set_option maxRecDepth 20000
set_option linter.unusedSectionVars false
abbrev Ei := It × Nat
def ies (x : Ei) : List Value := its x.1
theorem ies_len (x : Ei) : (ies x).length = 9 := rfl
theorem ies_one (x : Ei) : ∀ v ∈ ies x, v.oneCell' = true := its_one x.1
def cfE (x y : Ei) : Int := cfI x.1 y.1
theorem ltE (x y : Ei) : ltOf cfE x y = SS.lt1 ltI x y := cfI_lt x.1 y.1
theorem ltE_eq : ltOf cfE = SS.lt1 ltI := by
  funext x y
  exact ltE x y
theorem step_load {P : Program} (w : World) {ops : Array Oper} {o : Oper} {a : Act} {K : Act → World → Prop} {Q : Exit → Act → World → Prop} {E : Prop} (hgd : o.guard = none) (t : TypeId) (x : Operand) (ho : o.op = .load t x) (vx : Value) (hx : a.eval x = vx) (v' : Value) (hr : (Instr.loadAt t vx).run P w = .ok v' w) (h : K (a.put o.dst v') w) :
    if Region.wanted o (yielded ops a.tmps) = true then Oper.wp P o a w K Q else E := by
  have hw : Region.wanted o (yielded ops a.tmps) = true := by simp [Region.wanted, hgd]
  rw [if_pos hw]
  unfold Oper.wp execOp
  simp only [ho, hx, Sem.run_bind, Sem.run_pure, Result.andThen_ok, hr]
  exact h
theorem step_store {P : Program} (w w' : World) {ops : Array Oper} {o : Oper} {a : Act} {K : Act → World → Prop} {Q : Exit → Act → World → Prop} {E : Prop} (hgd : o.guard = none) (t : TypeId) (x y : Operand) (ho : o.op = .store t x y) (vx vy : Value) (hx : a.eval x = vx) (hy : a.eval y = vy) (hr : (Instr.storeAt t vx vy).run P w = .ok () w') (h : K (a.put o.dst undef) w') :
    if Region.wanted o (yielded ops a.tmps) = true then Oper.wp P o a w K Q else E := by
  have hw : Region.wanted o (yielded ops a.tmps) = true := by simp [Region.wanted, hgd]
  rw [if_pos hw]
  unfold Oper.wp execOp
  simp only [ho, hx, hy, Sem.run_bind, Sem.run_pure, Result.andThen_ok, hr]
  exact h
theorem ld47 {W : World} {a : Addr} {v : Array Value} (h : (loadCellsFrom a 0 9 #[]).run Try.prog W = .ok v W) : (Instr.loadAt 47 (.pointer (some a))).run Try.prog W = .ok (.agg v) W := by
  simp only [Instr.loadAt, Instr.sureAddr, asAddr, Sem.run_bind, Sem.run_pure, Result.andThen_ok]
  unfold loadVar
  simp only [Sem.run_bind, Try.isAgg47, Try.sizeOf47, Result.andThen_ok, if_true]
  unfold loadCells
  simp only [Sem.run_bind, Try.sizeOf47, Result.andThen_ok, h, Sem.run_pure]
theorem st47 {W W' : World} {a : Addr} {c : List Value} (h : (storeCells a c 0).run Try.prog W = .ok () W') (hc : c.length = 9) : (Instr.storeAt 47 (.pointer (some a)) (.agg c.toArray)).run Try.prog W = .ok () W' := by
  simp only [Instr.storeAt, Instr.sureAddr, asAddr, Sem.run_bind, Sem.run_pure, Result.andThen_ok]
  unfold storeVar
  simp only [Sem.run_bind, Try.sizeOf47, Result.andThen_ok]
  rw [if_neg (by simp [Value.cells, hc])]
  exact h
section
variable [Inhabited It]
abbrev Sv (w0 : World) (blk off : Nat) (d : Array Ei) (W : World) : Prop := SWK ies 9 w0 blk off d W
theorem claysE (blk off size : Nat) (w : World) : CmpLays Try.prog 49 #[] ies 9 cfE blk off size w := fun _ _ _ _ x y => (xrank x.1 y.1 _).mono fun _ _ h => h
/-- the row that is sorted -/
structure Ro (w0 : World) (blk off : Nat) (d0 : Array Ei) : Prop where
  r : RowK ies 9 w0 blk off d0
  s : d0.size ≤ 1000000
def SrP (w0 : World) (blk off : Nat) (P : Array Ei → Prop) (e : Ending) (w' : World) : Prop := e = .returned (.tuple #[]) ∧ ∃ d', Sv w0 blk off d' w' ∧ P d'
set_option maxHeartbeats 8000000 in
theorem xswaps {w0 W : World} {blk off cap : Nat} {d0 d : Array Ei} (R : Ro w0 blk off d0) (hd : d.size = d0.size) (hW : Sv w0 blk off d W) {a b m : Nat} (ha : a + m ≤ b) (hb : b + m ≤ d.size) :
    Calls Try.prog 117 #[.slice (some ⟨blk, off, none⟩) d.size cap, .int .i64 a, .int .i64 b, .int .i64 m, .func (.func 49) #[] #[]] W (SrP w0 blk off (fun e => SS.Sw a b m d e ∧ PermIn a (b + m) d e)) := by
  have hds : d.size ≤ 1000000 := by rw [hd]; exact R.s
  have mixed := Try.ins20.mixed
  have HR : Hid (Ro w0 blk off d0) := R
  have HH0 : Hid (Sv w0 blk off d W ∧ d.size = d0.size) := ⟨hW, hd⟩
  clear hW hd R
  go_enter Try.func117, Try.ntmps117
  go_wp2_with fail
  go_loopw [10] (fun i wr => ∃ (k : Nat) (e : Array Ei), k ≤ m ∧ i = .int .i64 k ∧ Hid (Sv w0 blk off e wr ∧ SS.Sw a b k d e ∧ PermIn a (b + m) d e))
    (fun i _ => m - (Lib.intOf i).toNat)
  case atStart => exact ⟨0, d, Nat.zero_le _, rfl, HH0.out.1, SS.Sw.zero a b d, permIn_refl d a (b + m)⟩
  case round =>
    obtain ⟨k, e, hk, rfl, HS⟩ := hrel
    by_cases hkm : k < m
    · have hkz : (k : Int) < (m : Int) := by omega
      have hse : e.size = d.size := HS.out.2.1.1
      have hse0 : e.size = d0.size := by rw [hse]; exact HH0.out.2
      obtain ⟨A, hA⟩ : ∃ A, A = a + k := ⟨_, rfl⟩
      obtain ⟨B, hB⟩ : ∃ B, B = b + k := ⟨_, rfl⟩
      have hAz : (a : Int) + (k : Int) = (A : Int) := by omega
      have hBz : (b : Int) + (k : Int) = (B : Int) := by omega
      have hA2 : A < e.size := by omega
      have hB2 : B < e.size := by omega
      have hAl : (A : Int) < (d.size : Int) := by omega
      have hBl : (B : Int) < (d.size : Int) := by omega
      have hAw : IntKind.i64.wrap (A : Int) = (A : Int) := by rw [IntKind.wrap_i64]; omega
      have hBw : IntKind.i64.wrap (B : Int) = (B : Int) := by rw [IntKind.wrap_i64]; omega
      have l1 := HS.out.1.ld1 HR.out.r hse0 Try.prog B hB2
      have l2 := HS.out.1.ld1 HR.out.r hse0 Try.prog A hA2
      have s1 := HS.out.1.st1 HR.out.r hse0 Try.prog A hA2 e[B]!
      have s2 := HS.out.1.st2 HR.out.r hse0 Try.prog A B hA2 hB2 e[B]! e[A]!
      have HZ : Hid (SS.Sw a b (k + 1) d (swp e A B) ∧ PermIn a (b + m) d (swp e A B)) := by
        have q := permIn_trans d e (swp e A B) a (b + m) HS.out.2.2 (swp_permIn e a (b + m) A B (by omega) (by omega) (by omega) (by omega) (by omega))
        refine ⟨?_, q⟩
        rw [hA, hB]
        exact HS.out.2.1.step (by omega) (by omega)
      have HW2 := hid_in (HS.out.1.swapped HR.out.r A B hA2 hB2)
      have z1 : (ies e[B]!).length = 9 := rfl
      have z2 : (ies e[A]!).length = 9 := rfl
      clear HS hse hse0 hA2 hB2 hA hB
      generalize ies e[B]! = cB at *
      generalize ies e[A]! = cA at *
      replace l1 := ld47 l1
      replace l2 := ld47 l2
      replace s1 := st47 s1 z1
      replace s2 := st47 s2 z2
      go_wp2_with fail
      refine wp_region_held (S := fun _ => True) (by kernel_rfl) ?_
      change wpAnyH _ _ _ _ _ 24 #[false, false, false, false, false, false, false, false, false, false, false, false, false, false, false, false, false, false, false, false, false, false, false, false] _ wr.drew
      refine takeR (fuel := 23) (i := 0) (v := .slice (some ⟨blk, off, none⟩) d.size cap) rfl (by kernel_rfl) (by kernel_rfl) (by kernel_rfl) (fun _ _ _ h => h) (Or.inl ⟨rfl, fun W hW => by go_simp⟩) trivial ?_
      simp only [Act.put, List.setIfInBounds_toArray, List.set_cons_zero, List.set_cons_succ]
      refine takeR (fuel := 22) (i := 1) (v := .int .i64 a) rfl (by kernel_rfl) (by kernel_rfl) (by kernel_rfl) (fun _ _ _ h => h) (Or.inl ⟨rfl, fun W hW => by go_simp⟩) trivial ?_
      simp only [Act.put, List.setIfInBounds_toArray, List.set_cons_zero, List.set_cons_succ]
      refine takeR (fuel := 21) (i := 2) (v := .int .i64 k) rfl (by kernel_rfl) (by kernel_rfl) (by kernel_rfl) (fun _ _ _ h => h) (Or.inl ⟨rfl, fun W hW => by go_simp⟩) trivial ?_
      simp only [Act.put, List.setIfInBounds_toArray, List.set_cons_zero, List.set_cons_succ]
      refine takeR (fuel := 20) (i := 3) (v := .int .i64 A) rfl (by kernel_rfl) (by kernel_rfl) (by kernel_rfl) (fun _ _ _ h => h) (Or.inl ⟨rfl, fun W hW => by go_simp⟩) trivial ?_
      simp only [Act.put, List.setIfInBounds_toArray, List.set_cons_zero, List.set_cons_succ]
      refine takeR (fuel := 19) (i := 4) (v := .slice (some ⟨blk, off, none⟩) d.size cap) rfl (by kernel_rfl) (by kernel_rfl) (by kernel_rfl) (fun _ _ _ h => h) (Or.inl ⟨rfl, fun W hW => by go_simp⟩) trivial ?_
      simp only [Act.put, List.setIfInBounds_toArray, List.set_cons_zero, List.set_cons_succ]
      refine takeR (fuel := 18) (i := 5) (v := .int .i64 b) rfl (by kernel_rfl) (by kernel_rfl) (by kernel_rfl) (fun _ _ _ h => h) (Or.inl ⟨rfl, fun W hW => by go_simp⟩) trivial ?_
      simp only [Act.put, List.setIfInBounds_toArray, List.set_cons_zero, List.set_cons_succ]
      refine takeR (fuel := 17) (i := 6) (v := .int .i64 k) rfl (by kernel_rfl) (by kernel_rfl) (by kernel_rfl) (fun _ _ _ h => h) (Or.inl ⟨rfl, fun W hW => by go_simp⟩) trivial ?_
      simp only [Act.put, List.setIfInBounds_toArray, List.set_cons_zero, List.set_cons_succ]
      refine takeR (fuel := 16) (i := 7) (v := .int .i64 B) rfl (by kernel_rfl) (by kernel_rfl) (by kernel_rfl) (fun _ _ _ h => h) (Or.inl ⟨rfl, fun W hW => by go_simp⟩) trivial ?_
      simp only [Act.put, List.setIfInBounds_toArray, List.set_cons_zero, List.set_cons_succ]
      refine takeR (fuel := 15) (i := 8) (v := .slice (some ⟨blk, off, none⟩) d.size cap) rfl (by kernel_rfl) (by kernel_rfl) (by kernel_rfl) (fun _ _ _ h => h) (Or.inl ⟨rfl, fun W hW => by go_simp⟩) trivial ?_
      simp only [Act.put, List.setIfInBounds_toArray, List.set_cons_zero, List.set_cons_succ]
      refine takeR (fuel := 14) (i := 9) (v := .int .i64 b) rfl (by kernel_rfl) (by kernel_rfl) (by kernel_rfl) (fun _ _ _ h => h) (Or.inl ⟨rfl, fun W hW => by go_simp⟩) trivial ?_
      simp only [Act.put, List.setIfInBounds_toArray, List.set_cons_zero, List.set_cons_succ]
      refine takeR (fuel := 13) (i := 10) (v := .int .i64 k) rfl (by kernel_rfl) (by kernel_rfl) (by kernel_rfl) (fun _ _ _ h => h) (Or.inl ⟨rfl, fun W hW => by go_simp⟩) trivial ?_
      simp only [Act.put, List.setIfInBounds_toArray, List.set_cons_zero, List.set_cons_succ]
      refine takeR (fuel := 12) (i := 11) (v := .int .i64 B) rfl (by kernel_rfl) (by kernel_rfl) (by kernel_rfl) (fun _ _ _ h => h) (Or.inl ⟨rfl, fun W hW => by go_simp⟩) trivial ?_
      simp only [Act.put, List.setIfInBounds_toArray, List.set_cons_zero, List.set_cons_succ]
      refine takeR (fuel := 11) (i := 12) (v := .pointer (some ⟨blk, off + B * 9, none⟩)) rfl (by kernel_rfl) (by kernel_rfl) (by kernel_rfl) (fun _ _ _ h => h) (Or.inl ⟨rfl, fun W hW => by go_simp⟩) trivial ?_
      simp only [Act.put, List.setIfInBounds_toArray, List.set_cons_zero, List.set_cons_succ]
      refine takeR (fuel := 10) (i := 14) (v := .slice (some ⟨blk, off, none⟩) d.size cap) rfl (by kernel_rfl) (by kernel_rfl) (by kernel_rfl) (fun _ _ _ h => h) (Or.inl ⟨rfl, fun W hW => by go_simp⟩) trivial ?_
      simp only [Act.put, List.setIfInBounds_toArray, List.set_cons_zero, List.set_cons_succ]
      refine takeR (fuel := 9) (i := 15) (v := .int .i64 a) rfl (by kernel_rfl) (by kernel_rfl) (by kernel_rfl) (fun _ _ _ h => h) (Or.inl ⟨rfl, fun W hW => by go_simp⟩) trivial ?_
      simp only [Act.put, List.setIfInBounds_toArray, List.set_cons_zero, List.set_cons_succ]
      refine takeR (fuel := 8) (i := 16) (v := .int .i64 k) rfl (by kernel_rfl) (by kernel_rfl) (by kernel_rfl) (fun _ _ _ h => h) (Or.inl ⟨rfl, fun W hW => by go_simp⟩) trivial ?_
      simp only [Act.put, List.setIfInBounds_toArray, List.set_cons_zero, List.set_cons_succ]
      refine takeR (fuel := 7) (i := 17) (v := .int .i64 A) rfl (by kernel_rfl) (by kernel_rfl) (by kernel_rfl) (fun _ _ _ h => h) (Or.inl ⟨rfl, fun W hW => by go_simp⟩) trivial ?_
      simp only [Act.put, List.setIfInBounds_toArray, List.set_cons_zero, List.set_cons_succ]
      refine takeR (fuel := 6) (i := 18) (v := .pointer (some ⟨blk, off + A * 9, none⟩)) rfl (by kernel_rfl) (by kernel_rfl) (by kernel_rfl) (fun _ _ _ h => h) (Or.inl ⟨rfl, fun W hW => by go_simp⟩) trivial ?_
      simp only [Act.put, List.setIfInBounds_toArray, List.set_cons_zero, List.set_cons_succ]
      refine consR2 (fuel := 5) (i := 13) (j := 19) rfl rfl (by kernel_rfl) (fun K hK => ?_) (fun K hK => ?_)
      · refine step_load _ rfl _ _ rfl _ (by first | rfl | go_simp) _ l1 ?_
        refine hK.out _ _ trivial (fun _ => ?_)
        clear hK
        try simp only [Act.put, List.setIfInBounds_toArray, List.set_cons_zero, List.set_cons_succ]
        refine consR (fuel := 4) (i := 19) rfl (by kernel_rfl) (fun K hK => ?_)
        refine step_load _ rfl _ _ rfl _ (by first | rfl | go_simp) _ l2 ?_
        refine hK.out _ _ trivial (fun _ => ?_)
        clear hK
        try simp only [Act.put, List.setIfInBounds_toArray, List.set_cons_zero, List.set_cons_succ]
        refine takeR (fuel := 3) (i := 20) (v := .pointer (some ⟨blk, off + A * 9, none⟩)) rfl (by kernel_rfl) (by kernel_rfl) (by kernel_rfl) (fun _ _ _ h => h) (Or.inl ⟨rfl, fun W hW => by go_simp⟩) trivial ?_
        simp only [Act.put, List.setIfInBounds_toArray, List.set_cons_zero, List.set_cons_succ]
        refine consR (fuel := 2) (i := 21) rfl (by kernel_rfl) (fun K hK => ?_)
        refine step_store _ _ rfl _ _ _ rfl _ _ (by first | rfl | go_simp) (by first | rfl | go_simp) s1 ?_
        refine hK.out _ _ trivial (fun _ => ?_)
        clear hK
        try simp only [Act.put, List.setIfInBounds_toArray, List.set_cons_zero, List.set_cons_succ]
        refine takeR (fuel := 1) (i := 22) (v := .pointer (some ⟨blk, off + B * 9, none⟩)) rfl (by kernel_rfl) (by kernel_rfl) (by kernel_rfl) (fun _ _ _ h => h) (Or.inl ⟨rfl, fun W hW => by go_simp⟩) trivial ?_
        simp only [Act.put, List.setIfInBounds_toArray, List.set_cons_zero, List.set_cons_succ]
        refine consR (fuel := 0) (i := 23) rfl (by kernel_rfl) (fun K hK => ?_)
        refine step_store _ _ rfl _ _ _ rfl _ _ (by first | rfl | go_simp) (by first | rfl | go_simp) s2 ?_
        refine hK.out _ _ trivial (fun _ => ?_)
        clear hK
        try simp only [Act.put, List.setIfInBounds_toArray, List.set_cons_zero, List.set_cons_succ]
        refine wpAnyH_done (by kernel_rfl) ?_ _
        go_wp2_with fail
        go_roundw
        case rel => exact ⟨k + 1, swp e A B, by omega, by simp, HW2.out, HZ.out⟩
        case measure => simp [Lib.intOf]; omega
      · refine step_load _ rfl _ _ rfl _ (by first | rfl | go_simp) _ l2 ?_
        refine hK.out _ _ trivial (fun _ => ?_)
        clear hK
        try simp only [Act.put, List.setIfInBounds_toArray, List.set_cons_zero, List.set_cons_succ]
        refine consR (fuel := 4) (i := 13) rfl (by kernel_rfl) (fun K hK => ?_)
        refine step_load _ rfl _ _ rfl _ (by first | rfl | go_simp) _ l1 ?_
        refine hK.out _ _ trivial (fun _ => ?_)
        clear hK
        try simp only [Act.put, List.setIfInBounds_toArray, List.set_cons_zero, List.set_cons_succ]
        refine takeR (fuel := 3) (i := 20) (v := .pointer (some ⟨blk, off + A * 9, none⟩)) rfl (by kernel_rfl) (by kernel_rfl) (by kernel_rfl) (fun _ _ _ h => h) (Or.inl ⟨rfl, fun W hW => by go_simp⟩) trivial ?_
        simp only [Act.put, List.setIfInBounds_toArray, List.set_cons_zero, List.set_cons_succ]
        refine consR (fuel := 2) (i := 21) rfl (by kernel_rfl) (fun K hK => ?_)
        refine step_store _ _ rfl _ _ _ rfl _ _ (by first | rfl | go_simp) (by first | rfl | go_simp) s1 ?_
        refine hK.out _ _ trivial (fun _ => ?_)
        clear hK
        try simp only [Act.put, List.setIfInBounds_toArray, List.set_cons_zero, List.set_cons_succ]
        refine takeR (fuel := 1) (i := 22) (v := .pointer (some ⟨blk, off + B * 9, none⟩)) rfl (by kernel_rfl) (by kernel_rfl) (by kernel_rfl) (fun _ _ _ h => h) (Or.inl ⟨rfl, fun W hW => by go_simp⟩) trivial ?_
        simp only [Act.put, List.setIfInBounds_toArray, List.set_cons_zero, List.set_cons_succ]
        refine consR (fuel := 0) (i := 23) rfl (by kernel_rfl) (fun K hK => ?_)
        refine step_store _ _ rfl _ _ _ rfl _ _ (by first | rfl | go_simp) (by first | rfl | go_simp) s2 ?_
        refine hK.out _ _ trivial (fun _ => ?_)
        clear hK
        try simp only [Act.put, List.setIfInBounds_toArray, List.set_cons_zero, List.set_cons_succ]
        refine wpAnyH_done (by kernel_rfl) ?_ _
        go_wp2_with fail
        go_roundw
        case rel => exact ⟨k + 1, swp e A B, by omega, by simp, HW2.out, HZ.out⟩
        case measure => simp [Lib.intOf]; omega
    · have hkz : ¬ (k : Int) < (m : Int) := by omega
      have HF : Hid (SrP w0 blk off (fun e => SS.Sw a b m d e ∧ PermIn a (b + m) d e) (.returned (.tuple #[])) wr) := ⟨rfl, e, HS.out.1, by rw [show m = k by omega]; exact HS.out.2.1, HS.out.2.2⟩
      clear HS
      go_wp2_with fail
      refine bodyPost_ret (results_none rfl _ _ _) rfl ?_
      exact HF.out
theorem xswapsn {w0 W : World} {blk off cap n : Nat} {d0 d : Array Ei} (R : Ro w0 blk off d0) (hd : d.size = d0.size) (hn : d.size = n) (hW : Sv w0 blk off d W) {a b m : Nat} (ha : a + m ≤ b) (hb : b + m ≤ d.size) :
    Calls Try.prog 117 #[.slice (some ⟨blk, off, none⟩) n cap, .int .i64 a, .int .i64 b, .int .i64 m, .func (.func 49) #[] #[]] W (SrP w0 blk off (fun e => SS.Sw a b m d e ∧ PermIn a (b + m) d e)) := by
  subst hn
  exact xswaps R hd hW ha hb
end
end Go.Proofs.Ytheikjjehidagaa
