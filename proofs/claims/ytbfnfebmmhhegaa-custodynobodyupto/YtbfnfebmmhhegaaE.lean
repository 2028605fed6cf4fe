/- layer 11: a ledger in memory: put, move -/
import Derived.Test.YtbfnfebmmhhegaaD
import Derived.WalkKit
import Derived.ProofKit
import Derived.Handy
import Derived.WalkLawsBesides
import Derived.WalkSpells
import Derived.BigQuiet
import Derived.BigCall
import Derived.Deep.QuietTactic
import Derived.Deep.Light
import Derived.Deep.OwnRows
import Derived.Laws.AppendOwnNone
import Derived.Laws.Strings3
import Derived.Laws.RangeAny
import Derived.Deep.RegionWith
import Derived.Lib.BitFns
import Derived.Lib.Walk
import Derived.Lib.Strings
import Derived.Lib.OthersKept
import Derived.Deep.CutBlock
import Derived.Deep.DeepCutAuto
import Derived.Deep.LoopGhost
import Derived.Deep.RegionHeld3
import Derived.Lib.SmallJoins
import Derived.Maps.AppendAt
import Derived.Laws.IdiomStrings
import Derived.Lib.AppendZeros
import Derived.Deep.WholeRow
import Derived.Laws.BitsAllLaws
import Derived.Lib.ConvBytes
import Derived.Deep.RegionLaw
import Derived.Maps.OwnSet
import Derived.Maps.OwnOps
import Derived.Maps.RangeWalk
import Derived.Maps.Ext
import Derived.DeepKeys4
import Derived.Laws.StructEq
namespace Go.Proofs.Ytbfnfebmmhhegaa
open Go.RowKit
set_option linter.unusedVariables false
set_option linter.unusedSimpArgs false
theorem step_call {P : Program} (w : World) {ops : Array Oper} {o : Oper} {a : Act} {K : Act → World → Prop} {Q : Exit → Act → World → Prop} {E : Prop} (hgd : o.guard = none) (f : FuncId) (args : Array Value)
    (hrun : (execOp a.eval o).run P w = .ok (.enter f args) w) (R : Value → World → Prop) (hc : Calls P f args w fun e w' => ∃ v, e = .returned v ∧ R v w') (h : ∀ v w', R v w' → K (a.put o.dst v) w') :
    if Region.wanted o (yielded ops a.tmps) = true then Oper.wp P o a w K Q else E := by
  have hw : Region.wanted o (yielded ops a.tmps) = true := by simp [Region.wanted, hgd]
  rw [if_pos hw]
  unfold Oper.wp
  rw [hrun, Oper.upon_enter]
  refine hc.mono fun e w' hh => ?_
  obtain ⟨v, rfl, hr⟩ := hh
  exact h v w' hr
theorem step_delete {P : Program} (w : World) {ops : Array Oper} {o : Oper} {a : Act} {K : Act → World → Prop} {Q : Exit → Act → World → Prop} {E : Prop} (hgd : o.guard = none) (s x : Operand) (t tn : TypeId)
    (ho : o.op = .call { callee := .builtin .delete, args := #[s, x], argTypes := #[t, tn] }) (vs vx : Value) (hs : a.eval s = vs) (hx : a.eval x = vx)
    (v' : Value) (w' : World) (hr : (Builtin.delete_ #[t, tn] o.type #[vs, vx]).run P w = .ok v' w') (h : K (a.put o.dst v') w') :
    if Region.wanted o (yielded ops a.tmps) = true then Oper.wp P o a w K Q else E := by
  have hw : Region.wanted o (yielded ops a.tmps) = true := by simp [Region.wanted, hgd]
  rw [if_pos hw]
  unfold Oper.wp
  simp [execOp, ho, resolve, invoke, builtin, hs, hx, hr, Result.andThen]
  exact h
/-- a ledger at q, its map at m, holds L -/
structure Lg (w : World) (q m : Nat) (L : List Num.Bal) : Prop where
  b : Bx w q #[.map (some m)] 109
  m : Mp w m L
theorem Lg.ne {w : World} {q m : Nat} {L : List Num.Bal} (h : Lg w q m L) : q ≠ m := by
  intro e
  obtain ⟨es, ⟨xs, c, h1, _⟩, _⟩ := h.m
  have h2 : w.heap[q]? = some (.cells #[.map (some m)] 109 (0, 0)) := h.b
  rw [e, h1] at h2
  cases h2
theorem Lg.kept {w w' : World} {q m : Nat} {L : List Num.Bal} {row : Option Nat} (h : Lg w q m L) (g : w.grownBy w' row) (h1 : some q ≠ row) (h2 : some m ≠ row) : Lg w' q m L := ⟨h.b.kept g h1, h.m.kept g h2⟩
theorem Lg.alloc {w : World} {q m : Nat} {L : List Num.Bal} (h : Lg w q m L) (o : Obj) : Lg (w.alloc o) q m L := h.kept (World.grownBy_alloc w o none) (by simp) (by simp)
theorem Lg.drew {w : World} {q m : Nat} {L : List Num.Bal} (h : Lg w q m L) : Lg w.drew q m L := ⟨h.b, h.m.same rfl⟩
theorem grown_of_below {w w' : World} (h : Below w.heap.size w w') (r : Option Nat) : w.grownBy w' r := ⟨h.os, h.tape, h.output, h.size, fun k hk _ => h.block k hk⟩
theorem Lg.below {w w' : World} {q m : Nat} {L : List Num.Bal} (h : Lg w q m L) (g : Below w.heap.size w w') : Lg w' q m L := h.kept (grown_of_below g none) (by simp) (by simp)
theorem grown_trans {a b c : World} {r : Option Nat} (h : a.grownBy b r) (k : b.grownBy c r) : a.grownBy c r :=
  ⟨k.os.trans h.os, k.tape.trans h.tape, k.output.trans h.output, Nat.le_trans h.size k.size, fun i hi hr => (k.block i (Nat.lt_of_lt_of_le hi h.size) hr).trans (h.block i hi hr)⟩
theorem grown_drew (w : World) (r : Option Nat) : w.grownBy w.drew r := ⟨rfl, rfl, rfl, Nat.le_refl _, fun _ _ _ => rfl⟩
theorem grown_alloc (w : World) (o : Obj) (r : Option Nat) : w.grownBy (w.alloc o) r := ⟨(World.grownBy_alloc w o none).os, (World.grownBy_alloc w o none).tape, (World.grownBy_alloc w o none).output, (World.grownBy_alloc w o none).size, fun k hk _ => (World.grownBy_alloc w o none).block k hk (by simp)⟩
def PutP (q m : Nat) (L : List Num.Bal) (w : World) (e : Ending) (w' : World) : Prop := e = .returned (.tuple #[]) ∧ Lg w' q m L ∧ w.grownBy w' (some m)
set_option maxRecDepth 20000 in
theorem xput0 (q m : Nat) (L : List Num.Bal) (o b : Int) (s : ByteArray) (w : World) (h : Lg w q m L) (ha : Wa (o, b, s.toList)) : Calls Try.prog 69 #[.pointer (some ⟨q, 0, none⟩), .agg #[.int .i64 o, .int .i64 b, .string s], .int .i64 0] w (PutP q m (Num.set L (o, b, s.toList) 0) w) := by
  have hne := h.ne
  have HG : Hid (w.grownBy (w.alloc (.cells #[.int .i64 o, .int .i64 b, .string s] 69)).drew (some m)) := grown_trans (grown_alloc w _ _) (grown_drew _ _)
  have h1 := (h.alloc (.cells #[.int .i64 o, .int .i64 b, .string s] 69)).drew
  have hx : Bx (w.alloc (.cells #[.int .i64 o, .int .i64 b, .string s] 69)).drew w.heap.size #[.int .i64 o, .int .i64 b, .string s] 69 := Bx.new w _ _
  obtain ⟨w3, hr, hm3, hg3, hs3⟩ := h1.m.drop' ha 0
  have HL3 : Hid (Lg w3 q m (Num.set L (o, b, s.toList) 0)) := ⟨h1.b.kept hg3 (by simp [hne]), hm3⟩
  have HG3 : Hid (w.grownBy w3 (some m)) := grown_trans HG.out hg3
  have cq : w.cell? ⟨q, 0, none⟩ = some (.map (some m)) := h.b.cell 0
  have hq := h.b.lt
  have hc : (w.alloc (.cells #[.int .i64 o, .int .i64 b, .string s] 69)).cell? ⟨q, 0, none⟩ = some (.map (some m)) := (h.alloc _).b.cell 0
  clear h h1 hm3 hg3 hs3 HG ha
  go_enter Try.func69, Try.ntmps69
  go_wp2_with fail
  go_region_law (refine step_delete _ (by rfl) _ _ 107 69 (by rfl) _ _ (by rfl) (by rfl) _ w3 hr ?_)
  all_goals
    go_wp2_with fail
    refine bodyPost_ret (results_none rfl _ _ _) rfl ?_
    exact ⟨rfl, HL3.out, HG3.out⟩
set_option maxRecDepth 20000 in
set_option maxHeartbeats 1000000 in
theorem xput1 (q m : Nat) (L : List Num.Bal) (o b n : Int) (s : ByteArray) (w : World) (h : Lg w q m L) (ha : Wa (o, b, s.toList)) (hs : s.size ≤ 281474976710656) (hn : n ≠ 0) (hw : (Lit.int .i64 n).wf = true) (hl : L.length < maxLen) : Calls Try.prog 69 #[.pointer (some ⟨q, 0, none⟩), .agg #[.int .i64 o, .int .i64 b, .string s], .int .i64 n] w (PutP q m (Num.set L (o, b, s.toList) n) w) := by
  have hne := h.ne
  have HG : Hid (w.grownBy (w.alloc (.cells #[.int .i64 o, .int .i64 b, .string s] 69)).drew (some m)) := grown_trans (grown_alloc w _ _) (grown_drew _ _)
  have h1 := (h.alloc (.cells #[.int .i64 o, .int .i64 b, .string s] 69)).drew
  have HX : Hid (Bx (w.alloc (.cells #[.int .i64 o, .int .i64 b, .string s] 69)).drew w.heap.size #[.int .i64 o, .int .i64 b, .string s] 69) := Bx.new w _ _
  have HCL : Hid (∀ w, Calls Try.prog 73 #[.agg #[.int .i64 o, .int .i64 b, .string s]] w fun e w' => ∃ v, e = .returned v ∧ (v = .agg #[.int .i64 o, .int .i64 b, .string s] ∧ Below w.heap.size w w')) := fun w => (xapart o b s hs w).mono fun _ _ h => ⟨_, h.1, rfl, h.2⟩
  have HUP : Hid (∀ w4, Below (w.alloc (.cells #[.int .i64 o, .int .i64 b, .string s] 69)).drew.heap.size (w.alloc (.cells #[.int .i64 o, .int .i64 b, .string s] 69)).drew w4 → w4.cell? ⟨q, 0, none⟩ = some (.map (some m)) ∧ ∃ w5, (Instr.mapUpdate 107 (.map (some m)) (.agg #[.int .i64 o, .int .i64 b, .string s]) (.int .i64 n)).run Try.prog w4 = .ok () w5 ∧ Hid (Lg w5 q m (Num.set L (o, b, s.toList) n) ∧ w.grownBy w5 (some m))) := by
    intro w4 hb
    have h4 := h1.below hb
    obtain ⟨w5, r1, r2, r3, r4⟩ := h4.m.store' ha hn hw hl
    exact ⟨h4.b.cell 0, w5, r1, ⟨h4.b.kept r3 (by simp [hne]), r2⟩, grown_trans HG.out (grown_trans (grown_of_below hb _) r3)⟩
  have cq : w.cell? ⟨q, 0, none⟩ = some (.map (some m)) := h.b.cell 0
  have hq := h.b.lt
  have hn0 : (n == 0) = false := by simpa using hn
  clear h h1 HG ha HX hn hw hl hs
  go_enter Try.func69, Try.ntmps69
  go_wp2_with fail
  go_region_law (refine step_call _ (by rfl) 73 #[.agg #[.int .i64 o, .int .i64 b, .string s]] (by go_simp) _ (HCL.out _) ?_; rintro v9 w4 ⟨rfl, h4⟩; obtain ⟨k1, w5, hr, HZ⟩ := HUP.out _ h4)
  all_goals
    go_end0
    exact ⟨rfl, HZ.out.1, HZ.out.2⟩
theorem xput (q m : Nat) (L : List Num.Bal) (o b n : Int) (s : ByteArray) (w : World) (h : Lg w q m L) (ha : Wa (o, b, s.toList)) (hs : s.size ≤ 281474976710656) (hw : (Lit.int .i64 n).wf = true) (hl : L.length < maxLen) : Calls Try.prog 69 #[.pointer (some ⟨q, 0, none⟩), .agg #[.int .i64 o, .int .i64 b, .string s], .int .i64 n] w (PutP q m (Num.set L (o, b, s.toList) n) w) := by
  by_cases hn : n = 0
  · subst hn; exact xput0 q m L o b s w h ha
  · exact xput1 q m L o b n s w h ha hs hn hw hl
end Go.Proofs.Ytbfnfebmmhhegaa
