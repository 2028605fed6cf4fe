/- layer 13: Prices and Ending of the program's -/
import Derived.Test.YtheikjjehidagaaEJ
import Derived.WalkKit
import Derived.ProofKit
import Derived.Handy
import Derived.WalkLawsBesides
import Derived.WalkSpells
import Derived.BigQuiet
import Derived.BigCall
import Derived.Deep.QuietTactic
import Derived.Deep.Light
import Derived.Deep.OwnRows
import Derived.Laws.AppendOwnNone
import Derived.Laws.Strings3
import Derived.Laws.RangeAny
import Derived.Deep.RegionWith
import Derived.Lib.BitFns
import Derived.Lib.Walk
import Derived.Lib.Strings
import Derived.Lib.OthersKept
import Derived.Deep.CutBlock
import Derived.Deep.DeepCutAuto
import Derived.Deep.LoopGhost
import Derived.Deep.RegionHeld3
import Derived.Lib.SmallJoins
import Derived.Maps.AppendAt
import Derived.Laws.IdiomStrings
import Derived.Lib.AppendZeros
import Derived.Deep.WholeRow
import Derived.Laws.BitsAllLaws
import Derived.Lib.ConvBytes
import Derived.Deep.RegionLaw
import Derived.Maps.OwnSet
import Derived.Maps.OwnOps
import Derived.Maps.RangeWalk
import Derived.Maps.Ext
import Derived.DeepKeys4
import Derived.Laws.StructEq
import Derived.Deep.MidRow
import Derived.Lib.Bytealg
import Derived.Lib.Overlaps
import Derived.Lib.AppendZerosOnto
import Derived.Laws.MakeOwn
namespace Go.Proofs.Ytheikjjehidagaa.H5
open Go.RowKit
set_option linter.unusedVariables false
set_option linter.unusedSimpArgs false
open Num
set_option maxRecDepth 20000
theorem step_append_run {P : Program} (w : World) {ops : Array Oper} {o : Oper} {a : Act} {K : Act → World → Prop} {Q : Exit → Act → World → Prop} {E : Prop} (hgd : o.guard = none) (s x : Operand) (t tn : TypeId)
    (ho : o.op = .call { callee := .builtin .append, args := #[s, x], argTypes := #[t, tn] }) (vs vx : Value) (hs : a.eval s = vs) (hx : a.eval x = vx)
    (v' : Value) (w' : World) (hr : (Builtin.append_ #[t, tn] o.type #[vs, vx]).run P w = .ok v' w') (h : K (a.put o.dst v') w') :
    if Region.wanted o (yielded ops a.tmps) = true then Oper.wp P o a w K Q else E := by
  have hw : Region.wanted o (yielded ops a.tmps) = true := by simp [Region.wanted, hgd]
  rw [if_pos hw]
  exact Lib.wp_append_run w s x t tn ho vs vx hs hx v' w' hr h
theorem prc_one (x : Pr) : ∀ u ∈ prc x, u.oneCell' = true := by
  intro u hu
  unfold prc at hu
  simp at hu
  rcases hu with rfl | rfl <;> rfl
/-- some of them, told in another way -/
def sel {β : Type} (f : Kn → Option β) (L : List Kn) : List β := L.filterMap f
theorem sel_none {β : Type} {f : Kn → Option β} {L : List Kn} {k : Nat} (hk : k < L.length) (h : f L[k] = none) : sel f (L.take (k + 1)) = sel f (L.take k) := by
  unfold sel
  rw [← List.take_append_getElem hk, List.filterMap_append]
  simp [h]
theorem sel_some {β : Type} {f : Kn → Option β} {L : List Kn} {k : Nat} (hk : k < L.length) {y : β} (h : f L[k] = some y) : sel f (L.take (k + 1)) = sel f (L.take k) ++ [y] := by
  unfold sel
  rw [← List.take_append_getElem hk, List.filterMap_append]
  simp [h]
theorem sel_len {β : Type} (f : Kn → Option β) (L : List Kn) : (sel f L).length ≤ L.length := List.length_filterMap_le f L
def prF (k : Kn) : Option Pr := if k.p = 0 then none else some (k.a.i, k.p)
end Go.Proofs.Ytheikjjehidagaa.H5
