/- layer 15: an item; small tests -/
import Derived.Test.YtheikjjehidagaaEC
import Derived.WalkKit
import Derived.ProofKit
import Derived.Handy
import Derived.WalkLawsBesides
import Derived.WalkSpells
import Derived.BigQuiet
import Derived.BigCall
import Derived.Deep.QuietTactic
import Derived.Deep.Light
import Derived.Deep.OwnRows
import Derived.Laws.AppendOwnNone
import Derived.Laws.Strings3
import Derived.Laws.RangeAny
import Derived.Deep.RegionWith
import Derived.Lib.BitFns
import Derived.Lib.Walk
import Derived.Lib.Strings
import Derived.Lib.OthersKept
import Derived.Deep.CutBlock
import Derived.Deep.DeepCutAuto
import Derived.Deep.LoopGhost
import Derived.Deep.RegionHeld3
import Derived.Lib.SmallJoins
import Derived.Maps.AppendAt
import Derived.Laws.IdiomStrings
import Derived.Lib.AppendZeros
import Derived.Deep.WholeRow
import Derived.Laws.BitsAllLaws
import Derived.Lib.ConvBytes
import Derived.Deep.RegionLaw
import Derived.Maps.OwnSet
import Derived.Maps.OwnOps
import Derived.Maps.RangeWalk
import Derived.Maps.Ext
import Derived.DeepKeys4
import Derived.Laws.StructEq
import Derived.Deep.MidRow
import Derived.Lib.Bytealg
import Derived.Lib.Overlaps
import Derived.Lib.AppendZerosOnto
import Derived.Laws.MakeOwn
namespace Go.Proofs.Ytheikjjehidagaa.H5
open Go.RowKit
set_option linter.unusedVariables false
set_option linter.unusedSimpArgs false
open Num
set_option maxRecDepth 20000
abbrev Rng (n : Int) : Prop := -9223372036854775808 ≤ n ∧ n ≤ 9223372036854775807
def BoP (b : Bool) (w : World) (e : Ending) (w' : World) : Prop := e = .returned (.bool b) ∧ w = w'
abbrev Qk (q : Int) : Prop := 0 ≤ q ∧ q ≤ 1125899906842624
def qkB (q : Int) : Bool := decide (Qk q)
theorem ret_bool {x y : Bool} (h : x = y) : Ending.returned (Value.bool x) = .returned (.bool y) := by rw [h]
theorem xgq (q : Int) (w : World) : Calls Try.prog 88 #[.int .i64 q] w (BoP (qkB q) w) := by
  go_enter Try.func88, Try.ntmps88
  go_wp2
  all_goals go_ret
  all_goals exact ⟨ret_bool (by unfold qkB; symm; first | exact decide_eq_true (by omega) | exact decide_eq_false (by omega) | (rw [Bool.eq_iff_iff, decide_eq_true_iff, decide_eq_true_iff]; omega)), rfl⟩
def LeP (n : Int) (b : Bool) (w : World) (e : Ending) (w' : World) : Prop := e = .returned (.tuple #[.int .i64 n, .bool b]) ∧ Below w.heap.size w w'
structure It where
  l : ByteArray
  q : Int
  a : As
  p : Int
  c : Int
def its (x : It) : List Value := [.string x.l, .int .i64 x.q, .string x.a.i, .int .i64 x.a.iss, .int .i64 x.a.rat, .int .i64 x.a.mat, .string x.a.c, .int .i64 x.p, .int .i64 x.c]
theorem its_len (x : It) : (its x).length = 9 := rfl
theorem its_one (x : It) : ∀ u ∈ its x, u.oneCell' = true := by
  intro u hu
  simp only [its, List.mem_cons, List.not_mem_nil, or_false] at hu
  rcases hu with rfl | rfl | rfl | rfl | rfl | rfl | rfl | rfl | rfl <;> rfl
theorem N1.below_drewN {B : Nat} {a w : World} {n : Nat} (h : Below B a w) : Below B a (w.drewN n) := ⟨h.os, h.tape, h.output, h.size, h.block⟩
theorem load46 (W : World) (b p p1 : Nat) (v0 v1 : Value) (h1 : p1 = p + 1) (c0 : W.cell? ⟨b, p, none⟩ = some v0) (c1 : W.cell? ⟨b, p1, none⟩ = some v1) : (Instr.loadAt 43 (.pointer (some ⟨b, p, none⟩))).run Try.prog W = .ok (.agg #[v0, v1]) W := by
  subst h1
  go_simp
theorem load27 (W : World) (b p p1 p2 p3 p4 : Nat) (v0 v1 v2 v3 v4 : Value) (h1 : p1 = p + 1) (h2 : p2 = p + 2) (h3 : p3 = p + 3) (h4 : p4 = p + 4) (c0 : W.cell? ⟨b, p, none⟩ = some v0) (c1 : W.cell? ⟨b, p1, none⟩ = some v1) (c2 : W.cell? ⟨b, p2, none⟩ = some v2) (c3 : W.cell? ⟨b, p3, none⟩ = some v3) (c4 : W.cell? ⟨b, p4, none⟩ = some v4) : (Instr.loadAt 45 (.pointer (some ⟨b, p, none⟩))).run Try.prog W = .ok (.agg #[v0, v1, v2, v3, v4]) W := by
  subst h1 h2 h3 h4
  go_simp
end Go.Proofs.Ytheikjjehidagaa.H5
