/- layer 13: prices, securities as cells; how many days are left, of both -/
import Derived.Test.YtheikjjehidagaaEB
import Derived.WalkKit
import Derived.ProofKit
import Derived.Handy
import Derived.WalkLawsBesides
import Derived.WalkSpells
import Derived.BigQuiet
import Derived.BigCall
import Derived.Deep.QuietTactic
import Derived.Deep.Light
import Derived.Deep.OwnRows
import Derived.Laws.AppendOwnNone
import Derived.Laws.Strings3
import Derived.Laws.RangeAny
import Derived.Deep.RegionWith
import Derived.Lib.BitFns
import Derived.Lib.Walk
import Derived.Lib.Strings
import Derived.Lib.OthersKept
import Derived.Deep.CutBlock
import Derived.Deep.DeepCutAuto
import Derived.Deep.LoopGhost
import Derived.Deep.RegionHeld3
import Derived.Lib.SmallJoins
import Derived.Maps.AppendAt
import Derived.Laws.IdiomStrings
import Derived.Lib.AppendZeros
import Derived.Deep.WholeRow
import Derived.Laws.BitsAllLaws
import Derived.Lib.ConvBytes
import Derived.Deep.RegionLaw
import Derived.Maps.OwnSet
import Derived.Maps.OwnOps
import Derived.Maps.RangeWalk
import Derived.Maps.Ext
import Derived.DeepKeys4
import Derived.Laws.StructEq
import Derived.Deep.MidRow
import Derived.Lib.Bytealg
import Derived.Lib.Overlaps
import Derived.Lib.AppendZerosOnto
import Derived.Laws.MakeOwn
namespace Go.Proofs.Ytheikjjehidagaa.H5
open Go.RowKit
set_option linter.unusedVariables false
set_option linter.unusedSimpArgs false
open Num
set_option maxRecDepth 20000
def prc (x : Pr) : List Value := [.string x.1, .int .i64 x.2]
theorem prc_len (x : Pr) : (prc x).length = 2 := rfl
abbrev Prs := Rw 2 prc
def acs (a : As) : List Value := [.string a.i, .int .i64 a.iss, .int .i64 a.rat, .int .i64 a.mat, .string a.c]
theorem acs_len (a : As) : (acs a).length = 5 := rfl
theorem acs_one (a : As) : ∀ u ∈ acs a, u.oneCell' = true := by
  intro u hu
  unfold acs at hu
  simp at hu
  rcases hu with rfl | rfl | rfl | rfl | rfl <;> rfl
/-- how many days are left -/
def lft (m d : Int) : Int := if d < 0 ∨ 200000 < d then -1 else m - d
def LfP (n : Int) (w : World) (e : Ending) (w' : World) : Prop := e = .returned (.int .i64 n) ∧ Below w.heap.size w w'
theorem xleft (i : ByteArray) (a b m : Int) (s : ByteArray) (d : Int) (hm : 0 ≤ m ∧ m ≤ 200000) (w : World) : Calls Try.prog 105 #[.agg #[.string i, .int .i64 a, .int .i64 b, .int .i64 m, .string s], .int .i64 d] w (LfP (lft m d) w) := by
  have HB : Hid (∀ y, Below w.heap.size w (w.alloc y)) := fun y => (Below.refl _ w).alloc (Nat.le_refl _) _
  unfold lft
  by_cases h1 : d < 0
  · rw [if_pos (.inl h1)]
    go_enter Try.func105, Try.ntmps105
    go_wp2_with fail
    go_ret
    exact ⟨rfl, HB.out _⟩
  by_cases h2 : 200000 < d
  · rw [if_pos (.inr h2)]
    go_enter Try.func105, Try.ntmps105
    go_wp2_with fail
    go_ret
    exact ⟨rfl, HB.out _⟩
  · rw [if_neg (by omega)]
    go_enter Try.func105, Try.ntmps105
    go_wp2_with fail
    go_ret
    exact ⟨rfl, HB.out _⟩
theorem rleft (i : ByteArray) (a b m : Int) (s : ByteArray) (d : Int) (hm : 0 ≤ m ∧ m ≤ 200000) (w : World) : Calls Try.prog 91 #[.agg #[.string i, .int .i64 a, .int .i64 b, .int .i64 m, .string s], .int .i64 d] w (LfP (lft m d) w) := by
  have HB : Hid (∀ y, Below w.heap.size w (w.alloc y)) := fun y => (Below.refl _ w).alloc (Nat.le_refl _) _
  unfold lft
  by_cases h1 : d < 0
  · rw [if_pos (.inl h1)]
    go_enter Try.func91, Try.ntmps91
    go_wp2_with fail
    go_ret
    exact ⟨rfl, HB.out _⟩
  by_cases h2 : 200000 < d
  · rw [if_pos (.inr h2)]
    go_enter Try.func91, Try.ntmps91
    go_wp2_with fail
    go_ret
    exact ⟨rfl, HB.out _⟩
  · rw [if_neg (by omega)]
    go_enter Try.func91, Try.ntmps91
    go_wp2_with fail
    go_ret
    exact ⟨rfl, HB.out _⟩
end Go.Proofs.Ytheikjjehidagaa.H5
