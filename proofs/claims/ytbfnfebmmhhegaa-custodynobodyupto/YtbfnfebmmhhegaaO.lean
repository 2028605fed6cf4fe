/- layer 11: no ledger -/
import Derived.Test.YtbfnfebmmhhegaaN
import Derived.WalkKit
import Derived.ProofKit
import Derived.Handy
import Derived.WalkLawsBesides
import Derived.WalkSpells
import Derived.BigQuiet
import Derived.BigCall
import Derived.Deep.QuietTactic
import Derived.Deep.Light
import Derived.Deep.OwnRows
import Derived.Laws.AppendOwnNone
import Derived.Laws.Strings3
import Derived.Laws.RangeAny
import Derived.Deep.RegionWith
import Derived.Lib.BitFns
import Derived.Lib.Walk
import Derived.Lib.Strings
import Derived.Lib.OthersKept
import Derived.Deep.CutBlock
import Derived.Deep.DeepCutAuto
import Derived.Deep.LoopGhost
import Derived.Deep.RegionHeld3
import Derived.Lib.SmallJoins
import Derived.Maps.AppendAt
import Derived.Laws.IdiomStrings
import Derived.Lib.AppendZeros
import Derived.Deep.WholeRow
import Derived.Laws.BitsAllLaws
import Derived.Lib.ConvBytes
import Derived.Deep.RegionLaw
import Derived.Maps.OwnSet
import Derived.Maps.OwnOps
import Derived.Maps.RangeWalk
import Derived.Maps.Ext
import Derived.DeepKeys4
import Derived.Laws.StructEq
namespace Go.Proofs.Ytbfnfebmmhhegaa
open Go.RowKit
set_option linter.unusedVariables false
set_option linter.unusedSimpArgs false
def LackC (p : Value) (w : World) : Prop := Calls Try.prog 60 #[p] w fun e w' => e = .returned (.bool true) ∧ w = w'
theorem lack_nil (w : World) : LackC (.pointer none) w := (ylack w).mono fun _ _ h => ⟨h.1, h.2.symm⟩
theorem lack_zero (q : Nat) (w : World) (h : Bx w q #[.map none] 109) : LackC (.pointer (some ⟨q, 0, none⟩)) w := (zlack q w h).mono fun _ _ h => ⟨h.1, h.2.symm⟩
theorem nPost (p v : Value) (w : World) (h : LackC p w) : Calls Try.prog 48 #[p, v] w fun e w' => e = .returned (.tuple #[.int .i64 0, .int .i64 3]) ∧ w = w' := by
  have HC : Hid (Calls Try.prog 60 #[p] w fun e w' => e = .returned (.bool true) ∧ w = w') := h
  clear h
  go_enter Try.func48, Try.ntmps48
  go_wp2_with (go_at_call 60; refine HC.out.mono ?_; rintro e w1 ⟨rfl, rfl⟩)
  go_returns
  exact ⟨rfl, rfl⟩
theorem nBal (p : Value) (o b : Int) (s : ByteArray) (w : World) (h : ∀ W, Below w.heap.size w W → LackC p W) : Calls Try.prog 42 #[p, .agg #[.int .i64 o, .int .i64 b, .string s]] w fun e w' => e = .returned (.int .i64 0) ∧ Below w.heap.size w w' := by
  have HB : Hid (Below w.heap.size w (w.alloc (.cells #[.int .i64 o, .int .i64 b, .string s] 69))) := (Below.refl _ w).alloc (Nat.le_refl _) _
  have HC : Hid (Calls Try.prog 60 #[p] (w.alloc (.cells #[.int .i64 o, .int .i64 b, .string s] 69)) fun e w' => e = .returned (.bool true) ∧ (w.alloc (.cells #[.int .i64 o, .int .i64 b, .string s] 69)) = w') := h _ HB.out
  clear h
  go_enter Try.func42, Try.ntmps42
  go_wp2_with (go_at_call 60; refine HC.out.mono ?_; rintro e w1 ⟨rfl, rfl⟩)
  go_ret
  exact ⟨rfl, HB.out⟩
theorem nAll (p : Value) (w : World) (h : LackC p w) : Calls Try.prog 58 #[p] w fun e w' => e = .returned (.slice none 0 0) ∧ w = w' := by
  have HC : Hid (Calls Try.prog 60 #[p] w fun e w' => e = .returned (.bool true) ∧ w = w') := h
  clear h
  go_enter Try.func58, Try.ntmps58
  go_wp2_with (go_at_call 60; refine HC.out.mono ?_; rintro e w1 ⟨rfl, rfl⟩)
  go_ret
  exact ⟨rfl, rfl⟩
theorem nHeld (p : Value) (o : Int) (s : ByteArray) (w : World) (h : LackC p w) : Calls Try.prog 62 #[p, .int .i64 o, .string s] w fun e w' => e = .returned (.int .i64 0) ∧ w = w' := by
  have HC : Hid (Calls Try.prog 60 #[p] w fun e w' => e = .returned (.bool true) ∧ w = w') := h
  clear h
  go_enter Try.func62, Try.ntmps62
  go_wp2_with (go_at_call 60; refine HC.out.mono ?_; rintro e w1 ⟨rfl, rfl⟩)
  go_ret
  exact ⟨rfl, rfl⟩
theorem nOut (p : Value) (s : ByteArray) (w : World) (h : LackC p w) : Calls Try.prog 46 #[p, .string s] w fun e w' => e = .returned (.int .i64 0) ∧ w = w' := by
  have HC : Hid (Calls Try.prog 62 #[p, .int .i64 0, .string s] w fun e w' => e = .returned (.int .i64 0) ∧ w = w') := nHeld p 0 s w h
  clear h
  go_enter Try.func46, Try.ntmps46
  go_wp2_with (go_at_call 62; refine HC.out.mono ?_; rintro e w1 ⟨rfl, rfl⟩)
  go_ret
  exact ⟨rfl, rfl⟩
theorem nClone (p : Value) (w : World) (h : LackC p w) : Calls Try.prog 57 #[p] w fun e w' => e = .returned (.pointer none) ∧ w = w' := by
  have HC : Hid (Calls Try.prog 60 #[p] w fun e w' => e = .returned (.bool true) ∧ w = w') := h
  clear h
  go_enter Try.func57, Try.ntmps57
  go_wp2_with (go_at_call 60; refine HC.out.mono ?_; rintro e w1 ⟨rfl, rfl⟩)
  go_ret
  exact ⟨rfl, rfl⟩
theorem compact0 (w : World) : Calls Try.prog 61 #[.slice none 0 0] w fun e w' => e = .returned (.slice none 0 0) ∧ w = w' := by
  go_enter Try.func61, Try.ntmps61
  go_wp2
  go_ret
  exact ⟨rfl, rfl⟩
theorem nThings (p : Value) (w : World) (h : LackC p w) : Calls Try.prog 45 #[p] w fun e w' => e = .returned (.slice none 0 0) ∧ w = w' := by
  have HC : Hid (Calls Try.prog 58 #[p] w fun e w' => e = .returned (.slice none 0 0) ∧ w = w') := nAll p w h
  have HD : Hid (Calls Try.prog 61 #[.slice none 0 0] w fun e w' => e = .returned (.slice none 0 0) ∧ w = w') := compact0 w
  clear h
  go_enter Try.func45, Try.ntmps45
  go_wp2_with (go_at_call 58; refine HC.out.mono ?_; rintro e w1 ⟨rfl, rfl⟩)
  refine wp_loop_rounds 1 ?_
  rw [rounds_succ]
  go_wp2_with (go_at_call 61; refine HD.out.mono ?_; rintro e w1 ⟨rfl, rfl⟩)
  go_ret
  exact ⟨rfl, rfl⟩
def TrueP (w : World) (e : Ending) (w' : World) : Prop := e = .returned (.bool true) ∧ Below w.heap.size w w'
end Go.Proofs.Ytbfnfebmmhhegaa
