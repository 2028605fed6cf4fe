/- layer 11: the document: an account that is wrong, ahead -/
import Derived.Test.YtbfnfebmmhhegaaT
import Derived.Test.YtbfnfebmmhhegaaS
import Derived.WalkKit
import Derived.ProofKit
import Derived.Handy
import Derived.WalkLawsBesides
import Derived.WalkSpells
import Derived.BigQuiet
import Derived.BigCall
import Derived.Deep.QuietTactic
import Derived.Deep.Light
import Derived.Deep.OwnRows
import Derived.Laws.AppendOwnNone
import Derived.Laws.Strings3
import Derived.Laws.RangeAny
import Derived.Deep.RegionWith
import Derived.Lib.BitFns
import Derived.Lib.Walk
import Derived.Lib.Strings
import Derived.Lib.OthersKept
import Derived.Deep.CutBlock
import Derived.Deep.DeepCutAuto
import Derived.Deep.LoopGhost
import Derived.Deep.RegionHeld3
import Derived.Lib.SmallJoins
import Derived.Maps.AppendAt
import Derived.Laws.IdiomStrings
import Derived.Lib.AppendZeros
import Derived.Deep.WholeRow
import Derived.Laws.BitsAllLaws
import Derived.Lib.ConvBytes
import Derived.Deep.RegionLaw
import Derived.Maps.OwnSet
import Derived.Maps.OwnOps
import Derived.Maps.RangeWalk
import Derived.Maps.Ext
import Derived.DeepKeys4
import Derived.Laws.StructEq
import Derived.Shelf.SlSortCmp.NoneTotal
namespace Go.Proofs.Ytbfnfebmmhhegaa
open Go.RowKit
set_option linter.unusedVariables false
set_option linter.unusedSimpArgs false
set_option maxRecDepth 20000
theorem rwrong (o b : Int) (s : ByteArray) (w : World) : Calls Try.prog 71 #[.agg #[.int .i64 o, .int .i64 b, .string s]] w fun e w' => e = .returned (.int .i64 (Num.wr (o, b, s.toList))) ∧ w' = w.alloc (.cells #[.int .i64 o, .int .i64 b, .string s] 40) := by
  have hl : Hid (s.toList.length = s.size) := size_toList s
  have hn := toL_nil s
  by_cases h1 : o < 0
  · have hr : Num.wr (o, b, s.toList) = 22 := wr22 (by omega)
    rw [hr]
    go_enter Try.func71, Try.ntmps71
    go_wp2
    go_ret
    exact ⟨rfl, rfl⟩
  by_cases h2 : 64 < o
  · have hr : Num.wr (o, b, s.toList) = 22 := wr22 (by omega)
    rw [hr]
    go_enter Try.func71, Try.ntmps71
    go_wp2
    go_ret
    exact ⟨rfl, rfl⟩
  by_cases h3 : b < 0
  · have hr : Num.wr (o, b, s.toList) = 22 := wr22 (by omega)
    rw [hr]
    go_enter Try.func71, Try.ntmps71
    go_wp2
    go_ret
    exact ⟨rfl, rfl⟩
  by_cases h4 : 1125899906842624 < b
  · have hr : Num.wr (o, b, s.toList) = 22 := wr22 (by omega)
    rw [hr]
    go_enter Try.func71, Try.ntmps71
    go_wp2
    go_ret
    exact ⟨rfl, rfl⟩
  by_cases h5 : s.size = 0
  · have hr : Num.wr (o, b, s.toList) = 21 := wr21 (by omega) (by left; rw [hl.out]; exact h5)
    rw [hr]
    have hn2 : (s.toList == []) = true := by rw [hn]; simp [h5]
    clear hn h5
    go_enter Try.func71, Try.ntmps71
    go_wp2
    go_ret
    exact ⟨rfl, rfl⟩
  have hn2 : (s.toList == []) = false := by rw [hn]; simp [h5]
  clear hn
  by_cases h6 : 40 < (s.size : Int)
  · have hr : Num.wr (o, b, s.toList) = 21 := wr21 (by omega) (by right; rw [hl.out]; omega)
    rw [hr]
    clear h5
    go_enter Try.func71, Try.ntmps71
    go_wp2
    go_ret
    exact ⟨rfl, rfl⟩
  · have hr : Num.wr (o, b, s.toList) = 0 := wr0 (by omega) (by rw [hl.out]; omega)
    rw [hr]
    clear h5
    go_enter Try.func71, Try.ntmps71
    go_wp2
    go_ret
    exact ⟨rfl, rfl⟩

theorem ahead_s {o b o2 b2 : Int} {t t2 : List UInt8} (h : t ≠ t2) : Num.aheadB (o, b, t) (o2, b2, t2) = decide (t < t2) := by
  unfold Num.aheadB
  rw [decide_eq_decide]
  constructor
  · rintro (k | ⟨k, _⟩)
    · exact k
    · exact absurd k h
  · exact fun k => .inl k
theorem ahead_o {o b o2 b2 : Int} {t : List UInt8} (h : o ≠ o2) : Num.aheadB (o, b, t) (o2, b2, t) = decide (o < o2) := by
  unfold Num.aheadB
  rw [decide_eq_decide]
  constructor
  · rintro (k | ⟨_, k | ⟨k, _⟩⟩)
    · exact absurd k (List.lt_irrefl _)
    · exact k
    · exact absurd k h
  · exact fun k => .inr ⟨rfl, .inl k⟩
theorem ahead_b {o b b2 : Int} {t : List UInt8} : Num.aheadB (o, b, t) (o, b2, t) = decide (b < b2) := by
  unfold Num.aheadB
  rw [decide_eq_decide]
  constructor
  · rintro (k | ⟨_, k | ⟨_, k⟩⟩)
    · exact absurd k (List.lt_irrefl _)
    · simp at k
    · exact k
  · exact fun k => .inr ⟨rfl, .inr ⟨rfl, k⟩⟩
set_option maxHeartbeats 1000000 in
theorem rahead (o b : Int) (s : ByteArray) (o2 b2 : Int) (s2 : ByteArray) (w : World) : Calls Try.prog 72 #[.agg #[.int .i64 o, .int .i64 b, .string s], .agg #[.int .i64 o2, .int .i64 b2, .string s2]] w fun e w' => e = .returned (.bool (Num.aheadB (o, b, s.toList) (o2, b2, s2.toList))) ∧ Below w.heap.size w w' := by
  have HB : Hid (∀ x y, Below w.heap.size w ((w.alloc x).alloc y)) := fun x y => ((Below.refl _ w).alloc (Nat.le_refl _) _).alloc (by simp) _
  have hbl := bl_eq s.toList s2.toList
  by_cases h1 : s.toList = s2.toList
  · by_cases h2 : o = o2
    · rw [h1, h2, ahead_b]
      have h1' : (s.toList == s2.toList) = true := by simp [h1]
      have h2' : (o == o2) = true := by simp [h2]
      clear h1 hbl
      subst h2
      go_enter Try.func72, Try.ntmps72
      go_wp2
      go_ret
      exact ⟨rfl, HB.out _ _⟩
    · rw [h1, ahead_o h2]
      have h1' : (s.toList == s2.toList) = true := by simp [h1]
      have h2' : (o == o2) = false := by simp [h2]
      clear h1 h2 hbl
      go_enter Try.func72, Try.ntmps72
      go_wp2
      go_ret
      exact ⟨rfl, HB.out _ _⟩
  · rw [ahead_s h1]
    have h1' : (s.toList == s2.toList) = false := by simp [h1]
    clear h1
    go_enter Try.func72, Try.ntmps72
    go_wp2
    go_ret
    exact ⟨rfl, HB.out _ _⟩
end Go.Proofs.Ytbfnfebmmhhegaa
