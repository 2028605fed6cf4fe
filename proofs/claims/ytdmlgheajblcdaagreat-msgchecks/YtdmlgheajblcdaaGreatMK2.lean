/- Layer 10: barred ones, by the program. -/
import Derived.Test.YtdmlgheajblcdaaGreatMK
import Derived.WalkKit
import Derived.ProofKit
import Derived.Handy
import Derived.WalkLawsBesides
import Derived.WalkSpells
import Derived.BigQuiet
import Derived.BigCall
import Derived.Deep.QuietTactic
import Derived.Deep.Light
import Derived.Deep.OwnRows
import Derived.Laws.AppendOwnNone
import Derived.Laws.Strings3
import Derived.Laws.RangeAny
import Derived.Deep.RegionWith
import Derived.Lib.BitFns
import Derived.Lib.Walk
import Derived.Lib.Strings
import Derived.Lib.OthersKept
import Derived.Deep.CutBlock
import Derived.Deep.DeepCutAuto
import Derived.Deep.LoopGhost
import Derived.Deep.RegionHeld3
import Derived.Lib.SmallJoins
import Derived.Maps.AppendAt
import Derived.Laws.IdiomStrings
import Derived.Lib.AppendZeros
import Derived.Deep.WholeRow
import Derived.Laws.BitsAllLaws
import Derived.Lib.ConvBytes
import Derived.Deep.RegionLaw
namespace Go.Proofs.YtdmlgheajblcdaaGreat
open Go.RowKit
set_option linter.unusedVariables false
set_option linter.unusedSimpArgs false
set_option maxRecDepth 20000
/-- the one ahead -/
def ah {α : Type} (xs : List α) : Nat → Option α
  | 0 => none
  | k + 1 => xs[k]?
theorem barB_at {xs : List Int} {k : Nat} (h : k < xs.length) : barB (ah xs k) (xs.drop k) = (inn xs[k] 0 9999 && (baGo (ah xs k) xs[k] && barB (ah xs (k + 1)) (xs.drop (k + 1)))) := by
  rw [drop_at' h]
  show (_ && (_ && barB (some xs[k]) _)) = _
  rw [show ah xs (k + 1) = some xs[k] from List.getElem?_eq_getElem h]
set_option maxHeartbeats 4000000 in
theorem xbarred (xs : List Int) (a : Option Addr) (cap : Nat) (w : World) (hC : Ins w.heap.size w a xs) (hl : xs.length ≤ 9223372036854775807) (g : Bool) (hg : barB none xs = g) : Calls Tryz.prog 44 #[.slice a xs.length cap] w (KP (.bool g) w) := by
  have HI : Hid (Ins w.heap.size w a xs) := hC
  have HG : Hid (barB (ah xs 0) (xs.drop 0) = g) := hg
  clear hC hg
  go_enter Tryz.func44, Tryz.ntmps44
  go_wp2_with fail
  go_loopw [7] (fun i wr => ∃ (k : Nat), i = .int .i64 k ∧ k ≤ xs.length ∧ Hid (barB (ah xs k) (xs.drop k) = g) ∧ wr = w) (fun i _ => xs.length - (Lib.intOf i).toNat)
  case atStart => exact ⟨0, rfl, Nat.zero_le _, HG, rfl⟩
  case round =>
    clear HG
    obtain ⟨k, rfl, hk, HK, rfl⟩ := hrel
    by_cases hkn : k < xs.length
    · have hkz : (k : Int) < (xs.length : Int) := by omega
      obtain ⟨b, off, rfl, hbl, hce⟩ := HI.out (by omega)
      have HK2 : Hid ((inn xs[k] 0 9999 && (baGo (ah xs k) xs[k] && barB (ah xs (k + 1)) (xs.drop (k + 1)))) = g) := by unfold Hid; rw [← barB_at hkn]; exact HK.out
      have hc1 := hce k hkn
      clear HK
      by_cases e1 : inn xs[k] 0 9999 = true
      · cases k with
        | zero =>
          have HK3 : Hid (barB (ah xs 1) (xs.drop 1) = g) := by have := HK2.out; rw [e1] at this; exact this
          clear HK2 hce
          have hc0 : wr.cell? ⟨b, off, none⟩ = some (.int .i64 xs[0]) := hc1
          generalize xs[0] = n at *
          go_wp2_with (go_at_call 39; refine (xwithin _ _ _ _ e1 _).mono ?_; rintro e w2 ⟨rfl, rfl⟩)
          exact ⟨⟨1, by go_num, by omega, HK3, trivial⟩, by simp [Lib.intOf]; omega⟩
        | succ j =>
          have hc2 : wr.cell? ⟨b, off + j, none⟩ = some (.int .i64 xs[j]) := hce j (by omega)
          have hp : ah xs (j + 1) = some xs[j] := List.getElem?_eq_getElem _
          have HK3 : Hid ((decide (xs[j] < xs[j + 1]) && barB (ah xs (j + 1 + 1)) (xs.drop (j + 1 + 1))) = g) := by have := HK2.out; rw [e1, hp] at this; exact this
          clear HK2 hce hp
          generalize xs[j + 1] = n at *
          generalize xs[j] = m at *
          by_cases e2 : n ≤ m
          · have HK4 : Hid (false = g) := by have := HK3.out; rw [decide_eq_false (by omega)] at this; exact this
            clear HK3
            go_wp2_with (go_at_call 39; refine (xwithin _ _ _ _ e1 _).mono ?_; rintro e w2 ⟨rfl, rfl⟩)
            go_ret
            exact KP.mk (congrArg Value.bool HK4.out) (Below.refl _ _)
          · have HK4 : Hid (barB (ah xs (j + 1 + 1)) (xs.drop (j + 1 + 1)) = g) := by have := HK3.out; rw [decide_eq_true (by omega)] at this; exact this
            clear HK3
            go_wp2_with (go_at_call 39; refine (xwithin _ _ _ _ e1 _).mono ?_; rintro e w2 ⟨rfl, rfl⟩)
            exact ⟨⟨j + 1 + 1, by go_num, by omega, HK4, trivial⟩, by simp [Lib.intOf]; omega⟩
      · have e1 : inn xs[k] 0 9999 = false := by simpa using e1
        have HK3 : Hid (false = g) := by have := HK2.out; rw [e1] at this; exact this
        clear HK2
        have hc0 : k = 0 → wr.cell? ⟨b, off, none⟩ = some (.int .i64 xs[k]) := by rintro rfl; exact hc1
        clear hce
        generalize xs[k] = n at *
        go_wp2_with (go_at_call 39; refine (xwithin _ _ _ _ e1 _).mono ?_; rintro e w2 ⟨rfl, rfl⟩)
        go_ret
        exact KP.mk (congrArg Value.bool HK3.out) (Below.refl _ _)
    · have hkz : ¬ (k : Int) < (xs.length : Int) := by omega
      have HK3 : Hid (true = g) := by have := HK.out; rw [List.drop_of_length_le (by omega)] at this; exact this
      go_wp2_with fail
      go_ret
      exact KP.mk (congrArg Value.bool HK3.out) (Below.refl _ _)
end Go.Proofs.YtdmlgheajblcdaaGreat
