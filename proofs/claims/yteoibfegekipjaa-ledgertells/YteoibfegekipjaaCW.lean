/- layer 11: texts alike -/
import Derived.Test.YteoibfegekipjaaCU
import Derived.WalkKit
import Derived.ProofKit
import Derived.Handy
import Derived.WalkLawsBesides
import Derived.WalkSpells
import Derived.BigQuiet
import Derived.BigCall
import Derived.Deep.QuietTactic
import Derived.Deep.Light
import Derived.Deep.OwnRows
import Derived.Laws.AppendOwnNone
import Derived.Laws.Strings3
import Derived.Laws.RangeAny
import Derived.Deep.RegionWith
import Derived.Lib.BitFns
import Derived.Lib.Walk
import Derived.Lib.Strings
import Derived.Lib.OthersKept
import Derived.Deep.CutBlock
import Derived.Deep.DeepCutAuto
import Derived.Deep.LoopGhost
import Derived.Deep.RegionHeld3
import Derived.Lib.SmallJoins
import Derived.Maps.AppendAt
import Derived.Laws.IdiomStrings
import Derived.Lib.AppendZeros
import Derived.Deep.WholeRow
import Derived.Laws.BitsAllLaws
import Derived.Lib.ConvBytes
import Derived.Deep.RegionLaw
import Derived.Maps.OwnSet
import Derived.Maps.OwnOps
import Derived.Maps.RangeWalk
import Derived.Maps.Ext
import Derived.DeepKeys4
import Derived.Laws.StructEq
import Derived.Shelf.SlSortCmp.NoneTotal
import Derived.Deep.MidRow
import Derived.Laws.MakeOwn
import Derived.Sort.OwnSorted
import Derived.Lib.SlicesCompact
import Derived.Lib.RowBridge
namespace Go.Proofs.Yteoibfegekipjaa
open Go.RowKit
set_option linter.unusedVariables false
set_option linter.unusedSimpArgs false
set_option maxRecDepth 20000
set_option maxHeartbeats 4000000 in
theorem rtexts (ts : List (List UInt8)) (hl : ts.length ≤ 1000000) (a1 : Option Addr) (cap1 : Nat) (a2 : Option Addr) (cap2 : Nat) (w : World) (h1 : Tx w a1 ts) (h2 : Tx w a2 ts) : Calls Try.prog 25 #[.slice a1 ts.length cap1, .slice a2 ts.length cap2] w (SamP w) := by
  have H1 : Hid (Tx w a1 ts) := h1
  have H2 : Hid (Tx w a2 ts) := h2
  have hl' : (ts.length : Int) ≤ 1000000 := by omega
  clear h1 h2
  go_enter Try.func25, Try.ntmps25
  go_wp2_with fail
  go_loopw [5] (fun i wr => ∃ k : Nat, k ≤ ts.length ∧ i = .int .i64 k ∧ Hid (Below w.heap.size w wr))
    (fun i _ => ts.length - (intOf i).toNat)
  case atStart => exact ⟨0, Nat.zero_le _, rfl, Below.refl _ _⟩
  case round =>
    obtain ⟨k, hk, rfl, HR⟩ := hrel
    by_cases hkn : k < ts.length
    · have hkz : (k : Int) < (ts.length : Int) := by omega
      obtain ⟨blk, off, rfl, hbl, hcs⟩ := H1.out (by omega)
      obtain ⟨blk', off', rfl, hbl', hcs'⟩ := H2.out (by omega)
      have hc := hcs k hkn 0 (by omega)
      have hd := hcs' k hkn 0 (by omega)
      rw [Nat.mul_one, Nat.add_zero] at hc hd
      obtain ⟨s, hs⟩ : ∃ s, s = S ts[k] := ⟨_, rfl⟩
      have c0 : wr.cell? ⟨blk, off + k, none⟩ = some (.string s) := by rw [hs]; exact (HR.out.cell (p := ⟨blk, _, none⟩) hbl).trans hc
      have d0 : wr.cell? ⟨blk', off' + k, none⟩ = some (.string s) := by rw [hs]; exact (HR.out.cell (p := ⟨blk', _, none⟩) hbl').trans hd
      have HB : Hid (∀ k, Below w.heap.size w (wr.drewN k)) := fun k => HR.out.trans ⟨rfl, rfl, rfl, Nat.le_refl _, fun _ _ => rfl⟩
      clear hc hcs hd hcs' hs
      go_upto_region 6 with fail
      go_quiet (fail)
      go_wp2_with fail
      go_roundw
      case rel => exact ⟨k + 1, by omega, by simp, HB.out _⟩
      case measure => simp [intOf]; omega
    · have hkz : ¬ (k : Int) < (ts.length : Int) := by omega
      go_wp2_with fail
      go_ret
      exact ⟨rfl, HR.out⟩
end Go.Proofs.Yteoibfegekipjaa
