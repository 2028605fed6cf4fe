/- layer 17: the document's Of of items -/
import Derived.Test.YtheikjjehidagaaRI
import Derived.Test.YtheikjjehidagaaNP
import Derived.WalkKit
import Derived.ProofKit
import Derived.Handy
import Derived.WalkLawsBesides
import Derived.WalkSpells
import Derived.BigQuiet
import Derived.BigCall
import Derived.Deep.QuietTactic
import Derived.Deep.Light
import Derived.Deep.OwnRows
import Derived.Laws.AppendOwnNone
import Derived.Laws.Strings3
import Derived.Laws.RangeAny
import Derived.Deep.RegionWith
import Derived.Lib.BitFns
import Derived.Lib.Walk
import Derived.Lib.Strings
import Derived.Lib.OthersKept
import Derived.Deep.CutBlock
import Derived.Deep.DeepCutAuto
import Derived.Deep.LoopGhost
import Derived.Deep.RegionHeld3
import Derived.Lib.SmallJoins
import Derived.Maps.AppendAt
import Derived.Laws.IdiomStrings
import Derived.Lib.AppendZeros
import Derived.Deep.WholeRow
import Derived.Laws.BitsAllLaws
import Derived.Lib.ConvBytes
import Derived.Deep.RegionLaw
import Derived.Maps.OwnSet
import Derived.Maps.OwnOps
import Derived.Maps.RangeWalk
import Derived.Maps.Ext
import Derived.DeepKeys4
import Derived.Laws.StructEq
import Derived.Deep.MidRow
import Derived.Lib.Bytealg
import Derived.Lib.AppendZerosOnto
import Derived.Laws.MakeOwn
import Derived.Deep.Upon
import Derived.Sort.KeysCollected
import Derived.Shelf.SlSortCmp.KitK
namespace Go.Proofs.Ytheikjjehidagaa
open Go.RowKit
set_option linter.unusedVariables false
set_option linter.unusedSimpArgs false
open Go.Sort (grow SWO PermIn SortedIn HoldsK swp putRowK)
open H5 (It its its_len its_one)
set_option maxRecDepth 20000
set_option maxHeartbeats 16000000 in
theorem rof (L : List It) (hl : L.length ≤ 1000000) (a : Option Addr) (cap : Nat) (w : World) (h : Rw 9 its w a L) : Calls Try.prog 28 #[.slice a L.length cap] w (MgP [] (lotsOf L) w) := by
  have HE : Hid (Rw 9 its w a L) := h
  have HL : Hid (L.length ≤ 1000000) := hl
  have hlz : (L.length : Int) ≤ 1000000 := by omega
  clear h hl
  go_enter Try.func28, Try.ntmps28
  go_wp2_with fail
  go_loopw [4, 5] (fun s i wr => ∃ (k : Nat) (v : Value), k ≤ L.length ∧ v = s ∧ i = .int .i64 k ∧ Hid (Ol w.heap.size wr v (lotsOf (L.take k)) ∧ Below w.heap.size w wr))
    (fun _ i _ => L.length - (intOf i).toNat)
  case atStart => exact ⟨0, _, Nat.zero_le _, rfl, rfl, World.ownsRow_nil _ _ _ _, Below.refl _ _⟩
  case round =>
    obtain ⟨k, v, hk, rfl, rfl, HR⟩ := hrel
    by_cases hkn : k < L.length
    · have hkz : (k : Int) < (L.length : Int) := by omega
      obtain ⟨blk, off, rfl, hbl, hcs⟩ := HE.out (by omega)
      have hc9 := its_at hcs HR.out.2 hbl hkn
      obtain ⟨v', w6, hr6, HZ0⟩ := ap_lot HR.out.1 HR.out.2.size (by have := HL.out; rw [lotsOf_len, List.length_take]; omega) ⟨L[k].l, L[k].q⟩ (Below.refl wr.heap.size wr)
      have HZ : Hid (Ol w.heap.size w6 v' (lotsOf (L.take (k + 1))) ∧ Below w.heap.size w w6) := by
        refine ⟨?_, HR.out.2.trans (HZ0.out.below HR.out.1 HR.out.2.size)⟩
        rw [lotsOf_take hkn]
        exact HZ0.out.o
      clear hcs HR HZ0
      generalize L[k] = y at *
      obtain ⟨l, q, ⟨ai, a1, a2, am, ac⟩, p, c⟩ := y
      simp only [its] at *
      have c0 : wr.cell? ⟨blk, off + k * 9, none⟩ = some (.string l) := hc9 0 (by omega)
      have c1 : wr.cell? ⟨blk, off + k * 9 + 1, none⟩ = some (.int .i64 q) := hc9 1 (by omega)
      clear hc9
      go_wp2_with (at_builtin; refine Lib.wpList_append_run _ rfl _ _ 22 22 rfl _ _ rfl rfl _ w6 hr6 ?_)
      go_roundw
      case rel => exact ⟨k + 1, v', by omega, rfl, by simp, HZ.out⟩
      case measure => simp [intOf]; omega
    · have hkz : ¬ (k : Int) < (L.length : Int) := by omega
      have hO : Ol w.heap.size wr v (lotsOf L) := by
        have := HR.out.1
        rwa [List.take_of_length_le (by omega)] at this
      obtain ⟨a', cap', rfl, hcp, hr⟩ := Ol.read hO
      have HC : Hid (Calls Try.prog 12 #[.slice a' (lotsOf L).length cap'] wr fun x w' => ∃ a2 c2, x = .returned (.tuple #[.slice a2 (mrg [] (lotsOf L)).1.length c2, .int .i64 (mrg [] (lotsOf L)).2]) ∧ Hid (MgP [] (lotsOf L) w (.returned (.tuple #[.slice a2 (mrg [] (lotsOf L)).1.length c2, .int .i64 (mrg [] (lotsOf L)).2])) w')) := (rmerge (lotsOf L) (by rw [lotsOf_len]; exact HL.out) a' cap' hcp wr hr).mono fun x w' hh => by
        obtain ⟨a2, c2, rfl, HZ⟩ := hh
        exact ⟨a2, c2, rfl, a2, c2, rfl, HZ.out.1, HR.out.2.trans (HZ.out.2.mono HR.out.2.size)⟩
      clear HR hO hr hcp
      generalize (lotsOf L).length = n at *
      go_wp2_with (go_at_call 12; refine HC.out.mono ?_; clear HC; rintro x w2 ⟨a2, c2, rfl, HZ⟩)
      go_ret2
      exact HZ.out
end Go.Proofs.Ytheikjjehidagaa
