/- layer 17: items ranked, the last one, their lots, by the program -/
import Derived.Test.YtheikjjehidagaaRH
import Derived.Test.YtheikjjehidagaaNP
import Derived.WalkKit
import Derived.ProofKit
import Derived.Handy
import Derived.WalkLawsBesides
import Derived.WalkSpells
import Derived.BigQuiet
import Derived.BigCall
import Derived.Deep.QuietTactic
import Derived.Deep.Light
import Derived.Deep.OwnRows
import Derived.Laws.AppendOwnNone
import Derived.Laws.Strings3
import Derived.Laws.RangeAny
import Derived.Deep.RegionWith
import Derived.Lib.BitFns
import Derived.Lib.Walk
import Derived.Lib.Strings
import Derived.Lib.OthersKept
import Derived.Deep.CutBlock
import Derived.Deep.DeepCutAuto
import Derived.Deep.LoopGhost
import Derived.Deep.RegionHeld3
import Derived.Lib.SmallJoins
import Derived.Maps.AppendAt
import Derived.Laws.IdiomStrings
import Derived.Lib.AppendZeros
import Derived.Deep.WholeRow
import Derived.Laws.BitsAllLaws
import Derived.Lib.ConvBytes
import Derived.Deep.RegionLaw
import Derived.Maps.OwnSet
import Derived.Maps.OwnOps
import Derived.Maps.RangeWalk
import Derived.Maps.Ext
import Derived.DeepKeys4
import Derived.Laws.StructEq
import Derived.Deep.MidRow
import Derived.Lib.Bytealg
import Derived.Lib.AppendZerosOnto
import Derived.Laws.MakeOwn
import Derived.Deep.Upon
import Derived.Sort.KeysCollected
import Derived.Shelf.SlSortCmp.KitK
namespace Go.Proofs.Ytheikjjehidagaa
open Go.RowKit
set_option linter.unusedVariables false
set_option linter.unusedSimpArgs false
open Go.Sort (grow SWO PermIn SortedIn HoldsK swp putRowK)
open H5 (It its its_len its_one)
set_option maxRecDepth 20000
set_option linter.unusedSectionVars false
theorem its_at {w wr : World} {blk off : Nat} {L : List It} (h : ∀ i (h : i < L.length), ∀ j, j < 9 → w.cell? ⟨blk, off + i * 9 + j, none⟩ = (its L[i])[j]?) (hb : Below w.heap.size w wr) (hl : blk < w.heap.size) {k : Nat} (hk : k < L.length) : ∀ j, j < 9 → wr.cell? ⟨blk, off + k * 9 + j, none⟩ = (its L[k])[j]? := fun j hj => (hb.cell (p := ⟨blk, off + k * 9 + j, none⟩) hl).trans (h k hk j hj)
def RkP (L : List It) (n : Nat) (w : World) (e : Ending) (w' : World) : Prop := ∃ a cap, e = .returned (.slice a n cap) ∧ Hid (Rw 9 its w' a L ∧ Below w.heap.size w w')
section
variable [Inhabited It]
set_option maxHeartbeats 16000000 in
theorem xrankl (L : List It) (hl : L.length ≤ 1000000) (hs : ∀ x ∈ L, smI x) (a : Option Addr) (cap : Nat) (w : World) (h : Rw 9 its w a L) : Calls Try.prog 30 #[.slice a L.length cap] w (RkP (SS.rnk ltI L) L.length w) := by
  have HE : Hid (Rw 9 its w a L) := h
  have HS : Hid (∀ x ∈ L, smI x) := hs
  have HL : Hid (L.length ≤ 1000000) := hl
  have hlz : (L.length : Int) ≤ 1000000 := by omega
  clear h hs hl
  go_enter Try.func30, Try.ntmps30
  go_wp2_with fail
  go_loopw [3, 8] (fun s i wr => ∃ (k : Nat) (v : Value), k ≤ L.length ∧ v = s ∧ i = .int .i64 k ∧ Hid (Oi w.heap.size wr v (L.take k) ∧ Below w.heap.size w wr))
    (fun _ i _ => L.length - (intOf i).toNat)
  case atStart => exact ⟨0, _, Nat.zero_le _, rfl, rfl, World.ownsRow_nil _ _ _ _, Below.refl _ _⟩
  case round =>
    obtain ⟨k, v, hk, rfl, rfl, HR⟩ := hrel
    by_cases hkn : k < L.length
    · have hkz : (k : Int) < (L.length : Int) := by omega
      obtain ⟨blk, off, rfl, hbl, hcs⟩ := HE.out (by omega)
      have hc9 := its_at hcs HR.out.2 hbl hkn
      obtain ⟨wa, hwa⟩ : ∃ wa, wr.alloc (.cells (its L[k]).toArray 47) = wa := ⟨_, rfl⟩
      have hXa : Bx wa wr.heap.size (its L[k]).toArray 47 := by rw [← hwa]; exact Bx.new _ _ _
      have hba : Below wr.heap.size wr wa := by rw [← hwa]; exact below_a _ _
      have HC : Hid (Calls Try.prog 47 #[.agg (its L[k]).toArray] wa fun e w2 => e = .returned (.agg (its L[k]).toArray) ∧ ∃ v' w6, (Builtin.append_ #[50, 50] 50 #[v, .slice (some ⟨w2.heap.size, 0, none⟩) 1 1]).run Try.prog (w2.alloc (.cells (its L[k]).toArray 47)) = .ok v' w6 ∧ Hid (Oi w.heap.size w6 v' (L.take (k + 1)) ∧ Below w.heap.size w w6)) := (xitem L[k] (HS.out _ (List.getElem_mem hkn)) wa).mono fun e w2 hh => by
        obtain ⟨rfl, hb2⟩ := hh
        obtain ⟨v', w6, hr, HZ⟩ := ap_item HR.out.1 HR.out.2.size (by have := HL.out; rw [List.length_take]; omega) L[k] (hba.trans (hb2.mono hba.size))
        rw [List.take_append_getElem hkn] at HZ
        exact ⟨rfl, v', w6, hr, HZ.out.1, HR.out.2.trans HZ.out.2⟩
      clear hcs HR hba
      generalize L[k] = y at *
      obtain ⟨l, q, ⟨ai, a1, a2, am, ac⟩, p, c⟩ := y
      simp only [its] at *
      have c0 : wr.cell? ⟨blk, off + k * 9, none⟩ = some (.string l) := hc9 0 (by omega)
      have c1 : wr.cell? ⟨blk, off + k * 9 + 1, none⟩ = some (.int .i64 q) := hc9 1 (by omega)
      have c2 : wr.cell? ⟨blk, off + k * 9 + 2, none⟩ = some (.string ai) := hc9 2 (by omega)
      have c3 : wr.cell? ⟨blk, off + k * 9 + 3, none⟩ = some (.int .i64 a1) := hc9 3 (by omega)
      have c4 : wr.cell? ⟨blk, off + k * 9 + 4, none⟩ = some (.int .i64 a2) := hc9 4 (by omega)
      have c5 : wr.cell? ⟨blk, off + k * 9 + 5, none⟩ = some (.int .i64 am) := hc9 5 (by omega)
      have c6 : wr.cell? ⟨blk, off + k * 9 + 6, none⟩ = some (.string ac) := hc9 6 (by omega)
      have c7 : wr.cell? ⟨blk, off + k * 9 + 7, none⟩ = some (.int .i64 p) := hc9 7 (by omega)
      have c8 : wr.cell? ⟨blk, off + k * 9 + 8, none⟩ = some (.int .i64 c) := hc9 8 (by omega)
      have d0 : wa.cell? ⟨wr.heap.size, 0, none⟩ = some (.string l) := hXa.cell 0
      have d1 : wa.cell? ⟨wr.heap.size, 1, none⟩ = some (.int .i64 q) := hXa.cell 1
      have d2 : wa.cell? ⟨wr.heap.size, 2, none⟩ = some (.string ai) := hXa.cell 2
      have d3 : wa.cell? ⟨wr.heap.size, 3, none⟩ = some (.int .i64 a1) := hXa.cell 3
      have d4 : wa.cell? ⟨wr.heap.size, 4, none⟩ = some (.int .i64 a2) := hXa.cell 4
      have d5 : wa.cell? ⟨wr.heap.size, 5, none⟩ = some (.int .i64 am) := hXa.cell 5
      have d6 : wa.cell? ⟨wr.heap.size, 6, none⟩ = some (.string ac) := hXa.cell 6
      have d7 : wa.cell? ⟨wr.heap.size, 7, none⟩ = some (.int .i64 p) := hXa.cell 7
      have d8 : wa.cell? ⟨wr.heap.size, 8, none⟩ = some (.int .i64 c) := hXa.cell 8
      clear hc9 hXa
      go_upto_region 5 with fail
      try rw [hwa]
      clear hwa c0 c1 c2 c3 c4 c5 c6 c7 c8
      go_wp2_with (first | (go_at_call 47; refine HC.out.mono ?_; clear HC; rintro e w2 ⟨rfl, v', w6, hr6, HZ⟩) | (at_builtin; refine Lib.wpList_append_run _ rfl _ _ 50 50 rfl _ _ rfl rfl _ w6 hr6 ?_))
      go_roundw
      case rel => exact ⟨k + 1, v', by omega, rfl, by simp, HZ.out⟩
      case measure => simp [intOf]; omega
    · have hkz : ¬ (k : Int) < (L.length : Int) := by omega
      have hO : Oi w.heap.size wr v L := by
        have := HR.out.1
        rwa [List.take_of_length_le (by omega)] at this
      obtain ⟨a', cap', rfl, _, _⟩ := own_rw its_len hO rfl
      have HC : Hid (Calls Try.prog 48 #[.slice a' L.length cap', .func (.func 49) #[] #[]] wr fun x w' => x = .returned (.tuple #[]) ∧ Hid (Rw 9 its w' a' (SS.rnk ltI L) ∧ Below w.heap.size w w')) := (xsort hO HR.out.2.size HL.out).mono fun x w' hh => ⟨hh.1, hh.2.out.1, HR.out.2.trans hh.2.out.2⟩
      clear HR hO
      go_wp2_with (go_at_call 48; refine HC.out.mono ?_; clear HC; rintro x w2 ⟨rfl, HZ⟩)
      go_ret
      exact ⟨a', cap', rfl, HZ.out⟩
end
/-- the lots of items -/
def lotsOf (L : List It) : List Lt := L.map fun x => ⟨x.l, x.q⟩
theorem lotsOf_take {L : List It} {k : Nat} (h : k < L.length) : lotsOf (L.take (k + 1)) = lotsOf (L.take k) ++ [⟨L[k].l, L[k].q⟩] := by
  unfold lotsOf
  rw [List.take_succ_eq_append_getElem h, List.map_append]
  rfl
theorem lotsOf_len (L : List It) : (lotsOf L).length = L.length := by unfold lotsOf; simp
set_option maxHeartbeats 16000000 in
theorem xof (L : List It) (hl : L.length ≤ 1000000) (hs : ∀ x ∈ L, smI x) (a : Option Addr) (cap : Nat) (w : World) (h : Rw 9 its w a L) : Calls Try.prog 27 #[.slice a L.length cap] w (MgP [] (lotsOf L) w) := by
  have HE : Hid (Rw 9 its w a L) := h
  have HS : Hid (∀ x ∈ L, smI x) := hs
  have HL : Hid (L.length ≤ 1000000) := hl
  have hlz : (L.length : Int) ≤ 1000000 := by omega
  clear h hs hl
  go_enter Try.func27, Try.ntmps27
  go_wp2_with fail
  go_loopw [4, 9] (fun s i wr => ∃ (k : Nat) (v : Value), k ≤ L.length ∧ v = s ∧ i = .int .i64 k ∧ Hid (Ol w.heap.size wr v (lotsOf (L.take k)) ∧ Below w.heap.size w wr))
    (fun _ i _ => L.length - (intOf i).toNat)
  case atStart => exact ⟨0, _, Nat.zero_le _, rfl, rfl, World.ownsRow_nil _ _ _ _, Below.refl _ _⟩
  case round =>
    obtain ⟨k, v, hk, rfl, rfl, HR⟩ := hrel
    by_cases hkn : k < L.length
    · have hkz : (k : Int) < (L.length : Int) := by omega
      obtain ⟨blk, off, rfl, hbl, hcs⟩ := HE.out (by omega)
      have hc9 := its_at hcs HR.out.2 hbl hkn
      obtain ⟨wa, hwa⟩ : ∃ wa, wr.alloc (.cells (its L[k]).toArray 47) = wa := ⟨_, rfl⟩
      have hXa : Bx wa wr.heap.size (its L[k]).toArray 47 := by rw [← hwa]; exact Bx.new _ _ _
      have hba : Below wr.heap.size wr wa := by rw [← hwa]; exact below_a _ _
      obtain ⟨v', w6, hr6, HZ0⟩ := ap_lot HR.out.1 HR.out.2.size (by have := HL.out; rw [lotsOf_len, List.length_take]; omega) ⟨L[k].l, L[k].q⟩ hba
      have HZ : Hid (Ol w.heap.size w6 v' (lotsOf (L.take (k + 1))) ∧ Below w.heap.size w w6) := by
        refine ⟨?_, HR.out.2.trans (HZ0.out.below HR.out.1 HR.out.2.size)⟩
        rw [lotsOf_take hkn]
        exact HZ0.out.o
      clear hcs HR hba HZ0
      generalize L[k] = y at *
      obtain ⟨l, q, ⟨ai, a1, a2, am, ac⟩, p, c⟩ := y
      simp only [its] at *
      have c0 : wr.cell? ⟨blk, off + k * 9, none⟩ = some (.string l) := hc9 0 (by omega)
      have c1 : wr.cell? ⟨blk, off + k * 9 + 1, none⟩ = some (.int .i64 q) := hc9 1 (by omega)
      have c2 : wr.cell? ⟨blk, off + k * 9 + 2, none⟩ = some (.string ai) := hc9 2 (by omega)
      have c3 : wr.cell? ⟨blk, off + k * 9 + 3, none⟩ = some (.int .i64 a1) := hc9 3 (by omega)
      have c4 : wr.cell? ⟨blk, off + k * 9 + 4, none⟩ = some (.int .i64 a2) := hc9 4 (by omega)
      have c5 : wr.cell? ⟨blk, off + k * 9 + 5, none⟩ = some (.int .i64 am) := hc9 5 (by omega)
      have c6 : wr.cell? ⟨blk, off + k * 9 + 6, none⟩ = some (.string ac) := hc9 6 (by omega)
      have c7 : wr.cell? ⟨blk, off + k * 9 + 7, none⟩ = some (.int .i64 p) := hc9 7 (by omega)
      have c8 : wr.cell? ⟨blk, off + k * 9 + 8, none⟩ = some (.int .i64 c) := hc9 8 (by omega)
      have d0 : wa.cell? ⟨wr.heap.size, 0, none⟩ = some (.string l) := hXa.cell 0
      have d1 : wa.cell? ⟨wr.heap.size, 1, none⟩ = some (.int .i64 q) := hXa.cell 1
      have d2 : wa.cell? ⟨wr.heap.size, 2, none⟩ = some (.string ai) := hXa.cell 2
      have d3 : wa.cell? ⟨wr.heap.size, 3, none⟩ = some (.int .i64 a1) := hXa.cell 3
      have d4 : wa.cell? ⟨wr.heap.size, 4, none⟩ = some (.int .i64 a2) := hXa.cell 4
      have d5 : wa.cell? ⟨wr.heap.size, 5, none⟩ = some (.int .i64 am) := hXa.cell 5
      have d6 : wa.cell? ⟨wr.heap.size, 6, none⟩ = some (.string ac) := hXa.cell 6
      have d7 : wa.cell? ⟨wr.heap.size, 7, none⟩ = some (.int .i64 p) := hXa.cell 7
      have d8 : wa.cell? ⟨wr.heap.size, 8, none⟩ = some (.int .i64 c) := hXa.cell 8
      clear hc9 hXa
      go_upto_region 5 with fail
      try rw [hwa]
      clear hwa c0 c1 c2 c3 c4 c5 c6 c7 c8
      go_wp2_with (at_builtin; refine Lib.wpList_append_run _ rfl _ _ 22 22 rfl _ _ rfl rfl _ w6 hr6 ?_)
      go_roundw
      case rel => exact ⟨k + 1, v', by omega, rfl, by simp, HZ.out⟩
      case measure => simp [intOf]; omega
    · have hkz : ¬ (k : Int) < (L.length : Int) := by omega
      have hO : Ol w.heap.size wr v (lotsOf L) := by
        have := HR.out.1
        rwa [List.take_of_length_le (by omega)] at this
      obtain ⟨a', cap', rfl, _, hr⟩ := Ol.read hO
      have HC : Hid (Calls Try.prog 11 #[.slice a' (lotsOf L).length cap'] wr fun x w' => ∃ a2 c2, x = .returned (.tuple #[.slice a2 (mrg [] (lotsOf L)).1.length c2, .int .i64 (mrg [] (lotsOf L)).2]) ∧ Hid (MgP [] (lotsOf L) w (.returned (.tuple #[.slice a2 (mrg [] (lotsOf L)).1.length c2, .int .i64 (mrg [] (lotsOf L)).2])) w')) := (xmerge (lotsOf L) (by rw [lotsOf_len]; exact HL.out) (fun x hx => by
        obtain ⟨y, hy, rfl⟩ := List.mem_map.1 hx
        exact (HS.out y hy).1) a' cap' wr hr).mono fun x w' hh => by
        obtain ⟨a2, c2, rfl, HZ⟩ := hh
        exact ⟨a2, c2, rfl, a2, c2, rfl, HZ.out.1, HR.out.2.trans (HZ.out.2.mono HR.out.2.size)⟩
      clear HR hO hr
      generalize (lotsOf L).length = n at *
      go_wp2_with (go_at_call 11; refine HC.out.mono ?_; clear HC; rintro x w2 ⟨a2, c2, rfl, HZ⟩)
      go_ret2
      exact HZ.out
end Go.Proofs.Ytheikjjehidagaa
