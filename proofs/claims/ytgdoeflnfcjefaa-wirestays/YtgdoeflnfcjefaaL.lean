/- awake, law One. -/
import Derived.Test.YtgdoeflnfcjefaaK
import Derived.WalkKit
import Derived.ProofKit
import Derived.Handy
import Derived.WalkLawsBesides
import Derived.WalkSpells
import Derived.BigQuiet
import Derived.BigCall
import Derived.Deep.QuietTactic
import Derived.Deep.Light
import Derived.Deep.OwnRows
import Derived.Laws.AppendOwnNone
import Derived.Laws.Strings3
import Derived.Laws.RangeAny
import Derived.Deep.RegionWith
import Derived.Lib.BitFns
import Derived.Lib.Walk
import Derived.Lib.Strings
import Derived.Lib.OthersKept
import Derived.Deep.CutBlock
import Derived.Deep.DeepCutAuto
import Derived.Deep.LoopGhost
import Derived.Deep.RegionHeld3
import Derived.Lib.SmallJoins
import Derived.Maps.AppendAt
import Derived.Laws.IdiomStrings
import Derived.Lib.AppendZeros
import Derived.Deep.WholeRow
import Derived.Laws.BitsAllLaws
import Derived.Lib.ConvBytes
import Derived.Deep.RegionLaw
namespace Go.Proofs.Ytgdoeflnfcjefaa
open Go.RowKit
set_option linter.unusedVariables false
set_option linter.unusedSimpArgs false
/-- A call answers a truth, and changes nothing that was there. -/
def BB (b : Bool) (w : World) (e : Ending) (w' : World) : Prop := e = .returned (.bool b) ∧ Below w.heap.size w w'
theorem BB.mk {b c : Bool} {w w' : World} (h : c = b) (hb : Below w.heap.size w w') : BB b w (.returned (.bool c)) w' := ⟨by rw [h], hb⟩
def wkI : List It := [⟨0, 300, 0, [], false, []⟩, ⟨1, 0, -1, [], false, []⟩, ⟨2, 0, 0, [97, 98], false, []⟩]
def wkC : Array Value := #[.int .i64 0, .int .u64 300, .int .i64 0, .string ⟨#[]⟩, .bool false, .slice none 0 0, .int .i64 1, .int .u64 0, .int .i64 (-1), .string ⟨#[]⟩, .bool false, .slice none 0 0, .int .i64 2, .int .u64 0, .int .i64 0, .string ⟨#[97, 98]⟩, .bool false, .slice none 0 0]
theorem wk_cell (w : World) (j : Nat) : (w.alloc (.cells wkC 28)).cell? ⟨w.heap.size, j, none⟩ = wkC[j]? := cell_of_row _ _ j _ 28 (0, 0) (heap_alloc_new w _)
theorem wk_its (w : World) : Its (w.alloc (.cells wkC 28)).heap.size (w.alloc (.cells wkC 28)) (some ⟨w.heap.size, 0, none⟩) wkI := by
  intro _
  refine ⟨w.heap.size, 0, rfl, by simp, fun j hj => ⟨none, 0, ?_⟩⟩
  have h3 : j = 0 ∨ j = 1 ∨ j = 2 := by have : wkI.length = 3 := rfl; omega
  rcases h3 with rfl | rfl | rfl
  · exact ⟨wk_cell w 0, wk_cell w 1, wk_cell w 2, wk_cell w 3, wk_cell w 4, wk_cell w 5, fun h => absurd h (Nat.lt_irrefl 0)⟩
  · exact ⟨wk_cell w 6, wk_cell w 7, wk_cell w 8, wk_cell w 9, wk_cell w 10, wk_cell w 11, fun h => absurd h (Nat.lt_irrefl 0)⟩
  · exact ⟨wk_cell w 12, wk_cell w 13, wk_cell w 14, wk_cell w 15, wk_cell w 16, wk_cell w 17, fun h => absurd h (Nat.lt_irrefl 0)⟩
theorem wk_wf : ∀ x ∈ wkI, x.Wf := by
  intro x hx
  simp only [wkI, List.mem_cons, List.not_mem_nil, or_false] at hx
  rcases hx with rfl | rfl | rfl
  · exact ⟨by decide, ⟨by decide, by decide⟩, fun n hn => nomatch hn⟩
  · exact ⟨by decide, ⟨by decide, by decide⟩, fun n hn => nomatch hn⟩
  · exact ⟨by decide, ⟨by decide, by decide⟩, fun n hn => nomatch hn⟩
theorem wk_out : wrL wkI = [130, 44, 1, 2, 97, 98] := by decide +kernel
set_option maxHeartbeats 4000000 in
theorem lawake (w : World) : Calls Try.prog 9 #[] w (BB true w) := by
  have HC : Hid (Calls Try.prog 15 #[.slice (some ⟨w.heap.size, 0, none⟩) 3 3] (w.alloc (.cells wkC 28)) (SB (wrL wkI) (w.alloc (.cells wkC 28)))) := lwritten wkI _ 3 _ (wk_its w) wk_wf (by decide) (by decide +kernel)
  rw [wk_out] at HC
  have HB : Hid (Below w.heap.size w (w.alloc (.cells wkC 28))) := below_new w _
  unfold SB at HC
  have hbq : ((⟨#[130, 44, 1, 2, 97, 98]⟩ : ByteArray).toList == [130, 44, 1, 2, 97, 98]) = true := by decide +kernel
  have hS : (⟨[130, 44, 1, 2, 97, 98].toArray⟩ : ByteArray) = ⟨#[130, 44, 1, 2, 97, 98]⟩ := rfl
  rw [hS] at HC
  clear hS
  generalize (⟨#[130, 44, 1, 2, 97, 98]⟩ : ByteArray) = S at *
  go_enter Try.func9, Try.ntmps9
  go_wp2_with fail
  refine HC.out.mono ?_
  rintro e w1 ⟨rfl, hb1⟩
  have HB1 : Hid (Below w.heap.size w w1) := HB.out.trans (hb1.mono HB.out.size)
  clear hb1
  go_wp2_with fail
  go_ret
  exact BB.mk rfl HB1.out
theorem one_ok {s : List UInt8} (h : (rdU s).1 = 0) : rUint ⟨s, 0, 0⟩ = (⟨s, (rdU s).2.2, 0⟩, (rdU s).2.1) := by
  unfold rUint
  rw [if_neg (by simp)]
  simp only [List.drop_zero, Nat.zero_add]
  rw [if_pos h]
theorem one_no {s : List UInt8} (h : (rdU s).1 ≠ 0) : rUint ⟨s, 0, 0⟩ = (⟨s, 0, (rdU s).1⟩, 0) := by
  unfold rUint
  rw [if_neg (by simp)]
  simp only [List.drop_zero]
  rw [if_neg h]
set_option maxHeartbeats 4000000 in
theorem lone (s : ByteArray) (hs : s.size ≤ 281474976710656) (w : World) : Calls Try.prog 6 #[.string s] w (BB true w) := by
  have HN : Hid (Calls Try.prog 16 #[.string s] w (NwP s.data.toList w)) := xnew s hs w
  have HA : Hid (∀ w, Calls Try.prog 9 #[] w (BB true w)) := fun w => lawake w
  by_cases h0 : (rdU s.data.toList).1 = 0
  · have HU0 : Hid (rUint ⟨s.data.toList, 0, 0⟩ = (⟨s.data.toList, (rdU s.data.toList).2.2, 0⟩, (rdU s.data.toList).2.1)) := one_ok h0
    have hok := rdU_ok (s := s.data.toList) (m := (rdU s.data.toList).2.1) (j := (rdU s.data.toList).2.2) (by rw [← h0])
    generalize (rdU s.data.toList).2.1 = n at *
    generalize (rdU s.data.toList).2.2 = j at *
    have HO : Hid (uintL n = s.data.toList.take j) := hok.2.1
    have hn : n < 18446744073709551616 := hok.1
    have hj : j ≤ s.size := hok.2.2.2.2
    have hjz : (j : Int) ≤ (s.size : Int) := by omega
    have HQ : Hid ((⟨(uintL n).toArray⟩ : ByteArray).toList = (s.extract 0 j).toList) := by
      unfold Hid
      rw [ByteArray.toList_mk, ByteArray.toList_eq, HO.out, ext_list]
      rfl
    have hbq : ((⟨(uintL n).toArray⟩ : ByteArray).toList == (s.extract 0 j).toList) = true := by rw [HQ.out]; simp
    clear hok h0 HO HQ
    go_enter Try.func6, Try.ntmps6
    go_wp2_with fail
    refine HN.out.mono ?_
    rintro e w1 ⟨q, rfl, hq, HR1, HB1⟩
    have HU : Hid (Calls Try.prog 18 #[.pointer (some ⟨q, 0, none⟩)] w1 (RP q (.int .u64 (rUint ⟨s.data.toList, 0, 0⟩).2) (rUint ⟨s.data.toList, 0, 0⟩).1 w1)) := xuint q _ w1 HR1.out
    rw [HU0.out] at HU
    simp only at HU
    clear HR1
    go_wp2_with fail
    refine HU.out.mono ?_
    rintro e w2 ⟨rfl, HR2, HB2⟩
    have HB3 : Hid (Below w.heap.size w w2) := HB1.out.trans (HB2.out.below hq HB1.out.size)
    have HE : Hid (Calls Try.prog 24 #[.pointer (some ⟨q, 0, none⟩)] w2 (NP .i64 0 w2)) := xerr q _ w2 HR2.out
    clear HB1 HB2 HU
    go_wp2_with fail
    refine HE.out.mono ?_
    rintro e w3 ⟨rfl, rfl⟩
    have HW0 : Hid (Wm w2.heap.size (w2.alloc (.cells #[.slice none 0 0] 51)) w2.heap.size (.slice none 0 0) []) := ⟨Nat.le_refl _, heap_alloc_new w2 _, World.ownsRow_nil _ _ _ _⟩
    have HWU : Hid (Calls Try.prog 27 #[.pointer (some ⟨w2.heap.size, 0, none⟩), .int .u64 n] (w2.alloc (.cells #[.slice none 0 0] 51)) (WP w2.heap.size w2.heap.size ([] ++ uintL n) (w2.alloc (.cells #[.slice none 0 0] 51)))) := wuint _ _ _ [] n hn _ HW0.out (by simp)
    have HB4 : Hid (Below w2.heap.size w2 (w2.alloc (.cells #[.slice none 0 0] 51))) := below_new w2 _
    clear HE HW0
    go_wp2_with fail
    refine HWU.out.mono ?_
    rintro e w4 ⟨rfl, v4, HW4, HB5⟩
    rw [List.nil_append] at HW4
    have HB6 : Hid (Below w2.heap.size w2 w4) := HB4.out.trans HB5.out
    have HR4 : Hid (Rm w4 q ⟨s.data.toList, j, 0⟩) := HR2.out.keep HB6.out
    have HB7 : Hid (Below w.heap.size w w4) := HB3.out.trans (HB6.out.mono HB3.out.size)
    have HAt : Hid (Calls Try.prog 25 #[.pointer (some ⟨q, 0, none⟩)] w4 (NP .i64 j w4)) := xat q _ w4 HR4.out
    have HBy : Hid (Calls Try.prog 28 #[.pointer (some ⟨w2.heap.size, 0, none⟩)] w4 (TP (uintL n) w4)) := wbytes _ _ v4 _ w4 HW4.out
    unfold TP at HBy
    clear HB4 HB5 HB6 HR4 HR2 HB3 HWU
    generalize (⟨(uintL n).toArray⟩ : ByteArray) = S at *
    generalize w2.heap.size = p at *
    go_wp2_with fail
    refine HAt.out.mono ?_
    rintro e w5 ⟨rfl, rfl⟩
    go_wp2_with fail
    refine HBy.out.mono ?_
    rintro e w5 ⟨rfl, rfl⟩
    go_wp2_with fail
    refine HAt.out.mono ?_
    rintro e w5 ⟨rfl, rfl⟩
    go_wp2_with fail
    refine (HA.out _).mono ?_
    rintro e w5 ⟨rfl, hb5⟩
    have HB8 : Hid (Below w.heap.size w w5) := HB7.out.trans (hb5.mono HB7.out.size)
    clear hb5
    go_wp2_with fail
    go_ret
    exact BB.mk rfl HB8.out
  · have HU0 : Hid (rUint ⟨s.data.toList, 0, 0⟩ = (⟨s.data.toList, 0, (rdU s.data.toList).1⟩, 0)) := one_no h0
    generalize (rdU s.data.toList).1 = x at *
    have hx : ((x : Int) != 0) = true := by rw [bne_iff_ne]; omega
    clear h0
    go_enter Try.func6, Try.ntmps6
    go_wp2_with fail
    refine HN.out.mono ?_
    rintro e w1 ⟨q, rfl, hq, HR1, HB1⟩
    have HU : Hid (Calls Try.prog 18 #[.pointer (some ⟨q, 0, none⟩)] w1 (RP q (.int .u64 (rUint ⟨s.data.toList, 0, 0⟩).2) (rUint ⟨s.data.toList, 0, 0⟩).1 w1)) := xuint q _ w1 HR1.out
    rw [HU0.out] at HU
    simp only at HU
    clear HR1
    go_wp2_with fail
    refine HU.out.mono ?_
    rintro e w2 ⟨rfl, HR2, HB2⟩
    have HB3 : Hid (Below w.heap.size w w2) := HB1.out.trans (HB2.out.below hq HB1.out.size)
    have HE : Hid (Calls Try.prog 24 #[.pointer (some ⟨q, 0, none⟩)] w2 (NP .i64 x w2)) := xerr q _ w2 HR2.out
    have HAt : Hid (Calls Try.prog 25 #[.pointer (some ⟨q, 0, none⟩)] w2 (NP .i64 ((0 : Nat) : Int) w2)) := xat q _ w2 HR2.out
    clear HB1 HB2 HU
    go_wp2_with fail
    refine HE.out.mono ?_
    rintro e w3 ⟨rfl, rfl⟩
    go_wp2_with fail
    refine HAt.out.mono ?_
    rintro e w5 ⟨rfl, rfl⟩
    go_wp2_with fail
    refine (HA.out _).mono ?_
    rintro e w5 ⟨rfl, hb5⟩
    have HB8 : Hid (Below w.heap.size w w5) := HB3.out.trans (hb5.mono HB3.out.size)
    clear hb5
    go_wp2_with fail
    go_ret
    exact BB.mk rfl HB8.out
end Go.Proofs.Ytgdoeflnfcjefaa
