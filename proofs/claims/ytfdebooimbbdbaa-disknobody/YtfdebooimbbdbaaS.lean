/- The law DiskNobody. -/
import Derived.Test.YtfdebooimbbdbaaR
import Derived.WalkKit
import Derived.ProofKit
import Derived.Handy
import Derived.WalkLawsBesides
import Derived.WalkSpells
import Derived.BigQuiet
import Derived.BigCall
import Derived.Deep.QuietTactic
import Derived.Deep.Light
import Derived.Deep.OwnRows
import Derived.Laws.AppendOwnNone
import Derived.Laws.Strings3
import Derived.Laws.RangeAny
import Derived.Deep.RegionWith
import Derived.Lib.BitFns
import Derived.Lib.Walk
import Derived.Lib.Strings
import Derived.Lib.OthersKept
import Derived.Deep.CutBlock
import Derived.Deep.DeepCutAuto
import Derived.Deep.LoopGhost
import Derived.Deep.RegionHeld3
import Derived.Lib.SmallJoins
import Derived.Maps.AppendAt
import Derived.Laws.IdiomStrings
import Derived.Lib.AppendZeros
import Derived.Deep.WholeRow
namespace Go.Proofs.Ytfdebooimbbdbaa
open Go.RowKit
set_option linter.unusedVariables false
set_option linter.unusedSimpArgs false
section
variable (v : Value) (w : World) (h : Lack w v)
theorem yread (h : Lack w v) (i : Int) : Calls Try.prog 13 #[v, .int .i64 i] w fun e w' => e = .returned (.tuple #[.string ⟨#[]⟩, .int .i64 3]) ∧ w = w' := by
  have H : Hid (Lack w v) := h
  clear h
  go_enter Try.func13, Try.ntmps13
  go_wp2_with fail
  refine (yfind v _ H.out i).mono ?_
  rintro e w1 ⟨rfl, rfl⟩
  go_wp2_with fail
  go_ret2
  exact ⟨rfl, rfl⟩
theorem ylen (h : Lack w v) (i : Int) : Calls Try.prog 19 #[v, .int .i64 i] w fun e w' => e = .returned (.tuple #[.int .i64 0, .int .i64 3]) ∧ w = w' := by
  have H : Hid (Lack w v) := h
  clear h
  go_enter Try.func19, Try.ntmps19
  go_wp2_with fail
  refine (yfind v _ H.out i).mono ?_
  rintro e w1 ⟨rfl, rfl⟩
  go_wp2_with fail
  go_ret2
  exact ⟨rfl, rfl⟩
theorem ylate (h : Lack w v) (i : Int) : Calls Try.prog 14 #[v, .int .i64 i] w fun e w' => e = .returned (.int .i64 0) ∧ w = w' := by
  have H : Hid (Lack w v) := h
  clear h
  go_enter Try.func14, Try.ntmps14
  go_wp2_with fail
  refine (yfind v _ H.out i).mono ?_
  rintro e w1 ⟨rfl, rfl⟩
  go_wp2_with fail
  go_ret
  exact ⟨rfl, rfl⟩
theorem yappend (h : Lack w v) (i : Int) (t : ByteArray) : Calls Try.prog 17 #[v, .int .i64 i, .string t] w fun e w' => e = .returned (.int .i64 3) ∧ w = w' := by
  have H : Hid (Lack w v) := h
  clear h
  go_enter Try.func17, Try.ntmps17
  go_wp2_with fail
  refine (yfind v _ H.out i).mono ?_
  rintro e w1 ⟨rfl, rfl⟩
  go_wp2_with fail
  go_ret
  exact ⟨rfl, rfl⟩
theorem ysync (h : Lack w v) (i : Int) : Calls Try.prog 18 #[v, .int .i64 i] w fun e w' => e = .returned (.int .i64 3) ∧ w = w' := by
  have H : Hid (Lack w v) := h
  clear h
  go_enter Try.func18, Try.ntmps18
  go_wp2_with fail
  refine (yfind v _ H.out i).mono ?_
  rintro e w1 ⟨rfl, rfl⟩
  go_wp2_with fail
  go_ret
  exact ⟨rfl, rfl⟩
theorem ycut (h : Lack w v) (i n : Int) : Calls Try.prog 20 #[v, .int .i64 i, .int .i64 n] w fun e w' => e = .returned (.int .i64 3) ∧ w = w' := by
  have H : Hid (Lack w v) := h
  clear h
  go_enter Try.func20, Try.ntmps20
  go_wp2_with fail
  refine (yfind v _ H.out i).mono ?_
  rintro e w1 ⟨rfl, rfl⟩
  go_wp2_with fail
  go_ret
  exact ⟨rfl, rfl⟩
theorem ylimit (h : Lack w v) (n : Int) : Calls Try.prog 16 #[v, .int .i64 n] w fun e w' => e = .returned (.tuple #[]) ∧ w = w' := by
  have H : Hid (Lack w v) := h
  clear h
  go_enter Try.func16, Try.ntmps16
  go_wp2_with fail
  refine (ylack v _ H.out).mono ?_
  rintro e w1 ⟨rfl, rfl⟩
  go_wp2_with fail
  go_returns
  exact ⟨rfl, rfl⟩
end
theorem Lack.below {v : Value} {w w' : World} (h : Lack w v) (hb : Below w.heap.size w w') : Lack w' v := by
  rcases h with e | ⟨p, e, hc⟩
  · exact .inl e
  · exact .inr ⟨p, e, (hb.cell (World.block_lt_of_cell? w _ hc)).trans hc⟩
theorem ycrash (v : Value) (w : World) (h : Lack w v) (K : Nat → Int) : Calls Try.prog 15 #[v, .agg (kcells K)] w fun e w' => e = .returned (.tuple #[]) ∧ Below w.heap.size w w' := by
  have H : Hid (Lack (w.alloc (.cells (kcells K) 31)) v) := h.below ((Below.refl _ _).alloc (Nat.le_refl _) _)
  clear h
  unfold kcells at *
  go_enter Try.func15, Try.ntmps15
  go_wp2_with fail
  refine (ylack v _ H.out).mono ?_
  rintro e w1 ⟨rfl, rfl⟩
  go_wp2_with fail
  go_returns
  exact ⟨rfl, (Below.refl _ _).alloc (Nat.le_refl _) _⟩
/-- the law's own blocks: the act, the list of two -/
structure Nb (A : ActD) (w wr : World) : Prop where
  act : wr.heap[w.heap.size]? = some (.cells A.cells 33 (0, 0))
  lst : wr.heap[w.heap.size + 2]? = some (.cells #[.pointer none, .pointer (some ⟨w.heap.size + 1, 0, none⟩)] 23 (0, 0))
  dsk : wr.cell? ⟨w.heap.size + 1, 0, none⟩ = some (.bool false)
  bel : Below w.heap.size w wr
theorem Nb.below {A : ActD} {w wr w' : World} (h : Nb A w wr) (hb : Below wr.heap.size wr w') : Nb A w w' :=
  ⟨(hb.block _ (lt_of_blk h.act)).trans h.act, (hb.block _ (lt_of_blk h.lst)).trans h.lst, (hb.cell (World.block_lt_of_cell? wr _ h.dsk)).trans h.dsk, h.bel.trans (hb.mono h.bel.size)⟩
set_option maxRecDepth 100000 in
set_option maxHeartbeats 2000000 in
theorem lnobody (A : ActD) (w : World) : Calls Try.prog 7 #[.agg A.cells] w fun e w' => e = .returned (.bool true) ∧ Below w.heap.size w w' := by
  have H0 : Hid (∀ Z : Array Value, Z[0]? = some (.bool false) → Nb A w (((w.alloc (.cells A.cells 33)).alloc (.cells Z 59)).alloc (.cells #[.pointer none, .pointer (some ⟨w.heap.size + 1, 0, none⟩)] 23))) := by
    intro Z hZ
    have e1 : (w.alloc (.cells A.cells 33)).heap.size = w.heap.size + 1 := by simp
    have e2 : ((w.alloc (.cells A.cells 33)).alloc (.cells Z 59)).heap.size = w.heap.size + 2 := by simp
    have h2 := heap_alloc_new ((w.alloc (.cells A.cells 33)).alloc (.cells Z 59)) (.cells #[.pointer none, .pointer (some ⟨w.heap.size + 1, 0, none⟩)] 23)
    rw [e2] at h2
    have h1 := heap_alloc_new (w.alloc (.cells A.cells 33)) (.cells Z 59)
    rw [e1] at h1
    refine ⟨?_, h2, ?_, by go_grown⟩
    · rw [Below.heap_alloc _ _ _ (by rw [e2]; omega), Below.heap_alloc _ _ _ (by rw [e1]; omega)]; exact heap_alloc_new w _
    · rw [cell_of_row _ _ 0 Z 59 (0, 0) ((Below.heap_alloc _ _ _ (by rw [e2]; omega)).trans h1)]
      exact hZ
  have HC : Hid (A.cells = acells A.c A.i A.t A.n A.K) := rfl
  unfold ActD.cells acells
  go_enter Try.func7, Try.ntmps7
  go_upto_region 2 with fail
  show Code.wp _ _ _ _ (((w.alloc (.cells A.cells 33)).alloc (.cells #[.bool false, .bool false, .int .i64 0, .slice none 0 0, .int .i64 0, .slice none 0 0, .int .i64 0, .slice none 0 0, .int .i64 0, .slice none 0 0, .int .i64 0] 59)).alloc (.cells #[.pointer none, .pointer (some ⟨w.heap.size + 1, 0, none⟩)] 23))
  have H1 : Hid _ := H0.out #[.bool false, .bool false, .int .i64 0, .slice none 0 0, .int .i64 0, .slice none 0 0, .int .i64 0, .slice none 0 0, .int .i64 0, .slice none 0 0, .int .i64 0] rfl
  clear H0
  generalize ((w.alloc (.cells A.cells 33)).alloc (.cells #[.bool false, .bool false, .int .i64 0, .slice none 0 0, .int .i64 0, .slice none 0 0, .int .i64 0, .slice none 0 0, .int .i64 0, .slice none 0 0, .int .i64 0] 59)).alloc (.cells #[.pointer none, .pointer (some ⟨w.heap.size + 1, 0, none⟩)] 23) = w1 at *
  go_loopw [13] (fun i wr => ∃ k : Nat, k ≤ 2 ∧ i = .int .i64 k ∧ Hid (Nb A w wr)) (fun i _ => 2 - (intOf i).toNat)
  case atStart => exact ⟨0, by omega, rfl, H1.out⟩
  case round =>
    clear H1
    obtain ⟨k, hk, rfl, HN⟩ := hrel
    by_cases hlt : k < 2
    · have hu : ∃ u, wr.cell? ⟨w.heap.size + 1 + 1, k, none⟩ = some u ∧ Lack wr u := by
        rw [cell_of_row wr (w.heap.size + 1 + 1) k _ 23 (0, 0) HN.out.lst]
        have : k = 0 ∨ k = 1 := by omega
        rcases this with rfl | rfl
        · exact ⟨_, rfl, .inl rfl⟩
        · exact ⟨_, rfl, .inr ⟨_, rfl, HN.out.dsk⟩⟩
      obtain ⟨u, hu, hL⟩ := hu
      have HL : Hid (Lack wr u) := hL
      have ea : ∀ j, wr.cell? ⟨w.heap.size, j, none⟩ = A.cells[j]? := fun j => cell_of_row wr _ j _ 33 (0, 0) HN.out.act
      have a1 : wr.cell? ⟨w.heap.size, 1, none⟩ = some (.int .i64 A.i) := ea 1
      have a3 : wr.cell? ⟨w.heap.size, 3, none⟩ = some (.int .i64 A.n) := ea 3
      have a4 : wr.cell? ⟨w.heap.size, 4, none⟩ = some (.int .i64 (A.K 0)) := ea 4
      have a5 : wr.cell? ⟨w.heap.size, 5, none⟩ = some (.int .i64 (A.K 1)) := ea 5
      have a6 : wr.cell? ⟨w.heap.size, 6, none⟩ = some (.int .i64 (A.K 2)) := ea 6
      have a7 : wr.cell? ⟨w.heap.size, 7, none⟩ = some (.int .i64 (A.K 3)) := ea 7
      have hlt' : (k : Int) < 2 := by omega
      clear ea hL
      go_wp2_with fail
      refine (yread u _ HL.out A.i).mono ?_
      rintro e w2 ⟨rfl, rfl⟩
      go_wp2_with fail
      refine (ylen u _ HL.out A.i).mono ?_
      rintro e w2 ⟨rfl, rfl⟩
      go_wp2_with fail
      refine (ylimit u _ HL.out A.n).mono ?_
      rintro e w2 ⟨rfl, rfl⟩
      go_wp2_with fail
      refine (ycrash u _ HL.out A.K).mono ?_
      rintro e w2 ⟨rfl, hb⟩
      have HN2 : Hid (Nb A w w2) := HN.out.below hb
      have HL2 : Hid (Lack w2 u) := HL.out.below hb
      clear hb HL HN hu a1 a3 a4 a5 a6 a7
      have ea : ∀ j, w2.cell? ⟨w.heap.size, j, none⟩ = A.cells[j]? := fun j => cell_of_row w2 _ j _ 33 (0, 0) HN2.out.act
      have b1 : w2.cell? ⟨w.heap.size, 1, none⟩ = some (.int .i64 A.i) := ea 1
      have b2 : w2.cell? ⟨w.heap.size, 2, none⟩ = some (.string A.t) := ea 2
      have b3 : w2.cell? ⟨w.heap.size, 3, none⟩ = some (.int .i64 A.n) := ea 3
      clear ea
      go_wp2_with fail
      refine (yappend u _ HL2.out A.i A.t).mono ?_
      rintro e w3 ⟨rfl, rfl⟩
      go_wp2_with fail
      refine (ysync u _ HL2.out A.i).mono ?_
      rintro e w3 ⟨rfl, rfl⟩
      go_wp2_with fail
      refine (ycut u _ HL2.out A.i A.n).mono ?_
      rintro e w3 ⟨rfl, rfl⟩
      go_wp2_with fail
      refine (ylate u _ HL2.out A.i).mono ?_
      rintro e w3 ⟨rfl, rfl⟩
      go_wp2_with fail
      go_roundw
      case rel => exact ⟨k + 1, by omega, by go_num, HN2⟩
      case measure => simp [intOf]; omega
    · obtain rfl : k = 2 := by omega
      clear hlt
      have HFin : Hid (Calls Try.prog 12 #[] wr fun e w' => e = .returned (.bool true) ∧ Hid (Below w.heap.size w w')) := by
        refine (xawake wr).mono ?_
        rintro e w' ⟨rfl, hb⟩
        exact ⟨rfl, HN.out.bel.trans (hb.mono HN.out.bel.size)⟩
      go_wp2_with fail
      refine HFin.out.mono ?_
      rintro e w' ⟨rfl, hb⟩
      go_wp2_with fail
      go_ret
      exact ⟨rfl, hb.out⟩
end Go.Proofs.Ytfdebooimbbdbaa
