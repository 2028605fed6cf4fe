/- layer 12: lots as lines -/
import Derived.Test.YtbfnfebmmhhegaaCE
import Derived.WalkKit
import Derived.ProofKit
import Derived.Handy
import Derived.WalkLawsBesides
import Derived.WalkSpells
import Derived.BigQuiet
import Derived.BigCall
import Derived.Deep.QuietTactic
import Derived.Deep.Light
import Derived.Deep.OwnRows
import Derived.Laws.AppendOwnNone
import Derived.Laws.Strings3
import Derived.Laws.RangeAny
import Derived.Deep.RegionWith
import Derived.Lib.BitFns
import Derived.Lib.Walk
import Derived.Lib.Strings
import Derived.Lib.OthersKept
import Derived.Deep.CutBlock
import Derived.Deep.DeepCutAuto
import Derived.Deep.LoopGhost
import Derived.Deep.RegionHeld3
import Derived.Lib.SmallJoins
import Derived.Maps.AppendAt
import Derived.Laws.IdiomStrings
import Derived.Lib.AppendZeros
import Derived.Deep.WholeRow
import Derived.Laws.BitsAllLaws
import Derived.Lib.ConvBytes
import Derived.Deep.RegionLaw
import Derived.Maps.OwnSet
import Derived.Maps.OwnOps
import Derived.Maps.RangeWalk
import Derived.Maps.Ext
import Derived.DeepKeys4
import Derived.Laws.StructEq
import Derived.Shelf.SlSortCmp.NoneTotal
import Derived.Deep.MidRow
import Derived.Laws.MakeOwn
namespace Go.Proofs.Ytbfnfebmmhhegaa
open Go.RowKit
set_option linter.unusedVariables false
set_option linter.unusedSimpArgs false
set_option maxRecDepth 20000
abbrev Lot := ByteArray × Int
def lotc (x : Lot) : List Value := [.string x.1, .int .i64 x.2]
abbrev Lts := Rw 2 lotc
def way (f b t i : Int) (x : Lot) : Ln := ⟨f, b, t, i, x.1, x.2⟩
theorem grown_set (w : World) (g k : Nat) (u : Value) : w.grownBy (w.setCell ⟨g, k, none⟩ u) (some g) := by
  have h := (Below.refl g w).setCell (p := ⟨g, k, none⟩) (Nat.le_refl _) u
  exact ⟨h.os, h.tape, h.output, h.size, fun i hi hr => Below.heap_setCell w _ u i (fun e => hr (by rw [e]))⟩
set_option maxHeartbeats 8000000 in
theorem xlines (f b t i : Int) (xs : List Lot) (hl : xs.length ≤ 1000000) (a : Option Addr) (cap : Nat) (w : World) (h : Lts w a xs) :
    Calls Try.prog 52 #[.agg #[.int .i64 f, .int .i64 b, .int .i64 t, .int .i64 i, .string ⟨#[]⟩, .int .i64 0], .slice a xs.length cap] w (LnP 98 (xs.map (way f b t i)) w) := by
  have HE : Hid (Lts w a xs) := h
  obtain ⟨i0, hi, hz0, hz1, hz2⟩ := info_parts info98
  obtain ⟨w1, hw1⟩ : ∃ w1, w1 = w.alloc (.cells #[.int .i64 f, .int .i64 b, .int .i64 t, .int .i64 i, .string ⟨#[]⟩, .int .i64 0] 98) := ⟨_, rfl⟩
  have hsz1 : w1.heap.size = w.heap.size + 1 := by rw [hw1]; simp
  have hX1 : Bx w1 w.heap.size #[.int .i64 f, .int .i64 b, .int .i64 t, .int .i64 i, .string ⟨#[]⟩, .int .i64 0] 98 := by rw [hw1]; exact Bx.new w _ _
  have hB1 : Below w.heap.size w w1 := by rw [hw1]; exact (Below.refl _ w).alloc (Nat.le_refl _) _
  obtain ⟨w2, hmk, hown, hg2⟩ := run_make_own (P := Try.prog) w1 w1.heap.size 59 98 i0 _ 6 Try.underlying59 hi hz0 hz1 .i64 .i64 (xs.length + 1) (by rw [hz2]; omega) (by unfold maxLen; omega) (Nat.le_refl _)
  have HW : Hid (w.alloc (.cells #[.int .i64 f, .int .i64 b, .int .i64 t, .int .i64 i, .string ⟨#[]⟩, .int .i64 0] 98) = w1) := hw1.symm
  rw [hsz1] at hmk hown
  have HO2 : Hid (w2.ownsRow (w.heap.size + 1) 98 6 (.slice (some ⟨w.heap.size + 1, 0, none⟩) 0 (xs.length + 1)) 0 [] ∧ Below w.heap.size w w2 ∧ ∃ s q, Bx w2 w.heap.size #[.int .i64 f, .int .i64 b, .int .i64 t, .int .i64 i, .string s, .int .i64 q] 98) := ⟨hown, hB1.grown hg2 (by rw [hsz1]; omega) (fun k e => by cases e), _, _, hX1.kept hg2 (by simp)⟩
  have hmk' : (Instr.makeSlice 59 (.int .i64 0) (.int .i64 ((xs.length : Int) + 1))).run Try.prog w1 = .ok (.slice (some ⟨w.heap.size + 1, 0, none⟩) 0 (xs.length + 1)) w2 := by simpa using hmk
  have hl' : (xs.length : Int) ≤ 1000000 := by omega
  clear h hi hz0 hz1 hz2 hw1 hsz1 hX1 hB1 hg2 hown hmk
  go_enter Try.func52, Try.ntmps52
  go_upto_region 1 with fail
  rw [HW.out]
  go_wp2_with fail
  clear hmk'
  go_loopw [5, 14] (fun v i9 wr => ∃ k : Nat, k ≤ xs.length ∧ i9 = .int .i64 k ∧ Hid (wr.ownsRow (w.heap.size + 1) 98 6 v k (lcs ((xs.map (way f b t i)).take k)) ∧ Below w.heap.size w wr ∧ ∃ s q, Bx wr w.heap.size #[.int .i64 f, .int .i64 b, .int .i64 t, .int .i64 i, .string s, .int .i64 q] 98))
    (fun _ i9 _ => xs.length - (intOf i9).toNat)
  case atStart => exact ⟨0, Nat.zero_le _, rfl, HO2.out⟩
  case round =>
    obtain ⟨k, hk, rfl, HR⟩ := hrel
    clear HO2
    by_cases hkn : k < xs.length
    · have hkz : (k : Int) < (xs.length : Int) := by omega
      obtain ⟨blk, off, rfl, hbl, hcs⟩ := HE.out (by omega)
      have hc2 := hcs k hkn
      have HT : Hid (lcs ((xs.map (way f b t i)).take k) ++ (way f b t i xs[k]).cs.toList = lcs ((xs.map (way f b t i)).take (k + 1))) := by
        have h1 := rcs_take (fun x : Ln => x.cs.toList) (xs.map (way f b t i)) (k := k) (by simpa using hkn)
        rw [List.getElem_map] at h1
        exact h1
      generalize xs[k] = x at *
      obtain ⟨ls, lq⟩ := x
      have e0 : wr.cell? ⟨blk, off + k * 2, none⟩ = some (.string ls) := (HR.out.2.1.cell (p := ⟨blk, off + k * 2 + 0, none⟩) hbl).trans (hc2 0 (by omega))
      have e1 : wr.cell? ⟨blk, off + k * 2 + 1, none⟩ = some (.int .i64 lq) := (HR.out.2.1.cell (p := ⟨blk, off + k * 2 + 1, none⟩) hbl).trans (hc2 1 (by omega))
      obtain ⟨s0, q0, hX⟩ := HR.out.2.2
      have d0 : wr.cell? ⟨w.heap.size, 0, none⟩ = some (.int .i64 f) := hX.cell 0
      have d1 : wr.cell? ⟨w.heap.size, 1, none⟩ = some (.int .i64 b) := hX.cell 1
      have d2 : wr.cell? ⟨w.heap.size, 2, none⟩ = some (.int .i64 t) := hX.cell 2
      have d3 : wr.cell? ⟨w.heap.size, 3, none⟩ = some (.int .i64 i) := hX.cell 3
      have d4 : wr.cell? ⟨w.heap.size, 4, none⟩ = some (.string s0) := hX.cell 4
      have d5 : wr.cell? ⟨w.heap.size, 5, none⟩ = some (.int .i64 q0) := hX.cell 5
      have f4 : wr.frozen? ⟨w.heap.size, 4, none⟩ = false := hX.froz 4
      have f5 : wr.frozen? ⟨w.heap.size, 5, none⟩ = false := hX.froz 5
      have hlt : w.heap.size < wr.heap.size := hX.lt
      obtain ⟨w5, hw5⟩ : ∃ w5, w5 = (((wr.setCell ⟨w.heap.size, 4, none⟩ (.string ls)).setCell ⟨w.heap.size, 5, none⟩ (.int .i64 lq)).alloc (.cells #[.string ls, .int .i64 lq] 64)).drew := ⟨_, rfl⟩
      have HW5 : Hid ((((wr.setCell ⟨w.heap.size, 4, none⟩ (.string ls)).setCell ⟨w.heap.size, 5, none⟩ (.int .i64 lq)).alloc (.cells #[.string ls, .int .i64 lq] 64)).drew = w5) := hw5.symm
      have hob : some w.heap.size ≠ u5.ownBlock := fun e => by have := (HR.out.1.lt _ e.symm).1; omega
      have hO5 : w5.ownsRow (w.heap.size + 1) 98 6 u5 k (lcs ((xs.map (way f b t i)).take k)) := by
        rw [hw5]
        exact own_below (own_grown (own_grown HR.out.1 (grown_set wr w.heap.size 4 _) hob) (grown_set _ w.heap.size 5 _) hob) (((Below.refl _ _).alloc (Nat.le_refl _) _).trans ⟨rfl, rfl, rfl, Nat.le_refl _, fun _ _ => rfl⟩)
      have hX5 : Bx w5 w.heap.size #[.int .i64 f, .int .i64 b, .int .i64 t, .int .i64 i, .string ls, .int .i64 lq] 98 := by
        rw [hw5]
        have h1 : Bx ((wr.setCell ⟨w.heap.size, 4, none⟩ (.string ls)).setCell ⟨w.heap.size, 5, none⟩ (.int .i64 lq)) w.heap.size #[.int .i64 f, .int .i64 b, .int .i64 t, .int .i64 i, .string ls, .int .i64 lq] 98 := (hX.setc 4 (.string ls)).setc 5 (.int .i64 lq)
        exact h1.kept (grown_trans (grown_alloc _ _ none) (grown_drew _ none)) (by simp)
      have hB5 : Below w.heap.size w w5 := by
        rw [hw5]
        have h1 := (HR.out.2.1.setCell (p := ⟨w.heap.size, 4, none⟩) (Nat.le_refl _) (.string ls)).setCell (p := ⟨w.heap.size, 5, none⟩) (Nat.le_refl _) (.int .i64 lq)
        exact (h1.alloc h1.size _).trans ⟨rfl, rfl, rfl, Nat.le_refl _, fun _ _ => rfl⟩
      have hs5 : w.heap.size < w5.heap.size := hX5.lt
      obtain ⟨v', w6, hr6, ho6, hg6⟩ := app_gen (T := 98) (Sl := 59) (k := 6) (bytes := 56) Try.underlying59 info98 rfl (by omega) [.int .i64 f, .int .i64 b, .int .i64 t, .int .i64 i, .string ls, .int .i64 lq] rfl (by intro u hu; simp at hu; rcases hu with rfl | rfl | rfl | rfl | rfl | rfl <;> rfl) hO5 hs5 (by omega) (by unfold maxLen; omega)
      have hob5 : some w.heap.size ≠ u5.ownBlock := hob
      have HZ : Hid (w6.ownsRow (w.heap.size + 1) 98 6 v' (k + 1) (lcs ((xs.map (way f b t i)).take (k + 1))) ∧ Below w.heap.size w w6 ∧ ∃ s q, Bx w6 w.heap.size #[.int .i64 f, .int .i64 b, .int .i64 t, .int .i64 i, .string s, .int .i64 q] 98) :=
        ⟨by rw [← HT.out]; exact ho6, (hB5.alloc hB5.size _).grown hg6 (by simp; omega) (fun j hj => by have := (hO5.lt j hj).1; omega), _, _, (hX5.kept (grown_alloc _ _ none) (by simp)).kept hg6 hob5⟩
      have k0 : w5.cell? ⟨w.heap.size, 0, none⟩ = some (.int .i64 f) := hX5.cell 0
      have k1 : w5.cell? ⟨w.heap.size, 1, none⟩ = some (.int .i64 b) := hX5.cell 1
      have k2 : w5.cell? ⟨w.heap.size, 2, none⟩ = some (.int .i64 t) := hX5.cell 2
      have k3 : w5.cell? ⟨w.heap.size, 3, none⟩ = some (.int .i64 i) := hX5.cell 3
      have k4 : w5.cell? ⟨w.heap.size, 4, none⟩ = some (.string ls) := hX5.cell 4
      have k5 : w5.cell? ⟨w.heap.size, 5, none⟩ = some (.int .i64 lq) := hX5.cell 5
      clear hc2 hcs hw5 hO5 hX5 hB5 ho6 hg6 hob hob5 hX HR HT
      go_upto_region 5 with fail
      go_region
      rw [HW5.out]
      clear HW5
      go_wp2_with (at_builtin; refine Lib.wpList_append_run _ rfl _ _ 59 59 rfl _ _ rfl rfl _ w6 hr6 ?_)
      go_roundw
      case rel => exact ⟨k + 1, by omega, by simp, HZ.out⟩
      case measure => simp [intOf]; omega
    · have hkz : ¬ (k : Int) < (xs.length : Int) := by omega
      have HF : Hid (LnP 98 (xs.map (way f b t i)) w (.returned u5) wr) := by
        have hr := HR.out
        have e : k = (xs.map (way f b t i)).length := by simp; omega
        rw [e, List.take_length] at hr
        exact ⟨u5, rfl, own_mono hr.1 (by omega), hr.2.1⟩
      go_wp2_with fail
      go_ret
      exact HF.out
end Go.Proofs.Ytbfnfebmmhhegaa
