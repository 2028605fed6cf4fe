/- layer 11: the order of two accounts, as the program compares them -/
import Derived.Test.YtbfnfebmmhhegaaN
import Derived.Test.YtbfnfebmmhhegaaShelf3
import Derived.WalkKit
import Derived.ProofKit
import Derived.Handy
import Derived.WalkLawsBesides
import Derived.WalkSpells
import Derived.BigQuiet
import Derived.BigCall
import Derived.Deep.QuietTactic
import Derived.Deep.Light
import Derived.Deep.OwnRows
import Derived.Laws.AppendOwnNone
import Derived.Laws.Strings3
import Derived.Laws.RangeAny
import Derived.Deep.RegionWith
import Derived.Lib.BitFns
import Derived.Lib.Walk
import Derived.Lib.Strings
import Derived.Lib.OthersKept
import Derived.Deep.CutBlock
import Derived.Deep.DeepCutAuto
import Derived.Deep.LoopGhost
import Derived.Deep.RegionHeld3
import Derived.Lib.SmallJoins
import Derived.Maps.AppendAt
import Derived.Laws.IdiomStrings
import Derived.Lib.AppendZeros
import Derived.Deep.WholeRow
import Derived.Laws.BitsAllLaws
import Derived.Lib.ConvBytes
import Derived.Deep.RegionLaw
import Derived.Maps.OwnSet
import Derived.Maps.OwnOps
import Derived.Maps.RangeWalk
import Derived.Maps.Ext
import Derived.DeepKeys4
import Derived.Laws.StructEq
import Derived.Shelf.SlSortCmp.NoneTotal
namespace Go.Proofs.Ytbfnfebmmhhegaa
open Go.RowKit
set_option linter.unusedVariables false
set_option linter.unusedSimpArgs false
open Go.Sort (grow)
def cmpS (x y : List UInt8) : Int := if x < y then -1 else if y < x then 1 else 0
theorem not_lt_eq {x y : List UInt8} (h1 : ¬ x < y) (h2 : ¬ y < x) : x = y := List.le_antisymm (List.not_lt.1 h2) (List.not_lt.1 h1)
theorem xnan (x : ByteArray) (w : World) : Calls Try.prog 89 #[.string x] w fun e w' => e = .returned (.bool false) ∧ w = w' := by
  have h : (x.toList == x.toList) = true := by simp
  go_enter Try.func89, Try.ntmps89
  go_wp2
  go_ret
  exact ⟨by simp, rfl⟩
theorem xcmpS (x y : ByteArray) (w : World) : Calls Try.prog 81 #[.string x, .string y] w fun e w' => e = .returned (.int .i64 (cmpS x.toList y.toList)) ∧ w = w' := by
  have H1 : Hid (Calls Try.prog 89 #[.string x] w fun e w' => e = .returned (.bool false) ∧ w = w') := xnan x w
  have H2 : Hid (Calls Try.prog 89 #[.string y] w fun e w' => e = .returned (.bool false) ∧ w = w') := xnan y w
  by_cases h1 : x.toList < y.toList
  · have hr : cmpS x.toList y.toList = -1 := if_pos h1
    rw [hr]
    have b1 : Op.bytesLess x.toList y.toList = true := by rw [bl_eq]; simp [h1]
    clear h1 hr
    go_enter Try.func81, Try.ntmps81
    go_wp2_with (first | (go_at_call 89; refine H1.out.mono ?_; clear H1; rintro e w1 ⟨rfl, rfl⟩) | (go_at_call 89; refine H2.out.mono ?_; rintro e w1 ⟨rfl, rfl⟩))
    go_ret
    exact ⟨rfl, rfl⟩
  · have b1 : Op.bytesLess x.toList y.toList = false := by rw [bl_eq]; simp [h1]
    by_cases h2 : y.toList < x.toList
    · have hr : cmpS x.toList y.toList = 1 := (if_neg h1).trans (if_pos h2)
      rw [hr]
      have b2 : (x.toList == y.toList) = false := by
        rw [beq_eq_false_iff_ne]; intro e; rw [e] at h2; exact List.lt_irrefl _ h2
      clear h1 h2 hr
      go_enter Try.func81, Try.ntmps81
      go_wp2_with (first | (go_at_call 89; refine H1.out.mono ?_; clear H1; rintro e w1 ⟨rfl, rfl⟩) | (go_at_call 89; refine H2.out.mono ?_; rintro e w1 ⟨rfl, rfl⟩))
      go_ret
      exact ⟨rfl, rfl⟩
    · have hr : cmpS x.toList y.toList = 0 := (if_neg h1).trans (if_neg h2)
      rw [hr]
      have b2 : (x.toList == y.toList) = true := by rw [beq_iff_eq]; exact not_lt_eq h1 h2
      clear h1 h2 hr
      go_enter Try.func81, Try.ntmps81
      go_wp2_with (first | (go_at_call 89; refine H1.out.mono ?_; clear H1; rintro e w1 ⟨rfl, rfl⟩) | (go_at_call 89; refine H2.out.mono ?_; rintro e w1 ⟨rfl, rfl⟩))
      go_ret
      exact ⟨rfl, rfl⟩
def or3 (a b c : Int) : Int := if a ≠ 0 then a else if b ≠ 0 then b else c
set_option maxRecDepth 20000 in
theorem xor3 (g : Nat) (a b c : Int) (w : World) (h : Bx w g #[.int .i64 a, .int .i64 b, .int .i64 c] 3) : Calls Try.prog 80 #[.slice (some ⟨g, 0, none⟩) 3 3] w fun e w' => e = .returned (.int .i64 (or3 a b c)) ∧ w = w' := by
  have c0 : w.cell? ⟨g, 0, none⟩ = some (.int .i64 a) := h.cell 0
  have c1 : w.cell? ⟨g, 1, none⟩ = some (.int .i64 b) := h.cell 1
  have c2 : w.cell? ⟨g, 2, none⟩ = some (.int .i64 c) := h.cell 2
  clear h
  by_cases ha : a = 0
  · have ha' : (a != 0) = false := by simp [ha]
    by_cases hb : b = 0
    · have hb' : (b != 0) = false := by simp [hb]
      by_cases hc : c = 0
      · have hr : or3 a b c = 0 := by unfold or3; simp [ha, hb, hc]
        have hc' : (c != 0) = false := by simp [hc]
        rw [hr]
        clear ha hb hc hr
        go_enter Try.func80, Try.ntmps80
        go_wp2_with fail
        refine wp_loop_rounds 4 ?_
        rw [rounds_succ]
        go_wp2_with fail
        rw [rounds_succ]
        go_wp2_with fail
        rw [rounds_succ]
        go_wp2_with fail
        rw [rounds_succ]
        go_wp2_with fail
        go_ret
        exact ⟨rfl, rfl⟩
      · have hr : or3 a b c = c := by unfold or3; simp [ha, hb]
        have hc' : (c != 0) = true := by simp [hc]
        rw [hr]
        clear ha hb hc hr
        go_enter Try.func80, Try.ntmps80
        go_wp2_with fail
        refine wp_loop_rounds 4 ?_
        rw [rounds_succ]
        go_wp2_with fail
        rw [rounds_succ]
        go_wp2_with fail
        rw [rounds_succ]
        go_wp2_with fail
        go_ret
        exact ⟨rfl, rfl⟩
    · have hr : or3 a b c = b := by unfold or3; simp [ha, hb]
      have hb' : (b != 0) = true := by simp [hb]
      rw [hr]
      clear ha hb hr
      go_enter Try.func80, Try.ntmps80
      go_wp2_with fail
      refine wp_loop_rounds 4 ?_
      rw [rounds_succ]
      go_wp2_with fail
      rw [rounds_succ]
      go_wp2_with fail
      go_ret
      exact ⟨rfl, rfl⟩
  · have hr : or3 a b c = a := by unfold or3; simp [ha]
    have ha' : (a != 0) = true := by simp [ha]
    rw [hr]
    clear ha hr
    go_enter Try.func80, Try.ntmps80
    go_wp2_with fail
    refine wp_loop_rounds 4 ?_
    rw [rounds_succ]
    go_wp2_with fail
    go_ret
    exact ⟨rfl, rfl⟩
/-- draws and new blocks alone -/
def Gd (w w' : World) : Prop := ∃ q os, w' = grow (w.drewN q) os
theorem Gd.refl (w : World) : Gd w w := ⟨0, #[], by rw [Go.Sort.grow_empty]; rfl⟩
theorem Gd.trans {a b c : World} (h : Gd a b) (k : Gd b c) : Gd a c := by
  obtain ⟨q, os, rfl⟩ := h
  obtain ⟨q2, os2, rfl⟩ := k
  exact ⟨q + q2, os ++ os2, by simp [grow, World.drewN, Nat.add_assoc, Array.append_assoc]⟩
theorem Gd.alloc (w : World) (o : Obj) : Gd w (w.alloc o) := ⟨0, #[o], by rw [Go.Sort.alloc_eq_grow]; rfl⟩
theorem Gd.drew (w : World) : Gd w w.drew := ⟨1, #[], by rw [Go.Sort.grow_empty]; rfl⟩
theorem Gd.below {w w' : World} (h : Gd w w') : Below w.heap.size w w' := by
  obtain ⟨q, os, rfl⟩ := h
  refine ⟨rfl, rfl, rfl, by simp [grow, World.drewN], fun k hk => ?_⟩
  simp only [grow, World.drewN]
  rw [Array.getElem?_append_left hk]
def ordI (o b : Int) (t : List UInt8) (o2 b2 : Int) (t2 : List UInt8) : Int := or3 (cmpS t t2) (Lib.compareInt o o2) (Lib.compareInt b b2)
set_option maxRecDepth 20000 in
set_option maxHeartbeats 4000000 in
theorem xorder (o b : Int) (s : ByteArray) (o2 b2 : Int) (s2 : ByteArray) (w : World) : Calls Try.prog 68 #[.agg #[.int .i64 o, .int .i64 b, .string s], .agg #[.int .i64 o2, .int .i64 b2, .string s2]] w fun e w' => e = .returned (.int .i64 (ordI o b s.toList o2 b2 s2.toList)) ∧ Gd w w' := by
  have HR : Hid (ordI o b s.toList o2 b2 s2.toList = or3 (cmpS s.toList s2.toList) (Lib.compareInt o o2) (Lib.compareInt b b2)) := rfl
  have HC1 : Hid (∀ w, Calls Try.prog 81 #[.string s, .string s2] w fun e w' => e = .returned (.int .i64 (cmpS s.toList s2.toList)) ∧ w = w') := fun w => xcmpS s s2 w
  have HC2 : Hid (∀ w, Calls Try.prog 82 #[.int .i64 o, .int .i64 o2] w fun e w' => e = .returned (.int .i64 (Lib.compareInt o o2)) ∧ w = w') := fun w => (Try.cmp_Compare_int o o2 w).mono fun _ _ h => ⟨h.1, h.2.symm⟩
  have HC3 : Hid (∀ w, Calls Try.prog 82 #[.int .i64 b, .int .i64 b2] w fun e w' => e = .returned (.int .i64 (Lib.compareInt b b2)) ∧ w = w') := fun w => (Try.cmp_Compare_int b b2 w).mono fun _ _ h => ⟨h.1, h.2.symm⟩
  generalize cmpS s.toList s2.toList = r1 at *
  generalize Lib.compareInt o o2 = r2 at *
  generalize Lib.compareInt b b2 = r3 at *
  generalize ordI o b s.toList o2 b2 s2.toList = R at *
  obtain ⟨w1, hw1⟩ : ∃ w1, w1 = (w.alloc (.cells #[.int .i64 o, .int .i64 b, .string s] 69)).alloc (.cells #[.int .i64 o2, .int .i64 b2, .string s2] 69) := ⟨_, rfl⟩
  have HW : Hid ((w.alloc (.cells #[.int .i64 o, .int .i64 b, .string s] 69)).alloc (.cells #[.int .i64 o2, .int .i64 b2, .string s2] 69) = w1) := hw1.symm
  have hX : Bx w1 w.heap.size #[.int .i64 o, .int .i64 b, .string s] 69 := by rw [hw1]; exact (Bx.new w _ _).kept (grown_alloc _ _ none) (by simp)
  have hY : Bx w1 (w.heap.size + 1) #[.int .i64 o2, .int .i64 b2, .string s2] 69 := by
    rw [hw1]
    have := Bx.new (w.alloc (.cells #[.int .i64 o, .int .i64 b, .string s] 69)) #[.int .i64 o2, .int .i64 b2, .string s2] 69
    rw [World.size_alloc] at this
    exact this
  have HG1 : Hid (Gd w w1) := by unfold Hid; rw [hw1]; exact (Gd.alloc w _).trans (Gd.alloc _ _)
  have hl1 := hX.lt
  have hl2 := hY.lt
  clear hw1
  go_enter Try.func68, Try.ntmps68
  go_upto_region 1 with fail
  rw [HW.out]
  refine wp_region_held (S := fun W => Below w1.heap.size w1 W) (by kernel_rfl) ?_
  change wpAnyH _ _ _ _ _ 18 #[false, false, false, false, false, false, false, false, false, false, false, false, false, false, false, false, false, false] _ w1.drew
  have hS0 : Below w1.heap.size w1 w1.drew := ⟨rfl, rfl, rfl, Nat.le_refl _, fun _ _ => rfl⟩
  have HG2 : Hid (Gd w w1.drew) := HG1.out.trans (Gd.drew _)
  obtain ⟨v0, hv0⟩ : ∃ v, v = w1.drew := ⟨_, rfl⟩
  rw [← hv0] at hS0 HG2 ⊢
  clear hv0
  refine takeR (fuel := 17) (i := 0) (v := .pointer (some ⟨w.heap.size, 2, none⟩)) rfl (by kernel_rfl) (by kernel_rfl) (by kernel_rfl) (fun _ _ _ h => h) (Or.inl ⟨rfl, fun W hW => by go_simp⟩) hS0 ?_
  simp only [Act.put, List.setIfInBounds_toArray, List.set_cons_zero, List.set_cons_succ]
  refine takeR (fuel := 16) (i := 1) (v := .string s) rfl (by kernel_rfl) (by kernel_rfl) (by kernel_rfl) (fun _ _ _ h => h) (Or.inl ⟨rfl, fun W hW => by have cj : W.cell? ⟨w.heap.size, 2, none⟩ = some (.string s) := (hW.cell (p := ⟨w.heap.size, 2, none⟩) hl1).trans (hX.cell 2); go_simp⟩) hS0 ?_
  simp only [Act.put, List.setIfInBounds_toArray, List.set_cons_zero, List.set_cons_succ]
  refine takeR (fuel := 15) (i := 2) (v := .pointer (some ⟨w.heap.size + 1, 2, none⟩)) rfl (by kernel_rfl) (by kernel_rfl) (by kernel_rfl) (fun _ _ _ h => h) (Or.inl ⟨rfl, fun W hW => by go_simp⟩) hS0 ?_
  simp only [Act.put, List.setIfInBounds_toArray, List.set_cons_zero, List.set_cons_succ]
  refine takeR (fuel := 14) (i := 3) (v := .string s2) rfl (by kernel_rfl) (by kernel_rfl) (by kernel_rfl) (fun _ _ _ h => h) (Or.inl ⟨rfl, fun W hW => by have cj : W.cell? ⟨w.heap.size + 1, 2, none⟩ = some (.string s2) := (hW.cell (p := ⟨w.heap.size + 1, 2, none⟩) hl2).trans (hY.cell 2); go_simp⟩) hS0 ?_
  simp only [Act.put, List.setIfInBounds_toArray, List.set_cons_zero, List.set_cons_succ]
  refine takeR (fuel := 13) (i := 5) (v := .pointer (some ⟨w.heap.size, 0, none⟩)) rfl (by kernel_rfl) (by kernel_rfl) (by kernel_rfl) (fun _ _ _ h => h) (Or.inl ⟨rfl, fun W hW => by go_simp⟩) hS0 ?_
  simp only [Act.put, List.setIfInBounds_toArray, List.set_cons_zero, List.set_cons_succ]
  refine takeR (fuel := 12) (i := 6) (v := .int .i64 o) rfl (by kernel_rfl) (by kernel_rfl) (by kernel_rfl) (fun _ _ _ h => h) (Or.inl ⟨rfl, fun W hW => by have cj : W.cell? ⟨w.heap.size, 0, none⟩ = some (.int .i64 o) := (hW.cell (p := ⟨w.heap.size, 0, none⟩) hl1).trans (hX.cell 0); go_simp⟩) hS0 ?_
  simp only [Act.put, List.setIfInBounds_toArray, List.set_cons_zero, List.set_cons_succ]
  refine takeR (fuel := 11) (i := 7) (v := .pointer (some ⟨w.heap.size + 1, 0, none⟩)) rfl (by kernel_rfl) (by kernel_rfl) (by kernel_rfl) (fun _ _ _ h => h) (Or.inl ⟨rfl, fun W hW => by go_simp⟩) hS0 ?_
  simp only [Act.put, List.setIfInBounds_toArray, List.set_cons_zero, List.set_cons_succ]
  refine takeR (fuel := 10) (i := 8) (v := .int .i64 o2) rfl (by kernel_rfl) (by kernel_rfl) (by kernel_rfl) (fun _ _ _ h => h) (Or.inl ⟨rfl, fun W hW => by have cj : W.cell? ⟨w.heap.size + 1, 0, none⟩ = some (.int .i64 o2) := (hW.cell (p := ⟨w.heap.size + 1, 0, none⟩) hl2).trans (hY.cell 0); go_simp⟩) hS0 ?_
  simp only [Act.put, List.setIfInBounds_toArray, List.set_cons_zero, List.set_cons_succ]
  refine takeR (fuel := 9) (i := 10) (v := .pointer (some ⟨w.heap.size, 1, none⟩)) rfl (by kernel_rfl) (by kernel_rfl) (by kernel_rfl) (fun _ _ _ h => h) (Or.inl ⟨rfl, fun W hW => by go_simp⟩) hS0 ?_
  simp only [Act.put, List.setIfInBounds_toArray, List.set_cons_zero, List.set_cons_succ]
  refine takeR (fuel := 8) (i := 11) (v := .int .i64 b) rfl (by kernel_rfl) (by kernel_rfl) (by kernel_rfl) (fun _ _ _ h => h) (Or.inl ⟨rfl, fun W hW => by have cj : W.cell? ⟨w.heap.size, 1, none⟩ = some (.int .i64 b) := (hW.cell (p := ⟨w.heap.size, 1, none⟩) hl1).trans (hX.cell 1); go_simp⟩) hS0 ?_
  simp only [Act.put, List.setIfInBounds_toArray, List.set_cons_zero, List.set_cons_succ]
  refine takeR (fuel := 7) (i := 12) (v := .pointer (some ⟨w.heap.size + 1, 1, none⟩)) rfl (by kernel_rfl) (by kernel_rfl) (by kernel_rfl) (fun _ _ _ h => h) (Or.inl ⟨rfl, fun W hW => by go_simp⟩) hS0 ?_
  simp only [Act.put, List.setIfInBounds_toArray, List.set_cons_zero, List.set_cons_succ]
  refine takeR (fuel := 6) (i := 13) (v := .int .i64 b2) rfl (by kernel_rfl) (by kernel_rfl) (by kernel_rfl) (fun _ _ _ h => h) (Or.inl ⟨rfl, fun W hW => by have cj : W.cell? ⟨w.heap.size + 1, 1, none⟩ = some (.int .i64 b2) := (hW.cell (p := ⟨w.heap.size + 1, 1, none⟩) hl2).trans (hY.cell 1); go_simp⟩) hS0 ?_
  simp only [Act.put, List.setIfInBounds_toArray, List.set_cons_zero, List.set_cons_succ]
  refine consR (fuel := 5) (i := 4) rfl (by kernel_rfl) (fun K hK => ?_)
  rw [if_pos (by rfl)]
  go_simp
  refine (HC1.out _).mono ?_
  rintro e v1 ⟨rfl, rfl⟩
  refine hK.out _ _ hS0 (fun _ => ?_)
  clear hK
  try simp only [Act.put, List.setIfInBounds_toArray, List.set_cons_zero, List.set_cons_succ]
  refine consR (fuel := 4) (i := 9) rfl (by kernel_rfl) (fun K hK => ?_)
  rw [if_pos (by rfl)]
  go_simp
  refine (HC2.out _).mono ?_
  rintro e v1 ⟨rfl, rfl⟩
  refine hK.out _ _ hS0 (fun _ => ?_)
  clear hK
  try simp only [Act.put, List.setIfInBounds_toArray, List.set_cons_zero, List.set_cons_succ]
  refine consR (fuel := 3) (i := 14) rfl (by kernel_rfl) (fun K hK => ?_)
  rw [if_pos (by rfl)]
  go_simp
  refine (HC3.out _).mono ?_
  rintro e v1 ⟨rfl, rfl⟩
  refine hK.out _ _ hS0 (fun _ => ?_)
  clear hK
  try simp only [Act.put, List.setIfInBounds_toArray, List.set_cons_zero, List.set_cons_succ]
  have hZ := Bx.new v0 #[.int .i64 r1, .int .i64 r2, .int .i64 r3] 3
  have HG3 : Hid (Gd w (v0.alloc (.cells #[.int .i64 r1, .int .i64 r2, .int .i64 r3] 3))) := HG2.out.trans (Gd.alloc _ _)
  have hS1 : Below w1.heap.size w1 (v0.alloc (.cells #[.int .i64 r1, .int .i64 r2, .int .i64 r3] 3)) := hS0.alloc hS0.size _
  have HC4 : Hid (Calls Try.prog 80 #[.slice (some ⟨v0.heap.size, 0, none⟩) 3 3] (v0.alloc (.cells #[.int .i64 r1, .int .i64 r2, .int .i64 r3] 3)) fun e w' => e = .returned (.int .i64 R) ∧ (v0.alloc (.cells #[.int .i64 r1, .int .i64 r2, .int .i64 r3] 3)) = w') := by rw [HR.out]; exact xor3 _ _ _ _ _ hZ
  refine consR (fuel := 2) (i := 15) rfl (by kernel_rfl) (fun K hK => ?_)
  rw [if_pos (by rfl)]
  go_simp
  refine hK.out _ _ hS1 (fun _ => ?_)
  clear hK
  try simp only [Act.put, List.setIfInBounds_toArray, List.set_cons_zero, List.set_cons_succ]
  refine consR (fuel := 1) (i := 16) rfl (by kernel_rfl) (fun K hK => ?_)
  rw [if_pos (by rfl)]
  go_simp
  refine HC4.out.mono ?_
  rintro e v5 ⟨rfl, rfl⟩
  refine hK.out _ _ hS1 (fun _ => ?_)
  clear hK
  try simp only [Act.put, List.setIfInBounds_toArray, List.set_cons_zero, List.set_cons_succ]
  refine takeR (fuel := 0) (i := 17) (v := .int .i64 R) rfl (by kernel_rfl) (by kernel_rfl) (by kernel_rfl) (fun _ _ _ h => h) (Or.inl ⟨rfl, fun W hW => by go_simp⟩) hS1 ?_
  simp only [Act.put, List.setIfInBounds_toArray, List.set_cons_zero, List.set_cons_succ]
  refine wpAnyH_done (by kernel_rfl) ?_ _
  clear hS0 hS1 hX hY hZ HC4
  go_wp2_with fail
  go_ret
  exact ⟨rfl, HG3.out⟩
end Go.Proofs.Ytbfnfebmmhhegaa
