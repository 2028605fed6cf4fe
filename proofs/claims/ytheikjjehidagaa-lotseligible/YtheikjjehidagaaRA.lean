/- layer 17: which of two items is ahead, by the program -/
import Derived.Test.YtheikjjehidagaaNB
import Derived.Test.YtheikjjehidagaaEB
import Derived.WalkKit
import Derived.ProofKit
import Derived.Handy
import Derived.WalkLawsBesides
import Derived.WalkSpells
import Derived.BigQuiet
import Derived.BigCall
import Derived.Deep.QuietTactic
import Derived.Deep.Light
import Derived.Deep.OwnRows
import Derived.Laws.AppendOwnNone
import Derived.Laws.Strings3
import Derived.Laws.RangeAny
import Derived.Deep.RegionWith
import Derived.Lib.BitFns
import Derived.Lib.Walk
import Derived.Lib.Strings
import Derived.Lib.OthersKept
import Derived.Deep.CutBlock
import Derived.Deep.DeepCutAuto
import Derived.Deep.LoopGhost
import Derived.Deep.RegionHeld3
import Derived.Lib.SmallJoins
import Derived.Maps.AppendAt
import Derived.Laws.IdiomStrings
import Derived.Lib.AppendZeros
import Derived.Deep.WholeRow
import Derived.Laws.BitsAllLaws
import Derived.Lib.ConvBytes
import Derived.Deep.RegionLaw
import Derived.Maps.OwnSet
import Derived.Maps.OwnOps
import Derived.Maps.RangeWalk
import Derived.Maps.Ext
import Derived.DeepKeys4
import Derived.Laws.StructEq
import Derived.Deep.MidRow
import Derived.Lib.Bytealg
import Derived.Lib.AppendZerosOnto
import Derived.Laws.MakeOwn
import Derived.Deep.Upon
import Derived.Sort.KeysCollected
namespace Go.Proofs.Ytheikjjehidagaa
open Go.RowKit
set_option linter.unusedVariables false
set_option linter.unusedSimpArgs false
open Go.Sort (grow SWO)
open H5 (It its its_len its_one)
set_option maxRecDepth 20000
def cmI (a b : Int) : Int := if a < b then -1 else if b < a then 1 else 0
theorem cmI_neg {a b : Int} : cmI a b < 0 ↔ a < b := by
  unfold cmI
  constructor
  · intro h
    split at h
    · assumption
    · split at h <;> omega
  · intro h
    rw [if_pos h]
    omega
theorem cmI_zero {a b : Int} : cmI a b = 0 ↔ a = b := by
  unfold cmI
  constructor
  · intro h
    split at h
    · omega
    · split at h <;> omega
  · rintro rfl
    rw [if_neg (by omega), if_neg (by omega)]
theorem xnanI (x : Int) (w : World) : Calls Try.prog 98 #[.int .i64 x] w fun e w' => e = .returned (.bool false) ∧ w = w' := by
  have h : (x != x) = false := by simp
  go_enter Try.func98, Try.ntmps98
  go_wp2
  go_ret
  exact ⟨by simp, rfl⟩
theorem xcmI (x y : Int) (w : World) : Calls Try.prog 73 #[.int .i64 x, .int .i64 y] w fun e w' => e = .returned (.int .i64 (cmI x y)) ∧ w = w' := by
  have H1 : Hid (Calls Try.prog 98 #[.int .i64 x] w fun e w' => e = .returned (.bool false) ∧ w = w') := xnanI x w
  have H2 : Hid (Calls Try.prog 98 #[.int .i64 y] w fun e w' => e = .returned (.bool false) ∧ w = w') := xnanI y w
  unfold cmI
  by_cases h1 : x < y
  · rw [if_pos h1]
    go_enter Try.func73, Try.ntmps73
    go_wp2_with (first | (go_at_call 98; refine H1.out.mono ?_; clear H1; rintro e w1 ⟨rfl, rfl⟩) | (go_at_call 98; refine H2.out.mono ?_; rintro e w1 ⟨rfl, rfl⟩))
    go_ret
    exact ⟨rfl, rfl⟩
  · rw [if_neg h1]
    by_cases h2 : y < x
    · rw [if_pos h2]
      go_enter Try.func73, Try.ntmps73
      go_wp2_with (first | (go_at_call 98; refine H1.out.mono ?_; clear H1; rintro e w1 ⟨rfl, rfl⟩) | (go_at_call 98; refine H2.out.mono ?_; rintro e w1 ⟨rfl, rfl⟩))
      go_ret
      exact ⟨rfl, rfl⟩
    · rw [if_neg h2]
      go_enter Try.func73, Try.ntmps73
      go_wp2_with (first | (go_at_call 98; refine H1.out.mono ?_; clear H1; rintro e w1 ⟨rfl, rfl⟩) | (go_at_call 98; refine H2.out.mono ?_; rintro e w1 ⟨rfl, rfl⟩))
      go_ret
      exact ⟨rfl, rfl⟩
def or3 (a b c : Int) : Int := if a ≠ 0 then a else if b ≠ 0 then b else c
set_option maxRecDepth 20000 in
theorem xor3 (g : Nat) (a b c : Int) (w : World) (h : Bx w g #[.int .i64 a, .int .i64 b, .int .i64 c] 3) : Calls Try.prog 72 #[.slice (some ⟨g, 0, none⟩) 3 3] w fun e w' => e = .returned (.int .i64 (or3 a b c)) ∧ w = w' := by
  have c0 : w.cell? ⟨g, 0, none⟩ = some (.int .i64 a) := h.cell 0
  have c1 : w.cell? ⟨g, 1, none⟩ = some (.int .i64 b) := h.cell 1
  have c2 : w.cell? ⟨g, 2, none⟩ = some (.int .i64 c) := h.cell 2
  clear h
  by_cases ha : a = 0
  · have ha' : (a != 0) = false := by simp [ha]
    by_cases hb : b = 0
    · have hb' : (b != 0) = false := by simp [hb]
      by_cases hc : c = 0
      · have hr : or3 a b c = 0 := by unfold or3; simp [ha, hb, hc]
        have hc' : (c != 0) = false := by simp [hc]
        rw [hr]
        clear ha hb hc hr
        go_enter Try.func72, Try.ntmps72
        go_wp2_with fail
        refine wp_loop_rounds 4 ?_
        rw [rounds_succ]
        go_wp2_with fail
        rw [rounds_succ]
        go_wp2_with fail
        rw [rounds_succ]
        go_wp2_with fail
        rw [rounds_succ]
        go_wp2_with fail
        go_ret
        exact ⟨rfl, rfl⟩
      · have hr : or3 a b c = c := by unfold or3; simp [ha, hb]
        have hc' : (c != 0) = true := by simp [hc]
        rw [hr]
        clear ha hb hc hr
        go_enter Try.func72, Try.ntmps72
        go_wp2_with fail
        refine wp_loop_rounds 4 ?_
        rw [rounds_succ]
        go_wp2_with fail
        rw [rounds_succ]
        go_wp2_with fail
        rw [rounds_succ]
        go_wp2_with fail
        go_ret
        exact ⟨rfl, rfl⟩
    · have hr : or3 a b c = b := by unfold or3; simp [ha, hb]
      have hb' : (b != 0) = true := by simp [hb]
      rw [hr]
      clear ha hb hr
      go_enter Try.func72, Try.ntmps72
      go_wp2_with fail
      refine wp_loop_rounds 4 ?_
      rw [rounds_succ]
      go_wp2_with fail
      rw [rounds_succ]
      go_wp2_with fail
      go_ret
      exact ⟨rfl, rfl⟩
  · have hr : or3 a b c = a := by unfold or3; simp [ha]
    have ha' : (a != 0) = true := by simp [ha]
    rw [hr]
    clear ha hr
    go_enter Try.func72, Try.ntmps72
    go_wp2_with fail
    refine wp_loop_rounds 4 ?_
    rw [rounds_succ]
    go_wp2_with fail
    go_ret
    exact ⟨rfl, rfl⟩
/-- draws and new blocks alone -/
def Gd (w w' : World) : Prop := ∃ q os, w' = grow (w.drewN q) os
theorem Gd.refl (w : World) : Gd w w := ⟨0, #[], by rw [Go.Sort.grow_empty]; rfl⟩
theorem Gd.trans {a b c : World} (h : Gd a b) (k : Gd b c) : Gd a c := by
  obtain ⟨q, os, rfl⟩ := h
  obtain ⟨q2, os2, rfl⟩ := k
  exact ⟨q + q2, os ++ os2, by simp [grow, World.drewN, Nat.add_assoc, Array.append_assoc]⟩
theorem Gd.alloc (w : World) (o : Obj) : Gd w (w.alloc o) := ⟨0, #[o], by rw [Go.Sort.alloc_eq_grow]; rfl⟩
theorem Gd.drew (w : World) : Gd w w.drew := ⟨1, #[], by rw [Go.Sort.grow_empty]; rfl⟩
theorem Gd.below {w w' : World} (h : Gd w w') : Below w.heap.size w w' := by
  obtain ⟨q, os, rfl⟩ := h
  refine ⟨rfl, rfl, rfl, by simp [grow, World.drewN], fun k hk => ?_⟩
  simp only [grow, World.drewN]
  rw [Array.getElem?_append_left hk]
/-- the program's order, and the document's -/
def cfI (x y : It) : Int := or3 (cmI x.c y.c) (cmI x.a.mat y.a.mat) (cmpS x.l.toList y.l.toList)
def ltI (x y : It) : Bool := if x.c = y.c then (if x.a.mat = y.a.mat then decide (x.l.toList < y.l.toList) else decide (x.a.mat < y.a.mat)) else decide (x.c < y.c)
theorem cfI_lt (x y : It) : decide (cfI x y < 0) = ltI x y := by
  unfold cfI ltI or3
  by_cases h1 : x.c = y.c
  · rw [if_pos h1, if_neg (by rw [cmI_zero.2 h1]; simp)]
    by_cases h2 : x.a.mat = y.a.mat
    · rw [if_pos h2, if_neg (by rw [cmI_zero.2 h2]; simp), decide_eq_decide]
      exact cmp_neg
    · rw [if_neg h2, if_pos (fun e => h2 (cmI_zero.1 e)), decide_eq_decide]
      exact cmI_neg
  · rw [if_neg h1, if_pos (fun e => h1 (cmI_zero.1 e)), decide_eq_decide]
    exact cmI_neg
theorem ltI_iff {x y : It} : ltI x y = true ↔ (x.c < y.c ∨ (x.c = y.c ∧ (x.a.mat < y.a.mat ∨ (x.a.mat = y.a.mat ∧ x.l.toList < y.l.toList)))) := by
  unfold ltI
  by_cases h1 : x.c = y.c
  · rw [if_pos h1]
    by_cases h2 : x.a.mat = y.a.mat
    · rw [if_pos h2, decide_eq_true_iff]
      constructor
      · intro h; exact .inr ⟨h1, .inr ⟨h2, h⟩⟩
      · rintro (h | ⟨_, h | ⟨_, h⟩⟩)
        · omega
        · omega
        · exact h
    · rw [if_neg h2, decide_eq_true_iff]
      constructor
      · intro h; exact .inr ⟨h1, .inl h⟩
      · rintro (h | ⟨_, h | ⟨h, _⟩⟩)
        · omega
        · exact h
        · exact absurd h h2
  · rw [if_neg h1, decide_eq_true_iff]
    constructor
    · intro h; exact .inl h
    · rintro (h | ⟨h, _⟩)
      · exact h
      · exact absurd h h1
theorem ltI_no {x y : It} : ltI x y = false ↔ (y.c < x.c ∨ (x.c = y.c ∧ (y.a.mat < x.a.mat ∨ (x.a.mat = y.a.mat ∧ ¬ x.l.toList < y.l.toList)))) := by
  rw [← Bool.not_eq_true, ltI_iff]
  constructor
  · intro h
    by_cases h1 : x.c = y.c
    · refine .inr ⟨h1, ?_⟩
      by_cases h2 : x.a.mat = y.a.mat
      · exact .inr ⟨h2, fun k => h (.inr ⟨h1, .inr ⟨h2, k⟩⟩)⟩
      · refine .inl ?_
        have : ¬ x.a.mat < y.a.mat := fun k => h (.inr ⟨h1, .inl k⟩)
        omega
    · refine .inl ?_
      have : ¬ x.c < y.c := fun k => h (.inl k)
      omega
  · rintro (h | ⟨h, h2 | ⟨h2, h3⟩⟩) (k | ⟨k, k2 | ⟨k2, k3⟩⟩)
    all_goals first | omega | exact h3 k3
theorem swoI : SWO ltI where
  irrefl x := ltI_no.2 (.inr ⟨rfl, .inr ⟨rfl, lt_ir _⟩⟩)
  trans x y z h1 h2 := by
    rw [ltI_iff] at *
    rcases h1 with h1 | ⟨h1, h1' | ⟨h1', h1''⟩⟩
    · rcases h2 with h2 | ⟨h2, _⟩
      · exact .inl (by omega)
      · exact .inl (by omega)
    · rcases h2 with h2 | ⟨h2, h2' | ⟨h2', _⟩⟩
      · exact .inl (by omega)
      · exact .inr ⟨by omega, .inl (by omega)⟩
      · exact .inr ⟨by omega, .inl (by omega)⟩
    · rcases h2 with h2 | ⟨h2, h2' | ⟨h2', h2''⟩⟩
      · exact .inl (by omega)
      · exact .inr ⟨by omega, .inl (by omega)⟩
      · exact .inr ⟨by omega, .inr ⟨by omega, lt_tr h1'' h2''⟩⟩
  ntrans x y z h1 h2 := by
    rw [ltI_no] at *
    rcases h1 with h1 | ⟨h1, h1' | ⟨h1', h1''⟩⟩
    · rcases h2 with h2 | ⟨h2, _⟩
      · exact .inl (by omega)
      · exact .inl (by omega)
    · rcases h2 with h2 | ⟨h2, h2' | ⟨h2', _⟩⟩
      · exact .inl (by omega)
      · exact .inr ⟨by omega, .inl (by omega)⟩
      · exact .inr ⟨by omega, .inl (by omega)⟩
    · rcases h2 with h2 | ⟨h2, h2' | ⟨h2', h2''⟩⟩
      · exact .inl (by omega)
      · exact .inr ⟨by omega, .inl (by omega)⟩
      · refine .inr ⟨by omega, .inr ⟨by omega, fun h => ?_⟩⟩
        by_cases k : y.l.toList < x.l.toList
        · exact h2'' (lt_tr k h)
        · have e : x.l.toList = y.l.toList := nlt_eq h1'' k
          rw [e] at h
          exact h2'' h
set_option maxHeartbeats 8000000 in
theorem xrank (x y : It) (w : World) : Calls Try.prog 49 #[.agg (its x).toArray, .agg (its y).toArray] w fun e w' => e = .returned (.int .i64 (cfI x y)) ∧ Gd w w' := by
  obtain ⟨l, q, ⟨ai, a1, a2, am, ac⟩, p, c⟩ := x
  obtain ⟨l2, q2, ⟨bi, b1, b2, bm, bc⟩, p2, c2⟩ := y
  simp only [its, cfI]
  have HR : Hid (or3 (cmI c c2) (cmI am bm) (cmpS l.toList l2.toList) = or3 (cmI c c2) (cmI am bm) (cmpS l.toList l2.toList)) := rfl
  have HC1 : Hid (∀ w, Calls Try.prog 73 #[.int .i64 c, .int .i64 c2] w fun e w' => e = .returned (.int .i64 (cmI c c2)) ∧ w = w') := fun w => xcmI c c2 w
  have HC2 : Hid (∀ w, Calls Try.prog 73 #[.int .i64 am, .int .i64 bm] w fun e w' => e = .returned (.int .i64 (cmI am bm)) ∧ w = w') := fun w => xcmI am bm w
  have HC3 : Hid (∀ w, Calls Try.prog 74 #[.string l, .string l2] w fun e w' => e = .returned (.int .i64 (cmpS l.toList l2.toList)) ∧ w = w') := fun w => xcmp l l2 w
  generalize cmI c c2 = r1 at *
  generalize cmI am bm = r2 at *
  generalize cmpS l.toList l2.toList = r3 at *
  obtain ⟨R, hR⟩ : ∃ R, R = or3 r1 r2 r3 := ⟨_, rfl⟩
  replace HR : Hid (R = or3 r1 r2 r3) := hR
  rw [← hR]
  clear hR
  obtain ⟨w1, hw1⟩ : ∃ w1, w1 = (w.alloc (.cells #[.string l, .int .i64 q, .string ai, .int .i64 a1, .int .i64 a2, .int .i64 am, .string ac, .int .i64 p, .int .i64 c] 47)).alloc (.cells #[.string l2, .int .i64 q2, .string bi, .int .i64 b1, .int .i64 b2, .int .i64 bm, .string bc, .int .i64 p2, .int .i64 c2] 47) := ⟨_, rfl⟩
  have HW : Hid ((w.alloc (.cells #[.string l, .int .i64 q, .string ai, .int .i64 a1, .int .i64 a2, .int .i64 am, .string ac, .int .i64 p, .int .i64 c] 47)).alloc (.cells #[.string l2, .int .i64 q2, .string bi, .int .i64 b1, .int .i64 b2, .int .i64 bm, .string bc, .int .i64 p2, .int .i64 c2] 47) = w1) := hw1.symm
  have hX : Bx w1 w.heap.size #[.string l, .int .i64 q, .string ai, .int .i64 a1, .int .i64 a2, .int .i64 am, .string ac, .int .i64 p, .int .i64 c] 47 := by rw [hw1]; exact (Bx.new w _ _).kept (grown_alloc _ _ none) (by simp)
  have hY : Bx w1 (w.heap.size + 1) #[.string l2, .int .i64 q2, .string bi, .int .i64 b1, .int .i64 b2, .int .i64 bm, .string bc, .int .i64 p2, .int .i64 c2] 47 := by
    rw [hw1]
    have := Bx.new (w.alloc (.cells #[.string l, .int .i64 q, .string ai, .int .i64 a1, .int .i64 a2, .int .i64 am, .string ac, .int .i64 p, .int .i64 c] 47)) #[.string l2, .int .i64 q2, .string bi, .int .i64 b1, .int .i64 b2, .int .i64 bm, .string bc, .int .i64 p2, .int .i64 c2] 47
    rw [World.size_alloc] at this
    exact this
  have HG1 : Hid (Gd w w1) := by unfold Hid; rw [hw1]; exact (Gd.alloc w _).trans (Gd.alloc _ _)
  have hl1 := hX.lt
  have hl2 := hY.lt
  clear hw1
  go_enter Try.func49, Try.ntmps49
  go_upto_region 1 with fail
  rw [HW.out]
  refine wp_region_held (S := fun W => Below w1.heap.size w1 W) (by kernel_rfl) ?_
  change wpAnyH _ _ _ _ _ 22 #[false, false, false, false, false, false, false, false, false, false, false, false, false, false, false, false, false, false, false, false, false, false] _ w1.drew
  have hS0 : Below w1.heap.size w1 w1.drew := ⟨rfl, rfl, rfl, Nat.le_refl _, fun _ _ => rfl⟩
  have HG2 : Hid (Gd w w1.drew) := HG1.out.trans (Gd.drew _)
  obtain ⟨v0, hv0⟩ : ∃ v, v = w1.drew := ⟨_, rfl⟩
  rw [← hv0] at hS0 HG2 ⊢
  clear hv0
  refine takeR (fuel := 21) (i := 0) (v := .pointer (some ⟨w.heap.size, 8, none⟩)) rfl (by kernel_rfl) (by kernel_rfl) (by kernel_rfl) (fun _ _ _ h => h) (Or.inl ⟨rfl, fun W hW => by go_simp⟩) hS0 ?_
  simp only [Act.put, List.setIfInBounds_toArray, List.set_cons_zero, List.set_cons_succ]
  refine takeR (fuel := 20) (i := 1) (v := .int .i64 c) rfl (by kernel_rfl) (by kernel_rfl) (by kernel_rfl) (fun _ _ _ h => h) (Or.inl ⟨rfl, fun W hW => by have cj : W.cell? ⟨w.heap.size, 8, none⟩ = some (.int .i64 c) := (hW.cell (p := ⟨w.heap.size, 8, none⟩) hl1).trans (hX.cell 8); go_simp⟩) hS0 ?_
  simp only [Act.put, List.setIfInBounds_toArray, List.set_cons_zero, List.set_cons_succ]
  refine takeR (fuel := 19) (i := 2) (v := .pointer (some ⟨w.heap.size + 1, 8, none⟩)) rfl (by kernel_rfl) (by kernel_rfl) (by kernel_rfl) (fun _ _ _ h => h) (Or.inl ⟨rfl, fun W hW => by go_simp⟩) hS0 ?_
  simp only [Act.put, List.setIfInBounds_toArray, List.set_cons_zero, List.set_cons_succ]
  refine takeR (fuel := 18) (i := 3) (v := .int .i64 c2) rfl (by kernel_rfl) (by kernel_rfl) (by kernel_rfl) (fun _ _ _ h => h) (Or.inl ⟨rfl, fun W hW => by have cj : W.cell? ⟨w.heap.size + 1, 8, none⟩ = some (.int .i64 c2) := (hW.cell (p := ⟨w.heap.size + 1, 8, none⟩) hl2).trans (hY.cell 8); go_simp⟩) hS0 ?_
  simp only [Act.put, List.setIfInBounds_toArray, List.set_cons_zero, List.set_cons_succ]
  refine takeR (fuel := 17) (i := 5) (v := .pointer (some ⟨w.heap.size, 2, none⟩)) rfl (by kernel_rfl) (by kernel_rfl) (by kernel_rfl) (fun _ _ _ h => h) (Or.inl ⟨rfl, fun W hW => by go_simp⟩) hS0 ?_
  simp only [Act.put, List.setIfInBounds_toArray, List.set_cons_zero, List.set_cons_succ]
  refine takeR (fuel := 16) (i := 6) (v := .pointer (some ⟨w.heap.size, 5, none⟩)) rfl (by kernel_rfl) (by kernel_rfl) (by kernel_rfl) (fun _ _ _ h => h) (Or.inl ⟨rfl, fun W hW => by go_simp⟩) hS0 ?_
  simp only [Act.put, List.setIfInBounds_toArray, List.set_cons_zero, List.set_cons_succ]
  refine takeR (fuel := 15) (i := 7) (v := .int .i64 am) rfl (by kernel_rfl) (by kernel_rfl) (by kernel_rfl) (fun _ _ _ h => h) (Or.inl ⟨rfl, fun W hW => by have cj : W.cell? ⟨w.heap.size, 5, none⟩ = some (.int .i64 am) := (hW.cell (p := ⟨w.heap.size, 5, none⟩) hl1).trans (hX.cell 5); go_simp⟩) hS0 ?_
  simp only [Act.put, List.setIfInBounds_toArray, List.set_cons_zero, List.set_cons_succ]
  refine takeR (fuel := 14) (i := 8) (v := .pointer (some ⟨w.heap.size + 1, 2, none⟩)) rfl (by kernel_rfl) (by kernel_rfl) (by kernel_rfl) (fun _ _ _ h => h) (Or.inl ⟨rfl, fun W hW => by go_simp⟩) hS0 ?_
  simp only [Act.put, List.setIfInBounds_toArray, List.set_cons_zero, List.set_cons_succ]
  refine takeR (fuel := 13) (i := 9) (v := .pointer (some ⟨w.heap.size + 1, 5, none⟩)) rfl (by kernel_rfl) (by kernel_rfl) (by kernel_rfl) (fun _ _ _ h => h) (Or.inl ⟨rfl, fun W hW => by go_simp⟩) hS0 ?_
  simp only [Act.put, List.setIfInBounds_toArray, List.set_cons_zero, List.set_cons_succ]
  refine takeR (fuel := 12) (i := 10) (v := .int .i64 bm) rfl (by kernel_rfl) (by kernel_rfl) (by kernel_rfl) (fun _ _ _ h => h) (Or.inl ⟨rfl, fun W hW => by have cj : W.cell? ⟨w.heap.size + 1, 5, none⟩ = some (.int .i64 bm) := (hW.cell (p := ⟨w.heap.size + 1, 5, none⟩) hl2).trans (hY.cell 5); go_simp⟩) hS0 ?_
  simp only [Act.put, List.setIfInBounds_toArray, List.set_cons_zero, List.set_cons_succ]
  refine takeR (fuel := 11) (i := 12) (v := .pointer (some ⟨w.heap.size, 0, none⟩)) rfl (by kernel_rfl) (by kernel_rfl) (by kernel_rfl) (fun _ _ _ h => h) (Or.inl ⟨rfl, fun W hW => by go_simp⟩) hS0 ?_
  simp only [Act.put, List.setIfInBounds_toArray, List.set_cons_zero, List.set_cons_succ]
  refine takeR (fuel := 10) (i := 13) (v := .pointer (some ⟨w.heap.size, 0, none⟩)) rfl (by kernel_rfl) (by kernel_rfl) (by kernel_rfl) (fun _ _ _ h => h) (Or.inl ⟨rfl, fun W hW => by go_simp⟩) hS0 ?_
  simp only [Act.put, List.setIfInBounds_toArray, List.set_cons_zero, List.set_cons_succ]
  refine takeR (fuel := 9) (i := 14) (v := .string l) rfl (by kernel_rfl) (by kernel_rfl) (by kernel_rfl) (fun _ _ _ h => h) (Or.inl ⟨rfl, fun W hW => by have cj : W.cell? ⟨w.heap.size, 0, none⟩ = some (.string l) := (hW.cell (p := ⟨w.heap.size, 0, none⟩) hl1).trans (hX.cell 0); go_simp⟩) hS0 ?_
  simp only [Act.put, List.setIfInBounds_toArray, List.set_cons_zero, List.set_cons_succ]
  refine takeR (fuel := 8) (i := 15) (v := .pointer (some ⟨w.heap.size + 1, 0, none⟩)) rfl (by kernel_rfl) (by kernel_rfl) (by kernel_rfl) (fun _ _ _ h => h) (Or.inl ⟨rfl, fun W hW => by go_simp⟩) hS0 ?_
  simp only [Act.put, List.setIfInBounds_toArray, List.set_cons_zero, List.set_cons_succ]
  refine takeR (fuel := 7) (i := 16) (v := .pointer (some ⟨w.heap.size + 1, 0, none⟩)) rfl (by kernel_rfl) (by kernel_rfl) (by kernel_rfl) (fun _ _ _ h => h) (Or.inl ⟨rfl, fun W hW => by go_simp⟩) hS0 ?_
  simp only [Act.put, List.setIfInBounds_toArray, List.set_cons_zero, List.set_cons_succ]
  refine takeR (fuel := 6) (i := 17) (v := .string l2) rfl (by kernel_rfl) (by kernel_rfl) (by kernel_rfl) (fun _ _ _ h => h) (Or.inl ⟨rfl, fun W hW => by have cj : W.cell? ⟨w.heap.size + 1, 0, none⟩ = some (.string l2) := (hW.cell (p := ⟨w.heap.size + 1, 0, none⟩) hl2).trans (hY.cell 0); go_simp⟩) hS0 ?_
  simp only [Act.put, List.setIfInBounds_toArray, List.set_cons_zero, List.set_cons_succ]
  refine consR (fuel := 5) (i := 4) rfl (by kernel_rfl) (fun K hK => ?_)
  rw [if_pos (by rfl)]
  go_simp
  refine (HC1.out _).mono ?_
  rintro e v1 ⟨rfl, rfl⟩
  refine hK.out _ _ hS0 (fun _ => ?_)
  clear hK
  try simp only [Act.put, List.setIfInBounds_toArray, List.set_cons_zero, List.set_cons_succ]
  refine consR (fuel := 4) (i := 11) rfl (by kernel_rfl) (fun K hK => ?_)
  rw [if_pos (by rfl)]
  go_simp
  refine (HC2.out _).mono ?_
  rintro e v1 ⟨rfl, rfl⟩
  refine hK.out _ _ hS0 (fun _ => ?_)
  clear hK
  try simp only [Act.put, List.setIfInBounds_toArray, List.set_cons_zero, List.set_cons_succ]
  refine consR (fuel := 3) (i := 18) rfl (by kernel_rfl) (fun K hK => ?_)
  rw [if_pos (by rfl)]
  go_simp
  refine (HC3.out _).mono ?_
  rintro e v1 ⟨rfl, rfl⟩
  refine hK.out _ _ hS0 (fun _ => ?_)
  clear hK
  try simp only [Act.put, List.setIfInBounds_toArray, List.set_cons_zero, List.set_cons_succ]
  have hZ := Bx.new v0 #[.int .i64 r1, .int .i64 r2, .int .i64 r3] 3
  have HG3 : Hid (Gd w (v0.alloc (.cells #[.int .i64 r1, .int .i64 r2, .int .i64 r3] 3))) := HG2.out.trans (Gd.alloc _ _)
  have hS1 : Below w1.heap.size w1 (v0.alloc (.cells #[.int .i64 r1, .int .i64 r2, .int .i64 r3] 3)) := hS0.alloc hS0.size _
  have HC4 : Hid (Calls Try.prog 72 #[.slice (some ⟨v0.heap.size, 0, none⟩) 3 3] (v0.alloc (.cells #[.int .i64 r1, .int .i64 r2, .int .i64 r3] 3)) fun e w' => e = .returned (.int .i64 R) ∧ (v0.alloc (.cells #[.int .i64 r1, .int .i64 r2, .int .i64 r3] 3)) = w') := by rw [HR.out]; exact xor3 _ _ _ _ _ hZ
  refine consR (fuel := 2) (i := 19) rfl (by kernel_rfl) (fun K hK => ?_)
  rw [if_pos (by rfl)]
  go_simp
  refine hK.out _ _ hS1 (fun _ => ?_)
  clear hK
  try simp only [Act.put, List.setIfInBounds_toArray, List.set_cons_zero, List.set_cons_succ]
  refine consR (fuel := 1) (i := 20) rfl (by kernel_rfl) (fun K hK => ?_)
  rw [if_pos (by rfl)]
  go_simp
  refine HC4.out.mono ?_
  rintro e v5 ⟨rfl, rfl⟩
  refine hK.out _ _ hS1 (fun _ => ?_)
  clear hK
  try simp only [Act.put, List.setIfInBounds_toArray, List.set_cons_zero, List.set_cons_succ]
  refine takeR (fuel := 0) (i := 21) (v := .int .i64 R) rfl (by kernel_rfl) (by kernel_rfl) (by kernel_rfl) (fun _ _ _ h => h) (Or.inl ⟨rfl, fun W hW => by go_simp⟩) hS1 ?_
  simp only [Act.put, List.setIfInBounds_toArray, List.set_cons_zero, List.set_cons_succ]
  refine wpAnyH_done (by kernel_rfl) ?_ _
  clear hS0 hS1 hX hY hZ HC4
  go_wp2_with fail
  go_ret
  exact ⟨rfl, HG3.out⟩
end Go.Proofs.Ytheikjjehidagaa
