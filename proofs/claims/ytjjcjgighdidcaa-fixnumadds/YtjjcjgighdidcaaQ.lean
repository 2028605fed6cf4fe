/- FixnumAdds: for every input the law returns true. No condition. Here: the walk of the law itself, out of the walks of what it calls. -/
import Derived.Test.YtjjcjgighdidcaaZ
import Derived.WalkKit
import Derived.ProofKit
import Derived.Handy
import Derived.WalkLawsBesides
import Derived.WalkSpells
import Derived.BigQuiet
import Derived.Deep.QuietTactic
import Derived.Deep.Light
import Derived.Deep.OwnRows
import Derived.Laws.AppendOwnNone
import Derived.Deep.RegionWith
import Derived.Lib.BitFns
import Derived.Lib.Walk
import Derived.Deep.CutBlock
import Derived.Deep.DeepCutAuto
import Derived.Deep.LoopGhost
import Derived.Deep.RegionHeld
namespace Go.Proofs.Ytjjcjgighdidcaa
open Go.RowKit
set_option linter.unusedVariables false
set_option linter.unusedSimpArgs false
theorem takeH {P : Program} {l : List Oper} {Q : Exit → Act → World → Prop} {md : Region.Mode} {S : World → Prop} {i : Nat} {oi : Oper} {v : Value} {fuel : Nat} {listed : Array Bool} {a : Act} {w : World} (hi : l[i]? = some oi)
    (hs : Region.noSelect l.toArray = true) (hf : Region.free md l.toArray listed i = true) (hr : (Region.ready md l.toArray listed).contains i = true)
    (hQ : ∀ c a w, Q (.panic c) (a.put oi.dst v) w → Q (.panic c) a w) (hy : YieldsIf P l.toArray S oi v a) (hS : S w)
    (h : wpAnyH P md l.toArray Q S fuel (listed.setIfInBounds i true) (a.put oi.dst v) w) : wpAnyH P md l.toArray Q S (fuel + 1) listed a w :=
  wpAnyH_take (by rw [List.getElem?_toArray]; exact hi) hs hf hr hQ hy hS h

theorem consH {P : Program} {l : List Oper} {Q : Exit → Act → World → Prop} {md : Region.Mode} {S : World → Prop} {fuel : Nat} {listed : Array Bool} {a : Act} {w : World} {i : Nat} {o : Oper} (hi : l[i]? = some o) (hr : Region.ready md l.toArray listed = [i])
    (h : ∀ K' : Act → World → Prop, Shut (∀ a w, S w → (S w → wpAnyH P md l.toArray Q S fuel (listed.setIfInBounds i true) a w) → K' a w) → if Region.wanted o (yielded l.toArray a.tmps) = true then Oper.wp P o a w K' Q else K' (a.put o.dst undef) w) :
    wpAnyH P md l.toArray Q S (fuel + 1) listed a w :=
  wpAnyH_ready hr (by simp) (AllReadyH.cons (by rw [List.getElem?_toArray]; exact hi) h AllReadyH.nil)

theorem cell_alloc {w : World} {p : Addr} {v : Value} (h : w.cell? p = some v) (o : Obj) : (w.alloc o).cell? p = some v := cell_kept ((Below.refl _ _).alloc (Nat.le_refl _) o) h

theorem wd_none (a b : Int) (ha : 0 ≤ a ∧ a < 18446744073709551616) (hb : 0 ≤ b ∧ b < 18446744073709551616) (h : wd a b = 0) : a = 0 ∧ b = 0 := by
  unfold wd at h
  omega

set_option maxHeartbeats 4000000 in
theorem adds_walk (a b c d : Int) (w : World) (ha : 0 ≤ a ∧ a < 18446744073709551616) (hb : 0 ≤ b ∧ b < 18446744073709551616) (hc : 0 ≤ c ∧ c < 18446744073709551616) (hd : 0 ≤ d ∧ d < 18446744073709551616) :
    Calls Try.prog 4 #[.int .u64 a, .int .u64 b, .int .u64 c, .int .u64 d] w (TruePost w) := by
  go_enter Try.func4, Try.ntmps4
  go_wp2_with fail
  refine (rtwo a b _ ha hb).mono ?_
  rintro e w1 ⟨vp, dp, rfl, hop, hnp, hb1⟩
  have Hop : Hid _ := hop
  have Hb1 : Hid _ := hb1
  clear hop hb1
  go_wp2_with fail
  refine (rtwo c d _ hc hd).mono ?_
  rintro e w2 ⟨vq, dq, rfl, hoq, hnq, hb2⟩
  have Hoq : Hid _ := hoq
  have hb02 := Below.trans Hb1.out (hb2.mono Hb1.out.size)
  have c0 : w2.cell? ⟨w.heap.size, 0, none⟩ = some (.int .u64 a) := (hb02.cell (by simp; omega)).trans (World.cell?_alloc2_first ..)
  have c1 : w2.cell? ⟨w.heap.size, 1, none⟩ = some (.int .u64 b) := (hb02.cell (by simp; omega)).trans (World.cell?_alloc2_first ..)
  have c2 : w2.cell? ⟨w.heap.size + 1, 0, none⟩ = some (.int .u64 c) := (hb02.cell (by simp)).trans (World.cell?_alloc2_new ..)
  have c3 : w2.cell? ⟨w.heap.size + 1, 1, none⟩ = some (.int .u64 d) := (hb02.cell (by simp)).trans (World.cell?_alloc2_new ..)
  have Hb2 : Hid _ := hb2
  have Hb02 : Hid _ := hb02
  clear hoq hb2 hb02
  go_wp2_with fail
  refine (xadd a b c d ha hb hc hd _).mono ?_
  rintro e w3 ⟨sh, sl, rfl, bsh, bsl, hsum, hb3⟩
  replace c0 := cell_kept hb3 c0
  replace c1 := cell_kept hb3 c1
  replace c2 := cell_kept hb3 c2
  replace c3 := cell_kept hb3 c3
  have n0 := World.block_lt_of_cell? _ _ c0
  have n2 := World.block_lt_of_cell? _ _ c2
  have Hb3 : Hid _ := hb3
  clear hb3
  generalize hok : decide (wd a b + wd c d < wd 18446744073709551616 0) = ok
  have Hok : Hid _ := hok
  clear hok
  go_wp2_with fail
  refine (xsub a b c d ha hb hc hd _).mono ?_
  rintro e w4 ⟨th, tl, rfl, bth, btl, hdif, hb4⟩
  have s0 := cell_kept hb4 (World.cell?_alloc_new w3 #[.int .u64 sh, .int .u64 sl] 25 0)
  have s1 := cell_kept hb4 (World.cell?_alloc_new w3 #[.int .u64 sh, .int .u64 sl] 25 1)
  replace c0 := cell_kept hb4 (cell_alloc c0 _)
  replace c1 := cell_kept hb4 (cell_alloc c1 _)
  replace c2 := cell_kept hb4 (cell_alloc c2 _)
  replace c3 := cell_kept hb4 (cell_alloc c3 _)
  have Hb4 : Hid _ := hb4
  replace n0 := World.block_lt_of_cell? _ _ c0
  replace n2 := World.block_lt_of_cell? _ _ c2
  have n4 := World.block_lt_of_cell? _ _ s0
  clear hb4
  generalize hmo : decide (wd c d ≤ wd a b) = mo
  have Hmo : Hid _ := hmo
  clear hmo
  go_wp2_with fail
  have hDp : Dig w4 vp dp := Dig.below (Dig.below (Dig.below (Own.dig Hop.out) Hb2.out) Hb3.out) (((Below.refl _ _).alloc (Nat.le_refl _) _).trans (Hb4.out.mono (by simp)))
  have hDq : Dig w4 vq dq := Dig.below (Dig.below (Own.dig Hoq.out) Hb3.out) (((Below.refl _ _).alloc (Nat.le_refl _) _).trans (Hb4.out.mono (by simp)))
  have hW4 : Below w.heap.size w w4 := by
    have h1 := (((Below.refl w.heap.size w).alloc (Nat.le_refl _) (Obj.cells #[Value.int IntKind.u64 a, Value.int IntKind.u64 b] 25)).alloc (by simp) (Obj.cells #[Value.int IntKind.u64 c, Value.int IntKind.u64 d] 25)).trans (Hb02.out.mono (by simp; omega))
    have h2 := h1.trans (Hb3.out.mono h1.size)
    have h3 := h2.alloc h2.size (Obj.cells #[Value.int IntKind.u64 sh, Value.int IntKind.u64 sl] 25)
    exact h3.trans (Hb4.out.mono h3.size)
  have HDp : Hid (Dig w4 vp dp) := hDp
  have HDq : Hid (Dig w4 vq dq) := hDq
  have HW4 : Hid (Below w.heap.size w w4) := hW4
  clear hDp hDq hW4 Hb1 Hb2 Hb3 Hb4 Hb02 Hop Hoq
  have t0 := World.cell?_alloc_new w4 #[.int .u64 th, .int .u64 tl] 25 0
  have t1 := World.cell?_alloc_new w4 #[.int .u64 th, .int .u64 tl] 25 1
  replace s0 := cell_alloc s0 (Obj.cells #[.int .u64 th, .int .u64 tl] 25)
  replace s1 := cell_alloc s1 (Obj.cells #[.int .u64 th, .int .u64 tl] 25)
  replace c0 := cell_alloc c0 (Obj.cells #[.int .u64 th, .int .u64 tl] 25)
  replace c1 := cell_alloc c1 (Obj.cells #[.int .u64 th, .int .u64 tl] 25)
  replace c2 := cell_alloc c2 (Obj.cells #[.int .u64 th, .int .u64 tl] 25)
  replace c3 := cell_alloc c3 (Obj.cells #[.int .u64 th, .int .u64 tl] 25)
  have hB5 : Below w4.heap.size w4 (w4.alloc (Obj.cells #[.int .u64 th, .int .u64 tl] 25)) := (Below.refl _ _).alloc (Nat.le_refl _) _
  refine (radd dp dq vp vq _ hnp.out.1.1 hnq.out.1.1 (by have := hnp.out.2.2; omega) (by have := hnq.out.2.2; omega) (Dig.below HDp.out hB5) (Dig.below HDq.out hB5)).mono ?_
  rintro e w5 ⟨vs, ds, rfl, hos, hns, hb5⟩
  replace s0 := cell_kept hb5 s0
  replace s1 := cell_kept hb5 s1
  replace t0 := cell_kept hb5 t0
  replace t1 := cell_kept hb5 t1
  replace c0 := cell_kept hb5 c0
  replace c1 := cell_kept hb5 c1
  replace c2 := cell_kept hb5 c2
  replace c3 := cell_kept hb5 c3
  replace HDp : Hid (Dig w5 vp dp) := Dig.below (Dig.below HDp.out hB5) hb5
  replace HDq : Hid (Dig w5 vq dq) := Dig.below (Dig.below HDq.out hB5) hb5
  have hW5 : Below w.heap.size w w5 := by
    have h3 := HW4.out.alloc HW4.out.size (Obj.cells #[.int .u64 th, .int .u64 tl] 25)
    exact h3.trans (hb5.mono h3.size)
  have HW5 : Hid (Below w.heap.size w w5) := hW5
  have Hos : Hid _ := hos
  clear hW5 hb5 HW4 hB5 hos
  go_wp2_with fail
  refine (rhalves ds vs _ hns.out.1.1 (by have := hns.out.2.2; have := hnp.out.2.2; have := hnq.out.2.2; omega) (Own.dig Hos.out)).mono ?_
  rintro e w6 ⟨hh, hl, rfl, bhh, bhl, hh1, hh2, rfl⟩
  rw [show decide (ds.length ≤ 8) = ok from by rw [← Hok.out, len8 ds hns.out.1, hns.out.2.1, hnp.out.2.1, hnq.out.2.1]]
  go_wp2_with fail
  refine (xless a b c d ha hb hc hd _).mono ?_
  rintro e w7 ⟨rfl, rfl⟩
  generalize hls : decide (wd a b < wd c d) = ls
  have Hls : Hid _ := hls
  clear hls
  obtain ⟨w7, hw7⟩ : ∃ w7, w7 = (w5.alloc (Obj.cells #[Value.int IntKind.u64 a, Value.int IntKind.u64 b] 25)).alloc (Obj.cells #[Value.int IntKind.u64 c, Value.int IntKind.u64 d] 25) := ⟨_, rfl⟩
  have hb7 : Below w5.heap.size w5 w7 := by rw [hw7]; exact ((Below.refl _ _).alloc (Nat.le_refl _) _).alloc (by simp) _
  rw [← hw7]
  replace s0 := cell_kept hb7 s0
  replace s1 := cell_kept hb7 s1
  replace t0 := cell_kept hb7 t0
  replace t1 := cell_kept hb7 t1
  replace HDp : Hid (Dig w7 vp dp) := Dig.below HDp.out hb7
  replace HDq : Hid (Dig w7 vq dq) := Dig.below HDq.out hb7
  have HW7 : Hid (Below w.heap.size w w7) := HW5.out.trans (hb7.mono HW5.out.size)
  clear hw7 hb7 HW5 Hos hh1 hh2 c0 c1 c2 c3 n0 n2 n4 hns
  go_wp2_with fail
  refine (rcompare dp dq vp vq _ hnp.out.1 hnq.out.1 (by have := hnp.out.2.2; omega) (by have := hnq.out.2.2; omega) HDp.out HDq.out).mono ?_
  rintro e w8 ⟨cc, rfl, bcc, hcc, k8, rfl⟩
  obtain rfl : ls = decide (cc < 0) := by
    rw [← Hls.out, decide_eq_decide, ← hnp.out.2.1, ← hnq.out.2.1]
    exact hcc.out.1.symm
  go_wp2_with fail
  refine (rcompare dp dq vp vq (w7.drewN k8) hnp.out.1 hnq.out.1 (by have := hnp.out.2.2; omega) (by have := hnq.out.2.2; omega) (Dig.below HDp.out (below_drewN (Below.refl _ _))) (Dig.below HDq.out (below_drewN (Below.refl _ _)))).mono ?_
  rintro e w9 ⟨cd, rfl, bcd, hcd, k9, rfl⟩
  have hmo : mo = decide (0 ≤ cd) := by
    rw [← Hmo.out, decide_eq_decide, ← hnp.out.2.1, ← hnq.out.2.1]
    have := hcd.out.1
    omega
  have hle : mo = true → val dq ≤ val dp := fun h => by
    rw [h] at hmo
    have h1 := of_decide_eq_true hmo.symm
    have := hcd.out.1
    omega
  have hsv : ok = false → sh = 0 ∧ sl = 0 := fun h => by
    have h1 := hsum.out
    rw [if_neg (of_decide_eq_false (Hok.out.trans h))] at h1
    exact wd_none sh sl bsh bsl h1
  have htv : mo = false → th = 0 ∧ tl = 0 := fun h => by
    have h1 := hdif.out
    rw [if_neg (of_decide_eq_false (Hmo.out.trans h))] at h1
    exact wd_none th tl bth btl h1
  have hsy : ok = true → wd sh sl = val dp + val dq := fun h => by
    have h1 := hsum.out
    rw [if_pos (of_decide_eq_true (Hok.out.trans h))] at h1
    rw [h1, hnp.out.2.1, hnq.out.2.1]
  have hty : mo = true → wd th tl = val dp - val dq := fun h => by
    have h1 := hdif.out
    rw [if_pos (of_decide_eq_true (Hmo.out.trans h))] at h1
    rw [h1, hnp.out.2.1, hnq.out.2.1]
  have Hle : Hid _ := hle
  have Hsy : Hid _ := hsy
  have Hty : Hid _ := hty
  clear hle hsy hty hsum hdif Hok Hmo hcd hcc Hls
  cases ok
  · obtain ⟨rfl, rfl⟩ := hsv rfl
    cases mo
    · obtain ⟨rfl, rfl⟩ := htv rfl
      have hneg : cd < 0 := by have := of_decide_eq_false hmo.symm; omega
      clear hmo hsv htv
      go_wp2_with fail
      refine wp_region_held (S := fun w' => Below w7.heap.size w7 w') (by kernel_rfl) ?_
      change wpAnyH _ _ _ _ _ 24 #[false, false, false, false, false, false, false, false, false, false, false, false, false, false, false, false, false, false, false, false, false, false, false, false] _ _
      have hS : Below w7.heap.size w7 ((w7.drewN (k8 + k9)).drew) := ⟨rfl, rfl, rfl, Nat.le_refl _, fun _ _ => rfl⟩
      refine takeH (fuel := 23) (i := 0) (v := .bool false) rfl (by kernel_rfl) (by kernel_rfl) (by kernel_rfl) (fun _ _ _ h => h) (Or.inl ⟨rfl, fun _ _ => rfl⟩) hS ?_
      simp only [Act.put, List.setIfInBounds_toArray, List.set_cons_zero, List.set_cons_succ]
      refine takeH (fuel := 22) (i := 1) (v := .bool true) rfl (by kernel_rfl) (by kernel_rfl) (by kernel_rfl) (fun _ _ _ h => h) (Or.inl ⟨rfl, fun _ _ => rfl⟩) hS ?_
      simp only [Act.put, List.setIfInBounds_toArray, List.set_cons_zero, List.set_cons_succ]
      refine takeH (fuel := 21) (i := 2) (v := .bool true) rfl (by kernel_rfl) (by kernel_rfl) (by kernel_rfl) (fun _ _ _ h => h) (Or.inl ⟨rfl, fun _ _ => rfl⟩) hS ?_
      simp only [Act.put, List.setIfInBounds_toArray, List.set_cons_zero, List.set_cons_succ]
      refine takeH (fuel := 20) (i := 3) (v := undef) rfl (by kernel_rfl) (by kernel_rfl) (by kernel_rfl) (fun _ _ _ h => h) (Or.inr ⟨rfl, rfl⟩) hS ?_
      simp only [Act.put, List.setIfInBounds_toArray, List.set_cons_zero, List.set_cons_succ]
      refine takeH (fuel := 19) (i := 4) (v := undef) rfl (by kernel_rfl) (by kernel_rfl) (by kernel_rfl) (fun _ _ _ h => h) (Or.inr ⟨rfl, rfl⟩) hS ?_
      simp only [Act.put, List.setIfInBounds_toArray, List.set_cons_zero, List.set_cons_succ]
      refine takeH (fuel := 18) (i := 5) (v := undef) rfl (by kernel_rfl) (by kernel_rfl) (by kernel_rfl) (fun _ _ _ h => h) (Or.inr ⟨rfl, rfl⟩) hS ?_
      simp only [Act.put, List.setIfInBounds_toArray, List.set_cons_zero, List.set_cons_succ]
      refine takeH (fuel := 17) (i := 6) (v := undef) rfl (by kernel_rfl) (by kernel_rfl) (by kernel_rfl) (fun _ _ _ h => h) (Or.inr ⟨rfl, rfl⟩) hS ?_
      simp only [Act.put, List.setIfInBounds_toArray, List.set_cons_zero, List.set_cons_succ]
      refine takeH (fuel := 16) (i := 7) (v := undef) rfl (by kernel_rfl) (by kernel_rfl) (by kernel_rfl) (fun _ _ _ h => h) (Or.inr ⟨rfl, rfl⟩) hS ?_
      simp only [Act.put, List.setIfInBounds_toArray, List.set_cons_zero, List.set_cons_succ]
      refine takeH (fuel := 15) (i := 8) (v := .bool true) rfl (by kernel_rfl) (by kernel_rfl) (by kernel_rfl) (fun _ _ _ h => h) (Or.inl ⟨rfl, fun _ _ => rfl⟩) hS ?_
      simp only [Act.put, List.setIfInBounds_toArray, List.set_cons_zero, List.set_cons_succ]
      refine takeH (fuel := 14) (i := 9) (v := .bool true) rfl (by kernel_rfl) (by kernel_rfl) (by kernel_rfl) (fun _ _ _ h => h) (Or.inl ⟨rfl, fun _ _ => rfl⟩) hS ?_
      simp only [Act.put, List.setIfInBounds_toArray, List.set_cons_zero, List.set_cons_succ]
      refine takeH (fuel := 13) (i := 10) (v := .bool false) rfl (by kernel_rfl) (by kernel_rfl) (by kernel_rfl) (fun _ _ _ h => h) (Or.inl ⟨rfl, fun _ _ => rfl⟩) hS ?_
      simp only [Act.put, List.setIfInBounds_toArray, List.set_cons_zero, List.set_cons_succ]
      refine takeH (fuel := 12) (i := 11) (v := .bool true) rfl (by kernel_rfl) (by kernel_rfl) (by kernel_rfl) (fun _ _ _ h => h) (Or.inl ⟨rfl, fun _ _ => rfl⟩) hS ?_
      simp only [Act.put, List.setIfInBounds_toArray, List.set_cons_zero, List.set_cons_succ]
      refine takeH (fuel := 11) (i := 12) (v := .bool true) rfl (by kernel_rfl) (by kernel_rfl) (by kernel_rfl) (fun _ _ _ h => h) (Or.inl ⟨rfl, fun _ _ => rfl⟩) hS ?_
      simp only [Act.put, List.setIfInBounds_toArray, List.set_cons_zero, List.set_cons_succ]
      refine takeH (fuel := 10) (i := 13) (v := undef) rfl (by kernel_rfl) (by kernel_rfl) (by kernel_rfl) (fun _ _ _ h => h) (Or.inr ⟨rfl, rfl⟩) hS ?_
      simp only [Act.put, List.setIfInBounds_toArray, List.set_cons_zero, List.set_cons_succ]
      refine takeH (fuel := 9) (i := 14) (v := undef) rfl (by kernel_rfl) (by kernel_rfl) (by kernel_rfl) (fun _ _ _ h => h) (Or.inr ⟨rfl, rfl⟩) hS ?_
      simp only [Act.put, List.setIfInBounds_toArray, List.set_cons_zero, List.set_cons_succ]
      refine takeH (fuel := 8) (i := 15) (v := undef) rfl (by kernel_rfl) (by kernel_rfl) (by kernel_rfl) (fun _ _ _ h => h) (Or.inr ⟨rfl, rfl⟩) hS ?_
      simp only [Act.put, List.setIfInBounds_toArray, List.set_cons_zero, List.set_cons_succ]
      refine takeH (fuel := 7) (i := 16) (v := undef) rfl (by kernel_rfl) (by kernel_rfl) (by kernel_rfl) (fun _ _ _ h => h) (Or.inr ⟨rfl, rfl⟩) hS ?_
      simp only [Act.put, List.setIfInBounds_toArray, List.set_cons_zero, List.set_cons_succ]
      refine takeH (fuel := 6) (i := 17) (v := undef) rfl (by kernel_rfl) (by kernel_rfl) (by kernel_rfl) (fun _ _ _ h => h) (Or.inr ⟨rfl, rfl⟩) hS ?_
      simp only [Act.put, List.setIfInBounds_toArray, List.set_cons_zero, List.set_cons_succ]
      refine takeH (fuel := 5) (i := 18) (v := .bool true) rfl (by kernel_rfl) (by kernel_rfl) (by kernel_rfl) (fun _ _ _ h => h) (Or.inl ⟨rfl, fun _ _ => rfl⟩) hS ?_
      simp only [Act.put, List.setIfInBounds_toArray, List.set_cons_zero, List.set_cons_succ]
      refine takeH (fuel := 4) (i := 19) (v := .bool true) rfl (by kernel_rfl) (by kernel_rfl) (by kernel_rfl) (fun _ _ _ h => h) (Or.inl ⟨rfl, fun _ _ => rfl⟩) hS ?_
      simp only [Act.put, List.setIfInBounds_toArray, List.set_cons_zero, List.set_cons_succ]
      refine takeH (fuel := 3) (i := 20) (v := .bool true) rfl (by kernel_rfl) (by kernel_rfl) (by kernel_rfl) (fun _ _ _ h => h) (Or.inl ⟨rfl, fun _ _ => rfl⟩) hS ?_
      simp only [Act.put, List.setIfInBounds_toArray, List.set_cons_zero, List.set_cons_succ]
      refine consH (fuel := 2) (i := 21) rfl (by kernel_rfl) (fun K hK => ?_)
      rw [if_pos (by rfl)]
      go_simp
      refine (awake_true _).mono ?_
      rintro e we ⟨rfl, hbe⟩
      refine hK.out _ _ (hS.trans (hbe.mono hS.size)) (fun hSe => ?_)
      clear hK
      try simp only [Act.put, List.setIfInBounds_toArray, List.set_cons_zero, List.set_cons_succ]
      refine takeH (fuel := 1) (i := 22) (v := .bool true) rfl (by kernel_rfl) (by kernel_rfl) (by kernel_rfl) (fun _ _ _ h => h) (Or.inl ⟨rfl, fun _ _ => rfl⟩) hSe ?_
      simp only [Act.put, List.setIfInBounds_toArray, List.set_cons_zero, List.set_cons_succ]
      refine takeH (fuel := 0) (i := 23) (v := .bool true) rfl (by kernel_rfl) (by kernel_rfl) (by kernel_rfl) (fun _ _ _ h => h) (Or.inl ⟨rfl, fun _ _ => rfl⟩) hSe ?_
      simp only [Act.put, List.setIfInBounds_toArray, List.set_cons_zero, List.set_cons_succ]
      refine wpAnyH_done (by kernel_rfl) ?_ _
      go_wp2
      go_ret
      exact ⟨rfl, HW7.out.trans (hSe.mono HW7.out.size)⟩
    · have hpos : 0 ≤ cd := of_decide_eq_true hmo.symm
      clear hmo hsv htv
      go_wp2_with fail
      refine wp_region_held (S := fun w' => Below w7.heap.size w7 w') (by kernel_rfl) ?_
      change wpAnyH _ _ _ _ _ 24 #[false, false, false, false, false, false, false, false, false, false, false, false, false, false, false, false, false, false, false, false, false, false, false, false] _ _
      have hS : Below w7.heap.size w7 ((w7.drewN (k8 + k9)).drew) := ⟨rfl, rfl, rfl, Nat.le_refl _, fun _ _ => rfl⟩
      refine takeH (fuel := 23) (i := 0) (v := .bool false) rfl (by kernel_rfl) (by kernel_rfl) (by kernel_rfl) (fun _ _ _ h => h) (Or.inl ⟨rfl, fun _ _ => rfl⟩) hS ?_
      simp only [Act.put, List.setIfInBounds_toArray, List.set_cons_zero, List.set_cons_succ]
      refine takeH (fuel := 22) (i := 1) (v := .bool true) rfl (by kernel_rfl) (by kernel_rfl) (by kernel_rfl) (fun _ _ _ h => h) (Or.inl ⟨rfl, fun _ _ => rfl⟩) hS ?_
      simp only [Act.put, List.setIfInBounds_toArray, List.set_cons_zero, List.set_cons_succ]
      refine takeH (fuel := 21) (i := 2) (v := .bool true) rfl (by kernel_rfl) (by kernel_rfl) (by kernel_rfl) (fun _ _ _ h => h) (Or.inl ⟨rfl, fun _ _ => rfl⟩) hS ?_
      simp only [Act.put, List.setIfInBounds_toArray, List.set_cons_zero, List.set_cons_succ]
      refine takeH (fuel := 20) (i := 3) (v := undef) rfl (by kernel_rfl) (by kernel_rfl) (by kernel_rfl) (fun _ _ _ h => h) (Or.inr ⟨rfl, rfl⟩) hS ?_
      simp only [Act.put, List.setIfInBounds_toArray, List.set_cons_zero, List.set_cons_succ]
      refine takeH (fuel := 19) (i := 4) (v := undef) rfl (by kernel_rfl) (by kernel_rfl) (by kernel_rfl) (fun _ _ _ h => h) (Or.inr ⟨rfl, rfl⟩) hS ?_
      simp only [Act.put, List.setIfInBounds_toArray, List.set_cons_zero, List.set_cons_succ]
      refine takeH (fuel := 18) (i := 5) (v := undef) rfl (by kernel_rfl) (by kernel_rfl) (by kernel_rfl) (fun _ _ _ h => h) (Or.inr ⟨rfl, rfl⟩) hS ?_
      simp only [Act.put, List.setIfInBounds_toArray, List.set_cons_zero, List.set_cons_succ]
      refine takeH (fuel := 17) (i := 6) (v := undef) rfl (by kernel_rfl) (by kernel_rfl) (by kernel_rfl) (fun _ _ _ h => h) (Or.inr ⟨rfl, rfl⟩) hS ?_
      simp only [Act.put, List.setIfInBounds_toArray, List.set_cons_zero, List.set_cons_succ]
      refine takeH (fuel := 16) (i := 7) (v := undef) rfl (by kernel_rfl) (by kernel_rfl) (by kernel_rfl) (fun _ _ _ h => h) (Or.inr ⟨rfl, rfl⟩) hS ?_
      simp only [Act.put, List.setIfInBounds_toArray, List.set_cons_zero, List.set_cons_succ]
      refine takeH (fuel := 15) (i := 8) (v := .bool true) rfl (by kernel_rfl) (by kernel_rfl) (by kernel_rfl) (fun _ _ _ h => h) (Or.inl ⟨rfl, fun _ _ => rfl⟩) hS ?_
      simp only [Act.put, List.setIfInBounds_toArray, List.set_cons_zero, List.set_cons_succ]
      refine takeH (fuel := 14) (i := 9) (v := .bool true) rfl (by kernel_rfl) (by kernel_rfl) (by kernel_rfl) (fun _ _ _ h => h) (Or.inl ⟨rfl, fun _ _ => rfl⟩) hS ?_
      simp only [Act.put, List.setIfInBounds_toArray, List.set_cons_zero, List.set_cons_succ]
      refine takeH (fuel := 13) (i := 10) (v := .bool true) rfl (by kernel_rfl) (by kernel_rfl) (by kernel_rfl) (fun _ _ _ h => h) (Or.inl ⟨rfl, fun _ _ => rfl⟩) hS ?_
      simp only [Act.put, List.setIfInBounds_toArray, List.set_cons_zero, List.set_cons_succ]
      refine takeH (fuel := 12) (i := 11) (v := .bool false) rfl (by kernel_rfl) (by kernel_rfl) (by kernel_rfl) (fun _ _ _ h => h) (Or.inl ⟨rfl, fun _ _ => rfl⟩) hS ?_
      simp only [Act.put, List.setIfInBounds_toArray, List.set_cons_zero, List.set_cons_succ]
      refine takeH (fuel := 11) (i := 12) (v := .bool false) rfl (by kernel_rfl) (by kernel_rfl) (by kernel_rfl) (fun _ _ _ h => h) (Or.inl ⟨rfl, fun _ _ => rfl⟩) hS ?_
      simp only [Act.put, List.setIfInBounds_toArray, List.set_cons_zero, List.set_cons_succ]
      refine takeH (fuel := 10) (i := 13) (v := .agg #[.int .u64 th, .int .u64 tl]) rfl (by kernel_rfl) (by kernel_rfl) (by kernel_rfl) (fun _ _ _ h => h) (Or.inl ⟨rfl, fun wx hx => ?_⟩) hS ?_
      · have d0 := cell_kept hx t0
        have d1 := cell_kept hx t1
        go_simp
      simp only [Act.put, List.setIfInBounds_toArray, List.set_cons_zero, List.set_cons_succ]
      refine takeH (fuel := 9) (i := 14) (v := vp) rfl (by kernel_rfl) (by kernel_rfl) (by kernel_rfl) (fun _ _ _ h => h) (Or.inl ⟨rfl, fun _ _ => rfl⟩) hS ?_
      simp only [Act.put, List.setIfInBounds_toArray, List.set_cons_zero, List.set_cons_succ]
      refine takeH (fuel := 8) (i := 15) (v := vq) rfl (by kernel_rfl) (by kernel_rfl) (by kernel_rfl) (fun _ _ _ h => h) (Or.inl ⟨rfl, fun _ _ => rfl⟩) hS ?_
      simp only [Act.put, List.setIfInBounds_toArray, List.set_cons_zero, List.set_cons_succ]
      refine consH (fuel := 7) (i := 16) rfl (by kernel_rfl) (fun K hK => ?_)
      rw [if_pos (by rfl)]
      go_simp
      refine (rsub dp dq vp vq _ hnp.out.1 hnq.out.1 (by have := hnp.out.2.2; omega) (Hle.out (by trivial)) (Dig.below HDp.out hS) (Dig.below HDq.out hS)).mono ?_
      rintro e wc ⟨vc, dsc, rfl, hoc, hnc, hbc⟩
      refine hK.out _ _ (hS.trans (hbc.mono hS.size)) (fun hSc => ?_)
      clear hK
      try simp only [Act.put, List.setIfInBounds_toArray, List.set_cons_zero, List.set_cons_succ]
      refine consH (fuel := 6) (i := 17) rfl (by kernel_rfl) (fun K hK => ?_)
      rw [if_pos (by rfl)]
      go_simp
      refine (lis th tl vc dsc _ bth btl hnc.out.1 (by have := hnc.out.2.2; have := hnp.out.2.2; omega) (Own.dig hoc)).mono ?_
      rintro e wd2 ⟨rfl, hbd⟩
      rw [decide_eq_true (by rw [hnc.out.2.1]; exact Hty.out (by trivial))]
      refine hK.out _ _ (hSc.trans (hbd.mono hSc.size)) (fun hSd => ?_)
      clear hK
      try simp only [Act.put, List.setIfInBounds_toArray, List.set_cons_zero, List.set_cons_succ]
      refine takeH (fuel := 5) (i := 18) (v := .bool true) rfl (by kernel_rfl) (by kernel_rfl) (by kernel_rfl) (fun _ _ _ h => h) (Or.inl ⟨rfl, fun _ _ => rfl⟩) hSd ?_
      simp only [Act.put, List.setIfInBounds_toArray, List.set_cons_zero, List.set_cons_succ]
      refine takeH (fuel := 4) (i := 19) (v := .bool true) rfl (by kernel_rfl) (by kernel_rfl) (by kernel_rfl) (fun _ _ _ h => h) (Or.inl ⟨rfl, fun _ _ => rfl⟩) hSd ?_
      simp only [Act.put, List.setIfInBounds_toArray, List.set_cons_zero, List.set_cons_succ]
      refine takeH (fuel := 3) (i := 20) (v := .bool true) rfl (by kernel_rfl) (by kernel_rfl) (by kernel_rfl) (fun _ _ _ h => h) (Or.inl ⟨rfl, fun _ _ => rfl⟩) hSd ?_
      simp only [Act.put, List.setIfInBounds_toArray, List.set_cons_zero, List.set_cons_succ]
      refine consH (fuel := 2) (i := 21) rfl (by kernel_rfl) (fun K hK => ?_)
      rw [if_pos (by rfl)]
      go_simp
      refine (awake_true _).mono ?_
      rintro e we ⟨rfl, hbe⟩
      refine hK.out _ _ (hSd.trans (hbe.mono hSd.size)) (fun hSe => ?_)
      clear hK
      try simp only [Act.put, List.setIfInBounds_toArray, List.set_cons_zero, List.set_cons_succ]
      refine takeH (fuel := 1) (i := 22) (v := .bool true) rfl (by kernel_rfl) (by kernel_rfl) (by kernel_rfl) (fun _ _ _ h => h) (Or.inl ⟨rfl, fun _ _ => rfl⟩) hSe ?_
      simp only [Act.put, List.setIfInBounds_toArray, List.set_cons_zero, List.set_cons_succ]
      refine takeH (fuel := 0) (i := 23) (v := .bool true) rfl (by kernel_rfl) (by kernel_rfl) (by kernel_rfl) (fun _ _ _ h => h) (Or.inl ⟨rfl, fun _ _ => rfl⟩) hSe ?_
      simp only [Act.put, List.setIfInBounds_toArray, List.set_cons_zero, List.set_cons_succ]
      refine wpAnyH_done (by kernel_rfl) ?_ _
      go_wp2
      go_ret
      exact ⟨rfl, HW7.out.trans (hSe.mono HW7.out.size)⟩
  · cases mo
    · obtain ⟨rfl, rfl⟩ := htv rfl
      have hneg : cd < 0 := by have := of_decide_eq_false hmo.symm; omega
      clear hmo hsv htv
      go_wp2_with fail
      refine wp_region_held (S := fun w' => Below w7.heap.size w7 w') (by kernel_rfl) ?_
      change wpAnyH _ _ _ _ _ 24 #[false, false, false, false, false, false, false, false, false, false, false, false, false, false, false, false, false, false, false, false, false, false, false, false] _ _
      have hS : Below w7.heap.size w7 ((w7.drewN (k8 + k9)).drew) := ⟨rfl, rfl, rfl, Nat.le_refl _, fun _ _ => rfl⟩
      refine takeH (fuel := 23) (i := 0) (v := .bool true) rfl (by kernel_rfl) (by kernel_rfl) (by kernel_rfl) (fun _ _ _ h => h) (Or.inl ⟨rfl, fun _ _ => rfl⟩) hS ?_
      simp only [Act.put, List.setIfInBounds_toArray, List.set_cons_zero, List.set_cons_succ]
      refine takeH (fuel := 22) (i := 1) (v := .bool false) rfl (by kernel_rfl) (by kernel_rfl) (by kernel_rfl) (fun _ _ _ h => h) (Or.inl ⟨rfl, fun _ _ => rfl⟩) hS ?_
      simp only [Act.put, List.setIfInBounds_toArray, List.set_cons_zero, List.set_cons_succ]
      refine takeH (fuel := 21) (i := 2) (v := .bool false) rfl (by kernel_rfl) (by kernel_rfl) (by kernel_rfl) (fun _ _ _ h => h) (Or.inl ⟨rfl, fun _ _ => rfl⟩) hS ?_
      simp only [Act.put, List.setIfInBounds_toArray, List.set_cons_zero, List.set_cons_succ]
      refine takeH (fuel := 20) (i := 3) (v := .agg #[.int .u64 sh, .int .u64 sl]) rfl (by kernel_rfl) (by kernel_rfl) (by kernel_rfl) (fun _ _ _ h => h) (Or.inl ⟨rfl, fun wx hx => ?_⟩) hS ?_
      · have d0 := cell_kept hx s0
        have d1 := cell_kept hx s1
        go_simp
      simp only [Act.put, List.setIfInBounds_toArray, List.set_cons_zero, List.set_cons_succ]
      refine takeH (fuel := 19) (i := 4) (v := vp) rfl (by kernel_rfl) (by kernel_rfl) (by kernel_rfl) (fun _ _ _ h => h) (Or.inl ⟨rfl, fun _ _ => rfl⟩) hS ?_
      simp only [Act.put, List.setIfInBounds_toArray, List.set_cons_zero, List.set_cons_succ]
      refine takeH (fuel := 18) (i := 5) (v := vq) rfl (by kernel_rfl) (by kernel_rfl) (by kernel_rfl) (fun _ _ _ h => h) (Or.inl ⟨rfl, fun _ _ => rfl⟩) hS ?_
      simp only [Act.put, List.setIfInBounds_toArray, List.set_cons_zero, List.set_cons_succ]
      refine consH (fuel := 17) (i := 6) rfl (by kernel_rfl) (fun K hK => ?_)
      rw [if_pos (by rfl)]
      go_simp
      refine (radd dp dq vp vq _ hnp.out.1.1 hnq.out.1.1 (by have := hnp.out.2.2; omega) (by have := hnq.out.2.2; omega) (Dig.below HDp.out hS) (Dig.below HDq.out hS)).mono ?_
      rintro e wa ⟨va, dsa, rfl, hoa, hna, hba⟩
      refine hK.out _ _ (hS.trans (hba.mono hS.size)) (fun hSa => ?_)
      clear hK
      try simp only [Act.put, List.setIfInBounds_toArray, List.set_cons_zero, List.set_cons_succ]
      refine consH (fuel := 16) (i := 7) rfl (by kernel_rfl) (fun K hK => ?_)
      rw [if_pos (by rfl)]
      go_simp
      refine (lis sh sl va dsa _ bsh bsl hna.out.1 (by have := hna.out.2.2; have := hnp.out.2.2; have := hnq.out.2.2; omega) (Own.dig hoa)).mono ?_
      rintro e wb ⟨rfl, hbb⟩
      rw [decide_eq_true (by rw [hna.out.2.1]; exact Hsy.out (by trivial))]
      refine hK.out _ _ (hSa.trans (hbb.mono hSa.size)) (fun hSb => ?_)
      clear hK
      try simp only [Act.put, List.setIfInBounds_toArray, List.set_cons_zero, List.set_cons_succ]
      refine takeH (fuel := 15) (i := 8) (v := .bool true) rfl (by kernel_rfl) (by kernel_rfl) (by kernel_rfl) (fun _ _ _ h => h) (Or.inl ⟨rfl, fun _ _ => rfl⟩) hSb ?_
      simp only [Act.put, List.setIfInBounds_toArray, List.set_cons_zero, List.set_cons_succ]
      refine takeH (fuel := 14) (i := 9) (v := .bool true) rfl (by kernel_rfl) (by kernel_rfl) (by kernel_rfl) (fun _ _ _ h => h) (Or.inl ⟨rfl, fun _ _ => rfl⟩) hSb ?_
      simp only [Act.put, List.setIfInBounds_toArray, List.set_cons_zero, List.set_cons_succ]
      refine takeH (fuel := 13) (i := 10) (v := .bool false) rfl (by kernel_rfl) (by kernel_rfl) (by kernel_rfl) (fun _ _ _ h => h) (Or.inl ⟨rfl, fun _ _ => rfl⟩) hSb ?_
      simp only [Act.put, List.setIfInBounds_toArray, List.set_cons_zero, List.set_cons_succ]
      refine takeH (fuel := 12) (i := 11) (v := .bool true) rfl (by kernel_rfl) (by kernel_rfl) (by kernel_rfl) (fun _ _ _ h => h) (Or.inl ⟨rfl, fun _ _ => rfl⟩) hSb ?_
      simp only [Act.put, List.setIfInBounds_toArray, List.set_cons_zero, List.set_cons_succ]
      refine takeH (fuel := 11) (i := 12) (v := .bool true) rfl (by kernel_rfl) (by kernel_rfl) (by kernel_rfl) (fun _ _ _ h => h) (Or.inl ⟨rfl, fun _ _ => rfl⟩) hSb ?_
      simp only [Act.put, List.setIfInBounds_toArray, List.set_cons_zero, List.set_cons_succ]
      refine takeH (fuel := 10) (i := 13) (v := undef) rfl (by kernel_rfl) (by kernel_rfl) (by kernel_rfl) (fun _ _ _ h => h) (Or.inr ⟨rfl, rfl⟩) hSb ?_
      simp only [Act.put, List.setIfInBounds_toArray, List.set_cons_zero, List.set_cons_succ]
      refine takeH (fuel := 9) (i := 14) (v := undef) rfl (by kernel_rfl) (by kernel_rfl) (by kernel_rfl) (fun _ _ _ h => h) (Or.inr ⟨rfl, rfl⟩) hSb ?_
      simp only [Act.put, List.setIfInBounds_toArray, List.set_cons_zero, List.set_cons_succ]
      refine takeH (fuel := 8) (i := 15) (v := undef) rfl (by kernel_rfl) (by kernel_rfl) (by kernel_rfl) (fun _ _ _ h => h) (Or.inr ⟨rfl, rfl⟩) hSb ?_
      simp only [Act.put, List.setIfInBounds_toArray, List.set_cons_zero, List.set_cons_succ]
      refine takeH (fuel := 7) (i := 16) (v := undef) rfl (by kernel_rfl) (by kernel_rfl) (by kernel_rfl) (fun _ _ _ h => h) (Or.inr ⟨rfl, rfl⟩) hSb ?_
      simp only [Act.put, List.setIfInBounds_toArray, List.set_cons_zero, List.set_cons_succ]
      refine takeH (fuel := 6) (i := 17) (v := undef) rfl (by kernel_rfl) (by kernel_rfl) (by kernel_rfl) (fun _ _ _ h => h) (Or.inr ⟨rfl, rfl⟩) hSb ?_
      simp only [Act.put, List.setIfInBounds_toArray, List.set_cons_zero, List.set_cons_succ]
      refine takeH (fuel := 5) (i := 18) (v := .bool true) rfl (by kernel_rfl) (by kernel_rfl) (by kernel_rfl) (fun _ _ _ h => h) (Or.inl ⟨rfl, fun _ _ => rfl⟩) hSb ?_
      simp only [Act.put, List.setIfInBounds_toArray, List.set_cons_zero, List.set_cons_succ]
      refine takeH (fuel := 4) (i := 19) (v := .bool true) rfl (by kernel_rfl) (by kernel_rfl) (by kernel_rfl) (fun _ _ _ h => h) (Or.inl ⟨rfl, fun _ _ => rfl⟩) hSb ?_
      simp only [Act.put, List.setIfInBounds_toArray, List.set_cons_zero, List.set_cons_succ]
      refine takeH (fuel := 3) (i := 20) (v := .bool true) rfl (by kernel_rfl) (by kernel_rfl) (by kernel_rfl) (fun _ _ _ h => h) (Or.inl ⟨rfl, fun _ _ => rfl⟩) hSb ?_
      simp only [Act.put, List.setIfInBounds_toArray, List.set_cons_zero, List.set_cons_succ]
      refine consH (fuel := 2) (i := 21) rfl (by kernel_rfl) (fun K hK => ?_)
      rw [if_pos (by rfl)]
      go_simp
      refine (awake_true _).mono ?_
      rintro e we ⟨rfl, hbe⟩
      refine hK.out _ _ (hSb.trans (hbe.mono hSb.size)) (fun hSe => ?_)
      clear hK
      try simp only [Act.put, List.setIfInBounds_toArray, List.set_cons_zero, List.set_cons_succ]
      refine takeH (fuel := 1) (i := 22) (v := .bool true) rfl (by kernel_rfl) (by kernel_rfl) (by kernel_rfl) (fun _ _ _ h => h) (Or.inl ⟨rfl, fun _ _ => rfl⟩) hSe ?_
      simp only [Act.put, List.setIfInBounds_toArray, List.set_cons_zero, List.set_cons_succ]
      refine takeH (fuel := 0) (i := 23) (v := .bool true) rfl (by kernel_rfl) (by kernel_rfl) (by kernel_rfl) (fun _ _ _ h => h) (Or.inl ⟨rfl, fun _ _ => rfl⟩) hSe ?_
      simp only [Act.put, List.setIfInBounds_toArray, List.set_cons_zero, List.set_cons_succ]
      refine wpAnyH_done (by kernel_rfl) ?_ _
      go_wp2
      go_ret
      exact ⟨rfl, HW7.out.trans (hSe.mono HW7.out.size)⟩
    · have hpos : 0 ≤ cd := of_decide_eq_true hmo.symm
      clear hmo hsv htv
      go_wp2_with fail
      refine wp_region_held (S := fun w' => Below w7.heap.size w7 w') (by kernel_rfl) ?_
      change wpAnyH _ _ _ _ _ 24 #[false, false, false, false, false, false, false, false, false, false, false, false, false, false, false, false, false, false, false, false, false, false, false, false] _ _
      have hS : Below w7.heap.size w7 ((w7.drewN (k8 + k9)).drew) := ⟨rfl, rfl, rfl, Nat.le_refl _, fun _ _ => rfl⟩
      refine takeH (fuel := 23) (i := 0) (v := .bool true) rfl (by kernel_rfl) (by kernel_rfl) (by kernel_rfl) (fun _ _ _ h => h) (Or.inl ⟨rfl, fun _ _ => rfl⟩) hS ?_
      simp only [Act.put, List.setIfInBounds_toArray, List.set_cons_zero, List.set_cons_succ]
      refine takeH (fuel := 22) (i := 1) (v := .bool false) rfl (by kernel_rfl) (by kernel_rfl) (by kernel_rfl) (fun _ _ _ h => h) (Or.inl ⟨rfl, fun _ _ => rfl⟩) hS ?_
      simp only [Act.put, List.setIfInBounds_toArray, List.set_cons_zero, List.set_cons_succ]
      refine takeH (fuel := 21) (i := 2) (v := .bool false) rfl (by kernel_rfl) (by kernel_rfl) (by kernel_rfl) (fun _ _ _ h => h) (Or.inl ⟨rfl, fun _ _ => rfl⟩) hS ?_
      simp only [Act.put, List.setIfInBounds_toArray, List.set_cons_zero, List.set_cons_succ]
      refine takeH (fuel := 20) (i := 3) (v := .agg #[.int .u64 sh, .int .u64 sl]) rfl (by kernel_rfl) (by kernel_rfl) (by kernel_rfl) (fun _ _ _ h => h) (Or.inl ⟨rfl, fun wx hx => ?_⟩) hS ?_
      · have d0 := cell_kept hx s0
        have d1 := cell_kept hx s1
        go_simp
      simp only [Act.put, List.setIfInBounds_toArray, List.set_cons_zero, List.set_cons_succ]
      refine takeH (fuel := 19) (i := 4) (v := vp) rfl (by kernel_rfl) (by kernel_rfl) (by kernel_rfl) (fun _ _ _ h => h) (Or.inl ⟨rfl, fun _ _ => rfl⟩) hS ?_
      simp only [Act.put, List.setIfInBounds_toArray, List.set_cons_zero, List.set_cons_succ]
      refine takeH (fuel := 18) (i := 5) (v := vq) rfl (by kernel_rfl) (by kernel_rfl) (by kernel_rfl) (fun _ _ _ h => h) (Or.inl ⟨rfl, fun _ _ => rfl⟩) hS ?_
      simp only [Act.put, List.setIfInBounds_toArray, List.set_cons_zero, List.set_cons_succ]
      refine consH (fuel := 17) (i := 6) rfl (by kernel_rfl) (fun K hK => ?_)
      rw [if_pos (by rfl)]
      go_simp
      refine (radd dp dq vp vq _ hnp.out.1.1 hnq.out.1.1 (by have := hnp.out.2.2; omega) (by have := hnq.out.2.2; omega) (Dig.below HDp.out hS) (Dig.below HDq.out hS)).mono ?_
      rintro e wa ⟨va, dsa, rfl, hoa, hna, hba⟩
      refine hK.out _ _ (hS.trans (hba.mono hS.size)) (fun hSa => ?_)
      clear hK
      try simp only [Act.put, List.setIfInBounds_toArray, List.set_cons_zero, List.set_cons_succ]
      refine consH (fuel := 16) (i := 7) rfl (by kernel_rfl) (fun K hK => ?_)
      rw [if_pos (by rfl)]
      go_simp
      refine (lis sh sl va dsa _ bsh bsl hna.out.1 (by have := hna.out.2.2; have := hnp.out.2.2; have := hnq.out.2.2; omega) (Own.dig hoa)).mono ?_
      rintro e wb ⟨rfl, hbb⟩
      rw [decide_eq_true (by rw [hna.out.2.1]; exact Hsy.out (by trivial))]
      refine hK.out _ _ (hSa.trans (hbb.mono hSa.size)) (fun hSb => ?_)
      clear hK
      try simp only [Act.put, List.setIfInBounds_toArray, List.set_cons_zero, List.set_cons_succ]
      refine takeH (fuel := 15) (i := 8) (v := .bool true) rfl (by kernel_rfl) (by kernel_rfl) (by kernel_rfl) (fun _ _ _ h => h) (Or.inl ⟨rfl, fun _ _ => rfl⟩) hSb ?_
      simp only [Act.put, List.setIfInBounds_toArray, List.set_cons_zero, List.set_cons_succ]
      refine takeH (fuel := 14) (i := 9) (v := .bool true) rfl (by kernel_rfl) (by kernel_rfl) (by kernel_rfl) (fun _ _ _ h => h) (Or.inl ⟨rfl, fun _ _ => rfl⟩) hSb ?_
      simp only [Act.put, List.setIfInBounds_toArray, List.set_cons_zero, List.set_cons_succ]
      refine takeH (fuel := 13) (i := 10) (v := .bool true) rfl (by kernel_rfl) (by kernel_rfl) (by kernel_rfl) (fun _ _ _ h => h) (Or.inl ⟨rfl, fun _ _ => rfl⟩) hSb ?_
      simp only [Act.put, List.setIfInBounds_toArray, List.set_cons_zero, List.set_cons_succ]
      refine takeH (fuel := 12) (i := 11) (v := .bool false) rfl (by kernel_rfl) (by kernel_rfl) (by kernel_rfl) (fun _ _ _ h => h) (Or.inl ⟨rfl, fun _ _ => rfl⟩) hSb ?_
      simp only [Act.put, List.setIfInBounds_toArray, List.set_cons_zero, List.set_cons_succ]
      refine takeH (fuel := 11) (i := 12) (v := .bool false) rfl (by kernel_rfl) (by kernel_rfl) (by kernel_rfl) (fun _ _ _ h => h) (Or.inl ⟨rfl, fun _ _ => rfl⟩) hSb ?_
      simp only [Act.put, List.setIfInBounds_toArray, List.set_cons_zero, List.set_cons_succ]
      refine takeH (fuel := 10) (i := 13) (v := .agg #[.int .u64 th, .int .u64 tl]) rfl (by kernel_rfl) (by kernel_rfl) (by kernel_rfl) (fun _ _ _ h => h) (Or.inl ⟨rfl, fun wx hx => ?_⟩) hSb ?_
      · have d0 := cell_kept hx t0
        have d1 := cell_kept hx t1
        go_simp
      simp only [Act.put, List.setIfInBounds_toArray, List.set_cons_zero, List.set_cons_succ]
      refine takeH (fuel := 9) (i := 14) (v := vp) rfl (by kernel_rfl) (by kernel_rfl) (by kernel_rfl) (fun _ _ _ h => h) (Or.inl ⟨rfl, fun _ _ => rfl⟩) hSb ?_
      simp only [Act.put, List.setIfInBounds_toArray, List.set_cons_zero, List.set_cons_succ]
      refine takeH (fuel := 8) (i := 15) (v := vq) rfl (by kernel_rfl) (by kernel_rfl) (by kernel_rfl) (fun _ _ _ h => h) (Or.inl ⟨rfl, fun _ _ => rfl⟩) hSb ?_
      simp only [Act.put, List.setIfInBounds_toArray, List.set_cons_zero, List.set_cons_succ]
      refine consH (fuel := 7) (i := 16) rfl (by kernel_rfl) (fun K hK => ?_)
      rw [if_pos (by rfl)]
      go_simp
      refine (rsub dp dq vp vq _ hnp.out.1 hnq.out.1 (by have := hnp.out.2.2; omega) (Hle.out (by trivial)) (Dig.below HDp.out hSb) (Dig.below HDq.out hSb)).mono ?_
      rintro e wc ⟨vc, dsc, rfl, hoc, hnc, hbc⟩
      refine hK.out _ _ (hSb.trans (hbc.mono hSb.size)) (fun hSc => ?_)
      clear hK
      try simp only [Act.put, List.setIfInBounds_toArray, List.set_cons_zero, List.set_cons_succ]
      refine consH (fuel := 6) (i := 17) rfl (by kernel_rfl) (fun K hK => ?_)
      rw [if_pos (by rfl)]
      go_simp
      refine (lis th tl vc dsc _ bth btl hnc.out.1 (by have := hnc.out.2.2; have := hnp.out.2.2; omega) (Own.dig hoc)).mono ?_
      rintro e wd2 ⟨rfl, hbd⟩
      rw [decide_eq_true (by rw [hnc.out.2.1]; exact Hty.out (by trivial))]
      refine hK.out _ _ (hSc.trans (hbd.mono hSc.size)) (fun hSd => ?_)
      clear hK
      try simp only [Act.put, List.setIfInBounds_toArray, List.set_cons_zero, List.set_cons_succ]
      refine takeH (fuel := 5) (i := 18) (v := .bool true) rfl (by kernel_rfl) (by kernel_rfl) (by kernel_rfl) (fun _ _ _ h => h) (Or.inl ⟨rfl, fun _ _ => rfl⟩) hSd ?_
      simp only [Act.put, List.setIfInBounds_toArray, List.set_cons_zero, List.set_cons_succ]
      refine takeH (fuel := 4) (i := 19) (v := .bool true) rfl (by kernel_rfl) (by kernel_rfl) (by kernel_rfl) (fun _ _ _ h => h) (Or.inl ⟨rfl, fun _ _ => rfl⟩) hSd ?_
      simp only [Act.put, List.setIfInBounds_toArray, List.set_cons_zero, List.set_cons_succ]
      refine takeH (fuel := 3) (i := 20) (v := .bool true) rfl (by kernel_rfl) (by kernel_rfl) (by kernel_rfl) (fun _ _ _ h => h) (Or.inl ⟨rfl, fun _ _ => rfl⟩) hSd ?_
      simp only [Act.put, List.setIfInBounds_toArray, List.set_cons_zero, List.set_cons_succ]
      refine consH (fuel := 2) (i := 21) rfl (by kernel_rfl) (fun K hK => ?_)
      rw [if_pos (by rfl)]
      go_simp
      refine (awake_true _).mono ?_
      rintro e we ⟨rfl, hbe⟩
      refine hK.out _ _ (hSd.trans (hbe.mono hSd.size)) (fun hSe => ?_)
      clear hK
      try simp only [Act.put, List.setIfInBounds_toArray, List.set_cons_zero, List.set_cons_succ]
      refine takeH (fuel := 1) (i := 22) (v := .bool true) rfl (by kernel_rfl) (by kernel_rfl) (by kernel_rfl) (fun _ _ _ h => h) (Or.inl ⟨rfl, fun _ _ => rfl⟩) hSe ?_
      simp only [Act.put, List.setIfInBounds_toArray, List.set_cons_zero, List.set_cons_succ]
      refine takeH (fuel := 0) (i := 23) (v := .bool true) rfl (by kernel_rfl) (by kernel_rfl) (by kernel_rfl) (fun _ _ _ h => h) (Or.inl ⟨rfl, fun _ _ => rfl⟩) hSe ?_
      simp only [Act.put, List.setIfInBounds_toArray, List.set_cons_zero, List.set_cons_succ]
      refine wpAnyH_done (by kernel_rfl) ?_ _
      go_wp2
      go_ret
      exact ⟨rfl, HW7.out.trans (hSe.mono HW7.out.size)⟩
end Go.Proofs.Ytjjcjgighdidcaa
