/- layer 13: law Ends -/
import Derived.Test.YtbgdmpaghkmadaaYA
import Derived.WalkKit
import Derived.ProofKit
import Derived.Handy
import Derived.WalkLawsBesides
import Derived.WalkSpells
import Derived.BigQuiet
import Derived.BigCall
import Derived.Deep.QuietTactic
import Derived.Deep.Light
import Derived.Deep.OwnRows
import Derived.Laws.AppendOwnNone
import Derived.Laws.Strings3
import Derived.Laws.RangeAny
import Derived.Deep.RegionWith
import Derived.Lib.BitFns
import Derived.Lib.Walk
import Derived.Lib.Strings
import Derived.Lib.OthersKept
import Derived.Deep.CutBlock
import Derived.Deep.DeepCutAuto
import Derived.Deep.LoopGhost
import Derived.Deep.RegionHeld3
import Derived.Lib.SmallJoins
import Derived.Maps.AppendAt
import Derived.Laws.IdiomStrings
import Derived.Lib.AppendZeros
import Derived.Deep.WholeRow
import Derived.Laws.BitsAllLaws
import Derived.Lib.ConvBytes
import Derived.Deep.RegionLaw
import Derived.Maps.OwnSet
import Derived.Maps.OwnOps
import Derived.Maps.RangeWalk
import Derived.Maps.Ext
import Derived.DeepKeys4
import Derived.Laws.StructEq
import Derived.Deep.MidRow
import Derived.Lib.Bytealg
import Derived.Lib.Overlaps
import Derived.Lib.AppendZerosOnto
import Derived.Laws.MakeOwn
namespace Go.Proofs.Ytbgdmpaghkmadaa
open Go.RowKit
set_option linter.unusedVariables false
set_option linter.unusedSimpArgs false
open Num
set_option maxRecDepth 20000
set_option maxHeartbeats 16000000 in
theorem lends (xl : List Ac) (a0 : Option Addr) (cap : Nat) (x : As) (hm : Rng x.mat) (d : Int) (w : World) (h : Acs w a0 xl) : Calls Try.prog 6 #[.slice a0 xl.length cap, .agg #[.string x.i, .int .i64 x.iss, .int .i64 x.rat, .int .i64 x.mat, .string x.c], .int .i64 d] w (OkP w) := by
  obtain ⟨xi, xa, xb, xc, xs⟩ := x
  simp only at *
  have HAw : Hid (∀ w, Calls Try.prog 12 #[] w (OkP w)) := fun w => xawake w
  obtain ⟨w1, hw1⟩ : ∃ w1, w1 = w.alloc (.cells #[.string xi, .int .i64 xa, .int .i64 xb, .int .i64 xc, .string xs] 27) := ⟨_, rfl⟩
  have HW : Hid (w.alloc (.cells #[.string xi, .int .i64 xa, .int .i64 xb, .int .i64 xc, .string xs] 27) = w1) := hw1.symm
  have hb1 : Below w.heap.size w w1 := by rw [hw1]; exact (Below.refl _ w).alloc (Nat.le_refl _) _
  have hX1 : Bx w1 w.heap.size #[.string xi, .int .i64 xa, .int .i64 xb, .int .i64 xc, .string xs] 27 := by rw [hw1]; exact Bx.new w _ _
  have h1 : Acs w1 a0 xl := ⟨h.r.below hb1, fun y hy => ⟨(h.w y hy).ps.below hb1, (h.w y hy).s⟩, h.n⟩
  have HX1 : Hid (Bx w1 w.heap.size #[.string xi, .int .i64 xa, .int .i64 xb, .int .i64 xc, .string xs] 27 ∧ Below w.heap.size w w1) := ⟨hX1, hb1⟩
  have HFi : Hid (Calls Try.prog 13 #[.slice a0 xl.length cap] w1 (FiP w1)) := xfilled xl a0 cap w1 h1
  clear h h1 hw1 hb1 hX1
  by_cases hm1 : xc < 0
  · go_enter Try.func6, Try.ntmps6
    go_upto_region 1 with fail
    rw [HW.out]
    clear HW
    go_wp2_with (first | (go_at_call 13; refine HFi.out.mono ?_; clear HFi; rintro e w2 ⟨L, v, lp, al, cl, rfl, HZ⟩; have HX2 : Hid (Bx w2 w.heap.size #[.string xi, .int .i64 xa, .int .i64 xb, .int .i64 xc, .string xs] 27 ∧ Below w.heap.size w w2) := ⟨HX1.out.1.below HZ.out.2.b HX1.out.1.lt, HX1.out.2.trans (HZ.out.2.b.mono HX1.out.2.size)⟩; have q3 : w2.cell? ⟨w.heap.size, 3, none⟩ = some (.int .i64 xc) := HX2.out.1.cell 3) | (go_at_call 12; refine (HAw.out _).mono ?_; rintro e w9 ⟨rfl, HB9⟩))
    go_ret
    exact ⟨rfl, HX2.out.2.trans (HB9.mono HX2.out.2.size)⟩
  by_cases hm2 : 200000 < xc
  · go_enter Try.func6, Try.ntmps6
    go_upto_region 1 with fail
    rw [HW.out]
    clear HW
    go_wp2_with (first | (go_at_call 13; refine HFi.out.mono ?_; clear HFi; rintro e w2 ⟨L, v, lp, al, cl, rfl, HZ⟩; have HX2 : Hid (Bx w2 w.heap.size #[.string xi, .int .i64 xa, .int .i64 xb, .int .i64 xc, .string xs] 27 ∧ Below w.heap.size w w2) := ⟨HX1.out.1.below HZ.out.2.b HX1.out.1.lt, HX1.out.2.trans (HZ.out.2.b.mono HX1.out.2.size)⟩; have q3 : w2.cell? ⟨w.heap.size, 3, none⟩ = some (.int .i64 xc) := HX2.out.1.cell 3) | (go_at_call 12; refine (HAw.out _).mono ?_; rintro e w9 ⟨rfl, HB9⟩))
    go_ret
    exact ⟨rfl, HX2.out.2.trans (HB9.mono HX2.out.2.size)⟩
  · go_enter Try.func6, Try.ntmps6
    go_upto_region 1 with fail
    rw [HW.out]
    clear HW
    go_wp2_with (go_at_call 13; refine HFi.out.mono ?_; clear HFi; rintro e w2 ⟨L, v, lp, al, cl, rfl, HZ⟩; have HX2 : Hid (Bx w2 w.heap.size #[.string xi, .int .i64 xa, .int .i64 xb, .int .i64 xc, .string xs] 27 ∧ Below w.heap.size w w2) := ⟨HX1.out.1.below HZ.out.2.b HX1.out.1.lt, HX1.out.2.trans (HZ.out.2.b.mono HX1.out.2.size)⟩; have q3 : w2.cell? ⟨w.heap.size, 3, none⟩ = some (.int .i64 xc) := HX2.out.1.cell 3)
    have g := HZ.out.1
    have hd := HZ.out.2
    have hx2 := HX2.out.1.lt
    have q0 : w2.cell? ⟨w.heap.size, 0, none⟩ = some (.string xi) := HX2.out.1.cell 0
    have q1 : w2.cell? ⟨w.heap.size, 1, none⟩ = some (.int .i64 xa) := HX2.out.1.cell 1
    have q2 : w2.cell? ⟨w.heap.size, 2, none⟩ = some (.int .i64 xb) := HX2.out.1.cell 2
    have q4 : w2.cell? ⟨w.heap.size, 4, none⟩ = some (.string xs) := HX2.out.1.cell 4
    have HL1 : Hid (∀ W, Calls Try.prog 23 #[.agg #[.string xi, .int .i64 xa, .int .i64 xb, .int .i64 xc, .string xs], .int .i64 d] W (LfP (lft xc d) W)) := fun W => xleft xi xa xb xc xs d (by omega) W
    have HL2 : Hid (∀ W, Calls Try.prog 24 #[.agg #[.string xi, .int .i64 xa, .int .i64 xb, .int .i64 xc, .string xs], .int .i64 d] W (LfP (lft xc d) W)) := fun W => rleft xi xa xb xc xs d (by omega) W
    have hsl := sel_len (nmF d) L
    have hgl := g.len
    have HE1 : Hid (∀ W, Below w2.heap.size w2 W → Calls Try.prog 26 #[.pointer (some ⟨w1.heap.size, 0, none⟩), .int .i64 d] W fun e W' => ∃ a c, e = .returned (.slice a (sel (nmF d) L).length c) ∧ Hid (Rw 1 stc W' a (sel (nmF d) L) ∧ Below W.heap.size W W')) := fun W hb => by
      obtain ⟨ra, rc, e0, _, hrw, hkn⟩ := (hd.x.below hb).known
      exact (xending g d W hkn hrw).mono fun e W' hh => by
        obtain ⟨a, c, rfl, h1, h2⟩ := NwP.rw stc_len hh
        exact ⟨a, c, rfl, h1, h2⟩
    have HE2 : Hid (∀ W, Below w2.heap.size w2 W → Calls Try.prog 27 #[.slice al L.length cl, .int .i64 d] W fun e W' => ∃ a c, e = .returned (.slice a (sel (nmF d) L).length c) ∧ Hid (Rw 1 stc W' a (sel (nmF d) L) ∧ Below W.heap.size W W')) := fun W hb => (rending g d W (hd.rw.below hb)).mono fun e W' hh => by
        obtain ⟨a, c, rfl, h1, h2⟩ := NwP.rw stc_len hh
        exact ⟨a, c, rfl, h1, h2⟩
    have HTx : Hid (∀ a b ca cb W, Rw 1 stc W a (sel (nmF d) L) → Rw 1 stc W b (sel (nmF d) L) → Calls Try.prog 25 #[.slice a (sel (nmF d) L).length ca, .slice b (sel (nmF d) L).length cb] W (OkP W)) := fun a b ca cb W h1 h2 => rtexts _ (by omega) a b ca cb W h1 h2
    clear g hd HZ hsl hgl q3
    have q3 : w2.cell? ⟨w.heap.size, 3, none⟩ = some (.int .i64 xc) := HX2.out.1.cell 3
    generalize lft xc d = lf at *
    generalize sel (nmF d) L = T at *
    refine wp_region_held (S := fun W => Below w2.heap.size w2 W) (by kernel_rfl) ?_
    change wpAnyH _ _ _ _ _ 20 #[false, false, false, false, false, false, false, false, false, false, false, false, false, false, false, false, false, false, false, false] _ w2.drew
    have hS0 : Below w2.heap.size w2 w2.drew := (Below.refl _ w2).drew
    obtain ⟨v0, hv0⟩ : ∃ v, v = w2.drew := ⟨_, rfl⟩
    rw [← hv0] at hS0 ⊢
    clear hv0
    refine takeR (fuel := 19) (i := 0) (v := .agg #[.string xi, .int .i64 xa, .int .i64 xb, .int .i64 xc, .string xs]) rfl (by kernel_rfl) (by kernel_rfl) (by kernel_rfl) (fun _ _ _ h => h) (Or.inl ⟨rfl, fun W hW => exl _ _ 27 _ rfl (.pointer (some ⟨w.heap.size, 0, none⟩)) _ rfl (load27 W w.heap.size 0 _ _ _ _ _ ((hW.cell (p := ⟨w.heap.size, 0, none⟩) hx2).trans q0) ((hW.cell (p := ⟨w.heap.size, 1, none⟩) hx2).trans q1) ((hW.cell (p := ⟨w.heap.size, 2, none⟩) hx2).trans q2) ((hW.cell (p := ⟨w.heap.size, 3, none⟩) hx2).trans q3) ((hW.cell (p := ⟨w.heap.size, 4, none⟩) hx2).trans q4))⟩) hS0 ?_
    simp only [Act.put, List.setIfInBounds_toArray, List.set_cons_zero, List.set_cons_succ]
    refine takeR (fuel := 18) (i := 1) (v := .int .i64 d) rfl (by kernel_rfl) (by kernel_rfl) (by kernel_rfl) (fun _ _ _ h => h) (Or.inl ⟨rfl, fun W hW => by go_simp⟩) hS0 ?_
    simp only [Act.put, List.setIfInBounds_toArray, List.set_cons_zero, List.set_cons_succ]
    refine takeR (fuel := 17) (i := 3) (v := .agg #[.string xi, .int .i64 xa, .int .i64 xb, .int .i64 xc, .string xs]) rfl (by kernel_rfl) (by kernel_rfl) (by kernel_rfl) (fun _ _ _ h => h) (Or.inl ⟨rfl, fun W hW => exl _ _ 27 _ rfl (.pointer (some ⟨w.heap.size, 0, none⟩)) _ rfl (load27 W w.heap.size 0 _ _ _ _ _ ((hW.cell (p := ⟨w.heap.size, 0, none⟩) hx2).trans q0) ((hW.cell (p := ⟨w.heap.size, 1, none⟩) hx2).trans q1) ((hW.cell (p := ⟨w.heap.size, 2, none⟩) hx2).trans q2) ((hW.cell (p := ⟨w.heap.size, 3, none⟩) hx2).trans q3) ((hW.cell (p := ⟨w.heap.size, 4, none⟩) hx2).trans q4))⟩) hS0 ?_
    simp only [Act.put, List.setIfInBounds_toArray, List.set_cons_zero, List.set_cons_succ]
    refine takeR (fuel := 16) (i := 4) (v := .int .i64 d) rfl (by kernel_rfl) (by kernel_rfl) (by kernel_rfl) (fun _ _ _ h => h) (Or.inl ⟨rfl, fun W hW => by go_simp⟩) hS0 ?_
    simp only [Act.put, List.setIfInBounds_toArray, List.set_cons_zero, List.set_cons_succ]
    refine consR (fuel := 15) (i := 2) rfl (by kernel_rfl) (fun K hK => ?_)
    rw [if_pos (by rfl)]
    go_simp
    refine (HL1.out _).mono ?_
    rintro e v1 ⟨rfl, hb1⟩
    refine hK.out _ _ (hS0.trans (hb1.mono hS0.size)) (fun hS1 => ?_)
    clear hK
    try simp only [Act.put, List.setIfInBounds_toArray, List.set_cons_zero, List.set_cons_succ]
    refine consR (fuel := 14) (i := 5) rfl (by kernel_rfl) (fun K hK => ?_)
    rw [if_pos (by rfl)]
    go_simp
    refine (HL2.out _).mono ?_
    rintro e v2 ⟨rfl, hb2⟩
    refine hK.out _ _ (hS1.trans (hb2.mono hS1.size)) (fun hS2 => ?_)
    clear hK
    try simp only [Act.put, List.setIfInBounds_toArray, List.set_cons_zero, List.set_cons_succ]
    refine takeR (fuel := 13) (i := 6) (v := .bool true) rfl (by kernel_rfl) (by kernel_rfl) (by kernel_rfl) (fun _ _ _ h => h) (Or.inl ⟨rfl, fun W hW => by go_simp⟩) hS2 ?_
    simp only [Act.put, List.setIfInBounds_toArray, List.set_cons_zero, List.set_cons_succ]
    refine takeR (fuel := 12) (i := 7) (v := .bool true) rfl (by kernel_rfl) (by kernel_rfl) (by kernel_rfl) (fun _ _ _ h => h) (Or.inl ⟨rfl, fun W hW => by go_simp⟩) hS2 ?_
    simp only [Act.put, List.setIfInBounds_toArray, List.set_cons_zero, List.set_cons_succ]
    refine takeR (fuel := 11) (i := 8) (v := .pointer (some ⟨w1.heap.size, 0, none⟩)) rfl (by kernel_rfl) (by kernel_rfl) (by kernel_rfl) (fun _ _ _ h => h) (Or.inl ⟨rfl, fun W hW => by go_simp⟩) hS2 ?_
    simp only [Act.put, List.setIfInBounds_toArray, List.set_cons_zero, List.set_cons_succ]
    refine takeR (fuel := 10) (i := 9) (v := .int .i64 d) rfl (by kernel_rfl) (by kernel_rfl) (by kernel_rfl) (fun _ _ _ h => h) (Or.inl ⟨rfl, fun W hW => by go_simp⟩) hS2 ?_
    simp only [Act.put, List.setIfInBounds_toArray, List.set_cons_zero, List.set_cons_succ]
    refine takeR (fuel := 9) (i := 11) (v := .slice al L.length cl) rfl (by kernel_rfl) (by kernel_rfl) (by kernel_rfl) (fun _ _ _ h => h) (Or.inl ⟨rfl, fun W hW => by go_simp⟩) hS2 ?_
    simp only [Act.put, List.setIfInBounds_toArray, List.set_cons_zero, List.set_cons_succ]
    refine takeR (fuel := 8) (i := 12) (v := .int .i64 d) rfl (by kernel_rfl) (by kernel_rfl) (by kernel_rfl) (fun _ _ _ h => h) (Or.inl ⟨rfl, fun W hW => by go_simp⟩) hS2 ?_
    simp only [Act.put, List.setIfInBounds_toArray, List.set_cons_zero, List.set_cons_succ]
    refine consR (fuel := 7) (i := 10) rfl (by kernel_rfl) (fun K hK => ?_)
    rw [if_pos (by rfl)]
    go_simp
    refine (HE1.out _ hS2).mono ?_
    rintro e v3 ⟨a1, c1, rfl, HR1⟩
    refine hK.out _ _ (hS2.trans (HR1.out.2.mono hS2.size)) (fun hS3 => ?_)
    clear hK
    try simp only [Act.put, List.setIfInBounds_toArray, List.set_cons_zero, List.set_cons_succ]
    refine consR (fuel := 6) (i := 13) rfl (by kernel_rfl) (fun K hK => ?_)
    rw [if_pos (by rfl)]
    go_simp
    refine (HE2.out _ hS3).mono ?_
    rintro e v4 ⟨a2, c2, rfl, HR2⟩
    refine hK.out _ _ (hS3.trans (HR2.out.2.mono hS3.size)) (fun hS4 => ?_)
    clear hK
    try simp only [Act.put, List.setIfInBounds_toArray, List.set_cons_zero, List.set_cons_succ]
    refine consR (fuel := 5) (i := 14) rfl (by kernel_rfl) (fun K hK => ?_)
    rw [if_pos (by rfl)]
    go_simp
    refine (HTx.out _ _ _ _ _ (HR1.out.1.below HR2.out.2) HR2.out.1).mono ?_
    rintro e v5 ⟨rfl, hb5⟩
    refine hK.out _ _ (hS4.trans (hb5.mono hS4.size)) (fun hS5 => ?_)
    clear hK
    try simp only [Act.put, List.setIfInBounds_toArray, List.set_cons_zero, List.set_cons_succ]
    refine takeR (fuel := 4) (i := 15) (v := .bool true) rfl (by kernel_rfl) (by kernel_rfl) (by kernel_rfl) (fun _ _ _ h => h) (Or.inl ⟨rfl, fun W hW => by go_simp⟩) hS5 ?_
    simp only [Act.put, List.setIfInBounds_toArray, List.set_cons_zero, List.set_cons_succ]
    refine takeR (fuel := 3) (i := 16) (v := .bool true) rfl (by kernel_rfl) (by kernel_rfl) (by kernel_rfl) (fun _ _ _ h => h) (Or.inl ⟨rfl, fun W hW => by go_simp⟩) hS5 ?_
    simp only [Act.put, List.setIfInBounds_toArray, List.set_cons_zero, List.set_cons_succ]
    refine consR (fuel := 2) (i := 17) rfl (by kernel_rfl) (fun K hK => ?_)
    rw [if_pos (by rfl)]
    go_simp
    refine (HAw.out _).mono ?_
    rintro e v6 ⟨rfl, hb6⟩
    refine hK.out _ _ (hS5.trans (hb6.mono hS5.size)) (fun hS6 => ?_)
    clear hK
    try simp only [Act.put, List.setIfInBounds_toArray, List.set_cons_zero, List.set_cons_succ]
    refine takeR (fuel := 1) (i := 18) (v := .bool true) rfl (by kernel_rfl) (by kernel_rfl) (by kernel_rfl) (fun _ _ _ h => h) (Or.inl ⟨rfl, fun W hW => by go_simp⟩) hS6 ?_
    simp only [Act.put, List.setIfInBounds_toArray, List.set_cons_zero, List.set_cons_succ]
    refine takeR (fuel := 0) (i := 19) (v := .bool true) rfl (by kernel_rfl) (by kernel_rfl) (by kernel_rfl) (fun _ _ _ h => h) (Or.inl ⟨rfl, fun W hW => by go_simp⟩) hS6 ?_
    simp only [Act.put, List.setIfInBounds_toArray, List.set_cons_zero, List.set_cons_succ]
    refine wpAnyH_done (by kernel_rfl) ?_ _
    go_wp2_with fail
    go_ret
    exact ⟨rfl, HX2.out.2.trans (hS6.mono HX2.out.2.size)⟩
end Go.Proofs.Ytbgdmpaghkmadaa
