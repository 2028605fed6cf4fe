/- layer 16: law Over -/
import Derived.Test.YtdfadcbchiogjaaGreatPF
import Derived.WalkKit
import Derived.ProofKit
import Derived.Handy
import Derived.WalkLawsBesides
import Derived.WalkSpells
import Derived.BigQuiet
import Derived.BigCall
import Derived.Deep.QuietTactic
import Derived.Deep.Light
import Derived.Deep.OwnRows
import Derived.Laws.AppendOwnNone
import Derived.Laws.Strings3
import Derived.Laws.RangeAny
import Derived.Deep.RegionWith
import Derived.Lib.BitFns
import Derived.Lib.Walk
import Derived.Lib.Strings
import Derived.Lib.OthersKept
import Derived.Deep.CutBlock
import Derived.Deep.DeepCutAuto
import Derived.Deep.LoopGhost
import Derived.Deep.RegionHeld3
import Derived.Lib.SmallJoins
import Derived.Maps.AppendAt
import Derived.Laws.IdiomStrings
import Derived.Lib.AppendZeros
import Derived.Deep.WholeRow
import Derived.Laws.BitsAllLaws
import Derived.Lib.ConvBytes
import Derived.Deep.RegionLaw
import Derived.Maps.OwnSet
import Derived.Maps.OwnOps
import Derived.Maps.RangeWalk
import Derived.Maps.Ext
import Derived.DeepKeys4
import Derived.Laws.StructEq
import Derived.Deep.MidRow
import Derived.Lib.Bytealg
import Derived.Lib.AppendZerosOnto
import Derived.Laws.MakeOwn
import Derived.Deep.Upon
import Derived.Sort.KeysCollected
namespace Go.Proofs.YtdfadcbchiogjaaGreat
open Go.RowKit
set_option linter.unusedVariables false
set_option linter.unusedSimpArgs false
set_option maxRecDepth 100000
theorem load25 (W : World) (g : Nat) {v0 v1 v2 v3 v4 v5 v6 v7 v8 v9 : Value} (h : Bx W g #[v0, v1, v2, v3, v4, v5, v6, v7, v8, v9] 25) : (Instr.loadAt 25 (.pointer (some ⟨g, 0, none⟩))).run Tryz.prog W = .ok (.agg #[v0, v1, v2, v3, v4, v5, v6, v7, v8, v9]) W := by
  have d0 : W.cell? ⟨g, 0, none⟩ = some v0 := h.cell 0
  have d1 : W.cell? ⟨g, 1, none⟩ = some v1 := h.cell 1
  have d2 : W.cell? ⟨g, 2, none⟩ = some v2 := h.cell 2
  have d3 : W.cell? ⟨g, 3, none⟩ = some v3 := h.cell 3
  have d4 : W.cell? ⟨g, 4, none⟩ = some v4 := h.cell 4
  have d5 : W.cell? ⟨g, 5, none⟩ = some v5 := h.cell 5
  have d6 : W.cell? ⟨g, 6, none⟩ = some v6 := h.cell 6
  have d7 : W.cell? ⟨g, 7, none⟩ = some v7 := h.cell 7
  have d8 : W.cell? ⟨g, 8, none⟩ = some v8 := h.cell 8
  have d9 : W.cell? ⟨g, 9, none⟩ = some v9 := h.cell 9
  go_simp
/-- both tell one issuer, one part, one error -/
theorem gr_both (xs : List H5.It) (hx : ∀ y ∈ xs, WI y) (hl : xs.length ≤ 1000) : ∃ b p E, (∀ a cap w, Rw 9 H5.its w a xs → Calls Tryz.prog 8 #[.slice a xs.length cap] w (GrP b p E w)) ∧ (∀ a cap w, Rw 9 H5.its w a xs → Calls Tryz.prog 9 #[.slice a xs.length cap] w (GrP b p E w)) := by
  by_cases hE : (H5.itot 0 xs).2 = 0
  · by_cases hS : 0 < sm (cov xs)
    · have h0 : 0 < xs.length := by
        obtain ⟨p, hp, _⟩ := sm_pos hS
        rw [← cov_len]
        exact List.length_pos_of_mem hp
      have hb := bst_first (smI (cov xs)) xs[0].a.iss (niss (xs.drop 1))
      rw [← niss_cons h0, ← niss_cov] at hb
      exact ⟨_, _, _, fun a cap w h => (xgreatest xs hx a cap w h (by omega)).2.2 hE hS _ hb, fun a cap w h => (rgreatest xs hx a cap w h hl).2.2 hE hS _ hb⟩
    · have hn : sm (cov xs) = 0 := by
        have := sm_nn (cov_nn xs)
        omega
      exact ⟨_, _, _, fun a cap w h => (xgreatest xs hx a cap w h (by omega)).2.1 hE hn, fun a cap w h => (rgreatest xs hx a cap w h hl).2.1 hE hn⟩
  · exact ⟨_, _, _, fun a cap w h => (xgreatest xs hx a cap w h (by omega)).1 hE, fun a cap w h => (rgreatest xs hx a cap w h hl).1 hE⟩
theorem ovL_few {need i a : Int} {xs : List H5.It} (h : xs.length ≤ 80) : (ovL need i a xs).length ≤ 1000 := by
  unfold ovL
  split
  · refine Nat.le_trans (List.length_filter_le _ _) ?_
    have := uses_few (t := ovT need i a xs) (n := 80) (by show (cov xs).length ≤ 80; rw [cov_len]; exact h)
    omega
  · exact Nat.zero_le _
set_option maxHeartbeats 32000000 in
theorem lover (x : Bq) (need : Int) (xs : List H5.It) (hx : ∀ y ∈ xs, WI y) (a : Option Addr) (cap : Nat) (w : World) (hp : Rw 9 H5.its w a xs) : Calls Tryz.prog 3 #[.agg (bqs x).toArray, .int .i64 need, .slice a xs.length cap] w (OkP w) := by
  obtain ⟨id, ver, cur, rat, least, most, ca, cn, cc, iss, ast, ba, bn, bc⟩ := x
  simp only [bqs]
  obtain ⟨w1, hw1⟩ : ∃ w1, w.alloc (.cells #[.int .i64 id, .int .i64 ver, .string cur, .int .i64 rat, .int .i64 least, .int .i64 most, .slice ca cn cc, .int .i64 iss, .int .i64 ast, .slice ba bn bc] 25) = w1 := ⟨_, rfl⟩
  have HX : Hid (Bx w1 w.heap.size #[.int .i64 id, .int .i64 ver, .string cur, .int .i64 rat, .int .i64 least, .int .i64 most, .slice ca cn cc, .int .i64 iss, .int .i64 ast, .slice ba bn bc] 25) := by rw [← hw1]; exact Bx.new w _ _
  have HB : Hid (Below w.heap.size w w1) := by rw [← hw1]; exact below_a w _
  have HAw : Hid (∀ W, Calls Tryz.prog 4 #[] W (OkP W)) := fun W => xawake W
  by_cases h80 : 80 < xs.length
  · have hz : (80 : Int) < (xs.length : Int) := by omega
    clear hp hx h80
    go_enter Tryz.func3, Tryz.ntmps3
    go_upto_region 1 with fail
    try rw [hw1]
    clear hw1
    go_wp2_with (go_at_call 4; refine (HAw.out _).mono ?_; rintro e w2 ⟨rfl, HB2⟩)
    go_ret
    exact ⟨rfl, HB.out.trans (HB2.mono HB.out.size)⟩
  · have hz : ¬ (80 : Int) < (xs.length : Int) := by omega
    obtain ⟨bb, pp, EE, hg1, hg2⟩ := gr_both xs hx (by omega)
    have HP : Hid (∀ W, Below w1.heap.size w1 W → Rw 9 H5.its W a xs) := fun W hW => hp.below (HB.out.trans (hW.mono HB.out.size))
    have HIt : Hid (∀ W, Below w1.heap.size w1 W → Calls Tryz.prog 6 #[.slice a xs.length cap] W fun e w' => ∃ a1 c1, e = .returned (.slice a1 xs.length c1) ∧ Hid (Rw 9 H5.its w' a1 xs ∧ Below w1.heap.size w1 w' ∧ Below W.heap.size W w')) := fun W hW => (H5.xitems xs a cap W (HP.out W hW) (by omega)).mono fun e w' hh => by
      obtain ⟨v, rfl, ho, hb⟩ := hh
      obtain ⟨a1, c1, rfl, _, hr⟩ := own_rw H5.its_len ho rfl
      exact ⟨a1, c1, rfl, hr, hW.trans (hb.mono hW.size), hb⟩
    have HOv : Hid (∀ W a1 c1, Rw 9 H5.its W a1 xs ∧ Below w1.heap.size w1 W → Calls Tryz.prog 5 #[.agg #[.int .i64 id, .int .i64 ver, .string cur, .int .i64 rat, .int .i64 least, .int .i64 most, .slice ca cn cc, .int .i64 iss, .int .i64 ast, .slice ba bn bc], .int .i64 need, .slice a1 xs.length c1] W fun e w' => ∃ v, e = .returned (.tuple #[v, .int .i64 (ovE need iss ast xs)]) ∧ Hid (w'.ownsRow w1.heap.size 59 4 v (ovL need iss ast xs).length (rcs ucs (ovL need iss ast xs)) ∧ Below w1.heap.size w1 w')) := fun W a1 c1 hW => (xover xdelete ⟨id, ver, cur, rat, least, most, ca, cn, cc, iss, ast, ba, bn, bc⟩ need xs hx a1 c1 W hW.1 (by omega)).mono fun e w' hh => by
      obtain ⟨v, rfl, hz⟩ := hh
      exact ⟨v, rfl, own_mono hz.out.1 hW.2.size, hW.2.trans (hz.out.2.mono hW.2.size)⟩
    have H7 : Hid (∀ W, Below w1.heap.size w1 W → Calls Tryz.prog 7 #[.agg #[.int .i64 id, .int .i64 ver, .string cur, .int .i64 rat, .int .i64 least, .int .i64 most, .slice ca cn cc, .int .i64 iss, .int .i64 ast, .slice ba bn bc], .int .i64 need, .slice a xs.length cap] W fun e w' => ∃ a3 c3, e = .returned (.tuple #[.slice a3 (ovL need iss ast xs).length c3, .int .i64 (ovE need iss ast xs)]) ∧ Hid (Rw 4 ucs w' a3 (ovL need iss ast xs) ∧ Below W.heap.size W w')) := fun W hW => (rover ⟨id, ver, cur, rat, least, most, ca, cn, cc, iss, ast, ba, bn, bc⟩ need xs hx a cap W (HP.out W hW) (by omega)).mono fun e w' hh => by
      obtain ⟨v, rfl, hz⟩ := hh
      obtain ⟨a3, c3, rfl, _, hr⟩ := own_rw ucs_len hz.out.1 rfl
      exact ⟨a3, c3, rfl, hr, hz.out.2⟩
    have H8 : Hid (∀ W a1 c1, Rw 9 H5.its W a1 xs → Calls Tryz.prog 8 #[.slice a1 xs.length c1] W (GrP bb pp EE W)) := fun W a1 c1 hr => hg1 a1 c1 W hr
    have H9 : Hid (∀ W, Below w1.heap.size w1 W → Calls Tryz.prog 9 #[.slice a xs.length cap] W (GrP bb pp EE W)) := fun W hW => hg2 a cap W (HP.out W hW)
    have hfew := ovL_few (need := need) (i := iss) (a := ast) (xs := xs) (by omega)
    have H11 : Hid (∀ W a1 c1, Rw 4 ucs W a1 (ovL need iss ast xs) → Calls Tryz.prog 11 #[.slice a1 (ovL need iss ast xs).length c1] W fun e w' => ∃ a3 c3, e = .returned (.slice a3 (ovL need iss ast xs).length c3) ∧ Hid (Rw 4 ucs w' a3 (ovL need iss ast xs) ∧ Below W.heap.size W w')) := fun W a1 c1 hr => (xtold hr (by omega)).mono fun e w' hh => by
      obtain ⟨v, rfl, hz⟩ := hh
      obtain ⟨a3, c3, rfl, _, hr⟩ := own_rw ucs_len hz.out.1 rfl
      exact ⟨a3, c3, rfl, hr, hz.out.2⟩
    have H10 : Hid (∀ W a1 c1 a3 c3, Rw 4 ucs W a1 (ovL need iss ast xs) ∧ Rw 4 ucs W a3 (ovL need iss ast xs) → Calls Tryz.prog 10 #[.slice a1 (ovL need iss ast xs).length c1, .slice a3 (ovL need iss ast xs).length c3] W fun e w' => e = .returned (.bool true) ∧ Hid (Below W.heap.size W w')) := fun W a1 c1 a3 c3 hh => (rsame hh.1 hh.2 (by omega)).mono fun e w' h => ⟨h.1, h.2⟩
    have L25 : Hid (∀ W, Below w1.heap.size w1 W → (Instr.loadAt 25 (.pointer (some ⟨w.heap.size, 0, none⟩))).run Tryz.prog W = .ok (.agg #[.int .i64 id, .int .i64 ver, .string cur, .int .i64 rat, .int .i64 least, .int .i64 most, .slice ca cn cc, .int .i64 iss, .int .i64 ast, .slice ba bn bc]) W) := fun W hW => load25 W _ (HX.out.below hW HX.out.lt)
    clear hp hx h80 hg1 hg2 hfew HP
    go_enter Tryz.func3, Tryz.ntmps3
    go_upto_region 1 with fail
    try rw [hw1]
    clear hw1
    obtain ⟨g, hg⟩ : ∃ g, w.heap.size = g := ⟨_, rfl⟩
    rw [hg] at HX L25
    try rw [hg]
    have HGE : Hid (w.heap.size = g) := hg
    clear hg
    go_upto_region 3 with fail
    clear hz
    refine wp_region_held (S := fun W => Below w1.heap.size w1 W) (by kernel_rfl) ?_
    change wpAnyH _ _ _ _ _ 10 #[false, false, false, false, false, false, false, false, false, false] _ w1.drew
    have hS0 : Below w1.heap.size w1 w1.drew := below_drew1 w1
    refine takeR (fuel := 9) (i := 0) (v := .agg #[.int .i64 id, .int .i64 ver, .string cur, .int .i64 rat, .int .i64 least, .int .i64 most, .slice ca cn cc, .int .i64 iss, .int .i64 ast, .slice ba bn bc]) rfl (by kernel_rfl) (by kernel_rfl) (by kernel_rfl) (fun _ _ _ h => h) (Or.inl ⟨rfl, fun W hW => exl _ _ _ _ rfl (.pointer (some ⟨g, 0, none⟩)) _ rfl (L25.out W hW)⟩) hS0 ?_
    simp only [Act.put, List.setIfInBounds_toArray, List.set_cons_zero, List.set_cons_succ]
    refine takeR (fuel := 8) (i := 1) (v := .int .i64 need) rfl (by kernel_rfl) (by kernel_rfl) (by kernel_rfl) (fun _ _ _ h => h) (Or.inl ⟨rfl, fun W hW => by go_simp⟩) hS0 ?_
    simp only [Act.put, List.setIfInBounds_toArray, List.set_cons_zero, List.set_cons_succ]
    refine takeR (fuel := 7) (i := 2) (v := .slice a xs.length cap) rfl (by kernel_rfl) (by kernel_rfl) (by kernel_rfl) (fun _ _ _ h => h) (Or.inl ⟨rfl, fun W hW => by go_simp⟩) hS0 ?_
    simp only [Act.put, List.setIfInBounds_toArray, List.set_cons_zero, List.set_cons_succ]
    refine consR (fuel := 6) (i := 3) rfl (by kernel_rfl) (fun K hK => ?_)
    rw [if_pos (by rfl)]
    go_simp
    refine (HIt.out _ hS0).mono ?_
    rintro e z1 ⟨a1, c1, rfl, HI⟩
    refine hK.out _ _ HI.out.2.1 (fun hS1 => ?_)
    clear hK
    try simp only [Act.put, List.setIfInBounds_toArray, List.set_cons_zero, List.set_cons_succ]
    refine consR (fuel := 5) (i := 4) rfl (by kernel_rfl) (fun K hK => ?_)
    rw [if_pos (by rfl)]
    go_simp
    refine (HOv.out z1 a1 c1 ⟨HI.out.1, HI.out.2.1⟩).mono ?_
    rintro e z2 ⟨v1, rfl, HV⟩
    refine hK.out _ _ HV.out.2 (fun hS2 => ?_)
    clear hK
    try simp only [Act.put, List.setIfInBounds_toArray, List.set_cons_zero, List.set_cons_succ]
    refine takeR (fuel := 4) (i := 5) (v := .tuple #[v1, .int .i64 (ovE need iss ast xs)]) rfl (by kernel_rfl) (by kernel_rfl) (by kernel_rfl) (fun _ _ _ h => h) (Or.inl ⟨rfl, fun W hW => by go_simp⟩) hS2 ?_
    simp only [Act.put, List.setIfInBounds_toArray, List.set_cons_zero, List.set_cons_succ]
    refine takeR (fuel := 3) (i := 6) (v := v1) rfl (by kernel_rfl) (by kernel_rfl) (by kernel_rfl) (fun _ _ _ h => h) (Or.inl ⟨rfl, fun W hW => by go_simp⟩) hS2 ?_
    simp only [Act.put, List.setIfInBounds_toArray, List.set_cons_zero, List.set_cons_succ]
    refine takeR (fuel := 2) (i := 7) (v := .int .i64 (ovE need iss ast xs)) rfl (by kernel_rfl) (by kernel_rfl) (by kernel_rfl) (fun _ _ _ h => h) (Or.inl ⟨rfl, fun W hW => by go_simp⟩) hS2 ?_
    simp only [Act.put, List.setIfInBounds_toArray, List.set_cons_zero, List.set_cons_succ]
    refine takeR (fuel := 1) (i := 8) (v := v1) rfl (by kernel_rfl) (by kernel_rfl) (by kernel_rfl) (fun _ _ _ h => h) (Or.inl ⟨rfl, fun W hW => by go_simp⟩) hS2 ?_
    simp only [Act.put, List.setIfInBounds_toArray, List.set_cons_zero, List.set_cons_succ]
    refine takeR (fuel := 0) (i := 9) (v := .int .i64 (ovE need iss ast xs)) rfl (by kernel_rfl) (by kernel_rfl) (by kernel_rfl) (fun _ _ _ h => h) (Or.inl ⟨rfl, fun W hW => by go_simp⟩) hS2 ?_
    simp only [Act.put, List.setIfInBounds_toArray, List.set_cons_zero, List.set_cons_succ]
    refine wpAnyH_done (by kernel_rfl) ?_ _
    clear HOv L25 hS0 hS1 HI
    have HV2 := hid_in HV.out
    clear HV
    generalize ovE need iss ast xs = E at *
    generalize ovL need iss ast xs = O at *
    obtain ⟨a7, c7, rfl, _, hr7⟩ := own_rw ucs_len HV2.out.1 rfl
    have HR7 := hid_in hr7
    clear hr7 HV2
    have d0 : z2.cell? ⟨g, 0, none⟩ = some (.int .i64 id) := (HX.out.below hS2 HX.out.lt).cell 0
    have d1 : z2.cell? ⟨g, 1, none⟩ = some (.int .i64 ver) := (HX.out.below hS2 HX.out.lt).cell 1
    have d2 : z2.cell? ⟨g, 2, none⟩ = some (.string cur) := (HX.out.below hS2 HX.out.lt).cell 2
    have d3 : z2.cell? ⟨g, 3, none⟩ = some (.int .i64 rat) := (HX.out.below hS2 HX.out.lt).cell 3
    have d4 : z2.cell? ⟨g, 4, none⟩ = some (.int .i64 least) := (HX.out.below hS2 HX.out.lt).cell 4
    have d5 : z2.cell? ⟨g, 5, none⟩ = some (.int .i64 most) := (HX.out.below hS2 HX.out.lt).cell 5
    have d6 : z2.cell? ⟨g, 6, none⟩ = some (.slice ca cn cc) := (HX.out.below hS2 HX.out.lt).cell 6
    have d7 : z2.cell? ⟨g, 7, none⟩ = some (.int .i64 iss) := (HX.out.below hS2 HX.out.lt).cell 7
    have d8 : z2.cell? ⟨g, 8, none⟩ = some (.int .i64 ast) := (HX.out.below hS2 HX.out.lt).cell 8
    have d9 : z2.cell? ⟨g, 9, none⟩ = some (.slice ba bn bc) := (HX.out.below hS2 HX.out.lt).cell 9
    go_upto_region 5 with (go_at_call 7; refine (H7.out z2 hS2).mono ?_; clear H7; rintro e z3 ⟨a8, c8, rfl, HZ3⟩)
    clear d0 d1 d2 d3 d4 d5 d6 d7 d8 d9
    have HS3 : Hid (Below w1.heap.size w1 z3) := hS2.trans (HZ3.out.2.mono hS2.size)
    have HR37 : Hid (Rw 4 ucs z3 a7 O ∧ Rw 4 ucs z3 a8 O) := ⟨HR7.out.below HZ3.out.2, HZ3.out.1⟩
    clear HR7 HZ3 hS2 HX
    go_wp2_with (first | (go_at_call 6; refine (HIt.out z3 HS3.out).mono ?_; clear HIt; rintro e z4 ⟨a4, c4, rfl, HI4⟩; have HR4 : Hid (Rw 4 ucs z4 a7 O ∧ Rw 4 ucs z4 a8 O) := ⟨HR37.out.1.below HI4.out.2.2, HR37.out.2.below HI4.out.2.2⟩) | (go_at_call 8; refine (H8.out z4 a4 c4 HI4.out.1).mono ?_; clear H8; rintro e z5 ⟨rfl, HB5⟩; have HS5 : Hid (Below w1.heap.size w1 z5) := HI4.out.2.1.trans (HB5.out.mono HI4.out.2.1.size); have HR5 : Hid (Rw 4 ucs z5 a7 O ∧ Rw 4 ucs z5 a8 O) := ⟨HR4.out.1.below HB5.out, HR4.out.2.below HB5.out⟩; clear HR4 HI4) | (go_at_call 9; refine (H9.out z5 HS5.out).mono ?_; clear H9; rintro e z6 ⟨rfl, HB6⟩; have HS6 : Hid (Below w1.heap.size w1 z6) := HS5.out.trans (HB6.out.mono HS5.out.size); have HR6 : Hid (Rw 4 ucs z6 a7 O ∧ Rw 4 ucs z6 a8 O) := ⟨HR5.out.1.below HB6.out, HR5.out.2.below HB6.out⟩; clear HR5 HS5) | (go_at_call 11; refine (H11.out z6 a7 c7 HR6.out.1).mono ?_; clear H11; rintro e z7 ⟨a9, c9, rfl, HZ7⟩) | (go_at_call 10; refine (H10.out z7 a9 c9 a8 c8 ⟨HZ7.out.1, HR6.out.2.below HZ7.out.2⟩).mono ?_; clear H10; rintro e z8 ⟨rfl, HB8⟩) | (go_at_call 4; refine (HAw.out z8).mono ?_; clear HAw; rintro e z9 ⟨rfl, HB9⟩))
    go_ret
    have h7 := HS6.out.trans (HZ7.out.2.mono HS6.out.size)
    have h8 := h7.trans (HB8.out.mono h7.size)
    have h9 := h8.trans (HB9.mono h8.size)
    exact ⟨rfl, HB.out.trans (h9.mono HB.out.size)⟩
end Go.Proofs.YtdfadcbchiogjaaGreat
