/- layer 17: law Ranks at a list that is not empty, and in general -/
import Derived.Test.YtheikjjehidagaaRP
import Derived.WalkKit
import Derived.ProofKit
import Derived.Handy
import Derived.WalkLawsBesides
import Derived.WalkSpells
import Derived.BigQuiet
import Derived.BigCall
import Derived.Deep.QuietTactic
import Derived.Deep.Light
import Derived.Deep.OwnRows
import Derived.Laws.AppendOwnNone
import Derived.Laws.Strings3
import Derived.Laws.RangeAny
import Derived.Deep.RegionWith
import Derived.Lib.BitFns
import Derived.Lib.Walk
import Derived.Lib.Strings
import Derived.Lib.OthersKept
import Derived.Deep.CutBlock
import Derived.Deep.DeepCutAuto
import Derived.Deep.LoopGhost
import Derived.Deep.RegionHeld3
import Derived.Lib.SmallJoins
import Derived.Maps.AppendAt
import Derived.Laws.IdiomStrings
import Derived.Lib.AppendZeros
import Derived.Deep.WholeRow
import Derived.Laws.BitsAllLaws
import Derived.Lib.ConvBytes
import Derived.Deep.RegionLaw
import Derived.Maps.OwnSet
import Derived.Maps.OwnOps
import Derived.Maps.RangeWalk
import Derived.Maps.Ext
import Derived.DeepKeys4
import Derived.Laws.StructEq
import Derived.Deep.MidRow
import Derived.Lib.Bytealg
import Derived.Lib.AppendZerosOnto
import Derived.Laws.MakeOwn
import Derived.Deep.Upon
import Derived.Sort.KeysCollected
import Derived.Shelf.SlSortCmp.KitK
namespace Go.Proofs.Ytheikjjehidagaa
open Go.RowKit
set_option linter.unusedVariables false
set_option linter.unusedSimpArgs false
open H5 (It its its_len its_one)
set_option maxRecDepth 100000
set_option linter.unusedSectionVars false
theorem Rw.last {w : World} {blk off : Nat} {M : List It} {m : Nat} (h : Rw 9 its w (some ⟨blk, off, none⟩) M) (hm : M.length = m + 1) : Rw 9 its w (some ⟨blk, off + m * 9, none⟩) [M[m]'(by omega)] := by
  intro _
  obtain ⟨b, o, e, hl, hc⟩ := h (by omega)
  injection e with e
  injection e with e1 e2 e3
  subst e1 e2
  refine ⟨blk, off + m * 9, rfl, hl, fun i hi j hj => ?_⟩
  have hi0 : i = 0 := by simpa using hi
  subst hi0
  rw [show off + m * 9 + 0 * 9 + j = off + m * 9 + j by omega]
  exact hc m (by omega) j hj
theorem Rw.box {w : World} {g : Nat} {x : It} (h : Bx w g (its x).toArray 47) : Rw 9 its w (some ⟨g, 0, none⟩) [x] := by
  intro _
  refine ⟨g, 0, rfl, h.lt, fun i hi j hj => ?_⟩
  have hi0 : i = 0 := by simpa using hi
  subst hi0
  have := h.cell j
  rw [show 0 + 0 * 9 + j = j by omega]
  rw [this]
  simp
theorem mrg_small (b : List Lt) : (mrg [] b).1.length ≤ 64 := by
  by_cases h : (mrg [] b).2 = 0
  · exact (mrg_good Good.nil h).len
  · exact Nat.le_trans (Nat.le_of_eq (congrArg List.length (mrg_bad h))) (Nat.zero_le _)
section
variable [Inhabited It]
theorem rw_callsk (L : List It) (hn : L.length ≤ 1000) (hs : ∀ x ∈ L, smI x) (w : World) {m : Nat} (hm : (SS.rnk ltI L).length = m + 1) : ∀ W a2 c2, Rw 9 its W a2 L ∧ Below w.heap.size w W → Calls Try.prog 25 #[.slice a2 L.length c2] W fun e w' => e = .returned (.tuple #[.agg (its ((SS.rnk ltI L)[m]'(by omega))).toArray, .bool true]) ∧ Hid (Below w.heap.size w w' ∧ Below W.heap.size W w') := fun W a2 c2 hb =>
  (xworst L (by omega) hs a2 c2 W hb.1).mono fun e w' hh => ⟨by have := hh.1; rw [lastI_at hm] at this; exact this, hb.2.trans (hh.2.mono hb.2.size), hh.2⟩
theorem rk_callsk (L : List It) (hn : L.length ≤ 1000) (hs : ∀ x ∈ L, smI x) (w : World) : ∀ W a2 c2, Rw 9 its W a2 L ∧ Below w.heap.size w W → Calls Try.prog 30 #[.slice a2 L.length c2] W fun e w' => ∃ a3 c3, e = .returned (.slice a3 L.length c3) ∧ Hid (Rw 9 its w' a3 (SS.rnk ltI L) ∧ Below w.heap.size w w' ∧ Below W.heap.size W w') := fun W a2 c2 hb =>
  (xrankl L (by omega) hs a2 c2 W hb.1).mono fun e w' hh => by
    obtain ⟨a3, c3, rfl, HZ⟩ := hh
    exact ⟨a3, c3, rfl, HZ.out.1, hb.2.trans (HZ.out.2.mono hb.2.size), HZ.out.2⟩
theorem rs_callsk (M : List It) (hn : M.length ≤ 1000) (w : World) : ∀ W a2 c2 a3 c3, (Rw 9 its W a2 M ∧ Rw 9 its W a3 M) ∧ Below w.heap.size w W → Calls Try.prog 29 #[.slice a2 M.length c2, .slice a3 M.length c3] W fun e w' => e = .returned (.bool true) ∧ Hid (Below w.heap.size w w' ∧ Below W.heap.size W w') := fun W a2 c2 a3 c3 hb =>
  (lsame M (by omega) a2 a3 c2 c3 W hb.1.1 hb.1.2).mono fun e w' hh => ⟨hh.1, hb.2.trans (hh.2.mono hb.2.size), hh.2⟩
set_option maxHeartbeats 16000000 in
theorem lranks_one (L : List It) (hl : L.length ≤ 100) (h0 : 0 < L.length) (hs : ∀ x ∈ L, smI x) (a : Option Addr) (cap : Nat) (w : World) (h : Rw 9 its w a L) : Calls Try.prog 6 #[.slice a L.length cap] w (BbP true w) := by
  obtain ⟨m, hm⟩ : ∃ m, L.length = m + 1 := ⟨L.length - 1, by omega⟩
  have hML : (SS.rnk ltI L).length = m + 1 := by rw [SS.rnk_len]; exact hm
  have HAw : Hid (∀ W, Below w.heap.size w W → Calls Try.prog 8 #[] W fun e w' => e = .returned (.bool true) ∧ Hid (Below w.heap.size w w')) := fun W hb => (xawake W).mono fun e w' hh => ⟨hh.1, hb.trans (hh.2.mono hb.size)⟩
  have H24 : Hid (Calls Try.prog 24 #[.slice a L.length cap] w fun e w' => ∃ a1 c1, e = .returned (.slice a1 L.length c1) ∧ Hid (L.length ≤ c1 ∧ Rw 9 its w' a1 (SS.rnk ltI L) ∧ Below w.heap.size w w')) := (rrankc L (by omega) a cap w h).mono fun e w' hh => hh
  have Hb := hid_in (ri_calls L (by omega) a cap w h)
  have H25 := hid_in (rw_callsk L (by omega) hs w hML)
  have H27 := hid_in (ro_calls L (by omega) hs w)
  have H28 := hid_in (rp_calls L (by omega) a cap w h)
  have H30 := hid_in (rk_callsk L (by omega) hs w)
  have H29 := hid_in (rs_callsk (SS.rnk ltI L) (by rw [SS.rnk_len]; omega) w)
  rw [SS.rnk_len] at H29
  have H13 := hid_in (rl_calls (mrg [] (lotsOf L)).1 (by have := mrg_small (lotsOf L); omega) w)
  have HL9 : Hid (∀ blk off W, Rw 9 its W (some ⟨blk, off, none⟩) (SS.rnk ltI L) → Rw 9 its W (some ⟨blk, off + m * 9, none⟩) [(SS.rnk ltI L)[m]'(by omega)]) := fun blk off W hr => hr.last hML
  have HO9 : Hid (∀ W ad, Rw 9 its W ad (SS.rnk ltI L) → ∃ blk off, ad = some ⟨blk, off, none⟩) := fun W ad hr => by
    obtain ⟨blk, off, e, _⟩ := hr (by omega)
    exact ⟨blk, off, e⟩
  have hnz : (L.length : Int) ≤ 100 := by omega
  have hn0 : (0 : Int) < (L.length : Int) := by omega
  have HNM := hid_in hm
  clear h hs h0 hl hm
  generalize L.length = n at *
  generalize (SS.rnk ltI L)[m]'(by omega) = x at *
  clear hML
  generalize SS.rnk ltI L = M at *
  generalize (mrg [] (lotsOf L)).1 = P at *
  generalize (mrg [] (lotsOf L)).2 = E at *
  obtain ⟨l, q, ⟨ai, a1, a2, am, ac⟩, p, c⟩ := x
  simp only [its] at H25
  have Hc := hid_in Hb.out
  have Hd := hid_in Hb.out
  go_enter Try.func6, Try.ntmps6
  go_upto_region 5 with (first | (go_at_call 24; refine H24.out.mono ?_; clear H24; rintro e w1 ⟨a1', c1, rfl, HM⟩) | (go_at_call 26; refine (Hb.out w1 HM.out.2.2).mono ?_; clear Hb; rintro e w2 ⟨a2', c2, rfl, HI⟩) | (go_at_call 25; refine (H25.out w2 a2' c2 ⟨HI.out.1, HI.out.2.1⟩).mono ?_; clear H25; rintro e w3 ⟨rfl, HB3⟩))
  have HR3 : Hid (Rw 9 its w3 a1' M) := (HM.out.2.1.below HI.out.2.2).below HB3.out.2
  obtain ⟨g, hg⟩ : ∃ g, w3.heap.size = g := ⟨_, rfl⟩
  obtain ⟨wa, hwa⟩ : ∃ wa, w3.alloc (.cells #[.string l, .int .i64 q, .string ai, .int .i64 a1, .int .i64 a2, .int .i64 am, .string ac, .int .i64 p, .int .i64 c] 47) = wa := ⟨_, rfl⟩
  have HX : Hid (Bx wa g #[.string l, .int .i64 q, .string ai, .int .i64 a1, .int .i64 a2, .int .i64 am, .string ac, .int .i64 p, .int .i64 c] 47) := by rw [← hwa, ← hg]; exact Bx.new _ _ _
  have HBa : Hid (Below w.heap.size w wa) := by rw [← hwa]; exact HB3.out.1.trans ((below_a _ _).mono HB3.out.1.size)
  have HRa : Hid (Rw 9 its wa a1' M) := by rw [← hwa]; exact HR3.out.below (below_a _ _)
  try rw [hwa]
  try rw [hg]
  clear hwa hg HB3 HR3 HI
  go_upto_region 7 with (first | (go_at_call 26; refine (Hc.out wa HBa.out).mono ?_; clear Hc; rintro e w4 ⟨a4, c4, rfl, HI⟩) | (go_at_call 27; refine (H27.out w4 a4 c4 ⟨HI.out.1, HI.out.2.1⟩).mono ?_; clear H27; rintro e w5 ⟨a5, c5, rfl, HP⟩) | (go_at_call 28; refine (H28.out w5 HP.out.2.1).mono ?_; clear H28; rintro e w6 ⟨a6, c6, rfl, HQ⟩))
  have HW6 : Hid (Below wa.heap.size wa w6) := (HI.out.2.2.trans (HP.out.2.2.mono HI.out.2.2.size)).trans (HQ.out.2.2.mono (HI.out.2.2.trans (HP.out.2.2.mono HI.out.2.2.size)).size)
  obtain ⟨wb, hwb⟩ : ∃ wb, wb = w6 := ⟨_, rfl⟩
  have HWb : Hid (Below w.heap.size w wb) := by rw [hwb]; exact HQ.out.2.1
  have HXb : Hid (Bx wb g #[.string l, .int .i64 q, .string ai, .int .i64 a1, .int .i64 a2, .int .i64 am, .string ac, .int .i64 p, .int .i64 c] 47) := by rw [hwb]; exact HX.out.below HW6.out HX.out.lt
  have HRb : Hid (Rw 9 its wb a1' M) := by rw [hwb]; exact HRa.out.below HW6.out
  have HPb : Hid (Rw 2 lcs wb a5 P) := by rw [hwb]; exact HP.out.1.below HQ.out.2.2
  have HQb : Hid (Rw 2 lcs wb a6 P) := by rw [hwb]; exact HQ.out.1
  obtain ⟨blk, off, rfl⟩ := HO9.out wb a1' HRb.out
  have HSA : Hid (Below wb.heap.size wb (wb.alloc (.cells #[.string l, .int .i64 q, .string ai, .int .i64 a1, .int .i64 a2, .int .i64 am, .string ac, .int .i64 p, .int .i64 c] 47)).drew) := (below_a _ _).trans ((below_dr _).mono (below_a wb (.cells #[.string l, .int .i64 q, .string ai, .int .i64 a1, .int .i64 a2, .int .i64 am, .string ac, .int .i64 p, .int .i64 c] 47)).size)
  have H29x : Hid (Calls Try.prog 29 #[.slice (some ⟨wb.heap.size, 0, none⟩) 1 1, .slice (some ⟨blk, off + m * 9, none⟩) 1 (c1 - m)] (wb.alloc (.cells #[.string l, .int .i64 q, .string ai, .int .i64 a1, .int .i64 a2, .int .i64 am, .string ac, .int .i64 p, .int .i64 c] 47)).drew fun e w' => e = .returned (.bool true) ∧ Hid (Below wb.heap.size wb w')) :=
    (lsame [⟨l, q, ⟨ai, a1, a2, am, ac⟩, p, c⟩] (by simp) _ _ 1 (c1 - m) _ (Rw.box ((Bx.new wb _ _).below (below_dr _) (by simp))) (HL9.out _ _ _ (HRb.out.below HSA.out))).mono fun e w' hh => ⟨hh.1, HSA.out.trans (hh.2.mono HSA.out.size)⟩
  have hnN : 0 < n := by have := HNM.out; omega
  have hcm : (n : Int) - 1 = (m : Int) := by have := HNM.out; omega
  have hmw : wrap64 (m : Int) = (m : Int) := wN (by have := HNM.out; omega)
  have hmK : IntKind.i64.wrap (m : Int) = (m : Int) := wK (by have := HNM.out; omega)
  have hmn : m ≤ n := by have := HNM.out; omega
  have hnm1 : n - m = 1 := by have := HNM.out; omega
  have hnc : n ≤ c1 := HM.out.1
  have hmnz : (m : Int) ≤ (n : Int) := by omega
  have hncz : (n : Int) ≤ (c1 : Int) := by omega
  have hne1 : ¬ c1 = m := by omega
  rw [← hwb]
  clear hwb HQ HP HI HM HRa HX HBa HW6
  refine wp_region_held (S := fun W => Below wb.heap.size wb W) (by kernel_rfl) ?_
  change wpAnyH _ _ _ _ _ 28 #[false, false, false, false, false, false, false, false, false, false, false, false, false, false, false, false, false, false, false, false, false, false, false, false, false, false, false, false] _ wb.drew
  have hS0 : Below wb.heap.size wb wb.drew := below_dr wb
  refine takeR (fuel := 27) (i := 0) (v := .bool true) rfl (by kernel_rfl) (by kernel_rfl) (by kernel_rfl) (fun _ _ _ h => h) (Or.inl ⟨rfl, fun W hW => by go_simp⟩) hS0 ?_
  simp only [Act.put, List.setIfInBounds_toArray, List.set_cons_zero, List.set_cons_succ]
  refine takeR (fuel := 26) (i := 1) (v := .slice a n cap) rfl (by kernel_rfl) (by kernel_rfl) (by kernel_rfl) (fun _ _ _ h => h) (Or.inl ⟨rfl, fun W hW => by go_simp⟩) hS0 ?_
  simp only [Act.put, List.setIfInBounds_toArray, List.set_cons_zero, List.set_cons_succ]
  refine takeR (fuel := 25) (i := 2) (v := .int .i64 n) rfl (by kernel_rfl) (by kernel_rfl) (by kernel_rfl) (fun _ _ _ h => h) (Or.inl ⟨rfl, fun W hW => by go_simp⟩) hS0 ?_
  simp only [Act.put, List.setIfInBounds_toArray, List.set_cons_zero, List.set_cons_succ]
  refine takeR (fuel := 24) (i := 3) (v := .bool true) rfl (by kernel_rfl) (by kernel_rfl) (by kernel_rfl) (fun _ _ _ h => h) (Or.inl ⟨rfl, fun W hW => by go_simp⟩) hS0 ?_
  simp only [Act.put, List.setIfInBounds_toArray, List.set_cons_zero, List.set_cons_succ]
  refine takeR (fuel := 23) (i := 4) (v := .bool false) rfl (by kernel_rfl) (by kernel_rfl) (by kernel_rfl) (fun _ _ _ h => h) (Or.inl ⟨rfl, fun W hW => by go_simp⟩) hS0 ?_
  simp only [Act.put, List.setIfInBounds_toArray, List.set_cons_zero, List.set_cons_succ]
  refine takeR (fuel := 22) (i := 5) (v := .bool false) rfl (by kernel_rfl) (by kernel_rfl) (by kernel_rfl) (fun _ _ _ h => h) (Or.inl ⟨rfl, fun W hW => by go_simp⟩) hS0 ?_
  simp only [Act.put, List.setIfInBounds_toArray, List.set_cons_zero, List.set_cons_succ]
  refine takeR (fuel := 21) (i := 6) (v := .bool true) rfl (by kernel_rfl) (by kernel_rfl) (by kernel_rfl) (fun _ _ _ h => h) (Or.inl ⟨rfl, fun W hW => by go_simp⟩) hS0 ?_
  simp only [Act.put, List.setIfInBounds_toArray, List.set_cons_zero, List.set_cons_succ]
  refine takeR (fuel := 20) (i := 7) (v := .bool true) rfl (by kernel_rfl) (by kernel_rfl) (by kernel_rfl) (fun _ _ _ h => h) (Or.inl ⟨rfl, fun W hW => by go_simp⟩) hS0 ?_
  simp only [Act.put, List.setIfInBounds_toArray, List.set_cons_zero, List.set_cons_succ]
  refine takeR (fuel := 19) (i := 8) (v := .agg #[.string l, .int .i64 q, .string ai, .int .i64 a1, .int .i64 a2, .int .i64 am, .string ac, .int .i64 p, .int .i64 c]) rfl (by kernel_rfl) (by kernel_rfl) (by kernel_rfl) (fun _ _ _ h => h) (Or.inl ⟨rfl, fun W hW => exl _ _ _ _ rfl (.pointer (some ⟨g, 0, none⟩)) _ rfl (load47 W g (HXb.out.below hW HXb.out.lt))⟩) hS0 ?_
  simp only [Act.put, List.setIfInBounds_toArray, List.set_cons_zero, List.set_cons_succ]
  refine takeR (fuel := 18) (i := 10) (v := .slice (some ⟨blk, off, none⟩) n c1) rfl (by kernel_rfl) (by kernel_rfl) (by kernel_rfl) (fun _ _ _ h => h) (Or.inl ⟨rfl, fun W hW => by go_simp⟩) hS0 ?_
  simp only [Act.put, List.setIfInBounds_toArray, List.set_cons_zero, List.set_cons_succ]
  refine takeR (fuel := 17) (i := 11) (v := .slice (some ⟨blk, off, none⟩) n c1) rfl (by kernel_rfl) (by kernel_rfl) (by kernel_rfl) (fun _ _ _ h => h) (Or.inl ⟨rfl, fun W hW => by go_simp⟩) hS0 ?_
  simp only [Act.put, List.setIfInBounds_toArray, List.set_cons_zero, List.set_cons_succ]
  refine takeR (fuel := 16) (i := 12) (v := .int .i64 n) rfl (by kernel_rfl) (by kernel_rfl) (by kernel_rfl) (fun _ _ _ h => h) (Or.inl ⟨rfl, fun W hW => by go_simp⟩) hS0 ?_
  simp only [Act.put, List.setIfInBounds_toArray, List.set_cons_zero, List.set_cons_succ]
  refine takeR (fuel := 15) (i := 13) (v := .int .i64 m) rfl (by kernel_rfl) (by kernel_rfl) (by kernel_rfl) (fun _ _ _ h => h) (Or.inl ⟨rfl, fun W hW => by go_simp⟩) hS0 ?_
  simp only [Act.put, List.setIfInBounds_toArray, List.set_cons_zero, List.set_cons_succ]
  refine takeR (fuel := 14) (i := 14) (v := .slice (some ⟨blk, off + m * 9, none⟩) 1 (c1 - m)) rfl (by kernel_rfl) (by kernel_rfl) (by kernel_rfl) (fun _ _ _ h => h) (Or.inl ⟨rfl, fun W hW => by go_simp⟩) hS0 ?_
  simp only [Act.put, List.setIfInBounds_toArray, List.set_cons_zero, List.set_cons_succ]
  refine consR (fuel := 13) (i := 9) rfl (by kernel_rfl) (fun K hK => ?_)
  rw [if_pos (by rfl)]
  go_simp
  refine hK.out _ _ HSA.out (fun hS1 => ?_)
  clear hK
  try simp only [Act.put, List.setIfInBounds_toArray, List.set_cons_zero, List.set_cons_succ]
  refine consR (fuel := 12) (i := 15) rfl (by kernel_rfl) (fun K hK => ?_)
  rw [if_pos (by rfl)]
  go_simp
  refine H29x.out.mono ?_
  rintro x v1 ⟨rfl, HV1⟩
  refine hK.out _ _ HV1.out (fun hS2 => ?_)
  clear hK
  try simp only [Act.put, List.setIfInBounds_toArray, List.set_cons_zero, List.set_cons_succ]
  refine takeR (fuel := 11) (i := 16) (v := .bool false) rfl (by kernel_rfl) (by kernel_rfl) (by kernel_rfl) (fun _ _ _ h => h) (Or.inl ⟨rfl, fun W hW => by go_simp⟩) hS2 ?_
  simp only [Act.put, List.setIfInBounds_toArray, List.set_cons_zero, List.set_cons_succ]
  refine takeR (fuel := 10) (i := 17) (v := .bool false) rfl (by kernel_rfl) (by kernel_rfl) (by kernel_rfl) (fun _ _ _ h => h) (Or.inl ⟨rfl, fun W hW => by go_simp⟩) hS2 ?_
  simp only [Act.put, List.setIfInBounds_toArray, List.set_cons_zero, List.set_cons_succ]
  refine takeR (fuel := 9) (i := 18) (v := .bool false) rfl (by kernel_rfl) (by kernel_rfl) (by kernel_rfl) (fun _ _ _ h => h) (Or.inl ⟨rfl, fun W hW => by go_simp⟩) hS2 ?_
  simp only [Act.put, List.setIfInBounds_toArray, List.set_cons_zero, List.set_cons_succ]
  refine takeR (fuel := 8) (i := 19) (v := .bool false) rfl (by kernel_rfl) (by kernel_rfl) (by kernel_rfl) (fun _ _ _ h => h) (Or.inl ⟨rfl, fun W hW => by go_simp⟩) hS2 ?_
  simp only [Act.put, List.setIfInBounds_toArray, List.set_cons_zero, List.set_cons_succ]
  refine takeR (fuel := 7) (i := 20) (v := .bool true) rfl (by kernel_rfl) (by kernel_rfl) (by kernel_rfl) (fun _ _ _ h => h) (Or.inl ⟨rfl, fun W hW => by go_simp⟩) hS2 ?_
  simp only [Act.put, List.setIfInBounds_toArray, List.set_cons_zero, List.set_cons_succ]
  refine takeR (fuel := 6) (i := 21) (v := .bool false) rfl (by kernel_rfl) (by kernel_rfl) (by kernel_rfl) (fun _ _ _ h => h) (Or.inl ⟨rfl, fun W hW => by go_simp⟩) hS2 ?_
  simp only [Act.put, List.setIfInBounds_toArray, List.set_cons_zero, List.set_cons_succ]
  refine takeR (fuel := 5) (i := 22) (v := .bool false) rfl (by kernel_rfl) (by kernel_rfl) (by kernel_rfl) (fun _ _ _ h => h) (Or.inl ⟨rfl, fun W hW => by go_simp⟩) hS2 ?_
  simp only [Act.put, List.setIfInBounds_toArray, List.set_cons_zero, List.set_cons_succ]
  refine takeR (fuel := 4) (i := 23) (v := undef) rfl (by kernel_rfl) (by kernel_rfl) (by kernel_rfl) (fun _ _ _ h => h) (Or.inr ⟨rfl, rfl⟩) hS2 ?_
  simp only [Act.put, List.setIfInBounds_toArray, List.set_cons_zero, List.set_cons_succ]
  refine takeR (fuel := 3) (i := 24) (v := undef) rfl (by kernel_rfl) (by kernel_rfl) (by kernel_rfl) (fun _ _ _ h => h) (Or.inr ⟨rfl, rfl⟩) hS2 ?_
  simp only [Act.put, List.setIfInBounds_toArray, List.set_cons_zero, List.set_cons_succ]
  refine takeR (fuel := 2) (i := 25) (v := undef) rfl (by kernel_rfl) (by kernel_rfl) (by kernel_rfl) (fun _ _ _ h => h) (Or.inr ⟨rfl, rfl⟩) hS2 ?_
  simp only [Act.put, List.setIfInBounds_toArray, List.set_cons_zero, List.set_cons_succ]
  refine takeR (fuel := 1) (i := 26) (v := .bool false) rfl (by kernel_rfl) (by kernel_rfl) (by kernel_rfl) (fun _ _ _ h => h) (Or.inl ⟨rfl, fun W hW => by go_simp⟩) hS2 ?_
  simp only [Act.put, List.setIfInBounds_toArray, List.set_cons_zero, List.set_cons_succ]
  refine takeR (fuel := 0) (i := 27) (v := .bool false) rfl (by kernel_rfl) (by kernel_rfl) (by kernel_rfl) (fun _ _ _ h => h) (Or.inl ⟨rfl, fun W hW => by go_simp⟩) hS2 ?_
  simp only [Act.put, List.setIfInBounds_toArray, List.set_cons_zero, List.set_cons_succ]
  refine wpAnyH_done (by kernel_rfl) ?_ _
  have HZ : Hid (Below wb.heap.size wb v1) := HV1.out
  have HZw : Hid (Below w.heap.size w v1) := HWb.out.trans (HZ.out.mono HWb.out.size)
  have HRz : Hid (Rw 9 its v1 (some ⟨blk, off, none⟩) M) := HRb.out.below HZ.out
  have HPz : Hid (Rw 2 lcs v1 a5 P) := HPb.out.below HZ.out
  have HQz : Hid (Rw 2 lcs v1 a6 P) := HQb.out.below HZ.out
  clear hS0 hS1 hS2 HXb HRb HPb HQb HV1 HSA H29x hnN HZ HWb hcm hmw hmK hmn hnm1 hnc hmnz hncz hne1
  go_upto_region 9 with fail
  go_wp2_with (first | (go_at_call 26; refine (Hd.out v1 HZw.out).mono ?_; clear Hd; rintro e w7 ⟨a7, c7, rfl, HI7⟩) | (go_at_call 30; refine (H30.out w7 a7 c7 ⟨HI7.out.1, HI7.out.2.1⟩).mono ?_; clear H30; have HR8 := hid_in (HRz.out.below HI7.out.2.2); have HP8 := hid_in (HPz.out.below HI7.out.2.2); have HQ8 := hid_in (HQz.out.below HI7.out.2.2); rintro e w8 ⟨a8, c8, rfl, HK⟩) | (go_at_call 29; refine (H29.out w8 a8 c8 (some ⟨blk, off, none⟩) c1 ⟨⟨HK.out.1, HR8.out.below HK.out.2.2⟩, HK.out.2.1⟩).mono ?_; clear H29; have HP9 := hid_in (HP8.out.below HK.out.2.2); have HQ9 := hid_in (HQ8.out.below HK.out.2.2); rintro e w9 ⟨rfl, HB9⟩) | (go_at_call 13; refine (H13.out w9 a5 c5 a6 c6 ⟨⟨HP9.out.below HB9.out.2, HQ9.out.below HB9.out.2⟩, HB9.out.1⟩).mono ?_; clear H13; rintro e w10 ⟨rfl, HB10⟩) | (go_at_call 8; refine (HAw.out w10 HB10.out).mono ?_; clear HAw; rintro e w11 ⟨rfl, HB11⟩))
  go_ret
  exact ⟨rfl, HB11.out⟩
theorem lranks (L : List It) (hs : ∀ x ∈ L, smI x) (a : Option Addr) (cap : Nat) (w : World) (h : Rw 9 its w a L) : Calls Try.prog 6 #[.slice a L.length cap] w (BbP true w) := by
  by_cases hb : 100 < L.length
  · exact lranks_many L a cap w hb
  · by_cases h0 : 0 < L.length
    · exact lranks_one L (by omega) h0 hs a cap w h
    · have e : L = [] := List.length_eq_zero_iff.1 (by omega)
      subst e
      exact lranks_nil a cap w h
end
end Go.Proofs.Ytheikjjehidagaa
