/- layer 17: law Ranks -/
import Derived.Test.YtheikjjehidagaaRO
import Derived.WalkKit
import Derived.ProofKit
import Derived.Handy
import Derived.WalkLawsBesides
import Derived.WalkSpells
import Derived.BigQuiet
import Derived.BigCall
import Derived.Deep.QuietTactic
import Derived.Deep.Light
import Derived.Deep.OwnRows
import Derived.Laws.AppendOwnNone
import Derived.Laws.Strings3
import Derived.Laws.RangeAny
import Derived.Deep.RegionWith
import Derived.Lib.BitFns
import Derived.Lib.Walk
import Derived.Lib.Strings
import Derived.Lib.OthersKept
import Derived.Deep.CutBlock
import Derived.Deep.DeepCutAuto
import Derived.Deep.LoopGhost
import Derived.Deep.RegionHeld3
import Derived.Lib.SmallJoins
import Derived.Maps.AppendAt
import Derived.Laws.IdiomStrings
import Derived.Lib.AppendZeros
import Derived.Deep.WholeRow
import Derived.Laws.BitsAllLaws
import Derived.Lib.ConvBytes
import Derived.Deep.RegionLaw
import Derived.Maps.OwnSet
import Derived.Maps.OwnOps
import Derived.Maps.RangeWalk
import Derived.Maps.Ext
import Derived.DeepKeys4
import Derived.Laws.StructEq
import Derived.Deep.MidRow
import Derived.Lib.Bytealg
import Derived.Lib.AppendZerosOnto
import Derived.Laws.MakeOwn
import Derived.Deep.Upon
import Derived.Sort.KeysCollected
import Derived.Shelf.SlSortCmp.KitK
namespace Go.Proofs.Ytheikjjehidagaa
open Go.RowKit
set_option linter.unusedVariables false
set_option linter.unusedSimpArgs false
open H5 (It its its_len its_one)
set_option maxRecDepth 100000
section
variable [Inhabited It]
set_option maxHeartbeats 16000000 in
theorem lranks_nil (a : Option Addr) (cap : Nat) (w : World) (h : Rw 9 its w a []) : Calls Try.prog 6 #[.slice a 0 cap] w (BbP true w) := by
  have HAw : Hid (∀ W, Below w.heap.size w W → Calls Try.prog 8 #[] W fun e w' => e = .returned (.bool true) ∧ Hid (Below w.heap.size w w')) := fun W hb => (xawake W).mono fun e w' hh => ⟨hh.1, hb.trans (hh.2.mono hb.size)⟩
  have H24 : Hid (Calls Try.prog 24 #[.slice a 0 cap] w fun e w' => ∃ a1 c1, e = .returned (.slice a1 0 c1) ∧ Hid (Rw 9 its w' a1 (SS.rnk ltI []) ∧ Below w.heap.size w w')) := (rrank [] (Nat.zero_le _) a cap w h).mono fun e w' hh => hh
  have Ha := hid_in (ri_calls [] (Nat.zero_le _) a cap w h)
  have Hb : Hid (∀ W, Below w.heap.size w W → Calls Try.prog 26 #[.slice a 0 cap] W fun e w' => ∃ a2 c2, e = .returned (.slice a2 0 c2) ∧ Hid (Rw 9 its w' a2 [] ∧ Below w.heap.size w w' ∧ Below W.heap.size W w')) := Ha.out
  have Hc := hid_in Hb.out
  have Hd := hid_in Hb.out
  have HPn : Hid (∀ W ad, Rw 2 lcs W ad (mrg [] (lotsOf [])).1) := fun W ad => Rw.nil
  have HMn : Hid (∀ W ad, Rw 9 its W ad (SS.rnk ltI [])) := fun W ad => Rw.nil
  have H25 : Hid (∀ W a2 c2, Rw 9 its W a2 [] ∧ Below w.heap.size w W → Calls Try.prog 25 #[.slice a2 0 c2] W fun e w' => e = .returned (.tuple #[.agg #[.string ⟨#[]⟩, .int .i64 0, .string ⟨#[]⟩, .int .i64 0, .int .i64 0, .int .i64 0, .string ⟨#[]⟩, .int .i64 0, .int .i64 0], .bool false]) ∧ Hid (Below w.heap.size w w')) := fun W a2 c2 hb => (rw_calls [] (Nat.zero_le _) (fun x hx => (List.not_mem_nil hx).elim) w W a2 c2 hb).mono fun e w' hh => hh
  have H27 := hid_in (ro_calls [] (Nat.zero_le _) (fun x hx => (List.not_mem_nil hx).elim) w)
  have H28 := hid_in (rp_calls [] (Nat.zero_le _) a cap w h)
  have H30 := hid_in (rk_calls [] (Nat.zero_le _) (fun x hx => (List.not_mem_nil hx).elim) w)
  have H29 := hid_in (rs_calls (SS.rnk ltI []) (Nat.zero_le _) w)
  have H13 := hid_in (rl_calls (mrg [] (lotsOf [])).1 (by decide) w)
  clear h Ha
  go_enter Try.func6, Try.ntmps6
  go_upto_region 5 with (first | (go_at_call 24; refine H24.out.mono ?_; clear H24; rintro e w1 ⟨a1, c1, rfl, HM⟩) | (go_at_call 26; refine (Hb.out w1 HM.out.2).mono ?_; clear Hb; rintro e w2 ⟨a2, c2, rfl, HI⟩) | (go_at_call 25; refine (H25.out w2 a2 c2 ⟨HI.out.1, HI.out.2.1⟩).mono ?_; clear H25 HI; rintro e w3 ⟨rfl, HB3⟩))
  obtain ⟨g, hg⟩ : ∃ g, w3.heap.size = g := ⟨_, rfl⟩
  obtain ⟨wa, hwa⟩ : ∃ wa, w3.alloc (.cells #[.string ⟨#[]⟩, .int .i64 0, .string ⟨#[]⟩, .int .i64 0, .int .i64 0, .int .i64 0, .string ⟨#[]⟩, .int .i64 0, .int .i64 0] 47) = wa := ⟨_, rfl⟩
  have HX : Hid (Bx wa g #[.string ⟨#[]⟩, .int .i64 0, .string ⟨#[]⟩, .int .i64 0, .int .i64 0, .int .i64 0, .string ⟨#[]⟩, .int .i64 0, .int .i64 0] 47) := by rw [← hwa, ← hg]; exact Bx.new _ _ _
  have HBa : Hid (Below w.heap.size w wa) := by rw [← hwa]; exact HB3.out.trans ((below_a _ _).mono HB3.out.size)
  have HGW : Hid (w.heap.size ≤ g) := by rw [← hg]; exact HB3.out.size
  try rw [hwa]
  try rw [hg]
  clear hwa hg HB3
  go_upto_region 7 with (first | (go_at_call 26; refine (Hc.out wa HBa.out).mono ?_; clear Hc; rintro e w4 ⟨a4, c4, rfl, HI⟩) | (go_at_call 27; refine (H27.out w4 a4 c4 ⟨HI.out.1, HI.out.2.1⟩).mono ?_; clear H27; have HX4 := hid_in (HX.out.below HI.out.2.2 HX.out.lt); clear HI; rintro e w5 ⟨a5, c5, rfl, HP⟩) | (go_at_call 28; refine (H28.out w5 HP.out.2.1).mono ?_; clear H28; have HX5 := hid_in (HX4.out.below HP.out.2.2 HX4.out.lt); rintro e w6 ⟨a6, c6, rfl, HQ⟩))
  have HW : Hid (Below w.heap.size w w6 ∧ Bx w6 g #[.string ⟨#[]⟩, .int .i64 0, .string ⟨#[]⟩, .int .i64 0, .int .i64 0, .int .i64 0, .string ⟨#[]⟩, .int .i64 0, .int .i64 0] 47) := ⟨HQ.out.2.1, HX5.out.below HQ.out.2.2 HX5.out.lt⟩
  obtain ⟨wb, hwb⟩ : ∃ wb, wb = w6 := ⟨_, rfl⟩
  rw [← hwb] at HQ HW ⊢
  have HPQ : Hid (∀ W, Below wb.heap.size wb W → Rw 2 lcs W a6 (mrg [] (lotsOf [])).fst) := fun W hb => HQ.out.1.below hb
  refine wp_region_held (S := fun W => Below w.heap.size w W ∧ Bx W g #[.string ⟨#[]⟩, .int .i64 0, .string ⟨#[]⟩, .int .i64 0, .int .i64 0, .int .i64 0, .string ⟨#[]⟩, .int .i64 0, .int .i64 0] 47) (by kernel_rfl) ?_
  change wpAnyH _ _ _ _ _ 28 #[false, false, false, false, false, false, false, false, false, false, false, false, false, false, false, false, false, false, false, false, false, false, false, false, false, false, false, false] _ wb.drew
  have hS0 : Below w.heap.size w wb.drew ∧ Bx wb.drew g #[.string ⟨#[]⟩, .int .i64 0, .string ⟨#[]⟩, .int .i64 0, .int .i64 0, .int .i64 0, .string ⟨#[]⟩, .int .i64 0, .int .i64 0] 47 := ⟨HW.out.1.trans ((below_dr wb).mono HW.out.1.size), HW.out.2.below (below_dr wb) HW.out.2.lt⟩
  refine takeR (fuel := 27) (i := 0) (v := .bool false) rfl (by kernel_rfl) (by kernel_rfl) (by kernel_rfl) (fun _ _ _ h => h) (Or.inl ⟨rfl, fun W hW => by go_simp⟩) hS0 ?_
  simp only [Act.put, List.setIfInBounds_toArray, List.set_cons_zero, List.set_cons_succ]
  refine takeR (fuel := 26) (i := 1) (v := .slice a 0 cap) rfl (by kernel_rfl) (by kernel_rfl) (by kernel_rfl) (fun _ _ _ h => h) (Or.inl ⟨rfl, fun W hW => by go_simp⟩) hS0 ?_
  simp only [Act.put, List.setIfInBounds_toArray, List.set_cons_zero, List.set_cons_succ]
  refine takeR (fuel := 25) (i := 2) (v := .int .i64 0) rfl (by kernel_rfl) (by kernel_rfl) (by kernel_rfl) (fun _ _ _ h => h) (Or.inl ⟨rfl, fun W hW => by go_simp⟩) hS0 ?_
  simp only [Act.put, List.setIfInBounds_toArray, List.set_cons_zero, List.set_cons_succ]
  refine takeR (fuel := 24) (i := 3) (v := .bool false) rfl (by kernel_rfl) (by kernel_rfl) (by kernel_rfl) (fun _ _ _ h => h) (Or.inl ⟨rfl, fun W hW => by go_simp⟩) hS0 ?_
  simp only [Act.put, List.setIfInBounds_toArray, List.set_cons_zero, List.set_cons_succ]
  refine takeR (fuel := 23) (i := 4) (v := .bool false) rfl (by kernel_rfl) (by kernel_rfl) (by kernel_rfl) (fun _ _ _ h => h) (Or.inl ⟨rfl, fun W hW => by go_simp⟩) hS0 ?_
  simp only [Act.put, List.setIfInBounds_toArray, List.set_cons_zero, List.set_cons_succ]
  refine takeR (fuel := 22) (i := 5) (v := .bool false) rfl (by kernel_rfl) (by kernel_rfl) (by kernel_rfl) (fun _ _ _ h => h) (Or.inl ⟨rfl, fun W hW => by go_simp⟩) hS0 ?_
  simp only [Act.put, List.setIfInBounds_toArray, List.set_cons_zero, List.set_cons_succ]
  refine takeR (fuel := 21) (i := 6) (v := .bool false) rfl (by kernel_rfl) (by kernel_rfl) (by kernel_rfl) (fun _ _ _ h => h) (Or.inl ⟨rfl, fun W hW => by go_simp⟩) hS0 ?_
  simp only [Act.put, List.setIfInBounds_toArray, List.set_cons_zero, List.set_cons_succ]
  refine takeR (fuel := 20) (i := 7) (v := .bool false) rfl (by kernel_rfl) (by kernel_rfl) (by kernel_rfl) (fun _ _ _ h => h) (Or.inl ⟨rfl, fun W hW => by go_simp⟩) hS0 ?_
  simp only [Act.put, List.setIfInBounds_toArray, List.set_cons_zero, List.set_cons_succ]
  refine takeR (fuel := 19) (i := 8) (v := undef) rfl (by kernel_rfl) (by kernel_rfl) (by kernel_rfl) (fun _ _ _ h => h) (Or.inr ⟨rfl, rfl⟩) hS0 ?_
  simp only [Act.put, List.setIfInBounds_toArray, List.set_cons_zero, List.set_cons_succ]
  refine takeR (fuel := 18) (i := 9) (v := undef) rfl (by kernel_rfl) (by kernel_rfl) (by kernel_rfl) (fun _ _ _ h => h) (Or.inr ⟨rfl, rfl⟩) hS0 ?_
  simp only [Act.put, List.setIfInBounds_toArray, List.set_cons_zero, List.set_cons_succ]
  refine takeR (fuel := 17) (i := 10) (v := undef) rfl (by kernel_rfl) (by kernel_rfl) (by kernel_rfl) (fun _ _ _ h => h) (Or.inr ⟨rfl, rfl⟩) hS0 ?_
  simp only [Act.put, List.setIfInBounds_toArray, List.set_cons_zero, List.set_cons_succ]
  refine takeR (fuel := 16) (i := 11) (v := undef) rfl (by kernel_rfl) (by kernel_rfl) (by kernel_rfl) (fun _ _ _ h => h) (Or.inr ⟨rfl, rfl⟩) hS0 ?_
  simp only [Act.put, List.setIfInBounds_toArray, List.set_cons_zero, List.set_cons_succ]
  refine takeR (fuel := 15) (i := 12) (v := undef) rfl (by kernel_rfl) (by kernel_rfl) (by kernel_rfl) (fun _ _ _ h => h) (Or.inr ⟨rfl, rfl⟩) hS0 ?_
  simp only [Act.put, List.setIfInBounds_toArray, List.set_cons_zero, List.set_cons_succ]
  refine takeR (fuel := 14) (i := 13) (v := undef) rfl (by kernel_rfl) (by kernel_rfl) (by kernel_rfl) (fun _ _ _ h => h) (Or.inr ⟨rfl, rfl⟩) hS0 ?_
  simp only [Act.put, List.setIfInBounds_toArray, List.set_cons_zero, List.set_cons_succ]
  refine takeR (fuel := 13) (i := 14) (v := undef) rfl (by kernel_rfl) (by kernel_rfl) (by kernel_rfl) (fun _ _ _ h => h) (Or.inr ⟨rfl, rfl⟩) hS0 ?_
  simp only [Act.put, List.setIfInBounds_toArray, List.set_cons_zero, List.set_cons_succ]
  refine takeR (fuel := 12) (i := 15) (v := undef) rfl (by kernel_rfl) (by kernel_rfl) (by kernel_rfl) (fun _ _ _ h => h) (Or.inr ⟨rfl, rfl⟩) hS0 ?_
  simp only [Act.put, List.setIfInBounds_toArray, List.set_cons_zero, List.set_cons_succ]
  refine takeR (fuel := 11) (i := 16) (v := undef) rfl (by kernel_rfl) (by kernel_rfl) (by kernel_rfl) (fun _ _ _ h => h) (Or.inr ⟨rfl, rfl⟩) hS0 ?_
  simp only [Act.put, List.setIfInBounds_toArray, List.set_cons_zero, List.set_cons_succ]
  refine takeR (fuel := 10) (i := 17) (v := .bool false) rfl (by kernel_rfl) (by kernel_rfl) (by kernel_rfl) (fun _ _ _ h => h) (Or.inl ⟨rfl, fun W hW => by go_simp⟩) hS0 ?_
  simp only [Act.put, List.setIfInBounds_toArray, List.set_cons_zero, List.set_cons_succ]
  refine takeR (fuel := 9) (i := 18) (v := .bool false) rfl (by kernel_rfl) (by kernel_rfl) (by kernel_rfl) (fun _ _ _ h => h) (Or.inl ⟨rfl, fun W hW => by go_simp⟩) hS0 ?_
  simp only [Act.put, List.setIfInBounds_toArray, List.set_cons_zero, List.set_cons_succ]
  refine takeR (fuel := 8) (i := 19) (v := .bool false) rfl (by kernel_rfl) (by kernel_rfl) (by kernel_rfl) (fun _ _ _ h => h) (Or.inl ⟨rfl, fun W hW => by go_simp⟩) hS0 ?_
  simp only [Act.put, List.setIfInBounds_toArray, List.set_cons_zero, List.set_cons_succ]
  refine takeR (fuel := 7) (i := 20) (v := .bool false) rfl (by kernel_rfl) (by kernel_rfl) (by kernel_rfl) (fun _ _ _ h => h) (Or.inl ⟨rfl, fun W hW => by go_simp⟩) hS0 ?_
  simp only [Act.put, List.setIfInBounds_toArray, List.set_cons_zero, List.set_cons_succ]
  refine takeR (fuel := 6) (i := 21) (v := .bool true) rfl (by kernel_rfl) (by kernel_rfl) (by kernel_rfl) (fun _ _ _ h => h) (Or.inl ⟨rfl, fun W hW => by go_simp⟩) hS0 ?_
  simp only [Act.put, List.setIfInBounds_toArray, List.set_cons_zero, List.set_cons_succ]
  refine takeR (fuel := 5) (i := 22) (v := .bool true) rfl (by kernel_rfl) (by kernel_rfl) (by kernel_rfl) (fun _ _ _ h => h) (Or.inl ⟨rfl, fun W hW => by go_simp⟩) hS0 ?_
  simp only [Act.put, List.setIfInBounds_toArray, List.set_cons_zero, List.set_cons_succ]
  refine takeR (fuel := 4) (i := 23) (v := .agg #[.string ⟨#[]⟩, .int .i64 0, .string ⟨#[]⟩, .int .i64 0, .int .i64 0, .int .i64 0, .string ⟨#[]⟩, .int .i64 0, .int .i64 0]) rfl (by kernel_rfl) (by kernel_rfl) (by kernel_rfl) (fun _ _ _ h => h) (Or.inl ⟨rfl, fun W hW => exl _ _ _ _ rfl (.pointer (some ⟨g, 0, none⟩)) _ rfl (load47 W g hW.2)⟩) hS0 ?_
  simp only [Act.put, List.setIfInBounds_toArray, List.set_cons_zero, List.set_cons_succ]
  refine takeR (fuel := 3) (i := 24) (v := .agg #[.string ⟨#[]⟩, .int .i64 0, .string ⟨#[]⟩, .int .i64 0, .int .i64 0, .int .i64 0, .string ⟨#[]⟩, .int .i64 0, .int .i64 0]) rfl (by kernel_rfl) (by kernel_rfl) (by kernel_rfl) (fun _ _ _ h => h) (Or.inl ⟨rfl, fun W hW => by go_simp⟩) hS0 ?_
  simp only [Act.put, List.setIfInBounds_toArray, List.set_cons_zero, List.set_cons_succ]
  refine takeR (fuel := 2) (i := 25) (v := .bool false) rfl (by kernel_rfl) (by kernel_rfl) (by kernel_rfl) (fun _ _ _ h => h) (Or.inl ⟨rfl, fun W hW => by go_simp⟩) hS0 ?_
  simp only [Act.put, List.setIfInBounds_toArray, List.set_cons_zero, List.set_cons_succ]
  refine takeR (fuel := 1) (i := 26) (v := .bool false) rfl (by kernel_rfl) (by kernel_rfl) (by kernel_rfl) (fun _ _ _ h => h) (Or.inl ⟨rfl, fun W hW => by go_simp⟩) hS0 ?_
  simp only [Act.put, List.setIfInBounds_toArray, List.set_cons_zero, List.set_cons_succ]
  refine takeR (fuel := 0) (i := 27) (v := .bool false) rfl (by kernel_rfl) (by kernel_rfl) (by kernel_rfl) (fun _ _ _ h => h) (Or.inl ⟨rfl, fun W hW => by go_simp⟩) hS0 ?_
  simp only [Act.put, List.setIfInBounds_toArray, List.set_cons_zero, List.set_cons_succ]
  refine wpAnyH_done (by kernel_rfl) ?_ _
  have HZ : Hid (Below w.heap.size w wb.drew) := hS0.1
  clear hS0 HW HX5 HX4 HX HPQ hwb
  go_upto_region 9 with fail
  generalize wb.drew = wz at *
  go_wp2_with (first | (go_at_call 26; refine (Hd.out wz HZ.out).mono ?_; clear Hd; rintro e w7 ⟨a7, c7, rfl, HI7⟩) | (go_at_call 30; refine (H30.out w7 a7 c7 ⟨HI7.out.1, HI7.out.2.1⟩).mono ?_; clear H30; rintro e w8 ⟨a8, c8, rfl, HK⟩) | (go_at_call 29; refine (H29.out w8 a8 c8 a1 c1 ⟨⟨HK.out.1, HMn.out _ _⟩, HK.out.2⟩).mono ?_; clear H29; rintro e w9 ⟨rfl, HB9⟩) | (go_at_call 13; refine (H13.out w9 a5 c5 a6 c6 ⟨⟨HPn.out _ _, HPn.out _ _⟩, HB9.out⟩).mono ?_; clear H13; rintro e w10 ⟨rfl, HB10⟩) | (go_at_call 8; refine (HAw.out w10 HB10.out).mono ?_; clear HAw; rintro e w11 ⟨rfl, HB11⟩))
  go_ret
  exact ⟨rfl, HB11.out⟩
end
end Go.Proofs.Ytheikjjehidagaa
