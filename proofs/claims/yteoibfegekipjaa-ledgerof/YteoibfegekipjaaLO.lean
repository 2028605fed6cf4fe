/- layer 11: law Of -/
import Derived.Test.YteoibfegekipjaaOC
import Derived.Test.YteoibfegekipjaaOD
import Derived.Test.YteoibfegekipjaaV
import Derived.WalkKit
import Derived.ProofKit
import Derived.Handy
import Derived.WalkLawsBesides
import Derived.WalkSpells
import Derived.BigQuiet
import Derived.BigCall
import Derived.Deep.QuietTactic
import Derived.Deep.Light
import Derived.Deep.OwnRows
import Derived.Laws.AppendOwnNone
import Derived.Laws.Strings3
import Derived.Laws.RangeAny
import Derived.Deep.RegionWith
import Derived.Lib.BitFns
import Derived.Lib.Walk
import Derived.Lib.Strings
import Derived.Lib.OthersKept
import Derived.Deep.CutBlock
import Derived.Deep.DeepCutAuto
import Derived.Deep.LoopGhost
import Derived.Deep.RegionHeld3
import Derived.Lib.SmallJoins
import Derived.Maps.AppendAt
import Derived.Laws.IdiomStrings
import Derived.Lib.AppendZeros
import Derived.Deep.WholeRow
import Derived.Laws.BitsAllLaws
import Derived.Lib.ConvBytes
import Derived.Deep.RegionLaw
import Derived.Maps.OwnSet
import Derived.Maps.OwnOps
import Derived.Maps.RangeWalk
import Derived.Maps.Ext
import Derived.DeepKeys4
import Derived.Laws.StructEq
import Derived.Shelf.SlSortCmp.NoneTotal
import Derived.Deep.MidRow
import Derived.Laws.MakeOwn
import Derived.Sort.OwnSorted
import Derived.Lib.SlicesCompact
import Derived.Lib.RowBridge
namespace Go.Proofs.Yteoibfegekipjaa
open Go.RowKit
set_option linter.unusedVariables false
set_option linter.unusedSimpArgs false
set_option maxRecDepth 20000
theorem pre_or (L : List Num.Bal) : ∀ n, Num.Pre L n ∨ ∃ k, k < n ∧ Num.Pre L k ∧ Num.fltAt L k ≠ 0
  | 0 => .inl (Num.Pre.zero L)
  | n + 1 => by
    rcases pre_or L n with h | ⟨k, h1, h2, h3⟩
    · by_cases c : Num.fltAt L n = 0
      · exact .inl (h.succ c)
      · exact .inr ⟨n, by omega, h, c⟩
    · exact .inr ⟨k, by omega, h2, h3⟩
theorem of_ex (L : List Num.Bal) : ∃ e, Num.OfR L e := by
  rcases pre_or L L.length with h | ⟨k, h1, h2, h3⟩
  · exact ⟨_, .inr ⟨h, rfl⟩⟩
  · exact ⟨_, .inl ⟨k, h1, h2, rfl, h3⟩⟩
set_option maxHeartbeats 16000000 in
theorem lof (L : List Num.Bal) (a : Option Addr) (cap : Nat) (w : World) (h : Bs w a L) (hsz : ∀ p ∈ L, p.1.2.2.length ≤ 140737488355328) : Calls Try.prog 4 #[.slice a L.length cap] w (BackP w) := by
  by_cases hl : 100 < L.length
  · have hl' : (100 : Int) < (L.length : Int) := by omega
    clear h
    go_enter Try.func4, Try.ntmps4
    go_wp2_with (go_at_call 10; refine (xawake w).mono ?_; rintro e wc ⟨rfl, hbc⟩)
    go_ret
    exact ⟨rfl, hbc⟩
  have hl' : ¬ (100 : Int) < (L.length : Int) := by omega
  have hlz : (L.length : Int) ≤ 100 := by omega
  have HBs : Hid (Bs w a L) := h
  have HSZ : Hid (∀ p ∈ L, p.1.2.2.length ≤ 281474976710656) := fun p hp => by have := hsz p hp; omega
  clear h hsz
  go_enter Try.func4, Try.ntmps4
  go_wp2_with fail
  go_loopw [3, 4] (fun v i wr => ∃ k : Nat, k ≤ L.length ∧ i = .int .i64 k ∧ Hid (wr.ownsRow w.heap.size 46 4 v k (bcells (L.take k)) ∧ Below w.heap.size w wr))
    (fun _ i _ => L.length - (intOf i).toNat)
  case atStart => exact ⟨0, Nat.zero_le _, rfl, World.ownsRow_nil _ _ _ _, Below.refl _ _⟩
  case round =>
    obtain ⟨k, hk, rfl, HR⟩ := hrel
    by_cases hkn : k < L.length
    · have hkz : (k : Int) < (L.length : Int) := by omega
      obtain ⟨blk, off, rfl, hbl, hcs⟩ := HBs.out (by omega)
      have hc4 := hcs k hkn
      have HT : Hid (bcells (L.take k) ++ bcs L[k] = bcells (L.take (k + 1))) := by
        unfold Hid
        rw [← List.take_append_getElem hkn]
        unfold bcells
        rw [flat_snoc]
      generalize L[k] = x at *
      obtain ⟨⟨o, b, t⟩, n⟩ := x
      obtain ⟨s, hs⟩ : ∃ s, s = S t := ⟨_, rfl⟩
      have hxs : bcs ((o, b, t), n) = [.int .i64 o, .int .i64 b, .string s, .int .i64 n] := by rw [hs]; rfl
      rw [hxs] at hc4 HT
      clear hs hxs
      have c0 : w.cell? ⟨blk, off + k * 4, none⟩ = some (.int .i64 o) := hc4 0 (by omega)
      have c1 : w.cell? ⟨blk, off + k * 4 + 1, none⟩ = some (.int .i64 b) := hc4 1 (by omega)
      have c2 : w.cell? ⟨blk, off + k * 4 + 2, none⟩ = some (.string s) := hc4 2 (by omega)
      have c3 : w.cell? ⟨blk, off + k * 4 + 3, none⟩ = some (.int .i64 n) := hc4 3 (by omega)
      clear hc4 hcs
      go_upto_region 7 with fail
      refine wp_region_held (S := fun W => Below w.heap.size w W) (by kernel_rfl) ?_
      change wpAnyH _ _ _ _ _ 16 #[false, false, false, false, false, false, false, false, false, false, false, false, false, false, false, false] _ wr.drew
      have hT0 : Below wr.heap.size wr wr.drew := ⟨rfl, rfl, rfl, Nat.le_refl _, fun _ _ => rfl⟩
      have hS0 : Below w.heap.size w wr.drew := HR.out.2.trans (hT0.mono HR.out.2.size)
      obtain ⟨v0, hv0⟩ : ∃ v, v = wr.drew := ⟨_, rfl⟩
      rw [← hv0] at hS0 hT0 ⊢
      clear hv0
      refine takeR (fuel := 15) (i := 0) (v := u3) rfl (by kernel_rfl) (by kernel_rfl) (by kernel_rfl) (fun _ _ _ h => h) (Or.inl ⟨rfl, fun W hW => by go_simp⟩) hS0 ?_
      simp only [Act.put, List.setIfInBounds_toArray, List.set_cons_zero, List.set_cons_succ]
      refine takeR (fuel := 14) (i := 1) (v := .slice (some ⟨blk, off, none⟩) L.length cap) rfl (by kernel_rfl) (by kernel_rfl) (by kernel_rfl) (fun _ _ _ h => h) (Or.inl ⟨rfl, fun W hW => by go_simp⟩) hS0 ?_
      simp only [Act.put, List.setIfInBounds_toArray, List.set_cons_zero, List.set_cons_succ]
      refine takeR (fuel := 13) (i := 2) (v := .int .i64 k) rfl (by kernel_rfl) (by kernel_rfl) (by kernel_rfl) (fun _ _ _ h => h) (Or.inl ⟨rfl, fun W hW => by go_simp⟩) hS0 ?_
      simp only [Act.put, List.setIfInBounds_toArray, List.set_cons_zero, List.set_cons_succ]
      refine takeR (fuel := 12) (i := 3) (v := .pointer (some ⟨blk, off + k * 4, none⟩)) rfl (by kernel_rfl) (by kernel_rfl) (by kernel_rfl) (fun _ _ _ h => h) (Or.inl ⟨rfl, fun W hW => by go_simp⟩) hS0 ?_
      simp only [Act.put, List.setIfInBounds_toArray, List.set_cons_zero, List.set_cons_succ]
      refine takeR (fuel := 11) (i := 4) (v := .pointer (some ⟨blk, off + k * 4, none⟩)) rfl (by kernel_rfl) (by kernel_rfl) (by kernel_rfl) (fun _ _ _ h => h) (Or.inl ⟨rfl, fun W hW => by go_simp⟩) hS0 ?_
      simp only [Act.put, List.setIfInBounds_toArray, List.set_cons_zero, List.set_cons_succ]
      refine takeR (fuel := 10) (i := 5) (v := .agg #[.int .i64 o, .int .i64 b, .string s]) rfl (by kernel_rfl) (by kernel_rfl) (by kernel_rfl) (fun _ _ _ h => h) (Or.inl ⟨rfl, fun W hW => exl _ _ _ _ rfl _ _ rfl (load42 W blk (off + k * 4) _ _ _ _ _ rfl rfl ((hW.cell (p := ⟨blk, _, none⟩) hbl).trans c0) ((hW.cell (p := ⟨blk, _, none⟩) hbl).trans c1) ((hW.cell (p := ⟨blk, _, none⟩) hbl).trans c2))⟩) hS0 ?_
      simp only [Act.put, List.setIfInBounds_toArray, List.set_cons_zero, List.set_cons_succ]
      refine takeR (fuel := 9) (i := 7) (v := .slice (some ⟨blk, off, none⟩) L.length cap) rfl (by kernel_rfl) (by kernel_rfl) (by kernel_rfl) (fun _ _ _ h => h) (Or.inl ⟨rfl, fun W hW => by go_simp⟩) hS0 ?_
      simp only [Act.put, List.setIfInBounds_toArray, List.set_cons_zero, List.set_cons_succ]
      refine takeR (fuel := 8) (i := 8) (v := .int .i64 k) rfl (by kernel_rfl) (by kernel_rfl) (by kernel_rfl) (fun _ _ _ h => h) (Or.inl ⟨rfl, fun W hW => by go_simp⟩) hS0 ?_
      simp only [Act.put, List.setIfInBounds_toArray, List.set_cons_zero, List.set_cons_succ]
      refine takeR (fuel := 7) (i := 9) (v := .pointer (some ⟨blk, off + k * 4, none⟩)) rfl (by kernel_rfl) (by kernel_rfl) (by kernel_rfl) (fun _ _ _ h => h) (Or.inl ⟨rfl, fun W hW => by go_simp⟩) hS0 ?_
      simp only [Act.put, List.setIfInBounds_toArray, List.set_cons_zero, List.set_cons_succ]
      refine takeR (fuel := 6) (i := 10) (v := .pointer (some ⟨blk, off + k * 4 + 3, none⟩)) rfl (by kernel_rfl) (by kernel_rfl) (by kernel_rfl) (fun _ _ _ h => h) (Or.inl ⟨rfl, fun W hW => by go_simp⟩) hS0 ?_
      simp only [Act.put, List.setIfInBounds_toArray, List.set_cons_zero, List.set_cons_succ]
      refine takeR (fuel := 5) (i := 11) (v := .int .i64 n) rfl (by kernel_rfl) (by kernel_rfl) (by kernel_rfl) (fun _ _ _ h => h) (Or.inl ⟨rfl, fun W hW => by have cj : W.cell? ⟨blk, off + k * 4 + 3, none⟩ = some (.int .i64 n) := (hW.cell (p := ⟨blk, _, none⟩) hbl).trans c3; go_simp⟩) hS0 ?_
      simp only [Act.put, List.setIfInBounds_toArray, List.set_cons_zero, List.set_cons_succ]
      refine consR (fuel := 4) (i := 6) rfl (by kernel_rfl) (fun K hK => ?_)
      rw [if_pos (by rfl)]
      go_simp
      refine (xof o b s v0).mono ?_
      rintro e v1 ⟨rfl, hC⟩
      have hT1 := hT0.trans (hC.mono hT0.size)
      refine hK.out _ _ (hS0.trans (hC.mono hS0.size)) (fun hS1 => ?_)
      clear hK hC
      try simp only [Act.put, List.setIfInBounds_toArray, List.set_cons_zero, List.set_cons_succ]
      refine takeR (fuel := 3) (i := 12) (v := .agg #[.int .i64 o, .int .i64 b, .string s, .int .i64 n]) rfl (by kernel_rfl) (by kernel_rfl) (by kernel_rfl) (fun _ _ _ h => h) (Or.inl ⟨rfl, fun W hW => by go_simp⟩) hS1 ?_
      simp only [Act.put, List.setIfInBounds_toArray, List.set_cons_zero, List.set_cons_succ]
      have hO2 : v1.ownsRow w.heap.size 46 4 u3 k (bcells (L.take k)) := own_below HR.out.1 hT1
      have hsz2 : w.heap.size ≤ v1.heap.size := hS1.size
      obtain ⟨v', w4, hr4, ho4, hg4⟩ := app_gen (T := 46) (Sl := 38) (k := 4) (bytes := 40) Try.underlying38 info46 rfl (by omega) [.int .i64 o, .int .i64 b, .string s, .int .i64 n] rfl (by intro u hu; simp at hu; rcases hu with rfl | rfl | rfl | rfl <;> rfl) hO2 hsz2 (by omega) (by unfold maxLen; omega)
      have hB4 : Below w.heap.size w w4 := ((hS1.alloc hsz2 _).grown hg4 (by simp; omega) (fun j hj => (hO2.lt j hj).1))
      have HO4 : Hid (w4.ownsRow w.heap.size 46 4 v' (k + 1) (bcells (L.take (k + 1))) ∧ Below w.heap.size w w4) := ⟨by rw [← HT.out]; exact ho4, hB4⟩
      refine consR (fuel := 2) (i := 13) rfl (by kernel_rfl) (fun K hK => ?_)
      rw [if_pos (by rfl)]
      go_simp
      refine hK.out _ _ (hS1.alloc hS1.size _) (fun hS3 => ?_)
      clear hK
      try simp only [Act.put, List.setIfInBounds_toArray, List.set_cons_zero, List.set_cons_succ]
      refine consR (fuel := 1) (i := 14) rfl (by kernel_rfl) (fun K hK => ?_)
      rw [if_pos (by rfl)]
      refine Lib.wp_append_run _ _ _ 38 38 rfl _ _ rfl rfl _ w4 hr4 ?_
      refine hK.out _ _ hB4 (fun hS4 => ?_)
      clear hK
      try simp only [Act.put, List.setIfInBounds_toArray, List.set_cons_zero, List.set_cons_succ]
      refine takeR (fuel := 0) (i := 15) (v := v') rfl (by kernel_rfl) (by kernel_rfl) (by kernel_rfl) (fun _ _ _ h => h) (Or.inl ⟨rfl, fun W hW => by go_simp⟩) hS4 ?_
      simp only [Act.put, List.setIfInBounds_toArray, List.set_cons_zero, List.set_cons_succ]
      refine wpAnyH_done (by kernel_rfl) ?_ _
      go_wp2_with fail
      go_roundw
      case rel => exact ⟨k + 1, by omega, by simp, HO4⟩
      case measure => simp [intOf]; omega
    · have hkz : ¬ (k : Int) < (L.length : Int) := by omega
      have hr := HR.out
      rw [show k = L.length by omega, List.take_length] at hr
      obtain ⟨ho, hbw⟩ := hr
      obtain ⟨a1, c1, e1, _, hBs1⟩ : ∃ a1 c1, u3 = .slice a1 L.length c1 ∧ L.length ≤ c1 ∧ Bs wr a1 L := by
        obtain ⟨a, cap, hv, hc, hrd⟩ := own_read ho ho.1
        refine ⟨a, cap, hv, hc, fun h0 => ?_⟩
        obtain ⟨g, hg, _, hgl, hcell⟩ := hrd h0
        refine ⟨g, 0, hg, hgl, fun i hi k hk => ?_⟩
        have h1 := flat_at bcs 4 bcs_len L i hi k hk
        have h3 : k < (bcs L[i]).length := hk
        rw [List.getElem?_eq_getElem h3] at h1 ⊢
        rw [Nat.zero_add]
        exact hcell _ _ h1
      rw [e1]
      have HOF : Hid (Calls Try.prog 18 #[.slice a1 L.length c1] wr (OfP L wr)) := xofl L (by omega) HSZ.out a1 c1 wr hBs1
      have HRO : Hid (∀ W, Below w.heap.size w W → Calls Try.prog 19 #[.slice a L.length cap] W (RoP L W)) := fun W hW => rofl L (by omega) a cap W (HBs.out.below hW)
      obtain ⟨eo, heo⟩ := of_ex L
      have HO1 : Hid (Calls Try.prog 18 #[.slice a1 L.length c1] wr fun x w5 => Hid (Below w.heap.size w w5) ∧ ((eo ≠ 0 ∧ x = .returned (.tuple #[.pointer none, .int .i64 eo])) ∨ (eo = 0 ∧ ∃ q m, x = .returned (.tuple #[.pointer (some ⟨q, 0, none⟩), .int .i64 0]) ∧ Hid (Lg w5 q m L)))) := HOF.out.mono fun x w5 hh => by
        obtain ⟨e, h1, h2, h3⟩ := hh
        obtain rfl := h1.det heo
        refine ⟨hbw.trans (h2.mono hbw.size), ?_⟩
        rcases h3 with h3 | ⟨h3, q, m, h4, _, _, h5⟩
        · exact .inl h3
        · exact .inr ⟨h3, q, m, h4, h5⟩
      have HO2 : Hid (∀ W, Below w.heap.size w W → Calls Try.prog 19 #[.slice a L.length cap] W fun x w6 => x = .returned (.int .i64 eo) ∧ Hid (Below W.heap.size W w6)) := fun W hW => (HRO.out W hW).mono fun x w6 hh => by
        obtain ⟨e, h1, h2, h3⟩ := hh
        obtain rfl := h1.det heo
        exact ⟨h3, h2⟩
      have HTS : Hid (eo = 0 → Num.Good L) := fun h0 => by
        rcases heo with ⟨i, _, _, _, h5⟩ | ⟨h1, _⟩
        · exact absurd h0 h5
        · exact Num.pre_good_all h1
      clear HR ho hbw e1 hBs1 HOF HRO heo
      by_cases he : eo = 0
      · have hg := HTS.out he
        have HO3 : Hid (Calls Try.prog 18 #[.slice a1 L.length c1] wr fun x w5 => ∃ q m, x = .returned (.tuple #[.pointer (some ⟨q, 0, none⟩), .int .i64 0]) ∧ Hid (Below w.heap.size w w5 ∧ Lg w5 q m L)) := HO1.out.mono fun x w5 hh => by
          obtain ⟨h1, h2⟩ := hh
          rcases h2 with ⟨h3, _⟩ | ⟨_, q, m, h4, h5⟩
          · exact absurd he h3
          · exact ⟨q, m, h4, h1.out, h5.out⟩
        rw [he] at HO2
        have HTL : Hid (∀ W q m, Lg W q m L → Below w.heap.size w W → Calls Try.prog 16 #[.pointer (some ⟨q, 0, none⟩)] W fun x w7 => ∃ a7 c7, x = .returned (.slice a7 L.length c7) ∧ Hid (Bs w7 a7 L ∧ Below w.heap.size w w7)) := fun W q m hL hW => (xtold q m L (by omega) HSZ.out W hL).mono fun x w7 hh => by
          obtain ⟨v, rfl, ho, hb⟩ := hh
          obtain ⟨a7, c7, rfl, _, hB⟩ := own_bs ho rfl
          exact ⟨a7, c7, rfl, hB, hW.trans (hb.mono hW.size)⟩
        have HSM : Hid (∀ W a7 c7, Bs W a7 L → Below w.heap.size w W → Calls Try.prog 15 #[.slice a7 L.length c7, .slice a L.length cap] W fun x w8 => x = .returned (.bool true) ∧ Hid (Below w.heap.size w w8)) := fun W a7 c7 hB hW => (xsame L (by omega) a7 c7 a cap W hB (HBs.out.below hW)).mono fun x w8 kk => ⟨kk.1, hW.trans (kk.2.mono hW.size)⟩
        have HAK : Hid (∀ W, Below w.heap.size w W → Calls Try.prog 10 #[] W fun x w9 => x = .returned (.bool true) ∧ Below w.heap.size w w9) := fun W hW => (xawake W).mono fun x w9 kk => ⟨kk.1, hW.trans (kk.2.mono hW.size)⟩
        clear HO1 HTS hg he
        go_wp2_with (first | (go_at_call 18; refine HO3.out.mono ?_; rintro e w5 ⟨q5, m5, rfl, HL5⟩; clear HO3) | (go_at_call 19; refine (HO2.out _ HL5.out.1).mono ?_; rintro e w6 ⟨rfl, HB6⟩; clear HO2; have HL6 : Hid (Below w.heap.size w w6 ∧ Lg w6 q5 m5 L) := ⟨HL5.out.1.trans (HB6.out.mono HL5.out.1.size), HL5.out.2.below HB6.out⟩) | (go_at_call 16; refine (HTL.out _ _ _ HL6.out.2 HL6.out.1).mono ?_; rintro e w7 ⟨a7, c7, rfl, HB7⟩; clear HTL) | (go_at_call 15; refine (HSM.out _ _ _ HB7.out.1 HB7.out.2).mono ?_; rintro e w8 ⟨rfl, HB8⟩; clear HSM) | (go_at_call 10; refine (HAK.out _ HB8.out).mono ?_; rintro e w9 ⟨rfl, hb9⟩; clear HAK))
        go_ret
        exact ⟨rfl, hb9⟩
      · have he' : (eo != 0) = true := by simp [he]
        have he2 : (eo == 0) = false := by simp [he]
        have HO3 : Hid (Calls Try.prog 18 #[.slice a1 L.length c1] wr fun x w5 => x = .returned (.tuple #[.pointer none, .int .i64 eo]) ∧ Hid (Below w.heap.size w w5)) := HO1.out.mono fun x w5 hh => by
          obtain ⟨h1, h2⟩ := hh
          rcases h2 with ⟨_, h3⟩ | ⟨h3, _⟩
          · exact ⟨h3, h1⟩
          · exact absurd h3 he
        have HAK : Hid (∀ W, Below w.heap.size w W → Calls Try.prog 10 #[] W fun x w9 => x = .returned (.bool true) ∧ Below w.heap.size w w9) := fun W hW => (xawake W).mono fun x w9 kk => ⟨kk.1, hW.trans (kk.2.mono hW.size)⟩
        clear HO1 HTS he
        go_wp2_with (first | (go_at_call 18; refine HO3.out.mono ?_; rintro e w5 ⟨rfl, HL5⟩; clear HO3) | (go_at_call 19; refine (HO2.out _ HL5.out).mono ?_; rintro e w6 ⟨rfl, HB6⟩; clear HO2; have HL6 : Hid (Below w.heap.size w w6) := HL5.out.trans (HB6.out.mono HL5.out.size)) | (go_at_call 10; refine (HAK.out _ HL6.out).mono ?_; rintro e w9 ⟨rfl, hb9⟩; clear HAK))
        go_ret
        exact ⟨rfl, hb9⟩
end Go.Proofs.Yteoibfegekipjaa
