/- layer 11: law Tells -/
import Derived.Test.YteoibfegekipjaaCV
import Derived.Test.YteoibfegekipjaaCW
import Derived.Test.YteoibfegekipjaaAG
import Derived.Test.YteoibfegekipjaaY
import Derived.WalkKit
import Derived.ProofKit
import Derived.Handy
import Derived.WalkLawsBesides
import Derived.WalkSpells
import Derived.BigQuiet
import Derived.BigCall
import Derived.Deep.QuietTactic
import Derived.Deep.Light
import Derived.Deep.OwnRows
import Derived.Laws.AppendOwnNone
import Derived.Laws.Strings3
import Derived.Laws.RangeAny
import Derived.Deep.RegionWith
import Derived.Lib.BitFns
import Derived.Lib.Walk
import Derived.Lib.Strings
import Derived.Lib.OthersKept
import Derived.Deep.CutBlock
import Derived.Deep.DeepCutAuto
import Derived.Deep.LoopGhost
import Derived.Deep.RegionHeld3
import Derived.Lib.SmallJoins
import Derived.Maps.AppendAt
import Derived.Laws.IdiomStrings
import Derived.Lib.AppendZeros
import Derived.Deep.WholeRow
import Derived.Laws.BitsAllLaws
import Derived.Lib.ConvBytes
import Derived.Deep.RegionLaw
import Derived.Maps.OwnSet
import Derived.Maps.OwnOps
import Derived.Maps.RangeWalk
import Derived.Maps.Ext
import Derived.DeepKeys4
import Derived.Laws.StructEq
import Derived.Shelf.SlSortCmp.NoneTotal
import Derived.Deep.MidRow
import Derived.Laws.MakeOwn
import Derived.Sort.OwnSorted
import Derived.Lib.SlicesCompact
import Derived.Lib.RowBridge
namespace Go.Proofs.Yteoibfegekipjaa
open Go.RowKit
set_option linter.unusedVariables false
set_option linter.unusedSimpArgs false
set_option maxRecDepth 20000
theorem i64_wrap (x : Int) : IntKind.i64.wrap x = wrap64 x := by unfold wrap64; exact IntKind.wrap_i64 _
set_option maxHeartbeats 16000000 in
theorem ltells (l : List (List Ex)) (a : Option Addr) (cap : Nat) (o b : Int) (s : ByteArray) (own : Int) (th : ByteArray) (w : World) (h : Pd w (.slice a l.length cap) l) (wo : Rng o) (wb : Rng b) (ws : s.size ≤ 140737488351232) : Calls Try.prog 5 #[.slice a l.length cap, .agg #[.int .i64 o, .int .i64 b, .string s], .int .i64 own, .string th] w (BackP w) := by
  obtain ⟨w1, hw1⟩ : ∃ w1, w1 = w.alloc (.cells #[.int .i64 o, .int .i64 b, .string s] 42) := ⟨_, rfl⟩
  have HW1 : Hid (w.alloc (.cells #[.int .i64 o, .int .i64 b, .string s] 42) = w1) := hw1.symm
  have hB1 : Below w.heap.size w w1 := by rw [hw1]; exact (Below.refl _ w).alloc (Nat.le_refl _) _
  have hX1 : Bx w1 w.heap.size #[.int .i64 o, .int .i64 b, .string s] 42 := by rw [hw1]; exact Bx.new w _ _
  have HB1 : Hid (∀ W, Below w1.heap.size w1 W → Below w.heap.size w W) := fun W hW => hB1.trans (hW.mono hB1.size)
  have hWa : Wa (o, b, s.toList) := ⟨wo.wf, wb.wf, by rw [size_toList]; unfold maxLen; omega⟩
  have hP1 : Pd w1 (.slice a l.length cap) l := by
    obtain ⟨a', c', e0, hc, hE⟩ := h
    refine ⟨a', c', e0, hc, fun h0 => ?_⟩
    obtain ⟨blk, off, h1, h2, h3⟩ := hE h0
    refine ⟨blk, off, h1, Nat.lt_of_lt_of_le h2 hB1.size, fun i hi => ?_⟩
    obtain ⟨ai, ci, k1, k2, k3⟩ := h3 i hi
    exact ⟨ai, ci, (hB1.cell (p := ⟨blk, _, none⟩) h2).trans k1, k2, es_below k3.es hB1, k3.wx, k3.len⟩
  have HS0 := xshort l a cap w1 hP1
  by_cases hd : l.length ≤ 40 ∧ lens l ≤ 300
  · have HS : Hid (Calls Try.prog 9 #[.slice a l.length cap] w1 fun e w' => e = .returned (.bool true) ∧ w1 = w') := HS0.mono fun _ _ k => ⟨by rw [k.1, decide_eq_true hd], k.2⟩
    have HP : Hid (Pd w1 (.slice a l.length cap) l) := hP1
    have HD : Hid (l.length ≤ 40 ∧ lens l ≤ 300) := hd
    have hd1 : (l.length : Int) ≤ 40 := by omega
    have HX1 : Hid (Bx w1 w.heap.size #[.int .i64 o, .int .i64 b, .string s] 42) := hX1
    have HWa : Hid (Wa (o, b, s.toList)) := hWa
    have hg1 : w.heap.size < w1.heap.size := hX1.lt
    have HNW : Hid (Calls Try.prog 11 #[] w1 fun e w2 => e = .returned (.pointer (some ⟨w1.heap.size + 1, 0, none⟩)) ∧ Hid (Bk w1 w2 (w1.heap.size + 1) w1.heap.size [] [] [])) := bk_new w1
    clear HS0 h hd hP1 hw1 hB1 hX1 hWa
    go_enter Try.func5, Try.ntmps5
    go_upto_region 1 with fail
    rw [HW1.out]
    clear HW1
    go_wp2_with (first | (go_at_call 9; refine HS.out.mono ?_; rintro e w2 ⟨rfl, rfl⟩; clear HS) | (go_at_call 11; refine HNW.out.mono ?_; rintro e w2 ⟨rfl, HB2⟩; clear HNW))
    have HB2' : Hid (Bk w1 w2 (w1.heap.size + 1) w1.heap.size [] [] [(none, [])]) := HB2.out.row (fun h => by simp at h)
    clear HB2
    go_loopw [10, 11] (fun v i wr => ∃ (k : Nat) (L : List Num.Bal) (al : Option Addr) (cl : Nat), k ≤ l.length ∧ i = .int .i64 k ∧ v = .slice al L.length cl ∧ Hid (Num.Good L ∧ L.length ≤ 600 * k ∧ L.length ≤ cl ∧ ∃ rows, (al, L) ∈ rows ∧ Bk w1 wr (w1.heap.size + 1) w1.heap.size L [] rows))
      (fun _ i _ => l.length - (intOf i).toNat)
    case atStart => exact ⟨0, [], none, 0, Nat.zero_le _, rfl, rfl, Num.Good.nil, by simp, by simp, _, by simp, HB2'.out⟩
    case round =>
      obtain ⟨k, L, al, cl, hk, rfl, rfl, HR⟩ := hrel
      clear HB2'
      by_cases hkn : k < l.length
      · have hkz : (k : Int) < (l.length : Int) := by omega
        obtain ⟨a', cap', e0, hcc, hE0⟩ := HP.out
        injection e0 with e01 e02 e03
        subst e01 e03
        obtain ⟨blk, off, rfl, hbl, hcs⟩ := hE0 (by omega)
        obtain ⟨ak, ck, c0, hck, hdk⟩ := hcs k hkn
        have hx : l[k].length ≤ 300 := Nat.le_trans (lens_mem (List.getElem_mem hkn)) HD.out.2
        have hk40 : k ≤ 40 := Nat.le_trans hk HD.out.1
        obtain ⟨hg, hl6, hlc, rows, hmr, hBk⟩ := HR.out
        have r0 : wr.cell? ⟨blk, off + k, none⟩ = some (.slice ak l[k].length ck) := (hBk.b.cell (p := ⟨blk, _, none⟩) hbl).trans c0
        have HCe : Hid (∀ W, Below w1.heap.size w1 W → W.cell? ⟨blk, off + k, none⟩ = some (.slice ak l[k].length ck)) := fun W hW => (hW.cell (p := ⟨blk, _, none⟩) hbl).trans c0
        have HPo : Hid (Calls Try.prog 12 #[.slice al L.length cl, .slice ak l[k].length ck] wr fun e W1 => ∃ a' cap' n1 f1, e = .returned (.tuple #[.slice a' (Num.post L (l[k].map Ex.ent)).length cap', .int .i64 n1, .int .i64 f1]) ∧ Hid ((Num.post L (l[k].map Ex.ent)).length ≤ cap' ∧ Below wr.heap.size wr W1 ∧ Bk w1 W1 (w1.heap.size + 1) w1.heap.size L [] ((a', Num.post L (l[k].map Ex.ent)) :: rows))) := (bk_rpost hBk hg (by omega) hx hlc hmr (es_below hdk.es hBk.b)).mono fun e W1 hh => by
          obtain ⟨a2, c2, h1, h2⟩ := hh
          exact ⟨a2, c2, _, _, h1, h2⟩
        have HE : Hid (∀ W rows, Bk w1 W (w1.heap.size + 1) w1.heap.size L [] rows → Calls Try.prog 14 #[.slice ak l[k].length ck] W fun e W1 => ∃ v, e = .returned v ∧ Hid (Calls Try.prog 13 #[.pointer (some ⟨w1.heap.size + 1, 0, none⟩), v] W1 fun e W2 => ∃ v2, e = .returned v2 ∧ Hid (Bk w1 W2 (w1.heap.size + 1) w1.heap.size (Num.post L (l[k].map Ex.ent)) [] rows))) := fun W rows hW => (bk_ents' hW hg (by omega) hx (es_below hdk.es hW.b)).mono fun e W1 hh => by
          obtain ⟨v, h1, h2⟩ := hh
          exact ⟨v, h1, h2.out.mono fun e W2 kk => ⟨_, kk.1, kk.2⟩⟩
        have HG2 : Hid (Num.Good (Num.post L (l[k].map Ex.ent)) ∧ (Num.post L (l[k].map Ex.ent)).length ≤ 600 * (k + 1)) := by
          have h1 := Num.length_post L (l[k].map Ex.ent)
          rw [List.length_map] at h1
          exact ⟨hg.post _, by omega⟩
        generalize Num.post L (l[k].map Ex.ent) = M at *
        generalize l[k].length = nk at *
        clear hdk hcs hE0 e02 c0 HR hcc hg hl6 hlc hmr hBk
        go_wp2_with (first | (go_at_call 12; refine HPo.out.mono ?_; rintro e w3 ⟨a3, c3, n3, f3, rfl, HB3⟩; have r1 := HCe.out w3 HB3.out.2.2.b; clear HPo) | (go_at_call 14; refine (HE.out _ _ HB3.out.2.2).mono ?_; rintro e w4 ⟨v4, rfl, HC1⟩; clear HE) | (go_at_call 13; refine HC1.out.mono ?_; rintro e w5 ⟨v5, rfl, HB5⟩; clear HC1))
        go_roundw
        case rel => exact ⟨k + 1, M, a3, c3, by omega, by simp, rfl, HG2.out.1, HG2.out.2, HB3.out.1, _, by simp, HB5.out⟩
        case measure => simp [intOf]; omega
      · have hkz : ¬ (k : Int) < (l.length : Int) := by omega
        obtain ⟨hg, hl6, hlc, rows, hmr, hBk⟩ := HR.out
        have hkk : k ≤ 40 := Nat.le_trans hk HD.out.1
        have hLl : L.length ≤ 24000 := by omega
        have hXr : Bx wr w.heap.size #[.int .i64 o, .int .i64 b, .string s] 42 := HX1.out.below hBk.b hg1
        have hgl := hXr.lt
        have hrr : Bs wr al L := hBk.r _ hmr
        have hLg : Lg wr (w1.heap.size + 1) w1.heap.size L := hBk.x
        have C17 : Hid (∀ W, Calls Try.prog 17 #[.agg #[.int .i64 o, .int .i64 b, .string s]] W fun e w' => e = .returned (.agg #[.int .i64 o, .int .i64 b, .string s]) ∧ Below W.heap.size W w') := fun W => xof o b s W
        have C20 : Hid (∀ W, Below wr.heap.size wr W → Calls Try.prog 20 #[.pointer (some ⟨w1.heap.size + 1, 0, none⟩), .agg #[.int .i64 o, .int .i64 b, .string s]] W fun e w' => e = .returned (.int .i64 (Num.get L (o, b, s.toList))) ∧ Below W.heap.size W w') := fun W hW => xbal _ _ L o b s HWa.out W (hLg.below hW)
        have C21 : Hid (∀ W, Below wr.heap.size wr W → Calls Try.prog 21 #[.slice al L.length cl, .agg #[.int .i64 o, .int .i64 b, .string s]] W fun e w' => e = .returned (.int .i64 (Num.get L (o, b, s.toList))) ∧ Below W.heap.size W w') := fun W hW => rget L (by omega) al cl o b s W (hrr.below hW)
        have C22 : Hid (∀ W, Below wr.heap.size wr W → Calls Try.prog 22 #[.pointer (some ⟨w1.heap.size + 1, 0, none⟩), .int .i64 own, .string th] W fun e w' => e = .returned (.int .i64 (wrap64 (Num.hld own th.toList L))) ∧ Below W.heap.size W w') := fun W hW => xheld _ _ L own th W (hLg.below hW)
        have C23 : Hid (∀ W, Below wr.heap.size wr W → ∀ ow : Int, Calls Try.prog 23 #[.slice al L.length cl, .int .i64 ow, .string th] W fun e w' => e = .returned (.int .i64 (wrap64 (Num.hld ow th.toList L))) ∧ Below W.heap.size W w') := fun W hW ow => (rheld L (by omega) al cl ow th W (hrr.below hW)).mono fun e w' kk => ⟨kk.1, by rw [← kk.2]; exact Below.refl _ _⟩
        have C24 : Hid (∀ W, Below wr.heap.size wr W → Calls Try.prog 24 #[.pointer (some ⟨w1.heap.size + 1, 0, none⟩), .string th] W fun e w' => e = .returned (.int .i64 (wrap64 (-(wrap64 (Num.hld 0 th.toList L))))) ∧ Below W.heap.size W w') := fun W hW => xout _ _ L th W (hLg.below hW)
        have C26 : Hid (∀ W, Below wr.heap.size wr W → Calls Try.prog 26 #[.pointer (some ⟨w1.heap.size + 1, 0, none⟩)] W fun e w' => ∃ a6 c6, e = .returned (.slice a6 (cmp L).length c6) ∧ Hid (Tx w' a6 (cmp L) ∧ Below W.heap.size W w')) := fun W hW => xthings _ _ L (by omega) (good_len hg) W (hLg.below hW)
        have C27 : Hid (∀ W, Below wr.heap.size wr W → Calls Try.prog 27 #[.slice al L.length cl] W fun e w' => ∃ a7 c7, e = .returned (.slice a7 (cmp L).length c7) ∧ Hid (Tx w' a7 (cmp L) ∧ Below W.heap.size W w')) := fun W hW => (rthings L (by omega) al cl W (hrr.below hW)).mono fun e w' hh => by
          obtain ⟨v, rfl, ho, hb⟩ := hh
          obtain ⟨a7, c7, rfl, _, ht⟩ := own_rw strc_len ho rfl
          exact ⟨a7, c7, rfl, ht, hb⟩
        have hcl : (cmp L).length ≤ 1000000 := by have := cmp_len L; omega
        have hBk0 : Below w1.heap.size w1 wr := hBk.b
        have hou : IntKind.i64.wrap (0 - wrap64 (Num.hld 0 th.toList L)) = wrap64 (-(wrap64 (Num.hld 0 th.toList L))) := by rw [i64_wrap, Int.zero_sub]
        have hou2 : IntKind.i64.wrap (-(wrap64 (Num.hld 0 th.toList L))) = wrap64 (-(wrap64 (Num.hld 0 th.toList L))) := i64_wrap _
        generalize wrap64 (-(wrap64 (Num.hld 0 th.toList L))) = OV at *
        have C23o := fun W hW => C23.out W hW own
        have C230 := fun W hW => C23.out W hW 0
        generalize hHO : wrap64 (Num.hld own th.toList L) = HO at *
        generalize Num.get L (o, b, s.toList) = GV at *
        clear HR hBk hrr hLg hmr hg hHO
        go_upto_region 10 with fail
        refine wp_region_held (S := fun W => Below wr.heap.size wr W) (by kernel_rfl) ?_
        change wpAnyH _ _ _ _ _ 40 #[false, false, false, false, false, false, false, false, false, false, false, false, false, false, false, false, false, false, false, false, false, false, false, false, false, false, false, false, false, false, false, false, false, false, false, false, false, false, false, false] _ wr.drew
        have hS0 : Below wr.heap.size wr wr.drew := ⟨rfl, rfl, rfl, Nat.le_refl _, fun _ _ => rfl⟩
        obtain ⟨v0, hv0⟩ : ∃ v, v = wr.drew := ⟨_, rfl⟩
        rw [← hv0] at hS0 ⊢
        clear hv0
        refine takeR (fuel := 39) (i := 0) (v := .pointer (some ⟨w1.heap.size + 1, 0, none⟩)) rfl (by kernel_rfl) (by kernel_rfl) (by kernel_rfl) (fun _ _ _ h => h) (Or.inl ⟨rfl, fun W hW => by go_simp⟩) hS0 ?_
        simp only [Act.put, List.setIfInBounds_toArray, List.set_cons_zero, List.set_cons_succ]
        refine takeR (fuel := 38) (i := 1) (v := .agg #[.int .i64 o, .int .i64 b, .string s]) rfl (by kernel_rfl) (by kernel_rfl) (by kernel_rfl) (fun _ _ _ h => h) (Or.inl ⟨rfl, fun W hW => exl _ _ _ _ rfl _ _ rfl (load42 W w.heap.size 0 1 2 _ _ _ rfl rfl ((hXr.below hW hgl).cell 0) ((hXr.below hW hgl).cell 1) ((hXr.below hW hgl).cell 2))⟩) hS0 ?_
        simp only [Act.put, List.setIfInBounds_toArray, List.set_cons_zero, List.set_cons_succ]
        refine takeR (fuel := 37) (i := 4) (v := .slice al L.length cl) rfl (by kernel_rfl) (by kernel_rfl) (by kernel_rfl) (fun _ _ _ h => h) (Or.inl ⟨rfl, fun W hW => by go_simp⟩) hS0 ?_
        simp only [Act.put, List.setIfInBounds_toArray, List.set_cons_zero, List.set_cons_succ]
        refine takeR (fuel := 36) (i := 5) (v := .agg #[.int .i64 o, .int .i64 b, .string s]) rfl (by kernel_rfl) (by kernel_rfl) (by kernel_rfl) (fun _ _ _ h => h) (Or.inl ⟨rfl, fun W hW => exl _ _ _ _ rfl _ _ rfl (load42 W w.heap.size 0 1 2 _ _ _ rfl rfl ((hXr.below hW hgl).cell 0) ((hXr.below hW hgl).cell 1) ((hXr.below hW hgl).cell 2))⟩) hS0 ?_
        simp only [Act.put, List.setIfInBounds_toArray, List.set_cons_zero, List.set_cons_succ]
        refine consR (fuel := 35) (i := 2) rfl (by kernel_rfl) (fun K hK => ?_)
        rw [if_pos (by rfl)]
        go_simp
        refine (C17.out v0).mono ?_
        rintro e v1 ⟨rfl, hC⟩
        refine hK.out _ _ (hS0.trans (hC.mono hS0.size)) (fun hS1 => ?_)
        have hT1 : Below v0.heap.size v0 v1 := hC
        clear hK hC
        try simp only [Act.put, List.setIfInBounds_toArray, List.set_cons_zero, List.set_cons_succ]
        refine consR (fuel := 34) (i := 3) rfl (by kernel_rfl) (fun K hK => ?_)
        rw [if_pos (by rfl)]
        go_simp
        refine (C20.out v1 hS1).mono ?_
        rintro e v2 ⟨rfl, hC⟩
        refine hK.out _ _ (hS1.trans (hC.mono hS1.size)) (fun hS2 => ?_)
        have hT2 : Below v1.heap.size v1 v2 := hC
        clear hK hC
        try simp only [Act.put, List.setIfInBounds_toArray, List.set_cons_zero, List.set_cons_succ]
        refine consR (fuel := 33) (i := 6) rfl (by kernel_rfl) (fun K hK => ?_)
        rw [if_pos (by rfl)]
        go_simp
        refine (C21.out v2 hS2).mono ?_
        rintro e v3 ⟨rfl, hC⟩
        refine hK.out _ _ (hS2.trans (hC.mono hS2.size)) (fun hS3 => ?_)
        have hT3 : Below v2.heap.size v2 v3 := hC
        clear hK hC
        try simp only [Act.put, List.setIfInBounds_toArray, List.set_cons_zero, List.set_cons_succ]
        refine takeR (fuel := 32) (i := 7) (v := .bool true) rfl (by kernel_rfl) (by kernel_rfl) (by kernel_rfl) (fun _ _ _ h => h) (Or.inl ⟨rfl, fun W hW => by go_simp⟩) hS3 ?_
        simp only [Act.put, List.setIfInBounds_toArray, List.set_cons_zero, List.set_cons_succ]
        refine takeR (fuel := 31) (i := 8) (v := .bool true) rfl (by kernel_rfl) (by kernel_rfl) (by kernel_rfl) (fun _ _ _ h => h) (Or.inl ⟨rfl, fun W hW => by go_simp⟩) hS3 ?_
        simp only [Act.put, List.setIfInBounds_toArray, List.set_cons_zero, List.set_cons_succ]
        refine takeR (fuel := 30) (i := 9) (v := .pointer (some ⟨w1.heap.size + 1, 0, none⟩)) rfl (by kernel_rfl) (by kernel_rfl) (by kernel_rfl) (fun _ _ _ h => h) (Or.inl ⟨rfl, fun W hW => by go_simp⟩) hS3 ?_
        simp only [Act.put, List.setIfInBounds_toArray, List.set_cons_zero, List.set_cons_succ]
        refine takeR (fuel := 29) (i := 10) (v := .int .i64 own) rfl (by kernel_rfl) (by kernel_rfl) (by kernel_rfl) (fun _ _ _ h => h) (Or.inl ⟨rfl, fun W hW => by go_simp⟩) hS3 ?_
        simp only [Act.put, List.setIfInBounds_toArray, List.set_cons_zero, List.set_cons_succ]
        refine takeR (fuel := 28) (i := 11) (v := .string th) rfl (by kernel_rfl) (by kernel_rfl) (by kernel_rfl) (fun _ _ _ h => h) (Or.inl ⟨rfl, fun W hW => by go_simp⟩) hS3 ?_
        simp only [Act.put, List.setIfInBounds_toArray, List.set_cons_zero, List.set_cons_succ]
        refine takeR (fuel := 27) (i := 13) (v := .slice al L.length cl) rfl (by kernel_rfl) (by kernel_rfl) (by kernel_rfl) (fun _ _ _ h => h) (Or.inl ⟨rfl, fun W hW => by go_simp⟩) hS3 ?_
        simp only [Act.put, List.setIfInBounds_toArray, List.set_cons_zero, List.set_cons_succ]
        refine takeR (fuel := 26) (i := 14) (v := .int .i64 own) rfl (by kernel_rfl) (by kernel_rfl) (by kernel_rfl) (fun _ _ _ h => h) (Or.inl ⟨rfl, fun W hW => by go_simp⟩) hS3 ?_
        simp only [Act.put, List.setIfInBounds_toArray, List.set_cons_zero, List.set_cons_succ]
        refine takeR (fuel := 25) (i := 15) (v := .string th) rfl (by kernel_rfl) (by kernel_rfl) (by kernel_rfl) (fun _ _ _ h => h) (Or.inl ⟨rfl, fun W hW => by go_simp⟩) hS3 ?_
        simp only [Act.put, List.setIfInBounds_toArray, List.set_cons_zero, List.set_cons_succ]
        refine consR (fuel := 24) (i := 12) rfl (by kernel_rfl) (fun K hK => ?_)
        rw [if_pos (by rfl)]
        go_simp
        refine (C22.out v3 hS3).mono ?_
        rintro e v4 ⟨rfl, hC⟩
        refine hK.out _ _ (hS3.trans (hC.mono hS3.size)) (fun hS4 => ?_)
        have hT4 : Below v3.heap.size v3 v4 := hC
        clear hK hC
        try simp only [Act.put, List.setIfInBounds_toArray, List.set_cons_zero, List.set_cons_succ]
        refine consR (fuel := 23) (i := 16) rfl (by kernel_rfl) (fun K hK => ?_)
        rw [if_pos (by rfl)]
        go_simp
        refine (C23o v4 hS4).mono ?_
        rintro e v5 ⟨rfl, hC⟩
        refine hK.out _ _ (hS4.trans (hC.mono hS4.size)) (fun hS5 => ?_)
        have hT5 : Below v4.heap.size v4 v5 := hC
        clear hK hC
        try simp only [Act.put, List.setIfInBounds_toArray, List.set_cons_zero, List.set_cons_succ]
        refine takeR (fuel := 22) (i := 17) (v := .bool true) rfl (by kernel_rfl) (by kernel_rfl) (by kernel_rfl) (fun _ _ _ h => h) (Or.inl ⟨rfl, fun W hW => by go_simp⟩) hS5 ?_
        simp only [Act.put, List.setIfInBounds_toArray, List.set_cons_zero, List.set_cons_succ]
        refine takeR (fuel := 21) (i := 18) (v := .bool true) rfl (by kernel_rfl) (by kernel_rfl) (by kernel_rfl) (fun _ _ _ h => h) (Or.inl ⟨rfl, fun W hW => by go_simp⟩) hS5 ?_
        simp only [Act.put, List.setIfInBounds_toArray, List.set_cons_zero, List.set_cons_succ]
        refine takeR (fuel := 20) (i := 19) (v := .bool true) rfl (by kernel_rfl) (by kernel_rfl) (by kernel_rfl) (fun _ _ _ h => h) (Or.inl ⟨rfl, fun W hW => by go_simp⟩) hS5 ?_
        simp only [Act.put, List.setIfInBounds_toArray, List.set_cons_zero, List.set_cons_succ]
        refine takeR (fuel := 19) (i := 20) (v := .pointer (some ⟨w1.heap.size + 1, 0, none⟩)) rfl (by kernel_rfl) (by kernel_rfl) (by kernel_rfl) (fun _ _ _ h => h) (Or.inl ⟨rfl, fun W hW => by go_simp⟩) hS5 ?_
        simp only [Act.put, List.setIfInBounds_toArray, List.set_cons_zero, List.set_cons_succ]
        refine takeR (fuel := 18) (i := 21) (v := .string th) rfl (by kernel_rfl) (by kernel_rfl) (by kernel_rfl) (fun _ _ _ h => h) (Or.inl ⟨rfl, fun W hW => by go_simp⟩) hS5 ?_
        simp only [Act.put, List.setIfInBounds_toArray, List.set_cons_zero, List.set_cons_succ]
        refine takeR (fuel := 17) (i := 23) (v := .slice al L.length cl) rfl (by kernel_rfl) (by kernel_rfl) (by kernel_rfl) (fun _ _ _ h => h) (Or.inl ⟨rfl, fun W hW => by go_simp⟩) hS5 ?_
        simp only [Act.put, List.setIfInBounds_toArray, List.set_cons_zero, List.set_cons_succ]
        refine takeR (fuel := 16) (i := 24) (v := .string th) rfl (by kernel_rfl) (by kernel_rfl) (by kernel_rfl) (fun _ _ _ h => h) (Or.inl ⟨rfl, fun W hW => by go_simp⟩) hS5 ?_
        simp only [Act.put, List.setIfInBounds_toArray, List.set_cons_zero, List.set_cons_succ]
        refine consR (fuel := 15) (i := 22) rfl (by kernel_rfl) (fun K hK => ?_)
        rw [if_pos (by rfl)]
        go_simp
        refine (C24.out v5 hS5).mono ?_
        rintro e v6 ⟨rfl, hC⟩
        refine hK.out _ _ (hS5.trans (hC.mono hS5.size)) (fun hS6 => ?_)
        have hT6 : Below v5.heap.size v5 v6 := hC
        clear hK hC
        try simp only [Act.put, List.setIfInBounds_toArray, List.set_cons_zero, List.set_cons_succ]
        refine consR (fuel := 14) (i := 25) rfl (by kernel_rfl) (fun K hK => ?_)
        rw [if_pos (by rfl)]
        go_simp
        refine (C230 v6 hS6).mono ?_
        rintro e v7 ⟨rfl, hC⟩
        refine hK.out _ _ (hS6.trans (hC.mono hS6.size)) (fun hS7 => ?_)
        have hT7 : Below v6.heap.size v6 v7 := hC
        clear hK hC
        try simp only [Act.put, List.setIfInBounds_toArray, List.set_cons_zero, List.set_cons_succ]
        refine takeR (fuel := 13) (i := 26) (v := .int .i64 OV) rfl (by kernel_rfl) (by kernel_rfl) (by kernel_rfl) (fun _ _ _ h => h) (Or.inl ⟨rfl, fun W hW => by go_simp⟩) hS7 ?_
        simp only [Act.put, List.setIfInBounds_toArray, List.set_cons_zero, List.set_cons_succ]
        refine takeR (fuel := 12) (i := 27) (v := .bool true) rfl (by kernel_rfl) (by kernel_rfl) (by kernel_rfl) (fun _ _ _ h => h) (Or.inl ⟨rfl, fun W hW => by go_simp⟩) hS7 ?_
        simp only [Act.put, List.setIfInBounds_toArray, List.set_cons_zero, List.set_cons_succ]
        refine takeR (fuel := 11) (i := 28) (v := .bool true) rfl (by kernel_rfl) (by kernel_rfl) (by kernel_rfl) (fun _ _ _ h => h) (Or.inl ⟨rfl, fun W hW => by go_simp⟩) hS7 ?_
        simp only [Act.put, List.setIfInBounds_toArray, List.set_cons_zero, List.set_cons_succ]
        refine takeR (fuel := 10) (i := 29) (v := .bool true) rfl (by kernel_rfl) (by kernel_rfl) (by kernel_rfl) (fun _ _ _ h => h) (Or.inl ⟨rfl, fun W hW => by go_simp⟩) hS7 ?_
        simp only [Act.put, List.setIfInBounds_toArray, List.set_cons_zero, List.set_cons_succ]
        refine takeR (fuel := 9) (i := 30) (v := .pointer (some ⟨w1.heap.size + 1, 0, none⟩)) rfl (by kernel_rfl) (by kernel_rfl) (by kernel_rfl) (fun _ _ _ h => h) (Or.inl ⟨rfl, fun W hW => by go_simp⟩) hS7 ?_
        simp only [Act.put, List.setIfInBounds_toArray, List.set_cons_zero, List.set_cons_succ]
        refine takeR (fuel := 8) (i := 32) (v := .slice al L.length cl) rfl (by kernel_rfl) (by kernel_rfl) (by kernel_rfl) (fun _ _ _ h => h) (Or.inl ⟨rfl, fun W hW => by go_simp⟩) hS7 ?_
        simp only [Act.put, List.setIfInBounds_toArray, List.set_cons_zero, List.set_cons_succ]
        refine consR (fuel := 7) (i := 31) rfl (by kernel_rfl) (fun K hK => ?_)
        rw [if_pos (by rfl)]
        go_simp
        refine (C26.out v7 hS7).mono ?_
        rintro e v8 ⟨a6, c6, rfl, HZ6⟩
        have hC := HZ6.out.2
        refine hK.out _ _ (hS7.trans (hC.mono hS7.size)) (fun hS8 => ?_)
        have hT8 : Below v7.heap.size v7 v8 := hC
        clear hK hC
        try simp only [Act.put, List.setIfInBounds_toArray, List.set_cons_zero, List.set_cons_succ]
        refine consR (fuel := 6) (i := 33) rfl (by kernel_rfl) (fun K hK => ?_)
        rw [if_pos (by rfl)]
        go_simp
        refine (C27.out v8 hS8).mono ?_
        rintro e v9 ⟨a7, c7, rfl, HZ7⟩
        have hC := HZ7.out.2
        refine hK.out _ _ (hS8.trans (hC.mono hS8.size)) (fun hS9 => ?_)
        have hT9 : Below v8.heap.size v8 v9 := hC
        clear hK hC
        try simp only [Act.put, List.setIfInBounds_toArray, List.set_cons_zero, List.set_cons_succ]
        refine consR (fuel := 5) (i := 34) rfl (by kernel_rfl) (fun K hK => ?_)
        rw [if_pos (by rfl)]
        go_simp
        refine (rtexts (cmp L) hcl a6 c6 a7 c7 v9 (HZ6.out.1.below hT9) HZ7.out.1).mono ?_
        rintro e v10 ⟨rfl, hC⟩
        refine hK.out _ _ (hS9.trans (hC.mono hS9.size)) (fun hS10 => ?_)
        have hT10 : Below v9.heap.size v9 v10 := hC
        clear hK hC
        try simp only [Act.put, List.setIfInBounds_toArray, List.set_cons_zero, List.set_cons_succ]
        refine takeR (fuel := 4) (i := 35) (v := .bool true) rfl (by kernel_rfl) (by kernel_rfl) (by kernel_rfl) (fun _ _ _ h => h) (Or.inl ⟨rfl, fun W hW => by go_simp⟩) hS10 ?_
        simp only [Act.put, List.setIfInBounds_toArray, List.set_cons_zero, List.set_cons_succ]
        refine takeR (fuel := 3) (i := 36) (v := .bool true) rfl (by kernel_rfl) (by kernel_rfl) (by kernel_rfl) (fun _ _ _ h => h) (Or.inl ⟨rfl, fun W hW => by go_simp⟩) hS10 ?_
        simp only [Act.put, List.setIfInBounds_toArray, List.set_cons_zero, List.set_cons_succ]
        refine consR (fuel := 2) (i := 37) rfl (by kernel_rfl) (fun K hK => ?_)
        rw [if_pos (by rfl)]
        go_simp
        refine (xawake v10).mono ?_
        rintro e v11 ⟨rfl, hC⟩
        refine hK.out _ _ (hS10.trans (hC.mono hS10.size)) (fun hS11 => ?_)
        have hT11 : Below v10.heap.size v10 v11 := hC
        clear hK hC
        try simp only [Act.put, List.setIfInBounds_toArray, List.set_cons_zero, List.set_cons_succ]
        refine takeR (fuel := 1) (i := 38) (v := .bool true) rfl (by kernel_rfl) (by kernel_rfl) (by kernel_rfl) (fun _ _ _ h => h) (Or.inl ⟨rfl, fun W hW => by go_simp⟩) hS11 ?_
        simp only [Act.put, List.setIfInBounds_toArray, List.set_cons_zero, List.set_cons_succ]
        refine takeR (fuel := 0) (i := 39) (v := .bool true) rfl (by kernel_rfl) (by kernel_rfl) (by kernel_rfl) (fun _ _ _ h => h) (Or.inl ⟨rfl, fun W hW => by go_simp⟩) hS11 ?_
        simp only [Act.put, List.setIfInBounds_toArray, List.set_cons_zero, List.set_cons_succ]
        refine wpAnyH_done (by kernel_rfl) ?_ _
        go_wp2_with fail
        go_ret
        exact ⟨rfl, HB1.out _ (hBk0.trans (hS11.mono hBk0.size))⟩
  · have HS : Hid (Calls Try.prog 9 #[.slice a l.length cap] w1 fun e w' => e = .returned (.bool false) ∧ w1 = w') := HS0.mono fun _ _ k => ⟨by rw [k.1, decide_eq_false hd], k.2⟩
    clear HS0 h hd hP1 hw1 hB1 hX1 hWa
    go_enter Try.func5, Try.ntmps5
    go_upto_region 1 with fail
    rw [HW1.out]
    clear HW1
    go_wp2_with (first | (go_at_call 9; refine HS.out.mono ?_; rintro e w2 ⟨rfl, rfl⟩; clear HS) | (go_at_call 10; refine (xawake w1).mono ?_; rintro e wc ⟨rfl, hbc⟩))
    go_ret
    exact ⟨rfl, HB1.out _ hbc⟩
end Go.Proofs.Yteoibfegekipjaa
