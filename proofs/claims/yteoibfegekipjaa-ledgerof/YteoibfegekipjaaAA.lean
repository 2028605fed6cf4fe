/- layer 11: law Whole -/
import Derived.Test.YteoibfegekipjaaZ
import Derived.Test.YteoibfegekipjaaV
import Derived.WalkKit
import Derived.ProofKit
import Derived.Handy
import Derived.WalkLawsBesides
import Derived.WalkSpells
import Derived.BigQuiet
import Derived.BigCall
import Derived.Deep.QuietTactic
import Derived.Deep.Light
import Derived.Deep.OwnRows
import Derived.Laws.AppendOwnNone
import Derived.Laws.Strings3
import Derived.Laws.RangeAny
import Derived.Deep.RegionWith
import Derived.Lib.BitFns
import Derived.Lib.Walk
import Derived.Lib.Strings
import Derived.Lib.OthersKept
import Derived.Deep.CutBlock
import Derived.Deep.DeepCutAuto
import Derived.Deep.LoopGhost
import Derived.Deep.RegionHeld3
import Derived.Lib.SmallJoins
import Derived.Maps.AppendAt
import Derived.Laws.IdiomStrings
import Derived.Lib.AppendZeros
import Derived.Deep.WholeRow
import Derived.Laws.BitsAllLaws
import Derived.Lib.ConvBytes
import Derived.Deep.RegionLaw
import Derived.Maps.OwnSet
import Derived.Maps.OwnOps
import Derived.Maps.RangeWalk
import Derived.Maps.Ext
import Derived.DeepKeys4
import Derived.Laws.StructEq
import Derived.Shelf.SlSortCmp.NoneTotal
namespace Go.Proofs.Yteoibfegekipjaa
open Go.RowKit
set_option linter.unusedVariables false
set_option linter.unusedSimpArgs false
set_option maxRecDepth 20000
theorem bk_ents' {w0 W : World} {q m : Nat} {L : List Num.Bal} {ls : List (Nat × Nat × List Num.Bal)} {rows : List (Option Addr × List Num.Bal)} (h : Bk w0 W q m L ls rows) (g : Num.Good L) (hl : L.length ≤ 100000) {xs : List Ex} (hx : xs.length ≤ 300) {a : Option Addr} {cap : Nat} (he : Es W.heap.size W.heap.size W (.slice a xs.length cap) xs) :
    Calls Try.prog 14 #[.slice a xs.length cap] W fun e W1 => ∃ v, e = .returned v ∧ Hid (Calls Try.prog 13 #[.pointer (some ⟨q, 0, none⟩), v] W1 fun e W2 => e = .returned (.tuple #[.int .i64 (Num.howf L (xs.map Ex.ent)), .int .i64 (Num.whyf L (xs.map Ex.ent))]) ∧ Hid (Bk w0 W2 q m (Num.post L (xs.map Ex.ent)) ls rows)) := by
  refine (xents xs a cap W he (by omega)).mono ?_
  rintro e W1 ⟨v, rfl, ho, hb⟩
  have hB := h.below hb
  obtain ⟨a1, c1, rfl, hc1, hE⟩ := own_es (m := m) ho rfl (.inl h.x.m.lt)
  refine ⟨_, rfl, (xpost q m L g hl xs (by omega) a1 xs.length c1 hc1 W1 hB.x hE).mono ?_⟩
  rintro e W2 ⟨rfl, k1, k2⟩
  exact ⟨rfl, hB.post k1 k2⟩
theorem bk_all {w0 W : World} {q m : Nat} {L : List Num.Bal} {ls : List (Nat × Nat × List Num.Bal)} {rows : List (Option Addr × List Num.Bal)} (h : Bk w0 W q m L ls rows) (g : Num.Good L) (hl : L.length ≤ 1000000) :
    Calls Try.prog 28 #[.pointer (some ⟨q, 0, none⟩)] W fun e W1 => ∃ a cap, e = .returned (.slice a L.length cap) ∧ L.length ≤ cap ∧ Hid (Bk w0 W1 q m L ls ((a, L) :: rows)) := by
  refine (xall q m L hl (good_len g) W h.x).mono ?_
  rintro e W1 ⟨a, cap, rfl, hc, HB⟩
  exact ⟨a, cap, rfl, hc, (h.below HB.out.2).row HB.out.1⟩
set_option maxHeartbeats 8000000 in
theorem lwhole (l : List (List Ex)) (a : Option Addr) (cap : Nat) (w : World) (h : Pd w (.slice a l.length cap) l) : Calls Try.prog 6 #[.slice a l.length cap] w (BackP w) := by
  have hmm := @run_makeMap Try.prog
  have HS0 := xshort l a cap w h
  by_cases hd : l.length ≤ 40 ∧ lens l ≤ 300
  · have HS : Hid (Calls Try.prog 9 #[.slice a l.length cap] w fun e w' => e = .returned (.bool true) ∧ w = w') := HS0.mono fun _ _ k => ⟨by rw [k.1, decide_eq_true hd], k.2⟩
    have HP : Hid (Pd w (.slice a l.length cap) l) := h
    have HD : Hid (l.length ≤ 40 ∧ lens l ≤ 300) := hd
    clear HS0 h hd
    go_enter Try.func6, Try.ntmps6
    go_wp2_with (first | (go_at_call 9; refine HS.out.mono ?_; rintro e w1 ⟨rfl, rfl⟩; clear HS) | (go_at_call 11; refine (bk_new w).mono ?_; rintro e w1 ⟨rfl, HB1⟩))
    go_loopw [4] (fun i wr => ∃ k : Nat, k ≤ l.length ∧ i = .int .i64 k ∧ ∃ L : List Num.Bal, Hid (Num.Good L ∧ (∀ t, Num.tot t L = 0) ∧ L.length ≤ 600 * k ∧ Bk w wr (w.heap.size + 1) w.heap.size L [] []))
      (fun i _ => l.length - (intOf i).toNat)
    case atStart => exact ⟨0, Nat.zero_le _, rfl, [], Num.Good.nil, fun t => rfl, by simp, HB1.out⟩
    case round =>
      obtain ⟨k, hk, rfl, L, HR⟩ := hrel
      clear HB1
      by_cases hkn : k < l.length
      · have hkz : (k : Int) < (l.length : Int) := by omega
        obtain ⟨a', cap', e0, hcc, hE0⟩ := HP.out
        injection e0 with e01 e02 e03
        subst e01 e03
        obtain ⟨blk, off, rfl, hbl, hcs⟩ := hE0 (by omega)
        obtain ⟨ak, ck, c0, hck, hdk⟩ := hcs k hkn
        have hx : l[k].length ≤ 300 := Nat.le_trans (lens_mem (List.getElem_mem hkn)) HD.out.2
        have hk40 : k ≤ 40 := Nat.le_trans hk HD.out.1
        have r0 : wr.cell? ⟨blk, off + k, none⟩ = some (.slice ak l[k].length ck) := (HR.out.2.2.2.b.cell (p := ⟨blk, _, none⟩) hbl).trans c0
        have HE : Hid (Calls Try.prog 14 #[.slice ak l[k].length ck] wr fun e W1 => ∃ v, e = .returned v ∧ Hid (Calls Try.prog 13 #[.pointer (some ⟨w.heap.size + 1, 0, none⟩), v] W1 fun e W2 => e = .returned (.tuple #[.int .i64 (Num.howf L (l[k].map Ex.ent)), .int .i64 (Num.whyf L (l[k].map Ex.ent))]) ∧ Hid (Bk w W2 (w.heap.size + 1) w.heap.size (Num.post L (l[k].map Ex.ent)) [] []))) := bk_ents' HR.out.2.2.2 HR.out.1 (by have := HR.out.2.2.1; omega) hx (es_below hdk.es HR.out.2.2.2.b)
        have HG2 : Hid (Num.Good (Num.post L (l[k].map Ex.ent)) ∧ (∀ t, Num.tot t (Num.post L (l[k].map Ex.ent)) = 0) ∧ (Num.post L (l[k].map Ex.ent)).length ≤ 600 * (k + 1) ∧ (Num.post L (l[k].map Ex.ent)).length ≤ 1000000) := by
          have h1 := Num.length_post L (l[k].map Ex.ent)
          have h2 := HR.out.2.2.1
          rw [List.length_map] at h1
          exact ⟨HR.out.1.post _, fun t => by rw [Num.tot_post t HR.out.1]; exact HR.out.2.1 t, by omega, by omega⟩
        generalize Num.post L (l[k].map Ex.ent) = M at *
        generalize (Num.howf L (l[k].map Ex.ent) : Int) = N1 at *
        generalize Num.whyf L (l[k].map Ex.ent) = F1 at *
        generalize l[k].length = nk at *
        clear hdk hcs hE0 e02 c0 HR hcc
        go_wp2_with (first | (go_at_call 14; refine HE.out.mono ?_; rintro e w2 ⟨v1, rfl, HC1⟩; clear HE) | (go_at_call 13; refine HC1.out.mono ?_; rintro e w3 ⟨rfl, HB3⟩; clear HC1) | (go_at_call 28; refine (bk_all HB3.out HG2.out.1 HG2.out.2.2.2).mono ?_; rintro e w8 ⟨am, cm, rfl, hcm, HB8⟩; clear HB3))
        have HM9 : Hid (Ms (w8.alloc (.map #[] 0)) w8.heap.size 0 []) := Ms.made w8
        have HB9 : Hid (Below w8.heap.size w8 (w8.alloc (.map #[] 0))) := (Below.refl _ w8).alloc (Nat.le_refl _) _
        have hz9 : (w8.alloc (.map #[] 0)).heap.size = w8.heap.size + 1 := World.size_alloc ..
        generalize w8.alloc (.map #[] 0) = w9 at *
        go_loopw [7] (fun i wr => ∃ k : Nat, k ≤ M.length ∧ i = .int .i64 k ∧ Hid (w9.grownBy wr (some w8.heap.size) ∧ Ms wr w8.heap.size k (M.take k)))
          (fun i _ => M.length - (intOf i).toNat)
        case atStart => exact ⟨0, Nat.zero_le _, rfl, ⟨rfl, rfl, rfl, Nat.le_refl _, fun _ _ _ => rfl⟩, HM9.out⟩
        case round =>
          obtain ⟨k', hk', rfl, HR⟩ := hrel
          clear HM9
          by_cases hkn' : k' < M.length
          · obtain ⟨b, off', rfl, hbm, hcs⟩ := HB8.out.r (am, M) (by simp) (by show 0 < M.length; omega)
            have hc4 := hcs k' hkn'
            have hmem := List.getElem_mem hkn'
            have HT : Hid (M.take k' ++ [M[k']] = M.take (k' + 1)) := List.take_append_getElem hkn'
            have hkz' : (k' : Int) < (M.length : Int) := by omega
            have hML : M.length ≤ 1000000 := HG2.out.2.2.2
            have hn0 := HG2.out.1.nz _ hmem
            have hps := HG2.out.1.pos _ hmem
            have hwr := Num.wr_ok.1 (HG2.out.1.wr _ hmem)
            have HCe : Hid (∀ W, w9.grownBy W (some w8.heap.size) → ∀ j, W.cell? ⟨b, j, none⟩ = w8.cell? ⟨b, j, none⟩) := fun W hg j => World.cell?_of_block (a := ⟨b, j, none⟩) ((hg.block b (by have : b < w8.heap.size := hbm; omega) (by have : b < w8.heap.size := hbm; simp; omega)).trans (HB9.out.block b hbm))
            generalize M[k'] = x at *
            obtain ⟨⟨o, bb, t⟩, n⟩ := x
            obtain ⟨s, hs⟩ : ∃ s, s = S t := ⟨_, rfl⟩
            have hxs : bcs ((o, bb, t), n) = [.int .i64 o, .int .i64 bb, .string s, .int .i64 n] := by rw [hs]; rfl
            have hst : s.toList = t := by rw [hs, S_toList]
            have hss : s.size ≤ maxLen := by have := hwr.2.2.2.2.2; rw [hs, S_size]; unfold maxLen; simp only at this; omega
            try simp only at hc4
            rw [hxs] at hc4
            have c0 : w8.cell? ⟨b, off' + k' * 4, none⟩ = some (.int .i64 o) := hc4 0 (by omega)
            have c2 : w8.cell? ⟨b, off' + k' * 4 + 2, none⟩ = some (.string s) := hc4 2 (by omega)
            have c3 : w8.cell? ⟨b, off' + k' * 4 + 3, none⟩ = some (.int .i64 n) := hc4 3 (by omega)
            have r0 : wr.cell? ⟨b, off' + k' * 4, none⟩ = some (.int .i64 o) := (HCe.out _ HR.out.1 _).trans c0
            have r3 : wr.cell? ⟨b, off' + k' * 4 + 3, none⟩ = some (.int .i64 n) := (HCe.out _ HR.out.1 _).trans c3
            have hnz : (n == 0) = false := by simpa using hn0
            have HST : Hid (∀ W, Ms W w8.heap.size k' (M.take k') → ∃ w', (Instr.mapUpdate 62 (.map (some w8.heap.size)) (.string s) (.int .i64 (wrap64 (wrap64 (Num.tot s.toList (M.take k')) + n)))).run Try.prog W = .ok () w' ∧ Ms w' w8.heap.size (k' + 1) (M.take (k' + 1)) ∧ W.grownBy w' (some w8.heap.size)) := fun W hW => by
              have := hW.store (p := ((o, bb, t), n)) (by unfold maxLen; omega) hss hst.symm
              rw [HT.out] at this
              exact this
            have HLO : Hid (∀ W, Ms W w8.heap.size k' (M.take k') → (Instr.lookup 62 (.map (some w8.heap.size)) (.string s) false).run Try.prog W = .ok (.int .i64 (wrap64 (Num.tot s.toList (M.take k')))) W) := fun W hW => hW.look hss
            have hno : n < 0 → o = 0 := fun h => by have h1 := hwr.1; simp only at h1 hps; omega
            generalize wrap64 (Num.tot s.toList (M.take k')) = TT at *
            clear hs hxs hst hss hc4 hcs hmem hn0 hps hwr HT
            by_cases hlt : n < 0
            · obtain rfl := hno hlt
              clear hno
              go_upto_region 15 with fail
              have hS0 : w9.grownBy wr.drew (some w8.heap.size) := grown_trans HR.out.1 (grown_drew _ _)
              have hM0 : Ms wr.drew w8.heap.size k' (M.take k') := HR.out.2.kept (grown_drew wr none) (by simp)
              have hl0 := HLO.out _ hM0
              obtain ⟨w4, hr4, hm4, hg4⟩ := HST.out _ hM0
              have HO4 : Hid (w9.grownBy w4 (some w8.heap.size) ∧ Ms w4 w8.heap.size (k' + 1) (M.take (k' + 1))) := ⟨grown_trans hS0 hg4, hm4⟩
              refine wp_region_held (S := fun W => w9.grownBy W (some w8.heap.size)) (by kernel_rfl) ?_
              change wpAnyH _ _ _ _ _ 22 #[false, false, false, false, false, false, false, false, false, false, false, false, false, false, false, false, false, false, false, false, false, false] _ wr.drew
              obtain ⟨v0, hv0⟩ : ∃ v, v = wr.drew := ⟨_, rfl⟩
              rw [← hv0] at hS0 hl0 hr4 ⊢
              clear hv0 hM0 hm4 HST HLO
              refine takeR (fuel := 21) (i := 0) (v := (.map (some w8.heap.size))) rfl (by kernel_rfl) (by kernel_rfl) (by kernel_rfl) (fun _ _ _ h => h) (Or.inl ⟨rfl, fun W hW => by go_simp⟩) hS0 ?_
              simp only [Act.put, List.setIfInBounds_toArray, List.set_cons_zero, List.set_cons_succ]
              refine takeR (fuel := 20) (i := 1) (v := (.slice (some ⟨b, off', none⟩) M.length cm)) rfl (by kernel_rfl) (by kernel_rfl) (by kernel_rfl) (fun _ _ _ h => h) (Or.inl ⟨rfl, fun W hW => by go_simp⟩) hS0 ?_
              simp only [Act.put, List.setIfInBounds_toArray, List.set_cons_zero, List.set_cons_succ]
              refine takeR (fuel := 19) (i := 2) (v := (.int .i64 k')) rfl (by kernel_rfl) (by kernel_rfl) (by kernel_rfl) (fun _ _ _ h => h) (Or.inl ⟨rfl, fun W hW => by go_simp⟩) hS0 ?_
              simp only [Act.put, List.setIfInBounds_toArray, List.set_cons_zero, List.set_cons_succ]
              refine takeR (fuel := 18) (i := 3) (v := (.pointer (some ⟨b, off' + k' * 4, none⟩))) rfl (by kernel_rfl) (by kernel_rfl) (by kernel_rfl) (fun _ _ _ h => h) (Or.inl ⟨rfl, fun W hW => by go_simp⟩) hS0 ?_
              simp only [Act.put, List.setIfInBounds_toArray, List.set_cons_zero, List.set_cons_succ]
              refine takeR (fuel := 17) (i := 4) (v := (.pointer (some ⟨b, off' + k' * 4, none⟩))) rfl (by kernel_rfl) (by kernel_rfl) (by kernel_rfl) (fun _ _ _ h => h) (Or.inl ⟨rfl, fun W hW => by go_simp⟩) hS0 ?_
              simp only [Act.put, List.setIfInBounds_toArray, List.set_cons_zero, List.set_cons_succ]
              refine takeR (fuel := 16) (i := 5) (v := (.pointer (some ⟨b, off' + k' * 4 + 2, none⟩))) rfl (by kernel_rfl) (by kernel_rfl) (by kernel_rfl) (fun _ _ _ h => h) (Or.inl ⟨rfl, fun W hW => by go_simp⟩) hS0 ?_
              simp only [Act.put, List.setIfInBounds_toArray, List.set_cons_zero, List.set_cons_succ]
              refine takeR (fuel := 15) (i := 6) (v := .string s) rfl (by kernel_rfl) (by kernel_rfl) (by kernel_rfl) (fun _ _ _ h => h) (Or.inl ⟨rfl, fun W hW => by have cj : W.cell? ⟨b, off' + k' * 4 + 2, none⟩ = _ := (HCe.out W hW _).trans c2; go_simp⟩) hS0 ?_
              simp only [Act.put, List.setIfInBounds_toArray, List.set_cons_zero, List.set_cons_succ]
              refine takeR (fuel := 14) (i := 7) (v := (.map (some w8.heap.size))) rfl (by kernel_rfl) (by kernel_rfl) (by kernel_rfl) (fun _ _ _ h => h) (Or.inl ⟨rfl, fun W hW => by go_simp⟩) hS0 ?_
              simp only [Act.put, List.setIfInBounds_toArray, List.set_cons_zero, List.set_cons_succ]
              refine takeR (fuel := 13) (i := 8) (v := (.slice (some ⟨b, off', none⟩) M.length cm)) rfl (by kernel_rfl) (by kernel_rfl) (by kernel_rfl) (fun _ _ _ h => h) (Or.inl ⟨rfl, fun W hW => by go_simp⟩) hS0 ?_
              simp only [Act.put, List.setIfInBounds_toArray, List.set_cons_zero, List.set_cons_succ]
              refine takeR (fuel := 12) (i := 9) (v := (.int .i64 k')) rfl (by kernel_rfl) (by kernel_rfl) (by kernel_rfl) (fun _ _ _ h => h) (Or.inl ⟨rfl, fun W hW => by go_simp⟩) hS0 ?_
              simp only [Act.put, List.setIfInBounds_toArray, List.set_cons_zero, List.set_cons_succ]
              refine takeR (fuel := 11) (i := 10) (v := (.pointer (some ⟨b, off' + k' * 4, none⟩))) rfl (by kernel_rfl) (by kernel_rfl) (by kernel_rfl) (fun _ _ _ h => h) (Or.inl ⟨rfl, fun W hW => by go_simp⟩) hS0 ?_
              simp only [Act.put, List.setIfInBounds_toArray, List.set_cons_zero, List.set_cons_succ]
              refine takeR (fuel := 10) (i := 11) (v := (.pointer (some ⟨b, off' + k' * 4, none⟩))) rfl (by kernel_rfl) (by kernel_rfl) (by kernel_rfl) (fun _ _ _ h => h) (Or.inl ⟨rfl, fun W hW => by go_simp⟩) hS0 ?_
              simp only [Act.put, List.setIfInBounds_toArray, List.set_cons_zero, List.set_cons_succ]
              refine takeR (fuel := 9) (i := 12) (v := (.pointer (some ⟨b, off' + k' * 4 + 2, none⟩))) rfl (by kernel_rfl) (by kernel_rfl) (by kernel_rfl) (fun _ _ _ h => h) (Or.inl ⟨rfl, fun W hW => by go_simp⟩) hS0 ?_
              simp only [Act.put, List.setIfInBounds_toArray, List.set_cons_zero, List.set_cons_succ]
              refine takeR (fuel := 8) (i := 13) (v := .string s) rfl (by kernel_rfl) (by kernel_rfl) (by kernel_rfl) (fun _ _ _ h => h) (Or.inl ⟨rfl, fun W hW => by have cj : W.cell? ⟨b, off' + k' * 4 + 2, none⟩ = _ := (HCe.out W hW _).trans c2; go_simp⟩) hS0 ?_
              simp only [Act.put, List.setIfInBounds_toArray, List.set_cons_zero, List.set_cons_succ]
              refine takeR (fuel := 7) (i := 15) (v := (.slice (some ⟨b, off', none⟩) M.length cm)) rfl (by kernel_rfl) (by kernel_rfl) (by kernel_rfl) (fun _ _ _ h => h) (Or.inl ⟨rfl, fun W hW => by go_simp⟩) hS0 ?_
              simp only [Act.put, List.setIfInBounds_toArray, List.set_cons_zero, List.set_cons_succ]
              refine takeR (fuel := 6) (i := 16) (v := (.int .i64 k')) rfl (by kernel_rfl) (by kernel_rfl) (by kernel_rfl) (fun _ _ _ h => h) (Or.inl ⟨rfl, fun W hW => by go_simp⟩) hS0 ?_
              simp only [Act.put, List.setIfInBounds_toArray, List.set_cons_zero, List.set_cons_succ]
              refine takeR (fuel := 5) (i := 17) (v := (.pointer (some ⟨b, off' + k' * 4, none⟩))) rfl (by kernel_rfl) (by kernel_rfl) (by kernel_rfl) (fun _ _ _ h => h) (Or.inl ⟨rfl, fun W hW => by go_simp⟩) hS0 ?_
              simp only [Act.put, List.setIfInBounds_toArray, List.set_cons_zero, List.set_cons_succ]
              refine takeR (fuel := 4) (i := 18) (v := (.pointer (some ⟨b, off' + k' * 4 + 3, none⟩))) rfl (by kernel_rfl) (by kernel_rfl) (by kernel_rfl) (fun _ _ _ h => h) (Or.inl ⟨rfl, fun W hW => by go_simp⟩) hS0 ?_
              simp only [Act.put, List.setIfInBounds_toArray, List.set_cons_zero, List.set_cons_succ]
              refine takeR (fuel := 3) (i := 19) (v := .int .i64 n) rfl (by kernel_rfl) (by kernel_rfl) (by kernel_rfl) (fun _ _ _ h => h) (Or.inl ⟨rfl, fun W hW => by have cj : W.cell? ⟨b, off' + k' * 4 + 3, none⟩ = _ := (HCe.out W hW _).trans c3; go_simp⟩) hS0 ?_
              simp only [Act.put, List.setIfInBounds_toArray, List.set_cons_zero, List.set_cons_succ]
              refine consR (fuel := 2) (i := 14) rfl (by kernel_rfl) (fun K hK => ?_)
              rw [if_pos (by rfl)]
              go_simp
              refine hK.out _ _ hS0 (fun hS1 => ?_)
              clear hK
              try simp only [Act.put, List.setIfInBounds_toArray, List.set_cons_zero, List.set_cons_succ]
              refine takeR (fuel := 1) (i := 20) (v := .int .i64 (wrap64 (TT + n))) rfl (by kernel_rfl) (by kernel_rfl) (by kernel_rfl) (fun _ _ _ h => h) (Or.inl ⟨rfl, fun W hW => by go_simp; unfold wrap64; exact IntKind.wrap_i64 _⟩) hS0 ?_
              simp only [Act.put, List.setIfInBounds_toArray, List.set_cons_zero, List.set_cons_succ]
              refine consR (fuel := 0) (i := 21) rfl (by kernel_rfl) (fun K hK => ?_)
              rw [if_pos (by rfl)]
              go_simp
              refine hK.out _ _ HO4.out.1 (fun hS4 => ?_)
              clear hK
              try simp only [Act.put, List.setIfInBounds_toArray, List.set_cons_zero, List.set_cons_succ]
              refine wpAnyH_done (by kernel_rfl) ?_ _
              go_wp2_with fail
              go_roundw
              case rel => exact ⟨k' + 1, by omega, by simp, HO4⟩
              case measure => simp [intOf]; omega
            · clear hno
              go_upto_region 15 with fail
              have hS0 : w9.grownBy wr.drew (some w8.heap.size) := grown_trans HR.out.1 (grown_drew _ _)
              have hM0 : Ms wr.drew w8.heap.size k' (M.take k') := HR.out.2.kept (grown_drew wr none) (by simp)
              have hl0 := HLO.out _ hM0
              obtain ⟨w4, hr4, hm4, hg4⟩ := HST.out _ hM0
              have HO4 : Hid (w9.grownBy w4 (some w8.heap.size) ∧ Ms w4 w8.heap.size (k' + 1) (M.take (k' + 1))) := ⟨grown_trans hS0 hg4, hm4⟩
              refine wp_region_held (S := fun W => w9.grownBy W (some w8.heap.size)) (by kernel_rfl) ?_
              change wpAnyH _ _ _ _ _ 22 #[false, false, false, false, false, false, false, false, false, false, false, false, false, false, false, false, false, false, false, false, false, false] _ wr.drew
              obtain ⟨v0, hv0⟩ : ∃ v, v = wr.drew := ⟨_, rfl⟩
              rw [← hv0] at hS0 hl0 hr4 ⊢
              clear hv0 hM0 hm4 HST HLO
              refine takeR (fuel := 21) (i := 0) (v := (.map (some w8.heap.size))) rfl (by kernel_rfl) (by kernel_rfl) (by kernel_rfl) (fun _ _ _ h => h) (Or.inl ⟨rfl, fun W hW => by go_simp⟩) hS0 ?_
              simp only [Act.put, List.setIfInBounds_toArray, List.set_cons_zero, List.set_cons_succ]
              refine takeR (fuel := 20) (i := 1) (v := (.slice (some ⟨b, off', none⟩) M.length cm)) rfl (by kernel_rfl) (by kernel_rfl) (by kernel_rfl) (fun _ _ _ h => h) (Or.inl ⟨rfl, fun W hW => by go_simp⟩) hS0 ?_
              simp only [Act.put, List.setIfInBounds_toArray, List.set_cons_zero, List.set_cons_succ]
              refine takeR (fuel := 19) (i := 2) (v := (.int .i64 k')) rfl (by kernel_rfl) (by kernel_rfl) (by kernel_rfl) (fun _ _ _ h => h) (Or.inl ⟨rfl, fun W hW => by go_simp⟩) hS0 ?_
              simp only [Act.put, List.setIfInBounds_toArray, List.set_cons_zero, List.set_cons_succ]
              refine takeR (fuel := 18) (i := 3) (v := (.pointer (some ⟨b, off' + k' * 4, none⟩))) rfl (by kernel_rfl) (by kernel_rfl) (by kernel_rfl) (fun _ _ _ h => h) (Or.inl ⟨rfl, fun W hW => by go_simp⟩) hS0 ?_
              simp only [Act.put, List.setIfInBounds_toArray, List.set_cons_zero, List.set_cons_succ]
              refine takeR (fuel := 17) (i := 4) (v := (.pointer (some ⟨b, off' + k' * 4, none⟩))) rfl (by kernel_rfl) (by kernel_rfl) (by kernel_rfl) (fun _ _ _ h => h) (Or.inl ⟨rfl, fun W hW => by go_simp⟩) hS0 ?_
              simp only [Act.put, List.setIfInBounds_toArray, List.set_cons_zero, List.set_cons_succ]
              refine takeR (fuel := 16) (i := 5) (v := (.pointer (some ⟨b, off' + k' * 4 + 2, none⟩))) rfl (by kernel_rfl) (by kernel_rfl) (by kernel_rfl) (fun _ _ _ h => h) (Or.inl ⟨rfl, fun W hW => by go_simp⟩) hS0 ?_
              simp only [Act.put, List.setIfInBounds_toArray, List.set_cons_zero, List.set_cons_succ]
              refine takeR (fuel := 15) (i := 6) (v := .string s) rfl (by kernel_rfl) (by kernel_rfl) (by kernel_rfl) (fun _ _ _ h => h) (Or.inl ⟨rfl, fun W hW => by have cj : W.cell? ⟨b, off' + k' * 4 + 2, none⟩ = _ := (HCe.out W hW _).trans c2; go_simp⟩) hS0 ?_
              simp only [Act.put, List.setIfInBounds_toArray, List.set_cons_zero, List.set_cons_succ]
              refine takeR (fuel := 14) (i := 7) (v := (.map (some w8.heap.size))) rfl (by kernel_rfl) (by kernel_rfl) (by kernel_rfl) (fun _ _ _ h => h) (Or.inl ⟨rfl, fun W hW => by go_simp⟩) hS0 ?_
              simp only [Act.put, List.setIfInBounds_toArray, List.set_cons_zero, List.set_cons_succ]
              refine takeR (fuel := 13) (i := 8) (v := (.slice (some ⟨b, off', none⟩) M.length cm)) rfl (by kernel_rfl) (by kernel_rfl) (by kernel_rfl) (fun _ _ _ h => h) (Or.inl ⟨rfl, fun W hW => by go_simp⟩) hS0 ?_
              simp only [Act.put, List.setIfInBounds_toArray, List.set_cons_zero, List.set_cons_succ]
              refine takeR (fuel := 12) (i := 9) (v := (.int .i64 k')) rfl (by kernel_rfl) (by kernel_rfl) (by kernel_rfl) (fun _ _ _ h => h) (Or.inl ⟨rfl, fun W hW => by go_simp⟩) hS0 ?_
              simp only [Act.put, List.setIfInBounds_toArray, List.set_cons_zero, List.set_cons_succ]
              refine takeR (fuel := 11) (i := 10) (v := (.pointer (some ⟨b, off' + k' * 4, none⟩))) rfl (by kernel_rfl) (by kernel_rfl) (by kernel_rfl) (fun _ _ _ h => h) (Or.inl ⟨rfl, fun W hW => by go_simp⟩) hS0 ?_
              simp only [Act.put, List.setIfInBounds_toArray, List.set_cons_zero, List.set_cons_succ]
              refine takeR (fuel := 10) (i := 11) (v := (.pointer (some ⟨b, off' + k' * 4, none⟩))) rfl (by kernel_rfl) (by kernel_rfl) (by kernel_rfl) (fun _ _ _ h => h) (Or.inl ⟨rfl, fun W hW => by go_simp⟩) hS0 ?_
              simp only [Act.put, List.setIfInBounds_toArray, List.set_cons_zero, List.set_cons_succ]
              refine takeR (fuel := 9) (i := 12) (v := (.pointer (some ⟨b, off' + k' * 4 + 2, none⟩))) rfl (by kernel_rfl) (by kernel_rfl) (by kernel_rfl) (fun _ _ _ h => h) (Or.inl ⟨rfl, fun W hW => by go_simp⟩) hS0 ?_
              simp only [Act.put, List.setIfInBounds_toArray, List.set_cons_zero, List.set_cons_succ]
              refine takeR (fuel := 8) (i := 13) (v := .string s) rfl (by kernel_rfl) (by kernel_rfl) (by kernel_rfl) (fun _ _ _ h => h) (Or.inl ⟨rfl, fun W hW => by have cj : W.cell? ⟨b, off' + k' * 4 + 2, none⟩ = _ := (HCe.out W hW _).trans c2; go_simp⟩) hS0 ?_
              simp only [Act.put, List.setIfInBounds_toArray, List.set_cons_zero, List.set_cons_succ]
              refine takeR (fuel := 7) (i := 15) (v := (.slice (some ⟨b, off', none⟩) M.length cm)) rfl (by kernel_rfl) (by kernel_rfl) (by kernel_rfl) (fun _ _ _ h => h) (Or.inl ⟨rfl, fun W hW => by go_simp⟩) hS0 ?_
              simp only [Act.put, List.setIfInBounds_toArray, List.set_cons_zero, List.set_cons_succ]
              refine takeR (fuel := 6) (i := 16) (v := (.int .i64 k')) rfl (by kernel_rfl) (by kernel_rfl) (by kernel_rfl) (fun _ _ _ h => h) (Or.inl ⟨rfl, fun W hW => by go_simp⟩) hS0 ?_
              simp only [Act.put, List.setIfInBounds_toArray, List.set_cons_zero, List.set_cons_succ]
              refine takeR (fuel := 5) (i := 17) (v := (.pointer (some ⟨b, off' + k' * 4, none⟩))) rfl (by kernel_rfl) (by kernel_rfl) (by kernel_rfl) (fun _ _ _ h => h) (Or.inl ⟨rfl, fun W hW => by go_simp⟩) hS0 ?_
              simp only [Act.put, List.setIfInBounds_toArray, List.set_cons_zero, List.set_cons_succ]
              refine takeR (fuel := 4) (i := 18) (v := (.pointer (some ⟨b, off' + k' * 4 + 3, none⟩))) rfl (by kernel_rfl) (by kernel_rfl) (by kernel_rfl) (fun _ _ _ h => h) (Or.inl ⟨rfl, fun W hW => by go_simp⟩) hS0 ?_
              simp only [Act.put, List.setIfInBounds_toArray, List.set_cons_zero, List.set_cons_succ]
              refine takeR (fuel := 3) (i := 19) (v := .int .i64 n) rfl (by kernel_rfl) (by kernel_rfl) (by kernel_rfl) (fun _ _ _ h => h) (Or.inl ⟨rfl, fun W hW => by have cj : W.cell? ⟨b, off' + k' * 4 + 3, none⟩ = _ := (HCe.out W hW _).trans c3; go_simp⟩) hS0 ?_
              simp only [Act.put, List.setIfInBounds_toArray, List.set_cons_zero, List.set_cons_succ]
              refine consR (fuel := 2) (i := 14) rfl (by kernel_rfl) (fun K hK => ?_)
              rw [if_pos (by rfl)]
              go_simp
              refine hK.out _ _ hS0 (fun hS1 => ?_)
              clear hK
              try simp only [Act.put, List.setIfInBounds_toArray, List.set_cons_zero, List.set_cons_succ]
              refine takeR (fuel := 1) (i := 20) (v := .int .i64 (wrap64 (TT + n))) rfl (by kernel_rfl) (by kernel_rfl) (by kernel_rfl) (fun _ _ _ h => h) (Or.inl ⟨rfl, fun W hW => by go_simp; unfold wrap64; exact IntKind.wrap_i64 _⟩) hS0 ?_
              simp only [Act.put, List.setIfInBounds_toArray, List.set_cons_zero, List.set_cons_succ]
              refine consR (fuel := 0) (i := 21) rfl (by kernel_rfl) (fun K hK => ?_)
              rw [if_pos (by rfl)]
              go_simp
              refine hK.out _ _ HO4.out.1 (fun hS4 => ?_)
              clear hK
              try simp only [Act.put, List.setIfInBounds_toArray, List.set_cons_zero, List.set_cons_succ]
              refine wpAnyH_done (by kernel_rfl) ?_ _
              go_wp2_with fail
              go_roundw
              case rel => exact ⟨k' + 1, by omega, by simp, HO4⟩
              case measure => simp [intOf]; omega
          · have hkz' : ¬ (k' : Int) < (M.length : Int) := by omega
            have HME : Hid (Ms wr w8.heap.size k' M ∧ w9.grownBy wr (some w8.heap.size)) := by
              have h1 := HR.out.2
              rw [List.take_of_length_le (by omega)] at h1
              exact ⟨h1, HR.out.1⟩
            have hB8 : Below w8.heap.size w8 wr := HB9.out.grown HR.out.1 (by have := HB9.out.size; omega) (fun k e => by cases e; exact Nat.le_refl _)
            have HBE : Hid (Bk w wr (w.heap.size + 1) w.heap.size M [] []) := ⟨(HB8.out.below hB8).b, (HB8.out.below hB8).x, HB8.out.m0, by simp, by simp⟩
            have HBs : Hid (Bs wr am M) := (HB8.out.below hB8).r (am, M) (by simp)
            clear HR HB8 HB9 hB8
            go_wp2_with fail
            go_loopw [8] (fun i wr' => ∃ j : Nat, j ≤ M.length ∧ i = .int .i64 j ∧ wr' = wr) (fun i _ => M.length - (intOf i).toNat)
            case atStart => exact ⟨0, Nat.zero_le _, rfl, rfl⟩
            case round =>
              obtain ⟨j, hj, rfl, rfl⟩ := hrel
              by_cases hjn : j < M.length
              · have hjz : (j : Int) < (M.length : Int) := by omega
                have hML : M.length ≤ 1000000 := HG2.out.2.2.2
                obtain ⟨b, off', rfl, hbm, hcs⟩ := HBs.out (by omega)
                have hc4 := hcs j hjn
                have hwr := Num.wr_ok.1 (HG2.out.1.wr _ (List.getElem_mem hjn))
                generalize M[j] = x at *
                obtain ⟨⟨o, bb, t⟩, n⟩ := x
                obtain ⟨s, hs⟩ : ∃ s, s = S t := ⟨_, rfl⟩
                have hxs : bcs ((o, bb, t), n) = [.int .i64 o, .int .i64 bb, .string s, .int .i64 n] := by rw [hs]; rfl
                have hss : s.size ≤ maxLen := by have := hwr.2.2.2.2.2; rw [hs, S_size]; unfold maxLen; simp only at this; omega
                try simp only at hc4
                rw [hxs] at hc4
                have c2 : wr.cell? ⟨b, off' + j * 4 + 2, none⟩ = some (.string s) := hc4 2 (by omega)
                have hlk := HME.out.1.look hss
                rw [HG2.out.2.1, show wrap64 0 = 0 by unfold wrap64; omega] at hlk
                clear hs hxs hss hc4 hcs hwr
                go_wp2_with fail
                go_roundw
                case rel => exact ⟨j + 1, by omega, by simp, trivial⟩
                case measure => simp [intOf]; omega
              · have hjz : ¬ (j : Int) < (M.length : Int) := by omega
                go_wp2_with fail
                go_roundw
                case rel => exact ⟨k + 1, by omega, by simp, M, HG2.out.1, HG2.out.2.1, HG2.out.2.2.1, HBE.out⟩
                case measure => simp [intOf]; omega
      · have hkz : ¬ (k : Int) < (l.length : Int) := by omega
        go_wp2_with (go_at_call 10; refine (bk_awake HR.out.2.2.2).mono ?_; rintro e wc ⟨rfl, hbc⟩)
        go_ret
        exact ⟨rfl, hbc⟩
  · have HS : Hid (Calls Try.prog 9 #[.slice a l.length cap] w fun e w' => e = .returned (.bool false) ∧ w = w') := HS0.mono fun _ _ k => ⟨by rw [k.1, decide_eq_false hd], k.2⟩
    clear HS0 h hd
    go_enter Try.func6, Try.ntmps6
    go_wp2_with (first | (go_at_call 9; refine HS.out.mono ?_; rintro e w1 ⟨rfl, rfl⟩; clear HS) | (go_at_call 10; refine (xawake w).mono ?_; rintro e wc ⟨rfl, hbc⟩))
    go_ret
    exact ⟨rfl, hbc⟩
end Go.Proofs.Yteoibfegekipjaa
