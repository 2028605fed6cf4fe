/- layer 11: law Back -/
import Derived.Test.YteoibfegekipjaaU
import Derived.WalkKit
import Derived.ProofKit
import Derived.Handy
import Derived.WalkLawsBesides
import Derived.WalkSpells
import Derived.BigQuiet
import Derived.BigCall
import Derived.Deep.QuietTactic
import Derived.Deep.Light
import Derived.Deep.OwnRows
import Derived.Laws.AppendOwnNone
import Derived.Laws.Strings3
import Derived.Laws.RangeAny
import Derived.Deep.RegionWith
import Derived.Lib.BitFns
import Derived.Lib.Walk
import Derived.Lib.Strings
import Derived.Lib.OthersKept
import Derived.Deep.CutBlock
import Derived.Deep.DeepCutAuto
import Derived.Deep.LoopGhost
import Derived.Deep.RegionHeld3
import Derived.Lib.SmallJoins
import Derived.Maps.AppendAt
import Derived.Laws.IdiomStrings
import Derived.Lib.AppendZeros
import Derived.Deep.WholeRow
import Derived.Laws.BitsAllLaws
import Derived.Lib.ConvBytes
import Derived.Deep.RegionLaw
import Derived.Maps.OwnSet
import Derived.Maps.OwnOps
import Derived.Maps.RangeWalk
import Derived.Maps.Ext
import Derived.DeepKeys4
import Derived.Laws.StructEq
import Derived.Shelf.SlSortCmp.NoneTotal
namespace Go.Proofs.Yteoibfegekipjaa
open Go.RowKit
set_option linter.unusedVariables false
set_option linter.unusedSimpArgs false
set_option maxRecDepth 20000
theorem info64 : (Try.prog.info? 64).map (fun i => (i.zero, i.size, i.bytes)) = some (some (.agg #[.int .i64 0, .int .i64 0, .string ⟨#[]⟩, .int .i64 0, .int .i64 0, .string ⟨#[]⟩, .int .i64 0]), 7, 72) := by kernel_rfl
def BackP (w : World) (e : Ending) (w' : World) : Prop := e = .returned (.bool true) ∧ Below w.heap.size w w'
set_option maxHeartbeats 8000000 in
theorem lback (xs ys : List Ex) (a1 : Option Addr) (cap1 : Nat) (a2 : Option Addr) (cap2 : Nat) (w : World) (he1 : Es w.heap.size w.heap.size w (.slice a1 xs.length cap1) xs) (he2 : Es w.heap.size w.heap.size w (.slice a2 ys.length cap2) ys) (hc1 : xs.length ≤ cap1) (hc2 : ys.length ≤ cap2) :
    Calls Try.prog 7 #[.slice a1 xs.length cap1, .slice a2 ys.length cap2] w (BackP w) := by
  by_cases hx : xs.length ≤ 60
  · by_cases hy : ys.length ≤ 60
    · have hx' : ¬ (60 : Int) < (xs.length : Int) := by omega
      have hy' : ¬ (60 : Int) < (ys.length : Int) := by omega
      have g1 : Num.Good (Num.post [] (xs.map Ex.ent)) := Num.Good.nil.post _
      have l1 : (Num.post [] (xs.map Ex.ent)).length ≤ 1000 := by have := Num.length_post [] (xs.map Ex.ent); simp at this; omega
      have H1 : Hid (∀ W q m, Bk w W q m [] [] [] → Calls Try.prog 14 #[.slice a1 xs.length cap1] W fun e W1 => ∃ v, e = .returned v ∧ Hid (Calls Try.prog 13 #[.pointer (some ⟨q, 0, none⟩), v] W1 fun e W2 => e = .returned (.tuple #[.int .i64 (Num.howf [] (xs.map Ex.ent)), .int .i64 (Num.whyf [] (xs.map Ex.ent))]) ∧ Hid (Bk w W2 q m (Num.post [] (xs.map Ex.ent)) [] []))) := fun W q m h => bk_ents h Num.Good.nil (by simp) hx (es_below he1 h.b)
      generalize Num.post [] (xs.map Ex.ent) = L1 at *
      generalize (Num.howf [] (xs.map Ex.ent) : Int) = N1 at *
      generalize Num.whyf [] (xs.map Ex.ent) = F1 at *
      have g2 : Num.Good (Num.post L1 (ys.map Ex.ent)) := g1.post _
      have l2 : (Num.post L1 (ys.map Ex.ent)).length ≤ 2000 := by have := Num.length_post L1 (ys.map Ex.ent); simp at this; omega
      have H2 : Hid (∀ W q m ls rows, Bk w W q m L1 ls rows → Calls Try.prog 14 #[.slice a2 ys.length cap2] W fun e W1 => ∃ v, e = .returned v ∧ Hid (Calls Try.prog 13 #[.pointer (some ⟨q, 0, none⟩), v] W1 fun e W2 => e = .returned (.tuple #[.int .i64 (Num.howf L1 (ys.map Ex.ent)), .int .i64 (Num.whyf L1 (ys.map Ex.ent))]) ∧ Hid (Bk w W2 q m (Num.post L1 (ys.map Ex.ent)) ls rows))) := fun W q m ls rows h => bk_ents h g1 (by omega) hy (es_below he2 h.b)
      have HNo : Hid (Num.whyf L1 (ys.map Ex.ent) ≠ 0 → Num.post L1 (ys.map Ex.ent) = L1) := fun h => by unfold Num.post; rw [if_neg h]
      have HYes : Hid (Num.whyf L1 (ys.map Ex.ent) = 0 → Num.whyf (Num.post L1 (ys.map Ex.ent)) ((bkx ys).map Ex.ent) = 0 ∧ Num.post (Num.post L1 (ys.map Ex.ent)) ((bkx ys).map Ex.ent) = L1) := fun h => by
        have hb := Num.back_all g1 _ (ys.map Ex.ent) rfl h
        have e : Num.post L1 (ys.map Ex.ent) = Num.run L1 (ys.map Ex.ent) := by unfold Num.post; rw [if_pos h]
        rw [e, bkx_ent]
        refine ⟨hb.1, ?_⟩
        unfold Num.post
        rw [if_pos hb.1]
        exact hb.2
      generalize Num.post L1 (ys.map Ex.ent) = L2 at *
      generalize (Num.howf L1 (ys.map Ex.ent) : Int) = N2 at *
      generalize Num.whyf L1 (ys.map Ex.ent) = E2 at *
      have HE2 : Hid (Es w.heap.size w.heap.size w (.slice a2 ys.length cap2) ys) := he2
      have HG1 : Hid (Num.Good L1 ∧ L1.length ≤ 1000000 ∧ L1.length ≤ 100000) := ⟨g1, by omega, by omega⟩
      have HG2 : Hid (Num.Good L2 ∧ L2.length ≤ 1000000 ∧ L2.length ≤ 100000) := ⟨g2, by omega, by omega⟩
      have HY : Hid (ys.length ≤ 60) := hy
      clear g1 g2 l1 l2 he1 he2 hx hc1
      go_enter Try.func7, Try.ntmps7
      go_upto_region 8 with (first | (go_at_call 11; refine (bk_new w).mono ?_; rintro e w1 ⟨rfl, HB1⟩) | (go_at_call 14; refine (H1.out _ _ _ HB1.out).mono ?_; rintro e w2 ⟨v1, rfl, HC1⟩; clear HB1) | (go_at_call 13; refine HC1.out.mono ?_; rintro e w3 ⟨rfl, HB3⟩; clear HC1) | (go_at_call 16; refine (bk_told HB3.out HB3.out.x HG1.out.1 HG1.out.2.1).mono ?_; rintro e w4 ⟨aw, cw, rfl, HB4⟩; clear HB3) | (go_at_call 29; refine (bk_clone HB4.out HG1.out.1 HG1.out.2.1).mono ?_; rintro e w5 ⟨q2, m2, rfl, HB5⟩; clear HB4) | (go_at_call 14; refine (H2.out _ _ _ _ _ HB5.out).mono ?_; rintro e w6 ⟨v2, rfl, HC2⟩; clear HB5) | (go_at_call 13; refine HC2.out.mono ?_; rintro e w7 ⟨rfl, HB7⟩; clear HC2))
      by_cases hE : E2 = 0
      · obtain ⟨hY1, hY2⟩ := HYes.out hE
        subst hE
        have H3 : Hid (∀ W q m ls rows a cap, Bk w W q m L2 ls rows → Es W.heap.size W.heap.size W (.slice a (bkx ys).length cap) (bkx ys) → Calls Try.prog 14 #[.slice a (bkx ys).length cap] W fun e W1 => ∃ v, e = .returned v ∧ Hid (Calls Try.prog 13 #[.pointer (some ⟨q, 0, none⟩), v] W1 fun e W2 => e = .returned (.tuple #[.int .i64 (Num.howf L2 ((bkx ys).map Ex.ent)), .int .i64 0]) ∧ Hid (Bk w W2 q m L1 ls rows))) := fun W q m ls rows a cap h he => by
          have := bk_ents h HG2.out.1 HG2.out.2.2 (by rw [bkx_len]; exact HY.out) he
          rw [hY1, hY2] at this
          exact this
        generalize (Num.howf L2 ((bkx ys).map Ex.ent) : Int) = N3 at *
        clear hY1 hY2 HYes HNo H1 H2 hx'
        have hw1 : wrap64 ((ys.length : Int) - 1) = (ys.length : Int) - 1 := by unfold wrap64; omega
        go_wp2_with (go_at_call 16; refine (bk_told HB7.out HB7.out.x HG2.out.1 HG2.out.2.1).mono ?_; rintro e w8 ⟨an, cn, rfl, HB8⟩; clear HB7)
        go_loopw [11, 12] (fun v i wr => ∃ jr : Nat, jr ≤ ys.length ∧ i = .int .i64 ((jr : Int) - 1) ∧ Hid (wr.ownsRow w8.heap.size 64 7 v (ys.length - jr) (ecs (bkx (ys.drop jr))) ∧ Below w8.heap.size w8 wr))
          (fun _ i _ => (intOf i + 1).toNat)
        case atStart => exact ⟨ys.length, Nat.le_refl _, by simp, by rw [Nat.sub_self, List.drop_length]; exact World.ownsRow_nil _ _ _ _, Below.refl _ _⟩
        case round =>
          obtain ⟨jr, hjr, rfl, HR⟩ := hrel
          rcases jr with _ | j
          · have hi : ((0 : Nat) : Int) - 1 = -1 := by omega
            rw [hi]
            obtain ⟨ab, cb, rfl, hcb, hEb⟩ := own_es (m := wr.heap.size) HR.out.1 (by rw [List.drop_zero, bkx_len]; omega) (.inr (Nat.le_refl _))
            rw [List.drop_zero] at *
            have HEb : Hid (∀ W, Below wr.heap.size wr W → Es W.heap.size W.heap.size W (.slice ab (bkx ys).length cb) (bkx ys)) := fun W h => es_below hEb h
            have HB9 : Hid (Bk w wr (w.heap.size + 1) w.heap.size L2 [(q2, m2, L1)] [(an, L2), (aw, L1)]) := HB8.out.below HR.out.2
            clear HB8 hEb HR
            have HCl : Hid (Calls Try.prog 29 #[.pointer (some ⟨w.heap.size + 1, 0, none⟩)] wr fun e wa => ∃ q3 m3, e = .returned (.pointer (some ⟨q3, 0, none⟩)) ∧ Hid (Bk w wa (w.heap.size + 1) w.heap.size L2 [(q3, m3, L2), (q2, m2, L1)] [(an, L2), (aw, L1)] ∧ Es wa.heap.size wa.heap.size wa (.slice ab (bkx ys).length cb) (bkx ys))) := by
              refine (xcln _ _ L2 HG2.out.1 HG2.out.2.1 wr HB9.out.x).mono ?_
              rintro e wa ⟨q3, m3, rfl, h1, h2, hL, hb⟩
              have hm := HB9.out.x.m.lt
              exact ⟨q3, m3, rfl, (HB9.out.below hb).led hL (by omega) (by omega), HEb.out wa hb⟩
            clear HB9 HEb
            go_wp2_with (first | (go_at_call 29; refine HCl.out.mono ?_; rintro e wa ⟨q3, m3, rfl, HBa⟩; clear HCl) | (go_at_call 14; refine (H3.out _ _ _ _ _ _ _ HBa.out.1 HBa.out.2).mono ?_; rintro e wb ⟨v3, rfl, HC3⟩; clear HBa) | (go_at_call 13; refine HC3.out.mono ?_; rintro e wc ⟨rfl, HBc⟩; clear HC3) | (go_at_call 16; refine (bk_told HBc.out HBc.out.x HG1.out.1 HG1.out.2.1).mono ?_; rintro e wd ⟨ad, cd, rfl, HBd⟩; clear HBc) | (go_at_call 15; refine (bk_same HBd.out HG1.out.2.1 (by simp) (by simp)).mono ?_; rintro e we ⟨rfl, HBe⟩; clear HBd) | (go_at_call 16; refine (bk_told HBe.out (HBe.out.l (q2, m2, L1) (by simp)).1 HG1.out.1 HG1.out.2.1).mono ?_; rintro e wf ⟨af, cf, rfl, HBf⟩; clear HBe) | (go_at_call 15; refine (bk_same HBf.out HG1.out.2.1 (by simp) (by simp)).mono ?_; rintro e wg ⟨rfl, HBg⟩; clear HBf) | (go_at_call 16; refine (bk_told HBg.out (HBg.out.l (q3, m3, L2) (by simp)).1 HG2.out.1 HG2.out.2.1).mono ?_; rintro e wh ⟨ah, ch, rfl, HBh⟩; clear HBg) | (go_at_call 15; refine (bk_same HBh.out HG2.out.2.1 (by simp) (by simp)).mono ?_; rintro e wi ⟨rfl, HBi⟩; clear HBh) | (go_at_call 10; refine (bk_awake HBi.out).mono ?_; rintro e wj ⟨rfl, hbj⟩))
            go_ret
            exact ⟨rfl, hbj⟩
          · have hi : ((j + 1 : Nat) : Int) - 1 = j := by omega
            rw [hi]
            have hw2 : wrap64 ((j : Int) - 1) = (j : Int) - 1 := by unfold wrap64; omega
            have hjl : j < ys.length := by omega
            have hjz : (j : Int) < (ys.length : Int) := by omega
            obtain ⟨a', cap', e0, hE0⟩ := HE2.out
            injection e0 with e01 e02 e03
            subst e01 e03
            obtain ⟨blk, off, rfl, hb1, hb2, hcs⟩ := hE0 (by omega)
            have hc7 := hcs j hjl
            have hwB := HB8.out.b
            have hbl : blk < w8.heap.size := Nat.lt_of_lt_of_le hb1 hwB.size
            have HT : Hid (ecs (bkx (ys.drop (j + 1))) ++ (swx ys[j]).cs.toList = ecs (bkx (ys.drop j))) := by
              unfold Hid
              rw [← bkx_drop ys hjl]
              unfold ecs
              rw [flat_snoc]
            have hcnt : ys.length - (j + 1) + 1 = ys.length - j := by omega
            obtain ⟨N, hN⟩ : ∃ N, N = ys.length - (j + 1) := ⟨_, rfl⟩
            have HRo : Hid (wr.ownsRow w8.heap.size 64 7 u11 N (ecs (bkx (ys.drop (j + 1))))) := by rw [hN]; exact HR.out.1
            rw [← hN] at hcnt
            have hkb : (N + 1) * 72 ≤ 140737488355328 := by have := HY.out; omega
            generalize ys[j] = x at *
            obtain ⟨o, b, s, o2, b2, s2, n7⟩ := x
            have hc (i : Nat) (h : i < 7) : w8.cell? ⟨blk, off + j * 7 + i, none⟩ = _ := (hwB.cell (p := ⟨blk, off + j * 7 + i, none⟩) hb1).trans (hc7 i h)
            have c0 : w8.cell? ⟨blk, off + j * 7, none⟩ = some (.int .i64 o) := hc 0 (by omega)
            have c1 : w8.cell? ⟨blk, off + j * 7 + 1, none⟩ = some (.int .i64 b) := hc 1 (by omega)
            have c2 : w8.cell? ⟨blk, off + j * 7 + 2, none⟩ = some (.string s) := hc 2 (by omega)
            have c3 : w8.cell? ⟨blk, off + j * 7 + 3, none⟩ = some (.int .i64 o2) := hc 3 (by omega)
            have c4 : w8.cell? ⟨blk, off + j * 7 + 4, none⟩ = some (.int .i64 b2) := hc 4 (by omega)
            have c5 : w8.cell? ⟨blk, off + j * 7 + 5, none⟩ = some (.string s2) := hc 5 (by omega)
            have c6 : w8.cell? ⟨blk, off + j * 7 + 6, none⟩ = some (.int .i64 n7) := hc 6 (by omega)
            clear hc7 hcs hE0 hb1 hb2 e02 hc hwB H3 HB8
            go_upto_region 15 with fail
            refine wp_region_held (S := fun W => Below w8.heap.size w8 W) (by kernel_rfl) ?_
            change wpAnyH _ _ _ _ _ 20 #[false, false, false, false, false, false, false, false, false, false, false, false, false, false, false, false, false, false, false, false] _ wr.drew
            have hT0 : Below wr.heap.size wr wr.drew := ⟨rfl, rfl, rfl, Nat.le_refl _, fun _ _ => rfl⟩
            have hS0 : Below w8.heap.size w8 wr.drew := HR.out.2.trans (hT0.mono HR.out.2.size)
            obtain ⟨v0, hv0⟩ : ∃ v, v = wr.drew := ⟨_, rfl⟩
            rw [← hv0] at hS0 hT0 ⊢
            clear hv0
            refine takeR (fuel := 19) (i := 0) (v := u11) rfl (by kernel_rfl) (by kernel_rfl) (by kernel_rfl) (fun _ _ _ h => h) (Or.inl ⟨rfl, fun W hW => by go_simp⟩) hS0 ?_
            simp only [Act.put, List.setIfInBounds_toArray, List.set_cons_zero, List.set_cons_succ]
            refine takeR (fuel := 18) (i := 1) (v := .slice (some ⟨blk, off, none⟩) ys.length cap2) rfl (by kernel_rfl) (by kernel_rfl) (by kernel_rfl) (fun _ _ _ h => h) (Or.inl ⟨rfl, fun W hW => by go_simp⟩) hS0 ?_
            simp only [Act.put, List.setIfInBounds_toArray, List.set_cons_zero, List.set_cons_succ]
            refine takeR (fuel := 17) (i := 2) (v := .int .i64 j) rfl (by kernel_rfl) (by kernel_rfl) (by kernel_rfl) (fun _ _ _ h => h) (Or.inl ⟨rfl, fun W hW => by go_simp⟩) hS0 ?_
            simp only [Act.put, List.setIfInBounds_toArray, List.set_cons_zero, List.set_cons_succ]
            refine takeR (fuel := 16) (i := 3) (v := .pointer (some ⟨blk, off + j * 7, none⟩)) rfl (by kernel_rfl) (by kernel_rfl) (by kernel_rfl) (fun _ _ _ h => h) (Or.inl ⟨rfl, fun W hW => by go_simp⟩) hS0 ?_
            simp only [Act.put, List.setIfInBounds_toArray, List.set_cons_zero, List.set_cons_succ]
            refine takeR (fuel := 15) (i := 4) (v := .pointer (some ⟨blk, off + j * 7 + 3, none⟩)) rfl (by kernel_rfl) (by kernel_rfl) (by kernel_rfl) (fun _ _ _ h => h) (Or.inl ⟨rfl, fun W hW => by go_simp⟩) hS0 ?_
            simp only [Act.put, List.setIfInBounds_toArray, List.set_cons_zero, List.set_cons_succ]
            refine takeR (fuel := 14) (i := 5) (v := .agg #[.int .i64 o2, .int .i64 b2, .string s2]) rfl (by kernel_rfl) (by kernel_rfl) (by kernel_rfl) (fun _ _ _ h => h) (Or.inl ⟨rfl, fun W hW => exl _ _ _ _ rfl _ _ rfl (load42 W blk (off + j * 7+ 3) _ _ _ _ _ rfl rfl ((hW.cell (p := ⟨blk, _, none⟩) hbl).trans c3) ((hW.cell (p := ⟨blk, _, none⟩) hbl).trans c4) ((hW.cell (p := ⟨blk, _, none⟩) hbl).trans c5))⟩) hS0 ?_
            simp only [Act.put, List.setIfInBounds_toArray, List.set_cons_zero, List.set_cons_succ]
            refine takeR (fuel := 13) (i := 6) (v := .slice (some ⟨blk, off, none⟩) ys.length cap2) rfl (by kernel_rfl) (by kernel_rfl) (by kernel_rfl) (fun _ _ _ h => h) (Or.inl ⟨rfl, fun W hW => by go_simp⟩) hS0 ?_
            simp only [Act.put, List.setIfInBounds_toArray, List.set_cons_zero, List.set_cons_succ]
            refine takeR (fuel := 12) (i := 7) (v := .int .i64 j) rfl (by kernel_rfl) (by kernel_rfl) (by kernel_rfl) (fun _ _ _ h => h) (Or.inl ⟨rfl, fun W hW => by go_simp⟩) hS0 ?_
            simp only [Act.put, List.setIfInBounds_toArray, List.set_cons_zero, List.set_cons_succ]
            refine takeR (fuel := 11) (i := 8) (v := .pointer (some ⟨blk, off + j * 7, none⟩)) rfl (by kernel_rfl) (by kernel_rfl) (by kernel_rfl) (fun _ _ _ h => h) (Or.inl ⟨rfl, fun W hW => by go_simp⟩) hS0 ?_
            simp only [Act.put, List.setIfInBounds_toArray, List.set_cons_zero, List.set_cons_succ]
            refine takeR (fuel := 10) (i := 9) (v := .pointer (some ⟨blk, off + j * 7, none⟩)) rfl (by kernel_rfl) (by kernel_rfl) (by kernel_rfl) (fun _ _ _ h => h) (Or.inl ⟨rfl, fun W hW => by go_simp⟩) hS0 ?_
            simp only [Act.put, List.setIfInBounds_toArray, List.set_cons_zero, List.set_cons_succ]
            refine takeR (fuel := 9) (i := 10) (v := .agg #[.int .i64 o, .int .i64 b, .string s]) rfl (by kernel_rfl) (by kernel_rfl) (by kernel_rfl) (fun _ _ _ h => h) (Or.inl ⟨rfl, fun W hW => exl _ _ _ _ rfl _ _ rfl (load42 W blk (off + j * 7) _ _ _ _ _ rfl rfl ((hW.cell (p := ⟨blk, _, none⟩) hbl).trans c0) ((hW.cell (p := ⟨blk, _, none⟩) hbl).trans c1) ((hW.cell (p := ⟨blk, _, none⟩) hbl).trans c2))⟩) hS0 ?_
            simp only [Act.put, List.setIfInBounds_toArray, List.set_cons_zero, List.set_cons_succ]
            refine takeR (fuel := 8) (i := 11) (v := .slice (some ⟨blk, off, none⟩) ys.length cap2) rfl (by kernel_rfl) (by kernel_rfl) (by kernel_rfl) (fun _ _ _ h => h) (Or.inl ⟨rfl, fun W hW => by go_simp⟩) hS0 ?_
            simp only [Act.put, List.setIfInBounds_toArray, List.set_cons_zero, List.set_cons_succ]
            refine takeR (fuel := 7) (i := 12) (v := .int .i64 j) rfl (by kernel_rfl) (by kernel_rfl) (by kernel_rfl) (fun _ _ _ h => h) (Or.inl ⟨rfl, fun W hW => by go_simp⟩) hS0 ?_
            simp only [Act.put, List.setIfInBounds_toArray, List.set_cons_zero, List.set_cons_succ]
            refine takeR (fuel := 6) (i := 13) (v := .pointer (some ⟨blk, off + j * 7, none⟩)) rfl (by kernel_rfl) (by kernel_rfl) (by kernel_rfl) (fun _ _ _ h => h) (Or.inl ⟨rfl, fun W hW => by go_simp⟩) hS0 ?_
            simp only [Act.put, List.setIfInBounds_toArray, List.set_cons_zero, List.set_cons_succ]
            refine takeR (fuel := 5) (i := 14) (v := .pointer (some ⟨blk, off + j * 7 + 6, none⟩)) rfl (by kernel_rfl) (by kernel_rfl) (by kernel_rfl) (fun _ _ _ h => h) (Or.inl ⟨rfl, fun W hW => by go_simp⟩) hS0 ?_
            simp only [Act.put, List.setIfInBounds_toArray, List.set_cons_zero, List.set_cons_succ]
            refine takeR (fuel := 4) (i := 15) (v := .int .i64 n7) rfl (by kernel_rfl) (by kernel_rfl) (by kernel_rfl) (fun _ _ _ h => h) (Or.inl ⟨rfl, fun W hW => by have cj : W.cell? ⟨blk, off + j * 7 + 6, none⟩ = some (.int .i64 n7) := (hW.cell (p := ⟨blk, _, none⟩) hbl).trans c6; go_simp⟩) hS0 ?_
            simp only [Act.put, List.setIfInBounds_toArray, List.set_cons_zero, List.set_cons_succ]
            refine takeR (fuel := 3) (i := 16) (v := .agg #[.int .i64 o2, .int .i64 b2, .string s2, .int .i64 o, .int .i64 b, .string s, .int .i64 n7]) rfl (by kernel_rfl) (by kernel_rfl) (by kernel_rfl) (fun _ _ _ h => h) (Or.inl ⟨rfl, fun W hW => by go_simp⟩) hS0 ?_
            simp only [Act.put, List.setIfInBounds_toArray, List.set_cons_zero, List.set_cons_succ]
            have hO2 : v0.ownsRow w8.heap.size 64 7 u11 N (ecs (bkx (ys.drop (j + 1)))) := own_below HRo.out hT0
            have hsz2 : w8.heap.size ≤ v0.heap.size := hS0.size
            obtain ⟨v', w4', hr4, ho4, hg4⟩ := app_gen (T := 64) (Sl := 30) (k := 7) (bytes := 72) Try.underlying30 info64 rfl (by omega) [.int .i64 o2, .int .i64 b2, .string s2, .int .i64 o, .int .i64 b, .string s, .int .i64 n7] rfl (by intro u hu; simp at hu; rcases hu with rfl | rfl | rfl | rfl | rfl | rfl | rfl <;> rfl) hO2 hsz2 hkb (by unfold maxLen; omega)
            have hB4 : Below w8.heap.size w8 w4' := ((hS0.alloc hsz2 _).grown hg4 (by simp; omega) (fun j hj => (hO2.lt j hj).1))
            have HO4 : Hid (w4'.ownsRow w8.heap.size 64 7 v' (ys.length - j) (ecs (bkx (ys.drop j))) ∧ Below w8.heap.size w8 w4') := ⟨by rw [← HT.out, ← hcnt]; exact ho4, hB4⟩
            refine consR (fuel := 2) (i := 17) rfl (by kernel_rfl) (fun K hK => ?_)
            rw [if_pos (by rfl)]
            go_simp
            refine hK.out _ _ (hS0.alloc hS0.size _) (fun hS3 => ?_)
            clear hK
            try simp only [Act.put, List.setIfInBounds_toArray, List.set_cons_zero, List.set_cons_succ]
            refine consR (fuel := 1) (i := 18) rfl (by kernel_rfl) (fun K hK => ?_)
            rw [if_pos (by rfl)]
            refine Lib.wp_append_run _ _ _ 30 30 rfl _ _ rfl rfl _ w4' hr4 ?_
            refine hK.out _ _ hB4 (fun hS4 => ?_)
            clear hK
            try simp only [Act.put, List.setIfInBounds_toArray, List.set_cons_zero, List.set_cons_succ]
            refine takeR (fuel := 0) (i := 19) (v := v') rfl (by kernel_rfl) (by kernel_rfl) (by kernel_rfl) (fun _ _ _ h => h) (Or.inl ⟨rfl, fun W hW => by go_simp⟩) hS4 ?_
            simp only [Act.put, List.setIfInBounds_toArray, List.set_cons_zero, List.set_cons_succ]
            refine wpAnyH_done (by kernel_rfl) ?_ _
            go_wp2_with fail
            go_roundw
            case rel => exact ⟨j, by omega, by simp, HO4⟩
            case measure => simp [intOf] <;> omega
      · have hE' : (E2 != 0) = true := by simp [hE]
        obtain rfl := HNo.out hE
        clear hE
        go_wp2_with (first | (go_at_call 16; refine (bk_told HB7.out HB7.out.x HG1.out.1 HG1.out.2.1).mono ?_; rintro e w8 ⟨a8, c8, rfl, HB8⟩; clear HB7) | (go_at_call 15; refine (bk_same HB8.out HG1.out.2.1 (by simp) (by simp)).mono ?_; rintro e w9 ⟨rfl, HB9⟩; clear HB8) | (go_at_call 16; refine (bk_told HB9.out (HB9.out.l _ (List.mem_cons_self ..)).1 HG1.out.1 HG1.out.2.1).mono ?_; rintro e wa ⟨aa, ca, rfl, HBa⟩; clear HB9) | (go_at_call 15; refine (bk_same HBa.out HG1.out.2.1 (by simp) (by simp)).mono ?_; rintro e wb ⟨rfl, HBb⟩; clear HBa) | (go_at_call 10; refine (bk_awake HBb.out).mono ?_; rintro e wc ⟨rfl, hbc⟩))
        go_ret
        exact ⟨rfl, hbc⟩
    · have hx' : ¬ (60 : Int) < (xs.length : Int) := by omega
      have hy' : (60 : Int) < (ys.length : Int) := by omega
      go_enter Try.func7, Try.ntmps7
      go_wp2_with (go_at_call 10; refine (xawake w).mono ?_; rintro e wc ⟨rfl, hbc⟩)
      go_ret
      exact ⟨rfl, hbc⟩
  · have hx' : (60 : Int) < (xs.length : Int) := by omega
    go_enter Try.func7, Try.ntmps7
    go_wp2_with (go_at_call 10; refine (xawake w).mono ?_; rintro e wc ⟨rfl, hbc⟩)
    go_ret
    exact ⟨rfl, hbc⟩
end Go.Proofs.Yteoibfegekipjaa
