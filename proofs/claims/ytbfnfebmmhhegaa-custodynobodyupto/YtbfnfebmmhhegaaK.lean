/- layer 11: a post -/
import Derived.Test.YtbfnfebmmhhegaaJ
import Derived.Test.YtbfnfebmmhhegaaI
import Derived.WalkKit
import Derived.ProofKit
import Derived.Handy
import Derived.WalkLawsBesides
import Derived.WalkSpells
import Derived.BigQuiet
import Derived.BigCall
import Derived.Deep.QuietTactic
import Derived.Deep.Light
import Derived.Deep.OwnRows
import Derived.Laws.AppendOwnNone
import Derived.Laws.Strings3
import Derived.Laws.RangeAny
import Derived.Deep.RegionWith
import Derived.Lib.BitFns
import Derived.Lib.Walk
import Derived.Lib.Strings
import Derived.Lib.OthersKept
import Derived.Deep.CutBlock
import Derived.Deep.DeepCutAuto
import Derived.Deep.LoopGhost
import Derived.Deep.RegionHeld3
import Derived.Lib.SmallJoins
import Derived.Maps.AppendAt
import Derived.Laws.IdiomStrings
import Derived.Lib.AppendZeros
import Derived.Deep.WholeRow
import Derived.Laws.BitsAllLaws
import Derived.Lib.ConvBytes
import Derived.Deep.RegionLaw
import Derived.Maps.OwnSet
import Derived.Maps.OwnOps
import Derived.Maps.RangeWalk
import Derived.Maps.Ext
import Derived.DeepKeys4
import Derived.Laws.StructEq
namespace Go.Proofs.Ytbfnfebmmhhegaa
open Go.RowKit
set_option linter.unusedVariables false
set_option linter.unusedSimpArgs false
theorem xpost_lim (q m : Nat) (L : List Num.Bal) (a : Option Addr) (n cap : Nat) (hn : 4096 < n) (w : World) (h : Lg w q m L) : Calls Try.prog 48 #[.pointer (some ⟨q, 0, none⟩), .slice a n cap] w (PostP q m L 0 2 w) := by
  have HC : Hid (Calls Try.prog 60 #[.pointer (some ⟨q, 0, none⟩)] w fun e w' => e = .returned (.bool false) ∧ w = w') := (xlack q m L w h).mono fun _ _ h => ⟨h.1, h.2.symm⟩
  have HL : Hid (Lg w q m L) := h
  have HG : Hid (w.grownBy w (some m)) := ⟨rfl, rfl, rfl, Nat.le_refl _, fun _ _ _ => rfl⟩
  have hn' : (4096 : Int) < n := by omega
  clear h
  go_enter Try.func48, Try.ntmps48
  go_wp2_with (go_at_call 60; refine HC.out.mono ?_; rintro e w2 ⟨rfl, rfl⟩)
  go_returns
  exact ⟨rfl, HL.out, HG.out⟩
set_option maxRecDepth 20000 in
set_option maxHeartbeats 4000000 in
theorem xpost (q m : Nat) (L : List Num.Bal) (g : Num.Good L) (hl : L.length ≤ 100000) (xs : List Ex) (hx : xs.length ≤ 4096) (a : Option Addr) (n cap : Nat) (hcap : n ≤ cap) (w : World) (h : Lg w q m L) (he : Es w.heap.size m w (.slice a n cap) xs) :
    Calls Try.prog 48 #[.pointer (some ⟨q, 0, none⟩), .slice a n cap] w (PostP q m (Num.post L (xs.map Ex.ent)) (Num.howf L (xs.map Ex.ent)) (Num.whyf L (xs.map Ex.ent)) w) := by
  have hnx : n = xs.length := by obtain ⟨_, _, e, _⟩ := he; injection e
  have HC : Hid (Calls Try.prog 60 #[.pointer (some ⟨q, 0, none⟩)] w fun e w' => e = .returned (.bool false) ∧ w = w') := (xlack q m L w h).mono fun _ _ h => ⟨h.1, h.2.symm⟩
  have HL : Hid (Lg w q m L) := h
  have HE : Hid (Es w.heap.size m w (.slice a n cap) xs) := he
  have HG : Hid (Num.Good L) := g
  have hml : m < w.heap.size := h.m.lt
  have hqw := h.b.lt
  have hn1 : ¬ (4096 : Int) < n := by omega
  have hn2 : n ≤ 4096 := by omega
  have HN : Hid (n = xs.length) := hnx
  have HEND : Hid (∀ w', Num.whyf L ((xs.take xs.length).map Ex.ent) = 0 → Lg w' q m (Num.run L ((xs.take xs.length).map Ex.ent)) → w.grownBy w' (some m) → PostP q m (Num.post L (xs.map Ex.ent)) (Num.howf L (xs.map Ex.ent)) (Num.whyf L (xs.map Ex.ent)) w (.returned (.tuple #[.int .i64 xs.length, .int .i64 0])) w') := by
    intro w' h1 h2 h3
    rw [List.take_length] at h1 h2
    refine ⟨by rw [h1, Num.howf_all _ _ h1, List.length_map], ?_, h3⟩
    unfold Num.post
    rw [if_pos h1]
    exact h2
  have HPO : Hid (∀ k e w', (Num.howf L (xs.map Ex.ent) : Int) = k → Num.whyf L (xs.map Ex.ent) = e → Lg w' q m (Num.post L (xs.map Ex.ent)) → w.grownBy w' (some m) → PostP q m (Num.post L (xs.map Ex.ent)) (Num.howf L (xs.map Ex.ent)) (Num.whyf L (xs.map Ex.ent)) w (.returned (.tuple #[.int .i64 k, .int .i64 e])) w') := fun k e w' h1 h2 h3 h4 => ⟨by rw [h1, h2], h3, h4⟩
  have HST : Hid (∀ k w', k < xs.length → Num.whyf L ((xs.take k).map Ex.ent) = 0 → ∀ x, xs[k]? = some x → Num.flt (Num.run L ((xs.take k).map Ex.ent)) x.ent ≠ 0 → Lg w' q m L → w.grownBy w' (some m) → PostP q m (Num.post L (xs.map Ex.ent)) (Num.howf L (xs.map Ex.ent)) (Num.whyf L (xs.map Ex.ent)) w (.returned (.tuple #[.int .i64 k, .int .i64 (Num.flt (Num.run L ((xs.take k).map Ex.ent)) x.ent)])) w') := by
    intro k w' h1 h2 x h3 h4 h5 h6
    have e1 : xs.map Ex.ent = (xs.take k).map Ex.ent ++ x.ent :: (xs.drop (k + 1)).map Ex.ent := by
      conv => lhs; rw [← List.take_append_drop k xs]
      rw [List.map_append]
      congr 1
      rw [List.drop_eq_getElem_cons h1, List.map_cons]
      congr 2
      rw [List.getElem?_eq_getElem h1] at h3
      exact Option.some.inj h3
    obtain ⟨f1, f2⟩ := Num.snoc_no (fs := (xs.drop (k + 1)).map Ex.ent) h2 h4
    rw [← e1] at f1 f2
    refine HPO.out _ _ _ ?_ f1 ?_ h6
    · rw [f2]; simp; omega
    · unfold Num.post
      rw [if_neg (by rw [f1]; exact h4)]
      exact h5
  generalize Num.post L (xs.map Ex.ent) = NP at *
  generalize (Num.howf L (xs.map Ex.ent) : Int) = KP at *
  generalize Num.whyf L (xs.map Ex.ent) = WP at *
  clear h he g hnx hx
  go_enter Try.func48, Try.ntmps48
  go_wp2_with (go_at_call 60; refine HC.out.mono ?_; rintro e w2 ⟨rfl, rfl⟩)
  clear HC
  go_loopw [16] (fun i wr => ∃ k : Nat, k ≤ n ∧ i = .int .i64 k ∧ Hid (Lg wr q m (Num.run L ((xs.take k).map Ex.ent)) ∧ Num.whyf L ((xs.take k).map Ex.ent) = 0 ∧ w.grownBy wr (some m)))
    (fun i _ => n - (intOf i).toNat)
  case atStart => exact ⟨0, Nat.zero_le _, rfl, by simpa [Num.run] using HL.out, by simp [Num.whyf], ⟨rfl, rfl, rfl, Nat.le_refl _, fun _ _ _ => rfl⟩⟩
  case round =>
    obtain ⟨k, hk, rfl, HR⟩ := hrel
    by_cases hkn : k < n
    · have hkc : k ≤ cap := by omega
      obtain ⟨x, hx⟩ : ∃ x, xs[k]? = some x := ⟨xs[k]'(by rw [← HN.out]; exact hkn), List.getElem?_eq_getElem _⟩
      have hkx : k < xs.length := by rw [← HN.out]; exact hkn
      have hxe : xs[k] = x := by rw [List.getElem?_eq_getElem hkx] at hx; exact Option.some.inj hx
      have hkb : Kb w.heap.size m w wr := Kb.of_grown HR.out.2.2 (Nat.le_refl _) (fun r e => by cases e; right; rfl)
      have hE := HE.out.keep hkb
      obtain ⟨p0, c0', e0, hE0⟩ := hE
      injection e0 with e01 e02 e03
      subst e01 e03
      obtain ⟨blk, off, rfl, hb1, hb2, hcs⟩ := hE0 (by omega)
      have hc7 := hcs k hkx
      rw [hxe] at hc7
      have HX : Hid (xs[k]? = some x) := hx
      have hgk : Num.Good (Num.run L ((xs.take k).map Ex.ent)) := HG.out.run _ HR.out.2.1
      have hlk : (Num.run L ((xs.take k).map Ex.ent)).length + 2 < maxLen := by
        have := Num.length_run L ((xs.take k).map Ex.ent)
        rw [List.length_map, List.length_take] at this
        have e : maxLen = 9223372036854775807 := rfl
        omega
      have hws : w.heap.size ≤ wr.heap.size := HR.out.2.2.size
      obtain ⟨o, b, s, o2, b2, s2, n7⟩ := x
      have c0 : wr.cell? ⟨blk, off + k * 7, none⟩ = some (.int .i64 o) := hc7 0 (by omega)
      have c1 : wr.cell? ⟨blk, off + k * 7 + 1, none⟩ = some (.int .i64 b) := hc7 1 (by omega)
      have c2 : wr.cell? ⟨blk, off + k * 7 + 2, none⟩ = some (.string s) := hc7 2 (by omega)
      have c3 : wr.cell? ⟨blk, off + k * 7 + 3, none⟩ = some (.int .i64 o2) := hc7 3 (by omega)
      have c4 : wr.cell? ⟨blk, off + k * 7 + 4, none⟩ = some (.int .i64 b2) := hc7 4 (by omega)
      have c5 : wr.cell? ⟨blk, off + k * 7 + 5, none⟩ = some (.string s2) := hc7 5 (by omega)
      have c6 : wr.cell? ⟨blk, off + k * 7 + 6, none⟩ = some (.int .i64 n7) := hc7 6 (by omega)
      obtain ⟨Lk, hLk⟩ : ∃ Lk, Lk = Num.run L ((xs.take k).map Ex.ent) := ⟨_, rfl⟩
      rw [← hLk] at hgk hlk
      have HLk : Hid (Lk = Num.run L ((xs.take k).map Ex.ent)) := hLk
      obtain ⟨F, hF⟩ : ∃ F, F = Num.flt Lk ((o, b, s.toList), (o2, b2, s2.toList), n7) := ⟨_, rfl⟩
      have HFe : Hid (F = Num.flt Lk ((o, b, s.toList), (o2, b2, s2.toList), n7)) := hF
      obtain ⟨w1, hw1⟩ : ∃ w1, w1 = wr.alloc (.cells #[.int .i64 o, .int .i64 b, .string s, .int .i64 o2, .int .i64 b2, .string s2, .int .i64 n7] 94) := ⟨_, rfl⟩
      have HW1 : Hid (wr.alloc (.cells #[.int .i64 o, .int .i64 b, .string s, .int .i64 o2, .int .i64 b2, .string s2, .int .i64 n7] 94) = w1) := hw1.symm
      have hB1 : Bx w1 wr.heap.size #[.int .i64 o, .int .i64 b, .string s, .int .i64 o2, .int .i64 b2, .string s2, .int .i64 n7] 94 := by rw [hw1]; exact Bx.new wr _ _
      have hL1 : Lg w1 q m Lk := by rw [hw1, hLk]; exact HR.out.1.alloc _
      have hg1 : w.grownBy w1 (some m) := by rw [hw1]; exact grown_trans HR.out.2.2 (grown_alloc _ _ _)
      have HC32 : Hid (Calls Try.prog 63 #[.pointer (some ⟨q, 0, none⟩), .agg #[.int .i64 o, .int .i64 b, .string s, .int .i64 o2, .int .i64 b2, .string s2, .int .i64 n7]] w1 fun e w' => e = .returned (.int .i64 F) ∧ Below w1.heap.size w1 w') := by
        rw [hF]; exact xflt q m Lk hgk o b o2 b2 n7 s s2 w1 hL1
      have HC33 : Hid (F ≠ 0 → ∀ w2, Below w1.heap.size w1 w2 → Calls Try.prog 64 #[.pointer (some ⟨q, 0, none⟩), .slice (some ⟨blk, off, none⟩) k cap] w2 fun e w' => e = .returned (.tuple #[]) ∧ PostP q m NP KP WP w (.returned (.tuple #[.int .i64 k, .int .i64 F])) w') := by
        intro hF0 w2 hb
        have hL2 := hL1.below hb
        have hg2 : w.grownBy w2 (some m) := grown_trans hg1 (grown_of_below hb _)
        have hk2 : Kb w.heap.size m w w2 := Kb.of_grown hg2 (Nat.le_refl _) (fun r e => by cases e; right; rfl)
        obtain ⟨ys, hys⟩ := whyf_okx (xs.take k) HR.out.2.1
        have hyl : ys.length = k := by have := congrArg List.length hys; simp at this; omega
        have hE2 : Es w2.heap.size m w2 (.slice (some ⟨blk, off, none⟩) k cap) (ys.map (·.1)) := by
          rw [hys]; exact ((HE.out.keep hk2).take (by omega)).mono hg2.size
        refine (xback q m Lk ys _ w2 hL2 (fun a => ⟨(hgk.get a).1, (hgk.get a).2.1⟩) ?_ (by omega) hE2).mono ?_
        · rw [hLk]
          have := Num.length_run L ((xs.take k).map Ex.ent)
          rw [List.length_map, List.length_take] at this
          omega
        · rintro e w' ⟨rfl, k1, k2⟩
          refine ⟨rfl, ?_⟩
          have hun : undo Lk ys.reverse = L := by
            have hm : ys.map (fun x => x.1.ent) = (xs.take k).map Ex.ent := by rw [← hys, List.map_map]; rfl
            have := undo_rev HG.out ys.length ys rfl (by rw [hm]; exact HR.out.2.1)
            rw [hm] at this
            rw [hLk]; exact this
          rw [hun] at k1
          have := HST.out k w' hkx HR.out.2.1 _ HX.out (by rw [← hLk]; exact fun hh => hF0 (hF.trans hh)) k1 (grown_trans hg2 k2)
          rw [← hLk] at this
          rw [hF]; exact this
      have HC34 : Hid (F = 0 → ∀ w2, Below w1.heap.size w1 w2 → Calls Try.prog 65 #[.pointer (some ⟨q, 0, none⟩), .agg #[.int .i64 o, .int .i64 b, .string s], .agg #[.int .i64 o2, .int .i64 b2, .string s2], .int .i64 n7] w2 fun e w' => e = .returned (.tuple #[]) ∧ Hid (Lg w' q m (Num.run L ((xs.take (k + 1)).map Ex.ent)) ∧ Num.whyf L ((xs.take (k + 1)).map Ex.ent) = 0 ∧ w.grownBy w' (some m))) := by
        intro hF0 w2 hb
        have hL2 := hL1.below hb
        have hg2 : w.grownBy w2 (some m) := grown_trans hg1 (grown_of_below hb _)
        have hfit := Num.flt_ok (hF.symm.trans hF0)
        have z1 : s.size ≤ 281474976710656 := by have := (Num.wr_ok.1 hfit.wf).2.2.2.2.2; rw [size_toList] at this; omega
        have z2 : s2.size ≤ 281474976710656 := by have := (Num.wr_ok.1 hfit.wt).2.2.2.2.2; rw [size_toList] at this; omega
        have q1 := hgk.get (o, b, s.toList)
        have q2 := hgk.get (o2, b2, s2.toList)
        have a1 : 1 ≤ n7 := hfit.a1
        have a2 : n7 ≤ 1125899906842624 := hfit.a2
        refine (xmove q m Lk o b o2 b2 n7 s s2 w2 hL2 (wa_of hfit.wf) (wa_of hfit.wt) z1 z2 (by unfold Rng; omega) ?_ hlk).mono ?_
        · rw [Num.get_set]; unfold Rng; split <;> omega
        · rintro e w' ⟨rfl, k1, k2⟩
          have hs := Num.snoc_ok (L := L) (es := (xs.take k).map Ex.ent) (e := ((o, b, s.toList), (o2, b2, s2.toList), n7)) HR.out.2.1 (by rw [← hLk]; exact hF.symm.trans hF0)
          have ht : (xs.take (k + 1)).map Ex.ent = (xs.take k).map Ex.ent ++ [((o, b, s.toList), (o2, b2, s2.toList), n7)] := by
            rw [List.take_add_one, HX.out]; simp [Ex.ent]
          refine ⟨rfl, ?_, by rw [ht]; exact hs.1, grown_trans hg2 k2⟩
          rw [ht, hs.2, ← hLk]
          exact k1
      have HY : Hid (∀ w2, Below w1.heap.size w1 w2 → Bx w2 wr.heap.size #[.int .i64 o, .int .i64 b, .string s, .int .i64 o2, .int .i64 b2, .string s2, .int .i64 n7] 94) := fun w2 hb => hB1.below hb hB1.lt
      have d0 : w1.cell? ⟨wr.heap.size, 0, none⟩ = some (.int .i64 o) := hB1.cell 0
      have d1 : w1.cell? ⟨wr.heap.size, 1, none⟩ = some (.int .i64 b) := hB1.cell 1
      have d2 : w1.cell? ⟨wr.heap.size, 2, none⟩ = some (.string s) := hB1.cell 2
      have d3 : w1.cell? ⟨wr.heap.size, 3, none⟩ = some (.int .i64 o2) := hB1.cell 3
      have d4 : w1.cell? ⟨wr.heap.size, 4, none⟩ = some (.int .i64 b2) := hB1.cell 4
      have d5 : w1.cell? ⟨wr.heap.size, 5, none⟩ = some (.string s2) := hB1.cell 5
      have d6 : w1.cell? ⟨wr.heap.size, 6, none⟩ = some (.int .i64 n7) := hB1.cell 6
      clear hB1 hL1 hg1 hw1 hF hLk hgk hlk hws hc7 hcs hE0 hb1 hb2 e02 hkb hx hkx hxe
      by_cases hF0 : F = 0
      · have hF1 : (F != 0) = false := by simp [hF0]
        have HM : Hid (∀ w2, Below w1.heap.size w1 w2 → Calls Try.prog 65 #[.pointer (some ⟨q, 0, none⟩), .agg #[.int .i64 o, .int .i64 b, .string s], .agg #[.int .i64 o2, .int .i64 b2, .string s2], .int .i64 n7] w2 fun e w' => e = .returned (.tuple #[]) ∧ Hid (Lg w' q m (Num.run L ((xs.take (k + 1)).map Ex.ent)) ∧ Num.whyf L ((xs.take (k + 1)).map Ex.ent) = 0 ∧ w.grownBy w' (some m))) := HC34.out hF0
        clear hF0 HC33 HC34 HFe HLk
        go_upto_region 8 with fail
        rw [HW1.out]
        go_wp2_with (first | (go_at_call 63; refine HC32.out.mono ?_; rintro e w2 ⟨rfl, hb⟩; have y0 : w2.cell? ⟨wr.heap.size, 0, none⟩ = some (.int .i64 o) := (HY.out w2 hb).cell 0; have y1 : w2.cell? ⟨wr.heap.size, 1, none⟩ = some (.int .i64 b) := (HY.out w2 hb).cell 1; have y2 : w2.cell? ⟨wr.heap.size, 2, none⟩ = some (.string s) := (HY.out w2 hb).cell 2; have y3 : w2.cell? ⟨wr.heap.size, 3, none⟩ = some (.int .i64 o2) := (HY.out w2 hb).cell 3; have y4 : w2.cell? ⟨wr.heap.size, 4, none⟩ = some (.int .i64 b2) := (HY.out w2 hb).cell 4; have y5 : w2.cell? ⟨wr.heap.size, 5, none⟩ = some (.string s2) := (HY.out w2 hb).cell 5; have y6 : w2.cell? ⟨wr.heap.size, 6, none⟩ = some (.int .i64 n7) := (HY.out w2 hb).cell 6; have HMM : Hid (Calls Try.prog 65 #[.pointer (some ⟨q, 0, none⟩), .agg #[.int .i64 o, .int .i64 b, .string s], .agg #[.int .i64 o2, .int .i64 b2, .string s2], .int .i64 n7] w2 fun e w' => e = .returned (.tuple #[]) ∧ Hid (Lg w' q m (Num.run L ((xs.take (k + 1)).map Ex.ent)) ∧ Num.whyf L ((xs.take (k + 1)).map Ex.ent) = 0 ∧ w.grownBy w' (some m))) := HM.out w2 hb; clear hb) | (go_at_call 65; refine HMM.out.mono ?_; rintro e w3 ⟨rfl, HZ⟩))
        go_roundw
        case rel => exact ⟨k + 1, by omega, by simp, HZ⟩
        case measure => simp [intOf]; omega
      · have hF1 : (F != 0) = true := by simp [hF0]
        have HM : Hid (∀ w2, Below w1.heap.size w1 w2 → Calls Try.prog 64 #[.pointer (some ⟨q, 0, none⟩), .slice (some ⟨blk, off, none⟩) k cap] w2 fun e w' => e = .returned (.tuple #[]) ∧ PostP q m NP KP WP w (.returned (.tuple #[.int .i64 k, .int .i64 F])) w') := HC33.out hF0
        clear hF0 HC33 HC34 HFe HLk
        go_upto_region 8 with fail
        rw [HW1.out]
        go_wp2_with (first | (go_at_call 63; refine HC32.out.mono ?_; rintro e w2 ⟨rfl, hb⟩; have HMM : Hid (Calls Try.prog 64 #[.pointer (some ⟨q, 0, none⟩), .slice (some ⟨blk, off, none⟩) k cap] w2 fun e w' => e = .returned (.tuple #[]) ∧ PostP q m NP KP WP w (.returned (.tuple #[.int .i64 k, .int .i64 F])) w') := HM.out w2 hb; clear hb) | (go_at_call 64; refine HMM.out.mono ?_; rintro e w3 ⟨rfl, HZ⟩))
        go_returns
        exact HZ
    · obtain rfl : k = n := by omega
      have HF : Hid (PostP q m NP KP WP w (.returned (.tuple #[.int .i64 k, .int .i64 0])) wr) := by
        have hr := HR.out
        have e : k = xs.length := HN.out
        rw [e] at hr
        rw [e]
        exact HEND.out wr hr.2.1 hr.1 hr.2.2
      go_wp2_with fail
      go_returns
      exact HF.out
end Go.Proofs.Ytbfnfebmmhhegaa
