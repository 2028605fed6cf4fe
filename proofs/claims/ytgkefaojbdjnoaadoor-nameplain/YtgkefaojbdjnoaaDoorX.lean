/- The reference's Fit. Condition: the text has at most 2 to the 40th bytes. -/
import Derived.Test.YtgkefaojbdjnoaaDoorW
import Derived.WalkKit
import Derived.ProofKit
import Derived.Handy
import Derived.WalkLawsBesides
import Derived.WalkSpells
import Derived.BigQuiet
import Derived.BigCall
import Derived.Deep.QuietTactic
import Derived.Deep.Light
import Derived.Deep.OwnRows
import Derived.Laws.AppendOwnNone
import Derived.Laws.Strings3
import Derived.Laws.RangeAny
import Derived.Deep.RegionWith
import Derived.Lib.BitFns
import Derived.Lib.Walk
import Derived.Lib.Strings
import Derived.Lib.OthersKept
import Derived.Deep.CutBlock
import Derived.Deep.DeepCutAuto
import Derived.Deep.LoopGhost
import Derived.Deep.RegionHeld3
import Derived.Lib.SmallJoins
import Derived.Maps.AppendAt
import Derived.Laws.IdiomStrings
namespace Go.Proofs.YtgkefaojbdjnoaaDoor
open Go.RowKit
set_option linter.unusedVariables false
set_option linter.unusedSimpArgs false
theorem hdG_at (l : List UInt8) (z most k m : Nat) (hk : k < (cs l 0).length) : hdG z most ((sg l 0).drop k) m = if most < m + wd ((cs l 0).getD k 0) then ((ps l 0).getD k 0, m) else hdG z most ((sg l 0).drop (k + 1)) (m + wd ((cs l 0).getD k 0)) := by
  have hk2 : k < (sg l 0).length := by simpa [cs] using hk
  have e1 : (cs l 0).getD k 0 = (sg l 0)[k].2.1 := by simp [cs, List.getD_eq_getElem?_getD, hk2]
  have e2 : (ps l 0).getD k 0 = (sg l 0)[k].1 := by simp [ps, List.getD_eq_getElem?_getD, hk2]
  rw [e1, e2, List.drop_eq_getElem_cons hk2, hdG]
set_option maxHeartbeats 4000000 in
theorem rfit (s : ByteArray) (hs : s.size ≤ 1099511627776) (n : Int) (w : World) : Calls Tryd.prog 20 #[.string s, .int .i64 n] w (STB (fitZ s.data.toList n) w) := by
  have HL : Hid (s.data.toList.length = s.size) := rfl
  by_cases h1 : n < 0
  · have H : Hid (fitZ s.data.toList n = []) := fitZ_no (.inl h1)
    go_enter Tryd.func20, Tryd.ntmps20
    go_wp2_with fail
    go_ret
    exact STB.mk (by rw [H.out]) (Below.refl _ _)
  by_cases h2 : 4096 < n
  · have H : Hid (fitZ s.data.toList n = []) := fitZ_no (.inr h2)
    go_enter Tryd.func20, Tryd.ntmps20
    go_wp2_with fail
    go_ret
    exact STB.mk (by rw [H.out]) (Below.refl _ _)
  obtain ⟨n, rfl⟩ := Int.eq_ofNat_of_zero_le (by omega : 0 ≤ n)
  have hn : n ≤ 4096 := by omega
  rw [fitZ_yes n hn]
  have HW : Hid (∀ w, Calls Tryd.prog 16 #[.string s] w fun e w' => e = .returned (.int .i64 (width s.data.toList)) ∧ Below w.heap.size w w') := fun w => rwidth s hs w
  by_cases h3 : width s.data.toList ≤ n
  · have H : Hid (fit s.data.toList n = s.data.toList ++ blk (n - width s.data.toList)) := by
      unfold Hid fit
      rw [if_pos h3]
    have h3' : (width s.data.toList : Int) ≤ n := by omega
    generalize width s.data.toList = t at *
    go_enter Tryd.func20, Tryd.ntmps20
    go_wp2_with fail
    refine Calls.mono (HW.out _) ?_
    rintro e w1 ⟨rfl, hb1⟩
    go_wp2_with fail
    refine Calls.mono (HW.out _) ?_
    rintro e w2 ⟨rfl, hb2⟩
    go_wp2_with fail
    rw [show (n : Int) - (t : Int) = ((n - t : Nat) : Int) by omega]
    refine (rblanks (n - t) (by omega) _).mono ?_
    rintro e w3 ⟨rfl, rfl⟩
    have hbs : (blk (n - t)).length ≤ 4096 := by simp [blk]; omega
    generalize blk (n - t) = Q at *
    go_wp2_with fail
    go_ret
    refine STB.mk (s := s ++ ⟨Q.toArray⟩) ?_ (hb1.trans (hb2.mono hb1.size))
    rw [ByteArray.data_append, Array.toList_append, H.out]
  have h3' : ¬ (width s.data.toList : Int) ≤ n := by omega
  by_cases h0 : n = 0
  · subst h0
    have H : Hid (fit s.data.toList 0 = []) := by
      unfold Hid fit
      rw [if_neg h3, if_pos rfl]
    clear h3
    generalize width s.data.toList = t at *
    go_enter Tryd.func20, Tryd.ntmps20
    go_wp2_with fail
    refine Calls.mono (HW.out _) ?_
    rintro e w1 ⟨rfl, hb1⟩
    go_wp2_with fail
    go_ret
    exact STB.mk (by rw [H.out]) hb1
  have g0 : ((n : Int) == 0) = false := beq_eq_false_iff_ne.2 (by omega)
  have hn1 : 1 ≤ n := by omega
  have H : Hid (fit s.data.toList n = s.data.toList.take (hd s.data.toList (n - 1)).1 ++ [46] ++ blk (n - 1 - (hd s.data.toList (n - 1)).2)) := by
    unfold Hid fit
    rw [if_neg h3, if_neg h0]
  have HG : Hid (∀ k m, k < (cs s.data.toList 0).length → hdG s.data.toList.length (n - 1) ((sg s.data.toList 0).drop k) m = if n - 1 < m + wd ((cs s.data.toList 0).getD k 0) then ((ps s.data.toList 0).getD k 0, m) else hdG s.data.toList.length (n - 1) ((sg s.data.toList 0).drop (k + 1)) (m + wd ((cs s.data.toList 0).getD k 0))) := fun k m hk => hdG_at _ _ _ k m hk
  have HG0 : Hid (hdG s.data.toList.length (n - 1) ((sg s.data.toList 0).drop 0) 0 = hd s.data.toList (n - 1)) := rfl
  have hw3 : n < width s.data.toList := by omega
  have HW0 : Hid (0 + wds ((cs s.data.toList 0).drop 0) = width s.data.toList) := by unfold Hid; rw [Nat.zero_add]; rfl
  have HP : Hid (∀ k, k < (cs s.data.toList 0).length → (ps s.data.toList 0).getD k 0 < s.size) := fun k hk => ps_at (by rw [← cs_ps]; exact hk)
  have HV : Hid (∀ k, k < (cs s.data.toList 0).length → Vl ((cs s.data.toList 0).getD k 0)) := fun k hk => cs_at hk
  have HPL : Hid ((ps s.data.toList 0).length = (cs s.data.toList 0).length) := (cs_ps _ _).symm
  have hcl : (cs s.data.toList 0).length ≤ s.size := cs_len s.data.toList
  clear h3 h0
  generalize hd s.data.toList (n - 1) = X at *
  generalize width s.data.toList = t at *
  go_enter Tryd.func20, Tryd.ntmps20
  go_wp2_with fail
  refine Calls.mono (HW.out _) ?_
  rintro e w1 ⟨rfl, hb1⟩
  go_wp2_with fail
  refine (rsigns s hs _).mono ?_
  rintro e W1 ⟨v1, v2, rfl, hs1, hs2, hb2⟩
  obtain ⟨a, cap, rfl, hsg1⟩ := hs1
  obtain ⟨a2, cap2, rfl, hsg2⟩ := hs2
  have HSG1 : Hid _ := hsg1
  have HSG2 : Hid _ := hsg2
  have HB1 : Hid (Below w.heap.size w W1) := hb1.trans (hb2.mono hb1.size)
  clear hsg1 hsg2 hb1 hb2
  rw [HPL.out] at HSG2 ⊢
  generalize cs s.data.toList 0 = xs at *
  generalize ps s.data.toList 0 = ys at *
  generalize sg s.data.toList 0 = gs at *
  go_wp2_with fail
  go_loopw [8, 9] (fun nn i wr => ∃ k m : Nat, i = .int .i64 k ∧ nn = .int .i64 m ∧ k ≤ xs.length ∧ m ≤ n - 1 ∧ Hid (m + wds (xs.drop k) = t) ∧ Hid (hdG s.data.toList.length (n - 1) (gs.drop k) m = X) ∧ Hid (Below W1.heap.size W1 wr)) (fun _ i _ => xs.length - (Lib.intOf i).toNat)
  case atStart => exact ⟨0, 0, rfl, rfl, Nat.zero_le _, Nat.zero_le _, HW0, HG0, Below.refl _ _⟩
  case round =>
    obtain ⟨k, m, rfl, rfl, hk, hm, hsum, hhd, hbr⟩ := hrel
    have hkn : k < xs.length := by
      by_cases h : k < xs.length
      · exact h
      · have h1 := hsum.out
        rw [List.drop_of_length_le (by omega), wds] at h1
        omega
    have hkz : (k : Int) < (xs.length : Int) := by omega
    obtain ⟨b, rfl, hlt, hc⟩ := HSG1.out (by intro e; rw [e] at hkn; simp at hkn)
    have hck : wr.cell? ⟨b, k, none⟩ = some (.int .i64 ((xs.getD k 0 : Nat) : Int)) := (hbr.out.cell (by exact hlt)).trans (hc k hkn)
    have hv := (HV.out k hkn).le
    have Hd : Hid (xs.drop k = xs.getD k 0 :: xs.drop (k + 1)) := drop_getD hkn
    have Hh : Hid _ := HG.out k m hkn
    have hpk : ys.getD k 0 < s.size := HP.out k hkn
    generalize xs.getD k 0 = c at *
    have hw := wd_le c
    go_wp2_with fail
    refine (rwide c hv _).mono ?_
    rintro e w2 ⟨rfl, hb2⟩
    have HB2 : Hid (Below W1.heap.size W1 w2) := hbr.out.trans (hb2.mono hbr.out.size)
    have hck2 : w2.cell? ⟨b, k, none⟩ = some (.int .i64 (c : Int)) := (hb2.cell (by have := hbr.out.size; show b < wr.heap.size; omega)).trans hck
    clear hb2 hck
    by_cases hlt2 : m + wd c < n
    · have hltz : (m : Int) + (wd c : Int) < (n : Int) := by omega
      go_wp2_with fail
      refine (rwide c hv _).mono ?_
      rintro e w3 ⟨rfl, hb3⟩
      have HB3 : Hid (Below W1.heap.size W1 w3) := HB2.out.trans (hb3.mono HB2.out.size)
      clear hb3 hck2
      go_wp2_with fail
      go_roundw
      case rel =>
        refine ⟨k + 1, m + wd c, by go_num, by go_num, by omega, by omega, ?_, ?_, HB3⟩
        · have h1 := hsum.out
          rw [Hd.out, wds] at h1
          unfold Hid
          omega
        · have h1 := Hh.out
          rw [if_neg (by omega)] at h1
          unfold Hid
          rw [← h1]
          exact hhd.out
      case measure =>
        simp [Lib.intOf]
        omega
    · have hltz : ¬ (m : Int) + (wd c : Int) < (n : Int) := by omega
      have HX : Hid (X = (ys.getD k 0, m)) := by
        have h1 := Hh.out
        rw [if_pos (by omega)] at h1
        unfold Hid
        rw [← h1]
        exact hhd.out.symm
      obtain ⟨b2, rfl, hlt3, hc2⟩ := HSG2.out (by intro e; have h1 := HPL.out; rw [e] at h1; simp at h1; omega)
      have hpc : w2.cell? ⟨b2, k, none⟩ = some (.int .i64 ((ys.getD k 0 : Nat) : Int)) := (HB2.out.cell (by exact hlt3)).trans (hc2 k (by have := HPL.out; omega))
      clear hc2 hc
      generalize ys.getD k 0 = p at *
      have hpz : (p : Int) ≤ (s.size : Int) := by omega
      have HBk : Hid (∀ w, Calls Tryd.prog 40 #[.int .i64 ((n : Int) - 1 - (m : Int))] w fun e w' => e = .returned (.string ⟨(blk (n - 1 - m)).toArray⟩) ∧ w' = w) := by
        intro w
        rw [show (n : Int) - 1 - (m : Int) = ((n - 1 - m : Nat) : Int) by omega]
        exact (rblanks (n - 1 - m) (by omega) w).mono fun e w' h => ⟨h.1, h.2.symm⟩
      have hbs : (blk (n - 1 - m)).length ≤ 4096 := by simp [blk]; omega
      have Hf : Hid (fit s.data.toList n = s.data.toList.take p ++ [46] ++ blk (n - 1 - m)) := by
        have h1 := H.out
        rw [HX.out] at h1
        exact h1
      generalize blk (n - 1 - m) = Q at *
      go_wp2_with fail
      go_quiet ((go_at_call 40; refine Calls.quiet_of_same (HBk.out _)))
      go_wp2
      go_ret
      refine STB.mk (s := s.extract 0 p ++ ⟨#[46]⟩ ++ ⟨Q.toArray⟩) ?_ (below_drewN (HB1.out.trans (HB2.out.mono HB1.out.size)) _)
      rw [ByteArray.data_append, Array.toList_append, ByteArray.data_append, Array.toList_append, ext_take, Hf.out]
end Go.Proofs.YtgkefaojbdjnoaaDoor
