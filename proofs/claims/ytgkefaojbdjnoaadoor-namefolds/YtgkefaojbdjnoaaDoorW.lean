/- The reference's Width, Cut and blanks. Condition: the text has at most 2 to the 40th bytes. -/
import Derived.Test.YtgkefaojbdjnoaaDoorV
import Derived.WalkKit
import Derived.ProofKit
import Derived.Handy
import Derived.WalkLawsBesides
import Derived.WalkSpells
import Derived.BigQuiet
import Derived.BigCall
import Derived.Deep.QuietTactic
import Derived.Deep.Light
import Derived.Deep.OwnRows
import Derived.Laws.AppendOwnNone
import Derived.Laws.Strings3
import Derived.Laws.RangeAny
import Derived.Deep.RegionWith
import Derived.Lib.BitFns
import Derived.Lib.Walk
import Derived.Lib.Strings
import Derived.Lib.OthersKept
import Derived.Deep.CutBlock
import Derived.Deep.DeepCutAuto
import Derived.Deep.LoopGhost
import Derived.Deep.RegionHeld3
import Derived.Lib.SmallJoins
import Derived.Maps.AppendAt
import Derived.Laws.IdiomStrings
namespace Go.Proofs.YtgkefaojbdjnoaaDoor
open Go.RowKit
set_option linter.unusedVariables false
set_option linter.unusedSimpArgs false
theorem cs_at {l : List UInt8} {k : Nat} (h : k < (cs l 0).length) : Vl ((cs l 0).getD k 0) := by
  rw [List.getD_eq_getElem?_getD, List.getElem?_eq_getElem h]
  exact cs_V l 0 _ (List.getElem_mem h)
theorem ps_at {l : List UInt8} {k : Nat} (h : k < (ps l 0).length) : (ps l 0).getD k 0 < l.length := by
  rw [List.getD_eq_getElem?_getD, List.getElem?_eq_getElem h]
  exact (ps_lt l 0 _ (List.getElem_mem h)).2
theorem drop_getD {xs : List Nat} {k : Nat} (h : k < xs.length) : xs.drop k = xs.getD k 0 :: xs.drop (k + 1) := by
  rw [List.getD_eq_getElem?_getD, List.getElem?_eq_getElem h]
  exact List.drop_eq_getElem_cons h
set_option maxHeartbeats 4000000 in
theorem rwidth (s : ByteArray) (hs : s.size ≤ 1099511627776) (w : World) : Calls Tryd.prog 16 #[.string s] w (NB (width s.data.toList) w) := by
  go_enter Tryd.func16, Tryd.ntmps16
  go_wp2_with fail
  refine (rsigns s hs _).mono ?_
  rintro e W1 ⟨v1, v2, rfl, hs1, hs2, hb1⟩
  obtain ⟨a, cap, rfl, hsg⟩ := hs1
  have HSG : Hid _ := hsg
  have HB1 : Hid (Below w.heap.size w W1) := hb1
  have hcl : (cs s.data.toList 0).length ≤ s.size := cs_len s.data.toList
  have HV : Hid (∀ k, k < (cs s.data.toList 0).length → Vl ((cs s.data.toList 0).getD k 0)) := fun k hk => cs_at hk
  have HW : Hid (wds (cs s.data.toList 0) = width s.data.toList) := rfl
  clear hsg hs2 hb1
  generalize cs s.data.toList 0 = xs at *
  go_wp2_with fail
  go_loopw [6, 7] (fun n i wr => ∃ k m : Nat, i = .int .i64 k ∧ n = .int .i64 m ∧ k ≤ xs.length ∧ m ≤ 2 * k ∧ Hid (m + wds (xs.drop k) = width s.data.toList) ∧ Hid (Below W1.heap.size W1 wr)) (fun _ i _ => xs.length - (Lib.intOf i).toNat)
  case atStart => exact ⟨0, 0, rfl, rfl, Nat.zero_le _, Nat.le_refl _, by unfold Hid; rw [List.drop_zero, HW.out, Nat.zero_add], Below.refl _ _⟩
  case round =>
    obtain ⟨k, m, rfl, rfl, hk, hm, hsum, hbr⟩ := hrel
    by_cases hkn : k < xs.length
    · have hkz : (k : Int) < (xs.length : Int) := by omega
      obtain ⟨b, rfl, hlt, hc⟩ := HSG.out (by intro e; rw [e] at hkn; simp at hkn)
      have hck : wr.cell? ⟨b, k, none⟩ = some (.int .i64 ((xs.getD k 0 : Nat) : Int)) := (hbr.out.cell (by exact hlt)).trans (hc k hkn)
      have hv := (HV.out k hkn).le
      have Hd : Hid (xs.drop k = xs.getD k 0 :: xs.drop (k + 1)) := drop_getD hkn
      clear hc
      generalize xs.getD k 0 = c at *
      have hw := wd_le c
      go_wp2_with fail
      refine (rwide c hv _).mono ?_
      rintro e w2 ⟨rfl, hb2⟩
      have HB2 : Hid (Below W1.heap.size W1 w2) := hbr.out.trans (hb2.mono hbr.out.size)
      clear hb2 hck
      go_wp2_with fail
      go_roundw
      case rel =>
        refine ⟨k + 1, m + wd c, by go_num, by go_num, by omega, by omega, ?_, HB2⟩
        have h1 := hsum.out
        rw [Hd.out, wds] at h1
        unfold Hid
        omega
      case measure =>
        simp [Lib.intOf]
        omega
    · have hkz : ¬ (k : Int) < (xs.length : Int) := by omega
      go_wp2_with fail
      go_ret
      refine NB.mk ?_ (HB1.out.trans (hbr.out.mono HB1.out.size))
      have h1 := hsum.out
      rw [List.drop_of_length_le (by omega), wds] at h1
      omega
set_option maxHeartbeats 4000000 in
theorem rcut (s : ByteArray) (hs : s.size ≤ 1099511627776) (n : Int) (w : World) : Calls Tryd.prog 18 #[.string s, .int .i64 n] w (STB (cut s.data.toList n) w) := by
  have HL : Hid (s.data.toList.length = s.size) := rfl
  go_enter Tryd.func18, Tryd.ntmps18
  go_wp2_with fail
  refine (rsigns s hs _).mono ?_
  rintro e W1 ⟨v1, v2, rfl, hs1, hs2, hb1⟩
  obtain ⟨a, cap, rfl, _⟩ := hs1
  obtain ⟨a2, cap2, rfl, hsg⟩ := hs2
  have HB1 : Hid (Below w.heap.size w W1) := hb1
  clear hb1
  by_cases h1 : ((cs s.data.toList 0).length : Int) ≤ n
  · have H : Hid (cut s.data.toList n = s.data.toList) := cut_all _ _ h1
    clear hsg
    generalize (cs s.data.toList 0).length = z at *
    go_wp2_with fail
    go_ret
    exact STB.mk (by rw [H.out]) HB1.out
  by_cases h2 : n < 1
  · have H : Hid (cut s.data.toList n = []) := cut_none _ _ h2
    clear hsg
    generalize (cs s.data.toList 0).length = z at *
    go_wp2_with fail
    go_ret
    exact STB.mk (by rw [H.out]) HB1.out
  obtain ⟨m, rfl⟩ := Int.eq_ofNat_of_zero_le (by omega : 0 ≤ n)
  have hm : m < (cs s.data.toList 0).length := by omega
  have H : Hid (cut s.data.toList (m : Int) = s.data.toList.take ((ps s.data.toList 0).getD m 0)) := cut_at _ _ hm
  have hm2 : m < (ps s.data.toList 0).length := by rw [← cs_ps]; exact hm
  have hlen : (ps s.data.toList 0).length = (cs s.data.toList 0).length := (cs_ps _ _).symm
  obtain ⟨b, rfl, hlt, hc⟩ := hsg (by intro e; rw [e] at hm2; simp at hm2)
  have hck := hc m hm2
  have hp := ps_at hm2
  rw [HL.out] at hp
  have hm2z : (m : Int) < ((ps s.data.toList 0).length : Int) := by omega
  clear hc hsg hlen
  generalize (ps s.data.toList 0).getD m 0 = p at *
  generalize (ps s.data.toList 0).length = y at *
  generalize (cs s.data.toList 0).length = z at *
  go_wp2_with fail
  go_ret
  exact STB.mk (s := s.extract 0 p) (by rw [H.out, ext_take]) HB1.out
set_option maxHeartbeats 4000000 in
theorem rblanks (n : Nat) (hn : n ≤ 4096) (w : World) : Calls Tryd.prog 40 #[.int .i64 n] w (STP (blk n) w) := by
  go_enter Tryd.func40, Tryd.ntmps40
  go_wp2_with fail
  go_loopw [3, 4] (fun v i wr => ∃ (k : Nat) (q : ByteArray), i = .int .i64 k ∧ k ≤ n ∧ v = .string q ∧ Hid (q.data.toList = blk k) ∧ q.size = k ∧ w = wr) (fun _ i _ => n - (Lib.intOf i).toNat)
  case atStart =>
    exact ⟨0, ⟨#[]⟩, rfl, Nat.zero_le _, rfl, rfl, rfl, by first | rfl | trivial⟩
  case round =>
    obtain ⟨k, q, rfl, hk, rfl, hq, hqs, rfl⟩ := hrel
    have hqs' : q.size ≤ 4096 := by omega
    have HQ : Hid (q.size = k) := hqs
    clear hqs
    by_cases hkn : k < n
    · have hkz : (k : Int) < (n : Int) := by omega
      go_wp2_with fail
      go_roundw
      case rel =>
        refine ⟨k + 1, q ++ ⟨#[32]⟩, by go_num, by omega, rfl, ?_, ?_, by first | rfl | trivial⟩
        · unfold Hid
          rw [ByteArray.data_append, Array.toList_append, hq.out]
          simp [blk, List.replicate_succ']
        · rw [ByteArray.size_append, HQ.out]
          rfl
      case measure =>
        simp [Lib.intOf]
        omega
    · have hkz : ¬ (k : Int) < (n : Int) := by omega
      have : k = n := by omega
      subst this
      go_wp2_with fail
      go_ret
      exact STP.mk hq.out
end Go.Proofs.YtgkefaojbdjnoaaDoor
