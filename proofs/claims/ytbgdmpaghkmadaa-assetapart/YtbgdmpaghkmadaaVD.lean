/- The program's walks over a text: head, sum. Condition: none; sum: a text of eleven letters and digits. -/
import Derived.Test.YtbgdmpaghkmadaaVC
import Derived.WalkKit
import Derived.ProofKit
import Derived.Handy
import Derived.WalkLawsBesides
import Derived.WalkSpells
import Derived.BigQuiet
import Derived.BigCall
import Derived.Deep.QuietTactic
import Derived.Deep.Light
import Derived.Deep.OwnRows
import Derived.Laws.AppendOwnNone
import Derived.Laws.Strings3
import Derived.Laws.RangeAny
import Derived.Deep.RegionWith
import Derived.Lib.BitFns
import Derived.Lib.Walk
import Derived.Lib.Strings
import Derived.Lib.OthersKept
import Derived.Deep.CutBlock
import Derived.Deep.DeepCutAuto
import Derived.Deep.LoopGhost
import Derived.Deep.RegionHeld3
import Derived.Lib.SmallJoins
import Derived.Maps.AppendAt
import Derived.Laws.IdiomStrings
import Derived.Lib.AppendZeros
import Derived.Deep.WholeRow
import Derived.Laws.BitsAllLaws
import Derived.Lib.ConvBytes
import Derived.Deep.RegionLaw
namespace Go.Proofs.Ytbgdmpaghkmadaa.N5
open Go.RowKit
set_option linter.unusedVariables false
set_option linter.unusedSimpArgs false
theorem at_data {s : ByteArray} {k : Nat} (h : k < s.size) : s.data.toList.getD k 0 = s[k] := by
  have h1 : k < s.data.toList.length := h
  rw [List.getD_eq_getElem?_getD, List.getElem?_eq_getElem h1]
  rfl
theorem drop_at {s : ByteArray} {k : Nat} (h : k < s.size) : s.data.toList.drop k = s[k] :: s.data.toList.drop (k + 1) := by
  have h1 : k < s.data.toList.length := h
  rw [List.drop_eq_getElem_cons h1]
  rfl
theorem take_at {s : ByteArray} {k : Nat} (h : k < s.size) : s.data.toList.take (k + 1) = s.data.toList.take k ++ [s[k]] := by
  rw [List.take_succ_eq_append_getElem (by simpa using h)]
  rfl
set_option maxHeartbeats 4000000 in
theorem xhead (s : ByteArray) (hs : s.size ≤ 9223372036854775807) (w : World) : Calls Try.prog 84 #[.string s] w (BP (head s.data.toList = true) w) := by
  have HL : Hid (s.data.toList.length = s.size) := rfl
  by_cases h11 : s.size = 11
  · have HH : Hid (head s.data.toList = okFrom 0 s.data.toList) := by
      unfold Hid head
      rw [HL.out, decide_eq_true h11, Bool.true_and]
    have hne : (((s.size : Nat) : Int) != 11) = false := by rw [h11]; rfl
    have h11z : (s.size : Int) ≤ 11 := by omega
    have H11 : Hid (s.size = 11) := h11
    clear h11
    go_enter Try.func84, Try.ntmps84
    go_wp2_with fail
    go_loopw [9] (fun i wr => ∃ k : Nat, i = .int .i64 k ∧ k ≤ s.size ∧ w = wr ∧ Hid (okFrom k (s.data.toList.drop k) = okFrom 0 s.data.toList)) (fun i _ => s.size - (Lib.intOf i).toNat)
    case atStart => exact ⟨0, rfl, Nat.zero_le _, by first | rfl | trivial, rfl⟩
    case round =>
      obtain ⟨k, rfl, hk, rfl, hok⟩ := hrel
      by_cases hkn : k < s.size
      · have hkz : (k : Int) < (s.size : Int) := by omega
        have Hd := drop_at hkn
        obtain ⟨x, hx⟩ : ∃ x : UInt8, s[k] = x := ⟨_, rfl⟩
        rw [hx] at Hd
        have HS : Hid (okFrom 0 s.data.toList = ((decide (Up x.toNat) || (decide (2 ≤ k) && decide (Dg x.toNat))) && okFrom (k + 1) (s.data.toList.drop (k + 1)))) := by
          have h1 := hok.out
          rw [Hd, okFrom] at h1
          exact h1.symm
        have hxl := x.toNat_lt
        clear Hd hok
        by_cases hu : Up x.toNat
        · have HU : Hid (Up x.toNat) := hu
          clear hu
          go_wp2_with (go_at_call 90; refine (calls_t (xletter x.toNat (by omega) _) HU.out).mono ?_; rintro e w1 ⟨rfl, rfl⟩)
          go_roundw
          case rel =>
            refine ⟨k + 1, by go_num, by omega, by first | rfl | trivial, ?_⟩
            unfold Hid
            rw [HS.out, decide_eq_true HU.out, Bool.true_or, Bool.true_and]
          case measure =>
            simp [Lib.intOf]
            omega
        · have HU : Hid (¬ Up x.toNat) := hu
          clear hu
          by_cases h2 : k < 2
          · have h2z : (k : Int) < 2 := by omega
            go_wp2_with (go_at_call 90; refine (calls_f (xletter x.toNat (by omega) _) HU.out).mono ?_; rintro e w1 ⟨rfl, rfl⟩)
            go_ret
            refine BP.f ?_
            rw [HH.out, HS.out, decide_eq_false HU.out, decide_eq_false (by omega : ¬ 2 ≤ k), Bool.false_and, Bool.or_false, Bool.false_and]
            exact Bool.false_ne_true
          · have h2z : ¬ (k : Int) < 2 := by omega
            by_cases hg : Dg x.toNat
            · have HG : Hid (Dg x.toNat) := hg
              clear hg
              go_wp2_with (first | (go_at_call 90; refine (calls_f (xletter x.toNat (by omega) _) HU.out).mono ?_; rintro e w1 ⟨rfl, rfl⟩) | (go_at_call 77; refine (calls_t (xdigit x.toNat (by omega) _) HG.out).mono ?_; rintro e w1 ⟨rfl, rfl⟩))
              go_roundw
              case rel =>
                refine ⟨k + 1, by go_num, by omega, by first | rfl | trivial, ?_⟩
                unfold Hid
                rw [HS.out, decide_eq_true HG.out, decide_eq_true (by omega : 2 ≤ k), Bool.true_and, Bool.or_true, Bool.true_and]
              case measure =>
                simp [Lib.intOf]
                omega
            · have HG : Hid (¬ Dg x.toNat) := hg
              clear hg
              go_wp2_with (first | (go_at_call 90; refine (calls_f (xletter x.toNat (by omega) _) HU.out).mono ?_; rintro e w1 ⟨rfl, rfl⟩) | (go_at_call 77; refine (calls_f (xdigit x.toNat (by omega) _) HG.out).mono ?_; rintro e w1 ⟨rfl, rfl⟩))
              go_ret
              refine BP.f ?_
              rw [HH.out, HS.out, decide_eq_false HU.out, decide_eq_false HG.out, Bool.and_false, Bool.or_false, Bool.false_and]
              exact Bool.false_ne_true
      · have hkz : ¬ (k : Int) < (s.size : Int) := by omega
        go_wp2_with fail
        go_ret
        refine BP.t ?_
        have h1 := hok.out
        rw [List.drop_of_length_le (by rw [HL.out]; omega), okFrom] at h1
        rw [HH.out]
        exact h1.symm
  · have HH : Hid (¬ head s.data.toList = true) := fun h => h11 ((HL.out).symm.trans (head_len h))
    have hne : (((s.size : Nat) : Int) != 11) = true := by rw [bne_iff_ne]; omega
    clear h11
    go_enter Try.func84, Try.ntmps84
    go_wp2_with fail
    go_ret
    exact BP.f HH.out
theorem an_at {l : List UInt8} (h : an l = true) : ∀ x ∈ l, Up x.toNat ∨ Dg x.toNat := by
  intro x hx
  induction l with
  | nil => simp at hx
  | cons c l ih =>
    rw [an, Bool.and_eq_true, Bool.or_eq_true, decide_eq_true_eq, decide_eq_true_eq] at h
    rcases List.mem_cons.1 hx with rfl | hx
    · exact h.1
    · exact ih h.2 hx
theorem xweighZ (z : Int) (d : Nat) (hz : z = d) (hd : d ≤ 9) (b : Bool) (w : World) : Calls Try.prog 92 #[.int .i64 z, .bool b] w (NP .i64 (wgt b d) w) := by
  subst hz
  exact xweigh d hd b w
set_option maxHeartbeats 4000000 in
theorem xsum (s : ByteArray) (hs : s.size = 11) (ha : an s.data.toList = true) (w : World) : Calls Try.prog 85 #[.string s] w (NP .i64 (tot s.data.toList) w) := by
  have HL : Hid (s.data.toList.length = s.size) := rfl
  have HA : Hid (∀ k (h : k < s.size), Up s[k].toNat ∨ Dg s[k].toNat) := fun k h => an_at ha _ (by rw [← at_data h, List.getD_eq_getElem?_getD, List.getElem?_eq_getElem (by exact h)]; exact List.getElem_mem _)
  have hs11 : (s.size : Int) ≤ 11 := by omega
  have hs11' : 11 ≤ (s.size : Int) := by omega
  have HS11 : Hid (s.size = 11) := hs
  clear hs ha
  go_enter Try.func85, Try.ntmps85
  go_wp2_with fail
  go_loopw [3, 4, 5] (fun t d i wr => ∃ (k m : Nat) (b : Bool), i = .int .i64 ((k : Int) - 1) ∧ k ≤ s.size ∧ t = .int .i64 m ∧ d = .bool b ∧ m ≤ 18 * (11 - k) ∧ w = wr ∧ Hid (m + sm b (ds (s.data.toList.take k)).reverse = tot s.data.toList)) (fun _ _ i _ => (Lib.intOf i + 1).toNat)
  case atStart => exact ⟨s.size, 0, true, by first | rfl | go_num, Nat.le_refl _, rfl, rfl, by omega, by first | rfl | trivial, by unfold Hid tot; rw [List.take_of_length_le (by rw [HL.out]; omega), Nat.zero_add]⟩
  case round =>
    obtain ⟨k, m, b, rfl, hk, rfl, rfl, hm, rfl, hsum⟩ := hrel
    have hm11 : m ≤ 18 * 11 := by omega
    by_cases hkn : 0 < k
    · obtain ⟨j, rfl⟩ : ∃ j, k = j + 1 := ⟨k - 1, by omega⟩
      have hj : j < s.size := by omega
      have e1 : ((j + 1 : Nat) : Int) - 1 = (j : Int) := by omega
      have hjz : (j : Int) < (s.size : Int) := by omega
      have ht := take_at hj
      have hAN := HA.out j hj
      obtain ⟨x, hx⟩ : ∃ x : UInt8, s[j] = x := ⟨_, rfl⟩
      rw [hx] at ht hAN
      have hxl := x.toNat_lt
      rw [e1]
      by_cases hu : Up x.toNat
      · have hst : Hid (m + (wgt b ((x.toNat - 55) % 10) + wgt (!b) ((x.toNat - 55) / 10) + sm b (ds (s.data.toList.take j)).reverse) = tot s.data.toList) := by
          have h1 := hsum.out
          rw [ht, sm_up b _ x hu] at h1
          exact h1
        have hw1 := wgt_le b ((x.toNat - 55) % 10) (by omega)
        have hw2 := wgt_le (!b) ((x.toNat - 55) / 10) (by omega)
        have HU : Hid (Up x.toNat) := hu
        have HV : Hid (vl x.toNat = x.toNat - 55) := vl_up hu
        have hv : vl x.toNat ≤ 35 := by rw [HV.out]; omega
        have e2 : (x.toNat - 55) % 10 = vl x.toNat % 10 := by rw [HV.out]
        have e3 : (x.toNat - 55) / 10 = vl x.toNat / 10 := by rw [HV.out]
        rw [e2, e3] at hst
        rw [e2] at hw1
        rw [e3] at hw2
        have HX : Hid (∀ w, Calls Try.prog 91 #[.int .u8 x.toNat] w (NP .i64 (vl x.toNat) w)) := fun w => xvalue x.toNat (by omega) hAN w
        have HP : Hid (∀ w, Calls Try.prog 92 #[.int .i64 ((vl x.toNat : Int) % 10), .bool b] w (NP .i64 (wgt b (vl x.toNat % 10)) w)) := fun w => xweighZ _ _ (by omega) (by omega) b w
        have HQ : Hid (∀ w, Calls Try.prog 92 #[.int .i64 ((vl x.toNat : Int) / 10), .bool (!b)] w (NP .i64 (wgt (!b) (vl x.toNat / 10)) w)) := fun w => xweighZ _ _ (by omega) (by omega) (!b) w
        clear hu ht hAN hsum e1 e2 e3 HV
        generalize vl x.toNat = v at *
        generalize wgt b (v % 10) = p at *
        generalize wgt (!b) (v / 10) = q at *
        go_wp2_with fail
        refine (HX.out _).mono ?_
        rintro e w1 ⟨rfl, rfl⟩
        go_wp2_with fail
        refine (HP.out _).mono ?_
        rintro e w1 ⟨rfl, rfl⟩
        go_wp2_with fail
        refine (calls_t (xletter x.toNat (by omega) _) HU.out).mono ?_
        rintro e w1 ⟨rfl, rfl⟩
        go_wp2_with fail
        refine (HQ.out _).mono ?_
        rintro e w1 ⟨rfl, rfl⟩
        go_wp2_with fail
        go_roundw
        case rel =>
          refine ⟨j, m + p + q, b, by go_num, by omega, by go_num, rfl, by omega, by first | rfl | trivial, ?_⟩
          have h1 := hst.out
          unfold Hid
          omega
        case measure =>
          simp [Lib.intOf]
      · have hg : Dg x.toNat := hAN.resolve_left hu
        have hst : Hid (m + (wgt b (x.toNat - 48) + sm (!b) (ds (s.data.toList.take j)).reverse) = tot s.data.toList) := by
          have h1 := hsum.out
          rw [ht, sm_dg b _ x hg] at h1
          exact h1
        have hw1 := wgt_le b (x.toNat - 48) (by omega)
        have HU : Hid (¬ Up x.toNat) := hu
        have HV : Hid (vl x.toNat = x.toNat - 48) := vl_dg hg
        have hv : vl x.toNat ≤ 9 := by rw [HV.out]; omega
        rw [← HV.out] at hst hw1
        have HX : Hid (∀ w, Calls Try.prog 91 #[.int .u8 x.toNat] w (NP .i64 (vl x.toNat) w)) := fun w => xvalue x.toNat (by omega) hAN w
        have HP : Hid (∀ w, Calls Try.prog 92 #[.int .i64 ((vl x.toNat : Int) % 10), .bool b] w (NP .i64 (wgt b (vl x.toNat)) w)) := fun w => xweighZ _ _ (by omega) (by omega) b w
        clear hu hg ht hAN hsum e1 HV
        generalize vl x.toNat = v at *
        generalize wgt b v = p at *
        go_wp2_with fail
        refine (HX.out _).mono ?_
        rintro e w1 ⟨rfl, rfl⟩
        go_wp2_with fail
        refine (HP.out _).mono ?_
        rintro e w1 ⟨rfl, rfl⟩
        go_wp2_with fail
        refine (calls_f (xletter x.toNat (by omega) _) HU.out).mono ?_
        rintro e w1 ⟨rfl, rfl⟩
        go_wp2_with fail
        go_roundw
        case rel =>
          refine ⟨j, m + p, !b, by go_num, by omega, by go_num, rfl, by omega, by first | rfl | trivial, ?_⟩
          have h1 := hst.out
          unfold Hid
          omega
        case measure =>
          simp [Lib.intOf]
    · obtain rfl : k = 0 := by omega
      go_wp2_with fail
      go_ret
      refine NP.mk ?_
      have h1 := hsum.out
      rw [List.take_zero] at h1
      simp [ds, sm] at h1
      omega
end Go.Proofs.Ytbgdmpaghkmadaa.N5
