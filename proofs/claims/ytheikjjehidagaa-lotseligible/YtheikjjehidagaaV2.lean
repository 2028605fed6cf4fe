/- package isin and the reference: digits, Check -/
import Derived.Test.YtheikjjehidagaaV1
import Derived.WalkKit
import Derived.ProofKit
import Derived.Handy
import Derived.WalkLawsBesides
import Derived.WalkSpells
import Derived.BigQuiet
import Derived.BigCall
import Derived.Deep.QuietTactic
import Derived.Deep.Light
import Derived.Deep.OwnRows
import Derived.Laws.AppendOwnNone
import Derived.Laws.Strings3
import Derived.Laws.RangeAny
import Derived.Deep.RegionWith
import Derived.Lib.BitFns
import Derived.Lib.Walk
import Derived.Lib.Strings
import Derived.Lib.OthersKept
import Derived.Deep.CutBlock
import Derived.Deep.DeepCutAuto
import Derived.Deep.LoopGhost
import Derived.Deep.RegionHeld3
import Derived.Lib.SmallJoins
import Derived.Maps.AppendAt
import Derived.Laws.IdiomStrings
import Derived.Lib.AppendZeros
import Derived.Deep.WholeRow
import Derived.Laws.BitsAllLaws
import Derived.Lib.ConvBytes
import Derived.Deep.RegionLaw
namespace Go.Proofs.Ytheikjjehidagaa.H5.N5
open Go.RowKit
set_option linter.unusedVariables false
set_option linter.unusedSimpArgs false
/-- A call answers a bool, and leaves the world alone. -/
def BP (p : Prop) [Decidable p] (w : World) (e : Ending) (w' : World) : Prop := e = .returned (.bool (decide p)) ∧ w = w'
theorem BP.t {p : Prop} [Decidable p] {w : World} (h : p) : BP p w (.returned (.bool true)) w := ⟨by rw [decide_eq_true h], rfl⟩
theorem BP.f {p : Prop} [Decidable p] {w : World} (h : ¬ p) : BP p w (.returned (.bool false)) w := ⟨by rw [decide_eq_false h], rfl⟩
theorem BP.b {p : Prop} [Decidable p] {w : World} {b : Bool} (h : b = true ↔ p) : BP p w (.returned (.bool b)) w := ⟨by rw [Bool.eq_iff_iff.2 (h.trans decide_eq_true_iff.symm)], rfl⟩
theorem calls_t {p : Prop} [Decidable p] {f : Nat} {args : Array Value} {w : World} (h : Calls Try.prog f args w (BP p w)) (hp : p) : Calls Try.prog f args w fun e w' => e = .returned (.bool true) ∧ w = w' :=
  h.mono fun e w' ⟨he, hw⟩ => ⟨by rw [he, decide_eq_true hp], hw⟩
theorem calls_f {p : Prop} [Decidable p] {f : Nat} {args : Array Value} {w : World} (h : Calls Try.prog f args w (BP p w)) (hp : ¬ p) : Calls Try.prog f args w fun e w' => e = .returned (.bool false) ∧ w = w' :=
  h.mono fun e w' ⟨he, hw⟩ => ⟨by rw [he, decide_eq_false hp], hw⟩
/-- A call answers a number, and leaves the world alone. -/
def NP (k : IntKind) (n : Int) (w : World) (e : Ending) (w' : World) : Prop := e = .returned (.int k n) ∧ w = w'
theorem NP.mk {k : IntKind} {n m : Int} {w : World} (h : m = n) : NP k n w (.returned (.int k m)) w := ⟨by rw [h], rfl⟩

set_option maxHeartbeats 4000000 in
theorem xletter (c : Nat) (hc : c < 256) (w : World) : Calls Try.prog 118 #[.int .u8 c] w (BP (Up c) w) := by
  go_enter Try.func118, Try.ntmps118
  go_wp2_with go_in
  all_goals go_ret
  all_goals first | exact BP.t (by omega) | exact BP.f (by omega) | (refine BP.b ?_; simp only [Bool.and_eq_true, Bool.or_eq_true, decide_eq_true_eq, bne_iff_ne, ne_eq, beq_iff_eq]; omega)
set_option maxHeartbeats 4000000 in
theorem xdigit (c : Nat) (hc : c < 256) (w : World) : Calls Try.prog 100 #[.int .u8 c] w (BP (Dg c) w) := by
  go_enter Try.func100, Try.ntmps100
  go_wp2_with go_in
  all_goals go_ret
  all_goals first | exact BP.t (by omega) | exact BP.f (by omega) | (refine BP.b ?_; simp only [Bool.and_eq_true, Bool.or_eq_true, decide_eq_true_eq, bne_iff_ne, ne_eq, beq_iff_eq]; omega)
/-- the number that a sign stands for -/
def vl (c : Nat) : Nat := if 65 ≤ c ∧ c ≤ 90 then c - 55 else c - 48
theorem vl_up {c : Nat} (h : Up c) : vl c = c - 55 := if_pos h
theorem vl_dg {c : Nat} (h : Dg c) : vl c = c - 48 := if_neg (by omega)
set_option maxHeartbeats 4000000 in
theorem xvalue (c : Nat) (hc : c < 256) (h : Up c ∨ Dg c) (w : World) : Calls Try.prog 119 #[.int .u8 c] w (NP .i64 (vl c) w) := by
  by_cases h1 : Up c
  · have H : Hid (vl c = c - 55) := vl_up h1
    have H1 : Hid (Up c) := h1
    have h65 : 65 ≤ c := h1.1
    clear h h1
    go_enter Try.func119, Try.ntmps119
    go_wp2_with fail
    refine (calls_t (xletter c hc _) H1.out).mono ?_
    rintro e w1 ⟨rfl, rfl⟩
    go_wp2_with fail
    go_ret
    exact NP.mk (by rw [H.out]; omega)
  · have h2 : Dg c := h.resolve_left h1
    have H : Hid (vl c = c - 48) := vl_dg h2
    have H1 : Hid (¬ Up c) := h1
    have h48 : 48 ≤ c := h2.1
    clear h h1 h2
    go_enter Try.func119, Try.ntmps119
    go_wp2_with fail
    refine (calls_f (xletter c hc _) H1.out).mono ?_
    rintro e w1 ⟨rfl, rfl⟩
    go_wp2_with fail
    go_ret
    exact NP.mk (by rw [H.out]; omega)
set_option maxHeartbeats 4000000 in
theorem xweigh (d : Nat) (hd : d ≤ 9) (b : Bool) (w : World) : Calls Try.prog 120 #[.int .i64 d, .bool b] w (NP .i64 (wgt b d) w) := by
  cases b
  · go_enter Try.func120, Try.ntmps120
    go_wp2_with fail
    go_ret
    exact NP.mk (by simp [wgt])
  · go_enter Try.func120, Try.ntmps120
    go_wp2_with fail
    go_ret
    exact NP.mk (by simp only [wgt, if_true]; omega)
theorem at_data {s : ByteArray} {k : Nat} (h : k < s.size) : s.data.toList.getD k 0 = s[k] := by
  have h1 : k < s.data.toList.length := h
  rw [List.getD_eq_getElem?_getD, List.getElem?_eq_getElem h1]
  rfl
theorem drop_at {s : ByteArray} {k : Nat} (h : k < s.size) : s.data.toList.drop k = s[k] :: s.data.toList.drop (k + 1) := by
  have h1 : k < s.data.toList.length := h
  rw [List.drop_eq_getElem_cons h1]
  rfl
theorem take_at {s : ByteArray} {k : Nat} (h : k < s.size) : s.data.toList.take (k + 1) = s.data.toList.take k ++ [s[k]] := by
  rw [List.take_succ_eq_append_getElem (by simpa using h)]
  rfl
set_option maxHeartbeats 4000000 in
theorem xhead (s : ByteArray) (hs : s.size ≤ 9223372036854775807) (w : World) : Calls Try.prog 111 #[.string s] w (BP (head s.data.toList = true) w) := by
  have HL : Hid (s.data.toList.length = s.size) := rfl
  by_cases h11 : s.size = 11
  · have HH : Hid (head s.data.toList = okFrom 0 s.data.toList) := by
      unfold Hid head
      rw [HL.out, decide_eq_true h11, Bool.true_and]
    have hne : (((s.size : Nat) : Int) != 11) = false := by rw [h11]; rfl
    have h11z : (s.size : Int) ≤ 11 := by omega
    have H11 : Hid (s.size = 11) := h11
    clear h11
    go_enter Try.func111, Try.ntmps111
    go_wp2_with fail
    go_loopw [9] (fun i wr => ∃ k : Nat, i = .int .i64 k ∧ k ≤ s.size ∧ w = wr ∧ Hid (okFrom k (s.data.toList.drop k) = okFrom 0 s.data.toList)) (fun i _ => s.size - (Lib.intOf i).toNat)
    case atStart => exact ⟨0, rfl, Nat.zero_le _, by first | rfl | trivial, rfl⟩
    case round =>
      obtain ⟨k, rfl, hk, rfl, hok⟩ := hrel
      by_cases hkn : k < s.size
      · have hkz : (k : Int) < (s.size : Int) := by omega
        have Hd := drop_at hkn
        obtain ⟨x, hx⟩ : ∃ x : UInt8, s[k] = x := ⟨_, rfl⟩
        rw [hx] at Hd
        have HS : Hid (okFrom 0 s.data.toList = ((decide (Up x.toNat) || (decide (2 ≤ k) && decide (Dg x.toNat))) && okFrom (k + 1) (s.data.toList.drop (k + 1)))) := by
          have h1 := hok.out
          rw [Hd, okFrom] at h1
          exact h1.symm
        have hxl := x.toNat_lt
        clear Hd hok
        by_cases hu : Up x.toNat
        · have HU : Hid (Up x.toNat) := hu
          clear hu
          go_wp2_with (go_at_call 118; refine (calls_t (xletter x.toNat (by omega) _) HU.out).mono ?_; rintro e w1 ⟨rfl, rfl⟩)
          go_roundw
          case rel =>
            refine ⟨k + 1, by go_num, by omega, by first | rfl | trivial, ?_⟩
            unfold Hid
            rw [HS.out, decide_eq_true HU.out, Bool.true_or, Bool.true_and]
          case measure =>
            simp [Lib.intOf]
            omega
        · have HU : Hid (¬ Up x.toNat) := hu
          clear hu
          by_cases h2 : k < 2
          · have h2z : (k : Int) < 2 := by omega
            go_wp2_with (go_at_call 118; refine (calls_f (xletter x.toNat (by omega) _) HU.out).mono ?_; rintro e w1 ⟨rfl, rfl⟩)
            go_ret
            refine BP.f ?_
            rw [HH.out, HS.out, decide_eq_false HU.out, decide_eq_false (by omega : ¬ 2 ≤ k), Bool.false_and, Bool.or_false, Bool.false_and]
            exact Bool.false_ne_true
          · have h2z : ¬ (k : Int) < 2 := by omega
            by_cases hg : Dg x.toNat
            · have HG : Hid (Dg x.toNat) := hg
              clear hg
              go_wp2_with (first | (go_at_call 118; refine (calls_f (xletter x.toNat (by omega) _) HU.out).mono ?_; rintro e w1 ⟨rfl, rfl⟩) | (go_at_call 100; refine (calls_t (xdigit x.toNat (by omega) _) HG.out).mono ?_; rintro e w1 ⟨rfl, rfl⟩))
              go_roundw
              case rel =>
                refine ⟨k + 1, by go_num, by omega, by first | rfl | trivial, ?_⟩
                unfold Hid
                rw [HS.out, decide_eq_true HG.out, decide_eq_true (by omega : 2 ≤ k), Bool.true_and, Bool.or_true, Bool.true_and]
              case measure =>
                simp [Lib.intOf]
                omega
            · have HG : Hid (¬ Dg x.toNat) := hg
              clear hg
              go_wp2_with (first | (go_at_call 118; refine (calls_f (xletter x.toNat (by omega) _) HU.out).mono ?_; rintro e w1 ⟨rfl, rfl⟩) | (go_at_call 100; refine (calls_f (xdigit x.toNat (by omega) _) HG.out).mono ?_; rintro e w1 ⟨rfl, rfl⟩))
              go_ret
              refine BP.f ?_
              rw [HH.out, HS.out, decide_eq_false HU.out, decide_eq_false HG.out, Bool.and_false, Bool.or_false, Bool.false_and]
              exact Bool.false_ne_true
      · have hkz : ¬ (k : Int) < (s.size : Int) := by omega
        go_wp2_with fail
        go_ret
        refine BP.t ?_
        have h1 := hok.out
        rw [List.drop_of_length_le (by rw [HL.out]; omega), okFrom] at h1
        rw [HH.out]
        exact h1.symm
  · have HH : Hid (¬ head s.data.toList = true) := fun h => h11 ((HL.out).symm.trans (head_len h))
    have hne : (((s.size : Nat) : Int) != 11) = true := by rw [bne_iff_ne]; omega
    clear h11
    go_enter Try.func111, Try.ntmps111
    go_wp2_with fail
    go_ret
    exact BP.f HH.out
theorem an_at {l : List UInt8} (h : an l = true) : ∀ x ∈ l, Up x.toNat ∨ Dg x.toNat := by
  intro x hx
  induction l with
  | nil => simp at hx
  | cons c l ih =>
    rw [an, Bool.and_eq_true, Bool.or_eq_true, decide_eq_true_eq, decide_eq_true_eq] at h
    rcases List.mem_cons.1 hx with rfl | hx
    · exact h.1
    · exact ih h.2 hx
theorem xweighZ (z : Int) (d : Nat) (hz : z = d) (hd : d ≤ 9) (b : Bool) (w : World) : Calls Try.prog 120 #[.int .i64 z, .bool b] w (NP .i64 (wgt b d) w) := by
  subst hz
  exact xweigh d hd b w
set_option maxHeartbeats 4000000 in
theorem xsum (s : ByteArray) (hs : s.size = 11) (ha : an s.data.toList = true) (w : World) : Calls Try.prog 112 #[.string s] w (NP .i64 (tot s.data.toList) w) := by
  have HL : Hid (s.data.toList.length = s.size) := rfl
  have HA : Hid (∀ k (h : k < s.size), Up s[k].toNat ∨ Dg s[k].toNat) := fun k h => an_at ha _ (by rw [← at_data h, List.getD_eq_getElem?_getD, List.getElem?_eq_getElem (by exact h)]; exact List.getElem_mem _)
  have hs11 : (s.size : Int) ≤ 11 := by omega
  have hs11' : 11 ≤ (s.size : Int) := by omega
  have HS11 : Hid (s.size = 11) := hs
  clear hs ha
  go_enter Try.func112, Try.ntmps112
  go_wp2_with fail
  go_loopw [3, 4, 5] (fun t d i wr => ∃ (k m : Nat) (b : Bool), i = .int .i64 ((k : Int) - 1) ∧ k ≤ s.size ∧ t = .int .i64 m ∧ d = .bool b ∧ m ≤ 18 * (11 - k) ∧ w = wr ∧ Hid (m + sm b (ds (s.data.toList.take k)).reverse = tot s.data.toList)) (fun _ _ i _ => (Lib.intOf i + 1).toNat)
  case atStart => exact ⟨s.size, 0, true, by first | rfl | go_num, Nat.le_refl _, rfl, rfl, by omega, by first | rfl | trivial, by unfold Hid tot; rw [List.take_of_length_le (by rw [HL.out]; omega), Nat.zero_add]⟩
  case round =>
    obtain ⟨k, m, b, rfl, hk, rfl, rfl, hm, rfl, hsum⟩ := hrel
    have hm11 : m ≤ 18 * 11 := by omega
    by_cases hkn : 0 < k
    · obtain ⟨j, rfl⟩ : ∃ j, k = j + 1 := ⟨k - 1, by omega⟩
      have hj : j < s.size := by omega
      have e1 : ((j + 1 : Nat) : Int) - 1 = (j : Int) := by omega
      have hjz : (j : Int) < (s.size : Int) := by omega
      have ht := take_at hj
      have hAN := HA.out j hj
      obtain ⟨x, hx⟩ : ∃ x : UInt8, s[j] = x := ⟨_, rfl⟩
      rw [hx] at ht hAN
      have hxl := x.toNat_lt
      rw [e1]
      by_cases hu : Up x.toNat
      · have hst : Hid (m + (wgt b ((x.toNat - 55) % 10) + wgt (!b) ((x.toNat - 55) / 10) + sm b (ds (s.data.toList.take j)).reverse) = tot s.data.toList) := by
          have h1 := hsum.out
          rw [ht, sm_up b _ x hu] at h1
          exact h1
        have hw1 := wgt_le b ((x.toNat - 55) % 10) (by omega)
        have hw2 := wgt_le (!b) ((x.toNat - 55) / 10) (by omega)
        have HU : Hid (Up x.toNat) := hu
        have HV : Hid (vl x.toNat = x.toNat - 55) := vl_up hu
        have hv : vl x.toNat ≤ 35 := by rw [HV.out]; omega
        have e2 : (x.toNat - 55) % 10 = vl x.toNat % 10 := by rw [HV.out]
        have e3 : (x.toNat - 55) / 10 = vl x.toNat / 10 := by rw [HV.out]
        rw [e2, e3] at hst
        rw [e2] at hw1
        rw [e3] at hw2
        have HX : Hid (∀ w, Calls Try.prog 119 #[.int .u8 x.toNat] w (NP .i64 (vl x.toNat) w)) := fun w => xvalue x.toNat (by omega) hAN w
        have HP : Hid (∀ w, Calls Try.prog 120 #[.int .i64 ((vl x.toNat : Int) % 10), .bool b] w (NP .i64 (wgt b (vl x.toNat % 10)) w)) := fun w => xweighZ _ _ (by omega) (by omega) b w
        have HQ : Hid (∀ w, Calls Try.prog 120 #[.int .i64 ((vl x.toNat : Int) / 10), .bool (!b)] w (NP .i64 (wgt (!b) (vl x.toNat / 10)) w)) := fun w => xweighZ _ _ (by omega) (by omega) (!b) w
        clear hu ht hAN hsum e1 e2 e3 HV
        generalize vl x.toNat = v at *
        generalize wgt b (v % 10) = p at *
        generalize wgt (!b) (v / 10) = q at *
        go_wp2_with fail
        refine (HX.out _).mono ?_
        rintro e w1 ⟨rfl, rfl⟩
        go_wp2_with fail
        refine (HP.out _).mono ?_
        rintro e w1 ⟨rfl, rfl⟩
        go_wp2_with fail
        refine (calls_t (xletter x.toNat (by omega) _) HU.out).mono ?_
        rintro e w1 ⟨rfl, rfl⟩
        go_wp2_with fail
        refine (HQ.out _).mono ?_
        rintro e w1 ⟨rfl, rfl⟩
        go_wp2_with fail
        go_roundw
        case rel =>
          refine ⟨j, m + p + q, b, by go_num, by omega, by go_num, rfl, by omega, by first | rfl | trivial, ?_⟩
          have h1 := hst.out
          unfold Hid
          omega
        case measure =>
          simp [Lib.intOf]
      · have hg : Dg x.toNat := hAN.resolve_left hu
        have hst : Hid (m + (wgt b (x.toNat - 48) + sm (!b) (ds (s.data.toList.take j)).reverse) = tot s.data.toList) := by
          have h1 := hsum.out
          rw [ht, sm_dg b _ x hg] at h1
          exact h1
        have hw1 := wgt_le b (x.toNat - 48) (by omega)
        have HU : Hid (¬ Up x.toNat) := hu
        have HV : Hid (vl x.toNat = x.toNat - 48) := vl_dg hg
        have hv : vl x.toNat ≤ 9 := by rw [HV.out]; omega
        rw [← HV.out] at hst hw1
        have HX : Hid (∀ w, Calls Try.prog 119 #[.int .u8 x.toNat] w (NP .i64 (vl x.toNat) w)) := fun w => xvalue x.toNat (by omega) hAN w
        have HP : Hid (∀ w, Calls Try.prog 120 #[.int .i64 ((vl x.toNat : Int) % 10), .bool b] w (NP .i64 (wgt b (vl x.toNat)) w)) := fun w => xweighZ _ _ (by omega) (by omega) b w
        clear hu hg ht hAN hsum e1 HV
        generalize vl x.toNat = v at *
        generalize wgt b v = p at *
        go_wp2_with fail
        refine (HX.out _).mono ?_
        rintro e w1 ⟨rfl, rfl⟩
        go_wp2_with fail
        refine (HP.out _).mono ?_
        rintro e w1 ⟨rfl, rfl⟩
        go_wp2_with fail
        refine (calls_f (xletter x.toNat (by omega) _) HU.out).mono ?_
        rintro e w1 ⟨rfl, rfl⟩
        go_wp2_with fail
        go_roundw
        case rel =>
          refine ⟨j, m + p, !b, by go_num, by omega, by go_num, rfl, by omega, by first | rfl | trivial, ?_⟩
          have h1 := hst.out
          unfold Hid
          omega
        case measure =>
          simp [Lib.intOf]
    · obtain rfl : k = 0 := by omega
      go_wp2_with fail
      go_ret
      refine NP.mk ?_
      have h1 := hsum.out
      rw [List.take_zero] at h1
      simp [ds, sm] at h1
      omega
def DP (a e : Nat) (w : World) (r : Ending) (w' : World) : Prop := r = .returned (.tuple #[.int .u8 a, .int .i64 e]) ∧ w = w'
theorem DP.mk {a e : Nat} {x y : Int} {w : World} (h : x = a) (h2 : y = e) : DP a e w (.returned (.tuple #[.int .u8 x, .int .i64 y])) w := ⟨by rw [h, h2], rfl⟩
def dgA (l : List UInt8) : Nat := if head l = true then 48 + dgN l else 0
def dgE (l : List UInt8) : Nat := if head l = true then 0 else 11
set_option maxHeartbeats 4000000 in
theorem xDigit (s : ByteArray) (hs : s.size ≤ 9223372036854775807) (w : World) : Calls Try.prog 101 #[.string s] w (DP (dgA s.data.toList) (dgE s.data.toList) w) := by
  by_cases h : head s.data.toList = true
  · have HA : Hid (dgA s.data.toList = 48 + dgN s.data.toList) := if_pos h
    have HE : Hid (dgE s.data.toList = 0) := if_pos h
    have HH : Hid (head s.data.toList = true) := h
    have h11 : s.size = 11 := head_len h
    have HS : Hid (∀ w, Calls Try.prog 112 #[.string s] w (NP .i64 (tot s.data.toList) w)) := fun w => xsum s h11 (head_an h) w
    have ht : tot s.data.toList ≤ 198 := by
      have h1 := sm_le true (ds s.data.toList).reverse (fun d hd => ds_le (head_an h) d (List.mem_reverse.1 hd))
      have h2 := ds_len s.data.toList
      have h3 : s.data.toList.length = 11 := h11
      unfold tot
      rw [List.length_reverse] at h1
      omega
    have HD : Hid (dgN s.data.toList = (10 - tot s.data.toList % 10) % 10) := rfl
    clear h h11
    generalize tot s.data.toList = t at *
    go_enter Try.func101, Try.ntmps101
    go_wp2_with fail
    refine (calls_t (xhead s hs _) HH.out).mono ?_
    rintro e w1 ⟨rfl, rfl⟩
    go_wp2_with fail
    refine (HS.out _).mono ?_
    rintro e w1 ⟨rfl, rfl⟩
    go_wp2_with fail
    go_ret2
    refine DP.mk ?_ ?_
    · rw [HA.out, HD.out]
      omega
    · rw [HE.out]
      rfl
  · have HA : Hid (dgA s.data.toList = 0) := if_neg h
    have HE : Hid (dgE s.data.toList = 11) := if_neg h
    have HH : Hid (¬ head s.data.toList = true) := h
    clear h
    go_enter Try.func101, Try.ntmps101
    go_wp2_with fail
    refine (calls_f (xhead s hs _) HH.out).mono ?_
    rintro e w1 ⟨rfl, rfl⟩
    go_wp2_with fail
    go_ret2
    exact DP.mk (by rw [HA.out]; rfl) (by rw [HE.out]; rfl)
theorem ext_take (s : ByteArray) (e : Nat) : (s.extract 0 e).data.toList = s.data.toList.take e := by
  simp [ByteArray.data_extract]
theorem ext_size (s : ByteArray) (e : Nat) : (s.extract 0 e).size ≤ s.size := by
  simp [ByteArray.size_extract]
  omega
set_option maxHeartbeats 4000000 in
theorem xCheck (s : ByteArray) (hs : s.size ≤ 9223372036854775807) (w : World) : Calls Try.prog 75 #[.string s] w (NP .i64 (chk s.data.toList) w) := by
  by_cases h12 : s.size = 12
  · have hne : (((s.size : Nat) : Int) != 12) = false := by rw [h12]; rfl
    have h12z : (12 : Int) ≤ (s.size : Int) := by omega
    have h11n : 11 < s.size := by omega
    have hx : s.data.toList.getD 11 0 = s[11] := at_data h11n
    have hl12 : s.data.toList.length = 12 := h12
    have HF := @full_last s.data.toList hl12
    have HSH : Hid (shp s.data.toList = (decide (Dg (s.data.toList.getD 11 0).toNat) && head (s.data.toList.take 11))) := by
      unfold Hid shp
      rw [decide_eq_true hl12, Bool.true_and]
    rw [hx] at HF
    rw [hx] at HSH
    obtain ⟨x, hx2⟩ : ∃ x : UInt8, s[11] = x := ⟨_, rfl⟩
    rw [hx2] at HF HSH
    have hxl := x.toNat_lt
    have HFH : Hid (Dg x.toNat → (full s.data.toList % 10 = 0 ↔ x.toNat = 48 + dgN (s.data.toList.take 11))) := HF
    have HC : Hid (∀ w, Calls Try.prog 101 #[.string (s.extract 0 11)] w (DP (dgA (s.data.toList.take 11)) (dgE (s.data.toList.take 11)) w)) := fun w => by
      have := xDigit (s.extract 0 11) (Nat.le_trans (ext_size s 11) hs) w
      rw [ext_take] at this
      exact this
    clear HF hx h12 hl12
    by_cases hg : Dg x.toNat
    · have HG : Hid (Dg x.toNat) := hg
      clear hg
      by_cases hh : head (s.data.toList.take 11) = true
      · have HD := dgN_lt (s.data.toList.take 11)
        have hA : dgA (s.data.toList.take 11) = 48 + dgN (s.data.toList.take 11) := if_pos hh
        have hE : dgE (s.data.toList.take 11) = 0 := if_pos hh
        have HS : Hid (shp s.data.toList = true) := by
          unfold Hid
          rw [HSH.out, decide_eq_true HG.out, hh]
          rfl
        rw [hA, hE] at HC
        clear hh hA hE HSH
        generalize dgN (s.data.toList.take 11) = d at *
        by_cases hd : x.toNat = 48 + d
        · have hc : Hid (chk s.data.toList = 0) := by
            unfold Hid chk
            rw [if_pos HS.out, if_pos ((HFH.out HG.out).2 hd)]
          have hb : ((((48 + d : Nat) : Int) != ((x.toNat : Nat) : Int))) = false := by rw [hd]; simp
          clear hd
          go_enter Try.func75, Try.ntmps75
          go_wp2_with (first | (go_at_call 100; refine (calls_t (xdigit x.toNat (by omega) _) HG.out).mono ?_; rintro e w1 ⟨rfl, rfl⟩) | (go_at_call 101; refine (HC.out _).mono ?_; rintro e w1 ⟨rfl, rfl⟩))
          go_ret
          exact NP.mk (by rw [hc.out]; rfl)
        · have hc : Hid (chk s.data.toList = 12) := by
            unfold Hid chk
            rw [if_pos HS.out, if_neg (fun h => hd ((HFH.out HG.out).1 h))]
          have hb : ((((48 + d : Nat) : Int) != ((x.toNat : Nat) : Int))) = true := by rw [bne_iff_ne]; omega
          clear hd
          go_enter Try.func75, Try.ntmps75
          go_wp2_with (first | (go_at_call 100; refine (calls_t (xdigit x.toNat (by omega) _) HG.out).mono ?_; rintro e w1 ⟨rfl, rfl⟩) | (go_at_call 101; refine (HC.out _).mono ?_; rintro e w1 ⟨rfl, rfl⟩))
          go_ret
          exact NP.mk (by rw [hc.out]; rfl)
      · have hA : dgA (s.data.toList.take 11) = 0 := if_neg hh
        have hE : dgE (s.data.toList.take 11) = 11 := if_neg hh
        have hc : Hid (chk s.data.toList = 11) := by
          unfold Hid chk
          rw [if_neg (by rw [HSH.out, Bool.and_eq_true]; exact fun h => hh h.2)]
        rw [hA, hE] at HC
        clear hh hA hE HSH HFH
        go_enter Try.func75, Try.ntmps75
        go_wp2_with (first | (go_at_call 100; refine (calls_t (xdigit x.toNat (by omega) _) HG.out).mono ?_; rintro e w1 ⟨rfl, rfl⟩) | (go_at_call 101; refine (HC.out _).mono ?_; rintro e w1 ⟨rfl, rfl⟩))
        go_ret
        exact NP.mk (by rw [hc.out]; rfl)
    · have HG : Hid (¬ Dg x.toNat) := hg
      have hc : Hid (chk s.data.toList = 11) := by
        unfold Hid chk
        rw [if_neg (by rw [HSH.out, Bool.and_eq_true, decide_eq_true_eq]; exact fun h => hg h.1)]
      clear hg HSH HFH HC
      go_enter Try.func75, Try.ntmps75
      go_wp2_with (go_at_call 100; refine (calls_f (xdigit x.toNat (by omega) _) HG.out).mono ?_; rintro e w1 ⟨rfl, rfl⟩)
      go_ret
      exact NP.mk (by rw [hc.out]; rfl)
  · have hne : (((s.size : Nat) : Int) != 12) = true := by rw [bne_iff_ne]; omega
    have hc : Hid (chk s.data.toList = 11) := by
      unfold Hid chk shp
      rw [if_neg (by rw [Bool.and_eq_true, decide_eq_true_eq]; exact fun h => h12 h.1)]
    clear h12
    go_enter Try.func75, Try.ntmps75
    go_wp2_with fail
    go_ret
    exact NP.mk (by rw [hc.out]; rfl)
theorem Try.info3 : (Try.prog.info? 3).map (fun i => (i.zero, i.size, i.bytes)) = some (some (.int .i64 0), 1, 8) := by kernel_rfl
/-- numbers as cells -/
def cells (k : IntKind) (xs : List Nat) : List Value := xs.map fun c : Nat => Value.int k (c : Int)
theorem cells_len (k : IntKind) (xs : List Nat) : (cells k xs).length = xs.length := by simp [cells]
theorem cells_app (k : IntKind) (xs ys : List Nat) : cells k (xs ++ ys) = cells k xs ++ cells k ys := by simp [cells]
/-- a slice value whose elements read as these numbers -/
def Seg (k : IntKind) (w : World) (v : Value) (xs : List Nat) : Prop :=
  ∃ a cap, v = .slice a xs.length cap ∧ (xs ≠ [] → ∃ b, a = some ⟨b, 0, none⟩ ∧ b < w.heap.size ∧ ∀ j, j < xs.length → w.cell? ⟨b, j, none⟩ = some (.int k ((xs.getD j 0 : Nat) : Int)))
theorem Seg.of_owns {k : IntKind} {w : World} {base e : Nat} {v : Value} {xs : List Nat} (h : w.ownsRow base e 1 v xs.length (cells k xs)) : Seg k w v xs := by
  by_cases h0 : 0 < xs.length
  · obtain ⟨g, cap, hv, hb, hlt⟩ : ∃ g cap, v = .slice (some ⟨g, 0, none⟩) xs.length cap ∧ base ≤ g ∧ g < w.heap.size := by
      rcases h.2 with ⟨_, hn⟩ | ⟨g, cap, cur, hv, hb, hg, _⟩
      · omega
      · exact ⟨g, cap, hv, hb, (Array.getElem?_eq_some_iff.1 hg).1⟩
    refine ⟨_, cap, hv, fun _ => ⟨g, rfl, hlt, fun j hj => ?_⟩⟩
    have hc := h.cells (g := g) (by rw [hv]; rfl) j (.int k ((xs.getD j 0 : Nat) : Int)) (by simp [cells, List.getD_eq_getElem?_getD, hj])
    have ha : (⟨g, 0, none⟩ : Addr).add j = ⟨g, j, none⟩ := by
      cases j <;> simp [Addr.add]
    rw [ha] at hc
    exact hc
  · have : xs = [] := by
      cases xs with
      | nil => rfl
      | cons _ _ => simp at h0
    subst this
    rcases h.2 with ⟨hv, _⟩ | ⟨g, cap, cur, hv, _⟩
    · exact ⟨none, 0, hv, fun h => absurd rfl h⟩
    · exact ⟨_, cap, hv, fun h => absurd rfl h⟩
theorem cell_two_new (w : World) (x y : Value) (t : TypeId) : ∀ j u, [x, y][j]? = some u → (w.alloc (.cells #[x, y] t)).cell? ((⟨w.heap.size, 0, none⟩ : Addr).add j) = some u := by
  intro j u hj
  match j, hj with
  | 0, hj =>
    simp at hj
    subst hj
    simp [Addr.add]
  | 1, hj =>
    simp at hj
    subst hj
    simp [Addr.add]
theorem one_cells {k : IntKind} {xs : List Nat} : ∀ u ∈ cells k xs, u.oneCell' = true := by
  intro u hu
  simp only [cells, List.mem_map] at hu
  obtain ⟨c, _, rfl⟩ := hu
  rfl
/-- what digits hands back -/
def dsO (l : List UInt8) : List Nat := if an l = true then ds l else []
def SP (l : List UInt8) (w : World) (e : Ending) (w' : World) : Prop := ∃ v, e = .returned (.tuple #[v, .bool (an l)]) ∧ Seg .i64 w' v (dsO l) ∧ Below w.heap.size w w'
theorem SP.mk {l : List UInt8} {w w' : World} {v : Value} {g : Bool} (hg : g = an l) (h : Seg .i64 w' v (dsO l)) (hb : Below w.heap.size w w') : SP l w (.returned (.tuple #[v, .bool g])) w' := ⟨v, by rw [hg], h, hb⟩
set_option maxHeartbeats 4000000 in
theorem rdigits (s : ByteArray) (hs : s.size ≤ 1099511627776) (w : World) : Calls Try.prog 114 #[.string s] w (SP s.data.toList w) := by
  have HL : Hid (s.data.toList.length = s.size) := rfl
  obtain ⟨i0, hi, hz0, hz1, hz2⟩ := info_parts Try.info3
  have HI : Hid (Try.prog.info? 3 = some i0 ∧ i0.zero = some (.int .i64 0) ∧ i0.size = 1 ∧ i0.bytes = 8) := ⟨hi, hz0, hz1, hz2⟩
  clear hi hz0 hz1 hz2
  go_enter Try.func114, Try.ntmps114
  go_wp2_with fail
  go_loopw [4, 5] (fun v i wr => ∃ (k : Nat) (xs : List Nat), i = .int .i64 k ∧ k ≤ s.size ∧ Hid (wr.ownsRow w.heap.size 3 1 v xs.length (cells .i64 xs)) ∧ Hid (Below w.heap.size w wr) ∧ Hid (xs = ds (s.data.toList.take k)) ∧ xs.length ≤ 2 * k ∧ Hid (an (s.data.toList.drop k) = an s.data.toList)) (fun _ i _ => s.size - (Lib.intOf i).toNat)
  case atStart => exact ⟨0, [], rfl, Nat.zero_le _, World.ownsRow_nil _ _ _ _, Below.refl _ _, rfl, Nat.le_refl _, rfl⟩
  case round =>
    obtain ⟨k, xs, rfl, hk, hown, hbw, hxs, hxl, han⟩ := hrel
    by_cases hkn : k < s.size
    · have hkz : (k : Int) < (s.size : Int) := by omega
      have hdr := drop_at hkn
      have htk := take_at hkn
      obtain ⟨x, hx⟩ : ∃ x : UInt8, s[k] = x := ⟨_, rfl⟩
      rw [hx] at hdr htk
      have hxb := x.toNat_lt
      have hsz : w.heap.size ≤ wr.heap.size := hbw.out.size
      have HAN : Hid (an s.data.toList = ((decide (Up x.toNat) || decide (Dg x.toNat)) && an (s.data.toList.drop (k + 1)))) := by
        have h1 := han.out
        rw [hdr, an] at h1
        exact h1.symm
      have HDS : Hid (ds (s.data.toList.take (k + 1)) = xs ++ dsc x.toNat) := by
        unfold Hid
        rw [htk, ds_append, hxs.out, ds, ds, List.append_nil]
      clear hdr htk han hxs
      have Hfin : Hid (∀ (v' : Value) (w1 : World) (o : Obj) (n : Nat), (dsc x.toNat).length = n → (Up x.toNat ∨ Dg x.toNat) → w1.ownsRow w.heap.size 3 1 v' (xs.length + n) (cells .i64 xs ++ cells .i64 (dsc x.toNat)) → (wr.alloc o).grownBy w1 u4.ownBlock →
          (∃ (k' : Nat) (xs' : List Nat), Value.int .i64 ((k : Int) + 1) = .int .i64 k' ∧ k' ≤ s.size ∧ Hid (w1.ownsRow w.heap.size 3 1 v' xs'.length (cells .i64 xs')) ∧ Hid (Below w.heap.size w w1) ∧ Hid (xs' = ds (s.data.toList.take k')) ∧ xs'.length ≤ 2 * k' ∧ Hid (an (s.data.toList.drop k') = an s.data.toList)) ∧ s.size - (Lib.intOf (Value.int .i64 ((k : Int) + 1))).toNat < s.size - (Lib.intOf (Value.int .i64 (k : Int))).toNat) := by
        intro v' w1 o n hn hau ho hg
        refine ⟨⟨k + 1, xs ++ dsc x.toNat, by go_num, by omega, ?_, ?_, HDS.out.symm, ?_, ?_⟩, ?_⟩
        · unfold Hid
          rw [cells_app, List.length_append, hn]
          exact ho
        · exact (hbw.out.alloc hsz _).grown hg (by simp; omega) (fun j hj => (hown.out.lt j hj).1)
        · have := dsc_len x.toNat
          rw [List.length_append]
          omega
        · unfold Hid
          rw [HAN.out, show (decide (Up x.toNat) || decide (Dg x.toNat)) = true by rw [Bool.or_eq_true, decide_eq_true_eq, decide_eq_true_eq]; exact hau, Bool.true_and]
        · simp only [Lib.intOf]
          omega
      by_cases hg : Dg x.toNat
      · have hd := dsc_dg hg
        have h48 : 48 ≤ x.toNat := hg.1
        have h57 : x.toNat ≤ 57 := hg.2
        have hcl : cells .i64 (dsc x.toNat) = [.int .i64 ((x.toNat : Int) - 48)] := by
          rw [hd]
          simp only [cells, List.map]
          rw [show ((x.toNat - 48 : Nat) : Int) = (x.toNat : Int) - 48 by omega]
        have Hcl : Hid (cells .i64 (dsc x.toNat) = [.int .i64 ((x.toNat : Int) - 48)]) := hcl
        have Hn : Hid ((dsc x.toNat).length = 1) := by unfold Hid; rw [hd]; rfl
        have HG : Hid (Dg x.toNat) := hg
        have h1 : ((48 : Int) ≤ (x.toNat : Int)) := by omega
        have h2 : ((x.toNat : Int) ≤ 57) := by omega
        clear hd hcl hg
        go_wp2_with (at_builtin; refine wpList_append_own_at _ rfl _ _ 60 rfl w.heap.size 3 i0 (.int .i64 0) 1 8 Try.underlying60 HI.out.1 HI.out.2.1 HI.out.2.2.1 HI.out.2.2.2 rfl (by decide) _ _ _ rfl (hown.out.alloc _) ⟨wr.heap.size, 0, none⟩ 1 1 [.int .i64 ((x.toNat : Int) - 48)] rfl rfl (cell_one_new _ _ _) (by rw [← Hcl.out]; exact one_cells) (by unfold maxLen; omega) (by omega) (by simp; omega) ?_; intro v' w1 hown' hgrow _ _; have HO : Hid _ := hown'; have HGr : Hid _ := hgrow; clear hown' hgrow)
        exact Hfin.out v' w1 _ 1 Hn.out (Or.inr HG.out) (by rw [Hcl.out]; exact HO.out) HGr.out
      · by_cases hu : Up x.toNat
        · have hd := dsc_up hu
          have h65 : 65 ≤ x.toNat := hu.1
          have h90 : x.toNat ≤ 90 := hu.2
          have hcl : cells .i64 (dsc x.toNat) = [.int .i64 (((x.toNat : Int) - 65 + 10) / 10), .int .i64 (((x.toNat : Int) - 65) % 10)] := by
            rw [hd]
            simp only [cells, List.map]
            rw [show (((x.toNat - 55) / 10 : Nat) : Int) = ((x.toNat : Int) - 65 + 10) / 10 by omega, show (((x.toNat - 55) % 10 : Nat) : Int) = ((x.toNat : Int) - 65) % 10 by omega]
          have Hcl : Hid (cells .i64 (dsc x.toNat) = [.int .i64 (((x.toNat : Int) - 65 + 10) / 10), .int .i64 (((x.toNat : Int) - 65) % 10)]) := hcl
          have Hn : Hid ((dsc x.toNat).length = 2) := by unfold Hid; rw [hd]; rfl
          have HU : Hid (Up x.toNat) := hu
          have h1 : ((48 : Int) ≤ (x.toNat : Int)) := by omega
          have h2 : ¬ ((x.toNat : Int) ≤ 57) := by omega
          have h3 : ((65 : Int) ≤ (x.toNat : Int)) := by omega
          have h4 : ((x.toNat : Int) ≤ 90) := by omega
          clear hd hcl hu hg
          go_wp2_with (at_builtin; refine wpList_append_own_at _ rfl _ _ 60 rfl w.heap.size 3 i0 (.int .i64 0) 1 8 Try.underlying60 HI.out.1 HI.out.2.1 HI.out.2.2.1 HI.out.2.2.2 rfl (by decide) _ _ _ rfl (hown.out.alloc _) ⟨wr.heap.size, 0, none⟩ 2 2 [.int .i64 (((x.toNat : Int) - 65 + 10) / 10), .int .i64 (((x.toNat : Int) - 65) % 10)] rfl rfl (cell_two_new _ _ _ _) (by rw [← Hcl.out]; exact one_cells) (by unfold maxLen; omega) (by omega) (by simp; omega) ?_; intro v' w1 hown' hgrow _ _; have HO : Hid _ := hown'; have HGr : Hid _ := hgrow; clear hown' hgrow)
          exact Hfin.out v' w1 _ 2 Hn.out (Or.inl HU.out) (by rw [Hcl.out]; exact HO.out) HGr.out
        · have HNO : Hid (an s.data.toList = false) := by
            unfold Hid
            rw [HAN.out, decide_eq_false hu, decide_eq_false hg]
            rfl
          have hend : Hid (SP s.data.toList w (.returned (.tuple #[.slice none 0 0, .bool false])) wr) := by
            refine SP.mk HNO.out.symm ⟨none, 0, ?_, ?_⟩ hbw.out
            · unfold dsO
              rw [if_neg (by rw [HNO.out]; exact Bool.false_ne_true)]
              rfl
            · unfold dsO
              rw [if_neg (by rw [HNO.out]; exact Bool.false_ne_true)]
              intro h
              exact absurd rfl h
          by_cases h1 : (48 : Int) ≤ (x.toNat : Int)
          · have h2 : ¬ ((x.toNat : Int) ≤ 57) := by omega
            by_cases h3 : (65 : Int) ≤ (x.toNat : Int)
            · have h4 : ¬ ((x.toNat : Int) ≤ 90) := by omega
              clear hu hg Hfin
              go_wp2_with fail
              go_ret2
              exact hend.out
            · clear hu hg Hfin
              go_wp2_with fail
              go_ret2
              exact hend.out
          · have h3 : ¬ (65 : Int) ≤ (x.toNat : Int) := by omega
            clear hu hg Hfin
            go_wp2_with fail
            go_ret2
            exact hend.out
    · have hkz : ¬ (k : Int) < (s.size : Int) := by omega
      have HT : Hid (an s.data.toList = true) := by
        have h1 := han.out
        rw [List.drop_of_length_le (by rw [HL.out]; omega), an] at h1
        exact h1.symm
      have HX : Hid (xs = dsO s.data.toList) := by
        have h1 := hxs.out
        rw [List.take_of_length_le (by rw [HL.out]; omega)] at h1
        unfold Hid dsO
        rw [if_pos HT.out]
        exact h1
      clear hxs han
      go_wp2_with fail
      go_ret2
      exact SP.mk HT.out.symm (by rw [← HX.out]; exact Seg.of_owns hown.out) hbw.out
def BB (b : Bool) (w : World) (e : Ending) (w' : World) : Prop := e = .returned (.bool b) ∧ Below w.heap.size w w'
theorem BB.mk {b c : Bool} {w w' : World} (h : c = b) (hb : Below w.heap.size w w') : BB b w (.returned (.bool c)) w' := ⟨by rw [h], hb⟩
def odd (k : Nat) : Bool := decide (k % 2 = 1)
theorem odd_succ (k : Nat) : odd (k + 1) = !odd k := by
  unfold odd
  rw [Bool.eq_iff_iff]
  simp
  omega
theorem rev_at {xs : List Nat} {k : Nat} (h : k < xs.length) : xs.reverse.drop k = xs.getD (xs.length - 1 - k) 0 :: xs.reverse.drop (k + 1) := by
  rw [List.drop_eq_getElem_cons (by simpa using h), List.getElem_reverse, List.getD_eq_getElem?_getD, List.getElem?_eq_getElem]
  rfl
theorem mem_at {xs : List Nat} {k : Nat} (h : k < xs.length) : xs.getD k 0 ∈ xs := by
  rw [List.getD_eq_getElem?_getD, List.getElem?_eq_getElem h]
  exact List.getElem_mem h
theorem dsO_le (l : List UInt8) : ∀ d ∈ dsO l, d ≤ 9 := by
  unfold dsO
  split
  · exact ds_le (by assumption)
  · simp
theorem dsO_len (l : List UInt8) : (dsO l).length ≤ 2 * l.length := by
  unfold dsO
  split
  · exact ds_len l
  · simp
set_option maxHeartbeats 4000000 in
theorem rright (s : ByteArray) (hs : s.size ≤ 1099511627776) (w : World) : Calls Try.prog 104 #[.string s] w (BB (rgt s.data.toList) w) := by
  go_enter Try.func104, Try.ntmps104
  go_wp2_with fail
  refine (rdigits s hs _).mono ?_
  rintro e W1 ⟨v, rfl, hseg, hb1⟩
  obtain ⟨a, cap, rfl, hsg⟩ := hseg
  have HSG : Hid _ := hsg
  have HB1 : Hid (Below w.heap.size w W1) := hb1
  have hlen : (dsO s.data.toList).length ≤ 2199023255552 := by
    have := dsO_len s.data.toList
    have h2 : s.data.toList.length = s.size := rfl
    omega
  have HLE : Hid (∀ d ∈ dsO s.data.toList, d ≤ 9) := dsO_le s.data.toList
  have HR : Hid (an s.data.toList = true → rgt s.data.toList = decide (sm false (dsO s.data.toList).reverse % 10 = 0)) := by
    intro h
    unfold rgt full dsO
    rw [h, Bool.true_and, if_pos rfl]
  have HF : Hid (an s.data.toList = false → rgt s.data.toList = false) := by
    intro h
    unfold rgt
    rw [h, Bool.false_and]
  clear hsg hb1
  generalize dsO s.data.toList = xs at *
  generalize an s.data.toList = g at *
  go_wp2_with fail
  go_loopw [5, 6] (fun n i wr => ∃ k m : Nat, i = .int .i64 k ∧ n = .int .i64 m ∧ k ≤ xs.length ∧ m ≤ 9 * k ∧ W1 = wr ∧ Hid (m + sm (odd k) (xs.reverse.drop k) = sm false xs.reverse)) (fun _ i _ => xs.length - (Lib.intOf i).toNat)
  case atStart => exact ⟨0, 0, rfl, rfl, Nat.zero_le _, Nat.le_refl _, by first | rfl | trivial, by unfold Hid; rw [List.drop_zero, Nat.zero_add]; rfl⟩
  case round =>
    obtain ⟨k, m, rfl, rfl, hk, hm, rfl, hsum⟩ := hrel
    by_cases hkn : k < xs.length
    · have hkz : (k : Int) < (xs.length : Int) := by omega
      obtain ⟨b, rfl, hlt, hc⟩ := HSG.out (by intro e; rw [e] at hkn; simp at hkn)
      obtain ⟨j, hj⟩ : ∃ j, xs.length - 1 - k = j := ⟨_, rfl⟩
      have hck := hc j (by omega)
      have hd9 := HLE.out _ (mem_at (show j < xs.length by omega))
      have hrev := rev_at hkn
      rw [hj] at hrev
      have hi : (xs.length : Int) - 1 - (k : Int) = (j : Int) := by omega
      have hjz : (j : Int) < (xs.length : Int) := by omega
      have HD : Hid (xs.reverse.drop k = xs.getD j 0 :: xs.reverse.drop (k + 1)) := hrev
      clear hc hj hrev
      generalize xs.getD j 0 = d at *
      have hb := wgt_le (odd k) d hd9
      have HS : Hid (m + (wgt (odd k) d + sm (odd (k + 1)) (xs.reverse.drop (k + 1))) = sm false xs.reverse) := by
        have h1 := hsum.out
        rw [HD.out, sm, ← odd_succ] at h1
        exact h1
      clear hsum HD
      by_cases ho : k % 2 = 1
      · have hoz : ((k : Int) % 2 == 1) = true := by rw [beq_iff_eq]; omega
        have HW : Hid (wgt (odd k) d = 2 * d / 10 + 2 * d % 10) := by
          unfold Hid odd wgt
          rw [decide_eq_true ho, if_pos rfl]
        clear ho
        go_wp2_with fail
        go_roundw
        case rel =>
          refine ⟨k + 1, m + wgt (odd k) d, by go_num, ?_, by omega, by omega, by first | rfl | trivial, ?_⟩
          · rw [HW.out]
            go_num
          · have h1 := HS.out
            unfold Hid
            omega
        case measure =>
          simp [Lib.intOf]
          omega
      · have hoz : ((k : Int) % 2 == 1) = false := by rw [beq_eq_false_iff_ne]; omega
        have HW : Hid (wgt (odd k) d = d) := by
          unfold Hid odd wgt
          rw [decide_eq_false ho, if_neg Bool.false_ne_true]
        clear ho
        go_wp2_with fail
        go_roundw
        case rel =>
          refine ⟨k + 1, m + wgt (odd k) d, by go_num, ?_, by omega, by omega, by first | rfl | trivial, ?_⟩
          · rw [HW.out]
            go_num
          · have h1 := HS.out
            unfold Hid
            omega
        case measure =>
          simp [Lib.intOf]
          omega
    · have hkz : ¬ (k : Int) < (xs.length : Int) := by omega
      have HE : Hid (m = sm false xs.reverse) := by
        have h1 := hsum.out
        rw [List.drop_of_length_le (by rw [List.length_reverse]; omega), sm] at h1
        unfold Hid
        omega
      have hm0 : m ≤ 9 * 2199023255552 := by omega
      clear hsum
      cases g
      · go_wp2_with fail
        go_ret
        exact BB.mk (HF.out (by first | rfl | trivial)).symm HB1.out
      · go_wp2_with fail
        go_ret
        refine BB.mk ?_ HB1.out
        rw [HR.out (by first | rfl | trivial), ← HE.out, Bool.eq_iff_iff]
        simp only [beq_iff_eq, decide_eq_true_eq]
        omega
set_option maxHeartbeats 4000000 in
theorem rshaped (s : ByteArray) (hs : s.size ≤ 1099511627776) (w : World) : Calls Try.prog 103 #[.string s] w (BB (head s.data.toList) w) := by
  have HL : Hid (s.data.toList.length = s.size) := rfl
  go_enter Try.func103, Try.ntmps103
  go_wp2_with fail
  refine (rdigits s hs _).mono ?_
  rintro e W1 ⟨v, rfl, hseg, hb1⟩
  have HB1 : Hid (Below w.heap.size w W1) := hb1
  clear hseg hb1
  by_cases ha : an s.data.toList = true
  · by_cases h11 : s.size = 11
    · have h0 : 0 < s.size := by omega
      have h1 : 1 < s.size := by omega
      have hsz : (2 : Int) ≤ (s.size : Int) := by omega
      have hz : (((s.size : Nat) : Int) == 11) = true := by rw [h11]; rfl
      have HH := head_eq (l := s.data.toList) (by rw [HL.out, h11])
      rw [at_data h0, at_data h1, ha, Bool.true_and] at HH
      have HHH : Hid (head s.data.toList = (decide (65 ≤ s[0].toNat) && decide (65 ≤ s[1].toNat))) := HH
      rw [ha]
      obtain ⟨x, hx⟩ : ∃ x : UInt8, s[0] = x := ⟨_, rfl⟩
      obtain ⟨y, hy⟩ : ∃ y : UInt8, s[1] = y := ⟨_, rfl⟩
      rw [hx, hy] at HHH
      have hxl := x.toNat_lt
      have hyl := y.toNat_lt
      clear HH ha h11
      by_cases hx65 : 65 ≤ x.toNat
      · have hxz : (65 : Int) ≤ (x.toNat : Int) := by omega
        by_cases hy65 : 65 ≤ y.toNat
        · have hyz : (65 : Int) ≤ (y.toNat : Int) := by omega
          have HR : Hid (head s.data.toList = true) := by
            unfold Hid
            rw [HHH.out, decide_eq_true hx65, decide_eq_true hy65]
            rfl
          go_wp2_with fail
          go_ret
          exact BB.mk HR.out.symm HB1.out
        · have hyz : ¬ (65 : Int) ≤ (y.toNat : Int) := by omega
          have HR : Hid (head s.data.toList = false) := by
            unfold Hid
            rw [HHH.out, decide_eq_true hx65, decide_eq_false hy65]
            rfl
          go_wp2_with fail
          go_ret
          exact BB.mk (by rw [HR.out]; exact decide_eq_false (by omega)) HB1.out
      · have hxz : ¬ (65 : Int) ≤ (x.toNat : Int) := by omega
        have HR : Hid (head s.data.toList = false) := by
          unfold Hid
          rw [HHH.out, decide_eq_false hx65]
          rfl
        go_wp2_with fail
        go_ret
        exact BB.mk HR.out.symm HB1.out
    · have hz : (((s.size : Nat) : Int) == 11) = false := by rw [beq_eq_false_iff_ne]; omega
      have HR : Hid (head s.data.toList = false) := by
        unfold Hid head
        rw [HL.out, decide_eq_false h11]
        rfl
      rw [ha]
      clear ha h11
      go_wp2_with fail
      go_ret
      exact BB.mk HR.out.symm HB1.out
  · have ha' : an s.data.toList = false := Bool.eq_false_iff.2 ha
    have HR : Hid (head s.data.toList = false) := by
      unfold Hid
      rw [Bool.eq_false_iff]
      exact fun h => ha (head_an h)
    rw [ha']
    clear ha ha'
    go_wp2_with fail
    go_ret
    exact BB.mk HR.out.symm HB1.out
theorem str_of {w : World} {l : List UInt8} {b cap : Nat} (hb : w.heap[b]? = some (.cells (Lib.byteCells l).toArray 5 (0, 0))) : (convert 147 9 (Value.slice (some ⟨b, 0, none⟩) l.length cap)).run Try.prog w = .ok (.string ⟨l.toArray⟩) w := by
  refine run_convert_bytes_back w 147 9 5 ⟨b, 0, none⟩ cap l Try.underlying147 Try.underlying5 Try.underlying9 ?_
  intro j hj
  have ha : (⟨b, 0, none⟩ : Addr).add j = ⟨b, j, none⟩ := by
    cases j <;> simp [Addr.add]
  rw [ha]
  simp [World.cell?, hb, Lib.byteCells, hj]
theorem str_new (w : World) (l : List UInt8) (cap : Nat) : (convert 147 9 (Value.slice (some ⟨w.heap.size, 0, none⟩) l.length cap)).run Try.prog (w.alloc (.cells (Lib.byteCells l).toArray 5)) = .ok (.string ⟨l.toArray⟩) (w.alloc (.cells (Lib.byteCells l).toArray 5)) := str_of (heap_alloc_new w _)
theorem below_new (w : World) (o : Obj) : Below w.heap.size w (w.alloc o) := (Below.refl _ w).alloc (Nat.le_refl _) _
theorem u8n (n : Nat) (h : n < 256) : (n.toUInt8).toNat = n := by
  simp
  omega
def DB (a e : Nat) (w : World) (r : Ending) (w' : World) : Prop := r = .returned (.tuple #[.int .u8 a, .int .i64 e]) ∧ Below w.heap.size w w'
theorem DB.mk {a e : Nat} {x y : Int} {w w' : World} (h : x = a) (h2 : y = e) (hb : Below w.heap.size w w') : DB a e w (.returned (.tuple #[.int .u8 x, .int .i64 y])) w' := ⟨by rw [h, h2], hb⟩
/-- with a digit behind eleven signs: right just where it is the one -/
theorem rgt_snoc {l : List UInt8} (h : an l = true) (c : UInt8) (hc : Dg c.toNat) : rgt (l ++ [c]) = decide (c.toNat = 48 + dgN l) := by
  unfold rgt
  rw [an_append, h, Bool.true_and, an, an, decide_eq_true hc, Bool.or_true, Bool.true_and, Bool.true_and]
  rw [Bool.eq_iff_iff, decide_eq_true_eq, decide_eq_true_eq]
  exact full_dgN l c hc
def NB (n : Int) (w : World) (e : Ending) (w' : World) : Prop := e = .returned (.int .i64 n) ∧ Below w.heap.size w w'
theorem NB.mk {n m : Int} {w w' : World} (h : m = n) (hb : Below w.heap.size w w') : NB n w (.returned (.int .i64 m)) w' := ⟨by rw [h], hb⟩
theorem rgt_shp {l : List UInt8} (h : shp l = true) : rgt l = decide (full l % 10 = 0) := by
  have ha : an l = true := by
    have h0 := h
    rw [shp_iff] at h0
    have h1 := last_of h0.1
    unfold shp at h
    rw [Bool.and_eq_true, Bool.and_eq_true] at h
    rw [h1, an_append, head_an h.2.2, an, an, decide_eq_true h0.2.2, Bool.or_true]
    rfl
  unfold rgt
  rw [ha, Bool.true_and]
set_option maxHeartbeats 4000000 in
theorem rCheck (s : ByteArray) (w : World) : Calls Try.prog 83 #[.string s] w (NB (chk s.data.toList) w) := by
  by_cases h12 : s.size = 12
  · have hne : (((s.size : Nat) : Int) != 12) = false := by rw [h12]; rfl
    have h12z : (12 : Int) ≤ (s.size : Int) := by omega
    have h11n : 11 < s.size := by omega
    have hx : s.data.toList.getD 11 0 = s[11] := at_data h11n
    have hl12 : s.data.toList.length = 12 := h12
    have HSH : Hid (shp s.data.toList = (decide (Dg (s.data.toList.getD 11 0).toNat) && head (s.data.toList.take 11))) := by
      unfold Hid shp
      rw [decide_eq_true hl12, Bool.true_and]
    rw [hx] at HSH
    obtain ⟨x, hx2⟩ : ∃ x : UInt8, s[11] = x := ⟨_, rfl⟩
    rw [hx2] at HSH
    have hxl := x.toNat_lt
    have hsl : (s.extract 0 11).size ≤ 12 := Nat.le_trans (ext_size s 11) (by omega)
    have HC : Hid (∀ w, Calls Try.prog 103 #[.string (s.extract 0 11)] w (BB (head (s.data.toList.take 11)) w)) := fun w => by
      have := rshaped (s.extract 0 11) (by omega) w
      rw [ext_take] at this
      exact this
    have HRI : Hid (∀ w, Calls Try.prog 104 #[.string s] w (BB (rgt s.data.toList) w)) := fun w => rright s (by omega) w
    clear hx h12 hl12 hsl
    by_cases h48 : x.toNat < 48
    · have h48z : (x.toNat : Int) < 48 := by omega
      have hc : Hid (chk s.data.toList = 11) := by
        unfold Hid chk
        rw [if_neg (by rw [HSH.out, Bool.and_eq_true, decide_eq_true_eq]; omega)]
      clear HSH HC HRI
      go_enter Try.func83, Try.ntmps83
      go_wp2_with fail
      go_ret
      exact NB.mk (by rw [hc.out]; rfl) (Below.refl _ _)
    have h48z : ¬ (x.toNat : Int) < 48 := by omega
    by_cases h57 : 57 < x.toNat
    · have h57z : (57 : Int) < (x.toNat : Int) := by omega
      have hc : Hid (chk s.data.toList = 11) := by
        unfold Hid chk
        rw [if_neg (by rw [HSH.out, Bool.and_eq_true, decide_eq_true_eq]; omega)]
      clear HSH HC HRI
      go_enter Try.func83, Try.ntmps83
      go_wp2_with fail
      go_ret
      exact NB.mk (by rw [hc.out]; rfl) (Below.refl _ _)
    have h57z : ¬ (57 : Int) < (x.toNat : Int) := by omega
    by_cases hh : head (s.data.toList.take 11) = true
    · have hsp : shp s.data.toList = true := by
        rw [HSH.out, hh, decide_eq_true (by omega : Dg x.toNat)]
        rfl
      rw [rgt_shp hsp] at HRI
      rw [hh] at HC
      have HCK : Hid (chk s.data.toList = if full s.data.toList % 10 = 0 then 0 else 12) := by
        unfold Hid chk
        rw [if_pos hsp]
      clear hsp hh HSH
      by_cases hf : full s.data.toList % 10 = 0
      · rw [decide_eq_true hf] at HRI
        rw [if_pos hf] at HCK
        clear hf
        go_enter Try.func83, Try.ntmps83
        go_wp2_with fail
        refine (HC.out _).mono ?_
        rintro e W1 ⟨rfl, hb1⟩
        have HB1 : Hid (Below w.heap.size w W1) := hb1
        clear hb1
        go_wp2_with fail
        refine (HRI.out _).mono ?_
        rintro e W2 ⟨rfl, hb2⟩
        have HB2 : Hid (Below w.heap.size w W2) := HB1.out.trans (hb2.mono HB1.out.size)
        clear hb2
        go_wp2_with fail
        go_ret
        exact NB.mk (by rw [HCK.out]; rfl) HB2.out
      · rw [decide_eq_false hf] at HRI
        rw [if_neg hf] at HCK
        clear hf
        go_enter Try.func83, Try.ntmps83
        go_wp2_with fail
        refine (HC.out _).mono ?_
        rintro e W1 ⟨rfl, hb1⟩
        have HB1 : Hid (Below w.heap.size w W1) := hb1
        clear hb1
        go_wp2_with fail
        refine (HRI.out _).mono ?_
        rintro e W2 ⟨rfl, hb2⟩
        have HB2 : Hid (Below w.heap.size w W2) := HB1.out.trans (hb2.mono HB1.out.size)
        clear hb2
        go_wp2_with fail
        go_ret
        exact NB.mk (by rw [HCK.out]; rfl) HB2.out
    · have hc : Hid (chk s.data.toList = 11) := by
        unfold Hid chk
        rw [if_neg (by rw [HSH.out, Bool.and_eq_true]; exact fun h => hh h.2)]
      rw [Bool.eq_false_iff.2 hh] at HC
      clear HSH HRI hh
      go_enter Try.func83, Try.ntmps83
      go_wp2_with fail
      refine (HC.out _).mono ?_
      rintro e W1 ⟨rfl, hb1⟩
      have HB1 : Hid (Below w.heap.size w W1) := hb1
      clear hb1
      go_wp2_with fail
      go_ret
      exact NB.mk (by rw [hc.out]; rfl) HB1.out
  · have hne : (((s.size : Nat) : Int) != 12) = true := by rw [bne_iff_ne]; omega
    have hc : Hid (chk s.data.toList = 11) := by
      unfold Hid chk shp
      rw [if_neg (by rw [Bool.and_eq_true, decide_eq_true_eq]; exact fun h => h12 h.1)]
    clear h12
    go_enter Try.func83, Try.ntmps83
    go_wp2_with fail
    go_ret
    exact NB.mk (by rw [hc.out]; rfl) (Below.refl _ _)
end Go.Proofs.Ytheikjjehidagaa.H5.N5
