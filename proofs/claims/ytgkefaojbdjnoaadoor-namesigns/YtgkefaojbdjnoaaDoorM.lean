/- The walks of twoLetters, oneLetter and plain. Condition: it is a sign's number. -/
import Derived.Test.YtgkefaojbdjnoaaDoorL
import Derived.WalkKit
import Derived.ProofKit
import Derived.Handy
import Derived.WalkLawsBesides
import Derived.WalkSpells
import Derived.BigQuiet
import Derived.BigCall
import Derived.Deep.QuietTactic
import Derived.Deep.Light
import Derived.Deep.OwnRows
import Derived.Laws.AppendOwnNone
import Derived.Laws.Strings3
import Derived.Laws.RangeAny
import Derived.Deep.RegionWith
import Derived.Lib.BitFns
import Derived.Lib.Walk
import Derived.Lib.Strings
import Derived.Lib.OthersKept
import Derived.Deep.CutBlock
import Derived.Deep.DeepCutAuto
import Derived.Deep.LoopGhost
import Derived.Deep.RegionHeld3
import Derived.Lib.SmallJoins
import Derived.Maps.AppendAt
import Derived.Laws.IdiomStrings
namespace Go.Proofs.YtgkefaojbdjnoaaDoor
open Go.RowKit
set_option linter.unusedVariables false
set_option linter.unusedSimpArgs false
def STP (l : List UInt8) (w : World) (e : Ending) (w' : World) : Prop := e = .returned (.string ⟨l.toArray⟩) ∧ w = w'
theorem STP.mk {l : List UInt8} {s : ByteArray} {w : World} (h : s.data.toList = l) : STP l w (.returned (.string s)) w := ⟨by rw [← h], rfl⟩
set_option maxHeartbeats 4000000 in
theorem xtwo (c : Nat) (w : World) : Calls Tryd.prog 62 #[.int .i32 c] w (STP (pairs c) w) := by
  by_cases h : c = 228 ∨ c = 230 ∨ c = 246 ∨ c = 248 ∨ c = 339 ∨ c = 252 ∨ c = 223 ∨ c = 254 ∨ c = 229
  · rcases h with rfl | rfl | rfl | rfl | rfl | rfl | rfl | rfl | rfl
    all_goals
      go_enter Tryd.func62, Tryd.ntmps62
      go_wp2_with fail
      go_ret
      exact ⟨rfl, rfl⟩
  · have h1 : ((c : Int) == 228) = false := beq_eq_false_iff_ne.2 (by omega)
    have h2 : ((c : Int) == 230) = false := beq_eq_false_iff_ne.2 (by omega)
    have h3 : ((c : Int) == 246) = false := beq_eq_false_iff_ne.2 (by omega)
    have h4 : ((c : Int) == 248) = false := beq_eq_false_iff_ne.2 (by omega)
    have h5 : ((c : Int) == 339) = false := beq_eq_false_iff_ne.2 (by omega)
    have h6 : ((c : Int) == 252) = false := beq_eq_false_iff_ne.2 (by omega)
    have h7 : ((c : Int) == 223) = false := beq_eq_false_iff_ne.2 (by omega)
    have h8 : ((c : Int) == 254) = false := beq_eq_false_iff_ne.2 (by omega)
    have h9 : ((c : Int) == 229) = false := beq_eq_false_iff_ne.2 (by omega)
    have H : Hid (pairs c = []) := by
      unfold Hid pairs
      rw [if_neg (by omega), if_neg (by omega), if_neg (by omega), if_neg (by omega), if_neg (by omega), if_neg (by omega)]
    clear h
    go_enter Tryd.func62, Tryd.ntmps62
    go_wp2_with fail
    go_ret
    exact STP.mk (by rw [H.out])
set_option maxHeartbeats 4000000 in
theorem xone (s : ByteArray) (hs : s.size ≤ 1000) (p : Nat) (hp : p < s.size) (w : World) : Calls Tryd.prog 63 #[.string s, .int .i32 p] w (STP (one s.data.toList p) w) := by
  have hpz : (p : Int) < (s.size : Int) := by omega
  have e1 : s.data.toList.getD p 32 = s[p] := by
    rw [List.getD_eq_getElem?_getD, Lib.data_getElem? s p hp]
    rfl
  by_cases h : s[p] = 32
  · have H : Hid (one s.data.toList p = []) := by
      unfold Hid one
      rw [e1, if_pos h]
    have hb : (((s[p].toNat : Int)) == 32) = true := by rw [h]; rfl
    clear e1 h
    go_enter Tryd.func63, Tryd.ntmps63
    go_wp2_with fail
    go_ret
    exact STP.mk (by rw [H.out])
  · have H : Hid (one s.data.toList p = [s[p]]) := by
      unfold Hid one
      rw [e1, if_neg h]
    have hb : (((s[p].toNat : Int)) == 32) = false := beq_eq_false_iff_ne.2 (fun e => h (by apply UInt8.toNat_inj.1; show s[p].toNat = 32; omega))
    have H2 : Hid ((s.extract p (p + 1)).data.toList = [s[p]]) := by
      unfold Hid
      have : (s.extract p (p + 1)).data.toList = (s.data.toList.drop p).take 1 := by simp [ByteArray.data_extract]
      rw [this, Lib.drop_at (Lib.data_getElem? s p hp)]
      rfl
    clear e1 h
    go_enter Tryd.func63, Tryd.ntmps63
    go_wp2_with fail
    go_ret
    exact STP.mk (by rw [H.out, H2.out])
theorem encode_ascii (n : Int) (h0 : 0 ≤ n) (h1 : n < 128) : (Utf8.encode n).data.toList = [n.toNat.toUInt8] := by
  have hv : Utf8.valid n = true := by
    unfold Utf8.valid
    simp only [Bool.or_eq_true, Bool.and_eq_true, decide_eq_true_eq]
    omega
  unfold Utf8.encode
  rw [hv]
  simp only [if_true]
  rw [if_pos (by omega)]

theorem xoneW (p : Int) (h0 : 0 ≤ p) (h1 : p ≤ 31) (w : World) : Calls Tryd.prog 63 #[.string ⟨wst.toArray⟩, .int .i32 p] w (STP (one wst p.toNat) w) := by
  obtain ⟨n, rfl⟩ := Int.eq_ofNat_of_zero_le h0
  have : (⟨wst.toArray⟩ : ByteArray).size = 32 := rfl
  exact xone ⟨wst.toArray⟩ (by omega) n (by omega) w
theorem xoneE (p : Int) (h0 : 0 ≤ p) (h1 : p ≤ 127) (w : World) : Calls Tryd.prog 63 #[.string ⟨ext.toArray⟩, .int .i32 p] w (STP (one ext p.toNat) w) := by
  obtain ⟨n, rfl⟩ := Int.eq_ofNat_of_zero_le h0
  have : (⟨ext.toArray⟩ : ByteArray).size = 128 := rfl
  exact xone ⟨ext.toArray⟩ (by omega) n (by omega) w
set_option maxHeartbeats 4000000 in
theorem xhigh (c : Nat) (hc : c < 1114112) (h1 : ¬ (97 ≤ c ∧ c ≤ 122)) (h2 : ¬ Dig c) (h3 : ¬ c = 32) (h4 : ¬ c = 45) (w : World) : Calls Tryd.prog 47 #[.int .i32 c] w (STP (high c) w) := by
  have H1 : Hid (¬ (97 ≤ (c : Int) ∧ (c : Int) ≤ 122)) := by unfold Hid; omega
  have H2 : Hid (¬ Dig c) := h2
  have g3 : ((c : Int) == 32) = false := beq_eq_false_iff_ne.2 (by omega)
  have g4 : ((c : Int) == 45) = false := beq_eq_false_iff_ne.2 (by omega)
  clear h1 h2 h3 h4
  by_cases h5 : pairs c = []
  · have HX : Hid (∀ w, Calls Tryd.prog 62 #[.int .i32 c] w fun e w' => e = .returned (.string ⟨#[]⟩) ∧ w = w') := fun w => (xtwo c w).mono fun e w' ⟨he, hw⟩ => ⟨by rw [he, h5], hw⟩
    by_cases h6 : 224 ≤ c ∧ c ≤ 255
    · have H : Hid (high c = one wst (c - 224)) := by
        unfold Hid high
        rw [h5, if_neg (by simp), if_pos h6]
      obtain ⟨k1, k2⟩ := h6
      clear h5
      go_enter Tryd.func47, Tryd.ntmps47
      go_wp2_with (first | (go_at_call 52; refine (xwf _ _ _ (by omega) _).mono ?_; rintro e w1 ⟨rfl, rfl⟩) | (go_at_call 52; refine (xwt _ _ _ (by omega) _).mono ?_; rintro e w1 ⟨rfl, rfl⟩) | (go_at_call 54; refine (calls_f (xdigit c hc _) H2.out).mono ?_; rintro e w1 ⟨rfl, rfl⟩) | (go_at_call 62; refine (Calls.mono (HX.out _) ?_); rintro e w1 ⟨rfl, rfl⟩))
      refine (xoneW ((c : Int) - 224) (by omega) (by omega) _).mono ?_
      rintro e w1 ⟨rfl, rfl⟩
      go_wp2
      go_ret
      refine STP.mk (s := ⟨(one wst ((c : Int) - 224).toNat).toArray⟩) ?_
      rw [H.out, show ((c : Int) - 224).toNat = c - 224 by omega]
    by_cases h7 : 256 ≤ c ∧ c ≤ 383
    · have H : Hid (high c = one ext (c - 256)) := by
        unfold Hid high
        rw [h5, if_neg (by simp), if_neg h6, if_pos h7]
      obtain ⟨k1, k2⟩ := h7
      clear h5 h6
      go_enter Tryd.func47, Tryd.ntmps47
      go_wp2_with (first | (go_at_call 52; refine (xwf _ _ _ (by omega) _).mono ?_; rintro e w1 ⟨rfl, rfl⟩) | (go_at_call 52; refine (xwt _ _ _ (by omega) _).mono ?_; rintro e w1 ⟨rfl, rfl⟩) | (go_at_call 54; refine (calls_f (xdigit c hc _) H2.out).mono ?_; rintro e w1 ⟨rfl, rfl⟩) | (go_at_call 62; refine (Calls.mono (HX.out _) ?_); rintro e w1 ⟨rfl, rfl⟩))
      refine (xoneE ((c : Int) - 256) (by omega) (by omega) _).mono ?_
      rintro e w1 ⟨rfl, rfl⟩
      go_wp2
      go_ret
      refine STP.mk (s := ⟨(one ext ((c : Int) - 256).toNat).toArray⟩) ?_
      rw [H.out, show ((c : Int) - 256).toNat = c - 256 by omega]
    have H : Hid (high c = []) := by
      unfold Hid high
      rw [h5, if_neg (by simp), if_neg h6, if_neg h7]
    have H6 : Hid (¬ (224 ≤ (c : Int) ∧ (c : Int) ≤ 255)) := by unfold Hid; omega
    have H7 : Hid (¬ (256 ≤ (c : Int) ∧ (c : Int) ≤ 383)) := by unfold Hid; omega
    clear h5 h6 h7
    go_enter Tryd.func47, Tryd.ntmps47
    go_wp2_with (first | (go_at_call 52; refine (xwf _ _ _ (by first | exact H1.out | exact H6.out | exact H7.out) _).mono ?_; rintro e w1 ⟨rfl, rfl⟩) | (go_at_call 54; refine (calls_f (xdigit c hc _) H2.out).mono ?_; rintro e w1 ⟨rfl, rfl⟩) | (go_at_call 62; refine (Calls.mono (HX.out _) ?_); rintro e w1 ⟨rfl, rfl⟩))
    go_ret
    exact STP.mk (by rw [H.out])
  · have H : Hid (high c = pairs c) := by
      unfold Hid high
      rw [if_pos h5]
    obtain ⟨Q, hP⟩ : ∃ Q, pairs c = Q := ⟨_, rfl⟩
    rw [hP] at h5 H
    have HX : Hid (∀ w, Calls Tryd.prog 62 #[.int .i32 c] w fun e w' => e = .returned (.string ⟨Q.toArray⟩) ∧ w = w') := fun w => (xtwo c w).mono fun e w' ⟨he, hw⟩ => ⟨by rw [he, hP], hw⟩
    have hE : Q.isEmpty = false := by
      cases Q with
      | nil => exact absurd rfl h5
      | cons _ _ => rfl
    clear h5 hP
    go_enter Tryd.func47, Tryd.ntmps47
    go_wp2_with (first | (go_at_call 52; refine (xwf _ _ _ (by exact H1.out) _).mono ?_; rintro e w1 ⟨rfl, rfl⟩) | (go_at_call 54; refine (calls_f (xdigit c hc _) H2.out).mono ?_; rintro e w1 ⟨rfl, rfl⟩) | (go_at_call 62; refine (Calls.mono (HX.out _) ?_); rintro e w1 ⟨rfl, rfl⟩))
    go_ret
    exact STP.mk (s := ⟨Q.toArray⟩) (by rw [H.out])
set_option maxHeartbeats 4000000 in
theorem xplain (c : Nat) (hc : c < 1114112) (w : World) : Calls Tryd.prog 47 #[.int .i32 c] w (STP (pl c) w) := by
  by_cases h1 : 97 ≤ c ∧ c ≤ 122
  · have H : Hid (pl c = [(c - 32).toUInt8]) := by
      unfold Hid pl
      rw [if_pos h1]
    obtain ⟨k1, k2⟩ := h1
    go_enter Tryd.func47, Tryd.ntmps47
    go_wp2_with (go_at_call 52; refine (xwt _ _ _ (by omega) _).mono ?_; rintro e w1 ⟨rfl, rfl⟩)
    go_ret
    refine STP.mk (s := Utf8.encode ((c : Int) - 97 + 65)) ?_
    rw [H.out, encode_ascii _ (by omega) (by omega), show ((c : Int) - 97 + 65).toNat = c - 32 by omega]
  by_cases h2 : Dig c
  · have H : Hid (pl c = [c.toUInt8]) := by
      unfold Hid pl
      rw [if_neg h1, if_pos h2]
    have H2 : Hid (Dig c) := h2
    obtain ⟨k1, k2⟩ := h2
    clear h1
    go_enter Tryd.func47, Tryd.ntmps47
    go_wp2_with (first | (go_at_call 52; refine (xwf _ _ _ (by omega) _).mono ?_; rintro e w1 ⟨rfl, rfl⟩) | (go_at_call 54; refine (calls_t (xdigit c hc _) H2.out).mono ?_; rintro e w1 ⟨rfl, rfl⟩))
    go_ret
    refine STP.mk (s := Utf8.encode (c : Int)) ?_
    rw [H.out, encode_ascii _ (by omega) (by omega), Int.toNat_natCast]
  by_cases h3 : c = 32
  · subst h3
    clear h1 h2
    go_enter Tryd.func47, Tryd.ntmps47
    go_wp2_with (first | (go_at_call 52; refine (xwf _ _ _ (by omega) _).mono ?_; rintro e w1 ⟨rfl, rfl⟩) | (go_at_call 54; refine (calls_f (xdigit 32 (by omega) _) (by decide)).mono ?_; rintro e w1 ⟨rfl, rfl⟩))
    go_ret
    exact ⟨rfl, rfl⟩
  by_cases h4 : c = 45
  · subst h4
    clear h1 h2 h3
    go_enter Tryd.func47, Tryd.ntmps47
    go_wp2_with (first | (go_at_call 52; refine (xwf _ _ _ (by omega) _).mono ?_; rintro e w1 ⟨rfl, rfl⟩) | (go_at_call 54; refine (calls_f (xdigit 45 (by omega) _) (by decide)).mono ?_; rintro e w1 ⟨rfl, rfl⟩))
    go_ret
    exact ⟨rfl, rfl⟩
  have H : pl c = high c := by
    unfold pl
    rw [if_neg h1, if_neg h2, if_neg (by omega)]
  rw [H]
  exact xhigh c hc h1 h2 h3 h4 w
end Go.Proofs.YtgkefaojbdjnoaaDoor
