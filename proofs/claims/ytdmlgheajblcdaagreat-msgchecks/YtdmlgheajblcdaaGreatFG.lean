/- The reference's sign at a place: the walks of at, tail and Sign. Condition: the place is one of the text, which has fewer than 2 to the 47th bytes. -/
import Derived.Test.YtdmlgheajblcdaaGreatFE
import Derived.WalkKit
import Derived.ProofKit
import Derived.Handy
import Derived.WalkLawsBesides
import Derived.WalkSpells
import Derived.BigQuiet
import Derived.BigCall
import Derived.Deep.QuietTactic
import Derived.Deep.Light
import Derived.Deep.OwnRows
import Derived.Laws.AppendOwnNone
import Derived.Laws.Strings3
import Derived.Laws.RangeAny
import Derived.Deep.RegionWith
import Derived.Lib.BitFns
import Derived.Lib.Walk
import Derived.Lib.Strings
import Derived.Lib.OthersKept
import Derived.Deep.CutBlock
import Derived.Deep.DeepCutAuto
import Derived.Deep.LoopGhost
import Derived.Deep.RegionHeld3
import Derived.Lib.SmallJoins
import Derived.Maps.AppendAt
import Derived.Laws.IdiomStrings
import Derived.Lib.AppendZeros
import Derived.Deep.WholeRow
import Derived.Laws.BitsAllLaws
import Derived.Lib.ConvBytes
import Derived.Deep.RegionLaw
import Derived.Lib.IndexBytes
namespace Go.Proofs.YtdmlgheajblcdaaGreat.N4
open Go.RowKit
set_option linter.unusedVariables false
set_option linter.unusedSimpArgs false
def atv (s : ByteArray) (j : Int) : Int := if j < s.size then (bt s.data.toList j.toNat : Int) else -1
theorem rat (s : ByteArray) (j : Int) (h0 : 0 ≤ j) (w : World) : Calls Tryz.prog 119 #[.string s, .int .i64 j] w fun e w' => e = .returned (.int .i64 (atv s j)) ∧ w = w' := by
  obtain ⟨i, rfl⟩ := Int.eq_ofNat_of_zero_le h0
  by_cases h : i < s.size
  · have h' : (i : Int) < (s.size : Int) := by omega
    have H : Hid (atv s i = (s[i].toNat : Int)) := by
      unfold Hid atv
      rw [if_pos h', Int.toNat_natCast, bt, List.getD_eq_getElem?_getD]
      have : s.data.toList[i]? = some s[i] := Lib.data_getElem? s i h
      rw [this]
      rfl
    have hb : (s[i].toNat : Int) < 256 := by have := s[i].toNat_lt; omega
    go_enter Tryz.func119, Tryz.ntmps119
    go_wp2_with fail
    go_ret
    exact ⟨by rw [H.out]; rfl, rfl⟩
  · have h' : ¬ (i : Int) < (s.size : Int) := by omega
    have H : Hid (atv s i = -1) := by
      unfold Hid atv
      rw [if_neg h']
    go_enter Tryz.func119, Tryz.ntmps119
    go_wp2_with fail
    go_ret
    exact ⟨by rw [H.out]; rfl, rfl⟩
theorem rtail (c : Int) (w : World) : Calls Tryz.prog 120 #[.int .i64 c] w (BP (128 ≤ c ∧ c < 192) w) := by
  go_enter Tryz.func120, Tryz.ntmps120
  go_wp2_with fail
  all_goals go_ret
  all_goals first | exact BP.t (by omega) | exact BP.f (by omega) | (refine BP.b ?_; simp only [Bool.and_eq_true, Bool.or_eq_true, decide_eq_true_eq, bne_iff_ne, ne_eq, beq_iff_eq]; omega)
theorem atv_in (s : ByteArray) (j : Int) (h0 : 0 ≤ j) : (atv s j = (bt s.data.toList j.toNat : Int) ∨ (atv s j = -1 ∧ bt s.data.toList j.toNat = 0)) := by
  unfold atv
  split
  · exact .inl rfl
  · refine .inr ⟨rfl, bt_end ?_⟩
    have : s.data.toList.length = s.size := rfl
    omega

def SP (x : Nat × Nat × Bool) (w : World) (e : Ending) (w' : World) : Prop := e = .returned (.tuple #[.int .i64 x.1, .int .i64 x.2.1, .bool x.2.2]) ∧ w = w'
theorem SP.mk {x : Nat × Nat × Bool} {w : World} {n k : Int} {b : Bool} (h : x = (n.toNat, k.toNat, b)) (hn : 0 ≤ n) (hk : 0 ≤ k) : SP x w (.returned (.tuple #[.int .i64 n, .int .i64 k, .bool b])) w := by
  subst h
  refine ⟨?_, rfl⟩
  rw [show ((n.toNat, k.toNat, b).1 : Int) = n from Int.toNat_of_nonneg hn, show (((n.toNat, k.toNat, b).2.1 : Nat) : Int) = k from Int.toNat_of_nonneg hk]
theorem dgbad {a b c d : Nat} (h1 : ¬ a < 128) (h2 : ¬ (194 ≤ a ∧ a < 224 ∧ 128 ≤ b ∧ b < 192)) (h3 : ¬ (224 ≤ a ∧ a < 240 ∧ 128 ≤ b ∧ b < 192 ∧ 128 ≤ c ∧ c < 192 ∧ 2048 ≤ (a - 224) * 4096 + (b - 128) * 64 + (c - 128) ∧ ((a - 224) * 4096 + (b - 128) * 64 + (c - 128) < 55296 ∨ 57343 < (a - 224) * 4096 + (b - 128) * 64 + (c - 128))))
    (h4 : ¬ (240 ≤ a ∧ a < 245 ∧ 128 ≤ b ∧ b < 192 ∧ 128 ≤ c ∧ c < 192 ∧ 128 ≤ d ∧ d < 192 ∧ 65536 ≤ (a - 240) * 262144 + (b - 128) * 4096 + (c - 128) * 64 + (d - 128) ∧ (a - 240) * 262144 + (b - 128) * 4096 + (c - 128) * 64 + (d - 128) < 1114112)) : dg a b c d = (65533, 1, false) := by
  unfold dg
  rw [if_neg h1, if_neg h2, if_neg h3, if_neg h4]

set_option maxHeartbeats 8000000 in
set_option maxRecDepth 100000 in
theorem rsign (s : ByteArray) (i : Int) (h0 : 0 ≤ i) (hi : i < s.size) (hs : (s.size : Int) ≤ 140737488355328) (w : World) : Calls Tryz.prog 116 #[.string s, .int .i64 i] w (SP (D s.data.toList i.toNat) w) := by
  have e1 : (i + 1).toNat = i.toNat + 1 := by omega
  have e2 : (i + 2).toNat = i.toNat + 2 := by omega
  have e3 : (i + 3).toNat = i.toNat + 3 := by omega
  have F0 : atv s i = (bt s.data.toList i.toNat : Int) := by unfold atv; rw [if_pos hi]
  have F1 := atv_in s (i + 1) (by omega)
  have F2 := atv_in s (i + 2) (by omega)
  have F3 := atv_in s (i + 3) (by omega)
  rw [e1] at F1; rw [e2] at F2; rw [e3] at F3
  have hA := bt_lt s.data.toList i.toNat
  have hB := bt_lt s.data.toList (i.toNat + 1)
  have hC := bt_lt s.data.toList (i.toNat + 2)
  have hD := bt_lt s.data.toList (i.toNat + 3)
  rw [D_eq]
  generalize bt s.data.toList i.toNat = A at *
  generalize bt s.data.toList (i.toNat + 1) = B at *
  generalize bt s.data.toList (i.toNat + 2) = C at *
  generalize bt s.data.toList (i.toNat + 3) = E at *
  clear e1 e2 e3
  have Ha : Hid (atv s i = (A : Int)) := F0
  have hb0 : -1 ≤ atv s (i + 1) := by omega
  have hb1 : atv s (i + 1) < 256 := by omega
  have hc0 : -1 ≤ atv s (i + 2) := by omega
  have hc1 : atv s (i + 2) < 256 := by omega
  have hd0 : -1 ≤ atv s (i + 3) := by omega
  have hd1 : atv s (i + 3) < 256 := by omega
  have ha0 : 0 ≤ atv s i := by omega
  have ha1 : atv s i < 256 := by omega
  have HF : Hid ((atv s (i + 1) = (B : Int) ∨ (atv s (i + 1) = -1 ∧ B = 0)) ∧ (atv s (i + 2) = (C : Int) ∨ (atv s (i + 2) = -1 ∧ C = 0)) ∧ (atv s (i + 3) = (E : Int) ∨ (atv s (i + 3) = -1 ∧ E = 0))) := ⟨F1, F2, F3⟩
  clear F0 F1 F2 F3
  by_cases k1 : atv s i < 128
  · have H : Hid (dg A B C E = (A, 1, true)) := by
      unfold Hid dg
      rw [if_pos (by have := Ha.out; omega)]
    clear hA hB hC hD
    go_enter Tryz.func116, Tryz.ntmps116
    go_wp2_with (first | (go_at_call 119; refine (rat _ _ (by omega) _).mono ?_; rintro e w1 ⟨rfl, rfl⟩) | (go_at_call 120; refine (calls_t (rtail _ _) (by omega)).mono ?_; rintro e w1 ⟨rfl, rfl⟩) | (go_at_call 120; refine (calls_f (rtail _ _) (by omega)).mono ?_; rintro e w1 ⟨rfl, rfl⟩))
    go_ret3
    exact SP.mk (by rw [H.out, Ha.out]; rfl) (by have := Ha.out; omega) (by omega)
  by_cases k2 : atv s i < 194
  · have H : Hid (dg A B C E = (65533, 1, false)) := dgbad (by have := Ha.out; omega) (by have := Ha.out; omega) (by have := Ha.out; omega) (by have := Ha.out; omega)
    have q1 : ¬ 194 ≤ atv s i := by omega
    have q2 : ¬ 224 ≤ atv s i := by omega
    have q3 : ¬ 240 ≤ atv s i := by omega
    clear hA hB hC hD
    go_enter Tryz.func116, Tryz.ntmps116
    go_wp2_with (first | (go_at_call 119; refine (rat _ _ (by omega) _).mono ?_; rintro e w1 ⟨rfl, rfl⟩) | (go_at_call 120; refine (calls_t (rtail _ _) (by omega)).mono ?_; rintro e w1 ⟨rfl, rfl⟩) | (go_at_call 120; refine (calls_f (rtail _ _) (by omega)).mono ?_; rintro e w1 ⟨rfl, rfl⟩))
    go_ret3
    exact SP.mk (by rw [H.out]; rfl) (by omega) (by omega)
  have q1 : 194 ≤ atv s i := by omega
  by_cases k3 : atv s i < 224
  · have q2 : ¬ 224 ≤ atv s i := by omega
    have q3 : ¬ 240 ≤ atv s i := by omega
    by_cases k4 : 128 ≤ atv s (i + 1) ∧ atv s (i + 1) < 192
    · have H : Hid (dg A B C E = (((atv s i - 192) * 64 + atv s (i + 1) - 128).toNat, 2, true)) := by
        have := Ha.out
        have := HF.out.1
        unfold Hid dg
        rw [if_neg (by omega), if_pos (by omega)]
        exact Prod.ext (by show (A - 192) * 64 + (B - 128) = _; omega) rfl
      obtain ⟨k5, k6⟩ := k4
      clear hA hB hC hD
      go_enter Tryz.func116, Tryz.ntmps116
      go_wp2_with (first | (go_at_call 119; refine (rat _ _ (by omega) _).mono ?_; rintro e w1 ⟨rfl, rfl⟩) | (go_at_call 120; refine (calls_t (rtail _ _) (by omega)).mono ?_; rintro e w1 ⟨rfl, rfl⟩) | (go_at_call 120; refine (calls_f (rtail _ _) (by omega)).mono ?_; rintro e w1 ⟨rfl, rfl⟩))
      go_ret3
      exact SP.mk (by rw [H.out]; rfl) (by omega) (by omega)
    · have H : Hid (dg A B C E = (65533, 1, false)) := dgbad (by have := Ha.out; omega) (by have := HF.out.1; omega) (by have := Ha.out; omega) (by have := Ha.out; omega)
      have K4 : Hid _ := k4
      clear hA hB hC hD k4
      go_enter Tryz.func116, Tryz.ntmps116
      go_wp2_with (first | (go_at_call 119; refine (rat _ _ (by omega) _).mono ?_; rintro e w1 ⟨rfl, rfl⟩) | (go_at_call 120; refine (calls_t (rtail _ _) (by omega)).mono ?_; rintro e w1 ⟨rfl, rfl⟩) | (go_at_call 120; refine (calls_f (rtail _ _) K4.out).mono ?_; rintro e w1 ⟨rfl, rfl⟩))
      go_ret3
      exact SP.mk (by rw [H.out]; rfl) (by omega) (by omega)
  have q2 : 224 ≤ atv s i := by omega
  by_cases k4 : atv s i < 240
  · have q3 : ¬ 240 ≤ atv s i := by omega
    by_cases k5 : 128 ≤ atv s (i + 1) ∧ atv s (i + 1) < 192
    · by_cases k6 : 128 ≤ atv s (i + 2) ∧ atv s (i + 2) < 192
      · have HF' := HF.out
        have HA' := Ha.out
        have H3 : Hid (2048 ≤ (atv s i - 224) * 4096 + (atv s (i + 1) - 128) * 64 + atv s (i + 2) - 128 ∧ ((atv s i - 224) * 4096 + (atv s (i + 1) - 128) * 64 + atv s (i + 2) - 128 < 55296 ∨ 57343 < (atv s i - 224) * 4096 + (atv s (i + 1) - 128) * 64 + atv s (i + 2) - 128) → dg A B C E = (((atv s i - 224) * 4096 + (atv s (i + 1) - 128) * 64 + atv s (i + 2) - 128).toNat, 3, true)) := by
          intro hn
          unfold dg
          rw [if_neg (by omega), if_neg (by omega), if_pos (by omega)]
          exact Prod.ext (by show (A - 224) * 4096 + (B - 128) * 64 + (C - 128) = _; omega) rfl
        have HB : Hid (¬ (2048 ≤ (atv s i - 224) * 4096 + (atv s (i + 1) - 128) * 64 + atv s (i + 2) - 128 ∧ ((atv s i - 224) * 4096 + (atv s (i + 1) - 128) * 64 + atv s (i + 2) - 128 < 55296 ∨ 57343 < (atv s i - 224) * 4096 + (atv s (i + 1) - 128) * 64 + atv s (i + 2) - 128)) → dg A B C E = (65533, 1, false)) := by
          intro hn
          exact dgbad (by omega) (by omega) (by omega) (by omega)
        obtain ⟨k5, k7⟩ := k5
        obtain ⟨k6, k8⟩ := k6
        clear hA hB hC hD HF' HA'
        go_enter Tryz.func116, Tryz.ntmps116
        go_wp2_with (first | (go_at_call 119; refine (rat _ _ (by omega) _).mono ?_; rintro e w1 ⟨rfl, rfl⟩) | (go_at_call 120; refine (calls_t (rtail _ _) (by omega)).mono ?_; rintro e w1 ⟨rfl, rfl⟩) | (go_at_call 120; refine (calls_f (rtail _ _) (by omega)).mono ?_; rintro e w1 ⟨rfl, rfl⟩))
        all_goals go_ret3
        all_goals first
          | exact SP.mk (by rw [H3.out (by omega)]; rfl) (by omega) (by omega)
          | exact SP.mk (by rw [HB.out (by omega)]; rfl) (by omega) (by omega)
      · have H : Hid (dg A B C E = (65533, 1, false)) := dgbad (by have := Ha.out; omega) (by have := Ha.out; omega) (by have := HF.out; omega) (by have := Ha.out; omega)
        have K : Hid _ := k6
        obtain ⟨k5, k7⟩ := k5
        clear hA hB hC hD k6
        go_enter Tryz.func116, Tryz.ntmps116
        go_wp2_with (first | (go_at_call 119; refine (rat _ _ (by omega) _).mono ?_; rintro e w1 ⟨rfl, rfl⟩) | (go_at_call 120; refine (calls_t (rtail _ _) (by omega)).mono ?_; rintro e w1 ⟨rfl, rfl⟩) | (go_at_call 120; refine (calls_f (rtail _ _) K.out).mono ?_; rintro e w1 ⟨rfl, rfl⟩))
        go_ret3
        exact SP.mk (by rw [H.out]; rfl) (by omega) (by omega)
    · have H : Hid (dg A B C E = (65533, 1, false)) := dgbad (by have := Ha.out; omega) (by have := Ha.out; omega) (by have := HF.out; omega) (by have := Ha.out; omega)
      have K : Hid _ := k5
      clear hA hB hC hD k5
      go_enter Tryz.func116, Tryz.ntmps116
      go_wp2_with (first | (go_at_call 119; refine (rat _ _ (by omega) _).mono ?_; rintro e w1 ⟨rfl, rfl⟩) | (go_at_call 120; refine (calls_t (rtail _ _) (by omega)).mono ?_; rintro e w1 ⟨rfl, rfl⟩) | (go_at_call 120; refine (calls_f (rtail _ _) K.out).mono ?_; rintro e w1 ⟨rfl, rfl⟩))
      go_ret3
      exact SP.mk (by rw [H.out]; rfl) (by omega) (by omega)
  have q3 : 240 ≤ atv s i := by omega
  by_cases k5 : atv s i < 245
  · by_cases k6 : 128 ≤ atv s (i + 1) ∧ atv s (i + 1) < 192
    · by_cases k7 : 128 ≤ atv s (i + 2) ∧ atv s (i + 2) < 192
      · by_cases k8 : 128 ≤ atv s (i + 3) ∧ atv s (i + 3) < 192
        · have HF' := HF.out
          have HA' := Ha.out
          have H3 : Hid (65536 ≤ (atv s i - 240) * 262144 + (atv s (i + 1) - 128) * 4096 + (atv s (i + 2) - 128) * 64 + atv s (i + 3) - 128 ∧ (atv s i - 240) * 262144 + (atv s (i + 1) - 128) * 4096 + (atv s (i + 2) - 128) * 64 + atv s (i + 3) - 128 < 1114112 → dg A B C E = (((atv s i - 240) * 262144 + (atv s (i + 1) - 128) * 4096 + (atv s (i + 2) - 128) * 64 + atv s (i + 3) - 128).toNat, 4, true)) := by
            intro hn
            unfold dg
            rw [if_neg (by omega), if_neg (by omega), if_neg (by omega), if_pos (by omega)]
            exact Prod.ext (by show (A - 240) * 262144 + (B - 128) * 4096 + (C - 128) * 64 + (E - 128) = _; omega) rfl
          have HB : Hid (¬ (65536 ≤ (atv s i - 240) * 262144 + (atv s (i + 1) - 128) * 4096 + (atv s (i + 2) - 128) * 64 + atv s (i + 3) - 128 ∧ (atv s i - 240) * 262144 + (atv s (i + 1) - 128) * 4096 + (atv s (i + 2) - 128) * 64 + atv s (i + 3) - 128 < 1114112) → dg A B C E = (65533, 1, false)) := by
            intro hn
            exact dgbad (by omega) (by omega) (by omega) (by omega)
          obtain ⟨k6, k9⟩ := k6
          obtain ⟨k7, k10⟩ := k7
          obtain ⟨k8, k11⟩ := k8
          clear hA hB hC hD HF' HA'
          go_enter Tryz.func116, Tryz.ntmps116
          go_wp2_with (first | (go_at_call 119; refine (rat _ _ (by omega) _).mono ?_; rintro e w1 ⟨rfl, rfl⟩) | (go_at_call 120; refine (calls_t (rtail _ _) (by omega)).mono ?_; rintro e w1 ⟨rfl, rfl⟩) | (go_at_call 120; refine (calls_f (rtail _ _) (by omega)).mono ?_; rintro e w1 ⟨rfl, rfl⟩))
          all_goals go_ret3
          all_goals first
            | exact SP.mk (by rw [H3.out (by omega)]; rfl) (by omega) (by omega)
            | exact SP.mk (by rw [HB.out (by omega)]; rfl) (by omega) (by omega)
        · have H : Hid (dg A B C E = (65533, 1, false)) := dgbad (by have := Ha.out; omega) (by have := Ha.out; omega) (by have := Ha.out; omega) (by have := HF.out; omega)
          have K : Hid _ := k8
          obtain ⟨k6, k9⟩ := k6
          obtain ⟨k7, k10⟩ := k7
          clear hA hB hC hD k8
          go_enter Tryz.func116, Tryz.ntmps116
          go_wp2_with (first | (go_at_call 119; refine (rat _ _ (by omega) _).mono ?_; rintro e w1 ⟨rfl, rfl⟩) | (go_at_call 120; refine (calls_t (rtail _ _) (by omega)).mono ?_; rintro e w1 ⟨rfl, rfl⟩) | (go_at_call 120; refine (calls_f (rtail _ _) K.out).mono ?_; rintro e w1 ⟨rfl, rfl⟩))
          go_ret3
          exact SP.mk (by rw [H.out]; rfl) (by omega) (by omega)
      · have H : Hid (dg A B C E = (65533, 1, false)) := dgbad (by have := Ha.out; omega) (by have := Ha.out; omega) (by have := Ha.out; omega) (by have := HF.out; omega)
        have K : Hid _ := k7
        obtain ⟨k6, k9⟩ := k6
        clear hA hB hC hD k7
        go_enter Tryz.func116, Tryz.ntmps116
        go_wp2_with (first | (go_at_call 119; refine (rat _ _ (by omega) _).mono ?_; rintro e w1 ⟨rfl, rfl⟩) | (go_at_call 120; refine (calls_t (rtail _ _) (by omega)).mono ?_; rintro e w1 ⟨rfl, rfl⟩) | (go_at_call 120; refine (calls_f (rtail _ _) K.out).mono ?_; rintro e w1 ⟨rfl, rfl⟩))
        go_ret3
        exact SP.mk (by rw [H.out]; rfl) (by omega) (by omega)
    · have H : Hid (dg A B C E = (65533, 1, false)) := dgbad (by have := Ha.out; omega) (by have := Ha.out; omega) (by have := Ha.out; omega) (by have := HF.out; omega)
      have K : Hid _ := k6
      clear hA hB hC hD k6
      go_enter Tryz.func116, Tryz.ntmps116
      go_wp2_with (first | (go_at_call 119; refine (rat _ _ (by omega) _).mono ?_; rintro e w1 ⟨rfl, rfl⟩) | (go_at_call 120; refine (calls_t (rtail _ _) (by omega)).mono ?_; rintro e w1 ⟨rfl, rfl⟩) | (go_at_call 120; refine (calls_f (rtail _ _) K.out).mono ?_; rintro e w1 ⟨rfl, rfl⟩))
      go_ret3
      exact SP.mk (by rw [H.out]; rfl) (by omega) (by omega)
  · have H : Hid (dg A B C E = (65533, 1, false)) := dgbad (by have := Ha.out; omega) (by have := Ha.out; omega) (by have := Ha.out; omega) (by have := Ha.out; omega)
    clear hA hB hC hD
    go_enter Tryz.func116, Tryz.ntmps116
    go_wp2_with (first | (go_at_call 119; refine (rat _ _ (by omega) _).mono ?_; rintro e w1 ⟨rfl, rfl⟩) | (go_at_call 120; refine (calls_t (rtail _ _) (by omega)).mono ?_; rintro e w1 ⟨rfl, rfl⟩) | (go_at_call 120; refine (calls_f (rtail _ _) (by omega)).mono ?_; rintro e w1 ⟨rfl, rfl⟩))
    go_ret3
    exact SP.mk (by rw [H.out]; rfl) (by omega) (by omega)
end Go.Proofs.YtdmlgheajblcdaaGreat.N4
