/- The reference's Plain. Condition: the text has at most 2 to the 40th bytes. -/
import Derived.Test.YtgkefaojbdjnoaaDoorZB
import Derived.WalkKit
import Derived.ProofKit
import Derived.Handy
import Derived.WalkLawsBesides
import Derived.WalkSpells
import Derived.BigQuiet
import Derived.BigCall
import Derived.Deep.QuietTactic
import Derived.Deep.Light
import Derived.Deep.OwnRows
import Derived.Laws.AppendOwnNone
import Derived.Laws.Strings3
import Derived.Laws.RangeAny
import Derived.Deep.RegionWith
import Derived.Lib.BitFns
import Derived.Lib.Walk
import Derived.Lib.Strings
import Derived.Lib.OthersKept
import Derived.Deep.CutBlock
import Derived.Deep.DeepCutAuto
import Derived.Deep.LoopGhost
import Derived.Deep.RegionHeld3
import Derived.Lib.SmallJoins
import Derived.Maps.AppendAt
import Derived.Laws.IdiomStrings
namespace Go.Proofs.YtgkefaojbdjnoaaDoor
open Go.RowKit
set_option linter.unusedVariables false
set_option linter.unusedSimpArgs false
set_option maxRecDepth 100000 in
set_option maxHeartbeats 8000000 in
theorem rplains (s : ByteArray) (hs : s.size ≤ 1099511627776) (w : World) : Calls Tryd.prog 25 #[.string s] w (STB (plain s.data.toList) w) := by
  go_enter Tryd.func25, Tryd.ntmps25
  go_wp2_with fail
  refine (rsigns s hs _).mono ?_
  rintro e W1 ⟨v1, v2, rfl, hs1, hs2, hb1⟩
  obtain ⟨a, cap, rfl, hsg⟩ := hs1
  have HSG : Hid _ := hsg
  have HB1 : Hid (Below w.heap.size w W1) := hb1
  have hcl : (cs s.data.toList 0).length ≤ s.size := cs_len s.data.toList
  have HV : Hid (∀ k, k < (cs s.data.toList 0).length → Vl ((cs s.data.toList 0).getD k 0)) := fun k hk => cs_at hk
  have HW : Hid (((cs s.data.toList 0).map low).flatMap pl = plain s.data.toList) := rfl
  clear hsg hs2 hb1
  generalize cs s.data.toList 0 = xs at *
  generalize plain s.data.toList = R at *
  go_wp2_with fail
  go_loopw [6, 7] (fun v i wr => ∃ (k : Nat) (q : ByteArray), i = .int .i64 k ∧ v = .string q ∧ k ≤ xs.length ∧ q.size ≤ 2 * k ∧ Hid (q.data.toList ++ ((xs.drop k).map low).flatMap pl = R) ∧ Hid (Below W1.heap.size W1 wr)) (fun _ i _ => xs.length - (Lib.intOf i).toNat)
  case atStart => exact ⟨0, ⟨#[]⟩, rfl, rfl, Nat.zero_le _, Nat.le_refl _, by unfold Hid; rw [List.drop_zero, HW.out]; rfl, Below.refl _ _⟩
  case round =>
    obtain ⟨k, q, rfl, rfl, hk, hq, hsum, hbr⟩ := hrel
    by_cases hkn : k < xs.length
    · have hkz : (k : Int) < (xs.length : Int) := by omega
      obtain ⟨b, rfl, hlt, hc⟩ := HSG.out (by intro e; rw [e] at hkn; simp at hkn)
      have hck : wr.cell? ⟨b, k, none⟩ = some (.int .i64 ((xs.getD k 0 : Nat) : Int)) := (hbr.out.cell (by exact hlt)).trans (hc k hkn)
      have hv := (HV.out k hkn).le
      have hv2 := (low_V (HV.out k hkn)).le
      have Hd : Hid (xs.drop k = xs.getD k 0 :: xs.drop (k + 1)) := drop_getD hkn
      clear hc
      generalize xs.getD k 0 = c0 at *
      have HLow : Hid (∀ w, Calls Tryd.prog 45 #[.int .i64 c0] w fun e w' => e = .returned (.int .i64 (low c0)) ∧ w = w') := fun w => rlow c0 hv w
      have Hnx : Hid (∀ (q' : ByteArray) (E : List UInt8), q'.data.toList = q.data.toList ++ E → pl (low c0) = E → (q'.size ≤ 2 * (k + 1) ∧ Hid (q'.data.toList ++ ((xs.drop (k + 1)).map low).flatMap pl = R))) := by
        intro q' E h1 h2
        have h3 := pl_len (low c0)
        rw [h2] at h3
        constructor
        · have : q'.size = q'.data.toList.length := rfl
          rw [this, h1, List.length_append]
          have : q.data.toList.length = q.size := rfl
          omega
        · have h4 := hsum.out
          rw [Hd.out, List.map_cons, List.flatMap_cons, h2] at h4
          unfold Hid
          rw [h1, List.append_assoc]
          exact h4
      have hsz : wr.heap.size ≤ wr.heap.size := Nat.le_refl _
      have HW1 : Hid (W1.heap.size ≤ wr.heap.size) := hbr.out.size
      generalize low c0 = c at *
      by_cases hdi : Dig c
      · have HDi : Hid (Dig c) := hdi
        have HP : Hid (pl c = [c.toUInt8]) := by
          unfold Hid pl
          rw [if_neg (by omega), if_pos hdi]
        have hcv : (convert 50 9 (Value.slice (some ⟨wr.heap.size, 0, none⟩) 1 1)).run Tryd.prog (wr.alloc (.cells #[.int .u8 (c : Int)] 5)) = .ok (.string ⟨#[c.toUInt8]⟩) (wr.alloc (.cells #[.int .u8 (c : Int)] 5)) := by
          have := str_one wr c.toUInt8
          rw [u8n c (by omega)] at this
          exact this
        have g1 : ((c : Int) == 32) = false := beq_eq_false_iff_ne.2 (by omega)
        have g2 : ((c : Int) == 45) = false := beq_eq_false_iff_ne.2 (by omega)
        have g3 : ¬ (97 : Int) ≤ c := by omega
        have g4 : ¬ (128 : Int) ≤ c := by omega
        have hcd : (c : Int) < 256 := by omega
        generalize c.toUInt8 = y at *
        clear hdi
        go_wp2_with (first | (go_at_call 45; refine Calls.mono (HLow.out _) ?_; rintro e w2 ⟨rfl, rfl⟩) | (go_at_call 31; refine (calls_t (rdigit c _) HDi.out).mono ?_; rintro e w2 ⟨rfl, rfl⟩))
        go_roundw
        case rel =>
          obtain ⟨z1, z2⟩ := Hnx.out (q ++ ⟨#[y]⟩) [y] (by rw [ByteArray.data_append, Array.toList_append]) HP.out
          exact ⟨k + 1, (q ++ ⟨#[y]⟩), by go_num, rfl, by omega, z1, z2, hbr.out.alloc HW1.out _⟩
        case measure =>
          simp [Lib.intOf]
          omega
      have HDi : Hid (¬ Dig c) := hdi
      by_cases h32 : c = 32 ∨ c = 45
      · have HP : Hid (pl c = [32]) := by
          unfold Hid pl
          rw [if_neg (by omega), if_neg hdi, if_pos h32]
        have g3 : ¬ (97 : Int) ≤ c := by omega
        have g4 : ¬ (128 : Int) ≤ c := by omega
        clear hdi
        rcases h32 with h32 | h32
        · have g1 : ((c : Int) == 32) = true := beq_iff_eq.2 (by omega)
          clear h32
          go_wp2_with (first | (go_at_call 45; refine Calls.mono (HLow.out _) ?_; rintro e w2 ⟨rfl, rfl⟩) | (go_at_call 31; refine (calls_f (rdigit c _) HDi.out).mono ?_; rintro e w2 ⟨rfl, rfl⟩))
          go_roundw
          case rel =>
            obtain ⟨z1, z2⟩ := Hnx.out (q ++ ⟨#[32]⟩) [32] (by rw [ByteArray.data_append, Array.toList_append]) HP.out
            exact ⟨k + 1, (q ++ ⟨#[32]⟩), by go_num, rfl, by omega, z1, z2, hbr.out⟩
          case measure =>
            simp [Lib.intOf]
            omega
        · have g1 : ((c : Int) == 32) = false := beq_eq_false_iff_ne.2 (by omega)
          have g2 : ((c : Int) == 45) = true := beq_iff_eq.2 (by omega)
          clear h32
          go_wp2_with (first | (go_at_call 45; refine Calls.mono (HLow.out _) ?_; rintro e w2 ⟨rfl, rfl⟩) | (go_at_call 31; refine (calls_f (rdigit c _) HDi.out).mono ?_; rintro e w2 ⟨rfl, rfl⟩))
          go_roundw
          case rel =>
            obtain ⟨z1, z2⟩ := Hnx.out (q ++ ⟨#[32]⟩) [32] (by rw [ByteArray.data_append, Array.toList_append]) HP.out
            exact ⟨k + 1, (q ++ ⟨#[32]⟩), by go_num, rfl, by omega, z1, z2, hbr.out⟩
          case measure =>
            simp [Lib.intOf]
            omega
      have g1 : ((c : Int) == 32) = false := beq_eq_false_iff_ne.2 (by omega)
      have g2 : ((c : Int) == 45) = false := beq_eq_false_iff_ne.2 (by omega)
      by_cases hle : 97 ≤ c ∧ c ≤ 122
      · have HP : Hid (pl c = [(c - 32).toUInt8]) := by
          unfold Hid pl
          rw [if_pos hle]
        have hcv : (convert 50 9 (Value.slice (some ⟨wr.heap.size, 0, none⟩) 1 1)).run Tryd.prog (wr.alloc (.cells #[.int .u8 ((c : Int) - 32)] 5)) = .ok (.string ⟨#[(c - 32).toUInt8]⟩) (wr.alloc (.cells #[.int .u8 ((c : Int) - 32)] 5)) := by
          have := str_one wr (c - 32).toUInt8
          rw [u8n (c - 32) (by omega), show ((c - 32 : Nat) : Int) = (c : Int) - 32 by omega] at this
          exact this
        obtain ⟨k1, k2⟩ := hle
        have g3 : (97 : Int) ≤ c := by omega
        have g4 : (c : Int) ≤ 122 := by omega
        have g5 : ¬ (128 : Int) ≤ c := by omega
        generalize (c - 32).toUInt8 = y at *
        clear hdi h32
        go_wp2_with (first | (go_at_call 45; refine Calls.mono (HLow.out _) ?_; rintro e w2 ⟨rfl, rfl⟩) | (go_at_call 31; refine (calls_f (rdigit c _) HDi.out).mono ?_; rintro e w2 ⟨rfl, rfl⟩))
        go_roundw
        case rel =>
          obtain ⟨z1, z2⟩ := Hnx.out (q ++ ⟨#[y]⟩) [y] (by rw [ByteArray.data_append, Array.toList_append]) HP.out
          exact ⟨k + 1, (q ++ ⟨#[y]⟩), by go_num, rfl, by omega, z1, z2, hbr.out.alloc HW1.out _⟩
        case measure =>
          simp [Lib.intOf]
          omega
      have HP0 : Hid (pl c = high c) := by
        unfold Hid pl
        rw [if_neg hle, if_neg hdi, if_neg h32]
      by_cases h128 : 128 ≤ c
      · have g3 : (97 : Int) ≤ c := by omega
        have g4 : ¬ (c : Int) ≤ 122 := by omega
        have g5 : (128 : Int) ≤ c := by omega
        have HQ : Hid (∀ w, Calls Tryd.prog 49 #[.int .i64 c] w fun e w' => e = .returned (.string ⟨(pll c).toArray⟩) ∧ Below w.heap.size w w') := fun w => rplain1 c hv2 w
        have HH : Hid (∀ w, Calls Tryd.prog 48 #[.string ⟨(pll c).toArray⟩] w fun e w' => e = .returned (.string ⟨(high c).toArray⟩) ∧ Below w.heap.size w w') := fun w => by
          have h1 := rgreat ⟨(pll c).toArray⟩ (by have := pll_len c; show (pll c).length ≤ _; omega) w
          have h2 : grt (⟨(pll c).toArray⟩ : ByteArray).data.toList = high c := grt_pll c
          rw [h2] at h1
          exact h1
        have hhl := high_len c
        obtain ⟨E, hE⟩ : ∃ E, high c = E := ⟨_, rfl⟩
        rw [hE] at hhl HH HP0
        generalize pll c = T at *
        clear hE hdi h32 hle h128
        go_wp2_with (first | (go_at_call 45; refine Calls.mono (HLow.out _) ?_; rintro e w2 ⟨rfl, rfl⟩) | (go_at_call 31; refine (calls_f (rdigit c _) HDi.out).mono ?_; rintro e w2 ⟨rfl, rfl⟩) | (go_at_call 49; refine Calls.mono (HQ.out _) ?_; rintro e w2 ⟨rfl, hb2⟩) | (go_at_call 48; refine Calls.mono (HH.out _) ?_; rintro e w3 ⟨rfl, hb3⟩))
        go_roundw
        case rel =>
          obtain ⟨z1, z2⟩ := Hnx.out (q ++ ⟨E.toArray⟩) E (by rw [ByteArray.data_append, Array.toList_append]) HP0.out
          exact ⟨k + 1, (q ++ ⟨E.toArray⟩), by go_num, rfl, by omega, z1, z2, hbr.out.trans ((hb2.trans (hb3.mono hb2.size)).mono HW1.out)⟩
        case measure =>
          simp [Lib.intOf]
          omega
      · have HP : Hid (pl c = []) := by
          unfold Hid
          rw [HP0.out]
          exact high_low (by omega)
        have g5 : ¬ (128 : Int) ≤ c := by omega
        by_cases h97 : 97 ≤ c
        · have g3 : (97 : Int) ≤ c := by omega
          have g4 : ¬ (c : Int) ≤ 122 := by omega
          clear hdi h32 hle h128 HP0
          go_wp2_with (first | (go_at_call 45; refine Calls.mono (HLow.out _) ?_; rintro e w2 ⟨rfl, rfl⟩) | (go_at_call 31; refine (calls_f (rdigit c _) HDi.out).mono ?_; rintro e w2 ⟨rfl, rfl⟩))
          go_roundw
          case rel =>
            obtain ⟨z1, z2⟩ := Hnx.out q [] (by rw [List.append_nil]) HP.out
            exact ⟨k + 1, q, by go_num, rfl, by omega, z1, z2, hbr.out⟩
          case measure =>
            simp [Lib.intOf]
            omega
        · have g3 : ¬ (97 : Int) ≤ c := by omega
          clear hdi h32 hle h128 HP0
          go_wp2_with (first | (go_at_call 45; refine Calls.mono (HLow.out _) ?_; rintro e w2 ⟨rfl, rfl⟩) | (go_at_call 31; refine (calls_f (rdigit c _) HDi.out).mono ?_; rintro e w2 ⟨rfl, rfl⟩))
          go_roundw
          case rel =>
            obtain ⟨z1, z2⟩ := Hnx.out q [] (by rw [List.append_nil]) HP.out
            exact ⟨k + 1, q, by go_num, rfl, by omega, z1, z2, hbr.out⟩
          case measure =>
            simp [Lib.intOf]
            omega
    · have hkz : ¬ (k : Int) < (xs.length : Int) := by omega
      go_wp2_with fail
      go_ret
      refine STB.mk ?_ (HB1.out.trans (hbr.out.mono HB1.out.size))
      have h1 := hsum.out
      rw [List.drop_of_length_le (by omega), List.map_nil, List.flatMap_nil, List.append_nil] at h1
      exact h1
end Go.Proofs.YtgkefaojbdjnoaaDoor
