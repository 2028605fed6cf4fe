/- The reference's Sum. -/
import Derived.Test.YtpddddnjmklfdaaD
import Derived.WalkKit
import Derived.ProofKit
import Derived.Handy
import Derived.WalkLawsBesides
import Derived.WalkSpells
import Derived.BigQuiet
import Derived.BigCall
import Derived.Deep.QuietTactic
import Derived.Deep.Light
import Derived.Deep.OwnRows
import Derived.Laws.AppendOwnNone
import Derived.Laws.Strings3
import Derived.Laws.RangeAny
import Derived.Deep.RegionWith
import Derived.Lib.BitFns
import Derived.Lib.Walk
import Derived.Lib.Strings
import Derived.Lib.OthersKept
import Derived.Deep.CutBlock
import Derived.Deep.DeepCutAuto
import Derived.Deep.LoopGhost
import Derived.Deep.RegionHeld3
import Derived.Lib.SmallJoins
import Derived.Maps.AppendAt
import Derived.Laws.IdiomStrings
import Derived.Lib.AppendZeros
import Derived.Deep.WholeRow
import Derived.Laws.BitsAllLaws
namespace Go.Proofs.Ytpddddnjmklfdaa
open Go.RowKit
set_option linter.unusedVariables false
set_option linter.unusedSimpArgs false
set_option maxHeartbeats 4000000 in
theorem rsum (s : ByteArray) (hs : s.size ≤ 9223372036854775807) (w : World) : Calls Try.prog 15 #[.string s] w (NP .u32 (sumN s.data.toList) w) := by
  have HL : Hid (s.data.toList.length = s.size) := rfl
  go_enter Try.func15, Try.ntmps15
  go_wp2_with fail
  go_loopw [3, 4] (fun v i wr => ∃ (k c : Nat), v = .int .u32 c ∧ i = .int .i64 k ∧ k ≤ s.size ∧ c < 4294967296 ∧ w = wr ∧ Hid (c = crcN (s.data.toList.take k))) (fun _ i _ => s.size - (Lib.intOf i).toNat)
  case atStart => exact ⟨0, 4294967295, rfl, rfl, Nat.zero_le _, by omega, by first | rfl | trivial, rfl⟩
  case round =>
    obtain ⟨k, c, rfl, rfl, hk, hc, rfl, hcr⟩ := hrel
    by_cases hkn : k < s.size
    · have hkz : (k : Int) < (s.size : Int) := by omega
      have hst := crcN_take hkn
      rw [← hcr.out] at hst
      obtain ⟨x, hx⟩ : ∃ x : UInt8, s[k] = x := ⟨_, rfl⟩
      rw [hx] at hst
      have hxl := x.toNat_lt
      have hb := u32_xor_nat c x.toNat hc (by omega)
      have hlt : c ^^^ x.toNat < 4294967296 := Nat.xor_lt_two_pow (n := 32) (by omega) (by omega)
      have hl2 := stn_lt 8 hlt
      have HS : Hid (crcN (s.data.toList.take (k + 1)) = stn 8 (c ^^^ x.toNat)) := hst
      clear hst hcr
      generalize c ^^^ x.toNat = z at *
      go_wp2_with fail
      go_loopw [3, 5] (fun v i wr => ∃ (j c : Nat), v = .int .u32 c ∧ i = .int .i64 j ∧ j ≤ 8 ∧ c < 4294967296 ∧ w = wr ∧ Hid (stn (8 - j) c = stn 8 z)) (fun _ i _ => 8 - (Lib.intOf i).toNat)
      case atStart => exact ⟨0, z, rfl, rfl, by omega, hlt, by first | rfl | trivial, rfl⟩
      case round =>
        obtain ⟨j, c2, rfl, rfl, hj, hc2, rfl, hst⟩ := hrel
        by_cases hjn : j < 8
        · have hjz : (j : Int) < 8 := by omega
          have hgo := stn_go hjn hst.out
          have hlt2 := st_lt hc2
          by_cases h2 : c2 % 2 = 1
          · have ha : ((c2 : Int) % 2 == 1) = true := by rw [beq_iff_eq]; omega
            have hx := xor_half c2 hc2
            rw [st_odd h2] at hgo hlt2
            have HG : Hid (stn (8 - (j + 1)) (c2 / 2 ^^^ 3988292384) = stn 8 z) := hgo
            have HX : Hid _ := hx
            have HL : Hid (c2 / 2 ^^^ 3988292384 < 4294967296) := hlt2
            clear hgo hx hlt2 h2
            go_wp2_with fail
            exact ⟨⟨j + 1, c2 / 2 ^^^ 3988292384, by rw [HX.out], by go_num, by omega, HL.out, by first | rfl | trivial, HG.out⟩, by simp [Lib.intOf]; omega⟩
          · have ha : ((c2 : Int) % 2 == 1) = false := by rw [beq_eq_false_iff_ne]; omega
            rw [st_even h2] at hgo hlt2
            have HG : Hid (stn (8 - (j + 1)) (c2 / 2) = stn 8 z) := hgo
            have HL : Hid (c2 / 2 < 4294967296) := hlt2
            clear hgo hlt2 h2
            go_wp2_with fail
            exact ⟨⟨j + 1, c2 / 2, by go_num, by go_num, by omega, HL.out, by first | rfl | trivial, HG.out⟩, by simp [Lib.intOf]; omega⟩
        · have hjz : ¬ (j : Int) < 8 := by omega
          have : j = 8 := by omega
          subst this
          go_wp2_with fail
          exact ⟨⟨k + 1, c2, by first | rfl | trivial, by go_num, by omega, hc2, by first | rfl | trivial, by unfold Hid; rw [HS.out, ← hst.out]; rfl⟩, by simp [Lib.intOf]; omega⟩
    · have hkz : ¬ (k : Int) < (s.size : Int) := by omega
      have HS : Hid (sumN s.data.toList = 4294967295 - c) := by
        have h1 := hcr.out
        rw [List.take_of_length_le (by rw [HL.out]; omega)] at h1
        unfold Hid sumN
        rw [h1]
      clear hcr
      go_wp2_with fail
      go_ret
      exact NP.mk (by rw [HS.out]; omega)
end Go.Proofs.Ytpddddnjmklfdaa
