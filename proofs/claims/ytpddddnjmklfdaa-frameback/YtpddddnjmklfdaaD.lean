/- The program's shiftByte and Sum. -/
import Derived.Test.YtpddddnjmklfdaaC
import Derived.WalkKit
import Derived.ProofKit
import Derived.Handy
import Derived.WalkLawsBesides
import Derived.WalkSpells
import Derived.BigQuiet
import Derived.BigCall
import Derived.Deep.QuietTactic
import Derived.Deep.Light
import Derived.Deep.OwnRows
import Derived.Laws.AppendOwnNone
import Derived.Laws.Strings3
import Derived.Laws.RangeAny
import Derived.Deep.RegionWith
import Derived.Lib.BitFns
import Derived.Lib.Walk
import Derived.Lib.Strings
import Derived.Lib.OthersKept
import Derived.Deep.CutBlock
import Derived.Deep.DeepCutAuto
import Derived.Deep.LoopGhost
import Derived.Deep.RegionHeld3
import Derived.Lib.SmallJoins
import Derived.Maps.AppendAt
import Derived.Laws.IdiomStrings
import Derived.Lib.AppendZeros
import Derived.Deep.WholeRow
import Derived.Laws.BitsAllLaws
namespace Go.Proofs.Ytpddddnjmklfdaa
open Go.RowKit
set_option linter.unusedVariables false
set_option linter.unusedSimpArgs false
/-- A call answers a number, and leaves the world alone. -/
def NP (k : IntKind) (n : Int) (w : World) (e : Ending) (w' : World) : Prop := e = .returned (.int k n) ∧ w = w'
theorem NP.mk {k : IntKind} {n m : Int} {w : World} (h : m = n) : NP k n w (.returned (.int k m)) w := ⟨by rw [h], rfl⟩
theorem and_one (c : Nat) (hc : c < 4294967296) : bits .and .u32 (c : Int) 1 = ((c % 2 : Nat) : Int) := by
  have := u32_and_nat c 1 hc (by omega)
  rw [Nat.and_one_is_mod] at this
  exact this
theorem xor_half (c : Nat) (hc : c < 4294967296) : bits .xor .u32 ((c : Int) / 2) 3988292384 = ((c / 2 ^^^ 3988292384 : Nat) : Int) := u32_xor_nat (c / 2) 3988292384 (by omega) (by omega)
theorem stn_go {k c m : Nat} (hk : k < 8) (h : stn (8 - k) c = m) : stn (8 - (k + 1)) (st c) = m := by
  rw [show 8 - k = 8 - (k + 1) + 1 by omega] at h
  exact h
theorem st_odd {c : Nat} (h : c % 2 = 1) : st c = c / 2 ^^^ 3988292384 := if_pos h
theorem st_even {c : Nat} (h : ¬ c % 2 = 1) : st c = c / 2 := if_neg h
set_option maxHeartbeats 4000000 in
theorem xshift (r : Nat) (hr : r < 4294967296) (w : World) : Calls Try.prog 26 #[.int .u32 r] w (NP .u32 (stn 8 r) w) := by
  go_enter Try.func26, Try.ntmps26
  go_wp2_with fail
  go_loopw [0, 4] (fun v i wr => ∃ (k c : Nat), v = .int .u32 c ∧ i = .int .i64 k ∧ k ≤ 8 ∧ c < 4294967296 ∧ w = wr ∧ Hid (stn (8 - k) c = stn 8 r)) (fun _ i _ => 8 - (Lib.intOf i).toNat)
  case atStart => exact ⟨0, r, rfl, rfl, by omega, hr, by first | rfl | trivial, rfl⟩
  case round =>
    obtain ⟨k, c, rfl, rfl, hk, hc, rfl, hst⟩ := hrel
    by_cases hkn : k < 8
    · have hkz : (k : Int) < 8 := by omega
      have hgo := stn_go hkn hst.out
      have hlt := st_lt hc
      by_cases h2 : c % 2 = 1
      · have ha : bits .and .u32 (c : Int) 1 = 1 := by rw [and_one c hc, h2]; rfl
        have hx := xor_half c hc
        rw [st_odd h2] at hgo hlt
        have HG : Hid (stn (8 - (k + 1)) (c / 2 ^^^ 3988292384) = stn 8 r) := hgo
        have HX : Hid _ := hx
        have HL : Hid (c / 2 ^^^ 3988292384 < 4294967296) := hlt
        clear hgo hx hlt
        go_wp2_with fail
        exact ⟨⟨k + 1, c / 2 ^^^ 3988292384, by rw [HX.out], by go_num, by omega, HL.out, by first | rfl | trivial, HG.out⟩, by simp [Lib.intOf]; omega⟩
      · have ha : bits .and .u32 (c : Int) 1 = 0 := by rw [and_one c hc, show c % 2 = 0 by omega]; rfl
        rw [st_even h2] at hgo hlt
        have HG : Hid (stn (8 - (k + 1)) (c / 2) = stn 8 r) := hgo
        have HL : Hid (c / 2 < 4294967296) := hlt
        clear hgo hlt
        go_wp2_with fail
        exact ⟨⟨k + 1, c / 2, by go_num, by go_num, by omega, HL.out, by first | rfl | trivial, HG.out⟩, by simp [Lib.intOf]; omega⟩
    · have hkz : ¬ (k : Int) < 8 := by omega
      have : k = 8 := by omega
      subst this
      go_wp2_with fail
      go_ret
      exact NP.mk (by rw [← hst.out]; rfl)
theorem drop_at {s : ByteArray} {k : Nat} (h : k < s.size) : s.data.toList.drop k = s[k] :: s.data.toList.drop (k + 1) := by
  have h1 : k < s.data.toList.length := h
  rw [List.drop_eq_getElem_cons h1]
  rfl
theorem take_at {s : ByteArray} {k : Nat} (h : k < s.size) : s.data.toList.take (k + 1) = s.data.toList.take k ++ [s[k]] := by
  rw [List.take_succ_eq_append_getElem (by simpa using h)]
  rfl
theorem at_data {s : ByteArray} {k : Nat} (h : k < s.size) : s.data.toList.getD k 0 = s[k] := by
  have h1 : k < s.data.toList.length := h
  rw [List.getD_eq_getElem?_getD, List.getElem?_eq_getElem h1]
  rfl
theorem crcN_take {s : ByteArray} {k : Nat} (h : k < s.size) : crcN (s.data.toList.take (k + 1)) = stn 8 (crcN (s.data.toList.take k) ^^^ s[k].toNat) := by
  rw [take_at h]
  exact crcN_snoc _ _
theorem not32 (c : Nat) (hc : c < 4294967296) : bits .xor .u32 IntKind.u32.max (c : Int) = ((4294967295 - c : Nat) : Int) := by
  rw [turn32 hc]
  exact u32_xor_nat 4294967295 c (by omega) hc
set_option maxHeartbeats 4000000 in
theorem xsum (s : ByteArray) (hs : s.size ≤ 9223372036854775807) (w : World) : Calls Try.prog 14 #[.string s] w (NP .u32 (sumN s.data.toList) w) := by
  have HL : Hid (s.data.toList.length = s.size) := rfl
  go_enter Try.func14, Try.ntmps14
  go_wp2_with fail
  go_loopw [3, 7] (fun v i wr => ∃ (k c : Nat), v = .int .u32 c ∧ i = .int .i64 k ∧ k ≤ s.size ∧ c < 4294967296 ∧ w = wr ∧ Hid (c = crcN (s.data.toList.take k))) (fun _ i _ => s.size - (Lib.intOf i).toNat)
  case atStart => exact ⟨0, 4294967295, rfl, rfl, Nat.zero_le _, by omega, by first | rfl | trivial, rfl⟩
  case round =>
    obtain ⟨k, c, rfl, rfl, hk, hc, rfl, hcr⟩ := hrel
    by_cases hkn : k < s.size
    · have hkz : (k : Int) < (s.size : Int) := by omega
      have hst := crcN_take hkn
      rw [← hcr.out] at hst
      obtain ⟨x, hx⟩ : ∃ x : UInt8, s[k] = x := ⟨_, rfl⟩
      rw [hx] at hst
      have hxl := x.toNat_lt
      have hb := u32_xor_nat c x.toNat hc (by omega)
      have hlt : c ^^^ x.toNat < 4294967296 := Nat.xor_lt_two_pow (n := 32) (by omega) (by omega)
      have hl2 := stn_lt 8 hlt
      have HC : Hid (∀ w, Calls Try.prog 26 #[.int .u32 ((c ^^^ x.toNat : Nat) : Int)] w (NP .u32 (stn 8 (c ^^^ x.toNat)) w)) := fun w => xshift _ hlt w
      have HS : Hid (crcN (s.data.toList.take (k + 1)) = stn 8 (c ^^^ x.toNat)) := hst
      clear hst hlt hcr
      generalize stn 8 (c ^^^ x.toNat) = d at *
      generalize c ^^^ x.toNat = z at *
      go_wp2_with fail
      refine (HC.out _).mono ?_
      rintro e w1 ⟨rfl, rfl⟩
      go_wp2_with fail
      exact ⟨⟨k + 1, d, by first | rfl | trivial, by go_num, by omega, hl2, by first | rfl | trivial, HS.out.symm⟩, by simp [Lib.intOf]; omega⟩
    · have hkz : ¬ (k : Int) < (s.size : Int) := by omega
      have HS : Hid (sumN s.data.toList = 4294967295 - c) := by
        have h1 := hcr.out
        rw [List.take_of_length_le (by rw [HL.out]; omega)] at h1
        unfold Hid sumN
        rw [h1]
      have HN : Hid (bits .xor .u32 IntKind.u32.max (c : Int) = ((4294967295 - c : Nat) : Int)) := not32 c hc
      clear hcr
      go_wp2_with fail
      go_ret
      exact NP.mk (by rw [HS.out]; exact HN.out)
end Go.Proofs.Ytpddddnjmklfdaa
