/- The program's turned and number. -/
import Derived.Test.YtpddddnjmklfdaaG
import Derived.WalkKit
import Derived.ProofKit
import Derived.Handy
import Derived.WalkLawsBesides
import Derived.WalkSpells
import Derived.BigQuiet
import Derived.BigCall
import Derived.Deep.QuietTactic
import Derived.Deep.Light
import Derived.Deep.OwnRows
import Derived.Laws.AppendOwnNone
import Derived.Laws.Strings3
import Derived.Laws.RangeAny
import Derived.Deep.RegionWith
import Derived.Lib.BitFns
import Derived.Lib.Walk
import Derived.Lib.Strings
import Derived.Lib.OthersKept
import Derived.Deep.CutBlock
import Derived.Deep.DeepCutAuto
import Derived.Deep.LoopGhost
import Derived.Deep.RegionHeld3
import Derived.Lib.SmallJoins
import Derived.Maps.AppendAt
import Derived.Laws.IdiomStrings
import Derived.Lib.AppendZeros
import Derived.Deep.WholeRow
import Derived.Laws.BitsAllLaws
namespace Go.Proofs.Ytpddddnjmklfdaa
open Go.RowKit
set_option linter.unusedVariables false
set_option linter.unusedSimpArgs false
theorem not8 (c : Nat) (hc : c < 256) : bits .xor .u8 IntKind.u8.max (c : Int) = 255 - (c : Int) := by
  have h : 255 - c = 255 ^^^ c := by
    refine Nat.eq_of_testBit_eq fun i => ?_
    rw [Nat.testBit_xor, show 255 - c = 2 ^ 8 - (c + 1) by omega, Nat.testBit_two_pow_sub_succ (by omega), show (255 : Nat) = 2 ^ 8 - 1 by rfl, Nat.testBit_two_pow_sub_one]
    by_cases hi : i < 8
    · rw [decide_eq_true hi]; simp
    · have : c < 2 ^ i := Nat.lt_of_lt_of_le hc (by have : 2 ^ 8 ≤ 2 ^ i := Nat.pow_le_pow_right (by omega) (by omega); omega)
      rw [decide_eq_false hi, Nat.testBit_lt_two_pow this]
      rfl
  have h2 := u8_xor_nat 255 c (by omega) hc
  rw [← h] at h2
  exact h2.trans (by omega)
set_option maxHeartbeats 4000000 in
theorem xturned (s : ByteArray) (hs : s.size ≤ 9223372036854775807) (w : World) : Calls Try.prog 27 #[.string s] w (BB (trn s.data.toList) w) := by
  have HL : Hid (s.data.toList.length = s.size) := rfl
  obtain ⟨m, hm⟩ : ∃ m, m = min 8 s.size := ⟨_, rfl⟩
  go_enter Try.func27, Try.ntmps27
  go_wp2_with fail
  go_loopw [3] (fun i wr => ∃ (k : Nat), i = .int .i64 k ∧ 4 ≤ k ∧ k ≤ 8 ∧ Hid (Below w.heap.size w wr) ∧ Hid (∀ j, j < k - 4 → 4 + j < s.size → (s.data.toList.getD (4 + j) 0).toNat + (s.data.toList.getD j 0).toNat = 255)) (fun i _ => 8 - (Lib.intOf i).toNat)
  case atStart => exact ⟨4, rfl, by omega, by omega, Below.refl _ _, fun j hj => absurd hj (by omega)⟩
  case round =>
    obtain ⟨k, rfl, hk4, hk8, HB, HT⟩ := hrel
    by_cases hkn : k < 8 ∧ k < s.size
    · obtain ⟨hk, hks⟩ := hkn
      have hmin : (k : Int) < min 8 (s.size : Int) := by omega
      have hkz : (k : Int) < (s.size : Int) := by omega
      obtain ⟨j, hj⟩ : ∃ j, k = 4 + j := ⟨k - 4, by omega⟩
      have hjz : (k : Int) - 4 = (j : Int) := by omega
      have hjs : j < s.size := by omega
      have hx1 : s.data.toList.getD (4 + j) 0 = s[k] := by rw [← hj]; exact at_data hks
      have hx2 : s.data.toList.getD j 0 = s[j] := at_data hjs
      obtain ⟨x, hx⟩ : ∃ x : UInt8, s[k] = x := ⟨_, rfl⟩
      obtain ⟨y, hy⟩ : ∃ y : UInt8, s[j] = y := ⟨_, rfl⟩
      rw [hx] at hx1
      rw [hy] at hx2
      have hxl := x.toNat_lt
      have hyl := y.toNat_lt
      have HNOT : Hid (bits .xor .u8 (if IntKind.u8.signed = true then -1 else IntKind.u8.max) (y.toNat : Int) = 255 - (y.toNat : Int)) := not8 y.toNat hyl
      have HX : Hid (s.data.toList.getD (4 + j) 0 = x ∧ s.data.toList.getD j 0 = y ∧ k = 4 + j) := ⟨hx1, hx2, hj⟩
      clear hx1 hx2 hj
      by_cases ht : x.toNat + y.toNat = 255
      · have hb : ((x.toNat : Int) != bits .xor .u8 (if IntKind.u8.signed = true then -1 else IntKind.u8.max) (y.toNat : Int)) = false := by rw [HNOT.out, bne_eq_false_iff_eq]; omega
        have HN : Hid (∀ i, i < k + 1 - 4 → 4 + i < s.size → (s.data.toList.getD (4 + i) 0).toNat + (s.data.toList.getD i 0).toNat = 255) := by
          intro i hi hl
          by_cases hij : i = j
          · subst hij
            rw [HX.out.1, HX.out.2.1]
            exact ht
          · exact HT.out i (by have := HX.out.2.2; omega) hl
        clear HT ht
        go_wp2_with fail
        go_quiet (fail)
        go_wp2_with fail
        exact ⟨⟨k + 1, by go_num, by omega, by omega, bdrew HB.out _, HN.out⟩, by simp [Lib.intOf]; omega⟩
      · have hb : ((x.toNat : Int) != bits .xor .u8 (if IntKind.u8.signed = true then -1 else IntKind.u8.max) (y.toNat : Int)) = true := by rw [HNOT.out, bne_iff_ne]; omega
        have HN : Hid (false = trn s.data.toList) := by
          refine Eq.symm (Bool.eq_false_iff.2 fun h => ht ?_)
          rw [trn_iff] at h
          have := h j (by have := HX.out.2.2; omega) (by rw [HL.out]; have := HX.out.2.2; omega)
          rw [HX.out.1, HX.out.2.1] at this
          exact this
        clear HT ht
        go_wp2_with fail
        go_quiet (fail)
        go_wp2_with fail
        go_ret
        exact BB.mk HN.out (bdrew HB.out _)
    · have hmin : ¬ (k : Int) < min 8 (s.size : Int) := by omega
      have HN : Hid (true = trn s.data.toList) := by
        refine Eq.symm (trn_iff.2 fun i hi hl => HT.out i ?_ hl)
        rw [HL.out] at hl
        omega
      clear HT hkn
      go_wp2_with fail
      go_ret
      exact BB.mk HN.out HB.out
/-- the bits of four bytes don't meet -/
theorem or_add {x y : Nat} (n : Nat) (hx : x < 2 ^ n) : x ||| y * 2 ^ n = x + y * 2 ^ n := by
  have h := Nat.two_pow_add_eq_or_of_lt hx y
  rw [Nat.mul_comm y, Nat.or_comm, ← h, Nat.add_comm]
theorem or_four (a b c d : Nat) (ha : a < 256) (hb : b < 256) (hc : c < 256) (hd : d < 256) : bits .or .u32 (bits .or .u32 (bits .or .u32 (a : Int) ((b : Int) * 256)) ((c : Int) * 65536)) ((d : Int) * 16777216) = ((a + 256 * b + 65536 * c + 16777216 * d : Nat) : Int) := by
  have e1 := u32_or_nat a (b * 256) (by omega) (by omega)
  have e2 := u32_or_nat (a + b * 256) (c * 65536) (by omega) (by omega)
  have e3 := u32_or_nat (a + b * 256 + c * 65536) (d * 16777216) (by omega) (by omega)
  rw [or_add 8 (by omega : a < 2 ^ 8)] at e1
  rw [or_add 16 (by omega : a + b * 256 < 2 ^ 16)] at e2
  rw [or_add 24 (by omega : a + b * 256 + c * 65536 < 2 ^ 24)] at e3
  have f1 : (b : Int) * 256 = ((b * 256 : Nat) : Int) := by omega
  have f2 : (c : Int) * 65536 = ((c * 65536 : Nat) : Int) := by omega
  have f3 : (d : Int) * 16777216 = ((d * 16777216 : Nat) : Int) := by omega
  rw [f1, f2, f3, e1, show a + b * 2 ^ 8 = a + b * 256 by omega, e2, show a + b * 256 + c * 2 ^ 16 = a + b * 256 + c * 65536 by omega, e3]
  omega
theorem idx_at {s : ByteArray} {k : Nat} (h : k < s.size) {z : UInt8} (hz : s[k] = z) {i : Int} (hi : i = k) (w : World) : (Instr.index 9 (.string s) (.int .i64 i)).run Try.prog w = .ok (.int .u8 (z.toNat : Int)) w := by
  subst hi
  rw [run_index_string w 9 s .i64 k Try.underlying9]
  simp [h, hz]
set_option maxHeartbeats 4000000 in
theorem xnumber (s : ByteArray) (h4 : 4 ≤ s.size) (w : World) : Calls Try.prog 28 #[.string s] w fun e w' => e = .returned (.int .u32 (val4 s.data.toList)) ∧ ∃ n, w' = w.drewN n := by
  have e0 : s.data.toList.getD 0 0 = s[0] := at_data (by omega)
  have e1 : s.data.toList.getD 1 0 = s[1] := at_data (by omega)
  have e2 : s.data.toList.getD 2 0 = s[2] := at_data (by omega)
  have e3 : s.data.toList.getD 3 0 = s[3] := at_data (by omega)
  unfold val4
  rw [e0, e1, e2, e3]
  have hi0 : ∀ w : World, (Instr.index 9 (.string s) (.int .i64 0)).run Try.prog w = .ok (.int .u8 (s[0].toNat : Int)) w := fun w => idx_at (k := 0) (by omega) rfl rfl w
  have hi1 : ∀ w : World, (Instr.index 9 (.string s) (.int .i64 1)).run Try.prog w = .ok (.int .u8 (s[1].toNat : Int)) w := fun w => idx_at (k := 1) (by omega) rfl rfl w
  have hi2 : ∀ w : World, (Instr.index 9 (.string s) (.int .i64 2)).run Try.prog w = .ok (.int .u8 (s[2].toNat : Int)) w := fun w => idx_at (k := 2) (by omega) rfl rfl w
  have hi3 : ∀ w : World, (Instr.index 9 (.string s) (.int .i64 3)).run Try.prog w = .ok (.int .u8 (s[3].toNat : Int)) w := fun w => idx_at (k := 3) (by omega) rfl rfl w
  have l0 := s[0].toNat_lt
  have l1 := s[1].toNat_lt
  have l2 := s[2].toNat_lt
  have l3 := s[3].toNat_lt
  clear e0 e1 e2 e3
  generalize s[0].toNat = a at *
  generalize s[1].toNat = b at *
  generalize s[2].toNat = c at *
  generalize s[3].toNat = d at *
  have HO : Hid _ := or_four a b c d l0 l1 l2 l3
  go_enter Try.func28, Try.ntmps28
  go_wp2_with fail
  go_quiet (fail)
  go_wp2_with fail
  go_ret
  exact ⟨by rw [HO.out]; rfl, _, rfl⟩
end Go.Proofs.Ytpddddnjmklfdaa
