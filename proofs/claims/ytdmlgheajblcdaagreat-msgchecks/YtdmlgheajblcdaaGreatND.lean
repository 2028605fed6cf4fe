/- The program's number: the number that a text begins with. -/
import Derived.Test.YtdmlgheajblcdaaGreatNC
import Derived.WalkKit
import Derived.ProofKit
import Derived.Handy
import Derived.WalkLawsBesides
import Derived.WalkSpells
import Derived.BigQuiet
import Derived.BigCall
import Derived.Deep.QuietTactic
import Derived.Deep.Light
import Derived.Deep.OwnRows
import Derived.Laws.AppendOwnNone
import Derived.Laws.Strings3
import Derived.Laws.RangeAny
import Derived.Deep.RegionWith
import Derived.Lib.BitFns
import Derived.Lib.Walk
import Derived.Lib.Strings
import Derived.Lib.OthersKept
import Derived.Deep.CutBlock
import Derived.Deep.DeepCutAuto
import Derived.Deep.LoopGhost
import Derived.Deep.RegionHeld3
import Derived.Lib.SmallJoins
import Derived.Maps.AppendAt
import Derived.Laws.IdiomStrings
import Derived.Lib.AppendZeros
import Derived.Deep.WholeRow
import Derived.Laws.BitsAllLaws
import Derived.Lib.ConvBytes
import Derived.Deep.RegionLaw
namespace Go.Proofs.YtdmlgheajblcdaaGreat
open Go.RowKit
set_option linter.unusedVariables false
set_option linter.unusedSimpArgs false
theorem bdrew {B : Nat} {a w : World} (h : Below B a w) (n : Nat) : Below B a (w.drewN n) := ⟨h.os, h.tape, h.output, h.size, h.block⟩
theorem below_new (w : World) (o : Obj) : Below w.heap.size w (w.alloc o) := (Below.refl _ w).alloc (Nat.le_refl _) _
/-- A call answers a number, and leaves the world alone. -/
def NP (k : IntKind) (n : Int) (w : World) (e : Ending) (w' : World) : Prop := e = .returned (.int k n) ∧ w = w'
theorem NP.mk {k : IntKind} {n m : Int} {w : World} (h : m = n) : NP k n w (.returned (.int k m)) w := ⟨by rw [h], rfl⟩
theorem drop_at {s : ByteArray} {k : Nat} (h : k < s.size) : s.data.toList.drop k = s[k] :: s.data.toList.drop (k + 1) := by
  have h1 : k < s.data.toList.length := h
  rw [List.drop_eq_getElem_cons h1]
  rfl
theorem take_at {s : ByteArray} {k : Nat} (h : k < s.size) : s.data.toList.take (k + 1) = s.data.toList.take k ++ [s[k]] := by
  rw [List.take_succ_eq_append_getElem (by simpa using h)]
  rfl
theorem idx_at {s : ByteArray} {k : Nat} (h : k < s.size) {z : UInt8} (hz : s[k] = z) {i : Int} (hi : i = k) (w : World) : (Instr.index 9 (.string s) (.int .i64 i)).run Tryz.prog w = .ok (.int .u8 (z.toNat : Int)) w := by
  subst hi
  rw [run_index_string w 9 s .i64 k Tryz.underlying9]
  simp [h, hz]
theorem or_add {x y : Nat} (n : Nat) (hx : x < 2 ^ n) : x ||| y * 2 ^ n = x + y * 2 ^ n := by
  have h := Nat.two_pow_add_eq_or_of_lt hx y
  rw [Nat.mul_comm y, Nat.or_comm, ← h, Nat.add_comm]
theorem and_low (x : Nat) (hx : x < 256) : bits .and .u8 (x : Int) 127 = ((x % 128 : Nat) : Int) := by
  have := u8_and_nat x 127 hx (by omega)
  rw [show (127 : Nat) = 2 ^ 7 - 1 from rfl, Nat.and_two_pow_sub_one_eq_mod] at this
  exact this
theorem or_low (n x : Nat) (hn : n < 144115188075855872) (hx : x < 128) : bits .or .u64 ((n : Int) * 128) (x : Int) = ((n * 128 + x : Nat) : Int) := by
  have h1 := u64_or_nat (n * 128) x (by omega) (by omega)
  rw [Nat.or_comm, show n * 128 = n * 2 ^ 7 from rfl, or_add 7 (by omega : x < 2 ^ 7)] at h1
  rw [show (n : Int) * 128 = ((n * 2 ^ 7 : Nat) : Int) by omega, h1]
  omega
theorem rdF_big {c : UInt8} {l : List UInt8} {n k : Nat} (h : 144115188075855872 ≤ n) : rdF (c :: l) n k = (15, 0, 0) := if_pos h
theorem rdF_last {c : UInt8} {l : List UInt8} {n k : Nat} (h : ¬ 144115188075855872 ≤ n) (hc : c.toNat < 128) : rdF (c :: l) n k = (0, n * 128 + c.toNat, k + 1) := by
  show (if _ then _ else _) = _
  rw [if_neg h, if_pos hc]
theorem rdF_more {c : UInt8} {l : List UInt8} {n k : Nat} (h : ¬ 144115188075855872 ≤ n) (hc : ¬ c.toNat < 128) : rdF (c :: l) n k = rdF l (n * 128 + c.toNat % 128) (k + 1) := by
  show (if _ then _ else _) = _
  rw [if_neg h, if_neg hc]
theorem rdU_form {s : ByteArray} (h : 0 < s.size) (hx : s[0].toNat = 128) : rdU s.data.toList = (15, 0, 0) := by
  have := drop_at h
  rw [List.drop_zero] at this
  unfold rdU
  rw [this, if_pos]
  rw [List.head?_cons]
  exact congrArg some (UInt8.toNat_inj.mp hx)
theorem rdU_first {s : ByteArray} (h : 0 < s.size) (hx : s[0].toNat ≠ 128) : rdU s.data.toList = rdF (s.data.toList.drop 0) 0 0 := by
  have := drop_at h
  rw [List.drop_zero] at this
  unfold rdU
  rw [List.drop_zero, if_neg]
  rw [this, List.head?_cons]
  intro e
  exact hx (by rw [Option.some.inj e]; rfl)
/-- what number hands back; the world is as it was, draws aside -/
def U3 (r : Nat × Nat × Nat) (w : World) (e : Ending) (w' : World) : Prop := e = .returned (.tuple #[.int .u64 r.2.1, .int .i64 r.2.2, .int .i64 r.1]) ∧ w = w'
theorem U3.mk {r : Nat × Nat × Nat} {w : World} {x y z : Int} {a b c : Nat} (h : r = (a, b, c)) (hx : x = b) (hy : y = c) (hz : z = a) : U3 r w (.returned (.tuple #[.int .u64 x, .int .i64 y, .int .i64 z])) w := by
  subst h hx hy hz
  exact ⟨rfl, rfl⟩
set_option maxHeartbeats 4000000 in
theorem xnum (s : ByteArray) (hs : s.size ≤ 9223372036854775807) (w : World) : Calls Tryz.prog 118 #[.string s] w (U3 (rdU s.data.toList) w) := by
  have HL : Hid (s.data.toList.length = s.size) := rfl
  go_enter Tryz.func118, Tryz.ntmps118
  go_wp2_with fail
  go_loopw [5, 9] (fun v i wr => ∃ (k n : Nat), v = .int .u64 n ∧ i = .int .i64 k ∧ k ≤ s.size ∧ n < 18446744073709551616 ∧ w = wr ∧ Hid (k = 0 ∧ n = 0 ∨ 0 < k ∧ rdU s.data.toList = rdF (s.data.toList.drop k) n k)) (fun _ i _ => s.size - (Lib.intOf i).toNat)
  case atStart => exact ⟨0, 0, rfl, rfl, Nat.zero_le _, by omega, by first | rfl | trivial, .inl ⟨rfl, rfl⟩⟩
  case round =>
    obtain ⟨k, n, rfl, rfl, hk, hn, rfl, HR⟩ := hrel
    by_cases hkn : k < s.size
    · have hkz : (k : Int) < (s.size : Int) := by omega
      obtain ⟨x, hx⟩ : ∃ x : UInt8, s[k] = x := ⟨_, rfl⟩
      have hxl := x.toNat_lt
      have hdr := drop_at hkn
      rw [hx] at hdr
      by_cases hf : k = 0 ∧ x.toNat = 128
      · have h0 : k = 0 := hf.1
        subst h0
        have HF : Hid (rdU s.data.toList = (15, 0, 0)) := rdU_form hkn (by rw [hx]; exact hf.2)
        have h128 : ((x.toNat : Int) == 128) = true := by rw [beq_iff_eq]; omega
        clear HR hf hdr
        go_wp2_with fail
        go_ret3
        exact U3.mk HF.out rfl rfl rfl
      · have HS : Hid (rdU s.data.toList = rdF (x :: s.data.toList.drop (k + 1)) n k) := by
          unfold Hid
          rw [← hdr]
          rcases HR.out with ⟨h0, h1⟩ | ⟨_, h1⟩
          · subst h0 h1
            exact rdU_first hkn fun e => hf ⟨rfl, by rw [← hx]; exact e⟩
          · exact h1
        have hz : k = 0 → ¬ x.toNat = 128 := fun h e => hf ⟨h, e⟩
        have hg : (decide ((k : Int) = 0) && decide ((x.toNat : Int) = 128)) = false := by
          by_cases h0 : k = 0
          · simp [hz h0]; intro _; have := hz h0; omega
          · simp; omega
        by_cases hb : 144115188075855872 ≤ n
        · have hbz : (144115188075855871 : Int) < (n : Int) := by omega
          have HF : Hid (rdU s.data.toList = (15, 0, 0)) := by unfold Hid; rw [HS.out, rdF_big hb]
          clear HS HR hdr hf hg
          by_cases h0 : k = 0
          · subst h0
            have h128 : ((x.toNat : Int) == 128) = false := by rw [beq_eq_false_iff_ne]; have := hz rfl; omega
            go_wp2_with fail
            go_ret3
            exact U3.mk HF.out rfl rfl rfl
          · have h0z : ((k : Int) == 0) = false := by rw [beq_eq_false_iff_ne]; omega
            go_wp2_with fail
            go_ret3
            exact U3.mk HF.out rfl rfl rfl
        · have hbz : ¬ (144115188075855871 : Int) < (n : Int) := by omega
          have HA : Hid (bits .and .u8 (x.toNat : Int) 127 = ((x.toNat % 128 : Nat) : Int)) := and_low x.toNat hxl
          have HO : Hid (bits .or .u64 ((n : Int) * 128) (IntKind.u64.wrap ((x.toNat % 128 : Nat) : Int)) = ((n * 128 + x.toNat % 128 : Nat) : Int)) := by unfold Hid; rw [IntWalk.u64_in _ (by omega)]; exact or_low n _ (by omega) (by omega)
          by_cases hc : x.toNat < 128
          · have hcz : (x.toNat : Int) < 128 := by omega
            have HF : Hid (rdU s.data.toList = (0, n * 128 + x.toNat, k + 1)) := by unfold Hid; rw [HS.out, rdF_last hb hc]
            have h128 : ((x.toNat : Int) == 128) = false := by rw [beq_eq_false_iff_ne]; omega
            clear HS HR hdr hf hg
            by_cases h0 : ((k : Int) == 0) = true
            · go_wp2_with fail
              go_ret3
              refine U3.mk HF.out ?_ ?_ rfl
              · rw [HA.out, HO.out, Nat.mod_eq_of_lt hc]
              · omega
            · have h0 : ((k : Int) == 0) = false := by simpa using h0
              go_wp2_with fail
              go_ret3
              refine U3.mk HF.out ?_ ?_ rfl
              · rw [HA.out, HO.out, Nat.mod_eq_of_lt hc]
              · omega
          · have hcz : ¬ (x.toNat : Int) < 128 := by omega
            have HF : Hid (rdU s.data.toList = rdF (s.data.toList.drop (k + 1)) (n * 128 + x.toNat % 128) (k + 1)) := by unfold Hid; rw [HS.out, rdF_more hb hc]
            have HN : Hid (n * 128 + x.toNat % 128 < 18446744073709551616) := by unfold Hid; omega
            clear HS HR hdr hf hg
            by_cases h0 : k = 0
            · subst h0
              have h128 : ((x.toNat : Int) == 128) = false := by rw [beq_eq_false_iff_ne]; have := hz rfl; omega
              go_wp2_with fail
              exact ⟨⟨0 + 1, n * 128 + x.toNat % 128, by rw [HA.out, HO.out], by go_num, by omega, HN.out, by first | rfl | trivial, .inr ⟨by omega, HF.out⟩⟩, by simp [Lib.intOf]; omega⟩
            · have h0z : ((k : Int) == 0) = false := by rw [beq_eq_false_iff_ne]; omega
              go_wp2_with fail
              exact ⟨⟨k + 1, n * 128 + x.toNat % 128, by rw [HA.out, HO.out], by go_num, by omega, HN.out, by first | rfl | trivial, .inr ⟨by omega, HF.out⟩⟩, by simp [Lib.intOf]; omega⟩
    · have hkz : ¬ (k : Int) < (s.size : Int) := by omega
      have HF : Hid (rdU s.data.toList = (14, 0, 0)) := by
        unfold Hid
        have hd : s.data.toList.drop k = [] := List.drop_of_length_le (by rw [HL.out]; omega)
        rcases HR.out with ⟨h0, _⟩ | ⟨_, h1⟩
        · subst h0
          rw [List.drop_zero] at hd
          rw [hd]
          rfl
        · rw [h1, hd]
          rfl
      clear HR
      go_wp2_with fail
      go_ret3
      exact U3.mk HF.out rfl rfl rfl
end Go.Proofs.YtdmlgheajblcdaaGreat
