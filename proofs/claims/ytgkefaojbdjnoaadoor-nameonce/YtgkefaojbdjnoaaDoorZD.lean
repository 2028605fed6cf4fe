/- The reference's Short. Condition: the text has at most 2 to the 38th bytes. -/
import Derived.Test.YtgkefaojbdjnoaaDoorZC
import Derived.WalkKit
import Derived.ProofKit
import Derived.Handy
import Derived.WalkLawsBesides
import Derived.WalkSpells
import Derived.BigQuiet
import Derived.BigCall
import Derived.Deep.QuietTactic
import Derived.Deep.Light
import Derived.Deep.OwnRows
import Derived.Laws.AppendOwnNone
import Derived.Laws.Strings3
import Derived.Laws.RangeAny
import Derived.Deep.RegionWith
import Derived.Lib.BitFns
import Derived.Lib.Walk
import Derived.Lib.Strings
import Derived.Lib.OthersKept
import Derived.Deep.CutBlock
import Derived.Deep.DeepCutAuto
import Derived.Deep.LoopGhost
import Derived.Deep.RegionHeld3
import Derived.Lib.SmallJoins
import Derived.Maps.AppendAt
import Derived.Laws.IdiomStrings
namespace Go.Proofs.YtgkefaojbdjnoaaDoor
open Go.RowKit
set_option linter.unusedVariables false
set_option linter.unusedSimpArgs false
def prv (P : List UInt8) (k : Nat) : Bool := decide (k = 0 ∨ P.getD (k - 1) 0 = 32)
theorem prv_zero (P : List UInt8) : prv P 0 = true := by simp [prv]
theorem prv_succ (P : List UInt8) (k : Nat) : prv P (k + 1) = decide (P.getD k 0 = 32) := by
  unfold prv
  rw [Bool.eq_iff_iff, decide_eq_true_iff, decide_eq_true_iff]
  simp
set_option maxRecDepth 100000 in
set_option maxHeartbeats 8000000 in
theorem rshort (s : ByteArray) (hs : s.size ≤ 274877906944) (w : World) : Calls Tryd.prog 27 #[.string s] w (STB (short s.data.toList) w) := by
  go_enter Tryd.func27, Tryd.ntmps27
  go_wp2_with fail
  refine (rplains s (by omega) _).mono ?_
  rintro e W1 ⟨rfl, hb1⟩
  have hpl := plain_len s.data.toList
  have hsl : s.data.toList.length = s.size := rfl
  have HR : Hid (shG (plain s.data.toList) true = short s.data.toList) := rfl
  have HB1 : Hid (Below w.heap.size w W1) := hb1
  clear hb1
  obtain ⟨P, hP⟩ : ∃ P, plain s.data.toList = P := ⟨_, rfl⟩
  rw [hP] at hpl HR ⊢
  generalize short s.data.toList = R at *
  have hPl : P.length ≤ 549755813888 := by omega
  clear hP hpl hsl
  obtain ⟨S, hS⟩ : ∃ S : ByteArray, (⟨P.toArray⟩ : ByteArray) = S := ⟨_, rfl⟩
  rw [hS]
  have HSl : Hid (S.data.toList = P) := by unfold Hid; rw [← hS]
  have HSz : Hid (S.size = P.length) := by unfold Hid; rw [← hS]; rfl
  clear hS
  have hSz : S.size ≤ 549755813888 := by have := HSz.out; omega
  go_wp2_with fail
  go_loopw [4, 5] (fun v i wr => ∃ (k : Nat) (q : ByteArray), i = .int .i64 k ∧ v = .string q ∧ k ≤ S.size ∧ q.size ≤ k ∧ Hid (q.data.toList ++ shG (P.drop k) (prv P k) = R) ∧ W1 = wr) (fun _ i _ => S.size - (Lib.intOf i).toNat)
  case atStart =>
    refine ⟨0, ⟨#[]⟩, rfl, rfl, Nat.zero_le _, Nat.le_refl _, ?_, by first | rfl | trivial⟩
    unfold Hid
    rw [prv_zero, List.drop_zero, HR.out]
    rfl
  case round =>
    obtain ⟨k, q, rfl, rfl, hk, hq, hsum, rfl⟩ := hrel
    by_cases hkn : k < S.size
    · have hkz : (k : Int) < (S.size : Int) := by omega
      obtain ⟨x, hx⟩ : ∃ x : UInt8, S[k] = x := ⟨_, rfl⟩
      have hxP : P[k]? = some x := by rw [← hx, ← HSl.out]; exact Lib.data_getElem? S k hkn
      have Hd : Hid (P.drop k = x :: P.drop (k + 1)) := Lib.drop_at hxP
      have HxD : Hid (P.getD k 0 = x) := by unfold Hid; rw [List.getD_eq_getElem?_getD, hxP]; rfl
      have HE : Hid ((S.extract k (k + 1)).data.toList = [x]) := by
        unfold Hid
        have : (S.extract k (k + 1)).data.toList = (S.data.toList.drop k).take 1 := by simp [ByteArray.data_extract]
        rw [this, HSl.out, Hd.out]
        rfl
      clear hxP
      by_cases hx32 : x = 32
      · have gx : ((x.toNat : Int) != 32) = false := by rw [hx32]; rfl
        have HN : Hid (q.data.toList ++ shG (P.drop (k + 1)) (prv P (k + 1)) = R) := by
          have h1 := hsum.out
          rw [Hd.out, shG, if_pos hx32] at h1
          unfold Hid
          rw [prv_succ, HxD.out, decide_eq_true hx32]
          exact h1
        clear hx32
        go_wp2_with fail
        go_roundw
        case rel => exact ⟨k + 1, q, by go_num, rfl, by omega, by omega, HN, by first | rfl | trivial⟩
        case measure =>
          simp [Lib.intOf]
          omega
      have gx : ((x.toNat : Int) != 32) = true := by
        rw [bne_iff_ne]
        intro e
        apply hx32
        apply UInt8.toNat_inj.1
        show x.toNat = 32
        omega
      have HN1 : Hid (prv P k = true → q.data.toList ++ [x] ++ shG (P.drop (k + 1)) (prv P (k + 1)) = R) := by
        intro hp
        have h1 := hsum.out
        rw [Hd.out, shG, if_neg hx32, hp, if_pos rfl] at h1
        rw [prv_succ, HxD.out, decide_eq_false hx32, List.append_assoc]
        exact h1
      have HN2 : Hid (prv P k = false → q.data.toList ++ shG (P.drop (k + 1)) (prv P (k + 1)) = R) := by
        intro hp
        have h1 := hsum.out
        rw [Hd.out, shG, if_neg hx32, hp, if_neg (by simp)] at h1
        rw [prv_succ, HxD.out, decide_eq_false hx32]
        exact h1
      clear hx32 hsum
      by_cases hk0 : k = 0
      · subst hk0
        have HN : Hid _ := HN1.out (prv_zero P)
        clear HN1 HN2
        go_wp2_with fail
        go_roundw
        case rel =>
          refine ⟨1, q ++ S.extract 0 1, by go_num, rfl, by omega, ?_, ?_, by first | rfl | trivial⟩
          · have h2 : (S.extract 0 1).size = 1 := by have := congrArg List.length HE.out; exact this
            rw [ByteArray.size_append, h2]
            omega
          · unfold Hid
            rw [ByteArray.data_append, Array.toList_append, HE.out]
            exact HN.out
        case measure =>
          simp [Lib.intOf]
          omega
      obtain ⟨j, rfl⟩ : ∃ j, k = j + 1 := ⟨k - 1, by omega⟩
      have g0 : ((j : Int) + 1 == 0) = false := beq_eq_false_iff_ne.2 (by omega)
      clear hk0
      have hjs : j < S.size := by omega
      have hjz : (j : Int) < (S.size : Int) := by omega
      obtain ⟨y, hy⟩ : ∃ y : UInt8, S[j] = y := ⟨_, rfl⟩
      have HyD : Hid (P.getD j 0 = y) := by
        unfold Hid
        have : P[j]? = some y := by rw [← hy, ← HSl.out]; exact Lib.data_getElem? S j hjs
        rw [List.getD_eq_getElem?_getD, this]
        rfl
      by_cases hy32 : y = 32
      · have gy : ((y.toNat : Int) == 32) = true := by rw [hy32]; rfl
        have HN : Hid _ := HN1.out (by rw [prv_succ, HyD.out, decide_eq_true hy32])
        clear HN1 HN2 hy32
        go_wp2_with fail
        go_roundw
        case rel =>
          refine ⟨j + 1 + 1, q ++ S.extract (j + 1) (j + 1 + 1), by go_num, rfl, by omega, ?_, ?_, by first | rfl | trivial⟩
          · have h2 : (S.extract (j + 1) (j + 1 + 1)).size = 1 := by have := congrArg List.length HE.out; exact this
            rw [ByteArray.size_append, h2]
            omega
          · unfold Hid
            rw [ByteArray.data_append, Array.toList_append, HE.out]
            exact HN.out
        case measure =>
          simp [Lib.intOf]
          omega
      · have gy : ((y.toNat : Int) == 32) = false := by
          rw [beq_eq_false_iff_ne]
          intro e
          apply hy32
          apply UInt8.toNat_inj.1
          show y.toNat = 32
          omega
        have HN : Hid _ := HN2.out (by rw [prv_succ, HyD.out, decide_eq_false hy32])
        clear HN1 HN2 hy32
        go_wp2_with fail
        go_roundw
        case rel => exact ⟨j + 1 + 1, q, by go_num, rfl, by omega, by omega, HN, by first | rfl | trivial⟩
        case measure =>
          simp [Lib.intOf]
          omega
    · have hkz : ¬ (k : Int) < (S.size : Int) := by omega
      go_wp2_with fail
      go_ret
      refine STB.mk ?_ HB1.out
      have h1 := hsum.out
      rw [List.drop_of_length_le (by have := HSz.out; omega), shG, List.append_nil] at h1
      exact h1
end Go.Proofs.YtgkefaojbdjnoaaDoor
