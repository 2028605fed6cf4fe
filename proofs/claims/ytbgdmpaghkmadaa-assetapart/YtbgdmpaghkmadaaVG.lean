/- The reference's right and shaped. Condition: the text has at most 2 to the 40th bytes. -/
import Derived.Test.YtbgdmpaghkmadaaVF
import Derived.WalkKit
import Derived.ProofKit
import Derived.Handy
import Derived.WalkLawsBesides
import Derived.WalkSpells
import Derived.BigQuiet
import Derived.BigCall
import Derived.Deep.QuietTactic
import Derived.Deep.Light
import Derived.Deep.OwnRows
import Derived.Laws.AppendOwnNone
import Derived.Laws.Strings3
import Derived.Laws.RangeAny
import Derived.Deep.RegionWith
import Derived.Lib.BitFns
import Derived.Lib.Walk
import Derived.Lib.Strings
import Derived.Lib.OthersKept
import Derived.Deep.CutBlock
import Derived.Deep.DeepCutAuto
import Derived.Deep.LoopGhost
import Derived.Deep.RegionHeld3
import Derived.Lib.SmallJoins
import Derived.Maps.AppendAt
import Derived.Laws.IdiomStrings
import Derived.Lib.AppendZeros
import Derived.Deep.WholeRow
import Derived.Laws.BitsAllLaws
import Derived.Lib.ConvBytes
import Derived.Deep.RegionLaw
namespace Go.Proofs.Ytbgdmpaghkmadaa.N5
open Go.RowKit
set_option linter.unusedVariables false
set_option linter.unusedSimpArgs false
def BB (b : Bool) (w : World) (e : Ending) (w' : World) : Prop := e = .returned (.bool b) ∧ Below w.heap.size w w'
theorem BB.mk {b c : Bool} {w w' : World} (h : c = b) (hb : Below w.heap.size w w') : BB b w (.returned (.bool c)) w' := ⟨by rw [h], hb⟩
def odd (k : Nat) : Bool := decide (k % 2 = 1)
theorem odd_succ (k : Nat) : odd (k + 1) = !odd k := by
  unfold odd
  rw [Bool.eq_iff_iff]
  simp
  omega
theorem rev_at {xs : List Nat} {k : Nat} (h : k < xs.length) : xs.reverse.drop k = xs.getD (xs.length - 1 - k) 0 :: xs.reverse.drop (k + 1) := by
  rw [List.drop_eq_getElem_cons (by simpa using h), List.getElem_reverse, List.getD_eq_getElem?_getD, List.getElem?_eq_getElem]
  rfl
theorem mem_at {xs : List Nat} {k : Nat} (h : k < xs.length) : xs.getD k 0 ∈ xs := by
  rw [List.getD_eq_getElem?_getD, List.getElem?_eq_getElem h]
  exact List.getElem_mem h
theorem dsO_le (l : List UInt8) : ∀ d ∈ dsO l, d ≤ 9 := by
  unfold dsO
  split
  · exact ds_le (by assumption)
  · simp
theorem dsO_len (l : List UInt8) : (dsO l).length ≤ 2 * l.length := by
  unfold dsO
  split
  · exact ds_len l
  · simp
set_option maxHeartbeats 4000000 in
theorem rright (s : ByteArray) (hs : s.size ≤ 1099511627776) (w : World) : Calls Try.prog 81 #[.string s] w (BB (rgt s.data.toList) w) := by
  go_enter Try.func81, Try.ntmps81
  go_wp2_with fail
  refine (rdigits s hs _).mono ?_
  rintro e W1 ⟨v, rfl, hseg, hb1⟩
  obtain ⟨a, cap, rfl, hsg⟩ := hseg
  have HSG : Hid _ := hsg
  have HB1 : Hid (Below w.heap.size w W1) := hb1
  have hlen : (dsO s.data.toList).length ≤ 2199023255552 := by
    have := dsO_len s.data.toList
    have h2 : s.data.toList.length = s.size := rfl
    omega
  have HLE : Hid (∀ d ∈ dsO s.data.toList, d ≤ 9) := dsO_le s.data.toList
  have HR : Hid (an s.data.toList = true → rgt s.data.toList = decide (sm false (dsO s.data.toList).reverse % 10 = 0)) := by
    intro h
    unfold rgt full dsO
    rw [h, Bool.true_and, if_pos rfl]
  have HF : Hid (an s.data.toList = false → rgt s.data.toList = false) := by
    intro h
    unfold rgt
    rw [h, Bool.false_and]
  clear hsg hb1
  generalize dsO s.data.toList = xs at *
  generalize an s.data.toList = g at *
  go_wp2_with fail
  go_loopw [5, 6] (fun n i wr => ∃ k m : Nat, i = .int .i64 k ∧ n = .int .i64 m ∧ k ≤ xs.length ∧ m ≤ 9 * k ∧ W1 = wr ∧ Hid (m + sm (odd k) (xs.reverse.drop k) = sm false xs.reverse)) (fun _ i _ => xs.length - (Lib.intOf i).toNat)
  case atStart => exact ⟨0, 0, rfl, rfl, Nat.zero_le _, Nat.le_refl _, by first | rfl | trivial, by unfold Hid; rw [List.drop_zero, Nat.zero_add]; rfl⟩
  case round =>
    obtain ⟨k, m, rfl, rfl, hk, hm, rfl, hsum⟩ := hrel
    by_cases hkn : k < xs.length
    · have hkz : (k : Int) < (xs.length : Int) := by omega
      obtain ⟨b, rfl, hlt, hc⟩ := HSG.out (by intro e; rw [e] at hkn; simp at hkn)
      obtain ⟨j, hj⟩ : ∃ j, xs.length - 1 - k = j := ⟨_, rfl⟩
      have hck := hc j (by omega)
      have hd9 := HLE.out _ (mem_at (show j < xs.length by omega))
      have hrev := rev_at hkn
      rw [hj] at hrev
      have hi : (xs.length : Int) - 1 - (k : Int) = (j : Int) := by omega
      have hjz : (j : Int) < (xs.length : Int) := by omega
      have HD : Hid (xs.reverse.drop k = xs.getD j 0 :: xs.reverse.drop (k + 1)) := hrev
      clear hc hj hrev
      generalize xs.getD j 0 = d at *
      have hb := wgt_le (odd k) d hd9
      have HS : Hid (m + (wgt (odd k) d + sm (odd (k + 1)) (xs.reverse.drop (k + 1))) = sm false xs.reverse) := by
        have h1 := hsum.out
        rw [HD.out, sm, ← odd_succ] at h1
        exact h1
      clear hsum HD
      by_cases ho : k % 2 = 1
      · have hoz : ((k : Int) % 2 == 1) = true := by rw [beq_iff_eq]; omega
        have HW : Hid (wgt (odd k) d = 2 * d / 10 + 2 * d % 10) := by
          unfold Hid odd wgt
          rw [decide_eq_true ho, if_pos rfl]
        clear ho
        go_wp2_with fail
        go_roundw
        case rel =>
          refine ⟨k + 1, m + wgt (odd k) d, by go_num, ?_, by omega, by omega, by first | rfl | trivial, ?_⟩
          · rw [HW.out]
            go_num
          · have h1 := HS.out
            unfold Hid
            omega
        case measure =>
          simp [Lib.intOf]
          omega
      · have hoz : ((k : Int) % 2 == 1) = false := by rw [beq_eq_false_iff_ne]; omega
        have HW : Hid (wgt (odd k) d = d) := by
          unfold Hid odd wgt
          rw [decide_eq_false ho, if_neg Bool.false_ne_true]
        clear ho
        go_wp2_with fail
        go_roundw
        case rel =>
          refine ⟨k + 1, m + wgt (odd k) d, by go_num, ?_, by omega, by omega, by first | rfl | trivial, ?_⟩
          · rw [HW.out]
            go_num
          · have h1 := HS.out
            unfold Hid
            omega
        case measure =>
          simp [Lib.intOf]
          omega
    · have hkz : ¬ (k : Int) < (xs.length : Int) := by omega
      have HE : Hid (m = sm false xs.reverse) := by
        have h1 := hsum.out
        rw [List.drop_of_length_le (by rw [List.length_reverse]; omega), sm] at h1
        unfold Hid
        omega
      have hm0 : m ≤ 9 * 2199023255552 := by omega
      clear hsum
      cases g
      · go_wp2_with fail
        go_ret
        exact BB.mk (HF.out (by first | rfl | trivial)).symm HB1.out
      · go_wp2_with fail
        go_ret
        refine BB.mk ?_ HB1.out
        rw [HR.out (by first | rfl | trivial), ← HE.out, Bool.eq_iff_iff]
        simp only [beq_iff_eq, decide_eq_true_eq]
        omega
set_option maxHeartbeats 4000000 in
theorem rshaped (s : ByteArray) (hs : s.size ≤ 1099511627776) (w : World) : Calls Try.prog 80 #[.string s] w (BB (head s.data.toList) w) := by
  have HL : Hid (s.data.toList.length = s.size) := rfl
  go_enter Try.func80, Try.ntmps80
  go_wp2_with fail
  refine (rdigits s hs _).mono ?_
  rintro e W1 ⟨v, rfl, hseg, hb1⟩
  have HB1 : Hid (Below w.heap.size w W1) := hb1
  clear hseg hb1
  by_cases ha : an s.data.toList = true
  · by_cases h11 : s.size = 11
    · have h0 : 0 < s.size := by omega
      have h1 : 1 < s.size := by omega
      have hsz : (2 : Int) ≤ (s.size : Int) := by omega
      have hz : (((s.size : Nat) : Int) == 11) = true := by rw [h11]; rfl
      have HH := head_eq (l := s.data.toList) (by rw [HL.out, h11])
      rw [at_data h0, at_data h1, ha, Bool.true_and] at HH
      have HHH : Hid (head s.data.toList = (decide (65 ≤ s[0].toNat) && decide (65 ≤ s[1].toNat))) := HH
      rw [ha]
      obtain ⟨x, hx⟩ : ∃ x : UInt8, s[0] = x := ⟨_, rfl⟩
      obtain ⟨y, hy⟩ : ∃ y : UInt8, s[1] = y := ⟨_, rfl⟩
      rw [hx, hy] at HHH
      have hxl := x.toNat_lt
      have hyl := y.toNat_lt
      clear HH ha h11
      by_cases hx65 : 65 ≤ x.toNat
      · have hxz : (65 : Int) ≤ (x.toNat : Int) := by omega
        by_cases hy65 : 65 ≤ y.toNat
        · have hyz : (65 : Int) ≤ (y.toNat : Int) := by omega
          have HR : Hid (head s.data.toList = true) := by
            unfold Hid
            rw [HHH.out, decide_eq_true hx65, decide_eq_true hy65]
            rfl
          go_wp2_with fail
          go_ret
          exact BB.mk HR.out.symm HB1.out
        · have hyz : ¬ (65 : Int) ≤ (y.toNat : Int) := by omega
          have HR : Hid (head s.data.toList = false) := by
            unfold Hid
            rw [HHH.out, decide_eq_true hx65, decide_eq_false hy65]
            rfl
          go_wp2_with fail
          go_ret
          exact BB.mk (by rw [HR.out]; exact decide_eq_false (by omega)) HB1.out
      · have hxz : ¬ (65 : Int) ≤ (x.toNat : Int) := by omega
        have HR : Hid (head s.data.toList = false) := by
          unfold Hid
          rw [HHH.out, decide_eq_false hx65]
          rfl
        go_wp2_with fail
        go_ret
        exact BB.mk HR.out.symm HB1.out
    · have hz : (((s.size : Nat) : Int) == 11) = false := by rw [beq_eq_false_iff_ne]; omega
      have HR : Hid (head s.data.toList = false) := by
        unfold Hid head
        rw [HL.out, decide_eq_false h11]
        rfl
      rw [ha]
      clear ha h11
      go_wp2_with fail
      go_ret
      exact BB.mk HR.out.symm HB1.out
  · have ha' : an s.data.toList = false := Bool.eq_false_iff.2 ha
    have HR : Hid (head s.data.toList = false) := by
      unfold Hid
      rw [Bool.eq_false_iff]
      exact fun h => ha (head_an h)
    rw [ha']
    clear ha ha'
    go_wp2_with fail
    go_ret
    exact BB.mk HR.out.symm HB1.out
end Go.Proofs.Ytbgdmpaghkmadaa.N5
