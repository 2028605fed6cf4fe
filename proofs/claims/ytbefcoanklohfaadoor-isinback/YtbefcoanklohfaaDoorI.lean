/- The program's Make; the chapter's examples. Condition: none. -/
import Derived.Test.YtbefcoanklohfaaDoorH
import Derived.Test.YtbefcoanklohfaaDoorShelf
import Derived.WalkKit
import Derived.ProofKit
import Derived.Handy
import Derived.WalkLawsBesides
import Derived.WalkSpells
import Derived.BigQuiet
import Derived.BigCall
import Derived.Deep.QuietTactic
import Derived.Deep.Light
import Derived.Deep.OwnRows
import Derived.Laws.AppendOwnNone
import Derived.Laws.Strings3
import Derived.Laws.RangeAny
import Derived.Deep.RegionWith
import Derived.Lib.BitFns
import Derived.Lib.Walk
import Derived.Lib.Strings
import Derived.Lib.OthersKept
import Derived.Deep.CutBlock
import Derived.Deep.DeepCutAuto
import Derived.Deep.LoopGhost
import Derived.Deep.RegionHeld3
import Derived.Lib.SmallJoins
import Derived.Maps.AppendAt
import Derived.Laws.IdiomStrings
namespace Go.Proofs.YtbefcoanklohfaaDoor
open Go.RowKit
set_option linter.unusedVariables false
set_option linter.unusedSimpArgs false
def MB (l : List UInt8) (n : Nat) (w : World) (e : Ending) (w' : World) : Prop := e = .returned (.tuple #[.string ⟨l.toArray⟩, .int .i64 n]) ∧ Below w.heap.size w w'
theorem MB.mk {l : List UInt8} {n : Nat} {s : ByteArray} {y : Int} {w w' : World} (h : s.data.toList = l) (h2 : y = n) (hb : Below w.heap.size w w') : MB l n w (.returned (.tuple #[.string s, .int .i64 y])) w' := ⟨by rw [← h, h2], hb⟩
theorem rep_zer : ∀ c : Nat, Lib.repeatL [48] c = zer c
  | 0 => rfl
  | c + 1 => by
    rw [Lib.repeatL, rep_zer c]
    rfl
theorem xrepeat (z : Int) (c : Nat) (hz : z = c) (hc : c ≤ 9) (w : World) : Calls Tryd.prog 11 #[.string ⟨#[48]⟩, .int .i64 z] w fun e w' => e = .returned (.string ⟨(zer c).toArray⟩) ∧ Below w.heap.size w w' := by
  subst hz
  have h := Tryd.strings_Repeat ⟨#[48]⟩ c w (by omega) (by show 1 * c ≤ _; omega)
  rw [show (⟨#[48]⟩ : ByteArray).data.toList = [48] from rfl, rep_zer c] at h
  exact h
theorem enc_dg : ∀ d : Nat, d < 10 → Utf8.encode (48 + (d : Int)) = ⟨#[(48 + d).toUInt8]⟩ := by
  intro d hd
  have : d = 0 ∨ d = 1 ∨ d = 2 ∨ d = 3 ∨ d = 4 ∨ d = 5 ∨ d = 6 ∨ d = 7 ∨ d = 8 ∨ d = 9 := by omega
  rcases this with rfl | rfl | rfl | rfl | rfl | rfl | rfl | rfl | rfl | rfl
  all_goals rfl
set_option maxHeartbeats 4000000 in
theorem xMake (a b : ByteArray) (w : World) : Calls Tryd.prog 5 #[.string a, .string b] w (MB (mk a.data.toList b.data.toList) (mkE a.data.toList b.data.toList) w) := by
  have HLa : Hid (a.data.toList.length = a.size) := rfl
  have HLb : Hid (b.data.toList.length = b.size) := rfl
  by_cases h2 : a.size = 2
  · have hne : (((a.size : Nat) : Int) != 2) = false := by rw [h2]; rfl
    by_cases h9 : b.size ≤ 9
    · have h9z : ¬ (9 : Int) < (b.size : Int) := by omega
      obtain ⟨Z, hZ⟩ : ∃ Z : ByteArray, (⟨(zer (9 - b.size)).toArray⟩ : ByteArray) = Z := ⟨_, rfl⟩
      have hZl : Z.data.toList = zer (9 - b.size) := by rw [← hZ]
      have hZs : Z.size ≤ 9 := by
        have h1 : Z.size = Z.data.toList.length := rfl
        rw [h1, hZl]
        simp [zer]
      have HRep : Hid (∀ w, Calls Tryd.prog 11 #[.string ⟨#[48]⟩, .int .i64 (9 - (b.size : Int))] w fun e w' => e = .returned (.string Z) ∧ Below w.heap.size w w') := fun w => by
        have := xrepeat (9 - (b.size : Int)) (9 - b.size) (by omega) (by omega) w
        rw [hZ] at this
        exact this
      have hel : (a ++ Z ++ b).data.toList = elev a.data.toList b.data.toList := by
        rw [ByteArray.data_append, Array.toList_append, ByteArray.data_append, Array.toList_append, hZl]
        unfold elev
        rw [HLb.out, List.append_assoc]
      have HEL : Hid ((a ++ Z ++ b).data.toList = elev a.data.toList b.data.toList) := hel
      have hsz : (a ++ Z ++ b).size ≤ 20 := by
        rw [ByteArray.size_append, ByteArray.size_append]
        omega
      have hsz2 : (a ++ Z).size ≤ 11 := by
        rw [ByteArray.size_append]
        omega
      have HC : Hid (∀ w, Calls Tryd.prog 12 #[.string (a ++ Z ++ b)] w (DP (dgA (elev a.data.toList b.data.toList)) (dgE (elev a.data.toList b.data.toList)) w)) := fun w => by
        have := xDigit (a ++ Z ++ b) (by omega) w
        rw [hel] at this
        exact this
      have HOK : Hid (mkOk a.data.toList b.data.toList = head (elev a.data.toList b.data.toList)) := by
        unfold Hid mkOk
        rw [HLa.out, HLb.out, decide_eq_true h2, decide_eq_true h9, Bool.true_and, Bool.true_and]
      have HS : Hid ((a ++ Z ++ b).size ≤ 20) := hsz
      clear hel hZ hZl
      by_cases hh : head (elev a.data.toList b.data.toList) = true
      · have hA : dgA (elev a.data.toList b.data.toList) = 48 + dgN (elev a.data.toList b.data.toList) := if_pos hh
        have hE : dgE (elev a.data.toList b.data.toList) = 0 := if_pos hh
        rw [hA, hE] at HC
        have HM : Hid (mk a.data.toList b.data.toList = elev a.data.toList b.data.toList ++ [(48 + dgN (elev a.data.toList b.data.toList)).toUInt8]) := by
          unfold Hid mk
          rw [if_pos (by rw [HOK.out]; exact hh)]
          rfl
        have HME : Hid (mkE a.data.toList b.data.toList = 0) := if_pos (by rw [HOK.out]; exact hh)
        have hN := dgN_lt (elev a.data.toList b.data.toList)
        have hen := enc_dg _ hN
        clear hh hA hE
        generalize dgN (elev a.data.toList b.data.toList) = d at *
        generalize (48 + d).toUInt8 = y at *
        have hys : (⟨#[y]⟩ : ByteArray).size ≤ 1 := Nat.le_refl _
        go_enter Tryd.func5, Tryd.ntmps5
        go_wp2_with fail
        refine (HRep.out _).mono ?_
        rintro e W1 ⟨rfl, hb1⟩
        have HB1 : Hid (Below w.heap.size w W1) := hb1
        clear hb1
        go_wp2_with fail
        refine (HC.out _).mono ?_
        rintro e W2 ⟨rfl, rfl⟩
        go_wp2_with fail
        go_ret2
        refine MB.mk ?_ ?_ HB1.out
        · rw [ByteArray.data_append, Array.toList_append, HEL.out, HM.out]
        · rw [HME.out]
          rfl
      · have hA : dgA (elev a.data.toList b.data.toList) = 0 := if_neg hh
        have hE : dgE (elev a.data.toList b.data.toList) = 11 := if_neg hh
        rw [hA, hE] at HC
        have HM : Hid (mk a.data.toList b.data.toList = []) := if_neg (by rw [HOK.out]; exact hh)
        have HME : Hid (mkE a.data.toList b.data.toList = 11) := if_neg (by rw [HOK.out]; exact hh)
        clear hh hA hE
        go_enter Tryd.func5, Tryd.ntmps5
        go_wp2_with fail
        refine (HRep.out _).mono ?_
        rintro e W1 ⟨rfl, hb1⟩
        have HB1 : Hid (Below w.heap.size w W1) := hb1
        clear hb1
        go_wp2_with fail
        refine (HC.out _).mono ?_
        rintro e W2 ⟨rfl, rfl⟩
        go_wp2_with fail
        go_ret2
        exact MB.mk (by rw [HM.out]) (by rw [HME.out]; rfl) HB1.out
    · have h9z : (9 : Int) < (b.size : Int) := by omega
      have HN : Hid (¬ mkOk a.data.toList b.data.toList = true) := by
        unfold Hid mkOk
        rw [HLb.out, decide_eq_false h9, Bool.false_and, Bool.and_false]
        exact Bool.false_ne_true
      have HM : Hid (mk a.data.toList b.data.toList = []) := if_neg HN.out
      have HME : Hid (mkE a.data.toList b.data.toList = 11) := if_neg HN.out
      clear h9 h2
      go_enter Tryd.func5, Tryd.ntmps5
      go_wp2_with fail
      go_ret2
      exact MB.mk (by rw [HM.out]) (by rw [HME.out]; rfl) (Below.refl _ _)
  · have hne : (((a.size : Nat) : Int) != 2) = true := by rw [bne_iff_ne]; omega
    have HN : Hid (¬ mkOk a.data.toList b.data.toList = true) := by
      unfold Hid mkOk
      rw [HLa.out, decide_eq_false h2, Bool.false_and]
      exact Bool.false_ne_true
    have HM : Hid (mk a.data.toList b.data.toList = []) := if_neg HN.out
    have HME : Hid (mkE a.data.toList b.data.toList = 11) := if_neg HN.out
    clear h2
    go_enter Tryd.func5, Tryd.ntmps5
    go_wp2_with fail
    go_ret2
    exact MB.mk (by rw [HM.out]) (by rw [HME.out]; rfl) (Below.refl _ _)
theorem ex_mk : mk [85, 83] [48, 51, 55, 56, 51, 51, 49, 48, 48] = [85, 83, 48, 51, 55, 56, 51, 51, 49, 48, 48, 53] := by decide +kernel
theorem ex_mkE : mkE [85, 83] [48, 51, 55, 56, 51, 51, 49, 48, 48] = 0 := by decide +kernel
theorem ex_chk : chk [85, 83, 48, 51, 55, 56, 51, 51, 49, 48, 48, 53] = 0 := by decide +kernel
theorem ex_chk2 : chk [85, 83, 48, 51, 55, 56, 51, 51, 49, 48, 48, 54] = 12 := by decide +kernel
theorem xexM (w : World) : Calls Tryd.prog 5 #[.string ⟨#[85, 83]⟩, .string ⟨#[48, 51, 55, 56, 51, 51, 49, 48, 48]⟩] w fun e w' => e = .returned (.tuple #[.string ⟨#[85, 83, 48, 51, 55, 56, 51, 51, 49, 48, 48, 53]⟩, .int .i64 0]) ∧ Below w.heap.size w w' := by
  refine (xMake ⟨#[85, 83]⟩ ⟨#[48, 51, 55, 56, 51, 51, 49, 48, 48]⟩ w).mono ?_
  rintro e w' ⟨rfl, hb⟩
  refine ⟨?_, hb⟩
  rw [show (⟨#[85, 83]⟩ : ByteArray).data.toList = [85, 83] from rfl, show (⟨#[48, 51, 55, 56, 51, 51, 49, 48, 48]⟩ : ByteArray).data.toList = [48, 51, 55, 56, 51, 51, 49, 48, 48] from rfl, ex_mk, ex_mkE]
  rfl
theorem xexC (w : World) : Calls Tryd.prog 10 #[.string ⟨#[85, 83, 48, 51, 55, 56, 51, 51, 49, 48, 48, 53]⟩] w fun e w' => e = .returned (.int .i64 0) ∧ w = w' := by
  refine (xCheck ⟨#[85, 83, 48, 51, 55, 56, 51, 51, 49, 48, 48, 53]⟩ (by decide) w).mono ?_
  rintro e w' ⟨rfl, hb⟩
  refine ⟨?_, hb⟩
  rw [show (⟨#[85, 83, 48, 51, 55, 56, 51, 51, 49, 48, 48, 53]⟩ : ByteArray).data.toList = [85, 83, 48, 51, 55, 56, 51, 51, 49, 48, 48, 53] from rfl, ex_chk]
  rfl
theorem xexD (w : World) : Calls Tryd.prog 10 #[.string ⟨#[85, 83, 48, 51, 55, 56, 51, 51, 49, 48, 48, 54]⟩] w fun e w' => e = .returned (.int .i64 12) ∧ w = w' := by
  refine (xCheck ⟨#[85, 83, 48, 51, 55, 56, 51, 51, 49, 48, 48, 54]⟩ (by decide) w).mono ?_
  rintro e w' ⟨rfl, hb⟩
  refine ⟨?_, hb⟩
  rw [show (⟨#[85, 83, 48, 51, 55, 56, 51, 51, 49, 48, 48, 54]⟩ : ByteArray).data.toList = [85, 83, 48, 51, 55, 56, 51, 51, 49, 48, 48, 54] from rfl, ex_chk2]
  rfl
set_option maxHeartbeats 4000000 in
theorem awake (w : World) : Calls Tryd.prog 9 #[] w fun e w' => e = .returned (.bool true) ∧ Below w.heap.size w w' := by
  go_enter Tryd.func9, Tryd.ntmps9
  go_wp2_with fail
  refine (xexM _).mono ?_
  rintro e W1 ⟨rfl, hb1⟩
  have HB1 : Hid (Below w.heap.size w W1) := hb1
  clear hb1
  go_wp2_with fail
  refine (xexC _).mono ?_
  rintro e w2 ⟨rfl, rfl⟩
  go_wp2_with fail
  refine (xexD _).mono ?_
  rintro e w2 ⟨rfl, rfl⟩
  go_wp2_with fail
  go_ret
  exact ⟨rfl, HB1.out⟩
end Go.Proofs.YtbefcoanklohfaaDoor
