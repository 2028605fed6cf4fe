/- The laws of making, and of there and back. Condition: none beyond a text's greatest length. -/
import Derived.Test.YtbefcoanklohfaaDoorK
import Derived.WalkKit
import Derived.ProofKit
import Derived.Handy
import Derived.WalkLawsBesides
import Derived.WalkSpells
import Derived.BigQuiet
import Derived.BigCall
import Derived.Deep.QuietTactic
import Derived.Deep.Light
import Derived.Deep.OwnRows
import Derived.Laws.AppendOwnNone
import Derived.Laws.Strings3
import Derived.Laws.RangeAny
import Derived.Deep.RegionWith
import Derived.Lib.BitFns
import Derived.Lib.Walk
import Derived.Lib.Strings
import Derived.Lib.OthersKept
import Derived.Deep.CutBlock
import Derived.Deep.DeepCutAuto
import Derived.Deep.LoopGhost
import Derived.Deep.RegionHeld3
import Derived.Lib.SmallJoins
import Derived.Maps.AppendAt
import Derived.Laws.IdiomStrings
namespace Go.Proofs.YtbefcoanklohfaaDoor
open Go.RowKit
set_option linter.unusedVariables false
set_option linter.unusedSimpArgs false
set_option maxHeartbeats 4000000 in
theorem lmakes (a b s : ByteArray) (hs : s.size ≤ 9223372036854775807) (w : World) : Calls Tryd.prog 3 #[.string a, .string b, .string s] w fun e w' => e = .returned (.bool true) ∧ Below w.heap.size w w' := by
  have H1 : Hid (∀ w, Calls Tryd.prog 5 #[.string a, .string b] w (MB (mk a.data.toList b.data.toList) (mkE a.data.toList b.data.toList) w)) := fun w => xMake a b w
  have H2 : Hid (∀ w, Calls Tryd.prog 6 #[.string a, .string b] w (MB (mk a.data.toList b.data.toList) (mkE a.data.toList b.data.toList) w)) := fun w => rMake a b w
  have H3 : Hid (∀ w, Calls Tryd.prog 7 #[.string s] w (LB (landOf s.data.toList) (ownOf s.data.toList) (chk s.data.toList) w)) := fun w => xLand s hs w
  have H4 : Hid (∀ w, Calls Tryd.prog 8 #[.string s] w (LB (landOf s.data.toList) (ownOf s.data.toList) (chk s.data.toList) w)) := fun w => rLand s w
  unfold MB at H1 H2
  unfold LB at H3 H4
  generalize (⟨(mk a.data.toList b.data.toList).toArray⟩ : ByteArray) = M at *
  generalize mkE a.data.toList b.data.toList = n at *
  generalize (⟨(landOf s.data.toList).toArray⟩ : ByteArray) = L at *
  generalize (⟨(ownOf s.data.toList).toArray⟩ : ByteArray) = O at *
  generalize chk s.data.toList = m at *
  go_enter Tryd.func3, Tryd.ntmps3
  go_wp2_with fail
  refine (H1.out _).mono ?_
  rintro e W1 ⟨rfl, hb1⟩
  have HB1 : Hid (Below w.heap.size w W1) := hb1
  clear hb1
  go_wp2_with fail
  refine (H2.out _).mono ?_
  rintro e W2 ⟨rfl, hb2⟩
  have HB2 : Hid (Below w.heap.size w W2) := HB1.out.trans (hb2.mono HB1.out.size)
  clear hb2
  go_wp2_with fail
  refine (H3.out _).mono ?_
  rintro e W3 ⟨rfl, hb3⟩
  have HB3 : Hid (Below w.heap.size w W3) := HB2.out.trans (hb3.mono HB2.out.size)
  clear hb3
  go_wp2_with fail
  refine (H4.out _).mono ?_
  rintro e W4 ⟨rfl, hb4⟩
  have HB4 : Hid (Below w.heap.size w W4) := HB3.out.trans (hb4.mono HB3.out.size)
  clear hb4
  go_wp2_with fail
  refine (awake _).mono ?_
  rintro e W5 ⟨rfl, hb5⟩
  have HB5 : Hid (Below w.heap.size w W5) := HB4.out.trans (hb5.mono HB4.out.size)
  clear hb5
  go_wp2_with fail
  go_ret
  exact ⟨rfl, HB5.out⟩
set_option maxHeartbeats 4000000 in
theorem lback (a b : ByteArray) (hb0 : b.size ≤ 9223372036854775807) (w : World) : Calls Tryd.prog 4 #[.string a, .string b] w fun e w' => e = .returned (.bool true) ∧ Below w.heap.size w w' := by
  have H1 : Hid (∀ w, Calls Tryd.prog 5 #[.string a, .string b] w (MB (mk a.data.toList b.data.toList) (mkE a.data.toList b.data.toList) w)) := fun w => xMake a b w
  unfold MB at H1
  by_cases hok : mkOk a.data.toList b.data.toList = true
  · have hE : mkE a.data.toList b.data.toList = 0 := if_pos hok
    obtain ⟨h1, h2, h3⟩ := back_all hok
    obtain ⟨M, hM⟩ : ∃ M : ByteArray, (⟨(mk a.data.toList b.data.toList).toArray⟩ : ByteArray) = M := ⟨_, rfl⟩
    have hMl : M.data.toList = mk a.data.toList b.data.toList := by rw [← hM]
    have hMs : M.size ≤ 9223372036854775807 := by
      have h4 := (chk_ok.1 h1).1
      rw [shp_iff] at h4
      rw [size_le hMl, h4.1]
      omega
    have H3 : Hid (∀ w, Calls Tryd.prog 7 #[.string M] w (LB a.data.toList (trim b.data.toList) 0 w)) := fun w => by
      have := xLand M hMs w
      rw [hMl, h1, h2, h3] at this
      exact this
    have H5 : Hid (∀ w, Calls Tryd.prog 10 #[.string M] w (NP .i64 (0 : Nat) w)) := fun w => by
      have := xCheck M hMs w
      rw [hMl, h1] at this
      exact this
    rw [hM, hE] at H1
    unfold LB at H3
    have hL : (⟨a.data.toList.toArray⟩ : ByteArray) = a := rfl
    rw [hL] at H3
    have HO : Hid ((⟨(trim b.data.toList).toArray⟩ : ByteArray).data.toList = trim b.data.toList) := rfl
    generalize (⟨(trim b.data.toList).toArray⟩ : ByteArray) = O at *
    clear hok hE h1 h2 h3 hM hMl hL
    go_enter Tryd.func4, Tryd.ntmps4
    go_wp2_with fail
    refine (H1.out _).mono ?_
    rintro e W1 ⟨rfl, hb1⟩
    have HB1 : Hid (Below w.heap.size w W1) := hb1
    clear hb1
    go_wp2_with fail
    refine (H3.out _).mono ?_
    rintro e W2 ⟨rfl, hb2⟩
    have HB2 : Hid (Below w.heap.size w W2) := HB1.out.trans (hb2.mono HB1.out.size)
    clear hb2
    go_wp2_with fail
    go_loopw [1] (fun v wr => ∃ q : ByteArray, v = .string q ∧ q.size ≤ 9223372036854775807 ∧ W2 = wr ∧ Hid (trim q.data.toList = trim b.data.toList)) (fun v _ => match v with | .string q => q.size | _ => 0)
    case atStart => exact ⟨b, rfl, hb0, by first | rfl | trivial, rfl⟩
    case round =>
      obtain ⟨q, rfl, hq, rfl, hT⟩ := hrel
      by_cases h0 : 0 < q.size
      · have h0z : (0 : Int) < (q.size : Int) := by omega
        have h1z : (1 : Int) ≤ (q.size : Int) := by omega
        have hdr := drop_at h0
        rw [List.drop_zero] at hdr
        obtain ⟨x, hx⟩ : ∃ x : UInt8, q[0] = x := ⟨_, rfl⟩
        rw [hx] at hdr
        have hxl := x.toNat_lt
        by_cases h48 : x.toNat = 48
        · have hxe : x = 48 := UInt8.toNat_inj.1 h48
          have hxb : ((x.toNat : Int) == 48) = true := by rw [beq_iff_eq]; omega
          have HN : Hid (trim (q.extract 1 q.size).data.toList = trim b.data.toList) := by
            unfold Hid
            rw [← hT.out, ext_mid, List.take_of_length_le (by rw [List.length_drop]; exact Nat.le_refl _)]
            exact (trim_zero (r := q.data.toList.drop 1) (by rw [hxe] at hdr; exact hdr)).symm
          have hle : (q.extract 1 q.size).size < q.size := by
            rw [ByteArray.size_extract]
            omega
          clear h48 hxe hdr
          go_wp2_with fail
          go_roundw
          case rel => exact ⟨_, rfl, by omega, by first | rfl | trivial, HN⟩
          case measure => exact hle
        · have hxb : ((x.toNat : Int) == 48) = false := by rw [beq_eq_false_iff_ne]; omega
          have hqO : q = O := by
            refine Go.WideShapes.bytes_inj ?_
            rw [HO.out, ← hT.out]
            exact (trim_stop hdr (fun e => h48 (by rw [e]; rfl))).symm
          clear h48 hdr
          subst hqO
          go_wp2_with fail
          refine (H5.out _).mono ?_
          rintro e w3 ⟨rfl, rfl⟩
          go_wp2_with fail
          refine (awake _).mono ?_
          rintro e W4 ⟨rfl, hb4⟩
          have HB4 : Hid (Below w.heap.size w W4) := HB2.out.trans (hb4.mono HB2.out.size)
          clear hb4
          go_wp2_with fail
          go_ret
          exact ⟨rfl, HB4.out⟩
      · have h0z : ¬ (0 : Int) < (q.size : Int) := by omega
        have hqO : q = O := by
          refine Go.WideShapes.bytes_inj ?_
          have hnil : q.data.toList = [] := List.eq_nil_of_length_eq_zero (by have : q.data.toList.length = q.size := rfl; omega)
          have h1 := hT.out
          rw [hnil] at h1
          rw [HO.out, ← h1, hnil]
          rfl
        subst hqO
        go_wp2_with fail
        refine (H5.out _).mono ?_
        rintro e w3 ⟨rfl, rfl⟩
        go_wp2_with fail
        refine (awake _).mono ?_
        rintro e W4 ⟨rfl, hb4⟩
        have HB4 : Hid (Below w.heap.size w W4) := HB2.out.trans (hb4.mono HB2.out.size)
        clear hb4
        go_wp2_with fail
        go_ret
        exact ⟨rfl, HB4.out⟩
  · have hE : mkE a.data.toList b.data.toList = 11 := if_neg hok
    have hM : mk a.data.toList b.data.toList = [] := if_neg hok
    rw [hE, hM] at H1
    clear hok hE hM
    go_enter Tryd.func4, Tryd.ntmps4
    go_wp2_with fail
    refine (H1.out _).mono ?_
    rintro e W1 ⟨rfl, hb1⟩
    have HB1 : Hid (Below w.heap.size w W1) := hb1
    clear hb1
    go_wp2_with fail
    refine (awake _).mono ?_
    rintro e W4 ⟨rfl, hb4⟩
    have HB4 : Hid (Below w.heap.size w W4) := HB1.out.trans (hb4.mono HB1.out.size)
    clear hb4
    go_wp2_with fail
    go_ret
    exact ⟨rfl, HB4.out⟩
end Go.Proofs.YtbefcoanklohfaaDoor
