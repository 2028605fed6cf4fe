/- The reference's Make and Land. Condition: none. -/
import Derived.Test.YtbefcoanklohfaaDoorJ
import Derived.WalkKit
import Derived.ProofKit
import Derived.Handy
import Derived.WalkLawsBesides
import Derived.WalkSpells
import Derived.BigQuiet
import Derived.BigCall
import Derived.Deep.QuietTactic
import Derived.Deep.Light
import Derived.Deep.OwnRows
import Derived.Laws.AppendOwnNone
import Derived.Laws.Strings3
import Derived.Laws.RangeAny
import Derived.Deep.RegionWith
import Derived.Lib.BitFns
import Derived.Lib.Walk
import Derived.Lib.Strings
import Derived.Lib.OthersKept
import Derived.Deep.CutBlock
import Derived.Deep.DeepCutAuto
import Derived.Deep.LoopGhost
import Derived.Deep.RegionHeld3
import Derived.Lib.SmallJoins
import Derived.Maps.AppendAt
import Derived.Laws.IdiomStrings
namespace Go.Proofs.YtbefcoanklohfaaDoor
open Go.RowKit
set_option linter.unusedVariables false
set_option linter.unusedSimpArgs false
theorem zer_succ (n : Nat) : zer (n + 1) = 48 :: zer n := rfl
set_option maxHeartbeats 4000000 in
theorem rMake (a b : ByteArray) (w : World) : Calls Tryd.prog 6 #[.string a, .string b] w (MB (mk a.data.toList b.data.toList) (mkE a.data.toList b.data.toList) w) := by
  have HLa : Hid (a.data.toList.length = a.size) := rfl
  have HLb : Hid (b.data.toList.length = b.size) := rfl
  by_cases h2 : a.size = 2
  · have hne : (((a.size : Nat) : Int) != 2) = false := by rw [h2]; rfl
    by_cases h9 : b.size ≤ 9
    · have h9z : ¬ (9 : Int) < (b.size : Int) := by omega
      have ha2 : a.size ≤ 2 := by omega
      have HA2 : Hid (a.size = 2) := h2
      clear h2
      go_enter Tryd.func6, Tryd.ntmps6
      go_wp2_with fail
      go_loopw [6] (fun v wr => ∃ (j : Nat) (q : ByteArray), v = .string q ∧ Hid (q.data.toList = zer j ++ b.data.toList) ∧ Hid (q.size = b.size + j) ∧ q.size ≤ 9 ∧ w = wr) (fun v _ => match v with | .string q => 9 - q.size | _ => 0)
      case atStart => exact ⟨0, b, rfl, rfl, rfl, h9, by first | rfl | trivial⟩
      case round =>
        obtain ⟨j, q, rfl, hq, hqs, hq9, rfl⟩ := hrel
        by_cases hlt : q.size < 9
        · have hltz : (q.size : Int) < 9 := by omega
          have h48 : (⟨#[48]⟩ : ByteArray).size ≤ 1 := Nat.le_refl _
          go_wp2_with fail
          go_roundw
          case rel =>
            refine ⟨j + 1, ⟨#[48]⟩ ++ q, rfl, ?_, ?_, ?_, by first | rfl | trivial⟩
            · unfold Hid
              rw [ByteArray.data_append, Array.toList_append, hq.out, zer_succ]
              rfl
            · have := hqs.out
              unfold Hid
              rw [ByteArray.size_append]
              show 1 + q.size = _
              omega
            · rw [ByteArray.size_append]
              show 1 + q.size ≤ _
              omega
          case measure =>
            simp only [ByteArray.size_append]
            show 9 - (1 + q.size) < 9 - q.size
            omega
        · have hltz : ¬ (q.size : Int) < 9 := by omega
          have hel : (a ++ q).data.toList = elev a.data.toList b.data.toList := by
            rw [ByteArray.data_append, Array.toList_append, hq.out]
            unfold elev
            rw [HLb.out, show 9 - b.size = j by have := hqs.out; omega]
          have HEL : Hid ((a ++ q).data.toList = elev a.data.toList b.data.toList) := hel
          have hsz : (a ++ q).size ≤ 20 := by
            rw [ByteArray.size_append]
            omega
          have HC : Hid (∀ w, Calls Tryd.prog 13 #[.string (a ++ q)] w (DB (dgA (elev a.data.toList b.data.toList)) (dgE (elev a.data.toList b.data.toList)) w)) := fun w => by
            have := rDigit (a ++ q) (by omega) w
            rw [hel] at this
            exact this
          have HOK : Hid (mkOk a.data.toList b.data.toList = head (elev a.data.toList b.data.toList)) := by
            unfold Hid mkOk
            rw [HLa.out, HLb.out, decide_eq_true HA2.out, decide_eq_true h9, Bool.true_and, Bool.true_and]
          clear hel
          by_cases hh : head (elev a.data.toList b.data.toList) = true
          · have hA : dgA (elev a.data.toList b.data.toList) = 48 + dgN (elev a.data.toList b.data.toList) := if_pos hh
            have hE : dgE (elev a.data.toList b.data.toList) = 0 := if_pos hh
            rw [hA, hE] at HC
            have HM : Hid (mk a.data.toList b.data.toList = elev a.data.toList b.data.toList ++ [(48 + dgN (elev a.data.toList b.data.toList)).toUInt8]) := by
              unfold Hid mk
              rw [if_pos (by rw [HOK.out]; exact hh)]
              rfl
            have HME : Hid (mkE a.data.toList b.data.toList = 0) := if_pos (by rw [HOK.out]; exact hh)
            have hN := dgN_lt (elev a.data.toList b.data.toList)
            have hy := u8n (48 + dgN (elev a.data.toList b.data.toList)) (by omega)
            clear hh hA hE
            generalize dgN (elev a.data.toList b.data.toList) = d at *
            generalize (48 + d).toUInt8 = y at *
            have HY : Hid (y.toNat = 48 + d) := hy
            have hys : (⟨#[y]⟩ : ByteArray).size ≤ 1 := Nat.le_refl _
            clear hy
            go_wp2_with fail
            refine (HC.out _).mono ?_
            rintro e W1 ⟨rfl, hb1⟩
            have HB1 : Hid (Below w.heap.size w W1) := hb1
            have hcv : (convert 40 9 (Value.slice (some ⟨W1.heap.size, 0, none⟩) 1 1)).run Tryd.prog (W1.alloc (.cells #[.int .u8 (48 + (d : Int))] 5)) = .ok (.string ⟨#[y]⟩) (W1.alloc (.cells #[.int .u8 (48 + (d : Int))] 5)) := by
              have h0 := str_new W1 [y] 1
              have h1 : (Lib.byteCells [y]).toArray = #[Value.int .u8 (48 + (d : Int))] := by
                simp only [Lib.byteCells, List.map, HY.out]
                rfl
              rw [h1] at h0
              exact h0
            have HB2 : Hid (Below w.heap.size w (W1.alloc (.cells #[.int .u8 (48 + (d : Int))] 5))) := HB1.out.alloc HB1.out.size _
            clear hb1
            go_wp2_with fail
            go_ret2
            refine MB.mk ?_ ?_ HB2.out
            · rw [ByteArray.data_append, Array.toList_append, HEL.out, HM.out]
            · rw [HME.out]
              rfl
          · have hA : dgA (elev a.data.toList b.data.toList) = 0 := if_neg hh
            have hE : dgE (elev a.data.toList b.data.toList) = 11 := if_neg hh
            rw [hA, hE] at HC
            have HM : Hid (mk a.data.toList b.data.toList = []) := if_neg (by rw [HOK.out]; exact hh)
            have HME : Hid (mkE a.data.toList b.data.toList = 11) := if_neg (by rw [HOK.out]; exact hh)
            clear hh hA hE
            go_wp2_with fail
            refine (HC.out _).mono ?_
            rintro e W1 ⟨rfl, hb1⟩
            have HB1 : Hid (Below w.heap.size w W1) := hb1
            clear hb1
            go_wp2_with fail
            go_ret2
            exact MB.mk (by rw [HM.out]) (by rw [HME.out]; rfl) HB1.out
    · have h9z : (9 : Int) < (b.size : Int) := by omega
      have HN : Hid (¬ mkOk a.data.toList b.data.toList = true) := by
        unfold Hid mkOk
        rw [HLb.out, decide_eq_false h9, Bool.false_and, Bool.and_false]
        exact Bool.false_ne_true
      have HM : Hid (mk a.data.toList b.data.toList = []) := if_neg HN.out
      have HME : Hid (mkE a.data.toList b.data.toList = 11) := if_neg HN.out
      clear h9 h2
      go_enter Tryd.func6, Tryd.ntmps6
      go_wp2_with fail
      go_ret2
      exact MB.mk (by rw [HM.out]) (by rw [HME.out]; rfl) (Below.refl _ _)
  · have hne : (((a.size : Nat) : Int) != 2) = true := by rw [bne_iff_ne]; omega
    have HN : Hid (¬ mkOk a.data.toList b.data.toList = true) := by
      unfold Hid mkOk
      rw [HLa.out, decide_eq_false h2, Bool.false_and]
      exact Bool.false_ne_true
    have HM : Hid (mk a.data.toList b.data.toList = []) := if_neg HN.out
    have HME : Hid (mkE a.data.toList b.data.toList = 11) := if_neg HN.out
    clear h2
    go_enter Tryd.func6, Tryd.ntmps6
    go_wp2_with fail
    go_ret2
    exact MB.mk (by rw [HM.out]) (by rw [HME.out]; rfl) (Below.refl _ _)
theorem bdrewN {B : Nat} {a w : World} {n : Nat} (h : Below B a w) : Below B a (w.drewN n) := ⟨h.os, h.tape, h.output, h.size, h.block⟩
theorem trim_zero {l : List UInt8} {r : List UInt8} (h : l = 48 :: r) : trim l = trim r := by
  subst h
  unfold trim
  rw [List.dropWhile_cons_of_pos (by decide)]
theorem trim_stop {l : List UInt8} {x : UInt8} {r : List UInt8} (h : l = x :: r) (hx : x ≠ 48) : trim l = l := by
  subst h
  unfold trim
  rw [List.dropWhile_cons_of_neg (by simpa using hx)]
set_option maxHeartbeats 4000000 in
theorem rLand (s : ByteArray) (w : World) : Calls Tryd.prog 8 #[.string s] w (LB (landOf s.data.toList) (ownOf s.data.toList) (chk s.data.toList) w) := by
  have HC : Hid (∀ w, Calls Tryd.prog 16 #[.string s] w (NB (chk s.data.toList) w)) := fun w => rCheck s w
  by_cases h0 : chk s.data.toList = 0
  · have HLa : Hid (landOf s.data.toList = s.data.toList.take 2) := if_pos h0
    have HOw : Hid (ownOf s.data.toList = trim ((s.data.toList.drop 2).take 9)) := if_pos h0
    have hsz : s.size = 12 := by
      have h1 := (chk_ok.1 h0).1
      rw [shp_iff] at h1
      exact h1.1
    have HSZ : Hid (s.size = 12) := hsz
    have h12 : (12 : Int) ≤ (s.size : Int) := by omega
    rw [h0] at HC ⊢
    have HL2 : Hid ((s.extract 0 2).data.toList = s.data.toList.take 2) := ext_take s 2
    clear h0 hsz
    go_enter Tryd.func8, Tryd.ntmps8
    go_wp2_with fail
    refine (HC.out _).mono ?_
    rintro e W1 ⟨rfl, hb1⟩
    have HB1 : Hid (Below w.heap.size w W1) := hb1
    clear hb1
    go_wp2_with fail
    go_loopw [5] (fun i wr => ∃ (k : Nat), i = .int .i64 k ∧ 2 ≤ k ∧ k ≤ 11 ∧ W1 = wr ∧ Hid (trim ((s.data.toList.drop k).take (11 - k)) = trim ((s.data.toList.drop 2).take 9))) (fun i _ => 11 - (Lib.intOf i).toNat)
    case atStart => exact ⟨2, rfl, by omega, by omega, by first | rfl | trivial, rfl⟩
    case round =>
      obtain ⟨k, rfl, hk2, hk, rfl, hT⟩ := hrel
      have HX : Hid ((s.extract k 11).data.toList = (s.data.toList.drop k).take (11 - k)) := ext_mid s k 11
      have hkz : (k : Int) ≤ 11 := by omega
      by_cases hkn : k < 11
      · have hks : k < s.size := by have := HSZ.out; omega
        have hknz : (k : Int) < 11 := by omega
        have hdr := drop_at hks
        obtain ⟨x, hx⟩ : ∃ x : UInt8, s[k] = x := ⟨_, rfl⟩
        rw [hx] at hdr
        have hpa : (s.data.toList.drop k).take (11 - k) = x :: (s.data.toList.drop (k + 1)).take (11 - (k + 1)) := by
          rw [hdr, show 11 - k = (11 - (k + 1)) + 1 by omega]
          rfl
        have hxl := x.toNat_lt
        by_cases h48 : x.toNat = 48
        · have hxe : x = 48 := UInt8.toNat_inj.1 h48
          have hxb : ((x.toNat : Int) == 48) = true := by rw [beq_iff_eq]; omega
          have HN : Hid (trim ((s.data.toList.drop (k + 1)).take (11 - (k + 1))) = trim ((s.data.toList.drop 2).take 9)) := by
            unfold Hid
            rw [← hT.out]
            exact (trim_zero (by rw [hpa, hxe])).symm
          clear h48 hxe hpa hdr
          go_wp2_with fail
          go_roundw
          case rel => exact ⟨k + 1, by go_num, by omega, by omega, by first | rfl | trivial, HN⟩
          case measure =>
            simp [Lib.intOf]
            omega
        · have hxb : ((x.toNat : Int) == 48) = false := by rw [beq_eq_false_iff_ne]; omega
          have HN : Hid ((s.data.toList.drop k).take (11 - k) = trim ((s.data.toList.drop 2).take 9)) := by
            unfold Hid
            rw [← hT.out]
            exact (trim_stop hpa (fun e => h48 (by rw [e]; rfl))).symm
          clear h48 hpa hdr
          go_wp2_with fail
          go_quiet (fail)
          have HB2 : Hid (Below w.heap.size w (W1.drewN nq)) := bdrewN HB1.out
          generalize W1.drewN nq = W2 at *
          go_wp2_with fail
          go_ret3
          exact LB.mk (by rw [HLa.out, HL2.out]) (by rw [HOw.out, HX.out, HN.out]) rfl HB2.out
      · have hknz : ¬ (k : Int) < 11 := by omega
        have HN : Hid ((s.data.toList.drop k).take (11 - k) = trim ((s.data.toList.drop 2).take 9)) := by
          unfold Hid
          rw [← hT.out, show 11 - k = 0 by omega, List.take_zero]
          rfl
        go_wp2_with fail
        go_quiet (fail)
        have HB2 : Hid (Below w.heap.size w (W1.drewN nq)) := bdrewN HB1.out
        generalize W1.drewN nq = W2 at *
        go_wp2_with fail
        go_ret3
        exact LB.mk (by rw [HLa.out, HL2.out]) (by rw [HOw.out, HX.out, HN.out]) rfl HB2.out
  · have HLa : Hid (landOf s.data.toList = []) := if_neg h0
    have HOw : Hid (ownOf s.data.toList = []) := if_neg h0
    have hne : (((chk s.data.toList : Nat) : Int) != 0) = true := by rw [bne_iff_ne]; omega
    generalize chk s.data.toList = n at *
    clear h0
    go_enter Tryd.func8, Tryd.ntmps8
    go_wp2_with fail
    refine (HC.out _).mono ?_
    rintro e W1 ⟨rfl, hb1⟩
    have HB1 : Hid (Below w.heap.size w W1) := hb1
    clear hb1
    go_wp2_with fail
    refine (HC.out _).mono ?_
    rintro e W2 ⟨rfl, hb2⟩
    have HB2 : Hid (Below w.heap.size w W2) := HB1.out.trans (hb2.mono HB1.out.size)
    clear hb2
    go_wp2_with fail
    go_ret3
    exact LB.mk (by rw [HLa.out]) (by rw [HOw.out]) rfl HB2.out
end Go.Proofs.YtbefcoanklohfaaDoor
