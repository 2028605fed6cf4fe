/- The reference's Next. -/
import Derived.Test.YtpddddnjmklfdaaI
import Derived.WalkKit
import Derived.ProofKit
import Derived.Handy
import Derived.WalkLawsBesides
import Derived.WalkSpells
import Derived.BigQuiet
import Derived.BigCall
import Derived.Deep.QuietTactic
import Derived.Deep.Light
import Derived.Deep.OwnRows
import Derived.Laws.AppendOwnNone
import Derived.Laws.Strings3
import Derived.Laws.RangeAny
import Derived.Deep.RegionWith
import Derived.Lib.BitFns
import Derived.Lib.Walk
import Derived.Lib.Strings
import Derived.Lib.OthersKept
import Derived.Deep.CutBlock
import Derived.Deep.DeepCutAuto
import Derived.Deep.LoopGhost
import Derived.Deep.RegionHeld3
import Derived.Lib.SmallJoins
import Derived.Maps.AppendAt
import Derived.Laws.IdiomStrings
import Derived.Lib.AppendZeros
import Derived.Deep.WholeRow
import Derived.Laws.BitsAllLaws
namespace Go.Proofs.Ytpddddnjmklfdaa
open Go.RowKit
set_option linter.unusedVariables false
set_option linter.unusedSimpArgs false
set_option maxHeartbeats 4000000 in
theorem rnext (s : ByteArray) (hs : s.size ≤ 9223372036854775807) (w : World) : Calls Try.prog 18 #[.string s] w (TB (nextL s.data.toList) (nextN s.data.toList) (nextE s.data.toList) w) := by
  have HL : Hid (s.data.toList.length = s.size) := rfl
  go_enter Try.func18, Try.ntmps18
  go_wp2_with fail
  go_loopw [5] (fun i wr => ∃ (k : Nat), i = .int .i64 k ∧ 4 ≤ k ∧ k ≤ 8 ∧ Hid (Below w.heap.size w wr) ∧ Hid (∀ j, j < k - 4 → 4 + j < s.size → (s.data.toList.getD (4 + j) 0).toNat + (s.data.toList.getD j 0).toNat = 255)) (fun i _ => 8 - (Lib.intOf i).toNat)
  case atStart => exact ⟨4, rfl, by omega, by omega, Below.refl _ _, fun j hj => absurd hj (by omega)⟩
  case round =>
    obtain ⟨k, rfl, hk4, hk8, HB, HT⟩ := hrel
    by_cases hkn : k < 8 ∧ k < s.size
    · obtain ⟨hk, hks⟩ := hkn
      have hk8z : (k : Int) < 8 := by omega
      have hkz : (k : Int) < (s.size : Int) := by omega
      obtain ⟨j, hj⟩ : ∃ j, k = 4 + j := ⟨k - 4, by omega⟩
      have hjz : (k : Int) - 4 = (j : Int) := by omega
      have hjs : j < s.size := by omega
      have hx1 : s.data.toList.getD (4 + j) 0 = s[k] := by rw [← hj]; exact at_data hks
      have hx2 : s.data.toList.getD j 0 = s[j] := at_data hjs
      obtain ⟨x, hx⟩ : ∃ x : UInt8, s[k] = x := ⟨_, rfl⟩
      obtain ⟨y, hy⟩ : ∃ y : UInt8, s[j] = y := ⟨_, rfl⟩
      rw [hx] at hx1
      rw [hy] at hx2
      have hxl := x.toNat_lt
      have hyl := y.toNat_lt
      have HX : Hid (s.data.toList.getD (4 + j) 0 = x ∧ s.data.toList.getD j 0 = y ∧ k = 4 + j) := ⟨hx1, hx2, hj⟩
      clear hx1 hx2 hj
      by_cases ht : x.toNat + y.toNat = 255
      · have hb : ((x.toNat : Int) + (y.toNat : Int) != 255) = false := by rw [bne_eq_false_iff_eq]; omega
        have HN : Hid (∀ i, i < k + 1 - 4 → 4 + i < s.size → (s.data.toList.getD (4 + i) 0).toNat + (s.data.toList.getD i 0).toNat = 255) := by
          intro i hi hl
          by_cases hij : i = j
          · subst hij
            rw [HX.out.1, HX.out.2.1]
            exact ht
          · exact HT.out i (by have := HX.out.2.2; omega) hl
        clear HT ht
        go_wp2_with fail
        go_quiet (fail)
        go_wp2_with fail
        exact ⟨⟨k + 1, by go_num, by omega, by omega, bdrew HB.out _, HN.out⟩, by simp [Lib.intOf]; omega⟩
      · have hb : ((x.toNat : Int) + (y.toNat : Int) != 255) = true := by rw [bne_iff_ne]; omega
        have HN : Hid (trn s.data.toList = false) := by
          refine Bool.eq_false_iff.2 fun h => ht ?_
          rw [trn_iff] at h
          have := h j (by have := HX.out.2.2; omega) (by rw [HL.out]; have := HX.out.2.2; omega)
          rw [HX.out.1, HX.out.2.1] at this
          exact this
        clear HT ht
        go_wp2_with fail
        go_quiet (fail)
        go_wp2_with fail
        go_ret3
        exact TB.no (nextE_trn HN.out) (by omega) rfl (bdrew HB.out _)
    · have HN : Hid (trn s.data.toList = true) := by
        refine trn_iff.2 fun i hi hl => HT.out i ?_ hl
        rw [HL.out] at hl
        omega
      have hex : (8 : Int) ≤ (k : Int) ∨ ((k : Int) < 8 ∧ (s.size : Int) ≤ (k : Int)) := by omega
      have hsk : k < 8 → s.size ≤ k := by omega
      clear HT
      by_cases h8 : s.size < 8
      · have h8z : (s.size : Int) < 8 := by omega
        have hks : ¬ (k : Int) < (s.size : Int) := by omega
        clear hkn hex
        by_cases hk : (k : Int) < 8
        · go_wp2_with fail
          go_ret3
          exact TB.no (nextE_short HN.out h8) (by omega) rfl HB.out
        · go_wp2_with fail
          go_ret3
          exact TB.no (nextE_short HN.out h8) (by omega) rfl HB.out
      · have h8z : ¬ (s.size : Int) < 8 := by omega
        have hk : ¬ (k : Int) < 8 := by omega
        clear hkn hex hsk
        have e0 : s.data.toList.getD 0 0 = s[0] := at_data (by omega)
        have e1 : s.data.toList.getD 1 0 = s[1] := at_data (by omega)
        have e2 : s.data.toList.getD 2 0 = s[2] := at_data (by omega)
        have e3 : s.data.toList.getD 3 0 = s[3] := at_data (by omega)
        have hi0 : ∀ w : World, (Instr.index 9 (.string s) (.int .i64 0)).run Try.prog w = .ok (.int .u8 (s[0].toNat : Int)) w := fun w => idx_at (k := 0) (by omega) rfl rfl w
        have hi1 : ∀ w : World, (Instr.index 9 (.string s) (.int .i64 1)).run Try.prog w = .ok (.int .u8 (s[1].toNat : Int)) w := fun w => idx_at (k := 1) (by omega) rfl rfl w
        have hi2 : ∀ w : World, (Instr.index 9 (.string s) (.int .i64 2)).run Try.prog w = .ok (.int .u8 (s[2].toNat : Int)) w := fun w => idx_at (k := 2) (by omega) rfl rfl w
        have hi3 : ∀ w : World, (Instr.index 9 (.string s) (.int .i64 3)).run Try.prog w = .ok (.int .u8 (s[3].toNat : Int)) w := fun w => idx_at (k := 3) (by omega) rfl rfl w
        have l0 := s[0].toNat_lt
        have l1 := s[1].toNat_lt
        have l2 := s[2].toNat_lt
        have l3 := s[3].toNat_lt
        have hv : val4 s.data.toList = s[0].toNat + 256 * s[1].toNat + 65536 * s[2].toNat + 16777216 * s[3].toNat := by
          unfold val4
          rw [e0, e1, e2, e3]
        clear e0 e1 e2 e3
        generalize s[0].toNat = a at *
        generalize s[1].toNat = b at *
        generalize s[2].toNat = c at *
        generalize s[3].toNat = d at *
        have HV : Hid ((a : Int) + 256 * (b : Int) + 65536 * (c : Int) + 16777216 * (d : Int) = ((val4 s.data.toList : Nat) : Int)) := by
          unfold Hid
          rw [hv]
          omega
        clear hv
        go_wp2_with fail
        go_quiet (fail)
        rw [HV.out]
        have hnl := val4_lt s.data.toList
        by_cases hn : val4 s.data.toList ≤ 4096
        · by_cases hl : s.size < val4 s.data.toList + 12
          · have HE : Hid (nextE s.data.toList = 14) := nextE_few HN.out (by rw [HL.out]; omega) hn (by rw [HL.out]; exact hl)
            clear HV
            generalize val4 s.data.toList = n at *
            have hlz : (s.size : Int) < (n : Int) + 12 := by omega
            have hnz : ¬ (4096 : Int) < (n : Int) := by omega
            go_wp2_with fail
            go_ret3
            exact TB.no HE.out (by omega) rfl (bdrew HB.out _)
          · have e1 : (s.extract 8 (8 + val4 s.data.toList)).data.toList = (s.data.toList.drop 8).take (val4 s.data.toList) := by
              rw [ext_list]
              congr 1
              omega
            have e2 : (s.extract 0 (val4 s.data.toList + 12)).data.toList = s.data.toList.take (val4 s.data.toList + 12) := by
              rw [ext_list]
              rfl
            have s1 := ext_len s 8 (8 + val4 s.data.toList) (by omega)
            have s2 := ext_len s 0 (val4 s.data.toList + 12) (by omega)
            have HE : Hid (nextE s.data.toList = if putL ((s.data.toList.drop 8).take (val4 s.data.toList)) = s.data.toList.take (val4 s.data.toList + 12) then 0 else 15) := by
              unfold Hid
              rw [nextE_all HN.out hn (by rw [HL.out]; omega)]
              by_cases hc : putL ((s.data.toList.drop 8).take (val4 s.data.toList)) = s.data.toList.take (val4 s.data.toList + 12)
              · rw [if_pos hc, if_pos ((put_iff HN.out (by rw [HL.out]; omega)).1 hc)]
              · rw [if_neg hc, if_neg fun h => hc ((put_iff HN.out (by rw [HL.out]; omega)).2 h)]
            have HP : Hid (∀ w, Calls Try.prog 11 #[.string (s.extract 8 (8 + val4 s.data.toList))] w fun e w' => e = .returned (.tuple #[.string ⟨(putL ((s.data.toList.drop 8).take (val4 s.data.toList))).toArray⟩, .int .i64 0]) ∧ Below w.heap.size w w') := fun w => by
              have h4 : (s.extract 8 (8 + val4 s.data.toList)).data.toList.length ≤ 4096 := by show (s.extract 8 (8 + val4 s.data.toList)).size ≤ 4096; omega
              have := rput (s.extract 8 (8 + val4 s.data.toList)) w
              rw [put_yes h4, putE_yes h4, e1] at this
              exact this
            have H0 : Hid (nextE s.data.toList = 0 → nextL s.data.toList = (s.extract 8 (8 + val4 s.data.toList)).data.toList ∧ nextN s.data.toList = val4 s.data.toList + 12) := fun h => ⟨by rw [nextL_ok h, e1], nextN_ok h⟩
            have HC : Hid (putL ((s.data.toList.drop 8).take (val4 s.data.toList)) = s.data.toList.take (val4 s.data.toList + 12) ↔ (⟨(putL ((s.data.toList.drop 8).take (val4 s.data.toList))).toArray⟩ : ByteArray).toList = (s.extract 0 (val4 s.data.toList + 12)).toList) := by
              unfold Hid
              rw [ByteArray.toList_mk, ByteArray.toList_eq, e2]
            clear HV e1 e2
            have hps : (⟨(putL ((s.data.toList.drop 8).take (val4 s.data.toList))).toArray⟩ : ByteArray).size = (s.extract 8 (8 + val4 s.data.toList)).size + 12 := by
              rw [ba_size, putL_len, List.length_take, List.length_drop]
              show min (val4 s.data.toList) (s.size - 8) + 12 = _
              omega
            by_cases hc : putL ((s.data.toList.drop 8).take (val4 s.data.toList)) = s.data.toList.take (val4 s.data.toList + 12)
            · rw [if_pos hc] at HE
              have hb : ((⟨(putL ((s.data.toList.drop 8).take (val4 s.data.toList))).toArray⟩ : ByteArray).toList == (s.extract 0 (val4 s.data.toList + 12)).toList) = true := by rw [beq_iff_eq]; exact HC.out.1 hc
              have HR := H0.out HE.out
              clear HC hc H0
              generalize (⟨(putL ((s.data.toList.drop 8).take (val4 s.data.toList))).toArray⟩ : ByteArray) = P at *
              generalize val4 s.data.toList = n at *
              have HR1 : Hid (nextL s.data.toList = (s.extract 8 (8 + n)).data.toList) := HR.1
              have HR2 : Hid (nextN s.data.toList = n + 12) := HR.2
              clear HR
              have hlz : ¬ (s.size : Int) < (n : Int) + 12 := by omega
              have hnz : ¬ (4096 : Int) < (n : Int) := by omega
              go_wp2_with fail
              refine (HP.out _).mono ?_
              rintro e w5 ⟨rfl, hb5⟩
              have HB5 : Hid (Below w.heap.size w w5) := (bdrew HB.out _).trans (hb5.mono (by have := HB.out.size; simpa using this))
              clear hb5
              go_wp2_with fail
              go_ret3
              exact TB.mk HR1.out.symm (by rw [HR2.out]; omega) (by rw [HE.out]; rfl) HB5.out
            · rw [if_neg hc] at HE
              have hb : ((⟨(putL ((s.data.toList.drop 8).take (val4 s.data.toList))).toArray⟩ : ByteArray).toList == (s.extract 0 (val4 s.data.toList + 12)).toList) = false := by rw [beq_eq_false_iff_ne]; exact fun h => hc (HC.out.2 h)
              clear HC hc H0
              generalize (⟨(putL ((s.data.toList.drop 8).take (val4 s.data.toList))).toArray⟩ : ByteArray) = P at *
              generalize val4 s.data.toList = n at *
              have hlz : ¬ (s.size : Int) < (n : Int) + 12 := by omega
              have hnz : ¬ (4096 : Int) < (n : Int) := by omega
              go_wp2_with fail
              refine (HP.out _).mono ?_
              rintro e w5 ⟨rfl, hb5⟩
              have HB5 : Hid (Below w.heap.size w w5) := (bdrew HB.out _).trans (hb5.mono (by have := HB.out.size; simpa using this))
              clear hb5
              go_wp2_with fail
              go_ret3
              exact TB.no HE.out (by omega) rfl HB5.out
        · have HE : Hid (nextE s.data.toList = 15) := nextE_great HN.out (by rw [HL.out]; omega) (by omega)
          clear HV
          generalize val4 s.data.toList = n at *
          have hnz : (4096 : Int) < (n : Int) := by omega
          go_wp2_with fail
          go_ret3
          exact TB.no HE.out (by omega) rfl (bdrew HB.out _)
end Go.Proofs.Ytpddddnjmklfdaa
