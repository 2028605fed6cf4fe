/- The reference's Fold. Condition: the text has at most 2 to the 40th bytes. -/
import Derived.Test.YtgkefaojbdjnoaaDoorX
import Derived.WalkKit
import Derived.ProofKit
import Derived.Handy
import Derived.WalkLawsBesides
import Derived.WalkSpells
import Derived.BigQuiet
import Derived.BigCall
import Derived.Deep.QuietTactic
import Derived.Deep.Light
import Derived.Deep.OwnRows
import Derived.Laws.AppendOwnNone
import Derived.Laws.Strings3
import Derived.Laws.RangeAny
import Derived.Deep.RegionWith
import Derived.Lib.BitFns
import Derived.Lib.Walk
import Derived.Lib.Strings
import Derived.Lib.OthersKept
import Derived.Deep.CutBlock
import Derived.Deep.DeepCutAuto
import Derived.Deep.LoopGhost
import Derived.Deep.RegionHeld3
import Derived.Lib.SmallJoins
import Derived.Maps.AppendAt
import Derived.Laws.IdiomStrings
namespace Go.Proofs.YtgkefaojbdjnoaaDoor
open Go.RowKit
set_option linter.unusedVariables false
set_option linter.unusedSimpArgs false
set_option maxHeartbeats 4000000 in
theorem rfold (s : ByteArray) (hs : s.size ≤ 1099511627776) (w : World) : Calls Tryd.prog 22 #[.string s] w (STB (fold s.data.toList) w) := by
  go_enter Tryd.func22, Tryd.ntmps22
  go_wp2_with fail
  refine (rsigns s hs _).mono ?_
  rintro e W1 ⟨v1, v2, rfl, hs1, hs2, hb1⟩
  obtain ⟨a, cap, rfl, hsg⟩ := hs1
  have HSG : Hid _ := hsg
  have HB1 : Hid (Below w.heap.size w W1) := hb1
  have hcl : (cs s.data.toList 0).length ≤ s.size := cs_len s.data.toList
  have HV : Hid (∀ k, k < (cs s.data.toList 0).length → Vl ((cs s.data.toList 0).getD k 0)) := fun k hk => cs_at hk
  have HW : Hid (((cs s.data.toList 0).map low).flatMap enc = fold s.data.toList) := rfl
  clear hsg hs2 hb1
  generalize cs s.data.toList 0 = xs at *
  generalize fold s.data.toList = R at *
  go_wp2_with fail
  go_loopw [6, 7] (fun v i wr => ∃ (k : Nat) (q : ByteArray), i = .int .i64 k ∧ v = .string q ∧ k ≤ xs.length ∧ q.size ≤ 4 * k ∧ Hid (q.data.toList ++ ((xs.drop k).map low).flatMap enc = R) ∧ Hid (Below W1.heap.size W1 wr)) (fun _ i _ => xs.length - (Lib.intOf i).toNat)
  case atStart => exact ⟨0, ⟨#[]⟩, rfl, rfl, Nat.zero_le _, Nat.le_refl _, by unfold Hid; rw [List.drop_zero, HW.out]; rfl, Below.refl _ _⟩
  case round =>
    obtain ⟨k, q, rfl, rfl, hk, hq, hsum, hbr⟩ := hrel
    by_cases hkn : k < xs.length
    · have hkz : (k : Int) < (xs.length : Int) := by omega
      obtain ⟨b, rfl, hlt, hc⟩ := HSG.out (by intro e; rw [e] at hkn; simp at hkn)
      have hck : wr.cell? ⟨b, k, none⟩ = some (.int .i64 ((xs.getD k 0 : Nat) : Int)) := (hbr.out.cell (by exact hlt)).trans (hc k hkn)
      have HVl : Hid _ := HV.out k hkn
      have hv := (HV.out k hkn).le
      have Hd : Hid (xs.drop k = xs.getD k 0 :: xs.drop (k + 1)) := drop_getD hkn
      clear hc
      generalize xs.getD k 0 = c at *
      go_wp2_with fail
      refine (rlow c hv _).mono ?_
      rintro e w2 ⟨rfl, rfl⟩
      go_wp2_with fail
      refine (rtext (low c) (low_V HVl.out) _).mono ?_
      rintro e w2 ⟨rfl, hb2⟩
      have HB2 : Hid (Below W1.heap.size W1 w2) := hbr.out.trans (hb2.mono hbr.out.size)
      have he := enc_len (low c)
      clear hb2 hck
      obtain ⟨E, hE⟩ : ∃ E, enc (low c) = E := ⟨_, rfl⟩
      have HE : Hid (enc (low c) = E) := hE
      rw [hE] at he ⊢
      clear hE
      go_wp2_with fail
      go_roundw
      case rel =>
        refine ⟨k + 1, q ++ ⟨E.toArray⟩, by go_num, rfl, by omega, ?_, ?_, HB2⟩
        · rw [ByteArray.size_append]
          show q.size + E.length ≤ _
          omega
        · have h1 := hsum.out
          rw [Hd.out, List.map_cons, List.flatMap_cons, HE.out] at h1
          unfold Hid
          rw [ByteArray.data_append, Array.toList_append, List.append_assoc]
          exact h1
      case measure =>
        simp [Lib.intOf]
        omega
    · have hkz : ¬ (k : Int) < (xs.length : Int) := by omega
      go_wp2_with fail
      go_ret
      refine STB.mk ?_ (HB1.out.trans (hbr.out.mono HB1.out.size))
      have h1 := hsum.out
      rw [List.drop_of_length_le (by omega), List.map_nil, List.flatMap_nil, List.append_nil] at h1
      exact h1
end Go.Proofs.YtgkefaojbdjnoaaDoor
