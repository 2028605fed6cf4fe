/- The program's Next. -/
import Derived.Test.YtpddddnjmklfdaaH
import Derived.Test.YtpddddnjmklfdaaShelf
import Derived.WalkKit
import Derived.ProofKit
import Derived.Handy
import Derived.WalkLawsBesides
import Derived.WalkSpells
import Derived.BigQuiet
import Derived.BigCall
import Derived.Deep.QuietTactic
import Derived.Deep.Light
import Derived.Deep.OwnRows
import Derived.Laws.AppendOwnNone
import Derived.Laws.Strings3
import Derived.Laws.RangeAny
import Derived.Deep.RegionWith
import Derived.Lib.BitFns
import Derived.Lib.Walk
import Derived.Lib.Strings
import Derived.Lib.OthersKept
import Derived.Deep.CutBlock
import Derived.Deep.DeepCutAuto
import Derived.Deep.LoopGhost
import Derived.Deep.RegionHeld3
import Derived.Lib.SmallJoins
import Derived.Maps.AppendAt
import Derived.Laws.IdiomStrings
import Derived.Lib.AppendZeros
import Derived.Deep.WholeRow
import Derived.Laws.BitsAllLaws
namespace Go.Proofs.Ytpddddnjmklfdaa
open Go.RowKit
set_option linter.unusedVariables false
set_option linter.unusedSimpArgs false
theorem ext_list (s : ByteArray) (a b : Nat) : (s.extract a b).data.toList = (s.data.toList.drop a).take (b - a) := by
  rw [ByteArray.data_extract, Array.toList_extract]
theorem ext_len (s : ByteArray) (a b : Nat) (h : b ≤ s.size) : (s.extract a b).size = b - a := by
  have h1 : (s.extract a b).size = (s.extract a b).data.toList.length := rfl
  rw [h1, ext_list, List.length_take, List.length_drop]
  show min (b - a) (s.size - a) = _
  omega
theorem drop_all (s : ByteArray) (a : Nat) : (s.extract a s.size).data.toList = s.data.toList.drop a := by
  rw [ext_list, List.take_of_length_le]
  rw [List.length_drop]
  exact Nat.le_refl _
set_option maxHeartbeats 4000000 in
theorem xclone (s : ByteArray) (hs : s.size ≤ 281474976710656) (w : World) : Calls Try.prog 29 #[.string s] w fun e w' => e = .returned (.string s) ∧ Below w.heap.size w w' := by
  have H : Hid (∀ w, Calls Try.prog 31 #[.string s] w fun e w' => e = .returned (.string s) ∧ Below w.heap.size w w') := fun w => Try.stringslite_Clone s w hs
  go_enter Try.func29, Try.ntmps29
  go_wp2_with fail
  refine (H.out _).mono ?_
  rintro e w1 ⟨rfl, hb⟩
  have HB : Hid (Below w.heap.size w w1) := hb
  clear hb
  go_wp2_with fail
  go_ret
  exact ⟨rfl, HB.out⟩
/-- A call answers a text and two numbers, and changes nothing that was there. -/
def TB (l : List UInt8) (n m : Nat) (w : World) (e : Ending) (w' : World) : Prop := e = .returned (.tuple #[.string ⟨l.toArray⟩, .int .i64 n, .int .i64 m]) ∧ Below w.heap.size w w'
theorem TB.mk {l : List UInt8} {n m : Nat} {s : ByteArray} {y z : Int} {w w' : World} (h : s.data.toList = l) (h2 : y = n) (h3 : z = m) (hb : Below w.heap.size w w') : TB l n m w (.returned (.tuple #[.string s, .int .i64 y, .int .i64 z])) w' := ⟨by rw [← h, h2, h3], hb⟩
theorem TB.no {l : List UInt8} {m : Nat} {z : Int} {w w' : World} (he : nextE l = m) (hm : m ≠ 0) (h3 : z = m) (hb : Below w.heap.size w w') : TB (nextL l) (nextN l) (nextE l) w (.returned (.tuple #[.string ⟨#[]⟩, .int .i64 0, .int .i64 z])) w' :=
  TB.mk (by rw [nextL_no (by rw [he]; exact hm)]) (by rw [nextN_no (by rw [he]; exact hm)]; rfl) (by rw [he, h3]) hb
set_option maxHeartbeats 4000000 in
theorem xnext (s : ByteArray) (hs : s.size ≤ 9223372036854775807) (w : World) : Calls Try.prog 17 #[.string s] w (TB (nextL s.data.toList) (nextN s.data.toList) (nextE s.data.toList) w) := by
  have HL : Hid (s.data.toList.length = s.size) := rfl
  have HT : Hid (∀ w, Calls Try.prog 27 #[.string s] w (BB (trn s.data.toList) w)) := fun w => xturned s hs w
  by_cases ht : trn s.data.toList = true
  · rw [ht] at HT
    by_cases h8 : s.size < 8
    · have h8z : (s.size : Int) < 8 := by omega
      have HE : Hid (nextE s.data.toList = 14) := nextE_short ht h8
      clear ht
      go_enter Try.func17, Try.ntmps17
      go_wp2_with fail
      refine (HT.out _).mono ?_
      rintro e w1 ⟨rfl, hb⟩
      have HB : Hid (Below w.heap.size w w1) := hb
      clear hb
      go_wp2_with fail
      go_ret3
      exact TB.no HE.out (by omega) rfl HB.out
    · have h8z : ¬ (s.size : Int) < 8 := by omega
      have HN : Hid (∀ w, Calls Try.prog 28 #[.string s] w fun e w' => e = .returned (.int .u32 (val4 s.data.toList)) ∧ ∃ n, w' = w.drewN n) := fun w => xnumber s (by omega) w
      have hnl := val4_lt s.data.toList
      by_cases hn : val4 s.data.toList ≤ 4096
      · have hnz : ¬ (4096 : Int) < ((val4 s.data.toList : Nat) : Int) := by omega
        by_cases hl : s.size < val4 s.data.toList + 12
        · have HE : Hid (nextE s.data.toList = 14) := nextE_few ht (by rw [HL.out]; omega) hn (by rw [HL.out]; exact hl)
          clear ht
          generalize val4 s.data.toList = n at *
          have hlz : (s.size : Int) < (n : Int) + 12 := by omega
          go_enter Try.func17, Try.ntmps17
          go_wp2_with fail
          refine (HT.out _).mono ?_
          rintro e w1 ⟨rfl, hb⟩
          have HB : Hid (Below w.heap.size w w1) := hb
          clear hb
          go_wp2_with fail
          refine (HN.out _).mono ?_
          rintro e w2 ⟨rfl, q, hq⟩
          have HB2 : Hid (Below w.heap.size w w2) := by unfold Hid; rw [hq]; exact bdrew HB.out _
          clear hq HB
          go_wp2_with fail
          go_ret3
          exact TB.no HE.out (by omega) rfl HB2.out
        · have HE : Hid (nextE s.data.toList = _) := nextE_all ht hn (by rw [HL.out]; omega)
          have e1 : (s.extract 8 (val4 s.data.toList + 8)).data.toList = (s.data.toList.drop 8).take (val4 s.data.toList) := by
            rw [ext_list]
            rfl
          have e2 := drop_all s (val4 s.data.toList + 8)
          have s1 := ext_len s 8 (val4 s.data.toList + 8) (by omega)
          have s2 := ext_len s (val4 s.data.toList + 8) s.size (Nat.le_refl _)
          have HS : Hid (∀ w, Calls Try.prog 14 #[.string (s.extract 8 (val4 s.data.toList + 8))] w (NP .u32 (sumN ((s.data.toList.drop 8).take (val4 s.data.toList))) w)) := fun w => by
            have := xsum (s.extract 8 (val4 s.data.toList + 8)) (by omega) w
            rw [e1] at this
            exact this
          have HM : Hid (∀ w, Calls Try.prog 28 #[.string (s.extract (val4 s.data.toList + 8) s.size)] w fun e w' => e = .returned (.int .u32 (val4 (s.data.toList.drop (val4 s.data.toList + 8)))) ∧ ∃ n, w' = w.drewN n) := fun w => by
            have := xnumber (s.extract (val4 s.data.toList + 8) s.size) (by omega) w
            rw [e2] at this
            exact this
          have HC : Hid (∀ w, Calls Try.prog 29 #[.string (s.extract 8 (val4 s.data.toList + 8))] w fun e w' => e = .returned (.string (s.extract 8 (val4 s.data.toList + 8))) ∧ Below w.heap.size w w') := fun w => xclone _ (by omega) w
          have h0 : nextE s.data.toList = 0 → nextL s.data.toList = (s.extract 8 (val4 s.data.toList + 8)).data.toList ∧ nextN s.data.toList = val4 s.data.toList + 12 := fun h => ⟨by rw [nextL_ok h, e1], nextN_ok h⟩
          have H0 : Hid (nextE s.data.toList = 0 → nextL s.data.toList = (s.extract 8 (val4 s.data.toList + 8)).data.toList ∧ nextN s.data.toList = val4 s.data.toList + 12) := h0
          have hv1 := val4_lt (s.data.toList.drop (val4 s.data.toList + 8))
          have hv2 := sumN_lt ((s.data.toList.drop 8).take (val4 s.data.toList))
          clear ht e1 e2 h0 s2
          generalize val4 (s.data.toList.drop (val4 s.data.toList + 8)) = p at *
          generalize sumN ((s.data.toList.drop 8).take (val4 s.data.toList)) = z at *
          generalize val4 s.data.toList = n at *
          have hlz : ¬ (s.size : Int) < (n : Int) + 12 := by omega
          go_enter Try.func17, Try.ntmps17
          go_wp2_with fail
          refine (HT.out _).mono ?_
          rintro e w1 ⟨rfl, hb⟩
          have HB : Hid (Below w.heap.size w w1) := hb
          clear hb
          go_wp2_with fail
          refine (HN.out _).mono ?_
          rintro e w2 ⟨rfl, q, hq⟩
          have HB2 : Hid (Below w.heap.size w w2) := by unfold Hid; rw [hq]; exact bdrew HB.out _
          clear hq HB
          go_wp2_with fail
          refine (HM.out _).mono ?_
          rintro e w3 ⟨rfl, q3, hq⟩
          have HB3 : Hid (Below w.heap.size w w3) := by unfold Hid; rw [hq]; exact bdrew HB2.out _
          clear hq HB2
          go_wp2_with fail
          refine (HS.out _).mono ?_
          rintro e w4 ⟨rfl, rfl⟩
          by_cases hpz : p = z
          · have hpb : ((p : Int) != (z : Int)) = false := by rw [hpz]; simp
            have HE0 : Hid (nextE s.data.toList = 0) := by
              have h1 := HE.out
              rw [if_pos hpz] at h1
              exact h1
            have HR := H0.out HE0.out
            have HR1 : Hid (nextL s.data.toList = (s.extract 8 (n + 8)).data.toList) := HR.1
            have HR2 : Hid (nextN s.data.toList = n + 12) := HR.2
            clear HR H0 HE hpz
            go_wp2_with fail
            refine (HC.out _).mono ?_
            rintro e w5 ⟨rfl, hb5⟩
            have HB5 : Hid (Below w.heap.size w w5) := HB3.out.trans (hb5.mono HB3.out.size)
            clear hb5
            go_wp2_with fail
            go_ret3
            exact TB.mk HR1.out.symm (by rw [HR2.out]; omega) (by rw [HE0.out]; rfl) HB5.out
          · have hpb : ((p : Int) != (z : Int)) = true := by rw [bne_iff_ne]; omega
            have HE0 : Hid (nextE s.data.toList = 15) := by
              have h1 := HE.out
              rw [if_neg hpz] at h1
              exact h1
            clear H0 HE hpz
            go_wp2_with fail
            go_ret3
            exact TB.no HE0.out (by omega) rfl HB3.out
      · have hnz : (4096 : Int) < ((val4 s.data.toList : Nat) : Int) := by omega
        have HE : Hid (nextE s.data.toList = 15) := nextE_great ht (by rw [HL.out]; omega) (by omega)
        clear ht
        generalize val4 s.data.toList = n at *
        go_enter Try.func17, Try.ntmps17
        go_wp2_with fail
        refine (HT.out _).mono ?_
        rintro e w1 ⟨rfl, hb⟩
        have HB : Hid (Below w.heap.size w w1) := hb
        clear hb
        go_wp2_with fail
        refine (HN.out _).mono ?_
        rintro e w2 ⟨rfl, q, hq⟩
        have HB2 : Hid (Below w.heap.size w w2) := by unfold Hid; rw [hq]; exact bdrew HB.out _
        clear hq HB
        go_wp2_with fail
        go_ret3
        exact TB.no HE.out (by omega) rfl HB2.out
  · have hf : trn s.data.toList = false := by simpa using ht
    rw [hf] at HT
    have HE : Hid (nextE s.data.toList = 15) := nextE_trn hf
    clear ht hf
    go_enter Try.func17, Try.ntmps17
    go_wp2_with fail
    refine (HT.out _).mono ?_
    rintro e w1 ⟨rfl, hb⟩
    have HB : Hid (Below w.heap.size w w1) := hb
    clear hb
    go_wp2_with fail
    go_ret3
    exact TB.no HE.out (by omega) rfl HB.out
end Go.Proofs.Ytpddddnjmklfdaa
