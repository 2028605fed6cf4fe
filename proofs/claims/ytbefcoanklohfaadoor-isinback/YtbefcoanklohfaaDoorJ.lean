/- Clone, the program's Land, the reference's Make and Land. Condition: none; Land: the text has at most 2 to the 63rd bytes. -/
import Derived.Test.YtbefcoanklohfaaDoorI
import Derived.WalkKit
import Derived.ProofKit
import Derived.Handy
import Derived.WalkLawsBesides
import Derived.WalkSpells
import Derived.BigQuiet
import Derived.BigCall
import Derived.Deep.QuietTactic
import Derived.Deep.Light
import Derived.Deep.OwnRows
import Derived.Laws.AppendOwnNone
import Derived.Laws.Strings3
import Derived.Laws.RangeAny
import Derived.Deep.RegionWith
import Derived.Lib.BitFns
import Derived.Lib.Walk
import Derived.Lib.Strings
import Derived.Lib.OthersKept
import Derived.Deep.CutBlock
import Derived.Deep.DeepCutAuto
import Derived.Deep.LoopGhost
import Derived.Deep.RegionHeld3
import Derived.Lib.SmallJoins
import Derived.Maps.AppendAt
import Derived.Laws.IdiomStrings
namespace Go.Proofs.YtbefcoanklohfaaDoor
open Go.RowKit
set_option linter.unusedVariables false
set_option linter.unusedSimpArgs false
def LB (a b : List UInt8) (n : Nat) (w : World) (e : Ending) (w' : World) : Prop := e = .returned (.tuple #[.string ⟨a.toArray⟩, .string ⟨b.toArray⟩, .int .i64 n]) ∧ Below w.heap.size w w'
theorem LB.mk {a b : List UInt8} {n : Nat} {s t : ByteArray} {y : Int} {w w' : World} (h : s.data.toList = a) (h2 : t.data.toList = b) (h3 : y = n) (hb : Below w.heap.size w w') : LB a b n w (.returned (.tuple #[.string s, .string t, .int .i64 y])) w' := ⟨by rw [← h, ← h2, h3], hb⟩
theorem xclone (s : ByteArray) (w : World) (hs : s.size ≤ 100) : Calls Tryd.prog 15 #[.string s] w fun e w' => e = .returned (.string s) ∧ Below w.heap.size w w' := by
  go_enter Tryd.func15, Tryd.ntmps15
  go_wp2_with fail
  refine (Tryd.stringslite_Clone s _ (by omega)).mono ?_
  rintro e w1 ⟨rfl, hb⟩
  go_wp2_with fail
  go_ret
  exact ⟨rfl, hb⟩
theorem ext_mid (s : ByteArray) (i j : Nat) : (s.extract i j).data.toList = (s.data.toList.drop i).take (j - i) := by
  simp only [ByteArray.data_extract, Array.toList_extract, List.extract_eq_take_drop]
theorem size_le {s : ByteArray} {l : List UInt8} (h : s.data.toList = l) : s.size = l.length := by
  rw [← h]
  rfl
theorem trim_len (l : List UInt8) : (trim l).length ≤ l.length := (List.dropWhile_sublist _).length_le
set_option maxHeartbeats 4000000 in
theorem xLand (s : ByteArray) (hs : s.size ≤ 9223372036854775807) (w : World) : Calls Tryd.prog 7 #[.string s] w (LB (landOf s.data.toList) (ownOf s.data.toList) (chk s.data.toList) w) := by
  have HC : Hid (∀ w, Calls Tryd.prog 10 #[.string s] w (NP .i64 (chk s.data.toList) w)) := fun w => xCheck s hs w
  by_cases h0 : chk s.data.toList = 0
  · have HLa : Hid (landOf s.data.toList = s.data.toList.take 2) := if_pos h0
    have HOw : Hid (ownOf s.data.toList = trim ((s.data.toList.drop 2).take 9)) := if_pos h0
    have hsz : s.size = 12 := by
      have h1 := (chk_ok.1 h0).1
      rw [shp_iff] at h1
      exact h1.1
    have h12 : (12 : Int) ≤ (s.size : Int) := by omega
    rw [h0] at HC ⊢
    have HTr : Hid (∀ w, Calls Tryd.prog 14 #[.string (s.extract 2 11), .string ⟨#[48]⟩] w fun e w' => e = .returned (.string ⟨(trim ((s.data.toList.drop 2).take 9)).toArray⟩) ∧ w' = w) := fun w => by
      have := Tryd.strings_TrimLeft_one (s.extract 2 11) 48 (by decide) w
      rw [ext_mid] at this
      exact this
    have hts : (⟨(trim ((s.data.toList.drop 2).take 9)).toArray⟩ : ByteArray).size ≤ 9 := by
      have h1 := trim_len ((s.data.toList.drop 2).take 9)
      rw [size_le (s := ⟨(trim ((s.data.toList.drop 2).take 9)).toArray⟩) rfl]
      rw [List.length_take] at h1
      show (trim ((s.data.toList.drop 2).take 9)).length ≤ 9
      omega
    have hls : (s.extract 0 2).size ≤ 12 := Nat.le_trans (ext_size s 2) (by omega)
    have HL2 : Hid ((s.extract 0 2).data.toList = s.data.toList.take 2) := ext_take s 2
    have HO2 : Hid ((⟨(trim ((s.data.toList.drop 2).take 9)).toArray⟩ : ByteArray).data.toList = trim ((s.data.toList.drop 2).take 9)) := rfl
    generalize (⟨(trim ((s.data.toList.drop 2).take 9)).toArray⟩ : ByteArray) = O at *
    clear h0 hsz
    go_enter Tryd.func7, Tryd.ntmps7
    go_wp2_with fail
    refine (HC.out _).mono ?_
    rintro e w1 ⟨rfl, rfl⟩
    go_wp2_with fail
    refine (HTr.out _).mono ?_
    rintro e w1 ⟨rfl, rfl⟩
    go_wp2_with fail
    refine (xclone (s.extract 0 2) _ (by omega)).mono ?_
    rintro e W1 ⟨rfl, hb1⟩
    have HB1 : Hid (Below w1.heap.size w1 W1) := hb1
    clear hb1
    go_wp2_with fail
    refine (xclone O _ (by omega)).mono ?_
    rintro e W2 ⟨rfl, hb2⟩
    have HB2 : Hid (Below w1.heap.size w1 W2) := HB1.out.trans (hb2.mono HB1.out.size)
    clear hb2
    go_wp2_with fail
    go_ret3
    exact LB.mk (by rw [HLa.out, HL2.out]) (by rw [HOw.out, HO2.out]) rfl HB2.out
  · have HLa : Hid (landOf s.data.toList = []) := if_neg h0
    have HOw : Hid (ownOf s.data.toList = []) := if_neg h0
    have hne : (((chk s.data.toList : Nat) : Int) != 0) = true := by rw [bne_iff_ne]; omega
    generalize chk s.data.toList = n at *
    clear h0
    go_enter Tryd.func7, Tryd.ntmps7
    go_wp2_with fail
    refine (HC.out _).mono ?_
    rintro e w1 ⟨rfl, rfl⟩
    go_wp2_with fail
    go_ret3
    exact LB.mk (by rw [HLa.out]) (by rw [HOw.out]) rfl (Below.refl _ _)
end Go.Proofs.YtbefcoanklohfaaDoor
