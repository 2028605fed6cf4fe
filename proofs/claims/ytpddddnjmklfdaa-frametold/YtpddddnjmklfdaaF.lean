/- The reference's four and Put. -/
import Derived.Test.YtpddddnjmklfdaaE
import Derived.WalkKit
import Derived.ProofKit
import Derived.Handy
import Derived.WalkLawsBesides
import Derived.WalkSpells
import Derived.BigQuiet
import Derived.BigCall
import Derived.Deep.QuietTactic
import Derived.Deep.Light
import Derived.Deep.OwnRows
import Derived.Laws.AppendOwnNone
import Derived.Laws.Strings3
import Derived.Laws.RangeAny
import Derived.Deep.RegionWith
import Derived.Lib.BitFns
import Derived.Lib.Walk
import Derived.Lib.Strings
import Derived.Lib.OthersKept
import Derived.Deep.CutBlock
import Derived.Deep.DeepCutAuto
import Derived.Deep.LoopGhost
import Derived.Deep.RegionHeld3
import Derived.Lib.SmallJoins
import Derived.Maps.AppendAt
import Derived.Laws.IdiomStrings
import Derived.Lib.AppendZeros
import Derived.Deep.WholeRow
import Derived.Laws.BitsAllLaws
namespace Go.Proofs.Ytpddddnjmklfdaa
open Go.RowKit
set_option linter.unusedVariables false
set_option linter.unusedSimpArgs false
theorem str_of {w : World} {l : List UInt8} {b cap : Nat} (hb : w.heap[b]? = some (.cells (Lib.byteCells l).toArray 5 (0, 0))) : (convert 48 9 (Value.slice (some ⟨b, 0, none⟩) l.length cap)).run Try.prog w = .ok (.string ⟨l.toArray⟩) w := by
  refine run_convert_bytes_back w 48 9 5 ⟨b, 0, none⟩ cap l Try.underlying48 Try.underlying5 Try.underlying9 ?_
  intro j hj
  have ha : (⟨b, 0, none⟩ : Addr).add j = ⟨b, j, none⟩ := by
    cases j <;> simp [Addr.add]
  rw [ha]
  simp [World.cell?, hb, Lib.byteCells, hj]
theorem str_new (w : World) (l : List UInt8) (cap : Nat) : (convert 48 9 (Value.slice (some ⟨w.heap.size, 0, none⟩) l.length cap)).run Try.prog (w.alloc (.cells (Lib.byteCells l).toArray 5)) = .ok (.string ⟨l.toArray⟩) (w.alloc (.cells (Lib.byteCells l).toArray 5)) := str_of (heap_alloc_new w _)
theorem below_new (w : World) (o : Obj) : Below w.heap.size w (w.alloc o) := (Below.refl _ w).alloc (Nat.le_refl _) _
/-- A call answers a text, and changes nothing that was there. -/
def SB (l : List UInt8) (w : World) (e : Ending) (w' : World) : Prop := e = .returned (.string ⟨l.toArray⟩) ∧ Below w.heap.size w w'
theorem SB.mk {l : List UInt8} {s : ByteArray} {w w' : World} (h : s.data.toList = l) (hb : Below w.heap.size w w') : SB l w (.returned (.string s)) w' := ⟨by rw [← h], hb⟩
theorem four_cells (n : Nat) (h : n < 4294967296) : (Lib.byteCells (four n)).toArray = #[.int .u8 ((n : Int) % 256), .int .u8 ((n : Int) / 256 % 256), .int .u8 ((n : Int) / 65536 % 256), .int .u8 ((n : Int) / 16777216)] := by
  simp only [four, Lib.byteCells, List.map, u8n _ (show n % 256 < 256 by omega), u8n _ (show n / 256 % 256 < 256 by omega), u8n _ (show n / 65536 % 256 < 256 by omega), u8n _ (show n / 16777216 % 256 < 256 by omega)]
  rw [show ((n % 256 : Nat) : Int) = (n : Int) % 256 by omega, show ((n / 256 % 256 : Nat) : Int) = (n : Int) / 256 % 256 by omega, show ((n / 65536 % 256 : Nat) : Int) = (n : Int) / 65536 % 256 by omega, show ((n / 16777216 % 256 : Nat) : Int) = (n : Int) / 16777216 by omega]
set_option maxHeartbeats 4000000 in
theorem rfour (n : Nat) (hn : n < 4294967296) (w : World) : Calls Try.prog 23 #[.int .u32 n] w (SB (four n) w) := by
  have hcv := str_new w (four n) 4
  rw [four_cells n hn, four_len] at hcv
  have HB : Hid (Below w.heap.size w (w.alloc (.cells #[.int .u8 ((n : Int) % 256), .int .u8 ((n : Int) / 256 % 256), .int .u8 ((n : Int) / 65536 % 256), .int .u8 ((n : Int) / 16777216)] 5))) := below_new w _
  have hs : Hid (four n = (⟨(four n).toArray⟩ : ByteArray).data.toList) := rfl
  generalize (⟨(four n).toArray⟩ : ByteArray) = S at *
  go_enter Try.func23, Try.ntmps23
  go_wp2_with fail
  go_ret
  exact SB.mk hs.out.symm HB.out
theorem rfourZ (z : Int) (n : Nat) (hz : z = n) (hn : n < 4294967296) (w : World) : Calls Try.prog 23 #[.int .u32 z] w (SB (four n) w) := by
  subst hz
  exact rfour n hn w
/-- A call answers a text and a number, and changes nothing that was there. -/
def MB (l : List UInt8) (n : Nat) (w : World) (e : Ending) (w' : World) : Prop := e = .returned (.tuple #[.string ⟨l.toArray⟩, .int .i64 n]) ∧ Below w.heap.size w w'
theorem MB.mk {l : List UInt8} {n : Nat} {s : ByteArray} {y : Int} {w w' : World} (h : s.data.toList = l) (h2 : y = n) (hb : Below w.heap.size w w') : MB l n w (.returned (.tuple #[.string s, .int .i64 y])) w' := ⟨by rw [← h, h2], hb⟩
theorem put_yes {l : List UInt8} (h : l.length ≤ 4096) : put l = putL l := if_pos h
theorem putE_yes {l : List UInt8} (h : l.length ≤ 4096) : putE l = 0 := if_pos h
theorem put_no {l : List UInt8} (h : ¬ l.length ≤ 4096) : put l = [] := if_neg h
theorem putE_no {l : List UInt8} (h : ¬ l.length ≤ 4096) : putE l = 2 := if_neg h
theorem app_l (a b : ByteArray) : (a ++ b).data.toList = a.data.toList ++ b.data.toList := by rw [ByteArray.data_append, Array.toList_append]
set_option maxHeartbeats 4000000 in
theorem rput (s : ByteArray) (w : World) : Calls Try.prog 11 #[.string s] w (MB (put s.data.toList) (putE s.data.toList) w) := by
  have HL : Hid (s.data.toList.length = s.size) := rfl
  by_cases h : s.size ≤ 4096
  · have hz : ¬ (4096 : Int) < (s.size : Int) := by omega
    have HA : Hid (put s.data.toList = putL s.data.toList) := put_yes h
    have HE : Hid (putE s.data.toList = 0) := putE_yes h
    have hsl := sumN_lt s.data.toList
    have HS : Hid (∀ w, Calls Try.prog 15 #[.string s] w (NP .u32 (sumN s.data.toList) w)) := fun w => rsum s (by omega) w
    have H1 : Hid (∀ w, Calls Try.prog 23 #[.int .u32 (s.size : Int)] w (SB (four s.size) w)) := fun w => rfour _ (by omega) w
    have H2 : Hid (∀ w, Calls Try.prog 23 #[.int .u32 (4294967295 - (s.size : Int))] w (SB (four (4294967295 - s.size)) w)) := fun w => rfourZ _ _ (by omega) (by omega) w
    have H3 : Hid (∀ w, Calls Try.prog 23 #[.int .u32 (sumN s.data.toList : Int)] w (SB (four (sumN s.data.toList)) w)) := fun w => rfour _ (by omega) w
    have HP : Hid (putL s.data.toList = four s.size ++ (four (4294967295 - s.size) ++ (s.data.toList ++ four (sumN s.data.toList)))) := rfl
    unfold SB at H1 H2 H3
    obtain ⟨A, hA⟩ : ∃ A, A = four s.size := ⟨_, rfl⟩
    obtain ⟨B, hB⟩ : ∃ B, B = four (4294967295 - s.size) := ⟨_, rfl⟩
    obtain ⟨C, hC⟩ : ∃ C, C = four (sumN s.data.toList) := ⟨_, rfl⟩
    rw [← hA, ← hB, ← hC] at HP
    rw [← hA] at H1
    rw [← hB] at H2
    rw [← hC] at H3
    have hAs : (⟨A.toArray⟩ : ByteArray).size = 4 := by rw [hA]; rfl
    have hBs : (⟨B.toArray⟩ : ByteArray).size = 4 := by rw [hB]; rfl
    have hCs : (⟨C.toArray⟩ : ByteArray).size = 4 := by rw [hC]; rfl
    clear hA hB hC
    have HP2 : Hid (((((⟨A.toArray⟩ : ByteArray) ++ ⟨B.toArray⟩) ++ s) ++ ⟨C.toArray⟩).data.toList = putL s.data.toList) := by
      unfold Hid
      rw [HP.out, app_l, app_l, app_l, List.append_assoc, List.append_assoc]
    clear HP
    generalize (⟨A.toArray⟩ : ByteArray) = A at *
    generalize (⟨B.toArray⟩ : ByteArray) = B at *
    generalize (⟨C.toArray⟩ : ByteArray) = C at *
    generalize sumN s.data.toList = t at *
    go_enter Try.func11, Try.ntmps11
    go_wp2_with fail
    refine (H1.out _).mono ?_
    rintro e w1 ⟨rfl, hb1⟩
    have HB1 : Hid (Below w.heap.size w w1) := hb1
    clear hb1
    go_wp2_with fail
    refine (H2.out _).mono ?_
    rintro e w2 ⟨rfl, hb2⟩
    have HB2 : Hid (Below w.heap.size w w2) := HB1.out.trans (hb2.mono HB1.out.size)
    clear hb2
    go_wp2_with fail
    refine (HS.out _).mono ?_
    rintro e w2 ⟨rfl, rfl⟩
    go_wp2_with fail
    refine (H3.out _).mono ?_
    rintro e w3 ⟨rfl, hb3⟩
    have HB3 : Hid (Below w.heap.size w w3) := HB2.out.trans (hb3.mono HB2.out.size)
    clear hb3
    go_wp2_with fail
    go_ret2
    exact MB.mk (by rw [HA.out]; exact HP2.out) (by rw [HE.out]; rfl) HB3.out
  · have hz : (4096 : Int) < (s.size : Int) := by omega
    have HA : Hid (put s.data.toList = []) := put_no h
    have HE : Hid (putE s.data.toList = 2) := putE_no h
    go_enter Try.func11, Try.ntmps11
    go_wp2_with fail
    go_ret2
    exact MB.mk (by rw [HA.out]) (by rw [HE.out]; rfl) (Below.refl _ _)
end Go.Proofs.Ytpddddnjmklfdaa
