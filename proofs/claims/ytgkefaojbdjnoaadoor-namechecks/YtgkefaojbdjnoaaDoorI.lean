/- The walks of Clone and Cut. Condition: the text has at most 2 to the 47th bytes. -/
import Derived.Test.YtgkefaojbdjnoaaDoorH
import Derived.WalkKit
import Derived.ProofKit
import Derived.Handy
import Derived.WalkLawsBesides
import Derived.WalkSpells
import Derived.BigQuiet
import Derived.BigCall
import Derived.Deep.QuietTactic
import Derived.Deep.Light
import Derived.Deep.OwnRows
import Derived.Laws.AppendOwnNone
import Derived.Laws.Strings3
import Derived.Laws.RangeAny
import Derived.Deep.RegionWith
import Derived.Lib.BitFns
import Derived.Lib.Walk
import Derived.Lib.Strings
import Derived.Lib.OthersKept
import Derived.Deep.CutBlock
import Derived.Deep.DeepCutAuto
import Derived.Deep.LoopGhost
import Derived.Deep.RegionHeld3
import Derived.Lib.SmallJoins
import Derived.Maps.AppendAt
import Derived.Laws.IdiomStrings
namespace Go.Proofs.YtgkefaojbdjnoaaDoor
open Go.RowKit
set_option linter.unusedVariables false
set_option linter.unusedSimpArgs false
theorem ext_take (s : ByteArray) (e : Nat) : (s.extract 0 e).data.toList = s.data.toList.take e := by
  simp [ByteArray.data_extract]
theorem ext_size (s : ByteArray) (e : Nat) : (s.extract 0 e).size ≤ s.size := by
  simp [ByteArray.size_extract]
  omega
def STB (l : List UInt8) (w : World) (e : Ending) (w' : World) : Prop := e = .returned (.string ⟨l.toArray⟩) ∧ Below w.heap.size w w'
theorem STB.mk {l : List UInt8} {s : ByteArray} {w w' : World} (h : s.data.toList = l) (hb : Below w.heap.size w w') : STB l w (.returned (.string s)) w' := ⟨by rw [← h], hb⟩
theorem xclone (s : ByteArray) (w : World) (hs : s.size ≤ 140737488355328) : Calls Tryd.prog 37 #[.string s] w fun e w' => e = .returned (.string s) ∧ Below w.heap.size w w' := by
  go_enter Tryd.func37, Tryd.ntmps37
  go_wp2_with fail
  refine (Tryd.stringslite_Clone s _ (by omega)).mono ?_
  rintro e w1 ⟨rfl, hb⟩
  go_wp2
  go_ret
  exact ⟨rfl, hb⟩
set_option maxHeartbeats 4000000 in
theorem xcut (s : ByteArray) (hs : s.size ≤ 140737488355328) (n : Int) (hn0 : -9223372036854775808 ≤ n) (hn1 : n ≤ 9223372036854775807) (w : World) : Calls Tryd.prog 17 #[.string s, .int .i64 n] w (STB (cut s.data.toList n) w) := by
  have HL : Hid (s.data.toList.length = s.size) := rfl
  go_enter Tryd.func17, Tryd.ntmps17
  go_wp2
  go_loopw [1] (fun v w' => ∃ (pos : Nat) (m : Int), w' = w.iter s pos ∧ v = .int .i64 m ∧ Hid (s.data.toList.take (cutG s.data.toList.length (ps s.data.toList pos) m) = cut s.data.toList n) ∧ m ≤ 9223372036854775807 ∧ -9223372036854775808 ≤ m) (fun _ w' => s.size - w'.iterPos w.heap.size)
  case atStart => exact ⟨0, n, rfl, rfl, rfl, hn1, hn0⟩
  case round =>
    obtain ⟨pos, m, rfl, rfl, hc, hm1, hm0⟩ := hrel
    by_cases hp : pos < s.size
    · have hnx : ∀ ty, (Instr.next (.pointer (some ⟨w.heap.size, 0, none⟩)) true ty).run Tryd.prog (w.iter s pos) = _ := fun ty => next_D w s pos ty hp
      have hwd := D_pos s.data.toList pos
      have Hst : Hid (ps s.data.toList pos = pos :: ps s.data.toList (pos + (D s.data.toList pos).2.1)) := ps_step (by rw [HL.out]; exact hp)
      generalize (D s.data.toList pos).2.1 = k at *
      generalize (D s.data.toList pos).1 = c at *
      by_cases hn : m < 1
      · go_wp2_with fail
        refine (xclone (s.extract 0 pos) _ (Nat.le_trans (ext_size s pos) hs)).mono ?_
        rintro e w1 ⟨rfl, hb⟩
        go_wp2
        go_ret
        refine STB.mk ?_ ((below_iter w s _).trans (hb.mono (by simp [World.iter])))
        have h1 := hc.out
        rw [Hst.out, cutG, if_pos hn] at h1
        rw [ext_take]
        exact h1
      · go_wp2_with fail
        go_roundw
        case rel =>
          refine ⟨pos + k, m - 1, rfl, by go_num, ?_, by omega, by omega⟩
          have h1 := hc.out
          rw [Hst.out, cutG, if_neg (by omega)] at h1
          exact h1
        case measure =>
          simp
          omega
    · have hnx : ∀ ty, (Instr.next (.pointer (some ⟨w.heap.size, 0, none⟩)) true ty).run Tryd.prog (w.iter s pos) = _ := fun ty => run_next_end w s pos ty hp
      go_wp2_with fail
      refine (xclone s _ hs).mono ?_
      rintro e w1 ⟨rfl, hb⟩
      go_wp2
      go_ret
      refine STB.mk ?_ ((below_iter w s pos).trans (hb.mono (by simp [World.iter])))
      have h1 := hc.out
      rw [ps_end (by rw [HL.out]; omega), cutG, List.take_length] at h1
      exact h1
end Go.Proofs.YtgkefaojbdjnoaaDoor
