/- The program's walks over a text, sign by sign: Count, Width, head. Condition: the text has at most 2 to the 47th bytes. -/
import Derived.Test.YtgkefaojbdjnoaaDoorF
import Derived.WalkKit
import Derived.ProofKit
import Derived.Handy
import Derived.WalkLawsBesides
import Derived.WalkSpells
import Derived.BigQuiet
import Derived.BigCall
import Derived.Deep.QuietTactic
import Derived.Deep.Light
import Derived.Deep.OwnRows
import Derived.Laws.AppendOwnNone
import Derived.Laws.Strings3
import Derived.Laws.RangeAny
import Derived.Deep.RegionWith
import Derived.Lib.BitFns
import Derived.Lib.Walk
import Derived.Lib.Strings
import Derived.Lib.OthersKept
import Derived.Deep.CutBlock
import Derived.Deep.DeepCutAuto
import Derived.Deep.LoopGhost
import Derived.Deep.RegionHeld3
import Derived.Lib.SmallJoins
import Derived.Maps.AppendAt
import Derived.Laws.IdiomStrings
namespace Go.Proofs.YtgkefaojbdjnoaaDoor
open Go.RowKit
set_option linter.unusedVariables false
set_option linter.unusedSimpArgs false
def NB (n : Int) (w : World) (e : Ending) (w' : World) : Prop := e = .returned (.int .i64 n) ∧ Below w.heap.size w w'
theorem NB.mk {n m : Int} {w w' : World} (h : m = n) (hb : Below w.heap.size w w') : NB n w (.returned (.int .i64 m)) w' := ⟨by rw [h], hb⟩
theorem next_D (w : World) (s : ByteArray) (pos : Nat) (ty : TypeId) (h : pos < s.size) :
    (Instr.next (.pointer (some ⟨w.heap.size, 0, none⟩)) true ty).run Tryd.prog (w.iter s pos) =
      .ok (.tuple #[.bool true, .int .i64 pos, .int .i32 (D s.data.toList pos).1]) (w.iter s (pos + (D s.data.toList pos).2.1)) := by
  rw [run_next_any w s pos ty h, decode_dg]
theorem below_iter (w : World) (s : ByteArray) (pos : Nat) : Below w.heap.size w (w.iter s pos) := (Below.refl _ w).alloc (Nat.le_refl _) _

set_option maxHeartbeats 4000000 in
theorem xcount (s : ByteArray) (hs : s.size ≤ 140737488355328) (w : World) : Calls Tryd.prog 14 #[.string s] w (NB (cs s.data.toList 0).length w) := by
  have hl : s.data.toList.length = s.size := rfl
  have HL : Hid (s.data.toList.length = s.size) := hl
  clear hl
  go_enter Tryd.func14, Tryd.ntmps14
  go_wp2
  go_loopw [3] (fun n w' => ∃ (pos acc : Nat), w' = w.iter s pos ∧ n = .int .i64 acc ∧ Hid (acc + (cs s.data.toList pos).length = (cs s.data.toList 0).length) ∧ acc ≤ pos) (fun _ w' => s.size - w'.iterPos w.heap.size)
  case atStart => exact ⟨0, 0, rfl, rfl, by unfold Hid; omega, Nat.le_refl _⟩
  case round =>
    obtain ⟨pos, acc, rfl, rfl, hc, ha⟩ := hrel
    by_cases hp : pos < s.size
    · have hnx : ∀ ty, (Instr.next (.pointer (some ⟨w.heap.size, 0, none⟩)) true ty).run Tryd.prog (w.iter s pos) = _ := fun ty => next_D w s pos ty hp
      have hwd := D_pos s.data.toList pos
      have Hst : Hid (cs s.data.toList pos = (D s.data.toList pos).1 :: cs s.data.toList (pos + (D s.data.toList pos).2.1)) := cs_step (by rw [HL.out]; exact hp)
      generalize (D s.data.toList pos).2.1 = k at *
      generalize (D s.data.toList pos).1 = c at *
      go_wp2
      go_roundw
      case rel =>
        refine ⟨pos + k, acc + 1, rfl, by go_num, ?_, by omega⟩
        have h1 := hc.out
        rw [Hst.out, List.length_cons] at h1
        unfold Hid
        omega
      case measure =>
        simp
        omega
    · have hnx : ∀ ty, (Instr.next (.pointer (some ⟨w.heap.size, 0, none⟩)) true ty).run Tryd.prog (w.iter s pos) = _ := fun ty => run_next_end w s pos ty hp
      go_wp2
      go_ret
      refine NB.mk ?_ (below_iter w s pos)
      have h1 := hc.out
      rw [cs_end (by rw [HL.out]; omega)] at h1
      simp at h1
      omega
set_option maxHeartbeats 4000000 in
theorem xwidth (s : ByteArray) (hs : s.size ≤ 140737488355328) (w : World) : Calls Tryd.prog 15 #[.string s] w (NB (width s.data.toList) w) := by
  have HL : Hid (s.data.toList.length = s.size) := rfl
  go_enter Tryd.func15, Tryd.ntmps15
  go_wp2
  go_loopw [3] (fun n w' => ∃ (pos acc : Nat), w' = w.iter s pos ∧ n = .int .i64 acc ∧ Hid (acc + wds (cs s.data.toList pos) = width s.data.toList) ∧ acc ≤ 2 * pos) (fun _ w' => s.size - w'.iterPos w.heap.size)
  case atStart => exact ⟨0, 0, rfl, rfl, by unfold Hid width; omega, Nat.le_refl _⟩
  case round =>
    obtain ⟨pos, acc, rfl, rfl, hc, ha⟩ := hrel
    by_cases hp : pos < s.size
    · have hnx : ∀ ty, (Instr.next (.pointer (some ⟨w.heap.size, 0, none⟩)) true ty).run Tryd.prog (w.iter s pos) = _ := fun ty => next_D w s pos ty hp
      have hwd := D_pos s.data.toList pos
      have hv := (D_V s.data.toList pos).le
      have Hst : Hid (cs s.data.toList pos = (D s.data.toList pos).1 :: cs s.data.toList (pos + (D s.data.toList pos).2.1)) := cs_step (by rw [HL.out]; exact hp)
      generalize (D s.data.toList pos).2.1 = k at *
      generalize (D s.data.toList pos).1 = c at *
      have hw := wd_le c
      go_wp2_with (go_at_call 35; refine (xcolumns c hv _).mono ?_; rintro e w1 ⟨rfl, rfl⟩)
      go_roundw
      case rel =>
        refine ⟨pos + k, acc + wd c, rfl, by go_num, ?_, by omega⟩
        have h1 := hc.out
        rw [Hst.out, wds] at h1
        unfold Hid
        omega
      case measure =>
        simp
        omega
    · have hnx : ∀ ty, (Instr.next (.pointer (some ⟨w.heap.size, 0, none⟩)) true ty).run Tryd.prog (w.iter s pos) = _ := fun ty => run_next_end w s pos ty hp
      go_wp2
      go_ret
      refine NB.mk ?_ (below_iter w s pos)
      have h1 := hc.out
      rw [cs_end (by rw [HL.out]; omega), wds] at h1
      omega

def TB (x : Nat × Nat) (w : World) (e : Ending) (w' : World) : Prop := e = .returned (.tuple #[.int .i64 x.1, .int .i64 x.2]) ∧ Below w.heap.size w w'
theorem TB.mk {x : Nat × Nat} {a b : Int} {w w' : World} (h : a = x.1) (h2 : b = x.2) (hb : Below w.heap.size w w') : TB x w (.returned (.tuple #[.int .i64 a, .int .i64 b])) w' := ⟨by rw [h, h2], hb⟩
set_option maxHeartbeats 4000000 in
theorem xhead (s : ByteArray) (hs : s.size ≤ 140737488355328) (m : Nat) (hm : m ≤ 4096) (w : World) : Calls Tryd.prog 38 #[.string s, .int .i64 m] w (TB (hd s.data.toList m) w) := by
  have HL : Hid (s.data.toList.length = s.size) := rfl
  go_enter Tryd.func38, Tryd.ntmps38
  go_wp2
  go_loopw [5] (fun n w' => ∃ (pos acc : Nat), w' = w.iter s pos ∧ n = .int .i64 acc ∧ Hid (hdG s.data.toList.length m (sg s.data.toList pos) acc = hd s.data.toList m) ∧ acc ≤ m) (fun _ w' => s.size - w'.iterPos w.heap.size)
  case atStart => exact ⟨0, 0, rfl, rfl, rfl, Nat.zero_le _⟩
  case round =>
    obtain ⟨pos, acc, rfl, rfl, hc, ha⟩ := hrel
    by_cases hp : pos < s.size
    · have hnx : ∀ ty, (Instr.next (.pointer (some ⟨w.heap.size, 0, none⟩)) true ty).run Tryd.prog (w.iter s pos) = _ := fun ty => next_D w s pos ty hp
      have hwd := D_pos s.data.toList pos
      have hv := (D_V s.data.toList pos).le
      have Hst : Hid (sg s.data.toList pos = (pos, (D s.data.toList pos).1, (D s.data.toList pos).2.2) :: sg s.data.toList (pos + (D s.data.toList pos).2.1)) := sg_step (by rw [HL.out]; exact hp)
      generalize (D s.data.toList pos).2.1 = k at *
      generalize (D s.data.toList pos).1 = c at *
      have hw := wd_le c
      by_cases hn : m < acc + wd c
      · have hn' : (m : Int) < (acc : Int) + (wd c : Int) := by omega
        have HN : Hid (m < acc + wd c) := hn
        clear hn
        go_wp2_with (go_at_call 35; refine (xcolumns c hv _).mono ?_; rintro e w1 ⟨rfl, rfl⟩)
        go_ret2
        have h1 := hc.out
        rw [Hst.out, hdG, if_pos HN.out] at h1
        exact TB.mk (by rw [← h1]) (by rw [← h1]) (below_iter w s _)
      · have hn' : ¬ (m : Int) < (acc : Int) + (wd c : Int) := by omega
        have HN : Hid (¬ m < acc + wd c) := hn
        clear hn
        go_wp2_with (go_at_call 35; refine (xcolumns c hv _).mono ?_; rintro e w1 ⟨rfl, rfl⟩)
        go_roundw
        case rel =>
          refine ⟨pos + k, acc + wd c, rfl, by go_num, ?_, by have := HN.out; omega⟩
          have h1 := hc.out
          rw [Hst.out, hdG, if_neg HN.out] at h1
          exact h1
        case measure =>
          simp
          omega
    · have hnx : ∀ ty, (Instr.next (.pointer (some ⟨w.heap.size, 0, none⟩)) true ty).run Tryd.prog (w.iter s pos) = _ := fun ty => run_next_end w s pos ty hp
      go_wp2
      go_ret2
      have h1 := hc.out
      rw [sg_end (by rw [HL.out]; omega), hdG] at h1
      exact TB.mk (by rw [← h1]; rfl) (by rw [← h1]) (below_iter w s _)
end Go.Proofs.YtgkefaojbdjnoaaDoor
