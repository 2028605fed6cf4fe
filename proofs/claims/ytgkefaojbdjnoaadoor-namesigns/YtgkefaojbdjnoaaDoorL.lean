/- The walks of Fold, plain and Plain. -/
import Derived.Test.YtgkefaojbdjnoaaDoorK
import Derived.WalkKit
import Derived.ProofKit
import Derived.Handy
import Derived.WalkLawsBesides
import Derived.WalkSpells
import Derived.BigQuiet
import Derived.BigCall
import Derived.Deep.QuietTactic
import Derived.Deep.Light
import Derived.Deep.OwnRows
import Derived.Laws.AppendOwnNone
import Derived.Laws.Strings3
import Derived.Laws.RangeAny
import Derived.Deep.RegionWith
import Derived.Lib.BitFns
import Derived.Lib.Walk
import Derived.Lib.Strings
import Derived.Lib.OthersKept
import Derived.Deep.CutBlock
import Derived.Deep.DeepCutAuto
import Derived.Deep.LoopGhost
import Derived.Deep.RegionHeld3
import Derived.Lib.SmallJoins
import Derived.Maps.AppendAt
import Derived.Laws.IdiomStrings
namespace Go.Proofs.YtgkefaojbdjnoaaDoor
open Go.RowKit
set_option linter.unusedVariables false
set_option linter.unusedSimpArgs false
theorem next_at (w : World) (k : Nat) (s : ByteArray) (pos : Nat) (ty : TypeId) (hk : w.heap[k]? = some (.stringIter s pos)) (h : pos < s.size) :
    (Instr.next (.pointer (some ⟨k, 0, none⟩)) true ty).run Tryd.prog w =
      .ok (.tuple #[.bool true, .int .i64 pos, .int .i32 (D s.data.toList pos).1]) (w.iterAt k s (pos + (D s.data.toList pos).2.1)) := by
  rw [Lib.run_next_any_at w k s pos ty hk h, decode_dg]
theorem lows_step {l : List UInt8} {p : Nat} (h : p < l.length) : lows l p = low (D l p).1 :: lows l (p + (D l p).2.1) := by
  unfold lows
  rw [cs_step h]
  rfl
theorem lows_end {l : List UInt8} {p : Nat} (h : l.length ≤ p) : lows l p = [] := by
  unfold lows
  rw [cs_end h]
  rfl
set_option maxHeartbeats 4000000 in
set_option maxRecDepth 1000000 in
theorem xfold (s : ByteArray) (w : World) (hs : s.size ≤ 17592186044416) : Calls Tryd.prog 21 #[.string s] w (STB (fold s.data.toList) w) := by
  have HL : Hid (s.data.toList.length = s.size) := rfl
  go_enter Tryd.func21, Tryd.ntmps21
  go_wp2
  go_loopw [] (fun wr => ∃ (pos : Nat) (acc : List UInt8), Hid (Lib.IsBuilderF 52 5 w.heap.size w.heap.size (Lib.byteCells acc) wr) ∧ Hid (wr.heap[w.heap.size + 1]? = some (.stringIter s pos)) ∧ Hid (Below w.heap.size w wr) ∧ Hid (acc ++ (lows s.data.toList pos).flatMap enc = fold s.data.toList) ∧ acc.length ≤ 4 * pos) (fun wr => s.size - wr.iterPos (w.heap.size + 1))
  case atStart =>
    refine ⟨0, [], (Lib.IsBuilderF.of (Lib.fresh_isBuilder 52 5 w)).alloc _, ?_, ((Below.refl _ w).alloc (Nat.le_refl _) _).alloc (by simp) _, rfl, by simp⟩
    have := World.iter_heap (w.alloc (.cells #[.pointer none, .slice none 0 0] 52)) s 0
    unfold Hid
    simpa using this
  case round =>
    obtain ⟨pos, acc, hI, hit, hbw, hacc, hal⟩ := hrel
    have hsz : w.heap.size + 1 < wr.heap.size := (Array.getElem?_eq_some_iff.1 hit.out).1
    by_cases hp : pos < s.size
    · have hnx : ∀ ty, (Instr.next (.pointer (some ⟨w.heap.size + 1, 0, none⟩)) true ty).run Tryd.prog wr = _ := fun ty => next_at wr (w.heap.size + 1) s pos ty hit.out hp
      have hwd := D_pos s.data.toList pos
      have hv := (D_V s.data.toList pos).le
      have Hst : Hid (lows s.data.toList pos = low (D s.data.toList pos).1 :: lows s.data.toList (pos + (D s.data.toList pos).2.1)) := lows_step (by rw [HL.out]; exact hp)
      have hI2 : Hid _ := hI.out.iterAt hit.out (pos + (D s.data.toList pos).2.1)
      have hit2 : Hid _ := Lib.iterAt_heap wr (w.heap.size + 1) s pos (pos + (D s.data.toList pos).2.1) hit.out
      have hbw2 : Hid _ := Lib.below_iterAt hbw.out (k := w.heap.size + 1) (by omega) s (pos + (D s.data.toList pos).2.1)
      have hsz2 : Hid (w.heap.size ≤ (wr.iterAt (w.heap.size + 1) s (pos + (D s.data.toList pos).2.1)).heap.size) := by unfold Hid; rw [Lib.iterAt_size]; omega
      have hlow := (low_V (D_V s.data.toList pos)).le
      generalize (D s.data.toList pos).2.1 = k at *
      generalize (D s.data.toList pos).1 = c at *
      go_wp2_with (first | (go_at_call 42; refine (xsmall c hv _).mono ?_; rintro e w1 ⟨rfl, rfl⟩) | (go_at_call 41; refine (Tryd.Builder_WriteRune_k w.heap.size w.heap.size _ _ (by omega) (by omega) _ hI2.out (by rw [Lib.byteCells_length]; omega) hsz2.out).mono ?_))
      rintro e W1 ⟨rfl, h1, b1, k1⟩
      go_wp2
      go_roundw
      case rel =>
        have hl4 := enc_len (low c)
        refine ⟨pos + k, acc ++ enc (low c), ?_, k1.iter hit2.out (by omega), hbw2.out.trans b1, ?_, by simp; omega⟩
        · unfold Hid
          rw [Lib.byteCells_append, enc, Lib.byteCells_encodeRune]; exact Or.inr h1
        · have h2 := hacc.out
          rw [Hst.out, List.flatMap_cons, ← List.append_assoc] at h2
          exact h2
      case measure =>
        simp only [World.iterPos, k1.iter hit2.out (by omega), hit.out]
        omega
    · have hnx : ∀ ty, (Instr.next (.pointer (some ⟨w.heap.size + 1, 0, none⟩)) true ty).run Tryd.prog wr = _ := fun ty => Lib.run_next_end_at wr (w.heap.size + 1) s pos ty hit.out hp
      go_wp2_with (go_at_call 43; refine (Tryd.Builder_String_any_k w.heap.size w.heap.size acc _ hI.out (by omega)).mono ?_)
      rintro e W1 ⟨rfl, _, b1, _⟩
      go_wp2
      go_ret
      have h2 := hacc.out
      rw [lows_end (by rw [HL.out]; omega), List.flatMap_nil, List.append_nil] at h2
      exact STB.mk (s := ⟨acc.toArray⟩) h2 (hbw.out.trans b1)
end Go.Proofs.YtgkefaojbdjnoaaDoor
