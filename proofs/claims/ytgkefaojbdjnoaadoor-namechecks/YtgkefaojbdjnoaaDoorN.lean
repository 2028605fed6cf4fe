/- The walks of Plain and Same. Condition: the text has at most 2 to the 40th bytes. -/
import Derived.Test.YtgkefaojbdjnoaaDoorM
import Derived.WalkKit
import Derived.ProofKit
import Derived.Handy
import Derived.WalkLawsBesides
import Derived.WalkSpells
import Derived.BigQuiet
import Derived.BigCall
import Derived.Deep.QuietTactic
import Derived.Deep.Light
import Derived.Deep.OwnRows
import Derived.Laws.AppendOwnNone
import Derived.Laws.Strings3
import Derived.Laws.RangeAny
import Derived.Deep.RegionWith
import Derived.Lib.BitFns
import Derived.Lib.Walk
import Derived.Lib.Strings
import Derived.Lib.OthersKept
import Derived.Deep.CutBlock
import Derived.Deep.DeepCutAuto
import Derived.Deep.LoopGhost
import Derived.Deep.RegionHeld3
import Derived.Lib.SmallJoins
import Derived.Maps.AppendAt
import Derived.Laws.IdiomStrings
namespace Go.Proofs.YtgkefaojbdjnoaaDoor
open Go.RowKit
set_option linter.unusedVariables false
set_option linter.unusedSimpArgs false
theorem fresh_at {W : World} {B b : Nat} (h : W.heap[b]? = some (.cells #[.pointer none, .slice none 0 0] 52 (0, 0))) (hB : B ≤ b) : Lib.IsBuilderF 52 5 B b [] W :=
  Lib.IsBuilderF.of (Or.inl ⟨hB, .slice none 0 0, h, World.ownsRow_nil _ _ _ _, by simp [Value.ownBlock]⟩)
set_option maxHeartbeats 4000000 in
set_option maxRecDepth 1000000 in
theorem xplains (s : ByteArray) (w : World) (hs : s.size ≤ 1099511627776) : Calls Tryd.prog 24 #[.string s] w (STB (plain s.data.toList) w) := by
  have h0 : Hid (Below w.heap.size w (w.alloc (Obj.cells #[Value.pointer none, Value.slice none 0 0] 52))) := (Below.refl _ w).alloc (Nat.le_refl _) _
  have h1 : Hid ((w.alloc (Obj.cells #[Value.pointer none, Value.slice none 0 0] 52)).heap[w.heap.size]? = some (.cells #[.pointer none, .slice none 0 0] 52 (0, 0))) := heap_alloc_new w _
  go_enter Tryd.func24, Tryd.ntmps24
  go_wp2_with fail
  refine (xfold s _ (by omega)).mono ?_
  rintro e W1 ⟨rfl, hb1⟩
  have hfl := fold_len s.data.toList
  have hsl : s.data.toList.length = s.size := rfl
  have Hcs : Hid (cs (fold s.data.toList) 0 = lows s.data.toList 0) := cs_fold _
  have Hpl : Hid (plain s.data.toList = (lows s.data.toList 0).flatMap pl) := rfl
  have hsz1 : w.heap.size < W1.heap.size := by have := hb1.size; simp at this; omega
  have HB1 : Hid (Below w.heap.size w W1) := h0.out.trans (hb1.mono (by simp))
  have HI0 : Hid (W1.heap[w.heap.size]? = some (.cells #[.pointer none, .slice none 0 0] 52 (0, 0))) := (hb1.block w.heap.size (by simp)).trans h1.out
  clear h0 h1 hb1
  obtain ⟨F, hF⟩ : ∃ F, fold s.data.toList = F := ⟨_, rfl⟩
  rw [hF] at hfl Hcs
  rw [hF]
  have hfs : F.length ≤ 4398046511104 := by omega
  generalize plain s.data.toList = R at *
  generalize lows s.data.toList 0 = L at *
  clear hF hfl hsl
  have HF : Hid ((⟨F.toArray⟩ : ByteArray).size = F.length) := rfl
  obtain ⟨S, hS⟩ : ∃ S : ByteArray, (⟨F.toArray⟩ : ByteArray) = S := ⟨_, rfl⟩
  rw [hS] at HF ⊢
  have HSl : Hid (S.data.toList = F) := by unfold Hid; rw [← hS]
  clear hS
  have hSz : S.size ≤ 4398046511104 := by have := HF.out; omega
  go_wp2
  go_loopw [] (fun wr => ∃ (pos : Nat) (acc : List UInt8), Hid (Lib.IsBuilderF 52 5 w.heap.size w.heap.size (Lib.byteCells acc) wr) ∧ Hid (wr.heap[W1.heap.size]? = some (.stringIter S pos)) ∧ Hid (Below w.heap.size w wr) ∧ Hid (acc ++ (cs F pos).flatMap pl = R) ∧ acc.length ≤ 2 * pos) (fun wr => S.size - wr.iterPos W1.heap.size)
  case atStart =>
    refine ⟨0, [], ?_, ?_, ?_, ?_, by simp⟩
    · exact fresh_at ((Lib.alloc_old W1 _ w.heap.size hsz1).trans HI0.out) (Nat.le_refl _)
    · have := World.iter_heap W1 S 0
      exact this
    · exact HB1.out.alloc (by omega) _
    · unfold Hid
      rw [Hcs.out, List.nil_append, Hpl.out]
  case round =>
    obtain ⟨pos, acc, hI, hit, hbw, hacc, hal⟩ := hrel
    have hsz : W1.heap.size < wr.heap.size := (Array.getElem?_eq_some_iff.1 hit.out).1
    by_cases hp : pos < S.size
    · have hnx : ∀ ty, (Instr.next (.pointer (some ⟨W1.heap.size, 0, none⟩)) true ty).run Tryd.prog wr = _ := fun ty => next_at wr W1.heap.size S pos ty hit.out hp
      rw [HSl.out] at hnx
      have hwd := D_pos F pos
      have hv := (D_V F pos).le
      have Hst : Hid (cs F pos = (D F pos).1 :: cs F (pos + (D F pos).2.1)) := cs_step (by rw [← HF.out]; exact hp)
      have hI2 : Hid _ := hI.out.iterAt hit.out (pos + (D F pos).2.1)
      have hit2 : Hid _ := Lib.iterAt_heap wr W1.heap.size S pos (pos + (D F pos).2.1) hit.out
      have hbw2 : Hid _ := Lib.below_iterAt hbw.out (k := W1.heap.size) (by omega) S (pos + (D F pos).2.1)
      have hsz2 : Hid (w.heap.size ≤ (wr.iterAt W1.heap.size S (pos + (D F pos).2.1)).heap.size) := by unfold Hid; rw [Lib.iterAt_size]; omega
      generalize (D F pos).2.1 = k at *
      generalize (D F pos).1 = c at *
      have hl4 := pl_len c
      obtain ⟨Q, hQ⟩ : ∃ Q, pl c = Q := ⟨_, rfl⟩
      have HX : Hid (∀ w, Calls Tryd.prog 47 #[.int .i32 c] w fun e w' => e = .returned (.string ⟨Q.toArray⟩) ∧ w = w') := fun w => (xplain c hv w).mono fun e w' ⟨he, hw⟩ => ⟨by rw [he, hQ], hw⟩
      rw [hQ] at hl4
      have HQ : Hid (pl c = Q) := hQ
      have hQs : (⟨Q.toArray⟩ : ByteArray).size ≤ 2 := hl4
      clear hQ
      obtain ⟨q, hq⟩ : ∃ q : ByteArray, (⟨Q.toArray⟩ : ByteArray) = q := ⟨_, rfl⟩
      rw [hq] at HX hQs
      have Hq : Hid (q.data.toList = Q) := by unfold Hid; rw [← hq]
      clear hq
      go_wp2_with (first | (go_at_call 47; refine (Calls.mono (HX.out _) ?_); rintro e w1 ⟨rfl, rfl⟩) | (go_at_call 46; refine (Tryd.Builder_WriteString_k w.heap.size w.heap.size _ _ _ hI2.out (by rw [Lib.byteCells_length]; omega) hsz2.out).mono ?_))
      rintro e W2 ⟨rfl, h1, b1, k1⟩
      go_wp2
      go_roundw
      case rel =>
        refine ⟨pos + k, acc ++ Q, ?_, k1.iter hit2.out (by omega), hbw2.out.trans b1, ?_, by simp; omega⟩
        · unfold Hid
          rw [Lib.byteCells_append]
          rw [Lib.strCells_eq, Hq.out] at h1
          exact Or.inr h1
        · have h2 := hacc.out
          rw [Hst.out, List.flatMap_cons, HQ.out, ← List.append_assoc] at h2
          exact h2
      case measure =>
        simp only [World.iterPos, k1.iter hit2.out (by omega), hit.out]
        omega
    · have hnx : ∀ ty, (Instr.next (.pointer (some ⟨W1.heap.size, 0, none⟩)) true ty).run Tryd.prog wr = _ := fun ty => Lib.run_next_end_at wr W1.heap.size S pos ty hit.out hp
      go_wp2_with (go_at_call 43; refine (Tryd.Builder_String_any_k w.heap.size w.heap.size acc _ hI.out (by omega)).mono ?_)
      rintro e W2 ⟨rfl, _, b1, _⟩
      go_wp2
      go_ret
      have h2 := hacc.out
      rw [cs_end (by rw [← HF.out]; omega), List.flatMap_nil, List.append_nil] at h2
      exact STB.mk (s := ⟨acc.toArray⟩) h2 (hbw.out.trans b1)
end Go.Proofs.YtgkefaojbdjnoaaDoor
