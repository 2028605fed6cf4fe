/- The walks of Same and Short. -/
import Derived.Test.YtgkefaojbdjnoaaDoorN
import Derived.WalkKit
import Derived.ProofKit
import Derived.Handy
import Derived.WalkLawsBesides
import Derived.WalkSpells
import Derived.BigQuiet
import Derived.BigCall
import Derived.Deep.QuietTactic
import Derived.Deep.Light
import Derived.Deep.OwnRows
import Derived.Laws.AppendOwnNone
import Derived.Laws.Strings3
import Derived.Laws.RangeAny
import Derived.Deep.RegionWith
import Derived.Lib.BitFns
import Derived.Lib.Walk
import Derived.Lib.Strings
import Derived.Lib.OthersKept
import Derived.Deep.CutBlock
import Derived.Deep.DeepCutAuto
import Derived.Deep.LoopGhost
import Derived.Deep.RegionHeld3
import Derived.Lib.SmallJoins
import Derived.Maps.AppendAt
import Derived.Laws.IdiomStrings
namespace Go.Proofs.YtgkefaojbdjnoaaDoor
open Go.RowKit
set_option linter.unusedVariables false
set_option linter.unusedSimpArgs false
def Tab (w : World) : Prop := Lib.TabIs Tryd.prog w "strings.asciiSpace" .u8 Lib.asciiSpaceTab
theorem Tab.below {w w' : World} (h : Tab w) (hb : Below w.heap.size w w') : Tab w' := by
  unfold Tab Lib.TabIs World.var? at *
  cases hg : Tryd.prog.globalNamed "strings.asciiSpace" with
  | none => simp [hg] at h
  | some g =>
    simp only [hg, Option.bind_some] at h ⊢
    have hlt : g < w.heap.size := by
      by_cases hl : g < w.heap.size
      · exact hl
      · rw [Array.getElem?_eq_none (by omega)] at h
        simp at h
    rw [hb.block g hlt]
    exact h
theorem cntF_le : ∀ (l : List UInt8) (b : Bool), Lib.cntF b l ≤ l.length
  | [], _ => by simp [Lib.cntF]
  | x :: l, b => by
    have := cntF_le l (Lib.isSp x)
    rw [Lib.cntF, List.length_cons]
    split <;> omega
set_option maxHeartbeats 4000000 in
theorem xsame (s t : ByteArray) (w : World) (hs : s.size ≤ 1099511627776) (ht : t.size ≤ 1099511627776) : Calls Tryd.prog 23 #[.string s, .string t] w fun e w' => e = .returned (.bool (decide (fold s.data.toList = fold t.data.toList))) ∧ Below w.heap.size w w' := by
  go_enter Tryd.func23, Tryd.ntmps23
  go_wp2_with fail
  refine (xfold s _ (by omega)).mono ?_
  rintro e W1 ⟨rfl, hb1⟩
  go_wp2_with fail
  refine (xfold t _ (by omega)).mono ?_
  rintro e W2 ⟨rfl, hb2⟩
  obtain ⟨F, hF⟩ : ∃ F, fold s.data.toList = F := ⟨_, rfl⟩
  obtain ⟨G, hG⟩ : ∃ G, fold t.data.toList = G := ⟨_, rfl⟩
  rw [hF, hG]
  have HF : Hid (fold s.data.toList = F) := hF
  have HG : Hid (fold t.data.toList = G) := hG
  clear hF hG
  go_wp2_with fail
  go_ret
  refine ⟨?_, hb1.trans (hb2.mono hb1.size)⟩
  rw [HF.out, HG.out]
  show Ending.returned (.bool (F == G)) = _
  by_cases h : F = G
  · simp [h]
  · simp [h]
set_option maxHeartbeats 4000000 in
theorem xshort (s : ByteArray) (w : World) (hs : s.size ≤ 1048576) (htab : Tab w) : Calls Tryd.prog 26 #[.string s] w (STB (short s.data.toList) w) := by
  have HT : Hid (Tab w) := htab
  clear htab
  have h0 : Hid (Below w.heap.size w (w.alloc (Obj.cells #[Value.pointer none, Value.slice none 0 0] 52))) := (Below.refl _ w).alloc (Nat.le_refl _) _
  have h1 : Hid ((w.alloc (Obj.cells #[Value.pointer none, Value.slice none 0 0] 52)).heap[w.heap.size]? = some (.cells #[.pointer none, .slice none 0 0] 52 (0, 0))) := heap_alloc_new w _
  go_enter Tryd.func26, Tryd.ntmps26
  go_wp2_with fail
  refine (xplains s _ (by omega)).mono ?_
  rintro e W1 ⟨rfl, hb1⟩
  have hpl := plain_len s.data.toList
  have hsl : s.data.toList.length = s.size := rfl
  have Hpb : Hid (∀ b ∈ plain s.data.toList, Pb b) := plain_pb _
  have Hh : Hid ((Lib.fields (plain s.data.toList)).map (fun f => f.headD 0) = short s.data.toList) := heads_fields _
  obtain ⟨F, hF⟩ : ∃ F, plain s.data.toList = F := ⟨_, rfl⟩
  rw [hF] at hpl Hpb Hh ⊢
  generalize short s.data.toList = R at *
  have hsz1 : w.heap.size < W1.heap.size := by have := hb1.size; simp at this; omega
  have HB1 : Hid (Below w.heap.size w W1) := h0.out.trans (hb1.mono (by simp))
  have HI0 : Hid (W1.heap[w.heap.size]? = some (.cells #[.pointer none, .slice none 0 0] 52 (0, 0))) := (hb1.block w.heap.size (by simp)).trans h1.out
  have HT1 : Hid (Tab W1) := HT.out.below HB1.out
  clear h0 h1 hb1 hF HT
  have hfs : F.length ≤ 2097152 := by omega
  clear hpl hsl
  go_wp2_with fail
  refine (Tryd.strings_Fields ⟨F.toArray⟩ _ (by show F.length < _; omega) (by
    intro j b hj
    have hm : b ∈ F := List.mem_of_getElem? hj
    have := Hpb.out b hm
    unfold Pb at this
    rcases this with h | h | h
    · rw [h]; decide
    · omega
    · omega) HT1.out).mono ?_
  rintro e W2 ⟨rfl, hb2⟩
  have hne : Hid (∀ f ∈ Lib.fields F, f ≠ []) := fieldsGo_ne F []
  have hnl : (Lib.fields F).length ≤ F.length := by
    rw [Lib.fields_length]
    exact cntF_le F true
  rw [show (⟨F.toArray⟩ : ByteArray).data.toList = F from rfl] at hb2 ⊢
  generalize Lib.fields F = FS at *
  subst hb2
  have HG0 : Hid ((W1.alloc (Obj.cells (List.map (fun l => Value.string ⟨l.toArray⟩) FS).toArray 9)).heap[W1.heap.size]? = some (Obj.cells (List.map (fun l => Value.string ⟨l.toArray⟩) FS).toArray 9 (0, 0))) := heap_alloc_new W1 _
  have HI1 : Hid ((W1.alloc (Obj.cells (List.map (fun l => Value.string ⟨l.toArray⟩) FS).toArray 9)).heap[w.heap.size]? = some (.cells #[.pointer none, .slice none 0 0] 52 (0, 0))) := (Lib.alloc_old W1 _ w.heap.size hsz1).trans HI0.out
  have HB2 : Hid (Below w.heap.size w (W1.alloc (Obj.cells (List.map (fun l => Value.string ⟨l.toArray⟩) FS).toArray 9))) := HB1.out.alloc (by omega) _
  clear HB1 HI0 HT1
  generalize W1.alloc (Obj.cells (List.map (fun l => Value.string ⟨l.toArray⟩) FS).toArray 9) = W2 at *
  go_wp2_with fail
  go_loopw [10] (fun v wr => ∃ (k : Nat) (acc : List UInt8), v = .int .i64 k ∧ k ≤ FS.length ∧ Hid (Lib.IsBuilderF 52 5 w.heap.size w.heap.size (Lib.byteCells acc) wr) ∧ Hid (wr.heap[W1.heap.size]? = some (Obj.cells (List.map (fun l => Value.string ⟨l.toArray⟩) FS).toArray 9 (0, 0))) ∧ Hid (Below w.heap.size w wr) ∧ Hid (acc ++ (FS.drop k).map (fun f => f.headD 0) = R) ∧ acc.length = k) (fun v _ => FS.length - (Lib.intOf v).toNat)
  case atStart => exact ⟨0, [], rfl, Nat.zero_le _, fresh_at HI1.out (Nat.le_refl _), HG0, HB2, by unfold Hid; simpa using Hh.out, rfl⟩
  case round =>
    obtain ⟨k, acc, rfl, hk, hI, hG, hbw, hacc, hal⟩ := hrel
    clear HG0 HI1 HB2
    have hsz : Hid (w.heap.size ≤ wr.heap.size) := hbw.out.size
    by_cases hkn : k < FS.length
    · have hkz : (k : Int) < (FS.length : Int) := by omega
      obtain ⟨f, hf⟩ : ∃ f, FS[k]? = some f := ⟨_, List.getElem?_eq_getElem hkn⟩
      have hfn : f ≠ [] := hne.out f (List.mem_of_getElem? hf)
      have hcell : wr.cell? ⟨W1.heap.size, k, none⟩ = some (.string ⟨f.toArray⟩) := by
        have hg := hG.out
        simp [World.cell?, hg, hf]
      have Hd : Hid (FS.drop k = f :: FS.drop (k + 1)) := Lib.drop_at hf
      obtain ⟨x, r, rfl⟩ : ∃ x r, f = x :: r := by
        cases f with
        | nil => exact absurd rfl hfn
        | cons x r => exact ⟨x, r, rfl⟩
      obtain ⟨q, hq⟩ : ∃ q : ByteArray, (⟨(x :: r).toArray⟩ : ByteArray) = q := ⟨_, rfl⟩
      rw [hq] at hcell
      have hq0 : 0 < q.size := by rw [← hq]; exact Nat.zero_lt_succ _
      have hq0z : (0 : Int) < (q.size : Int) := by omega
      have Hx : Hid (q[0] = x) := by unfold Hid; subst hq; rfl
      clear hq hfn hf
      go_wp2_with (go_at_call 51; refine (Tryd.Builder_WriteByte_k w.heap.size w.heap.size _ _ _ hI.out (by rw [Lib.byteCells_length]; omega) hsz.out).mono ?_)
      rintro e W3 ⟨rfl, h1, b1, k1⟩
      have HG3 : Hid (W3.heap[W1.heap.size]? = some (Obj.cells (List.map (fun l => Value.string ⟨l.toArray⟩) FS).toArray 9 (0, 0))) := k1 _ _ hG.out (by intro e; have := Option.some.inj e; omega) (by intro c fz e; cases e)
      have HI3 : Hid (Lib.IsBuilderF 52 5 w.heap.size w.heap.size (Lib.byteCells (acc ++ [x])) W3) := by
        have e2 : Lib.byteCells (acc ++ [x]) = Lib.byteCells acc ++ [Value.int .u8 (x.toNat : Int)] := by simp [Lib.byteCells]
        unfold Hid
        rw [e2]
        have h1' := h1
        rw [Hx.out] at h1'
        exact Or.inr h1'
      have HB3 : Hid (Below w.heap.size w W3) := hbw.out.trans b1
      clear h1 b1 k1
      go_wp2
      go_roundw
      case rel =>
        refine ⟨k + 1, acc ++ [x], by go_num, by omega, HI3, HG3, HB3, ?_, by simp; omega⟩
        have h2 := hacc.out
        rw [Hd.out] at h2
        unfold Hid
        rw [← h2]
        simp
      case measure =>
        simp [Lib.intOf]
        omega
    · have hkz : ¬ (k : Int) < (FS.length : Int) := by omega
      go_wp2_with (go_at_call 43; refine (Tryd.Builder_String_any_k w.heap.size w.heap.size acc _ hI.out hsz.out).mono ?_; rintro e W3 ⟨rfl, _, b1, _⟩)
      go_ret
      have h2 := hacc.out
      rw [List.drop_of_length_le (by omega), List.map_nil, List.append_nil] at h2
      exact STB.mk (s := ⟨acc.toArray⟩) h2 (hbw.out.trans b1)
end Go.Proofs.YtgkefaojbdjnoaaDoor
