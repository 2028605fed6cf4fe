/- The program's All, and awake. -/
import Derived.Test.YtpddddnjmklfdaaL
import Derived.WalkKit
import Derived.ProofKit
import Derived.Handy
import Derived.WalkLawsBesides
import Derived.WalkSpells
import Derived.BigQuiet
import Derived.BigCall
import Derived.Deep.QuietTactic
import Derived.Deep.Light
import Derived.Deep.OwnRows
import Derived.Laws.AppendOwnNone
import Derived.Laws.Strings3
import Derived.Laws.RangeAny
import Derived.Deep.RegionWith
import Derived.Lib.BitFns
import Derived.Lib.Walk
import Derived.Lib.Strings
import Derived.Lib.OthersKept
import Derived.Deep.CutBlock
import Derived.Deep.DeepCutAuto
import Derived.Deep.LoopGhost
import Derived.Deep.RegionHeld3
import Derived.Lib.SmallJoins
import Derived.Maps.AppendAt
import Derived.Laws.IdiomStrings
import Derived.Lib.AppendZeros
import Derived.Deep.WholeRow
import Derived.Laws.BitsAllLaws
namespace Go.Proofs.Ytpddddnjmklfdaa
open Go.RowKit
set_option linter.unusedVariables false
set_option linter.unusedSimpArgs false
theorem bkeep {B b : Nat} {bs : List Value} {W W' : World} (h : Lib.IsBuilderF 54 5 B b bs W) (hb : Below W.heap.size W W') : Lib.IsBuilderF 54 5 B b bs W' := by
  have one : ∀ p, Lib.BuilderAtF 54 5 B b p bs W → Lib.BuilderAtF 54 5 B b p bs W' := by
    rintro p ⟨hB, v, hbk, hown, hne⟩
    refine ⟨hB, v, ?_, ?_, hne⟩
    · rw [hb.block b (Array.getElem?_eq_some_iff.1 hbk).1]; exact hbk
    · refine ⟨hown.1, ?_⟩
      rcases hown.2 with h2 | ⟨g, cap, cur, fz, hv, hB, hg, hr⟩
      · exact .inl h2
      · exact .inr ⟨g, cap, cur, fz, hv, hB, by rw [hb.block g (Array.getElem?_eq_some_iff.1 hg).1]; exact hg, hr⟩
  exact h.elim (fun x => .inl (one _ x)) (fun x => .inr (one _ x))
set_option maxHeartbeats 4000000 in
theorem xall (l : List ByteArray) (a : Option Addr) (cap : Nat) (w : World) (h : Strs w a l) (h100 : l.length ≤ 100) (h20 : tot l ≤ 20000) : Calls Try.prog 12 #[.slice a l.length cap] w (MB (allL (ls l)) (allE (ls l)) w) := by
  have HS : Hid (Strs w a l) := h
  have hlenz : (l.length : Int) ≤ 100 := by omega
  clear h
  have HI0 : Hid (Lib.IsBuilderF 54 5 w.heap.size w.heap.size (Lib.byteCells []) (w.alloc (Obj.cells #[Value.pointer none, Value.slice none 0 0] 54))) := Lib.IsBuilderF.of (Lib.fresh_isBuilder 54 5 w)
  have HB0 : Hid (Below w.heap.size w (w.alloc (Obj.cells #[Value.pointer none, Value.slice none 0 0] 54))) := below_new w _
  go_enter Try.func12, Try.ntmps12
  go_wp2_with fail
  go_loopw [11] (fun i wr => ∃ (k : Nat) (acc : List UInt8), i = .int .i64 k ∧ k ≤ l.length ∧ acc.length ≤ 22000 ∧ Hid (Lib.IsBuilderF 54 5 w.heap.size w.heap.size (Lib.byteCells acc) wr) ∧ Hid (Below w.heap.size w wr) ∧ Hid (acc = flat (ls (l.take k))) ∧ Hid (allOk (ls (l.take k)) = true)) (fun i _ => l.length - (Lib.intOf i).toNat)
  case atStart => exact ⟨0, [], rfl, Nat.zero_le _, by simp, HI0, HB0, rfl, rfl⟩
  case round =>
    clear HI0 HB0
    obtain ⟨k, acc, rfl, hk, hO, HI, HB, HF, HA⟩ := hrel
    by_cases hkn : k < l.length
    · have hkz : (k : Int) < (l.length : Int) := by omega
      obtain ⟨b, off, rfl, hbl, hce⟩ := HS.out.at_ (by omega)
      have hc : wr.cell? ⟨b, off + k, none⟩ = some (.string l[k]) := (HB.out.cell (by exact hbl)).trans (hce k hkn)
      have hlt := ls_take hkn
      by_cases h4 : l[k].size ≤ 4096
      · have ha := allOk_step hkn HA.out h4
        have hsz : acc.length + (l[k].size + 12) ≤ 22000 := by
          rw [HF.out, flat_len]
          have e2 := tot_take hkn
          have e3 := tot_le l (k + 1)
          rw [List.length_take]
          omega
        have HP : Hid (∀ w, Calls Try.prog 10 #[.string l[k]] w (MB (putL l[k].data.toList) 0 w)) := fun w => by
          have := xput l[k] w
          rw [put_yes (l := l[k].data.toList) h4, putE_yes (l := l[k].data.toList) h4] at this
          exact this
        have HF2 : Hid (acc ++ (⟨(putL l[k].data.toList).toArray⟩ : ByteArray).data.toList = flat (ls (l.take (k + 1)))) := by
          unfold Hid
          rw [hlt, flat_snoc, ← HF.out]
        have hps : (⟨(putL l[k].data.toList).toArray⟩ : ByteArray).size = l[k].size + 12 := by rw [ba_size, putL_len]; rfl
        have HA2 : Hid (allOk (ls (l.take (k + 1))) = true) := ha
        unfold MB at HP
        have hcc : Hid (((0 : Nat) : Int) = 0) := rfl
        rw [hcc.out] at HP
        generalize (⟨(putL l[k].data.toList).toArray⟩ : ByteArray) = P at *
        generalize l[k] = x at *
        clear hlt ha hce HF HA hcc
        go_wp2_with fail
        refine (HP.out _).mono ?_
        rintro e w1 ⟨rfl, hb1⟩
        have HI1 : Hid (Lib.IsBuilderF 54 5 w.heap.size w.heap.size (Lib.byteCells acc) w1) := bkeep HI.out hb1
        have HB1 : Hid (Below w.heap.size w w1) := HB.out.trans (hb1.mono HB.out.size)
        clear hb1
        go_wp2_with fail
        refine (Try.Builder_WriteString_k w.heap.size w.heap.size _ P _ HI1.out (by rw [Lib.byteCells_length]; omega) HB1.out.size).mono ?_
        rintro e w2 ⟨rfl, h2, b2, _⟩
        have HI2 : Hid (Lib.IsBuilderF 54 5 w.heap.size w.heap.size (Lib.byteCells (acc ++ P.data.toList)) w2) := by
          unfold Hid
          rw [Lib.byteCells_append]
          exact Or.inr h2
        have HB2 : Hid (Below w.heap.size w w2) := HB1.out.trans b2
        clear h2 b2 HI HI1
        go_wp2_with fail
        exact ⟨⟨k + 1, acc ++ P.data.toList, by go_num, by omega, by rw [List.length_append]; show _ + P.size ≤ _; omega, HI2.out, HB2.out, HF2.out, HA2.out⟩, by simp [Lib.intOf]; omega⟩
      · have hbad := allOk_bad hkn h4
        have HL : Hid (allL (ls l) = []) := allL_no hbad
        have HE : Hid (allE (ls l) = 2) := allE_no hbad
        have HP : Hid (∀ w, Calls Try.prog 10 #[.string l[k]] w (MB [] 2 w)) := fun w => by
          have := xput l[k] w
          rw [put_no (l := l[k].data.toList) h4, putE_no (l := l[k].data.toList) h4] at this
          exact this
        generalize l[k] = x at *
        clear hlt hbad hce HF HA
        go_wp2_with fail
        refine (HP.out _).mono ?_
        rintro e w1 ⟨rfl, hb1⟩
        have HB1 : Hid (Below w.heap.size w w1) := HB.out.trans (hb1.mono HB.out.size)
        clear hb1
        go_wp2_with fail
        go_ret2
        exact MB.mk (by rw [HL.out]) (by rw [HE.out]; rfl) HB1.out
    · have hkz : ¬ (k : Int) < (l.length : Int) := by omega
      have ht : l.take k = l := List.take_of_length_le (by omega)
      have HL : Hid (allL (ls l) = acc) := by
        have h1 := HF.out
        have h2 := HA.out
        rw [ht] at h1 h2
        unfold Hid
        rw [allL_yes h2, h1]
      have HE : Hid (allE (ls l) = 0) := by
        have h2 := HA.out
        rw [ht] at h2
        exact allE_yes h2
      clear ht HF HA
      go_wp2_with fail
      refine (Try.Builder_String_any_k w.heap.size w.heap.size acc _ HI.out HB.out.size).mono ?_
      rintro e w2 ⟨rfl, _, b2, _⟩
      have HB2 : Hid (Below w.heap.size w w2) := HB.out.trans b2
      clear b2
      go_wp2_with fail
      go_ret2
      exact MB.mk (by rw [HL.out]) (by rw [HE.out]; rfl) HB2.out
/-- the chapter's examples -/
theorem ab_put : put [97, 98] = [2, 0, 0, 0, 253, 255, 255, 255, 97, 98, 109, 72, 131, 158] := by decide +kernel
theorem nine_sum : sumN [49, 50, 51, 52, 53, 54, 55, 56, 57] = 3421780262 := by decide +kernel
set_option maxHeartbeats 4000000 in
theorem xawake (w : World) : Calls Try.prog 9 #[] w (BB true w) := by
  have HP : Hid (∀ w, Calls Try.prog 10 #[.string ⟨#[97, 98]⟩] w fun e w' => e = .returned (.tuple #[.string ⟨#[2, 0, 0, 0, 253, 255, 255, 255, 97, 98, 109, 72, 131, 158]⟩, .int .i64 0]) ∧ Below w.heap.size w w') := fun w => by
    have := xput ⟨#[97, 98]⟩ w
    rw [show (⟨#[97, 98]⟩ : ByteArray).data.toList = [97, 98] from rfl, ab_put] at this
    exact this
  have HS : Hid (∀ w, Calls Try.prog 14 #[.string ⟨#[49, 50, 51, 52, 53, 54, 55, 56, 57]⟩] w (NP .u32 3421780262 w)) := fun w => by
    have := xsum ⟨#[49, 50, 51, 52, 53, 54, 55, 56, 57]⟩ (by decide) w
    rw [show (⟨#[49, 50, 51, 52, 53, 54, 55, 56, 57]⟩ : ByteArray).data.toList = [49, 50, 51, 52, 53, 54, 55, 56, 57] from rfl, nine_sum] at this
    exact this
  go_enter Try.func9, Try.ntmps9
  go_wp2_with fail
  refine (HP.out _).mono ?_
  rintro e w1 ⟨rfl, hb1⟩
  have HB1 : Hid (Below w.heap.size w w1) := hb1
  clear hb1
  go_wp2_with fail
  refine (HS.out _).mono ?_
  rintro e w2 ⟨rfl, rfl⟩
  go_wp2_with fail
  go_ret
  exact BB.mk (by rw [ByteArray.toList_eq]; decide +kernel) HB1.out
end Go.Proofs.Ytpddddnjmklfdaa
