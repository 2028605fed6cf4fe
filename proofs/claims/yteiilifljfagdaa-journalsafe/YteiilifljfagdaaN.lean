/- Format. -/
import Derived.Test.YteiilifljfagdaaM
import Derived.WalkKit
import Derived.ProofKit
import Derived.Handy
import Derived.WalkLawsBesides
import Derived.WalkSpells
import Derived.BigQuiet
import Derived.BigCall
import Derived.Deep.QuietTactic
import Derived.Deep.Light
import Derived.Deep.OwnRows
import Derived.Laws.AppendOwnNone
import Derived.Laws.Strings3
import Derived.Laws.RangeAny
import Derived.Deep.RegionWith
import Derived.Lib.BitFns
import Derived.Lib.Walk
import Derived.Lib.Strings
import Derived.Lib.OthersKept
import Derived.Deep.CutBlock
import Derived.Deep.DeepCutAuto
import Derived.Deep.LoopGhost
import Derived.Deep.RegionHeld3
import Derived.Lib.SmallJoins
import Derived.Maps.AppendAt
import Derived.Laws.IdiomStrings
import Derived.Lib.AppendZeros
import Derived.Deep.WholeRow
import Derived.Laws.BitsAllLaws
import Derived.Lib.ConvBytes
namespace Go.Proofs.Yteiilifljfagdaa
open Go.RowKit
set_option linter.unusedVariables false
set_option linter.unusedSimpArgs false
theorem ctf_yes {S : St} {i n : Nat} (h : S.gone = false) (hl : S.lim < 0) (hi : i ≤ 1) (hn : n ≤ (S.f i).size) : (ctf S i n).2 = 0 ∧ (ctf S i n).1.gone = false ∧ (ctf S i n).1.lim < 0 := by
  rcases ctf_do h hi hn with ⟨h1, _⟩ | ⟨h1, _, _, h4, h5⟩
  · omega
  · exact ⟨h1, h4, by omega⟩
theorem fmt_steps {S : St} (hg : S.gone = false) (hl : S.lim < 0) (t : List UInt8) : (ctf S (0 : Nat) (0 : Nat)).2 = 0 ∧ (ctf (ctf S (0 : Nat) (0 : Nat)).1 (1 : Nat) (0 : Nat)).2 = 0 ∧ fmt S t = wrt (ctf (ctf S (0 : Nat) (0 : Nat)).1 (1 : Nat) (0 : Nat)).1 (0 : Nat) (ba (lay 1 0 t)) := by
  obtain ⟨a1, a2, a3⟩ := ctf_yes (i := 0) (n := 0) hg hl (by omega) (Nat.zero_le _)
  obtain ⟨b1, b2, b3⟩ := ctf_yes (i := 1) (n := 0) a2 a3 (by omega) (Nat.zero_le _)
  refine ⟨a1, b1, ?_⟩
  unfold fmt wrt
  have a1' : (ctf S 0 0).2 = 0 := a1
  rw [thn_ok (r := ctf S 0 0) a1']
  have b1' : (ctf (ctf S 0 0).1 1 0).2 = 0 := b1
  rw [thn_ok (r := ctf (ctf S 0 0).1 1 0) b1']
  rfl
set_option maxHeartbeats 4000000 in
set_option maxRecDepth 100000 in
theorem xformat (B p : Nat) (S : St) (V : Nat → Value) (w : World) (h : Dk B w p S V) (ok : Ok S) (hg : S.gone = false) (hl : S.lim < 0) (t : ByteArray) (ht : Fit 1 0 t.data.toList) (hz : (lay 1 0 t.data.toList).length ≤ 1048576) :
    Calls Try.prog 10 #[.pointer (some ⟨p, 0, none⟩), .string t] w fun e w' => ∃ q V', e = .returned (.tuple #[.pointer (some ⟨q, 0, none⟩), .int .i64 0]) ∧ Hid (Ch B p (fmt S t.data.toList).1 V' w w') ∧ Hid (Jm w.heap.size w' q p false 0 1 0 t (.slice none 0 0) []) := by
  obtain ⟨s1, s2, s3⟩ := fmt_steps hg hl t.data.toList
  have s4 : (fmt S t.data.toList).2 = 0 := by
    rcases fmt_do hg ok ht hz with ⟨h1, _⟩ | ⟨_, h2⟩
    · exact h1
    · omega
  have HD : Hid (Dk B w p S V) := h
  have k1 := ctf_ok ok (0 : Nat) (0 : Nat)
  have k2 := ctf_ok k1 (1 : Nat) (0 : Nat)
  have HC0 : Hid (∀ w1 V1, Dk B w1 p S V1 → Calls Try.prog 31 #[.pointer (some ⟨p, 0, none⟩), .int .i64 0, .int .i64 0] w1 fun e w' => e = .returned (.int .i64 0) ∧ ∃ V', Ch B p (ctf S (0 : Nat) (0 : Nat)).1 V' w1 w') := fun w1 V1 hd => by
    have := xcutD B p S V1 w1 hd ok (0 : Nat) (0 : Nat)
    rw [s1] at this
    exact this
  have HC1 : Hid (∀ w1 V1, Dk B w1 p (ctf S (0 : Nat) (0 : Nat)).1 V1 → Calls Try.prog 31 #[.pointer (some ⟨p, 0, none⟩), .int .i64 1, .int .i64 0] w1 fun e w' => e = .returned (.int .i64 0) ∧ ∃ V', Ch B p (ctf (ctf S (0 : Nat) (0 : Nat)).1 (1 : Nat) (0 : Nat)).1 V' w1 w') := fun w1 V1 hd => by
    have := xcutD B p _ V1 w1 hd k1 (1 : Nat) (0 : Nat)
    rw [s2] at this
    exact this
  have HW : Hid (∀ w1 V1, Dk B w1 p (ctf (ctf S (0 : Nat) (0 : Nat)).1 (1 : Nat) (0 : Nat)).1 V1 → Calls Try.prog 34 #[.pointer (some ⟨p, 0, none⟩), .int .i64 0, .string ⟨(lay 1 0 t.data.toList).toArray⟩] w1 fun e w' => e = .returned (.int .i64 0) ∧ ∃ V', Ch B p (fmt S t.data.toList).1 V' w1 w') := fun w1 V1 hd => by
    have := xwrite B p _ V1 w1 hd k2 (0 : Nat) (ba (lay 1 0 t.data.toList)) (by rw [ba_size]; unfold maxLen; omega)
    rw [← s3, s4] at this
    exact this
  have HL : Hid (∀ w, Calls Try.prog 33 #[.agg #[.int .i64 1, .int .i64 0, .string t, .slice none 0 0]] w (MB (lay 1 0 t.data.toList) 0 w)) := fun w => xlay 1 0 t w ht hz
  have hts : t.size ≤ 1048576 := by
    have := lay_len 1 0 t.data.toList
    have e : t.data.toList.length = t.size := rfl
    omega
  have HB : Hid (B ≤ w.heap.size) := h.bw
  clear s1 s2 s3 s4 k1 k2 h ok hg hl ht hz
  unfold MB at HL
  generalize (fmt S t.data.toList).1 = F at *
  generalize (ctf (ctf S (0 : Nat) (0 : Nat)).1 (1 : Nat) (0 : Nat)).1 = S2 at *
  generalize (ctf S (0 : Nat) (0 : Nat)).1 = S1 at *
  generalize (⟨(lay 1 0 t.data.toList).toArray⟩ : ByteArray) = Y at *
  go_enter Try.func10, Try.ntmps10
  go_wp2_with fail
  go_loopw [12] (fun i wr => ∃ (k : Nat) (V' : Nat → Value) (D : St), i = .int .i64 k ∧ Hid (Ch B p D V' w wr) ∧ Hid ((k = 0 ∧ D = S) ∨ (k = 1 ∧ D = S1) ∨ (k = 2 ∧ D = S2))) (fun i _ => 2 - (Lib.intOf i).toNat)
  case atStart => exact ⟨0, V, S, rfl, ⟨HD.out, Fr.refl _ _ _⟩, .inl ⟨rfl, rfl⟩⟩
  case round =>
    obtain ⟨k, V1, D, rfl, HC, hk⟩ := hrel
    rcases hk.out with ⟨rfl, rfl⟩ | ⟨rfl, rfl⟩ | ⟨rfl, rfl⟩
    · clear hk
      go_wp2_with fail
      refine (HC0.out _ _ HC.out.1).mono ?_
      rintro e w1 ⟨rfl, V2, hc2⟩
      have HC2 : Hid (Ch B p S1 V2 w w1) := HC.out.trans hc2
      clear hc2
      go_wp2_with fail
      exact ⟨⟨1, V2, S1, rfl, HC2, .inr (.inl ⟨rfl, rfl⟩)⟩, by simp [Lib.intOf]⟩
    · clear hk
      go_wp2_with fail
      refine (HC1.out _ _ HC.out.1).mono ?_
      rintro e w1 ⟨rfl, V2, hc2⟩
      have HC2 : Hid (Ch B p S2 V2 w w1) := HC.out.trans hc2
      clear hc2
      go_wp2_with fail
      exact ⟨⟨2, V2, S2, rfl, HC2, .inr (.inr ⟨rfl, rfl⟩)⟩, by simp [Lib.intOf]⟩
    · clear hk
      go_wp2_with fail
      refine (xclone t (by omega) _).mono ?_
      rintro e w1 ⟨rfl, hb1⟩
      have HW1 : Hid (wr.heap.size ≤ w1.heap.size) := hb1.size
      have HD1 : Hid (Dk B w1 p D V1) := HC.out.1.below hb1
      have HF1 : Hid (Fr B p w w1) := HC.out.2.trans (Fr.below hb1 HC.out.1.bw)
      clear hb1
      go_wp2_with fail
      refine (HL.out _).mono ?_
      rintro e w2 ⟨rfl, hb2⟩
      have hz1 : w1.heap.size < w2.heap.size := by have := hb2.size; simp at this; omega
      have hblk : w2.heap[w1.heap.size]? = some (.cells #[.int .i64 1, .int .i64 0, .string t, .slice none 0 0] 71 (0, 0)) := (hb2.block _ (by simp)).trans (heap_alloc_new w1 _)
      have HBK : Hid (w2.heap[w1.heap.size]? = some (.cells #[.int .i64 1, .int .i64 0, .string t, .slice none 0 0] 71 (0, 0))) := hblk
      have HD2 : Hid (Dk B w2 p D V1) := (HD1.out.alloc _).below hb2
      have HF2 : Hid (Fr B p w w2) := (HF1.out.alloc HD1.out.bw _).trans (Fr.below hb2 (HD1.out.alloc _).bw)
      clear hblk hb2
      go_wp2_with fail
      refine (HW.out _ _ HD2.out).mono ?_
      rintro e w3 ⟨rfl, V3, hc3⟩
      have hblk : w3.heap[w1.heap.size]? = some (.cells #[.int .i64 1, .int .i64 0, .string t, .slice none 0 0] 71 (0, 0)) := hc3.2.keep HBK.out (by decide) (blk_ne HBK.out HD2.out.blk (by decide))
      have c0 : w3.cell? ⟨w1.heap.size, 0, none⟩ = some (.int .i64 1) := cell_of_row w3 _ 0 _ 71 (0, 0) hblk
      have c1 : w3.cell? ⟨w1.heap.size, 1, none⟩ = some (.int .i64 0) := cell_of_row w3 _ 1 _ 71 (0, 0) hblk
      have c2 : w3.cell? ⟨w1.heap.size, 2, none⟩ = some (.string t) := cell_of_row w3 _ 2 _ 71 (0, 0) hblk
      have c3 : w3.cell? ⟨w1.heap.size, 3, none⟩ = some (.slice none 0 0) := cell_of_row w3 _ 3 _ 71 (0, 0) hblk
      have HC3 : Hid (Ch B p F V3 w w3) := ⟨hc3.1, HF2.out.trans hc3.2⟩
      clear hblk hc3
      go_wp2_with fail
      go_ret2
      refine ⟨_, V3, rfl, ⟨HC3.out.1.alloc _, HC3.out.2.alloc HC3.out.1.bw _⟩, ?_⟩
      exact ⟨HC3.out.2.1.size, heap_alloc_new w3 _, World.ownsRow_nil _ _ _ _⟩
end Go.Proofs.Yteiilifljfagdaa
