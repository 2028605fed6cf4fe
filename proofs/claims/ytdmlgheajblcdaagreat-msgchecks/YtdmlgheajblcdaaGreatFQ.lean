/- The reference's walk over all signs of a text: two lists in new memory. Condition: the text has at most 2 to the 40th bytes. -/
import Derived.Test.YtdmlgheajblcdaaGreatFP
import Derived.WalkKit
import Derived.ProofKit
import Derived.Handy
import Derived.WalkLawsBesides
import Derived.WalkSpells
import Derived.BigQuiet
import Derived.BigCall
import Derived.Deep.QuietTactic
import Derived.Deep.Light
import Derived.Deep.OwnRows
import Derived.Laws.AppendOwnNone
import Derived.Laws.Strings3
import Derived.Laws.RangeAny
import Derived.Deep.RegionWith
import Derived.Lib.BitFns
import Derived.Lib.Walk
import Derived.Lib.Strings
import Derived.Lib.OthersKept
import Derived.Deep.CutBlock
import Derived.Deep.DeepCutAuto
import Derived.Deep.LoopGhost
import Derived.Deep.RegionHeld3
import Derived.Lib.SmallJoins
import Derived.Maps.AppendAt
import Derived.Laws.IdiomStrings
import Derived.Lib.AppendZeros
import Derived.Deep.WholeRow
import Derived.Laws.BitsAllLaws
import Derived.Lib.ConvBytes
import Derived.Deep.RegionLaw
import Derived.Lib.IndexBytes
namespace Go.Proofs.YtdmlgheajblcdaaGreat.N4
open Go.RowKit
set_option linter.unusedVariables false
set_option linter.unusedSimpArgs false
/-- two slices of the call's own, apart, with these numbers -/
def Two (B : Nat) (w : World) (v1 v2 : Value) (xs ys : List Nat) : Prop :=
  w.ownsRow B 3 1 v1 xs.length (cells .i64 xs) ∧ w.ownsRow B 3 1 v2 ys.length (cells .i64 ys) ∧ ∀ j, v1.ownBlock = some j → v2.ownBlock ≠ some j
theorem Two.swap {B : Nat} {w : World} {v1 v2 : Value} {xs ys : List Nat} (h : Two B w v1 v2 xs ys) : Two B w v2 v1 ys xs :=
  ⟨h.2.1, h.1, fun j hj e => h.2.2 j e hj⟩
theorem Two.first {B : Nat} {w w1 : World} {v1 v2 v' : Value} {xs ys : List Nat} {c : Nat} (h : Two B w v1 v2 xs ys) (o : Obj)
    (ho : w1.ownsRow B 3 1 v' (xs.length + 1) (cells .i64 xs ++ [.int .i64 c])) (hg : (w.alloc o).grownBy w1 v1.ownBlock) (ha : v'.ownBlock = v1.ownBlock ∨ v'.ownBlock = some (w.alloc o).heap.size) : Two B w1 v' v2 (xs ++ [c]) ys := by
  refine ⟨?_, ?_, ?_⟩
  · rw [cells_snoc, List.length_append]
    exact ho
  · refine (h.2.1.alloc o).kept hg ?_
    cases hv : v2.ownBlock with
    | none => exact .inl rfl
    | some j => exact .inr (fun e => h.2.2 j e.symm hv)
  · intro j hj hv
    rcases ha with ha | ha
    · exact h.2.2 j (ha.symm.trans hj) hv
    · have h1 := (h.2.1.lt j hv).2
      have h2 := Option.some.inj (ha.symm.trans hj)
      simp at h2
      omega
theorem below_first {B : Nat} {w0 w w1 : World} {v1 : Value} {n : Nat} {zs : List Value} (hb : Below B w0 w) (hB : B ≤ w.heap.size) (o : Obj) (h : w.ownsRow B 3 1 v1 n zs) (hg : (w.alloc o).grownBy w1 v1.ownBlock) : Below B w0 w1 :=
  (hb.alloc hB o).grown hg (by simp; omega) (fun j hj => (h.lt j hj).1)
def SGP (l : List UInt8) (w : World) (e : Ending) (w' : World) : Prop := ∃ v1 v2, e = .returned (.tuple #[v1, v2, .bool (ok l 0)]) ∧ Seg .i64 w' v1 (cs l 0) ∧ Seg .i64 w' v2 (ps l 0) ∧ Below w.heap.size w w'
theorem SGP.mk {l : List UInt8} {w w' : World} {v1 v2 : Value} {g : Bool} (hg : g = ok l 0) (h1 : Seg .i64 w' v1 (cs l 0)) (h2 : Seg .i64 w' v2 (ps l 0)) (hb : Below w.heap.size w w') : SGP l w (.returned (.tuple #[v1, v2, .bool g])) w' := ⟨v1, v2, by rw [hg], h1, h2, hb⟩
set_option maxHeartbeats 4000000 in
theorem rsigns (s : ByteArray) (hs : s.size ≤ 1099511627776) (w : World) : Calls Tryz.prog 102 #[.string s] w (SGP s.data.toList w) := by
  have HL : Hid (s.data.toList.length = s.size) := rfl
  obtain ⟨i0, hi, hz0, hz1, hz2⟩ := info_parts Tryz.info3
  have HI : Hid (Tryz.prog.info? 3 = some i0 ∧ i0.zero = some (.int .i64 0) ∧ i0.size = 1 ∧ i0.bytes = 8) := ⟨hi, hz0, hz1, hz2⟩
  clear hi hz0 hz1 hz2
  go_enter Tryz.func102, Tryz.ntmps102
  go_wp2_with fail
  go_loopw [5, 6, 7, 8] (fun v1 v2 b i wr => ∃ (pos : Nat) (xs ys : List Nat) (g : Bool), i = .int .i64 pos ∧ b = .bool g ∧ Hid (Two w.heap.size wr v1 v2 xs ys) ∧ Hid (Below w.heap.size w wr) ∧ Hid (xs ++ cs s.data.toList pos = cs s.data.toList 0) ∧ Hid (ys ++ ps s.data.toList pos = ps s.data.toList 0) ∧ Hid ((g && ok s.data.toList pos) = ok s.data.toList 0) ∧ xs.length ≤ pos ∧ ys.length ≤ pos ∧ pos ≤ s.size) (fun _ _ _ i _ => s.size - (Lib.intOf i).toNat)
  case atStart => exact ⟨0, [], [], true, rfl, rfl, ⟨World.ownsRow_nil _ _ _ _, World.ownsRow_nil _ _ _ _, by intro j hj; cases hj⟩, Below.refl _ _, rfl, rfl, by unfold Hid; rw [Bool.true_and], Nat.le_refl _, Nat.le_refl _, Nat.zero_le _⟩
  case round =>
    obtain ⟨pos, xs, ys, g, rfl, rfl, htwo, hbw, hxs, hys, hok, hxl, hyl, hps⟩ := hrel
    have hsz : w.heap.size ≤ wr.heap.size := hbw.out.size
    by_cases hp : pos < s.size
    · have hpz : (pos : Int) < (s.size : Int) := by omega
      have hwd := D_pos s.data.toList pos
      have hcv := (D_V s.data.toList pos).le
      have hin : pos + (D s.data.toList pos).2.1 ≤ s.size := D_in s.data.toList pos hp
      have Hst : Hid (cs s.data.toList pos = (D s.data.toList pos).1 :: cs s.data.toList (pos + (D s.data.toList pos).2.1)) := cs_step (by rw [HL.out]; exact hp)
      have Hpt : Hid (ps s.data.toList pos = pos :: ps s.data.toList (pos + (D s.data.toList pos).2.1)) := ps_step (by rw [HL.out]; exact hp)
      have Hok : Hid (ok s.data.toList pos = ((D s.data.toList pos).2.2 && ok s.data.toList (pos + (D s.data.toList pos).2.1))) := ok_step (by rw [HL.out]; exact hp)
      have HS : Hid (∀ w, Calls Tryz.prog 116 #[.string s, .int .i64 pos] w fun e w' => e = .returned (.tuple #[.int .i64 (D s.data.toList pos).1, .int .i64 (D s.data.toList pos).2.1, .bool (D s.data.toList pos).2.2]) ∧ w = w') := fun w => rsign s pos (by omega) hpz (by omega) w
      have HT1 : Hid (wr.ownsRow w.heap.size 3 1 u5 xs.length (cells .i64 xs)) := htwo.out.1
      generalize (D s.data.toList pos).2.2 = b at *
      generalize (D s.data.toList pos).2.1 = k at *
      generalize (D s.data.toList pos).1 = c at *
      have Hfin : Hid (∀ (v' v'' : Value) (w2 : World) (g' : Bool), Two w.heap.size w2 v' v'' (xs ++ [c]) (ys ++ [pos]) → Below w.heap.size w w2 → g' = (g && b) →
          (∃ (pos' : Nat) (xs' ys' : List Nat) (g'' : Bool), Value.int .i64 ((pos : Int) + (k : Int)) = .int .i64 (pos' : Int) ∧ Value.bool g' = .bool g'' ∧ Hid (Two w.heap.size w2 v' v'' xs' ys') ∧ Hid (Below w.heap.size w w2) ∧ Hid (xs' ++ cs s.data.toList pos' = cs s.data.toList 0) ∧ Hid (ys' ++ ps s.data.toList pos' = ps s.data.toList 0) ∧ Hid ((g'' && ok s.data.toList pos') = ok s.data.toList 0) ∧ xs'.length ≤ pos' ∧ ys'.length ≤ pos' ∧ pos' ≤ s.size) ∧
            s.size - (Lib.intOf (Value.int .i64 ((pos : Int) + (k : Int)))).toNat < s.size - (Lib.intOf (Value.int .i64 (pos : Int))).toNat) := by
        intro v' v'' w2 g' h2 hb2 hg
        refine ⟨⟨pos + k, xs ++ [c], ys ++ [pos], g', by simp, rfl, h2, hb2, ?_, ?_, ?_, by simp; omega, by simp; omega, hin⟩, ?_⟩
        · have h1 := hxs.out
          rw [Hst.out] at h1
          unfold Hid
          rw [← h1]
          simp
        · have h1 := hys.out
          rw [Hpt.out] at h1
          unfold Hid
          rw [← h1]
          simp
        · have h1 := hok.out
          rw [Hok.out] at h1
          unfold Hid
          rw [← h1, hg, Bool.and_assoc]
        · simp [Lib.intOf]
          omega
      cases g
      · go_wp2_with (first | (go_at_call 116; refine Calls.mono (HS.out _) ?_; rintro e w2 ⟨rfl, rfl⟩) | (at_builtin; refine wpList_append_own_at _ rfl (.tmp 23) (.tmp 25) 25 rfl w.heap.size 3 i0 (.int .i64 0) 1 8 Tryz.underlying25 HI.out.1 HI.out.2.1 HI.out.2.2.1 HI.out.2.2.2 rfl (by decide) _ xs.length (cells .i64 xs) rfl (HT1.out.alloc _) ⟨wr.heap.size, 0, none⟩ 1 1 [.int .i64 c] rfl rfl cell_of_new one_cell (by unfold maxLen; omega) (by omega) (by simp; omega) ?_; intro v' w1 hown' hgrow _ hat; have HT2 : Hid (Two w.heap.size w1 v' u6 (xs ++ [c]) ys) := htwo.out.first _ hown' hgrow hat; have HB2 : Hid (Below w.heap.size w w1) := below_first hbw.out hsz _ htwo.out.1 hgrow; have HT3 : Hid (w1.ownsRow w.heap.size 3 1 u6 ys.length (cells .i64 ys)) := HT2.out.2.1; have hsz1 : w.heap.size ≤ w1.heap.size := HB2.out.size; clear hown' hgrow hat) | (at_builtin; refine wpList_append_own_at _ rfl (.tmp 27) (.tmp 29) 25 rfl w.heap.size 3 i0 (.int .i64 0) 1 8 Tryz.underlying25 HI.out.1 HI.out.2.1 HI.out.2.2.1 HI.out.2.2.2 rfl (by decide) _ ys.length (cells .i64 ys) rfl (HT3.out.alloc _) ⟨w1.heap.size, 0, none⟩ 1 1 [.int .i64 pos] rfl rfl cell_of_new one_cell (by unfold maxLen; omega) (by omega) (by simp; omega) ?_; intro v'' w2 hown' hgrow _ hat; have HT4 : Hid (Two w.heap.size w2 v' v'' (xs ++ [c]) (ys ++ [pos])) := (HT2.out.swap.first _ hown' hgrow hat).swap; have HB4 : Hid (Below w.heap.size w w2) := below_first HB2.out hsz1 _ HT2.out.2.1 hgrow; clear hown' hgrow hat))
        exact Hfin.out v' v'' w2 false HT4.out HB4.out (by simp)
      · go_wp2_with (first | (go_at_call 116; refine Calls.mono (HS.out _) ?_; rintro e w2 ⟨rfl, rfl⟩) | (at_builtin; refine wpList_append_own_at _ rfl (.tmp 23) (.tmp 25) 25 rfl w.heap.size 3 i0 (.int .i64 0) 1 8 Tryz.underlying25 HI.out.1 HI.out.2.1 HI.out.2.2.1 HI.out.2.2.2 rfl (by decide) _ xs.length (cells .i64 xs) rfl (HT1.out.alloc _) ⟨wr.heap.size, 0, none⟩ 1 1 [.int .i64 c] rfl rfl cell_of_new one_cell (by unfold maxLen; omega) (by omega) (by simp; omega) ?_; intro v' w1 hown' hgrow _ hat; have HT2 : Hid (Two w.heap.size w1 v' u6 (xs ++ [c]) ys) := htwo.out.first _ hown' hgrow hat; have HB2 : Hid (Below w.heap.size w w1) := below_first hbw.out hsz _ htwo.out.1 hgrow; have HT3 : Hid (w1.ownsRow w.heap.size 3 1 u6 ys.length (cells .i64 ys)) := HT2.out.2.1; have hsz1 : w.heap.size ≤ w1.heap.size := HB2.out.size; clear hown' hgrow hat) | (at_builtin; refine wpList_append_own_at _ rfl (.tmp 27) (.tmp 29) 25 rfl w.heap.size 3 i0 (.int .i64 0) 1 8 Tryz.underlying25 HI.out.1 HI.out.2.1 HI.out.2.2.1 HI.out.2.2.2 rfl (by decide) _ ys.length (cells .i64 ys) rfl (HT3.out.alloc _) ⟨w1.heap.size, 0, none⟩ 1 1 [.int .i64 pos] rfl rfl cell_of_new one_cell (by unfold maxLen; omega) (by omega) (by simp; omega) ?_; intro v'' w2 hown' hgrow _ hat; have HT4 : Hid (Two w.heap.size w2 v' v'' (xs ++ [c]) (ys ++ [pos])) := (HT2.out.swap.first _ hown' hgrow hat).swap; have HB4 : Hid (Below w.heap.size w w2) := below_first HB2.out hsz1 _ HT2.out.2.1 hgrow; clear hown' hgrow hat))
        exact Hfin.out v' v'' w2 b HT4.out HB4.out (by simp)
    · have hpz : ¬ (pos : Int) < (s.size : Int) := by omega
      go_wp2_with fail
      go_ret3
      have h1 := hxs.out
      have h2 := hys.out
      have h3 := hok.out
      rw [cs_end (by rw [HL.out]; omega), List.append_nil] at h1
      rw [ps_end (by rw [HL.out]; omega), List.append_nil] at h2
      rw [ok_end (by rw [HL.out]; omega), Bool.and_true] at h3
      refine SGP.mk h3 ?_ ?_ hbw.out
      · rw [← h1]
        exact Seg.of_owns htwo.out.1
      · rw [← h2]
        exact Seg.of_owns htwo.out.2.1
end Go.Proofs.YtdmlgheajblcdaaGreat.N4
