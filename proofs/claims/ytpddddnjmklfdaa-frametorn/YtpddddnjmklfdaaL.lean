/- The program's addNumber, Size and Put. -/
import Derived.Test.YtpddddnjmklfdaaK
import Derived.WalkKit
import Derived.ProofKit
import Derived.Handy
import Derived.WalkLawsBesides
import Derived.WalkSpells
import Derived.BigQuiet
import Derived.BigCall
import Derived.Deep.QuietTactic
import Derived.Deep.Light
import Derived.Deep.OwnRows
import Derived.Laws.AppendOwnNone
import Derived.Laws.Strings3
import Derived.Laws.RangeAny
import Derived.Deep.RegionWith
import Derived.Lib.BitFns
import Derived.Lib.Walk
import Derived.Lib.Strings
import Derived.Lib.OthersKept
import Derived.Deep.CutBlock
import Derived.Deep.DeepCutAuto
import Derived.Deep.LoopGhost
import Derived.Deep.RegionHeld3
import Derived.Lib.SmallJoins
import Derived.Maps.AppendAt
import Derived.Laws.IdiomStrings
import Derived.Lib.AppendZeros
import Derived.Deep.WholeRow
import Derived.Laws.BitsAllLaws
namespace Go.Proofs.Ytpddddnjmklfdaa
open Go.RowKit
set_option linter.unusedVariables false
set_option linter.unusedSimpArgs false
theorem Try.info5 : (Try.prog.info? 5).map (fun i => (i.zero, i.size, i.bytes)) = some (some (.int .u8 0), 1, 1) := by kernel_rfl
theorem four_list (n : Nat) (h : n < 4294967296) : Lib.byteCells (four n) = [.int .u8 ((n : Int) % 256), .int .u8 ((n : Int) / 256 % 256), .int .u8 ((n : Int) / 65536 % 256), .int .u8 ((n : Int) / 16777216)] := by
  have := congrArg Array.toList (four_cells n h)
  simpa using this
theorem cell_four_new (w : World) (x y z u : Value) (t : TypeId) : ∀ j v, [x, y, z, u][j]? = some v → (w.alloc (.cells #[x, y, z, u] t)).cell? ((⟨w.heap.size, 0, none⟩ : Addr).add j) = some v := by
  intro j v hj
  match j, hj with
  | 0, hj => simp at hj; subst hj; simp [Addr.add]
  | 1, hj => simp at hj; subst hj; simp [Addr.add]
  | 2, hj => simp at hj; subst hj; simp [Addr.add]
  | 3, hj => simp at hj; subst hj; simp [Addr.add]
theorem one_bytes {l : List UInt8} : ∀ u ∈ Lib.byteCells l, u.oneCell' = true := by
  intro u hu
  simp only [Lib.byteCells, List.mem_map] at hu
  obtain ⟨c, _, rfl⟩ := hu
  rfl
/-- an own row of bytes -/
def Own (B : Nat) (w : World) (v : Value) (l : List UInt8) : Prop := w.ownsRow B 5 1 v l.length (Lib.byteCells l)
def AP (B : Nat) (l : List UInt8) (w : World) (e : Ending) (w' : World) : Prop := ∃ v', e = .returned v' ∧ Hid (Own B w' v' l) ∧ Hid (Below B w w')
set_option maxHeartbeats 4000000 in
theorem xadd (B : Nat) (v : Value) (l : List UInt8) (n : Nat) (hn : n < 4294967296) (w : World) (hB : B ≤ w.heap.size) (hl : l.length ≤ 1099511627776) (h : Own B w v l) :
    Calls Try.prog 22 #[v, .int .u32 n] w (AP B (l ++ four n) w) := by
  obtain ⟨i0, hi, hz0, hz1, hz2⟩ := info_parts Try.info5
  have HI : Hid (Try.prog.info? 5 = some i0 ∧ i0.zero = some (.int .u8 0) ∧ i0.size = 1 ∧ i0.bytes = 1) := ⟨hi, hz0, hz1, hz2⟩
  have HO : Hid (w.ownsRow B 5 1 v l.length (Lib.byteCells l)) := h
  have HF : Hid (Lib.byteCells (four n) = [.int .u8 ((n : Int) % 256), .int .u8 ((n : Int) / 256 % 256), .int .u8 ((n : Int) / 65536 % 256), .int .u8 ((n : Int) / 16777216)]) := four_list n hn
  have Hfin : Hid (∀ (v' : Value) (w1 : World) (o : Obj), w1.ownsRow B 5 1 v' (l.length + 4) (Lib.byteCells l ++ [.int .u8 ((n : Int) % 256), .int .u8 ((n : Int) / 256 % 256), .int .u8 ((n : Int) / 65536 % 256), .int .u8 ((n : Int) / 16777216)]) → (w.alloc o).grownBy w1 v.ownBlock → AP B (l ++ four n) w (.returned v') w1) := by
    intro v' w1 o ho hg
    refine ⟨v', rfl, ?_, ?_⟩
    · unfold Hid Own
      rw [Lib.byteCells_append, HF.out, List.length_append]
      exact ho
    · exact ((Below.refl _ w).alloc hB _).grown hg (by simp; omega) (fun j hj => (HO.out.lt j hj).1)
  clear hi hz0 hz1 hz2 h
  go_enter Try.func22, Try.ntmps22
  go_wp2_with (at_builtin; refine wpList_append_own_at _ rfl _ _ 48 rfl B 5 i0 (.int .u8 0) 1 1 Try.underlying48 HI.out.1 HI.out.2.1 HI.out.2.2.1 HI.out.2.2.2 rfl (by decide) _ _ _ rfl (HO.out.alloc _) ⟨w.heap.size, 0, none⟩ 4 4 [.int .u8 ((n : Int) % 256), .int .u8 ((n : Int) / 256 % 256), .int .u8 ((n : Int) / 65536 % 256), .int .u8 ((n : Int) / 16777216)] rfl rfl (cell_four_new _ _ _ _ _ _) (by rw [← HF.out]; exact one_bytes) (by unfold maxLen; omega) (by omega) (by simp; omega) ?_; intro v' w1 hown' hgrow _ _; have HO2 : Hid _ := hown'; have HGr : Hid _ := hgrow; clear hown' hgrow)
  go_ret
  exact Hfin.out v' w1 _ HO2.out HGr.out
set_option maxHeartbeats 4000000 in
theorem xsize (s : ByteArray) (hs : s.size ≤ 140737488355328) (w : World) : Calls Try.prog 16 #[.string s] w (NP .i64 ((s.size : Int) + 12) w) := by
  go_enter Try.func16, Try.ntmps16
  go_wp2_with fail
  go_ret
  exact NP.mk rfl
theorem made_len (n : Nat) : (madeCells #[Value.int .u8 0] n).size = n := by simp [madeCells]
theorem make_zero (n : Nat) (hn : n ≤ 281474976710656) (w : World) : (Instr.makeSlice 48 (.int .i64 0) (.int .i64 (n : Int))).run Try.prog w = .ok (.slice (some ⟨w.heap.size, 0, none⟩) 0 n) (w.alloc (.cells (madeCells #[.int .u8 0] n) 5)) := by
  obtain ⟨i0, hi, hz0, hz1, hz2⟩ := info_parts Try.info5
  have hr := run_make (P := Try.prog) w 48 5 i0 (.int .u8 0) Try.underlying48 hi hz0 .i64 .i64 0 n (by omega) (by omega) (by rw [hz2]; omega) (by omega)
  simp only [Int.toNat_natCast, hz1, Nat.mul_one] at hr
  exact hr
theorem own_text {B : Nat} {w : World} {v : Value} {l : List UInt8} (h : Own B w v l) : (convert 48 9 v).run Try.prog w = .ok (.string ⟨l.toArray⟩) w := by
  rcases h.2 with ⟨rfl, h0⟩ | ⟨g, cap, cur, rfl, hb, hg, h1, h2, h3, h4⟩
  · have hb : l = [] := List.length_eq_zero_iff.1 h0
    rw [hb, run_convert_bytes_string w 48 9 5 none 0 0 Try.underlying48 Try.underlying5 Try.underlying9]
    rfl
  · refine run_convert_bytes_back (P := Try.prog) w 48 9 5 ⟨g, 0, none⟩ cap l Try.underlying48 Try.underlying5 Try.underlying9 (fun j hj => ?_)
    refine h.cells (g := g) rfl j _ ?_
    simp only [Lib.byteCells, List.getElem?_map, List.getElem?_eq_getElem hj]
    rfl
theorem app_str {B : Nat} {w : World} {v : Value} {l : List UInt8} (h : Own B w v l) (hB : B ≤ w.heap.size) (s : ByteArray) (hs : l.length + s.size ≤ 1048576) :
    ∃ v' w', (Builtin.append_ #[48, 9] 48 #[v, .string s]).run Try.prog w = .ok v' w' ∧ Own B w' v' (l ++ s.data.toList) ∧ Below B w w' := by
  obtain ⟨i0, hi, hz, h1, h2⟩ := info_parts Try.info5
  obtain ⟨v', w', hr, ho, hg, hn⟩ := Lib.run_append_own_string (P := Try.prog) w B 48 9 48 5 i0 Try.underlying48 Try.underlying9 hi hz h1 h2 v l.length _ h s (by unfold maxLen; omega) (by omega) hB
  refine ⟨v', w', hr, ?_, (Below.refl _ w).grown hg hB fun j hj => (h.lt j hj).1⟩
  unfold Own
  rw [Lib.byteCells_append, List.length_append]
  exact ho
set_option maxHeartbeats 4000000 in
theorem xput (s : ByteArray) (w : World) : Calls Try.prog 10 #[.string s] w (MB (put s.data.toList) (putE s.data.toList) w) := by
  have HL : Hid (s.data.toList.length = s.size) := rfl
  by_cases h : s.size ≤ 4096
  · have hz : ¬ (4096 : Int) < (s.size : Int) := by omega
    have HA : Hid (put s.data.toList = putL s.data.toList) := put_yes h
    have HE : Hid (putE s.data.toList = 0) := putE_yes h
    have hsl := sumN_lt s.data.toList
    have HS : Hid (∀ w, Calls Try.prog 14 #[.string s] w (NP .u32 (sumN s.data.toList) w)) := fun w => xsum s (by omega) w
    have HZ : Hid (∀ w, Calls Try.prog 16 #[.string s] w (NP .i64 ((s.size : Int) + 12) w)) := fun w => xsize s (by omega) w
    have hnot := not32 s.size (by omega)
    have hmk : ∀ w, (Instr.makeSlice 48 (.int .i64 0) (.int .i64 ((s.size : Int) + 12))).run Try.prog w = .ok (.slice (some ⟨w.heap.size, 0, none⟩) 0 (s.size + 12)) (w.alloc (.cells (madeCells #[.int .u8 0] (s.size + 12)) 5)) := fun w => make_zero (s.size + 12) (by omega) w
    have HO0 : Hid (Own w.heap.size (w.alloc (.cells (madeCells #[.int .u8 0] (s.size + 12)) 5)) (.slice (some ⟨w.heap.size, 0, none⟩) 0 (s.size + 12)) []) := World.ownsRow_made w _ _ (Nat.le_refl _) (by unfold maxLen; omega) (by rw [made_len, Nat.mul_one])
    have HB0 : Hid (Below w.heap.size w (w.alloc (.cells (madeCells #[.int .u8 0] (s.size + 12)) 5))) := below_new w _
    go_enter Try.func10, Try.ntmps10
    go_wp2_with fail
    refine (HZ.out _).mono ?_
    rintro e w1 ⟨rfl, rfl⟩
    go_wp2_with fail
    refine (xadd w.heap.size _ [] s.size (by omega) _ HB0.out.size (by simp) HO0.out).mono ?_
    rintro e w2 ⟨v2, rfl, HO2, HB2⟩
    have HB3 : Hid (Below w.heap.size w w2) := HB0.out.trans HB2.out
    clear HB2 HB0 HO0 hmk
    go_wp2_with fail
    refine (xadd w.heap.size _ _ (4294967295 - s.size) (by omega) _ HB3.out.size (by simp [four_len]) HO2.out).mono ?_
    rintro e w3 ⟨v3, rfl, HO3, HB4⟩
    have HB5 : Hid (Below w.heap.size w w3) := HB3.out.trans HB4.out
    clear HB4 HB3 HO2 hnot
    obtain ⟨v4, w4, hr, ho, hb⟩ := app_str HO3.out HB5.out.size s (by simp [four_len]; omega)
    have HO4 : Hid (Own _ w4 v4 _) := ho
    have HB6 : Hid (Below w.heap.size w w4) := HB5.out.trans hb
    have HR : Hid _ := hr
    clear ho hb HO3 HB5 hr
    go_wp2_with (at_builtin; refine Lib.wpList_append_run _ rfl _ _ 48 9 rfl _ _ rfl rfl _ w4 HR.out ?_)
    refine (HS.out _).mono ?_
    rintro e w5 ⟨rfl, rfl⟩
    go_wp2_with fail
    refine (xadd w.heap.size _ _ (sumN s.data.toList) hsl _ HB6.out.size (by simp [four_len]; omega) HO4.out).mono ?_
    rintro e w5 ⟨v5, rfl, HO5, HB7⟩
    have HB8 : Hid (Below w.heap.size w w5) := HB6.out.trans HB7.out
    have hcv := own_text HO5.out
    clear HB7 HB6 HO4
    go_wp2_with fail
    go_ret2
    exact MB.mk (by rw [HA.out]; unfold putL; simp [HL.out]) (by rw [HE.out]; rfl) HB8.out
  · have hz : (4096 : Int) < (s.size : Int) := by omega
    have HA : Hid (put s.data.toList = []) := put_no h
    have HE : Hid (putE s.data.toList = 2) := putE_no h
    go_enter Try.func10, Try.ntmps10
    go_wp2_with fail
    go_ret2
    exact MB.mk (by rw [HA.out]) (by rw [HE.out]; rfl) (Below.refl _ _)
end Go.Proofs.Ytpddddnjmklfdaa
