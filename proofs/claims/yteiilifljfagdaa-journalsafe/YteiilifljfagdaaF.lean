/- The journal's addNumber, head and number. -/
import Derived.Test.YteiilifljfagdaaE
import Derived.WalkKit
import Derived.ProofKit
import Derived.Handy
import Derived.WalkLawsBesides
import Derived.WalkSpells
import Derived.BigQuiet
import Derived.BigCall
import Derived.Deep.QuietTactic
import Derived.Deep.Light
import Derived.Deep.OwnRows
import Derived.Laws.AppendOwnNone
import Derived.Laws.Strings3
import Derived.Laws.RangeAny
import Derived.Deep.RegionWith
import Derived.Lib.BitFns
import Derived.Lib.Walk
import Derived.Lib.Strings
import Derived.Lib.OthersKept
import Derived.Deep.CutBlock
import Derived.Deep.DeepCutAuto
import Derived.Deep.LoopGhost
import Derived.Deep.RegionHeld3
import Derived.Lib.SmallJoins
import Derived.Maps.AppendAt
import Derived.Laws.IdiomStrings
import Derived.Lib.AppendZeros
import Derived.Deep.WholeRow
import Derived.Laws.BitsAllLaws
import Derived.Lib.ConvBytes
namespace Go.Proofs.Yteiilifljfagdaa
open Go.RowKit
set_option linter.unusedVariables false
set_option linter.unusedSimpArgs false
theorem sevK_snoc (k : Nat) : ∀ n, sevK (k + 1) n = sevK k n ++ [(n / 256 ^ k % 256).toUInt8] := by
  induction k with
  | zero => intro n; simp [sevK]
  | succ k ih =>
    intro n
    rw [sevK, ih, sevK, List.cons_append, Nat.div_div_eq_div_mul, Nat.pow_succ, Nat.mul_comm 256]
theorem sevK_cells (k n : Nat) : Lib.byteCells (sevK (k + 1) n) = Lib.byteCells (sevK k n) ++ [.int .u8 ((n : Int) / 2 ^ (8 * k) % 256)] := by
  rw [sevK_snoc, Lib.byteCells_append]
  simp only [Lib.byteCells, List.map]
  rw [u8n _ (Nat.mod_lt _ (by omega))]
  have e : (256 : Nat) ^ k = 2 ^ (8 * k) := by rw [Nat.pow_mul]
  rw [e]
  generalize hm : 2 ^ (8 * k) = m
  have : ((2 : Int) ^ (8 * k)) = (m : Int) := by rw [← hm]; exact (Int.natCast_pow 2 (8 * k)).symm
  rw [this, Int.natCast_emod, Int.natCast_ediv]
  rfl
set_option maxHeartbeats 4000000 in
theorem xaddN (B : Nat) (v : Value) (l : List UInt8) (n : Nat) (hn : n < 9223372036854775808) (w : World) (hB : B ≤ w.heap.size) (hl : l.length ≤ 1099511627776) (h : Own B w v l) :
    Calls Try.prog 75 #[v, .int .i64 n] w (AP B (l ++ seven n) w) := by
  obtain ⟨i0, hi, hz0, hz1, hz2⟩ := info_parts Try.info5
  have HI : Hid (Try.prog.info? 5 = some i0 ∧ i0.zero = some (.int .u8 0) ∧ i0.size = 1 ∧ i0.bytes = 1) := ⟨hi, hz0, hz1, hz2⟩
  have HO : Hid (Own B w v l) := h
  clear hi hz0 hz1 hz2 h
  go_enter Try.func75, Try.ntmps75
  go_wp2_with fail
  go_loopw [0, 6] (fun v i wr => ∃ (k : Nat), i = .int .i64 k ∧ k ≤ 7 ∧ Hid (Own B wr v (l ++ sevK k n)) ∧ Hid (Below B w wr)) (fun _ i _ => 7 - (Lib.intOf i).toNat)
  case atStart => exact ⟨0, rfl, by omega, by unfold Hid; rw [show sevK 0 n = [] from rfl, List.append_nil]; exact HO.out, Below.refl _ _⟩
  case round =>
    clear HO
    obtain ⟨k, rfl, hk, HO, HB⟩ := hrel
    by_cases hkn : k < 7
    · have hkz : (k : Int) < 7 := by omega
      have HF : Hid (Lib.byteCells (sevK (k + 1) n) = Lib.byteCells (sevK k n) ++ [.int .u8 ((n : Int) / 2 ^ (8 * k) % 256)]) := sevK_cells k n
      have hsz := HB.out.size
      have hsl : (l ++ sevK k n).length ≤ 1099511627784 := by rw [List.length_append, sevK_len]; omega
      have Hfin : Hid (∀ (v' : Value) (w1 : World) (o : Obj), w1.ownsRow B 5 1 v' ((l ++ sevK k n).length + 1) (Lib.byteCells (l ++ sevK k n) ++ [.int .u8 ((n : Int) / 2 ^ (8 * k) % 256)]) → (wr.alloc o).grownBy w1 u0.ownBlock → (∃ (k' : Nat), Value.int .i64 ((k : Int) + 1) = .int .i64 k' ∧ k' ≤ 7 ∧ Hid (Own B w1 v' (l ++ sevK k' n)) ∧ Hid (Below B w w1)) ∧ 7 - (Lib.intOf (Value.int .i64 ((k : Int) + 1))).toNat < 7 - (Lib.intOf (Value.int .i64 (k : Int))).toNat) := by
        intro v' w1 o ho hg
        refine ⟨⟨k + 1, by rw [Int.natCast_add]; rfl, by omega, ?_, ?_⟩, by simp only [Lib.intOf]; omega⟩
        · unfold Hid Own
          rw [Lib.byteCells_append, HF.out, ← List.append_assoc, ← Lib.byteCells_append, List.length_append, sevK_len]
          rw [List.length_append, sevK_len] at ho
          exact ho
        · exact (HB.out.alloc (by omega) _).grown hg (by simp; omega) (fun j hj => (HO.out.lt j hj).1)
      have HO1 : Hid (wr.ownsRow B 5 1 u0 (l ++ sevK k n).length (Lib.byteCells (l ++ sevK k n))) := HO.out
      clear HF
      go_wp2_with (at_builtin; refine wpList_append_own_at _ rfl _ _ 55 rfl B 5 i0 (.int .u8 0) 1 1 Try.underlying55 HI.out.1 HI.out.2.1 HI.out.2.2.1 HI.out.2.2.2 rfl (by decide) _ _ _ rfl (HO1.out.alloc _) ⟨wr.heap.size, 0, none⟩ 1 1 [.int .u8 ((n : Int) / 2 ^ (8 * k) % 256)] rfl rfl (cell_one_new _ _ _) (by intro u hu; rw [List.mem_singleton] at hu; rw [hu]; rfl) (by unfold maxLen; omega) (by omega) (by simp; omega) ?_; intro v' w1 hown' hgrow _ _; have HO2 : Hid _ := hown'; have HGr : Hid _ := hgrow; clear hown' hgrow)
      exact Hfin.out v' w1 _ HO2.out HGr.out
    · have hkz : ¬ (k : Int) < 7 := by omega
      have hk7 : k = 7 := by omega
      subst hk7
      go_wp2_with fail
      go_ret
      exact ⟨_, rfl, HO.out, HB.out⟩
set_option maxHeartbeats 4000000 in
theorem xhead (g a n : Nat) (hg : g < 9223372036854775808) (ha : a < 9223372036854775808) (hn : n < 9223372036854775808) (w : World) : Calls Try.prog 61 #[.int .i64 g, .int .i64 a, .int .i64 n] w (SB (hd3 g a n) w) := by
  have hmk : ∀ w, (Instr.makeSlice 55 (.int .i64 0) (.int .i64 21)).run Try.prog w = .ok (.slice (some ⟨w.heap.size, 0, none⟩) 0 21) (w.alloc (.cells (madeCells #[.int .u8 0] 21) 5)) := fun w => make_zero 21 (by omega) w
  have HO0 : Hid (Own w.heap.size (w.alloc (.cells (madeCells #[.int .u8 0] 21) 5)) (.slice (some ⟨w.heap.size, 0, none⟩) 0 21) []) := World.ownsRow_made w _ _ (Nat.le_refl _) (by unfold maxLen; omega) (by rw [made_len])
  have HB0 : Hid (Below w.heap.size w (w.alloc (.cells (madeCells #[.int .u8 0] 21) 5))) := below_new w _
  go_enter Try.func61, Try.ntmps61
  go_wp2_with fail
  refine (xaddN w.heap.size _ [] g hg _ HB0.out.size (by simp) HO0.out).mono ?_
  rintro e w2 ⟨v2, rfl, HO2, HB2⟩
  have HB3 : Hid (Below w.heap.size w w2) := HB0.out.trans HB2.out
  clear HB2 HB0 HO0 hmk
  go_wp2_with fail
  refine (xaddN w.heap.size _ _ a ha _ HB3.out.size (by simp [seven_len]) HO2.out).mono ?_
  rintro e w3 ⟨v3, rfl, HO3, HB4⟩
  have HB5 : Hid (Below w.heap.size w w3) := HB3.out.trans HB4.out
  clear HB4 HB3 HO2
  go_wp2_with fail
  refine (xaddN w.heap.size _ _ n hn _ HB5.out.size (by simp [seven_len]) HO3.out).mono ?_
  rintro e w4 ⟨v4, rfl, HO4, HB6⟩
  have HB7 : Hid (Below w.heap.size w w4) := HB5.out.trans HB6.out
  have hcv := own_text HO4.out
  clear HB5 HB6 HO3
  go_wp2_with fail
  go_ret
  exact SB.mk (by simp [hd3]) HB7.out
/-- the number so far -/
theorem numL_snoc : ∀ (l : List UInt8) (b : UInt8), numL (l ++ [b]) = numL l + b.toNat * 256 ^ l.length := by
  intro l
  induction l with
  | nil => intro b; simp [numL]
  | cons a l ih =>
    intro b
    rw [List.cons_append, numL, ih, numL, List.length_cons, Nat.pow_succ, Nat.mul_add, Nat.add_assoc, Nat.mul_comm 256 (b.toNat * _), Nat.mul_assoc]
theorem numL_lt : ∀ (l : List UInt8), numL l < 256 ^ l.length := by
  intro l
  induction l with
  | nil => simp [numL]
  | cons a l ih =>
    rw [numL, List.length_cons, Nat.pow_succ]
    have := a.toNat_lt
    omega
theorem numb_lt (l : List UInt8) : numb l < 72057594037927936 := by
  have := numL_lt (l.take 7)
  have h2 : 256 ^ (l.take 7).length ≤ 256 ^ 7 := Nat.pow_le_pow_right (by omega) (by rw [List.length_take]; omega)
  unfold numb
  omega
theorem wr64 (n : Int) (h : -9223372036854775808 ≤ n ∧ n ≤ 9223372036854775807) : wrap64 n = n := by unfold wrap64; omega
theorem i64_or_nat (a b : Nat) (ha : a < 9223372036854775808) (hb : b < 9223372036854775808) : bits .or .i64 (a : Int) (b : Int) = ((a ||| b : Nat) : Int) := by
  have hx : a ||| b < 2 ^ 63 := Nat.or_lt_two_pow (by omega) (by omega)
  have h1 : (BitVec.ofInt 64 (a : Int)).toNat = a := by
    rw [BitVec.ofInt_natCast, BitVec.toNat_ofNat]; exact Nat.mod_eq_of_lt (by omega)
  have h2 : (BitVec.ofInt 64 (b : Int)).toNat = b := by
    rw [BitVec.ofInt_natCast, BitVec.toNat_ofNat]; exact Nat.mod_eq_of_lt (by omega)
  show IntKind.i64.wrap ((BitVec.ofInt 64 (a : Int) ||| BitVec.ofInt 64 (b : Int)).toNat : Int) = _
  rw [BitVec.toNat_or, h1, h2]
  rw [IntKind.wrap_i64]
  omega
theorem or_next (k acc b : Nat) (hk : k < 7) (ha : acc < 256 ^ k) (hb : b < 256) : bits .or .i64 (acc : Int) (wrap64 (wrap64 (b : Int) * 2 ^ (8 * k))) = ((acc + b * 256 ^ k : Nat) : Int) := by
  have e : (256 : Nat) ^ k = 2 ^ (8 * k) := by rw [Nat.pow_mul]
  have h48 : 2 ^ (8 * k) ≤ 2 ^ 48 := Nat.pow_le_pow_right (by omega) (by omega)
  have hm : b * 2 ^ (8 * k) < 9223372036854775808 := by
    have : b * 2 ^ (8 * k) ≤ 256 * 2 ^ 48 := Nat.mul_le_mul (by omega) h48
    omega
  have hp : ((2 : Int) ^ (8 * k)) = ((2 ^ (8 * k) : Nat) : Int) := (Int.natCast_pow 2 (8 * k)).symm
  rw [wr64 (b : Int) (by omega), hp, ← Int.natCast_mul, wr64 _ (by omega), i64_or_nat _ _ (by rw [e] at ha; omega) hm, or_add (8 * k) (by rw [← e]; exact ha), e]
theorem numL_take (s : ByteArray) (k : Nat) (h : k < s.size) : numL (s.data.toList.take (k + 1)) = numL (s.data.toList.take k) + s[k].toNat * 256 ^ k := by
  have hl : k < s.data.toList.length := h
  rw [List.take_succ_eq_append_getElem hl, numL_snoc, List.length_take, Nat.min_eq_left (Nat.le_of_lt hl)]
  rfl
set_option maxHeartbeats 4000000 in
theorem xnumb (s : ByteArray) (h7 : 7 ≤ s.size) (w : World) : Calls Try.prog 84 #[.string s] w (NP .i64 (numb s.data.toList) w) := by
  go_enter Try.func84, Try.ntmps84
  go_wp2_with fail
  go_loopw [3, 5] (fun v i wr => ∃ (k : Nat), i = .int .i64 k ∧ k ≤ 7 ∧ v = .int .i64 (numL (s.data.toList.take k)) ∧ w = wr) (fun _ i _ => 7 - (Lib.intOf i).toNat)
  case atStart => exact ⟨0, rfl, by omega, by rw [List.take_zero]; rfl, by first | rfl | trivial⟩
  case round =>
    obtain ⟨k, rfl, hk, rfl, rfl⟩ := hrel
    by_cases hkn : k < 7
    · have hkz : (k : Int) < 7 := by omega
      have hks : (k : Int) < (s.size : Int) := by omega
      have H1 : Hid (bits .or .i64 (numL (s.data.toList.take k) : Int) (wrap64 (wrap64 (s[k].toNat : Int) * 2 ^ (8 * k))) = ((numL (s.data.toList.take (k + 1)) : Nat) : Int)) := by
        unfold Hid
        rw [numL_take s k (by omega)]
        refine or_next k _ _ hkn ?_ s[k].toNat_lt
        have := numL_lt (s.data.toList.take k)
        rw [List.length_take, show s.data.toList.length = s.size from rfl, Nat.min_eq_left (by omega)] at this
        exact this
      go_wp2_with fail
      exact ⟨⟨k + 1, by rw [Int.natCast_add]; rfl, by omega, by rw [H1.out], by first | rfl | trivial⟩, by simp only [Lib.intOf]; omega⟩
    · have hkz : ¬ (k : Int) < 7 := by omega
      have hk7 : k = 7 := by omega
      subst hk7
      go_wp2_with fail
      go_ret
      exact NP.mk rfl
end Go.Proofs.Yteiilifljfagdaa
