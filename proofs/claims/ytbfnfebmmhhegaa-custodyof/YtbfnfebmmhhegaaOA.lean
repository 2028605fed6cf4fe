/- layer 11: a balance by itself; sums in two parts -/
import Derived.Test.YtbfnfebmmhhegaaD
import Derived.Test.YtbfnfebmmhhegaaNA
import Derived.WalkKit
import Derived.ProofKit
import Derived.Handy
import Derived.WalkLawsBesides
import Derived.WalkSpells
import Derived.BigQuiet
import Derived.BigCall
import Derived.Deep.QuietTactic
import Derived.Deep.Light
import Derived.Deep.OwnRows
import Derived.Laws.AppendOwnNone
import Derived.Laws.Strings3
import Derived.Laws.RangeAny
import Derived.Deep.RegionWith
import Derived.Lib.BitFns
import Derived.Lib.Walk
import Derived.Lib.Strings
import Derived.Lib.OthersKept
import Derived.Deep.CutBlock
import Derived.Deep.DeepCutAuto
import Derived.Deep.LoopGhost
import Derived.Deep.RegionHeld3
import Derived.Lib.SmallJoins
import Derived.Maps.AppendAt
import Derived.Laws.IdiomStrings
import Derived.Lib.AppendZeros
import Derived.Deep.WholeRow
import Derived.Laws.BitsAllLaws
import Derived.Lib.ConvBytes
import Derived.Deep.RegionLaw
import Derived.Maps.OwnSet
import Derived.Maps.OwnOps
import Derived.Maps.RangeWalk
import Derived.Maps.Ext
import Derived.DeepKeys4
import Derived.Laws.StructEq
import Derived.Shelf.SlSortCmp.NoneTotal
import Derived.Deep.MidRow
import Derived.Laws.MakeOwn
import Derived.Sort.OwnSorted
import Derived.Lib.SlicesCompact
import Derived.Lib.RowBridge
namespace Go.Proofs.Ytbfnfebmmhhegaa
open Go.RowKit
set_option linter.unusedVariables false
set_option linter.unusedSimpArgs false
set_option maxRecDepth 20000
def BwP (p : Num.Bal) (w : World) (e : Ending) (w' : World) : Prop := e = .returned (.int .i64 (Num.balw p)) ∧ Below w.heap.size w w'
theorem balw_first {o b n : Int} {t : List UInt8} (h : Num.wr (o, b, t) ≠ 0) : Num.balw ((o, b, t), n) = Num.wr (o, b, t) := by unfold Num.balw; exact if_pos h
theorem balw_one {o b n : Int} {t : List UInt8} (h : Num.wr (o, b, t) = 0) (h2 : n = 0 ∨ (n < 0 ∧ 0 < o) ∨ n < -72057594037927936 ∨ 72057594037927936 < n) : Num.balw ((o, b, t), n) = 1 := by unfold Num.balw; rw [if_neg (by simp [h])]; exact if_pos h2
theorem balw_zero {o b n : Int} {t : List UInt8} (h : Num.wr (o, b, t) = 0) (h2 : ¬ (n = 0 ∨ (n < 0 ∧ 0 < o) ∨ n < -72057594037927936 ∨ 72057594037927936 < n)) : Num.balw ((o, b, t), n) = 0 := by unfold Num.balw; rw [if_neg (by simp [h])]; exact if_neg h2
set_option maxHeartbeats 4000000 in
theorem xbalw (o b : Int) (s : ByteArray) (n : Int) (w : World) : Calls Try.prog 67 #[.agg #[.int .i64 o, .int .i64 b, .string s, .int .i64 n]] w (BwP ((o, b, s.toList), n) w) := by
  have HB : Hid (∀ x y, Below w.heap.size w ((w.alloc x).alloc y)) := fun x y => ((Below.refl _ w).alloc (Nat.le_refl _) _).alloc (by simp) _
  have HC : Hid (∀ w, Calls Try.prog 79 #[.agg #[.int .i64 o, .int .i64 b, .string s]] w fun e w' => e = .returned (.int .i64 (Num.wr (o, b, s.toList))) ∧ w' = w.alloc (.cells #[.int .i64 o, .int .i64 b, .string s] 69)) := fun w => xwrong o b s w
  by_cases h1 : Num.wr (o, b, s.toList) = 0
  · have ho := Num.wr_ok.1 h1
    have ho0 : 0 ≤ o := ho.1
    rw [h1] at HC
    by_cases hn0 : n = 0
    · have hr := balw_one (n := n) h1 (.inl hn0)
      have hn0' : (n == 0) = true := by simp [hn0]
      have HF : Hid (∀ w', Below w.heap.size w w' → BwP ((o, b, s.toList), n) w (.returned (.int .i64 1)) w') := fun w' hb => ⟨by rw [hr], hb⟩
      clear hr ho h1 hn0
      by_cases hoz : o = 0
      · have hoz' : (o == 0) = true := by simp [hoz]
        clear hoz
        go_enter Try.func67, Try.ntmps67
        go_wp2_with (go_at_call 79; refine (HC.out _).mono ?_; rintro e w1 ⟨rfl, rfl⟩)
        go_ret
        exact HF.out _ (HB.out _ _)
      · have hoz' : (o == 0) = false := by simp [hoz]
        clear hoz
        go_enter Try.func67, Try.ntmps67
        go_wp2_with (go_at_call 79; refine (HC.out _).mono ?_; rintro e w1 ⟨rfl, rfl⟩)
        go_ret
        exact HF.out _ (HB.out _ _)
    · have hn0' : (n == 0) = false := by simp [hn0]
      by_cases hoz : o = 0
      · have hoz' : (o == 0) = true := by simp [hoz]
        by_cases hlo : n < -72057594037927936
        · have hr := balw_one (n := n) h1 (.inr (.inr (.inl hlo)))
          have HF : Hid (∀ w', Below w.heap.size w w' → BwP ((o, b, s.toList), n) w (.returned (.int .i64 1)) w') := fun w' hb => ⟨by rw [hr], hb⟩
          clear hr ho h1 hn0 hoz
          go_enter Try.func67, Try.ntmps67
          go_wp2_with (go_at_call 79; refine (HC.out _).mono ?_; rintro e w1 ⟨rfl, rfl⟩)
          go_ret
          exact HF.out _ (HB.out _ _)
        by_cases hhi : 72057594037927936 < n
        · have hr := balw_one (n := n) h1 (.inr (.inr (.inr hhi)))
          have HF : Hid (∀ w', Below w.heap.size w w' → BwP ((o, b, s.toList), n) w (.returned (.int .i64 1)) w') := fun w' hb => ⟨by rw [hr], hb⟩
          clear hr ho h1 hn0 hoz
          go_enter Try.func67, Try.ntmps67
          go_wp2_with (go_at_call 79; refine (HC.out _).mono ?_; rintro e w1 ⟨rfl, rfl⟩)
          go_ret
          exact HF.out _ (HB.out _ _)
        · have hr := balw_zero (n := n) h1 (by omega)
          have HF : Hid (∀ w', Below w.heap.size w w' → BwP ((o, b, s.toList), n) w (.returned (.int .i64 0)) w') := fun w' hb => ⟨by rw [hr], hb⟩
          clear hr ho h1 hn0 hoz
          go_enter Try.func67, Try.ntmps67
          go_wp2_with (go_at_call 79; refine (HC.out _).mono ?_; rintro e w1 ⟨rfl, rfl⟩)
          go_ret
          exact HF.out _ (HB.out _ _)
      · have hoz' : (o == 0) = false := by simp [hoz]
        by_cases hlo : n < 0
        · have hr := balw_one (n := n) h1 (.inr (.inl ⟨hlo, by omega⟩))
          have HF : Hid (∀ w', Below w.heap.size w w' → BwP ((o, b, s.toList), n) w (.returned (.int .i64 1)) w') := fun w' hb => ⟨by rw [hr], hb⟩
          clear hr ho h1 hn0 hoz
          go_enter Try.func67, Try.ntmps67
          go_wp2_with (go_at_call 79; refine (HC.out _).mono ?_; rintro e w1 ⟨rfl, rfl⟩)
          go_ret
          exact HF.out _ (HB.out _ _)
        by_cases hhi : 72057594037927936 < n
        · have hr := balw_one (n := n) h1 (.inr (.inr (.inr hhi)))
          have HF : Hid (∀ w', Below w.heap.size w w' → BwP ((o, b, s.toList), n) w (.returned (.int .i64 1)) w') := fun w' hb => ⟨by rw [hr], hb⟩
          clear hr ho h1 hn0 hoz
          go_enter Try.func67, Try.ntmps67
          go_wp2_with (go_at_call 79; refine (HC.out _).mono ?_; rintro e w1 ⟨rfl, rfl⟩)
          go_ret
          exact HF.out _ (HB.out _ _)
        · have hr := balw_zero (n := n) h1 (by omega)
          have HF : Hid (∀ w', Below w.heap.size w w' → BwP ((o, b, s.toList), n) w (.returned (.int .i64 0)) w') := fun w' hb => ⟨by rw [hr], hb⟩
          clear hr ho h1 hn0 hoz
          go_enter Try.func67, Try.ntmps67
          go_wp2_with (go_at_call 79; refine (HC.out _).mono ?_; rintro e w1 ⟨rfl, rfl⟩)
          go_ret
          exact HF.out _ (HB.out _ _)
  · have hr := balw_first (n := n) h1
    have h1' : (Num.wr (o, b, s.toList) != 0) = true := by simp [h1]
    have HF : Hid (∀ w', Below w.heap.size w w' → BwP ((o, b, s.toList), n) w (.returned (.int .i64 (Num.wr (o, b, s.toList)))) w') := fun w' hb => ⟨by rw [hr], hb⟩
    generalize Num.wr (o, b, s.toList) = W0 at *
    clear hr h1
    go_enter Try.func67, Try.ntmps67
    go_wp2_with (go_at_call 79; refine (HC.out _).mono ?_; rintro e w1 ⟨rfl, rfl⟩)
    go_ret
    exact HF.out _ (HB.out _ _)
theorem and32 (n : Int) : bits .and .i64 n 4294967295 = n % 4294967296 := by
  show IntKind.i64.wrap ((BitVec.ofInt 64 n &&& BitVec.ofInt 64 4294967295).toNat : Int) = _
  have e1 : (BitVec.ofInt 64 4294967295).toNat = 2 ^ 32 - 1 := by decide
  rw [BitVec.toNat_and, e1, Nat.and_two_pow_sub_one_eq_mod, BitVec.toNat_ofInt, IntKind.wrap_i64]
  have h1 : ((n % ((2 ^ 64 : Nat) : Int)).toNat : Int) = n % 18446744073709551616 := by
    rw [Int.toNat_of_nonneg (Int.emod_nonneg _ (by decide))]
    rfl
  have h2 : (((n % ((2 ^ 64 : Nat) : Int)).toNat % 2 ^ 32 : Nat) : Int) = (n % 18446744073709551616) % 4294967296 := by
    rw [Int.natCast_emod, h1]
    rfl
  rw [h2]
  omega
set_option maxHeartbeats 4000000 in
theorem xplus (V n : Int) (h1 : -8000000000000000000 ≤ V) (h2 : V ≤ 8000000000000000000) (h3 : -72057594037927936 ≤ n) (h4 : n ≤ 72057594037927936) (w : World) : Calls Try.prog 83 #[.agg #[.int .i64 (V / 4294967296), .int .i64 (V % 4294967296)], .int .i64 n] w fun e w' => e = .returned (.agg #[.int .i64 ((V + n) / 4294967296), .int .i64 ((V + n) % 4294967296)]) ∧ Below w.heap.size w w' := by
  have HB : Hid (∀ x y, Below w.heap.size w ((w.alloc x).alloc y)) := fun x y => ((Below.refl _ w).alloc (Nat.le_refl _) _).alloc (by simp) _
  have HE1 : Hid (wrap64 (wrap64 (V / 4294967296 + n / 4294967296) + wrap64 (V % 4294967296 + bits .and .i64 n 4294967295) / 4294967296) = (V + n) / 4294967296) := by
    unfold Hid
    rw [and32]
    have e1 : wrap64 (V / 4294967296 + n / 4294967296) = V / 4294967296 + n / 4294967296 := by unfold wrap64; omega
    have e2 : wrap64 (V % 4294967296 + n % 4294967296) = V % 4294967296 + n % 4294967296 := by unfold wrap64; omega
    rw [e1, e2]
    unfold wrap64
    omega
  have HE2 : Hid (bits .and .i64 (wrap64 (V % 4294967296 + bits .and .i64 n 4294967295)) 4294967295 = (V + n) % 4294967296) := by
    unfold Hid
    rw [and32, and32]
    have e2 : wrap64 (V % 4294967296 + n % 4294967296) = V % 4294967296 + n % 4294967296 := by unfold wrap64; omega
    rw [e2]
    omega
  generalize (V + n) / 4294967296 = R1 at *
  generalize (V + n) % 4294967296 = R2 at *
  generalize V / 4294967296 = H at *
  generalize V % 4294967296 = L at *
  clear h1 h2 h3 h4
  go_enter Try.func83, Try.ntmps83
  go_wp2_with fail
  go_returns
  exact ⟨by rw [HE1.out, HE2.out], HB.out _ _⟩
theorem neq137 (a b : Int) (w : World) : (binOp .neq 137 (.agg #[.int .i64 a, .int .i64 b]) (.agg #[.int .i64 0, .int .i64 0])).run Try.prog w = .ok (.bool (decide (¬ (a = 0 ∧ b = 0)))) w := by
  by_cases h1 : a = 0
  · subst h1
    by_cases h2 : b = 0
    · subst h2; go_simp
    · have h2' : (b == 0) = false := by simp [h2]
      go_simp
  · have h1' : (a == 0) = false := by simp [h1]
    go_simp
theorem eql137 (a b : Int) (w : World) : (binOp .eql 137 (.agg #[.int .i64 a, .int .i64 b]) (.agg #[.int .i64 0, .int .i64 0])).run Try.prog w = .ok (.bool (decide (a = 0 ∧ b = 0))) w := by
  by_cases h1 : a = 0
  · subst h1
    by_cases h2 : b = 0
    · subst h2; go_simp
    · have h2' : (b == 0) = false := by simp [h2]
      go_simp
  · have h1' : (a == 0) = false := by simp [h1]
    go_simp
theorem two_zero (V : Int) : (V / 4294967296 = 0 ∧ V % 4294967296 = 0) ↔ V = 0 := by omega
end Go.Proofs.Ytbfnfebmmhhegaa
