/- FixnumSums: for every input the law returns true. No condition. Here: the walk of the law itself, out of the walks of what it calls. -/
import Derived.Test.YtjjcjgighdidcaaH
import Derived.WalkKit
import Derived.ProofKit
import Derived.Handy
import Derived.WalkLawsBesides
import Derived.WalkSpells
import Derived.BigQuiet
import Derived.Deep.QuietTactic
import Derived.Deep.Light
import Derived.Deep.OwnRows
namespace Go.Proofs.Ytjjcjgighdidcaa
open Go.RowKit
set_option linter.unusedVariables false
set_option linter.unusedSimpArgs false
/-- what the walk is told of a slice of integers that came in -/
def IsRow (k : IntKind) (w : World) (a : Option Addr) (len cap : Nat) (zs : List Int) : Prop :=
  (a = none ∧ len = 0 ∧ cap = 0 ∧ zs = []) ∨
  ∃ x, a = some x ∧ len ≤ cap ∧ cap ≤ maxLen ∧ zs.length = cap ∧ (∀ i, i < zs.length → w.cell? (x.add i) = some (.int k (zs.getD i 0))) ∧ ∀ n ∈ zs, (Lit.int k n).wf = true

theorem wf_i64 {a : Int} (h : (Lit.int .i64 a).wf = true) : -9223372036854775808 ≤ a ∧ a ≤ 9223372036854775807 := by
  simpa [Lit.wf, IntKind.min, IntKind.max, IntKind.signed, IntKind.bits] using h
theorem wf_u64 {a : Int} (h : (Lit.int .u64 a).wf = true) : 0 ≤ a ∧ a < 18446744073709551616 := by
  have : 0 ≤ a ∧ a ≤ 18446744073709551615 := by simpa [Lit.wf, IntKind.min, IntKind.max, IntKind.signed, IntKind.bits] using h
  omega

theorem IsRow.seg {w : World} {a : Option Addr} {len cap : Nat} {zs : List Int} (h : IsRow .i64 w a len cap zs) : Seg w (.slice a len cap) (zs.take len) ∧ Ints (zs.take len) := by
  rcases h with ⟨rfl, rfl, rfl, rfl⟩ | ⟨x, rfl, hl, hm, hz, hc, hw⟩
  · exact ⟨seg_nil w, by intro j; simp, by simp⟩
  · have hlen : (zs.take len).length = len := by simp; omega
    have hget : ∀ j, j < len → (zs.take len).getD j 0 = zs.getD j 0 := by
      intro j hj
      simp [List.getD_eq_getElem?_getD, List.getElem?_take, hj]
    refine ⟨⟨some x, cap, by rw [hlen], fun hne => ?_⟩, fun j => ?_, ?_⟩
    · have h0 : 0 < zs.length := by
        rcases Nat.eq_zero_or_pos zs.length with h | h
        · exact absurd (by simp [List.eq_nil_of_length_eq_zero h]) hne
        · exact h
      obtain ⟨b, off, rfl, hc'⟩ := ints_at hc h0
      have hb := World.block_lt_of_cell? w _ (hc' 0 h0)
      refine ⟨b, off, rfl, hb, fun j hj => ?_⟩
      rw [hlen] at hj
      rw [hget j hj]
      exact hc' j (by omega)
    · by_cases hj : j < len
      · rw [hget j hj]
        refine wf_i64 (hw _ ?_)
        rw [List.getD_eq_getElem?_getD, List.getElem?_eq_getElem (show j < zs.length by omega)]
        exact List.getElem_mem _
      · rw [List.getD_eq_getElem?_getD, List.getElem?_eq_none (by omega)]
        simp
    · rw [hlen]
      simp only [maxLen] at hm
      omega

theorem sums_walk (a b : Int) (v : Value) (xs : List Int) (w : World) (ha : -9223372036854775808 ≤ a ∧ a ≤ 9223372036854775807) (hb : -9223372036854775808 ≤ b ∧ b ≤ 9223372036854775807) (hx : Ints xs) (hv : Seg w v xs) :
    Calls Try.prog 7 #[.int .i64 a, .int .i64 b, v] w (TruePost w) := by
  have HX : Hid (Ints xs) := hx
  have HV : Hid (Seg w v xs) := hv
  clear hx hv
  go_enter Try.func7, Try.ntmps7
  go_wp2_with fail
  refine (xplus a b ha hb _).mono ?_
  rintro e w1 ⟨rfl, rfl⟩
  go_wp2_with fail
  refine (rplus a b ha hb _).mono ?_
  rintro e w1 ⟨rfl, rfl⟩
  generalize fitS (a + b) = p1
  generalize fitE (a + b) = p2
  go_wp2_with fail
  refine (xminus a b ha hb _).mono ?_
  rintro e w1 ⟨rfl, rfl⟩
  go_wp2_with fail
  refine (rminus a b ha hb _).mono ?_
  rintro e w1 ⟨rfl, rfl⟩
  generalize fitS (a - b) = p3
  generalize fitE (a - b) = p4
  go_wp2_with fail
  refine (xsum xs v _ HX.out HV.out).mono ?_
  rintro e w1 ⟨rfl, rfl⟩
  go_wp2_with fail
  refine (rsum xs v _ HX.out HV.out).mono ?_
  rintro e w1 ⟨rfl, rfl⟩
  generalize sumS 0 xs = p5
  generalize sumE 0 xs = p6
  go_wp2_with fail
  refine (awake_true _).mono ?_
  rintro e w1 ⟨rfl, hb1⟩
  go_wp2
  go_ret
  exact ⟨rfl, hb1⟩
end Go.Proofs.Ytjjcjgighdidcaa
