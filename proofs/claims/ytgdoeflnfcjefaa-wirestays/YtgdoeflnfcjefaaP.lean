/- The reference's reader, by value: numbers, fail, Uint. -/
import Derived.Test.YtgdoeflnfcjefaaE
import Derived.WalkKit
import Derived.ProofKit
import Derived.Handy
import Derived.WalkLawsBesides
import Derived.WalkSpells
import Derived.BigQuiet
import Derived.BigCall
import Derived.Deep.QuietTactic
import Derived.Deep.Light
import Derived.Deep.OwnRows
import Derived.Laws.AppendOwnNone
import Derived.Laws.Strings3
import Derived.Laws.RangeAny
import Derived.Deep.RegionWith
import Derived.Lib.BitFns
import Derived.Lib.Walk
import Derived.Lib.Strings
import Derived.Lib.OthersKept
import Derived.Deep.CutBlock
import Derived.Deep.DeepCutAuto
import Derived.Deep.LoopGhost
import Derived.Deep.RegionHeld3
import Derived.Lib.SmallJoins
import Derived.Maps.AppendAt
import Derived.Laws.IdiomStrings
import Derived.Lib.AppendZeros
import Derived.Deep.WholeRow
import Derived.Laws.BitsAllLaws
import Derived.Lib.ConvBytes
import Derived.Deep.RegionLaw
namespace Go.Proofs.Ytgdoeflnfcjefaa
open Go.RowKit
set_option linter.unusedVariables false
set_option linter.unusedSimpArgs false
/-- so many groups were met, none of them the last one -/
structure Jn (D : List UInt8) (j : Nat) : Prop where
  le : j ≤ D.length
  ten : j ≤ 10
  high : High (D.take j)
  head : 0 < j → D.head? ≠ some 128
  is : D.head? ≠ some 128 → rdU D = rdF (D.drop j) (gv 0 (D.take j)) j
theorem Jn.zero (D : List UInt8) : Jn D 0 := ⟨Nat.zero_le _, by omega, fun c h => by simp at h, fun h => absurd h (Nat.lt_irrefl 0), fun h => by unfold rdU; rw [if_neg h]; rfl⟩
theorem head_ne {D : List UInt8} {j : Nat} (J : Jn D j) {c : UInt8} (hc : D[j]? = some c) (h : ¬ (j = 0 ∧ c.toNat = 128)) : D.head? ≠ some 128 := by
  by_cases h0 : 0 < j
  · exact J.head h0
  · have : j = 0 := by omega
    subst this
    rw [List.head?_eq_getElem?, hc]
    intro e
    exact h ⟨rfl, by rw [Option.some.inj e]; rfl⟩
theorem Jn.short {D : List UInt8} {j : Nat} (J : Jn D j) (h : D.length ≤ j) : rdU D = (14, 0, 0) := by
  have hd : D.drop j = [] := List.drop_of_length_le h
  by_cases h0 : 0 < j
  · rw [J.is (J.head h0), hd]
    rfl
  · have : D = [] := List.length_eq_zero_iff.1 (by omega)
    rw [this]
    rfl
theorem drop_cons {D : List UInt8} {j : Nat} {c : UInt8} (hc : D[j]? = some c) : D.drop j = c :: D.drop (j + 1) := by
  obtain ⟨h, e⟩ := List.getElem?_eq_some_iff.1 hc
  rw [List.drop_eq_getElem_cons h, e]
theorem take_snoc {D : List UInt8} {j : Nat} {c : UInt8} (hc : D[j]? = some c) : D.take (j + 1) = D.take j ++ [c] := by
  obtain ⟨h, e⟩ := List.getElem?_eq_some_iff.1 hc
  rw [List.take_succ_eq_append_getElem h, e]
theorem take_head {D : List UInt8} {j : Nat} (h : 0 < j) : (D.take j).head? = D.head? := by
  cases j with
  | zero => exact absurd h (Nat.lt_irrefl 0)
  | succ j => cases D <;> rfl
theorem Jn.much {D : List UInt8} {j : Nat} (J : Jn D j) (hn : D.head? ≠ some 128) : 144115188075855872 ≤ gv 0 (D.take j) ↔ j = 10 ∨ j = 9 ∧ ∃ c, D.head? = some c ∧ 129 < c.toNat := by
  have hl : (D.take j).length = j := by rw [List.length_take]; have := J.le; omega
  by_cases h0 : 0 < j
  · have := gv_much J.high (by rw [take_head h0]; exact hn) (by rw [hl]; exact J.ten)
    rw [hl, take_head h0] at this
    exact this
  · have : j = 0 := by omega
    subst this
    simp [gv]
theorem Jn.form1 {D : List UInt8} {c : UInt8} (hc : D[0]? = some c) (h : c.toNat = 128) : rdU D = (15, 0, 0) := by
  unfold rdU
  rw [if_pos]
  rw [List.head?_eq_getElem?, hc]
  exact congrArg some (UInt8.toNat_inj.mp h)
theorem Jn.form2 {D : List UInt8} {j : Nat} (J : Jn D j) {c d : UInt8} (hc : D[j]? = some c) (hd : D[0]? = some d) (h0 : ¬ (j = 0 ∧ c.toNat = 128)) (h : j = 10 ∨ j = 9 ∧ 129 < d.toNat) : rdU D = (15, 0, 0) := by
  have hn := head_ne J hc h0
  rw [J.is hn, drop_cons hc]
  refine rdF_big ((J.much hn).2 ?_)
  rcases h with h | h
  · exact .inl h
  · exact .inr ⟨h.1, d, by rw [List.head?_eq_getElem?]; exact hd, h.2⟩
theorem Jn.small {D : List UInt8} {j : Nat} (J : Jn D j) {c d : UInt8} (hc : D[j]? = some c) (hd : D[0]? = some d) (h0 : ¬ (j = 0 ∧ c.toNat = 128)) (h : ¬ (j = 10 ∨ j = 9 ∧ 129 < d.toNat)) : ¬ 144115188075855872 ≤ gv 0 (D.take j) := by
  intro hm
  refine h ?_
  rcases (J.much (head_ne J hc h0)).1 hm with h | ⟨h, x, hx, hx2⟩
  · exact .inl h
  · rw [List.head?_eq_getElem?, hd] at hx
    rw [← Option.some.inj hx] at hx2
    exact .inr ⟨h, hx2⟩
theorem Jn.last {D : List UInt8} {j : Nat} (J : Jn D j) {c : UInt8} (hc : D[j]? = some c) (h0 : ¬ (j = 0 ∧ c.toNat = 128)) (h : ¬ 144115188075855872 ≤ gv 0 (D.take j)) (h1 : c.toNat < 128) : rdU D = (0, gv 0 (D.take (j + 1)), j + 1) := by
  rw [J.is (head_ne J hc h0), drop_cons hc, rdF_last h h1, take_snoc hc, gv_snoc, Nat.mod_eq_of_lt h1]
theorem Jn.more {D : List UInt8} {j : Nat} (J : Jn D j) {c : UInt8} (hc : D[j]? = some c) (h0 : ¬ (j = 0 ∧ c.toNat = 128)) (h : ¬ 144115188075855872 ≤ gv 0 (D.take j)) (h10 : j ≠ 10) (h1 : ¬ c.toNat < 128) : Jn D (j + 1) := by
  have hn := head_ne J hc h0
  refine ⟨?_, by have := J.ten; omega, ?_, fun _ => hn, fun _ => ?_⟩
  · obtain ⟨h, _⟩ := List.getElem?_eq_some_iff.1 hc
    exact h
  · intro x hx
    rw [take_snoc hc] at hx
    rcases List.mem_append.1 hx with hx | hx
    · exact J.high x hx
    · rw [List.mem_singleton.1 hx]
      omega
  · rw [J.is hn, drop_cons hc, rdF_more h h1, take_snoc hc, gv_snoc]
theorem gv_take_le (D : List UInt8) {i j : Nat} (h : i ≤ j) : gv 0 (D.take i) ≤ gv 0 (D.take j) := by
  have e : D.take j = D.take i ++ (D.take j).drop i := by
    have := List.take_append_drop i (D.take j)
    rw [List.take_take, Nat.min_eq_left h] at this
    exact this.symm
  rw [e, gv_app]
  exact gv_le _ _
/-- the three cells -/
def qcells (r : Rd) : Array Value := #[.string ⟨r.s.toArray⟩, .int .i64 r.at_, .int .i64 r.e]
/-- a reference's reader in memory -/
structure Rq (w : World) (z : Nat) (r : Rd) : Prop where
  blk : w.heap[z]? = some (.cells (qcells r) 39 (0, 0))
section
variable {w w' : World} {z : Nat} {r : Rd}
theorem Rq.lt (h : Rq w z r) : z < w.heap.size := (Array.getElem?_eq_some_iff.1 h.blk).1
theorem Rq.cell (h : Rq w z r) (j : Nat) : w.cell? ⟨z, j, none⟩ = (qcells r)[j]? := cell_of_row w z j _ 39 (0, 0) h.blk
theorem Rq.froz (h : Rq w z r) (j : Nat) : w.frozen? ⟨z, j, none⟩ = false := by
  have := h.blk
  simp [World.frozen?, this]
theorem Rq.same (h : Rq w z r) (hb : w'.heap[z]? = w.heap[z]?) : Rq w' z r := ⟨hb.trans h.blk⟩
theorem Rq.drewN (h : Rq w z r) (n : Nat) : Rq (w.drewN n) z r := h.same rfl
theorem Rq.keep (h : Rq w z r) (hb : Below w.heap.size w w') : Rq w' z r := h.same (hb.block z h.lt)
theorem Rq.new (w : World) (r : Rd) : Rq (w.alloc (.cells (qcells r) 39)) w.heap.size r := ⟨heap_alloc_new w _⟩
theorem Rq.setAt (h : Rq w z r) (n : Nat) : Rq (w.setCell ⟨z, 1, none⟩ (.int .i64 n)) z { r with at_ := n } := ⟨by rw [set_blk h.blk]; rfl⟩
theorem Rq.setE (h : Rq w z r) (n : Nat) : Rq (w.setCell ⟨z, 2, none⟩ (.int .i64 n)) z { r with e := n } := ⟨by rw [set_blk h.blk]; rfl⟩
end
/-- a call that hands a reader back, and something else -/
def QP (v : Value) (r : Rd) (w : World) (e : Ending) (w' : World) : Prop := e = .returned (.tuple #[.agg (qcells r), v]) ∧ Hid (Below w.heap.size w w')
set_option maxHeartbeats 1000000 in
theorem qfail (r : Rd) (e : Nat) (w : World) : Calls Try.prog 48 #[.agg (qcells r), .int .i64 e] w fun x w' => x = .returned (.agg (qcells (r.fl e))) ∧ Below w.heap.size w w' := by
  unfold qcells Rd.fl
  by_cases h0 : r.e = 0
  · have hz : ((r.e : Int) == 0) = true := by rw [h0]; rfl
    rw [if_pos h0]
    simp only
    generalize (⟨r.s.toArray⟩ : ByteArray) = S
    generalize r.at_ = a
    go_enter Try.func48, Try.ntmps48
    go_wp2
    go_returns
    exact ⟨rfl, by first | exact ((below_new w _).alloc (by simp) _) | skip⟩
  · have hz : ((r.e : Int) == 0) = false := by rw [beq_eq_false_iff_ne]; omega
    rw [if_neg h0]
    generalize (⟨r.s.toArray⟩ : ByteArray) = S
    generalize r.at_ = a
    go_enter Try.func48, Try.ntmps48
    go_wp2
    go_returns
    exact ⟨rfl, by first | exact ((below_new w _).alloc (by simp) _) | skip⟩
end Go.Proofs.Ytgdoeflnfcjefaa
