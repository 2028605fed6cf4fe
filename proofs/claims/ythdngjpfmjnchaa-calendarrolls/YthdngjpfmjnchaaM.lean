/- CalendarMoves: for every input the law returns true. No condition. Here: the walk of the law itself, out of the walks of what it calls. -/
import Derived.Test.YthdngjpfmjnchaaL
import Derived.WalkKit
import Derived.ProofKit
import Derived.Handy
import Derived.WalkLawsBesides
import Derived.WalkSpells
import Derived.BigQuiet
import Derived.Deep.QuietTactic
import Derived.Deep.Light
import Derived.Deep.OwnRows
import Derived.Laws.AppendOwnNone
import Derived.Deep.RegionWith
import Derived.Lib.BitFns
import Derived.Lib.Walk
import Derived.Deep.CutBlock
import Derived.Deep.DeepCutAuto
import Derived.Deep.LoopGhost
import Derived.Deep.RegionHeld3
import Derived.Lib.SlicesCompact
import Derived.Laws.CopyOwn
import Derived.Sort.OwnSortedInts
namespace Go.Proofs.Ythdngjpfmjnchaa
open Go.RowKit
set_option linter.unusedVariables false
set_option linter.unusedSimpArgs false
/-- what the walk is told of a slice of integers that came in -/
def IsRow (k : IntKind) (w : World) (a : Option Addr) (len cap : Nat) (zs : List Int) : Prop :=
  (a = none ∧ len = 0 ∧ cap = 0 ∧ zs = []) ∨
  ∃ x, a = some x ∧ len ≤ cap ∧ cap ≤ maxLen ∧ zs.length = cap ∧ (∀ i, i < zs.length → w.cell? (x.add i) = some (.int k (zs.getD i 0))) ∧ ∀ n ∈ zs, (Lit.int k n).wf = true
theorem wf_i64 {a : Int} (h : (Lit.int .i64 a).wf = true) : -9223372036854775808 ≤ a ∧ a ≤ 9223372036854775807 := by
  simpa [Lit.wf, IntKind.min, IntKind.max, IntKind.signed, IntKind.bits] using h
theorem IsRow.seg {w : World} {a : Option Addr} {len cap : Nat} {zs : List Int} (h : IsRow .i64 w a len cap zs) : Seg w (.slice a len cap) (zs.take len) ∧ Ints (zs.take len) := by
  rcases h with ⟨rfl, rfl, rfl, rfl⟩ | ⟨x, rfl, hl, hm, hz, hc, hw⟩
  · exact ⟨seg_nil w, by intro j; simp, by simp⟩
  · have hlen : (zs.take len).length = len := by simp; omega
    have hget : ∀ j, j < len → (zs.take len).getD j 0 = zs.getD j 0 := by
      intro j hj
      simp [List.getD_eq_getElem?_getD, List.getElem?_take, hj]
    refine ⟨⟨some x, cap, by rw [hlen], fun hne => ?_⟩, fun j => ?_, ?_⟩
    · have h0 : 0 < zs.length := by
        rcases Nat.eq_zero_or_pos zs.length with h | h
        · exact absurd (by simp [List.eq_nil_of_length_eq_zero h]) hne
        · exact h
      obtain ⟨b, off, rfl, hc'⟩ := ints_at hc h0
      have hb := World.block_lt_of_cell? w _ (hc' 0 h0)
      refine ⟨b, off, rfl, hb, fun j hj => ?_⟩
      rw [hlen] at hj
      rw [hget j hj]
      exact hc' j (by omega)
    · by_cases hj : j < len
      · rw [hget j hj]
        refine wf_i64 (hw _ ?_)
        rw [List.getD_eq_getElem?_getD, List.getElem?_eq_getElem (show j < zs.length by omega)]
        exact List.getElem_mem _
      · rw [List.getD_eq_getElem?_getD, List.getElem?_eq_none (by omega)]
        simp
    · rw [hlen]
      simp only [maxLen] at hm
      omega

theorem TruePost.of {w w1 w' : World} {e : Ending} (h : TruePost w1 e w') (hb : Below w.heap.size w w1) : TruePost w e w' := ⟨h.1, hb.trans (h.2.mono hb.size)⟩

set_option maxHeartbeats 4000000 in
set_option maxRecDepth 100000 in
theorem moves_walk (xs : List Int) (v : Value) (day n : Int) (w : World) (hday : -9223372036854775808 ≤ day ∧ day ≤ 9223372036854775807) (hn : -9223372036854775808 ≤ n ∧ n ≤ 9223372036854775807) (hx : Ints xs) (hv : Seg w v xs) :
    Calls Try.prog 6 #[v, .int .i64 day, .int .i64 n] w (TruePost w) := by
  have HX : Hid (Ints xs) := hx
  have HV : Hid (Seg w v xs) := hv
  obtain ⟨ad, cap, rfl, -⟩ := hv
  have hlen : (xs.length : Int) ≤ 9223372036854775807 := by have := hx.2; omega
  clear hx
  go_enter Try.func6, Try.ntmps6
  go_wp2_with fail
  refine (xnew xs _ _ HX.out HV.out).mono ?_
  rintro e w1 ⟨pv, f, rfl, hb1, hcase⟩
  have W1 : Hid (Below w.heap.size w w1) := hb1
  have HV1 : Hid (Seg w1 (.slice ad xs.length cap) xs) := HV.out.below hb1
  clear hb1
  by_cases hf : f = 0
  case neg =>
    have hfb : (f != 0) = true := by simp [hf]
    clear hf
    go_wp2_with fail
    refine (awake_true _).mono ?_
    rintro e w2 h2
    have H2 : Hid (TruePost w e w2) := h2.of W1.out
    obtain ⟨rfl, -⟩ := h2
    go_wp2_with fail
    go_ret
    exact H2.out
  subst hf
  obtain ⟨hl256, p, rfl, hcal⟩ : xs.length ≤ 256 ∧ ∃ p, pv = .pointer (some ⟨p, 0, none⟩) ∧ Cal w1 p (srt xs) := by
    rcases hcase.out with h | h | h
    · exact absurd h.2.2 (by decide)
    · exact absurd h.2.2.2 (by decide)
    · exact ⟨h.1, h.2.2.2⟩
  have HC1 : Hid (Cal w1 p (srt xs)) := hcal
  clear hcal hcase
  by_cases hl60 : (60 : Int) < xs.length
  · have e1 : decide ((60 : Int) < xs.length) = true := decide_eq_true hl60
    clear hl60
    go_wp2_with fail
    refine (awake_true _).mono ?_
    rintro e w2 h2
    have H2 : Hid (TruePost w e w2) := h2.of W1.out
    obtain ⟨rfl, -⟩ := h2
    go_wp2_with fail
    go_ret
    exact H2.out
  have e1 : decide ((60 : Int) < xs.length) = false := decide_eq_false hl60
  clear hl60
  by_cases hn1 : 60 < n ∧ n ≤ 3660
  · have e2 : decide (60 < n) = true := decide_eq_true hn1.1
    have e3 : decide (n ≤ 3660) = true := decide_eq_true hn1.2
    go_wp2_with fail
    refine (awake_true _).mono ?_
    rintro e w2 h2
    have H2 : Hid (TruePost w e w2) := h2.of W1.out
    obtain ⟨rfl, -⟩ := h2
    go_wp2_with fail
    go_ret
    exact H2.out
  by_cases hn2 : n < -60 ∧ -3660 ≤ n
  · have e2 : decide (60 < n) = false := decide_eq_false (by omega)
    have e3 : decide (n < -60) = true := decide_eq_true hn2.1
    have e4 : decide (-3660 ≤ n) = true := decide_eq_true hn2.2
    clear hn1
    go_wp2_with fail
    refine (awake_true _).mono ?_
    rintro e w2 h2
    have H2 : Hid (TruePost w e w2) := h2.of W1.out
    obtain ⟨rfl, -⟩ := h2
    go_wp2_with fail
    go_ret
    exact H2.out
  have HS : Hid (∀ x, x ∈ srt xs ↔ x ∈ xs) := (srt_facts xs).1
  generalize srt xs = ys at HC1 HS
  have hcs : (decide (60 < n) = true ∧ decide (n ≤ 3660) = false ∧ decide (n < -60) = false) ∨ (decide (60 < n) = false ∧ decide (n < -60) = true ∧ decide (-3660 ≤ n) = false) ∨ (decide (60 < n) = false ∧ decide (n < -60) = false ∧ True) := by
    by_cases c1 : 60 < n
    · exact .inl ⟨decide_eq_true c1, decide_eq_false (fun q => hn1 ⟨c1, q⟩), decide_eq_false (by omega)⟩
    · by_cases c2 : n < -60
      · exact .inr (.inl ⟨decide_eq_false c1, decide_eq_true c2, decide_eq_false (fun q => hn2 ⟨c2, q⟩)⟩)
      · exact .inr (.inr ⟨decide_eq_false c1, decide_eq_false c2, trivial⟩)
  have HB : Hid (BoxV w1 (.slice ad xs.length cap) (w1.alloc (.cells #[.slice ad xs.length cap] 45))) := BoxV.new w1 _
  clear hn1 hn2 HV
  rcases hcs with ⟨e2, e3, e4⟩ | ⟨e2, e3, e4⟩ | ⟨e2, e3, e4⟩
  all_goals
    go_wp2_with fail
    refine (xnext p ys day _ hday (HC1.out.below HB.out.bel)).mono ?_
    rintro e w2 ⟨a, f, q, rfl, rfl, hna⟩
    go_wp2_with fail
    refine (rgo xs _ 1 day _ (.inl rfl) hday hl256 (HV1.out.below (below_drewN HB.out.bel))).mono ?_
    rintro e w3 ⟨b, g, rfl, hb3, hnb⟩
    obtain ⟨rfl, rfl⟩ := (hna.out.same HS.out).det hnb.out
    have HB3 : Hid (BoxV w1 (.slice ad xs.length cap) w3) := HB.out.below ⟨hb3.os, hb3.tape, hb3.output, hb3.size, hb3.block⟩
    have c3 := HB3.out.c0
    clear hna hnb hb3
    go_wp2_with fail
    refine (xback p ys day _ hday (HC1.out.below HB3.out.bel)).mono ?_
    rintro e w4 ⟨a2, f2, q2, rfl, rfl, hna⟩
    go_wp2_with fail
    refine (rgo xs _ (-1) day _ (.inr rfl) hday hl256 (HV1.out.below (below_drewN HB3.out.bel))).mono ?_
    rintro e w5 ⟨b, g, rfl, hb5, hnb⟩
    obtain ⟨rfl, rfl⟩ := (hna.out.same HS.out).det hnb.out
    have HB5 : Hid (BoxV w1 (.slice ad xs.length cap) w5) := HB3.out.below ⟨hb5.os, hb5.tape, hb5.output, hb5.size, hb5.block⟩
    have c5 := HB5.out.c0
    clear hna hnb hb5 c3
    go_wp2_with fail
    refine (xmove p ys day n _ hday hn (HC1.out.below HB5.out.bel)).mono ?_
    rintro e w6 ⟨a3, f3, q3, rfl, rfl, hna⟩
    go_wp2_with fail
    refine (rmove xs _ day n _ hday hn hl256 (HV1.out.below (below_drewN HB5.out.bel))).mono ?_
    rintro e w7 ⟨b, g, rfl, hb7, hnb⟩
    obtain ⟨rfl, rfl⟩ := (hna.out.same HS.out).det hnb.out
    have HB7 : Hid (BoxV w1 (.slice ad xs.length cap) w7) := HB5.out.below ⟨hb7.os, hb7.tape, hb7.output, hb7.size, hb7.block⟩
    clear hna hnb hb7 c5
    go_wp2_with fail
    refine (awake_true _).mono ?_
    rintro e w8 h8
    have H8 : Hid (TruePost w e w8) := (h8.of HB7.out.bel).of W1.out
    obtain ⟨rfl, -⟩ := h8
    go_wp2_with fail
    go_ret
    exact H8.out
end Go.Proofs.Ythdngjpfmjnchaa
