/- Walks of a day's interest and of Day, of the program. Conditions: the arguments are ints. -/
import Derived.Test.YtdkhpoepdimniabNc
import Derived.WalkKit
import Derived.ProofKit
import Derived.Handy
import Derived.WalkLawsBesides
import Derived.WalkSpells
import Derived.BigQuiet
import Derived.Deep.QuietTactic
import Derived.Deep.Light
import Derived.Deep.OwnRows
import Derived.Laws.AppendOwnNone
import Derived.Deep.RegionWith
import Derived.Lib.BitFns
import Derived.Lib.Walk
import Derived.Deep.CutBlock
import Derived.Deep.DeepCutAuto
import Derived.Deep.LoopGhost
import Derived.Deep.RegionHeld3
import Derived.Lib.SmallJoins
namespace Go.Proofs.Ytdkhpoepdimniab
open Go.RowKit
set_option linter.unusedVariables false
set_option linter.unusedSimpArgs false

/-- two blocks of two numbers each, the call's own, and nothing older has turned -/
structure Two (w : World) (T : TypeId) (a b c d : Int) (wr : World) : Prop where
  blk : wr.heap[w.heap.size]? = some (.cells #[.int .i64 a, .int .i64 b] T (0, 0))
  blk2 : wr.heap[w.heap.size + 1]? = some (.cells #[.int .i64 c, .int .i64 d] T (0, 0))
  bel : Below w.heap.size w wr
theorem Two.new (w : World) (T : TypeId) (a b c d : Int) : Two w T a b c d ((w.alloc (.cells #[.int .i64 a, .int .i64 b] T)).alloc (.cells #[.int .i64 c, .int .i64 d] T)) :=
  ⟨(Below.heap_alloc _ _ _ (by simp)).trans (heap_alloc_new w _), by have := heap_alloc_new (w.alloc (.cells #[.int .i64 a, .int .i64 b] T)) (.cells #[.int .i64 c, .int .i64 d] T); simpa using this, ((Below.refl _ _).alloc (Nat.le_refl _) _).alloc (by simp) _⟩
section
variable {w wr w' : World} {T : TypeId} {a b c d : Int}
theorem Two.lt (h : Two w T a b c d wr) : w.heap.size + 1 < wr.heap.size := (Array.getElem?_eq_some_iff.1 h.blk2).1
theorem Two.below (h : Two w T a b c d wr) (hb : Below wr.heap.size wr w') : Two w T a b c d w' :=
  ⟨(hb.block _ (by have := h.lt; omega)).trans h.blk, (hb.block _ h.lt).trans h.blk2, h.bel.trans (hb.mono h.bel.size)⟩
theorem Two.c0 (h : Two w T a b c d wr) : wr.cell? ⟨w.heap.size, 0, none⟩ = some (.int .i64 a) := by simp [World.cell?, h.blk]
theorem Two.c1 (h : Two w T a b c d wr) : wr.cell? ⟨w.heap.size, 1, none⟩ = some (.int .i64 b) := by simp [World.cell?, h.blk]
theorem Two.d0 (h : Two w T a b c d wr) : wr.cell? ⟨w.heap.size + 1, 0, none⟩ = some (.int .i64 c) := by simp [World.cell?, h.blk2]
theorem Two.d1 (h : Two w T a b c d wr) : wr.cell? ⟨w.heap.size + 1, 1, none⟩ = some (.int .i64 d) := by simp [World.cell?, h.blk2]
theorem Two.fr (h : Two w T a b c d wr) (j : Nat) : wr.frozen? ⟨w.heap.size, j, none⟩ = false := by simp [World.frozen?, h.blk]
theorem Two.fr2 (h : Two w T a b c d wr) (j : Nat) : wr.frozen? ⟨w.heap.size + 1, j, none⟩ = false := by simp [World.frozen?, h.blk2]
end

theorem at_bound {a t : Int} (ha : Amt a) (ht : Rtd t) : -1125899906842624000000 ≤ a * t ∧ a * t ≤ 1125899906842624000000 := by
  have := prod_le a t 1125899906842624 1000000 ha ht (by omega)
  omega
def IntPost (y z : Int) (w : World) (e : Ending) (w' : World) : Prop := e = .returned (.tuple #[.int .i64 y, .int .i64 z]) ∧ Below w.heap.size w w'

set_option maxHeartbeats 4000000 in
set_option maxRecDepth 100000 in
theorem xint (a t : Int) (ha : Amt a) (ht : Rtd t) (w : World) : Calls Try.prog 30 #[.int .i64 a, .int .i64 t] w (IntPost (a * t / 360000000) (a * t % 360000000) w) := by
  have hb := at_bound ha ht
  have hf : I64 (a * t / 360000000) := ⟨by omega, by omega⟩
  have HA : Hid (I64 a ∧ I64 t) := ⟨⟨by omega, by omega⟩, ⟨by omega, by omega⟩⟩
  have HF : Hid _ := hf
  have HR : Hid (wrap64 (wrap64 (a * t) - wrap64 (a * t / 360000000 * 360000000)) = a * t % 360000000) := by
    show wrap64 (wrap64 (a * t) - wrap64 (a * t / 360000000 * 360000000)) = a * t % 360000000
    unfold wrap64
    omega
  clear hb hf
  go_enter Try.func30, Try.ntmps30
  go_wp2_with fail
  refine (xmd a t _ rfl HA.out.1 HA.out.2 HF.out _).mono ?_
  rintro e w1 ⟨rfl, hb1⟩
  generalize a * t / 360000000 = y at *
  generalize a * t % 360000000 = z at *
  go_wp2
  go_ret2
  exact ⟨ret_two rfl HR.out, hb1⟩

def DayPost (u r a t : Int) (w : World) (e : Ending) (w' : World) : Prop :=
  e = .returned (.tuple #[.agg #[.int .i64 (dayU u r a t), .int .i64 (dayR u r a t)], .int .i64 (dayE u r a t)]) ∧ Below w.heap.size w w'
theorem ret_meter {a b c x y z : Int} (h1 : a = x) (h2 : b = y) (h3 : c = z) : Ending.returned (.tuple #[.agg #[.int .i64 a, .int .i64 b], .int .i64 c]) = .returned (.tuple #[.agg #[.int .i64 x, .int .i64 y], .int .i64 z]) := by rw [h1, h2, h3]
theorem day_no {u r a t : Int} (h : ¬ dayOk r a t) : u = dayU u r a t ∧ r = dayR u r a t ∧ 1 = dayE u r a t := by
  have := dayE_bad (u := u) h
  exact ⟨(dayU_err (by omega)).symm, (dayR_err (by omega)).symm, this.symm⟩
theorem day_over {u r a t : Int} (h : dayOk r a t) (h2 : ¬ I64 (dayW u r a t)) : u = dayU u r a t ∧ r = dayR u r a t ∧ 9 = dayE u r a t := by
  have := dayE_over h h2
  exact ⟨(dayU_err (by omega)).symm, (dayR_err (by omega)).symm, this.symm⟩
theorem day_yes {u r a t : Int} (h : dayOk r a t) (h2 : I64 (dayW u r a t)) : dayW u r a t = dayU u r a t ∧ (r + a * t) % 360000000 = dayR u r a t ∧ 0 = dayE u r a t := by
  have := dayE_ok h h2
  exact ⟨(dayU_ok this).symm, (dayR_ok this).symm, this.symm⟩

set_option maxHeartbeats 4000000 in
set_option maxRecDepth 100000 in
theorem xday (u r a t : Int) (hu : I64 u) (hr : I64 r) (ha : I64 a) (ht : I64 t) (w : World) : Calls Try.prog 25 #[.agg #[.int .i64 u, .int .i64 r], .int .i64 a, .int .i64 t] w (DayPost u r a t w) := by
  go_enter Try.func25, Try.ntmps25
  go_wp2_with fail
  refine (xga a _).mono ?_
  rintro e w1 ⟨rfl, rfl⟩
  cases h1 : amtB a
  · have H : Hid _ := day_no (u := u) (r := r) (a := a) (t := t) (fun h => amtB_f h1 h.1)
    clear h1
    go_wp2
    go_returns
    exact ⟨ret_meter H.out.1 H.out.2.1 H.out.2.2, by go_grown⟩
  have A1 : Hid _ := amtB_t h1
  clear h1
  go_wp2_with fail
  refine (xgr t _).mono ?_
  rintro e w1 ⟨rfl, rfl⟩
  cases h2 : rtdB t
  · have H : Hid _ := day_no (u := u) (r := r) (a := a) (t := t) (fun h => rtdB_f h2 h.2.1)
    clear h2
    go_wp2
    go_returns
    exact ⟨ret_meter H.out.1 H.out.2.1 H.out.2.2, by go_grown⟩
  have A2 : Hid _ := rtdB_t h2
  clear h2
  by_cases h3 : r < 0
  · have H : Hid _ := day_no (u := u) (r := r) (a := a) (t := t) (fun h => by have := h.2.2; omega)
    go_wp2
    go_returns
    exact ⟨ret_meter H.out.1 H.out.2.1 H.out.2.2, by go_grown⟩
  by_cases h4 : 360000000 ≤ r
  · have H : Hid _ := day_no (u := u) (r := r) (a := a) (t := t) (fun h => by have := h.2.2; omega)
    go_wp2
    go_returns
    exact ⟨ret_meter H.out.1 H.out.2.1 H.out.2.2, by go_grown⟩
  have HO : Hid (dayOk r a t) := ⟨A1.out, A2.out, by omega, by omega⟩
  have hb := at_bound A1.out A2.out
  have HT : Hid (Two w 32 u r 0 0 _) := Two.new w 32 u r 0 0
  go_wp2_with fail
  refine (xint a t A1.out A2.out _).mono ?_
  rintro e w1 ⟨rfl, hb1⟩
  have HT1 : Hid (Two w 32 u r 0 0 w1) := HT.out.below hb1
  clear HT hb1
  have f0 := HT1.out.c0
  have f1 := HT1.out.c1
  have f2 := HT1.out.d0
  have f3 := HT1.out.d1
  have g0 := HT1.out.fr2 0
  have g1 := HT1.out.fr2 1
  have hx : Hid (dayW u r a t = u + (r + a * t) / 360000000) := rfl
  have D1 := fun h2 => (day_over (u := u) HO.out h2)
  have D2 := fun h2 => (day_yes (u := u) HO.out h2)
  rw [hx.out] at D1 D2
  have HD1 : Hid _ := D1
  have HD2 : Hid _ := D2
  clear D1 D2 hx A1 A2 HO
  generalize a * t = x at *
  by_cases hc : 360000000 ≤ x % 360000000 + r
  · have HE : Hid (u + (x / 360000000 + 1) = u + (r + x) / 360000000 ∧ x % 360000000 + r - 360000000 = (r + x) % 360000000) := ⟨by omega, by omega⟩
    have hq : I64 (x / 360000000 + 1) := ⟨by omega, by omega⟩
    have hz : 0 ≤ x % 360000000 ∧ x % 360000000 < 360000000 := by omega
    generalize x / 360000000 = q at *
    generalize x % 360000000 = z at *
    go_wp2_with fail
    refine (xplus u (q + 1) hu hq _).mono ?_
    rintro e w2 ⟨rfl, rfl⟩
    by_cases hfit : I64 (u + (q + 1))
    · rw [(fit_in _ hfit).1, (fit_in _ hfit).2]
      have H : Hid _ := HD2.out (by rw [← HE.out.1]; exact hfit)
      go_wp2_with fail
      refine bodyPost_ret (by simp [results, Try.results25, go_sem, f0, f1, f2, f3]; try rfl) rfl ?_
      exact ⟨ret_meter (HE.out.1.trans H.out.1) (HE.out.2.trans H.out.2.1) H.out.2.2, (HT1.out.bel.setCell (Nat.le_succ _) _).setCell (Nat.le_succ _) _⟩
    · rw [(fit_out _ (by omega)).1, (fit_out _ (by omega)).2]
      have H : Hid _ := HD1.out (by rw [← HE.out.1]; exact hfit)
      go_wp2_with fail
      refine bodyPost_ret (by simp [results, Try.results25, go_sem, f0, f1, f2, f3]; try rfl) rfl ?_
      exact ⟨ret_meter H.out.1 H.out.2.1 H.out.2.2, (HT1.out.bel.setCell (Nat.le_succ _) _).setCell (Nat.le_succ _) _⟩
  · have HE : Hid (u + x / 360000000 = u + (r + x) / 360000000 ∧ x % 360000000 + r = (r + x) % 360000000) := ⟨by omega, by omega⟩
    have hq : I64 (x / 360000000) := ⟨by omega, by omega⟩
    have hz : 0 ≤ x % 360000000 ∧ x % 360000000 < 360000000 := by omega
    generalize x / 360000000 = q at *
    generalize x % 360000000 = z at *
    go_wp2_with fail
    refine (xplus u q hu hq _).mono ?_
    rintro e w2 ⟨rfl, rfl⟩
    by_cases hfit : I64 (u + q)
    · rw [(fit_in _ hfit).1, (fit_in _ hfit).2]
      have H : Hid _ := HD2.out (by rw [← HE.out.1]; exact hfit)
      go_wp2_with fail
      refine bodyPost_ret (by simp [results, Try.results25, go_sem, f0, f1, f2, f3]; try rfl) rfl ?_
      exact ⟨ret_meter (HE.out.1.trans H.out.1) (HE.out.2.trans H.out.2.1) H.out.2.2, (HT1.out.bel.setCell (Nat.le_succ _) _).setCell (Nat.le_succ _) _⟩
    · rw [(fit_out _ (by omega)).1, (fit_out _ (by omega)).2]
      have H : Hid _ := HD1.out (by rw [← HE.out.1]; exact hfit)
      go_wp2_with fail
      refine bodyPost_ret (by simp [results, Try.results25, go_sem, f0, f1, f2, f3]; try rfl) rfl ?_
      exact ⟨ret_meter H.out.1 H.out.2.1 H.out.2.2, (HT1.out.bel.setCell (Nat.le_succ _) _).setCell (Nat.le_succ _) _⟩
end Go.Proofs.Ytdkhpoepdimniab
