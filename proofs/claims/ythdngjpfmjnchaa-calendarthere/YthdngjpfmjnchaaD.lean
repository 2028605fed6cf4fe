/- Walks of Of, of package calendar and of the reference. Condition: the argument is an int. -/
import Derived.Test.YthdngjpfmjnchaaC
import Derived.WalkKit
import Derived.ProofKit
import Derived.Handy
import Derived.WalkLawsBesides
import Derived.WalkSpells
import Derived.BigQuiet
import Derived.Deep.QuietTactic
import Derived.Deep.Light
import Derived.Deep.OwnRows
import Derived.Laws.AppendOwnNone
import Derived.Deep.RegionWith
import Derived.Lib.BitFns
import Derived.Lib.Walk
import Derived.Deep.CutBlock
import Derived.Deep.DeepCutAuto
import Derived.Deep.LoopGhost
import Derived.Deep.RegionHeld3
import Derived.Lib.SlicesCompact
namespace Go.Proofs.Ythdngjpfmjnchaa
open Go.RowKit
set_option linter.unusedVariables false
set_option linter.unusedSimpArgs false
abbrev dat (y m d : Int) : Value := .agg #[.int .i64 y, .int .i64 m, .int .i64 d]
def OfPost (day : Int) (w : World) (e : Ending) (w' : World) : Prop :=
  ∃ y m d f, e = .returned (.tuple #[dat y m d, .int .i64 f]) ∧ Below w.heap.size w w' ∧ Hid ((GoodD day ∧ f = 0 ∧ IsDate day y m d) ∨ (¬ GoodD day ∧ f = 10 ∧ y = 0 ∧ m = 0 ∧ d = 0))

theorem YB_start (k : Nat) : YB (1970 + k) ≤ 366 * k := by
  induction k with
  | zero => decide
  | succ k ih =>
    have h := YB_succ (1970 + k)
    have h2 := dim_two (1970 + k)
    rw [show (1970 : Int) + ((k + 1 : Nat) : Int) = 1970 + k + 1 by omega]
    split at h2 <;> omega
theorem YB_start' (d : Int) (h : 0 ≤ d) : YB (1970 + d / 366) ≤ d := by
  have h1 := YB_start (d / 366).toNat
  rw [show ((d / 366).toNat : Int) = d / 366 by omega] at h1
  omega
theorem YB_bound {y d : Int} (h : YB y ≤ d) (hd : d ≤ 200000) : y ≤ 2517 := by
  rcases Int.lt_or_le 2517 y with c | c
  · have := YB_late (show 2518 ≤ y by omega); omega
  · exact c
/-- so far the months: what is left of the year's days -/
def Left (day y : Int) (n : Nat) (r : Int) : Prop := 1970 ≤ y ∧ n ≤ 11 ∧ 0 ≤ r ∧ r = day - YB y - MB y n ∧ day < YB (y + 1)
theorem Left.more {day y : Int} {n : Nat} {r : Int} (h : Left day y n r) (hr : dim y (n + 1) ≤ r) : n < 11 ∧ Left day y (n + 1) (r - dim y (n + 1)) := by
  obtain ⟨h1, h2, h3, h4, h5⟩ := h
  have h6 : MB y (n + 1) = MB y n + dim y (n + 1) := rfl
  have h7 := YB_step y
  have hn : n < 11 := by
    rcases Nat.lt_or_ge n 11 with c | c
    · exact c
    · obtain rfl : n = 11 := by omega
      have h8 : MB y (11 + 1) = MB y 12 := rfl
      omega
  exact ⟨hn, h1, by omega, by omega, by omega, h5⟩
theorem Left.date {day y : Int} {n : Nat} {r : Int} (h : Left day y n r) (hr : r < dim y (n + 1)) : IsDate day y (n + 1) (r + 1) := by
  obtain ⟨h1, h2, h3, h4, h5⟩ := h
  refine ⟨h1, by omega, by omega, ?_⟩
  rw [show ((n : Int) + 1 - 1).toNat = n by omega]
  omega
theorem Left.small {day y : Int} {n : Nat} {r : Int} (h : Left day y n r) : 0 ≤ r ∧ r ≤ 366 := by
  obtain ⟨h1, h2, h3, h4, h5⟩ := h
  have := YB_step y
  have := MB_nonneg y n
  have := MB_le y 12 (Nat.le_refl _)
  omega

set_option maxHeartbeats 1000000 in
theorem xof (d : Int) (h : -9223372036854775808 ≤ d ∧ d ≤ 9223372036854775807) (w : World) : Calls Try.prog 9 #[.int .i64 d] w (OfPost d w) := by
  by_cases hg : GoodD d
  case neg =>
    have HG : Hid (¬ GoodD d) := hg
    go_enter Try.func9, Try.ntmps9
    go_wp2_with fail
    refine (xgood d h _).mono ?_
    rintro e w1 ⟨rfl, rfl⟩
    rw [decide_eq_false HG.out]
    clear hg
    go_wp2_with fail
    go_returns
    exact ⟨0, 0, 0, 10, rfl, by go_grown, .inr ⟨HG.out, rfl, rfl, rfl, rfl⟩⟩
  have HG : Hid (GoodD d) := hg
  have hd : 0 ≤ d ∧ d ≤ 200000 := hg
  clear hg h
  have hs : Hid (YB (1970 + d / 366) ≤ d) := YB_start' d hd.1
  go_enter Try.func9, Try.ntmps9
  go_wp2_with fail
  refine (xgood d (by omega) _).mono ?_
  rintro e w1 ⟨rfl, rfl⟩
  rw [decide_eq_true HG.out]
  go_wp2_with fail
  go_loop [4] (fun yi => ∃ y : Int, yi = .int .i64 y ∧ (1970 ≤ y ∧ y ≤ 2517) ∧ Hid (YB y ≤ d)) (fun yi => (3000 - intOf yi).toNat)
  case atStart => exact ⟨1970 + d / 366, rfl, ⟨by omega, YB_bound hs.out hd.2⟩, hs⟩
  case round =>
    obtain ⟨y, rfl, hy, hle⟩ := hrel
    go_wp2_with fail
    refine (xdays (y + 1) (by omega) _).mono ?_
    rintro e w1 ⟨rfl, rfl⟩
    have HB : Hid (YB (y + 1) ≤ d → y + 1 ≤ 2517) := fun q => YB_bound q hd.2
    have b1 := YB_le (show 1970 ≤ y + 1 by omega)
    have b2 := YB_le (show y + 1 ≤ 2518 by omega)
    rw [YB_first] at b1
    rw [show YB 2518 = 200153 by decide] at b2
    generalize hz : YB (y + 1) = z at b1 b2 HB
    have HZ : Hid (YB (y + 1) = z) := hz
    clear hz
    go_wp2_with fail
    · have hzd : z ≤ d := by assumption
      go_round
      case rel => exact ⟨y + 1, rfl, ⟨by omega, HB.out hzd⟩, by show YB (y + 1) ≤ d; rw [HZ.out]; exact hzd⟩
      case measure => simp [intOf]; omega
    · have hzd : d < z := by assumption
      refine (xdays y (by omega) _).mono ?_
      rintro e w1 ⟨rfl, rfl⟩
      have b3 := YB_le hy.1
      rw [YB_first] at b3
      have b4 := hle.out
      have HL : Hid (Left d y 0 (d - YB y)) := ⟨hy.1, by omega, by omega, by simp [MB], by rw [HZ.out]; exact hzd⟩
      generalize YB y = q at b3 b4 HL
      clear HB HZ hle hs
      go_wp2_with fail
      go_loop [5, 6] (fun r mi => ∃ (n : Nat) (t : Int), r = .int .i64 t ∧ mi = .int .i64 (n + 1) ∧ n ≤ 11 ∧ (0 ≤ t ∧ t ≤ 366) ∧ Hid (Left d y n t)) (fun _ mi => (20 - intOf mi).toNat)
      case atStart => exact ⟨0, d - q, rfl, rfl, by omega, HL.out.small, HL⟩
      case round =>
        obtain ⟨n, t, rfl, rfl, hn, ht, hl⟩ := hrel
        go_wp2_with fail
        refine (xmonth y (n + 1) (by omega) (by omega) _).mono ?_
        rintro e w1 ⟨rfl, rfl⟩
        have b5 := dim_pos y (n + 1)
        generalize hz : dim y (n + 1) = z at b5
        have HD : Hid (dim y (n + 1) = z) := hz
        clear hz
        go_wp2_with fail
        · have hzt : z ≤ t := by assumption
          refine (xmonth y (n + 1) (by omega) (by omega) _).mono ?_
          rintro e w1 ⟨rfl, rfl⟩
          rw [HD.out]
          have hm := hl.out.more (by rw [HD.out]; exact hzt)
          rw [HD.out] at hm
          have HM : Hid (n < 11 ∧ Left d y (n + 1) (t - z)) := hm
          have hm1 := hm.1
          clear hm
          go_wp2_with fail
          go_round
          case rel => exact ⟨n + 1, t - z, rfl, by go_num, by omega, HM.out.2.small, HM.out.2⟩
          case measure => simp [intOf]; omega
        · have hzt : t < z := by assumption
          go_returns
          exact ⟨y, n + 1, t + 1, 0, rfl, by go_grown, .inl ⟨HG.out, rfl, hl.out.date (by rw [HD.out]; exact hzt)⟩⟩

/-- a block of three numbers of the call's own, and nothing older has turned -/
structure Boxed (w : World) (T : TypeId) (a b c : Int) (wr : World) : Prop where
  blk : wr.heap[w.heap.size]? = some (.cells #[.int .i64 a, .int .i64 b, .int .i64 c] T (0, 0))
  bel : Below w.heap.size w wr
theorem Boxed.new (w : World) (T : TypeId) (a b c : Int) : Boxed w T a b c (w.alloc (.cells #[.int .i64 a, .int .i64 b, .int .i64 c] T)) :=
  ⟨heap_alloc_new w _, (Below.refl _ _).alloc (Nat.le_refl _) _⟩
section
variable {w wr w' : World} {T : TypeId} {a b c : Int}
theorem Boxed.lt (h : Boxed w T a b c wr) : w.heap.size < wr.heap.size := (Array.getElem?_eq_some_iff.1 h.blk).1
theorem Boxed.below (h : Boxed w T a b c wr) (hb : Below wr.heap.size wr w') : Boxed w T a b c w' :=
  ⟨(hb.block _ h.lt).trans h.blk, h.bel.trans (hb.mono h.bel.size)⟩
theorem Boxed.c0 (h : Boxed w T a b c wr) : wr.cell? ⟨w.heap.size, 0, none⟩ = some (.int .i64 a) := by simp [World.cell?, h.blk]
theorem Boxed.c1 (h : Boxed w T a b c wr) : wr.cell? ⟨w.heap.size, 1, none⟩ = some (.int .i64 b) := by simp [World.cell?, h.blk]
theorem Boxed.c2 (h : Boxed w T a b c wr) : wr.cell? ⟨w.heap.size, 2, none⟩ = some (.int .i64 c) := by simp [World.cell?, h.blk]
theorem Boxed.fr (h : Boxed w T a b c wr) (j : Nat) : wr.frozen? ⟨w.heap.size, j, none⟩ = false := by simp [World.frozen?, h.blk]
end

set_option maxHeartbeats 1000000 in
theorem rof (d : Int) (h : -9223372036854775808 ≤ d ∧ d ≤ 9223372036854775807) (w : World) : Calls Try.prog 10 #[.int .i64 d] w (OfPost d w) := by
  by_cases hg : GoodD d
  case neg =>
    have HG : Hid (¬ GoodD d) := hg
    go_enter Try.func10, Try.ntmps10
    go_wp2_with fail
    refine (rgood d h _).mono ?_
    rintro e w1 ⟨rfl, rfl⟩
    rw [decide_eq_false HG.out]
    clear hg
    go_wp2_with fail
    go_returns
    exact ⟨0, 0, 0, 10, rfl, by go_grown, .inr ⟨HG.out, rfl, rfl, rfl, rfl⟩⟩
  have HG : Hid (GoodD d) := hg
  have hd : 0 ≤ d ∧ d ≤ 200000 := hg
  clear hg h
  go_enter Try.func10, Try.ntmps10
  go_wp2_with fail
  refine (rgood d (by omega) _).mono ?_
  rintro e w1 ⟨rfl, rfl⟩
  rw [decide_eq_true HG.out]
  go_wp2_with fail
  have HW0 : Hid (Boxed w 23 0 0 0 (w.alloc (.cells #[.int .i64 0, .int .i64 0, .int .i64 0] 23))) := Boxed.new w 23 0 0 0
  go_loopw [0, 4] (fun ti yi wr => ∃ y t : Int, ti = .int .i64 t ∧ yi = .int .i64 y ∧ (1970 ≤ y ∧ y ≤ 2517) ∧ (0 ≤ t ∧ t ≤ 200000) ∧ Hid (t = d - YB y) ∧ Hid (Boxed w 23 0 0 0 wr)) (fun _ yi _ => (3000 - intOf yi).toNat)
  case atStart => exact ⟨1970, d, rfl, rfl, by omega, hd, by show d = d - YB 1970; rw [YB_first]; omega, HW0⟩
  case round =>
    obtain ⟨y, t, rfl, rfl, hy, ht, htd, hwr⟩ := hrel
    go_wp2_with fail
    refine (rdays y 2 (by omega) (by omega) _).mono ?_
    rintro e w1 ⟨rfl, hb1⟩
    have HW1 : Hid (Boxed w 23 0 0 0 w1) := hwr.out.below hb1
    have b1 := dim_pos y 2
    have HY : Hid (YB (y + 1) = YB y + 337 + dim y 2) := YB_succ y
    generalize hz : dim y 2 = z at b1 HY
    have HZ : Hid (dim y 2 = z) := hz
    clear hz hb1 hwr
    go_wp2_with fail
    · have hzt : 337 + z ≤ t := by assumption
      refine (rdays y 2 (by omega) (by omega) _).mono ?_
      rintro e w2 ⟨rfl, hb2⟩
      rw [HZ.out]
      have HW2 : Hid (Boxed w 23 0 0 0 w2) := HW1.out.below hb2
      clear hb2
      go_wp2_with fail
      have h8 := HY.out
      have h9 := htd.out
      refine ⟨⟨y + 1, t - 337 - z, rfl, by go_num, ⟨by omega, YB_bound (y := y + 1) (d := d) (by omega) hd.2⟩, by omega, by show t - 337 - z = d - YB (y + 1); omega, HW2⟩, by simp [intOf]; omega⟩
    · have hzt : t < 337 + z := by assumption
      have HL : Hid (Left d y 0 t) := by
        have h8 := HY.out
        have h9 := htd.out
        exact ⟨hy.1, by omega, by omega, by simp [MB]; omega, by omega⟩
      clear HY HZ htd
      go_loopw [0, 5] (fun r mi wr => ∃ (n : Nat) (t : Int), r = .int .i64 t ∧ mi = .int .i64 (n + 1) ∧ n ≤ 11 ∧ (0 ≤ t ∧ t ≤ 366) ∧ Hid (Left d y n t) ∧ Hid (Boxed w 23 0 0 0 wr)) (fun _ mi _ => (20 - intOf mi).toNat)
      case atStart => exact ⟨0, t, rfl, rfl, by omega, HL.out.small, HL, HW1⟩
      case round =>
        obtain ⟨n, t, rfl, rfl, hn, ht, hl, hwr⟩ := hrel
        go_wp2_with fail
        refine (rdays y (n + 1) (by omega) (by omega) _).mono ?_
        rintro e w2 ⟨rfl, hb2⟩
        have HW2 : Hid (Boxed w 23 0 0 0 w2) := hwr.out.below hb2
        have b5 := dim_pos y (n + 1)
        generalize hz : dim y (n + 1) = z at b5
        have HD : Hid (dim y (n + 1) = z) := hz
        have f0 := HW2.out.c0
        have f1 := HW2.out.c1
        have f2 := HW2.out.c2
        have g0 := HW2.out.fr 0
        have g1 := HW2.out.fr 1
        have g2 := HW2.out.fr 2
        clear hz hb2 hwr HW1
        go_wp2_with fail
        · have hzt : z ≤ t := by assumption
          refine (rdays y (n + 1) (by omega) (by omega) _).mono ?_
          rintro e w3 ⟨rfl, hb3⟩
          have HW3 : Hid (Boxed w 23 0 0 0 w3) := HW2.out.below hb3
          rw [HD.out]
          have hm := hl.out.more (by rw [HD.out]; exact hzt)
          rw [HD.out] at hm
          have HM : Hid (n < 11 ∧ Left d y (n + 1) (t - z)) := hm
          have hm1 := hm.1
          clear hm hb3 f0 f1 f2 g0 g1 g2
          go_wp2_with fail
          exact ⟨⟨n + 1, t - z, rfl, by go_num, by omega, HM.out.2.small, HM.out.2, HW3⟩, by simp [intOf]; omega⟩
        · have hzt : t < z := by assumption
          try simp only [Exit.inBlock, Exit.then]
          refine bodyPost_ret (by simp [results, Try.results10, go_sem, f0, f1, f2]; try rfl) rfl ?_
          refine ⟨y, n + 1, t + 1, 0, rfl, ?_, .inl ⟨HG.out, rfl, hl.out.date (by rw [HD.out]; exact hzt)⟩⟩
          exact ((HW2.out.bel.setCell (Nat.le_refl _) _).setCell (Nat.le_refl _) _).setCell (Nat.le_refl _) _
end Go.Proofs.Ythdngjpfmjnchaa
