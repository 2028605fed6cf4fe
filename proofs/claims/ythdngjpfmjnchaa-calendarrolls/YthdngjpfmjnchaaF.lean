/- Walk of the reference's Number. Conditions: the arguments are ints. -/
import Derived.Test.YthdngjpfmjnchaaE
import Derived.WalkKit
import Derived.ProofKit
import Derived.Handy
import Derived.WalkLawsBesides
import Derived.WalkSpells
import Derived.BigQuiet
import Derived.Deep.QuietTactic
import Derived.Deep.Light
import Derived.Deep.OwnRows
import Derived.Laws.AppendOwnNone
import Derived.Deep.RegionWith
import Derived.Lib.BitFns
import Derived.Lib.Walk
import Derived.Deep.CutBlock
import Derived.Deep.DeepCutAuto
import Derived.Deep.LoopGhost
import Derived.Deep.RegionHeld3
import Derived.Lib.SlicesCompact
namespace Go.Proofs.Ythdngjpfmjnchaa
open Go.RowKit
set_option linter.unusedVariables false
set_option linter.unusedSimpArgs false
theorem cell_kept {w w' : World} {p : Addr} {v : Value} (hb : Below w.heap.size w w') (h : w.cell? p = some v) : w'.cell? p = some v := (hb.cell (World.block_lt_of_cell? _ _ h)).trans h

set_option maxHeartbeats 2000000 in
set_option maxRecDepth 100000 in
theorem rnumber_bad (y m d : Int) (hy : -9223372036854775808 ≤ y ∧ y ≤ 9223372036854775807) (hm : -9223372036854775808 ≤ m ∧ m ≤ 9223372036854775807) (hd : -9223372036854775808 ≤ d ∧ d ≤ 9223372036854775807) (w : World)
    (hbad : y < 1970 ∨ y > 3000 ∨ m < 1 ∨ m > 12 ∨ d < 1) : Calls Try.prog 13 #[dat y m d] w (NumPost y m d w) := by
  have HT : Hid (¬ (IsThere 3000 y m d ∧ dayN y m d ≤ 200000)) := by
    rintro ⟨⟨q1, q2, q3, q4, q5, -⟩, -⟩
    omega
  by_cases c1 : y < 1970
  · have g1 : decide (y < 1970) = true := decide_eq_true c1
    clear hbad
    go_enter Try.func13, Try.ntmps13
    go_wp2
    go_quiet (fail)
    go_wp2
    go_ret2
    exact num_post_no 3000 (by omega) HT.out (below_drewN ((Below.refl _ _).alloc (Nat.le_refl _) _))
  have g1 : decide (y < 1970) = false := decide_eq_false c1
  by_cases c2 : 3000 < y
  · have g2 : decide (3000 < y) = true := decide_eq_true c2
    clear hbad
    go_enter Try.func13, Try.ntmps13
    go_wp2
    go_quiet (fail)
    go_wp2
    go_ret2
    exact num_post_no 3000 (by omega) HT.out (below_drewN ((Below.refl _ _).alloc (Nat.le_refl _) _))
  have g2 : decide (3000 < y) = false := decide_eq_false c2
  by_cases c3 : m < 1
  · have g3 : decide (m < 1) = true := decide_eq_true c3
    clear hbad
    go_enter Try.func13, Try.ntmps13
    go_wp2
    go_quiet (fail)
    go_wp2
    go_ret2
    exact num_post_no 3000 (by omega) HT.out (below_drewN ((Below.refl _ _).alloc (Nat.le_refl _) _))
  have g3 : decide (m < 1) = false := decide_eq_false c3
  by_cases c4 : 12 < m
  · have g4 : decide (12 < m) = true := decide_eq_true c4
    clear hbad
    go_enter Try.func13, Try.ntmps13
    go_wp2
    go_quiet (fail)
    go_wp2
    go_ret2
    exact num_post_no 3000 (by omega) HT.out (below_drewN ((Below.refl _ _).alloc (Nat.le_refl _) _))
  have g4 : decide (12 < m) = false := decide_eq_false c4
  · have c5 : d < 1 := by omega
    have g5 : decide (d < 1) = true := decide_eq_true c5
    clear hbad
    go_enter Try.func13, Try.ntmps13
    go_wp2
    go_quiet (fail)
    go_wp2
    go_ret2
    exact num_post_no 3000 (by omega) HT.out (below_drewN ((Below.refl _ _).alloc (Nat.le_refl _) _))

theorem below_undrew {B : Nat} {a w : World} (h : Below B a.drew w) : Below B a w := ⟨h.os, h.tape, h.output, h.size, h.block⟩

set_option maxHeartbeats 2000000 in
set_option maxRecDepth 100000 in
theorem rnumber_good (y m d : Int) (c1 : 1970 ≤ y ∧ y ≤ 3000) (c2 : 1 ≤ m ∧ m ≤ 12) (c3 : 1 ≤ d ∧ d ≤ 9223372036854775807) (w : World) : Calls Try.prog 13 #[dat y m d] w (NumPost y m d w) := by
  have HR : ∀ w : World, Hid (Calls Try.prog 36 #[.int .i64 y, .int .i64 m] w (NewPost (.int .i64 (dim y m)) w)) := fun w => rdays y m (by omega) (by omega) w
  have HB0 : Hid (Boxed w 23 y m d (w.alloc (.cells #[.int .i64 y, .int .i64 m, .int .i64 d] 23))) := Boxed.new w 23 y m d
  have g1 : decide (y < 1970) = false := decide_eq_false (by omega)
  have g2 : decide (3000 < y) = false := decide_eq_false (by omega)
  have g3 : decide (m < 1) = false := decide_eq_false (by omega)
  have g4 : decide (12 < m) = false := decide_eq_false (by omega)
  have g5 : decide (d < 1) = false := decide_eq_false (by omega)
  generalize hz : dim y m = z at HR
  have HZ : Hid (dim y m = z) := hz
  clear hz
  go_enter Try.func13, Try.ntmps13
  go_wp2
  have f0 := HB0.out.c0
  have f1 := HB0.out.c1
  have f2 := HB0.out.c2
  go_region_held3 (fun w' => w'.cell? ⟨w.heap.size, 0, none⟩ = some (.int .i64 y) ∧ w'.cell? ⟨w.heap.size, 1, none⟩ = some (.int .i64 m) ∧ w'.cell? ⟨w.heap.size, 2, none⟩ = some (.int .i64 d)) (first | go_keep | (refine ⟨cell_kept hb1 ?_, cell_kept hb1 ?_, cell_kept hb1 ?_⟩ <;> first | assumption | (trace_state; fail)))
    ((go_at_call 36; refine (HR _).out.mono ?_; rintro e w1 ⟨rfl, hb1⟩))
  have HB1 : Hid (Boxed w 23 y m d w1) := HB0.out.below (below_undrew hb1)
  clear hb1 f0 f1 f2 g1 g2 g3 g4 g5 HR HB0
  by_cases c4 : z < d
  · have HT : Hid (¬ (IsThere 3000 y m d ∧ dayN y m d ≤ 200000)) := by
      rintro ⟨⟨q1, q2, q3, q4, q5, q6⟩, -⟩
      rw [HZ.out] at q6
      omega
    go_wp2_with fail
    go_ret2
    exact num_post_no 3000 (by omega) HT.out HB1.out.bel
  have c5 : d ≤ z := by omega
  have c6 : 28 ≤ z ∧ z ≤ 31 := by rw [← HZ.out]; exact dim_pos y m
  have HT : Hid (IsThere 3000 y m d) := ⟨c1.1, c1.2, c2.1, c2.2, c3.1, by rw [HZ.out]; exact c5⟩
  have HN : Hid (dayN y m d = YB y + MB y (m - 1).toNat + d - 1) := rfl
  have f0 := HB1.out.c0
  have f1 := HB1.out.c1
  have f2 := HB1.out.c2
  clear HZ c4
  go_wp2_with fail
  clear f0 f1 f2
  go_loopw [4, 5] (fun ti yi wr => ∃ y' t : Int, ti = .int .i64 t ∧ yi = .int .i64 y' ∧ (1970 ≤ y' ∧ y' ≤ y) ∧ (0 ≤ t ∧ t ≤ 500000) ∧ Hid (t = d - 1 + YB y') ∧ Hid (Boxed w 23 y m d wr)) (fun _ yi _ => (4000 - intOf yi).toNat)
  case atStart => exact ⟨1970, d - 1, rfl, rfl, by omega, by omega, by show d - 1 = d - 1 + YB 1970; rw [YB_first]; omega, HB1⟩
  case round =>
    obtain ⟨y', t, rfl, rfl, hy', ht, hs, hwr⟩ := hrel
    have f0 := hwr.out.c0
    have f1 := hwr.out.c1
    have f2 := hwr.out.c2
    go_wp2_with fail
    · have hlt : y' < y := by assumption
      refine (rdays y' 2 (by omega) (by omega) _).mono ?_
      rintro e w2 ⟨rfl, hb2⟩
      have HW2 : Hid (Boxed w 23 y m d w2) := hwr.out.below hb2
      have b1 := dim_pos y' 2
      have HY : Hid (YB (y' + 1) = YB y' + 337 + dim y' 2) := YB_succ y'
      have b2 := YB_le (show y' + 1 ≤ 3000 by omega)
      rw [show YB 3000 = 376200 by decide] at b2
      have b3 : t + 337 + dim y' 2 ≤ 500000 := by
        have h1 := hs.out
        have h2 := HY.out
        omega
      generalize dim y' 2 = z1 at b1 b3 HY
      clear hb2 hwr f0 f1 f2 b2
      go_wp2_with fail
      exact ⟨⟨y' + 1, t + 337 + z1, rfl, by go_num, by omega, by omega, by show t + 337 + z1 = d - 1 + YB (y' + 1); have h1 := hs.out; have h2 := HY.out; omega, HW2⟩, by simp [intOf]; omega⟩
    · have hyy : y' = y := by have : y ≤ y' := by assumption
                              omega
      have HYY : Hid (t = d - 1 + YB y) := by rw [← hyy]; exact hs
      clear hyy
      have b4 := YB_le (show y ≤ 3000 by omega)
      rw [show YB 3000 = 376200 by decide] at b4
      have b5 : t ≤ 376300 := by have h1 := HYY.out; omega
      clear f0 f1 f2 b4
      go_loopw [4, 6] (fun di mi wr => ∃ (n : Nat) (u : Int), di = .int .i64 u ∧ mi = .int .i64 (n + 1) ∧ (n : Int) ≤ m - 1 ∧ (0 ≤ u ∧ u ≤ 400000) ∧ Hid (u = t + MB y n) ∧ Hid (Boxed w 23 y m d wr)) (fun _ mi _ => (20 - intOf mi).toNat)
      case atStart => exact ⟨0, t, rfl, rfl, by omega, by omega, by show t = t + MB y 0; simp [MB], hwr⟩
      case round =>
        obtain ⟨n, u, rfl, rfl, hn, hu, hs2, hwr2⟩ := hrel
        have f0 := hwr2.out.c0
        have f1 := hwr2.out.c1
        have f2 := hwr2.out.c2
        go_wp2_with fail
        · have hlt : (n : Int) + 1 < m := by assumption
          refine (rdays y (n + 1) (by omega) (by omega) _).mono ?_
          rintro e w2 ⟨rfl, hb2⟩
          have HW2 : Hid (Boxed w 23 y m d w2) := hwr2.out.below hb2
          have b6 := dim_pos y (n + 1)
          have HM : Hid (MB y (n + 1) = MB y n + dim y (n + 1)) := rfl
          have b7 : u + dim y (n + 1) ≤ 400000 := by
            have h1 := MB_le y (n + 1) (by omega)
            have h2 := hs2.out
            have h3 := HM.out
            omega
          generalize dim y (n + 1) = z1 at b6 b7 HM
          clear hb2 hwr2 f0 f1 f2
          go_wp2_with fail
          go_round
          case rel => exact ⟨n + 1, u + z1, rfl, by go_num, by omega, by omega, by show u + z1 = t + MB y (n + 1); have h1 := hs2.out; have h2 := HM.out; omega, HW2⟩
          case measure => simp [intOf]; omega
        · have hge : m ≤ (n : Int) + 1 := by assumption
          have hN : Hid (dayN y m d = u) := by
            have h1 := HN.out
            have h2 := hs2.out
            have h3 := HYY.out
            rw [show (m - 1).toNat = n by omega] at h1
            show dayN y m d = u
            omega
          go_ret2
          exact num_post_no 3000 (by omega) (fun q' => by have h1 := q'.2; rw [hN.out] at h1; omega) hwr2.out.bel
        · have hge : m ≤ (n : Int) + 1 := by assumption
          have hN : Hid (dayN y m d = u) := by
            have h1 := HN.out
            have h2 := hs2.out
            have h3 := HYY.out
            rw [show (m - 1).toNat = n by omega] at h1
            show dayN y m d = u
            omega
          go_ret2
          exact num_post_yes HT.out hN.out (by assumption) hwr2.out.bel

theorem rnumber (y m d : Int) (hy : -9223372036854775808 ≤ y ∧ y ≤ 9223372036854775807) (hm : -9223372036854775808 ≤ m ∧ m ≤ 9223372036854775807) (hd : -9223372036854775808 ≤ d ∧ d ≤ 9223372036854775807) (w : World) : Calls Try.prog 13 #[dat y m d] w (NumPost y m d w) := by
  by_cases h : y < 1970 ∨ y > 3000 ∨ m < 1 ∨ m > 12 ∨ d < 1
  · exact rnumber_bad y m d hy hm hd w h
  · exact rnumber_good y m d (by omega) (by omega) (by omega) w
end Go.Proofs.Ythdngjpfmjnchaa
