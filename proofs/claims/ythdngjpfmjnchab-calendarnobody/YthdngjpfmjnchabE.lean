/- Walks of Number, of package calendar and of the reference. Conditions: the arguments are ints. -/
import Derived.Test.YthdngjpfmjnchabD
import Derived.WalkKit
import Derived.ProofKit
import Derived.Handy
import Derived.WalkLawsBesides
import Derived.WalkSpells
import Derived.BigQuiet
import Derived.Deep.QuietTactic
import Derived.Deep.Light
import Derived.Deep.OwnRows
import Derived.Laws.AppendOwnNone
import Derived.Deep.RegionWith
import Derived.Lib.BitFns
import Derived.Lib.Walk
import Derived.Deep.CutBlock
import Derived.Deep.DeepCutAuto
import Derived.Deep.LoopGhost
import Derived.Deep.RegionHeld3
import Derived.Lib.SlicesCompact
namespace Go.Proofs.Ythdngjpfmjnchab
open Go.RowKit
set_option linter.unusedVariables false
set_option linter.unusedSimpArgs false

def I64 (a : Int) : Prop := -9223372036854775808 ≤ a ∧ a ≤ 9223372036854775807

theorem below_drewN {B : Nat} {a w : World} {n : Nat} (h : Below B a w) : Below B a (w.drewN n) := ⟨h.os, h.tape, h.output, h.size, h.block⟩

set_option maxHeartbeats 1000000 in
theorem xexists (y m d : Int) (hy : -9223372036854775808 ≤ y ∧ y ≤ 9223372036854775807) (hm : -9223372036854775808 ≤ m ∧ m ≤ 9223372036854775807) (hd : -9223372036854775808 ≤ d ∧ d ≤ 9223372036854775807) (w : World) :
    Calls Try.prog 26 #[dat y m d] w (NewPost (.bool (decide (IsThere 2517 y m d))) w) := by
  by_cases hbad : y < 1970 ∨ y > 2517 ∨ m < 1 ∨ m > 12
  · have hno : Hid (decide (IsThere 2517 y m d) = false) := decide_eq_false (by unfold IsThere; omega)
    generalize decide (IsThere 2517 y m d) = r at hno
    by_cases c1 : y < 1970
    · go_enter Try.func26, Try.ntmps26
      go_wp2
      go_ret
      exact ⟨by rw [hno.out]; rfl, by go_grown⟩
    by_cases c2 : 2517 < y
    · go_enter Try.func26, Try.ntmps26
      go_wp2
      go_ret
      exact ⟨by rw [hno.out]; rfl, by go_grown⟩
    by_cases c3 : m < 1
    · go_enter Try.func26, Try.ntmps26
      go_wp2
      go_ret
      exact ⟨by rw [hno.out]; rfl, by go_grown⟩
    · have c4 : 12 < m := by omega
      clear hbad
      go_enter Try.func26, Try.ntmps26
      go_wp2
      go_ret
      exact ⟨by rw [hno.out]; rfl, by go_grown⟩
  · obtain ⟨c1, c2, c3, c4⟩ : 1970 ≤ y ∧ y ≤ 2517 ∧ 1 ≤ m ∧ m ≤ 12 := by omega
    clear hbad
    by_cases c5 : 1 ≤ d
    · have hyes : Hid (decide (IsThere 2517 y m d) = decide (d ≤ dim y m)) := by
        show _ = _
        rw [decide_eq_decide]
        exact ⟨fun q => q.2.2.2.2.2, fun q => ⟨c1, c2, c3, c4, c5, q⟩⟩
      generalize decide (IsThere 2517 y m d) = r at hyes
      have b1 := dim_pos y m
      have H : ∀ w : World, Hid (Calls Try.prog 25 #[.int .i64 y, .int .i64 m] w fun e w' => e = .returned (.int .i64 (dim y m)) ∧ w' = w) := fun w => (xmonth y m (by omega) (by omega) w).mono fun e w' h => ⟨h.1, h.2.symm⟩
      generalize dim y m = z at b1 H hyes
      have hg : decide ((1 : Int) ≤ d) = true := decide_eq_true c5
      go_enter Try.func26, Try.ntmps26
      go_wp2
      go_quiet ((go_at_call 25; refine Calls.quiet_of_same (H _).out))
      go_wp2
      go_ret
      exact ⟨by rw [hyes.out]; rfl, below_drewN ((Below.refl _ _).alloc (Nat.le_refl _) _)⟩
    · have hno : Hid (decide (IsThere 2517 y m d) = false) := decide_eq_false (by unfold IsThere; omega)
      generalize decide (IsThere 2517 y m d) = r at hno
      have hg : decide ((1 : Int) ≤ d) = false := decide_eq_false c5
      clear c5
      go_enter Try.func26, Try.ntmps26
      go_wp2
      go_quiet (fail)
      go_wp2
      go_ret
      exact ⟨by rw [hno.out]; rfl, below_drewN ((Below.refl _ _).alloc (Nat.le_refl _) _)⟩

def NumPost (y m d : Int) (w : World) (e : Ending) (w' : World) : Prop := e = .returned (.tuple #[.int .i64 (numN y m d), .int .i64 (numE y m d)]) ∧ Below w.heap.size w w'

theorem num_post_no {y m d : Int} {w w' : World} (z : Int) (hz : 2517 ≤ z) (h : ¬ (IsThere z y m d ∧ dayN y m d ≤ 200000)) (hb : Below w.heap.size w w') : NumPost y m d w (.returned (.tuple #[.int .i64 0, .int .i64 10])) w' :=
  ⟨ret_two (num_no z hz h).1.symm (num_no z hz h).2.symm, hb⟩
theorem num_post_yes {y m d n : Int} {w w' : World} (h : IsThere 3000 y m d) (hn : dayN y m d = n) (hl : n ≤ 200000) (hb : Below w.heap.size w w') : NumPost y m d w (.returned (.tuple #[.int .i64 n, .int .i64 0])) w' :=
  ⟨ret_two (by rw [(num_yes h (by rw [hn]; exact hl)).1, hn]) (num_yes h (by rw [hn]; exact hl)).2.symm, hb⟩

set_option maxHeartbeats 1000000 in
theorem xnumber (y m d : Int) (hy : -9223372036854775808 ≤ y ∧ y ≤ 9223372036854775807) (hm : -9223372036854775808 ≤ m ∧ m ≤ 9223372036854775807) (hd : -9223372036854775808 ≤ d ∧ d ≤ 9223372036854775807) (w : World) :
    Calls Try.prog 17 #[dat y m d] w (NumPost y m d w) := by
  have HX : ∀ w : World, Hid (Calls Try.prog 26 #[dat y m d] w (NewPost (.bool (decide (IsThere 2517 y m d))) w)) := fun w => xexists y m d hy hm hd w
  have HB0 : Hid (Boxed w 33 y m d (w.alloc (.cells #[.int .i64 y, .int .i64 m, .int .i64 d] 33))) := Boxed.new w 33 y m d
  by_cases hth : IsThere 2517 y m d
  case neg =>
    have HT : Hid (¬ IsThere 2517 y m d) := hth
    clear hth
    go_enter Try.func17, Try.ntmps17
    go_wp2_with fail
    refine (HX _).out.mono ?_
    rintro e w1 ⟨rfl, hb1⟩
    rw [decide_eq_false HT.out]
    have HB1 : Hid (Boxed w 33 y m d w1) := HB0.out.below hb1
    clear hb1
    go_wp2_with fail
    go_ret2
    exact num_post_no 2517 (by omega) (fun q => HT.out q.1) HB1.out.bel
  have HT : Hid (IsThere 2517 y m d) := hth
  obtain ⟨c1, c2, c3, c4, c5, c6⟩ := hth
  have c7 := dim_pos y m
  have b3 := YB_le c1
  have b4 := YB_le c2
  rw [YB_first] at b3
  rw [show YB 2517 = 199788 by decide] at b4
  generalize dim y m = z at c6 c7
  have HD : ∀ w : World, Hid (Calls Try.prog 24 #[.int .i64 y] w fun e w' => e = .returned (.int .i64 (YB y)) ∧ w' = w) := fun w => (xdays y (by omega) w).mono fun e w' h => ⟨h.1, h.2.symm⟩
  have HN : Hid (dayN y m d = YB y + MB y (m - 1).toNat + d - 1) := rfl
  generalize YB y = q at b3 b4 HD HN
  go_enter Try.func17, Try.ntmps17
  go_wp2_with fail
  refine (HX _).out.mono ?_
  rintro e w1 ⟨rfl, hb1⟩
  rw [decide_eq_true HT.out]
  have HB1 : Hid (Boxed w 33 y m d w1) := HB0.out.below hb1
  have f0 := HB1.out.c0
  have f1 := HB1.out.c1
  have f2 := HB1.out.c2
  clear hb1
  go_wp2_with fail
  go_quiet ((go_at_call 24; refine Calls.quiet_of_same (HD _).out))
  go_wp2_with fail
  go_loop [4, 5] (fun di mi => ∃ (n : Nat) (t : Int), di = .int .i64 t ∧ mi = .int .i64 (n + 1) ∧ (n : Int) ≤ m - 1 ∧ (0 ≤ t ∧ t ≤ 200300) ∧ Hid (t = q + d - 1 + MB y n)) (fun _ mi => (20 - intOf mi).toNat)
  case atStart => exact ⟨0, q + d - 1, rfl, rfl, by omega, by omega, by show q + d - 1 = q + d - 1 + MB y 0; simp [MB]⟩
  case round =>
    obtain ⟨n, t, rfl, rfl, hn, ht, hs⟩ := hrel
    go_wp2_with fail
    · have hlt : (n : Int) + 1 < m := by assumption
      refine (xmonth y (n + 1) (by omega) (by omega) _).mono ?_
      rintro e w2 ⟨rfl, rfl⟩
      have HM : Hid (MB y (n + 1) = MB y n + dim y (n + 1)) := rfl
      have b5 := dim_pos y (n + 1)
      have b6 : t + dim y (n + 1) ≤ 200300 := by
        have h1 := MB_le y (n + 1) (by omega)
        have h2 := hs.out
        have h3 := HM.out
        omega
      generalize dim y (n + 1) = z1 at b5 b6 HM
      go_wp2_with fail
      go_round
      case rel => exact ⟨n + 1, t + z1, rfl, by go_num, by omega, by omega, by show t + z1 = q + d - 1 + MB y (n + 1); have h1 := HM.out; have h2 := hs.out; omega⟩
      case measure => simp [intOf]; omega
    · have hge : m ≤ (n : Int) + 1 := by assumption
      have hN : Hid (dayN y m d = t) := by
        have h1 := HN.out
        have h2 := hs.out
        rw [show (m - 1).toNat = n by omega] at h1
        show dayN y m d = t
        omega
      refine (xgood t (by omega) _).mono ?_
      rintro e w2 ⟨rfl, rfl⟩
      by_cases c : t ≤ 200000
      · rw [decide_eq_true (show GoodD t from ⟨by omega, c⟩)]
        go_wp2_with fail
        go_ret2
        refine num_post_yes ⟨c1, by omega, HT.out.2.2⟩ hN.out c ?_
        first | exact HB1.out.bel | exact below_drewN HB1.out.bel
      · rw [decide_eq_false (show ¬ GoodD t from fun q => by have := q.2; omega)]
        go_wp2_with fail
        go_ret2
        refine num_post_no 2517 (by omega) (fun q' => by have h1 := q'.2; rw [hN.out] at h1; omega) ?_
        first | exact HB1.out.bel | exact below_drewN HB1.out.bel
end Go.Proofs.Ythdngjpfmjnchab
