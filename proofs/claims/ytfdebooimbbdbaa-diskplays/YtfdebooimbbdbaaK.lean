/- The reference's Cut. -/
import Derived.Test.YtfdebooimbbdbaaJ
import Derived.WalkKit
import Derived.ProofKit
import Derived.Handy
import Derived.WalkLawsBesides
import Derived.WalkSpells
import Derived.BigQuiet
import Derived.BigCall
import Derived.Deep.QuietTactic
import Derived.Deep.Light
import Derived.Deep.OwnRows
import Derived.Laws.AppendOwnNone
import Derived.Laws.Strings3
import Derived.Laws.RangeAny
import Derived.Deep.RegionWith
import Derived.Lib.BitFns
import Derived.Lib.Walk
import Derived.Lib.Strings
import Derived.Lib.OthersKept
import Derived.Deep.CutBlock
import Derived.Deep.DeepCutAuto
import Derived.Deep.LoopGhost
import Derived.Deep.RegionHeld3
import Derived.Lib.SmallJoins
import Derived.Maps.AppendAt
import Derived.Laws.IdiomStrings
import Derived.Lib.AppendZeros
namespace Go.Proofs.Ytfdebooimbbdbaa
open Go.RowKit
set_option linter.unusedVariables false
set_option linter.unusedSimpArgs false
set_option maxHeartbeats 4000000 in
theorem rcut (S : St) (ok : Ok S) (i m : Int) (w : World) : Calls Try.prog 23 #[.agg (rcells S), .int .i64 i, .int .i64 m] w fun e w' => e = .returned (.tuple #[.agg (rcells (ctf S i m).1), .int .i64 (ctf S i m).2]) ∧ Below w.heap.size w w' := by
  by_cases h0 : chk S i = 0
  · obtain ⟨hg, n, hn, rfl⟩ := chk_zero h0
    have hsm := ok.small n
    have HC : Hid (∀ w, Calls Try.prog 25 #[.agg (rcells S), .int .i64 n] w fun e w' => e = .returned (.int .i64 0) ∧ w' = w.alloc (.cells (rcells S) 29)) := by
      intro w; have := rcheck S n w; rw [h0] at this; exact this
    unfold ctf
    rcases arg_cases S n m h0 with ⟨hf, he⟩ | ⟨k, rfl, hk, he⟩
    · rw [he, chg_e _ _ _ (by omega)]
      have HS : Hid (∀ w, Calls Try.prog 32 #[.agg (rcells S), .int .i64 1] w fun e w' => e = .returned (.tuple #[.agg (rcells S), .int .i64 1]) ∧ w' = (w.alloc (.cells (rcells S) 29)).alloc (.cells (rcells S) 29)) := by
        intro w; have := rspent S ok 1 w; rw [spt_e _ _ (by omega)] at this; exact this
      clear ok he h0 hg
      unfold rcells at *
      generalize S.s 0 = s0 at *
      generalize S.s 1 = s1 at *
      generalize S.s 2 = s2 at *
      generalize S.s 3 = s3 at *
      by_cases hm : m < 0
      · clear hf hsm
        go_enter Try.func23, Try.ntmps23
        go_wp2_with fail
        refine (HC.out _).mono ?_
        rintro e w1 ⟨rfl, rfl⟩
        go_wp2_with fail
        refine (HS.out _).mono ?_
        rintro e w1 ⟨rfl, rfl⟩
        go_wp2_with fail
        go_returns
        exact ⟨rfl, by go_grown⟩
      · rcases four hn with rfl | rfl | rfl | rfl
        · have hf' : ((S.f 0).size : Int) < m := by omega
          have hsm' : ((S.f 0).size : Int) ≤ 1048576 := by omega
          clear hf hsm hn
          try simp only [Int.ofNat_zero, (rfl : (0 : Int).toNat = 0)] at *
          go_enter Try.func23, Try.ntmps23
          go_wp2_with fail
          refine (HC.out _).mono ?_
          rintro e w1 ⟨rfl, rfl⟩
          go_wp2_with fail
          refine (HS.out _).mono ?_
          rintro e w1 ⟨rfl, rfl⟩
          go_wp2_with fail
          go_returns
          exact ⟨rfl, by go_grown⟩
        · have hf' : ((S.f 1).size : Int) < m := by omega
          have hsm' : ((S.f 1).size : Int) ≤ 1048576 := by omega
          clear hf hsm hn
          try simp only [(rfl : ((1 : Nat) : Int) = 1), (rfl : (1 : Int).toNat = 1)] at *
          go_enter Try.func23, Try.ntmps23
          go_wp2_with fail
          refine (HC.out _).mono ?_
          rintro e w1 ⟨rfl, rfl⟩
          go_wp2_with fail
          refine (HS.out _).mono ?_
          rintro e w1 ⟨rfl, rfl⟩
          go_wp2_with fail
          go_returns
          exact ⟨rfl, by go_grown⟩
        · have hf' : ((S.f 2).size : Int) < m := by omega
          have hsm' : ((S.f 2).size : Int) ≤ 1048576 := by omega
          clear hf hsm hn
          try simp only [(rfl : ((2 : Nat) : Int) = 2), (rfl : (2 : Int).toNat = 2)] at *
          go_enter Try.func23, Try.ntmps23
          go_wp2_with fail
          refine (HC.out _).mono ?_
          rintro e w1 ⟨rfl, rfl⟩
          go_wp2_with fail
          refine (HS.out _).mono ?_
          rintro e w1 ⟨rfl, rfl⟩
          go_wp2_with fail
          go_returns
          exact ⟨rfl, by go_grown⟩
        · have hf' : ((S.f 3).size : Int) < m := by omega
          have hsm' : ((S.f 3).size : Int) ≤ 1048576 := by omega
          clear hf hsm hn
          try simp only [(rfl : ((3 : Nat) : Int) = 3), (rfl : (3 : Int).toNat = 3)] at *
          go_enter Try.func23, Try.ntmps23
          go_wp2_with fail
          refine (HC.out _).mono ?_
          rintro e w1 ⟨rfl, rfl⟩
          go_wp2_with fail
          refine (HS.out _).mono ?_
          rintro e w1 ⟨rfl, rfl⟩
          go_wp2_with fail
          go_returns
          exact ⟨rfl, by go_grown⟩
    · rw [he]
      have hs : S.s n ≤ 1048576 := Nat.le_trans (ok.safe n) (ok.small n)
      by_cases h1 : (spd S).2 = 0
      · rw [chg_0 _ _ h1]
        have hff : (spd S).1.f = S.f := (spd_f S).1
        have hss : (spd S).1.s = S.s := (spd_f S).2
        generalize hT : (spd S).1 = T at *
        have HS : Hid (∀ w, Calls Try.prog 32 #[.agg (rcells S), .int .i64 0] w fun e w' => e = .returned (.tuple #[.agg (rcells T), .int .i64 0]) ∧ w' = (w.alloc (.cells (rcells T) 29)).alloc (.cells (rcells T) 29)) := by
          intro w; have := rspent S ok 0 w; rw [spt_0, hT, h1] at this; exact this
        clear ok h1 he h0 hg hT
        unfold rcells at *
        rw [hff, hss] at *
        clear hff hss
        rcases four hn with rfl | rfl | rfl | rfl
        · have hf' : (k : Int) ≤ (S.f 0).size := by omega
          have hsm' : ((S.f 0).size : Int) ≤ 1048576 := by omega
          clear hk hsm hn
          try simp only [Int.ofNat_zero, (rfl : (0 : Int).toNat = 0)] at *
          by_cases hks : k < S.s 0
          · have hm : min (S.s 0) k = k := Nat.min_eq_right (by omega)
            have HM : Hid (min (S.s 0) k = k) := hm
            have hks' : (k : Int) < S.s 0 := by omega
            clear hm hks
            go_enter Try.func23, Try.ntmps23
            go_wp2_with fail
            refine (HC.out _).mono ?_
            rintro e w1 ⟨rfl, rfl⟩
            go_wp2_with fail
            refine (HS.out _).mono ?_
            rintro e w1 ⟨rfl, rfl⟩
            go_wp2_with fail
            go_returns
            refine ⟨?_, by go_grown⟩
            have := HM.out
            simp [put, this]
          · have hm : min (S.s 0) k = S.s 0 := Nat.min_eq_left (by omega)
            have HM : Hid (min (S.s 0) k = S.s 0) := hm
            have hks' : ¬ (k : Int) < S.s 0 := by omega
            clear hm hks
            go_enter Try.func23, Try.ntmps23
            go_wp2_with fail
            refine (HC.out _).mono ?_
            rintro e w1 ⟨rfl, rfl⟩
            go_wp2_with fail
            refine (HS.out _).mono ?_
            rintro e w1 ⟨rfl, rfl⟩
            go_wp2_with fail
            go_returns
            refine ⟨?_, by go_grown⟩
            have := HM.out
            simp [put, this]
        · have hf' : (k : Int) ≤ (S.f 1).size := by omega
          have hsm' : ((S.f 1).size : Int) ≤ 1048576 := by omega
          clear hk hsm hn
          try simp only [(rfl : ((1 : Nat) : Int) = 1), (rfl : (1 : Int).toNat = 1)] at *
          by_cases hks : k < S.s 1
          · have hm : min (S.s 1) k = k := Nat.min_eq_right (by omega)
            have HM : Hid (min (S.s 1) k = k) := hm
            have hks' : (k : Int) < S.s 1 := by omega
            clear hm hks
            go_enter Try.func23, Try.ntmps23
            go_wp2_with fail
            refine (HC.out _).mono ?_
            rintro e w1 ⟨rfl, rfl⟩
            go_wp2_with fail
            refine (HS.out _).mono ?_
            rintro e w1 ⟨rfl, rfl⟩
            go_wp2_with fail
            go_returns
            refine ⟨?_, by go_grown⟩
            have := HM.out
            simp [put, this]
          · have hm : min (S.s 1) k = S.s 1 := Nat.min_eq_left (by omega)
            have HM : Hid (min (S.s 1) k = S.s 1) := hm
            have hks' : ¬ (k : Int) < S.s 1 := by omega
            clear hm hks
            go_enter Try.func23, Try.ntmps23
            go_wp2_with fail
            refine (HC.out _).mono ?_
            rintro e w1 ⟨rfl, rfl⟩
            go_wp2_with fail
            refine (HS.out _).mono ?_
            rintro e w1 ⟨rfl, rfl⟩
            go_wp2_with fail
            go_returns
            refine ⟨?_, by go_grown⟩
            have := HM.out
            simp [put, this]
        · have hf' : (k : Int) ≤ (S.f 2).size := by omega
          have hsm' : ((S.f 2).size : Int) ≤ 1048576 := by omega
          clear hk hsm hn
          try simp only [(rfl : ((2 : Nat) : Int) = 2), (rfl : (2 : Int).toNat = 2)] at *
          by_cases hks : k < S.s 2
          · have hm : min (S.s 2) k = k := Nat.min_eq_right (by omega)
            have HM : Hid (min (S.s 2) k = k) := hm
            have hks' : (k : Int) < S.s 2 := by omega
            clear hm hks
            go_enter Try.func23, Try.ntmps23
            go_wp2_with fail
            refine (HC.out _).mono ?_
            rintro e w1 ⟨rfl, rfl⟩
            go_wp2_with fail
            refine (HS.out _).mono ?_
            rintro e w1 ⟨rfl, rfl⟩
            go_wp2_with fail
            go_returns
            refine ⟨?_, by go_grown⟩
            have := HM.out
            simp [put, this]
          · have hm : min (S.s 2) k = S.s 2 := Nat.min_eq_left (by omega)
            have HM : Hid (min (S.s 2) k = S.s 2) := hm
            have hks' : ¬ (k : Int) < S.s 2 := by omega
            clear hm hks
            go_enter Try.func23, Try.ntmps23
            go_wp2_with fail
            refine (HC.out _).mono ?_
            rintro e w1 ⟨rfl, rfl⟩
            go_wp2_with fail
            refine (HS.out _).mono ?_
            rintro e w1 ⟨rfl, rfl⟩
            go_wp2_with fail
            go_returns
            refine ⟨?_, by go_grown⟩
            have := HM.out
            simp [put, this]
        · have hf' : (k : Int) ≤ (S.f 3).size := by omega
          have hsm' : ((S.f 3).size : Int) ≤ 1048576 := by omega
          clear hk hsm hn
          try simp only [(rfl : ((3 : Nat) : Int) = 3), (rfl : (3 : Int).toNat = 3)] at *
          by_cases hks : k < S.s 3
          · have hm : min (S.s 3) k = k := Nat.min_eq_right (by omega)
            have HM : Hid (min (S.s 3) k = k) := hm
            have hks' : (k : Int) < S.s 3 := by omega
            clear hm hks
            go_enter Try.func23, Try.ntmps23
            go_wp2_with fail
            refine (HC.out _).mono ?_
            rintro e w1 ⟨rfl, rfl⟩
            go_wp2_with fail
            refine (HS.out _).mono ?_
            rintro e w1 ⟨rfl, rfl⟩
            go_wp2_with fail
            go_returns
            refine ⟨?_, by go_grown⟩
            have := HM.out
            simp [put, this]
          · have hm : min (S.s 3) k = S.s 3 := Nat.min_eq_left (by omega)
            have HM : Hid (min (S.s 3) k = S.s 3) := hm
            have hks' : ¬ (k : Int) < S.s 3 := by omega
            clear hm hks
            go_enter Try.func23, Try.ntmps23
            go_wp2_with fail
            refine (HC.out _).mono ?_
            rintro e w1 ⟨rfl, rfl⟩
            go_wp2_with fail
            refine (HS.out _).mono ?_
            rintro e w1 ⟨rfl, rfl⟩
            go_wp2_with fail
            go_returns
            refine ⟨?_, by go_grown⟩
            have := HM.out
            simp [put, this]
      · rw [chg_c _ _ h1]
        have hff : (spd S).1.f = S.f := (spd_f S).1
        have hss : (spd S).1.s = S.s := (spd_f S).2
        generalize hT : (spd S).1 = T at *
        generalize hc : (spd S).2 = c at *
        have HS : Hid (∀ w, Calls Try.prog 32 #[.agg (rcells S), .int .i64 0] w fun e w' => e = .returned (.tuple #[.agg (rcells T), .int .i64 c]) ∧ w' = (w.alloc (.cells (rcells T) 29)).alloc (.cells (rcells T) 29)) := by
          intro w; have := rspent S ok 0 w; rw [spt_0, hT, hc] at this; exact this
        have hc2 : (c == 0) = false := by simpa using h1
        clear ok h1 he h0 hg hT hc hs
        unfold rcells at *
        rw [hff, hss] at *
        clear hff hss
        generalize S.s 0 = s0 at *
        generalize S.s 1 = s1 at *
        generalize S.s 2 = s2 at *
        generalize S.s 3 = s3 at *
        rcases four hn with rfl | rfl | rfl | rfl
        · have hf' : (k : Int) ≤ (S.f 0).size := by omega
          have hsm' : ((S.f 0).size : Int) ≤ 1048576 := by omega
          clear hk hsm hn
          try simp only [Int.ofNat_zero, (rfl : (0 : Int).toNat = 0)] at *
          go_enter Try.func23, Try.ntmps23
          go_wp2_with fail
          refine (HC.out _).mono ?_
          rintro e w1 ⟨rfl, rfl⟩
          go_wp2_with fail
          refine (HS.out _).mono ?_
          rintro e w1 ⟨rfl, rfl⟩
          go_wp2_with fail
          go_returns
          exact ⟨rfl, by go_grown⟩
        · have hf' : (k : Int) ≤ (S.f 1).size := by omega
          have hsm' : ((S.f 1).size : Int) ≤ 1048576 := by omega
          clear hk hsm hn
          try simp only [(rfl : ((1 : Nat) : Int) = 1), (rfl : (1 : Int).toNat = 1)] at *
          go_enter Try.func23, Try.ntmps23
          go_wp2_with fail
          refine (HC.out _).mono ?_
          rintro e w1 ⟨rfl, rfl⟩
          go_wp2_with fail
          refine (HS.out _).mono ?_
          rintro e w1 ⟨rfl, rfl⟩
          go_wp2_with fail
          go_returns
          exact ⟨rfl, by go_grown⟩
        · have hf' : (k : Int) ≤ (S.f 2).size := by omega
          have hsm' : ((S.f 2).size : Int) ≤ 1048576 := by omega
          clear hk hsm hn
          try simp only [(rfl : ((2 : Nat) : Int) = 2), (rfl : (2 : Int).toNat = 2)] at *
          go_enter Try.func23, Try.ntmps23
          go_wp2_with fail
          refine (HC.out _).mono ?_
          rintro e w1 ⟨rfl, rfl⟩
          go_wp2_with fail
          refine (HS.out _).mono ?_
          rintro e w1 ⟨rfl, rfl⟩
          go_wp2_with fail
          go_returns
          exact ⟨rfl, by go_grown⟩
        · have hf' : (k : Int) ≤ (S.f 3).size := by omega
          have hsm' : ((S.f 3).size : Int) ≤ 1048576 := by omega
          clear hk hsm hn
          try simp only [(rfl : ((3 : Nat) : Int) = 3), (rfl : (3 : Int).toNat = 3)] at *
          go_enter Try.func23, Try.ntmps23
          go_wp2_with fail
          refine (HC.out _).mono ?_
          rintro e w1 ⟨rfl, rfl⟩
          go_wp2_with fail
          refine (HS.out _).mono ?_
          rintro e w1 ⟨rfl, rfl⟩
          go_wp2_with fail
          go_returns
          exact ⟨rfl, by go_grown⟩
  · have hf : argE S i m = chk S i := by unfold argE; rw [if_pos h0]
    unfold ctf
    rw [hf, chg_e _ _ _ h0]
    generalize hc : chk S i = c at *
    have HC : Hid (∀ w, Calls Try.prog 25 #[.agg (rcells S), .int .i64 i] w fun e w' => e = .returned (.int .i64 c) ∧ w' = w.alloc (.cells (rcells S) 29)) := by
      intro w; have := rcheck S i w; rw [hc] at this; exact this
    have HS : Hid (∀ w, Calls Try.prog 32 #[.agg (rcells S), .int .i64 c] w fun e w' => e = .returned (.tuple #[.agg (rcells S), .int .i64 c]) ∧ w' = (w.alloc (.cells (rcells S) 29)).alloc (.cells (rcells S) 29)) := by
      intro w; have := rspent S ok c w; rw [spt_e _ _ h0] at this; exact this
    have hc2 : (c == 0) = false := by simpa using h0
    clear ok hf hc
    unfold rcells at *
    go_enter Try.func23, Try.ntmps23
    go_wp2_with fail
    refine (HC.out _).mono ?_
    rintro e w1 ⟨rfl, rfl⟩
    go_wp2_with fail
    refine (HS.out _).mono ?_
    rintro e w1 ⟨rfl, rfl⟩
    go_wp2_with fail
    go_returns
    exact ⟨rfl, by go_grown⟩
end Go.Proofs.Ytfdebooimbbdbaa
