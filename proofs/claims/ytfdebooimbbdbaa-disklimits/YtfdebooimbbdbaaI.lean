/- The reference's Append. -/
import Derived.Test.YtfdebooimbbdbaaH
import Derived.WalkKit
import Derived.ProofKit
import Derived.Handy
import Derived.WalkLawsBesides
import Derived.WalkSpells
import Derived.BigQuiet
import Derived.BigCall
import Derived.Deep.QuietTactic
import Derived.Deep.Light
import Derived.Deep.OwnRows
import Derived.Laws.AppendOwnNone
import Derived.Laws.Strings3
import Derived.Laws.RangeAny
import Derived.Deep.RegionWith
import Derived.Lib.BitFns
import Derived.Lib.Walk
import Derived.Lib.Strings
import Derived.Lib.OthersKept
import Derived.Deep.CutBlock
import Derived.Deep.DeepCutAuto
import Derived.Deep.LoopGhost
import Derived.Deep.RegionHeld3
import Derived.Lib.SmallJoins
import Derived.Maps.AppendAt
import Derived.Laws.IdiomStrings
import Derived.Lib.AppendZeros
namespace Go.Proofs.Ytfdebooimbbdbaa
open Go.RowKit
set_option linter.unusedVariables false
set_option linter.unusedSimpArgs false
theorem spt_e (S : St) (e : Int) (h : ¬ e = 0) : spt S e = (S, e) := by unfold spt; rw [if_pos h]
theorem spt_0 (S : St) : spt S 0 = spd S := by unfold spt; rw [if_neg (by simp)]
set_option maxHeartbeats 4000000 in
theorem rappend (S : St) (ok : Ok S) (i : Int) (t : ByteArray) (ht : t.size ≤ maxLen) (w : World) : Calls Try.prog 21 #[.agg (rcells S), .int .i64 i, .string t] w fun e w' => e = .returned (.tuple #[.agg (rcells (app S i t).1), .int .i64 (app S i t).2]) ∧ Below w.heap.size w w' := by
  unfold maxLen at ht
  by_cases h0 : chk S i = 0
  · obtain ⟨hg, n, hn, rfl⟩ := chk_zero h0
    have hsm := ok.small n
    have HC : Hid (∀ w, Calls Try.prog 25 #[.agg (rcells S), .int .i64 n] w fun e w' => e = .returned (.int .i64 0) ∧ w' = w.alloc (.cells (rcells S) 29)) := by
      intro w; have := rcheck S n w; rw [h0] at this; exact this
    unfold app
    rcases full_cases S n t.size h0 with ⟨hf, he⟩ | ⟨hf, he⟩
    · rw [he, chg_e _ _ _ (by omega)]
      have HS : Hid (∀ w, Calls Try.prog 32 #[.agg (rcells S), .int .i64 18] w fun e w' => e = .returned (.tuple #[.agg (rcells S), .int .i64 18]) ∧ w' = (w.alloc (.cells (rcells S) 29)).alloc (.cells (rcells S) 29)) := by
        intro w; have := rspent S ok 18 w; rw [spt_e _ _ (by omega)] at this; exact this
      clear ok he h0 hg
      unfold rcells at *
      generalize S.s 0 = s0 at *
      generalize S.s 1 = s1 at *
      generalize S.s 2 = s2 at *
      generalize S.s 3 = s3 at *
      rcases four hn with rfl | rfl | rfl | rfl
      · have hf' : (1048576 : Int) - (S.f 0).size < t.size := by omega
        have hsm' : ((S.f 0).size : Int) ≤ 1048576 := by omega
        clear hf hsm hn
        try simp only [Int.ofNat_zero, (rfl : (0 : Int).toNat = 0)] at *
        go_enter Try.func21, Try.ntmps21
        go_wp2_with fail
        refine (HC.out _).mono ?_
        rintro e w1 ⟨rfl, rfl⟩
        go_wp2_with fail
        refine (HS.out _).mono ?_
        rintro e w1 ⟨rfl, rfl⟩
        go_wp2_with fail
        go_returns
        exact ⟨rfl, by go_grown⟩
      · have hf' : (1048576 : Int) - (S.f 1).size < t.size := by omega
        have hsm' : ((S.f 1).size : Int) ≤ 1048576 := by omega
        clear hf hsm hn
        try simp only [(rfl : ((1 : Nat) : Int) = 1), (rfl : (1 : Int).toNat = 1)] at *
        go_enter Try.func21, Try.ntmps21
        go_wp2_with fail
        refine (HC.out _).mono ?_
        rintro e w1 ⟨rfl, rfl⟩
        go_wp2_with fail
        refine (HS.out _).mono ?_
        rintro e w1 ⟨rfl, rfl⟩
        go_wp2_with fail
        go_returns
        exact ⟨rfl, by go_grown⟩
      · have hf' : (1048576 : Int) - (S.f 2).size < t.size := by omega
        have hsm' : ((S.f 2).size : Int) ≤ 1048576 := by omega
        clear hf hsm hn
        try simp only [(rfl : ((2 : Nat) : Int) = 2), (rfl : (2 : Int).toNat = 2)] at *
        go_enter Try.func21, Try.ntmps21
        go_wp2_with fail
        refine (HC.out _).mono ?_
        rintro e w1 ⟨rfl, rfl⟩
        go_wp2_with fail
        refine (HS.out _).mono ?_
        rintro e w1 ⟨rfl, rfl⟩
        go_wp2_with fail
        go_returns
        exact ⟨rfl, by go_grown⟩
      · have hf' : (1048576 : Int) - (S.f 3).size < t.size := by omega
        have hsm' : ((S.f 3).size : Int) ≤ 1048576 := by omega
        clear hf hsm hn
        try simp only [(rfl : ((3 : Nat) : Int) = 3), (rfl : (3 : Int).toNat = 3)] at *
        go_enter Try.func21, Try.ntmps21
        go_wp2_with fail
        refine (HC.out _).mono ?_
        rintro e w1 ⟨rfl, rfl⟩
        go_wp2_with fail
        refine (HS.out _).mono ?_
        rintro e w1 ⟨rfl, rfl⟩
        go_wp2_with fail
        go_returns
        exact ⟨rfl, by go_grown⟩
    · rw [he]
      by_cases h1 : (spd S).2 = 0
      · rw [chg_0 _ _ h1]
        have hff : (spd S).1.f = S.f := (spd_f S).1
        have hss : (spd S).1.s = S.s := (spd_f S).2
        generalize hT : (spd S).1 = T at *
        have HS : Hid (∀ w, Calls Try.prog 32 #[.agg (rcells S), .int .i64 0] w fun e w' => e = .returned (.tuple #[.agg (rcells T), .int .i64 0]) ∧ w' = (w.alloc (.cells (rcells T) 29)).alloc (.cells (rcells T) 29)) := by
          intro w; have := rspent S ok 0 w; rw [spt_0, hT, h1] at this; exact this
        clear ok h1 he h0 hg hT
        unfold rcells at *
        rw [hff, hss] at *
        clear hff hss
        generalize S.s 0 = s0 at *
        generalize S.s 1 = s1 at *
        generalize S.s 2 = s2 at *
        generalize S.s 3 = s3 at *
        rcases four hn with rfl | rfl | rfl | rfl
        · have hf' : ¬ (1048576 : Int) - (S.f 0).size < t.size := by omega
          have hsm' : ((S.f 0).size : Int) ≤ 1048576 := by omega
          clear hf hsm hn
          try simp only [Int.ofNat_zero, (rfl : (0 : Int).toNat = 0)] at *
          go_enter Try.func21, Try.ntmps21
          go_wp2_with fail
          refine (HC.out _).mono ?_
          rintro e w1 ⟨rfl, rfl⟩
          go_wp2_with fail
          refine (HS.out _).mono ?_
          rintro e w1 ⟨rfl, rfl⟩
          go_wp2_with fail
          go_returns
          exact ⟨rfl, by go_grown⟩
        · have hf' : ¬ (1048576 : Int) - (S.f 1).size < t.size := by omega
          have hsm' : ((S.f 1).size : Int) ≤ 1048576 := by omega
          clear hf hsm hn
          try simp only [(rfl : ((1 : Nat) : Int) = 1), (rfl : (1 : Int).toNat = 1)] at *
          go_enter Try.func21, Try.ntmps21
          go_wp2_with fail
          refine (HC.out _).mono ?_
          rintro e w1 ⟨rfl, rfl⟩
          go_wp2_with fail
          refine (HS.out _).mono ?_
          rintro e w1 ⟨rfl, rfl⟩
          go_wp2_with fail
          go_returns
          exact ⟨rfl, by go_grown⟩
        · have hf' : ¬ (1048576 : Int) - (S.f 2).size < t.size := by omega
          have hsm' : ((S.f 2).size : Int) ≤ 1048576 := by omega
          clear hf hsm hn
          try simp only [(rfl : ((2 : Nat) : Int) = 2), (rfl : (2 : Int).toNat = 2)] at *
          go_enter Try.func21, Try.ntmps21
          go_wp2_with fail
          refine (HC.out _).mono ?_
          rintro e w1 ⟨rfl, rfl⟩
          go_wp2_with fail
          refine (HS.out _).mono ?_
          rintro e w1 ⟨rfl, rfl⟩
          go_wp2_with fail
          go_returns
          exact ⟨rfl, by go_grown⟩
        · have hf' : ¬ (1048576 : Int) - (S.f 3).size < t.size := by omega
          have hsm' : ((S.f 3).size : Int) ≤ 1048576 := by omega
          clear hf hsm hn
          try simp only [(rfl : ((3 : Nat) : Int) = 3), (rfl : (3 : Int).toNat = 3)] at *
          go_enter Try.func21, Try.ntmps21
          go_wp2_with fail
          refine (HC.out _).mono ?_
          rintro e w1 ⟨rfl, rfl⟩
          go_wp2_with fail
          refine (HS.out _).mono ?_
          rintro e w1 ⟨rfl, rfl⟩
          go_wp2_with fail
          go_returns
          exact ⟨rfl, by go_grown⟩
      · rw [chg_c _ _ h1]
        have hff : (spd S).1.f = S.f := (spd_f S).1
        have hss : (spd S).1.s = S.s := (spd_f S).2
        generalize hT : (spd S).1 = T at *
        generalize hc : (spd S).2 = c at *
        have HS : Hid (∀ w, Calls Try.prog 32 #[.agg (rcells S), .int .i64 0] w fun e w' => e = .returned (.tuple #[.agg (rcells T), .int .i64 c]) ∧ w' = (w.alloc (.cells (rcells T) 29)).alloc (.cells (rcells T) 29)) := by
          intro w; have := rspent S ok 0 w; rw [spt_0, hT, hc] at this; exact this
        have hc2 : (c == 0) = false := by simpa using h1
        clear ok h1 he h0 hg hT hc
        unfold rcells at *
        rw [hff, hss] at *
        clear hff hss
        generalize S.s 0 = s0 at *
        generalize S.s 1 = s1 at *
        generalize S.s 2 = s2 at *
        generalize S.s 3 = s3 at *
        rcases four hn with rfl | rfl | rfl | rfl
        · have hf' : ¬ (1048576 : Int) - (S.f 0).size < t.size := by omega
          have hsm' : ((S.f 0).size : Int) ≤ 1048576 := by omega
          clear hf hsm hn
          try simp only [Int.ofNat_zero, (rfl : (0 : Int).toNat = 0)] at *
          go_enter Try.func21, Try.ntmps21
          go_wp2_with fail
          refine (HC.out _).mono ?_
          rintro e w1 ⟨rfl, rfl⟩
          go_wp2_with fail
          refine (HS.out _).mono ?_
          rintro e w1 ⟨rfl, rfl⟩
          go_wp2_with fail
          go_returns
          exact ⟨rfl, by go_grown⟩
        · have hf' : ¬ (1048576 : Int) - (S.f 1).size < t.size := by omega
          have hsm' : ((S.f 1).size : Int) ≤ 1048576 := by omega
          clear hf hsm hn
          try simp only [(rfl : ((1 : Nat) : Int) = 1), (rfl : (1 : Int).toNat = 1)] at *
          go_enter Try.func21, Try.ntmps21
          go_wp2_with fail
          refine (HC.out _).mono ?_
          rintro e w1 ⟨rfl, rfl⟩
          go_wp2_with fail
          refine (HS.out _).mono ?_
          rintro e w1 ⟨rfl, rfl⟩
          go_wp2_with fail
          go_returns
          exact ⟨rfl, by go_grown⟩
        · have hf' : ¬ (1048576 : Int) - (S.f 2).size < t.size := by omega
          have hsm' : ((S.f 2).size : Int) ≤ 1048576 := by omega
          clear hf hsm hn
          try simp only [(rfl : ((2 : Nat) : Int) = 2), (rfl : (2 : Int).toNat = 2)] at *
          go_enter Try.func21, Try.ntmps21
          go_wp2_with fail
          refine (HC.out _).mono ?_
          rintro e w1 ⟨rfl, rfl⟩
          go_wp2_with fail
          refine (HS.out _).mono ?_
          rintro e w1 ⟨rfl, rfl⟩
          go_wp2_with fail
          go_returns
          exact ⟨rfl, by go_grown⟩
        · have hf' : ¬ (1048576 : Int) - (S.f 3).size < t.size := by omega
          have hsm' : ((S.f 3).size : Int) ≤ 1048576 := by omega
          clear hf hsm hn
          try simp only [(rfl : ((3 : Nat) : Int) = 3), (rfl : (3 : Int).toNat = 3)] at *
          go_enter Try.func21, Try.ntmps21
          go_wp2_with fail
          refine (HC.out _).mono ?_
          rintro e w1 ⟨rfl, rfl⟩
          go_wp2_with fail
          refine (HS.out _).mono ?_
          rintro e w1 ⟨rfl, rfl⟩
          go_wp2_with fail
          go_returns
          exact ⟨rfl, by go_grown⟩
  · have hf : full S i t.size = chk S i := by unfold full; rw [if_pos h0]
    unfold app
    rw [hf, chg_e _ _ _ h0]
    generalize hc : chk S i = c at *
    have HC : Hid (∀ w, Calls Try.prog 25 #[.agg (rcells S), .int .i64 i] w fun e w' => e = .returned (.int .i64 c) ∧ w' = w.alloc (.cells (rcells S) 29)) := by
      intro w; have := rcheck S i w; rw [hc] at this; exact this
    have HS : Hid (∀ w, Calls Try.prog 32 #[.agg (rcells S), .int .i64 c] w fun e w' => e = .returned (.tuple #[.agg (rcells S), .int .i64 c]) ∧ w' = (w.alloc (.cells (rcells S) 29)).alloc (.cells (rcells S) 29)) := by
      intro w; have := rspent S ok c w; rw [spt_e _ _ h0] at this; exact this
    have hc2 : (c == 0) = false := by simpa using h0
    clear ok hf hc
    unfold rcells at *
    go_enter Try.func21, Try.ntmps21
    go_wp2_with fail
    refine (HC.out _).mono ?_
    rintro e w1 ⟨rfl, rfl⟩
    go_wp2_with fail
    refine (HS.out _).mono ?_
    rintro e w1 ⟨rfl, rfl⟩
    go_wp2_with fail
    go_returns
    exact ⟨rfl, by go_grown⟩
end Go.Proofs.Ytfdebooimbbdbaa
