/- Walks of Count, of package calendar and of the reference. Conditions: the arguments are ints. -/
import Derived.Test.YthdngjpfmjnchaaK
import Derived.WalkKit
import Derived.ProofKit
import Derived.Handy
import Derived.WalkLawsBesides
import Derived.WalkSpells
import Derived.BigQuiet
import Derived.Deep.QuietTactic
import Derived.Deep.Light
import Derived.Deep.OwnRows
import Derived.Laws.AppendOwnNone
import Derived.Deep.RegionWith
import Derived.Lib.BitFns
import Derived.Lib.Walk
import Derived.Deep.CutBlock
import Derived.Deep.DeepCutAuto
import Derived.Deep.LoopGhost
import Derived.Deep.RegionHeld3
import Derived.Lib.SlicesCompact
import Derived.Laws.CopyOwn
import Derived.Sort.OwnSortedInts
namespace Go.Proofs.Ythdngjpfmjnchaa
open Go.RowKit
set_option linter.unusedVariables false
set_option linter.unusedSimpArgs false
theorem xwdb (n : Int) (hn : 0 ≤ n ∧ n ≤ 200001) (w : World) : Calls Try.prog 42 #[.int .i64 n] w (RetPost (.int .i64 (WB n)) w) := by
  go_enter Try.func42, Try.ntmps42
  go_wp2
  all_goals go_ret
  all_goals exact ⟨ret_int (by unfold WB; omega), rfl⟩

set_option maxHeartbeats 2000000 in
theorem xcount (p : Nat) (ys : List Int) (a b : Int) (w : World) (ha : -9223372036854775808 ≤ a ∧ a ≤ 9223372036854775807) (hb : -9223372036854775808 ≤ b ∧ b ≤ 9223372036854775807) (hc : Cal w p ys) :
    Calls Try.prog 23 #[.pointer (some ⟨p, 0, none⟩), .int .i64 a, .int .i64 b] w (RetPost (.int .i64 (cntB ys a b)) w) := by
  have HC : Hid (Cal w p ys) := hc
  clear hc
  obtain ⟨v, c1, hv⟩ := HC.out.c1
  obtain ⟨ad, cap, rfl, hs⟩ := hv
  have HS : Hid (ys ≠ [] → ∃ b off, ad = some ⟨b, off, none⟩ ∧ b < w.heap.size ∧ ∀ j, j < ys.length → w.cell? ⟨b, off + j, none⟩ = some (.int .i64 (ys.getD j 0))) := hs
  have hl := HC.out.len
  have hl' : (ys.length : Int) ≤ 256 := by omega
  clear hs
  go_enter Try.func23, Try.ntmps23
  go_wp2_with fail
  refine (xnone p ys w HC.out).mono ?_
  rintro e w1 ⟨rfl, rfl⟩
  have HM : Hid (cntB ys a b = if max a 0 < min b 200001 then WB (min b 200001) - WB (max a 0) - offs ys (max a 0) (min b 200001) else 0) := by
    show cntB ys a b = _
    unfold cntB
    by_cases c : max a 0 < min b 200001
    · rw [if_pos c, cnt_weeks ys (lt_nodup HC.out.up) a _ (by omega) (by omega)]
      rw [show (((min b 200001).toNat : Nat) : Int) = min b 200001 by omega]
    · rw [if_neg c]
      by_cases c2 : 0 ≤ a
      · exact cnt_low ys a _ (by omega)
      · rw [show (min b 200001).toNat = 0 by omega]
        rfl
  have hA : 0 ≤ max a 0 ∧ max a 0 ≤ 9223372036854775807 := by omega
  have hB : -9223372036854775808 ≤ min b 200001 ∧ min b 200001 ≤ 200001 := by omega
  generalize max a 0 = A at HM hA
  generalize min b 200001 = B at HM hB
  by_cases hAB : A < B
  case neg =>
    have hAB2 : decide (B ≤ A) = true := decide_eq_true (by omega)
    rw [if_neg hAB] at HM
    clear hAB
    go_wp2_with fail
    go_ret
    exact ⟨ret_int HM.out.symm, rfl⟩
  have hAB2 : decide (B ≤ A) = false := decide_eq_false (by omega)
  rw [if_pos hAB] at HM
  go_wp2_with fail
  refine (xwdb B (by omega) _).mono ?_
  rintro e w1 ⟨rfl, rfl⟩
  go_wp2_with fail
  refine (xwdb A (by omega) _).mono ?_
  rintro e w1 ⟨rfl, rfl⟩
  have b1 : 0 ≤ WB B ∧ WB B ≤ 200000 := by unfold WB; omega
  have b2 : 0 ≤ WB A ∧ WB A ≤ 200000 := by unfold WB; omega
  generalize WB B = x1 at b1 HM
  generalize WB A = x2 at b2 HM
  go_wp2_with fail
  go_loop [7, 31] (fun ci ki => ∃ (k : Nat) (c : Int), k ≤ ys.length ∧ ci = .int .i64 c ∧ ki = .int .i64 k ∧ (-300000 ≤ c ∧ c ≤ 300000) ∧ Hid (c = x1 - x2 - offs (ys.take k) A B)) (fun _ ki => ys.length - (intOf ki).toNat)
  case atStart => exact ⟨0, x1 - x2, by omega, rfl, rfl, by omega, by show x1 - x2 = x1 - x2 - offs (ys.take 0) A B; rw [List.take_zero, offs_nil]; omega⟩
  case round =>
    obtain ⟨k, c, hk, rfl, rfl, hcb, hcc⟩ := hrel
    by_cases hlt : k < ys.length
    · obtain ⟨g, off, rfl, hgb, hcell⟩ := HS.out (by intro e; subst e; simp at hlt)
      have hck := hcell k hlt
      have HT : Hid (ys.take (k + 1) = ys.take k ++ [ys.getD k 0]) := by show _ = _; rw [List.take_add_one]; simp [hlt]
      have hy : 0 ≤ ys.getD k 0 ∧ ys.getD k 0 ≤ 200000 := HC.out.good _ (by simp [hlt])
      have HO : Hid (offs (ys.take (k + 1)) A B = offs (ys.take k) A B + (if A ≤ ys.getD k 0 ∧ ys.getD k 0 < B ∧ (ys.getD k 0 + 3) % 7 < 5 then 1 else 0)) := by
        show _ = _
        rw [HT.out, offs_snoc]
      have hob := offs_bounds (ys.take (k + 1)) A B
      have hol : ((ys.take (k + 1)).length : Int) ≤ 256 := by simp; omega
      have HOB : Hid (offs (ys.take (k + 1)) A B ≤ 256 ∧ 0 ≤ offs (ys.take (k + 1)) A B) := ⟨by omega, hob.1⟩
      have hlt' : (k : Int) < ys.length := by omega
      generalize ys.getD k 0 = y at hck hy HO
      clear hcell HT hob hol
      by_cases q1 : A ≤ y
      case neg =>
        have e1 : decide (A ≤ y) = false := decide_eq_false q1
        have HQ : Hid (¬ A ≤ y) := q1
        clear q1
        go_wp2_with fail
        go_round
        case rel =>
          have h1 := hcc.out
          have h2 := HO.out
          have h3 := HQ.out
          rw [if_neg (by omega)] at h2
          exact ⟨k + 1, c, by omega, rfl, by go_num, hcb, by show c = x1 - x2 - offs (ys.take (k + 1)) A B; omega⟩
        case measure => simp [intOf]; omega
      have e1 : decide (A ≤ y) = true := decide_eq_true q1
      by_cases q2 : y < B
      case neg =>
        have e2 : decide (y < B) = false := decide_eq_false q2
        have HQ : Hid (¬ y < B) := q2
        clear q1 q2
        go_wp2_with fail
        go_round
        case rel =>
          have h1 := hcc.out
          have h2 := HO.out
          have h3 := HQ.out
          rw [if_neg (by omega)] at h2
          exact ⟨k + 1, c, by omega, rfl, by go_num, hcb, by show c = x1 - x2 - offs (ys.take (k + 1)) A B; omega⟩
        case measure => simp [intOf]; omega
      have e2 : decide (y < B) = true := decide_eq_true q2
      have HQ : Hid (A ≤ y ∧ y < B) := ⟨q1, q2⟩
      clear q1 q2
      go_wp2_with fail
      refine (xweek y (by omega) _).mono ?_
      rintro e w1 ⟨rfl, rfl⟩
      generalize (y + 3) % 7 = z at HO
      by_cases q3 : z < 5
      · have e3 : decide (z < 5) = true := decide_eq_true q3
        have hcb2 : -300000 ≤ c - 1 ∧ c - 1 ≤ 300000 := by
          have h1 := hcc.out
          have h2 := HO.out
          have h4 := HOB.out
          rw [if_pos ⟨HQ.out.1, HQ.out.2, q3⟩] at h2
          omega
        have HO2 : Hid (offs (ys.take (k + 1)) A B = offs (ys.take k) A B + 1) := by have h2 := HO.out; rw [if_pos ⟨HQ.out.1, HQ.out.2, q3⟩] at h2; exact h2
        clear q3
        go_wp2_with fail
        go_round
        case rel =>
          have h1 := hcc.out
          have h2 := HO2.out
          exact ⟨k + 1, c - 1, by omega, by go_num, by go_num, hcb2, by show c - 1 = x1 - x2 - offs (ys.take (k + 1)) A B; omega⟩
        case measure => simp [intOf]; omega
      · have e3 : decide (z < 5) = false := decide_eq_false q3
        have HO2 : Hid (offs (ys.take (k + 1)) A B = offs (ys.take k) A B) := by have h2 := HO.out; rw [if_neg (fun q => q3 q.2.2)] at h2; rw [h2]; exact Int.add_zero _
        clear q3
        go_wp2_with fail
        go_round
        case rel =>
          have h1 := hcc.out
          have h2 := HO2.out
          exact ⟨k + 1, c, by omega, rfl, by go_num, hcb, by show c = x1 - x2 - offs (ys.take (k + 1)) A B; omega⟩
        case measure => simp [intOf]; omega
    · obtain rfl : k = ys.length := by omega
      clear hlt
      go_wp2_with fail
      go_ret
      exact ⟨ret_int (by have h1 := hcc.out; rw [List.take_length] at h1; rw [h1]; exact HM.out.symm), rfl⟩

set_option maxHeartbeats 2000000 in
theorem rcount (xs : List Int) (v : Value) (a b : Int) (w : World) (ha : -9223372036854775808 ≤ a ∧ a ≤ 9223372036854775807) (hb : -9223372036854775808 ≤ b ∧ b ≤ 9223372036854775807) (hl : xs.length ≤ 256) (hv : Seg w v xs) :
    Calls Try.prog 24 #[.agg #[v], .int .i64 a, .int .i64 b] w (NewPost (.int .i64 (cntB xs a b)) w) := by
  have HV : Hid (Seg w v xs) := hv
  have HB : Hid (BoxV w v (w.alloc (.cells #[v] 45))) := BoxV.new w v
  have hone : v.oneCell' = true := by obtain ⟨a, cap, rfl, -⟩ := hv; rfl
  clear hv
  go_enter Try.func24, Try.ntmps24
  go_wp2_with fail
  go_loopw [7, 8] (fun ci ki wr => ∃ (k : Nat) (c : Int), ci = .int .i64 c ∧ ki = .int .i64 k ∧ (k : Int) ≤ 200001 ∧ (0 ≤ c ∧ c ≤ 200001) ∧ Hid (c = cntW xs a k ∧ k ≤ (min b 200001).toNat) ∧ Hid (BoxV w v wr)) (fun _ ki _ => 200002 - (intOf ki).toNat)
  case atStart => exact ⟨0, 0, rfl, rfl, by omega, by omega, ⟨rfl, by omega⟩, HB⟩
  case round =>
    obtain ⟨k, c, rfl, rfl, hk, hcb, hcc, hbx⟩ := hrel
    have c0 := hbx.out.c0
    by_cases q1 : (k : Int) ≤ 200000
    case neg =>
      have e1 : decide ((k : Int) ≤ 200000) = false := decide_eq_false q1
      have HE : Hid (cntB xs a b = c) := by
        have h := hcc.out
        show cntW xs a _ = c
        rw [show (min b 200001).toNat = k by omega]
        exact h.1.symm
      clear q1
      go_wp2_with fail
      go_ret
      exact ⟨ret_int HE.out.symm, hbx.out.bel⟩
    have e1 : decide ((k : Int) ≤ 200000) = true := decide_eq_true q1
    by_cases q2 : (k : Int) < b
    case neg =>
      have e2 : decide ((k : Int) < b) = false := decide_eq_false q2
      have HE : Hid (cntB xs a b = c) := by
        have h := hcc.out
        show cntW xs a _ = c
        rw [show (min b 200001).toNat = k by omega]
        exact h.1.symm
      clear q2
      go_wp2_with fail
      go_ret
      exact ⟨ret_int HE.out.symm, hbx.out.bel⟩
    have e2 : decide ((k : Int) < b) = true := decide_eq_true q2
    have HC : Hid (cntW xs a (k + 1) = c + (if a ≤ (k : Int) ∧ wkB xs k = true then 1 else 0) ∧ k + 1 ≤ (min b 200001).toNat ∧ cntW xs a (k + 1) ≤ 200001) := by
      have h := hcc.out
      have h2 := (cnt_bounds xs a (k + 1)).2
      exact ⟨by rw [cntW, ← h.1], by omega, by omega⟩
    by_cases q3 : a ≤ (k : Int)
    case neg =>
      have e3 : decide (a ≤ (k : Int)) = false := decide_eq_false q3
      have HQ : Hid (¬ a ≤ (k : Int)) := q3
      clear q3
      go_wp2_with fail
      have h2 := HC.out
      rw [if_neg (fun q => HQ.out q.1)] at h2
      exact ⟨⟨k + 1, c, rfl, by go_num, by omega, hcb, ⟨by rw [h2.1]; exact (Int.add_zero c).symm, h2.2.1⟩, hbx⟩, by simp [intOf]; omega⟩
    have e3 : decide (a ≤ (k : Int)) = true := decide_eq_true q3
    go_wp2_with fail
    refine (rworks xs v k _ (by omega) hl (HV.out.below hbx.out.bel)).mono ?_
    rintro e w1 ⟨rfl, hb1⟩
    have HB1 : Hid (BoxV w v w1) := hbx.out.below hb1
    clear hb1 hbx c0
    cases hw : wkB xs (k : Int)
    · have h2 := HC.out
      rw [hw, if_neg (by simp)] at h2
      have H2 : Hid (cntW xs a (k + 1) = c + 0 ∧ k + 1 ≤ (min b 200001).toNat ∧ cntW xs a (k + 1) ≤ 200001) := h2
      clear hw h2 HC
      go_wp2_with fail
      exact ⟨⟨k + 1, c, rfl, by go_num, by omega, hcb, ⟨by rw [H2.out.1]; exact (Int.add_zero c).symm, H2.out.2.1⟩, HB1⟩, by simp [intOf]; omega⟩
    · have h2 := HC.out
      rw [hw, if_pos ⟨q3, rfl⟩] at h2
      have H2 : Hid (cntW xs a (k + 1) = c + 1 ∧ k + 1 ≤ (min b 200001).toNat ∧ cntW xs a (k + 1) ≤ 200001) := h2
      have h3 : c + 1 ≤ 200001 := by omega
      clear hw h2 HC
      go_wp2_with fail
      exact ⟨⟨k + 1, c + 1, by go_num, by go_num, by omega, by omega, ⟨H2.out.1.symm, H2.out.2.1⟩, HB1⟩, by simp [intOf]; omega⟩
end Go.Proofs.Ythdngjpfmjnchaa
