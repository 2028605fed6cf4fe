/- CalendarWorks: for every input the law returns true. No condition. Here: the walk of the law itself, out of the walks of what it calls. -/
import Derived.Test.YthdngjpfmjnchaaM
import Derived.WalkKit
import Derived.ProofKit
import Derived.Handy
import Derived.WalkLawsBesides
import Derived.WalkSpells
import Derived.BigQuiet
import Derived.Deep.QuietTactic
import Derived.Deep.Light
import Derived.Deep.OwnRows
import Derived.Laws.AppendOwnNone
import Derived.Deep.RegionWith
import Derived.Lib.BitFns
import Derived.Lib.Walk
import Derived.Deep.CutBlock
import Derived.Deep.DeepCutAuto
import Derived.Deep.LoopGhost
import Derived.Deep.RegionHeld3
import Derived.Lib.SlicesCompact
import Derived.Laws.CopyOwn
import Derived.Sort.OwnSortedInts
namespace Go.Proofs.Ythdngjpfmjnchaa
open Go.RowKit
set_option linter.unusedVariables false
set_option linter.unusedSimpArgs false
theorem Cal.drew {w : World} {p : Nat} {ys : List Int} (h : Cal w p ys) : Cal w.drew p ys := h.drewN 1
theorem Seg.drew {w : World} {v : Value} {xs : List Int} (h : Seg w v xs) : Seg w.drew v xs := h
theorem Seg.drewN {w : World} {v : Value} {xs : List Int} (h : Seg w v xs) (n : Nat) : Seg (w.drewN n) v xs := h
theorem below_drew {B : Nat} {a w : World} (h : Below B a w) : Below B a w.drew := ⟨h.os, h.tape, h.output, h.size, h.block⟩

theorem new_check {xs : List Int} {w' : World} {v : Value} {f : Int} (h : (256 < xs.length ∧ v = .pointer none ∧ f = 2) ∨ (xs.length ≤ 256 ∧ (¬ ∀ x ∈ xs, GoodD x) ∧ v = .pointer none ∧ f = 10) ∨
      (xs.length ≤ 256 ∧ (∀ x ∈ xs, GoodD x) ∧ f = 0 ∧ ∃ p, v = .pointer (some ⟨p, 0, none⟩) ∧ Cal w' p (srt xs))) : chkE xs = f ∧ ((f ≠ 0 ∧ v = .pointer none) ∨ (f = 0 ∧ xs.length ≤ 256 ∧ ∃ p, v = .pointer (some ⟨p, 0, none⟩) ∧ Cal w' p (srt xs))) := by
  rcases h with ⟨h1, h2, rfl⟩ | ⟨h1, h2, h3, rfl⟩ | ⟨h1, h2, rfl, h4⟩
  · exact ⟨if_pos h1, .inl ⟨by decide, h2⟩⟩
  · exact ⟨by rw [chkE, if_neg (by omega), if_neg h2], .inl ⟨by decide, h3⟩⟩
  · exact ⟨by rw [chkE, if_neg (by omega), if_pos h2], .inr ⟨rfl, h1, h4⟩⟩

set_option maxHeartbeats 4000000 in
set_option maxRecDepth 100000 in
theorem works_walk (xs : List Int) (v : Value) (day a b : Int) (w : World) (hday : -9223372036854775808 ≤ day ∧ day ≤ 9223372036854775807) (ha : -9223372036854775808 ≤ a ∧ a ≤ 9223372036854775807) (hb : -9223372036854775808 ≤ b ∧ b ≤ 9223372036854775807) (hx : Ints xs) (hv : Seg w v xs) :
    Calls Try.prog 5 #[v, .int .i64 day, .int .i64 a, .int .i64 b] w (TruePost w) := by
  have HX : Hid (Ints xs) := hx
  have HV : Hid (Seg w v xs) := hv
  obtain ⟨ad, cap, rfl, -⟩ := hv
  have hlen : (xs.length : Int) ≤ 9223372036854775807 := by have := hx.2; omega
  clear hx
  go_enter Try.func5, Try.ntmps5
  go_wp2_with fail
  refine (xnew xs _ _ HX.out HV.out).mono ?_
  rintro e w1 ⟨pv, f, rfl, hb1, hcase⟩
  have W1 : Hid (Below w.heap.size w w1) := hb1
  have HV1 : Hid (Seg w1 (.slice ad xs.length cap) xs) := HV.out.below hb1
  obtain ⟨hE, hcs⟩ := new_check hcase.out
  have HCS : Hid ((f ≠ 0 ∧ pv = .pointer none) ∨ (f = 0 ∧ xs.length ≤ 256 ∧ ∃ p, pv = .pointer (some ⟨p, 0, none⟩) ∧ Cal w1 p (srt xs))) := hcs
  clear hb1 hcase hcs
  go_wp2_with fail
  refine (rcheck xs _ _ HX.out HV1.out).mono ?_
  rintro e w2 ⟨rfl, rfl⟩
  rw [hE]
  clear hE
  rcases HCS.out with ⟨hf, rfl⟩ | ⟨rfl, hl256, p, rfl, hcal⟩
  · have hfb : (f != 0) = true := by simp [hf]
    have hfc : (f == 0) = false := by simp [hf]
    clear hf HCS
    go_wp2_with fail
    refine (awake_true _).mono ?_
    rintro e w2 h2
    have H2 : Hid (TruePost w e w2) := h2.of W1.out
    obtain ⟨rfl, -⟩ := h2
    go_wp2_with fail
    go_ret
    exact H2.out
  have HC1 : Hid (Cal w1 p (srt xs)) := hcal
  have HS : Hid (∀ x, x ∈ srt xs ↔ x ∈ xs) := (srt_facts xs).1
  have HB : Hid (BoxV w1 (.slice ad xs.length cap) (w1.alloc (.cells #[.slice ad xs.length cap] 45))) := BoxV.new w1 _
  have HWK : Hid (wkB xs day = wkB (srt xs) day) := (wk_same HS.out day).symm
  have HCT : Hid (cntB xs a b = cntB (srt xs) a b) := (cnt_same HS.out a _).symm
  generalize srt xs = ys at HC1 HWK HCT
  clear hcal HCS HV HS
  have HC2 : Hid (Cal (w1.alloc (.cells #[.slice ad xs.length cap] 45)) p ys) := HC1.out.below HB.out.bel
  have HV2 : Hid (Seg (w1.alloc (.cells #[.slice ad xs.length cap] 45)) (.slice ad xs.length cap) xs) := HV1.out.below HB.out.bel
  have HX1 : ∀ w : World, Hid (Cal w p ys → Calls Try.prog 21 #[.pointer (some ⟨p, 0, none⟩), .int .i64 day] w (WorkPost ys day w)) := fun w h => xworks p ys day w hday h
  have HX2 : ∀ w : World, Hid (Seg w (.slice ad xs.length cap) xs → Calls Try.prog 22 #[.agg #[.slice ad xs.length cap], .int .i64 day] w (NewPost (.bool (wkB ys day)) w)) := fun w h => by rw [← HWK.out]; exact rworks xs _ day w hday hl256 h
  go_wp2_with fail
  have c0 := HB.out.c0
  go_region_held3 (fun w' => w'.cell? ⟨w1.heap.size, 0, none⟩ = some (.slice ad xs.length cap))
    (first
      | go_keep
      | (exact cell_kept hb4 (by assumption))
      | (trace_state; fail))
    (first
      | (go_at_call 21; refine ((HX1 _).out ?_).mono ?_; (exact HC2.out.drew); rintro e w3 ⟨rfl, q3, rfl⟩)
      | (go_at_call 22; refine ((HX2 _).out ?_).mono ?_; (exact HV2.out.drewN _); rintro e w4 ⟨rfl, hb4⟩))
  have HB4 : Hid (BoxV w1 (.slice ad xs.length cap) w4) := HB.out.below ⟨hb4.os, hb4.tape, hb4.output, hb4.size, hb4.block⟩
  clear hb4 HC2 HV2 HX1 HX2 c0
  by_cases h20 : (20 : Int) < xs.length
  · have e1 : decide ((20 : Int) < xs.length) = true := decide_eq_true h20
    clear h20
    go_wp2_with fail
    refine (awake_true _).mono ?_
    rintro e w2 h2
    have H2 : Hid (TruePost w e w2) := (h2.of HB4.out.bel).of W1.out
    obtain ⟨rfl, -⟩ := h2
    go_wp2_with fail
    go_ret
    exact H2.out
  have e1 : decide ((20 : Int) < xs.length) = false := decide_eq_false h20
  clear h20
  by_cases h30 : 3000 < b
  · have e2 : decide (3000 < b) = true := decide_eq_true h30
    clear h30
    go_wp2_with fail
    refine (awake_true _).mono ?_
    rintro e w2 h2
    have H2 : Hid (TruePost w e w2) := (h2.of HB4.out.bel).of W1.out
    obtain ⟨rfl, -⟩ := h2
    go_wp2_with fail
    go_ret
    exact H2.out
  have e2 : decide (3000 < b) = false := decide_eq_false h30
  clear h30
  have HC4 : Hid (Cal w4 p ys) := HC1.out.below HB4.out.bel
  have HV4 : Hid (Seg w4 (.slice ad xs.length cap) xs) := HV1.out.below HB4.out.bel
  have HX1 : ∀ w : World, Hid (Cal w p ys → Calls Try.prog 23 #[.pointer (some ⟨p, 0, none⟩), .int .i64 a, .int .i64 b] w (RetPost (.int .i64 (cntB ys a b)) w)) := fun w h => xcount p ys a b w ha hb h
  have HX2 : ∀ w : World, Hid (Seg w (.slice ad xs.length cap) xs → Calls Try.prog 24 #[.agg #[.slice ad xs.length cap], .int .i64 a, .int .i64 b] w (NewPost (.int .i64 (cntB ys a b)) w)) := fun w h => by rw [← HCT.out]; exact rcount xs _ a b w ha hb hl256 h
  generalize cntB ys a b = n at HX1 HX2
  go_wp2_with fail
  have c0 := HB4.out.c0
  go_region_held3 (fun w' => w'.cell? ⟨w1.heap.size, 0, none⟩ = some (.slice ad xs.length cap))
    (first
      | go_keep
      | (exact cell_kept hb6 (by assumption))
      | (exact cell_kept hb7 (by assumption)))
    (first
      | (go_at_call 23; refine ((HX1 _).out ?_).mono ?_; (exact HC4.out.drew); rintro e w5 ⟨rfl, rfl⟩)
      | (go_at_call 24; refine ((HX2 _).out ?_).mono ?_; (exact HV4.out.drew); rintro e w6 ⟨rfl, hb6⟩)
      | (go_at_call 18; refine (awake_true _).mono ?_; rintro e w7 ⟨rfl, hb7⟩))
  have h6 := HB4.out.bel.trans ((below_undrew hb6).mono HB4.out.bel.size)
  have h7 := h6.trans (hb7.mono h6.size)
  have HT : Hid (Below w.heap.size w w7) := W1.out.trans (h7.mono W1.out.size)
  clear hb6 hb7 h6 h7 c0
  go_wp2_with fail
  go_ret
  exact ⟨rfl, HT.out⟩
end Go.Proofs.Ythdngjpfmjnchaa
