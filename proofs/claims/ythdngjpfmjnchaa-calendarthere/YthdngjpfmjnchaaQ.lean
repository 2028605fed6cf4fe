/- CalendarThere: for every input the law returns true. No condition. Here: the walk of the law itself, out of the walks of what it calls. -/
import Derived.Test.YthdngjpfmjnchaaO
import Derived.WalkKit
import Derived.ProofKit
import Derived.Handy
import Derived.WalkLawsBesides
import Derived.WalkSpells
import Derived.BigQuiet
import Derived.Deep.QuietTactic
import Derived.Deep.Light
import Derived.Deep.OwnRows
import Derived.Laws.AppendOwnNone
import Derived.Deep.RegionWith
import Derived.Lib.BitFns
import Derived.Lib.Walk
import Derived.Deep.CutBlock
import Derived.Deep.DeepCutAuto
import Derived.Deep.LoopGhost
import Derived.Deep.RegionHeld3
import Derived.Lib.SlicesCompact
import Derived.Laws.CopyOwn
import Derived.Sort.OwnSortedInts
namespace Go.Proofs.Ythdngjpfmjnchaa
open Go.RowKit
set_option linter.unusedVariables false
set_option linter.unusedSimpArgs false
theorem Mov.there {ys : List Int} {d n v f : Int} (h : Mov ys d n v f) (hd : wkB ys d = true) (hn : 0 ≤ n ∧ n ≤ 60) : (f = 6 ∧ v = 0) ∨ (f = 0 ∧ Mv ys 1 n.toNat d (some v)) := by
  obtain ⟨a, g, h1, h2⟩ := h
  rw [if_neg (by omega)] at h1
  obtain ⟨rfl, rfl⟩ := h1.det (Near.here hd)
  rcases h2 with ⟨c, -⟩ | ⟨-, c, -⟩ | ⟨-, -, r, hr, rfl, rfl⟩
  · exact absurd rfl c
  · omega
  · rw [if_neg (by omega), show n.natAbs = n.toNat by omega] at hr
    cases r with
    | none => exact .inl ⟨rfl, rfl⟩
    | some x => exact .inr ⟨rfl, hr⟩
theorem Mov.back {ys : List Int} {d n t : Int} (h : Mv ys 1 n.toNat d (some t)) (hd : wkB ys d = true) (hn : 0 ≤ n ∧ n ≤ 60) : Mov ys t (-n) d 0 := by
  have ht := h.wk hd t rfl
  by_cases h0 : n = 0
  · subst h0
    obtain rfl : t = d := Option.some.inj (show some t = some d from h)
    exact ⟨_, 0, Near.here hd, .inr (.inr ⟨rfl, by omega, some _, .zero, rfl, rfl⟩)⟩
  · refine ⟨t, 0, Near.here ht, .inr (.inr ⟨rfl, by omega, some d, ?_, rfl, rfl⟩)⟩
    rw [if_pos (by omega), show (-n).natAbs = n.toNat by omega]
    exact h.rev hd t rfl

set_option maxHeartbeats 4000000 in
set_option maxRecDepth 100000 in
theorem there_walk (xs : List Int) (v : Value) (day n : Int) (w : World) (hday : -9223372036854775808 ≤ day ∧ day ≤ 9223372036854775807) (hn : -9223372036854775808 ≤ n ∧ n ≤ 9223372036854775807) (hx : Ints xs) (hv : Seg w v xs) :
    Calls Try.prog 8 #[v, .int .i64 day, .int .i64 n] w (TruePost w) := by
  have HX : Hid (Ints xs) := hx
  have HV : Hid (Seg w v xs) := hv
  obtain ⟨ad, cap, rfl, -⟩ := hv
  clear hx
  go_enter Try.func8, Try.ntmps8
  go_wp2_with fail
  refine (xnew xs _ _ HX.out HV.out).mono ?_
  rintro e w1 ⟨pv, f, rfl, hb1, hcase⟩
  have W1 : Hid (Below w.heap.size w w1) := hb1
  obtain ⟨-, hcs⟩ := new_check hcase.out
  have HCS : Hid ((f ≠ 0 ∧ pv = .pointer none) ∨ (f = 0 ∧ xs.length ≤ 256 ∧ ∃ p, pv = .pointer (some ⟨p, 0, none⟩) ∧ Cal w1 p (srt xs))) := hcs
  clear hb1 hcase hcs
  rcases HCS.out with ⟨hf, rfl⟩ | ⟨rfl, hl256, p, rfl, hcal⟩
  · have hfb : (f != 0) = true := by simp [hf]
    clear hf HCS
    go_wp2_with fail
    refine (awake_true _).mono ?_
    rintro e w2 h2
    have H2 : Hid (TruePost w e w2) := h2.of W1.out
    obtain ⟨rfl, -⟩ := h2
    go_wp2_with fail
    go_ret
    exact H2.out
  have HC1 : Hid (Cal w1 p (srt xs)) := hcal
  generalize srt xs = ys at HC1
  clear hcal HCS HV HX hl256
  by_cases hn0 : n < 0
  · have e1 : decide (n < 0) = true := decide_eq_true hn0
    clear hn0
    go_wp2_with fail
    refine (awake_true _).mono ?_
    rintro e w2 h2
    have H2 : Hid (TruePost w e w2) := h2.of W1.out
    obtain ⟨rfl, -⟩ := h2
    go_wp2_with fail
    go_ret
    exact H2.out
  have e1 : decide (n < 0) = false := decide_eq_false hn0
  by_cases hn1 : 60 < n
  · have e2 : decide (60 < n) = true := decide_eq_true hn1
    clear hn1 hn0
    go_wp2_with fail
    refine (awake_true _).mono ?_
    rintro e w2 h2
    have H2 : Hid (TruePost w e w2) := h2.of W1.out
    obtain ⟨rfl, -⟩ := h2
    go_wp2_with fail
    go_ret
    exact H2.out
  have e2 : decide (60 < n) = false := decide_eq_false hn1
  have hns : 0 ≤ n ∧ n ≤ 60 := by omega
  clear hn0 hn1
  go_wp2_with fail
  refine (xroll p ys day _ hday HC1.out).mono ?_
  rintro e w2 ⟨x, f, rfl, hb2, hrol⟩
  have W2 : Hid (Below w.heap.size w w2) := W1.out.trans (hb2.mono W1.out.size)
  have HC2 : Hid (Cal w2 p ys) := HC1.out.below hb2
  clear hb2 W1 HC1
  by_cases hf : f = 0
  · subst hf
    have HWX : Hid (wkB ys x = true) := hrol.out.wk
    have hxr := wk_good HWX.out
    have hxr2 : 0 ≤ x ∧ x ≤ 200000 := hxr
    clear hxr
    go_wp2_with fail
    refine (xworks p ys x _ (by omega) HC2.out).mono ?_
    rintro e w3 ⟨rfl, q, hq⟩
    rw [HWX.out]
    have HCx : Hid (Cal w3 p ys) := by rw [hq]; exact HC2.out.drewN q
    have HWx : Hid (Below w.heap.size w w3) := by rw [hq]; exact below_drewN W2.out
    clear HC2 W2 HWX hrol hq
    go_wp2_with fail
    refine (xworks p ys day _ hday HCx.out).mono ?_
    rintro e w4 ⟨rfl, q4, hq⟩
    have HC4 : Hid (Cal w4 p ys) := by rw [hq]; exact HCx.out.drewN q4
    have HW4 : Hid (Below w.heap.size w w4) := by rw [hq]; exact below_drewN HWx.out
    clear hq HCx HWx
    cases hw : wkB ys day
    · clear hw
      go_wp2_with fail
      refine (awake_true _).mono ?_
      rintro e w5 h5
      have H5 : Hid (TruePost w e w5) := h5.of HW4.out
      obtain ⟨rfl, -⟩ := h5
      go_wp2_with fail
      go_ret
      exact H5.out
    have HWD : Hid (wkB ys day = true) := hw
    clear hw
    go_wp2_with fail
    refine (xmove p ys day n _ hday hn HC4.out).mono ?_
    rintro e w5 ⟨t, g, q5, rfl, hq, hmv⟩
    have HC5 : Hid (Cal w5 p ys) := by rw [hq]; exact HC4.out.drewN q5
    have HW5 : Hid (Below w.heap.size w w5) := by rw [hq]; exact below_drewN HW4.out
    clear hq HC4 HW4
    rcases hmv.out.there HWD.out hns with ⟨rfl, rfl⟩ | ⟨rfl, hst⟩
    · clear hmv
      go_wp2_with fail
      refine (awake_true _).mono ?_
      rintro e w6 h6
      have H6 : Hid (TruePost w e w6) := h6.of HW5.out
      obtain ⟨rfl, -⟩ := h6
      go_wp2_with fail
      go_ret
      exact H6.out
    have HST : Hid (Mv ys 1 n.toNat day (some t)) := hst
    have HWT : Hid (wkB ys t = true) := hst.wk HWD.out t rfl
    have ht : 0 ≤ t ∧ t ≤ 200000 := wk_good HWT.out
    have HCN : Hid (cntB ys day t = n) := by have h := hst.between HWD.out; show _ = _; rw [h]; omega
    clear hst hmv
    go_wp2_with fail
    refine (xmove p ys t (-n) _ (by omega) (by omega) HC5.out).mono ?_
    rintro e w6 ⟨t2, g2, q6, rfl, hq, hmv2⟩
    obtain ⟨rfl, rfl⟩ := hmv2.out.det (Mov.back HST.out HWD.out hns)
    have HC6 : Hid (Cal w6 p ys) := by rw [hq]; exact HC5.out.drewN q6
    have HW6 : Hid (Below w.heap.size w w6) := by rw [hq]; exact below_drewN HW5.out
    clear hq HC5 HW5
    clear hmv2
    go_wp2_with fail
    refine (xcount p ys _ t _ hday (by omega) HC6.out).mono ?_
    rintro e w7 ⟨rfl, rfl⟩
    rw [HCN.out]
    go_wp2_with fail
    refine (xworks p ys t _ (by omega) HC6.out).mono ?_
    rintro e w8 ⟨rfl, q8, hq⟩
    rw [HWT.out]
    have HW8 : Hid (Below w.heap.size w w8) := by rw [hq]; exact below_drewN HW6.out
    clear hq
    go_wp2_with fail
    refine (awake_true _).mono ?_
    rintro e w9 h9
    have H9 : Hid (TruePost w e w9) := h9.of HW8.out
    obtain ⟨rfl, -⟩ := h9
    go_wp2_with fail
    go_ret
    exact H9.out
  · have hfb : (f == 0) = false := by simp [hf]
    clear hf hrol
    have HCx := HC2
    have HWx := W2
    clear HC2 W2
    go_wp2_with fail
    refine (xworks p ys day _ hday HCx.out).mono ?_
    rintro e w4 ⟨rfl, q4, hq⟩
    have HC4 : Hid (Cal w4 p ys) := by rw [hq]; exact HCx.out.drewN q4
    have HW4 : Hid (Below w.heap.size w w4) := by rw [hq]; exact below_drewN HWx.out
    clear hq HCx HWx
    cases hw : wkB ys day
    · clear hw
      go_wp2_with fail
      refine (awake_true _).mono ?_
      rintro e w5 h5
      have H5 : Hid (TruePost w e w5) := h5.of HW4.out
      obtain ⟨rfl, -⟩ := h5
      go_wp2_with fail
      go_ret
      exact H5.out
    have HWD : Hid (wkB ys day = true) := hw
    clear hw
    go_wp2_with fail
    refine (xmove p ys day n _ hday hn HC4.out).mono ?_
    rintro e w5 ⟨t, g, q5, rfl, hq, hmv⟩
    have HC5 : Hid (Cal w5 p ys) := by rw [hq]; exact HC4.out.drewN q5
    have HW5 : Hid (Below w.heap.size w w5) := by rw [hq]; exact below_drewN HW4.out
    clear hq HC4 HW4
    rcases hmv.out.there HWD.out hns with ⟨rfl, rfl⟩ | ⟨rfl, hst⟩
    · clear hmv
      go_wp2_with fail
      refine (awake_true _).mono ?_
      rintro e w6 h6
      have H6 : Hid (TruePost w e w6) := h6.of HW5.out
      obtain ⟨rfl, -⟩ := h6
      go_wp2_with fail
      go_ret
      exact H6.out
    have HST : Hid (Mv ys 1 n.toNat day (some t)) := hst
    have HWT : Hid (wkB ys t = true) := hst.wk HWD.out t rfl
    have ht : 0 ≤ t ∧ t ≤ 200000 := wk_good HWT.out
    have HCN : Hid (cntB ys day t = n) := by have h := hst.between HWD.out; show _ = _; rw [h]; omega
    clear hst hmv
    go_wp2_with fail
    refine (xmove p ys t (-n) _ (by omega) (by omega) HC5.out).mono ?_
    rintro e w6 ⟨t2, g2, q6, rfl, hq, hmv2⟩
    obtain ⟨rfl, rfl⟩ := hmv2.out.det (Mov.back HST.out HWD.out hns)
    have HC6 : Hid (Cal w6 p ys) := by rw [hq]; exact HC5.out.drewN q6
    have HW6 : Hid (Below w.heap.size w w6) := by rw [hq]; exact below_drewN HW5.out
    clear hq HC5 HW5
    clear hmv2
    go_wp2_with fail
    refine (xcount p ys _ t _ hday (by omega) HC6.out).mono ?_
    rintro e w7 ⟨rfl, rfl⟩
    rw [HCN.out]
    go_wp2_with fail
    refine (xworks p ys t _ (by omega) HC6.out).mono ?_
    rintro e w8 ⟨rfl, q8, hq⟩
    rw [HWT.out]
    have HW8 : Hid (Below w.heap.size w w8) := by rw [hq]; exact below_drewN HW6.out
    clear hq
    go_wp2_with fail
    refine (awake_true _).mono ?_
    rintro e w9 h9
    have H9 : Hid (TruePost w e w9) := h9.of HW8.out
    obtain ⟨rfl, -⟩ := h9
    go_wp2_with fail
    go_ret
    exact H9.out
end Go.Proofs.Ythdngjpfmjnchaa
