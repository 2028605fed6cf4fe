/- The walk of Between of the reference. Conditions: the arguments are ints. -/
import Derived.Test.YtdkhpoepdimniaaNm
import Derived.WalkKit
import Derived.ProofKit
import Derived.Handy
import Derived.WalkLawsBesides
import Derived.WalkSpells
import Derived.BigQuiet
import Derived.Deep.QuietTactic
import Derived.Deep.Light
import Derived.Deep.OwnRows
import Derived.Laws.AppendOwnNone
import Derived.Deep.RegionWith
import Derived.Lib.BitFns
import Derived.Lib.Walk
import Derived.Deep.CutBlock
import Derived.Deep.DeepCutAuto
import Derived.Deep.LoopGhost
import Derived.Deep.RegionHeld3
import Derived.Lib.SmallJoins
namespace Go.Proofs.Ytdkhpoepdimniaa
open Go.RowKit
set_option linter.unusedVariables false
set_option linter.unusedSimpArgs false
theorem btw_err {l : Pairs} {a f t : Int} {z : Int} {w w' : World} (hz : z ≠ 0) (h : runE l a f t = z) (hb : Below w.heap.size w w') : BtwPost l a f t w (.returned (.tuple #[.int .i64 0, .int .i64 z])) w' := by
  refine ⟨ret_two ?_ h.symm, hb⟩
  rw [runT_err (by rw [h]; exact hz)]
  rfl

set_option maxHeartbeats 8000000 in
set_option maxRecDepth 100000 in
theorem rbetween (l : Pairs) (v : Value) (a f t : Int) (w : World) (hl : PInts l) (hv : PSeg w v l) (ha : I64 a) (hf : I64 f) (ht : I64 t) :
    Calls Try.prog 21 #[.int .i64 a, v, .int .i64 f, .int .i64 t] w (BtwPost l a f t w) := by
  have HL : Hid (PInts l) := hl
  have HV : Hid (PSeg w v l) := hv
  have hv0 := hv
  obtain ⟨ad, cap, rfl, -⟩ := hv
  have hlen := hl.2
  clear hl
  by_cases hc : chk l = 0
  case neg =>
    have HE : Hid _ := runE_chk (a := a) (f := f) (t := t) hc
    have HC : Hid _ := hc
    clear hc hv0
    go_enter Try.func21, Try.ntmps21
    go_wp2_with fail
    refine (rcheck l _ _ HL.out HV.out).mono ?_
    rintro e w1 ⟨rfl, hb1⟩
    have hcb : (chk l != 0) = true := bne_iff_ne.2 HC.out
    have W1 : Hid (Below w.heap.size w w1) := hb1
    clear hb1
    generalize hcc : chk l = c at *
    have Hcc : Hid _ := hcc
    clear hcc
    go_wp2_with fail
    refine (rcheck l _ _ HL.out (HV.out.below W1.out)).mono ?_
    rintro e w2 ⟨rfl, hb2⟩
    rw [Hcc.out]
    go_wp2
    go_ret2
    exact btw_err HC.out HE.out (W1.out.trans (hb2.mono W1.out.size))
  have HG : Hid _ := chk_good l hc
  have HCk : Hid _ := hc
  have hD : Hid _ := runE_day (a := a) (f := f) (t := t) hc
  have hA : Hid _ := runE_amt (a := a) (f := f) (t := t) hc
  have hO : Hid _ := runE_ok (a := a) (f := f) (t := t) hc
  clear hc
  have hpos := HG.out.pos
  obtain ⟨ad', cap', he, h1⟩ := hv0
  obtain ⟨b, off, rfl, hbw, hcell⟩ := h1 (fun e => by rw [e] at hpos; exact absurd hpos (by decide))
  simp only [Value.slice.injEq, true_and] at he
  obtain ⟨rfl, rfl⟩ := he
  have hfst : w.cell? ⟨b, off, none⟩ = some (.int .i64 (l.at 0).1) := by simpa using (hcell 0 hpos).1
  have HCell : Hid _ := hcell
  have bx := HG.out.day 0 HG.out.pos
  clear hcell h1
  have HX0 : Hid (∃ x, x = (l.at 0).1) := ⟨_, rfl⟩
  obtain ⟨x, hx⟩ := HX0.out
  rw [← hx] at hD hA hO hfst bx
  have Hx : Hid _ := hx
  clear hx HX0
  go_enter Try.func21, Try.ntmps21
  go_wp2_with fail
  refine (rcheck l _ _ HL.out HV.out).mono ?_
  rintro e w1 ⟨rfl, hb1⟩
  rw [HCk.out]
  have W1 : Hid (Below w.heap.size w w1) := hb1
  have g0 := (hb1.cell (p := ⟨b, off, none⟩) hbw).trans hfst
  clear hb1 hfst
  go_wp2_with fail
  refine (rgd f _).mono ?_
  rintro e w2 ⟨rfl, rfl⟩
  cases h1 : dyB f
  · have H : Hid _ := hD.out (Or.inl (dyB_f h1))
    clear h1
    go_wp2
    go_ret2
    exact btw_err (by omega) H.out W1.out
  have A1 := dyB_t h1
  clear h1
  go_wp2_with fail
  refine (rgd t _).mono ?_
  rintro e w2 ⟨rfl, rfl⟩
  cases h1 : dyB t
  · have H : Hid _ := hD.out (Or.inr (Or.inl (dyB_f h1)))
    clear h1
    go_wp2
    go_ret2
    exact btw_err (by omega) H.out W1.out
  have A2 := dyB_t h1
  clear h1
  by_cases h2 : t < f
  · have H : Hid _ := hD.out (Or.inr (Or.inr (Or.inl (by omega))))
    go_wp2
    go_ret2
    exact btw_err (by omega) H.out W1.out
  by_cases h3 : 3660 < t - f
  · have H : Hid _ := hD.out (Or.inr (Or.inr (Or.inl (by omega))))
    go_wp2
    go_ret2
    exact btw_err (by omega) H.out W1.out
  by_cases h4 : f < x
  · have H : Hid _ := hD.out (Or.inr (Or.inr (Or.inr h4)))
    go_wp2
    go_ret2
    exact btw_err (by omega) H.out W1.out
  have A3 : Hid (Spn (t - f)) := ⟨by omega, by omega⟩
  have HN : Hid (¬ (¬ (0 ≤ f ∧ f ≤ 200000) ∨ ¬ (0 ≤ t ∧ t ≤ 200000) ∨ ¬ Spn (t - f) ∨ f < x)) := fun h => by
    rcases h with h | h | h | h
    · exact h A1
    · exact h A2
    · exact h A3.out
    · exact h4 h
  go_wp2_with fail
  refine (rga a _).mono ?_
  rintro e w2 ⟨rfl, rfl⟩
  cases h1 : amtB a
  · have H : Hid _ := hA.out HN.out (amtB_f h1)
    clear h1
    go_wp2
    go_ret2
    exact btw_err (by omega) H.out W1.out
  have HM : Hid _ := amtB_t h1
  have HZ : Hid _ := hO.out HN.out HM.out
  have HX : Hid ((l.at 0).1 ≤ f) := by rw [← Hx.out]; show x ≤ f; omega
  clear h1 hD hA hO HN g0
  go_wp2_with fail
  go_loop [10, 11] (fun s i => ∃ (k : Nat) (sv : Int), i = .int .i64 k ∧ s = .int .i64 sv ∧ k ≤ l.length ∧ (-3660000000 ≤ sv ∧ sv ≤ 3660000000) ∧ Hid (sv = aheadR l f t k)) (fun _ i => l.length - (intOf i).toNat)
  case atStart => exact ⟨0, 0, rfl, rfl, by omega, by omega, (ahead_first l HG.out f t A3.out HX.out).symm⟩
  case round =>
    obtain ⟨k, sv, rfl, rfl, hk, hsv, hs⟩ := hrel
    by_cases hlt : k < l.length
    · have c0 := (W1.out.cell (p := ⟨b, off + k * 2, none⟩) hbw).trans (HCell.out k hlt).1
      have c1 := (W1.out.cell (p := ⟨b, off + k * 2 + 1, none⟩) hbw).trans (HCell.out k hlt).2
      have dk := HG.out.day k hlt
      have rk := HG.out.rate k hlt
      have bn := ahead_bound l HG.out f t A3.out (k + 1)
      have hnx := ahead_next l HG.out f t A3.out HX.out k hlt
      generalize (l.at k).1 = d at *
      generalize (l.at k).2 = r at *
      by_cases hn : k + 1 < l.length
      · have c2 := (W1.out.cell (p := ⟨b, off + (k + 1) * 2, none⟩) hbw).trans (HCell.out (k + 1) hn).1
        have dn := HG.out.day (k + 1) hn
        generalize (l.at (k + 1)).1 = d' at *
        by_cases hdt : d' < t
        · replace hnx := hnx d' (by rw [if_pos ⟨hn, hdt⟩])
          by_cases hdf : d < f
          · replace hnx := hnx f (by rw [if_pos hdf])
            · have HQ : Hid _ := hnx
              clear hnx
              by_cases hab : f < d'
              · have hq := HQ.out
                rw [if_pos hab, ← hs.out] at hq
                have pb := prod_le (d' - f) r 3660 1000000 ⟨by omega, by omega⟩ rk (by omega)
                rw [Int.mul_comm (d' - f) r] at pb
                have HW : Hid (wrap64 (sv + wrap64 (r * (d' - f))) = aheadR l f t (k + 1)) := by
                  show _ = _
                  rw [hq]
                  generalize r * (d' - f) = y at *
                  unfold wrap64
                  omega
                clear pb hq HQ
                go_wp2
                exact ⟨⟨k + 1, _, by go_num, congrArg (Value.int .i64) HW.out, by omega, bn, rfl⟩, by simp [intOf]; omega⟩
              · have hq := HQ.out
                rw [if_neg hab, ← hs.out, Int.add_zero] at hq
                have Hq : Hid _ := hq
                clear hq HQ
                go_wp2
                exact ⟨⟨k + 1, sv, by go_num, rfl, by omega, hsv, Hq.out.symm⟩, by simp [intOf]; omega⟩
          · replace hnx := hnx d (by rw [if_neg hdf])
            · have HQ : Hid _ := hnx
              clear hnx
              by_cases hab : d < d'
              · have hq := HQ.out
                rw [if_pos hab, ← hs.out] at hq
                have pb := prod_le (d' - d) r 3660 1000000 ⟨by omega, by omega⟩ rk (by omega)
                rw [Int.mul_comm (d' - d) r] at pb
                have HW : Hid (wrap64 (sv + wrap64 (r * (d' - d))) = aheadR l f t (k + 1)) := by
                  show _ = _
                  rw [hq]
                  generalize r * (d' - d) = y at *
                  unfold wrap64
                  omega
                clear pb hq HQ
                go_wp2
                exact ⟨⟨k + 1, _, by go_num, congrArg (Value.int .i64) HW.out, by omega, bn, rfl⟩, by simp [intOf]; omega⟩
              · have hq := HQ.out
                rw [if_neg hab, ← hs.out, Int.add_zero] at hq
                have Hq : Hid _ := hq
                clear hq HQ
                go_wp2
                exact ⟨⟨k + 1, sv, by go_num, rfl, by omega, hsv, Hq.out.symm⟩, by simp [intOf]; omega⟩
        · replace hnx := hnx t (by rw [if_neg (fun h => hdt h.2)])
          by_cases hdf : d < f
          · replace hnx := hnx f (by rw [if_pos hdf])
            · have HQ : Hid _ := hnx
              clear hnx
              by_cases hab : f < t
              · have hq := HQ.out
                rw [if_pos hab, ← hs.out] at hq
                have pb := prod_le (t - f) r 3660 1000000 ⟨by omega, by omega⟩ rk (by omega)
                rw [Int.mul_comm (t - f) r] at pb
                have HW : Hid (wrap64 (sv + wrap64 (r * (t - f))) = aheadR l f t (k + 1)) := by
                  show _ = _
                  rw [hq]
                  generalize r * (t - f) = y at *
                  unfold wrap64
                  omega
                clear pb hq HQ
                go_wp2
                exact ⟨⟨k + 1, _, by go_num, congrArg (Value.int .i64) HW.out, by omega, bn, rfl⟩, by simp [intOf]; omega⟩
              · have hq := HQ.out
                rw [if_neg hab, ← hs.out, Int.add_zero] at hq
                have Hq : Hid _ := hq
                clear hq HQ
                go_wp2
                exact ⟨⟨k + 1, sv, by go_num, rfl, by omega, hsv, Hq.out.symm⟩, by simp [intOf]; omega⟩
          · replace hnx := hnx d (by rw [if_neg hdf])
            · have HQ : Hid _ := hnx
              clear hnx
              by_cases hab : d < t
              · have hq := HQ.out
                rw [if_pos hab, ← hs.out] at hq
                have pb := prod_le (t - d) r 3660 1000000 ⟨by omega, by omega⟩ rk (by omega)
                rw [Int.mul_comm (t - d) r] at pb
                have HW : Hid (wrap64 (sv + wrap64 (r * (t - d))) = aheadR l f t (k + 1)) := by
                  show _ = _
                  rw [hq]
                  generalize r * (t - d) = y at *
                  unfold wrap64
                  omega
                clear pb hq HQ
                go_wp2
                exact ⟨⟨k + 1, _, by go_num, congrArg (Value.int .i64) HW.out, by omega, bn, rfl⟩, by simp [intOf]; omega⟩
              · have hq := HQ.out
                rw [if_neg hab, ← hs.out, Int.add_zero] at hq
                have Hq : Hid _ := hq
                clear hq HQ
                go_wp2
                exact ⟨⟨k + 1, sv, by go_num, rfl, by omega, hsv, Hq.out.symm⟩, by simp [intOf]; omega⟩
      · replace hnx := hnx t (by rw [if_neg (fun h => hn h.1)])
        by_cases hdf : d < f
        · replace hnx := hnx f (by rw [if_pos hdf])
          · have HQ : Hid _ := hnx
            clear hnx
            by_cases hab : f < t
            · have hq := HQ.out
              rw [if_pos hab, ← hs.out] at hq
              have pb := prod_le (t - f) r 3660 1000000 ⟨by omega, by omega⟩ rk (by omega)
              rw [Int.mul_comm (t - f) r] at pb
              have HW : Hid (wrap64 (sv + wrap64 (r * (t - f))) = aheadR l f t (k + 1)) := by
                show _ = _
                rw [hq]
                generalize r * (t - f) = y at *
                unfold wrap64
                omega
              clear pb hq HQ
              go_wp2
              exact ⟨⟨k + 1, _, by go_num, congrArg (Value.int .i64) HW.out, by omega, bn, rfl⟩, by simp [intOf]; omega⟩
            · have hq := HQ.out
              rw [if_neg hab, ← hs.out, Int.add_zero] at hq
              have Hq : Hid _ := hq
              clear hq HQ
              go_wp2
              exact ⟨⟨k + 1, sv, by go_num, rfl, by omega, hsv, Hq.out.symm⟩, by simp [intOf]; omega⟩
        · replace hnx := hnx d (by rw [if_neg hdf])
          · have HQ : Hid _ := hnx
            clear hnx
            by_cases hab : d < t
            · have hq := HQ.out
              rw [if_pos hab, ← hs.out] at hq
              have pb := prod_le (t - d) r 3660 1000000 ⟨by omega, by omega⟩ rk (by omega)
              rw [Int.mul_comm (t - d) r] at pb
              have HW : Hid (wrap64 (sv + wrap64 (r * (t - d))) = aheadR l f t (k + 1)) := by
                show _ = _
                rw [hq]
                generalize r * (t - d) = y at *
                unfold wrap64
                omega
              clear pb hq HQ
              go_wp2
              exact ⟨⟨k + 1, _, by go_num, congrArg (Value.int .i64) HW.out, by omega, bn, rfl⟩, by simp [intOf]; omega⟩
            · have hq := HQ.out
              rw [if_neg hab, ← hs.out, Int.add_zero] at hq
              have Hq : Hid _ := hq
              clear hq HQ
              go_wp2
              exact ⟨⟨k + 1, sv, by go_num, rfl, by omega, hsv, Hq.out.symm⟩, by simp [intOf]; omega⟩
    · obtain rfl : k = l.length := by omega
      have HS : Hid (runT l a f t = a * sv) := by
        show _ = _
        rw [runT_ok HZ.out, hs.out, ahead_last l f t A3.out]
      go_wp2_with fail
      refine (rmd a sv _ rfl ha ⟨by omega, by omega⟩ (sim_fits HM.out hsv) _).mono ?_
      rintro e w3 ⟨rfl, hb3⟩
      have HB : Hid (BtwPost l a f t w (.returned (.tuple #[.int .i64 (a * sv / 360000000), .int .i64 0])) w3) := ⟨ret_two (by rw [HS.out]) HZ.out.symm, W1.out.trans (hb3.mono W1.out.size)⟩
      generalize a * sv / 360000000 = y at *
      go_wp2
      go_ret2
      exact HB.out
end Go.Proofs.Ytdkhpoepdimniaa
