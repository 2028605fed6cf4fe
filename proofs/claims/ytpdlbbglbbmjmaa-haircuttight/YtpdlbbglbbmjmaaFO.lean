/- The walks of the reference's Sub and Halves. Conditions: the lists hold digits, and are not long; for Sub, the second number isn't above the first. -/
import Derived.Test.YtpdlbbglbbmjmaaFN
import Derived.WalkKit
import Derived.ProofKit
import Derived.Handy
import Derived.WalkLawsBesides
import Derived.WalkSpells
import Derived.BigQuiet
import Derived.Deep.QuietTactic
import Derived.Deep.Light
import Derived.Deep.OwnRows
import Derived.Laws.AppendOwnNone
import Derived.Deep.RegionWith
import Derived.Lib.BitFns
import Derived.Lib.Walk
import Derived.Deep.CutBlock
import Derived.Deep.DeepCutAuto
import Derived.Deep.LoopGhost
import Derived.Deep.RegionHeld
namespace Go.Proofs.Ytpdlbbglbbmjmaa.N1
open Go.RowKit
set_option linter.unusedVariables false
set_option linter.unusedSimpArgs false

/-- what the loop of Sub keeps -/
def SubRel (xs ys : List Int) (i : Nat) (c : Int) (os : List Int) : Prop :=
  Dgs os ∧ os.length = i ∧ val os - c * pw i = val (xs.take i) - val (ys.take i)

theorem SubRel.step {xs ys : List Int} {i : Nat} {c : Int} {os : List Int} (h : SubRel xs ys i c os) (n : Int) (hn : n = xs.getD i 0 + 65536 - c - ys.getD i 0) : SubRel xs ys (i + 1) (1 - n / 65536) (os ++ [n % 65536]) := by
  obtain ⟨h1, h2, h3⟩ := h
  refine ⟨h1.append (Dgs.one (by omega)), by simp [h2], ?_⟩
  rw [val_append, h2, val_take_any, val_take_any, pw_succ]
  have e : n = n % 65536 + 65536 * (n / 65536) := by omega
  generalize xs.getD i 0 = x at *
  generalize ys.getD i 0 = y at *
  generalize n % 65536 = r at *
  generalize n / 65536 = q at *
  simp only [val]
  generalize pw i = p at *
  grind

theorem SubRel.done {xs ys : List Int} {c : Int} {os : List Int} (h : SubRel xs ys xs.length c os) (hc : 0 ≤ c) (hl : ys.length ≤ xs.length) (hv : val ys ≤ val xs) : val os = val xs - val ys := by
  obtain ⟨h1, h2, h3⟩ := h
  rw [List.take_length, List.take_of_length_le hl] at h3
  have h4 := val_lt os h1
  rw [h2] at h4
  by_cases h0 : c = 0
  · subst h0; omega
  · exfalso
    have : 1 * pw xs.length ≤ c * pw xs.length := Int.mul_le_mul_of_nonneg_right (by omega) (Int.le_of_lt (pw_pos _))
    omega

theorem rsub (xs ys : List Int) (u v : Value) (w : World) (hx : Norm xs) (hy : Norm ys) (hl : xs.length ≤ 1000) (hv0 : val ys ≤ val xs) (hu : Dig w u xs) (hv : Dig w v ys) :
    Calls Try.prog 87 #[u, v] w (TwoPost' (val xs - val ys) xs.length w) := by
  have hl' : ys.length ≤ xs.length := by
    rcases Nat.lt_or_ge xs.length ys.length with h | h
    · have := val_shorter xs ys hx hy h; omega
    · exact h
  obtain ⟨a, cap, rfl, -, -, h⟩ := hu
  obtain ⟨a', cap', rfl, -, -, h'⟩ := hv
  have HX : Hid (Dgs xs) := hx.1
  have HY : Hid (Dgs ys) := hy.1
  have HV : Hid _ := hv0
  have H : Hid _ := h
  have H' : Hid _ := h'
  clear h h' hx hy hv0
  go_enter Try.func87, Try.ntmps87
  go_wp2
  go_loopw [5, 6, 7] (fun l ci ki wr => ∃ (i : Nat) (c : Int) (os : List Int), i ≤ xs.length ∧ ki = .int .i64 i ∧ ci = .int .u64 c ∧ (0 ≤ c ∧ c ≤ 1) ∧ Hid (SubRel xs ys i c os) ∧ Hid (AppMem w os l wr))
    (fun _ _ ki _ => xs.length + 5 - (intOf ki).toNat)
  case atStart => exact ⟨0, 0, [], by omega, rfl, rfl, by omega, ⟨Dgs.nil, rfl, by simp [val]⟩, Own.nil _ _, Below.refl _ _⟩
  case round =>
    obtain ⟨i, c, os, hi, rfl, rfl, bc, hs, hm⟩ := hrel
    have hst := SubRel.step hs.out _ rfl
    have bx := HX.out.get i
    have byy := HY.out.get i
    have hosl : os.length = i := hs.out.2.1
    by_cases ex : i < xs.length
    · obtain ⟨g1, e1, hb1, hc1⟩ := H.out (by intro e; subst e; simp at ex)
      have hcx := (hm.out.2.cell (p := ⟨g1, i, none⟩) hb1).trans (hc1 i ex)
      have ex' : (i : Int) < xs.length := by omega
      by_cases ey : i < ys.length
      · obtain ⟨g2, e2, hb2, hc2⟩ := H'.out (by intro e; subst e; simp at ey)
        have hcy := (hm.out.2.cell (p := ⟨g2, i, none⟩) hb2).trans (hc2 i ey)
        have ey' : (i : Int) < ys.length := by omega
        generalize xs.getD i 0 = x at hcx bx hst
        generalize ys.getD i 0 = y at hcy byy hst
        have Hst : Hid _ := hst
        have Hosl : Hid _ := hosl
        clear hst hc1 hc2 hosl
        subst e1 e2
        go_wp2_with (first
          | (at_builtin; refine app_one _ rfl _ _ rfl w.heap.size wr.heap.size 1 _ os ((x + 65536 - c - y) % 65536) rfl rfl ?c1a ?c2a ?c3a ?c4a ?_))
        case c1a => exact Own.below hm.out.1 ((Below.refl _ _).alloc (Nat.le_refl _) _)
        try (case c2a => simp)
        case c3a => rw [Hosl.out]; omega
        case c4a => have := hm.out.2.size; simp; omega
        intro v' w1 ho hg
        have hm1 := AppMem.step hm.out ((Below.refl _ _).alloc (Nat.le_refl _) _) ho hg
        have Hm1 : Hid _ := hm1
        clear hm1 ho hg
        go_wp2
        exact ⟨⟨i + 1, _, _, by omega, by go_num, rfl, by omega, Hst.out, Hm1.out⟩, by simp [intOf]; omega⟩
      · have ey' : ¬ (i : Int) < ys.length := by omega
        rw [getD_out ys i ey, Int.sub_zero] at hst
        generalize xs.getD i 0 = x at hcx bx hst
        have Hst : Hid _ := hst
        have Hosl : Hid _ := hosl
        clear hst hc1 hosl byy
        subst e1
        go_wp2_with (first
          | (at_builtin; refine app_one _ rfl _ _ rfl w.heap.size wr.heap.size 1 _ os ((x + 65536 - c) % 65536) rfl rfl ?c1b ?c2b ?c3b ?c4b ?_))
        case c1b => exact Own.below hm.out.1 ((Below.refl _ _).alloc (Nat.le_refl _) _)
        try (case c2b => simp)
        case c3b => rw [Hosl.out]; omega
        case c4b => have := hm.out.2.size; simp; omega
        intro v' w1 ho hg
        have hm1 := AppMem.step hm.out ((Below.refl _ _).alloc (Nat.le_refl _) _) ho hg
        have Hm1 : Hid _ := hm1
        clear hm1 ho hg
        go_wp2
        exact ⟨⟨i + 1, _, _, by omega, by go_num, rfl, by omega, Hst.out, Hm1.out⟩, by simp [intOf]; omega⟩
    · have ex' : ¬ (i : Int) < xs.length := by omega
      clear hst bx byy
      obtain rfl : i = xs.length := by omega
      go_wp2_with fail
      refine (rtrim w.heap.size os _ _ hm.out.1 (by omega)).mono ?_
      rintro e w4 ⟨v4, rfl, ho4, rfl⟩
      have Ho4 : Hid _ := ho4
      clear ho4
      go_wp2
      go_ret
      refine ⟨v4, _, rfl, Ho4.out, ⟨trimL_norm _ hs.out.1, ?_, ?_⟩, hm.out.2⟩
      · rw [trimL_val]
        exact SubRel.done hs.out bc.1 hl' HV.out
      · have h8 := trimL_le os
        omega

/-- what Halves tells: both words, where there are no more than 8 digits -/
def HalvesPost (ds : List Int) (w : World) (e : Ending) (w' : World) : Prop :=
  ∃ hi lo, e = .returned (.tuple #[.int .u64 hi, .int .u64 lo, .bool (decide (ds.length ≤ 8))]) ∧ (0 ≤ hi ∧ hi < 18446744073709551616) ∧ (0 ≤ lo ∧ lo < 18446744073709551616) ∧ Hid (ds.length ≤ 8 → wd hi lo = val ds) ∧ Hid (¬ ds.length ≤ 8 → hi = 0 ∧ lo = 0) ∧ w = w'

theorem ret_three {a b c d : Int} {x y : Bool} (h1 : a = c) (h2 : b = d) (h : x = y) : Ending.returned (.tuple #[.int .u64 a, .int .u64 b, .bool x]) = .returned (.tuple #[.int .u64 c, .int .u64 d, .bool y]) := by rw [h1, h2, h]

theorem pw_four : pw 4 = 18446744073709551616 := by decide
theorem val_four (ds : List Int) (h : Dgs ds) (hl : ds.length ≤ 4) : 0 ≤ val ds ∧ val ds < 18446744073709551616 := by
  have h1 := val_lt ds h
  have h2 := pw_mono hl
  rw [pw_four] at h2
  exact ⟨val_nonneg ds h, by omega⟩
theorem drop_upper (ds : List Int) (m : Nat) (h4 : 4 ≤ m) (hm : m < ds.length) : val (ds.drop (max 4 m)) = val (ds.drop (max 4 (m + 1))) * 65536 + ds.getD m 0 := by
  rw [show max 4 m = m by omega, show max 4 (m + 1) = m + 1 by omega, val_get ds m hm]
  omega
theorem drop_lower (ds : List Int) (m : Nat) (h4 : m < 4) (hm : m < ds.length) : val ((ds.take 4).drop m) = val ((ds.take 4).drop (m + 1)) * 65536 + ds.getD m 0 := by
  rw [val_get (ds.take 4) m (by simp; omega)]
  rw [show (ds.take 4).getD m 0 = ds.getD m 0 by simp [List.getElem?_take, h4]]
  omega
theorem drop_out (ds : List Int) (m : Nat) (h4 : 4 ≤ m) : (ds.take 4).drop m = [] := List.drop_eq_nil_of_le (by simp; omega)

theorem rhalves_row (ds : List Int) (g cap : Nat) (w : World) (hd : Dgs ds) (hl : ds.length ≤ 8) (hc : ∀ j, j < ds.length → w.cell? ⟨g, j, none⟩ = some (.int .u64 (ds.getD j 0))) :
    Calls Try.prog 73 #[.slice (some ⟨g, 0, none⟩) ds.length cap] w (HalvesPost ds w) := by
  have Hc : Hid _ := hc
  have HD : Hid (Dgs ds) := hd
  clear hc hd
  go_enter Try.func73, Try.ntmps73
  go_wp2
  go_loop [5, 6, 7] (fun h l i => ∃ (k : Nat) (hi lo : Int), k ≤ ds.length ∧ i = .int .i64 ((k : Int) - 1) ∧ h = .int .u64 hi ∧ l = .int .u64 lo ∧ (0 ≤ hi ∧ hi < 18446744073709551616) ∧ (0 ≤ lo ∧ lo < 18446744073709551616) ∧ Hid (hi = val (ds.drop (max 4 k)) ∧ lo = val ((ds.take 4).drop k)))
    (fun _ _ i => (intOf i + 1).toNat)
  case atStart => exact ⟨ds.length, 0, 0, by omega, rfl, rfl, rfl, by omega, by omega, by rw [List.drop_eq_nil_of_le (by omega)]; rfl, by rw [List.drop_eq_nil_of_le (by simp; omega)]; rfl⟩
  case round =>
    obtain ⟨k, hi, lo, hk, rfl, rfl, rfl, bh, bl, hs⟩ := hrel
    by_cases h0 : k = 0
    · subst h0
      go_wp2
      go_ret3
      refine ⟨hi, lo, ret_three rfl rfl (decide_eq_true hl).symm, bh, bl, fun _ => ?_, fun h => absurd hl h, rfl⟩
      have h1 := hs.out
      rw [h1.1, h1.2]
      have h2 := val_append (ds.take 4) (ds.drop 4)
      rw [List.take_append_drop] at h2
      simp only [wd, Nat.max_zero, List.drop_zero]
      by_cases h4 : 4 ≤ ds.length
      · rw [show (ds.take 4).length = 4 by simp; omega, pw_four] at h2
        omega
      · rw [List.drop_eq_nil_of_le (show ds.length ≤ 4 by omega)] at h2 ⊢
        simp only [val] at h2 ⊢
        omega
    · obtain ⟨m, rfl⟩ : ∃ m, k = m + 1 := ⟨k - 1, by omega⟩
      have ei : ((m + 1 : Nat) : Int) - 1 = (m : Int) := by omega
      rw [ei]
      clear ei
      have hcm := Hc.out m (by omega)
      have hxd := HD.out.get m
      have hlt : (m : Int) < ds.length := by omega
      by_cases h4 : 4 ≤ m
      · have h5 := drop_upper ds m h4 (by omega)
        have h6 := val_four _ (HD.out.drop (max 4 m)) (by simp; omega)
        rw [← hs.out.1] at h5
        rw [h5] at h6
        have h7 := hs.out.2
        rw [drop_out ds (m + 1) (by omega)] at h7
        have H5 : Hid _ := h5
        have H7 : Hid _ := h7
        generalize hxk : ds.getD m 0 = x at hcm hxd h6
        have Hx : Hid _ := hxk
        have h4' : ¬ (m : Int) < 4 := by omega
        clear hxk h5 h7
        go_wp2
        exact ⟨⟨m, _, _, by omega, rfl, rfl, rfl, by omega, bl, by rw [H5.out, Hx.out], by rw [drop_out ds m h4]; exact H7.out⟩, by simp [intOf]⟩
      · have h5 := drop_lower ds m (by omega) (by omega)
        have h6 := val_four _ ((HD.out.take 4).drop m) (by simp; omega)
        rw [← hs.out.2] at h5
        rw [h5] at h6
        have h7 := hs.out.1
        have H5 : Hid _ := h5
        have H7 : Hid _ := h7
        generalize hxk : ds.getD m 0 = x at hcm hxd h6
        have Hx : Hid _ := hxk
        have h4' : (m : Int) < 4 := by omega
        clear hxk h5 h7
        go_wp2
        exact ⟨⟨m, _, _, by omega, rfl, rfl, rfl, bh, by omega, by rw [H7.out, show max 4 m = max 4 (m + 1) by omega], by rw [H5.out, Hx.out]⟩, by simp [intOf]⟩

theorem rhalves (ds : List Int) (v : Value) (w : World) (hd : Dgs ds) (hl : ds.length ≤ 1000) (hv : Dig w v ds) : Calls Try.prog 73 #[v] w (HalvesPost ds w) := by
  obtain ⟨a, cap, rfl, -, -, h⟩ := hv
  by_cases h8 : ds.length ≤ 8
  · by_cases h0 : ds = []
    · subst h0
      clear h hd
      go_enter Try.func73, Try.ntmps73
      go_wp2
      refine wp_loop_rounds 1 ?_
      rw [rounds_succ]
      go_wp2
      go_ret3
      exact ⟨0, 0, rfl, by omega, by omega, fun _ => rfl, fun h => absurd h8 h, rfl⟩
    · obtain ⟨g, rfl, hb, hc⟩ := h h0
      exact rhalves_row ds g cap w hd h8 hc
  · clear h hd
    have h8' : 8 < (ds.length : Int) := by omega
    go_enter Try.func73, Try.ntmps73
    go_wp2
    go_ret3
    exact ⟨0, 0, ret_three rfl rfl (decide_eq_false h8).symm, by omega, by omega, fun h => absurd h h8, fun _ => ⟨rfl, rfl⟩, rfl⟩
end Go.Proofs.Ytpdlbbglbbmjmaa.N1
