/- the reference: sums, differences, quotients of great numbers -/
import Derived.Test.YtdfadcbchiogjaaGreatF2
import Derived.WalkKit
import Derived.ProofKit
import Derived.Handy
import Derived.WalkLawsBesides
import Derived.WalkSpells
import Derived.BigQuiet
import Derived.Deep.QuietTactic
import Derived.Deep.Light
import Derived.Deep.OwnRows
import Derived.Laws.AppendOwnNone
import Derived.Deep.RegionWith
import Derived.Lib.BitFns
import Derived.Lib.Walk
import Derived.Deep.CutBlock
import Derived.Deep.DeepCutAuto
import Derived.Deep.LoopGhost
import Derived.Deep.RegionHeld
namespace Go.Proofs.YtdfadcbchiogjaaGreat.N1
open Go.RowKit
set_option linter.unusedVariables false
set_option linter.unusedSimpArgs false

theorem val_take_any (xs : List Int) (i : Nat) : val (xs.take (i + 1)) = val (xs.take i) + pw i * xs.getD i 0 := by
  by_cases h : i < xs.length
  · exact val_take_succ xs i h
  · rw [List.take_of_length_le (show xs.length ≤ i + 1 by omega), List.take_of_length_le (show xs.length ≤ i by omega)]
    simp [List.getElem?_eq_none (show xs.length ≤ i by omega)]
theorem getD_out (xs : List Int) (i : Nat) (h : ¬ i < xs.length) : xs.getD i 0 = 0 := by
  simp [List.getElem?_eq_none (show xs.length ≤ i by omega)]

/-- a list that is built: in memory of the call's own -/
def AppMem (w : World) (os : List Int) (v : Value) (wr : World) : Prop := Own w.heap.size wr v os ∧ Below w.heap.size w wr

theorem AppMem.step {w wr w1 w2 : World} {os : List Int} {v v' : Value} {d : Int} (h : AppMem w os v wr) (hb : Below wr.heap.size wr w1) (ho : Own w.heap.size w2 v' (os ++ [d])) (hg : w1.grownBy w2 v.ownBlock) : AppMem w (os ++ [d]) v' w2 :=
  have hB : Below w.heap.size w w1 := h.2.trans (hb.mono h.2.size)
  ⟨ho, (h.1.below hb).grown (v' := v') hB hg hB.size⟩

/-- what the loop of Add keeps -/
def AddRel (xs ys : List Int) (i : Nat) (c : Int) (os : List Int) : Prop :=
  Dgs os ∧ os.length = i ∧ val os + c * pw i = val (xs.take i) + val (ys.take i) ∧ (0 < c → i ≤ xs.length ∨ i ≤ ys.length)

theorem AddRel.step {xs ys : List Int} {i : Nat} {c : Int} {os : List Int} (h : AddRel xs ys i c os) (hx : Dgs xs) (hy : Dgs ys) (hc : 0 ≤ c ∧ c ≤ 1) (n : Int) (hn : n = c + xs.getD i 0 + ys.getD i 0) : AddRel xs ys (i + 1) (n / 65536) (os ++ [n % 65536]) := by
  obtain ⟨h1, h2, h3, h4⟩ := h
  have bx := hx.get i
  have byy := hy.get i
  refine ⟨h1.append (Dgs.one (by omega)), by simp [h2], ?_, ?_⟩
  · rw [val_append, h2, val_take_any, val_take_any, pw_succ]
    have e : n = n % 65536 + 65536 * (n / 65536) := by omega
    generalize xs.getD i 0 = x at *
    generalize ys.getD i 0 = y at *
    generalize n % 65536 = r at *
    generalize n / 65536 = q at *
    simp only [val]
    generalize pw i = p at *
    grind
  · intro h0
    by_cases ex : i < xs.length
    · left; omega
    by_cases ey : i < ys.length
    · right; omega
    have e1 := getD_out xs i ex
    have e2 := getD_out ys i ey
    omega

theorem AddRel.start (xs ys : List Int) : AddRel xs ys 0 0 [] := ⟨Dgs.nil, rfl, by simp [val], fun h => by omega⟩

theorem radd (xs ys : List Int) (u v : Value) (w : World) (hx : Dgs xs) (hy : Dgs ys) (hl : xs.length ≤ 1000) (hl' : ys.length ≤ 1000) (hu : Dig w u xs) (hv : Dig w v ys) :
    Calls Tryz.prog 60 #[u, v] w (TwoPost' (val xs + val ys) (max xs.length ys.length + 1) w) := by
  obtain ⟨a, cap, rfl, -, -, h⟩ := hu
  obtain ⟨a', cap', rfl, -, -, h'⟩ := hv
  have HX : Hid (Dgs xs) := hx
  have HY : Hid (Dgs ys) := hy
  have H : Hid _ := h
  have H' : Hid _ := h'
  clear h h' hx hy
  go_enter Tryz.func60, Tryz.ntmps60
  go_wp2
  go_loopw [5, 6, 7] (fun l ci ki wr => ∃ (i : Nat) (c : Int) (os : List Int), i ≤ xs.length + ys.length + 1 ∧ ki = .int .i64 i ∧ ci = .int .u64 c ∧ (0 ≤ c ∧ c ≤ 1) ∧ Hid (AddRel xs ys i c os ∧ i ≤ max xs.length ys.length + 1) ∧ Hid (AppMem w os l wr))
    (fun _ _ ki _ => xs.length + ys.length + 5 - (intOf ki).toNat)
  case atStart => exact ⟨0, 0, [], by omega, rfl, rfl, by omega, ⟨AddRel.start xs ys, by omega⟩, Own.nil _ _, Below.refl _ _⟩
  case round =>
    obtain ⟨i, c, os, hi, rfl, rfl, bc, hs, hm⟩ := hrel
    have hst := AddRel.step hs.out.1 HX.out HY.out bc _ rfl
    have bx := HX.out.get i
    have byy := HY.out.get i
    have hosl : os.length = i := hs.out.1.2.1
    by_cases ex : i < xs.length
    · obtain ⟨g1, e1, hb1, hc1⟩ := H.out (by intro e; subst e; simp at ex)
      have hcx := (hm.out.2.cell (p := ⟨g1, i, none⟩) hb1).trans (hc1 i ex)
      have ex' : (i : Int) < xs.length := by omega
      by_cases ey : i < ys.length
      · obtain ⟨g2, e2, hb2, hc2⟩ := H'.out (by intro e; subst e; simp at ey)
        have hcy := (hm.out.2.cell (p := ⟨g2, i, none⟩) hb2).trans (hc2 i ey)
        have ey' : (i : Int) < ys.length := by omega
        generalize xs.getD i 0 = x at hcx bx hst
        generalize ys.getD i 0 = y at hcy byy hst
        have Hst : Hid _ := hst
        have Hosl : Hid _ := hosl
        clear hst hc1 hc2 hosl
        subst e1 e2
        go_wp2_with (first
          | (at_builtin; refine app_one _ rfl _ _ rfl w.heap.size wr.heap.size 1 _ os ((c + x + y) % 65536) rfl rfl ?c1a ?c2a ?c3a ?c4a ?_))
        case c1a => exact Own.below hm.out.1 ((Below.refl _ _).alloc (Nat.le_refl _) _)
        try (case c2a => simp)
        case c3a => rw [Hosl.out]; omega
        case c4a => have := hm.out.2.size; simp; omega
        intro v' w1 ho hg
        have hm1 := AppMem.step hm.out ((Below.refl _ _).alloc (Nat.le_refl _) _) ho hg
        have Hm1 : Hid _ := hm1
        clear hm1 ho hg
        go_wp2
        exact ⟨⟨i + 1, _, _, by omega, by go_num, rfl, by omega, ⟨Hst.out, by omega⟩, Hm1.out⟩, by simp [intOf]; omega⟩
      · have ey' : ¬ (i : Int) < ys.length := by omega
        rw [getD_out ys i ey, Int.add_zero] at hst
        generalize xs.getD i 0 = x at hcx bx hst
        have Hst : Hid _ := hst
        have Hosl : Hid _ := hosl
        clear hst hc1 hosl byy
        subst e1
        go_wp2_with (first
          | (at_builtin; refine app_one _ rfl _ _ rfl w.heap.size wr.heap.size 1 _ os ((c + x) % 65536) rfl rfl ?c1b ?c2b ?c3b ?c4b ?_))
        case c1b => exact Own.below hm.out.1 ((Below.refl _ _).alloc (Nat.le_refl _) _)
        try (case c2b => simp)
        case c3b => rw [Hosl.out]; omega
        case c4b => have := hm.out.2.size; simp; omega
        intro v' w1 ho hg
        have hm1 := AppMem.step hm.out ((Below.refl _ _).alloc (Nat.le_refl _) _) ho hg
        have Hm1 : Hid _ := hm1
        clear hm1 ho hg
        go_wp2
        exact ⟨⟨i + 1, _, _, by omega, by go_num, rfl, by omega, ⟨Hst.out, by omega⟩, Hm1.out⟩, by simp [intOf]; omega⟩
    · have ex' : ¬ (i : Int) < xs.length := by omega
      rw [getD_out xs i ex, Int.add_zero] at hst
      by_cases ey : i < ys.length
      · obtain ⟨g2, e2, hb2, hc2⟩ := H'.out (by intro e; subst e; simp at ey)
        have hcy := (hm.out.2.cell (p := ⟨g2, i, none⟩) hb2).trans (hc2 i ey)
        have ey' : (i : Int) < ys.length := by omega
        generalize ys.getD i 0 = y at hcy byy hst
        have Hst : Hid _ := hst
        have Hosl : Hid _ := hosl
        clear hst hc2 hosl bx
        subst e2
        go_wp2_with (first
          | (at_builtin; refine app_one _ rfl _ _ rfl w.heap.size wr.heap.size 1 _ os ((c + y) % 65536) rfl rfl ?c1c ?c2c ?c3c ?c4c ?_))
        case c1c => exact Own.below hm.out.1 ((Below.refl _ _).alloc (Nat.le_refl _) _)
        try (case c2c => simp)
        case c3c => rw [Hosl.out]; omega
        case c4c => have := hm.out.2.size; simp; omega
        intro v' w1 ho hg
        have hm1 := AppMem.step hm.out ((Below.refl _ _).alloc (Nat.le_refl _) _) ho hg
        have Hm1 : Hid _ := hm1
        clear hm1 ho hg
        go_wp2
        exact ⟨⟨i + 1, _, _, by omega, by go_num, rfl, by omega, ⟨Hst.out, by omega⟩, Hm1.out⟩, by simp [intOf]; omega⟩
      · have ey' : ¬ (i : Int) < ys.length := by omega
        rw [getD_out ys i ey, Int.add_zero] at hst
        by_cases hc0 : c = 0
        · subst hc0
          clear hst bx byy
          go_wp2_with fail
          refine (rtrim w.heap.size os _ _ hm.out.1 (by omega)).mono ?_
          rintro e w4 ⟨v4, rfl, ho4, rfl⟩
          have Ho4 : Hid _ := ho4
          clear ho4
          go_wp2
          go_ret
          refine ⟨v4, _, rfl, Ho4.out, ⟨trimL_norm _ hs.out.1.1, ?_, ?_⟩, hm.out.2⟩
          · have h8 := hs.out.1.2.2.1
            rw [List.take_of_length_le (show xs.length ≤ i by omega), List.take_of_length_le (show ys.length ≤ i by omega)] at h8
            rw [trimL_val]
            omega
          · have h8 := trimL_le os
            have h9 := hs.out.2
            omega
        · have hc1 : 0 < c := by omega
          have hb := hs.out.1.2.2.2 hc1
          have Hst : Hid _ := hst
          have Hosl : Hid _ := hosl
          clear hst hosl bx byy
          go_wp2_with (first
            | (at_builtin; refine app_one _ rfl _ _ rfl w.heap.size wr.heap.size 1 _ os (c % 65536) rfl rfl ?c1d ?c2d ?c3d ?c4d ?_))
          case c1d => exact Own.below hm.out.1 ((Below.refl _ _).alloc (Nat.le_refl _) _)
          try (case c2d => simp)
          case c3d => rw [Hosl.out]; omega
          case c4d => have := hm.out.2.size; simp; omega
          intro v' w1 ho hg
          have hm1 := AppMem.step hm.out ((Below.refl _ _).alloc (Nat.le_refl _) _) ho hg
          have Hm1 : Hid _ := hm1
          clear hm1 ho hg
          go_wp2
          exact ⟨⟨i + 1, _, _, by omega, by go_num, rfl, by omega, ⟨Hst.out, by omega⟩, Hm1.out⟩, by simp [intOf]; omega⟩

/-- what the loop of Sub keeps -/
def SubRel (xs ys : List Int) (i : Nat) (c : Int) (os : List Int) : Prop :=
  Dgs os ∧ os.length = i ∧ val os - c * pw i = val (xs.take i) - val (ys.take i)

theorem SubRel.step {xs ys : List Int} {i : Nat} {c : Int} {os : List Int} (h : SubRel xs ys i c os) (n : Int) (hn : n = xs.getD i 0 + 65536 - c - ys.getD i 0) : SubRel xs ys (i + 1) (1 - n / 65536) (os ++ [n % 65536]) := by
  obtain ⟨h1, h2, h3⟩ := h
  refine ⟨h1.append (Dgs.one (by omega)), by simp [h2], ?_⟩
  rw [val_append, h2, val_take_any, val_take_any, pw_succ]
  have e : n = n % 65536 + 65536 * (n / 65536) := by omega
  generalize xs.getD i 0 = x at *
  generalize ys.getD i 0 = y at *
  generalize n % 65536 = r at *
  generalize n / 65536 = q at *
  simp only [val]
  generalize pw i = p at *
  grind

theorem SubRel.done {xs ys : List Int} {c : Int} {os : List Int} (h : SubRel xs ys xs.length c os) (hc : 0 ≤ c) (hl : ys.length ≤ xs.length) (hv : val ys ≤ val xs) : val os = val xs - val ys := by
  obtain ⟨h1, h2, h3⟩ := h
  rw [List.take_length, List.take_of_length_le hl] at h3
  have h4 := val_lt os h1
  rw [h2] at h4
  by_cases h0 : c = 0
  · subst h0; omega
  · exfalso
    have : 1 * pw xs.length ≤ c * pw xs.length := Int.mul_le_mul_of_nonneg_right (by omega) (Int.le_of_lt (pw_pos _))
    omega

theorem rsub (xs ys : List Int) (u v : Value) (w : World) (hx : Norm xs) (hy : Norm ys) (hl : xs.length ≤ 1000) (hv0 : val ys ≤ val xs) (hu : Dig w u xs) (hv : Dig w v ys) :
    Calls Tryz.prog 80 #[u, v] w (TwoPost' (val xs - val ys) xs.length w) := by
  have hl' : ys.length ≤ xs.length := by
    rcases Nat.lt_or_ge xs.length ys.length with h | h
    · have := val_shorter xs ys hx hy h; omega
    · exact h
  obtain ⟨a, cap, rfl, -, -, h⟩ := hu
  obtain ⟨a', cap', rfl, -, -, h'⟩ := hv
  have HX : Hid (Dgs xs) := hx.1
  have HY : Hid (Dgs ys) := hy.1
  have HV : Hid _ := hv0
  have H : Hid _ := h
  have H' : Hid _ := h'
  clear h h' hx hy hv0
  go_enter Tryz.func80, Tryz.ntmps80
  go_wp2
  go_loopw [5, 6, 7] (fun l ci ki wr => ∃ (i : Nat) (c : Int) (os : List Int), i ≤ xs.length ∧ ki = .int .i64 i ∧ ci = .int .u64 c ∧ (0 ≤ c ∧ c ≤ 1) ∧ Hid (SubRel xs ys i c os) ∧ Hid (AppMem w os l wr))
    (fun _ _ ki _ => xs.length + 5 - (intOf ki).toNat)
  case atStart => exact ⟨0, 0, [], by omega, rfl, rfl, by omega, ⟨Dgs.nil, rfl, by simp [val]⟩, Own.nil _ _, Below.refl _ _⟩
  case round =>
    obtain ⟨i, c, os, hi, rfl, rfl, bc, hs, hm⟩ := hrel
    have hst := SubRel.step hs.out _ rfl
    have bx := HX.out.get i
    have byy := HY.out.get i
    have hosl : os.length = i := hs.out.2.1
    by_cases ex : i < xs.length
    · obtain ⟨g1, e1, hb1, hc1⟩ := H.out (by intro e; subst e; simp at ex)
      have hcx := (hm.out.2.cell (p := ⟨g1, i, none⟩) hb1).trans (hc1 i ex)
      have ex' : (i : Int) < xs.length := by omega
      by_cases ey : i < ys.length
      · obtain ⟨g2, e2, hb2, hc2⟩ := H'.out (by intro e; subst e; simp at ey)
        have hcy := (hm.out.2.cell (p := ⟨g2, i, none⟩) hb2).trans (hc2 i ey)
        have ey' : (i : Int) < ys.length := by omega
        generalize xs.getD i 0 = x at hcx bx hst
        generalize ys.getD i 0 = y at hcy byy hst
        have Hst : Hid _ := hst
        have Hosl : Hid _ := hosl
        clear hst hc1 hc2 hosl
        subst e1 e2
        go_wp2_with (first
          | (at_builtin; refine app_one _ rfl _ _ rfl w.heap.size wr.heap.size 1 _ os ((x + 65536 - c - y) % 65536) rfl rfl ?c1a ?c2a ?c3a ?c4a ?_))
        case c1a => exact Own.below hm.out.1 ((Below.refl _ _).alloc (Nat.le_refl _) _)
        try (case c2a => simp)
        case c3a => rw [Hosl.out]; omega
        case c4a => have := hm.out.2.size; simp; omega
        intro v' w1 ho hg
        have hm1 := AppMem.step hm.out ((Below.refl _ _).alloc (Nat.le_refl _) _) ho hg
        have Hm1 : Hid _ := hm1
        clear hm1 ho hg
        go_wp2
        exact ⟨⟨i + 1, _, _, by omega, by go_num, rfl, by omega, Hst.out, Hm1.out⟩, by simp [intOf]; omega⟩
      · have ey' : ¬ (i : Int) < ys.length := by omega
        rw [getD_out ys i ey, Int.sub_zero] at hst
        generalize xs.getD i 0 = x at hcx bx hst
        have Hst : Hid _ := hst
        have Hosl : Hid _ := hosl
        clear hst hc1 hosl byy
        subst e1
        go_wp2_with (first
          | (at_builtin; refine app_one _ rfl _ _ rfl w.heap.size wr.heap.size 1 _ os ((x + 65536 - c) % 65536) rfl rfl ?c1b ?c2b ?c3b ?c4b ?_))
        case c1b => exact Own.below hm.out.1 ((Below.refl _ _).alloc (Nat.le_refl _) _)
        try (case c2b => simp)
        case c3b => rw [Hosl.out]; omega
        case c4b => have := hm.out.2.size; simp; omega
        intro v' w1 ho hg
        have hm1 := AppMem.step hm.out ((Below.refl _ _).alloc (Nat.le_refl _) _) ho hg
        have Hm1 : Hid _ := hm1
        clear hm1 ho hg
        go_wp2
        exact ⟨⟨i + 1, _, _, by omega, by go_num, rfl, by omega, Hst.out, Hm1.out⟩, by simp [intOf]; omega⟩
    · have ex' : ¬ (i : Int) < xs.length := by omega
      clear hst bx byy
      obtain rfl : i = xs.length := by omega
      go_wp2_with fail
      refine (rtrim w.heap.size os _ _ hm.out.1 (by omega)).mono ?_
      rintro e w4 ⟨v4, rfl, ho4, rfl⟩
      have Ho4 : Hid _ := ho4
      clear ho4
      go_wp2
      go_ret
      refine ⟨v4, _, rfl, Ho4.out, ⟨trimL_norm _ hs.out.1, ?_, ?_⟩, hm.out.2⟩
      · rw [trimL_val]
        exact SubRel.done hs.out bc.1 hl' HV.out
      · have h8 := trimL_le os
        omega

/-- what Halves tells: both words, where there are no more than 8 digits -/
def HalvesPost (ds : List Int) (w : World) (e : Ending) (w' : World) : Prop :=
  ∃ hi lo, e = .returned (.tuple #[.int .u64 hi, .int .u64 lo, .bool (decide (ds.length ≤ 8))]) ∧ (0 ≤ hi ∧ hi < 18446744073709551616) ∧ (0 ≤ lo ∧ lo < 18446744073709551616) ∧ Hid (ds.length ≤ 8 → wd hi lo = val ds) ∧ Hid (¬ ds.length ≤ 8 → hi = 0 ∧ lo = 0) ∧ w = w'

theorem ret_three {a b c d : Int} {x y : Bool} (h1 : a = c) (h2 : b = d) (h : x = y) : Ending.returned (.tuple #[.int .u64 a, .int .u64 b, .bool x]) = .returned (.tuple #[.int .u64 c, .int .u64 d, .bool y]) := by rw [h1, h2, h]

theorem pw_four : pw 4 = 18446744073709551616 := by decide
theorem val_four (ds : List Int) (h : Dgs ds) (hl : ds.length ≤ 4) : 0 ≤ val ds ∧ val ds < 18446744073709551616 := by
  have h1 := val_lt ds h
  have h2 := pw_mono hl
  rw [pw_four] at h2
  exact ⟨val_nonneg ds h, by omega⟩
theorem drop_upper (ds : List Int) (m : Nat) (h4 : 4 ≤ m) (hm : m < ds.length) : val (ds.drop (max 4 m)) = val (ds.drop (max 4 (m + 1))) * 65536 + ds.getD m 0 := by
  rw [show max 4 m = m by omega, show max 4 (m + 1) = m + 1 by omega, val_get ds m hm]
  omega
theorem drop_lower (ds : List Int) (m : Nat) (h4 : m < 4) (hm : m < ds.length) : val ((ds.take 4).drop m) = val ((ds.take 4).drop (m + 1)) * 65536 + ds.getD m 0 := by
  rw [val_get (ds.take 4) m (by simp; omega)]
  rw [show (ds.take 4).getD m 0 = ds.getD m 0 by simp [List.getElem?_take, h4]]
  omega
theorem drop_out (ds : List Int) (m : Nat) (h4 : 4 ≤ m) : (ds.take 4).drop m = [] := List.drop_eq_nil_of_le (by simp; omega)

theorem rhalves_row (ds : List Int) (g cap : Nat) (w : World) (hd : Dgs ds) (hl : ds.length ≤ 8) (hc : ∀ j, j < ds.length → w.cell? ⟨g, j, none⟩ = some (.int .u64 (ds.getD j 0))) :
    Calls Tryz.prog 62 #[.slice (some ⟨g, 0, none⟩) ds.length cap] w (HalvesPost ds w) := by
  have Hc : Hid _ := hc
  have HD : Hid (Dgs ds) := hd
  clear hc hd
  go_enter Tryz.func62, Tryz.ntmps62
  go_wp2
  go_loop [5, 6, 7] (fun h l i => ∃ (k : Nat) (hi lo : Int), k ≤ ds.length ∧ i = .int .i64 ((k : Int) - 1) ∧ h = .int .u64 hi ∧ l = .int .u64 lo ∧ (0 ≤ hi ∧ hi < 18446744073709551616) ∧ (0 ≤ lo ∧ lo < 18446744073709551616) ∧ Hid (hi = val (ds.drop (max 4 k)) ∧ lo = val ((ds.take 4).drop k)))
    (fun _ _ i => (intOf i + 1).toNat)
  case atStart => exact ⟨ds.length, 0, 0, by omega, rfl, rfl, rfl, by omega, by omega, by rw [List.drop_eq_nil_of_le (by omega)]; rfl, by rw [List.drop_eq_nil_of_le (by simp; omega)]; rfl⟩
  case round =>
    obtain ⟨k, hi, lo, hk, rfl, rfl, rfl, bh, bl, hs⟩ := hrel
    by_cases h0 : k = 0
    · subst h0
      go_wp2
      go_ret3
      refine ⟨hi, lo, ret_three rfl rfl (decide_eq_true hl).symm, bh, bl, fun _ => ?_, fun h => absurd hl h, rfl⟩
      have h1 := hs.out
      rw [h1.1, h1.2]
      have h2 := val_append (ds.take 4) (ds.drop 4)
      rw [List.take_append_drop] at h2
      simp only [wd, Nat.max_zero, List.drop_zero]
      by_cases h4 : 4 ≤ ds.length
      · rw [show (ds.take 4).length = 4 by simp; omega, pw_four] at h2
        omega
      · rw [List.drop_eq_nil_of_le (show ds.length ≤ 4 by omega)] at h2 ⊢
        simp only [val] at h2 ⊢
        omega
    · obtain ⟨m, rfl⟩ : ∃ m, k = m + 1 := ⟨k - 1, by omega⟩
      have ei : ((m + 1 : Nat) : Int) - 1 = (m : Int) := by omega
      rw [ei]
      clear ei
      have hcm := Hc.out m (by omega)
      have hxd := HD.out.get m
      have hlt : (m : Int) < ds.length := by omega
      by_cases h4 : 4 ≤ m
      · have h5 := drop_upper ds m h4 (by omega)
        have h6 := val_four _ (HD.out.drop (max 4 m)) (by simp; omega)
        rw [← hs.out.1] at h5
        rw [h5] at h6
        have h7 := hs.out.2
        rw [drop_out ds (m + 1) (by omega)] at h7
        have H5 : Hid _ := h5
        have H7 : Hid _ := h7
        generalize hxk : ds.getD m 0 = x at hcm hxd h6
        have Hx : Hid _ := hxk
        have h4' : ¬ (m : Int) < 4 := by omega
        clear hxk h5 h7
        go_wp2
        exact ⟨⟨m, _, _, by omega, rfl, rfl, rfl, by omega, bl, by rw [H5.out, Hx.out], by rw [drop_out ds m h4]; exact H7.out⟩, by simp [intOf]⟩
      · have h5 := drop_lower ds m (by omega) (by omega)
        have h6 := val_four _ ((HD.out.take 4).drop m) (by simp; omega)
        rw [← hs.out.2] at h5
        rw [h5] at h6
        have h7 := hs.out.1
        have H5 : Hid _ := h5
        have H7 : Hid _ := h7
        generalize hxk : ds.getD m 0 = x at hcm hxd h6
        have Hx : Hid _ := hxk
        have h4' : (m : Int) < 4 := by omega
        clear hxk h5 h7
        go_wp2
        exact ⟨⟨m, _, _, by omega, rfl, rfl, rfl, bh, by omega, by rw [H7.out, show max 4 m = max 4 (m + 1) by omega], by rw [H5.out, Hx.out]⟩, by simp [intOf]⟩

theorem rhalves (ds : List Int) (v : Value) (w : World) (hd : Dgs ds) (hl : ds.length ≤ 1000) (hv : Dig w v ds) : Calls Tryz.prog 62 #[v] w (HalvesPost ds w) := by
  obtain ⟨a, cap, rfl, -, -, h⟩ := hv
  by_cases h8 : ds.length ≤ 8
  · by_cases h0 : ds = []
    · subst h0
      clear h hd
      go_enter Tryz.func62, Tryz.ntmps62
      go_wp2
      refine wp_loop_rounds 1 ?_
      rw [rounds_succ]
      go_wp2
      go_ret3
      exact ⟨0, 0, rfl, by omega, by omega, fun _ => rfl, fun h => absurd h8 h, rfl⟩
    · obtain ⟨g, rfl, hb, hc⟩ := h h0
      exact rhalves_row ds g cap w hd h8 hc
  · clear h hd
    have h8' : 8 < (ds.length : Int) := by omega
    go_enter Tryz.func62, Tryz.ntmps62
    go_wp2
    go_ret3
    exact ⟨0, 0, ret_three rfl rfl (decide_eq_false h8).symm, by omega, by omega, fun h => absurd h h8, fun _ => ⟨rfl, rfl⟩, rfl⟩

/-- append(l, m...): all of m's digits more, m in memory of the call's own, too -/
theorem app_own (w : World) {ops : Array Oper} {rest : List Oper} {o : Oper} {a : Act} {Q : Exit → Act → World → Prop} (hgd : o.guard = none) (s x : Operand)
    (ho : o.op = .call { callee := .builtin .append, args := #[s, x], argTypes := #[116, 116] })
    (B B2 : Nat) (v v2 : Value) (ds es : List Int) (hs : a.eval s = v) (hx : a.eval x = v2) (hown : Own B w v ds) (hd : Own B2 w v2 es) (hl : ds.length + es.length ≤ 1000000) (hB : B ≤ w.heap.size)
    (h : ∀ v' w', Own B w' v' (ds ++ es) → w.grownBy w' v.ownBlock → wpList Tryz.prog ops Q rest (a.put o.dst v') w') : wpList Tryz.prog ops Q (o :: rest) a w := by
  by_cases h0 : es = []
  · have h1 := hd
    unfold Own World.ownsRow at h1
    rcases h1.2 with ⟨e, _⟩ | ⟨g, cap, cur, e, _⟩
    · exact app_all w hgd s x ho B v v2 ds es hs hx hown hd.dig (fun _ => e) hl hB h
    · subst h0
      obtain ⟨i0, hi, hz0, hz1, hz2⟩ := info_parts Tryz.info103
      rw [e] at hx
      refine wpList_append_own w hgd s x 116 ho B 103 i0 (.int .u64 0) 1 8 Tryz.underlying116 hi hz0 hz1 hz2 rfl (by decide) v ds.length (ds.map (Value.int .u64)) hs hown ⟨g, 0, none⟩ 0 cap [] hx rfl ?_ ?_ ?_ ?_ hB ?_
      · intro j u hj; simp at hj
      · intro u hu; simp at hu
      · unfold maxLen; omega
      · omega
      · intro v' w' h1 h2 _
        exact h v' w' (by unfold Own; simpa using h1) h2
  · exact app_all w hgd s x ho B v v2 ds es hs hx hown hd.dig (fun h => absurd h h0) hl hB h

theorem Own.set_below {B : Nat} {w : World} {v : Value} {ds : List Int} (h : Own B w v ds) {p : Addr} (hp : p.block < B) (u : Value) : Own B (w.setCell p u) v ds := ownsRow_setCell_below h hp u

def DivBPost (xs ys : List Int) (w : World) (e : Ending) (w' : World) : Prop :=
  ∃ vq qs vr rs, e = .returned (.tuple #[vq, vr]) ∧ Own w.heap.size w' vq qs ∧ Own w.heap.size w' vr rs ∧ Hid (Norm qs ∧ Norm rs ∧ val qs * val ys + val rs = val xs ∧ val rs < val ys ∧ qs.length ≤ xs.length ∧ rs.length ≤ ys.length) ∧ Below w.heap.size w w'

/-- what the outer loop of Div keeps: the digits from k on are divided -/
def DivRel (xs ys : List Int) (w : World) (k : Nat) (qs rs : List Int) (v : Value) (wr : World) : Prop :=
  Row wr w.heap.size .u64 103 qs ∧ Own (w.heap.size + 1) wr v rs ∧ Below w.heap.size w wr ∧ Dgs qs ∧ qs.length = xs.length ∧ Norm rs ∧ val rs < val ys ∧ val (qs.drop k) * val ys + val rs = val (xs.drop k)

theorem norm_le (rs ys : List Int) (hr : Norm rs) (hy : Norm ys) (h : val rs ≤ val ys) : rs.length ≤ ys.length := by
  rcases Nat.lt_or_ge ys.length rs.length with h1 | h1
  · have := val_shorter ys rs hy hr h1; omega
  · exact h1

theorem div_step (l q y x r : Int) : (l + 65536 * q) * y + (x + 65536 * r - l * y) = x + 65536 * (q * y + r) := by grind

theorem rdiv (xs ys : List Int) (u v : Value) (w : World) (hx : Norm xs) (hy : Norm ys) (hl : xs.length ≤ 100) (hl' : ys.length ≤ 100) (h0 : 0 < val ys) (hu : Dig w u xs) (hv : Dig w v ys) :
    Calls Tryz.prog 56 #[u, v] w (DivBPost xs ys w) := by
  obtain ⟨a, cap, rfl, -, -, h⟩ := hu
  have hmk := run_make_row' (P := Tryz.prog) 116 103 (.int .u64 0) 8 Tryz.underlying116 Tryz.info103 rfl .i64 .i64 xs.length (by omega) (by omega)
  have HX : Hid (Norm xs) := hx
  have HY : Hid (Norm ys) := hy
  have H : Hid _ := h
  have HV : Hid (Dig w v ys) := hv
  have H0 : Hid _ := h0
  clear h hx hy hv h0
  go_enter Tryz.func56, Tryz.ntmps56
  go_wp2
  go_loopw [7, 8] (fun v i wr => ∃ (k : Nat) (qs rs : List Int), k ≤ xs.length ∧ i = .int .i64 ((k : Int) - 1) ∧ Hid (DivRel xs ys w k qs rs v wr))
    (fun _ i _ => (intOf i + 1).toNat)
  case atStart =>
    refine ⟨xs.length, List.replicate xs.length 0, [], by omega, rfl, ?_, Own.nil _ _, Below.alloc (Below.refl _ _) (Nat.le_refl _) _, Dgs.zeros _, by simp, ⟨Dgs.nil, Or.inl rfl⟩, H0.out, ?_⟩
    · rw [made_zeros]; exact Row.new w _ .u64 103
    · rw [List.drop_length, List.drop_eq_nil_of_le (by simp)]; simp [val]
  case round =>
    obtain ⟨k, qs, rs, hk, rfl, hs⟩ := hrel
    by_cases hk0 : k = 0
    · subst hk0
      go_wp2_with fail
      have hown := Row.own (B := w.heap.size) hs.out.1 (Nat.le_refl _) (by rw [hs.out.2.2.2.2.1]; unfold maxLen; omega)
      rw [hs.out.2.2.2.2.1] at hown
      refine (rtrim w.heap.size qs _ _ hown (by rw [hs.out.2.2.2.2.1]; omega)).mono ?_
      rintro e w4 ⟨v4, rfl, ho4, rfl⟩
      have Ho4 : Hid (Own w.heap.size wr v4 (trimL qs)) := ho4
      clear ho4 hown
      go_wp2
      go_ret2
      obtain ⟨h1, h2, h3, h4, h5, h6, h7, h8⟩ := hs.out
      refine ⟨v4, trimL qs, _, rs, rfl, Ho4.out, h2.mono (by omega), ⟨trimL_norm qs h4, h6, ?_, h7, ?_, norm_le rs ys h6 HY.out (Int.le_of_lt h7)⟩, h3⟩
      · rw [trimL_val]
        simpa using h8
      · have := trimL_le qs; omega
    · obtain ⟨m, rfl⟩ : ∃ m, k = m + 1 := ⟨k - 1, by omega⟩
      have ei : ((m + 1 : Nat) : Int) - 1 = (m : Int) := by omega
      rw [ei]
      clear ei
      obtain ⟨g1, e1, hb1, hc1⟩ := H.out (by intro e; subst e; simp at hk)
      have hcx := (hs.out.2.2.1.cell (p := ⟨g1, m, none⟩) hb1).trans (hc1 m (by omega))
      have hxd := HX.out.1.get m
      have hlt : (m : Int) < xs.length := by omega
      generalize hxk : xs.getD m 0 = x at hcx hxd
      have Hxk : Hid _ := hxk
      clear hxk hc1
      subst e1
      have hrl : rs.length ≤ ys.length := norm_le rs ys hs.out.2.2.2.2.2.1 HY.out (Int.le_of_lt hs.out.2.2.2.2.2.2.1)
      go_wp2_with (first
        | (at_builtin; refine app_own _ rfl _ _ rfl (w.heap.size + 1) (w.heap.size + 1) (.slice (some ⟨wr.heap.size, 0, none⟩) 1 1) _ [x] rs rfl rfl ?c1 ?c2 ?c3 ?c4 ?_))
      case c1 => exact Row.own (Row.new wr [x] .u64 103) hs.out.1.lt (by unfold maxLen; simp)
      case c2 => exact Own.below hs.out.2.1 ((Below.refl _ _).alloc (Nat.le_refl _) _)
      case c3 => simp; omega
      case c4 => have := hs.out.1.lt; simp; omega
      intro v' w1 ho1 hg1
      have hB1 : Below wr.heap.size wr w1 := ((Below.refl wr.heap.size wr).alloc (Nat.le_refl _) _).grown hg1 (by simp) (fun k hk => by simp [Value.ownBlock] at hk; omega)
      have Ho1 : Hid (Own (w.heap.size + 1) w1 v' (x :: rs)) := ho1
      have HB1 : Hid (Below wr.heap.size wr w1) := hB1
      clear ho1 hg1 hB1
      go_wp2_with fail
      refine (rtrim (w.heap.size + 1) (x :: rs) v' _ Ho1.out (by simp; omega)).mono ?_
      rintro e w2 ⟨v2, rfl, ho2, rfl⟩
      have hts : Norm (trimL (x :: rs)) ∧ val (trimL (x :: rs)) = x + 65536 * val rs := ⟨trimL_norm _ (Dgs.append (xs := [x]) (Dgs.one hxd) hs.out.2.2.2.2.2.1.1), by rw [trimL_val]; rfl⟩
      have htl := trimL_le (x :: rs)
      generalize trimL (x :: rs) = ts at ho2 hts htl
      have Ho2 : Hid (Own (w.heap.size + 1) w1 v2 ts) := ho2
      have Hts : Hid _ := hts
      have htl2 : ts.length ≤ 101 := by simp at htl; omega
      have hty : Hid (0 ≤ val ts ∧ val ts < 65536 * val ys) := by
        have h3 := hs.out.2.2.2.2.2.2.1
        have h4 := val_nonneg rs hs.out.2.2.2.2.2.1.1
        refine ⟨?_, ?_⟩ <;> rw [hts.2] <;> omega
      have hsz1 := HB1.out.size
      clear ho2 hts htl Ho1
      go_wp2_with fail
      obtain ⟨wo, rfl⟩ : ∃ wo : World, wo = w1 := ⟨_, rfl⟩
      obtain ⟨wq, rfl⟩ : ∃ wq : World, wq = wr := ⟨_, rfl⟩
      go_loopw [9, 10] (fun li mi wr => ∃ (l m : Int), li = .int .u64 l ∧ mi = .int .u64 m ∧ (0 ≤ l ∧ l < m ∧ m ≤ 65536) ∧ Hid (l * val ys ≤ val ts ∧ val ts < m * val ys) ∧ Hid (Below wo.heap.size wo wr))
        (fun li mi _ => (intOf mi - intOf li).toNat)
      case atStart => exact ⟨0, 65536, rfl, rfl, by omega, ⟨by have := hty.out; omega, hty.out.2⟩, Below.refl _ _⟩
      case round =>
        obtain ⟨l, mm, rfl, rfl, blm, hlm, hbel⟩ := hrel
        by_cases hgo : 1 < mm - l
        · have hmid : 0 ≤ (l + mm) / 2 ∧ (l + mm) / 2 < 18446744073709551616 := by omega
          have hmid2 : l < (l + mm) / 2 ∧ (l + mm) / 2 < mm := by omega
          go_wp2_with fail
          generalize hmd : (l + mm) / 2 = md at hmid hmid2
          clear hmd
          refine (rof md _ hmid).mono ?_
          rintro e w3 ⟨v3, d3, rfl, ho3, hn3, hb3, -⟩
          have Ho3 : Hid (Own wr.heap.size w3 v3 d3) := ho3
          have Hb3 : Hid (Below wr.heap.size wr w3) := hb3
          clear ho3 hb3
          go_wp2_with fail
          have hB3 : Below wo.heap.size wo w3 := hbel.out.trans (Hb3.out.mono hbel.out.size)
          have hY3 : Dig w3 v ys := Dig.below (Dig.below (Dig.below HV.out (hs.out.2.2.1)) HB1.out) hB3
          refine (rmul d3 ys v3 v _ hn3.out.1.1 HY.out.1 (by have := hn3.out.2.2; omega) (by omega) (Own.dig Ho3.out) hY3).mono ?_
          rintro e w4 ⟨v4, d4, rfl, ho4, hn4, hb4⟩
          have hB4 : Below wo.heap.size wo w4 := hB3.trans (hb4.mono hB3.size)
          have Ho4 : Hid (Own w3.heap.size w4 v4 d4) := ho4
          have HB4 : Hid (Below wo.heap.size wo w4) := hB4
          clear ho4 hb4 hB4 hB3 hY3
          go_wp2_with fail
          refine (rcompare d4 ts v4 v2 _ hn4.out.1 Hts.out.1 (by have := hn4.out.2.2; have := hn3.out.2.2; omega) (by omega) (Own.dig Ho4.out) (Dig.below (Own.dig Ho2.out) HB4.out)).mono ?_
          rintro e w5 ⟨c, rfl, bc, hc, k5, rfl⟩
          have hcv : (c ≤ 0 ↔ md * val ys ≤ val ts) := by
            have h1 := hc.out
            rw [hn4.out.2.1, hn3.out.2.1] at h1
            omega
          have Hcv : Hid _ := hcv
          clear hcv hc
          by_cases hc0 : c ≤ 0
          · go_wp2
            exact ⟨⟨md, mm, rfl, rfl, by omega, ⟨Hcv.out.1 hc0, hlm.out.2⟩, below_drewN HB4.out⟩, by simp [intOf]; omega⟩
          · go_wp2
            exact ⟨⟨l, md, rfl, rfl, by omega, ⟨hlm.out.1, by have := Hcv.out; omega⟩, below_drewN HB4.out⟩, by simp [intOf]; omega⟩
        · obtain rfl : mm = l + 1 := by omega
          have hB2 : Below wq.heap.size wq wr := HB1.out.trans (hbel.out.mono HB1.out.size)
          have hrow := hs.out.1.below hB2 hs.out.1.lt
          have hcq := hrow.cell m (by rw [hs.out.2.2.2.2.1]; omega)
          have hfq := hrow.frozen m
          generalize qs.getD m 0 = qo at hcq
          have Hrow : Hid (Row wr w.heap.size .u64 103 qs) := hrow
          have HB2 : Hid (Below wq.heap.size wq wr) := hB2
          have hwq : w.heap.size < wr.heap.size := Hrow.out.lt
          clear hrow hB2
          go_wp2_with fail
          obtain ⟨ws, hws⟩ : ∃ ws, ws = wr.setCell ⟨w.heap.size, m, none⟩ (.int .u64 l) := ⟨_, rfl⟩
          rw [← hws]
          have hrs : Row ws w.heap.size .u64 103 (qs.set m l) := by rw [hws]; exact Hrow.out.set m l
          have hos : Own (w.heap.size + 1) ws v2 ts := by rw [hws]; exact Own.set_below (Own.below Ho2.out hbel.out) (Nat.lt_succ_self _) _
          have hBs : Below w.heap.size w ws := by rw [hws]; exact (hs.out.2.2.1.trans (HB2.out.mono hs.out.2.2.1.size)).setCell (Nat.le_refl _) _
          have hYs : Dig ws v ys := Dig.below HV.out hBs
          have Hrs : Hid (Row ws w.heap.size .u64 103 (qs.set m l)) := hrs
          have Hos : Hid (Own (w.heap.size + 1) ws v2 ts) := hos
          have HBs : Hid (Below w.heap.size w ws) := hBs
          have HYs : Hid (Dig ws v ys) := hYs
          clear hrs hos hBs hYs hws hcq hfq Hrow HB2 hbel
          refine (rof l _ (by omega)).mono ?_
          rintro e w3 ⟨v3, d3, rfl, ho3, hn3, hb3, -⟩
          have Ho3 : Hid (Own ws.heap.size w3 v3 d3) := ho3
          have Hb3 : Hid (Below ws.heap.size ws w3) := hb3
          clear ho3 hb3
          go_wp2_with fail
          refine (rmul d3 ys v3 v _ hn3.out.1.1 HY.out.1 (by have := hn3.out.2.2; omega) (by omega) (Own.dig Ho3.out) (Dig.below HYs.out Hb3.out)).mono ?_
          rintro e w4 ⟨v4, d4, rfl, ho4, hn4, hb4⟩
          have Ho4 : Hid (Own w3.heap.size w4 v4 d4) := ho4
          have HB4 : Hid (Below ws.heap.size ws w4) := Hb3.out.trans (hb4.mono Hb3.out.size)
          clear ho4 hb4
          go_wp2_with fail
          refine (rsub ts d4 v2 v4 _ Hts.out.1 hn4.out.1 (by omega) (by rw [hn4.out.2.1, hn3.out.2.1]; exact hlm.out.1) (Dig.below (Own.dig Hos.out) HB4.out) (Own.dig Ho4.out)).mono ?_
          rintro e w5 ⟨v5, d5, rfl, ho5, hn5, hb5⟩
          have HB5 : Hid (Below ws.heap.size ws w5) := HB4.out.trans (hb5.mono HB4.out.size)
          have hsz4 := HB4.out.size
          have hrl5 := Hrs.out.lt
          have Ho5 : Hid (Own (w.heap.size + 1) w5 v5 d5) := Own.mono ho5 (by omega)
          clear ho5 hb5
          go_wp2
          have hrel5 : DivRel xs ys w m (qs.set m l) d5 v5 w5 := by
            obtain ⟨hn51, hn52, -⟩ := hn5.out
            rw [hn4.out.2.1, hn3.out.2.1, Hts.out.2] at hn52
            have hl2 := hlm.out.2
            rw [Hts.out.2] at hl2
            refine ⟨Hrs.out.below HB5.out hrl5, Ho5.out, HBs.out.trans (HB5.out.mono HBs.out.size), hs.out.2.2.2.1.set m l (by omega), by rw [List.length_set]; exact hs.out.2.2.2.2.1, hn51, ?_, ?_⟩
            · rw [hn52]
              rw [Int.add_mul] at hl2
              omega
            · have hq := hs.out.2.2.2.2.2.2.2
              have hql := hs.out.2.2.2.2.1
              rw [val_get xs m (by omega), Hxk.out, ← hq, val_get (qs.set m l) m (by simp; omega), hn52, List.drop_set_of_lt (Nat.lt_succ_self m)]
              have e1 : (qs.set m l).getD m 0 = l := by simp [List.getD_eq_getElem?_getD, List.getElem?_set, show m < qs.length by omega]
              rw [e1]
              exact div_step _ _ _ _ _
          exact ⟨⟨m, _, _, by omega, rfl, hrel5⟩, by simp [intOf]⟩
end Go.Proofs.YtdfadcbchiogjaaGreat.N1
