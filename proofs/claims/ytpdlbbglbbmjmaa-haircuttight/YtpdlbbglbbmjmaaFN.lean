/- The walk of the reference's Add. Conditions: the lists hold digits, and are not long. -/
import Derived.Test.YtpdlbbglbbmjmaaFL
import Derived.WalkKit
import Derived.ProofKit
import Derived.Handy
import Derived.WalkLawsBesides
import Derived.WalkSpells
import Derived.BigQuiet
import Derived.Deep.QuietTactic
import Derived.Deep.Light
import Derived.Deep.OwnRows
import Derived.Laws.AppendOwnNone
import Derived.Deep.RegionWith
import Derived.Lib.BitFns
import Derived.Lib.Walk
import Derived.Deep.CutBlock
import Derived.Deep.DeepCutAuto
import Derived.Deep.LoopGhost
import Derived.Deep.RegionHeld
namespace Go.Proofs.Ytpdlbbglbbmjmaa.N1
open Go.RowKit
set_option linter.unusedVariables false
set_option linter.unusedSimpArgs false

theorem val_take_any (xs : List Int) (i : Nat) : val (xs.take (i + 1)) = val (xs.take i) + pw i * xs.getD i 0 := by
  by_cases h : i < xs.length
  · exact val_take_succ xs i h
  · rw [List.take_of_length_le (show xs.length ≤ i + 1 by omega), List.take_of_length_le (show xs.length ≤ i by omega)]
    simp [List.getElem?_eq_none (show xs.length ≤ i by omega)]
theorem getD_out (xs : List Int) (i : Nat) (h : ¬ i < xs.length) : xs.getD i 0 = 0 := by
  simp [List.getElem?_eq_none (show xs.length ≤ i by omega)]

/-- a list that is built: in memory of the call's own -/
def AppMem (w : World) (os : List Int) (v : Value) (wr : World) : Prop := Own w.heap.size wr v os ∧ Below w.heap.size w wr

theorem AppMem.step {w wr w1 w2 : World} {os : List Int} {v v' : Value} {d : Int} (h : AppMem w os v wr) (hb : Below wr.heap.size wr w1) (ho : Own w.heap.size w2 v' (os ++ [d])) (hg : w1.grownBy w2 v.ownBlock) : AppMem w (os ++ [d]) v' w2 :=
  have hB : Below w.heap.size w w1 := h.2.trans (hb.mono h.2.size)
  ⟨ho, (h.1.below hb).grown (v' := v') hB hg hB.size⟩

/-- what the loop of Add keeps -/
def AddRel (xs ys : List Int) (i : Nat) (c : Int) (os : List Int) : Prop :=
  Dgs os ∧ os.length = i ∧ val os + c * pw i = val (xs.take i) + val (ys.take i) ∧ (0 < c → i ≤ xs.length ∨ i ≤ ys.length)

theorem AddRel.step {xs ys : List Int} {i : Nat} {c : Int} {os : List Int} (h : AddRel xs ys i c os) (hx : Dgs xs) (hy : Dgs ys) (hc : 0 ≤ c ∧ c ≤ 1) (n : Int) (hn : n = c + xs.getD i 0 + ys.getD i 0) : AddRel xs ys (i + 1) (n / 65536) (os ++ [n % 65536]) := by
  obtain ⟨h1, h2, h3, h4⟩ := h
  have bx := hx.get i
  have byy := hy.get i
  refine ⟨h1.append (Dgs.one (by omega)), by simp [h2], ?_, ?_⟩
  · rw [val_append, h2, val_take_any, val_take_any, pw_succ]
    have e : n = n % 65536 + 65536 * (n / 65536) := by omega
    generalize xs.getD i 0 = x at *
    generalize ys.getD i 0 = y at *
    generalize n % 65536 = r at *
    generalize n / 65536 = q at *
    simp only [val]
    generalize pw i = p at *
    grind
  · intro h0
    by_cases ex : i < xs.length
    · left; omega
    by_cases ey : i < ys.length
    · right; omega
    have e1 := getD_out xs i ex
    have e2 := getD_out ys i ey
    omega

theorem AddRel.start (xs ys : List Int) : AddRel xs ys 0 0 [] := ⟨Dgs.nil, rfl, by simp [val], fun h => by omega⟩

theorem radd (xs ys : List Int) (u v : Value) (w : World) (hx : Dgs xs) (hy : Dgs ys) (hl : xs.length ≤ 1000) (hl' : ys.length ≤ 1000) (hu : Dig w u xs) (hv : Dig w v ys) :
    Calls Try.prog 71 #[u, v] w (TwoPost' (val xs + val ys) (max xs.length ys.length + 1) w) := by
  obtain ⟨a, cap, rfl, -, -, h⟩ := hu
  obtain ⟨a', cap', rfl, -, -, h'⟩ := hv
  have HX : Hid (Dgs xs) := hx
  have HY : Hid (Dgs ys) := hy
  have H : Hid _ := h
  have H' : Hid _ := h'
  clear h h' hx hy
  go_enter Try.func71, Try.ntmps71
  go_wp2
  go_loopw [5, 6, 7] (fun l ci ki wr => ∃ (i : Nat) (c : Int) (os : List Int), i ≤ xs.length + ys.length + 1 ∧ ki = .int .i64 i ∧ ci = .int .u64 c ∧ (0 ≤ c ∧ c ≤ 1) ∧ Hid (AddRel xs ys i c os ∧ i ≤ max xs.length ys.length + 1) ∧ Hid (AppMem w os l wr))
    (fun _ _ ki _ => xs.length + ys.length + 5 - (intOf ki).toNat)
  case atStart => exact ⟨0, 0, [], by omega, rfl, rfl, by omega, ⟨AddRel.start xs ys, by omega⟩, Own.nil _ _, Below.refl _ _⟩
  case round =>
    obtain ⟨i, c, os, hi, rfl, rfl, bc, hs, hm⟩ := hrel
    have hst := AddRel.step hs.out.1 HX.out HY.out bc _ rfl
    have bx := HX.out.get i
    have byy := HY.out.get i
    have hosl : os.length = i := hs.out.1.2.1
    by_cases ex : i < xs.length
    · obtain ⟨g1, e1, hb1, hc1⟩ := H.out (by intro e; subst e; simp at ex)
      have hcx := (hm.out.2.cell (p := ⟨g1, i, none⟩) hb1).trans (hc1 i ex)
      have ex' : (i : Int) < xs.length := by omega
      by_cases ey : i < ys.length
      · obtain ⟨g2, e2, hb2, hc2⟩ := H'.out (by intro e; subst e; simp at ey)
        have hcy := (hm.out.2.cell (p := ⟨g2, i, none⟩) hb2).trans (hc2 i ey)
        have ey' : (i : Int) < ys.length := by omega
        generalize xs.getD i 0 = x at hcx bx hst
        generalize ys.getD i 0 = y at hcy byy hst
        have Hst : Hid _ := hst
        have Hosl : Hid _ := hosl
        clear hst hc1 hc2 hosl
        subst e1 e2
        go_wp2_with (first
          | (at_builtin; refine app_one _ rfl _ _ rfl w.heap.size wr.heap.size 1 _ os ((c + x + y) % 65536) rfl rfl ?c1a ?c2a ?c3a ?c4a ?_))
        case c1a => exact Own.below hm.out.1 ((Below.refl _ _).alloc (Nat.le_refl _) _)
        try (case c2a => simp)
        case c3a => rw [Hosl.out]; omega
        case c4a => have := hm.out.2.size; simp; omega
        intro v' w1 ho hg
        have hm1 := AppMem.step hm.out ((Below.refl _ _).alloc (Nat.le_refl _) _) ho hg
        have Hm1 : Hid _ := hm1
        clear hm1 ho hg
        go_wp2
        exact ⟨⟨i + 1, _, _, by omega, by go_num, rfl, by omega, ⟨Hst.out, by omega⟩, Hm1.out⟩, by simp [intOf]; omega⟩
      · have ey' : ¬ (i : Int) < ys.length := by omega
        rw [getD_out ys i ey, Int.add_zero] at hst
        generalize xs.getD i 0 = x at hcx bx hst
        have Hst : Hid _ := hst
        have Hosl : Hid _ := hosl
        clear hst hc1 hosl byy
        subst e1
        go_wp2_with (first
          | (at_builtin; refine app_one _ rfl _ _ rfl w.heap.size wr.heap.size 1 _ os ((c + x) % 65536) rfl rfl ?c1b ?c2b ?c3b ?c4b ?_))
        case c1b => exact Own.below hm.out.1 ((Below.refl _ _).alloc (Nat.le_refl _) _)
        try (case c2b => simp)
        case c3b => rw [Hosl.out]; omega
        case c4b => have := hm.out.2.size; simp; omega
        intro v' w1 ho hg
        have hm1 := AppMem.step hm.out ((Below.refl _ _).alloc (Nat.le_refl _) _) ho hg
        have Hm1 : Hid _ := hm1
        clear hm1 ho hg
        go_wp2
        exact ⟨⟨i + 1, _, _, by omega, by go_num, rfl, by omega, ⟨Hst.out, by omega⟩, Hm1.out⟩, by simp [intOf]; omega⟩
    · have ex' : ¬ (i : Int) < xs.length := by omega
      rw [getD_out xs i ex, Int.add_zero] at hst
      by_cases ey : i < ys.length
      · obtain ⟨g2, e2, hb2, hc2⟩ := H'.out (by intro e; subst e; simp at ey)
        have hcy := (hm.out.2.cell (p := ⟨g2, i, none⟩) hb2).trans (hc2 i ey)
        have ey' : (i : Int) < ys.length := by omega
        generalize ys.getD i 0 = y at hcy byy hst
        have Hst : Hid _ := hst
        have Hosl : Hid _ := hosl
        clear hst hc2 hosl bx
        subst e2
        go_wp2_with (first
          | (at_builtin; refine app_one _ rfl _ _ rfl w.heap.size wr.heap.size 1 _ os ((c + y) % 65536) rfl rfl ?c1c ?c2c ?c3c ?c4c ?_))
        case c1c => exact Own.below hm.out.1 ((Below.refl _ _).alloc (Nat.le_refl _) _)
        try (case c2c => simp)
        case c3c => rw [Hosl.out]; omega
        case c4c => have := hm.out.2.size; simp; omega
        intro v' w1 ho hg
        have hm1 := AppMem.step hm.out ((Below.refl _ _).alloc (Nat.le_refl _) _) ho hg
        have Hm1 : Hid _ := hm1
        clear hm1 ho hg
        go_wp2
        exact ⟨⟨i + 1, _, _, by omega, by go_num, rfl, by omega, ⟨Hst.out, by omega⟩, Hm1.out⟩, by simp [intOf]; omega⟩
      · have ey' : ¬ (i : Int) < ys.length := by omega
        rw [getD_out ys i ey, Int.add_zero] at hst
        by_cases hc0 : c = 0
        · subst hc0
          clear hst bx byy
          go_wp2_with fail
          refine (rtrim w.heap.size os _ _ hm.out.1 (by omega)).mono ?_
          rintro e w4 ⟨v4, rfl, ho4, rfl⟩
          have Ho4 : Hid _ := ho4
          clear ho4
          go_wp2
          go_ret
          refine ⟨v4, _, rfl, Ho4.out, ⟨trimL_norm _ hs.out.1.1, ?_, ?_⟩, hm.out.2⟩
          · have h8 := hs.out.1.2.2.1
            rw [List.take_of_length_le (show xs.length ≤ i by omega), List.take_of_length_le (show ys.length ≤ i by omega)] at h8
            rw [trimL_val]
            omega
          · have h8 := trimL_le os
            have h9 := hs.out.2
            omega
        · have hc1 : 0 < c := by omega
          have hb := hs.out.1.2.2.2 hc1
          have Hst : Hid _ := hst
          have Hosl : Hid _ := hosl
          clear hst hosl bx byy
          go_wp2_with (first
            | (at_builtin; refine app_one _ rfl _ _ rfl w.heap.size wr.heap.size 1 _ os (c % 65536) rfl rfl ?c1d ?c2d ?c3d ?c4d ?_))
          case c1d => exact Own.below hm.out.1 ((Below.refl _ _).alloc (Nat.le_refl _) _)
          try (case c2d => simp)
          case c3d => rw [Hosl.out]; omega
          case c4d => have := hm.out.2.size; simp; omega
          intro v' w1 ho hg
          have hm1 := AppMem.step hm.out ((Below.refl _ _).alloc (Nat.le_refl _) _) ho hg
          have Hm1 : Hid _ := hm1
          clear hm1 ho hg
          go_wp2
          exact ⟨⟨i + 1, _, _, by omega, by go_num, rfl, by omega, ⟨Hst.out, by omega⟩, Hm1.out⟩, by simp [intOf]; omega⟩
end Go.Proofs.Ytpdlbbglbbmjmaa.N1
