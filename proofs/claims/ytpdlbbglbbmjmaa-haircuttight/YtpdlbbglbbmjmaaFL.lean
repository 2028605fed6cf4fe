/- The walk of the reference's Mul. Conditions: the lists hold digits, and are not long. -/
import Derived.Test.YtpdlbbglbbmjmaaFK
import Derived.WalkKit
import Derived.ProofKit
import Derived.Handy
import Derived.WalkLawsBesides
import Derived.WalkSpells
import Derived.BigQuiet
import Derived.Deep.QuietTactic
import Derived.Deep.Light
import Derived.Deep.OwnRows
import Derived.Laws.AppendOwnNone
import Derived.Deep.RegionWith
import Derived.Lib.BitFns
import Derived.Lib.Walk
import Derived.Deep.CutBlock
import Derived.Deep.DeepCutAuto
import Derived.Deep.LoopGhost
import Derived.Deep.RegionHeld
namespace Go.Proofs.Ytpdlbbglbbmjmaa.N1
open Go.RowKit
set_option linter.unusedVariables false
set_option linter.unusedSimpArgs false

theorem val_set (ds : List Int) (j : Nat) (x : Int) (h : j < ds.length) : val (ds.set j x) = val ds + pw j * (x - ds.getD j 0) := by
  induction ds generalizing j with
  | nil => simp at h
  | cons d ds ih =>
    cases j with
    | zero => simp [val, pw]; omega
    | succ j =>
      have := ih j (by simpa using h)
      simp only [List.set_cons_succ, val, this, pw, List.getD_cons_succ]
      grind
theorem pw_succ (n : Nat) : pw (n + 1) = 65536 * pw n := rfl
theorem Dgs.set {ds : List Int} (h : Dgs ds) (j : Nat) (x : Int) (hx : 0 ≤ x ∧ x < 65536) : Dgs (ds.set j x) := by
  intro d hd
  rcases List.mem_or_eq_of_mem_set hd with h1 | h1
  · exact h d h1
  · rw [h1]; exact hx
theorem val_take_succ (xs : List Int) (i : Nat) (h : i < xs.length) : val (xs.take (i + 1)) = val (xs.take i) + pw i * xs.getD i 0 := by
  rw [take_getD xs i h, val_append]
  simp [val, show min i xs.length = i by omega]

/-- what the inner loop of Mul keeps: so much is added, c is carried -/
def MulIn (xs ys : List Int) (i k : Nat) (c : Int) (os : List Int) : Prop :=
  Dgs os ∧ os.length = xs.length + ys.length + 1 ∧ k ≤ ys.length + 1 ∧ val os + c * pw (i + k) = val (xs.take i) * val ys + xs.getD i 0 * pw i * val (ys.take k)

theorem MulIn.bound {xs ys : List Int} {i k : Nat} {c : Int} {os : List Int} (h : MulIn xs ys i k c os) (hx : Dgs xs) (hy : Dgs ys) (hi : i < xs.length) (hc : 0 < c) : k ≤ ys.length := by
  obtain ⟨h1, h2, h3, h4⟩ := h
  rcases Nat.lt_or_ge ys.length k with hk | hk
  · exfalso
    have hk' : k = ys.length + 1 := by omega
    subst hk'
    rw [List.take_of_length_le (show ys.length ≤ ys.length + 1 by omega)] at h4
    have h5 := val_nonneg os h1
    have h6 := val_take_succ xs i hi
    have h7 := val_lt _ (hx.take (i + 1))
    rw [List.length_take, show min (i + 1) xs.length = i + 1 by omega] at h7
    have h8 := val_lt ys hy
    have h9 := val_nonneg ys hy
    have h10 := val_nonneg _ (hx.take (i + 1))
    have e : val (xs.take i) * val ys + xs.getD i 0 * pw i * val ys = val (xs.take (i + 1)) * val ys := by rw [h6]; grind
    have h11 : val (xs.take (i + 1)) * val ys ≤ val (xs.take (i + 1)) * pw ys.length := Int.mul_le_mul_of_nonneg_left (by omega) h10
    have h12 : val (xs.take (i + 1)) * pw ys.length < pw (i + 1) * pw ys.length := Int.mul_lt_mul_of_pos_right h7 (pw_pos _)
    rw [← pw_add, show i + 1 + ys.length = i + (ys.length + 1) by omega] at h12
    have h13 : 1 * pw (i + (ys.length + 1)) ≤ c * pw (i + (ys.length + 1)) := Int.mul_le_mul_of_nonneg_right (by omega) (Int.le_of_lt (pw_pos _))
    omega
  · exact hk

theorem MulIn.step {xs ys : List Int} {i k : Nat} {c : Int} {os : List Int} (h : MulIn xs ys i k c os) (hi : i < xs.length) (hk : k ≤ ys.length) (n : Int) (hn : n = os.getD (i + k) 0 + c + (if k < ys.length then xs.getD i 0 * ys.getD k 0 else 0)) :
    MulIn xs ys i (k + 1) (n / 65536) (os.set (i + k) (n % 65536)) := by
  obtain ⟨h1, h2, h3, h4⟩ := h
  refine ⟨h1.set _ _ (by omega), by simp [h2], by omega, ?_⟩
  rw [val_set _ _ _ (by omega), ← Nat.add_assoc, pw_succ]
  have e : n = n % 65536 + 65536 * (n / 65536) := by omega
  have e2 : val (ys.take (k + 1)) = val (ys.take k) + pw k * (if k < ys.length then ys.getD k 0 else 0) := by
    split
    · rw [val_take_succ ys k (by assumption)]
    · rw [List.take_of_length_le (show ys.length ≤ k by omega), List.take_of_length_le (show ys.length ≤ k + 1 by omega)]; omega
  have e3 : (if k < ys.length then xs.getD i 0 * ys.getD k 0 else 0) = xs.getD i 0 * (if k < ys.length then ys.getD k 0 else 0) := by split <;> simp
  rw [e3] at hn
  rw [e2]
  generalize (if k < ys.length then ys.getD k 0 else 0) = y at *
  generalize os.getD (i + k) 0 = o at *
  generalize xs.getD i 0 = x at *
  generalize n % 65536 = r at *
  generalize n / 65536 = q at *
  rw [pw_add] at *
  generalize pw i = p at *
  generalize pw k = s at *
  generalize val (ys.take k) = z at *
  generalize val (xs.take i) * val ys = u at *
  grind
theorem MulIn.done {xs ys : List Int} {i k : Nat} {os : List Int} (h : MulIn xs ys i k 0 os) (hi : i < xs.length) (hk : ¬ k < ys.length) : MulIn xs ys (i + 1) 0 0 os := by
  obtain ⟨h1, h2, h3, h4⟩ := h
  refine ⟨h1, h2, by omega, ?_⟩
  rw [List.take_of_length_le (show ys.length ≤ k by omega)] at h4
  rw [val_take_succ xs i hi]
  simp [val] at *
  grind
theorem MulIn.start (xs ys : List Int) : MulIn xs ys 0 0 0 (List.replicate (xs.length + ys.length + 1) 0) :=
  ⟨Dgs.zeros _, by simp, by omega, by rw [val_zeros]; simp [val]⟩

/-- what the loops of Mul keep in memory -/
def MulMem (w : World) (os : List Int) (wr : World) : Prop := Row wr w.heap.size .u64 100 os ∧ Below w.heap.size w wr

def TwoPost' (n : Int) (L : Nat) (w : World) (e : Ending) (w' : World) : Prop :=
  ∃ v ds, e = .returned v ∧ Own w.heap.size w' v ds ∧ Hid (Norm ds ∧ val ds = n ∧ ds.length ≤ L) ∧ Below w.heap.size w w'

theorem Row.own {w : World} {g : Nat} {ds : List Int} {B : Nat} (h : Row w g .u64 100 ds) (hB : B ≤ g) (hm : ds.length ≤ maxLen) : Own B w (.slice (some ⟨g, 0, none⟩) ds.length ds.length) ds := by
  unfold Row at h
  unfold Own World.ownsRow
  exact ⟨by simp, Or.inr ⟨g, ds.length, _, rfl, hB, h, Nat.le_refl _, hm, by simp, by simp [List.take_of_length_le]⟩⟩

theorem MulMem.step {w wr : World} {os : List Int} (h : MulMem w os wr) (j : Nat) (x : Int) (n : Nat) : MulMem w (os.set j x) ((wr.drewN n).setCell ⟨w.heap.size, j, none⟩ (.int .u64 x)) :=
  ⟨(h.1.drewN n).set j x, (below_drewN h.2).setCell (Nat.le_refl _) _⟩
theorem MulMem.step0 {w wr : World} {os : List Int} (h : MulMem w os wr) (j : Nat) (x : Int) : MulMem w (os.set j x) (wr.setCell ⟨w.heap.size, j, none⟩ (.int .u64 x)) :=
  ⟨h.1.set j x, h.2.setCell (Nat.le_refl _) _⟩

theorem rmul (xs ys : List Int) (u v : Value) (w : World) (hx : Dgs xs) (hy : Dgs ys) (hl : xs.length ≤ 1000) (hl' : ys.length ≤ 1000) (hu : Dig w u xs) (hv : Dig w v ys) :
    Calls Try.prog 68 #[u, v] w (TwoPost' (val xs * val ys) (xs.length + ys.length + 1) w) := by
  obtain ⟨a, cap, rfl, -, -, h⟩ := hu
  obtain ⟨a', cap', rfl, -, -, h'⟩ := hv
  have hmk := run_make_row' (P := Try.prog) 112 100 (.int .u64 0) 8 Try.underlying112 Try.info100 rfl .i64 .i64 (xs.length + ys.length + 1) (by omega) (by omega)
  have en : ((xs.length + ys.length + 1 : Nat) : Int) = (xs.length : Int) + ys.length + 1 := by omega
  rw [en] at hmk
  clear en
  have HX : Hid (Dgs xs) := hx
  have HY : Hid (Dgs ys) := hy
  have H : Hid _ := h
  have H' : Hid _ := h'
  clear h h' hx hy
  go_enter Try.func68, Try.ntmps68
  go_wp2
  go_loopw [6] (fun i wr => ∃ (k : Nat) (os : List Int), k ≤ xs.length ∧ i = .int .i64 k ∧ Hid (MulIn xs ys k 0 0 os) ∧ Hid (MulMem w os wr))
    (fun i _ => xs.length - (intOf i).toNat)
  case atStart =>
    refine ⟨0, _, by omega, rfl, MulIn.start xs ys, ?_, Below.alloc (Below.refl _ _) (Nat.le_refl _) _⟩
    rw [made_zeros]
    exact Row.new w _ .u64 100
  case round =>
    obtain ⟨i, os, hi, rfl, hs, hm⟩ := hrel
    go_wp2_with fail
    · have hlt : i < xs.length := by assumption
      obtain ⟨wo, rfl⟩ : ∃ wo : World, wo = wr := ⟨_, rfl⟩
      go_loopw [7, 8] (fun ci ki wr => ∃ (k : Nat) (c : Int) (os : List Int), k ≤ ys.length + 1 ∧ ki = .int .i64 k ∧ ci = .int .u64 c ∧ (0 ≤ c ∧ c ≤ 65535) ∧ Hid (MulIn xs ys i k c os) ∧ Hid (MulMem w os wr))
        (fun _ ki _ => ys.length + 5 - (intOf ki).toNat)
      case atStart => exact ⟨0, 0, os, by omega, rfl, rfl, by omega, hs, hm⟩
      case round =>
        clear hs hm
        obtain ⟨k, c, os, hk, rfl, rfl, bc, hs, hm⟩ := hrel
        have hxd := HX.out.get i
        by_cases hky : k < ys.length
        · obtain ⟨g1, e1, hb1, hc1⟩ := H.out (by intro e; subst e; simp at hlt)
          obtain ⟨g2, e2, hb2, hc2⟩ := H'.out (by intro e; subst e; simp at hky)
          have hcx := (hm.out.2.cell (p := ⟨g1, i, none⟩) hb1).trans (hc1 i hlt)
          have hcy := (hm.out.2.cell (p := ⟨g2, k, none⟩) hb2).trans (hc2 k hky)
          have hco := hm.out.1.cell (i + k) (by rw [hs.out.2.1]; omega)
          have hfo := hm.out.1.frozen (i + k)
          have hyd := HY.out.get k
          have hod := hs.out.1.get (i + k)
          have hst := MulIn.step hs.out hlt (by omega) _ rfl
          rw [if_pos hky] at hst
          generalize hxi : xs.getD i 0 = x at hcx hxd hst
          generalize hyk : ys.getD k 0 = y at hcy hyd hst
          generalize hok : os.getD (i + k) 0 = o at hco hod hst
          have hprod : 0 ≤ x * y ∧ x * y ≤ 4294836225 := ⟨Int.mul_nonneg hxd.1 hyd.1, by
            have := Int.mul_le_mul (show x ≤ 65535 by omega) (show y ≤ 65535 by omega) hyd.1 (by omega)
            omega⟩
          have Hst : Hid _ := hst
          have hik : (i : Int) + k < xs.length + ys.length + 1 := by omega
          clear hst hxi hyk hok hc1 hc2
          have hky' : (k : Int) < ys.length := by omega
          have hlt' : (i : Int) < xs.length := by omega
          subst e1 e2
          go_wp2
          go_quiet (fail)
          go_wp2
          exact ⟨⟨k + 1, _, _, by omega, by go_num, rfl, by omega, Hst.out, MulMem.step hm.out _ _ _⟩, by simp [intOf]; omega⟩
        · have hky' : ¬ (k : Int) < ys.length := by omega
          have hkb : decide ((k : Int) < ys.length) = false := by simp; omega
          by_cases hc0 : c = 0
          · subst hc0
            have hdn := MulIn.done hs.out hlt hky
            have Hdn : Hid _ := hdn
            clear hdn hs
            go_wp2
            exact ⟨⟨i + 1, os, by omega, by go_num, Hdn.out, hm⟩, by simp [intOf]; omega⟩
          · have hc1 : 0 < c := by omega
            have hkl := MulIn.bound hs.out HX.out HY.out hlt hc1
            have hco := hm.out.1.cell (i + k) (by rw [hs.out.2.1]; omega)
            have hfo := hm.out.1.frozen (i + k)
            have hod := hs.out.1.get (i + k)
            have hst := MulIn.step hs.out hlt hkl _ rfl
            rw [if_neg hky] at hst
            generalize hok : os.getD (i + k) 0 = o at hco hod hst
            rw [Int.add_zero] at hst
            have Hst : Hid _ := hst
            have hik : (i : Int) + k < xs.length + ys.length + 1 := by omega
            clear hst hok
            go_wp2
            exact ⟨⟨k + 1, _, _, by omega, by go_num, rfl, by omega, Hst.out, MulMem.step0 hm.out _ _⟩, by simp [intOf]; omega⟩
    · obtain rfl : i = xs.length := by omega
      obtain ⟨hm1, hm2⟩ := hm.out
      have hlen := hs.out.2.1
      have hown := Row.own (B := w.heap.size) hm1 (Nat.le_refl _) (by unfold maxLen; omega)
      rw [hlen] at hown
      refine (rtrim w.heap.size os _ _ hown (by omega)).mono ?_
      rintro e w4 ⟨v4, rfl, ho4, rfl⟩
      have Ho4 : Hid _ := ho4
      have Hm2 : Hid _ := hm2
      clear ho4 hm1 hm2 hown
      go_wp2
      go_ret
      refine ⟨v4, _, rfl, Ho4.out, ⟨trimL_norm _ hs.out.1, ?_, ?_⟩, Hm2.out⟩
      · have h8 := hs.out.2.2.2
        rw [trimL_val]
        rw [List.take_length] at h8
        simp [val] at h8
        exact h8
      · have := trimL_le os; omega
end Go.Proofs.Ytpdlbbglbbmjmaa.N1
