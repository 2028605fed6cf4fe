/- Walks of the reference's trim, Two and Compare. Conditions: the numbers lie in their ranges. -/
import Derived.Test.YtpdlbbglbbmjmaaFJ
import Derived.WalkKit
import Derived.ProofKit
import Derived.Handy
import Derived.WalkLawsBesides
import Derived.WalkSpells
import Derived.BigQuiet
import Derived.Deep.QuietTactic
import Derived.Deep.Light
import Derived.Deep.OwnRows
import Derived.Laws.AppendOwnNone
import Derived.Deep.RegionWith
import Derived.Lib.BitFns
import Derived.Lib.Walk
import Derived.Deep.CutBlock
import Derived.Deep.DeepCutAuto
import Derived.Deep.LoopGhost
import Derived.Deep.RegionHeld
namespace Go.Proofs.Ytpdlbbglbbmjmaa.N1
open Go.RowKit
set_option linter.unusedVariables false
set_option linter.unusedSimpArgs false

/-- how many digits are left, without zeros at the end -/
def trimN (ds : List Int) : Nat → Nat
  | 0 => 0
  | k + 1 => if ds.getD k 0 = 0 then trimN ds k else k + 1
def trimL (ds : List Int) : List Int := ds.take (trimN ds ds.length)

theorem trimN_le (ds : List Int) (k : Nat) : trimN ds k ≤ k := by
  induction k with
  | zero => exact Nat.le_refl _
  | succ k ih => unfold trimN; split <;> omega
theorem trim_val (ds : List Int) (k : Nat) (h : k ≤ ds.length) : val (ds.take (trimN ds k)) = val (ds.take k) := by
  induction k with
  | zero => rfl
  | succ k ih =>
    unfold trimN
    split
    · rename_i h0
      rw [ih (by omega), take_getD ds k (by omega), val_append, h0]
      simp [val]
    · rfl
theorem trimL_val (ds : List Int) : val (trimL ds) = val ds := by
  unfold trimL
  rw [trim_val ds ds.length (Nat.le_refl _), List.take_length]
theorem trimN_last (ds : List Int) (k : Nat) : trimN ds k = 0 ∨ ds.getD (trimN ds k - 1) 0 ≠ 0 := by
  induction k with
  | zero => exact Or.inl rfl
  | succ k ih =>
    unfold trimN
    split
    · exact ih
    · exact Or.inr (by simpa using (by assumption))
theorem trimN_zero (ds : List Int) (k : Nat) (h : trimN ds k = 0) : ∀ j, j < k → ds.getD j 0 = 0 := by
  induction k with
  | zero => intro j hj; omega
  | succ k ih =>
    unfold trimN at h
    split at h
    · intro j hj
      by_cases e : j = k
      · subst e; assumption
      · exact ih h j (by omega)
    · omega
theorem trimL_length (ds : List Int) : (trimL ds).length = trimN ds ds.length := by
  have := trimN_le ds ds.length
  unfold trimL
  rw [List.length_take]
  omega
theorem trimL_le (ds : List Int) : (trimL ds).length ≤ ds.length := by
  rw [trimL_length]
  exact trimN_le ds ds.length
theorem trimL_norm (ds : List Int) (h : Dgs ds) : Norm (trimL ds) := by
  refine ⟨h.take _, ?_⟩
  rcases trimN_last ds ds.length with h0 | h0
  · left
    unfold trimL
    rw [h0]
    rfl
  · right
    rw [trimL_length]
    have h1 : trimN ds ds.length - 1 < trimN ds ds.length := by
      rcases Nat.eq_zero_or_pos (trimN ds ds.length) with h2 | h2
      · exfalso
        rw [h2] at h0
        have : ds = [] ∨ 0 < ds.length := by
          cases ds with
          | nil => exact Or.inl rfl
          | cons d ds => exact Or.inr (by simp)
        rcases this with rfl | h3
        · exact h0 rfl
        · have h4 := trimN_zero ds ds.length h2 0 h3
          exact h0 h4
      · omega
    unfold trimL
    rw [List.getD_eq_getElem?_getD, List.getElem?_take, if_pos h1, ← List.getD_eq_getElem?_getD]
    exact h0

theorem Own.take {B : Nat} {w : World} {g cap : Nat} {ds : List Int} (h : Own B w (.slice (some ⟨g, 0, none⟩) ds.length cap) ds) (k : Nat) (hk : k ≤ ds.length) : Own B w (.slice (some ⟨g, 0, none⟩) k cap) (ds.take k) := by
  have hl : (ds.take k).length = k := by simp; omega
  unfold Own World.ownsRow at h ⊢
  rcases h.2 with ⟨h1, _⟩ | ⟨g', cap', cur, hv, h2, h3, h4, h5, h6, h7⟩
  · cases h1
  · simp at hv
    obtain ⟨rfl, rfl⟩ := hv
    refine ⟨by simp, Or.inr ⟨g, cap, cur, by rw [hl], h2, h3, by omega, h5, h6, ?_⟩⟩
    rw [hl, List.map_take, ← h7, List.take_take]
    congr 1
    omega

def TrimPost (B : Nat) (ds : List Int) (w : World) (e : Ending) (w' : World) : Prop := ∃ v', e = .returned v' ∧ Own B w v' (trimL ds) ∧ w = w'

theorem rtrim_row (B : Nat) (ds : List Int) (g cap : Nat) (w : World) (h : Own B w (.slice (some ⟨g, 0, none⟩) ds.length cap) ds) (hl : ds.length ≤ 1000000) :
    Calls Try.prog 86 #[.slice (some ⟨g, 0, none⟩) ds.length cap] w (TrimPost B ds w) := by
  obtain ⟨a', cap', hv, hcap, hmax, hcell⟩ := h.dig
  simp at hv
  obtain ⟨rfl, rfl⟩ := hv
  have hcell' : ∀ j, j < ds.length → w.cell? ⟨g, j, none⟩ = some (.int .u64 (ds.getD j 0)) := by
    intro j hj
    obtain ⟨g', e, _, hc⟩ := hcell (by intro e; subst e; simp at hj)
    simp at e
    subst e
    exact hc j hj
  have H : Hid (Own B w (.slice (some ⟨g, 0, none⟩) ds.length cap) ds) := h
  have HC : Hid _ := hcell'
  unfold maxLen at hmax
  clear h hcell hcell'
  go_enter Try.func86, Try.ntmps86
  go_wp2
  go_loop [3] (fun i => ∃ k : Nat, k ≤ ds.length ∧ i = .int .i64 k ∧ Hid (trimN ds ds.length = trimN ds k))
    (fun i => (intOf i).toNat)
  case atStart => exact ⟨ds.length, by omega, rfl, rfl⟩
  case round =>
    obtain ⟨k, hk, rfl, hs⟩ := hrel
    by_cases h0 : k = 0
    · subst h0
      go_wp2
      go_ret
      exact ⟨_, rfl, by rw [trimL, hs.out]; exact Own.take H.out 0 (by omega), rfl⟩
    · obtain ⟨m, rfl⟩ : ∃ m, k = m + 1 := ⟨k - 1, by omega⟩
      have hc := HC.out m (by omega)
      generalize hxk : ds.getD m 0 = x at hc
      have Hx : Hid _ := hxk
      clear hxk
      by_cases hx0 : x = 0
      · have hb : (x == 0) = true := by simp [hx0]
        have HX0 : Hid _ := hx0
        clear hx0
        go_wp2
        refine ⟨⟨m, by omega, rfl, ?_⟩, by simp [intOf]⟩
        have h1 := hs.out
        rw [trimN, if_pos (by rw [Hx.out, HX0.out])] at h1
        exact h1
      · have hb : (x == 0) = false := by simp [hx0]
        go_wp2
        go_ret
        have h1 := hs.out
        rw [trimN, if_neg (by rw [Hx.out]; exact hx0)] at h1
        exact ⟨_, rfl, by rw [trimL, h1]; exact Own.take H.out (m + 1) (by omega), rfl⟩

theorem rtrim (B : Nat) (ds : List Int) (v : Value) (w : World) (h : Own B w v ds) (hl : ds.length ≤ 1000000) : Calls Try.prog 86 #[v] w (TrimPost B ds w) := by
  have h0 := h
  unfold Own World.ownsRow at h0
  rcases h0.2 with ⟨rfl, hn⟩ | ⟨g, cap, cur, rfl, _⟩
  · obtain rfl : ds = [] := List.eq_nil_of_length_eq_zero hn
    clear h0 h
    go_enter Try.func86, Try.ntmps86
    go_wp2
    refine wp_loop_rounds 1 ?_
    rw [rounds_succ]
    go_wp2
    go_ret
    exact ⟨_, rfl, Own.nil _ _, rfl⟩
  · exact rtrim_row B ds g cap w h hl

/-- what Two tells: its digits -/
theorem two_words (hi lo : List Int) (n m : Int) (k : Nat) (h1 : val lo = n) (h2 : val hi = m) (hk : (lo ++ List.replicate k 0).length = 4) : val (lo ++ List.replicate k 0 ++ hi) = wd m n := by
  rw [val_append, val_append, val_zeros, hk, h1, h2]
  simp only [wd]
  have : pw 4 = 18446744073709551616 := by decide
  rw [this]
  omega

theorem len_of_four (ds : List Int) (h : Norm ds) (hv : val ds < 18446744073709551616) : ds.length ≤ 4 := by
  rcases Nat.lt_or_ge ds.length 5 with h1 | h1
  · omega
  · exfalso
    have h2 := val_ge ds h (by intro e; subst e; simp at h1)
    have h3 := pw_big (ds.length - 1) (by omega)
    omega

def sliceLen : Value → Nat
  | .slice _ n _ => n
  | _ => 0

def TwoPost (n : Int) (w : World) (e : Ending) (w' : World) : Prop :=
  ∃ v ds, e = .returned v ∧ Own w.heap.size w' v ds ∧ Hid (Norm ds ∧ val ds = n ∧ ds.length ≤ 8) ∧ Below w.heap.size w w'

/-- what Compare tells -/
def CmpPost (m n : Int) (w : World) (e : Ending) (w' : World) : Prop := ∃ c, e = .returned (.int .i64 c) ∧ (-9223372036854775808 ≤ c ∧ c ≤ 9223372036854775807) ∧ Hid ((c < 0 ↔ m < n) ∧ (c = 0 ↔ m = n)) ∧ ∃ k, w' = w.drewN k

theorem pw_mono {m n : Nat} (h : m ≤ n) : pw m ≤ pw n := by
  obtain ⟨k, rfl⟩ : ∃ k, n = m + k := ⟨n - m, by omega⟩
  rw [pw_add]
  have h1 := pw_pos m
  have h2 := pw_pos k
  have : pw m * 1 ≤ pw m * pw k := Int.mul_le_mul_of_nonneg_left (by omega) (by omega)
  omega
/-- the longer one is the greater one -/
theorem val_shorter (xs ys : List Int) (hx : Norm xs) (hy : Norm ys) (h : xs.length < ys.length) : val xs < val ys := by
  have h1 := val_lt xs hx.1
  have h2 := val_ge ys hy (by intro e; subst e; simp at h)
  have h3 := pw_mono (show xs.length ≤ ys.length - 1 by omega)
  omega
/-- where the digits from k + 1 on are the same, digit k decides -/
theorem val_at (xs ys : List Int) (hx : Dgs xs) (hy : Dgs ys) (he : xs.length = ys.length) (k : Nat) (hk : k < xs.length) (hd : xs.drop (k + 1) = ys.drop (k + 1)) (hlt : xs.getD k 0 < ys.getD k 0) : val xs < val ys := by
  have e1 := val_append (xs.take k) (xs.drop k)
  have e2 := val_append (ys.take k) (ys.drop k)
  rw [List.take_append_drop, List.length_take, val_get xs k hk] at e1
  rw [List.take_append_drop, List.length_take, val_get ys k (by omega)] at e2
  rw [show min k xs.length = k by omega] at e1
  rw [show min k ys.length = k by omega] at e2
  have h1 := val_lt _ (hx.take k)
  have h2 := val_nonneg _ (hy.take k)
  rw [List.length_take, show min k xs.length = k by omega] at h1
  have h3 := pw_pos k
  have h4 : pw k * (xs.getD k 0 + 65536 * val (xs.drop (k + 1)) + 1) ≤ pw k * (ys.getD k 0 + 65536 * val (ys.drop (k + 1))) := Int.mul_le_mul_of_nonneg_left (by rw [hd]; omega) (by omega)
  rw [Int.mul_add, Int.mul_one] at h4
  omega

theorem rcompare_row (xs ys : List Int) (g cap g' cap' : Nat) (w : World) (hx : Norm xs) (hy : Norm ys) (hl : xs.length ≤ 1000000) (he : xs.length = ys.length)
    (hc : ∀ j, j < xs.length → w.cell? ⟨g, j, none⟩ = some (.int .u64 (xs.getD j 0))) (hc' : ∀ j, j < ys.length → w.cell? ⟨g', j, none⟩ = some (.int .u64 (ys.getD j 0))) :
    Calls Try.prog 70 #[.slice (some ⟨g, 0, none⟩) xs.length cap, .slice (some ⟨g', 0, none⟩) xs.length cap'] w (CmpPost (val xs) (val ys) w) := by
  have Hc : Hid _ := hc
  have Hc' : Hid _ := hc'
  have He : Hid _ := he
  have HX : Hid (Norm xs) := hx
  have HY : Hid (Norm ys) := hy
  clear hc hc' he hx hy
  go_enter Try.func70, Try.ntmps70
  go_wp2
  go_loopw [5] (fun i wr => ∃ k n : Nat, k ≤ xs.length ∧ i = .int .i64 ((k : Int) - 1) ∧ wr = w.drewN n ∧ Hid (xs.drop k = ys.drop k))
    (fun i _ => (intOf i + 1).toNat)
  case atStart => exact ⟨xs.length, 0, by omega, rfl, rfl, by show xs.drop xs.length = ys.drop xs.length; rw [List.drop_length, He.out, List.drop_length]⟩
  case round =>
    obtain ⟨k, n, hk, rfl, rfl, hs⟩ := hrel
    by_cases h0 : k = 0
    · subst h0
      go_wp2
      go_ret
      have h1 := hs.out
      rw [List.drop_zero, List.drop_zero] at h1
      exact ⟨0, rfl, by decide, ⟨by rw [h1]; omega, by rw [h1]; simp⟩, _, rfl⟩
    · obtain ⟨m, rfl⟩ : ∃ m, k = m + 1 := ⟨k - 1, by omega⟩
      have ei : ((m + 1 : Nat) : Int) - 1 = (m : Int) := by omega
      rw [ei]
      have hc := Hc.out m (by omega)
      have hc' := Hc'.out m (by rw [← He.out]; omega)
      have hxd := HX.out.1.get m
      have hyd := HY.out.1.get m
      generalize hxk : xs.getD m 0 = x at hc hxd
      generalize hyk : ys.getD m 0 = y at hc' hyd
      have Hx : Hid _ := hxk
      have Hy : Hid _ := hyk
      have hlt : (m : Int) < (xs.length : Int) := by omega
      clear hxk hyk ei
      go_wp2
      go_quiet (fail)
      rcases Int.lt_trichotomy x y with hxy | hxy | hxy
      · go_wp2
        go_ret
        have h1 := val_at xs ys HX.out.1 HY.out.1 He.out m (by omega) hs.out (by rw [Hx.out, Hy.out]; exact hxy)
        exact ⟨-1, rfl, by decide, ⟨by omega, by omega⟩, _, by rw [World.drewN_drewN]⟩
      · subst hxy
        have g1 : decide (x < x) = false := by simp
        go_wp2
        go_quiet (fail)
        go_wp2
        refine ⟨⟨m, _, by omega, rfl, rfl, ?_⟩, by simp [intOf]⟩
        have h1 := hs.out
        show xs.drop m = ys.drop m
        rw [drop_getD xs m (by omega), drop_getD ys m (by rw [← He.out]; omega), h1, Hx.out, Hy.out]
      · have g1 : ¬ x < y := by omega
        go_wp2
        go_quiet (fail)
        go_wp2
        go_ret
        have h1 := val_at ys xs HY.out.1 HX.out.1 He.out.symm m (by rw [← He.out]; omega) hs.out.symm (by rw [Hx.out, Hy.out]; exact hxy)
        exact ⟨1, rfl, by decide, ⟨by omega, by omega⟩, _, by rw [World.drewN_drewN]⟩

theorem rcompare (xs ys : List Int) (u v : Value) (w : World) (hx : Norm xs) (hy : Norm ys) (hl : xs.length ≤ 1000000) (hl' : ys.length ≤ 1000000) (hu : Dig w u xs) (hv : Dig w v ys) :
    Calls Try.prog 70 #[u, v] w (CmpPost (val xs) (val ys) w) := by
  obtain ⟨a, cap, rfl, -, -, h⟩ := hu
  obtain ⟨a', cap', rfl, -, -, h'⟩ := hv
  by_cases he : xs.length = ys.length
  · by_cases h0 : xs = []
    · subst h0
      obtain rfl : ys = [] := List.eq_nil_of_length_eq_zero he.symm
      clear h h' hx hy
      go_enter Try.func70, Try.ntmps70
      go_wp2
      refine wp_loop_rounds 1 ?_
      rw [rounds_succ]
      go_wp2
      go_ret
      exact ⟨0, rfl, by decide, ⟨by omega, by simp⟩, 0, rfl⟩
    · obtain ⟨g, rfl, hb, hc⟩ := h h0
      obtain ⟨g', rfl, hb', hc'⟩ := h' (by intro e; subst e; exact h0 (List.eq_nil_of_length_eq_zero he))
      rw [← he]
      exact rcompare_row xs ys g cap g' cap' w hx hy hl he hc hc'
  · have hn : ((xs.length : Int) != (ys.length : Int)) = true := by simp; omega
    have hs : Hid ((xs.length < ys.length → val xs < val ys) ∧ (ys.length < xs.length → val ys < val xs)) := ⟨val_shorter xs ys hx hy, val_shorter ys xs hy hx⟩
    clear h h' hx hy
    go_enter Try.func70, Try.ntmps70
    go_wp2
    go_ret
    obtain ⟨h1, h2⟩ := hs.out
    refine ⟨(xs.length : Int) - ys.length, rfl, by omega, ⟨?_, ?_⟩, 0, rfl⟩
    · rcases Nat.lt_or_gt_of_ne he with h | h
      · have := h1 h; omega
      · have := h2 h; omega
    · rcases Nat.lt_or_gt_of_ne he with h | h
      · have := h1 h; omega
      · have := h2 h; omega

/-- is(w, b): is the Wide that number? -/
def IsPost (r : Bool) (w : World) (e : Ending) (w' : World) : Prop := e = .returned (.bool r) ∧ Below w.heap.size w w'
end Go.Proofs.Ytpdlbbglbbmjmaa.N1
