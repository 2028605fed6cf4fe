/- layer 17: the stable sort, as numbers -/
import Derived.Test.YtheikjjehidagaaRows
import Derived.Sort.LotA
import Derived.Sort.Lot0
import Derived.WalkKit
namespace Go.Proofs.Ytheikjjehidagaa.SS
open Go.RowKit
set_option linter.unusedVariables false
set_option linter.unusedSimpArgs false
open Go.Sort
set_option linter.unusedSectionVars false
variable {α : Type} [Inhabited α]
/-- an order made strict by a place -/
def lex (lt : α → α → Bool) (x y : α × Nat) : Bool := lt x.1 y.1 || (!lt y.1 x.1 && decide (x.2 < y.2))
def lt1 (lt : α → α → Bool) (x y : α × Nat) : Bool := lt x.1 y.1
theorem lex_false {lt : α → α → Bool} {x y : α × Nat} : lex lt x y = false ↔ lt x.1 y.1 = false ∧ (lt y.1 x.1 = true ∨ y.2 ≤ x.2) := by
  unfold lex
  cases h1 : lt x.1 y.1 <;> cases h2 : lt y.1 x.1 <;> simp
theorem lex_true {lt : α → α → Bool} {x y : α × Nat} : lex lt x y = true ↔ lt x.1 y.1 = true ∨ (lt y.1 x.1 = false ∧ x.2 < y.2) := by
  unfold lex
  cases h1 : lt x.1 y.1 <;> cases h2 : lt y.1 x.1 <;> simp
theorem lex_lt {lt : α → α → Bool} {x y : α × Nat} (h : y.2 ≤ x.2) : lex lt x y = lt x.1 y.1 := by
  unfold lex
  rw [decide_eq_false (by omega), Bool.and_false, Bool.or_false]
theorem asym {lt : α → α → Bool} (hS : SWO lt) {x y : α} (h : lt x y = true) : lt y x = false := by
  cases h2 : lt y x with
  | false => rfl
  | true => have := hS.trans x y x h h2; rw [hS.irrefl] at this; cases this
theorem lex_swo {lt : α → α → Bool} (hS : SWO lt) : SWO (lex lt) where
  irrefl := fun x => lex_false.2 ⟨hS.irrefl _, .inr (Nat.le_refl _)⟩
  trans := fun x y z h1 h2 => by
    rw [lex_true] at h1 h2 ⊢
    rcases h1 with h1 | ⟨h1, h1'⟩
    · rcases h2 with h2 | ⟨h2, h2'⟩
      · exact .inl (hS.trans _ _ _ h1 h2)
      · cases h3 : lt x.1 z.1 with
        | true => exact .inl rfl
        | false => have := hS.ntrans _ _ _ h3 h2; rw [h1] at this; cases this
    · rcases h2 with h2 | ⟨h2, h2'⟩
      · cases h3 : lt x.1 z.1 with
        | true => exact .inl rfl
        | false => have := hS.ntrans _ _ _ h1 h3; rw [h2] at this; cases this
      · exact .inr ⟨hS.ntrans _ _ _ h2 h1, by omega⟩
  ntrans := fun x y z h1 h2 => by
    rw [lex_false] at h1 h2 ⊢
    refine ⟨hS.ntrans _ _ _ h1.1 h2.1, ?_⟩
    cases h3 : lt z.1 x.1 with
    | true => exact .inl rfl
    | false =>
      refine .inr ?_
      rcases h1.2 with h4 | h4
      · have := hS.ntrans _ _ _ h2.1 h3; rw [h4] at this; cases this
      · rcases h2.2 with h5 | h5
        · have := hS.ntrans _ _ _ h3 h1.1; rw [h5] at this; cases this
        · omega
abbrev El (α : Type) := α × Nat
/-- places by rising numbers -/
def Cr (d : Array (El α)) (a m b : Nat) : Prop := ∀ i j, a ≤ i → i < m → m ≤ j → j < b → d[i]!.2 < d[j]!.2
theorem insInner_lex {lt : α → α → Bool} (a : Nat) : ∀ (j : Nat) (d : Array (El α)), j < d.size → (∀ p, a ≤ p → p < j → d[p]!.2 < d[j]!.2) → insInner (lt1 lt) a j d = insInner (lex lt) a j d
  | 0, d, _, _ => rfl
  | j + 1, d, hs, h => by
    unfold insInner
    by_cases ha : j + 1 > a
    · have h1 := h j (by omega) (by omega)
      rw [lex_lt (lt := lt) (x := d[j + 1]!) (y := d[j]!) (by omega)]
      show (if (decide (j + 1 > a) && lt d[j + 1]!.1 d[j]!.1) = true then _ else _) = _
      split
      · refine insInner_lex a j _ (by rw [swp_size]; omega) fun p hp hpj => ?_
        rw [swp_get d hs (by omega), swp_get d hs (by omega), if_neg (by omega), if_neg (by omega), if_pos rfl]
        exact h p hp (by omega)
      · rfl
    · have h0 : decide (j + 1 > a) = false := decide_eq_false ha
      rw [h0, Bool.false_and, Bool.false_and]
      simp
theorem ins_start {lt : El α → El α → Bool} {a i : Nat} {d : Array (El α)} (h : SortedIn lt a i d) : Ins lt a i i d := ⟨fun p q hp hpq hq _ hqi => h p q hp hpq (by omega), fun q h1 h2 => by omega⟩
theorem insOuter_lex {lt : α → α → Bool} (hS : SWO lt) (a b : Nat) : ∀ (n i : Nat) (d : Array (El α)), b - i = n → a < i → b ≤ d.size → SortedIn (lex lt) a i d → (∀ p q, a ≤ p → p < q → i ≤ q → q < b → d[p]!.2 < d[q]!.2) → insOuter (lt1 lt) a b i d = insOuter (lex lt) a b i d
  | 0, i, d, hn, _, hb, _, _ => by
    unfold insOuter
    rw [if_neg (by omega), if_neg (by omega)]
  | n + 1, i, d, hn, hai, hb, hs, h => by
    have hib : i < b := by omega
    unfold insOuter
    rw [if_pos hib, if_pos hib, insInner_lex a i d (by omega) (fun p hp hpi => h p i hp hpi (Nat.le_refl _) hib)]
    have hsp := insInner_spec (lex_swo hS) swp_permIn permIn_refl permIn_trans a (i + 1) i (by omega) i d (by omega) (Nat.le_refl _) (by omega) (ins_start hs)
    obtain ⟨hp, hso⟩ := hsp
    generalize insInner (lex lt) a i d = d2 at *
    have ho : ∀ q, i + 1 ≤ q → d2[q]! = d[q]! := fun q hq => hp.2.1 q (.inr hq)
    refine insOuter_lex hS a b n (i + 1) d2 (by omega) (by omega) (by rw [hp.1]; exact hb) hso fun p q hap hpq hiq hqb => ?_
    rw [ho q hiq]
    by_cases hpi : p < i + 1
    · exact permIn_all d d2 a (i + 1) (fun x => x.2 < d[q]!.2) (by omega) hp (fun t h1 h2 => h t q h1 (by omega) (by omega) hqb) p hap hpi
    · rw [ho p (by omega)]
      exact h p q hap hpq (by omega) hqb
/-- a block is sorted in the order of the places, too -/
theorem ins_lex {lt : α → α → Bool} (hS : SWO lt) (d : Array (El α)) (a b : Nat) (hab : a ≤ b) (hb : b ≤ d.size) (h : ∀ p q, a ≤ p → p < q → q < b → d[p]!.2 < d[q]!.2) : PermIn a b d (insertionSort (lt1 lt) d a b) ∧ SortedIn (lex lt) a b (insertionSort (lt1 lt) d a b) := by
  have e : insertionSort (lt1 lt) d a b = insertionSort (lex lt) d a b := insOuter_lex hS a b (b - (a + 1)) (a + 1) d rfl (by omega) hb (fun i j h1 h2 h3 => by omega) (fun p q h1 h2 _ h4 => h p q h1 h2 h4)
  rw [e]
  exact insertionSort_holds (lex_swo hS) d a b hab hb
/-- what a search by halves finds -/
def Fnd (Q : Nat → Prop) (lo hi s : Nat) : Prop := lo ≤ s ∧ s ≤ hi ∧ (lo < s → Q (s - 1)) ∧ (s < hi → ¬ Q s)
/-- two runs, the first one ahead -/
structure Runs (lt : α → α → Bool) (a m b : Nat) (d : Array (El α)) : Prop where
  l : SortedIn (lex lt) a m d
  r : SortedIn (lex lt) m b d
  c : Cr d a m b
def SmP (lt : α → α → Bool) (a m b : Nat) (d d' : Array (El α)) : Prop := PermIn a b d d' ∧ (Runs lt a m b d → SortedIn (lex lt) a b d')
theorem cmp_lr {lt : α → α → Bool} {x y : El α} (h : x.2 < y.2) : lex lt y x = lt y.1 x.1 := lex_lt (by omega)
theorem le_of_lt {lt : α → α → Bool} (hS : SWO lt) {x y : El α} (h : lex lt x y = true) : lex lt y x = false := asym (lex_swo hS) h
theorem si_sub {lt : El α → El α → Bool} {a b a' b' : Nat} {d : Array (El α)} (h : SortedIn lt a b d) (h1 : a ≤ a') (h2 : b' ≤ b) : SortedIn lt a' b' d := fun i j hi hij hj => h i j (by omega) hij (by omega)
theorem si_le {lt : α → α → Bool} (hS : SWO lt) {a b : Nat} {d : Array (El α)} (h : SortedIn (lex lt) a b d) {i j : Nat} (h1 : a ≤ i) (h2 : i ≤ j) (h3 : j < b) : lex lt d[j]! d[i]! = false := by
  rcases Nat.lt_or_eq_of_le h2 with h4 | rfl
  · exact h i j h1 h4 h3
  · exact (lex_swo hS).irrefl _
/-- one row put ahead of a place in the second run -/
def Up (a s : Nat) (d d' : Array (El α)) : Prop := d'.size = d.size ∧ ∀ t, d'[t]! = if a ≤ t ∧ t + 1 < s then d[t + 1]! else if t + 1 = s then d[a]! else d[t]!
def Down (i m : Nat) (d d' : Array (El α)) : Prop := d'.size = d.size ∧ ∀ t, d'[t]! = if t = i then d[m]! else if i < t ∧ t ≤ m then d[t - 1]! else d[t]!
theorem one_left {lt : α → α → Bool} (hS : SWO lt) {a b s : Nat} {d d' : Array (El α)} (hf : Fnd (fun h => lt d[h]!.1 d[a]!.1 = true) (a + 1) b s) (hu : Up a s d d') (hr : Runs lt a (a + 1) b d) : SortedIn (lex lt) a b d' := by
  obtain ⟨h1, h2, h3, h4⟩ := hf
  intro i j hi hij hj
  rw [hu.2 i, hu.2 j]
  have lo : ∀ x, a + 1 ≤ x → x < s → lex lt d[a]! d[x]! = false := fun x hx1 hx2 => by
    have hq := h3 (by omega)
    have hc : lex lt d[s - 1]! d[a]! = true := by rw [cmp_lr (hr.c a (s - 1) (Nat.le_refl _) (by omega) (by omega) (by omega))]; exact hq
    have hx := si_le hS hr.r (i := x) (j := s - 1) hx1 (by omega) (by omega)
    exact (lex_swo hS).ntrans _ _ _ (le_of_lt hS hc) hx
  have hi' : ∀ x, s ≤ x → x < b → lex lt d[x]! d[a]! = false := fun x hx1 hx2 => by
    have hq := h4 (by omega)
    have hc : lex lt d[s]! d[a]! = false := by rw [cmp_lr (hr.c a s (Nat.le_refl _) (by omega) (by omega) (by omega))]; simpa using hq
    exact (lex_swo hS).ntrans _ _ _ (si_le hS hr.r (i := s) (j := x) (by omega) hx1 hx2) hc
  by_cases c1 : a ≤ i ∧ i + 1 < s
  · rw [if_pos c1]
    by_cases c2 : a ≤ j ∧ j + 1 < s
    · rw [if_pos c2]; exact hr.r (i + 1) (j + 1) (by omega) (by omega) (by omega)
    · rw [if_neg c2]
      by_cases c3 : j + 1 = s
      · rw [if_pos c3]; exact lo _ (by omega) (by omega)
      · rw [if_neg c3]; exact hr.r (i + 1) j (by omega) (by omega) hj
  · rw [if_neg c1, if_neg (show ¬ (a ≤ j ∧ j + 1 < s) by omega)]
    by_cases c3 : i + 1 = s
    · rw [if_pos c3, if_neg (by omega)]; exact hi' _ (by omega) hj
    · rw [if_neg c3, if_neg (by omega)]; exact hr.r i j (by omega) hij hj
theorem one_right {lt : α → α → Bool} (hS : SWO lt) {a m s : Nat} {d d' : Array (El α)} (hf : Fnd (fun h => lt d[m]!.1 d[h]!.1 = false) a m s) (hu : Down s m d d') (hr : Runs lt a m (m + 1) d) : SortedIn (lex lt) a (m + 1) d' := by
  obtain ⟨h1, h2, h3, h4⟩ := hf
  intro i j hi hij hj
  rw [hu.2 i, hu.2 j]
  have lo : ∀ x, a ≤ x → x < s → lex lt d[m]! d[x]! = false := fun x hx1 hx2 => by
    have hq := h3 (by omega)
    have hc : lex lt d[m]! d[s - 1]! = false := by rw [cmp_lr (hr.c (s - 1) m (by omega) (by omega) (by omega) (by omega))]; exact hq
    exact (lex_swo hS).ntrans _ _ _ hc (si_le hS hr.l (i := x) (j := s - 1) hx1 (by omega) (by omega))
  have hi' : ∀ x, s ≤ x → x < m → lex lt d[x]! d[m]! = false := fun x hx1 hx2 => by
    have hq := h4 (by omega)
    have hc : lex lt d[m]! d[s]! = true := by rw [cmp_lr (hr.c s m (by omega) (by omega) (by omega) (by omega))]; simpa using hq
    exact (lex_swo hS).ntrans _ _ _ (si_le hS hr.l (i := s) (j := x) (by omega) hx1 hx2) (le_of_lt hS hc)
  by_cases c1 : i = s
  · rw [if_pos c1, if_neg (by omega), if_pos (by omega)]; exact hi' _ (by omega) (by omega)
  · rw [if_neg c1]
    by_cases c2 : s < i ∧ i ≤ m
    · rw [if_pos c2, if_neg (by omega), if_pos (by omega)]; exact hr.l (i - 1) (j - 1) (by omega) (by omega) (by omega)
    · rw [if_neg c2]
      by_cases c3 : j = s
      · rw [if_pos c3]; exact lo _ (by omega) (by omega)
      · rw [if_neg c3]
        by_cases c4 : s < j ∧ j ≤ m
        · rw [if_pos c4]; exact hr.l i (j - 1) (by omega) (by omega) (by omega)
        · rw [if_neg c4]; exact hr.l i j (by omega) hij (by omega)
/-- m - s rows, and e - m behind them, change places -/
def Rot (s m e : Nat) (d d' : Array (El α)) : Prop := d'.size = d.size ∧ ∀ t, d'[t]! = if s ≤ t ∧ t < s + (e - m) then d[t + (m - s)]! else if s + (e - m) ≤ t ∧ t < e then d[t - (e - m)]! else d[t]!
theorem Rot.none {s m e : Nat} {d : Array (El α)} (h : ¬ (s < m ∧ m < e)) (h1 : s ≤ m) (h2 : m ≤ e) : Rot s m e d d := by
  refine ⟨rfl, fun t => ?_⟩
  split
  · rw [show m - s = 0 by omega]; rfl
  · split
    · rw [show e - m = 0 by omega]; rfl
    · rfl
/-- the halves of two runs -/
structure Hlf (lt : α → α → Bool) (a s mid e b : Nat) (d : Array (El α)) : Prop where
  x : Runs lt a s mid d
  y : Runs lt mid e b d
  z : ∀ i j, a ≤ i → i < mid → mid ≤ j → j < b → lex lt d[j]! d[i]! = false
theorem halves {lt : α → α → Bool} (hS : SWO lt) {a m b mid n lo hi s : Nat} {d d' : Array (El α)} (ham : a < m) (hmb : m < b) (hmid : mid = (a + b) / 2) (hn : n = mid + m)
    (hlo : (m > mid ∧ lo + b = n ∧ hi = mid) ∨ (m ≤ mid ∧ lo = a ∧ hi = m)) (hf : Fnd (fun c => lt d[n - 1 - c]!.1 d[c]!.1 = false) lo hi s) (hr : Rot s m (n - s) d d') (h : Runs lt a m b d) : Hlf lt a s mid (n - s) b d' := by
  obtain ⟨h1, h2, h3, h4⟩ := hf
  obtain ⟨e, he⟩ : ∃ e, e = n - s := ⟨_, rfl⟩
  rw [← he] at hr ⊢
  have hsm : s ≤ m := by omega
  have hme : m ≤ e := by omega
  have heb : e ≤ b := by omega
  have has : a ≤ s := by omega
  have hse : s + (e - m) = mid := by omega
  have hg := hr.2
  rw [hse] at hg
  have g1 : ∀ t, t < s → d'[t]! = d[t]! := fun t ht => by rw [hg, if_neg (by omega), if_neg (by omega)]
  have g2 : ∀ t, s ≤ t → t < mid → d'[t]! = d[t + (m - s)]! := fun t h1 h2 => by rw [hg, if_pos ⟨h1, h2⟩]
  have g3 : ∀ t, mid ≤ t → t < e → d'[t]! = d[t - (e - m)]! := fun t h1 h2 => by rw [hg, if_neg (by omega), if_pos ⟨h1, h2⟩]
  have g4 : ∀ t, e ≤ t → d'[t]! = d[t]! := fun t ht => by rw [hg, if_neg (by omega), if_neg (by omega)]
  have lr : ∀ x y, a ≤ x → x < s → e ≤ y → y < b → lex lt d[y]! d[x]! = false := fun x y hx1 hx2 hy1 hy2 => by
    have hq := h3 (by omega)
    simp only at hq
    rw [show n - 1 - (s - 1) = e by omega] at hq
    have hc : lex lt d[e]! d[s - 1]! = false := by rw [cmp_lr (h.c (s - 1) e (by omega) (by omega) (by omega) (by omega))]; exact hq
    exact (lex_swo hS).ntrans _ _ _ ((lex_swo hS).ntrans _ _ _ (si_le hS h.r (i := e) (j := y) (by omega) hy1 hy2) hc) (si_le hS h.l (i := x) (j := s - 1) hx1 (by omega) (by omega))
  have rl : ∀ x y, m ≤ x → x < e → s ≤ y → y < m → lex lt d[y]! d[x]! = false := fun x y hx1 hx2 hy1 hy2 => by
    have hq := h4 (by omega)
    simp only at hq
    rw [show n - 1 - s = e - 1 by omega] at hq
    have hc : lex lt d[e - 1]! d[s]! = true := by rw [cmp_lr (h.c s (e - 1) (by omega) (by omega) (by omega) (by omega))]; simpa using hq
    exact (lex_swo hS).ntrans _ _ _ ((lex_swo hS).ntrans _ _ _ (si_le hS h.l (i := s) (j := y) (by omega) hy1 hy2) (le_of_lt hS hc)) (si_le hS h.r (i := x) (j := e - 1) hx1 (by omega) (by omega))
  refine ⟨⟨?_, ?_, ?_⟩, ⟨?_, ?_, ?_⟩, ?_⟩
  · intro i j hi hij hj
    rw [g1 i (by omega), g1 j hj]
    exact h.l i j hi hij (by omega)
  · intro i j hi hij hj
    rw [g2 i hi (by omega), g2 j (by omega) hj]
    exact h.r _ _ (by omega) (by omega) (by omega)
  · intro i j hi his hj hjm
    rw [g1 i his, g2 j hj hjm]
    exact h.c _ _ hi (by omega) (by omega) (by omega)
  · intro i j hi hij hj
    rw [g3 i hi (by omega), g3 j (by omega) hj]
    exact h.l _ _ (by omega) (by omega) (by omega)
  · intro i j hi hij hj
    rw [g4 i hi, g4 j (by omega)]
    exact h.r _ _ (by omega) hij hj
  · intro i j hi his hj hjm
    rw [g3 i hi his, g4 j hj]
    exact h.c _ _ (by omega) (by omega) (by omega) hjm
  · intro i j hi him hj hjb
    by_cases c1 : i < s
    · rw [g1 i c1]
      by_cases c2 : j < e
      · rw [g3 j hj c2]; exact h.l _ _ hi (by omega) (by omega)
      · rw [g4 j (by omega)]; exact lr _ _ hi c1 (by omega) hjb
    · rw [g2 i (by omega) him]
      by_cases c2 : j < e
      · rw [g3 j hj c2]; exact rl _ _ (by omega) (by omega) (by omega) (by omega)
      · rw [g4 j (by omega)]; exact h.r _ _ (by omega) (by omega) hjb
theorem permIn_wide {a b a' b' : Nat} {d d' : Array (El α)} (h1 : a' ≤ a) (h2 : a ≤ b) (h3 : b ≤ b') (hb : b' ≤ d.size) (h : PermIn a b d d') : PermIn a' b' d d' := by
  refine ⟨h.1, fun i hi => h.2.1 i (by omega), ?_⟩
  have hb' : b' ≤ d'.size := by rw [h.1]; exact hb
  have hsp : ∀ e : Array (El α), b' ≤ e.size → (e.extract a' b').toList = (List.range' a' (a - a')).map (fun i => e[i]!) ++ (e.extract a b).toList ++ (List.range' b (b' - b)).map (fun i => e[i]!) := fun e he => by
    rw [extract_toList e a' b' he, extract_toList e a b (by omega), ← List.map_append, ← List.map_append]
    congr 1
    rw [show List.range' a (b - a) = List.range' (a' + 1 * (a - a')) (b - a) by congr 1; omega, List.range'_append, show List.range' b (b' - b) = List.range' (a' + 1 * (a - a' + (b - a))) (b' - b) by congr 1; omega, List.range'_append]
    congr 1
    omega
  rw [hsp d' hb', hsp d hb]
  have e1 : (List.range' a' (a - a')).map (fun i => d'[i]!) = (List.range' a' (a - a')).map (fun i => d[i]!) := List.map_congr_left fun i hi => h.2.1 i (by have := List.mem_range'_1.1 hi; omega)
  have e2 : (List.range' b (b' - b)).map (fun i => d'[i]!) = (List.range' b (b' - b)).map (fun i => d[i]!) := List.map_congr_left fun i hi => h.2.1 i (by have := List.mem_range'_1.1 hi; omega)
  rw [e1, e2]
  exact (h.2.2.append_left _).append_right _
/-- what holds of all places of a part -/
theorem all_in {a b : Nat} {d d' : Array (El α)} (h : PermIn a b d d') (hb : b ≤ d.size) {p : El α → Prop} (hp : ∀ i, a ≤ i → i < b → p d[i]!) {i : Nat} (h1 : a ≤ i) (h2 : i < b) : p d'[i]! := permIn_all d d' a b p hb h hp i h1 h2
/-- both halves merged: all merged -/
theorem merged {lt : α → α → Bool} {a s mid e b : Nat} {d d1 d2 : Array (El α)} (hb : b ≤ d.size) (has : a ≤ s) (hsm : s ≤ mid) (hme : mid ≤ e) (heb : e ≤ b) (h1 : PermIn a mid d d1) (h2 : PermIn mid b d1 d2) (hz : Hlf lt a s mid e b d)
    (k1 : SortedIn (lex lt) a mid d1) (k2 : SortedIn (lex lt) mid b d2) : SortedIn (lex lt) a b d2 := by
  have o2 : ∀ t, t < mid → d2[t]! = d1[t]! := fun t ht => h2.2.1 t (.inl ht)
  have o1 : ∀ t, mid ≤ t → d1[t]! = d[t]! := fun t ht => h1.2.1 t (.inr ht)
  intro i j hi hij hj
  by_cases c1 : j < mid
  · rw [o2 i (by omega), o2 j c1]; exact k1 i j hi hij c1
  · by_cases c2 : mid ≤ i
    · exact k2 i j c2 hij hj
    · rw [o2 i (by omega)]
      refine all_in h2 (by rw [h1.1]; exact hb) (p := fun y => lex lt y d1[i]! = false) (fun y hy1 hy2 => ?_) (by omega) hj
      rw [o1 y hy1]
      exact all_in h1 (by omega) (p := fun x => lex lt d[y]! x = false) (fun x hx1 hx2 => hz.z x y hx1 hx2 hy1 hy2) hi (by omega)
/-- Runs of the second half stay while the first is merged -/
theorem Runs.other {lt : α → α → Bool} {a b x m y : Nat} {d d1 : Array (El α)} (h : PermIn a b d d1) (hr : Runs lt x m y d) (hx : b ≤ x) (hxm : x ≤ m) : Runs lt x m y d1 := by
  have o : ∀ t, b ≤ t → d1[t]! = d[t]! := fun t ht => h.2.1 t (.inr ht)
  refine ⟨fun i j hi hij hj => ?_, fun i j hi hij hj => ?_, fun i j hi him hj hjb => ?_⟩
  · rw [o i (by omega), o j (by omega)]; exact hr.l i j hi hij hj
  · rw [o i (by omega), o j (by omega)]; exact hr.r i j hi hij hj
  · rw [o i (by omega), o j (by omega)]; exact hr.c i j hi him hj hjb
theorem si_none {lt : α → α → Bool} {a s m : Nat} {d : Array (El α)} (h : ¬ (a < s ∧ s < m)) (h1 : a ≤ s) (h2 : s ≤ m) (hr : Runs lt a s m d) : SortedIn (lex lt) a m d := by
  by_cases e : s = m
  · rw [← e]; exact hr.l
  · rw [show a = s by omega]; exact hr.r
end Go.Proofs.Ytheikjjehidagaa.SS
