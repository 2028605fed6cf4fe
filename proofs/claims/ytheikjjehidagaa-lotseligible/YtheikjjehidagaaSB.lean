/- layer 17: the stable sort, as numbers: exchanges, turns, blocks; one order alone -/
import Derived.Test.YtheikjjehidagaaSA
import Derived.Sort.LotA
import Derived.Sort.Lot0
import Derived.WalkKit
namespace Go.Proofs.Ytheikjjehidagaa.SS
open Go.RowKit
set_option linter.unusedVariables false
set_option linter.unusedSimpArgs false
open Go.Sort
set_option linter.unusedSectionVars false
variable {α : Type} [Inhabited α]
/-- i rows from a on, and from b on, have changed places -/
def Sw (a b i : Nat) (d e : Array (El α)) : Prop := e.size = d.size ∧ ∀ t, e[t]! = if a ≤ t ∧ t < a + i then d[t + (b - a)]! else if b ≤ t ∧ t < b + i then d[t - (b - a)]! else d[t]!
theorem Sw.zero (a b : Nat) (d : Array (El α)) : Sw a b 0 d d := ⟨rfl, fun t => by rw [if_neg (by omega), if_neg (by omega)]⟩
theorem Sw.step {a b i : Nat} {d e : Array (El α)} (h : Sw a b i d e) (h1 : a + i < b) (h2 : b + i < d.size) : Sw a b (i + 1) d (swp e (a + i) (b + i)) := by
  refine ⟨(swp_size e _ _).trans h.1, fun t => ?_⟩
  rw [swp_get e (by rw [h.1]; omega) (by rw [h.1]; omega), h.2, h.2, h.2]
  rw [if_neg (show ¬ (a ≤ a + i ∧ a + i < a + i) by omega), if_neg (show ¬ (b ≤ a + i ∧ a + i < b + i) by omega), if_neg (show ¬ (a ≤ b + i ∧ b + i < a + i) by omega), if_neg (show ¬ (b ≤ b + i ∧ b + i < b + i) by omega)]
  by_cases c1 : t = b + i
  · rw [if_pos c1, if_neg (by omega), if_pos (by omega)]
    congr 1
    omega
  · rw [if_neg c1]
    by_cases c2 : t = a + i
    · rw [if_pos c2, if_pos (by omega)]
      congr 1
      omega
    · rw [if_neg c2]
      by_cases c3 : a ≤ t ∧ t < a + i
      · rw [if_pos c3, if_pos (by omega)]
      · rw [if_neg c3, if_neg (show ¬ (a ≤ t ∧ t < a + (i + 1)) by omega)]
        by_cases c4 : b ≤ t ∧ t < b + i
        · rw [if_pos c4, if_pos (by omega)]
        · rw [if_neg c4, if_neg (by omega)]
/-- what is left to turn -/
def RotI (s m e i j : Nat) (d f : Array (El α)) : Prop := f.size = d.size ∧ (s + i ≤ m ∧ m + j ≤ e ∧ 0 < i ∧ 0 < j) ∧
  ∀ t, (if s ≤ t ∧ t < s + (e - m) then d[t + (m - s)]! else if s + (e - m) ≤ t ∧ t < e then d[t - (e - m)]! else d[t]!) = if m ≤ t + i ∧ t < m + j then (if t + i < m + j then f[t + i]! else f[t - j]!) else f[t]!
theorem RotI.start {s m e : Nat} (d : Array (El α)) (h1 : s < m) (h2 : m < e) : RotI s m e (m - s) (e - m) d d := by
  refine ⟨rfl, by omega, fun t => ?_⟩
  by_cases c1 : s ≤ t ∧ t < s + (e - m)
  · rw [if_pos c1, if_pos (by omega), if_pos (by omega)]
  · rw [if_neg c1]
    by_cases c2 : s + (e - m) ≤ t ∧ t < e
    · rw [if_pos c2, if_pos (by omega), if_neg (by omega)]
    · rw [if_neg c2, if_neg (by omega)]
theorem RotI.left {s m e i j : Nat} {d f g : Array (El α)} (h : RotI s m e i j d f) (hij : j < i) (hs : Sw (m - i) m j f g) : RotI s m e (i - j) j d g := by
  obtain ⟨h0, h1, h2⟩ := h
  refine ⟨hs.1.trans h0, by omega, fun t => ?_⟩
  rw [h2, hs.2, hs.2, hs.2]
  by_cases c1 : m ≤ t + i ∧ t < m + j
  · rw [if_pos c1]
    by_cases c2 : t + i < m + j
    · rw [if_pos c2, if_neg (show ¬ (m ≤ t + (i - j) ∧ t < m + j) by omega), if_pos (show m - i ≤ t ∧ t < m - i + j by omega)]
      congr 1
      omega
    · rw [if_neg c2, if_pos (show m ≤ t + (i - j) ∧ t < m + j by omega)]
      by_cases c3 : t + (i - j) < m + j
      · rw [if_pos c3, if_neg (show ¬ (m - i ≤ t + (i - j) ∧ t + (i - j) < m - i + j) by omega), if_pos (show m ≤ t + (i - j) ∧ t + (i - j) < m + j by omega)]
        congr 1
        omega
      · rw [if_neg c3, if_neg (show ¬ (m - i ≤ t - j ∧ t - j < m - i + j) by omega), if_neg (show ¬ (m ≤ t - j ∧ t - j < m + j) by omega)]
  · rw [if_neg c1, if_neg (show ¬ (m ≤ t + (i - j) ∧ t < m + j) by omega), if_neg (show ¬ (m - i ≤ t ∧ t < m - i + j) by omega), if_neg (show ¬ (m ≤ t ∧ t < m + j) by omega)]
theorem RotI.right {s m e i j : Nat} {d f g : Array (El α)} (h : RotI s m e i j d f) (hij : i < j) (hs : Sw (m - i) (m + j - i) i f g) : RotI s m e i (j - i) d g := by
  obtain ⟨h0, h1, h2⟩ := h
  refine ⟨hs.1.trans h0, by omega, fun t => ?_⟩
  rw [h2, hs.2, hs.2, hs.2]
  by_cases c1 : m ≤ t + i ∧ t < m + j
  · rw [if_pos c1]
    by_cases c2 : t + i < m + j
    · rw [if_pos c2, if_pos (show m ≤ t + i ∧ t < m + (j - i) by omega)]
      by_cases c3 : t + i < m + (j - i)
      · rw [if_pos c3, if_neg (show ¬ (m - i ≤ t + i ∧ t + i < m - i + i) by omega), if_neg (show ¬ (m + j - i ≤ t + i ∧ t + i < m + j - i + i) by omega)]
      · rw [if_neg c3, if_pos (show m - i ≤ t - (j - i) ∧ t - (j - i) < m - i + i by omega)]
        congr 1
        omega
    · rw [if_neg c2, if_neg (show ¬ (m ≤ t + i ∧ t < m + (j - i)) by omega), if_neg (show ¬ (m - i ≤ t ∧ t < m - i + i) by omega), if_pos (show m + j - i ≤ t ∧ t < m + j - i + i by omega)]
      congr 1
      omega
  · rw [if_neg c1, if_neg (show ¬ (m ≤ t + i ∧ t < m + (j - i)) by omega), if_neg (show ¬ (m - i ≤ t ∧ t < m - i + i) by omega), if_neg (show ¬ (m + j - i ≤ t ∧ t < m + j - i + i) by omega)]
theorem RotI.done {s m e i : Nat} {d f g : Array (El α)} (h : RotI s m e i i d f) (hs : Sw (m - i) m i f g) : Rot s m e d g := by
  obtain ⟨h0, h1, h2⟩ := h
  refine ⟨hs.1.trans h0, fun t => ?_⟩
  rw [h2, hs.2]
  by_cases c1 : m ≤ t + i ∧ t < m + i
  · rw [if_pos c1]
    by_cases c2 : t + i < m + i
    · rw [if_pos c2, if_pos (show m - i ≤ t ∧ t < m - i + i by omega)]
      congr 1
      omega
    · rw [if_neg c2, if_neg (show ¬ (m - i ≤ t ∧ t < m - i + i) by omega), if_pos (show m ≤ t ∧ t < m + i by omega)]
      congr 1
      omega
  · rw [if_neg c1, if_neg (show ¬ (m - i ≤ t ∧ t < m - i + i) by omega), if_neg (show ¬ (m ≤ t ∧ t < m + i) by omega)]
theorem Up.start (a : Nat) (d : Array (El α)) : Up a (a + 1) d d := ⟨rfl, fun t => by
  rw [if_neg (by omega)]
  split
  · congr 1; omega
  · rfl⟩
theorem Up.step {a k : Nat} {d e : Array (El α)} (h : Up a (k + 1) d e) (h1 : a ≤ k) (h2 : k + 1 < d.size) : Up a (k + 2) d (swp e k (k + 1)) := by
  refine ⟨(swp_size e _ _).trans h.1, fun t => ?_⟩
  rw [swp_get e (by rw [h.1]; omega) (by rw [h.1]; omega), h.2, h.2, h.2]
  rw [if_neg (show ¬ (a ≤ k ∧ k + 1 < k + 1) by omega), if_pos (show k + 1 = k + 1 from rfl), if_neg (show ¬ (a ≤ k + 1 ∧ k + 1 + 1 < k + 1) by omega), if_neg (show ¬ (k + 1 + 1 = k + 1) by omega)]
  by_cases c1 : t = k + 1
  · rw [if_pos c1, if_neg (by omega), if_pos (by omega)]
  · rw [if_neg c1]
    by_cases c2 : t = k
    · rw [if_pos c2, if_pos (by omega), c2]
    · rw [if_neg c2]
      by_cases c3 : a ≤ t ∧ t + 1 < k + 1
      · rw [if_pos c3, if_pos (by omega)]
      · rw [if_neg c3, if_neg (by omega), if_neg (by omega), if_neg (by omega)]
theorem Down.start (m : Nat) (d : Array (El α)) : Down m m d d := ⟨rfl, fun t => by
  split
  · rename_i h; rw [h]
  · rw [if_neg (by omega)]⟩
theorem Down.step {k m : Nat} {d e : Array (El α)} (h : Down (k + 1) m d e) (h1 : k + 1 ≤ m) (h2 : m < d.size) : Down k m d (swp e (k + 1) k) := by
  refine ⟨(swp_size e _ _).trans h.1, fun t => ?_⟩
  rw [swp_get e (by rw [h.1]; omega) (by rw [h.1]; omega), h.2, h.2, h.2]
  rw [if_pos (show k + 1 = k + 1 from rfl), if_neg (show ¬ k = k + 1 by omega), if_neg (show ¬ (k + 1 < k ∧ k ≤ m) by omega)]
  by_cases c1 : t = k
  · rw [if_pos c1, if_pos c1]
  · rw [if_neg c1, if_neg c1]
    by_cases c2 : t = k + 1
    · rw [if_pos c2, if_pos (by omega)]
      congr 1
      omega
    · rw [if_neg c2, if_neg c2]
      by_cases c3 : k + 1 < t ∧ t ≤ m
      · rw [if_pos c3, if_pos (by omega)]
      · rw [if_neg c3, if_neg (by omega)]
/-- places by rising numbers, ahead of and behind each whole block -/
def Cut (s n : Nat) (d : Array (El α)) : Prop := ∀ q i j, i < q * s → q * s ≤ j → j < n → d[i]!.2 < d[j]!.2
structure Full (lt : α → α → Bool) (s n : Nat) (d : Array (El α)) : Prop where
  b : ∀ q, SortedIn (lex lt) (q * s) (min (q * s + s) n) d
  c : Cut s n d
structure Ph1 (lt : α → α → Bool) (s n a : Nat) (d : Array (El α)) : Prop where
  t : ∀ i j, i < j → a ≤ j → j < n → d[i]!.2 < d[j]!.2
  b : ∀ q, q * s + s ≤ a → SortedIn (lex lt) (q * s) (q * s + s) d
  c : Cut s n d
theorem three (q q0 t : Nat) : q * t + t ≤ q0 * t ∨ q * t = q0 * t ∨ q0 * t + t ≤ q * t := by
  rcases Nat.lt_trichotomy q q0 with h | h | h
  · left
    have := Nat.mul_le_mul_right t (show q + 1 ≤ q0 from h)
    rwa [Nat.add_mul, Nat.one_mul] at this
  · right; left; rw [h]
  · right; right
    have := Nat.mul_le_mul_right t (show q0 + 1 ≤ q from h)
    rwa [Nat.add_mul, Nat.one_mul] at this
theorem si_kept {lt : El α → El α → Bool} {a b x y : Nat} {d e : Array (El α)} (h : PermIn a b d e) (hs : SortedIn lt x y d) (ho : y ≤ a ∨ b ≤ x) : SortedIn lt x y e := fun i j hi hij hj => by
  rw [h.2.1 i (by omega), h.2.1 j (by omega)]
  exact hs i j hi hij hj
/-- what is changed in a block alone keeps the places ahead of and behind it -/
theorem cut_kept {a b n p : Nat} {d e : Array (El α)} (h : PermIn a b d e) (hb : b ≤ d.size) (hp : p ≤ a ∨ b ≤ p) (hc : ∀ i j, i < p → p ≤ j → j < n → d[i]!.2 < d[j]!.2) (hbn : b ≤ n) : ∀ i j, i < p → p ≤ j → j < n → e[i]!.2 < e[j]!.2 := by
  intro i j hi hj hjn
  rcases hp with hp | hp
  · rw [h.2.1 i (by omega)]
    by_cases c : a ≤ j ∧ j < b
    · exact all_in h hb (p := fun y => d[i]!.2 < y.2) (fun y h1 h2 => hc i y hi (by omega) (by omega)) c.1 c.2
    · rw [h.2.1 j (by omega)]; exact hc i j hi hj hjn
  · rw [h.2.1 j (by omega)]
    by_cases c : a ≤ i ∧ i < b
    · exact all_in h hb (p := fun x => x.2 < d[j]!.2) (fun x h1 h2 => hc x j (by omega) hj hjn) c.1 c.2
    · rw [h.2.1 i (by omega)]; exact hc i j hi hj hjn
theorem ph1_start {lt : α → α → Bool} {s n : Nat} {d : Array (El α)} (hs : 0 < s) (h : ∀ i j, i < j → j < n → d[i]!.2 < d[j]!.2) : Ph1 lt s n 0 d :=
  ⟨fun i j hij _ hj => h i j hij hj, fun q hq => by omega, fun q i j hi hj hjn => h i j (by omega) hjn⟩
theorem ph1_step {lt : α → α → Bool} (hS : SWO lt) {s n q0 : Nat} {d : Array (El α)} (hs : 0 < s) (hn : n = d.size) (h : Ph1 lt s n (q0 * s) d) (hb : q0 * s + s ≤ n) :
    PermIn (q0 * s) (q0 * s + s) d (insertionSort (lt1 lt) d (q0 * s) (q0 * s + s)) ∧ Ph1 lt s n (q0 * s + s) (insertionSort (lt1 lt) d (q0 * s) (q0 * s + s)) := by
  obtain ⟨hp, hso⟩ := ins_lex hS d (q0 * s) (q0 * s + s) (by omega) (by omega) (fun p q h1 h2 h3 => h.t p q h2 (by omega) (by omega))
  refine ⟨hp, ?_, ?_, ?_⟩
  · intro i j hij hj hjn
    rw [hp.2.1 j (by omega)]
    by_cases c : q0 * s ≤ i ∧ i < q0 * s + s
    · exact all_in hp (by omega) (p := fun x => x.2 < d[j]!.2) (fun x h1 h2 => h.t x j (by omega) (by omega) hjn) c.1 c.2
    · rw [hp.2.1 i (by omega)]; exact h.t i j hij (by omega) hjn
  · intro q hq
    rcases three q q0 s with h1 | h1 | h1
    · exact si_kept hp (h.b q h1) (.inl h1)
    · rw [h1]; exact hso
    · omega
  · intro q
    exact cut_kept hp (by omega) (by rcases three q q0 s with h1 | h1 | h1 <;> omega) (h.c q) hb
theorem ph1_end {lt : α → α → Bool} (hS : SWO lt) {s n q0 : Nat} {d : Array (El α)} (hs : 0 < s) (hn : n = d.size) (h : Ph1 lt s n (q0 * s) d) (ha : q0 * s ≤ n) (hb : ¬ q0 * s + s ≤ n) :
    PermIn (q0 * s) n d (insertionSort (lt1 lt) d (q0 * s) n) ∧ Full lt s n (insertionSort (lt1 lt) d (q0 * s) n) := by
  obtain ⟨hp, hso⟩ := ins_lex hS d (q0 * s) n ha (by omega) (fun p q h1 h2 h3 => h.t p q h2 (by omega) (by omega))
  refine ⟨hp, ?_, ?_⟩
  · intro q
    rcases three q q0 s with h1 | h1 | h1
    · rw [Nat.min_eq_left (by omega)]
      exact si_kept hp (h.b q h1) (.inl h1)
    · rw [Nat.min_eq_right (by omega), h1]; exact hso
    · intro i j hi hij hj
      have : j < n := Nat.lt_of_lt_of_le hj (Nat.min_le_right _ _)
      omega
  · intro q i j hi hj hjn
    rcases three q q0 s with h1 | h1 | h1
    · exact cut_kept hp (by omega) (.inl (by omega)) (h.c q) (Nat.le_refl _) i j hi hj hjn
    · exact cut_kept hp (by omega) (.inl (by omega)) (h.c q) (Nat.le_refl _) i j hi hj hjn
    · omega
structure Ph2 (lt : α → α → Bool) (s n a : Nat) (d : Array (El α)) : Prop where
  x : ∀ q, q * (2 * s) + 2 * s ≤ a → SortedIn (lex lt) (q * (2 * s)) (q * (2 * s) + 2 * s) d
  y : ∀ q, a ≤ q * s → SortedIn (lex lt) (q * s) (min (q * s + s) n) d
  c : ∀ q, a ≤ q * s → ∀ i j, i < q * s → q * s ≤ j → j < n → d[i]!.2 < d[j]!.2
  e : Cut (2 * s) n d
theorem twice (q s : Nat) : q * (2 * s) = 2 * q * s := by rw [Nat.mul_comm 2 q, Nat.mul_assoc]
theorem twice1 (q s : Nat) : (2 * q + 1) * s = q * (2 * s) + s := by rw [Nat.add_mul, Nat.one_mul, twice]
theorem ph2_start {lt : α → α → Bool} {s n : Nat} {d : Array (El α)} (hs : 0 < s) (h : Full lt s n d) : Ph2 lt s n 0 d :=
  ⟨fun q hq => by omega, fun q _ => h.b q, fun q _ => h.c q, fun q i j => by rw [twice]; exact h.c (2 * q) i j⟩
theorem ph2_runs {lt : α → α → Bool} {s n q0 b : Nat} {d : Array (El α)} (h : Ph2 lt s n (q0 * (2 * s)) d) (hm : q0 * (2 * s) + s ≤ n) (hb : b = min (q0 * (2 * s) + 2 * s) n) : Runs lt (q0 * (2 * s)) (q0 * (2 * s) + s) b d := by
  have y1 := h.y (2 * q0) (by rw [← twice]; exact Nat.le_refl _)
  have y2 := h.y (2 * q0 + 1) (by rw [twice1]; omega)
  have c1 := h.c (2 * q0 + 1) (by rw [twice1]; omega)
  rw [← twice, Nat.min_eq_left hm] at y1
  rw [twice1] at y2 c1
  refine ⟨y1, ?_, fun i j hi him hj hjb => c1 i j him hj (by omega)⟩
  rw [hb]
  rw [show q0 * (2 * s) + s + s = q0 * (2 * s) + 2 * s by omega] at y2
  exact y2
theorem ph2_step {lt : α → α → Bool} {s n q0 : Nat} {d e : Array (El α)} (hs : 0 < s) (hn : n = d.size) (h : Ph2 lt s n (q0 * (2 * s)) d) (hb : q0 * (2 * s) + 2 * s ≤ n) (hm : SmP lt (q0 * (2 * s)) (q0 * (2 * s) + s) (q0 * (2 * s) + 2 * s) d e) : Ph2 lt s n (q0 * (2 * s) + 2 * s) e := by
  obtain ⟨hp, hk⟩ := hm
  have hso := hk (ph2_runs h (by omega) (by omega))
  refine ⟨?_, ?_, ?_, ?_⟩
  · intro q hq
    rcases three q q0 (2 * s) with h1 | h1 | h1
    · exact si_kept hp (h.x q h1) (.inl h1)
    · rw [h1]; exact hso
    · omega
  · intro q hq
    exact si_kept hp (h.y q (by omega)) (.inr hq)
  · intro q hq
    exact cut_kept hp (by omega) (.inr hq) (h.c q (by omega)) hb
  · intro q
    exact cut_kept hp (by omega) (by rcases three q q0 (2 * s) with h1 | h1 | h1 <;> omega) (h.e q) hb
theorem ph2_fin {lt : α → α → Bool} {s n q0 : Nat} {d e : Array (El α)} (hs : 0 < s) (hn : n = d.size) (h : Ph2 lt s n (q0 * (2 * s)) d) (ha : q0 * (2 * s) ≤ n) (hb : ¬ q0 * (2 * s) + 2 * s ≤ n) (hp : PermIn (q0 * (2 * s)) n d e) (hso : SortedIn (lex lt) (q0 * (2 * s)) n e) : Full lt (2 * s) n e := by
  refine ⟨fun q => ?_, fun q => ?_⟩
  · rcases three q q0 (2 * s) with h1 | h1 | h1
    · rw [Nat.min_eq_left (by omega)]
      exact si_kept hp (h.x q h1) (.inl h1)
    · rw [h1, Nat.min_eq_right (by omega)]; exact hso
    · intro i j hi hij hj
      have : j < n := Nat.lt_of_lt_of_le hj (Nat.min_le_right _ _)
      omega
  · intro i j hi hj hjn
    refine cut_kept hp (by omega) ?_ (h.e q) (Nat.le_refl _) i j hi hj hjn
    rcases three q q0 (2 * s) with h1 | h1 | h1 <;> omega
theorem ph2_last {lt : α → α → Bool} {s n q0 : Nat} {d e : Array (El α)} (hs : 0 < s) (hn : n = d.size) (h : Ph2 lt s n (q0 * (2 * s)) d) (hm : q0 * (2 * s) + s < n) (hb : ¬ q0 * (2 * s) + 2 * s ≤ n) (hk : SmP lt (q0 * (2 * s)) (q0 * (2 * s) + s) n d e) : Full lt (2 * s) n e :=
  ph2_fin hs hn h (by omega) hb hk.1 (hk.2 (ph2_runs h (by omega) (by omega)))
theorem ph2_idle {lt : α → α → Bool} {s n q0 : Nat} {d : Array (El α)} (hs : 0 < s) (hn : n = d.size) (h : Ph2 lt s n (q0 * (2 * s)) d) (ha : q0 * (2 * s) ≤ n) (hm : ¬ q0 * (2 * s) + s < n) : Full lt (2 * s) n d := by
  refine ph2_fin hs hn h ha (by omega) (permIn_refl d _ _) ?_
  have y1 := h.y (2 * q0) (by rw [← twice]; exact Nat.le_refl _)
  rw [← twice, Nat.min_eq_right (by omega)] at y1
  exact y1
theorem full_end {lt : α → α → Bool} {s n : Nat} {d : Array (El α)} (h : Full lt s n d) (hs : n ≤ s) : SortedIn (lex lt) 0 n d := by
  have := h.b 0
  rwa [Nat.zero_mul, Nat.zero_add, Nat.min_eq_right hs] at this
/-- one order alone -/
theorem one_order {lt : α → α → Bool} : ∀ {L M : List (El α)}, L.Perm M → L.Pairwise (fun x y => lex lt y x = false) → M.Pairwise (fun x y => lex lt y x = false) → (∀ x ∈ L, ∀ y ∈ L, x.2 = y.2 → x = y) → L = M
  | [], M, hp, _, _, _ => (List.nil_perm.1 hp).symm
  | x :: r, [], hp, _, _, _ => by have := hp.length_eq; simp at this
  | x :: r, y :: s, hp, h1, h2, hd => by
    have e : x = y := by
      have hx : x ∈ y :: s := hp.mem_iff.1 (by simp)
      have hy : y ∈ x :: r := hp.mem_iff.2 (by simp)
      rcases List.mem_cons.1 hx with e | hx2
      · exact e
      · rcases List.mem_cons.1 hy with e | hy2
        · exact e.symm
        · have a1 := (List.pairwise_cons.1 h2).1 x hx2
          have a2 := (List.pairwise_cons.1 h1).1 y hy2
          rw [lex_false] at a1 a2
          refine hd x (by simp) y hy ?_
          have b1 : y.2 ≤ x.2 := by
            rcases a1.2 with h | h
            · rw [a2.1] at h; cases h
            · exact h
          have b2 : x.2 ≤ y.2 := by
            rcases a2.2 with h | h
            · rw [a1.1] at h; cases h
            · exact h
          omega
    subst e
    congr 1
    exact one_order (List.perm_cons x |>.1 hp) (List.pairwise_cons.1 h1).2 (List.pairwise_cons.1 h2).2 (fun a ha b hb => hd a (by simp [ha]) b (by simp [hb]))
/-- where a row is put, from the last one on -/
def nn (lt : α → α → Bool) (x : α) (L : List α) : Nat → Nat
  | 0 => 0
  | k + 1 => if lt x L[k]! = true then nn lt x L k else k + 1
def insL (lt : α → α → Bool) (x : α) (L : List α) : List α := L.take (nn lt x L L.length) ++ x :: L.drop (nn lt x L L.length)
def rnk (lt : α → α → Bool) (l : List α) : List α := l.foldl (fun out x => insL lt x out) []
theorem nn_le (lt : α → α → Bool) (x : α) (L : List α) : ∀ k, nn lt x L k ≤ k
  | 0 => Nat.le_refl _
  | k + 1 => by
    unfold nn
    split
    · have := nn_le lt x L k; omega
    · exact Nat.le_refl _
theorem nn_spec (lt : α → α → Bool) (x : α) (L : List α) : ∀ k, (∀ j, nn lt x L k ≤ j → j < k → lt x L[j]! = true) ∧ (0 < nn lt x L k → lt x L[nn lt x L k - 1]! = false)
  | 0 => ⟨fun j h1 h2 => by omega, fun h => absurd h (Nat.lt_irrefl 0)⟩
  | k + 1 => by
    obtain ⟨h1, h2⟩ := nn_spec lt x L k
    unfold nn
    split
    · rename_i h
      refine ⟨fun j hj1 hj2 => ?_, h2⟩
      by_cases e : j = k
      · rw [e]; exact h
      · exact h1 j hj1 (by omega)
    · rename_i h
      refine ⟨fun j hj1 hj2 => by omega, fun _ => ?_⟩
      rw [Nat.add_sub_cancel]
      simpa using h
theorem rnk_snoc (lt : α → α → Bool) (l : List α) (x : α) : rnk lt (l ++ [x]) = insL lt x (rnk lt l) := by
  unfold rnk
  rw [List.foldl_append]
  rfl
theorem insL_perm (lt : α → α → Bool) (x : α) (L : List α) : (insL lt x L).Perm (x :: L) := by
  unfold insL
  refine List.perm_middle.trans (List.Perm.cons x ?_)
  rw [List.take_append_drop]
theorem insL_len (lt : α → α → Bool) (x : α) (L : List α) : (insL lt x L).length = L.length + 1 := (insL_perm lt x L).length_eq
theorem rnk_len (lt : α → α → Bool) (l : List α) : (rnk lt l).length = l.length := by
  suffices ∀ (l M : List α), (l.foldl (fun out x => insL lt x out) M).length = M.length + l.length by
    have := this l []
    simpa [rnk] using this
  intro l
  induction l with
  | nil => intro M; simp
  | cons x r ih =>
    intro M
    rw [List.foldl_cons, ih, insL_len, List.length_cons]
    omega
theorem map_at (L : List (El α)) (k : Nat) (h : k < L.length) : (L.map Prod.fst)[k]! = L[k]!.1 := by
  rw [getElem!_pos _ k (by simpa using h), getElem!_pos L k h, List.getElem_map]
theorem nn_map (lt : α → α → Bool) (x : El α) (L : List (El α)) : ∀ k, k ≤ L.length → nn lt x.1 (L.map Prod.fst) k = nn (lt1 lt) x L k
  | 0, _ => rfl
  | k + 1, h => by
    unfold nn
    rw [map_at L k (by omega), nn_map lt x L k (by omega)]
    rfl
theorem insL_map (lt : α → α → Bool) (x : El α) (L : List (El α)) : (insL (lt1 lt) x L).map Prod.fst = insL lt x.1 (L.map Prod.fst) := by
  unfold insL
  rw [List.length_map, nn_map lt x L L.length (Nat.le_refl _), List.map_append, List.map_cons, List.map_take, List.map_drop]
theorem fold_map (lt : α → α → Bool) : ∀ (l M : List (El α)), (l.foldl (fun out x => insL (lt1 lt) x out) M).map Prod.fst = (l.map Prod.fst).foldl (fun out x => insL lt x out) (M.map Prod.fst)
  | [], M => rfl
  | x :: r, M => by
    rw [List.foldl_cons, fold_map lt r, insL_map, List.map_cons, List.foldl_cons]
theorem insL_srt {lt : α → α → Bool} (hS : SWO lt) {x : El α} {L : List (El α)} (h : L.Pairwise (fun a b => lex lt b a = false)) (hx : ∀ y ∈ L, y.2 < x.2) : (insL (lt1 lt) x L).Pairwise (fun a b => lex lt b a = false) := by
  obtain ⟨k1, k2⟩ := nn_spec (lt1 lt) x L L.length
  have hl := nn_le (lt1 lt) x L L.length
  unfold insL
  generalize nn (lt1 lt) x L L.length = n at *
  have g : ∀ j (hj : j < L.length), L[j]! = L[j] := fun j hj => getElem!_pos L j hj
  have hlo : ∀ y ∈ L.take n, lex lt x y = false := by
    intro y hy
    obtain ⟨j, hj, rfl⟩ := List.getElem_of_mem hy
    rw [List.length_take] at hj
    rw [List.getElem_take]
    have h1 := k2 (by omega)
    rw [g (n - 1) (by omega)] at h1
    have h2 : lex lt x L[n - 1] = false := by rw [lex_lt (Nat.le_of_lt (hx _ (List.getElem_mem _)))]; exact h1
    rcases Nat.lt_or_eq_of_le (show j ≤ n - 1 by omega) with h3 | h3
    · exact (lex_swo hS).ntrans _ _ _ h2 (List.pairwise_iff_getElem.1 h j (n - 1) (by omega) (by omega) h3)
    · have : L[j] = L[n - 1] := by congr 1
      rw [this]; exact h2
  have hhi : ∀ y ∈ L.drop n, lex lt y x = false := by
    intro y hy
    obtain ⟨j, hj, rfl⟩ := List.getElem_of_mem hy
    rw [List.length_drop] at hj
    rw [List.getElem_drop]
    have h1 := k1 (n + j) (by omega) (by omega)
    rw [g (n + j) (by omega)] at h1
    exact asym (lex_swo hS) (lex_true.2 (.inl h1))
  rw [List.pairwise_append]
  refine ⟨List.Pairwise.take h, List.pairwise_cons.2 ⟨hhi, List.Pairwise.drop h⟩, ?_⟩
  intro a ha b hb
  rcases List.mem_cons.1 hb with rfl | hb
  · exact hlo a ha
  · exact (lex_swo hS).ntrans _ _ _ (hhi b hb) (hlo a ha)
theorem fold_srt {lt : α → α → Bool} (hS : SWO lt) : ∀ (l M : List (El α)), M.Pairwise (fun a b => lex lt b a = false) → (∀ y ∈ M, ∀ x ∈ l, y.2 < x.2) → l.Pairwise (fun a b => a.2 < b.2) →
    (l.foldl (fun out x => insL (lt1 lt) x out) M).Pairwise (fun a b => lex lt b a = false) ∧ (l.foldl (fun out x => insL (lt1 lt) x out) M).Perm (M ++ l)
  | [], M, h, _, _ => ⟨h, by simp⟩
  | x :: r, M, h, h1, h2 => by
    obtain ⟨h3, h4⟩ := List.pairwise_cons.1 h2
    have hp := insL_perm (lt1 lt) x M
    have := fold_srt hS r (insL (lt1 lt) x M) (insL_srt hS h (fun y hy => h1 y hy x (by simp))) (fun y hy z hz => by
      rcases List.mem_cons.1 (hp.mem_iff.1 hy) with rfl | hy
      · exact h3 z hz
      · exact h1 y hy z (by simp [hz])) h4
    rw [List.foldl_cons]
    refine ⟨this.1, this.2.trans ?_⟩
    exact (hp.append_right r).trans (List.perm_middle.symm)
/-- rows with their places -/
def tag (l : List α) : List (El α) := l.zipIdx
theorem tag_fst (l : List α) : (tag l).map Prod.fst = l := by unfold tag; simp
theorem tag_len (l : List α) : (tag l).length = l.length := by unfold tag; simp
theorem tag_at (l : List α) (i : Nat) (h : i < l.length) : (tag l).toArray[i]! = (l[i], i) := by
  rw [getElem!_pos _ i (by simpa [tag] using h)]
  simp [tag]
/-- what is a sorted one of the rows with their places is the document's order -/
theorem is_rnk {lt : α → α → Bool} (hS : SWO lt) (l : List α) (d : Array (El α)) (hp : PermIn 0 l.length (tag l).toArray d) (hs : SortedIn (lex lt) 0 l.length d) : d.toList.map Prod.fst = rnk lt l := by
  have hd : d.size = l.length := by rw [hp.1]; simp [tag_len]
  have hpp : d.toList.Perm (tag l) := by
    have h := hp.2.2
    rw [show d.extract 0 l.length = d by rw [← hd]; simp, show (tag l).toArray.extract 0 l.length = (tag l).toArray by rw [← tag_len l]; simp] at h
    exact h
  have hpw : d.toList.Pairwise (fun a b => lex lt b a = false) := by
    rw [List.pairwise_iff_getElem]
    intro i j hi hj hij
    have hi' : i < d.size := by simpa using hi
    have hj' : j < d.size := by simpa using hj
    have := hs i j (Nat.zero_le _) hij (by omega)
    rw [getElem!_pos d i hi', getElem!_pos d j hj'] at this
    simpa using this
  have htp : (tag l).Pairwise (fun a b => a.2 < b.2) := by
    rw [List.pairwise_iff_getElem]
    intro i j hi hj hij
    simp [tag]
    exact hij
  obtain ⟨f1, f2⟩ := fold_srt hS (tag l) [] List.Pairwise.nil (by simp) htp
  rw [List.nil_append] at f2
  have heq := one_order (hpp.trans f2.symm) hpw f1 (fun x hx y hy e => by
    have hx := hpp.mem_iff.1 hx
    have hy := hpp.mem_iff.1 hy
    obtain ⟨i, hi, rfl⟩ := List.getElem_of_mem hx
    obtain ⟨j, hj, rfl⟩ := List.getElem_of_mem hy
    simp only [tag, List.getElem_zipIdx, Nat.zero_add] at e ⊢
    subst e
    rfl)
  rw [heq, fold_map, tag_fst]
  rfl
end Go.Proofs.Ytheikjjehidagaa.SS
