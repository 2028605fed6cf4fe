/- Days in numbers: years, months, days that are worked on, the ways from one to another. Numbers alone: no program. -/
import Derived.Test.YthdngjpfmjnchaaRows
import Derived.WalkKit
import Derived.ProofKit
import Derived.Handy
import Derived.WalkLawsBesides
import Derived.WalkSpells
import Derived.BigQuiet
import Derived.Deep.QuietTactic
import Derived.Deep.Light
import Derived.Deep.OwnRows
import Derived.Laws.AppendOwnNone
import Derived.Deep.RegionWith
import Derived.Lib.BitFns
import Derived.Lib.Walk
import Derived.Deep.CutBlock
import Derived.Deep.DeepCutAuto
import Derived.Deep.LoopGhost
import Derived.Deep.RegionHeld3
import Derived.Lib.SlicesCompact
namespace Go.Proofs.Ythdngjpfmjnchaa
open Go.RowKit
set_option linter.unusedVariables false
set_option linter.unusedSimpArgs false
/-- how many years up to this one have a 29th of February -/
def lps (y : Int) : Int := y / 4 - y / 100 + y / 400
/-- a year with a 29th of February -/
def leapB (y : Int) : Bool := decide (lps (y - 1) < lps y)
/-- the number of a year's first day -/
def YB (y : Int) : Int := (y - 1970) * 365 + lps (y - 1) - 477
/-- a month's length -/
def dim (y m : Int) : Int := if m = 4 ∨ m = 6 ∨ m = 9 ∨ m = 11 then 30 else if m = 2 then (if leapB y then 29 else 28) else 31
/-- the days of a year's first n months -/
def MB (y : Int) : Nat → Int
  | 0 => 0
  | n + 1 => MB y n + dim y (n + 1)

theorem lps_leap (y : Int) : lps y = lps (y - 1) + (if y % 400 = 0 ∨ y % 4 = 0 ∧ y % 100 ≠ 0 then 1 else 0) := by
  have h4 : (y - 1) / 4 = y / 4 - (if y % 4 = 0 then 1 else 0) := by split <;> omega
  have h100 : (y - 1) / 100 = y / 100 - (if y % 100 = 0 then 1 else 0) := by split <;> omega
  have h400 : (y - 1) / 400 = y / 400 - (if y % 400 = 0 then 1 else 0) := by split <;> omega
  have e1 : y % 100 = 0 → y % 4 = 0 := by omega
  have e2 : y % 400 = 0 → y % 100 = 0 := by omega
  unfold lps
  rw [h4, h100, h400]
  by_cases c1 : y % 4 = 0
  · by_cases c2 : y % 100 = 0
    · by_cases c3 : y % 400 = 0
      · simp [c1, c2, c3]; omega
      · simp [c1, c2, c3]; omega
    · have c3 : ¬ y % 400 = 0 := fun h => c2 (e2 h)
      simp [c1, c2, c3]; omega
  · have c2 : ¬ y % 100 = 0 := fun h => c1 (e1 h)
    have c3 : ¬ y % 400 = 0 := fun h => c2 (e2 h)
    simp [c1, c2, c3]
theorem leap_iff (y : Int) : leapB y = true ↔ (y % 400 = 0 ∨ y % 4 = 0 ∧ y % 100 ≠ 0) := by
  have h := lps_leap y
  unfold leapB
  by_cases c : y % 400 = 0 ∨ y % 4 = 0 ∧ y % 100 ≠ 0
  · rw [if_pos c] at h
    exact ⟨fun _ => c, fun _ => decide_eq_true (by omega)⟩
  · rw [if_neg c] at h
    exact ⟨fun q => absurd (of_decide_eq_true q) (by omega), fun q => absurd q c⟩
theorem lps_step (y : Int) : lps y = lps (y - 1) + (if leapB y then 1 else 0) := by
  have h := lps_leap y
  by_cases c : leapB y = true
  · rw [if_pos c]
    rw [if_pos ((leap_iff y).1 c)] at h
    exact h
  · rw [if_neg c]
    rw [if_neg (fun q => c ((leap_iff y).2 q))] at h
    exact h
theorem dim_two (y : Int) : dim y 2 = if leapB y then 29 else 28 := by simp [dim]
theorem dim_pos (y m : Int) : 28 ≤ dim y m ∧ dim y m ≤ 31 := by
  unfold dim
  split
  · omega
  split
  · split <;> omega
  · omega
theorem YB_succ (y : Int) : YB (y + 1) = YB y + 337 + dim y 2 := by
  have h := lps_step y
  rw [dim_two]
  unfold YB
  rw [show y + 1 - 1 = y by omega]
  split at h <;> simp_all <;> omega
theorem MB_twelve (y : Int) : MB y 12 = 337 + dim y 2 := by
  simp [MB, dim]
  split <;> omega
theorem YB_step (y : Int) : YB (y + 1) = YB y + MB y 12 := by rw [YB_succ, MB_twelve]; omega
theorem YB_lt {y z : Int} (h : y < z) : YB y < YB z := by
  unfold YB lps
  omega
theorem YB_le {y z : Int} (h : y ≤ z) : YB y ≤ YB z := by
  unfold YB lps
  omega
theorem YB_late {y : Int} (h : 2518 ≤ y) : 200000 < YB y := by
  unfold YB lps
  omega
theorem YB_first : YB 1970 = 0 := by decide
theorem MB_mono (y : Int) {a b : Nat} (h : a ≤ b) : MB y a ≤ MB y b := by
  induction b with
  | zero => obtain rfl : a = 0 := by omega
            exact Int.le_refl _
  | succ b ih =>
    by_cases e : a = b + 1
    · subst e; exact Int.le_refl _
    · have := ih (by omega)
      have := (dim_pos y (b + 1)).1
      show MB y a ≤ MB y b + dim y (b + 1)
      omega
theorem MB_nonneg (y : Int) (n : Nat) : 0 ≤ MB y n := MB_mono y (Nat.zero_le n)
theorem MB_le (y : Int) (n : Nat) (h : n ≤ 12) : MB y n ≤ 366 := by
  have h1 := MB_mono y h
  have h2 := MB_twelve y
  have h3 := dim_two y
  split at h3 <;> omega

abbrev GoodD (d : Int) : Prop := 0 ≤ d ∧ d ≤ 200000

/-- this is the day's date -/
structure IsDate (day y m d : Int) : Prop where
  y0 : 1970 ≤ y
  m0 : 1 ≤ m ∧ m ≤ 12
  d0 : 1 ≤ d ∧ d ≤ dim y m
  is : day = YB y + MB y (m - 1).toNat + d - 1

theorem IsDate.within {day y m d : Int} (h : IsDate day y m d) : YB y ≤ day ∧ day < YB (y + 1) := by
  obtain ⟨h1, h2, h3, h4⟩ := h
  have h5 := MB_nonneg y (m - 1).toNat
  have h6 := MB_mono y (show (m - 1).toNat + 1 ≤ 12 by omega)
  have h7 : MB y ((m - 1).toNat + 1) = MB y (m - 1).toNat + dim y (((m - 1).toNat : Nat) + 1) := rfl
  rw [show ((((m - 1).toNat : Nat) : Int) + 1) = m by omega] at h7
  have h8 := YB_step y
  omega
theorem IsDate.uniq {day y m d y' m' d' : Int} (h : IsDate day y m d) (h' : IsDate day y' m' d') : y = y' ∧ m = m' ∧ d = d' := by
  have e1 := h.within
  have e2 := h'.within
  have ey : y = y' := by
    rcases Int.lt_trichotomy y y' with c | c | c
    · have := YB_le (show y + 1 ≤ y' by omega); omega
    · exact c
    · have := YB_le (show y' + 1 ≤ y by omega); omega
  subst ey
  obtain ⟨-, h2, h3, h4⟩ := h
  obtain ⟨-, g2, g3, g4⟩ := h'
  have em : m = m' := by
    rcases Int.lt_trichotomy m m' with c | c | c
    · have h6 := MB_mono y (show (m - 1).toNat + 1 ≤ (m' - 1).toNat by omega)
      have h7 : MB y ((m - 1).toNat + 1) = MB y (m - 1).toNat + dim y (((m - 1).toNat : Nat) + 1) := rfl
      rw [show ((((m - 1).toNat : Nat) : Int) + 1) = m by omega] at h7
      omega
    · exact c
    · have h6 := MB_mono y (show (m' - 1).toNat + 1 ≤ (m - 1).toNat by omega)
      have h7 : MB y ((m' - 1).toNat + 1) = MB y (m' - 1).toNat + dim y (((m' - 1).toNat : Nat) + 1) := rfl
      rw [show ((((m' - 1).toNat : Nat) : Int) + 1) = m' by omega] at h7
      omega
  subst em
  exact ⟨rfl, rfl, by omega⟩

/-- is there such a date, in the years up to z? -/
abbrev IsThere (z y m d : Int) : Prop := 1970 ≤ y ∧ y ≤ z ∧ 1 ≤ m ∧ m ≤ 12 ∧ 1 ≤ d ∧ d ≤ dim y m
/-- the number of a date -/
def dayN (y m d : Int) : Int := YB y + MB y (m - 1).toNat + d - 1
def numN (y m d : Int) : Int := if IsThere 2517 y m d ∧ dayN y m d ≤ 200000 then dayN y m d else 0
def numE (y m d : Int) : Int := if IsThere 2517 y m d ∧ dayN y m d ≤ 200000 then 0 else 10

theorem num_yes {y m d : Int} (h : IsThere 3000 y m d) (hn : dayN y m d ≤ 200000) : numN y m d = dayN y m d ∧ numE y m d = 0 := by
  have h1 : IsThere 2517 y m d ∧ dayN y m d ≤ 200000 := by
    refine ⟨⟨h.1, ?_, h.2.2⟩, hn⟩
    rcases Int.lt_or_le 2517 y with c | c
    · have h5 := YB_late (show 2518 ≤ y by omega)
      have h6 := MB_nonneg y (m - 1).toNat
      have h7 := h.2.2.2.2
      unfold dayN at hn
      omega
    · exact c
  exact ⟨if_pos h1, if_pos h1⟩
theorem num_no {y m d : Int} (z : Int) (hz : 2517 ≤ z) (h : ¬ (IsThere z y m d ∧ dayN y m d ≤ 200000)) : numN y m d = 0 ∧ numE y m d = 10 := by
  have h1 : ¬ (IsThere 2517 y m d ∧ dayN y m d ≤ 200000) := fun q => h ⟨⟨q.1.1, by have := q.1.2.1; omega, q.1.2.2⟩, q.2⟩
  exact ⟨if_neg h1, if_neg h1⟩
theorem num_of_date {day y m d : Int} (h : IsDate day y m d) (hg : GoodD day) : numN y m d = day ∧ numE y m d = 0 := by
  have e : dayN y m d = day := h.is.symm
  have h1 : IsThere 3000 y m d := by
    refine ⟨h.y0, ?_, h.m0.1, h.m0.2, h.d0.1, h.d0.2⟩
    rcases Int.lt_or_le 3000 y with c | c
    · have h5 := YB_late (show 2518 ≤ y by omega)
      have h6 := h.within.1
      have := hg.2
      omega
    · exact c
  have := num_yes h1 (by rw [e]; exact hg.2)
  rw [e] at this
  exact this
theorem date_of_num {y m d : Int} (h : numE y m d = 0) : IsDate (numN y m d) y m d ∧ GoodD (numN y m d) := by
  by_cases c : IsThere 2517 y m d ∧ dayN y m d ≤ 200000
  · have e : numN y m d = dayN y m d := if_pos c
    have h6 := MB_nonneg y (m - 1).toNat
    have h7 := YB_le c.1.1
    rw [YB_first] at h7
    have h8 := c.1.2.2.2.2.1
    refine ⟨⟨c.1.1, ⟨c.1.2.2.1, c.1.2.2.2.1⟩, c.1.2.2.2.2, e⟩, ?_, by rw [e]; exact c.2⟩
    rw [e]
    unfold dayN
    omega
  · rw [numE, if_neg c] at h
    cases h
theorem num_bad {y m d : Int} (h : numE y m d ≠ 0) : numN y m d = 0 ∧ numE y m d = 10 := by
  by_cases c : IsThere 2517 y m d ∧ dayN y m d ≤ 200000
  · exact absurd (if_pos c) h
  · exact ⟨if_neg c, if_neg c⟩
theorem num_range (y m d : Int) : 0 ≤ numN y m d ∧ numN y m d ≤ 200000 := by
  by_cases h : numE y m d = 0
  · exact (date_of_num h).2
  · rw [(num_bad h).1]; omega

/-- the days are worked on -/
def wkB (ys : List Int) (d : Int) : Bool := decide (GoodD d ∧ (d + 3) % 7 < 5 ∧ d ∉ ys)
theorem wk_good {ys : List Int} {d : Int} (h : wkB ys d = true) : GoodD d := (of_decide_eq_true h).1
theorem wk_same {xs ys : List Int} (h : ∀ x, x ∈ xs ↔ x ∈ ys) (d : Int) : wkB xs d = wkB ys d := by
  unfold wkB
  rw [decide_eq_decide, h d]

/-- the first day from one on, by a step, that is worked on -/
def Sk (ys : List Int) (s d : Int) (r : Option Int) : Prop :=
  ∀ P : Int → Option Int → Prop, (∀ d, wkB ys d = true → P d (some d)) → (∀ d, ¬ GoodD d → P d none) → (∀ d r, GoodD d → wkB ys d = false → P (d + s) r → P d r) → P d r
section
variable {ys : List Int} {s d : Int} {r : Option Int}
theorem Sk.hit (h : wkB ys d = true) : Sk ys s d (some d) := fun _ h1 _ _ => h1 d h
theorem Sk.off (h : ¬ GoodD d) : Sk ys s d none := fun _ _ h2 _ => h2 d h
theorem Sk.on (g : GoodD d) (n : wkB ys d = false) (h : Sk ys s (d + s) r) : Sk ys s d r := fun P h1 h2 h3 => h3 d r g n (h P h1 h2 h3)
theorem Sk.ind {P : Int → Option Int → Prop} (h : Sk ys s d r) (h1 : ∀ d, wkB ys d = true → P d (some d)) (h2 : ∀ d, ¬ GoodD d → P d none) (h3 : ∀ d r, GoodD d → wkB ys d = false → Sk ys s (d + s) r → P (d + s) r → P d r) : P d r :=
  (h (fun d r => Sk ys s d r ∧ P d r) (fun d e => ⟨Sk.hit e, h1 d e⟩) (fun d n => ⟨Sk.off n, h2 d n⟩) (fun d r g n q => ⟨Sk.on g n q.1, h3 d r g n q.1 q.2⟩)).2
theorem Sk.inv (h : Sk ys s d r) : (wkB ys d = true ∧ r = some d) ∨ (¬ GoodD d ∧ r = none) ∨ (GoodD d ∧ wkB ys d = false ∧ Sk ys s (d + s) r) :=
  Sk.ind (P := fun d r => (wkB ys d = true ∧ r = some d) ∨ (¬ GoodD d ∧ r = none) ∨ (GoodD d ∧ wkB ys d = false ∧ Sk ys s (d + s) r)) h (fun d e => .inl ⟨e, rfl⟩) (fun d n => .inr (.inl ⟨n, rfl⟩)) (fun d r g n q _ => .inr (.inr ⟨g, n, q⟩))
end
theorem Sk.det {ys : List Int} {s d : Int} {r r' : Option Int} (h : Sk ys s d r) (h' : Sk ys s d r') : r = r' := by
  refine Sk.ind (P := fun d r => ∀ r', Sk ys s d r' → r = r') h ?_ ?_ ?_ r' h'
  · intro d e r' q
    rcases q.inv with ⟨-, rfl⟩ | ⟨n, -⟩ | ⟨-, n, -⟩
    · rfl
    · exact absurd (wk_good e) n
    · rw [e] at n; cases n
  · intro d n r' q
    rcases q.inv with ⟨e, -⟩ | ⟨-, rfl⟩ | ⟨g, -⟩
    · exact absurd (wk_good e) n
    · rfl
    · exact absurd g n
  · intro d r g n _ ih r' q
    rcases q.inv with ⟨e, -⟩ | ⟨n', -⟩ | ⟨-, -, q'⟩
    · rw [e] at n; cases n
    · exact absurd g n'
    · exact ih r' q'
theorem Sk.wk {ys : List Int} {s d x : Int} (h : Sk ys s d (some x)) : wkB ys x = true :=
  Sk.ind (P := fun _ r => ∀ x, r = some x → wkB ys x = true) h (fun d e x q => by cases q; exact e) (fun d n x q => by cases q) (fun d r g n _ ih => ih) x rfl
theorem Sk.same {xs ys : List Int} (hm : ∀ x, x ∈ xs ↔ x ∈ ys) {s d : Int} {r : Option Int} (h : Sk xs s d r) : Sk ys s d r :=
  Sk.ind (P := fun d r => Sk ys s d r) h (fun d e => Sk.hit (by rw [← wk_same hm]; exact e)) (fun d n => Sk.off n) (fun d r g n _ ih => Sk.on g (by rw [← wk_same hm]; exact n) ih)
/-- what is told of it: the day, the error -/
def skN : Option Int → Int
  | some x => x
  | none => 0
def skE : Option Int → Int
  | some _ => 0
  | none => 6
theorem Sk.range {ys : List Int} {s d : Int} {r : Option Int} (h : Sk ys s d r) : 0 ≤ skN r ∧ skN r ≤ 200000 := by
  cases r with
  | none => simp [skN]
  | some x => exact wk_good h.wk

/-- Next, or Back -/
def Near (ys : List Int) (s d n e : Int) : Prop := (¬ GoodD d ∧ n = 0 ∧ e = 10) ∨ (GoodD d ∧ ∃ r, Sk ys s d r ∧ n = skN r ∧ e = skE r)
theorem Near.det {ys : List Int} {s d n e n' e' : Int} (h : Near ys s d n e) (h' : Near ys s d n' e') : n = n' ∧ e = e' := by
  rcases h with ⟨g, rfl, rfl⟩ | ⟨g, r, h, rfl, rfl⟩
  · rcases h' with ⟨-, rfl, rfl⟩ | ⟨g', -⟩
    · exact ⟨rfl, rfl⟩
    · exact absurd g' g
  · rcases h' with ⟨g', -⟩ | ⟨-, r', h', rfl, rfl⟩
    · exact absurd g g'
    · rw [h.det h']; exact ⟨rfl, rfl⟩
theorem Near.same {xs ys : List Int} (hm : ∀ x, x ∈ xs ↔ x ∈ ys) {s d n e : Int} (h : Near xs s d n e) : Near ys s d n e := by
  rcases h with h | ⟨g, r, h, q⟩
  · exact .inl h
  · exact .inr ⟨g, r, h.same hm, q⟩
theorem Near.range {ys : List Int} {s d n e : Int} (h : Near ys s d n e) : 0 ≤ n ∧ n ≤ 200000 := by
  rcases h with ⟨-, rfl, -⟩ | ⟨-, r, h, rfl, -⟩
  · omega
  · exact h.range
theorem Near.ok {ys : List Int} {s d n : Int} (h : Near ys s d n 0) : wkB ys n = true ∧ GoodD d := by
  rcases h with ⟨-, -, h⟩ | ⟨g, r, h, rfl, e⟩
  · cases h
  · cases r with
    | none => cases e
    | some x => exact ⟨h.wk, g⟩
theorem Near.err {ys : List Int} {s d n e : Int} (h : Near ys s d n e) : (e = 0) ∨ (e ≠ 0 ∧ n = 0 ∧ (e = 6 ∨ e = 10)) := by
  rcases h with ⟨-, rfl, rfl⟩ | ⟨g, r, h, rfl, rfl⟩
  · exact .inr ⟨by decide, rfl, .inr rfl⟩
  · cases r with
    | none => exact .inr ⟨by simp [skE], rfl, .inl rfl⟩
    | some x => exact .inl rfl
theorem Near.here {ys : List Int} {s d : Int} (h : wkB ys d = true) : Near ys s d d 0 := .inr ⟨wk_good h, some d, .hit h, rfl, rfl⟩

/-- so many further -/
def Mv (ys : List Int) (s : Int) : Nat → Int → Option Int → Prop
  | 0, d, r => r = some d
  | k + 1, d, r => (Sk ys s (d + s) none ∧ r = none) ∨ ∃ x, Sk ys s (d + s) (some x) ∧ Mv ys s k x r
theorem Mv.zero {ys : List Int} {s d : Int} : Mv ys s 0 d (some d) := rfl
theorem Mv.stop {ys : List Int} {s d : Int} {k : Nat} (h : Sk ys s (d + s) none) : Mv ys s (k + 1) d none := Or.inl ⟨h, rfl⟩
theorem Mv.step {ys : List Int} {s d x : Int} {k : Nat} {r : Option Int} (h : Sk ys s (d + s) (some x)) (m : Mv ys s k x r) : Mv ys s (k + 1) d r := Or.inr ⟨x, h, m⟩
theorem Mv.det {ys : List Int} {s d : Int} {k : Nat} {r r' : Option Int} (h : Mv ys s k d r) (h' : Mv ys s k d r') : r = r' := by
  induction k generalizing d with
  | zero => exact (show r = some d from h).trans (show r' = some d from h').symm
  | succ k ih =>
    rcases h with ⟨h1, rfl⟩ | ⟨x, h1, h2⟩
    · rcases h' with ⟨_, rfl⟩ | ⟨x', g1, _⟩
      · rfl
      · cases h1.det g1
    · rcases h' with ⟨g1, rfl⟩ | ⟨x', g1, g2⟩
      · cases h1.det g1
      · cases h1.det g1
        exact ih h2 g2
theorem Mv.same {xs ys : List Int} (hm : ∀ x, x ∈ xs ↔ x ∈ ys) {s d : Int} {k : Nat} {r : Option Int} (h : Mv xs s k d r) : Mv ys s k d r := by
  induction k generalizing d with
  | zero => exact h
  | succ k ih =>
    rcases h with ⟨h1, rfl⟩ | ⟨x, h1, h2⟩
    · exact Mv.stop (h1.same hm)
    · exact Mv.step (h1.same hm) (ih h2)
theorem Mv.snoc {ys : List Int} {s d x z : Int} {k : Nat} (h : Mv ys s k d (some x)) (q : Sk ys s (x + s) (some z)) : Mv ys s (k + 1) d (some z) := by
  induction k generalizing d with
  | zero =>
    obtain rfl : x = d := Option.some.inj (show some x = some d from h)
    exact Mv.step q Mv.zero
  | succ k ih =>
    rcases h with ⟨_, h2⟩ | ⟨x', h1, h2⟩
    · cases h2
    · exact Mv.step h1 (ih h2)
theorem Mv.wk {ys : List Int} {s d : Int} {k : Nat} {r : Option Int} (h : Mv ys s k d r) (hd : wkB ys d = true) : ∀ x, r = some x → wkB ys x = true := by
  induction k generalizing d with
  | zero =>
    intro x e
    have h' : r = some d := h
    rw [h'] at e
    cases e
    exact hd
  | succ k ih =>
    rcases h with ⟨_, rfl⟩ | ⟨x', h1, h2⟩
    · intro x e; cases e
    · exact ih h2 h1.wk

def Mov (ys : List Int) (d n v e : Int) : Prop :=
  ∃ a f, Near ys (if n < 0 then -1 else 1) d a f ∧ ((f ≠ 0 ∧ v = 0 ∧ e = f) ∨ (f = 0 ∧ (n > 3660 ∨ n < -3660) ∧ v = 0 ∧ e = 1) ∨ (f = 0 ∧ ¬ (n > 3660 ∨ n < -3660) ∧ ∃ r, Mv ys (if n < 0 then -1 else 1) n.natAbs a r ∧ v = skN r ∧ e = skE r))
theorem Mov.det {ys : List Int} {d n v e v' e' : Int} (h : Mov ys d n v e) (h' : Mov ys d n v' e') : v = v' ∧ e = e' := by
  obtain ⟨a, f, h1, h2⟩ := h
  obtain ⟨a', f', g1, g2⟩ := h'
  obtain ⟨rfl, rfl⟩ := h1.det g1
  rcases h2 with ⟨c, rfl, rfl⟩ | ⟨c, c', rfl, rfl⟩ | ⟨c, c', r, hr, rfl, rfl⟩
  · rcases g2 with ⟨-, rfl, rfl⟩ | ⟨q, -⟩ | ⟨q, -⟩
    · exact ⟨rfl, rfl⟩
    · exact absurd q c
    · exact absurd q c
  · rcases g2 with ⟨q, -⟩ | ⟨-, -, rfl, rfl⟩ | ⟨-, q, -⟩
    · exact absurd c q
    · exact ⟨rfl, rfl⟩
    · exact absurd c' q
  · rcases g2 with ⟨q, -⟩ | ⟨-, q, -⟩ | ⟨-, -, r', hr', rfl, rfl⟩
    · exact absurd c q
    · exact absurd q c'
    · rw [hr.det hr']; exact ⟨rfl, rfl⟩
theorem Mov.same {xs ys : List Int} (hm : ∀ x, x ∈ xs ↔ x ∈ ys) {d n v e : Int} (h : Mov xs d n v e) : Mov ys d n v e := by
  obtain ⟨a, f, h1, h2⟩ := h
  refine ⟨a, f, h1.same hm, ?_⟩
  rcases h2 with h | h | ⟨c, c', r, hr, q⟩
  · exact .inl h
  · exact .inr (.inl h)
  · exact .inr (.inr ⟨c, c', r, hr.same hm, q⟩)

/-- in a month of one number -/
def SameMonth (a b : Int) : Prop := ∃ y1 d1 y2 d2 m, IsDate a y1 m d1 ∧ IsDate b y2 m d2
def Rol (ys : List Int) (d v e : Int) : Prop :=
  ∃ a f, Near ys 1 d a f ∧ ((f = 0 ∧ SameMonth a d ∧ v = a ∧ e = 0) ∨ (¬ (f = 0 ∧ SameMonth a d) ∧ Near ys (-1) d v e))
theorem Rol.det {ys : List Int} {d v e v' e' : Int} (h : Rol ys d v e) (h' : Rol ys d v' e') : v = v' ∧ e = e' := by
  obtain ⟨a, f, h1, h2⟩ := h
  obtain ⟨a', f', g1, g2⟩ := h'
  obtain ⟨rfl, rfl⟩ := h1.det g1
  rcases h2 with ⟨c, c', rfl, rfl⟩ | ⟨c, h2⟩
  · rcases g2 with ⟨-, -, rfl, rfl⟩ | ⟨q, -⟩
    · exact ⟨rfl, rfl⟩
    · exact absurd ⟨c, c'⟩ q
  · rcases g2 with ⟨q, q', -⟩ | ⟨-, g2⟩
    · exact absurd ⟨q, q'⟩ c
    · exact h2.det g2
theorem Rol.same {xs ys : List Int} (hm : ∀ x, x ∈ xs ↔ x ∈ ys) {d v e : Int} (h : Rol xs d v e) : Rol ys d v e := by
  obtain ⟨a, f, h1, h2⟩ := h
  refine ⟨a, f, h1.same hm, ?_⟩
  rcases h2 with h | ⟨c, h⟩
  · exact .inl h
  · exact .inr ⟨c, h.same hm⟩
theorem Rol.wk {ys : List Int} {d v : Int} (h : Rol ys d v 0) : wkB ys v = true := by
  obtain ⟨a, f, h1, h2⟩ := h
  rcases h2 with ⟨rfl, -, rfl, -⟩ | ⟨-, h⟩
  · exact h1.ok.1
  · exact h.ok.1
theorem SameMonth.iff {a b y1 m1 d1 y2 m2 d2 : Int} (h1 : IsDate a y1 m1 d1) (h2 : IsDate b y2 m2 d2) : SameMonth a b ↔ m1 = m2 := by
  constructor
  · rintro ⟨_, _, _, _, m, g1, g2⟩
    rw [(h1.uniq g1).2.1, (h2.uniq g2).2.1]
  · rintro rfl
    exact ⟨_, _, _, _, _, h1, h2⟩
end Go.Proofs.Ythdngjpfmjnchaa
