/- How many days are worked on; there and back; what is left of a list that is sorted, each number once. Numbers and lists alone: no program. -/
import Derived.Test.YthdngjpfmjnchaaA
import Derived.WalkKit
import Derived.ProofKit
import Derived.Handy
import Derived.WalkLawsBesides
import Derived.WalkSpells
import Derived.BigQuiet
import Derived.Deep.QuietTactic
import Derived.Deep.Light
import Derived.Deep.OwnRows
import Derived.Laws.AppendOwnNone
import Derived.Deep.RegionWith
import Derived.Lib.BitFns
import Derived.Lib.Walk
import Derived.Deep.CutBlock
import Derived.Deep.DeepCutAuto
import Derived.Deep.LoopGhost
import Derived.Deep.RegionHeld3
import Derived.Lib.SlicesCompact
namespace Go.Proofs.Ythdngjpfmjnchaa
open Go.RowKit
set_option linter.unusedVariables false
set_option linter.unusedSimpArgs false
/-- how many of the days 0 up to n, without it, from lo on, are worked on -/
def cntW (ys : List Int) (lo : Int) : Nat → Int
  | 0 => 0
  | n + 1 => cntW ys lo n + (if lo ≤ (n : Int) ∧ wkB ys n = true then 1 else 0)
/-- how many days from Monday to Friday lie ahead of a day -/
def WB (n : Int) : Int := (n + 3) / 7 * 5 + min ((n + 3) % 7) 5
/-- how many of these lie from a up to b, and from Monday to Friday -/
def offs (ys : List Int) (a b : Int) : Int := ((ys.countP fun x => decide (a ≤ x ∧ x < b ∧ (x + 3) % 7 < 5) : Nat) : Int)

theorem WB_succ (n : Int) : WB (n + 1) = WB n + (if (n + 3) % 7 < 5 then 1 else 0) := by
  unfold WB
  split <;> omega
theorem offs_cons (y : Int) (ys : List Int) (a b : Int) : offs (y :: ys) a b = offs ys a b + (if a ≤ y ∧ y < b ∧ (y + 3) % 7 < 5 then 1 else 0) := by
  unfold offs
  rw [List.countP_cons]
  by_cases c : a ≤ y ∧ y < b ∧ (y + 3) % 7 < 5
  · rw [if_pos c, if_pos (decide_eq_true c)]; simp
  · rw [if_neg c, if_neg (by rw [decide_eq_true_eq]; exact c)]; simp
theorem offs_nil (a b : Int) : offs [] a b = 0 := rfl
theorem offs_snoc (ys : List Int) (y a b : Int) : offs (ys ++ [y]) a b = offs ys a b + (if a ≤ y ∧ y < b ∧ (y + 3) % 7 < 5 then 1 else 0) := by
  induction ys with
  | nil => rw [List.nil_append, offs_cons, offs_nil]
  | cons x xs ih => rw [List.cons_append, offs_cons, ih, offs_cons]; omega
theorem offs_bounds (ys : List Int) (a b : Int) : 0 ≤ offs ys a b ∧ offs ys a b ≤ ys.length := by
  unfold offs
  have := List.countP_le_length (p := fun x => decide (a ≤ x ∧ x < b ∧ (x + 3) % 7 < 5)) (l := ys)
  omega
theorem offs_same (ys : List Int) (a : Int) : offs ys a a = 0 := by
  induction ys with
  | nil => rfl
  | cons x xs ih => rw [offs_cons, ih, if_neg (by omega)]; rfl
theorem offs_succ (ys : List Int) (hn : ys.Nodup) (a b : Int) (hab : a ≤ b) : offs ys a (b + 1) = offs ys a b + (if b ∈ ys ∧ (b + 3) % 7 < 5 then 1 else 0) := by
  induction ys with
  | nil => simp [offs_nil]
  | cons x xs ih =>
    rw [List.nodup_cons] at hn
    rw [offs_cons, offs_cons, ih hn.2]
    by_cases e : x = b
    · subst e
      rw [if_neg (show ¬ (x ∈ xs ∧ (x + 3) % 7 < 5) from fun h => hn.1 h.1), if_neg (show ¬ (a ≤ x ∧ x < x ∧ (x + 3) % 7 < 5) by omega)]
      by_cases c : (x + 3) % 7 < 5
      · rw [if_pos ⟨hab, by omega, c⟩, if_pos ⟨List.mem_cons_self .., c⟩]
      · rw [if_neg (fun h => c h.2.2), if_neg (fun h => c h.2)]
    · have e1 : (b ∈ x :: xs ∧ (b + 3) % 7 < 5) ↔ (b ∈ xs ∧ (b + 3) % 7 < 5) := by
        rw [List.mem_cons]
        exact ⟨fun h => ⟨h.1.resolve_left (fun q => e q.symm), h.2⟩, fun h => ⟨.inr h.1, h.2⟩⟩
      have e2 : (a ≤ x ∧ x < b + 1 ∧ (x + 3) % 7 < 5) ↔ (a ≤ x ∧ x < b ∧ (x + 3) % 7 < 5) := by omega
      simp only [e1, e2]
      omega
theorem cnt_low (ys : List Int) (lo : Int) (n : Nat) (h : (n : Int) ≤ lo) : cntW ys lo n = 0 := by
  induction n with
  | zero => rfl
  | succ n ih =>
    have := ih (by omega)
    rw [cntW, this, if_neg (by omega)]
    rfl
/-- how many, reckoned by weeks -/
theorem cnt_weeks (ys : List Int) (hn : ys.Nodup) (lo : Int) (n : Nat) (h : (n : Int) ≤ 200001) (hl : max lo 0 ≤ n) : cntW ys lo n = WB n - WB (max lo 0) - offs ys (max lo 0) n := by
  induction n with
  | zero =>
    have e : max lo 0 = ((0 : Nat) : Int) := by omega
    rw [e, offs_same]
    simp [cntW]
  | succ n ih =>
    by_cases c : max lo 0 ≤ (n : Int)
    · rw [cntW, ih (by omega) c, show ((n + 1 : Nat) : Int) = (n : Int) + 1 by omega, WB_succ, offs_succ ys hn _ _ c]
      have hg : GoodD (n : Int) := by unfold GoodD; omega
      by_cases c1 : ((n : Int) + 3) % 7 < 5
      · by_cases c2 : (n : Int) ∈ ys
        · rw [if_neg (show ¬ (lo ≤ (n : Int) ∧ wkB ys n = true) from fun q => (of_decide_eq_true q.2).2.2 c2), if_pos c1, if_pos ⟨c2, c1⟩]
          omega
        · rw [if_pos (show lo ≤ (n : Int) ∧ wkB ys n = true from ⟨by omega, decide_eq_true ⟨hg, c1, c2⟩⟩), if_pos c1, if_neg (fun q => c2 q.1)]
          omega
      · rw [if_neg (show ¬ (lo ≤ (n : Int) ∧ wkB ys n = true) from fun q => c1 (of_decide_eq_true q.2).2.1), if_neg c1, if_neg (fun q => c1 q.2)]
        omega
    · have e : max lo 0 = ((n + 1 : Nat) : Int) := by omega
      rw [e, offs_same, cnt_low ys lo (n + 1) (by omega)]
      omega
theorem cnt_same {xs ys : List Int} (hm : ∀ x, x ∈ xs ↔ x ∈ ys) (lo : Int) (n : Nat) : cntW xs lo n = cntW ys lo n := by
  induction n with
  | zero => rfl
  | succ n ih => rw [cntW, cntW, ih, wk_same hm]
theorem cnt_bounds (ys : List Int) (lo : Int) (n : Nat) : 0 ≤ cntW ys lo n ∧ cntW ys lo n ≤ n := by
  induction n with
  | zero => simp [cntW]
  | succ n ih => rw [cntW]; split <;> omega
/-- how many days are worked on from one up to another one -/
def cntB (ys : List Int) (a b : Int) : Int := cntW ys a (min b 200001).toNat

theorem Sk.cnt {ys : List Int} {d z lo : Int} (h : Sk ys 1 d (some z)) (h0 : 0 ≤ d) : cntW ys lo z.toNat = cntW ys lo d.toNat := by
  refine Sk.ind (P := fun d r => 0 ≤ d → ∀ z, r = some z → cntW ys lo z.toNat = cntW ys lo d.toNat) h ?_ ?_ ?_ h0 z rfl
  · intro d e h0 z q
    cases q
    rfl
  · intro d n h0 z q
    cases q
  · intro d r g n q ih h0 z e
    rw [ih (by omega) z e, show (d + 1).toNat = d.toNat + 1 by omega, cntW, show ((d.toNat : Nat) : Int) = d by omega, n, if_neg (by simp)]
    omega
theorem Sk.up {ys : List Int} {d z : Int} (h : Sk ys 1 d (some z)) : d ≤ z := by
  refine Sk.ind (P := fun d r => ∀ z, r = some z → d ≤ z) h ?_ ?_ ?_ z rfl
  · intro d e z q
    cases q
    exact Int.le_refl _
  · intro d n z q
    cases q
  · intro d r g n q ih z e
    have := ih z e
    omega
theorem Mv.cnt {ys : List Int} {d lo : Int} {k : Nat} {r : Option Int} (h : Mv ys 1 k d r) (hd : wkB ys d = true) (hl : lo ≤ d) : ∀ t, r = some t → cntW ys lo t.toNat = cntW ys lo d.toNat + k ∧ d ≤ t := by
  induction k generalizing d with
  | zero =>
    intro t e
    have h' : r = some d := h
    rw [h'] at e
    cases e
    exact ⟨by omega, by omega⟩
  | succ k ih =>
    intro t e
    rcases h with ⟨_, rfl⟩ | ⟨x, p, m⟩
    · cases e
    · have hg := wk_good hd
      have hx := p.up
      obtain ⟨h1, h2⟩ := ih m p.wk (by omega) t e
      have h3 := p.cnt (lo := lo) (by have := hg.1; omega)
      rw [show (d + 1).toNat = d.toNat + 1 by have := hg.1; omega, cntW, show ((d.toNat : Nat) : Int) = d by have := hg.1; omega, if_pos ⟨hl, hd⟩] at h3
      refine ⟨?_, by omega⟩
      rw [h1, h3]
      omega
theorem Mv.between {ys : List Int} {d t : Int} {k : Nat} (h : Mv ys 1 k d (some t)) (hd : wkB ys d = true) : cntB ys d t = k := by
  have h1 := (h.cnt hd (Int.le_refl d) t rfl).1
  have h2 := wk_good (h.wk hd t rfl)
  have h3 := wk_good hd
  rw [cntB, show min t 200001 = t by have := h2.2; omega, h1, cnt_low ys d d.toNat (by have := h3.1; omega)]
  omega
theorem Sk.rev {ys : List Int} {e d x : Int} (h : Sk ys 1 e (some x)) (q : Sk ys (-1) (e + -1) (some d)) : Sk ys (-1) (x + -1) (some d) := by
  refine Sk.ind (P := fun e r => ∀ x, r = some x → Sk ys (-1) (e + -1) (some d) → Sk ys (-1) (x + -1) (some d)) h ?_ ?_ ?_ x rfl q
  · intro e _ x hr q
    cases hr
    exact q
  · intro e _ x hr
    cases hr
  · intro e r g n _ ih x hr q
    refine ih x hr ?_
    rw [show e + 1 + -1 = e by omega]
    exact Sk.on g n q
theorem Mv.rev {ys : List Int} {d : Int} {k : Nat} {r : Option Int} (h : Mv ys 1 k d r) (hd : wkB ys d = true) : ∀ t, r = some t → Mv ys (-1) k t (some d) := by
  induction k generalizing d with
  | zero =>
    intro t e
    have h' : r = some d := h
    rw [h'] at e
    cases e
    exact Mv.zero
  | succ k ih =>
    intro t e
    rcases h with ⟨_, rfl⟩ | ⟨x, p, m⟩
    · cases e
    · refine (ih m p.wk t e).snoc (p.rev ?_)
      rw [show d + 1 + -1 = d by omega]
      exact Sk.hit hd

/-- sorted, each number once -/
def srt (xs : List Int) : List Int := Lib.compact (xs.mergeSort fun x y => decide (x ≤ y))
theorem compact_facts (d : Array Int) (hs : ∀ i j, i ≤ j → j < d.size → d[i]! ≤ d[j]!) (m : Nat) (hm : m ≤ d.size) :
    (∀ x, x ∈ Lib.compactUpTo d m ↔ ∃ j, j < m ∧ d[j]! = x) ∧ (Lib.compactUpTo d m).Pairwise (· < ·) := by
  induction m with
  | zero => exact ⟨fun x => by simp [Lib.compactUpTo], by simp [Lib.compactUpTo]⟩
  | succ m ih =>
    obtain ⟨h1, h2⟩ := ih (by omega)
    rw [Lib.compactUpTo_succ]
    by_cases hk : Lib.keeps d m = true
    · rw [if_pos hk]
      have hk' : m = 0 ∨ d[m]! ≠ d[m - 1]! := of_decide_eq_true hk
      constructor
      · intro x
        rw [List.mem_append, h1, List.mem_singleton]
        constructor
        · rintro (⟨j, hj, e⟩ | rfl)
          · exact ⟨j, by omega, e⟩
          · exact ⟨m, by omega, rfl⟩
        · rintro ⟨j, hj, e⟩
          by_cases c : j = m
          · subst c; exact .inr e.symm
          · exact .inl ⟨j, by omega, e⟩
      · rw [List.pairwise_append]
        refine ⟨h2, List.pairwise_singleton _ _, ?_⟩
        intro a ha b hb
        rw [List.mem_singleton] at hb
        subst hb
        obtain ⟨j, hj, e⟩ := (h1 a).1 ha
        have e1 := hs j (m - 1) (by omega) (by omega)
        have e2 := hs (m - 1) m (by omega) (by omega)
        have e3 : d[m]! ≠ d[m - 1]! := hk'.resolve_left (by omega)
        omega
    · rw [if_neg hk, List.append_nil]
      refine ⟨fun x => ?_, h2⟩
      have hk' : ¬ (m = 0 ∨ d[m]! ≠ d[m - 1]!) := fun q => hk (decide_eq_true q)
      have e3 : d[m]! = d[m - 1]! := by
        rcases Decidable.em (d[m]! = d[m - 1]!) with q | q
        · exact q
        · exact absurd (.inr q) hk'
      have hm0 : m ≠ 0 := fun q => hk' (.inl q)
      rw [h1]
      constructor
      · rintro ⟨j, hj, e⟩
        exact ⟨j, by omega, e⟩
      · rintro ⟨j, hj, e⟩
        by_cases c : j = m
        · subst c; exact ⟨j - 1, by omega, by rw [← e3]; exact e⟩
        · exact ⟨j, by omega, e⟩
theorem srt_facts (xs : List Int) : (∀ x, x ∈ srt xs ↔ x ∈ xs) ∧ (srt xs).Pairwise (· < ·) ∧ (srt xs).length ≤ xs.length := by
  have hp : (xs.mergeSort fun x y => decide (x ≤ y)).Perm xs := List.mergeSort_perm xs _
  have hs : (xs.mergeSort fun x y => decide (x ≤ y)).Pairwise (fun a b => decide (a ≤ b) = true) := List.pairwise_mergeSort (le := fun x y => decide (x ≤ y)) (by intro a b c h1 h2; simp only [decide_eq_true_eq] at *; omega) (by intro a b; simp only [Bool.or_eq_true, decide_eq_true_eq]; omega) xs
  generalize hz : (xs.mergeSort fun x y => decide (x ≤ y)) = zs at hp hs
  have hsrt : srt xs = Lib.compactUpTo zs.toArray zs.length := by rw [srt, hz]; rfl
  have h := compact_facts zs.toArray (by
    intro i j hij hj
    have hj' : j < zs.length := by simpa using hj
    rw [getElem!_pos zs.toArray i (by simp; omega), getElem!_pos zs.toArray j hj]
    by_cases c : i = j
    · subst c; exact Int.le_refl _
    · have := List.pairwise_iff_getElem.1 hs i j (by omega) hj' (by omega)
      simpa using this) zs.length (by simp)
  rw [hsrt]
  refine ⟨fun x => ?_, h.2, ?_⟩
  · rw [h.1 x, ← hp.mem_iff]
    constructor
    · rintro ⟨j, hj, e⟩
      rw [getElem!_pos zs.toArray j (by simpa using hj)] at e
      rw [← e]
      simp
    · intro hx
      obtain ⟨j, hj, e⟩ := List.mem_iff_getElem.1 hx
      exact ⟨j, hj, by rw [getElem!_pos zs.toArray j (by simpa using hj)]; simpa using e⟩
  · rw [← hp.length_eq]
    unfold Lib.compactUpTo
    rw [List.length_map]
    exact Nat.le_trans (List.length_filter_le _ _) (by simp)
theorem lt_nodup {ys : List Int} (h : ys.Pairwise (· < ·)) : ys.Nodup := by
  induction ys with
  | nil => exact List.nodup_nil
  | cons x xs ih =>
    rw [List.pairwise_cons] at h
    rw [List.nodup_cons]
    exact ⟨fun q => by have := h.1 x q; omega, ih h.2⟩
theorem lt_le {ys : List Int} (h : ys.Pairwise (· < ·)) : ys.Pairwise (· ≤ ·) := by
  induction ys with
  | nil => exact List.Pairwise.nil
  | cons x xs ih =>
    rw [List.pairwise_cons] at h
    rw [List.pairwise_cons]
    exact ⟨fun y q => by have := h.1 y q; omega, ih h.2⟩
end Go.Proofs.Ythdngjpfmjnchaa
