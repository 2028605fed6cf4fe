/- layer 11, numbers: balances that a ledger is made of -/
import Derived.Test.YtbfnfebmmhhegaaB
import Derived.WalkKit
namespace Go.Proofs.Ytbfnfebmmhhegaa.Num
open Go.RowKit
set_option linter.unusedVariables false
set_option linter.unusedSimpArgs false
/-- what is wrong with a balance by itself -/
def balw (p : Bal) : Int := if wr p.1 ≠ 0 then wr p.1 else if p.2 = 0 ∨ (p.2 < 0 ∧ 0 < p.1.1) ∨ p.2 < -72057594037927936 ∨ 72057594037927936 < p.2 then 1 else 0
theorem balw_ok {p : Bal} (h : balw p = 0) : wr p.1 = 0 ∧ p.2 ≠ 0 ∧ (0 < p.1.1 → 0 ≤ p.2) ∧ -72057594037927936 ≤ p.2 ∧ p.2 ≤ 72057594037927936 := by
  unfold balw at h
  split at h
  · rename_i c; exact absurd h c
  · rename_i c
    split at h
    · cases h
    · exact ⟨Decidable.of_not_not c, by omega, by omega, by omega, by omega⟩
/-- what is wrong at a place -/
def fltAt (l : List Bal) (k : Nat) : Int :=
  match l[k]? with
  | none => 0
  | some p => if balw p ≠ 0 then balw p else
    match k with
    | 0 => 0
    | j + 1 => match l[j]? with
      | none => 0
      | some q => if aheadB q.1 p.1 = true then 0 else 7
theorem fltAt_bal {l : List Bal} {k : Nat} (h : k < l.length) (c : balw l[k] ≠ 0) : fltAt l k = balw l[k] := by
  unfold fltAt
  rw [List.getElem?_eq_getElem h]
  simp only
  rw [if_pos c]
theorem fltAt_zero {l : List Bal} (h : 0 < l.length) (c : balw l[0] = 0) : fltAt l 0 = 0 := by
  unfold fltAt
  rw [List.getElem?_eq_getElem h]
  simp only
  rw [if_neg (by simp [c])]
theorem fltAt_succ {l : List Bal} {j : Nat} (h : j + 1 < l.length) (c : balw l[j + 1] = 0) : fltAt l (j + 1) = if aheadB l[j].1 l[j + 1].1 = true then 0 else 7 := by
  unfold fltAt
  rw [List.getElem?_eq_getElem h]
  simp only
  rw [if_neg (by simp [c]), List.getElem?_eq_getElem (by omega)]
theorem fltAt_ok {l : List Bal} {k : Nat} (h : k < l.length) (c : fltAt l k = 0) : balw l[k] = 0 := by
  by_cases e : balw l[k] = 0
  · exact e
  · rw [fltAt_bal h e] at c; exact c
def Pre (l : List Bal) (k : Nat) : Prop := ∀ i, i < k → fltAt l i = 0
theorem Pre.zero (l : List Bal) : Pre l 0 := fun i h => absurd h (Nat.not_lt_zero i)
theorem Pre.succ {l : List Bal} {k : Nat} (h : Pre l k) (c : fltAt l k = 0) : Pre l (k + 1) := fun i hi => by
  rcases Nat.lt_or_ge i k with h1 | h1
  · exact h i h1
  · obtain rfl : i = k := by omega
    exact c
/-- of each thing nothing -/
def evB (l : List Bal) : Bool := l.all fun p => tot p.1.2.2 l == 0
def OfR (l : List Bal) (e : Int) : Prop := (∃ k, k < l.length ∧ Pre l k ∧ fltAt l k = e ∧ e ≠ 0) ∨ (Pre l l.length ∧ e = if evB l = true then 0 else 20)
theorem OfR.det {l : List Bal} {e e' : Int} (h : OfR l e) (k : OfR l e') : e = e' := by
  rcases h with ⟨i, hi, hp, he, h0⟩ | ⟨hp, he⟩ <;> rcases k with ⟨j, hj, hq, hf, k0⟩ | ⟨hq, hf⟩
  · rcases Nat.lt_trichotomy i j with c | rfl | c
    · have := hq i c; omega
    · omega
    · have := hp j c; omega
  · have := hq i hi; omega
  · have := hp j hj; omega
  · rw [he, hf]
theorem srt_take {l : List Bal} : ∀ (k : Nat), k ≤ l.length → Pre l k → Srt (l.take k)
  | 0, _, _ => by simp [Srt]
  | k + 1, hk, h => by
    have i1 := srt_take k (by omega) (fun i hi => h i (by omega))
    rw [← List.take_append_getElem (by omega : k < l.length)]
    refine List.pairwise_append.2 ⟨i1, by simp, fun p hp q hq => ?_⟩
    rw [List.mem_singleton.1 hq]
    match k, hk, h, i1, hp with
    | 0, _, _, _, hp => simp at hp
    | j + 1, hk, h, i1, hp =>
      have c := h (j + 1) (by omega)
      rw [fltAt_succ (by omega) (fltAt_ok (by omega) c)] at c
      have ha : ahead l[j].1 l[j + 1].1 := by
        by_cases e : aheadB l[j].1 l[j + 1].1 = true
        · exact aheadB_iff.1 e
        · rw [if_neg e] at c; cases c
      rw [← List.take_append_getElem (by omega : j < l.length)] at i1 hp
      rcases List.mem_append.1 hp with hp | hp
      · exact ahead_trans ((List.pairwise_append.1 i1).2.2 p hp _ (by simp)) ha
      · rw [List.mem_singleton.1 hp]; exact ha
theorem pre_good {l : List Bal} (k : Nat) (hk : k ≤ l.length) (h : Pre l k) : Good (l.take k) := by
  have hb : ∀ p ∈ l.take k, balw p = 0 := by
    intro p hp
    obtain ⟨i, hi, rfl⟩ := List.getElem_of_mem hp
    rw [List.length_take] at hi
    rw [List.getElem_take]
    exact fltAt_ok (by omega) (h i (by omega))
  exact ⟨srt_take k hk h, fun p hp => (balw_ok (hb p hp)).2.1, fun p hp => (balw_ok (hb p hp)).1, fun p hp => (balw_ok (hb p hp)).2.2.2.1, fun p hp => (balw_ok (hb p hp)).2.2.2.2, fun p hp => (balw_ok (hb p hp)).2.2.1⟩
theorem pre_good_all {l : List Bal} (h : Pre l l.length) : Good l := by
  have := pre_good l.length (Nat.le_refl _) h
  rwa [List.take_length] at this
theorem tot_append (t : List UInt8) : ∀ (C D : List Bal), tot t (C ++ D) = tot t C + tot t D
  | [], D => by simp [tot]
  | p :: r, D => by simp only [List.cons_append, tot, tot_append t r D]; omega
theorem tot_none {t : List UInt8} {C : List Bal} (h : ∀ p ∈ C, p.1.2.2 ≠ t) : tot t C = 0 := by
  induction C with
  | nil => rfl
  | cons p r ih => simp only [tot, if_neg (h p (by simp)), ih (fun q hq => h q (by simp [hq]))]; rfl
/-- amounts together -/
def amt : List Bal → Int
  | [] => 0
  | p :: r => p.2 + amt r
theorem amt_snoc : ∀ (C : List Bal) (p : Bal), amt (C ++ [p]) = amt C + p.2
  | [], p => by simp [amt]
  | q :: r, p => by simp only [List.cons_append, amt, amt_snoc r p]; omega
theorem amt_bound : ∀ {C : List Bal}, (∀ p ∈ C, -72057594037927936 ≤ p.2 ∧ p.2 ≤ 72057594037927936) → -(72057594037927936 * (C.length : Int)) ≤ amt C ∧ amt C ≤ 72057594037927936 * (C.length : Int)
  | [], _ => by simp [amt]
  | p :: r, h => by
    have h1 := h p (by simp)
    have h2 := amt_bound (C := r) (fun q hq => h q (by simp [hq]))
    simp only [amt, List.length_cons]
    omega
theorem tot_bound (t : List UInt8) : ∀ {C : List Bal}, (∀ p ∈ C, -72057594037927936 ≤ p.2 ∧ p.2 ≤ 72057594037927936) → -(72057594037927936 * (C.length : Int)) ≤ tot t C ∧ tot t C ≤ 72057594037927936 * (C.length : Int)
  | [], _ => by simp [tot]
  | p :: r, h => by
    have h1 := h p (by simp)
    have h2 := tot_bound t (C := r) (fun q hq => h q (by simp [hq]))
    simp only [tot, List.length_cons]
    split <;> omega
/-- in the midst of 'even' -/
def EvI (l : List Bal) (k : Nat) : Prop := k = 0 ∨ ∃ j q, k = j + 1 ∧ l[j]? = some q ∧ amt (l.take k) = tot q.1.2.2 (l.take k) ∧ ∀ t, t ≠ q.1.2.2 → tot t (l.take k) = 0
theorem EvI.same {l : List Bal} {k : Nat} (h : EvI l k) (hk : k < l.length) (c : ∀ j, k = j + 1 → (l[j]?.map fun q => q.1.2.2) = some l[k].1.2.2 ∨ amt (l.take k) = 0) : EvI l (k + 1) := by
  refine .inr ⟨k, l[k], rfl, List.getElem?_eq_getElem hk, ?_, fun t ht => ?_⟩ <;> rw [← List.take_append_getElem hk, tot_append]
  · rw [amt_snoc]
    have e1 : tot l[k].1.2.2 [l[k]] = l[k].2 := by simp [tot]
    rw [e1]
    rcases h with rfl | ⟨j, q, rfl, hq, ha, ho⟩
    · simp [amt, tot]
    · rcases c j rfl with c | c
      · rw [hq] at c
        have c' : q.1.2.2 = l[j + 1].1.2.2 := by simpa using c
        rw [ha, c']
      · rw [c]
        by_cases e : l[j + 1].1.2.2 = q.1.2.2
        · rw [e, ← ha, c]
        · rw [ho _ e]
  · have e1 : tot t [l[k]] = 0 := by simp [tot, Ne.symm ht]
    rw [e1, Int.add_zero]
    rcases h with rfl | ⟨j, q, rfl, hq, ha, ho⟩
    · simp [tot]
    · rcases c j rfl with c | c
      · rw [hq] at c
        have c' : q.1.2.2 = l[j + 1].1.2.2 := by simpa using c
        exact ho t (by rw [c']; exact ht)
      · by_cases e : t = q.1.2.2
        · rw [e, ← ha, c]
        · exact ho _ e
theorem EvI.fin {l : List Bal} (h : EvI l l.length) : evB l = (amt l == 0) := by
  rcases h with h | ⟨j, q, hj, hq, ha, ho⟩
  · obtain rfl := List.length_eq_zero_iff.1 h
    rfl
  · rw [List.take_length] at ha ho
    have hm : q ∈ l := List.mem_of_getElem? hq
    by_cases c : amt l = 0
    · have : evB l = true := by
        refine List.all_eq_true.2 fun p hp => ?_
        by_cases e : p.1.2.2 = q.1.2.2
        · rw [e, ← ha, c]; rfl
        · rw [ho _ e]; rfl
      rw [this, c]; rfl
    · have : evB l = false := by
        by_cases hb : evB l = true
        · have := List.all_eq_true.1 hb q hm
          simp only [beq_iff_eq] at this
          exact absurd (ha.trans this) c
        · simpa using hb
      rw [this]
      simpa using c
theorem ahead_le {a b : Acc} (h : ahead a b) : a.2.2 < b.2.2 ∨ a.2.2 = b.2.2 := by
  rcases h with h | ⟨h, _⟩
  · exact .inl h
  · exact .inr h
theorem EvI.odd {l : List Bal} {j : Nat} (h : EvI l (j + 1)) (hk : j + 1 < l.length) (hs : Srt l) (hne : l[j].1.2.2 ≠ l[j + 1].1.2.2) (hv : amt (l.take (j + 1)) ≠ 0) : evB l = false := by
  rcases h with h | ⟨i, q, hi, hq, ha, ho⟩
  · cases h
  · obtain rfl : i = j := by omega
    have hil : i < l.length := Nat.lt_of_succ_lt hk
    clear hi
    rw [List.getElem?_eq_getElem hil] at hq
    obtain rfl := Option.some.inj hq
    have hd : tot l[i].1.2.2 (l.drop (i + 1)) = 0 := by
      refine tot_none fun r hr => ?_
      have hsp : Srt (l.take (i + 1) ++ l.drop (i + 1)) := by rw [List.take_append_drop]; exact hs
      have hpw := List.pairwise_append.1 hsp
      have h1 : ahead l[i].1 l[i + 1].1 := hpw.2.2 _ (List.mem_take_iff_getElem.2 ⟨i, by omega, rfl⟩) _ (List.mem_drop_iff_getElem.2 ⟨0, by omega, rfl⟩)
      have h2 : l[i].1.2.2 < l[i + 1].1.2.2 := by
        rcases ahead_le h1 with h | h
        · exact h
        · exact absurd h hne
      have hdr := List.drop_eq_getElem_cons hk
      rw [hdr] at hr hpw
      have h3 : r = l[i + 1] ∨ ahead l[i + 1].1 r.1 := by
        rcases List.mem_cons.1 hr with h | h
        · exact .inl h
        · exact .inr ((List.pairwise_cons.1 hpw.2.1).1 r h)
      have h4 : l[i].1.2.2 < r.1.2.2 := by
        rcases h3 with rfl | h3
        · exact h2
        · rcases ahead_le h3 with h | h
          · exact List.lt_trans h2 h
          · rw [← h]; exact h2
      intro e
      rw [e] at h4
      exact List.lt_irrefl _ h4
    have hm : l[i] ∈ l := List.getElem_mem _
    have ht : tot l[i].1.2.2 l ≠ 0 := by
      have e : tot l[i].1.2.2 l = tot l[i].1.2.2 (l.take (i + 1)) + tot l[i].1.2.2 (l.drop (i + 1)) := by rw [← tot_append, List.take_append_drop]
      rw [e, hd, Int.add_zero, ← ha]
      exact hv
    by_cases hb : evB l = true
    · have := List.all_eq_true.1 hb _ hm
      simp only [beq_iff_eq] at this
      exact absurd this ht
    · simpa using hb
end Go.Proofs.Ytbfnfebmmhhegaa.Num
