/- layer 16, numbers: sums over keys; sorted keys -/
import Derived.Test.YtdfadcbchiogjaaGreatLD
import Derived.Test.YtdfadcbchiogjaaGreatMA
import Derived.WalkKit
import Derived.ProofKit
import Derived.Handy
import Derived.WalkLawsBesides
import Derived.WalkSpells
import Derived.BigQuiet
import Derived.BigCall
import Derived.Deep.QuietTactic
import Derived.Deep.Light
import Derived.Deep.OwnRows
import Derived.Laws.AppendOwnNone
import Derived.Laws.Strings3
import Derived.Laws.RangeAny
import Derived.Deep.RegionWith
import Derived.Lib.BitFns
import Derived.Lib.Walk
import Derived.Lib.Strings
import Derived.Lib.OthersKept
import Derived.Deep.CutBlock
import Derived.Deep.DeepCutAuto
import Derived.Deep.LoopGhost
import Derived.Deep.RegionHeld3
import Derived.Lib.SmallJoins
import Derived.Maps.AppendAt
import Derived.Laws.IdiomStrings
import Derived.Lib.AppendZeros
import Derived.Deep.WholeRow
import Derived.Laws.BitsAllLaws
import Derived.Lib.ConvBytes
import Derived.Deep.RegionLaw
import Derived.Maps.OwnSet
import Derived.Maps.OwnOps
import Derived.Maps.RangeWalk
import Derived.Maps.Ext
import Derived.DeepKeys4
import Derived.Laws.StructEq
import Derived.Deep.MidRow
import Derived.Lib.Bytealg
import Derived.Lib.AppendZerosOnto
import Derived.Laws.MakeOwn
import Derived.Deep.Upon
import Derived.Sort.KeysCollected
namespace Go.Proofs.YtdfadcbchiogjaaGreat
open Go.RowKit
set_option linter.unusedVariables false
set_option linter.unusedSimpArgs false
theorem sum_eq_of {α : Type} [DecidableEq α] (g : α → Int) (a : α) (c : Int) : ∀ {K : List α}, K.Nodup → ((K.map fun k => (if a = k then c else 0) + g k).sum = (if a ∈ K then c else 0) + (K.map g).sum)
  | [], _ => by simp
  | k :: K, h => by
    have hk := List.nodup_cons.1 h
    have ih := sum_eq_of g a c hk.2
    simp only [List.map_cons, List.sum_cons, ih, List.mem_cons]
    by_cases e : a = k
    · subst e
      rw [if_pos rfl, if_neg hk.1, if_pos (Or.inl rfl)]
      omega
    · rw [if_neg e]
      by_cases e2 : a ∈ K
      · rw [if_pos e2, if_pos (Or.inr e2)]; omega
      · rw [if_neg e2, if_neg (by rintro (h | h); exact e h; exact e2 h)]; omega
theorem sum_all : ∀ {L : List Pt} {K : List Int}, K.Nodup → (∀ p ∈ L, p.i ∈ K) → (K.map (smI L)).sum = sm L
  | [], K, _, _ => by
    have : ∀ K : List Int, (K.map (smI [])).sum = 0 := fun K => by
      induction K with
      | nil => rfl
      | cons k K ih => rw [List.map_cons, List.sum_cons, ih]; rfl
    exact this K
  | p :: L, K, hn, h => by
    have ih := sum_all hn (fun q hq => h q (List.mem_cons_of_mem _ hq))
    have h1 := sum_eq_of (smI L) p.i p.c hn
    rw [if_pos (h p (by simp)), ih] at h1
    exact h1
theorem sum_zero {K : List Int} {f : Int → Int} (h : ∀ k ∈ K, f k = 0) : (K.map f).sum = 0 := by
  induction K with
  | nil => rfl
  | cons k K ih => simp only [List.map_cons, List.sum_cons, h k (by simp), ih (fun q hq => h q (List.mem_cons_of_mem _ hq))]; rfl
theorem sum_keys {L : List Pt} {K : List Int} (hn : K.Nodup) (h : ∀ n, smI L n ≠ 0 → n ∈ K) : (K.map (smI L)).sum = sm L := by
  obtain ⟨M, hM⟩ : ∃ M, M = (ups (fun a b : Int => decide (a < b)) (L.map (·.i))).filter (fun n => decide (n ∉ K)) := ⟨_, rfl⟩
  have hMn : M.Nodup := by
    rw [hM]
    refine List.Pairwise.filter _ ((ups_up ordI _).imp (fun {a b} h e => ?_))
    subst e
    simp at h
  have hd : (K ++ M).Nodup := List.nodup_append.2 ⟨hn, hMn, fun a ha b hb e => by
    subst e
    rw [hM] at hb
    have := (List.mem_filter.1 hb).2
    simp at this
    exact this ha⟩
  have hz : ∀ k ∈ M, smI L k = 0 := fun k hk => by
    rw [hM] at hk
    have := (List.mem_filter.1 hk).2
    simp at this
    exact Classical.byContradiction (fun e => this (h k e))
  have := sum_all (L := L) hd (fun p hp => by
    by_cases e : p.i ∈ K
    · exact List.mem_append_left _ e
    · refine List.mem_append_right _ ?_
      rw [hM]
      exact List.mem_filter.2 ⟨(ups_mem ordI).2 (List.mem_map.2 ⟨p, hp, rfl⟩), by simpa using e⟩)
  rw [List.map_append, List.sum_append, sum_zero hz] at this
  omega
theorem sorted_i {ss K : List Int} (hp : ss.Perm K) (hn : K.Nodup) : (ss.mergeSort fun x y => decide (x ≤ y)).Pairwise (fun a b => decide (a < b) = true) ∧ ∀ a, a ∈ (ss.mergeSort fun x y => decide (x ≤ y)) ↔ a ∈ K := by
  have h1 := List.pairwise_mergeSort (le := fun x y : Int => decide (x ≤ y)) (by intro a b c h1 h2; simp at *; omega) (by intro a b; simp; omega) ss
  have h2 : (ss.mergeSort fun x y => decide (x ≤ y)).Nodup := (List.mergeSort_perm _ _).nodup_iff.2 (hp.nodup_iff.2 hn)
  refine ⟨(h1.and h2).imp (fun {a b} h => ?_), fun a => ?_⟩
  · have := h.1
    have := h.2
    simp at *
    omega
  · rw [(List.mergeSort_perm _ _).mem_iff, hp.mem_iff]
theorem sorted_s {ss K : List (List UInt8)} (hp : ss.Perm K) (hn : K.Nodup) : (ss.mergeSort fun x y => decide (x ≤ y)).Pairwise (fun a b => decide (a < b) = true) ∧ ∀ a, a ∈ (ss.mergeSort fun x y => decide (x ≤ y)) ↔ a ∈ K := by
  have h1 := List.pairwise_mergeSort (le := fun x y : List UInt8 => decide (x ≤ y)) (fun a b c h1 h2 => by simp only [decide_eq_true_eq] at *; exact List.le_trans h1 h2) (fun a b => by simp only [Bool.or_eq_true, decide_eq_true_eq]; exact List.le_total a b) ss
  have h2 : (ss.mergeSort fun x y => decide (x ≤ y)).Nodup := (List.mergeSort_perm _ _).nodup_iff.2 (hp.nodup_iff.2 hn)
  refine ⟨(h1.and h2).imp (fun {a b} h => ?_), fun a => ?_⟩
  · have e1 := h.1
    have e2 := h.2
    simp only [decide_eq_true_eq] at e1 ⊢
    rcases ordS.tri a b with k | k | k
    · simpa using k
    · exact absurd k e2
    · exact absurd (of_decide_eq_true k) (List.not_lt.2 e1)
  · rw [(List.mergeSort_perm _ _).mem_iff, hp.mem_iff]
theorem upsI_is {L : List Pt} {K : List Int} (h0 : ∀ n, 0 ≤ smI L n) (hp : K.Pairwise (fun a b => decide (a < b) = true)) (hm : ∀ n, n ∈ K ↔ smI L n ≠ 0) : K = upsI L := up_extG ordI hp (upsI_up L) (fun n => by
  rw [hm, upsI_mem]
  have := h0 n
  omega)
theorem upsA_is {L : List Pt} {K : List (List UInt8)} (h0 : ∀ n, 0 ≤ smA L n) (hp : K.Pairwise (fun a b => decide (a < b) = true)) (hm : ∀ n, n ∈ K ↔ smA L n ≠ 0) : K = upsA L := up_extG ordS hp (upsA_up L) (fun n => by
  rw [hm, upsA_mem]
  have := h0 n
  omega)
theorem upsI_len (L : List Pt) : (upsI L).length ≤ L.length := by
  refine Nat.le_trans (nd_len (L := L.map (·.i)) ((upsI_up L).imp (fun {a b} h e => by subst e; simp at h)) (fun x hx => ?_)) (by simp)
  have := upsI_mem.1 hx
  by_cases h3 : ∃ p ∈ L, p.i = x
  · obtain ⟨p, hp, rfl⟩ := h3
    exact List.mem_map.2 ⟨p, hp, rfl⟩
  · rw [smI_none (fun p hp e => h3 ⟨p, hp, e⟩)] at this
    omega
theorem upsA_len (L : List Pt) : (upsA L).length ≤ L.length := by
  refine Nat.le_trans (nd_len (L := L.map (·.s)) ((upsA_up L).imp (fun {a b} h e => by subst e; exact absurd h (by rw [ordS.irr]; simp))) (fun x hx => ?_)) (by simp)
  have := upsA_mem.1 hx
  by_cases h3 : ∃ p ∈ L, p.s = x
  · obtain ⟨p, hp, rfl⟩ := h3
    exact List.mem_map.2 ⟨p, hp, rfl⟩
  · rw [smA_none (fun p hp e => h3 ⟨p, hp, e⟩)] at this
    omega
theorem smI_src {L : List Pt} {n : Int} (h : smI L n ≠ 0) : n ∈ L.map (·.i) := by
  by_cases h3 : ∃ p ∈ L, p.i = n
  · obtain ⟨p, hp, rfl⟩ := h3
    exact List.mem_map.2 ⟨p, hp, rfl⟩
  · exact absurd (smI_none (fun p hp e => h3 ⟨p, hp, e⟩)) h
theorem smA_src {L : List Pt} {n : List UInt8} (h : smA L n ≠ 0) : n ∈ L.map (·.s) := by
  by_cases h3 : ∃ p ∈ L, p.s = n
  · obtain ⟨p, hp, rfl⟩ := h3
    exact List.mem_map.2 ⟨p, hp, rfl⟩
  · exact absurd (smA_none (fun p hp e => h3 ⟨p, hp, e⟩)) h
end Go.Proofs.YtdfadcbchiogjaaGreat
