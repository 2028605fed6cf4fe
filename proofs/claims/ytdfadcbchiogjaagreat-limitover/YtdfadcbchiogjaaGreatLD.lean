/- layer 16, numbers: the greatest issuer, of several the least number -/
import Derived.Test.YtdfadcbchiogjaaGreatLB
import Derived.WalkKit
namespace Go.Proofs.YtdfadcbchiogjaaGreat
open Go.RowKit
set_option linter.unusedVariables false
set_option linter.unusedSimpArgs false
def isB (f : Int → Int) (S : List Int) (b : Int) : Prop := b ∈ S ∧ ∀ m ∈ S, f m < f b ∨ (f m = f b ∧ b ≤ m)
theorem isB_det {f : Int → Int} {S : List Int} {a b : Int} (h : isB f S a) (k : isB f S b) : a = b := by
  have h1 := h.2 b k.1
  have h2 := k.2 a h.1
  omega
theorem isB_one (f : Int → Int) (n : Int) : isB f [n] n := ⟨by simp, fun m hm => by
  simp at hm
  subst hm
  exact .inr ⟨rfl, Int.le_refl _⟩⟩
def stB (f : Int → Int) (b n : Int) : Int := if f b < f n ∨ (f n = f b ∧ n < b) then n else b
theorem isB_snoc {f : Int → Int} {S : List Int} {b : Int} (h : isB f S b) (n : Int) : isB f (S ++ [n]) (stB f b n) := by
  unfold stB
  split
  · rename_i h0
    refine ⟨by simp, fun m hm => ?_⟩
    rcases List.mem_append.1 hm with hm | hm
    · have := h.2 m hm
      omega
    · simp at hm
      subst hm
      exact .inr ⟨rfl, Int.le_refl _⟩
  · rename_i h0
    refine ⟨List.mem_append_left _ h.1, fun m hm => ?_⟩
    rcases List.mem_append.1 hm with hm | hm
    · exact h.2 m hm
    · simp at hm
      subst hm
      omega
theorem isB_same {f : Int → Int} {S T : List Int} {b : Int} (h : isB f S b) (hm : ∀ n, n ∈ T ↔ n ∈ S) : isB f T b := ⟨(hm b).2 h.1, fun m hm2 => h.2 m ((hm m).1 hm2)⟩
/-- those that cover nothing bear no difference, where one covers something -/
theorem isB_pos {f : Int → Int} {S : List Int} {b m : Int} (h : isB f S b) (hm : m ∈ S) (hp : 0 < f m) : isB f (S.filter (fun n => decide (0 < f n))) b := by
  have h1 := h.2 m hm
  refine ⟨List.mem_filter.2 ⟨h.1, decide_eq_true (by omega)⟩, fun n hn => h.2 n (List.mem_filter.1 hn).1⟩
theorem isB_of_pos {f : Int → Int} {S : List Int} {b : Int} (h : isB f (S.filter (fun n => decide (0 < f n))) b) : isB f S b := by
  have h0 := List.mem_filter.1 h.1
  have hb : 0 < f b := of_decide_eq_true h0.2
  refine ⟨h0.1, fun m hm => ?_⟩
  by_cases hp : 0 < f m
  · exact h.2 m (List.mem_filter.2 ⟨hm, decide_eq_true hp⟩)
  · exact .inl (by omega)
/-- one that covers something, where all together do -/
theorem sm_pos {L : List Pt} (h : 0 < sm L) : ∃ p ∈ L, 0 < p.c := by
  induction L with
  | nil => simp [sm] at h
  | cons p L ih =>
    by_cases h1 : 0 < p.c
    · exact ⟨p, by simp, h1⟩
    · rw [sm] at h
      obtain ⟨q, hq, h2⟩ := ih (by omega)
      exact ⟨q, List.mem_cons_of_mem _ hq, h2⟩
theorem smI_nn {L : List Pt} (h : ∀ p ∈ L, 0 ≤ p.c) (n : Int) : 0 ≤ smI L n := by
  induction L with
  | nil => simp [smI]
  | cons p L ih =>
    have h1 := ih (fun q hq => h q (List.mem_cons_of_mem _ hq))
    have h2 := h p (by simp)
    rw [smI]
    split <;> omega
theorem smI_ge {L : List Pt} (h : ∀ p ∈ L, 0 ≤ p.c) {p : Pt} (hp : p ∈ L) : p.c ≤ smI L p.i := by
  induction L with
  | nil => cases hp
  | cons q L ih =>
    have h0 : ∀ p ∈ L, 0 ≤ p.c := fun q hq => h q (List.mem_cons_of_mem _ hq)
    rw [smI]
    rcases List.mem_cons.1 hp with rfl | hp
    · have := smI_nn h0 p.i
      rw [if_pos rfl]
      omega
    · have h1 := ih h0 hp
      have h2 := h q (by simp)
      split <;> omega
theorem smI_le {L : List Pt} (h : ∀ p ∈ L, 0 ≤ p.c) (n : Int) : smI L n ≤ sm L := by
  induction L with
  | nil => simp [smI, sm]
  | cons p L ih =>
    have h1 := ih (fun q hq => h q (List.mem_cons_of_mem _ hq))
    have h2 := h p (by simp)
    rw [smI, sm]
    split <;> omega
/-- those above their limits -/
def Tb.over (t : Tb) : List Us := t.uses.filter (fun u => decide (u.l < u.c))
theorem over_none {t : Tb} {k : Nat} (h : Good t k) : t.over = [] := by
  unfold Tb.over
  rw [List.filter_eq_nil_iff]
  intro u hu
  have := uses_keep h hu
  simp
  omega
end Go.Proofs.YtdfadcbchiogjaaGreat
