/- layer 11, numbers: posts by their beginnings, taken back; sums -/
import Derived.Test.YtbfnfebmmhhegaaA
import Derived.WalkKit
namespace Go.Proofs.Ytbfnfebmmhhegaa.Num
open Go.RowKit
set_option linter.unusedVariables false
set_option linter.unusedSimpArgs false
theorem run_app : ∀ (L : List Bal) (es fs : List Ent), whyf L es = 0 → run L (es ++ fs) = run (run L es) fs
  | _, [], _, _ => rfl
  | L, e :: r, fs, h => by
    by_cases c : flt L e = 0
    · simp only [whyf, if_pos c] at h
      simp only [List.cons_append, run, if_pos c]
      exact run_app _ r fs h
    · simp only [whyf, if_neg c] at h
      exact absurd h c
theorem whyf_app : ∀ (L : List Bal) (es fs : List Ent), whyf L es = 0 → whyf L (es ++ fs) = whyf (run L es) fs
  | _, [], _, _ => rfl
  | L, e :: r, fs, h => by
    by_cases c : flt L e = 0
    · simp only [whyf, if_pos c] at h
      simp only [List.cons_append, run, whyf, if_pos c]
      exact whyf_app _ r fs h
    · simp only [whyf, if_neg c] at h
      exact absurd h c
theorem howf_app : ∀ (L : List Bal) (es fs : List Ent), whyf L es = 0 → howf L (es ++ fs) = es.length + howf (run L es) fs
  | _, [], _, _ => by simp [run]
  | L, e :: r, fs, h => by
    by_cases c : flt L e = 0
    · simp only [whyf, if_pos c] at h
      simp only [List.cons_append, run, howf, if_pos c, howf_app _ r fs h, List.length_cons]
      omega
    · simp only [whyf, if_neg c] at h
      exact absurd h c
theorem howf_all (L : List Bal) (es : List Ent) (h : whyf L es = 0) : howf L es = es.length := by
  have := howf_app L es [] h
  simpa [howf] using this
theorem why_left : ∀ (L : List Bal) (es fs : List Ent), whyf L (es ++ fs) = 0 → whyf L es = 0
  | _, [], _, _ => rfl
  | L, e :: r, fs, h => by
    by_cases c : flt L e = 0
    · simp only [List.cons_append, whyf, if_pos c] at h ⊢
      exact why_left _ r fs h
    · simp only [List.cons_append, whyf, if_neg c] at h
      exact absurd h c
theorem Good.run : ∀ {L : List Bal} (g : Good L) (es : List Ent), whyf L es = 0 → Good (run L es)
  | _, g, [], _ => g
  | L, g, e :: r, h => by
    by_cases c : flt L e = 0
    · simp only [whyf, if_pos c] at h
      simp only [Num.run, if_pos c]
      exact Good.run ((flt_ok c).good g) r h
    · simp only [whyf, if_neg c] at h
      exact absurd h c
theorem Good.post {L : List Bal} (g : Good L) (es : List Ent) : Good (post L es) := by
  unfold Num.post
  split
  · rename_i h; exact g.run es h
  · exact g
/-- one entry more is done -/
theorem snoc_ok {L : List Bal} {es : List Ent} {e : Ent} (h : whyf L es = 0) (c : flt (run L es) e = 0) : whyf L (es ++ [e]) = 0 ∧ run L (es ++ [e]) = mv (run L es) e.1 e.2.1 e.2.2 := by
  rw [whyf_app L es _ h, run_app L es _ h]
  simp [whyf, run, c]
/-- one entry can't be done -/
theorem snoc_no {L : List Bal} {es fs : List Ent} {e : Ent} (h : whyf L es = 0) (c : flt (run L es) e ≠ 0) : whyf L (es ++ e :: fs) = flt (run L es) e ∧ howf L (es ++ e :: fs) = es.length := by
  rw [whyf_app L es _ h, howf_app L es _ h]
  simp [whyf, howf, c]
theorem snoc_back {L : List Bal} (g : Good L) {es : List Ent} {e : Ent} (h : whyf L (es ++ [e]) = 0) : mv (run L (es ++ [e])) e.2.1 e.1 e.2.2 = run L es := by
  have h1 := why_left L es [e] h
  have c : flt (run L es) e = 0 := by
    rw [whyf_app L es _ h1] at h
    by_cases c : flt (run L es) e = 0
    · exact c
    · simp only [whyf, if_neg c] at h
      exact absurd h c
  rw [(snoc_ok h1 c).2]
  exact mv_back (g.run es h1).srt (g.run es h1).nz _ _ _
def sw (e : Ent) : Ent := (e.2.1, e.1, e.2.2)
def bk (es : List Ent) : List Ent := (es.map sw).reverse
theorem Fit.sw {M : List Bal} {e : Ent} (g : Good M) (f : Fit M e) : Fit (mv M e.1 e.2.1 e.2.2) (sw e) := by
  have g1 := g.get e.1
  have g2 := g.get e.2.1
  obtain ⟨a1, a2, wf, wt, th, fu, lo, hi⟩ := f
  have m1 := get_mv M e.1 e.2.1 e.2.1 e.2.2
  have m2 := get_mv M e.1 e.2.1 e.1 e.2.2
  rw [if_pos rfl] at m1
  rw [if_pos rfl] at m2
  refine ⟨a1, a2, wt, wf, th.symm, ?_, ?_, ?_⟩
  · show 0 < e.2.1.1 → 0 ≤ get (mv M e.1 e.2.1 e.2.2) e.2.1 - e.2.2
    intro hp
    rw [m1]
    by_cases c : e.1 = e.2.1
    · rw [if_pos c]
      have := fu (by rw [c]; exact hp)
      rw [c] at this
      omega
    · rw [if_neg c]
      have := g2.2.2 hp
      omega
  · show -72057594037927936 ≤ get (mv M e.1 e.2.1 e.2.2) e.2.1 - e.2.2
    rw [m1]
    by_cases c : e.1 = e.2.1
    · rw [if_pos c]
      rw [c] at lo
      omega
    · rw [if_neg c]
      omega
  · show get (set (mv M e.1 e.2.1 e.2.2) e.2.1 (get (mv M e.1 e.2.1 e.2.2) e.2.1 - e.2.2)) e.1 + e.2.2 ≤ 72057594037927936
    rw [get_set]
    by_cases c : e.2.1 = e.1
    · rw [if_pos c, m1, if_pos c.symm, c]
      omega
    · rw [if_neg c, m2, if_neg c]
      omega
theorem back_all {L : List Bal} (g : Good L) : ∀ (n : Nat) (es : List Ent), es.length = n → whyf L es = 0 → whyf (run L es) (bk es) = 0 ∧ run (run L es) (bk es) = L
  | 0, es, hn, _ => by
    obtain rfl := List.length_eq_zero_iff.1 hn
    simp [bk, whyf, run]
  | n + 1, es, hn, h => by
    obtain ⟨pre, e, rfl⟩ : ∃ pre e, es = pre ++ [e] := by
      rcases List.eq_nil_or_concat es with rfl | ⟨pre, e, he⟩
      · cases hn
      · exact ⟨pre, e, by simpa using he⟩
    have h1 := why_left L pre [e] h
    have c : flt (run L pre) e = 0 := by
      rw [whyf_app L pre _ h1] at h
      by_cases c : flt (run L pre) e = 0
      · exact c
      · simp only [whyf, if_neg c] at h
        exact absurd h c
    have e1 := (snoc_ok h1 c).2
    have gm := g.run pre h1
    have hf := (Fit.sw gm (flt_ok c)).flt
    have hb : bk (pre ++ [e]) = sw e :: bk pre := by simp [bk]
    obtain ⟨i1, i2⟩ := back_all g n pre (by simpa using hn) h1
    have hm : mv (mv (run L pre) e.1 e.2.1 e.2.2) e.2.1 e.1 e.2.2 = run L pre := mv_back gm.srt gm.nz _ _ _
    rw [hb, e1]
    simp only [whyf, run, if_pos hf]
    show whyf (mv (mv (run L pre) e.1 e.2.1 e.2.2) e.2.1 e.1 e.2.2) (bk pre) = 0 ∧ run (mv (mv (run L pre) e.1 e.2.1 e.2.2) e.2.1 e.1 e.2.2) (bk pre) = L
    rw [hm]
    exact ⟨i1, i2⟩
/-- what all of a thing have together -/
def tot (t : List UInt8) : List Bal → Int
  | [] => 0
  | p :: r => (if p.1.2.2 = t then p.2 else 0) + tot t r
theorem tot_setF (a : Acc) (n : Int) (t : List UInt8) : ∀ (L : List Bal) (d : Bool), Srt L → tot t (setF a n d L) = tot t L + (if a.2.2 = t then (if d then 0 else n) - get L a else 0)
  | [], d, _ => by cases d <;> simp [setF, tot, get]
  | p :: r, d, h => by
    obtain ⟨h1, h2⟩ := List.pairwise_cons.1 h
    unfold setF
    by_cases hp : p.1 = a
    · have hn : get r a = 0 := get_none (fun q hq e => ahead_ne (h1 q hq) (hp.trans e.symm))
      rw [if_pos hp, tot_setF a n t r d h2, hn]
      subst hp
      simp only [tot, get, if_pos rfl]
      by_cases c : p.1.2.2 = t <;> simp [c] <;> omega
    · rw [if_neg hp]
      by_cases hc : (!d && aheadB a p.1) = true
      · have hd : d = false := by cases d <;> simp_all
        subst hd
        rw [if_pos hc]
        simp only [tot, tot_setF a n t r true h2, get, if_neg hp]
        by_cases c : a.2.2 = t <;> simp [c] <;> omega
      · rw [if_neg hc]
        simp only [tot, tot_setF a n t r d h2, get, if_neg hp]
        by_cases c : a.2.2 = t <;> simp [c] <;> omega
theorem tot_set {L : List Bal} (h : Srt L) (a : Acc) (n : Int) (t : List UInt8) : tot t (set L a n) = tot t L + (if a.2.2 = t then n - get L a else 0) := by
  unfold set
  rw [tot_setF a n t L _ h]
  by_cases c : n = 0 <;> simp [c]
theorem tot_mv {L : List Bal} (h : Srt L) {f t : Acc} (e : f.2.2 = t.2.2) (n : Int) (x : List UInt8) : tot x (mv L f t n) = tot x L := by
  unfold mv
  rw [tot_set (srt_set h _ _), tot_set h, e]
  by_cases c : t.2.2 = x <;> simp [c] <;> omega
theorem tot_run (x : List UInt8) : ∀ {L : List Bal} (g : Good L) (es : List Ent), whyf L es = 0 → tot x (run L es) = tot x L
  | _, _, [], _ => rfl
  | L, g, e :: r, h => by
    by_cases c : flt L e = 0
    · simp only [whyf, if_pos c] at h
      simp only [run, if_pos c]
      rw [tot_run x ((flt_ok c).good g) r h, tot_mv g.srt (flt_ok c).th]
    · simp only [whyf, if_neg c] at h
      exact absurd h c
theorem tot_post (x : List UInt8) {L : List Bal} (g : Good L) (es : List Ent) : tot x (post L es) = tot x L := by
  unfold post
  split
  · rename_i h; exact tot_run x g es h
  · rfl
/-- what an owner has of a thing -/
def hld (o : Int) (t : List UInt8) : List Bal → Int
  | [] => 0
  | p :: r => (if p.1.1 = o ∧ p.1.2.2 = t then p.2 else 0) + hld o t r
theorem hld_perm {o : Int} {t : List UInt8} {L M : List Bal} (h : L.Perm M) : hld o t L = hld o t M := by
  induction h with
  | nil => rfl
  | cons x _ ih => simp only [hld, ih]
  | swap x y l => simp only [hld]; omega
  | trans _ _ i1 i2 => exact i1.trans i2
theorem length_setF (a : Acc) (n : Int) : ∀ (L : List Bal) (d : Bool), (setF a n d L).length ≤ L.length + 1
  | [], d => by cases d <;> simp [setF]
  | p :: r, d => by
    unfold setF
    have h1 := length_setF a n r d
    by_cases hp : p.1 = a
    · rw [if_pos hp]; simp; omega
    · rw [if_neg hp]
      by_cases hc : (!d && aheadB a p.1) = true
      · rw [if_pos hc]
        have h2 : (setF a n true r).length ≤ r.length := by
          clear h1 hc hp
          induction r with
          | nil => simp [setF]
          | cons q s ih =>
            unfold setF
            by_cases c : q.1 = a
            · rw [if_pos c]; simp only [List.length_cons]; omega
            · rw [if_neg c]; simp only [Bool.not_true, Bool.false_and, Bool.false_eq_true, if_false, List.length_cons]; omega
        simp; exact h2
      · rw [if_neg hc]; simp; exact h1
theorem length_set (L : List Bal) (a : Acc) (n : Int) : (set L a n).length ≤ L.length + 1 := length_setF a n L _
theorem length_mv (L : List Bal) (f t : Acc) (n : Int) : (mv L f t n).length ≤ L.length + 2 := by
  unfold mv
  have h1 := length_set (set L f (get L f - n)) t (get (set L f (get L f - n)) t + n)
  have h2 := length_set L f (get L f - n)
  omega
theorem length_run : ∀ (L : List Bal) (es : List Ent), (run L es).length ≤ L.length + 2 * es.length
  | L, [] => by simp [run]
  | L, e :: r => by
    unfold run
    split
    · have h1 := length_run (mv L e.1 e.2.1 e.2.2) r
      have h2 := length_mv L e.1 e.2.1 e.2.2
      simp; omega
    · simp only [List.length_cons]; omega
theorem length_post (L : List Bal) (es : List Ent) : (post L es).length ≤ L.length + 2 * es.length := by
  unfold post
  split
  · exact length_run L es
  · omega
/-- things, each once where alike ones stand side by side -/
def ths : Option (List UInt8) → List Bal → List (List UInt8)
  | _, [] => []
  | o, p :: r => if o = some p.1.2.2 then ths (some p.1.2.2) r else p.1.2.2 :: ths (some p.1.2.2) r
theorem setF_true (a : Acc) (n : Int) : ∀ L : List Bal, setF a n true L = L.filter (fun p => decide (p.1 ≠ a))
  | [] => by simp [setF]
  | p :: r => by
    unfold setF
    by_cases h : p.1 = a
    · rw [if_pos h, setF_true a n r]; simp [h]
    · rw [if_neg h]; simp [h, setF_true a n r]
theorem setF_false (a : Acc) (n : Int) : ∀ L : List Bal, (setF a n false L).Perm ((a, n) :: L.filter (fun p => decide (p.1 ≠ a)))
  | [] => by simp [setF]
  | p :: r => by
    unfold setF
    by_cases h : p.1 = a
    · rw [if_pos h]
      refine (setF_false a n r).trans ?_
      simp [h]
    · rw [if_neg h]
      by_cases hc : (!false && aheadB a p.1) = true
      · rw [if_pos hc, setF_true]; simp [h]
      · rw [if_neg hc]
        simp only [List.filter_cons, h, ne_eq, not_false_eq_true, decide_true, if_true]
        exact ((setF_false a n r).cons p).trans (List.Perm.swap _ _ _)
theorem set_zero (L : List Bal) (a : Acc) : set L a 0 = L.filter (fun p => decide (p.1 ≠ a)) := by unfold set; exact setF_true a 0 L
theorem set_perm (L : List Bal) (a : Acc) {n : Int} (h : n ≠ 0) : (set L a n).Perm ((a, n) :: L.filter (fun p => decide (p.1 ≠ a))) := by
  unfold set
  have : (n == 0) = false := by simpa using h
  rw [this]
  exact setF_false a n L
theorem srt_nodup : ∀ {L : List Bal}, Srt L → L.Nodup
  | [], _ => List.Pairwise.nil
  | p :: r, h => by
    obtain ⟨h1, h2⟩ := List.pairwise_cons.1 h
    exact List.pairwise_cons.2 ⟨fun q hq e => ahead_irrefl q.1 (by have := h1 q hq; rw [e] at this; exact this), srt_nodup h2⟩
theorem srt_key {L : List Bal} (h : Srt L) {p q : Bal} (hp : p ∈ L) (hq : q ∈ L) (e : p.1 = q.1) : p = q := by
  have h1 := get_mem h hp
  have h2 := get_mem h hq
  rw [e] at h1
  exact Prod.ext e (h1.symm.trans h2)
end Go.Proofs.Ytbfnfebmmhhegaa.Num
