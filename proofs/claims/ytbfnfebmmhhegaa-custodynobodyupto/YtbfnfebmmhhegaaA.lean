/- layer 11, numbers: accounts in order, balances in a row, moves, posts -/
import Derived.Test.YtbfnfebmmhhegaaRows
import Derived.WalkKit
namespace Go.Proofs.Ytbfnfebmmhhegaa.Num
open Go.RowKit
set_option linter.unusedVariables false
set_option linter.unusedSimpArgs false
abbrev Acc := Int × Int × List UInt8
abbrev Bal := Acc × Int
abbrev Ent := Acc × Acc × Int
abbrev ahead (a b : Acc) : Prop := a.2.2 < b.2.2 ∨ (a.2.2 = b.2.2 ∧ (a.1 < b.1 ∨ (a.1 = b.1 ∧ a.2.1 < b.2.1)))
theorem ahead_irrefl (a : Acc) : ¬ ahead a a := by
  rintro (h | ⟨_, h | ⟨_, h⟩⟩)
  · exact List.lt_irrefl _ h
  · omega
  · omega
theorem ahead_trans {a b c : Acc} (h : ahead a b) (k : ahead b c) : ahead a c := by
  rcases h with h | ⟨h1, h⟩
  · rcases k with k | ⟨k1, k⟩
    · exact .inl (List.lt_trans h k)
    · exact .inl (k1 ▸ h)
  · rcases k with k | ⟨k1, k⟩
    · exact .inl (h1 ▸ k)
    · refine .inr ⟨h1.trans k1, ?_⟩
      omega
theorem ahead_tri {a b : Acc} (h : a ≠ b) : ahead a b ∨ ahead b a := by
  by_cases h1 : a.2.2 < b.2.2
  · exact .inl (.inl h1)
  by_cases h2 : b.2.2 < a.2.2
  · exact .inr (.inl h2)
  have e : a.2.2 = b.2.2 := List.le_antisymm (List.not_lt.1 h2) (List.not_lt.1 h1)
  rcases Int.lt_trichotomy a.1 b.1 with c | c | c
  · exact .inl (.inr ⟨e, .inl c⟩)
  · rcases Int.lt_trichotomy a.2.1 b.2.1 with d | d | d
    · exact .inl (.inr ⟨e, .inr ⟨c, d⟩⟩)
    · exact absurd (Prod.ext c (Prod.ext d e)) h
    · exact .inr (.inr ⟨e.symm, .inr ⟨c.symm, d⟩⟩)
  · exact .inr (.inr ⟨e.symm, .inl c⟩)
theorem ahead_ne {a b : Acc} (h : ahead a b) : a ≠ b := fun e => ahead_irrefl b (e ▸ h)
theorem ahead_asymm {a b : Acc} (h : ahead a b) : ¬ ahead b a := fun k => ahead_irrefl a (ahead_trans h k)
def aheadB (a b : Acc) : Bool := decide (ahead a b)
theorem aheadB_iff {a b : Acc} : aheadB a b = true ↔ ahead a b := by unfold aheadB; exact decide_eq_true_iff
theorem aheadB_no {a b : Acc} : aheadB a b = false ↔ ¬ ahead a b := by unfold aheadB; exact decide_eq_false_iff_not

/-- what an account has -/
def get : List Bal → Acc → Int
  | [], _ => 0
  | p :: r, a => if p.1 = a then p.2 else get r a
/-- a row with what an account has -/
def setF (a : Acc) (n : Int) : Bool → List Bal → List Bal
  | d, [] => if d then [] else [(a, n)]
  | d, p :: r => if p.1 = a then setF a n d r else if (!d && aheadB a p.1) then (a, n) :: p :: setF a n true r else p :: setF a n d r
def set (L : List Bal) (a : Acc) (n : Int) : List Bal := setF a n (n == 0) L
def Srt (L : List Bal) : Prop := L.Pairwise (fun p q => ahead p.1 q.1)
def Nz (L : List Bal) : Prop := ∀ p ∈ L, p.2 ≠ 0
theorem get_none {L : List Bal} {a : Acc} (h : ∀ p ∈ L, p.1 ≠ a) : get L a = 0 := by
  induction L with
  | nil => rfl
  | cons p r ih => simp [get, h p (by simp), ih (fun q hq => h q (by simp [hq]))]
theorem get_setF (a : Acc) (n : Int) (a' : Acc) : ∀ (L : List Bal) (d : Bool), get (setF a n d L) a' = if a = a' then (if d then 0 else n) else get L a'
  | [], d => by cases d <;> simp [setF, get]
  | p :: r, d => by
    unfold setF
    by_cases hp : p.1 = a
    · rw [if_pos hp, get_setF a n a' r d]
      by_cases h : a = a'
      · simp [h]
      · have : p.1 ≠ a' := fun e => h (hp.symm.trans e)
        simp [h, get, this]
    · rw [if_neg hp]
      by_cases hc : (!d && aheadB a p.1) = true
      · rw [if_pos hc]
        have hd : d = false := by cases d <;> simp_all
        subst hd
        by_cases h : a = a'
        · simp [h, get]
        · by_cases h2 : p.1 = a'
          · simp [h, h2, get]
          · have := get_setF a n a' r true
            simp [h, h2, get, this]
      · rw [if_neg hc]
        by_cases h : a = a'
        · have h2 : p.1 ≠ a' := fun e => hp (e.trans h.symm)
          have := get_setF a n a' r d
          simp [h2, get, this]
        · by_cases h2 : p.1 = a'
          · simp [h, h2, get]
          · have := get_setF a n a' r d
            simp [h, h2, get, this]
theorem get_set (L : List Bal) (a : Acc) (n : Int) (a' : Acc) : get (set L a n) a' = if a = a' then n else get L a' := by
  unfold set
  rw [get_setF]
  by_cases h : n = 0 <;> simp [h]
theorem get_set_same (L : List Bal) (a : Acc) (n : Int) : get (set L a n) a = n := by rw [get_set]; simp
theorem get_set_other (L : List Bal) {a a' : Acc} (n : Int) (h : a ≠ a') : get (set L a n) a' = get L a' := by rw [get_set]; simp [h]
theorem mem_setF {a : Acc} {n : Int} : ∀ {L : List Bal} {d : Bool} {p : Bal}, p ∈ setF a n d L → (p ∈ L ∧ p.1 ≠ a) ∨ (p = (a, n) ∧ d = false)
  | [], d, p, h => by cases d <;> simp [setF] at h; exact .inr ⟨h, rfl⟩
  | q :: r, d, p, h => by
    unfold setF at h
    by_cases hq : q.1 = a
    · rw [if_pos hq] at h
      rcases mem_setF h with ⟨h1, h2⟩ | h1
      · exact .inl ⟨by simp [h1], h2⟩
      · exact .inr h1
    · rw [if_neg hq] at h
      by_cases hc : (!d && aheadB a q.1) = true
      · rw [if_pos hc] at h
        have hd : d = false := by cases d <;> simp_all
        simp only [List.mem_cons] at h
        rcases h with rfl | rfl | h
        · exact .inr ⟨rfl, hd⟩
        · exact .inl ⟨by simp, hq⟩
        · rcases mem_setF h with ⟨h1, h2⟩ | ⟨_, h1⟩
          · exact .inl ⟨by simp [h1], h2⟩
          · cases h1
      · rw [if_neg hc] at h
        simp only [List.mem_cons] at h
        rcases h with rfl | h
        · exact .inl ⟨by simp, hq⟩
        · rcases mem_setF h with ⟨h1, h2⟩ | h1
          · exact .inl ⟨by simp [h1], h2⟩
          · exact .inr h1
theorem srt_setF (a : Acc) (n : Int) : ∀ (L : List Bal) (d : Bool), Srt L → Srt (setF a n d L)
  | [], d, _ => by cases d <;> simp [setF, Srt]
  | p :: r, d, h => by
    obtain ⟨h1, h2⟩ := List.pairwise_cons.1 h
    unfold setF
    by_cases hp : p.1 = a
    · rw [if_pos hp]; exact srt_setF a n r d h2
    · rw [if_neg hp]
      by_cases hc : (!d && aheadB a p.1) = true
      · rw [if_pos hc]
        have ha : ahead a p.1 := by cases d <;> simp_all [aheadB_iff]
        refine List.pairwise_cons.2 ⟨fun q hq => ?_, List.pairwise_cons.2 ⟨fun q hq => ?_, srt_setF a n r true h2⟩⟩
        · rcases List.mem_cons.1 hq with rfl | hq
          · exact ha
          · rcases mem_setF hq with ⟨h3, _⟩ | ⟨_, h3⟩
            · exact ahead_trans ha (h1 q h3)
            · cases h3
        · rcases mem_setF hq with ⟨h3, _⟩ | ⟨_, h3⟩
          · exact h1 q h3
          · cases h3
      · rw [if_neg hc]
        refine List.pairwise_cons.2 ⟨fun q hq => ?_, srt_setF a n r d h2⟩
        rcases mem_setF hq with ⟨h3, _⟩ | ⟨rfl, h3⟩
        · exact h1 q h3
        · subst h3
          rcases ahead_tri hp with h4 | h4
          · exact h4
          · exact absurd (by simpa using aheadB_iff.2 h4) hc
theorem srt_set {L : List Bal} (h : Srt L) (a : Acc) (n : Int) : Srt (set L a n) := srt_setF a n L _ h
theorem nz_set {L : List Bal} (h : Nz L) (a : Acc) (n : Int) : Nz (set L a n) := by
  intro p hp
  rcases mem_setF hp with ⟨h1, _⟩ | ⟨rfl, h1⟩
  · exact h p h1
  · simpa using h1
theorem get_mem {L : List Bal} (h : Srt L) {p : Bal} (hp : p ∈ L) : get L p.1 = p.2 := by
  induction L with
  | nil => cases hp
  | cons q r ih =>
    obtain ⟨h1, h2⟩ := List.pairwise_cons.1 h
    rcases List.mem_cons.1 hp with rfl | hp
    · simp [get]
    · have : q.1 ≠ p.1 := ahead_ne (h1 p hp)
      simp [get, this, ih h2 hp]
theorem mem_get {L : List Bal} {a : Acc} (h : get L a ≠ 0) : (a, get L a) ∈ L := by
  induction L with
  | nil => simp [get] at h
  | cons q r ih =>
    by_cases e : q.1 = a
    · simp [get, e]; left; rw [← e]
    · simp only [get, if_neg e] at h ⊢
      exact List.mem_cons_of_mem _ (ih h)
theorem srt_ext : ∀ {L L' : List Bal}, Srt L → Srt L' → (∀ p, p ∈ L ↔ p ∈ L') → L = L'
  | [], [], _, _, _ => rfl
  | [], q :: r, _, _, h => absurd ((h q).2 (by simp)) (by simp)
  | p :: r, [], _, _, h => absurd ((h p).1 (by simp)) (by simp)
  | p :: r, q :: s, h1, h2, h => by
    obtain ⟨a1, a2⟩ := List.pairwise_cons.1 h1
    obtain ⟨b1, b2⟩ := List.pairwise_cons.1 h2
    have e : p = q := by
      rcases List.mem_cons.1 ((h p).1 (by simp)) with e | m
      · exact e
      rcases List.mem_cons.1 ((h q).2 (by simp)) with e | m2
      · exact e.symm
      exact absurd (b1 p m) (ahead_asymm (a1 q m2))
    subst e
    rw [srt_ext a2 b2 (fun x => ?_)]
    constructor
    · intro hx
      rcases List.mem_cons.1 ((h x).1 (by simp [hx])) with rfl | m
      · exact absurd (a1 x hx) (ahead_irrefl _)
      · exact m
    · intro hx
      rcases List.mem_cons.1 ((h x).2 (by simp [hx])) with rfl | m
      · exact absurd (b1 x hx) (ahead_irrefl _)
      · exact m
theorem get_ext {L L' : List Bal} (h1 : Srt L) (h2 : Srt L') (n1 : Nz L) (n2 : Nz L') (h : ∀ a, get L a = get L' a) : L = L' := by
  refine srt_ext h1 h2 (fun p => ⟨fun hp => ?_, fun hp => ?_⟩)
  · have e := get_mem h1 hp
    have : get L' p.1 ≠ 0 := by rw [← h, e]; exact n1 p hp
    have m := mem_get this
    rw [← h, e] at m
    exact m
  · have e := get_mem h2 hp
    have : get L p.1 ≠ 0 := by rw [h, e]; exact n2 p hp
    have m := mem_get this
    rw [h, e] at m
    exact m
/-- an account's fault -/
def wr (a : Acc) : Int := if a.1 < 0 ∨ 64 < a.1 ∨ a.2.1 < 0 ∨ 1125899906842624 < a.2.1 then 22 else if a.2.2.length = 0 ∨ 40 < a.2.2.length then 21 else 0
theorem wr_ok {a : Acc} : wr a = 0 ↔ 0 ≤ a.1 ∧ a.1 ≤ 64 ∧ 0 ≤ a.2.1 ∧ a.2.1 ≤ 1125899906842624 ∧ a.2.2.length ≠ 0 ∧ a.2.2.length ≤ 40 := by
  unfold wr
  split
  · constructor
    · intro h; cases h
    · omega
  · split
    · constructor
      · intro h; cases h
      · omega
    · constructor
      · intro _; omega
      · intro _; rfl
def mv (L : List Bal) (f t : Acc) (n : Int) : List Bal := set (set L f (get L f - n)) t (get (set L f (get L f - n)) t + n)
/-- why an entry can't be done -/
def flt (L : List Bal) (e : Ent) : Int :=
  if e.2.2 < 1 ∨ 1125899906842624 < e.2.2 then 1
  else if wr e.1 ≠ 0 then wr e.1
  else if wr e.2.1 ≠ 0 then wr e.2.1
  else if e.1.2.2 ≠ e.2.1.2.2 then 21
  else if get L e.1 - e.2.2 < 0 ∧ 0 < e.1.1 then 20
  else if get L e.1 - e.2.2 < -72057594037927936 ∨ 72057594037927936 < get (set L e.1 (get L e.1 - e.2.2)) e.2.1 + e.2.2 then 9
  else 0
structure Good (L : List Bal) : Prop where
  srt : Srt L
  nz : Nz L
  wr : ∀ p ∈ L, wr p.1 = 0
  lo : ∀ p ∈ L, -72057594037927936 ≤ p.2
  hi : ∀ p ∈ L, p.2 ≤ 72057594037927936
  pos : ∀ p ∈ L, 0 < p.1.1 → 0 ≤ p.2
theorem Good.nil : Good [] := ⟨List.Pairwise.nil, by simp [Nz], by simp, by simp, by simp, by simp⟩
theorem Good.get {L : List Bal} (h : Good L) (a : Acc) : -72057594037927936 ≤ get L a ∧ get L a ≤ 72057594037927936 ∧ (0 < a.1 → 0 ≤ Num.get L a) := by
  by_cases e : Num.get L a = 0
  · rw [e]; omega
  · exact ⟨h.lo _ (mem_get e), h.hi _ (mem_get e), h.pos _ (mem_get e)⟩
theorem Good.set {L : List Bal} (h : Good L) {a : Acc} {n : Int} (hw : Num.wr a = 0) (hl : -72057594037927936 ≤ n) (hh : n ≤ 72057594037927936) (hp : 0 < a.1 → 0 ≤ n) : Good (set L a n) := by
  refine ⟨srt_set h.srt a n, nz_set h.nz a n, fun p m => ?_, fun p m => ?_, fun p m => ?_, fun p m => ?_⟩ <;> rcases mem_setF m with ⟨m, _⟩ | ⟨rfl, _⟩
  · exact h.wr p m
  · exact hw
  · exact h.lo p m
  · exact hl
  · exact h.hi p m
  · exact hh
  · exact h.pos p m
  · exact hp
structure Fit (L : List Bal) (e : Ent) : Prop where
  a1 : 1 ≤ e.2.2
  a2 : e.2.2 ≤ 1125899906842624
  wf : wr e.1 = 0
  wt : wr e.2.1 = 0
  th : e.1.2.2 = e.2.1.2.2
  fu : 0 < e.1.1 → 0 ≤ get L e.1 - e.2.2
  lo : -72057594037927936 ≤ get L e.1 - e.2.2
  hi : get (set L e.1 (get L e.1 - e.2.2)) e.2.1 + e.2.2 ≤ 72057594037927936
theorem flt_ok {L : List Bal} {e : Ent} (h : flt L e = 0) : Fit L e := by
  unfold flt at h
  split at h
  · cases h
  split at h
  · rename_i h1 h2; exact absurd h h2
  split at h
  · rename_i h1 h2 h3; exact absurd h h3
  split at h
  · cases h
  split at h
  · cases h
  split at h
  · cases h
  rename_i h1 h2 h3 h4 h5 h6
  exact ⟨by omega, by omega, Decidable.of_not_not h2, Decidable.of_not_not h3, Decidable.of_not_not h4, by omega, by omega, by omega⟩
theorem Fit.flt {L : List Bal} {e : Ent} (h : Fit L e) : flt L e = 0 := by
  obtain ⟨a1, a2, wf, wt, th, fu, lo, hi⟩ := h
  unfold Num.flt
  rw [if_neg (by omega), if_neg (by simp [wf]), if_neg (by simp [wt]), if_neg (by simp [th]), if_neg (by omega), if_neg (by omega)]
theorem Fit.good {L : List Bal} {e : Ent} (h : Fit L e) (g : Good L) : Good (mv L e.1 e.2.1 e.2.2) := by
  obtain ⟨a1, a2, wf, wt, th, fu, lo, hi⟩ := h
  have g1 := g.get e.1
  have g' : Good (Num.set L e.1 (Num.get L e.1 - e.2.2)) := g.set wf lo (by omega) fu
  have g2 := g'.get e.2.1
  exact g'.set wt (by omega) hi (by omega)
theorem get_mv (L : List Bal) (f t a : Acc) (n : Int) : get (mv L f t n) a = get L a - (if f = a then n else 0) + (if t = a then n else 0) := by
  unfold mv
  rw [get_set, get_set, get_set]
  by_cases h1 : t = a
  · subst h1
    by_cases h2 : f = t
    · subst h2; simp
    · simp [h2]
  · by_cases h2 : f = a
    · subst h2; simp [h1]
    · simp [h1, h2]
theorem mv_back {L : List Bal} (s : Srt L) (z : Nz L) (f t : Acc) (n : Int) : mv (mv L f t n) t f n = L := by
  refine get_ext (srt_set (srt_set (srt_set (srt_set s _ _) _ _) _ _) _ _) s (nz_set (nz_set (nz_set (nz_set z _ _) _ _) _ _) _ _) z (fun a => ?_)
  rw [get_mv, get_mv]
  omega
/-- entries, one behind the other, as far as they can be done -/
def run : List Bal → List Ent → List Bal
  | L, [] => L
  | L, e :: r => if flt L e = 0 then run (mv L e.1 e.2.1 e.2.2) r else L
/-- how many can be done -/
def howf : List Bal → List Ent → Nat
  | _, [] => 0
  | L, e :: r => if flt L e = 0 then howf (mv L e.1 e.2.1 e.2.2) r + 1 else 0
def whyf : List Bal → List Ent → Int
  | _, [] => 0
  | L, e :: r => if flt L e = 0 then whyf (mv L e.1 e.2.1 e.2.2) r else flt L e
def post (L : List Bal) (es : List Ent) : List Bal := if whyf L es = 0 then run L es else L
end Go.Proofs.Ytbfnfebmmhhegaa.Num
