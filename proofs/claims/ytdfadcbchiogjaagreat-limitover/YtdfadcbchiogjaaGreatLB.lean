/- layer 16, numbers: a table of covers, as the document has it -/
import Derived.Test.YtdfadcbchiogjaaGreatLA
import Derived.WalkKit
namespace Go.Proofs.YtdfadcbchiogjaaGreat
open Go.RowKit
set_option linter.unusedVariables false
set_option linter.unusedSimpArgs false
theorem up_extG {α : Type} {lt : α → α → Bool} (h : Ord1 lt) : ∀ {a b : List α}, a.Pairwise (fun x y => lt x y = true) → b.Pairwise (fun x y => lt x y = true) → (∀ n, n ∈ a ↔ n ∈ b) → a = b
  | [], [], _, _, _ => rfl
  | [], y :: b, _, _, k => absurd ((k y).2 (by simp)) (by simp)
  | x :: a, [], _, _, k => absurd ((k x).1 (by simp)) (by simp)
  | x :: a, y :: b, ha, hb, k => by
    have pa := List.pairwise_cons.1 ha
    have pb := List.pairwise_cons.1 hb
    have e : x = y := by
      have h1 := (k x).1 (by simp)
      have h2 := (k y).2 (by simp)
      rcases List.mem_cons.1 h1 with e | h1
      · exact e
      · rcases List.mem_cons.1 h2 with e | h2
        · exact e.symm
        · have := h.asym (pb.1 x h1)
          rw [pa.1 y h2] at this
          cases this
    subst e
    rw [up_extG h pa.2 pb.2 (fun n => ?_)]
    constructor
    · intro h1
      rcases List.mem_cons.1 ((k n).1 (List.mem_cons_of_mem _ h1)) with e | h2
      · have := pa.1 n h1
        rw [e, h.irr] at this
        cases this
      · exact h2
    · intro h1
      rcases List.mem_cons.1 ((k n).2 (List.mem_cons_of_mem _ h1)) with e | h2
      · have := pb.1 n h1
        rw [e, h.irr] at this
        cases this
      · exact h2
/-- what a security of an issuer covers -/
structure Pt where
  i : Int
  s : List UInt8
  c : Int
def smI : List Pt → Int → Int
  | [], _ => 0
  | p :: L, n => (if p.i = n then p.c else 0) + smI L n
def smA : List Pt → List UInt8 → Int
  | [], _ => 0
  | p :: L, s => (if p.s = s then p.c else 0) + smA L s
def sm : List Pt → Int
  | [] => 0
  | p :: L => p.c + sm L
theorem smI_app (L M : List Pt) (n : Int) : smI (L ++ M) n = smI L n + smI M n := by
  induction L with
  | nil => simp [smI]
  | cons p L ih => simp only [List.cons_append, smI, ih]; omega
theorem smA_app (L M : List Pt) (s : List UInt8) : smA (L ++ M) s = smA L s + smA M s := by
  induction L with
  | nil => simp [smA]
  | cons p L ih => simp only [List.cons_append, smA, ih]; omega
theorem sm_app (L M : List Pt) : sm (L ++ M) = sm L + sm M := by
  induction L with
  | nil => simp [sm]
  | cons p L ih => simp only [List.cons_append, sm, ih]; omega
theorem smI_take {L : List Pt} {k : Nat} (hk : k < L.length) (n : Int) : smI (L.take (k + 1)) n = smI (L.take k) n + (if L[k].i = n then L[k].c else 0) := by
  rw [← List.take_append_getElem hk, smI_app]
  simp [smI]
theorem smA_take {L : List Pt} {k : Nat} (hk : k < L.length) (s : List UInt8) : smA (L.take (k + 1)) s = smA (L.take k) s + (if L[k].s = s then L[k].c else 0) := by
  rw [← List.take_append_getElem hk, smA_app]
  simp [smA]
theorem sm_take {L : List Pt} {k : Nat} (hk : k < L.length) : sm (L.take (k + 1)) = sm (L.take k) + L[k].c := by
  rw [← List.take_append_getElem hk, sm_app]
  simp [sm]
theorem smI_none {L : List Pt} {n : Int} (h : ∀ p ∈ L, p.i ≠ n) : smI L n = 0 := by
  induction L with
  | nil => rfl
  | cons p L ih => rw [smI, if_neg (h p (by simp)), ih (fun q hq => h q (List.mem_cons_of_mem _ hq))]; rfl
theorem smA_none {L : List Pt} {s : List UInt8} (h : ∀ p ∈ L, p.s ≠ s) : smA L s = 0 := by
  induction L with
  | nil => rfl
  | cons p L ih => rw [smA, if_neg (h p (by simp)), ih (fun q hq => h q (List.mem_cons_of_mem _ hq))]; rfl
/-- sums of bounded covers stay small, at every place of the list -/
theorem smI_bnd {M : Int} (hM : 0 ≤ M) : ∀ {L : List Pt}, (∀ p ∈ L, -M ≤ p.c ∧ p.c ≤ M) → ∀ n, -(M * L.length) ≤ smI L n ∧ smI L n ≤ M * L.length
  | [], _, n => by simp [smI]
  | p :: L, h, n => by
    have ih := smI_bnd hM (fun q hq => h q (List.mem_cons_of_mem _ hq)) n
    have hp := h p (by simp)
    simp only [smI, List.length_cons, Int.natCast_add, Int.natCast_one, Int.mul_add, Int.mul_one]
    split <;> omega
theorem smA_bnd {M : Int} (hM : 0 ≤ M) : ∀ {L : List Pt}, (∀ p ∈ L, -M ≤ p.c ∧ p.c ≤ M) → ∀ s, -(M * L.length) ≤ smA L s ∧ smA L s ≤ M * L.length
  | [], _, s => by simp [smA]
  | p :: L, h, s => by
    have ih := smA_bnd hM (fun q hq => h q (List.mem_cons_of_mem _ hq)) s
    have hp := h p (by simp)
    simp only [smA, List.length_cons, Int.natCast_add, Int.natCast_one, Int.mul_add, Int.mul_one]
    split <;> omega
theorem sm_bnd {M : Int} : ∀ {L : List Pt}, (∀ p ∈ L, -M ≤ p.c ∧ p.c ≤ M) → -(M * L.length) ≤ sm L ∧ sm L ≤ M * L.length
  | [], _ => by simp [sm]
  | p :: L, h => by
    have ih := sm_bnd (fun q hq => h q (List.mem_cons_of_mem _ hq))
    have hp := h p (by simp)
    simp only [sm, List.length_cons, Int.natCast_add, Int.natCast_one, Int.mul_add, Int.mul_one]
    omega
/-- an amount, two limits, covers -/
structure Tb where
  need : Int
  li : Int
  la : Int
  L : List Pt
def Tb.room (t : Tb) (i : Int) (s : List UInt8) : Int := max 0 (min (t.li - smI t.L i) (t.la - smA t.L s))
def addE (t : Tb) (i : Int) (s : List UInt8) (c : Int) : Nat := if c < 0 then 1 else if t.room i s < c then 24 else 0
def tkE (t : Tb) (i : Int) (s : List UInt8) (c : Int) : Nat := if c < 0 then 1 else if smA t.L s < c ∨ smI t.L i < c then 20 else 0
def Tb.add (t : Tb) (i : Int) (s : List UInt8) (c : Int) : Tb := if addE t i s c = 0 then { t with L := t.L ++ [⟨i, s, c⟩] } else t
def Tb.take (t : Tb) (i : Int) (s : List UInt8) (c : Int) : Tb := if tkE t i s c = 0 then { t with L := t.L ++ [⟨i, s, -c⟩] } else t
def Tb.open (t : Tb) : Int := max 0 (t.need - sm t.L)
/-- a table that calls made -/
structure Good (t : Tb) (k : Nat) : Prop where
  need : 0 ≤ t.need ∧ t.need ≤ 1125899906842624
  li : 0 ≤ t.li ∧ t.li ≤ t.need
  la : 0 ≤ t.la ∧ t.la ≤ t.need
  i : ∀ n, 0 ≤ smI t.L n ∧ smI t.L n ≤ t.li
  a : ∀ s, 0 ≤ smA t.L s ∧ smA t.L s ≤ t.la
  c : ∀ p ∈ t.L, -1125899906842624 ≤ p.c ∧ p.c ≤ 1125899906842624
  l : t.L.length ≤ k
theorem Good.mono {t : Tb} {k j : Nat} (h : Good t k) (hk : k ≤ j) : Good t j := { h with l := Nat.le_trans h.l hk }
theorem Good.room {t : Tb} {k : Nat} (h : Good t k) (i : Int) (s : List UInt8) : 0 ≤ t.room i s ∧ t.room i s ≤ t.li - smI t.L i ∧ t.room i s ≤ t.la - smA t.L s := by
  have h1 := h.i i
  have h2 := h.a s
  unfold Tb.room
  omega
theorem Good.sum {t : Tb} {k : Nat} (h : Good t k) : -(1125899906842624 * (t.L.length : Int)) ≤ sm t.L ∧ sm t.L ≤ 1125899906842624 * t.L.length := sm_bnd h.c
theorem Good.add {t : Tb} {k : Nat} (h : Good t k) (i : Int) (s : List UInt8) (c : Int) : Good (t.add i s c) (k + 1) := by
  unfold Tb.add
  split
  · rename_i h0
    have hc : ¬ c < 0 ∧ ¬ t.room i s < c := by
      unfold addE at h0
      constructor
      · intro e
        rw [if_pos e] at h0
        cases h0
      · intro e
        by_cases e2 : c < 0
        · rw [if_pos e2] at h0
          cases h0
        · rw [if_neg e2, if_pos e] at h0
          cases h0
    have hr := h.room i s
    refine ⟨h.need, h.li, h.la, fun n => ?_, fun u => ?_, fun p hp => ?_, ?_⟩
    · have := h.i n
      simp only [smI_app, smI]
      split
      · rename_i e
        subst e
        omega
      · omega
    · have := h.a u
      simp only [smA_app, smA]
      split
      · rename_i e
        subst e
        omega
      · omega
    · rcases List.mem_append.1 hp with hp | hp
      · exact h.c p hp
      · simp at hp
        subst hp
        have h1 := h.li
        have h2 := h.need
        have h3 := h.i i
        show -1125899906842624 ≤ c ∧ c ≤ 1125899906842624
        omega
    · simp only [List.length_append, List.length_cons, List.length_nil]
      have := h.l
      omega
  · exact h.mono (Nat.le_succ k)
theorem Good.take {t : Tb} {k : Nat} (h : Good t k) (i : Int) (s : List UInt8) (c : Int) : Good (t.take i s c) (k + 1) := by
  unfold Tb.take
  split
  · rename_i h0
    have hc : ¬ c < 0 ∧ ¬ (smA t.L s < c ∨ smI t.L i < c) := by
      unfold tkE at h0
      constructor
      · intro e
        rw [if_pos e] at h0
        cases h0
      · intro e
        by_cases e2 : c < 0
        · rw [if_pos e2] at h0
          cases h0
        · rw [if_neg e2, if_pos e] at h0
          cases h0
    refine ⟨h.need, h.li, h.la, fun n => ?_, fun u => ?_, fun p hp => ?_, ?_⟩
    · have := h.i n
      simp only [smI_app, smI]
      split
      · rename_i e
        subst e
        omega
      · omega
    · have := h.a u
      simp only [smA_app, smA]
      split
      · rename_i e
        subst e
        omega
      · omega
    · rcases List.mem_append.1 hp with hp | hp
      · exact h.c p hp
      · simp at hp
        subst hp
        have h1 := h.li
        have h2 := h.need
        have h3 := h.i i
        show -1125899906842624 ≤ -c ∧ -c ≤ 1125899906842624
        omega
    · simp only [List.length_append, List.length_cons, List.length_nil]
      have := h.l
      omega
  · exact h.mono (Nat.le_succ k)
/-- issuers that cover something, rising -/
def upsI (L : List Pt) : List Int := (ups (fun a b : Int => decide (a < b)) (L.map (·.i))).filter (fun n => decide (0 < smI L n))
theorem upsI_of {L : List Pt} {K : List Int} (hK : K.Pairwise (· < ·)) (h : ∀ n, 0 < smI L n → n ∈ K) : K.filter (fun n => decide (0 < smI L n)) = upsI L := by
  refine up_extG ordI ((hK.imp (fun h => by simpa using h)).filter _) ((ups_up ordI _).filter _) (fun n => ?_)
  unfold upsI
  rw [List.mem_filter, List.mem_filter, ups_mem ordI]
  constructor
  · rintro ⟨_, h2⟩
    refine ⟨?_, h2⟩
    by_cases h3 : ∃ p ∈ L, p.i = n
    · obtain ⟨p, hp, rfl⟩ := h3
      exact List.mem_map.2 ⟨p, hp, rfl⟩
    · rw [smI_none (fun p hp e => h3 ⟨p, hp, e⟩)] at h2
      simp at h2
  · rintro ⟨_, h2⟩
    exact ⟨h n (by simpa using h2), h2⟩
theorem upsI_mem {L : List Pt} {n : Int} : n ∈ upsI L ↔ 0 < smI L n := by
  unfold upsI
  rw [List.mem_filter, ups_mem ordI]
  constructor
  · rintro ⟨_, h2⟩
    simpa using h2
  · intro h
    refine ⟨?_, by simpa using h⟩
    by_cases h3 : ∃ p ∈ L, p.i = n
    · obtain ⟨p, hp, rfl⟩ := h3
      exact List.mem_map.2 ⟨p, hp, rfl⟩
    · rw [smI_none (fun p hp e => h3 ⟨p, hp, e⟩)] at h
      omega
theorem upsI_up (L : List Pt) : (upsI L).Pairwise (fun a b => decide (a < b) = true) := (ups_up ordI _).filter _
theorem upsI_ext {L M : List Pt} (h : ∀ n, smI L n = smI M n) : upsI L = upsI M := up_extG ordI (upsI_up L) (upsI_up M) (fun n => by rw [upsI_mem, upsI_mem, h])
/-- securities that cover something, rising -/
def upsA (L : List Pt) : List (List UInt8) := (ups (fun a b : List UInt8 => decide (a < b)) (L.map (·.s))).filter (fun s => decide (0 < smA L s))
theorem upsA_mem {L : List Pt} {s : List UInt8} : s ∈ upsA L ↔ 0 < smA L s := by
  unfold upsA
  rw [List.mem_filter, ups_mem ordS]
  constructor
  · rintro ⟨_, h2⟩
    simpa using h2
  · intro h
    refine ⟨?_, by simpa using h⟩
    by_cases h3 : ∃ p ∈ L, p.s = s
    · obtain ⟨p, hp, rfl⟩ := h3
      exact List.mem_map.2 ⟨p, hp, rfl⟩
    · rw [smA_none (fun p hp e => h3 ⟨p, hp, e⟩)] at h
      omega
theorem upsA_up (L : List Pt) : (upsA L).Pairwise (fun a b => decide (a < b) = true) := (ups_up ordS _).filter _
theorem upsA_ext {L M : List Pt} (h : ∀ s, smA L s = smA M s) : upsA L = upsA M := up_extG ordS (upsA_up L) (upsA_up M) (fun s => by rw [upsA_mem, upsA_mem, h])
theorem upsA_of {L : List Pt} {K : List (List UInt8)} (hK : K.Pairwise (fun a b => decide (a < b) = true)) (h : ∀ s, 0 < smA L s → s ∈ K) : K.filter (fun s => decide (0 < smA L s)) = upsA L := by
  refine up_extG ordS (hK.filter _) (upsA_up L) (fun s => ?_)
  rw [List.mem_filter, upsA_mem]
  constructor
  · rintro ⟨_, h2⟩
    simpa using h2
  · intro h2
    exact ⟨h s h2, by simpa using h2⟩
/-- what is used of a limit -/
structure Us where
  i : Int
  s : List UInt8
  c : Int
  l : Int
def Tb.uses (t : Tb) : List Us := (upsI t.L).map (fun n => ⟨n, [], smI t.L n, t.li⟩) ++ (upsA t.L).map (fun s => ⟨-1, s, smA t.L s, t.la⟩)
theorem uses_ext {t u : Tb} (h1 : ∀ n, smI t.L n = smI u.L n) (h2 : ∀ s, smA t.L s = smA u.L s) (h3 : t.li = u.li) (h4 : t.la = u.la) : t.uses = u.uses := by
  unfold Tb.uses
  rw [upsI_ext h1, upsA_ext h2, h3, h4]
  congr 1
  · exact List.map_congr_left (fun n _ => by rw [h1])
  · exact List.map_congr_left (fun s _ => by rw [h2])
/-- what is added, and taken again, leaves what was -/
theorem back_uses (t : Tb) (i : Int) (s : List UInt8) (c : Int) : (⟨t.need, t.li, t.la, (t.L ++ [⟨i, s, c⟩]) ++ [⟨i, s, -c⟩]⟩ : Tb).uses = t.uses := by
  refine uses_ext (fun n => ?_) (fun u => ?_) rfl rfl
  · simp only [smI_app, smI]
    split <;> omega
  · simp only [smA_app, smA]
    split <;> omega
theorem back_take {t : Tb} {k : Nat} (h : Good t k) {i : Int} {s : List UInt8} {c : Int} (h0 : addE t i s c = 0) : tkE (t.add i s c) i s c = 0 ∧ sm (t.add i s c).L = sm t.L + c := by
  have hc : ¬ c < 0 := by
    intro e
    unfold addE at h0
    rw [if_pos e] at h0
    cases h0
  have h1 := h.i i
  have h2 := h.a s
  unfold Tb.add
  rw [if_pos h0]
  unfold tkE
  simp only [smI_app, smA_app, smI, smA, sm_app, sm, if_true]
  refine ⟨?_, by omega⟩
  rw [if_neg hc, if_neg (by omega)]
/-- whatever is added, no limit is passed -/
theorem uses_keep {t : Tb} {k : Nat} (h : Good t k) {u : Us} (hu : u ∈ t.uses) : 1 ≤ u.c ∧ u.c ≤ u.l := by
  unfold Tb.uses at hu
  rcases List.mem_append.1 hu with hu | hu
  · obtain ⟨n, hn, rfl⟩ := List.mem_map.1 hu
    have h1 := upsI_mem.1 hn
    have h2 := h.i n
    show 1 ≤ smI t.L n ∧ smI t.L n ≤ t.li
    omega
  · obtain ⟨s, hs, rfl⟩ := List.mem_map.1 hu
    have h1 := upsA_mem.1 hs
    have h2 := h.a s
    show 1 ≤ smA t.L s ∧ smA t.L s ≤ t.la
    omega
end Go.Proofs.YtdfadcbchiogjaaGreat
