/- layer 13: securities and their prices, as numbers -/
import Derived.Test.YtdfadcbchiogjaaGreatRows
import Derived.WalkKit
namespace Go.Proofs.YtdfadcbchiogjaaGreat.H5.Num
open Go.RowKit
set_option linter.unusedVariables false
set_option linter.unusedSimpArgs false
theorem tl (s : ByteArray) : s.toList = s.data.toList := ByteArray.toList_eq s
theorem tl_inj {a b : ByteArray} (h : a.toList = b.toList) : a = b := by
  rw [tl, tl] at h
  obtain ⟨x⟩ := a
  obtain ⟨y⟩ := b
  have : x = y := Array.ext' h
  rw [this]
structure As where
  i : ByteArray
  iss : Int
  rat : Int
  mat : Int
  c : ByteArray
structure Kn where
  a : As
  p : Int
def key (k : Kn) : List UInt8 := k.a.i.toList
def Srt (L : List Kn) : Prop := L.Pairwise (fun x y => key x < key y)
def pos (L : List Kn) (n : List UInt8) : Nat := L.countP (fun k => decide (key k < n))
def has (L : List Kn) (n : List UInt8) : Bool := L.any (fun k => key k == n)
theorem pos_le (L : List Kn) (n : List UInt8) : pos L n ≤ L.length := List.countP_le_length
theorem lt_tr {a b c : List UInt8} (h : a < b) (k : b < c) : a < c := List.lt_trans h k
theorem lt_ir (a : List UInt8) : ¬ a < a := List.lt_irrefl a
theorem nlt_eq {x y : List UInt8} (h1 : ¬ x < y) (h2 : ¬ y < x) : x = y := List.le_antisymm (List.not_lt.1 h2) (List.not_lt.1 h1)
theorem pos_zero {L : List Kn} {n : List UInt8} (h : ∀ k ∈ L, ¬ key k < n) : pos L n = 0 := by
  unfold pos
  rw [List.countP_eq_zero]
  intro k hk
  simp [h k hk]
theorem pos_iff {n : List UInt8} : ∀ {L : List Kn}, Srt L → ∀ j (hj : j < L.length), j < pos L n ↔ key L[j] < n
  | [], _, j, hj => by simp at hj
  | x :: r, h, j, hj => by
    obtain ⟨h1, h2⟩ := List.pairwise_cons.1 h
    by_cases hx : key x < n
    · have e : pos (x :: r) n = pos r n + 1 := by unfold pos; rw [List.countP_cons_of_pos (by simpa using hx)]
      rw [e]
      cases j with
      | zero => simp [hx]
      | succ j =>
        have := pos_iff (n := n) h2 j (by simpa using hj)
        rw [List.getElem_cons_succ, ← this]
        omega
    · have hr : ∀ k ∈ x :: r, ¬ key k < n := by
        intro k hk
        rcases List.mem_cons.1 hk with rfl | hk
        · exact hx
        · exact fun hh => hx (lt_tr (h1 k hk) hh)
      rw [pos_zero hr]
      constructor
      · intro h0; omega
      · intro h0; exact absurd h0 (hr _ (List.getElem_mem hj))
theorem at_pos {L : List Kn} (h : Srt L) {n : List UInt8} {j : Nat} (hj : j < L.length) (e : key L[j] = n) : has L n = true ∧ pos L n = j := by
  refine ⟨?_, ?_⟩
  · unfold has
    rw [List.any_eq_true]
    exact ⟨_, List.getElem_mem hj, by simp [e]⟩
  · have h1 : ¬ j < pos L n := fun hh => by
      have := (pos_iff h j hj).1 hh
      rw [e] at this
      exact lt_ir _ this
    have h2 : ¬ pos L n < j := fun hh => by
      have hp : pos L n < L.length := by omega
      have := List.pairwise_iff_getElem.1 h (pos L n) j hp hj hh
      rw [e] at this
      have := (pos_iff h (pos L n) hp).2 this
      omega
    omega
theorem has_pos {L : List Kn} (h : Srt L) {n : List UInt8} (hh : has L n = true) : ∃ hp : pos L n < L.length, key L[pos L n] = n := by
  unfold has at hh
  rw [List.any_eq_true] at hh
  obtain ⟨k, hk, e⟩ := hh
  obtain ⟨j, hj, rfl⟩ := List.getElem_of_mem hk
  have e : key L[j] = n := by simpa using e
  obtain ⟨_, hp⟩ := at_pos h hj e
  have hl : pos L n < L.length := by omega
  refine ⟨hl, ?_⟩
  have : L[pos L n] = L[j] := by congr 1
  rw [this, e]
theorem has_not {L : List Kn} {n : List UInt8} (hn : ∀ j (hj : j < L.length), key L[j] ≠ n) : has L n = false := by
  cases e : has L n with
  | false => rfl
  | true =>
    unfold has at e
    rw [List.any_eq_true] at e
    obtain ⟨k, hk, e⟩ := e
    obtain ⟨j, hj, rfl⟩ := List.getElem_of_mem hk
    exact absurd (by simpa using e) (hn j hj)
theorem not_has {L : List Kn} {n : List UInt8} (h : has L n = false) : ∀ k ∈ L, key k ≠ n := by
  intro k hk e
  have : has L n = true := by
    unfold has
    rw [List.any_eq_true]
    exact ⟨k, hk, by simp [e]⟩
  rw [h] at this
  cases this
/-- where the document finds a number -/
def fx (L : List Kn) (n : List UInt8) : Int := if has L n = true then (pos L n : Int) else -1
def ins (L : List Kn) (a : As) : List Kn := L.take (pos L a.i.toList) ++ ⟨a, 0⟩ :: L.drop (pos L a.i.toList)
theorem ins_len (L : List Kn) (a : As) : (ins L a).length = L.length + 1 := by
  have := pos_le L a.i.toList
  unfold ins
  simp
  omega
theorem ins_mem {L : List Kn} {a : As} {k : Kn} (h : k ∈ ins L a) : k ∈ L ∨ k = ⟨a, 0⟩ := by
  unfold ins at h
  rcases List.mem_append.1 h with h | h
  · exact .inl (List.mem_of_mem_take h)
  · rcases List.mem_cons.1 h with h | h
    · exact .inr h
    · exact .inl (List.mem_of_mem_drop h)
theorem ins_srt {L : List Kn} (h : Srt L) {a : As} (hh : has L a.i.toList = false) : Srt (ins L a) := by
  have hlo : ∀ x ∈ L.take (pos L a.i.toList), key x < a.i.toList := by
    intro x hx
    obtain ⟨j, hj, rfl⟩ := List.getElem_of_mem hx
    rw [List.length_take] at hj
    rw [List.getElem_take]
    exact (pos_iff h j (by omega)).1 (by omega)
  have hhi : ∀ x ∈ L.drop (pos L a.i.toList), a.i.toList < key x := by
    intro x hx
    have hm := List.mem_of_mem_drop hx
    obtain ⟨j, hj, rfl⟩ := List.getElem_of_mem hx
    rw [List.length_drop] at hj
    rw [List.getElem_drop] at hm ⊢
    have h1 : ¬ key L[pos L a.i.toList + j] < a.i.toList := fun hh => by
      have := (pos_iff h _ (by omega)).2 hh
      omega
    cases Decidable.em (a.i.toList < key L[pos L a.i.toList + j]) with
    | inl h2 => exact h2
    | inr h2 => exact absurd (nlt_eq h1 h2) (not_has hh _ hm)
  unfold ins Srt
  rw [List.pairwise_append]
  refine ⟨List.Pairwise.take h, List.pairwise_cons.2 ⟨fun x hx => hhi x hx, List.Pairwise.drop h⟩, ?_⟩
  intro x hx y hy
  rcases List.mem_cons.1 hy with rfl | hy
  · exact hlo x hx
  · exact lt_tr (hlo x hx) (hhi y hy)
/-- what the document has laid by the i-th round -/
def outs (L : List Kn) (a : As) (i : Nat) : List Kn := if pos L a.i.toList < i then (ins L a).take (i + 1) else L.take i
theorem outs_zero (L : List Kn) (a : As) : outs L a 0 = [] := by unfold outs; rw [if_neg (by omega)]; rfl
theorem outs_here {L : List Kn} {a : As} {i : Nat} (hi : i < L.length) (e : pos L a.i.toList = i) : outs L a i ++ [⟨a, 0⟩] ++ [L[i]] = outs L a (i + 1) := by
  unfold outs
  rw [if_neg (by omega), if_pos (by omega)]
  unfold ins
  rw [e]
  have h1 : (L.take i).length = i := by rw [List.length_take]; omega
  rw [show i + 1 + 1 = (L.take i).length + 2 by omega, List.take_length_add_append]
  have h2 : List.take 1 (List.drop i L) = [L[i]] := by rw [List.drop_eq_getElem_cons hi]; rfl
  simp [h2]
theorem outs_else {L : List Kn} {a : As} {i : Nat} (hi : i < L.length) (e : pos L a.i.toList ≠ i) : outs L a i ++ [L[i]] = outs L a (i + 1) := by
  unfold outs
  by_cases h : pos L a.i.toList < i
  · rw [if_pos h, if_pos (by omega)]
    have hl := ins_len L a
    have h2 : (ins L a)[i + 1]'(by omega) = L[i] := by
      have hp := pos_le L a.i.toList
      have h1 : (L.take (pos L a.i.toList)).length = pos L a.i.toList := by rw [List.length_take]; omega
      unfold ins
      rw [List.getElem_append_right (by omega)]
      have h3 : i + 1 - (L.take (pos L a.i.toList)).length = (i - pos L a.i.toList) + 1 := by omega
      simp only [h3, List.getElem_cons_succ, List.getElem_drop]
      congr 1
      omega
    rw [← h2, List.take_append_getElem]
  · rw [if_neg h, if_neg (by omega), List.take_append_getElem]
theorem outs_end {L : List Kn} {a : As} (h : pos L a.i.toList = L.length) : outs L a L.length ++ [⟨a, 0⟩] = ins L a := by
  unfold outs ins
  rw [if_neg (by omega), h]
  simp
theorem outs_done {L : List Kn} {a : As} (h : pos L a.i.toList < L.length) : outs L a L.length = ins L a := by
  unfold outs
  rw [if_pos h, ← ins_len L a, List.take_length]
abbrev Pr := ByteArray × Int
def upd (L : List Kn) (n : List UInt8) (p : Int) : List Kn := L.map (fun k => if key k = n then ⟨k.a, p⟩ else k)
theorem upd_len (L : List Kn) (n : List UInt8) (p : Int) : (upd L n p).length = L.length := by simp [upd]
theorem upd_key (n : List UInt8) (p : Int) (k : Kn) : key (if key k = n then ⟨k.a, p⟩ else k) = key k := by split <;> rfl
theorem upd_pos (L : List Kn) (n m : List UInt8) (p : Int) : pos (upd L n p) m = pos L m := by
  unfold pos upd
  rw [List.countP_map]
  congr 1
  funext k
  simp only [Function.comp, upd_key]
theorem upd_has (L : List Kn) (n m : List UInt8) (p : Int) : has (upd L n p) m = has L m := by
  unfold has upd
  rw [List.any_map]
  congr 1
  funext k
  simp only [Function.comp, upd_key]
theorem upd_srt {L : List Kn} (h : Srt L) (n : List UInt8) (p : Int) : Srt (upd L n p) := by
  unfold Srt upd
  rw [List.pairwise_map]
  simp only [upd_key]
  exact h
theorem upd_set {L : List Kn} (h : Srt L) {n : List UInt8} (p : Int) (hp : pos L n < L.length) (e : key L[pos L n] = n) : upd L n p = L.set (pos L n) ⟨L[pos L n].a, p⟩ := by
  apply List.ext_getElem
  · simp [upd]
  · intro j h1 h2
    have hj : j < L.length := by simpa [upd] using h1
    have hm : (upd L n p)[j] = if key L[j] = n then ⟨L[j].a, p⟩ else L[j] := List.getElem_map ..
    rw [hm, List.getElem_set]
    by_cases e2 : pos L n = j
    · subst e2
      rw [if_pos e, if_pos rfl]
    · rw [if_neg (fun e3 => e2 (at_pos h hj e3).2), if_neg e2]
def why (L : List Kn) (x : Pr) : Nat := if has L x.1.toList = true then (if 1 ≤ x.2 ∧ x.2 ≤ 4294967296 then 0 else 31) else 21
def stp (L : List Kn) : Nat → List Pr → Nat × Nat
  | k, [] => (k, 0)
  | k, x :: r => if why L x = 0 then stp L (k + 1) r else (k, why L x)
theorem stp_at {L : List Kn} : ∀ {ps : List Pr} {k m : Nat} (hk : k < ps.length), (∀ j (hj : j < ps.length), j < k → why L ps[j] = 0) → why L ps[k] ≠ 0 → stp L m ps = (m + k, why L ps[k])
  | [], k, m, hk, _, _ => by simp at hk
  | x :: r, 0, m, hk, _, h => by
    have h : why L x ≠ 0 := h
    simp [stp, h]
  | x :: r, k + 1, m, hk, h1, h => by
    have h0 : why L x = 0 := h1 0 (by simp) (by omega)
    have := stp_at (L := L) (ps := r) (k := k) (m := m + 1) (by simpa using hk) (fun j hj hjk => h1 (j + 1) (by simpa using hj) (by omega)) h
    simp only [stp, h0, if_true, this, List.getElem_cons_succ, Prod.mk.injEq, and_true]
    omega
theorem stp_end {L : List Kn} : ∀ {ps : List Pr} {m : Nat}, (∀ j (hj : j < ps.length), why L ps[j] = 0) → stp L m ps = (m + ps.length, 0)
  | [], m, _ => by simp [stp]
  | x :: r, m, h => by
    have h0 : why L x = 0 := h 0 (by simp)
    have := stp_end (L := L) (ps := r) (m := m + 1) (fun j hj => h (j + 1) (by simpa using hj))
    simp only [stp, h0, if_true, this, List.length_cons, Prod.mk.injEq, and_true]
    omega
def folds (L : List Kn) (ps : List Pr) : List Kn := ps.foldl (fun M x => upd M x.1.toList x.2) L
theorem folds_take {L : List Kn} {ps : List Pr} {k : Nat} (hk : k < ps.length) : folds L (ps.take (k + 1)) = upd (folds L (ps.take k)) ps[k].1.toList ps[k].2 := by
  unfold folds
  rw [← List.take_append_getElem hk, List.foldl_append]
  rfl
theorem folds_pos (m : List UInt8) : ∀ (ps : List Pr) (L : List Kn), pos (folds L ps) m = pos L m
  | [], L => rfl
  | x :: r, L => (folds_pos m r (upd L x.1.toList x.2)).trans (upd_pos L _ m _)
theorem folds_has (m : List UInt8) : ∀ (ps : List Pr) (L : List Kn), has (folds L ps) m = has L m
  | [], L => rfl
  | x :: r, L => (folds_has m r (upd L x.1.toList x.2)).trans (upd_has L _ m _)
theorem folds_len : ∀ (ps : List Pr) (L : List Kn), (folds L ps).length = L.length
  | [], L => rfl
  | x :: r, L => (folds_len r (upd L x.1.toList x.2)).trans (upd_len L _ _)
theorem folds_srt : ∀ (ps : List Pr) {L : List Kn}, Srt L → Srt (folds L ps)
  | [], L, h => h
  | x :: r, L, h => folds_srt r (upd_srt h _ _)
def setE (L : List Kn) (ps : List Pr) : Nat := (stp L 0 ps).2
def setN (L : List Kn) (ps : List Pr) : Nat := (stp L 0 ps).1
def setL (L : List Kn) (ps : List Pr) : List Kn := if setE L ps = 0 then folds L ps else L
structure Fine (k : Kn) : Prop where
  i : k.a.i.size ≤ 12
  c : k.a.c.size ≤ 3
  p0 : 0 ≤ k.p
  p1 : k.p ≤ 4294967296
  m0 : 0 ≤ k.a.mat
  m1 : k.a.mat ≤ 200000
structure Good (L : List Kn) : Prop where
  srt : Srt L
  len : L.length ≤ 64
  all : ∀ k ∈ L, Fine k
theorem Good.nil : Good [] := ⟨List.Pairwise.nil, by simp, by simp⟩
theorem upd_fine {L : List Kn} (h : ∀ k ∈ L, Fine k) {n : List UInt8} {p : Int} (h0 : 0 ≤ p) (h1 : p ≤ 4294967296) : ∀ k ∈ upd L n p, Fine k := by
  intro k hk
  unfold upd at hk
  obtain ⟨x, hx, rfl⟩ := List.mem_map.1 hk
  have f := h x hx
  split
  · exact ⟨f.i, f.c, h0, h1, f.m0, f.m1⟩
  · exact f
theorem folds_fine : ∀ (ps : List Pr) {L : List Kn}, (∀ k ∈ L, Fine k) → (∀ x ∈ ps, 0 ≤ x.2 ∧ x.2 ≤ 4294967296) → ∀ k ∈ folds L ps, Fine k
  | [], L, h, _ => h
  | x :: r, L, h, hp => folds_fine r (upd_fine h (hp x (by simp)).1 (hp x (by simp)).2) (fun y hy => hp y (by simp [hy]))
theorem why_ok {L : List Kn} {x : Pr} (h : why L x = 0) : has L x.1.toList = true ∧ 1 ≤ x.2 ∧ x.2 ≤ 4294967296 := by
  unfold why at h
  split at h
  · rename_i h1
    split at h
    · rename_i h2; exact ⟨h1, h2⟩
    · cases h
  · cases h
theorem setE_all {L : List Kn} {ps : List Pr} (h : setE L ps = 0) : ∀ j (hj : j < ps.length), why L ps[j] = 0 := by
  intro j
  induction j using Nat.strongRecOn with
  | _ j ih =>
    intro hj
    cases Decidable.em (why L ps[j] = 0) with
    | inl e => exact e
    | inr e =>
      have := stp_at (L := L) (m := 0) hj (fun i hi hij => ih i hij hi) e
      unfold setE at h
      rw [this] at h
      exact absurd h e
theorem Good.set {L : List Kn} (g : Good L) (ps : List Pr) : Good (setL L ps) := by
  unfold setL
  split
  · rename_i h
    have ha := setE_all h
    refine ⟨folds_srt ps g.srt, by rw [folds_len]; exact g.len, folds_fine ps g.all (fun x hx => ?_)⟩
    obtain ⟨j, hj, rfl⟩ := List.getElem_of_mem hx
    have := why_ok (ha j hj)
    omega
  · exact g
def addE (L : List Kn) (e : Nat) (a : As) : Nat := if e ≠ 0 then e else if has L a.i.toList = true then 7 else if 64 ≤ L.length then 18 else 0
def addL (L : List Kn) (e : Nat) (a : As) : List Kn := if addE L e a = 0 then ins L a else L
theorem Good.add {L : List Kn} (g : Good L) {e : Nat} {a : As} (ha : e = 0 → a.i.size ≤ 12 ∧ a.c.size ≤ 3 ∧ 0 ≤ a.mat ∧ a.mat ≤ 200000) : Good (addL L e a) := by
  unfold addL
  split
  · rename_i h
    unfold addE at h
    split at h
    · rename_i h1; exact absurd h h1
    · rename_i h1
      split at h
      · cases h
      · rename_i h2
        split at h
        · cases h
        · rename_i h3
          obtain ⟨a1, a2, a3, a4⟩ := ha (by omega)
          refine ⟨ins_srt g.srt (by cases e2 : has L a.i.toList with | false => rfl | true => exact absurd e2 h2), by rw [ins_len]; omega, fun k hk => ?_⟩
          rcases ins_mem hk with h | rfl
          · exact g.all k h
          · exact ⟨a1, a2, by simp, by simp, a3, a4⟩
  · exact g
end Go.Proofs.YtdfadcbchiogjaaGreat.H5.Num
