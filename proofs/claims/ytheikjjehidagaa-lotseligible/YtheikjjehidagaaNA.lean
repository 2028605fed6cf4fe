/- layer 17: lots as numbers -/
import Derived.Test.YtheikjjehidagaaRows
import Derived.WalkKit
namespace Go.Proofs.Ytheikjjehidagaa
open Go.RowKit
set_option linter.unusedVariables false
set_option linter.unusedSimpArgs false
theorem tl (s : ByteArray) : s.toList = s.data.toList := ByteArray.toList_eq s
theorem tl_inj {a b : ByteArray} (h : a.toList = b.toList) : a = b := by
  rw [tl, tl] at h
  obtain ⟨x⟩ := a
  obtain ⟨y⟩ := b
  have : x = y := Array.ext' h
  rw [this]
theorem lt_tr {a b c : List UInt8} (h : a < b) (k : b < c) : a < c := List.lt_trans h k
theorem lt_ir (a : List UInt8) : ¬ a < a := List.lt_irrefl a
theorem nlt_eq {x y : List UInt8} (h1 : ¬ x < y) (h2 : ¬ y < x) : x = y := List.le_antisymm (List.not_lt.1 h2) (List.not_lt.1 h1)
theorem nlt_gt {x y : List UInt8} (h1 : ¬ x < y) (h2 : ¬ x = y) : y < x := Classical.byContradiction fun h => h2 (nlt_eq h1 h)
structure Lt where
  i : ByteArray
  n : Int
def key (k : Lt) : List UInt8 := k.i.toList
theorem lt_ext {x y : Lt} (h : key x = key y) (k : x.n = y.n) : x = y := by
  obtain ⟨a, b⟩ := x
  obtain ⟨c, d⟩ := y
  have := tl_inj h
  simp only at this k
  rw [this, k]
def Srt (L : List Lt) : Prop := L.Pairwise (fun x y => key x < key y)
abbrev okq (n : Int) : Prop := 1 ≤ n ∧ n ≤ 1125899906842624
def qty : List Lt → List UInt8 → Int
  | [], _ => 0
  | x :: r, s => if key x = s then x.n else qty r s
def has (L : List Lt) (n : List UInt8) : Bool := L.any (fun k => key k == n)
def pos (L : List Lt) (n : List UInt8) : Nat := L.countP (fun k => decide (key k < n))
theorem pos_le (L : List Lt) (n : List UInt8) : pos L n ≤ L.length := List.countP_le_length
theorem pos_zero {L : List Lt} {n : List UInt8} (h : ∀ k ∈ L, ¬ key k < n) : pos L n = 0 := by
  unfold pos
  rw [List.countP_eq_zero]
  intro k hk
  simp [h k hk]
theorem srt_cons {x : Lt} {r : List Lt} (h : Srt (x :: r)) : (∀ y ∈ r, key x < key y) ∧ Srt r := List.pairwise_cons.1 h
theorem pos_lt {x : Lt} {r : List Lt} {n : List UInt8} (h : key x < n) : pos (x :: r) n = pos r n + 1 := by unfold pos; rw [List.countP_cons_of_pos (by simpa using h)]
theorem pos_ge {x : Lt} {r : List Lt} {n : List UInt8} (hs : Srt (x :: r)) (h : ¬ key x < n) : pos (x :: r) n = 0 := pos_zero fun k hk => by
  rcases List.mem_cons.1 hk with rfl | hk
  · exact h
  · exact fun hh => h (lt_tr ((srt_cons hs).1 k hk) hh)
theorem pos_iff {n : List UInt8} : ∀ {L : List Lt}, Srt L → ∀ j (hj : j < L.length), j < pos L n ↔ key L[j] < n
  | [], _, j, hj => by simp at hj
  | x :: r, h, j, hj => by
    obtain ⟨h1, h2⟩ := List.pairwise_cons.1 h
    by_cases hx : key x < n
    · rw [pos_lt hx]
      cases j with
      | zero => simp [hx]
      | succ j =>
        have := pos_iff (n := n) h2 j (by simpa using hj)
        rw [List.getElem_cons_succ, ← this]
        omega
    · rw [pos_ge h hx]
      constructor
      · intro h0; omega
      · intro h0
        rcases List.mem_cons.1 (List.getElem_mem hj) with e | e
        · rw [e] at h0; exact absurd h0 hx
        · exact absurd (lt_tr (h1 _ e) h0) hx
theorem at_pos {L : List Lt} (h : Srt L) {n : List UInt8} {j : Nat} (hj : j < L.length) (e : key L[j] = n) : has L n = true ∧ pos L n = j := by
  refine ⟨?_, ?_⟩
  · unfold has
    rw [List.any_eq_true]
    exact ⟨_, List.getElem_mem hj, by simp [e]⟩
  · have h1 : ¬ j < pos L n := fun hh => by
      have := (pos_iff h j hj).1 hh
      rw [e] at this
      exact lt_ir _ this
    have h2 : ¬ pos L n < j := fun hh => by
      have hp : pos L n < L.length := by omega
      have := List.pairwise_iff_getElem.1 h (pos L n) j hp hj hh
      rw [e] at this
      have := (pos_iff h (pos L n) hp).2 this
      omega
    omega
theorem has_pos {L : List Lt} (h : Srt L) {n : List UInt8} (hh : has L n = true) : ∃ hp : pos L n < L.length, key L[pos L n] = n := by
  unfold has at hh
  rw [List.any_eq_true] at hh
  obtain ⟨k, hk, e⟩ := hh
  obtain ⟨j, hj, rfl⟩ := List.getElem_of_mem hk
  have e : key L[j] = n := by simpa using e
  obtain ⟨_, hp⟩ := at_pos h hj e
  have hl : pos L n < L.length := by omega
  refine ⟨hl, ?_⟩
  have : L[pos L n] = L[j] := by congr 1
  rw [this, e]
theorem has_not {L : List Lt} {n : List UInt8} (hn : ∀ j (hj : j < L.length), key L[j] ≠ n) : has L n = false := by
  cases e : has L n with
  | false => rfl
  | true =>
    unfold has at e
    rw [List.any_eq_true] at e
    obtain ⟨k, hk, e⟩ := e
    obtain ⟨j, hj, rfl⟩ := List.getElem_of_mem hk
    exact absurd (by simpa using e) (hn j hj)
theorem not_has {L : List Lt} {n : List UInt8} (h : has L n = false) : ∀ k ∈ L, key k ≠ n := by
  intro k hk e
  have : has L n = true := by
    unfold has
    rw [List.any_eq_true]
    exact ⟨k, hk, by simp [e]⟩
  rw [h] at this
  cases this
theorem has_mem {L : List Lt} {n : List UInt8} (h : has L n = true) : ∃ x ∈ L, key x = n := by
  unfold has at h
  rw [List.any_eq_true] at h
  obtain ⟨k, hk, e⟩ := h
  exact ⟨k, hk, by simpa using e⟩
theorem has_of {L : List Lt} {x : Lt} (h : x ∈ L) : has L (key x) = true := by
  unfold has
  rw [List.any_eq_true]
  exact ⟨x, h, by simp⟩
/-- how many of what isn't there -/
theorem qty_no {t : List UInt8} : ∀ {L : List Lt}, (∀ x ∈ L, key x ≠ t) → qty L t = 0
  | [], _ => rfl
  | x :: r, h => by
    unfold qty
    rw [if_neg (h x (by simp))]
    exact qty_no fun y hy => h y (by simp [hy])
theorem qty_has {t : List UInt8} : ∀ {L : List Lt}, has L t = true → ∃ x ∈ L, key x = t ∧ qty L t = x.n
  | [], h => by simp [has] at h
  | x :: r, h => by
    by_cases e : key x = t
    · exact ⟨x, by simp, e, by unfold qty; rw [if_pos e]⟩
    · have h2 : has r t = true := by
        obtain ⟨y, hy, e2⟩ := has_mem h
        rcases List.mem_cons.1 hy with rfl | hy
        · exact absurd e2 e
        · rw [← e2]; exact has_of hy
      obtain ⟨y, hy, e2, e3⟩ := qty_has h2
      exact ⟨y, by simp [hy], e2, by unfold qty; rw [if_neg e]; exact e3⟩
theorem qty_mem : ∀ {L : List Lt}, Srt L → ∀ x ∈ L, qty L (key x) = x.n
  | [], _, x, h => by simp at h
  | y :: r, hs, x, h => by
    obtain ⟨h1, h2⟩ := srt_cons hs
    unfold qty
    rcases List.mem_cons.1 h with rfl | h
    · rw [if_pos rfl]
    · rw [if_neg (fun e => by have := h1 x h; rw [e] at this; exact lt_ir _ this)]
      exact qty_mem h2 x h
theorem qty_gone {x : Lt} {r : List Lt} (h : Srt (x :: r)) : qty r (key x) = 0 := qty_no fun y hy e => by
  have := (srt_cons h).1 y hy
  rw [e] at this
  exact lt_ir _ this
theorem qty_ok {L : List Lt} (h : ∀ x ∈ L, okq x.n) (t : List UInt8) : 0 ≤ qty L t ∧ qty L t ≤ 1125899906842624 ∧ (qty L t = 0 ↔ has L t = false) := by
  cases e : has L t with
  | false =>
    have := qty_no (L := L) (t := t) (not_has e)
    rw [this]
    simp
  | true =>
    obtain ⟨x, hx, _, e2⟩ := qty_has e
    have := h x hx
    unfold okq at this
    rw [e2]
    refine ⟨by omega, by omega, ?_⟩
    constructor
    · intro h0; omega
    · intro h0; cases h0
theorem srt_ext : ∀ {L M : List Lt}, Srt L → Srt M → (∀ x ∈ L, x.n ≠ 0) → (∀ x ∈ M, x.n ≠ 0) → (∀ t, qty L t = qty M t) → L = M
  | [], [], _, _, _, _, _ => rfl
  | [], y :: s, _, _, _, h4, h => by
    have := h (key y)
    unfold qty at this
    rw [if_pos rfl] at this
    exact absurd this.symm (h4 y (by simp))
  | x :: r, [], _, _, h3, _, h => by
    have := h (key x)
    unfold qty at this
    rw [if_pos rfl] at this
    exact absurd this (h3 x (by simp))
  | x :: r, y :: s, h1, h2, h3, h4, h => by
    have lo : ∀ {a b : Lt} {p q : List Lt}, Srt (b :: q) → key a < key b → qty (b :: q) (key a) = 0 := fun {a b p q} hs hl => qty_no fun z hz e => by
      rcases List.mem_cons.1 hz with rfl | hz
      · rw [e] at hl; exact lt_ir _ hl
      · have := lt_tr hl ((srt_cons hs).1 z hz)
        rw [e] at this
        exact lt_ir _ this
    have hd : ∀ (a : Lt) (q : List Lt), qty (a :: q) (key a) = a.n := fun a q => by unfold qty; rw [if_pos rfl]
    by_cases e1 : key x < key y
    · have := h (key x)
      rw [lo (p := r) h2 e1, hd] at this
      exact absurd this (h3 x (by simp))
    · by_cases e2 : key y < key x
      · have := h (key y)
        rw [lo (p := s) h1 e2, hd] at this
        exact absurd this.symm (h4 y (by simp))
      · have e := nlt_eq e1 e2
        have hn : x.n = y.n := by
          have := h (key x)
          rw [hd, e, hd] at this
          exact this
        have hxy := lt_ext e hn
        subst hxy
        congr 1
        refine srt_ext (srt_cons h1).2 (srt_cons h2).2 (fun z hz => h3 z (by simp [hz])) (fun z hz => h4 z (by simp [hz])) fun t => ?_
        by_cases et : key x = t
        · rw [← et, qty_gone h1, qty_gone h2]
        · have := h t
          unfold qty at this
          rw [if_neg et, if_neg et] at this
          exact this
/-- the document's list with so many of one -/
def setR (m : Lt) : Bool → List Lt → List Lt
  | d, [] => if d = true then [] else [m]
  | d, x :: r => ((if d = false ∧ ¬ key x < key m then [m] else []) ++ if key x = key m then [] else [x]) ++ setR m (d || !decide (key x < key m)) r
theorem setR_true (m : Lt) : ∀ L : List Lt, setR m true L = L.filter (fun x => decide (key x ≠ key m))
  | [] => by simp [setR]
  | x :: r => by
    unfold setR
    rw [Bool.true_or, setR_true m r]
    by_cases e : key x = key m
    · simp [e]
    · simp [e]
theorem setR_lt {m x : Lt} (r : List Lt) (h : key x < key m) : setR m false (x :: r) = x :: setR m false r := by
  have e : ¬ key x = key m := fun e => by rw [e] at h; exact lt_ir _ h
  conv => lhs; unfold setR
  simp [h, e]
theorem setR_ge {m x : Lt} (r : List Lt) (h : ¬ key x < key m) : setR m false (x :: r) = m :: setR m true (x :: r) := by
  conv => lhs; unfold setR
  conv => rhs; rw [setR_true, List.filter_cons]
  rw [if_pos ⟨rfl, h⟩]
  simp only [h, decide_false, Bool.not_false, Bool.or_true]
  rw [setR_true]
  by_cases e : key x = key m
  · simp [e]
  · simp [e]
theorem qty_filter (m : List UInt8) (t : List UInt8) : ∀ L : List Lt, qty (L.filter (fun x => decide (key x ≠ m))) t = if t = m then 0 else qty L t
  | [] => by simp [qty]
  | x :: r => by
    have ih := qty_filter m t r
    rw [List.filter_cons]
    by_cases e : key x = m
    · rw [if_neg (by simp [e]), ih]
      by_cases e2 : t = m
      · rw [if_pos e2, if_pos e2]
      · rw [if_neg e2, if_neg e2]
        conv => rhs; unfold qty
        rw [if_neg (fun e3 => e2 (e3.symm.trans e))]
    · rw [if_pos (by simp [e])]
      unfold qty
      rw [ih]
      by_cases e3 : key x = t
      · rw [if_pos e3, if_pos e3, if_neg (fun e2 => e (e3.trans e2))]
      · rw [if_neg e3, if_neg e3]
theorem qty_set (m : Lt) (t : List UInt8) : ∀ L : List Lt, qty (setR m false L) t = if t = key m then m.n else qty L t
  | [] => by
    unfold setR
    simp only [Bool.false_eq_true, if_false]
    unfold qty
    by_cases e : t = key m
    · rw [if_pos e, if_pos e.symm]
    · rw [if_neg e, if_neg (fun h => e h.symm)]
      rfl
  | x :: r => by
    by_cases h : key x < key m
    · rw [setR_lt r h]
      unfold qty
      rw [qty_set m t r]
      by_cases e : key x = t
      · rw [if_pos e, if_pos e, if_neg (fun e2 => by rw [e, e2] at h; exact lt_ir _ h)]
      · rw [if_neg e, if_neg e]
    · rw [setR_ge r h, setR_true]
      conv => lhs; unfold qty
      rw [qty_filter]
      by_cases e : t = key m
      · rw [if_pos e.symm, if_pos e]
      · rw [if_neg (fun h => e h.symm), if_neg e, if_neg e]
theorem setR_mem {m : Lt} : ∀ {L : List Lt} {d : Bool} {y : Lt}, y ∈ setR m d L → (y ∈ L ∧ key y ≠ key m) ∨ (y = m ∧ d = false)
  | [], d, y, h => by
    unfold setR at h
    cases d
    · simp at h; exact .inr ⟨h, rfl⟩
    · simp at h
  | x :: r, d, y, h => by
    cases d with
    | true =>
      rw [setR_true] at h
      have := List.mem_filter.1 h
      exact .inl ⟨this.1, by simpa using this.2⟩
    | false =>
      by_cases hx : key x < key m
      · rw [setR_lt r hx] at h
        rcases List.mem_cons.1 h with rfl | h
        · exact .inl ⟨by simp, fun e => by rw [e] at hx; exact lt_ir _ hx⟩
        · rcases setR_mem h with ⟨h1, h2⟩ | h1
          · exact .inl ⟨by simp [h1], h2⟩
          · exact .inr h1
      · rw [setR_ge r hx, setR_true] at h
        rcases List.mem_cons.1 h with rfl | h
        · exact .inr ⟨rfl, rfl⟩
        · have := List.mem_filter.1 h
          exact .inl ⟨this.1, by simpa using this.2⟩
theorem setR_srt {m : Lt} : ∀ {L : List Lt} {d : Bool}, Srt L → Srt (setR m d L)
  | [], d, h => by
    unfold setR
    cases d <;> simp [Srt]
  | x :: r, d, h => by
    cases d with
    | true => rw [setR_true]; exact h.filter _
    | false =>
      obtain ⟨h1, h2⟩ := srt_cons h
      by_cases hx : key x < key m
      · rw [setR_lt r hx]
        refine List.pairwise_cons.2 ⟨fun y hy => ?_, setR_srt h2⟩
        rcases setR_mem hy with ⟨h3, _⟩ | ⟨rfl, _⟩
        · exact h1 y h3
        · exact hx
      · rw [setR_ge r hx, setR_true]
        refine List.pairwise_cons.2 ⟨fun y hy => ?_, h.filter _⟩
        have := List.mem_filter.1 hy
        have hne : key y ≠ key m := by simpa using this.2
        rcases List.mem_cons.1 this.1 with rfl | h3
        · exact nlt_gt hx hne
        · have h4 := h1 y h3
          by_cases e : key x = key m
          · rw [← e]; exact h4
          · exact lt_tr (nlt_gt hx e) h4
theorem setR_len {m : Lt} : ∀ {L : List Lt}, (setR m false L).length ≤ L.length + 1
  | [] => by simp [setR]
  | x :: r => by
    by_cases hx : key x < key m
    · rw [setR_lt r hx]
      have := setR_len (m := m) (L := r)
      simp only [List.length_cons]
      omega
    · rw [setR_ge r hx, setR_true]
      have := List.length_filter_le (fun x => decide (key x ≠ key m)) (x :: r)
      simp only [List.length_cons] at this ⊢
      omega
theorem setR_none {m : Lt} : ∀ {L : List Lt}, (∀ x ∈ L, key x ≠ key m) → setR m true L = L := fun {L} h => by
  rw [setR_true, List.filter_eq_self]
  intro x hx
  simpa using h x hx
theorem setR_ins {m : Lt} : ∀ {L : List Lt}, Srt L → has L (key m) = false → setR m false L = L.take (pos L (key m)) ++ m :: L.drop (pos L (key m))
  | [], _, _ => by simp [setR, pos]
  | x :: r, h, hh => by
    have hn := not_has hh
    by_cases hx : key x < key m
    · have h2 : has r (key m) = false := has_not fun j hj => hn _ (by simp)
      rw [setR_lt r hx, pos_lt hx, setR_ins (srt_cons h).2 h2]
      rfl
    · rw [setR_ge r hx, pos_ge h hx, setR_none hn]
      rfl
theorem setR_upd {m : Lt} : ∀ {L : List Lt}, Srt L → has L (key m) = true → setR m false L = L.set (pos L (key m)) m
  | [], _, h => by simp [has] at h
  | x :: r, h, hh => by
    obtain ⟨h1, h2⟩ := srt_cons h
    obtain ⟨y, hy, e⟩ := has_mem hh
    by_cases hx : key x < key m
    · have hr : has r (key m) = true := by
        rcases List.mem_cons.1 hy with rfl | hy
        · rw [e] at hx; exact absurd hx (lt_ir _)
        · rw [← e]; exact has_of hy
      rw [setR_lt r hx, pos_lt hx, setR_upd h2 hr]
      rfl
    · have ex : key x = key m := by
        rcases List.mem_cons.1 hy with rfl | hy
        · exact e
        · have := h1 y hy
          rw [e] at this
          exact absurd this hx
      have hr : ∀ z ∈ r, key z ≠ key m := fun z hz e2 => by
        have := h1 z hz
        rw [e2, ex] at this
        exact lt_ir _ this
      rw [setR_ge r hx, pos_ge h hx]
      show m :: setR m true (x :: r) = m :: r
      unfold setR
      rw [if_neg (by simp), if_pos ex, Bool.true_or, setR_none hr]
      rfl
theorem setR_end {m : Lt} : ∀ {L : List Lt}, (∀ x ∈ L, key x < key m) → setR m false L = L ++ [m]
  | [], _ => by simp [setR]
  | x :: r, h => by
    rw [setR_lt r (h x (by simp)), setR_end fun y hy => h y (by simp [hy])]
    rfl
/-- a list of lots -/
structure Good (L : List Lt) : Prop where
  srt : Srt L
  len : L.length ≤ 64
  ok : ∀ x ∈ L, okq x.n
theorem Good.nil : Good [] := ⟨List.Pairwise.nil, by simp, by simp⟩
theorem Good.ne {L : List Lt} (g : Good L) : ∀ x ∈ L, x.n ≠ 0 := fun x hx => by have := g.ok x hx; unfold okq at this; omega
def addE (L : List Lt) (x : Lt) : Nat := if okq x.n then (if qty L (key x) = 0 ∧ 64 ≤ L.length then 2 else if x.n > 1125899906842624 - qty L (key x) then 9 else 0) else 1
def addL (L : List Lt) (x : Lt) : List Lt := setR ⟨x.i, qty L (key x) + x.n⟩ false L
theorem addE_ok {L : List Lt} {x : Lt} (h : addE L x = 0) : okq x.n ∧ ¬ (qty L (key x) = 0 ∧ 64 ≤ L.length) ∧ ¬ x.n > 1125899906842624 - qty L (key x) := by
  unfold addE at h
  split at h
  · rename_i h1
    split at h
    · cases h
    · rename_i h2
      split at h
      · cases h
      · rename_i h3
        exact ⟨h1, h2, h3⟩
  · cases h
theorem addE_iff {L : List Lt} {x : Lt} (h1 : okq x.n) (h2 : ¬ (qty L (key x) = 0 ∧ 64 ≤ L.length)) (h3 : ¬ x.n > 1125899906842624 - qty L (key x)) : addE L x = 0 := by
  unfold addE
  rw [if_pos h1, if_neg h2, if_neg h3]
theorem qty_add (L : List Lt) (x : Lt) (t : List UInt8) : qty (addL L x) t = if t = key x then qty L (key x) + x.n else qty L t := qty_set ⟨x.i, qty L (key x) + x.n⟩ t L
theorem Good.add {L : List Lt} (g : Good L) {x : Lt} (h : addE L x = 0) : Good (addL L x) := by
  obtain ⟨h1, h2, h3⟩ := addE_ok h
  have hq := qty_ok g.ok (key x)
  unfold okq at h1
  refine ⟨setR_srt g.srt, ?_, fun y hy => ?_⟩
  · unfold addL
    cases e : has L (key x) with
    | false =>
      have := setR_len (m := ⟨x.i, qty L (key x) + x.n⟩) (L := L)
      have h4 := hq.2.2.2 e
      have : L.length < 64 := by
        apply Classical.byContradiction
        intro h5
        exact h2 ⟨h4, by omega⟩
      omega
    | true =>
      have := setR_upd (m := ⟨x.i, qty L (key x) + x.n⟩) g.srt e
      rw [this, List.length_set]
      exact g.len
  · rcases setR_mem hy with ⟨h4, _⟩ | ⟨rfl, _⟩
    · exact g.ok y h4
    · show okq (qty L (key x) + x.n)
      unfold okq
      omega
def mrg : List Lt → List Lt → List Lt × Nat
  | L, [] => (L, 0)
  | L, x :: r => if addE L x = 0 then mrg (addL L x) r else ([], addE L x)
theorem mrg_good : ∀ {b L : List Lt}, Good L → (mrg L b).2 = 0 → Good (mrg L b).1
  | [], L, g, _ => g
  | x :: r, L, g, h => by
    unfold mrg at h ⊢
    split
    · rename_i h1
      rw [if_pos h1] at h
      exact mrg_good (g.add h1) h
    · rename_i h1
      rw [if_neg h1] at h
      exact absurd h h1
theorem mrg_bad : ∀ {b L : List Lt}, (mrg L b).2 ≠ 0 → (mrg L b).1 = []
  | [], L, h => absurd rfl h
  | x :: r, L, h => by
    unfold mrg at h ⊢
    split
    · rename_i h1
      rw [if_pos h1] at h
      exact mrg_bad h
    · rfl
theorem mrg_qty : ∀ {b L : List Lt}, Srt b → (mrg L b).2 = 0 → ∀ t, qty (mrg L b).1 t = qty L t + qty b t
  | [], L, _, _, t => by unfold mrg; simp [qty]
  | x :: r, L, hs, h, t => by
    unfold mrg at h ⊢
    split
    · rename_i h1
      rw [if_pos h1] at h
      rw [mrg_qty (srt_cons hs).2 h t, qty_add]
      conv => rhs; rw [show qty (x :: r) t = if key x = t then x.n else qty r t from rfl]
      by_cases e : t = key x
      · rw [if_pos e, if_pos e.symm, e, qty_gone hs]
        omega
      · rw [if_neg e, if_neg (fun h => e h.symm)]
    · rename_i h1
      rw [if_neg h1] at h
      exact absurd h h1
theorem add_end {L : List Lt} {x : Lt} (h : ∀ y ∈ L, key y < key x) : qty L (key x) = 0 ∧ addL L x = L ++ [x] := by
  have h0 : qty L (key x) = 0 := qty_no fun y hy e => by
    have := h y hy
    rw [e] at this
    exact lt_ir _ this
  refine ⟨h0, ?_⟩
  unfold addL
  rw [h0, Int.zero_add]
  exact setR_end h
theorem mrg_pre : ∀ {l L b : List Lt}, Good (L ++ l) → mrg L (l ++ b) = mrg (L ++ l) b
  | [], L, b, g => by simp
  | x :: r, L, b, g => by
    have hs := List.pairwise_append.1 g.srt
    have hlt : ∀ y ∈ L, key y < key x := fun y hy => hs.2.2 y hy x (by simp)
    obtain ⟨h0, h1⟩ := add_end hlt
    have hk := g.ok x (by simp)
    have hl := g.len
    rw [List.length_append, List.length_cons] at hl
    have h2 : addE L x = 0 := addE_iff hk (by rw [h0]; omega) (by rw [h0]; unfold okq at hk; omega)
    rw [List.cons_append]
    conv => lhs; unfold mrg
    rw [if_pos h2, h1]
    have e : L ++ x :: r = (L ++ [x]) ++ r := by simp
    rw [e] at g ⊢
    exact mrg_pre g
theorem mrg_cat {a b : List Lt} (g : Good a) : mrg [] (a ++ b) = mrg a b := mrg_pre (L := []) g
/-- those that are left of lots -/
def pick (g : Lt → Int) (L : List Lt) : List Lt := (L.map fun x => ⟨x.i, g x⟩).filter fun y => decide (0 < y.n)
theorem pick_snoc (g : Lt → Int) (L : List Lt) (x : Lt) : pick g (L ++ [x]) = pick g L ++ if 0 < g x then [⟨x.i, g x⟩] else [] := by
  unfold pick
  rw [List.map_append, List.filter_append]
  congr 1
  by_cases h : 0 < g x
  · simp [h]
  · simp [h]
theorem pick_take {g : Lt → Int} {L : List Lt} {k : Nat} (h : k < L.length) : pick g (L.take (k + 1)) = pick g (L.take k) ++ if 0 < g L[k] then [⟨L[k].i, g L[k]⟩] else [] := by
  rw [List.take_succ_eq_append_getElem h, pick_snoc]
theorem pick_mem {g : Lt → Int} {L : List Lt} {y : Lt} (h : y ∈ pick g L) : ∃ x ∈ L, key y = key x ∧ y.n = g x ∧ 0 < y.n := by
  unfold pick at h
  obtain ⟨h1, h2⟩ := List.mem_filter.1 h
  obtain ⟨x, hx, rfl⟩ := List.mem_map.1 h1
  exact ⟨x, hx, rfl, rfl, by simpa using h2⟩
theorem pick_srt {g : Lt → Int} {L : List Lt} (h : Srt L) : Srt (pick g L) := by
  unfold pick
  refine List.Pairwise.filter _ ?_
  rw [List.pairwise_map]
  exact h
theorem pick_len (g : Lt → Int) (L : List Lt) : (pick g L).length ≤ L.length := by
  unfold pick
  have := List.length_filter_le (fun y : Lt => decide (0 < y.n)) (L.map fun x => (⟨x.i, g x⟩ : Lt))
  simpa using this
theorem pick_qty (f : List UInt8 → Int) : ∀ {L : List Lt} (t : List UInt8), Srt L → (has L t = false → f t = 0) → (∀ t, 0 ≤ f t) → qty (pick (fun x => f (key x)) L) t = f t
  | [], t, _, h, _ => by
    show (0 : Int) = _
    rw [h (by rfl)]
  | x :: r, t, hs, h, h0 => by
    obtain ⟨h1, h2⟩ := srt_cons hs
    have e0 : pick (fun x => f (key x)) (x :: r) = (if 0 < f (key x) then [⟨x.i, f (key x)⟩] else []) ++ pick (fun x => f (key x)) r := by
      unfold pick
      rw [List.map_cons, List.filter_cons]
      by_cases hh : 0 < f (key x)
      · simp [hh]
      · simp [hh]
    have no : qty (pick (fun x => f (key x)) r) (key x) = 0 := qty_no fun y hy e => by
      obtain ⟨z, hz, e2, _⟩ := pick_mem hy
      have := h1 z hz
      rw [← e2, e] at this
      exact lt_ir _ this
    rw [e0]
    by_cases e : key x = t
    · subst e
      by_cases hh : 0 < f (key x)
      · rw [if_pos hh]
        show qty (_ :: _) _ = _
        unfold qty
        rw [if_pos (show key ⟨x.i, f (key x)⟩ = key x from rfl)]
      · rw [if_neg hh, List.nil_append, no]
        have := h0 (key x)
        omega
    · have hr : qty (pick (fun x => f (key x)) r) t = f t := pick_qty f t h2 (fun hh => h (by
        refine has_not fun j hj => ?_
        cases j with
        | zero => exact e
        | succ j => exact not_has hh _ (by simp))) h0
      by_cases hh : 0 < f (key x)
      · rw [if_pos hh]
        show qty (_ :: _) _ = _
        unfold qty
        rw [if_neg (show ¬ key ⟨x.i, f (key x)⟩ = t from e)]
        exact hr
      · rw [if_neg hh, List.nil_append, hr]
theorem qty_take {b : List Lt} (hs : Srt b) {k : Nat} (hk : k < b.length) (t : List UInt8) : qty (b.take (k + 1)) t = qty (b.take k) t + if t = key b[k] then b[k].n else 0 := by
  rw [List.take_succ_eq_append_getElem hk]
  have app : ∀ (L : List Lt), (∀ y ∈ L, key y ≠ key b[k]) → qty (L ++ [b[k]]) t = qty L t + if t = key b[k] then b[k].n else 0 := by
    intro L
    induction L with
    | nil =>
      intro _
      show qty [b[k]] t = 0 + _
      unfold qty
      by_cases e : t = key b[k]
      · rw [if_pos e, if_pos e.symm]; omega
      · rw [if_neg e, if_neg (fun h => e h.symm)]; rfl
    | cons y r ih =>
      intro h
      have := ih fun z hz => h z (by simp [hz])
      rw [List.cons_append]
      unfold qty
      rw [this]
      by_cases e : key y = t
      · rw [if_pos e, if_pos e, if_neg (fun e2 => h y (by simp) (e.trans e2))]
        omega
      · rw [if_neg e, if_neg e]
  refine app _ fun y hy e => ?_
  obtain ⟨j, hj, rfl⟩ := List.getElem_of_mem hy
  rw [List.length_take] at hj
  rw [List.getElem_take] at e
  have := List.pairwise_iff_getElem.1 hs j k (by omega) hk (by omega)
  rw [e] at this
  exact lt_ir _ this
theorem qty_take_at {b : List Lt} (hs : Srt b) {k : Nat} (hk : k < b.length) : qty (b.take k) (key b[k]) = 0 := qty_no fun y hy e => by
  obtain ⟨j, hj, rfl⟩ := List.getElem_of_mem hy
  rw [List.length_take] at hj
  rw [List.getElem_take] at e
  have := List.pairwise_iff_getElem.1 hs j k (by omega) hk (by omega)
  rw [e] at this
  exact lt_ir _ this
/-- less: does each have so many? -/
abbrev mnOk (a b : List Lt) : Prop := ∀ x ∈ b, x.n ≤ qty a (key x)
def mnE (a b : List Lt) : Nat := if mnOk a b then 0 else 20
def mnL (a b : List Lt) : List Lt := if mnOk a b then pick (fun x => qty a (key x) - qty b (key x)) a else []
def bth (a b : List Lt) : List Lt := pick (fun x => min x.n (qty b (key x))) a
theorem le_qty {a b : List Lt} (ga : Good a) (hb : Srt b) (h : mnOk a b) (t : List UInt8) : qty b t ≤ qty a t := by
  cases e : has b t with
  | false => rw [qty_no (not_has e)]; exact (qty_ok ga.ok t).1
  | true =>
    obtain ⟨x, hx, rfl, e2⟩ := qty_has e
    rw [e2]
    exact h x hx
theorem mn_qty {a b : List Lt} (ga : Good a) (gb : Good b) (h : mnOk a b) (t : List UInt8) : qty (mnL a b) t = qty a t - qty b t := by
  unfold mnL
  rw [if_pos h]
  refine pick_qty (fun t => qty a t - qty b t) t ga.srt (fun hh => ?_) fun t => by have := le_qty ga gb.srt h t; omega
  have h1 := le_qty ga gb.srt h t
  have h2 := qty_ok gb.ok t
  have h3 := (qty_ok ga.ok t).2.2.2 hh
  show qty a t - qty b t = 0
  omega
theorem mn_good {a b : List Lt} (ga : Good a) (gb : Good b) : Good (mnL a b) := by
  by_cases h : mnOk a b
  · have e : mnL a b = pick (fun x => qty a (key x) - qty b (key x)) a := by unfold mnL; rw [if_pos h]
    rw [e]
    refine ⟨pick_srt ga.srt, Nat.le_trans (pick_len _ _) ga.len, fun y hy => ?_⟩
    obtain ⟨x, hx, _, e2, e3⟩ := pick_mem hy
    have h1 := qty_ok ga.ok (key x)
    have h2 := qty_ok gb.ok (key x)
    unfold okq
    omega
  · unfold mnL
    rw [if_neg h]
    exact Good.nil
theorem mn_is {a b L : List Lt} (ga : Good a) (gb : Good b) (h : mnOk a b) (hs : Srt L) (hn : ∀ x ∈ L, x.n ≠ 0) (hq : ∀ t, qty L t = qty a t - qty b t) : L = mnL a b :=
  srt_ext hs (mn_good ga gb).srt hn (mn_good ga gb).ne fun t => (hq t).trans (mn_qty ga gb h t).symm
theorem bth_qty {a b : List Lt} (ga : Good a) (gb : Good b) (t : List UInt8) : qty (bth a b) t = min (qty a t) (qty b t) := by
  have e : bth a b = pick (fun x => (fun t => min (qty a t) (qty b t)) (key x)) a := by
    unfold bth pick
    congr 1
    refine List.map_congr_left fun x hx => ?_
    show (⟨x.i, min x.n (qty b (key x))⟩ : Lt) = ⟨x.i, min (qty a (key x)) (qty b (key x))⟩
    rw [qty_mem ga.srt x hx]
  rw [e]
  have h0 : ∀ t, 0 ≤ min (qty a t) (qty b t) := fun t => by have := (qty_ok ga.ok t).1; have := (qty_ok gb.ok t).1; omega
  exact pick_qty (fun t => min (qty a t) (qty b t)) t ga.srt (fun hh => by have := (qty_ok ga.ok t).2.2.2 hh; have := (qty_ok gb.ok t).1; show min _ _ = _; omega) h0
theorem bth_srt {a b : List Lt} (ga : Good a) : Srt (bth a b) ∧ ∀ x ∈ bth a b, x.n ≠ 0 := ⟨pick_srt ga.srt, fun y hy => by obtain ⟨_, _, _, _, h⟩ := pick_mem hy; omega⟩
/-- what follows (P17.5): added, and taken away -/
theorem back1 {a b : List Lt} (ga : Good a) (gb : Good b) (h : (mrg a b).2 = 0) : Good (mrg a b).1 ∧ mnOk (mrg a b).1 b ∧ mnL (mrg a b).1 b = a ∧ mnOk (mrg a b).1 a := by
  have gx := mrg_good ga h
  have hq := mrg_qty gb.srt h
  have h1 : mnOk (mrg a b).1 b := fun x hx => by rw [hq, qty_mem gb.srt x hx]; have := (qty_ok ga.ok (key x)).1; omega
  have h2 : mnOk (mrg a b).1 a := fun x hx => by rw [hq, qty_mem ga.srt x hx]; have := (qty_ok gb.ok (key x)).1; omega
  exact ⟨gx, h1, (mn_is gx gb h1 ga.srt ga.ne fun t => by rw [hq]; omega).symm, h2⟩
theorem srt_sub : ∀ {L M : List Lt}, Srt L → Srt M → (∀ x ∈ L, has M (key x) = true) → L.length ≤ M.length
  | [], M, _, _, _ => Nat.zero_le _
  | x :: r, [], _, _, h => by have := h x (by simp); simp [has] at this
  | x :: r, y :: s, h1, h2, h => by
    obtain ⟨a1, a2⟩ := srt_cons h1
    obtain ⟨b1, b2⟩ := srt_cons h2
    have : r.length ≤ s.length := srt_sub a2 b2 fun z hz => by
      obtain ⟨m, hm, e⟩ := has_mem (h z (by simp [hz]))
      rcases List.mem_cons.1 hm with rfl | hm
      · obtain ⟨m2, hm2, e2⟩ := has_mem (h x (by simp))
        have h3 := a1 z hz
        rw [← e, ← e2] at h3
        rcases List.mem_cons.1 hm2 with rfl | hm2
        · exact absurd h3 (lt_ir _)
        · exact absurd (lt_tr h3 (b1 m2 hm2)) (lt_ir _)
      · rw [← e]; exact has_of hm
    simp only [List.length_cons]
    omega
theorem mrg_in {a : List Lt} (ga : Good a) : ∀ {b L : List Lt}, Good L → (∀ x ∈ L, has a (key x) = true) → Srt b → (∀ x ∈ b, okq x.n) → (∀ t, qty L t + qty b t ≤ qty a t) → (mrg L b).2 = 0
  | [], L, _, _, _, _, _ => rfl
  | x :: r, L, gL, hin, hs, hk, hq => by
    have hx := hk x (by simp)
    have hqx := hq (key x)
    have e1 : qty (x :: r) (key x) = x.n := by unfold qty; rw [if_pos rfl]
    rw [e1] at hqx
    have hax := qty_ok ga.ok (key x)
    have hLx := qty_ok gL.ok (key x)
    have hha : has a (key x) = true := by
      cases e : has a (key x) with
      | true => rfl
      | false => have := hax.2.2.2 e; unfold okq at hx; omega
    have h0 : addE L x = 0 := by
      refine addE_iff hx (fun ⟨h1, h2⟩ => ?_) (by omega)
      have hh := hLx.2.2.1 h1
      have hm : Srt (setR x false L) := setR_srt gL.srt
      have hlen : (setR x false L).length = L.length + 1 := by
        rw [setR_ins gL.srt hh]
        have := pos_le L (key x)
        simp
        omega
      have := srt_sub hm ga.srt fun y hy => by
        rcases setR_mem hy with ⟨h3, _⟩ | ⟨rfl, _⟩
        · exact hin y h3
        · exact hha
      have := ga.len
      omega
    unfold mrg
    rw [if_pos h0]
    refine mrg_in ga (gL.add h0) (fun y hy => ?_) (srt_cons hs).2 (fun y hy => hk y (by simp [hy])) fun t => ?_
    · rcases setR_mem hy with ⟨h3, _⟩ | ⟨rfl, _⟩
      · exact hin y h3
      · exact hha
    · rw [qty_add]
      have h1 := hq t
      rw [show qty (x :: r) t = if key x = t then x.n else qty r t from rfl] at h1
      by_cases e : t = key x
      · rw [if_pos e.symm] at h1
        rw [if_pos e, e, qty_gone hs]
        rw [e] at h1
        omega
      · rw [if_neg (fun h => e h.symm)] at h1
        rw [if_neg e]
        exact h1
theorem back2 {a b : List Lt} (ga : Good a) (gb : Good b) (h : mnOk a b) : mrg (mnL a b) b = (a, 0) ∧ bth a b = b := by
  have gp := mn_good ga gb
  have hq := mn_qty ga gb h
  have h0 : (mrg (mnL a b) b).2 = 0 := by
    refine mrg_in ga gp (fun x hx => ?_) gb.srt gb.ok fun t => by rw [hq]; omega
    have e : mnL a b = pick (fun x => qty a (key x) - qty b (key x)) a := by unfold mnL; rw [if_pos h]
    rw [e] at hx
    obtain ⟨z, hz, e2, _⟩ := pick_mem hx
    rw [e2]
    exact has_of hz
  have h1 : (mrg (mnL a b) b).1 = a := srt_ext (mrg_good gp h0).srt ga.srt (mrg_good gp h0).ne ga.ne fun t => by rw [mrg_qty gb.srt h0, hq]; omega
  refine ⟨Prod.ext h1 h0, srt_ext (bth_srt ga).1 gb.srt (bth_srt ga).2 gb.ne fun t => ?_⟩
  rw [bth_qty ga gb]
  have := le_qty ga gb.srt h t
  omega
end Go.Proofs.Ytheikjjehidagaa
