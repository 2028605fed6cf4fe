/- layer 14, numbers: baskets, why one doesn't take a security, which is within which, and a list of them, version by version -/
import Derived.Test.YtheikjjehidagaaRows
import Derived.WalkKit
namespace Go.Proofs.Ytheikjjehidagaa.H5.N14
open Go.RowKit
set_option linter.unusedVariables false
set_option linter.unusedSimpArgs false
structure Ct where
  d : Int
  r : Int
  c : Int
structure Bk where
  id : Int
  ver : Int
  cur : List UInt8
  rat : Int
  least : Int
  most : Int
  cuts : List Ct
  iss : Int
  ass : Int
  bar : List Int
structure As where
  i : ByteArray
  iss : Int
  rat : Int
  mat : Int
  c : ByteArray
def inn (n a b : Int) : Bool := decide (a ≤ n) && decide (n ≤ b)
def amt (n : Int) : Bool := inn n 1 1125899906842624
def cutB (c : Ct) : Bool := inn c.d 0 200000 && (inn c.r 0 20 && inn c.c 0 999999)
def baGo (p : Option Int) (n : Int) : Bool := match p with
  | none => true
  | some m => decide (m < n)
/-- above the one ahead, from p on (none: the first one) -/
def barB : Option Int → List Int → Bool
  | _, [] => true
  | p, n :: l => inn n 0 9999 && (baGo p n && barB (some n) l)
def leftN (mat day : Int) : Int := if day < 0 ∨ 200000 < day then -1 else mat - day
def whyN (c : Bool) (ar br left least most : Int) (z : Bool) : Int :=
  if c = false then 1 else if br < ar then 2 else if left < 1 ∨ left < least then 3 else if most < left then 4 else if z = true then 5 else 0
def why (b : Bk) (a : As) (day : Int) : Int := whyN (a.c.toList == b.cur) a.rat b.rat (leftN a.mat day) b.least b.most (b.bar.contains a.iss)
def wi (a b : Bk) : Bool := (a.cur == b.cur) && (decide (a.rat ≤ b.rat) && (decide (max b.least 1 ≤ max a.least 1) && (decide (a.most ≤ b.most) && b.bar.all (fun n => a.bar.contains n))))
theorem whyN_zero {c z : Bool} {ar br left least most : Int} : whyN c ar br left least most z = 0 ↔ c = true ∧ ar ≤ br ∧ 1 ≤ left ∧ least ≤ left ∧ left ≤ most ∧ z = false := by
  unfold whyN
  cases c <;> cases z <;> simp <;> (repeat' split) <;> simp <;> omega
theorem wi_self (a : Bk) : wi a a = true := by
  unfold wi
  simp
theorem wi_why {a b : Bk} {x : As} {day : Int} (h : wi a b = true) (h1 : why a x day = 0) : why b x day = 0 := by
  unfold wi at h
  simp only [Bool.and_eq_true, decide_eq_true_eq, beq_iff_eq, List.all_eq_true] at h
  obtain ⟨h2, h3, h4, h5, h6⟩ := h
  unfold why at h1 ⊢
  rw [whyN_zero] at h1 ⊢
  obtain ⟨k1, k2, k3, k4, k5, k6⟩ := h1
  refine ⟨by rw [← h2]; exact k1, by omega, k3, by omega, by omega, ?_⟩
  cases h7 : b.bar.contains x.iss with
  | false => rfl
  | true =>
    have := h6 x.iss (by simpa using h7)
    rw [k6] at this
    cases this
def of (r : List Bk) (id : Int) : List Bk := r.filter (fun b => decide (b.id = id))
def frn (r : List Bk) (b : Bk) : Bool := match of r b.id with
  | [] => false
  | c :: _ => !(b.cur == c.cur)
def setE (r : List Bk) (b : Bk) (E : Nat) : Nat :=
  if E ≠ 0 then E else if b.ver ≠ ((of r b.id).length : Int) + 1 then 8 else if frn r b = true then 1 else if 64 ≤ (of r b.id).length then 18 else 0
def ins (r : List Bk) (b : Bk) : List Bk := r.filter (fun c => decide (c.id ≤ b.id)) ++ b :: r.filter (fun c => decide (b.id < c.id))
def setL (r : List Bk) (b : Bk) (E : Nat) : List Bk := if setE r b E = 0 then ins r b else r
def Srt (r : List Bk) : Prop := r.Pairwise (fun a b => a.id ≤ b.id)
theorem of_ins (r : List Bk) (b : Bk) (id : Int) : of (ins r b) id = if b.id = id then of r id ++ [b] else of r id := by
  unfold ins of
  rw [List.filter_append, List.filter_cons, List.filter_filter, List.filter_filter]
  by_cases h : b.id = id
  · rw [if_pos (by simpa using h), if_pos h]
    congr 1
    · apply List.filter_congr
      intro c _
      by_cases h1 : c.id = id
      · simp [h1, h]
      · simp [h1]
    · rw [show (r.filter fun a => decide (a.id = id) && decide (b.id < a.id)) = [] from List.filter_eq_nil_iff.2 (fun c _ => by simp; omega)]
  · rw [if_neg (by simpa using h), if_neg h]
    induction r with
    | nil => rfl
    | cons c r ih =>
      simp only [List.filter_cons]
      by_cases h1 : c.id = id
      · by_cases h2 : c.id ≤ b.id
        · have h3 : ¬ b.id < c.id := by omega
          simp only [h1] at *
          simp [h2, h3, ih]
        · have h3 : b.id < c.id := by omega
          have h4 : (r.filter fun a => decide (a.id = id) && decide (a.id ≤ b.id)) = [] := List.filter_eq_nil_iff.2 (fun c _ => by simp; omega)
          rw [h4] at ih ⊢
          simp only [h1] at *
          simp [h2, h3]
          simpa using ih
      · simp [h1, ih]
theorem ins_mem {r : List Bk} {b c : Bk} : c ∈ ins r b ↔ c = b ∨ c ∈ r := by
  unfold ins
  simp only [List.mem_append, List.mem_cons, List.mem_filter, decide_eq_true_eq]
  constructor
  · rintro (⟨h, _⟩ | h | ⟨h, _⟩)
    · exact .inr h
    · exact .inl h
    · exact .inr h
  · rintro (h | h)
    · exact .inr (.inl h)
    · by_cases h1 : c.id ≤ b.id
      · exact .inl ⟨h, h1⟩
      · exact .inr (.inr ⟨h, by omega⟩)
theorem ins_len (r : List Bk) (b : Bk) : (ins r b).length = r.length + 1 := by
  unfold ins
  simp only [List.length_append, List.length_cons]
  have : (r.filter fun c => decide (c.id ≤ b.id)).length + (r.filter fun c => decide (b.id < c.id)).length = r.length := by
    induction r with
    | nil => rfl
    | cons c r ih =>
      simp only [List.filter_cons]
      by_cases h : c.id ≤ b.id
      · have h2 : ¬ b.id < c.id := by omega
        simp [h, h2]; omega
      · have h2 : b.id < c.id := by omega
        simp [h, h2]; omega
  omega
theorem ins_srt {r : List Bk} (h : Srt r) (b : Bk) : Srt (ins r b) := by
  unfold Srt ins at *
  rw [List.pairwise_append]
  refine ⟨h.filter _, List.pairwise_cons.2 ⟨fun c hc => ?_, h.filter _⟩, fun x hx y hy => ?_⟩
  · have := (List.mem_filter.1 hc).2; simp at this; omega
  · have h1 := (List.mem_filter.1 hx).2
    simp at h1
    rcases List.mem_cons.1 hy with rfl | hy
    · exact h1
    · have h2 := (List.mem_filter.1 hy).2; simp at h2; omega
theorem setL_srt {r : List Bk} (h : Srt r) (b : Bk) (E : Nat) : Srt (setL r b E) := by
  unfold setL
  split
  · exact ins_srt h b
  · exact h
theorem setL_len (r : List Bk) (b : Bk) (E : Nat) : (setL r b E).length ≤ r.length + 1 := by
  unfold setL
  split
  · rw [ins_len]; omega
  · omega
/-- how many lie ahead of the place of b -/
def pos (r : List Bk) (b : Bk) : Nat := (r.filter (fun c => decide (c.id ≤ b.id))).length
theorem pos_le (r : List Bk) (b : Bk) : pos r b ≤ r.length := List.length_filter_le _ _
theorem take_pos : ∀ {r : List Bk}, Srt r → ∀ b : Bk, r.take (pos r b) = r.filter (fun c => decide (c.id ≤ b.id)) ∧ r.drop (pos r b) = r.filter (fun c => decide (b.id < c.id))
  | [], _, b => by simp [pos]
  | c :: r, h, b => by
    have hp := List.pairwise_cons.1 h
    obtain ⟨i1, i2⟩ := take_pos hp.2 b
    unfold pos at *
    simp only [List.filter_cons]
    by_cases h1 : c.id ≤ b.id
    · have h2 : ¬ b.id < c.id := by omega
      simp only [h1, h2, decide_true, decide_false, if_true, List.length_cons, List.take_succ_cons, List.drop_succ_cons]
      exact ⟨by rw [i1], by simpa using i2⟩
    · have h2 : b.id < c.id := by omega
      have h3 : (r.filter fun c => decide (c.id ≤ b.id)) = [] := List.filter_eq_nil_iff.2 (fun x hx => by have := hp.1 x hx; simp; omega)
      have h4 : (r.filter fun c => decide (b.id < c.id)) = r := List.filter_eq_self.2 (fun x hx => by have := hp.1 x hx; simp; omega)
      simp [h1, h2, h3, h4]
theorem pos_iff {r : List Bk} (h : Srt r) (b : Bk) (k : Nat) (hk : k < r.length) : b.id < r[k].id ↔ pos r b ≤ k := by
  obtain ⟨h1, h2⟩ := take_pos h b
  constructor
  · intro h3
    rcases Nat.lt_or_ge k (pos r b) with h4 | h4
    · have h5 : r[k] ∈ r.take (pos r b) := List.mem_take_iff_getElem.2 ⟨k, by omega, rfl⟩
      rw [h1] at h5
      have := (List.mem_filter.1 h5).2
      simp at this
      omega
    · exact h4
  · intro h3
    have h5 : r[k] ∈ r.drop (pos r b) := List.mem_drop_iff_getElem.2 ⟨k - pos r b, by omega, by simp [show pos r b + (k - pos r b) = k by omega]⟩
    rw [h2] at h5
    have := (List.mem_filter.1 h5).2
    simpa using this
/-- what stands behind k rounds -/
def outs (r : List Bk) (b : Bk) (k : Nat) : List Bk := if k ≤ pos r b then r.take k else r.take (pos r b) ++ b :: (r.take k).drop (pos r b)
theorem outs_zero (r : List Bk) (b : Bk) : outs r b 0 = [] := by simp [outs]
theorem outs_else {r : List Bk} {b : Bk} {k : Nat} (hk : k < r.length) (h : k ≠ pos r b) : outs r b k ++ [r[k]] = outs r b (k + 1) := by
  unfold outs
  by_cases h1 : k ≤ pos r b
  · rw [if_pos h1, if_pos (by omega), List.take_append_getElem hk]
  · rw [if_neg h1, if_neg (by omega), ← List.take_append_getElem hk, List.drop_append_of_le_length (by rw [List.length_take]; omega)]
    simp
theorem outs_here {r : List Bk} {b : Bk} {k : Nat} (hk : k < r.length) (h : k = pos r b) : outs r b k ++ [b] ++ [r[k]] = outs r b (k + 1) := by
  unfold outs
  rw [if_pos (by omega), if_neg (by omega), ← h, ← List.take_append_getElem hk, List.drop_append_of_le_length (by rw [List.length_take]; omega)]
  simp
theorem outs_end {r : List Bk} (hs : Srt r) (b : Bk) : (if pos r b < r.length then outs r b r.length else outs r b r.length ++ [b]) = ins r b := by
  obtain ⟨h1, h2⟩ := take_pos hs b
  have h3 := pos_le r b
  unfold outs ins
  rw [← h1, ← h2]
  split
  · rw [if_neg (by omega), List.take_length]
  · have h4 : pos r b = r.length := by omega
    rw [if_pos (by omega), h4]
    simp
theorem outs_len (r : List Bk) (b : Bk) (k : Nat) : (outs r b k).length ≤ r.length + 1 := by
  unfold outs
  split
  · rw [List.length_take]; omega
  · simp only [List.length_append, List.length_cons, List.length_take, List.length_drop]; omega
/-- the IDs of the first k -/
def idsN (r : List Bk) : Nat → List Int
  | 0 => []
  | k + 1 => match r[k]? with
    | none => idsN r k
    | some b => if k = 0 ∨ (r[k - 1]?.map (·.id)) ≠ some b.id then idsN r k ++ [b.id] else idsN r k
def ids (r : List Bk) : List Int := idsN r r.length
theorem idsN_at {r : List Bk} {k : Nat} (hk : k < r.length) : idsN r (k + 1) = if k = 0 ∨ (r[k - 1]?.map (·.id)) ≠ some r[k].id then idsN r k ++ [r[k].id] else idsN r k := by
  rw [idsN, List.getElem?_eq_getElem hk]
theorem idsN_all {r : List Bk} (h : Srt r) : ∀ k, k ≤ r.length → (idsN r k).Pairwise (· < ·) ∧ ∀ n, n ∈ idsN r k ↔ ∃ j, ∃ hj : j < r.length, j < k ∧ r[j].id = n
  | 0, _ => ⟨List.Pairwise.nil, fun n => by simp [idsN]⟩
  | k + 1, hk => by
    obtain ⟨h1, h2⟩ := idsN_all h k (by omega)
    rw [idsN_at (by omega)]
    have hsr : ∀ i j (hi : i < r.length) (hj : j < r.length), i < j → r[i].id ≤ r[j].id := fun i j hi hj hij => List.pairwise_iff_getElem.1 h i j hi hj hij
    by_cases h0 : k = 0 ∨ (r[k - 1]?.map (·.id)) ≠ some r[k].id
    · rw [if_pos h0]
      constructor
      · rw [List.pairwise_append]
        refine ⟨h1, List.pairwise_singleton _ _, fun x hx y hy => ?_⟩
        simp at hy
        subst hy
        obtain ⟨j, hj, hjk, rfl⟩ := (h2 x).1 hx
        rcases h0 with h0 | h0
        · omega
        · rw [List.getElem?_eq_getElem (by omega)] at h0
          simp at h0
          have h3 := hsr (k - 1) k (by omega) (by omega) (by omega)
          rcases Nat.lt_or_ge j (k - 1) with h4 | h4
          · have h5 := hsr j (k - 1) hj (by omega) h4
            omega
          · have h5 : j = k - 1 := by omega
            subst h5
            omega
      · intro n
        rw [List.mem_append, h2 n]
        constructor
        · rintro (⟨j, hj, hjk, e⟩ | e)
          · exact ⟨j, hj, by omega, e⟩
          · simp at e; exact ⟨k, by omega, by omega, e.symm⟩
        · rintro ⟨j, hj, hjk, e⟩
          by_cases h3 : j = k
          · subst h3; exact .inr (by simp [e])
          · exact .inl ⟨j, hj, by omega, e⟩
    · rw [if_neg h0]
      refine ⟨h1, fun n => ?_⟩
      rw [h2 n]
      constructor
      · rintro ⟨j, hj, hjk, e⟩
        exact ⟨j, hj, by omega, e⟩
      · rintro ⟨j, hj, hjk, e⟩
        by_cases h3 : j = k
        · subst h3
          have h4 : j ≠ 0 := fun e => h0 (.inl e)
          have h5 : r[j - 1]?.map (·.id) = some r[j].id := Decidable.of_not_not (fun e => h0 (.inr e))
          rw [List.getElem?_eq_getElem (by omega)] at h5
          simp at h5
          exact ⟨j - 1, by omega, by omega, by rw [h5]; exact e⟩
        · exact ⟨j, hj, by omega, e⟩
theorem ids_mem {r : List Bk} (h : Srt r) (n : Int) : n ∈ ids r ↔ ∃ b ∈ r, b.id = n := by
  rw [ids, (idsN_all h r.length (Nat.le_refl _)).2 n]
  constructor
  · rintro ⟨j, hj, _, e⟩; exact ⟨_, List.getElem_mem hj, e⟩
  · rintro ⟨b, hb, e⟩
    obtain ⟨j, hj, rfl⟩ := List.getElem_of_mem hb
    exact ⟨j, hj, hj, e⟩
theorem ids_up {r : List Bk} (h : Srt r) : (ids r).Pairwise (· < ·) := (idsN_all h r.length (Nat.le_refl _)).1
theorem idsN_len (r : List Bk) : ∀ k, (idsN r k).length ≤ k
  | 0 => Nat.le_refl _
  | k + 1 => by
    have := idsN_len r k
    rw [idsN]
    split
    · omega
    · split
      · simp; omega
      · omega
theorem ids_len (r : List Bk) : (ids r).length ≤ r.length := idsN_len r _
theorem up_ext : ∀ {a b : List Int}, a.Pairwise (· < ·) → b.Pairwise (· < ·) → (∀ n, n ∈ a ↔ n ∈ b) → a = b
  | [], [], _, _, _ => rfl
  | [], y :: b, _, _, h => absurd ((h y).2 (by simp)) (by simp)
  | x :: a, [], _, _, h => absurd ((h x).1 (by simp)) (by simp)
  | x :: a, y :: b, ha, hb, h => by
    have pa := List.pairwise_cons.1 ha
    have pb := List.pairwise_cons.1 hb
    have e : x = y := by
      have h1 := (h x).1 (by simp)
      have h2 := (h y).2 (by simp)
      rcases List.mem_cons.1 h1 with e | h1
      · exact e
      · rcases List.mem_cons.1 h2 with e | h2
        · exact e.symm
        · have := pb.1 x h1; have := pa.1 y h2; omega
    subst e
    rw [up_ext pa.2 pb.2 (fun n => ?_)]
    constructor
    · intro h1
      rcases List.mem_cons.1 ((h n).1 (List.mem_cons_of_mem _ h1)) with e | h2
      · have := pa.1 n h1; omega
      · exact h2
    · intro h1
      rcases List.mem_cons.1 ((h n).2 (List.mem_cons_of_mem _ h1)) with e | h2
      · have := pb.1 n h1; omega
      · exact h2
theorem up_of_sorted {a : List Int} (h : a.Pairwise (· ≤ ·)) (hn : a.Nodup) : a.Pairwise (· < ·) := by
  refine (h.and hn).imp ?_
  rintro x y ⟨h1, h2⟩
  exact Int.lt_iff_le_and_ne.2 ⟨h1, h2⟩
/-- what is sorted out of a list with the same members, each once -/
theorem sorted_ext {a b s : List Int} (ha : a.Nodup) (hm : ∀ n, n ∈ a ↔ n ∈ b) (hb : b.Pairwise (· < ·)) (hp : s.Perm a) (hs : s.Pairwise (· ≤ ·)) : s = b :=
  up_ext (up_of_sorted hs (hp.nodup_iff.2 ha)) hb (fun n => (hp.mem_iff).trans (hm n))
theorem split_id : ∀ {r : List Bk} {n : Int}, Srt r → (∀ b ∈ r, n ≤ b.id) → r = of r n ++ r.filter (fun b => !decide (b.id = n))
  | [], n, _, _ => rfl
  | b :: r, n, h, hn => by
    have hp := List.pairwise_cons.1 h
    have ih := split_id (n := n) hp.2 (fun c hc => hn c (by simp [hc]))
    unfold of at *
    simp only [List.filter_cons]
    by_cases h1 : b.id = n
    · simp only [h1, decide_true, if_true, Bool.not_true, Bool.false_eq_true, if_false, List.cons_append]
      rw [← ih]
    · have h2 : n < b.id := by have := hn b (by simp); omega
      have h3 : (r.filter fun b => decide (b.id = n)) = [] := List.filter_eq_nil_iff.2 (fun x hx => by have := hp.1 x hx; simp; omega)
      have h4 : (r.filter fun b => !decide (b.id = n)) = r := List.filter_eq_self.2 (fun x hx => by have := hp.1 x hx; simp; omega)
      simp [h1, h3, h4]
theorem all_of : ∀ {S : List Int} {r : List Bk}, S.Pairwise (· < ·) → Srt r → (∀ b ∈ r, b.id ∈ S) → S.flatMap (of r) = r
  | [], r, _, _, h => by
    cases r with
    | nil => rfl
    | cons b r => exact absurd (h b (by simp)) (by simp)
  | n :: S, r, hS, hr, h => by
    have hp := List.pairwise_cons.1 hS
    have h1 : ∀ b ∈ r, n ≤ b.id := fun b hb => by
      rcases List.mem_cons.1 (h b hb) with e | e
      · omega
      · have := hp.1 _ e; omega
    rw [List.flatMap_cons]
    conv => rhs; rw [split_id hr h1]
    congr 1
    have h2 : ∀ b ∈ r.filter (fun b => !decide (b.id = n)), b.id ∈ S := fun b hb => by
      obtain ⟨hb, hbn⟩ := List.mem_filter.1 hb
      simp at hbn
      rcases List.mem_cons.1 (h b hb) with e | e
      · exact absurd e hbn
      · exact e
    rw [← all_of hp.2 (List.Pairwise.filter _ hr) h2]
    have h3 : ∀ m ∈ S, of r m = of (r.filter fun b => !decide (b.id = n)) m := fun m hm => by
      have := hp.1 m hm
      unfold of
      rw [List.filter_filter]
      apply List.filter_congr
      intro c _
      by_cases h4 : c.id = m
      · simp [h4]; omega
      · simp [h4]
    unfold List.flatMap
    rw [List.map_congr_left h3]
theorem all_ids {r : List Bk} (h : Srt r) : (ids r).flatMap (of r) = r := all_of (ids_up h) h (fun b hb => (ids_mem h b.id).2 ⟨b, hb, rfl⟩)
def Bk.z : Bk := ⟨0, 0, [], 0, 0, 0, [], 0, 0, []⟩
/-- a version of a basket, and whether it is there -/
def atL (r : List Bk) (id ver : Int) : Option Bk := if ver < 1 ∨ ((of r id).length : Int) < ver then none else (of r id)[(ver - 1).toNat]?
def tkB (r : List Bk) (a : As) (day : Int) (id : Int) : Bool := match (of r id).getLast? with
  | none => false
  | some b => decide (why b a day = 0)
def takes (r : List Bk) (a : As) (day : Int) : List Int := (ids r).filter (tkB r a day)
theorem of_mem {r : List Bk} {id : Int} {b : Bk} (h : b ∈ of r id) : b ∈ r ∧ b.id = id := by
  have := List.mem_filter.1 h
  exact ⟨this.1, by simpa using this.2⟩
theorem of_pos {r : List Bk} {b : Bk} (h : b ∈ r) : 0 < (of r b.id).length := List.length_pos_of_mem (List.mem_filter.2 ⟨h, by simp⟩)
theorem of_len (r : List Bk) (id : Int) : (of r id).length ≤ r.length := List.length_filter_le _ _
end Go.Proofs.Ytheikjjehidagaa.H5.N14
