/- layer 9, numbers: a number in groups of seven bits -/
import Derived.Test.YtdmlgheajblcdaaGreatRows
import Derived.WalkKit
namespace Go.Proofs.YtdmlgheajblcdaaGreat
open Go.RowKit
set_option linter.unusedVariables false
set_option linter.unusedSimpArgs false
/-- the groups ahead of the last one, at most k of them -/
def hiL : Nat → Nat → List UInt8
  | 0, _ => []
  | k + 1, n => if n = 0 then [] else hiL k (n / 128) ++ [UInt8.ofNat (128 + n % 128)]
/-- a number as it is written -/
def uintL (n : Nat) : List UInt8 := hiL 10 (n / 128) ++ [UInt8.ofNat (n % 128)]
/-- what groups say -/
def gv : Nat → List UInt8 → Nat
  | n, [] => n
  | n, c :: l => gv (n * 128 + c.toNat % 128) l
/-- what a reader answers: the fault, the number, how many bytes -/
def rdF : List UInt8 → Nat → Nat → Nat × Nat × Nat
  | [], _, _ => (14, 0, 0)
  | c :: l, n, k => if 144115188075855872 ≤ n then (15, 0, 0) else if c.toNat < 128 then (0, n * 128 + c.toNat, k + 1) else rdF l (n * 128 + c.toNat % 128) (k + 1)
def rdU (s : List UInt8) : Nat × Nat × Nat := if s.head? = some 128 then (15, 0, 0) else rdF s 0 0
theorem gv_app (l m : List UInt8) : ∀ n, gv n (l ++ m) = gv (gv n l) m := by
  induction l with
  | nil => intro n; rfl
  | cons c l ih => intro n; exact ih _
theorem gv_val (l : List UInt8) : ∀ n, gv n l = n * 128 ^ l.length + gv 0 l := by
  induction l with
  | nil => intro n; simp [gv]
  | cons c l ih =>
    intro n
    show gv (n * 128 + c.toNat % 128) l = _ + gv (0 * 128 + c.toNat % 128) l
    rw [ih (n * 128 + c.toNat % 128), ih (0 * 128 + c.toNat % 128), List.length_cons, Nat.pow_succ, Nat.add_mul, Nat.mul_assoc, Nat.mul_comm 128, Nat.zero_mul, Nat.zero_add]
    omega
theorem gv_lt (l : List UInt8) : gv 0 l < 128 ^ l.length := by
  induction l with
  | nil => simp [gv]
  | cons c l ih =>
    show gv (0 * 128 + c.toNat % 128) l < _
    rw [gv_val, List.length_cons, Nat.pow_succ, Nat.zero_mul, Nat.zero_add]
    have h1 : c.toNat % 128 < 128 := Nat.mod_lt _ (by omega)
    have h2 : (c.toNat % 128) * 128 ^ l.length ≤ 127 * 128 ^ l.length := Nat.mul_le_mul_right _ (by omega)
    omega
theorem gv_mono {n m : Nat} (h : n ≤ m) (l : List UInt8) : gv n l ≤ gv m l := by
  rw [gv_val l n, gv_val l m]
  have := Nat.mul_le_mul_right (128 ^ l.length) h
  omega
theorem gv_le (l : List UInt8) (n : Nat) : n ≤ gv n l := by
  rw [gv_val]
  have h : 1 ≤ 128 ^ l.length := Nat.one_le_pow _ _ (by omega)
  have := Nat.mul_le_mul_left n h
  omega
/-- all of them groups ahead of the last one -/
def High (l : List UInt8) : Prop := ∀ c ∈ l, 128 ≤ c.toNat
theorem High.tail {c : UInt8} {l : List UInt8} (h : High (c :: l)) : High l := fun x hx => h x (List.mem_cons_of_mem _ hx)
/-- over groups that are ahead -/
theorem rdF_high (p : List UInt8) : ∀ (q : List UInt8) (n k : Nat), High p → (∀ a b, p = a ++ b → b ≠ [] → gv n a < 144115188075855872) → rdF (p ++ q) n k = rdF q (gv n p) (k + p.length) := by
  induction p with
  | nil => intro q n k _ _; rfl
  | cons c p ih =>
    intro q n k h hs
    have h0 : ¬ 144115188075855872 ≤ n := by have := hs [] (c :: p) rfl (by simp); simp only [gv] at this; omega
    have h1 : ¬ c.toNat < 128 := by have := h c (List.mem_cons_self ..); omega
    show (if _ then _ else if _ then _ else rdF (p ++ q) _ _) = _
    rw [if_neg h0, if_neg h1, ih q _ _ h.tail (fun a b e hb => hs (c :: a) b (by rw [e]; rfl) hb), List.length_cons, Nat.add_assoc, Nat.add_comm 1]
    rfl
theorem hiL_zero (k : Nat) : hiL k 0 = [] := by cases k <;> simp [hiL]
theorem hiL_at {k n : Nat} (h : n ≠ 0) : hiL (k + 1) n = hiL k (n / 128) ++ [UInt8.ofNat (128 + n % 128)] := by simp [hiL, h]
theorem hi_toNat (n : Nat) : (UInt8.ofNat (128 + n % 128)).toNat = 128 + n % 128 := by
  rw [UInt8.toNat_ofNat']
  have : n % 128 < 128 := Nat.mod_lt _ (by omega)
  omega
theorem lo_toNat (n : Nat) : (UInt8.ofNat (n % 128)).toNat = n % 128 := by
  rw [UInt8.toNat_ofNat']
  have : n % 128 < 128 := Nat.mod_lt _ (by omega)
  omega
theorem hiL_high (k : Nat) : ∀ n, High (hiL k n) := by
  induction k with
  | zero => intro n c h; simp [hiL] at h
  | succ k ih =>
    intro n c h
    by_cases hn : n = 0
    · rw [hn, hiL_zero] at h; simp at h
    · rw [hiL_at hn] at h
      rcases List.mem_append.mp h with h | h
      · exact ih _ c h
      · rw [List.mem_singleton.mp h, hi_toNat]; omega
theorem hiL_gv (k : Nat) : ∀ n, n < 128 ^ k → gv 0 (hiL k n) = n := by
  induction k with
  | zero => intro n h; have : n = 0 := by simp at h; exact h
            rw [this]; rfl
  | succ k ih =>
    intro n h
    by_cases hn : n = 0
    · rw [hn, hiL_zero]; rfl
    · rw [hiL_at hn, gv_app, ih (n / 128) (by rw [Nat.pow_succ] at h; exact Nat.div_lt_of_lt_mul (by omega))]
      show n / 128 * 128 + (UInt8.ofNat (128 + n % 128)).toNat % 128 = n
      rw [hi_toNat]; omega
/-- the beginnings of the groups say less -/
theorem hiL_pre (k : Nat) : ∀ n a b, n < 128 ^ k → hiL k n = a ++ b → b ≠ [] → gv 0 a ≤ n / 128 := by
  induction k with
  | zero => intro n a b _ e hb; simp [hiL] at e; exact absurd e.2 hb
  | succ k ih =>
    intro n a b h e hb
    by_cases hn : n = 0
    · rw [hn, hiL_zero] at e; simp at e; exact absurd e.2 hb
    · have hk : n / 128 < 128 ^ k := by rw [Nat.pow_succ] at h; exact Nat.div_lt_of_lt_mul (by omega)
      rw [hiL_at hn] at e
      rcases List.append_eq_append_iff.mp e with ⟨x, e1, e2⟩ | ⟨x, e1, e2⟩
      · cases x with
        | nil => simp at e1; rw [e1, hiL_gv k _ hk]; omega
        | cons y x => 
          have : x ++ b = [] := by simpa using (List.cons.inj e2).2.symm
          exact absurd (List.append_eq_nil_iff.mp this).2 hb
      · cases x with
        | nil => simp at e1; rw [← e1, hiL_gv k _ hk]; omega
        | cons y x => have := ih (n / 128) a (y :: x) hk e1 (by simp); omega
theorem hiL_head (k : Nat) : ∀ n c l, n < 128 ^ k → hiL k n = c :: l → c ≠ 128 := by
  induction k with
  | zero => intro n c l _ e; simp [hiL] at e
  | succ k ih =>
    intro n c l h e
    by_cases hn : n = 0
    · rw [hn, hiL_zero] at e; simp at e
    · have hk : n / 128 < 128 ^ k := by rw [Nat.pow_succ] at h; exact Nat.div_lt_of_lt_mul (by omega)
      rw [hiL_at hn] at e
      cases hh : hiL k (n / 128) with
      | nil =>
        rw [hh] at e
        have e1 : UInt8.ofNat (128 + n % 128) = c := (List.cons.inj e).1
        have h0 : n / 128 = 0 := by have := hiL_gv k _ hk; rw [hh] at this; exact this.symm
        intro hc
        have : (UInt8.ofNat (128 + n % 128)).toNat = 128 := by rw [e1, hc]; rfl
        rw [hi_toNat] at this
        omega
      | cons y x =>
        rw [hh] at e
        rw [← (List.cons.inj e).1]
        exact ih _ y x hk hh
theorem uint_head (n : Nat) (h : n < 18446744073709551616) (r : List UInt8) : (uintL n ++ r).head? ≠ some 128 := by
  unfold uintL
  cases hh : hiL 10 (n / 128) with
  | nil =>
    intro e
    have e1 : UInt8.ofNat (n % 128) = 128 := by simpa using e
    have := congrArg UInt8.toNat e1
    rw [lo_toNat] at this
    have h2 : (128 : UInt8).toNat = 128 := rfl
    omega
  | cons c l =>
    intro e
    have e1 : c = 128 := by simpa using e
    exact hiL_head 10 (n / 128) c l (by omega) hh e1
/-- what is written is read, whatever stands behind it -/
theorem rdU_uint (n : Nat) (h : n < 18446744073709551616) (r : List UInt8) : rdU (uintL n ++ r) = (0, n, (uintL n).length) := by
  unfold rdU
  rw [if_neg (uint_head n h r)]
  unfold uintL
  rw [List.append_assoc, rdF_high _ _ 0 0 (hiL_high _ _) (fun a b e hb => by have := hiL_pre 10 (n / 128) a b (by omega) e hb; omega), hiL_gv 10 _ (by omega)]
  show (if _ then _ else _) = _
  rw [if_neg (by omega), if_pos (by rw [lo_toNat]; omega), lo_toNat, List.length_append]
  simp only [List.length_singleton, Nat.zero_add, Prod.mk.injEq, true_and, and_true]
  omega
/-- what is read was so written: its groups -/
theorem rdF_ok (s : List UInt8) : ∀ (n k m j : Nat), rdF s n k = (0, m, j) → ∃ p c q, s = p ++ c :: q ∧ High p ∧ c.toNat < 128 ∧ gv n p < 144115188075855872 ∧ m = gv n p * 128 + c.toNat ∧ j = k + p.length + 1 := by
  induction s with
  | nil => intro n k m j h; simp [rdF] at h
  | cons c l ih =>
    intro n k m j h
    change (if 144115188075855872 ≤ n then (15, 0, 0) else if c.toNat < 128 then (0, n * 128 + c.toNat, k + 1) else rdF l (n * 128 + c.toNat % 128) (k + 1)) = (0, m, j) at h
    by_cases h0 : 144115188075855872 ≤ n
    · rw [if_pos h0] at h; simp at h
    rw [if_neg h0] at h
    by_cases h1 : c.toNat < 128
    · rw [if_pos h1] at h
      have e := congrArg Prod.snd h
      simp only [Prod.mk.injEq] at e
      exact ⟨[], c, l, rfl, (fun _ h => by simp at h), h1, by simp only [gv]; omega, e.1.symm, e.2.symm⟩
    · rw [if_neg h1] at h
      obtain ⟨p, d, q, e, hp, hd, hg, hm, hj⟩ := ih _ _ _ _ h
      refine ⟨c :: p, d, q, by rw [e]; rfl, ?_, hd, hg, hm, by rw [hj, List.length_cons]; omega⟩
      intro x hx
      rcases List.mem_cons.mp hx with rfl | hx
      · omega
      · exact hp x hx
theorem gv_snoc (n : Nat) (p : List UInt8) (c : UInt8) : gv n (p ++ [c]) = gv n p * 128 + c.toNat % 128 := by rw [gv_app]; rfl
theorem gv_head (c : UInt8) (l : List UInt8) : gv 0 (c :: l) = (c.toNat % 128) * 128 ^ l.length + gv 0 l := by
  show gv (0 * 128 + c.toNat % 128) l = _
  rw [gv_val, Nat.zero_mul, Nat.zero_add]
theorem gv_pos {p : List UInt8} (hp : High p) (h1 : p ≠ []) (h2 : p.head? ≠ some 128) : 128 ^ (p.length - 1) ≤ gv 0 p := by
  cases p with
  | nil => exact absurd rfl h1
  | cons c l =>
    rw [gv_head]
    have hc := hp c (List.mem_cons_self ..)
    have hn : c.toNat ≠ 128 := fun e => h2 (by rw [List.head?_cons]; exact congrArg some (UInt8.toNat_inj.mp e))
    have hl := c.toNat_lt
    have : 1 ≤ c.toNat % 128 := by omega
    have := Nat.mul_le_mul_right (128 ^ l.length) this
    show 128 ^ l.length ≤ _
    omega
theorem head_dropLast {p : List UInt8} {c : UInt8} (h : (p ++ [c]).head? ≠ some 128) : p.head? ≠ some 128 := by
  cases p with
  | nil => simp
  | cons d l => exact h
theorem hi_of (k : Nat) : ∀ p, p.length ≤ k → High p → p.head? ≠ some 128 → hiL k (gv 0 p) = p := by
  induction k with
  | zero =>
    intro p h _ _
    have : p = [] := List.length_eq_zero_iff.mp (by omega)
    rw [this]; rfl
  | succ k ih =>
    intro p h hp hh
    by_cases h0 : p = []
    · rw [h0]; rfl
    obtain ⟨q, c, rfl⟩ : ∃ q c, p = q ++ [c] := ⟨p.dropLast, p.getLast h0, (List.dropLast_concat_getLast h0).symm⟩
    have hpos := gv_pos hp h0 hh
    have h1 : 1 ≤ 128 ^ ((q ++ [c]).length - 1) := Nat.one_le_pow _ _ (by omega)
    have hc : 128 ≤ c.toNat := hp c (by simp)
    have hl := c.toNat_lt
    have e1 : gv 0 (q ++ [c]) / 128 = gv 0 q := by rw [gv_snoc]; omega
    have e2 : 128 + gv 0 (q ++ [c]) % 128 = c.toNat := by rw [gv_snoc]; omega
    rw [hiL_at (by omega), e1, e2, ih q (by simp at h; omega) (fun x hx => hp x (by simp [hx])) (head_dropLast hh), UInt8.ofNat_toNat]
/-- a number has one form -/
theorem rdU_ok {s : List UInt8} {m j : Nat} (h : rdU s = (0, m, j)) : m < 18446744073709551616 ∧ uintL m = s.take j ∧ 1 ≤ j ∧ j ≤ 10 ∧ j ≤ s.length := by
  unfold rdU at h
  by_cases h0 : s.head? = some 128
  · rw [if_pos h0] at h; simp at h
  rw [if_neg h0] at h
  obtain ⟨p, c, q, e, hp, hc, hg, hm, hj⟩ := rdF_ok s 0 0 m j h
  have hh : p.head? ≠ some 128 := by
    cases p with
    | nil => simp
    | cons d l => rw [e] at h0; exact h0
  have hlen : p.length ≤ 9 := by
    apply Classical.byContradiction
    intro hn
    have h1 : p ≠ [] := fun e => by rw [e] at hn; simp at hn
    have hpos := gv_pos hp h1 hh
    have : 128 ^ 9 ≤ 128 ^ (p.length - 1) := Nat.pow_le_pow_right (by omega) (by omega)
    omega
  refine ⟨by omega, ?_, by omega, by omega, by rw [e]; simp; omega⟩
  have e1 : m / 128 = gv 0 p := by omega
  have e2 : m % 128 = c.toNat := by omega
  unfold uintL
  rw [e1, e2, hi_of 10 p (by omega) hp hh, UInt8.ofNat_toNat, e, hj, Nat.zero_add]
  rw [show p ++ c :: q = (p ++ [c]) ++ q by simp, List.take_left' (by simp)]
theorem rdF_err (s : List UInt8) : ∀ n k, (rdF s n k).1 = 0 ∨ rdF s n k = (14, 0, 0) ∨ rdF s n k = (15, 0, 0) := by
  induction s with
  | nil => intro n k; exact .inr (.inl rfl)
  | cons c l ih =>
    intro n k
    show (if _ then _ else if _ then _ else rdF l _ _).1 = 0 ∨ (if _ then _ else if _ then _ else rdF l _ _) = _ ∨ (if _ then _ else if _ then _ else rdF l _ _) = _
    split
    · exact .inr (.inr rfl)
    · split
      · exact .inl rfl
      · exact ih _ _
theorem rdU_err (s : List UInt8) : (rdU s).1 = 0 ∨ rdU s = (14, 0, 0) ∨ rdU s = (15, 0, 0) := by
  unfold rdU
  split
  · exact .inr (.inr rfl)
  · exact rdF_err s 0 0
/-- a group too many, told by its place and by the first one -/
theorem gv_much {p : List UInt8} (hp : High p) (hh : p.head? ≠ some 128) (h10 : p.length ≤ 10) : 144115188075855872 ≤ gv 0 p ↔ p.length = 10 ∨ p.length = 9 ∧ ∃ c, p.head? = some c ∧ 129 < c.toNat := by
  cases p with
  | nil => simp [gv]
  | cons c l =>
    have hc := hp c (List.mem_cons_self ..)
    have hl := c.toNat_lt
    have hlt := gv_lt l
    have hn : c.toNat ≠ 128 := fun e => hh (by rw [List.head?_cons]; exact congrArg some (UInt8.toNat_inj.mp e))
    rw [gv_head, List.length_cons]
    rw [List.length_cons] at h10
    have hx : (∃ d, (c :: l).head? = some d ∧ 129 < d.toNat) ↔ 129 < c.toNat := ⟨fun ⟨d, e, h⟩ => by rw [List.head?_cons] at e; rw [Option.some.inj e]; exact h, fun h => ⟨c, rfl, h⟩⟩
    rw [hx]
    by_cases h7 : l.length ≤ 7
    · have h1 : 128 ^ l.length ≤ 128 ^ 7 := Nat.pow_le_pow_right (by omega) h7
      have h2 : (c.toNat % 128) * 128 ^ l.length ≤ 127 * 128 ^ l.length := Nat.mul_le_mul_right _ (by omega)
      omega
    · have h89 : l.length = 8 ∨ l.length = 9 := by omega
      rcases h89 with h8 | h8 <;> rw [h8] at hlt ⊢ <;> omega
end Go.Proofs.YtdmlgheajblcdaaGreat
