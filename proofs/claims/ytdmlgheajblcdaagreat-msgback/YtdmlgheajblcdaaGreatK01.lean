/- layer 9, numbers: a number in groups of seven bits -/
import Derived.Test.YtdmlgheajblcdaaGreatRows
import Derived.WalkKit
import Derived.ProofKit
import Derived.Handy
import Derived.WalkLawsBesides
import Derived.WalkSpells
import Derived.BigQuiet
import Derived.BigCall
import Derived.Deep.QuietTactic
import Derived.Deep.Light
import Derived.Deep.OwnRows
import Derived.Laws.AppendOwnNone
import Derived.Laws.Strings3
import Derived.Laws.RangeAny
import Derived.Deep.RegionWith
import Derived.Lib.BitFns
import Derived.Lib.Walk
import Derived.Lib.Strings
import Derived.Lib.OthersKept
import Derived.Deep.CutBlock
import Derived.Deep.DeepCutAuto
import Derived.Deep.LoopGhost
import Derived.Deep.RegionHeld3
import Derived.Lib.SmallJoins
import Derived.Maps.AppendAt
import Derived.Laws.IdiomStrings
import Derived.Lib.AppendZeros
import Derived.Deep.WholeRow
import Derived.Laws.BitsAllLaws
import Derived.Lib.ConvBytes
import Derived.Deep.RegionLaw
namespace Go.Proofs.YtdmlgheajblcdaaGreat
open Go.RowKit
set_option linter.unusedVariables false
set_option linter.unusedSimpArgs false
/-- the groups ahead of the last one, at most k of them -/
def hiL : Nat → Nat → List UInt8
  | 0, _ => []
  | k + 1, n => if n = 0 then [] else hiL k (n / 128) ++ [UInt8.ofNat (128 + n % 128)]
/-- a number as it is written -/
def uintL (n : Nat) : List UInt8 := hiL 10 (n / 128) ++ [UInt8.ofNat (n % 128)]
/-- what groups say -/
def gv : Nat → List UInt8 → Nat
  | n, [] => n
  | n, c :: l => gv (n * 128 + c.toNat % 128) l
/-- what a reader answers: the fault, the number, how many bytes -/
def rdF : List UInt8 → Nat → Nat → Nat × Nat × Nat
  | [], _, _ => (14, 0, 0)
  | c :: l, n, k => if 144115188075855872 ≤ n then (15, 0, 0) else if c.toNat < 128 then (0, n * 128 + c.toNat, k + 1) else rdF l (n * 128 + c.toNat % 128) (k + 1)
def rdU (s : List UInt8) : Nat × Nat × Nat := if s.head? = some 128 then (15, 0, 0) else rdF s 0 0
theorem gv_app (l m : List UInt8) : ∀ n, gv n (l ++ m) = gv (gv n l) m := by
  induction l with
  | nil => intro n; rfl
  | cons c l ih => intro n; exact ih _
theorem gv_val (l : List UInt8) : ∀ n, gv n l = n * 128 ^ l.length + gv 0 l := by
  induction l with
  | nil => intro n; simp [gv]
  | cons c l ih =>
    intro n
    show gv (n * 128 + c.toNat % 128) l = _ + gv (0 * 128 + c.toNat % 128) l
    rw [ih (n * 128 + c.toNat % 128), ih (0 * 128 + c.toNat % 128), List.length_cons, Nat.pow_succ, Nat.add_mul, Nat.mul_assoc, Nat.mul_comm 128, Nat.zero_mul, Nat.zero_add]
    omega
theorem gv_lt (l : List UInt8) : gv 0 l < 128 ^ l.length := by
  induction l with
  | nil => simp [gv]
  | cons c l ih =>
    show gv (0 * 128 + c.toNat % 128) l < _
    rw [gv_val, List.length_cons, Nat.pow_succ, Nat.zero_mul, Nat.zero_add]
    have h1 : c.toNat % 128 < 128 := Nat.mod_lt _ (by omega)
    have h2 : (c.toNat % 128) * 128 ^ l.length ≤ 127 * 128 ^ l.length := Nat.mul_le_mul_right _ (by omega)
    omega
theorem gv_mono {n m : Nat} (h : n ≤ m) (l : List UInt8) : gv n l ≤ gv m l := by
  rw [gv_val l n, gv_val l m]
  have := Nat.mul_le_mul_right (128 ^ l.length) h
  omega
theorem gv_le (l : List UInt8) (n : Nat) : n ≤ gv n l := by
  rw [gv_val]
  have h : 1 ≤ 128 ^ l.length := Nat.one_le_pow _ _ (by omega)
  have := Nat.mul_le_mul_left n h
  omega
/-- all of them groups ahead of the last one -/
def High (l : List UInt8) : Prop := ∀ c ∈ l, 128 ≤ c.toNat
theorem High.tail {c : UInt8} {l : List UInt8} (h : High (c :: l)) : High l := fun x hx => h x (List.mem_cons_of_mem _ hx)
/-- over groups that are ahead -/
theorem rdF_high (p : List UInt8) : ∀ (q : List UInt8) (n k : Nat), High p → (∀ a b, p = a ++ b → b ≠ [] → gv n a < 144115188075855872) → rdF (p ++ q) n k = rdF q (gv n p) (k + p.length) := by
  induction p with
  | nil => intro q n k _ _; rfl
  | cons c p ih =>
    intro q n k h hs
    have h0 : ¬ 144115188075855872 ≤ n := by have := hs [] (c :: p) rfl (by simp); simp only [gv] at this; omega
    have h1 : ¬ c.toNat < 128 := by have := h c (List.mem_cons_self ..); omega
    show (if _ then _ else if _ then _ else rdF (p ++ q) _ _) = _
    rw [if_neg h0, if_neg h1, ih q _ _ h.tail (fun a b e hb => hs (c :: a) b (by rw [e]; rfl) hb), List.length_cons, Nat.add_assoc, Nat.add_comm 1]
    rfl
theorem hiL_zero (k : Nat) : hiL k 0 = [] := by cases k <;> simp [hiL]
theorem hiL_at {k n : Nat} (h : n ≠ 0) : hiL (k + 1) n = hiL k (n / 128) ++ [UInt8.ofNat (128 + n % 128)] := by simp [hiL, h]
theorem hi_toNat (n : Nat) : (UInt8.ofNat (128 + n % 128)).toNat = 128 + n % 128 := by
  rw [UInt8.toNat_ofNat']
  have : n % 128 < 128 := Nat.mod_lt _ (by omega)
  omega
theorem lo_toNat (n : Nat) : (UInt8.ofNat (n % 128)).toNat = n % 128 := by
  rw [UInt8.toNat_ofNat']
  have : n % 128 < 128 := Nat.mod_lt _ (by omega)
  omega
theorem hiL_high (k : Nat) : ∀ n, High (hiL k n) := by
  induction k with
  | zero => intro n c h; simp [hiL] at h
  | succ k ih =>
    intro n c h
    by_cases hn : n = 0
    · rw [hn, hiL_zero] at h; simp at h
    · rw [hiL_at hn] at h
      rcases List.mem_append.mp h with h | h
      · exact ih _ c h
      · rw [List.mem_singleton.mp h, hi_toNat]; omega
theorem hiL_gv (k : Nat) : ∀ n, n < 128 ^ k → gv 0 (hiL k n) = n := by
  induction k with
  | zero => intro n h; have : n = 0 := by simp at h; exact h
            rw [this]; rfl
  | succ k ih =>
    intro n h
    by_cases hn : n = 0
    · rw [hn, hiL_zero]; rfl
    · rw [hiL_at hn, gv_app, ih (n / 128) (by rw [Nat.pow_succ] at h; exact Nat.div_lt_of_lt_mul (by omega))]
      show n / 128 * 128 + (UInt8.ofNat (128 + n % 128)).toNat % 128 = n
      rw [hi_toNat]; omega
/-- the beginnings of the groups say less -/
theorem hiL_pre (k : Nat) : ∀ n a b, n < 128 ^ k → hiL k n = a ++ b → b ≠ [] → gv 0 a ≤ n / 128 := by
  induction k with
  | zero => intro n a b _ e hb; simp [hiL] at e; exact absurd e.2 hb
  | succ k ih =>
    intro n a b h e hb
    by_cases hn : n = 0
    · rw [hn, hiL_zero] at e; simp at e; exact absurd e.2 hb
    · have hk : n / 128 < 128 ^ k := by rw [Nat.pow_succ] at h; exact Nat.div_lt_of_lt_mul (by omega)
      rw [hiL_at hn] at e
      rcases List.append_eq_append_iff.mp e with ⟨x, e1, e2⟩ | ⟨x, e1, e2⟩
      · cases x with
        | nil => simp at e1; rw [e1, hiL_gv k _ hk]; omega
        | cons y x => 
          have : x ++ b = [] := by simpa using (List.cons.inj e2).2.symm
          exact absurd (List.append_eq_nil_iff.mp this).2 hb
      · cases x with
        | nil => simp at e1; rw [← e1, hiL_gv k _ hk]; omega
        | cons y x => have := ih (n / 128) a (y :: x) hk e1 (by simp); omega
theorem hiL_head (k : Nat) : ∀ n c l, n < 128 ^ k → hiL k n = c :: l → c ≠ 128 := by
  induction k with
  | zero => intro n c l _ e; simp [hiL] at e
  | succ k ih =>
    intro n c l h e
    by_cases hn : n = 0
    · rw [hn, hiL_zero] at e; simp at e
    · have hk : n / 128 < 128 ^ k := by rw [Nat.pow_succ] at h; exact Nat.div_lt_of_lt_mul (by omega)
      rw [hiL_at hn] at e
      cases hh : hiL k (n / 128) with
      | nil =>
        rw [hh] at e
        have e1 : UInt8.ofNat (128 + n % 128) = c := (List.cons.inj e).1
        have h0 : n / 128 = 0 := by have := hiL_gv k _ hk; rw [hh] at this; exact this.symm
        intro hc
        have : (UInt8.ofNat (128 + n % 128)).toNat = 128 := by rw [e1, hc]; rfl
        rw [hi_toNat] at this
        omega
      | cons y x =>
        rw [hh] at e
        rw [← (List.cons.inj e).1]
        exact ih _ y x hk hh
theorem uint_head (n : Nat) (h : n < 18446744073709551616) (r : List UInt8) : (uintL n ++ r).head? ≠ some 128 := by
  unfold uintL
  cases hh : hiL 10 (n / 128) with
  | nil =>
    intro e
    have e1 : UInt8.ofNat (n % 128) = 128 := by simpa using e
    have := congrArg UInt8.toNat e1
    rw [lo_toNat] at this
    have h2 : (128 : UInt8).toNat = 128 := rfl
    omega
  | cons c l =>
    intro e
    have e1 : c = 128 := by simpa using e
    exact hiL_head 10 (n / 128) c l (by omega) hh e1
/-- what is written is read, whatever stands behind it -/
theorem rdU_uint (n : Nat) (h : n < 18446744073709551616) (r : List UInt8) : rdU (uintL n ++ r) = (0, n, (uintL n).length) := by
  unfold rdU
  rw [if_neg (uint_head n h r)]
  unfold uintL
  rw [List.append_assoc, rdF_high _ _ 0 0 (hiL_high _ _) (fun a b e hb => by have := hiL_pre 10 (n / 128) a b (by omega) e hb; omega), hiL_gv 10 _ (by omega)]
  show (if _ then _ else _) = _
  rw [if_neg (by omega), if_pos (by rw [lo_toNat]; omega), lo_toNat, List.length_append]
  simp only [List.length_singleton, Nat.zero_add, Prod.mk.injEq, true_and, and_true]
  omega
/-- what is read was so written: its groups -/
theorem rdF_ok (s : List UInt8) : ∀ (n k m j : Nat), rdF s n k = (0, m, j) → ∃ p c q, s = p ++ c :: q ∧ High p ∧ c.toNat < 128 ∧ gv n p < 144115188075855872 ∧ m = gv n p * 128 + c.toNat ∧ j = k + p.length + 1 := by
  induction s with
  | nil => intro n k m j h; simp [rdF] at h
  | cons c l ih =>
    intro n k m j h
    change (if 144115188075855872 ≤ n then (15, 0, 0) else if c.toNat < 128 then (0, n * 128 + c.toNat, k + 1) else rdF l (n * 128 + c.toNat % 128) (k + 1)) = (0, m, j) at h
    by_cases h0 : 144115188075855872 ≤ n
    · rw [if_pos h0] at h; simp at h
    rw [if_neg h0] at h
    by_cases h1 : c.toNat < 128
    · rw [if_pos h1] at h
      have e := congrArg Prod.snd h
      simp only [Prod.mk.injEq] at e
      exact ⟨[], c, l, rfl, (fun _ h => by simp at h), h1, by simp only [gv]; omega, e.1.symm, e.2.symm⟩
    · rw [if_neg h1] at h
      obtain ⟨p, d, q, e, hp, hd, hg, hm, hj⟩ := ih _ _ _ _ h
      refine ⟨c :: p, d, q, by rw [e]; rfl, ?_, hd, hg, hm, by rw [hj, List.length_cons]; omega⟩
      intro x hx
      rcases List.mem_cons.mp hx with rfl | hx
      · omega
      · exact hp x hx
theorem gv_snoc (n : Nat) (p : List UInt8) (c : UInt8) : gv n (p ++ [c]) = gv n p * 128 + c.toNat % 128 := by rw [gv_app]; rfl
theorem gv_head (c : UInt8) (l : List UInt8) : gv 0 (c :: l) = (c.toNat % 128) * 128 ^ l.length + gv 0 l := by
  show gv (0 * 128 + c.toNat % 128) l = _
  rw [gv_val, Nat.zero_mul, Nat.zero_add]
theorem gv_pos {p : List UInt8} (hp : High p) (h1 : p ≠ []) (h2 : p.head? ≠ some 128) : 128 ^ (p.length - 1) ≤ gv 0 p := by
  cases p with
  | nil => exact absurd rfl h1
  | cons c l =>
    rw [gv_head]
    have hc := hp c (List.mem_cons_self ..)
    have hn : c.toNat ≠ 128 := fun e => h2 (by rw [List.head?_cons]; exact congrArg some (UInt8.toNat_inj.mp e))
    have hl := c.toNat_lt
    have : 1 ≤ c.toNat % 128 := by omega
    have := Nat.mul_le_mul_right (128 ^ l.length) this
    show 128 ^ l.length ≤ _
    omega
theorem head_dropLast {p : List UInt8} {c : UInt8} (h : (p ++ [c]).head? ≠ some 128) : p.head? ≠ some 128 := by
  cases p with
  | nil => simp
  | cons d l => exact h
theorem hi_of (k : Nat) : ∀ p, p.length ≤ k → High p → p.head? ≠ some 128 → hiL k (gv 0 p) = p := by
  induction k with
  | zero =>
    intro p h _ _
    have : p = [] := List.length_eq_zero_iff.mp (by omega)
    rw [this]; rfl
  | succ k ih =>
    intro p h hp hh
    by_cases h0 : p = []
    · rw [h0]; rfl
    obtain ⟨q, c, rfl⟩ : ∃ q c, p = q ++ [c] := ⟨p.dropLast, p.getLast h0, (List.dropLast_concat_getLast h0).symm⟩
    have hpos := gv_pos hp h0 hh
    have h1 : 1 ≤ 128 ^ ((q ++ [c]).length - 1) := Nat.one_le_pow _ _ (by omega)
    have hc : 128 ≤ c.toNat := hp c (by simp)
    have hl := c.toNat_lt
    have e1 : gv 0 (q ++ [c]) / 128 = gv 0 q := by rw [gv_snoc]; omega
    have e2 : 128 + gv 0 (q ++ [c]) % 128 = c.toNat := by rw [gv_snoc]; omega
    rw [hiL_at (by omega), e1, e2, ih q (by simp at h; omega) (fun x hx => hp x (by simp [hx])) (head_dropLast hh), UInt8.ofNat_toNat]
/-- a number has one form -/
theorem rdU_ok {s : List UInt8} {m j : Nat} (h : rdU s = (0, m, j)) : m < 18446744073709551616 ∧ uintL m = s.take j ∧ 1 ≤ j ∧ j ≤ 10 ∧ j ≤ s.length := by
  unfold rdU at h
  by_cases h0 : s.head? = some 128
  · rw [if_pos h0] at h; simp at h
  rw [if_neg h0] at h
  obtain ⟨p, c, q, e, hp, hc, hg, hm, hj⟩ := rdF_ok s 0 0 m j h
  have hh : p.head? ≠ some 128 := by
    cases p with
    | nil => simp
    | cons d l => rw [e] at h0; exact h0
  have hlen : p.length ≤ 9 := by
    apply Classical.byContradiction
    intro hn
    have h1 : p ≠ [] := fun e => by rw [e] at hn; simp at hn
    have hpos := gv_pos hp h1 hh
    have : 128 ^ 9 ≤ 128 ^ (p.length - 1) := Nat.pow_le_pow_right (by omega) (by omega)
    omega
  refine ⟨by omega, ?_, by omega, by omega, by rw [e]; simp; omega⟩
  have e1 : m / 128 = gv 0 p := by omega
  have e2 : m % 128 = c.toNat := by omega
  unfold uintL
  rw [e1, e2, hi_of 10 p (by omega) hp hh, UInt8.ofNat_toNat, e, hj, Nat.zero_add]
  rw [show p ++ c :: q = (p ++ [c]) ++ q by simp, List.take_left' (by simp)]
theorem rdF_err (s : List UInt8) : ∀ n k, (rdF s n k).1 = 0 ∨ rdF s n k = (14, 0, 0) ∨ rdF s n k = (15, 0, 0) := by
  induction s with
  | nil => intro n k; exact .inr (.inl rfl)
  | cons c l ih =>
    intro n k
    show (if _ then _ else if _ then _ else rdF l _ _).1 = 0 ∨ (if _ then _ else if _ then _ else rdF l _ _) = _ ∨ (if _ then _ else if _ then _ else rdF l _ _) = _
    split
    · exact .inr (.inr rfl)
    · split
      · exact .inl rfl
      · exact ih _ _
theorem rdU_err (s : List UInt8) : (rdU s).1 = 0 ∨ rdU s = (14, 0, 0) ∨ rdU s = (15, 0, 0) := by
  unfold rdU
  split
  · exact .inr (.inr rfl)
  · exact rdF_err s 0 0
/-- a group too many, told by its place and by the first one -/
theorem gv_much {p : List UInt8} (hp : High p) (hh : p.head? ≠ some 128) (h10 : p.length ≤ 10) : 144115188075855872 ≤ gv 0 p ↔ p.length = 10 ∨ p.length = 9 ∧ ∃ c, p.head? = some c ∧ 129 < c.toNat := by
  cases p with
  | nil => simp [gv]
  | cons c l =>
    have hc := hp c (List.mem_cons_self ..)
    have hl := c.toNat_lt
    have hlt := gv_lt l
    have hn : c.toNat ≠ 128 := fun e => hh (by rw [List.head?_cons]; exact congrArg some (UInt8.toNat_inj.mp e))
    rw [gv_head, List.length_cons]
    rw [List.length_cons] at h10
    have hx : (∃ d, (c :: l).head? = some d ∧ 129 < d.toNat) ↔ 129 < c.toNat := ⟨fun ⟨d, e, h⟩ => by rw [List.head?_cons] at e; rw [Option.some.inj e]; exact h, fun h => ⟨c, rfl, h⟩⟩
    rw [hx]
    by_cases h7 : l.length ≤ 7
    · have h1 : 128 ^ l.length ≤ 128 ^ 7 := Nat.pow_le_pow_right (by omega) h7
      have h2 : (c.toNat % 128) * 128 ^ l.length ≤ 127 * 128 ^ l.length := Nat.mul_le_mul_right _ (by omega)
      omega
    · have h89 : l.length = 8 ∨ l.length = 9 := by omega
      rcases h89 with h8 | h8 <;> rw [h8] at hlt ⊢ <;> omega
end Go.Proofs.YtdmlgheajblcdaaGreat

/- layer 9, numbers: what is written of items, and a reader -/
namespace Go.Proofs.YtdmlgheajblcdaaGreat
open Go.RowKit
set_option linter.unusedVariables false
set_option linter.unusedSimpArgs false
/-- a number with a sign as one without -/
def fo (n : Int) : Nat := if n < 0 then (-2 * n - 1).toNat else (2 * n).toNat
def un (u : Nat) : Int := if u % 2 = 1 then -1 - ((u / 2 : Nat) : Int) else ((u / 2 : Nat) : Int)
def I64 (n : Int) : Prop := -9223372036854775808 ≤ n ∧ n ≤ 9223372036854775807
theorem un_fo (n : Int) : un (fo n) = n := by
  unfold un fo
  split <;> split <;> omega
theorem fo_un (u : Nat) : fo (un u) = u := by
  unfold un fo
  split <;> split <;> omega
theorem fo_lt {n : Int} (h : I64 n) : fo n < 18446744073709551616 := by
  unfold fo
  have := h.1; have := h.2
  split <;> omega
theorem un_in {u : Nat} (h : u < 18446744073709551616) : I64 (un u) := by
  unfold un I64
  split <;> omega
def intL (n : Int) : List UInt8 := uintL (fo n)
def textL (t : List UInt8) : List UInt8 := uintL t.length ++ t
def boolL (b : Bool) : List UInt8 := [if b then 1 else 0]
def flatI : List Int → List UInt8
  | [] => []
  | n :: l => intL n ++ flatI l
def intsL (l : List Int) : List UInt8 := uintL l.length ++ flatI l
/-- a reader: its text, where it is, its fault -/
structure Rd where
  s : List UInt8
  at_ : Nat
  e : Nat
def Rd.fl (r : Rd) (e : Nat) : Rd := if r.e = 0 then { r with e := e } else r
def rUint (r : Rd) : Rd × Nat :=
  if r.e ≠ 0 then (r, 0) else if (rdU (r.s.drop r.at_)).1 = 0 then ({ r with at_ := r.at_ + (rdU (r.s.drop r.at_)).2.2 }, (rdU (r.s.drop r.at_)).2.1) else ({ r with e := (rdU (r.s.drop r.at_)).1 }, 0)
def rInt (r : Rd) : Rd × Int := ((rUint r).1, un (rUint r).2)
/-- a length, at most 'most' -/
def rCount (r : Rd) (most : Int) : Rd × Nat :=
  if (rUint r).1.e ≠ 0 then ((rUint r).1, 0) else if (((rUint r).2 : Nat) : Int) > most then (r.fl 2, 0) else rUint r
def rText (r : Rd) (most : Int) : Rd × List UInt8 :=
  if (rCount r most).1.e ≠ 0 then ((rCount r most).1, []) else if r.s.length < (rCount r most).1.at_ + (rCount r most).2 then (r.fl 14, []) else
    ({ r with at_ := (rCount r most).1.at_ + (rCount r most).2 }, (r.s.drop (rCount r most).1.at_).take (rCount r most).2)
def rBool (r : Rd) : Rd × Bool :=
  if r.e ≠ 0 then (r, false) else match r.s[r.at_]? with
    | none => ({ r with e := 14 }, false)
    | some c => if 1 < c.toNat then ({ r with e := 15 }, false) else ({ r with at_ := r.at_ + 1 }, c.toNat == 1)
def rIs : Nat → Rd → Rd × List Int
  | 0, r => (r, [])
  | n + 1, r => if r.e ≠ 0 then (r, []) else ((rIs n (rInt r).1).1, (rInt r).2 :: (rIs n (rInt r).1).2)
def rInts (r : Rd) (most : Int) : Rd × List Int :=
  if (rIs (rCount r most).2 (rCount r most).1).1.e ≠ 0 then ((rIs (rCount r most).2 (rCount r most).1).1, []) else rIs (rCount r most).2 (rCount r most).1
def rEnd (r : Rd) : Rd × Bool := ((if r.at_ < r.s.length then r.fl 16 else r), (if r.at_ < r.s.length then r.fl 16 else r).e == 0)
/-- behind a fault nothing changes -/
theorem rUint_bad {r : Rd} (h : r.e ≠ 0) : rUint r = (r, 0) := by unfold rUint; rw [if_pos h]
theorem rInt_bad {r : Rd} (h : r.e ≠ 0) : rInt r = (r, 0) := by unfold rInt; rw [rUint_bad h]; show (r, un 0) = _; simp [un]
theorem rCount_bad {r : Rd} (h : r.e ≠ 0) (m : Int) : rCount r m = (r, 0) := by unfold rCount; rw [rUint_bad h, if_pos h]
theorem rText_bad {r : Rd} (h : r.e ≠ 0) (m : Int) : rText r m = (r, []) := by unfold rText; rw [rCount_bad h, if_pos h]
theorem rBool_bad {r : Rd} (h : r.e ≠ 0) : rBool r = (r, false) := by unfold rBool; rw [if_pos h]
theorem rInts_bad {r : Rd} (h : r.e ≠ 0) (m : Int) : rInts r m = (r, []) := by
  unfold rInts; rw [rCount_bad h]
  show (if (rIs 0 r).1.e ≠ 0 then ((rIs 0 r).1, []) else rIs 0 r) = _
  rw [if_pos (show (rIs 0 r).1.e ≠ 0 from h)]
  rfl
theorem fl_bad {r : Rd} (h : r.e ≠ 0) (e : Nat) : r.fl e = r := by unfold Rd.fl; rw [if_neg h]
theorem rEnd_bad {r : Rd} (h : r.e ≠ 0) : rEnd r = (r, false) := by
  unfold rEnd
  rw [fl_bad h, ite_self]
  simp [h]
/-- a reader at a place with bytes behind it -/
theorem drop_mid (a b c : List UInt8) : (a ++ b ++ c).drop a.length = b ++ c := by rw [List.append_assoc, List.drop_left]
theorem rUint_at (a c : List UInt8) (n : Nat) (h : n < 18446744073709551616) : rUint ⟨a ++ uintL n ++ c, a.length, 0⟩ = (⟨a ++ uintL n ++ c, (a ++ uintL n).length, 0⟩, n) := by
  unfold rUint
  rw [if_neg (by simp)]
  show (if (rdU ((a ++ uintL n ++ c).drop a.length)).1 = 0 then _ else _) = _
  rw [drop_mid, rdU_uint n h, if_pos rfl, List.length_append]
theorem rInt_at (a c : List UInt8) (n : Int) (h : I64 n) : rInt ⟨a ++ intL n ++ c, a.length, 0⟩ = (⟨a ++ intL n ++ c, (a ++ intL n).length, 0⟩, n) := by
  unfold rInt intL
  rw [rUint_at a c (fo n) (fo_lt h), un_fo]
theorem rCount_at (a c : List UInt8) (n : Nat) (h : n < 18446744073709551616) (m : Int) (hm : (n : Int) ≤ m) : rCount ⟨a ++ uintL n ++ c, a.length, 0⟩ m = (⟨a ++ uintL n ++ c, (a ++ uintL n).length, 0⟩, n) := by
  unfold rCount
  rw [rUint_at a c n h, if_neg (by simp), if_neg (by simp only; omega)]
theorem rText_at (a c t : List UInt8) (h : t.length < 18446744073709551616) (m : Int) (hm : (t.length : Int) ≤ m) : rText ⟨a ++ textL t ++ c, a.length, 0⟩ m = (⟨a ++ textL t ++ c, (a ++ textL t).length, 0⟩, t) := by
  have e : a ++ textL t ++ c = a ++ uintL t.length ++ (t ++ c) := by simp [textL]
  unfold rText
  rw [e, rCount_at a (t ++ c) t.length h m hm, if_neg (by simp), if_neg (by simp only [List.length_append]; omega)]
  show (Rd.mk _ _ _, ((a ++ uintL t.length ++ (t ++ c)).drop (a ++ uintL t.length).length).take t.length) = _
  rw [List.drop_left, List.take_left]
  simp [textL, Nat.add_assoc]
theorem rBool_at (a c : List UInt8) (b : Bool) : rBool ⟨a ++ boolL b ++ c, a.length, 0⟩ = (⟨a ++ boolL b ++ c, (a ++ boolL b).length, 0⟩, b) := by
  unfold rBool
  rw [if_neg (by simp)]
  show (match (a ++ boolL b ++ c)[a.length]? with | none => _ | some c => _) = _
  rw [List.append_assoc, List.getElem?_append_right (Nat.le_refl _), Nat.sub_self]
  cases b <;> simp [boolL]
theorem rIs_at (l : List Int) : ∀ (a c : List UInt8), (∀ n ∈ l, I64 n) → rIs l.length ⟨a ++ flatI l ++ c, a.length, 0⟩ = (⟨a ++ flatI l ++ c, (a ++ flatI l).length, 0⟩, l) := by
  induction l with
  | nil => intro a c _; simp [rIs, flatI]
  | cons n l ih =>
    intro a c h
    have e : a ++ flatI (n :: l) ++ c = a ++ intL n ++ (flatI l ++ c) := by simp [flatI]
    have e2 : a ++ intL n ++ (flatI l ++ c) = (a ++ intL n) ++ flatI l ++ c := by simp
    have e3 : (a ++ flatI (n :: l)).length = ((a ++ intL n) ++ flatI l).length := by simp [flatI, Nat.add_assoc]
    show (if (0 : Nat) ≠ 0 then _ else _) = _
    rw [if_neg (by simp), e, rInt_at a _ n (h n (List.mem_cons_self ..)), e2, e3]
    show ((rIs l.length _).1, n :: (rIs l.length _).2) = _
    rw [ih (a ++ intL n) c (fun x hx => h x (List.mem_cons_of_mem _ hx))]
theorem rInts_at (a c : List UInt8) (l : List Int) (hl : l.length < 18446744073709551616) (h : ∀ n ∈ l, I64 n) (m : Int) (hm : (l.length : Int) ≤ m) : rInts ⟨a ++ intsL l ++ c, a.length, 0⟩ m = (⟨a ++ intsL l ++ c, (a ++ intsL l).length, 0⟩, l) := by
  have e : a ++ intsL l ++ c = a ++ uintL l.length ++ (flatI l ++ c) := by simp [intsL]
  have e2 : a ++ uintL l.length ++ (flatI l ++ c) = (a ++ uintL l.length) ++ flatI l ++ c := by simp
  have e3 : (a ++ intsL l).length = ((a ++ uintL l.length) ++ flatI l).length := by simp [intsL, Nat.add_assoc]
  unfold rInts
  rw [e, rCount_at a _ l.length hl m hm, e2, e3]
  show (if (rIs l.length ⟨_, (a ++ uintL l.length).length, 0⟩).1.e ≠ 0 then _ else rIs l.length ⟨_, (a ++ uintL l.length).length, 0⟩) = _
  rw [rIs_at l (a ++ uintL l.length) c h, if_neg (by simp)]
/-- lengths -/
theorem uint_len {n : Nat} (h : n < 18446744073709551616) : 1 ≤ (uintL n).length ∧ (uintL n).length ≤ 10 := by
  have h1 := rdU_uint n h []
  have := rdU_ok h1
  exact ⟨this.2.2.1, this.2.2.2.1⟩
theorem flatI_len (l : List Int) (h : ∀ n ∈ l, I64 n) : (flatI l).length ≤ 10 * l.length := by
  induction l with
  | nil => simp [flatI]
  | cons n l ih =>
    have h1 := (uint_len (fo_lt (h n (List.mem_cons_self ..)))).2
    have h2 := ih (fun x hx => h x (List.mem_cons_of_mem _ hx))
    simp only [flatI, intL, List.length_append, List.length_cons]
    omega
/-- a reader's place stays inside its text, and grows -/
def Rd.Ok (r : Rd) : Prop := r.at_ ≤ r.s.length
theorem rUint_ok {r : Rd} (h : r.Ok) : (rUint r).1.Ok ∧ (rUint r).1.s = r.s ∧ r.at_ ≤ (rUint r).1.at_ ∧ (rUint r).2 < 18446744073709551616 := by
  unfold rUint
  split
  · exact ⟨h, rfl, Nat.le_refl _, by simp⟩
  · split
    · next h1 h2 =>
      have hk := rdU_ok (s := r.s.drop r.at_) (m := (rdU (r.s.drop r.at_)).2.1) (j := (rdU (r.s.drop r.at_)).2.2) (by rw [← h2])
      rw [List.length_drop] at hk
      refine ⟨?_, rfl, Nat.le_add_right .., hk.1⟩
      show r.at_ + _ ≤ r.s.length
      have : r.at_ ≤ r.s.length := h
      omega
    · exact ⟨h, rfl, Nat.le_refl _, by simp⟩
theorem rInt_ok {r : Rd} (h : r.Ok) : (rInt r).1.Ok ∧ (rInt r).1.s = r.s ∧ I64 (rInt r).2 := ⟨(rUint_ok h).1, (rUint_ok h).2.1, un_in (rUint_ok h).2.2.2⟩
theorem fl_ok {r : Rd} (h : r.Ok) (e : Nat) : (r.fl e).Ok ∧ (r.fl e).s = r.s := by
  unfold Rd.fl
  split
  · exact ⟨h, rfl⟩
  · exact ⟨h, rfl⟩
theorem rCount_ok {r : Rd} (h : r.Ok) (m : Int) : (rCount r m).1.Ok ∧ (rCount r m).1.s = r.s := by
  unfold rCount
  split
  · exact ⟨(rUint_ok h).1, (rUint_ok h).2.1⟩
  · split
    · exact fl_ok h 2
    · exact ⟨(rUint_ok h).1, (rUint_ok h).2.1⟩
theorem rIs_ok (n : Nat) : ∀ {r : Rd}, r.Ok → (rIs n r).1.Ok ∧ (rIs n r).1.s = r.s := by
  induction n with
  | zero => intro r h; exact ⟨h, rfl⟩
  | succ n ih =>
    intro r h
    unfold rIs
    split
    · exact ⟨h, rfl⟩
    · have h1 := rInt_ok h
      have h2 := ih h1.1
      exact ⟨h2.1, h2.2.trans h1.2.1⟩
theorem rText_ok {r : Rd} (h : r.Ok) (m : Int) : (rText r m).1.Ok ∧ (rText r m).1.s = r.s := by
  unfold rText
  split
  · exact rCount_ok h m
  · split
    · exact fl_ok h 14
    · next h1 h2 => exact ⟨(by show (rCount r m).1.at_ + (rCount r m).2 ≤ r.s.length; omega), rfl⟩
theorem rBool_ok {r : Rd} (h : r.Ok) : (rBool r).1.Ok ∧ (rBool r).1.s = r.s := by
  unfold rBool
  split
  · exact ⟨h, rfl⟩
  · split
    · exact ⟨h, rfl⟩
    · next c hc =>
      split
      · exact ⟨h, rfl⟩
      · refine ⟨?_, rfl⟩
        have := (List.getElem?_eq_some_iff.mp hc).1
        exact this
theorem rInts_ok {r : Rd} (h : r.Ok) (m : Int) : (rInts r m).1.Ok ∧ (rInts r m).1.s = r.s := by
  have h1 := rCount_ok h m
  have h2 := rIs_ok (rCount r m).2 h1.1
  unfold rInts
  split
  · exact ⟨h2.1, h2.2.trans h1.2⟩
  · exact ⟨h2.1, h2.2.trans h1.2⟩
theorem rEnd_ok {r : Rd} (h : r.Ok) : (rEnd r).1.Ok ∧ (rEnd r).1.s = r.s := by
  unfold rEnd
  show (if _ then _ else _ : Rd).Ok ∧ (if _ then _ else _ : Rd).s = _
  split
  · exact fl_ok h 16
  · exact ⟨h, rfl⟩
/-- how many numbers a reader tells: no more than bytes are left, and one -/
theorem rIs_len (n : Nat) : ∀ {r : Rd}, r.Ok → (rIs n r).2.length ≤ r.s.length - r.at_ + 1 := by
  induction n with
  | zero => intro r _; simp [rIs]
  | succ n ih =>
    intro r h
    unfold rIs
    split
    · simp
    · next he =>
      have h0 : r.e = 0 := Classical.byContradiction he
      have h1 := rInt_ok h
      have h2 := ih h1.1
      show (rIs n (rInt r).1).2.length + 1 ≤ _
      by_cases hr : (rdU (r.s.drop r.at_)).1 = 0
      · have hk := rdU_ok (s := r.s.drop r.at_) (m := (rdU (r.s.drop r.at_)).2.1) (j := (rdU (r.s.drop r.at_)).2.2) (by rw [← hr])
        rw [List.length_drop] at hk
        have e : (rInt r).1.at_ = r.at_ + (rdU (r.s.drop r.at_)).2.2 := by
          show (rUint r).1.at_ = _
          unfold rUint
          rw [if_neg he, if_pos hr]
        rw [h1.2.1, e] at h2
        omega
      · have e : (rInt r).1.e ≠ 0 := by
          show (rUint r).1.e ≠ 0
          unfold rUint
          rw [if_neg he, if_neg hr]
          exact hr
        have : (rIs n (rInt r).1).2 = [] := by
          cases n with
          | zero => rfl
          | succ n => unfold rIs; rw [if_pos e]
        rw [this]
        simp
/-- one call of a reader, by its kind: 0 Uint, 1 Int, 2 Text, 3 Bool, 4 Ints, 5 Count, 6 End, else Fail(17): what it is then -/
def rDo (k : Nat) (m : Int) (r : Rd) : Rd := match k with
  | 0 => (rUint r).1
  | 1 => (rInt r).1
  | 2 => (rText r m).1
  | 3 => (rBool r).1
  | 4 => (rInts r m).1
  | 5 => (rCount r m).1
  | 6 => (rEnd r).1
  | _ => r.fl 17
theorem rDo_ok (k : Nat) (m : Int) {r : Rd} (h : r.Ok) : (rDo k m r).Ok ∧ (rDo k m r).s = r.s := by
  unfold rDo
  split
  · exact ⟨(rUint_ok h).1, (rUint_ok h).2.1⟩
  · exact ⟨(rInt_ok h).1, (rInt_ok h).2.1⟩
  · exact rText_ok h m
  · exact rBool_ok h
  · exact rInts_ok h m
  · exact rCount_ok h m
  · exact rEnd_ok h
  · exact fl_ok h 17
theorem rDo_bad (k : Nat) (m : Int) {r : Rd} (h : r.e ≠ 0) : rDo k m r = r := by
  unfold rDo
  split
  · rw [rUint_bad h]
  · rw [rInt_bad h]
  · rw [rText_bad h]
  · rw [rBool_bad h]
  · rw [rInts_bad h]
  · rw [rCount_bad h]
  · rw [rEnd_bad h]
  · rw [fl_bad h]
end Go.Proofs.YtdmlgheajblcdaaGreat

/- layer 9, numbers: items that are written, and read back -/
namespace Go.Proofs.YtdmlgheajblcdaaGreat
open Go.RowKit
set_option linter.unusedVariables false
set_option linter.unusedSimpArgs false
/-- an item as its bytes: by its kind -/
def itL (k : Int) (u : Nat) (n : Int) (t : List UInt8) (b : Bool) (l : List Int) : List UInt8 :=
  if k = 0 then uintL u else if k = 1 then intL n else if k = 2 then textL t else if k = 3 then boolL b else intsL l
structure It where
  k : Int
  u : Nat
  n : Int
  t : List UInt8
  b : Bool
  l : List Int
def It.L (x : It) : List UInt8 := itL x.k x.u x.n x.t x.b x.l
structure It.Wf (x : It) : Prop where
  u : x.u < 18446744073709551616
  n : I64 x.n
  l : ∀ n ∈ x.l, I64 n
def wrL : List It → List UInt8
  | [] => []
  | x :: l => x.L ++ wrL l
theorem wrL_app (a b : List It) : wrL (a ++ b) = wrL a ++ wrL b := by
  induction a with
  | nil => rfl
  | cons x l ih => show x.L ++ wrL (l ++ b) = _; rw [ih, ← List.append_assoc]; rfl
theorem wrL_snoc (a : List It) (x : It) : wrL (a ++ [x]) = wrL a ++ x.L := by rw [wrL_app]; show _ ++ (x.L ++ []) = _; rw [List.append_nil]
theorem It.len {x : It} (h : x.Wf) (ht : x.t.length ≤ 6000) (hl : x.l.length ≤ 6000) : x.L.length ≤ 10 + x.t.length + 10 * x.l.length := by
  unfold It.L itL
  have h1 := (uint_len h.u).2
  have h2 := (uint_len (fo_lt h.n)).2
  have h3 := (uint_len (n := x.t.length) (by omega)).2
  have h4 := (uint_len (n := x.l.length) (by omega)).2
  have h5 := flatI_len x.l h.l
  split
  · omega
  split
  · show (uintL (fo x.n)).length ≤ _; omega
  split
  · show (uintL x.t.length ++ x.t).length ≤ _; rw [List.length_append]; omega
  split
  · show 1 ≤ _; omega
  · show (uintL x.l.length ++ flatI x.l).length ≤ _; rw [List.length_append]; omega
/-- texts and numbers of items together -/
def itw (l : List It) : Nat := (l.map fun x => x.t.length + x.l.length).sum
theorem wrL_len (l : List It) (h : ∀ x ∈ l, x.Wf) (hw : itw l ≤ 6000) : (wrL l).length ≤ 10 * l.length + 10 * itw l := by
  induction l with
  | nil => simp [wrL]
  | cons x l ih =>
    have e : itw (x :: l) = x.t.length + x.l.length + itw l := by simp [itw]
    have h1 := It.len (h x (List.mem_cons_self ..)) (by omega) (by omega)
    have h2 := ih (fun y hy => h y (List.mem_cons_of_mem _ hy)) (by omega)
    show (x.L ++ wrL l).length ≤ _
    rw [List.length_append, e, List.length_cons]
    omega
/-- the i-th item stands behind those ahead of it -/
theorem wrL_at (l : List It) (i : Nat) (h : i < l.length) : wrL l = wrL (l.take i) ++ (l[i]).L ++ wrL (l.drop (i + 1)) := by
  rw [← wrL_snoc, ← wrL_app, List.take_append_getElem h, List.take_append_drop]
end Go.Proofs.YtdmlgheajblcdaaGreat

/- The program's number: the number that a text begins with. -/
namespace Go.Proofs.YtdmlgheajblcdaaGreat
open Go.RowKit
set_option linter.unusedVariables false
set_option linter.unusedSimpArgs false
theorem bdrew {B : Nat} {a w : World} (h : Below B a w) (n : Nat) : Below B a (w.drewN n) := ⟨h.os, h.tape, h.output, h.size, h.block⟩
theorem below_new (w : World) (o : Obj) : Below w.heap.size w (w.alloc o) := (Below.refl _ w).alloc (Nat.le_refl _) _
/-- A call answers a number, and leaves the world alone. -/
def NP (k : IntKind) (n : Int) (w : World) (e : Ending) (w' : World) : Prop := e = .returned (.int k n) ∧ w = w'
theorem NP.mk {k : IntKind} {n m : Int} {w : World} (h : m = n) : NP k n w (.returned (.int k m)) w := ⟨by rw [h], rfl⟩
theorem drop_at {s : ByteArray} {k : Nat} (h : k < s.size) : s.data.toList.drop k = s[k] :: s.data.toList.drop (k + 1) := by
  have h1 : k < s.data.toList.length := h
  rw [List.drop_eq_getElem_cons h1]
  rfl
theorem take_at {s : ByteArray} {k : Nat} (h : k < s.size) : s.data.toList.take (k + 1) = s.data.toList.take k ++ [s[k]] := by
  rw [List.take_succ_eq_append_getElem (by simpa using h)]
  rfl
theorem idx_at {s : ByteArray} {k : Nat} (h : k < s.size) {z : UInt8} (hz : s[k] = z) {i : Int} (hi : i = k) (w : World) : (Instr.index 9 (.string s) (.int .i64 i)).run Tryz.prog w = .ok (.int .u8 (z.toNat : Int)) w := by
  subst hi
  rw [run_index_string w 9 s .i64 k Tryz.underlying9]
  simp [h, hz]
theorem or_add {x y : Nat} (n : Nat) (hx : x < 2 ^ n) : x ||| y * 2 ^ n = x + y * 2 ^ n := by
  have h := Nat.two_pow_add_eq_or_of_lt hx y
  rw [Nat.mul_comm y, Nat.or_comm, ← h, Nat.add_comm]
theorem and_low (x : Nat) (hx : x < 256) : bits .and .u8 (x : Int) 127 = ((x % 128 : Nat) : Int) := by
  have := u8_and_nat x 127 hx (by omega)
  rw [show (127 : Nat) = 2 ^ 7 - 1 from rfl, Nat.and_two_pow_sub_one_eq_mod] at this
  exact this
theorem or_low (n x : Nat) (hn : n < 144115188075855872) (hx : x < 128) : bits .or .u64 ((n : Int) * 128) (x : Int) = ((n * 128 + x : Nat) : Int) := by
  have h1 := u64_or_nat (n * 128) x (by omega) (by omega)
  rw [Nat.or_comm, show n * 128 = n * 2 ^ 7 from rfl, or_add 7 (by omega : x < 2 ^ 7)] at h1
  rw [show (n : Int) * 128 = ((n * 2 ^ 7 : Nat) : Int) by omega, h1]
  omega
theorem rdF_big {c : UInt8} {l : List UInt8} {n k : Nat} (h : 144115188075855872 ≤ n) : rdF (c :: l) n k = (15, 0, 0) := if_pos h
theorem rdF_last {c : UInt8} {l : List UInt8} {n k : Nat} (h : ¬ 144115188075855872 ≤ n) (hc : c.toNat < 128) : rdF (c :: l) n k = (0, n * 128 + c.toNat, k + 1) := by
  show (if _ then _ else _) = _
  rw [if_neg h, if_pos hc]
theorem rdF_more {c : UInt8} {l : List UInt8} {n k : Nat} (h : ¬ 144115188075855872 ≤ n) (hc : ¬ c.toNat < 128) : rdF (c :: l) n k = rdF l (n * 128 + c.toNat % 128) (k + 1) := by
  show (if _ then _ else _) = _
  rw [if_neg h, if_neg hc]
theorem rdU_form {s : ByteArray} (h : 0 < s.size) (hx : s[0].toNat = 128) : rdU s.data.toList = (15, 0, 0) := by
  have := drop_at h
  rw [List.drop_zero] at this
  unfold rdU
  rw [this, if_pos]
  rw [List.head?_cons]
  exact congrArg some (UInt8.toNat_inj.mp hx)
theorem rdU_first {s : ByteArray} (h : 0 < s.size) (hx : s[0].toNat ≠ 128) : rdU s.data.toList = rdF (s.data.toList.drop 0) 0 0 := by
  have := drop_at h
  rw [List.drop_zero] at this
  unfold rdU
  rw [List.drop_zero, if_neg]
  rw [this, List.head?_cons]
  intro e
  exact hx (by rw [Option.some.inj e]; rfl)
/-- what number hands back; the world is as it was, draws aside -/
def U3 (r : Nat × Nat × Nat) (w : World) (e : Ending) (w' : World) : Prop := e = .returned (.tuple #[.int .u64 r.2.1, .int .i64 r.2.2, .int .i64 r.1]) ∧ w = w'
theorem U3.mk {r : Nat × Nat × Nat} {w : World} {x y z : Int} {a b c : Nat} (h : r = (a, b, c)) (hx : x = b) (hy : y = c) (hz : z = a) : U3 r w (.returned (.tuple #[.int .u64 x, .int .i64 y, .int .i64 z])) w := by
  subst h hx hy hz
  exact ⟨rfl, rfl⟩
set_option maxHeartbeats 4000000 in
theorem xnum (s : ByteArray) (hs : s.size ≤ 9223372036854775807) (w : World) : Calls Tryz.prog 118 #[.string s] w (U3 (rdU s.data.toList) w) := by
  have HL : Hid (s.data.toList.length = s.size) := rfl
  go_enter Tryz.func118, Tryz.ntmps118
  go_wp2_with fail
  go_loopw [5, 9] (fun v i wr => ∃ (k n : Nat), v = .int .u64 n ∧ i = .int .i64 k ∧ k ≤ s.size ∧ n < 18446744073709551616 ∧ w = wr ∧ Hid (k = 0 ∧ n = 0 ∨ 0 < k ∧ rdU s.data.toList = rdF (s.data.toList.drop k) n k)) (fun _ i _ => s.size - (Lib.intOf i).toNat)
  case atStart => exact ⟨0, 0, rfl, rfl, Nat.zero_le _, by omega, by first | rfl | trivial, .inl ⟨rfl, rfl⟩⟩
  case round =>
    obtain ⟨k, n, rfl, rfl, hk, hn, rfl, HR⟩ := hrel
    by_cases hkn : k < s.size
    · have hkz : (k : Int) < (s.size : Int) := by omega
      obtain ⟨x, hx⟩ : ∃ x : UInt8, s[k] = x := ⟨_, rfl⟩
      have hxl := x.toNat_lt
      have hdr := drop_at hkn
      rw [hx] at hdr
      by_cases hf : k = 0 ∧ x.toNat = 128
      · have h0 : k = 0 := hf.1
        subst h0
        have HF : Hid (rdU s.data.toList = (15, 0, 0)) := rdU_form hkn (by rw [hx]; exact hf.2)
        have h128 : ((x.toNat : Int) == 128) = true := by rw [beq_iff_eq]; omega
        clear HR hf hdr
        go_wp2_with fail
        go_ret3
        exact U3.mk HF.out rfl rfl rfl
      · have HS : Hid (rdU s.data.toList = rdF (x :: s.data.toList.drop (k + 1)) n k) := by
          unfold Hid
          rw [← hdr]
          rcases HR.out with ⟨h0, h1⟩ | ⟨_, h1⟩
          · subst h0 h1
            exact rdU_first hkn fun e => hf ⟨rfl, by rw [← hx]; exact e⟩
          · exact h1
        have hz : k = 0 → ¬ x.toNat = 128 := fun h e => hf ⟨h, e⟩
        have hg : (decide ((k : Int) = 0) && decide ((x.toNat : Int) = 128)) = false := by
          by_cases h0 : k = 0
          · simp [hz h0]; intro _; have := hz h0; omega
          · simp; omega
        by_cases hb : 144115188075855872 ≤ n
        · have hbz : (144115188075855871 : Int) < (n : Int) := by omega
          have HF : Hid (rdU s.data.toList = (15, 0, 0)) := by unfold Hid; rw [HS.out, rdF_big hb]
          clear HS HR hdr hf hg
          by_cases h0 : k = 0
          · subst h0
            have h128 : ((x.toNat : Int) == 128) = false := by rw [beq_eq_false_iff_ne]; have := hz rfl; omega
            go_wp2_with fail
            go_ret3
            exact U3.mk HF.out rfl rfl rfl
          · have h0z : ((k : Int) == 0) = false := by rw [beq_eq_false_iff_ne]; omega
            go_wp2_with fail
            go_ret3
            exact U3.mk HF.out rfl rfl rfl
        · have hbz : ¬ (144115188075855871 : Int) < (n : Int) := by omega
          have HA : Hid (bits .and .u8 (x.toNat : Int) 127 = ((x.toNat % 128 : Nat) : Int)) := and_low x.toNat hxl
          have HO : Hid (bits .or .u64 ((n : Int) * 128) (IntKind.u64.wrap ((x.toNat % 128 : Nat) : Int)) = ((n * 128 + x.toNat % 128 : Nat) : Int)) := by unfold Hid; rw [IntWalk.u64_in _ (by omega)]; exact or_low n _ (by omega) (by omega)
          by_cases hc : x.toNat < 128
          · have hcz : (x.toNat : Int) < 128 := by omega
            have HF : Hid (rdU s.data.toList = (0, n * 128 + x.toNat, k + 1)) := by unfold Hid; rw [HS.out, rdF_last hb hc]
            have h128 : ((x.toNat : Int) == 128) = false := by rw [beq_eq_false_iff_ne]; omega
            clear HS HR hdr hf hg
            by_cases h0 : ((k : Int) == 0) = true
            · go_wp2_with fail
              go_ret3
              refine U3.mk HF.out ?_ ?_ rfl
              · rw [HA.out, HO.out, Nat.mod_eq_of_lt hc]
              · omega
            · have h0 : ((k : Int) == 0) = false := by simpa using h0
              go_wp2_with fail
              go_ret3
              refine U3.mk HF.out ?_ ?_ rfl
              · rw [HA.out, HO.out, Nat.mod_eq_of_lt hc]
              · omega
          · have hcz : ¬ (x.toNat : Int) < 128 := by omega
            have HF : Hid (rdU s.data.toList = rdF (s.data.toList.drop (k + 1)) (n * 128 + x.toNat % 128) (k + 1)) := by unfold Hid; rw [HS.out, rdF_more hb hc]
            have HN : Hid (n * 128 + x.toNat % 128 < 18446744073709551616) := by unfold Hid; omega
            clear HS HR hdr hf hg
            by_cases h0 : k = 0
            · subst h0
              have h128 : ((x.toNat : Int) == 128) = false := by rw [beq_eq_false_iff_ne]; have := hz rfl; omega
              go_wp2_with fail
              exact ⟨⟨0 + 1, n * 128 + x.toNat % 128, by rw [HA.out, HO.out], by go_num, by omega, HN.out, by first | rfl | trivial, .inr ⟨by omega, HF.out⟩⟩, by simp [Lib.intOf]; omega⟩
            · have h0z : ((k : Int) == 0) = false := by rw [beq_eq_false_iff_ne]; omega
              go_wp2_with fail
              exact ⟨⟨k + 1, n * 128 + x.toNat % 128, by rw [HA.out, HO.out], by go_num, by omega, HN.out, by first | rfl | trivial, .inr ⟨by omega, HF.out⟩⟩, by simp [Lib.intOf]; omega⟩
    · have hkz : ¬ (k : Int) < (s.size : Int) := by omega
      have HF : Hid (rdU s.data.toList = (14, 0, 0)) := by
        unfold Hid
        have hd : s.data.toList.drop k = [] := List.drop_of_length_le (by rw [HL.out]; omega)
        rcases HR.out with ⟨h0, _⟩ | ⟨_, h1⟩
        · subst h0
          rw [List.drop_zero] at hd
          rw [hd]
          rfl
        · rw [h1, hd]
          rfl
      clear HR
      go_wp2_with fail
      go_ret3
      exact U3.mk HF.out rfl rfl rfl
end Go.Proofs.YtdmlgheajblcdaaGreat

/- A reader in memory; Err, At, Fail, next, Uint, Int. -/
namespace Go.Proofs.YtdmlgheajblcdaaGreat
open Go.RowKit
set_option linter.unusedVariables false
set_option linter.unusedSimpArgs false
/-- the four cells -/
def pcells (r : Rd) : Array Value := #[.bool true, .string ⟨r.s.toArray⟩, .int .i64 r.at_, .int .i64 r.e]
/-- a reader in memory -/
structure Rm (w : World) (q : Nat) (r : Rd) : Prop where
  blk : w.heap[q]? = some (.cells (pcells r) 155 (0, 0))
  len : r.s.length ≤ 9223372036854775807
  le : r.at_ ≤ r.s.length
/-- all blocks but one -/
def Bt (q : Nat) (w w' : World) : Prop := w.grownBy w' (some q)
theorem Bt.refl (q : Nat) (w : World) : Bt q w w := ⟨rfl, rfl, rfl, Nat.le_refl _, fun _ _ _ => rfl⟩
theorem Bt.trans {q : Nat} {a b c : World} (h : Bt q a b) (k : Bt q b c) : Bt q a c :=
  ⟨k.os.trans h.os, k.tape.trans h.tape, k.output.trans h.output, Nat.le_trans h.size k.size, fun i hi hn => (k.block i (Nat.lt_of_lt_of_le hi h.size) hn).trans (h.block i hi hn)⟩
theorem Bt.drewN {q : Nat} {a w : World} (h : Bt q a w) (n : Nat) : Bt q a (w.drewN n) := ⟨h.os, h.tape, h.output, h.size, h.block⟩
theorem Bt.of_below {q : Nat} {w w' : World} (h : Below w.heap.size w w') : Bt q w w' := ⟨h.os, h.tape, h.output, h.size, fun k hk _ => h.block k hk⟩
theorem Bt.below {q B : Nat} {w w' : World} (h : Bt q w w') (hB : B ≤ q) (hw : B ≤ w.heap.size) : Below B w w' :=
  (Below.refl B w).grown h hw (fun k hk => by rw [← Option.some.inj hk]; exact hB)
theorem Bt.set (q : Nat) (w : World) (k : Nat) (u : Value) : Bt q w (w.setCell ⟨q, k, none⟩ u) :=
  ⟨rfl, rfl, rfl, by simp, fun i _ hn => Below.heap_setCell w _ u i (fun e => hn (by rw [e]))⟩
theorem Bt.other {q p : Nat} {w w' : World} {o : Obj} (h : Bt q w w') (hp : w.heap[p]? = some o) (hn : p ≠ q) : w'.heap[p]? = some o :=
  (h.block p (Array.getElem?_eq_some_iff.1 hp).1 (fun e => hn (Option.some.inj e))).trans hp
section
variable {w w' : World} {q : Nat} {r : Rd}
theorem Rm.lt (h : Rm w q r) : q < w.heap.size := (Array.getElem?_eq_some_iff.1 h.blk).1
theorem Rm.cell (h : Rm w q r) (j : Nat) : w.cell? ⟨q, j, none⟩ = (pcells r)[j]? := cell_of_row w q j _ 155 (0, 0) h.blk
theorem Rm.froz (h : Rm w q r) (j : Nat) : w.frozen? ⟨q, j, none⟩ = false := by
  have := h.blk
  simp [World.frozen?, this]
theorem Rm.same (h : Rm w q r) (hb : w'.heap[q]? = w.heap[q]?) : Rm w' q r := ⟨hb.trans h.blk, h.len, h.le⟩
theorem Rm.drewN (h : Rm w q r) (n : Nat) : Rm (w.drewN n) q r := h.same rfl
theorem Rm.keep (h : Rm w q r) (hb : Below w.heap.size w w') : Rm w' q r := h.same (hb.block q h.lt)
theorem set_blk {p : Nat} {T k : Nat} {cs : Array Value} {fz : Nat × Nat} (hp : w.heap[p]? = some (.cells cs T fz)) (u : Value) : (w.setCell ⟨p, k, none⟩ u).heap[p]? = some (.cells (cs.setIfInBounds k u) T fz) := by
  rw [setCell_eq_setRow w p k cs T fz u hp]
  exact setRow_heap w p cs _ T fz hp
theorem Rm.setAt (h : Rm w q r) (n : Nat) (hn : n ≤ r.s.length) : Rm (w.setCell ⟨q, 2, none⟩ (.int .i64 n)) q { r with at_ := n } := ⟨by rw [set_blk h.blk]; rfl, h.len, hn⟩
theorem Rm.setE (h : Rm w q r) (n : Nat) : Rm (w.setCell ⟨q, 3, none⟩ (.int .i64 n)) q { r with e := n } := ⟨by rw [set_blk h.blk]; rfl, h.len, h.le⟩
end
theorem xerr (q : Nat) (r : Rd) (w : World) (h : Rm w q r) : Calls Tryz.prog 58 #[.pointer (some ⟨q, 0, none⟩)] w (NP .i64 r.e w) := by
  have c0 : w.cell? ⟨q, 0, none⟩ = some (.bool true) := h.cell 0
  have c3 : w.cell? ⟨q, 3, none⟩ = some (.int .i64 r.e) := h.cell 3
  clear h
  go_enter Tryz.func58, Tryz.ntmps58
  go_wp2_with fail
  go_ret
  exact NP.mk rfl
theorem xat (q : Nat) (r : Rd) (w : World) (h : Rm w q r) : Calls Tryz.prog 60 #[.pointer (some ⟨q, 0, none⟩)] w (NP .i64 r.at_ w) := by
  have c2 : w.cell? ⟨q, 2, none⟩ = some (.int .i64 r.at_) := h.cell 2
  clear h
  go_enter Tryz.func60, Tryz.ntmps60
  go_wp2_with fail
  go_ret
  exact NP.mk rfl
/-- a call that answers nothing, and sets the fault -/
def FlP (q : Nat) (r : Rd) (e : Nat) (w : World) (x : Ending) (w' : World) : Prop := x = .returned (.tuple #[]) ∧ w' = if r.e = 0 then w.setCell ⟨q, 3, none⟩ (.int .i64 e) else w
set_option maxHeartbeats 4000000 in
theorem xfail (q : Nat) (r : Rd) (e : Nat) (w : World) (h : Rm w q r) : Calls Tryz.prog 89 #[.pointer (some ⟨q, 0, none⟩), .int .i64 e] w (FlP q r e w) := by
  have HE : Hid (∀ w, Rm w q r → Calls Tryz.prog 58 #[.pointer (some ⟨q, 0, none⟩)] w (NP .i64 r.e w)) := fun w h => xerr q r w h
  have HR : Hid (Rm w q r) := h
  have c3 : w.cell? ⟨q, 3, none⟩ = some (.int .i64 r.e) := h.cell 3
  have f3 := h.froz 3
  clear h
  unfold FlP
  by_cases h0 : r.e = 0
  · have hz : ((r.e : Int) == 0) = true := by rw [h0]; rfl
    rw [if_pos h0]
    go_enter Tryz.func89, Tryz.ntmps89
    go_wp2_with fail
    refine (HE.out _ HR.out).mono ?_
    rintro e w1 ⟨rfl, rfl⟩
    go_wp2_with fail
    go_returns
    exact ⟨rfl, rfl⟩
  · have hz : ((r.e : Int) == 0) = false := by rw [beq_eq_false_iff_ne]; omega
    rw [if_neg h0]
    go_enter Tryz.func89, Tryz.ntmps89
    go_wp2_with fail
    refine (HE.out _ HR.out).mono ?_
    rintro e w1 ⟨rfl, rfl⟩
    go_wp2_with fail
    go_returns
    exact ⟨rfl, rfl⟩
theorem ext_list (s : ByteArray) (a b : Nat) : (s.extract a b).data.toList = (s.data.toList.drop a).take (b - a) := by
  rw [ByteArray.data_extract, Array.toList_extract]
theorem ext_len (s : ByteArray) (a b : Nat) (h : b ≤ s.size) : (s.extract a b).size = b - a := by
  have h1 : (s.extract a b).size = (s.extract a b).data.toList.length := rfl
  rw [h1, ext_list, List.length_take, List.length_drop]
  show min (b - a) (s.size - a) = _
  omega
theorem drop_all (s : ByteArray) (a : Nat) : (s.extract a s.size).data.toList = s.data.toList.drop a := by
  rw [ext_list, List.take_of_length_le]
  rw [List.length_drop]
  exact Nat.le_refl _
/-- the number that the reader is at, and the place behind it -/
def nxt (r : Rd) : Nat × Nat × Nat := if r.e ≠ 0 then (r.e, 0, 0) else ((rdU (r.s.drop r.at_)).1, (rdU (r.s.drop r.at_)).2.1, r.at_ + (rdU (r.s.drop r.at_)).2.2)
theorem nxt_bad {r : Rd} (h : r.e ≠ 0) : nxt r = (r.e, 0, 0) := if_pos h
theorem nxt_ok {r : Rd} (h : ¬ r.e ≠ 0) : nxt r = ((rdU (r.s.drop r.at_)).1, (rdU (r.s.drop r.at_)).2.1, r.at_ + (rdU (r.s.drop r.at_)).2.2) := if_neg h
theorem rdU_small (l : List UInt8) : (rdU l).2.1 < 18446744073709551616 ∧ (rdU l).2.2 ≤ l.length := by
  rcases rdU_err l with h | h | h
  · have := rdU_ok (s := l) (m := (rdU l).2.1) (j := (rdU l).2.2) (by rw [← h])
    exact ⟨this.1, this.2.2.2.2⟩
  · rw [h]; exact ⟨by decide, Nat.zero_le _⟩
  · rw [h]; exact ⟨by decide, Nat.zero_le _⟩
theorem nxt_small {r : Rd} (hl : r.at_ ≤ r.s.length) : (nxt r).2.1 < 18446744073709551616 ∧ (nxt r).2.2 ≤ r.s.length := by
  by_cases h : r.e ≠ 0
  · rw [nxt_bad h]; exact ⟨by show 0 < _; omega, Nat.zero_le _⟩
  · rw [nxt_ok h]
    have := rdU_small (r.s.drop r.at_)
    rw [List.length_drop] at this
    exact ⟨this.1, by show r.at_ + _ ≤ _; omega⟩
theorem drewN_two (w : World) (a b : Nat) : (w.drewN a).drewN b = w.drewN (a + b) := by simp [World.drewN, Nat.add_assoc]
/-- what next hands back -/
def N3 (t : Nat × Nat × Nat) (w : World) (e : Ending) (w' : World) : Prop := e = .returned (.tuple #[.int .u64 t.2.1, .int .i64 t.2.2, .int .i64 t.1]) ∧ ∃ n, w' = w.drewN n
theorem N3.mk {t : Nat × Nat × Nat} {w : World} {x y z : Int} {a b c n : Nat} (h : t = (a, b, c)) (hx : x = b) (hy : y = c) (hz : z = a) : N3 t w (.returned (.tuple #[.int .u64 x, .int .i64 y, .int .i64 z])) (w.drewN n) := by
  subst h hx hy hz
  exact ⟨rfl, n, rfl⟩
theorem N3.mk0 {t : Nat × Nat × Nat} {w : World} {x y z : Int} {a b c : Nat} (h : t = (a, b, c)) (hx : x = b) (hy : y = c) (hz : z = a) : N3 t w (.returned (.tuple #[.int .u64 x, .int .i64 y, .int .i64 z])) w := by
  subst h hx hy hz
  exact ⟨rfl, 0, rfl⟩
set_option maxHeartbeats 4000000 in
theorem xnext (q : Nat) (r : Rd) (w : World) (h : Rm w q r) : Calls Tryz.prog 108 #[.pointer (some ⟨q, 0, none⟩)] w (N3 (nxt r) w) := by
  have HE : Hid (∀ w, Rm w q r → Calls Tryz.prog 58 #[.pointer (some ⟨q, 0, none⟩)] w (NP .i64 r.e w)) := fun w h => xerr q r w h
  have HR : Hid (Rm w q r) := h
  have c1 : w.cell? ⟨q, 1, none⟩ = some (.string ⟨r.s.toArray⟩) := h.cell 1
  have c2 : w.cell? ⟨q, 2, none⟩ = some (.int .i64 r.at_) := h.cell 2
  obtain ⟨S, hS⟩ : ∃ S : ByteArray, S = ⟨r.s.toArray⟩ := ⟨_, rfl⟩
  rw [← hS] at c1
  have hsz : S.size = r.s.length := by rw [hS]; rfl
  have hs : S.size ≤ 9223372036854775807 := by have := h.len; omega
  have ha : r.at_ ≤ S.size := by have := h.le; omega
  have hds : r.s = S.data.toList := by rw [hS]
  by_cases h0 : r.e = 0
  · have hz : ((r.e : Int) != 0) = false := by rw [h0]; rfl
    have HN : Hid (nxt r = ((rdU (S.data.toList.drop r.at_)).1, (rdU (S.data.toList.drop r.at_)).2.1, r.at_ + (rdU (S.data.toList.drop r.at_)).2.2)) := by unfold Hid; rw [nxt_ok (by simpa using h0), hds]
    have HX : Hid (∀ w, Calls Tryz.prog 118 #[.string (S.extract r.at_ S.size)] w fun e w' => e = .returned (.tuple #[.int .u64 (rdU (S.data.toList.drop r.at_)).2.1, .int .i64 (rdU (S.data.toList.drop r.at_)).2.2, .int .i64 (rdU (S.data.toList.drop r.at_)).1]) ∧ w' = w) := fun w => by
      have := xnum (S.extract r.at_ S.size) (by rw [ext_len _ _ _ (Nat.le_refl _)]; omega) w
      rw [drop_all] at this
      exact this.mono fun _ _ h => ⟨h.1, h.2.symm⟩
    have hsm := rdU_small (S.data.toList.drop r.at_)
    have hle : (rdU (S.data.toList.drop r.at_)).2.2 + r.at_ ≤ S.size := by
      have := hsm.2
      rw [List.length_drop] at this
      have h2 : S.data.toList.length = S.size := rfl
      omega
    clear hsm h hS hsz hds
    generalize rdU (S.data.toList.drop r.at_) = t at *
    obtain ⟨t0, t1, t2⟩ := t
    simp only at hle HN
    simp only at HX
    generalize r.at_ = A at *
    go_enter Tryz.func108, Tryz.ntmps108
    go_wp2_with fail
    refine (HE.out _ HR.out).mono ?_
    rintro e w1 ⟨rfl, rfl⟩
    go_wp2_with fail
    go_quiet ((go_at_call 118; refine Calls.quiet_of_same (HX.out _)))
    go_wp2_with fail
    go_quiet (fail)
    go_wp2_with fail
    go_ret3
    rw [drewN_two]
    exact N3.mk HN.out rfl (Int.natCast_add A t2).symm rfl
  · have hz : ((r.e : Int) != 0) = true := by rw [bne_iff_ne]; omega
    have HN : Hid (nxt r = (r.e, 0, 0)) := nxt_bad h0
    clear h hS hsz hds
    go_enter Tryz.func108, Tryz.ntmps108
    go_wp2_with fail
    refine (HE.out _ HR.out).mono ?_
    rintro e w1 ⟨rfl, rfl⟩
    go_wp2_with fail
    go_ret3
    exact N3.mk0 HN.out rfl rfl rfl
/-- what a reader's call hands back: a value, and the reader behind it; all else stands -/
def RP (q : Nat) (v : Value) (r : Rd) (w : World) (e : Ending) (w' : World) : Prop := e = .returned v ∧ Hid (Rm w' q r) ∧ Hid (Bt q w w')
theorem RP.mk {q : Nat} {u v : Value} {r : Rd} {w w' : World} (hv : u = v) (h : Rm w' q r) (hb : Bt q w w') : RP q v r w (.returned u) w' := ⟨by rw [hv], h, hb⟩
theorem rUint_nxt (r : Rd) : rUint r = if (nxt r).1 = 0 then ({ r with at_ := (nxt r).2.2 }, (nxt r).2.1) else (if r.e = 0 then { r with e := (nxt r).1 } else r, 0) := by
  by_cases h : r.e ≠ 0
  · rw [rUint_bad h, nxt_bad h, if_neg h, if_neg h]
  · rw [nxt_ok h]
    unfold rUint
    rw [if_neg h]
    by_cases h1 : (rdU (r.s.drop r.at_)).1 = 0
    · rw [if_pos h1, if_pos h1]
    · rw [if_neg h1, if_neg h1, if_pos (by simpa using h)]
set_option maxHeartbeats 4000000 in
theorem xuint (q : Nat) (r : Rd) (w : World) (h : Rm w q r) : Calls Tryz.prog 88 #[.pointer (some ⟨q, 0, none⟩)] w (RP q (.int .u64 (rUint r).2) (rUint r).1 w) := by
  have HX : Hid (Calls Tryz.prog 108 #[.pointer (some ⟨q, 0, none⟩)] w (N3 (nxt r) w)) := xnext q r w h
  have HF : Hid (∀ (e : Nat) (w1 : World), Rm w1 q r → Calls Tryz.prog 89 #[.pointer (some ⟨q, 0, none⟩), .int .i64 e] w1 (FlP q r e w1)) := fun e w1 h => xfail q r e w1 h
  have hsm := nxt_small h.le
  have HU : Hid (rUint r = if (nxt r).1 = 0 then ({ r with at_ := (nxt r).2.2 }, (nxt r).2.1) else (if r.e = 0 then { r with e := (nxt r).1 } else r, 0)) := rUint_nxt r
  have HR : Hid (Rm w q r) := h
  have hlen := h.len
  clear h
  unfold N3 at HX
  generalize nxt r = t at *
  obtain ⟨t0, t1, t2⟩ := t
  simp only at HX HU hsm
  by_cases h0 : t0 = 0
  · have hz : ((t0 : Int) != 0) = false := by rw [h0]; rfl
    rw [if_pos h0] at HU
    go_enter Tryz.func88, Tryz.ntmps88
    go_wp2_with fail
    refine HX.out.mono ?_
    rintro e w1 ⟨rfl, n, hn⟩
    have HR1 : Hid (Rm w1 q r) := by unfold Hid; rw [hn]; exact HR.out.drewN n
    have HB1 : Hid (Bt q w w1) := by unfold Hid; rw [hn]; exact (Bt.refl q w).drewN n
    have c2 : w1.cell? ⟨q, 2, none⟩ = some (.int .i64 r.at_) := HR1.out.cell 2
    have f2 := HR1.out.froz 2
    clear hn
    go_wp2_with fail
    go_ret
    exact RP.mk (by rw [HU.out]; rfl) (by rw [HU.out]; exact HR1.out.setAt t2 hsm.2) (HB1.out.trans (Bt.set q w1 2 _))
  · have hz : ((t0 : Int) != 0) = true := by rw [bne_iff_ne]; omega
    rw [if_neg h0] at HU
    go_enter Tryz.func88, Tryz.ntmps88
    go_wp2_with fail
    refine HX.out.mono ?_
    rintro e w1 ⟨rfl, n, hn⟩
    have HR1 : Hid (Rm w1 q r) := by unfold Hid; rw [hn]; exact HR.out.drewN n
    have HB1 : Hid (Bt q w w1) := by unfold Hid; rw [hn]; exact (Bt.refl q w).drewN n
    clear hn
    go_wp2_with fail
    refine (HF.out t0 _ HR1.out).mono ?_
    rintro e w2 ⟨rfl, hw2⟩
    have HR2 : Hid (Rm w2 q (rUint r).1 ∧ Bt q w w2) := by
      unfold Hid
      rw [HU.out]
      by_cases he : r.e = 0
      · rw [if_pos he] at hw2
        subst hw2
        simp only [if_pos he]
        exact ⟨HR1.out.setE t0, HB1.out.trans (Bt.set q w1 3 _)⟩
      · rw [if_neg he] at hw2
        subst hw2
        simp only [if_neg he]
        exact ⟨HR1.out, HB1.out⟩
    clear hw2
    go_wp2_with fail
    go_ret
    exact RP.mk (by rw [HU.out]; rfl) HR2.out.1 HR2.out.2
end Go.Proofs.YtdmlgheajblcdaaGreat
