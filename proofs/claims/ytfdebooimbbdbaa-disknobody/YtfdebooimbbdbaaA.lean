/- A disk as numbers: four files (all bytes, how many are safe), a limit, whether the power is gone; each call as a function on it, and what follows of them. -/
import Derived.Test.YtfdebooimbbdbaaRows
import Derived.WalkKit
namespace Go.Proofs.Ytfdebooimbbdbaa
open Go.RowKit
set_option linter.unusedVariables false
set_option linter.unusedSimpArgs false
/-- files, how many bytes of each are safe, the limit, whether the power is gone -/
structure St where
  f : Nat → ByteArray
  s : Nat → Nat
  lim : Int
  gone : Bool
def put {α : Type} (g : Nat → α) (i : Nat) (x : α) : Nat → α := fun j => if j = i then x else g j
theorem put_eq {α : Type} (g : Nat → α) (i : Nat) (x : α) : put g i x i = x := by simp [put]
theorem put_ne {α : Type} (g : Nat → α) (i j : Nat) (x : α) (h : j ≠ i) : put g i x j = g j := by simp [put, h]
/-- which error a file's number has -/
def chk (S : St) (i : Int) : Int := if S.gone = true then 13 else if i < 0 ∨ 3 < i then 6 else 0
/-- a change is taken off the limit -/
def spd (S : St) : St × Int := if S.lim = 0 then ({ S with gone := true }, 13) else if 0 < S.lim then ({ S with lim := S.lim - 1 }, 0) else (S, 0)
/-- a change's error, and the disk behind it, where e is found wrong ahead of it and g is what it does -/
def chg (S : St) (e : Int) (g : St → St) : St × Int := if e ≠ 0 then (S, e) else if (spd S).2 ≠ 0 then spd S else (g (spd S).1, 0)
def full (S : St) (i : Int) (n : Nat) : Int := if chk S i ≠ 0 then chk S i else if 1048576 < (S.f i.toNat).size + n then 18 else 0
def argE (S : St) (i n : Int) : Int := if chk S i ≠ 0 then chk S i else if n < 0 ∨ ((S.f i.toNat).size : Int) < n then 1 else 0
def app (S : St) (i : Int) (t : ByteArray) : St × Int := chg S (full S i t.size) fun D => { D with f := put D.f i.toNat (D.f i.toNat ++ t) }
def syn (S : St) (i : Int) : St × Int := chg S (chk S i) fun D => { D with s := put D.s i.toNat (D.f i.toNat).size }
def ctf (S : St) (i n : Int) : St × Int := chg S (argE S i n) fun D => { D with f := put D.f i.toNat ((D.f i.toNat).extract 0 n.toNat), s := put D.s i.toNat (min (D.s i.toNat) n.toNat) }
/-- how many bytes a crash leaves of n, s of them safe, where k are to be kept -/
def lft (n s : Nat) (k : Int) : Nat := s + min k.toNat (n - s)
def crs (S : St) (k : Nat → Int) : St := { f := fun j => (S.f j).extract 0 (lft (S.f j).size (S.s j) (k j)), s := fun j => lft (S.f j).size (S.s j) (k j), lim := -1, gone := false }
def new : St := { f := fun _ => ByteArray.empty, s := fun _ => 0, lim := -1, gone := false }
/-- what holds of every disk -/
structure Ok (S : St) : Prop where
  safe : ∀ j, S.s j ≤ (S.f j).size
  small : ∀ j, (S.f j).size ≤ 1048576
  lo : -9223372036854775808 ≤ S.lim
  hi : S.lim ≤ 9223372036854775807
theorem size_extract0 (b : ByteArray) (n : Nat) (h : n ≤ b.size) : (b.extract 0 n).size = n := by simp [ByteArray.size_extract]; omega
theorem lft_le (n s : Nat) (k : Int) (h : s ≤ n) : s ≤ lft n s k ∧ lft n s k ≤ n := by unfold lft; omega
theorem new_ok : Ok new := ⟨fun _ => Nat.le_refl _, fun _ => by show (0 : Nat) ≤ _; omega, by show _ ≤ (-1 : Int); omega, by show (-1 : Int) ≤ _; omega⟩
theorem crs_ok {S : St} (h : Ok S) (k : Nat → Int) : Ok (crs S k) := by
  have hl := fun j => lft_le (S.f j).size (S.s j) (k j) (h.safe j)
  refine ⟨fun j => ?_, fun j => ?_, by show _ ≤ (-1 : Int); omega, by show (-1 : Int) ≤ _; omega⟩
  · show lft _ _ _ ≤ ((S.f j).extract 0 _).size
    rw [size_extract0 _ _ (hl j).2]; exact Nat.le_refl _
  · show ((S.f j).extract 0 _).size ≤ _
    rw [size_extract0 _ _ (hl j).2]; exact Nat.le_trans (hl j).2 (h.small j)
theorem spd_cases (S : St) : (S.lim = 0 ∧ spd S = ({ S with gone := true }, 13)) ∨ (0 < S.lim ∧ spd S = ({ S with lim := S.lim - 1 }, 0)) ∨ (S.lim < 0 ∧ spd S = (S, 0)) := by
  unfold spd
  rcases Int.lt_trichotomy S.lim 0 with h | h | h
  · exact .inr (.inr ⟨h, by rw [if_neg (by omega), if_neg (by omega)]⟩)
  · exact .inl ⟨h, by rw [if_pos h]⟩
  · exact .inr (.inl ⟨h, by rw [if_neg (by omega), if_pos h]⟩)
theorem spd_f (S : St) : (spd S).1.f = S.f ∧ (spd S).1.s = S.s := by
  rcases spd_cases S with ⟨_, h⟩ | ⟨_, h⟩ | ⟨_, h⟩ <;> rw [h] <;> exact ⟨rfl, rfl⟩
theorem spd_ok {S : St} (h : Ok S) : Ok (spd S).1 := by
  have h3 := h.lo
  have h4 := h.hi
  rcases spd_cases S with ⟨_, e⟩ | ⟨_, e⟩ | ⟨_, e⟩ <;> rw [e]
  · exact ⟨h.safe, h.small, h3, h4⟩
  · exact ⟨h.safe, h.small, by show _ ≤ S.lim - 1; omega, by show S.lim - 1 ≤ _; omega⟩
  · exact h
theorem chg_ok {S : St} (h : Ok S) (e : Int) (g : St → St) (hg : e = 0 → Ok (spd S).1 → Ok (g (spd S).1)) : Ok (chg S e g).1 := by
  unfold chg
  by_cases c : e ≠ 0
  · rw [if_pos c]; exact h
  · rw [if_neg c]
    by_cases d : (spd S).2 ≠ 0
    · rw [if_pos d]; exact spd_ok h
    · rw [if_neg d]; exact hg (by omega) (spd_ok h)
theorem full_zero {S : St} {i : Int} {n : Nat} (h : full S i n = 0) : chk S i = 0 ∧ (S.f i.toNat).size + n ≤ 1048576 := by
  unfold full at h
  by_cases c : chk S i ≠ 0
  · rw [if_pos c] at h; omega
  · rw [if_neg c] at h
    by_cases d : 1048576 < (S.f i.toNat).size + n
    · rw [if_pos d] at h; omega
    · omega
theorem argE_zero {S : St} {i n : Int} (h : argE S i n = 0) : chk S i = 0 ∧ 0 ≤ n ∧ n ≤ (S.f i.toNat).size := by
  unfold argE at h
  by_cases c : chk S i ≠ 0
  · rw [if_pos c] at h; omega
  · rw [if_neg c] at h
    by_cases d : n < 0 ∨ ((S.f i.toNat).size : Int) < n
    · rw [if_pos d] at h; omega
    · omega
theorem app_ok {S : St} (h : Ok S) (i : Int) (t : ByteArray) : Ok (app S i t).1 := by
  refine chg_ok h _ _ fun e k => ?_
  have hf := (full_zero e).2
  refine ⟨fun j => ?_, fun j => ?_, k.lo, k.hi⟩
  · show (spd S).1.s j ≤ (put (α := ByteArray) _ _ _ j).size
    have := k.safe j
    by_cases c : j = i.toNat
    · subst c; rw [put_eq, ByteArray.size_append]; omega
    · rw [put_ne _ _ _ _ c]; exact this
  · show (put (α := ByteArray) _ _ _ j).size ≤ _
    by_cases c : j = i.toNat
    · subst c; rw [put_eq, ByteArray.size_append, (spd_f S).1]; omega
    · rw [put_ne _ _ _ _ c]; exact k.small j
theorem syn_ok {S : St} (h : Ok S) (i : Int) : Ok (syn S i).1 := by
  refine chg_ok h _ _ fun e k => ?_
  refine ⟨fun j => ?_, k.small, k.lo, k.hi⟩
  show put _ _ _ j ≤ ((spd S).1.f j).size
  by_cases c : j = i.toNat
  · subst c; rw [put_eq]; exact Nat.le_refl _
  · rw [put_ne _ _ _ _ c]; exact k.safe j
theorem ctf_ok {S : St} (h : Ok S) (i n : Int) : Ok (ctf S i n).1 := by
  refine chg_ok h _ _ fun e k => ?_
  have hf := (argE_zero e).2
  have hz : ((spd S).1.f i.toNat).size = (S.f i.toNat).size := by rw [(spd_f S).1]
  have hx := size_extract0 ((spd S).1.f i.toNat) n.toNat (by omega)
  refine ⟨fun j => ?_, fun j => ?_, k.lo, k.hi⟩
  · show put _ _ _ j ≤ (put (α := ByteArray) _ _ _ j).size
    by_cases c : j = i.toNat
    · subst c; rw [put_eq, put_eq, hx]; omega
    · rw [put_ne _ _ _ _ c, put_ne _ _ _ _ c]; exact k.safe j
  · show (put (α := ByteArray) _ _ _ j).size ≤ _
    by_cases c : j = i.toNat
    · subst c; rw [put_eq, hx]; have := h.small i.toNat; omega
    · rw [put_ne _ _ _ _ c]; exact k.small j
theorem lim_ok {S : St} (h : Ok S) (n : Int) (h1 : -9223372036854775808 ≤ n) (h2 : n ≤ 9223372036854775807) : Ok { S with lim := n } := ⟨h.safe, h.small, h1, h2⟩
end Go.Proofs.Ytfdebooimbbdbaa
