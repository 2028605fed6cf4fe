/- CRC-32 as numbers: one bit, one byte, a text; it is linear, and some turned bits among 32 neighbouring ones are told. -/
import Derived.Test.YtpddddnjmklfdaaRows
import Derived.WalkKit
namespace Go.Proofs.Ytpddddnjmklfdaa
open Go.RowKit
set_option linter.unusedVariables false
set_option linter.unusedSimpArgs false
/-- one bit goes out -/
def st (r : Nat) : Nat := if r % 2 = 1 then (r / 2) ^^^ 3988292384 else r / 2
def stn : Nat → Nat → Nat
  | 0, r => r
  | n + 1, r => stn n (st r)
theorem st_zero : st 0 = 0 := rfl
theorem st_lt {r : Nat} (h : r < 4294967296) : st r < 4294967296 := by
  unfold st
  split
  · have : r / 2 ^^^ 3988292384 < 2 ^ 32 := Nat.xor_lt_two_pow (by omega) (by omega)
    omega
  · omega
theorem stn_lt (n : Nat) : ∀ {r : Nat}, r < 4294967296 → stn n r < 4294967296 := by
  induction n with
  | zero => intro r h; exact h
  | succ n ih => intro r h; exact ih (st_lt h)
theorem xor4 (a b c d : Nat) : (a ^^^ b) ^^^ (c ^^^ d) = (a ^^^ c) ^^^ (b ^^^ d) := by
  rw [Nat.xor_assoc, Nat.xor_assoc, ← Nat.xor_assoc b, Nat.xor_comm b c, Nat.xor_assoc c]
theorem xor_mod2 (a b : Nat) : (a ^^^ b) % 2 = (a + b) % 2 := by
  have h := @Nat.xor_mod_two_eq_one a b
  have h1 : (a ^^^ b) % 2 = 0 ∨ (a ^^^ b) % 2 = 1 := by omega
  omega
theorem st_xor (a b : Nat) : st (a ^^^ b) = st a ^^^ st b := by
  have hm : (a ^^^ b) % 2 = (a + b) % 2 := xor_mod2 _ _
  have hd : (a ^^^ b) / 2 = a / 2 ^^^ b / 2 := Nat.xor_div_two
  unfold st
  rw [hm, hd]
  have ha : a % 2 = 0 ∨ a % 2 = 1 := by omega
  have hb : b % 2 = 0 ∨ b % 2 = 1 := by omega
  rcases ha with ha | ha <;> rcases hb with hb | hb
  · rw [if_neg (by omega), if_neg (by omega), if_neg (by omega)]
  · rw [if_pos (by omega), if_neg (by omega), if_pos (by omega), Nat.xor_assoc]
  · rw [if_pos (by omega), if_pos (by omega), if_neg (by omega), Nat.xor_assoc, Nat.xor_assoc, Nat.xor_comm (b / 2)]
  · rw [if_neg (by omega), if_pos (by omega), if_pos (by omega), xor4, Nat.xor_self, Nat.xor_zero]
theorem stn_xor (n : Nat) : ∀ a b, stn n (a ^^^ b) = stn n a ^^^ stn n b := by
  induction n with
  | zero => intro a b; rfl
  | succ n ih => intro a b; show stn n (st (a ^^^ b)) = _; rw [st_xor, ih]; rfl
theorem stn_zero (n : Nat) : stn n 0 = 0 := by
  induction n with
  | zero => rfl
  | succ n ih => exact ih
theorem stn_add (m n r : Nat) : stn (m + n) r = stn n (stn m r) := by
  induction m generalizing r with
  | zero => rw [Nat.zero_add]; rfl
  | succ m ih => rw [Nat.succ_add]; exact ih (st r)
/-- nothing else comes to nothing -/
theorem st_ne {r : Nat} (h : r < 4294967296) (h0 : r ≠ 0) : st r ≠ 0 := by
  unfold st
  split
  · intro e
    have : r / 2 = 3988292384 := by
      have := congrArg (· ^^^ 3988292384) e
      simpa [Nat.xor_assoc] using this
    omega
  · omega
theorem stn_ne (n : Nat) : ∀ {r : Nat}, r < 4294967296 → r ≠ 0 → stn n r ≠ 0 := by
  induction n with
  | zero => intro r _ h0; exact h0
  | succ n ih => intro r h h0; exact ih (st_lt h) (st_ne h h0)
/-- bits, the first one the lowest -/
def bval : List Bool → Nat
  | [] => 0
  | b :: l => b.toNat + 2 * bval l
def gb : List Bool → Nat → Nat
  | [], r => r
  | b :: l, r => gb l (st (r ^^^ b.toNat))
theorem bval_lt (l : List Bool) : bval l < 2 ^ l.length := by
  induction l with
  | nil => decide
  | cons b l ih =>
    have hb : b.toNat ≤ 1 := Bool.toNat_le b
    rw [bval, List.length_cons, Nat.pow_succ]
    omega
theorem xor_bit (b : Bool) (v : Nat) : b.toNat + 2 * v = b.toNat ^^^ (2 * v) := by
  have hb : b.toNat ≤ 1 := Bool.toNat_le b
  have h1 : (b.toNat ^^^ (2 * v)) % 2 = (b.toNat + 2 * v) % 2 := xor_mod2 _ _
  have h2 : (b.toNat ^^^ (2 * v)) / 2 = b.toNat / 2 ^^^ (2 * v) / 2 := Nat.xor_div_two
  have h3 : b.toNat / 2 = 0 := by omega
  rw [h3, Nat.zero_xor] at h2
  omega
theorem st_two (v : Nat) : st (2 * v) = v := by
  unfold st
  rw [if_neg (by omega)]
  omega
theorem gb_val (l : List Bool) : ∀ r, gb l r = stn l.length (r ^^^ bval l) := by
  induction l with
  | nil => intro r; show r = r ^^^ 0; rw [Nat.xor_zero]
  | cons b l ih =>
    intro r
    rw [gb, ih, bval, xor_bit, ← Nat.xor_assoc]
    show _ = stn l.length (st (r ^^^ b.toNat ^^^ 2 * bval l))
    rw [st_xor (r ^^^ b.toNat), st_two]
theorem gb_append (l m : List Bool) : ∀ r, gb (l ++ m) r = gb m (gb l r) := by
  induction l with
  | nil => intro r; rfl
  | cons b l ih => intro r; exact ih _
theorem bval_zeros (n : Nat) : bval (List.replicate n false) = 0 := by
  induction n with
  | zero => rfl
  | succ n ih => rw [List.replicate_succ, bval, ih]; rfl
theorem gb_zeros (n r : Nat) : gb (List.replicate n false) r = stn n r := by rw [gb_val, bval_zeros, Nat.xor_zero, List.length_replicate]
/-- some bits among at most 32 neighbouring ones -/
theorem burst (m : Nat) (e : List Bool) (n : Nat) (he : e.length ≤ 32) (h0 : bval e ≠ 0) : gb (List.replicate m false ++ e ++ List.replicate n false) 0 ≠ 0 := by
  rw [gb_append, gb_append, gb_zeros, gb_zeros, stn_zero, gb_val, Nat.zero_xor]
  have hl : bval e < 4294967296 := Nat.lt_of_lt_of_le (bval_lt e) (by have : 2 ^ e.length ≤ 2 ^ 32 := Nat.pow_le_pow_right (by omega) he; omega)
  exact stn_ne n (stn_lt _ hl) (stn_ne _ hl h0)
/-- a byte's bits -/
def bits8 (b : Nat) : List Bool := [b % 2 == 1, b / 2 % 2 == 1, b / 4 % 2 == 1, b / 8 % 2 == 1, b / 16 % 2 == 1, b / 32 % 2 == 1, b / 64 % 2 == 1, b / 128 % 2 == 1]
theorem toNat_bit (x : Nat) : (x % 2 == 1).toNat = x % 2 := by
  have : x % 2 = 0 ∨ x % 2 = 1 := by omega
  rcases this with h | h <;> rw [h] <;> rfl
theorem bval_bits8 (b : Nat) (h : b < 256) : bval (bits8 b) = b := by
  simp only [bits8, bval, toNat_bit]
  omega
theorem bval_byte (b : Nat) (l : List Bool) (h : b < 256) : bval (bits8 b ++ l) = b + 256 * bval l := by
  simp only [bits8, List.cons_append, List.nil_append, bval, toNat_bit]
  omega
/-- a byte, and a text -/
def by8 (r b : Nat) : Nat := stn 8 (r ^^^ b)
def crc (l : List Nat) (r : Nat) : Nat := l.foldl by8 r
def bitsAll (l : List Nat) : List Bool := l.flatMap bits8
theorem crc_bits (l : List Nat) (h : ∀ b ∈ l, b < 256) : ∀ r, crc l r = gb (bitsAll l) r := by
  induction l with
  | nil => intro r; rfl
  | cons b l ih =>
    intro r
    have h1 := ih (fun x hx => h x (List.mem_cons_of_mem _ hx))
    show crc l (by8 r b) = gb (bits8 b ++ bitsAll l) r
    rw [gb_append, gb_val (bits8 b), bval_bits8 b (h b (List.mem_cons_self ..)), h1]
    rfl
theorem crc_lt (l : List Nat) (h : ∀ b ∈ l, b < 256) : ∀ {r : Nat}, r < 4294967296 → crc l r < 4294967296 := by
  induction l with
  | nil => intro r hr; exact hr
  | cons b l ih =>
    intro r hr
    refine ih (fun x hx => h x (List.mem_cons_of_mem _ hx)) (stn_lt 8 ?_)
    have hb := h b (List.mem_cons_self ..)
    have : r ^^^ b < 2 ^ 32 := Nat.xor_lt_two_pow (by omega) (by omega)
    omega
/-- it is linear -/
theorem crc_xor (l m : List Nat) (h : l.length = m.length) : ∀ r s, crc (List.zipWith (· ^^^ ·) l m) (r ^^^ s) = crc l r ^^^ crc m s := by
  induction l generalizing m with
  | nil =>
    intro r s
    cases m with
    | nil => rfl
    | cons => cases h
  | cons a l ih =>
    intro r s
    cases m with
    | nil => cases h
    | cons b m =>
      show crc (List.zipWith (· ^^^ ·) l m) (by8 (r ^^^ s) (a ^^^ b)) = crc l (by8 r a) ^^^ crc m (by8 s b)
      rw [← ih m (by simpa using h)]
      unfold by8
      rw [← stn_xor, xor4]
/-- four bytes, the lowest first, as a number -/
theorem crc_four (a b c d r : Nat) (ha : a < 256) (hb : b < 256) (hc : c < 256) (hd : d < 256) : crc [a, b, c, d] r = stn 32 (r ^^^ (a + 256 * b + 65536 * c + 16777216 * d)) := by
  rw [crc_bits _ (by intro x hx; simp at hx; omega), gb_val]
  have hl : (bitsAll [a, b, c, d]).length = 32 := rfl
  have hb' : bitsAll [a, b, c, d] = bits8 a ++ (bits8 b ++ (bits8 c ++ (bits8 d ++ []))) := rfl
  have hn : bval [] = 0 := rfl
  have hv : bval (bitsAll [a, b, c, d]) = a + 256 * b + 65536 * c + 16777216 * d := by
    rw [hb', bval_byte _ _ ha, bval_byte _ _ hb, bval_byte _ _ hc, bval_byte _ _ hd, hn]
    omega
  rw [hv, hl]
/-- a record and its sum, some among 32 neighbouring bits of which are turned, don't fit -/
theorem told (l d1 : List Nat) (hlen : l.length = d1.length) (hd : ∀ x ∈ d1, x < 256) (a b c d : Nat) (ha : a < 256) (hb : b < 256) (hc : c < 256) (hdd : d < 256) (m n : Nat) (e : List Bool) (he : e.length ≤ 32) (h0 : bval e ≠ 0)
    (hbits : bitsAll (d1 ++ [a, b, c, d]) = List.replicate m false ++ e ++ List.replicate n false) (r : Nat) :
    crc (List.zipWith (· ^^^ ·) l d1) r ≠ crc l r ^^^ (a + 256 * b + 65536 * c + 16777216 * d) := by
  intro h
  have h1 : crc (List.zipWith (· ^^^ ·) l d1) (r ^^^ 0) = crc l r ^^^ crc d1 0 := crc_xor l d1 hlen r 0
  rw [Nat.xor_zero] at h1
  rw [h1] at h
  generalize hD : a + 256 * b + 65536 * c + 16777216 * d = D at h
  have h2 : crc d1 0 = D := by
    have := congrArg (crc l r ^^^ ·) h
    simpa [← Nat.xor_assoc] using this
  have hall : ∀ x ∈ d1 ++ [a, b, c, d], x < 256 := by
    intro x hx
    rcases List.mem_append.1 hx with q | q
    · exact hd x q
    · simp at q; omega
  have h3 : crc (d1 ++ [a, b, c, d]) 0 = 0 := by
    have h4 : crc (d1 ++ [a, b, c, d]) 0 = crc [a, b, c, d] (crc d1 0) := List.foldl_append ..
    rw [h4, crc_four a b c d _ ha hb hc hdd, hD, h2, Nat.xor_self, stn_zero]
  rw [crc_bits _ hall, hbits] at h3
  exact burst m e n he h0 h3
end Go.Proofs.Ytpddddnjmklfdaa
