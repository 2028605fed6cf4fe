/- CRC-32 as numbers: one bit, one byte, a text. -/
import Derived.Test.YteiilifljfagdaaRows
import Derived.WalkKit
namespace Go.Proofs.Yteiilifljfagdaa
open Go.RowKit
set_option linter.unusedVariables false
set_option linter.unusedSimpArgs false
/-- one bit goes out -/
def st (r : Nat) : Nat := if r % 2 = 1 then (r / 2) ^^^ 3988292384 else r / 2
def stn : Nat → Nat → Nat
  | 0, r => r
  | n + 1, r => stn n (st r)
theorem st_zero : st 0 = 0 := rfl
theorem st_lt {r : Nat} (h : r < 4294967296) : st r < 4294967296 := by
  unfold st
  split
  · have : r / 2 ^^^ 3988292384 < 2 ^ 32 := Nat.xor_lt_two_pow (by omega) (by omega)
    omega
  · omega
theorem stn_lt (n : Nat) : ∀ {r : Nat}, r < 4294967296 → stn n r < 4294967296 := by
  induction n with
  | zero => intro r h; exact h
  | succ n ih => intro r h; exact ih (st_lt h)
theorem xor4 (a b c d : Nat) : (a ^^^ b) ^^^ (c ^^^ d) = (a ^^^ c) ^^^ (b ^^^ d) := by
  rw [Nat.xor_assoc, Nat.xor_assoc, ← Nat.xor_assoc b, Nat.xor_comm b c, Nat.xor_assoc c]
theorem xor_mod2 (a b : Nat) : (a ^^^ b) % 2 = (a + b) % 2 := by
  have h := @Nat.xor_mod_two_eq_one a b
  have h1 : (a ^^^ b) % 2 = 0 ∨ (a ^^^ b) % 2 = 1 := by omega
  omega
theorem st_xor (a b : Nat) : st (a ^^^ b) = st a ^^^ st b := by
  have hm : (a ^^^ b) % 2 = (a + b) % 2 := xor_mod2 _ _
  have hd : (a ^^^ b) / 2 = a / 2 ^^^ b / 2 := Nat.xor_div_two
  unfold st
  rw [hm, hd]
  have ha : a % 2 = 0 ∨ a % 2 = 1 := by omega
  have hb : b % 2 = 0 ∨ b % 2 = 1 := by omega
  rcases ha with ha | ha <;> rcases hb with hb | hb
  · rw [if_neg (by omega), if_neg (by omega), if_neg (by omega)]
  · rw [if_pos (by omega), if_neg (by omega), if_pos (by omega), Nat.xor_assoc]
  · rw [if_pos (by omega), if_pos (by omega), if_neg (by omega), Nat.xor_assoc, Nat.xor_assoc, Nat.xor_comm (b / 2)]
  · rw [if_neg (by omega), if_pos (by omega), if_pos (by omega), xor4, Nat.xor_self, Nat.xor_zero]
theorem stn_xor (n : Nat) : ∀ a b, stn n (a ^^^ b) = stn n a ^^^ stn n b := by
  induction n with
  | zero => intro a b; rfl
  | succ n ih => intro a b; show stn n (st (a ^^^ b)) = _; rw [st_xor, ih]; rfl
theorem stn_zero (n : Nat) : stn n 0 = 0 := by
  induction n with
  | zero => rfl
  | succ n ih => exact ih
theorem stn_add (m n r : Nat) : stn (m + n) r = stn n (stn m r) := by
  induction m generalizing r with
  | zero => rw [Nat.zero_add]; rfl
  | succ m ih => rw [Nat.succ_add]; exact ih (st r)
/-- nothing else comes to nothing -/
theorem st_ne {r : Nat} (h : r < 4294967296) (h0 : r ≠ 0) : st r ≠ 0 := by
  unfold st
  split
  · intro e
    have : r / 2 = 3988292384 := by
      have := congrArg (· ^^^ 3988292384) e
      simpa [Nat.xor_assoc] using this
    omega
  · omega
theorem stn_ne (n : Nat) : ∀ {r : Nat}, r < 4294967296 → r ≠ 0 → stn n r ≠ 0 := by
  induction n with
  | zero => intro r _ h0; exact h0
  | succ n ih => intro r h h0; exact ih (st_lt h) (st_ne h h0)
/-- bits, the first one the lowest -/
def bval : List Bool → Nat
  | [] => 0
  | b :: l => b.toNat + 2 * bval l
def gb : List Bool → Nat → Nat
  | [], r => r
  | b :: l, r => gb l (st (r ^^^ b.toNat))
theorem bval_lt (l : List Bool) : bval l < 2 ^ l.length := by
  induction l with
  | nil => decide
  | cons b l ih =>
    have hb : b.toNat ≤ 1 := Bool.toNat_le b
    rw [bval, List.length_cons, Nat.pow_succ]
    omega
theorem xor_bit (b : Bool) (v : Nat) : b.toNat + 2 * v = b.toNat ^^^ (2 * v) := by
  have hb : b.toNat ≤ 1 := Bool.toNat_le b
  have h1 : (b.toNat ^^^ (2 * v)) % 2 = (b.toNat + 2 * v) % 2 := xor_mod2 _ _
  have h2 : (b.toNat ^^^ (2 * v)) / 2 = b.toNat / 2 ^^^ (2 * v) / 2 := Nat.xor_div_two
  have h3 : b.toNat / 2 = 0 := by omega
  rw [h3, Nat.zero_xor] at h2
  omega
theorem st_two (v : Nat) : st (2 * v) = v := by
  unfold st
  rw [if_neg (by omega)]
  omega
theorem gb_val (l : List Bool) : ∀ r, gb l r = stn l.length (r ^^^ bval l) := by
  induction l with
  | nil => intro r; show r = r ^^^ 0; rw [Nat.xor_zero]
  | cons b l ih =>
    intro r
    rw [gb, ih, bval, xor_bit, ← Nat.xor_assoc]
    show _ = stn l.length (st (r ^^^ b.toNat ^^^ 2 * bval l))
    rw [st_xor (r ^^^ b.toNat), st_two]
theorem gb_append (l m : List Bool) : ∀ r, gb (l ++ m) r = gb m (gb l r) := by
  induction l with
  | nil => intro r; rfl
  | cons b l ih => intro r; exact ih _
theorem bval_zeros (n : Nat) : bval (List.replicate n false) = 0 := by
  induction n with
  | zero => rfl
  | succ n ih => rw [List.replicate_succ, bval, ih]; rfl
theorem gb_zeros (n r : Nat) : gb (List.replicate n false) r = stn n r := by rw [gb_val, bval_zeros, Nat.xor_zero, List.length_replicate]
/-- some bits among at most 32 neighbouring ones -/
theorem burst (m : Nat) (e : List Bool) (n : Nat) (he : e.length ≤ 32) (h0 : bval e ≠ 0) : gb (List.replicate m false ++ e ++ List.replicate n false) 0 ≠ 0 := by
  rw [gb_append, gb_append, gb_zeros, gb_zeros, stn_zero, gb_val, Nat.zero_xor]
  have hl : bval e < 4294967296 := Nat.lt_of_lt_of_le (bval_lt e) (by have : 2 ^ e.length ≤ 2 ^ 32 := Nat.pow_le_pow_right (by omega) he; omega)
  exact stn_ne n (stn_lt _ hl) (stn_ne _ hl h0)
/-- a byte's bits -/
def bits8 (b : Nat) : List Bool := [b % 2 == 1, b / 2 % 2 == 1, b / 4 % 2 == 1, b / 8 % 2 == 1, b / 16 % 2 == 1, b / 32 % 2 == 1, b / 64 % 2 == 1, b / 128 % 2 == 1]
theorem toNat_bit (x : Nat) : (x % 2 == 1).toNat = x % 2 := by
  have : x % 2 = 0 ∨ x % 2 = 1 := by omega
  rcases this with h | h <;> rw [h] <;> rfl
theorem bval_bits8 (b : Nat) (h : b < 256) : bval (bits8 b) = b := by
  simp only [bits8, bval, toNat_bit]
  omega
theorem bval_byte (b : Nat) (l : List Bool) (h : b < 256) : bval (bits8 b ++ l) = b + 256 * bval l := by
  simp only [bits8, List.cons_append, List.nil_append, bval, toNat_bit]
  omega
/-- a byte, and a text -/
def by8 (r b : Nat) : Nat := stn 8 (r ^^^ b)
def crc (l : List Nat) (r : Nat) : Nat := l.foldl by8 r
def bitsAll (l : List Nat) : List Bool := l.flatMap bits8
theorem crc_bits (l : List Nat) (h : ∀ b ∈ l, b < 256) : ∀ r, crc l r = gb (bitsAll l) r := by
  induction l with
  | nil => intro r; rfl
  | cons b l ih =>
    intro r
    have h1 := ih (fun x hx => h x (List.mem_cons_of_mem _ hx))
    show crc l (by8 r b) = gb (bits8 b ++ bitsAll l) r
    rw [gb_append, gb_val (bits8 b), bval_bits8 b (h b (List.mem_cons_self ..)), h1]
    rfl
theorem crc_lt (l : List Nat) (h : ∀ b ∈ l, b < 256) : ∀ {r : Nat}, r < 4294967296 → crc l r < 4294967296 := by
  induction l with
  | nil => intro r hr; exact hr
  | cons b l ih =>
    intro r hr
    refine ih (fun x hx => h x (List.mem_cons_of_mem _ hx)) (stn_lt 8 ?_)
    have hb := h b (List.mem_cons_self ..)
    have : r ^^^ b < 2 ^ 32 := Nat.xor_lt_two_pow (by omega) (by omega)
    omega
/-- it is linear -/
theorem crc_xor (l m : List Nat) (h : l.length = m.length) : ∀ r s, crc (List.zipWith (· ^^^ ·) l m) (r ^^^ s) = crc l r ^^^ crc m s := by
  induction l generalizing m with
  | nil =>
    intro r s
    cases m with
    | nil => rfl
    | cons => cases h
  | cons a l ih =>
    intro r s
    cases m with
    | nil => cases h
    | cons b m =>
      show crc (List.zipWith (· ^^^ ·) l m) (by8 (r ^^^ s) (a ^^^ b)) = crc l (by8 r a) ^^^ crc m (by8 s b)
      rw [← ih m (by simpa using h)]
      unfold by8
      rw [← stn_xor, xor4]
/-- four bytes, the lowest first, as a number -/
theorem crc_four (a b c d r : Nat) (ha : a < 256) (hb : b < 256) (hc : c < 256) (hd : d < 256) : crc [a, b, c, d] r = stn 32 (r ^^^ (a + 256 * b + 65536 * c + 16777216 * d)) := by
  rw [crc_bits _ (by intro x hx; simp at hx; omega), gb_val]
  have hl : (bitsAll [a, b, c, d]).length = 32 := rfl
  have hb' : bitsAll [a, b, c, d] = bits8 a ++ (bits8 b ++ (bits8 c ++ (bits8 d ++ []))) := rfl
  have hn : bval [] = 0 := rfl
  have hv : bval (bitsAll [a, b, c, d]) = a + 256 * b + 65536 * c + 16777216 * d := by
    rw [hb', bval_byte _ _ ha, bval_byte _ _ hb, bval_byte _ _ hc, bval_byte _ _ hd, hn]
    omega
  rw [hv, hl]
/- Records as numbers: four bytes, laying, the next one, all of them. -/
def nums (l : List UInt8) : List Nat := l.map (·.toNat)
theorem nums_lt (l : List UInt8) : ∀ b ∈ nums l, b < 256 := by
  intro b hb
  simp only [nums, List.mem_map] at hb
  obtain ⟨x, _, rfl⟩ := hb
  exact x.toNat_lt
def crcN (l : List UInt8) : Nat := crc (nums l) 4294967295
theorem crcN_lt (l : List UInt8) : crcN l < 4294967296 := crc_lt _ (nums_lt l) (by omega)
def sumN (l : List UInt8) : Nat := 4294967295 - crcN l
theorem sumN_lt (l : List UInt8) : sumN l < 4294967296 := by unfold sumN; omega
theorem crcN_snoc (l : List UInt8) (x : UInt8) : crc (nums (l ++ [x])) 4294967295 = stn 8 (crc (nums l) 4294967295 ^^^ x.toNat) := by
  simp only [nums, List.map_append, List.map, crc, List.foldl_append, List.foldl]
  rfl
theorem u8n (n : Nat) (h : n < 256) : (n.toUInt8).toNat = n := by
  simp
  omega
theorem u8e {x y : UInt8} (h : x.toNat = y.toNat) : x = y := UInt8.toNat_inj.1 h
/-- a number in four bytes, the lowest first -/
def four (n : Nat) : List UInt8 := [(n % 256).toUInt8, (n / 256 % 256).toUInt8, (n / 65536 % 256).toUInt8, (n / 16777216 % 256).toUInt8]
theorem four_len (n : Nat) : (four n).length = 4 := rfl
def val4 (l : List UInt8) : Nat := (l.getD 0 0).toNat + 256 * (l.getD 1 0).toNat + 65536 * (l.getD 2 0).toNat + 16777216 * (l.getD 3 0).toNat
theorem val4_lt (l : List UInt8) : val4 l < 4294967296 := by
  have h0 := (l.getD 0 0).toNat_lt
  have h1 := (l.getD 1 0).toNat_lt
  have h2 := (l.getD 2 0).toNat_lt
  have h3 := (l.getD 3 0).toNat_lt
  unfold val4
  omega
theorem val4_four (n : Nat) (h : n < 4294967296) (l : List UInt8) : val4 (four n ++ l) = n := by
  simp only [val4, four, List.cons_append, List.nil_append, List.getD_cons_zero, List.getD_cons_succ]
  rw [u8n _ (by omega), u8n _ (by omega), u8n _ (by omega), u8n _ (by omega)]
  omega
theorem four_bytes (a b c d : UInt8) : four (a.toNat + 256 * b.toNat + 65536 * c.toNat + 16777216 * d.toNat) = [a, b, c, d] := by
  have h0 := a.toNat_lt
  have h1 := b.toNat_lt
  have h2 := c.toNat_lt
  have h3 := d.toNat_lt
  unfold four
  simp only [List.cons.injEq, and_true]
  refine ⟨u8e ?_, u8e ?_, u8e ?_, u8e ?_⟩ <;> rw [u8n _ (by omega)] <;> omega
/-- a text of at least four bytes -/
theorem four_of {l : List UInt8} (h : 4 ≤ l.length) : ∃ a b c d m, l = a :: b :: c :: d :: m := by
  match l, h with
  | a :: b :: c :: d :: m, _ => exact ⟨a, b, c, d, m, rfl⟩
theorem four_val4 {l : List UInt8} (h : 4 ≤ l.length) : four (val4 l) = l.take 4 := by
  obtain ⟨a, b, c, d, m, rfl⟩ := four_of h
  exact four_bytes a b c d
/-- the second four bytes are the first ones turned, as far as they are there -/
def trn (l : List UInt8) : Bool := (List.range 4).all fun i => decide (l.length ≤ 4 + i) || decide ((l.getD (4 + i) 0).toNat + (l.getD i 0).toNat = 255)
theorem trn_iff {l : List UInt8} : trn l = true ↔ ∀ i, i < 4 → 4 + i < l.length → (l.getD (4 + i) 0).toNat + (l.getD i 0).toNat = 255 := by
  unfold trn
  rw [List.all_eq_true]
  constructor
  · intro h i hi hl
    have := h i (List.mem_range.2 hi)
    rw [Bool.or_eq_true, decide_eq_true_eq, decide_eq_true_eq] at this
    exact this.resolve_left (by omega)
  · intro h i hi
    rw [Bool.or_eq_true, decide_eq_true_eq, decide_eq_true_eq]
    by_cases hl : 4 + i < l.length
    · exact .inr (h i (List.mem_range.1 hi) hl)
    · exact .inl (by omega)
/-- a record laid -/
def putL (l : List UInt8) : List UInt8 := four l.length ++ (four (4294967295 - l.length) ++ (l ++ four (sumN l)))
def lputE (l : List UInt8) : Nat := if l.length ≤ 4096 then 0 else 2
def lput (l : List UInt8) : List UInt8 := if l.length ≤ 4096 then putL l else []
theorem putL_len (l : List UInt8) : (putL l).length = l.length + 12 := by
  unfold putL
  simp only [List.length_append, four_len]
  omega
/-- the next record -/
def nextE (l : List UInt8) : Nat :=
  if trn l = false then 15 else if l.length < 8 then 14 else if 4096 < val4 l then 15 else if l.length < val4 l + 12 then 14
  else if val4 (l.drop (val4 l + 8)) = sumN ((l.drop 8).take (val4 l)) then 0 else 15
def nextL (l : List UInt8) : List UInt8 := if nextE l = 0 then (l.drop 8).take (val4 l) else []
def nextN (l : List UInt8) : Nat := if nextE l = 0 then val4 l + 12 else 0
theorem nextE_vals (l : List UInt8) : nextE l = 0 ∨ nextE l = 14 ∨ nextE l = 15 := by
  unfold nextE
  repeat' split
  all_goals simp
theorem nextE_trn {l : List UInt8} (h : trn l = false) : nextE l = 15 := if_pos h
theorem nextE_short {l : List UInt8} (h : trn l = true) (h8 : l.length < 8) : nextE l = 14 := by
  unfold nextE
  rw [if_neg (by rw [h]; simp), if_pos h8]
theorem nextE_great {l : List UInt8} (h : trn l = true) (h8 : 8 ≤ l.length) (hn : 4096 < val4 l) : nextE l = 15 := by
  unfold nextE
  rw [if_neg (by rw [h]; simp), if_neg (by omega), if_pos hn]
theorem nextE_few {l : List UInt8} (h : trn l = true) (h8 : 8 ≤ l.length) (hn : val4 l ≤ 4096) (hl : l.length < val4 l + 12) : nextE l = 14 := by
  unfold nextE
  rw [if_neg (by rw [h]; simp), if_neg (by omega), if_neg (by omega), if_pos hl]
theorem nextE_all {l : List UInt8} (h : trn l = true) (hn : val4 l ≤ 4096) (hl : val4 l + 12 ≤ l.length) : nextE l = if val4 (l.drop (val4 l + 8)) = sumN ((l.drop 8).take (val4 l)) then 0 else 15 := by
  unfold nextE
  rw [if_neg (by rw [h]; simp), if_neg (by omega), if_neg (by omega), if_neg (by omega)]
theorem nextE_ok {l : List UInt8} (h : nextE l = 0) : trn l = true ∧ val4 l ≤ 4096 ∧ val4 l + 12 ≤ l.length ∧ val4 (l.drop (val4 l + 8)) = sumN ((l.drop 8).take (val4 l)) := by
  by_cases h1 : trn l = true
  · by_cases h2 : l.length < 8
    · rw [nextE_short h1 h2] at h; omega
    · by_cases h3 : 4096 < val4 l
      · rw [nextE_great h1 (by omega) h3] at h; omega
      · by_cases h4 : l.length < val4 l + 12
        · rw [nextE_few h1 (by omega) (by omega) h4] at h; omega
        · rw [nextE_all h1 (by omega) (by omega)] at h
          by_cases h5 : val4 (l.drop (val4 l + 8)) = sumN ((l.drop 8).take (val4 l))
          · exact ⟨h1, by omega, by omega, h5⟩
          · rw [if_neg h5] at h; omega
  · rw [nextE_trn (by simpa using h1)] at h; omega
theorem nextN_ok {l : List UInt8} (h : nextE l = 0) : nextN l = val4 l + 12 := if_pos h
theorem nextL_ok {l : List UInt8} (h : nextE l = 0) : nextL l = (l.drop 8).take (val4 l) := if_pos h
theorem nextN_no {l : List UInt8} (h : nextE l ≠ 0) : nextN l = 0 := if_neg h
theorem nextL_no {l : List UInt8} (h : nextE l ≠ 0) : nextL l = [] := if_neg h
theorem nextN_le {l : List UInt8} (h : nextE l = 0) : nextN l ≤ l.length := by
  rw [nextN_ok h]
  exact (nextE_ok h).2.2.1
/-- a text of at least eight bytes whose second four are the first turned -/
theorem eight_of {l : List UInt8} (h : 8 ≤ l.length) : ∃ a b c d e f g k m, l = a :: b :: c :: d :: e :: f :: g :: k :: m := by
  match l, h with
  | a :: b :: c :: d :: e :: f :: g :: k :: m, _ => exact ⟨a, b, c, d, e, f, g, k, m, rfl⟩
theorem head_turned {l : List UInt8} (h : trn l = true) (h8 : 8 ≤ l.length) : four (4294967295 - val4 l) = (l.drop 4).take 4 := by
  rw [trn_iff] at h
  obtain ⟨a, b, c, d, e, f, g, k, m, rfl⟩ := eight_of h8
  have h0 := h 0 (by omega) (by simp)
  have h1 := h 1 (by omega) (by simp)
  have h2 := h 2 (by omega) (by simp)
  have h3 := h 3 (by omega) (by simp)
  simp at h0 h1 h2 h3
  have : 4294967295 - val4 (a :: b :: c :: d :: e :: f :: g :: k :: m) = e.toNat + 256 * f.toNat + 65536 * g.toNat + 16777216 * k.toNat := by
    simp only [val4, List.getD_cons_zero, List.getD_cons_succ]
    omega
  rw [this, four_bytes]
  rfl
theorem four_inj {m n : Nat} (hm : m < 4294967296) (hn : n < 4294967296) (h : four m = four n) : m = n := by
  have h1 := val4_four m hm []
  have h2 := val4_four n hn []
  rw [h, h2] at h1
  exact h1.symm
theorem app_inj {a b c d : List UInt8} (h : a.length = c.length) (e : a ++ b = c ++ d) : b = d := (List.append_inj e h).2
/-- what is laid of the middle is the beginning, just where the sum is the record's -/
theorem put_iff {l : List UInt8} (ht : trn l = true) (hl : val4 l + 12 ≤ l.length) : putL ((l.drop 8).take (val4 l)) = l.take (val4 l + 12) ↔ val4 (l.drop (val4 l + 8)) = sumN ((l.drop 8).take (val4 l)) := by
  have hlen : ((l.drop 8).take (val4 l)).length = val4 l := by rw [List.length_take, List.length_drop]; omega
  have e1 := four_val4 (l := l) (by omega)
  have e2 := head_turned ht (by omega)
  have e4 := four_val4 (l := l.drop (val4 l + 8)) (by rw [List.length_drop]; omega)
  have hsplit : l.take (val4 l + 12) = l.take 4 ++ ((l.drop 4).take 4 ++ ((l.drop 8).take (val4 l) ++ (l.drop (val4 l + 8)).take 4)) := by
    generalize val4 l = n at *
    rw [show n + 12 = 4 + (4 + (n + 4)) by omega, List.take_add, List.take_add (i := 4), List.drop_drop, List.take_add (i := n), List.drop_drop]
    rw [show 4 + 4 = 8 by omega, show 8 + n = n + 8 by omega]
  unfold putL
  rw [hlen, hsplit, e1, e2, ← e4]
  constructor
  · intro h
    have h1 := app_inj rfl (app_inj rfl (app_inj rfl h))
    exact (four_inj (sumN_lt _) (val4_lt _) h1).symm
  · intro h
    rw [h]
/-- all records: how many bytes are left says how often -/
def rd : Nat → List UInt8 → List (List UInt8) × Nat × Nat
  | 0, _ => ([], 0, 0)
  | n + 1, l => if l.length = 0 then ([], 0, 0) else if nextE l = 0 then (nextL l :: (rd n (l.drop (nextN l))).1, nextN l + (rd n (l.drop (nextN l))).2.1, (rd n (l.drop (nextN l))).2.2) else ([], 0, nextE l)
theorem rd_fuel : ∀ (n m : Nat) (l : List UInt8), l.length ≤ n → l.length ≤ m → rd n l = rd m l := by
  intro n
  induction n with
  | zero =>
    intro m l hn hm
    have h0 : l.length = 0 := by omega
    cases m with
    | zero => rfl
    | succ m => rw [rd, rd, if_pos h0]
  | succ n ih =>
    intro m l hn hm
    cases m with
    | zero => rw [rd, rd, if_pos (by omega)]
    | succ m =>
      rw [rd, rd]
      by_cases h0 : l.length = 0
      · rw [if_pos h0, if_pos h0]
      · rw [if_neg h0, if_neg h0]
        by_cases h1 : nextE l = 0
        · have hd : (l.drop (nextN l)).length + 1 ≤ l.length := by rw [List.length_drop, nextN_ok h1]; omega
          rw [ih m (l.drop (nextN l)) (by omega) (by omega)]
        · rw [if_neg h1, if_neg h1]
def rdA (l : List UInt8) : List (List UInt8) × Nat × Nat := rd l.length l
theorem rdA_nil : rdA [] = ([], 0, 0) := rfl
theorem rdA_end {l : List UInt8} (h : l.length = 0) : rdA l = ([], 0, 0) := by
  unfold rdA; rw [h]; rfl
theorem rdA_no {l : List UInt8} (h : l.length ≠ 0) (he : nextE l ≠ 0) : rdA l = ([], 0, nextE l) := by
  unfold rdA
  obtain ⟨n, hn⟩ : ∃ n, l.length = n + 1 := ⟨l.length - 1, by omega⟩
  rw [hn, rd, if_neg h, if_neg he]
theorem rdA_step {l : List UInt8} (h : l.length ≠ 0) (he : nextE l = 0) : rdA l = (nextL l :: (rdA (l.drop (nextN l))).1, nextN l + (rdA (l.drop (nextN l))).2.1, (rdA (l.drop (nextN l))).2.2) := by
  have hx : ∀ n, l.length = n + 1 → rdA (l.drop (nextN l)) = rd n (l.drop (nextN l)) := fun n hn => rd_fuel _ _ _ (Nat.le_refl _) (by rw [List.length_drop, nextN_ok he]; omega)
  obtain ⟨n, hn⟩ : ∃ n, l.length = n + 1 := ⟨l.length - 1, by omega⟩
  rw [hx n hn]
  unfold rdA
  rw [hn, rd, if_neg h, if_pos he]
/-- laid one behind the other -/
def flat (l : List (List UInt8)) : List UInt8 := l.flatMap putL
def allOk (l : List (List UInt8)) : Bool := l.all fun r => decide (r.length ≤ 4096)
def allE (l : List (List UInt8)) : Nat := if allOk l = true then 0 else 2
def allL (l : List (List UInt8)) : List UInt8 := if allOk l = true then flat l else []
theorem flat_cons (a : List UInt8) (l : List (List UInt8)) : flat (a :: l) = putL a ++ flat l := rfl
/-- the head of what is laid -/
theorem putL_head (a r : List UInt8) (h : a.length ≤ 4096) : val4 (putL a ++ r) = a.length ∧ trn (putL a ++ r) = true := by
  refine ⟨?_, ?_⟩
  · unfold putL
    rw [List.append_assoc, val4_four _ (by omega)]
  · rw [trn_iff]
    intro i hi _
    unfold putL four
    have h4 : i = 0 ∨ i = 1 ∨ i = 2 ∨ i = 3 := by omega
    rcases h4 with rfl | rfl | rfl | rfl
    all_goals
      simp only [List.cons_append, List.nil_append, List.getD_cons_zero, List.getD_cons_succ, Nat.add_zero, Nat.reduceAdd]
      rw [u8n _ (by omega), u8n _ (by omega)]
      omega
theorem putL_mid (a r : List UInt8) : ((putL a ++ r).drop 8).take a.length = a ∧ (putL a ++ r).drop (a.length + 8) = four (sumN a) ++ r := by
  have h : (putL a ++ r).drop 8 = a ++ (four (sumN a) ++ r) := by
    unfold putL four
    simp
  refine ⟨by rw [h, List.take_left], ?_⟩
  rw [Nat.add_comm, ← List.drop_drop, h, List.drop_left]
theorem next_put (a r : List UInt8) (h : a.length ≤ 4096) : nextE (putL a ++ r) = 0 ∧ nextL (putL a ++ r) = a ∧ nextN (putL a ++ r) = a.length + 12 := by
  obtain ⟨h1, h2⟩ := putL_head a r h
  obtain ⟨h3, h4⟩ := putL_mid a r
  have hl : (putL a ++ r).length = a.length + 12 + r.length := by rw [List.length_append, putL_len]
  have he : nextE (putL a ++ r) = 0 := by
    rw [nextE_all h2 (by omega) (by omega), h1, h3, h4, val4_four _ (sumN_lt _), if_pos rfl]
  exact ⟨he, by rw [nextL_ok he, h1, h3], by rw [nextN_ok he, h1]⟩
theorem drop_put (a r : List UInt8) : (putL a ++ r).drop (a.length + 12) = r := by
  rw [← putL_len a, List.drop_left]
theorem rdA_put (a r : List UInt8) (h : a.length ≤ 4096) : rdA (putL a ++ r) = (a :: (rdA r).1, a.length + 12 + (rdA r).2.1, (rdA r).2.2) := by
  obtain ⟨h1, h2, h3⟩ := next_put a r h
  rw [rdA_step (by rw [List.length_append, putL_len]; omega) h1, h2, h3, drop_put]
/-- what is laid is read as it was -/
theorem rdA_flat (l : List (List UInt8)) (h : allOk l = true) : rdA (flat l) = (l, (flat l).length, 0) := by
  induction l with
  | nil => rfl
  | cons a l ih =>
    unfold allOk at h
    rw [List.all_cons, Bool.and_eq_true, decide_eq_true_eq] at h
    rw [flat_cons, rdA_put a _ h.1, ih h.2, List.length_append, putL_len]
/-- a beginning of what is laid -/
theorem trn_take {l : List UInt8} (h : trn l = true) (k : Nat) : trn (l.take k) = true := by
  rw [trn_iff] at h ⊢
  intro i hi hk
  rw [List.length_take] at hk
  have := h i hi (by omega)
  simp only [List.getD_eq_getElem?_getD, List.getElem?_take] at this ⊢
  rw [if_pos (by omega), if_pos (by omega)]
  exact this
theorem val4_take {l : List UInt8} {k : Nat} (h : 4 ≤ k) : val4 (l.take k) = val4 l := by
  simp only [val4, List.getD_eq_getElem?_getD, List.getElem?_take]
  rw [if_pos (by omega), if_pos (by omega), if_pos (by omega), if_pos (by omega)]
theorem next_torn (a r : List UInt8) (h : a.length ≤ 4096) (k : Nat) (hk : k < a.length + 12) : nextE ((putL a ++ r).take k) = 14 := by
  obtain ⟨h1, h2⟩ := putL_head a r h
  have ht := trn_take h2 k
  have hl : ((putL a ++ r).take k).length = k := by rw [List.length_take, List.length_append, putL_len]; omega
  by_cases h8 : k < 8
  · exact nextE_short ht (by omega)
  · have hv : val4 ((putL a ++ r).take k) = a.length := by rw [val4_take (by omega), h1]
    exact nextE_few ht (by omega) (by omega) (by omega)
/-- how many are whole in so many bytes, and where the last one ends -/
def whole : List (List UInt8) → Nat → Nat × Nat
  | [], _ => (0, 0)
  | a :: l, k => if a.length + 12 ≤ k then ((whole l (k - (a.length + 12))).1 + 1, a.length + 12 + (whole l (k - (a.length + 12))).2) else (0, 0)
theorem rdA_torn (l : List (List UInt8)) (h : allOk l = true) : ∀ k, k ≤ (flat l).length → rdA ((flat l).take k) = (l.take (whole l k).1, (whole l k).2, if (whole l k).2 = k then 0 else 14) := by
  induction l with
  | nil =>
    intro k hk
    have : k = 0 := by simpa [flat] using hk
    subst this
    rfl
  | cons a l ih =>
    intro k hk
    unfold allOk at h
    rw [List.all_cons, Bool.and_eq_true, decide_eq_true_eq] at h
    rw [flat_cons, List.length_append, putL_len] at hk
    rw [flat_cons, whole]
    by_cases hw : a.length + 12 ≤ k
    · rw [if_pos hw]
      have e : (putL a ++ flat l).take k = putL a ++ (flat l).take (k - (a.length + 12)) := by
        rw [List.take_append, putL_len, List.take_of_length_le (by rw [putL_len]; exact hw)]
      rw [e, rdA_put a _ h.1, ih h.2 _ (by omega)]
      simp only [List.take_succ_cons]
      congr 2
      by_cases h5 : (whole l (k - (a.length + 12))).2 = k - (a.length + 12)
      · rw [if_pos h5, if_pos (by omega)]
      · rw [if_neg h5, if_neg (by omega)]
    · rw [if_neg hw]
      by_cases h0 : k = 0
      · subst h0
        rw [List.take_zero, rdA_nil]
        rfl
      · rw [rdA_no (by rw [List.length_take, List.length_append, putL_len]; omega) (by rw [next_torn a _ h.1 k (by omega)]; omega), next_torn a _ h.1 k (by omega), if_neg (by omega)]
        rfl
/- A disk as numbers: four files (all bytes, how many are safe), a limit, whether the power is gone; each call as a function on it, and what follows of them. -/
/-- files, how many bytes of each are safe, the limit, whether the power is gone -/
structure St where
  f : Nat → ByteArray
  s : Nat → Nat
  lim : Int
  gone : Bool
def put {α : Type} (g : Nat → α) (i : Nat) (x : α) : Nat → α := fun j => if j = i then x else g j
theorem put_eq {α : Type} (g : Nat → α) (i : Nat) (x : α) : put g i x i = x := by simp [put]
theorem put_ne {α : Type} (g : Nat → α) (i j : Nat) (x : α) (h : j ≠ i) : put g i x j = g j := by simp [put, h]
/-- which error a file's number has -/
def chk (S : St) (i : Int) : Int := if S.gone = true then 13 else if i < 0 ∨ 3 < i then 6 else 0
/-- a change is taken off the limit -/
def spd (S : St) : St × Int := if S.lim = 0 then ({ S with gone := true }, 13) else if 0 < S.lim then ({ S with lim := S.lim - 1 }, 0) else (S, 0)
/-- a change's error, and the disk behind it, where e is found wrong ahead of it and g is what it does -/
def chg (S : St) (e : Int) (g : St → St) : St × Int := if e ≠ 0 then (S, e) else if (spd S).2 ≠ 0 then spd S else (g (spd S).1, 0)
def full (S : St) (i : Int) (n : Nat) : Int := if chk S i ≠ 0 then chk S i else if 1048576 < (S.f i.toNat).size + n then 18 else 0
def argE (S : St) (i n : Int) : Int := if chk S i ≠ 0 then chk S i else if n < 0 ∨ ((S.f i.toNat).size : Int) < n then 1 else 0
def app (S : St) (i : Int) (t : ByteArray) : St × Int := chg S (full S i t.size) fun D => { D with f := put D.f i.toNat (D.f i.toNat ++ t) }
def syn (S : St) (i : Int) : St × Int := chg S (chk S i) fun D => { D with s := put D.s i.toNat (D.f i.toNat).size }
def ctf (S : St) (i n : Int) : St × Int := chg S (argE S i n) fun D => { D with f := put D.f i.toNat ((D.f i.toNat).extract 0 n.toNat), s := put D.s i.toNat (min (D.s i.toNat) n.toNat) }
/-- how many bytes a crash leaves of n, s of them safe, where k are to be kept -/
def lft (n s : Nat) (k : Int) : Nat := s + min k.toNat (n - s)
def crs (S : St) (k : Nat → Int) : St := { f := fun j => (S.f j).extract 0 (lft (S.f j).size (S.s j) (k j)), s := fun j => lft (S.f j).size (S.s j) (k j), lim := -1, gone := false }
def new : St := { f := fun _ => ByteArray.empty, s := fun _ => 0, lim := -1, gone := false }
/-- what holds of every disk -/
structure Ok (S : St) : Prop where
  safe : ∀ j, S.s j ≤ (S.f j).size
  small : ∀ j, (S.f j).size ≤ 1048576
  lo : -9223372036854775808 ≤ S.lim
  hi : S.lim ≤ 9223372036854775807
theorem size_extract0 (b : ByteArray) (n : Nat) (h : n ≤ b.size) : (b.extract 0 n).size = n := by simp [ByteArray.size_extract]; omega
theorem lft_le (n s : Nat) (k : Int) (h : s ≤ n) : s ≤ lft n s k ∧ lft n s k ≤ n := by unfold lft; omega
theorem new_ok : Ok new := ⟨fun _ => Nat.le_refl _, fun _ => by show (0 : Nat) ≤ _; omega, by show _ ≤ (-1 : Int); omega, by show (-1 : Int) ≤ _; omega⟩
theorem crs_ok {S : St} (h : Ok S) (k : Nat → Int) : Ok (crs S k) := by
  have hl := fun j => lft_le (S.f j).size (S.s j) (k j) (h.safe j)
  refine ⟨fun j => ?_, fun j => ?_, by show _ ≤ (-1 : Int); omega, by show (-1 : Int) ≤ _; omega⟩
  · show lft _ _ _ ≤ ((S.f j).extract 0 _).size
    rw [size_extract0 _ _ (hl j).2]; exact Nat.le_refl _
  · show ((S.f j).extract 0 _).size ≤ _
    rw [size_extract0 _ _ (hl j).2]; exact Nat.le_trans (hl j).2 (h.small j)
theorem spd_cases (S : St) : (S.lim = 0 ∧ spd S = ({ S with gone := true }, 13)) ∨ (0 < S.lim ∧ spd S = ({ S with lim := S.lim - 1 }, 0)) ∨ (S.lim < 0 ∧ spd S = (S, 0)) := by
  unfold spd
  rcases Int.lt_trichotomy S.lim 0 with h | h | h
  · exact .inr (.inr ⟨h, by rw [if_neg (by omega), if_neg (by omega)]⟩)
  · exact .inl ⟨h, by rw [if_pos h]⟩
  · exact .inr (.inl ⟨h, by rw [if_neg (by omega), if_pos h]⟩)
theorem spd_f (S : St) : (spd S).1.f = S.f ∧ (spd S).1.s = S.s := by
  rcases spd_cases S with ⟨_, h⟩ | ⟨_, h⟩ | ⟨_, h⟩ <;> rw [h] <;> exact ⟨rfl, rfl⟩
theorem spd_ok {S : St} (h : Ok S) : Ok (spd S).1 := by
  have h3 := h.lo
  have h4 := h.hi
  rcases spd_cases S with ⟨_, e⟩ | ⟨_, e⟩ | ⟨_, e⟩ <;> rw [e]
  · exact ⟨h.safe, h.small, h3, h4⟩
  · exact ⟨h.safe, h.small, by show _ ≤ S.lim - 1; omega, by show S.lim - 1 ≤ _; omega⟩
  · exact h
theorem chg_ok {S : St} (h : Ok S) (e : Int) (g : St → St) (hg : e = 0 → Ok (spd S).1 → Ok (g (spd S).1)) : Ok (chg S e g).1 := by
  unfold chg
  by_cases c : e ≠ 0
  · rw [if_pos c]; exact h
  · rw [if_neg c]
    by_cases d : (spd S).2 ≠ 0
    · rw [if_pos d]; exact spd_ok h
    · rw [if_neg d]; exact hg (by omega) (spd_ok h)
theorem full_zero {S : St} {i : Int} {n : Nat} (h : full S i n = 0) : chk S i = 0 ∧ (S.f i.toNat).size + n ≤ 1048576 := by
  unfold full at h
  by_cases c : chk S i ≠ 0
  · rw [if_pos c] at h; omega
  · rw [if_neg c] at h
    by_cases d : 1048576 < (S.f i.toNat).size + n
    · rw [if_pos d] at h; omega
    · omega
theorem argE_zero {S : St} {i n : Int} (h : argE S i n = 0) : chk S i = 0 ∧ 0 ≤ n ∧ n ≤ (S.f i.toNat).size := by
  unfold argE at h
  by_cases c : chk S i ≠ 0
  · rw [if_pos c] at h; omega
  · rw [if_neg c] at h
    by_cases d : n < 0 ∨ ((S.f i.toNat).size : Int) < n
    · rw [if_pos d] at h; omega
    · omega
theorem app_ok {S : St} (h : Ok S) (i : Int) (t : ByteArray) : Ok (app S i t).1 := by
  refine chg_ok h _ _ fun e k => ?_
  have hf := (full_zero e).2
  refine ⟨fun j => ?_, fun j => ?_, k.lo, k.hi⟩
  · show (spd S).1.s j ≤ (put (α := ByteArray) _ _ _ j).size
    have := k.safe j
    by_cases c : j = i.toNat
    · subst c; rw [put_eq, ByteArray.size_append]; omega
    · rw [put_ne _ _ _ _ c]; exact this
  · show (put (α := ByteArray) _ _ _ j).size ≤ _
    by_cases c : j = i.toNat
    · subst c; rw [put_eq, ByteArray.size_append, (spd_f S).1]; omega
    · rw [put_ne _ _ _ _ c]; exact k.small j
theorem syn_ok {S : St} (h : Ok S) (i : Int) : Ok (syn S i).1 := by
  refine chg_ok h _ _ fun e k => ?_
  refine ⟨fun j => ?_, k.small, k.lo, k.hi⟩
  show put _ _ _ j ≤ ((spd S).1.f j).size
  by_cases c : j = i.toNat
  · subst c; rw [put_eq]; exact Nat.le_refl _
  · rw [put_ne _ _ _ _ c]; exact k.safe j
theorem ctf_ok {S : St} (h : Ok S) (i n : Int) : Ok (ctf S i n).1 := by
  refine chg_ok h _ _ fun e k => ?_
  have hf := (argE_zero e).2
  have hz : ((spd S).1.f i.toNat).size = (S.f i.toNat).size := by rw [(spd_f S).1]
  have hx := size_extract0 ((spd S).1.f i.toNat) n.toNat (by omega)
  refine ⟨fun j => ?_, fun j => ?_, k.lo, k.hi⟩
  · show put _ _ _ j ≤ (put (α := ByteArray) _ _ _ j).size
    by_cases c : j = i.toNat
    · subst c; rw [put_eq, put_eq, hx]; omega
    · rw [put_ne _ _ _ _ c, put_ne _ _ _ _ c]; exact k.safe j
  · show (put (α := ByteArray) _ _ _ j).size ≤ _
    by_cases c : j = i.toNat
    · subst c; rw [put_eq, hx]; have := h.small i.toNat; omega
    · rw [put_ne _ _ _ _ c]; exact k.small j
theorem lim_ok {S : St} (h : Ok S) (n : Int) (h1 : -9223372036854775808 ≤ n) (h2 : n ≤ 9223372036854775807) : Ok { S with lim := n } := ⟨h.safe, h.small, h1, h2⟩
end Go.Proofs.Yteiilifljfagdaa
