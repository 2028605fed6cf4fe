/- Records as numbers: four bytes, laying, the next one, all of them. -/
import Derived.Test.YtpddddnjmklfdaaA
import Derived.WalkKit
namespace Go.Proofs.Ytpddddnjmklfdaa
open Go.RowKit
set_option linter.unusedVariables false
set_option linter.unusedSimpArgs false
def nums (l : List UInt8) : List Nat := l.map (·.toNat)
theorem nums_lt (l : List UInt8) : ∀ b ∈ nums l, b < 256 := by
  intro b hb
  simp only [nums, List.mem_map] at hb
  obtain ⟨x, _, rfl⟩ := hb
  exact x.toNat_lt
def crcN (l : List UInt8) : Nat := crc (nums l) 4294967295
theorem crcN_lt (l : List UInt8) : crcN l < 4294967296 := crc_lt _ (nums_lt l) (by omega)
def sumN (l : List UInt8) : Nat := 4294967295 - crcN l
theorem sumN_lt (l : List UInt8) : sumN l < 4294967296 := by unfold sumN; omega
theorem crcN_snoc (l : List UInt8) (x : UInt8) : crc (nums (l ++ [x])) 4294967295 = stn 8 (crc (nums l) 4294967295 ^^^ x.toNat) := by
  simp only [nums, List.map_append, List.map, crc, List.foldl_append, List.foldl]
  rfl
theorem u8n (n : Nat) (h : n < 256) : (n.toUInt8).toNat = n := by
  simp
  omega
theorem u8e {x y : UInt8} (h : x.toNat = y.toNat) : x = y := UInt8.toNat_inj.1 h
/-- a number in four bytes, the lowest first -/
def four (n : Nat) : List UInt8 := [(n % 256).toUInt8, (n / 256 % 256).toUInt8, (n / 65536 % 256).toUInt8, (n / 16777216 % 256).toUInt8]
theorem four_len (n : Nat) : (four n).length = 4 := rfl
def val4 (l : List UInt8) : Nat := (l.getD 0 0).toNat + 256 * (l.getD 1 0).toNat + 65536 * (l.getD 2 0).toNat + 16777216 * (l.getD 3 0).toNat
theorem val4_lt (l : List UInt8) : val4 l < 4294967296 := by
  have h0 := (l.getD 0 0).toNat_lt
  have h1 := (l.getD 1 0).toNat_lt
  have h2 := (l.getD 2 0).toNat_lt
  have h3 := (l.getD 3 0).toNat_lt
  unfold val4
  omega
theorem val4_four (n : Nat) (h : n < 4294967296) (l : List UInt8) : val4 (four n ++ l) = n := by
  simp only [val4, four, List.cons_append, List.nil_append, List.getD_cons_zero, List.getD_cons_succ]
  rw [u8n _ (by omega), u8n _ (by omega), u8n _ (by omega), u8n _ (by omega)]
  omega
theorem four_bytes (a b c d : UInt8) : four (a.toNat + 256 * b.toNat + 65536 * c.toNat + 16777216 * d.toNat) = [a, b, c, d] := by
  have h0 := a.toNat_lt
  have h1 := b.toNat_lt
  have h2 := c.toNat_lt
  have h3 := d.toNat_lt
  unfold four
  simp only [List.cons.injEq, and_true]
  refine ⟨u8e ?_, u8e ?_, u8e ?_, u8e ?_⟩ <;> rw [u8n _ (by omega)] <;> omega
/-- a text of at least four bytes -/
theorem four_of {l : List UInt8} (h : 4 ≤ l.length) : ∃ a b c d m, l = a :: b :: c :: d :: m := by
  match l, h with
  | a :: b :: c :: d :: m, _ => exact ⟨a, b, c, d, m, rfl⟩
theorem four_val4 {l : List UInt8} (h : 4 ≤ l.length) : four (val4 l) = l.take 4 := by
  obtain ⟨a, b, c, d, m, rfl⟩ := four_of h
  exact four_bytes a b c d
/-- the second four bytes are the first ones turned, as far as they are there -/
def trn (l : List UInt8) : Bool := (List.range 4).all fun i => decide (l.length ≤ 4 + i) || decide ((l.getD (4 + i) 0).toNat + (l.getD i 0).toNat = 255)
theorem trn_iff {l : List UInt8} : trn l = true ↔ ∀ i, i < 4 → 4 + i < l.length → (l.getD (4 + i) 0).toNat + (l.getD i 0).toNat = 255 := by
  unfold trn
  rw [List.all_eq_true]
  constructor
  · intro h i hi hl
    have := h i (List.mem_range.2 hi)
    rw [Bool.or_eq_true, decide_eq_true_eq, decide_eq_true_eq] at this
    exact this.resolve_left (by omega)
  · intro h i hi
    rw [Bool.or_eq_true, decide_eq_true_eq, decide_eq_true_eq]
    by_cases hl : 4 + i < l.length
    · exact .inr (h i (List.mem_range.1 hi) hl)
    · exact .inl (by omega)
/-- a record laid -/
def putL (l : List UInt8) : List UInt8 := four l.length ++ (four (4294967295 - l.length) ++ (l ++ four (sumN l)))
def putE (l : List UInt8) : Nat := if l.length ≤ 4096 then 0 else 2
def put (l : List UInt8) : List UInt8 := if l.length ≤ 4096 then putL l else []
theorem putL_len (l : List UInt8) : (putL l).length = l.length + 12 := by
  unfold putL
  simp only [List.length_append, four_len]
  omega
/-- the next record -/
def nextE (l : List UInt8) : Nat :=
  if trn l = false then 15 else if l.length < 8 then 14 else if 4096 < val4 l then 15 else if l.length < val4 l + 12 then 14
  else if val4 (l.drop (val4 l + 8)) = sumN ((l.drop 8).take (val4 l)) then 0 else 15
def nextL (l : List UInt8) : List UInt8 := if nextE l = 0 then (l.drop 8).take (val4 l) else []
def nextN (l : List UInt8) : Nat := if nextE l = 0 then val4 l + 12 else 0
theorem nextE_vals (l : List UInt8) : nextE l = 0 ∨ nextE l = 14 ∨ nextE l = 15 := by
  unfold nextE
  repeat' split
  all_goals simp
theorem nextE_trn {l : List UInt8} (h : trn l = false) : nextE l = 15 := if_pos h
theorem nextE_short {l : List UInt8} (h : trn l = true) (h8 : l.length < 8) : nextE l = 14 := by
  unfold nextE
  rw [if_neg (by rw [h]; simp), if_pos h8]
theorem nextE_great {l : List UInt8} (h : trn l = true) (h8 : 8 ≤ l.length) (hn : 4096 < val4 l) : nextE l = 15 := by
  unfold nextE
  rw [if_neg (by rw [h]; simp), if_neg (by omega), if_pos hn]
theorem nextE_few {l : List UInt8} (h : trn l = true) (h8 : 8 ≤ l.length) (hn : val4 l ≤ 4096) (hl : l.length < val4 l + 12) : nextE l = 14 := by
  unfold nextE
  rw [if_neg (by rw [h]; simp), if_neg (by omega), if_neg (by omega), if_pos hl]
theorem nextE_all {l : List UInt8} (h : trn l = true) (hn : val4 l ≤ 4096) (hl : val4 l + 12 ≤ l.length) : nextE l = if val4 (l.drop (val4 l + 8)) = sumN ((l.drop 8).take (val4 l)) then 0 else 15 := by
  unfold nextE
  rw [if_neg (by rw [h]; simp), if_neg (by omega), if_neg (by omega), if_neg (by omega)]
theorem nextE_ok {l : List UInt8} (h : nextE l = 0) : trn l = true ∧ val4 l ≤ 4096 ∧ val4 l + 12 ≤ l.length ∧ val4 (l.drop (val4 l + 8)) = sumN ((l.drop 8).take (val4 l)) := by
  by_cases h1 : trn l = true
  · by_cases h2 : l.length < 8
    · rw [nextE_short h1 h2] at h; omega
    · by_cases h3 : 4096 < val4 l
      · rw [nextE_great h1 (by omega) h3] at h; omega
      · by_cases h4 : l.length < val4 l + 12
        · rw [nextE_few h1 (by omega) (by omega) h4] at h; omega
        · rw [nextE_all h1 (by omega) (by omega)] at h
          by_cases h5 : val4 (l.drop (val4 l + 8)) = sumN ((l.drop 8).take (val4 l))
          · exact ⟨h1, by omega, by omega, h5⟩
          · rw [if_neg h5] at h; omega
  · rw [nextE_trn (by simpa using h1)] at h; omega
theorem nextN_ok {l : List UInt8} (h : nextE l = 0) : nextN l = val4 l + 12 := if_pos h
theorem nextL_ok {l : List UInt8} (h : nextE l = 0) : nextL l = (l.drop 8).take (val4 l) := if_pos h
theorem nextN_no {l : List UInt8} (h : nextE l ≠ 0) : nextN l = 0 := if_neg h
theorem nextL_no {l : List UInt8} (h : nextE l ≠ 0) : nextL l = [] := if_neg h
theorem nextN_le {l : List UInt8} (h : nextE l = 0) : nextN l ≤ l.length := by
  rw [nextN_ok h]
  exact (nextE_ok h).2.2.1
/-- a text of at least eight bytes whose second four are the first turned -/
theorem eight_of {l : List UInt8} (h : 8 ≤ l.length) : ∃ a b c d e f g k m, l = a :: b :: c :: d :: e :: f :: g :: k :: m := by
  match l, h with
  | a :: b :: c :: d :: e :: f :: g :: k :: m, _ => exact ⟨a, b, c, d, e, f, g, k, m, rfl⟩
theorem head_turned {l : List UInt8} (h : trn l = true) (h8 : 8 ≤ l.length) : four (4294967295 - val4 l) = (l.drop 4).take 4 := by
  rw [trn_iff] at h
  obtain ⟨a, b, c, d, e, f, g, k, m, rfl⟩ := eight_of h8
  have h0 := h 0 (by omega) (by simp)
  have h1 := h 1 (by omega) (by simp)
  have h2 := h 2 (by omega) (by simp)
  have h3 := h 3 (by omega) (by simp)
  simp at h0 h1 h2 h3
  have : 4294967295 - val4 (a :: b :: c :: d :: e :: f :: g :: k :: m) = e.toNat + 256 * f.toNat + 65536 * g.toNat + 16777216 * k.toNat := by
    simp only [val4, List.getD_cons_zero, List.getD_cons_succ]
    omega
  rw [this, four_bytes]
  rfl
theorem four_inj {m n : Nat} (hm : m < 4294967296) (hn : n < 4294967296) (h : four m = four n) : m = n := by
  have h1 := val4_four m hm []
  have h2 := val4_four n hn []
  rw [h, h2] at h1
  exact h1.symm
theorem app_inj {a b c d : List UInt8} (h : a.length = c.length) (e : a ++ b = c ++ d) : b = d := (List.append_inj e h).2
/-- what is laid of the middle is the beginning, just where the sum is the record's -/
theorem put_iff {l : List UInt8} (ht : trn l = true) (hl : val4 l + 12 ≤ l.length) : putL ((l.drop 8).take (val4 l)) = l.take (val4 l + 12) ↔ val4 (l.drop (val4 l + 8)) = sumN ((l.drop 8).take (val4 l)) := by
  have hlen : ((l.drop 8).take (val4 l)).length = val4 l := by rw [List.length_take, List.length_drop]; omega
  have e1 := four_val4 (l := l) (by omega)
  have e2 := head_turned ht (by omega)
  have e4 := four_val4 (l := l.drop (val4 l + 8)) (by rw [List.length_drop]; omega)
  have hsplit : l.take (val4 l + 12) = l.take 4 ++ ((l.drop 4).take 4 ++ ((l.drop 8).take (val4 l) ++ (l.drop (val4 l + 8)).take 4)) := by
    generalize val4 l = n at *
    rw [show n + 12 = 4 + (4 + (n + 4)) by omega, List.take_add, List.take_add (i := 4), List.drop_drop, List.take_add (i := n), List.drop_drop]
    rw [show 4 + 4 = 8 by omega, show 8 + n = n + 8 by omega]
  unfold putL
  rw [hlen, hsplit, e1, e2, ← e4]
  constructor
  · intro h
    have h1 := app_inj rfl (app_inj rfl (app_inj rfl h))
    exact (four_inj (sumN_lt _) (val4_lt _) h1).symm
  · intro h
    rw [h]
/-- all records: how many bytes are left says how often -/
def rd : Nat → List UInt8 → List (List UInt8) × Nat × Nat
  | 0, _ => ([], 0, 0)
  | n + 1, l => if l.length = 0 then ([], 0, 0) else if nextE l = 0 then (nextL l :: (rd n (l.drop (nextN l))).1, nextN l + (rd n (l.drop (nextN l))).2.1, (rd n (l.drop (nextN l))).2.2) else ([], 0, nextE l)
theorem rd_fuel : ∀ (n m : Nat) (l : List UInt8), l.length ≤ n → l.length ≤ m → rd n l = rd m l := by
  intro n
  induction n with
  | zero =>
    intro m l hn hm
    have h0 : l.length = 0 := by omega
    cases m with
    | zero => rfl
    | succ m => rw [rd, rd, if_pos h0]
  | succ n ih =>
    intro m l hn hm
    cases m with
    | zero => rw [rd, rd, if_pos (by omega)]
    | succ m =>
      rw [rd, rd]
      by_cases h0 : l.length = 0
      · rw [if_pos h0, if_pos h0]
      · rw [if_neg h0, if_neg h0]
        by_cases h1 : nextE l = 0
        · have hd : (l.drop (nextN l)).length + 1 ≤ l.length := by rw [List.length_drop, nextN_ok h1]; omega
          rw [ih m (l.drop (nextN l)) (by omega) (by omega)]
        · rw [if_neg h1, if_neg h1]
def rdA (l : List UInt8) : List (List UInt8) × Nat × Nat := rd l.length l
theorem rdA_nil : rdA [] = ([], 0, 0) := rfl
theorem rdA_end {l : List UInt8} (h : l.length = 0) : rdA l = ([], 0, 0) := by
  unfold rdA; rw [h]; rfl
theorem rdA_no {l : List UInt8} (h : l.length ≠ 0) (he : nextE l ≠ 0) : rdA l = ([], 0, nextE l) := by
  unfold rdA
  obtain ⟨n, hn⟩ : ∃ n, l.length = n + 1 := ⟨l.length - 1, by omega⟩
  rw [hn, rd, if_neg h, if_neg he]
theorem rdA_step {l : List UInt8} (h : l.length ≠ 0) (he : nextE l = 0) : rdA l = (nextL l :: (rdA (l.drop (nextN l))).1, nextN l + (rdA (l.drop (nextN l))).2.1, (rdA (l.drop (nextN l))).2.2) := by
  have hx : ∀ n, l.length = n + 1 → rdA (l.drop (nextN l)) = rd n (l.drop (nextN l)) := fun n hn => rd_fuel _ _ _ (Nat.le_refl _) (by rw [List.length_drop, nextN_ok he]; omega)
  obtain ⟨n, hn⟩ : ∃ n, l.length = n + 1 := ⟨l.length - 1, by omega⟩
  rw [hx n hn]
  unfold rdA
  rw [hn, rd, if_neg h, if_pos he]
/-- laid one behind the other -/
def flat (l : List (List UInt8)) : List UInt8 := l.flatMap putL
def allOk (l : List (List UInt8)) : Bool := l.all fun r => decide (r.length ≤ 4096)
def allE (l : List (List UInt8)) : Nat := if allOk l = true then 0 else 2
def allL (l : List (List UInt8)) : List UInt8 := if allOk l = true then flat l else []
theorem flat_cons (a : List UInt8) (l : List (List UInt8)) : flat (a :: l) = putL a ++ flat l := rfl
/-- the head of what is laid -/
theorem putL_head (a r : List UInt8) (h : a.length ≤ 4096) : val4 (putL a ++ r) = a.length ∧ trn (putL a ++ r) = true := by
  refine ⟨?_, ?_⟩
  · unfold putL
    rw [List.append_assoc, val4_four _ (by omega)]
  · rw [trn_iff]
    intro i hi _
    unfold putL four
    have h4 : i = 0 ∨ i = 1 ∨ i = 2 ∨ i = 3 := by omega
    rcases h4 with rfl | rfl | rfl | rfl
    all_goals
      simp only [List.cons_append, List.nil_append, List.getD_cons_zero, List.getD_cons_succ, Nat.add_zero, Nat.reduceAdd]
      rw [u8n _ (by omega), u8n _ (by omega)]
      omega
theorem putL_mid (a r : List UInt8) : ((putL a ++ r).drop 8).take a.length = a ∧ (putL a ++ r).drop (a.length + 8) = four (sumN a) ++ r := by
  have h : (putL a ++ r).drop 8 = a ++ (four (sumN a) ++ r) := by
    unfold putL four
    simp
  refine ⟨by rw [h, List.take_left], ?_⟩
  rw [Nat.add_comm, ← List.drop_drop, h, List.drop_left]
theorem next_put (a r : List UInt8) (h : a.length ≤ 4096) : nextE (putL a ++ r) = 0 ∧ nextL (putL a ++ r) = a ∧ nextN (putL a ++ r) = a.length + 12 := by
  obtain ⟨h1, h2⟩ := putL_head a r h
  obtain ⟨h3, h4⟩ := putL_mid a r
  have hl : (putL a ++ r).length = a.length + 12 + r.length := by rw [List.length_append, putL_len]
  have he : nextE (putL a ++ r) = 0 := by
    rw [nextE_all h2 (by omega) (by omega), h1, h3, h4, val4_four _ (sumN_lt _), if_pos rfl]
  exact ⟨he, by rw [nextL_ok he, h1, h3], by rw [nextN_ok he, h1]⟩
theorem drop_put (a r : List UInt8) : (putL a ++ r).drop (a.length + 12) = r := by
  rw [← putL_len a, List.drop_left]
theorem rdA_put (a r : List UInt8) (h : a.length ≤ 4096) : rdA (putL a ++ r) = (a :: (rdA r).1, a.length + 12 + (rdA r).2.1, (rdA r).2.2) := by
  obtain ⟨h1, h2, h3⟩ := next_put a r h
  rw [rdA_step (by rw [List.length_append, putL_len]; omega) h1, h2, h3, drop_put]
/-- what is laid is read as it was -/
theorem rdA_flat (l : List (List UInt8)) (h : allOk l = true) : rdA (flat l) = (l, (flat l).length, 0) := by
  induction l with
  | nil => rfl
  | cons a l ih =>
    unfold allOk at h
    rw [List.all_cons, Bool.and_eq_true, decide_eq_true_eq] at h
    rw [flat_cons, rdA_put a _ h.1, ih h.2, List.length_append, putL_len]
/-- a beginning of what is laid -/
theorem trn_take {l : List UInt8} (h : trn l = true) (k : Nat) : trn (l.take k) = true := by
  rw [trn_iff] at h ⊢
  intro i hi hk
  rw [List.length_take] at hk
  have := h i hi (by omega)
  simp only [List.getD_eq_getElem?_getD, List.getElem?_take] at this ⊢
  rw [if_pos (by omega), if_pos (by omega)]
  exact this
theorem val4_take {l : List UInt8} {k : Nat} (h : 4 ≤ k) : val4 (l.take k) = val4 l := by
  simp only [val4, List.getD_eq_getElem?_getD, List.getElem?_take]
  rw [if_pos (by omega), if_pos (by omega), if_pos (by omega), if_pos (by omega)]
theorem next_torn (a r : List UInt8) (h : a.length ≤ 4096) (k : Nat) (hk : k < a.length + 12) : nextE ((putL a ++ r).take k) = 14 := by
  obtain ⟨h1, h2⟩ := putL_head a r h
  have ht := trn_take h2 k
  have hl : ((putL a ++ r).take k).length = k := by rw [List.length_take, List.length_append, putL_len]; omega
  by_cases h8 : k < 8
  · exact nextE_short ht (by omega)
  · have hv : val4 ((putL a ++ r).take k) = a.length := by rw [val4_take (by omega), h1]
    exact nextE_few ht (by omega) (by omega) (by omega)
/-- how many are whole in so many bytes, and where the last one ends -/
def whole : List (List UInt8) → Nat → Nat × Nat
  | [], _ => (0, 0)
  | a :: l, k => if a.length + 12 ≤ k then ((whole l (k - (a.length + 12))).1 + 1, a.length + 12 + (whole l (k - (a.length + 12))).2) else (0, 0)
theorem rdA_torn (l : List (List UInt8)) (h : allOk l = true) : ∀ k, k ≤ (flat l).length → rdA ((flat l).take k) = (l.take (whole l k).1, (whole l k).2, if (whole l k).2 = k then 0 else 14) := by
  induction l with
  | nil =>
    intro k hk
    have : k = 0 := by simpa [flat] using hk
    subst this
    rfl
  | cons a l ih =>
    intro k hk
    unfold allOk at h
    rw [List.all_cons, Bool.and_eq_true, decide_eq_true_eq] at h
    rw [flat_cons, List.length_append, putL_len] at hk
    rw [flat_cons, whole]
    by_cases hw : a.length + 12 ≤ k
    · rw [if_pos hw]
      have e : (putL a ++ flat l).take k = putL a ++ (flat l).take (k - (a.length + 12)) := by
        rw [List.take_append, putL_len, List.take_of_length_le (by rw [putL_len]; exact hw)]
      rw [e, rdA_put a _ h.1, ih h.2 _ (by omega)]
      simp only [List.take_succ_cons]
      congr 2
      by_cases h5 : (whole l (k - (a.length + 12))).2 = k - (a.length + 12)
      · rw [if_pos h5, if_pos (by omega)]
      · rw [if_neg h5, if_neg (by omega)]
    · rw [if_neg hw]
      by_cases h0 : k = 0
      · subst h0
        rw [List.take_zero, rdA_nil]
        rfl
      · rw [rdA_no (by rw [List.length_take, List.length_append, putL_len]; omega) (by rw [next_torn a _ h.1 k (by omega)]; omega), next_torn a _ h.1 k (by omega), if_neg (by omega)]
        rfl
end Go.Proofs.Ytpddddnjmklfdaa
