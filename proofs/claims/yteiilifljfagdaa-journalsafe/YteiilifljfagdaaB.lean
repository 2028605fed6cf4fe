/- A journal's file as numbers: seven bytes, what is laid, what a file has; every beginning of it. -/
import Derived.Test.YteiilifljfagdaaA
import Derived.WalkKit
namespace Go.Proofs.Yteiilifljfagdaa
open Go.RowKit
set_option linter.unusedVariables false
set_option linter.unusedSimpArgs false
def sevK : Nat → Nat → List UInt8
  | 0, _ => []
  | k + 1, n => (n % 256).toUInt8 :: sevK k (n / 256)
/-- a number in seven bytes, the lowest first -/
def seven (n : Nat) : List UInt8 := sevK 7 n
def numL : List UInt8 → Nat
  | [] => 0
  | b :: l => b.toNat + 256 * numL l
/-- the number of the first seven bytes -/
def numb (l : List UInt8) : Nat := numL (l.take 7)
theorem sevK_len (k : Nat) : ∀ n, (sevK k n).length = k := by
  induction k with
  | zero => intro n; rfl
  | succ k ih => intro n; rw [sevK, List.length_cons, ih]
theorem seven_len (n : Nat) : (seven n).length = 7 := sevK_len 7 n
theorem numL_sevK (k : Nat) : ∀ n, numL (sevK k n) = n % 256 ^ k := by
  induction k with
  | zero => intro n; show 0 = n % 1; omega
  | succ k ih =>
    intro n
    rw [sevK, numL, ih, u8n _ (by omega), Nat.pow_succ, Nat.mul_comm (256 ^ k) 256, Nat.mod_mul]
theorem numb_seven (n : Nat) (r : List UInt8) (h : n < 72057594037927936) : numb (seven n ++ r) = n := by
  unfold numb
  rw [List.take_append_of_le_length (by rw [seven_len]; omega), List.take_of_length_le (by rw [seven_len]; omega)]
  show numL (sevK 7 n) = n
  rw [numL_sevK]
  exact Nat.mod_eq_of_lt h
/-- a text in pieces of 4096 bytes -/
def cutF : Nat → List UInt8 → List (List UInt8)
  | 0, _ => []
  | n + 1, l => if l.length = 0 then [] else l.take 4096 :: cutF n (l.drop 4096)
theorem cutF_join : ∀ (n : Nat) (l : List UInt8), l.length ≤ n → (cutF n l).flatten = l := by
  intro n
  induction n with
  | zero => intro l h; rw [List.length_eq_zero_iff.1 (by omega : l.length = 0)]; rfl
  | succ n ih =>
    intro l h
    rw [cutF]
    by_cases h0 : l.length = 0
    · rw [if_pos h0, List.length_eq_zero_iff.1 h0]; rfl
    · rw [if_neg h0, List.flatten_cons, ih _ (by rw [List.length_drop]; omega), List.take_append_drop]
theorem cutF_ok : ∀ (n : Nat) (l : List UInt8), allOk (cutF n l) = true := by
  intro n
  induction n with
  | zero => intro l; rfl
  | succ n ih =>
    intro l
    rw [cutF]
    by_cases h0 : l.length = 0
    · rw [if_pos h0]; rfl
    · rw [if_neg h0]
      have := ih (l.drop 4096)
      unfold allOk at this ⊢
      rw [List.all_cons, this, Bool.and_true, decide_eq_true_eq, List.length_take]
      omega
theorem cutF_count : ∀ (n : Nat) (l : List UInt8), (cutF n l).length ≤ l.length := by
  intro n
  induction n with
  | zero => intro l; exact Nat.zero_le _
  | succ n ih =>
    intro l
    rw [cutF]
    by_cases h0 : l.length = 0
    · rw [if_pos h0]; exact Nat.zero_le _
    · rw [if_neg h0, List.length_cons]
      have := ih (l.drop 4096)
      rw [List.length_drop] at this
      omega
theorem cutF_fuel : ∀ (n m : Nat) (l : List UInt8), l.length ≤ n → l.length ≤ m → cutF n l = cutF m l := by
  intro n
  induction n with
  | zero =>
    intro m l hn hm
    cases m with
    | zero => rfl
    | succ m => rw [cutF, cutF, if_pos (by omega)]
  | succ n ih =>
    intro m l hn hm
    cases m with
    | zero => rw [cutF, cutF, if_pos (by omega)]
    | succ m =>
      rw [cutF, cutF]
      by_cases h0 : l.length = 0
      · rw [if_pos h0, if_pos h0]
      · rw [if_neg h0, if_neg h0, ih m _ (by rw [List.length_drop]; omega) (by rw [List.length_drop]; omega)]
def cuts (l : List UInt8) : List (List UInt8) := cutF l.length l
theorem cuts_join (l : List UInt8) : (cuts l).flatten = l := cutF_join _ _ (Nat.le_refl _)
theorem cuts_ok (l : List UInt8) : allOk (cuts l) = true := cutF_ok _ _
theorem cuts_count (l : List UInt8) : (cuts l).length ≤ l.length := cutF_count _ _
theorem cuts_step {l : List UInt8} (h : l.length ≠ 0) : cuts l = l.take 4096 :: cuts (l.drop 4096) := by
  unfold cuts
  obtain ⟨n, hn⟩ : ∃ n, l.length = n + 1 := ⟨l.length - 1, by omega⟩
  rw [hn, cutF, if_neg h, cutF_fuel n (l.drop 4096).length _ (by rw [List.length_drop]; omega) (Nat.le_refl _)]
theorem cuts_nil : cuts [] = [] := rfl
/-- the first record -/
def hd3 (g a n : Nat) : List UInt8 := seven g ++ (seven a ++ seven n)
theorem hd3_len (g a n : Nat) : (hd3 g a n).length = 21 := by
  unfold hd3
  rw [List.length_append, List.length_append, seven_len, seven_len, seven_len]
/-- a new file's bytes -/
def lay (g a : Nat) (s : List UInt8) : List UInt8 := flat (hd3 g a (cuts s).length :: cuts s)
/-- what a file has -/
structure Jn where
  gen : Nat
  ahead : Nat
  st : List UInt8
  l : List (List UInt8)
  fin : Nat
/-- the records of a state: each is as long as can be, but the last one, and that is not empty -/
def pcs : List (List UInt8) → Bool
  | [] => true
  | a :: r => a.length != 0 && (r.length == 0 || decide (4096 ≤ a.length)) && pcs r
theorem pcs_cutF : ∀ (n : Nat) (l : List UInt8), l.length ≤ n → pcs (cutF n l) = true := by
  intro n
  induction n with
  | zero => intro l _; rfl
  | succ n ih =>
    intro l h
    rw [cutF]
    by_cases h0 : l.length = 0
    · rw [if_pos h0]; rfl
    · rw [if_neg h0, pcs, ih _ (by rw [List.length_drop]; omega), Bool.and_true, Bool.and_eq_true]
      refine ⟨?_, ?_⟩
      · rw [bne_iff_ne, List.length_take]; omega
      · by_cases hc : 4096 ≤ l.length
        · rw [List.length_take, Nat.min_eq_left hc]; simp
        · have hz : (l.drop 4096).length = 0 := by rw [List.length_drop]; omega
          have he : (cutF n (l.drop 4096)).length = 0 := by
            have := cutF_count n (l.drop 4096)
            omega
          rw [he]; rfl
theorem pcs_cuts (l : List UInt8) : pcs (cuts l) = true := pcs_cutF _ _ (Nat.le_refl _)
def look (s : List UInt8) : Option Jn :=
  match (rdA s).1 with
  | [] => none
  | h :: r => if h.length ≠ 21 then none else if numb h = 0 ∨ r.length < numb (h.drop 14) then none else if pcs (r.take (numb (h.drop 14))) = false then none else some ⟨numb h, numb (h.drop 7), (r.take (numb (h.drop 14))).flatten, r.drop (numb (h.drop 14)), (rdA s).2.1⟩
/-- how many records are whole in so many bytes, and where they end: the bytes of them -/
theorem whole_end (l : List (List UInt8)) : ∀ k, (whole l k).2 = (flat (l.take (whole l k).1)).length := by
  induction l with
  | nil => intro k; rfl
  | cons a l ih =>
    intro k
    rw [whole]
    by_cases h : a.length + 12 ≤ k
    · rw [if_pos h]
      show a.length + 12 + _ = (flat (a :: l.take _)).length
      rw [flat_cons, List.length_append, putL_len, ih]
    · rw [if_neg h]; rfl
theorem whole_le (l : List (List UInt8)) : ∀ k, (whole l k).1 ≤ l.length := by
  induction l with
  | nil => intro k; exact Nat.le_refl _
  | cons a l ih =>
    intro k
    rw [whole]
    by_cases h : a.length + 12 ≤ k
    · rw [if_pos h]
      show _ + 1 ≤ l.length + 1
      have := ih (k - (a.length + 12))
      omega
    · rw [if_neg h]; exact Nat.zero_le _
/-- where the first m fit, at least m are whole -/
theorem whole_ge (l : List (List UInt8)) : ∀ m k, m ≤ l.length → (flat (l.take m)).length ≤ k → m ≤ (whole l k).1 := by
  induction l with
  | nil => intro m k hm _; exact hm
  | cons a l ih =>
    intro m k hm hk
    cases m with
    | zero => exact Nat.zero_le _
    | succ m =>
      rw [List.take_succ_cons, flat_cons, List.length_append, putL_len] at hk
      rw [whole, if_pos (by omega)]
      have := ih m (k - (a.length + 12)) (by simpa using hm) (by omega)
      show m + 1 ≤ _ + 1
      omega
/-- where fewer bytes are there than the first m take, fewer are whole -/
theorem whole_lt (l : List (List UInt8)) : ∀ m k, m ≤ l.length → k < (flat (l.take m)).length → (whole l k).1 < m := by
  induction l with
  | nil =>
    intro m k hm hk
    have : m = 0 := by simpa using hm
    subst this
    simp [flat] at hk
  | cons a l ih =>
    intro m k hm hk
    cases m with
    | zero => simp [flat] at hk
    | succ m =>
      rw [List.take_succ_cons, flat_cons, List.length_append, putL_len] at hk
      rw [whole]
      by_cases h : a.length + 12 ≤ k
      · rw [if_pos h]
        have := ih m (k - (a.length + 12)) (by simpa using hm) (by omega)
        show _ + 1 < m + 1
        omega
      · rw [if_neg h]; exact Nat.succ_pos _
theorem flat_app (l m : List (List UInt8)) : flat (l ++ m) = flat l ++ flat m := List.flatMap_append ..
theorem allOk_app (l m : List (List UInt8)) : allOk (l ++ m) = (allOk l && allOk m) := List.all_append ..
/-- numbers that fit -/
structure Fit (g a : Nat) (s : List UInt8) : Prop where
  g0 : g ≠ 0
  g : g < 72057594037927936
  a : a < 72057594037927936
  s : s.length < 72057594037927936
theorem Fit.n {g a : Nat} {s : List UInt8} (h : Fit g a s) : (cuts s).length < 72057594037927936 := Nat.lt_of_le_of_lt (cuts_count s) h.s
theorem hd3_gen {g a : Nat} {s : List UInt8} (h : Fit g a s) : numb (hd3 g a (cuts s).length) = g := numb_seven g _ h.g
theorem hd3_ahead {g a : Nat} {s : List UInt8} (h : Fit g a s) : numb ((hd3 g a (cuts s).length).drop 7) = a := by
  unfold hd3
  rw [List.drop_append_of_le_length (by rw [seven_len]; omega), List.drop_of_length_le (by rw [seven_len]; omega), List.nil_append]
  exact numb_seven a _ h.a
theorem hd3_n {g a : Nat} {s : List UInt8} (h : Fit g a s) : numb ((hd3 g a (cuts s).length).drop 14) = (cuts s).length := by
  have e : (hd3 g a (cuts s).length).drop 14 = seven (cuts s).length := by
    have h1 : (seven g ++ seven a).length = 14 := by rw [List.length_append, seven_len, seven_len]
    unfold hd3
    rw [← List.append_assoc, ← h1, List.drop_left]
  rw [e, ← List.append_nil (seven _)]
  exact numb_seven _ [] h.n
/-- the records of a journal's file -/
def recs (g a : Nat) (s : List UInt8) (ds : List (List UInt8)) : List (List UInt8) := hd3 g a (cuts s).length :: (cuts s ++ ds)
theorem recs_flat (g a : Nat) (s : List UInt8) (ds : List (List UInt8)) : flat (recs g a s ds) = lay g a s ++ flat ds := by
  unfold recs lay
  rw [flat_cons, flat_app, flat_cons, List.append_assoc]
theorem recs_ok {g a : Nat} {s : List UInt8} {ds : List (List UInt8)} (h : allOk ds = true) : allOk (recs g a s ds) = true := by
  have h1 := allOk_app (cuts s) ds
  rw [cuts_ok, h, Bool.true_and] at h1
  unfold recs
  unfold allOk at h1 ⊢
  rw [List.all_cons, h1, Bool.and_true, decide_eq_true_eq, hd3_len]
  omega
theorem recs_take (g a : Nat) (s : List UInt8) (ds : List (List UInt8)) (j : Nat) : (recs g a s ds).take ((cuts s).length + 1 + j) = recs g a s (ds.take j) := by
  unfold recs
  rw [show (cuts s).length + 1 + j = (cuts s).length + j + 1 by omega, List.take_succ_cons, List.take_append, List.take_of_length_le (by omega), Nat.add_sub_cancel_left]
/-- every beginning of a journal's file: no state, or the state and the commands that are whole in it -/
theorem look_torn {g a : Nat} {s : List UInt8} {ds : List (List UInt8)} (h : Fit g a s) (hd : allOk ds = true) (k : Nat) (hk : k ≤ (lay g a s ++ flat ds).length) :
    (k < (lay g a s).length → look ((lay g a s ++ flat ds).take k) = none) ∧
    ((lay g a s).length ≤ k → ∃ j, j ≤ ds.length ∧ (lay g a s ++ flat (ds.take j)).length ≤ k ∧ (∀ i, i ≤ ds.length → (lay g a s ++ flat (ds.take i)).length ≤ k → i ≤ j) ∧
      look ((lay g a s ++ flat ds).take k) = some ⟨g, a, s, ds.take j, (lay g a s ++ flat (ds.take j)).length⟩) := by
  rw [← recs_flat] at hk ⊢
  have hr := rdA_torn (recs g a s ds) (recs_ok hd) k hk
  have hm := whole_le (recs g a s ds) k
  have he := whole_end (recs g a s ds) k
  have hlen : (recs g a s ds).length = (cuts s).length + 1 + ds.length := by unfold recs; rw [List.length_cons, List.length_append]; omega
  have hlay : flat ((recs g a s ds).take ((cuts s).length + 1)) = lay g a s := by
    have := recs_take g a s ds 0
    rw [Nat.add_zero, List.take_zero] at this
    rw [this, recs_flat]
    show lay g a s ++ [] = _
    rw [List.append_nil]
  constructor
  · intro hlt
    have hw := whole_lt (recs g a s ds) ((cuts s).length + 1) k (by omega) (by rw [hlay]; exact hlt)
    unfold look
    rw [hr]
    generalize (whole (recs g a s ds) k).1 = m at *
    cases m with
    | zero => rfl
    | succ m =>
      unfold recs
      rw [List.take_succ_cons]
      simp only
      rw [hd3_len, if_neg (by omega), hd3_gen h, hd3_n h, if_pos]
      right
      rw [List.length_take, List.length_append]
      omega
  · intro hge
    have hw := whole_ge (recs g a s ds) ((cuts s).length + 1) k (by omega) (by rw [hlay]; exact hge)
    obtain ⟨j, hj⟩ : ∃ j, (whole (recs g a s ds) k).1 = (cuts s).length + 1 + j := ⟨(whole (recs g a s ds) k).1 - ((cuts s).length + 1), by omega⟩
    have hE : (whole (recs g a s ds) k).2 = (lay g a s ++ flat (ds.take j)).length := by rw [he, hj, recs_take, recs_flat]
    refine ⟨j, by omega, ?_, ?_, ?_⟩
    · rw [← hE]
      have : (rdA ((flat (recs g a s ds)).take k)).2.1 = (whole (recs g a s ds) k).2 := by rw [hr]
      rcases Nat.lt_or_ge k (whole (recs g a s ds) k).2 with hc | hc
      · have := whole_lt (recs g a s ds) ((cuts s).length + 1 + j) k (by omega) (by rw [recs_take, recs_flat, ← hE]; exact hc)
        omega
      · exact hc
    · intro i hi hik
      have := whole_ge (recs g a s ds) ((cuts s).length + 1 + i) k (by omega) (by rw [recs_take, recs_flat]; exact hik)
      omega
    · unfold look
      rw [hr, hE, hj, recs_take]
      unfold recs
      simp only
      rw [hd3_len, if_neg (by omega), hd3_gen h, hd3_n h, if_neg (by
        intro hc
        rcases hc with hc | hc
        · exact h.g0 hc
        · rw [List.length_append] at hc; omega), hd3_ahead h, List.take_left, if_neg (by rw [pcs_cuts]; exact fun q => by cases q), List.drop_left, cuts_join]
/- A journal on a disk, as numbers: Format, Open, Add, Turn; what holds while it runs, and what is kept behind a call that ended in the midst. -/
def fl (S : St) (i : Nat) : List UInt8 := (S.f i).data.toList
def ba (l : List UInt8) : ByteArray := ⟨l.toArray⟩
theorem ba_data (l : List UInt8) : (ba l).data.toList = l := rfl
theorem ba_size (l : List UInt8) : (ba l).size = l.length := by show l.toArray.size = _; simp
theorem fl_len (S : St) (i : Nat) : (fl S i).length = (S.f i).size := rfl
/-- one call behind the other, up to the first error -/
def thn (r : St × Int) (g : St → St × Int) : St × Int := if r.2 = 0 then g r.1 else r
theorem thn_ok {r : St × Int} {g : St → St × Int} (h : r.2 = 0) : thn r g = g r.1 := if_pos h
theorem thn_no {r : St × Int} {g : St → St × Int} (h : r.2 ≠ 0) : thn r g = r := if_neg h
def fmt (S : St) (t : List UInt8) : St × Int := thn (thn (thn (ctf S 0 0) fun D => ctf D 1 0) fun D => app D 0 (ba (lay 1 0 t))) fun D => syn D 0
/-- the file that counts -/
def pick (S : St) : Option (Nat × Jn) :=
  match look (fl S 0), look (fl S 1) with
  | none, none => none
  | some a, none => some (0, a)
  | none, some b => some (1, b)
  | some a, some b => if a.gen < b.gen then some (1, b) else some (0, a)
def opn (S : St) : St × Int :=
  if chk S 0 ≠ 0 then (S, chk S 0) else
  match pick S with
  | none => (S, 15)
  | some (f, j) => thn (if j.fin < (S.f f).size then ctf S f j.fin else (S, 0)) fun D => syn D f
/-- Add's and Turn's changes of the disk -/
def adR (S : St) (f : Nat) (c : List UInt8) : St × Int := thn (app S f (ba (putL c))) fun D => syn D f
def tnR (S : St) (o : Nat) (s : List UInt8) : St × Int := thn (thn (ctf S o 0) fun D => app D o (ba s)) fun D => syn D o
/-- the files are the same, and how many of each are safe; no power comes -/
structure Sm (S D : St) : Prop where
  f : D.f = S.f
  s : D.s = S.s
theorem chg_cases (S : St) (e : Int) (g : St → St) : (e ≠ 0 ∧ chg S e g = (S, e)) ∨ (e = 0 ∧ 0 ≤ S.lim ∧ (chg S e g).2 = 13 ∧ Sm S (chg S e g).1) ∨ (e = 0 ∧ ∃ D, Sm S D ∧ D.gone = S.gone ∧ (0 ≤ D.lim → 0 ≤ S.lim) ∧ chg S e g = (g D, 0)) := by
  unfold chg
  by_cases he : e ≠ 0
  · exact .inl ⟨he, by rw [if_pos he]⟩
  · right
    rw [if_neg he]
    rcases spd_cases S with ⟨h, e2⟩ | ⟨h, e2⟩ | ⟨h, e2⟩
    · left
      rw [e2, if_pos (by show (13 : Int) ≠ 0; decide)]
      exact ⟨by omega, by omega, rfl, rfl, rfl⟩
    · right
      rw [e2, if_neg (by simp)]
      exact ⟨by omega, { S with lim := S.lim - 1 }, ⟨rfl, rfl⟩, rfl, fun _ => by omega, rfl⟩
    · right
      rw [e2, if_neg (by simp)]
      exact ⟨by omega, S, ⟨rfl, rfl⟩, rfl, fun h' => h', rfl⟩
theorem chk_on {S : St} {i : Nat} (h : S.gone = false) (hi : i ≤ 1) : chk S (i : Int) = 0 := by
  unfold chk
  rw [if_neg (by rw [h]; exact Bool.false_ne_true), if_neg (by omega)]
/-- Sync -/
theorem syn_do {S : St} {i : Nat} (h : S.gone = false) (hi : i ≤ 1) :
    (0 ≤ S.lim ∧ (syn S i).2 ≠ 0 ∧ Sm S (syn S i).1) ∨
    ((syn S i).2 = 0 ∧ (syn S i).1.f = S.f ∧ (syn S i).1.s = put S.s i (S.f i).size ∧ (syn S i).1.gone = false ∧ (0 ≤ (syn S i).1.lim → 0 ≤ S.lim)) := by
  rcases chg_cases S (chk S i) (fun D => { D with s := put D.s (i : Int).toNat (D.f (i : Int).toNat).size }) with ⟨h1, _⟩ | ⟨_, h2, h3, h4⟩ | ⟨_, D, hD, hg, hl, he⟩
  · exact absurd (chk_on h hi) h1
  · exact .inl ⟨h2, by show (chg _ _ _).2 ≠ 0; rw [h3]; decide, h4⟩
  · right
    have e : syn S i = _ := he
    rw [e]
    refine ⟨rfl, hD.f, ?_, hg.trans h, hl⟩
    show put D.s (i : Int).toNat (D.f (i : Int).toNat).size = _
    rw [hD.f, hD.s, Int.toNat_natCast]
/-- Append -/
theorem app_do {S : St} {i : Nat} (h : S.gone = false) (hi : i ≤ 1) (t : ByteArray) (ht : (S.f i).size + t.size ≤ 1048576) :
    (0 ≤ S.lim ∧ (app S i t).2 ≠ 0 ∧ (app S i t).2 ≠ 18 ∧ Sm S (app S i t).1) ∨
    ((app S i t).2 = 0 ∧ (app S i t).1.f = put S.f i (S.f i ++ t) ∧ (app S i t).1.s = S.s ∧ (app S i t).1.gone = false ∧ (0 ≤ (app S i t).1.lim → 0 ≤ S.lim)) := by
  have hf : full S i t.size = 0 := by
    unfold full
    rw [chk_on h hi, if_neg (by simp), Int.toNat_natCast, if_neg (by omega)]
  rcases chg_cases S (full S i t.size) (fun D => { D with f := put D.f (i : Int).toNat (D.f (i : Int).toNat ++ t) }) with ⟨h1, _⟩ | ⟨_, h2, h3, h4⟩ | ⟨_, D, hD, hg, hl, he⟩
  · exact absurd hf h1
  · exact .inl ⟨h2, by show (chg _ _ _).2 ≠ 0; rw [h3]; decide, by show (chg _ _ _).2 ≠ 18; rw [h3]; decide, h4⟩
  · right
    have e : app S i t = _ := he
    rw [e]
    refine ⟨rfl, ?_, hD.s, hg.trans h, hl⟩
    show put D.f (i : Int).toNat (D.f (i : Int).toNat ++ t) = _
    rw [hD.f, Int.toNat_natCast]
/-- Cut -/
theorem ctf_do {S : St} {i n : Nat} (h : S.gone = false) (hi : i ≤ 1) (hn : n ≤ (S.f i).size) :
    (0 ≤ S.lim ∧ (ctf S i n).2 ≠ 0 ∧ Sm S (ctf S i n).1) ∨
    ((ctf S i n).2 = 0 ∧ (ctf S i n).1.f = put S.f i ((S.f i).extract 0 n) ∧ (ctf S i n).1.s = put S.s i (min (S.s i) n) ∧ (ctf S i n).1.gone = false ∧ (0 ≤ (ctf S i n).1.lim → 0 ≤ S.lim)) := by
  have hf : argE S i n = 0 := by
    unfold argE
    rw [chk_on h hi, if_neg (by simp), Int.toNat_natCast, if_neg (by omega)]
  rcases chg_cases S (argE S i n) (fun D => { D with f := put D.f (i : Int).toNat ((D.f (i : Int).toNat).extract 0 (n : Int).toNat), s := put D.s (i : Int).toNat (min (D.s (i : Int).toNat) (n : Int).toNat) }) with ⟨h1, _⟩ | ⟨_, h2, h3, h4⟩ | ⟨_, D, hD, hg, hl, he⟩
  · exact absurd hf h1
  · exact .inl ⟨h2, by show (chg _ _ _).2 ≠ 0; rw [h3]; decide, h4⟩
  · right
    have e : ctf S i n = _ := he
    rw [e]
    refine ⟨rfl, ?_, ?_, hg.trans h, hl⟩
    · show put D.f (i : Int).toNat ((D.f (i : Int).toNat).extract 0 (n : Int).toNat) = _
      rw [hD.f, Int.toNat_natCast, Int.toNat_natCast]
    · show put D.s (i : Int).toNat (min (D.s (i : Int).toNat) (n : Int).toNat) = _
      rw [hD.s, Int.toNat_natCast, Int.toNat_natCast]
theorem fl_ext (b : ByteArray) (n : Nat) : (b.extract 0 n).data.toList = b.data.toList.take n := by
  rw [ByteArray.data_extract, Array.toList_extract]
  show (b.data.toList.drop 0).take (n - 0) = _
  rw [List.drop_zero, Nat.sub_zero]
theorem fl_put (S : St) (D : St) (i : Nat) (b : ByteArray) (h : D.f = put S.f i b) : fl D i = b.data.toList ∧ ∀ j, j ≠ i → fl D j = fl S j := by
  unfold fl
  rw [h]
  exact ⟨by rw [put_eq], fun j hj => by rw [put_ne _ _ _ _ hj]⟩
theorem fl_same {S D : St} (h : D.f = S.f) (i : Nat) : fl D i = fl S i := by unfold fl; rw [h]
theorem fl_crs (S : St) (k : Nat → Int) (i : Nat) : fl (crs S k) i = (fl S i).take (lft (S.f i).size (S.s i) (k i)) := fl_ext _ _
/-- another file's journal, if it has one, is older, whatever is kept of it -/
def Old (S : St) (o g : Nat) : Prop := ∀ k, S.s o ≤ k → k ≤ (fl S o).length → ∀ j, look ((fl S o).take k) = some j → j.gen < g
theorem Old.same {S D : St} {o g : Nat} (h : Old S o g) (hf : fl D o = fl S o) (hs : D.s o = S.s o) : Old D o g := by
  unfold Old
  rw [hf, hs]
  exact h
theorem take_len (l : List UInt8) : l.take l.length = l := List.take_of_length_le (Nat.le_refl _)
/-- at rest: all is safe -/
theorem Old.rest {S : St} {o g : Nat} (hs : S.s o = (S.f o).size) (h : ∀ j, look (fl S o) = some j → j.gen < g) : Old S o g := by
  intro k h1 h2 j hj
  have : k = (fl S o).length := by rw [fl_len] at h2 ⊢; omega
  subst this
  rw [take_len] at hj
  exact h j hj
/-- a journal that runs -/
structure Run (S : St) (f g a : Nat) (s : List UInt8) (cs : List (List UInt8)) : Prop where
  f1 : f ≤ 1
  fit : Fit g a s
  ok : allOk cs = true
  all : fl S f = lay g a s ++ flat cs
  safe : S.s f = (S.f f).size
  old : Old S (1 - f) g
  on : S.gone = false
  disk : Ok S
/-- what is kept behind a call that ended in the midst: c was being added, or the state t laid down (N commands ahead of it) -/
structure Kept (S : St) (f g a : Nat) (s : List UInt8) (cs : List (List UInt8)) (c : List UInt8) (N : Nat) (t : List UInt8) : Prop where
  f1 : f ≤ 1
  fit : Fit g a s
  fit2 : Fit (g + 1) N t
  ok : allOk (cs ++ [c]) = true
  all : ∃ k, k ≤ (lay g a s ++ flat (cs ++ [c])).length ∧ fl S f = (lay g a s ++ flat (cs ++ [c])).take k
  safe : (lay g a s ++ flat cs).length ≤ S.s f
  other : Old S (1 - f) g ∨ ∃ k, k ≤ (lay (g + 1) N t).length ∧ fl S (1 - f) = (lay (g + 1) N t).take k
  disk : Ok S
theorem ne_other {f : Nat} (h : f ≤ 1) : 1 - f ≠ f := by omega
theorem Run.lim {S : St} {f g a : Nat} {s : List UInt8} {cs : List (List UInt8)} (h : Run S f g a s cs) (n : Int) (h1 : -9223372036854775808 ≤ n) (h2 : n ≤ 9223372036854775807) : Run { S with lim := n } f g a s cs :=
  ⟨h.f1, h.fit, h.ok, h.all, h.safe, h.old, h.on, lim_ok h.disk n h1 h2⟩
theorem allOk_snoc {cs : List (List UInt8)} {c : List UInt8} (h : allOk cs = true) (hc : c.length ≤ 4096) : allOk (cs ++ [c]) = true := by
  rw [allOk_app, h, Bool.true_and]
  unfold allOk
  rw [List.all_cons, List.all_nil, Bool.and_true, decide_eq_true_eq]
  exact hc
theorem flat_snoc (l : List (List UInt8)) (a : List UInt8) : flat (l ++ [a]) = flat l ++ putL a := by
  rw [flat_app, flat_cons]
  show flat l ++ (putL a ++ []) = _
  rw [List.append_nil]
/-- of a running journal nothing is lost, whatever was meant -/
theorem Run.kept {S D : St} {f g a : Nat} {s : List UInt8} {cs : List (List UInt8)} (h : Run S f g a s cs) (hs : Sm S D) (hd : Ok D) {c : List UInt8} (hc : c.length ≤ 4096) {N : Nat} {t : List UInt8} (ht : Fit (g + 1) N t) : Kept D f g a s cs c N t := by
  refine ⟨h.f1, h.fit, ht, allOk_snoc h.ok hc, ⟨(lay g a s ++ flat cs).length, ?_, ?_⟩, ?_, .inl (h.old.same (fl_same hs.f _) (by rw [hs.s])), hd⟩
  · rw [flat_snoc, ← List.append_assoc, @List.length_append _ (lay g a s ++ flat cs) _]; omega
  · rw [flat_snoc, ← List.append_assoc, List.take_left, fl_same hs.f, h.all]
  · rw [hs.s, h.safe, ← fl_len, h.all]; exact Nat.le_refl _
/-- Add -/
theorem Run.add {S : St} {f g a : Nat} {s : List UInt8} {cs : List (List UInt8)} (h : Run S f g a s cs) {c : List UInt8} (hc : c.length ≤ 4096) (hz : (S.f f).size + (c.length + 12) ≤ 1048576) :
    ((adR S f c).2 = 0 ∧ Run (adR S f c).1 f g a s (cs ++ [c]) ∧ (0 ≤ (adR S f c).1.lim → 0 ≤ S.lim)) ∨
    ((adR S f c).2 ≠ 0 ∧ (app S f (ba (putL c))).2 ≠ 18 ∧ 0 ≤ S.lim ∧ ∀ N t, Fit (g + 1) N t → Kept (adR S f c).1 f g a s cs c N t) := by
  have hA := app_ok h.disk f (ba (putL c))
  unfold adR
  rcases app_do h.on h.f1 (ba (putL c)) (by rw [ba_size, putL_len]; exact hz) with ⟨h1, h2, h3, h4⟩ | ⟨h1, h2, h3, h4, h5⟩
  · rw [thn_no h2]
    exact .inr ⟨h2, h3, h1, fun N t ht => h.kept h4 hA hc ht⟩
  · rw [thn_ok h1]
    obtain ⟨e1, e2⟩ := fl_put S _ f _ h2
    have hne := ne_other h.f1
    have eb : (S.f f ++ ba (putL c)).data.toList = lay g a s ++ flat (cs ++ [c]) := by
      rw [ByteArray.data_append, Array.toList_append]
      show fl S f ++ putL c = _
      rw [h.all, flat_snoc, List.append_assoc]
    have hold : Old (app S f (ba (putL c))).1 (1 - f) g := h.old.same (e2 _ hne) (by rw [h3])
    generalize app S f (ba (putL c)) = R at *
    have hS := syn_ok hA f
    rcases syn_do h4 h.f1 with ⟨k1, k2, k3⟩ | ⟨k1, k2, k3, k4, k5⟩
    · refine .inr ⟨k2, by rw [h1]; decide, h5 k1, fun N t ht => ⟨h.f1, h.fit, ht, allOk_snoc h.ok hc, ⟨_, Nat.le_refl _, ?_⟩, ?_, .inl (hold.same (fl_same k3.f _) (by rw [k3.s])), hS⟩⟩
      · rw [take_len, fl_same k3.f, e1, eb]
      · rw [k3.s, h3, h.safe, ← fl_len, h.all]; exact Nat.le_refl _
    · refine .inl ⟨k1, ⟨h.f1, h.fit, allOk_snoc h.ok hc, ?_, ?_, ?_, k4, hS⟩, fun q => h5 (k5 q)⟩
      · rw [fl_same k2, e1, eb]
      · rw [k3, k2, put_eq]
      · exact hold.same (fl_same k2 _) (by rw [k3, put_ne _ _ _ _ hne])
/-- an older generation: every beginning of a journal's file -/
theorem Old.of_file {S : St} {o g g' a : Nat} {s : List UInt8} {ds : List (List UInt8)} (hf : Fit g a s) (hd : allOk ds = true) (h : ∃ k, k ≤ (lay g a s ++ flat ds).length ∧ fl S o = (lay g a s ++ flat ds).take k) (hg : g < g') : Old S o g' := by
  obtain ⟨k, hk, he⟩ := h
  intro i _ hi j hj
  rw [he] at hj hi
  rw [List.length_take] at hi
  rw [List.take_take] at hj
  obtain ⟨t1, t2⟩ := look_torn hf hd (min i k) (by omega)
  rcases Nat.lt_or_ge (min i k) (lay g a s).length with hc | hc
  · rw [t1 hc] at hj; cases hj
  · obtain ⟨m, _, _, _, e⟩ := t2 hc
    rw [e] at hj
    injection hj with hj
    rw [← hj]
    exact hg
theorem nil_take {α : Type} (b : ByteArray) : (b.extract 0 0).data.toList = [] := by rw [fl_ext, List.take_zero]
/-- Turn -/
theorem Run.turn {S : St} {f g a : Nat} {s : List UInt8} {cs : List (List UInt8)} (h : Run S f g a s cs) {N : Nat} {t : List UInt8} (ht : Fit (g + 1) N t) (hz : (lay (g + 1) N t).length ≤ 1048576) :
    ((tnR S (1 - f) (lay (g + 1) N t)).2 = 0 ∧ Run (tnR S (1 - f) (lay (g + 1) N t)).1 (1 - f) (g + 1) N t [] ∧ (0 ≤ (tnR S (1 - f) (lay (g + 1) N t)).1.lim → 0 ≤ S.lim)) ∨
    ((tnR S (1 - f) (lay (g + 1) N t)).2 ≠ 0 ∧ 0 ≤ S.lim ∧ ∀ c, c.length ≤ 4096 → Kept (tnR S (1 - f) (lay (g + 1) N t)).1 f g a s cs c N t) := by
  have hne := ne_other h.f1
  have ho1 : 1 - f ≤ 1 := by omega
  have hC := ctf_ok h.disk (1 - f : Nat) (0 : Nat)
  have hno : 1 - (1 - f) = f := by have := h.f1; omega
  unfold tnR
  rcases ctf_do (n := 0) h.on ho1 (Nat.zero_le _) with ⟨h1, h2, h3⟩ | ⟨h1, h2, h3, h4, h5⟩
  · have h2' : (ctf S ((1 - f : Nat) : Int) 0).2 ≠ 0 := h2
    rw [thn_no (r := ctf S ((1 - f : Nat) : Int) 0) h2', thn_no h2']
    exact .inr ⟨h2', h1, fun c hc => h.kept h3 hC hc ht⟩
  · have h1' : (ctf S ((1 - f : Nat) : Int) 0).2 = 0 := h1
    rw [thn_ok (r := ctf S ((1 - f : Nat) : Int) 0) h1']
    obtain ⟨e1, e2⟩ := fl_put S _ (1 - f) _ h2
    rw [nil_take (α := Nat)] at e1
    have e3 := e2 f (fun q => hne q.symm)
    have hsz : ((ctf S ((1 - f : Nat) : Int) (0 : Nat)).1.f (1 - f)).size = 0 := by rw [← fl_len, e1]; rfl
    have hsf : (ctf S ((1 - f : Nat) : Int) (0 : Nat)).1.s f = S.s f := by rw [h3, put_ne _ _ _ _ (fun q => hne q.symm)]
    have hgone : (ctf S ((1 - f : Nat) : Int) (0 : Nat)).1.gone = false := h4
    have hlimC : 0 ≤ (ctf S ((1 - f : Nat) : Int) (0 : Nat)).1.lim → 0 ≤ S.lim := h5
    clear h1 h2 h3 h4 h5 h1'
    have hC' : Ok (ctf S ((1 - f : Nat) : Int) (0 : Nat)).1 := hC
    show ((thn (app (ctf S ((1 - f : Nat) : Int) (0 : Nat)).1 ((1 - f : Nat) : Int) (ba (lay (g + 1) N t))) fun D => syn D ((1 - f : Nat) : Int)).2 = 0 ∧ _) ∨ _
    generalize (ctf S ((1 - f : Nat) : Int) (0 : Nat)).1 = C at *
    have hall : ∀ {D : St}, fl D f = fl C f → ∀ {c : List UInt8}, ∃ k, k ≤ (lay g a s ++ flat (cs ++ [c])).length ∧ fl D f = (lay g a s ++ flat (cs ++ [c])).take k := by
      intro D hD c
      refine ⟨(lay g a s ++ flat cs).length, ?_, ?_⟩
      · rw [flat_snoc, ← List.append_assoc, @List.length_append _ (lay g a s ++ flat cs) _]; omega
      · rw [flat_snoc, ← List.append_assoc, List.take_left, hD, e3, h.all]
    have hsafe : (lay g a s ++ flat cs).length ≤ C.s f := by rw [hsf, h.safe, ← fl_len, h.all]; exact Nat.le_refl _
    rcases app_do hgone ho1 (ba (lay (g + 1) N t)) (by rw [ba_size, hsz]; omega) with ⟨a1, a2, a3, a4⟩ | ⟨a1, a2, a3, a4, a5⟩
    · have hA := app_ok hC' ((1 - f : Nat) : Int) (ba (lay (g + 1) N t))
      rw [thn_no a2]
      refine .inr ⟨a2, hlimC a1, fun c hc => ⟨h.f1, h.fit, ht, allOk_snoc h.ok hc, hall (fl_same a4.f f), by rw [a4.s]; exact hsafe, .inr ⟨0, Nat.zero_le _, ?_⟩, hA⟩⟩
      rw [fl_same a4.f, e1, List.take_zero]
    · have hA := app_ok hC' ((1 - f : Nat) : Int) (ba (lay (g + 1) N t))
      rw [thn_ok a1]
      obtain ⟨b1, b2⟩ := fl_put C _ (1 - f) _ a2
      have eb : (C.f (1 - f) ++ ba (lay (g + 1) N t)).data.toList = lay (g + 1) N t := by
        rw [ByteArray.data_append, Array.toList_append]
        show fl C (1 - f) ++ lay (g + 1) N t = _
        rw [e1, List.nil_append]
      rw [eb] at b1
      have b3 := b2 f (fun q => hne q.symm)
      generalize (app C ((1 - f : Nat) : Int) (ba (lay (g + 1) N t))).1 = A at *
      have hS := syn_ok hA ((1 - f : Nat) : Int)
      rcases syn_do a4 ho1 with ⟨k1, k2, k3⟩ | ⟨k1, k2, k3, k4, k5⟩
      · refine .inr ⟨k2, hlimC (a5 k1), fun c hc => ⟨h.f1, h.fit, ht, allOk_snoc h.ok hc, hall (by rw [fl_same k3.f, b3]), by rw [k3.s, a3]; exact hsafe, .inr ⟨_, Nat.le_refl _, ?_⟩, hS⟩⟩
        rw [take_len, fl_same k3.f, b1]
      · refine .inl ⟨k1, ⟨ho1, ht, rfl, ?_, ?_, ?_, k4, hS⟩, fun q => hlimC (a5 (k5 q))⟩
        · rw [fl_same k2, b1]
          show _ = _ ++ []
          rw [List.append_nil]
        · rw [k3, k2, put_eq]
        · rw [hno]
          refine Old.of_file h.fit h.ok ⟨_, Nat.le_refl _, ?_⟩ (Nat.lt_succ_self g)
          rw [take_len, fl_same k2, b3, e3, h.all]
/- A crash, and Open behind it, as numbers: nothing acknowledged is lost. -/
theorem Kept.sm {S D : St} {f g a : Nat} {s : List UInt8} {cs : List (List UInt8)} {c : List UInt8} {N : Nat} {t : List UInt8} (h : Kept S f g a s cs c N t) (hs : Sm S D) (hd : Ok D) : Kept D f g a s cs c N t := by
  refine ⟨h.f1, h.fit, h.fit2, h.ok, ?_, by rw [hs.s]; exact h.safe, ?_, hd⟩
  · rw [fl_same hs.f]; exact h.all
  · rcases h.other with ho | ho
    · exact .inl (ho.same (fl_same hs.f _) (by rw [hs.s]))
    · right; rw [fl_same hs.f]; exact ho
theorem crs_rest {S : St} (h : Ok S) (k : Nat → Int) (j : Nat) : (crs S k).s j = ((crs S k).f j).size := by
  show lft _ _ _ = ((S.f j).extract 0 _).size
  rw [size_extract0 _ _ (lft_le _ _ _ (h.safe j)).2]
theorem Old.crash {S : St} {o g : Nat} (h : Old S o g) (hd : Ok S) (k : Nat → Int) : Old (crs S k) o g := by
  have hl := lft_le (S.f o).size (S.s o) (k o) (hd.safe o)
  refine Old.rest (crs_rest hd k o) fun j hj => ?_
  rw [fl_crs] at hj
  exact h _ hl.1 (by rw [fl_len]; exact hl.2) j hj
theorem Kept.crash {S : St} {f g a : Nat} {s : List UInt8} {cs : List (List UInt8)} {c : List UInt8} {N : Nat} {t : List UInt8} (h : Kept S f g a s cs c N t) (k : Nat → Int) : Kept (crs S k) f g a s cs c N t := by
  refine ⟨h.f1, h.fit, h.fit2, h.ok, ?_, ?_, ?_, crs_ok h.disk k⟩
  · obtain ⟨m, hm, he⟩ := h.all
    refine ⟨min (lft (S.f f).size (S.s f) (k f)) m, by omega, ?_⟩
    rw [fl_crs, he, List.take_take]
  · exact Nat.le_trans h.safe (lft_le _ _ _ (h.disk.safe f)).1
  · rcases h.other with ho | ⟨m, hm, he⟩
    · exact .inl (ho.crash h.disk k)
    · right
      refine ⟨min (lft (S.f (1 - f)).size (S.s (1 - f)) (k (1 - f))) m, by omega, ?_⟩
      rw [fl_crs, he, List.take_take]
theorem Run.crash {S : St} {f g a : Nat} {s : List UInt8} {cs : List (List UInt8)} (h : Run S f g a s cs) (k : Nat → Int) : Run (crs S k) f g a s cs := by
  refine ⟨h.f1, h.fit, h.ok, ?_, crs_rest h.disk k f, h.old.crash h.disk k, rfl, crs_ok h.disk k⟩
  have hl := (lft_le (S.f f).size (S.s f) (k f) (h.disk.safe f)).1
  rw [fl_crs, List.take_of_length_le, h.all]
  rw [fl_len]
  have := h.safe
  omega
theorem pick_f {S : St} {f : Nat} (hf : f ≤ 1) {j : Jn} (h : look (fl S f) = some j) (ho : ∀ i, look (fl S (1 - f)) = some i → i.gen < j.gen) : pick S = some (f, j) := by
  have h2 : f = 0 ∨ f = 1 := by omega
  unfold pick
  rcases h2 with rfl | rfl
  · rw [h]
    cases h1 : look (fl S 1) with
    | none => rfl
    | some i =>
      have := ho i h1
      show (if j.gen < i.gen then some (1, i) else some (0, j)) = _
      rw [if_neg (by omega)]
  · rw [h]
    cases h1 : look (fl S 0) with
    | none => rfl
    | some i =>
      have := ho i h1
      show (if i.gen < j.gen then some (1, j) else some (0, i)) = _
      rw [if_pos this]
theorem opn_at {S : St} (hg : S.gone = false) {f : Nat} {j : Jn} (h : pick S = some (f, j)) : opn S = thn (if j.fin < (S.f f).size then ctf S f j.fin else (S, 0)) fun D => syn D f := by
  unfold opn
  rw [if_neg (by rw [show (0 : Int) = ((0 : Nat) : Int) from rfl, chk_on hg (Nat.zero_le _)]; exact fun h => h rfl), h]
/-- what Open does with the file that counts: it ends where its records end, and is safe -/
theorem opn_do {S : St} (hg : S.gone = false) (hd : Ok S) {f : Nat} (hf : f ≤ 1) {j : Jn} (h : pick S = some (f, j)) (hfin : j.fin ≤ (S.f f).size) :
    ((opn S).2 = 0 ∧ fl (opn S).1 f = (fl S f).take j.fin ∧ (opn S).1.s f = ((opn S).1.f f).size ∧ (∀ o, o ≠ f → fl (opn S).1 o = fl S o ∧ (opn S).1.s o = S.s o) ∧ (opn S).1.gone = false ∧ Ok (opn S).1 ∧ (0 ≤ (opn S).1.lim → 0 ≤ S.lim)) ∨
    ((opn S).2 ≠ 0 ∧ 0 ≤ S.lim ∧ Ok (opn S).1 ∧ (fl (opn S).1 f = fl S f ∧ (opn S).1.s f = S.s f ∨ fl (opn S).1 f = (fl S f).take j.fin ∧ (opn S).1.s f = min (S.s f) j.fin) ∧ (∀ o, o ≠ f → fl (opn S).1 o = fl S o ∧ (opn S).1.s o = S.s o)) := by
  rw [opn_at hg h]
  by_cases hc : j.fin < (S.f f).size
  · rw [if_pos hc]
    have hC := ctf_ok hd f j.fin
    rcases ctf_do hg hf (Nat.le_of_lt hc) with ⟨h1, h2, h3⟩ | ⟨h1, h2, h3, h4, h5⟩
    · rw [thn_no h2]
      exact .inr ⟨h2, h1, hC, .inl ⟨fl_same h3.f f, by rw [h3.s]⟩, fun o _ => ⟨fl_same h3.f o, by rw [h3.s]⟩⟩
    · rw [thn_ok h1]
      obtain ⟨e1, e2⟩ := fl_put S _ f _ h2
      rw [fl_ext] at e1
      have es : (ctf S f j.fin).1.s f = min (S.s f) j.fin := by rw [h3, put_eq]
      have eo : ∀ o, o ≠ f → (ctf S f j.fin).1.s o = S.s o := fun o ho => by rw [h3, put_ne _ _ _ _ ho]
      have hS := syn_ok hC f
      generalize (ctf S f j.fin).1 = C at *
      rcases syn_do h4 hf with ⟨k1, k2, k3⟩ | ⟨k1, k2, k3, k4, k5⟩
      · exact .inr ⟨k2, h5 k1, hS, .inr ⟨by rw [fl_same k3.f]; exact e1, by rw [k3.s, es]⟩, fun o ho => ⟨by rw [fl_same k3.f, e2 o ho], by rw [k3.s, eo o ho]⟩⟩
      · exact .inl ⟨k1, by rw [fl_same k2]; exact e1, by rw [k3, k2, put_eq], fun o ho => ⟨by rw [fl_same k2, e2 o ho], by rw [k3, put_ne _ _ _ _ ho, eo o ho]⟩, k4, hS, fun q => h5 (k5 q)⟩
  · rw [if_neg hc, thn_ok rfl]
    have hS := syn_ok hd f
    have ht : (fl S f).take j.fin = fl S f := List.take_of_length_le (by rw [fl_len]; omega)
    rcases syn_do hg hf with ⟨k1, k2, k3⟩ | ⟨k1, k2, k3, k4, k5⟩
    · exact .inr ⟨k2, k1, hS, .inl ⟨fl_same k3.f f, by rw [k3.s]⟩, fun o _ => ⟨fl_same k3.f o, by rw [k3.s]⟩⟩
    · exact .inl ⟨k1, by rw [ht]; exact fl_same k2 f, by rw [k3, k2, put_eq], fun o ho => ⟨fl_same k2 o, by rw [k3, put_ne _ _ _ _ ho]⟩, k4, hS, k5⟩
/-- the file of a journal behind a crash: its state, all its commands, and perhaps the one that was being added -/
theorem Kept.look {S : St} {f g a : Nat} {s : List UInt8} {cs : List (List UInt8)} {c : List UInt8} {N : Nat} {t : List UInt8} (h : Kept S f g a s cs c N t) :
    ∃ ds, (ds = cs ∨ ds = cs ++ [c]) ∧ look (fl S f) = some ⟨g, a, s, ds, (lay g a s ++ flat ds).length⟩ ∧ (lay g a s ++ flat ds).length ≤ (S.f f).size ∧ (fl S f).take (lay g a s ++ flat ds).length = lay g a s ++ flat ds := by
  obtain ⟨k, hk, he⟩ := h.all
  have hkl : (S.f f).size = k := by rw [← fl_len, he, List.length_take]; omega
  have hks : (lay g a s ++ flat cs).length ≤ k := by have := h.disk.safe f; have := h.safe; omega
  have hlay : (lay g a s).length ≤ k := by rw [List.length_append] at hks; omega
  obtain ⟨_, t2⟩ := look_torn h.fit h.ok k hk
  obtain ⟨m, m1, m2, m3, m4⟩ := t2 hlay
  have hi := m3 cs.length (by rw [List.length_append]; omega) (by rw [List.take_left]; exact hks)
  rw [List.length_append, List.length_singleton] at m1
  refine ⟨(cs ++ [c]).take m, ?_, ?_, ?_, ?_⟩
  · have : m = cs.length ∨ m = cs.length + 1 := by omega
    rcases this with rfl | rfl
    · left; rw [List.take_left]
    · right; rw [List.take_of_length_le (by rw [List.length_append, List.length_singleton]; omega)]
  · rw [he]; exact m4
  · rw [hkl]; exact m2
  · rw [he, List.take_take, Nat.min_eq_left m2]
    have : lay g a s ++ flat (cs ++ [c]) = (lay g a s ++ flat ((cs ++ [c]).take m)) ++ flat ((cs ++ [c]).drop m) := by
      rw [List.append_assoc, ← flat_app, List.take_append_drop]
    rw [this, List.take_left]
theorem allOk_of {cs ds : List (List UInt8)} {c : List UInt8} (h : allOk (cs ++ [c]) = true) (hd : ds = cs ∨ ds = cs ++ [c]) : allOk ds = true := by
  rcases hd with rfl | rfl
  · rw [allOk_app, Bool.and_eq_true] at h; exact h.1
  · exact h
/-- what Open comes to: a journal with all commands, and perhaps the one that was being added, or the state that was being laid down; or, the power gone, all is kept as it was -/
def Opd (S : St) (f g a : Nat) (s : List UInt8) (cs : List (List UInt8)) (c : List UInt8) (N : Nat) (t : List UInt8) : Prop :=
    ((opn S).2 = 0 ∧ (0 ≤ (opn S).1.lim → 0 ≤ S.lim) ∧
      ((∃ ds fin, (ds = cs ∨ ds = cs ++ [c]) ∧ pick S = some (f, ⟨g, a, s, ds, fin⟩) ∧ Run (opn S).1 f g a s ds) ∨ (∃ fin, pick S = some (1 - f, ⟨g + 1, N, t, [], fin⟩) ∧ Run (opn S).1 (1 - f) (g + 1) N t []))) ∨
    ((opn S).2 ≠ 0 ∧ 0 ≤ S.lim ∧ Kept (opn S).1 f g a s cs c N t)
/-- NOTHING ACKNOWLEDGED IS LOST -/
theorem Kept.opened {S : St} {f g a : Nat} {s : List UInt8} {cs : List (List UInt8)} {c : List UInt8} {N : Nat} {t : List UInt8} (h : Kept S f g a s cs c N t) (hr : ∀ j, S.s j = (S.f j).size) (hg : S.gone = false) : Opd S f g a s cs c N t := by
  obtain ⟨ds, hds, hl, hfin, htk⟩ := h.look
  have hne := ne_other h.f1
  have hokd := allOk_of h.ok hds
  have one : Old S (1 - f) g → Opd S f g a s cs c N t := fun ho => by
    have hp : pick S = some (f, ⟨g, a, s, ds, (lay g a s ++ flat ds).length⟩) := pick_f h.f1 hl fun i hi => ho (fl S (1 - f)).length (by rw [hr, fl_len]; exact Nat.le_refl _) (Nat.le_refl _) i (by rw [take_len]; exact hi)
    rcases opn_do hg h.disk h.f1 hp hfin with ⟨o1, o2, o3, o4, o5, o6, o7⟩ | ⟨o1, o2, o3, o4, o5⟩
    · exact .inl ⟨o1, o7, .inl ⟨ds, _, hds, hp, ⟨h.f1, h.fit, hokd, by rw [o2]; exact htk, o3, ho.same (o4 _ hne).1 (o4 _ hne).2, o5, o6⟩⟩⟩
    · refine .inr ⟨o1, o2, h.f1, h.fit, h.fit2, h.ok, ?_, ?_, ?_, o3⟩
      · rcases o4 with ⟨p1, _⟩ | ⟨p1, _⟩
        · rw [p1]; exact h.all
        · obtain ⟨k, hk, he⟩ := h.all
          refine ⟨min (lay g a s ++ flat ds).length k, by omega, ?_⟩
          rw [p1, he, List.take_take]
      · rcases o4 with ⟨_, p2⟩ | ⟨_, p2⟩
        · rw [p2]; exact h.safe
        · rw [p2]
          have hs := h.safe
          have : (lay g a s ++ flat cs).length ≤ (lay g a s ++ flat ds).length := by
            rcases hds with rfl | rfl
            · exact Nat.le_refl _
            · rw [flat_snoc, ← List.append_assoc, @List.length_append _ (lay g a s ++ flat cs) _]; omega
          show _ ≤ min _ (lay g a s ++ flat ds).length
          omega
      · exact .inl (ho.same (o5 _ hne).1 (o5 _ hne).2)
  rcases h.other with ho | ⟨k, hk, he⟩
  · exact one ho
  · have hk' : k ≤ (lay (g + 1) N t ++ flat []).length := by rw [List.length_append]; omega
    have he' : fl S (1 - f) = (lay (g + 1) N t ++ flat []).take k := by
      rw [he]
      show _ = (lay (g + 1) N t ++ []).take k
      rw [List.append_nil]
    obtain ⟨t1, t2⟩ := look_torn h.fit2 (ds := []) rfl k hk'
    rw [← he'] at t1 t2
    rcases Nat.lt_or_ge k (lay (g + 1) N t).length with hc | hc
    · exact one (Old.rest (hr _) fun j hj => by rw [t1 hc] at hj; cases hj)
    · obtain ⟨m, m1, m2, _, m4⟩ := t2 hc
      have hm : m = 0 := by simpa using m1
      subst hm
      have hno : 1 - (1 - f) = f := by have := h.f1; omega
      have hfull : fl S (1 - f) = lay (g + 1) N t := by rw [he, List.take_of_length_le hc]
      have hnil : lay (g + 1) N t ++ flat (([] : List (List UInt8)).take 0) = lay (g + 1) N t := by
        show lay (g + 1) N t ++ [] = _
        rw [List.append_nil]
      rw [hnil, List.take_zero] at m4
      have hp : pick S = some (1 - f, ⟨g + 1, N, t, [], (lay (g + 1) N t).length⟩) := pick_f (by omega) m4 fun i hi => by
        rw [hno, hl] at hi
        injection hi with hi
        rw [← hi]
        exact Nat.lt_succ_self g
      have hold : ∀ {D : St}, fl D f = fl S f → Old D f (g + 1) := fun hD => Old.of_file h.fit h.ok (by rw [hD]; exact h.all) (Nat.lt_succ_self g)
      rcases opn_do hg h.disk (by omega) hp (by rw [← fl_len, hfull]; exact Nat.le_refl _) with ⟨o1, o2, o3, o4, o5, o6, o7⟩ | ⟨o1, o2, o3, o4, o5⟩
      · have of := o4 f (fun q => hne q.symm)
        refine .inl ⟨o1, o7, .inr ⟨_, hp, by omega, h.fit2, rfl, ?_, o3, ?_, o5, o6⟩⟩
        · rw [o2, hfull, take_len]
          show _ = _ ++ []
          rw [List.append_nil]
        · rw [hno]; exact hold of.1
      · have of := o5 f (fun q => hne q.symm)
        refine .inr ⟨o1, o2, h.f1, h.fit, h.fit2, h.ok, by rw [of.1]; exact h.all, by rw [of.2]; exact h.safe, .inr ⟨(lay (g + 1) N t).length, Nat.le_refl _, ?_⟩, o3⟩
        rcases o4 with ⟨p1, _⟩ | ⟨p1, _⟩
        · rw [p1, hfull, take_len]
        · rw [p1, hfull]
/-- a journal that ran, opened again: the same, and no byte is changed -/
theorem Run.opened {S : St} {f g a : Nat} {s : List UInt8} {cs : List (List UInt8)} (h : Run S f g a s cs) (hl : S.lim < 0) :
    (opn S).2 = 0 ∧ (∃ fin, pick S = some (f, ⟨g, a, s, cs, fin⟩)) ∧ Run (opn S).1 f g a s cs ∧ (∀ i, fl (opn S).1 i = fl S i) ∧ (opn S).1.lim < 0 := by
  obtain ⟨_, t2⟩ := look_torn h.fit h.ok (lay g a s ++ flat cs).length (Nat.le_refl _)
  obtain ⟨m, m1, m2, m3, m4⟩ := t2 (by rw [List.length_append]; omega)
  have hi := m3 cs.length (Nat.le_refl _) (by rw [List.take_of_length_le (Nat.le_refl _)]; exact Nat.le_refl _)
  obtain rfl : m = cs.length := by omega
  rw [List.take_of_length_le (Nat.le_refl cs.length), take_len, ← h.all] at m4
  have hsz : (fl S f).length = (S.f f).size := rfl
  have hp : pick S = some (f, ⟨g, a, s, cs, (fl S f).length⟩) := pick_f h.f1 m4 fun i hi => h.old (fl S (1 - f)).length (by rw [fl_len]; exact h.disk.safe _) (Nat.le_refl _) i (by rw [take_len]; exact hi)
  have hne := ne_other h.f1
  rcases opn_do h.on h.disk h.f1 hp (Nat.le_of_eq hsz) with ⟨o1, o2, o3, o4, o5, o6, o7⟩ | ⟨_, o2, _⟩
  · have o2' : fl (opn S).1 f = fl S f := by rw [o2]; exact take_len _
    refine ⟨o1, ⟨_, hp⟩, ⟨h.f1, h.fit, h.ok, by rw [o2', h.all], o3, h.old.same (o4 _ hne).1 (o4 _ hne).2, o5, o6⟩, fun i => ?_, by omega⟩
    by_cases hif : i = f
    · rw [hif]; exact o2'
    · exact (o4 i hif).1
  · omega
/- Format, lengths, and commands joined into a state and told again, as numbers. -/
theorem cutF_few : ∀ (n : Nat) (l : List UInt8), 4096 * (cutF n l).length ≤ l.length + 4095 := by
  intro n
  induction n with
  | zero => intro l; show 4096 * 0 ≤ _; omega
  | succ n ih =>
    intro l
    rw [cutF]
    by_cases h0 : l.length = 0
    · rw [if_pos h0]; show 4096 * 0 ≤ _; omega
    · rw [if_neg h0, List.length_cons]
      have := ih (l.drop 4096)
      rw [List.length_drop] at this
      have h1 : 4096 * (cutF n (l.drop 4096)).length ≤ l.length - 4096 + 4095 := this
      by_cases hc : l.length ≤ 4096
      · have hz : (l.drop 4096).length = 0 := by rw [List.length_drop]; omega
        have he : (cutF n (l.drop 4096)).length = 0 := by
          have := cutF_count n (l.drop 4096)
          omega
        rw [he]
        omega
      · omega
theorem cuts_few (l : List UInt8) : 4096 * (cuts l).length ≤ l.length + 4095 := cutF_few _ _
theorem flat_size (l : List (List UInt8)) : (flat l).length = l.flatten.length + 12 * l.length := by
  induction l with
  | nil => rfl
  | cons a l ih => rw [flat_cons, List.length_append, putL_len, ih, List.flatten_cons, List.length_append, List.length_cons]; omega
theorem lay_len (g a : Nat) (s : List UInt8) : (lay g a s).length = 33 + s.length + 12 * (cuts s).length := by
  unfold lay
  rw [flat_size, List.flatten_cons, List.length_append, hd3_len, cuts_join, List.length_cons]
  omega
theorem lay_le (g a : Nat) (s : List UInt8) : 4096 * (lay g a s).length ≤ 4096 * 33 + 4108 * s.length + 12 * 4095 := by
  have := cuts_few s
  rw [lay_len]
  omega
theorem look_nil : look [] = none := rfl
/-- Format -/
theorem fmt_do {S : St} (hg : S.gone = false) (hd : Ok S) {t : List UInt8} (ht : Fit 1 0 t) (hz : (lay 1 0 t).length ≤ 1048576) :
    ((fmt S t).2 = 0 ∧ Run (fmt S t).1 0 1 0 t [] ∧ (0 ≤ (fmt S t).1.lim → 0 ≤ S.lim)) ∨ ((fmt S t).2 ≠ 0 ∧ 0 ≤ S.lim) := by
  unfold fmt
  have hC := ctf_ok hd (0 : Nat) (0 : Nat)
  rcases ctf_do (i := 0) (n := 0) hg (by omega) (Nat.zero_le _) with ⟨h1, h2, _⟩ | ⟨h1, h2, h3, h4, h5⟩
  · have h2' : (ctf S 0 0).2 ≠ 0 := h2
    rw [thn_no (r := ctf S 0 0) h2', thn_no h2', thn_no h2']
    exact .inr ⟨h2', h1⟩
  · have h1' : (ctf S 0 0).2 = 0 := h1
    rw [thn_ok (r := ctf S 0 0) h1']
    obtain ⟨e1, _⟩ := fl_put S _ 0 _ h2
    rw [nil_take (α := Nat)] at e1
    have e1' : fl (ctf S 0 0).1 0 = [] := e1
    have hC' : Ok (ctf S 0 0).1 := hC
    have h4' : (ctf S 0 0).1.gone = false := h4
    have h5' : 0 ≤ (ctf S 0 0).1.lim → 0 ≤ S.lim := h5
    clear h1 h2 h3 h4 h5 h1' e1 hC
    generalize (ctf S 0 0).1 = C at *
    have hB := ctf_ok hC' (1 : Nat) (0 : Nat)
    rcases ctf_do (i := 1) (n := 0) h4' (by omega) (Nat.zero_le _) with ⟨h1, h2, _⟩ | ⟨h1, h2, h3, h4, h5⟩
    · have h2' : (ctf C 1 0).2 ≠ 0 := h2
      rw [thn_no (r := ctf C 1 0) h2', thn_no h2']
      exact .inr ⟨h2', h5' h1⟩
    · have h1' : (ctf C 1 0).2 = 0 := h1
      rw [thn_ok (r := ctf C 1 0) h1']
      obtain ⟨b1, b2⟩ := fl_put C _ 1 _ h2
      rw [nil_take (α := Nat)] at b1
      have b1' : fl (ctf C 1 0).1 1 = [] := b1
      have b0 : fl (ctf C 1 0).1 0 = [] := (b2 0 (by omega)).trans e1'
      have hB' : Ok (ctf C 1 0).1 := hB
      have k4 : (ctf C 1 0).1.gone = false := h4
      have k5 : 0 ≤ (ctf C 1 0).1.lim → 0 ≤ S.lim := fun q => h5' (h5 q)
      clear h1 h2 h3 h4 h5 h1' b1 b2 hB e1' h4' h5' hC'
      generalize (ctf C 1 0).1 = B at *
      have hs0 : (B.f 0).size = 0 := by rw [← fl_len, b0]; rfl
      have hA := app_ok hB' (0 : Nat) (ba (lay 1 0 t))
      rcases app_do (i := 0) k4 (by omega) (ba (lay 1 0 t)) (by rw [ba_size, hs0]; omega) with ⟨h1, h2, _, _⟩ | ⟨h1, h2, h3, h4, h5⟩
      · have h2' : (app B 0 (ba (lay 1 0 t))).2 ≠ 0 := h2
        rw [thn_no (r := app B 0 (ba (lay 1 0 t))) h2']
        exact .inr ⟨h2', k5 h1⟩
      · have h1' : (app B 0 (ba (lay 1 0 t))).2 = 0 := h1
        rw [thn_ok (r := app B 0 (ba (lay 1 0 t))) h1']
        obtain ⟨a1, a2⟩ := fl_put B _ 0 _ h2
        have a1' : fl (app B 0 (ba (lay 1 0 t))).1 0 = lay 1 0 t := by
          refine a1.trans ?_
          rw [ByteArray.data_append, Array.toList_append]
          show fl B 0 ++ lay 1 0 t = _
          rw [b0, List.nil_append]
        have a2' : fl (app B 0 (ba (lay 1 0 t))).1 1 = [] := (a2 1 (by omega)).trans b1'
        have hA' : Ok (app B 0 (ba (lay 1 0 t))).1 := hA
        have m4 : (app B 0 (ba (lay 1 0 t))).1.gone = false := h4
        have m5 : 0 ≤ (app B 0 (ba (lay 1 0 t))).1.lim → 0 ≤ S.lim := fun q => k5 (h5 q)
        generalize (app B 0 (ba (lay 1 0 t))).1 = A at *
        have hS := syn_ok hA' (0 : Nat)
        rcases syn_do (i := 0) m4 (by omega) with ⟨q1, q2, _⟩ | ⟨q1, q2, q3, q4, q5⟩
        · exact .inr ⟨q2, m5 q1⟩
        · refine .inl ⟨q1, ⟨by omega, ht, rfl, ?_, ?_, ?_, q4, hS⟩, fun z => m5 (q5 z)⟩
          · refine (fl_same q2 0).trans ?_
            rw [a1']
            show _ = _ ++ []
            rw [List.append_nil]
          · show (syn A 0).1.s 0 = ((syn A 0).1.f 0).size
            have q3' : (syn A 0).1.s = put A.s 0 (A.f 0).size := q3
            have q2' : (syn A 0).1.f = A.f := q2
            rw [q3', q2', put_eq]
          · intro k _ hk j hj
            have e : fl (syn A 0).1 (1 - 0) = [] := (fl_same q2 1).trans a2'
            rw [e, List.take_nil, look_nil] at hj
            cases hj
/-- commands as one text -/
def joined (l : List (List UInt8)) : List UInt8 := l.flatMap fun c => c ++ [0]
def noZero (c : List UInt8) : Prop := ∀ x ∈ c, x ≠ 0
theorem joined_cons (c : List UInt8) (l : List (List UInt8)) : joined (c :: l) = c ++ (0 :: joined l) := by
  show c ++ [0] ++ joined l = _
  rw [List.append_assoc]
  rfl
theorem joined_snoc (l : List (List UInt8)) (c : List UInt8) : joined (l ++ [c]) = joined l ++ (c ++ [0]) := by
  unfold joined
  rw [List.flatMap_append]
  show _ ++ (c ++ [0] ++ []) = _
  rw [List.append_nil]
theorem joined_len (l : List (List UInt8)) (h : ∀ c ∈ l, c.length ≤ 4096) : (joined l).length ≤ 4097 * l.length := by
  induction l with
  | nil => exact Nat.le_refl _
  | cons c l ih =>
    rw [joined_cons, List.length_append, List.length_cons, List.length_cons]
    have h1 := h c (List.mem_cons_self ..)
    have h2 := ih fun x hx => h x (List.mem_cons_of_mem _ hx)
    omega
/-- the first one ends at the first 0 -/
theorem joined_first {c : List UInt8} {l : List (List UInt8)} (h : noZero c) : (∀ k, k < c.length → (joined (c :: l)).getD k 0 ≠ 0) ∧ (joined (c :: l)).getD c.length 1 = 0 ∧ (joined (c :: l)).take c.length = c ∧ (joined (c :: l)).drop (c.length + 1) = joined l ∧ c.length < (joined (c :: l)).length := by
  rw [joined_cons]
  refine ⟨fun k hk => ?_, ?_, ?_, ?_, ?_⟩
  · rw [List.getD_eq_getElem?_getD, List.getElem?_append_left hk, List.getElem?_eq_getElem hk]
    exact h _ (List.getElem_mem hk)
  · rw [List.getD_eq_getElem?_getD, List.getElem?_append_right (Nat.le_refl _), Nat.sub_self]
    rfl
  · rw [List.take_left]
  · rw [← List.drop_drop, List.drop_left]
    rfl
  · rw [List.length_append, List.length_cons]; omega
/-- what a journal tells: the commands in its state, and those behind it -/
structure Tells (a : Nat) (s : List UInt8) (cs all : List (List UInt8)) : Prop where
  le : a ≤ all.length
  st : s = joined (all.take a)
  cs : cs = all.drop a
theorem Tells.new (all : List (List UInt8)) : Tells all.length (joined all) [] all := ⟨Nat.le_refl _, by rw [List.take_of_length_le (Nat.le_refl _)], by rw [List.drop_of_length_le (Nat.le_refl _)]⟩
theorem Tells.add {a : Nat} {s : List UInt8} {cs all : List (List UInt8)} (h : Tells a s cs all) (c : List UInt8) : Tells a s (cs ++ [c]) (all ++ [c]) :=
  ⟨by rw [List.length_append]; have := h.le; omega, by rw [List.take_append_of_le_length h.le]; exact h.st, by rw [List.drop_append_of_le_length h.le, h.cs]⟩
theorem Tells.all {a : Nat} {s : List UInt8} {cs all : List (List UInt8)} (h : Tells a s cs all) : all = all.take a ++ cs := by rw [h.cs, List.take_append_drop]
theorem Tells.seq {a : Nat} {s : List UInt8} {cs all : List (List UInt8)} (h : Tells a s cs all) : a + cs.length = all.length := by
  rw [h.cs, List.length_drop]
  have := h.le
  omega
end Go.Proofs.Yteiilifljfagdaa
