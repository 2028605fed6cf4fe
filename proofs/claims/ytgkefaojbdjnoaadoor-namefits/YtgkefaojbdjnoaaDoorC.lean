/- Layer 4, numbers alone: small letters, plain letters, columns, cuts, fits, and the test of a name, sign by sign. -/
import Derived.Test.YtgkefaojbdjnoaaDoorB
import Derived.WalkKit
import Derived.Laws.RangeAny
import Derived.Lib.RuneBytes
import Derived.Lib.Fields
namespace Go.Proofs.YtgkefaojbdjnoaaDoor
open Go.RowKit
set_option linter.unusedVariables false
set_option linter.unusedSimpArgs false
/-- The small letter of a sign. -/
def low (c : Nat) : Nat :=
  if 65 ≤ c ∧ c ≤ 90 ∨ 192 ≤ c ∧ c ≤ 222 ∧ c ≠ 215 then c + 32
  else if c = 376 then 255
  else if 256 ≤ c ∧ c ≤ 311 ∨ 330 ≤ c ∧ c ≤ 375 then c / 2 * 2 + 1
  else if (313 ≤ c ∧ c ≤ 328 ∨ 377 ≤ c ∧ c ≤ 382) ∧ c % 2 = 1 then c + 1
  else c

theorem low_V {c : Nat} (h : Vl c) : Vl (low c) := by
  unfold low Vl at *
  repeat' split
  all_goals omega
theorem low_low (c : Nat) : low (low c) = low c := by
  unfold low
  by_cases h1 : 65 ≤ c ∧ c ≤ 90 ∨ 192 ≤ c ∧ c ≤ 222 ∧ c ≠ 215
  · simp only [if_pos h1]
    rw [if_neg (by omega), if_neg (by omega), if_neg (by omega), if_neg (by omega)]
  simp only [if_neg h1]
  by_cases h2 : c = 376
  · simp only [if_pos h2]
    decide
  simp only [if_neg h2]
  by_cases h3 : 256 ≤ c ∧ c ≤ 311 ∨ 330 ≤ c ∧ c ≤ 375
  · simp only [if_pos h3]
    rw [if_neg (by omega), if_neg (by omega), if_pos (by omega)]
    omega
  simp only [if_neg h3]
  by_cases h4 : (313 ≤ c ∧ c ≤ 328 ∨ 377 ≤ c ∧ c ≤ 382) ∧ c % 2 = 1
  · simp only [if_pos h4]
    rw [if_neg (by omega), if_neg (by omega), if_neg (by omega), if_neg (by omega)]
  simp only [if_neg h4, if_neg h1, if_neg h2, if_neg h3]

def lows (l : List UInt8) (p : Nat) : List Nat := (cs l p).map low
def fold (l : List UInt8) : List UInt8 := (lows l 0).flatMap enc

theorem cs_fold (l : List UInt8) : cs (fold l) 0 = lows l 0 := by
  refine cs_encs _ ?_
  intro c hc
  obtain ⟨x, hx, rfl⟩ := List.mem_map.1 hc
  exact low_V (cs_V l 0 x hx)
theorem lows_fold (l : List UInt8) : lows (fold l) 0 = lows l 0 := by
  unfold lows
  rw [cs_fold, lows, List.map_map]
  exact List.map_congr_left fun c _ => low_low c
theorem fold_fold (l : List UInt8) : fold (fold l) = fold l := by
  unfold fold
  rw [show lows (List.flatMap enc (lows l 0)) 0 = lows (fold l) 0 from rfl, lows_fold]
theorem encs_len : ∀ L : List Nat, (L.flatMap enc).length ≤ 4 * L.length
  | [] => by simp
  | c :: L => by
    have := encs_len L
    have := enc_len c
    rw [List.flatMap_cons, List.length_append, List.length_cons]
    omega
theorem fold_len (l : List UInt8) : (fold l).length ≤ 4 * l.length := by
  have h := encs_len (lows l 0)
  have h2 : (lows l 0).length = (cs l 0).length := by simp [lows]
  have h3 := cs_len l
  unfold fold
  omega

/-! Plain letters. -/
def wst : List UInt8 := [65, 65, 65, 65, 65, 65, 65, 67, 69, 69, 69, 69, 73, 73, 73, 73, 68, 78, 79, 79, 79, 79, 79, 32, 79, 85, 85, 85, 85, 89, 84, 89]
def ext : List UInt8 := [65, 65, 65, 65, 65, 65, 67, 67, 67, 67, 67, 67, 67, 67, 68, 68, 68, 68, 69, 69, 69, 69, 69, 69, 69, 69, 69, 69, 71, 71, 71, 71, 71, 71, 71, 71, 72, 72, 72, 72, 73, 73, 73, 73, 73, 73, 73, 73, 73, 73, 32, 32, 74, 74, 75, 75, 75, 76, 76, 76, 76, 76, 76, 76, 76, 76, 76, 78, 78, 78, 78, 78, 78, 78, 78, 78, 79, 79, 79, 79, 79, 79, 32, 32, 82, 82, 82, 82, 82, 82, 83, 83, 83, 83, 83, 83, 83, 83, 84, 84, 84, 84, 84, 84, 85, 85, 85, 85, 85, 85, 85, 85, 85, 85, 85, 85, 87, 87, 89, 89, 89, 90, 90, 90, 90, 90, 90, 83]
def one (t : List UInt8) (i : Nat) : List UInt8 := if t.getD i 32 = 32 then [] else [t.getD i 32]
def pairs (c : Nat) : List UInt8 :=
  if c = 228 ∨ c = 230 then [65, 69]
  else if c = 246 ∨ c = 248 ∨ c = 339 then [79, 69]
  else if c = 252 then [85, 69]
  else if c = 223 then [83, 83]
  else if c = 254 then [84, 72]
  else if c = 229 then [65, 65]
  else []
/-- What stands for a small letter from 128 on. -/
def high (c : Nat) : List UInt8 :=
  if pairs c ≠ [] then pairs c
  else if 224 ≤ c ∧ c ≤ 255 then one wst (c - 224)
  else if 256 ≤ c ∧ c ≤ 383 then one ext (c - 256)
  else []
def pl (c : Nat) : List UInt8 :=
  if 97 ≤ c ∧ c ≤ 122 then [(c - 32).toUInt8]
  else if 48 ≤ c ∧ c ≤ 57 then [c.toUInt8]
  else if c = 32 ∨ c = 45 then [32]
  else high c
def plain (l : List UInt8) : List UInt8 := (lows l 0).flatMap pl

theorem pairs_low {c : Nat} (h : c < 223) : pairs c = [] := by
  unfold pairs
  repeat' split
  all_goals first | omega | rfl
theorem high_low {c : Nat} (h : c < 128) : high c = [] := by
  unfold high
  rw [pairs_low (by omega), if_neg (by simp), if_neg (by omega), if_neg (by omega)]

/-- A plain byte. -/
def Pb (b : UInt8) : Prop := b = 32 ∨ 48 ≤ b.toNat ∧ b.toNat ≤ 57 ∨ 65 ≤ b.toNat ∧ b.toNat ≤ 90
theorem one_pb (t : List UInt8) (h : ∀ b ∈ t, b = 32 ∨ 65 ≤ b.toNat ∧ b.toNat ≤ 90) (i : Nat) : ∀ b ∈ one t i, 65 ≤ b.toNat ∧ b.toNat ≤ 90 := by
  unfold one
  split
  · simp
  · rename_i hn
    intro b hb
    rw [List.mem_singleton] at hb
    subst hb
    by_cases hi : i < t.length
    · have : t.getD i 32 ∈ t := by
        rw [List.getD_eq_getElem?_getD, List.getElem?_eq_getElem hi]
        exact List.getElem_mem hi
      rcases h _ this with h | h
      · exact absurd h hn
      · exact h
    · exact absurd (by rw [List.getD_eq_getElem?_getD, List.getElem?_eq_none (by omega)]; rfl) hn
set_option maxRecDepth 100000 in
theorem wst_ok : ∀ b ∈ wst, b = 32 ∨ 65 ≤ b.toNat ∧ b.toNat ≤ 90 := by decide
set_option maxRecDepth 100000 in
theorem ext_ok : ∀ b ∈ ext, b = 32 ∨ 65 ≤ b.toNat ∧ b.toNat ≤ 90 := by decide
theorem pairs_pb (c : Nat) : ∀ b ∈ pairs c, 65 ≤ b.toNat ∧ b.toNat ≤ 90 := by
  unfold pairs
  repeat' split
  all_goals decide
theorem high_pb (c : Nat) : ∀ b ∈ high c, 65 ≤ b.toNat ∧ b.toNat ≤ 90 := by
  unfold high
  split
  · exact pairs_pb c
  · split
    · exact one_pb _ wst_ok _
    · split
      · exact one_pb _ ext_ok _
      · simp
theorem pl_pb (c : Nat) : ∀ b ∈ pl c, Pb b := by
  intro b
  unfold pl Pb
  split
  · intro hb
    rw [List.mem_singleton] at hb
    subst hb
    rw [u8n _ (by omega)]
    omega
  · split
    · intro hb
      rw [List.mem_singleton] at hb
      subst hb
      rw [u8n _ (by omega)]
      omega
    · split
      · intro hb
        rw [List.mem_singleton] at hb
        exact .inl hb
      · intro hb
        exact .inr (.inr (high_pb c b hb))
theorem plain_pb (l : List UInt8) : ∀ b ∈ plain l, Pb b := by
  intro b hb
  obtain ⟨c, _, hc⟩ := List.mem_flatMap.1 hb
  exact pl_pb c b hc
theorem pairs_len (c : Nat) : (pairs c).length ≤ 2 := by
  unfold pairs
  repeat' split
  all_goals simp
theorem one_len (t : List UInt8) (i : Nat) : (one t i).length ≤ 1 := by
  unfold one
  split <;> simp
theorem high_len (c : Nat) : (high c).length ≤ 2 := by
  unfold high
  have := pairs_len c
  have := one_len wst (c - 224)
  have := one_len ext (c - 256)
  repeat' split
  all_goals (try simp only [List.length_nil]); omega
theorem pl_len (c : Nat) : (pl c).length ≤ 2 := by
  unfold pl
  have := high_len c
  repeat' split
  all_goals (try simp only [List.length_cons, List.length_nil]); omega
theorem pls_len : ∀ L : List Nat, (L.flatMap pl).length ≤ 2 * L.length
  | [] => by simp
  | c :: L => by
    have := pls_len L
    have := pl_len c
    rw [List.flatMap_cons, List.length_append, List.length_cons]
    omega
theorem plain_len (l : List UInt8) : (plain l).length ≤ 2 * l.length := by
  have h := pls_len (lows l 0)
  have h2 : (lows l 0).length = (cs l 0).length := by simp [lows]
  have h3 := cs_len l
  unfold plain
  omega
/-- Texts that are the same have one plain form. -/
theorem plain_of_fold {l m : List UInt8} (h : fold l = fold m) : plain l = plain m := by
  have h1 := cs_fold l
  rw [h, cs_fold] at h1
  unfold plain
  rw [h1]

/-! Columns. -/
def wd (c : Nat) : Nat :=
  if c < 32 ∨ 127 ≤ c ∧ c ≤ 159 ∨ 768 ≤ c ∧ c ≤ 879 then 0
  else if 4352 ≤ c ∧ c ≤ 4447 ∨ 11904 ≤ c ∧ c ≤ 42191 ∨ 44032 ≤ c ∧ c ≤ 55203 ∨ 63744 ≤ c ∧ c ≤ 64255 ∨ 65281 ≤ c ∧ c ≤ 65376 ∨ 127744 ≤ c ∧ c ≤ 128591 then 2
  else 1
theorem wd_le (c : Nat) : wd c ≤ 2 := by
  unfold wd
  repeat' split
  all_goals omega
def wds : List Nat → Nat
  | [] => 0
  | c :: L => wd c + wds L
theorem wds_le : ∀ L : List Nat, wds L ≤ 2 * L.length
  | [] => by simp [wds]
  | c :: L => by
    have := wds_le L
    have := wd_le c
    rw [wds, List.length_cons]
    omega
def width (l : List UInt8) : Nat := wds (cs l 0)
theorem width_le (l : List UInt8) : width l ≤ 2 * l.length := by
  have := wds_le (cs l 0)
  have := cs_len l
  unfold width
  omega

/-! The first signs. -/
def cutG (z : Nat) : List Nat → Int → Nat
  | [], _ => z
  | p :: L, n => if n < 1 then p else cutG z L (n - 1)
def cut (l : List UInt8) (n : Int) : List UInt8 := l.take (cutG l.length (ps l 0) n)
theorem cutG_all (z : Nat) : ∀ (L : List Nat) (n : Int), (L.length : Int) ≤ n → cutG z L n = z
  | [], _, _ => rfl
  | p :: L, n, h => by
    rw [List.length_cons] at h
    rw [cutG, if_neg (by omega), cutG_all z L (n - 1) (by omega)]
theorem cutG_at (z : Nat) : ∀ (L : List Nat) (n : Nat), n < L.length → cutG z L (n : Int) = L.getD n 0
  | [], _, h => by simp at h
  | p :: L, 0, h => by
    rw [cutG, if_pos (by omega)]
    rfl
  | p :: L, n + 1, h => by
    rw [cutG, if_neg (by omega), show ((n + 1 : Nat) : Int) - 1 = (n : Int) by omega, cutG_at z L n (by simpa using h)]
    rfl
theorem cut_all (l : List UInt8) (n : Int) (h : ((cs l 0).length : Int) ≤ n) : cut l n = l := by
  unfold cut
  rw [cutG_all _ _ _ (by rw [← cs_ps]; exact h), List.take_length]
theorem cut_none (l : List UInt8) (n : Int) (h : n < 1) : cut l n = [] := by
  unfold cut
  by_cases hl : 0 < l.length
  · rw [ps_step hl, cutG, if_pos h]
    rfl
  · have : l = [] := by
      cases l with
      | nil => rfl
      | cons _ _ => simp at hl
    subst this
    simp
theorem cut_at (l : List UInt8) (n : Nat) (h : n < (cs l 0).length) : cut l (n : Int) = l.take ((ps l 0).getD n 0) := by
  unfold cut
  rw [cutG_at _ _ _ (by rw [← cs_ps]; exact h)]

/-! What has its place in so many columns. -/
def hdG (z most : Nat) : List (Nat × Nat × Bool) → Nat → Nat × Nat
  | [], t => (z, t)
  | x :: L, t => if most < t + wd x.2.1 then (x.1, t) else hdG z most L (t + wd x.2.1)
def hd (l : List UInt8) (most : Nat) : Nat × Nat := hdG l.length most (sg l 0) 0
theorem hdG_all (z most : Nat) : ∀ (L : List (Nat × Nat × Bool)) (t : Nat), t + wds (L.map fun x => x.2.1) ≤ most → hdG z most L t = (z, t + wds (L.map fun x => x.2.1))
  | [], t, _ => rfl
  | x :: L, t, h => by
    simp only [List.map_cons, wds] at h ⊢
    rw [hdG, if_neg (by omega), hdG_all z most L _ (by omega), Nat.add_assoc]
theorem hdG_some (z most : Nat) : ∀ (L : List (Nat × Nat × Bool)) (t : Nat), (∀ x ∈ L, x.1 < z) → most < t + wds (L.map fun x => x.2.1) → t ≤ most → (hdG z most L t).1 < z ∧ (hdG z most L t).2 ≤ most
  | [], t, _, h, h2 => by simp [wds] at h; omega
  | x :: L, t, hx, h, h2 => by
    simp only [List.map_cons, wds] at h
    rw [hdG]
    split
    · exact ⟨hx x (by simp), h2⟩
    · exact hdG_some z most L _ (fun y hy => hx y (by simp [hy])) (by omega) (by omega)
theorem hd_all {l : List UInt8} {most : Nat} (h : width l ≤ most) : hd l most = (l.length, width l) := by
  unfold hd
  rw [hdG_all _ _ _ _ (by have : wds ((sg l 0).map fun x => x.2.1) = width l := rfl; omega), Nat.zero_add]
  rfl
theorem hd_some {l : List UInt8} {most : Nat} (h : most < width l) : (hd l most).1 < l.length ∧ (hd l most).2 ≤ most :=
  hdG_some _ _ _ _ (fun x hx => (sg_V l l.length 0 (by omega) x hx).2.2) (by have : wds ((sg l 0).map fun x => x.2.1) = width l := rfl; omega) (Nat.zero_le _)
def blk (n : Nat) : List UInt8 := List.replicate n 32
/-- A text fitted to so many columns. -/
def fit (l : List UInt8) (n : Nat) : List UInt8 :=
  if width l ≤ n then l ++ blk (n - width l)
  else if n = 0 then []
  else l.take (hd l (n - 1)).1 ++ [46] ++ blk (n - 1 - (hd l (n - 1)).2)
def fitZ (l : List UInt8) (n : Int) : List UInt8 := if n < 0 ∨ 4096 < n then [] else fit l n.toNat

/-! The test of a name. -/
abbrev Let (c : Nat) : Prop := 97 ≤ c ∧ c ≤ 122 ∨ 65 ≤ c ∧ c ≤ 90 ∨ 192 ≤ c ∧ c ≤ 383 ∧ c ≠ 215 ∧ c ≠ 247
abbrev Dig (c : Nat) : Prop := 48 ≤ c ∧ c ≤ 57
abbrev Jnt (c : Nat) : Prop := c = 32 ∨ c = 45 ∨ c = 46 ∨ c = 38 ∨ c = 39
abbrev Bad (k last c : Nat) : Prop := ¬ Let c ∧ (k = 0 ∨ ¬ Dig c ∧ ¬ Jnt c) ∨ 0 < k ∧ c = 32 ∧ Jnt last ∧ last ≠ 46 ∧ last ≠ 38
def chkG (z : Nat) : List (Nat × Nat × Bool) → Nat → Nat → Nat × Nat
  | [], k, last => (z, if k = 0 ∨ last = 32 then 11 else 0)
  | x :: L, k, last => if k = 40 then (x.1, 2) else if Bad k last x.2.1 then (x.1, 11) else chkG z L (k + 1) x.2.1
end Go.Proofs.YtgkefaojbdjnoaaDoor
