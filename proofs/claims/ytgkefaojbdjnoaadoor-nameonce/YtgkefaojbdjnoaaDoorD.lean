/- Layer 4, numbers alone: the first letters of words; what is fitted takes just so many columns, and begins as the text does. -/
import Derived.Test.YtgkefaojbdjnoaaDoorC
import Derived.WalkKit
import Derived.Laws.RangeAny
import Derived.Lib.RuneBytes
import Derived.Lib.Fields
namespace Go.Proofs.YtgkefaojbdjnoaaDoor
open Go.RowKit
set_option linter.unusedVariables false
set_option linter.unusedSimpArgs false
/-! The first letters of words. -/
def shG : List UInt8 → Bool → List UInt8
  | [], _ => []
  | b :: m, e => if b = 32 then shG m true else if e then b :: shG m false else shG m false
def short (l : List UInt8) : List UInt8 := shG (plain l) true
theorem shG_len : ∀ (m : List UInt8) (e : Bool), (shG m e).length ≤ m.length
  | [], _ => by simp [shG]
  | b :: m, e => by
    have h1 := shG_len m true
    have h2 := shG_len m false
    rw [shG]
    repeat' split
    all_goals (try simp only [List.length_cons]); omega
theorem sp_of_pb {b : UInt8} (h : Pb b) : Lib.isSp b = decide (b = 32) := by
  unfold Pb at h
  by_cases hb : b = 32
  · subst hb; rfl
  · have hn : ∀ n : Nat, n < 32 → b ≠ UInt8.ofNat n := by
      intro n hn e
      have : b.toNat = n := by
        rw [e]
        show n % 256 = n
        omega
      rcases h with h | h | h
      · exact hb h
      · omega
      · omega
    have e9 := hn 9 (by omega); have e10 := hn 10 (by omega); have e11 := hn 11 (by omega); have e12 := hn 12 (by omega); have e13 := hn 13 (by omega)
    simp only [Lib.isSp, hb, decide_false, Bool.or_eq_false_iff, beq_eq_false_iff_ne]
    exact ⟨⟨⟨⟨⟨e9, e10⟩, e11⟩, e12⟩, e13⟩, hb⟩
theorem heads_of : ∀ (m cur : List UInt8), (∀ b ∈ m, Pb b) → (Lib.fieldsGo cur m).map (fun f => f.headD 0) = if cur.isEmpty then shG m true else cur.headD 0 :: shG m false
  | [], cur, _ => by cases cur <;> simp [Lib.fieldsGo, shG]
  | b :: m, cur, h => by
    have hb := sp_of_pb (h b (by simp))
    have hm : ∀ x ∈ m, Pb x := fun x hx => h x (by simp [hx])
    rw [Lib.fieldsGo, shG, hb]
    by_cases e : b = 32
    · have ih := heads_of m [] hm
      simp only [List.isEmpty_nil, if_true] at ih
      cases cur with
      | nil => simpa [e] using ih
      | cons x r => simpa [e, shG] using ih
    · have ih := heads_of m (cur ++ [b]) hm
      cases cur with
      | nil => simpa [e] using ih
      | cons x r => simpa [e, shG] using ih
theorem heads_fields (l : List UInt8) : (Lib.fields (plain l)).map (fun f => f.headD 0) = short l := by
  have := heads_of (plain l) [] (plain_pb l)
  simpa [Lib.fields, short] using this
theorem fieldsGo_ne : ∀ (m cur : List UInt8), ∀ f ∈ Lib.fieldsGo cur m, f ≠ []
  | [], cur, f, h => by
    cases cur with
    | nil => simp [Lib.fieldsGo] at h
    | cons x r => simp [Lib.fieldsGo] at h; simp [h]
  | b :: m, cur, f, h => by
    rw [Lib.fieldsGo] at h
    split at h
    · split at h
      · exact fieldsGo_ne m [] f h
      · rename_i hc
        rcases List.mem_cons.1 h with rfl | h
        · intro e; exact hc (by simp [e])
        · exact fieldsGo_ne m [] f h
    · exact fieldsGo_ne m _ f h

/-! What is fitted. -/
theorem dg_agree (a b c d b' c' d' : Nat) (hb : 2 ≤ (dg a b c d).2.1 → b' = b) (hc : 3 ≤ (dg a b c d).2.1 → c' = c) (hd : 4 ≤ (dg a b c d).2.1 → d' = d)
    (kb : b' = b ∨ b' < 128) (kc : c' = c ∨ c' < 128) (kd : d' = d ∨ d' < 128) : dg a b' c' d' = dg a b c d := by
  by_cases h1 : a < 128
  · unfold dg
    rw [if_pos h1, if_pos h1]
  by_cases h2 : 194 ≤ a ∧ a < 224 ∧ 128 ≤ b ∧ b < 192
  · have : (dg a b c d).2.1 = 2 := by
      unfold dg
      rw [if_neg h1, if_pos h2]
    have := hb (by omega)
    subst this
    unfold dg
    rw [if_neg h1, if_neg h1, if_pos h2, if_pos h2]
  by_cases h3 : 224 ≤ a ∧ a < 240 ∧ 128 ≤ b ∧ b < 192 ∧ 128 ≤ c ∧ c < 192 ∧ 2048 ≤ (a - 224) * 4096 + (b - 128) * 64 + (c - 128) ∧ ((a - 224) * 4096 + (b - 128) * 64 + (c - 128) < 55296 ∨ 57343 < (a - 224) * 4096 + (b - 128) * 64 + (c - 128))
  · have : (dg a b c d).2.1 = 3 := by
      unfold dg
      rw [if_neg h1, if_neg h2, if_pos h3]
    have := hb (by omega)
    subst this
    have := hc (by omega)
    subst this
    unfold dg
    rw [if_neg h1, if_neg h1, if_neg h2, if_neg h2, if_pos h3, if_pos h3]
  by_cases h4 : 240 ≤ a ∧ a < 245 ∧ 128 ≤ b ∧ b < 192 ∧ 128 ≤ c ∧ c < 192 ∧ 128 ≤ d ∧ d < 192 ∧ 65536 ≤ (a - 240) * 262144 + (b - 128) * 4096 + (c - 128) * 64 + (d - 128) ∧ (a - 240) * 262144 + (b - 128) * 4096 + (c - 128) * 64 + (d - 128) < 1114112
  · have : (dg a b c d).2.1 = 4 := by
      unfold dg
      rw [if_neg h1, if_neg h2, if_neg h3, if_pos h4]
    have := hb (by omega)
    subst this
    have := hc (by omega)
    subst this
    have := hd (by omega)
    subst this
    rfl
  · have e : dg a b c d = (65533, 1, false) := by
      unfold dg
      rw [if_neg h1, if_neg h2, if_neg h3, if_neg h4]
    rw [e]
    unfold dg
    rw [if_neg h1]
    rw [if_neg (by
      intro k
      rcases kb with kb | kb
      · subst kb; exact h2 k
      · omega)]
    rw [if_neg (by
      intro k
      rcases kb with kb | kb
      · rcases kc with kc | kc
        · subst kb; subst kc; exact h3 k
        · omega
      · omega)]
    rw [if_neg (by
      intro k
      rcases kb with kb | kb
      · rcases kc with kc | kc
        · rcases kd with kd | kd
          · subst kb; subst kc; subst kd; exact h4 k
          · omega
        · omega
      · omega)]

/-- A text cut at a place, with plain bytes behind it. -/
theorem bt_cut (l m : List UInt8) (hm : ∀ b ∈ m, b.toNat < 128) (e : Nat) (he : e ≤ l.length) (i : Nat) : (i < e → bt (l.take e ++ m) i = bt l i) ∧ (e ≤ i → bt (l.take e ++ m) i < 128) := by
  have hl : (l.take e).length = e := by rw [List.length_take]; omega
  constructor
  · intro h
    unfold bt
    rw [List.getD_eq_getElem?_getD, List.getD_eq_getElem?_getD, List.getElem?_append_left (by omega), List.getElem?_take, if_pos h]
  · intro h
    unfold bt
    rw [List.getD_eq_getElem?_getD, List.getElem?_append_right (by omega)]
    by_cases hi : i - (l.take e).length < m.length
    · rw [List.getElem?_eq_getElem hi]
      exact hm _ (List.getElem_mem hi)
    · rw [List.getElem?_eq_none (by omega)]
      show (0 : UInt8).toNat < 128
      decide
theorem D_cut (l m : List UInt8) (hm : ∀ b ∈ m, b.toNat < 128) (e : Nat) (he : e ≤ l.length) (p : Nat) (h : p + (D l p).2.1 ≤ e) : D (l.take e ++ m) p = D l p := by
  have hp := D_pos l p
  have b0 := bt_cut l m hm e he p
  have b1 := bt_cut l m hm e he (p + 1)
  have b2 := bt_cut l m hm e he (p + 2)
  have b3 := bt_cut l m hm e he (p + 3)
  rw [D_eq, b0.1 (by omega)]
  rw [D_eq] at h
  rw [D_eq]
  refine dg_agree _ _ _ _ _ _ _ (fun k => b1.1 (by omega)) (fun k => b2.1 (by omega)) (fun k => b3.1 (by omega)) ?_ ?_ ?_
  · by_cases k : p + 1 < e
    · exact .inl (b1.1 k)
    · exact .inr (b1.2 (by omega))
  · by_cases k : p + 2 < e
    · exact .inl (b2.1 k)
    · exact .inr (b2.2 (by omega))
  · by_cases k : p + 3 < e
    · exact .inl (b3.1 k)
    · exact .inr (b3.2 (by omega))

theorem cs_ascii : ∀ m : List UInt8, (∀ b ∈ m, b.toNat < 128) → cs m 0 = m.map fun b => b.toNat
  | [], _ => cs_end (by simp)
  | b :: m, h => by
    have hb := h b (by simp)
    have e : D (b :: m) 0 = (b.toNat, 1, true) := by
      rw [D_eq]
      unfold dg
      have : bt (b :: m) 0 = b.toNat := rfl
      rw [this, if_pos hb]
    have s := cs_shift [b] m m.length 0 (by omega)
    rw [cs_step (by simp), e]
    show b.toNat :: cs (b :: m) (0 + 1) = _
    have s' : cs (b :: m) 1 = cs m 0 := s
    rw [Nat.zero_add, s', cs_ascii m (fun x hx => h x (by simp [hx]))]
    rfl

theorem fit_part (l m : List UInt8) (hm : ∀ b ∈ m, b.toNat < 128) (most : Nat) : ∀ n p t, p ≤ l.length → l.length ≤ p + n →
    p ≤ (hdG l.length most (sg l p) t).1 ∧ (hdG l.length most (sg l p) t).1 ≤ l.length ∧
    wds (cs (l.take (hdG l.length most (sg l p) t).1 ++ m) p) + t = (hdG l.length most (sg l p) t).2 + wds (m.map fun b => b.toNat)
  | n, p, t, hp, hn => by
    have hend : ∀ e, e ≤ l.length → cs (l.take e ++ m) e = m.map fun b => b.toNat := by
      intro e he
      have hl : (l.take e).length = e := by rw [List.length_take]; omega
      have := cs_shift (l.take e) m m.length 0 (by omega)
      rw [hl, Nat.add_zero] at this
      rw [this, cs_ascii m hm]
    by_cases hpl : p < l.length
    · rw [sg_step hpl, hdG]
      split
      · refine ⟨Nat.le_refl _, hp, ?_⟩
        show wds (cs (l.take p ++ m) p) + t = t + _
        rw [hend p hp]
        omega
      · have hd1 := D_pos l p
        have hd2 := D_in l p hpl
        obtain ⟨n, rfl⟩ : ∃ k, n = k + 1 := ⟨n - 1, by omega⟩
        obtain ⟨i1, i2, i3⟩ := fit_part l m hm most n (p + (D l p).2.1) (t + wd (D l p).1) (by omega) (by omega)
        refine ⟨?_, i2, ?_⟩
        · show p ≤ (hdG l.length most (sg l (p + (D l p).2.1)) (t + wd (D l p).1)).1
          omega
        show wds (cs (l.take (hdG l.length most (sg l (p + (D l p).2.1)) (t + wd (D l p).1)).1 ++ m) p) + t = _
        generalize (hdG l.length most (sg l (p + (D l p).2.1)) (t + wd (D l p).1)).1 = e at *
        have hl : (l.take e).length = e := by rw [List.length_take]; omega
        rw [cs_step (by rw [List.length_append]; omega), D_cut l m hm e i2 p i1, wds]
        show wd (D l p).1 + wds (cs (l.take e ++ m) (p + (D l p).2.1)) + t = (hdG l.length most (sg l (p + (D l p).2.1)) (t + wd (D l p).1)).2 + _
        omega
    · have : p = l.length := by omega
      subst this
      rw [sg_end (Nat.le_refl _), hdG]
      refine ⟨Nat.le_refl _, Nat.le_refl _, ?_⟩
      show wds (cs (l.take l.length ++ m) l.length) + t = t + _
      rw [hend _ (Nat.le_refl _)]
      omega

theorem blk_ascii (n : Nat) : ∀ b ∈ blk n, b.toNat < 128 := by
  intro b hb
  rw [blk, List.mem_replicate] at hb
  rw [hb.2]
  decide
theorem wds_blk : ∀ n, wds ((blk n).map fun b => b.toNat) = n
  | 0 => rfl
  | n + 1 => by
    have := wds_blk n
    rw [blk, List.replicate_succ, List.map_cons, wds]
    rw [blk] at this
    rw [this, show wd ((32 : UInt8).toNat) = 1 from rfl]
    omega
theorem width_part (l m : List UInt8) (hm : ∀ b ∈ m, b.toNat < 128) (most : Nat) : width (l.take (hd l most).1 ++ m) = (hd l most).2 + wds (m.map fun b => b.toNat) := by
  have := (fit_part l m hm most l.length 0 0 (Nat.zero_le _) (by omega)).2.2
  unfold width hd
  omega
/-- What is fitted takes just so many columns. -/
theorem width_fit (l : List UInt8) (n : Nat) : width (fit l n) = n := by
  unfold fit
  split
  · rename_i h
    have h2 := hd_all h
    have := width_part l (blk (n - width l)) (blk_ascii _) n
    rw [h2, List.take_length, wds_blk] at this
    simp only at this
    omega
  · rename_i h
    split
    · rename_i h0
      subst h0
      unfold width
      rw [cs_end (by simp)]
      rfl
    · have h2 := hd_some (l := l) (most := n - 1) (by omega)
      have := width_part l ([46] ++ blk (n - 1 - (hd l (n - 1)).2)) (by
        intro b hb
        rcases List.mem_append.1 hb with hb | hb
        · rw [List.mem_singleton] at hb
          subst hb
          decide
        · exact blk_ascii _ b hb) (n - 1)
      rw [List.append_assoc, this, List.map_append, List.map_cons, List.map_nil, List.singleton_append, wds, wds_blk, show wd ((46 : UInt8).toNat) = 1 from rfl]
      omega
theorem fit_len (l : List UInt8) (n : Nat) : (fit l n).length ≤ l.length + n := by
  unfold fit
  split
  · simp [blk]
  · split
    · simp
    · simp only [List.length_append, List.length_cons, List.length_nil, List.length_take, blk, List.length_replicate]
      omega
theorem fitZ_len (l : List UInt8) (n : Int) : (fitZ l n).length ≤ l.length + 4096 := by
  unfold fitZ
  split
  · simp
  · have := fit_len l n.toNat
    omega
end Go.Proofs.YtgkefaojbdjnoaaDoor
