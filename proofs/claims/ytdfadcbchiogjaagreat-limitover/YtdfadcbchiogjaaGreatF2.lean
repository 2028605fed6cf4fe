/- the reference: great numbers, their product -/
import Derived.Test.YtdfadcbchiogjaaGreatF1
import Derived.WalkKit
import Derived.ProofKit
import Derived.Handy
import Derived.WalkLawsBesides
import Derived.WalkSpells
import Derived.BigQuiet
import Derived.Deep.QuietTactic
import Derived.Deep.Light
import Derived.Deep.OwnRows
import Derived.Laws.AppendOwnNone
import Derived.Deep.RegionWith
import Derived.Lib.BitFns
import Derived.Lib.Walk
import Derived.Deep.CutBlock
import Derived.Deep.DeepCutAuto
import Derived.Deep.LoopGhost
import Derived.Deep.RegionHeld
namespace Go.Proofs.YtdfadcbchiogjaaGreat.N1
open Go.RowKit
set_option linter.unusedVariables false
set_option linter.unusedSimpArgs false

/-- what the digits are worth, the lowest first -/
def val : List Int → Int
  | [] => 0
  | d :: ds => d + 65536 * val ds
/-- 65536 to the power n -/
def pw : Nat → Int
  | 0 => 1
  | n + 1 => 65536 * pw n
def Dgs (ds : List Int) : Prop := ∀ d ∈ ds, 0 ≤ d ∧ d < 65536
/-- digits, the last of which isn't 0 -/
def Norm (ds : List Int) : Prop := Dgs ds ∧ (ds = [] ∨ ds.getD (ds.length - 1) 0 ≠ 0)

theorem pw_pos (n : Nat) : 0 < pw n := by
  induction n with
  | zero => decide
  | succ n ih => unfold pw; omega
theorem pw_add (m n : Nat) : pw (m + n) = pw m * pw n := by
  induction m with
  | zero => simp [pw]
  | succ m ih => rw [Nat.succ_add, pw, pw, ih, Int.mul_assoc]
theorem val_append (xs ys : List Int) : val (xs ++ ys) = val xs + pw xs.length * val ys := by
  induction xs with
  | nil => simp [val, pw]
  | cons x xs ih => simp only [List.cons_append, val, List.length_cons, pw, ih]; grind
theorem val_nonneg (ds : List Int) (h : Dgs ds) : 0 ≤ val ds := by
  induction ds with
  | nil => simp [val]
  | cons d ds ih =>
    have h1 := h d (List.mem_cons_self ..)
    have h2 := ih fun x hx => h x (List.mem_cons_of_mem _ hx)
    unfold val
    omega
theorem val_lt (ds : List Int) (h : Dgs ds) : val ds < pw ds.length := by
  induction ds with
  | nil => simp [val, pw]
  | cons d ds ih =>
    have h1 := h d (List.mem_cons_self ..)
    have h2 := ih fun x hx => h x (List.mem_cons_of_mem _ hx)
    simp only [val, List.length_cons, pw]
    omega
theorem val_zeros (n : Nat) : val (List.replicate n 0) = 0 := by
  induction n with
  | zero => rfl
  | succ n ih => rw [List.replicate_succ, val, ih]; rfl
theorem Dgs.append {xs ys : List Int} (h : Dgs xs) (k : Dgs ys) : Dgs (xs ++ ys) := by
  intro d hd
  rcases List.mem_append.1 hd with h1 | h1
  · exact h d h1
  · exact k d h1
theorem Dgs.one {x : Int} (h : 0 ≤ x ∧ x < 65536) : Dgs [x] := by
  intro d hd
  rw [List.mem_singleton.1 hd]
  exact h
theorem Dgs.take {xs : List Int} (h : Dgs xs) (k : Nat) : Dgs (xs.take k) := fun d hd => h d (List.mem_of_mem_take hd)
theorem Dgs.drop {xs : List Int} (h : Dgs xs) (k : Nat) : Dgs (xs.drop k) := fun d hd => h d (List.mem_of_mem_drop hd)
theorem Dgs.get {xs : List Int} (h : Dgs xs) (k : Nat) : 0 ≤ xs.getD k 0 ∧ xs.getD k 0 < 65536 := by
  by_cases hk : k < xs.length
  · have := h xs[k] (List.getElem_mem hk)
    simpa [hk] using this
  · simp [hk]
theorem Dgs.nil : Dgs [] := fun d hd => by cases hd
theorem Dgs.zeros (n : Nat) : Dgs (List.replicate n 0) := fun d hd => by rw [List.eq_of_mem_replicate hd]; decide
theorem val_get (ds : List Int) (k : Nat) (h : k < ds.length) : val (ds.drop k) = ds.getD k 0 + 65536 * val (ds.drop (k + 1)) := by
  rw [drop_getD ds k h]
  rfl
/-- a number of n digits, the last not 0, is at least 65536 to the power n - 1 -/
theorem val_ge (ds : List Int) (h : Norm ds) (hne : ds ≠ []) : pw (ds.length - 1) ≤ val ds := by
  have hl : 0 < ds.length := List.length_pos_iff.2 hne
  have h1 := h.2.resolve_left hne
  have h2 := h.1.get (ds.length - 1)
  have e : ds = ds.take (ds.length - 1) ++ ds.drop (ds.length - 1) := (List.take_append_drop _ _).symm
  have hv := val_append (ds.take (ds.length - 1)) (ds.drop (ds.length - 1))
  rw [← e, val_get _ _ (by omega), List.drop_eq_nil_of_le (show ds.length ≤ ds.length - 1 + 1 by omega), show (ds.take (ds.length - 1)).length = ds.length - 1 by simp] at hv
  have h3 := val_nonneg _ (h.1.take (ds.length - 1))
  have h4 := pw_pos (ds.length - 1)
  simp only [val, Int.mul_zero, Int.add_zero] at hv
  have h5 : pw (ds.length - 1) * 1 ≤ pw (ds.length - 1) * ds.getD (ds.length - 1) 0 := Int.mul_le_mul_of_nonneg_left (by omega) (by omega)
  omega

/-- a slice value whose elements read as these digits -/
def Dig (w : World) (v : Value) (ds : List Int) : Prop :=
  ∃ a cap, v = .slice a ds.length cap ∧ ds.length ≤ cap ∧ cap ≤ maxLen ∧ (ds ≠ [] → ∃ g, a = some ⟨g, 0, none⟩ ∧ g < w.heap.size ∧ ∀ j, j < ds.length → w.cell? ⟨g, j, none⟩ = some (.int .u64 (ds.getD j 0)))
/-- .. in memory from block B on -/
def Own (B : Nat) (w : World) (v : Value) (ds : List Int) : Prop := w.ownsRow B 103 1 v ds.length (ds.map (Value.int .u64))

theorem add_lit (g j : Nat) : (⟨g, 0, none⟩ : Addr).add j = ⟨g, j, none⟩ := by unfold Addr.add; split <;> simp_all
theorem Own.dig {B : Nat} {w : World} {v : Value} {ds : List Int} (h : Own B w v ds) : Dig w v ds := by
  have h0 := h
  unfold Own World.ownsRow at h
  rcases h.2 with ⟨rfl, hn⟩ | ⟨g, cap, cur, rfl, hb, hg, hc, hm, _⟩
  · obtain rfl : ds = [] := List.eq_nil_of_length_eq_zero hn
    exact ⟨none, 0, rfl, Nat.le_refl _, by unfold maxLen; omega, fun h => absurd rfl h⟩
  · refine ⟨_, cap, rfl, hc, hm, fun _ => ⟨g, rfl, (Array.getElem?_eq_some_iff.1 hg).1, fun j hj => ?_⟩⟩
    have := World.ownsRow.cells h0 (g := g) rfl j (.int .u64 (ds.getD j 0)) (by simp [hj])
    rw [add_lit] at this
    exact this
theorem Own.mono {B B' : Nat} {w : World} {v : Value} {ds : List Int} (h : Own B w v ds) (hB : B' ≤ B) : Own B' w v ds := by
  unfold Own World.ownsRow at h ⊢
  refine ⟨h.1, ?_⟩
  rcases h.2 with h0 | ⟨g, cap, cur, h1, h2, h3⟩
  · exact .inl h0
  · exact .inr ⟨g, cap, cur, h1, by omega, h3⟩
theorem Own.below {B : Nat} {w w' : World} {v : Value} {ds : List Int} (h : Own B w v ds) (hb : Below w.heap.size w w') : Own B w' v ds := by
  unfold Own World.ownsRow at h ⊢
  refine ⟨h.1, ?_⟩
  rcases h.2 with h0 | ⟨g, cap, cur, h1, h2, h3, h4⟩
  · exact .inl h0
  · exact .inr ⟨g, cap, cur, h1, h2, (hb.block g (Array.getElem?_eq_some_iff.1 h3).1).trans h3, h4⟩
theorem Dig.below {w w' : World} {v : Value} {ds : List Int} (h : Dig w v ds) (hb : Below w.heap.size w w') : Dig w' v ds := by
  obtain ⟨a, cap, rfl, h1, h2, h3⟩ := h
  refine ⟨a, cap, rfl, h1, h2, fun hx => ?_⟩
  obtain ⟨g, rfl, hlt, hc⟩ := h3 hx
  exact ⟨g, rfl, Nat.lt_of_lt_of_le hlt hb.size, fun j hj => (hb.cell (by exact hlt)).trans (hc j hj)⟩
theorem Own.grown {B : Nat} {a w w' : World} {v v' : Value} {ds : List Int} (h : Own B w v ds) (ha : Below B a w) (hg : w.grownBy w' v.ownBlock) (hB : B ≤ w.heap.size) : Below B a w' :=
  ha.grown hg hB fun k hk => (World.ownsRow.lt h k hk).1
theorem Own.nil (B : Nat) (w : World) : Own B w (.slice none 0 0) [] := World.ownsRow_nil w B 103 1

theorem Tryz.info103 : (Tryz.prog.info? 103).map (fun i => (i.zero, i.size, i.bytes)) = some (some (.int .u64 0), 1, 8) := by kernel_rfl

/-- append(l, x): one digit more -/
theorem app_one (w : World) {ops : Array Oper} {rest : List Oper} {o : Oper} {a : Act} {Q : Exit → Act → World → Prop} (hgd : o.guard = none) (s x : Operand)
    (ho : o.op = .call { callee := .builtin .append, args := #[s, x], argTypes := #[116, 116] })
    (B g c : Nat) (v : Value) (ds : List Int) (d : Int) (hs : a.eval s = v) (hx : a.eval x = .slice (some ⟨g, 0, none⟩) 1 c) (hown : Own B w v ds) (hd : w.cell? ⟨g, 0, none⟩ = some (.int .u64 d)) (hl : ds.length ≤ 1000000) (hB : B ≤ w.heap.size)
    (h : ∀ v' w', Own B w' v' (ds ++ [d]) → w.grownBy w' v.ownBlock → wpList Tryz.prog ops Q rest (a.put o.dst v') w') : wpList Tryz.prog ops Q (o :: rest) a w := by
  obtain ⟨i0, hi, hz0, hz1, hz2⟩ := info_parts Tryz.info103
  refine wpList_append_own w hgd s x 116 ho B 103 i0 (.int .u64 0) 1 8 Tryz.underlying116 hi hz0 hz1 hz2 rfl (by decide) v ds.length (ds.map (Value.int .u64)) hs hown ⟨g, 0, none⟩ 1 c [.int .u64 d] hx rfl ?_ ?_ ?_ ?_ hB ?_
  · intro j u hj
    match j, hj with
    | 0, hj => simp at hj; subst hj; simpa [Addr.add] using hd
  · intro u hu; simp at hu; subst hu; rfl
  · unfold maxLen; omega
  · omega
  · intro v' w' h1 h2 _
    exact h v' w' (by unfold Own; simpa using h1) h2

/-- append(l, m...): all of m's digits more -/
theorem app_all (w : World) {ops : Array Oper} {rest : List Oper} {o : Oper} {a : Act} {Q : Exit → Act → World → Prop} (hgd : o.guard = none) (s x : Operand)
    (ho : o.op = .call { callee := .builtin .append, args := #[s, x], argTypes := #[116, 116] })
    (B : Nat) (v v2 : Value) (ds es : List Int) (hs : a.eval s = v) (hx : a.eval x = v2) (hown : Own B w v ds) (hd : Dig w v2 es) (hn : es = [] → v2 = .slice none 0 0) (hl : ds.length + es.length ≤ 1000000) (hB : B ≤ w.heap.size)
    (h : ∀ v' w', Own B w' v' (ds ++ es) → w.grownBy w' v.ownBlock → wpList Tryz.prog ops Q rest (a.put o.dst v') w') : wpList Tryz.prog ops Q (o :: rest) a w := by
  obtain ⟨i0, hi, hz0, hz1, hz2⟩ := info_parts Tryz.info103
  by_cases h0 : es = []
  · subst h0
    rw [hn rfl] at hx
    refine wpList_append_own_none hgd s x 116 ho B 103 i0 1 Tryz.underlying116 hi v ds.length (ds.map (Value.int .u64)) hs hown hx ?_
    exact h v w (by rw [List.append_nil]; exact hown) ⟨rfl, rfl, rfl, Nat.le_refl _, fun _ _ _ => rfl⟩
  · obtain ⟨a2, c, rfl, _, _, h3⟩ := hd
    obtain ⟨g, rfl, hlt, hc⟩ := h3 h0
    refine wpList_append_own w hgd s x 116 ho B 103 i0 (.int .u64 0) 1 8 Tryz.underlying116 hi hz0 hz1 hz2 rfl (by decide) v ds.length (ds.map (Value.int .u64)) hs hown ⟨g, 0, none⟩ es.length c (es.map (Value.int .u64)) hx (by simp) ?_ ?_ ?_ ?_ hB ?_
    · intro j u hj
      have hj' : j < es.length := by
        rcases Nat.lt_or_ge j es.length with h | h
        · exact h
        · rw [List.getElem?_eq_none (by simpa using h)] at hj; cases hj
      have := hc j hj'
      rw [add_lit, this]
      simp [hj'] at hj ⊢
      exact hj
    · intro u hu
      obtain ⟨d, _, rfl⟩ := List.mem_map.1 hu
      rfl
    · unfold maxLen; omega
    · omega
    · intro v' w' h1 h2 _
      exact h v' w' (by unfold Own; simpa using h1) h2

/-- what a call leaves that tells a number n: its digits, in new memory -/
def BigPost (n : Int) (L : Nat) (w : World) (e : Ending) (w' : World) : Prop :=
  ∃ v ds, e = .returned v ∧ Own w.heap.size w' v ds ∧ Hid (Norm ds ∧ val ds = n ∧ ds.length ≤ L) ∧ Below w.heap.size w w' ∧ Hid (ds = [] → v = .slice none 0 0)

/-- what the loop of Of keeps -/
def OfRel (n0 : Int) (w : World) (k : Nat) (n : Int) (v : Value) (ds : List Int) (wr : World) : Prop :=
  Own w.heap.size wr v ds ∧ Below w.heap.size w wr ∧ Dgs ds ∧ ds.length = k ∧ n0 = val ds + pw k * n ∧ (n = 0 → Norm ds) ∧ (ds = [] → v = .slice none 0 0)

theorem OfRel.step {n0 : Int} {w : World} {k : Nat} {n : Int} {v v' : Value} {ds : List Int} {wr w1 w2 : World} (h : OfRel n0 w k n v ds wr) (hn : 0 < n) (hb : Below wr.heap.size wr w1)
    (ho : Own w.heap.size w2 v' (ds ++ [n % 65536])) (hg : w1.grownBy w2 v.ownBlock) : OfRel n0 w (k + 1) (n / 65536) v' (ds ++ [n % 65536]) w2 := by
  obtain ⟨h1, h2, h3, h4, h5, h6, h7⟩ := h
  have hB : Below w.heap.size w w1 := h2.trans (hb.mono h2.size)
  refine ⟨ho, (h1.below hb).grown (v' := v') hB hg hB.size, h3.append (Dgs.one (by omega)), by simp [h4], ?_, ?_, by simp⟩
  · rw [val_append, h4, h5, show k + 1 = k + 1 from rfl, pw]
    simp only [val]
    have e : n = n % 65536 + 65536 * (n / 65536) := by omega
    have e2 : pw k * n = pw k * (n % 65536) + pw k * (65536 * (n / 65536)) := by rw [← Int.mul_add, ← e]
    rw [e2]
    grind
  · intro h0
    refine ⟨h3.append (Dgs.one (by omega)), Or.inr ?_⟩
    simp
    omega

theorem pw_big (k : Nat) (h : 4 ≤ k) : 18446744073709551616 ≤ pw k := by
  obtain ⟨m, rfl⟩ : ∃ m, k = 4 + m := ⟨k - 4, by omega⟩
  rw [pw_add]
  have := pw_pos m
  have e : pw 4 = 18446744073709551616 := by decide
  rw [e]
  omega

theorem OfRel.short {n0 : Int} {w : World} {k : Nat} {n : Int} {v : Value} {ds : List Int} {wr : World} (h : OfRel n0 w k n v ds wr) (hn : 0 < n) (h0 : n0 < 18446744073709551616) : k < 4 := by
  rcases Nat.lt_or_ge k 4 with hk | hk
  · exact hk
  · exfalso
    have h1 := pw_big k hk
    have h2 := val_nonneg ds h.2.2.1
    have h3 := h.2.2.2.2.1
    have h4 : pw k * 1 ≤ pw k * n := Int.mul_le_mul_of_nonneg_left (by omega) (by omega)
    omega

theorem rof (n0 : Int) (w : World) (hn : 0 ≤ n0 ∧ n0 < 18446744073709551616) : Calls Tryz.prog 61 #[.int .u64 n0] w (BigPost n0 4 w) := by
  go_enter Tryz.func61, Tryz.ntmps61
  go_wp2
  go_loopw [0, 3] (fun ni v wr => ∃ k : Nat, ∃ n : Int, ∃ ds : List Int, ni = .int .u64 n ∧ (0 ≤ n ∧ n < 18446744073709551616) ∧ k ≤ 4 ∧ OfRel n0 w k n v ds wr)
    (fun ni _ _ => (intOf ni).toNat)
  case atStart => exact ⟨0, n0, [], rfl, hn, by omega, Own.nil _ _, Below.refl _ _, Dgs.nil, rfl, by simp [val, pw], fun _ => ⟨Dgs.nil, Or.inl rfl⟩, fun _ => rfl⟩
  case round =>
    obtain ⟨k, n, ds, rfl, bn, hk, hs⟩ := hrel
    go_wp2_with (first
      | (at_builtin; refine app_one _ rfl _ _ rfl w.heap.size wr.heap.size 1 _ ds (n % 65536) rfl rfl ?c1 ?c2 ?c3 ?c4 ?_)
      | go_in)
    case c1 => exact Own.below hs.1 ((Below.refl _ _).alloc (Nat.le_refl _) _)
    case c2 => simp
    case c3 => have := hs.2.2.2.1; omega
    case c4 => have := hs.2.1.size; simp; omega
    · intro v' w1 ho hg
      have hlt : 0 < n := by assumption
      have h7 := OfRel.step hs hlt ((Below.refl _ _).alloc (Nat.le_refl _) _) ho hg
      have h8 := OfRel.short hs hlt hn.2
      clear ho hg hs
      have H7 : Hid _ := h7
      clear h7
      go_wp2
      exact ⟨⟨k + 1, n / 65536, _, rfl, by omega, by omega, H7.out⟩, by simp [intOf]; omega⟩
    · obtain rfl : n = 0 := by omega
      obtain ⟨h1, h2, h3, h4, h5, h6, h7⟩ := hs
      go_ret
      exact ⟨_, ds, rfl, h1, ⟨h6 rfl, by omega, by omega⟩, h2, h7⟩

/-- how many digits are left, without zeros at the end -/
def trimN (ds : List Int) : Nat → Nat
  | 0 => 0
  | k + 1 => if ds.getD k 0 = 0 then trimN ds k else k + 1
def trimL (ds : List Int) : List Int := ds.take (trimN ds ds.length)

theorem trimN_le (ds : List Int) (k : Nat) : trimN ds k ≤ k := by
  induction k with
  | zero => exact Nat.le_refl _
  | succ k ih => unfold trimN; split <;> omega
theorem trim_val (ds : List Int) (k : Nat) (h : k ≤ ds.length) : val (ds.take (trimN ds k)) = val (ds.take k) := by
  induction k with
  | zero => rfl
  | succ k ih =>
    unfold trimN
    split
    · rename_i h0
      rw [ih (by omega), take_getD ds k (by omega), val_append, h0]
      simp [val]
    · rfl
theorem trimL_val (ds : List Int) : val (trimL ds) = val ds := by
  unfold trimL
  rw [trim_val ds ds.length (Nat.le_refl _), List.take_length]
theorem trimN_last (ds : List Int) (k : Nat) : trimN ds k = 0 ∨ ds.getD (trimN ds k - 1) 0 ≠ 0 := by
  induction k with
  | zero => exact Or.inl rfl
  | succ k ih =>
    unfold trimN
    split
    · exact ih
    · exact Or.inr (by simpa using (by assumption))
theorem trimN_zero (ds : List Int) (k : Nat) (h : trimN ds k = 0) : ∀ j, j < k → ds.getD j 0 = 0 := by
  induction k with
  | zero => intro j hj; omega
  | succ k ih =>
    unfold trimN at h
    split at h
    · intro j hj
      by_cases e : j = k
      · subst e; assumption
      · exact ih h j (by omega)
    · omega
theorem trimL_length (ds : List Int) : (trimL ds).length = trimN ds ds.length := by
  have := trimN_le ds ds.length
  unfold trimL
  rw [List.length_take]
  omega
theorem trimL_le (ds : List Int) : (trimL ds).length ≤ ds.length := by
  rw [trimL_length]
  exact trimN_le ds ds.length
theorem trimL_norm (ds : List Int) (h : Dgs ds) : Norm (trimL ds) := by
  refine ⟨h.take _, ?_⟩
  rcases trimN_last ds ds.length with h0 | h0
  · left
    unfold trimL
    rw [h0]
    rfl
  · right
    rw [trimL_length]
    have h1 : trimN ds ds.length - 1 < trimN ds ds.length := by
      rcases Nat.eq_zero_or_pos (trimN ds ds.length) with h2 | h2
      · exfalso
        rw [h2] at h0
        have : ds = [] ∨ 0 < ds.length := by
          cases ds with
          | nil => exact Or.inl rfl
          | cons d ds => exact Or.inr (by simp)
        rcases this with rfl | h3
        · exact h0 rfl
        · have h4 := trimN_zero ds ds.length h2 0 h3
          exact h0 h4
      · omega
    unfold trimL
    rw [List.getD_eq_getElem?_getD, List.getElem?_take, if_pos h1, ← List.getD_eq_getElem?_getD]
    exact h0

theorem Own.take {B : Nat} {w : World} {g cap : Nat} {ds : List Int} (h : Own B w (.slice (some ⟨g, 0, none⟩) ds.length cap) ds) (k : Nat) (hk : k ≤ ds.length) : Own B w (.slice (some ⟨g, 0, none⟩) k cap) (ds.take k) := by
  have hl : (ds.take k).length = k := by simp; omega
  unfold Own World.ownsRow at h ⊢
  rcases h.2 with ⟨h1, _⟩ | ⟨g', cap', cur, hv, h2, h3, h4, h5, h6, h7⟩
  · cases h1
  · simp at hv
    obtain ⟨rfl, rfl⟩ := hv
    refine ⟨by simp, Or.inr ⟨g, cap, cur, by rw [hl], h2, h3, by omega, h5, h6, ?_⟩⟩
    rw [hl, List.map_take, ← h7, List.take_take]
    congr 1
    omega

def TrimPost (B : Nat) (ds : List Int) (w : World) (e : Ending) (w' : World) : Prop := ∃ v', e = .returned v' ∧ Own B w v' (trimL ds) ∧ w = w'

theorem rtrim_row (B : Nat) (ds : List Int) (g cap : Nat) (w : World) (h : Own B w (.slice (some ⟨g, 0, none⟩) ds.length cap) ds) (hl : ds.length ≤ 1000000) :
    Calls Tryz.prog 79 #[.slice (some ⟨g, 0, none⟩) ds.length cap] w (TrimPost B ds w) := by
  obtain ⟨a', cap', hv, hcap, hmax, hcell⟩ := h.dig
  simp at hv
  obtain ⟨rfl, rfl⟩ := hv
  have hcell' : ∀ j, j < ds.length → w.cell? ⟨g, j, none⟩ = some (.int .u64 (ds.getD j 0)) := by
    intro j hj
    obtain ⟨g', e, _, hc⟩ := hcell (by intro e; subst e; simp at hj)
    simp at e
    subst e
    exact hc j hj
  have H : Hid (Own B w (.slice (some ⟨g, 0, none⟩) ds.length cap) ds) := h
  have HC : Hid _ := hcell'
  unfold maxLen at hmax
  clear h hcell hcell'
  go_enter Tryz.func79, Tryz.ntmps79
  go_wp2
  go_loop [3] (fun i => ∃ k : Nat, k ≤ ds.length ∧ i = .int .i64 k ∧ Hid (trimN ds ds.length = trimN ds k))
    (fun i => (intOf i).toNat)
  case atStart => exact ⟨ds.length, by omega, rfl, rfl⟩
  case round =>
    obtain ⟨k, hk, rfl, hs⟩ := hrel
    by_cases h0 : k = 0
    · subst h0
      go_wp2
      go_ret
      exact ⟨_, rfl, by rw [trimL, hs.out]; exact Own.take H.out 0 (by omega), rfl⟩
    · obtain ⟨m, rfl⟩ : ∃ m, k = m + 1 := ⟨k - 1, by omega⟩
      have hc := HC.out m (by omega)
      generalize hxk : ds.getD m 0 = x at hc
      have Hx : Hid _ := hxk
      clear hxk
      by_cases hx0 : x = 0
      · have hb : (x == 0) = true := by simp [hx0]
        have HX0 : Hid _ := hx0
        clear hx0
        go_wp2
        refine ⟨⟨m, by omega, rfl, ?_⟩, by simp [intOf]⟩
        have h1 := hs.out
        rw [trimN, if_pos (by rw [Hx.out, HX0.out])] at h1
        exact h1
      · have hb : (x == 0) = false := by simp [hx0]
        go_wp2
        go_ret
        have h1 := hs.out
        rw [trimN, if_neg (by rw [Hx.out]; exact hx0)] at h1
        exact ⟨_, rfl, by rw [trimL, h1]; exact Own.take H.out (m + 1) (by omega), rfl⟩

theorem rtrim (B : Nat) (ds : List Int) (v : Value) (w : World) (h : Own B w v ds) (hl : ds.length ≤ 1000000) : Calls Tryz.prog 79 #[v] w (TrimPost B ds w) := by
  have h0 := h
  unfold Own World.ownsRow at h0
  rcases h0.2 with ⟨rfl, hn⟩ | ⟨g, cap, cur, rfl, _⟩
  · obtain rfl : ds = [] := List.eq_nil_of_length_eq_zero hn
    clear h0 h
    go_enter Tryz.func79, Tryz.ntmps79
    go_wp2
    refine wp_loop_rounds 1 ?_
    rw [rounds_succ]
    go_wp2
    go_ret
    exact ⟨_, rfl, Own.nil _ _, rfl⟩
  · exact rtrim_row B ds g cap w h hl

/-- what Two tells: its digits -/
theorem two_words (hi lo : List Int) (n m : Int) (k : Nat) (h1 : val lo = n) (h2 : val hi = m) (hk : (lo ++ List.replicate k 0).length = 4) : val (lo ++ List.replicate k 0 ++ hi) = wd m n := by
  rw [val_append, val_append, val_zeros, hk, h1, h2]
  simp only [wd]
  have : pw 4 = 18446744073709551616 := by decide
  rw [this]
  omega

theorem len_of_four (ds : List Int) (h : Norm ds) (hv : val ds < 18446744073709551616) : ds.length ≤ 4 := by
  rcases Nat.lt_or_ge ds.length 5 with h1 | h1
  · omega
  · exfalso
    have h2 := val_ge ds h (by intro e; subst e; simp at h1)
    have h3 := pw_big (ds.length - 1) (by omega)
    omega

def sliceLen : Value → Nat
  | .slice _ n _ => n
  | _ => 0

def TwoPost (n : Int) (w : World) (e : Ending) (w' : World) : Prop :=
  ∃ v ds, e = .returned v ∧ Own w.heap.size w' v ds ∧ Hid (Norm ds ∧ val ds = n ∧ ds.length ≤ 8) ∧ Below w.heap.size w w'

/-- what Compare tells -/
def CmpPost (m n : Int) (w : World) (e : Ending) (w' : World) : Prop := ∃ c, e = .returned (.int .i64 c) ∧ (-9223372036854775808 ≤ c ∧ c ≤ 9223372036854775807) ∧ Hid ((c < 0 ↔ m < n) ∧ (c = 0 ↔ m = n)) ∧ ∃ k, w' = w.drewN k

theorem pw_mono {m n : Nat} (h : m ≤ n) : pw m ≤ pw n := by
  obtain ⟨k, rfl⟩ : ∃ k, n = m + k := ⟨n - m, by omega⟩
  rw [pw_add]
  have h1 := pw_pos m
  have h2 := pw_pos k
  have : pw m * 1 ≤ pw m * pw k := Int.mul_le_mul_of_nonneg_left (by omega) (by omega)
  omega
/-- the longer one is the greater one -/
theorem val_shorter (xs ys : List Int) (hx : Norm xs) (hy : Norm ys) (h : xs.length < ys.length) : val xs < val ys := by
  have h1 := val_lt xs hx.1
  have h2 := val_ge ys hy (by intro e; subst e; simp at h)
  have h3 := pw_mono (show xs.length ≤ ys.length - 1 by omega)
  omega
/-- where the digits from k + 1 on are the same, digit k decides -/
theorem val_at (xs ys : List Int) (hx : Dgs xs) (hy : Dgs ys) (he : xs.length = ys.length) (k : Nat) (hk : k < xs.length) (hd : xs.drop (k + 1) = ys.drop (k + 1)) (hlt : xs.getD k 0 < ys.getD k 0) : val xs < val ys := by
  have e1 := val_append (xs.take k) (xs.drop k)
  have e2 := val_append (ys.take k) (ys.drop k)
  rw [List.take_append_drop, List.length_take, val_get xs k hk] at e1
  rw [List.take_append_drop, List.length_take, val_get ys k (by omega)] at e2
  rw [show min k xs.length = k by omega] at e1
  rw [show min k ys.length = k by omega] at e2
  have h1 := val_lt _ (hx.take k)
  have h2 := val_nonneg _ (hy.take k)
  rw [List.length_take, show min k xs.length = k by omega] at h1
  have h3 := pw_pos k
  have h4 : pw k * (xs.getD k 0 + 65536 * val (xs.drop (k + 1)) + 1) ≤ pw k * (ys.getD k 0 + 65536 * val (ys.drop (k + 1))) := Int.mul_le_mul_of_nonneg_left (by rw [hd]; omega) (by omega)
  rw [Int.mul_add, Int.mul_one] at h4
  omega

theorem rcompare_row (xs ys : List Int) (g cap g' cap' : Nat) (w : World) (hx : Norm xs) (hy : Norm ys) (hl : xs.length ≤ 1000000) (he : xs.length = ys.length)
    (hc : ∀ j, j < xs.length → w.cell? ⟨g, j, none⟩ = some (.int .u64 (xs.getD j 0))) (hc' : ∀ j, j < ys.length → w.cell? ⟨g', j, none⟩ = some (.int .u64 (ys.getD j 0))) :
    Calls Tryz.prog 59 #[.slice (some ⟨g, 0, none⟩) xs.length cap, .slice (some ⟨g', 0, none⟩) xs.length cap'] w (CmpPost (val xs) (val ys) w) := by
  have Hc : Hid _ := hc
  have Hc' : Hid _ := hc'
  have He : Hid _ := he
  have HX : Hid (Norm xs) := hx
  have HY : Hid (Norm ys) := hy
  clear hc hc' he hx hy
  go_enter Tryz.func59, Tryz.ntmps59
  go_wp2
  go_loopw [5] (fun i wr => ∃ k n : Nat, k ≤ xs.length ∧ i = .int .i64 ((k : Int) - 1) ∧ wr = w.drewN n ∧ Hid (xs.drop k = ys.drop k))
    (fun i _ => (intOf i + 1).toNat)
  case atStart => exact ⟨xs.length, 0, by omega, rfl, rfl, by show xs.drop xs.length = ys.drop xs.length; rw [List.drop_length, He.out, List.drop_length]⟩
  case round =>
    obtain ⟨k, n, hk, rfl, rfl, hs⟩ := hrel
    by_cases h0 : k = 0
    · subst h0
      go_wp2
      go_ret
      have h1 := hs.out
      rw [List.drop_zero, List.drop_zero] at h1
      exact ⟨0, rfl, by decide, ⟨by rw [h1]; omega, by rw [h1]; simp⟩, _, rfl⟩
    · obtain ⟨m, rfl⟩ : ∃ m, k = m + 1 := ⟨k - 1, by omega⟩
      have ei : ((m + 1 : Nat) : Int) - 1 = (m : Int) := by omega
      rw [ei]
      have hc := Hc.out m (by omega)
      have hc' := Hc'.out m (by rw [← He.out]; omega)
      have hxd := HX.out.1.get m
      have hyd := HY.out.1.get m
      generalize hxk : xs.getD m 0 = x at hc hxd
      generalize hyk : ys.getD m 0 = y at hc' hyd
      have Hx : Hid _ := hxk
      have Hy : Hid _ := hyk
      have hlt : (m : Int) < (xs.length : Int) := by omega
      clear hxk hyk ei
      go_wp2
      go_quiet (fail)
      rcases Int.lt_trichotomy x y with hxy | hxy | hxy
      · go_wp2
        go_ret
        have h1 := val_at xs ys HX.out.1 HY.out.1 He.out m (by omega) hs.out (by rw [Hx.out, Hy.out]; exact hxy)
        exact ⟨-1, rfl, by decide, ⟨by omega, by omega⟩, _, by rw [World.drewN_drewN]⟩
      · subst hxy
        have g1 : decide (x < x) = false := by simp
        go_wp2
        go_quiet (fail)
        go_wp2
        refine ⟨⟨m, _, by omega, rfl, rfl, ?_⟩, by simp [intOf]⟩
        have h1 := hs.out
        show xs.drop m = ys.drop m
        rw [drop_getD xs m (by omega), drop_getD ys m (by rw [← He.out]; omega), h1, Hx.out, Hy.out]
      · have g1 : ¬ x < y := by omega
        go_wp2
        go_quiet (fail)
        go_wp2
        go_ret
        have h1 := val_at ys xs HY.out.1 HX.out.1 He.out.symm m (by rw [← He.out]; omega) hs.out.symm (by rw [Hx.out, Hy.out]; exact hxy)
        exact ⟨1, rfl, by decide, ⟨by omega, by omega⟩, _, by rw [World.drewN_drewN]⟩

theorem rcompare (xs ys : List Int) (u v : Value) (w : World) (hx : Norm xs) (hy : Norm ys) (hl : xs.length ≤ 1000000) (hl' : ys.length ≤ 1000000) (hu : Dig w u xs) (hv : Dig w v ys) :
    Calls Tryz.prog 59 #[u, v] w (CmpPost (val xs) (val ys) w) := by
  obtain ⟨a, cap, rfl, -, -, h⟩ := hu
  obtain ⟨a', cap', rfl, -, -, h'⟩ := hv
  by_cases he : xs.length = ys.length
  · by_cases h0 : xs = []
    · subst h0
      obtain rfl : ys = [] := List.eq_nil_of_length_eq_zero he.symm
      clear h h' hx hy
      go_enter Tryz.func59, Tryz.ntmps59
      go_wp2
      refine wp_loop_rounds 1 ?_
      rw [rounds_succ]
      go_wp2
      go_ret
      exact ⟨0, rfl, by decide, ⟨by omega, by simp⟩, 0, rfl⟩
    · obtain ⟨g, rfl, hb, hc⟩ := h h0
      obtain ⟨g', rfl, hb', hc'⟩ := h' (by intro e; subst e; exact h0 (List.eq_nil_of_length_eq_zero he))
      rw [← he]
      exact rcompare_row xs ys g cap g' cap' w hx hy hl he hc hc'
  · have hn : ((xs.length : Int) != (ys.length : Int)) = true := by simp; omega
    have hs : Hid ((xs.length < ys.length → val xs < val ys) ∧ (ys.length < xs.length → val ys < val xs)) := ⟨val_shorter xs ys hx hy, val_shorter ys xs hy hx⟩
    clear h h' hx hy
    go_enter Tryz.func59, Tryz.ntmps59
    go_wp2
    go_ret
    obtain ⟨h1, h2⟩ := hs.out
    refine ⟨(xs.length : Int) - ys.length, rfl, by omega, ⟨?_, ?_⟩, 0, rfl⟩
    · rcases Nat.lt_or_gt_of_ne he with h | h
      · have := h1 h; omega
      · have := h2 h; omega
    · rcases Nat.lt_or_gt_of_ne he with h | h
      · have := h1 h; omega
      · have := h2 h; omega

/-- is(w, b): is the Wide that number? -/
def IsPost (r : Bool) (w : World) (e : Ending) (w' : World) : Prop := e = .returned (.bool r) ∧ Below w.heap.size w w'

theorem val_set (ds : List Int) (j : Nat) (x : Int) (h : j < ds.length) : val (ds.set j x) = val ds + pw j * (x - ds.getD j 0) := by
  induction ds generalizing j with
  | nil => simp at h
  | cons d ds ih =>
    cases j with
    | zero => simp [val, pw]; omega
    | succ j =>
      have := ih j (by simpa using h)
      simp only [List.set_cons_succ, val, this, pw, List.getD_cons_succ]
      grind
theorem pw_succ (n : Nat) : pw (n + 1) = 65536 * pw n := rfl
theorem Dgs.set {ds : List Int} (h : Dgs ds) (j : Nat) (x : Int) (hx : 0 ≤ x ∧ x < 65536) : Dgs (ds.set j x) := by
  intro d hd
  rcases List.mem_or_eq_of_mem_set hd with h1 | h1
  · exact h d h1
  · rw [h1]; exact hx
theorem val_take_succ (xs : List Int) (i : Nat) (h : i < xs.length) : val (xs.take (i + 1)) = val (xs.take i) + pw i * xs.getD i 0 := by
  rw [take_getD xs i h, val_append]
  simp [val, show min i xs.length = i by omega]

/-- what the inner loop of Mul keeps: so much is added, c is carried -/
def MulIn (xs ys : List Int) (i k : Nat) (c : Int) (os : List Int) : Prop :=
  Dgs os ∧ os.length = xs.length + ys.length + 1 ∧ k ≤ ys.length + 1 ∧ val os + c * pw (i + k) = val (xs.take i) * val ys + xs.getD i 0 * pw i * val (ys.take k)

theorem MulIn.bound {xs ys : List Int} {i k : Nat} {c : Int} {os : List Int} (h : MulIn xs ys i k c os) (hx : Dgs xs) (hy : Dgs ys) (hi : i < xs.length) (hc : 0 < c) : k ≤ ys.length := by
  obtain ⟨h1, h2, h3, h4⟩ := h
  rcases Nat.lt_or_ge ys.length k with hk | hk
  · exfalso
    have hk' : k = ys.length + 1 := by omega
    subst hk'
    rw [List.take_of_length_le (show ys.length ≤ ys.length + 1 by omega)] at h4
    have h5 := val_nonneg os h1
    have h6 := val_take_succ xs i hi
    have h7 := val_lt _ (hx.take (i + 1))
    rw [List.length_take, show min (i + 1) xs.length = i + 1 by omega] at h7
    have h8 := val_lt ys hy
    have h9 := val_nonneg ys hy
    have h10 := val_nonneg _ (hx.take (i + 1))
    have e : val (xs.take i) * val ys + xs.getD i 0 * pw i * val ys = val (xs.take (i + 1)) * val ys := by rw [h6]; grind
    have h11 : val (xs.take (i + 1)) * val ys ≤ val (xs.take (i + 1)) * pw ys.length := Int.mul_le_mul_of_nonneg_left (by omega) h10
    have h12 : val (xs.take (i + 1)) * pw ys.length < pw (i + 1) * pw ys.length := Int.mul_lt_mul_of_pos_right h7 (pw_pos _)
    rw [← pw_add, show i + 1 + ys.length = i + (ys.length + 1) by omega] at h12
    have h13 : 1 * pw (i + (ys.length + 1)) ≤ c * pw (i + (ys.length + 1)) := Int.mul_le_mul_of_nonneg_right (by omega) (Int.le_of_lt (pw_pos _))
    omega
  · exact hk

theorem MulIn.step {xs ys : List Int} {i k : Nat} {c : Int} {os : List Int} (h : MulIn xs ys i k c os) (hi : i < xs.length) (hk : k ≤ ys.length) (n : Int) (hn : n = os.getD (i + k) 0 + c + (if k < ys.length then xs.getD i 0 * ys.getD k 0 else 0)) :
    MulIn xs ys i (k + 1) (n / 65536) (os.set (i + k) (n % 65536)) := by
  obtain ⟨h1, h2, h3, h4⟩ := h
  refine ⟨h1.set _ _ (by omega), by simp [h2], by omega, ?_⟩
  rw [val_set _ _ _ (by omega), ← Nat.add_assoc, pw_succ]
  have e : n = n % 65536 + 65536 * (n / 65536) := by omega
  have e2 : val (ys.take (k + 1)) = val (ys.take k) + pw k * (if k < ys.length then ys.getD k 0 else 0) := by
    split
    · rw [val_take_succ ys k (by assumption)]
    · rw [List.take_of_length_le (show ys.length ≤ k by omega), List.take_of_length_le (show ys.length ≤ k + 1 by omega)]; omega
  have e3 : (if k < ys.length then xs.getD i 0 * ys.getD k 0 else 0) = xs.getD i 0 * (if k < ys.length then ys.getD k 0 else 0) := by split <;> simp
  rw [e3] at hn
  rw [e2]
  generalize (if k < ys.length then ys.getD k 0 else 0) = y at *
  generalize os.getD (i + k) 0 = o at *
  generalize xs.getD i 0 = x at *
  generalize n % 65536 = r at *
  generalize n / 65536 = q at *
  rw [pw_add] at *
  generalize pw i = p at *
  generalize pw k = s at *
  generalize val (ys.take k) = z at *
  generalize val (xs.take i) * val ys = u at *
  grind
theorem MulIn.done {xs ys : List Int} {i k : Nat} {os : List Int} (h : MulIn xs ys i k 0 os) (hi : i < xs.length) (hk : ¬ k < ys.length) : MulIn xs ys (i + 1) 0 0 os := by
  obtain ⟨h1, h2, h3, h4⟩ := h
  refine ⟨h1, h2, by omega, ?_⟩
  rw [List.take_of_length_le (show ys.length ≤ k by omega)] at h4
  rw [val_take_succ xs i hi]
  simp [val] at *
  grind
theorem MulIn.start (xs ys : List Int) : MulIn xs ys 0 0 0 (List.replicate (xs.length + ys.length + 1) 0) :=
  ⟨Dgs.zeros _, by simp, by omega, by rw [val_zeros]; simp [val]⟩

/-- what the loops of Mul keep in memory -/
def MulMem (w : World) (os : List Int) (wr : World) : Prop := Row wr w.heap.size .u64 103 os ∧ Below w.heap.size w wr

def TwoPost' (n : Int) (L : Nat) (w : World) (e : Ending) (w' : World) : Prop :=
  ∃ v ds, e = .returned v ∧ Own w.heap.size w' v ds ∧ Hid (Norm ds ∧ val ds = n ∧ ds.length ≤ L) ∧ Below w.heap.size w w'

theorem Row.own {w : World} {g : Nat} {ds : List Int} {B : Nat} (h : Row w g .u64 103 ds) (hB : B ≤ g) (hm : ds.length ≤ maxLen) : Own B w (.slice (some ⟨g, 0, none⟩) ds.length ds.length) ds := by
  unfold Row at h
  unfold Own World.ownsRow
  exact ⟨by simp, Or.inr ⟨g, ds.length, _, rfl, hB, h, Nat.le_refl _, hm, by simp, by simp [List.take_of_length_le]⟩⟩

theorem MulMem.step {w wr : World} {os : List Int} (h : MulMem w os wr) (j : Nat) (x : Int) (n : Nat) : MulMem w (os.set j x) ((wr.drewN n).setCell ⟨w.heap.size, j, none⟩ (.int .u64 x)) :=
  ⟨(h.1.drewN n).set j x, (below_drewN h.2).setCell (Nat.le_refl _) _⟩
theorem MulMem.step0 {w wr : World} {os : List Int} (h : MulMem w os wr) (j : Nat) (x : Int) : MulMem w (os.set j x) (wr.setCell ⟨w.heap.size, j, none⟩ (.int .u64 x)) :=
  ⟨h.1.set j x, h.2.setCell (Nat.le_refl _) _⟩

theorem rmul (xs ys : List Int) (u v : Value) (w : World) (hx : Dgs xs) (hy : Dgs ys) (hl : xs.length ≤ 1000) (hl' : ys.length ≤ 1000) (hu : Dig w u xs) (hv : Dig w v ys) :
    Calls Tryz.prog 57 #[u, v] w (TwoPost' (val xs * val ys) (xs.length + ys.length + 1) w) := by
  obtain ⟨a, cap, rfl, -, -, h⟩ := hu
  obtain ⟨a', cap', rfl, -, -, h'⟩ := hv
  have hmk := run_make_row' (P := Tryz.prog) 116 103 (.int .u64 0) 8 Tryz.underlying116 Tryz.info103 rfl .i64 .i64 (xs.length + ys.length + 1) (by omega) (by omega)
  have en : ((xs.length + ys.length + 1 : Nat) : Int) = (xs.length : Int) + ys.length + 1 := by omega
  rw [en] at hmk
  clear en
  have HX : Hid (Dgs xs) := hx
  have HY : Hid (Dgs ys) := hy
  have H : Hid _ := h
  have H' : Hid _ := h'
  clear h h' hx hy
  go_enter Tryz.func57, Tryz.ntmps57
  go_wp2
  go_loopw [6] (fun i wr => ∃ (k : Nat) (os : List Int), k ≤ xs.length ∧ i = .int .i64 k ∧ Hid (MulIn xs ys k 0 0 os) ∧ Hid (MulMem w os wr))
    (fun i _ => xs.length - (intOf i).toNat)
  case atStart =>
    refine ⟨0, _, by omega, rfl, MulIn.start xs ys, ?_, Below.alloc (Below.refl _ _) (Nat.le_refl _) _⟩
    rw [made_zeros]
    exact Row.new w _ .u64 103
  case round =>
    obtain ⟨i, os, hi, rfl, hs, hm⟩ := hrel
    go_wp2_with fail
    · have hlt : i < xs.length := by assumption
      obtain ⟨wo, rfl⟩ : ∃ wo : World, wo = wr := ⟨_, rfl⟩
      go_loopw [7, 8] (fun ci ki wr => ∃ (k : Nat) (c : Int) (os : List Int), k ≤ ys.length + 1 ∧ ki = .int .i64 k ∧ ci = .int .u64 c ∧ (0 ≤ c ∧ c ≤ 65535) ∧ Hid (MulIn xs ys i k c os) ∧ Hid (MulMem w os wr))
        (fun _ ki _ => ys.length + 5 - (intOf ki).toNat)
      case atStart => exact ⟨0, 0, os, by omega, rfl, rfl, by omega, hs, hm⟩
      case round =>
        clear hs hm
        obtain ⟨k, c, os, hk, rfl, rfl, bc, hs, hm⟩ := hrel
        have hxd := HX.out.get i
        by_cases hky : k < ys.length
        · obtain ⟨g1, e1, hb1, hc1⟩ := H.out (by intro e; subst e; simp at hlt)
          obtain ⟨g2, e2, hb2, hc2⟩ := H'.out (by intro e; subst e; simp at hky)
          have hcx := (hm.out.2.cell (p := ⟨g1, i, none⟩) hb1).trans (hc1 i hlt)
          have hcy := (hm.out.2.cell (p := ⟨g2, k, none⟩) hb2).trans (hc2 k hky)
          have hco := hm.out.1.cell (i + k) (by rw [hs.out.2.1]; omega)
          have hfo := hm.out.1.frozen (i + k)
          have hyd := HY.out.get k
          have hod := hs.out.1.get (i + k)
          have hst := MulIn.step hs.out hlt (by omega) _ rfl
          rw [if_pos hky] at hst
          generalize hxi : xs.getD i 0 = x at hcx hxd hst
          generalize hyk : ys.getD k 0 = y at hcy hyd hst
          generalize hok : os.getD (i + k) 0 = o at hco hod hst
          have hprod : 0 ≤ x * y ∧ x * y ≤ 4294836225 := ⟨Int.mul_nonneg hxd.1 hyd.1, by
            have := Int.mul_le_mul (show x ≤ 65535 by omega) (show y ≤ 65535 by omega) hyd.1 (by omega)
            omega⟩
          have Hst : Hid _ := hst
          have hik : (i : Int) + k < xs.length + ys.length + 1 := by omega
          clear hst hxi hyk hok hc1 hc2
          have hky' : (k : Int) < ys.length := by omega
          have hlt' : (i : Int) < xs.length := by omega
          subst e1 e2
          go_wp2
          go_quiet (fail)
          go_wp2
          exact ⟨⟨k + 1, _, _, by omega, by go_num, rfl, by omega, Hst.out, MulMem.step hm.out _ _ _⟩, by simp [intOf]; omega⟩
        · have hky' : ¬ (k : Int) < ys.length := by omega
          have hkb : decide ((k : Int) < ys.length) = false := by simp; omega
          by_cases hc0 : c = 0
          · subst hc0
            have hdn := MulIn.done hs.out hlt hky
            have Hdn : Hid _ := hdn
            clear hdn hs
            go_wp2
            exact ⟨⟨i + 1, os, by omega, by go_num, Hdn.out, hm⟩, by simp [intOf]; omega⟩
          · have hc1 : 0 < c := by omega
            have hkl := MulIn.bound hs.out HX.out HY.out hlt hc1
            have hco := hm.out.1.cell (i + k) (by rw [hs.out.2.1]; omega)
            have hfo := hm.out.1.frozen (i + k)
            have hod := hs.out.1.get (i + k)
            have hst := MulIn.step hs.out hlt hkl _ rfl
            rw [if_neg hky] at hst
            generalize hok : os.getD (i + k) 0 = o at hco hod hst
            rw [Int.add_zero] at hst
            have Hst : Hid _ := hst
            have hik : (i : Int) + k < xs.length + ys.length + 1 := by omega
            clear hst hok
            go_wp2
            exact ⟨⟨k + 1, _, _, by omega, by go_num, rfl, by omega, Hst.out, MulMem.step0 hm.out _ _⟩, by simp [intOf]; omega⟩
    · obtain rfl : i = xs.length := by omega
      obtain ⟨hm1, hm2⟩ := hm.out
      have hlen := hs.out.2.1
      have hown := Row.own (B := w.heap.size) hm1 (Nat.le_refl _) (by unfold maxLen; omega)
      rw [hlen] at hown
      refine (rtrim w.heap.size os _ _ hown (by omega)).mono ?_
      rintro e w4 ⟨v4, rfl, ho4, rfl⟩
      have Ho4 : Hid _ := ho4
      have Hm2 : Hid _ := hm2
      clear ho4 hm1 hm2 hown
      go_wp2
      go_ret
      refine ⟨v4, _, rfl, Ho4.out, ⟨trimL_norm _ hs.out.1, ?_, ?_⟩, Hm2.out⟩
      · have h8 := hs.out.2.2.2
        rw [trimL_val]
        rw [List.take_length] at h8
        simp [val] at h8
        exact h8
      · have := trimL_le os; omega
end Go.Proofs.YtdfadcbchiogjaaGreat.N1
