/- The reference's numbers as digits to the base 65536: what a list of digits is worth; lists of digits in memory; the laws of append on them; the walk of Of. Conditions: the numbers lie in their ranges. -/
import Derived.Test.YtpdlbbglbbmjmaaFH
import Derived.WalkKit
import Derived.ProofKit
import Derived.Handy
import Derived.WalkLawsBesides
import Derived.WalkSpells
import Derived.BigQuiet
import Derived.Deep.QuietTactic
import Derived.Deep.Light
import Derived.Deep.OwnRows
import Derived.Laws.AppendOwnNone
import Derived.Deep.RegionWith
import Derived.Lib.BitFns
import Derived.Lib.Walk
import Derived.Deep.CutBlock
import Derived.Deep.DeepCutAuto
import Derived.Deep.LoopGhost
import Derived.Deep.RegionHeld
namespace Go.Proofs.Ytpdlbbglbbmjmaa.N1
open Go.RowKit
set_option linter.unusedVariables false
set_option linter.unusedSimpArgs false

/-- what the digits are worth, the lowest first -/
def val : List Int → Int
  | [] => 0
  | d :: ds => d + 65536 * val ds
/-- 65536 to the power n -/
def pw : Nat → Int
  | 0 => 1
  | n + 1 => 65536 * pw n
def Dgs (ds : List Int) : Prop := ∀ d ∈ ds, 0 ≤ d ∧ d < 65536
/-- digits, the last of which isn't 0 -/
def Norm (ds : List Int) : Prop := Dgs ds ∧ (ds = [] ∨ ds.getD (ds.length - 1) 0 ≠ 0)

theorem pw_pos (n : Nat) : 0 < pw n := by
  induction n with
  | zero => decide
  | succ n ih => unfold pw; omega
theorem pw_add (m n : Nat) : pw (m + n) = pw m * pw n := by
  induction m with
  | zero => simp [pw]
  | succ m ih => rw [Nat.succ_add, pw, pw, ih, Int.mul_assoc]
theorem val_append (xs ys : List Int) : val (xs ++ ys) = val xs + pw xs.length * val ys := by
  induction xs with
  | nil => simp [val, pw]
  | cons x xs ih => simp only [List.cons_append, val, List.length_cons, pw, ih]; grind
theorem val_nonneg (ds : List Int) (h : Dgs ds) : 0 ≤ val ds := by
  induction ds with
  | nil => simp [val]
  | cons d ds ih =>
    have h1 := h d (List.mem_cons_self ..)
    have h2 := ih fun x hx => h x (List.mem_cons_of_mem _ hx)
    unfold val
    omega
theorem val_lt (ds : List Int) (h : Dgs ds) : val ds < pw ds.length := by
  induction ds with
  | nil => simp [val, pw]
  | cons d ds ih =>
    have h1 := h d (List.mem_cons_self ..)
    have h2 := ih fun x hx => h x (List.mem_cons_of_mem _ hx)
    simp only [val, List.length_cons, pw]
    omega
theorem val_zeros (n : Nat) : val (List.replicate n 0) = 0 := by
  induction n with
  | zero => rfl
  | succ n ih => rw [List.replicate_succ, val, ih]; rfl
theorem Dgs.append {xs ys : List Int} (h : Dgs xs) (k : Dgs ys) : Dgs (xs ++ ys) := by
  intro d hd
  rcases List.mem_append.1 hd with h1 | h1
  · exact h d h1
  · exact k d h1
theorem Dgs.one {x : Int} (h : 0 ≤ x ∧ x < 65536) : Dgs [x] := by
  intro d hd
  rw [List.mem_singleton.1 hd]
  exact h
theorem Dgs.take {xs : List Int} (h : Dgs xs) (k : Nat) : Dgs (xs.take k) := fun d hd => h d (List.mem_of_mem_take hd)
theorem Dgs.drop {xs : List Int} (h : Dgs xs) (k : Nat) : Dgs (xs.drop k) := fun d hd => h d (List.mem_of_mem_drop hd)
theorem Dgs.get {xs : List Int} (h : Dgs xs) (k : Nat) : 0 ≤ xs.getD k 0 ∧ xs.getD k 0 < 65536 := by
  by_cases hk : k < xs.length
  · have := h xs[k] (List.getElem_mem hk)
    simpa [hk] using this
  · simp [hk]
theorem Dgs.nil : Dgs [] := fun d hd => by cases hd
theorem Dgs.zeros (n : Nat) : Dgs (List.replicate n 0) := fun d hd => by rw [List.eq_of_mem_replicate hd]; decide
theorem val_get (ds : List Int) (k : Nat) (h : k < ds.length) : val (ds.drop k) = ds.getD k 0 + 65536 * val (ds.drop (k + 1)) := by
  rw [drop_getD ds k h]
  rfl
/-- a number of n digits, the last not 0, is at least 65536 to the power n - 1 -/
theorem val_ge (ds : List Int) (h : Norm ds) (hne : ds ≠ []) : pw (ds.length - 1) ≤ val ds := by
  have hl : 0 < ds.length := List.length_pos_iff.2 hne
  have h1 := h.2.resolve_left hne
  have h2 := h.1.get (ds.length - 1)
  have e : ds = ds.take (ds.length - 1) ++ ds.drop (ds.length - 1) := (List.take_append_drop _ _).symm
  have hv := val_append (ds.take (ds.length - 1)) (ds.drop (ds.length - 1))
  rw [← e, val_get _ _ (by omega), List.drop_eq_nil_of_le (show ds.length ≤ ds.length - 1 + 1 by omega), show (ds.take (ds.length - 1)).length = ds.length - 1 by simp] at hv
  have h3 := val_nonneg _ (h.1.take (ds.length - 1))
  have h4 := pw_pos (ds.length - 1)
  simp only [val, Int.mul_zero, Int.add_zero] at hv
  have h5 : pw (ds.length - 1) * 1 ≤ pw (ds.length - 1) * ds.getD (ds.length - 1) 0 := Int.mul_le_mul_of_nonneg_left (by omega) (by omega)
  omega

/-- a slice value whose elements read as these digits -/
def Dig (w : World) (v : Value) (ds : List Int) : Prop :=
  ∃ a cap, v = .slice a ds.length cap ∧ ds.length ≤ cap ∧ cap ≤ maxLen ∧ (ds ≠ [] → ∃ g, a = some ⟨g, 0, none⟩ ∧ g < w.heap.size ∧ ∀ j, j < ds.length → w.cell? ⟨g, j, none⟩ = some (.int .u64 (ds.getD j 0)))
/-- .. in memory from block B on -/
def Own (B : Nat) (w : World) (v : Value) (ds : List Int) : Prop := w.ownsRow B 100 1 v ds.length (ds.map (Value.int .u64))

theorem add_lit (g j : Nat) : (⟨g, 0, none⟩ : Addr).add j = ⟨g, j, none⟩ := by unfold Addr.add; split <;> simp_all
theorem Own.dig {B : Nat} {w : World} {v : Value} {ds : List Int} (h : Own B w v ds) : Dig w v ds := by
  have h0 := h
  unfold Own World.ownsRow at h
  rcases h.2 with ⟨rfl, hn⟩ | ⟨g, cap, cur, rfl, hb, hg, hc, hm, _⟩
  · obtain rfl : ds = [] := List.eq_nil_of_length_eq_zero hn
    exact ⟨none, 0, rfl, Nat.le_refl _, by unfold maxLen; omega, fun h => absurd rfl h⟩
  · refine ⟨_, cap, rfl, hc, hm, fun _ => ⟨g, rfl, (Array.getElem?_eq_some_iff.1 hg).1, fun j hj => ?_⟩⟩
    have := World.ownsRow.cells h0 (g := g) rfl j (.int .u64 (ds.getD j 0)) (by simp [hj])
    rw [add_lit] at this
    exact this
theorem Own.mono {B B' : Nat} {w : World} {v : Value} {ds : List Int} (h : Own B w v ds) (hB : B' ≤ B) : Own B' w v ds := by
  unfold Own World.ownsRow at h ⊢
  refine ⟨h.1, ?_⟩
  rcases h.2 with h0 | ⟨g, cap, cur, h1, h2, h3⟩
  · exact .inl h0
  · exact .inr ⟨g, cap, cur, h1, by omega, h3⟩
theorem Own.below {B : Nat} {w w' : World} {v : Value} {ds : List Int} (h : Own B w v ds) (hb : Below w.heap.size w w') : Own B w' v ds := by
  unfold Own World.ownsRow at h ⊢
  refine ⟨h.1, ?_⟩
  rcases h.2 with h0 | ⟨g, cap, cur, h1, h2, h3, h4⟩
  · exact .inl h0
  · exact .inr ⟨g, cap, cur, h1, h2, (hb.block g (Array.getElem?_eq_some_iff.1 h3).1).trans h3, h4⟩
theorem Dig.below {w w' : World} {v : Value} {ds : List Int} (h : Dig w v ds) (hb : Below w.heap.size w w') : Dig w' v ds := by
  obtain ⟨a, cap, rfl, h1, h2, h3⟩ := h
  refine ⟨a, cap, rfl, h1, h2, fun hx => ?_⟩
  obtain ⟨g, rfl, hlt, hc⟩ := h3 hx
  exact ⟨g, rfl, Nat.lt_of_lt_of_le hlt hb.size, fun j hj => (hb.cell (by exact hlt)).trans (hc j hj)⟩
theorem Own.grown {B : Nat} {a w w' : World} {v v' : Value} {ds : List Int} (h : Own B w v ds) (ha : Below B a w) (hg : w.grownBy w' v.ownBlock) (hB : B ≤ w.heap.size) : Below B a w' :=
  ha.grown hg hB fun k hk => (World.ownsRow.lt h k hk).1
theorem Own.nil (B : Nat) (w : World) : Own B w (.slice none 0 0) [] := World.ownsRow_nil w B 100 1

theorem Try.info100 : (Try.prog.info? 100).map (fun i => (i.zero, i.size, i.bytes)) = some (some (.int .u64 0), 1, 8) := by kernel_rfl

/-- append(l, x): one digit more -/
theorem app_one (w : World) {ops : Array Oper} {rest : List Oper} {o : Oper} {a : Act} {Q : Exit → Act → World → Prop} (hgd : o.guard = none) (s x : Operand)
    (ho : o.op = .call { callee := .builtin .append, args := #[s, x], argTypes := #[112, 112] })
    (B g c : Nat) (v : Value) (ds : List Int) (d : Int) (hs : a.eval s = v) (hx : a.eval x = .slice (some ⟨g, 0, none⟩) 1 c) (hown : Own B w v ds) (hd : w.cell? ⟨g, 0, none⟩ = some (.int .u64 d)) (hl : ds.length ≤ 1000000) (hB : B ≤ w.heap.size)
    (h : ∀ v' w', Own B w' v' (ds ++ [d]) → w.grownBy w' v.ownBlock → wpList Try.prog ops Q rest (a.put o.dst v') w') : wpList Try.prog ops Q (o :: rest) a w := by
  obtain ⟨i0, hi, hz0, hz1, hz2⟩ := info_parts Try.info100
  refine wpList_append_own w hgd s x 112 ho B 100 i0 (.int .u64 0) 1 8 Try.underlying112 hi hz0 hz1 hz2 rfl (by decide) v ds.length (ds.map (Value.int .u64)) hs hown ⟨g, 0, none⟩ 1 c [.int .u64 d] hx rfl ?_ ?_ ?_ ?_ hB ?_
  · intro j u hj
    match j, hj with
    | 0, hj => simp at hj; subst hj; simpa [Addr.add] using hd
  · intro u hu; simp at hu; subst hu; rfl
  · unfold maxLen; omega
  · omega
  · intro v' w' h1 h2 _
    exact h v' w' (by unfold Own; simpa using h1) h2

/-- append(l, m...): all of m's digits more -/
theorem app_all (w : World) {ops : Array Oper} {rest : List Oper} {o : Oper} {a : Act} {Q : Exit → Act → World → Prop} (hgd : o.guard = none) (s x : Operand)
    (ho : o.op = .call { callee := .builtin .append, args := #[s, x], argTypes := #[112, 112] })
    (B : Nat) (v v2 : Value) (ds es : List Int) (hs : a.eval s = v) (hx : a.eval x = v2) (hown : Own B w v ds) (hd : Dig w v2 es) (hn : es = [] → v2 = .slice none 0 0) (hl : ds.length + es.length ≤ 1000000) (hB : B ≤ w.heap.size)
    (h : ∀ v' w', Own B w' v' (ds ++ es) → w.grownBy w' v.ownBlock → wpList Try.prog ops Q rest (a.put o.dst v') w') : wpList Try.prog ops Q (o :: rest) a w := by
  obtain ⟨i0, hi, hz0, hz1, hz2⟩ := info_parts Try.info100
  by_cases h0 : es = []
  · subst h0
    rw [hn rfl] at hx
    refine wpList_append_own_none hgd s x 112 ho B 100 i0 1 Try.underlying112 hi v ds.length (ds.map (Value.int .u64)) hs hown hx ?_
    exact h v w (by rw [List.append_nil]; exact hown) ⟨rfl, rfl, rfl, Nat.le_refl _, fun _ _ _ => rfl⟩
  · obtain ⟨a2, c, rfl, _, _, h3⟩ := hd
    obtain ⟨g, rfl, hlt, hc⟩ := h3 h0
    refine wpList_append_own w hgd s x 112 ho B 100 i0 (.int .u64 0) 1 8 Try.underlying112 hi hz0 hz1 hz2 rfl (by decide) v ds.length (ds.map (Value.int .u64)) hs hown ⟨g, 0, none⟩ es.length c (es.map (Value.int .u64)) hx (by simp) ?_ ?_ ?_ ?_ hB ?_
    · intro j u hj
      have hj' : j < es.length := by
        rcases Nat.lt_or_ge j es.length with h | h
        · exact h
        · rw [List.getElem?_eq_none (by simpa using h)] at hj; cases hj
      have := hc j hj'
      rw [add_lit, this]
      simp [hj'] at hj ⊢
      exact hj
    · intro u hu
      obtain ⟨d, _, rfl⟩ := List.mem_map.1 hu
      rfl
    · unfold maxLen; omega
    · omega
    · intro v' w' h1 h2 _
      exact h v' w' (by unfold Own; simpa using h1) h2

/-- what a call leaves that tells a number n: its digits, in new memory -/
def BigPost (n : Int) (L : Nat) (w : World) (e : Ending) (w' : World) : Prop :=
  ∃ v ds, e = .returned v ∧ Own w.heap.size w' v ds ∧ Hid (Norm ds ∧ val ds = n ∧ ds.length ≤ L) ∧ Below w.heap.size w w' ∧ Hid (ds = [] → v = .slice none 0 0)

/-- what the loop of Of keeps -/
def OfRel (n0 : Int) (w : World) (k : Nat) (n : Int) (v : Value) (ds : List Int) (wr : World) : Prop :=
  Own w.heap.size wr v ds ∧ Below w.heap.size w wr ∧ Dgs ds ∧ ds.length = k ∧ n0 = val ds + pw k * n ∧ (n = 0 → Norm ds) ∧ (ds = [] → v = .slice none 0 0)

theorem OfRel.step {n0 : Int} {w : World} {k : Nat} {n : Int} {v v' : Value} {ds : List Int} {wr w1 w2 : World} (h : OfRel n0 w k n v ds wr) (hn : 0 < n) (hb : Below wr.heap.size wr w1)
    (ho : Own w.heap.size w2 v' (ds ++ [n % 65536])) (hg : w1.grownBy w2 v.ownBlock) : OfRel n0 w (k + 1) (n / 65536) v' (ds ++ [n % 65536]) w2 := by
  obtain ⟨h1, h2, h3, h4, h5, h6, h7⟩ := h
  have hB : Below w.heap.size w w1 := h2.trans (hb.mono h2.size)
  refine ⟨ho, (h1.below hb).grown (v' := v') hB hg hB.size, h3.append (Dgs.one (by omega)), by simp [h4], ?_, ?_, by simp⟩
  · rw [val_append, h4, h5, show k + 1 = k + 1 from rfl, pw]
    simp only [val]
    have e : n = n % 65536 + 65536 * (n / 65536) := by omega
    have e2 : pw k * n = pw k * (n % 65536) + pw k * (65536 * (n / 65536)) := by rw [← Int.mul_add, ← e]
    rw [e2]
    grind
  · intro h0
    refine ⟨h3.append (Dgs.one (by omega)), Or.inr ?_⟩
    simp
    omega

theorem pw_big (k : Nat) (h : 4 ≤ k) : 18446744073709551616 ≤ pw k := by
  obtain ⟨m, rfl⟩ : ∃ m, k = 4 + m := ⟨k - 4, by omega⟩
  rw [pw_add]
  have := pw_pos m
  have e : pw 4 = 18446744073709551616 := by decide
  rw [e]
  omega

theorem OfRel.short {n0 : Int} {w : World} {k : Nat} {n : Int} {v : Value} {ds : List Int} {wr : World} (h : OfRel n0 w k n v ds wr) (hn : 0 < n) (h0 : n0 < 18446744073709551616) : k < 4 := by
  rcases Nat.lt_or_ge k 4 with hk | hk
  · exact hk
  · exfalso
    have h1 := pw_big k hk
    have h2 := val_nonneg ds h.2.2.1
    have h3 := h.2.2.2.2.1
    have h4 : pw k * 1 ≤ pw k * n := Int.mul_le_mul_of_nonneg_left (by omega) (by omega)
    omega

theorem rof (n0 : Int) (w : World) (hn : 0 ≤ n0 ∧ n0 < 18446744073709551616) : Calls Try.prog 72 #[.int .u64 n0] w (BigPost n0 4 w) := by
  go_enter Try.func72, Try.ntmps72
  go_wp2
  go_loopw [0, 3] (fun ni v wr => ∃ k : Nat, ∃ n : Int, ∃ ds : List Int, ni = .int .u64 n ∧ (0 ≤ n ∧ n < 18446744073709551616) ∧ k ≤ 4 ∧ OfRel n0 w k n v ds wr)
    (fun ni _ _ => (intOf ni).toNat)
  case atStart => exact ⟨0, n0, [], rfl, hn, by omega, Own.nil _ _, Below.refl _ _, Dgs.nil, rfl, by simp [val, pw], fun _ => ⟨Dgs.nil, Or.inl rfl⟩, fun _ => rfl⟩
  case round =>
    obtain ⟨k, n, ds, rfl, bn, hk, hs⟩ := hrel
    go_wp2_with (first
      | (at_builtin; refine app_one _ rfl _ _ rfl w.heap.size wr.heap.size 1 _ ds (n % 65536) rfl rfl ?c1 ?c2 ?c3 ?c4 ?_)
      | go_in)
    case c1 => exact Own.below hs.1 ((Below.refl _ _).alloc (Nat.le_refl _) _)
    case c2 => simp
    case c3 => have := hs.2.2.2.1; omega
    case c4 => have := hs.2.1.size; simp; omega
    · intro v' w1 ho hg
      have hlt : 0 < n := by assumption
      have h7 := OfRel.step hs hlt ((Below.refl _ _).alloc (Nat.le_refl _) _) ho hg
      have h8 := OfRel.short hs hlt hn.2
      clear ho hg hs
      have H7 : Hid _ := h7
      clear h7
      go_wp2
      exact ⟨⟨k + 1, n / 65536, _, rfl, by omega, by omega, H7.out⟩, by simp [intOf]; omega⟩
    · obtain rfl : n = 0 := by omega
      obtain ⟨h1, h2, h3, h4, h5, h6, h7⟩ := hs
      go_ret
      exact ⟨_, ds, rfl, h1, ⟨h6 rfl, by omega, by omega⟩, h2, h7⟩
end Go.Proofs.Ytpdlbbglbbmjmaa.N1
