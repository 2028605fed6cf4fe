/- Rows of numbers in memory; walks of the comparison of two lists and of the giving out of what is left. Conditions: what the lists hold are ints. -/
import Derived.Test.YtjjcjgighdidcaaE
import Derived.WalkKit
import Derived.ProofKit
import Derived.Handy
import Derived.WalkLawsBesides
import Derived.WalkSpells
import Derived.BigQuiet
import Derived.Deep.QuietTactic
import Derived.Deep.Light
namespace Go.Proofs.Ytjjcjgighdidcaa
open Go.RowKit
set_option linter.unusedVariables false
set_option linter.unusedSimpArgs false
/-- block g holds these numbers, and nothing else -/
def Row (w : World) (g : Nat) (k : IntKind) (E : TypeId) (xs : List Int) : Prop := w.heap[g]? = some (.cells (xs.map (Value.int k)).toArray E (0, 0))

section
variable {w w' : World} {g : Nat} {k : IntKind} {E : TypeId} {xs : List Int}
theorem Row.lt (h : Row w g k E xs) : g < w.heap.size := (Array.getElem?_eq_some_iff.1 h).1
theorem Row.cell (h : Row w g k E xs) (j : Nat) (hj : j < xs.length) : w.cell? ⟨g, j, none⟩ = some (.int k (xs.getD j 0)) := by
  unfold Row at h
  simp [World.cell?, h, hj]
theorem Row.frozen (h : Row w g k E xs) (j : Nat) : w.frozen? ⟨g, j, none⟩ = false := by
  unfold Row at h
  simp [World.frozen?, h]
theorem Row.set (h : Row w g k E xs) (j : Nat) (u : Int) : Row (w.setCell ⟨g, j, none⟩ (.int k u)) g k E (xs.set j u) := by
  unfold Row at h ⊢
  simp [World.setCell, Array.getElem?_modify, h, List.map_set]
theorem Row.below {B : Nat} (h : Row w g k E xs) (hb : Below B w w') (hg : g < B) : Row w' g k E xs := (hb.block g hg).trans h
theorem Row.drewN (h : Row w g k E xs) (n : Nat) : Row (w.drewN n) g k E xs := h
theorem Row.other (h : Row w g k E xs) (b j : Nat) (u : Value) (hb : b ≠ g) : Row (w.setCell ⟨b, j, none⟩ u) g k E xs := by
  unfold Row at h ⊢
  rw [Below.heap_setCell _ _ _ _ (by exact fun e => hb e.symm)]
  exact h
theorem Row.alloc (h : Row w g k E xs) (o : Obj) : Row (w.alloc o) g k E xs := (Below.heap_alloc w o g h.lt).trans h
theorem Row.new (w : World) (xs : List Int) (k : IntKind) (E : TypeId) : Row (w.alloc (.cells (xs.map (Value.int k)).toArray E)) w.heap.size k E xs := by
  exact heap_alloc_new w _
theorem Row.seg (h : Row w g .i64 E xs) (cap : Nat) : Seg w (.slice (some ⟨g, 0, none⟩) xs.length cap) xs :=
  ⟨_, cap, rfl, fun _ => ⟨g, 0, rfl, h.lt, fun j hj => by rw [Nat.zero_add]; exact h.cell j hj⟩⟩
end

/-- nothing but block g has turned -/
structure Only (g : Nat) (w w' : World) : Prop where
  os : w'.os = w.os
  tape : w'.tape = w.tape
  output : w'.output = w.output
  size : w'.heap.size = w.heap.size
  block : ∀ k, k ≠ g → w'.heap[k]? = w.heap[k]?
theorem Only.refl (g : Nat) (w : World) : Only g w w := ⟨rfl, rfl, rfl, rfl, fun _ _ => rfl⟩
theorem Only.set {g : Nat} {a w : World} (h : Only g a w) (j : Nat) (u : Value) : Only g a (w.setCell ⟨g, j, none⟩ u) :=
  ⟨h.os, h.tape, h.output, by simp [World.setCell, h.size], fun k hk => (Below.heap_setCell _ _ _ _ hk).trans (h.block k hk)⟩
theorem Only.drewN {g : Nat} {a w : World} (h : Only g a w) (n : Nat) : Only g a (w.drewN n) := ⟨h.os, h.tape, h.output, h.size, h.block⟩
theorem Only.below {g B : Nat} {a w w' : World} (h : Only g w w') (hB : Below B a w) (hg : B ≤ g) : Below B a w' :=
  hB.trans ⟨h.os, h.tape, h.output, Nat.le_of_eq h.size.symm, fun k hk => h.block k (by omega)⟩
theorem Only.cell {g : Nat} {w w' : World} (h : Only g w w') {p : Addr} (hp : p.block ≠ g) : w'.cell? p = w.cell? p := World.cell?_of_block (w := w) (h.block p.block hp)

/-- what is left, given out, 1 to each with a weight -/
def giveS : List Int → List Int → Int → List Int
  | y :: ys, x :: xs, l => if l = 0 then y :: ys else if 0 < x then (y + 1) :: giveS ys xs (l - 1) else y :: giveS ys xs l
  | ys, _, _ => ys

theorem giveS_zero (ys xs : List Int) : giveS ys xs 0 = ys := by
  cases ys <;> cases xs <;> simp [giveS]

theorem take_getD (xs : List Int) (k : Nat) (h : k < xs.length) : xs.take (k + 1) = xs.take k ++ [xs.getD k 0] := by
  rw [List.take_add_one]
  simp [h]

def IntsPost (xs ys : List Int) (w : World) (e : Ending) (w' : World) : Prop := e = .returned (.bool (decide (xs = ys))) ∧ ∃ n, w' = w.drewN n

theorem rints_row (xs ys : List Int) (b off cap b' off' cap' : Nat) (w : World) (hl : xs.length ≤ 9223372036854775807) (he : xs.length = ys.length)
    (hc : ∀ j, j < xs.length → w.cell? ⟨b, off + j, none⟩ = some (.int .i64 (xs.getD j 0))) (hc' : ∀ j, j < ys.length → w.cell? ⟨b', off' + j, none⟩ = some (.int .i64 (ys.getD j 0))) :
    Calls Try.prog 34 #[.slice (some ⟨b, off, none⟩) xs.length cap, .slice (some ⟨b', off', none⟩) xs.length cap'] w (IntsPost xs ys w) := by
  have Hc : Hid _ := hc
  have Hc' : Hid _ := hc'
  have He : Hid _ := he
  clear hc hc' he
  go_enter Try.func34, Try.ntmps34
  go_wp2
  go_loopw [5] (fun i wr => ∃ k n : Nat, k ≤ xs.length ∧ i = .int .i64 k ∧ wr = w.drewN n ∧ Hid (xs.take k = ys.take k))
    (fun i _ => xs.length - (intOf i).toNat)
  case atStart => exact ⟨0, 0, by omega, rfl, rfl, rfl⟩
  case round =>
    obtain ⟨k, n, hk, rfl, rfl, hs⟩ := hrel
    have hcell : k < xs.length → w.cell? ⟨b, off + k, none⟩ = some (.int .i64 (xs.getD k 0)) := fun _ => Hc.out k (by omega)
    have hcell' : k < xs.length → w.cell? ⟨b', off' + k, none⟩ = some (.int .i64 (ys.getD k 0)) := fun _ => Hc'.out k (by rw [← He.out]; omega)
    generalize hxk : xs.getD k 0 = x at hcell
    generalize hyk : ys.getD k 0 = y at hcell'
    have Hx : Hid _ := hxk
    have Hy : Hid _ := hyk
    clear hxk hyk
    go_wp2
    · have hlt : k < xs.length := by assumption
      have hlt' : (k : Int) < (xs.length : Int) := by omega
      have c1 := hcell hlt
      have c2 := hcell' hlt
      clear hcell hcell'
      by_cases hxy : x = y
      · have hb : (x != y) = false := by simp [hxy]
        have HXY : Hid (x = y) := hxy
        clear hxy
        go_quiet (fail)
        go_wp2
        refine ⟨⟨k + 1, n + nq, hlt, by go_num, rfl, ?_⟩, by simp [intOf]; omega⟩
        show xs.take (k + 1) = ys.take (k + 1)
        rw [take_getD xs k hlt, take_getD ys k (by rw [← He.out]; exact hlt), hs.out, Hx.out, Hy.out, HXY.out]
      · have hb : (x != y) = true := by simp [hxy]
        go_quiet (fail)
        go_wp2
        go_ret
        refine ⟨ret_bool (decide_eq_false ?_).symm, n + nq, by rw [World.drewN_drewN]⟩
        intro h
        exact hxy (by rw [← Hx.out, ← Hy.out, h])
    · obtain rfl : k = xs.length := by omega
      go_ret
      refine ⟨ret_bool (decide_eq_true ?_).symm, _, rfl⟩
      have h := hs.out
      rw [List.take_length, He.out, List.take_length] at h
      exact h

theorem rints (xs ys : List Int) (u v : Value) (w : World) (hl : xs.length ≤ 9223372036854775807) (hu : Seg w u xs) (hv : Seg w v ys) : Calls Try.prog 34 #[u, v] w (IntsPost xs ys w) := by
  obtain ⟨a, cap, rfl, h⟩ := hu
  obtain ⟨a', cap', rfl, h'⟩ := hv
  by_cases he : xs.length = ys.length
  · by_cases h0 : xs = []
    · subst h0
      obtain rfl : ys = [] := List.eq_nil_of_length_eq_zero he.symm
      clear h h'
      go_enter Try.func34, Try.ntmps34
      go_wp2
      refine wp_loop_rounds 1 ?_
      rw [rounds_succ]
      go_wp2
      go_ret
      exact ⟨ret_bool rfl, 0, rfl⟩
    · obtain ⟨b, off, rfl, hb, hc⟩ := h h0
      obtain ⟨b', off', rfl, hb', hc'⟩ := h' (by intro e; subst e; exact h0 (List.eq_nil_of_length_eq_zero he))
      rw [← he]
      exact rints_row xs ys b off cap b' off' cap' w hl he hc hc'
  · have hn : ((xs.length : Int) != (ys.length : Int)) = true := by simp; omega
    clear h h'
    go_enter Try.func34, Try.ntmps34
    go_wp2
    go_ret
    refine ⟨ret_bool (decide_eq_false ?_).symm, 0, rfl⟩
    intro e
    exact he (by rw [e])

/-- what the loop of giveOut keeps -/
def GiveRel (ys xs : List Int) (l : Int) (g : Nat) (w : World) (k : Nat) (t : Int) (zs : List Int) (wr : World) : Prop :=
  zs.length = xs.length ∧ Row wr g .i64 3 zs ∧ Only g w wr ∧ giveS ys xs l = zs.take k ++ giveS (zs.drop k) (xs.drop k) t ∧ (∀ j, 0 ≤ zs.getD j 0) ∧ (∀ j, k ≤ j → zs.getD j 0 + t ≤ 9223372036854775807)

theorem GiveRel.start {ys xs : List Int} {l : Int} {g : Nat} {w : World} (he : ys.length = xs.length) (hy : ∀ j, 0 ≤ ys.getD j 0 ∧ ys.getD j 0 + l ≤ 9223372036854775807) (hrow : Row w g .i64 3 ys) : GiveRel ys xs l g w 0 l ys w :=
  ⟨he, hrow, Only.refl _ _, by simp, fun j => (hy j).1, fun j _ => (hy j).2⟩
theorem GiveRel.stop {ys xs : List Int} {l : Int} {g : Nat} {w : World} {k : Nat} {zs : List Int} {wr : World} (h : GiveRel ys xs l g w k 0 zs wr) : Row wr g .i64 3 (giveS ys xs l) ∧ Only g w wr := by
  obtain ⟨_, h2, h3, h4, _⟩ := h
  rw [giveS_zero, List.take_append_drop] at h4
  rw [h4]
  exact ⟨h2, h3⟩
theorem GiveRel.done {ys xs : List Int} {l : Int} {g : Nat} {w : World} {t : Int} {zs : List Int} {wr : World} (h : GiveRel ys xs l g w xs.length t zs wr) : Row wr g .i64 3 (giveS ys xs l) ∧ Only g w wr := by
  obtain ⟨h1, h2, h3, h4, _⟩ := h
  rw [← h1, List.take_length, List.drop_length] at h4
  simp [giveS] at h4
  rw [h4]
  exact ⟨h2, h3⟩
theorem GiveRel.no {ys xs : List Int} {l : Int} {g : Nat} {w : World} {k : Nat} {t : Int} {zs : List Int} {wr : World} (h : GiveRel ys xs l g w k t zs wr) (hk : k < xs.length) (ht : t ≠ 0) (hx : ¬ 0 < xs.getD k 0) : GiveRel ys xs l g w (k + 1) t zs wr := by
  obtain ⟨h1, h2, h3, h4, h5, h6⟩ := h
  refine ⟨h1, h2, h3, ?_, h5, fun j hj => h6 j (by omega)⟩
  rw [h4, drop_getD zs k (by omega), drop_getD xs k hk, giveS, if_neg ht, if_neg hx, take_getD zs k (by omega), List.append_assoc]
  rfl
theorem GiveRel.yes {ys xs : List Int} {l : Int} {g : Nat} {w : World} {k : Nat} {t : Int} {zs : List Int} {wr : World} (h : GiveRel ys xs l g w k t zs wr) (hk : k < xs.length) (ht : 0 < t) (hx : 0 < xs.getD k 0) :
    GiveRel ys xs l g w (k + 1) (t - 1) (zs.set k (zs.getD k 0 + 1)) (wr.setCell ⟨g, k, none⟩ (.int .i64 (zs.getD k 0 + 1))) := by
  obtain ⟨h1, h2, h3, h4, h5, h6⟩ := h
  refine ⟨by simpa using h1, h2.set _ _, h3.set _ _, ?_, ?_, ?_⟩
  · rw [h4, drop_getD zs k (by omega), drop_getD xs k hk, giveS, if_neg (by omega), if_pos hx, take_getD (zs.set k _) k (by simp; omega), List.append_assoc]
    have e1 : (zs.set k (zs.getD k 0 + 1)).getD k 0 = zs.getD k 0 + 1 := by simp [List.getD_eq_getElem?_getD, List.getElem?_set, show k < zs.length by omega]
    rw [e1, List.take_set_of_le (Nat.le_refl k), List.drop_set_of_lt (Nat.lt_succ_self k)]
    rfl
  · intro j
    have := h5 j
    have := h5 k
    by_cases e : k = j
    · subst e; simp [List.getD_eq_getElem?_getD, List.getElem?_set, show k < zs.length by omega] at *; omega
    · simp [List.getD_eq_getElem?_getD, List.getElem?_set, e] at *; omega
  · intro j hj
    have := h6 j (by omega)
    simp [List.getD_eq_getElem?_getD, List.getElem?_set, show k ≠ j by omega] at *
    omega

def GivePost (ys xs : List Int) (l : Int) (g : Nat) (w : World) (e : Ending) (w' : World) : Prop := e = .returned (.tuple #[]) ∧ Row w' g .i64 3 (giveS ys xs l) ∧ Only g w w'

theorem xgive_row (ys xs : List Int) (l : Int) (g cap b off cap' : Nat) (w : World) (hl : xs.length ≤ 9223372036854775807) (he : ys.length = xs.length) (h0 : 0 ≤ l ∧ l ≤ 9223372036854775807) (hy : ∀ j, 0 ≤ ys.getD j 0 ∧ ys.getD j 0 + l ≤ 9223372036854775807)
    (hrow : Row w g .i64 3 ys) (hne : b ≠ g) (hc : ∀ j, j < xs.length → w.cell? ⟨b, off + j, none⟩ = some (.int .i64 (xs.getD j 0))) :
    Calls Try.prog 42 #[.slice (some ⟨g, 0, none⟩) xs.length cap, .slice (some ⟨b, off, none⟩) xs.length cap', .int .i64 l] w (GivePost ys xs l g w) := by
  have Hc : Hid _ := hc
  have He : Hid _ := he
  have Hy : Hid _ := hy
  have Hrow : Hid _ := hrow
  clear hc he hy hrow
  go_enter Try.func42, Try.ntmps42
  go_wp2
  go_loopw [2, 10] (fun li i wr => ∃ k : Nat, ∃ t : Int, ∃ zs : List Int, k ≤ xs.length ∧ i = .int .i64 k ∧ li = .int .i64 t ∧ (0 ≤ t ∧ t ≤ 9223372036854775807) ∧ GiveRel ys xs l g w k t zs wr)
    (fun _ i _ => xs.length - (intOf i).toNat)
  case atStart => exact ⟨0, l, ys, by omega, rfl, rfl, h0, GiveRel.start He.out Hy.out Hrow.out⟩
  case round =>
    obtain ⟨k, t, zs, hk, rfl, rfl, ht, hs⟩ := hrel
    have hcell : k < xs.length → wr.cell? ⟨b, off + k, none⟩ = some (.int .i64 (xs.getD k 0)) := fun _ => (hs.2.2.1.cell hne).trans (Hc.out k (by omega))
    have hcell' : k < xs.length → wr.cell? ⟨g, k, none⟩ = some (.int .i64 (zs.getD k 0)) := fun hk => hs.2.1.cell k (by rw [hs.1]; exact hk)
    have hfr : wr.frozen? ⟨g, k, none⟩ = false := hs.2.1.frozen k
    have hz : k < xs.length → 0 ≤ zs.getD k 0 ∧ zs.getD k 0 + t ≤ 9223372036854775807 := fun _ => ⟨hs.2.2.2.2.1 k, hs.2.2.2.2.2 k (Nat.le_refl k)⟩
    generalize hxk : xs.getD k 0 = x at hcell
    generalize hzk : zs.getD k 0 = z at hcell' hz
    have Hx : Hid _ := hxk
    have Hz : Hid _ := hzk
    clear hxk hzk
    go_wp2
    · have ht0 : t = 0 := by first | assumption | simpa using ‹(t == 0) = true›
      subst ht0
      go_returns
      exact ⟨rfl, hs.stop⟩
    · have hlt : k < xs.length := by assumption
      have ht0 : ¬ t = 0 := by first | assumption | simpa using ‹(t == 0) = false›
      have hx0 : 0 < x := by assumption
      have hz1 := hz hlt
      have hw : wrap64 (z + 1) = z + 1 := by unfold wrap64; omega
      rw [hw]
      have h7 := hs.yes hlt (by omega) (by rw [Hx.out]; exact hx0)
      rw [Hz.out] at h7
      exact ⟨⟨k + 1, t - 1, _, hlt, by go_num, rfl, by omega, h7⟩, by simp [intOf]; omega⟩
    · have hlt : k < xs.length := by assumption
      have ht0 : ¬ t = 0 := by first | assumption | simpa using ‹(t == 0) = false›
      have hx0 : x ≤ 0 := by assumption
      exact ⟨⟨k + 1, t, _, hlt, by go_num, rfl, by omega, hs.no hlt ht0 (by rw [Hx.out]; omega)⟩, by simp [intOf]; omega⟩
    · obtain rfl : k = xs.length := by omega
      go_returns
      exact ⟨rfl, hs.done⟩
end Go.Proofs.Ytjjcjgighdidcaa
