/- layer 17: lots, as they are handed in -/
import Derived.Test.YtheikjjehidagaaK4
import Derived.WalkKit
import Derived.ProofKit
import Derived.OpenShut
import Derived.ChangeOld
import Derived.Below
import Derived.SizedLaws
import Derived.ChangeMaps5
import Derived.Lib.SmallJoins
namespace Go.Proofs.Ytheikjjehidagaa
open Go.RowKit
set_option linter.unusedVariables false
set_option linter.unusedSimpArgs false
open Go.ChangeShapes Go.WideShapes
set_option maxRecDepth 100000
theorem Try.cells3 : Try.prog.cellsOf 3 = 1 := by kernel_rfl
theorem Try.cells9 : Try.prog.cellsOf 9 = 1 := by kernel_rfl
theorem Try.cells43 : Try.prog.cellsOf 43 = 2 := by kernel_rfl
theorem Try.bytes43 : Try.prog.bytesOf 43 = 24 := by kernel_rfl
theorem weightsAll_mem {H : Type} {P : Program} {e : TypeId} {d : DataW H} {n : Nat} : ∀ {es : List (DataW H)}, d ∈ es → n ∈ d.weights P e → n ∈ DataW.weightsAll P e es
  | [], h, _ => by cases h
  | y :: es, h, hn => by
    simp only [DataW.weightsAll, List.mem_append]
    rcases List.mem_cons.1 h with rfl | h
    · exact .inl hn
    · exact .inr (weightsAll_mem h hn)
theorem add_flat (a : Addr) (h : a.spot = none) (i : Nat) : a.add i = ⟨a.block, a.off + i, none⟩ := by
  obtain ⟨b, off, spot⟩ := a
  subst h
  cases i <;> simp [Addr.add]
/-- one for each, in a row -/
theorem collectG {α : Type} {Q : Nat → α → Prop} (n : Nat) : (∀ i, i < n → ∃ p, Q i p) → ∃ l : List α, l.length = n ∧ ∀ i (h : i < l.length), Q i l[i] := by
  induction n with
  | zero => intro _; exact ⟨[], rfl, fun i hi => absurd hi (Nat.not_lt_zero i)⟩
  | succ n ih =>
    intro h
    obtain ⟨l, hl, hq⟩ := ih (fun i hi => h i (by omega))
    obtain ⟨p, hp⟩ := h n (by omega)
    refine ⟨l ++ [p], by simp [hl], fun i hi => ?_⟩
    by_cases e : i < l.length
    · rw [List.getElem_append_left e]
      exact hq i e
    · have : i = n := by rw [List.length_append, List.length_singleton] at hi; omega
      subst this
      have e2 : (l ++ [p])[i] = p := by
        rw [List.getElem_append_right (by omega)]
        simp
      rw [e2]
      exact hp
def Rng (n : Int) : Prop := -9223372036854775808 ≤ n ∧ n ≤ 9223372036854775807
theorem wf_rng {n : Int} (h : (Lit.int .i64 n).wf = true) : Rng n := by
  simpa [Lit.wf, IntKind.min, IntKind.max, IntKind.signed, IntKind.bits, Rng] using h
structure Wl (x : Lt) : Prop where
  s : x.i.size ≤ 140737488351232
  q : Rng x.n
section
variable {H : Type} {enc : TypeId × Value → H} {w : World} {base : Nat} {spare : Nat → Bool} {held : Bool}
theorem open_lot {fuel : Nat} {cs : List Value} {x : DataW H × List MemPlace} (h : DataW.trod enc Try.prog w base spare held fuel 43 cs = some x) :
    ∃ y : Lt, cs = lcs y ∧ Rng y.n ∧ y.i.size ∈ x.1.weights Try.prog 43 := by
  obtain ⟨xs, m, -, hxx, hl, hxl, hx⟩ := DataW.trod_struct (P := Try.prog) Try.underlying43 h
  rw [Try.cells43] at hl
  match cs, hl with
  | [c0, c1], _ =>
    match xs, hxl with
    | [y0, y1], _ =>
      have h0 : DataW.trod enc Try.prog w base spare held m 9 (([c0, c1].drop 0).take (Try.prog.cellsOf 9)) = some y0 := hx 0 _ rfl
      rw [Try.cells9] at h0
      have h1 : DataW.trod enc Try.prog w base spare held m 3 (([c0, c1].drop 1).take (Try.prog.cellsOf 3)) = some y1 := hx 1 _ rfl
      rw [Try.cells3] at h1
      have hW : ∀ (j : Nat) (t : TypeId) (d : DataW H) (n : Nat), [(9 : TypeId), 3][j]? = some t → [y0.1, y1.1][j]? = some d → n ∈ d.weights Try.prog t → n ∈ x.1.weights Try.prog 43 := by
        intro j t d n ht hd hn
        rw [hxx]
        simp only [DataW.weights, Try.underlying43]
        exact DataW.weights_mem_each (P := Try.prog) (ts := [9, 3]) (ds := [y0.1, y1.1]) ht hd n hn
      obtain ⟨s0, e0, d0, -⟩ := DataW.trod_string Try.underlying9 h0
      obtain ⟨a1, e1, -, w1⟩ := DataW.trod_int Try.underlying3 h1
      simp at e0 e1
      subst e0 e1
      exact ⟨⟨s0, a1⟩, rfl, wf_rng w1, hW 0 9 y0.1 _ rfl rfl (by rw [d0]; simp [DataW.weights])⟩
theorem open_lots {fuel : Nat} {cs : List Value} {x : DataW H × List MemPlace} (h : DataW.trod enc Try.prog w base spare held fuel 22 cs = some x) (hz : ∀ n, n ∈ x.1.weights Try.prog 22 → n ≤ 140737488351232) :
    ∃ (xs : List Lt) (a : Option Addr) (cap : Nat), cs = [.slice a xs.length cap] ∧ xs.length ≤ cap ∧ Rw 2 lcs w a xs ∧ (∀ y ∈ xs, Wl y) ∧ xs.length * 24 ≤ 140737488351232 := by
  rcases DataW.trod_slice Try.underlying22 h with ⟨rfl, -⟩ | ⟨ad, len, cap, elems, rest, n, -, rfl, hx, hb, hl, hm, hlen, hel, -, -⟩
  · exact ⟨[], none, 0, rfl, Nat.le_refl _, Rw.nil, fun y hy => (List.not_mem_nil hy).elim, by simp⟩
  · have each : ∀ i, i < len → ∃ y : Lt, (∀ j, j < 2 → w.cell? ((ad.add (i * 2)).add j) = (lcs y)[j]?) ∧ Wl y := by
      intro i hi
      have h3 := hel i hi
      rw [List.getElem?_eq_getElem (by omega), Try.cells43, Option.bind_eq_some_iff] at h3
      obtain ⟨cs, hcs, hy⟩ := h3
      obtain ⟨-, hl2, hcell⟩ := World.cells?_some hcs
      have hW : ∀ n, n ∈ (elems[i].1).weights Try.prog 43 → n ≤ 140737488351232 := by
        intro n hn
        refine hz n ?_
        rw [hx]
        simp only [DataW.weights, Try.underlying22, List.mem_cons, List.mem_append]
        exact .inr (.inl (weightsAll_mem (List.mem_map.2 ⟨elems[i], List.getElem_mem _, rfl⟩) hn))
      obtain ⟨y, rfl, k1, z1⟩ := open_lot hy
      exact ⟨y, fun j hj => hcell j hj, hW _ z1, k1⟩
    obtain ⟨xs, hxl, hq⟩ := collectG len each
    have hwt : xs.length * 24 ≤ 140737488351232 := by
      have := hz ((elems.length + rest.length) * 24) (by
        rw [hx]
        simp only [DataW.weights, Try.underlying22, Try.bytes43, List.length_map]
        exact List.mem_cons_self ..)
      rw [hxl]
      have e : len ≤ elems.length + rest.length := by omega
      have := Nat.mul_le_mul_right 24 e
      omega
    refine ⟨xs, some ad, cap, by rw [hxl], by omega, fun h0 => ?_, fun y hy => ?_, hwt⟩
    · obtain ⟨b, off, spot⟩ := ad
      have hs := (hq 0 (by omega)).1 0 (by omega)
      have hs' : w.cell? (((⟨b, off, spot⟩ : Addr).add (0 * 2)).add 0) = some ((Value.string (xs[0]'h0).i)) := hs
      have hspot : spot = none := by simpa [Addr.add] using World.cell?_spot hs'
      subst hspot
      have hblk := World.block_lt_of_cell? w _ hs'
      have hbl : b < w.heap.size := by simpa [Addr.add] using hblk
      refine ⟨b, off, rfl, hbl, fun i hi j hj => ?_⟩
      have := (hq i hi).1 j hj
      rw [add_flat ⟨b, off, none⟩ rfl, add_flat ⟨b, off + i * 2, none⟩ rfl] at this
      exact this
    · obtain ⟨i, hi, rfl⟩ := List.getElem_of_mem hy
      exact (hq i hi).2
end
end Go.Proofs.Ytheikjjehidagaa
