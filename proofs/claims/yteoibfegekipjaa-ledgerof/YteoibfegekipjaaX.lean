/- layer 11: accounts and entries, as they are handed in -/
import Derived.Test.YteoibfegekipjaaN
import Derived.WalkKit
import Derived.ProofKit
import Derived.OpenShut
import Derived.ChangeOld
import Derived.Below
import Derived.SizedLaws
import Derived.ChangeMaps5
import Derived.Lib.SmallJoins
namespace Go.Proofs.Yteoibfegekipjaa
open Go.RowKit
set_option linter.unusedVariables false
set_option linter.unusedSimpArgs false
open Go.ChangeShapes Go.WideShapes
set_option maxRecDepth 100000
theorem Try.cells42 : Try.prog.cellsOf 42 = 3 := by kernel_rfl
theorem Try.cells64 : Try.prog.cellsOf 64 = 7 := by kernel_rfl
theorem Try.cells44 : Try.prog.cellsOf 44 = 4 := by kernel_rfl
theorem Try.cells3 : Try.prog.cellsOf 3 = 1 := by kernel_rfl
theorem Try.cells9 : Try.prog.cellsOf 9 = 1 := by kernel_rfl
theorem Try.cells30 : Try.prog.cellsOf 30 = 1 := by kernel_rfl
theorem Try.bytes64 : Try.prog.bytesOf 64 = 72 := by kernel_rfl
theorem Try.bytes44 : Try.prog.bytesOf 44 = 40 := by kernel_rfl
theorem Try.bytes30 : Try.prog.bytesOf 30 = 24 := by kernel_rfl
theorem weightsAll_mem {H : Type} {P : Program} {e : TypeId} {d : DataW H} {n : Nat} : ∀ {es : List (DataW H)}, d ∈ es → n ∈ d.weights P e → n ∈ DataW.weightsAll P e es
  | [], h, _ => by cases h
  | y :: es, h, hn => by
    simp only [DataW.weightsAll, List.mem_append]
    rcases List.mem_cons.1 h with rfl | h
    · exact .inl hn
    · exact .inr (weightsAll_mem h hn)
theorem wf_rng {n : Int} (h : (Lit.int .i64 n).wf = true) : Rng n := by
  simpa [Lit.wf, IntKind.min, IntKind.max, IntKind.signed, IntKind.bits, Rng] using h
theorem add_flat (a : Addr) (h : a.spot = none) (i : Nat) : a.add i = ⟨a.block, a.off + i, none⟩ := by
  obtain ⟨b, off, spot⟩ := a
  subst h
  cases i <;> simp [Addr.add]
/-- a handed entry's numbers and texts -/
structure Wx (x : Ex) : Prop where
  o : Rng x.o
  b : Rng x.b
  s : x.s.size ≤ 140737488355328
  o2 : Rng x.o2
  b2 : Rng x.b2
  s2 : x.s2.size ≤ 140737488355328
  n : Rng x.n
section
variable {H : Type} {enc : TypeId × Value → H} {w : World} {base : Nat} {spare : Nat → Bool} {held : Bool}
theorem open_acc {fuel : Nat} {cs : List Value} {x : DataW H × List MemPlace} (h : DataW.trod enc Try.prog w base spare held fuel 42 cs = some x) :
    ∃ (o b : Int) (s : ByteArray), cs = [.int .i64 o, .int .i64 b, .string s] ∧ Rng o ∧ Rng b ∧ s.size ∈ x.1.weights Try.prog 42 := by
  obtain ⟨xs, m, -, hxx, hl, hxl, hx⟩ := DataW.trod_struct (P := Try.prog) Try.underlying42 h
  rw [Try.cells42] at hl
  match cs, hl with
  | [c0, c1, c2], _ =>
    match xs, hxl with
    | [y0, y1, y2], _ =>
      have h0 : DataW.trod enc Try.prog w base spare held m 3 (([c0, c1, c2].drop 0).take (Try.prog.cellsOf 3)) = some y0 := hx 0 _ rfl
      rw [Try.cells3] at h0
      have h1 : DataW.trod enc Try.prog w base spare held m 3 (([c0, c1, c2].drop 1).take (Try.prog.cellsOf 3)) = some y1 := hx 1 _ rfl
      rw [Try.cells3] at h1
      have h2 : DataW.trod enc Try.prog w base spare held m 9 (([c0, c1, c2].drop 2).take (Try.prog.cellsOf 9)) = some y2 := hx 2 _ rfl
      rw [Try.cells9] at h2
      obtain ⟨o, e0, -, w0⟩ := DataW.trod_int Try.underlying3 h0
      obtain ⟨b, e1, -, w1⟩ := DataW.trod_int Try.underlying3 h1
      obtain ⟨s, e2, d2, -⟩ := DataW.trod_string Try.underlying9 h2
      simp at e0 e1 e2
      subst e0 e1 e2
      refine ⟨o, b, s, rfl, wf_rng w0, wf_rng w1, ?_⟩
      rw [hxx]
      simp only [DataW.weights, Try.underlying42]
      refine DataW.weights_mem_each (P := Try.prog) (ts := [3, 3, 9]) (ds := [y0.1, y1.1, y2.1]) (j := 2) rfl rfl _ ?_
      rw [d2]
      simp [DataW.weights]
theorem open_ent {fuel : Nat} {cs : List Value} {x : DataW H × List MemPlace} (h : DataW.trod enc Try.prog w base spare held fuel 64 cs = some x) :
    ∃ y : Ex, cs = y.cs.toList ∧ Rng y.o ∧ Rng y.b ∧ Rng y.o2 ∧ Rng y.b2 ∧ Rng y.n ∧ y.s.size ∈ x.1.weights Try.prog 64 ∧ y.s2.size ∈ x.1.weights Try.prog 64 := by
  obtain ⟨xs, m, -, hxx, hl, hxl, hx⟩ := DataW.trod_struct (P := Try.prog) Try.underlying64 h
  rw [Try.cells64] at hl
  match cs, hl with
  | [c0, c1, c2, c3, c4, c5, c6], _ =>
    match xs, hxl with
    | [y0, y1, y2], _ =>
      have h0 : DataW.trod enc Try.prog w base spare held m 42 (([c0, c1, c2, c3, c4, c5, c6].drop 0).take (Try.prog.cellsOf 42)) = some y0 := hx 0 _ rfl
      rw [Try.cells42] at h0
      have h1 : DataW.trod enc Try.prog w base spare held m 42 (([c0, c1, c2, c3, c4, c5, c6].drop 3).take (Try.prog.cellsOf 42)) = some y1 := hx 1 _ rfl
      rw [Try.cells42] at h1
      have h2 : DataW.trod enc Try.prog w base spare held m 3 (([c0, c1, c2, c3, c4, c5, c6].drop 6).take (Try.prog.cellsOf 3)) = some y2 := hx 2 _ rfl
      rw [Try.cells3] at h2
      obtain ⟨o, b, s, e0, w0, w1, z0⟩ := open_acc h0
      obtain ⟨o2, b2, s2, e1, w2, w3, z1⟩ := open_acc h1
      obtain ⟨n, e2, -, w4⟩ := DataW.trod_int Try.underlying3 h2
      simp at e0 e1 e2
      obtain ⟨rfl, rfl, rfl⟩ := e0
      obtain ⟨rfl, rfl, rfl⟩ := e1
      subst e2
      have hW : ∀ (j : Nat) (t : TypeId) (d : DataW H) (n : Nat), [(42 : TypeId), 42, 3][j]? = some t → [y0.1, y1.1, y2.1][j]? = some d → n ∈ d.weights Try.prog t → n ∈ x.1.weights Try.prog 64 := by
        intro j t d n ht hd hn
        rw [hxx]
        simp only [DataW.weights, Try.underlying64]
        exact DataW.weights_mem_each (P := Try.prog) (ts := [42, 42, 3]) (ds := [y0.1, y1.1, y2.1]) ht hd n hn
      exact ⟨⟨o, b, s, o2, b2, s2, n⟩, rfl, w0, w1, w2, w3, wf_rng w4, hW 0 42 y0.1 _ rfl rfl z0, hW 1 42 y1.1 _ rfl rfl z1⟩
/-- one for each, in a row -/
theorem collectG {α : Type} {Q : Nat → α → Prop} (n : Nat) : (∀ i, i < n → ∃ p, Q i p) → ∃ l : List α, l.length = n ∧ ∀ i (h : i < l.length), Q i l[i] := by
  induction n with
  | zero => intro _; exact ⟨[], rfl, fun i hi => absurd hi (Nat.not_lt_zero i)⟩
  | succ n ih =>
    intro h
    obtain ⟨l, hl, hq⟩ := ih (fun i hi => h i (by omega))
    obtain ⟨p, hp⟩ := h n (by omega)
    refine ⟨l ++ [p], by simp [hl], fun i hi => ?_⟩
    by_cases e : i < l.length
    · rw [List.getElem_append_left e]
      exact hq i e
    · have : i = n := by rw [List.length_append, List.length_singleton] at hi; omega
      subst this
      have e2 : (l ++ [p])[i] = p := by
        rw [List.getElem_append_right (by omega)]
        simp
      rw [e2]
      exact hp
/-- handed entries -/
structure Hd (w : World) (v : Value) (xs : List Ex) : Prop where
  es : Es w.heap.size w.heap.size w v xs
  wx : ∀ x ∈ xs, Wx x
  len : xs.length * 72 ≤ 140737488351232
theorem open_ents {fuel : Nat} {cs : List Value} {x : DataW H × List MemPlace} (h : DataW.trod enc Try.prog w base spare held fuel 30 cs = some x) (hz : ∀ n, n ∈ x.1.weights Try.prog 30 → n ≤ 140737488351232) :
    ∃ (xs : List Ex) (a : Option Addr) (cap : Nat), cs = [.slice a xs.length cap] ∧ xs.length ≤ cap ∧ Hd w (.slice a xs.length cap) xs := by
  rcases DataW.trod_slice Try.underlying30 h with ⟨rfl, -⟩ | ⟨ad, len, cap, elems, rest, n, -, rfl, hx, hb, hl, hm, hlen, hel, -, -⟩
  · exact ⟨[], none, 0, rfl, Nat.le_refl _, ⟨none, 0, rfl, fun h => absurd h (Nat.lt_irrefl 0)⟩, fun y hy => (List.not_mem_nil hy).elim, by simp⟩
  · have each : ∀ i, i < len → ∃ y : Ex, (∀ k, k < 7 → w.cell? ((ad.add (i * 7)).add k) = (y.cs)[k]?) ∧ Wx y := by
      intro i hi
      have h3 := hel i hi
      rw [List.getElem?_eq_getElem (by omega), Try.cells64, Option.bind_eq_some_iff] at h3
      obtain ⟨cs, hcs, hy⟩ := h3
      obtain ⟨-, hl2, hcell⟩ := World.cells?_some hcs
      obtain ⟨y, rfl, k1, k2, k3, k4, k5, z1, z2⟩ := open_ent hy
      have hW : ∀ n, n ∈ (elems[i].1).weights Try.prog 64 → n ≤ 140737488351232 := by
        intro n hn
        refine hz n ?_
        rw [hx]
        simp only [DataW.weights, Try.underlying30, List.mem_cons, List.mem_append]
        exact .inr (.inl (weightsAll_mem (List.mem_map.2 ⟨elems[i], List.getElem_mem _, rfl⟩) hn))
      refine ⟨y, fun k hk => ?_, k1, k2, by have := hW _ z1; omega, k3, k4, by have := hW _ z2; omega, k5⟩
      have := hcell k hk
      rw [this, ← Array.getElem?_toList]
    obtain ⟨xs, hxl, hq⟩ := collectG len each
    have hwt : xs.length * 72 ≤ 140737488351232 := by
      have := hz ((elems.length + rest.length) * 72) (by
        rw [hx]
        simp only [DataW.weights, Try.underlying30, Try.bytes64, List.length_map]
        exact List.mem_cons_self ..)
      rw [hxl]
      have e : len ≤ elems.length + rest.length := by omega
      have := Nat.mul_le_mul_right 72 e
      omega
    refine ⟨xs, some ad, cap, by rw [hxl], by omega, ⟨some ad, cap, rfl, fun h0 => ?_⟩, fun y hy => ?_, hwt⟩
    · obtain ⟨b, off, spot⟩ := ad
      have hs := (hq 0 (by omega)).1 0 (by omega)
      have hs' : w.cell? (((⟨b, off, spot⟩ : Addr).add (0 * 7)).add 0) = some (.int .i64 (xs[0]'h0).o) := hs
      have hspot : spot = none := by simpa [Addr.add] using World.cell?_spot hs'
      subst hspot
      have hblk := World.block_lt_of_cell? w _ hs'
      have hbl : b < w.heap.size := by simpa [Addr.add] using hblk
      refine ⟨b, off, rfl, hbl, by omega, fun j hj k hk => ?_⟩
      have := (hq j hj).1 k hk
      rw [add_flat ⟨b, off, none⟩ rfl, add_flat ⟨b, off + j * 7, none⟩ rfl] at this
      exact this
    · obtain ⟨i, hi, rfl⟩ := List.getElem_of_mem hy
      exact (hq i hi).2
end
end Go.Proofs.Yteoibfegekipjaa
