/- layer 12: balances, as they are handed in -/
import Derived.Test.YtbfnfebmmhhegaaX
import Derived.Test.YtbfnfebmmhhegaaQ
import Derived.WalkKit
import Derived.ProofKit
import Derived.OpenShut
import Derived.ChangeOld
import Derived.Below
import Derived.SizedLaws
import Derived.ChangeMaps5
import Derived.Lib.SmallJoins
namespace Go.Proofs.Ytbfnfebmmhhegaa
open Go.RowKit
set_option linter.unusedVariables false
set_option linter.unusedSimpArgs false
open Go.ChangeShapes Go.WideShapes
set_option maxRecDepth 100000
structure Wb (y : Num.Bal) : Prop where
  o : Rng y.1.1
  b : Rng y.1.2.1
  s : y.1.2.2.length ≤ 140737488351232
  n : Rng y.2
section
variable {H : Type} {enc : TypeId × Value → H} {w : World} {base : Nat} {spare : Nat → Bool} {held : Bool}
theorem open_acc {fuel : Nat} {cs : List Value} {x : DataW H × List MemPlace} (h : DataW.trod enc Try.prog w base spare held fuel 40 cs = some x) :
    ∃ (o b : Int) (s : ByteArray), cs = [.int .i64 o, .int .i64 b, .string s] ∧ Rng o ∧ Rng b ∧ s.size ∈ x.1.weights Try.prog 40 := by
  obtain ⟨xs, m, -, hxx, hl, hxl, hx⟩ := DataW.trod_struct (P := Try.prog) Try.underlying40 h
  rw [Try.cells40] at hl
  match cs, hl with
  | [c0, c1, c2], _ =>
    match xs, hxl with
    | [y0, y1, y2], _ =>
      have h0 : DataW.trod enc Try.prog w base spare held m 3 (([c0, c1, c2].drop 0).take (Try.prog.cellsOf 3)) = some y0 := hx 0 _ rfl
      rw [Try.cells3] at h0
      have h1 : DataW.trod enc Try.prog w base spare held m 3 (([c0, c1, c2].drop 1).take (Try.prog.cellsOf 3)) = some y1 := hx 1 _ rfl
      rw [Try.cells3] at h1
      have h2 : DataW.trod enc Try.prog w base spare held m 9 (([c0, c1, c2].drop 2).take (Try.prog.cellsOf 9)) = some y2 := hx 2 _ rfl
      rw [Try.cells9] at h2
      obtain ⟨o, e0, -, w0⟩ := DataW.trod_int Try.underlying3 h0
      obtain ⟨b, e1, -, w1⟩ := DataW.trod_int Try.underlying3 h1
      obtain ⟨s, e2, d2, -⟩ := DataW.trod_string Try.underlying9 h2
      simp at e0 e1 e2
      subst e0 e1 e2
      refine ⟨o, b, s, rfl, wf_rng w0, wf_rng w1, ?_⟩
      rw [hxx]
      simp only [DataW.weights, Try.underlying40]
      refine DataW.weights_mem_each (P := Try.prog) (ts := [3, 3, 9]) (ds := [y0.1, y1.1, y2.1]) (j := 2) rfl rfl _ ?_
      rw [d2]
      simp [DataW.weights]
theorem open_bal {fuel : Nat} {cs : List Value} {x : DataW H × List MemPlace} (h : DataW.trod enc Try.prog w base spare held fuel 68 cs = some x) :
    ∃ (o b : Int) (s : ByteArray) (n : Int), cs = [.int .i64 o, .int .i64 b, .string s, .int .i64 n] ∧ Rng o ∧ Rng b ∧ Rng n ∧ s.size ∈ x.1.weights Try.prog 68 := by
  obtain ⟨xs, m, -, hxx, hl, hxl, hx⟩ := DataW.trod_struct (P := Try.prog) Try.underlying68 h
  rw [Try.cells68] at hl
  match cs, hl with
  | [c0, c1, c2, c3], _ =>
    match xs, hxl with
    | [y0, y1], _ =>
      have h0 : DataW.trod enc Try.prog w base spare held m 40 (([c0, c1, c2, c3].drop 0).take (Try.prog.cellsOf 40)) = some y0 := hx 0 _ rfl
      rw [Try.cells40] at h0
      have h1 : DataW.trod enc Try.prog w base spare held m 3 (([c0, c1, c2, c3].drop 3).take (Try.prog.cellsOf 3)) = some y1 := hx 1 _ rfl
      rw [Try.cells3] at h1
      obtain ⟨o, b, s, e0, w0, w1, z0⟩ := open_acc h0
      obtain ⟨n, e1, -, w2⟩ := DataW.trod_int Try.underlying3 h1
      simp at e0 e1
      obtain ⟨rfl, rfl, rfl⟩ := e0
      subst e1
      refine ⟨o, b, s, n, rfl, w0, w1, wf_rng w2, ?_⟩
      rw [hxx]
      simp only [DataW.weights, Try.underlying68]
      exact DataW.weights_mem_each (P := Try.prog) (ts := [40, 3]) (ds := [y0.1, y1.1]) (j := 0) rfl rfl _ z0
theorem open_bals {fuel : Nat} {cs : List Value} {x : DataW H × List MemPlace} (h : DataW.trod enc Try.prog w base spare held fuel 25 cs = some x) (hz : ∀ n, n ∈ x.1.weights Try.prog 25 → n ≤ 140737488351232) :
    ∃ (xs : List Num.Bal) (a : Option Addr) (cap : Nat), cs = [.slice a xs.length cap] ∧ xs.length ≤ cap ∧ Bs w a xs ∧ (∀ y ∈ xs, Wb y) ∧ xs.length * 40 ≤ 140737488351232 := by
  rcases DataW.trod_slice Try.underlying25 h with ⟨rfl, -⟩ | ⟨ad, len, cap, elems, rest, n, -, rfl, hx, hb, hl, hm, hlen, hel, -, -⟩
  · exact ⟨[], none, 0, rfl, Nat.le_refl _, fun h => absurd h (Nat.lt_irrefl 0), fun y hy => (List.not_mem_nil hy).elim, by simp⟩
  · have each : ∀ i, i < len → ∃ y : Num.Bal, (∀ j, j < 4 → w.cell? ((ad.add (i * 4)).add j) = (bcs y)[j]?) ∧ Wb y := by
      intro i hi
      have h3 := hel i hi
      rw [List.getElem?_eq_getElem (by omega), Try.cells68, Option.bind_eq_some_iff] at h3
      obtain ⟨cs, hcs, hy⟩ := h3
      obtain ⟨-, hl2, hcell⟩ := World.cells?_some hcs
      have hW : ∀ n, n ∈ (elems[i].1).weights Try.prog 68 → n ≤ 140737488351232 := by
        intro n hn
        refine hz n ?_
        rw [hx]
        simp only [DataW.weights, Try.underlying25, List.mem_cons, List.mem_append]
        exact .inr (.inl (weightsAll_mem (List.mem_map.2 ⟨elems[i], List.getElem_mem _, rfl⟩) hn))
      obtain ⟨o, b, s, n, rfl, k1, k2, k3, z1⟩ := open_bal hy
      have hb : bcs ((o, b, s.toList), n) = [.int .i64 o, .int .i64 b, .string s, .int .i64 n] := by unfold bcs; simp only [toList_S]
      refine ⟨((o, b, s.toList), n), fun j hj => by rw [hb]; exact hcell j hj, k1, k2, ?_, k3⟩
      simp only [size_toList]
      exact hW _ z1
    obtain ⟨xs, hxl, hq⟩ := collectG len each
    have hwt : xs.length * 40 ≤ 140737488351232 := by
      have := hz ((elems.length + rest.length) * 40) (by
        rw [hx]
        simp only [DataW.weights, Try.underlying25, Try.bytes68, List.length_map]
        exact List.mem_cons_self ..)
      rw [hxl]
      have e : len ≤ elems.length + rest.length := by omega
      have := Nat.mul_le_mul_right 40 e
      omega
    refine ⟨xs, some ad, cap, by rw [hxl], by omega, fun h0 => ?_, fun y hy => ?_, hwt⟩
    · obtain ⟨b, off, spot⟩ := ad
      have hs := (hq 0 (by omega)).1 0 (by omega)
      have hs' : w.cell? (((⟨b, off, spot⟩ : Addr).add (0 * 4)).add 0) = some (.int .i64 (xs[0]'h0).1.1) := hs
      have hspot : spot = none := by simpa [Addr.add] using World.cell?_spot hs'
      subst hspot
      have hblk := World.block_lt_of_cell? w _ hs'
      have hbl : b < w.heap.size := by simpa [Addr.add] using hblk
      refine ⟨b, off, rfl, hbl, fun i hi j hj => ?_⟩
      have := (hq i hi).1 j hj
      rw [add_flat ⟨b, off, none⟩ rfl, add_flat ⟨b, off + i * 4, none⟩ rfl] at this
      exact this
    · obtain ⟨i, hi, rfl⟩ := List.getElem_of_mem hy
      exact (hq i hi).2
end
end Go.Proofs.Ytbfnfebmmhhegaa
