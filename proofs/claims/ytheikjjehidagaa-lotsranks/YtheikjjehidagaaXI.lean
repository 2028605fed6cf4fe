/- layer 17: items, as they are handed in -/
import Derived.Test.YtheikjjehidagaaX
import Derived.Test.YtheikjjehidagaaRI
import Derived.Test.YtheikjjehidagaaECA
import Derived.WalkKit
import Derived.ProofKit
import Derived.OpenShut
import Derived.ChangeOld
import Derived.Below
import Derived.SizedLaws
import Derived.ChangeMaps5
import Derived.Lib.SmallJoins
namespace Go.Proofs.Ytheikjjehidagaa
open Go.RowKit
set_option linter.unusedVariables false
set_option linter.unusedSimpArgs false
open Go.ChangeShapes Go.WideShapes
open H5 (It its its_len its_one acs)
open H5.Num (As)
set_option maxRecDepth 100000
theorem Try.cells45 : Try.prog.cellsOf 45 = 5 := by kernel_rfl
theorem Try.cells87 : Try.prog.cellsOf 87 = 9 := by kernel_rfl
theorem Try.bytes87 : Try.prog.bytesOf 87 = 96 := by kernel_rfl
def Wa (y : As) : Prop := y.i.size ≤ 140737488351232 ∧ y.c.size ≤ 140737488351232
def WI (x : It) : Prop := smI x ∧ Rng x.p ∧ Rng x.c
section
variable {H : Type} {enc : TypeId × Value → H} {w : World} {base : Nat} {spare : Nat → Bool} {held : Bool}
theorem open_asset {fuel : Nat} {cs : List Value} {x : DataW H × List MemPlace} (h : DataW.trod enc Try.prog w base spare held fuel 45 cs = some x) (hz : ∀ n, n ∈ x.1.weights Try.prog 45 → n ≤ 140737488351232) :
    ∃ y : As, cs = acs y ∧ Wa y := by
  obtain ⟨xs, m, -, hxx, hl, hxl, hx⟩ := DataW.trod_struct (P := Try.prog) Try.underlying45 h
  rw [Try.cells45] at hl
  match cs, hl with
  | [c0, c1, c2, c3, c4], _ =>
    match xs, hxl with
    | [y0, y1, y2, y3, y4], _ =>
      have h0 : DataW.trod enc Try.prog w base spare held m 9 (([c0, c1, c2, c3, c4].drop 0).take (Try.prog.cellsOf 9)) = some y0 := hx 0 _ rfl
      rw [Try.cells9] at h0
      have h1 : DataW.trod enc Try.prog w base spare held m 3 (([c0, c1, c2, c3, c4].drop 1).take (Try.prog.cellsOf 3)) = some y1 := hx 1 _ rfl
      rw [Try.cells3] at h1
      have h2 : DataW.trod enc Try.prog w base spare held m 3 (([c0, c1, c2, c3, c4].drop 2).take (Try.prog.cellsOf 3)) = some y2 := hx 2 _ rfl
      rw [Try.cells3] at h2
      have h3 : DataW.trod enc Try.prog w base spare held m 3 (([c0, c1, c2, c3, c4].drop 3).take (Try.prog.cellsOf 3)) = some y3 := hx 3 _ rfl
      rw [Try.cells3] at h3
      have h4 : DataW.trod enc Try.prog w base spare held m 9 (([c0, c1, c2, c3, c4].drop 4).take (Try.prog.cellsOf 9)) = some y4 := hx 4 _ rfl
      rw [Try.cells9] at h4
      have hW : ∀ (j : Nat) (t : TypeId) (d : DataW H) (n : Nat), [(9 : TypeId), 3, 3, 3, 9][j]? = some t → [y0.1, y1.1, y2.1, y3.1, y4.1][j]? = some d → n ∈ d.weights Try.prog t → n ∈ x.1.weights Try.prog 45 := by
        intro j t d n ht hd hn
        rw [hxx]
        simp only [DataW.weights, Try.underlying45]
        exact DataW.weights_mem_each (P := Try.prog) (ts := [9, 3, 3, 3, 9]) (ds := [y0.1, y1.1, y2.1, y3.1, y4.1]) ht hd n hn
      obtain ⟨s0, e0, d0, -⟩ := DataW.trod_string Try.underlying9 h0
      obtain ⟨a1, e1, -, w1⟩ := DataW.trod_int Try.underlying3 h1
      obtain ⟨a2, e2, -, w2⟩ := DataW.trod_int Try.underlying3 h2
      obtain ⟨a3, e3, -, w3⟩ := DataW.trod_int Try.underlying3 h3
      obtain ⟨s4, e4, d4, -⟩ := DataW.trod_string Try.underlying9 h4
      simp at e0 e1 e2 e3 e4
      subst e0 e1 e2 e3 e4
      exact ⟨⟨s0, a1, a2, a3, s4⟩, rfl, hz _ (hW 0 9 y0.1 _ rfl rfl (by rw [d0]; simp [DataW.weights])), hz _ (hW 4 9 y4.1 _ rfl rfl (by rw [d4]; simp [DataW.weights]))⟩
theorem open_item {fuel : Nat} {cs : List Value} {x : DataW H × List MemPlace} (h : DataW.trod enc Try.prog w base spare held fuel 87 cs = some x) (hz : ∀ n, n ∈ x.1.weights Try.prog 87 → n ≤ 140737488351232) :
    ∃ y : It, cs = its y ∧ WI y := by
  obtain ⟨xs, m, -, hxx, hl, hxl, hx⟩ := DataW.trod_struct (P := Try.prog) Try.underlying87 h
  rw [Try.cells87] at hl
  match cs, hl with
  | [c0, c1, c2, c3, c4, c5, c6, c7, c8], _ =>
    match xs, hxl with
    | [y0, y1, y2, y3], _ =>
      have h0 : DataW.trod enc Try.prog w base spare held m 43 (([c0, c1, c2, c3, c4, c5, c6, c7, c8].drop 0).take (Try.prog.cellsOf 43)) = some y0 := hx 0 _ rfl
      rw [Try.cells43] at h0
      have h1 : DataW.trod enc Try.prog w base spare held m 45 (([c0, c1, c2, c3, c4, c5, c6, c7, c8].drop 2).take (Try.prog.cellsOf 45)) = some y1 := hx 1 _ rfl
      rw [Try.cells45] at h1
      have h2 : DataW.trod enc Try.prog w base spare held m 3 (([c0, c1, c2, c3, c4, c5, c6, c7, c8].drop 7).take (Try.prog.cellsOf 3)) = some y2 := hx 2 _ rfl
      rw [Try.cells3] at h2
      have h3 : DataW.trod enc Try.prog w base spare held m 3 (([c0, c1, c2, c3, c4, c5, c6, c7, c8].drop 8).take (Try.prog.cellsOf 3)) = some y3 := hx 3 _ rfl
      rw [Try.cells3] at h3
      have hW : ∀ (j : Nat) (t : TypeId) (d : DataW H) (n : Nat), [(43 : TypeId), 45, 3, 3][j]? = some t → [y0.1, y1.1, y2.1, y3.1][j]? = some d → n ∈ d.weights Try.prog t → n ∈ x.1.weights Try.prog 87 := by
        intro j t d n ht hd hn
        rw [hxx]
        simp only [DataW.weights, Try.underlying87]
        exact DataW.weights_mem_each (P := Try.prog) (ts := [43, 45, 3, 3]) (ds := [y0.1, y1.1, y2.1, y3.1]) ht hd n hn
      obtain ⟨r0, e0, q0, s0⟩ := open_lot (show DataW.trod enc Try.prog w base spare held m 43 [c0, c1] = some y0 from h0)
      have z0 := hz _ (hW 0 43 y0.1 _ rfl rfl s0)
      simp only [lcs, List.cons.injEq, and_true] at e0
      obtain ⟨rfl, rfl⟩ := e0
      obtain ⟨r1, e1, q1⟩ := open_asset (show DataW.trod enc Try.prog w base spare held m 45 [c2, c3, c4, c5, c6] = some y1 from h1) (fun n hn => hz n (hW 1 45 y1.1 n rfl rfl hn))
      simp only [acs, List.cons.injEq, and_true] at e1
      obtain ⟨rfl, rfl, rfl, rfl, rfl⟩ := e1
      obtain ⟨a2, e2, -, w2⟩ := DataW.trod_int Try.underlying3 h2
      obtain ⟨a3, e3, -, w3⟩ := DataW.trod_int Try.underlying3 h3
      simp at e2 e3
      subst e2 e3
      exact ⟨⟨r0.i, r0.n, r1, a2, a3⟩, rfl, ⟨Nat.le_trans z0 (by decide), Nat.le_trans q1.1 (by decide), Nat.le_trans q1.2 (by decide)⟩, wf_rng w2, wf_rng w3⟩
theorem open_items {fuel : Nat} {cs : List Value} {x : DataW H × List MemPlace} (h : DataW.trod enc Try.prog w base spare held fuel 40 cs = some x) (hz : ∀ n, n ∈ x.1.weights Try.prog 40 → n ≤ 140737488351232) :
    ∃ (xs : List It) (a : Option Addr) (cap : Nat), cs = [.slice a xs.length cap] ∧ xs.length ≤ cap ∧ Rw 9 its w a xs ∧ (∀ y ∈ xs, WI y) ∧ xs.length * 96 ≤ 140737488351232 := by
  rcases DataW.trod_slice Try.underlying40 h with ⟨rfl, -⟩ | ⟨ad, len, cap, elems, rest, n, -, rfl, hx, hb, hl, hm, hlen, hel, -, -⟩
  · exact ⟨[], none, 0, rfl, Nat.le_refl _, Rw.nil, fun y hy => (List.not_mem_nil hy).elim, by simp⟩
  · have each : ∀ i, i < len → ∃ y : It, (∀ j, j < 9 → w.cell? ((ad.add (i * 9)).add j) = (its y)[j]?) ∧ WI y := by
      intro i hi
      have h3 := hel i hi
      rw [List.getElem?_eq_getElem (by omega), Try.cells87, Option.bind_eq_some_iff] at h3
      obtain ⟨cs, hcs, hy⟩ := h3
      obtain ⟨-, hl2, hcell⟩ := World.cells?_some hcs
      have hW : ∀ n, n ∈ (elems[i].1).weights Try.prog 87 → n ≤ 140737488351232 := by
        intro n hn
        refine hz n ?_
        rw [hx]
        simp only [DataW.weights, Try.underlying40, List.mem_cons, List.mem_append]
        exact .inr (.inl (weightsAll_mem (List.mem_map.2 ⟨elems[i], List.getElem_mem _, rfl⟩) hn))
      obtain ⟨y, rfl, k1⟩ := open_item hy hW
      exact ⟨y, fun j hj => hcell j hj, k1⟩
    obtain ⟨xs, hxl, hq⟩ := collectG len each
    have hwt : xs.length * 96 ≤ 140737488351232 := by
      have := hz ((elems.length + rest.length) * 96) (by
        rw [hx]
        simp only [DataW.weights, Try.underlying40, Try.bytes87, List.length_map]
        exact List.mem_cons_self ..)
      rw [hxl]
      have e : len ≤ elems.length + rest.length := by omega
      have := Nat.mul_le_mul_right 96 e
      omega
    refine ⟨xs, some ad, cap, by rw [hxl], by omega, fun h0 => ?_, fun y hy => ?_, hwt⟩
    · obtain ⟨b, off, spot⟩ := ad
      have hs := (hq 0 (by omega)).1 0 (by omega)
      have hs' : w.cell? (((⟨b, off, spot⟩ : Addr).add (0 * 9)).add 0) = some (Value.string (xs[0]'h0).l) := hs
      have hspot : spot = none := by simpa [Addr.add] using World.cell?_spot hs'
      subst hspot
      have hblk := World.block_lt_of_cell? w _ hs'
      have hbl : b < w.heap.size := by simpa [Addr.add] using hblk
      refine ⟨b, off, rfl, hbl, fun i hi j hj => ?_⟩
      have := (hq i hi).1 j hj
      rw [add_flat ⟨b, off, none⟩ rfl, add_flat ⟨b, off + i * 9, none⟩ rfl] at this
      exact this
    · obtain ⟨i, hi, rfl⟩ := List.getElem_of_mem hy
      exact (hq i hi).2
end
end Go.Proofs.Ytheikjjehidagaa
