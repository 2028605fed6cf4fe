/- layer 15: items, as they are handed in -/
import Derived.Test.YtpdlbbglbbmjmaaX
import Derived.Test.YtpdlbbglbbmjmaaHF
import Derived.WalkKit
import Derived.ProofKit
import Derived.OpenShut
import Derived.ChangeOld
import Derived.Below
import Derived.SizedLaws
import Derived.ChangeMaps5
import Derived.Lib.SmallJoins
namespace Go.Proofs.Ytpdlbbglbbmjmaa
open Go.RowKit
set_option linter.unusedVariables false
set_option linter.unusedSimpArgs false
open Num
open Go.ChangeShapes Go.WideShapes
set_option maxRecDepth 100000
theorem Try.cells50 : Try.prog.cellsOf 50 = 9 := by kernel_rfl
theorem Try.bytes50 : Try.prog.bytesOf 50 = 96 := by kernel_rfl
def WI (x : It) : Prop := Rng x.c
section
variable {H : Type} {enc : TypeId × Value → H} {w : World} {base : Nat} {spare : Nat → Bool} {held : Bool}
theorem open_item {fuel : Nat} {cs : List Value} {x : DataW H × List MemPlace} (h : DataW.trod enc Try.prog w base spare held fuel 50 cs = some x) (hz : ∀ n, n ∈ x.1.weights Try.prog 50 → n ≤ 140737488351232) :
    ∃ y : It, cs = its y ∧ WI y := by
  obtain ⟨xs, m, -, hxx, hl, hxl, hx⟩ := DataW.trod_struct (P := Try.prog) Try.underlying50 h
  rw [Try.cells50] at hl
  match cs, hl with
  | [c0, c1, c2, c3, c4, c5, c6, c7, c8], _ =>
    match xs, hxl with
    | [y0, y1, y2, y3], _ =>
      have h0 : DataW.trod enc Try.prog w base spare held m 46 (([c0, c1, c2, c3, c4, c5, c6, c7, c8].drop 0).take (Try.prog.cellsOf 46)) = some y0 := hx 0 _ rfl
      rw [Try.cells46] at h0
      have h1 : DataW.trod enc Try.prog w base spare held m 27 (([c0, c1, c2, c3, c4, c5, c6, c7, c8].drop 2).take (Try.prog.cellsOf 27)) = some y1 := hx 1 _ rfl
      rw [Try.cells27] at h1
      have h2 : DataW.trod enc Try.prog w base spare held m 3 (([c0, c1, c2, c3, c4, c5, c6, c7, c8].drop 7).take (Try.prog.cellsOf 3)) = some y2 := hx 2 _ rfl
      rw [Try.cells3] at h2
      have h3 : DataW.trod enc Try.prog w base spare held m 3 (([c0, c1, c2, c3, c4, c5, c6, c7, c8].drop 8).take (Try.prog.cellsOf 3)) = some y3 := hx 3 _ rfl
      rw [Try.cells3] at h3
      have hW : ∀ (j : Nat) (t : TypeId) (d : DataW H) (n : Nat), [(46 : TypeId), 27, 3, 3][j]? = some t → [y0.1, y1.1, y2.1, y3.1][j]? = some d → n ∈ d.weights Try.prog t → n ∈ x.1.weights Try.prog 50 := by
        intro j t d n ht hd hn
        rw [hxx]
        simp only [DataW.weights, Try.underlying50]
        exact DataW.weights_mem_each (P := Try.prog) (ts := [46, 27, 3, 3]) (ds := [y0.1, y1.1, y2.1, y3.1]) ht hd n hn
      obtain ⟨r0, e0, q0⟩ := open_lotz (show DataW.trod enc Try.prog w base spare held m 46 [c0, c1] = some y0 from h0) (fun n hn => hz n (hW 0 46 y0.1 n rfl rfl hn))
      simp only [prc, List.cons.injEq, and_true] at e0
      obtain ⟨rfl, rfl⟩ := e0
      obtain ⟨r1, e1, q1⟩ := open_asset (show DataW.trod enc Try.prog w base spare held m 27 [c2, c3, c4, c5, c6] = some y1 from h1) (fun n hn => hz n (hW 1 27 y1.1 n rfl rfl hn))
      simp only [acs, List.cons.injEq, and_true] at e1
      obtain ⟨rfl, rfl, rfl, rfl, rfl⟩ := e1
      obtain ⟨a2, e2, -, w2⟩ := DataW.trod_int Try.underlying3 h2
      obtain ⟨a3, e3, -, w3⟩ := DataW.trod_int Try.underlying3 h3
      simp at e2 e3
      subst e2 e3
      exact ⟨⟨r0.1, r0.2, r1, a2, a3⟩, rfl, wf_rng w3⟩
theorem open_items {fuel : Nat} {cs : List Value} {x : DataW H × List MemPlace} (h : DataW.trod enc Try.prog w base spare held fuel 42 cs = some x) (hz : ∀ n, n ∈ x.1.weights Try.prog 42 → n ≤ 140737488351232) :
    ∃ (xs : List It) (a : Option Addr) (cap : Nat), cs = [.slice a xs.length cap] ∧ xs.length ≤ cap ∧ Rw 9 its w a xs ∧ (∀ y ∈ xs, WI y) ∧ xs.length * 96 ≤ 140737488351232 := by
  rcases DataW.trod_slice Try.underlying42 h with ⟨rfl, -⟩ | ⟨ad, len, cap, elems, rest, n, -, rfl, hx, hb, hl, hm, hlen, hel, -, -⟩
  · exact ⟨[], none, 0, rfl, Nat.le_refl _, Rw.nil, fun y hy => (List.not_mem_nil hy).elim, by simp⟩
  · have each : ∀ i, i < len → ∃ y : It, (∀ j, j < 9 → w.cell? ((ad.add (i * 9)).add j) = (its y)[j]?) ∧ WI y := by
      intro i hi
      have h3 := hel i hi
      rw [List.getElem?_eq_getElem (by omega), Try.cells50, Option.bind_eq_some_iff] at h3
      obtain ⟨cs, hcs, hy⟩ := h3
      obtain ⟨-, hl2, hcell⟩ := World.cells?_some hcs
      have hW : ∀ n, n ∈ (elems[i].1).weights Try.prog 50 → n ≤ 140737488351232 := by
        intro n hn
        refine hz n ?_
        rw [hx]
        simp only [DataW.weights, Try.underlying42, List.mem_cons, List.mem_append]
        exact .inr (.inl (weightsAll_mem (List.mem_map.2 ⟨elems[i], List.getElem_mem _, rfl⟩) hn))
      obtain ⟨y, rfl, k1⟩ := open_item hy hW
      exact ⟨y, fun j hj => hcell j hj, k1⟩
    obtain ⟨xs, hxl, hq⟩ := collectG len each
    have hwt : xs.length * 96 ≤ 140737488351232 := by
      have := hz ((elems.length + rest.length) * 96) (by
        rw [hx]
        simp only [DataW.weights, Try.underlying42, Try.bytes50, List.length_map]
        exact List.mem_cons_self ..)
      rw [hxl]
      have e : len ≤ elems.length + rest.length := by omega
      have := Nat.mul_le_mul_right 96 e
      omega
    refine ⟨xs, some ad, cap, by rw [hxl], by omega, fun h0 => ?_, fun y hy => ?_, hwt⟩
    · obtain ⟨b, off, spot⟩ := ad
      have hs := (hq 0 (by omega)).1 0 (by omega)
      have hs' : w.cell? (((⟨b, off, spot⟩ : Addr).add (0 * 9)).add 0) = some (Value.string (xs[0]'h0).l) := hs
      have hspot : spot = none := by simpa [Addr.add] using World.cell?_spot hs'
      subst hspot
      have hblk := World.block_lt_of_cell? w _ hs'
      have hbl : b < w.heap.size := by simpa [Addr.add] using hblk
      refine ⟨b, off, rfl, hbl, fun i hi j hj => ?_⟩
      have := (hq i hi).1 j hj
      rw [add_flat ⟨b, off, none⟩ rfl, add_flat ⟨b, off + i * 9, none⟩ rfl] at this
      exact this
    · obtain ⟨i, hi, rfl⟩ := List.getElem_of_mem hy
      exact (hq i hi).2
end
end Go.Proofs.Ytpdlbbglbbmjmaa
