/- layer 11: posts, as they are handed in -/
import Derived.Test.YteoibfegekipjaaX
import Derived.WalkKit
import Derived.ProofKit
import Derived.OpenShut
import Derived.ChangeOld
import Derived.Below
import Derived.SizedLaws
import Derived.ChangeMaps5
import Derived.Lib.SmallJoins
namespace Go.Proofs.Yteoibfegekipjaa
open Go.RowKit
set_option linter.unusedVariables false
set_option linter.unusedSimpArgs false
open Go.ChangeShapes Go.WideShapes
set_option maxRecDepth 100000
/-- handed posts -/
def Pd (w : World) (v : Value) (l : List (List Ex)) : Prop :=
  ∃ a cap, v = .slice a l.length cap ∧ l.length ≤ cap ∧ (0 < l.length → ∃ blk off, a = some ⟨blk, off, none⟩ ∧ blk < w.heap.size ∧ ∀ i (h : i < l.length), ∃ ai ci, w.cell? ⟨blk, off + i, none⟩ = some (.slice ai l[i].length ci) ∧ l[i].length ≤ ci ∧ Hd w (.slice ai l[i].length ci) l[i])
section
variable {H : Type} {enc : TypeId × Value → H} {w : World} {base : Nat} {spare : Nat → Bool} {held : Bool}
theorem open_posts {fuel : Nat} {cs : List Value} {x : DataW H × List MemPlace} (h : DataW.trod enc Try.prog w base spare held fuel 22 cs = some x) (hz : ∀ n, n ∈ x.1.weights Try.prog 22 → n ≤ 140737488351232) :
    ∃ (l : List (List Ex)) (a : Option Addr) (cap : Nat), cs = [.slice a l.length cap] ∧ Pd w (.slice a l.length cap) l := by
  rcases DataW.trod_slice Try.underlying22 h with ⟨rfl, -⟩ | ⟨ad, len, cap, elems, rest, n, -, rfl, hx, hb, hl, hm, hlen, hel, -, -⟩
  · exact ⟨[], none, 0, rfl, none, 0, rfl, Nat.le_refl _, fun h => absurd h (Nat.lt_irrefl 0)⟩
  · have each : ∀ i, i < len → ∃ y : List Ex, ∃ ai ci, w.cell? (ad.add i) = some (.slice ai y.length ci) ∧ y.length ≤ ci ∧ Hd w (.slice ai y.length ci) y := by
      intro i hi
      have h3 := hel i hi
      rw [List.getElem?_eq_getElem (by omega), Try.cells30, Option.bind_eq_some_iff] at h3
      obtain ⟨cs, hcs, hy⟩ := h3
      obtain ⟨-, hl2, hcell⟩ := World.cells?_some hcs
      have hW : ∀ n, n ∈ (elems[i].1).weights Try.prog 30 → n ≤ 140737488351232 := by
        intro n hn
        refine hz n ?_
        rw [hx]
        simp only [DataW.weights, Try.underlying22, List.mem_cons, List.mem_append]
        exact .inr (.inl (weightsAll_mem (List.mem_map.2 ⟨elems[i], List.getElem_mem _, rfl⟩) hn))
      obtain ⟨y, ai, ci, rfl, hci, hd⟩ := open_ents hy hW
      refine ⟨y, ai, ci, ?_, hci, hd⟩
      have := hcell 0 (by omega)
      simpa [Addr.add] using this
    obtain ⟨l, hll, hq⟩ := collectG len each
    refine ⟨l, some ad, cap, by rw [hll], some ad, cap, rfl, by omega, fun h0 => ?_⟩
    obtain ⟨b, off, spot⟩ := ad
    obtain ⟨a0, c0, hs, -⟩ := hq 0 h0
    have hspot : spot = none := by simpa [Addr.add] using World.cell?_spot hs
    subst hspot
    have hblk := World.block_lt_of_cell? w _ hs
    have hbl : b < w.heap.size := by simpa [Addr.add] using hblk
    refine ⟨b, off, rfl, hbl, fun j hj => ?_⟩
    obtain ⟨aj, cj, h1, h2, h3⟩ := hq j hj
    rw [add_flat ⟨b, off, none⟩ rfl] at h1
    exact ⟨aj, cj, h1, h2, h3⟩
end
end Go.Proofs.Yteoibfegekipjaa
