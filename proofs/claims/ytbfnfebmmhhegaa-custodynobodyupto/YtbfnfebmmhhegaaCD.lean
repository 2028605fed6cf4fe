/- layer 12: lines moved -/
import Derived.Test.YtbfnfebmmhhegaaCC
import Derived.Test.YtbfnfebmmhhegaaT
import Derived.WalkKit
import Derived.ProofKit
import Derived.Handy
import Derived.WalkLawsBesides
import Derived.WalkSpells
import Derived.BigQuiet
import Derived.BigCall
import Derived.Deep.QuietTactic
import Derived.Deep.Light
import Derived.Deep.OwnRows
import Derived.Laws.AppendOwnNone
import Derived.Laws.Strings3
import Derived.Laws.RangeAny
import Derived.Deep.RegionWith
import Derived.Lib.BitFns
import Derived.Lib.Walk
import Derived.Lib.Strings
import Derived.Lib.OthersKept
import Derived.Deep.CutBlock
import Derived.Deep.DeepCutAuto
import Derived.Deep.LoopGhost
import Derived.Deep.RegionHeld3
import Derived.Lib.SmallJoins
import Derived.Maps.AppendAt
import Derived.Laws.IdiomStrings
import Derived.Lib.AppendZeros
import Derived.Deep.WholeRow
import Derived.Laws.BitsAllLaws
import Derived.Lib.ConvBytes
import Derived.Deep.RegionLaw
import Derived.Maps.OwnSet
import Derived.Maps.OwnOps
import Derived.Maps.RangeWalk
import Derived.Maps.Ext
import Derived.DeepKeys4
import Derived.Laws.StructEq
import Derived.Shelf.SlSortCmp.NoneTotal
import Derived.Deep.MidRow
import Derived.Laws.MakeOwn
namespace Go.Proofs.Ytbfnfebmmhhegaa
open Go.RowKit
set_option linter.unusedVariables false
set_option linter.unusedSimpArgs false
set_option maxRecDepth 20000
def Ln.ex (x : Ln) : Ex := ⟨x.f, x.b, x.s, x.t, x.i, x.s, x.q⟩
def Ln.ent (x : Ln) : Num.Ent := x.ex.ent
def mvL (L : List Num.Bal) (xs : List Ln) : List Num.Bal := match xs.findIdx? Ln.st with | some _ => L | none => Num.post L (xs.map Ln.ent)
def mvN (L : List Num.Bal) (xs : List Ln) : Int := match xs.findIdx? Ln.st with | some k => (k : Int) | none => (Num.howf L (xs.map Ln.ent) : Int)
def mvE (L : List Num.Bal) (xs : List Ln) : Int := match xs.findIdx? Ln.st with | some _ => 22 | none => Num.whyf L (xs.map Ln.ent)
theorem map_ent (xs : List Ln) : (xs.map Ln.ex).map Ex.ent = xs.map Ln.ent := by rw [List.map_map]; rfl
def MvP (c q m : Nat) (L : List Num.Bal) (n e : Int) (w : World) (x : Ending) (w' : World) : Prop := x = .returned (.tuple #[.int .i64 n, .int .i64 e]) ∧ Cu w' c q m L ∧ w.grownBy w' (some m)
theorem below_cells {B b : Nat} {a : World} (hb : B ≤ b) : ∀ (vs : List Value) (o : Nat) (w : World), Below B a w → Below B a (w.setCells b o vs)
  | [], _, _, h => h
  | v :: r, o, w, h => by
    rw [World.setCells]
    exact below_cells hb r (o + 1) _ (h.setCell (p := ⟨b, o, none⟩) hb v)
/-- entries that are being laid -/
structure Mk (w0 W : World) (g n k : Nat) (xs : List Ex) : Prop where
  th : W.there g 0 (n * 7)
  cs : ∀ i (h : i < xs.length), i < k → ∀ j, j < 7 → W.cell? ⟨g, i * 7 + j, none⟩ = (xs[i].cs)[j]?
  b : Below w0.heap.size w0 W
  g0 : w0.heap.size ≤ g
  gl : g < W.heap.size
theorem Mk.below {w0 W W' : World} {g n k : Nat} {xs : List Ex} (h : Mk w0 W g n k xs) (hb : Below W.heap.size W W') : Mk w0 W' g n k xs :=
  ⟨fun j hj => by
      have := h.th j hj
      have e := hb.block g h.gl
      constructor
      · rw [World.cell?_of_block (a := ⟨g, 0 + j, none⟩) e]; exact this.1
      · have h2 := this.2
        simp only [World.frozen?] at h2 ⊢
        rw [e]
        exact h2,
    fun i hi hk j hj => (hb.cell (p := ⟨g, i * 7 + j, none⟩) h.gl).trans (h.cs i hi hk j hj), h.b.trans (hb.mono h.b.size), h.g0, Nat.lt_of_lt_of_le h.gl hb.size⟩
theorem Mk.store {w0 W : World} {g n k : Nat} {xs : List Ex} (h : Mk w0 W g n k xs) (hk : k < n) (hkx : k < xs.length) :
    (storeCells ⟨g, k * 7, none⟩ xs[k].cs.toList).run Try.prog W = .ok () (W.setCells g (k * 7) xs[k].cs.toList) ∧ Mk w0 (W.setCells g (k * 7) xs[k].cs.toList) g n (k + 1) xs := by
  have ht : W.there g (k * 7) 7 := fun j hj => by
    have h1 := h.th (k * 7 + j) (by omega)
    rw [Nat.zero_add] at h1
    exact h1
  have hl : xs[k].cs.toList.length = 7 := rfl
  refine ⟨?_, World.there_setCells h.th _ _ _, fun i hi hik j hj => ?_, below_cells h.g0 _ _ _ h.b, h.g0, ?_⟩
  · have := run_storeCells_cells (P := Try.prog) g (k * 7) xs[k].cs.toList 0 W (fun j hj => by rw [Nat.add_zero]; exact (ht j (by omega)).1) (fun j hj => by rw [Nat.add_zero]; exact (ht j (by omega)).2) (by intro v hv; simp [Ex.cs] at hv; rcases hv with rfl | rfl | rfl | rfl | rfl | rfl | rfl <;> rfl)
    simpa [storeCells] using this
  · by_cases e : i = k
    · subst e
      have h1 := World.rangeAt_setCells_same W g (i * 7) xs[i].cs.toList (by rw [hl]; exact ht)
      have h3 : j < xs[i].cs.toList.length := by rw [hl]; exact hj
      rw [← Array.getElem?_toList, List.getElem?_eq_getElem h3]
      exact h1 j _ (List.getElem?_eq_getElem h3)
    · rw [World.cell?_setCells_out g _ _ _ _ (fun _ _ => by simp only [hl]; omega)]
      exact h.cs i hi (by omega) j hj
  · have := (below_cells (Nat.le_refl g) xs[k].cs.toList (k * 7) W (Below.refl g W)).size
    exact Nat.lt_of_lt_of_le h.gl this
theorem Mk.es {w0 W : World} {g n : Nat} {xs : List Ex} {m : Nat} (h : Mk w0 W g n xs.length xs) (hm : m < w0.heap.size) : Es W.heap.size m W (.slice (some ⟨g, 0, none⟩) xs.length n) xs :=
  ⟨_, _, rfl, fun h0 => ⟨g, 0, rfl, h.gl, by have := h.g0; omega, fun i hi k hk => by rw [Nat.zero_add]; exact h.cs i hi hi k hk⟩⟩
end Go.Proofs.Ytbfnfebmmhhegaa
