/- layer 11: rows as they are read -/
import Derived.Test.YteoibfegekipjaaN
import Derived.WalkKit
import Derived.ProofKit
import Derived.Handy
import Derived.WalkLawsBesides
import Derived.WalkSpells
import Derived.BigQuiet
import Derived.BigCall
import Derived.Deep.QuietTactic
import Derived.Deep.Light
import Derived.Deep.OwnRows
import Derived.Laws.AppendOwnNone
import Derived.Laws.Strings3
import Derived.Laws.RangeAny
import Derived.Deep.RegionWith
import Derived.Lib.BitFns
import Derived.Lib.Walk
import Derived.Lib.Strings
import Derived.Lib.OthersKept
import Derived.Deep.CutBlock
import Derived.Deep.DeepCutAuto
import Derived.Deep.LoopGhost
import Derived.Deep.RegionHeld3
import Derived.Lib.SmallJoins
import Derived.Maps.AppendAt
import Derived.Laws.IdiomStrings
import Derived.Lib.AppendZeros
import Derived.Deep.WholeRow
import Derived.Laws.BitsAllLaws
import Derived.Lib.ConvBytes
import Derived.Deep.RegionLaw
import Derived.Maps.OwnSet
import Derived.Maps.OwnOps
import Derived.Maps.RangeWalk
import Derived.Maps.Ext
import Derived.DeepKeys4
import Derived.Laws.StructEq
namespace Go.Proofs.Yteoibfegekipjaa
open Go.RowKit
set_option linter.unusedVariables false
set_option linter.unusedSimpArgs false
set_option maxRecDepth 20000
/-- a row of structs of k cells each, as it is read -/
def Rw {α : Type} (k : Nat) (f : α → List Value) (w : World) (a : Option Addr) (xs : List α) : Prop := 0 < xs.length → ∃ blk off, a = some ⟨blk, off, none⟩ ∧ blk < w.heap.size ∧ ∀ i (h : i < xs.length), ∀ j, j < k → w.cell? ⟨blk, off + i * k + j, none⟩ = (f xs[i])[j]?
theorem Rw.below {α : Type} {k : Nat} {f : α → List Value} {w w' : World} {a : Option Addr} {xs : List α} (h : Rw k f w a xs) (hb : Below w.heap.size w w') : Rw k f w' a xs := by
  intro h0
  obtain ⟨blk, off, h1, h2, h3⟩ := h h0
  exact ⟨blk, off, h1, Nat.lt_of_lt_of_le h2 hb.size, fun i hi j hj => (hb.cell (p := ⟨blk, off + i * k + j, none⟩) h2).trans (h3 i hi j hj)⟩
theorem Rw.nil {α : Type} {k : Nat} {f : α → List Value} {w : World} {a : Option Addr} : Rw k f w a [] := fun h => absurd h (Nat.lt_irrefl 0)
def rcs {α : Type} (f : α → List Value) (xs : List α) : List Value := (xs.map f).flatten
theorem rcs_snoc {α : Type} (f : α → List Value) (xs : List α) (x : α) : rcs f (xs ++ [x]) = rcs f xs ++ f x := flat_snoc f xs x
theorem rcs_take {α : Type} (f : α → List Value) (xs : List α) {k : Nat} (h : k < xs.length) : rcs f (xs.take k) ++ f xs[k] = rcs f (xs.take (k + 1)) := by
  rw [← rcs_snoc, List.take_append_getElem h]
theorem own_rw {α : Type} {k : Nat} {f : α → List Value} (hf : ∀ x, (f x).length = k) {w : World} {B e n : Nat} {v : Value} {xs : List α} (h : w.ownsRow B e k v n (rcs f xs)) (hn : n = xs.length) : ∃ a cap, v = .slice a xs.length cap ∧ xs.length ≤ cap ∧ Rw k f w a xs := by
  subst hn
  obtain ⟨a, cap, hv, hc, hr⟩ := own_read h h.1
  refine ⟨a, cap, hv, hc, fun h0 => ?_⟩
  obtain ⟨g, hg, _, hgl, hcell⟩ := hr h0
  refine ⟨g, 0, hg, hgl, fun i hi j hj => ?_⟩
  have h1 := flat_at f k hf xs i hi j hj
  have h3 : j < (f xs[i]).length := by rw [hf]; exact hj
  rw [List.getElem?_eq_getElem h3] at h1 ⊢
  rw [Nat.zero_add]
  exact hcell _ _ h1
end Go.Proofs.Yteoibfegekipjaa
