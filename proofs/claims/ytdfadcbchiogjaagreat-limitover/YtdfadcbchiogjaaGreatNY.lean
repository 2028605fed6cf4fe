/- layer 16: the document's Add, Take -/
import Derived.Test.YtdfadcbchiogjaaGreatNX
import Derived.Test.YtdfadcbchiogjaaGreatNV
import Derived.WalkKit
import Derived.ProofKit
import Derived.Handy
import Derived.WalkLawsBesides
import Derived.WalkSpells
import Derived.BigQuiet
import Derived.BigCall
import Derived.Deep.QuietTactic
import Derived.Deep.Light
import Derived.Deep.OwnRows
import Derived.Laws.AppendOwnNone
import Derived.Laws.Strings3
import Derived.Laws.RangeAny
import Derived.Deep.RegionWith
import Derived.Lib.BitFns
import Derived.Lib.Walk
import Derived.Lib.Strings
import Derived.Lib.OthersKept
import Derived.Deep.CutBlock
import Derived.Deep.DeepCutAuto
import Derived.Deep.LoopGhost
import Derived.Deep.RegionHeld3
import Derived.Lib.SmallJoins
import Derived.Maps.AppendAt
import Derived.Laws.IdiomStrings
import Derived.Lib.AppendZeros
import Derived.Deep.WholeRow
import Derived.Laws.BitsAllLaws
import Derived.Lib.ConvBytes
import Derived.Deep.RegionLaw
import Derived.Maps.OwnSet
import Derived.Maps.OwnOps
import Derived.Maps.RangeWalk
import Derived.Maps.Ext
import Derived.DeepKeys4
import Derived.Laws.StructEq
import Derived.Deep.MidRow
import Derived.Lib.Bytealg
import Derived.Lib.AppendZerosOnto
import Derived.Laws.MakeOwn
import Derived.Deep.Upon
import Derived.Sort.KeysCollected
namespace Go.Proofs.YtdfadcbchiogjaaGreat
open Go.RowKit
set_option linter.unusedVariables false
set_option linter.unusedSimpArgs false
set_option maxRecDepth 20000
theorem res_cell2 {P : Program} (fn : Func) (tmps : Array Value) (a t b : Nat) (ad : Addr) (v u : Value) (w : World) (hf : fn.results = #[.cell a t, .tmp b]) (ht : tmps.getD a undef = .pointer (some ad)) (hu : tmps.getD b undef = u) (hl : (loadVar t ad).run P w = .ok v w) : (results fn tmps).run P w = .ok (.tuple #[v, u]) w := by
  have ht2 : tmps[a]?.getD undef = .pointer (some ad) := by simpa using ht
  have hu2 : tmps[b]?.getD undef = u := by simpa using hu
  simp [results, hf, ht2, hu2, asAddr, hl]
def RaP (T : Tb) (E : Int) (w : World) (e : Ending) (w' : World) : Prop := ∃ v', e = .returned (.tuple #[.agg (rtc T v').toArray, .int .i64 E]) ∧ Hid (Lo w' v' T.L ∧ Below w.heap.size w w')
theorem load35 {W : World} {b : Nat} {v0 v1 v2 v3 : Value} (h : Bx W b #[v0, v1, v2, v3] 65) : (loadVar 65 ⟨b, 0, none⟩).run Tryz.prog W = .ok (.agg #[v0, v1, v2, v3]) W := by
  have r0 : W.cell? ⟨b, 0, none⟩ = some v0 := h.cell 0
  have r1 : W.cell? ⟨b, 1, none⟩ = some v1 := h.cell 1
  have r2 : W.cell? ⟨b, 2, none⟩ = some v2 := h.cell 2
  have r3 : W.cell? ⟨b, 3, none⟩ = some v3 := h.cell 3
  go_simp
theorem set4 {W : World} {r : Nat} {a b c d v0 v1 v2 v3 : Value} (h : Bx W r #[a, b, c, d] 65) : Bx ((((W.setCell ⟨r, 0, none⟩ v0).setCell ⟨r, 1, none⟩ v1).setCell ⟨r, 2, none⟩ v2).setCell ⟨r, 3, none⟩ v3) r #[v0, v1, v2, v3] 65 := by
  have k4 := (((h.setc 0 v0).setc 1 v1).setc 2 v2).setc 3 v3
  simpa using k4
theorem set4_below {W : World} {B r : Nat} {w : World} {v0 v1 v2 v3 : Value} (h : Below B w W) (hr : B ≤ r) : Below B w ((((W.setCell ⟨r, 0, none⟩ v0).setCell ⟨r, 1, none⟩ v1).setCell ⟨r, 2, none⟩ v2).setCell ⟨r, 3, none⟩ v3) :=
  (((h.setCell (p := ⟨r, 0, none⟩) hr _).setCell (p := ⟨r, 1, none⟩) hr _).setCell (p := ⟨r, 2, none⟩) hr _).setCell (p := ⟨r, 3, none⟩) hr _
theorem bx_own {w : World} {B e k n g T : Nat} {v : Value} {cs : List Value} {xs : Array Value} (ho : w.ownsRow B e k v n cs) (hg : Bx w g xs T) (he : T ≠ e) : some g ≠ v.ownBlock := by
  rcases ho.2 with ⟨rfl, _⟩ | ⟨b, cap, cur, rfl, _, hb, _⟩
  · simp [Value.ownBlock]
  · intro k
    simp [Value.ownBlock] at k
    subst k
    unfold Bx at hg
    rw [hb] at hg
    injection hg with hg
    injection hg with _ h2 _
    exact he h2.symm
theorem set4_own {W : World} {B e k n r : Nat} {v v0 v1 v2 v3 : Value} {cs : List Value} {xs : Array Value} {T : Nat} (ho : W.ownsRow B e k v n cs) (hr : Bx W r xs T) (he : T ≠ e) : ((((W.setCell ⟨r, 0, none⟩ v0).setCell ⟨r, 1, none⟩ v1).setCell ⟨r, 2, none⟩ v2).setCell ⟨r, 3, none⟩ v3).ownsRow B e k v n cs := by
  have hn := bx_own ho hr he
  have s0 := own_grown ho (grown_set W r 0 v0) hn
  have s1 := own_grown s0 (grown_set _ r 1 v1) hn
  have s2 := own_grown s1 (grown_set _ r 2 v2) hn
  exact own_grown s2 (grown_set _ r 3 v3) hn
end Go.Proofs.YtdfadcbchiogjaaGreat
