/- layer 16: law Plays: its state -/
import Derived.Test.YtdfadcbchiogjaaOC
import Derived.Test.YtdfadcbchiogjaaOA
import Derived.Test.YtdfadcbchiogjaaNT
import Derived.WalkKit
import Derived.ProofKit
import Derived.Handy
import Derived.WalkLawsBesides
import Derived.WalkSpells
import Derived.BigQuiet
import Derived.BigCall
import Derived.Deep.QuietTactic
import Derived.Deep.Light
import Derived.Deep.OwnRows
import Derived.Laws.AppendOwnNone
import Derived.Laws.Strings3
import Derived.Laws.RangeAny
import Derived.Deep.RegionWith
import Derived.Lib.BitFns
import Derived.Lib.Walk
import Derived.Lib.Strings
import Derived.Lib.OthersKept
import Derived.Deep.CutBlock
import Derived.Deep.DeepCutAuto
import Derived.Deep.LoopGhost
import Derived.Deep.RegionHeld3
import Derived.Lib.SmallJoins
import Derived.Maps.AppendAt
import Derived.Laws.IdiomStrings
import Derived.Lib.AppendZeros
import Derived.Deep.WholeRow
import Derived.Laws.BitsAllLaws
import Derived.Lib.ConvBytes
import Derived.Deep.RegionLaw
import Derived.Maps.OwnSet
import Derived.Maps.OwnOps
import Derived.Maps.RangeWalk
import Derived.Maps.Ext
import Derived.DeepKeys4
import Derived.Laws.StructEq
import Derived.Deep.MidRow
import Derived.Lib.Bytealg
import Derived.Lib.AppendZerosOnto
import Derived.Laws.MakeOwn
import Derived.Deep.Upon
import Derived.Sort.KeysCollected
namespace Go.Proofs.Ytdfadcbchiogjaa
open Go.RowKit
set_option linter.unusedVariables false
set_option linter.unusedSimpArgs false
set_option maxRecDepth 20000
theorem bx_ne {w : World} {g h T U : Nat} {cs ds : Array Value} (a : Bx w g cs T) (b : Bx w h ds U) (e : T ≠ U) : g ≠ h := by
  rintro rfl
  unfold Bx at a b
  rw [a] at b
  injection b with b
  injection b with _ h2 _
  exact e h2
abbrev s4 (W : World) (r : Nat) (v0 v1 v2 v3 : Value) : World := (((W.setCell ⟨r, 0, none⟩ v0).setCell ⟨r, 1, none⟩ v1).setCell ⟨r, 2, none⟩ v2).setCell ⟨r, 3, none⟩ v3
theorem s4_grown (W : World) (r : Nat) (v0 v1 v2 v3 : Value) : W.grownBy (s4 W r v0 v1 v2 v3) (some r) := grown_trans (grown_trans (grown_trans (grown_set W r 0 v0) (grown_set _ r 1 v1)) (grown_set _ r 2 v2)) (grown_set _ r 3 v3)
theorem Ls.set {w wr w' : World} {p m1 m2 r : Nat} {T : Tb} {k : Nat} {xs : Array Value} (h : Ls w wr p m1 m2 T k) (hr : Bx wr r xs 35) (hb : w.heap.size ≤ r) (hg : wr.grownBy w' (some r)) : Ls w w' p m1 m2 T k := by
  refine ⟨⟨h.t.b.kept hg ?_, h.t.i.kept hg ?_, h.t.a.kept hg ?_, h.t.ne⟩, h.g, h.z, h.b.grown hg h.b.size (fun j hj => by cases hj; exact hb), h.l1, h.l2⟩
  · have := bx_ne h.t.b hr (by decide)
    simp [this]
  · have := h.t.i.nb hr
    simp
    exact fun e => this e.symm
  · have := h.t.a.nb hr
    simp
    exact fun e => this e.symm
theorem Lo.keep {w w' : World} {v : Value} {L : List Pt} {r : Nat} {xs : Array Value} (h : Lo w v L) (hr : Bx w r xs 35) (hg : w.grownBy w' (some r)) : Lo w' v L := own_grown h hg (bx_own h hr (by decide))
theorem Lo.kt {w w' : World} {v : Value} {L : List Pt} {m1 m2 p : Nat} {T : Tb} (h : Lo w v L) (hk : Kt m1 m2 w w') (ht : Tm w p m1 m2 T) : Lo w' v L := own_kt h hk ht.i ht.a
theorem Bx.kt {w w' : World} {g T : Nat} {cs : Array Value} {m1 m2 p : Nat} {t : Tb} (h : Bx w g cs T) (hk : Kt m1 m2 w w') (ht : Tm w p m1 m2 t) : Bx w' g cs T := (hk.block g h.lt (ht.i.nb h) (ht.a.nb h)).trans h
/-- both tables: the program's, and the document's in a box at r -/
structure Ps (w wr : World) (p m1 m2 r : Nat) (T : Tb) (k : Nat) : Prop where
  ls : Ls w wr p m1 m2 T k
  rb : ∃ a c, Bx wr r (rtc T (.slice a T.L.length c)).toArray 35 ∧ Lo wr (.slice a T.L.length c) T.L
  rl : w.heap.size ≤ r
/-- behind a call of both: the document's new table lies in a box at b yet -/
structure Qs (w wr : World) (p m1 m2 r b g : Nat) (T : Tb) (k : Nat) (y : Ac) : Prop where
  ls : Ls w wr p m1 m2 T k
  rb : ∃ xs : Nat → Value, Bx wr r #[xs 0, xs 1, xs 2, xs 3] 35
  bb : ∃ a c, Bx wr b (rtc T (.slice a T.L.length c)).toArray 35 ∧ Lo wr (.slice a T.L.length c) T.L
  gb : Bx wr g (ccs y).toArray 39
  ne : r ≠ b
  rl : w.heap.size ≤ r
  bl : w.heap.size ≤ b
theorem Tb.add_need (T : Tb) (i : Int) (s : List UInt8) (c : Int) : (T.add i s c).need = T.need := by
  unfold Tb.add
  split <;> rfl
theorem Tb.take_need (T : Tb) (i : Int) (s : List UInt8) (c : Int) : (T.take i s c).need = T.need := by
  unfold Tb.take
  split <;> rfl
theorem Good.useP {T : Tb} {k : Nat} (g : Good T k) (hk : k ≤ 1000) : T.L.length ≤ 1000 ∧ (∀ n j, Rng (smI (T.L.take j) n)) ∧ (∀ s j, Rng (smA (T.L.take j) s)) := ⟨Nat.le_trans g.l hk, fun n j => g.tkI hk n j, fun s j => g.tkA hk s j⟩
end Go.Proofs.Ytdfadcbchiogjaa
