/- layer 12: law Once -/
import Derived.Test.YtbfnfebmmhhegaaCQ
import Derived.WalkKit
import Derived.ProofKit
import Derived.Handy
import Derived.WalkLawsBesides
import Derived.WalkSpells
import Derived.BigQuiet
import Derived.BigCall
import Derived.Deep.QuietTactic
import Derived.Deep.Light
import Derived.Deep.OwnRows
import Derived.Laws.AppendOwnNone
import Derived.Laws.Strings3
import Derived.Laws.RangeAny
import Derived.Deep.RegionWith
import Derived.Lib.BitFns
import Derived.Lib.Walk
import Derived.Lib.Strings
import Derived.Lib.OthersKept
import Derived.Deep.CutBlock
import Derived.Deep.DeepCutAuto
import Derived.Deep.LoopGhost
import Derived.Deep.RegionHeld3
import Derived.Lib.SmallJoins
import Derived.Maps.AppendAt
import Derived.Laws.IdiomStrings
import Derived.Lib.AppendZeros
import Derived.Deep.WholeRow
import Derived.Laws.BitsAllLaws
import Derived.Lib.ConvBytes
import Derived.Deep.RegionLaw
import Derived.Maps.OwnSet
import Derived.Maps.OwnOps
import Derived.Maps.RangeWalk
import Derived.Maps.Ext
import Derived.DeepKeys4
import Derived.Laws.StructEq
import Derived.Shelf.SlSortCmp.NoneTotal
import Derived.Deep.MidRow
import Derived.Laws.MakeOwn
namespace Go.Proofs.Ytbfnfebmmhhegaa
open Go.RowKit
set_option linter.unusedVariables false
set_option linter.unusedSimpArgs false
set_option maxRecDepth 20000
/-- books alone -/
structure Dc (w0 W : World) (c q m : Nat) (L : List Num.Bal) (rows : List (Option Addr × List Num.Bal)) : Prop where
  b : Below w0.heap.size w0 W
  x : Cu W c q m L
  m0 : w0.heap.size ≤ m
  r : ∀ y ∈ rows, Bs W y.1 y.2
theorem Dc.below {w0 W W' : World} {c q m : Nat} {L : List Num.Bal} {rows : List (Option Addr × List Num.Bal)} (h : Dc w0 W c q m L rows) (hb : Below W.heap.size W W') : Dc w0 W' c q m L rows :=
  ⟨h.b.trans (hb.mono h.b.size), h.x.below hb, h.m0, fun y hy => (h.r y hy).below hb⟩
theorem Dc.post {w0 W W' : World} {c q m : Nat} {L L' : List Num.Bal} {rows : List (Option Addr × List Num.Bal)} (h : Dc w0 W c q m L rows) (hx : Cu W' c q m L') (g : W.grownBy W' (some m)) : Dc w0 W' c q m L' rows :=
  ⟨h.b.grown g h.b.size (fun k e => by cases e; exact h.m0), hx, h.m0, fun y hy => bs_grown (h.r y hy) h.x.l.m g⟩
theorem dc_told {w0 W : World} {c q m : Nat} {L : List Num.Bal} {rows : List (Option Addr × List Num.Bal)} (h : Dc w0 W c q m L rows) (g : Num.Good L) (hl : L.length ≤ 1000000) : Calls Try.prog 13 #[.pointer (some ⟨c, 0, none⟩)] W fun e W1 => ∃ a1 c1, e = .returned (.slice a1 L.length c1) ∧ Hid (Dc w0 W1 c q m L ((a1, L) :: rows)) := by
  refine (xtold c q m L hl (good_len g) W h.x).mono ?_
  rintro e W1 ⟨v, rfl, ho, hb⟩
  obtain ⟨a1, c1, rfl, _, hB⟩ := own_bs ho rfl
  have h1 := h.below hb
  exact ⟨a1, c1, rfl, h1.b, h1.x, h1.m0, fun y hy => by rcases List.mem_cons.1 hy with rfl | hy; exact hB; exact h1.r y hy⟩
theorem dc_same {w0 W : World} {c q m : Nat} {L M : List Num.Bal} {rows : List (Option Addr × List Num.Bal)} {al a1 : Option Addr} {cl c1 : Nat} (h : Dc w0 W c q m L rows) (hl : M.length ≤ 1000000) (h1 : (a1, M) ∈ rows) (h2 : (al, M) ∈ rows) : Calls Try.prog 12 #[.slice a1 M.length c1, .slice al M.length cl] W fun e W1 => e = .returned (.bool true) ∧ Hid (Dc w0 W1 c q m L rows) := by
  refine (xsame M hl a1 c1 al cl W (h.r _ h1) (h.r _ h2)).mono ?_
  rintro e W1 ⟨rfl, hb⟩
  exact ⟨rfl, h.below hb⟩
theorem dc_get {w0 W : World} {c q m : Nat} {L M : List Num.Bal} {rows : List (Option Addr × List Num.Bal)} {a1 : Option Addr} {c1 : Nat} (h : Dc w0 W c q m L rows) (hl : M.length ≤ 1000000) (h1 : (a1, M) ∈ rows) (o b : Int) (s : ByteArray) : Calls Try.prog 15 #[.slice a1 M.length c1, .agg #[.int .i64 o, .int .i64 b, .string s]] W fun e W1 => e = .returned (.int .i64 (Num.get M (o, b, s.toList))) ∧ Below W.heap.size W W1 := rget M hl a1 c1 o b s W (h.r _ h1)
theorem dc_awake {w0 W : World} {c q m : Nat} {L : List Num.Bal} {rows : List (Option Addr × List Num.Bal)} (h : Dc w0 W c q m L rows) : Calls Try.prog 14 #[] W fun e W1 => e = .returned (.bool true) ∧ Hid (OkP w0 (.returned (.bool true)) W1) := (xcawake W).mono fun e w' kk => ⟨kk.1, rfl, h.b.trans (kk.2.mono h.b.size)⟩
theorem dc_of {w0 W : World} {c q m lp : Nat} {L : List Num.Bal} {al : Option Addr} {cl : Nat} (h : Ds w0 W c q m lp L al cl) : Dc w0 W c q m L [] := ⟨h.b, h.x, h.m0, fun y hy => (List.not_mem_nil hy).elim⟩
end Go.Proofs.Ytbfnfebmmhhegaa
