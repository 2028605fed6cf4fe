/- layer 10: checks of baskets, by the program and by the reference; lists in memory -/
import Derived.Test.YtheikjjehidagaaEB
import Derived.Test.YtheikjjehidagaaV3
import Derived.Test.YtheikjjehidagaaQA
import Derived.WalkKit
import Derived.ProofKit
import Derived.Handy
import Derived.WalkLawsBesides
import Derived.WalkSpells
import Derived.BigQuiet
import Derived.BigCall
import Derived.Deep.QuietTactic
import Derived.Deep.Light
import Derived.Deep.OwnRows
import Derived.Laws.AppendOwnNone
import Derived.Laws.Strings3
import Derived.Laws.RangeAny
import Derived.Deep.RegionWith
import Derived.Lib.BitFns
import Derived.Lib.Walk
import Derived.Lib.Strings
import Derived.Lib.OthersKept
import Derived.Deep.CutBlock
import Derived.Deep.DeepCutAuto
import Derived.Deep.LoopGhost
import Derived.Deep.RegionHeld3
import Derived.Lib.SmallJoins
import Derived.Maps.AppendAt
import Derived.Laws.IdiomStrings
import Derived.Lib.AppendZeros
import Derived.Deep.WholeRow
import Derived.Laws.BitsAllLaws
import Derived.Lib.ConvBytes
import Derived.Deep.RegionLaw
import Derived.Maps.OwnSet
import Derived.Maps.OwnOps
import Derived.Maps.RangeWalk
import Derived.Maps.Ext
import Derived.DeepKeys4
import Derived.Laws.StructEq
import Derived.Deep.MidRow
import Derived.Lib.Bytealg
import Derived.Lib.Overlaps
import Derived.Lib.AppendZerosOnto
import Derived.Laws.MakeOwn
namespace Go.Proofs.Ytheikjjehidagaa.H5.N14
open Go.RowKit
set_option linter.unusedVariables false
set_option linter.unusedSimpArgs false
set_option maxRecDepth 20000
/-- A call answers a truth, and leaves the world alone. -/
def BP (b : Bool) (w : World) (e : Ending) (w' : World) : Prop := e = .returned (.bool b) ∧ w = w'
theorem BP.mk {b c : Bool} {w : World} (h : c = b) : BP b w (.returned (.bool c)) w := ⟨by rw [h], rfl⟩
def BB (b : Bool) (w : World) (e : Ending) (w' : World) : Prop := e = .returned (.bool b) ∧ Below w.heap.size w w'
theorem bt {w w1 w2 : World} (h : Below w.heap.size w w1) (k : Below w1.heap.size w1 w2) : Below w.heap.size w w2 := h.trans (k.mono h.size)
theorem _root_.Go.Proofs.Ytheikjjehidagaa.Bx.keep {w w' : World} {b : Nat} {cs : Array Value} {T : Nat} (h : Bx w b cs T) (hb : Below w.heap.size w w') : Bx w' b cs T := (hb.block b h.lt).trans h
theorem bdrew {B : Nat} {a w : World} (h : Below B a w) (n : Nat) : Below B a (w.drewN n) := ⟨h.os, h.tape, h.output, h.size, h.block⟩
theorem inn_lo {n a b : Int} (h : ¬ a ≤ n) : inn n a b = false := by
  unfold inn; rw [decide_eq_false h]; rfl
theorem inn_hi {n a b : Int} (h : a ≤ n) : inn n a b = decide (n ≤ b) := by
  unfold inn; rw [decide_eq_true h]; rfl
theorem rin (n a b : Int) (g : Bool) (h : inn n a b = g) (w : World) : Calls Try.prog 50 #[.int .i64 n, .int .i64 a, .int .i64 b] w (BP g w) := by
  by_cases h0 : a ≤ n
  · have H : Hid (decide (n ≤ b) = g) := by unfold Hid; rw [← h, inn_hi h0]
    clear h
    go_enter Try.func50, Try.ntmps50
    go_wp2_with fail
    go_ret
    exact BP.mk H.out
  · have H : Hid (false = g) := by unfold Hid; rw [← h, inn_lo h0]
    clear h
    go_enter Try.func50, Try.ntmps50
    go_wp2_with fail
    go_ret
    exact BP.mk H.out
theorem ramount (n : Int) (g : Bool) (h : inn n 1 1125899906842624 = g) (w : World) : Calls Try.prog 51 #[.int .i64 n] w (BP g w) := by
  by_cases h0 : (1 : Int) ≤ n
  · have H : Hid (decide (n ≤ 1125899906842624) = g) := by unfold Hid; rw [← h, inn_hi h0]
    clear h
    go_enter Try.func51, Try.ntmps51
    go_wp2_with fail
    go_ret
    exact BP.mk H.out
  · have H : Hid (false = g) := by unfold Hid; rw [← h, inn_lo h0]
    clear h
    go_enter Try.func51, Try.ntmps51
    go_wp2_with fail
    go_ret
    exact BP.mk H.out
theorem toL (l : List UInt8) : (⟨l.toArray⟩ : ByteArray).toList = l := by
  have : (⟨l.toArray⟩ : ByteArray).toList = (⟨l.toArray⟩ : ByteArray).data.toList := ByteArray.toList_eq _
  rw [this]
structure Cks where
  cu : List UInt8 → Bool
def C0 : Cks := { cu := fun s => decide (N5.Cur s) }
theorem xcur (l : List UInt8) (g : Bool) (h : C0.cu l = g) (w : World) : Calls Try.prog 76 #[.string ⟨l.toArray⟩] w (BP g w) := by
  refine (N5.xCur ⟨l.toArray⟩ w).mono ?_
  rintro e w2 ⟨rfl, rfl⟩
  have h1 : decide (N5.Cur l) = g := h
  exact ⟨by simp only [toL]; rw [h1], rfl⟩
theorem rcur (l : List UInt8) (g : Bool) (h : C0.cu l = g) (w : World) : Calls Try.prog 52 #[.string ⟨l.toArray⟩] w (BP g w) := by
  refine (N5.rCur ⟨l.toArray⟩ w).mono ?_
  rintro e w2 ⟨rfl, rfl⟩
  have h1 : decide (N5.Cur l) = g := h
  exact ⟨by simp only [toL]; rw [h1], rfl⟩
/-- a value, and memory of its own -/
def KP (v : Value) (w : World) (e : Ending) (w' : World) : Prop := e = .returned v ∧ Hid (Below w.heap.size w w')
theorem below_a (w : World) (o : Obj) : Below w.heap.size w (w.alloc o) := (Below.refl _ w).alloc (Nat.le_refl _) _
/-- numbers that a slice has, below B -/
def Ins (B : Nat) (w : World) (a : Option Addr) (xs : List Int) : Prop := 0 < xs.length → ∃ b off, a = some ⟨b, off, none⟩ ∧ b < B ∧ ∀ j (h : j < xs.length), w.cell? ⟨b, off + j, none⟩ = some (.int .i64 xs[j])
theorem Ins.keep {B : Nat} {w w' : World} {a : Option Addr} {xs : List Int} (h : Ins B w a xs) (hb : Below B w w') : Ins B w' a xs := fun h0 => by
  obtain ⟨b, off, rfl, hB, hc⟩ := h h0
  exact ⟨b, off, rfl, hB, fun j hj => (hb.cell (by exact hB)).trans (hc j hj)⟩
theorem Ins.mono {B C : Nat} {w : World} {a : Option Addr} {xs : List Int} (h : Ins B w a xs) (hb : B ≤ C) : Ins C w a xs := fun h0 => by
  obtain ⟨b, off, rfl, hB, hc⟩ := h h0
  exact ⟨b, off, rfl, Nat.lt_of_lt_of_le hB hb, hc⟩
def Cts (B : Nat) (w : World) (a : Option Addr) (xs : List Ct) : Prop := 0 < xs.length → ∃ b off, a = some ⟨b, off, none⟩ ∧ b < B ∧ ∀ j (h : j < xs.length), w.cell? ⟨b, off + j * 3, none⟩ = some (.int .i64 xs[j].d) ∧ w.cell? ⟨b, off + j * 3 + 1, none⟩ = some (.int .i64 xs[j].r) ∧ w.cell? ⟨b, off + j * 3 + 2, none⟩ = some (.int .i64 xs[j].c)
theorem Cts.keep {B : Nat} {w w' : World} {a : Option Addr} {xs : List Ct} (h : Cts B w a xs) (hb : Below B w w') : Cts B w' a xs := fun h0 => by
  obtain ⟨b, off, rfl, hB, hc⟩ := h h0
  exact ⟨b, off, rfl, hB, fun j hj => ⟨(hb.cell (by exact hB)).trans (hc j hj).1, (hb.cell (by exact hB)).trans (hc j hj).2.1, (hb.cell (by exact hB)).trans (hc j hj).2.2⟩⟩
theorem Cts.mono {B C : Nat} {w : World} {a : Option Addr} {xs : List Ct} (h : Cts B w a xs) (hb : B ≤ C) : Cts C w a xs := fun h0 => by
  obtain ⟨b, off, rfl, hB, hc⟩ := h h0
  exact ⟨b, off, rfl, Nat.lt_of_lt_of_le hB hb, hc⟩
theorem KP.mk {v u : Value} {w w' : World} (h : u = v) (hb : Below w.heap.size w w') : KP v w (.returned u) w' := ⟨by rw [h], hb⟩
theorem drop_at' {α : Type} {l : List α} {k : Nat} (h : k < l.length) : l.drop k = l[k] :: l.drop (k + 1) := List.drop_eq_getElem_cons h
theorem all_at {α : Type} {p : α → Bool} {l : List α} {k : Nat} (h : k < l.length) : (l.drop k).all p = (p l[k] && (l.drop (k + 1)).all p) := by
  rw [drop_at' h, List.all_cons]
/-- the one ahead -/
def ah {α : Type} (xs : List α) : Nat → Option α
  | 0 => none
  | k + 1 => xs[k]?
theorem barB_at {xs : List Int} {k : Nat} (h : k < xs.length) : barB (ah xs k) (xs.drop k) = (inn xs[k] 0 9999 && (baGo (ah xs k) xs[k] && barB (ah xs (k + 1)) (xs.drop (k + 1)))) := by
  rw [drop_at' h]
  show (_ && (_ && barB (some xs[k]) _)) = _
  rw [show ah xs (k + 1) = some xs[k] from List.getElem?_eq_getElem h]
end Go.Proofs.Ytheikjjehidagaa.H5.N14
