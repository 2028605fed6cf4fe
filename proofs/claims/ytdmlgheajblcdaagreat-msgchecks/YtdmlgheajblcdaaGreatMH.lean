/- Layer 10: the checks of the layers below, as this layer's letters. -/
import Derived.Test.YtdmlgheajblcdaaGreatMG
import Derived.Test.YtdmlgheajblcdaaGreatFZ
import Derived.Test.YtdmlgheajblcdaaGreatVK
import Derived.WalkKit
import Derived.ProofKit
import Derived.Handy
import Derived.WalkLawsBesides
import Derived.WalkSpells
import Derived.BigQuiet
import Derived.BigCall
import Derived.Deep.QuietTactic
import Derived.Deep.Light
import Derived.Deep.OwnRows
import Derived.Laws.AppendOwnNone
import Derived.Laws.Strings3
import Derived.Laws.RangeAny
import Derived.Deep.RegionWith
import Derived.Lib.BitFns
import Derived.Lib.Walk
import Derived.Lib.Strings
import Derived.Lib.OthersKept
import Derived.Deep.CutBlock
import Derived.Deep.DeepCutAuto
import Derived.Deep.LoopGhost
import Derived.Deep.RegionHeld3
import Derived.Lib.SmallJoins
import Derived.Maps.AppendAt
import Derived.Laws.IdiomStrings
import Derived.Lib.AppendZeros
import Derived.Deep.WholeRow
import Derived.Laws.BitsAllLaws
import Derived.Lib.ConvBytes
import Derived.Deep.RegionLaw
namespace Go.Proofs.YtdmlgheajblcdaaGreat
open Go.RowKit
set_option linter.unusedVariables false
set_option linter.unusedSimpArgs false
set_option maxRecDepth 20000
theorem toL (l : List UInt8) : (⟨l.toArray⟩ : ByteArray).toList = l := by
  have : (⟨l.toArray⟩ : ByteArray).toList = (⟨l.toArray⟩ : ByteArray).data.toList := ByteArray.toList_eq _
  rw [this]
def C0 : Cks := { nm := fun s => (N4.chk s).2, is := N5.chk, cu := fun s => decide (N5.Cur s), ast := fun a => N5.astE (N5.chk a.i) (N5.Cur a.cur) a.iss a.rat a.mat, gd := fun n => inn n 0 200000, le := fun a b => Op.bytesLess a b || a == b }
theorem xcur (l : List UInt8) (g : Bool) (h : C0.cu l = g) (w : World) : Calls Tryz.prog 42 #[.string ⟨l.toArray⟩] w (BP g w) := by
  refine (N5.xCur ⟨l.toArray⟩ w).mono ?_
  rintro e w2 ⟨rfl, rfl⟩
  have h1 : decide (N5.Cur l) = g := h
  exact ⟨by simp only [toL]; rw [h1], rfl⟩
theorem rcur (l : List UInt8) (g : Bool) (h : C0.cu l = g) (w : World) : Calls Tryz.prog 34 #[.string ⟨l.toArray⟩] w (BP g w) := by
  refine (N5.rCur ⟨l.toArray⟩ w).mono ?_
  rintro e w2 ⟨rfl, rfl⟩
  have h1 : decide (N5.Cur l) = g := h
  exact ⟨by simp only [toL]; rw [h1], rfl⟩
theorem xisin (l : List UInt8) (hs : l.length ≤ 9223372036854775807) (g : Nat) (h : C0.is l = g) (w : World) : Calls Tryz.prog 151 #[.string ⟨l.toArray⟩] w (NP .i64 g w) := by
  refine (N5.xCheck ⟨l.toArray⟩ hs w).mono ?_
  rintro e w2 ⟨rfl, rfl⟩
  subst h
  exact ⟨rfl, rfl⟩
/-- a number, and memory of its own -/
def NB (n : Int) (w : World) (e : Ending) (w' : World) : Prop := e = .returned (.int .i64 n) ∧ Hid (Below w.heap.size w w')
theorem NB.mk {n m : Int} {w w' : World} (h : m = n) (hb : Below w.heap.size w w') : NB n w (.returned (.int .i64 m)) w' := ⟨by rw [h], hb⟩
theorem risin (l : List UInt8) (g : Nat) (h : C0.is l = g) (w : World) : Calls Tryz.prog 70 #[.string ⟨l.toArray⟩] w (NB g w) := by
  refine (N5.rCheck ⟨l.toArray⟩ w).mono ?_
  rintro e w2 ⟨rfl, hb⟩
  subst h
  exact ⟨rfl, hb⟩
def TB (a b : Nat) (w : World) (e : Ending) (w' : World) : Prop := e = .returned (.tuple #[.int .i64 a, .int .i64 b]) ∧ Hid (Below w.heap.size w w')
theorem xname (l : List UInt8) (hs : l.length ≤ 9223372036854775807) (g : Nat) (h : C0.nm l = g) (w : World) : Calls Tryz.prog 167 #[.string ⟨l.toArray⟩] w (TB (N4.chk l).1 g w) := by
  refine (N4.xcheck ⟨l.toArray⟩ hs w).mono ?_
  rintro e w2 ⟨rfl, hb⟩
  subst h
  exact ⟨rfl, hb⟩
theorem rname (l : List UInt8) (hs : l.length ≤ 9223372036854775807) (g : Nat) (h : C0.nm l = g) (w : World) : Calls Tryz.prog 72 #[.string ⟨l.toArray⟩] w (TB (N4.chk l).1 g w) := by
  refine (N4.rcheck ⟨l.toArray⟩ hs w).mono ?_
  rintro e w2 ⟨rfl, hb⟩
  subst h
  exact ⟨rfl, hb⟩
theorem xasset (a : Ast) (hs : a.i.length ≤ 9223372036854775807) (g : Nat) (h : C0.ast a = g) (w : World) : Calls Tryz.prog 176 #[.agg #[.string ⟨a.i.toArray⟩, .int .i64 a.iss, .int .i64 a.rat, .int .i64 a.mat, .string ⟨a.cur.toArray⟩]] w (NB g w) := by
  refine (N5.xAsset ⟨a.i.toArray⟩ ⟨a.cur.toArray⟩ a.iss a.rat a.mat hs w).mono ?_
  rintro e w2 ⟨rfl, hb⟩
  subst h
  exact ⟨by simp only [toL]; rfl, hb⟩
theorem rasset (a : Ast) (g : Nat) (h : C0.ast a = g) (w : World) : Calls Tryz.prog 31 #[.agg #[.string ⟨a.i.toArray⟩, .int .i64 a.iss, .int .i64 a.rat, .int .i64 a.mat, .string ⟨a.cur.toArray⟩]] w (NB g w) := by
  refine (N5.rAsset ⟨a.i.toArray⟩ ⟨a.cur.toArray⟩ a.iss a.rat a.mat w).mono ?_
  rintro e w2 ⟨rfl, hb⟩
  subst h
  exact ⟨by simp only [toL]; rfl, hb⟩
theorem C0_ok : C0.Ok where
  nm := fun s h => by
    have h1 : (N4.chk s).2 = 0 := h
    unfold N4.chk at h1
    split at h1
    · cases h1
    · omega
  is := fun s h => by
    have h1 : N5.chk s = 0 := h
    have h2 := N5.shp_iff.1 (N5.chk_ok.1 h1).1
    omega
  cu := fun s h => by
    have h1 : N5.Cur s := of_decide_eq_true h
    rcases h1 with h | h | h | h | h | h | h | h <;> (rw [h]; decide)
  ast := fun a h => by
    have h1 : N5.astE (N5.chk a.i) (N5.Cur a.cur) a.iss a.rat a.mat = 0 := h
    unfold N5.astE at h1
    split at h1
    · omega
    · rename_i h2
      split at h1
      · cases h1
      · rename_i h3
        have h4 : N5.chk a.i = 0 := by omega
        have h5 := N5.shp_iff.1 (N5.chk_ok.1 h4).1
        have h6 : N5.Cur a.cur := Classical.not_not.1 h3
        refine ⟨by omega, ?_⟩
        rcases h6 with h | h | h | h | h | h | h | h <;> (rw [h]; decide)
end Go.Proofs.YtdmlgheajblcdaaGreat
