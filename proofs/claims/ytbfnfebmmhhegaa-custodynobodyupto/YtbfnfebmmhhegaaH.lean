/- layer 11: entries in memory; entries taken back -/
import Derived.Test.YtbfnfebmmhhegaaF
import Derived.WalkKit
import Derived.ProofKit
import Derived.Handy
import Derived.WalkLawsBesides
import Derived.WalkSpells
import Derived.BigQuiet
import Derived.BigCall
import Derived.Deep.QuietTactic
import Derived.Deep.Light
import Derived.Deep.OwnRows
import Derived.Laws.AppendOwnNone
import Derived.Laws.Strings3
import Derived.Laws.RangeAny
import Derived.Deep.RegionWith
import Derived.Lib.BitFns
import Derived.Lib.Walk
import Derived.Lib.Strings
import Derived.Lib.OthersKept
import Derived.Deep.CutBlock
import Derived.Deep.DeepCutAuto
import Derived.Deep.LoopGhost
import Derived.Deep.RegionHeld3
import Derived.Lib.SmallJoins
import Derived.Maps.AppendAt
import Derived.Laws.IdiomStrings
import Derived.Lib.AppendZeros
import Derived.Deep.WholeRow
import Derived.Laws.BitsAllLaws
import Derived.Lib.ConvBytes
import Derived.Deep.RegionLaw
import Derived.Maps.OwnSet
import Derived.Maps.OwnOps
import Derived.Maps.RangeWalk
import Derived.Maps.Ext
import Derived.DeepKeys4
import Derived.Laws.StructEq
namespace Go.Proofs.Ytbfnfebmmhhegaa
open Go.RowKit
set_option linter.unusedVariables false
set_option linter.unusedSimpArgs false
structure Ex where
  o : Int
  b : Int
  s : ByteArray
  o2 : Int
  b2 : Int
  s2 : ByteArray
  n : Int
def Ex.ent (x : Ex) : Num.Ent := ((x.o, x.b, x.s.toList), (x.o2, x.b2, x.s2.toList), x.n)
def Ex.cs (x : Ex) : Array Value := #[.int .i64 x.o, .int .i64 x.b, .string x.s, .int .i64 x.o2, .int .i64 x.b2, .string x.s2, .int .i64 x.n]
structure Okx (x : Ex) : Prop where
  a1 : 1 ≤ x.n
  a2 : x.n ≤ 1125899906842624
  f : Num.wr (x.o, x.b, x.s.toList) = 0
  t : Num.wr (x.o2, x.b2, x.s2.toList) = 0
abbrev Ok7 := { x : Ex // Okx x }
/-- entries that are turned about, one behind the other -/
def undo : List Num.Bal → List Ok7 → List Num.Bal
  | L, [] => L
  | L, x :: r => undo (Num.mv L (x.1.o2, x.1.b2, x.1.s2.toList) (x.1.o, x.1.b, x.1.s.toList) x.1.n) r
theorem undo_app : ∀ (L : List Num.Bal) (xs ys : List Ok7), undo L (xs ++ ys) = undo (undo L xs) ys
  | _, [], _ => rfl
  | L, x :: r, ys => by simp only [List.cons_append, undo]; exact undo_app _ r ys
theorem undo_snoc (L : List Num.Bal) (xs : List Ok7) (x : Ok7) : undo L (xs ++ [x]) = Num.mv (undo L xs) (x.1.o2, x.1.b2, x.1.s2.toList) (x.1.o, x.1.b, x.1.s.toList) x.1.n := by rw [undo_app]; rfl
theorem undo_len : ∀ (L : List Num.Bal) (xs : List Ok7), (undo L xs).length ≤ L.length + 2 * xs.length
  | _, [] => by simp [undo]
  | L, x :: r => by
    have h1 := undo_len (Num.mv L (x.1.o2, x.1.b2, x.1.s2.toList) (x.1.o, x.1.b, x.1.s.toList) x.1.n) r
    have h2 := Num.length_mv L (x.1.o2, x.1.b2, x.1.s2.toList) (x.1.o, x.1.b, x.1.s.toList) x.1.n
    simp only [undo, List.length_cons]
    omega
theorem undo_get : ∀ (L : List Num.Bal) (xs : List Ok7) (K : Int), (∀ a, -K ≤ Num.get L a ∧ Num.get L a ≤ K) → ∀ a, -(K + 1125899906842624 * xs.length) ≤ Num.get (undo L xs) a ∧ Num.get (undo L xs) a ≤ K + 1125899906842624 * xs.length
  | L, [], K, h, a => by have := h a; simp only [undo, List.length_nil]; omega
  | L, x :: r, K, h, a => by
    have h1 : ∀ a, -(K + 1125899906842624) ≤ Num.get (Num.mv L (x.1.o2, x.1.b2, x.1.s2.toList) (x.1.o, x.1.b, x.1.s.toList) x.1.n) a ∧ Num.get (Num.mv L (x.1.o2, x.1.b2, x.1.s2.toList) (x.1.o, x.1.b, x.1.s.toList) x.1.n) a ≤ K + 1125899906842624 := by
      intro a
      have := h a
      have e1 := x.2.a1
      have e2 := x.2.a2
      rw [Num.get_mv]
      split <;> split <;> omega
    have := undo_get _ r (K + 1125899906842624) h1 a
    simp only [undo, List.length_cons]
    omega
theorem undo_rev {L : List Num.Bal} (g : Num.Good L) : ∀ (n : Nat) (xs : List Ok7), xs.length = n → Num.whyf L (xs.map fun x => x.1.ent) = 0 → undo (Num.run L (xs.map fun x => x.1.ent)) xs.reverse = L
  | 0, xs, hn, _ => by
    obtain rfl := List.length_eq_zero_iff.1 hn
    rfl
  | n + 1, xs, hn, h => by
    obtain ⟨pre, e, rfl⟩ : ∃ pre e, xs = pre ++ [e] := by
      rcases List.eq_nil_or_concat xs with rfl | ⟨pre, e, he⟩
      · cases hn
      · exact ⟨pre, e, by simpa using he⟩
    rw [List.map_append] at h ⊢
    have hb := Num.snoc_back g h
    have h1 := Num.why_left L _ _ h
    rw [List.reverse_append, List.reverse_singleton]
    show undo (Num.mv (Num.run L (pre.map (fun x => x.1.ent) ++ [e.1.ent])) (e.1.o2, e.1.b2, e.1.s2.toList) (e.1.o, e.1.b, e.1.s.toList) e.1.n) pre.reverse = L
    have hb2 : Num.mv (Num.run L (pre.map (fun x => x.1.ent) ++ [e.1.ent])) (e.1.o2, e.1.b2, e.1.s2.toList) (e.1.o, e.1.b, e.1.s.toList) e.1.n = Num.run L (pre.map fun x => x.1.ent) := hb
    rw [hb2]
    exact undo_rev g n pre (by simpa using hn) h1
/-- all blocks below B but m stay -/
structure Kb (B m : Nat) (w w' : World) : Prop where
  os : w'.os = w.os
  tape : w'.tape = w.tape
  output : w'.output = w.output
  size : w.heap.size ≤ w'.heap.size
  block : ∀ k, k < B → k ≠ m → w'.heap[k]? = w.heap[k]?
theorem Kb.refl (B m : Nat) (w : World) : Kb B m w w := ⟨rfl, rfl, rfl, Nat.le_refl _, fun _ _ _ => rfl⟩
theorem Kb.trans {B m : Nat} {a b c : World} (h : Kb B m a b) (k : Kb B m b c) : Kb B m a c := ⟨k.os.trans h.os, k.tape.trans h.tape, k.output.trans h.output, Nat.le_trans h.size k.size, fun i h1 h2 => (k.block i h1 h2).trans (h.block i h1 h2)⟩
theorem Kb.of_grown {B m : Nat} {a b : World} {row : Option Nat} (h : a.grownBy b row) (hB : B ≤ a.heap.size) (hr : ∀ r, row = some r → B ≤ r ∨ r = m) : Kb B m a b :=
  ⟨h.os, h.tape, h.output, h.size, fun k h1 h2 => h.block k (by omega) (fun e => by rcases hr k e.symm with h3 | h3 <;> omega)⟩
theorem Kb.grown {m : Nat} {a b : World} (h : Kb a.heap.size m a b) : a.grownBy b (some m) := ⟨h.os, h.tape, h.output, h.size, fun k h1 h2 => h.block k h1 (fun e => h2 (by rw [e]))⟩
theorem Kb.cell {B m : Nat} {a b : World} (h : Kb B m a b) {p : Addr} (h1 : p.block < B) (h2 : p.block ≠ m) : b.cell? p = a.cell? p := World.cell?_of_block (h.block _ h1 h2)
theorem Kb.mono {B B' m : Nat} {a b : World} (h : Kb B m a b) (hB : B' ≤ B) : Kb B' m a b := ⟨h.os, h.tape, h.output, h.size, fun k h1 h2 => h.block k (by omega) h2⟩
theorem Kb.bx {B m g : Nat} {a b : World} {cs : Array Value} {T : Nat} (h : Kb B m a b) (k : Bx a g cs T) (h1 : g < B) (h2 : g ≠ m) : Bx b g cs T := (h.block g h1 h2).trans k
/-- a slice of entries, in a block below B that isn't m -/
def Es (B m : Nat) (w : World) (v : Value) (xs : List Ex) : Prop :=
  ∃ a cap, v = .slice a xs.length cap ∧ (0 < xs.length → ∃ blk off, a = some ⟨blk, off, none⟩ ∧ blk < B ∧ blk ≠ m ∧ ∀ i (h : i < xs.length), ∀ k, k < 7 → w.cell? ⟨blk, off + i * 7 + k, none⟩ = (xs[i].cs)[k]?)
theorem Es.keep {B m : Nat} {a b : World} {v : Value} {xs : List Ex} (h : Es B m a v xs) (k : Kb B m a b) : Es B m b v xs := by
  obtain ⟨p, cap, rfl, h1⟩ := h
  refine ⟨p, cap, rfl, fun h2 => ?_⟩
  obtain ⟨blk, off, rfl, h3, h4, h5⟩ := h1 h2
  exact ⟨blk, off, rfl, h3, h4, fun i hi j hj => (k.cell h3 h4).trans (h5 i hi j hj)⟩
end Go.Proofs.Ytbfnfebmmhhegaa
