/- layer 13: Get, Price, Value, Total of the program's -/
import Derived.Test.YtheikjjehidagaaEK
import Derived.WalkKit
import Derived.ProofKit
import Derived.Handy
import Derived.WalkLawsBesides
import Derived.WalkSpells
import Derived.BigQuiet
import Derived.BigCall
import Derived.Deep.QuietTactic
import Derived.Deep.Light
import Derived.Deep.OwnRows
import Derived.Laws.AppendOwnNone
import Derived.Laws.Strings3
import Derived.Laws.RangeAny
import Derived.Deep.RegionWith
import Derived.Lib.BitFns
import Derived.Lib.Walk
import Derived.Lib.Strings
import Derived.Lib.OthersKept
import Derived.Deep.CutBlock
import Derived.Deep.DeepCutAuto
import Derived.Deep.LoopGhost
import Derived.Deep.RegionHeld3
import Derived.Lib.SmallJoins
import Derived.Maps.AppendAt
import Derived.Laws.IdiomStrings
import Derived.Lib.AppendZeros
import Derived.Deep.WholeRow
import Derived.Laws.BitsAllLaws
import Derived.Lib.ConvBytes
import Derived.Deep.RegionLaw
import Derived.Maps.OwnSet
import Derived.Maps.OwnOps
import Derived.Maps.RangeWalk
import Derived.Maps.Ext
import Derived.DeepKeys4
import Derived.Laws.StructEq
import Derived.Deep.MidRow
import Derived.Lib.Bytealg
import Derived.Lib.Overlaps
import Derived.Lib.AppendZerosOnto
import Derived.Laws.MakeOwn
namespace Go.Proofs.Ytheikjjehidagaa.H5
open Go.RowKit
set_option linter.unusedVariables false
set_option linter.unusedSimpArgs false
open Num
set_option maxRecDepth 20000
theorem res_cell2 {P : Program} (fn : Func) (tmps : Array Value) (a t b : Nat) (ad : Addr) (v u : Value) (w : World) (hf : fn.results = #[.cell a t, .tmp b]) (ht : tmps.getD a undef = .pointer (some ad)) (hu : tmps.getD b undef = u) (hl : (loadVar t ad).run P w = .ok v w) : (results fn tmps).run P w = .ok (.tuple #[v, u]) w := by
  have ht2 : tmps[a]?.getD undef = .pointer (some ad) := by simpa using ht
  have hu2 : tmps[b]?.getD undef = u := by simpa using hu
  simp [results, hf, ht2, hu2, asAddr, hl]
def GtP (v0 v1 v2 v3 v4 : Value) (b : Bool) (w : World) (e : Ending) (w' : World) : Prop := e = .returned (.tuple #[.agg #[v0, v1, v2, v3, v4], .bool b]) ∧ Below w.heap.size w w'
/-- find, from a world on -/
def FnC (p : Option Addr) (n : ByteArray) (k : Nat) (b : Bool) (w : World) : Prop := ∀ w', Below w.heap.size w w' → Calls Try.prog 55 #[.pointer p, .string n] w' (FdP k b w')
set_option maxHeartbeats 4000000 in
theorem xget_no {p : Option Addr} {n : ByteArray} {k : Nat} (w : World) (hf : FnC p n k false w) : Calls Try.prog 85 #[.pointer p, .string n] w (GtP (.string ⟨#[]⟩) (.int .i64 0) (.int .i64 0) (.int .i64 0) (.string ⟨#[]⟩) false w) := by
  have HF : Hid (FnC p n k false w) := hf
  have hb0 : ∀ y, Below w.heap.size w (w.alloc y) := fun y => (Below.refl _ w).alloc (Nat.le_refl _) _
  have HC : Hid (Calls Try.prog 55 #[.pointer p, .string n] (w.alloc (.cells #[.string ⟨#[]⟩, .int .i64 0, .int .i64 0, .int .i64 0, .string ⟨#[]⟩] 45)) fun e w' => e = .returned (.tuple #[.int .i64 k, .bool false]) ∧ Hid (Bx w' w.heap.size #[.string ⟨#[]⟩, .int .i64 0, .int .i64 0, .int .i64 0, .string ⟨#[]⟩] 45 ∧ Below w.heap.size w w')) := (HF.out _ (hb0 _)).mono fun e w' hh => ⟨hh.1, (Bx.new w _ _).below hh.2 (Bx.new w _ _).lt, (hb0 _).trans (hh.2.mono (hb0 _).size)⟩
  clear hf HF hb0
  go_enter Try.func85, Try.ntmps85
  go_wp2_with (go_at_call 55; refine HC.out.mono ?_; clear HC; rintro e w1 ⟨rfl, HZ⟩; have c0 : w1.cell? ⟨w.heap.size, 0, none⟩ = some (.string ⟨#[]⟩) := HZ.out.1.cell 0; have c1 : w1.cell? ⟨w.heap.size, 1, none⟩ = some (.int .i64 0) := HZ.out.1.cell 1; have c2 : w1.cell? ⟨w.heap.size, 2, none⟩ = some (.int .i64 0) := HZ.out.1.cell 2; have c3 : w1.cell? ⟨w.heap.size, 3, none⟩ = some (.int .i64 0) := HZ.out.1.cell 3; have c4 : w1.cell? ⟨w.heap.size, 4, none⟩ = some (.string ⟨#[]⟩) := HZ.out.1.cell 4; have f0 : w1.frozen? ⟨w.heap.size, 0, none⟩ = false := HZ.out.1.froz 0; have f1 : w1.frozen? ⟨w.heap.size, 1, none⟩ = false := HZ.out.1.froz 1; have f2 : w1.frozen? ⟨w.heap.size, 2, none⟩ = false := HZ.out.1.froz 2; have f3 : w1.frozen? ⟨w.heap.size, 3, none⟩ = false := HZ.out.1.froz 3; have f4 : w1.frozen? ⟨w.heap.size, 4, none⟩ = false := HZ.out.1.froz 4)
  have HX := ((((HZ.out.1.setc 0 (.string ⟨#[]⟩)).setc 1 (.int .i64 0)).setc 2 (.int .i64 0)).setc 3 (.int .i64 0)).setc 4 (.string ⟨#[]⟩)
  refine bodyPost_ret (res_cell2 _ _ 4 45 5 _ _ _ _ rfl rfl rfl (res27 HX)) rfl ?_
  exact ⟨rfl, ((((HZ.out.2.setCell (p := ⟨w.heap.size, 0, none⟩) (Nat.le_refl _) _).setCell (p := ⟨w.heap.size, 1, none⟩) (Nat.le_refl _) _).setCell (p := ⟨w.heap.size, 2, none⟩) (Nat.le_refl _) _).setCell (p := ⟨w.heap.size, 3, none⟩) (Nat.le_refl _) _).setCell (p := ⟨w.heap.size, 4, none⟩) (Nat.le_refl _) _⟩
theorem Bk.fnc {B : Nat} {w : World} {q : Nat} {v : Value} {L : List Kn} (h : Bk B w q v L) (g : Num.Good L) (n : ByteArray) : FnC (some ⟨q, 0, none⟩) n (pos L n.toList) (has L n.toList) w := fun w' hb => (h.below hb).find g n
set_option maxHeartbeats 4000000 in
theorem xget_yes {B : Nat} {w : World} {q : Nat} {v : Value} {L : List Kn} (h : Bk B w q v L) (g : Num.Good L) (n : ByteArray) (hh : has L n.toList = true) (hp : pos L n.toList < L.length) :
    Calls Try.prog 85 #[.pointer (some ⟨q, 0, none⟩), .string n] w (GtP (.string L[pos L n.toList].a.i) (.int .i64 L[pos L n.toList].a.iss) (.int .i64 L[pos L n.toList].a.rat) (.int .i64 L[pos L n.toList].a.mat) (.string L[pos L n.toList].a.c) true w) := by
  obtain ⟨ra, rc, rfl, hrc, hrw⟩ := h.read
  obtain ⟨blk, off, rfl, hbl, hcs⟩ := hrw (by omega)
  have f1 := g.all L[pos L n.toList] (List.getElem_mem hp)
  have hb0 : ∀ y, Below w.heap.size w (w.alloc y) := fun y => (Below.refl _ w).alloc (Nat.le_refl _) _
  have hcells := fun (w' : World) (hb : Below w.heap.size w w') => Rw.at6 hcs hb hbl hp
  have HP : Hid (∀ w2, Calls Try.prog 57 #[.agg #[.string L[pos L n.toList].a.i, .int .i64 L[pos L n.toList].a.iss, .int .i64 L[pos L n.toList].a.rat, .int .i64 L[pos L n.toList].a.mat, .string L[pos L n.toList].a.c]] w2 (ApP (.string L[pos L n.toList].a.i) (.int .i64 L[pos L n.toList].a.iss) (.int .i64 L[pos L n.toList].a.rat) (.int .i64 L[pos L n.toList].a.mat) (.string L[pos L n.toList].a.c) w2)) := fun w2 => xapart _ _ _ _ _ (by have := f1.i; omega) (by have := f1.c; omega) w2
  have HFC := h.fnc g n
  rw [hh] at HFC
  have hpz : (pos L n.toList : Int) < (L.length : Int) := by omega
  generalize L[pos L n.toList] = x at *
  obtain ⟨⟨xi, xa, xb, xc, xs⟩, xp⟩ := x
  simp only at *
  generalize pos L n.toList = P at *
  have HC : Hid (Calls Try.prog 55 #[.pointer (some ⟨q, 0, none⟩), .string n] (w.alloc (.cells #[.string ⟨#[]⟩, .int .i64 0, .int .i64 0, .int .i64 0, .string ⟨#[]⟩] 45)) fun e w' => e = .returned (.tuple #[.int .i64 P, .bool true]) ∧ w'.cell? ⟨q, 1, none⟩ = some (.slice (some ⟨blk, off, none⟩) L.length rc) ∧ w'.cell? ⟨blk, off + P * 6, none⟩ = some (.string xi) ∧ w'.cell? ⟨blk, off + P * 6 + 1, none⟩ = some (.int .i64 xa) ∧ w'.cell? ⟨blk, off + P * 6 + 2, none⟩ = some (.int .i64 xb) ∧ w'.cell? ⟨blk, off + P * 6 + 3, none⟩ = some (.int .i64 xc) ∧ w'.cell? ⟨blk, off + P * 6 + 4, none⟩ = some (.string xs) ∧ Hid (Bx w' w.heap.size #[.string ⟨#[]⟩, .int .i64 0, .int .i64 0, .int .i64 0, .string ⟨#[]⟩] 45 ∧ Below w.heap.size w w')) := (HFC _ (hb0 _)).mono fun e w' hh => by
    have hb := (hb0 (.cells #[.string ⟨#[]⟩, .int .i64 0, .int .i64 0, .int .i64 0, .string ⟨#[]⟩] 45)).trans (hh.2.mono (hb0 _).size)
    obtain ⟨c0, c1, c2, c3, c4, c5⟩ := hcells w' hb
    exact ⟨hh.1, (h.b.below hb h.b.lt).cell 1, c0, c1, c2, c3, c4, (Bx.new w _ _).below hh.2 (Bx.new w _ _).lt, hb⟩
  clear h g hh hrc hrw hcs f1 hb0 hcells HFC hp hbl
  go_enter Try.func85, Try.ntmps85
  go_wp2_with (first | (go_at_call 55; refine HC.out.mono ?_; clear HC; rintro e w1 ⟨rfl, k1, k2, k3, k4, k5, k6, HZ⟩) | (go_at_call 57; refine (HP.out _).mono ?_; clear HP; rintro e w2 ⟨rfl, HB2⟩; have HX2 : Hid (Bx w2 w.heap.size #[.string ⟨#[]⟩, .int .i64 0, .int .i64 0, .int .i64 0, .string ⟨#[]⟩] 45) := HZ.out.1.below HB2 HZ.out.1.lt; have HB3 : Hid (Below w.heap.size w w2) := HZ.out.2.trans (HB2.mono HZ.out.2.size); have c0 : w2.cell? ⟨w.heap.size, 0, none⟩ = some (.string ⟨#[]⟩) := HX2.out.cell 0; have c1 : w2.cell? ⟨w.heap.size, 1, none⟩ = some (.int .i64 0) := HX2.out.cell 1; have c2 : w2.cell? ⟨w.heap.size, 2, none⟩ = some (.int .i64 0) := HX2.out.cell 2; have c3 : w2.cell? ⟨w.heap.size, 3, none⟩ = some (.int .i64 0) := HX2.out.cell 3; have c4 : w2.cell? ⟨w.heap.size, 4, none⟩ = some (.string ⟨#[]⟩) := HX2.out.cell 4; have f0 : w2.frozen? ⟨w.heap.size, 0, none⟩ = false := HX2.out.froz 0; have f1 : w2.frozen? ⟨w.heap.size, 1, none⟩ = false := HX2.out.froz 1; have f2 : w2.frozen? ⟨w.heap.size, 2, none⟩ = false := HX2.out.froz 2; have f3 : w2.frozen? ⟨w.heap.size, 3, none⟩ = false := HX2.out.froz 3; have f4 : w2.frozen? ⟨w.heap.size, 4, none⟩ = false := HX2.out.froz 4))
  have HX := ((((HX2.out.setc 0 (.string xi)).setc 1 (.int .i64 xa)).setc 2 (.int .i64 xb)).setc 3 (.int .i64 xc)).setc 4 (.string xs)
  refine bodyPost_ret (res_cell2 _ _ 4 45 5 _ _ _ _ rfl rfl rfl (res27 HX)) rfl ?_
  exact ⟨rfl, ((((HB3.out.setCell (p := ⟨w.heap.size, 0, none⟩) (Nat.le_refl _) _).setCell (p := ⟨w.heap.size, 1, none⟩) (Nat.le_refl _) _).setCell (p := ⟨w.heap.size, 2, none⟩) (Nat.le_refl _) _).setCell (p := ⟨w.heap.size, 3, none⟩) (Nat.le_refl _) _).setCell (p := ⟨w.heap.size, 4, none⟩) (Nat.le_refl _) _⟩
def PcP (n : Int) (b : Bool) (w : World) (e : Ending) (w' : World) : Prop := e = .returned (.tuple #[.int .i64 n, .bool b]) ∧ Below w.heap.size w w'
theorem xprice_no {p : Option Addr} {n : ByteArray} {k : Nat} (w : World) (hf : FnC p n k false w) : Calls Try.prog 86 #[.pointer p, .string n] w (PcP 0 false w) := by
  have HC : Hid (Calls Try.prog 55 #[.pointer p, .string n] w (FdP k false w)) := hf w (Below.refl _ _)
  clear hf
  go_enter Try.func86, Try.ntmps86
  go_wp2_with (go_at_call 55; refine HC.out.mono ?_; clear HC; rintro e w1 ⟨rfl, HB⟩)
  go_ret2
  exact ⟨rfl, HB⟩
/-- the price of what is there -/
def pri (L : List Kn) (n : List UInt8) : Int := match L[pos L n]? with | some k => k.p | none => 0
theorem pri_at {L : List Kn} {n : List UInt8} (hp : pos L n < L.length) : pri L n = L[pos L n].p := by unfold pri; rw [List.getElem?_eq_getElem hp]
theorem xprice_yes {B : Nat} {w : World} {q : Nat} {v : Value} {L : List Kn} (h : Bk B w q v L) (g : Num.Good L) (n : ByteArray) (hh : has L n.toList = true) (hp : pos L n.toList < L.length) :
    Calls Try.prog 86 #[.pointer (some ⟨q, 0, none⟩), .string n] w (PcP (pri L n.toList) (decide (pri L n.toList ≠ 0)) w) := by
  obtain ⟨ra, rc, rfl, hrc, hrw⟩ := h.read
  obtain ⟨blk, off, rfl, hbl, hcs⟩ := hrw (by omega)
  have hcells := fun (w' : World) (hb : Below w.heap.size w w') => (Rw.at6 hcs hb hbl hp).2.2.2.2.2
  have HFC := h.find g n
  rw [hh] at HFC
  have hpz : (pos L n.toList : Int) < (L.length : Int) := by omega
  rw [pri_at hp]
  generalize L[pos L n.toList].p = xp at *
  generalize pos L n.toList = P at *
  have HC : Hid (Calls Try.prog 55 #[.pointer (some ⟨q, 0, none⟩), .string n] w fun e w' => e = .returned (.tuple #[.int .i64 P, .bool true]) ∧ w'.cell? ⟨q, 1, none⟩ = some (.slice (some ⟨blk, off, none⟩) L.length rc) ∧ w'.cell? ⟨blk, off + P * 6 + 5, none⟩ = some (.int .i64 xp) ∧ Hid (Below w.heap.size w w')) := HFC.mono fun e w' hh => ⟨hh.1, (h.b.below hh.2 h.b.lt).cell 1, hcells w' hh.2, hh.2⟩
  clear h g hh hrc hrw hcs hcells HFC hp hbl
  by_cases hx : xp = 0
  · subst hx
    go_enter Try.func86, Try.ntmps86
    go_wp2_with (go_at_call 55; refine HC.out.mono ?_; clear HC; rintro e w1 ⟨rfl, k1, k2, HB⟩)
    go_ret2
    exact ⟨rfl, HB.out⟩
  · have hd : decide (xp ≠ 0) = true := decide_eq_true hx
    have hz : (xp == 0) = false := by simp [hx]
    rw [hd]
    clear hd hx
    go_enter Try.func86, Try.ntmps86
    go_wp2_with (go_at_call 55; refine HC.out.mono ?_; clear HC; rintro e w1 ⟨rfl, k1, k2, HB⟩)
    go_ret2
    exact ⟨rfl, HB.out⟩
end Go.Proofs.Ytheikjjehidagaa.H5
