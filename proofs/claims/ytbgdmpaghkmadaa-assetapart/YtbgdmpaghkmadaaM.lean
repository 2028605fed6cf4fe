/- layer 13: Get, Price, Value, Total of the program's -/
import Derived.Test.YtbgdmpaghkmadaaK
import Derived.WalkKit
import Derived.ProofKit
import Derived.Handy
import Derived.WalkLawsBesides
import Derived.WalkSpells
import Derived.BigQuiet
import Derived.BigCall
import Derived.Deep.QuietTactic
import Derived.Deep.Light
import Derived.Deep.OwnRows
import Derived.Laws.AppendOwnNone
import Derived.Laws.Strings3
import Derived.Laws.RangeAny
import Derived.Deep.RegionWith
import Derived.Lib.BitFns
import Derived.Lib.Walk
import Derived.Lib.Strings
import Derived.Lib.OthersKept
import Derived.Deep.CutBlock
import Derived.Deep.DeepCutAuto
import Derived.Deep.LoopGhost
import Derived.Deep.RegionHeld3
import Derived.Lib.SmallJoins
import Derived.Maps.AppendAt
import Derived.Laws.IdiomStrings
import Derived.Lib.AppendZeros
import Derived.Deep.WholeRow
import Derived.Laws.BitsAllLaws
import Derived.Lib.ConvBytes
import Derived.Deep.RegionLaw
import Derived.Maps.OwnSet
import Derived.Maps.OwnOps
import Derived.Maps.RangeWalk
import Derived.Maps.Ext
import Derived.DeepKeys4
import Derived.Laws.StructEq
import Derived.Deep.MidRow
import Derived.Lib.Bytealg
import Derived.Lib.Overlaps
import Derived.Lib.AppendZerosOnto
import Derived.Laws.MakeOwn
namespace Go.Proofs.Ytbgdmpaghkmadaa
open Go.RowKit
set_option linter.unusedVariables false
set_option linter.unusedSimpArgs false
open Num
set_option maxRecDepth 20000
theorem res_cell2 {P : Program} (fn : Func) (tmps : Array Value) (a t b : Nat) (ad : Addr) (v u : Value) (w : World) (hf : fn.results = #[.cell a t, .tmp b]) (ht : tmps.getD a undef = .pointer (some ad)) (hu : tmps.getD b undef = u) (hl : (loadVar t ad).run P w = .ok v w) : (results fn tmps).run P w = .ok (.tuple #[v, u]) w := by
  have ht2 : tmps[a]?.getD undef = .pointer (some ad) := by simpa using ht
  have hu2 : tmps[b]?.getD undef = u := by simpa using hu
  simp [results, hf, ht2, hu2, asAddr, hl]
def GtP (v0 v1 v2 v3 v4 : Value) (b : Bool) (w : World) (e : Ending) (w' : World) : Prop := e = .returned (.tuple #[.agg #[v0, v1, v2, v3, v4], .bool b]) ∧ Below w.heap.size w w'
/-- find, from a world on -/
def FnC (p : Option Addr) (n : ByteArray) (k : Nat) (b : Bool) (w : World) : Prop := ∀ w', Below w.heap.size w w' → Calls Try.prog 35 #[.pointer p, .string n] w' (FdP k b w')
set_option maxHeartbeats 4000000 in
theorem xget_no {p : Option Addr} {n : ByteArray} {k : Nat} (w : World) (hf : FnC p n k false w) : Calls Try.prog 15 #[.pointer p, .string n] w (GtP (.string ⟨#[]⟩) (.int .i64 0) (.int .i64 0) (.int .i64 0) (.string ⟨#[]⟩) false w) := by
  have HF : Hid (FnC p n k false w) := hf
  have hb0 : ∀ y, Below w.heap.size w (w.alloc y) := fun y => (Below.refl _ w).alloc (Nat.le_refl _) _
  have HC : Hid (Calls Try.prog 35 #[.pointer p, .string n] (w.alloc (.cells #[.string ⟨#[]⟩, .int .i64 0, .int .i64 0, .int .i64 0, .string ⟨#[]⟩] 27)) fun e w' => e = .returned (.tuple #[.int .i64 k, .bool false]) ∧ Hid (Bx w' w.heap.size #[.string ⟨#[]⟩, .int .i64 0, .int .i64 0, .int .i64 0, .string ⟨#[]⟩] 27 ∧ Below w.heap.size w w')) := (HF.out _ (hb0 _)).mono fun e w' hh => ⟨hh.1, (Bx.new w _ _).below hh.2 (Bx.new w _ _).lt, (hb0 _).trans (hh.2.mono (hb0 _).size)⟩
  clear hf HF hb0
  go_enter Try.func15, Try.ntmps15
  go_wp2_with (go_at_call 35; refine HC.out.mono ?_; clear HC; rintro e w1 ⟨rfl, HZ⟩; have c0 : w1.cell? ⟨w.heap.size, 0, none⟩ = some (.string ⟨#[]⟩) := HZ.out.1.cell 0; have c1 : w1.cell? ⟨w.heap.size, 1, none⟩ = some (.int .i64 0) := HZ.out.1.cell 1; have c2 : w1.cell? ⟨w.heap.size, 2, none⟩ = some (.int .i64 0) := HZ.out.1.cell 2; have c3 : w1.cell? ⟨w.heap.size, 3, none⟩ = some (.int .i64 0) := HZ.out.1.cell 3; have c4 : w1.cell? ⟨w.heap.size, 4, none⟩ = some (.string ⟨#[]⟩) := HZ.out.1.cell 4; have f0 : w1.frozen? ⟨w.heap.size, 0, none⟩ = false := HZ.out.1.froz 0; have f1 : w1.frozen? ⟨w.heap.size, 1, none⟩ = false := HZ.out.1.froz 1; have f2 : w1.frozen? ⟨w.heap.size, 2, none⟩ = false := HZ.out.1.froz 2; have f3 : w1.frozen? ⟨w.heap.size, 3, none⟩ = false := HZ.out.1.froz 3; have f4 : w1.frozen? ⟨w.heap.size, 4, none⟩ = false := HZ.out.1.froz 4)
  have HX := ((((HZ.out.1.setc 0 (.string ⟨#[]⟩)).setc 1 (.int .i64 0)).setc 2 (.int .i64 0)).setc 3 (.int .i64 0)).setc 4 (.string ⟨#[]⟩)
  refine bodyPost_ret (res_cell2 _ _ 4 27 5 _ _ _ _ rfl rfl rfl (res27 HX)) rfl ?_
  exact ⟨rfl, ((((HZ.out.2.setCell (p := ⟨w.heap.size, 0, none⟩) (Nat.le_refl _) _).setCell (p := ⟨w.heap.size, 1, none⟩) (Nat.le_refl _) _).setCell (p := ⟨w.heap.size, 2, none⟩) (Nat.le_refl _) _).setCell (p := ⟨w.heap.size, 3, none⟩) (Nat.le_refl _) _).setCell (p := ⟨w.heap.size, 4, none⟩) (Nat.le_refl _) _⟩
theorem Bk.fnc {B : Nat} {w : World} {q : Nat} {v : Value} {L : List Kn} (h : Bk B w q v L) (g : Num.Good L) (n : ByteArray) : FnC (some ⟨q, 0, none⟩) n (pos L n.toList) (has L n.toList) w := fun w' hb => (h.below hb).find g n
set_option maxHeartbeats 4000000 in
theorem xget_yes {B : Nat} {w : World} {q : Nat} {v : Value} {L : List Kn} (h : Bk B w q v L) (g : Num.Good L) (n : ByteArray) (hh : has L n.toList = true) (hp : pos L n.toList < L.length) :
    Calls Try.prog 15 #[.pointer (some ⟨q, 0, none⟩), .string n] w (GtP (.string L[pos L n.toList].a.i) (.int .i64 L[pos L n.toList].a.iss) (.int .i64 L[pos L n.toList].a.rat) (.int .i64 L[pos L n.toList].a.mat) (.string L[pos L n.toList].a.c) true w) := by
  obtain ⟨ra, rc, rfl, hrc, hrw⟩ := h.read
  obtain ⟨blk, off, rfl, hbl, hcs⟩ := hrw (by omega)
  have f1 := g.all L[pos L n.toList] (List.getElem_mem hp)
  have hb0 : ∀ y, Below w.heap.size w (w.alloc y) := fun y => (Below.refl _ w).alloc (Nat.le_refl _) _
  have hcells := fun (w' : World) (hb : Below w.heap.size w w') => Rw.at6 hcs hb hbl hp
  have HP : Hid (∀ w2, Calls Try.prog 36 #[.agg #[.string L[pos L n.toList].a.i, .int .i64 L[pos L n.toList].a.iss, .int .i64 L[pos L n.toList].a.rat, .int .i64 L[pos L n.toList].a.mat, .string L[pos L n.toList].a.c]] w2 (ApP (.string L[pos L n.toList].a.i) (.int .i64 L[pos L n.toList].a.iss) (.int .i64 L[pos L n.toList].a.rat) (.int .i64 L[pos L n.toList].a.mat) (.string L[pos L n.toList].a.c) w2)) := fun w2 => xapart _ _ _ _ _ (by have := f1.i; omega) (by have := f1.c; omega) w2
  have HFC := h.fnc g n
  rw [hh] at HFC
  have hpz : (pos L n.toList : Int) < (L.length : Int) := by omega
  generalize L[pos L n.toList] = x at *
  obtain ⟨⟨xi, xa, xb, xc, xs⟩, xp⟩ := x
  simp only at *
  generalize pos L n.toList = P at *
  have HC : Hid (Calls Try.prog 35 #[.pointer (some ⟨q, 0, none⟩), .string n] (w.alloc (.cells #[.string ⟨#[]⟩, .int .i64 0, .int .i64 0, .int .i64 0, .string ⟨#[]⟩] 27)) fun e w' => e = .returned (.tuple #[.int .i64 P, .bool true]) ∧ w'.cell? ⟨q, 1, none⟩ = some (.slice (some ⟨blk, off, none⟩) L.length rc) ∧ w'.cell? ⟨blk, off + P * 6, none⟩ = some (.string xi) ∧ w'.cell? ⟨blk, off + P * 6 + 1, none⟩ = some (.int .i64 xa) ∧ w'.cell? ⟨blk, off + P * 6 + 2, none⟩ = some (.int .i64 xb) ∧ w'.cell? ⟨blk, off + P * 6 + 3, none⟩ = some (.int .i64 xc) ∧ w'.cell? ⟨blk, off + P * 6 + 4, none⟩ = some (.string xs) ∧ Hid (Bx w' w.heap.size #[.string ⟨#[]⟩, .int .i64 0, .int .i64 0, .int .i64 0, .string ⟨#[]⟩] 27 ∧ Below w.heap.size w w')) := (HFC _ (hb0 _)).mono fun e w' hh => by
    have hb := (hb0 (.cells #[.string ⟨#[]⟩, .int .i64 0, .int .i64 0, .int .i64 0, .string ⟨#[]⟩] 27)).trans (hh.2.mono (hb0 _).size)
    obtain ⟨c0, c1, c2, c3, c4, c5⟩ := hcells w' hb
    exact ⟨hh.1, (h.b.below hb h.b.lt).cell 1, c0, c1, c2, c3, c4, (Bx.new w _ _).below hh.2 (Bx.new w _ _).lt, hb⟩
  clear h g hh hrc hrw hcs f1 hb0 hcells HFC hp hbl
  go_enter Try.func15, Try.ntmps15
  go_wp2_with (first | (go_at_call 35; refine HC.out.mono ?_; clear HC; rintro e w1 ⟨rfl, k1, k2, k3, k4, k5, k6, HZ⟩) | (go_at_call 36; refine (HP.out _).mono ?_; clear HP; rintro e w2 ⟨rfl, HB2⟩; have HX2 : Hid (Bx w2 w.heap.size #[.string ⟨#[]⟩, .int .i64 0, .int .i64 0, .int .i64 0, .string ⟨#[]⟩] 27) := HZ.out.1.below HB2 HZ.out.1.lt; have HB3 : Hid (Below w.heap.size w w2) := HZ.out.2.trans (HB2.mono HZ.out.2.size); have c0 : w2.cell? ⟨w.heap.size, 0, none⟩ = some (.string ⟨#[]⟩) := HX2.out.cell 0; have c1 : w2.cell? ⟨w.heap.size, 1, none⟩ = some (.int .i64 0) := HX2.out.cell 1; have c2 : w2.cell? ⟨w.heap.size, 2, none⟩ = some (.int .i64 0) := HX2.out.cell 2; have c3 : w2.cell? ⟨w.heap.size, 3, none⟩ = some (.int .i64 0) := HX2.out.cell 3; have c4 : w2.cell? ⟨w.heap.size, 4, none⟩ = some (.string ⟨#[]⟩) := HX2.out.cell 4; have f0 : w2.frozen? ⟨w.heap.size, 0, none⟩ = false := HX2.out.froz 0; have f1 : w2.frozen? ⟨w.heap.size, 1, none⟩ = false := HX2.out.froz 1; have f2 : w2.frozen? ⟨w.heap.size, 2, none⟩ = false := HX2.out.froz 2; have f3 : w2.frozen? ⟨w.heap.size, 3, none⟩ = false := HX2.out.froz 3; have f4 : w2.frozen? ⟨w.heap.size, 4, none⟩ = false := HX2.out.froz 4))
  have HX := ((((HX2.out.setc 0 (.string xi)).setc 1 (.int .i64 xa)).setc 2 (.int .i64 xb)).setc 3 (.int .i64 xc)).setc 4 (.string xs)
  refine bodyPost_ret (res_cell2 _ _ 4 27 5 _ _ _ _ rfl rfl rfl (res27 HX)) rfl ?_
  exact ⟨rfl, ((((HB3.out.setCell (p := ⟨w.heap.size, 0, none⟩) (Nat.le_refl _) _).setCell (p := ⟨w.heap.size, 1, none⟩) (Nat.le_refl _) _).setCell (p := ⟨w.heap.size, 2, none⟩) (Nat.le_refl _) _).setCell (p := ⟨w.heap.size, 3, none⟩) (Nat.le_refl _) _).setCell (p := ⟨w.heap.size, 4, none⟩) (Nat.le_refl _) _⟩
def PcP (n : Int) (b : Bool) (w : World) (e : Ending) (w' : World) : Prop := e = .returned (.tuple #[.int .i64 n, .bool b]) ∧ Below w.heap.size w w'
theorem xprice_no {p : Option Addr} {n : ByteArray} {k : Nat} (w : World) (hf : FnC p n k false w) : Calls Try.prog 16 #[.pointer p, .string n] w (PcP 0 false w) := by
  have HC : Hid (Calls Try.prog 35 #[.pointer p, .string n] w (FdP k false w)) := hf w (Below.refl _ _)
  clear hf
  go_enter Try.func16, Try.ntmps16
  go_wp2_with (go_at_call 35; refine HC.out.mono ?_; clear HC; rintro e w1 ⟨rfl, HB⟩)
  go_ret2
  exact ⟨rfl, HB⟩
/-- the price of what is there -/
def pri (L : List Kn) (n : List UInt8) : Int := match L[pos L n]? with | some k => k.p | none => 0
theorem pri_at {L : List Kn} {n : List UInt8} (hp : pos L n < L.length) : pri L n = L[pos L n].p := by unfold pri; rw [List.getElem?_eq_getElem hp]
theorem xprice_yes {B : Nat} {w : World} {q : Nat} {v : Value} {L : List Kn} (h : Bk B w q v L) (g : Num.Good L) (n : ByteArray) (hh : has L n.toList = true) (hp : pos L n.toList < L.length) :
    Calls Try.prog 16 #[.pointer (some ⟨q, 0, none⟩), .string n] w (PcP (pri L n.toList) (decide (pri L n.toList ≠ 0)) w) := by
  obtain ⟨ra, rc, rfl, hrc, hrw⟩ := h.read
  obtain ⟨blk, off, rfl, hbl, hcs⟩ := hrw (by omega)
  have hcells := fun (w' : World) (hb : Below w.heap.size w w') => (Rw.at6 hcs hb hbl hp).2.2.2.2.2
  have HFC := h.find g n
  rw [hh] at HFC
  have hpz : (pos L n.toList : Int) < (L.length : Int) := by omega
  rw [pri_at hp]
  generalize L[pos L n.toList].p = xp at *
  generalize pos L n.toList = P at *
  have HC : Hid (Calls Try.prog 35 #[.pointer (some ⟨q, 0, none⟩), .string n] w fun e w' => e = .returned (.tuple #[.int .i64 P, .bool true]) ∧ w'.cell? ⟨q, 1, none⟩ = some (.slice (some ⟨blk, off, none⟩) L.length rc) ∧ w'.cell? ⟨blk, off + P * 6 + 5, none⟩ = some (.int .i64 xp) ∧ Hid (Below w.heap.size w w')) := HFC.mono fun e w' hh => ⟨hh.1, (h.b.below hh.2 h.b.lt).cell 1, hcells w' hh.2, hh.2⟩
  clear h g hh hrc hrw hcs hcells HFC hp hbl
  by_cases hx : xp = 0
  · subst hx
    go_enter Try.func16, Try.ntmps16
    go_wp2_with (go_at_call 35; refine HC.out.mono ?_; clear HC; rintro e w1 ⟨rfl, k1, k2, HB⟩)
    go_ret2
    exact ⟨rfl, HB.out⟩
  · have hd : decide (xp ≠ 0) = true := decide_eq_true hx
    have hz : (xp == 0) = false := by simp [hx]
    rw [hd]
    clear hd hx
    go_enter Try.func16, Try.ntmps16
    go_wp2_with (go_at_call 35; refine HC.out.mono ?_; clear HC; rintro e w1 ⟨rfl, k1, k2, HB⟩)
    go_ret2
    exact ⟨rfl, HB.out⟩
/-- what a lot is worth -/
def vaS (L : List Kn) (x : Pr) : Int := if has L x.1.toList = true then (if pri L x.1.toList = 0 then 0 else woS x.2 (pri L x.1.toList)) else 0
def vaE (L : List Kn) (x : Pr) : Int := if has L x.1.toList = true then (if pri L x.1.toList = 0 then 31 else woE x.2 (pri L x.1.toList)) else 21
theorem va_rng (L : List Kn) (x : Pr) : 0 ≤ vaS L x ∧ vaS L x ≤ 4835703278458516698 := by
  unfold vaS
  split
  · split
    · omega
    · exact wo_rng _ _
  · omega
set_option maxHeartbeats 4000000 in
theorem xvalue {B : Nat} {w : World} {q : Nat} {v : Value} {L : List Kn} (h : Bk B w q v L) (g : Num.Good L) (n : ByteArray) (qt : Int) :
    Calls Try.prog 21 #[.pointer (some ⟨q, 0, none⟩), .agg #[.string n, .int .i64 qt]] w (WoP (vaS L (n, qt)) (vaE L (n, qt)) w) := by
  have hb0 : ∀ y, Below w.heap.size w (w.alloc y) := fun y => (Below.refl _ w).alloc (Nat.le_refl _) _
  have HL : Hid (Calls Try.prog 42 #[.pointer (some ⟨q, 0, none⟩)] (w.alloc (.cells #[.string n, .int .i64 qt] 56)) (BoP false (w.alloc (.cells #[.string n, .int .i64 qt] 56)))) := xlackB (h.below (hb0 _)).b
  have HFC := (h.below (hb0 (.cells #[.string n, .int .i64 qt] 56))).find g n
  unfold vaS vaE
  simp only
  cases hh : has L n.toList with
  | false =>
    rw [hh] at HFC
    have HC : Hid (Calls Try.prog 35 #[.pointer (some ⟨q, 0, none⟩), .string n] (w.alloc (.cells #[.string n, .int .i64 qt] 56)) fun e w' => e = .returned (.tuple #[.int .i64 (pos L n.toList), .bool false]) ∧ Hid (Below w.heap.size w w')) := HFC.mono fun e w' k => ⟨k.1, (hb0 _).trans (k.2.mono (hb0 _).size)⟩
    generalize pos L n.toList = P at *
    clear h g hh HFC hb0
    go_enter Try.func21, Try.ntmps21
    go_wp2_with (first | (go_at_call 42; refine HL.out.mono ?_; clear HL; rintro e w2 ⟨rfl, rfl⟩) | (go_at_call 35; refine HC.out.mono ?_; clear HC; rintro e w1 ⟨rfl, HB⟩))
    go_ret2
    exact ⟨rfl, HB.out⟩
  | true =>
    rw [hh] at HFC
    have hp : pos L n.toList < L.length := (has_pos g.srt hh).1
    obtain ⟨ra, rc, rfl, hrc, hrw⟩ := h.read
    obtain ⟨blk, off, rfl, hbl, hcs⟩ := hrw (by omega)
    have hcells := fun (w' : World) (hb : Below w.heap.size w w') => (Rw.at6 hcs hb hbl hp).2.2.2.2.2
    have hpz : (pos L n.toList : Int) < (L.length : Int) := by omega
    rw [pri_at hp]
    generalize L[pos L n.toList].p = xp at *
    generalize pos L n.toList = P at *
    have HC : Hid (Calls Try.prog 35 #[.pointer (some ⟨q, 0, none⟩), .string n] (w.alloc (.cells #[.string n, .int .i64 qt] 56)) fun e w' => e = .returned (.tuple #[.int .i64 P, .bool true]) ∧ w'.cell? ⟨w.heap.size, 1, none⟩ = some (.int .i64 qt) ∧ w'.cell? ⟨q, 1, none⟩ = some (.slice (some ⟨blk, off, none⟩) L.length rc) ∧ w'.cell? ⟨blk, off + P * 6 + 5, none⟩ = some (.int .i64 xp) ∧ Hid (Below w.heap.size w w')) := HFC.mono fun e w' k => by
      have hb := (hb0 (.cells #[.string n, .int .i64 qt] 56)).trans (k.2.mono (hb0 _).size)
      exact ⟨k.1, ((Bx.new w _ _).below k.2 (Bx.new w _ _).lt).cell 1, (h.b.below hb h.b.lt).cell 1, hcells w' hb, hb⟩
    clear h g hh hrc hrw hcs hcells HFC hp hbl hb0
    by_cases hx : xp = 0
    · subst hx
      simp only [if_true]
      go_enter Try.func21, Try.ntmps21
      go_wp2_with (first | (go_at_call 42; refine HL.out.mono ?_; clear HL; rintro e w2 ⟨rfl, rfl⟩) | (go_at_call 35; refine HC.out.mono ?_; clear HC; rintro e w1 ⟨rfl, k0, k1, k2, HB⟩))
      go_ret2
      exact ⟨rfl, HB.out⟩
    · have hz : (xp == 0) = false := by simp [hx]
      simp only [if_true, if_neg hx]
      have HW : Hid (∀ w1, Below w.heap.size w w1 → Calls Try.prog 17 #[.int .i64 qt, .int .i64 xp] w1 fun e w2 => ∃ y, e = .returned y ∧ (y = .tuple #[.int .i64 (woS qt xp), .int .i64 (woE qt xp)] ∧ Hid (Below w.heap.size w w2))) := fun w1 hb => (xworth qt xp w1).mono fun e w2 k => ⟨_, k.1, rfl, hb.trans (k.2.mono hb.size)⟩
      generalize woS qt xp = S at *
      generalize woE qt xp = E at *
      clear hx
      go_enter Try.func21, Try.ntmps21
      go_wp2_with (first | (go_at_call 42; refine HL.out.mono ?_; clear HL; rintro e w2 ⟨rfl, rfl⟩) | (go_at_call 35; refine HC.out.mono ?_; clear HC; rintro e w1 ⟨rfl, k0, k1, k2, HB⟩))
      go_region_law (refine step_call _ (by rfl) 17 #[.int .i64 qt, .int .i64 xp] (by go_simp) _ (HW.out _ HB.out.drew) ?_; clear HW; rintro v9 w2 ⟨rfl, HB2⟩)
      all_goals
        go_wp2_with fail
        go_ret2
        exact ⟨rfl, HB2.out⟩
/-- lots together -/
def tot (L : List Kn) : Int → List Pr → Int × Int
  | s, [] => (s, 0)
  | s, x :: r => if vaE L x ≠ 0 then (0, vaE L x) else if N1.fitE (s + vaS L x) ≠ 0 then (0, N1.fitE (s + vaS L x)) else tot L (s + vaS L x) r
theorem tot_nil (L : List Kn) (s : Int) (xs : List Pr) : tot L s (xs.drop xs.length) = (s, 0) := by rw [List.drop_length]; rfl
theorem tot_bad {L : List Kn} {s : Int} {xs : List Pr} {k : Nat} (hk : k < xs.length) (h : vaE L xs[k] ≠ 0) : tot L s (xs.drop k) = (0, vaE L xs[k]) := by
  rw [List.drop_eq_getElem_cons hk, tot, if_pos h]
theorem tot_over {L : List Kn} {s : Int} {xs : List Pr} {k : Nat} (hk : k < xs.length) (h : vaE L xs[k] = 0) (h2 : N1.fitE (s + vaS L xs[k]) ≠ 0) : tot L s (xs.drop k) = (0, N1.fitE (s + vaS L xs[k])) := by
  rw [List.drop_eq_getElem_cons hk, tot, if_neg (by simp [h]), if_pos h2]
theorem tot_next {L : List Kn} {s : Int} {xs : List Pr} {k : Nat} (hk : k < xs.length) (h : vaE L xs[k] = 0) (h2 : N1.fitE (s + vaS L xs[k]) = 0) : tot L s (xs.drop k) = tot L (s + vaS L xs[k]) (xs.drop (k + 1)) := by
  rw [List.drop_eq_getElem_cons hk, tot, if_neg (by simp [h]), if_neg (by simp [h2])]
theorem fit_ok {n : Int} (h : N1.fitE n = 0) : N1.fitS n = n ∧ Rng n := by
  unfold N1.fitE at h
  unfold N1.fitS
  split at h
  · rename_i h1; exact ⟨if_pos h1, h1⟩
  · cases h
set_option maxHeartbeats 8000000 in
theorem xtotal {B : Nat} {w : World} {q : Nat} {v : Value} {L : List Kn} (h : Bk B w q v L) (g : Num.Good L) (xs : List Pr) (hl : xs.length ≤ 1000000) (a : Option Addr) (cap : Nat) (hp : Prs w a xs) :
    Calls Try.prog 19 #[.pointer (some ⟨q, 0, none⟩), .slice a xs.length cap] w (WoP (tot L 0 xs).1 (tot L 0 xs).2 w) := by
  have HS : Hid (Bk B w q v L) := h
  have HG : Hid (Num.Good L) := g
  have HP : Hid (Prs w a xs) := hp
  have hlz : (xs.length : Int) ≤ 1000000 := by omega
  obtain ⟨T1, hT1⟩ : ∃ T, T = (tot L 0 xs).1 := ⟨_, rfl⟩
  obtain ⟨T2, hT2⟩ : ∃ T, T = (tot L 0 xs).2 := ⟨_, rfl⟩
  have HT : Hid (tot L 0 xs = (T1, T2)) := by rw [hT1, hT2]; rfl
  rw [← hT1, ← hT2]
  clear h g hp hT1 hT2
  go_enter Try.func19, Try.ntmps19
  go_wp2_with fail
  go_loopw [6, 10, 13] (fun t e i wr => ∃ (k : Nat) (s : Int), k ≤ xs.length ∧ t = .int .i64 s ∧ i = .int .i64 k ∧ Hid (Rng s ∧ tot L s (xs.drop k) = (T1, T2) ∧ Below w.heap.size w wr))
    (fun _ _ i _ => xs.length - (intOf i).toNat)
  case atStart => exact ⟨0, 0, Nat.zero_le _, rfl, rfl, by constructor <;> omega, HT.out, Below.refl _ _⟩
  case round =>
    obtain ⟨k, s, hk, rfl, rfl, HZ⟩ := hrel
    by_cases hkn : k < xs.length
    · have hkz : (k : Int) < (xs.length : Int) := by omega
      obtain ⟨blk, off, rfl, hbl, hcs⟩ := HP.out (by omega)
      have hc2 := hcs k hkn
      have HB : Hid (Below w.heap.size w wr) := HZ.out.2.2
      have hv := va_rng L xs[k]
      have HT1 : Hid (vaE L xs[k] ≠ 0 → (0, vaE L xs[k]) = (T1, T2)) := fun e => (tot_bad hkn e).symm.trans HZ.out.2.1
      have HT2 : Hid (vaE L xs[k] = 0 → N1.fitE (s + vaS L xs[k]) ≠ 0 → (0, N1.fitE (s + vaS L xs[k])) = (T1, T2)) := fun e e2 => (tot_over hkn e e2).symm.trans HZ.out.2.1
      have HT3 : Hid (vaE L xs[k] = 0 → N1.fitE (s + vaS L xs[k]) = 0 → tot L (s + vaS L xs[k]) (xs.drop (k + 1)) = (T1, T2)) := fun e e2 => (tot_next hkn e e2).symm.trans HZ.out.2.1
      have hs := HZ.out.1
      have HV : Hid (Calls Try.prog 21 #[.pointer (some ⟨q, 0, none⟩), .agg #[.string xs[k].1, .int .i64 xs[k].2]] (wr.alloc (.cells #[.string xs[k].1, .int .i64 xs[k].2] 56)) fun e w' => e = .returned (.tuple #[.int .i64 (vaS L xs[k]), .int .i64 (vaE L xs[k])]) ∧ Hid (Below w.heap.size w w')) := (xvalue (HS.out.below (HB.out.alloc HB.out.size _)) HG.out xs[k].1 xs[k].2).mono fun e w' hh => ⟨hh.1, (HB.out.alloc HB.out.size _).trans (hh.2.mono (HB.out.alloc HB.out.size _).size)⟩
      generalize vaS L xs[k] = S at *
      generalize vaE L xs[k] = E at *
      have HPl : Hid (∀ w, Calls Try.prog 40 #[.int .i64 s, .int .i64 S] w fun e w' => e = .returned (.tuple #[.int .i64 (N1.fitS (s + S)), .int .i64 (N1.fitE (s + S))]) ∧ w = w') := fun w => N1.xplus s S hs (by omega) w
      generalize xs[k] = x at *
      obtain ⟨x1, x2⟩ := x
      simp only at *
      have c0 : wr.cell? ⟨blk, off + k * 2, none⟩ = some (.string x1) := (HB.out.cell (p := ⟨blk, off + k * 2 + 0, none⟩) hbl).trans (hc2 0 (by omega))
      have c1 : wr.cell? ⟨blk, off + k * 2 + 1, none⟩ = some (.int .i64 x2) := (HB.out.cell (p := ⟨blk, off + k * 2 + 1, none⟩) hbl).trans (hc2 1 (by omega))
      by_cases hE : E = 0
      · have hEz : (E != 0) = false := by simp [hE]
        by_cases hF : N1.fitE (s + S) = 0
        · have hFz : (N1.fitE (s + S) != 0) = false := by simp [hF]
          have HY : Hid (N1.fitS (s + S) = s + S ∧ Rng (s + S) ∧ tot L (s + S) (xs.drop (k + 1)) = (T1, T2)) := ⟨(fit_ok hF).1, (fit_ok hF).2, HT3.out hE hF⟩
          generalize N1.fitE (s + S) = F at *
          generalize N1.fitS (s + S) = FS at *
          clear hE hF hs hv HT1 HT2 HT3 HZ hc2 hcs
          go_wp2_with (first | (go_at_call 21; refine HV.out.mono ?_; clear HV; rintro e w3 ⟨rfl, HB3⟩) | (go_at_call 40; refine (HPl.out _).mono ?_; clear HPl; rintro e w4 ⟨rfl, rfl⟩))
          go_roundw
          case rel => exact ⟨k + 1, s + S, by omega, by rw [HY.out.1], by simp, HY.out.2.1, HY.out.2.2, HB3.out⟩
          case measure => simp [intOf]; omega
        · have hFz : (N1.fitE (s + S) != 0) = true := by simp [hF]
          have HY : Hid ((0, N1.fitE (s + S)) = (T1, T2)) := HT2.out hE hF
          generalize N1.fitE (s + S) = F at *
          generalize N1.fitS (s + S) = FS at *
          clear hE hF hs hv HT1 HT2 HT3 HZ hc2 hcs
          go_wp2_with (first | (go_at_call 21; refine HV.out.mono ?_; clear HV; rintro e w3 ⟨rfl, HB3⟩) | (go_at_call 40; refine (HPl.out _).mono ?_; clear HPl; rintro e w4 ⟨rfl, rfl⟩))
          go_ret2
          have h9 := HY.out
          injection h9 with h9 h8
          rw [← h9, ← h8]
          exact ⟨rfl, HB3.out⟩
      · have hEz : (E != 0) = true := by simp [hE]
        have HY : Hid ((0, E) = (T1, T2)) := HT1.out hE
        clear hE hs hv HT1 HT2 HT3 HZ hc2 hcs HPl
        go_wp2_with (go_at_call 21; refine HV.out.mono ?_; clear HV; rintro e w3 ⟨rfl, HB3⟩)
        go_ret2
        have h9 := HY.out
        injection h9 with h9 h8
        rw [← h9, ← h8]
        exact ⟨rfl, HB3.out⟩
    · have hkz : ¬ (k : Int) < (xs.length : Int) := by omega
      have HF : Hid (WoP T1 T2 w (.returned (.tuple #[.int .i64 s, .int .i64 0])) wr) := by
        have hr := HZ.out
        rw [show k = xs.length by omega, tot_nil] at hr
        obtain ⟨_, h2, h3⟩ := hr
        injection h2 with h4 h5
        rw [← h4, ← h5]
        exact ⟨rfl, h3⟩
      clear HZ
      go_wp2_with fail
      go_ret2
      exact HF.out
end Go.Proofs.Ytbgdmpaghkmadaa
