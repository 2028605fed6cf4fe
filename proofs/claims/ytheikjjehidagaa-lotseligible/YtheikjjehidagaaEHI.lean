/- layer 15: Find of both -/
import Derived.Test.YtheikjjehidagaaEM
import Derived.Test.YtheikjjehidagaaEHH
import Derived.Test.YtheikjjehidagaaEN
import Derived.WalkKit
import Derived.ProofKit
import Derived.Handy
import Derived.WalkLawsBesides
import Derived.WalkSpells
import Derived.BigQuiet
import Derived.BigCall
import Derived.Deep.QuietTactic
import Derived.Deep.Light
import Derived.Deep.OwnRows
import Derived.Laws.AppendOwnNone
import Derived.Laws.Strings3
import Derived.Laws.RangeAny
import Derived.Deep.RegionWith
import Derived.Lib.BitFns
import Derived.Lib.Walk
import Derived.Lib.Strings
import Derived.Lib.OthersKept
import Derived.Deep.CutBlock
import Derived.Deep.DeepCutAuto
import Derived.Deep.LoopGhost
import Derived.Deep.RegionHeld3
import Derived.Lib.SmallJoins
import Derived.Maps.AppendAt
import Derived.Laws.IdiomStrings
import Derived.Lib.AppendZeros
import Derived.Deep.WholeRow
import Derived.Laws.BitsAllLaws
import Derived.Lib.ConvBytes
import Derived.Deep.RegionLaw
import Derived.Maps.OwnSet
import Derived.Maps.OwnOps
import Derived.Maps.RangeWalk
import Derived.Maps.Ext
import Derived.DeepKeys4
import Derived.Laws.StructEq
import Derived.Deep.MidRow
import Derived.Lib.Bytealg
import Derived.Lib.Overlaps
import Derived.Lib.AppendZerosOnto
import Derived.Laws.MakeOwn
namespace Go.Proofs.Ytheikjjehidagaa.H5
open Go.RowKit
set_option linter.unusedVariables false
set_option linter.unusedSimpArgs false
set_option maxRecDepth 20000
open Num
def nine (w : World) (q : Nat) (v0 v1 v2 v3 v4 v5 v6 v7 v8 : Value) : World := (((((((((w.setCell ⟨q, 0, none⟩ v0).setCell ⟨q, 1, none⟩ v1).setCell ⟨q, 2, none⟩ v2).setCell ⟨q, 3, none⟩ v3).setCell ⟨q, 4, none⟩ v4).setCell ⟨q, 5, none⟩ v5).setCell ⟨q, 6, none⟩ v6).setCell ⟨q, 7, none⟩ v7).setCell ⟨q, 8, none⟩ v8)
set_option maxHeartbeats 4000000 in
theorem nine_bx {w : World} {q T : Nat} {u0 u1 u2 u3 u4 u5 u6 u7 u8 : Value} (h : Bx w q #[u0, u1, u2, u3, u4, u5, u6, u7, u8] T) (v0 v1 v2 v3 v4 v5 v6 v7 v8 : Value) : Bx (nine w q v0 v1 v2 v3 v4 v5 v6 v7 v8) q #[v0, v1, v2, v3, v4, v5, v6, v7, v8] T := by
  have h0 : Bx (w.setCell ⟨q, 0, none⟩ v0) q #[v0, u1, u2, u3, u4, u5, u6, u7, u8] T := h.setc 0 v0
  have h1 : Bx ((w.setCell ⟨q, 0, none⟩ v0).setCell ⟨q, 1, none⟩ v1) q #[v0, v1, u2, u3, u4, u5, u6, u7, u8] T := h0.setc 1 v1
  have h2 : Bx (((w.setCell ⟨q, 0, none⟩ v0).setCell ⟨q, 1, none⟩ v1).setCell ⟨q, 2, none⟩ v2) q #[v0, v1, v2, u3, u4, u5, u6, u7, u8] T := h1.setc 2 v2
  have h3 : Bx ((((w.setCell ⟨q, 0, none⟩ v0).setCell ⟨q, 1, none⟩ v1).setCell ⟨q, 2, none⟩ v2).setCell ⟨q, 3, none⟩ v3) q #[v0, v1, v2, v3, u4, u5, u6, u7, u8] T := h2.setc 3 v3
  have h4 : Bx (((((w.setCell ⟨q, 0, none⟩ v0).setCell ⟨q, 1, none⟩ v1).setCell ⟨q, 2, none⟩ v2).setCell ⟨q, 3, none⟩ v3).setCell ⟨q, 4, none⟩ v4) q #[v0, v1, v2, v3, v4, u5, u6, u7, u8] T := h3.setc 4 v4
  have h5 : Bx ((((((w.setCell ⟨q, 0, none⟩ v0).setCell ⟨q, 1, none⟩ v1).setCell ⟨q, 2, none⟩ v2).setCell ⟨q, 3, none⟩ v3).setCell ⟨q, 4, none⟩ v4).setCell ⟨q, 5, none⟩ v5) q #[v0, v1, v2, v3, v4, v5, u6, u7, u8] T := h4.setc 5 v5
  have h6 : Bx (((((((w.setCell ⟨q, 0, none⟩ v0).setCell ⟨q, 1, none⟩ v1).setCell ⟨q, 2, none⟩ v2).setCell ⟨q, 3, none⟩ v3).setCell ⟨q, 4, none⟩ v4).setCell ⟨q, 5, none⟩ v5).setCell ⟨q, 6, none⟩ v6) q #[v0, v1, v2, v3, v4, v5, v6, u7, u8] T := h5.setc 6 v6
  have h7 : Bx ((((((((w.setCell ⟨q, 0, none⟩ v0).setCell ⟨q, 1, none⟩ v1).setCell ⟨q, 2, none⟩ v2).setCell ⟨q, 3, none⟩ v3).setCell ⟨q, 4, none⟩ v4).setCell ⟨q, 5, none⟩ v5).setCell ⟨q, 6, none⟩ v6).setCell ⟨q, 7, none⟩ v7) q #[v0, v1, v2, v3, v4, v5, v6, v7, u8] T := h6.setc 7 v7
  have h8 : Bx (((((((((w.setCell ⟨q, 0, none⟩ v0).setCell ⟨q, 1, none⟩ v1).setCell ⟨q, 2, none⟩ v2).setCell ⟨q, 3, none⟩ v3).setCell ⟨q, 4, none⟩ v4).setCell ⟨q, 5, none⟩ v5).setCell ⟨q, 6, none⟩ v6).setCell ⟨q, 7, none⟩ v7).setCell ⟨q, 8, none⟩ v8) q #[v0, v1, v2, v3, v4, v5, v6, v7, v8] T := h7.setc 8 v8
  exact h8
theorem nine_below {B : Nat} {w0 w : World} {q : Nat} (h : Below B w0 w) (hq : B ≤ q) (v0 v1 v2 v3 v4 v5 v6 v7 v8 : Value) : Below B w0 (nine w q v0 v1 v2 v3 v4 v5 v6 v7 v8) := by
  unfold nine
  exact (((((((((h.setCell (p := ⟨q, 0, none⟩) hq _).setCell (p := ⟨q, 1, none⟩) hq _).setCell (p := ⟨q, 2, none⟩) hq _).setCell (p := ⟨q, 3, none⟩) hq _).setCell (p := ⟨q, 4, none⟩) hq _).setCell (p := ⟨q, 5, none⟩) hq _).setCell (p := ⟨q, 6, none⟩) hq _).setCell (p := ⟨q, 7, none⟩) hq _).setCell (p := ⟨q, 8, none⟩) hq _)
theorem nine_ne {w : World} {q g T : Nat} {cs : Array Value} (h : Bx w g cs T) (hn : g ≠ q) (v0 v1 v2 v3 v4 v5 v6 v7 v8 : Value) : Bx (nine w q v0 v1 v2 v3 v4 v5 v6 v7 v8) g cs T := by
  unfold nine
  exact (((((((((h.oset hn 0 _).oset hn 1 _).oset hn 2 _).oset hn 3 _).oset hn 4 _).oset hn 5 _).oset hn 6 _).oset hn 7 _).oset hn 8 _)
theorem load25 (W : World) (b p : Nat) (v0 v1 v2 v3 v4 v5 v6 v7 v8 v9 : Value) (c0 : W.cell? ⟨b, p, none⟩ = some v0) (c1 : W.cell? ⟨b, p + 1, none⟩ = some v1) (c2 : W.cell? ⟨b, p + 2, none⟩ = some v2) (c3 : W.cell? ⟨b, p + 3, none⟩ = some v3) (c4 : W.cell? ⟨b, p + 4, none⟩ = some v4) (c5 : W.cell? ⟨b, p + 5, none⟩ = some v5) (c6 : W.cell? ⟨b, p + 6, none⟩ = some v6) (c7 : W.cell? ⟨b, p + 7, none⟩ = some v7) (c8 : W.cell? ⟨b, p + 8, none⟩ = some v8) (c9 : W.cell? ⟨b, p + 9, none⟩ = some v9) : (Instr.loadAt 62 (.pointer (some ⟨b, p, none⟩))).run Try.prog W = .ok (.agg #[v0, v1, v2, v3, v4, v5, v6, v7, v8, v9]) W := by
  go_simp
theorem res48 {w : World} {g : Nat} {v0 v1 v2 v3 v4 v5 v6 v7 v8 : Value} (h : Bx w g #[v0, v1, v2, v3, v4, v5, v6, v7, v8] 47) : (loadVar 47 ⟨g, 0, none⟩).run Try.prog w = .ok (.agg #[v0, v1, v2, v3, v4, v5, v6, v7, v8]) w :=
  run_loadVar_row w g 47 47 _ (0, 0) _ h Try.underlying47 rfl (by kernel_rfl)
theorem res50 {w : World} {g : Nat} {v0 v1 v2 v3 v4 v5 v6 v7 v8 : Value} (h : Bx w g #[v0, v1, v2, v3, v4, v5, v6, v7, v8] 87) : (loadVar 87 ⟨g, 0, none⟩).run Try.prog w = .ok (.agg #[v0, v1, v2, v3, v4, v5, v6, v7, v8]) w :=
  run_loadVar_row w g 87 87 _ (0, 0) _ h Try.underlying87 rfl (by kernel_rfl)
def It.z : It := ⟨⟨#[]⟩, 0, ⟨⟨#[]⟩, 0, 0, 0, ⟨#[]⟩⟩, 0, 0⟩
def fiE (gb pb ob qb : Bool) : Int := if gb = false then 21 else if pb = false then 31 else if ob = false then 23 else if qb = false then 1 else 0
def FiP (x : It) (E : Int) (w : World) (e : Ending) (w' : World) : Prop := e = .returned (.tuple #[.agg (its x).toArray, .int .i64 E]) ∧ Below w.heap.size w w'
def fiI (gb pb ob qb : Bool) (x : It) : It := if fiE gb pb ob qb = 0 then x else It.z
set_option maxHeartbeats 16000000 in
theorem xfi (pk : Option Addr) (i0 i1 i3 i4 i5 i7 i8 : Int) (s : ByteArray) (ca ba : Option Addr) (cc nb bc : Nat) (xs : List N14.Ct) (n : ByteArray) (q d : Int) (ai ac : ByteArray) (a1 a2 m pr cut : Int) (gb pb ob : Bool) (hnn : n.size ≤ 281474976710656) (w : World)
    (H57 : ∀ W, Below w.heap.size w W → Calls Try.prog 85 #[.pointer pk, .string n] W (GtP (.string ai) (.int .i64 a1) (.int .i64 a2) (.int .i64 m) (.string ac) gb W))
    (H58 : gb = true → ∀ W, Below w.heap.size w W → Calls Try.prog 86 #[.pointer pk, .string n] W (PcP pr pb W))
    (H11 : gb = true → ∀ W, Below w.heap.size w W → Calls Try.prog 87 #[.agg #[.int .i64 i0, .int .i64 i1, .string s, .int .i64 i3, .int .i64 i4, .int .i64 i5, .slice ca xs.length cc, .int .i64 i7, .int .i64 i8, .slice ba nb bc], .agg #[.string ai, .int .i64 a1, .int .i64 a2, .int .i64 m, .string ac], .int .i64 d] W (LeP cut ob W)) :
    Calls Try.prog 61 #[.pointer pk, .agg #[.int .i64 i0, .int .i64 i1, .string s, .int .i64 i3, .int .i64 i4, .int .i64 i5, .slice ca xs.length cc, .int .i64 i7, .int .i64 i8, .slice ba nb bc], .agg #[.string n, .int .i64 q], .int .i64 d] w (FiP (fiI gb pb ob (qkB q) ⟨n, q, ⟨ai, a1, a2, m, ac⟩, pr, cut⟩) (fiE gb pb ob (qkB q)) w) := by
  have K57 : Hid (∀ W, Below w.heap.size w W → Calls Try.prog 85 #[.pointer pk, .string n] W (GtP (.string ai) (.int .i64 a1) (.int .i64 a2) (.int .i64 m) (.string ac) gb W)) := H57
  have K58 : Hid (gb = true → ∀ W, Below w.heap.size w W → Calls Try.prog 86 #[.pointer pk, .string n] W (PcP pr pb W)) := H58
  have K11 : Hid (gb = true → ∀ W, Below w.heap.size w W → Calls Try.prog 87 #[.agg #[.int .i64 i0, .int .i64 i1, .string s, .int .i64 i3, .int .i64 i4, .int .i64 i5, .slice ca xs.length cc, .int .i64 i7, .int .i64 i8, .slice ba nb bc], .agg #[.string ai, .int .i64 a1, .int .i64 a2, .int .i64 m, .string ac], .int .i64 d] W (LeP cut ob W)) := H11
  have K45 : Hid (∀ w, Calls Try.prog 88 #[.int .i64 q] w (BoP (qkB q) w)) := fun w => xgq q w
  have K59 : Hid (∀ w, Calls Try.prog 70 #[.string n] w fun e w' => e = .returned (.string n) ∧ Below w.heap.size w w') := fun w => xclone n hnn w
  clear H57 H58 H11 hnn
  generalize qkB q = qb at *
  have HX : Hid (Bx (((w.alloc (.cells #[.int .i64 i0, .int .i64 i1, .string s, .int .i64 i3, .int .i64 i4, .int .i64 i5, .slice ca xs.length cc, .int .i64 i7, .int .i64 i8, .slice ba nb bc] 62)).alloc (.cells #[.string n, .int .i64 q] 43)).alloc (.cells #[.string ⟨#[]⟩, .int .i64 0, .string ⟨#[]⟩, .int .i64 0, .int .i64 0, .int .i64 0, .string ⟨#[]⟩, .int .i64 0, .int .i64 0] 47)) w.heap.size #[.int .i64 i0, .int .i64 i1, .string s, .int .i64 i3, .int .i64 i4, .int .i64 i5, .slice ca xs.length cc, .int .i64 i7, .int .i64 i8, .slice ba nb bc] 62) := ((Bx.new w _ _).kept (World.grownBy_alloc _ _ none) (by simp)).kept (World.grownBy_alloc _ _ none) (by simp)
  have HY : Hid (Bx (((w.alloc (.cells #[.int .i64 i0, .int .i64 i1, .string s, .int .i64 i3, .int .i64 i4, .int .i64 i5, .slice ca xs.length cc, .int .i64 i7, .int .i64 i8, .slice ba nb bc] 62)).alloc (.cells #[.string n, .int .i64 q] 43)).alloc (.cells #[.string ⟨#[]⟩, .int .i64 0, .string ⟨#[]⟩, .int .i64 0, .int .i64 0, .int .i64 0, .string ⟨#[]⟩, .int .i64 0, .int .i64 0] 47)) (w.heap.size + 1) #[.string n, .int .i64 q] 43) := by
    have := Bx.new (w.alloc (.cells #[.int .i64 i0, .int .i64 i1, .string s, .int .i64 i3, .int .i64 i4, .int .i64 i5, .slice ca xs.length cc, .int .i64 i7, .int .i64 i8, .slice ba nb bc] 62)) #[.string n, .int .i64 q] 43
    rw [World.size_alloc] at this
    exact this.kept (World.grownBy_alloc _ _ none) (by simp)
  have HZ : Hid (Bx (((w.alloc (.cells #[.int .i64 i0, .int .i64 i1, .string s, .int .i64 i3, .int .i64 i4, .int .i64 i5, .slice ca xs.length cc, .int .i64 i7, .int .i64 i8, .slice ba nb bc] 62)).alloc (.cells #[.string n, .int .i64 q] 43)).alloc (.cells #[.string ⟨#[]⟩, .int .i64 0, .string ⟨#[]⟩, .int .i64 0, .int .i64 0, .int .i64 0, .string ⟨#[]⟩, .int .i64 0, .int .i64 0] 47)) (w.heap.size + 2) #[.string ⟨#[]⟩, .int .i64 0, .string ⟨#[]⟩, .int .i64 0, .int .i64 0, .int .i64 0, .string ⟨#[]⟩, .int .i64 0, .int .i64 0] 47) := by
    have := Bx.new ((w.alloc (.cells #[.int .i64 i0, .int .i64 i1, .string s, .int .i64 i3, .int .i64 i4, .int .i64 i5, .slice ca xs.length cc, .int .i64 i7, .int .i64 i8, .slice ba nb bc] 62)).alloc (.cells #[.string n, .int .i64 q] 43)) #[.string ⟨#[]⟩, .int .i64 0, .string ⟨#[]⟩, .int .i64 0, .int .i64 0, .int .i64 0, .string ⟨#[]⟩, .int .i64 0, .int .i64 0] 47
    rw [World.size_alloc, World.size_alloc] at this
    exact this
  have HB : Hid (Below w.heap.size w (((w.alloc (.cells #[.int .i64 i0, .int .i64 i1, .string s, .int .i64 i3, .int .i64 i4, .int .i64 i5, .slice ca xs.length cc, .int .i64 i7, .int .i64 i8, .slice ba nb bc] 62)).alloc (.cells #[.string n, .int .i64 q] 43)).alloc (.cells #[.string ⟨#[]⟩, .int .i64 0, .string ⟨#[]⟩, .int .i64 0, .int .i64 0, .int .i64 0, .string ⟨#[]⟩, .int .i64 0, .int .i64 0] 47))) := (((Below.refl _ w).alloc (Nat.le_refl _) _).alloc (by simp) _).alloc (by simp; omega) _
  go_enter Try.func61, Try.ntmps61
  go_upto_region 1 with fail
  generalize (((w.alloc (.cells #[.int .i64 i0, .int .i64 i1, .string s, .int .i64 i3, .int .i64 i4, .int .i64 i5, .slice ca xs.length cc, .int .i64 i7, .int .i64 i8, .slice ba nb bc] 62)).alloc (.cells #[.string n, .int .i64 q] 43)).alloc (.cells #[.string ⟨#[]⟩, .int .i64 0, .string ⟨#[]⟩, .int .i64 0, .int .i64 0, .int .i64 0, .string ⟨#[]⟩, .int .i64 0, .int .i64 0] 47)) = w0 at *
  have c0 : w0.cell? ⟨w.heap.size + 1, 0, none⟩ = some (.string n) := HY.out.cell 0
  go_wp2_with fail
  refine (K57.out _ HB.out).mono ?_
  rintro e w1 ⟨rfl, hb⟩
  clear K57 c0
  have HX1 : Hid (Bx w1 w.heap.size #[.int .i64 i0, .int .i64 i1, .string s, .int .i64 i3, .int .i64 i4, .int .i64 i5, .slice ca xs.length cc, .int .i64 i7, .int .i64 i8, .slice ba nb bc] 62) := HX.out.keep hb
  have HY1 : Hid (Bx w1 (w.heap.size + 1) #[.string n, .int .i64 q] 43) := HY.out.keep hb
  have HZ1 : Hid (Bx w1 (w.heap.size + 2) #[.string ⟨#[]⟩, .int .i64 0, .string ⟨#[]⟩, .int .i64 0, .int .i64 0, .int .i64 0, .string ⟨#[]⟩, .int .i64 0, .int .i64 0] 47) := HZ.out.keep hb
  have HB1 : Hid (Below w.heap.size w w1) := HB.out.trans (hb.mono HB.out.size)
  have ha1 : Below w1.heap.size w1 (w1.alloc (.cells #[.string ai, .int .i64 a1, .int .i64 a2, .int .i64 m, .string ac] 45)) := (Below.refl _ w1).alloc (Nat.le_refl _) _
  have HA1 : Hid (Bx (w1.alloc (.cells #[.string ai, .int .i64 a1, .int .i64 a2, .int .i64 m, .string ac] 45)) w1.heap.size #[.string ai, .int .i64 a1, .int .i64 a2, .int .i64 m, .string ac] 45) := Bx.new w1 _ _
  have HX2 : Hid (Bx (w1.alloc (.cells #[.string ai, .int .i64 a1, .int .i64 a2, .int .i64 m, .string ac] 45)) w.heap.size #[.int .i64 i0, .int .i64 i1, .string s, .int .i64 i3, .int .i64 i4, .int .i64 i5, .slice ca xs.length cc, .int .i64 i7, .int .i64 i8, .slice ba nb bc] 62) := HX1.out.keep ha1
  have HY2 : Hid (Bx (w1.alloc (.cells #[.string ai, .int .i64 a1, .int .i64 a2, .int .i64 m, .string ac] 45)) (w.heap.size + 1) #[.string n, .int .i64 q] 43) := HY1.out.keep ha1
  have HZ2 : Hid (Bx (w1.alloc (.cells #[.string ai, .int .i64 a1, .int .i64 a2, .int .i64 m, .string ac] 45)) (w.heap.size + 2) #[.string ⟨#[]⟩, .int .i64 0, .string ⟨#[]⟩, .int .i64 0, .int .i64 0, .int .i64 0, .string ⟨#[]⟩, .int .i64 0, .int .i64 0] 47) := HZ1.out.keep ha1
  have HB2 : Hid (Below w.heap.size w (w1.alloc (.cells #[.string ai, .int .i64 a1, .int .i64 a2, .int .i64 m, .string ac] 45))) := HB1.out.trans (ha1.mono HB1.out.size)
  clear HX HY HZ HB hb HX1 HY1 HZ1 HB1 ha1
  go_upto_region 2 with fail
  generalize w1.alloc (.cells #[.string ai, .int .i64 a1, .int .i64 a2, .int .i64 m, .string ac] 45) = w2 at *
  generalize w1.heap.size = ga at *
  cases gb with
  | false =>
    clear K58 K11 K45 K59
    have z0 : w2.cell? ⟨w.heap.size + 2, 0, none⟩ = some (.string ⟨#[]⟩) := HZ2.out.cell 0
    have y0 : w2.frozen? ⟨w.heap.size + 2, 0, none⟩ = false := HZ2.out.froz 0
    have z1 : w2.cell? ⟨w.heap.size + 2, 1, none⟩ = some (.int .i64 0) := HZ2.out.cell 1
    have y1 : w2.frozen? ⟨w.heap.size + 2, 1, none⟩ = false := HZ2.out.froz 1
    have z2 : w2.cell? ⟨w.heap.size + 2, 2, none⟩ = some (.string ⟨#[]⟩) := HZ2.out.cell 2
    have y2 : w2.frozen? ⟨w.heap.size + 2, 2, none⟩ = false := HZ2.out.froz 2
    have z3 : w2.cell? ⟨w.heap.size + 2, 3, none⟩ = some (.int .i64 0) := HZ2.out.cell 3
    have y3 : w2.frozen? ⟨w.heap.size + 2, 3, none⟩ = false := HZ2.out.froz 3
    have z4 : w2.cell? ⟨w.heap.size + 2, 4, none⟩ = some (.int .i64 0) := HZ2.out.cell 4
    have y4 : w2.frozen? ⟨w.heap.size + 2, 4, none⟩ = false := HZ2.out.froz 4
    have z5 : w2.cell? ⟨w.heap.size + 2, 5, none⟩ = some (.int .i64 0) := HZ2.out.cell 5
    have y5 : w2.frozen? ⟨w.heap.size + 2, 5, none⟩ = false := HZ2.out.froz 5
    have z6 : w2.cell? ⟨w.heap.size + 2, 6, none⟩ = some (.string ⟨#[]⟩) := HZ2.out.cell 6
    have y6 : w2.frozen? ⟨w.heap.size + 2, 6, none⟩ = false := HZ2.out.froz 6
    have z7 : w2.cell? ⟨w.heap.size + 2, 7, none⟩ = some (.int .i64 0) := HZ2.out.cell 7
    have y7 : w2.frozen? ⟨w.heap.size + 2, 7, none⟩ = false := HZ2.out.froz 7
    have z8 : w2.cell? ⟨w.heap.size + 2, 8, none⟩ = some (.int .i64 0) := HZ2.out.cell 8
    have y8 : w2.frozen? ⟨w.heap.size + 2, 8, none⟩ = false := HZ2.out.froz 8
    go_wp2_with fail
    rw [show (((((((((w2.setCell ⟨w.heap.size + 2, 0, none⟩ (.string ⟨#[]⟩)).setCell ⟨w.heap.size + 2, 1, none⟩ (.int .i64 0)).setCell ⟨w.heap.size + 2, 2, none⟩ (.string ⟨#[]⟩)).setCell ⟨w.heap.size + 2, 3, none⟩ (.int .i64 0)).setCell ⟨w.heap.size + 2, 4, none⟩ (.int .i64 0)).setCell ⟨w.heap.size + 2, 5, none⟩ (.int .i64 0)).setCell ⟨w.heap.size + 2, 6, none⟩ (.string ⟨#[]⟩)).setCell ⟨w.heap.size + 2, 7, none⟩ (.int .i64 0)).setCell ⟨w.heap.size + 2, 8, none⟩ (.int .i64 0)) = nine w2 (w.heap.size + 2) (.string ⟨#[]⟩) (.int .i64 0) (.string ⟨#[]⟩) (.int .i64 0) (.int .i64 0) (.int .i64 0) (.string ⟨#[]⟩) (.int .i64 0) (.int .i64 0) from rfl]
    have HT : Hid (Bx (nine w2 (w.heap.size + 2) (.string ⟨#[]⟩) (.int .i64 0) (.string ⟨#[]⟩) (.int .i64 0) (.int .i64 0) (.int .i64 0) (.string ⟨#[]⟩) (.int .i64 0) (.int .i64 0)) (w.heap.size + 2) #[.string ⟨#[]⟩, .int .i64 0, .string ⟨#[]⟩, .int .i64 0, .int .i64 0, .int .i64 0, .string ⟨#[]⟩, .int .i64 0, .int .i64 0] 47) := nine_bx HZ2.out (.string ⟨#[]⟩) (.int .i64 0) (.string ⟨#[]⟩) (.int .i64 0) (.int .i64 0) (.int .i64 0) (.string ⟨#[]⟩) (.int .i64 0) (.int .i64 0)
    have HTB : Hid (Below w.heap.size w (nine w2 (w.heap.size + 2) (.string ⟨#[]⟩) (.int .i64 0) (.string ⟨#[]⟩) (.int .i64 0) (.int .i64 0) (.int .i64 0) (.string ⟨#[]⟩) (.int .i64 0) (.int .i64 0))) := nine_below HB2.out (by omega) (.string ⟨#[]⟩) (.int .i64 0) (.string ⟨#[]⟩) (.int .i64 0) (.int .i64 0) (.int .i64 0) (.string ⟨#[]⟩) (.int .i64 0) (.int .i64 0)
    generalize nine w2 (w.heap.size + 2) (.string ⟨#[]⟩) (.int .i64 0) (.string ⟨#[]⟩) (.int .i64 0) (.int .i64 0) (.int .i64 0) (.string ⟨#[]⟩) (.int .i64 0) (.int .i64 0) = wz at *
    refine bodyPost_ret (res_cell2 _ _ 8 47 9 _ _ _ _ rfl rfl rfl (res48 HT.out)) rfl ?_
    exact ⟨by unfold fiI; rw [if_neg (by simp [fiE])]; rfl, HTB.out⟩
  | true =>
    have J58 := K58.out rfl
    have J11 := K11.out rfl
    have K58' : Hid (∀ W, Below w.heap.size w W → Calls Try.prog 86 #[.pointer pk, .string n] W (PcP pr pb W)) := J58
    have K11' : Hid (∀ W, Below w.heap.size w W → Calls Try.prog 87 #[.agg #[.int .i64 i0, .int .i64 i1, .string s, .int .i64 i3, .int .i64 i4, .int .i64 i5, .slice ca xs.length cc, .int .i64 i7, .int .i64 i8, .slice ba nb bc], .agg #[.string ai, .int .i64 a1, .int .i64 a2, .int .i64 m, .string ac], .int .i64 d] W (LeP cut ob W)) := J11
    clear J58 J11 K58 K11
    have c0 : w2.cell? ⟨w.heap.size + 1, 0, none⟩ = some (.string n) := HY2.out.cell 0
    go_upto_region 4 with fail
    go_wp2_with fail
    refine (K58'.out _ HB2.out).mono ?_
    rintro e w3 ⟨rfl, hb⟩
    clear K58' c0
    have HA3 : Hid (Bx w3 ga #[.string ai, .int .i64 a1, .int .i64 a2, .int .i64 m, .string ac] 45) := HA1.out.keep hb
    have HX3 : Hid (Bx w3 w.heap.size #[.int .i64 i0, .int .i64 i1, .string s, .int .i64 i3, .int .i64 i4, .int .i64 i5, .slice ca xs.length cc, .int .i64 i7, .int .i64 i8, .slice ba nb bc] 62) := HX2.out.keep hb
    have HY3 : Hid (Bx w3 (w.heap.size + 1) #[.string n, .int .i64 q] 43) := HY2.out.keep hb
    have HZ3 : Hid (Bx w3 (w.heap.size + 2) #[.string ⟨#[]⟩, .int .i64 0, .string ⟨#[]⟩, .int .i64 0, .int .i64 0, .int .i64 0, .string ⟨#[]⟩, .int .i64 0, .int .i64 0] 47) := HZ2.out.keep hb
    have HB3 : Hid (Below w.heap.size w w3) := HB2.out.trans (hb.mono HB2.out.size)
    clear HX2 HY2 HZ2 HB2 HA1 hb
    cases pb with
    | false =>
      clear K11' K45 K59
      have z0 : w3.cell? ⟨w.heap.size + 2, 0, none⟩ = some (.string ⟨#[]⟩) := HZ3.out.cell 0
      have y0 : w3.frozen? ⟨w.heap.size + 2, 0, none⟩ = false := HZ3.out.froz 0
      have z1 : w3.cell? ⟨w.heap.size + 2, 1, none⟩ = some (.int .i64 0) := HZ3.out.cell 1
      have y1 : w3.frozen? ⟨w.heap.size + 2, 1, none⟩ = false := HZ3.out.froz 1
      have z2 : w3.cell? ⟨w.heap.size + 2, 2, none⟩ = some (.string ⟨#[]⟩) := HZ3.out.cell 2
      have y2 : w3.frozen? ⟨w.heap.size + 2, 2, none⟩ = false := HZ3.out.froz 2
      have z3 : w3.cell? ⟨w.heap.size + 2, 3, none⟩ = some (.int .i64 0) := HZ3.out.cell 3
      have y3 : w3.frozen? ⟨w.heap.size + 2, 3, none⟩ = false := HZ3.out.froz 3
      have z4 : w3.cell? ⟨w.heap.size + 2, 4, none⟩ = some (.int .i64 0) := HZ3.out.cell 4
      have y4 : w3.frozen? ⟨w.heap.size + 2, 4, none⟩ = false := HZ3.out.froz 4
      have z5 : w3.cell? ⟨w.heap.size + 2, 5, none⟩ = some (.int .i64 0) := HZ3.out.cell 5
      have y5 : w3.frozen? ⟨w.heap.size + 2, 5, none⟩ = false := HZ3.out.froz 5
      have z6 : w3.cell? ⟨w.heap.size + 2, 6, none⟩ = some (.string ⟨#[]⟩) := HZ3.out.cell 6
      have y6 : w3.frozen? ⟨w.heap.size + 2, 6, none⟩ = false := HZ3.out.froz 6
      have z7 : w3.cell? ⟨w.heap.size + 2, 7, none⟩ = some (.int .i64 0) := HZ3.out.cell 7
      have y7 : w3.frozen? ⟨w.heap.size + 2, 7, none⟩ = false := HZ3.out.froz 7
      have z8 : w3.cell? ⟨w.heap.size + 2, 8, none⟩ = some (.int .i64 0) := HZ3.out.cell 8
      have y8 : w3.frozen? ⟨w.heap.size + 2, 8, none⟩ = false := HZ3.out.froz 8
      go_wp2_with fail
      rw [show (((((((((w3.setCell ⟨w.heap.size + 2, 0, none⟩ (.string ⟨#[]⟩)).setCell ⟨w.heap.size + 2, 1, none⟩ (.int .i64 0)).setCell ⟨w.heap.size + 2, 2, none⟩ (.string ⟨#[]⟩)).setCell ⟨w.heap.size + 2, 3, none⟩ (.int .i64 0)).setCell ⟨w.heap.size + 2, 4, none⟩ (.int .i64 0)).setCell ⟨w.heap.size + 2, 5, none⟩ (.int .i64 0)).setCell ⟨w.heap.size + 2, 6, none⟩ (.string ⟨#[]⟩)).setCell ⟨w.heap.size + 2, 7, none⟩ (.int .i64 0)).setCell ⟨w.heap.size + 2, 8, none⟩ (.int .i64 0)) = nine w3 (w.heap.size + 2) (.string ⟨#[]⟩) (.int .i64 0) (.string ⟨#[]⟩) (.int .i64 0) (.int .i64 0) (.int .i64 0) (.string ⟨#[]⟩) (.int .i64 0) (.int .i64 0) from rfl]
      have HT : Hid (Bx (nine w3 (w.heap.size + 2) (.string ⟨#[]⟩) (.int .i64 0) (.string ⟨#[]⟩) (.int .i64 0) (.int .i64 0) (.int .i64 0) (.string ⟨#[]⟩) (.int .i64 0) (.int .i64 0)) (w.heap.size + 2) #[.string ⟨#[]⟩, .int .i64 0, .string ⟨#[]⟩, .int .i64 0, .int .i64 0, .int .i64 0, .string ⟨#[]⟩, .int .i64 0, .int .i64 0] 47) := nine_bx HZ3.out (.string ⟨#[]⟩) (.int .i64 0) (.string ⟨#[]⟩) (.int .i64 0) (.int .i64 0) (.int .i64 0) (.string ⟨#[]⟩) (.int .i64 0) (.int .i64 0)
      have HTB : Hid (Below w.heap.size w (nine w3 (w.heap.size + 2) (.string ⟨#[]⟩) (.int .i64 0) (.string ⟨#[]⟩) (.int .i64 0) (.int .i64 0) (.int .i64 0) (.string ⟨#[]⟩) (.int .i64 0) (.int .i64 0))) := nine_below HB3.out (by omega) (.string ⟨#[]⟩) (.int .i64 0) (.string ⟨#[]⟩) (.int .i64 0) (.int .i64 0) (.int .i64 0) (.string ⟨#[]⟩) (.int .i64 0) (.int .i64 0)
      generalize nine w3 (w.heap.size + 2) (.string ⟨#[]⟩) (.int .i64 0) (.string ⟨#[]⟩) (.int .i64 0) (.int .i64 0) (.int .i64 0) (.string ⟨#[]⟩) (.int .i64 0) (.int .i64 0) = wz at *
      refine bodyPost_ret (res_cell2 _ _ 8 47 9 _ _ _ _ rfl rfl rfl (res48 HT.out)) rfl ?_
      exact ⟨by unfold fiI; rw [if_neg (by simp [fiE])]; rfl, HTB.out⟩
    | true =>
      have x0 : w3.cell? ⟨w.heap.size, 0, none⟩ = some (.int .i64 i0) := HX3.out.cell 0
      have x1 : w3.cell? ⟨w.heap.size, 1, none⟩ = some (.int .i64 i1) := HX3.out.cell 1
      have x2 : w3.cell? ⟨w.heap.size, 2, none⟩ = some (.string s) := HX3.out.cell 2
      have x3 : w3.cell? ⟨w.heap.size, 3, none⟩ = some (.int .i64 i3) := HX3.out.cell 3
      have x4 : w3.cell? ⟨w.heap.size, 4, none⟩ = some (.int .i64 i4) := HX3.out.cell 4
      have x5 : w3.cell? ⟨w.heap.size, 5, none⟩ = some (.int .i64 i5) := HX3.out.cell 5
      have x6 : w3.cell? ⟨w.heap.size, 6, none⟩ = some (.slice ca xs.length cc) := HX3.out.cell 6
      have x7 : w3.cell? ⟨w.heap.size, 7, none⟩ = some (.int .i64 i7) := HX3.out.cell 7
      have x8 : w3.cell? ⟨w.heap.size, 8, none⟩ = some (.int .i64 i8) := HX3.out.cell 8
      have x9 : w3.cell? ⟨w.heap.size, 9, none⟩ = some (.slice ba nb bc) := HX3.out.cell 9
      have t0 : w3.cell? ⟨ga, 0, none⟩ = some (.string ai) := HA3.out.cell 0
      have t1 : w3.cell? ⟨ga, 1, none⟩ = some (.int .i64 a1) := HA3.out.cell 1
      have t2 : w3.cell? ⟨ga, 2, none⟩ = some (.int .i64 a2) := HA3.out.cell 2
      have t3 : w3.cell? ⟨ga, 3, none⟩ = some (.int .i64 m) := HA3.out.cell 3
      have t4 : w3.cell? ⟨ga, 4, none⟩ = some (.string ac) := HA3.out.cell 4
      go_upto_region 7 with fail
      go_wp2_with fail
      refine (K11'.out _ HB3.out).mono ?_
      rintro e w4 ⟨rfl, hb⟩
      clear K11' x0 x1 x2 x3 x4 x5 x6 x7 x8 x9 t0 t1 t2 t3 t4
      have HA4 : Hid (Bx w4 ga #[.string ai, .int .i64 a1, .int .i64 a2, .int .i64 m, .string ac] 45) := HA3.out.keep hb
      have HX4 : Hid (Bx w4 w.heap.size #[.int .i64 i0, .int .i64 i1, .string s, .int .i64 i3, .int .i64 i4, .int .i64 i5, .slice ca xs.length cc, .int .i64 i7, .int .i64 i8, .slice ba nb bc] 62) := HX3.out.keep hb
      have HY4 : Hid (Bx w4 (w.heap.size + 1) #[.string n, .int .i64 q] 43) := HY3.out.keep hb
      have HZ4 : Hid (Bx w4 (w.heap.size + 2) #[.string ⟨#[]⟩, .int .i64 0, .string ⟨#[]⟩, .int .i64 0, .int .i64 0, .int .i64 0, .string ⟨#[]⟩, .int .i64 0, .int .i64 0] 47) := HZ3.out.keep hb
      have HB4 : Hid (Below w.heap.size w w4) := HB3.out.trans (hb.mono HB3.out.size)
      clear HX3 HY3 HZ3 HB3 HA3 hb
      cases ob with
      | false =>
        clear K45 K59
        have z0 : w4.cell? ⟨w.heap.size + 2, 0, none⟩ = some (.string ⟨#[]⟩) := HZ4.out.cell 0
        have y0 : w4.frozen? ⟨w.heap.size + 2, 0, none⟩ = false := HZ4.out.froz 0
        have z1 : w4.cell? ⟨w.heap.size + 2, 1, none⟩ = some (.int .i64 0) := HZ4.out.cell 1
        have y1 : w4.frozen? ⟨w.heap.size + 2, 1, none⟩ = false := HZ4.out.froz 1
        have z2 : w4.cell? ⟨w.heap.size + 2, 2, none⟩ = some (.string ⟨#[]⟩) := HZ4.out.cell 2
        have y2 : w4.frozen? ⟨w.heap.size + 2, 2, none⟩ = false := HZ4.out.froz 2
        have z3 : w4.cell? ⟨w.heap.size + 2, 3, none⟩ = some (.int .i64 0) := HZ4.out.cell 3
        have y3 : w4.frozen? ⟨w.heap.size + 2, 3, none⟩ = false := HZ4.out.froz 3
        have z4 : w4.cell? ⟨w.heap.size + 2, 4, none⟩ = some (.int .i64 0) := HZ4.out.cell 4
        have y4 : w4.frozen? ⟨w.heap.size + 2, 4, none⟩ = false := HZ4.out.froz 4
        have z5 : w4.cell? ⟨w.heap.size + 2, 5, none⟩ = some (.int .i64 0) := HZ4.out.cell 5
        have y5 : w4.frozen? ⟨w.heap.size + 2, 5, none⟩ = false := HZ4.out.froz 5
        have z6 : w4.cell? ⟨w.heap.size + 2, 6, none⟩ = some (.string ⟨#[]⟩) := HZ4.out.cell 6
        have y6 : w4.frozen? ⟨w.heap.size + 2, 6, none⟩ = false := HZ4.out.froz 6
        have z7 : w4.cell? ⟨w.heap.size + 2, 7, none⟩ = some (.int .i64 0) := HZ4.out.cell 7
        have y7 : w4.frozen? ⟨w.heap.size + 2, 7, none⟩ = false := HZ4.out.froz 7
        have z8 : w4.cell? ⟨w.heap.size + 2, 8, none⟩ = some (.int .i64 0) := HZ4.out.cell 8
        have y8 : w4.frozen? ⟨w.heap.size + 2, 8, none⟩ = false := HZ4.out.froz 8
        go_wp2_with fail
        rw [show (((((((((w4.setCell ⟨w.heap.size + 2, 0, none⟩ (.string ⟨#[]⟩)).setCell ⟨w.heap.size + 2, 1, none⟩ (.int .i64 0)).setCell ⟨w.heap.size + 2, 2, none⟩ (.string ⟨#[]⟩)).setCell ⟨w.heap.size + 2, 3, none⟩ (.int .i64 0)).setCell ⟨w.heap.size + 2, 4, none⟩ (.int .i64 0)).setCell ⟨w.heap.size + 2, 5, none⟩ (.int .i64 0)).setCell ⟨w.heap.size + 2, 6, none⟩ (.string ⟨#[]⟩)).setCell ⟨w.heap.size + 2, 7, none⟩ (.int .i64 0)).setCell ⟨w.heap.size + 2, 8, none⟩ (.int .i64 0)) = nine w4 (w.heap.size + 2) (.string ⟨#[]⟩) (.int .i64 0) (.string ⟨#[]⟩) (.int .i64 0) (.int .i64 0) (.int .i64 0) (.string ⟨#[]⟩) (.int .i64 0) (.int .i64 0) from rfl]
        have HT : Hid (Bx (nine w4 (w.heap.size + 2) (.string ⟨#[]⟩) (.int .i64 0) (.string ⟨#[]⟩) (.int .i64 0) (.int .i64 0) (.int .i64 0) (.string ⟨#[]⟩) (.int .i64 0) (.int .i64 0)) (w.heap.size + 2) #[.string ⟨#[]⟩, .int .i64 0, .string ⟨#[]⟩, .int .i64 0, .int .i64 0, .int .i64 0, .string ⟨#[]⟩, .int .i64 0, .int .i64 0] 47) := nine_bx HZ4.out (.string ⟨#[]⟩) (.int .i64 0) (.string ⟨#[]⟩) (.int .i64 0) (.int .i64 0) (.int .i64 0) (.string ⟨#[]⟩) (.int .i64 0) (.int .i64 0)
        have HTB : Hid (Below w.heap.size w (nine w4 (w.heap.size + 2) (.string ⟨#[]⟩) (.int .i64 0) (.string ⟨#[]⟩) (.int .i64 0) (.int .i64 0) (.int .i64 0) (.string ⟨#[]⟩) (.int .i64 0) (.int .i64 0))) := nine_below HB4.out (by omega) (.string ⟨#[]⟩) (.int .i64 0) (.string ⟨#[]⟩) (.int .i64 0) (.int .i64 0) (.int .i64 0) (.string ⟨#[]⟩) (.int .i64 0) (.int .i64 0)
        generalize nine w4 (w.heap.size + 2) (.string ⟨#[]⟩) (.int .i64 0) (.string ⟨#[]⟩) (.int .i64 0) (.int .i64 0) (.int .i64 0) (.string ⟨#[]⟩) (.int .i64 0) (.int .i64 0) = wz at *
        refine bodyPost_ret (res_cell2 _ _ 8 47 9 _ _ _ _ rfl rfl rfl (res48 HT.out)) rfl ?_
        exact ⟨by unfold fiI; rw [if_neg (by simp [fiE])]; rfl, HTB.out⟩
      | true =>
        have c1 : w4.cell? ⟨w.heap.size + 1, 1, none⟩ = some (.int .i64 q) := HY4.out.cell 1
        go_upto_region 10 with fail
        cases qb with
        | false =>
          have z0 : w4.cell? ⟨w.heap.size + 2, 0, none⟩ = some (.string ⟨#[]⟩) := HZ4.out.cell 0
          have y0 : w4.frozen? ⟨w.heap.size + 2, 0, none⟩ = false := HZ4.out.froz 0
          have z1 : w4.cell? ⟨w.heap.size + 2, 1, none⟩ = some (.int .i64 0) := HZ4.out.cell 1
          have y1 : w4.frozen? ⟨w.heap.size + 2, 1, none⟩ = false := HZ4.out.froz 1
          have z2 : w4.cell? ⟨w.heap.size + 2, 2, none⟩ = some (.string ⟨#[]⟩) := HZ4.out.cell 2
          have y2 : w4.frozen? ⟨w.heap.size + 2, 2, none⟩ = false := HZ4.out.froz 2
          have z3 : w4.cell? ⟨w.heap.size + 2, 3, none⟩ = some (.int .i64 0) := HZ4.out.cell 3
          have y3 : w4.frozen? ⟨w.heap.size + 2, 3, none⟩ = false := HZ4.out.froz 3
          have z4 : w4.cell? ⟨w.heap.size + 2, 4, none⟩ = some (.int .i64 0) := HZ4.out.cell 4
          have y4 : w4.frozen? ⟨w.heap.size + 2, 4, none⟩ = false := HZ4.out.froz 4
          have z5 : w4.cell? ⟨w.heap.size + 2, 5, none⟩ = some (.int .i64 0) := HZ4.out.cell 5
          have y5 : w4.frozen? ⟨w.heap.size + 2, 5, none⟩ = false := HZ4.out.froz 5
          have z6 : w4.cell? ⟨w.heap.size + 2, 6, none⟩ = some (.string ⟨#[]⟩) := HZ4.out.cell 6
          have y6 : w4.frozen? ⟨w.heap.size + 2, 6, none⟩ = false := HZ4.out.froz 6
          have z7 : w4.cell? ⟨w.heap.size + 2, 7, none⟩ = some (.int .i64 0) := HZ4.out.cell 7
          have y7 : w4.frozen? ⟨w.heap.size + 2, 7, none⟩ = false := HZ4.out.froz 7
          have z8 : w4.cell? ⟨w.heap.size + 2, 8, none⟩ = some (.int .i64 0) := HZ4.out.cell 8
          have y8 : w4.frozen? ⟨w.heap.size + 2, 8, none⟩ = false := HZ4.out.froz 8
          go_wp2_with (go_at_call 88; refine (K45.out _).mono ?_; clear K45; rintro e w9 ⟨rfl, rfl⟩)
          rw [show (((((((((w4.setCell ⟨w.heap.size + 2, 0, none⟩ (.string ⟨#[]⟩)).setCell ⟨w.heap.size + 2, 1, none⟩ (.int .i64 0)).setCell ⟨w.heap.size + 2, 2, none⟩ (.string ⟨#[]⟩)).setCell ⟨w.heap.size + 2, 3, none⟩ (.int .i64 0)).setCell ⟨w.heap.size + 2, 4, none⟩ (.int .i64 0)).setCell ⟨w.heap.size + 2, 5, none⟩ (.int .i64 0)).setCell ⟨w.heap.size + 2, 6, none⟩ (.string ⟨#[]⟩)).setCell ⟨w.heap.size + 2, 7, none⟩ (.int .i64 0)).setCell ⟨w.heap.size + 2, 8, none⟩ (.int .i64 0)) = nine w4 (w.heap.size + 2) (.string ⟨#[]⟩) (.int .i64 0) (.string ⟨#[]⟩) (.int .i64 0) (.int .i64 0) (.int .i64 0) (.string ⟨#[]⟩) (.int .i64 0) (.int .i64 0) from rfl]
          have HT : Hid (Bx (nine w4 (w.heap.size + 2) (.string ⟨#[]⟩) (.int .i64 0) (.string ⟨#[]⟩) (.int .i64 0) (.int .i64 0) (.int .i64 0) (.string ⟨#[]⟩) (.int .i64 0) (.int .i64 0)) (w.heap.size + 2) #[.string ⟨#[]⟩, .int .i64 0, .string ⟨#[]⟩, .int .i64 0, .int .i64 0, .int .i64 0, .string ⟨#[]⟩, .int .i64 0, .int .i64 0] 47) := nine_bx HZ4.out (.string ⟨#[]⟩) (.int .i64 0) (.string ⟨#[]⟩) (.int .i64 0) (.int .i64 0) (.int .i64 0) (.string ⟨#[]⟩) (.int .i64 0) (.int .i64 0)
          have HTB : Hid (Below w.heap.size w (nine w4 (w.heap.size + 2) (.string ⟨#[]⟩) (.int .i64 0) (.string ⟨#[]⟩) (.int .i64 0) (.int .i64 0) (.int .i64 0) (.string ⟨#[]⟩) (.int .i64 0) (.int .i64 0))) := nine_below HB4.out (by omega) (.string ⟨#[]⟩) (.int .i64 0) (.string ⟨#[]⟩) (.int .i64 0) (.int .i64 0) (.int .i64 0) (.string ⟨#[]⟩) (.int .i64 0) (.int .i64 0)
          generalize nine w4 (w.heap.size + 2) (.string ⟨#[]⟩) (.int .i64 0) (.string ⟨#[]⟩) (.int .i64 0) (.int .i64 0) (.int .i64 0) (.string ⟨#[]⟩) (.int .i64 0) (.int .i64 0) = wz at *
          refine bodyPost_ret (res_cell2 _ _ 8 47 9 _ _ _ _ rfl rfl rfl (res48 HT.out)) rfl ?_
          exact ⟨by unfold fiI; rw [if_neg (by simp [fiE])]; rfl, HTB.out⟩
        | true =>
          have c0 : w4.cell? ⟨w.heap.size + 1, 0, none⟩ = some (.string n) := HY4.out.cell 0
          go_wp2_with (first | (go_at_call 88; refine (K45.out _).mono ?_; clear K45; rintro e w9 ⟨rfl, rfl⟩))
          refine (K59.out _).mono ?_
          rintro e w5 ⟨rfl, hb⟩
          have HA5 : Hid (Bx w5 ga #[.string ai, .int .i64 a1, .int .i64 a2, .int .i64 m, .string ac] 45) := HA4.out.keep hb
          have HX5 : Hid (Bx w5 w.heap.size #[.int .i64 i0, .int .i64 i1, .string s, .int .i64 i3, .int .i64 i4, .int .i64 i5, .slice ca xs.length cc, .int .i64 i7, .int .i64 i8, .slice ba nb bc] 62) := HX4.out.keep hb
          have HY5 : Hid (Bx w5 (w.heap.size + 1) #[.string n, .int .i64 q] 43) := HY4.out.keep hb
          have HZ5 : Hid (Bx w5 (w.heap.size + 2) #[.string ⟨#[]⟩, .int .i64 0, .string ⟨#[]⟩, .int .i64 0, .int .i64 0, .int .i64 0, .string ⟨#[]⟩, .int .i64 0, .int .i64 0] 47) := HZ4.out.keep hb
          have HB5 : Hid (Below w.heap.size w w5) := HB4.out.trans (hb.mono HB4.out.size)
          clear HX4 HY4 HZ4 HB4 HA4 hb c0 c1 K59 HX5
          have HGA : Hid (ga ≠ w.heap.size + 1) := fun e => by
            have h1 := HA5.out
            have h2 := HY5.out
            rw [e] at h1
            unfold Bx at h1 h2
            rw [h1] at h2
            injection h2 with h2
            injection h2 with _ h2
            exact absurd h2 (by decide)
          have c0 : w5.cell? ⟨w.heap.size + 1, 0, none⟩ = some (.string n) := HY5.out.cell 0
          have f0 : w5.frozen? ⟨w.heap.size + 1, 0, none⟩ = false := HY5.out.froz 0
          have HY6 : Hid (Bx (w5.setCell ⟨w.heap.size + 1, 0, none⟩ (.string n)) (w.heap.size + 1) #[.string n, .int .i64 q] 43) := HY5.out.setc 0 (.string n)
          have HA6 : Hid (Bx (w5.setCell ⟨w.heap.size + 1, 0, none⟩ (.string n)) ga #[.string ai, .int .i64 a1, .int .i64 a2, .int .i64 m, .string ac] 45) := HA5.out.oset HGA.out 0 _
          have HZ6 : Hid (Bx (w5.setCell ⟨w.heap.size + 1, 0, none⟩ (.string n)) (w.heap.size + 2) #[.string ⟨#[]⟩, .int .i64 0, .string ⟨#[]⟩, .int .i64 0, .int .i64 0, .int .i64 0, .string ⟨#[]⟩, .int .i64 0, .int .i64 0] 47) := HZ5.out.oset (by omega) 0 _
          have HB6 : Hid (Below w.heap.size w (w5.setCell ⟨w.heap.size + 1, 0, none⟩ (.string n))) := HB5.out.setCell (p := ⟨w.heap.size + 1, 0, none⟩) (by simp) _
          clear HY5 HA5 HZ5 HB5 HGA
          go_upto_region 13 with fail
          generalize w5.setCell ⟨w.heap.size + 1, 0, none⟩ (.string n) = w6 at *
          clear c0 f0
          have l0 : w6.cell? ⟨w.heap.size + 1, 0, none⟩ = some (.string n) := HY6.out.cell 0
          have l1 : w6.cell? ⟨w.heap.size + 1, 1, none⟩ = some (.int .i64 q) := HY6.out.cell 1
          have t0 : w6.cell? ⟨ga, 0, none⟩ = some (.string ai) := HA6.out.cell 0
          have t1 : w6.cell? ⟨ga, 1, none⟩ = some (.int .i64 a1) := HA6.out.cell 1
          have t2 : w6.cell? ⟨ga, 2, none⟩ = some (.int .i64 a2) := HA6.out.cell 2
          have t3 : w6.cell? ⟨ga, 3, none⟩ = some (.int .i64 m) := HA6.out.cell 3
          have t4 : w6.cell? ⟨ga, 4, none⟩ = some (.string ac) := HA6.out.cell 4
          have z0 : w6.cell? ⟨w.heap.size + 2, 0, none⟩ = some (.string ⟨#[]⟩) := HZ6.out.cell 0
          have y0 : w6.frozen? ⟨w.heap.size + 2, 0, none⟩ = false := HZ6.out.froz 0
          have z1 : w6.cell? ⟨w.heap.size + 2, 1, none⟩ = some (.int .i64 0) := HZ6.out.cell 1
          have y1 : w6.frozen? ⟨w.heap.size + 2, 1, none⟩ = false := HZ6.out.froz 1
          have z2 : w6.cell? ⟨w.heap.size + 2, 2, none⟩ = some (.string ⟨#[]⟩) := HZ6.out.cell 2
          have y2 : w6.frozen? ⟨w.heap.size + 2, 2, none⟩ = false := HZ6.out.froz 2
          have z3 : w6.cell? ⟨w.heap.size + 2, 3, none⟩ = some (.int .i64 0) := HZ6.out.cell 3
          have y3 : w6.frozen? ⟨w.heap.size + 2, 3, none⟩ = false := HZ6.out.froz 3
          have z4 : w6.cell? ⟨w.heap.size + 2, 4, none⟩ = some (.int .i64 0) := HZ6.out.cell 4
          have y4 : w6.frozen? ⟨w.heap.size + 2, 4, none⟩ = false := HZ6.out.froz 4
          have z5 : w6.cell? ⟨w.heap.size + 2, 5, none⟩ = some (.int .i64 0) := HZ6.out.cell 5
          have y5 : w6.frozen? ⟨w.heap.size + 2, 5, none⟩ = false := HZ6.out.froz 5
          have z6 : w6.cell? ⟨w.heap.size + 2, 6, none⟩ = some (.string ⟨#[]⟩) := HZ6.out.cell 6
          have y6 : w6.frozen? ⟨w.heap.size + 2, 6, none⟩ = false := HZ6.out.froz 6
          have z7 : w6.cell? ⟨w.heap.size + 2, 7, none⟩ = some (.int .i64 0) := HZ6.out.cell 7
          have y7 : w6.frozen? ⟨w.heap.size + 2, 7, none⟩ = false := HZ6.out.froz 7
          have z8 : w6.cell? ⟨w.heap.size + 2, 8, none⟩ = some (.int .i64 0) := HZ6.out.cell 8
          have y8 : w6.frozen? ⟨w.heap.size + 2, 8, none⟩ = false := HZ6.out.froz 8
          go_wp2_with fail
          rw [show (((((((((w6.setCell ⟨w.heap.size + 2, 0, none⟩ (.string n)).setCell ⟨w.heap.size + 2, 1, none⟩ (.int .i64 q)).setCell ⟨w.heap.size + 2, 2, none⟩ (.string ai)).setCell ⟨w.heap.size + 2, 3, none⟩ (.int .i64 a1)).setCell ⟨w.heap.size + 2, 4, none⟩ (.int .i64 a2)).setCell ⟨w.heap.size + 2, 5, none⟩ (.int .i64 m)).setCell ⟨w.heap.size + 2, 6, none⟩ (.string ac)).setCell ⟨w.heap.size + 2, 7, none⟩ (.int .i64 pr)).setCell ⟨w.heap.size + 2, 8, none⟩ (.int .i64 cut)) = nine w6 (w.heap.size + 2) (.string n) (.int .i64 q) (.string ai) (.int .i64 a1) (.int .i64 a2) (.int .i64 m) (.string ac) (.int .i64 pr) (.int .i64 cut) from rfl]
          have HT : Hid (Bx (nine w6 (w.heap.size + 2) (.string n) (.int .i64 q) (.string ai) (.int .i64 a1) (.int .i64 a2) (.int .i64 m) (.string ac) (.int .i64 pr) (.int .i64 cut)) (w.heap.size + 2) #[.string n, .int .i64 q, .string ai, .int .i64 a1, .int .i64 a2, .int .i64 m, .string ac, .int .i64 pr, .int .i64 cut] 47) := nine_bx HZ6.out (.string n) (.int .i64 q) (.string ai) (.int .i64 a1) (.int .i64 a2) (.int .i64 m) (.string ac) (.int .i64 pr) (.int .i64 cut)
          have HTB : Hid (Below w.heap.size w (nine w6 (w.heap.size + 2) (.string n) (.int .i64 q) (.string ai) (.int .i64 a1) (.int .i64 a2) (.int .i64 m) (.string ac) (.int .i64 pr) (.int .i64 cut))) := nine_below HB6.out (by omega) (.string n) (.int .i64 q) (.string ai) (.int .i64 a1) (.int .i64 a2) (.int .i64 m) (.string ac) (.int .i64 pr) (.int .i64 cut)
          generalize nine w6 (w.heap.size + 2) (.string n) (.int .i64 q) (.string ai) (.int .i64 a1) (.int .i64 a2) (.int .i64 m) (.string ac) (.int .i64 pr) (.int .i64 cut) = wz at *
          refine bodyPost_ret (res_cell2 _ _ 8 47 9 _ _ _ _ rfl rfl rfl (res48 HT.out)) rfl ?_
          exact ⟨rfl, HTB.out⟩
set_option maxHeartbeats 16000000 in
theorem rfi (i0 i1 i3 i4 i5 i7 i8 : Int) (s : ByteArray) (ca ba : Option Addr) (cc nb bc : Nat) (xs : List N14.Ct) (n : ByteArray) (q d : Int) (L : List Kn) (g : Num.Good L) (ra : Option Addr) (rc : Nat) (hlc : xs.length ≤ 9223372036854775807) (w : World) (h : Rw 6 kcs w ra L) (hC : N14.Cts w.heap.size w ca xs) (ai ac : ByteArray) (a1 a2 m pr cut : Int) (gb pb ob : Bool) (hgb : has L n.toList = gb)
    (hat : gb = true → ∃ hp : pos L n.toList < L.length, L[pos L n.toList] = ⟨⟨ai, a1, a2, m, ac⟩, pr⟩) (hpb : pb = decide (pr ≠ 0)) (hof : gb = true → ofC (lft m d) a2 xs = (cut, ob)) :
    Calls Try.prog 64 #[.slice ra L.length rc, .agg #[.int .i64 i0, .int .i64 i1, .string s, .int .i64 i3, .int .i64 i4, .int .i64 i5, .slice ca xs.length cc, .int .i64 i7, .int .i64 i8, .slice ba nb bc], .agg #[.string n, .int .i64 q], .int .i64 d] w (FiP (fiI gb pb ob (qkB q) ⟨n, q, ⟨ai, a1, a2, m, ac⟩, pr, cut⟩) (fiE gb pb ob (qkB q)) w) := by
  have K55 : Hid (∀ W, Below w.heap.size w W → Calls Try.prog 59 #[.slice ra L.length rc, .string n] W (FxP (fx L n.toList) W)) := fun W hW => rfind g.srt (by have := g.len; omega) n ra rc W (h.below hW)
  obtain ⟨qb, hqb⟩ : ∃ qb, qb = qkB q := ⟨_, rfl⟩
  rw [← hqb]
  have HQB : Hid (qb = qkB q) := hqb
  clear hqb
  have HX : Hid (Bx (((w.alloc (.cells #[.int .i64 i0, .int .i64 i1, .string s, .int .i64 i3, .int .i64 i4, .int .i64 i5, .slice ca xs.length cc, .int .i64 i7, .int .i64 i8, .slice ba nb bc] 62)).alloc (.cells #[.string n, .int .i64 q] 43)).alloc (.cells #[.string ⟨#[]⟩, .int .i64 0, .string ⟨#[]⟩, .int .i64 0, .int .i64 0, .int .i64 0, .string ⟨#[]⟩, .int .i64 0, .int .i64 0] 87)) w.heap.size #[.int .i64 i0, .int .i64 i1, .string s, .int .i64 i3, .int .i64 i4, .int .i64 i5, .slice ca xs.length cc, .int .i64 i7, .int .i64 i8, .slice ba nb bc] 62) := ((Bx.new w _ _).kept (World.grownBy_alloc _ _ none) (by simp)).kept (World.grownBy_alloc _ _ none) (by simp)
  have HY : Hid (Bx (((w.alloc (.cells #[.int .i64 i0, .int .i64 i1, .string s, .int .i64 i3, .int .i64 i4, .int .i64 i5, .slice ca xs.length cc, .int .i64 i7, .int .i64 i8, .slice ba nb bc] 62)).alloc (.cells #[.string n, .int .i64 q] 43)).alloc (.cells #[.string ⟨#[]⟩, .int .i64 0, .string ⟨#[]⟩, .int .i64 0, .int .i64 0, .int .i64 0, .string ⟨#[]⟩, .int .i64 0, .int .i64 0] 87)) (w.heap.size + 1) #[.string n, .int .i64 q] 43) := by
    have := Bx.new (w.alloc (.cells #[.int .i64 i0, .int .i64 i1, .string s, .int .i64 i3, .int .i64 i4, .int .i64 i5, .slice ca xs.length cc, .int .i64 i7, .int .i64 i8, .slice ba nb bc] 62)) #[.string n, .int .i64 q] 43
    rw [World.size_alloc] at this
    exact this.kept (World.grownBy_alloc _ _ none) (by simp)
  have HZ : Hid (Bx (((w.alloc (.cells #[.int .i64 i0, .int .i64 i1, .string s, .int .i64 i3, .int .i64 i4, .int .i64 i5, .slice ca xs.length cc, .int .i64 i7, .int .i64 i8, .slice ba nb bc] 62)).alloc (.cells #[.string n, .int .i64 q] 43)).alloc (.cells #[.string ⟨#[]⟩, .int .i64 0, .string ⟨#[]⟩, .int .i64 0, .int .i64 0, .int .i64 0, .string ⟨#[]⟩, .int .i64 0, .int .i64 0] 87)) (w.heap.size + 2) #[.string ⟨#[]⟩, .int .i64 0, .string ⟨#[]⟩, .int .i64 0, .int .i64 0, .int .i64 0, .string ⟨#[]⟩, .int .i64 0, .int .i64 0] 87) := by
    have := Bx.new ((w.alloc (.cells #[.int .i64 i0, .int .i64 i1, .string s, .int .i64 i3, .int .i64 i4, .int .i64 i5, .slice ca xs.length cc, .int .i64 i7, .int .i64 i8, .slice ba nb bc] 62)).alloc (.cells #[.string n, .int .i64 q] 43)) #[.string ⟨#[]⟩, .int .i64 0, .string ⟨#[]⟩, .int .i64 0, .int .i64 0, .int .i64 0, .string ⟨#[]⟩, .int .i64 0, .int .i64 0] 87
    rw [World.size_alloc, World.size_alloc] at this
    exact this
  have HB : Hid (Below w.heap.size w (((w.alloc (.cells #[.int .i64 i0, .int .i64 i1, .string s, .int .i64 i3, .int .i64 i4, .int .i64 i5, .slice ca xs.length cc, .int .i64 i7, .int .i64 i8, .slice ba nb bc] 62)).alloc (.cells #[.string n, .int .i64 q] 43)).alloc (.cells #[.string ⟨#[]⟩, .int .i64 0, .string ⟨#[]⟩, .int .i64 0, .int .i64 0, .int .i64 0, .string ⟨#[]⟩, .int .i64 0, .int .i64 0] 87))) := (((Below.refl _ w).alloc (Nat.le_refl _) _).alloc (by simp) _).alloc (by simp; omega) _
  cases gb with
  | false =>
    have hf : fx L n.toList = -1 := by unfold fx; rw [hgb]; rfl
    rw [hf] at K55
    clear h g hgb hat hf hpb hof hC
    go_enter Try.func64, Try.ntmps64
    go_upto_region 1 with fail
    generalize (((w.alloc (.cells #[.int .i64 i0, .int .i64 i1, .string s, .int .i64 i3, .int .i64 i4, .int .i64 i5, .slice ca xs.length cc, .int .i64 i7, .int .i64 i8, .slice ba nb bc] 62)).alloc (.cells #[.string n, .int .i64 q] 43)).alloc (.cells #[.string ⟨#[]⟩, .int .i64 0, .string ⟨#[]⟩, .int .i64 0, .int .i64 0, .int .i64 0, .string ⟨#[]⟩, .int .i64 0, .int .i64 0] 87)) = w0 at *
    have c0 : w0.cell? ⟨w.heap.size + 1, 0, none⟩ = some (.string n) := HY.out.cell 0
    have z0 : w0.cell? ⟨w.heap.size + 2, 0, none⟩ = some (.string ⟨#[]⟩) := HZ.out.cell 0
    have y0 : w0.frozen? ⟨w.heap.size + 2, 0, none⟩ = false := HZ.out.froz 0
    have z1 : w0.cell? ⟨w.heap.size + 2, 1, none⟩ = some (.int .i64 0) := HZ.out.cell 1
    have y1 : w0.frozen? ⟨w.heap.size + 2, 1, none⟩ = false := HZ.out.froz 1
    have z2 : w0.cell? ⟨w.heap.size + 2, 2, none⟩ = some (.string ⟨#[]⟩) := HZ.out.cell 2
    have y2 : w0.frozen? ⟨w.heap.size + 2, 2, none⟩ = false := HZ.out.froz 2
    have z3 : w0.cell? ⟨w.heap.size + 2, 3, none⟩ = some (.int .i64 0) := HZ.out.cell 3
    have y3 : w0.frozen? ⟨w.heap.size + 2, 3, none⟩ = false := HZ.out.froz 3
    have z4 : w0.cell? ⟨w.heap.size + 2, 4, none⟩ = some (.int .i64 0) := HZ.out.cell 4
    have y4 : w0.frozen? ⟨w.heap.size + 2, 4, none⟩ = false := HZ.out.froz 4
    have z5 : w0.cell? ⟨w.heap.size + 2, 5, none⟩ = some (.int .i64 0) := HZ.out.cell 5
    have y5 : w0.frozen? ⟨w.heap.size + 2, 5, none⟩ = false := HZ.out.froz 5
    have z6 : w0.cell? ⟨w.heap.size + 2, 6, none⟩ = some (.string ⟨#[]⟩) := HZ.out.cell 6
    have y6 : w0.frozen? ⟨w.heap.size + 2, 6, none⟩ = false := HZ.out.froz 6
    have z7 : w0.cell? ⟨w.heap.size + 2, 7, none⟩ = some (.int .i64 0) := HZ.out.cell 7
    have y7 : w0.frozen? ⟨w.heap.size + 2, 7, none⟩ = false := HZ.out.froz 7
    have z8 : w0.cell? ⟨w.heap.size + 2, 8, none⟩ = some (.int .i64 0) := HZ.out.cell 8
    have y8 : w0.frozen? ⟨w.heap.size + 2, 8, none⟩ = false := HZ.out.froz 8
    go_wp2_with (go_at_call 59; refine (K55.out _ HB.out).mono ?_; clear K55; rintro e w1 ⟨rfl, rfl⟩)
    rw [show (((((((((w0.setCell ⟨w.heap.size + 2, 0, none⟩ (.string ⟨#[]⟩)).setCell ⟨w.heap.size + 2, 1, none⟩ (.int .i64 0)).setCell ⟨w.heap.size + 2, 2, none⟩ (.string ⟨#[]⟩)).setCell ⟨w.heap.size + 2, 3, none⟩ (.int .i64 0)).setCell ⟨w.heap.size + 2, 4, none⟩ (.int .i64 0)).setCell ⟨w.heap.size + 2, 5, none⟩ (.int .i64 0)).setCell ⟨w.heap.size + 2, 6, none⟩ (.string ⟨#[]⟩)).setCell ⟨w.heap.size + 2, 7, none⟩ (.int .i64 0)).setCell ⟨w.heap.size + 2, 8, none⟩ (.int .i64 0)) = nine w0 (w.heap.size + 2) (.string ⟨#[]⟩) (.int .i64 0) (.string ⟨#[]⟩) (.int .i64 0) (.int .i64 0) (.int .i64 0) (.string ⟨#[]⟩) (.int .i64 0) (.int .i64 0) from rfl]
    have HT : Hid (Bx (nine w0 (w.heap.size + 2) (.string ⟨#[]⟩) (.int .i64 0) (.string ⟨#[]⟩) (.int .i64 0) (.int .i64 0) (.int .i64 0) (.string ⟨#[]⟩) (.int .i64 0) (.int .i64 0)) (w.heap.size + 2) #[.string ⟨#[]⟩, .int .i64 0, .string ⟨#[]⟩, .int .i64 0, .int .i64 0, .int .i64 0, .string ⟨#[]⟩, .int .i64 0, .int .i64 0] 87) := nine_bx HZ.out (.string ⟨#[]⟩) (.int .i64 0) (.string ⟨#[]⟩) (.int .i64 0) (.int .i64 0) (.int .i64 0) (.string ⟨#[]⟩) (.int .i64 0) (.int .i64 0)
    have HTB : Hid (Below w.heap.size w (nine w0 (w.heap.size + 2) (.string ⟨#[]⟩) (.int .i64 0) (.string ⟨#[]⟩) (.int .i64 0) (.int .i64 0) (.int .i64 0) (.string ⟨#[]⟩) (.int .i64 0) (.int .i64 0))) := nine_below HB.out (by omega) (.string ⟨#[]⟩) (.int .i64 0) (.string ⟨#[]⟩) (.int .i64 0) (.int .i64 0) (.int .i64 0) (.string ⟨#[]⟩) (.int .i64 0) (.int .i64 0)
    generalize nine w0 (w.heap.size + 2) (.string ⟨#[]⟩) (.int .i64 0) (.string ⟨#[]⟩) (.int .i64 0) (.int .i64 0) (.int .i64 0) (.string ⟨#[]⟩) (.int .i64 0) (.int .i64 0) = wz at *
    refine bodyPost_ret (res_cell2 _ _ 8 87 9 _ _ _ _ rfl rfl rfl (res50 HT.out)) rfl ?_
    exact ⟨by unfold fiI; rw [if_neg (by simp [fiE])]; rfl, HTB.out⟩
  | true =>
    obtain ⟨hp, hL⟩ := hat rfl
    have hf : fx L n.toList = pos L n.toList := by unfold fx; rw [hgb]; rfl
    rw [hf] at K55
    obtain ⟨blk, off, rfl, hbl, hcs⟩ := h (by omega)
    have hm := g.all L[pos L n.toList] (List.getElem_mem hp)
    rw [hL] at hm
    have hcells : ∀ W, Below w.heap.size w W → W.cell? ⟨blk, off + pos L n.toList * 6, none⟩ = some (.string ai) ∧ W.cell? ⟨blk, off + pos L n.toList * 6 + 1, none⟩ = some (.int .i64 a1) ∧ W.cell? ⟨blk, off + pos L n.toList * 6 + 2, none⟩ = some (.int .i64 a2) ∧ W.cell? ⟨blk, off + pos L n.toList * 6 + 3, none⟩ = some (.int .i64 m) ∧ W.cell? ⟨blk, off + pos L n.toList * 6 + 4, none⟩ = some (.string ac) ∧ W.cell? ⟨blk, off + pos L n.toList * 6 + 5, none⟩ = some (.int .i64 pr) := fun W hW => by
      have := Rw.at6 hcs hW hbl hp
      rw [hL] at this
      exact this
    have HCE : Hid (∀ W, Below w.heap.size w W → W.cell? ⟨blk, off + pos L n.toList * 6, none⟩ = some (.string ai) ∧ W.cell? ⟨blk, off + pos L n.toList * 6 + 1, none⟩ = some (.int .i64 a1) ∧ W.cell? ⟨blk, off + pos L n.toList * 6 + 2, none⟩ = some (.int .i64 a2) ∧ W.cell? ⟨blk, off + pos L n.toList * 6 + 3, none⟩ = some (.int .i64 m) ∧ W.cell? ⟨blk, off + pos L n.toList * 6 + 4, none⟩ = some (.string ac) ∧ W.cell? ⟨blk, off + pos L n.toList * 6 + 5, none⟩ = some (.int .i64 pr)) := hcells
    have K12 : Hid (∀ W, Below w.heap.size w W → Calls Try.prog 90 #[.agg #[.int .i64 i0, .int .i64 i1, .string s, .int .i64 i3, .int .i64 i4, .int .i64 i5, .slice ca xs.length cc, .int .i64 i7, .int .i64 i8, .slice ba nb bc], .agg #[.string ai, .int .i64 a1, .int .i64 a2, .int .i64 m, .string ac], .int .i64 d] W fun e w2 => ∃ y, e = .returned y ∧ (y = .tuple #[.int .i64 cut, .bool ob] ∧ Hid (Below W.heap.size W w2))) := fun W hW => (rof i0 i1 i3 i4 i5 i7 i8 s ca ba cc nb bc xs ai ac a1 a2 m d ⟨hm.m0, hm.m1⟩ W ((hC.keep hW).mono hW.size) hlc).mono fun e w2 k => ⟨_, by have := k.1; rw [hof rfl] at this; exact this, rfl, k.2⟩
    have hpz : (pos L n.toList : Int) < (L.length : Int) := by omega
    have hpn : ¬ (pos L n.toList : Int) < 0 := by omega
    have HPB : Hid (pb = decide (pr ≠ 0)) := hpb
    clear h g hgb hat hcs hof hC hL hf hcells hm hp hpb
    generalize pos L n.toList = Pp at *
    generalize L.length = N at *
    go_enter Try.func64, Try.ntmps64
    go_upto_region 1 with fail
    generalize (((w.alloc (.cells #[.int .i64 i0, .int .i64 i1, .string s, .int .i64 i3, .int .i64 i4, .int .i64 i5, .slice ca xs.length cc, .int .i64 i7, .int .i64 i8, .slice ba nb bc] 62)).alloc (.cells #[.string n, .int .i64 q] 43)).alloc (.cells #[.string ⟨#[]⟩, .int .i64 0, .string ⟨#[]⟩, .int .i64 0, .int .i64 0, .int .i64 0, .string ⟨#[]⟩, .int .i64 0, .int .i64 0] 87)) = w0 at *
    have c0 : w0.cell? ⟨w.heap.size + 1, 0, none⟩ = some (.string n) := HY.out.cell 0
    obtain ⟨e0, e1, e2, e3, e4, e5⟩ := HCE.out _ HB.out
    by_cases hpr : pr = 0
    · have hprb : (pr == 0) = true := by simp [hpr]
      have hpf : pb = false := by rw [HPB.out]; simp [hpr]
      subst hpf
      have z0 : w0.cell? ⟨w.heap.size + 2, 0, none⟩ = some (.string ⟨#[]⟩) := HZ.out.cell 0
      have y0 : w0.frozen? ⟨w.heap.size + 2, 0, none⟩ = false := HZ.out.froz 0
      have z1 : w0.cell? ⟨w.heap.size + 2, 1, none⟩ = some (.int .i64 0) := HZ.out.cell 1
      have y1 : w0.frozen? ⟨w.heap.size + 2, 1, none⟩ = false := HZ.out.froz 1
      have z2 : w0.cell? ⟨w.heap.size + 2, 2, none⟩ = some (.string ⟨#[]⟩) := HZ.out.cell 2
      have y2 : w0.frozen? ⟨w.heap.size + 2, 2, none⟩ = false := HZ.out.froz 2
      have z3 : w0.cell? ⟨w.heap.size + 2, 3, none⟩ = some (.int .i64 0) := HZ.out.cell 3
      have y3 : w0.frozen? ⟨w.heap.size + 2, 3, none⟩ = false := HZ.out.froz 3
      have z4 : w0.cell? ⟨w.heap.size + 2, 4, none⟩ = some (.int .i64 0) := HZ.out.cell 4
      have y4 : w0.frozen? ⟨w.heap.size + 2, 4, none⟩ = false := HZ.out.froz 4
      have z5 : w0.cell? ⟨w.heap.size + 2, 5, none⟩ = some (.int .i64 0) := HZ.out.cell 5
      have y5 : w0.frozen? ⟨w.heap.size + 2, 5, none⟩ = false := HZ.out.froz 5
      have z6 : w0.cell? ⟨w.heap.size + 2, 6, none⟩ = some (.string ⟨#[]⟩) := HZ.out.cell 6
      have y6 : w0.frozen? ⟨w.heap.size + 2, 6, none⟩ = false := HZ.out.froz 6
      have z7 : w0.cell? ⟨w.heap.size + 2, 7, none⟩ = some (.int .i64 0) := HZ.out.cell 7
      have y7 : w0.frozen? ⟨w.heap.size + 2, 7, none⟩ = false := HZ.out.froz 7
      have z8 : w0.cell? ⟨w.heap.size + 2, 8, none⟩ = some (.int .i64 0) := HZ.out.cell 8
      have y8 : w0.frozen? ⟨w.heap.size + 2, 8, none⟩ = false := HZ.out.froz 8
      clear hpr HPB K12
      go_wp2_with (go_at_call 59; refine (K55.out _ HB.out).mono ?_; clear K55; rintro e w1 ⟨rfl, rfl⟩)
      rw [show (((((((((w0.setCell ⟨w.heap.size + 2, 0, none⟩ (.string ⟨#[]⟩)).setCell ⟨w.heap.size + 2, 1, none⟩ (.int .i64 0)).setCell ⟨w.heap.size + 2, 2, none⟩ (.string ⟨#[]⟩)).setCell ⟨w.heap.size + 2, 3, none⟩ (.int .i64 0)).setCell ⟨w.heap.size + 2, 4, none⟩ (.int .i64 0)).setCell ⟨w.heap.size + 2, 5, none⟩ (.int .i64 0)).setCell ⟨w.heap.size + 2, 6, none⟩ (.string ⟨#[]⟩)).setCell ⟨w.heap.size + 2, 7, none⟩ (.int .i64 0)).setCell ⟨w.heap.size + 2, 8, none⟩ (.int .i64 0)) = nine w0 (w.heap.size + 2) (.string ⟨#[]⟩) (.int .i64 0) (.string ⟨#[]⟩) (.int .i64 0) (.int .i64 0) (.int .i64 0) (.string ⟨#[]⟩) (.int .i64 0) (.int .i64 0) from rfl]
      have HT : Hid (Bx (nine w0 (w.heap.size + 2) (.string ⟨#[]⟩) (.int .i64 0) (.string ⟨#[]⟩) (.int .i64 0) (.int .i64 0) (.int .i64 0) (.string ⟨#[]⟩) (.int .i64 0) (.int .i64 0)) (w.heap.size + 2) #[.string ⟨#[]⟩, .int .i64 0, .string ⟨#[]⟩, .int .i64 0, .int .i64 0, .int .i64 0, .string ⟨#[]⟩, .int .i64 0, .int .i64 0] 87) := nine_bx HZ.out (.string ⟨#[]⟩) (.int .i64 0) (.string ⟨#[]⟩) (.int .i64 0) (.int .i64 0) (.int .i64 0) (.string ⟨#[]⟩) (.int .i64 0) (.int .i64 0)
      have HTB : Hid (Below w.heap.size w (nine w0 (w.heap.size + 2) (.string ⟨#[]⟩) (.int .i64 0) (.string ⟨#[]⟩) (.int .i64 0) (.int .i64 0) (.int .i64 0) (.string ⟨#[]⟩) (.int .i64 0) (.int .i64 0))) := nine_below HB.out (by omega) (.string ⟨#[]⟩) (.int .i64 0) (.string ⟨#[]⟩) (.int .i64 0) (.int .i64 0) (.int .i64 0) (.string ⟨#[]⟩) (.int .i64 0) (.int .i64 0)
      generalize nine w0 (w.heap.size + 2) (.string ⟨#[]⟩) (.int .i64 0) (.string ⟨#[]⟩) (.int .i64 0) (.int .i64 0) (.int .i64 0) (.string ⟨#[]⟩) (.int .i64 0) (.int .i64 0) = wz at *
      refine bodyPost_ret (res_cell2 _ _ 8 87 9 _ _ _ _ rfl rfl rfl (res50 HT.out)) rfl ?_
      exact ⟨by unfold fiI; rw [if_neg (by simp [fiE])]; rfl, HTB.out⟩
    · have hprb : (pr == 0) = false := by simp [hpr]
      have hpf : pb = true := by rw [HPB.out]; simp [hpr]
      subst hpf
      clear hpr HPB
      have x0 : w0.cell? ⟨w.heap.size, 0, none⟩ = some (.int .i64 i0) := HX.out.cell 0
      have x1 : w0.cell? ⟨w.heap.size, 1, none⟩ = some (.int .i64 i1) := HX.out.cell 1
      have x2 : w0.cell? ⟨w.heap.size, 2, none⟩ = some (.string s) := HX.out.cell 2
      have x3 : w0.cell? ⟨w.heap.size, 3, none⟩ = some (.int .i64 i3) := HX.out.cell 3
      have x4 : w0.cell? ⟨w.heap.size, 4, none⟩ = some (.int .i64 i4) := HX.out.cell 4
      have x5 : w0.cell? ⟨w.heap.size, 5, none⟩ = some (.int .i64 i5) := HX.out.cell 5
      have x6 : w0.cell? ⟨w.heap.size, 6, none⟩ = some (.slice ca xs.length cc) := HX.out.cell 6
      have x7 : w0.cell? ⟨w.heap.size, 7, none⟩ = some (.int .i64 i7) := HX.out.cell 7
      have x8 : w0.cell? ⟨w.heap.size, 8, none⟩ = some (.int .i64 i8) := HX.out.cell 8
      have x9 : w0.cell? ⟨w.heap.size, 9, none⟩ = some (.slice ba nb bc) := HX.out.cell 9
      go_wp2_with (go_at_call 59; refine (K55.out _ HB.out).mono ?_; clear K55; rintro e w1 ⟨rfl, rfl⟩)
      go_upto_region 6 with fail
      refine wp_region_held (S := fun W => Below w0.heap.size w0 W) (by kernel_rfl) ?_
      change wpAnyH _ _ _ _ _ 13 #[false, false, false, false, false, false, false, false, false, false, false, false, false] _ w0.drew
      obtain ⟨v0, hv0⟩ : ∃ v, v = w0.drew := ⟨_, rfl⟩
      have hS0 : Below w0.heap.size w0 v0 := by rw [hv0]; exact ⟨rfl, rfl, rfl, Nat.le_refl _, fun _ _ => rfl⟩
      rw [← hv0]
      clear hv0
      have h25 := HX.out.lt
      have h27 : blk < w0.heap.size := Nat.lt_of_lt_of_le hbl HB.out.size
      refine takeR (fuel := 12) (i := 0) (v := .agg #[.int .i64 i0, .int .i64 i1, .string s, .int .i64 i3, .int .i64 i4, .int .i64 i5, .slice ca xs.length cc, .int .i64 i7, .int .i64 i8, .slice ba nb bc]) rfl (by kernel_rfl) (by kernel_rfl) (by kernel_rfl) (fun _ _ _ h => h) (Or.inl ⟨rfl, fun W hW => exl _ _ _ _ rfl (.pointer (some ⟨w.heap.size, 0, none⟩)) _ rfl (load25 W w.heap.size 0 _ _ _ _ _ _ _ _ _ _ ((hW.cell (p := ⟨w.heap.size, 0, none⟩) h25).trans x0) ((hW.cell (p := ⟨w.heap.size, 1, none⟩) h25).trans x1) ((hW.cell (p := ⟨w.heap.size, 2, none⟩) h25).trans x2) ((hW.cell (p := ⟨w.heap.size, 3, none⟩) h25).trans x3) ((hW.cell (p := ⟨w.heap.size, 4, none⟩) h25).trans x4) ((hW.cell (p := ⟨w.heap.size, 5, none⟩) h25).trans x5) ((hW.cell (p := ⟨w.heap.size, 6, none⟩) h25).trans x6) ((hW.cell (p := ⟨w.heap.size, 7, none⟩) h25).trans x7) ((hW.cell (p := ⟨w.heap.size, 8, none⟩) h25).trans x8) ((hW.cell (p := ⟨w.heap.size, 9, none⟩) h25).trans x9))⟩) hS0 ?_
      simp only [Act.put, List.setIfInBounds_toArray, List.set_cons_zero, List.set_cons_succ]
      refine takeR (fuel := 11) (i := 1) (v := .slice (some ⟨blk, off, none⟩) N rc) rfl (by kernel_rfl) (by kernel_rfl) (by kernel_rfl) (fun _ _ _ h => h) (Or.inl ⟨rfl, fun W hW => by go_simp⟩) hS0 ?_
      simp only [Act.put, List.setIfInBounds_toArray, List.set_cons_zero, List.set_cons_succ]
      refine takeR (fuel := 10) (i := 2) (v := .int .i64 Pp) rfl (by kernel_rfl) (by kernel_rfl) (by kernel_rfl) (fun _ _ _ h => h) (Or.inl ⟨rfl, fun W hW => by go_simp⟩) hS0 ?_
      simp only [Act.put, List.setIfInBounds_toArray, List.set_cons_zero, List.set_cons_succ]
      refine takeR (fuel := 9) (i := 3) (v := .pointer (some ⟨blk, off + Pp * 6, none⟩)) rfl (by kernel_rfl) (by kernel_rfl) (by kernel_rfl) (fun _ _ _ h => h) (Or.inl ⟨rfl, fun W hW => by go_simp⟩) hS0 ?_
      simp only [Act.put, List.setIfInBounds_toArray, List.set_cons_zero, List.set_cons_succ]
      refine takeR (fuel := 8) (i := 4) (v := .pointer (some ⟨blk, off + Pp * 6, none⟩)) rfl (by kernel_rfl) (by kernel_rfl) (by kernel_rfl) (fun _ _ _ h => h) (Or.inl ⟨rfl, fun W hW => by go_simp⟩) hS0 ?_
      simp only [Act.put, List.setIfInBounds_toArray, List.set_cons_zero, List.set_cons_succ]
      refine takeR (fuel := 7) (i := 5) (v := .agg #[.string ai, .int .i64 a1, .int .i64 a2, .int .i64 m, .string ac]) rfl (by kernel_rfl) (by kernel_rfl) (by kernel_rfl) (fun _ _ _ h => h) (Or.inl ⟨rfl, fun W hW => exl _ _ _ _ rfl (.pointer (some ⟨blk, off + Pp * 6, none⟩)) _ rfl (load27 W blk (off + Pp * 6) _ _ _ _ _ _ _ _ _ rfl rfl rfl rfl ((hW.cell (p := ⟨blk, _, none⟩) h27).trans e0) ((hW.cell (p := ⟨blk, _, none⟩) h27).trans e1) ((hW.cell (p := ⟨blk, _, none⟩) h27).trans e2) ((hW.cell (p := ⟨blk, _, none⟩) h27).trans e3) ((hW.cell (p := ⟨blk, _, none⟩) h27).trans e4))⟩) hS0 ?_
      simp only [Act.put, List.setIfInBounds_toArray, List.set_cons_zero, List.set_cons_succ]
      refine takeR (fuel := 6) (i := 6) (v := .int .i64 d) rfl (by kernel_rfl) (by kernel_rfl) (by kernel_rfl) (fun _ _ _ h => h) (Or.inl ⟨rfl, fun W hW => by go_simp⟩) hS0 ?_
      simp only [Act.put, List.setIfInBounds_toArray, List.set_cons_zero, List.set_cons_succ]
      refine consR (fuel := 5) (i := 7) rfl (by kernel_rfl) (fun K hK => ?_)
      rw [if_pos (by rfl)]
      go_simp
      refine (K12.out _ (HB.out.trans (hS0.mono HB.out.size))).mono ?_
      rintro e w4 ⟨y9, rfl, rfl, HB9⟩
      refine hK.out _ _ (hS0.trans (HB9.out.mono hS0.size)) (fun hS1 => ?_)
      clear hK HB9 K12
      try simp only [Act.put, List.setIfInBounds_toArray, List.set_cons_zero, List.set_cons_succ]
      refine takeR (fuel := 4) (i := 8) (v := .tuple #[.int .i64 cut, .bool ob]) rfl (by kernel_rfl) (by kernel_rfl) (by kernel_rfl) (fun _ _ _ h => h) (Or.inl ⟨rfl, fun W hW => by go_simp⟩) hS1 ?_
      simp only [Act.put, List.setIfInBounds_toArray, List.set_cons_zero, List.set_cons_succ]
      refine takeR (fuel := 3) (i := 9) (v := .int .i64 cut) rfl (by kernel_rfl) (by kernel_rfl) (by kernel_rfl) (fun _ _ _ h => h) (Or.inl ⟨rfl, fun W hW => by go_simp⟩) hS1 ?_
      simp only [Act.put, List.setIfInBounds_toArray, List.set_cons_zero, List.set_cons_succ]
      refine takeR (fuel := 2) (i := 10) (v := .bool ob) rfl (by kernel_rfl) (by kernel_rfl) (by kernel_rfl) (fun _ _ _ h => h) (Or.inl ⟨rfl, fun W hW => by go_simp⟩) hS1 ?_
      simp only [Act.put, List.setIfInBounds_toArray, List.set_cons_zero, List.set_cons_succ]
      refine takeR (fuel := 1) (i := 11) (v := .int .i64 cut) rfl (by kernel_rfl) (by kernel_rfl) (by kernel_rfl) (fun _ _ _ h => h) (Or.inl ⟨rfl, fun W hW => by go_simp⟩) hS1 ?_
      simp only [Act.put, List.setIfInBounds_toArray, List.set_cons_zero, List.set_cons_succ]
      refine takeR (fuel := 0) (i := 12) (v := .bool ob) rfl (by kernel_rfl) (by kernel_rfl) (by kernel_rfl) (fun _ _ _ h => h) (Or.inl ⟨rfl, fun W hW => by go_simp⟩) hS1 ?_
      simp only [Act.put, List.setIfInBounds_toArray, List.set_cons_zero, List.set_cons_succ]
      refine wpAnyH_done (by kernel_rfl) ?_ _
      have hb := hS1
      have HX4 : Hid (Bx w4 w.heap.size #[.int .i64 i0, .int .i64 i1, .string s, .int .i64 i3, .int .i64 i4, .int .i64 i5, .slice ca xs.length cc, .int .i64 i7, .int .i64 i8, .slice ba nb bc] 62) := HX.out.keep hb
      have HY4 : Hid (Bx w4 (w.heap.size + 1) #[.string n, .int .i64 q] 43) := HY.out.keep hb
      have HZ4 : Hid (Bx w4 (w.heap.size + 2) #[.string ⟨#[]⟩, .int .i64 0, .string ⟨#[]⟩, .int .i64 0, .int .i64 0, .int .i64 0, .string ⟨#[]⟩, .int .i64 0, .int .i64 0] 87) := HZ.out.keep hb
      have HB4 : Hid (Below w.heap.size w w4) := HB.out.trans (hb.mono HB.out.size)
      clear HX HY HZ HB hb hS1 hS0 h25 h27 c0 e0 e1 e2 e3 e4 e5 x0 x1 x2 x3 x4 x5 x6 x7 x8 x9
      cases ob with
      | false =>
        have z0 : w4.cell? ⟨w.heap.size + 2, 0, none⟩ = some (.string ⟨#[]⟩) := HZ4.out.cell 0
        have y0 : w4.frozen? ⟨w.heap.size + 2, 0, none⟩ = false := HZ4.out.froz 0
        have z1 : w4.cell? ⟨w.heap.size + 2, 1, none⟩ = some (.int .i64 0) := HZ4.out.cell 1
        have y1 : w4.frozen? ⟨w.heap.size + 2, 1, none⟩ = false := HZ4.out.froz 1
        have z2 : w4.cell? ⟨w.heap.size + 2, 2, none⟩ = some (.string ⟨#[]⟩) := HZ4.out.cell 2
        have y2 : w4.frozen? ⟨w.heap.size + 2, 2, none⟩ = false := HZ4.out.froz 2
        have z3 : w4.cell? ⟨w.heap.size + 2, 3, none⟩ = some (.int .i64 0) := HZ4.out.cell 3
        have y3 : w4.frozen? ⟨w.heap.size + 2, 3, none⟩ = false := HZ4.out.froz 3
        have z4 : w4.cell? ⟨w.heap.size + 2, 4, none⟩ = some (.int .i64 0) := HZ4.out.cell 4
        have y4 : w4.frozen? ⟨w.heap.size + 2, 4, none⟩ = false := HZ4.out.froz 4
        have z5 : w4.cell? ⟨w.heap.size + 2, 5, none⟩ = some (.int .i64 0) := HZ4.out.cell 5
        have y5 : w4.frozen? ⟨w.heap.size + 2, 5, none⟩ = false := HZ4.out.froz 5
        have z6 : w4.cell? ⟨w.heap.size + 2, 6, none⟩ = some (.string ⟨#[]⟩) := HZ4.out.cell 6
        have y6 : w4.frozen? ⟨w.heap.size + 2, 6, none⟩ = false := HZ4.out.froz 6
        have z7 : w4.cell? ⟨w.heap.size + 2, 7, none⟩ = some (.int .i64 0) := HZ4.out.cell 7
        have y7 : w4.frozen? ⟨w.heap.size + 2, 7, none⟩ = false := HZ4.out.froz 7
        have z8 : w4.cell? ⟨w.heap.size + 2, 8, none⟩ = some (.int .i64 0) := HZ4.out.cell 8
        have y8 : w4.frozen? ⟨w.heap.size + 2, 8, none⟩ = false := HZ4.out.froz 8
        go_wp2_with fail
        rw [show (((((((((w4.setCell ⟨w.heap.size + 2, 0, none⟩ (.string ⟨#[]⟩)).setCell ⟨w.heap.size + 2, 1, none⟩ (.int .i64 0)).setCell ⟨w.heap.size + 2, 2, none⟩ (.string ⟨#[]⟩)).setCell ⟨w.heap.size + 2, 3, none⟩ (.int .i64 0)).setCell ⟨w.heap.size + 2, 4, none⟩ (.int .i64 0)).setCell ⟨w.heap.size + 2, 5, none⟩ (.int .i64 0)).setCell ⟨w.heap.size + 2, 6, none⟩ (.string ⟨#[]⟩)).setCell ⟨w.heap.size + 2, 7, none⟩ (.int .i64 0)).setCell ⟨w.heap.size + 2, 8, none⟩ (.int .i64 0)) = nine w4 (w.heap.size + 2) (.string ⟨#[]⟩) (.int .i64 0) (.string ⟨#[]⟩) (.int .i64 0) (.int .i64 0) (.int .i64 0) (.string ⟨#[]⟩) (.int .i64 0) (.int .i64 0) from rfl]
        have HT : Hid (Bx (nine w4 (w.heap.size + 2) (.string ⟨#[]⟩) (.int .i64 0) (.string ⟨#[]⟩) (.int .i64 0) (.int .i64 0) (.int .i64 0) (.string ⟨#[]⟩) (.int .i64 0) (.int .i64 0)) (w.heap.size + 2) #[.string ⟨#[]⟩, .int .i64 0, .string ⟨#[]⟩, .int .i64 0, .int .i64 0, .int .i64 0, .string ⟨#[]⟩, .int .i64 0, .int .i64 0] 87) := nine_bx HZ4.out (.string ⟨#[]⟩) (.int .i64 0) (.string ⟨#[]⟩) (.int .i64 0) (.int .i64 0) (.int .i64 0) (.string ⟨#[]⟩) (.int .i64 0) (.int .i64 0)
        have HTB : Hid (Below w.heap.size w (nine w4 (w.heap.size + 2) (.string ⟨#[]⟩) (.int .i64 0) (.string ⟨#[]⟩) (.int .i64 0) (.int .i64 0) (.int .i64 0) (.string ⟨#[]⟩) (.int .i64 0) (.int .i64 0))) := nine_below HB4.out (by omega) (.string ⟨#[]⟩) (.int .i64 0) (.string ⟨#[]⟩) (.int .i64 0) (.int .i64 0) (.int .i64 0) (.string ⟨#[]⟩) (.int .i64 0) (.int .i64 0)
        generalize nine w4 (w.heap.size + 2) (.string ⟨#[]⟩) (.int .i64 0) (.string ⟨#[]⟩) (.int .i64 0) (.int .i64 0) (.int .i64 0) (.string ⟨#[]⟩) (.int .i64 0) (.int .i64 0) = wz at *
        refine bodyPost_ret (res_cell2 _ _ 8 87 9 _ _ _ _ rfl rfl rfl (res50 HT.out)) rfl ?_
        exact ⟨by unfold fiI; rw [if_neg (by simp [fiE])]; rfl, HTB.out⟩
      | true =>
        have c1 : w4.cell? ⟨w.heap.size + 1, 1, none⟩ = some (.int .i64 q) := HY4.out.cell 1
        by_cases hq0 : q < 0
        · have hqk : qb = false := by rw [HQB.out]; exact decide_eq_false (by omega)
          subst hqk
          clear HQB
          have z0 : w4.cell? ⟨w.heap.size + 2, 0, none⟩ = some (.string ⟨#[]⟩) := HZ4.out.cell 0
          have y0 : w4.frozen? ⟨w.heap.size + 2, 0, none⟩ = false := HZ4.out.froz 0
          have z1 : w4.cell? ⟨w.heap.size + 2, 1, none⟩ = some (.int .i64 0) := HZ4.out.cell 1
          have y1 : w4.frozen? ⟨w.heap.size + 2, 1, none⟩ = false := HZ4.out.froz 1
          have z2 : w4.cell? ⟨w.heap.size + 2, 2, none⟩ = some (.string ⟨#[]⟩) := HZ4.out.cell 2
          have y2 : w4.frozen? ⟨w.heap.size + 2, 2, none⟩ = false := HZ4.out.froz 2
          have z3 : w4.cell? ⟨w.heap.size + 2, 3, none⟩ = some (.int .i64 0) := HZ4.out.cell 3
          have y3 : w4.frozen? ⟨w.heap.size + 2, 3, none⟩ = false := HZ4.out.froz 3
          have z4 : w4.cell? ⟨w.heap.size + 2, 4, none⟩ = some (.int .i64 0) := HZ4.out.cell 4
          have y4 : w4.frozen? ⟨w.heap.size + 2, 4, none⟩ = false := HZ4.out.froz 4
          have z5 : w4.cell? ⟨w.heap.size + 2, 5, none⟩ = some (.int .i64 0) := HZ4.out.cell 5
          have y5 : w4.frozen? ⟨w.heap.size + 2, 5, none⟩ = false := HZ4.out.froz 5
          have z6 : w4.cell? ⟨w.heap.size + 2, 6, none⟩ = some (.string ⟨#[]⟩) := HZ4.out.cell 6
          have y6 : w4.frozen? ⟨w.heap.size + 2, 6, none⟩ = false := HZ4.out.froz 6
          have z7 : w4.cell? ⟨w.heap.size + 2, 7, none⟩ = some (.int .i64 0) := HZ4.out.cell 7
          have y7 : w4.frozen? ⟨w.heap.size + 2, 7, none⟩ = false := HZ4.out.froz 7
          have z8 : w4.cell? ⟨w.heap.size + 2, 8, none⟩ = some (.int .i64 0) := HZ4.out.cell 8
          have y8 : w4.frozen? ⟨w.heap.size + 2, 8, none⟩ = false := HZ4.out.froz 8
          go_wp2_with fail
          rw [show (((((((((w4.setCell ⟨w.heap.size + 2, 0, none⟩ (.string ⟨#[]⟩)).setCell ⟨w.heap.size + 2, 1, none⟩ (.int .i64 0)).setCell ⟨w.heap.size + 2, 2, none⟩ (.string ⟨#[]⟩)).setCell ⟨w.heap.size + 2, 3, none⟩ (.int .i64 0)).setCell ⟨w.heap.size + 2, 4, none⟩ (.int .i64 0)).setCell ⟨w.heap.size + 2, 5, none⟩ (.int .i64 0)).setCell ⟨w.heap.size + 2, 6, none⟩ (.string ⟨#[]⟩)).setCell ⟨w.heap.size + 2, 7, none⟩ (.int .i64 0)).setCell ⟨w.heap.size + 2, 8, none⟩ (.int .i64 0)) = nine w4 (w.heap.size + 2) (.string ⟨#[]⟩) (.int .i64 0) (.string ⟨#[]⟩) (.int .i64 0) (.int .i64 0) (.int .i64 0) (.string ⟨#[]⟩) (.int .i64 0) (.int .i64 0) from rfl]
          have HT : Hid (Bx (nine w4 (w.heap.size + 2) (.string ⟨#[]⟩) (.int .i64 0) (.string ⟨#[]⟩) (.int .i64 0) (.int .i64 0) (.int .i64 0) (.string ⟨#[]⟩) (.int .i64 0) (.int .i64 0)) (w.heap.size + 2) #[.string ⟨#[]⟩, .int .i64 0, .string ⟨#[]⟩, .int .i64 0, .int .i64 0, .int .i64 0, .string ⟨#[]⟩, .int .i64 0, .int .i64 0] 87) := nine_bx HZ4.out (.string ⟨#[]⟩) (.int .i64 0) (.string ⟨#[]⟩) (.int .i64 0) (.int .i64 0) (.int .i64 0) (.string ⟨#[]⟩) (.int .i64 0) (.int .i64 0)
          have HTB : Hid (Below w.heap.size w (nine w4 (w.heap.size + 2) (.string ⟨#[]⟩) (.int .i64 0) (.string ⟨#[]⟩) (.int .i64 0) (.int .i64 0) (.int .i64 0) (.string ⟨#[]⟩) (.int .i64 0) (.int .i64 0))) := nine_below HB4.out (by omega) (.string ⟨#[]⟩) (.int .i64 0) (.string ⟨#[]⟩) (.int .i64 0) (.int .i64 0) (.int .i64 0) (.string ⟨#[]⟩) (.int .i64 0) (.int .i64 0)
          generalize nine w4 (w.heap.size + 2) (.string ⟨#[]⟩) (.int .i64 0) (.string ⟨#[]⟩) (.int .i64 0) (.int .i64 0) (.int .i64 0) (.string ⟨#[]⟩) (.int .i64 0) (.int .i64 0) = wz at *
          refine bodyPost_ret (res_cell2 _ _ 8 87 9 _ _ _ _ rfl rfl rfl (res50 HT.out)) rfl ?_
          exact ⟨by unfold fiI; rw [if_neg (by simp [fiE])]; rfl, HTB.out⟩
        by_cases hq1 : 1125899906842624 < q
        · have hqk : qb = false := by rw [HQB.out]; exact decide_eq_false (by omega)
          subst hqk
          clear HQB
          have z0 : w4.cell? ⟨w.heap.size + 2, 0, none⟩ = some (.string ⟨#[]⟩) := HZ4.out.cell 0
          have y0 : w4.frozen? ⟨w.heap.size + 2, 0, none⟩ = false := HZ4.out.froz 0
          have z1 : w4.cell? ⟨w.heap.size + 2, 1, none⟩ = some (.int .i64 0) := HZ4.out.cell 1
          have y1 : w4.frozen? ⟨w.heap.size + 2, 1, none⟩ = false := HZ4.out.froz 1
          have z2 : w4.cell? ⟨w.heap.size + 2, 2, none⟩ = some (.string ⟨#[]⟩) := HZ4.out.cell 2
          have y2 : w4.frozen? ⟨w.heap.size + 2, 2, none⟩ = false := HZ4.out.froz 2
          have z3 : w4.cell? ⟨w.heap.size + 2, 3, none⟩ = some (.int .i64 0) := HZ4.out.cell 3
          have y3 : w4.frozen? ⟨w.heap.size + 2, 3, none⟩ = false := HZ4.out.froz 3
          have z4 : w4.cell? ⟨w.heap.size + 2, 4, none⟩ = some (.int .i64 0) := HZ4.out.cell 4
          have y4 : w4.frozen? ⟨w.heap.size + 2, 4, none⟩ = false := HZ4.out.froz 4
          have z5 : w4.cell? ⟨w.heap.size + 2, 5, none⟩ = some (.int .i64 0) := HZ4.out.cell 5
          have y5 : w4.frozen? ⟨w.heap.size + 2, 5, none⟩ = false := HZ4.out.froz 5
          have z6 : w4.cell? ⟨w.heap.size + 2, 6, none⟩ = some (.string ⟨#[]⟩) := HZ4.out.cell 6
          have y6 : w4.frozen? ⟨w.heap.size + 2, 6, none⟩ = false := HZ4.out.froz 6
          have z7 : w4.cell? ⟨w.heap.size + 2, 7, none⟩ = some (.int .i64 0) := HZ4.out.cell 7
          have y7 : w4.frozen? ⟨w.heap.size + 2, 7, none⟩ = false := HZ4.out.froz 7
          have z8 : w4.cell? ⟨w.heap.size + 2, 8, none⟩ = some (.int .i64 0) := HZ4.out.cell 8
          have y8 : w4.frozen? ⟨w.heap.size + 2, 8, none⟩ = false := HZ4.out.froz 8
          go_wp2_with fail
          rw [show (((((((((w4.setCell ⟨w.heap.size + 2, 0, none⟩ (.string ⟨#[]⟩)).setCell ⟨w.heap.size + 2, 1, none⟩ (.int .i64 0)).setCell ⟨w.heap.size + 2, 2, none⟩ (.string ⟨#[]⟩)).setCell ⟨w.heap.size + 2, 3, none⟩ (.int .i64 0)).setCell ⟨w.heap.size + 2, 4, none⟩ (.int .i64 0)).setCell ⟨w.heap.size + 2, 5, none⟩ (.int .i64 0)).setCell ⟨w.heap.size + 2, 6, none⟩ (.string ⟨#[]⟩)).setCell ⟨w.heap.size + 2, 7, none⟩ (.int .i64 0)).setCell ⟨w.heap.size + 2, 8, none⟩ (.int .i64 0)) = nine w4 (w.heap.size + 2) (.string ⟨#[]⟩) (.int .i64 0) (.string ⟨#[]⟩) (.int .i64 0) (.int .i64 0) (.int .i64 0) (.string ⟨#[]⟩) (.int .i64 0) (.int .i64 0) from rfl]
          have HT : Hid (Bx (nine w4 (w.heap.size + 2) (.string ⟨#[]⟩) (.int .i64 0) (.string ⟨#[]⟩) (.int .i64 0) (.int .i64 0) (.int .i64 0) (.string ⟨#[]⟩) (.int .i64 0) (.int .i64 0)) (w.heap.size + 2) #[.string ⟨#[]⟩, .int .i64 0, .string ⟨#[]⟩, .int .i64 0, .int .i64 0, .int .i64 0, .string ⟨#[]⟩, .int .i64 0, .int .i64 0] 87) := nine_bx HZ4.out (.string ⟨#[]⟩) (.int .i64 0) (.string ⟨#[]⟩) (.int .i64 0) (.int .i64 0) (.int .i64 0) (.string ⟨#[]⟩) (.int .i64 0) (.int .i64 0)
          have HTB : Hid (Below w.heap.size w (nine w4 (w.heap.size + 2) (.string ⟨#[]⟩) (.int .i64 0) (.string ⟨#[]⟩) (.int .i64 0) (.int .i64 0) (.int .i64 0) (.string ⟨#[]⟩) (.int .i64 0) (.int .i64 0))) := nine_below HB4.out (by omega) (.string ⟨#[]⟩) (.int .i64 0) (.string ⟨#[]⟩) (.int .i64 0) (.int .i64 0) (.int .i64 0) (.string ⟨#[]⟩) (.int .i64 0) (.int .i64 0)
          generalize nine w4 (w.heap.size + 2) (.string ⟨#[]⟩) (.int .i64 0) (.string ⟨#[]⟩) (.int .i64 0) (.int .i64 0) (.int .i64 0) (.string ⟨#[]⟩) (.int .i64 0) (.int .i64 0) = wz at *
          refine bodyPost_ret (res_cell2 _ _ 8 87 9 _ _ _ _ rfl rfl rfl (res50 HT.out)) rfl ?_
          exact ⟨by unfold fiI; rw [if_neg (by simp [fiE])]; rfl, HTB.out⟩
        have hqk : qb = true := by rw [HQB.out]; exact decide_eq_true (by omega)
        subst hqk
        clear HQB

        go_upto_region 11 with fail
        refine wp_region_held (S := fun W => Bx W (w.heap.size + 1) #[.string n, .int .i64 q] 43 ∧ Below w.heap.size w W) (by kernel_rfl) ?_
        change wpAnyH _ _ _ _ _ 15 #[false, false, false, false, false, false, false, false, false, false, false, false, false, false, false] _ w4.drew
        obtain ⟨v0, hv0⟩ : ∃ v, v = w4.drew := ⟨_, rfl⟩
        have hS0 : Bx v0 (w.heap.size + 1) #[.string n, .int .i64 q] 43 ∧ Below w.heap.size w v0 := by rw [hv0]; exact ⟨HY4.out, ⟨HB4.out.os, HB4.out.tape, HB4.out.output, HB4.out.size, HB4.out.block⟩⟩
        have HZ5 : Hid (Bx v0 (w.heap.size + 2) #[.string ⟨#[]⟩, .int .i64 0, .string ⟨#[]⟩, .int .i64 0, .int .i64 0, .int .i64 0, .string ⟨#[]⟩, .int .i64 0, .int .i64 0] 87) := by rw [hv0]; exact HZ4.out
        rw [← hv0]
        clear hv0 HY4 HZ4 HX4 HB4 c1
        have HTB : Hid (Below w.heap.size w (nine v0 (w.heap.size + 2) (.string n) (.int .i64 q) (.string ai) (.int .i64 a1) (.int .i64 a2) (.int .i64 m) (.string ac) (.int .i64 pr) (.int .i64 cut))) := nine_below hS0.2 (by omega) (.string n) (.int .i64 q) (.string ai) (.int .i64 a1) (.int .i64 a2) (.int .i64 m) (.string ac) (.int .i64 pr) (.int .i64 cut)
        have HT : Hid (Bx (nine v0 (w.heap.size + 2) (.string n) (.int .i64 q) (.string ai) (.int .i64 a1) (.int .i64 a2) (.int .i64 m) (.string ac) (.int .i64 pr) (.int .i64 cut)) (w.heap.size + 2) #[.string n, .int .i64 q, .string ai, .int .i64 a1, .int .i64 a2, .int .i64 m, .string ac, .int .i64 pr, .int .i64 cut] 87) := nine_bx HZ5.out (.string n) (.int .i64 q) (.string ai) (.int .i64 a1) (.int .i64 a2) (.int .i64 m) (.string ac) (.int .i64 pr) (.int .i64 cut)
        have hSn : Bx (nine v0 (w.heap.size + 2) (.string n) (.int .i64 q) (.string ai) (.int .i64 a1) (.int .i64 a2) (.int .i64 m) (.string ac) (.int .i64 pr) (.int .i64 cut)) (w.heap.size + 1) #[.string n, .int .i64 q] 43 ∧ Below w.heap.size w (nine v0 (w.heap.size + 2) (.string n) (.int .i64 q) (.string ai) (.int .i64 a1) (.int .i64 a2) (.int .i64 m) (.string ac) (.int .i64 pr) (.int .i64 cut)) := ⟨nine_ne hS0.1 (by omega) (.string n) (.int .i64 q) (.string ai) (.int .i64 a1) (.int .i64 a2) (.int .i64 m) (.string ac) (.int .i64 pr) (.int .i64 cut), HTB.out⟩
        have z0 : v0.cell? ⟨w.heap.size + 2, 0, none⟩ = some (.string ⟨#[]⟩) := HZ5.out.cell 0
        have y0 : v0.frozen? ⟨w.heap.size + 2, 0, none⟩ = false := HZ5.out.froz 0
        have z1 : v0.cell? ⟨w.heap.size + 2, 1, none⟩ = some (.int .i64 0) := HZ5.out.cell 1
        have y1 : v0.frozen? ⟨w.heap.size + 2, 1, none⟩ = false := HZ5.out.froz 1
        have z2 : v0.cell? ⟨w.heap.size + 2, 2, none⟩ = some (.string ⟨#[]⟩) := HZ5.out.cell 2
        have y2 : v0.frozen? ⟨w.heap.size + 2, 2, none⟩ = false := HZ5.out.froz 2
        have z3 : v0.cell? ⟨w.heap.size + 2, 3, none⟩ = some (.int .i64 0) := HZ5.out.cell 3
        have y3 : v0.frozen? ⟨w.heap.size + 2, 3, none⟩ = false := HZ5.out.froz 3
        have z4 : v0.cell? ⟨w.heap.size + 2, 4, none⟩ = some (.int .i64 0) := HZ5.out.cell 4
        have y4 : v0.frozen? ⟨w.heap.size + 2, 4, none⟩ = false := HZ5.out.froz 4
        have z5 : v0.cell? ⟨w.heap.size + 2, 5, none⟩ = some (.int .i64 0) := HZ5.out.cell 5
        have y5 : v0.frozen? ⟨w.heap.size + 2, 5, none⟩ = false := HZ5.out.froz 5
        have z6 : v0.cell? ⟨w.heap.size + 2, 6, none⟩ = some (.string ⟨#[]⟩) := HZ5.out.cell 6
        have y6 : v0.frozen? ⟨w.heap.size + 2, 6, none⟩ = false := HZ5.out.froz 6
        have z7 : v0.cell? ⟨w.heap.size + 2, 7, none⟩ = some (.int .i64 0) := HZ5.out.cell 7
        have y7 : v0.frozen? ⟨w.heap.size + 2, 7, none⟩ = false := HZ5.out.froz 7
        have z8 : v0.cell? ⟨w.heap.size + 2, 8, none⟩ = some (.int .i64 0) := HZ5.out.cell 8
        have y8 : v0.frozen? ⟨w.heap.size + 2, 8, none⟩ = false := HZ5.out.froz 8
        refine takeR (fuel := 14) (i := 0) (v := .agg #[.string n, .int .i64 q]) rfl (by kernel_rfl) (by kernel_rfl) (by kernel_rfl) (fun _ _ _ h => h) (Or.inl ⟨rfl, fun W hW => exl _ _ _ _ rfl (.pointer (some ⟨w.heap.size + 1, 0, none⟩)) _ rfl (load46 W (w.heap.size + 1) 0 _ _ _ rfl (hW.1.cell 0) (hW.1.cell 1))⟩) hS0 ?_
        simp only [Act.put, List.setIfInBounds_toArray, List.set_cons_zero, List.set_cons_succ]
        refine takeR (fuel := 13) (i := 1) (v := .slice (some ⟨blk, off, none⟩) N rc) rfl (by kernel_rfl) (by kernel_rfl) (by kernel_rfl) (fun _ _ _ h => h) (Or.inl ⟨rfl, fun W hW => by go_simp⟩) hS0 ?_
        simp only [Act.put, List.setIfInBounds_toArray, List.set_cons_zero, List.set_cons_succ]
        refine takeR (fuel := 12) (i := 2) (v := .int .i64 Pp) rfl (by kernel_rfl) (by kernel_rfl) (by kernel_rfl) (fun _ _ _ h => h) (Or.inl ⟨rfl, fun W hW => by go_simp⟩) hS0 ?_
        simp only [Act.put, List.setIfInBounds_toArray, List.set_cons_zero, List.set_cons_succ]
        refine takeR (fuel := 11) (i := 3) (v := .pointer (some ⟨blk, off + Pp * 6, none⟩)) rfl (by kernel_rfl) (by kernel_rfl) (by kernel_rfl) (fun _ _ _ h => h) (Or.inl ⟨rfl, fun W hW => by go_simp⟩) hS0 ?_
        simp only [Act.put, List.setIfInBounds_toArray, List.set_cons_zero, List.set_cons_succ]
        refine takeR (fuel := 10) (i := 4) (v := .pointer (some ⟨blk, off + Pp * 6, none⟩)) rfl (by kernel_rfl) (by kernel_rfl) (by kernel_rfl) (fun _ _ _ h => h) (Or.inl ⟨rfl, fun W hW => by go_simp⟩) hS0 ?_
        simp only [Act.put, List.setIfInBounds_toArray, List.set_cons_zero, List.set_cons_succ]
        refine takeR (fuel := 9) (i := 5) (v := .agg #[.string ai, .int .i64 a1, .int .i64 a2, .int .i64 m, .string ac]) rfl (by kernel_rfl) (by kernel_rfl) (by kernel_rfl) (fun _ _ _ h => h) (Or.inl ⟨rfl, fun W hW => exl _ _ _ _ rfl (.pointer (some ⟨blk, off + Pp * 6, none⟩)) _ rfl (load27 W blk (off + Pp * 6) _ _ _ _ _ _ _ _ _ rfl rfl rfl rfl (HCE.out W hW.2).1 (HCE.out W hW.2).2.1 (HCE.out W hW.2).2.2.1 (HCE.out W hW.2).2.2.2.1 (HCE.out W hW.2).2.2.2.2.1)⟩) hS0 ?_
        simp only [Act.put, List.setIfInBounds_toArray, List.set_cons_zero, List.set_cons_succ]
        refine takeR (fuel := 8) (i := 6) (v := .slice (some ⟨blk, off, none⟩) N rc) rfl (by kernel_rfl) (by kernel_rfl) (by kernel_rfl) (fun _ _ _ h => h) (Or.inl ⟨rfl, fun W hW => by go_simp⟩) hS0 ?_
        simp only [Act.put, List.setIfInBounds_toArray, List.set_cons_zero, List.set_cons_succ]
        refine takeR (fuel := 7) (i := 7) (v := .int .i64 Pp) rfl (by kernel_rfl) (by kernel_rfl) (by kernel_rfl) (fun _ _ _ h => h) (Or.inl ⟨rfl, fun W hW => by go_simp⟩) hS0 ?_
        simp only [Act.put, List.setIfInBounds_toArray, List.set_cons_zero, List.set_cons_succ]
        refine takeR (fuel := 6) (i := 8) (v := .pointer (some ⟨blk, off + Pp * 6, none⟩)) rfl (by kernel_rfl) (by kernel_rfl) (by kernel_rfl) (fun _ _ _ h => h) (Or.inl ⟨rfl, fun W hW => by go_simp⟩) hS0 ?_
        simp only [Act.put, List.setIfInBounds_toArray, List.set_cons_zero, List.set_cons_succ]
        refine takeR (fuel := 5) (i := 9) (v := .pointer (some ⟨blk, off + Pp * 6 + 5, none⟩)) rfl (by kernel_rfl) (by kernel_rfl) (by kernel_rfl) (fun _ _ _ h => h) (Or.inl ⟨rfl, fun W hW => by go_simp⟩) hS0 ?_
        simp only [Act.put, List.setIfInBounds_toArray, List.set_cons_zero, List.set_cons_succ]
        refine takeR (fuel := 4) (i := 10) (v := .int .i64 pr) rfl (by kernel_rfl) (by kernel_rfl) (by kernel_rfl) (fun _ _ _ h => h) (Or.inl ⟨rfl, fun W hW => by have cj : W.cell? ⟨blk, off + Pp * 6 + 5, none⟩ = some (.int .i64 pr) := (HCE.out W hW.2).2.2.2.2.2; go_simp⟩) hS0 ?_
        simp only [Act.put, List.setIfInBounds_toArray, List.set_cons_zero, List.set_cons_succ]
        refine takeR (fuel := 3) (i := 11) (v := .int .i64 cut) rfl (by kernel_rfl) (by kernel_rfl) (by kernel_rfl) (fun _ _ _ h => h) (Or.inl ⟨rfl, fun W hW => by go_simp⟩) hS0 ?_
        simp only [Act.put, List.setIfInBounds_toArray, List.set_cons_zero, List.set_cons_succ]
        refine takeR (fuel := 2) (i := 12) (v := .agg #[.string n, .int .i64 q, .string ai, .int .i64 a1, .int .i64 a2, .int .i64 m, .string ac, .int .i64 pr, .int .i64 cut]) rfl (by kernel_rfl) (by kernel_rfl) (by kernel_rfl) (fun _ _ _ h => h) (Or.inl ⟨rfl, fun W hW => by go_simp⟩) hS0 ?_
        simp only [Act.put, List.setIfInBounds_toArray, List.set_cons_zero, List.set_cons_succ]
        refine consR (fuel := 1) (i := 13) rfl (by kernel_rfl) (fun K hK => ?_)
        rw [if_pos (by rfl)]
        go_simp
        rw [show (((((((((v0.setCell ⟨w.heap.size + 2, 0, none⟩ (.string n)).setCell ⟨w.heap.size + 2, 1, none⟩ (.int .i64 q)).setCell ⟨w.heap.size + 2, 2, none⟩ (.string ai)).setCell ⟨w.heap.size + 2, 3, none⟩ (.int .i64 a1)).setCell ⟨w.heap.size + 2, 4, none⟩ (.int .i64 a2)).setCell ⟨w.heap.size + 2, 5, none⟩ (.int .i64 m)).setCell ⟨w.heap.size + 2, 6, none⟩ (.string ac)).setCell ⟨w.heap.size + 2, 7, none⟩ (.int .i64 pr)).setCell ⟨w.heap.size + 2, 8, none⟩ (.int .i64 cut)) = nine v0 (w.heap.size + 2) (.string n) (.int .i64 q) (.string ai) (.int .i64 a1) (.int .i64 a2) (.int .i64 m) (.string ac) (.int .i64 pr) (.int .i64 cut) from rfl]
        refine hK.out _ _ hSn (fun hS2 => ?_)
        clear hK
        try simp only [Act.put, List.setIfInBounds_toArray, List.set_cons_zero, List.set_cons_succ]
        refine takeR (fuel := 0) (i := 14) (v := .int .i64 0) rfl (by kernel_rfl) (by kernel_rfl) (by kernel_rfl) (fun _ _ _ h => h) (Or.inl ⟨rfl, fun W hW => by go_simp⟩) hS2 ?_
        simp only [Act.put, List.setIfInBounds_toArray, List.set_cons_zero, List.set_cons_succ]
        refine wpAnyH_done (by kernel_rfl) ?_ _
        generalize nine v0 (w.heap.size + 2) (.string n) (.int .i64 q) (.string ai) (.int .i64 a1) (.int .i64 a2) (.int .i64 m) (.string ac) (.int .i64 pr) (.int .i64 cut) = wz at *
        go_wp2_with fail
        refine bodyPost_ret (res_cell2 _ _ 8 87 9 _ _ _ _ rfl rfl rfl (res50 HT.out)) rfl ?_
        exact ⟨rfl, HTB.out⟩
end Go.Proofs.Ytheikjjehidagaa.H5
