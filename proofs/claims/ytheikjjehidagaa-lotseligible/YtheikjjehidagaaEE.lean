/- layer 13: lacking, known, find, New, apart -/
import Derived.Test.YtheikjjehidagaaED
import Derived.WalkKit
import Derived.ProofKit
import Derived.Handy
import Derived.WalkLawsBesides
import Derived.WalkSpells
import Derived.BigQuiet
import Derived.BigCall
import Derived.Deep.QuietTactic
import Derived.Deep.Light
import Derived.Deep.OwnRows
import Derived.Laws.AppendOwnNone
import Derived.Laws.Strings3
import Derived.Laws.RangeAny
import Derived.Deep.RegionWith
import Derived.Lib.BitFns
import Derived.Lib.Walk
import Derived.Lib.Strings
import Derived.Lib.OthersKept
import Derived.Deep.CutBlock
import Derived.Deep.DeepCutAuto
import Derived.Deep.LoopGhost
import Derived.Deep.RegionHeld3
import Derived.Lib.SmallJoins
import Derived.Maps.AppendAt
import Derived.Laws.IdiomStrings
import Derived.Lib.AppendZeros
import Derived.Deep.WholeRow
import Derived.Laws.BitsAllLaws
import Derived.Lib.ConvBytes
import Derived.Deep.RegionLaw
import Derived.Maps.OwnSet
import Derived.Maps.OwnOps
import Derived.Maps.RangeWalk
import Derived.Maps.Ext
import Derived.DeepKeys4
import Derived.Laws.StructEq
import Derived.Deep.MidRow
import Derived.Lib.Bytealg
import Derived.Lib.Overlaps
import Derived.Lib.AppendZerosOnto
import Derived.Laws.MakeOwn
namespace Go.Proofs.Ytheikjjehidagaa.H5
open Go.RowKit
set_option linter.unusedVariables false
set_option linter.unusedSimpArgs false
open Num
set_option maxRecDepth 20000
theorem xlackB {w : World} {q : Nat} {v : Value} (h : Bx w q #[.bool true, v] 97) : Calls Try.prog 53 #[.pointer (some ⟨q, 0, none⟩)] w (BoP false w) := by
  have c0 : w.cell? ⟨q, 0, none⟩ = some (.bool true) := h.cell 0
  clear h
  go_enter Try.func53, Try.ntmps53
  go_wp2_with fail
  go_ret
  exact ⟨rfl, rfl⟩
theorem xknownB {w : World} {q : Nat} {m : Value} {a : Option Addr} {n cap : Nat} (h : Bx w q #[m, .slice a n cap] 97) : Calls Try.prog 79 #[.pointer (some ⟨q, 0, none⟩)] w fun e w' => e = .returned (.slice a n cap) ∧ w = w' := by
  have c1 : w.cell? ⟨q, 1, none⟩ = some (.slice a n cap) := h.cell 1
  clear h
  go_enter Try.func79, Try.ntmps79
  go_wp2_with fail
  go_ret
  exact ⟨rfl, rfl⟩
theorem xknownN (w : World) : Calls Try.prog 79 #[.pointer none] w fun e w' => e = .returned (.slice none 0 0) ∧ w = w' := by
  go_enter Try.func79, Try.ntmps79
  go_wp2_with fail
  go_ret
  exact ⟨rfl, rfl⟩
/-- what known answers -/
def KnC (p : Option Addr) (a : Option Addr) (n cap : Nat) (w : World) : Prop := Calls Try.prog 79 #[.pointer p] w fun e w' => e = .returned (.slice a n cap) ∧ w = w'
theorem xfind {p : Option Addr} {a : Option Addr} {cap : Nat} {L : List Kn} (hs : Srt L) (hl : L.length ≤ 1000000) (n : ByteArray) (w : World) (hk : KnC p a L.length cap w) (h : Rw 6 kcs w a L) : Calls Try.prog 55 #[.pointer p, .string n] w (FdP (pos L n.toList) (has L n.toList) w) := by
  have HK : Hid (KnC p a L.length cap w) := hk
  have HC : Hid (Calls Try.prog 78 #[.slice a L.length cap, .string n, .func (.func 80) #[] #[]] w (FdP (pos L n.toList) (has L n.toList) w)) := xbs L hs hl n a cap w h
  clear h hk hs
  generalize pos L n.toList = P at *
  generalize has L n.toList = G at *
  go_enter Try.func55, Try.ntmps55
  go_wp2_with (first | (go_at_call 79; refine HK.out.mono ?_; clear HK; rintro e w1 ⟨rfl, rfl⟩) | (go_at_call 78; refine HC.out.mono ?_; clear HC; rintro e w1 ⟨rfl, HB⟩))
  go_ret2
  exact ⟨rfl, HB⟩
theorem Bk.known {B : Nat} {w : World} {q : Nat} {v : Value} {L : List Kn} (h : Bk B w q v L) : ∃ a cap, v = .slice a L.length cap ∧ L.length ≤ cap ∧ Rw 6 kcs w a L ∧ KnC (some ⟨q, 0, none⟩) a L.length cap w := by
  obtain ⟨a, cap, rfl, h1, h2⟩ := h.read
  exact ⟨a, cap, rfl, h1, h2, xknownB h.b⟩
theorem Bk.find {B : Nat} {w : World} {q : Nat} {v : Value} {L : List Kn} (h : Bk B w q v L) (g : Num.Good L) (n : ByteArray) : Calls Try.prog 55 #[.pointer (some ⟨q, 0, none⟩), .string n] w (FdP (pos L n.toList) (has L n.toList) w) := by
  obtain ⟨a, cap, rfl, h1, h2, h3⟩ := h.known
  exact xfind g.srt (by have := g.len; omega) n w h3 h2
theorem xnew (w : World) : Calls Try.prog 32 #[] w fun e w' => e = .returned (.pointer (some ⟨w.heap.size, 0, none⟩)) ∧ w' = w.alloc (.cells #[.bool true, .slice none 0 0] 97) := by
  go_enter Try.func32, Try.ntmps32
  go_wp2_with fail
  go_ret
  exact ⟨rfl, rfl⟩
theorem Bk.new {B : Nat} (w : World) (hB : B ≤ w.heap.size) : Bk B (w.alloc (.cells #[.bool true, .slice none 0 0] 97)) w.heap.size (.slice none 0 0) [] := ⟨Bx.new w _ _, World.ownsRow_nil _ _ _ _, hB⟩
theorem res27 {w : World} {g : Nat} {v0 v1 v2 v3 v4 : Value} (h : Bx w g #[v0, v1, v2, v3, v4] 45) : (loadVar 45 ⟨g, 0, none⟩).run Try.prog w = .ok (.agg #[v0, v1, v2, v3, v4]) w :=
  run_loadVar_row w g 45 45 _ (0, 0) _ h Try.underlying45 rfl (by kernel_rfl)
/-- a security, and memory of its own -/
def ApP (v0 v1 v2 v3 v4 : Value) (w : World) (e : Ending) (w' : World) : Prop := e = .returned (.agg #[v0, v1, v2, v3, v4]) ∧ Below w.heap.size w w'
set_option maxHeartbeats 4000000 in
theorem xapart (i : ByteArray) (a b c : Int) (s : ByteArray) (hi : i.size ≤ 281474976710656) (hs : s.size ≤ 281474976710656) (w : World) : Calls Try.prog 57 #[.agg #[.string i, .int .i64 a, .int .i64 b, .int .i64 c, .string s]] w (ApP (.string i) (.int .i64 a) (.int .i64 b) (.int .i64 c) (.string s) w) := by
  have H1 : Hid (∀ w, Calls Try.prog 70 #[.string i] w fun e w' => e = .returned (.string i) ∧ Below w.heap.size w w') := fun w => xclone i hi w
  have H2 : Hid (∀ w, Calls Try.prog 70 #[.string s] w fun e w' => e = .returned (.string s) ∧ Below w.heap.size w w') := fun w => xclone s hs w
  clear hs hi
  go_enter Try.func57, Try.ntmps57
  go_wp2_with fail
  have HX0 : Hid (Bx ((w.alloc (.cells #[.string i, .int .i64 a, .int .i64 b, .int .i64 c, .string s] 45)).alloc (.cells #[.string ⟨#[]⟩, .int .i64 0, .int .i64 0, .int .i64 0, .string ⟨#[]⟩] 45)) w.heap.size #[.string i, .int .i64 a, .int .i64 b, .int .i64 c, .string s] 45) := (Bx.new w _ _).kept (World.grownBy_alloc _ _ none) (by simp)
  have HX1 : Hid (Bx ((w.alloc (.cells #[.string i, .int .i64 a, .int .i64 b, .int .i64 c, .string s] 45)).alloc (.cells #[.string ⟨#[]⟩, .int .i64 0, .int .i64 0, .int .i64 0, .string ⟨#[]⟩] 45)) (w.heap.size + 1) #[.string ⟨#[]⟩, .int .i64 0, .int .i64 0, .int .i64 0, .string ⟨#[]⟩] 45) := by
    have := Bx.new (w.alloc (.cells #[.string i, .int .i64 a, .int .i64 b, .int .i64 c, .string s] 45)) #[.string ⟨#[]⟩, .int .i64 0, .int .i64 0, .int .i64 0, .string ⟨#[]⟩] 45
    rw [World.size_alloc] at this
    exact this
  have HB : Hid (Below w.heap.size w ((w.alloc (.cells #[.string i, .int .i64 a, .int .i64 b, .int .i64 c, .string s] 45)).alloc (.cells #[.string ⟨#[]⟩, .int .i64 0, .int .i64 0, .int .i64 0, .string ⟨#[]⟩] 45))) := ((Below.refl _ w).alloc (Nat.le_refl _) _).alloc (by simp) _
  refine (H1.out _).mono ?_
  rintro e w1 ⟨rfl, hb⟩
  have HY0 := HX0.out.below hb (by simp; omega)
  have HY1 := HX1.out.below hb (by simp)
  have HB1 : Hid (Below w.heap.size w w1) := HB.out.trans (hb.mono (by simp; omega))
  have HY2 : Hid (Bx (w1.setCell ⟨w.heap.size, 0, none⟩ (.string i)) w.heap.size #[.string i, .int .i64 a, .int .i64 b, .int .i64 c, .string s] 45) := HY0.setc 0 (.string i)
  have HY3 : Hid (Bx (w1.setCell ⟨w.heap.size, 0, none⟩ (.string i)) (w.heap.size + 1) #[.string ⟨#[]⟩, .int .i64 0, .int .i64 0, .int .i64 0, .string ⟨#[]⟩] 45) := HY1.oset (c := w.heap.size) (by omega) 0 (.string i)
  have HB2 : Hid (Below w.heap.size w (w1.setCell ⟨w.heap.size, 0, none⟩ (.string i))) := HB1.out.setCell (p := ⟨w.heap.size, 0, none⟩) (Nat.le_refl _) _
  have c0 : w1.cell? ⟨w.heap.size, 0, none⟩ = some (.string i) := HY0.cell 0
  have f0 : w1.frozen? ⟨w.heap.size, 0, none⟩ = false := HY0.froz 0
  have hlt : w.heap.size + 1 < w1.heap.size := HY1.lt
  have c4 : w1.cell? ⟨w.heap.size, 4, none⟩ = some (.string s) := HY0.cell 4
  clear HX0 HX1 HB HY0 HY1 hb H1 HB1
  go_upto_region 2 with fail
  obtain ⟨w2, hw2⟩ : ∃ w2, w2 = w1.setCell ⟨w.heap.size, 0, none⟩ (.string i) := ⟨_, rfl⟩
  rw [← hw2] at HY2 HY3 HB2 ⊢
  have k4 : w2.cell? ⟨w.heap.size, 4, none⟩ = some (.string s) := HY2.out.cell 4
  clear hw2 c0 f0 hlt c4
  go_wp2_with fail
  refine (H2.out _).mono ?_
  rintro e w3 ⟨rfl, hb⟩
  have HZ0 := HY2.out.below hb HY2.out.lt
  have HZ1 : Hid (Bx w3 (w.heap.size + 1) #[.string ⟨#[]⟩, .int .i64 0, .int .i64 0, .int .i64 0, .string ⟨#[]⟩] 45) := HY3.out.below hb HY3.out.lt
  have HB3 : Hid (Below w.heap.size w w3) := HB2.out.trans (hb.mono HB2.out.size)
  have c0 : w3.cell? ⟨w.heap.size, 0, none⟩ = some (.string i) := HZ0.cell 0
  have c1 : w3.cell? ⟨w.heap.size, 1, none⟩ = some (.int .i64 a) := HZ0.cell 1
  have c2 : w3.cell? ⟨w.heap.size, 2, none⟩ = some (.int .i64 b) := HZ0.cell 2
  have c3 : w3.cell? ⟨w.heap.size, 3, none⟩ = some (.int .i64 c) := HZ0.cell 3
  have c4 : w3.cell? ⟨w.heap.size, 4, none⟩ = some (.string s) := HZ0.cell 4
  have f4 : w3.frozen? ⟨w.heap.size, 4, none⟩ = false := HZ0.froz 4
  have d0 : w3.cell? ⟨w.heap.size + 1, 0, none⟩ = some (.string ⟨#[]⟩) := HZ1.out.cell 0
  have d1 : w3.cell? ⟨w.heap.size + 1, 1, none⟩ = some (.int .i64 0) := HZ1.out.cell 1
  have d2 : w3.cell? ⟨w.heap.size + 1, 2, none⟩ = some (.int .i64 0) := HZ1.out.cell 2
  have d3 : w3.cell? ⟨w.heap.size + 1, 3, none⟩ = some (.int .i64 0) := HZ1.out.cell 3
  have d4 : w3.cell? ⟨w.heap.size + 1, 4, none⟩ = some (.string ⟨#[]⟩) := HZ1.out.cell 4
  have g0 : w3.frozen? ⟨w.heap.size + 1, 0, none⟩ = false := HZ1.out.froz 0
  have g1 : w3.frozen? ⟨w.heap.size + 1, 1, none⟩ = false := HZ1.out.froz 1
  have g2 : w3.frozen? ⟨w.heap.size + 1, 2, none⟩ = false := HZ1.out.froz 2
  have g3 : w3.frozen? ⟨w.heap.size + 1, 3, none⟩ = false := HZ1.out.froz 3
  have g4 : w3.frozen? ⟨w.heap.size + 1, 4, none⟩ = false := HZ1.out.froz 4
  clear HY2 HY3 HB2 HZ0 hb H2 k4
  go_wp2_with fail
  have HZ := (((((HZ1.out.oset (c := w.heap.size) (by omega) 4 (.string s)).setc 0 (.string i)).setc 1 (.int .i64 a)).setc 2 (.int .i64 b)).setc 3 (.int .i64 c)).setc 4 (.string s)
  refine bodyPost_ret (res_cell _ _ 2 45 _ _ _ rfl rfl (res27 HZ)) rfl ?_
  exact ⟨rfl, (((((HB3.out.setCell (p := ⟨w.heap.size, 4, none⟩) (Nat.le_refl _) _).setCell (p := ⟨w.heap.size + 1, 0, none⟩) (by simp) _).setCell (p := ⟨w.heap.size + 1, 1, none⟩) (by simp) _).setCell (p := ⟨w.heap.size + 1, 2, none⟩) (by simp) _).setCell (p := ⟨w.heap.size + 1, 3, none⟩) (by simp) _).setCell (p := ⟨w.heap.size + 1, 4, none⟩) (by simp) _⟩
end Go.Proofs.Ytheikjjehidagaa.H5
