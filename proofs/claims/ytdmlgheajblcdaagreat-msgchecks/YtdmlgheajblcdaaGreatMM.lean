/- Layer 10: Roll, from end to end. -/
import Derived.Test.YtdmlgheajblcdaaGreatMK
import Derived.WalkKit
import Derived.ProofKit
import Derived.Handy
import Derived.WalkLawsBesides
import Derived.WalkSpells
import Derived.BigQuiet
import Derived.BigCall
import Derived.Deep.QuietTactic
import Derived.Deep.Light
import Derived.Deep.OwnRows
import Derived.Laws.AppendOwnNone
import Derived.Laws.Strings3
import Derived.Laws.RangeAny
import Derived.Deep.RegionWith
import Derived.Lib.BitFns
import Derived.Lib.Walk
import Derived.Lib.Strings
import Derived.Lib.OthersKept
import Derived.Deep.CutBlock
import Derived.Deep.DeepCutAuto
import Derived.Deep.LoopGhost
import Derived.Deep.RegionHeld3
import Derived.Lib.SmallJoins
import Derived.Maps.AppendAt
import Derived.Laws.IdiomStrings
import Derived.Lib.AppendZeros
import Derived.Deep.WholeRow
import Derived.Laws.BitsAllLaws
import Derived.Lib.ConvBytes
import Derived.Deep.RegionLaw
namespace Go.Proofs.YtdmlgheajblcdaaGreat
open Go.RowKit
set_option linter.unusedVariables false
set_option linter.unusedSimpArgs false
set_option maxRecDepth 20000
theorem bt {w w1 w2 : World} (h : Below w.heap.size w w1) (k : Below w1.heap.size w1 w2) : Below w.heap.size w w2 := h.trans (k.mono h.size)
theorem check5 (d : Int) (g : Bool) (h : inn d 0 200000 = g) (w : World) : Calls Tryz.prog 161 #[.agg #[.int .i64 d]] w (KP (.int .i64 (if g then (0 : Nat) else 10 : Nat)) w) := by
  have HB : Hid (Below w.heap.size w (w.alloc (.cells #[.int .i64 d] 74))) := below_a w _
  have HC : Hid (∀ w, Calls Tryz.prog 163 #[.int .i64 d] w (NP .i64 (if g then (0 : Nat) else 10 : Nat) w)) := fun w => xday d g h w
  generalize (if g then (0 : Nat) else 10 : Nat) = n at *
  go_enter Tryz.func161, Tryz.ntmps161
  go_wp2_with (go_at_call 163; refine (HC.out _).mono ?_; rintro e w2 ⟨rfl, rfl⟩)
  go_ret
  exact KP.mk rfl HB.out
theorem Check5 (d : Int) (g : Bool) (h : inn d 0 200000 = g) (w : World) : Calls Tryz.prog 12 #[.iface 74 (.agg #[.int .i64 d])] w (KP (.int .i64 (if g then (0 : Nat) else 10 : Nat)) w) := by
  have HC : Hid (∀ w, Calls Tryz.prog 161 #[.agg #[.int .i64 d]] w (KP (.int .i64 (if g then (0 : Nat) else 10 : Nat)) w)) := fun w => check5 d g h w
  generalize (if g then (0 : Nat) else 10 : Nat) = n at *
  go_enter Tryz.func12, Tryz.ntmps12
  go_wp2_with fail
  refine (known5 d _).mono ?_
  rintro e w2 ⟨rfl, hb⟩
  go_wp2_with fail
  refine (HC.out _).mono ?_
  rintro e w3 ⟨rfl, hb3⟩
  have HB : Hid (Below w.heap.size w w3) := bt hb.out hb3.out
  clear hb hb3
  go_wp2_with fail
  go_ret
  exact KP.mk rfl HB.out
/-- a block of a type, whole -/
def Bx (w : World) (b : Nat) (cs : Array Value) (T : Nat) : Prop := w.heap[b]? = some (.cells cs T (0, 0))
theorem Bx.new (w : World) (cs : Array Value) (T : Nat) : Bx (w.alloc (.cells cs T)) w.heap.size cs T := heap_alloc_new w _
theorem Bx.cell {w : World} {b : Nat} {cs : Array Value} {T : Nat} (h : Bx w b cs T) (j : Nat) : w.cell? ⟨b, j, none⟩ = cs[j]? := cell_of_row w b j _ T (0, 0) h
theorem Bx.lt {w : World} {b : Nat} {cs : Array Value} {T : Nat} (h : Bx w b cs T) : b < w.heap.size := (Array.getElem?_eq_some_iff.1 h).1
theorem Bx.keep {w w' : World} {b : Nat} {cs : Array Value} {T : Nat} (h : Bx w b cs T) (hb : Below w.heap.size w w') : Bx w' b cs T := (hb.block b h.lt).trans h
theorem Bx.drewN {w : World} {b : Nat} {cs : Array Value} {T : Nat} (h : Bx w b cs T) (n : Nat) : Bx (w.drewN n) b cs T := h
theorem Bx.bw {B p : Nat} {w w' : World} {b : Nat} {cs : Array Value} {T : Nat} (h : Bx w b cs T) (k : Bw B p w w') (hT : T ≠ 5) (hp : b ≠ p) : Bx w' b cs T := k.2 b cs T h hT hp
theorem Bw.drewN {B p : Nat} {w w' : World} (h : Bw B p w w') (n : Nat) : Bw B p w (w'.drewN n) := ⟨⟨h.1.os, h.1.tape, h.1.output, h.1.size, h.1.block⟩, h.2⟩
theorem write5 (B p : Nat) (v : Value) (l : List UInt8) (d : Int) (hd : I64 d) (w : World) (h : Wm B w p v l) (hl : l.length ≤ 1000000000) : Calls Tryz.prog 162 #[.agg #[.int .i64 d], .pointer (some ⟨p, 0, none⟩)] w (WP B p (l ++ intL d) w) := by
  have HW : Hid (Wm B (w.alloc (.cells #[.int .i64 d] 74)) p v l) := h.alloc _
  have HB : Hid (Bw B p w (w.alloc (.cells #[.int .i64 d] 74))) := (Bw.refl B p w).alloc h.bw _
  have HX : Hid (Bx (w.alloc (.cells #[.int .i64 d] 74)) w.heap.size #[.int .i64 d] 74) := Bx.new _ _ _
  have hbp : w.heap.size ≠ p := Nat.ne_of_gt h.lt
  clear h
  go_enter Tryz.func162, Tryz.ntmps162
  go_wp2_with fail
  generalize w.alloc (.cells #[.int .i64 d] 74) = w1 at *
  generalize w.heap.size = b at *
  have c0 : w1.cell? ⟨b, 0, none⟩ = some (.int .i64 d) := HX.out.cell 0
  have HKP : Hid (∀ (n : Nat) (w5 : World), Bw B p (w1.drewN n) w5 → w5.cell? ⟨b, 0, none⟩ = some (.int .i64 d)) := fun n w5 k => ((HX.out.drewN n).bw k (by decide) hbp).cell 0
  go_region_held3 (fun w' => w'.cell? ⟨b, 0, none⟩ = some (.int .i64 d)) (first | go_keep | exact HKP.out _ _ HB5.out) (first | (go_at_call 47; go_must (refine (wint B p v l d hd _ (HW.out.drewN _) (by omega)).mono ?_; rintro e w5 ⟨rfl, v5, HW5, HB5⟩)))
  have HB6 : Hid (Bw B p w w5) := (HB.out.drewN _).trans HB5.out
  clear HB5 HB HW
  go_wp2_with fail
  go_returns
  exact ⟨rfl, v5, HW5, HB6⟩
theorem Wm.new (w : World) : Wm w.heap.size (w.alloc (.cells #[.slice none 0 0] 117)) w.heap.size (.slice none 0 0) [] := ⟨Nat.le_refl _, heap_alloc_new w _, ⟨rfl, .inl ⟨rfl, rfl⟩⟩⟩
theorem ex_int : ([] ++ intL 5) ++ intL 7 = [10, 14] := by decide
end Go.Proofs.YtdmlgheajblcdaaGreat
