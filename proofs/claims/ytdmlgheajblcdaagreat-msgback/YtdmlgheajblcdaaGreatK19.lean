/- Layer 10: Check and Sender of a message of the program's. -/
import Derived.Test.YtdmlgheajblcdaaGreatK14
import Derived.WalkKit
import Derived.ProofKit
import Derived.Handy
import Derived.WalkLawsBesides
import Derived.WalkSpells
import Derived.BigQuiet
import Derived.BigCall
import Derived.Deep.QuietTactic
import Derived.Deep.Light
import Derived.Deep.OwnRows
import Derived.Laws.AppendOwnNone
import Derived.Laws.Strings3
import Derived.Laws.RangeAny
import Derived.Deep.RegionWith
import Derived.Lib.BitFns
import Derived.Lib.Walk
import Derived.Lib.Strings
import Derived.Lib.OthersKept
import Derived.Deep.CutBlock
import Derived.Deep.DeepCutAuto
import Derived.Deep.LoopGhost
import Derived.Deep.RegionHeld3
import Derived.Lib.SmallJoins
import Derived.Maps.AppendAt
import Derived.Laws.IdiomStrings
import Derived.Lib.AppendZeros
import Derived.Deep.WholeRow
import Derived.Laws.BitsAllLaws
import Derived.Lib.ConvBytes
import Derived.Deep.RegionLaw
namespace Go.Proofs.YtdmlgheajblcdaaGreat
open Go.RowKit
set_option linter.unusedVariables false
set_option linter.unusedSimpArgs false
set_option maxRecDepth 20000
theorem checkV1 (x0 : Int) (x1 : ByteArray) (g : Nat) (w : World) (hc : ∀ W, Below w.heap.size w W → Calls Tryz.prog 165 #[.agg #[.int .i64 x0, .string x1]] W (KP (.int .i64 g) W)) : Calls Tryz.prog 12 #[.iface 76 (.agg #[.int .i64 x0, .string x1])] w (KP (.int .i64 g) w) := by
  have HC : Hid (∀ W, Below w.heap.size w W → Calls Tryz.prog 165 #[.agg #[.int .i64 x0, .string x1]] W (KP (.int .i64 g) W)) := hc
  clear hc
  go_enter Tryz.func12, Tryz.ntmps12
  go_wp2_with fail
  refine (known1 x0 x1 _).mono ?_
  rintro e w2 ⟨rfl, hb⟩
  go_wp2_with fail
  refine (HC.out _ hb.out).mono ?_
  rintro e w3 ⟨rfl, hb3⟩
  have HB : Hid (Below w.heap.size w w3) := bt hb.out hb3.out
  clear hb hb3
  go_wp2_with fail
  go_ret
  exact KP.mk rfl HB.out
theorem checkV2 (x0 : ByteArray) (x1 : Int) (x2 : Int) (x3 : Int) (x4 : ByteArray) (g : Nat) (w : World) (hc : ∀ W, Below w.heap.size w W → Calls Tryz.prog 174 #[.agg #[.string x0, .int .i64 x1, .int .i64 x2, .int .i64 x3, .string x4]] W (KP (.int .i64 g) W)) : Calls Tryz.prog 12 #[.iface 78 (.agg #[.string x0, .int .i64 x1, .int .i64 x2, .int .i64 x3, .string x4])] w (KP (.int .i64 g) w) := by
  have HC : Hid (∀ W, Below w.heap.size w W → Calls Tryz.prog 174 #[.agg #[.string x0, .int .i64 x1, .int .i64 x2, .int .i64 x3, .string x4]] W (KP (.int .i64 g) W)) := hc
  clear hc
  go_enter Tryz.func12, Tryz.ntmps12
  go_wp2_with fail
  refine (known2 x0 x1 x2 x3 x4 _).mono ?_
  rintro e w2 ⟨rfl, hb⟩
  go_wp2_with fail
  refine (HC.out _ hb.out).mono ?_
  rintro e w3 ⟨rfl, hb3⟩
  have HB : Hid (Below w.heap.size w w3) := bt hb.out hb3.out
  clear hb hb3
  go_wp2_with fail
  go_ret
  exact KP.mk rfl HB.out
theorem checkV3 (x0 : Int) (x1 : Int) (x2 : ByteArray) (x3 : Int) (x4 : Int) (x5 : Int) (x6a : Option Addr) (x6n x6c : Nat) (x7 : Int) (x8 : Int) (x9a : Option Addr) (x9n x9c : Nat) (g : Nat) (w : World) (hc : ∀ W, Below w.heap.size w W → Calls Tryz.prog 179 #[.agg #[.int .i64 x0, .int .i64 x1, .string x2, .int .i64 x3, .int .i64 x4, .int .i64 x5, .slice x6a x6n x6c, .int .i64 x7, .int .i64 x8, .slice x9a x9n x9c]] W (KP (.int .i64 g) W)) : Calls Tryz.prog 12 #[.iface 80 (.agg #[.int .i64 x0, .int .i64 x1, .string x2, .int .i64 x3, .int .i64 x4, .int .i64 x5, .slice x6a x6n x6c, .int .i64 x7, .int .i64 x8, .slice x9a x9n x9c])] w (KP (.int .i64 g) w) := by
  have HC : Hid (∀ W, Below w.heap.size w W → Calls Tryz.prog 179 #[.agg #[.int .i64 x0, .int .i64 x1, .string x2, .int .i64 x3, .int .i64 x4, .int .i64 x5, .slice x6a x6n x6c, .int .i64 x7, .int .i64 x8, .slice x9a x9n x9c]] W (KP (.int .i64 g) W)) := hc
  clear hc
  go_enter Tryz.func12, Tryz.ntmps12
  go_wp2_with fail
  refine (known3 x0 x1 x2 x3 x4 x5 x6a x6n x6c x7 x8 x9a x9n x9c _).mono ?_
  rintro e w2 ⟨rfl, hb⟩
  go_wp2_with fail
  refine (HC.out _ hb.out).mono ?_
  rintro e w3 ⟨rfl, hb3⟩
  have HB : Hid (Below w.heap.size w w3) := bt hb.out hb3.out
  clear hb hb3
  go_wp2_with fail
  go_ret
  exact KP.mk rfl HB.out
theorem checkV4 (x0a : Option Addr) (x0n x0c : Nat) (g : Nat) (w : World) (hc : ∀ W, Below w.heap.size w W → Calls Tryz.prog 183 #[.agg #[.slice x0a x0n x0c]] W (KP (.int .i64 g) W)) : Calls Tryz.prog 12 #[.iface 82 (.agg #[.slice x0a x0n x0c])] w (KP (.int .i64 g) w) := by
  have HC : Hid (∀ W, Below w.heap.size w W → Calls Tryz.prog 183 #[.agg #[.slice x0a x0n x0c]] W (KP (.int .i64 g) W)) := hc
  clear hc
  go_enter Tryz.func12, Tryz.ntmps12
  go_wp2_with fail
  refine (known4 x0a x0n x0c _).mono ?_
  rintro e w2 ⟨rfl, hb⟩
  go_wp2_with fail
  refine (HC.out _ hb.out).mono ?_
  rintro e w3 ⟨rfl, hb3⟩
  have HB : Hid (Below w.heap.size w w3) := bt hb.out hb3.out
  clear hb hb3
  go_wp2_with fail
  go_ret
  exact KP.mk rfl HB.out
theorem checkV5 (x0 : Int) (g : Nat) (w : World) (hc : ∀ W, Below w.heap.size w W → Calls Tryz.prog 161 #[.agg #[.int .i64 x0]] W (KP (.int .i64 g) W)) : Calls Tryz.prog 12 #[.iface 74 (.agg #[.int .i64 x0])] w (KP (.int .i64 g) w) := by
  have HC : Hid (∀ W, Below w.heap.size w W → Calls Tryz.prog 161 #[.agg #[.int .i64 x0]] W (KP (.int .i64 g) W)) := hc
  clear hc
  go_enter Tryz.func12, Tryz.ntmps12
  go_wp2_with fail
  refine (known5 x0 _).mono ?_
  rintro e w2 ⟨rfl, hb⟩
  go_wp2_with fail
  refine (HC.out _ hb.out).mono ?_
  rintro e w3 ⟨rfl, hb3⟩
  have HB : Hid (Below w.heap.size w w3) := bt hb.out hb3.out
  clear hb hb3
  go_wp2_with fail
  go_ret
  exact KP.mk rfl HB.out
theorem checkV6 (x0 : Int) (x1 : ByteArray) (x2 : Int) (g : Nat) (w : World) (hc : ∀ W, Below w.heap.size w W → Calls Tryz.prog 186 #[.agg #[.int .i64 x0, .string x1, .int .i64 x2]] W (KP (.int .i64 g) W)) : Calls Tryz.prog 12 #[.iface 84 (.agg #[.int .i64 x0, .string x1, .int .i64 x2])] w (KP (.int .i64 g) w) := by
  have HC : Hid (∀ W, Below w.heap.size w W → Calls Tryz.prog 186 #[.agg #[.int .i64 x0, .string x1, .int .i64 x2]] W (KP (.int .i64 g) W)) := hc
  clear hc
  go_enter Tryz.func12, Tryz.ntmps12
  go_wp2_with fail
  refine (known6 x0 x1 x2 _).mono ?_
  rintro e w2 ⟨rfl, hb⟩
  go_wp2_with fail
  refine (HC.out _ hb.out).mono ?_
  rintro e w3 ⟨rfl, hb3⟩
  have HB : Hid (Below w.heap.size w w3) := bt hb.out hb3.out
  clear hb hb3
  go_wp2_with fail
  go_ret
  exact KP.mk rfl HB.out
theorem checkV7 (x0 : Int) (x1 : ByteArray) (x2 : Int) (g : Nat) (w : World) (hc : ∀ W, Below w.heap.size w W → Calls Tryz.prog 190 #[.agg #[.int .i64 x0, .string x1, .int .i64 x2]] W (KP (.int .i64 g) W)) : Calls Tryz.prog 12 #[.iface 86 (.agg #[.int .i64 x0, .string x1, .int .i64 x2])] w (KP (.int .i64 g) w) := by
  have HC : Hid (∀ W, Below w.heap.size w W → Calls Tryz.prog 190 #[.agg #[.int .i64 x0, .string x1, .int .i64 x2]] W (KP (.int .i64 g) W)) := hc
  clear hc
  go_enter Tryz.func12, Tryz.ntmps12
  go_wp2_with fail
  refine (known7 x0 x1 x2 _).mono ?_
  rintro e w2 ⟨rfl, hb⟩
  go_wp2_with fail
  refine (HC.out _ hb.out).mono ?_
  rintro e w3 ⟨rfl, hb3⟩
  have HB : Hid (Below w.heap.size w w3) := bt hb.out hb3.out
  clear hb hb3
  go_wp2_with fail
  go_ret
  exact KP.mk rfl HB.out
theorem checkV8 (x0 : Int) (x1 : Int) (x2 : Int) (x3 : Int) (x4 : Int) (x5 : Int) (x6 : Int) (x7 : Int) (g : Nat) (w : World) (hc : ∀ W, Below w.heap.size w W → Calls Tryz.prog 138 #[.agg #[.int .i64 x0, .int .i64 x1, .int .i64 x2, .int .i64 x3, .int .i64 x4, .int .i64 x5, .int .i64 x6, .int .i64 x7]] W (KP (.int .i64 g) W)) : Calls Tryz.prog 12 #[.iface 63 (.agg #[.int .i64 x0, .int .i64 x1, .int .i64 x2, .int .i64 x3, .int .i64 x4, .int .i64 x5, .int .i64 x6, .int .i64 x7])] w (KP (.int .i64 g) w) := by
  have HC : Hid (∀ W, Below w.heap.size w W → Calls Tryz.prog 138 #[.agg #[.int .i64 x0, .int .i64 x1, .int .i64 x2, .int .i64 x3, .int .i64 x4, .int .i64 x5, .int .i64 x6, .int .i64 x7]] W (KP (.int .i64 g) W)) := hc
  clear hc
  go_enter Tryz.func12, Tryz.ntmps12
  go_wp2_with fail
  refine (known8 x0 x1 x2 x3 x4 x5 x6 x7 _).mono ?_
  rintro e w2 ⟨rfl, hb⟩
  go_wp2_with fail
  refine (HC.out _ hb.out).mono ?_
  rintro e w3 ⟨rfl, hb3⟩
  have HB : Hid (Below w.heap.size w w3) := bt hb.out hb3.out
  clear hb hb3
  go_wp2_with fail
  go_ret
  exact KP.mk rfl HB.out
theorem checkV9 (x0 : Int) (x1 : Int) (g : Nat) (w : World) (hc : ∀ W, Below w.heap.size w W → Calls Tryz.prog 193 #[.agg #[.int .i64 x0, .int .i64 x1]] W (KP (.int .i64 g) W)) : Calls Tryz.prog 12 #[.iface 88 (.agg #[.int .i64 x0, .int .i64 x1])] w (KP (.int .i64 g) w) := by
  have HC : Hid (∀ W, Below w.heap.size w W → Calls Tryz.prog 193 #[.agg #[.int .i64 x0, .int .i64 x1]] W (KP (.int .i64 g) W)) := hc
  clear hc
  go_enter Tryz.func12, Tryz.ntmps12
  go_wp2_with fail
  refine (known9 x0 x1 _).mono ?_
  rintro e w2 ⟨rfl, hb⟩
  go_wp2_with fail
  refine (HC.out _ hb.out).mono ?_
  rintro e w3 ⟨rfl, hb3⟩
  have HB : Hid (Below w.heap.size w w3) := bt hb.out hb3.out
  clear hb hb3
  go_wp2_with fail
  go_ret
  exact KP.mk rfl HB.out
theorem checkV10 (x0 : Int) (x1 : Int) (x2 : Int) (g : Nat) (w : World) (hc : ∀ W, Below w.heap.size w W → Calls Tryz.prog 196 #[.agg #[.int .i64 x0, .int .i64 x1, .int .i64 x2]] W (KP (.int .i64 g) W)) : Calls Tryz.prog 12 #[.iface 90 (.agg #[.int .i64 x0, .int .i64 x1, .int .i64 x2])] w (KP (.int .i64 g) w) := by
  have HC : Hid (∀ W, Below w.heap.size w W → Calls Tryz.prog 196 #[.agg #[.int .i64 x0, .int .i64 x1, .int .i64 x2]] W (KP (.int .i64 g) W)) := hc
  clear hc
  go_enter Tryz.func12, Tryz.ntmps12
  go_wp2_with fail
  refine (known10 x0 x1 x2 _).mono ?_
  rintro e w2 ⟨rfl, hb⟩
  go_wp2_with fail
  refine (HC.out _ hb.out).mono ?_
  rintro e w3 ⟨rfl, hb3⟩
  have HB : Hid (Below w.heap.size w w3) := bt hb.out hb3.out
  clear hb hb3
  go_wp2_with fail
  go_ret
  exact KP.mk rfl HB.out
theorem checkV11 (x0 : Int) (x1 : Int) (x2 : ByteArray) (x3 : Int) (x4a : Option Addr) (x4n x4c : Nat) (g : Nat) (w : World) (hc : ∀ W, Below w.heap.size w W → Calls Tryz.prog 147 #[.agg #[.int .i64 x0, .int .i64 x1, .string x2, .int .i64 x3, .slice x4a x4n x4c]] W (KP (.int .i64 g) W)) : Calls Tryz.prog 12 #[.iface 67 (.agg #[.int .i64 x0, .int .i64 x1, .string x2, .int .i64 x3, .slice x4a x4n x4c])] w (KP (.int .i64 g) w) := by
  have HC : Hid (∀ W, Below w.heap.size w W → Calls Tryz.prog 147 #[.agg #[.int .i64 x0, .int .i64 x1, .string x2, .int .i64 x3, .slice x4a x4n x4c]] W (KP (.int .i64 g) W)) := hc
  clear hc
  go_enter Tryz.func12, Tryz.ntmps12
  go_wp2_with fail
  refine (known11 x0 x1 x2 x3 x4a x4n x4c _).mono ?_
  rintro e w2 ⟨rfl, hb⟩
  go_wp2_with fail
  refine (HC.out _ hb.out).mono ?_
  rintro e w3 ⟨rfl, hb3⟩
  have HB : Hid (Below w.heap.size w w3) := bt hb.out hb3.out
  clear hb hb3
  go_wp2_with fail
  go_ret
  exact KP.mk rfl HB.out
theorem checkV12 (x0 : Int) (x1 : Int) (x2 : Bool) (g : Nat) (w : World) (hc : ∀ W, Below w.heap.size w W → Calls Tryz.prog 199 #[.agg #[.int .i64 x0, .int .i64 x1, .bool x2]] W (KP (.int .i64 g) W)) : Calls Tryz.prog 12 #[.iface 92 (.agg #[.int .i64 x0, .int .i64 x1, .bool x2])] w (KP (.int .i64 g) w) := by
  have HC : Hid (∀ W, Below w.heap.size w W → Calls Tryz.prog 199 #[.agg #[.int .i64 x0, .int .i64 x1, .bool x2]] W (KP (.int .i64 g) W)) := hc
  clear hc
  go_enter Tryz.func12, Tryz.ntmps12
  go_wp2_with fail
  refine (known12 x0 x1 x2 _).mono ?_
  rintro e w2 ⟨rfl, hb⟩
  go_wp2_with fail
  refine (HC.out _ hb.out).mono ?_
  rintro e w3 ⟨rfl, hb3⟩
  have HB : Hid (Below w.heap.size w w3) := bt hb.out hb3.out
  clear hb hb3
  go_wp2_with fail
  go_ret
  exact KP.mk rfl HB.out
theorem checkV13 (x0 : Int) (g : Nat) (w : World) (hc : ∀ W, Below w.heap.size w W → Calls Tryz.prog 203 #[.agg #[.int .i64 x0]] W (KP (.int .i64 g) W)) : Calls Tryz.prog 12 #[.iface 94 (.agg #[.int .i64 x0])] w (KP (.int .i64 g) w) := by
  have HC : Hid (∀ W, Below w.heap.size w W → Calls Tryz.prog 203 #[.agg #[.int .i64 x0]] W (KP (.int .i64 g) W)) := hc
  clear hc
  go_enter Tryz.func12, Tryz.ntmps12
  go_wp2_with fail
  refine (known13 x0 _).mono ?_
  rintro e w2 ⟨rfl, hb⟩
  go_wp2_with fail
  refine (HC.out _ hb.out).mono ?_
  rintro e w3 ⟨rfl, hb3⟩
  have HB : Hid (Below w.heap.size w w3) := bt hb.out hb3.out
  clear hb hb3
  go_wp2_with fail
  go_ret
  exact KP.mk rfl HB.out
theorem checkV14 (x0 : Int) (x1 : Int) (g : Nat) (w : World) (hc : ∀ W, Below w.heap.size w W → Calls Tryz.prog 206 #[.agg #[.int .i64 x0, .int .i64 x1]] W (KP (.int .i64 g) W)) : Calls Tryz.prog 12 #[.iface 96 (.agg #[.int .i64 x0, .int .i64 x1])] w (KP (.int .i64 g) w) := by
  have HC : Hid (∀ W, Below w.heap.size w W → Calls Tryz.prog 206 #[.agg #[.int .i64 x0, .int .i64 x1]] W (KP (.int .i64 g) W)) := hc
  clear hc
  go_enter Tryz.func12, Tryz.ntmps12
  go_wp2_with fail
  refine (known14 x0 x1 _).mono ?_
  rintro e w2 ⟨rfl, hb⟩
  go_wp2_with fail
  refine (HC.out _ hb.out).mono ?_
  rintro e w3 ⟨rfl, hb3⟩
  have HB : Hid (Below w.heap.size w w3) := bt hb.out hb3.out
  clear hb hb3
  go_wp2_with fail
  go_ret
  exact KP.mk rfl HB.out
theorem checkV15 (x0 : Int) (x1 : Int) (x2 : Int) (g : Nat) (w : World) (hc : ∀ W, Below w.heap.size w W → Calls Tryz.prog 209 #[.agg #[.int .i64 x0, .int .i64 x1, .int .i64 x2]] W (KP (.int .i64 g) W)) : Calls Tryz.prog 12 #[.iface 98 (.agg #[.int .i64 x0, .int .i64 x1, .int .i64 x2])] w (KP (.int .i64 g) w) := by
  have HC : Hid (∀ W, Below w.heap.size w W → Calls Tryz.prog 209 #[.agg #[.int .i64 x0, .int .i64 x1, .int .i64 x2]] W (KP (.int .i64 g) W)) := hc
  clear hc
  go_enter Tryz.func12, Tryz.ntmps12
  go_wp2_with fail
  refine (known15 x0 x1 x2 _).mono ?_
  rintro e w2 ⟨rfl, hb⟩
  go_wp2_with fail
  refine (HC.out _ hb.out).mono ?_
  rintro e w3 ⟨rfl, hb3⟩
  have HB : Hid (Below w.heap.size w w3) := bt hb.out hb3.out
  clear hb hb3
  go_wp2_with fail
  go_ret
  exact KP.mk rfl HB.out
theorem checkV0 (w : World) : Calls Tryz.prog 12 #[.nilIface] w (KP (.int .i64 17) w) := by
  go_enter Tryz.func12, Tryz.ntmps12
  go_wp2_with fail
  refine (known0 _).mono ?_
  rintro e w2 ⟨rfl, hb⟩
  go_wp2_with fail
  go_ret
  exact ⟨rfl, hb⟩
theorem sendOf (v : Value) (n : Int) (h : ∀ w, Calls Tryz.prog 38 #[v] w (KP (.int .i64 n) w)) (w : World) : Calls Tryz.prog 14 #[v] w (KP (.int .i64 n) w) := by
  have H : Hid (∀ w, Calls Tryz.prog 38 #[v] w (KP (.int .i64 n) w)) := h
  clear h
  go_enter Tryz.func14, Tryz.ntmps14
  go_wp2_with fail
  refine (H.out _).mono ?_
  rintro e w2 ⟨rfl, hb⟩
  go_wp2_with fail
  go_ret
  exact ⟨rfl, hb⟩
theorem send1 (x0 : Int) (x1 : ByteArray) (w : World) : Calls Tryz.prog 14 #[.iface 76 (.agg #[.int .i64 x0, .string x1])] w (KP (.int .i64 0) w) := by
  have t8 := tn1_8
  have t9 := tn1_9
  have t10 := tn1_10
  have t11 := tn1_11
  refine sendOf _ _ (fun w => ?_) w
  have HB : Hid (∀ o, Below w.heap.size w (w.alloc o)) := below_a w
  have HB0 : Hid (Below w.heap.size w w) := Below.refl _ _
  go_enter Tryz.func38, Tryz.ntmps38
  go_wp2_with fail
  go_ret
  exact ⟨rfl, by first | exact HB.out _ | exact HB0.out⟩
theorem send2 (x0 : ByteArray) (x1 : Int) (x2 : Int) (x3 : Int) (x4 : ByteArray) (w : World) : Calls Tryz.prog 14 #[.iface 78 (.agg #[.string x0, .int .i64 x1, .int .i64 x2, .int .i64 x3, .string x4])] w (KP (.int .i64 0) w) := by
  have t8 := tn2_8
  have t9 := tn2_9
  have t10 := tn2_10
  have t11 := tn2_11
  refine sendOf _ _ (fun w => ?_) w
  have HB : Hid (∀ o, Below w.heap.size w (w.alloc o)) := below_a w
  have HB0 : Hid (Below w.heap.size w w) := Below.refl _ _
  go_enter Tryz.func38, Tryz.ntmps38
  go_wp2_with fail
  go_ret
  exact ⟨rfl, by first | exact HB.out _ | exact HB0.out⟩
theorem send3 (x0 : Int) (x1 : Int) (x2 : ByteArray) (x3 : Int) (x4 : Int) (x5 : Int) (x6a : Option Addr) (x6n x6c : Nat) (x7 : Int) (x8 : Int) (x9a : Option Addr) (x9n x9c : Nat) (w : World) : Calls Tryz.prog 14 #[.iface 80 (.agg #[.int .i64 x0, .int .i64 x1, .string x2, .int .i64 x3, .int .i64 x4, .int .i64 x5, .slice x6a x6n x6c, .int .i64 x7, .int .i64 x8, .slice x9a x9n x9c])] w (KP (.int .i64 0) w) := by
  have t8 := tn3_8
  have t9 := tn3_9
  have t10 := tn3_10
  have t11 := tn3_11
  refine sendOf _ _ (fun w => ?_) w
  have HB : Hid (∀ o, Below w.heap.size w (w.alloc o)) := below_a w
  have HB0 : Hid (Below w.heap.size w w) := Below.refl _ _
  go_enter Tryz.func38, Tryz.ntmps38
  go_wp2_with fail
  go_ret
  exact ⟨rfl, by first | exact HB.out _ | exact HB0.out⟩
theorem send4 (x0a : Option Addr) (x0n x0c : Nat) (w : World) : Calls Tryz.prog 14 #[.iface 82 (.agg #[.slice x0a x0n x0c])] w (KP (.int .i64 0) w) := by
  have t8 := tn4_8
  have t9 := tn4_9
  have t10 := tn4_10
  have t11 := tn4_11
  refine sendOf _ _ (fun w => ?_) w
  have HB : Hid (∀ o, Below w.heap.size w (w.alloc o)) := below_a w
  have HB0 : Hid (Below w.heap.size w w) := Below.refl _ _
  go_enter Tryz.func38, Tryz.ntmps38
  go_wp2_with fail
  go_ret
  exact ⟨rfl, by first | exact HB.out _ | exact HB0.out⟩
theorem send5 (x0 : Int) (w : World) : Calls Tryz.prog 14 #[.iface 74 (.agg #[.int .i64 x0])] w (KP (.int .i64 0) w) := by
  have t8 := tn5_8
  have t9 := tn5_9
  have t10 := tn5_10
  have t11 := tn5_11
  refine sendOf _ _ (fun w => ?_) w
  have HB : Hid (∀ o, Below w.heap.size w (w.alloc o)) := below_a w
  have HB0 : Hid (Below w.heap.size w w) := Below.refl _ _
  go_enter Tryz.func38, Tryz.ntmps38
  go_wp2_with fail
  go_ret
  exact ⟨rfl, by first | exact HB.out _ | exact HB0.out⟩
theorem send6 (x0 : Int) (x1 : ByteArray) (x2 : Int) (w : World) : Calls Tryz.prog 14 #[.iface 84 (.agg #[.int .i64 x0, .string x1, .int .i64 x2])] w (KP (.int .i64 0) w) := by
  have t8 := tn6_8
  have t9 := tn6_9
  have t10 := tn6_10
  have t11 := tn6_11
  refine sendOf _ _ (fun w => ?_) w
  have HB : Hid (∀ o, Below w.heap.size w (w.alloc o)) := below_a w
  have HB0 : Hid (Below w.heap.size w w) := Below.refl _ _
  go_enter Tryz.func38, Tryz.ntmps38
  go_wp2_with fail
  go_ret
  exact ⟨rfl, by first | exact HB.out _ | exact HB0.out⟩
theorem send7 (x0 : Int) (x1 : ByteArray) (x2 : Int) (w : World) : Calls Tryz.prog 14 #[.iface 86 (.agg #[.int .i64 x0, .string x1, .int .i64 x2])] w (KP (.int .i64 0) w) := by
  have t8 := tn7_8
  have t9 := tn7_9
  have t10 := tn7_10
  have t11 := tn7_11
  refine sendOf _ _ (fun w => ?_) w
  have HB : Hid (∀ o, Below w.heap.size w (w.alloc o)) := below_a w
  have HB0 : Hid (Below w.heap.size w w) := Below.refl _ _
  go_enter Tryz.func38, Tryz.ntmps38
  go_wp2_with fail
  go_ret
  exact ⟨rfl, by first | exact HB.out _ | exact HB0.out⟩
theorem send8 (x0 : Int) (x1 : Int) (x2 : Int) (x3 : Int) (x4 : Int) (x5 : Int) (x6 : Int) (x7 : Int) (w : World) : Calls Tryz.prog 14 #[.iface 63 (.agg #[.int .i64 x0, .int .i64 x1, .int .i64 x2, .int .i64 x3, .int .i64 x4, .int .i64 x5, .int .i64 x6, .int .i64 x7])] w (KP (.int .i64 x1) w) := by
  have t8 := ty8
  refine sendOf _ _ (fun w => ?_) w
  have HB : Hid (∀ o, Below w.heap.size w (w.alloc o)) := below_a w
  have HB0 : Hid (Below w.heap.size w w) := Below.refl _ _
  go_enter Tryz.func38, Tryz.ntmps38
  go_wp2_with fail
  go_ret
  exact ⟨rfl, by first | exact HB.out _ | exact HB0.out⟩
theorem send9 (x0 : Int) (x1 : Int) (w : World) : Calls Tryz.prog 14 #[.iface 88 (.agg #[.int .i64 x0, .int .i64 x1])] w (KP (.int .i64 x0) w) := by
  have t8 := tn9_8
  have t9 := ty9
  refine sendOf _ _ (fun w => ?_) w
  have HB : Hid (∀ o, Below w.heap.size w (w.alloc o)) := below_a w
  have HB0 : Hid (Below w.heap.size w w) := Below.refl _ _
  go_enter Tryz.func38, Tryz.ntmps38
  go_wp2_with fail
  go_ret
  exact ⟨rfl, by first | exact HB.out _ | exact HB0.out⟩
theorem send10 (x0 : Int) (x1 : Int) (x2 : Int) (w : World) : Calls Tryz.prog 14 #[.iface 90 (.agg #[.int .i64 x0, .int .i64 x1, .int .i64 x2])] w (KP (.int .i64 x0) w) := by
  have t8 := tn10_8
  have t9 := tn10_9
  have t10 := ty10
  refine sendOf _ _ (fun w => ?_) w
  have HB : Hid (∀ o, Below w.heap.size w (w.alloc o)) := below_a w
  have HB0 : Hid (Below w.heap.size w w) := Below.refl _ _
  go_enter Tryz.func38, Tryz.ntmps38
  go_wp2_with fail
  go_ret
  exact ⟨rfl, by first | exact HB.out _ | exact HB0.out⟩
theorem send11 (x0 : Int) (x1 : Int) (x2 : ByteArray) (x3 : Int) (x4a : Option Addr) (x4n x4c : Nat) (w : World) : Calls Tryz.prog 14 #[.iface 67 (.agg #[.int .i64 x0, .int .i64 x1, .string x2, .int .i64 x3, .slice x4a x4n x4c])] w (KP (.int .i64 x0) w) := by
  have t8 := tn11_8
  have t9 := tn11_9
  have t10 := tn11_10
  have t11 := ty11
  refine sendOf _ _ (fun w => ?_) w
  have HB : Hid (∀ o, Below w.heap.size w (w.alloc o)) := below_a w
  have HB0 : Hid (Below w.heap.size w w) := Below.refl _ _
  go_enter Tryz.func38, Tryz.ntmps38
  go_wp2_with fail
  go_ret
  exact ⟨rfl, by first | exact HB.out _ | exact HB0.out⟩
theorem send12 (x0 : Int) (x1 : Int) (x2 : Bool) (w : World) : Calls Tryz.prog 14 #[.iface 92 (.agg #[.int .i64 x0, .int .i64 x1, .bool x2])] w (KP (.int .i64 0) w) := by
  have t8 := tn12_8
  have t9 := tn12_9
  have t10 := tn12_10
  have t11 := tn12_11
  refine sendOf _ _ (fun w => ?_) w
  have HB : Hid (∀ o, Below w.heap.size w (w.alloc o)) := below_a w
  have HB0 : Hid (Below w.heap.size w w) := Below.refl _ _
  go_enter Tryz.func38, Tryz.ntmps38
  go_wp2_with fail
  go_ret
  exact ⟨rfl, by first | exact HB.out _ | exact HB0.out⟩
theorem send13 (x0 : Int) (w : World) : Calls Tryz.prog 14 #[.iface 94 (.agg #[.int .i64 x0])] w (KP (.int .i64 0) w) := by
  have t8 := tn13_8
  have t9 := tn13_9
  have t10 := tn13_10
  have t11 := tn13_11
  refine sendOf _ _ (fun w => ?_) w
  have HB : Hid (∀ o, Below w.heap.size w (w.alloc o)) := below_a w
  have HB0 : Hid (Below w.heap.size w w) := Below.refl _ _
  go_enter Tryz.func38, Tryz.ntmps38
  go_wp2_with fail
  go_ret
  exact ⟨rfl, by first | exact HB.out _ | exact HB0.out⟩
theorem send14 (x0 : Int) (x1 : Int) (w : World) : Calls Tryz.prog 14 #[.iface 96 (.agg #[.int .i64 x0, .int .i64 x1])] w (KP (.int .i64 0) w) := by
  have t8 := tn14_8
  have t9 := tn14_9
  have t10 := tn14_10
  have t11 := tn14_11
  refine sendOf _ _ (fun w => ?_) w
  have HB : Hid (∀ o, Below w.heap.size w (w.alloc o)) := below_a w
  have HB0 : Hid (Below w.heap.size w w) := Below.refl _ _
  go_enter Tryz.func38, Tryz.ntmps38
  go_wp2_with fail
  go_ret
  exact ⟨rfl, by first | exact HB.out _ | exact HB0.out⟩
theorem send15 (x0 : Int) (x1 : Int) (x2 : Int) (w : World) : Calls Tryz.prog 14 #[.iface 98 (.agg #[.int .i64 x0, .int .i64 x1, .int .i64 x2])] w (KP (.int .i64 0) w) := by
  have t8 := tn15_8
  have t9 := tn15_9
  have t10 := tn15_10
  have t11 := tn15_11
  refine sendOf _ _ (fun w => ?_) w
  have HB : Hid (∀ o, Below w.heap.size w (w.alloc o)) := below_a w
  have HB0 : Hid (Below w.heap.size w w) := Below.refl _ _
  go_enter Tryz.func38, Tryz.ntmps38
  go_wp2_with fail
  go_ret
  exact ⟨rfl, by first | exact HB.out _ | exact HB0.out⟩
theorem send0  (w : World) : Calls Tryz.prog 14 #[.nilIface] w (KP (.int .i64 0) w) := by
  have t8 := tz8
  have t9 := tz9
  have t10 := tz10
  have t11 := tz11
  refine sendOf _ _ (fun w => ?_) w
  have HB : Hid (∀ o, Below w.heap.size w (w.alloc o)) := below_a w
  have HB0 : Hid (Below w.heap.size w w) := Below.refl _ _
  go_enter Tryz.func38, Tryz.ntmps38
  go_wp2_with fail
  go_ret
  exact ⟨rfl, by first | exact HB.out _ | exact HB0.out⟩
end Go.Proofs.YtdmlgheajblcdaaGreat
