/- Layer 10: known, of each type. -/
import Derived.Test.YtdmlgheajblcdaaGreatMI
import Derived.WalkKit
import Derived.ProofKit
import Derived.Handy
import Derived.WalkLawsBesides
import Derived.WalkSpells
import Derived.BigQuiet
import Derived.BigCall
import Derived.Deep.QuietTactic
import Derived.Deep.Light
import Derived.Deep.OwnRows
import Derived.Laws.AppendOwnNone
import Derived.Laws.Strings3
import Derived.Laws.RangeAny
import Derived.Deep.RegionWith
import Derived.Lib.BitFns
import Derived.Lib.Walk
import Derived.Lib.Strings
import Derived.Lib.OthersKept
import Derived.Deep.CutBlock
import Derived.Deep.DeepCutAuto
import Derived.Deep.LoopGhost
import Derived.Deep.RegionHeld3
import Derived.Lib.SmallJoins
import Derived.Maps.AppendAt
import Derived.Laws.IdiomStrings
import Derived.Lib.AppendZeros
import Derived.Deep.WholeRow
import Derived.Laws.BitsAllLaws
import Derived.Lib.ConvBytes
import Derived.Deep.RegionLaw
namespace Go.Proofs.YtdmlgheajblcdaaGreat
open Go.RowKit
set_option linter.unusedVariables false
set_option linter.unusedSimpArgs false
set_option maxRecDepth 20000
/-- a value, and memory of its own -/
def KP (v : Value) (w : World) (e : Ending) (w' : World) : Prop := e = .returned v ∧ Hid (Below w.heap.size w w')
theorem below_a (w : World) (o : Obj) : Below w.heap.size w (w.alloc o) := (Below.refl _ w).alloc (Nat.le_refl _) _
theorem known1 (x0 : Int) (x1 : ByteArray) (w : World) : Calls Tryz.prog 30 #[.iface 76 (.agg #[.int .i64 x0, .string x1])] w (KP (.iface 76 (.agg #[.int .i64 x0, .string x1])) w) := by
  have t1 := ty1
  have HB : Hid (∀ o, Below w.heap.size w (w.alloc o)) := below_a w
  go_enter Tryz.func30, Tryz.ntmps30
  go_wp2_with fail
  go_ret
  exact ⟨rfl, HB.out _⟩
theorem known2 (x0 : ByteArray) (x1 : Int) (x2 : Int) (x3 : Int) (x4 : ByteArray) (w : World) : Calls Tryz.prog 30 #[.iface 78 (.agg #[.string x0, .int .i64 x1, .int .i64 x2, .int .i64 x3, .string x4])] w (KP (.iface 78 (.agg #[.string x0, .int .i64 x1, .int .i64 x2, .int .i64 x3, .string x4])) w) := by
  have t1 := tn2_1
  have t2 := ty2
  have HB : Hid (∀ o, Below w.heap.size w (w.alloc o)) := below_a w
  go_enter Tryz.func30, Tryz.ntmps30
  go_wp2_with fail
  go_ret
  exact ⟨rfl, HB.out _⟩
theorem known3 (x0 : Int) (x1 : Int) (x2 : ByteArray) (x3 : Int) (x4 : Int) (x5 : Int) (x6a : Option Addr) (x6n x6c : Nat) (x7 : Int) (x8 : Int) (x9a : Option Addr) (x9n x9c : Nat) (w : World) : Calls Tryz.prog 30 #[.iface 80 (.agg #[.int .i64 x0, .int .i64 x1, .string x2, .int .i64 x3, .int .i64 x4, .int .i64 x5, .slice x6a x6n x6c, .int .i64 x7, .int .i64 x8, .slice x9a x9n x9c])] w (KP (.iface 80 (.agg #[.int .i64 x0, .int .i64 x1, .string x2, .int .i64 x3, .int .i64 x4, .int .i64 x5, .slice x6a x6n x6c, .int .i64 x7, .int .i64 x8, .slice x9a x9n x9c])) w) := by
  have t1 := tn3_1
  have t2 := tn3_2
  have t3 := ty3
  have HB : Hid (∀ o, Below w.heap.size w (w.alloc o)) := below_a w
  go_enter Tryz.func30, Tryz.ntmps30
  go_wp2_with fail
  go_ret
  exact ⟨rfl, HB.out _⟩
theorem known4 (x0a : Option Addr) (x0n x0c : Nat) (w : World) : Calls Tryz.prog 30 #[.iface 82 (.agg #[.slice x0a x0n x0c])] w (KP (.iface 82 (.agg #[.slice x0a x0n x0c])) w) := by
  have t1 := tn4_1
  have t2 := tn4_2
  have t3 := tn4_3
  have t4 := ty4
  have HB : Hid (∀ o, Below w.heap.size w (w.alloc o)) := below_a w
  go_enter Tryz.func30, Tryz.ntmps30
  go_wp2_with fail
  go_ret
  exact ⟨rfl, HB.out _⟩
theorem known5 (x0 : Int) (w : World) : Calls Tryz.prog 30 #[.iface 74 (.agg #[.int .i64 x0])] w (KP (.iface 74 (.agg #[.int .i64 x0])) w) := by
  have t1 := tn5_1
  have t2 := tn5_2
  have t3 := tn5_3
  have t4 := tn5_4
  have t5 := ty5
  have HB : Hid (∀ o, Below w.heap.size w (w.alloc o)) := below_a w
  go_enter Tryz.func30, Tryz.ntmps30
  go_wp2_with fail
  go_ret
  exact ⟨rfl, HB.out _⟩
theorem known6 (x0 : Int) (x1 : ByteArray) (x2 : Int) (w : World) : Calls Tryz.prog 30 #[.iface 84 (.agg #[.int .i64 x0, .string x1, .int .i64 x2])] w (KP (.iface 84 (.agg #[.int .i64 x0, .string x1, .int .i64 x2])) w) := by
  have t1 := tn6_1
  have t2 := tn6_2
  have t3 := tn6_3
  have t4 := tn6_4
  have t5 := tn6_5
  have t6 := ty6
  have HB : Hid (∀ o, Below w.heap.size w (w.alloc o)) := below_a w
  go_enter Tryz.func30, Tryz.ntmps30
  go_wp2_with fail
  go_ret
  exact ⟨rfl, HB.out _⟩
theorem known7 (x0 : Int) (x1 : ByteArray) (x2 : Int) (w : World) : Calls Tryz.prog 30 #[.iface 86 (.agg #[.int .i64 x0, .string x1, .int .i64 x2])] w (KP (.iface 86 (.agg #[.int .i64 x0, .string x1, .int .i64 x2])) w) := by
  have t1 := tn7_1
  have t2 := tn7_2
  have t3 := tn7_3
  have t4 := tn7_4
  have t5 := tn7_5
  have t6 := tn7_6
  have t7 := ty7
  have HB : Hid (∀ o, Below w.heap.size w (w.alloc o)) := below_a w
  go_enter Tryz.func30, Tryz.ntmps30
  go_wp2_with fail
  go_ret
  exact ⟨rfl, HB.out _⟩
theorem known8 (x0 : Int) (x1 : Int) (x2 : Int) (x3 : Int) (x4 : Int) (x5 : Int) (x6 : Int) (x7 : Int) (w : World) : Calls Tryz.prog 30 #[.iface 63 (.agg #[.int .i64 x0, .int .i64 x1, .int .i64 x2, .int .i64 x3, .int .i64 x4, .int .i64 x5, .int .i64 x6, .int .i64 x7])] w (KP (.iface 63 (.agg #[.int .i64 x0, .int .i64 x1, .int .i64 x2, .int .i64 x3, .int .i64 x4, .int .i64 x5, .int .i64 x6, .int .i64 x7])) w) := by
  have t1 := tn8_1
  have t2 := tn8_2
  have t3 := tn8_3
  have t4 := tn8_4
  have t5 := tn8_5
  have t6 := tn8_6
  have t7 := tn8_7
  have t8 := ty8
  have HB : Hid (∀ o, Below w.heap.size w (w.alloc o)) := below_a w
  go_enter Tryz.func30, Tryz.ntmps30
  go_wp2_with fail
  go_ret
  exact ⟨rfl, HB.out _⟩
theorem known9 (x0 : Int) (x1 : Int) (w : World) : Calls Tryz.prog 30 #[.iface 88 (.agg #[.int .i64 x0, .int .i64 x1])] w (KP (.iface 88 (.agg #[.int .i64 x0, .int .i64 x1])) w) := by
  have t1 := tn9_1
  have t2 := tn9_2
  have t3 := tn9_3
  have t4 := tn9_4
  have t5 := tn9_5
  have t6 := tn9_6
  have t7 := tn9_7
  have t8 := tn9_8
  have t9 := ty9
  have HB : Hid (∀ o, Below w.heap.size w (w.alloc o)) := below_a w
  go_enter Tryz.func30, Tryz.ntmps30
  go_wp2_with fail
  go_ret
  exact ⟨rfl, HB.out _⟩
theorem known10 (x0 : Int) (x1 : Int) (x2 : Int) (w : World) : Calls Tryz.prog 30 #[.iface 90 (.agg #[.int .i64 x0, .int .i64 x1, .int .i64 x2])] w (KP (.iface 90 (.agg #[.int .i64 x0, .int .i64 x1, .int .i64 x2])) w) := by
  have t1 := tn10_1
  have t2 := tn10_2
  have t3 := tn10_3
  have t4 := tn10_4
  have t5 := tn10_5
  have t6 := tn10_6
  have t7 := tn10_7
  have t8 := tn10_8
  have t9 := tn10_9
  have t10 := ty10
  have HB : Hid (∀ o, Below w.heap.size w (w.alloc o)) := below_a w
  go_enter Tryz.func30, Tryz.ntmps30
  go_wp2_with fail
  go_ret
  exact ⟨rfl, HB.out _⟩
theorem known11 (x0 : Int) (x1 : Int) (x2 : ByteArray) (x3 : Int) (x4a : Option Addr) (x4n x4c : Nat) (w : World) : Calls Tryz.prog 30 #[.iface 67 (.agg #[.int .i64 x0, .int .i64 x1, .string x2, .int .i64 x3, .slice x4a x4n x4c])] w (KP (.iface 67 (.agg #[.int .i64 x0, .int .i64 x1, .string x2, .int .i64 x3, .slice x4a x4n x4c])) w) := by
  have t1 := tn11_1
  have t2 := tn11_2
  have t3 := tn11_3
  have t4 := tn11_4
  have t5 := tn11_5
  have t6 := tn11_6
  have t7 := tn11_7
  have t8 := tn11_8
  have t9 := tn11_9
  have t10 := tn11_10
  have t11 := ty11
  have HB : Hid (∀ o, Below w.heap.size w (w.alloc o)) := below_a w
  go_enter Tryz.func30, Tryz.ntmps30
  go_wp2_with fail
  go_ret
  exact ⟨rfl, HB.out _⟩
theorem known12 (x0 : Int) (x1 : Int) (x2 : Bool) (w : World) : Calls Tryz.prog 30 #[.iface 92 (.agg #[.int .i64 x0, .int .i64 x1, .bool x2])] w (KP (.iface 92 (.agg #[.int .i64 x0, .int .i64 x1, .bool x2])) w) := by
  have t1 := tn12_1
  have t2 := tn12_2
  have t3 := tn12_3
  have t4 := tn12_4
  have t5 := tn12_5
  have t6 := tn12_6
  have t7 := tn12_7
  have t8 := tn12_8
  have t9 := tn12_9
  have t10 := tn12_10
  have t11 := tn12_11
  have t12 := ty12
  have HB : Hid (∀ o, Below w.heap.size w (w.alloc o)) := below_a w
  go_enter Tryz.func30, Tryz.ntmps30
  go_wp2_with fail
  go_ret
  exact ⟨rfl, HB.out _⟩
theorem known13 (x0 : Int) (w : World) : Calls Tryz.prog 30 #[.iface 94 (.agg #[.int .i64 x0])] w (KP (.iface 94 (.agg #[.int .i64 x0])) w) := by
  have t1 := tn13_1
  have t2 := tn13_2
  have t3 := tn13_3
  have t4 := tn13_4
  have t5 := tn13_5
  have t6 := tn13_6
  have t7 := tn13_7
  have t8 := tn13_8
  have t9 := tn13_9
  have t10 := tn13_10
  have t11 := tn13_11
  have t12 := tn13_12
  have t13 := ty13
  have HB : Hid (∀ o, Below w.heap.size w (w.alloc o)) := below_a w
  go_enter Tryz.func30, Tryz.ntmps30
  go_wp2_with fail
  go_ret
  exact ⟨rfl, HB.out _⟩
theorem known14 (x0 : Int) (x1 : Int) (w : World) : Calls Tryz.prog 30 #[.iface 96 (.agg #[.int .i64 x0, .int .i64 x1])] w (KP (.iface 96 (.agg #[.int .i64 x0, .int .i64 x1])) w) := by
  have t1 := tn14_1
  have t2 := tn14_2
  have t3 := tn14_3
  have t4 := tn14_4
  have t5 := tn14_5
  have t6 := tn14_6
  have t7 := tn14_7
  have t8 := tn14_8
  have t9 := tn14_9
  have t10 := tn14_10
  have t11 := tn14_11
  have t12 := tn14_12
  have t13 := tn14_13
  have t14 := ty14
  have HB : Hid (∀ o, Below w.heap.size w (w.alloc o)) := below_a w
  go_enter Tryz.func30, Tryz.ntmps30
  go_wp2_with fail
  go_ret
  exact ⟨rfl, HB.out _⟩
theorem known15 (x0 : Int) (x1 : Int) (x2 : Int) (w : World) : Calls Tryz.prog 30 #[.iface 98 (.agg #[.int .i64 x0, .int .i64 x1, .int .i64 x2])] w (KP (.iface 98 (.agg #[.int .i64 x0, .int .i64 x1, .int .i64 x2])) w) := by
  have t1 := tn15_1
  have t2 := tn15_2
  have t3 := tn15_3
  have t4 := tn15_4
  have t5 := tn15_5
  have t6 := tn15_6
  have t7 := tn15_7
  have t8 := tn15_8
  have t9 := tn15_9
  have t10 := tn15_10
  have t11 := tn15_11
  have t12 := tn15_12
  have t13 := tn15_13
  have t14 := tn15_14
  have t15 := ty15
  have HB : Hid (∀ o, Below w.heap.size w (w.alloc o)) := below_a w
  go_enter Tryz.func30, Tryz.ntmps30
  go_wp2_with fail
  go_ret
  exact ⟨rfl, HB.out _⟩
theorem known0 (w : World) : Calls Tryz.prog 30 #[.nilIface] w (KP .nilIface w) := by
  have t1 := tz1
  have t2 := tz2
  have t3 := tz3
  have t4 := tz4
  have t5 := tz5
  have t6 := tz6
  have t7 := tz7
  have t8 := tz8
  have t9 := tz9
  have t10 := tz10
  have t11 := tz11
  have t12 := tz12
  have t13 := tz13
  have t14 := tz14
  have t15 := tz15
  go_enter Tryz.func30, Tryz.ntmps30
  go_wp2_with fail
  go_ret
  exact ⟨rfl, Below.refl _ _⟩
end Go.Proofs.YtdmlgheajblcdaaGreat
