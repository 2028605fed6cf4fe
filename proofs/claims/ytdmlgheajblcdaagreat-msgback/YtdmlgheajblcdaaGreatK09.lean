/- Layer 10: a message asserted to be of a type. -/
import Derived.Test.YtdmlgheajblcdaaGreatK08
import Derived.WalkKit
import Derived.ProofKit
import Derived.Handy
import Derived.WalkLawsBesides
import Derived.WalkSpells
import Derived.BigQuiet
import Derived.BigCall
import Derived.Deep.QuietTactic
import Derived.Deep.Light
import Derived.Deep.OwnRows
import Derived.Laws.AppendOwnNone
import Derived.Laws.Strings3
import Derived.Laws.RangeAny
import Derived.Deep.RegionWith
import Derived.Lib.BitFns
import Derived.Lib.Walk
import Derived.Lib.Strings
import Derived.Lib.OthersKept
import Derived.Deep.CutBlock
import Derived.Deep.DeepCutAuto
import Derived.Deep.LoopGhost
import Derived.Deep.RegionHeld3
import Derived.Lib.SmallJoins
import Derived.Maps.AppendAt
import Derived.Laws.IdiomStrings
import Derived.Lib.AppendZeros
import Derived.Deep.WholeRow
import Derived.Laws.BitsAllLaws
import Derived.Lib.ConvBytes
import Derived.Deep.RegionLaw
namespace Go.Proofs.YtdmlgheajblcdaaGreat
open Go.RowKit
set_option linter.unusedVariables false
set_option linter.unusedSimpArgs false
set_option maxRecDepth 20000
theorem ty1 (w : World) (v : Value) : (Instr.typeAssert (.iface 76 v) 39 76 true).run Tryz.prog w = .ok (.tuple #[v, .bool true]) w := by kernel_rfl
theorem tz1 (w : World) : (Instr.typeAssert .nilIface 39 76 true).run Tryz.prog w = .ok (.tuple #[.agg #[.int .i64 0, .string ⟨#[]⟩], .bool false]) w := by kernel_rfl
theorem tn2_1 (w : World) (v : Value) : (Instr.typeAssert (.iface 78 v) 39 76 true).run Tryz.prog w = .ok (.tuple #[.agg #[.int .i64 0, .string ⟨#[]⟩], .bool false]) w := by kernel_rfl
theorem tn3_1 (w : World) (v : Value) : (Instr.typeAssert (.iface 80 v) 39 76 true).run Tryz.prog w = .ok (.tuple #[.agg #[.int .i64 0, .string ⟨#[]⟩], .bool false]) w := by kernel_rfl
theorem tn4_1 (w : World) (v : Value) : (Instr.typeAssert (.iface 82 v) 39 76 true).run Tryz.prog w = .ok (.tuple #[.agg #[.int .i64 0, .string ⟨#[]⟩], .bool false]) w := by kernel_rfl
theorem tn5_1 (w : World) (v : Value) : (Instr.typeAssert (.iface 74 v) 39 76 true).run Tryz.prog w = .ok (.tuple #[.agg #[.int .i64 0, .string ⟨#[]⟩], .bool false]) w := by kernel_rfl
theorem tn6_1 (w : World) (v : Value) : (Instr.typeAssert (.iface 84 v) 39 76 true).run Tryz.prog w = .ok (.tuple #[.agg #[.int .i64 0, .string ⟨#[]⟩], .bool false]) w := by kernel_rfl
theorem tn7_1 (w : World) (v : Value) : (Instr.typeAssert (.iface 86 v) 39 76 true).run Tryz.prog w = .ok (.tuple #[.agg #[.int .i64 0, .string ⟨#[]⟩], .bool false]) w := by kernel_rfl
theorem tn8_1 (w : World) (v : Value) : (Instr.typeAssert (.iface 63 v) 39 76 true).run Tryz.prog w = .ok (.tuple #[.agg #[.int .i64 0, .string ⟨#[]⟩], .bool false]) w := by kernel_rfl
theorem tn9_1 (w : World) (v : Value) : (Instr.typeAssert (.iface 88 v) 39 76 true).run Tryz.prog w = .ok (.tuple #[.agg #[.int .i64 0, .string ⟨#[]⟩], .bool false]) w := by kernel_rfl
theorem tn10_1 (w : World) (v : Value) : (Instr.typeAssert (.iface 90 v) 39 76 true).run Tryz.prog w = .ok (.tuple #[.agg #[.int .i64 0, .string ⟨#[]⟩], .bool false]) w := by kernel_rfl
theorem tn11_1 (w : World) (v : Value) : (Instr.typeAssert (.iface 67 v) 39 76 true).run Tryz.prog w = .ok (.tuple #[.agg #[.int .i64 0, .string ⟨#[]⟩], .bool false]) w := by kernel_rfl
theorem tn12_1 (w : World) (v : Value) : (Instr.typeAssert (.iface 92 v) 39 76 true).run Tryz.prog w = .ok (.tuple #[.agg #[.int .i64 0, .string ⟨#[]⟩], .bool false]) w := by kernel_rfl
theorem tn13_1 (w : World) (v : Value) : (Instr.typeAssert (.iface 94 v) 39 76 true).run Tryz.prog w = .ok (.tuple #[.agg #[.int .i64 0, .string ⟨#[]⟩], .bool false]) w := by kernel_rfl
theorem tn14_1 (w : World) (v : Value) : (Instr.typeAssert (.iface 96 v) 39 76 true).run Tryz.prog w = .ok (.tuple #[.agg #[.int .i64 0, .string ⟨#[]⟩], .bool false]) w := by kernel_rfl
theorem tn15_1 (w : World) (v : Value) : (Instr.typeAssert (.iface 98 v) 39 76 true).run Tryz.prog w = .ok (.tuple #[.agg #[.int .i64 0, .string ⟨#[]⟩], .bool false]) w := by kernel_rfl
theorem ty2 (w : World) (v : Value) : (Instr.typeAssert (.iface 78 v) 39 78 true).run Tryz.prog w = .ok (.tuple #[v, .bool true]) w := by kernel_rfl
theorem tz2 (w : World) : (Instr.typeAssert .nilIface 39 78 true).run Tryz.prog w = .ok (.tuple #[.agg #[.string ⟨#[]⟩, .int .i64 0, .int .i64 0, .int .i64 0, .string ⟨#[]⟩], .bool false]) w := by kernel_rfl
theorem tn1_2 (w : World) (v : Value) : (Instr.typeAssert (.iface 76 v) 39 78 true).run Tryz.prog w = .ok (.tuple #[.agg #[.string ⟨#[]⟩, .int .i64 0, .int .i64 0, .int .i64 0, .string ⟨#[]⟩], .bool false]) w := by kernel_rfl
theorem tn3_2 (w : World) (v : Value) : (Instr.typeAssert (.iface 80 v) 39 78 true).run Tryz.prog w = .ok (.tuple #[.agg #[.string ⟨#[]⟩, .int .i64 0, .int .i64 0, .int .i64 0, .string ⟨#[]⟩], .bool false]) w := by kernel_rfl
theorem tn4_2 (w : World) (v : Value) : (Instr.typeAssert (.iface 82 v) 39 78 true).run Tryz.prog w = .ok (.tuple #[.agg #[.string ⟨#[]⟩, .int .i64 0, .int .i64 0, .int .i64 0, .string ⟨#[]⟩], .bool false]) w := by kernel_rfl
theorem tn5_2 (w : World) (v : Value) : (Instr.typeAssert (.iface 74 v) 39 78 true).run Tryz.prog w = .ok (.tuple #[.agg #[.string ⟨#[]⟩, .int .i64 0, .int .i64 0, .int .i64 0, .string ⟨#[]⟩], .bool false]) w := by kernel_rfl
theorem tn6_2 (w : World) (v : Value) : (Instr.typeAssert (.iface 84 v) 39 78 true).run Tryz.prog w = .ok (.tuple #[.agg #[.string ⟨#[]⟩, .int .i64 0, .int .i64 0, .int .i64 0, .string ⟨#[]⟩], .bool false]) w := by kernel_rfl
theorem tn7_2 (w : World) (v : Value) : (Instr.typeAssert (.iface 86 v) 39 78 true).run Tryz.prog w = .ok (.tuple #[.agg #[.string ⟨#[]⟩, .int .i64 0, .int .i64 0, .int .i64 0, .string ⟨#[]⟩], .bool false]) w := by kernel_rfl
theorem tn8_2 (w : World) (v : Value) : (Instr.typeAssert (.iface 63 v) 39 78 true).run Tryz.prog w = .ok (.tuple #[.agg #[.string ⟨#[]⟩, .int .i64 0, .int .i64 0, .int .i64 0, .string ⟨#[]⟩], .bool false]) w := by kernel_rfl
theorem tn9_2 (w : World) (v : Value) : (Instr.typeAssert (.iface 88 v) 39 78 true).run Tryz.prog w = .ok (.tuple #[.agg #[.string ⟨#[]⟩, .int .i64 0, .int .i64 0, .int .i64 0, .string ⟨#[]⟩], .bool false]) w := by kernel_rfl
theorem tn10_2 (w : World) (v : Value) : (Instr.typeAssert (.iface 90 v) 39 78 true).run Tryz.prog w = .ok (.tuple #[.agg #[.string ⟨#[]⟩, .int .i64 0, .int .i64 0, .int .i64 0, .string ⟨#[]⟩], .bool false]) w := by kernel_rfl
theorem tn11_2 (w : World) (v : Value) : (Instr.typeAssert (.iface 67 v) 39 78 true).run Tryz.prog w = .ok (.tuple #[.agg #[.string ⟨#[]⟩, .int .i64 0, .int .i64 0, .int .i64 0, .string ⟨#[]⟩], .bool false]) w := by kernel_rfl
theorem tn12_2 (w : World) (v : Value) : (Instr.typeAssert (.iface 92 v) 39 78 true).run Tryz.prog w = .ok (.tuple #[.agg #[.string ⟨#[]⟩, .int .i64 0, .int .i64 0, .int .i64 0, .string ⟨#[]⟩], .bool false]) w := by kernel_rfl
theorem tn13_2 (w : World) (v : Value) : (Instr.typeAssert (.iface 94 v) 39 78 true).run Tryz.prog w = .ok (.tuple #[.agg #[.string ⟨#[]⟩, .int .i64 0, .int .i64 0, .int .i64 0, .string ⟨#[]⟩], .bool false]) w := by kernel_rfl
theorem tn14_2 (w : World) (v : Value) : (Instr.typeAssert (.iface 96 v) 39 78 true).run Tryz.prog w = .ok (.tuple #[.agg #[.string ⟨#[]⟩, .int .i64 0, .int .i64 0, .int .i64 0, .string ⟨#[]⟩], .bool false]) w := by kernel_rfl
theorem tn15_2 (w : World) (v : Value) : (Instr.typeAssert (.iface 98 v) 39 78 true).run Tryz.prog w = .ok (.tuple #[.agg #[.string ⟨#[]⟩, .int .i64 0, .int .i64 0, .int .i64 0, .string ⟨#[]⟩], .bool false]) w := by kernel_rfl
theorem ty3 (w : World) (v : Value) : (Instr.typeAssert (.iface 80 v) 39 80 true).run Tryz.prog w = .ok (.tuple #[v, .bool true]) w := by kernel_rfl
theorem tz3 (w : World) : (Instr.typeAssert .nilIface 39 80 true).run Tryz.prog w = .ok (.tuple #[.agg #[.int .i64 0, .int .i64 0, .string ⟨#[]⟩, .int .i64 0, .int .i64 0, .int .i64 0, .slice none 0 0, .int .i64 0, .int .i64 0, .slice none 0 0], .bool false]) w := by kernel_rfl
theorem tn1_3 (w : World) (v : Value) : (Instr.typeAssert (.iface 76 v) 39 80 true).run Tryz.prog w = .ok (.tuple #[.agg #[.int .i64 0, .int .i64 0, .string ⟨#[]⟩, .int .i64 0, .int .i64 0, .int .i64 0, .slice none 0 0, .int .i64 0, .int .i64 0, .slice none 0 0], .bool false]) w := by kernel_rfl
theorem tn2_3 (w : World) (v : Value) : (Instr.typeAssert (.iface 78 v) 39 80 true).run Tryz.prog w = .ok (.tuple #[.agg #[.int .i64 0, .int .i64 0, .string ⟨#[]⟩, .int .i64 0, .int .i64 0, .int .i64 0, .slice none 0 0, .int .i64 0, .int .i64 0, .slice none 0 0], .bool false]) w := by kernel_rfl
theorem tn4_3 (w : World) (v : Value) : (Instr.typeAssert (.iface 82 v) 39 80 true).run Tryz.prog w = .ok (.tuple #[.agg #[.int .i64 0, .int .i64 0, .string ⟨#[]⟩, .int .i64 0, .int .i64 0, .int .i64 0, .slice none 0 0, .int .i64 0, .int .i64 0, .slice none 0 0], .bool false]) w := by kernel_rfl
theorem tn5_3 (w : World) (v : Value) : (Instr.typeAssert (.iface 74 v) 39 80 true).run Tryz.prog w = .ok (.tuple #[.agg #[.int .i64 0, .int .i64 0, .string ⟨#[]⟩, .int .i64 0, .int .i64 0, .int .i64 0, .slice none 0 0, .int .i64 0, .int .i64 0, .slice none 0 0], .bool false]) w := by kernel_rfl
theorem tn6_3 (w : World) (v : Value) : (Instr.typeAssert (.iface 84 v) 39 80 true).run Tryz.prog w = .ok (.tuple #[.agg #[.int .i64 0, .int .i64 0, .string ⟨#[]⟩, .int .i64 0, .int .i64 0, .int .i64 0, .slice none 0 0, .int .i64 0, .int .i64 0, .slice none 0 0], .bool false]) w := by kernel_rfl
theorem tn7_3 (w : World) (v : Value) : (Instr.typeAssert (.iface 86 v) 39 80 true).run Tryz.prog w = .ok (.tuple #[.agg #[.int .i64 0, .int .i64 0, .string ⟨#[]⟩, .int .i64 0, .int .i64 0, .int .i64 0, .slice none 0 0, .int .i64 0, .int .i64 0, .slice none 0 0], .bool false]) w := by kernel_rfl
theorem tn8_3 (w : World) (v : Value) : (Instr.typeAssert (.iface 63 v) 39 80 true).run Tryz.prog w = .ok (.tuple #[.agg #[.int .i64 0, .int .i64 0, .string ⟨#[]⟩, .int .i64 0, .int .i64 0, .int .i64 0, .slice none 0 0, .int .i64 0, .int .i64 0, .slice none 0 0], .bool false]) w := by kernel_rfl
theorem tn9_3 (w : World) (v : Value) : (Instr.typeAssert (.iface 88 v) 39 80 true).run Tryz.prog w = .ok (.tuple #[.agg #[.int .i64 0, .int .i64 0, .string ⟨#[]⟩, .int .i64 0, .int .i64 0, .int .i64 0, .slice none 0 0, .int .i64 0, .int .i64 0, .slice none 0 0], .bool false]) w := by kernel_rfl
theorem tn10_3 (w : World) (v : Value) : (Instr.typeAssert (.iface 90 v) 39 80 true).run Tryz.prog w = .ok (.tuple #[.agg #[.int .i64 0, .int .i64 0, .string ⟨#[]⟩, .int .i64 0, .int .i64 0, .int .i64 0, .slice none 0 0, .int .i64 0, .int .i64 0, .slice none 0 0], .bool false]) w := by kernel_rfl
theorem tn11_3 (w : World) (v : Value) : (Instr.typeAssert (.iface 67 v) 39 80 true).run Tryz.prog w = .ok (.tuple #[.agg #[.int .i64 0, .int .i64 0, .string ⟨#[]⟩, .int .i64 0, .int .i64 0, .int .i64 0, .slice none 0 0, .int .i64 0, .int .i64 0, .slice none 0 0], .bool false]) w := by kernel_rfl
theorem tn12_3 (w : World) (v : Value) : (Instr.typeAssert (.iface 92 v) 39 80 true).run Tryz.prog w = .ok (.tuple #[.agg #[.int .i64 0, .int .i64 0, .string ⟨#[]⟩, .int .i64 0, .int .i64 0, .int .i64 0, .slice none 0 0, .int .i64 0, .int .i64 0, .slice none 0 0], .bool false]) w := by kernel_rfl
theorem tn13_3 (w : World) (v : Value) : (Instr.typeAssert (.iface 94 v) 39 80 true).run Tryz.prog w = .ok (.tuple #[.agg #[.int .i64 0, .int .i64 0, .string ⟨#[]⟩, .int .i64 0, .int .i64 0, .int .i64 0, .slice none 0 0, .int .i64 0, .int .i64 0, .slice none 0 0], .bool false]) w := by kernel_rfl
theorem tn14_3 (w : World) (v : Value) : (Instr.typeAssert (.iface 96 v) 39 80 true).run Tryz.prog w = .ok (.tuple #[.agg #[.int .i64 0, .int .i64 0, .string ⟨#[]⟩, .int .i64 0, .int .i64 0, .int .i64 0, .slice none 0 0, .int .i64 0, .int .i64 0, .slice none 0 0], .bool false]) w := by kernel_rfl
theorem tn15_3 (w : World) (v : Value) : (Instr.typeAssert (.iface 98 v) 39 80 true).run Tryz.prog w = .ok (.tuple #[.agg #[.int .i64 0, .int .i64 0, .string ⟨#[]⟩, .int .i64 0, .int .i64 0, .int .i64 0, .slice none 0 0, .int .i64 0, .int .i64 0, .slice none 0 0], .bool false]) w := by kernel_rfl
theorem ty4 (w : World) (v : Value) : (Instr.typeAssert (.iface 82 v) 39 82 true).run Tryz.prog w = .ok (.tuple #[v, .bool true]) w := by kernel_rfl
theorem tz4 (w : World) : (Instr.typeAssert .nilIface 39 82 true).run Tryz.prog w = .ok (.tuple #[.agg #[.slice none 0 0], .bool false]) w := by kernel_rfl
theorem tn1_4 (w : World) (v : Value) : (Instr.typeAssert (.iface 76 v) 39 82 true).run Tryz.prog w = .ok (.tuple #[.agg #[.slice none 0 0], .bool false]) w := by kernel_rfl
theorem tn2_4 (w : World) (v : Value) : (Instr.typeAssert (.iface 78 v) 39 82 true).run Tryz.prog w = .ok (.tuple #[.agg #[.slice none 0 0], .bool false]) w := by kernel_rfl
theorem tn3_4 (w : World) (v : Value) : (Instr.typeAssert (.iface 80 v) 39 82 true).run Tryz.prog w = .ok (.tuple #[.agg #[.slice none 0 0], .bool false]) w := by kernel_rfl
theorem tn5_4 (w : World) (v : Value) : (Instr.typeAssert (.iface 74 v) 39 82 true).run Tryz.prog w = .ok (.tuple #[.agg #[.slice none 0 0], .bool false]) w := by kernel_rfl
theorem tn6_4 (w : World) (v : Value) : (Instr.typeAssert (.iface 84 v) 39 82 true).run Tryz.prog w = .ok (.tuple #[.agg #[.slice none 0 0], .bool false]) w := by kernel_rfl
theorem tn7_4 (w : World) (v : Value) : (Instr.typeAssert (.iface 86 v) 39 82 true).run Tryz.prog w = .ok (.tuple #[.agg #[.slice none 0 0], .bool false]) w := by kernel_rfl
theorem tn8_4 (w : World) (v : Value) : (Instr.typeAssert (.iface 63 v) 39 82 true).run Tryz.prog w = .ok (.tuple #[.agg #[.slice none 0 0], .bool false]) w := by kernel_rfl
theorem tn9_4 (w : World) (v : Value) : (Instr.typeAssert (.iface 88 v) 39 82 true).run Tryz.prog w = .ok (.tuple #[.agg #[.slice none 0 0], .bool false]) w := by kernel_rfl
theorem tn10_4 (w : World) (v : Value) : (Instr.typeAssert (.iface 90 v) 39 82 true).run Tryz.prog w = .ok (.tuple #[.agg #[.slice none 0 0], .bool false]) w := by kernel_rfl
theorem tn11_4 (w : World) (v : Value) : (Instr.typeAssert (.iface 67 v) 39 82 true).run Tryz.prog w = .ok (.tuple #[.agg #[.slice none 0 0], .bool false]) w := by kernel_rfl
theorem tn12_4 (w : World) (v : Value) : (Instr.typeAssert (.iface 92 v) 39 82 true).run Tryz.prog w = .ok (.tuple #[.agg #[.slice none 0 0], .bool false]) w := by kernel_rfl
theorem tn13_4 (w : World) (v : Value) : (Instr.typeAssert (.iface 94 v) 39 82 true).run Tryz.prog w = .ok (.tuple #[.agg #[.slice none 0 0], .bool false]) w := by kernel_rfl
theorem tn14_4 (w : World) (v : Value) : (Instr.typeAssert (.iface 96 v) 39 82 true).run Tryz.prog w = .ok (.tuple #[.agg #[.slice none 0 0], .bool false]) w := by kernel_rfl
theorem tn15_4 (w : World) (v : Value) : (Instr.typeAssert (.iface 98 v) 39 82 true).run Tryz.prog w = .ok (.tuple #[.agg #[.slice none 0 0], .bool false]) w := by kernel_rfl
theorem ty5 (w : World) (v : Value) : (Instr.typeAssert (.iface 74 v) 39 74 true).run Tryz.prog w = .ok (.tuple #[v, .bool true]) w := by kernel_rfl
theorem tz5 (w : World) : (Instr.typeAssert .nilIface 39 74 true).run Tryz.prog w = .ok (.tuple #[.agg #[.int .i64 0], .bool false]) w := by kernel_rfl
theorem tn1_5 (w : World) (v : Value) : (Instr.typeAssert (.iface 76 v) 39 74 true).run Tryz.prog w = .ok (.tuple #[.agg #[.int .i64 0], .bool false]) w := by kernel_rfl
theorem tn2_5 (w : World) (v : Value) : (Instr.typeAssert (.iface 78 v) 39 74 true).run Tryz.prog w = .ok (.tuple #[.agg #[.int .i64 0], .bool false]) w := by kernel_rfl
theorem tn3_5 (w : World) (v : Value) : (Instr.typeAssert (.iface 80 v) 39 74 true).run Tryz.prog w = .ok (.tuple #[.agg #[.int .i64 0], .bool false]) w := by kernel_rfl
theorem tn4_5 (w : World) (v : Value) : (Instr.typeAssert (.iface 82 v) 39 74 true).run Tryz.prog w = .ok (.tuple #[.agg #[.int .i64 0], .bool false]) w := by kernel_rfl
theorem tn6_5 (w : World) (v : Value) : (Instr.typeAssert (.iface 84 v) 39 74 true).run Tryz.prog w = .ok (.tuple #[.agg #[.int .i64 0], .bool false]) w := by kernel_rfl
theorem tn7_5 (w : World) (v : Value) : (Instr.typeAssert (.iface 86 v) 39 74 true).run Tryz.prog w = .ok (.tuple #[.agg #[.int .i64 0], .bool false]) w := by kernel_rfl
theorem tn8_5 (w : World) (v : Value) : (Instr.typeAssert (.iface 63 v) 39 74 true).run Tryz.prog w = .ok (.tuple #[.agg #[.int .i64 0], .bool false]) w := by kernel_rfl
theorem tn9_5 (w : World) (v : Value) : (Instr.typeAssert (.iface 88 v) 39 74 true).run Tryz.prog w = .ok (.tuple #[.agg #[.int .i64 0], .bool false]) w := by kernel_rfl
theorem tn10_5 (w : World) (v : Value) : (Instr.typeAssert (.iface 90 v) 39 74 true).run Tryz.prog w = .ok (.tuple #[.agg #[.int .i64 0], .bool false]) w := by kernel_rfl
theorem tn11_5 (w : World) (v : Value) : (Instr.typeAssert (.iface 67 v) 39 74 true).run Tryz.prog w = .ok (.tuple #[.agg #[.int .i64 0], .bool false]) w := by kernel_rfl
theorem tn12_5 (w : World) (v : Value) : (Instr.typeAssert (.iface 92 v) 39 74 true).run Tryz.prog w = .ok (.tuple #[.agg #[.int .i64 0], .bool false]) w := by kernel_rfl
theorem tn13_5 (w : World) (v : Value) : (Instr.typeAssert (.iface 94 v) 39 74 true).run Tryz.prog w = .ok (.tuple #[.agg #[.int .i64 0], .bool false]) w := by kernel_rfl
theorem tn14_5 (w : World) (v : Value) : (Instr.typeAssert (.iface 96 v) 39 74 true).run Tryz.prog w = .ok (.tuple #[.agg #[.int .i64 0], .bool false]) w := by kernel_rfl
theorem tn15_5 (w : World) (v : Value) : (Instr.typeAssert (.iface 98 v) 39 74 true).run Tryz.prog w = .ok (.tuple #[.agg #[.int .i64 0], .bool false]) w := by kernel_rfl
theorem ty6 (w : World) (v : Value) : (Instr.typeAssert (.iface 84 v) 39 84 true).run Tryz.prog w = .ok (.tuple #[v, .bool true]) w := by kernel_rfl
theorem tz6 (w : World) : (Instr.typeAssert .nilIface 39 84 true).run Tryz.prog w = .ok (.tuple #[.agg #[.int .i64 0, .string ⟨#[]⟩, .int .i64 0], .bool false]) w := by kernel_rfl
theorem tn1_6 (w : World) (v : Value) : (Instr.typeAssert (.iface 76 v) 39 84 true).run Tryz.prog w = .ok (.tuple #[.agg #[.int .i64 0, .string ⟨#[]⟩, .int .i64 0], .bool false]) w := by kernel_rfl
theorem tn2_6 (w : World) (v : Value) : (Instr.typeAssert (.iface 78 v) 39 84 true).run Tryz.prog w = .ok (.tuple #[.agg #[.int .i64 0, .string ⟨#[]⟩, .int .i64 0], .bool false]) w := by kernel_rfl
theorem tn3_6 (w : World) (v : Value) : (Instr.typeAssert (.iface 80 v) 39 84 true).run Tryz.prog w = .ok (.tuple #[.agg #[.int .i64 0, .string ⟨#[]⟩, .int .i64 0], .bool false]) w := by kernel_rfl
theorem tn4_6 (w : World) (v : Value) : (Instr.typeAssert (.iface 82 v) 39 84 true).run Tryz.prog w = .ok (.tuple #[.agg #[.int .i64 0, .string ⟨#[]⟩, .int .i64 0], .bool false]) w := by kernel_rfl
theorem tn5_6 (w : World) (v : Value) : (Instr.typeAssert (.iface 74 v) 39 84 true).run Tryz.prog w = .ok (.tuple #[.agg #[.int .i64 0, .string ⟨#[]⟩, .int .i64 0], .bool false]) w := by kernel_rfl
theorem tn7_6 (w : World) (v : Value) : (Instr.typeAssert (.iface 86 v) 39 84 true).run Tryz.prog w = .ok (.tuple #[.agg #[.int .i64 0, .string ⟨#[]⟩, .int .i64 0], .bool false]) w := by kernel_rfl
theorem tn8_6 (w : World) (v : Value) : (Instr.typeAssert (.iface 63 v) 39 84 true).run Tryz.prog w = .ok (.tuple #[.agg #[.int .i64 0, .string ⟨#[]⟩, .int .i64 0], .bool false]) w := by kernel_rfl
theorem tn9_6 (w : World) (v : Value) : (Instr.typeAssert (.iface 88 v) 39 84 true).run Tryz.prog w = .ok (.tuple #[.agg #[.int .i64 0, .string ⟨#[]⟩, .int .i64 0], .bool false]) w := by kernel_rfl
theorem tn10_6 (w : World) (v : Value) : (Instr.typeAssert (.iface 90 v) 39 84 true).run Tryz.prog w = .ok (.tuple #[.agg #[.int .i64 0, .string ⟨#[]⟩, .int .i64 0], .bool false]) w := by kernel_rfl
theorem tn11_6 (w : World) (v : Value) : (Instr.typeAssert (.iface 67 v) 39 84 true).run Tryz.prog w = .ok (.tuple #[.agg #[.int .i64 0, .string ⟨#[]⟩, .int .i64 0], .bool false]) w := by kernel_rfl
theorem tn12_6 (w : World) (v : Value) : (Instr.typeAssert (.iface 92 v) 39 84 true).run Tryz.prog w = .ok (.tuple #[.agg #[.int .i64 0, .string ⟨#[]⟩, .int .i64 0], .bool false]) w := by kernel_rfl
theorem tn13_6 (w : World) (v : Value) : (Instr.typeAssert (.iface 94 v) 39 84 true).run Tryz.prog w = .ok (.tuple #[.agg #[.int .i64 0, .string ⟨#[]⟩, .int .i64 0], .bool false]) w := by kernel_rfl
theorem tn14_6 (w : World) (v : Value) : (Instr.typeAssert (.iface 96 v) 39 84 true).run Tryz.prog w = .ok (.tuple #[.agg #[.int .i64 0, .string ⟨#[]⟩, .int .i64 0], .bool false]) w := by kernel_rfl
theorem tn15_6 (w : World) (v : Value) : (Instr.typeAssert (.iface 98 v) 39 84 true).run Tryz.prog w = .ok (.tuple #[.agg #[.int .i64 0, .string ⟨#[]⟩, .int .i64 0], .bool false]) w := by kernel_rfl
theorem ty7 (w : World) (v : Value) : (Instr.typeAssert (.iface 86 v) 39 86 true).run Tryz.prog w = .ok (.tuple #[v, .bool true]) w := by kernel_rfl
theorem tz7 (w : World) : (Instr.typeAssert .nilIface 39 86 true).run Tryz.prog w = .ok (.tuple #[.agg #[.int .i64 0, .string ⟨#[]⟩, .int .i64 0], .bool false]) w := by kernel_rfl
theorem tn1_7 (w : World) (v : Value) : (Instr.typeAssert (.iface 76 v) 39 86 true).run Tryz.prog w = .ok (.tuple #[.agg #[.int .i64 0, .string ⟨#[]⟩, .int .i64 0], .bool false]) w := by kernel_rfl
theorem tn2_7 (w : World) (v : Value) : (Instr.typeAssert (.iface 78 v) 39 86 true).run Tryz.prog w = .ok (.tuple #[.agg #[.int .i64 0, .string ⟨#[]⟩, .int .i64 0], .bool false]) w := by kernel_rfl
theorem tn3_7 (w : World) (v : Value) : (Instr.typeAssert (.iface 80 v) 39 86 true).run Tryz.prog w = .ok (.tuple #[.agg #[.int .i64 0, .string ⟨#[]⟩, .int .i64 0], .bool false]) w := by kernel_rfl
theorem tn4_7 (w : World) (v : Value) : (Instr.typeAssert (.iface 82 v) 39 86 true).run Tryz.prog w = .ok (.tuple #[.agg #[.int .i64 0, .string ⟨#[]⟩, .int .i64 0], .bool false]) w := by kernel_rfl
theorem tn5_7 (w : World) (v : Value) : (Instr.typeAssert (.iface 74 v) 39 86 true).run Tryz.prog w = .ok (.tuple #[.agg #[.int .i64 0, .string ⟨#[]⟩, .int .i64 0], .bool false]) w := by kernel_rfl
theorem tn6_7 (w : World) (v : Value) : (Instr.typeAssert (.iface 84 v) 39 86 true).run Tryz.prog w = .ok (.tuple #[.agg #[.int .i64 0, .string ⟨#[]⟩, .int .i64 0], .bool false]) w := by kernel_rfl
theorem tn8_7 (w : World) (v : Value) : (Instr.typeAssert (.iface 63 v) 39 86 true).run Tryz.prog w = .ok (.tuple #[.agg #[.int .i64 0, .string ⟨#[]⟩, .int .i64 0], .bool false]) w := by kernel_rfl
theorem tn9_7 (w : World) (v : Value) : (Instr.typeAssert (.iface 88 v) 39 86 true).run Tryz.prog w = .ok (.tuple #[.agg #[.int .i64 0, .string ⟨#[]⟩, .int .i64 0], .bool false]) w := by kernel_rfl
theorem tn10_7 (w : World) (v : Value) : (Instr.typeAssert (.iface 90 v) 39 86 true).run Tryz.prog w = .ok (.tuple #[.agg #[.int .i64 0, .string ⟨#[]⟩, .int .i64 0], .bool false]) w := by kernel_rfl
theorem tn11_7 (w : World) (v : Value) : (Instr.typeAssert (.iface 67 v) 39 86 true).run Tryz.prog w = .ok (.tuple #[.agg #[.int .i64 0, .string ⟨#[]⟩, .int .i64 0], .bool false]) w := by kernel_rfl
theorem tn12_7 (w : World) (v : Value) : (Instr.typeAssert (.iface 92 v) 39 86 true).run Tryz.prog w = .ok (.tuple #[.agg #[.int .i64 0, .string ⟨#[]⟩, .int .i64 0], .bool false]) w := by kernel_rfl
theorem tn13_7 (w : World) (v : Value) : (Instr.typeAssert (.iface 94 v) 39 86 true).run Tryz.prog w = .ok (.tuple #[.agg #[.int .i64 0, .string ⟨#[]⟩, .int .i64 0], .bool false]) w := by kernel_rfl
theorem tn14_7 (w : World) (v : Value) : (Instr.typeAssert (.iface 96 v) 39 86 true).run Tryz.prog w = .ok (.tuple #[.agg #[.int .i64 0, .string ⟨#[]⟩, .int .i64 0], .bool false]) w := by kernel_rfl
theorem tn15_7 (w : World) (v : Value) : (Instr.typeAssert (.iface 98 v) 39 86 true).run Tryz.prog w = .ok (.tuple #[.agg #[.int .i64 0, .string ⟨#[]⟩, .int .i64 0], .bool false]) w := by kernel_rfl
theorem ty8 (w : World) (v : Value) : (Instr.typeAssert (.iface 63 v) 39 63 true).run Tryz.prog w = .ok (.tuple #[v, .bool true]) w := by kernel_rfl
theorem tz8 (w : World) : (Instr.typeAssert .nilIface 39 63 true).run Tryz.prog w = .ok (.tuple #[.agg #[.int .i64 0, .int .i64 0, .int .i64 0, .int .i64 0, .int .i64 0, .int .i64 0, .int .i64 0, .int .i64 0], .bool false]) w := by kernel_rfl
theorem tn1_8 (w : World) (v : Value) : (Instr.typeAssert (.iface 76 v) 39 63 true).run Tryz.prog w = .ok (.tuple #[.agg #[.int .i64 0, .int .i64 0, .int .i64 0, .int .i64 0, .int .i64 0, .int .i64 0, .int .i64 0, .int .i64 0], .bool false]) w := by kernel_rfl
theorem tn2_8 (w : World) (v : Value) : (Instr.typeAssert (.iface 78 v) 39 63 true).run Tryz.prog w = .ok (.tuple #[.agg #[.int .i64 0, .int .i64 0, .int .i64 0, .int .i64 0, .int .i64 0, .int .i64 0, .int .i64 0, .int .i64 0], .bool false]) w := by kernel_rfl
theorem tn3_8 (w : World) (v : Value) : (Instr.typeAssert (.iface 80 v) 39 63 true).run Tryz.prog w = .ok (.tuple #[.agg #[.int .i64 0, .int .i64 0, .int .i64 0, .int .i64 0, .int .i64 0, .int .i64 0, .int .i64 0, .int .i64 0], .bool false]) w := by kernel_rfl
theorem tn4_8 (w : World) (v : Value) : (Instr.typeAssert (.iface 82 v) 39 63 true).run Tryz.prog w = .ok (.tuple #[.agg #[.int .i64 0, .int .i64 0, .int .i64 0, .int .i64 0, .int .i64 0, .int .i64 0, .int .i64 0, .int .i64 0], .bool false]) w := by kernel_rfl
theorem tn5_8 (w : World) (v : Value) : (Instr.typeAssert (.iface 74 v) 39 63 true).run Tryz.prog w = .ok (.tuple #[.agg #[.int .i64 0, .int .i64 0, .int .i64 0, .int .i64 0, .int .i64 0, .int .i64 0, .int .i64 0, .int .i64 0], .bool false]) w := by kernel_rfl
theorem tn6_8 (w : World) (v : Value) : (Instr.typeAssert (.iface 84 v) 39 63 true).run Tryz.prog w = .ok (.tuple #[.agg #[.int .i64 0, .int .i64 0, .int .i64 0, .int .i64 0, .int .i64 0, .int .i64 0, .int .i64 0, .int .i64 0], .bool false]) w := by kernel_rfl
theorem tn7_8 (w : World) (v : Value) : (Instr.typeAssert (.iface 86 v) 39 63 true).run Tryz.prog w = .ok (.tuple #[.agg #[.int .i64 0, .int .i64 0, .int .i64 0, .int .i64 0, .int .i64 0, .int .i64 0, .int .i64 0, .int .i64 0], .bool false]) w := by kernel_rfl
theorem tn9_8 (w : World) (v : Value) : (Instr.typeAssert (.iface 88 v) 39 63 true).run Tryz.prog w = .ok (.tuple #[.agg #[.int .i64 0, .int .i64 0, .int .i64 0, .int .i64 0, .int .i64 0, .int .i64 0, .int .i64 0, .int .i64 0], .bool false]) w := by kernel_rfl
theorem tn10_8 (w : World) (v : Value) : (Instr.typeAssert (.iface 90 v) 39 63 true).run Tryz.prog w = .ok (.tuple #[.agg #[.int .i64 0, .int .i64 0, .int .i64 0, .int .i64 0, .int .i64 0, .int .i64 0, .int .i64 0, .int .i64 0], .bool false]) w := by kernel_rfl
theorem tn11_8 (w : World) (v : Value) : (Instr.typeAssert (.iface 67 v) 39 63 true).run Tryz.prog w = .ok (.tuple #[.agg #[.int .i64 0, .int .i64 0, .int .i64 0, .int .i64 0, .int .i64 0, .int .i64 0, .int .i64 0, .int .i64 0], .bool false]) w := by kernel_rfl
theorem tn12_8 (w : World) (v : Value) : (Instr.typeAssert (.iface 92 v) 39 63 true).run Tryz.prog w = .ok (.tuple #[.agg #[.int .i64 0, .int .i64 0, .int .i64 0, .int .i64 0, .int .i64 0, .int .i64 0, .int .i64 0, .int .i64 0], .bool false]) w := by kernel_rfl
theorem tn13_8 (w : World) (v : Value) : (Instr.typeAssert (.iface 94 v) 39 63 true).run Tryz.prog w = .ok (.tuple #[.agg #[.int .i64 0, .int .i64 0, .int .i64 0, .int .i64 0, .int .i64 0, .int .i64 0, .int .i64 0, .int .i64 0], .bool false]) w := by kernel_rfl
theorem tn14_8 (w : World) (v : Value) : (Instr.typeAssert (.iface 96 v) 39 63 true).run Tryz.prog w = .ok (.tuple #[.agg #[.int .i64 0, .int .i64 0, .int .i64 0, .int .i64 0, .int .i64 0, .int .i64 0, .int .i64 0, .int .i64 0], .bool false]) w := by kernel_rfl
theorem tn15_8 (w : World) (v : Value) : (Instr.typeAssert (.iface 98 v) 39 63 true).run Tryz.prog w = .ok (.tuple #[.agg #[.int .i64 0, .int .i64 0, .int .i64 0, .int .i64 0, .int .i64 0, .int .i64 0, .int .i64 0, .int .i64 0], .bool false]) w := by kernel_rfl
theorem ty9 (w : World) (v : Value) : (Instr.typeAssert (.iface 88 v) 39 88 true).run Tryz.prog w = .ok (.tuple #[v, .bool true]) w := by kernel_rfl
theorem tz9 (w : World) : (Instr.typeAssert .nilIface 39 88 true).run Tryz.prog w = .ok (.tuple #[.agg #[.int .i64 0, .int .i64 0], .bool false]) w := by kernel_rfl
theorem tn1_9 (w : World) (v : Value) : (Instr.typeAssert (.iface 76 v) 39 88 true).run Tryz.prog w = .ok (.tuple #[.agg #[.int .i64 0, .int .i64 0], .bool false]) w := by kernel_rfl
theorem tn2_9 (w : World) (v : Value) : (Instr.typeAssert (.iface 78 v) 39 88 true).run Tryz.prog w = .ok (.tuple #[.agg #[.int .i64 0, .int .i64 0], .bool false]) w := by kernel_rfl
theorem tn3_9 (w : World) (v : Value) : (Instr.typeAssert (.iface 80 v) 39 88 true).run Tryz.prog w = .ok (.tuple #[.agg #[.int .i64 0, .int .i64 0], .bool false]) w := by kernel_rfl
theorem tn4_9 (w : World) (v : Value) : (Instr.typeAssert (.iface 82 v) 39 88 true).run Tryz.prog w = .ok (.tuple #[.agg #[.int .i64 0, .int .i64 0], .bool false]) w := by kernel_rfl
theorem tn5_9 (w : World) (v : Value) : (Instr.typeAssert (.iface 74 v) 39 88 true).run Tryz.prog w = .ok (.tuple #[.agg #[.int .i64 0, .int .i64 0], .bool false]) w := by kernel_rfl
theorem tn6_9 (w : World) (v : Value) : (Instr.typeAssert (.iface 84 v) 39 88 true).run Tryz.prog w = .ok (.tuple #[.agg #[.int .i64 0, .int .i64 0], .bool false]) w := by kernel_rfl
theorem tn7_9 (w : World) (v : Value) : (Instr.typeAssert (.iface 86 v) 39 88 true).run Tryz.prog w = .ok (.tuple #[.agg #[.int .i64 0, .int .i64 0], .bool false]) w := by kernel_rfl
theorem tn8_9 (w : World) (v : Value) : (Instr.typeAssert (.iface 63 v) 39 88 true).run Tryz.prog w = .ok (.tuple #[.agg #[.int .i64 0, .int .i64 0], .bool false]) w := by kernel_rfl
theorem tn10_9 (w : World) (v : Value) : (Instr.typeAssert (.iface 90 v) 39 88 true).run Tryz.prog w = .ok (.tuple #[.agg #[.int .i64 0, .int .i64 0], .bool false]) w := by kernel_rfl
theorem tn11_9 (w : World) (v : Value) : (Instr.typeAssert (.iface 67 v) 39 88 true).run Tryz.prog w = .ok (.tuple #[.agg #[.int .i64 0, .int .i64 0], .bool false]) w := by kernel_rfl
theorem tn12_9 (w : World) (v : Value) : (Instr.typeAssert (.iface 92 v) 39 88 true).run Tryz.prog w = .ok (.tuple #[.agg #[.int .i64 0, .int .i64 0], .bool false]) w := by kernel_rfl
theorem tn13_9 (w : World) (v : Value) : (Instr.typeAssert (.iface 94 v) 39 88 true).run Tryz.prog w = .ok (.tuple #[.agg #[.int .i64 0, .int .i64 0], .bool false]) w := by kernel_rfl
theorem tn14_9 (w : World) (v : Value) : (Instr.typeAssert (.iface 96 v) 39 88 true).run Tryz.prog w = .ok (.tuple #[.agg #[.int .i64 0, .int .i64 0], .bool false]) w := by kernel_rfl
theorem tn15_9 (w : World) (v : Value) : (Instr.typeAssert (.iface 98 v) 39 88 true).run Tryz.prog w = .ok (.tuple #[.agg #[.int .i64 0, .int .i64 0], .bool false]) w := by kernel_rfl
theorem ty10 (w : World) (v : Value) : (Instr.typeAssert (.iface 90 v) 39 90 true).run Tryz.prog w = .ok (.tuple #[v, .bool true]) w := by kernel_rfl
theorem tz10 (w : World) : (Instr.typeAssert .nilIface 39 90 true).run Tryz.prog w = .ok (.tuple #[.agg #[.int .i64 0, .int .i64 0, .int .i64 0], .bool false]) w := by kernel_rfl
theorem tn1_10 (w : World) (v : Value) : (Instr.typeAssert (.iface 76 v) 39 90 true).run Tryz.prog w = .ok (.tuple #[.agg #[.int .i64 0, .int .i64 0, .int .i64 0], .bool false]) w := by kernel_rfl
theorem tn2_10 (w : World) (v : Value) : (Instr.typeAssert (.iface 78 v) 39 90 true).run Tryz.prog w = .ok (.tuple #[.agg #[.int .i64 0, .int .i64 0, .int .i64 0], .bool false]) w := by kernel_rfl
theorem tn3_10 (w : World) (v : Value) : (Instr.typeAssert (.iface 80 v) 39 90 true).run Tryz.prog w = .ok (.tuple #[.agg #[.int .i64 0, .int .i64 0, .int .i64 0], .bool false]) w := by kernel_rfl
theorem tn4_10 (w : World) (v : Value) : (Instr.typeAssert (.iface 82 v) 39 90 true).run Tryz.prog w = .ok (.tuple #[.agg #[.int .i64 0, .int .i64 0, .int .i64 0], .bool false]) w := by kernel_rfl
theorem tn5_10 (w : World) (v : Value) : (Instr.typeAssert (.iface 74 v) 39 90 true).run Tryz.prog w = .ok (.tuple #[.agg #[.int .i64 0, .int .i64 0, .int .i64 0], .bool false]) w := by kernel_rfl
theorem tn6_10 (w : World) (v : Value) : (Instr.typeAssert (.iface 84 v) 39 90 true).run Tryz.prog w = .ok (.tuple #[.agg #[.int .i64 0, .int .i64 0, .int .i64 0], .bool false]) w := by kernel_rfl
theorem tn7_10 (w : World) (v : Value) : (Instr.typeAssert (.iface 86 v) 39 90 true).run Tryz.prog w = .ok (.tuple #[.agg #[.int .i64 0, .int .i64 0, .int .i64 0], .bool false]) w := by kernel_rfl
theorem tn8_10 (w : World) (v : Value) : (Instr.typeAssert (.iface 63 v) 39 90 true).run Tryz.prog w = .ok (.tuple #[.agg #[.int .i64 0, .int .i64 0, .int .i64 0], .bool false]) w := by kernel_rfl
theorem tn9_10 (w : World) (v : Value) : (Instr.typeAssert (.iface 88 v) 39 90 true).run Tryz.prog w = .ok (.tuple #[.agg #[.int .i64 0, .int .i64 0, .int .i64 0], .bool false]) w := by kernel_rfl
theorem tn11_10 (w : World) (v : Value) : (Instr.typeAssert (.iface 67 v) 39 90 true).run Tryz.prog w = .ok (.tuple #[.agg #[.int .i64 0, .int .i64 0, .int .i64 0], .bool false]) w := by kernel_rfl
theorem tn12_10 (w : World) (v : Value) : (Instr.typeAssert (.iface 92 v) 39 90 true).run Tryz.prog w = .ok (.tuple #[.agg #[.int .i64 0, .int .i64 0, .int .i64 0], .bool false]) w := by kernel_rfl
theorem tn13_10 (w : World) (v : Value) : (Instr.typeAssert (.iface 94 v) 39 90 true).run Tryz.prog w = .ok (.tuple #[.agg #[.int .i64 0, .int .i64 0, .int .i64 0], .bool false]) w := by kernel_rfl
theorem tn14_10 (w : World) (v : Value) : (Instr.typeAssert (.iface 96 v) 39 90 true).run Tryz.prog w = .ok (.tuple #[.agg #[.int .i64 0, .int .i64 0, .int .i64 0], .bool false]) w := by kernel_rfl
theorem tn15_10 (w : World) (v : Value) : (Instr.typeAssert (.iface 98 v) 39 90 true).run Tryz.prog w = .ok (.tuple #[.agg #[.int .i64 0, .int .i64 0, .int .i64 0], .bool false]) w := by kernel_rfl
theorem ty11 (w : World) (v : Value) : (Instr.typeAssert (.iface 67 v) 39 67 true).run Tryz.prog w = .ok (.tuple #[v, .bool true]) w := by kernel_rfl
theorem tz11 (w : World) : (Instr.typeAssert .nilIface 39 67 true).run Tryz.prog w = .ok (.tuple #[.agg #[.int .i64 0, .int .i64 0, .string ⟨#[]⟩, .int .i64 0, .slice none 0 0], .bool false]) w := by kernel_rfl
theorem tn1_11 (w : World) (v : Value) : (Instr.typeAssert (.iface 76 v) 39 67 true).run Tryz.prog w = .ok (.tuple #[.agg #[.int .i64 0, .int .i64 0, .string ⟨#[]⟩, .int .i64 0, .slice none 0 0], .bool false]) w := by kernel_rfl
theorem tn2_11 (w : World) (v : Value) : (Instr.typeAssert (.iface 78 v) 39 67 true).run Tryz.prog w = .ok (.tuple #[.agg #[.int .i64 0, .int .i64 0, .string ⟨#[]⟩, .int .i64 0, .slice none 0 0], .bool false]) w := by kernel_rfl
theorem tn3_11 (w : World) (v : Value) : (Instr.typeAssert (.iface 80 v) 39 67 true).run Tryz.prog w = .ok (.tuple #[.agg #[.int .i64 0, .int .i64 0, .string ⟨#[]⟩, .int .i64 0, .slice none 0 0], .bool false]) w := by kernel_rfl
theorem tn4_11 (w : World) (v : Value) : (Instr.typeAssert (.iface 82 v) 39 67 true).run Tryz.prog w = .ok (.tuple #[.agg #[.int .i64 0, .int .i64 0, .string ⟨#[]⟩, .int .i64 0, .slice none 0 0], .bool false]) w := by kernel_rfl
theorem tn5_11 (w : World) (v : Value) : (Instr.typeAssert (.iface 74 v) 39 67 true).run Tryz.prog w = .ok (.tuple #[.agg #[.int .i64 0, .int .i64 0, .string ⟨#[]⟩, .int .i64 0, .slice none 0 0], .bool false]) w := by kernel_rfl
theorem tn6_11 (w : World) (v : Value) : (Instr.typeAssert (.iface 84 v) 39 67 true).run Tryz.prog w = .ok (.tuple #[.agg #[.int .i64 0, .int .i64 0, .string ⟨#[]⟩, .int .i64 0, .slice none 0 0], .bool false]) w := by kernel_rfl
theorem tn7_11 (w : World) (v : Value) : (Instr.typeAssert (.iface 86 v) 39 67 true).run Tryz.prog w = .ok (.tuple #[.agg #[.int .i64 0, .int .i64 0, .string ⟨#[]⟩, .int .i64 0, .slice none 0 0], .bool false]) w := by kernel_rfl
theorem tn8_11 (w : World) (v : Value) : (Instr.typeAssert (.iface 63 v) 39 67 true).run Tryz.prog w = .ok (.tuple #[.agg #[.int .i64 0, .int .i64 0, .string ⟨#[]⟩, .int .i64 0, .slice none 0 0], .bool false]) w := by kernel_rfl
theorem tn9_11 (w : World) (v : Value) : (Instr.typeAssert (.iface 88 v) 39 67 true).run Tryz.prog w = .ok (.tuple #[.agg #[.int .i64 0, .int .i64 0, .string ⟨#[]⟩, .int .i64 0, .slice none 0 0], .bool false]) w := by kernel_rfl
theorem tn10_11 (w : World) (v : Value) : (Instr.typeAssert (.iface 90 v) 39 67 true).run Tryz.prog w = .ok (.tuple #[.agg #[.int .i64 0, .int .i64 0, .string ⟨#[]⟩, .int .i64 0, .slice none 0 0], .bool false]) w := by kernel_rfl
theorem tn12_11 (w : World) (v : Value) : (Instr.typeAssert (.iface 92 v) 39 67 true).run Tryz.prog w = .ok (.tuple #[.agg #[.int .i64 0, .int .i64 0, .string ⟨#[]⟩, .int .i64 0, .slice none 0 0], .bool false]) w := by kernel_rfl
theorem tn13_11 (w : World) (v : Value) : (Instr.typeAssert (.iface 94 v) 39 67 true).run Tryz.prog w = .ok (.tuple #[.agg #[.int .i64 0, .int .i64 0, .string ⟨#[]⟩, .int .i64 0, .slice none 0 0], .bool false]) w := by kernel_rfl
theorem tn14_11 (w : World) (v : Value) : (Instr.typeAssert (.iface 96 v) 39 67 true).run Tryz.prog w = .ok (.tuple #[.agg #[.int .i64 0, .int .i64 0, .string ⟨#[]⟩, .int .i64 0, .slice none 0 0], .bool false]) w := by kernel_rfl
theorem tn15_11 (w : World) (v : Value) : (Instr.typeAssert (.iface 98 v) 39 67 true).run Tryz.prog w = .ok (.tuple #[.agg #[.int .i64 0, .int .i64 0, .string ⟨#[]⟩, .int .i64 0, .slice none 0 0], .bool false]) w := by kernel_rfl
theorem ty12 (w : World) (v : Value) : (Instr.typeAssert (.iface 92 v) 39 92 true).run Tryz.prog w = .ok (.tuple #[v, .bool true]) w := by kernel_rfl
theorem tz12 (w : World) : (Instr.typeAssert .nilIface 39 92 true).run Tryz.prog w = .ok (.tuple #[.agg #[.int .i64 0, .int .i64 0, .bool false], .bool false]) w := by kernel_rfl
theorem tn1_12 (w : World) (v : Value) : (Instr.typeAssert (.iface 76 v) 39 92 true).run Tryz.prog w = .ok (.tuple #[.agg #[.int .i64 0, .int .i64 0, .bool false], .bool false]) w := by kernel_rfl
theorem tn2_12 (w : World) (v : Value) : (Instr.typeAssert (.iface 78 v) 39 92 true).run Tryz.prog w = .ok (.tuple #[.agg #[.int .i64 0, .int .i64 0, .bool false], .bool false]) w := by kernel_rfl
theorem tn3_12 (w : World) (v : Value) : (Instr.typeAssert (.iface 80 v) 39 92 true).run Tryz.prog w = .ok (.tuple #[.agg #[.int .i64 0, .int .i64 0, .bool false], .bool false]) w := by kernel_rfl
theorem tn4_12 (w : World) (v : Value) : (Instr.typeAssert (.iface 82 v) 39 92 true).run Tryz.prog w = .ok (.tuple #[.agg #[.int .i64 0, .int .i64 0, .bool false], .bool false]) w := by kernel_rfl
theorem tn5_12 (w : World) (v : Value) : (Instr.typeAssert (.iface 74 v) 39 92 true).run Tryz.prog w = .ok (.tuple #[.agg #[.int .i64 0, .int .i64 0, .bool false], .bool false]) w := by kernel_rfl
theorem tn6_12 (w : World) (v : Value) : (Instr.typeAssert (.iface 84 v) 39 92 true).run Tryz.prog w = .ok (.tuple #[.agg #[.int .i64 0, .int .i64 0, .bool false], .bool false]) w := by kernel_rfl
theorem tn7_12 (w : World) (v : Value) : (Instr.typeAssert (.iface 86 v) 39 92 true).run Tryz.prog w = .ok (.tuple #[.agg #[.int .i64 0, .int .i64 0, .bool false], .bool false]) w := by kernel_rfl
theorem tn8_12 (w : World) (v : Value) : (Instr.typeAssert (.iface 63 v) 39 92 true).run Tryz.prog w = .ok (.tuple #[.agg #[.int .i64 0, .int .i64 0, .bool false], .bool false]) w := by kernel_rfl
theorem tn9_12 (w : World) (v : Value) : (Instr.typeAssert (.iface 88 v) 39 92 true).run Tryz.prog w = .ok (.tuple #[.agg #[.int .i64 0, .int .i64 0, .bool false], .bool false]) w := by kernel_rfl
theorem tn10_12 (w : World) (v : Value) : (Instr.typeAssert (.iface 90 v) 39 92 true).run Tryz.prog w = .ok (.tuple #[.agg #[.int .i64 0, .int .i64 0, .bool false], .bool false]) w := by kernel_rfl
theorem tn11_12 (w : World) (v : Value) : (Instr.typeAssert (.iface 67 v) 39 92 true).run Tryz.prog w = .ok (.tuple #[.agg #[.int .i64 0, .int .i64 0, .bool false], .bool false]) w := by kernel_rfl
theorem tn13_12 (w : World) (v : Value) : (Instr.typeAssert (.iface 94 v) 39 92 true).run Tryz.prog w = .ok (.tuple #[.agg #[.int .i64 0, .int .i64 0, .bool false], .bool false]) w := by kernel_rfl
theorem tn14_12 (w : World) (v : Value) : (Instr.typeAssert (.iface 96 v) 39 92 true).run Tryz.prog w = .ok (.tuple #[.agg #[.int .i64 0, .int .i64 0, .bool false], .bool false]) w := by kernel_rfl
theorem tn15_12 (w : World) (v : Value) : (Instr.typeAssert (.iface 98 v) 39 92 true).run Tryz.prog w = .ok (.tuple #[.agg #[.int .i64 0, .int .i64 0, .bool false], .bool false]) w := by kernel_rfl
theorem ty13 (w : World) (v : Value) : (Instr.typeAssert (.iface 94 v) 39 94 true).run Tryz.prog w = .ok (.tuple #[v, .bool true]) w := by kernel_rfl
theorem tz13 (w : World) : (Instr.typeAssert .nilIface 39 94 true).run Tryz.prog w = .ok (.tuple #[.agg #[.int .i64 0], .bool false]) w := by kernel_rfl
theorem tn1_13 (w : World) (v : Value) : (Instr.typeAssert (.iface 76 v) 39 94 true).run Tryz.prog w = .ok (.tuple #[.agg #[.int .i64 0], .bool false]) w := by kernel_rfl
theorem tn2_13 (w : World) (v : Value) : (Instr.typeAssert (.iface 78 v) 39 94 true).run Tryz.prog w = .ok (.tuple #[.agg #[.int .i64 0], .bool false]) w := by kernel_rfl
theorem tn3_13 (w : World) (v : Value) : (Instr.typeAssert (.iface 80 v) 39 94 true).run Tryz.prog w = .ok (.tuple #[.agg #[.int .i64 0], .bool false]) w := by kernel_rfl
theorem tn4_13 (w : World) (v : Value) : (Instr.typeAssert (.iface 82 v) 39 94 true).run Tryz.prog w = .ok (.tuple #[.agg #[.int .i64 0], .bool false]) w := by kernel_rfl
theorem tn5_13 (w : World) (v : Value) : (Instr.typeAssert (.iface 74 v) 39 94 true).run Tryz.prog w = .ok (.tuple #[.agg #[.int .i64 0], .bool false]) w := by kernel_rfl
theorem tn6_13 (w : World) (v : Value) : (Instr.typeAssert (.iface 84 v) 39 94 true).run Tryz.prog w = .ok (.tuple #[.agg #[.int .i64 0], .bool false]) w := by kernel_rfl
theorem tn7_13 (w : World) (v : Value) : (Instr.typeAssert (.iface 86 v) 39 94 true).run Tryz.prog w = .ok (.tuple #[.agg #[.int .i64 0], .bool false]) w := by kernel_rfl
theorem tn8_13 (w : World) (v : Value) : (Instr.typeAssert (.iface 63 v) 39 94 true).run Tryz.prog w = .ok (.tuple #[.agg #[.int .i64 0], .bool false]) w := by kernel_rfl
theorem tn9_13 (w : World) (v : Value) : (Instr.typeAssert (.iface 88 v) 39 94 true).run Tryz.prog w = .ok (.tuple #[.agg #[.int .i64 0], .bool false]) w := by kernel_rfl
theorem tn10_13 (w : World) (v : Value) : (Instr.typeAssert (.iface 90 v) 39 94 true).run Tryz.prog w = .ok (.tuple #[.agg #[.int .i64 0], .bool false]) w := by kernel_rfl
theorem tn11_13 (w : World) (v : Value) : (Instr.typeAssert (.iface 67 v) 39 94 true).run Tryz.prog w = .ok (.tuple #[.agg #[.int .i64 0], .bool false]) w := by kernel_rfl
theorem tn12_13 (w : World) (v : Value) : (Instr.typeAssert (.iface 92 v) 39 94 true).run Tryz.prog w = .ok (.tuple #[.agg #[.int .i64 0], .bool false]) w := by kernel_rfl
theorem tn14_13 (w : World) (v : Value) : (Instr.typeAssert (.iface 96 v) 39 94 true).run Tryz.prog w = .ok (.tuple #[.agg #[.int .i64 0], .bool false]) w := by kernel_rfl
theorem tn15_13 (w : World) (v : Value) : (Instr.typeAssert (.iface 98 v) 39 94 true).run Tryz.prog w = .ok (.tuple #[.agg #[.int .i64 0], .bool false]) w := by kernel_rfl
theorem ty14 (w : World) (v : Value) : (Instr.typeAssert (.iface 96 v) 39 96 true).run Tryz.prog w = .ok (.tuple #[v, .bool true]) w := by kernel_rfl
theorem tz14 (w : World) : (Instr.typeAssert .nilIface 39 96 true).run Tryz.prog w = .ok (.tuple #[.agg #[.int .i64 0, .int .i64 0], .bool false]) w := by kernel_rfl
theorem tn1_14 (w : World) (v : Value) : (Instr.typeAssert (.iface 76 v) 39 96 true).run Tryz.prog w = .ok (.tuple #[.agg #[.int .i64 0, .int .i64 0], .bool false]) w := by kernel_rfl
theorem tn2_14 (w : World) (v : Value) : (Instr.typeAssert (.iface 78 v) 39 96 true).run Tryz.prog w = .ok (.tuple #[.agg #[.int .i64 0, .int .i64 0], .bool false]) w := by kernel_rfl
theorem tn3_14 (w : World) (v : Value) : (Instr.typeAssert (.iface 80 v) 39 96 true).run Tryz.prog w = .ok (.tuple #[.agg #[.int .i64 0, .int .i64 0], .bool false]) w := by kernel_rfl
theorem tn4_14 (w : World) (v : Value) : (Instr.typeAssert (.iface 82 v) 39 96 true).run Tryz.prog w = .ok (.tuple #[.agg #[.int .i64 0, .int .i64 0], .bool false]) w := by kernel_rfl
theorem tn5_14 (w : World) (v : Value) : (Instr.typeAssert (.iface 74 v) 39 96 true).run Tryz.prog w = .ok (.tuple #[.agg #[.int .i64 0, .int .i64 0], .bool false]) w := by kernel_rfl
theorem tn6_14 (w : World) (v : Value) : (Instr.typeAssert (.iface 84 v) 39 96 true).run Tryz.prog w = .ok (.tuple #[.agg #[.int .i64 0, .int .i64 0], .bool false]) w := by kernel_rfl
theorem tn7_14 (w : World) (v : Value) : (Instr.typeAssert (.iface 86 v) 39 96 true).run Tryz.prog w = .ok (.tuple #[.agg #[.int .i64 0, .int .i64 0], .bool false]) w := by kernel_rfl
theorem tn8_14 (w : World) (v : Value) : (Instr.typeAssert (.iface 63 v) 39 96 true).run Tryz.prog w = .ok (.tuple #[.agg #[.int .i64 0, .int .i64 0], .bool false]) w := by kernel_rfl
theorem tn9_14 (w : World) (v : Value) : (Instr.typeAssert (.iface 88 v) 39 96 true).run Tryz.prog w = .ok (.tuple #[.agg #[.int .i64 0, .int .i64 0], .bool false]) w := by kernel_rfl
theorem tn10_14 (w : World) (v : Value) : (Instr.typeAssert (.iface 90 v) 39 96 true).run Tryz.prog w = .ok (.tuple #[.agg #[.int .i64 0, .int .i64 0], .bool false]) w := by kernel_rfl
theorem tn11_14 (w : World) (v : Value) : (Instr.typeAssert (.iface 67 v) 39 96 true).run Tryz.prog w = .ok (.tuple #[.agg #[.int .i64 0, .int .i64 0], .bool false]) w := by kernel_rfl
theorem tn12_14 (w : World) (v : Value) : (Instr.typeAssert (.iface 92 v) 39 96 true).run Tryz.prog w = .ok (.tuple #[.agg #[.int .i64 0, .int .i64 0], .bool false]) w := by kernel_rfl
theorem tn13_14 (w : World) (v : Value) : (Instr.typeAssert (.iface 94 v) 39 96 true).run Tryz.prog w = .ok (.tuple #[.agg #[.int .i64 0, .int .i64 0], .bool false]) w := by kernel_rfl
theorem tn15_14 (w : World) (v : Value) : (Instr.typeAssert (.iface 98 v) 39 96 true).run Tryz.prog w = .ok (.tuple #[.agg #[.int .i64 0, .int .i64 0], .bool false]) w := by kernel_rfl
theorem ty15 (w : World) (v : Value) : (Instr.typeAssert (.iface 98 v) 39 98 true).run Tryz.prog w = .ok (.tuple #[v, .bool true]) w := by kernel_rfl
theorem tz15 (w : World) : (Instr.typeAssert .nilIface 39 98 true).run Tryz.prog w = .ok (.tuple #[.agg #[.int .i64 0, .int .i64 0, .int .i64 0], .bool false]) w := by kernel_rfl
theorem tn1_15 (w : World) (v : Value) : (Instr.typeAssert (.iface 76 v) 39 98 true).run Tryz.prog w = .ok (.tuple #[.agg #[.int .i64 0, .int .i64 0, .int .i64 0], .bool false]) w := by kernel_rfl
theorem tn2_15 (w : World) (v : Value) : (Instr.typeAssert (.iface 78 v) 39 98 true).run Tryz.prog w = .ok (.tuple #[.agg #[.int .i64 0, .int .i64 0, .int .i64 0], .bool false]) w := by kernel_rfl
theorem tn3_15 (w : World) (v : Value) : (Instr.typeAssert (.iface 80 v) 39 98 true).run Tryz.prog w = .ok (.tuple #[.agg #[.int .i64 0, .int .i64 0, .int .i64 0], .bool false]) w := by kernel_rfl
theorem tn4_15 (w : World) (v : Value) : (Instr.typeAssert (.iface 82 v) 39 98 true).run Tryz.prog w = .ok (.tuple #[.agg #[.int .i64 0, .int .i64 0, .int .i64 0], .bool false]) w := by kernel_rfl
theorem tn5_15 (w : World) (v : Value) : (Instr.typeAssert (.iface 74 v) 39 98 true).run Tryz.prog w = .ok (.tuple #[.agg #[.int .i64 0, .int .i64 0, .int .i64 0], .bool false]) w := by kernel_rfl
theorem tn6_15 (w : World) (v : Value) : (Instr.typeAssert (.iface 84 v) 39 98 true).run Tryz.prog w = .ok (.tuple #[.agg #[.int .i64 0, .int .i64 0, .int .i64 0], .bool false]) w := by kernel_rfl
theorem tn7_15 (w : World) (v : Value) : (Instr.typeAssert (.iface 86 v) 39 98 true).run Tryz.prog w = .ok (.tuple #[.agg #[.int .i64 0, .int .i64 0, .int .i64 0], .bool false]) w := by kernel_rfl
theorem tn8_15 (w : World) (v : Value) : (Instr.typeAssert (.iface 63 v) 39 98 true).run Tryz.prog w = .ok (.tuple #[.agg #[.int .i64 0, .int .i64 0, .int .i64 0], .bool false]) w := by kernel_rfl
theorem tn9_15 (w : World) (v : Value) : (Instr.typeAssert (.iface 88 v) 39 98 true).run Tryz.prog w = .ok (.tuple #[.agg #[.int .i64 0, .int .i64 0, .int .i64 0], .bool false]) w := by kernel_rfl
theorem tn10_15 (w : World) (v : Value) : (Instr.typeAssert (.iface 90 v) 39 98 true).run Tryz.prog w = .ok (.tuple #[.agg #[.int .i64 0, .int .i64 0, .int .i64 0], .bool false]) w := by kernel_rfl
theorem tn11_15 (w : World) (v : Value) : (Instr.typeAssert (.iface 67 v) 39 98 true).run Tryz.prog w = .ok (.tuple #[.agg #[.int .i64 0, .int .i64 0, .int .i64 0], .bool false]) w := by kernel_rfl
theorem tn12_15 (w : World) (v : Value) : (Instr.typeAssert (.iface 92 v) 39 98 true).run Tryz.prog w = .ok (.tuple #[.agg #[.int .i64 0, .int .i64 0, .int .i64 0], .bool false]) w := by kernel_rfl
theorem tn13_15 (w : World) (v : Value) : (Instr.typeAssert (.iface 94 v) 39 98 true).run Tryz.prog w = .ok (.tuple #[.agg #[.int .i64 0, .int .i64 0, .int .i64 0], .bool false]) w := by kernel_rfl
theorem tn14_15 (w : World) (v : Value) : (Instr.typeAssert (.iface 96 v) 39 98 true).run Tryz.prog w = .ok (.tuple #[.agg #[.int .i64 0, .int .i64 0, .int .i64 0], .bool false]) w := by kernel_rfl
end Go.Proofs.YtdmlgheajblcdaaGreat
