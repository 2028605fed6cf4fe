/- Layer 10: Kind, and Encode of each type. -/
import Derived.Test.YtdmlgheajblcdaaGreatK10
import Derived.WalkKit
import Derived.ProofKit
import Derived.Handy
import Derived.WalkLawsBesides
import Derived.WalkSpells
import Derived.BigQuiet
import Derived.BigCall
import Derived.Deep.QuietTactic
import Derived.Deep.Light
import Derived.Deep.OwnRows
import Derived.Laws.AppendOwnNone
import Derived.Laws.Strings3
import Derived.Laws.RangeAny
import Derived.Deep.RegionWith
import Derived.Lib.BitFns
import Derived.Lib.Walk
import Derived.Lib.Strings
import Derived.Lib.OthersKept
import Derived.Deep.CutBlock
import Derived.Deep.DeepCutAuto
import Derived.Deep.LoopGhost
import Derived.Deep.RegionHeld3
import Derived.Lib.SmallJoins
import Derived.Maps.AppendAt
import Derived.Laws.IdiomStrings
import Derived.Lib.AppendZeros
import Derived.Deep.WholeRow
import Derived.Laws.BitsAllLaws
import Derived.Lib.ConvBytes
import Derived.Deep.RegionLaw
namespace Go.Proofs.YtdmlgheajblcdaaGreat
open Go.RowKit
set_option linter.unusedVariables false
set_option linter.unusedSimpArgs false
set_option maxRecDepth 20000
theorem kind1 (x0 : Int) (x1 : ByteArray) (w : World) : Calls Tryz.prog 164 #[.agg #[.int .i64 x0, .string x1]] w (KP (.int .i64 1) w) := by
  have HB : Hid (∀ o, Below w.heap.size w (w.alloc o)) := below_a w
  go_enter Tryz.func164, Tryz.ntmps164
  go_wp2_with fail
  go_ret
  exact ⟨rfl, HB.out _⟩
theorem kind2 (x0 : ByteArray) (x1 : Int) (x2 : Int) (x3 : Int) (x4 : ByteArray) (w : World) : Calls Tryz.prog 173 #[.agg #[.string x0, .int .i64 x1, .int .i64 x2, .int .i64 x3, .string x4]] w (KP (.int .i64 2) w) := by
  have HB : Hid (∀ o, Below w.heap.size w (w.alloc o)) := below_a w
  go_enter Tryz.func173, Tryz.ntmps173
  go_wp2_with fail
  go_ret
  exact ⟨rfl, HB.out _⟩
theorem kind3 (x0 : Int) (x1 : Int) (x2 : ByteArray) (x3 : Int) (x4 : Int) (x5 : Int) (x6a : Option Addr) (x6n x6c : Nat) (x7 : Int) (x8 : Int) (x9a : Option Addr) (x9n x9c : Nat) (w : World) : Calls Tryz.prog 178 #[.agg #[.int .i64 x0, .int .i64 x1, .string x2, .int .i64 x3, .int .i64 x4, .int .i64 x5, .slice x6a x6n x6c, .int .i64 x7, .int .i64 x8, .slice x9a x9n x9c]] w (KP (.int .i64 3) w) := by
  have HB : Hid (∀ o, Below w.heap.size w (w.alloc o)) := below_a w
  go_enter Tryz.func178, Tryz.ntmps178
  go_wp2_with fail
  go_ret
  exact ⟨rfl, HB.out _⟩
theorem kind4 (x0a : Option Addr) (x0n x0c : Nat) (w : World) : Calls Tryz.prog 182 #[.agg #[.slice x0a x0n x0c]] w (KP (.int .i64 4) w) := by
  have HB : Hid (∀ o, Below w.heap.size w (w.alloc o)) := below_a w
  go_enter Tryz.func182, Tryz.ntmps182
  go_wp2_with fail
  go_ret
  exact ⟨rfl, HB.out _⟩
theorem kind5 (x0 : Int) (w : World) : Calls Tryz.prog 160 #[.agg #[.int .i64 x0]] w (KP (.int .i64 5) w) := by
  have HB : Hid (∀ o, Below w.heap.size w (w.alloc o)) := below_a w
  go_enter Tryz.func160, Tryz.ntmps160
  go_wp2_with fail
  go_ret
  exact ⟨rfl, HB.out _⟩
theorem kind6 (x0 : Int) (x1 : ByteArray) (x2 : Int) (w : World) : Calls Tryz.prog 185 #[.agg #[.int .i64 x0, .string x1, .int .i64 x2]] w (KP (.int .i64 6) w) := by
  have HB : Hid (∀ o, Below w.heap.size w (w.alloc o)) := below_a w
  go_enter Tryz.func185, Tryz.ntmps185
  go_wp2_with fail
  go_ret
  exact ⟨rfl, HB.out _⟩
theorem kind7 (x0 : Int) (x1 : ByteArray) (x2 : Int) (w : World) : Calls Tryz.prog 189 #[.agg #[.int .i64 x0, .string x1, .int .i64 x2]] w (KP (.int .i64 7) w) := by
  have HB : Hid (∀ o, Below w.heap.size w (w.alloc o)) := below_a w
  go_enter Tryz.func189, Tryz.ntmps189
  go_wp2_with fail
  go_ret
  exact ⟨rfl, HB.out _⟩
theorem kind8 (x0 : Int) (x1 : Int) (x2 : Int) (x3 : Int) (x4 : Int) (x5 : Int) (x6 : Int) (x7 : Int) (w : World) : Calls Tryz.prog 137 #[.agg #[.int .i64 x0, .int .i64 x1, .int .i64 x2, .int .i64 x3, .int .i64 x4, .int .i64 x5, .int .i64 x6, .int .i64 x7]] w (KP (.int .i64 8) w) := by
  have HB : Hid (∀ o, Below w.heap.size w (w.alloc o)) := below_a w
  go_enter Tryz.func137, Tryz.ntmps137
  go_wp2_with fail
  go_ret
  exact ⟨rfl, HB.out _⟩
theorem kind9 (x0 : Int) (x1 : Int) (w : World) : Calls Tryz.prog 192 #[.agg #[.int .i64 x0, .int .i64 x1]] w (KP (.int .i64 9) w) := by
  have HB : Hid (∀ o, Below w.heap.size w (w.alloc o)) := below_a w
  go_enter Tryz.func192, Tryz.ntmps192
  go_wp2_with fail
  go_ret
  exact ⟨rfl, HB.out _⟩
theorem kind10 (x0 : Int) (x1 : Int) (x2 : Int) (w : World) : Calls Tryz.prog 195 #[.agg #[.int .i64 x0, .int .i64 x1, .int .i64 x2]] w (KP (.int .i64 10) w) := by
  have HB : Hid (∀ o, Below w.heap.size w (w.alloc o)) := below_a w
  go_enter Tryz.func195, Tryz.ntmps195
  go_wp2_with fail
  go_ret
  exact ⟨rfl, HB.out _⟩
theorem kind11 (x0 : Int) (x1 : Int) (x2 : ByteArray) (x3 : Int) (x4a : Option Addr) (x4n x4c : Nat) (w : World) : Calls Tryz.prog 146 #[.agg #[.int .i64 x0, .int .i64 x1, .string x2, .int .i64 x3, .slice x4a x4n x4c]] w (KP (.int .i64 11) w) := by
  have HB : Hid (∀ o, Below w.heap.size w (w.alloc o)) := below_a w
  go_enter Tryz.func146, Tryz.ntmps146
  go_wp2_with fail
  go_ret
  exact ⟨rfl, HB.out _⟩
theorem kind12 (x0 : Int) (x1 : Int) (x2 : Bool) (w : World) : Calls Tryz.prog 198 #[.agg #[.int .i64 x0, .int .i64 x1, .bool x2]] w (KP (.int .i64 12) w) := by
  have HB : Hid (∀ o, Below w.heap.size w (w.alloc o)) := below_a w
  go_enter Tryz.func198, Tryz.ntmps198
  go_wp2_with fail
  go_ret
  exact ⟨rfl, HB.out _⟩
theorem kind13 (x0 : Int) (w : World) : Calls Tryz.prog 202 #[.agg #[.int .i64 x0]] w (KP (.int .i64 13) w) := by
  have HB : Hid (∀ o, Below w.heap.size w (w.alloc o)) := below_a w
  go_enter Tryz.func202, Tryz.ntmps202
  go_wp2_with fail
  go_ret
  exact ⟨rfl, HB.out _⟩
theorem kind14 (x0 : Int) (x1 : Int) (w : World) : Calls Tryz.prog 205 #[.agg #[.int .i64 x0, .int .i64 x1]] w (KP (.int .i64 14) w) := by
  have HB : Hid (∀ o, Below w.heap.size w (w.alloc o)) := below_a w
  go_enter Tryz.func205, Tryz.ntmps205
  go_wp2_with fail
  go_ret
  exact ⟨rfl, HB.out _⟩
theorem kind15 (x0 : Int) (x1 : Int) (x2 : Int) (w : World) : Calls Tryz.prog 208 #[.agg #[.int .i64 x0, .int .i64 x1, .int .i64 x2]] w (KP (.int .i64 15) w) := by
  have HB : Hid (∀ o, Below w.heap.size w (w.alloc o)) := below_a w
  go_enter Tryz.func208, Tryz.ntmps208
  go_wp2_with fail
  go_ret
  exact ⟨rfl, HB.out _⟩
theorem encodeBad (v : Value) (g : Nat) (hg : g ≠ 0) (w : World) (hc : Calls Tryz.prog 12 #[v] w (KP (.int .i64 g) w)) : Calls Tryz.prog 18 #[v] w (KP (.tuple #[.string ⟨#[]⟩, .int .i64 g]) w) := by
  have HC : Hid _ := hc
  have hz : ((g : Int) != 0) = true := by rw [bne_iff_ne]; omega
  clear hc
  go_enter Tryz.func18, Tryz.ntmps18
  go_wp2_with fail
  refine Calls.mono HC.out ?_
  rintro e w2 ⟨rfl, hb⟩
  go_wp2_with fail
  go_ret2
  exact ⟨rfl, hb⟩
set_option maxHeartbeats 4000000 in
theorem encode1 (x0 : Int) (x1 : ByteArray) (L : List UInt8) (w : World) (hc : Calls Tryz.prog 12 #[.iface 76 (.agg #[.int .i64 x0, .string x1])] w (KP (.int .i64 0) w)) (hw : ∀ (w' : World) (p : Nat) (v : Value) (l : List UInt8), Below w.heap.size w w' → Wm p w' p v l → w.heap.size ≤ p → l.length ≤ 100 → Calls Tryz.prog 166 #[.agg #[.int .i64 x0, .string x1], .pointer (some ⟨p, 0, none⟩)] w' (WP p p (l ++ L) w')) : Calls Tryz.prog 18 #[.iface 76 (.agg #[.int .i64 x0, .string x1])] w (KP (.tuple #[.string ⟨(intL 1 ++ L).toArray⟩, .int .i64 0]) w) := by
  have HC : Hid _ := hc
  have HWr : Hid (∀ (w' : World) (p : Nat) (v : Value) (l : List UInt8), Below w.heap.size w w' → Wm p w' p v l → w.heap.size ≤ p → l.length ≤ 100 → Calls Tryz.prog 166 #[.agg #[.int .i64 x0, .string x1], .pointer (some ⟨p, 0, none⟩)] w' (WP p p (l ++ L) w')) := hw
  have H10 : Hid ((([] ++ intL 1 : List UInt8)).length ≤ 100) := by unfold Hid; decide
  clear hc hw
  go_enter Tryz.func18, Tryz.ntmps18
  go_wp2_with fail
  refine Calls.mono HC.out ?_
  rintro e w2 ⟨rfl, hb⟩
  clear HC
  go_wp2_with fail
  have HW : Hid (Wm w2.heap.size (w2.alloc (.cells #[.slice none 0 0] 117)) w2.heap.size (.slice none 0 0) []) := Wm.new w2
  have HB : Hid (Below w.heap.size w (w2.alloc (.cells #[.slice none 0 0] 117))) := hb.out.alloc hb.out.size _
  have hwB : w.heap.size ≤ w2.heap.size := hb.out.size
  clear hb
  generalize w2.alloc (.cells #[.slice none 0 0] 117) = w3 at *
  generalize w2.heap.size = p at *
  refine (known1 x0 x1 _).mono ?_
  rintro e w4 ⟨rfl, hb4⟩
  have HW4 : Hid (Wm p w4 p (.slice none 0 0) []) := HW.out.keep hb4.out
  have HB4 : Hid (Below w.heap.size w w4) := bt HB.out hb4.out
  clear HW HB hb4
  go_wp2_with fail
  refine (kind1 x0 x1 _).mono ?_
  rintro e w5 ⟨rfl, hb5⟩
  have HW5 : Hid (Wm p w5 p (.slice none 0 0) []) := HW4.out.keep hb5.out
  have HB5 : Hid (Below w.heap.size w w5) := bt HB4.out hb5.out
  clear HW4 HB4 hb5
  go_wp2_with fail
  refine (wint p p _ _ 1 ⟨by decide, by decide⟩ _ HW5.out (by decide)).mono ?_
  rintro e w6 ⟨rfl, v6, HW6, HB6⟩
  have HB7 : Hid (Below w.heap.size w w6) := HB5.out.trans (HB6.out.1.mono hwB)
  clear HW5 HB5 HB6
  generalize hl0 : ([] ++ intL 1 : List UInt8) = l0 at *
  have HL : Hid (l0 = intL 1) := hl0.symm
  clear hl0
  go_wp2_with fail
  refine (HWr.out _ p v6 _ HB7.out HW6.out hwB H10.out).mono ?_
  rintro e w8 ⟨rfl, v8, HW8, HB8⟩
  have HB9 : Hid (Below w.heap.size w w8) := HB7.out.trans (HB8.out.1.mono hwB)
  clear HWr HB7 HW6 HB8
  go_wp2_with fail
  refine (wbytes p p v8 _ _ HW8.out).mono ?_
  rintro e wX ⟨rfl, rfl⟩
  clear HW8
  go_wp2_with fail
  go_ret2
  exact ⟨by rw [← HL.out]; rfl, HB9⟩
set_option maxHeartbeats 4000000 in
theorem encode2 (x0 : ByteArray) (x1 : Int) (x2 : Int) (x3 : Int) (x4 : ByteArray) (L : List UInt8) (w : World) (hc : Calls Tryz.prog 12 #[.iface 78 (.agg #[.string x0, .int .i64 x1, .int .i64 x2, .int .i64 x3, .string x4])] w (KP (.int .i64 0) w)) (hw : ∀ (w' : World) (p : Nat) (v : Value) (l : List UInt8), Below w.heap.size w w' → Wm p w' p v l → w.heap.size ≤ p → l.length ≤ 100 → Calls Tryz.prog 175 #[.agg #[.string x0, .int .i64 x1, .int .i64 x2, .int .i64 x3, .string x4], .pointer (some ⟨p, 0, none⟩)] w' (WP p p (l ++ L) w')) : Calls Tryz.prog 18 #[.iface 78 (.agg #[.string x0, .int .i64 x1, .int .i64 x2, .int .i64 x3, .string x4])] w (KP (.tuple #[.string ⟨(intL 2 ++ L).toArray⟩, .int .i64 0]) w) := by
  have HC : Hid _ := hc
  have HWr : Hid (∀ (w' : World) (p : Nat) (v : Value) (l : List UInt8), Below w.heap.size w w' → Wm p w' p v l → w.heap.size ≤ p → l.length ≤ 100 → Calls Tryz.prog 175 #[.agg #[.string x0, .int .i64 x1, .int .i64 x2, .int .i64 x3, .string x4], .pointer (some ⟨p, 0, none⟩)] w' (WP p p (l ++ L) w')) := hw
  have H10 : Hid ((([] ++ intL 2 : List UInt8)).length ≤ 100) := by unfold Hid; decide
  clear hc hw
  go_enter Tryz.func18, Tryz.ntmps18
  go_wp2_with fail
  refine Calls.mono HC.out ?_
  rintro e w2 ⟨rfl, hb⟩
  clear HC
  go_wp2_with fail
  have HW : Hid (Wm w2.heap.size (w2.alloc (.cells #[.slice none 0 0] 117)) w2.heap.size (.slice none 0 0) []) := Wm.new w2
  have HB : Hid (Below w.heap.size w (w2.alloc (.cells #[.slice none 0 0] 117))) := hb.out.alloc hb.out.size _
  have hwB : w.heap.size ≤ w2.heap.size := hb.out.size
  clear hb
  generalize w2.alloc (.cells #[.slice none 0 0] 117) = w3 at *
  generalize w2.heap.size = p at *
  refine (known2 x0 x1 x2 x3 x4 _).mono ?_
  rintro e w4 ⟨rfl, hb4⟩
  have HW4 : Hid (Wm p w4 p (.slice none 0 0) []) := HW.out.keep hb4.out
  have HB4 : Hid (Below w.heap.size w w4) := bt HB.out hb4.out
  clear HW HB hb4
  go_wp2_with fail
  refine (kind2 x0 x1 x2 x3 x4 _).mono ?_
  rintro e w5 ⟨rfl, hb5⟩
  have HW5 : Hid (Wm p w5 p (.slice none 0 0) []) := HW4.out.keep hb5.out
  have HB5 : Hid (Below w.heap.size w w5) := bt HB4.out hb5.out
  clear HW4 HB4 hb5
  go_wp2_with fail
  refine (wint p p _ _ 2 ⟨by decide, by decide⟩ _ HW5.out (by decide)).mono ?_
  rintro e w6 ⟨rfl, v6, HW6, HB6⟩
  have HB7 : Hid (Below w.heap.size w w6) := HB5.out.trans (HB6.out.1.mono hwB)
  clear HW5 HB5 HB6
  generalize hl0 : ([] ++ intL 2 : List UInt8) = l0 at *
  have HL : Hid (l0 = intL 2) := hl0.symm
  clear hl0
  go_wp2_with fail
  refine (HWr.out _ p v6 _ HB7.out HW6.out hwB H10.out).mono ?_
  rintro e w8 ⟨rfl, v8, HW8, HB8⟩
  have HB9 : Hid (Below w.heap.size w w8) := HB7.out.trans (HB8.out.1.mono hwB)
  clear HWr HB7 HW6 HB8
  go_wp2_with fail
  refine (wbytes p p v8 _ _ HW8.out).mono ?_
  rintro e wX ⟨rfl, rfl⟩
  clear HW8
  go_wp2_with fail
  go_ret2
  exact ⟨by rw [← HL.out]; rfl, HB9⟩
set_option maxHeartbeats 4000000 in
theorem encode3 (x0 : Int) (x1 : Int) (x2 : ByteArray) (x3 : Int) (x4 : Int) (x5 : Int) (x6a : Option Addr) (x6n x6c : Nat) (x7 : Int) (x8 : Int) (x9a : Option Addr) (x9n x9c : Nat) (L : List UInt8) (w : World) (hc : Calls Tryz.prog 12 #[.iface 80 (.agg #[.int .i64 x0, .int .i64 x1, .string x2, .int .i64 x3, .int .i64 x4, .int .i64 x5, .slice x6a x6n x6c, .int .i64 x7, .int .i64 x8, .slice x9a x9n x9c])] w (KP (.int .i64 0) w)) (hw : ∀ (w' : World) (p : Nat) (v : Value) (l : List UInt8), Below w.heap.size w w' → Wm p w' p v l → w.heap.size ≤ p → l.length ≤ 100 → Calls Tryz.prog 180 #[.agg #[.int .i64 x0, .int .i64 x1, .string x2, .int .i64 x3, .int .i64 x4, .int .i64 x5, .slice x6a x6n x6c, .int .i64 x7, .int .i64 x8, .slice x9a x9n x9c], .pointer (some ⟨p, 0, none⟩)] w' (WP p p (l ++ L) w')) : Calls Tryz.prog 18 #[.iface 80 (.agg #[.int .i64 x0, .int .i64 x1, .string x2, .int .i64 x3, .int .i64 x4, .int .i64 x5, .slice x6a x6n x6c, .int .i64 x7, .int .i64 x8, .slice x9a x9n x9c])] w (KP (.tuple #[.string ⟨(intL 3 ++ L).toArray⟩, .int .i64 0]) w) := by
  have HC : Hid _ := hc
  have HWr : Hid (∀ (w' : World) (p : Nat) (v : Value) (l : List UInt8), Below w.heap.size w w' → Wm p w' p v l → w.heap.size ≤ p → l.length ≤ 100 → Calls Tryz.prog 180 #[.agg #[.int .i64 x0, .int .i64 x1, .string x2, .int .i64 x3, .int .i64 x4, .int .i64 x5, .slice x6a x6n x6c, .int .i64 x7, .int .i64 x8, .slice x9a x9n x9c], .pointer (some ⟨p, 0, none⟩)] w' (WP p p (l ++ L) w')) := hw
  have H10 : Hid ((([] ++ intL 3 : List UInt8)).length ≤ 100) := by unfold Hid; decide
  clear hc hw
  go_enter Tryz.func18, Tryz.ntmps18
  go_wp2_with fail
  refine Calls.mono HC.out ?_
  rintro e w2 ⟨rfl, hb⟩
  clear HC
  go_wp2_with fail
  have HW : Hid (Wm w2.heap.size (w2.alloc (.cells #[.slice none 0 0] 117)) w2.heap.size (.slice none 0 0) []) := Wm.new w2
  have HB : Hid (Below w.heap.size w (w2.alloc (.cells #[.slice none 0 0] 117))) := hb.out.alloc hb.out.size _
  have hwB : w.heap.size ≤ w2.heap.size := hb.out.size
  clear hb
  generalize w2.alloc (.cells #[.slice none 0 0] 117) = w3 at *
  generalize w2.heap.size = p at *
  refine (known3 x0 x1 x2 x3 x4 x5 x6a x6n x6c x7 x8 x9a x9n x9c _).mono ?_
  rintro e w4 ⟨rfl, hb4⟩
  have HW4 : Hid (Wm p w4 p (.slice none 0 0) []) := HW.out.keep hb4.out
  have HB4 : Hid (Below w.heap.size w w4) := bt HB.out hb4.out
  clear HW HB hb4
  go_wp2_with fail
  refine (kind3 x0 x1 x2 x3 x4 x5 x6a x6n x6c x7 x8 x9a x9n x9c _).mono ?_
  rintro e w5 ⟨rfl, hb5⟩
  have HW5 : Hid (Wm p w5 p (.slice none 0 0) []) := HW4.out.keep hb5.out
  have HB5 : Hid (Below w.heap.size w w5) := bt HB4.out hb5.out
  clear HW4 HB4 hb5
  go_wp2_with fail
  refine (wint p p _ _ 3 ⟨by decide, by decide⟩ _ HW5.out (by decide)).mono ?_
  rintro e w6 ⟨rfl, v6, HW6, HB6⟩
  have HB7 : Hid (Below w.heap.size w w6) := HB5.out.trans (HB6.out.1.mono hwB)
  clear HW5 HB5 HB6
  generalize hl0 : ([] ++ intL 3 : List UInt8) = l0 at *
  have HL : Hid (l0 = intL 3) := hl0.symm
  clear hl0
  go_wp2_with fail
  refine (HWr.out _ p v6 _ HB7.out HW6.out hwB H10.out).mono ?_
  rintro e w8 ⟨rfl, v8, HW8, HB8⟩
  have HB9 : Hid (Below w.heap.size w w8) := HB7.out.trans (HB8.out.1.mono hwB)
  clear HWr HB7 HW6 HB8
  go_wp2_with fail
  refine (wbytes p p v8 _ _ HW8.out).mono ?_
  rintro e wX ⟨rfl, rfl⟩
  clear HW8
  go_wp2_with fail
  go_ret2
  exact ⟨by rw [← HL.out]; rfl, HB9⟩
set_option maxHeartbeats 4000000 in
theorem encode4 (x0a : Option Addr) (x0n x0c : Nat) (L : List UInt8) (w : World) (hc : Calls Tryz.prog 12 #[.iface 82 (.agg #[.slice x0a x0n x0c])] w (KP (.int .i64 0) w)) (hw : ∀ (w' : World) (p : Nat) (v : Value) (l : List UInt8), Below w.heap.size w w' → Wm p w' p v l → w.heap.size ≤ p → l.length ≤ 100 → Calls Tryz.prog 184 #[.agg #[.slice x0a x0n x0c], .pointer (some ⟨p, 0, none⟩)] w' (WP p p (l ++ L) w')) : Calls Tryz.prog 18 #[.iface 82 (.agg #[.slice x0a x0n x0c])] w (KP (.tuple #[.string ⟨(intL 4 ++ L).toArray⟩, .int .i64 0]) w) := by
  have HC : Hid _ := hc
  have HWr : Hid (∀ (w' : World) (p : Nat) (v : Value) (l : List UInt8), Below w.heap.size w w' → Wm p w' p v l → w.heap.size ≤ p → l.length ≤ 100 → Calls Tryz.prog 184 #[.agg #[.slice x0a x0n x0c], .pointer (some ⟨p, 0, none⟩)] w' (WP p p (l ++ L) w')) := hw
  have H10 : Hid ((([] ++ intL 4 : List UInt8)).length ≤ 100) := by unfold Hid; decide
  clear hc hw
  go_enter Tryz.func18, Tryz.ntmps18
  go_wp2_with fail
  refine Calls.mono HC.out ?_
  rintro e w2 ⟨rfl, hb⟩
  clear HC
  go_wp2_with fail
  have HW : Hid (Wm w2.heap.size (w2.alloc (.cells #[.slice none 0 0] 117)) w2.heap.size (.slice none 0 0) []) := Wm.new w2
  have HB : Hid (Below w.heap.size w (w2.alloc (.cells #[.slice none 0 0] 117))) := hb.out.alloc hb.out.size _
  have hwB : w.heap.size ≤ w2.heap.size := hb.out.size
  clear hb
  generalize w2.alloc (.cells #[.slice none 0 0] 117) = w3 at *
  generalize w2.heap.size = p at *
  refine (known4 x0a x0n x0c _).mono ?_
  rintro e w4 ⟨rfl, hb4⟩
  have HW4 : Hid (Wm p w4 p (.slice none 0 0) []) := HW.out.keep hb4.out
  have HB4 : Hid (Below w.heap.size w w4) := bt HB.out hb4.out
  clear HW HB hb4
  go_wp2_with fail
  refine (kind4 x0a x0n x0c _).mono ?_
  rintro e w5 ⟨rfl, hb5⟩
  have HW5 : Hid (Wm p w5 p (.slice none 0 0) []) := HW4.out.keep hb5.out
  have HB5 : Hid (Below w.heap.size w w5) := bt HB4.out hb5.out
  clear HW4 HB4 hb5
  go_wp2_with fail
  refine (wint p p _ _ 4 ⟨by decide, by decide⟩ _ HW5.out (by decide)).mono ?_
  rintro e w6 ⟨rfl, v6, HW6, HB6⟩
  have HB7 : Hid (Below w.heap.size w w6) := HB5.out.trans (HB6.out.1.mono hwB)
  clear HW5 HB5 HB6
  generalize hl0 : ([] ++ intL 4 : List UInt8) = l0 at *
  have HL : Hid (l0 = intL 4) := hl0.symm
  clear hl0
  go_wp2_with fail
  refine (HWr.out _ p v6 _ HB7.out HW6.out hwB H10.out).mono ?_
  rintro e w8 ⟨rfl, v8, HW8, HB8⟩
  have HB9 : Hid (Below w.heap.size w w8) := HB7.out.trans (HB8.out.1.mono hwB)
  clear HWr HB7 HW6 HB8
  go_wp2_with fail
  refine (wbytes p p v8 _ _ HW8.out).mono ?_
  rintro e wX ⟨rfl, rfl⟩
  clear HW8
  go_wp2_with fail
  go_ret2
  exact ⟨by rw [← HL.out]; rfl, HB9⟩
set_option maxHeartbeats 4000000 in
theorem encode5 (x0 : Int) (L : List UInt8) (w : World) (hc : Calls Tryz.prog 12 #[.iface 74 (.agg #[.int .i64 x0])] w (KP (.int .i64 0) w)) (hw : ∀ (w' : World) (p : Nat) (v : Value) (l : List UInt8), Below w.heap.size w w' → Wm p w' p v l → w.heap.size ≤ p → l.length ≤ 100 → Calls Tryz.prog 162 #[.agg #[.int .i64 x0], .pointer (some ⟨p, 0, none⟩)] w' (WP p p (l ++ L) w')) : Calls Tryz.prog 18 #[.iface 74 (.agg #[.int .i64 x0])] w (KP (.tuple #[.string ⟨(intL 5 ++ L).toArray⟩, .int .i64 0]) w) := by
  have HC : Hid _ := hc
  have HWr : Hid (∀ (w' : World) (p : Nat) (v : Value) (l : List UInt8), Below w.heap.size w w' → Wm p w' p v l → w.heap.size ≤ p → l.length ≤ 100 → Calls Tryz.prog 162 #[.agg #[.int .i64 x0], .pointer (some ⟨p, 0, none⟩)] w' (WP p p (l ++ L) w')) := hw
  have H10 : Hid ((([] ++ intL 5 : List UInt8)).length ≤ 100) := by unfold Hid; decide
  clear hc hw
  go_enter Tryz.func18, Tryz.ntmps18
  go_wp2_with fail
  refine Calls.mono HC.out ?_
  rintro e w2 ⟨rfl, hb⟩
  clear HC
  go_wp2_with fail
  have HW : Hid (Wm w2.heap.size (w2.alloc (.cells #[.slice none 0 0] 117)) w2.heap.size (.slice none 0 0) []) := Wm.new w2
  have HB : Hid (Below w.heap.size w (w2.alloc (.cells #[.slice none 0 0] 117))) := hb.out.alloc hb.out.size _
  have hwB : w.heap.size ≤ w2.heap.size := hb.out.size
  clear hb
  generalize w2.alloc (.cells #[.slice none 0 0] 117) = w3 at *
  generalize w2.heap.size = p at *
  refine (known5 x0 _).mono ?_
  rintro e w4 ⟨rfl, hb4⟩
  have HW4 : Hid (Wm p w4 p (.slice none 0 0) []) := HW.out.keep hb4.out
  have HB4 : Hid (Below w.heap.size w w4) := bt HB.out hb4.out
  clear HW HB hb4
  go_wp2_with fail
  refine (kind5 x0 _).mono ?_
  rintro e w5 ⟨rfl, hb5⟩
  have HW5 : Hid (Wm p w5 p (.slice none 0 0) []) := HW4.out.keep hb5.out
  have HB5 : Hid (Below w.heap.size w w5) := bt HB4.out hb5.out
  clear HW4 HB4 hb5
  go_wp2_with fail
  refine (wint p p _ _ 5 ⟨by decide, by decide⟩ _ HW5.out (by decide)).mono ?_
  rintro e w6 ⟨rfl, v6, HW6, HB6⟩
  have HB7 : Hid (Below w.heap.size w w6) := HB5.out.trans (HB6.out.1.mono hwB)
  clear HW5 HB5 HB6
  generalize hl0 : ([] ++ intL 5 : List UInt8) = l0 at *
  have HL : Hid (l0 = intL 5) := hl0.symm
  clear hl0
  go_wp2_with fail
  refine (HWr.out _ p v6 _ HB7.out HW6.out hwB H10.out).mono ?_
  rintro e w8 ⟨rfl, v8, HW8, HB8⟩
  have HB9 : Hid (Below w.heap.size w w8) := HB7.out.trans (HB8.out.1.mono hwB)
  clear HWr HB7 HW6 HB8
  go_wp2_with fail
  refine (wbytes p p v8 _ _ HW8.out).mono ?_
  rintro e wX ⟨rfl, rfl⟩
  clear HW8
  go_wp2_with fail
  go_ret2
  exact ⟨by rw [← HL.out]; rfl, HB9⟩
set_option maxHeartbeats 4000000 in
theorem encode6 (x0 : Int) (x1 : ByteArray) (x2 : Int) (L : List UInt8) (w : World) (hc : Calls Tryz.prog 12 #[.iface 84 (.agg #[.int .i64 x0, .string x1, .int .i64 x2])] w (KP (.int .i64 0) w)) (hw : ∀ (w' : World) (p : Nat) (v : Value) (l : List UInt8), Below w.heap.size w w' → Wm p w' p v l → w.heap.size ≤ p → l.length ≤ 100 → Calls Tryz.prog 187 #[.agg #[.int .i64 x0, .string x1, .int .i64 x2], .pointer (some ⟨p, 0, none⟩)] w' (WP p p (l ++ L) w')) : Calls Tryz.prog 18 #[.iface 84 (.agg #[.int .i64 x0, .string x1, .int .i64 x2])] w (KP (.tuple #[.string ⟨(intL 6 ++ L).toArray⟩, .int .i64 0]) w) := by
  have HC : Hid _ := hc
  have HWr : Hid (∀ (w' : World) (p : Nat) (v : Value) (l : List UInt8), Below w.heap.size w w' → Wm p w' p v l → w.heap.size ≤ p → l.length ≤ 100 → Calls Tryz.prog 187 #[.agg #[.int .i64 x0, .string x1, .int .i64 x2], .pointer (some ⟨p, 0, none⟩)] w' (WP p p (l ++ L) w')) := hw
  have H10 : Hid ((([] ++ intL 6 : List UInt8)).length ≤ 100) := by unfold Hid; decide
  clear hc hw
  go_enter Tryz.func18, Tryz.ntmps18
  go_wp2_with fail
  refine Calls.mono HC.out ?_
  rintro e w2 ⟨rfl, hb⟩
  clear HC
  go_wp2_with fail
  have HW : Hid (Wm w2.heap.size (w2.alloc (.cells #[.slice none 0 0] 117)) w2.heap.size (.slice none 0 0) []) := Wm.new w2
  have HB : Hid (Below w.heap.size w (w2.alloc (.cells #[.slice none 0 0] 117))) := hb.out.alloc hb.out.size _
  have hwB : w.heap.size ≤ w2.heap.size := hb.out.size
  clear hb
  generalize w2.alloc (.cells #[.slice none 0 0] 117) = w3 at *
  generalize w2.heap.size = p at *
  refine (known6 x0 x1 x2 _).mono ?_
  rintro e w4 ⟨rfl, hb4⟩
  have HW4 : Hid (Wm p w4 p (.slice none 0 0) []) := HW.out.keep hb4.out
  have HB4 : Hid (Below w.heap.size w w4) := bt HB.out hb4.out
  clear HW HB hb4
  go_wp2_with fail
  refine (kind6 x0 x1 x2 _).mono ?_
  rintro e w5 ⟨rfl, hb5⟩
  have HW5 : Hid (Wm p w5 p (.slice none 0 0) []) := HW4.out.keep hb5.out
  have HB5 : Hid (Below w.heap.size w w5) := bt HB4.out hb5.out
  clear HW4 HB4 hb5
  go_wp2_with fail
  refine (wint p p _ _ 6 ⟨by decide, by decide⟩ _ HW5.out (by decide)).mono ?_
  rintro e w6 ⟨rfl, v6, HW6, HB6⟩
  have HB7 : Hid (Below w.heap.size w w6) := HB5.out.trans (HB6.out.1.mono hwB)
  clear HW5 HB5 HB6
  generalize hl0 : ([] ++ intL 6 : List UInt8) = l0 at *
  have HL : Hid (l0 = intL 6) := hl0.symm
  clear hl0
  go_wp2_with fail
  refine (HWr.out _ p v6 _ HB7.out HW6.out hwB H10.out).mono ?_
  rintro e w8 ⟨rfl, v8, HW8, HB8⟩
  have HB9 : Hid (Below w.heap.size w w8) := HB7.out.trans (HB8.out.1.mono hwB)
  clear HWr HB7 HW6 HB8
  go_wp2_with fail
  refine (wbytes p p v8 _ _ HW8.out).mono ?_
  rintro e wX ⟨rfl, rfl⟩
  clear HW8
  go_wp2_with fail
  go_ret2
  exact ⟨by rw [← HL.out]; rfl, HB9⟩
set_option maxHeartbeats 4000000 in
theorem encode7 (x0 : Int) (x1 : ByteArray) (x2 : Int) (L : List UInt8) (w : World) (hc : Calls Tryz.prog 12 #[.iface 86 (.agg #[.int .i64 x0, .string x1, .int .i64 x2])] w (KP (.int .i64 0) w)) (hw : ∀ (w' : World) (p : Nat) (v : Value) (l : List UInt8), Below w.heap.size w w' → Wm p w' p v l → w.heap.size ≤ p → l.length ≤ 100 → Calls Tryz.prog 191 #[.agg #[.int .i64 x0, .string x1, .int .i64 x2], .pointer (some ⟨p, 0, none⟩)] w' (WP p p (l ++ L) w')) : Calls Tryz.prog 18 #[.iface 86 (.agg #[.int .i64 x0, .string x1, .int .i64 x2])] w (KP (.tuple #[.string ⟨(intL 7 ++ L).toArray⟩, .int .i64 0]) w) := by
  have HC : Hid _ := hc
  have HWr : Hid (∀ (w' : World) (p : Nat) (v : Value) (l : List UInt8), Below w.heap.size w w' → Wm p w' p v l → w.heap.size ≤ p → l.length ≤ 100 → Calls Tryz.prog 191 #[.agg #[.int .i64 x0, .string x1, .int .i64 x2], .pointer (some ⟨p, 0, none⟩)] w' (WP p p (l ++ L) w')) := hw
  have H10 : Hid ((([] ++ intL 7 : List UInt8)).length ≤ 100) := by unfold Hid; decide
  clear hc hw
  go_enter Tryz.func18, Tryz.ntmps18
  go_wp2_with fail
  refine Calls.mono HC.out ?_
  rintro e w2 ⟨rfl, hb⟩
  clear HC
  go_wp2_with fail
  have HW : Hid (Wm w2.heap.size (w2.alloc (.cells #[.slice none 0 0] 117)) w2.heap.size (.slice none 0 0) []) := Wm.new w2
  have HB : Hid (Below w.heap.size w (w2.alloc (.cells #[.slice none 0 0] 117))) := hb.out.alloc hb.out.size _
  have hwB : w.heap.size ≤ w2.heap.size := hb.out.size
  clear hb
  generalize w2.alloc (.cells #[.slice none 0 0] 117) = w3 at *
  generalize w2.heap.size = p at *
  refine (known7 x0 x1 x2 _).mono ?_
  rintro e w4 ⟨rfl, hb4⟩
  have HW4 : Hid (Wm p w4 p (.slice none 0 0) []) := HW.out.keep hb4.out
  have HB4 : Hid (Below w.heap.size w w4) := bt HB.out hb4.out
  clear HW HB hb4
  go_wp2_with fail
  refine (kind7 x0 x1 x2 _).mono ?_
  rintro e w5 ⟨rfl, hb5⟩
  have HW5 : Hid (Wm p w5 p (.slice none 0 0) []) := HW4.out.keep hb5.out
  have HB5 : Hid (Below w.heap.size w w5) := bt HB4.out hb5.out
  clear HW4 HB4 hb5
  go_wp2_with fail
  refine (wint p p _ _ 7 ⟨by decide, by decide⟩ _ HW5.out (by decide)).mono ?_
  rintro e w6 ⟨rfl, v6, HW6, HB6⟩
  have HB7 : Hid (Below w.heap.size w w6) := HB5.out.trans (HB6.out.1.mono hwB)
  clear HW5 HB5 HB6
  generalize hl0 : ([] ++ intL 7 : List UInt8) = l0 at *
  have HL : Hid (l0 = intL 7) := hl0.symm
  clear hl0
  go_wp2_with fail
  refine (HWr.out _ p v6 _ HB7.out HW6.out hwB H10.out).mono ?_
  rintro e w8 ⟨rfl, v8, HW8, HB8⟩
  have HB9 : Hid (Below w.heap.size w w8) := HB7.out.trans (HB8.out.1.mono hwB)
  clear HWr HB7 HW6 HB8
  go_wp2_with fail
  refine (wbytes p p v8 _ _ HW8.out).mono ?_
  rintro e wX ⟨rfl, rfl⟩
  clear HW8
  go_wp2_with fail
  go_ret2
  exact ⟨by rw [← HL.out]; rfl, HB9⟩
set_option maxHeartbeats 4000000 in
theorem encode8 (x0 : Int) (x1 : Int) (x2 : Int) (x3 : Int) (x4 : Int) (x5 : Int) (x6 : Int) (x7 : Int) (L : List UInt8) (w : World) (hc : Calls Tryz.prog 12 #[.iface 63 (.agg #[.int .i64 x0, .int .i64 x1, .int .i64 x2, .int .i64 x3, .int .i64 x4, .int .i64 x5, .int .i64 x6, .int .i64 x7])] w (KP (.int .i64 0) w)) (hw : ∀ (w' : World) (p : Nat) (v : Value) (l : List UInt8), Below w.heap.size w w' → Wm p w' p v l → w.heap.size ≤ p → l.length ≤ 100 → Calls Tryz.prog 139 #[.agg #[.int .i64 x0, .int .i64 x1, .int .i64 x2, .int .i64 x3, .int .i64 x4, .int .i64 x5, .int .i64 x6, .int .i64 x7], .pointer (some ⟨p, 0, none⟩)] w' (WP p p (l ++ L) w')) : Calls Tryz.prog 18 #[.iface 63 (.agg #[.int .i64 x0, .int .i64 x1, .int .i64 x2, .int .i64 x3, .int .i64 x4, .int .i64 x5, .int .i64 x6, .int .i64 x7])] w (KP (.tuple #[.string ⟨(intL 8 ++ L).toArray⟩, .int .i64 0]) w) := by
  have HC : Hid _ := hc
  have HWr : Hid (∀ (w' : World) (p : Nat) (v : Value) (l : List UInt8), Below w.heap.size w w' → Wm p w' p v l → w.heap.size ≤ p → l.length ≤ 100 → Calls Tryz.prog 139 #[.agg #[.int .i64 x0, .int .i64 x1, .int .i64 x2, .int .i64 x3, .int .i64 x4, .int .i64 x5, .int .i64 x6, .int .i64 x7], .pointer (some ⟨p, 0, none⟩)] w' (WP p p (l ++ L) w')) := hw
  have H10 : Hid ((([] ++ intL 8 : List UInt8)).length ≤ 100) := by unfold Hid; decide
  clear hc hw
  go_enter Tryz.func18, Tryz.ntmps18
  go_wp2_with fail
  refine Calls.mono HC.out ?_
  rintro e w2 ⟨rfl, hb⟩
  clear HC
  go_wp2_with fail
  have HW : Hid (Wm w2.heap.size (w2.alloc (.cells #[.slice none 0 0] 117)) w2.heap.size (.slice none 0 0) []) := Wm.new w2
  have HB : Hid (Below w.heap.size w (w2.alloc (.cells #[.slice none 0 0] 117))) := hb.out.alloc hb.out.size _
  have hwB : w.heap.size ≤ w2.heap.size := hb.out.size
  clear hb
  generalize w2.alloc (.cells #[.slice none 0 0] 117) = w3 at *
  generalize w2.heap.size = p at *
  refine (known8 x0 x1 x2 x3 x4 x5 x6 x7 _).mono ?_
  rintro e w4 ⟨rfl, hb4⟩
  have HW4 : Hid (Wm p w4 p (.slice none 0 0) []) := HW.out.keep hb4.out
  have HB4 : Hid (Below w.heap.size w w4) := bt HB.out hb4.out
  clear HW HB hb4
  go_wp2_with fail
  refine (kind8 x0 x1 x2 x3 x4 x5 x6 x7 _).mono ?_
  rintro e w5 ⟨rfl, hb5⟩
  have HW5 : Hid (Wm p w5 p (.slice none 0 0) []) := HW4.out.keep hb5.out
  have HB5 : Hid (Below w.heap.size w w5) := bt HB4.out hb5.out
  clear HW4 HB4 hb5
  go_wp2_with fail
  refine (wint p p _ _ 8 ⟨by decide, by decide⟩ _ HW5.out (by decide)).mono ?_
  rintro e w6 ⟨rfl, v6, HW6, HB6⟩
  have HB7 : Hid (Below w.heap.size w w6) := HB5.out.trans (HB6.out.1.mono hwB)
  clear HW5 HB5 HB6
  generalize hl0 : ([] ++ intL 8 : List UInt8) = l0 at *
  have HL : Hid (l0 = intL 8) := hl0.symm
  clear hl0
  go_wp2_with fail
  refine (HWr.out _ p v6 _ HB7.out HW6.out hwB H10.out).mono ?_
  rintro e w8 ⟨rfl, v8, HW8, HB8⟩
  have HB9 : Hid (Below w.heap.size w w8) := HB7.out.trans (HB8.out.1.mono hwB)
  clear HWr HB7 HW6 HB8
  go_wp2_with fail
  refine (wbytes p p v8 _ _ HW8.out).mono ?_
  rintro e wX ⟨rfl, rfl⟩
  clear HW8
  go_wp2_with fail
  go_ret2
  exact ⟨by rw [← HL.out]; rfl, HB9⟩
set_option maxHeartbeats 4000000 in
theorem encode9 (x0 : Int) (x1 : Int) (L : List UInt8) (w : World) (hc : Calls Tryz.prog 12 #[.iface 88 (.agg #[.int .i64 x0, .int .i64 x1])] w (KP (.int .i64 0) w)) (hw : ∀ (w' : World) (p : Nat) (v : Value) (l : List UInt8), Below w.heap.size w w' → Wm p w' p v l → w.heap.size ≤ p → l.length ≤ 100 → Calls Tryz.prog 194 #[.agg #[.int .i64 x0, .int .i64 x1], .pointer (some ⟨p, 0, none⟩)] w' (WP p p (l ++ L) w')) : Calls Tryz.prog 18 #[.iface 88 (.agg #[.int .i64 x0, .int .i64 x1])] w (KP (.tuple #[.string ⟨(intL 9 ++ L).toArray⟩, .int .i64 0]) w) := by
  have HC : Hid _ := hc
  have HWr : Hid (∀ (w' : World) (p : Nat) (v : Value) (l : List UInt8), Below w.heap.size w w' → Wm p w' p v l → w.heap.size ≤ p → l.length ≤ 100 → Calls Tryz.prog 194 #[.agg #[.int .i64 x0, .int .i64 x1], .pointer (some ⟨p, 0, none⟩)] w' (WP p p (l ++ L) w')) := hw
  have H10 : Hid ((([] ++ intL 9 : List UInt8)).length ≤ 100) := by unfold Hid; decide
  clear hc hw
  go_enter Tryz.func18, Tryz.ntmps18
  go_wp2_with fail
  refine Calls.mono HC.out ?_
  rintro e w2 ⟨rfl, hb⟩
  clear HC
  go_wp2_with fail
  have HW : Hid (Wm w2.heap.size (w2.alloc (.cells #[.slice none 0 0] 117)) w2.heap.size (.slice none 0 0) []) := Wm.new w2
  have HB : Hid (Below w.heap.size w (w2.alloc (.cells #[.slice none 0 0] 117))) := hb.out.alloc hb.out.size _
  have hwB : w.heap.size ≤ w2.heap.size := hb.out.size
  clear hb
  generalize w2.alloc (.cells #[.slice none 0 0] 117) = w3 at *
  generalize w2.heap.size = p at *
  refine (known9 x0 x1 _).mono ?_
  rintro e w4 ⟨rfl, hb4⟩
  have HW4 : Hid (Wm p w4 p (.slice none 0 0) []) := HW.out.keep hb4.out
  have HB4 : Hid (Below w.heap.size w w4) := bt HB.out hb4.out
  clear HW HB hb4
  go_wp2_with fail
  refine (kind9 x0 x1 _).mono ?_
  rintro e w5 ⟨rfl, hb5⟩
  have HW5 : Hid (Wm p w5 p (.slice none 0 0) []) := HW4.out.keep hb5.out
  have HB5 : Hid (Below w.heap.size w w5) := bt HB4.out hb5.out
  clear HW4 HB4 hb5
  go_wp2_with fail
  refine (wint p p _ _ 9 ⟨by decide, by decide⟩ _ HW5.out (by decide)).mono ?_
  rintro e w6 ⟨rfl, v6, HW6, HB6⟩
  have HB7 : Hid (Below w.heap.size w w6) := HB5.out.trans (HB6.out.1.mono hwB)
  clear HW5 HB5 HB6
  generalize hl0 : ([] ++ intL 9 : List UInt8) = l0 at *
  have HL : Hid (l0 = intL 9) := hl0.symm
  clear hl0
  go_wp2_with fail
  refine (HWr.out _ p v6 _ HB7.out HW6.out hwB H10.out).mono ?_
  rintro e w8 ⟨rfl, v8, HW8, HB8⟩
  have HB9 : Hid (Below w.heap.size w w8) := HB7.out.trans (HB8.out.1.mono hwB)
  clear HWr HB7 HW6 HB8
  go_wp2_with fail
  refine (wbytes p p v8 _ _ HW8.out).mono ?_
  rintro e wX ⟨rfl, rfl⟩
  clear HW8
  go_wp2_with fail
  go_ret2
  exact ⟨by rw [← HL.out]; rfl, HB9⟩
set_option maxHeartbeats 4000000 in
theorem encode10 (x0 : Int) (x1 : Int) (x2 : Int) (L : List UInt8) (w : World) (hc : Calls Tryz.prog 12 #[.iface 90 (.agg #[.int .i64 x0, .int .i64 x1, .int .i64 x2])] w (KP (.int .i64 0) w)) (hw : ∀ (w' : World) (p : Nat) (v : Value) (l : List UInt8), Below w.heap.size w w' → Wm p w' p v l → w.heap.size ≤ p → l.length ≤ 100 → Calls Tryz.prog 197 #[.agg #[.int .i64 x0, .int .i64 x1, .int .i64 x2], .pointer (some ⟨p, 0, none⟩)] w' (WP p p (l ++ L) w')) : Calls Tryz.prog 18 #[.iface 90 (.agg #[.int .i64 x0, .int .i64 x1, .int .i64 x2])] w (KP (.tuple #[.string ⟨(intL 10 ++ L).toArray⟩, .int .i64 0]) w) := by
  have HC : Hid _ := hc
  have HWr : Hid (∀ (w' : World) (p : Nat) (v : Value) (l : List UInt8), Below w.heap.size w w' → Wm p w' p v l → w.heap.size ≤ p → l.length ≤ 100 → Calls Tryz.prog 197 #[.agg #[.int .i64 x0, .int .i64 x1, .int .i64 x2], .pointer (some ⟨p, 0, none⟩)] w' (WP p p (l ++ L) w')) := hw
  have H10 : Hid ((([] ++ intL 10 : List UInt8)).length ≤ 100) := by unfold Hid; decide
  clear hc hw
  go_enter Tryz.func18, Tryz.ntmps18
  go_wp2_with fail
  refine Calls.mono HC.out ?_
  rintro e w2 ⟨rfl, hb⟩
  clear HC
  go_wp2_with fail
  have HW : Hid (Wm w2.heap.size (w2.alloc (.cells #[.slice none 0 0] 117)) w2.heap.size (.slice none 0 0) []) := Wm.new w2
  have HB : Hid (Below w.heap.size w (w2.alloc (.cells #[.slice none 0 0] 117))) := hb.out.alloc hb.out.size _
  have hwB : w.heap.size ≤ w2.heap.size := hb.out.size
  clear hb
  generalize w2.alloc (.cells #[.slice none 0 0] 117) = w3 at *
  generalize w2.heap.size = p at *
  refine (known10 x0 x1 x2 _).mono ?_
  rintro e w4 ⟨rfl, hb4⟩
  have HW4 : Hid (Wm p w4 p (.slice none 0 0) []) := HW.out.keep hb4.out
  have HB4 : Hid (Below w.heap.size w w4) := bt HB.out hb4.out
  clear HW HB hb4
  go_wp2_with fail
  refine (kind10 x0 x1 x2 _).mono ?_
  rintro e w5 ⟨rfl, hb5⟩
  have HW5 : Hid (Wm p w5 p (.slice none 0 0) []) := HW4.out.keep hb5.out
  have HB5 : Hid (Below w.heap.size w w5) := bt HB4.out hb5.out
  clear HW4 HB4 hb5
  go_wp2_with fail
  refine (wint p p _ _ 10 ⟨by decide, by decide⟩ _ HW5.out (by decide)).mono ?_
  rintro e w6 ⟨rfl, v6, HW6, HB6⟩
  have HB7 : Hid (Below w.heap.size w w6) := HB5.out.trans (HB6.out.1.mono hwB)
  clear HW5 HB5 HB6
  generalize hl0 : ([] ++ intL 10 : List UInt8) = l0 at *
  have HL : Hid (l0 = intL 10) := hl0.symm
  clear hl0
  go_wp2_with fail
  refine (HWr.out _ p v6 _ HB7.out HW6.out hwB H10.out).mono ?_
  rintro e w8 ⟨rfl, v8, HW8, HB8⟩
  have HB9 : Hid (Below w.heap.size w w8) := HB7.out.trans (HB8.out.1.mono hwB)
  clear HWr HB7 HW6 HB8
  go_wp2_with fail
  refine (wbytes p p v8 _ _ HW8.out).mono ?_
  rintro e wX ⟨rfl, rfl⟩
  clear HW8
  go_wp2_with fail
  go_ret2
  exact ⟨by rw [← HL.out]; rfl, HB9⟩
set_option maxHeartbeats 4000000 in
theorem encode11 (x0 : Int) (x1 : Int) (x2 : ByteArray) (x3 : Int) (x4a : Option Addr) (x4n x4c : Nat) (L : List UInt8) (w : World) (hc : Calls Tryz.prog 12 #[.iface 67 (.agg #[.int .i64 x0, .int .i64 x1, .string x2, .int .i64 x3, .slice x4a x4n x4c])] w (KP (.int .i64 0) w)) (hw : ∀ (w' : World) (p : Nat) (v : Value) (l : List UInt8), Below w.heap.size w w' → Wm p w' p v l → w.heap.size ≤ p → l.length ≤ 100 → Calls Tryz.prog 148 #[.agg #[.int .i64 x0, .int .i64 x1, .string x2, .int .i64 x3, .slice x4a x4n x4c], .pointer (some ⟨p, 0, none⟩)] w' (WP p p (l ++ L) w')) : Calls Tryz.prog 18 #[.iface 67 (.agg #[.int .i64 x0, .int .i64 x1, .string x2, .int .i64 x3, .slice x4a x4n x4c])] w (KP (.tuple #[.string ⟨(intL 11 ++ L).toArray⟩, .int .i64 0]) w) := by
  have HC : Hid _ := hc
  have HWr : Hid (∀ (w' : World) (p : Nat) (v : Value) (l : List UInt8), Below w.heap.size w w' → Wm p w' p v l → w.heap.size ≤ p → l.length ≤ 100 → Calls Tryz.prog 148 #[.agg #[.int .i64 x0, .int .i64 x1, .string x2, .int .i64 x3, .slice x4a x4n x4c], .pointer (some ⟨p, 0, none⟩)] w' (WP p p (l ++ L) w')) := hw
  have H10 : Hid ((([] ++ intL 11 : List UInt8)).length ≤ 100) := by unfold Hid; decide
  clear hc hw
  go_enter Tryz.func18, Tryz.ntmps18
  go_wp2_with fail
  refine Calls.mono HC.out ?_
  rintro e w2 ⟨rfl, hb⟩
  clear HC
  go_wp2_with fail
  have HW : Hid (Wm w2.heap.size (w2.alloc (.cells #[.slice none 0 0] 117)) w2.heap.size (.slice none 0 0) []) := Wm.new w2
  have HB : Hid (Below w.heap.size w (w2.alloc (.cells #[.slice none 0 0] 117))) := hb.out.alloc hb.out.size _
  have hwB : w.heap.size ≤ w2.heap.size := hb.out.size
  clear hb
  generalize w2.alloc (.cells #[.slice none 0 0] 117) = w3 at *
  generalize w2.heap.size = p at *
  refine (known11 x0 x1 x2 x3 x4a x4n x4c _).mono ?_
  rintro e w4 ⟨rfl, hb4⟩
  have HW4 : Hid (Wm p w4 p (.slice none 0 0) []) := HW.out.keep hb4.out
  have HB4 : Hid (Below w.heap.size w w4) := bt HB.out hb4.out
  clear HW HB hb4
  go_wp2_with fail
  refine (kind11 x0 x1 x2 x3 x4a x4n x4c _).mono ?_
  rintro e w5 ⟨rfl, hb5⟩
  have HW5 : Hid (Wm p w5 p (.slice none 0 0) []) := HW4.out.keep hb5.out
  have HB5 : Hid (Below w.heap.size w w5) := bt HB4.out hb5.out
  clear HW4 HB4 hb5
  go_wp2_with fail
  refine (wint p p _ _ 11 ⟨by decide, by decide⟩ _ HW5.out (by decide)).mono ?_
  rintro e w6 ⟨rfl, v6, HW6, HB6⟩
  have HB7 : Hid (Below w.heap.size w w6) := HB5.out.trans (HB6.out.1.mono hwB)
  clear HW5 HB5 HB6
  generalize hl0 : ([] ++ intL 11 : List UInt8) = l0 at *
  have HL : Hid (l0 = intL 11) := hl0.symm
  clear hl0
  go_wp2_with fail
  refine (HWr.out _ p v6 _ HB7.out HW6.out hwB H10.out).mono ?_
  rintro e w8 ⟨rfl, v8, HW8, HB8⟩
  have HB9 : Hid (Below w.heap.size w w8) := HB7.out.trans (HB8.out.1.mono hwB)
  clear HWr HB7 HW6 HB8
  go_wp2_with fail
  refine (wbytes p p v8 _ _ HW8.out).mono ?_
  rintro e wX ⟨rfl, rfl⟩
  clear HW8
  go_wp2_with fail
  go_ret2
  exact ⟨by rw [← HL.out]; rfl, HB9⟩
set_option maxHeartbeats 4000000 in
theorem encode12 (x0 : Int) (x1 : Int) (x2 : Bool) (L : List UInt8) (w : World) (hc : Calls Tryz.prog 12 #[.iface 92 (.agg #[.int .i64 x0, .int .i64 x1, .bool x2])] w (KP (.int .i64 0) w)) (hw : ∀ (w' : World) (p : Nat) (v : Value) (l : List UInt8), Below w.heap.size w w' → Wm p w' p v l → w.heap.size ≤ p → l.length ≤ 100 → Calls Tryz.prog 200 #[.agg #[.int .i64 x0, .int .i64 x1, .bool x2], .pointer (some ⟨p, 0, none⟩)] w' (WP p p (l ++ L) w')) : Calls Tryz.prog 18 #[.iface 92 (.agg #[.int .i64 x0, .int .i64 x1, .bool x2])] w (KP (.tuple #[.string ⟨(intL 12 ++ L).toArray⟩, .int .i64 0]) w) := by
  have HC : Hid _ := hc
  have HWr : Hid (∀ (w' : World) (p : Nat) (v : Value) (l : List UInt8), Below w.heap.size w w' → Wm p w' p v l → w.heap.size ≤ p → l.length ≤ 100 → Calls Tryz.prog 200 #[.agg #[.int .i64 x0, .int .i64 x1, .bool x2], .pointer (some ⟨p, 0, none⟩)] w' (WP p p (l ++ L) w')) := hw
  have H10 : Hid ((([] ++ intL 12 : List UInt8)).length ≤ 100) := by unfold Hid; decide
  clear hc hw
  go_enter Tryz.func18, Tryz.ntmps18
  go_wp2_with fail
  refine Calls.mono HC.out ?_
  rintro e w2 ⟨rfl, hb⟩
  clear HC
  go_wp2_with fail
  have HW : Hid (Wm w2.heap.size (w2.alloc (.cells #[.slice none 0 0] 117)) w2.heap.size (.slice none 0 0) []) := Wm.new w2
  have HB : Hid (Below w.heap.size w (w2.alloc (.cells #[.slice none 0 0] 117))) := hb.out.alloc hb.out.size _
  have hwB : w.heap.size ≤ w2.heap.size := hb.out.size
  clear hb
  generalize w2.alloc (.cells #[.slice none 0 0] 117) = w3 at *
  generalize w2.heap.size = p at *
  refine (known12 x0 x1 x2 _).mono ?_
  rintro e w4 ⟨rfl, hb4⟩
  have HW4 : Hid (Wm p w4 p (.slice none 0 0) []) := HW.out.keep hb4.out
  have HB4 : Hid (Below w.heap.size w w4) := bt HB.out hb4.out
  clear HW HB hb4
  go_wp2_with fail
  refine (kind12 x0 x1 x2 _).mono ?_
  rintro e w5 ⟨rfl, hb5⟩
  have HW5 : Hid (Wm p w5 p (.slice none 0 0) []) := HW4.out.keep hb5.out
  have HB5 : Hid (Below w.heap.size w w5) := bt HB4.out hb5.out
  clear HW4 HB4 hb5
  go_wp2_with fail
  refine (wint p p _ _ 12 ⟨by decide, by decide⟩ _ HW5.out (by decide)).mono ?_
  rintro e w6 ⟨rfl, v6, HW6, HB6⟩
  have HB7 : Hid (Below w.heap.size w w6) := HB5.out.trans (HB6.out.1.mono hwB)
  clear HW5 HB5 HB6
  generalize hl0 : ([] ++ intL 12 : List UInt8) = l0 at *
  have HL : Hid (l0 = intL 12) := hl0.symm
  clear hl0
  go_wp2_with fail
  refine (HWr.out _ p v6 _ HB7.out HW6.out hwB H10.out).mono ?_
  rintro e w8 ⟨rfl, v8, HW8, HB8⟩
  have HB9 : Hid (Below w.heap.size w w8) := HB7.out.trans (HB8.out.1.mono hwB)
  clear HWr HB7 HW6 HB8
  go_wp2_with fail
  refine (wbytes p p v8 _ _ HW8.out).mono ?_
  rintro e wX ⟨rfl, rfl⟩
  clear HW8
  go_wp2_with fail
  go_ret2
  exact ⟨by rw [← HL.out]; rfl, HB9⟩
set_option maxHeartbeats 4000000 in
theorem encode13 (x0 : Int) (L : List UInt8) (w : World) (hc : Calls Tryz.prog 12 #[.iface 94 (.agg #[.int .i64 x0])] w (KP (.int .i64 0) w)) (hw : ∀ (w' : World) (p : Nat) (v : Value) (l : List UInt8), Below w.heap.size w w' → Wm p w' p v l → w.heap.size ≤ p → l.length ≤ 100 → Calls Tryz.prog 204 #[.agg #[.int .i64 x0], .pointer (some ⟨p, 0, none⟩)] w' (WP p p (l ++ L) w')) : Calls Tryz.prog 18 #[.iface 94 (.agg #[.int .i64 x0])] w (KP (.tuple #[.string ⟨(intL 13 ++ L).toArray⟩, .int .i64 0]) w) := by
  have HC : Hid _ := hc
  have HWr : Hid (∀ (w' : World) (p : Nat) (v : Value) (l : List UInt8), Below w.heap.size w w' → Wm p w' p v l → w.heap.size ≤ p → l.length ≤ 100 → Calls Tryz.prog 204 #[.agg #[.int .i64 x0], .pointer (some ⟨p, 0, none⟩)] w' (WP p p (l ++ L) w')) := hw
  have H10 : Hid ((([] ++ intL 13 : List UInt8)).length ≤ 100) := by unfold Hid; decide
  clear hc hw
  go_enter Tryz.func18, Tryz.ntmps18
  go_wp2_with fail
  refine Calls.mono HC.out ?_
  rintro e w2 ⟨rfl, hb⟩
  clear HC
  go_wp2_with fail
  have HW : Hid (Wm w2.heap.size (w2.alloc (.cells #[.slice none 0 0] 117)) w2.heap.size (.slice none 0 0) []) := Wm.new w2
  have HB : Hid (Below w.heap.size w (w2.alloc (.cells #[.slice none 0 0] 117))) := hb.out.alloc hb.out.size _
  have hwB : w.heap.size ≤ w2.heap.size := hb.out.size
  clear hb
  generalize w2.alloc (.cells #[.slice none 0 0] 117) = w3 at *
  generalize w2.heap.size = p at *
  refine (known13 x0 _).mono ?_
  rintro e w4 ⟨rfl, hb4⟩
  have HW4 : Hid (Wm p w4 p (.slice none 0 0) []) := HW.out.keep hb4.out
  have HB4 : Hid (Below w.heap.size w w4) := bt HB.out hb4.out
  clear HW HB hb4
  go_wp2_with fail
  refine (kind13 x0 _).mono ?_
  rintro e w5 ⟨rfl, hb5⟩
  have HW5 : Hid (Wm p w5 p (.slice none 0 0) []) := HW4.out.keep hb5.out
  have HB5 : Hid (Below w.heap.size w w5) := bt HB4.out hb5.out
  clear HW4 HB4 hb5
  go_wp2_with fail
  refine (wint p p _ _ 13 ⟨by decide, by decide⟩ _ HW5.out (by decide)).mono ?_
  rintro e w6 ⟨rfl, v6, HW6, HB6⟩
  have HB7 : Hid (Below w.heap.size w w6) := HB5.out.trans (HB6.out.1.mono hwB)
  clear HW5 HB5 HB6
  generalize hl0 : ([] ++ intL 13 : List UInt8) = l0 at *
  have HL : Hid (l0 = intL 13) := hl0.symm
  clear hl0
  go_wp2_with fail
  refine (HWr.out _ p v6 _ HB7.out HW6.out hwB H10.out).mono ?_
  rintro e w8 ⟨rfl, v8, HW8, HB8⟩
  have HB9 : Hid (Below w.heap.size w w8) := HB7.out.trans (HB8.out.1.mono hwB)
  clear HWr HB7 HW6 HB8
  go_wp2_with fail
  refine (wbytes p p v8 _ _ HW8.out).mono ?_
  rintro e wX ⟨rfl, rfl⟩
  clear HW8
  go_wp2_with fail
  go_ret2
  exact ⟨by rw [← HL.out]; rfl, HB9⟩
set_option maxHeartbeats 4000000 in
theorem encode14 (x0 : Int) (x1 : Int) (L : List UInt8) (w : World) (hc : Calls Tryz.prog 12 #[.iface 96 (.agg #[.int .i64 x0, .int .i64 x1])] w (KP (.int .i64 0) w)) (hw : ∀ (w' : World) (p : Nat) (v : Value) (l : List UInt8), Below w.heap.size w w' → Wm p w' p v l → w.heap.size ≤ p → l.length ≤ 100 → Calls Tryz.prog 207 #[.agg #[.int .i64 x0, .int .i64 x1], .pointer (some ⟨p, 0, none⟩)] w' (WP p p (l ++ L) w')) : Calls Tryz.prog 18 #[.iface 96 (.agg #[.int .i64 x0, .int .i64 x1])] w (KP (.tuple #[.string ⟨(intL 14 ++ L).toArray⟩, .int .i64 0]) w) := by
  have HC : Hid _ := hc
  have HWr : Hid (∀ (w' : World) (p : Nat) (v : Value) (l : List UInt8), Below w.heap.size w w' → Wm p w' p v l → w.heap.size ≤ p → l.length ≤ 100 → Calls Tryz.prog 207 #[.agg #[.int .i64 x0, .int .i64 x1], .pointer (some ⟨p, 0, none⟩)] w' (WP p p (l ++ L) w')) := hw
  have H10 : Hid ((([] ++ intL 14 : List UInt8)).length ≤ 100) := by unfold Hid; decide
  clear hc hw
  go_enter Tryz.func18, Tryz.ntmps18
  go_wp2_with fail
  refine Calls.mono HC.out ?_
  rintro e w2 ⟨rfl, hb⟩
  clear HC
  go_wp2_with fail
  have HW : Hid (Wm w2.heap.size (w2.alloc (.cells #[.slice none 0 0] 117)) w2.heap.size (.slice none 0 0) []) := Wm.new w2
  have HB : Hid (Below w.heap.size w (w2.alloc (.cells #[.slice none 0 0] 117))) := hb.out.alloc hb.out.size _
  have hwB : w.heap.size ≤ w2.heap.size := hb.out.size
  clear hb
  generalize w2.alloc (.cells #[.slice none 0 0] 117) = w3 at *
  generalize w2.heap.size = p at *
  refine (known14 x0 x1 _).mono ?_
  rintro e w4 ⟨rfl, hb4⟩
  have HW4 : Hid (Wm p w4 p (.slice none 0 0) []) := HW.out.keep hb4.out
  have HB4 : Hid (Below w.heap.size w w4) := bt HB.out hb4.out
  clear HW HB hb4
  go_wp2_with fail
  refine (kind14 x0 x1 _).mono ?_
  rintro e w5 ⟨rfl, hb5⟩
  have HW5 : Hid (Wm p w5 p (.slice none 0 0) []) := HW4.out.keep hb5.out
  have HB5 : Hid (Below w.heap.size w w5) := bt HB4.out hb5.out
  clear HW4 HB4 hb5
  go_wp2_with fail
  refine (wint p p _ _ 14 ⟨by decide, by decide⟩ _ HW5.out (by decide)).mono ?_
  rintro e w6 ⟨rfl, v6, HW6, HB6⟩
  have HB7 : Hid (Below w.heap.size w w6) := HB5.out.trans (HB6.out.1.mono hwB)
  clear HW5 HB5 HB6
  generalize hl0 : ([] ++ intL 14 : List UInt8) = l0 at *
  have HL : Hid (l0 = intL 14) := hl0.symm
  clear hl0
  go_wp2_with fail
  refine (HWr.out _ p v6 _ HB7.out HW6.out hwB H10.out).mono ?_
  rintro e w8 ⟨rfl, v8, HW8, HB8⟩
  have HB9 : Hid (Below w.heap.size w w8) := HB7.out.trans (HB8.out.1.mono hwB)
  clear HWr HB7 HW6 HB8
  go_wp2_with fail
  refine (wbytes p p v8 _ _ HW8.out).mono ?_
  rintro e wX ⟨rfl, rfl⟩
  clear HW8
  go_wp2_with fail
  go_ret2
  exact ⟨by rw [← HL.out]; rfl, HB9⟩
set_option maxHeartbeats 4000000 in
theorem encode15 (x0 : Int) (x1 : Int) (x2 : Int) (L : List UInt8) (w : World) (hc : Calls Tryz.prog 12 #[.iface 98 (.agg #[.int .i64 x0, .int .i64 x1, .int .i64 x2])] w (KP (.int .i64 0) w)) (hw : ∀ (w' : World) (p : Nat) (v : Value) (l : List UInt8), Below w.heap.size w w' → Wm p w' p v l → w.heap.size ≤ p → l.length ≤ 100 → Calls Tryz.prog 210 #[.agg #[.int .i64 x0, .int .i64 x1, .int .i64 x2], .pointer (some ⟨p, 0, none⟩)] w' (WP p p (l ++ L) w')) : Calls Tryz.prog 18 #[.iface 98 (.agg #[.int .i64 x0, .int .i64 x1, .int .i64 x2])] w (KP (.tuple #[.string ⟨(intL 15 ++ L).toArray⟩, .int .i64 0]) w) := by
  have HC : Hid _ := hc
  have HWr : Hid (∀ (w' : World) (p : Nat) (v : Value) (l : List UInt8), Below w.heap.size w w' → Wm p w' p v l → w.heap.size ≤ p → l.length ≤ 100 → Calls Tryz.prog 210 #[.agg #[.int .i64 x0, .int .i64 x1, .int .i64 x2], .pointer (some ⟨p, 0, none⟩)] w' (WP p p (l ++ L) w')) := hw
  have H10 : Hid ((([] ++ intL 15 : List UInt8)).length ≤ 100) := by unfold Hid; decide
  clear hc hw
  go_enter Tryz.func18, Tryz.ntmps18
  go_wp2_with fail
  refine Calls.mono HC.out ?_
  rintro e w2 ⟨rfl, hb⟩
  clear HC
  go_wp2_with fail
  have HW : Hid (Wm w2.heap.size (w2.alloc (.cells #[.slice none 0 0] 117)) w2.heap.size (.slice none 0 0) []) := Wm.new w2
  have HB : Hid (Below w.heap.size w (w2.alloc (.cells #[.slice none 0 0] 117))) := hb.out.alloc hb.out.size _
  have hwB : w.heap.size ≤ w2.heap.size := hb.out.size
  clear hb
  generalize w2.alloc (.cells #[.slice none 0 0] 117) = w3 at *
  generalize w2.heap.size = p at *
  refine (known15 x0 x1 x2 _).mono ?_
  rintro e w4 ⟨rfl, hb4⟩
  have HW4 : Hid (Wm p w4 p (.slice none 0 0) []) := HW.out.keep hb4.out
  have HB4 : Hid (Below w.heap.size w w4) := bt HB.out hb4.out
  clear HW HB hb4
  go_wp2_with fail
  refine (kind15 x0 x1 x2 _).mono ?_
  rintro e w5 ⟨rfl, hb5⟩
  have HW5 : Hid (Wm p w5 p (.slice none 0 0) []) := HW4.out.keep hb5.out
  have HB5 : Hid (Below w.heap.size w w5) := bt HB4.out hb5.out
  clear HW4 HB4 hb5
  go_wp2_with fail
  refine (wint p p _ _ 15 ⟨by decide, by decide⟩ _ HW5.out (by decide)).mono ?_
  rintro e w6 ⟨rfl, v6, HW6, HB6⟩
  have HB7 : Hid (Below w.heap.size w w6) := HB5.out.trans (HB6.out.1.mono hwB)
  clear HW5 HB5 HB6
  generalize hl0 : ([] ++ intL 15 : List UInt8) = l0 at *
  have HL : Hid (l0 = intL 15) := hl0.symm
  clear hl0
  go_wp2_with fail
  refine (HWr.out _ p v6 _ HB7.out HW6.out hwB H10.out).mono ?_
  rintro e w8 ⟨rfl, v8, HW8, HB8⟩
  have HB9 : Hid (Below w.heap.size w w8) := HB7.out.trans (HB8.out.1.mono hwB)
  clear HWr HB7 HW6 HB8
  go_wp2_with fail
  refine (wbytes p p v8 _ _ HW8.out).mono ?_
  rintro e wX ⟨rfl, rfl⟩
  clear HW8
  go_wp2_with fail
  go_ret2
  exact ⟨by rw [← HL.out]; rfl, HB9⟩
end Go.Proofs.YtdmlgheajblcdaaGreat
