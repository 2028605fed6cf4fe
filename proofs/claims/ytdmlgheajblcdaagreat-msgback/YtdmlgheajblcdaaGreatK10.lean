/- Layer 10: known, of each type. -/
import Derived.Test.YtdmlgheajblcdaaGreatK09
import Derived.WalkKit
import Derived.ProofKit
import Derived.Handy
import Derived.WalkLawsBesides
import Derived.WalkSpells
import Derived.BigQuiet
import Derived.BigCall
import Derived.Deep.QuietTactic
import Derived.Deep.Light
import Derived.Deep.OwnRows
import Derived.Laws.AppendOwnNone
import Derived.Laws.Strings3
import Derived.Laws.RangeAny
import Derived.Deep.RegionWith
import Derived.Lib.BitFns
import Derived.Lib.Walk
import Derived.Lib.Strings
import Derived.Lib.OthersKept
import Derived.Deep.CutBlock
import Derived.Deep.DeepCutAuto
import Derived.Deep.LoopGhost
import Derived.Deep.RegionHeld3
import Derived.Lib.SmallJoins
import Derived.Maps.AppendAt
import Derived.Laws.IdiomStrings
import Derived.Lib.AppendZeros
import Derived.Deep.WholeRow
import Derived.Laws.BitsAllLaws
import Derived.Lib.ConvBytes
import Derived.Deep.RegionLaw
namespace Go.Proofs.YtdmlgheajblcdaaGreat
open Go.RowKit
set_option linter.unusedVariables false
set_option linter.unusedSimpArgs false
set_option maxRecDepth 20000
/-- a value, and memory of its own -/
def KP (v : Value) (w : World) (e : Ending) (w' : World) : Prop := e = .returned v ∧ Hid (Below w.heap.size w w')
theorem below_a (w : World) (o : Obj) : Below w.heap.size w (w.alloc o) := (Below.refl _ w).alloc (Nat.le_refl _) _
theorem known1 (x0 : Int) (x1 : ByteArray) (w : World) : Calls Tryz.prog 30 #[.iface 76 (.agg #[.int .i64 x0, .string x1])] w (KP (.iface 76 (.agg #[.int .i64 x0, .string x1])) w) := by
  have t1 := ty1
  have HB : Hid (∀ o, Below w.heap.size w (w.alloc o)) := below_a w
  go_enter Tryz.func30, Tryz.ntmps30
  go_wp2_with fail
  go_ret
  exact ⟨rfl, HB.out _⟩
theorem known2 (x0 : ByteArray) (x1 : Int) (x2 : Int) (x3 : Int) (x4 : ByteArray) (w : World) : Calls Tryz.prog 30 #[.iface 78 (.agg #[.string x0, .int .i64 x1, .int .i64 x2, .int .i64 x3, .string x4])] w (KP (.iface 78 (.agg #[.string x0, .int .i64 x1, .int .i64 x2, .int .i64 x3, .string x4])) w) := by
  have t1 := tn2_1
  have t2 := ty2
  have HB : Hid (∀ o, Below w.heap.size w (w.alloc o)) := below_a w
  go_enter Tryz.func30, Tryz.ntmps30
  go_wp2_with fail
  go_ret
  exact ⟨rfl, HB.out _⟩
theorem known3 (x0 : Int) (x1 : Int) (x2 : ByteArray) (x3 : Int) (x4 : Int) (x5 : Int) (x6a : Option Addr) (x6n x6c : Nat) (x7 : Int) (x8 : Int) (x9a : Option Addr) (x9n x9c : Nat) (w : World) : Calls Tryz.prog 30 #[.iface 80 (.agg #[.int .i64 x0, .int .i64 x1, .string x2, .int .i64 x3, .int .i64 x4, .int .i64 x5, .slice x6a x6n x6c, .int .i64 x7, .int .i64 x8, .slice x9a x9n x9c])] w (KP (.iface 80 (.agg #[.int .i64 x0, .int .i64 x1, .string x2, .int .i64 x3, .int .i64 x4, .int .i64 x5, .slice x6a x6n x6c, .int .i64 x7, .int .i64 x8, .slice x9a x9n x9c])) w) := by
  have t1 := tn3_1
  have t2 := tn3_2
  have t3 := ty3
  have HB : Hid (∀ o, Below w.heap.size w (w.alloc o)) := below_a w
  go_enter Tryz.func30, Tryz.ntmps30
  go_wp2_with fail
  go_ret
  exact ⟨rfl, HB.out _⟩
theorem known4 (x0a : Option Addr) (x0n x0c : Nat) (w : World) : Calls Tryz.prog 30 #[.iface 82 (.agg #[.slice x0a x0n x0c])] w (KP (.iface 82 (.agg #[.slice x0a x0n x0c])) w) := by
  have t1 := tn4_1
  have t2 := tn4_2
  have t3 := tn4_3
  have t4 := ty4
  have HB : Hid (∀ o, Below w.heap.size w (w.alloc o)) := below_a w
  go_enter Tryz.func30, Tryz.ntmps30
  go_wp2_with fail
  go_ret
  exact ⟨rfl, HB.out _⟩
theorem known5 (x0 : Int) (w : World) : Calls Tryz.prog 30 #[.iface 74 (.agg #[.int .i64 x0])] w (KP (.iface 74 (.agg #[.int .i64 x0])) w) := by
  have t1 := tn5_1
  have t2 := tn5_2
  have t3 := tn5_3
  have t4 := tn5_4
  have t5 := ty5
  have HB : Hid (∀ o, Below w.heap.size w (w.alloc o)) := below_a w
  go_enter Tryz.func30, Tryz.ntmps30
  go_wp2_with fail
  go_ret
  exact ⟨rfl, HB.out _⟩
theorem known6 (x0 : Int) (x1 : ByteArray) (x2 : Int) (w : World) : Calls Tryz.prog 30 #[.iface 84 (.agg #[.int .i64 x0, .string x1, .int .i64 x2])] w (KP (.iface 84 (.agg #[.int .i64 x0, .string x1, .int .i64 x2])) w) := by
  have t1 := tn6_1
  have t2 := tn6_2
  have t3 := tn6_3
  have t4 := tn6_4
  have t5 := tn6_5
  have t6 := ty6
  have HB : Hid (∀ o, Below w.heap.size w (w.alloc o)) := below_a w
  go_enter Tryz.func30, Tryz.ntmps30
  go_wp2_with fail
  go_ret
  exact ⟨rfl, HB.out _⟩
theorem known7 (x0 : Int) (x1 : ByteArray) (x2 : Int) (w : World) : Calls Tryz.prog 30 #[.iface 86 (.agg #[.int .i64 x0, .string x1, .int .i64 x2])] w (KP (.iface 86 (.agg #[.int .i64 x0, .string x1, .int .i64 x2])) w) := by
  have t1 := tn7_1
  have t2 := tn7_2
  have t3 := tn7_3
  have t4 := tn7_4
  have t5 := tn7_5
  have t6 := tn7_6
  have t7 := ty7
  have HB : Hid (∀ o, Below w.heap.size w (w.alloc o)) := below_a w
  go_enter Tryz.func30, Tryz.ntmps30
  go_wp2_with fail
  go_ret
  exact ⟨rfl, HB.out _⟩
theorem known8 (x0 : Int) (x1 : Int) (x2 : Int) (x3 : Int) (x4 : Int) (x5 : Int) (x6 : Int) (x7 : Int) (w : World) : Calls Tryz.prog 30 #[.iface 63 (.agg #[.int .i64 x0, .int .i64 x1, .int .i64 x2, .int .i64 x3, .int .i64 x4, .int .i64 x5, .int .i64 x6, .int .i64 x7])] w (KP (.iface 63 (.agg #[.int .i64 x0, .int .i64 x1, .int .i64 x2, .int .i64 x3, .int .i64 x4, .int .i64 x5, .int .i64 x6, .int .i64 x7])) w) := by
  have t1 := tn8_1
  have t2 := tn8_2
  have t3 := tn8_3
  have t4 := tn8_4
  have t5 := tn8_5
  have t6 := tn8_6
  have t7 := tn8_7
  have t8 := ty8
  have HB : Hid (∀ o, Below w.heap.size w (w.alloc o)) := below_a w
  go_enter Tryz.func30, Tryz.ntmps30
  go_wp2_with fail
  go_ret
  exact ⟨rfl, HB.out _⟩
theorem known9 (x0 : Int) (x1 : Int) (w : World) : Calls Tryz.prog 30 #[.iface 88 (.agg #[.int .i64 x0, .int .i64 x1])] w (KP (.iface 88 (.agg #[.int .i64 x0, .int .i64 x1])) w) := by
  have t1 := tn9_1
  have t2 := tn9_2
  have t3 := tn9_3
  have t4 := tn9_4
  have t5 := tn9_5
  have t6 := tn9_6
  have t7 := tn9_7
  have t8 := tn9_8
  have t9 := ty9
  have HB : Hid (∀ o, Below w.heap.size w (w.alloc o)) := below_a w
  go_enter Tryz.func30, Tryz.ntmps30
  go_wp2_with fail
  go_ret
  exact ⟨rfl, HB.out _⟩
theorem known10 (x0 : Int) (x1 : Int) (x2 : Int) (w : World) : Calls Tryz.prog 30 #[.iface 90 (.agg #[.int .i64 x0, .int .i64 x1, .int .i64 x2])] w (KP (.iface 90 (.agg #[.int .i64 x0, .int .i64 x1, .int .i64 x2])) w) := by
  have t1 := tn10_1
  have t2 := tn10_2
  have t3 := tn10_3
  have t4 := tn10_4
  have t5 := tn10_5
  have t6 := tn10_6
  have t7 := tn10_7
  have t8 := tn10_8
  have t9 := tn10_9
  have t10 := ty10
  have HB : Hid (∀ o, Below w.heap.size w (w.alloc o)) := below_a w
  go_enter Tryz.func30, Tryz.ntmps30
  go_wp2_with fail
  go_ret
  exact ⟨rfl, HB.out _⟩
theorem known11 (x0 : Int) (x1 : Int) (x2 : ByteArray) (x3 : Int) (x4a : Option Addr) (x4n x4c : Nat) (w : World) : Calls Tryz.prog 30 #[.iface 67 (.agg #[.int .i64 x0, .int .i64 x1, .string x2, .int .i64 x3, .slice x4a x4n x4c])] w (KP (.iface 67 (.agg #[.int .i64 x0, .int .i64 x1, .string x2, .int .i64 x3, .slice x4a x4n x4c])) w) := by
  have t1 := tn11_1
  have t2 := tn11_2
  have t3 := tn11_3
  have t4 := tn11_4
  have t5 := tn11_5
  have t6 := tn11_6
  have t7 := tn11_7
  have t8 := tn11_8
  have t9 := tn11_9
  have t10 := tn11_10
  have t11 := ty11
  have HB : Hid (∀ o, Below w.heap.size w (w.alloc o)) := below_a w
  go_enter Tryz.func30, Tryz.ntmps30
  go_wp2_with fail
  go_ret
  exact ⟨rfl, HB.out _⟩
theorem known12 (x0 : Int) (x1 : Int) (x2 : Bool) (w : World) : Calls Tryz.prog 30 #[.iface 92 (.agg #[.int .i64 x0, .int .i64 x1, .bool x2])] w (KP (.iface 92 (.agg #[.int .i64 x0, .int .i64 x1, .bool x2])) w) := by
  have t1 := tn12_1
  have t2 := tn12_2
  have t3 := tn12_3
  have t4 := tn12_4
  have t5 := tn12_5
  have t6 := tn12_6
  have t7 := tn12_7
  have t8 := tn12_8
  have t9 := tn12_9
  have t10 := tn12_10
  have t11 := tn12_11
  have t12 := ty12
  have HB : Hid (∀ o, Below w.heap.size w (w.alloc o)) := below_a w
  go_enter Tryz.func30, Tryz.ntmps30
  go_wp2_with fail
  go_ret
  exact ⟨rfl, HB.out _⟩
theorem known13 (x0 : Int) (w : World) : Calls Tryz.prog 30 #[.iface 94 (.agg #[.int .i64 x0])] w (KP (.iface 94 (.agg #[.int .i64 x0])) w) := by
  have t1 := tn13_1
  have t2 := tn13_2
  have t3 := tn13_3
  have t4 := tn13_4
  have t5 := tn13_5
  have t6 := tn13_6
  have t7 := tn13_7
  have t8 := tn13_8
  have t9 := tn13_9
  have t10 := tn13_10
  have t11 := tn13_11
  have t12 := tn13_12
  have t13 := ty13
  have HB : Hid (∀ o, Below w.heap.size w (w.alloc o)) := below_a w
  go_enter Tryz.func30, Tryz.ntmps30
  go_wp2_with fail
  go_ret
  exact ⟨rfl, HB.out _⟩
theorem known14 (x0 : Int) (x1 : Int) (w : World) : Calls Tryz.prog 30 #[.iface 96 (.agg #[.int .i64 x0, .int .i64 x1])] w (KP (.iface 96 (.agg #[.int .i64 x0, .int .i64 x1])) w) := by
  have t1 := tn14_1
  have t2 := tn14_2
  have t3 := tn14_3
  have t4 := tn14_4
  have t5 := tn14_5
  have t6 := tn14_6
  have t7 := tn14_7
  have t8 := tn14_8
  have t9 := tn14_9
  have t10 := tn14_10
  have t11 := tn14_11
  have t12 := tn14_12
  have t13 := tn14_13
  have t14 := ty14
  have HB : Hid (∀ o, Below w.heap.size w (w.alloc o)) := below_a w
  go_enter Tryz.func30, Tryz.ntmps30
  go_wp2_with fail
  go_ret
  exact ⟨rfl, HB.out _⟩
theorem known15 (x0 : Int) (x1 : Int) (x2 : Int) (w : World) : Calls Tryz.prog 30 #[.iface 98 (.agg #[.int .i64 x0, .int .i64 x1, .int .i64 x2])] w (KP (.iface 98 (.agg #[.int .i64 x0, .int .i64 x1, .int .i64 x2])) w) := by
  have t1 := tn15_1
  have t2 := tn15_2
  have t3 := tn15_3
  have t4 := tn15_4
  have t5 := tn15_5
  have t6 := tn15_6
  have t7 := tn15_7
  have t8 := tn15_8
  have t9 := tn15_9
  have t10 := tn15_10
  have t11 := tn15_11
  have t12 := tn15_12
  have t13 := tn15_13
  have t14 := tn15_14
  have t15 := ty15
  have HB : Hid (∀ o, Below w.heap.size w (w.alloc o)) := below_a w
  go_enter Tryz.func30, Tryz.ntmps30
  go_wp2_with fail
  go_ret
  exact ⟨rfl, HB.out _⟩
theorem known0 (w : World) : Calls Tryz.prog 30 #[.nilIface] w (KP .nilIface w) := by
  have t1 := tz1
  have t2 := tz2
  have t3 := tz3
  have t4 := tz4
  have t5 := tz5
  have t6 := tz6
  have t7 := tz7
  have t8 := tz8
  have t9 := tz9
  have t10 := tz10
  have t11 := tz11
  have t12 := tz12
  have t13 := tz13
  have t14 := tz14
  have t15 := tz15
  go_enter Tryz.func30, Tryz.ntmps30
  go_wp2_with fail
  go_ret
  exact ⟨rfl, Below.refl _ _⟩
end Go.Proofs.YtdmlgheajblcdaaGreat

/- Layer 10: lists in memory; haircuts and barred ones, by the program and by the reference. -/
namespace Go.Proofs.YtdmlgheajblcdaaGreat
open Go.RowKit
set_option linter.unusedVariables false
set_option linter.unusedSimpArgs false
set_option maxRecDepth 20000
def Cts (B : Nat) (w : World) (a : Option Addr) (xs : List Ct) : Prop := 0 < xs.length → ∃ b off, a = some ⟨b, off, none⟩ ∧ b < B ∧ ∀ j (h : j < xs.length), w.cell? ⟨b, off + j * 3, none⟩ = some (.int .i64 xs[j].d) ∧ w.cell? ⟨b, off + j * 3 + 1, none⟩ = some (.int .i64 xs[j].r) ∧ w.cell? ⟨b, off + j * 3 + 2, none⟩ = some (.int .i64 xs[j].c)
def Lts (B : Nat) (w : World) (a : Option Addr) (xs : List Lt) : Prop := 0 < xs.length → ∃ b off, a = some ⟨b, off, none⟩ ∧ b < B ∧ ∀ j (h : j < xs.length), w.cell? ⟨b, off + j * 2, none⟩ = some (.string ⟨xs[j].i.toArray⟩) ∧ w.cell? ⟨b, off + j * 2 + 1, none⟩ = some (.int .i64 xs[j].q)
theorem Cts.keep {B : Nat} {w w' : World} {a : Option Addr} {xs : List Ct} (h : Cts B w a xs) (hb : Below B w w') : Cts B w' a xs := fun h0 => by
  obtain ⟨b, off, rfl, hB, hc⟩ := h h0
  exact ⟨b, off, rfl, hB, fun j hj => ⟨(hb.cell (by exact hB)).trans (hc j hj).1, (hb.cell (by exact hB)).trans (hc j hj).2.1, (hb.cell (by exact hB)).trans (hc j hj).2.2⟩⟩
theorem Cts.mono {B C : Nat} {w : World} {a : Option Addr} {xs : List Ct} (h : Cts B w a xs) (hb : B ≤ C) : Cts C w a xs := fun h0 => by
  obtain ⟨b, off, rfl, hB, hc⟩ := h h0
  exact ⟨b, off, rfl, Nat.lt_of_lt_of_le hB hb, hc⟩
theorem Lts.keep {B : Nat} {w w' : World} {a : Option Addr} {xs : List Lt} (h : Lts B w a xs) (hb : Below B w w') : Lts B w' a xs := fun h0 => by
  obtain ⟨b, off, rfl, hB, hc⟩ := h h0
  exact ⟨b, off, rfl, hB, fun j hj => ⟨(hb.cell (by exact hB)).trans (hc j hj).1, (hb.cell (by exact hB)).trans (hc j hj).2⟩⟩
theorem Lts.mono {B C : Nat} {w : World} {a : Option Addr} {xs : List Lt} (h : Lts B w a xs) (hb : B ≤ C) : Lts C w a xs := fun h0 => by
  obtain ⟨b, off, rfl, hB, hc⟩ := h h0
  exact ⟨b, off, rfl, Nat.lt_of_lt_of_le hB hb, hc⟩
theorem KP.mk {v u : Value} {w w' : World} (h : u = v) (hb : Below w.heap.size w w') : KP v w (.returned u) w' := ⟨by rw [h], hb⟩
theorem drop_at' {α : Type} {l : List α} {k : Nat} (h : k < l.length) : l.drop k = l[k] :: l.drop (k + 1) := List.drop_eq_getElem_cons h
theorem all_at {α : Type} {p : α → Bool} {l : List α} {k : Nat} (h : k < l.length) : (l.drop k).all p = (p l[k] && (l.drop (k + 1)).all p) := by
  rw [drop_at' h, List.all_cons]
set_option maxHeartbeats 4000000 in
theorem xcuts (xs : List Ct) (a : Option Addr) (cap : Nat) (w : World) (hC : Cts w.heap.size w a xs) (hl : xs.length ≤ 9223372036854775807) (g : Bool) (hg : xs.all cutB = g) : Calls Tryz.prog 43 #[.slice a xs.length cap] w (KP (.bool g) w) := by
  have HI : Hid (Cts w.heap.size w a xs) := hC
  have HG : Hid (xs.all cutB = g) := hg
  clear hC hg
  go_enter Tryz.func43, Tryz.ntmps43
  go_wp2_with fail
  go_loopw [7] (fun i wr => ∃ (k : Nat), i = .int .i64 k ∧ k ≤ xs.length ∧ Hid ((xs.drop k).all cutB = g) ∧ Hid (Below w.heap.size w wr)) (fun i _ => xs.length - (Lib.intOf i).toNat)
  case atStart => exact ⟨0, rfl, Nat.zero_le _, HG, Below.refl _ _⟩
  case round =>
    obtain ⟨k, rfl, hk, HK, HB⟩ := hrel
    by_cases hkn : k < xs.length
    · have hkz : (k : Int) < (xs.length : Int) := by omega
      obtain ⟨b, off, rfl, hbl, hce⟩ := HI.out (by omega)
      obtain ⟨h1, h2, h3⟩ := hce k hkn
      have hc1 : wr.cell? ⟨b, off + k * 3, none⟩ = some (.int .i64 xs[k].d) := (HB.out.cell (by exact hbl)).trans h1
      have hc2 : wr.cell? ⟨b, off + k * 3 + 1, none⟩ = some (.int .i64 xs[k].r) := (HB.out.cell (by exact hbl)).trans h2
      have hc3 : wr.cell? ⟨b, off + k * 3 + 2, none⟩ = some (.int .i64 xs[k].c) := (HB.out.cell (by exact hbl)).trans h3
      have HK2 : Hid ((cutB xs[k] && (xs.drop (k + 1)).all cutB) = g) := by unfold Hid; rw [← all_at hkn]; exact HK.out
      have HB2 : Hid (∀ o, Below w.heap.size w (wr.alloc o)) := fun o => HB.out.alloc HB.out.size _
      clear hce h1 h2 h3 HK
      unfold cutB at HK2
      generalize xs[k].d = d at *
      generalize xs[k].r = r at *
      generalize xs[k].c = c at *
      by_cases e1 : inn d 0 200000 = true
      · by_cases e2 : inn r 0 20 = true
        · by_cases e3 : inn c 0 999999 = true
          · have HK3 : Hid ((xs.drop (k + 1)).all cutB = g) := by have := HK2.out; rw [e1, e2, e3] at this; exact this
            clear HK2
            go_wp2_with (first | (go_at_call 39; refine (xwithin _ _ _ _ (by first | exact e1 | exact e3) _).mono ?_; rintro e w2 ⟨rfl, rfl⟩) | (go_at_call 41; refine (xrating _ _ e2 _).mono ?_; rintro e w2 ⟨rfl, rfl⟩))
            exact ⟨⟨k + 1, by go_num, by omega, HK3, HB2.out _⟩, by simp [Lib.intOf]; omega⟩
          · have e3 : inn c 0 999999 = false := by simpa using e3
            have HK3 : Hid (false = g) := by have := HK2.out; rw [e1, e2, e3] at this; exact this
            clear HK2
            go_wp2_with (first | (go_at_call 39; refine (xwithin _ _ _ _ (by first | exact e1 | exact e3) _).mono ?_; rintro e w2 ⟨rfl, rfl⟩) | (go_at_call 41; refine (xrating _ _ e2 _).mono ?_; rintro e w2 ⟨rfl, rfl⟩))
            go_ret
            exact KP.mk (congrArg Value.bool HK3.out) (HB2.out _)
        · have e2 : inn r 0 20 = false := by simpa using e2
          have HK3 : Hid (false = g) := by have := HK2.out; rw [e1, e2] at this; exact this
          clear HK2
          go_wp2_with (first | (go_at_call 39; refine (xwithin _ _ _ _ e1 _).mono ?_; rintro e w2 ⟨rfl, rfl⟩) | (go_at_call 41; refine (xrating _ _ e2 _).mono ?_; rintro e w2 ⟨rfl, rfl⟩))
          go_ret
          exact KP.mk (congrArg Value.bool HK3.out) (HB2.out _)
      · have e1 : inn d 0 200000 = false := by simpa using e1
        have HK3 : Hid (false = g) := by have := HK2.out; rw [e1] at this; exact this
        clear HK2
        go_wp2_with (go_at_call 39; refine (xwithin _ _ _ _ e1 _).mono ?_; rintro e w2 ⟨rfl, rfl⟩)
        go_ret
        exact KP.mk (congrArg Value.bool HK3.out) (HB2.out _)
    · have hkz : ¬ (k : Int) < (xs.length : Int) := by omega
      have HK3 : Hid (true = g) := by have := HK.out; rw [List.drop_of_length_le (by omega)] at this; exact this
      go_wp2_with fail
      go_ret
      exact KP.mk (congrArg Value.bool HK3.out) HB.out
end Go.Proofs.YtdmlgheajblcdaaGreat

/- Layer 10: barred ones, by the program. -/
namespace Go.Proofs.YtdmlgheajblcdaaGreat
open Go.RowKit
set_option linter.unusedVariables false
set_option linter.unusedSimpArgs false
set_option maxRecDepth 20000
/-- the one ahead -/
def ah {α : Type} (xs : List α) : Nat → Option α
  | 0 => none
  | k + 1 => xs[k]?
theorem barB_at {xs : List Int} {k : Nat} (h : k < xs.length) : barB (ah xs k) (xs.drop k) = (inn xs[k] 0 9999 && (baGo (ah xs k) xs[k] && barB (ah xs (k + 1)) (xs.drop (k + 1)))) := by
  rw [drop_at' h]
  show (_ && (_ && barB (some xs[k]) _)) = _
  rw [show ah xs (k + 1) = some xs[k] from List.getElem?_eq_getElem h]
set_option maxHeartbeats 4000000 in
theorem xbarred (xs : List Int) (a : Option Addr) (cap : Nat) (w : World) (hC : Ins w.heap.size w a xs) (hl : xs.length ≤ 9223372036854775807) (g : Bool) (hg : barB none xs = g) : Calls Tryz.prog 44 #[.slice a xs.length cap] w (KP (.bool g) w) := by
  have HI : Hid (Ins w.heap.size w a xs) := hC
  have HG : Hid (barB (ah xs 0) (xs.drop 0) = g) := hg
  clear hC hg
  go_enter Tryz.func44, Tryz.ntmps44
  go_wp2_with fail
  go_loopw [7] (fun i wr => ∃ (k : Nat), i = .int .i64 k ∧ k ≤ xs.length ∧ Hid (barB (ah xs k) (xs.drop k) = g) ∧ wr = w) (fun i _ => xs.length - (Lib.intOf i).toNat)
  case atStart => exact ⟨0, rfl, Nat.zero_le _, HG, rfl⟩
  case round =>
    clear HG
    obtain ⟨k, rfl, hk, HK, rfl⟩ := hrel
    by_cases hkn : k < xs.length
    · have hkz : (k : Int) < (xs.length : Int) := by omega
      obtain ⟨b, off, rfl, hbl, hce⟩ := HI.out (by omega)
      have HK2 : Hid ((inn xs[k] 0 9999 && (baGo (ah xs k) xs[k] && barB (ah xs (k + 1)) (xs.drop (k + 1)))) = g) := by unfold Hid; rw [← barB_at hkn]; exact HK.out
      have hc1 := hce k hkn
      clear HK
      by_cases e1 : inn xs[k] 0 9999 = true
      · cases k with
        | zero =>
          have HK3 : Hid (barB (ah xs 1) (xs.drop 1) = g) := by have := HK2.out; rw [e1] at this; exact this
          clear HK2 hce
          have hc0 : wr.cell? ⟨b, off, none⟩ = some (.int .i64 xs[0]) := hc1
          generalize xs[0] = n at *
          go_wp2_with (go_at_call 39; refine (xwithin _ _ _ _ e1 _).mono ?_; rintro e w2 ⟨rfl, rfl⟩)
          exact ⟨⟨1, by go_num, by omega, HK3, trivial⟩, by simp [Lib.intOf]; omega⟩
        | succ j =>
          have hc2 : wr.cell? ⟨b, off + j, none⟩ = some (.int .i64 xs[j]) := hce j (by omega)
          have hp : ah xs (j + 1) = some xs[j] := List.getElem?_eq_getElem _
          have HK3 : Hid ((decide (xs[j] < xs[j + 1]) && barB (ah xs (j + 1 + 1)) (xs.drop (j + 1 + 1))) = g) := by have := HK2.out; rw [e1, hp] at this; exact this
          clear HK2 hce hp
          generalize xs[j + 1] = n at *
          generalize xs[j] = m at *
          by_cases e2 : n ≤ m
          · have HK4 : Hid (false = g) := by have := HK3.out; rw [decide_eq_false (by omega)] at this; exact this
            clear HK3
            go_wp2_with (go_at_call 39; refine (xwithin _ _ _ _ e1 _).mono ?_; rintro e w2 ⟨rfl, rfl⟩)
            go_ret
            exact KP.mk (congrArg Value.bool HK4.out) (Below.refl _ _)
          · have HK4 : Hid (barB (ah xs (j + 1 + 1)) (xs.drop (j + 1 + 1)) = g) := by have := HK3.out; rw [decide_eq_true (by omega)] at this; exact this
            clear HK3
            go_wp2_with (go_at_call 39; refine (xwithin _ _ _ _ e1 _).mono ?_; rintro e w2 ⟨rfl, rfl⟩)
            exact ⟨⟨j + 1 + 1, by go_num, by omega, HK4, trivial⟩, by simp [Lib.intOf]; omega⟩
      · have e1 : inn xs[k] 0 9999 = false := by simpa using e1
        have HK3 : Hid (false = g) := by have := HK2.out; rw [e1] at this; exact this
        clear HK2
        have hc0 : k = 0 → wr.cell? ⟨b, off, none⟩ = some (.int .i64 xs[k]) := by rintro rfl; exact hc1
        clear hce
        generalize xs[k] = n at *
        go_wp2_with (go_at_call 39; refine (xwithin _ _ _ _ e1 _).mono ?_; rintro e w2 ⟨rfl, rfl⟩)
        go_ret
        exact KP.mk (congrArg Value.bool HK3.out) (Below.refl _ _)
    · have hkz : ¬ (k : Int) < (xs.length : Int) := by omega
      have HK3 : Hid (true = g) := by have := HK.out; rw [List.drop_of_length_le (by omega)] at this; exact this
      go_wp2_with fail
      go_ret
      exact KP.mk (congrArg Value.bool HK3.out) (Below.refl _ _)
end Go.Proofs.YtdmlgheajblcdaaGreat

/- Layer 10: Roll, from end to end. -/
namespace Go.Proofs.YtdmlgheajblcdaaGreat
open Go.RowKit
set_option linter.unusedVariables false
set_option linter.unusedSimpArgs false
set_option maxRecDepth 20000
theorem bt {w w1 w2 : World} (h : Below w.heap.size w w1) (k : Below w1.heap.size w1 w2) : Below w.heap.size w w2 := h.trans (k.mono h.size)
theorem check5 (d : Int) (g : Bool) (h : inn d 0 200000 = g) (w : World) : Calls Tryz.prog 161 #[.agg #[.int .i64 d]] w (KP (.int .i64 (if g then (0 : Nat) else 10 : Nat)) w) := by
  have HB : Hid (Below w.heap.size w (w.alloc (.cells #[.int .i64 d] 74))) := below_a w _
  have HC : Hid (∀ w, Calls Tryz.prog 163 #[.int .i64 d] w (NP .i64 (if g then (0 : Nat) else 10 : Nat) w)) := fun w => xday d g h w
  generalize (if g then (0 : Nat) else 10 : Nat) = n at *
  go_enter Tryz.func161, Tryz.ntmps161
  go_wp2_with (go_at_call 163; refine (HC.out _).mono ?_; rintro e w2 ⟨rfl, rfl⟩)
  go_ret
  exact KP.mk rfl HB.out
theorem Check5 (d : Int) (g : Bool) (h : inn d 0 200000 = g) (w : World) : Calls Tryz.prog 12 #[.iface 74 (.agg #[.int .i64 d])] w (KP (.int .i64 (if g then (0 : Nat) else 10 : Nat)) w) := by
  have HC : Hid (∀ w, Calls Tryz.prog 161 #[.agg #[.int .i64 d]] w (KP (.int .i64 (if g then (0 : Nat) else 10 : Nat)) w)) := fun w => check5 d g h w
  generalize (if g then (0 : Nat) else 10 : Nat) = n at *
  go_enter Tryz.func12, Tryz.ntmps12
  go_wp2_with fail
  refine (known5 d _).mono ?_
  rintro e w2 ⟨rfl, hb⟩
  go_wp2_with fail
  refine (HC.out _).mono ?_
  rintro e w3 ⟨rfl, hb3⟩
  have HB : Hid (Below w.heap.size w w3) := bt hb.out hb3.out
  clear hb hb3
  go_wp2_with fail
  go_ret
  exact KP.mk rfl HB.out
/-- a block of a type, whole -/
def Bx (w : World) (b : Nat) (cs : Array Value) (T : Nat) : Prop := w.heap[b]? = some (.cells cs T (0, 0))
theorem Bx.new (w : World) (cs : Array Value) (T : Nat) : Bx (w.alloc (.cells cs T)) w.heap.size cs T := heap_alloc_new w _
theorem Bx.cell {w : World} {b : Nat} {cs : Array Value} {T : Nat} (h : Bx w b cs T) (j : Nat) : w.cell? ⟨b, j, none⟩ = cs[j]? := cell_of_row w b j _ T (0, 0) h
theorem Bx.lt {w : World} {b : Nat} {cs : Array Value} {T : Nat} (h : Bx w b cs T) : b < w.heap.size := (Array.getElem?_eq_some_iff.1 h).1
theorem Bx.keep {w w' : World} {b : Nat} {cs : Array Value} {T : Nat} (h : Bx w b cs T) (hb : Below w.heap.size w w') : Bx w' b cs T := (hb.block b h.lt).trans h
theorem Bx.drewN {w : World} {b : Nat} {cs : Array Value} {T : Nat} (h : Bx w b cs T) (n : Nat) : Bx (w.drewN n) b cs T := h
theorem Bx.bw {B p : Nat} {w w' : World} {b : Nat} {cs : Array Value} {T : Nat} (h : Bx w b cs T) (k : Bw B p w w') (hT : T ≠ 5) (hp : b ≠ p) : Bx w' b cs T := k.2 b cs T h hT hp
theorem Bw.drewN {B p : Nat} {w w' : World} (h : Bw B p w w') (n : Nat) : Bw B p w (w'.drewN n) := ⟨⟨h.1.os, h.1.tape, h.1.output, h.1.size, h.1.block⟩, h.2⟩
theorem write5 (B p : Nat) (v : Value) (l : List UInt8) (d : Int) (hd : I64 d) (w : World) (h : Wm B w p v l) (hl : l.length ≤ 1000000000) : Calls Tryz.prog 162 #[.agg #[.int .i64 d], .pointer (some ⟨p, 0, none⟩)] w (WP B p (l ++ intL d) w) := by
  have HW : Hid (Wm B (w.alloc (.cells #[.int .i64 d] 74)) p v l) := h.alloc _
  have HB : Hid (Bw B p w (w.alloc (.cells #[.int .i64 d] 74))) := (Bw.refl B p w).alloc h.bw _
  have HX : Hid (Bx (w.alloc (.cells #[.int .i64 d] 74)) w.heap.size #[.int .i64 d] 74) := Bx.new _ _ _
  have hbp : w.heap.size ≠ p := Nat.ne_of_gt h.lt
  clear h
  go_enter Tryz.func162, Tryz.ntmps162
  go_wp2_with fail
  generalize w.alloc (.cells #[.int .i64 d] 74) = w1 at *
  generalize w.heap.size = b at *
  have c0 : w1.cell? ⟨b, 0, none⟩ = some (.int .i64 d) := HX.out.cell 0
  have HKP : Hid (∀ (n : Nat) (w5 : World), Bw B p (w1.drewN n) w5 → w5.cell? ⟨b, 0, none⟩ = some (.int .i64 d)) := fun n w5 k => ((HX.out.drewN n).bw k (by decide) hbp).cell 0
  go_region_held3 (fun w' => w'.cell? ⟨b, 0, none⟩ = some (.int .i64 d)) (first | go_keep | exact HKP.out _ _ HB5.out) (first | (go_at_call 47; go_must (refine (wint B p v l d hd _ (HW.out.drewN _) (by omega)).mono ?_; rintro e w5 ⟨rfl, v5, HW5, HB5⟩)))
  have HB6 : Hid (Bw B p w w5) := (HB.out.drewN _).trans HB5.out
  clear HB5 HB HW
  go_wp2_with fail
  go_returns
  exact ⟨rfl, v5, HW5, HB6⟩
theorem Wm.new (w : World) : Wm w.heap.size (w.alloc (.cells #[.slice none 0 0] 117)) w.heap.size (.slice none 0 0) [] := ⟨Nat.le_refl _, heap_alloc_new w _, ⟨rfl, .inl ⟨rfl, rfl⟩⟩⟩
theorem ex_int : ([] ++ intL 5) ++ intL 7 = [10, 14] := by decide
end Go.Proofs.YtdmlgheajblcdaaGreat
