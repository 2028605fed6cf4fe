/- Layer 10: what is wrong with a message, and who sends it, by the reference. -/
import Derived.Test.YtdmlgheajblcdaaGreatMY
import Derived.Test.YtdmlgheajblcdaaGreatMW
import Derived.Test.YtdmlgheajblcdaaGreatMU
import Derived.Test.YtdmlgheajblcdaaGreatMT
import Derived.WalkKit
import Derived.ProofKit
import Derived.Handy
import Derived.WalkLawsBesides
import Derived.WalkSpells
import Derived.BigQuiet
import Derived.BigCall
import Derived.Deep.QuietTactic
import Derived.Deep.Light
import Derived.Deep.OwnRows
import Derived.Laws.AppendOwnNone
import Derived.Laws.Strings3
import Derived.Laws.RangeAny
import Derived.Deep.RegionWith
import Derived.Lib.BitFns
import Derived.Lib.Walk
import Derived.Lib.Strings
import Derived.Lib.OthersKept
import Derived.Deep.CutBlock
import Derived.Deep.DeepCutAuto
import Derived.Deep.LoopGhost
import Derived.Deep.RegionHeld3
import Derived.Lib.SmallJoins
import Derived.Maps.AppendAt
import Derived.Laws.IdiomStrings
import Derived.Lib.AppendZeros
import Derived.Deep.WholeRow
import Derived.Laws.BitsAllLaws
import Derived.Lib.ConvBytes
import Derived.Deep.RegionLaw
namespace Go.Proofs.YtdmlgheajblcdaaGreat
open Go.RowKit
set_option linter.unusedVariables false
set_option linter.unusedSimpArgs false
set_option maxRecDepth 20000
set_option maxHeartbeats 4000000 in
theorem rest1 (m : Mg) (pa ia ca ba : Option Addr) (pc ic cc bc : Nat) (hk : m.k = 1) (w : World) (hs : m.name.length ≤ 9223372036854775807) (g : Nat) (hg : (C0.nm m.name) = g) : Calls Tryz.prog 37 #[.agg (mcs m pa ia ca ba pc ic cc bc)] w (KP (.int .i64 g) w) := by
  have HG : Hid ((C0.nm m.name) = g) := hg
  clear hg
  have HC : Hid (∀ w, Calls Tryz.prog 72 #[.string ⟨m.name.toArray⟩] w (TB (N4.chk m.name).1 (C0.nm m.name) w)) := fun w => rname m.name hs _ rfl w
  generalize C0.nm m.name = dd at *
  have HX0 : Hid (Bx (w.alloc (.cells (mcs m pa ia ca ba pc ic cc bc) 35)) w.heap.size (mcs m pa ia ca ba pc ic cc bc) 35) := Bx.new _ _ _
  have HB0 : Hid (Below w.heap.size w (w.alloc (.cells (mcs m pa ia ca ba pc ic cc bc) 35))) := below_a w _
  have hsz : (mcs m pa ia ca ba pc ic cc bc).size = 36 := mcs_size m pa ia ca ba pc ic cc bc
  go_enter Tryz.func37, Tryz.ntmps37
  go_upto_region 1 with fail
  generalize hw1 : w.alloc (.cells (mcs m pa ia ca ba pc ic cc bc) 35) = w1 at *
  have HX : Hid (Bx w1 w.heap.size (mcs m pa ia ca ba pc ic cc bc) 35) := HX0.out
  have HB : Hid (Below w.heap.size w w1) := HB0.out
  have HLD : Hid ((Instr.loadAt 35 (.pointer (some ⟨w.heap.size, 0, none⟩))).run Tryz.prog w1 = .ok (.agg (mcs m pa ia ca ba pc ic cc bc)) w1) := hloadAt w1 w.heap.size (mcs m pa ia ca ba pc ic cc bc) (mcs_size m pa ia ca ba pc ic cc bc) HX.out
  clear HX0 HB0 hw1
  have c0 : w1.cell? ⟨w.heap.size, 0, none⟩ = some (.int .i64 1) := by rw [← hk]; exact HX.out.cell 0
  have c2 : w1.cell? ⟨w.heap.size, 2, none⟩ = some (.string ⟨m.name.toArray⟩) := HX.out.cell 2
  have HG2 : Hid (dd = g) := by have := HG.out; exact this
  clear HG
  go_wp2_with fail
  refine (HC.out _).mono ?_
  rintro e w2 ⟨rfl, hb⟩
  have HB2 : Hid (Below w.heap.size w w2) := bt HB.out hb.out
  clear hb
  go_wp2_with fail
  go_ret
  exact KP.mk (by rw [← HG2.out]; rfl) HB2.out
set_option maxHeartbeats 4000000 in
theorem rest6 (m : Mg) (pa ia ca ba : Option Addr) (pc ic cc bc : Nat) (hk : m.k = 6) (w : World)  (g : Nat) (hg : (if sgn m.n = true then 0 else 1) = g) : Calls Tryz.prog 37 #[.agg (mcs m pa ia ca ba pc ic cc bc)] w (KP (.int .i64 g) w) := by
  have HG : Hid ((if sgn m.n = true then 0 else 1) = g) := hg
  clear hg
  have HX0 : Hid (Bx (w.alloc (.cells (mcs m pa ia ca ba pc ic cc bc) 35)) w.heap.size (mcs m pa ia ca ba pc ic cc bc) 35) := Bx.new _ _ _
  have HB0 : Hid (Below w.heap.size w (w.alloc (.cells (mcs m pa ia ca ba pc ic cc bc) 35))) := below_a w _
  have hsz : (mcs m pa ia ca ba pc ic cc bc).size = 36 := mcs_size m pa ia ca ba pc ic cc bc
  go_enter Tryz.func37, Tryz.ntmps37
  go_upto_region 1 with fail
  generalize hw1 : w.alloc (.cells (mcs m pa ia ca ba pc ic cc bc) 35) = w1 at *
  have HX : Hid (Bx w1 w.heap.size (mcs m pa ia ca ba pc ic cc bc) 35) := HX0.out
  have HB : Hid (Below w.heap.size w w1) := HB0.out
  have HLD : Hid ((Instr.loadAt 35 (.pointer (some ⟨w.heap.size, 0, none⟩))).run Tryz.prog w1 = .ok (.agg (mcs m pa ia ca ba pc ic cc bc)) w1) := hloadAt w1 w.heap.size (mcs m pa ia ca ba pc ic cc bc) (mcs_size m pa ia ca ba pc ic cc bc) HX.out
  clear HX0 HB0 hw1
  have c0 : w1.cell? ⟨w.heap.size, 0, none⟩ = some (.int .i64 6) := by rw [← hk]; exact HX.out.cell 0
  have c21 : w1.cell? ⟨w.heap.size, 21, none⟩ = some (.int .i64 m.n) := HX.out.cell 21
  have c33 : w1.cell? ⟨w.heap.size, 33, none⟩ = some (.int .i64 m.tr) := HX.out.cell 33
  have c35 : w1.cell? ⟨w.heap.size, 35, none⟩ = some (.int .i64 m.rate) := HX.out.cell 35
  by_cases e2 : sgn m.n = true
  · have HG2 : Hid (0 = g) := by have := HG.out; rw [if_pos e2] at this; exact this
    clear HG
    go_wp2_with (first | (go_at_call 73; refine (rsigned _ _ (by first | exact e2) _).mono ?_; rintro e w2 ⟨rfl, rfl⟩))
    go_ret
    exact KP.mk (by rw [← HG2.out]; rfl) HB.out
  · have e2 : sgn m.n = false := by simpa using e2
    have HG2 : Hid (1 = g) := by have := HG.out; rw [if_neg (ff e2)] at this; exact this
    clear HG
    go_wp2_with (first | (go_at_call 73; refine (rsigned _ _ (by first | exact e2) _).mono ?_; rintro e w2 ⟨rfl, rfl⟩))
    go_ret
    exact KP.mk (by rw [← HG2.out]; rfl) HB.out
set_option maxHeartbeats 4000000 in
theorem rest7 (m : Mg) (pa ia ca ba : Option Addr) (pc ic cc bc : Nat) (hk : m.k = 7) (w : World)  (g : Nat) (hg : (if sgn m.n = true then C0.is m.t else 1) = g) : Calls Tryz.prog 37 #[.agg (mcs m pa ia ca ba pc ic cc bc)] w (KP (.int .i64 g) w) := by
  have HG : Hid ((if sgn m.n = true then C0.is m.t else 1) = g) := hg
  clear hg
  have HC : Hid (∀ w, Calls Tryz.prog 70 #[.string ⟨m.t.toArray⟩] w (NB (C0.is m.t : Nat) w)) := fun w => risin m.t _ rfl w
  generalize C0.is m.t = dd at *
  have HX0 : Hid (Bx (w.alloc (.cells (mcs m pa ia ca ba pc ic cc bc) 35)) w.heap.size (mcs m pa ia ca ba pc ic cc bc) 35) := Bx.new _ _ _
  have HB0 : Hid (Below w.heap.size w (w.alloc (.cells (mcs m pa ia ca ba pc ic cc bc) 35))) := below_a w _
  have hsz : (mcs m pa ia ca ba pc ic cc bc).size = 36 := mcs_size m pa ia ca ba pc ic cc bc
  go_enter Tryz.func37, Tryz.ntmps37
  go_upto_region 1 with fail
  generalize hw1 : w.alloc (.cells (mcs m pa ia ca ba pc ic cc bc) 35) = w1 at *
  have HX : Hid (Bx w1 w.heap.size (mcs m pa ia ca ba pc ic cc bc) 35) := HX0.out
  have HB : Hid (Below w.heap.size w w1) := HB0.out
  have HLD : Hid ((Instr.loadAt 35 (.pointer (some ⟨w.heap.size, 0, none⟩))).run Tryz.prog w1 = .ok (.agg (mcs m pa ia ca ba pc ic cc bc)) w1) := hloadAt w1 w.heap.size (mcs m pa ia ca ba pc ic cc bc) (mcs_size m pa ia ca ba pc ic cc bc) HX.out
  clear HX0 HB0 hw1
  have c0 : w1.cell? ⟨w.heap.size, 0, none⟩ = some (.int .i64 7) := by rw [← hk]; exact HX.out.cell 0
  have c21 : w1.cell? ⟨w.heap.size, 21, none⟩ = some (.int .i64 m.n) := HX.out.cell 21
  have c33 : w1.cell? ⟨w.heap.size, 33, none⟩ = some (.int .i64 m.tr) := HX.out.cell 33
  have c35 : w1.cell? ⟨w.heap.size, 35, none⟩ = some (.int .i64 m.rate) := HX.out.cell 35
  have c20 : w1.cell? ⟨w.heap.size, 20, none⟩ = some (.string ⟨m.t.toArray⟩) := HX.out.cell 20
  by_cases e2 : sgn m.n = true
  · have HG2 : Hid (dd = g) := by have := HG.out; rw [if_pos e2] at this; exact this
    clear HG
    go_wp2_with (first | (go_at_call 73; refine (rsigned _ _ (by first | exact e2) _).mono ?_; rintro e w2 ⟨rfl, rfl⟩))
    refine (HC.out _).mono ?_
    rintro e w2 ⟨rfl, hb⟩
    have HB2 : Hid (Below w.heap.size w w2) := bt HB.out hb.out
    clear hb
    go_wp2_with fail
    go_ret
    exact KP.mk (by rw [← HG2.out]; rfl) HB2.out
  · have e2 : sgn m.n = false := by simpa using e2
    have HG2 : Hid (1 = g) := by have := HG.out; rw [if_neg (ff e2)] at this; exact this
    clear HG
    go_wp2_with (first | (go_at_call 73; refine (rsigned _ _ (by first | exact e2) _).mono ?_; rintro e w2 ⟨rfl, rfl⟩))
    go_ret
    exact KP.mk (by rw [← HG2.out]; rfl) HB.out
set_option maxHeartbeats 4000000 in
theorem rest9 (m : Mg) (pa ia ca ba : Option Addr) (pc ic cc bc : Nat) (hk : m.k = 9) (w : World)  (g : Nat) (hg : (if amt m.n = true then 0 else 1) = g) : Calls Tryz.prog 37 #[.agg (mcs m pa ia ca ba pc ic cc bc)] w (KP (.int .i64 g) w) := by
  have HG : Hid ((if amt m.n = true then 0 else 1) = g) := hg
  clear hg
  have HX0 : Hid (Bx (w.alloc (.cells (mcs m pa ia ca ba pc ic cc bc) 35)) w.heap.size (mcs m pa ia ca ba pc ic cc bc) 35) := Bx.new _ _ _
  have HB0 : Hid (Below w.heap.size w (w.alloc (.cells (mcs m pa ia ca ba pc ic cc bc) 35))) := below_a w _
  have hsz : (mcs m pa ia ca ba pc ic cc bc).size = 36 := mcs_size m pa ia ca ba pc ic cc bc
  go_enter Tryz.func37, Tryz.ntmps37
  go_upto_region 1 with fail
  generalize hw1 : w.alloc (.cells (mcs m pa ia ca ba pc ic cc bc) 35) = w1 at *
  have HX : Hid (Bx w1 w.heap.size (mcs m pa ia ca ba pc ic cc bc) 35) := HX0.out
  have HB : Hid (Below w.heap.size w w1) := HB0.out
  have HLD : Hid ((Instr.loadAt 35 (.pointer (some ⟨w.heap.size, 0, none⟩))).run Tryz.prog w1 = .ok (.agg (mcs m pa ia ca ba pc ic cc bc)) w1) := hloadAt w1 w.heap.size (mcs m pa ia ca ba pc ic cc bc) (mcs_size m pa ia ca ba pc ic cc bc) HX.out
  clear HX0 HB0 hw1
  have c0 : w1.cell? ⟨w.heap.size, 0, none⟩ = some (.int .i64 9) := by rw [← hk]; exact HX.out.cell 0
  have c21 : w1.cell? ⟨w.heap.size, 21, none⟩ = some (.int .i64 m.n) := HX.out.cell 21
  by_cases e2 : amt m.n = true
  · have HG2 : Hid (0 = g) := by have := HG.out; rw [if_pos e2] at this; exact this
    clear HG
    go_wp2_with (first | (go_at_call 46; refine (ramount _ _ (by first | exact e2) _).mono ?_; rintro e w2 ⟨rfl, rfl⟩))
    go_ret
    exact KP.mk (by rw [← HG2.out]; rfl) HB.out
  · have e2 : amt m.n = false := by simpa using e2
    have HG2 : Hid (1 = g) := by have := HG.out; rw [if_neg (ff e2)] at this; exact this
    clear HG
    go_wp2_with (first | (go_at_call 46; refine (ramount _ _ (by first | exact e2) _).mono ?_; rintro e w2 ⟨rfl, rfl⟩))
    go_ret
    exact KP.mk (by rw [← HG2.out]; rfl) HB.out
set_option maxHeartbeats 4000000 in
theorem rest10 (m : Mg) (pa ia ca ba : Option Addr) (pc ic cc bc : Nat) (hk : m.k = 10) (w : World)  (g : Nat) (hg : (if amt m.tr = true then dayE C0 m.day else 1) = g) : Calls Tryz.prog 37 #[.agg (mcs m pa ia ca ba pc ic cc bc)] w (KP (.int .i64 g) w) := by
  have HG : Hid ((if amt m.tr = true then dayE C0 m.day else 1) = g) := hg
  clear hg
  have HC : Hid (∀ w, Calls Tryz.prog 33 #[.int .i64 m.day] w (NP .i64 (dayE C0 m.day : Nat) w)) := fun w => rday m.day _ rfl w
  generalize dayE C0 m.day = dd at *
  have HX0 : Hid (Bx (w.alloc (.cells (mcs m pa ia ca ba pc ic cc bc) 35)) w.heap.size (mcs m pa ia ca ba pc ic cc bc) 35) := Bx.new _ _ _
  have HB0 : Hid (Below w.heap.size w (w.alloc (.cells (mcs m pa ia ca ba pc ic cc bc) 35))) := below_a w _
  have hsz : (mcs m pa ia ca ba pc ic cc bc).size = 36 := mcs_size m pa ia ca ba pc ic cc bc
  go_enter Tryz.func37, Tryz.ntmps37
  go_upto_region 1 with fail
  generalize hw1 : w.alloc (.cells (mcs m pa ia ca ba pc ic cc bc) 35) = w1 at *
  have HX : Hid (Bx w1 w.heap.size (mcs m pa ia ca ba pc ic cc bc) 35) := HX0.out
  have HB : Hid (Below w.heap.size w w1) := HB0.out
  have HLD : Hid ((Instr.loadAt 35 (.pointer (some ⟨w.heap.size, 0, none⟩))).run Tryz.prog w1 = .ok (.agg (mcs m pa ia ca ba pc ic cc bc)) w1) := hloadAt w1 w.heap.size (mcs m pa ia ca ba pc ic cc bc) (mcs_size m pa ia ca ba pc ic cc bc) HX.out
  clear HX0 HB0 hw1
  have c0 : w1.cell? ⟨w.heap.size, 0, none⟩ = some (.int .i64 10) := by rw [← hk]; exact HX.out.cell 0
  have c33 : w1.cell? ⟨w.heap.size, 33, none⟩ = some (.int .i64 m.tr) := HX.out.cell 33
  have c19 : w1.cell? ⟨w.heap.size, 19, none⟩ = some (.int .i64 m.day) := HX.out.cell 19
  by_cases e2 : amt m.tr = true
  · have HG2 : Hid (dd = g) := by have := HG.out; rw [if_pos e2] at this; exact this
    clear HG
    go_wp2_with (first | (go_at_call 46; refine (ramount _ _ (by first | exact e2) _).mono ?_; rintro e w2 ⟨rfl, rfl⟩))
    refine (HC.out _).mono ?_
    rintro e w2 ⟨rfl, rfl⟩
    go_wp2_with fail
    go_ret
    exact KP.mk (by rw [← HG2.out]; rfl) HB.out
  · have e2 : amt m.tr = false := by simpa using e2
    have HG2 : Hid (1 = g) := by have := HG.out; rw [if_neg (ff e2)] at this; exact this
    clear HG
    go_wp2_with (first | (go_at_call 46; refine (ramount _ _ (by first | exact e2) _).mono ?_; rintro e w2 ⟨rfl, rfl⟩))
    go_ret
    exact KP.mk (by rw [← HG2.out]; rfl) HB.out
set_option maxHeartbeats 4000000 in
theorem rest12 (m : Mg) (pa ia ca ba : Option Addr) (pc ic cc bc : Nat) (hk : m.k = 12) (w : World)  (g : Nat) (hg : (dayE C0 m.day) = g) : Calls Tryz.prog 37 #[.agg (mcs m pa ia ca ba pc ic cc bc)] w (KP (.int .i64 g) w) := by
  have HG : Hid ((dayE C0 m.day) = g) := hg
  clear hg
  have HC : Hid (∀ w, Calls Tryz.prog 33 #[.int .i64 m.day] w (NP .i64 (dayE C0 m.day : Nat) w)) := fun w => rday m.day _ rfl w
  generalize dayE C0 m.day = dd at *
  have HX0 : Hid (Bx (w.alloc (.cells (mcs m pa ia ca ba pc ic cc bc) 35)) w.heap.size (mcs m pa ia ca ba pc ic cc bc) 35) := Bx.new _ _ _
  have HB0 : Hid (Below w.heap.size w (w.alloc (.cells (mcs m pa ia ca ba pc ic cc bc) 35))) := below_a w _
  have hsz : (mcs m pa ia ca ba pc ic cc bc).size = 36 := mcs_size m pa ia ca ba pc ic cc bc
  go_enter Tryz.func37, Tryz.ntmps37
  go_upto_region 1 with fail
  generalize hw1 : w.alloc (.cells (mcs m pa ia ca ba pc ic cc bc) 35) = w1 at *
  have HX : Hid (Bx w1 w.heap.size (mcs m pa ia ca ba pc ic cc bc) 35) := HX0.out
  have HB : Hid (Below w.heap.size w w1) := HB0.out
  have HLD : Hid ((Instr.loadAt 35 (.pointer (some ⟨w.heap.size, 0, none⟩))).run Tryz.prog w1 = .ok (.agg (mcs m pa ia ca ba pc ic cc bc)) w1) := hloadAt w1 w.heap.size (mcs m pa ia ca ba pc ic cc bc) (mcs_size m pa ia ca ba pc ic cc bc) HX.out
  clear HX0 HB0 hw1
  have c0 : w1.cell? ⟨w.heap.size, 0, none⟩ = some (.int .i64 12) := by rw [← hk]; exact HX.out.cell 0
  have c19 : w1.cell? ⟨w.heap.size, 19, none⟩ = some (.int .i64 m.day) := HX.out.cell 19
  have HG2 : Hid (dd = g) := by have := HG.out; exact this
  clear HG
  go_wp2_with fail
  refine (HC.out _).mono ?_
  rintro e w2 ⟨rfl, rfl⟩
  go_wp2_with fail
  go_ret
  exact KP.mk (by rw [← HG2.out]; rfl) HB.out
set_option maxHeartbeats 4000000 in
theorem rest13 (m : Mg) (pa ia ca ba : Option Addr) (pc ic cc bc : Nat) (hk : m.k = 13) (w : World)  (g : Nat) (hg : (0) = g) : Calls Tryz.prog 37 #[.agg (mcs m pa ia ca ba pc ic cc bc)] w (KP (.int .i64 g) w) := by
  have HG : Hid ((0) = g) := hg
  clear hg
  have HX0 : Hid (Bx (w.alloc (.cells (mcs m pa ia ca ba pc ic cc bc) 35)) w.heap.size (mcs m pa ia ca ba pc ic cc bc) 35) := Bx.new _ _ _
  have HB0 : Hid (Below w.heap.size w (w.alloc (.cells (mcs m pa ia ca ba pc ic cc bc) 35))) := below_a w _
  have hsz : (mcs m pa ia ca ba pc ic cc bc).size = 36 := mcs_size m pa ia ca ba pc ic cc bc
  go_enter Tryz.func37, Tryz.ntmps37
  go_upto_region 1 with fail
  generalize hw1 : w.alloc (.cells (mcs m pa ia ca ba pc ic cc bc) 35) = w1 at *
  have HX : Hid (Bx w1 w.heap.size (mcs m pa ia ca ba pc ic cc bc) 35) := HX0.out
  have HB : Hid (Below w.heap.size w w1) := HB0.out
  have HLD : Hid ((Instr.loadAt 35 (.pointer (some ⟨w.heap.size, 0, none⟩))).run Tryz.prog w1 = .ok (.agg (mcs m pa ia ca ba pc ic cc bc)) w1) := hloadAt w1 w.heap.size (mcs m pa ia ca ba pc ic cc bc) (mcs_size m pa ia ca ba pc ic cc bc) HX.out
  clear HX0 HB0 hw1
  have c0 : w1.cell? ⟨w.heap.size, 0, none⟩ = some (.int .i64 13) := by rw [← hk]; exact HX.out.cell 0
  have HG2 : Hid (0 = g) := by have := HG.out; exact this
  clear HG
  go_wp2_with fail
  go_ret
  exact KP.mk (by rw [← HG2.out]; rfl) HB.out
set_option maxHeartbeats 4000000 in
theorem rest14 (m : Mg) (pa ia ca ba : Option Addr) (pc ic cc bc : Nat) (hk : m.k = 14) (w : World)  (g : Nat) (hg : (if inn m.n 0 1125899906842624 = true then 0 else 1) = g) : Calls Tryz.prog 37 #[.agg (mcs m pa ia ca ba pc ic cc bc)] w (KP (.int .i64 g) w) := by
  have HG : Hid ((if inn m.n 0 1125899906842624 = true then 0 else 1) = g) := hg
  clear hg
  have HX0 : Hid (Bx (w.alloc (.cells (mcs m pa ia ca ba pc ic cc bc) 35)) w.heap.size (mcs m pa ia ca ba pc ic cc bc) 35) := Bx.new _ _ _
  have HB0 : Hid (Below w.heap.size w (w.alloc (.cells (mcs m pa ia ca ba pc ic cc bc) 35))) := below_a w _
  have hsz : (mcs m pa ia ca ba pc ic cc bc).size = 36 := mcs_size m pa ia ca ba pc ic cc bc
  go_enter Tryz.func37, Tryz.ntmps37
  go_upto_region 1 with fail
  generalize hw1 : w.alloc (.cells (mcs m pa ia ca ba pc ic cc bc) 35) = w1 at *
  have HX : Hid (Bx w1 w.heap.size (mcs m pa ia ca ba pc ic cc bc) 35) := HX0.out
  have HB : Hid (Below w.heap.size w w1) := HB0.out
  have HLD : Hid ((Instr.loadAt 35 (.pointer (some ⟨w.heap.size, 0, none⟩))).run Tryz.prog w1 = .ok (.agg (mcs m pa ia ca ba pc ic cc bc)) w1) := hloadAt w1 w.heap.size (mcs m pa ia ca ba pc ic cc bc) (mcs_size m pa ia ca ba pc ic cc bc) HX.out
  clear HX0 HB0 hw1
  have c0 : w1.cell? ⟨w.heap.size, 0, none⟩ = some (.int .i64 14) := by rw [← hk]; exact HX.out.cell 0
  have c21 : w1.cell? ⟨w.heap.size, 21, none⟩ = some (.int .i64 m.n) := HX.out.cell 21
  by_cases e2 : inn m.n 0 1125899906842624 = true
  · have HG2 : Hid (0 = g) := by have := HG.out; rw [if_pos e2] at this; exact this
    clear HG
    go_wp2_with (first | (go_at_call 45; refine (rin _ _ _ _ (by first | exact e2) _).mono ?_; rintro e w2 ⟨rfl, rfl⟩))
    go_ret
    exact KP.mk (by rw [← HG2.out]; rfl) HB.out
  · have e2 : inn m.n 0 1125899906842624 = false := by simpa using e2
    have HG2 : Hid (1 = g) := by have := HG.out; rw [if_neg (ff e2)] at this; exact this
    clear HG
    go_wp2_with (first | (go_at_call 45; refine (rin _ _ _ _ (by first | exact e2) _).mono ?_; rintro e w2 ⟨rfl, rfl⟩))
    go_ret
    exact KP.mk (by rw [← HG2.out]; rfl) HB.out
set_option maxHeartbeats 4000000 in
theorem rest15 (m : Mg) (pa ia ca ba : Option Addr) (pc ic cc bc : Nat) (hk : m.k = 15) (w : World)  (g : Nat) (hg : (if amt m.tr = true then if inn m.rate (-1000000) 1000000 = true then dayE C0 m.day else 1 else 1) = g) : Calls Tryz.prog 37 #[.agg (mcs m pa ia ca ba pc ic cc bc)] w (KP (.int .i64 g) w) := by
  have HG : Hid ((if amt m.tr = true then if inn m.rate (-1000000) 1000000 = true then dayE C0 m.day else 1 else 1) = g) := hg
  clear hg
  have HC : Hid (∀ w, Calls Tryz.prog 33 #[.int .i64 m.day] w (NP .i64 (dayE C0 m.day : Nat) w)) := fun w => rday m.day _ rfl w
  generalize dayE C0 m.day = dd at *
  have HX0 : Hid (Bx (w.alloc (.cells (mcs m pa ia ca ba pc ic cc bc) 35)) w.heap.size (mcs m pa ia ca ba pc ic cc bc) 35) := Bx.new _ _ _
  have HB0 : Hid (Below w.heap.size w (w.alloc (.cells (mcs m pa ia ca ba pc ic cc bc) 35))) := below_a w _
  have hsz : (mcs m pa ia ca ba pc ic cc bc).size = 36 := mcs_size m pa ia ca ba pc ic cc bc
  go_enter Tryz.func37, Tryz.ntmps37
  go_upto_region 1 with fail
  generalize hw1 : w.alloc (.cells (mcs m pa ia ca ba pc ic cc bc) 35) = w1 at *
  have HX : Hid (Bx w1 w.heap.size (mcs m pa ia ca ba pc ic cc bc) 35) := HX0.out
  have HB : Hid (Below w.heap.size w w1) := HB0.out
  have HLD : Hid ((Instr.loadAt 35 (.pointer (some ⟨w.heap.size, 0, none⟩))).run Tryz.prog w1 = .ok (.agg (mcs m pa ia ca ba pc ic cc bc)) w1) := hloadAt w1 w.heap.size (mcs m pa ia ca ba pc ic cc bc) (mcs_size m pa ia ca ba pc ic cc bc) HX.out
  clear HX0 HB0 hw1
  have c0 : w1.cell? ⟨w.heap.size, 0, none⟩ = some (.int .i64 15) := by rw [← hk]; exact HX.out.cell 0
  have c33 : w1.cell? ⟨w.heap.size, 33, none⟩ = some (.int .i64 m.tr) := HX.out.cell 33
  have c35 : w1.cell? ⟨w.heap.size, 35, none⟩ = some (.int .i64 m.rate) := HX.out.cell 35
  have c19 : w1.cell? ⟨w.heap.size, 19, none⟩ = some (.int .i64 m.day) := HX.out.cell 19
  by_cases e1 : amt m.tr = true
  · by_cases e2 : inn m.rate (-1000000) 1000000 = true
    · have HG2 : Hid (dd = g) := by have := HG.out; rw [if_pos e1, if_pos e2] at this; exact this
      clear HG
      go_wp2_with (first | (go_at_call 46; refine (ramount _ _ (by first | exact e1) _).mono ?_; rintro e w2 ⟨rfl, rfl⟩) | (go_at_call 45; refine (rin _ _ _ _ (by first | exact e2) _).mono ?_; rintro e w2 ⟨rfl, rfl⟩))
      refine (HC.out _).mono ?_
      rintro e w2 ⟨rfl, rfl⟩
      go_wp2_with fail
      go_ret
      exact KP.mk (by rw [← HG2.out]; rfl) HB.out
    · have e2 : inn m.rate (-1000000) 1000000 = false := by simpa using e2
      have HG2 : Hid (1 = g) := by have := HG.out; rw [if_pos e1, if_neg (ff e2)] at this; exact this
      clear HG
      go_wp2_with (first | (go_at_call 46; refine (ramount _ _ (by first | exact e1) _).mono ?_; rintro e w2 ⟨rfl, rfl⟩) | (go_at_call 45; refine (rin _ _ _ _ (by first | exact e2) _).mono ?_; rintro e w2 ⟨rfl, rfl⟩))
      go_ret
      exact KP.mk (by rw [← HG2.out]; rfl) HB.out
  · have e1 : amt m.tr = false := by simpa using e1
    have HG2 : Hid (1 = g) := by have := HG.out; rw [if_neg (ff e1)] at this; exact this
    clear HG
    go_wp2_with (first | (go_at_call 46; refine (ramount _ _ (by first | exact e1) _).mono ?_; rintro e w2 ⟨rfl, rfl⟩) | (go_at_call 45; refine (rin _ _ _ _ (by first | exact e2) _).mono ?_; rintro e w2 ⟨rfl, rfl⟩))
    go_ret
    exact KP.mk (by rw [← HG2.out]; rfl) HB.out
set_option maxHeartbeats 4000000 in
theorem rest11 (m : Mg) (pa ia ca ba : Option Addr) (pc ic cc bc : Nat) (hk : m.k = 11) (w : World) (hL : Lts w.heap.size w ia m.ins) (hl : m.ins.length ≤ 9223372036854775807) (g : Nat) (hg : (if amt m.tr = true then if decide (m.ins.length ≤ 64) = true then lotsE C0 (m.out :: m.ins) else 1 else 1) = g) : Calls Tryz.prog 37 #[.agg (mcs m pa ia ca ba pc ic cc bc)] w (KP (.int .i64 g) w) := by
  have HG : Hid ((if amt m.tr = true then if decide (m.ins.length ≤ 64) = true then lotsE C0 (m.out :: m.ins) else 1 else 1) = g) := hg
  clear hg
  have HI : Hid (Lts w.heap.size w ia m.ins) := hL
  have HO : Hid (∀ w, Calls Tryz.prog 74 #[.agg #[.string ⟨m.out.i.toArray⟩, .int .i64 m.out.q]] w (KP (.int .i64 (lotE C0 m.out : Nat)) w)) := fun w => rlot m.out _ rfl w
  clear hL
  have HX0 : Hid (Bx (w.alloc (.cells (mcs m pa ia ca ba pc ic cc bc) 35)) w.heap.size (mcs m pa ia ca ba pc ic cc bc) 35) := Bx.new _ _ _
  have HB0 : Hid (Below w.heap.size w (w.alloc (.cells (mcs m pa ia ca ba pc ic cc bc) 35))) := below_a w _
  have hsz : (mcs m pa ia ca ba pc ic cc bc).size = 36 := mcs_size m pa ia ca ba pc ic cc bc
  go_enter Tryz.func37, Tryz.ntmps37
  go_upto_region 1 with fail
  generalize hw1 : w.alloc (.cells (mcs m pa ia ca ba pc ic cc bc) 35) = w1 at *
  have HX : Hid (Bx w1 w.heap.size (mcs m pa ia ca ba pc ic cc bc) 35) := HX0.out
  have HB : Hid (Below w.heap.size w w1) := HB0.out
  have HLD : Hid ((Instr.loadAt 35 (.pointer (some ⟨w.heap.size, 0, none⟩))).run Tryz.prog w1 = .ok (.agg (mcs m pa ia ca ba pc ic cc bc)) w1) := hloadAt w1 w.heap.size (mcs m pa ia ca ba pc ic cc bc) (mcs_size m pa ia ca ba pc ic cc bc) HX.out
  clear HX0 HB0 hw1
  have c0 : w1.cell? ⟨w.heap.size, 0, none⟩ = some (.int .i64 11) := by rw [← hk]; exact HX.out.cell 0
  have c33 : w1.cell? ⟨w.heap.size, 33, none⟩ = some (.int .i64 m.tr) := HX.out.cell 33
  have c32 : w1.cell? ⟨w.heap.size, 32, none⟩ = some (.slice ia m.ins.length ic) := HX.out.cell 32
  have c30 : w1.cell? ⟨w.heap.size, 30, none⟩ = some (.string ⟨m.out.i.toArray⟩) := HX.out.cell 30
  have c31 : w1.cell? ⟨w.heap.size, 31, none⟩ = some (.int .i64 m.out.q) := HX.out.cell 31
  by_cases e2 : amt m.tr = true
  · by_cases e3 : decide (m.ins.length ≤ 64) = true
    · have e3n : ¬ (m.ins.length : Int) > 64 := by have := of_decide_eq_true e3; omega
      have HG1 : Hid (lotsE C0 (m.out :: m.ins) = g) := by have := HG.out; rw [if_pos e2, if_pos e3] at this; exact this
      clear HG
      have HG3 : Hid ((if lotE C0 m.out = 0 then lotsE C0 m.ins else lotE C0 m.out) = g) := HG1.out
      clear HG1
      generalize lotE C0 m.out = lo at *
      go_wp2_with (first | (go_at_call 46; refine (ramount _ _ (by first | exact e2) _).mono ?_; rintro e w2 ⟨rfl, rfl⟩))
      refine (HO.out _).mono ?_
      rintro e w2 ⟨rfl, hb⟩
      have HB2 : Hid (Below w.heap.size w w2) := bt HB.out hb.out
      have HX2 : Hid (Bx w2 w.heap.size (mcs m pa ia ca ba pc ic cc bc) 35) := HX.out.keep hb.out
      clear hb HB HX HLD HO c0 c33 c32 c30 c31
      go_wp2_with fail
      go_loopw [5, 6] (fun ev i wr => ∃ (k e : Nat), i = .int .i64 k ∧ ev = .int .i64 e ∧ k ≤ m.ins.length ∧ Hid ((if e = 0 then lotsE C0 (m.ins.drop k) else e) = g) ∧ Hid (Below w.heap.size w wr ∧ Bx wr w.heap.size (mcs m pa ia ca ba pc ic cc bc) 35)) (fun _ i _ => m.ins.length - (Lib.intOf i).toNat)
      case atStart => exact ⟨0, lo, rfl, rfl, Nat.zero_le _, HG3, HB2.out, HX2.out⟩
      case round =>
        clear HG3 HB2 HX2
        obtain ⟨k, ec, rfl, rfl, hk, HK, HW⟩ := hrel
        have d32 : wr.cell? ⟨w.heap.size, 32, none⟩ = some (.slice ia m.ins.length ic) := HW.out.2.cell 32
        by_cases hkn : k < m.ins.length
        · have hkz : (k : Int) < (m.ins.length : Int) := by omega
          by_cases e5 : ec = 0
          · have z5 : ((ec : Int) == 0) = true := by rw [e5]; rfl
            have HK2 : Hid (lotsE C0 (m.ins.drop k) = g) := by have := HK.out; rw [if_pos e5] at this; exact this
            obtain ⟨b, off, rfl, hbl, hce⟩ := HI.out (by omega)
            have hc1 : wr.cell? ⟨b, off + k * 2, none⟩ = some (.string ⟨m.ins[k].i.toArray⟩) := (HW.out.1.cell (by exact hbl)).trans (hce k hkn).1
            have hc2 : wr.cell? ⟨b, off + k * 2 + 1, none⟩ = some (.int .i64 m.ins[k].q) := (HW.out.1.cell (by exact hbl)).trans (hce k hkn).2
            have HC : Hid (∀ w, Calls Tryz.prog 74 #[.agg #[.string ⟨m.ins[k].i.toArray⟩, .int .i64 m.ins[k].q]] w (KP (.int .i64 (lotE C0 m.ins[k] : Nat)) w)) := fun w => rlot m.ins[k] _ rfl w
            have HK3 : Hid ((if lotE C0 m.ins[k] = 0 then lotsE C0 (m.ins.drop (k + 1)) else lotE C0 m.ins[k]) = g) := by unfold Hid; rw [← lotsE_at hkn]; exact HK2.out
            clear HK HK2 hce e5
            generalize lotE C0 m.ins[k] = lk at *
            generalize (⟨m.ins[k].i.toArray⟩ : ByteArray) = X at *
            generalize m.ins[k].q = q at *
            go_wp2_with fail
            refine (HC.out _).mono ?_
            rintro e w5 ⟨rfl, hb5⟩
            have HB5 : Hid (Below w.heap.size w w5 ∧ Bx w5 w.heap.size (mcs m pa (some ⟨b, off, none⟩) ca ba pc ic cc bc) 35) := ⟨bt HW.out.1 hb5.out, HW.out.2.keep hb5.out⟩
            clear hb5 HW
            go_wp2_with fail
            exact ⟨⟨k + 1, lk, by go_num, rfl, by omega, HK3, HB5.out.1, HB5.out.2⟩, by simp [Lib.intOf]; omega⟩
          · have z5 : ((ec : Int) == 0) = false := by rw [beq_eq_false_iff_ne]; omega
            have HK2 : Hid (ec = g) := by have := HK.out; rw [if_neg e5] at this; exact this
            clear HK e5
            go_wp2_with fail
            go_ret
            exact KP.mk (by rw [← HK2.out]; rfl) HW.out.1
        · have hkz : ¬ (k : Int) < (m.ins.length : Int) := by omega
          have HK2 : Hid (ec = g) := by
            have := HK.out
            rw [List.drop_of_length_le (by omega)] at this
            by_cases e5 : ec = 0
            · rw [if_pos e5] at this; rw [e5]; exact this
            · rw [if_neg e5] at this; exact this
          clear HK
          go_wp2_with fail
          go_ret
          exact KP.mk (by rw [← HK2.out]; rfl) HW.out.1
    · have e3 : decide (m.ins.length ≤ 64) = false := by simpa using e3
      have HG2 : Hid (1 = g) := by have := HG.out; rw [if_pos e2, if_neg (ff e3)] at this; exact this
      clear HG
      have e3n : (m.ins.length : Int) > 64 := by have := of_decide_eq_false e3; omega
      go_wp2_with (first | (go_at_call 46; refine (ramount _ _ (by first | exact e2) _).mono ?_; rintro e w2 ⟨rfl, rfl⟩))
      go_ret
      exact KP.mk (by rw [← HG2.out]; rfl) HB.out
  · have e2 : amt m.tr = false := by simpa using e2
    have HG2 : Hid (1 = g) := by have := HG.out; rw [if_neg (ff e2)] at this; exact this
    clear HG
    go_wp2_with (first | (go_at_call 46; refine (ramount _ _ (by first | exact e2) _).mono ?_; rintro e w2 ⟨rfl, rfl⟩))
    go_ret
    exact KP.mk (by rw [← HG2.out]; rfl) HB.out
end Go.Proofs.YtdmlgheajblcdaaGreat
