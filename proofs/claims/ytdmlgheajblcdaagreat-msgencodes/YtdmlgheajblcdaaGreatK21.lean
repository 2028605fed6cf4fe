/- Layer 10: Check and Sender of the reference. -/
import Derived.Test.YtdmlgheajblcdaaGreatK20
import Derived.WalkKit
import Derived.ProofKit
import Derived.Handy
import Derived.WalkLawsBesides
import Derived.WalkSpells
import Derived.BigQuiet
import Derived.BigCall
import Derived.Deep.QuietTactic
import Derived.Deep.Light
import Derived.Deep.OwnRows
import Derived.Laws.AppendOwnNone
import Derived.Laws.Strings3
import Derived.Laws.RangeAny
import Derived.Deep.RegionWith
import Derived.Lib.BitFns
import Derived.Lib.Walk
import Derived.Lib.Strings
import Derived.Lib.OthersKept
import Derived.Deep.CutBlock
import Derived.Deep.DeepCutAuto
import Derived.Deep.LoopGhost
import Derived.Deep.RegionHeld3
import Derived.Lib.SmallJoins
import Derived.Maps.AppendAt
import Derived.Laws.IdiomStrings
import Derived.Lib.AppendZeros
import Derived.Deep.WholeRow
import Derived.Laws.BitsAllLaws
import Derived.Lib.ConvBytes
import Derived.Deep.RegionLaw
import Derived.Test.YtdmlgheajblcdaaGreatK15
namespace Go.Proofs.YtdmlgheajblcdaaGreat
open Go.RowKit
set_option linter.unusedVariables false
set_option linter.unusedSimpArgs false
set_option maxRecDepth 20000
set_option maxHeartbeats 4000000 in
theorem rCheck1 (m : Mg) (pa ia ca ba : Option Addr) (pc ic cc bc : Nat) (hk : m.k = 1) (w : World) (hs : m.name.length ≤ 9223372036854775807) (g : Nat) (hg : (if mbr m.mem = true then C0.nm m.name else 1) = g) : Calls Tryz.prog 13 #[.agg (mcs m pa ia ca ba pc ic cc bc)] w (KP (.int .i64 g) w) := by
  have HG : Hid ((if mbr m.mem = true then C0.nm m.name else 1) = g) := hg
  clear hg
  have HR : Hid (∀ W, Below w.heap.size w W → Calls Tryz.prog 37 #[.agg (mcs m pa ia ca ba pc ic cc bc)] W (KP (.int .i64 ((C0.nm m.name : Nat) : Int)) W)) := fun W hb => rest1 m pa ia ca ba pc ic cc bc hk W hs _ rfl
  generalize (C0.nm m.name : Nat) = gr at *
  have HX0 : Hid (Bx (w.alloc (.cells (mcs m pa ia ca ba pc ic cc bc) 35)) w.heap.size (mcs m pa ia ca ba pc ic cc bc) 35) := Bx.new _ _ _
  have HB0 : Hid (Below w.heap.size w (w.alloc (.cells (mcs m pa ia ca ba pc ic cc bc) 35))) := below_a w _
  have hsz : (mcs m pa ia ca ba pc ic cc bc).size = 36 := mcs_size m pa ia ca ba pc ic cc bc
  go_enter Tryz.func13, Tryz.ntmps13
  go_upto_region 1 with fail
  generalize hw1 : w.alloc (.cells (mcs m pa ia ca ba pc ic cc bc) 35) = w1 at *
  have HX : Hid (Bx w1 w.heap.size (mcs m pa ia ca ba pc ic cc bc) 35) := HX0.out
  have HB : Hid (Below w.heap.size w w1) := HB0.out
  have HLD : Hid ((Instr.loadAt 35 (.pointer (some ⟨w.heap.size, 0, none⟩))).run Tryz.prog w1 = .ok (.agg (mcs m pa ia ca ba pc ic cc bc)) w1) := hloadAt w1 w.heap.size (mcs m pa ia ca ba pc ic cc bc) (mcs_size m pa ia ca ba pc ic cc bc) HX.out
  clear HX0 HB0 hw1
  have c0 : w1.cell? ⟨w.heap.size, 0, none⟩ = some (.int .i64 1) := by rw [← hk]; exact HX.out.cell 0
  have c1 : w1.cell? ⟨w.heap.size, 1, none⟩ = some (.int .i64 m.mem) := HX.out.cell 1
  by_cases e1 : mbr m.mem = true
  · have HG2 : Hid (gr = g) := by have := HG.out; rw [if_pos e1] at this; exact this
    clear HG
    go_wp2_with (first | (go_at_call 35; refine (rmember _ _ (by first | exact e1) _).mono ?_; rintro e w2 ⟨rfl, rfl⟩) | (guard_target =~ wpList _ _ _ (⟨_, Op.load 35 _, _, _, _, _⟩ :: _) _ _; refine wl_load _ rfl 35 _ rfl _ rfl _ HLD.out ?_; go_simp))
    refine (HR.out _ HB.out).mono ?_
    rintro e w2 ⟨rfl, hb⟩
    have HB2 : Hid (Below w.heap.size w w2) := bt HB.out hb.out
    clear hb
    go_wp2_with fail
    go_ret
    exact KP.mk (by rw [← HG2.out]; rfl) HB2.out
  · have e1 : mbr m.mem = false := by simpa using e1
    have HG2 : Hid (1 = g) := by have := HG.out; rw [if_neg (ff e1)] at this; exact this
    clear HG
    go_wp2_with (first | (go_at_call 35; refine (rmember _ _ (by first | exact e1) _).mono ?_; rintro e w2 ⟨rfl, rfl⟩) | (guard_target =~ wpList _ _ _ (⟨_, Op.load 35 _, _, _, _, _⟩ :: _) _ _; refine wl_load _ rfl 35 _ rfl _ rfl _ HLD.out ?_; go_simp))
    go_ret
    exact KP.mk (by rw [← HG2.out]; rfl) HB.out
set_option maxHeartbeats 4000000 in
theorem rCheck6 (m : Mg) (pa ia ca ba : Option Addr) (pc ic cc bc : Nat) (hk : m.k = 6) (w : World)  (g : Nat) (hg : (if C0.cu m.t = true then if mbr m.mem = true then if sgn m.n = true then 0 else 1 else 1 else 11) = g) : Calls Tryz.prog 13 #[.agg (mcs m pa ia ca ba pc ic cc bc)] w (KP (.int .i64 g) w) := by
  have HG : Hid ((if C0.cu m.t = true then if mbr m.mem = true then if sgn m.n = true then 0 else 1 else 1 else 11) = g) := hg
  clear hg
  have HR : Hid (∀ W, Below w.heap.size w W → Calls Tryz.prog 37 #[.agg (mcs m pa ia ca ba pc ic cc bc)] W (KP (.int .i64 ((if sgn m.n = true then 0 else 1 : Nat) : Int)) W)) := fun W hb => rest6 m pa ia ca ba pc ic cc bc hk W  _ rfl
  generalize (if sgn m.n = true then 0 else 1 : Nat) = gr at *
  have HX0 : Hid (Bx (w.alloc (.cells (mcs m pa ia ca ba pc ic cc bc) 35)) w.heap.size (mcs m pa ia ca ba pc ic cc bc) 35) := Bx.new _ _ _
  have HB0 : Hid (Below w.heap.size w (w.alloc (.cells (mcs m pa ia ca ba pc ic cc bc) 35))) := below_a w _
  have hsz : (mcs m pa ia ca ba pc ic cc bc).size = 36 := mcs_size m pa ia ca ba pc ic cc bc
  go_enter Tryz.func13, Tryz.ntmps13
  go_upto_region 1 with fail
  generalize hw1 : w.alloc (.cells (mcs m pa ia ca ba pc ic cc bc) 35) = w1 at *
  have HX : Hid (Bx w1 w.heap.size (mcs m pa ia ca ba pc ic cc bc) 35) := HX0.out
  have HB : Hid (Below w.heap.size w w1) := HB0.out
  have HLD : Hid ((Instr.loadAt 35 (.pointer (some ⟨w.heap.size, 0, none⟩))).run Tryz.prog w1 = .ok (.agg (mcs m pa ia ca ba pc ic cc bc)) w1) := hloadAt w1 w.heap.size (mcs m pa ia ca ba pc ic cc bc) (mcs_size m pa ia ca ba pc ic cc bc) HX.out
  clear HX0 HB0 hw1
  have c0 : w1.cell? ⟨w.heap.size, 0, none⟩ = some (.int .i64 6) := by rw [← hk]; exact HX.out.cell 0
  have c1 : w1.cell? ⟨w.heap.size, 1, none⟩ = some (.int .i64 m.mem) := HX.out.cell 1
  have c20 : w1.cell? ⟨w.heap.size, 20, none⟩ = some (.string ⟨m.t.toArray⟩) := HX.out.cell 20
  by_cases e0 : C0.cu m.t = true
  · by_cases e1 : mbr m.mem = true
    · have HG2 : Hid (gr = g) := by have := HG.out; rw [if_pos e0, if_pos e1] at this; exact this
      clear HG
      go_wp2_with (first | (go_at_call 34; refine (rcur _ _ (by first | exact e0) _).mono ?_; rintro e w2 ⟨rfl, rfl⟩) | (go_at_call 35; refine (rmember _ _ (by first | exact e1) _).mono ?_; rintro e w2 ⟨rfl, rfl⟩) | (guard_target =~ wpList _ _ _ (⟨_, Op.load 35 _, _, _, _, _⟩ :: _) _ _; refine wl_load _ rfl 35 _ rfl _ rfl _ HLD.out ?_; go_simp))
      refine (HR.out _ HB.out).mono ?_
      rintro e w2 ⟨rfl, hb⟩
      have HB2 : Hid (Below w.heap.size w w2) := bt HB.out hb.out
      clear hb
      go_wp2_with fail
      go_ret
      exact KP.mk (by rw [← HG2.out]; rfl) HB2.out
    · have e1 : mbr m.mem = false := by simpa using e1
      have HG2 : Hid (1 = g) := by have := HG.out; rw [if_pos e0, if_neg (ff e1)] at this; exact this
      clear HG
      go_wp2_with (first | (go_at_call 34; refine (rcur _ _ (by first | exact e0) _).mono ?_; rintro e w2 ⟨rfl, rfl⟩) | (go_at_call 35; refine (rmember _ _ (by first | exact e1) _).mono ?_; rintro e w2 ⟨rfl, rfl⟩) | (guard_target =~ wpList _ _ _ (⟨_, Op.load 35 _, _, _, _, _⟩ :: _) _ _; refine wl_load _ rfl 35 _ rfl _ rfl _ HLD.out ?_; go_simp))
      go_ret
      exact KP.mk (by rw [← HG2.out]; rfl) HB.out
  · have e0 : C0.cu m.t = false := by simpa using e0
    have HG2 : Hid (11 = g) := by have := HG.out; rw [if_neg (ff e0)] at this; exact this
    clear HG
    go_wp2_with (first | (go_at_call 34; refine (rcur _ _ (by first | exact e0) _).mono ?_; rintro e w2 ⟨rfl, rfl⟩) | (go_at_call 35; refine (rmember _ _ (by first | exact e1) _).mono ?_; rintro e w2 ⟨rfl, rfl⟩) | (guard_target =~ wpList _ _ _ (⟨_, Op.load 35 _, _, _, _, _⟩ :: _) _ _; refine wl_load _ rfl 35 _ rfl _ rfl _ HLD.out ?_; go_simp))
    go_ret
    exact KP.mk (by rw [← HG2.out]; rfl) HB.out
set_option maxHeartbeats 4000000 in
theorem rCheck7 (m : Mg) (pa ia ca ba : Option Addr) (pc ic cc bc : Nat) (hk : m.k = 7) (w : World)  (g : Nat) (hg : (if mbr m.mem = true then if sgn m.n = true then C0.is m.t else 1 else 1) = g) : Calls Tryz.prog 13 #[.agg (mcs m pa ia ca ba pc ic cc bc)] w (KP (.int .i64 g) w) := by
  have HG : Hid ((if mbr m.mem = true then if sgn m.n = true then C0.is m.t else 1 else 1) = g) := hg
  clear hg
  have HR : Hid (∀ W, Below w.heap.size w W → Calls Tryz.prog 37 #[.agg (mcs m pa ia ca ba pc ic cc bc)] W (KP (.int .i64 ((if sgn m.n = true then C0.is m.t else 1 : Nat) : Int)) W)) := fun W hb => rest7 m pa ia ca ba pc ic cc bc hk W  _ rfl
  generalize (if sgn m.n = true then C0.is m.t else 1 : Nat) = gr at *
  have HX0 : Hid (Bx (w.alloc (.cells (mcs m pa ia ca ba pc ic cc bc) 35)) w.heap.size (mcs m pa ia ca ba pc ic cc bc) 35) := Bx.new _ _ _
  have HB0 : Hid (Below w.heap.size w (w.alloc (.cells (mcs m pa ia ca ba pc ic cc bc) 35))) := below_a w _
  have hsz : (mcs m pa ia ca ba pc ic cc bc).size = 36 := mcs_size m pa ia ca ba pc ic cc bc
  go_enter Tryz.func13, Tryz.ntmps13
  go_upto_region 1 with fail
  generalize hw1 : w.alloc (.cells (mcs m pa ia ca ba pc ic cc bc) 35) = w1 at *
  have HX : Hid (Bx w1 w.heap.size (mcs m pa ia ca ba pc ic cc bc) 35) := HX0.out
  have HB : Hid (Below w.heap.size w w1) := HB0.out
  have HLD : Hid ((Instr.loadAt 35 (.pointer (some ⟨w.heap.size, 0, none⟩))).run Tryz.prog w1 = .ok (.agg (mcs m pa ia ca ba pc ic cc bc)) w1) := hloadAt w1 w.heap.size (mcs m pa ia ca ba pc ic cc bc) (mcs_size m pa ia ca ba pc ic cc bc) HX.out
  clear HX0 HB0 hw1
  have c0 : w1.cell? ⟨w.heap.size, 0, none⟩ = some (.int .i64 7) := by rw [← hk]; exact HX.out.cell 0
  have c1 : w1.cell? ⟨w.heap.size, 1, none⟩ = some (.int .i64 m.mem) := HX.out.cell 1
  by_cases e1 : mbr m.mem = true
  · have HG2 : Hid (gr = g) := by have := HG.out; rw [if_pos e1] at this; exact this
    clear HG
    go_wp2_with (first | (go_at_call 35; refine (rmember _ _ (by first | exact e1) _).mono ?_; rintro e w2 ⟨rfl, rfl⟩) | (guard_target =~ wpList _ _ _ (⟨_, Op.load 35 _, _, _, _, _⟩ :: _) _ _; refine wl_load _ rfl 35 _ rfl _ rfl _ HLD.out ?_; go_simp))
    refine (HR.out _ HB.out).mono ?_
    rintro e w2 ⟨rfl, hb⟩
    have HB2 : Hid (Below w.heap.size w w2) := bt HB.out hb.out
    clear hb
    go_wp2_with fail
    go_ret
    exact KP.mk (by rw [← HG2.out]; rfl) HB2.out
  · have e1 : mbr m.mem = false := by simpa using e1
    have HG2 : Hid (1 = g) := by have := HG.out; rw [if_neg (ff e1)] at this; exact this
    clear HG
    go_wp2_with (first | (go_at_call 35; refine (rmember _ _ (by first | exact e1) _).mono ?_; rintro e w2 ⟨rfl, rfl⟩) | (guard_target =~ wpList _ _ _ (⟨_, Op.load 35 _, _, _, _, _⟩ :: _) _ _; refine wl_load _ rfl 35 _ rfl _ rfl _ HLD.out ?_; go_simp))
    go_ret
    exact KP.mk (by rw [← HG2.out]; rfl) HB.out
set_option maxHeartbeats 4000000 in
theorem rCheck9 (m : Mg) (pa ia ca ba : Option Addr) (pc ic cc bc : Nat) (hk : m.k = 9) (w : World)  (g : Nat) (hg : (if mbr m.mem = true then if amt m.n = true then 0 else 1 else 1) = g) : Calls Tryz.prog 13 #[.agg (mcs m pa ia ca ba pc ic cc bc)] w (KP (.int .i64 g) w) := by
  have HG : Hid ((if mbr m.mem = true then if amt m.n = true then 0 else 1 else 1) = g) := hg
  clear hg
  have HR : Hid (∀ W, Below w.heap.size w W → Calls Tryz.prog 37 #[.agg (mcs m pa ia ca ba pc ic cc bc)] W (KP (.int .i64 ((if amt m.n = true then 0 else 1 : Nat) : Int)) W)) := fun W hb => rest9 m pa ia ca ba pc ic cc bc hk W  _ rfl
  generalize (if amt m.n = true then 0 else 1 : Nat) = gr at *
  have HX0 : Hid (Bx (w.alloc (.cells (mcs m pa ia ca ba pc ic cc bc) 35)) w.heap.size (mcs m pa ia ca ba pc ic cc bc) 35) := Bx.new _ _ _
  have HB0 : Hid (Below w.heap.size w (w.alloc (.cells (mcs m pa ia ca ba pc ic cc bc) 35))) := below_a w _
  have hsz : (mcs m pa ia ca ba pc ic cc bc).size = 36 := mcs_size m pa ia ca ba pc ic cc bc
  go_enter Tryz.func13, Tryz.ntmps13
  go_upto_region 1 with fail
  generalize hw1 : w.alloc (.cells (mcs m pa ia ca ba pc ic cc bc) 35) = w1 at *
  have HX : Hid (Bx w1 w.heap.size (mcs m pa ia ca ba pc ic cc bc) 35) := HX0.out
  have HB : Hid (Below w.heap.size w w1) := HB0.out
  have HLD : Hid ((Instr.loadAt 35 (.pointer (some ⟨w.heap.size, 0, none⟩))).run Tryz.prog w1 = .ok (.agg (mcs m pa ia ca ba pc ic cc bc)) w1) := hloadAt w1 w.heap.size (mcs m pa ia ca ba pc ic cc bc) (mcs_size m pa ia ca ba pc ic cc bc) HX.out
  clear HX0 HB0 hw1
  have c0 : w1.cell? ⟨w.heap.size, 0, none⟩ = some (.int .i64 9) := by rw [← hk]; exact HX.out.cell 0
  have c1 : w1.cell? ⟨w.heap.size, 1, none⟩ = some (.int .i64 m.mem) := HX.out.cell 1
  by_cases e1 : mbr m.mem = true
  · have HG2 : Hid (gr = g) := by have := HG.out; rw [if_pos e1] at this; exact this
    clear HG
    go_wp2_with (first | (go_at_call 35; refine (rmember _ _ (by first | exact e1) _).mono ?_; rintro e w2 ⟨rfl, rfl⟩) | (guard_target =~ wpList _ _ _ (⟨_, Op.load 35 _, _, _, _, _⟩ :: _) _ _; refine wl_load _ rfl 35 _ rfl _ rfl _ HLD.out ?_; go_simp))
    refine (HR.out _ HB.out).mono ?_
    rintro e w2 ⟨rfl, hb⟩
    have HB2 : Hid (Below w.heap.size w w2) := bt HB.out hb.out
    clear hb
    go_wp2_with fail
    go_ret
    exact KP.mk (by rw [← HG2.out]; rfl) HB2.out
  · have e1 : mbr m.mem = false := by simpa using e1
    have HG2 : Hid (1 = g) := by have := HG.out; rw [if_neg (ff e1)] at this; exact this
    clear HG
    go_wp2_with (first | (go_at_call 35; refine (rmember _ _ (by first | exact e1) _).mono ?_; rintro e w2 ⟨rfl, rfl⟩) | (guard_target =~ wpList _ _ _ (⟨_, Op.load 35 _, _, _, _, _⟩ :: _) _ _; refine wl_load _ rfl 35 _ rfl _ rfl _ HLD.out ?_; go_simp))
    go_ret
    exact KP.mk (by rw [← HG2.out]; rfl) HB.out
set_option maxHeartbeats 4000000 in
theorem rCheck10 (m : Mg) (pa ia ca ba : Option Addr) (pc ic cc bc : Nat) (hk : m.k = 10) (w : World)  (g : Nat) (hg : (if mbr m.mem = true then if amt m.tr = true then dayE C0 m.day else 1 else 1) = g) : Calls Tryz.prog 13 #[.agg (mcs m pa ia ca ba pc ic cc bc)] w (KP (.int .i64 g) w) := by
  have HG : Hid ((if mbr m.mem = true then if amt m.tr = true then dayE C0 m.day else 1 else 1) = g) := hg
  clear hg
  have HR : Hid (∀ W, Below w.heap.size w W → Calls Tryz.prog 37 #[.agg (mcs m pa ia ca ba pc ic cc bc)] W (KP (.int .i64 ((if amt m.tr = true then dayE C0 m.day else 1 : Nat) : Int)) W)) := fun W hb => rest10 m pa ia ca ba pc ic cc bc hk W  _ rfl
  generalize (if amt m.tr = true then dayE C0 m.day else 1 : Nat) = gr at *
  have HX0 : Hid (Bx (w.alloc (.cells (mcs m pa ia ca ba pc ic cc bc) 35)) w.heap.size (mcs m pa ia ca ba pc ic cc bc) 35) := Bx.new _ _ _
  have HB0 : Hid (Below w.heap.size w (w.alloc (.cells (mcs m pa ia ca ba pc ic cc bc) 35))) := below_a w _
  have hsz : (mcs m pa ia ca ba pc ic cc bc).size = 36 := mcs_size m pa ia ca ba pc ic cc bc
  go_enter Tryz.func13, Tryz.ntmps13
  go_upto_region 1 with fail
  generalize hw1 : w.alloc (.cells (mcs m pa ia ca ba pc ic cc bc) 35) = w1 at *
  have HX : Hid (Bx w1 w.heap.size (mcs m pa ia ca ba pc ic cc bc) 35) := HX0.out
  have HB : Hid (Below w.heap.size w w1) := HB0.out
  have HLD : Hid ((Instr.loadAt 35 (.pointer (some ⟨w.heap.size, 0, none⟩))).run Tryz.prog w1 = .ok (.agg (mcs m pa ia ca ba pc ic cc bc)) w1) := hloadAt w1 w.heap.size (mcs m pa ia ca ba pc ic cc bc) (mcs_size m pa ia ca ba pc ic cc bc) HX.out
  clear HX0 HB0 hw1
  have c0 : w1.cell? ⟨w.heap.size, 0, none⟩ = some (.int .i64 10) := by rw [← hk]; exact HX.out.cell 0
  have c1 : w1.cell? ⟨w.heap.size, 1, none⟩ = some (.int .i64 m.mem) := HX.out.cell 1
  by_cases e1 : mbr m.mem = true
  · have HG2 : Hid (gr = g) := by have := HG.out; rw [if_pos e1] at this; exact this
    clear HG
    go_wp2_with (first | (go_at_call 35; refine (rmember _ _ (by first | exact e1) _).mono ?_; rintro e w2 ⟨rfl, rfl⟩) | (guard_target =~ wpList _ _ _ (⟨_, Op.load 35 _, _, _, _, _⟩ :: _) _ _; refine wl_load _ rfl 35 _ rfl _ rfl _ HLD.out ?_; go_simp))
    refine (HR.out _ HB.out).mono ?_
    rintro e w2 ⟨rfl, hb⟩
    have HB2 : Hid (Below w.heap.size w w2) := bt HB.out hb.out
    clear hb
    go_wp2_with fail
    go_ret
    exact KP.mk (by rw [← HG2.out]; rfl) HB2.out
  · have e1 : mbr m.mem = false := by simpa using e1
    have HG2 : Hid (1 = g) := by have := HG.out; rw [if_neg (ff e1)] at this; exact this
    clear HG
    go_wp2_with (first | (go_at_call 35; refine (rmember _ _ (by first | exact e1) _).mono ?_; rintro e w2 ⟨rfl, rfl⟩) | (guard_target =~ wpList _ _ _ (⟨_, Op.load 35 _, _, _, _, _⟩ :: _) _ _; refine wl_load _ rfl 35 _ rfl _ rfl _ HLD.out ?_; go_simp))
    go_ret
    exact KP.mk (by rw [← HG2.out]; rfl) HB.out
set_option maxHeartbeats 4000000 in
theorem rCheck11 (m : Mg) (pa ia ca ba : Option Addr) (pc ic cc bc : Nat) (hk : m.k = 11) (w : World) (hL : Lts w.heap.size w ia m.ins) (hl : m.ins.length ≤ 9223372036854775807) (g : Nat) (hg : (if mbr m.mem = true then if amt m.tr = true then if decide (m.ins.length ≤ 64) = true then lotsE C0 (m.out :: m.ins) else 1 else 1 else 1) = g) : Calls Tryz.prog 13 #[.agg (mcs m pa ia ca ba pc ic cc bc)] w (KP (.int .i64 g) w) := by
  have HG : Hid ((if mbr m.mem = true then if amt m.tr = true then if decide (m.ins.length ≤ 64) = true then lotsE C0 (m.out :: m.ins) else 1 else 1 else 1) = g) := hg
  clear hg
  have HR : Hid (∀ W, Below w.heap.size w W → Calls Tryz.prog 37 #[.agg (mcs m pa ia ca ba pc ic cc bc)] W (KP (.int .i64 ((if amt m.tr = true then if decide (m.ins.length ≤ 64) = true then lotsE C0 (m.out :: m.ins) else 1 else 1 : Nat) : Int)) W)) := fun W hb => rest11 m pa ia ca ba pc ic cc bc hk W ((hL.keep hb).mono hb.size) hl _ rfl
  generalize (if amt m.tr = true then if decide (m.ins.length ≤ 64) = true then lotsE C0 (m.out :: m.ins) else 1 else 1 : Nat) = gr at *
  have HX0 : Hid (Bx (w.alloc (.cells (mcs m pa ia ca ba pc ic cc bc) 35)) w.heap.size (mcs m pa ia ca ba pc ic cc bc) 35) := Bx.new _ _ _
  have HB0 : Hid (Below w.heap.size w (w.alloc (.cells (mcs m pa ia ca ba pc ic cc bc) 35))) := below_a w _
  have hsz : (mcs m pa ia ca ba pc ic cc bc).size = 36 := mcs_size m pa ia ca ba pc ic cc bc
  go_enter Tryz.func13, Tryz.ntmps13
  go_upto_region 1 with fail
  generalize hw1 : w.alloc (.cells (mcs m pa ia ca ba pc ic cc bc) 35) = w1 at *
  have HX : Hid (Bx w1 w.heap.size (mcs m pa ia ca ba pc ic cc bc) 35) := HX0.out
  have HB : Hid (Below w.heap.size w w1) := HB0.out
  have HLD : Hid ((Instr.loadAt 35 (.pointer (some ⟨w.heap.size, 0, none⟩))).run Tryz.prog w1 = .ok (.agg (mcs m pa ia ca ba pc ic cc bc)) w1) := hloadAt w1 w.heap.size (mcs m pa ia ca ba pc ic cc bc) (mcs_size m pa ia ca ba pc ic cc bc) HX.out
  clear HX0 HB0 hw1
  have c0 : w1.cell? ⟨w.heap.size, 0, none⟩ = some (.int .i64 11) := by rw [← hk]; exact HX.out.cell 0
  have c1 : w1.cell? ⟨w.heap.size, 1, none⟩ = some (.int .i64 m.mem) := HX.out.cell 1
  by_cases e1 : mbr m.mem = true
  · have HG2 : Hid (gr = g) := by have := HG.out; rw [if_pos e1] at this; exact this
    clear HG
    go_wp2_with (first | (go_at_call 35; refine (rmember _ _ (by first | exact e1) _).mono ?_; rintro e w2 ⟨rfl, rfl⟩) | (guard_target =~ wpList _ _ _ (⟨_, Op.load 35 _, _, _, _, _⟩ :: _) _ _; refine wl_load _ rfl 35 _ rfl _ rfl _ HLD.out ?_; go_simp))
    refine (HR.out _ HB.out).mono ?_
    rintro e w2 ⟨rfl, hb⟩
    have HB2 : Hid (Below w.heap.size w w2) := bt HB.out hb.out
    clear hb
    go_wp2_with fail
    go_ret
    exact KP.mk (by rw [← HG2.out]; rfl) HB2.out
  · have e1 : mbr m.mem = false := by simpa using e1
    have HG2 : Hid (1 = g) := by have := HG.out; rw [if_neg (ff e1)] at this; exact this
    clear HG
    go_wp2_with (first | (go_at_call 35; refine (rmember _ _ (by first | exact e1) _).mono ?_; rintro e w2 ⟨rfl, rfl⟩) | (guard_target =~ wpList _ _ _ (⟨_, Op.load 35 _, _, _, _, _⟩ :: _) _ _; refine wl_load _ rfl 35 _ rfl _ rfl _ HLD.out ?_; go_simp))
    go_ret
    exact KP.mk (by rw [← HG2.out]; rfl) HB.out
set_option maxHeartbeats 4000000 in
theorem rCheck12 (m : Mg) (pa ia ca ba : Option Addr) (pc ic cc bc : Nat) (hk : m.k = 12) (w : World)  (g : Nat) (hg : (if mbr m.mem = true then dayE C0 m.day else 1) = g) : Calls Tryz.prog 13 #[.agg (mcs m pa ia ca ba pc ic cc bc)] w (KP (.int .i64 g) w) := by
  have HG : Hid ((if mbr m.mem = true then dayE C0 m.day else 1) = g) := hg
  clear hg
  have HR : Hid (∀ W, Below w.heap.size w W → Calls Tryz.prog 37 #[.agg (mcs m pa ia ca ba pc ic cc bc)] W (KP (.int .i64 ((dayE C0 m.day : Nat) : Int)) W)) := fun W hb => rest12 m pa ia ca ba pc ic cc bc hk W  _ rfl
  generalize (dayE C0 m.day : Nat) = gr at *
  have HX0 : Hid (Bx (w.alloc (.cells (mcs m pa ia ca ba pc ic cc bc) 35)) w.heap.size (mcs m pa ia ca ba pc ic cc bc) 35) := Bx.new _ _ _
  have HB0 : Hid (Below w.heap.size w (w.alloc (.cells (mcs m pa ia ca ba pc ic cc bc) 35))) := below_a w _
  have hsz : (mcs m pa ia ca ba pc ic cc bc).size = 36 := mcs_size m pa ia ca ba pc ic cc bc
  go_enter Tryz.func13, Tryz.ntmps13
  go_upto_region 1 with fail
  generalize hw1 : w.alloc (.cells (mcs m pa ia ca ba pc ic cc bc) 35) = w1 at *
  have HX : Hid (Bx w1 w.heap.size (mcs m pa ia ca ba pc ic cc bc) 35) := HX0.out
  have HB : Hid (Below w.heap.size w w1) := HB0.out
  have HLD : Hid ((Instr.loadAt 35 (.pointer (some ⟨w.heap.size, 0, none⟩))).run Tryz.prog w1 = .ok (.agg (mcs m pa ia ca ba pc ic cc bc)) w1) := hloadAt w1 w.heap.size (mcs m pa ia ca ba pc ic cc bc) (mcs_size m pa ia ca ba pc ic cc bc) HX.out
  clear HX0 HB0 hw1
  have c0 : w1.cell? ⟨w.heap.size, 0, none⟩ = some (.int .i64 12) := by rw [← hk]; exact HX.out.cell 0
  have c1 : w1.cell? ⟨w.heap.size, 1, none⟩ = some (.int .i64 m.mem) := HX.out.cell 1
  by_cases e1 : mbr m.mem = true
  · have HG2 : Hid (gr = g) := by have := HG.out; rw [if_pos e1] at this; exact this
    clear HG
    go_wp2_with (first | (go_at_call 35; refine (rmember _ _ (by first | exact e1) _).mono ?_; rintro e w2 ⟨rfl, rfl⟩) | (guard_target =~ wpList _ _ _ (⟨_, Op.load 35 _, _, _, _, _⟩ :: _) _ _; refine wl_load _ rfl 35 _ rfl _ rfl _ HLD.out ?_; go_simp))
    refine (HR.out _ HB.out).mono ?_
    rintro e w2 ⟨rfl, hb⟩
    have HB2 : Hid (Below w.heap.size w w2) := bt HB.out hb.out
    clear hb
    go_wp2_with fail
    go_ret
    exact KP.mk (by rw [← HG2.out]; rfl) HB2.out
  · have e1 : mbr m.mem = false := by simpa using e1
    have HG2 : Hid (1 = g) := by have := HG.out; rw [if_neg (ff e1)] at this; exact this
    clear HG
    go_wp2_with (first | (go_at_call 35; refine (rmember _ _ (by first | exact e1) _).mono ?_; rintro e w2 ⟨rfl, rfl⟩) | (guard_target =~ wpList _ _ _ (⟨_, Op.load 35 _, _, _, _, _⟩ :: _) _ _; refine wl_load _ rfl 35 _ rfl _ rfl _ HLD.out ?_; go_simp))
    go_ret
    exact KP.mk (by rw [← HG2.out]; rfl) HB.out
set_option maxHeartbeats 4000000 in
theorem rCheck13 (m : Mg) (pa ia ca ba : Option Addr) (pc ic cc bc : Nat) (hk : m.k = 13) (w : World)  (g : Nat) (hg : (if mbr m.mem = true then 0 else 1) = g) : Calls Tryz.prog 13 #[.agg (mcs m pa ia ca ba pc ic cc bc)] w (KP (.int .i64 g) w) := by
  have HG : Hid ((if mbr m.mem = true then 0 else 1) = g) := hg
  clear hg
  have HR : Hid (∀ W, Below w.heap.size w W → Calls Tryz.prog 37 #[.agg (mcs m pa ia ca ba pc ic cc bc)] W (KP (.int .i64 ((0 : Nat) : Int)) W)) := fun W hb => rest13 m pa ia ca ba pc ic cc bc hk W 0 rfl
  have HX0 : Hid (Bx (w.alloc (.cells (mcs m pa ia ca ba pc ic cc bc) 35)) w.heap.size (mcs m pa ia ca ba pc ic cc bc) 35) := Bx.new _ _ _
  have HB0 : Hid (Below w.heap.size w (w.alloc (.cells (mcs m pa ia ca ba pc ic cc bc) 35))) := below_a w _
  have hsz : (mcs m pa ia ca ba pc ic cc bc).size = 36 := mcs_size m pa ia ca ba pc ic cc bc
  go_enter Tryz.func13, Tryz.ntmps13
  go_upto_region 1 with fail
  generalize hw1 : w.alloc (.cells (mcs m pa ia ca ba pc ic cc bc) 35) = w1 at *
  have HX : Hid (Bx w1 w.heap.size (mcs m pa ia ca ba pc ic cc bc) 35) := HX0.out
  have HB : Hid (Below w.heap.size w w1) := HB0.out
  have HLD : Hid ((Instr.loadAt 35 (.pointer (some ⟨w.heap.size, 0, none⟩))).run Tryz.prog w1 = .ok (.agg (mcs m pa ia ca ba pc ic cc bc)) w1) := hloadAt w1 w.heap.size (mcs m pa ia ca ba pc ic cc bc) (mcs_size m pa ia ca ba pc ic cc bc) HX.out
  clear HX0 HB0 hw1
  have c0 : w1.cell? ⟨w.heap.size, 0, none⟩ = some (.int .i64 13) := by rw [← hk]; exact HX.out.cell 0
  have c1 : w1.cell? ⟨w.heap.size, 1, none⟩ = some (.int .i64 m.mem) := HX.out.cell 1
  by_cases e1 : mbr m.mem = true
  · have HG2 : Hid (0 = g) := by have := HG.out; rw [if_pos e1] at this; exact this
    clear HG
    go_wp2_with (first | (go_at_call 35; refine (rmember _ _ (by first | exact e1) _).mono ?_; rintro e w2 ⟨rfl, rfl⟩) | (guard_target =~ wpList _ _ _ (⟨_, Op.load 35 _, _, _, _, _⟩ :: _) _ _; refine wl_load _ rfl 35 _ rfl _ rfl _ HLD.out ?_; go_simp))
    refine (HR.out _ HB.out).mono ?_
    rintro e w2 ⟨rfl, hb⟩
    have HB2 : Hid (Below w.heap.size w w2) := bt HB.out hb.out
    clear hb
    go_wp2_with fail
    go_ret
    exact KP.mk (by rw [← HG2.out]; rfl) HB2.out
  · have e1 : mbr m.mem = false := by simpa using e1
    have HG2 : Hid (1 = g) := by have := HG.out; rw [if_neg (ff e1)] at this; exact this
    clear HG
    go_wp2_with (first | (go_at_call 35; refine (rmember _ _ (by first | exact e1) _).mono ?_; rintro e w2 ⟨rfl, rfl⟩) | (guard_target =~ wpList _ _ _ (⟨_, Op.load 35 _, _, _, _, _⟩ :: _) _ _; refine wl_load _ rfl 35 _ rfl _ rfl _ HLD.out ?_; go_simp))
    go_ret
    exact KP.mk (by rw [← HG2.out]; rfl) HB.out
set_option maxHeartbeats 4000000 in
theorem rCheck14 (m : Mg) (pa ia ca ba : Option Addr) (pc ic cc bc : Nat) (hk : m.k = 14) (w : World)  (g : Nat) (hg : (if mbr m.mem = true then if inn m.n 0 1125899906842624 = true then 0 else 1 else 1) = g) : Calls Tryz.prog 13 #[.agg (mcs m pa ia ca ba pc ic cc bc)] w (KP (.int .i64 g) w) := by
  have HG : Hid ((if mbr m.mem = true then if inn m.n 0 1125899906842624 = true then 0 else 1 else 1) = g) := hg
  clear hg
  have HR : Hid (∀ W, Below w.heap.size w W → Calls Tryz.prog 37 #[.agg (mcs m pa ia ca ba pc ic cc bc)] W (KP (.int .i64 ((if inn m.n 0 1125899906842624 = true then 0 else 1 : Nat) : Int)) W)) := fun W hb => rest14 m pa ia ca ba pc ic cc bc hk W  _ rfl
  generalize (if inn m.n 0 1125899906842624 = true then 0 else 1 : Nat) = gr at *
  have HX0 : Hid (Bx (w.alloc (.cells (mcs m pa ia ca ba pc ic cc bc) 35)) w.heap.size (mcs m pa ia ca ba pc ic cc bc) 35) := Bx.new _ _ _
  have HB0 : Hid (Below w.heap.size w (w.alloc (.cells (mcs m pa ia ca ba pc ic cc bc) 35))) := below_a w _
  have hsz : (mcs m pa ia ca ba pc ic cc bc).size = 36 := mcs_size m pa ia ca ba pc ic cc bc
  go_enter Tryz.func13, Tryz.ntmps13
  go_upto_region 1 with fail
  generalize hw1 : w.alloc (.cells (mcs m pa ia ca ba pc ic cc bc) 35) = w1 at *
  have HX : Hid (Bx w1 w.heap.size (mcs m pa ia ca ba pc ic cc bc) 35) := HX0.out
  have HB : Hid (Below w.heap.size w w1) := HB0.out
  have HLD : Hid ((Instr.loadAt 35 (.pointer (some ⟨w.heap.size, 0, none⟩))).run Tryz.prog w1 = .ok (.agg (mcs m pa ia ca ba pc ic cc bc)) w1) := hloadAt w1 w.heap.size (mcs m pa ia ca ba pc ic cc bc) (mcs_size m pa ia ca ba pc ic cc bc) HX.out
  clear HX0 HB0 hw1
  have c0 : w1.cell? ⟨w.heap.size, 0, none⟩ = some (.int .i64 14) := by rw [← hk]; exact HX.out.cell 0
  have c1 : w1.cell? ⟨w.heap.size, 1, none⟩ = some (.int .i64 m.mem) := HX.out.cell 1
  by_cases e1 : mbr m.mem = true
  · have HG2 : Hid (gr = g) := by have := HG.out; rw [if_pos e1] at this; exact this
    clear HG
    go_wp2_with (first | (go_at_call 35; refine (rmember _ _ (by first | exact e1) _).mono ?_; rintro e w2 ⟨rfl, rfl⟩) | (guard_target =~ wpList _ _ _ (⟨_, Op.load 35 _, _, _, _, _⟩ :: _) _ _; refine wl_load _ rfl 35 _ rfl _ rfl _ HLD.out ?_; go_simp))
    refine (HR.out _ HB.out).mono ?_
    rintro e w2 ⟨rfl, hb⟩
    have HB2 : Hid (Below w.heap.size w w2) := bt HB.out hb.out
    clear hb
    go_wp2_with fail
    go_ret
    exact KP.mk (by rw [← HG2.out]; rfl) HB2.out
  · have e1 : mbr m.mem = false := by simpa using e1
    have HG2 : Hid (1 = g) := by have := HG.out; rw [if_neg (ff e1)] at this; exact this
    clear HG
    go_wp2_with (first | (go_at_call 35; refine (rmember _ _ (by first | exact e1) _).mono ?_; rintro e w2 ⟨rfl, rfl⟩) | (guard_target =~ wpList _ _ _ (⟨_, Op.load 35 _, _, _, _, _⟩ :: _) _ _; refine wl_load _ rfl 35 _ rfl _ rfl _ HLD.out ?_; go_simp))
    go_ret
    exact KP.mk (by rw [← HG2.out]; rfl) HB.out
set_option maxHeartbeats 4000000 in
theorem rCheck15 (m : Mg) (pa ia ca ba : Option Addr) (pc ic cc bc : Nat) (hk : m.k = 15) (w : World)  (g : Nat) (hg : (if amt m.tr = true then if inn m.rate (-1000000) 1000000 = true then dayE C0 m.day else 1 else 1) = g) : Calls Tryz.prog 13 #[.agg (mcs m pa ia ca ba pc ic cc bc)] w (KP (.int .i64 g) w) := by
  have HG : Hid ((if amt m.tr = true then if inn m.rate (-1000000) 1000000 = true then dayE C0 m.day else 1 else 1) = g) := hg
  clear hg
  have HR : Hid (∀ W, Below w.heap.size w W → Calls Tryz.prog 37 #[.agg (mcs m pa ia ca ba pc ic cc bc)] W (KP (.int .i64 ((if amt m.tr = true then if inn m.rate (-1000000) 1000000 = true then dayE C0 m.day else 1 else 1 : Nat) : Int)) W)) := fun W hb => rest15 m pa ia ca ba pc ic cc bc hk W  _ rfl
  generalize (if amt m.tr = true then if inn m.rate (-1000000) 1000000 = true then dayE C0 m.day else 1 else 1 : Nat) = gr at *
  have HX0 : Hid (Bx (w.alloc (.cells (mcs m pa ia ca ba pc ic cc bc) 35)) w.heap.size (mcs m pa ia ca ba pc ic cc bc) 35) := Bx.new _ _ _
  have HB0 : Hid (Below w.heap.size w (w.alloc (.cells (mcs m pa ia ca ba pc ic cc bc) 35))) := below_a w _
  have hsz : (mcs m pa ia ca ba pc ic cc bc).size = 36 := mcs_size m pa ia ca ba pc ic cc bc
  go_enter Tryz.func13, Tryz.ntmps13
  go_upto_region 1 with fail
  generalize hw1 : w.alloc (.cells (mcs m pa ia ca ba pc ic cc bc) 35) = w1 at *
  have HX : Hid (Bx w1 w.heap.size (mcs m pa ia ca ba pc ic cc bc) 35) := HX0.out
  have HB : Hid (Below w.heap.size w w1) := HB0.out
  have HLD : Hid ((Instr.loadAt 35 (.pointer (some ⟨w.heap.size, 0, none⟩))).run Tryz.prog w1 = .ok (.agg (mcs m pa ia ca ba pc ic cc bc)) w1) := hloadAt w1 w.heap.size (mcs m pa ia ca ba pc ic cc bc) (mcs_size m pa ia ca ba pc ic cc bc) HX.out
  clear HX0 HB0 hw1
  have c0 : w1.cell? ⟨w.heap.size, 0, none⟩ = some (.int .i64 15) := by rw [← hk]; exact HX.out.cell 0
  have HG2 : Hid (gr = g) := by have := HG.out; exact this
  clear HG
  go_wp2_with (first | (guard_target =~ wpList _ _ _ (⟨_, Op.load 35 _, _, _, _, _⟩ :: _) _ _; refine wl_load _ rfl 35 _ rfl _ rfl _ HLD.out ?_; go_simp))
  refine (HR.out _ HB.out).mono ?_
  rintro e w2 ⟨rfl, hb⟩
  have HB2 : Hid (Below w.heap.size w w2) := bt HB.out hb.out
  clear hb
  go_wp2_with fail
  go_ret
  exact KP.mk (by rw [← HG2.out]; rfl) HB2.out
set_option maxHeartbeats 4000000 in
theorem rCheck2 (m : Mg) (pa ia ca ba : Option Addr) (pc ic cc bc : Nat) (hk : m.k = 2) (w : World)  (g : Nat) (hg : (C0.ast m.a) = g) : Calls Tryz.prog 13 #[.agg (mcs m pa ia ca ba pc ic cc bc)] w (KP (.int .i64 g) w) := by
  have HG : Hid ((C0.ast m.a) = g) := hg
  clear hg
  have HC : Hid (∀ w, Calls Tryz.prog 31 #[.agg #[.string ⟨m.a.i.toArray⟩, .int .i64 m.a.iss, .int .i64 m.a.rat, .int .i64 m.a.mat, .string ⟨m.a.cur.toArray⟩]] w (NB (C0.ast m.a : Nat) w)) := fun w => rasset m.a _ rfl w
  generalize C0.ast m.a = dd at *
  have HX0 : Hid (Bx (w.alloc (.cells (mcs m pa ia ca ba pc ic cc bc) 35)) w.heap.size (mcs m pa ia ca ba pc ic cc bc) 35) := Bx.new _ _ _
  have HB0 : Hid (Below w.heap.size w (w.alloc (.cells (mcs m pa ia ca ba pc ic cc bc) 35))) := below_a w _
  have hsz : (mcs m pa ia ca ba pc ic cc bc).size = 36 := mcs_size m pa ia ca ba pc ic cc bc
  go_enter Tryz.func13, Tryz.ntmps13
  go_upto_region 1 with fail
  generalize hw1 : w.alloc (.cells (mcs m pa ia ca ba pc ic cc bc) 35) = w1 at *
  have HX : Hid (Bx w1 w.heap.size (mcs m pa ia ca ba pc ic cc bc) 35) := HX0.out
  have HB : Hid (Below w.heap.size w w1) := HB0.out
  have HLD : Hid ((Instr.loadAt 35 (.pointer (some ⟨w.heap.size, 0, none⟩))).run Tryz.prog w1 = .ok (.agg (mcs m pa ia ca ba pc ic cc bc)) w1) := hloadAt w1 w.heap.size (mcs m pa ia ca ba pc ic cc bc) (mcs_size m pa ia ca ba pc ic cc bc) HX.out
  clear HX0 HB0 hw1
  have c0 : w1.cell? ⟨w.heap.size, 0, none⟩ = some (.int .i64 2) := by rw [← hk]; exact HX.out.cell 0
  have c3 : w1.cell? ⟨w.heap.size, 3, none⟩ = some (.string ⟨m.a.i.toArray⟩) := HX.out.cell 3
  have c4 : w1.cell? ⟨w.heap.size, 4, none⟩ = some (.int .i64 m.a.iss) := HX.out.cell 4
  have c5 : w1.cell? ⟨w.heap.size, 5, none⟩ = some (.int .i64 m.a.rat) := HX.out.cell 5
  have c6 : w1.cell? ⟨w.heap.size, 6, none⟩ = some (.int .i64 m.a.mat) := HX.out.cell 6
  have c7 : w1.cell? ⟨w.heap.size, 7, none⟩ = some (.string ⟨m.a.cur.toArray⟩) := HX.out.cell 7
  have HG2 : Hid (dd = g) := by have := HG.out; exact this
  clear HG
  go_wp2_with fail
  refine (HC.out _).mono ?_
  rintro e w2 ⟨rfl, hb⟩
  have HB2 : Hid (Below w.heap.size w w2) := bt HB.out hb.out
  clear hb
  go_wp2_with fail
  go_ret
  exact KP.mk (by rw [← HG2.out]; rfl) HB2.out
set_option maxHeartbeats 4000000 in
theorem rCheck3 (m : Mg) (pa ia ca ba : Option Addr) (pc ic cc bc : Nat) (hk : m.k = 3) (w : World) (hC : Cts w.heap.size w ca m.b.cuts) (hI : Ins w.heap.size w ba m.b.bar) (hlc : m.b.cuts.length ≤ 9223372036854775807) (hlb : m.b.bar.length ≤ 9223372036854775807) (g : Nat) (hg : (bkE C0 m.b) = g) : Calls Tryz.prog 13 #[.agg (mcs m pa ia ca ba pc ic cc bc)] w (KP (.int .i64 g) w) := by
  have HG : Hid ((bkE C0 m.b) = g) := hg
  clear hg
  have HC : Hid (∀ W, Below w.heap.size w W → Calls Tryz.prog 17 #[.agg #[.int .i64 m.b.id, .int .i64 m.b.ver, .string ⟨m.b.cur.toArray⟩, .int .i64 m.b.rat, .int .i64 m.b.least, .int .i64 m.b.most, .slice ca m.b.cuts.length cc, .int .i64 m.b.iss, .int .i64 m.b.ass, .slice ba m.b.bar.length bc]] W (KP (.int .i64 (bkE C0 m.b : Nat)) W)) := fun W hb => rBasket m.b ca ba cc bc W ((hC.keep hb).mono hb.size) ((hI.keep hb).mono hb.size) hlc hlb _ rfl
  generalize bkE C0 m.b = dd at *
  clear hC hI
  have HX0 : Hid (Bx (w.alloc (.cells (mcs m pa ia ca ba pc ic cc bc) 35)) w.heap.size (mcs m pa ia ca ba pc ic cc bc) 35) := Bx.new _ _ _
  have HB0 : Hid (Below w.heap.size w (w.alloc (.cells (mcs m pa ia ca ba pc ic cc bc) 35))) := below_a w _
  have hsz : (mcs m pa ia ca ba pc ic cc bc).size = 36 := mcs_size m pa ia ca ba pc ic cc bc
  go_enter Tryz.func13, Tryz.ntmps13
  go_upto_region 1 with fail
  generalize hw1 : w.alloc (.cells (mcs m pa ia ca ba pc ic cc bc) 35) = w1 at *
  have HX : Hid (Bx w1 w.heap.size (mcs m pa ia ca ba pc ic cc bc) 35) := HX0.out
  have HB : Hid (Below w.heap.size w w1) := HB0.out
  have HLD : Hid ((Instr.loadAt 35 (.pointer (some ⟨w.heap.size, 0, none⟩))).run Tryz.prog w1 = .ok (.agg (mcs m pa ia ca ba pc ic cc bc)) w1) := hloadAt w1 w.heap.size (mcs m pa ia ca ba pc ic cc bc) (mcs_size m pa ia ca ba pc ic cc bc) HX.out
  clear HX0 HB0 hw1
  have c0 : w1.cell? ⟨w.heap.size, 0, none⟩ = some (.int .i64 3) := by rw [← hk]; exact HX.out.cell 0
  have c8 : w1.cell? ⟨w.heap.size, 8, none⟩ = some (.int .i64 m.b.id) := HX.out.cell 8
  have c9 : w1.cell? ⟨w.heap.size, 9, none⟩ = some (.int .i64 m.b.ver) := HX.out.cell 9
  have c10 : w1.cell? ⟨w.heap.size, 10, none⟩ = some (.string ⟨m.b.cur.toArray⟩) := HX.out.cell 10
  have c11 : w1.cell? ⟨w.heap.size, 11, none⟩ = some (.int .i64 m.b.rat) := HX.out.cell 11
  have c12 : w1.cell? ⟨w.heap.size, 12, none⟩ = some (.int .i64 m.b.least) := HX.out.cell 12
  have c13 : w1.cell? ⟨w.heap.size, 13, none⟩ = some (.int .i64 m.b.most) := HX.out.cell 13
  have c14 : w1.cell? ⟨w.heap.size, 14, none⟩ = some (.slice ca m.b.cuts.length cc) := HX.out.cell 14
  have c15 : w1.cell? ⟨w.heap.size, 15, none⟩ = some (.int .i64 m.b.iss) := HX.out.cell 15
  have c16 : w1.cell? ⟨w.heap.size, 16, none⟩ = some (.int .i64 m.b.ass) := HX.out.cell 16
  have c17 : w1.cell? ⟨w.heap.size, 17, none⟩ = some (.slice ba m.b.bar.length bc) := HX.out.cell 17
  have HG2 : Hid (dd = g) := by have := HG.out; exact this
  clear HG
  go_wp2_with fail
  refine (HC.out _ HB.out).mono ?_
  rintro e w2 ⟨rfl, hb⟩
  have HB2 : Hid (Below w.heap.size w w2) := bt HB.out hb.out
  clear hb
  go_wp2_with fail
  go_ret
  exact KP.mk (by rw [← HG2.out]; rfl) HB2.out
set_option maxHeartbeats 4000000 in
theorem rCheck4 (m : Mg) (pa ia ca ba : Option Addr) (pc ic cc bc : Nat) (hk : m.k = 4) (w : World) (hL : Lts w.heap.size w pa m.ps) (hl : m.ps.length ≤ 9223372036854775807) (g : Nat) (hg : (prE C0 m.ps) = g) : Calls Tryz.prog 13 #[.agg (mcs m pa ia ca ba pc ic cc bc)] w (KP (.int .i64 g) w) := by
  have HG : Hid ((prE C0 m.ps) = g) := hg
  clear hg
  have HC : Hid (∀ W, Below w.heap.size w W → Calls Tryz.prog 32 #[.slice pa m.ps.length pc] W (KP (.int .i64 (prE C0 m.ps : Nat)) W)) := fun W hb => rprices m.ps pa pc W ((hL.keep hb).mono hb.size) hl _ rfl
  generalize prE C0 m.ps = dd at *
  clear hL
  have HX0 : Hid (Bx (w.alloc (.cells (mcs m pa ia ca ba pc ic cc bc) 35)) w.heap.size (mcs m pa ia ca ba pc ic cc bc) 35) := Bx.new _ _ _
  have HB0 : Hid (Below w.heap.size w (w.alloc (.cells (mcs m pa ia ca ba pc ic cc bc) 35))) := below_a w _
  have hsz : (mcs m pa ia ca ba pc ic cc bc).size = 36 := mcs_size m pa ia ca ba pc ic cc bc
  go_enter Tryz.func13, Tryz.ntmps13
  go_upto_region 1 with fail
  generalize hw1 : w.alloc (.cells (mcs m pa ia ca ba pc ic cc bc) 35) = w1 at *
  have HX : Hid (Bx w1 w.heap.size (mcs m pa ia ca ba pc ic cc bc) 35) := HX0.out
  have HB : Hid (Below w.heap.size w w1) := HB0.out
  have HLD : Hid ((Instr.loadAt 35 (.pointer (some ⟨w.heap.size, 0, none⟩))).run Tryz.prog w1 = .ok (.agg (mcs m pa ia ca ba pc ic cc bc)) w1) := hloadAt w1 w.heap.size (mcs m pa ia ca ba pc ic cc bc) (mcs_size m pa ia ca ba pc ic cc bc) HX.out
  clear HX0 HB0 hw1
  have c0 : w1.cell? ⟨w.heap.size, 0, none⟩ = some (.int .i64 4) := by rw [← hk]; exact HX.out.cell 0
  have c18 : w1.cell? ⟨w.heap.size, 18, none⟩ = some (.slice pa m.ps.length pc) := HX.out.cell 18
  have HG2 : Hid (dd = g) := by have := HG.out; exact this
  clear HG
  go_wp2_with fail
  refine (HC.out _ HB.out).mono ?_
  rintro e w2 ⟨rfl, hb⟩
  have HB2 : Hid (Below w.heap.size w w2) := bt HB.out hb.out
  clear hb
  go_wp2_with fail
  go_ret
  exact KP.mk (by rw [← HG2.out]; rfl) HB2.out
set_option maxHeartbeats 4000000 in
theorem rCheck5 (m : Mg) (pa ia ca ba : Option Addr) (pc ic cc bc : Nat) (hk : m.k = 5) (w : World)  (g : Nat) (hg : (dayE C0 m.day) = g) : Calls Tryz.prog 13 #[.agg (mcs m pa ia ca ba pc ic cc bc)] w (KP (.int .i64 g) w) := by
  have HG : Hid ((dayE C0 m.day) = g) := hg
  clear hg
  have HC : Hid (∀ w, Calls Tryz.prog 33 #[.int .i64 m.day] w (NP .i64 (dayE C0 m.day : Nat) w)) := fun w => rday m.day _ rfl w
  generalize dayE C0 m.day = dd at *
  have HX0 : Hid (Bx (w.alloc (.cells (mcs m pa ia ca ba pc ic cc bc) 35)) w.heap.size (mcs m pa ia ca ba pc ic cc bc) 35) := Bx.new _ _ _
  have HB0 : Hid (Below w.heap.size w (w.alloc (.cells (mcs m pa ia ca ba pc ic cc bc) 35))) := below_a w _
  have hsz : (mcs m pa ia ca ba pc ic cc bc).size = 36 := mcs_size m pa ia ca ba pc ic cc bc
  go_enter Tryz.func13, Tryz.ntmps13
  go_upto_region 1 with fail
  generalize hw1 : w.alloc (.cells (mcs m pa ia ca ba pc ic cc bc) 35) = w1 at *
  have HX : Hid (Bx w1 w.heap.size (mcs m pa ia ca ba pc ic cc bc) 35) := HX0.out
  have HB : Hid (Below w.heap.size w w1) := HB0.out
  have HLD : Hid ((Instr.loadAt 35 (.pointer (some ⟨w.heap.size, 0, none⟩))).run Tryz.prog w1 = .ok (.agg (mcs m pa ia ca ba pc ic cc bc)) w1) := hloadAt w1 w.heap.size (mcs m pa ia ca ba pc ic cc bc) (mcs_size m pa ia ca ba pc ic cc bc) HX.out
  clear HX0 HB0 hw1
  have c0 : w1.cell? ⟨w.heap.size, 0, none⟩ = some (.int .i64 5) := by rw [← hk]; exact HX.out.cell 0
  have c19 : w1.cell? ⟨w.heap.size, 19, none⟩ = some (.int .i64 m.day) := HX.out.cell 19
  have HG2 : Hid (dd = g) := by have := HG.out; exact this
  clear HG
  go_wp2_with fail
  refine (HC.out _).mono ?_
  rintro e w2 ⟨rfl, rfl⟩
  go_wp2_with fail
  go_ret
  exact KP.mk (by rw [← HG2.out]; rfl) HB.out
set_option maxHeartbeats 4000000 in
theorem rCheck8 (m : Mg) (pa ia ca ba : Option Addr) (pc ic cc bc : Nat) (hk : m.k = 8) (w : World)  (g : Nat) (hg : (if mbr m.q.mem = true then quE C0 m.q else 1) = g) : Calls Tryz.prog 13 #[.agg (mcs m pa ia ca ba pc ic cc bc)] w (KP (.int .i64 g) w) := by
  have HG : Hid ((if mbr m.q.mem = true then quE C0 m.q else 1) = g) := hg
  clear hg
  have HC : Hid (∀ w, Calls Tryz.prog 36 #[.agg #[.int .i64 m.q.id, .int .i64 m.q.mem, .int .i64 m.q.side, .int .i64 m.q.bas, .int .i64 m.q.am, .int .i64 m.q.rate, .int .i64 m.q.st, .int .i64 m.q.en]] w (KP (.int .i64 (quE C0 m.q : Nat)) w)) := fun w => rQuoteE m.q _ rfl w
  generalize quE C0 m.q = dd at *
  have HX0 : Hid (Bx (w.alloc (.cells (mcs m pa ia ca ba pc ic cc bc) 35)) w.heap.size (mcs m pa ia ca ba pc ic cc bc) 35) := Bx.new _ _ _
  have HB0 : Hid (Below w.heap.size w (w.alloc (.cells (mcs m pa ia ca ba pc ic cc bc) 35))) := below_a w _
  have hsz : (mcs m pa ia ca ba pc ic cc bc).size = 36 := mcs_size m pa ia ca ba pc ic cc bc
  go_enter Tryz.func13, Tryz.ntmps13
  go_upto_region 1 with fail
  generalize hw1 : w.alloc (.cells (mcs m pa ia ca ba pc ic cc bc) 35) = w1 at *
  have HX : Hid (Bx w1 w.heap.size (mcs m pa ia ca ba pc ic cc bc) 35) := HX0.out
  have HB : Hid (Below w.heap.size w w1) := HB0.out
  have HLD : Hid ((Instr.loadAt 35 (.pointer (some ⟨w.heap.size, 0, none⟩))).run Tryz.prog w1 = .ok (.agg (mcs m pa ia ca ba pc ic cc bc)) w1) := hloadAt w1 w.heap.size (mcs m pa ia ca ba pc ic cc bc) (mcs_size m pa ia ca ba pc ic cc bc) HX.out
  clear HX0 HB0 hw1
  have c0 : w1.cell? ⟨w.heap.size, 0, none⟩ = some (.int .i64 8) := by rw [← hk]; exact HX.out.cell 0
  have c22 : w1.cell? ⟨w.heap.size, 22, none⟩ = some (.int .i64 m.q.id) := HX.out.cell 22
  have c23 : w1.cell? ⟨w.heap.size, 23, none⟩ = some (.int .i64 m.q.mem) := HX.out.cell 23
  have c24 : w1.cell? ⟨w.heap.size, 24, none⟩ = some (.int .i64 m.q.side) := HX.out.cell 24
  have c25 : w1.cell? ⟨w.heap.size, 25, none⟩ = some (.int .i64 m.q.bas) := HX.out.cell 25
  have c26 : w1.cell? ⟨w.heap.size, 26, none⟩ = some (.int .i64 m.q.am) := HX.out.cell 26
  have c27 : w1.cell? ⟨w.heap.size, 27, none⟩ = some (.int .i64 m.q.rate) := HX.out.cell 27
  have c28 : w1.cell? ⟨w.heap.size, 28, none⟩ = some (.int .i64 m.q.st) := HX.out.cell 28
  have c29 : w1.cell? ⟨w.heap.size, 29, none⟩ = some (.int .i64 m.q.en) := HX.out.cell 29
  by_cases e1 : mbr m.q.mem = true
  · have HG2 : Hid (dd = g) := by have := HG.out; rw [if_pos e1] at this; exact this
    clear HG
    go_wp2_with (first | (go_at_call 35; refine (rmember _ _ (by first | exact e1) _).mono ?_; rintro e w2 ⟨rfl, rfl⟩))
    refine (HC.out _).mono ?_
    rintro e w2 ⟨rfl, hb⟩
    have HB2 : Hid (Below w.heap.size w w2) := bt HB.out hb.out
    clear hb
    go_wp2_with fail
    go_ret
    exact KP.mk (by rw [← HG2.out]; rfl) HB2.out
  · have e1 : mbr m.q.mem = false := by simpa using e1
    have HG2 : Hid (1 = g) := by have := HG.out; rw [if_neg (ff e1)] at this; exact this
    clear HG
    go_wp2_with (first | (go_at_call 35; refine (rmember _ _ (by first | exact e1) _).mono ?_; rintro e w2 ⟨rfl, rfl⟩))
    go_ret
    exact KP.mk (by rw [← HG2.out]; rfl) HB.out
set_option maxHeartbeats 4000000 in
theorem rCheck0 (m : Mg) (pa ia ca ba : Option Addr) (pc ic cc bc : Nat) (w : World) (h0 : inn m.k 1 15 = false) : Calls Tryz.prog 13 #[.agg (mcs m pa ia ca ba pc ic cc bc)] w (KP (.int .i64 17) w) := by
  have hk2 : ¬ (1 ≤ m.k ∧ m.k ≤ 15) := by unfold inn at h0; rw [Bool.and_eq_false_iff, decide_eq_false_iff_not, decide_eq_false_iff_not] at h0; omega
  have HO : Hid (m.k < 1 ∨ m.k > 15) := by unfold Hid; omega
  have q2 : (m.k == 2) = false := by rw [beq_eq_false_iff_ne]; omega
  have q3 : (m.k == 3) = false := by rw [beq_eq_false_iff_ne]; omega
  have q4 : (m.k == 4) = false := by rw [beq_eq_false_iff_ne]; omega
  have q5 : (m.k == 5) = false := by rw [beq_eq_false_iff_ne]; omega
  have q6 : (m.k == 6) = false := by rw [beq_eq_false_iff_ne]; omega
  have q8 : (m.k == 8) = false := by rw [beq_eq_false_iff_ne]; omega
  clear h0 hk2
  have HX0 : Hid (Bx (w.alloc (.cells (mcs m pa ia ca ba pc ic cc bc) 35)) w.heap.size (mcs m pa ia ca ba pc ic cc bc) 35) := Bx.new _ _ _
  have HB0 : Hid (Below w.heap.size w (w.alloc (.cells (mcs m pa ia ca ba pc ic cc bc) 35))) := below_a w _
  have hsz : (mcs m pa ia ca ba pc ic cc bc).size = 36 := mcs_size m pa ia ca ba pc ic cc bc
  go_enter Tryz.func13, Tryz.ntmps13
  go_upto_region 1 with fail
  generalize hw1 : w.alloc (.cells (mcs m pa ia ca ba pc ic cc bc) 35) = w1 at *
  have HX : Hid (Bx w1 w.heap.size (mcs m pa ia ca ba pc ic cc bc) 35) := HX0.out
  have HB : Hid (Below w.heap.size w w1) := HB0.out
  have HLD : Hid ((Instr.loadAt 35 (.pointer (some ⟨w.heap.size, 0, none⟩))).run Tryz.prog w1 = .ok (.agg (mcs m pa ia ca ba pc ic cc bc)) w1) := hloadAt w1 w.heap.size (mcs m pa ia ca ba pc ic cc bc) (mcs_size m pa ia ca ba pc ic cc bc) HX.out
  clear HX0 HB0 hw1
  have c0 : w1.cell? ⟨w.heap.size, 0, none⟩ = some (.int .i64 m.k) := HX.out.cell 0
  by_cases h1 : m.k < 1
  · go_wp2_with fail
    go_ret
    exact KP.mk rfl HB.out
  · have h2 : m.k > 15 := by have := HO.out; omega
    go_wp2_with fail
    go_ret
    exact KP.mk rfl HB.out
def sendM (m : Mg) : Int := if m.k = 8 then m.q.mem else if m.k = 9 then m.mem else if m.k = 10 then m.mem else if m.k = 11 then m.mem else 0
theorem rSend8 (m : Mg) (pa ia ca ba : Option Addr) (pc ic cc bc : Nat) (hk : m.k = 8) (w : World) : Calls Tryz.prog 15 #[.agg (mcs m pa ia ca ba pc ic cc bc)] w (KP (.int .i64 m.q.mem) w) := by
  have HX0 : Hid (Bx (w.alloc (.cells (mcs m pa ia ca ba pc ic cc bc) 35)) w.heap.size (mcs m pa ia ca ba pc ic cc bc) 35) := Bx.new _ _ _
  have HB0 : Hid (Below w.heap.size w (w.alloc (.cells (mcs m pa ia ca ba pc ic cc bc) 35))) := below_a w _
  have hsz : (mcs m pa ia ca ba pc ic cc bc).size = 36 := mcs_size m pa ia ca ba pc ic cc bc
  go_enter Tryz.func15, Tryz.ntmps15
  go_upto_region 1 with fail
  generalize hw1 : w.alloc (.cells (mcs m pa ia ca ba pc ic cc bc) 35) = w1 at *
  have HX : Hid (Bx w1 w.heap.size (mcs m pa ia ca ba pc ic cc bc) 35) := HX0.out
  have HB : Hid (Below w.heap.size w w1) := HB0.out
  have HLD : Hid ((Instr.loadAt 35 (.pointer (some ⟨w.heap.size, 0, none⟩))).run Tryz.prog w1 = .ok (.agg (mcs m pa ia ca ba pc ic cc bc)) w1) := hloadAt w1 w.heap.size (mcs m pa ia ca ba pc ic cc bc) (mcs_size m pa ia ca ba pc ic cc bc) HX.out
  clear HX0 HB0 hw1
  have c0 : w1.cell? ⟨w.heap.size, 0, none⟩ = some (.int .i64 8) := by rw [← hk]; exact HX.out.cell 0
  have c23 : w1.cell? ⟨w.heap.size, 23, none⟩ = some (.int .i64 m.q.mem) := HX.out.cell 23
  go_wp2_with fail
  go_ret
  exact KP.mk rfl HB.out
theorem rSend9 (m : Mg) (pa ia ca ba : Option Addr) (pc ic cc bc : Nat) (hk : m.k = 9) (w : World) : Calls Tryz.prog 15 #[.agg (mcs m pa ia ca ba pc ic cc bc)] w (KP (.int .i64 m.mem) w) := by
  have HX0 : Hid (Bx (w.alloc (.cells (mcs m pa ia ca ba pc ic cc bc) 35)) w.heap.size (mcs m pa ia ca ba pc ic cc bc) 35) := Bx.new _ _ _
  have HB0 : Hid (Below w.heap.size w (w.alloc (.cells (mcs m pa ia ca ba pc ic cc bc) 35))) := below_a w _
  have hsz : (mcs m pa ia ca ba pc ic cc bc).size = 36 := mcs_size m pa ia ca ba pc ic cc bc
  go_enter Tryz.func15, Tryz.ntmps15
  go_upto_region 1 with fail
  generalize hw1 : w.alloc (.cells (mcs m pa ia ca ba pc ic cc bc) 35) = w1 at *
  have HX : Hid (Bx w1 w.heap.size (mcs m pa ia ca ba pc ic cc bc) 35) := HX0.out
  have HB : Hid (Below w.heap.size w w1) := HB0.out
  have HLD : Hid ((Instr.loadAt 35 (.pointer (some ⟨w.heap.size, 0, none⟩))).run Tryz.prog w1 = .ok (.agg (mcs m pa ia ca ba pc ic cc bc)) w1) := hloadAt w1 w.heap.size (mcs m pa ia ca ba pc ic cc bc) (mcs_size m pa ia ca ba pc ic cc bc) HX.out
  clear HX0 HB0 hw1
  have c0 : w1.cell? ⟨w.heap.size, 0, none⟩ = some (.int .i64 9) := by rw [← hk]; exact HX.out.cell 0
  have c1 : w1.cell? ⟨w.heap.size, 1, none⟩ = some (.int .i64 m.mem) := HX.out.cell 1
  go_wp2_with fail
  go_ret
  exact KP.mk rfl HB.out
theorem rSend10 (m : Mg) (pa ia ca ba : Option Addr) (pc ic cc bc : Nat) (hk : m.k = 10) (w : World) : Calls Tryz.prog 15 #[.agg (mcs m pa ia ca ba pc ic cc bc)] w (KP (.int .i64 m.mem) w) := by
  have HX0 : Hid (Bx (w.alloc (.cells (mcs m pa ia ca ba pc ic cc bc) 35)) w.heap.size (mcs m pa ia ca ba pc ic cc bc) 35) := Bx.new _ _ _
  have HB0 : Hid (Below w.heap.size w (w.alloc (.cells (mcs m pa ia ca ba pc ic cc bc) 35))) := below_a w _
  have hsz : (mcs m pa ia ca ba pc ic cc bc).size = 36 := mcs_size m pa ia ca ba pc ic cc bc
  go_enter Tryz.func15, Tryz.ntmps15
  go_upto_region 1 with fail
  generalize hw1 : w.alloc (.cells (mcs m pa ia ca ba pc ic cc bc) 35) = w1 at *
  have HX : Hid (Bx w1 w.heap.size (mcs m pa ia ca ba pc ic cc bc) 35) := HX0.out
  have HB : Hid (Below w.heap.size w w1) := HB0.out
  have HLD : Hid ((Instr.loadAt 35 (.pointer (some ⟨w.heap.size, 0, none⟩))).run Tryz.prog w1 = .ok (.agg (mcs m pa ia ca ba pc ic cc bc)) w1) := hloadAt w1 w.heap.size (mcs m pa ia ca ba pc ic cc bc) (mcs_size m pa ia ca ba pc ic cc bc) HX.out
  clear HX0 HB0 hw1
  have c0 : w1.cell? ⟨w.heap.size, 0, none⟩ = some (.int .i64 10) := by rw [← hk]; exact HX.out.cell 0
  have c1 : w1.cell? ⟨w.heap.size, 1, none⟩ = some (.int .i64 m.mem) := HX.out.cell 1
  go_wp2_with fail
  go_ret
  exact KP.mk rfl HB.out
theorem rSend11 (m : Mg) (pa ia ca ba : Option Addr) (pc ic cc bc : Nat) (hk : m.k = 11) (w : World) : Calls Tryz.prog 15 #[.agg (mcs m pa ia ca ba pc ic cc bc)] w (KP (.int .i64 m.mem) w) := by
  have HX0 : Hid (Bx (w.alloc (.cells (mcs m pa ia ca ba pc ic cc bc) 35)) w.heap.size (mcs m pa ia ca ba pc ic cc bc) 35) := Bx.new _ _ _
  have HB0 : Hid (Below w.heap.size w (w.alloc (.cells (mcs m pa ia ca ba pc ic cc bc) 35))) := below_a w _
  have hsz : (mcs m pa ia ca ba pc ic cc bc).size = 36 := mcs_size m pa ia ca ba pc ic cc bc
  go_enter Tryz.func15, Tryz.ntmps15
  go_upto_region 1 with fail
  generalize hw1 : w.alloc (.cells (mcs m pa ia ca ba pc ic cc bc) 35) = w1 at *
  have HX : Hid (Bx w1 w.heap.size (mcs m pa ia ca ba pc ic cc bc) 35) := HX0.out
  have HB : Hid (Below w.heap.size w w1) := HB0.out
  have HLD : Hid ((Instr.loadAt 35 (.pointer (some ⟨w.heap.size, 0, none⟩))).run Tryz.prog w1 = .ok (.agg (mcs m pa ia ca ba pc ic cc bc)) w1) := hloadAt w1 w.heap.size (mcs m pa ia ca ba pc ic cc bc) (mcs_size m pa ia ca ba pc ic cc bc) HX.out
  clear HX0 HB0 hw1
  have c0 : w1.cell? ⟨w.heap.size, 0, none⟩ = some (.int .i64 11) := by rw [← hk]; exact HX.out.cell 0
  have c1 : w1.cell? ⟨w.heap.size, 1, none⟩ = some (.int .i64 m.mem) := HX.out.cell 1
  go_wp2_with fail
  go_ret
  exact KP.mk rfl HB.out
theorem rSend0 (m : Mg) (pa ia ca ba : Option Addr) (pc ic cc bc : Nat) (h1 : m.k ≠ 8) (h2 : m.k ≠ 9) (h3 : m.k ≠ 10) (h4 : m.k ≠ 11) (w : World) : Calls Tryz.prog 15 #[.agg (mcs m pa ia ca ba pc ic cc bc)] w (KP (.int .i64 0) w) := by
  have q8 : (m.k == 8) = false := by rw [beq_eq_false_iff_ne]; omega
  have q9 : (m.k == 9) = false := by rw [beq_eq_false_iff_ne]; omega
  have q10 : (m.k == 10) = false := by rw [beq_eq_false_iff_ne]; omega
  have q11 : (m.k == 11) = false := by rw [beq_eq_false_iff_ne]; omega
  clear h1 h2 h3 h4
  have HX0 : Hid (Bx (w.alloc (.cells (mcs m pa ia ca ba pc ic cc bc) 35)) w.heap.size (mcs m pa ia ca ba pc ic cc bc) 35) := Bx.new _ _ _
  have HB0 : Hid (Below w.heap.size w (w.alloc (.cells (mcs m pa ia ca ba pc ic cc bc) 35))) := below_a w _
  have hsz : (mcs m pa ia ca ba pc ic cc bc).size = 36 := mcs_size m pa ia ca ba pc ic cc bc
  go_enter Tryz.func15, Tryz.ntmps15
  go_upto_region 1 with fail
  generalize hw1 : w.alloc (.cells (mcs m pa ia ca ba pc ic cc bc) 35) = w1 at *
  have HX : Hid (Bx w1 w.heap.size (mcs m pa ia ca ba pc ic cc bc) 35) := HX0.out
  have HB : Hid (Below w.heap.size w w1) := HB0.out
  have HLD : Hid ((Instr.loadAt 35 (.pointer (some ⟨w.heap.size, 0, none⟩))).run Tryz.prog w1 = .ok (.agg (mcs m pa ia ca ba pc ic cc bc)) w1) := hloadAt w1 w.heap.size (mcs m pa ia ca ba pc ic cc bc) (mcs_size m pa ia ca ba pc ic cc bc) HX.out
  clear HX0 HB0 hw1
  have c0 : w1.cell? ⟨w.heap.size, 0, none⟩ = some (.int .i64 m.k) := HX.out.cell 0
  go_wp2_with fail
  go_ret
  exact KP.mk rfl HB.out
end Go.Proofs.YtdmlgheajblcdaaGreat

/- Layer 10: Check of both, every kind. -/
namespace Go.Proofs.YtdmlgheajblcdaaGreat
open Go.RowKit
set_option linter.unusedVariables false
set_option linter.unusedSimpArgs false
set_option maxRecDepth 20000
theorem xCk1 (m : Mg) (pa ia ca ba : Option Addr) (pc ic cc bc : Nat) (hk : m.k = 1) (w : World) (hH : Hld w.heap.size w m pa ia ca ba) (hW : m.Wf) (hZ : Szd m) : Calls Tryz.prog 12 #[.iface 76 (.agg #[.int .i64 m.mem, .string ⟨m.name.toArray⟩])] w (KP (.int .i64 ((if mbr m.mem = true then C0.nm m.name else 1 : Nat) : Int)) w) :=
  checkV1 (m.mem) ⟨m.name.toArray⟩ _ w (fun W hb => check1 m pa ia ca ba pc ic cc bc W (by have := hZ.name; omega) _ rfl)
theorem rCk1 (m : Mg) (pa ia ca ba : Option Addr) (pc ic cc bc : Nat) (hk : m.k = 1) (w : World) (hH : Hld w.heap.size w m pa ia ca ba) (hW : m.Wf) (hZ : Szd m) : Calls Tryz.prog 13 #[.agg (mcs m pa ia ca ba pc ic cc bc)] w (KP (.int .i64 ((if mbr m.mem = true then C0.nm m.name else 1 : Nat) : Int)) w) := by
  have hb : Below w.heap.size w w := Below.refl _ _
  have W := w
  exact rCheck1 m pa ia ca ba pc ic cc bc hk w (by have := hZ.name; omega) _ rfl
theorem xCk2 (m : Mg) (pa ia ca ba : Option Addr) (pc ic cc bc : Nat) (hk : m.k = 2) (w : World) (hH : Hld w.heap.size w m pa ia ca ba) (hW : m.Wf) (hZ : Szd m) : Calls Tryz.prog 12 #[.iface 78 (.agg #[.string ⟨m.a.i.toArray⟩, .int .i64 m.a.iss, .int .i64 m.a.rat, .int .i64 m.a.mat, .string ⟨m.a.cur.toArray⟩])] w (KP (.int .i64 ((C0.ast m.a : Nat) : Int)) w) :=
  checkV2 ⟨m.a.i.toArray⟩ (m.a.iss) (m.a.rat) (m.a.mat) ⟨m.a.cur.toArray⟩ _ w (fun W hb => check2 m pa ia ca ba pc ic cc bc W (by have := hZ.ai; omega) _ rfl)
theorem rCk2 (m : Mg) (pa ia ca ba : Option Addr) (pc ic cc bc : Nat) (hk : m.k = 2) (w : World) (hH : Hld w.heap.size w m pa ia ca ba) (hW : m.Wf) (hZ : Szd m) : Calls Tryz.prog 13 #[.agg (mcs m pa ia ca ba pc ic cc bc)] w (KP (.int .i64 ((C0.ast m.a : Nat) : Int)) w) := by
  have hb : Below w.heap.size w w := Below.refl _ _
  have W := w
  exact rCheck2 m pa ia ca ba pc ic cc bc hk w  _ rfl
theorem xCk3 (m : Mg) (pa ia ca ba : Option Addr) (pc ic cc bc : Nat) (hk : m.k = 3) (w : World) (hH : Hld w.heap.size w m pa ia ca ba) (hW : m.Wf) (hZ : Szd m) : Calls Tryz.prog 12 #[.iface 80 (.agg #[.int .i64 m.b.id, .int .i64 m.b.ver, .string ⟨m.b.cur.toArray⟩, .int .i64 m.b.rat, .int .i64 m.b.least, .int .i64 m.b.most, .slice ca m.b.cuts.length cc, .int .i64 m.b.iss, .int .i64 m.b.ass, .slice ba m.b.bar.length bc])] w (KP (.int .i64 ((bkE C0 m.b : Nat) : Int)) w) :=
  checkV3 (m.b.id) (m.b.ver) ⟨m.b.cur.toArray⟩ (m.b.rat) (m.b.least) (m.b.most) ca (m.b.cuts.length) cc (m.b.iss) (m.b.ass) ba (m.b.bar.length) bc _ w (fun W hb => check3 m pa ia ca ba pc ic cc bc W ((hH.cuts.keep hb).mono hb.size) ((hH.bar.keep hb).mono hb.size) hZ.lc hZ.lb _ rfl)
theorem rCk3 (m : Mg) (pa ia ca ba : Option Addr) (pc ic cc bc : Nat) (hk : m.k = 3) (w : World) (hH : Hld w.heap.size w m pa ia ca ba) (hW : m.Wf) (hZ : Szd m) : Calls Tryz.prog 13 #[.agg (mcs m pa ia ca ba pc ic cc bc)] w (KP (.int .i64 ((bkE C0 m.b : Nat) : Int)) w) := by
  have hb : Below w.heap.size w w := Below.refl _ _
  have W := w
  exact rCheck3 m pa ia ca ba pc ic cc bc hk w ((hH.cuts.keep hb).mono hb.size) ((hH.bar.keep hb).mono hb.size) hZ.lc hZ.lb _ rfl
theorem xCk4 (m : Mg) (pa ia ca ba : Option Addr) (pc ic cc bc : Nat) (hk : m.k = 4) (w : World) (hH : Hld w.heap.size w m pa ia ca ba) (hW : m.Wf) (hZ : Szd m) : Calls Tryz.prog 12 #[.iface 82 (.agg #[.slice pa m.ps.length pc])] w (KP (.int .i64 ((prE C0 m.ps : Nat) : Int)) w) :=
  checkV4 pa (m.ps.length) pc _ w (fun W hb => check4 m pa ia ca ba pc ic cc bc W ((hH.ps.keep hb).mono hb.size) (fun y hy => by have := hZ.ps y hy; omega) hZ.lp _ rfl)
theorem rCk4 (m : Mg) (pa ia ca ba : Option Addr) (pc ic cc bc : Nat) (hk : m.k = 4) (w : World) (hH : Hld w.heap.size w m pa ia ca ba) (hW : m.Wf) (hZ : Szd m) : Calls Tryz.prog 13 #[.agg (mcs m pa ia ca ba pc ic cc bc)] w (KP (.int .i64 ((prE C0 m.ps : Nat) : Int)) w) := by
  have hb : Below w.heap.size w w := Below.refl _ _
  have W := w
  exact rCheck4 m pa ia ca ba pc ic cc bc hk w ((hH.ps.keep hb).mono hb.size) hZ.lp _ rfl
theorem xCk5 (m : Mg) (pa ia ca ba : Option Addr) (pc ic cc bc : Nat) (hk : m.k = 5) (w : World) (hH : Hld w.heap.size w m pa ia ca ba) (hW : m.Wf) (hZ : Szd m) : Calls Tryz.prog 12 #[.iface 74 (.agg #[.int .i64 m.day])] w (KP (.int .i64 ((dayE C0 m.day : Nat) : Int)) w) :=
  checkV5 (m.day) _ w (fun W hb => check5 m.day _ rfl W)
theorem rCk5 (m : Mg) (pa ia ca ba : Option Addr) (pc ic cc bc : Nat) (hk : m.k = 5) (w : World) (hH : Hld w.heap.size w m pa ia ca ba) (hW : m.Wf) (hZ : Szd m) : Calls Tryz.prog 13 #[.agg (mcs m pa ia ca ba pc ic cc bc)] w (KP (.int .i64 ((dayE C0 m.day : Nat) : Int)) w) := by
  have hb : Below w.heap.size w w := Below.refl _ _
  have W := w
  exact rCheck5 m pa ia ca ba pc ic cc bc hk w  _ rfl
theorem xCk6 (m : Mg) (pa ia ca ba : Option Addr) (pc ic cc bc : Nat) (hk : m.k = 6) (w : World) (hH : Hld w.heap.size w m pa ia ca ba) (hW : m.Wf) (hZ : Szd m) : Calls Tryz.prog 12 #[.iface 84 (.agg #[.int .i64 m.mem, .string ⟨m.t.toArray⟩, .int .i64 m.n])] w (KP (.int .i64 ((if C0.cu m.t = true then if mbr m.mem = true then if sgn m.n = true then 0 else 1 else 1 else 11 : Nat) : Int)) w) :=
  checkV6 (m.mem) ⟨m.t.toArray⟩ (m.n) _ w (fun W hb => check6 m pa ia ca ba pc ic cc bc W hW.n _ rfl)
theorem rCk6 (m : Mg) (pa ia ca ba : Option Addr) (pc ic cc bc : Nat) (hk : m.k = 6) (w : World) (hH : Hld w.heap.size w m pa ia ca ba) (hW : m.Wf) (hZ : Szd m) : Calls Tryz.prog 13 #[.agg (mcs m pa ia ca ba pc ic cc bc)] w (KP (.int .i64 ((if C0.cu m.t = true then if mbr m.mem = true then if sgn m.n = true then 0 else 1 else 1 else 11 : Nat) : Int)) w) := by
  have hb : Below w.heap.size w w := Below.refl _ _
  have W := w
  exact rCheck6 m pa ia ca ba pc ic cc bc hk w  _ rfl
theorem xCk7 (m : Mg) (pa ia ca ba : Option Addr) (pc ic cc bc : Nat) (hk : m.k = 7) (w : World) (hH : Hld w.heap.size w m pa ia ca ba) (hW : m.Wf) (hZ : Szd m) : Calls Tryz.prog 12 #[.iface 86 (.agg #[.int .i64 m.mem, .string ⟨m.t.toArray⟩, .int .i64 m.n])] w (KP (.int .i64 ((if mbr m.mem = true then if sgn m.n = true then C0.is m.t else 1 else 1 : Nat) : Int)) w) :=
  checkV7 (m.mem) ⟨m.t.toArray⟩ (m.n) _ w (fun W hb => check7 m pa ia ca ba pc ic cc bc W hW.n (by have := hZ.t; omega) _ rfl)
theorem rCk7 (m : Mg) (pa ia ca ba : Option Addr) (pc ic cc bc : Nat) (hk : m.k = 7) (w : World) (hH : Hld w.heap.size w m pa ia ca ba) (hW : m.Wf) (hZ : Szd m) : Calls Tryz.prog 13 #[.agg (mcs m pa ia ca ba pc ic cc bc)] w (KP (.int .i64 ((if mbr m.mem = true then if sgn m.n = true then C0.is m.t else 1 else 1 : Nat) : Int)) w) := by
  have hb : Below w.heap.size w w := Below.refl _ _
  have W := w
  exact rCheck7 m pa ia ca ba pc ic cc bc hk w  _ rfl
theorem xCk8 (m : Mg) (pa ia ca ba : Option Addr) (pc ic cc bc : Nat) (hk : m.k = 8) (w : World) (hH : Hld w.heap.size w m pa ia ca ba) (hW : m.Wf) (hZ : Szd m) : Calls Tryz.prog 12 #[.iface 63 (.agg #[.int .i64 m.q.id, .int .i64 m.q.mem, .int .i64 m.q.side, .int .i64 m.q.bas, .int .i64 m.q.am, .int .i64 m.q.rate, .int .i64 m.q.st, .int .i64 m.q.en])] w (KP (.int .i64 ((if mbr m.q.mem = true then quE C0 m.q else 1 : Nat) : Int)) w) :=
  checkV8 (m.q.id) (m.q.mem) (m.q.side) (m.q.bas) (m.q.am) (m.q.rate) (m.q.st) (m.q.en) _ w (fun W hb => (by by_cases hs : m.q.side = 1; exact check8a m pa ia ca ba pc ic cc bc W hs hW.q.2.2.2.2.2.2.1 hW.q.2.2.2.2.2.2.2 _ (by rw [quE_seq]); exact check8b m pa ia ca ba pc ic cc bc W hs hW.q.2.2.2.2.2.2.1 hW.q.2.2.2.2.2.2.2 _ (by rw [quE_seq])))
theorem rCk8 (m : Mg) (pa ia ca ba : Option Addr) (pc ic cc bc : Nat) (hk : m.k = 8) (w : World) (hH : Hld w.heap.size w m pa ia ca ba) (hW : m.Wf) (hZ : Szd m) : Calls Tryz.prog 13 #[.agg (mcs m pa ia ca ba pc ic cc bc)] w (KP (.int .i64 ((if mbr m.q.mem = true then quE C0 m.q else 1 : Nat) : Int)) w) := by
  have hb : Below w.heap.size w w := Below.refl _ _
  have W := w
  exact rCheck8 m pa ia ca ba pc ic cc bc hk w  _ rfl
theorem xCk9 (m : Mg) (pa ia ca ba : Option Addr) (pc ic cc bc : Nat) (hk : m.k = 9) (w : World) (hH : Hld w.heap.size w m pa ia ca ba) (hW : m.Wf) (hZ : Szd m) : Calls Tryz.prog 12 #[.iface 88 (.agg #[.int .i64 m.mem, .int .i64 m.n])] w (KP (.int .i64 ((if mbr m.mem = true then if amt m.n = true then 0 else 1 else 1 : Nat) : Int)) w) :=
  checkV9 (m.mem) (m.n) _ w (fun W hb => check9 m pa ia ca ba pc ic cc bc W _ rfl)
theorem rCk9 (m : Mg) (pa ia ca ba : Option Addr) (pc ic cc bc : Nat) (hk : m.k = 9) (w : World) (hH : Hld w.heap.size w m pa ia ca ba) (hW : m.Wf) (hZ : Szd m) : Calls Tryz.prog 13 #[.agg (mcs m pa ia ca ba pc ic cc bc)] w (KP (.int .i64 ((if mbr m.mem = true then if amt m.n = true then 0 else 1 else 1 : Nat) : Int)) w) := by
  have hb : Below w.heap.size w w := Below.refl _ _
  have W := w
  exact rCheck9 m pa ia ca ba pc ic cc bc hk w  _ rfl
theorem xCk10 (m : Mg) (pa ia ca ba : Option Addr) (pc ic cc bc : Nat) (hk : m.k = 10) (w : World) (hH : Hld w.heap.size w m pa ia ca ba) (hW : m.Wf) (hZ : Szd m) : Calls Tryz.prog 12 #[.iface 90 (.agg #[.int .i64 m.mem, .int .i64 m.tr, .int .i64 m.day])] w (KP (.int .i64 ((if mbr m.mem = true then if amt m.tr = true then dayE C0 m.day else 1 else 1 : Nat) : Int)) w) :=
  checkV10 (m.mem) (m.tr) (m.day) _ w (fun W hb => check10 m pa ia ca ba pc ic cc bc W _ rfl)
theorem rCk10 (m : Mg) (pa ia ca ba : Option Addr) (pc ic cc bc : Nat) (hk : m.k = 10) (w : World) (hH : Hld w.heap.size w m pa ia ca ba) (hW : m.Wf) (hZ : Szd m) : Calls Tryz.prog 13 #[.agg (mcs m pa ia ca ba pc ic cc bc)] w (KP (.int .i64 ((if mbr m.mem = true then if amt m.tr = true then dayE C0 m.day else 1 else 1 : Nat) : Int)) w) := by
  have hb : Below w.heap.size w w := Below.refl _ _
  have W := w
  exact rCheck10 m pa ia ca ba pc ic cc bc hk w  _ rfl
theorem xCk11 (m : Mg) (pa ia ca ba : Option Addr) (pc ic cc bc : Nat) (hk : m.k = 11) (w : World) (hH : Hld w.heap.size w m pa ia ca ba) (hW : m.Wf) (hZ : Szd m) : Calls Tryz.prog 12 #[.iface 67 (.agg #[.int .i64 m.mem, .int .i64 m.tr, .string ⟨m.out.i.toArray⟩, .int .i64 m.out.q, .slice ia m.ins.length ic])] w (KP (.int .i64 ((if mbr m.mem = true then if amt m.tr = true then if decide (m.ins.length ≤ 64) = true then lotsE C0 (m.out :: m.ins) else 1 else 1 else 1 : Nat) : Int)) w) :=
  checkV11 (m.mem) (m.tr) ⟨m.out.i.toArray⟩ (m.out.q) ia (m.ins.length) ic _ w (fun W hb => check11 m pa ia ca ba pc ic cc bc W ((hH.ins.keep hb).mono hb.size) (by have := hZ.oi; omega) (fun y hy => by have := hZ.ins y hy; omega) hZ.li _ rfl)
theorem rCk11 (m : Mg) (pa ia ca ba : Option Addr) (pc ic cc bc : Nat) (hk : m.k = 11) (w : World) (hH : Hld w.heap.size w m pa ia ca ba) (hW : m.Wf) (hZ : Szd m) : Calls Tryz.prog 13 #[.agg (mcs m pa ia ca ba pc ic cc bc)] w (KP (.int .i64 ((if mbr m.mem = true then if amt m.tr = true then if decide (m.ins.length ≤ 64) = true then lotsE C0 (m.out :: m.ins) else 1 else 1 else 1 : Nat) : Int)) w) := by
  have hb : Below w.heap.size w w := Below.refl _ _
  have W := w
  exact rCheck11 m pa ia ca ba pc ic cc bc hk w ((hH.ins.keep hb).mono hb.size) hZ.li _ rfl
theorem xCk12 (m : Mg) (pa ia ca ba : Option Addr) (pc ic cc bc : Nat) (hk : m.k = 12) (w : World) (hH : Hld w.heap.size w m pa ia ca ba) (hW : m.Wf) (hZ : Szd m) : Calls Tryz.prog 12 #[.iface 92 (.agg #[.int .i64 m.mem, .int .i64 m.day, .bool m.done])] w (KP (.int .i64 ((if mbr m.mem = true then dayE C0 m.day else 1 : Nat) : Int)) w) :=
  checkV12 (m.mem) (m.day) (m.done) _ w (fun W hb => check12 m pa ia ca ba pc ic cc bc W _ rfl)
theorem rCk12 (m : Mg) (pa ia ca ba : Option Addr) (pc ic cc bc : Nat) (hk : m.k = 12) (w : World) (hH : Hld w.heap.size w m pa ia ca ba) (hW : m.Wf) (hZ : Szd m) : Calls Tryz.prog 13 #[.agg (mcs m pa ia ca ba pc ic cc bc)] w (KP (.int .i64 ((if mbr m.mem = true then dayE C0 m.day else 1 : Nat) : Int)) w) := by
  have hb : Below w.heap.size w w := Below.refl _ _
  have W := w
  exact rCheck12 m pa ia ca ba pc ic cc bc hk w  _ rfl
theorem xCk13 (m : Mg) (pa ia ca ba : Option Addr) (pc ic cc bc : Nat) (hk : m.k = 13) (w : World) (hH : Hld w.heap.size w m pa ia ca ba) (hW : m.Wf) (hZ : Szd m) : Calls Tryz.prog 12 #[.iface 94 (.agg #[.int .i64 m.mem])] w (KP (.int .i64 ((if mbr m.mem = true then 0 else 1 : Nat) : Int)) w) :=
  checkV13 (m.mem) _ w (fun W hb => check13 m pa ia ca ba pc ic cc bc W _ rfl)
theorem rCk13 (m : Mg) (pa ia ca ba : Option Addr) (pc ic cc bc : Nat) (hk : m.k = 13) (w : World) (hH : Hld w.heap.size w m pa ia ca ba) (hW : m.Wf) (hZ : Szd m) : Calls Tryz.prog 13 #[.agg (mcs m pa ia ca ba pc ic cc bc)] w (KP (.int .i64 ((if mbr m.mem = true then 0 else 1 : Nat) : Int)) w) := by
  have hb : Below w.heap.size w w := Below.refl _ _
  have W := w
  exact rCheck13 m pa ia ca ba pc ic cc bc hk w  _ rfl
theorem xCk14 (m : Mg) (pa ia ca ba : Option Addr) (pc ic cc bc : Nat) (hk : m.k = 14) (w : World) (hH : Hld w.heap.size w m pa ia ca ba) (hW : m.Wf) (hZ : Szd m) : Calls Tryz.prog 12 #[.iface 96 (.agg #[.int .i64 m.mem, .int .i64 m.n])] w (KP (.int .i64 ((if mbr m.mem = true then if inn m.n 0 1125899906842624 = true then 0 else 1 else 1 : Nat) : Int)) w) :=
  checkV14 (m.mem) (m.n) _ w (fun W hb => check14 m pa ia ca ba pc ic cc bc W _ rfl)
theorem rCk14 (m : Mg) (pa ia ca ba : Option Addr) (pc ic cc bc : Nat) (hk : m.k = 14) (w : World) (hH : Hld w.heap.size w m pa ia ca ba) (hW : m.Wf) (hZ : Szd m) : Calls Tryz.prog 13 #[.agg (mcs m pa ia ca ba pc ic cc bc)] w (KP (.int .i64 ((if mbr m.mem = true then if inn m.n 0 1125899906842624 = true then 0 else 1 else 1 : Nat) : Int)) w) := by
  have hb : Below w.heap.size w w := Below.refl _ _
  have W := w
  exact rCheck14 m pa ia ca ba pc ic cc bc hk w  _ rfl
theorem xCk15 (m : Mg) (pa ia ca ba : Option Addr) (pc ic cc bc : Nat) (hk : m.k = 15) (w : World) (hH : Hld w.heap.size w m pa ia ca ba) (hW : m.Wf) (hZ : Szd m) : Calls Tryz.prog 12 #[.iface 98 (.agg #[.int .i64 m.tr, .int .i64 m.day, .int .i64 m.rate])] w (KP (.int .i64 ((if amt m.tr = true then if inn m.rate (-1000000) 1000000 = true then dayE C0 m.day else 1 else 1 : Nat) : Int)) w) :=
  checkV15 (m.tr) (m.day) (m.rate) _ w (fun W hb => check15 m pa ia ca ba pc ic cc bc W _ rfl)
theorem rCk15 (m : Mg) (pa ia ca ba : Option Addr) (pc ic cc bc : Nat) (hk : m.k = 15) (w : World) (hH : Hld w.heap.size w m pa ia ca ba) (hW : m.Wf) (hZ : Szd m) : Calls Tryz.prog 13 #[.agg (mcs m pa ia ca ba pc ic cc bc)] w (KP (.int .i64 ((if amt m.tr = true then if inn m.rate (-1000000) 1000000 = true then dayE C0 m.day else 1 else 1 : Nat) : Int)) w) := by
  have hb : Below w.heap.size w w := Below.refl _ _
  have W := w
  exact rCheck15 m pa ia ca ba pc ic cc bc hk w  _ rfl
theorem Hld.keep {B : Nat} {w w' : World} {m : Mg} {pa ia ca ba : Option Addr} (h : Hld B w m pa ia ca ba) (hb : Below B w w') : Hld B w' m pa ia ca ba := ⟨h.ps.keep hb, h.ins.keep hb, h.cuts.keep hb, h.bar.keep hb⟩
theorem Hld.mono {B C : Nat} {w : World} {m : Mg} {pa ia ca ba : Option Addr} (h : Hld B w m pa ia ca ba) (hb : B ≤ C) : Hld C w m pa ia ca ba := ⟨h.ps.mono hb, h.ins.mono hb, h.cuts.mono hb, h.bar.mono hb⟩
theorem Hld.on {w w' : World} {m : Mg} {pa ia ca ba : Option Addr} (h : Hld w.heap.size w m pa ia ca ba) (hb : Below w.heap.size w w') : Hld w'.heap.size w' m pa ia ca ba := (h.keep hb).mono hb.size
end Go.Proofs.YtdmlgheajblcdaaGreat
