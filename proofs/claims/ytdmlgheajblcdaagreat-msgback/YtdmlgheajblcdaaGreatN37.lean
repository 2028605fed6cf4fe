/- Layer 10: what a message of the program's says. -/
import Derived.Test.YtdmlgheajblcdaaGreatN29
import Derived.WalkKit
import Derived.ProofKit
import Derived.Handy
import Derived.WalkLawsBesides
import Derived.WalkSpells
import Derived.BigQuiet
import Derived.BigCall
import Derived.Deep.QuietTactic
import Derived.Deep.Light
import Derived.Deep.OwnRows
import Derived.Laws.AppendOwnNone
import Derived.Laws.Strings3
import Derived.Laws.RangeAny
import Derived.Deep.RegionWith
import Derived.Lib.BitFns
import Derived.Lib.Walk
import Derived.Lib.Strings
import Derived.Lib.OthersKept
import Derived.Deep.CutBlock
import Derived.Deep.DeepCutAuto
import Derived.Deep.LoopGhost
import Derived.Deep.RegionHeld3
import Derived.Lib.SmallJoins
import Derived.Maps.AppendAt
import Derived.Laws.IdiomStrings
import Derived.Lib.AppendZeros
import Derived.Deep.WholeRow
import Derived.Laws.BitsAllLaws
import Derived.Lib.ConvBytes
import Derived.Deep.RegionLaw
namespace Go.Proofs.YtdmlgheajblcdaaGreat
open Go.RowKit
set_option linter.unusedVariables false
set_option linter.unusedSimpArgs false
set_option maxRecDepth 100000
theorem bld1 (m : Mg) (pa ia ca ba : Option Addr) (pc ic cc bc : Nat) (w : World) : (Instr.build 35 #[(0, .int .i64 1), (1, .int .i64 m.mem), (2, .string ⟨m.name.toArray⟩)]).run Tryz.prog w = .ok (.agg (mcs { Mg.z with k := 1, mem := m.mem, name := m.name } none none none none 0 0 0 0)) w := by kernel_rfl
set_option maxHeartbeats 4000000 in
theorem tell1 (m : Mg) (pa ia ca ba : Option Addr) (pc ic cc bc : Nat) (w : World) : Calls Tryz.prog 23 #[.iface 76 (.agg #[.int .i64 m.mem, .string ⟨m.name.toArray⟩])] w (KP (.agg (mcs { Mg.z with k := 1, mem := m.mem, name := m.name } none none none none 0 0 0 0)) w) := by
  have t1 := ty1
  have HX0 : Hid (Bx ((w.alloc (.cells (mcs Mg.z none none none none 0 0 0 0) 35)).alloc (.cells #[.int .i64 m.mem, .string ⟨m.name.toArray⟩] 76)) w.heap.size (mcs Mg.z none none none none 0 0 0 0) 35) := (Bx.new w _ _).keep (below_a _ _)
  have HY0 : Hid (Bx ((w.alloc (.cells (mcs Mg.z none none none none 0 0 0 0) 35)).alloc (.cells #[.int .i64 m.mem, .string ⟨m.name.toArray⟩] 76)) (w.heap.size + 1) #[.int .i64 m.mem, .string ⟨m.name.toArray⟩] 76) := by have := Bx.new (w.alloc (.cells (mcs Mg.z none none none none 0 0 0 0) 35)) #[.int .i64 m.mem, .string ⟨m.name.toArray⟩] 76; rwa [size_a] at this
  have HB0 : Hid (Below w.heap.size w ((w.alloc (.cells (mcs Mg.z none none none none 0 0 0 0) 35)).alloc (.cells #[.int .i64 m.mem, .string ⟨m.name.toArray⟩] 76))) := bt (below_a w _) (below_a _ _)
  have HBu : Hid (∀ W, (Instr.build 35 #[(0, .int .i64 1), (1, .int .i64 m.mem), (2, .string ⟨m.name.toArray⟩)]).run Tryz.prog W = .ok (.agg (mcs { Mg.z with k := 1, mem := m.mem, name := m.name } none none none none 0 0 0 0)) W) := fun W => bld1 m pa ia ca ba pc ic cc bc W
  have HM1 : Hid ((mcs { Mg.z with k := 1, mem := m.mem, name := m.name } none none none none 0 0 0 0).size = 36) := mcs_size _ _ _ _ _ _ _ _ _
  have HM2 : Hid ((mcs { Mg.z with k := 1, mem := m.mem, name := m.name } none none none none 0 0 0 0).all (·.oneCell') = true) := mcs_one _ _ _ _ _ _ _ _ _
  go_enter Tryz.func23, Tryz.ntmps23
  go_upto_region 4 with fail
  show Code.wp _ _ _ _ ((w.alloc (.cells (mcs Mg.z none none none none 0 0 0 0) 35)).alloc (.cells #[.int .i64 m.mem, .string ⟨m.name.toArray⟩] 76))
  generalize ((w.alloc (.cells (mcs Mg.z none none none none 0 0 0 0) 35)).alloc (.cells #[.int .i64 m.mem, .string ⟨m.name.toArray⟩] 76)) = w1 at *
  generalize (mcs { Mg.z with k := 1, mem := m.mem, name := m.name } none none none none 0 0 0 0) = M at *
  have HST : Hid ((Instr.storeAt 35 (.pointer (some ⟨w.heap.size, 0, none⟩)) (.agg M)).run Tryz.prog w1 = .ok () (w1.setRow w.heap.size M)) := hstore w1 w.heap.size _ M HX0.out (mcs_size _ _ _ _ _ _ _ _ _) HM1.out HM2.out
  have hld := hload (w1.setRow w.heap.size M) w.heap.size M HM1.out HX0.out.set
  have HB2 : Hid (Below w.heap.size w (w1.setRow w.heap.size M)) := below_setRow' HB0.out (Nat.le_refl _)
  have c0 : w1.cell? ⟨w.heap.size + 1, 0, none⟩ = some (.int .i64 m.mem) := HY0.out.cell 0
  have c1 : w1.cell? ⟨w.heap.size + 1, 1, none⟩ = some (.string ⟨m.name.toArray⟩) := HY0.out.cell 1
  clear HX0 HY0 HB0
  go_wp2_with (first | (guard_target =~ wpList _ _ _ (⟨_, Op.build _ _, _, _, _, _⟩ :: _) _ _; refine wl_build3 _ rfl 35 _ _ _ _ _ _ rfl _ _ _ rfl rfl rfl _ (HBu.out _) ?_; go_simp) | (guard_target =~ wpList _ _ _ (⟨_, Op.store _ _ _, _, _, _, _⟩ :: _) _ _; refine wl_store _ _ rfl 35 _ _ rfl _ _ rfl rfl HST.out ?_; go_simp))
  refine bodyPost_ret (res_cell _ _ 2 35 _ _ _ rfl rfl hld) rfl ?_
  exact ⟨rfl, HB2⟩
theorem bld2 (m : Mg) (pa ia ca ba : Option Addr) (pc ic cc bc : Nat) (w : World) : (Instr.build 35 #[(0, .int .i64 2), (3, .agg #[.string ⟨m.a.i.toArray⟩, .int .i64 m.a.iss, .int .i64 m.a.rat, .int .i64 m.a.mat, .string ⟨m.a.cur.toArray⟩])]).run Tryz.prog w = .ok (.agg (mcs { Mg.z with k := 2, a := m.a } none none none none 0 0 0 0)) w := by kernel_rfl
set_option maxHeartbeats 4000000 in
theorem tell2 (m : Mg) (pa ia ca ba : Option Addr) (pc ic cc bc : Nat) (w : World) : Calls Tryz.prog 23 #[.iface 78 (.agg #[.string ⟨m.a.i.toArray⟩, .int .i64 m.a.iss, .int .i64 m.a.rat, .int .i64 m.a.mat, .string ⟨m.a.cur.toArray⟩])] w (KP (.agg (mcs { Mg.z with k := 2, a := m.a } none none none none 0 0 0 0)) w) := by
  have t1 := tn2_1
  have t2 := ty2
  have HX0 : Hid (Bx ((w.alloc (.cells (mcs Mg.z none none none none 0 0 0 0) 35)).alloc (.cells #[.string ⟨m.a.i.toArray⟩, .int .i64 m.a.iss, .int .i64 m.a.rat, .int .i64 m.a.mat, .string ⟨m.a.cur.toArray⟩] 78)) w.heap.size (mcs Mg.z none none none none 0 0 0 0) 35) := (Bx.new w _ _).keep (below_a _ _)
  have HY0 : Hid (Bx ((w.alloc (.cells (mcs Mg.z none none none none 0 0 0 0) 35)).alloc (.cells #[.string ⟨m.a.i.toArray⟩, .int .i64 m.a.iss, .int .i64 m.a.rat, .int .i64 m.a.mat, .string ⟨m.a.cur.toArray⟩] 78)) (w.heap.size + 1) #[.string ⟨m.a.i.toArray⟩, .int .i64 m.a.iss, .int .i64 m.a.rat, .int .i64 m.a.mat, .string ⟨m.a.cur.toArray⟩] 78) := by have := Bx.new (w.alloc (.cells (mcs Mg.z none none none none 0 0 0 0) 35)) #[.string ⟨m.a.i.toArray⟩, .int .i64 m.a.iss, .int .i64 m.a.rat, .int .i64 m.a.mat, .string ⟨m.a.cur.toArray⟩] 78; rwa [size_a] at this
  have HB0 : Hid (Below w.heap.size w ((w.alloc (.cells (mcs Mg.z none none none none 0 0 0 0) 35)).alloc (.cells #[.string ⟨m.a.i.toArray⟩, .int .i64 m.a.iss, .int .i64 m.a.rat, .int .i64 m.a.mat, .string ⟨m.a.cur.toArray⟩] 78))) := bt (below_a w _) (below_a _ _)
  have HBu : Hid (∀ W, (Instr.build 35 #[(0, .int .i64 2), (3, .agg #[.string ⟨m.a.i.toArray⟩, .int .i64 m.a.iss, .int .i64 m.a.rat, .int .i64 m.a.mat, .string ⟨m.a.cur.toArray⟩])]).run Tryz.prog W = .ok (.agg (mcs { Mg.z with k := 2, a := m.a } none none none none 0 0 0 0)) W) := fun W => bld2 m pa ia ca ba pc ic cc bc W
  have HM1 : Hid ((mcs { Mg.z with k := 2, a := m.a } none none none none 0 0 0 0).size = 36) := mcs_size _ _ _ _ _ _ _ _ _
  have HM2 : Hid ((mcs { Mg.z with k := 2, a := m.a } none none none none 0 0 0 0).all (·.oneCell') = true) := mcs_one _ _ _ _ _ _ _ _ _
  go_enter Tryz.func23, Tryz.ntmps23
  go_upto_region 7 with fail
  show Code.wp _ _ _ _ ((w.alloc (.cells (mcs Mg.z none none none none 0 0 0 0) 35)).alloc (.cells #[.string ⟨m.a.i.toArray⟩, .int .i64 m.a.iss, .int .i64 m.a.rat, .int .i64 m.a.mat, .string ⟨m.a.cur.toArray⟩] 78))
  generalize ((w.alloc (.cells (mcs Mg.z none none none none 0 0 0 0) 35)).alloc (.cells #[.string ⟨m.a.i.toArray⟩, .int .i64 m.a.iss, .int .i64 m.a.rat, .int .i64 m.a.mat, .string ⟨m.a.cur.toArray⟩] 78)) = w1 at *
  generalize (mcs { Mg.z with k := 2, a := m.a } none none none none 0 0 0 0) = M at *
  have HST : Hid ((Instr.storeAt 35 (.pointer (some ⟨w.heap.size, 0, none⟩)) (.agg M)).run Tryz.prog w1 = .ok () (w1.setRow w.heap.size M)) := hstore w1 w.heap.size _ M HX0.out (mcs_size _ _ _ _ _ _ _ _ _) HM1.out HM2.out
  have hld := hload (w1.setRow w.heap.size M) w.heap.size M HM1.out HX0.out.set
  have HB2 : Hid (Below w.heap.size w (w1.setRow w.heap.size M)) := below_setRow' HB0.out (Nat.le_refl _)
  have c0 : w1.cell? ⟨w.heap.size + 1, 0, none⟩ = some (.string ⟨m.a.i.toArray⟩) := HY0.out.cell 0
  have c1 : w1.cell? ⟨w.heap.size + 1, 1, none⟩ = some (.int .i64 m.a.iss) := HY0.out.cell 1
  have c2 : w1.cell? ⟨w.heap.size + 1, 2, none⟩ = some (.int .i64 m.a.rat) := HY0.out.cell 2
  have c3 : w1.cell? ⟨w.heap.size + 1, 3, none⟩ = some (.int .i64 m.a.mat) := HY0.out.cell 3
  have c4 : w1.cell? ⟨w.heap.size + 1, 4, none⟩ = some (.string ⟨m.a.cur.toArray⟩) := HY0.out.cell 4
  clear HX0 HY0 HB0
  go_wp2_with (first | (guard_target =~ wpList _ _ _ (⟨_, Op.build _ _, _, _, _, _⟩ :: _) _ _; refine wl_build2 _ rfl 35 _ _ _ _ rfl _ _ rfl rfl _ (HBu.out _) ?_; go_simp) | (guard_target =~ wpList _ _ _ (⟨_, Op.store _ _ _, _, _, _, _⟩ :: _) _ _; refine wl_store _ _ rfl 35 _ _ rfl _ _ rfl rfl HST.out ?_; go_simp))
  refine bodyPost_ret (res_cell _ _ 2 35 _ _ _ rfl rfl hld) rfl ?_
  exact ⟨rfl, HB2⟩
theorem bld3 (m : Mg) (pa ia ca ba : Option Addr) (pc ic cc bc : Nat) (w : World) : (Instr.build 35 #[(0, .int .i64 3), (4, .agg #[.int .i64 m.b.id, .int .i64 m.b.ver, .string ⟨m.b.cur.toArray⟩, .int .i64 m.b.rat, .int .i64 m.b.least, .int .i64 m.b.most, .slice ca m.b.cuts.length cc, .int .i64 m.b.iss, .int .i64 m.b.ass, .slice ba m.b.bar.length bc])]).run Tryz.prog w = .ok (.agg (mcs { Mg.z with k := 3, b := m.b } none none ca ba 0 0 cc bc)) w := by kernel_rfl
set_option maxHeartbeats 4000000 in
theorem tell3 (m : Mg) (pa ia ca ba : Option Addr) (pc ic cc bc : Nat) (w : World) : Calls Tryz.prog 23 #[.iface 80 (.agg #[.int .i64 m.b.id, .int .i64 m.b.ver, .string ⟨m.b.cur.toArray⟩, .int .i64 m.b.rat, .int .i64 m.b.least, .int .i64 m.b.most, .slice ca m.b.cuts.length cc, .int .i64 m.b.iss, .int .i64 m.b.ass, .slice ba m.b.bar.length bc])] w (KP (.agg (mcs { Mg.z with k := 3, b := m.b } none none ca ba 0 0 cc bc)) w) := by
  have t1 := tn3_1
  have t2 := tn3_2
  have t3 := ty3
  have HX0 : Hid (Bx ((w.alloc (.cells (mcs Mg.z none none none none 0 0 0 0) 35)).alloc (.cells #[.int .i64 m.b.id, .int .i64 m.b.ver, .string ⟨m.b.cur.toArray⟩, .int .i64 m.b.rat, .int .i64 m.b.least, .int .i64 m.b.most, .slice ca m.b.cuts.length cc, .int .i64 m.b.iss, .int .i64 m.b.ass, .slice ba m.b.bar.length bc] 80)) w.heap.size (mcs Mg.z none none none none 0 0 0 0) 35) := (Bx.new w _ _).keep (below_a _ _)
  have HY0 : Hid (Bx ((w.alloc (.cells (mcs Mg.z none none none none 0 0 0 0) 35)).alloc (.cells #[.int .i64 m.b.id, .int .i64 m.b.ver, .string ⟨m.b.cur.toArray⟩, .int .i64 m.b.rat, .int .i64 m.b.least, .int .i64 m.b.most, .slice ca m.b.cuts.length cc, .int .i64 m.b.iss, .int .i64 m.b.ass, .slice ba m.b.bar.length bc] 80)) (w.heap.size + 1) #[.int .i64 m.b.id, .int .i64 m.b.ver, .string ⟨m.b.cur.toArray⟩, .int .i64 m.b.rat, .int .i64 m.b.least, .int .i64 m.b.most, .slice ca m.b.cuts.length cc, .int .i64 m.b.iss, .int .i64 m.b.ass, .slice ba m.b.bar.length bc] 80) := by have := Bx.new (w.alloc (.cells (mcs Mg.z none none none none 0 0 0 0) 35)) #[.int .i64 m.b.id, .int .i64 m.b.ver, .string ⟨m.b.cur.toArray⟩, .int .i64 m.b.rat, .int .i64 m.b.least, .int .i64 m.b.most, .slice ca m.b.cuts.length cc, .int .i64 m.b.iss, .int .i64 m.b.ass, .slice ba m.b.bar.length bc] 80; rwa [size_a] at this
  have HB0 : Hid (Below w.heap.size w ((w.alloc (.cells (mcs Mg.z none none none none 0 0 0 0) 35)).alloc (.cells #[.int .i64 m.b.id, .int .i64 m.b.ver, .string ⟨m.b.cur.toArray⟩, .int .i64 m.b.rat, .int .i64 m.b.least, .int .i64 m.b.most, .slice ca m.b.cuts.length cc, .int .i64 m.b.iss, .int .i64 m.b.ass, .slice ba m.b.bar.length bc] 80))) := bt (below_a w _) (below_a _ _)
  have HBu : Hid (∀ W, (Instr.build 35 #[(0, .int .i64 3), (4, .agg #[.int .i64 m.b.id, .int .i64 m.b.ver, .string ⟨m.b.cur.toArray⟩, .int .i64 m.b.rat, .int .i64 m.b.least, .int .i64 m.b.most, .slice ca m.b.cuts.length cc, .int .i64 m.b.iss, .int .i64 m.b.ass, .slice ba m.b.bar.length bc])]).run Tryz.prog W = .ok (.agg (mcs { Mg.z with k := 3, b := m.b } none none ca ba 0 0 cc bc)) W) := fun W => bld3 m pa ia ca ba pc ic cc bc W
  have HM1 : Hid ((mcs { Mg.z with k := 3, b := m.b } none none ca ba 0 0 cc bc).size = 36) := mcs_size _ _ _ _ _ _ _ _ _
  have HM2 : Hid ((mcs { Mg.z with k := 3, b := m.b } none none ca ba 0 0 cc bc).all (·.oneCell') = true) := mcs_one _ _ _ _ _ _ _ _ _
  go_enter Tryz.func23, Tryz.ntmps23
  go_upto_region 10 with fail
  show Code.wp _ _ _ _ ((w.alloc (.cells (mcs Mg.z none none none none 0 0 0 0) 35)).alloc (.cells #[.int .i64 m.b.id, .int .i64 m.b.ver, .string ⟨m.b.cur.toArray⟩, .int .i64 m.b.rat, .int .i64 m.b.least, .int .i64 m.b.most, .slice ca m.b.cuts.length cc, .int .i64 m.b.iss, .int .i64 m.b.ass, .slice ba m.b.bar.length bc] 80))
  generalize ((w.alloc (.cells (mcs Mg.z none none none none 0 0 0 0) 35)).alloc (.cells #[.int .i64 m.b.id, .int .i64 m.b.ver, .string ⟨m.b.cur.toArray⟩, .int .i64 m.b.rat, .int .i64 m.b.least, .int .i64 m.b.most, .slice ca m.b.cuts.length cc, .int .i64 m.b.iss, .int .i64 m.b.ass, .slice ba m.b.bar.length bc] 80)) = w1 at *
  generalize (mcs { Mg.z with k := 3, b := m.b } none none ca ba 0 0 cc bc) = M at *
  have HST : Hid ((Instr.storeAt 35 (.pointer (some ⟨w.heap.size, 0, none⟩)) (.agg M)).run Tryz.prog w1 = .ok () (w1.setRow w.heap.size M)) := hstore w1 w.heap.size _ M HX0.out (mcs_size _ _ _ _ _ _ _ _ _) HM1.out HM2.out
  have hld := hload (w1.setRow w.heap.size M) w.heap.size M HM1.out HX0.out.set
  have HB2 : Hid (Below w.heap.size w (w1.setRow w.heap.size M)) := below_setRow' HB0.out (Nat.le_refl _)
  have c0 : w1.cell? ⟨w.heap.size + 1, 0, none⟩ = some (.int .i64 m.b.id) := HY0.out.cell 0
  have c1 : w1.cell? ⟨w.heap.size + 1, 1, none⟩ = some (.int .i64 m.b.ver) := HY0.out.cell 1
  have c2 : w1.cell? ⟨w.heap.size + 1, 2, none⟩ = some (.string ⟨m.b.cur.toArray⟩) := HY0.out.cell 2
  have c3 : w1.cell? ⟨w.heap.size + 1, 3, none⟩ = some (.int .i64 m.b.rat) := HY0.out.cell 3
  have c4 : w1.cell? ⟨w.heap.size + 1, 4, none⟩ = some (.int .i64 m.b.least) := HY0.out.cell 4
  have c5 : w1.cell? ⟨w.heap.size + 1, 5, none⟩ = some (.int .i64 m.b.most) := HY0.out.cell 5
  have c6 : w1.cell? ⟨w.heap.size + 1, 6, none⟩ = some (.slice ca m.b.cuts.length cc) := HY0.out.cell 6
  have c7 : w1.cell? ⟨w.heap.size + 1, 7, none⟩ = some (.int .i64 m.b.iss) := HY0.out.cell 7
  have c8 : w1.cell? ⟨w.heap.size + 1, 8, none⟩ = some (.int .i64 m.b.ass) := HY0.out.cell 8
  have c9 : w1.cell? ⟨w.heap.size + 1, 9, none⟩ = some (.slice ba m.b.bar.length bc) := HY0.out.cell 9
  clear HX0 HY0 HB0
  go_wp2_with (first | (guard_target =~ wpList _ _ _ (⟨_, Op.build _ _, _, _, _, _⟩ :: _) _ _; refine wl_build2 _ rfl 35 _ _ _ _ rfl _ _ rfl rfl _ (HBu.out _) ?_; go_simp) | (guard_target =~ wpList _ _ _ (⟨_, Op.store _ _ _, _, _, _, _⟩ :: _) _ _; refine wl_store _ _ rfl 35 _ _ rfl _ _ rfl rfl HST.out ?_; go_simp))
  refine bodyPost_ret (res_cell _ _ 2 35 _ _ _ rfl rfl hld) rfl ?_
  exact ⟨rfl, HB2⟩
theorem bld4 (m : Mg) (pa ia ca ba : Option Addr) (pc ic cc bc : Nat) (w : World) : (Instr.build 35 #[(0, .int .i64 4), (5, .slice pa m.ps.length pc)]).run Tryz.prog w = .ok (.agg (mcs { Mg.z with k := 4, ps := m.ps } pa none none none pc 0 0 0)) w := by kernel_rfl
set_option maxHeartbeats 4000000 in
theorem tell4 (m : Mg) (pa ia ca ba : Option Addr) (pc ic cc bc : Nat) (w : World) : Calls Tryz.prog 23 #[.iface 82 (.agg #[.slice pa m.ps.length pc])] w (KP (.agg (mcs { Mg.z with k := 4, ps := m.ps } pa none none none pc 0 0 0)) w) := by
  have t1 := tn4_1
  have t2 := tn4_2
  have t3 := tn4_3
  have t4 := ty4
  have HX0 : Hid (Bx ((w.alloc (.cells (mcs Mg.z none none none none 0 0 0 0) 35)).alloc (.cells #[.slice pa m.ps.length pc] 82)) w.heap.size (mcs Mg.z none none none none 0 0 0 0) 35) := (Bx.new w _ _).keep (below_a _ _)
  have HY0 : Hid (Bx ((w.alloc (.cells (mcs Mg.z none none none none 0 0 0 0) 35)).alloc (.cells #[.slice pa m.ps.length pc] 82)) (w.heap.size + 1) #[.slice pa m.ps.length pc] 82) := by have := Bx.new (w.alloc (.cells (mcs Mg.z none none none none 0 0 0 0) 35)) #[.slice pa m.ps.length pc] 82; rwa [size_a] at this
  have HB0 : Hid (Below w.heap.size w ((w.alloc (.cells (mcs Mg.z none none none none 0 0 0 0) 35)).alloc (.cells #[.slice pa m.ps.length pc] 82))) := bt (below_a w _) (below_a _ _)
  have HBu : Hid (∀ W, (Instr.build 35 #[(0, .int .i64 4), (5, .slice pa m.ps.length pc)]).run Tryz.prog W = .ok (.agg (mcs { Mg.z with k := 4, ps := m.ps } pa none none none pc 0 0 0)) W) := fun W => bld4 m pa ia ca ba pc ic cc bc W
  have HM1 : Hid ((mcs { Mg.z with k := 4, ps := m.ps } pa none none none pc 0 0 0).size = 36) := mcs_size _ _ _ _ _ _ _ _ _
  have HM2 : Hid ((mcs { Mg.z with k := 4, ps := m.ps } pa none none none pc 0 0 0).all (·.oneCell') = true) := mcs_one _ _ _ _ _ _ _ _ _
  go_enter Tryz.func23, Tryz.ntmps23
  go_upto_region 13 with fail
  show Code.wp _ _ _ _ ((w.alloc (.cells (mcs Mg.z none none none none 0 0 0 0) 35)).alloc (.cells #[.slice pa m.ps.length pc] 82))
  generalize ((w.alloc (.cells (mcs Mg.z none none none none 0 0 0 0) 35)).alloc (.cells #[.slice pa m.ps.length pc] 82)) = w1 at *
  generalize (mcs { Mg.z with k := 4, ps := m.ps } pa none none none pc 0 0 0) = M at *
  have HST : Hid ((Instr.storeAt 35 (.pointer (some ⟨w.heap.size, 0, none⟩)) (.agg M)).run Tryz.prog w1 = .ok () (w1.setRow w.heap.size M)) := hstore w1 w.heap.size _ M HX0.out (mcs_size _ _ _ _ _ _ _ _ _) HM1.out HM2.out
  have hld := hload (w1.setRow w.heap.size M) w.heap.size M HM1.out HX0.out.set
  have HB2 : Hid (Below w.heap.size w (w1.setRow w.heap.size M)) := below_setRow' HB0.out (Nat.le_refl _)
  have c0 : w1.cell? ⟨w.heap.size + 1, 0, none⟩ = some (.slice pa m.ps.length pc) := HY0.out.cell 0
  clear HX0 HY0 HB0
  go_wp2_with (first | (guard_target =~ wpList _ _ _ (⟨_, Op.build _ _, _, _, _, _⟩ :: _) _ _; refine wl_build2 _ rfl 35 _ _ _ _ rfl _ _ rfl rfl _ (HBu.out _) ?_; go_simp) | (guard_target =~ wpList _ _ _ (⟨_, Op.store _ _ _, _, _, _, _⟩ :: _) _ _; refine wl_store _ _ rfl 35 _ _ rfl _ _ rfl rfl HST.out ?_; go_simp))
  refine bodyPost_ret (res_cell _ _ 2 35 _ _ _ rfl rfl hld) rfl ?_
  exact ⟨rfl, HB2⟩
theorem bld5 (m : Mg) (pa ia ca ba : Option Addr) (pc ic cc bc : Nat) (w : World) : (Instr.build 35 #[(0, .int .i64 5), (6, .int .i64 m.day)]).run Tryz.prog w = .ok (.agg (mcs { Mg.z with k := 5, day := m.day } none none none none 0 0 0 0)) w := by kernel_rfl
set_option maxHeartbeats 4000000 in
theorem tell5 (m : Mg) (pa ia ca ba : Option Addr) (pc ic cc bc : Nat) (w : World) : Calls Tryz.prog 23 #[.iface 74 (.agg #[.int .i64 m.day])] w (KP (.agg (mcs { Mg.z with k := 5, day := m.day } none none none none 0 0 0 0)) w) := by
  have t1 := tn5_1
  have t2 := tn5_2
  have t3 := tn5_3
  have t4 := tn5_4
  have t5 := ty5
  have HX0 : Hid (Bx ((w.alloc (.cells (mcs Mg.z none none none none 0 0 0 0) 35)).alloc (.cells #[.int .i64 m.day] 74)) w.heap.size (mcs Mg.z none none none none 0 0 0 0) 35) := (Bx.new w _ _).keep (below_a _ _)
  have HY0 : Hid (Bx ((w.alloc (.cells (mcs Mg.z none none none none 0 0 0 0) 35)).alloc (.cells #[.int .i64 m.day] 74)) (w.heap.size + 1) #[.int .i64 m.day] 74) := by have := Bx.new (w.alloc (.cells (mcs Mg.z none none none none 0 0 0 0) 35)) #[.int .i64 m.day] 74; rwa [size_a] at this
  have HB0 : Hid (Below w.heap.size w ((w.alloc (.cells (mcs Mg.z none none none none 0 0 0 0) 35)).alloc (.cells #[.int .i64 m.day] 74))) := bt (below_a w _) (below_a _ _)
  have HBu : Hid (∀ W, (Instr.build 35 #[(0, .int .i64 5), (6, .int .i64 m.day)]).run Tryz.prog W = .ok (.agg (mcs { Mg.z with k := 5, day := m.day } none none none none 0 0 0 0)) W) := fun W => bld5 m pa ia ca ba pc ic cc bc W
  have HM1 : Hid ((mcs { Mg.z with k := 5, day := m.day } none none none none 0 0 0 0).size = 36) := mcs_size _ _ _ _ _ _ _ _ _
  have HM2 : Hid ((mcs { Mg.z with k := 5, day := m.day } none none none none 0 0 0 0).all (·.oneCell') = true) := mcs_one _ _ _ _ _ _ _ _ _
  go_enter Tryz.func23, Tryz.ntmps23
  go_upto_region 16 with fail
  show Code.wp _ _ _ _ ((w.alloc (.cells (mcs Mg.z none none none none 0 0 0 0) 35)).alloc (.cells #[.int .i64 m.day] 74))
  generalize ((w.alloc (.cells (mcs Mg.z none none none none 0 0 0 0) 35)).alloc (.cells #[.int .i64 m.day] 74)) = w1 at *
  generalize (mcs { Mg.z with k := 5, day := m.day } none none none none 0 0 0 0) = M at *
  have HST : Hid ((Instr.storeAt 35 (.pointer (some ⟨w.heap.size, 0, none⟩)) (.agg M)).run Tryz.prog w1 = .ok () (w1.setRow w.heap.size M)) := hstore w1 w.heap.size _ M HX0.out (mcs_size _ _ _ _ _ _ _ _ _) HM1.out HM2.out
  have hld := hload (w1.setRow w.heap.size M) w.heap.size M HM1.out HX0.out.set
  have HB2 : Hid (Below w.heap.size w (w1.setRow w.heap.size M)) := below_setRow' HB0.out (Nat.le_refl _)
  have c0 : w1.cell? ⟨w.heap.size + 1, 0, none⟩ = some (.int .i64 m.day) := HY0.out.cell 0
  clear HX0 HY0 HB0
  go_wp2_with (first | (guard_target =~ wpList _ _ _ (⟨_, Op.build _ _, _, _, _, _⟩ :: _) _ _; refine wl_build2 _ rfl 35 _ _ _ _ rfl _ _ rfl rfl _ (HBu.out _) ?_; go_simp) | (guard_target =~ wpList _ _ _ (⟨_, Op.store _ _ _, _, _, _, _⟩ :: _) _ _; refine wl_store _ _ rfl 35 _ _ rfl _ _ rfl rfl HST.out ?_; go_simp))
  refine bodyPost_ret (res_cell _ _ 2 35 _ _ _ rfl rfl hld) rfl ?_
  exact ⟨rfl, HB2⟩
theorem bld6 (m : Mg) (pa ia ca ba : Option Addr) (pc ic cc bc : Nat) (w : World) : (Instr.build 35 #[(0, .int .i64 6), (1, .int .i64 m.mem), (7, .string ⟨m.t.toArray⟩), (8, .int .i64 m.n)]).run Tryz.prog w = .ok (.agg (mcs { Mg.z with k := 6, mem := m.mem, t := m.t, n := m.n } none none none none 0 0 0 0)) w := by kernel_rfl
set_option maxHeartbeats 4000000 in
theorem tell6 (m : Mg) (pa ia ca ba : Option Addr) (pc ic cc bc : Nat) (w : World) : Calls Tryz.prog 23 #[.iface 84 (.agg #[.int .i64 m.mem, .string ⟨m.t.toArray⟩, .int .i64 m.n])] w (KP (.agg (mcs { Mg.z with k := 6, mem := m.mem, t := m.t, n := m.n } none none none none 0 0 0 0)) w) := by
  have t1 := tn6_1
  have t2 := tn6_2
  have t3 := tn6_3
  have t4 := tn6_4
  have t5 := tn6_5
  have t6 := ty6
  have HX0 : Hid (Bx ((w.alloc (.cells (mcs Mg.z none none none none 0 0 0 0) 35)).alloc (.cells #[.int .i64 m.mem, .string ⟨m.t.toArray⟩, .int .i64 m.n] 84)) w.heap.size (mcs Mg.z none none none none 0 0 0 0) 35) := (Bx.new w _ _).keep (below_a _ _)
  have HY0 : Hid (Bx ((w.alloc (.cells (mcs Mg.z none none none none 0 0 0 0) 35)).alloc (.cells #[.int .i64 m.mem, .string ⟨m.t.toArray⟩, .int .i64 m.n] 84)) (w.heap.size + 1) #[.int .i64 m.mem, .string ⟨m.t.toArray⟩, .int .i64 m.n] 84) := by have := Bx.new (w.alloc (.cells (mcs Mg.z none none none none 0 0 0 0) 35)) #[.int .i64 m.mem, .string ⟨m.t.toArray⟩, .int .i64 m.n] 84; rwa [size_a] at this
  have HB0 : Hid (Below w.heap.size w ((w.alloc (.cells (mcs Mg.z none none none none 0 0 0 0) 35)).alloc (.cells #[.int .i64 m.mem, .string ⟨m.t.toArray⟩, .int .i64 m.n] 84))) := bt (below_a w _) (below_a _ _)
  have HBu : Hid (∀ W, (Instr.build 35 #[(0, .int .i64 6), (1, .int .i64 m.mem), (7, .string ⟨m.t.toArray⟩), (8, .int .i64 m.n)]).run Tryz.prog W = .ok (.agg (mcs { Mg.z with k := 6, mem := m.mem, t := m.t, n := m.n } none none none none 0 0 0 0)) W) := fun W => bld6 m pa ia ca ba pc ic cc bc W
  have HM1 : Hid ((mcs { Mg.z with k := 6, mem := m.mem, t := m.t, n := m.n } none none none none 0 0 0 0).size = 36) := mcs_size _ _ _ _ _ _ _ _ _
  have HM2 : Hid ((mcs { Mg.z with k := 6, mem := m.mem, t := m.t, n := m.n } none none none none 0 0 0 0).all (·.oneCell') = true) := mcs_one _ _ _ _ _ _ _ _ _
  go_enter Tryz.func23, Tryz.ntmps23
  go_upto_region 19 with fail
  show Code.wp _ _ _ _ ((w.alloc (.cells (mcs Mg.z none none none none 0 0 0 0) 35)).alloc (.cells #[.int .i64 m.mem, .string ⟨m.t.toArray⟩, .int .i64 m.n] 84))
  generalize ((w.alloc (.cells (mcs Mg.z none none none none 0 0 0 0) 35)).alloc (.cells #[.int .i64 m.mem, .string ⟨m.t.toArray⟩, .int .i64 m.n] 84)) = w1 at *
  generalize (mcs { Mg.z with k := 6, mem := m.mem, t := m.t, n := m.n } none none none none 0 0 0 0) = M at *
  have HST : Hid ((Instr.storeAt 35 (.pointer (some ⟨w.heap.size, 0, none⟩)) (.agg M)).run Tryz.prog w1 = .ok () (w1.setRow w.heap.size M)) := hstore w1 w.heap.size _ M HX0.out (mcs_size _ _ _ _ _ _ _ _ _) HM1.out HM2.out
  have hld := hload (w1.setRow w.heap.size M) w.heap.size M HM1.out HX0.out.set
  have HB2 : Hid (Below w.heap.size w (w1.setRow w.heap.size M)) := below_setRow' HB0.out (Nat.le_refl _)
  have c0 : w1.cell? ⟨w.heap.size + 1, 0, none⟩ = some (.int .i64 m.mem) := HY0.out.cell 0
  have c1 : w1.cell? ⟨w.heap.size + 1, 1, none⟩ = some (.string ⟨m.t.toArray⟩) := HY0.out.cell 1
  have c2 : w1.cell? ⟨w.heap.size + 1, 2, none⟩ = some (.int .i64 m.n) := HY0.out.cell 2
  clear HX0 HY0 HB0
  go_wp2_with (first | (guard_target =~ wpList _ _ _ (⟨_, Op.build _ _, _, _, _, _⟩ :: _) _ _; refine wl_build4 _ rfl 35 _ _ _ _ _ _ _ _ rfl _ _ _ _ rfl rfl rfl rfl _ (HBu.out _) ?_; go_simp) | (guard_target =~ wpList _ _ _ (⟨_, Op.store _ _ _, _, _, _, _⟩ :: _) _ _; refine wl_store _ _ rfl 35 _ _ rfl _ _ rfl rfl HST.out ?_; go_simp))
  refine bodyPost_ret (res_cell _ _ 2 35 _ _ _ rfl rfl hld) rfl ?_
  exact ⟨rfl, HB2⟩
theorem bld7 (m : Mg) (pa ia ca ba : Option Addr) (pc ic cc bc : Nat) (w : World) : (Instr.build 35 #[(0, .int .i64 7), (1, .int .i64 m.mem), (7, .string ⟨m.t.toArray⟩), (8, .int .i64 m.n)]).run Tryz.prog w = .ok (.agg (mcs { Mg.z with k := 7, mem := m.mem, t := m.t, n := m.n } none none none none 0 0 0 0)) w := by kernel_rfl
set_option maxHeartbeats 4000000 in
theorem tell7 (m : Mg) (pa ia ca ba : Option Addr) (pc ic cc bc : Nat) (w : World) : Calls Tryz.prog 23 #[.iface 86 (.agg #[.int .i64 m.mem, .string ⟨m.t.toArray⟩, .int .i64 m.n])] w (KP (.agg (mcs { Mg.z with k := 7, mem := m.mem, t := m.t, n := m.n } none none none none 0 0 0 0)) w) := by
  have t1 := tn7_1
  have t2 := tn7_2
  have t3 := tn7_3
  have t4 := tn7_4
  have t5 := tn7_5
  have t6 := tn7_6
  have t7 := ty7
  have HX0 : Hid (Bx ((w.alloc (.cells (mcs Mg.z none none none none 0 0 0 0) 35)).alloc (.cells #[.int .i64 m.mem, .string ⟨m.t.toArray⟩, .int .i64 m.n] 86)) w.heap.size (mcs Mg.z none none none none 0 0 0 0) 35) := (Bx.new w _ _).keep (below_a _ _)
  have HY0 : Hid (Bx ((w.alloc (.cells (mcs Mg.z none none none none 0 0 0 0) 35)).alloc (.cells #[.int .i64 m.mem, .string ⟨m.t.toArray⟩, .int .i64 m.n] 86)) (w.heap.size + 1) #[.int .i64 m.mem, .string ⟨m.t.toArray⟩, .int .i64 m.n] 86) := by have := Bx.new (w.alloc (.cells (mcs Mg.z none none none none 0 0 0 0) 35)) #[.int .i64 m.mem, .string ⟨m.t.toArray⟩, .int .i64 m.n] 86; rwa [size_a] at this
  have HB0 : Hid (Below w.heap.size w ((w.alloc (.cells (mcs Mg.z none none none none 0 0 0 0) 35)).alloc (.cells #[.int .i64 m.mem, .string ⟨m.t.toArray⟩, .int .i64 m.n] 86))) := bt (below_a w _) (below_a _ _)
  have HBu : Hid (∀ W, (Instr.build 35 #[(0, .int .i64 7), (1, .int .i64 m.mem), (7, .string ⟨m.t.toArray⟩), (8, .int .i64 m.n)]).run Tryz.prog W = .ok (.agg (mcs { Mg.z with k := 7, mem := m.mem, t := m.t, n := m.n } none none none none 0 0 0 0)) W) := fun W => bld7 m pa ia ca ba pc ic cc bc W
  have HM1 : Hid ((mcs { Mg.z with k := 7, mem := m.mem, t := m.t, n := m.n } none none none none 0 0 0 0).size = 36) := mcs_size _ _ _ _ _ _ _ _ _
  have HM2 : Hid ((mcs { Mg.z with k := 7, mem := m.mem, t := m.t, n := m.n } none none none none 0 0 0 0).all (·.oneCell') = true) := mcs_one _ _ _ _ _ _ _ _ _
  go_enter Tryz.func23, Tryz.ntmps23
  go_upto_region 22 with fail
  show Code.wp _ _ _ _ ((w.alloc (.cells (mcs Mg.z none none none none 0 0 0 0) 35)).alloc (.cells #[.int .i64 m.mem, .string ⟨m.t.toArray⟩, .int .i64 m.n] 86))
  generalize ((w.alloc (.cells (mcs Mg.z none none none none 0 0 0 0) 35)).alloc (.cells #[.int .i64 m.mem, .string ⟨m.t.toArray⟩, .int .i64 m.n] 86)) = w1 at *
  generalize (mcs { Mg.z with k := 7, mem := m.mem, t := m.t, n := m.n } none none none none 0 0 0 0) = M at *
  have HST : Hid ((Instr.storeAt 35 (.pointer (some ⟨w.heap.size, 0, none⟩)) (.agg M)).run Tryz.prog w1 = .ok () (w1.setRow w.heap.size M)) := hstore w1 w.heap.size _ M HX0.out (mcs_size _ _ _ _ _ _ _ _ _) HM1.out HM2.out
  have hld := hload (w1.setRow w.heap.size M) w.heap.size M HM1.out HX0.out.set
  have HB2 : Hid (Below w.heap.size w (w1.setRow w.heap.size M)) := below_setRow' HB0.out (Nat.le_refl _)
  have c0 : w1.cell? ⟨w.heap.size + 1, 0, none⟩ = some (.int .i64 m.mem) := HY0.out.cell 0
  have c1 : w1.cell? ⟨w.heap.size + 1, 1, none⟩ = some (.string ⟨m.t.toArray⟩) := HY0.out.cell 1
  have c2 : w1.cell? ⟨w.heap.size + 1, 2, none⟩ = some (.int .i64 m.n) := HY0.out.cell 2
  clear HX0 HY0 HB0
  go_wp2_with (first | (guard_target =~ wpList _ _ _ (⟨_, Op.build _ _, _, _, _, _⟩ :: _) _ _; refine wl_build4 _ rfl 35 _ _ _ _ _ _ _ _ rfl _ _ _ _ rfl rfl rfl rfl _ (HBu.out _) ?_; go_simp) | (guard_target =~ wpList _ _ _ (⟨_, Op.store _ _ _, _, _, _, _⟩ :: _) _ _; refine wl_store _ _ rfl 35 _ _ rfl _ _ rfl rfl HST.out ?_; go_simp))
  refine bodyPost_ret (res_cell _ _ 2 35 _ _ _ rfl rfl hld) rfl ?_
  exact ⟨rfl, HB2⟩
theorem bld8 (m : Mg) (pa ia ca ba : Option Addr) (pc ic cc bc : Nat) (w : World) : (Instr.build 35 #[(0, .int .i64 8), (9, .agg #[.int .i64 m.q.id, .int .i64 m.q.mem, .int .i64 m.q.side, .int .i64 m.q.bas, .int .i64 m.q.am, .int .i64 m.q.rate, .int .i64 m.q.st, .int .i64 m.q.en])]).run Tryz.prog w = .ok (.agg (mcs { Mg.z with k := 8, q := m.q } none none none none 0 0 0 0)) w := by kernel_rfl
set_option maxHeartbeats 4000000 in
theorem tell8 (m : Mg) (pa ia ca ba : Option Addr) (pc ic cc bc : Nat) (w : World) : Calls Tryz.prog 23 #[.iface 63 (.agg #[.int .i64 m.q.id, .int .i64 m.q.mem, .int .i64 m.q.side, .int .i64 m.q.bas, .int .i64 m.q.am, .int .i64 m.q.rate, .int .i64 m.q.st, .int .i64 m.q.en])] w (KP (.agg (mcs { Mg.z with k := 8, q := m.q } none none none none 0 0 0 0)) w) := by
  have t1 := tn8_1
  have t2 := tn8_2
  have t3 := tn8_3
  have t4 := tn8_4
  have t5 := tn8_5
  have t6 := tn8_6
  have t7 := tn8_7
  have t8 := ty8
  have HX0 : Hid (Bx ((w.alloc (.cells (mcs Mg.z none none none none 0 0 0 0) 35)).alloc (.cells #[.int .i64 m.q.id, .int .i64 m.q.mem, .int .i64 m.q.side, .int .i64 m.q.bas, .int .i64 m.q.am, .int .i64 m.q.rate, .int .i64 m.q.st, .int .i64 m.q.en] 63)) w.heap.size (mcs Mg.z none none none none 0 0 0 0) 35) := (Bx.new w _ _).keep (below_a _ _)
  have HY0 : Hid (Bx ((w.alloc (.cells (mcs Mg.z none none none none 0 0 0 0) 35)).alloc (.cells #[.int .i64 m.q.id, .int .i64 m.q.mem, .int .i64 m.q.side, .int .i64 m.q.bas, .int .i64 m.q.am, .int .i64 m.q.rate, .int .i64 m.q.st, .int .i64 m.q.en] 63)) (w.heap.size + 1) #[.int .i64 m.q.id, .int .i64 m.q.mem, .int .i64 m.q.side, .int .i64 m.q.bas, .int .i64 m.q.am, .int .i64 m.q.rate, .int .i64 m.q.st, .int .i64 m.q.en] 63) := by have := Bx.new (w.alloc (.cells (mcs Mg.z none none none none 0 0 0 0) 35)) #[.int .i64 m.q.id, .int .i64 m.q.mem, .int .i64 m.q.side, .int .i64 m.q.bas, .int .i64 m.q.am, .int .i64 m.q.rate, .int .i64 m.q.st, .int .i64 m.q.en] 63; rwa [size_a] at this
  have HB0 : Hid (Below w.heap.size w ((w.alloc (.cells (mcs Mg.z none none none none 0 0 0 0) 35)).alloc (.cells #[.int .i64 m.q.id, .int .i64 m.q.mem, .int .i64 m.q.side, .int .i64 m.q.bas, .int .i64 m.q.am, .int .i64 m.q.rate, .int .i64 m.q.st, .int .i64 m.q.en] 63))) := bt (below_a w _) (below_a _ _)
  have HBu : Hid (∀ W, (Instr.build 35 #[(0, .int .i64 8), (9, .agg #[.int .i64 m.q.id, .int .i64 m.q.mem, .int .i64 m.q.side, .int .i64 m.q.bas, .int .i64 m.q.am, .int .i64 m.q.rate, .int .i64 m.q.st, .int .i64 m.q.en])]).run Tryz.prog W = .ok (.agg (mcs { Mg.z with k := 8, q := m.q } none none none none 0 0 0 0)) W) := fun W => bld8 m pa ia ca ba pc ic cc bc W
  have HM1 : Hid ((mcs { Mg.z with k := 8, q := m.q } none none none none 0 0 0 0).size = 36) := mcs_size _ _ _ _ _ _ _ _ _
  have HM2 : Hid ((mcs { Mg.z with k := 8, q := m.q } none none none none 0 0 0 0).all (·.oneCell') = true) := mcs_one _ _ _ _ _ _ _ _ _
  go_enter Tryz.func23, Tryz.ntmps23
  go_upto_region 25 with fail
  show Code.wp _ _ _ _ ((w.alloc (.cells (mcs Mg.z none none none none 0 0 0 0) 35)).alloc (.cells #[.int .i64 m.q.id, .int .i64 m.q.mem, .int .i64 m.q.side, .int .i64 m.q.bas, .int .i64 m.q.am, .int .i64 m.q.rate, .int .i64 m.q.st, .int .i64 m.q.en] 63))
  generalize ((w.alloc (.cells (mcs Mg.z none none none none 0 0 0 0) 35)).alloc (.cells #[.int .i64 m.q.id, .int .i64 m.q.mem, .int .i64 m.q.side, .int .i64 m.q.bas, .int .i64 m.q.am, .int .i64 m.q.rate, .int .i64 m.q.st, .int .i64 m.q.en] 63)) = w1 at *
  generalize (mcs { Mg.z with k := 8, q := m.q } none none none none 0 0 0 0) = M at *
  have HST : Hid ((Instr.storeAt 35 (.pointer (some ⟨w.heap.size, 0, none⟩)) (.agg M)).run Tryz.prog w1 = .ok () (w1.setRow w.heap.size M)) := hstore w1 w.heap.size _ M HX0.out (mcs_size _ _ _ _ _ _ _ _ _) HM1.out HM2.out
  have hld := hload (w1.setRow w.heap.size M) w.heap.size M HM1.out HX0.out.set
  have HB2 : Hid (Below w.heap.size w (w1.setRow w.heap.size M)) := below_setRow' HB0.out (Nat.le_refl _)
  have c0 : w1.cell? ⟨w.heap.size + 1, 0, none⟩ = some (.int .i64 m.q.id) := HY0.out.cell 0
  have c1 : w1.cell? ⟨w.heap.size + 1, 1, none⟩ = some (.int .i64 m.q.mem) := HY0.out.cell 1
  have c2 : w1.cell? ⟨w.heap.size + 1, 2, none⟩ = some (.int .i64 m.q.side) := HY0.out.cell 2
  have c3 : w1.cell? ⟨w.heap.size + 1, 3, none⟩ = some (.int .i64 m.q.bas) := HY0.out.cell 3
  have c4 : w1.cell? ⟨w.heap.size + 1, 4, none⟩ = some (.int .i64 m.q.am) := HY0.out.cell 4
  have c5 : w1.cell? ⟨w.heap.size + 1, 5, none⟩ = some (.int .i64 m.q.rate) := HY0.out.cell 5
  have c6 : w1.cell? ⟨w.heap.size + 1, 6, none⟩ = some (.int .i64 m.q.st) := HY0.out.cell 6
  have c7 : w1.cell? ⟨w.heap.size + 1, 7, none⟩ = some (.int .i64 m.q.en) := HY0.out.cell 7
  clear HX0 HY0 HB0
  go_wp2_with (first | (guard_target =~ wpList _ _ _ (⟨_, Op.build _ _, _, _, _, _⟩ :: _) _ _; refine wl_build2 _ rfl 35 _ _ _ _ rfl _ _ rfl rfl _ (HBu.out _) ?_; go_simp) | (guard_target =~ wpList _ _ _ (⟨_, Op.store _ _ _, _, _, _, _⟩ :: _) _ _; refine wl_store _ _ rfl 35 _ _ rfl _ _ rfl rfl HST.out ?_; go_simp))
  refine bodyPost_ret (res_cell _ _ 2 35 _ _ _ rfl rfl hld) rfl ?_
  exact ⟨rfl, HB2⟩
theorem bld9 (m : Mg) (pa ia ca ba : Option Addr) (pc ic cc bc : Nat) (w : World) : (Instr.build 35 #[(0, .int .i64 9), (1, .int .i64 m.mem), (8, .int .i64 m.n)]).run Tryz.prog w = .ok (.agg (mcs { Mg.z with k := 9, mem := m.mem, n := m.n } none none none none 0 0 0 0)) w := by kernel_rfl
set_option maxHeartbeats 4000000 in
theorem tell9 (m : Mg) (pa ia ca ba : Option Addr) (pc ic cc bc : Nat) (w : World) : Calls Tryz.prog 23 #[.iface 88 (.agg #[.int .i64 m.mem, .int .i64 m.n])] w (KP (.agg (mcs { Mg.z with k := 9, mem := m.mem, n := m.n } none none none none 0 0 0 0)) w) := by
  have t1 := tn9_1
  have t2 := tn9_2
  have t3 := tn9_3
  have t4 := tn9_4
  have t5 := tn9_5
  have t6 := tn9_6
  have t7 := tn9_7
  have t8 := tn9_8
  have t9 := ty9
  have HX0 : Hid (Bx ((w.alloc (.cells (mcs Mg.z none none none none 0 0 0 0) 35)).alloc (.cells #[.int .i64 m.mem, .int .i64 m.n] 88)) w.heap.size (mcs Mg.z none none none none 0 0 0 0) 35) := (Bx.new w _ _).keep (below_a _ _)
  have HY0 : Hid (Bx ((w.alloc (.cells (mcs Mg.z none none none none 0 0 0 0) 35)).alloc (.cells #[.int .i64 m.mem, .int .i64 m.n] 88)) (w.heap.size + 1) #[.int .i64 m.mem, .int .i64 m.n] 88) := by have := Bx.new (w.alloc (.cells (mcs Mg.z none none none none 0 0 0 0) 35)) #[.int .i64 m.mem, .int .i64 m.n] 88; rwa [size_a] at this
  have HB0 : Hid (Below w.heap.size w ((w.alloc (.cells (mcs Mg.z none none none none 0 0 0 0) 35)).alloc (.cells #[.int .i64 m.mem, .int .i64 m.n] 88))) := bt (below_a w _) (below_a _ _)
  have HBu : Hid (∀ W, (Instr.build 35 #[(0, .int .i64 9), (1, .int .i64 m.mem), (8, .int .i64 m.n)]).run Tryz.prog W = .ok (.agg (mcs { Mg.z with k := 9, mem := m.mem, n := m.n } none none none none 0 0 0 0)) W) := fun W => bld9 m pa ia ca ba pc ic cc bc W
  have HM1 : Hid ((mcs { Mg.z with k := 9, mem := m.mem, n := m.n } none none none none 0 0 0 0).size = 36) := mcs_size _ _ _ _ _ _ _ _ _
  have HM2 : Hid ((mcs { Mg.z with k := 9, mem := m.mem, n := m.n } none none none none 0 0 0 0).all (·.oneCell') = true) := mcs_one _ _ _ _ _ _ _ _ _
  go_enter Tryz.func23, Tryz.ntmps23
  go_upto_region 28 with fail
  show Code.wp _ _ _ _ ((w.alloc (.cells (mcs Mg.z none none none none 0 0 0 0) 35)).alloc (.cells #[.int .i64 m.mem, .int .i64 m.n] 88))
  generalize ((w.alloc (.cells (mcs Mg.z none none none none 0 0 0 0) 35)).alloc (.cells #[.int .i64 m.mem, .int .i64 m.n] 88)) = w1 at *
  generalize (mcs { Mg.z with k := 9, mem := m.mem, n := m.n } none none none none 0 0 0 0) = M at *
  have HST : Hid ((Instr.storeAt 35 (.pointer (some ⟨w.heap.size, 0, none⟩)) (.agg M)).run Tryz.prog w1 = .ok () (w1.setRow w.heap.size M)) := hstore w1 w.heap.size _ M HX0.out (mcs_size _ _ _ _ _ _ _ _ _) HM1.out HM2.out
  have hld := hload (w1.setRow w.heap.size M) w.heap.size M HM1.out HX0.out.set
  have HB2 : Hid (Below w.heap.size w (w1.setRow w.heap.size M)) := below_setRow' HB0.out (Nat.le_refl _)
  have c0 : w1.cell? ⟨w.heap.size + 1, 0, none⟩ = some (.int .i64 m.mem) := HY0.out.cell 0
  have c1 : w1.cell? ⟨w.heap.size + 1, 1, none⟩ = some (.int .i64 m.n) := HY0.out.cell 1
  clear HX0 HY0 HB0
  go_wp2_with (first | (guard_target =~ wpList _ _ _ (⟨_, Op.build _ _, _, _, _, _⟩ :: _) _ _; refine wl_build3 _ rfl 35 _ _ _ _ _ _ rfl _ _ _ rfl rfl rfl _ (HBu.out _) ?_; go_simp) | (guard_target =~ wpList _ _ _ (⟨_, Op.store _ _ _, _, _, _, _⟩ :: _) _ _; refine wl_store _ _ rfl 35 _ _ rfl _ _ rfl rfl HST.out ?_; go_simp))
  refine bodyPost_ret (res_cell _ _ 2 35 _ _ _ rfl rfl hld) rfl ?_
  exact ⟨rfl, HB2⟩
theorem bld10 (m : Mg) (pa ia ca ba : Option Addr) (pc ic cc bc : Nat) (w : World) : (Instr.build 35 #[(0, .int .i64 10), (1, .int .i64 m.mem), (12, .int .i64 m.tr), (6, .int .i64 m.day)]).run Tryz.prog w = .ok (.agg (mcs { Mg.z with k := 10, mem := m.mem, day := m.day, tr := m.tr } none none none none 0 0 0 0)) w := by kernel_rfl
set_option maxHeartbeats 4000000 in
theorem tell10 (m : Mg) (pa ia ca ba : Option Addr) (pc ic cc bc : Nat) (w : World) : Calls Tryz.prog 23 #[.iface 90 (.agg #[.int .i64 m.mem, .int .i64 m.tr, .int .i64 m.day])] w (KP (.agg (mcs { Mg.z with k := 10, mem := m.mem, day := m.day, tr := m.tr } none none none none 0 0 0 0)) w) := by
  have t1 := tn10_1
  have t2 := tn10_2
  have t3 := tn10_3
  have t4 := tn10_4
  have t5 := tn10_5
  have t6 := tn10_6
  have t7 := tn10_7
  have t8 := tn10_8
  have t9 := tn10_9
  have t10 := ty10
  have HX0 : Hid (Bx ((w.alloc (.cells (mcs Mg.z none none none none 0 0 0 0) 35)).alloc (.cells #[.int .i64 m.mem, .int .i64 m.tr, .int .i64 m.day] 90)) w.heap.size (mcs Mg.z none none none none 0 0 0 0) 35) := (Bx.new w _ _).keep (below_a _ _)
  have HY0 : Hid (Bx ((w.alloc (.cells (mcs Mg.z none none none none 0 0 0 0) 35)).alloc (.cells #[.int .i64 m.mem, .int .i64 m.tr, .int .i64 m.day] 90)) (w.heap.size + 1) #[.int .i64 m.mem, .int .i64 m.tr, .int .i64 m.day] 90) := by have := Bx.new (w.alloc (.cells (mcs Mg.z none none none none 0 0 0 0) 35)) #[.int .i64 m.mem, .int .i64 m.tr, .int .i64 m.day] 90; rwa [size_a] at this
  have HB0 : Hid (Below w.heap.size w ((w.alloc (.cells (mcs Mg.z none none none none 0 0 0 0) 35)).alloc (.cells #[.int .i64 m.mem, .int .i64 m.tr, .int .i64 m.day] 90))) := bt (below_a w _) (below_a _ _)
  have HBu : Hid (∀ W, (Instr.build 35 #[(0, .int .i64 10), (1, .int .i64 m.mem), (12, .int .i64 m.tr), (6, .int .i64 m.day)]).run Tryz.prog W = .ok (.agg (mcs { Mg.z with k := 10, mem := m.mem, day := m.day, tr := m.tr } none none none none 0 0 0 0)) W) := fun W => bld10 m pa ia ca ba pc ic cc bc W
  have HM1 : Hid ((mcs { Mg.z with k := 10, mem := m.mem, day := m.day, tr := m.tr } none none none none 0 0 0 0).size = 36) := mcs_size _ _ _ _ _ _ _ _ _
  have HM2 : Hid ((mcs { Mg.z with k := 10, mem := m.mem, day := m.day, tr := m.tr } none none none none 0 0 0 0).all (·.oneCell') = true) := mcs_one _ _ _ _ _ _ _ _ _
  go_enter Tryz.func23, Tryz.ntmps23
  go_upto_region 31 with fail
  show Code.wp _ _ _ _ ((w.alloc (.cells (mcs Mg.z none none none none 0 0 0 0) 35)).alloc (.cells #[.int .i64 m.mem, .int .i64 m.tr, .int .i64 m.day] 90))
  generalize ((w.alloc (.cells (mcs Mg.z none none none none 0 0 0 0) 35)).alloc (.cells #[.int .i64 m.mem, .int .i64 m.tr, .int .i64 m.day] 90)) = w1 at *
  generalize (mcs { Mg.z with k := 10, mem := m.mem, day := m.day, tr := m.tr } none none none none 0 0 0 0) = M at *
  have HST : Hid ((Instr.storeAt 35 (.pointer (some ⟨w.heap.size, 0, none⟩)) (.agg M)).run Tryz.prog w1 = .ok () (w1.setRow w.heap.size M)) := hstore w1 w.heap.size _ M HX0.out (mcs_size _ _ _ _ _ _ _ _ _) HM1.out HM2.out
  have hld := hload (w1.setRow w.heap.size M) w.heap.size M HM1.out HX0.out.set
  have HB2 : Hid (Below w.heap.size w (w1.setRow w.heap.size M)) := below_setRow' HB0.out (Nat.le_refl _)
  have c0 : w1.cell? ⟨w.heap.size + 1, 0, none⟩ = some (.int .i64 m.mem) := HY0.out.cell 0
  have c1 : w1.cell? ⟨w.heap.size + 1, 1, none⟩ = some (.int .i64 m.tr) := HY0.out.cell 1
  have c2 : w1.cell? ⟨w.heap.size + 1, 2, none⟩ = some (.int .i64 m.day) := HY0.out.cell 2
  clear HX0 HY0 HB0
  go_wp2_with (first | (guard_target =~ wpList _ _ _ (⟨_, Op.build _ _, _, _, _, _⟩ :: _) _ _; refine wl_build4 _ rfl 35 _ _ _ _ _ _ _ _ rfl _ _ _ _ rfl rfl rfl rfl _ (HBu.out _) ?_; go_simp) | (guard_target =~ wpList _ _ _ (⟨_, Op.store _ _ _, _, _, _, _⟩ :: _) _ _; refine wl_store _ _ rfl 35 _ _ rfl _ _ rfl rfl HST.out ?_; go_simp))
  refine bodyPost_ret (res_cell _ _ 2 35 _ _ _ rfl rfl hld) rfl ?_
  exact ⟨rfl, HB2⟩
theorem bld11 (m : Mg) (pa ia ca ba : Option Addr) (pc ic cc bc : Nat) (w : World) : (Instr.build 35 #[(0, .int .i64 11), (1, .int .i64 m.mem), (12, .int .i64 m.tr), (10, .agg #[.string ⟨m.out.i.toArray⟩, .int .i64 m.out.q]), (11, .slice ia m.ins.length ic)]).run Tryz.prog w = .ok (.agg (mcs { Mg.z with k := 11, mem := m.mem, tr := m.tr, out := m.out, ins := m.ins } none ia none none 0 ic 0 0)) w := by kernel_rfl
set_option maxHeartbeats 4000000 in
theorem tell11 (m : Mg) (pa ia ca ba : Option Addr) (pc ic cc bc : Nat) (w : World) : Calls Tryz.prog 23 #[.iface 67 (.agg #[.int .i64 m.mem, .int .i64 m.tr, .string ⟨m.out.i.toArray⟩, .int .i64 m.out.q, .slice ia m.ins.length ic])] w (KP (.agg (mcs { Mg.z with k := 11, mem := m.mem, tr := m.tr, out := m.out, ins := m.ins } none ia none none 0 ic 0 0)) w) := by
  have t1 := tn11_1
  have t2 := tn11_2
  have t3 := tn11_3
  have t4 := tn11_4
  have t5 := tn11_5
  have t6 := tn11_6
  have t7 := tn11_7
  have t8 := tn11_8
  have t9 := tn11_9
  have t10 := tn11_10
  have t11 := ty11
  have HX0 : Hid (Bx ((w.alloc (.cells (mcs Mg.z none none none none 0 0 0 0) 35)).alloc (.cells #[.int .i64 m.mem, .int .i64 m.tr, .string ⟨m.out.i.toArray⟩, .int .i64 m.out.q, .slice ia m.ins.length ic] 67)) w.heap.size (mcs Mg.z none none none none 0 0 0 0) 35) := (Bx.new w _ _).keep (below_a _ _)
  have HY0 : Hid (Bx ((w.alloc (.cells (mcs Mg.z none none none none 0 0 0 0) 35)).alloc (.cells #[.int .i64 m.mem, .int .i64 m.tr, .string ⟨m.out.i.toArray⟩, .int .i64 m.out.q, .slice ia m.ins.length ic] 67)) (w.heap.size + 1) #[.int .i64 m.mem, .int .i64 m.tr, .string ⟨m.out.i.toArray⟩, .int .i64 m.out.q, .slice ia m.ins.length ic] 67) := by have := Bx.new (w.alloc (.cells (mcs Mg.z none none none none 0 0 0 0) 35)) #[.int .i64 m.mem, .int .i64 m.tr, .string ⟨m.out.i.toArray⟩, .int .i64 m.out.q, .slice ia m.ins.length ic] 67; rwa [size_a] at this
  have HB0 : Hid (Below w.heap.size w ((w.alloc (.cells (mcs Mg.z none none none none 0 0 0 0) 35)).alloc (.cells #[.int .i64 m.mem, .int .i64 m.tr, .string ⟨m.out.i.toArray⟩, .int .i64 m.out.q, .slice ia m.ins.length ic] 67))) := bt (below_a w _) (below_a _ _)
  have HBu : Hid (∀ W, (Instr.build 35 #[(0, .int .i64 11), (1, .int .i64 m.mem), (12, .int .i64 m.tr), (10, .agg #[.string ⟨m.out.i.toArray⟩, .int .i64 m.out.q]), (11, .slice ia m.ins.length ic)]).run Tryz.prog W = .ok (.agg (mcs { Mg.z with k := 11, mem := m.mem, tr := m.tr, out := m.out, ins := m.ins } none ia none none 0 ic 0 0)) W) := fun W => bld11 m pa ia ca ba pc ic cc bc W
  have HM1 : Hid ((mcs { Mg.z with k := 11, mem := m.mem, tr := m.tr, out := m.out, ins := m.ins } none ia none none 0 ic 0 0).size = 36) := mcs_size _ _ _ _ _ _ _ _ _
  have HM2 : Hid ((mcs { Mg.z with k := 11, mem := m.mem, tr := m.tr, out := m.out, ins := m.ins } none ia none none 0 ic 0 0).all (·.oneCell') = true) := mcs_one _ _ _ _ _ _ _ _ _
  go_enter Tryz.func23, Tryz.ntmps23
  go_upto_region 34 with fail
  show Code.wp _ _ _ _ ((w.alloc (.cells (mcs Mg.z none none none none 0 0 0 0) 35)).alloc (.cells #[.int .i64 m.mem, .int .i64 m.tr, .string ⟨m.out.i.toArray⟩, .int .i64 m.out.q, .slice ia m.ins.length ic] 67))
  generalize ((w.alloc (.cells (mcs Mg.z none none none none 0 0 0 0) 35)).alloc (.cells #[.int .i64 m.mem, .int .i64 m.tr, .string ⟨m.out.i.toArray⟩, .int .i64 m.out.q, .slice ia m.ins.length ic] 67)) = w1 at *
  generalize (mcs { Mg.z with k := 11, mem := m.mem, tr := m.tr, out := m.out, ins := m.ins } none ia none none 0 ic 0 0) = M at *
  have HST : Hid ((Instr.storeAt 35 (.pointer (some ⟨w.heap.size, 0, none⟩)) (.agg M)).run Tryz.prog w1 = .ok () (w1.setRow w.heap.size M)) := hstore w1 w.heap.size _ M HX0.out (mcs_size _ _ _ _ _ _ _ _ _) HM1.out HM2.out
  have hld := hload (w1.setRow w.heap.size M) w.heap.size M HM1.out HX0.out.set
  have HB2 : Hid (Below w.heap.size w (w1.setRow w.heap.size M)) := below_setRow' HB0.out (Nat.le_refl _)
  have c0 : w1.cell? ⟨w.heap.size + 1, 0, none⟩ = some (.int .i64 m.mem) := HY0.out.cell 0
  have c1 : w1.cell? ⟨w.heap.size + 1, 1, none⟩ = some (.int .i64 m.tr) := HY0.out.cell 1
  have c2 : w1.cell? ⟨w.heap.size + 1, 2, none⟩ = some (.string ⟨m.out.i.toArray⟩) := HY0.out.cell 2
  have c3 : w1.cell? ⟨w.heap.size + 1, 3, none⟩ = some (.int .i64 m.out.q) := HY0.out.cell 3
  have c4 : w1.cell? ⟨w.heap.size + 1, 4, none⟩ = some (.slice ia m.ins.length ic) := HY0.out.cell 4
  clear HX0 HY0 HB0
  go_wp2_with (first | (guard_target =~ wpList _ _ _ (⟨_, Op.build _ _, _, _, _, _⟩ :: _) _ _; refine wl_build5 _ rfl 35 _ _ _ _ _ _ _ _ _ _ rfl _ _ _ _ _ rfl rfl rfl rfl rfl _ (HBu.out _) ?_; go_simp) | (guard_target =~ wpList _ _ _ (⟨_, Op.store _ _ _, _, _, _, _⟩ :: _) _ _; refine wl_store _ _ rfl 35 _ _ rfl _ _ rfl rfl HST.out ?_; go_simp))
  refine bodyPost_ret (res_cell _ _ 2 35 _ _ _ rfl rfl hld) rfl ?_
  exact ⟨rfl, HB2⟩
theorem bld12 (m : Mg) (pa ia ca ba : Option Addr) (pc ic cc bc : Nat) (w : World) : (Instr.build 35 #[(0, .int .i64 12), (1, .int .i64 m.mem), (6, .int .i64 m.day), (13, .bool m.done)]).run Tryz.prog w = .ok (.agg (mcs { Mg.z with k := 12, mem := m.mem, day := m.day, done := m.done } none none none none 0 0 0 0)) w := by kernel_rfl
set_option maxHeartbeats 4000000 in
theorem tell12 (m : Mg) (pa ia ca ba : Option Addr) (pc ic cc bc : Nat) (w : World) : Calls Tryz.prog 23 #[.iface 92 (.agg #[.int .i64 m.mem, .int .i64 m.day, .bool m.done])] w (KP (.agg (mcs { Mg.z with k := 12, mem := m.mem, day := m.day, done := m.done } none none none none 0 0 0 0)) w) := by
  have t1 := tn12_1
  have t2 := tn12_2
  have t3 := tn12_3
  have t4 := tn12_4
  have t5 := tn12_5
  have t6 := tn12_6
  have t7 := tn12_7
  have t8 := tn12_8
  have t9 := tn12_9
  have t10 := tn12_10
  have t11 := tn12_11
  have t12 := ty12
  have HX0 : Hid (Bx ((w.alloc (.cells (mcs Mg.z none none none none 0 0 0 0) 35)).alloc (.cells #[.int .i64 m.mem, .int .i64 m.day, .bool m.done] 92)) w.heap.size (mcs Mg.z none none none none 0 0 0 0) 35) := (Bx.new w _ _).keep (below_a _ _)
  have HY0 : Hid (Bx ((w.alloc (.cells (mcs Mg.z none none none none 0 0 0 0) 35)).alloc (.cells #[.int .i64 m.mem, .int .i64 m.day, .bool m.done] 92)) (w.heap.size + 1) #[.int .i64 m.mem, .int .i64 m.day, .bool m.done] 92) := by have := Bx.new (w.alloc (.cells (mcs Mg.z none none none none 0 0 0 0) 35)) #[.int .i64 m.mem, .int .i64 m.day, .bool m.done] 92; rwa [size_a] at this
  have HB0 : Hid (Below w.heap.size w ((w.alloc (.cells (mcs Mg.z none none none none 0 0 0 0) 35)).alloc (.cells #[.int .i64 m.mem, .int .i64 m.day, .bool m.done] 92))) := bt (below_a w _) (below_a _ _)
  have HBu : Hid (∀ W, (Instr.build 35 #[(0, .int .i64 12), (1, .int .i64 m.mem), (6, .int .i64 m.day), (13, .bool m.done)]).run Tryz.prog W = .ok (.agg (mcs { Mg.z with k := 12, mem := m.mem, day := m.day, done := m.done } none none none none 0 0 0 0)) W) := fun W => bld12 m pa ia ca ba pc ic cc bc W
  have HM1 : Hid ((mcs { Mg.z with k := 12, mem := m.mem, day := m.day, done := m.done } none none none none 0 0 0 0).size = 36) := mcs_size _ _ _ _ _ _ _ _ _
  have HM2 : Hid ((mcs { Mg.z with k := 12, mem := m.mem, day := m.day, done := m.done } none none none none 0 0 0 0).all (·.oneCell') = true) := mcs_one _ _ _ _ _ _ _ _ _
  go_enter Tryz.func23, Tryz.ntmps23
  go_upto_region 37 with fail
  show Code.wp _ _ _ _ ((w.alloc (.cells (mcs Mg.z none none none none 0 0 0 0) 35)).alloc (.cells #[.int .i64 m.mem, .int .i64 m.day, .bool m.done] 92))
  generalize ((w.alloc (.cells (mcs Mg.z none none none none 0 0 0 0) 35)).alloc (.cells #[.int .i64 m.mem, .int .i64 m.day, .bool m.done] 92)) = w1 at *
  generalize (mcs { Mg.z with k := 12, mem := m.mem, day := m.day, done := m.done } none none none none 0 0 0 0) = M at *
  have HST : Hid ((Instr.storeAt 35 (.pointer (some ⟨w.heap.size, 0, none⟩)) (.agg M)).run Tryz.prog w1 = .ok () (w1.setRow w.heap.size M)) := hstore w1 w.heap.size _ M HX0.out (mcs_size _ _ _ _ _ _ _ _ _) HM1.out HM2.out
  have hld := hload (w1.setRow w.heap.size M) w.heap.size M HM1.out HX0.out.set
  have HB2 : Hid (Below w.heap.size w (w1.setRow w.heap.size M)) := below_setRow' HB0.out (Nat.le_refl _)
  have c0 : w1.cell? ⟨w.heap.size + 1, 0, none⟩ = some (.int .i64 m.mem) := HY0.out.cell 0
  have c1 : w1.cell? ⟨w.heap.size + 1, 1, none⟩ = some (.int .i64 m.day) := HY0.out.cell 1
  have c2 : w1.cell? ⟨w.heap.size + 1, 2, none⟩ = some (.bool m.done) := HY0.out.cell 2
  clear HX0 HY0 HB0
  go_wp2_with (first | (guard_target =~ wpList _ _ _ (⟨_, Op.build _ _, _, _, _, _⟩ :: _) _ _; refine wl_build4 _ rfl 35 _ _ _ _ _ _ _ _ rfl _ _ _ _ rfl rfl rfl rfl _ (HBu.out _) ?_; go_simp) | (guard_target =~ wpList _ _ _ (⟨_, Op.store _ _ _, _, _, _, _⟩ :: _) _ _; refine wl_store _ _ rfl 35 _ _ rfl _ _ rfl rfl HST.out ?_; go_simp))
  refine bodyPost_ret (res_cell _ _ 2 35 _ _ _ rfl rfl hld) rfl ?_
  exact ⟨rfl, HB2⟩
theorem bld13 (m : Mg) (pa ia ca ba : Option Addr) (pc ic cc bc : Nat) (w : World) : (Instr.build 35 #[(0, .int .i64 13), (1, .int .i64 m.mem)]).run Tryz.prog w = .ok (.agg (mcs { Mg.z with k := 13, mem := m.mem } none none none none 0 0 0 0)) w := by kernel_rfl
set_option maxHeartbeats 4000000 in
theorem tell13 (m : Mg) (pa ia ca ba : Option Addr) (pc ic cc bc : Nat) (w : World) : Calls Tryz.prog 23 #[.iface 94 (.agg #[.int .i64 m.mem])] w (KP (.agg (mcs { Mg.z with k := 13, mem := m.mem } none none none none 0 0 0 0)) w) := by
  have t1 := tn13_1
  have t2 := tn13_2
  have t3 := tn13_3
  have t4 := tn13_4
  have t5 := tn13_5
  have t6 := tn13_6
  have t7 := tn13_7
  have t8 := tn13_8
  have t9 := tn13_9
  have t10 := tn13_10
  have t11 := tn13_11
  have t12 := tn13_12
  have t13 := ty13
  have HX0 : Hid (Bx ((w.alloc (.cells (mcs Mg.z none none none none 0 0 0 0) 35)).alloc (.cells #[.int .i64 m.mem] 94)) w.heap.size (mcs Mg.z none none none none 0 0 0 0) 35) := (Bx.new w _ _).keep (below_a _ _)
  have HY0 : Hid (Bx ((w.alloc (.cells (mcs Mg.z none none none none 0 0 0 0) 35)).alloc (.cells #[.int .i64 m.mem] 94)) (w.heap.size + 1) #[.int .i64 m.mem] 94) := by have := Bx.new (w.alloc (.cells (mcs Mg.z none none none none 0 0 0 0) 35)) #[.int .i64 m.mem] 94; rwa [size_a] at this
  have HB0 : Hid (Below w.heap.size w ((w.alloc (.cells (mcs Mg.z none none none none 0 0 0 0) 35)).alloc (.cells #[.int .i64 m.mem] 94))) := bt (below_a w _) (below_a _ _)
  have HBu : Hid (∀ W, (Instr.build 35 #[(0, .int .i64 13), (1, .int .i64 m.mem)]).run Tryz.prog W = .ok (.agg (mcs { Mg.z with k := 13, mem := m.mem } none none none none 0 0 0 0)) W) := fun W => bld13 m pa ia ca ba pc ic cc bc W
  have HM1 : Hid ((mcs { Mg.z with k := 13, mem := m.mem } none none none none 0 0 0 0).size = 36) := mcs_size _ _ _ _ _ _ _ _ _
  have HM2 : Hid ((mcs { Mg.z with k := 13, mem := m.mem } none none none none 0 0 0 0).all (·.oneCell') = true) := mcs_one _ _ _ _ _ _ _ _ _
  go_enter Tryz.func23, Tryz.ntmps23
  go_upto_region 40 with fail
  show Code.wp _ _ _ _ ((w.alloc (.cells (mcs Mg.z none none none none 0 0 0 0) 35)).alloc (.cells #[.int .i64 m.mem] 94))
  generalize ((w.alloc (.cells (mcs Mg.z none none none none 0 0 0 0) 35)).alloc (.cells #[.int .i64 m.mem] 94)) = w1 at *
  generalize (mcs { Mg.z with k := 13, mem := m.mem } none none none none 0 0 0 0) = M at *
  have HST : Hid ((Instr.storeAt 35 (.pointer (some ⟨w.heap.size, 0, none⟩)) (.agg M)).run Tryz.prog w1 = .ok () (w1.setRow w.heap.size M)) := hstore w1 w.heap.size _ M HX0.out (mcs_size _ _ _ _ _ _ _ _ _) HM1.out HM2.out
  have hld := hload (w1.setRow w.heap.size M) w.heap.size M HM1.out HX0.out.set
  have HB2 : Hid (Below w.heap.size w (w1.setRow w.heap.size M)) := below_setRow' HB0.out (Nat.le_refl _)
  have c0 : w1.cell? ⟨w.heap.size + 1, 0, none⟩ = some (.int .i64 m.mem) := HY0.out.cell 0
  clear HX0 HY0 HB0
  go_wp2_with (first | (guard_target =~ wpList _ _ _ (⟨_, Op.build _ _, _, _, _, _⟩ :: _) _ _; refine wl_build2 _ rfl 35 _ _ _ _ rfl _ _ rfl rfl _ (HBu.out _) ?_; go_simp) | (guard_target =~ wpList _ _ _ (⟨_, Op.store _ _ _, _, _, _, _⟩ :: _) _ _; refine wl_store _ _ rfl 35 _ _ rfl _ _ rfl rfl HST.out ?_; go_simp))
  refine bodyPost_ret (res_cell _ _ 2 35 _ _ _ rfl rfl hld) rfl ?_
  exact ⟨rfl, HB2⟩
theorem bld14 (m : Mg) (pa ia ca ba : Option Addr) (pc ic cc bc : Nat) (w : World) : (Instr.build 35 #[(0, .int .i64 14), (1, .int .i64 m.mem), (8, .int .i64 m.n)]).run Tryz.prog w = .ok (.agg (mcs { Mg.z with k := 14, mem := m.mem, n := m.n } none none none none 0 0 0 0)) w := by kernel_rfl
set_option maxHeartbeats 4000000 in
theorem tell14 (m : Mg) (pa ia ca ba : Option Addr) (pc ic cc bc : Nat) (w : World) : Calls Tryz.prog 23 #[.iface 96 (.agg #[.int .i64 m.mem, .int .i64 m.n])] w (KP (.agg (mcs { Mg.z with k := 14, mem := m.mem, n := m.n } none none none none 0 0 0 0)) w) := by
  have t1 := tn14_1
  have t2 := tn14_2
  have t3 := tn14_3
  have t4 := tn14_4
  have t5 := tn14_5
  have t6 := tn14_6
  have t7 := tn14_7
  have t8 := tn14_8
  have t9 := tn14_9
  have t10 := tn14_10
  have t11 := tn14_11
  have t12 := tn14_12
  have t13 := tn14_13
  have t14 := ty14
  have HX0 : Hid (Bx ((w.alloc (.cells (mcs Mg.z none none none none 0 0 0 0) 35)).alloc (.cells #[.int .i64 m.mem, .int .i64 m.n] 96)) w.heap.size (mcs Mg.z none none none none 0 0 0 0) 35) := (Bx.new w _ _).keep (below_a _ _)
  have HY0 : Hid (Bx ((w.alloc (.cells (mcs Mg.z none none none none 0 0 0 0) 35)).alloc (.cells #[.int .i64 m.mem, .int .i64 m.n] 96)) (w.heap.size + 1) #[.int .i64 m.mem, .int .i64 m.n] 96) := by have := Bx.new (w.alloc (.cells (mcs Mg.z none none none none 0 0 0 0) 35)) #[.int .i64 m.mem, .int .i64 m.n] 96; rwa [size_a] at this
  have HB0 : Hid (Below w.heap.size w ((w.alloc (.cells (mcs Mg.z none none none none 0 0 0 0) 35)).alloc (.cells #[.int .i64 m.mem, .int .i64 m.n] 96))) := bt (below_a w _) (below_a _ _)
  have HBu : Hid (∀ W, (Instr.build 35 #[(0, .int .i64 14), (1, .int .i64 m.mem), (8, .int .i64 m.n)]).run Tryz.prog W = .ok (.agg (mcs { Mg.z with k := 14, mem := m.mem, n := m.n } none none none none 0 0 0 0)) W) := fun W => bld14 m pa ia ca ba pc ic cc bc W
  have HM1 : Hid ((mcs { Mg.z with k := 14, mem := m.mem, n := m.n } none none none none 0 0 0 0).size = 36) := mcs_size _ _ _ _ _ _ _ _ _
  have HM2 : Hid ((mcs { Mg.z with k := 14, mem := m.mem, n := m.n } none none none none 0 0 0 0).all (·.oneCell') = true) := mcs_one _ _ _ _ _ _ _ _ _
  go_enter Tryz.func23, Tryz.ntmps23
  go_upto_region 43 with fail
  show Code.wp _ _ _ _ ((w.alloc (.cells (mcs Mg.z none none none none 0 0 0 0) 35)).alloc (.cells #[.int .i64 m.mem, .int .i64 m.n] 96))
  generalize ((w.alloc (.cells (mcs Mg.z none none none none 0 0 0 0) 35)).alloc (.cells #[.int .i64 m.mem, .int .i64 m.n] 96)) = w1 at *
  generalize (mcs { Mg.z with k := 14, mem := m.mem, n := m.n } none none none none 0 0 0 0) = M at *
  have HST : Hid ((Instr.storeAt 35 (.pointer (some ⟨w.heap.size, 0, none⟩)) (.agg M)).run Tryz.prog w1 = .ok () (w1.setRow w.heap.size M)) := hstore w1 w.heap.size _ M HX0.out (mcs_size _ _ _ _ _ _ _ _ _) HM1.out HM2.out
  have hld := hload (w1.setRow w.heap.size M) w.heap.size M HM1.out HX0.out.set
  have HB2 : Hid (Below w.heap.size w (w1.setRow w.heap.size M)) := below_setRow' HB0.out (Nat.le_refl _)
  have c0 : w1.cell? ⟨w.heap.size + 1, 0, none⟩ = some (.int .i64 m.mem) := HY0.out.cell 0
  have c1 : w1.cell? ⟨w.heap.size + 1, 1, none⟩ = some (.int .i64 m.n) := HY0.out.cell 1
  clear HX0 HY0 HB0
  go_wp2_with (first | (guard_target =~ wpList _ _ _ (⟨_, Op.build _ _, _, _, _, _⟩ :: _) _ _; refine wl_build3 _ rfl 35 _ _ _ _ _ _ rfl _ _ _ rfl rfl rfl _ (HBu.out _) ?_; go_simp) | (guard_target =~ wpList _ _ _ (⟨_, Op.store _ _ _, _, _, _, _⟩ :: _) _ _; refine wl_store _ _ rfl 35 _ _ rfl _ _ rfl rfl HST.out ?_; go_simp))
  refine bodyPost_ret (res_cell _ _ 2 35 _ _ _ rfl rfl hld) rfl ?_
  exact ⟨rfl, HB2⟩
theorem bld15 (m : Mg) (pa ia ca ba : Option Addr) (pc ic cc bc : Nat) (w : World) : (Instr.build 35 #[(0, .int .i64 15), (12, .int .i64 m.tr), (6, .int .i64 m.day), (14, .int .i64 m.rate)]).run Tryz.prog w = .ok (.agg (mcs { Mg.z with k := 15, day := m.day, tr := m.tr, rate := m.rate } none none none none 0 0 0 0)) w := by kernel_rfl
set_option maxHeartbeats 4000000 in
theorem tell15 (m : Mg) (pa ia ca ba : Option Addr) (pc ic cc bc : Nat) (w : World) : Calls Tryz.prog 23 #[.iface 98 (.agg #[.int .i64 m.tr, .int .i64 m.day, .int .i64 m.rate])] w (KP (.agg (mcs { Mg.z with k := 15, day := m.day, tr := m.tr, rate := m.rate } none none none none 0 0 0 0)) w) := by
  have t1 := tn15_1
  have t2 := tn15_2
  have t3 := tn15_3
  have t4 := tn15_4
  have t5 := tn15_5
  have t6 := tn15_6
  have t7 := tn15_7
  have t8 := tn15_8
  have t9 := tn15_9
  have t10 := tn15_10
  have t11 := tn15_11
  have t12 := tn15_12
  have t13 := tn15_13
  have t14 := tn15_14
  have t15 := ty15
  have HX0 : Hid (Bx ((w.alloc (.cells (mcs Mg.z none none none none 0 0 0 0) 35)).alloc (.cells #[.int .i64 m.tr, .int .i64 m.day, .int .i64 m.rate] 98)) w.heap.size (mcs Mg.z none none none none 0 0 0 0) 35) := (Bx.new w _ _).keep (below_a _ _)
  have HY0 : Hid (Bx ((w.alloc (.cells (mcs Mg.z none none none none 0 0 0 0) 35)).alloc (.cells #[.int .i64 m.tr, .int .i64 m.day, .int .i64 m.rate] 98)) (w.heap.size + 1) #[.int .i64 m.tr, .int .i64 m.day, .int .i64 m.rate] 98) := by have := Bx.new (w.alloc (.cells (mcs Mg.z none none none none 0 0 0 0) 35)) #[.int .i64 m.tr, .int .i64 m.day, .int .i64 m.rate] 98; rwa [size_a] at this
  have HB0 : Hid (Below w.heap.size w ((w.alloc (.cells (mcs Mg.z none none none none 0 0 0 0) 35)).alloc (.cells #[.int .i64 m.tr, .int .i64 m.day, .int .i64 m.rate] 98))) := bt (below_a w _) (below_a _ _)
  have HBu : Hid (∀ W, (Instr.build 35 #[(0, .int .i64 15), (12, .int .i64 m.tr), (6, .int .i64 m.day), (14, .int .i64 m.rate)]).run Tryz.prog W = .ok (.agg (mcs { Mg.z with k := 15, day := m.day, tr := m.tr, rate := m.rate } none none none none 0 0 0 0)) W) := fun W => bld15 m pa ia ca ba pc ic cc bc W
  have HM1 : Hid ((mcs { Mg.z with k := 15, day := m.day, tr := m.tr, rate := m.rate } none none none none 0 0 0 0).size = 36) := mcs_size _ _ _ _ _ _ _ _ _
  have HM2 : Hid ((mcs { Mg.z with k := 15, day := m.day, tr := m.tr, rate := m.rate } none none none none 0 0 0 0).all (·.oneCell') = true) := mcs_one _ _ _ _ _ _ _ _ _
  go_enter Tryz.func23, Tryz.ntmps23
  go_upto_region 46 with fail
  show Code.wp _ _ _ _ ((w.alloc (.cells (mcs Mg.z none none none none 0 0 0 0) 35)).alloc (.cells #[.int .i64 m.tr, .int .i64 m.day, .int .i64 m.rate] 98))
  generalize ((w.alloc (.cells (mcs Mg.z none none none none 0 0 0 0) 35)).alloc (.cells #[.int .i64 m.tr, .int .i64 m.day, .int .i64 m.rate] 98)) = w1 at *
  generalize (mcs { Mg.z with k := 15, day := m.day, tr := m.tr, rate := m.rate } none none none none 0 0 0 0) = M at *
  have HST : Hid ((Instr.storeAt 35 (.pointer (some ⟨w.heap.size, 0, none⟩)) (.agg M)).run Tryz.prog w1 = .ok () (w1.setRow w.heap.size M)) := hstore w1 w.heap.size _ M HX0.out (mcs_size _ _ _ _ _ _ _ _ _) HM1.out HM2.out
  have hld := hload (w1.setRow w.heap.size M) w.heap.size M HM1.out HX0.out.set
  have HB2 : Hid (Below w.heap.size w (w1.setRow w.heap.size M)) := below_setRow' HB0.out (Nat.le_refl _)
  have c0 : w1.cell? ⟨w.heap.size + 1, 0, none⟩ = some (.int .i64 m.tr) := HY0.out.cell 0
  have c1 : w1.cell? ⟨w.heap.size + 1, 1, none⟩ = some (.int .i64 m.day) := HY0.out.cell 1
  have c2 : w1.cell? ⟨w.heap.size + 1, 2, none⟩ = some (.int .i64 m.rate) := HY0.out.cell 2
  clear HX0 HY0 HB0
  go_wp2_with (first | (guard_target =~ wpList _ _ _ (⟨_, Op.build _ _, _, _, _, _⟩ :: _) _ _; refine wl_build4 _ rfl 35 _ _ _ _ _ _ _ _ rfl _ _ _ _ rfl rfl rfl rfl _ (HBu.out _) ?_; go_simp) | (guard_target =~ wpList _ _ _ (⟨_, Op.store _ _ _, _, _, _, _⟩ :: _) _ _; refine wl_store _ _ rfl 35 _ _ rfl _ _ rfl rfl HST.out ?_; go_simp))
  refine bodyPost_ret (res_cell _ _ 2 35 _ _ _ rfl rfl hld) rfl ?_
  exact ⟨rfl, HB2⟩
end Go.Proofs.YtdmlgheajblcdaaGreat
