/- Layer 10: what a message of the program's says. -/
import Derived.Test.YtdmlgheajblcdaaGreatD07
import Derived.Deep.MidRow
namespace Go.Proofs.YtdmlgheajblcdaaGreat
set_option maxHeartbeats 16000000
set_option maxRecDepth 100000
open Go.RowKit
set_option linter.unusedVariables false
set_option linter.unusedSimpArgs false
set_option maxRecDepth 100000
theorem zzb (m:Mg) (pa ia ca ba:Option Addr) (pc ic cc bc:Nat) (w:World):(Instr.build 35 #[(0,.int .i64 1),(1,.int .i64 m.mem),(2,.string ⟨m.name.toArray⟩)]).run Tryz.prog w=.ok (.agg (mcs { Mg.z with k:=1,mem:=m.mem,name:=m.name } none none none none 0 0 0 0)) w:=by kernel_rfl
theorem zwr (m:Mg) (pa ia ca ba:Option Addr) (pc ic cc bc:Nat) (w:World):Calls Tryz.prog 23 #[.iface 76 (.agg #[.int .i64 m.mem,.string ⟨m.name.toArray⟩])] w (KP (.agg (mcs { Mg.z with k:=1,mem:=m.mem,name:=m.name } none none none none 0 0 0 0)) w):=by
 have t1:=ty1
 have HX0:Hid (Bx ((w.alloc (.cells (mcs Mg.z none none none none 0 0 0 0) 35)).alloc (.cells #[.int .i64 m.mem,.string ⟨m.name.toArray⟩] 76)) w.heap.size (mcs Mg.z none none none none 0 0 0 0) 35):=(Bx.new w _ _).keep (zab _ _)
 have HY0:Hid (Bx ((w.alloc (.cells (mcs Mg.z none none none none 0 0 0 0) 35)).alloc (.cells #[.int .i64 m.mem,.string ⟨m.name.toArray⟩] 76)) (w.heap.size+1) #[.int .i64 m.mem,.string ⟨m.name.toArray⟩] 76):=by have:=Bx.new (w.alloc (.cells (mcs Mg.z none none none none 0 0 0 0) 35)) #[.int .i64 m.mem,.string ⟨m.name.toArray⟩] 76;rwa [zan] at this
 have HB0:Hid (Below w.heap.size w ((w.alloc (.cells (mcs Mg.z none none none none 0 0 0 0) 35)).alloc (.cells #[.int .i64 m.mem,.string ⟨m.name.toArray⟩] 76))):=bt (zab w _) (zab _ _)
 have HBu:Hid (∀W,(Instr.build 35 #[(0,.int .i64 1),(1,.int .i64 m.mem),(2,.string ⟨m.name.toArray⟩)]).run Tryz.prog W=.ok (.agg (mcs { Mg.z with k:=1,mem:=m.mem,name:=m.name } none none none none 0 0 0 0)) W):=fun W=>zzb m pa ia ca ba pc ic cc bc W
 have HM1:Hid ((mcs { Mg.z with k:=1,mem:=m.mem,name:=m.name } none none none none 0 0 0 0).size=36):=zac _ _ _ _ _ _ _ _ _
 have HM2:Hid ((mcs { Mg.z with k:=1,mem:=m.mem,name:=m.name } none none none none 0 0 0 0).all (·.oneCell')=true):=zaj _ _ _ _ _ _ _ _ _
 go_enter Tryz.func23,Tryz.ntmps23
 go_upto_region 4 with fail
 show Code.wp _ _ _ _ ((w.alloc (.cells (mcs Mg.z none none none none 0 0 0 0) 35)).alloc (.cells #[.int .i64 m.mem,.string ⟨m.name.toArray⟩] 76))
 generalize ((w.alloc (.cells (mcs Mg.z none none none none 0 0 0 0) 35)).alloc (.cells #[.int .i64 m.mem,.string ⟨m.name.toArray⟩] 76))=w1 at *
 generalize (mcs { Mg.z with k:=1,mem:=m.mem,name:=m.name } none none none none 0 0 0 0)=M at *
 have HST:Hid ((Instr.storeAt 35 (.pointer (some ⟨w.heap.size,0,none⟩)) (.agg M)).run Tryz.prog w1=.ok () (w1.setRow w.heap.size M)):=zaw w1 w.heap.size _ M HX0.out (zac _ _ _ _ _ _ _ _ _) HM1.out HM2.out
 have hld:=zbb (w1.setRow w.heap.size M) w.heap.size M HM1.out HX0.out.set
 have HB2:Hid (Below w.heap.size w (w1.setRow w.heap.size M)):=zad HB0.out (Nat.le_refl _)
 have c0:w1.cell? ⟨w.heap.size+1,0,none⟩=some (.int .i64 m.mem):=HY0.out.cell 0
 have c1:w1.cell? ⟨w.heap.size+1,1,none⟩=some (.string ⟨m.name.toArray⟩):=HY0.out.cell 1
 clear HX0 HY0 HB0
 go_wp2_with (first | (guard_target =~ wpList _ _ _ (⟨_,Op.build _ _,_,_,_,_⟩::_) _ _;refine zd6 _ rfl 35 _ _ _ _ _ _ rfl _ _ _ rfl rfl rfl _ (HBu.out _) ?_;go_simp) | (guard_target =~ wpList _ _ _ (⟨_,Op.store _ _ _,_,_,_,_⟩::_) _ _;refine zaf _ _ rfl 35 _ _ rfl _ _ rfl rfl HST.out ?_;go_simp))
 refine bodyPost_ret (zaz _ _ 2 35 _ _ _ rfl rfl hld) rfl ?_
 exact ⟨rfl,HB2⟩
theorem zzc (m:Mg) (pa ia ca ba:Option Addr) (pc ic cc bc:Nat) (w:World):(Instr.build 35 #[(0,.int .i64 2),(3,.agg #[.string ⟨m.a.i.toArray⟩,.int .i64 m.a.iss,.int .i64 m.a.rat,.int .i64 m.a.mat,.string ⟨m.a.cur.toArray⟩])]).run Tryz.prog w=.ok (.agg (mcs { Mg.z with k:=2,a:=m.a } none none none none 0 0 0 0)) w:=by kernel_rfl
theorem zws (m:Mg) (pa ia ca ba:Option Addr) (pc ic cc bc:Nat) (w:World):Calls Tryz.prog 23 #[.iface 78 (.agg #[.string ⟨m.a.i.toArray⟩,.int .i64 m.a.iss,.int .i64 m.a.rat,.int .i64 m.a.mat,.string ⟨m.a.cur.toArray⟩])] w (KP (.agg (mcs { Mg.z with k:=2,a:=m.a } none none none none 0 0 0 0)) w):=by
 have t1:=zrf
 have t2:=ty2
 have HX0:Hid (Bx ((w.alloc (.cells (mcs Mg.z none none none none 0 0 0 0) 35)).alloc (.cells #[.string ⟨m.a.i.toArray⟩,.int .i64 m.a.iss,.int .i64 m.a.rat,.int .i64 m.a.mat,.string ⟨m.a.cur.toArray⟩] 78)) w.heap.size (mcs Mg.z none none none none 0 0 0 0) 35):=(Bx.new w _ _).keep (zab _ _)
 have HY0:Hid (Bx ((w.alloc (.cells (mcs Mg.z none none none none 0 0 0 0) 35)).alloc (.cells #[.string ⟨m.a.i.toArray⟩,.int .i64 m.a.iss,.int .i64 m.a.rat,.int .i64 m.a.mat,.string ⟨m.a.cur.toArray⟩] 78)) (w.heap.size+1) #[.string ⟨m.a.i.toArray⟩,.int .i64 m.a.iss,.int .i64 m.a.rat,.int .i64 m.a.mat,.string ⟨m.a.cur.toArray⟩] 78):=by have:=Bx.new (w.alloc (.cells (mcs Mg.z none none none none 0 0 0 0) 35)) #[.string ⟨m.a.i.toArray⟩,.int .i64 m.a.iss,.int .i64 m.a.rat,.int .i64 m.a.mat,.string ⟨m.a.cur.toArray⟩] 78;rwa [zan] at this
 have HB0:Hid (Below w.heap.size w ((w.alloc (.cells (mcs Mg.z none none none none 0 0 0 0) 35)).alloc (.cells #[.string ⟨m.a.i.toArray⟩,.int .i64 m.a.iss,.int .i64 m.a.rat,.int .i64 m.a.mat,.string ⟨m.a.cur.toArray⟩] 78))):=bt (zab w _) (zab _ _)
 have HBu:Hid (∀W,(Instr.build 35 #[(0,.int .i64 2),(3,.agg #[.string ⟨m.a.i.toArray⟩,.int .i64 m.a.iss,.int .i64 m.a.rat,.int .i64 m.a.mat,.string ⟨m.a.cur.toArray⟩])]).run Tryz.prog W=.ok (.agg (mcs { Mg.z with k:=2,a:=m.a } none none none none 0 0 0 0)) W):=fun W=>zzc m pa ia ca ba pc ic cc bc W
 have HM1:Hid ((mcs { Mg.z with k:=2,a:=m.a } none none none none 0 0 0 0).size=36):=zac _ _ _ _ _ _ _ _ _
 have HM2:Hid ((mcs { Mg.z with k:=2,a:=m.a } none none none none 0 0 0 0).all (·.oneCell')=true):=zaj _ _ _ _ _ _ _ _ _
 go_enter Tryz.func23,Tryz.ntmps23
 go_upto_region 7 with fail
 show Code.wp _ _ _ _ ((w.alloc (.cells (mcs Mg.z none none none none 0 0 0 0) 35)).alloc (.cells #[.string ⟨m.a.i.toArray⟩,.int .i64 m.a.iss,.int .i64 m.a.rat,.int .i64 m.a.mat,.string ⟨m.a.cur.toArray⟩] 78))
 generalize ((w.alloc (.cells (mcs Mg.z none none none none 0 0 0 0) 35)).alloc (.cells #[.string ⟨m.a.i.toArray⟩,.int .i64 m.a.iss,.int .i64 m.a.rat,.int .i64 m.a.mat,.string ⟨m.a.cur.toArray⟩] 78))=w1 at *
 generalize (mcs { Mg.z with k:=2,a:=m.a } none none none none 0 0 0 0)=M at *
 have HST:Hid ((Instr.storeAt 35 (.pointer (some ⟨w.heap.size,0,none⟩)) (.agg M)).run Tryz.prog w1=.ok () (w1.setRow w.heap.size M)):=zaw w1 w.heap.size _ M HX0.out (zac _ _ _ _ _ _ _ _ _) HM1.out HM2.out
 have hld:=zbb (w1.setRow w.heap.size M) w.heap.size M HM1.out HX0.out.set
 have HB2:Hid (Below w.heap.size w (w1.setRow w.heap.size M)):=zad HB0.out (Nat.le_refl _)
 have c0:w1.cell? ⟨w.heap.size+1,0,none⟩=some (.string ⟨m.a.i.toArray⟩):=HY0.out.cell 0
 have c1:w1.cell? ⟨w.heap.size+1,1,none⟩=some (.int .i64 m.a.iss):=HY0.out.cell 1
 have c2:w1.cell? ⟨w.heap.size+1,2,none⟩=some (.int .i64 m.a.rat):=HY0.out.cell 2
 have c3:w1.cell? ⟨w.heap.size+1,3,none⟩=some (.int .i64 m.a.mat):=HY0.out.cell 3
 have c4:w1.cell? ⟨w.heap.size+1,4,none⟩=some (.string ⟨m.a.cur.toArray⟩):=HY0.out.cell 4
 clear HX0 HY0 HB0
 go_wp2_with (first | (guard_target =~ wpList _ _ _ (⟨_,Op.build _ _,_,_,_,_⟩::_) _ _;refine zcc _ rfl 35 _ _ _ _ rfl _ _ rfl rfl _ (HBu.out _) ?_;go_simp) | (guard_target =~ wpList _ _ _ (⟨_,Op.store _ _ _,_,_,_,_⟩::_) _ _;refine zaf _ _ rfl 35 _ _ rfl _ _ rfl rfl HST.out ?_;go_simp))
 refine bodyPost_ret (zaz _ _ 2 35 _ _ _ rfl rfl hld) rfl ?_
 exact ⟨rfl,HB2⟩
theorem zzd (m:Mg) (pa ia ca ba:Option Addr) (pc ic cc bc:Nat) (w:World):(Instr.build 35 #[(0,.int .i64 3),(4,.agg #[.int .i64 m.b.id,.int .i64 m.b.ver,.string ⟨m.b.cur.toArray⟩,.int .i64 m.b.rat,.int .i64 m.b.least,.int .i64 m.b.most,.slice ca m.b.cuts.length cc,.int .i64 m.b.iss,.int .i64 m.b.ass,.slice ba m.b.bar.length bc])]).run Tryz.prog w=.ok (.agg (mcs { Mg.z with k:=3,b:=m.b } none none ca ba 0 0 cc bc)) w:=by kernel_rfl
theorem zwt (m:Mg) (pa ia ca ba:Option Addr) (pc ic cc bc:Nat) (w:World):Calls Tryz.prog 23 #[.iface 80 (.agg #[.int .i64 m.b.id,.int .i64 m.b.ver,.string ⟨m.b.cur.toArray⟩,.int .i64 m.b.rat,.int .i64 m.b.least,.int .i64 m.b.most,.slice ca m.b.cuts.length cc,.int .i64 m.b.iss,.int .i64 m.b.ass,.slice ba m.b.bar.length bc])] w (KP (.agg (mcs { Mg.z with k:=3,b:=m.b } none none ca ba 0 0 cc bc)) w):=by
 have t1:=zrg
 have t2:=zrm
 have t3:=ty3
 have HX0:Hid (Bx ((w.alloc (.cells (mcs Mg.z none none none none 0 0 0 0) 35)).alloc (.cells #[.int .i64 m.b.id,.int .i64 m.b.ver,.string ⟨m.b.cur.toArray⟩,.int .i64 m.b.rat,.int .i64 m.b.least,.int .i64 m.b.most,.slice ca m.b.cuts.length cc,.int .i64 m.b.iss,.int .i64 m.b.ass,.slice ba m.b.bar.length bc] 80)) w.heap.size (mcs Mg.z none none none none 0 0 0 0) 35):=(Bx.new w _ _).keep (zab _ _)
 have HY0:Hid (Bx ((w.alloc (.cells (mcs Mg.z none none none none 0 0 0 0) 35)).alloc (.cells #[.int .i64 m.b.id,.int .i64 m.b.ver,.string ⟨m.b.cur.toArray⟩,.int .i64 m.b.rat,.int .i64 m.b.least,.int .i64 m.b.most,.slice ca m.b.cuts.length cc,.int .i64 m.b.iss,.int .i64 m.b.ass,.slice ba m.b.bar.length bc] 80)) (w.heap.size+1) #[.int .i64 m.b.id,.int .i64 m.b.ver,.string ⟨m.b.cur.toArray⟩,.int .i64 m.b.rat,.int .i64 m.b.least,.int .i64 m.b.most,.slice ca m.b.cuts.length cc,.int .i64 m.b.iss,.int .i64 m.b.ass,.slice ba m.b.bar.length bc] 80):=by have:=Bx.new (w.alloc (.cells (mcs Mg.z none none none none 0 0 0 0) 35)) #[.int .i64 m.b.id,.int .i64 m.b.ver,.string ⟨m.b.cur.toArray⟩,.int .i64 m.b.rat,.int .i64 m.b.least,.int .i64 m.b.most,.slice ca m.b.cuts.length cc,.int .i64 m.b.iss,.int .i64 m.b.ass,.slice ba m.b.bar.length bc] 80;rwa [zan] at this
 have HB0:Hid (Below w.heap.size w ((w.alloc (.cells (mcs Mg.z none none none none 0 0 0 0) 35)).alloc (.cells #[.int .i64 m.b.id,.int .i64 m.b.ver,.string ⟨m.b.cur.toArray⟩,.int .i64 m.b.rat,.int .i64 m.b.least,.int .i64 m.b.most,.slice ca m.b.cuts.length cc,.int .i64 m.b.iss,.int .i64 m.b.ass,.slice ba m.b.bar.length bc] 80))):=bt (zab w _) (zab _ _)
 have HBu:Hid (∀W,(Instr.build 35 #[(0,.int .i64 3),(4,.agg #[.int .i64 m.b.id,.int .i64 m.b.ver,.string ⟨m.b.cur.toArray⟩,.int .i64 m.b.rat,.int .i64 m.b.least,.int .i64 m.b.most,.slice ca m.b.cuts.length cc,.int .i64 m.b.iss,.int .i64 m.b.ass,.slice ba m.b.bar.length bc])]).run Tryz.prog W=.ok (.agg (mcs { Mg.z with k:=3,b:=m.b } none none ca ba 0 0 cc bc)) W):=fun W=>zzd m pa ia ca ba pc ic cc bc W
 have HM1:Hid ((mcs { Mg.z with k:=3,b:=m.b } none none ca ba 0 0 cc bc).size=36):=zac _ _ _ _ _ _ _ _ _
 have HM2:Hid ((mcs { Mg.z with k:=3,b:=m.b } none none ca ba 0 0 cc bc).all (·.oneCell')=true):=zaj _ _ _ _ _ _ _ _ _
 go_enter Tryz.func23,Tryz.ntmps23
 go_upto_region 10 with fail
 show Code.wp _ _ _ _ ((w.alloc (.cells (mcs Mg.z none none none none 0 0 0 0) 35)).alloc (.cells #[.int .i64 m.b.id,.int .i64 m.b.ver,.string ⟨m.b.cur.toArray⟩,.int .i64 m.b.rat,.int .i64 m.b.least,.int .i64 m.b.most,.slice ca m.b.cuts.length cc,.int .i64 m.b.iss,.int .i64 m.b.ass,.slice ba m.b.bar.length bc] 80))
 generalize ((w.alloc (.cells (mcs Mg.z none none none none 0 0 0 0) 35)).alloc (.cells #[.int .i64 m.b.id,.int .i64 m.b.ver,.string ⟨m.b.cur.toArray⟩,.int .i64 m.b.rat,.int .i64 m.b.least,.int .i64 m.b.most,.slice ca m.b.cuts.length cc,.int .i64 m.b.iss,.int .i64 m.b.ass,.slice ba m.b.bar.length bc] 80))=w1 at *
 generalize (mcs { Mg.z with k:=3,b:=m.b } none none ca ba 0 0 cc bc)=M at *
 have HST:Hid ((Instr.storeAt 35 (.pointer (some ⟨w.heap.size,0,none⟩)) (.agg M)).run Tryz.prog w1=.ok () (w1.setRow w.heap.size M)):=zaw w1 w.heap.size _ M HX0.out (zac _ _ _ _ _ _ _ _ _) HM1.out HM2.out
 have hld:=zbb (w1.setRow w.heap.size M) w.heap.size M HM1.out HX0.out.set
 have HB2:Hid (Below w.heap.size w (w1.setRow w.heap.size M)):=zad HB0.out (Nat.le_refl _)
 have c0:w1.cell? ⟨w.heap.size+1,0,none⟩=some (.int .i64 m.b.id):=HY0.out.cell 0
 have c1:w1.cell? ⟨w.heap.size+1,1,none⟩=some (.int .i64 m.b.ver):=HY0.out.cell 1
 have c2:w1.cell? ⟨w.heap.size+1,2,none⟩=some (.string ⟨m.b.cur.toArray⟩):=HY0.out.cell 2
 have c3:w1.cell? ⟨w.heap.size+1,3,none⟩=some (.int .i64 m.b.rat):=HY0.out.cell 3
 have c4:w1.cell? ⟨w.heap.size+1,4,none⟩=some (.int .i64 m.b.least):=HY0.out.cell 4
 have c5:w1.cell? ⟨w.heap.size+1,5,none⟩=some (.int .i64 m.b.most):=HY0.out.cell 5
 have c6:w1.cell? ⟨w.heap.size+1,6,none⟩=some (.slice ca m.b.cuts.length cc):=HY0.out.cell 6
 have c7:w1.cell? ⟨w.heap.size+1,7,none⟩=some (.int .i64 m.b.iss):=HY0.out.cell 7
 have c8:w1.cell? ⟨w.heap.size+1,8,none⟩=some (.int .i64 m.b.ass):=HY0.out.cell 8
 have c9:w1.cell? ⟨w.heap.size+1,9,none⟩=some (.slice ba m.b.bar.length bc):=HY0.out.cell 9
 clear HX0 HY0 HB0
 go_wp2_with (first | (guard_target =~ wpList _ _ _ (⟨_,Op.build _ _,_,_,_,_⟩::_) _ _;refine zcc _ rfl 35 _ _ _ _ rfl _ _ rfl rfl _ (HBu.out _) ?_;go_simp) | (guard_target =~ wpList _ _ _ (⟨_,Op.store _ _ _,_,_,_,_⟩::_) _ _;refine zaf _ _ rfl 35 _ _ rfl _ _ rfl rfl HST.out ?_;go_simp))
 refine bodyPost_ret (zaz _ _ 2 35 _ _ _ rfl rfl hld) rfl ?_
 exact ⟨rfl,HB2⟩
theorem zze (m:Mg) (pa ia ca ba:Option Addr) (pc ic cc bc:Nat) (w:World):(Instr.build 35 #[(0,.int .i64 4),(5,.slice pa m.ps.length pc)]).run Tryz.prog w=.ok (.agg (mcs { Mg.z with k:=4,ps:=m.ps } pa none none none pc 0 0 0)) w:=by kernel_rfl
theorem zwu (m:Mg) (pa ia ca ba:Option Addr) (pc ic cc bc:Nat) (w:World):Calls Tryz.prog 23 #[.iface 82 (.agg #[.slice pa m.ps.length pc])] w (KP (.agg (mcs { Mg.z with k:=4,ps:=m.ps } pa none none none pc 0 0 0)) w):=by
 have t1:=zrh
 have t2:=zrn
 have t3:=zrs
 have t4:=ty4
 have HX0:Hid (Bx ((w.alloc (.cells (mcs Mg.z none none none none 0 0 0 0) 35)).alloc (.cells #[.slice pa m.ps.length pc] 82)) w.heap.size (mcs Mg.z none none none none 0 0 0 0) 35):=(Bx.new w _ _).keep (zab _ _)
 have HY0:Hid (Bx ((w.alloc (.cells (mcs Mg.z none none none none 0 0 0 0) 35)).alloc (.cells #[.slice pa m.ps.length pc] 82)) (w.heap.size+1) #[.slice pa m.ps.length pc] 82):=by have:=Bx.new (w.alloc (.cells (mcs Mg.z none none none none 0 0 0 0) 35)) #[.slice pa m.ps.length pc] 82;rwa [zan] at this
 have HB0:Hid (Below w.heap.size w ((w.alloc (.cells (mcs Mg.z none none none none 0 0 0 0) 35)).alloc (.cells #[.slice pa m.ps.length pc] 82))):=bt (zab w _) (zab _ _)
 have HBu:Hid (∀W,(Instr.build 35 #[(0,.int .i64 4),(5,.slice pa m.ps.length pc)]).run Tryz.prog W=.ok (.agg (mcs { Mg.z with k:=4,ps:=m.ps } pa none none none pc 0 0 0)) W):=fun W=>zze m pa ia ca ba pc ic cc bc W
 have HM1:Hid ((mcs { Mg.z with k:=4,ps:=m.ps } pa none none none pc 0 0 0).size=36):=zac _ _ _ _ _ _ _ _ _
 have HM2:Hid ((mcs { Mg.z with k:=4,ps:=m.ps } pa none none none pc 0 0 0).all (·.oneCell')=true):=zaj _ _ _ _ _ _ _ _ _
 go_enter Tryz.func23,Tryz.ntmps23
 go_upto_region 13 with fail
 show Code.wp _ _ _ _ ((w.alloc (.cells (mcs Mg.z none none none none 0 0 0 0) 35)).alloc (.cells #[.slice pa m.ps.length pc] 82))
 generalize ((w.alloc (.cells (mcs Mg.z none none none none 0 0 0 0) 35)).alloc (.cells #[.slice pa m.ps.length pc] 82))=w1 at *
 generalize (mcs { Mg.z with k:=4,ps:=m.ps } pa none none none pc 0 0 0)=M at *
 have HST:Hid ((Instr.storeAt 35 (.pointer (some ⟨w.heap.size,0,none⟩)) (.agg M)).run Tryz.prog w1=.ok () (w1.setRow w.heap.size M)):=zaw w1 w.heap.size _ M HX0.out (zac _ _ _ _ _ _ _ _ _) HM1.out HM2.out
 have hld:=zbb (w1.setRow w.heap.size M) w.heap.size M HM1.out HX0.out.set
 have HB2:Hid (Below w.heap.size w (w1.setRow w.heap.size M)):=zad HB0.out (Nat.le_refl _)
 have c0:w1.cell? ⟨w.heap.size+1,0,none⟩=some (.slice pa m.ps.length pc):=HY0.out.cell 0
 clear HX0 HY0 HB0
 go_wp2_with (first | (guard_target =~ wpList _ _ _ (⟨_,Op.build _ _,_,_,_,_⟩::_) _ _;refine zcc _ rfl 35 _ _ _ _ rfl _ _ rfl rfl _ (HBu.out _) ?_;go_simp) | (guard_target =~ wpList _ _ _ (⟨_,Op.store _ _ _,_,_,_,_⟩::_) _ _;refine zaf _ _ rfl 35 _ _ rfl _ _ rfl rfl HST.out ?_;go_simp))
 refine bodyPost_ret (zaz _ _ 2 35 _ _ _ rfl rfl hld) rfl ?_
 exact ⟨rfl,HB2⟩
theorem zzf (m:Mg) (pa ia ca ba:Option Addr) (pc ic cc bc:Nat) (w:World):(Instr.build 35 #[(0,.int .i64 5),(6,.int .i64 m.day)]).run Tryz.prog w=.ok (.agg (mcs { Mg.z with k:=5,day:=m.day } none none none none 0 0 0 0)) w:=by kernel_rfl
theorem zwv (m:Mg) (pa ia ca ba:Option Addr) (pc ic cc bc:Nat) (w:World):Calls Tryz.prog 23 #[.iface 74 (.agg #[.int .i64 m.day])] w (KP (.agg (mcs { Mg.z with k:=5,day:=m.day } none none none none 0 0 0 0)) w):=by
 have t1:=znu
 have t2:=znv
 have t3:=znw
 have t4:=znx
 have t5:=ty5
 have HX0:Hid (Bx ((w.alloc (.cells (mcs Mg.z none none none none 0 0 0 0) 35)).alloc (.cells #[.int .i64 m.day] 74)) w.heap.size (mcs Mg.z none none none none 0 0 0 0) 35):=(Bx.new w _ _).keep (zab _ _)
 have HY0:Hid (Bx ((w.alloc (.cells (mcs Mg.z none none none none 0 0 0 0) 35)).alloc (.cells #[.int .i64 m.day] 74)) (w.heap.size+1) #[.int .i64 m.day] 74):=by have:=Bx.new (w.alloc (.cells (mcs Mg.z none none none none 0 0 0 0) 35)) #[.int .i64 m.day] 74;rwa [zan] at this
 have HB0:Hid (Below w.heap.size w ((w.alloc (.cells (mcs Mg.z none none none none 0 0 0 0) 35)).alloc (.cells #[.int .i64 m.day] 74))):=bt (zab w _) (zab _ _)
 have HBu:Hid (∀W,(Instr.build 35 #[(0,.int .i64 5),(6,.int .i64 m.day)]).run Tryz.prog W=.ok (.agg (mcs { Mg.z with k:=5,day:=m.day } none none none none 0 0 0 0)) W):=fun W=>zzf m pa ia ca ba pc ic cc bc W
 have HM1:Hid ((mcs { Mg.z with k:=5,day:=m.day } none none none none 0 0 0 0).size=36):=zac _ _ _ _ _ _ _ _ _
 have HM2:Hid ((mcs { Mg.z with k:=5,day:=m.day } none none none none 0 0 0 0).all (·.oneCell')=true):=zaj _ _ _ _ _ _ _ _ _
 go_enter Tryz.func23,Tryz.ntmps23
 go_upto_region 16 with fail
 show Code.wp _ _ _ _ ((w.alloc (.cells (mcs Mg.z none none none none 0 0 0 0) 35)).alloc (.cells #[.int .i64 m.day] 74))
 generalize ((w.alloc (.cells (mcs Mg.z none none none none 0 0 0 0) 35)).alloc (.cells #[.int .i64 m.day] 74))=w1 at *
 generalize (mcs { Mg.z with k:=5,day:=m.day } none none none none 0 0 0 0)=M at *
 have HST:Hid ((Instr.storeAt 35 (.pointer (some ⟨w.heap.size,0,none⟩)) (.agg M)).run Tryz.prog w1=.ok () (w1.setRow w.heap.size M)):=zaw w1 w.heap.size _ M HX0.out (zac _ _ _ _ _ _ _ _ _) HM1.out HM2.out
 have hld:=zbb (w1.setRow w.heap.size M) w.heap.size M HM1.out HX0.out.set
 have HB2:Hid (Below w.heap.size w (w1.setRow w.heap.size M)):=zad HB0.out (Nat.le_refl _)
 have c0:w1.cell? ⟨w.heap.size+1,0,none⟩=some (.int .i64 m.day):=HY0.out.cell 0
 clear HX0 HY0 HB0
 go_wp2_with (first | (guard_target =~ wpList _ _ _ (⟨_,Op.build _ _,_,_,_,_⟩::_) _ _;refine zcc _ rfl 35 _ _ _ _ rfl _ _ rfl rfl _ (HBu.out _) ?_;go_simp) | (guard_target =~ wpList _ _ _ (⟨_,Op.store _ _ _,_,_,_,_⟩::_) _ _;refine zaf _ _ rfl 35 _ _ rfl _ _ rfl rfl HST.out ?_;go_simp))
 refine bodyPost_ret (zaz _ _ 2 35 _ _ _ rfl rfl hld) rfl ?_
 exact ⟨rfl,HB2⟩
theorem zzg (m:Mg) (pa ia ca ba:Option Addr) (pc ic cc bc:Nat) (w:World):(Instr.build 35 #[(0,.int .i64 6),(1,.int .i64 m.mem),(7,.string ⟨m.t.toArray⟩),(8,.int .i64 m.n)]).run Tryz.prog w=.ok (.agg (mcs { Mg.z with k:=6,mem:=m.mem,t:=m.t,n:=m.n } none none none none 0 0 0 0)) w:=by kernel_rfl
theorem zww (m:Mg) (pa ia ca ba:Option Addr) (pc ic cc bc:Nat) (w:World):Calls Tryz.prog 23 #[.iface 84 (.agg #[.int .i64 m.mem,.string ⟨m.t.toArray⟩,.int .i64 m.n])] w (KP (.agg (mcs { Mg.z with k:=6,mem:=m.mem,t:=m.t,n:=m.n } none none none none 0 0 0 0)) w):=by
 have t1:=zri
 have t2:=zro
 have t3:=zrt
 have t4:=zrx
 have t5:=zr1
 have t6:=ty6
 have HX0:Hid (Bx ((w.alloc (.cells (mcs Mg.z none none none none 0 0 0 0) 35)).alloc (.cells #[.int .i64 m.mem,.string ⟨m.t.toArray⟩,.int .i64 m.n] 84)) w.heap.size (mcs Mg.z none none none none 0 0 0 0) 35):=(Bx.new w _ _).keep (zab _ _)
 have HY0:Hid (Bx ((w.alloc (.cells (mcs Mg.z none none none none 0 0 0 0) 35)).alloc (.cells #[.int .i64 m.mem,.string ⟨m.t.toArray⟩,.int .i64 m.n] 84)) (w.heap.size+1) #[.int .i64 m.mem,.string ⟨m.t.toArray⟩,.int .i64 m.n] 84):=by have:=Bx.new (w.alloc (.cells (mcs Mg.z none none none none 0 0 0 0) 35)) #[.int .i64 m.mem,.string ⟨m.t.toArray⟩,.int .i64 m.n] 84;rwa [zan] at this
 have HB0:Hid (Below w.heap.size w ((w.alloc (.cells (mcs Mg.z none none none none 0 0 0 0) 35)).alloc (.cells #[.int .i64 m.mem,.string ⟨m.t.toArray⟩,.int .i64 m.n] 84))):=bt (zab w _) (zab _ _)
 have HBu:Hid (∀W,(Instr.build 35 #[(0,.int .i64 6),(1,.int .i64 m.mem),(7,.string ⟨m.t.toArray⟩),(8,.int .i64 m.n)]).run Tryz.prog W=.ok (.agg (mcs { Mg.z with k:=6,mem:=m.mem,t:=m.t,n:=m.n } none none none none 0 0 0 0)) W):=fun W=>zzg m pa ia ca ba pc ic cc bc W
 have HM1:Hid ((mcs { Mg.z with k:=6,mem:=m.mem,t:=m.t,n:=m.n } none none none none 0 0 0 0).size=36):=zac _ _ _ _ _ _ _ _ _
 have HM2:Hid ((mcs { Mg.z with k:=6,mem:=m.mem,t:=m.t,n:=m.n } none none none none 0 0 0 0).all (·.oneCell')=true):=zaj _ _ _ _ _ _ _ _ _
 go_enter Tryz.func23,Tryz.ntmps23
 go_upto_region 19 with fail
 show Code.wp _ _ _ _ ((w.alloc (.cells (mcs Mg.z none none none none 0 0 0 0) 35)).alloc (.cells #[.int .i64 m.mem,.string ⟨m.t.toArray⟩,.int .i64 m.n] 84))
 generalize ((w.alloc (.cells (mcs Mg.z none none none none 0 0 0 0) 35)).alloc (.cells #[.int .i64 m.mem,.string ⟨m.t.toArray⟩,.int .i64 m.n] 84))=w1 at *
 generalize (mcs { Mg.z with k:=6,mem:=m.mem,t:=m.t,n:=m.n } none none none none 0 0 0 0)=M at *
 have HST:Hid ((Instr.storeAt 35 (.pointer (some ⟨w.heap.size,0,none⟩)) (.agg M)).run Tryz.prog w1=.ok () (w1.setRow w.heap.size M)):=zaw w1 w.heap.size _ M HX0.out (zac _ _ _ _ _ _ _ _ _) HM1.out HM2.out
 have hld:=zbb (w1.setRow w.heap.size M) w.heap.size M HM1.out HX0.out.set
 have HB2:Hid (Below w.heap.size w (w1.setRow w.heap.size M)):=zad HB0.out (Nat.le_refl _)
 have c0:w1.cell? ⟨w.heap.size+1,0,none⟩=some (.int .i64 m.mem):=HY0.out.cell 0
 have c1:w1.cell? ⟨w.heap.size+1,1,none⟩=some (.string ⟨m.t.toArray⟩):=HY0.out.cell 1
 have c2:w1.cell? ⟨w.heap.size+1,2,none⟩=some (.int .i64 m.n):=HY0.out.cell 2
 clear HX0 HY0 HB0
 go_wp2_with (first | (guard_target =~ wpList _ _ _ (⟨_,Op.build _ _,_,_,_,_⟩::_) _ _;refine zcx _ rfl 35 _ _ _ _ _ _ _ _ rfl _ _ _ _ rfl rfl rfl rfl _ (HBu.out _) ?_;go_simp) | (guard_target =~ wpList _ _ _ (⟨_,Op.store _ _ _,_,_,_,_⟩::_) _ _;refine zaf _ _ rfl 35 _ _ rfl _ _ rfl rfl HST.out ?_;go_simp))
 refine bodyPost_ret (zaz _ _ 2 35 _ _ _ rfl rfl hld) rfl ?_
 exact ⟨rfl,HB2⟩
theorem zzh (m:Mg) (pa ia ca ba:Option Addr) (pc ic cc bc:Nat) (w:World):(Instr.build 35 #[(0,.int .i64 7),(1,.int .i64 m.mem),(7,.string ⟨m.t.toArray⟩),(8,.int .i64 m.n)]).run Tryz.prog w=.ok (.agg (mcs { Mg.z with k:=7,mem:=m.mem,t:=m.t,n:=m.n } none none none none 0 0 0 0)) w:=by kernel_rfl
theorem zwx (m:Mg) (pa ia ca ba:Option Addr) (pc ic cc bc:Nat) (w:World):Calls Tryz.prog 23 #[.iface 86 (.agg #[.int .i64 m.mem,.string ⟨m.t.toArray⟩,.int .i64 m.n])] w (KP (.agg (mcs { Mg.z with k:=7,mem:=m.mem,t:=m.t,n:=m.n } none none none none 0 0 0 0)) w):=by
 have t1:=zrj
 have t2:=zrp
 have t3:=zru
 have t4:=zry
 have t5:=zr2
 have t6:=zr5
 have t7:=ty7
 have HX0:Hid (Bx ((w.alloc (.cells (mcs Mg.z none none none none 0 0 0 0) 35)).alloc (.cells #[.int .i64 m.mem,.string ⟨m.t.toArray⟩,.int .i64 m.n] 86)) w.heap.size (mcs Mg.z none none none none 0 0 0 0) 35):=(Bx.new w _ _).keep (zab _ _)
 have HY0:Hid (Bx ((w.alloc (.cells (mcs Mg.z none none none none 0 0 0 0) 35)).alloc (.cells #[.int .i64 m.mem,.string ⟨m.t.toArray⟩,.int .i64 m.n] 86)) (w.heap.size+1) #[.int .i64 m.mem,.string ⟨m.t.toArray⟩,.int .i64 m.n] 86):=by have:=Bx.new (w.alloc (.cells (mcs Mg.z none none none none 0 0 0 0) 35)) #[.int .i64 m.mem,.string ⟨m.t.toArray⟩,.int .i64 m.n] 86;rwa [zan] at this
 have HB0:Hid (Below w.heap.size w ((w.alloc (.cells (mcs Mg.z none none none none 0 0 0 0) 35)).alloc (.cells #[.int .i64 m.mem,.string ⟨m.t.toArray⟩,.int .i64 m.n] 86))):=bt (zab w _) (zab _ _)
 have HBu:Hid (∀W,(Instr.build 35 #[(0,.int .i64 7),(1,.int .i64 m.mem),(7,.string ⟨m.t.toArray⟩),(8,.int .i64 m.n)]).run Tryz.prog W=.ok (.agg (mcs { Mg.z with k:=7,mem:=m.mem,t:=m.t,n:=m.n } none none none none 0 0 0 0)) W):=fun W=>zzh m pa ia ca ba pc ic cc bc W
 have HM1:Hid ((mcs { Mg.z with k:=7,mem:=m.mem,t:=m.t,n:=m.n } none none none none 0 0 0 0).size=36):=zac _ _ _ _ _ _ _ _ _
 have HM2:Hid ((mcs { Mg.z with k:=7,mem:=m.mem,t:=m.t,n:=m.n } none none none none 0 0 0 0).all (·.oneCell')=true):=zaj _ _ _ _ _ _ _ _ _
 go_enter Tryz.func23,Tryz.ntmps23
 go_upto_region 22 with fail
 show Code.wp _ _ _ _ ((w.alloc (.cells (mcs Mg.z none none none none 0 0 0 0) 35)).alloc (.cells #[.int .i64 m.mem,.string ⟨m.t.toArray⟩,.int .i64 m.n] 86))
 generalize ((w.alloc (.cells (mcs Mg.z none none none none 0 0 0 0) 35)).alloc (.cells #[.int .i64 m.mem,.string ⟨m.t.toArray⟩,.int .i64 m.n] 86))=w1 at *
 generalize (mcs { Mg.z with k:=7,mem:=m.mem,t:=m.t,n:=m.n } none none none none 0 0 0 0)=M at *
 have HST:Hid ((Instr.storeAt 35 (.pointer (some ⟨w.heap.size,0,none⟩)) (.agg M)).run Tryz.prog w1=.ok () (w1.setRow w.heap.size M)):=zaw w1 w.heap.size _ M HX0.out (zac _ _ _ _ _ _ _ _ _) HM1.out HM2.out
 have hld:=zbb (w1.setRow w.heap.size M) w.heap.size M HM1.out HX0.out.set
 have HB2:Hid (Below w.heap.size w (w1.setRow w.heap.size M)):=zad HB0.out (Nat.le_refl _)
 have c0:w1.cell? ⟨w.heap.size+1,0,none⟩=some (.int .i64 m.mem):=HY0.out.cell 0
 have c1:w1.cell? ⟨w.heap.size+1,1,none⟩=some (.string ⟨m.t.toArray⟩):=HY0.out.cell 1
 have c2:w1.cell? ⟨w.heap.size+1,2,none⟩=some (.int .i64 m.n):=HY0.out.cell 2
 clear HX0 HY0 HB0
 go_wp2_with (first | (guard_target =~ wpList _ _ _ (⟨_,Op.build _ _,_,_,_,_⟩::_) _ _;refine zcx _ rfl 35 _ _ _ _ _ _ _ _ rfl _ _ _ _ rfl rfl rfl rfl _ (HBu.out _) ?_;go_simp) | (guard_target =~ wpList _ _ _ (⟨_,Op.store _ _ _,_,_,_,_⟩::_) _ _;refine zaf _ _ rfl 35 _ _ rfl _ _ rfl rfl HST.out ?_;go_simp))
 refine bodyPost_ret (zaz _ _ 2 35 _ _ _ rfl rfl hld) rfl ?_
 exact ⟨rfl,HB2⟩
theorem zzi (m:Mg) (pa ia ca ba:Option Addr) (pc ic cc bc:Nat) (w:World):(Instr.build 35 #[(0,.int .i64 8),(9,.agg #[.int .i64 m.q.id,.int .i64 m.q.mem,.int .i64 m.q.side,.int .i64 m.q.bas,.int .i64 m.q.am,.int .i64 m.q.rate,.int .i64 m.q.st,.int .i64 m.q.en])]).run Tryz.prog w=.ok (.agg (mcs { Mg.z with k:=8,q:=m.q } none none none none 0 0 0 0)) w:=by kernel_rfl
theorem zwy (m:Mg) (pa ia ca ba:Option Addr) (pc ic cc bc:Nat) (w:World):Calls Tryz.prog 23 #[.iface 63 (.agg #[.int .i64 m.q.id,.int .i64 m.q.mem,.int .i64 m.q.side,.int .i64 m.q.bas,.int .i64 m.q.am,.int .i64 m.q.rate,.int .i64 m.q.st,.int .i64 m.q.en])] w (KP (.agg (mcs { Mg.z with k:=8,q:=m.q } none none none none 0 0 0 0)) w):=by
 have t1:=zrk
 have t2:=zrq
 have t3:=zrv
 have t4:=zrz
 have t5:=zr3
 have t6:=zr6
 have t7:=zr8
 have t8:=ty8
 have HX0:Hid (Bx ((w.alloc (.cells (mcs Mg.z none none none none 0 0 0 0) 35)).alloc (.cells #[.int .i64 m.q.id,.int .i64 m.q.mem,.int .i64 m.q.side,.int .i64 m.q.bas,.int .i64 m.q.am,.int .i64 m.q.rate,.int .i64 m.q.st,.int .i64 m.q.en] 63)) w.heap.size (mcs Mg.z none none none none 0 0 0 0) 35):=(Bx.new w _ _).keep (zab _ _)
 have HY0:Hid (Bx ((w.alloc (.cells (mcs Mg.z none none none none 0 0 0 0) 35)).alloc (.cells #[.int .i64 m.q.id,.int .i64 m.q.mem,.int .i64 m.q.side,.int .i64 m.q.bas,.int .i64 m.q.am,.int .i64 m.q.rate,.int .i64 m.q.st,.int .i64 m.q.en] 63)) (w.heap.size+1) #[.int .i64 m.q.id,.int .i64 m.q.mem,.int .i64 m.q.side,.int .i64 m.q.bas,.int .i64 m.q.am,.int .i64 m.q.rate,.int .i64 m.q.st,.int .i64 m.q.en] 63):=by have:=Bx.new (w.alloc (.cells (mcs Mg.z none none none none 0 0 0 0) 35)) #[.int .i64 m.q.id,.int .i64 m.q.mem,.int .i64 m.q.side,.int .i64 m.q.bas,.int .i64 m.q.am,.int .i64 m.q.rate,.int .i64 m.q.st,.int .i64 m.q.en] 63;rwa [zan] at this
 have HB0:Hid (Below w.heap.size w ((w.alloc (.cells (mcs Mg.z none none none none 0 0 0 0) 35)).alloc (.cells #[.int .i64 m.q.id,.int .i64 m.q.mem,.int .i64 m.q.side,.int .i64 m.q.bas,.int .i64 m.q.am,.int .i64 m.q.rate,.int .i64 m.q.st,.int .i64 m.q.en] 63))):=bt (zab w _) (zab _ _)
 have HBu:Hid (∀W,(Instr.build 35 #[(0,.int .i64 8),(9,.agg #[.int .i64 m.q.id,.int .i64 m.q.mem,.int .i64 m.q.side,.int .i64 m.q.bas,.int .i64 m.q.am,.int .i64 m.q.rate,.int .i64 m.q.st,.int .i64 m.q.en])]).run Tryz.prog W=.ok (.agg (mcs { Mg.z with k:=8,q:=m.q } none none none none 0 0 0 0)) W):=fun W=>zzi m pa ia ca ba pc ic cc bc W
 have HM1:Hid ((mcs { Mg.z with k:=8,q:=m.q } none none none none 0 0 0 0).size=36):=zac _ _ _ _ _ _ _ _ _
 have HM2:Hid ((mcs { Mg.z with k:=8,q:=m.q } none none none none 0 0 0 0).all (·.oneCell')=true):=zaj _ _ _ _ _ _ _ _ _
 go_enter Tryz.func23,Tryz.ntmps23
 go_upto_region 25 with fail
 show Code.wp _ _ _ _ ((w.alloc (.cells (mcs Mg.z none none none none 0 0 0 0) 35)).alloc (.cells #[.int .i64 m.q.id,.int .i64 m.q.mem,.int .i64 m.q.side,.int .i64 m.q.bas,.int .i64 m.q.am,.int .i64 m.q.rate,.int .i64 m.q.st,.int .i64 m.q.en] 63))
 generalize ((w.alloc (.cells (mcs Mg.z none none none none 0 0 0 0) 35)).alloc (.cells #[.int .i64 m.q.id,.int .i64 m.q.mem,.int .i64 m.q.side,.int .i64 m.q.bas,.int .i64 m.q.am,.int .i64 m.q.rate,.int .i64 m.q.st,.int .i64 m.q.en] 63))=w1 at *
 generalize (mcs { Mg.z with k:=8,q:=m.q } none none none none 0 0 0 0)=M at *
 have HST:Hid ((Instr.storeAt 35 (.pointer (some ⟨w.heap.size,0,none⟩)) (.agg M)).run Tryz.prog w1=.ok () (w1.setRow w.heap.size M)):=zaw w1 w.heap.size _ M HX0.out (zac _ _ _ _ _ _ _ _ _) HM1.out HM2.out
 have hld:=zbb (w1.setRow w.heap.size M) w.heap.size M HM1.out HX0.out.set
 have HB2:Hid (Below w.heap.size w (w1.setRow w.heap.size M)):=zad HB0.out (Nat.le_refl _)
 have c0:w1.cell? ⟨w.heap.size+1,0,none⟩=some (.int .i64 m.q.id):=HY0.out.cell 0
 have c1:w1.cell? ⟨w.heap.size+1,1,none⟩=some (.int .i64 m.q.mem):=HY0.out.cell 1
 have c2:w1.cell? ⟨w.heap.size+1,2,none⟩=some (.int .i64 m.q.side):=HY0.out.cell 2
 have c3:w1.cell? ⟨w.heap.size+1,3,none⟩=some (.int .i64 m.q.bas):=HY0.out.cell 3
 have c4:w1.cell? ⟨w.heap.size+1,4,none⟩=some (.int .i64 m.q.am):=HY0.out.cell 4
 have c5:w1.cell? ⟨w.heap.size+1,5,none⟩=some (.int .i64 m.q.rate):=HY0.out.cell 5
 have c6:w1.cell? ⟨w.heap.size+1,6,none⟩=some (.int .i64 m.q.st):=HY0.out.cell 6
 have c7:w1.cell? ⟨w.heap.size+1,7,none⟩=some (.int .i64 m.q.en):=HY0.out.cell 7
 clear HX0 HY0 HB0
 go_wp2_with (first | (guard_target =~ wpList _ _ _ (⟨_,Op.build _ _,_,_,_,_⟩::_) _ _;refine zcc _ rfl 35 _ _ _ _ rfl _ _ rfl rfl _ (HBu.out _) ?_;go_simp) | (guard_target =~ wpList _ _ _ (⟨_,Op.store _ _ _,_,_,_,_⟩::_) _ _;refine zaf _ _ rfl 35 _ _ rfl _ _ rfl rfl HST.out ?_;go_simp))
 refine bodyPost_ret (zaz _ _ 2 35 _ _ _ rfl rfl hld) rfl ?_
 exact ⟨rfl,HB2⟩
theorem zzj (m:Mg) (pa ia ca ba:Option Addr) (pc ic cc bc:Nat) (w:World):(Instr.build 35 #[(0,.int .i64 9),(1,.int .i64 m.mem),(8,.int .i64 m.n)]).run Tryz.prog w=.ok (.agg (mcs { Mg.z with k:=9,mem:=m.mem,n:=m.n } none none none none 0 0 0 0)) w:=by kernel_rfl
theorem zwz (m:Mg) (pa ia ca ba:Option Addr) (pc ic cc bc:Nat) (w:World):Calls Tryz.prog 23 #[.iface 88 (.agg #[.int .i64 m.mem,.int .i64 m.n])] w (KP (.agg (mcs { Mg.z with k:=9,mem:=m.mem,n:=m.n } none none none none 0 0 0 0)) w):=by
 have t1:=zrl
 have t2:=zrr
 have t3:=zrw
 have t4:=zr0
 have t5:=zr4
 have t6:=zr7
 have t7:=zr9
 have t8:=zsa
 have t9:=ty9
 have HX0:Hid (Bx ((w.alloc (.cells (mcs Mg.z none none none none 0 0 0 0) 35)).alloc (.cells #[.int .i64 m.mem,.int .i64 m.n] 88)) w.heap.size (mcs Mg.z none none none none 0 0 0 0) 35):=(Bx.new w _ _).keep (zab _ _)
 have HY0:Hid (Bx ((w.alloc (.cells (mcs Mg.z none none none none 0 0 0 0) 35)).alloc (.cells #[.int .i64 m.mem,.int .i64 m.n] 88)) (w.heap.size+1) #[.int .i64 m.mem,.int .i64 m.n] 88):=by have:=Bx.new (w.alloc (.cells (mcs Mg.z none none none none 0 0 0 0) 35)) #[.int .i64 m.mem,.int .i64 m.n] 88;rwa [zan] at this
 have HB0:Hid (Below w.heap.size w ((w.alloc (.cells (mcs Mg.z none none none none 0 0 0 0) 35)).alloc (.cells #[.int .i64 m.mem,.int .i64 m.n] 88))):=bt (zab w _) (zab _ _)
 have HBu:Hid (∀W,(Instr.build 35 #[(0,.int .i64 9),(1,.int .i64 m.mem),(8,.int .i64 m.n)]).run Tryz.prog W=.ok (.agg (mcs { Mg.z with k:=9,mem:=m.mem,n:=m.n } none none none none 0 0 0 0)) W):=fun W=>zzj m pa ia ca ba pc ic cc bc W
 have HM1:Hid ((mcs { Mg.z with k:=9,mem:=m.mem,n:=m.n } none none none none 0 0 0 0).size=36):=zac _ _ _ _ _ _ _ _ _
 have HM2:Hid ((mcs { Mg.z with k:=9,mem:=m.mem,n:=m.n } none none none none 0 0 0 0).all (·.oneCell')=true):=zaj _ _ _ _ _ _ _ _ _
 go_enter Tryz.func23,Tryz.ntmps23
 go_upto_region 28 with fail
 show Code.wp _ _ _ _ ((w.alloc (.cells (mcs Mg.z none none none none 0 0 0 0) 35)).alloc (.cells #[.int .i64 m.mem,.int .i64 m.n] 88))
 generalize ((w.alloc (.cells (mcs Mg.z none none none none 0 0 0 0) 35)).alloc (.cells #[.int .i64 m.mem,.int .i64 m.n] 88))=w1 at *
 generalize (mcs { Mg.z with k:=9,mem:=m.mem,n:=m.n } none none none none 0 0 0 0)=M at *
 have HST:Hid ((Instr.storeAt 35 (.pointer (some ⟨w.heap.size,0,none⟩)) (.agg M)).run Tryz.prog w1=.ok () (w1.setRow w.heap.size M)):=zaw w1 w.heap.size _ M HX0.out (zac _ _ _ _ _ _ _ _ _) HM1.out HM2.out
 have hld:=zbb (w1.setRow w.heap.size M) w.heap.size M HM1.out HX0.out.set
 have HB2:Hid (Below w.heap.size w (w1.setRow w.heap.size M)):=zad HB0.out (Nat.le_refl _)
 have c0:w1.cell? ⟨w.heap.size+1,0,none⟩=some (.int .i64 m.mem):=HY0.out.cell 0
 have c1:w1.cell? ⟨w.heap.size+1,1,none⟩=some (.int .i64 m.n):=HY0.out.cell 1
 clear HX0 HY0 HB0
 go_wp2_with (first | (guard_target =~ wpList _ _ _ (⟨_,Op.build _ _,_,_,_,_⟩::_) _ _;refine zd6 _ rfl 35 _ _ _ _ _ _ rfl _ _ _ rfl rfl rfl _ (HBu.out _) ?_;go_simp) | (guard_target =~ wpList _ _ _ (⟨_,Op.store _ _ _,_,_,_,_⟩::_) _ _;refine zaf _ _ rfl 35 _ _ rfl _ _ rfl rfl HST.out ?_;go_simp))
 refine bodyPost_ret (zaz _ _ 2 35 _ _ _ rfl rfl hld) rfl ?_
 exact ⟨rfl,HB2⟩
theorem zw0 (m:Mg) (pa ia ca ba:Option Addr) (pc ic cc bc:Nat) (w:World):(Instr.build 35 #[(0,.int .i64 10),(1,.int .i64 m.mem),(12,.int .i64 m.tr),(6,.int .i64 m.day)]).run Tryz.prog w=.ok (.agg (mcs { Mg.z with k:=10,mem:=m.mem,day:=m.day,tr:=m.tr } none none none none 0 0 0 0)) w:=by kernel_rfl
theorem ztf (m:Mg) (pa ia ca ba:Option Addr) (pc ic cc bc:Nat) (w:World):Calls Tryz.prog 23 #[.iface 90 (.agg #[.int .i64 m.mem,.int .i64 m.tr,.int .i64 m.day])] w (KP (.agg (mcs { Mg.z with k:=10,mem:=m.mem,day:=m.day,tr:=m.tr } none none none none 0 0 0 0)) w):=by
 have t1:=zlb
 have t2:=zlh
 have t3:=zln
 have t4:=zlt
 have t5:=zlz
 have t6:=zl5
 have t7:=zmb
 have t8:=zmh
 have t9:=zmn
 have t10:=zxn
 have HX0:Hid (Bx ((w.alloc (.cells (mcs Mg.z none none none none 0 0 0 0) 35)).alloc (.cells #[.int .i64 m.mem,.int .i64 m.tr,.int .i64 m.day] 90)) w.heap.size (mcs Mg.z none none none none 0 0 0 0) 35):=(Bx.new w _ _).keep (zab _ _)
 have HY0:Hid (Bx ((w.alloc (.cells (mcs Mg.z none none none none 0 0 0 0) 35)).alloc (.cells #[.int .i64 m.mem,.int .i64 m.tr,.int .i64 m.day] 90)) (w.heap.size+1) #[.int .i64 m.mem,.int .i64 m.tr,.int .i64 m.day] 90):=by have:=Bx.new (w.alloc (.cells (mcs Mg.z none none none none 0 0 0 0) 35)) #[.int .i64 m.mem,.int .i64 m.tr,.int .i64 m.day] 90;rwa [zan] at this
 have HB0:Hid (Below w.heap.size w ((w.alloc (.cells (mcs Mg.z none none none none 0 0 0 0) 35)).alloc (.cells #[.int .i64 m.mem,.int .i64 m.tr,.int .i64 m.day] 90))):=bt (zab w _) (zab _ _)
 have HBu:Hid (∀W,(Instr.build 35 #[(0,.int .i64 10),(1,.int .i64 m.mem),(12,.int .i64 m.tr),(6,.int .i64 m.day)]).run Tryz.prog W=.ok (.agg (mcs { Mg.z with k:=10,mem:=m.mem,day:=m.day,tr:=m.tr } none none none none 0 0 0 0)) W):=fun W=>zw0 m pa ia ca ba pc ic cc bc W
 have HM1:Hid ((mcs { Mg.z with k:=10,mem:=m.mem,day:=m.day,tr:=m.tr } none none none none 0 0 0 0).size=36):=zac _ _ _ _ _ _ _ _ _
 have HM2:Hid ((mcs { Mg.z with k:=10,mem:=m.mem,day:=m.day,tr:=m.tr } none none none none 0 0 0 0).all (·.oneCell')=true):=zaj _ _ _ _ _ _ _ _ _
 go_enter Tryz.func23,Tryz.ntmps23
 go_upto_region 31 with fail
 show Code.wp _ _ _ _ ((w.alloc (.cells (mcs Mg.z none none none none 0 0 0 0) 35)).alloc (.cells #[.int .i64 m.mem,.int .i64 m.tr,.int .i64 m.day] 90))
 generalize ((w.alloc (.cells (mcs Mg.z none none none none 0 0 0 0) 35)).alloc (.cells #[.int .i64 m.mem,.int .i64 m.tr,.int .i64 m.day] 90))=w1 at *
 generalize (mcs { Mg.z with k:=10,mem:=m.mem,day:=m.day,tr:=m.tr } none none none none 0 0 0 0)=M at *
 have HST:Hid ((Instr.storeAt 35 (.pointer (some ⟨w.heap.size,0,none⟩)) (.agg M)).run Tryz.prog w1=.ok () (w1.setRow w.heap.size M)):=zaw w1 w.heap.size _ M HX0.out (zac _ _ _ _ _ _ _ _ _) HM1.out HM2.out
 have hld:=zbb (w1.setRow w.heap.size M) w.heap.size M HM1.out HX0.out.set
 have HB2:Hid (Below w.heap.size w (w1.setRow w.heap.size M)):=zad HB0.out (Nat.le_refl _)
 have c0:w1.cell? ⟨w.heap.size+1,0,none⟩=some (.int .i64 m.mem):=HY0.out.cell 0
 have c1:w1.cell? ⟨w.heap.size+1,1,none⟩=some (.int .i64 m.tr):=HY0.out.cell 1
 have c2:w1.cell? ⟨w.heap.size+1,2,none⟩=some (.int .i64 m.day):=HY0.out.cell 2
 clear HX0 HY0 HB0
 go_wp2_with (first | (guard_target =~ wpList _ _ _ (⟨_,Op.build _ _,_,_,_,_⟩::_) _ _;refine zcx _ rfl 35 _ _ _ _ _ _ _ _ rfl _ _ _ _ rfl rfl rfl rfl _ (HBu.out _) ?_;go_simp) | (guard_target =~ wpList _ _ _ (⟨_,Op.store _ _ _,_,_,_,_⟩::_) _ _;refine zaf _ _ rfl 35 _ _ rfl _ _ rfl rfl HST.out ?_;go_simp))
 refine bodyPost_ret (zaz _ _ 2 35 _ _ _ rfl rfl hld) rfl ?_
 exact ⟨rfl,HB2⟩
theorem zw1 (m:Mg) (pa ia ca ba:Option Addr) (pc ic cc bc:Nat) (w:World):(Instr.build 35 #[(0,.int .i64 11),(1,.int .i64 m.mem),(12,.int .i64 m.tr),(10,.agg #[.string ⟨m.out.i.toArray⟩,.int .i64 m.out.q]),(11,.slice ia m.ins.length ic)]).run Tryz.prog w=.ok (.agg (mcs { Mg.z with k:=11,mem:=m.mem,tr:=m.tr,out:=m.out,ins:=m.ins } none ia none none 0 ic 0 0)) w:=by kernel_rfl
theorem ztg (m:Mg) (pa ia ca ba:Option Addr) (pc ic cc bc:Nat) (w:World):Calls Tryz.prog 23 #[.iface 67 (.agg #[.int .i64 m.mem,.int .i64 m.tr,.string ⟨m.out.i.toArray⟩,.int .i64 m.out.q,.slice ia m.ins.length ic])] w (KP (.agg (mcs { Mg.z with k:=11,mem:=m.mem,tr:=m.tr,out:=m.out,ins:=m.ins } none ia none none 0 ic 0 0)) w):=by
 have t1:=zlc
 have t2:=zli
 have t3:=zlo
 have t4:=zlu
 have t5:=zl0
 have t6:=zl6
 have t7:=zmc
 have t8:=zmi
 have t9:=zmo
 have t10:=zib
 have t11:=zxo
 have HX0:Hid (Bx ((w.alloc (.cells (mcs Mg.z none none none none 0 0 0 0) 35)).alloc (.cells #[.int .i64 m.mem,.int .i64 m.tr,.string ⟨m.out.i.toArray⟩,.int .i64 m.out.q,.slice ia m.ins.length ic] 67)) w.heap.size (mcs Mg.z none none none none 0 0 0 0) 35):=(Bx.new w _ _).keep (zab _ _)
 have HY0:Hid (Bx ((w.alloc (.cells (mcs Mg.z none none none none 0 0 0 0) 35)).alloc (.cells #[.int .i64 m.mem,.int .i64 m.tr,.string ⟨m.out.i.toArray⟩,.int .i64 m.out.q,.slice ia m.ins.length ic] 67)) (w.heap.size+1) #[.int .i64 m.mem,.int .i64 m.tr,.string ⟨m.out.i.toArray⟩,.int .i64 m.out.q,.slice ia m.ins.length ic] 67):=by have:=Bx.new (w.alloc (.cells (mcs Mg.z none none none none 0 0 0 0) 35)) #[.int .i64 m.mem,.int .i64 m.tr,.string ⟨m.out.i.toArray⟩,.int .i64 m.out.q,.slice ia m.ins.length ic] 67;rwa [zan] at this
 have HB0:Hid (Below w.heap.size w ((w.alloc (.cells (mcs Mg.z none none none none 0 0 0 0) 35)).alloc (.cells #[.int .i64 m.mem,.int .i64 m.tr,.string ⟨m.out.i.toArray⟩,.int .i64 m.out.q,.slice ia m.ins.length ic] 67))):=bt (zab w _) (zab _ _)
 have HBu:Hid (∀W,(Instr.build 35 #[(0,.int .i64 11),(1,.int .i64 m.mem),(12,.int .i64 m.tr),(10,.agg #[.string ⟨m.out.i.toArray⟩,.int .i64 m.out.q]),(11,.slice ia m.ins.length ic)]).run Tryz.prog W=.ok (.agg (mcs { Mg.z with k:=11,mem:=m.mem,tr:=m.tr,out:=m.out,ins:=m.ins } none ia none none 0 ic 0 0)) W):=fun W=>zw1 m pa ia ca ba pc ic cc bc W
 have HM1:Hid ((mcs { Mg.z with k:=11,mem:=m.mem,tr:=m.tr,out:=m.out,ins:=m.ins } none ia none none 0 ic 0 0).size=36):=zac _ _ _ _ _ _ _ _ _
 have HM2:Hid ((mcs { Mg.z with k:=11,mem:=m.mem,tr:=m.tr,out:=m.out,ins:=m.ins } none ia none none 0 ic 0 0).all (·.oneCell')=true):=zaj _ _ _ _ _ _ _ _ _
 go_enter Tryz.func23,Tryz.ntmps23
 go_upto_region 34 with fail
 show Code.wp _ _ _ _ ((w.alloc (.cells (mcs Mg.z none none none none 0 0 0 0) 35)).alloc (.cells #[.int .i64 m.mem,.int .i64 m.tr,.string ⟨m.out.i.toArray⟩,.int .i64 m.out.q,.slice ia m.ins.length ic] 67))
 generalize ((w.alloc (.cells (mcs Mg.z none none none none 0 0 0 0) 35)).alloc (.cells #[.int .i64 m.mem,.int .i64 m.tr,.string ⟨m.out.i.toArray⟩,.int .i64 m.out.q,.slice ia m.ins.length ic] 67))=w1 at *
 generalize (mcs { Mg.z with k:=11,mem:=m.mem,tr:=m.tr,out:=m.out,ins:=m.ins } none ia none none 0 ic 0 0)=M at *
 have HST:Hid ((Instr.storeAt 35 (.pointer (some ⟨w.heap.size,0,none⟩)) (.agg M)).run Tryz.prog w1=.ok () (w1.setRow w.heap.size M)):=zaw w1 w.heap.size _ M HX0.out (zac _ _ _ _ _ _ _ _ _) HM1.out HM2.out
 have hld:=zbb (w1.setRow w.heap.size M) w.heap.size M HM1.out HX0.out.set
 have HB2:Hid (Below w.heap.size w (w1.setRow w.heap.size M)):=zad HB0.out (Nat.le_refl _)
 have c0:w1.cell? ⟨w.heap.size+1,0,none⟩=some (.int .i64 m.mem):=HY0.out.cell 0
 have c1:w1.cell? ⟨w.heap.size+1,1,none⟩=some (.int .i64 m.tr):=HY0.out.cell 1
 have c2:w1.cell? ⟨w.heap.size+1,2,none⟩=some (.string ⟨m.out.i.toArray⟩):=HY0.out.cell 2
 have c3:w1.cell? ⟨w.heap.size+1,3,none⟩=some (.int .i64 m.out.q):=HY0.out.cell 3
 have c4:w1.cell? ⟨w.heap.size+1,4,none⟩=some (.slice ia m.ins.length ic):=HY0.out.cell 4
 clear HX0 HY0 HB0
 go_wp2_with (first | (guard_target =~ wpList _ _ _ (⟨_,Op.build _ _,_,_,_,_⟩::_) _ _;refine zis _ rfl 35 _ _ _ _ _ _ _ _ _ _ rfl _ _ _ _ _ rfl rfl rfl rfl rfl _ (HBu.out _) ?_;go_simp) | (guard_target =~ wpList _ _ _ (⟨_,Op.store _ _ _,_,_,_,_⟩::_) _ _;refine zaf _ _ rfl 35 _ _ rfl _ _ rfl rfl HST.out ?_;go_simp))
 refine bodyPost_ret (zaz _ _ 2 35 _ _ _ rfl rfl hld) rfl ?_
 exact ⟨rfl,HB2⟩
theorem zw2 (m:Mg) (pa ia ca ba:Option Addr) (pc ic cc bc:Nat) (w:World):(Instr.build 35 #[(0,.int .i64 12),(1,.int .i64 m.mem),(6,.int .i64 m.day),(13,.bool m.done)]).run Tryz.prog w=.ok (.agg (mcs { Mg.z with k:=12,mem:=m.mem,day:=m.day,done:=m.done } none none none none 0 0 0 0)) w:=by kernel_rfl
theorem zth (m:Mg) (pa ia ca ba:Option Addr) (pc ic cc bc:Nat) (w:World):Calls Tryz.prog 23 #[.iface 92 (.agg #[.int .i64 m.mem,.int .i64 m.day,.bool m.done])] w (KP (.agg (mcs { Mg.z with k:=12,mem:=m.mem,day:=m.day,done:=m.done } none none none none 0 0 0 0)) w):=by
 have t1:=zld
 have t2:=zlj
 have t3:=zlp
 have t4:=zlv
 have t5:=zl1
 have t6:=zl7
 have t7:=zmd
 have t8:=zmj
 have t9:=zmp
 have t10:=zic
 have t11:=zig
 have t12:=zxp
 have HX0:Hid (Bx ((w.alloc (.cells (mcs Mg.z none none none none 0 0 0 0) 35)).alloc (.cells #[.int .i64 m.mem,.int .i64 m.day,.bool m.done] 92)) w.heap.size (mcs Mg.z none none none none 0 0 0 0) 35):=(Bx.new w _ _).keep (zab _ _)
 have HY0:Hid (Bx ((w.alloc (.cells (mcs Mg.z none none none none 0 0 0 0) 35)).alloc (.cells #[.int .i64 m.mem,.int .i64 m.day,.bool m.done] 92)) (w.heap.size+1) #[.int .i64 m.mem,.int .i64 m.day,.bool m.done] 92):=by have:=Bx.new (w.alloc (.cells (mcs Mg.z none none none none 0 0 0 0) 35)) #[.int .i64 m.mem,.int .i64 m.day,.bool m.done] 92;rwa [zan] at this
 have HB0:Hid (Below w.heap.size w ((w.alloc (.cells (mcs Mg.z none none none none 0 0 0 0) 35)).alloc (.cells #[.int .i64 m.mem,.int .i64 m.day,.bool m.done] 92))):=bt (zab w _) (zab _ _)
 have HBu:Hid (∀W,(Instr.build 35 #[(0,.int .i64 12),(1,.int .i64 m.mem),(6,.int .i64 m.day),(13,.bool m.done)]).run Tryz.prog W=.ok (.agg (mcs { Mg.z with k:=12,mem:=m.mem,day:=m.day,done:=m.done } none none none none 0 0 0 0)) W):=fun W=>zw2 m pa ia ca ba pc ic cc bc W
 have HM1:Hid ((mcs { Mg.z with k:=12,mem:=m.mem,day:=m.day,done:=m.done } none none none none 0 0 0 0).size=36):=zac _ _ _ _ _ _ _ _ _
 have HM2:Hid ((mcs { Mg.z with k:=12,mem:=m.mem,day:=m.day,done:=m.done } none none none none 0 0 0 0).all (·.oneCell')=true):=zaj _ _ _ _ _ _ _ _ _
 go_enter Tryz.func23,Tryz.ntmps23
 go_upto_region 37 with fail
 show Code.wp _ _ _ _ ((w.alloc (.cells (mcs Mg.z none none none none 0 0 0 0) 35)).alloc (.cells #[.int .i64 m.mem,.int .i64 m.day,.bool m.done] 92))
 generalize ((w.alloc (.cells (mcs Mg.z none none none none 0 0 0 0) 35)).alloc (.cells #[.int .i64 m.mem,.int .i64 m.day,.bool m.done] 92))=w1 at *
 generalize (mcs { Mg.z with k:=12,mem:=m.mem,day:=m.day,done:=m.done } none none none none 0 0 0 0)=M at *
 have HST:Hid ((Instr.storeAt 35 (.pointer (some ⟨w.heap.size,0,none⟩)) (.agg M)).run Tryz.prog w1=.ok () (w1.setRow w.heap.size M)):=zaw w1 w.heap.size _ M HX0.out (zac _ _ _ _ _ _ _ _ _) HM1.out HM2.out
 have hld:=zbb (w1.setRow w.heap.size M) w.heap.size M HM1.out HX0.out.set
 have HB2:Hid (Below w.heap.size w (w1.setRow w.heap.size M)):=zad HB0.out (Nat.le_refl _)
 have c0:w1.cell? ⟨w.heap.size+1,0,none⟩=some (.int .i64 m.mem):=HY0.out.cell 0
 have c1:w1.cell? ⟨w.heap.size+1,1,none⟩=some (.int .i64 m.day):=HY0.out.cell 1
 have c2:w1.cell? ⟨w.heap.size+1,2,none⟩=some (.bool m.done):=HY0.out.cell 2
 clear HX0 HY0 HB0
 go_wp2_with (first | (guard_target =~ wpList _ _ _ (⟨_,Op.build _ _,_,_,_,_⟩::_) _ _;refine zcx _ rfl 35 _ _ _ _ _ _ _ _ rfl _ _ _ _ rfl rfl rfl rfl _ (HBu.out _) ?_;go_simp) | (guard_target =~ wpList _ _ _ (⟨_,Op.store _ _ _,_,_,_,_⟩::_) _ _;refine zaf _ _ rfl 35 _ _ rfl _ _ rfl rfl HST.out ?_;go_simp))
 refine bodyPost_ret (zaz _ _ 2 35 _ _ _ rfl rfl hld) rfl ?_
 exact ⟨rfl,HB2⟩
theorem zw3 (m:Mg) (pa ia ca ba:Option Addr) (pc ic cc bc:Nat) (w:World):(Instr.build 35 #[(0,.int .i64 13),(1,.int .i64 m.mem)]).run Tryz.prog w=.ok (.agg (mcs { Mg.z with k:=13,mem:=m.mem } none none none none 0 0 0 0)) w:=by kernel_rfl
theorem zti (m:Mg) (pa ia ca ba:Option Addr) (pc ic cc bc:Nat) (w:World):Calls Tryz.prog 23 #[.iface 94 (.agg #[.int .i64 m.mem])] w (KP (.agg (mcs { Mg.z with k:=13,mem:=m.mem } none none none none 0 0 0 0)) w):=by
 have t1:=zle
 have t2:=zlk
 have t3:=zlq
 have t4:=zlw
 have t5:=zl2
 have t6:=zl8
 have t7:=zme
 have t8:=zmk
 have t9:=zmq
 have t10:=zid
 have t11:=zih
 have t12:=zik
 have t13:=zxq
 have HX0:Hid (Bx ((w.alloc (.cells (mcs Mg.z none none none none 0 0 0 0) 35)).alloc (.cells #[.int .i64 m.mem] 94)) w.heap.size (mcs Mg.z none none none none 0 0 0 0) 35):=(Bx.new w _ _).keep (zab _ _)
 have HY0:Hid (Bx ((w.alloc (.cells (mcs Mg.z none none none none 0 0 0 0) 35)).alloc (.cells #[.int .i64 m.mem] 94)) (w.heap.size+1) #[.int .i64 m.mem] 94):=by have:=Bx.new (w.alloc (.cells (mcs Mg.z none none none none 0 0 0 0) 35)) #[.int .i64 m.mem] 94;rwa [zan] at this
 have HB0:Hid (Below w.heap.size w ((w.alloc (.cells (mcs Mg.z none none none none 0 0 0 0) 35)).alloc (.cells #[.int .i64 m.mem] 94))):=bt (zab w _) (zab _ _)
 have HBu:Hid (∀W,(Instr.build 35 #[(0,.int .i64 13),(1,.int .i64 m.mem)]).run Tryz.prog W=.ok (.agg (mcs { Mg.z with k:=13,mem:=m.mem } none none none none 0 0 0 0)) W):=fun W=>zw3 m pa ia ca ba pc ic cc bc W
 have HM1:Hid ((mcs { Mg.z with k:=13,mem:=m.mem } none none none none 0 0 0 0).size=36):=zac _ _ _ _ _ _ _ _ _
 have HM2:Hid ((mcs { Mg.z with k:=13,mem:=m.mem } none none none none 0 0 0 0).all (·.oneCell')=true):=zaj _ _ _ _ _ _ _ _ _
 go_enter Tryz.func23,Tryz.ntmps23
 go_upto_region 40 with fail
 show Code.wp _ _ _ _ ((w.alloc (.cells (mcs Mg.z none none none none 0 0 0 0) 35)).alloc (.cells #[.int .i64 m.mem] 94))
 generalize ((w.alloc (.cells (mcs Mg.z none none none none 0 0 0 0) 35)).alloc (.cells #[.int .i64 m.mem] 94))=w1 at *
 generalize (mcs { Mg.z with k:=13,mem:=m.mem } none none none none 0 0 0 0)=M at *
 have HST:Hid ((Instr.storeAt 35 (.pointer (some ⟨w.heap.size,0,none⟩)) (.agg M)).run Tryz.prog w1=.ok () (w1.setRow w.heap.size M)):=zaw w1 w.heap.size _ M HX0.out (zac _ _ _ _ _ _ _ _ _) HM1.out HM2.out
 have hld:=zbb (w1.setRow w.heap.size M) w.heap.size M HM1.out HX0.out.set
 have HB2:Hid (Below w.heap.size w (w1.setRow w.heap.size M)):=zad HB0.out (Nat.le_refl _)
 have c0:w1.cell? ⟨w.heap.size+1,0,none⟩=some (.int .i64 m.mem):=HY0.out.cell 0
 clear HX0 HY0 HB0
 go_wp2_with (first | (guard_target =~ wpList _ _ _ (⟨_,Op.build _ _,_,_,_,_⟩::_) _ _;refine zcc _ rfl 35 _ _ _ _ rfl _ _ rfl rfl _ (HBu.out _) ?_;go_simp) | (guard_target =~ wpList _ _ _ (⟨_,Op.store _ _ _,_,_,_,_⟩::_) _ _;refine zaf _ _ rfl 35 _ _ rfl _ _ rfl rfl HST.out ?_;go_simp))
 refine bodyPost_ret (zaz _ _ 2 35 _ _ _ rfl rfl hld) rfl ?_
 exact ⟨rfl,HB2⟩
theorem zw4 (m:Mg) (pa ia ca ba:Option Addr) (pc ic cc bc:Nat) (w:World):(Instr.build 35 #[(0,.int .i64 14),(1,.int .i64 m.mem),(8,.int .i64 m.n)]).run Tryz.prog w=.ok (.agg (mcs { Mg.z with k:=14,mem:=m.mem,n:=m.n } none none none none 0 0 0 0)) w:=by kernel_rfl
theorem ztj (m:Mg) (pa ia ca ba:Option Addr) (pc ic cc bc:Nat) (w:World):Calls Tryz.prog 23 #[.iface 96 (.agg #[.int .i64 m.mem,.int .i64 m.n])] w (KP (.agg (mcs { Mg.z with k:=14,mem:=m.mem,n:=m.n } none none none none 0 0 0 0)) w):=by
 have t1:=zlf
 have t2:=zll
 have t3:=zlr
 have t4:=zlx
 have t5:=zl3
 have t6:=zl9
 have t7:=zmf
 have t8:=zml
 have t9:=zmr
 have t10:=zie
 have t11:=zii
 have t12:=zil
 have t13:=zin
 have t14:=zxr
 have HX0:Hid (Bx ((w.alloc (.cells (mcs Mg.z none none none none 0 0 0 0) 35)).alloc (.cells #[.int .i64 m.mem,.int .i64 m.n] 96)) w.heap.size (mcs Mg.z none none none none 0 0 0 0) 35):=(Bx.new w _ _).keep (zab _ _)
 have HY0:Hid (Bx ((w.alloc (.cells (mcs Mg.z none none none none 0 0 0 0) 35)).alloc (.cells #[.int .i64 m.mem,.int .i64 m.n] 96)) (w.heap.size+1) #[.int .i64 m.mem,.int .i64 m.n] 96):=by have:=Bx.new (w.alloc (.cells (mcs Mg.z none none none none 0 0 0 0) 35)) #[.int .i64 m.mem,.int .i64 m.n] 96;rwa [zan] at this
 have HB0:Hid (Below w.heap.size w ((w.alloc (.cells (mcs Mg.z none none none none 0 0 0 0) 35)).alloc (.cells #[.int .i64 m.mem,.int .i64 m.n] 96))):=bt (zab w _) (zab _ _)
 have HBu:Hid (∀W,(Instr.build 35 #[(0,.int .i64 14),(1,.int .i64 m.mem),(8,.int .i64 m.n)]).run Tryz.prog W=.ok (.agg (mcs { Mg.z with k:=14,mem:=m.mem,n:=m.n } none none none none 0 0 0 0)) W):=fun W=>zw4 m pa ia ca ba pc ic cc bc W
 have HM1:Hid ((mcs { Mg.z with k:=14,mem:=m.mem,n:=m.n } none none none none 0 0 0 0).size=36):=zac _ _ _ _ _ _ _ _ _
 have HM2:Hid ((mcs { Mg.z with k:=14,mem:=m.mem,n:=m.n } none none none none 0 0 0 0).all (·.oneCell')=true):=zaj _ _ _ _ _ _ _ _ _
 go_enter Tryz.func23,Tryz.ntmps23
 go_upto_region 43 with fail
 show Code.wp _ _ _ _ ((w.alloc (.cells (mcs Mg.z none none none none 0 0 0 0) 35)).alloc (.cells #[.int .i64 m.mem,.int .i64 m.n] 96))
 generalize ((w.alloc (.cells (mcs Mg.z none none none none 0 0 0 0) 35)).alloc (.cells #[.int .i64 m.mem,.int .i64 m.n] 96))=w1 at *
 generalize (mcs { Mg.z with k:=14,mem:=m.mem,n:=m.n } none none none none 0 0 0 0)=M at *
 have HST:Hid ((Instr.storeAt 35 (.pointer (some ⟨w.heap.size,0,none⟩)) (.agg M)).run Tryz.prog w1=.ok () (w1.setRow w.heap.size M)):=zaw w1 w.heap.size _ M HX0.out (zac _ _ _ _ _ _ _ _ _) HM1.out HM2.out
 have hld:=zbb (w1.setRow w.heap.size M) w.heap.size M HM1.out HX0.out.set
 have HB2:Hid (Below w.heap.size w (w1.setRow w.heap.size M)):=zad HB0.out (Nat.le_refl _)
 have c0:w1.cell? ⟨w.heap.size+1,0,none⟩=some (.int .i64 m.mem):=HY0.out.cell 0
 have c1:w1.cell? ⟨w.heap.size+1,1,none⟩=some (.int .i64 m.n):=HY0.out.cell 1
 clear HX0 HY0 HB0
 go_wp2_with (first | (guard_target =~ wpList _ _ _ (⟨_,Op.build _ _,_,_,_,_⟩::_) _ _;refine zd6 _ rfl 35 _ _ _ _ _ _ rfl _ _ _ rfl rfl rfl _ (HBu.out _) ?_;go_simp) | (guard_target =~ wpList _ _ _ (⟨_,Op.store _ _ _,_,_,_,_⟩::_) _ _;refine zaf _ _ rfl 35 _ _ rfl _ _ rfl rfl HST.out ?_;go_simp))
 refine bodyPost_ret (zaz _ _ 2 35 _ _ _ rfl rfl hld) rfl ?_
 exact ⟨rfl,HB2⟩
theorem zw5 (m:Mg) (pa ia ca ba:Option Addr) (pc ic cc bc:Nat) (w:World):(Instr.build 35 #[(0,.int .i64 15),(12,.int .i64 m.tr),(6,.int .i64 m.day),(14,.int .i64 m.rate)]).run Tryz.prog w=.ok (.agg (mcs { Mg.z with k:=15,day:=m.day,tr:=m.tr,rate:=m.rate } none none none none 0 0 0 0)) w:=by kernel_rfl
theorem ztk (m:Mg) (pa ia ca ba:Option Addr) (pc ic cc bc:Nat) (w:World):Calls Tryz.prog 23 #[.iface 98 (.agg #[.int .i64 m.tr,.int .i64 m.day,.int .i64 m.rate])] w (KP (.agg (mcs { Mg.z with k:=15,day:=m.day,tr:=m.tr,rate:=m.rate } none none none none 0 0 0 0)) w):=by
 have t1:=zlg
 have t2:=zlm
 have t3:=zls
 have t4:=zly
 have t5:=zl4
 have t6:=zma
 have t7:=zmg
 have t8:=zmm
 have t9:=zms
 have t10:=zif
 have t11:=zij
 have t12:=zim
 have t13:=zio
 have t14:=zip
 have t15:=zxs
 have HX0:Hid (Bx ((w.alloc (.cells (mcs Mg.z none none none none 0 0 0 0) 35)).alloc (.cells #[.int .i64 m.tr,.int .i64 m.day,.int .i64 m.rate] 98)) w.heap.size (mcs Mg.z none none none none 0 0 0 0) 35):=(Bx.new w _ _).keep (zab _ _)
 have HY0:Hid (Bx ((w.alloc (.cells (mcs Mg.z none none none none 0 0 0 0) 35)).alloc (.cells #[.int .i64 m.tr,.int .i64 m.day,.int .i64 m.rate] 98)) (w.heap.size+1) #[.int .i64 m.tr,.int .i64 m.day,.int .i64 m.rate] 98):=by have:=Bx.new (w.alloc (.cells (mcs Mg.z none none none none 0 0 0 0) 35)) #[.int .i64 m.tr,.int .i64 m.day,.int .i64 m.rate] 98;rwa [zan] at this
 have HB0:Hid (Below w.heap.size w ((w.alloc (.cells (mcs Mg.z none none none none 0 0 0 0) 35)).alloc (.cells #[.int .i64 m.tr,.int .i64 m.day,.int .i64 m.rate] 98))):=bt (zab w _) (zab _ _)
 have HBu:Hid (∀W,(Instr.build 35 #[(0,.int .i64 15),(12,.int .i64 m.tr),(6,.int .i64 m.day),(14,.int .i64 m.rate)]).run Tryz.prog W=.ok (.agg (mcs { Mg.z with k:=15,day:=m.day,tr:=m.tr,rate:=m.rate } none none none none 0 0 0 0)) W):=fun W=>zw5 m pa ia ca ba pc ic cc bc W
 have HM1:Hid ((mcs { Mg.z with k:=15,day:=m.day,tr:=m.tr,rate:=m.rate } none none none none 0 0 0 0).size=36):=zac _ _ _ _ _ _ _ _ _
 have HM2:Hid ((mcs { Mg.z with k:=15,day:=m.day,tr:=m.tr,rate:=m.rate } none none none none 0 0 0 0).all (·.oneCell')=true):=zaj _ _ _ _ _ _ _ _ _
 go_enter Tryz.func23,Tryz.ntmps23
 go_upto_region 46 with fail
 show Code.wp _ _ _ _ ((w.alloc (.cells (mcs Mg.z none none none none 0 0 0 0) 35)).alloc (.cells #[.int .i64 m.tr,.int .i64 m.day,.int .i64 m.rate] 98))
 generalize ((w.alloc (.cells (mcs Mg.z none none none none 0 0 0 0) 35)).alloc (.cells #[.int .i64 m.tr,.int .i64 m.day,.int .i64 m.rate] 98))=w1 at *
 generalize (mcs { Mg.z with k:=15,day:=m.day,tr:=m.tr,rate:=m.rate } none none none none 0 0 0 0)=M at *
 have HST:Hid ((Instr.storeAt 35 (.pointer (some ⟨w.heap.size,0,none⟩)) (.agg M)).run Tryz.prog w1=.ok () (w1.setRow w.heap.size M)):=zaw w1 w.heap.size _ M HX0.out (zac _ _ _ _ _ _ _ _ _) HM1.out HM2.out
 have hld:=zbb (w1.setRow w.heap.size M) w.heap.size M HM1.out HX0.out.set
 have HB2:Hid (Below w.heap.size w (w1.setRow w.heap.size M)):=zad HB0.out (Nat.le_refl _)
 have c0:w1.cell? ⟨w.heap.size+1,0,none⟩=some (.int .i64 m.tr):=HY0.out.cell 0
 have c1:w1.cell? ⟨w.heap.size+1,1,none⟩=some (.int .i64 m.day):=HY0.out.cell 1
 have c2:w1.cell? ⟨w.heap.size+1,2,none⟩=some (.int .i64 m.rate):=HY0.out.cell 2
 clear HX0 HY0 HB0
 go_wp2_with (first | (guard_target =~ wpList _ _ _ (⟨_,Op.build _ _,_,_,_,_⟩::_) _ _;refine zcx _ rfl 35 _ _ _ _ _ _ _ _ rfl _ _ _ _ rfl rfl rfl rfl _ (HBu.out _) ?_;go_simp) | (guard_target =~ wpList _ _ _ (⟨_,Op.store _ _ _,_,_,_,_⟩::_) _ _;refine zaf _ _ rfl 35 _ _ rfl _ _ rfl rfl HST.out ?_;go_simp))
 refine bodyPost_ret (zaz _ _ 2 35 _ _ _ rfl rfl hld) rfl ?_
 exact ⟨rfl,HB2⟩
theorem za5 {P:Program} {ops:Array Oper} {rest:List Oper} {o:Oper} {a:Act} {Q:Exit→Act→World→Prop} (w:World) (hgd:o.guard=none) (t:TypeId) (n0:Nat) (x0:Operand) (ho:o.op=.build t #[(n0,x0)]) (v0:Value) (h0:a.eval x0=v0) (v':Value) (hr:(Instr.build t #[(n0,v0)]).run P w=.ok v' w) (h:wpList P ops Q rest (a.put o.dst v') w):wpList P ops Q (o::rest) a w:=
 wpList_plain hgd fun K hK=>by
  unfold Oper.wp execOp
  simp only [ho,List.map_toArray,List.map_cons,List.map_nil,h0,Sem.run_bind,Sem.run_pure,Result.andThen_ok,hr]
  exact hK _ _ h
def zmz:Array Value→Nat→List Value→Array Value
 | C,_,[]=>C
 | C,o,v::vs=>zmz (C.setIfInBounds o v) (o+1) vs
theorem Bx.cellsSet {b T:Nat} : ∀(vs:List Value) (o:Nat) (w:World) (C:Array Value),Bx w b C T→Bx (w.setCells b o vs) b (zmz C o vs) T
 | [],_,_,_,h=>h
 | v::vs,o,w,C,h=>Bx.cellsSet vs (o+1) _ _ (h.cellSet (k:=o) v)
theorem Bx.cellsOther {b p T:Nat} {C:Array Value} (hn:b≠p):∀(vs:List Value) (o:Nat) (w:World),Bx w b C T→Bx (w.setCells p o vs) b C T
 | [],_,_,h=>h
 | v::vs,o,w,h=>Bx.cellsOther hn vs (o+1) _ (h.cellOther (k:=o) hn v)
theorem Bt.cells {p:Nat} : ∀(vs:List Value) (o:Nat) (w:World),Bt p w (w.setCells p o vs)
 | [],_,w=>Bt.refl p w
 | v::vs,o,w=>(Bt.set p w o v).trans (Bt.cells vs (o+1) _)
theorem Bx.there {w:World} {b T n o:Nat} {C:Array Value} (h:Bx w b C T) (hn:o+n≤C.size):w.there b o n:=fun j hj=>⟨by rw [h.cell (o+j),Array.getElem?_eq_getElem (by omega)];rfl,h.froz _⟩
theorem zpj (W:World) (b:Nat) (v30 v31:Value) (c30:W.cell? ⟨b,30,none⟩=some v30) (c31:W.cell? ⟨b,31,none⟩=some v31):(Instr.loadAt 32 (.pointer (some ⟨b,30,none⟩))).run Tryz.prog W=.ok (.agg #[v30,v31]) W:=by
 go_simp
theorem zbx (k:Int) (w:World):(Instr.build 35 #[(0,.int .i64 k)]).run Tryz.prog w=.ok (.agg (mcs { Mg.z with k:=k } none none none none 0 0 0 0)) w:=by kernel_rfl
theorem ztl (m:Mg) (pa ia ca ba:Option Addr) (pc ic cc bc:Nat) (hk:m.k=1) (w:World):Calls Tryz.prog 24 #[.agg (mcs m pa ia ca ba pc ic cc bc)] w (KP (.agg (mcs { Mg.z with k:=1,mem:=m.mem,name:=m.name } none none none none 0 0 0 0)) w):=by
 have HX0:Hid (Bx ((w.alloc (.cells (mcs m pa ia ca ba pc ic cc bc) 35)).alloc (.cells (mcs Mg.z none none none none 0 0 0 0) 35)) w.heap.size (mcs m pa ia ca ba pc ic cc bc) 35):=(Bx.new w _ _).keep (zab _ _)
 have HY0:Hid (Bx ((w.alloc (.cells (mcs m pa ia ca ba pc ic cc bc) 35)).alloc (.cells (mcs Mg.z none none none none 0 0 0 0) 35)) (w.heap.size+1) (mcs Mg.z none none none none 0 0 0 0) 35):=by have:=Bx.new (w.alloc (.cells (mcs m pa ia ca ba pc ic cc bc) 35)) (mcs Mg.z none none none none 0 0 0 0) 35;rwa [zan] at this
 have HB0:Hid (Below w.heap.size w ((w.alloc (.cells (mcs m pa ia ca ba pc ic cc bc) 35)).alloc (.cells (mcs Mg.z none none none none 0 0 0 0) 35))):=bt (zab w _) (zab _ _)
 have hsz0:w.heap.size+2≤((w.alloc (.cells (mcs m pa ia ca ba pc ic cc bc) 35)).alloc (.cells (mcs Mg.z none none none none 0 0 0 0) 35)).heap.size:=by rw [zan,zan];omega
 have HBu:Hid (∀W,(Instr.build 35 #[(0,.int .i64 1)]).run Tryz.prog W=.ok (.agg (mcs { Mg.z with k:=1 } none none none none 0 0 0 0)) W):=fun W=>zbx _ W
 go_enter Tryz.func24,Tryz.ntmps24
 go_upto_region 1 with fail
 show Code.wp _ _ _ _ ((w.alloc (.cells (mcs m pa ia ca ba pc ic cc bc) 35)).alloc (.cells (mcs Mg.z none none none none 0 0 0 0) 35))
 generalize ((w.alloc (.cells (mcs m pa ia ca ba pc ic cc bc) 35)).alloc (.cells (mcs Mg.z none none none none 0 0 0 0) 35))=w1 at *
 have hlt:w.heap.size<w1.heap.size:=by omega
 have c0:w1.cell? ⟨w.heap.size,0,none⟩=some (.int .i64 1):=by have:=HX0.out.cell 0;rw [show (mcs m pa ia ca ba pc ic cc bc)[0]? = some (.int .i64 m.k) from rfl,hk] at this;exact this
 have hne:w.heap.size≠w1.heap.size:=by omega
 have hne1:w.heap.size+1≠w1.heap.size:=by omega
 have HX2:Hid (Bx ((w1.alloc (.cells (mcs Mg.z none none none none 0 0 0 0) 35)).setRow w1.heap.size (mcs { Mg.z with k:=1 } none none none none 0 0 0 0)) w.heap.size (mcs m pa ia ca ba pc ic cc bc) 35):=(HX0.out.keep (zab _ _)).other hne
 have HY2:Hid (Bx ((w1.alloc (.cells (mcs Mg.z none none none none 0 0 0 0) 35)).setRow w1.heap.size (mcs { Mg.z with k:=1 } none none none none 0 0 0 0)) (w.heap.size+1) (mcs Mg.z none none none none 0 0 0 0) 35):=(HY0.out.keep (zab _ _)).other hne1
 have HP2:Hid (Bx ((w1.alloc (.cells (mcs Mg.z none none none none 0 0 0 0) 35)).setRow w1.heap.size (mcs { Mg.z with k:=1 } none none none none 0 0 0 0)) w1.heap.size (mcs { Mg.z with k:=1 } none none none none 0 0 0 0) 35):=Bx.set (Bx.new _ _ _)
 have HB2:Hid (Below w.heap.size w ((w1.alloc (.cells (mcs Mg.z none none none none 0 0 0 0) 35)).setRow w1.heap.size (mcs { Mg.z with k:=1 } none none none none 0 0 0 0))):=zad (bt HB0.out (zab _ _)) (by omega)
 have HST1:Hid ((Instr.storeAt 35 (.pointer (some ⟨w1.heap.size,0,none⟩)) (.agg (mcs { Mg.z with k:=1 } none none none none 0 0 0 0))).run Tryz.prog (w1.alloc (.cells (mcs Mg.z none none none none 0 0 0 0) 35))=.ok () ((w1.alloc (.cells (mcs Mg.z none none none none 0 0 0 0) 35)).setRow w1.heap.size (mcs { Mg.z with k:=1 } none none none none 0 0 0 0))):=zbo (T:=35) (n:=36) (w1.alloc (.cells (mcs Mg.z none none none none 0 0 0 0) 35)) w1.heap.size (mcs Mg.z none none none none 0 0 0 0) (mcs { Mg.z with k:=1 } none none none none 0 0 0 0) zb2 (Bx.new _ _ _) rfl rfl (zaj _ _ _ _ _ _ _ _ _)
 have HLE:Hid (w.heap.size≤w1.heap.size):=by unfold Hid;omega
 generalize ((w1.alloc (.cells (mcs Mg.z none none none none 0 0 0 0) 35)).setRow w1.heap.size (mcs { Mg.z with k:=1 } none none none none 0 0 0 0))=w2 at *
 clear HX0 HY0 HB0 hsz0
 go_upto_region 2 with (first | (guard_target =~ wpList _ _ _ (⟨_,Op.build 35 _,_,_,_,_⟩::_) _ _;refine za5 _ rfl 35 _ _ rfl _ rfl _ (HBu.out _) ?_;go_simp) | (guard_target =~ wpList _ _ _ (⟨_,Op.store 35 _ _,_,_,_,_⟩::_) _ _;refine zaf _ _ rfl 35 _ _ rfl _ _ rfl rfl HST1.out ?_;go_simp))
 clear HST1 HBu c0 hlt
 generalize w1.heap.size=pp at *
 have c0:w2.cell? ⟨w.heap.size,0,none⟩=some (.int .i64 1):=by have:=HX2.out.cell 0;rw [show (mcs m pa ia ca ba pc ic cc bc)[0]? = some (.int .i64 m.k) from rfl,hk] at this;exact this
 have c1:w2.cell? ⟨w.heap.size,1,none⟩=some (.int .i64 m.mem):=HX2.out.cell 1
 have d1:w2.cell? ⟨pp,1,none⟩=some (.int .i64 0):=HP2.out.cell 1
 have f1:w2.frozen? ⟨pp,1,none⟩=false:=HP2.out.froz 1
 obtain ⟨w3,hw⟩:∃v,v=(w2.setCell ⟨pp,1,none⟩ (.int .i64 m.mem)):=⟨_,rfl⟩
 have HX3:Hid (Bx w3 w.heap.size (mcs m pa ia ca ba pc ic cc bc) 35):=by unfold Hid;rw [hw];exact (HX2.out.cellOther (k:=1) hne _)
 have HY3:Hid (Bx w3 (w.heap.size+1) (mcs Mg.z none none none none 0 0 0 0) 35):=by unfold Hid;rw [hw];exact (HY2.out.cellOther (k:=1) hne1 _)
 have HP3:Hid (Bx w3 pp (mcs { Mg.z with k:=1,mem:=m.mem } none none none none 0 0 0 0) 35):=by
  unfold Hid
  rw [hw]
  have h:=HP2.out.cellSet (k:=1) (.int .i64 m.mem)
  have e:(mcs { Mg.z with k:=1 } none none none none 0 0 0 0).setIfInBounds 1 (.int .i64 m.mem)=(mcs { Mg.z with k:=1,mem:=m.mem } none none none none 0 0 0 0):=by kernel_rfl
  rw [e] at h
  exact h
 have HB3:Hid (Below w.heap.size w w3):=by unfold Hid;rw [hw];exact HB2.out.trans (((Bt.refl pp _).trans (Bt.set pp _ 1 (.int .i64 m.mem))).below HLE.out HB2.out.size)
 clear HX2 HY2 HP2 HB2
 go_upto_region 4 with fail
 rw [← hw]
 clear hw c0 c1 d1 f1
 have c0:w3.cell? ⟨w.heap.size,0,none⟩=some (.int .i64 1):=by have:=HX3.out.cell 0;rw [show (mcs m pa ia ca ba pc ic cc bc)[0]? = some (.int .i64 m.k) from rfl,hk] at this;exact this
 have c2:w3.cell? ⟨w.heap.size,2,none⟩=some (.string ⟨m.name.toArray⟩):=HX3.out.cell 2
 have d2:w3.cell? ⟨pp,2,none⟩=some (.string ⟨#[]⟩):=HP3.out.cell 2
 have f2:w3.frozen? ⟨pp,2,none⟩=false:=HP3.out.froz 2
 obtain ⟨w4,hw⟩:∃v,v=(w3.setCell ⟨pp,2,none⟩ (.string ⟨m.name.toArray⟩)):=⟨_,rfl⟩
 have HX4:Hid (Bx w4 w.heap.size (mcs m pa ia ca ba pc ic cc bc) 35):=by unfold Hid;rw [hw];exact (HX3.out.cellOther (k:=2) hne _)
 have HY4:Hid (Bx w4 (w.heap.size+1) (mcs Mg.z none none none none 0 0 0 0) 35):=by unfold Hid;rw [hw];exact (HY3.out.cellOther (k:=2) hne1 _)
 have HP4:Hid (Bx w4 pp (mcs { Mg.z with k:=1,mem:=m.mem,name:=m.name } none none none none 0 0 0 0) 35):=by
  unfold Hid
  rw [hw]
  have h:=HP3.out.cellSet (k:=2) (.string ⟨m.name.toArray⟩)
  have e:(mcs { Mg.z with k:=1,mem:=m.mem } none none none none 0 0 0 0).setIfInBounds 2 (.string ⟨m.name.toArray⟩)=(mcs { Mg.z with k:=1,mem:=m.mem,name:=m.name } none none none none 0 0 0 0):=by kernel_rfl
  rw [e] at h
  exact h
 have HB4:Hid (Below w.heap.size w w4):=by unfold Hid;rw [hw];exact HB3.out.trans (((Bt.refl pp _).trans (Bt.set pp _ 2 (.string ⟨m.name.toArray⟩))).below HLE.out HB3.out.size)
 clear HX3 HY3 HP3 HB3
 go_upto_region 6 with fail
 rw [← hw]
 clear hw c0 c2 d2 f2
 have c0:w4.cell? ⟨w.heap.size,0,none⟩=some (.int .i64 1):=by have:=HX4.out.cell 0;rw [show (mcs m pa ia ca ba pc ic cc bc)[0]? = some (.int .i64 m.k) from rfl,hk] at this;exact this
 have HLD:Hid ((Instr.loadAt 35 (.pointer (some ⟨pp,0,none⟩))).run Tryz.prog w4=.ok (.agg (mcs { Mg.z with k:=1,mem:=m.mem,name:=m.name } none none none none 0 0 0 0)) w4):=zam w4 pp _ rfl HP4.out
 have HST:Hid ((Instr.storeAt 35 (.pointer (some ⟨w.heap.size+1,0,none⟩)) (.agg (mcs { Mg.z with k:=1,mem:=m.mem,name:=m.name } none none none none 0 0 0 0))).run Tryz.prog w4=.ok () (w4.setRow (w.heap.size+1) (mcs { Mg.z with k:=1,mem:=m.mem,name:=m.name } none none none none 0 0 0 0))):=zaw w4 (w.heap.size+1) _ _ HY4.out rfl rfl (zaj _ _ _ _ _ _ _ _ _)
 have hld:=zbb (w4.setRow (w.heap.size+1) (mcs { Mg.z with k:=1,mem:=m.mem,name:=m.name } none none none none 0 0 0 0)) (w.heap.size+1) (mcs { Mg.z with k:=1,mem:=m.mem,name:=m.name } none none none none 0 0 0 0) rfl HY4.out.set
 have HBz:Hid (Below w.heap.size w (w4.setRow (w.heap.size+1) (mcs { Mg.z with k:=1,mem:=m.mem,name:=m.name } none none none none 0 0 0 0))):=zad HB4.out (by omega)
 clear HX4 HY4 HP4 HB4
 generalize (mcs { Mg.z with k:=1,mem:=m.mem,name:=m.name } none none none none 0 0 0 0)=PP at *
 go_wp2_with (first | (guard_target =~ wpList _ _ _ (⟨_,Op.load 35 _,_,_,_,_⟩::_) _ _;refine zag _ rfl 35 _ rfl _ rfl _ HLD.out ?_;go_simp) | (guard_target =~ wpList _ _ _ (⟨_,Op.store 35 _ _,_,_,_,_⟩::_) _ _;refine zaf _ _ rfl 35 _ _ rfl _ _ rfl rfl HST.out ?_;go_simp))
 refine bodyPost_ret (zaz _ _ 2 35 _ _ _ rfl rfl hld) rfl ?_
 exact ⟨rfl,HBz⟩
theorem ztm (m:Mg) (pa ia ca ba:Option Addr) (pc ic cc bc:Nat) (hk:m.k=2) (w:World):Calls Tryz.prog 24 #[.agg (mcs m pa ia ca ba pc ic cc bc)] w (KP (.agg (mcs { Mg.z with k:=2,a:=m.a } none none none none 0 0 0 0)) w):=by
 have HX0:Hid (Bx ((w.alloc (.cells (mcs m pa ia ca ba pc ic cc bc) 35)).alloc (.cells (mcs Mg.z none none none none 0 0 0 0) 35)) w.heap.size (mcs m pa ia ca ba pc ic cc bc) 35):=(Bx.new w _ _).keep (zab _ _)
 have HY0:Hid (Bx ((w.alloc (.cells (mcs m pa ia ca ba pc ic cc bc) 35)).alloc (.cells (mcs Mg.z none none none none 0 0 0 0) 35)) (w.heap.size+1) (mcs Mg.z none none none none 0 0 0 0) 35):=by have:=Bx.new (w.alloc (.cells (mcs m pa ia ca ba pc ic cc bc) 35)) (mcs Mg.z none none none none 0 0 0 0) 35;rwa [zan] at this
 have HB0:Hid (Below w.heap.size w ((w.alloc (.cells (mcs m pa ia ca ba pc ic cc bc) 35)).alloc (.cells (mcs Mg.z none none none none 0 0 0 0) 35))):=bt (zab w _) (zab _ _)
 have hsz0:w.heap.size+2≤((w.alloc (.cells (mcs m pa ia ca ba pc ic cc bc) 35)).alloc (.cells (mcs Mg.z none none none none 0 0 0 0) 35)).heap.size:=by rw [zan,zan];omega
 have HBu:Hid (∀W,(Instr.build 35 #[(0,.int .i64 2)]).run Tryz.prog W=.ok (.agg (mcs { Mg.z with k:=2 } none none none none 0 0 0 0)) W):=fun W=>zbx _ W
 go_enter Tryz.func24,Tryz.ntmps24
 go_upto_region 1 with fail
 show Code.wp _ _ _ _ ((w.alloc (.cells (mcs m pa ia ca ba pc ic cc bc) 35)).alloc (.cells (mcs Mg.z none none none none 0 0 0 0) 35))
 generalize ((w.alloc (.cells (mcs m pa ia ca ba pc ic cc bc) 35)).alloc (.cells (mcs Mg.z none none none none 0 0 0 0) 35))=w1 at *
 have hlt:w.heap.size<w1.heap.size:=by omega
 have c0:w1.cell? ⟨w.heap.size,0,none⟩=some (.int .i64 2):=by have:=HX0.out.cell 0;rw [show (mcs m pa ia ca ba pc ic cc bc)[0]? = some (.int .i64 m.k) from rfl,hk] at this;exact this
 have hne:w.heap.size≠w1.heap.size:=by omega
 have hne1:w.heap.size+1≠w1.heap.size:=by omega
 have HX2:Hid (Bx ((w1.alloc (.cells (mcs Mg.z none none none none 0 0 0 0) 35)).setRow w1.heap.size (mcs { Mg.z with k:=2 } none none none none 0 0 0 0)) w.heap.size (mcs m pa ia ca ba pc ic cc bc) 35):=(HX0.out.keep (zab _ _)).other hne
 have HY2:Hid (Bx ((w1.alloc (.cells (mcs Mg.z none none none none 0 0 0 0) 35)).setRow w1.heap.size (mcs { Mg.z with k:=2 } none none none none 0 0 0 0)) (w.heap.size+1) (mcs Mg.z none none none none 0 0 0 0) 35):=(HY0.out.keep (zab _ _)).other hne1
 have HP2:Hid (Bx ((w1.alloc (.cells (mcs Mg.z none none none none 0 0 0 0) 35)).setRow w1.heap.size (mcs { Mg.z with k:=2 } none none none none 0 0 0 0)) w1.heap.size (mcs { Mg.z with k:=2 } none none none none 0 0 0 0) 35):=Bx.set (Bx.new _ _ _)
 have HB2:Hid (Below w.heap.size w ((w1.alloc (.cells (mcs Mg.z none none none none 0 0 0 0) 35)).setRow w1.heap.size (mcs { Mg.z with k:=2 } none none none none 0 0 0 0))):=zad (bt HB0.out (zab _ _)) (by omega)
 have HST1:Hid ((Instr.storeAt 35 (.pointer (some ⟨w1.heap.size,0,none⟩)) (.agg (mcs { Mg.z with k:=2 } none none none none 0 0 0 0))).run Tryz.prog (w1.alloc (.cells (mcs Mg.z none none none none 0 0 0 0) 35))=.ok () ((w1.alloc (.cells (mcs Mg.z none none none none 0 0 0 0) 35)).setRow w1.heap.size (mcs { Mg.z with k:=2 } none none none none 0 0 0 0))):=zbo (T:=35) (n:=36) (w1.alloc (.cells (mcs Mg.z none none none none 0 0 0 0) 35)) w1.heap.size (mcs Mg.z none none none none 0 0 0 0) (mcs { Mg.z with k:=2 } none none none none 0 0 0 0) zb2 (Bx.new _ _ _) rfl rfl (zaj _ _ _ _ _ _ _ _ _)
 have HLE:Hid (w.heap.size≤w1.heap.size):=by unfold Hid;omega
 generalize ((w1.alloc (.cells (mcs Mg.z none none none none 0 0 0 0) 35)).setRow w1.heap.size (mcs { Mg.z with k:=2 } none none none none 0 0 0 0))=w2 at *
 clear HX0 HY0 HB0 hsz0
 go_upto_region 2 with (first | (guard_target =~ wpList _ _ _ (⟨_,Op.build 35 _,_,_,_,_⟩::_) _ _;refine za5 _ rfl 35 _ _ rfl _ rfl _ (HBu.out _) ?_;go_simp) | (guard_target =~ wpList _ _ _ (⟨_,Op.store 35 _ _,_,_,_,_⟩::_) _ _;refine zaf _ _ rfl 35 _ _ rfl _ _ rfl rfl HST1.out ?_;go_simp))
 clear HST1 HBu c0 hlt
 generalize w1.heap.size=pp at *
 have c0:w2.cell? ⟨w.heap.size,0,none⟩=some (.int .i64 2):=by have:=HX2.out.cell 0;rw [show (mcs m pa ia ca ba pc ic cc bc)[0]? = some (.int .i64 m.k) from rfl,hk] at this;exact this
 have HLm:Hid (∀W,Bx W w.heap.size (mcs m pa ia ca ba pc ic cc bc) 35→(Instr.loadAt 23 (.pointer (some ⟨w.heap.size,3,none⟩))).run Tryz.prog W=.ok (.agg #[.string ⟨m.a.i.toArray⟩,.int .i64 m.a.iss,.int .i64 m.a.rat,.int .i64 m.a.mat,.string ⟨m.a.cur.toArray⟩]) W):=fun W h=>zs0 W _ _ _ _ _ _ (h.cell 3) (h.cell 4) (h.cell 5) (h.cell 6) (h.cell 7)
 have HSm:Hid ((Instr.storeAt 23 (.pointer (some ⟨pp,3,none⟩)) (.agg #[.string ⟨m.a.i.toArray⟩,.int .i64 m.a.iss,.int .i64 m.a.rat,.int .i64 m.a.mat,.string ⟨m.a.cur.toArray⟩])).run Tryz.prog w2=.ok () (w2.setCells pp 3 [.string ⟨m.a.i.toArray⟩,.int .i64 m.a.iss,.int .i64 m.a.rat,.int .i64 m.a.mat,.string ⟨m.a.cur.toArray⟩])):=run_storeAt_mid w2 pp 3 23 #[.string ⟨m.a.i.toArray⟩,.int .i64 m.a.iss,.int .i64 m.a.rat,.int .i64 m.a.mat,.string ⟨m.a.cur.toArray⟩] (HP2.out.there (by show 3+5≤(mcs _ _ _ _ _ _ _ _ _).size;rw [zac];omega)) ziv (by simp [Value.oneCell'])
 have HX3:Hid (Bx (w2.setCells pp 3 [.string ⟨m.a.i.toArray⟩,.int .i64 m.a.iss,.int .i64 m.a.rat,.int .i64 m.a.mat,.string ⟨m.a.cur.toArray⟩]) w.heap.size (mcs m pa ia ca ba pc ic cc bc) 35):=Bx.cellsOther hne _ _ _ HX2.out
 have HY3:Hid (Bx (w2.setCells pp 3 [.string ⟨m.a.i.toArray⟩,.int .i64 m.a.iss,.int .i64 m.a.rat,.int .i64 m.a.mat,.string ⟨m.a.cur.toArray⟩]) (w.heap.size+1) (mcs Mg.z none none none none 0 0 0 0) 35):=Bx.cellsOther hne1 _ _ _ HY2.out
 have HP3:Hid (Bx (w2.setCells pp 3 [.string ⟨m.a.i.toArray⟩,.int .i64 m.a.iss,.int .i64 m.a.rat,.int .i64 m.a.mat,.string ⟨m.a.cur.toArray⟩]) pp (mcs { Mg.z with k:=2,a:=m.a } none none none none 0 0 0 0) 35):=by
  unfold Hid
  have h:=Bx.cellsSet [.string ⟨m.a.i.toArray⟩,.int .i64 m.a.iss,.int .i64 m.a.rat,.int .i64 m.a.mat,.string ⟨m.a.cur.toArray⟩] 3 w2 _ HP2.out
  have e:zmz (mcs { Mg.z with k:=2 } none none none none 0 0 0 0) 3 [.string ⟨m.a.i.toArray⟩,.int .i64 m.a.iss,.int .i64 m.a.rat,.int .i64 m.a.mat,.string ⟨m.a.cur.toArray⟩]=(mcs { Mg.z with k:=2,a:=m.a } none none none none 0 0 0 0):=by kernel_rfl
  rw [e] at h
  exact h
 have HB3:Hid (Below w.heap.size w (w2.setCells pp 3 [.string ⟨m.a.i.toArray⟩,.int .i64 m.a.iss,.int .i64 m.a.rat,.int .i64 m.a.mat,.string ⟨m.a.cur.toArray⟩])):=HB2.out.trans ((Bt.cells _ _ _).below HLE.out HB2.out.size)
 have HLn:Hid ((Instr.loadAt 23 (.pointer (some ⟨w.heap.size,3,none⟩))).run Tryz.prog w2=.ok (.agg #[.string ⟨m.a.i.toArray⟩,.int .i64 m.a.iss,.int .i64 m.a.rat,.int .i64 m.a.mat,.string ⟨m.a.cur.toArray⟩]) w2):=HLm.out _ HX2.out
 clear HX2 HY2 HP2 HB2 HLm
 generalize hw:(w2.setCells pp 3 [.string ⟨m.a.i.toArray⟩,.int .i64 m.a.iss,.int .i64 m.a.rat,.int .i64 m.a.mat,.string ⟨m.a.cur.toArray⟩])=w3 at *
 go_upto_region 8 with (first | (guard_target =~ wpList _ _ _ (⟨_,Op.load 23 _,_,_,_,_⟩::_) _ _;refine zag _ rfl 23 _ rfl _ rfl _ HLn.out ?_;go_simp) | (guard_target =~ wpList _ _ _ (⟨_,Op.store 23 _ _,_,_,_,_⟩::_) _ _;refine zaf _ _ rfl 23 _ _ rfl _ _ rfl rfl HSm.out ?_;go_simp))
 clear hw c0 HLn HSm
 have c0:w3.cell? ⟨w.heap.size,0,none⟩=some (.int .i64 2):=by have:=HX3.out.cell 0;rw [show (mcs m pa ia ca ba pc ic cc bc)[0]? = some (.int .i64 m.k) from rfl,hk] at this;exact this
 have HLD:Hid ((Instr.loadAt 35 (.pointer (some ⟨pp,0,none⟩))).run Tryz.prog w3=.ok (.agg (mcs { Mg.z with k:=2,a:=m.a } none none none none 0 0 0 0)) w3):=zam w3 pp _ rfl HP3.out
 have HST:Hid ((Instr.storeAt 35 (.pointer (some ⟨w.heap.size+1,0,none⟩)) (.agg (mcs { Mg.z with k:=2,a:=m.a } none none none none 0 0 0 0))).run Tryz.prog w3=.ok () (w3.setRow (w.heap.size+1) (mcs { Mg.z with k:=2,a:=m.a } none none none none 0 0 0 0))):=zaw w3 (w.heap.size+1) _ _ HY3.out rfl rfl (zaj _ _ _ _ _ _ _ _ _)
 have hld:=zbb (w3.setRow (w.heap.size+1) (mcs { Mg.z with k:=2,a:=m.a } none none none none 0 0 0 0)) (w.heap.size+1) (mcs { Mg.z with k:=2,a:=m.a } none none none none 0 0 0 0) rfl HY3.out.set
 have HBz:Hid (Below w.heap.size w (w3.setRow (w.heap.size+1) (mcs { Mg.z with k:=2,a:=m.a } none none none none 0 0 0 0))):=zad HB3.out (by omega)
 clear HX3 HY3 HP3 HB3
 generalize (mcs { Mg.z with k:=2,a:=m.a } none none none none 0 0 0 0)=PP at *
 go_wp2_with (first | (guard_target =~ wpList _ _ _ (⟨_,Op.load 35 _,_,_,_,_⟩::_) _ _;refine zag _ rfl 35 _ rfl _ rfl _ HLD.out ?_;go_simp) | (guard_target =~ wpList _ _ _ (⟨_,Op.store 35 _ _,_,_,_,_⟩::_) _ _;refine zaf _ _ rfl 35 _ _ rfl _ _ rfl rfl HST.out ?_;go_simp))
 refine bodyPost_ret (zaz _ _ 2 35 _ _ _ rfl rfl hld) rfl ?_
 exact ⟨rfl,HBz⟩
theorem ztn (m:Mg) (pa ia ca ba:Option Addr) (pc ic cc bc:Nat) (hk:m.k=3) (w:World):Calls Tryz.prog 24 #[.agg (mcs m pa ia ca ba pc ic cc bc)] w (KP (.agg (mcs { Mg.z with k:=3,b:=m.b } none none ca ba 0 0 cc bc)) w):=by
 have HX0:Hid (Bx ((w.alloc (.cells (mcs m pa ia ca ba pc ic cc bc) 35)).alloc (.cells (mcs Mg.z none none none none 0 0 0 0) 35)) w.heap.size (mcs m pa ia ca ba pc ic cc bc) 35):=(Bx.new w _ _).keep (zab _ _)
 have HY0:Hid (Bx ((w.alloc (.cells (mcs m pa ia ca ba pc ic cc bc) 35)).alloc (.cells (mcs Mg.z none none none none 0 0 0 0) 35)) (w.heap.size+1) (mcs Mg.z none none none none 0 0 0 0) 35):=by have:=Bx.new (w.alloc (.cells (mcs m pa ia ca ba pc ic cc bc) 35)) (mcs Mg.z none none none none 0 0 0 0) 35;rwa [zan] at this
 have HB0:Hid (Below w.heap.size w ((w.alloc (.cells (mcs m pa ia ca ba pc ic cc bc) 35)).alloc (.cells (mcs Mg.z none none none none 0 0 0 0) 35))):=bt (zab w _) (zab _ _)
 have hsz0:w.heap.size+2≤((w.alloc (.cells (mcs m pa ia ca ba pc ic cc bc) 35)).alloc (.cells (mcs Mg.z none none none none 0 0 0 0) 35)).heap.size:=by rw [zan,zan];omega
 have HBu:Hid (∀W,(Instr.build 35 #[(0,.int .i64 3)]).run Tryz.prog W=.ok (.agg (mcs { Mg.z with k:=3 } none none none none 0 0 0 0)) W):=fun W=>zbx _ W
 go_enter Tryz.func24,Tryz.ntmps24
 go_upto_region 1 with fail
 show Code.wp _ _ _ _ ((w.alloc (.cells (mcs m pa ia ca ba pc ic cc bc) 35)).alloc (.cells (mcs Mg.z none none none none 0 0 0 0) 35))
 generalize ((w.alloc (.cells (mcs m pa ia ca ba pc ic cc bc) 35)).alloc (.cells (mcs Mg.z none none none none 0 0 0 0) 35))=w1 at *
 have hlt:w.heap.size<w1.heap.size:=by omega
 have c0:w1.cell? ⟨w.heap.size,0,none⟩=some (.int .i64 3):=by have:=HX0.out.cell 0;rw [show (mcs m pa ia ca ba pc ic cc bc)[0]? = some (.int .i64 m.k) from rfl,hk] at this;exact this
 have hne:w.heap.size≠w1.heap.size:=by omega
 have hne1:w.heap.size+1≠w1.heap.size:=by omega
 have HX2:Hid (Bx ((w1.alloc (.cells (mcs Mg.z none none none none 0 0 0 0) 35)).setRow w1.heap.size (mcs { Mg.z with k:=3 } none none none none 0 0 0 0)) w.heap.size (mcs m pa ia ca ba pc ic cc bc) 35):=(HX0.out.keep (zab _ _)).other hne
 have HY2:Hid (Bx ((w1.alloc (.cells (mcs Mg.z none none none none 0 0 0 0) 35)).setRow w1.heap.size (mcs { Mg.z with k:=3 } none none none none 0 0 0 0)) (w.heap.size+1) (mcs Mg.z none none none none 0 0 0 0) 35):=(HY0.out.keep (zab _ _)).other hne1
 have HP2:Hid (Bx ((w1.alloc (.cells (mcs Mg.z none none none none 0 0 0 0) 35)).setRow w1.heap.size (mcs { Mg.z with k:=3 } none none none none 0 0 0 0)) w1.heap.size (mcs { Mg.z with k:=3 } none none none none 0 0 0 0) 35):=Bx.set (Bx.new _ _ _)
 have HB2:Hid (Below w.heap.size w ((w1.alloc (.cells (mcs Mg.z none none none none 0 0 0 0) 35)).setRow w1.heap.size (mcs { Mg.z with k:=3 } none none none none 0 0 0 0))):=zad (bt HB0.out (zab _ _)) (by omega)
 have HST1:Hid ((Instr.storeAt 35 (.pointer (some ⟨w1.heap.size,0,none⟩)) (.agg (mcs { Mg.z with k:=3 } none none none none 0 0 0 0))).run Tryz.prog (w1.alloc (.cells (mcs Mg.z none none none none 0 0 0 0) 35))=.ok () ((w1.alloc (.cells (mcs Mg.z none none none none 0 0 0 0) 35)).setRow w1.heap.size (mcs { Mg.z with k:=3 } none none none none 0 0 0 0))):=zbo (T:=35) (n:=36) (w1.alloc (.cells (mcs Mg.z none none none none 0 0 0 0) 35)) w1.heap.size (mcs Mg.z none none none none 0 0 0 0) (mcs { Mg.z with k:=3 } none none none none 0 0 0 0) zb2 (Bx.new _ _ _) rfl rfl (zaj _ _ _ _ _ _ _ _ _)
 have HLE:Hid (w.heap.size≤w1.heap.size):=by unfold Hid;omega
 generalize ((w1.alloc (.cells (mcs Mg.z none none none none 0 0 0 0) 35)).setRow w1.heap.size (mcs { Mg.z with k:=3 } none none none none 0 0 0 0))=w2 at *
 clear HX0 HY0 HB0 hsz0
 go_upto_region 2 with (first | (guard_target =~ wpList _ _ _ (⟨_,Op.build 35 _,_,_,_,_⟩::_) _ _;refine za5 _ rfl 35 _ _ rfl _ rfl _ (HBu.out _) ?_;go_simp) | (guard_target =~ wpList _ _ _ (⟨_,Op.store 35 _ _,_,_,_,_⟩::_) _ _;refine zaf _ _ rfl 35 _ _ rfl _ _ rfl rfl HST1.out ?_;go_simp))
 clear HST1 HBu c0 hlt
 generalize w1.heap.size=pp at *
 have c0:w2.cell? ⟨w.heap.size,0,none⟩=some (.int .i64 3):=by have:=HX2.out.cell 0;rw [show (mcs m pa ia ca ba pc ic cc bc)[0]? = some (.int .i64 m.k) from rfl,hk] at this;exact this
 have HLm:Hid (∀W,Bx W w.heap.size (mcs m pa ia ca ba pc ic cc bc) 35→(Instr.loadAt 27 (.pointer (some ⟨w.heap.size,8,none⟩))).run Tryz.prog W=.ok (.agg #[.int .i64 m.b.id,.int .i64 m.b.ver,.string ⟨m.b.cur.toArray⟩,.int .i64 m.b.rat,.int .i64 m.b.least,.int .i64 m.b.most,.slice ca m.b.cuts.length cc,.int .i64 m.b.iss,.int .i64 m.b.ass,.slice ba m.b.bar.length bc]) W):=fun W h=>zs1 W _ _ _ _ _ _ _ _ _ _ _ (h.cell 8) (h.cell 9) (h.cell 10) (h.cell 11) (h.cell 12) (h.cell 13) (h.cell 14) (h.cell 15) (h.cell 16) (h.cell 17)
 have HSm:Hid ((Instr.storeAt 27 (.pointer (some ⟨pp,8,none⟩)) (.agg #[.int .i64 m.b.id,.int .i64 m.b.ver,.string ⟨m.b.cur.toArray⟩,.int .i64 m.b.rat,.int .i64 m.b.least,.int .i64 m.b.most,.slice ca m.b.cuts.length cc,.int .i64 m.b.iss,.int .i64 m.b.ass,.slice ba m.b.bar.length bc])).run Tryz.prog w2=.ok () (w2.setCells pp 8 [.int .i64 m.b.id,.int .i64 m.b.ver,.string ⟨m.b.cur.toArray⟩,.int .i64 m.b.rat,.int .i64 m.b.least,.int .i64 m.b.most,.slice ca m.b.cuts.length cc,.int .i64 m.b.iss,.int .i64 m.b.ass,.slice ba m.b.bar.length bc])):=run_storeAt_mid w2 pp 8 27 #[.int .i64 m.b.id,.int .i64 m.b.ver,.string ⟨m.b.cur.toArray⟩,.int .i64 m.b.rat,.int .i64 m.b.least,.int .i64 m.b.most,.slice ca m.b.cuts.length cc,.int .i64 m.b.iss,.int .i64 m.b.ass,.slice ba m.b.bar.length bc] (HP2.out.there (by show 8+10≤(mcs _ _ _ _ _ _ _ _ _).size;rw [zac];omega)) zd7 (by simp [Value.oneCell'])
 have HX3:Hid (Bx (w2.setCells pp 8 [.int .i64 m.b.id,.int .i64 m.b.ver,.string ⟨m.b.cur.toArray⟩,.int .i64 m.b.rat,.int .i64 m.b.least,.int .i64 m.b.most,.slice ca m.b.cuts.length cc,.int .i64 m.b.iss,.int .i64 m.b.ass,.slice ba m.b.bar.length bc]) w.heap.size (mcs m pa ia ca ba pc ic cc bc) 35):=Bx.cellsOther hne _ _ _ HX2.out
 have HY3:Hid (Bx (w2.setCells pp 8 [.int .i64 m.b.id,.int .i64 m.b.ver,.string ⟨m.b.cur.toArray⟩,.int .i64 m.b.rat,.int .i64 m.b.least,.int .i64 m.b.most,.slice ca m.b.cuts.length cc,.int .i64 m.b.iss,.int .i64 m.b.ass,.slice ba m.b.bar.length bc]) (w.heap.size+1) (mcs Mg.z none none none none 0 0 0 0) 35):=Bx.cellsOther hne1 _ _ _ HY2.out
 have HP3:Hid (Bx (w2.setCells pp 8 [.int .i64 m.b.id,.int .i64 m.b.ver,.string ⟨m.b.cur.toArray⟩,.int .i64 m.b.rat,.int .i64 m.b.least,.int .i64 m.b.most,.slice ca m.b.cuts.length cc,.int .i64 m.b.iss,.int .i64 m.b.ass,.slice ba m.b.bar.length bc]) pp (mcs { Mg.z with k:=3,b:=m.b } none none ca ba 0 0 cc bc) 35):=by
  unfold Hid
  have h:=Bx.cellsSet [.int .i64 m.b.id,.int .i64 m.b.ver,.string ⟨m.b.cur.toArray⟩,.int .i64 m.b.rat,.int .i64 m.b.least,.int .i64 m.b.most,.slice ca m.b.cuts.length cc,.int .i64 m.b.iss,.int .i64 m.b.ass,.slice ba m.b.bar.length bc] 8 w2 _ HP2.out
  have e:zmz (mcs { Mg.z with k:=3 } none none none none 0 0 0 0) 8 [.int .i64 m.b.id,.int .i64 m.b.ver,.string ⟨m.b.cur.toArray⟩,.int .i64 m.b.rat,.int .i64 m.b.least,.int .i64 m.b.most,.slice ca m.b.cuts.length cc,.int .i64 m.b.iss,.int .i64 m.b.ass,.slice ba m.b.bar.length bc]=(mcs { Mg.z with k:=3,b:=m.b } none none ca ba 0 0 cc bc):=by kernel_rfl
  rw [e] at h
  exact h
 have HB3:Hid (Below w.heap.size w (w2.setCells pp 8 [.int .i64 m.b.id,.int .i64 m.b.ver,.string ⟨m.b.cur.toArray⟩,.int .i64 m.b.rat,.int .i64 m.b.least,.int .i64 m.b.most,.slice ca m.b.cuts.length cc,.int .i64 m.b.iss,.int .i64 m.b.ass,.slice ba m.b.bar.length bc])):=HB2.out.trans ((Bt.cells _ _ _).below HLE.out HB2.out.size)
 have HLn:Hid ((Instr.loadAt 27 (.pointer (some ⟨w.heap.size,8,none⟩))).run Tryz.prog w2=.ok (.agg #[.int .i64 m.b.id,.int .i64 m.b.ver,.string ⟨m.b.cur.toArray⟩,.int .i64 m.b.rat,.int .i64 m.b.least,.int .i64 m.b.most,.slice ca m.b.cuts.length cc,.int .i64 m.b.iss,.int .i64 m.b.ass,.slice ba m.b.bar.length bc]) w2):=HLm.out _ HX2.out
 clear HX2 HY2 HP2 HB2 HLm
 generalize hw:(w2.setCells pp 8 [.int .i64 m.b.id,.int .i64 m.b.ver,.string ⟨m.b.cur.toArray⟩,.int .i64 m.b.rat,.int .i64 m.b.least,.int .i64 m.b.most,.slice ca m.b.cuts.length cc,.int .i64 m.b.iss,.int .i64 m.b.ass,.slice ba m.b.bar.length bc])=w3 at *
 go_upto_region 10 with (first | (guard_target =~ wpList _ _ _ (⟨_,Op.load 27 _,_,_,_,_⟩::_) _ _;refine zag _ rfl 27 _ rfl _ rfl _ HLn.out ?_;go_simp) | (guard_target =~ wpList _ _ _ (⟨_,Op.store 27 _ _,_,_,_,_⟩::_) _ _;refine zaf _ _ rfl 27 _ _ rfl _ _ rfl rfl HSm.out ?_;go_simp))
 clear hw c0 HLn HSm
 have c0:w3.cell? ⟨w.heap.size,0,none⟩=some (.int .i64 3):=by have:=HX3.out.cell 0;rw [show (mcs m pa ia ca ba pc ic cc bc)[0]? = some (.int .i64 m.k) from rfl,hk] at this;exact this
 have HLD:Hid ((Instr.loadAt 35 (.pointer (some ⟨pp,0,none⟩))).run Tryz.prog w3=.ok (.agg (mcs { Mg.z with k:=3,b:=m.b } none none ca ba 0 0 cc bc)) w3):=zam w3 pp _ rfl HP3.out
 have HST:Hid ((Instr.storeAt 35 (.pointer (some ⟨w.heap.size+1,0,none⟩)) (.agg (mcs { Mg.z with k:=3,b:=m.b } none none ca ba 0 0 cc bc))).run Tryz.prog w3=.ok () (w3.setRow (w.heap.size+1) (mcs { Mg.z with k:=3,b:=m.b } none none ca ba 0 0 cc bc))):=zaw w3 (w.heap.size+1) _ _ HY3.out rfl rfl (zaj _ _ _ _ _ _ _ _ _)
 have hld:=zbb (w3.setRow (w.heap.size+1) (mcs { Mg.z with k:=3,b:=m.b } none none ca ba 0 0 cc bc)) (w.heap.size+1) (mcs { Mg.z with k:=3,b:=m.b } none none ca ba 0 0 cc bc) rfl HY3.out.set
 have HBz:Hid (Below w.heap.size w (w3.setRow (w.heap.size+1) (mcs { Mg.z with k:=3,b:=m.b } none none ca ba 0 0 cc bc))):=zad HB3.out (by omega)
 clear HX3 HY3 HP3 HB3
 generalize (mcs { Mg.z with k:=3,b:=m.b } none none ca ba 0 0 cc bc)=PP at *
 go_wp2_with (first | (guard_target =~ wpList _ _ _ (⟨_,Op.load 35 _,_,_,_,_⟩::_) _ _;refine zag _ rfl 35 _ rfl _ rfl _ HLD.out ?_;go_simp) | (guard_target =~ wpList _ _ _ (⟨_,Op.store 35 _ _,_,_,_,_⟩::_) _ _;refine zaf _ _ rfl 35 _ _ rfl _ _ rfl rfl HST.out ?_;go_simp))
 refine bodyPost_ret (zaz _ _ 2 35 _ _ _ rfl rfl hld) rfl ?_
 exact ⟨rfl,HBz⟩
theorem zto (m:Mg) (pa ia ca ba:Option Addr) (pc ic cc bc:Nat) (hk:m.k=4) (w:World):Calls Tryz.prog 24 #[.agg (mcs m pa ia ca ba pc ic cc bc)] w (KP (.agg (mcs { Mg.z with k:=4,ps:=m.ps } pa none none none pc 0 0 0)) w):=by
 have HX0:Hid (Bx ((w.alloc (.cells (mcs m pa ia ca ba pc ic cc bc) 35)).alloc (.cells (mcs Mg.z none none none none 0 0 0 0) 35)) w.heap.size (mcs m pa ia ca ba pc ic cc bc) 35):=(Bx.new w _ _).keep (zab _ _)
 have HY0:Hid (Bx ((w.alloc (.cells (mcs m pa ia ca ba pc ic cc bc) 35)).alloc (.cells (mcs Mg.z none none none none 0 0 0 0) 35)) (w.heap.size+1) (mcs Mg.z none none none none 0 0 0 0) 35):=by have:=Bx.new (w.alloc (.cells (mcs m pa ia ca ba pc ic cc bc) 35)) (mcs Mg.z none none none none 0 0 0 0) 35;rwa [zan] at this
 have HB0:Hid (Below w.heap.size w ((w.alloc (.cells (mcs m pa ia ca ba pc ic cc bc) 35)).alloc (.cells (mcs Mg.z none none none none 0 0 0 0) 35))):=bt (zab w _) (zab _ _)
 have hsz0:w.heap.size+2≤((w.alloc (.cells (mcs m pa ia ca ba pc ic cc bc) 35)).alloc (.cells (mcs Mg.z none none none none 0 0 0 0) 35)).heap.size:=by rw [zan,zan];omega
 have HBu:Hid (∀W,(Instr.build 35 #[(0,.int .i64 4)]).run Tryz.prog W=.ok (.agg (mcs { Mg.z with k:=4 } none none none none 0 0 0 0)) W):=fun W=>zbx _ W
 go_enter Tryz.func24,Tryz.ntmps24
 go_upto_region 1 with fail
 show Code.wp _ _ _ _ ((w.alloc (.cells (mcs m pa ia ca ba pc ic cc bc) 35)).alloc (.cells (mcs Mg.z none none none none 0 0 0 0) 35))
 generalize ((w.alloc (.cells (mcs m pa ia ca ba pc ic cc bc) 35)).alloc (.cells (mcs Mg.z none none none none 0 0 0 0) 35))=w1 at *
 have hlt:w.heap.size<w1.heap.size:=by omega
 have c0:w1.cell? ⟨w.heap.size,0,none⟩=some (.int .i64 4):=by have:=HX0.out.cell 0;rw [show (mcs m pa ia ca ba pc ic cc bc)[0]? = some (.int .i64 m.k) from rfl,hk] at this;exact this
 have hne:w.heap.size≠w1.heap.size:=by omega
 have hne1:w.heap.size+1≠w1.heap.size:=by omega
 have HX2:Hid (Bx ((w1.alloc (.cells (mcs Mg.z none none none none 0 0 0 0) 35)).setRow w1.heap.size (mcs { Mg.z with k:=4 } none none none none 0 0 0 0)) w.heap.size (mcs m pa ia ca ba pc ic cc bc) 35):=(HX0.out.keep (zab _ _)).other hne
 have HY2:Hid (Bx ((w1.alloc (.cells (mcs Mg.z none none none none 0 0 0 0) 35)).setRow w1.heap.size (mcs { Mg.z with k:=4 } none none none none 0 0 0 0)) (w.heap.size+1) (mcs Mg.z none none none none 0 0 0 0) 35):=(HY0.out.keep (zab _ _)).other hne1
 have HP2:Hid (Bx ((w1.alloc (.cells (mcs Mg.z none none none none 0 0 0 0) 35)).setRow w1.heap.size (mcs { Mg.z with k:=4 } none none none none 0 0 0 0)) w1.heap.size (mcs { Mg.z with k:=4 } none none none none 0 0 0 0) 35):=Bx.set (Bx.new _ _ _)
 have HB2:Hid (Below w.heap.size w ((w1.alloc (.cells (mcs Mg.z none none none none 0 0 0 0) 35)).setRow w1.heap.size (mcs { Mg.z with k:=4 } none none none none 0 0 0 0))):=zad (bt HB0.out (zab _ _)) (by omega)
 have HST1:Hid ((Instr.storeAt 35 (.pointer (some ⟨w1.heap.size,0,none⟩)) (.agg (mcs { Mg.z with k:=4 } none none none none 0 0 0 0))).run Tryz.prog (w1.alloc (.cells (mcs Mg.z none none none none 0 0 0 0) 35))=.ok () ((w1.alloc (.cells (mcs Mg.z none none none none 0 0 0 0) 35)).setRow w1.heap.size (mcs { Mg.z with k:=4 } none none none none 0 0 0 0))):=zbo (T:=35) (n:=36) (w1.alloc (.cells (mcs Mg.z none none none none 0 0 0 0) 35)) w1.heap.size (mcs Mg.z none none none none 0 0 0 0) (mcs { Mg.z with k:=4 } none none none none 0 0 0 0) zb2 (Bx.new _ _ _) rfl rfl (zaj _ _ _ _ _ _ _ _ _)
 have HLE:Hid (w.heap.size≤w1.heap.size):=by unfold Hid;omega
 generalize ((w1.alloc (.cells (mcs Mg.z none none none none 0 0 0 0) 35)).setRow w1.heap.size (mcs { Mg.z with k:=4 } none none none none 0 0 0 0))=w2 at *
 clear HX0 HY0 HB0 hsz0
 go_upto_region 2 with (first | (guard_target =~ wpList _ _ _ (⟨_,Op.build 35 _,_,_,_,_⟩::_) _ _;refine za5 _ rfl 35 _ _ rfl _ rfl _ (HBu.out _) ?_;go_simp) | (guard_target =~ wpList _ _ _ (⟨_,Op.store 35 _ _,_,_,_,_⟩::_) _ _;refine zaf _ _ rfl 35 _ _ rfl _ _ rfl rfl HST1.out ?_;go_simp))
 clear HST1 HBu c0 hlt
 generalize w1.heap.size=pp at *
 have c0:w2.cell? ⟨w.heap.size,0,none⟩=some (.int .i64 4):=by have:=HX2.out.cell 0;rw [show (mcs m pa ia ca ba pc ic cc bc)[0]? = some (.int .i64 m.k) from rfl,hk] at this;exact this
 have c18:w2.cell? ⟨w.heap.size,18,none⟩=some (.slice pa m.ps.length pc):=HX2.out.cell 18
 have d18:w2.cell? ⟨pp,18,none⟩=some (.slice none 0 0):=HP2.out.cell 18
 have f18:w2.frozen? ⟨pp,18,none⟩=false:=HP2.out.froz 18
 obtain ⟨w3,hw⟩:∃v,v=(w2.setCell ⟨pp,18,none⟩ (.slice pa m.ps.length pc)):=⟨_,rfl⟩
 have HX3:Hid (Bx w3 w.heap.size (mcs m pa ia ca ba pc ic cc bc) 35):=by unfold Hid;rw [hw];exact (HX2.out.cellOther (k:=18) hne _)
 have HY3:Hid (Bx w3 (w.heap.size+1) (mcs Mg.z none none none none 0 0 0 0) 35):=by unfold Hid;rw [hw];exact (HY2.out.cellOther (k:=18) hne1 _)
 have HP3:Hid (Bx w3 pp (mcs { Mg.z with k:=4,ps:=m.ps } pa none none none pc 0 0 0) 35):=by
  unfold Hid
  rw [hw]
  have h:=HP2.out.cellSet (k:=18) (.slice pa m.ps.length pc)
  have e:(mcs { Mg.z with k:=4 } none none none none 0 0 0 0).setIfInBounds 18 (.slice pa m.ps.length pc)=(mcs { Mg.z with k:=4,ps:=m.ps } pa none none none pc 0 0 0):=by kernel_rfl
  rw [e] at h
  exact h
 have HB3:Hid (Below w.heap.size w w3):=by unfold Hid;rw [hw];exact HB2.out.trans (((Bt.refl pp _).trans (Bt.set pp _ 18 (.slice pa m.ps.length pc))).below HLE.out HB2.out.size)
 clear HX2 HY2 HP2 HB2
 go_upto_region 12 with fail
 rw [← hw]
 clear hw c0 c18 d18 f18
 have c0:w3.cell? ⟨w.heap.size,0,none⟩=some (.int .i64 4):=by have:=HX3.out.cell 0;rw [show (mcs m pa ia ca ba pc ic cc bc)[0]? = some (.int .i64 m.k) from rfl,hk] at this;exact this
 have HLD:Hid ((Instr.loadAt 35 (.pointer (some ⟨pp,0,none⟩))).run Tryz.prog w3=.ok (.agg (mcs { Mg.z with k:=4,ps:=m.ps } pa none none none pc 0 0 0)) w3):=zam w3 pp _ rfl HP3.out
 have HST:Hid ((Instr.storeAt 35 (.pointer (some ⟨w.heap.size+1,0,none⟩)) (.agg (mcs { Mg.z with k:=4,ps:=m.ps } pa none none none pc 0 0 0))).run Tryz.prog w3=.ok () (w3.setRow (w.heap.size+1) (mcs { Mg.z with k:=4,ps:=m.ps } pa none none none pc 0 0 0))):=zaw w3 (w.heap.size+1) _ _ HY3.out rfl rfl (zaj _ _ _ _ _ _ _ _ _)
 have hld:=zbb (w3.setRow (w.heap.size+1) (mcs { Mg.z with k:=4,ps:=m.ps } pa none none none pc 0 0 0)) (w.heap.size+1) (mcs { Mg.z with k:=4,ps:=m.ps } pa none none none pc 0 0 0) rfl HY3.out.set
 have HBz:Hid (Below w.heap.size w (w3.setRow (w.heap.size+1) (mcs { Mg.z with k:=4,ps:=m.ps } pa none none none pc 0 0 0))):=zad HB3.out (by omega)
 clear HX3 HY3 HP3 HB3
 generalize (mcs { Mg.z with k:=4,ps:=m.ps } pa none none none pc 0 0 0)=PP at *
 go_wp2_with (first | (guard_target =~ wpList _ _ _ (⟨_,Op.load 35 _,_,_,_,_⟩::_) _ _;refine zag _ rfl 35 _ rfl _ rfl _ HLD.out ?_;go_simp) | (guard_target =~ wpList _ _ _ (⟨_,Op.store 35 _ _,_,_,_,_⟩::_) _ _;refine zaf _ _ rfl 35 _ _ rfl _ _ rfl rfl HST.out ?_;go_simp))
 refine bodyPost_ret (zaz _ _ 2 35 _ _ _ rfl rfl hld) rfl ?_
 exact ⟨rfl,HBz⟩
theorem ztp (m:Mg) (pa ia ca ba:Option Addr) (pc ic cc bc:Nat) (hk:m.k=5) (w:World):Calls Tryz.prog 24 #[.agg (mcs m pa ia ca ba pc ic cc bc)] w (KP (.agg (mcs { Mg.z with k:=5,day:=m.day } none none none none 0 0 0 0)) w):=by
 have HX0:Hid (Bx ((w.alloc (.cells (mcs m pa ia ca ba pc ic cc bc) 35)).alloc (.cells (mcs Mg.z none none none none 0 0 0 0) 35)) w.heap.size (mcs m pa ia ca ba pc ic cc bc) 35):=(Bx.new w _ _).keep (zab _ _)
 have HY0:Hid (Bx ((w.alloc (.cells (mcs m pa ia ca ba pc ic cc bc) 35)).alloc (.cells (mcs Mg.z none none none none 0 0 0 0) 35)) (w.heap.size+1) (mcs Mg.z none none none none 0 0 0 0) 35):=by have:=Bx.new (w.alloc (.cells (mcs m pa ia ca ba pc ic cc bc) 35)) (mcs Mg.z none none none none 0 0 0 0) 35;rwa [zan] at this
 have HB0:Hid (Below w.heap.size w ((w.alloc (.cells (mcs m pa ia ca ba pc ic cc bc) 35)).alloc (.cells (mcs Mg.z none none none none 0 0 0 0) 35))):=bt (zab w _) (zab _ _)
 have hsz0:w.heap.size+2≤((w.alloc (.cells (mcs m pa ia ca ba pc ic cc bc) 35)).alloc (.cells (mcs Mg.z none none none none 0 0 0 0) 35)).heap.size:=by rw [zan,zan];omega
 have HBu:Hid (∀W,(Instr.build 35 #[(0,.int .i64 5)]).run Tryz.prog W=.ok (.agg (mcs { Mg.z with k:=5 } none none none none 0 0 0 0)) W):=fun W=>zbx _ W
 go_enter Tryz.func24,Tryz.ntmps24
 go_upto_region 1 with fail
 show Code.wp _ _ _ _ ((w.alloc (.cells (mcs m pa ia ca ba pc ic cc bc) 35)).alloc (.cells (mcs Mg.z none none none none 0 0 0 0) 35))
 generalize ((w.alloc (.cells (mcs m pa ia ca ba pc ic cc bc) 35)).alloc (.cells (mcs Mg.z none none none none 0 0 0 0) 35))=w1 at *
 have hlt:w.heap.size<w1.heap.size:=by omega
 have c0:w1.cell? ⟨w.heap.size,0,none⟩=some (.int .i64 5):=by have:=HX0.out.cell 0;rw [show (mcs m pa ia ca ba pc ic cc bc)[0]? = some (.int .i64 m.k) from rfl,hk] at this;exact this
 have hne:w.heap.size≠w1.heap.size:=by omega
 have hne1:w.heap.size+1≠w1.heap.size:=by omega
 have HX2:Hid (Bx ((w1.alloc (.cells (mcs Mg.z none none none none 0 0 0 0) 35)).setRow w1.heap.size (mcs { Mg.z with k:=5 } none none none none 0 0 0 0)) w.heap.size (mcs m pa ia ca ba pc ic cc bc) 35):=(HX0.out.keep (zab _ _)).other hne
 have HY2:Hid (Bx ((w1.alloc (.cells (mcs Mg.z none none none none 0 0 0 0) 35)).setRow w1.heap.size (mcs { Mg.z with k:=5 } none none none none 0 0 0 0)) (w.heap.size+1) (mcs Mg.z none none none none 0 0 0 0) 35):=(HY0.out.keep (zab _ _)).other hne1
 have HP2:Hid (Bx ((w1.alloc (.cells (mcs Mg.z none none none none 0 0 0 0) 35)).setRow w1.heap.size (mcs { Mg.z with k:=5 } none none none none 0 0 0 0)) w1.heap.size (mcs { Mg.z with k:=5 } none none none none 0 0 0 0) 35):=Bx.set (Bx.new _ _ _)
 have HB2:Hid (Below w.heap.size w ((w1.alloc (.cells (mcs Mg.z none none none none 0 0 0 0) 35)).setRow w1.heap.size (mcs { Mg.z with k:=5 } none none none none 0 0 0 0))):=zad (bt HB0.out (zab _ _)) (by omega)
 have HST1:Hid ((Instr.storeAt 35 (.pointer (some ⟨w1.heap.size,0,none⟩)) (.agg (mcs { Mg.z with k:=5 } none none none none 0 0 0 0))).run Tryz.prog (w1.alloc (.cells (mcs Mg.z none none none none 0 0 0 0) 35))=.ok () ((w1.alloc (.cells (mcs Mg.z none none none none 0 0 0 0) 35)).setRow w1.heap.size (mcs { Mg.z with k:=5 } none none none none 0 0 0 0))):=zbo (T:=35) (n:=36) (w1.alloc (.cells (mcs Mg.z none none none none 0 0 0 0) 35)) w1.heap.size (mcs Mg.z none none none none 0 0 0 0) (mcs { Mg.z with k:=5 } none none none none 0 0 0 0) zb2 (Bx.new _ _ _) rfl rfl (zaj _ _ _ _ _ _ _ _ _)
 have HLE:Hid (w.heap.size≤w1.heap.size):=by unfold Hid;omega
 generalize ((w1.alloc (.cells (mcs Mg.z none none none none 0 0 0 0) 35)).setRow w1.heap.size (mcs { Mg.z with k:=5 } none none none none 0 0 0 0))=w2 at *
 clear HX0 HY0 HB0 hsz0
 go_upto_region 2 with (first | (guard_target =~ wpList _ _ _ (⟨_,Op.build 35 _,_,_,_,_⟩::_) _ _;refine za5 _ rfl 35 _ _ rfl _ rfl _ (HBu.out _) ?_;go_simp) | (guard_target =~ wpList _ _ _ (⟨_,Op.store 35 _ _,_,_,_,_⟩::_) _ _;refine zaf _ _ rfl 35 _ _ rfl _ _ rfl rfl HST1.out ?_;go_simp))
 clear HST1 HBu c0 hlt
 generalize w1.heap.size=pp at *
 have c0:w2.cell? ⟨w.heap.size,0,none⟩=some (.int .i64 5):=by have:=HX2.out.cell 0;rw [show (mcs m pa ia ca ba pc ic cc bc)[0]? = some (.int .i64 m.k) from rfl,hk] at this;exact this
 have c19:w2.cell? ⟨w.heap.size,19,none⟩=some (.int .i64 m.day):=HX2.out.cell 19
 have d19:w2.cell? ⟨pp,19,none⟩=some (.int .i64 0):=HP2.out.cell 19
 have f19:w2.frozen? ⟨pp,19,none⟩=false:=HP2.out.froz 19
 obtain ⟨w3,hw⟩:∃v,v=(w2.setCell ⟨pp,19,none⟩ (.int .i64 m.day)):=⟨_,rfl⟩
 have HX3:Hid (Bx w3 w.heap.size (mcs m pa ia ca ba pc ic cc bc) 35):=by unfold Hid;rw [hw];exact (HX2.out.cellOther (k:=19) hne _)
 have HY3:Hid (Bx w3 (w.heap.size+1) (mcs Mg.z none none none none 0 0 0 0) 35):=by unfold Hid;rw [hw];exact (HY2.out.cellOther (k:=19) hne1 _)
 have HP3:Hid (Bx w3 pp (mcs { Mg.z with k:=5,day:=m.day } none none none none 0 0 0 0) 35):=by
  unfold Hid
  rw [hw]
  have h:=HP2.out.cellSet (k:=19) (.int .i64 m.day)
  have e:(mcs { Mg.z with k:=5 } none none none none 0 0 0 0).setIfInBounds 19 (.int .i64 m.day)=(mcs { Mg.z with k:=5,day:=m.day } none none none none 0 0 0 0):=by kernel_rfl
  rw [e] at h
  exact h
 have HB3:Hid (Below w.heap.size w w3):=by unfold Hid;rw [hw];exact HB2.out.trans (((Bt.refl pp _).trans (Bt.set pp _ 19 (.int .i64 m.day))).below HLE.out HB2.out.size)
 clear HX2 HY2 HP2 HB2
 go_upto_region 14 with fail
 rw [← hw]
 clear hw c0 c19 d19 f19
 have c0:w3.cell? ⟨w.heap.size,0,none⟩=some (.int .i64 5):=by have:=HX3.out.cell 0;rw [show (mcs m pa ia ca ba pc ic cc bc)[0]? = some (.int .i64 m.k) from rfl,hk] at this;exact this
 have HLD:Hid ((Instr.loadAt 35 (.pointer (some ⟨pp,0,none⟩))).run Tryz.prog w3=.ok (.agg (mcs { Mg.z with k:=5,day:=m.day } none none none none 0 0 0 0)) w3):=zam w3 pp _ rfl HP3.out
 have HST:Hid ((Instr.storeAt 35 (.pointer (some ⟨w.heap.size+1,0,none⟩)) (.agg (mcs { Mg.z with k:=5,day:=m.day } none none none none 0 0 0 0))).run Tryz.prog w3=.ok () (w3.setRow (w.heap.size+1) (mcs { Mg.z with k:=5,day:=m.day } none none none none 0 0 0 0))):=zaw w3 (w.heap.size+1) _ _ HY3.out rfl rfl (zaj _ _ _ _ _ _ _ _ _)
 have hld:=zbb (w3.setRow (w.heap.size+1) (mcs { Mg.z with k:=5,day:=m.day } none none none none 0 0 0 0)) (w.heap.size+1) (mcs { Mg.z with k:=5,day:=m.day } none none none none 0 0 0 0) rfl HY3.out.set
 have HBz:Hid (Below w.heap.size w (w3.setRow (w.heap.size+1) (mcs { Mg.z with k:=5,day:=m.day } none none none none 0 0 0 0))):=zad HB3.out (by omega)
 clear HX3 HY3 HP3 HB3
 generalize (mcs { Mg.z with k:=5,day:=m.day } none none none none 0 0 0 0)=PP at *
 go_wp2_with (first | (guard_target =~ wpList _ _ _ (⟨_,Op.load 35 _,_,_,_,_⟩::_) _ _;refine zag _ rfl 35 _ rfl _ rfl _ HLD.out ?_;go_simp) | (guard_target =~ wpList _ _ _ (⟨_,Op.store 35 _ _,_,_,_,_⟩::_) _ _;refine zaf _ _ rfl 35 _ _ rfl _ _ rfl rfl HST.out ?_;go_simp))
 refine bodyPost_ret (zaz _ _ 2 35 _ _ _ rfl rfl hld) rfl ?_
 exact ⟨rfl,HBz⟩
end Go.Proofs.YtdmlgheajblcdaaGreat
