/- Layer 10: messages without what their kind has not, by the reference. -/
import Derived.Test.YtdmlgheajblcdaaGreatD11
namespace Go.Proofs.YtdmlgheajblcdaaGreat
set_option maxHeartbeats 16000000
set_option maxRecDepth 100000
open Go.RowKit
set_option linter.unusedVariables false
set_option linter.unusedSimpArgs false
set_option maxRecDepth 100000
theorem ztq (m:Mg) (pa ia ca ba:Option Addr) (pc ic cc bc:Nat) (hk:m.k=6) (w:World):Calls Tryz.prog 24 #[.agg (mcs m pa ia ca ba pc ic cc bc)] w (KP (.agg (mcs { Mg.z with k:=6,mem:=m.mem,t:=m.t,n:=m.n } none none none none 0 0 0 0)) w):=by
 have HX0:Hid (Bx ((w.alloc (.cells (mcs m pa ia ca ba pc ic cc bc) 35)).alloc (.cells (mcs Mg.z none none none none 0 0 0 0) 35)) w.heap.size (mcs m pa ia ca ba pc ic cc bc) 35):=(Bx.new w _ _).keep (zab _ _)
 have HY0:Hid (Bx ((w.alloc (.cells (mcs m pa ia ca ba pc ic cc bc) 35)).alloc (.cells (mcs Mg.z none none none none 0 0 0 0) 35)) (w.heap.size+1) (mcs Mg.z none none none none 0 0 0 0) 35):=by have:=Bx.new (w.alloc (.cells (mcs m pa ia ca ba pc ic cc bc) 35)) (mcs Mg.z none none none none 0 0 0 0) 35;rwa [zan] at this
 have HB0:Hid (Below w.heap.size w ((w.alloc (.cells (mcs m pa ia ca ba pc ic cc bc) 35)).alloc (.cells (mcs Mg.z none none none none 0 0 0 0) 35))):=bt (zab w _) (zab _ _)
 have hsz0:w.heap.size+2≤((w.alloc (.cells (mcs m pa ia ca ba pc ic cc bc) 35)).alloc (.cells (mcs Mg.z none none none none 0 0 0 0) 35)).heap.size:=by rw [zan,zan];omega
 have HBu:Hid (∀W,(Instr.build 35 #[(0,.int .i64 6)]).run Tryz.prog W=.ok (.agg (mcs { Mg.z with k:=6 } none none none none 0 0 0 0)) W):=fun W=>zbx _ W
 go_enter Tryz.func24,Tryz.ntmps24
 go_upto_region 1 with fail
 show Code.wp _ _ _ _ ((w.alloc (.cells (mcs m pa ia ca ba pc ic cc bc) 35)).alloc (.cells (mcs Mg.z none none none none 0 0 0 0) 35))
 generalize ((w.alloc (.cells (mcs m pa ia ca ba pc ic cc bc) 35)).alloc (.cells (mcs Mg.z none none none none 0 0 0 0) 35))=w1 at *
 have hlt:w.heap.size<w1.heap.size:=by omega
 have c0:w1.cell? ⟨w.heap.size,0,none⟩=some (.int .i64 6):=by have:=HX0.out.cell 0;rw [show (mcs m pa ia ca ba pc ic cc bc)[0]? = some (.int .i64 m.k) from rfl,hk] at this;exact this
 have hne:w.heap.size≠w1.heap.size:=by omega
 have hne1:w.heap.size+1≠w1.heap.size:=by omega
 have HX2:Hid (Bx ((w1.alloc (.cells (mcs Mg.z none none none none 0 0 0 0) 35)).setRow w1.heap.size (mcs { Mg.z with k:=6 } none none none none 0 0 0 0)) w.heap.size (mcs m pa ia ca ba pc ic cc bc) 35):=(HX0.out.keep (zab _ _)).other hne
 have HY2:Hid (Bx ((w1.alloc (.cells (mcs Mg.z none none none none 0 0 0 0) 35)).setRow w1.heap.size (mcs { Mg.z with k:=6 } none none none none 0 0 0 0)) (w.heap.size+1) (mcs Mg.z none none none none 0 0 0 0) 35):=(HY0.out.keep (zab _ _)).other hne1
 have HP2:Hid (Bx ((w1.alloc (.cells (mcs Mg.z none none none none 0 0 0 0) 35)).setRow w1.heap.size (mcs { Mg.z with k:=6 } none none none none 0 0 0 0)) w1.heap.size (mcs { Mg.z with k:=6 } none none none none 0 0 0 0) 35):=Bx.set (Bx.new _ _ _)
 have HB2:Hid (Below w.heap.size w ((w1.alloc (.cells (mcs Mg.z none none none none 0 0 0 0) 35)).setRow w1.heap.size (mcs { Mg.z with k:=6 } none none none none 0 0 0 0))):=zad (bt HB0.out (zab _ _)) (by omega)
 have HST1:Hid ((Instr.storeAt 35 (.pointer (some ⟨w1.heap.size,0,none⟩)) (.agg (mcs { Mg.z with k:=6 } none none none none 0 0 0 0))).run Tryz.prog (w1.alloc (.cells (mcs Mg.z none none none none 0 0 0 0) 35))=.ok () ((w1.alloc (.cells (mcs Mg.z none none none none 0 0 0 0) 35)).setRow w1.heap.size (mcs { Mg.z with k:=6 } none none none none 0 0 0 0))):=zbo (T:=35) (n:=36) (w1.alloc (.cells (mcs Mg.z none none none none 0 0 0 0) 35)) w1.heap.size (mcs Mg.z none none none none 0 0 0 0) (mcs { Mg.z with k:=6 } none none none none 0 0 0 0) zb2 (Bx.new _ _ _) rfl rfl (zaj _ _ _ _ _ _ _ _ _)
 have HLE:Hid (w.heap.size≤w1.heap.size):=by unfold Hid;omega
 generalize ((w1.alloc (.cells (mcs Mg.z none none none none 0 0 0 0) 35)).setRow w1.heap.size (mcs { Mg.z with k:=6 } none none none none 0 0 0 0))=w2 at *
 clear HX0 HY0 HB0 hsz0
 go_upto_region 2 with (first | (guard_target =~ wpList _ _ _ (⟨_,Op.build 35 _,_,_,_,_⟩::_) _ _;refine za5 _ rfl 35 _ _ rfl _ rfl _ (HBu.out _) ?_;go_simp) | (guard_target =~ wpList _ _ _ (⟨_,Op.store 35 _ _,_,_,_,_⟩::_) _ _;refine zaf _ _ rfl 35 _ _ rfl _ _ rfl rfl HST1.out ?_;go_simp))
 clear HST1 HBu c0 hlt
 generalize w1.heap.size=pp at *
 have c0:w2.cell? ⟨w.heap.size,0,none⟩=some (.int .i64 6):=by have:=HX2.out.cell 0;rw [show (mcs m pa ia ca ba pc ic cc bc)[0]? = some (.int .i64 m.k) from rfl,hk] at this;exact this
 have c1:w2.cell? ⟨w.heap.size,1,none⟩=some (.int .i64 m.mem):=HX2.out.cell 1
 have d1:w2.cell? ⟨pp,1,none⟩=some (.int .i64 0):=HP2.out.cell 1
 have f1:w2.frozen? ⟨pp,1,none⟩=false:=HP2.out.froz 1
 obtain ⟨w3,hw⟩:∃v,v=(w2.setCell ⟨pp,1,none⟩ (.int .i64 m.mem)):=⟨_,rfl⟩
 have HX3:Hid (Bx w3 w.heap.size (mcs m pa ia ca ba pc ic cc bc) 35):=by unfold Hid;rw [hw];exact (HX2.out.cellOther (k:=1) hne _)
 have HY3:Hid (Bx w3 (w.heap.size+1) (mcs Mg.z none none none none 0 0 0 0) 35):=by unfold Hid;rw [hw];exact (HY2.out.cellOther (k:=1) hne1 _)
 have HP3:Hid (Bx w3 pp (mcs { Mg.z with k:=6,mem:=m.mem } none none none none 0 0 0 0) 35):=by
  unfold Hid
  rw [hw]
  have h:=HP2.out.cellSet (k:=1) (.int .i64 m.mem)
  have e:(mcs { Mg.z with k:=6 } none none none none 0 0 0 0).setIfInBounds 1 (.int .i64 m.mem)=(mcs { Mg.z with k:=6,mem:=m.mem } none none none none 0 0 0 0):=by kernel_rfl
  rw [e] at h
  exact h
 have HB3:Hid (Below w.heap.size w w3):=by unfold Hid;rw [hw];exact HB2.out.trans (((Bt.refl pp _).trans (Bt.set pp _ 1 (.int .i64 m.mem))).below HLE.out HB2.out.size)
 clear HX2 HY2 HP2 HB2
 go_upto_region 4 with fail
 rw [← hw]
 clear hw c0 c1 d1 f1
 have c0:w3.cell? ⟨w.heap.size,0,none⟩=some (.int .i64 6):=by have:=HX3.out.cell 0;rw [show (mcs m pa ia ca ba pc ic cc bc)[0]? = some (.int .i64 m.k) from rfl,hk] at this;exact this
 have c20:w3.cell? ⟨w.heap.size,20,none⟩=some (.string ⟨m.t.toArray⟩):=HX3.out.cell 20
 have d20:w3.cell? ⟨pp,20,none⟩=some (.string ⟨#[]⟩):=HP3.out.cell 20
 have f20:w3.frozen? ⟨pp,20,none⟩=false:=HP3.out.froz 20
 obtain ⟨w4,hw⟩:∃v,v=(w3.setCell ⟨pp,20,none⟩ (.string ⟨m.t.toArray⟩)):=⟨_,rfl⟩
 have HX4:Hid (Bx w4 w.heap.size (mcs m pa ia ca ba pc ic cc bc) 35):=by unfold Hid;rw [hw];exact (HX3.out.cellOther (k:=20) hne _)
 have HY4:Hid (Bx w4 (w.heap.size+1) (mcs Mg.z none none none none 0 0 0 0) 35):=by unfold Hid;rw [hw];exact (HY3.out.cellOther (k:=20) hne1 _)
 have HP4:Hid (Bx w4 pp (mcs { Mg.z with k:=6,mem:=m.mem,t:=m.t } none none none none 0 0 0 0) 35):=by
  unfold Hid
  rw [hw]
  have h:=HP3.out.cellSet (k:=20) (.string ⟨m.t.toArray⟩)
  have e:(mcs { Mg.z with k:=6,mem:=m.mem } none none none none 0 0 0 0).setIfInBounds 20 (.string ⟨m.t.toArray⟩)=(mcs { Mg.z with k:=6,mem:=m.mem,t:=m.t } none none none none 0 0 0 0):=by kernel_rfl
  rw [e] at h
  exact h
 have HB4:Hid (Below w.heap.size w w4):=by unfold Hid;rw [hw];exact HB3.out.trans (((Bt.refl pp _).trans (Bt.set pp _ 20 (.string ⟨m.t.toArray⟩))).below HLE.out HB3.out.size)
 clear HX3 HY3 HP3 HB3
 go_upto_region 16 with fail
 rw [← hw]
 clear hw c0 c20 d20 f20
 have c0:w4.cell? ⟨w.heap.size,0,none⟩=some (.int .i64 6):=by have:=HX4.out.cell 0;rw [show (mcs m pa ia ca ba pc ic cc bc)[0]? = some (.int .i64 m.k) from rfl,hk] at this;exact this
 have c21:w4.cell? ⟨w.heap.size,21,none⟩=some (.int .i64 m.n):=HX4.out.cell 21
 have d21:w4.cell? ⟨pp,21,none⟩=some (.int .i64 0):=HP4.out.cell 21
 have f21:w4.frozen? ⟨pp,21,none⟩=false:=HP4.out.froz 21
 obtain ⟨w5,hw⟩:∃v,v=(w4.setCell ⟨pp,21,none⟩ (.int .i64 m.n)):=⟨_,rfl⟩
 have HX5:Hid (Bx w5 w.heap.size (mcs m pa ia ca ba pc ic cc bc) 35):=by unfold Hid;rw [hw];exact (HX4.out.cellOther (k:=21) hne _)
 have HY5:Hid (Bx w5 (w.heap.size+1) (mcs Mg.z none none none none 0 0 0 0) 35):=by unfold Hid;rw [hw];exact (HY4.out.cellOther (k:=21) hne1 _)
 have HP5:Hid (Bx w5 pp (mcs { Mg.z with k:=6,mem:=m.mem,t:=m.t,n:=m.n } none none none none 0 0 0 0) 35):=by
  unfold Hid
  rw [hw]
  have h:=HP4.out.cellSet (k:=21) (.int .i64 m.n)
  have e:(mcs { Mg.z with k:=6,mem:=m.mem,t:=m.t } none none none none 0 0 0 0).setIfInBounds 21 (.int .i64 m.n)=(mcs { Mg.z with k:=6,mem:=m.mem,t:=m.t,n:=m.n } none none none none 0 0 0 0):=by kernel_rfl
  rw [e] at h
  exact h
 have HB5:Hid (Below w.heap.size w w5):=by unfold Hid;rw [hw];exact HB4.out.trans (((Bt.refl pp _).trans (Bt.set pp _ 21 (.int .i64 m.n))).below HLE.out HB4.out.size)
 clear HX4 HY4 HP4 HB4
 go_upto_region 18 with fail
 rw [← hw]
 clear hw c0 c21 d21 f21
 have c0:w5.cell? ⟨w.heap.size,0,none⟩=some (.int .i64 6):=by have:=HX5.out.cell 0;rw [show (mcs m pa ia ca ba pc ic cc bc)[0]? = some (.int .i64 m.k) from rfl,hk] at this;exact this
 have HLD:Hid ((Instr.loadAt 35 (.pointer (some ⟨pp,0,none⟩))).run Tryz.prog w5=.ok (.agg (mcs { Mg.z with k:=6,mem:=m.mem,t:=m.t,n:=m.n } none none none none 0 0 0 0)) w5):=zam w5 pp _ rfl HP5.out
 have HST:Hid ((Instr.storeAt 35 (.pointer (some ⟨w.heap.size+1,0,none⟩)) (.agg (mcs { Mg.z with k:=6,mem:=m.mem,t:=m.t,n:=m.n } none none none none 0 0 0 0))).run Tryz.prog w5=.ok () (w5.setRow (w.heap.size+1) (mcs { Mg.z with k:=6,mem:=m.mem,t:=m.t,n:=m.n } none none none none 0 0 0 0))):=zaw w5 (w.heap.size+1) _ _ HY5.out rfl rfl (zaj _ _ _ _ _ _ _ _ _)
 have hld:=zbb (w5.setRow (w.heap.size+1) (mcs { Mg.z with k:=6,mem:=m.mem,t:=m.t,n:=m.n } none none none none 0 0 0 0)) (w.heap.size+1) (mcs { Mg.z with k:=6,mem:=m.mem,t:=m.t,n:=m.n } none none none none 0 0 0 0) rfl HY5.out.set
 have HBz:Hid (Below w.heap.size w (w5.setRow (w.heap.size+1) (mcs { Mg.z with k:=6,mem:=m.mem,t:=m.t,n:=m.n } none none none none 0 0 0 0))):=zad HB5.out (by omega)
 clear HX5 HY5 HP5 HB5
 generalize (mcs { Mg.z with k:=6,mem:=m.mem,t:=m.t,n:=m.n } none none none none 0 0 0 0)=PP at *
 go_wp2_with (first | (guard_target =~ wpList _ _ _ (⟨_,Op.load 35 _,_,_,_,_⟩::_) _ _;refine zag _ rfl 35 _ rfl _ rfl _ HLD.out ?_;go_simp) | (guard_target =~ wpList _ _ _ (⟨_,Op.store 35 _ _,_,_,_,_⟩::_) _ _;refine zaf _ _ rfl 35 _ _ rfl _ _ rfl rfl HST.out ?_;go_simp))
 refine bodyPost_ret (zaz _ _ 2 35 _ _ _ rfl rfl hld) rfl ?_
 exact ⟨rfl,HBz⟩
theorem ztr (m:Mg) (pa ia ca ba:Option Addr) (pc ic cc bc:Nat) (hk:m.k=7) (w:World):Calls Tryz.prog 24 #[.agg (mcs m pa ia ca ba pc ic cc bc)] w (KP (.agg (mcs { Mg.z with k:=7,mem:=m.mem,t:=m.t,n:=m.n } none none none none 0 0 0 0)) w):=by
 have HX0:Hid (Bx ((w.alloc (.cells (mcs m pa ia ca ba pc ic cc bc) 35)).alloc (.cells (mcs Mg.z none none none none 0 0 0 0) 35)) w.heap.size (mcs m pa ia ca ba pc ic cc bc) 35):=(Bx.new w _ _).keep (zab _ _)
 have HY0:Hid (Bx ((w.alloc (.cells (mcs m pa ia ca ba pc ic cc bc) 35)).alloc (.cells (mcs Mg.z none none none none 0 0 0 0) 35)) (w.heap.size+1) (mcs Mg.z none none none none 0 0 0 0) 35):=by have:=Bx.new (w.alloc (.cells (mcs m pa ia ca ba pc ic cc bc) 35)) (mcs Mg.z none none none none 0 0 0 0) 35;rwa [zan] at this
 have HB0:Hid (Below w.heap.size w ((w.alloc (.cells (mcs m pa ia ca ba pc ic cc bc) 35)).alloc (.cells (mcs Mg.z none none none none 0 0 0 0) 35))):=bt (zab w _) (zab _ _)
 have hsz0:w.heap.size+2≤((w.alloc (.cells (mcs m pa ia ca ba pc ic cc bc) 35)).alloc (.cells (mcs Mg.z none none none none 0 0 0 0) 35)).heap.size:=by rw [zan,zan];omega
 have HBu:Hid (∀W,(Instr.build 35 #[(0,.int .i64 7)]).run Tryz.prog W=.ok (.agg (mcs { Mg.z with k:=7 } none none none none 0 0 0 0)) W):=fun W=>zbx _ W
 go_enter Tryz.func24,Tryz.ntmps24
 go_upto_region 1 with fail
 show Code.wp _ _ _ _ ((w.alloc (.cells (mcs m pa ia ca ba pc ic cc bc) 35)).alloc (.cells (mcs Mg.z none none none none 0 0 0 0) 35))
 generalize ((w.alloc (.cells (mcs m pa ia ca ba pc ic cc bc) 35)).alloc (.cells (mcs Mg.z none none none none 0 0 0 0) 35))=w1 at *
 have hlt:w.heap.size<w1.heap.size:=by omega
 have c0:w1.cell? ⟨w.heap.size,0,none⟩=some (.int .i64 7):=by have:=HX0.out.cell 0;rw [show (mcs m pa ia ca ba pc ic cc bc)[0]? = some (.int .i64 m.k) from rfl,hk] at this;exact this
 have hne:w.heap.size≠w1.heap.size:=by omega
 have hne1:w.heap.size+1≠w1.heap.size:=by omega
 have HX2:Hid (Bx ((w1.alloc (.cells (mcs Mg.z none none none none 0 0 0 0) 35)).setRow w1.heap.size (mcs { Mg.z with k:=7 } none none none none 0 0 0 0)) w.heap.size (mcs m pa ia ca ba pc ic cc bc) 35):=(HX0.out.keep (zab _ _)).other hne
 have HY2:Hid (Bx ((w1.alloc (.cells (mcs Mg.z none none none none 0 0 0 0) 35)).setRow w1.heap.size (mcs { Mg.z with k:=7 } none none none none 0 0 0 0)) (w.heap.size+1) (mcs Mg.z none none none none 0 0 0 0) 35):=(HY0.out.keep (zab _ _)).other hne1
 have HP2:Hid (Bx ((w1.alloc (.cells (mcs Mg.z none none none none 0 0 0 0) 35)).setRow w1.heap.size (mcs { Mg.z with k:=7 } none none none none 0 0 0 0)) w1.heap.size (mcs { Mg.z with k:=7 } none none none none 0 0 0 0) 35):=Bx.set (Bx.new _ _ _)
 have HB2:Hid (Below w.heap.size w ((w1.alloc (.cells (mcs Mg.z none none none none 0 0 0 0) 35)).setRow w1.heap.size (mcs { Mg.z with k:=7 } none none none none 0 0 0 0))):=zad (bt HB0.out (zab _ _)) (by omega)
 have HST1:Hid ((Instr.storeAt 35 (.pointer (some ⟨w1.heap.size,0,none⟩)) (.agg (mcs { Mg.z with k:=7 } none none none none 0 0 0 0))).run Tryz.prog (w1.alloc (.cells (mcs Mg.z none none none none 0 0 0 0) 35))=.ok () ((w1.alloc (.cells (mcs Mg.z none none none none 0 0 0 0) 35)).setRow w1.heap.size (mcs { Mg.z with k:=7 } none none none none 0 0 0 0))):=zbo (T:=35) (n:=36) (w1.alloc (.cells (mcs Mg.z none none none none 0 0 0 0) 35)) w1.heap.size (mcs Mg.z none none none none 0 0 0 0) (mcs { Mg.z with k:=7 } none none none none 0 0 0 0) zb2 (Bx.new _ _ _) rfl rfl (zaj _ _ _ _ _ _ _ _ _)
 have HLE:Hid (w.heap.size≤w1.heap.size):=by unfold Hid;omega
 generalize ((w1.alloc (.cells (mcs Mg.z none none none none 0 0 0 0) 35)).setRow w1.heap.size (mcs { Mg.z with k:=7 } none none none none 0 0 0 0))=w2 at *
 clear HX0 HY0 HB0 hsz0
 go_upto_region 2 with (first | (guard_target =~ wpList _ _ _ (⟨_,Op.build 35 _,_,_,_,_⟩::_) _ _;refine za5 _ rfl 35 _ _ rfl _ rfl _ (HBu.out _) ?_;go_simp) | (guard_target =~ wpList _ _ _ (⟨_,Op.store 35 _ _,_,_,_,_⟩::_) _ _;refine zaf _ _ rfl 35 _ _ rfl _ _ rfl rfl HST1.out ?_;go_simp))
 clear HST1 HBu c0 hlt
 generalize w1.heap.size=pp at *
 have c0:w2.cell? ⟨w.heap.size,0,none⟩=some (.int .i64 7):=by have:=HX2.out.cell 0;rw [show (mcs m pa ia ca ba pc ic cc bc)[0]? = some (.int .i64 m.k) from rfl,hk] at this;exact this
 have c1:w2.cell? ⟨w.heap.size,1,none⟩=some (.int .i64 m.mem):=HX2.out.cell 1
 have d1:w2.cell? ⟨pp,1,none⟩=some (.int .i64 0):=HP2.out.cell 1
 have f1:w2.frozen? ⟨pp,1,none⟩=false:=HP2.out.froz 1
 obtain ⟨w3,hw⟩:∃v,v=(w2.setCell ⟨pp,1,none⟩ (.int .i64 m.mem)):=⟨_,rfl⟩
 have HX3:Hid (Bx w3 w.heap.size (mcs m pa ia ca ba pc ic cc bc) 35):=by unfold Hid;rw [hw];exact (HX2.out.cellOther (k:=1) hne _)
 have HY3:Hid (Bx w3 (w.heap.size+1) (mcs Mg.z none none none none 0 0 0 0) 35):=by unfold Hid;rw [hw];exact (HY2.out.cellOther (k:=1) hne1 _)
 have HP3:Hid (Bx w3 pp (mcs { Mg.z with k:=7,mem:=m.mem } none none none none 0 0 0 0) 35):=by
  unfold Hid
  rw [hw]
  have h:=HP2.out.cellSet (k:=1) (.int .i64 m.mem)
  have e:(mcs { Mg.z with k:=7 } none none none none 0 0 0 0).setIfInBounds 1 (.int .i64 m.mem)=(mcs { Mg.z with k:=7,mem:=m.mem } none none none none 0 0 0 0):=by kernel_rfl
  rw [e] at h
  exact h
 have HB3:Hid (Below w.heap.size w w3):=by unfold Hid;rw [hw];exact HB2.out.trans (((Bt.refl pp _).trans (Bt.set pp _ 1 (.int .i64 m.mem))).below HLE.out HB2.out.size)
 clear HX2 HY2 HP2 HB2
 go_upto_region 4 with fail
 rw [← hw]
 clear hw c0 c1 d1 f1
 have c0:w3.cell? ⟨w.heap.size,0,none⟩=some (.int .i64 7):=by have:=HX3.out.cell 0;rw [show (mcs m pa ia ca ba pc ic cc bc)[0]? = some (.int .i64 m.k) from rfl,hk] at this;exact this
 have c20:w3.cell? ⟨w.heap.size,20,none⟩=some (.string ⟨m.t.toArray⟩):=HX3.out.cell 20
 have d20:w3.cell? ⟨pp,20,none⟩=some (.string ⟨#[]⟩):=HP3.out.cell 20
 have f20:w3.frozen? ⟨pp,20,none⟩=false:=HP3.out.froz 20
 obtain ⟨w4,hw⟩:∃v,v=(w3.setCell ⟨pp,20,none⟩ (.string ⟨m.t.toArray⟩)):=⟨_,rfl⟩
 have HX4:Hid (Bx w4 w.heap.size (mcs m pa ia ca ba pc ic cc bc) 35):=by unfold Hid;rw [hw];exact (HX3.out.cellOther (k:=20) hne _)
 have HY4:Hid (Bx w4 (w.heap.size+1) (mcs Mg.z none none none none 0 0 0 0) 35):=by unfold Hid;rw [hw];exact (HY3.out.cellOther (k:=20) hne1 _)
 have HP4:Hid (Bx w4 pp (mcs { Mg.z with k:=7,mem:=m.mem,t:=m.t } none none none none 0 0 0 0) 35):=by
  unfold Hid
  rw [hw]
  have h:=HP3.out.cellSet (k:=20) (.string ⟨m.t.toArray⟩)
  have e:(mcs { Mg.z with k:=7,mem:=m.mem } none none none none 0 0 0 0).setIfInBounds 20 (.string ⟨m.t.toArray⟩)=(mcs { Mg.z with k:=7,mem:=m.mem,t:=m.t } none none none none 0 0 0 0):=by kernel_rfl
  rw [e] at h
  exact h
 have HB4:Hid (Below w.heap.size w w4):=by unfold Hid;rw [hw];exact HB3.out.trans (((Bt.refl pp _).trans (Bt.set pp _ 20 (.string ⟨m.t.toArray⟩))).below HLE.out HB3.out.size)
 clear HX3 HY3 HP3 HB3
 go_upto_region 16 with fail
 rw [← hw]
 clear hw c0 c20 d20 f20
 have c0:w4.cell? ⟨w.heap.size,0,none⟩=some (.int .i64 7):=by have:=HX4.out.cell 0;rw [show (mcs m pa ia ca ba pc ic cc bc)[0]? = some (.int .i64 m.k) from rfl,hk] at this;exact this
 have c21:w4.cell? ⟨w.heap.size,21,none⟩=some (.int .i64 m.n):=HX4.out.cell 21
 have d21:w4.cell? ⟨pp,21,none⟩=some (.int .i64 0):=HP4.out.cell 21
 have f21:w4.frozen? ⟨pp,21,none⟩=false:=HP4.out.froz 21
 obtain ⟨w5,hw⟩:∃v,v=(w4.setCell ⟨pp,21,none⟩ (.int .i64 m.n)):=⟨_,rfl⟩
 have HX5:Hid (Bx w5 w.heap.size (mcs m pa ia ca ba pc ic cc bc) 35):=by unfold Hid;rw [hw];exact (HX4.out.cellOther (k:=21) hne _)
 have HY5:Hid (Bx w5 (w.heap.size+1) (mcs Mg.z none none none none 0 0 0 0) 35):=by unfold Hid;rw [hw];exact (HY4.out.cellOther (k:=21) hne1 _)
 have HP5:Hid (Bx w5 pp (mcs { Mg.z with k:=7,mem:=m.mem,t:=m.t,n:=m.n } none none none none 0 0 0 0) 35):=by
  unfold Hid
  rw [hw]
  have h:=HP4.out.cellSet (k:=21) (.int .i64 m.n)
  have e:(mcs { Mg.z with k:=7,mem:=m.mem,t:=m.t } none none none none 0 0 0 0).setIfInBounds 21 (.int .i64 m.n)=(mcs { Mg.z with k:=7,mem:=m.mem,t:=m.t,n:=m.n } none none none none 0 0 0 0):=by kernel_rfl
  rw [e] at h
  exact h
 have HB5:Hid (Below w.heap.size w w5):=by unfold Hid;rw [hw];exact HB4.out.trans (((Bt.refl pp _).trans (Bt.set pp _ 21 (.int .i64 m.n))).below HLE.out HB4.out.size)
 clear HX4 HY4 HP4 HB4
 go_upto_region 18 with fail
 rw [← hw]
 clear hw c0 c21 d21 f21
 have c0:w5.cell? ⟨w.heap.size,0,none⟩=some (.int .i64 7):=by have:=HX5.out.cell 0;rw [show (mcs m pa ia ca ba pc ic cc bc)[0]? = some (.int .i64 m.k) from rfl,hk] at this;exact this
 have HLD:Hid ((Instr.loadAt 35 (.pointer (some ⟨pp,0,none⟩))).run Tryz.prog w5=.ok (.agg (mcs { Mg.z with k:=7,mem:=m.mem,t:=m.t,n:=m.n } none none none none 0 0 0 0)) w5):=zam w5 pp _ rfl HP5.out
 have HST:Hid ((Instr.storeAt 35 (.pointer (some ⟨w.heap.size+1,0,none⟩)) (.agg (mcs { Mg.z with k:=7,mem:=m.mem,t:=m.t,n:=m.n } none none none none 0 0 0 0))).run Tryz.prog w5=.ok () (w5.setRow (w.heap.size+1) (mcs { Mg.z with k:=7,mem:=m.mem,t:=m.t,n:=m.n } none none none none 0 0 0 0))):=zaw w5 (w.heap.size+1) _ _ HY5.out rfl rfl (zaj _ _ _ _ _ _ _ _ _)
 have hld:=zbb (w5.setRow (w.heap.size+1) (mcs { Mg.z with k:=7,mem:=m.mem,t:=m.t,n:=m.n } none none none none 0 0 0 0)) (w.heap.size+1) (mcs { Mg.z with k:=7,mem:=m.mem,t:=m.t,n:=m.n } none none none none 0 0 0 0) rfl HY5.out.set
 have HBz:Hid (Below w.heap.size w (w5.setRow (w.heap.size+1) (mcs { Mg.z with k:=7,mem:=m.mem,t:=m.t,n:=m.n } none none none none 0 0 0 0))):=zad HB5.out (by omega)
 clear HX5 HY5 HP5 HB5
 generalize (mcs { Mg.z with k:=7,mem:=m.mem,t:=m.t,n:=m.n } none none none none 0 0 0 0)=PP at *
 go_wp2_with (first | (guard_target =~ wpList _ _ _ (⟨_,Op.load 35 _,_,_,_,_⟩::_) _ _;refine zag _ rfl 35 _ rfl _ rfl _ HLD.out ?_;go_simp) | (guard_target =~ wpList _ _ _ (⟨_,Op.store 35 _ _,_,_,_,_⟩::_) _ _;refine zaf _ _ rfl 35 _ _ rfl _ _ rfl rfl HST.out ?_;go_simp))
 refine bodyPost_ret (zaz _ _ 2 35 _ _ _ rfl rfl hld) rfl ?_
 exact ⟨rfl,HBz⟩
theorem zts (m:Mg) (pa ia ca ba:Option Addr) (pc ic cc bc:Nat) (hk:m.k=8) (w:World):Calls Tryz.prog 24 #[.agg (mcs m pa ia ca ba pc ic cc bc)] w (KP (.agg (mcs { Mg.z with k:=8,q:=m.q } none none none none 0 0 0 0)) w):=by
 have HX0:Hid (Bx ((w.alloc (.cells (mcs m pa ia ca ba pc ic cc bc) 35)).alloc (.cells (mcs Mg.z none none none none 0 0 0 0) 35)) w.heap.size (mcs m pa ia ca ba pc ic cc bc) 35):=(Bx.new w _ _).keep (zab _ _)
 have HY0:Hid (Bx ((w.alloc (.cells (mcs m pa ia ca ba pc ic cc bc) 35)).alloc (.cells (mcs Mg.z none none none none 0 0 0 0) 35)) (w.heap.size+1) (mcs Mg.z none none none none 0 0 0 0) 35):=by have:=Bx.new (w.alloc (.cells (mcs m pa ia ca ba pc ic cc bc) 35)) (mcs Mg.z none none none none 0 0 0 0) 35;rwa [zan] at this
 have HB0:Hid (Below w.heap.size w ((w.alloc (.cells (mcs m pa ia ca ba pc ic cc bc) 35)).alloc (.cells (mcs Mg.z none none none none 0 0 0 0) 35))):=bt (zab w _) (zab _ _)
 have hsz0:w.heap.size+2≤((w.alloc (.cells (mcs m pa ia ca ba pc ic cc bc) 35)).alloc (.cells (mcs Mg.z none none none none 0 0 0 0) 35)).heap.size:=by rw [zan,zan];omega
 have HBu:Hid (∀W,(Instr.build 35 #[(0,.int .i64 8)]).run Tryz.prog W=.ok (.agg (mcs { Mg.z with k:=8 } none none none none 0 0 0 0)) W):=fun W=>zbx _ W
 go_enter Tryz.func24,Tryz.ntmps24
 go_upto_region 1 with fail
 show Code.wp _ _ _ _ ((w.alloc (.cells (mcs m pa ia ca ba pc ic cc bc) 35)).alloc (.cells (mcs Mg.z none none none none 0 0 0 0) 35))
 generalize ((w.alloc (.cells (mcs m pa ia ca ba pc ic cc bc) 35)).alloc (.cells (mcs Mg.z none none none none 0 0 0 0) 35))=w1 at *
 have hlt:w.heap.size<w1.heap.size:=by omega
 have c0:w1.cell? ⟨w.heap.size,0,none⟩=some (.int .i64 8):=by have:=HX0.out.cell 0;rw [show (mcs m pa ia ca ba pc ic cc bc)[0]? = some (.int .i64 m.k) from rfl,hk] at this;exact this
 have hne:w.heap.size≠w1.heap.size:=by omega
 have hne1:w.heap.size+1≠w1.heap.size:=by omega
 have HX2:Hid (Bx ((w1.alloc (.cells (mcs Mg.z none none none none 0 0 0 0) 35)).setRow w1.heap.size (mcs { Mg.z with k:=8 } none none none none 0 0 0 0)) w.heap.size (mcs m pa ia ca ba pc ic cc bc) 35):=(HX0.out.keep (zab _ _)).other hne
 have HY2:Hid (Bx ((w1.alloc (.cells (mcs Mg.z none none none none 0 0 0 0) 35)).setRow w1.heap.size (mcs { Mg.z with k:=8 } none none none none 0 0 0 0)) (w.heap.size+1) (mcs Mg.z none none none none 0 0 0 0) 35):=(HY0.out.keep (zab _ _)).other hne1
 have HP2:Hid (Bx ((w1.alloc (.cells (mcs Mg.z none none none none 0 0 0 0) 35)).setRow w1.heap.size (mcs { Mg.z with k:=8 } none none none none 0 0 0 0)) w1.heap.size (mcs { Mg.z with k:=8 } none none none none 0 0 0 0) 35):=Bx.set (Bx.new _ _ _)
 have HB2:Hid (Below w.heap.size w ((w1.alloc (.cells (mcs Mg.z none none none none 0 0 0 0) 35)).setRow w1.heap.size (mcs { Mg.z with k:=8 } none none none none 0 0 0 0))):=zad (bt HB0.out (zab _ _)) (by omega)
 have HST1:Hid ((Instr.storeAt 35 (.pointer (some ⟨w1.heap.size,0,none⟩)) (.agg (mcs { Mg.z with k:=8 } none none none none 0 0 0 0))).run Tryz.prog (w1.alloc (.cells (mcs Mg.z none none none none 0 0 0 0) 35))=.ok () ((w1.alloc (.cells (mcs Mg.z none none none none 0 0 0 0) 35)).setRow w1.heap.size (mcs { Mg.z with k:=8 } none none none none 0 0 0 0))):=zbo (T:=35) (n:=36) (w1.alloc (.cells (mcs Mg.z none none none none 0 0 0 0) 35)) w1.heap.size (mcs Mg.z none none none none 0 0 0 0) (mcs { Mg.z with k:=8 } none none none none 0 0 0 0) zb2 (Bx.new _ _ _) rfl rfl (zaj _ _ _ _ _ _ _ _ _)
 have HLE:Hid (w.heap.size≤w1.heap.size):=by unfold Hid;omega
 generalize ((w1.alloc (.cells (mcs Mg.z none none none none 0 0 0 0) 35)).setRow w1.heap.size (mcs { Mg.z with k:=8 } none none none none 0 0 0 0))=w2 at *
 clear HX0 HY0 HB0 hsz0
 go_upto_region 2 with (first | (guard_target =~ wpList _ _ _ (⟨_,Op.build 35 _,_,_,_,_⟩::_) _ _;refine za5 _ rfl 35 _ _ rfl _ rfl _ (HBu.out _) ?_;go_simp) | (guard_target =~ wpList _ _ _ (⟨_,Op.store 35 _ _,_,_,_,_⟩::_) _ _;refine zaf _ _ rfl 35 _ _ rfl _ _ rfl rfl HST1.out ?_;go_simp))
 clear HST1 HBu c0 hlt
 generalize w1.heap.size=pp at *
 have c0:w2.cell? ⟨w.heap.size,0,none⟩=some (.int .i64 8):=by have:=HX2.out.cell 0;rw [show (mcs m pa ia ca ba pc ic cc bc)[0]? = some (.int .i64 m.k) from rfl,hk] at this;exact this
 have HLm:Hid (∀W,Bx W w.heap.size (mcs m pa ia ca ba pc ic cc bc) 35→(Instr.loadAt 30 (.pointer (some ⟨w.heap.size,22,none⟩))).run Tryz.prog W=.ok (.agg #[.int .i64 m.q.id,.int .i64 m.q.mem,.int .i64 m.q.side,.int .i64 m.q.bas,.int .i64 m.q.am,.int .i64 m.q.rate,.int .i64 m.q.st,.int .i64 m.q.en]) W):=fun W h=>zs2 W _ _ _ _ _ _ _ _ _ (h.cell 22) (h.cell 23) (h.cell 24) (h.cell 25) (h.cell 26) (h.cell 27) (h.cell 28) (h.cell 29)
 have HSm:Hid ((Instr.storeAt 30 (.pointer (some ⟨pp,22,none⟩)) (.agg #[.int .i64 m.q.id,.int .i64 m.q.mem,.int .i64 m.q.side,.int .i64 m.q.bas,.int .i64 m.q.am,.int .i64 m.q.rate,.int .i64 m.q.st,.int .i64 m.q.en])).run Tryz.prog w2=.ok () (w2.setCells pp 22 [.int .i64 m.q.id,.int .i64 m.q.mem,.int .i64 m.q.side,.int .i64 m.q.bas,.int .i64 m.q.am,.int .i64 m.q.rate,.int .i64 m.q.st,.int .i64 m.q.en])):=run_storeAt_mid w2 pp 22 30 #[.int .i64 m.q.id,.int .i64 m.q.mem,.int .i64 m.q.side,.int .i64 m.q.bas,.int .i64 m.q.am,.int .i64 m.q.rate,.int .i64 m.q.st,.int .i64 m.q.en] (HP2.out.there (by show 22+8≤(mcs _ _ _ _ _ _ _ _ _).size;rw [zac];omega)) ziw (by simp [Value.oneCell'])
 have HX3:Hid (Bx (w2.setCells pp 22 [.int .i64 m.q.id,.int .i64 m.q.mem,.int .i64 m.q.side,.int .i64 m.q.bas,.int .i64 m.q.am,.int .i64 m.q.rate,.int .i64 m.q.st,.int .i64 m.q.en]) w.heap.size (mcs m pa ia ca ba pc ic cc bc) 35):=Bx.cellsOther hne _ _ _ HX2.out
 have HY3:Hid (Bx (w2.setCells pp 22 [.int .i64 m.q.id,.int .i64 m.q.mem,.int .i64 m.q.side,.int .i64 m.q.bas,.int .i64 m.q.am,.int .i64 m.q.rate,.int .i64 m.q.st,.int .i64 m.q.en]) (w.heap.size+1) (mcs Mg.z none none none none 0 0 0 0) 35):=Bx.cellsOther hne1 _ _ _ HY2.out
 have HP3:Hid (Bx (w2.setCells pp 22 [.int .i64 m.q.id,.int .i64 m.q.mem,.int .i64 m.q.side,.int .i64 m.q.bas,.int .i64 m.q.am,.int .i64 m.q.rate,.int .i64 m.q.st,.int .i64 m.q.en]) pp (mcs { Mg.z with k:=8,q:=m.q } none none none none 0 0 0 0) 35):=by
  unfold Hid
  have h:=Bx.cellsSet [.int .i64 m.q.id,.int .i64 m.q.mem,.int .i64 m.q.side,.int .i64 m.q.bas,.int .i64 m.q.am,.int .i64 m.q.rate,.int .i64 m.q.st,.int .i64 m.q.en] 22 w2 _ HP2.out
  have e:zmz (mcs { Mg.z with k:=8 } none none none none 0 0 0 0) 22 [.int .i64 m.q.id,.int .i64 m.q.mem,.int .i64 m.q.side,.int .i64 m.q.bas,.int .i64 m.q.am,.int .i64 m.q.rate,.int .i64 m.q.st,.int .i64 m.q.en]=(mcs { Mg.z with k:=8,q:=m.q } none none none none 0 0 0 0):=by kernel_rfl
  rw [e] at h
  exact h
 have HB3:Hid (Below w.heap.size w (w2.setCells pp 22 [.int .i64 m.q.id,.int .i64 m.q.mem,.int .i64 m.q.side,.int .i64 m.q.bas,.int .i64 m.q.am,.int .i64 m.q.rate,.int .i64 m.q.st,.int .i64 m.q.en])):=HB2.out.trans ((Bt.cells _ _ _).below HLE.out HB2.out.size)
 have HLn:Hid ((Instr.loadAt 30 (.pointer (some ⟨w.heap.size,22,none⟩))).run Tryz.prog w2=.ok (.agg #[.int .i64 m.q.id,.int .i64 m.q.mem,.int .i64 m.q.side,.int .i64 m.q.bas,.int .i64 m.q.am,.int .i64 m.q.rate,.int .i64 m.q.st,.int .i64 m.q.en]) w2):=HLm.out _ HX2.out
 clear HX2 HY2 HP2 HB2 HLm
 generalize hw:(w2.setCells pp 22 [.int .i64 m.q.id,.int .i64 m.q.mem,.int .i64 m.q.side,.int .i64 m.q.bas,.int .i64 m.q.am,.int .i64 m.q.rate,.int .i64 m.q.st,.int .i64 m.q.en])=w3 at *
 go_upto_region 20 with (first | (guard_target =~ wpList _ _ _ (⟨_,Op.load 30 _,_,_,_,_⟩::_) _ _;refine zag _ rfl 30 _ rfl _ rfl _ HLn.out ?_;go_simp) | (guard_target =~ wpList _ _ _ (⟨_,Op.store 30 _ _,_,_,_,_⟩::_) _ _;refine zaf _ _ rfl 30 _ _ rfl _ _ rfl rfl HSm.out ?_;go_simp))
 clear hw c0 HLn HSm
 have c0:w3.cell? ⟨w.heap.size,0,none⟩=some (.int .i64 8):=by have:=HX3.out.cell 0;rw [show (mcs m pa ia ca ba pc ic cc bc)[0]? = some (.int .i64 m.k) from rfl,hk] at this;exact this
 have HLD:Hid ((Instr.loadAt 35 (.pointer (some ⟨pp,0,none⟩))).run Tryz.prog w3=.ok (.agg (mcs { Mg.z with k:=8,q:=m.q } none none none none 0 0 0 0)) w3):=zam w3 pp _ rfl HP3.out
 have HST:Hid ((Instr.storeAt 35 (.pointer (some ⟨w.heap.size+1,0,none⟩)) (.agg (mcs { Mg.z with k:=8,q:=m.q } none none none none 0 0 0 0))).run Tryz.prog w3=.ok () (w3.setRow (w.heap.size+1) (mcs { Mg.z with k:=8,q:=m.q } none none none none 0 0 0 0))):=zaw w3 (w.heap.size+1) _ _ HY3.out rfl rfl (zaj _ _ _ _ _ _ _ _ _)
 have hld:=zbb (w3.setRow (w.heap.size+1) (mcs { Mg.z with k:=8,q:=m.q } none none none none 0 0 0 0)) (w.heap.size+1) (mcs { Mg.z with k:=8,q:=m.q } none none none none 0 0 0 0) rfl HY3.out.set
 have HBz:Hid (Below w.heap.size w (w3.setRow (w.heap.size+1) (mcs { Mg.z with k:=8,q:=m.q } none none none none 0 0 0 0))):=zad HB3.out (by omega)
 clear HX3 HY3 HP3 HB3
 generalize (mcs { Mg.z with k:=8,q:=m.q } none none none none 0 0 0 0)=PP at *
 go_wp2_with (first | (guard_target =~ wpList _ _ _ (⟨_,Op.load 35 _,_,_,_,_⟩::_) _ _;refine zag _ rfl 35 _ rfl _ rfl _ HLD.out ?_;go_simp) | (guard_target =~ wpList _ _ _ (⟨_,Op.store 35 _ _,_,_,_,_⟩::_) _ _;refine zaf _ _ rfl 35 _ _ rfl _ _ rfl rfl HST.out ?_;go_simp))
 refine bodyPost_ret (zaz _ _ 2 35 _ _ _ rfl rfl hld) rfl ?_
 exact ⟨rfl,HBz⟩
theorem ztt (m:Mg) (pa ia ca ba:Option Addr) (pc ic cc bc:Nat) (hk:m.k=9) (w:World):Calls Tryz.prog 24 #[.agg (mcs m pa ia ca ba pc ic cc bc)] w (KP (.agg (mcs { Mg.z with k:=9,mem:=m.mem,n:=m.n } none none none none 0 0 0 0)) w):=by
 have HX0:Hid (Bx ((w.alloc (.cells (mcs m pa ia ca ba pc ic cc bc) 35)).alloc (.cells (mcs Mg.z none none none none 0 0 0 0) 35)) w.heap.size (mcs m pa ia ca ba pc ic cc bc) 35):=(Bx.new w _ _).keep (zab _ _)
 have HY0:Hid (Bx ((w.alloc (.cells (mcs m pa ia ca ba pc ic cc bc) 35)).alloc (.cells (mcs Mg.z none none none none 0 0 0 0) 35)) (w.heap.size+1) (mcs Mg.z none none none none 0 0 0 0) 35):=by have:=Bx.new (w.alloc (.cells (mcs m pa ia ca ba pc ic cc bc) 35)) (mcs Mg.z none none none none 0 0 0 0) 35;rwa [zan] at this
 have HB0:Hid (Below w.heap.size w ((w.alloc (.cells (mcs m pa ia ca ba pc ic cc bc) 35)).alloc (.cells (mcs Mg.z none none none none 0 0 0 0) 35))):=bt (zab w _) (zab _ _)
 have hsz0:w.heap.size+2≤((w.alloc (.cells (mcs m pa ia ca ba pc ic cc bc) 35)).alloc (.cells (mcs Mg.z none none none none 0 0 0 0) 35)).heap.size:=by rw [zan,zan];omega
 have HBu:Hid (∀W,(Instr.build 35 #[(0,.int .i64 9)]).run Tryz.prog W=.ok (.agg (mcs { Mg.z with k:=9 } none none none none 0 0 0 0)) W):=fun W=>zbx _ W
 go_enter Tryz.func24,Tryz.ntmps24
 go_upto_region 1 with fail
 show Code.wp _ _ _ _ ((w.alloc (.cells (mcs m pa ia ca ba pc ic cc bc) 35)).alloc (.cells (mcs Mg.z none none none none 0 0 0 0) 35))
 generalize ((w.alloc (.cells (mcs m pa ia ca ba pc ic cc bc) 35)).alloc (.cells (mcs Mg.z none none none none 0 0 0 0) 35))=w1 at *
 have hlt:w.heap.size<w1.heap.size:=by omega
 have c0:w1.cell? ⟨w.heap.size,0,none⟩=some (.int .i64 9):=by have:=HX0.out.cell 0;rw [show (mcs m pa ia ca ba pc ic cc bc)[0]? = some (.int .i64 m.k) from rfl,hk] at this;exact this
 have hne:w.heap.size≠w1.heap.size:=by omega
 have hne1:w.heap.size+1≠w1.heap.size:=by omega
 have HX2:Hid (Bx ((w1.alloc (.cells (mcs Mg.z none none none none 0 0 0 0) 35)).setRow w1.heap.size (mcs { Mg.z with k:=9 } none none none none 0 0 0 0)) w.heap.size (mcs m pa ia ca ba pc ic cc bc) 35):=(HX0.out.keep (zab _ _)).other hne
 have HY2:Hid (Bx ((w1.alloc (.cells (mcs Mg.z none none none none 0 0 0 0) 35)).setRow w1.heap.size (mcs { Mg.z with k:=9 } none none none none 0 0 0 0)) (w.heap.size+1) (mcs Mg.z none none none none 0 0 0 0) 35):=(HY0.out.keep (zab _ _)).other hne1
 have HP2:Hid (Bx ((w1.alloc (.cells (mcs Mg.z none none none none 0 0 0 0) 35)).setRow w1.heap.size (mcs { Mg.z with k:=9 } none none none none 0 0 0 0)) w1.heap.size (mcs { Mg.z with k:=9 } none none none none 0 0 0 0) 35):=Bx.set (Bx.new _ _ _)
 have HB2:Hid (Below w.heap.size w ((w1.alloc (.cells (mcs Mg.z none none none none 0 0 0 0) 35)).setRow w1.heap.size (mcs { Mg.z with k:=9 } none none none none 0 0 0 0))):=zad (bt HB0.out (zab _ _)) (by omega)
 have HST1:Hid ((Instr.storeAt 35 (.pointer (some ⟨w1.heap.size,0,none⟩)) (.agg (mcs { Mg.z with k:=9 } none none none none 0 0 0 0))).run Tryz.prog (w1.alloc (.cells (mcs Mg.z none none none none 0 0 0 0) 35))=.ok () ((w1.alloc (.cells (mcs Mg.z none none none none 0 0 0 0) 35)).setRow w1.heap.size (mcs { Mg.z with k:=9 } none none none none 0 0 0 0))):=zbo (T:=35) (n:=36) (w1.alloc (.cells (mcs Mg.z none none none none 0 0 0 0) 35)) w1.heap.size (mcs Mg.z none none none none 0 0 0 0) (mcs { Mg.z with k:=9 } none none none none 0 0 0 0) zb2 (Bx.new _ _ _) rfl rfl (zaj _ _ _ _ _ _ _ _ _)
 have HLE:Hid (w.heap.size≤w1.heap.size):=by unfold Hid;omega
 generalize ((w1.alloc (.cells (mcs Mg.z none none none none 0 0 0 0) 35)).setRow w1.heap.size (mcs { Mg.z with k:=9 } none none none none 0 0 0 0))=w2 at *
 clear HX0 HY0 HB0 hsz0
 go_upto_region 2 with (first | (guard_target =~ wpList _ _ _ (⟨_,Op.build 35 _,_,_,_,_⟩::_) _ _;refine za5 _ rfl 35 _ _ rfl _ rfl _ (HBu.out _) ?_;go_simp) | (guard_target =~ wpList _ _ _ (⟨_,Op.store 35 _ _,_,_,_,_⟩::_) _ _;refine zaf _ _ rfl 35 _ _ rfl _ _ rfl rfl HST1.out ?_;go_simp))
 clear HST1 HBu c0 hlt
 generalize w1.heap.size=pp at *
 have c0:w2.cell? ⟨w.heap.size,0,none⟩=some (.int .i64 9):=by have:=HX2.out.cell 0;rw [show (mcs m pa ia ca ba pc ic cc bc)[0]? = some (.int .i64 m.k) from rfl,hk] at this;exact this
 have c1:w2.cell? ⟨w.heap.size,1,none⟩=some (.int .i64 m.mem):=HX2.out.cell 1
 have d1:w2.cell? ⟨pp,1,none⟩=some (.int .i64 0):=HP2.out.cell 1
 have f1:w2.frozen? ⟨pp,1,none⟩=false:=HP2.out.froz 1
 obtain ⟨w3,hw⟩:∃v,v=(w2.setCell ⟨pp,1,none⟩ (.int .i64 m.mem)):=⟨_,rfl⟩
 have HX3:Hid (Bx w3 w.heap.size (mcs m pa ia ca ba pc ic cc bc) 35):=by unfold Hid;rw [hw];exact (HX2.out.cellOther (k:=1) hne _)
 have HY3:Hid (Bx w3 (w.heap.size+1) (mcs Mg.z none none none none 0 0 0 0) 35):=by unfold Hid;rw [hw];exact (HY2.out.cellOther (k:=1) hne1 _)
 have HP3:Hid (Bx w3 pp (mcs { Mg.z with k:=9,mem:=m.mem } none none none none 0 0 0 0) 35):=by
  unfold Hid
  rw [hw]
  have h:=HP2.out.cellSet (k:=1) (.int .i64 m.mem)
  have e:(mcs { Mg.z with k:=9 } none none none none 0 0 0 0).setIfInBounds 1 (.int .i64 m.mem)=(mcs { Mg.z with k:=9,mem:=m.mem } none none none none 0 0 0 0):=by kernel_rfl
  rw [e] at h
  exact h
 have HB3:Hid (Below w.heap.size w w3):=by unfold Hid;rw [hw];exact HB2.out.trans (((Bt.refl pp _).trans (Bt.set pp _ 1 (.int .i64 m.mem))).below HLE.out HB2.out.size)
 clear HX2 HY2 HP2 HB2
 go_upto_region 4 with fail
 rw [← hw]
 clear hw c0 c1 d1 f1
 have c0:w3.cell? ⟨w.heap.size,0,none⟩=some (.int .i64 9):=by have:=HX3.out.cell 0;rw [show (mcs m pa ia ca ba pc ic cc bc)[0]? = some (.int .i64 m.k) from rfl,hk] at this;exact this
 have c21:w3.cell? ⟨w.heap.size,21,none⟩=some (.int .i64 m.n):=HX3.out.cell 21
 have d21:w3.cell? ⟨pp,21,none⟩=some (.int .i64 0):=HP3.out.cell 21
 have f21:w3.frozen? ⟨pp,21,none⟩=false:=HP3.out.froz 21
 obtain ⟨w4,hw⟩:∃v,v=(w3.setCell ⟨pp,21,none⟩ (.int .i64 m.n)):=⟨_,rfl⟩
 have HX4:Hid (Bx w4 w.heap.size (mcs m pa ia ca ba pc ic cc bc) 35):=by unfold Hid;rw [hw];exact (HX3.out.cellOther (k:=21) hne _)
 have HY4:Hid (Bx w4 (w.heap.size+1) (mcs Mg.z none none none none 0 0 0 0) 35):=by unfold Hid;rw [hw];exact (HY3.out.cellOther (k:=21) hne1 _)
 have HP4:Hid (Bx w4 pp (mcs { Mg.z with k:=9,mem:=m.mem,n:=m.n } none none none none 0 0 0 0) 35):=by
  unfold Hid
  rw [hw]
  have h:=HP3.out.cellSet (k:=21) (.int .i64 m.n)
  have e:(mcs { Mg.z with k:=9,mem:=m.mem } none none none none 0 0 0 0).setIfInBounds 21 (.int .i64 m.n)=(mcs { Mg.z with k:=9,mem:=m.mem,n:=m.n } none none none none 0 0 0 0):=by kernel_rfl
  rw [e] at h
  exact h
 have HB4:Hid (Below w.heap.size w w4):=by unfold Hid;rw [hw];exact HB3.out.trans (((Bt.refl pp _).trans (Bt.set pp _ 21 (.int .i64 m.n))).below HLE.out HB3.out.size)
 clear HX3 HY3 HP3 HB3
 go_upto_region 18 with fail
 rw [← hw]
 clear hw c0 c21 d21 f21
 have c0:w4.cell? ⟨w.heap.size,0,none⟩=some (.int .i64 9):=by have:=HX4.out.cell 0;rw [show (mcs m pa ia ca ba pc ic cc bc)[0]? = some (.int .i64 m.k) from rfl,hk] at this;exact this
 have HLD:Hid ((Instr.loadAt 35 (.pointer (some ⟨pp,0,none⟩))).run Tryz.prog w4=.ok (.agg (mcs { Mg.z with k:=9,mem:=m.mem,n:=m.n } none none none none 0 0 0 0)) w4):=zam w4 pp _ rfl HP4.out
 have HST:Hid ((Instr.storeAt 35 (.pointer (some ⟨w.heap.size+1,0,none⟩)) (.agg (mcs { Mg.z with k:=9,mem:=m.mem,n:=m.n } none none none none 0 0 0 0))).run Tryz.prog w4=.ok () (w4.setRow (w.heap.size+1) (mcs { Mg.z with k:=9,mem:=m.mem,n:=m.n } none none none none 0 0 0 0))):=zaw w4 (w.heap.size+1) _ _ HY4.out rfl rfl (zaj _ _ _ _ _ _ _ _ _)
 have hld:=zbb (w4.setRow (w.heap.size+1) (mcs { Mg.z with k:=9,mem:=m.mem,n:=m.n } none none none none 0 0 0 0)) (w.heap.size+1) (mcs { Mg.z with k:=9,mem:=m.mem,n:=m.n } none none none none 0 0 0 0) rfl HY4.out.set
 have HBz:Hid (Below w.heap.size w (w4.setRow (w.heap.size+1) (mcs { Mg.z with k:=9,mem:=m.mem,n:=m.n } none none none none 0 0 0 0))):=zad HB4.out (by omega)
 clear HX4 HY4 HP4 HB4
 generalize (mcs { Mg.z with k:=9,mem:=m.mem,n:=m.n } none none none none 0 0 0 0)=PP at *
 go_wp2_with (first | (guard_target =~ wpList _ _ _ (⟨_,Op.load 35 _,_,_,_,_⟩::_) _ _;refine zag _ rfl 35 _ rfl _ rfl _ HLD.out ?_;go_simp) | (guard_target =~ wpList _ _ _ (⟨_,Op.store 35 _ _,_,_,_,_⟩::_) _ _;refine zaf _ _ rfl 35 _ _ rfl _ _ rfl rfl HST.out ?_;go_simp))
 refine bodyPost_ret (zaz _ _ 2 35 _ _ _ rfl rfl hld) rfl ?_
 exact ⟨rfl,HBz⟩
theorem zpk (m:Mg) (pa ia ca ba:Option Addr) (pc ic cc bc:Nat) (hk:m.k=10) (w:World):Calls Tryz.prog 24 #[.agg (mcs m pa ia ca ba pc ic cc bc)] w (KP (.agg (mcs { Mg.z with k:=10,mem:=m.mem,day:=m.day,tr:=m.tr } none none none none 0 0 0 0)) w):=by
 have HX0:Hid (Bx ((w.alloc (.cells (mcs m pa ia ca ba pc ic cc bc) 35)).alloc (.cells (mcs Mg.z none none none none 0 0 0 0) 35)) w.heap.size (mcs m pa ia ca ba pc ic cc bc) 35):=(Bx.new w _ _).keep (zab _ _)
 have HY0:Hid (Bx ((w.alloc (.cells (mcs m pa ia ca ba pc ic cc bc) 35)).alloc (.cells (mcs Mg.z none none none none 0 0 0 0) 35)) (w.heap.size+1) (mcs Mg.z none none none none 0 0 0 0) 35):=by have:=Bx.new (w.alloc (.cells (mcs m pa ia ca ba pc ic cc bc) 35)) (mcs Mg.z none none none none 0 0 0 0) 35;rwa [zan] at this
 have HB0:Hid (Below w.heap.size w ((w.alloc (.cells (mcs m pa ia ca ba pc ic cc bc) 35)).alloc (.cells (mcs Mg.z none none none none 0 0 0 0) 35))):=bt (zab w _) (zab _ _)
 have hsz0:w.heap.size+2≤((w.alloc (.cells (mcs m pa ia ca ba pc ic cc bc) 35)).alloc (.cells (mcs Mg.z none none none none 0 0 0 0) 35)).heap.size:=by rw [zan,zan];omega
 have HBu:Hid (∀W,(Instr.build 35 #[(0,.int .i64 10)]).run Tryz.prog W=.ok (.agg (mcs { Mg.z with k:=10 } none none none none 0 0 0 0)) W):=fun W=>zbx _ W
 go_enter Tryz.func24,Tryz.ntmps24
 go_upto_region 1 with fail
 show Code.wp _ _ _ _ ((w.alloc (.cells (mcs m pa ia ca ba pc ic cc bc) 35)).alloc (.cells (mcs Mg.z none none none none 0 0 0 0) 35))
 generalize ((w.alloc (.cells (mcs m pa ia ca ba pc ic cc bc) 35)).alloc (.cells (mcs Mg.z none none none none 0 0 0 0) 35))=w1 at *
 have hlt:w.heap.size<w1.heap.size:=by omega
 have c0:w1.cell? ⟨w.heap.size,0,none⟩=some (.int .i64 10):=by have:=HX0.out.cell 0;rw [show (mcs m pa ia ca ba pc ic cc bc)[0]? = some (.int .i64 m.k) from rfl,hk] at this;exact this
 have hne:w.heap.size≠w1.heap.size:=by omega
 have hne1:w.heap.size+1≠w1.heap.size:=by omega
 have HX2:Hid (Bx ((w1.alloc (.cells (mcs Mg.z none none none none 0 0 0 0) 35)).setRow w1.heap.size (mcs { Mg.z with k:=10 } none none none none 0 0 0 0)) w.heap.size (mcs m pa ia ca ba pc ic cc bc) 35):=(HX0.out.keep (zab _ _)).other hne
 have HY2:Hid (Bx ((w1.alloc (.cells (mcs Mg.z none none none none 0 0 0 0) 35)).setRow w1.heap.size (mcs { Mg.z with k:=10 } none none none none 0 0 0 0)) (w.heap.size+1) (mcs Mg.z none none none none 0 0 0 0) 35):=(HY0.out.keep (zab _ _)).other hne1
 have HP2:Hid (Bx ((w1.alloc (.cells (mcs Mg.z none none none none 0 0 0 0) 35)).setRow w1.heap.size (mcs { Mg.z with k:=10 } none none none none 0 0 0 0)) w1.heap.size (mcs { Mg.z with k:=10 } none none none none 0 0 0 0) 35):=Bx.set (Bx.new _ _ _)
 have HB2:Hid (Below w.heap.size w ((w1.alloc (.cells (mcs Mg.z none none none none 0 0 0 0) 35)).setRow w1.heap.size (mcs { Mg.z with k:=10 } none none none none 0 0 0 0))):=zad (bt HB0.out (zab _ _)) (by omega)
 have HST1:Hid ((Instr.storeAt 35 (.pointer (some ⟨w1.heap.size,0,none⟩)) (.agg (mcs { Mg.z with k:=10 } none none none none 0 0 0 0))).run Tryz.prog (w1.alloc (.cells (mcs Mg.z none none none none 0 0 0 0) 35))=.ok () ((w1.alloc (.cells (mcs Mg.z none none none none 0 0 0 0) 35)).setRow w1.heap.size (mcs { Mg.z with k:=10 } none none none none 0 0 0 0))):=zbo (T:=35) (n:=36) (w1.alloc (.cells (mcs Mg.z none none none none 0 0 0 0) 35)) w1.heap.size (mcs Mg.z none none none none 0 0 0 0) (mcs { Mg.z with k:=10 } none none none none 0 0 0 0) zb2 (Bx.new _ _ _) rfl rfl (zaj _ _ _ _ _ _ _ _ _)
 have HLE:Hid (w.heap.size≤w1.heap.size):=by unfold Hid;omega
 generalize ((w1.alloc (.cells (mcs Mg.z none none none none 0 0 0 0) 35)).setRow w1.heap.size (mcs { Mg.z with k:=10 } none none none none 0 0 0 0))=w2 at *
 clear HX0 HY0 HB0 hsz0
 go_upto_region 2 with (first | (guard_target =~ wpList _ _ _ (⟨_,Op.build 35 _,_,_,_,_⟩::_) _ _;refine za5 _ rfl 35 _ _ rfl _ rfl _ (HBu.out _) ?_;go_simp) | (guard_target =~ wpList _ _ _ (⟨_,Op.store 35 _ _,_,_,_,_⟩::_) _ _;refine zaf _ _ rfl 35 _ _ rfl _ _ rfl rfl HST1.out ?_;go_simp))
 clear HST1 HBu c0 hlt
 generalize w1.heap.size=pp at *
 have c0:w2.cell? ⟨w.heap.size,0,none⟩=some (.int .i64 10):=by have:=HX2.out.cell 0;rw [show (mcs m pa ia ca ba pc ic cc bc)[0]? = some (.int .i64 m.k) from rfl,hk] at this;exact this
 have c1:w2.cell? ⟨w.heap.size,1,none⟩=some (.int .i64 m.mem):=HX2.out.cell 1
 have d1:w2.cell? ⟨pp,1,none⟩=some (.int .i64 0):=HP2.out.cell 1
 have f1:w2.frozen? ⟨pp,1,none⟩=false:=HP2.out.froz 1
 obtain ⟨w3,hw⟩:∃v,v=(w2.setCell ⟨pp,1,none⟩ (.int .i64 m.mem)):=⟨_,rfl⟩
 have HX3:Hid (Bx w3 w.heap.size (mcs m pa ia ca ba pc ic cc bc) 35):=by unfold Hid;rw [hw];exact (HX2.out.cellOther (k:=1) hne _)
 have HY3:Hid (Bx w3 (w.heap.size+1) (mcs Mg.z none none none none 0 0 0 0) 35):=by unfold Hid;rw [hw];exact (HY2.out.cellOther (k:=1) hne1 _)
 have HP3:Hid (Bx w3 pp (mcs { Mg.z with k:=10,mem:=m.mem } none none none none 0 0 0 0) 35):=by
  unfold Hid
  rw [hw]
  have h:=HP2.out.cellSet (k:=1) (.int .i64 m.mem)
  have e:(mcs { Mg.z with k:=10 } none none none none 0 0 0 0).setIfInBounds 1 (.int .i64 m.mem)=(mcs { Mg.z with k:=10,mem:=m.mem } none none none none 0 0 0 0):=by kernel_rfl
  rw [e] at h
  exact h
 have HB3:Hid (Below w.heap.size w w3):=by unfold Hid;rw [hw];exact HB2.out.trans (((Bt.refl pp _).trans (Bt.set pp _ 1 (.int .i64 m.mem))).below HLE.out HB2.out.size)
 clear HX2 HY2 HP2 HB2
 go_upto_region 4 with fail
 rw [← hw]
 clear hw c0 c1 d1 f1
 have c0:w3.cell? ⟨w.heap.size,0,none⟩=some (.int .i64 10):=by have:=HX3.out.cell 0;rw [show (mcs m pa ia ca ba pc ic cc bc)[0]? = some (.int .i64 m.k) from rfl,hk] at this;exact this
 have c19:w3.cell? ⟨w.heap.size,19,none⟩=some (.int .i64 m.day):=HX3.out.cell 19
 have d19:w3.cell? ⟨pp,19,none⟩=some (.int .i64 0):=HP3.out.cell 19
 have f19:w3.frozen? ⟨pp,19,none⟩=false:=HP3.out.froz 19
 obtain ⟨w4,hw⟩:∃v,v=(w3.setCell ⟨pp,19,none⟩ (.int .i64 m.day)):=⟨_,rfl⟩
 have HX4:Hid (Bx w4 w.heap.size (mcs m pa ia ca ba pc ic cc bc) 35):=by unfold Hid;rw [hw];exact (HX3.out.cellOther (k:=19) hne _)
 have HY4:Hid (Bx w4 (w.heap.size+1) (mcs Mg.z none none none none 0 0 0 0) 35):=by unfold Hid;rw [hw];exact (HY3.out.cellOther (k:=19) hne1 _)
 have HP4:Hid (Bx w4 pp (mcs { Mg.z with k:=10,mem:=m.mem,day:=m.day } none none none none 0 0 0 0) 35):=by
  unfold Hid
  rw [hw]
  have h:=HP3.out.cellSet (k:=19) (.int .i64 m.day)
  have e:(mcs { Mg.z with k:=10,mem:=m.mem } none none none none 0 0 0 0).setIfInBounds 19 (.int .i64 m.day)=(mcs { Mg.z with k:=10,mem:=m.mem,day:=m.day } none none none none 0 0 0 0):=by kernel_rfl
  rw [e] at h
  exact h
 have HB4:Hid (Below w.heap.size w w4):=by unfold Hid;rw [hw];exact HB3.out.trans (((Bt.refl pp _).trans (Bt.set pp _ 19 (.int .i64 m.day))).below HLE.out HB3.out.size)
 clear HX3 HY3 HP3 HB3
 go_upto_region 14 with fail
 rw [← hw]
 clear hw c0 c19 d19 f19
 have c0:w4.cell? ⟨w.heap.size,0,none⟩=some (.int .i64 10):=by have:=HX4.out.cell 0;rw [show (mcs m pa ia ca ba pc ic cc bc)[0]? = some (.int .i64 m.k) from rfl,hk] at this;exact this
 have c33:w4.cell? ⟨w.heap.size,33,none⟩=some (.int .i64 m.tr):=HX4.out.cell 33
 have d33:w4.cell? ⟨pp,33,none⟩=some (.int .i64 0):=HP4.out.cell 33
 have f33:w4.frozen? ⟨pp,33,none⟩=false:=HP4.out.froz 33
 obtain ⟨w5,hw⟩:∃v,v=(w4.setCell ⟨pp,33,none⟩ (.int .i64 m.tr)):=⟨_,rfl⟩
 have HX5:Hid (Bx w5 w.heap.size (mcs m pa ia ca ba pc ic cc bc) 35):=by unfold Hid;rw [hw];exact (HX4.out.cellOther (k:=33) hne _)
 have HY5:Hid (Bx w5 (w.heap.size+1) (mcs Mg.z none none none none 0 0 0 0) 35):=by unfold Hid;rw [hw];exact (HY4.out.cellOther (k:=33) hne1 _)
 have HP5:Hid (Bx w5 pp (mcs { Mg.z with k:=10,mem:=m.mem,day:=m.day,tr:=m.tr } none none none none 0 0 0 0) 35):=by
  unfold Hid
  rw [hw]
  have h:=HP4.out.cellSet (k:=33) (.int .i64 m.tr)
  have e:(mcs { Mg.z with k:=10,mem:=m.mem,day:=m.day } none none none none 0 0 0 0).setIfInBounds 33 (.int .i64 m.tr)=(mcs { Mg.z with k:=10,mem:=m.mem,day:=m.day,tr:=m.tr } none none none none 0 0 0 0):=by kernel_rfl
  rw [e] at h
  exact h
 have HB5:Hid (Below w.heap.size w w5):=by unfold Hid;rw [hw];exact HB4.out.trans (((Bt.refl pp _).trans (Bt.set pp _ 33 (.int .i64 m.tr))).below HLE.out HB4.out.size)
 clear HX4 HY4 HP4 HB4
 go_upto_region 22 with fail
 rw [← hw]
 clear hw c0 c33 d33 f33
 have c0:w5.cell? ⟨w.heap.size,0,none⟩=some (.int .i64 10):=by have:=HX5.out.cell 0;rw [show (mcs m pa ia ca ba pc ic cc bc)[0]? = some (.int .i64 m.k) from rfl,hk] at this;exact this
 have HLD:Hid ((Instr.loadAt 35 (.pointer (some ⟨pp,0,none⟩))).run Tryz.prog w5=.ok (.agg (mcs { Mg.z with k:=10,mem:=m.mem,day:=m.day,tr:=m.tr } none none none none 0 0 0 0)) w5):=zam w5 pp _ rfl HP5.out
 have HST:Hid ((Instr.storeAt 35 (.pointer (some ⟨w.heap.size+1,0,none⟩)) (.agg (mcs { Mg.z with k:=10,mem:=m.mem,day:=m.day,tr:=m.tr } none none none none 0 0 0 0))).run Tryz.prog w5=.ok () (w5.setRow (w.heap.size+1) (mcs { Mg.z with k:=10,mem:=m.mem,day:=m.day,tr:=m.tr } none none none none 0 0 0 0))):=zaw w5 (w.heap.size+1) _ _ HY5.out rfl rfl (zaj _ _ _ _ _ _ _ _ _)
 have hld:=zbb (w5.setRow (w.heap.size+1) (mcs { Mg.z with k:=10,mem:=m.mem,day:=m.day,tr:=m.tr } none none none none 0 0 0 0)) (w.heap.size+1) (mcs { Mg.z with k:=10,mem:=m.mem,day:=m.day,tr:=m.tr } none none none none 0 0 0 0) rfl HY5.out.set
 have HBz:Hid (Below w.heap.size w (w5.setRow (w.heap.size+1) (mcs { Mg.z with k:=10,mem:=m.mem,day:=m.day,tr:=m.tr } none none none none 0 0 0 0))):=zad HB5.out (by omega)
 clear HX5 HY5 HP5 HB5
 generalize (mcs { Mg.z with k:=10,mem:=m.mem,day:=m.day,tr:=m.tr } none none none none 0 0 0 0)=PP at *
 go_wp2_with (first | (guard_target =~ wpList _ _ _ (⟨_,Op.load 35 _,_,_,_,_⟩::_) _ _;refine zag _ rfl 35 _ rfl _ rfl _ HLD.out ?_;go_simp) | (guard_target =~ wpList _ _ _ (⟨_,Op.store 35 _ _,_,_,_,_⟩::_) _ _;refine zaf _ _ rfl 35 _ _ rfl _ _ rfl rfl HST.out ?_;go_simp))
 refine bodyPost_ret (zaz _ _ 2 35 _ _ _ rfl rfl hld) rfl ?_
 exact ⟨rfl,HBz⟩
theorem zpl (m:Mg) (pa ia ca ba:Option Addr) (pc ic cc bc:Nat) (hk:m.k=11) (w:World):Calls Tryz.prog 24 #[.agg (mcs m pa ia ca ba pc ic cc bc)] w (KP (.agg (mcs { Mg.z with k:=11,mem:=m.mem,tr:=m.tr,out:=m.out,ins:=m.ins } none ia none none 0 ic 0 0)) w):=by
 have HX0:Hid (Bx ((w.alloc (.cells (mcs m pa ia ca ba pc ic cc bc) 35)).alloc (.cells (mcs Mg.z none none none none 0 0 0 0) 35)) w.heap.size (mcs m pa ia ca ba pc ic cc bc) 35):=(Bx.new w _ _).keep (zab _ _)
 have HY0:Hid (Bx ((w.alloc (.cells (mcs m pa ia ca ba pc ic cc bc) 35)).alloc (.cells (mcs Mg.z none none none none 0 0 0 0) 35)) (w.heap.size+1) (mcs Mg.z none none none none 0 0 0 0) 35):=by have:=Bx.new (w.alloc (.cells (mcs m pa ia ca ba pc ic cc bc) 35)) (mcs Mg.z none none none none 0 0 0 0) 35;rwa [zan] at this
 have HB0:Hid (Below w.heap.size w ((w.alloc (.cells (mcs m pa ia ca ba pc ic cc bc) 35)).alloc (.cells (mcs Mg.z none none none none 0 0 0 0) 35))):=bt (zab w _) (zab _ _)
 have hsz0:w.heap.size+2≤((w.alloc (.cells (mcs m pa ia ca ba pc ic cc bc) 35)).alloc (.cells (mcs Mg.z none none none none 0 0 0 0) 35)).heap.size:=by rw [zan,zan];omega
 have HBu:Hid (∀W,(Instr.build 35 #[(0,.int .i64 11)]).run Tryz.prog W=.ok (.agg (mcs { Mg.z with k:=11 } none none none none 0 0 0 0)) W):=fun W=>zbx _ W
 go_enter Tryz.func24,Tryz.ntmps24
 go_upto_region 1 with fail
 show Code.wp _ _ _ _ ((w.alloc (.cells (mcs m pa ia ca ba pc ic cc bc) 35)).alloc (.cells (mcs Mg.z none none none none 0 0 0 0) 35))
 generalize ((w.alloc (.cells (mcs m pa ia ca ba pc ic cc bc) 35)).alloc (.cells (mcs Mg.z none none none none 0 0 0 0) 35))=w1 at *
 have hlt:w.heap.size<w1.heap.size:=by omega
 have c0:w1.cell? ⟨w.heap.size,0,none⟩=some (.int .i64 11):=by have:=HX0.out.cell 0;rw [show (mcs m pa ia ca ba pc ic cc bc)[0]? = some (.int .i64 m.k) from rfl,hk] at this;exact this
 have hne:w.heap.size≠w1.heap.size:=by omega
 have hne1:w.heap.size+1≠w1.heap.size:=by omega
 have HX2:Hid (Bx ((w1.alloc (.cells (mcs Mg.z none none none none 0 0 0 0) 35)).setRow w1.heap.size (mcs { Mg.z with k:=11 } none none none none 0 0 0 0)) w.heap.size (mcs m pa ia ca ba pc ic cc bc) 35):=(HX0.out.keep (zab _ _)).other hne
 have HY2:Hid (Bx ((w1.alloc (.cells (mcs Mg.z none none none none 0 0 0 0) 35)).setRow w1.heap.size (mcs { Mg.z with k:=11 } none none none none 0 0 0 0)) (w.heap.size+1) (mcs Mg.z none none none none 0 0 0 0) 35):=(HY0.out.keep (zab _ _)).other hne1
 have HP2:Hid (Bx ((w1.alloc (.cells (mcs Mg.z none none none none 0 0 0 0) 35)).setRow w1.heap.size (mcs { Mg.z with k:=11 } none none none none 0 0 0 0)) w1.heap.size (mcs { Mg.z with k:=11 } none none none none 0 0 0 0) 35):=Bx.set (Bx.new _ _ _)
 have HB2:Hid (Below w.heap.size w ((w1.alloc (.cells (mcs Mg.z none none none none 0 0 0 0) 35)).setRow w1.heap.size (mcs { Mg.z with k:=11 } none none none none 0 0 0 0))):=zad (bt HB0.out (zab _ _)) (by omega)
 have HST1:Hid ((Instr.storeAt 35 (.pointer (some ⟨w1.heap.size,0,none⟩)) (.agg (mcs { Mg.z with k:=11 } none none none none 0 0 0 0))).run Tryz.prog (w1.alloc (.cells (mcs Mg.z none none none none 0 0 0 0) 35))=.ok () ((w1.alloc (.cells (mcs Mg.z none none none none 0 0 0 0) 35)).setRow w1.heap.size (mcs { Mg.z with k:=11 } none none none none 0 0 0 0))):=zbo (T:=35) (n:=36) (w1.alloc (.cells (mcs Mg.z none none none none 0 0 0 0) 35)) w1.heap.size (mcs Mg.z none none none none 0 0 0 0) (mcs { Mg.z with k:=11 } none none none none 0 0 0 0) zb2 (Bx.new _ _ _) rfl rfl (zaj _ _ _ _ _ _ _ _ _)
 have HLE:Hid (w.heap.size≤w1.heap.size):=by unfold Hid;omega
 generalize ((w1.alloc (.cells (mcs Mg.z none none none none 0 0 0 0) 35)).setRow w1.heap.size (mcs { Mg.z with k:=11 } none none none none 0 0 0 0))=w2 at *
 clear HX0 HY0 HB0 hsz0
 go_upto_region 2 with (first | (guard_target =~ wpList _ _ _ (⟨_,Op.build 35 _,_,_,_,_⟩::_) _ _;refine za5 _ rfl 35 _ _ rfl _ rfl _ (HBu.out _) ?_;go_simp) | (guard_target =~ wpList _ _ _ (⟨_,Op.store 35 _ _,_,_,_,_⟩::_) _ _;refine zaf _ _ rfl 35 _ _ rfl _ _ rfl rfl HST1.out ?_;go_simp))
 clear HST1 HBu c0 hlt
 generalize w1.heap.size=pp at *
 have c0:w2.cell? ⟨w.heap.size,0,none⟩=some (.int .i64 11):=by have:=HX2.out.cell 0;rw [show (mcs m pa ia ca ba pc ic cc bc)[0]? = some (.int .i64 m.k) from rfl,hk] at this;exact this
 have c1:w2.cell? ⟨w.heap.size,1,none⟩=some (.int .i64 m.mem):=HX2.out.cell 1
 have d1:w2.cell? ⟨pp,1,none⟩=some (.int .i64 0):=HP2.out.cell 1
 have f1:w2.frozen? ⟨pp,1,none⟩=false:=HP2.out.froz 1
 obtain ⟨w3,hw⟩:∃v,v=(w2.setCell ⟨pp,1,none⟩ (.int .i64 m.mem)):=⟨_,rfl⟩
 have HX3:Hid (Bx w3 w.heap.size (mcs m pa ia ca ba pc ic cc bc) 35):=by unfold Hid;rw [hw];exact (HX2.out.cellOther (k:=1) hne _)
 have HY3:Hid (Bx w3 (w.heap.size+1) (mcs Mg.z none none none none 0 0 0 0) 35):=by unfold Hid;rw [hw];exact (HY2.out.cellOther (k:=1) hne1 _)
 have HP3:Hid (Bx w3 pp (mcs { Mg.z with k:=11,mem:=m.mem } none none none none 0 0 0 0) 35):=by
  unfold Hid
  rw [hw]
  have h:=HP2.out.cellSet (k:=1) (.int .i64 m.mem)
  have e:(mcs { Mg.z with k:=11 } none none none none 0 0 0 0).setIfInBounds 1 (.int .i64 m.mem)=(mcs { Mg.z with k:=11,mem:=m.mem } none none none none 0 0 0 0):=by kernel_rfl
  rw [e] at h
  exact h
 have HB3:Hid (Below w.heap.size w w3):=by unfold Hid;rw [hw];exact HB2.out.trans (((Bt.refl pp _).trans (Bt.set pp _ 1 (.int .i64 m.mem))).below HLE.out HB2.out.size)
 clear HX2 HY2 HP2 HB2
 go_upto_region 4 with fail
 rw [← hw]
 clear hw c0 c1 d1 f1
 have c0:w3.cell? ⟨w.heap.size,0,none⟩=some (.int .i64 11):=by have:=HX3.out.cell 0;rw [show (mcs m pa ia ca ba pc ic cc bc)[0]? = some (.int .i64 m.k) from rfl,hk] at this;exact this
 have c33:w3.cell? ⟨w.heap.size,33,none⟩=some (.int .i64 m.tr):=HX3.out.cell 33
 have d33:w3.cell? ⟨pp,33,none⟩=some (.int .i64 0):=HP3.out.cell 33
 have f33:w3.frozen? ⟨pp,33,none⟩=false:=HP3.out.froz 33
 obtain ⟨w4,hw⟩:∃v,v=(w3.setCell ⟨pp,33,none⟩ (.int .i64 m.tr)):=⟨_,rfl⟩
 have HX4:Hid (Bx w4 w.heap.size (mcs m pa ia ca ba pc ic cc bc) 35):=by unfold Hid;rw [hw];exact (HX3.out.cellOther (k:=33) hne _)
 have HY4:Hid (Bx w4 (w.heap.size+1) (mcs Mg.z none none none none 0 0 0 0) 35):=by unfold Hid;rw [hw];exact (HY3.out.cellOther (k:=33) hne1 _)
 have HP4:Hid (Bx w4 pp (mcs { Mg.z with k:=11,mem:=m.mem,tr:=m.tr } none none none none 0 0 0 0) 35):=by
  unfold Hid
  rw [hw]
  have h:=HP3.out.cellSet (k:=33) (.int .i64 m.tr)
  have e:(mcs { Mg.z with k:=11,mem:=m.mem } none none none none 0 0 0 0).setIfInBounds 33 (.int .i64 m.tr)=(mcs { Mg.z with k:=11,mem:=m.mem,tr:=m.tr } none none none none 0 0 0 0):=by kernel_rfl
  rw [e] at h
  exact h
 have HB4:Hid (Below w.heap.size w w4):=by unfold Hid;rw [hw];exact HB3.out.trans (((Bt.refl pp _).trans (Bt.set pp _ 33 (.int .i64 m.tr))).below HLE.out HB3.out.size)
 clear HX3 HY3 HP3 HB3
 go_upto_region 22 with fail
 rw [← hw]
 clear hw c0 c33 d33 f33
 have c0:w4.cell? ⟨w.heap.size,0,none⟩=some (.int .i64 11):=by have:=HX4.out.cell 0;rw [show (mcs m pa ia ca ba pc ic cc bc)[0]? = some (.int .i64 m.k) from rfl,hk] at this;exact this
 have HLm:Hid (∀W,Bx W w.heap.size (mcs m pa ia ca ba pc ic cc bc) 35→(Instr.loadAt 32 (.pointer (some ⟨w.heap.size,30,none⟩))).run Tryz.prog W=.ok (.agg #[.string ⟨m.out.i.toArray⟩,.int .i64 m.out.q]) W):=fun W h=>zpj W _ _ _ (h.cell 30) (h.cell 31)
 have HSm:Hid ((Instr.storeAt 32 (.pointer (some ⟨pp,30,none⟩)) (.agg #[.string ⟨m.out.i.toArray⟩,.int .i64 m.out.q])).run Tryz.prog w4=.ok () (w4.setCells pp 30 [.string ⟨m.out.i.toArray⟩,.int .i64 m.out.q])):=run_storeAt_mid w4 pp 30 32 #[.string ⟨m.out.i.toArray⟩,.int .i64 m.out.q] (HP4.out.there (by show 30+2≤(mcs _ _ _ _ _ _ _ _ _).size;rw [zac];omega)) zd9 (by simp [Value.oneCell'])
 clear HSm
 go_wp2_with fail
 refine wp_region_held (S:=fun W=>Bx W w.heap.size (mcs m pa ia ca ba pc ic cc bc) 35) (by kernel_rfl) ?_
 change wpAnyH _ _ _ _ _ 8 #[false,false,false,false,false,false,false,false] _ w4.drew
 have hX0:Bx w4.drew w.heap.size (mcs m pa ia ca ba pc ic cc bc) 35:=HX4.out
 have hY0:Bx w4.drew (w.heap.size+1) (mcs Mg.z none none none none 0 0 0 0) 35:=HY4.out
 have hP0:Bx w4.drew pp (mcs { Mg.z with k:=11,mem:=m.mem,tr:=m.tr } none none none none 0 0 0 0) 35:=HP4.out
 have hB0:Below w.heap.size w w4.drew:=zef HB4.out 1
 clear HX4 HY4 HP4 HB4 c0
 obtain ⟨v0,hv0⟩:∃v,v=w4.drew:=⟨_,rfl⟩
 rw [← hv0] at hX0 hY0 hP0 hB0 ⊢
 clear hv0
 have HSm:Hid ((Instr.storeAt 32 (.pointer (some ⟨pp,30,none⟩)) (.agg #[.string ⟨m.out.i.toArray⟩,.int .i64 m.out.q])).run Tryz.prog v0=.ok () (v0.setCells pp 30 [.string ⟨m.out.i.toArray⟩,.int .i64 m.out.q])):=run_storeAt_mid v0 pp 30 32 #[.string ⟨m.out.i.toArray⟩,.int .i64 m.out.q] (hP0.there (by show 30+2≤(mcs _ _ _ _ _ _ _ _ _).size;rw [zac];omega)) zd9 (by simp [Value.oneCell'])
 have HXm:Hid (Bx (v0.setCells pp 30 [.string ⟨m.out.i.toArray⟩,.int .i64 m.out.q]) w.heap.size (mcs m pa ia ca ba pc ic cc bc) 35):=Bx.cellsOther hne _ _ _ hX0
 have HPm:Hid (Bx (v0.setCells pp 30 [.string ⟨m.out.i.toArray⟩,.int .i64 m.out.q]) pp (zmz (mcs { Mg.z with k:=11,mem:=m.mem,tr:=m.tr } none none none none 0 0 0 0) 30 [.string ⟨m.out.i.toArray⟩,.int .i64 m.out.q]) 35):=Bx.cellsSet [.string ⟨m.out.i.toArray⟩,.int .i64 m.out.q] 30 v0 _ hP0
 have HX5:Hid (Bx ((v0.setCells pp 30 [.string ⟨m.out.i.toArray⟩,.int .i64 m.out.q]).setCell ⟨pp,32,none⟩ (.slice ia m.ins.length ic)) w.heap.size (mcs m pa ia ca ba pc ic cc bc) 35):=HXm.out.cellOther (k:=32) hne _
 have HY5:Hid (Bx ((v0.setCells pp 30 [.string ⟨m.out.i.toArray⟩,.int .i64 m.out.q]).setCell ⟨pp,32,none⟩ (.slice ia m.ins.length ic)) (w.heap.size+1) (mcs Mg.z none none none none 0 0 0 0) 35):=(Bx.cellsOther hne1 _ _ _ hY0).cellOther (k:=32) hne1 _
 have HP5:Hid (Bx ((v0.setCells pp 30 [.string ⟨m.out.i.toArray⟩,.int .i64 m.out.q]).setCell ⟨pp,32,none⟩ (.slice ia m.ins.length ic)) pp (mcs { Mg.z with k:=11,mem:=m.mem,tr:=m.tr,out:=m.out,ins:=m.ins } none ia none none 0 ic 0 0) 35):=by
  unfold Hid
  have h:=HPm.out.cellSet (k:=32) (.slice ia m.ins.length ic)
  have e:(zmz (mcs { Mg.z with k:=11,mem:=m.mem,tr:=m.tr } none none none none 0 0 0 0) 30 [.string ⟨m.out.i.toArray⟩,.int .i64 m.out.q]).setIfInBounds 32 (.slice ia m.ins.length ic)=(mcs { Mg.z with k:=11,mem:=m.mem,tr:=m.tr,out:=m.out,ins:=m.ins } none ia none none 0 ic 0 0):=by kernel_rfl
  rw [e] at h
  exact h
 have HB5:Hid (Below w.heap.size w ((v0.setCells pp 30 [.string ⟨m.out.i.toArray⟩,.int .i64 m.out.q]).setCell ⟨pp,32,none⟩ (.slice ia m.ins.length ic))):=hB0.trans (((Bt.cells _ _ _).trans (Bt.set pp _ 32 (.slice ia m.ins.length ic))).below HLE.out hB0.size)
 have g32:(v0.setCells pp 30 [.string ⟨m.out.i.toArray⟩,.int .i64 m.out.q]).frozen? ⟨pp,32,none⟩=false:=HPm.out.froz 32
 have e32:(v0.setCells pp 30 [.string ⟨m.out.i.toArray⟩,.int .i64 m.out.q]).cell? ⟨pp,32,none⟩=some (.slice none 0 0):=(HPm.out.cell 32).trans (by kernel_rfl)
 have HS2:Hid ((Instr.storeAt 33 (.pointer (some ⟨pp,32,none⟩)) (.slice ia m.ins.length ic)).run Tryz.prog (v0.setCells pp 30 [.string ⟨m.out.i.toArray⟩,.int .i64 m.out.q])=.ok () ((v0.setCells pp 30 [.string ⟨m.out.i.toArray⟩,.int .i64 m.out.q]).setCell ⟨pp,32,none⟩ (.slice ia m.ins.length ic))):=by
  unfold Hid
  generalize (v0.setCells pp 30 [.string ⟨m.out.i.toArray⟩,.int .i64 m.out.q])=V at *
  go_simp
 clear hY0 hP0 hB0 HPm g32 e32
 refine zae (i:=0) (v:=.pointer (some ⟨w.heap.size,30,none⟩)) rfl (by kernel_rfl) (Or.inl ⟨rfl,fun W hW=>by go_simp⟩) hX0 ?_
 simp only [pu]
 refine zae (i:=1) (v:=.agg #[.string ⟨m.out.i.toArray⟩,.int .i64 m.out.q]) rfl (by kernel_rfl) (Or.inl ⟨rfl,fun W hW=>exl _ _ _ _ rfl _ _ rfl (HLm.out W hW)⟩) hX0 ?_
 simp only [pu]
 refine zae (i:=2) (v:=.pointer (some ⟨w.heap.size,32,none⟩)) rfl (by kernel_rfl) (Or.inl ⟨rfl,fun W hW=>by go_simp⟩) hX0 ?_
 simp only [pu]
 refine zae (i:=3) (v:=.slice ia m.ins.length ic) rfl (by kernel_rfl) (Or.inl ⟨rfl,fun W hW=>by have cj:W.cell? ⟨w.heap.size,32,none⟩=some (.slice ia m.ins.length ic):=Bx.cell hW 32;go_simp⟩) hX0 ?_
 simp only [pu]
 refine zae (i:=4) (v:=.pointer (some ⟨pp,30,none⟩)) rfl (by kernel_rfl) (Or.inl ⟨rfl,fun W hW=>by go_simp⟩) hX0 ?_
 simp only [pu]
 refine zap (i:=5) rfl (by kernel_rfl) (fun K hK=>?_)
 rw [if_pos (by rfl)]
 refine zao _ _ 32 _ _ rfl _ _ rfl rfl HSm.out ?_
 refine hK.out _ _ HXm.out (fun hS2=>?_)
 clear hK
 try simp only [pu]
 refine zae (i:=6) (v:=.pointer (some ⟨pp,32,none⟩)) rfl (by kernel_rfl) (Or.inl ⟨rfl,fun W hW=>by go_simp⟩) hS2 ?_
 simp only [pu]
 refine zap (i:=7) rfl (by kernel_rfl) (fun K hK=>?_)
 rw [if_pos (by rfl)]
 refine zao _ _ 33 _ _ rfl _ _ rfl rfl HS2.out ?_
 refine hK.out _ _ HX5.out (fun hS3=>?_)
 clear hK
 try simp only [pu]
 refine wpAnyH_done (by kernel_rfl) ?_ _
 clear hX0 hS2 hS3 HSm HS2 HXm HLm
 generalize ((v0.setCells pp 30 [.string ⟨m.out.i.toArray⟩,.int .i64 m.out.q]).setCell ⟨pp,32,none⟩ (.slice ia m.ins.length ic))=w5 at *
 have c0:w5.cell? ⟨w.heap.size,0,none⟩=some (.int .i64 11):=by have:=HX5.out.cell 0;rw [show (mcs m pa ia ca ba pc ic cc bc)[0]? = some (.int .i64 m.k) from rfl,hk] at this;exact this
 go_upto_region 24 with fail
 clear c0
 have c0:w5.cell? ⟨w.heap.size,0,none⟩=some (.int .i64 11):=by have:=HX5.out.cell 0;rw [show (mcs m pa ia ca ba pc ic cc bc)[0]? = some (.int .i64 m.k) from rfl,hk] at this;exact this
 have HLD:Hid ((Instr.loadAt 35 (.pointer (some ⟨pp,0,none⟩))).run Tryz.prog w5=.ok (.agg (mcs { Mg.z with k:=11,mem:=m.mem,tr:=m.tr,out:=m.out,ins:=m.ins } none ia none none 0 ic 0 0)) w5):=zam w5 pp _ rfl HP5.out
 have HST:Hid ((Instr.storeAt 35 (.pointer (some ⟨w.heap.size+1,0,none⟩)) (.agg (mcs { Mg.z with k:=11,mem:=m.mem,tr:=m.tr,out:=m.out,ins:=m.ins } none ia none none 0 ic 0 0))).run Tryz.prog w5=.ok () (w5.setRow (w.heap.size+1) (mcs { Mg.z with k:=11,mem:=m.mem,tr:=m.tr,out:=m.out,ins:=m.ins } none ia none none 0 ic 0 0))):=zaw w5 (w.heap.size+1) _ _ HY5.out rfl rfl (zaj _ _ _ _ _ _ _ _ _)
 have hld:=zbb (w5.setRow (w.heap.size+1) (mcs { Mg.z with k:=11,mem:=m.mem,tr:=m.tr,out:=m.out,ins:=m.ins } none ia none none 0 ic 0 0)) (w.heap.size+1) (mcs { Mg.z with k:=11,mem:=m.mem,tr:=m.tr,out:=m.out,ins:=m.ins } none ia none none 0 ic 0 0) rfl HY5.out.set
 have HBz:Hid (Below w.heap.size w (w5.setRow (w.heap.size+1) (mcs { Mg.z with k:=11,mem:=m.mem,tr:=m.tr,out:=m.out,ins:=m.ins } none ia none none 0 ic 0 0))):=zad HB5.out (by omega)
 clear HX5 HY5 HP5 HB5
 generalize (mcs { Mg.z with k:=11,mem:=m.mem,tr:=m.tr,out:=m.out,ins:=m.ins } none ia none none 0 ic 0 0)=PP at *
 go_wp2_with (first | (guard_target =~ wpList _ _ _ (⟨_,Op.load 35 _,_,_,_,_⟩::_) _ _;refine zag _ rfl 35 _ rfl _ rfl _ HLD.out ?_;go_simp) | (guard_target =~ wpList _ _ _ (⟨_,Op.store 35 _ _,_,_,_,_⟩::_) _ _;refine zaf _ _ rfl 35 _ _ rfl _ _ rfl rfl HST.out ?_;go_simp))
 refine bodyPost_ret (zaz _ _ 2 35 _ _ _ rfl rfl hld) rfl ?_
 exact ⟨rfl,HBz⟩
theorem zpm (m:Mg) (pa ia ca ba:Option Addr) (pc ic cc bc:Nat) (hk:m.k=12) (w:World):Calls Tryz.prog 24 #[.agg (mcs m pa ia ca ba pc ic cc bc)] w (KP (.agg (mcs { Mg.z with k:=12,mem:=m.mem,day:=m.day,done:=m.done } none none none none 0 0 0 0)) w):=by
 have HX0:Hid (Bx ((w.alloc (.cells (mcs m pa ia ca ba pc ic cc bc) 35)).alloc (.cells (mcs Mg.z none none none none 0 0 0 0) 35)) w.heap.size (mcs m pa ia ca ba pc ic cc bc) 35):=(Bx.new w _ _).keep (zab _ _)
 have HY0:Hid (Bx ((w.alloc (.cells (mcs m pa ia ca ba pc ic cc bc) 35)).alloc (.cells (mcs Mg.z none none none none 0 0 0 0) 35)) (w.heap.size+1) (mcs Mg.z none none none none 0 0 0 0) 35):=by have:=Bx.new (w.alloc (.cells (mcs m pa ia ca ba pc ic cc bc) 35)) (mcs Mg.z none none none none 0 0 0 0) 35;rwa [zan] at this
 have HB0:Hid (Below w.heap.size w ((w.alloc (.cells (mcs m pa ia ca ba pc ic cc bc) 35)).alloc (.cells (mcs Mg.z none none none none 0 0 0 0) 35))):=bt (zab w _) (zab _ _)
 have hsz0:w.heap.size+2≤((w.alloc (.cells (mcs m pa ia ca ba pc ic cc bc) 35)).alloc (.cells (mcs Mg.z none none none none 0 0 0 0) 35)).heap.size:=by rw [zan,zan];omega
 have HBu:Hid (∀W,(Instr.build 35 #[(0,.int .i64 12)]).run Tryz.prog W=.ok (.agg (mcs { Mg.z with k:=12 } none none none none 0 0 0 0)) W):=fun W=>zbx _ W
 go_enter Tryz.func24,Tryz.ntmps24
 go_upto_region 1 with fail
 show Code.wp _ _ _ _ ((w.alloc (.cells (mcs m pa ia ca ba pc ic cc bc) 35)).alloc (.cells (mcs Mg.z none none none none 0 0 0 0) 35))
 generalize ((w.alloc (.cells (mcs m pa ia ca ba pc ic cc bc) 35)).alloc (.cells (mcs Mg.z none none none none 0 0 0 0) 35))=w1 at *
 have hlt:w.heap.size<w1.heap.size:=by omega
 have c0:w1.cell? ⟨w.heap.size,0,none⟩=some (.int .i64 12):=by have:=HX0.out.cell 0;rw [show (mcs m pa ia ca ba pc ic cc bc)[0]? = some (.int .i64 m.k) from rfl,hk] at this;exact this
 have hne:w.heap.size≠w1.heap.size:=by omega
 have hne1:w.heap.size+1≠w1.heap.size:=by omega
 have HX2:Hid (Bx ((w1.alloc (.cells (mcs Mg.z none none none none 0 0 0 0) 35)).setRow w1.heap.size (mcs { Mg.z with k:=12 } none none none none 0 0 0 0)) w.heap.size (mcs m pa ia ca ba pc ic cc bc) 35):=(HX0.out.keep (zab _ _)).other hne
 have HY2:Hid (Bx ((w1.alloc (.cells (mcs Mg.z none none none none 0 0 0 0) 35)).setRow w1.heap.size (mcs { Mg.z with k:=12 } none none none none 0 0 0 0)) (w.heap.size+1) (mcs Mg.z none none none none 0 0 0 0) 35):=(HY0.out.keep (zab _ _)).other hne1
 have HP2:Hid (Bx ((w1.alloc (.cells (mcs Mg.z none none none none 0 0 0 0) 35)).setRow w1.heap.size (mcs { Mg.z with k:=12 } none none none none 0 0 0 0)) w1.heap.size (mcs { Mg.z with k:=12 } none none none none 0 0 0 0) 35):=Bx.set (Bx.new _ _ _)
 have HB2:Hid (Below w.heap.size w ((w1.alloc (.cells (mcs Mg.z none none none none 0 0 0 0) 35)).setRow w1.heap.size (mcs { Mg.z with k:=12 } none none none none 0 0 0 0))):=zad (bt HB0.out (zab _ _)) (by omega)
 have HST1:Hid ((Instr.storeAt 35 (.pointer (some ⟨w1.heap.size,0,none⟩)) (.agg (mcs { Mg.z with k:=12 } none none none none 0 0 0 0))).run Tryz.prog (w1.alloc (.cells (mcs Mg.z none none none none 0 0 0 0) 35))=.ok () ((w1.alloc (.cells (mcs Mg.z none none none none 0 0 0 0) 35)).setRow w1.heap.size (mcs { Mg.z with k:=12 } none none none none 0 0 0 0))):=zbo (T:=35) (n:=36) (w1.alloc (.cells (mcs Mg.z none none none none 0 0 0 0) 35)) w1.heap.size (mcs Mg.z none none none none 0 0 0 0) (mcs { Mg.z with k:=12 } none none none none 0 0 0 0) zb2 (Bx.new _ _ _) rfl rfl (zaj _ _ _ _ _ _ _ _ _)
 have HLE:Hid (w.heap.size≤w1.heap.size):=by unfold Hid;omega
 generalize ((w1.alloc (.cells (mcs Mg.z none none none none 0 0 0 0) 35)).setRow w1.heap.size (mcs { Mg.z with k:=12 } none none none none 0 0 0 0))=w2 at *
 clear HX0 HY0 HB0 hsz0
 go_upto_region 2 with (first | (guard_target =~ wpList _ _ _ (⟨_,Op.build 35 _,_,_,_,_⟩::_) _ _;refine za5 _ rfl 35 _ _ rfl _ rfl _ (HBu.out _) ?_;go_simp) | (guard_target =~ wpList _ _ _ (⟨_,Op.store 35 _ _,_,_,_,_⟩::_) _ _;refine zaf _ _ rfl 35 _ _ rfl _ _ rfl rfl HST1.out ?_;go_simp))
 clear HST1 HBu c0 hlt
 generalize w1.heap.size=pp at *
 have c0:w2.cell? ⟨w.heap.size,0,none⟩=some (.int .i64 12):=by have:=HX2.out.cell 0;rw [show (mcs m pa ia ca ba pc ic cc bc)[0]? = some (.int .i64 m.k) from rfl,hk] at this;exact this
 have c1:w2.cell? ⟨w.heap.size,1,none⟩=some (.int .i64 m.mem):=HX2.out.cell 1
 have d1:w2.cell? ⟨pp,1,none⟩=some (.int .i64 0):=HP2.out.cell 1
 have f1:w2.frozen? ⟨pp,1,none⟩=false:=HP2.out.froz 1
 obtain ⟨w3,hw⟩:∃v,v=(w2.setCell ⟨pp,1,none⟩ (.int .i64 m.mem)):=⟨_,rfl⟩
 have HX3:Hid (Bx w3 w.heap.size (mcs m pa ia ca ba pc ic cc bc) 35):=by unfold Hid;rw [hw];exact (HX2.out.cellOther (k:=1) hne _)
 have HY3:Hid (Bx w3 (w.heap.size+1) (mcs Mg.z none none none none 0 0 0 0) 35):=by unfold Hid;rw [hw];exact (HY2.out.cellOther (k:=1) hne1 _)
 have HP3:Hid (Bx w3 pp (mcs { Mg.z with k:=12,mem:=m.mem } none none none none 0 0 0 0) 35):=by
  unfold Hid
  rw [hw]
  have h:=HP2.out.cellSet (k:=1) (.int .i64 m.mem)
  have e:(mcs { Mg.z with k:=12 } none none none none 0 0 0 0).setIfInBounds 1 (.int .i64 m.mem)=(mcs { Mg.z with k:=12,mem:=m.mem } none none none none 0 0 0 0):=by kernel_rfl
  rw [e] at h
  exact h
 have HB3:Hid (Below w.heap.size w w3):=by unfold Hid;rw [hw];exact HB2.out.trans (((Bt.refl pp _).trans (Bt.set pp _ 1 (.int .i64 m.mem))).below HLE.out HB2.out.size)
 clear HX2 HY2 HP2 HB2
 go_upto_region 4 with fail
 rw [← hw]
 clear hw c0 c1 d1 f1
 have c0:w3.cell? ⟨w.heap.size,0,none⟩=some (.int .i64 12):=by have:=HX3.out.cell 0;rw [show (mcs m pa ia ca ba pc ic cc bc)[0]? = some (.int .i64 m.k) from rfl,hk] at this;exact this
 have c19:w3.cell? ⟨w.heap.size,19,none⟩=some (.int .i64 m.day):=HX3.out.cell 19
 have d19:w3.cell? ⟨pp,19,none⟩=some (.int .i64 0):=HP3.out.cell 19
 have f19:w3.frozen? ⟨pp,19,none⟩=false:=HP3.out.froz 19
 obtain ⟨w4,hw⟩:∃v,v=(w3.setCell ⟨pp,19,none⟩ (.int .i64 m.day)):=⟨_,rfl⟩
 have HX4:Hid (Bx w4 w.heap.size (mcs m pa ia ca ba pc ic cc bc) 35):=by unfold Hid;rw [hw];exact (HX3.out.cellOther (k:=19) hne _)
 have HY4:Hid (Bx w4 (w.heap.size+1) (mcs Mg.z none none none none 0 0 0 0) 35):=by unfold Hid;rw [hw];exact (HY3.out.cellOther (k:=19) hne1 _)
 have HP4:Hid (Bx w4 pp (mcs { Mg.z with k:=12,mem:=m.mem,day:=m.day } none none none none 0 0 0 0) 35):=by
  unfold Hid
  rw [hw]
  have h:=HP3.out.cellSet (k:=19) (.int .i64 m.day)
  have e:(mcs { Mg.z with k:=12,mem:=m.mem } none none none none 0 0 0 0).setIfInBounds 19 (.int .i64 m.day)=(mcs { Mg.z with k:=12,mem:=m.mem,day:=m.day } none none none none 0 0 0 0):=by kernel_rfl
  rw [e] at h
  exact h
 have HB4:Hid (Below w.heap.size w w4):=by unfold Hid;rw [hw];exact HB3.out.trans (((Bt.refl pp _).trans (Bt.set pp _ 19 (.int .i64 m.day))).below HLE.out HB3.out.size)
 clear HX3 HY3 HP3 HB3
 go_upto_region 14 with fail
 rw [← hw]
 clear hw c0 c19 d19 f19
 have c0:w4.cell? ⟨w.heap.size,0,none⟩=some (.int .i64 12):=by have:=HX4.out.cell 0;rw [show (mcs m pa ia ca ba pc ic cc bc)[0]? = some (.int .i64 m.k) from rfl,hk] at this;exact this
 have c34:w4.cell? ⟨w.heap.size,34,none⟩=some (.bool m.done):=HX4.out.cell 34
 have d34:w4.cell? ⟨pp,34,none⟩=some (.bool false):=HP4.out.cell 34
 have f34:w4.frozen? ⟨pp,34,none⟩=false:=HP4.out.froz 34
 obtain ⟨w5,hw⟩:∃v,v=(w4.setCell ⟨pp,34,none⟩ (.bool m.done)):=⟨_,rfl⟩
 have HX5:Hid (Bx w5 w.heap.size (mcs m pa ia ca ba pc ic cc bc) 35):=by unfold Hid;rw [hw];exact (HX4.out.cellOther (k:=34) hne _)
 have HY5:Hid (Bx w5 (w.heap.size+1) (mcs Mg.z none none none none 0 0 0 0) 35):=by unfold Hid;rw [hw];exact (HY4.out.cellOther (k:=34) hne1 _)
 have HP5:Hid (Bx w5 pp (mcs { Mg.z with k:=12,mem:=m.mem,day:=m.day,done:=m.done } none none none none 0 0 0 0) 35):=by
  unfold Hid
  rw [hw]
  have h:=HP4.out.cellSet (k:=34) (.bool m.done)
  have e:(mcs { Mg.z with k:=12,mem:=m.mem,day:=m.day } none none none none 0 0 0 0).setIfInBounds 34 (.bool m.done)=(mcs { Mg.z with k:=12,mem:=m.mem,day:=m.day,done:=m.done } none none none none 0 0 0 0):=by kernel_rfl
  rw [e] at h
  exact h
 have HB5:Hid (Below w.heap.size w w5):=by unfold Hid;rw [hw];exact HB4.out.trans (((Bt.refl pp _).trans (Bt.set pp _ 34 (.bool m.done))).below HLE.out HB4.out.size)
 clear HX4 HY4 HP4 HB4
 go_upto_region 26 with fail
 rw [← hw]
 clear hw c0 c34 d34 f34
 have c0:w5.cell? ⟨w.heap.size,0,none⟩=some (.int .i64 12):=by have:=HX5.out.cell 0;rw [show (mcs m pa ia ca ba pc ic cc bc)[0]? = some (.int .i64 m.k) from rfl,hk] at this;exact this
 have HLD:Hid ((Instr.loadAt 35 (.pointer (some ⟨pp,0,none⟩))).run Tryz.prog w5=.ok (.agg (mcs { Mg.z with k:=12,mem:=m.mem,day:=m.day,done:=m.done } none none none none 0 0 0 0)) w5):=zam w5 pp _ rfl HP5.out
 have HST:Hid ((Instr.storeAt 35 (.pointer (some ⟨w.heap.size+1,0,none⟩)) (.agg (mcs { Mg.z with k:=12,mem:=m.mem,day:=m.day,done:=m.done } none none none none 0 0 0 0))).run Tryz.prog w5=.ok () (w5.setRow (w.heap.size+1) (mcs { Mg.z with k:=12,mem:=m.mem,day:=m.day,done:=m.done } none none none none 0 0 0 0))):=zaw w5 (w.heap.size+1) _ _ HY5.out rfl rfl (zaj _ _ _ _ _ _ _ _ _)
 have hld:=zbb (w5.setRow (w.heap.size+1) (mcs { Mg.z with k:=12,mem:=m.mem,day:=m.day,done:=m.done } none none none none 0 0 0 0)) (w.heap.size+1) (mcs { Mg.z with k:=12,mem:=m.mem,day:=m.day,done:=m.done } none none none none 0 0 0 0) rfl HY5.out.set
 have HBz:Hid (Below w.heap.size w (w5.setRow (w.heap.size+1) (mcs { Mg.z with k:=12,mem:=m.mem,day:=m.day,done:=m.done } none none none none 0 0 0 0))):=zad HB5.out (by omega)
 clear HX5 HY5 HP5 HB5
 generalize (mcs { Mg.z with k:=12,mem:=m.mem,day:=m.day,done:=m.done } none none none none 0 0 0 0)=PP at *
 go_wp2_with (first | (guard_target =~ wpList _ _ _ (⟨_,Op.load 35 _,_,_,_,_⟩::_) _ _;refine zag _ rfl 35 _ rfl _ rfl _ HLD.out ?_;go_simp) | (guard_target =~ wpList _ _ _ (⟨_,Op.store 35 _ _,_,_,_,_⟩::_) _ _;refine zaf _ _ rfl 35 _ _ rfl _ _ rfl rfl HST.out ?_;go_simp))
 refine bodyPost_ret (zaz _ _ 2 35 _ _ _ rfl rfl hld) rfl ?_
 exact ⟨rfl,HBz⟩
theorem zpn (m:Mg) (pa ia ca ba:Option Addr) (pc ic cc bc:Nat) (hk:m.k=13) (w:World):Calls Tryz.prog 24 #[.agg (mcs m pa ia ca ba pc ic cc bc)] w (KP (.agg (mcs { Mg.z with k:=13,mem:=m.mem } none none none none 0 0 0 0)) w):=by
 have HX0:Hid (Bx ((w.alloc (.cells (mcs m pa ia ca ba pc ic cc bc) 35)).alloc (.cells (mcs Mg.z none none none none 0 0 0 0) 35)) w.heap.size (mcs m pa ia ca ba pc ic cc bc) 35):=(Bx.new w _ _).keep (zab _ _)
 have HY0:Hid (Bx ((w.alloc (.cells (mcs m pa ia ca ba pc ic cc bc) 35)).alloc (.cells (mcs Mg.z none none none none 0 0 0 0) 35)) (w.heap.size+1) (mcs Mg.z none none none none 0 0 0 0) 35):=by have:=Bx.new (w.alloc (.cells (mcs m pa ia ca ba pc ic cc bc) 35)) (mcs Mg.z none none none none 0 0 0 0) 35;rwa [zan] at this
 have HB0:Hid (Below w.heap.size w ((w.alloc (.cells (mcs m pa ia ca ba pc ic cc bc) 35)).alloc (.cells (mcs Mg.z none none none none 0 0 0 0) 35))):=bt (zab w _) (zab _ _)
 have hsz0:w.heap.size+2≤((w.alloc (.cells (mcs m pa ia ca ba pc ic cc bc) 35)).alloc (.cells (mcs Mg.z none none none none 0 0 0 0) 35)).heap.size:=by rw [zan,zan];omega
 have HBu:Hid (∀W,(Instr.build 35 #[(0,.int .i64 13)]).run Tryz.prog W=.ok (.agg (mcs { Mg.z with k:=13 } none none none none 0 0 0 0)) W):=fun W=>zbx _ W
 go_enter Tryz.func24,Tryz.ntmps24
 go_upto_region 1 with fail
 show Code.wp _ _ _ _ ((w.alloc (.cells (mcs m pa ia ca ba pc ic cc bc) 35)).alloc (.cells (mcs Mg.z none none none none 0 0 0 0) 35))
 generalize ((w.alloc (.cells (mcs m pa ia ca ba pc ic cc bc) 35)).alloc (.cells (mcs Mg.z none none none none 0 0 0 0) 35))=w1 at *
 have hlt:w.heap.size<w1.heap.size:=by omega
 have c0:w1.cell? ⟨w.heap.size,0,none⟩=some (.int .i64 13):=by have:=HX0.out.cell 0;rw [show (mcs m pa ia ca ba pc ic cc bc)[0]? = some (.int .i64 m.k) from rfl,hk] at this;exact this
 have hne:w.heap.size≠w1.heap.size:=by omega
 have hne1:w.heap.size+1≠w1.heap.size:=by omega
 have HX2:Hid (Bx ((w1.alloc (.cells (mcs Mg.z none none none none 0 0 0 0) 35)).setRow w1.heap.size (mcs { Mg.z with k:=13 } none none none none 0 0 0 0)) w.heap.size (mcs m pa ia ca ba pc ic cc bc) 35):=(HX0.out.keep (zab _ _)).other hne
 have HY2:Hid (Bx ((w1.alloc (.cells (mcs Mg.z none none none none 0 0 0 0) 35)).setRow w1.heap.size (mcs { Mg.z with k:=13 } none none none none 0 0 0 0)) (w.heap.size+1) (mcs Mg.z none none none none 0 0 0 0) 35):=(HY0.out.keep (zab _ _)).other hne1
 have HP2:Hid (Bx ((w1.alloc (.cells (mcs Mg.z none none none none 0 0 0 0) 35)).setRow w1.heap.size (mcs { Mg.z with k:=13 } none none none none 0 0 0 0)) w1.heap.size (mcs { Mg.z with k:=13 } none none none none 0 0 0 0) 35):=Bx.set (Bx.new _ _ _)
 have HB2:Hid (Below w.heap.size w ((w1.alloc (.cells (mcs Mg.z none none none none 0 0 0 0) 35)).setRow w1.heap.size (mcs { Mg.z with k:=13 } none none none none 0 0 0 0))):=zad (bt HB0.out (zab _ _)) (by omega)
 have HST1:Hid ((Instr.storeAt 35 (.pointer (some ⟨w1.heap.size,0,none⟩)) (.agg (mcs { Mg.z with k:=13 } none none none none 0 0 0 0))).run Tryz.prog (w1.alloc (.cells (mcs Mg.z none none none none 0 0 0 0) 35))=.ok () ((w1.alloc (.cells (mcs Mg.z none none none none 0 0 0 0) 35)).setRow w1.heap.size (mcs { Mg.z with k:=13 } none none none none 0 0 0 0))):=zbo (T:=35) (n:=36) (w1.alloc (.cells (mcs Mg.z none none none none 0 0 0 0) 35)) w1.heap.size (mcs Mg.z none none none none 0 0 0 0) (mcs { Mg.z with k:=13 } none none none none 0 0 0 0) zb2 (Bx.new _ _ _) rfl rfl (zaj _ _ _ _ _ _ _ _ _)
 have HLE:Hid (w.heap.size≤w1.heap.size):=by unfold Hid;omega
 generalize ((w1.alloc (.cells (mcs Mg.z none none none none 0 0 0 0) 35)).setRow w1.heap.size (mcs { Mg.z with k:=13 } none none none none 0 0 0 0))=w2 at *
 clear HX0 HY0 HB0 hsz0
 go_upto_region 2 with (first | (guard_target =~ wpList _ _ _ (⟨_,Op.build 35 _,_,_,_,_⟩::_) _ _;refine za5 _ rfl 35 _ _ rfl _ rfl _ (HBu.out _) ?_;go_simp) | (guard_target =~ wpList _ _ _ (⟨_,Op.store 35 _ _,_,_,_,_⟩::_) _ _;refine zaf _ _ rfl 35 _ _ rfl _ _ rfl rfl HST1.out ?_;go_simp))
 clear HST1 HBu c0 hlt
 generalize w1.heap.size=pp at *
 have c0:w2.cell? ⟨w.heap.size,0,none⟩=some (.int .i64 13):=by have:=HX2.out.cell 0;rw [show (mcs m pa ia ca ba pc ic cc bc)[0]? = some (.int .i64 m.k) from rfl,hk] at this;exact this
 have c1:w2.cell? ⟨w.heap.size,1,none⟩=some (.int .i64 m.mem):=HX2.out.cell 1
 have d1:w2.cell? ⟨pp,1,none⟩=some (.int .i64 0):=HP2.out.cell 1
 have f1:w2.frozen? ⟨pp,1,none⟩=false:=HP2.out.froz 1
 obtain ⟨w3,hw⟩:∃v,v=(w2.setCell ⟨pp,1,none⟩ (.int .i64 m.mem)):=⟨_,rfl⟩
 have HX3:Hid (Bx w3 w.heap.size (mcs m pa ia ca ba pc ic cc bc) 35):=by unfold Hid;rw [hw];exact (HX2.out.cellOther (k:=1) hne _)
 have HY3:Hid (Bx w3 (w.heap.size+1) (mcs Mg.z none none none none 0 0 0 0) 35):=by unfold Hid;rw [hw];exact (HY2.out.cellOther (k:=1) hne1 _)
 have HP3:Hid (Bx w3 pp (mcs { Mg.z with k:=13,mem:=m.mem } none none none none 0 0 0 0) 35):=by
  unfold Hid
  rw [hw]
  have h:=HP2.out.cellSet (k:=1) (.int .i64 m.mem)
  have e:(mcs { Mg.z with k:=13 } none none none none 0 0 0 0).setIfInBounds 1 (.int .i64 m.mem)=(mcs { Mg.z with k:=13,mem:=m.mem } none none none none 0 0 0 0):=by kernel_rfl
  rw [e] at h
  exact h
 have HB3:Hid (Below w.heap.size w w3):=by unfold Hid;rw [hw];exact HB2.out.trans (((Bt.refl pp _).trans (Bt.set pp _ 1 (.int .i64 m.mem))).below HLE.out HB2.out.size)
 clear HX2 HY2 HP2 HB2
 go_upto_region 4 with fail
 rw [← hw]
 clear hw c0 c1 d1 f1
 have c0:w3.cell? ⟨w.heap.size,0,none⟩=some (.int .i64 13):=by have:=HX3.out.cell 0;rw [show (mcs m pa ia ca ba pc ic cc bc)[0]? = some (.int .i64 m.k) from rfl,hk] at this;exact this
 have HLD:Hid ((Instr.loadAt 35 (.pointer (some ⟨pp,0,none⟩))).run Tryz.prog w3=.ok (.agg (mcs { Mg.z with k:=13,mem:=m.mem } none none none none 0 0 0 0)) w3):=zam w3 pp _ rfl HP3.out
 have HST:Hid ((Instr.storeAt 35 (.pointer (some ⟨w.heap.size+1,0,none⟩)) (.agg (mcs { Mg.z with k:=13,mem:=m.mem } none none none none 0 0 0 0))).run Tryz.prog w3=.ok () (w3.setRow (w.heap.size+1) (mcs { Mg.z with k:=13,mem:=m.mem } none none none none 0 0 0 0))):=zaw w3 (w.heap.size+1) _ _ HY3.out rfl rfl (zaj _ _ _ _ _ _ _ _ _)
 have hld:=zbb (w3.setRow (w.heap.size+1) (mcs { Mg.z with k:=13,mem:=m.mem } none none none none 0 0 0 0)) (w.heap.size+1) (mcs { Mg.z with k:=13,mem:=m.mem } none none none none 0 0 0 0) rfl HY3.out.set
 have HBz:Hid (Below w.heap.size w (w3.setRow (w.heap.size+1) (mcs { Mg.z with k:=13,mem:=m.mem } none none none none 0 0 0 0))):=zad HB3.out (by omega)
 clear HX3 HY3 HP3 HB3
 generalize (mcs { Mg.z with k:=13,mem:=m.mem } none none none none 0 0 0 0)=PP at *
 go_wp2_with (first | (guard_target =~ wpList _ _ _ (⟨_,Op.load 35 _,_,_,_,_⟩::_) _ _;refine zag _ rfl 35 _ rfl _ rfl _ HLD.out ?_;go_simp) | (guard_target =~ wpList _ _ _ (⟨_,Op.store 35 _ _,_,_,_,_⟩::_) _ _;refine zaf _ _ rfl 35 _ _ rfl _ _ rfl rfl HST.out ?_;go_simp))
 refine bodyPost_ret (zaz _ _ 2 35 _ _ _ rfl rfl hld) rfl ?_
 exact ⟨rfl,HBz⟩
theorem zpo (m:Mg) (pa ia ca ba:Option Addr) (pc ic cc bc:Nat) (hk:m.k=14) (w:World):Calls Tryz.prog 24 #[.agg (mcs m pa ia ca ba pc ic cc bc)] w (KP (.agg (mcs { Mg.z with k:=14,mem:=m.mem,n:=m.n } none none none none 0 0 0 0)) w):=by
 have HX0:Hid (Bx ((w.alloc (.cells (mcs m pa ia ca ba pc ic cc bc) 35)).alloc (.cells (mcs Mg.z none none none none 0 0 0 0) 35)) w.heap.size (mcs m pa ia ca ba pc ic cc bc) 35):=(Bx.new w _ _).keep (zab _ _)
 have HY0:Hid (Bx ((w.alloc (.cells (mcs m pa ia ca ba pc ic cc bc) 35)).alloc (.cells (mcs Mg.z none none none none 0 0 0 0) 35)) (w.heap.size+1) (mcs Mg.z none none none none 0 0 0 0) 35):=by have:=Bx.new (w.alloc (.cells (mcs m pa ia ca ba pc ic cc bc) 35)) (mcs Mg.z none none none none 0 0 0 0) 35;rwa [zan] at this
 have HB0:Hid (Below w.heap.size w ((w.alloc (.cells (mcs m pa ia ca ba pc ic cc bc) 35)).alloc (.cells (mcs Mg.z none none none none 0 0 0 0) 35))):=bt (zab w _) (zab _ _)
 have hsz0:w.heap.size+2≤((w.alloc (.cells (mcs m pa ia ca ba pc ic cc bc) 35)).alloc (.cells (mcs Mg.z none none none none 0 0 0 0) 35)).heap.size:=by rw [zan,zan];omega
 have HBu:Hid (∀W,(Instr.build 35 #[(0,.int .i64 14)]).run Tryz.prog W=.ok (.agg (mcs { Mg.z with k:=14 } none none none none 0 0 0 0)) W):=fun W=>zbx _ W
 go_enter Tryz.func24,Tryz.ntmps24
 go_upto_region 1 with fail
 show Code.wp _ _ _ _ ((w.alloc (.cells (mcs m pa ia ca ba pc ic cc bc) 35)).alloc (.cells (mcs Mg.z none none none none 0 0 0 0) 35))
 generalize ((w.alloc (.cells (mcs m pa ia ca ba pc ic cc bc) 35)).alloc (.cells (mcs Mg.z none none none none 0 0 0 0) 35))=w1 at *
 have hlt:w.heap.size<w1.heap.size:=by omega
 have c0:w1.cell? ⟨w.heap.size,0,none⟩=some (.int .i64 14):=by have:=HX0.out.cell 0;rw [show (mcs m pa ia ca ba pc ic cc bc)[0]? = some (.int .i64 m.k) from rfl,hk] at this;exact this
 have hne:w.heap.size≠w1.heap.size:=by omega
 have hne1:w.heap.size+1≠w1.heap.size:=by omega
 have HX2:Hid (Bx ((w1.alloc (.cells (mcs Mg.z none none none none 0 0 0 0) 35)).setRow w1.heap.size (mcs { Mg.z with k:=14 } none none none none 0 0 0 0)) w.heap.size (mcs m pa ia ca ba pc ic cc bc) 35):=(HX0.out.keep (zab _ _)).other hne
 have HY2:Hid (Bx ((w1.alloc (.cells (mcs Mg.z none none none none 0 0 0 0) 35)).setRow w1.heap.size (mcs { Mg.z with k:=14 } none none none none 0 0 0 0)) (w.heap.size+1) (mcs Mg.z none none none none 0 0 0 0) 35):=(HY0.out.keep (zab _ _)).other hne1
 have HP2:Hid (Bx ((w1.alloc (.cells (mcs Mg.z none none none none 0 0 0 0) 35)).setRow w1.heap.size (mcs { Mg.z with k:=14 } none none none none 0 0 0 0)) w1.heap.size (mcs { Mg.z with k:=14 } none none none none 0 0 0 0) 35):=Bx.set (Bx.new _ _ _)
 have HB2:Hid (Below w.heap.size w ((w1.alloc (.cells (mcs Mg.z none none none none 0 0 0 0) 35)).setRow w1.heap.size (mcs { Mg.z with k:=14 } none none none none 0 0 0 0))):=zad (bt HB0.out (zab _ _)) (by omega)
 have HST1:Hid ((Instr.storeAt 35 (.pointer (some ⟨w1.heap.size,0,none⟩)) (.agg (mcs { Mg.z with k:=14 } none none none none 0 0 0 0))).run Tryz.prog (w1.alloc (.cells (mcs Mg.z none none none none 0 0 0 0) 35))=.ok () ((w1.alloc (.cells (mcs Mg.z none none none none 0 0 0 0) 35)).setRow w1.heap.size (mcs { Mg.z with k:=14 } none none none none 0 0 0 0))):=zbo (T:=35) (n:=36) (w1.alloc (.cells (mcs Mg.z none none none none 0 0 0 0) 35)) w1.heap.size (mcs Mg.z none none none none 0 0 0 0) (mcs { Mg.z with k:=14 } none none none none 0 0 0 0) zb2 (Bx.new _ _ _) rfl rfl (zaj _ _ _ _ _ _ _ _ _)
 have HLE:Hid (w.heap.size≤w1.heap.size):=by unfold Hid;omega
 generalize ((w1.alloc (.cells (mcs Mg.z none none none none 0 0 0 0) 35)).setRow w1.heap.size (mcs { Mg.z with k:=14 } none none none none 0 0 0 0))=w2 at *
 clear HX0 HY0 HB0 hsz0
 go_upto_region 2 with (first | (guard_target =~ wpList _ _ _ (⟨_,Op.build 35 _,_,_,_,_⟩::_) _ _;refine za5 _ rfl 35 _ _ rfl _ rfl _ (HBu.out _) ?_;go_simp) | (guard_target =~ wpList _ _ _ (⟨_,Op.store 35 _ _,_,_,_,_⟩::_) _ _;refine zaf _ _ rfl 35 _ _ rfl _ _ rfl rfl HST1.out ?_;go_simp))
 clear HST1 HBu c0 hlt
 generalize w1.heap.size=pp at *
 have c0:w2.cell? ⟨w.heap.size,0,none⟩=some (.int .i64 14):=by have:=HX2.out.cell 0;rw [show (mcs m pa ia ca ba pc ic cc bc)[0]? = some (.int .i64 m.k) from rfl,hk] at this;exact this
 have c1:w2.cell? ⟨w.heap.size,1,none⟩=some (.int .i64 m.mem):=HX2.out.cell 1
 have d1:w2.cell? ⟨pp,1,none⟩=some (.int .i64 0):=HP2.out.cell 1
 have f1:w2.frozen? ⟨pp,1,none⟩=false:=HP2.out.froz 1
 obtain ⟨w3,hw⟩:∃v,v=(w2.setCell ⟨pp,1,none⟩ (.int .i64 m.mem)):=⟨_,rfl⟩
 have HX3:Hid (Bx w3 w.heap.size (mcs m pa ia ca ba pc ic cc bc) 35):=by unfold Hid;rw [hw];exact (HX2.out.cellOther (k:=1) hne _)
 have HY3:Hid (Bx w3 (w.heap.size+1) (mcs Mg.z none none none none 0 0 0 0) 35):=by unfold Hid;rw [hw];exact (HY2.out.cellOther (k:=1) hne1 _)
 have HP3:Hid (Bx w3 pp (mcs { Mg.z with k:=14,mem:=m.mem } none none none none 0 0 0 0) 35):=by
  unfold Hid
  rw [hw]
  have h:=HP2.out.cellSet (k:=1) (.int .i64 m.mem)
  have e:(mcs { Mg.z with k:=14 } none none none none 0 0 0 0).setIfInBounds 1 (.int .i64 m.mem)=(mcs { Mg.z with k:=14,mem:=m.mem } none none none none 0 0 0 0):=by kernel_rfl
  rw [e] at h
  exact h
 have HB3:Hid (Below w.heap.size w w3):=by unfold Hid;rw [hw];exact HB2.out.trans (((Bt.refl pp _).trans (Bt.set pp _ 1 (.int .i64 m.mem))).below HLE.out HB2.out.size)
 clear HX2 HY2 HP2 HB2
 go_upto_region 4 with fail
 rw [← hw]
 clear hw c0 c1 d1 f1
 have c0:w3.cell? ⟨w.heap.size,0,none⟩=some (.int .i64 14):=by have:=HX3.out.cell 0;rw [show (mcs m pa ia ca ba pc ic cc bc)[0]? = some (.int .i64 m.k) from rfl,hk] at this;exact this
 have c21:w3.cell? ⟨w.heap.size,21,none⟩=some (.int .i64 m.n):=HX3.out.cell 21
 have d21:w3.cell? ⟨pp,21,none⟩=some (.int .i64 0):=HP3.out.cell 21
 have f21:w3.frozen? ⟨pp,21,none⟩=false:=HP3.out.froz 21
 obtain ⟨w4,hw⟩:∃v,v=(w3.setCell ⟨pp,21,none⟩ (.int .i64 m.n)):=⟨_,rfl⟩
 have HX4:Hid (Bx w4 w.heap.size (mcs m pa ia ca ba pc ic cc bc) 35):=by unfold Hid;rw [hw];exact (HX3.out.cellOther (k:=21) hne _)
 have HY4:Hid (Bx w4 (w.heap.size+1) (mcs Mg.z none none none none 0 0 0 0) 35):=by unfold Hid;rw [hw];exact (HY3.out.cellOther (k:=21) hne1 _)
 have HP4:Hid (Bx w4 pp (mcs { Mg.z with k:=14,mem:=m.mem,n:=m.n } none none none none 0 0 0 0) 35):=by
  unfold Hid
  rw [hw]
  have h:=HP3.out.cellSet (k:=21) (.int .i64 m.n)
  have e:(mcs { Mg.z with k:=14,mem:=m.mem } none none none none 0 0 0 0).setIfInBounds 21 (.int .i64 m.n)=(mcs { Mg.z with k:=14,mem:=m.mem,n:=m.n } none none none none 0 0 0 0):=by kernel_rfl
  rw [e] at h
  exact h
 have HB4:Hid (Below w.heap.size w w4):=by unfold Hid;rw [hw];exact HB3.out.trans (((Bt.refl pp _).trans (Bt.set pp _ 21 (.int .i64 m.n))).below HLE.out HB3.out.size)
 clear HX3 HY3 HP3 HB3
 go_upto_region 18 with fail
 rw [← hw]
 clear hw c0 c21 d21 f21
 have c0:w4.cell? ⟨w.heap.size,0,none⟩=some (.int .i64 14):=by have:=HX4.out.cell 0;rw [show (mcs m pa ia ca ba pc ic cc bc)[0]? = some (.int .i64 m.k) from rfl,hk] at this;exact this
 have HLD:Hid ((Instr.loadAt 35 (.pointer (some ⟨pp,0,none⟩))).run Tryz.prog w4=.ok (.agg (mcs { Mg.z with k:=14,mem:=m.mem,n:=m.n } none none none none 0 0 0 0)) w4):=zam w4 pp _ rfl HP4.out
 have HST:Hid ((Instr.storeAt 35 (.pointer (some ⟨w.heap.size+1,0,none⟩)) (.agg (mcs { Mg.z with k:=14,mem:=m.mem,n:=m.n } none none none none 0 0 0 0))).run Tryz.prog w4=.ok () (w4.setRow (w.heap.size+1) (mcs { Mg.z with k:=14,mem:=m.mem,n:=m.n } none none none none 0 0 0 0))):=zaw w4 (w.heap.size+1) _ _ HY4.out rfl rfl (zaj _ _ _ _ _ _ _ _ _)
 have hld:=zbb (w4.setRow (w.heap.size+1) (mcs { Mg.z with k:=14,mem:=m.mem,n:=m.n } none none none none 0 0 0 0)) (w.heap.size+1) (mcs { Mg.z with k:=14,mem:=m.mem,n:=m.n } none none none none 0 0 0 0) rfl HY4.out.set
 have HBz:Hid (Below w.heap.size w (w4.setRow (w.heap.size+1) (mcs { Mg.z with k:=14,mem:=m.mem,n:=m.n } none none none none 0 0 0 0))):=zad HB4.out (by omega)
 clear HX4 HY4 HP4 HB4
 generalize (mcs { Mg.z with k:=14,mem:=m.mem,n:=m.n } none none none none 0 0 0 0)=PP at *
 go_wp2_with (first | (guard_target =~ wpList _ _ _ (⟨_,Op.load 35 _,_,_,_,_⟩::_) _ _;refine zag _ rfl 35 _ rfl _ rfl _ HLD.out ?_;go_simp) | (guard_target =~ wpList _ _ _ (⟨_,Op.store 35 _ _,_,_,_,_⟩::_) _ _;refine zaf _ _ rfl 35 _ _ rfl _ _ rfl rfl HST.out ?_;go_simp))
 refine bodyPost_ret (zaz _ _ 2 35 _ _ _ rfl rfl hld) rfl ?_
 exact ⟨rfl,HBz⟩
theorem zpp (m:Mg) (pa ia ca ba:Option Addr) (pc ic cc bc:Nat) (hk:m.k=15) (w:World):Calls Tryz.prog 24 #[.agg (mcs m pa ia ca ba pc ic cc bc)] w (KP (.agg (mcs { Mg.z with k:=15,day:=m.day,tr:=m.tr,rate:=m.rate } none none none none 0 0 0 0)) w):=by
 have HX0:Hid (Bx ((w.alloc (.cells (mcs m pa ia ca ba pc ic cc bc) 35)).alloc (.cells (mcs Mg.z none none none none 0 0 0 0) 35)) w.heap.size (mcs m pa ia ca ba pc ic cc bc) 35):=(Bx.new w _ _).keep (zab _ _)
 have HY0:Hid (Bx ((w.alloc (.cells (mcs m pa ia ca ba pc ic cc bc) 35)).alloc (.cells (mcs Mg.z none none none none 0 0 0 0) 35)) (w.heap.size+1) (mcs Mg.z none none none none 0 0 0 0) 35):=by have:=Bx.new (w.alloc (.cells (mcs m pa ia ca ba pc ic cc bc) 35)) (mcs Mg.z none none none none 0 0 0 0) 35;rwa [zan] at this
 have HB0:Hid (Below w.heap.size w ((w.alloc (.cells (mcs m pa ia ca ba pc ic cc bc) 35)).alloc (.cells (mcs Mg.z none none none none 0 0 0 0) 35))):=bt (zab w _) (zab _ _)
 have hsz0:w.heap.size+2≤((w.alloc (.cells (mcs m pa ia ca ba pc ic cc bc) 35)).alloc (.cells (mcs Mg.z none none none none 0 0 0 0) 35)).heap.size:=by rw [zan,zan];omega
 have HBu:Hid (∀W,(Instr.build 35 #[(0,.int .i64 15)]).run Tryz.prog W=.ok (.agg (mcs { Mg.z with k:=15 } none none none none 0 0 0 0)) W):=fun W=>zbx _ W
 go_enter Tryz.func24,Tryz.ntmps24
 go_upto_region 1 with fail
 show Code.wp _ _ _ _ ((w.alloc (.cells (mcs m pa ia ca ba pc ic cc bc) 35)).alloc (.cells (mcs Mg.z none none none none 0 0 0 0) 35))
 generalize ((w.alloc (.cells (mcs m pa ia ca ba pc ic cc bc) 35)).alloc (.cells (mcs Mg.z none none none none 0 0 0 0) 35))=w1 at *
 have hlt:w.heap.size<w1.heap.size:=by omega
 have c0:w1.cell? ⟨w.heap.size,0,none⟩=some (.int .i64 15):=by have:=HX0.out.cell 0;rw [show (mcs m pa ia ca ba pc ic cc bc)[0]? = some (.int .i64 m.k) from rfl,hk] at this;exact this
 have hne:w.heap.size≠w1.heap.size:=by omega
 have hne1:w.heap.size+1≠w1.heap.size:=by omega
 have HX2:Hid (Bx ((w1.alloc (.cells (mcs Mg.z none none none none 0 0 0 0) 35)).setRow w1.heap.size (mcs { Mg.z with k:=15 } none none none none 0 0 0 0)) w.heap.size (mcs m pa ia ca ba pc ic cc bc) 35):=(HX0.out.keep (zab _ _)).other hne
 have HY2:Hid (Bx ((w1.alloc (.cells (mcs Mg.z none none none none 0 0 0 0) 35)).setRow w1.heap.size (mcs { Mg.z with k:=15 } none none none none 0 0 0 0)) (w.heap.size+1) (mcs Mg.z none none none none 0 0 0 0) 35):=(HY0.out.keep (zab _ _)).other hne1
 have HP2:Hid (Bx ((w1.alloc (.cells (mcs Mg.z none none none none 0 0 0 0) 35)).setRow w1.heap.size (mcs { Mg.z with k:=15 } none none none none 0 0 0 0)) w1.heap.size (mcs { Mg.z with k:=15 } none none none none 0 0 0 0) 35):=Bx.set (Bx.new _ _ _)
 have HB2:Hid (Below w.heap.size w ((w1.alloc (.cells (mcs Mg.z none none none none 0 0 0 0) 35)).setRow w1.heap.size (mcs { Mg.z with k:=15 } none none none none 0 0 0 0))):=zad (bt HB0.out (zab _ _)) (by omega)
 have HST1:Hid ((Instr.storeAt 35 (.pointer (some ⟨w1.heap.size,0,none⟩)) (.agg (mcs { Mg.z with k:=15 } none none none none 0 0 0 0))).run Tryz.prog (w1.alloc (.cells (mcs Mg.z none none none none 0 0 0 0) 35))=.ok () ((w1.alloc (.cells (mcs Mg.z none none none none 0 0 0 0) 35)).setRow w1.heap.size (mcs { Mg.z with k:=15 } none none none none 0 0 0 0))):=zbo (T:=35) (n:=36) (w1.alloc (.cells (mcs Mg.z none none none none 0 0 0 0) 35)) w1.heap.size (mcs Mg.z none none none none 0 0 0 0) (mcs { Mg.z with k:=15 } none none none none 0 0 0 0) zb2 (Bx.new _ _ _) rfl rfl (zaj _ _ _ _ _ _ _ _ _)
 have HLE:Hid (w.heap.size≤w1.heap.size):=by unfold Hid;omega
 generalize ((w1.alloc (.cells (mcs Mg.z none none none none 0 0 0 0) 35)).setRow w1.heap.size (mcs { Mg.z with k:=15 } none none none none 0 0 0 0))=w2 at *
 clear HX0 HY0 HB0 hsz0
 go_upto_region 2 with (first | (guard_target =~ wpList _ _ _ (⟨_,Op.build 35 _,_,_,_,_⟩::_) _ _;refine za5 _ rfl 35 _ _ rfl _ rfl _ (HBu.out _) ?_;go_simp) | (guard_target =~ wpList _ _ _ (⟨_,Op.store 35 _ _,_,_,_,_⟩::_) _ _;refine zaf _ _ rfl 35 _ _ rfl _ _ rfl rfl HST1.out ?_;go_simp))
 clear HST1 HBu c0 hlt
 generalize w1.heap.size=pp at *
 have c0:w2.cell? ⟨w.heap.size,0,none⟩=some (.int .i64 15):=by have:=HX2.out.cell 0;rw [show (mcs m pa ia ca ba pc ic cc bc)[0]? = some (.int .i64 m.k) from rfl,hk] at this;exact this
 have c19:w2.cell? ⟨w.heap.size,19,none⟩=some (.int .i64 m.day):=HX2.out.cell 19
 have d19:w2.cell? ⟨pp,19,none⟩=some (.int .i64 0):=HP2.out.cell 19
 have f19:w2.frozen? ⟨pp,19,none⟩=false:=HP2.out.froz 19
 obtain ⟨w3,hw⟩:∃v,v=(w2.setCell ⟨pp,19,none⟩ (.int .i64 m.day)):=⟨_,rfl⟩
 have HX3:Hid (Bx w3 w.heap.size (mcs m pa ia ca ba pc ic cc bc) 35):=by unfold Hid;rw [hw];exact (HX2.out.cellOther (k:=19) hne _)
 have HY3:Hid (Bx w3 (w.heap.size+1) (mcs Mg.z none none none none 0 0 0 0) 35):=by unfold Hid;rw [hw];exact (HY2.out.cellOther (k:=19) hne1 _)
 have HP3:Hid (Bx w3 pp (mcs { Mg.z with k:=15,day:=m.day } none none none none 0 0 0 0) 35):=by
  unfold Hid
  rw [hw]
  have h:=HP2.out.cellSet (k:=19) (.int .i64 m.day)
  have e:(mcs { Mg.z with k:=15 } none none none none 0 0 0 0).setIfInBounds 19 (.int .i64 m.day)=(mcs { Mg.z with k:=15,day:=m.day } none none none none 0 0 0 0):=by kernel_rfl
  rw [e] at h
  exact h
 have HB3:Hid (Below w.heap.size w w3):=by unfold Hid;rw [hw];exact HB2.out.trans (((Bt.refl pp _).trans (Bt.set pp _ 19 (.int .i64 m.day))).below HLE.out HB2.out.size)
 clear HX2 HY2 HP2 HB2
 go_upto_region 14 with fail
 rw [← hw]
 clear hw c0 c19 d19 f19
 have c0:w3.cell? ⟨w.heap.size,0,none⟩=some (.int .i64 15):=by have:=HX3.out.cell 0;rw [show (mcs m pa ia ca ba pc ic cc bc)[0]? = some (.int .i64 m.k) from rfl,hk] at this;exact this
 have c33:w3.cell? ⟨w.heap.size,33,none⟩=some (.int .i64 m.tr):=HX3.out.cell 33
 have d33:w3.cell? ⟨pp,33,none⟩=some (.int .i64 0):=HP3.out.cell 33
 have f33:w3.frozen? ⟨pp,33,none⟩=false:=HP3.out.froz 33
 obtain ⟨w4,hw⟩:∃v,v=(w3.setCell ⟨pp,33,none⟩ (.int .i64 m.tr)):=⟨_,rfl⟩
 have HX4:Hid (Bx w4 w.heap.size (mcs m pa ia ca ba pc ic cc bc) 35):=by unfold Hid;rw [hw];exact (HX3.out.cellOther (k:=33) hne _)
 have HY4:Hid (Bx w4 (w.heap.size+1) (mcs Mg.z none none none none 0 0 0 0) 35):=by unfold Hid;rw [hw];exact (HY3.out.cellOther (k:=33) hne1 _)
 have HP4:Hid (Bx w4 pp (mcs { Mg.z with k:=15,day:=m.day,tr:=m.tr } none none none none 0 0 0 0) 35):=by
  unfold Hid
  rw [hw]
  have h:=HP3.out.cellSet (k:=33) (.int .i64 m.tr)
  have e:(mcs { Mg.z with k:=15,day:=m.day } none none none none 0 0 0 0).setIfInBounds 33 (.int .i64 m.tr)=(mcs { Mg.z with k:=15,day:=m.day,tr:=m.tr } none none none none 0 0 0 0):=by kernel_rfl
  rw [e] at h
  exact h
 have HB4:Hid (Below w.heap.size w w4):=by unfold Hid;rw [hw];exact HB3.out.trans (((Bt.refl pp _).trans (Bt.set pp _ 33 (.int .i64 m.tr))).below HLE.out HB3.out.size)
 clear HX3 HY3 HP3 HB3
 go_upto_region 22 with fail
 rw [← hw]
 clear hw c0 c33 d33 f33
 have c0:w4.cell? ⟨w.heap.size,0,none⟩=some (.int .i64 15):=by have:=HX4.out.cell 0;rw [show (mcs m pa ia ca ba pc ic cc bc)[0]? = some (.int .i64 m.k) from rfl,hk] at this;exact this
 have c35:w4.cell? ⟨w.heap.size,35,none⟩=some (.int .i64 m.rate):=HX4.out.cell 35
 have d35:w4.cell? ⟨pp,35,none⟩=some (.int .i64 0):=HP4.out.cell 35
 have f35:w4.frozen? ⟨pp,35,none⟩=false:=HP4.out.froz 35
 obtain ⟨w5,hw⟩:∃v,v=(w4.setCell ⟨pp,35,none⟩ (.int .i64 m.rate)):=⟨_,rfl⟩
 have HX5:Hid (Bx w5 w.heap.size (mcs m pa ia ca ba pc ic cc bc) 35):=by unfold Hid;rw [hw];exact (HX4.out.cellOther (k:=35) hne _)
 have HY5:Hid (Bx w5 (w.heap.size+1) (mcs Mg.z none none none none 0 0 0 0) 35):=by unfold Hid;rw [hw];exact (HY4.out.cellOther (k:=35) hne1 _)
 have HP5:Hid (Bx w5 pp (mcs { Mg.z with k:=15,day:=m.day,tr:=m.tr,rate:=m.rate } none none none none 0 0 0 0) 35):=by
  unfold Hid
  rw [hw]
  have h:=HP4.out.cellSet (k:=35) (.int .i64 m.rate)
  have e:(mcs { Mg.z with k:=15,day:=m.day,tr:=m.tr } none none none none 0 0 0 0).setIfInBounds 35 (.int .i64 m.rate)=(mcs { Mg.z with k:=15,day:=m.day,tr:=m.tr,rate:=m.rate } none none none none 0 0 0 0):=by kernel_rfl
  rw [e] at h
  exact h
 have HB5:Hid (Below w.heap.size w w5):=by unfold Hid;rw [hw];exact HB4.out.trans (((Bt.refl pp _).trans (Bt.set pp _ 35 (.int .i64 m.rate))).below HLE.out HB4.out.size)
 clear HX4 HY4 HP4 HB4
 go_upto_region 28 with fail
 rw [← hw]
 clear hw c0 c35 d35 f35
 have c0:w5.cell? ⟨w.heap.size,0,none⟩=some (.int .i64 15):=by have:=HX5.out.cell 0;rw [show (mcs m pa ia ca ba pc ic cc bc)[0]? = some (.int .i64 m.k) from rfl,hk] at this;exact this
 have HLD:Hid ((Instr.loadAt 35 (.pointer (some ⟨pp,0,none⟩))).run Tryz.prog w5=.ok (.agg (mcs { Mg.z with k:=15,day:=m.day,tr:=m.tr,rate:=m.rate } none none none none 0 0 0 0)) w5):=zam w5 pp _ rfl HP5.out
 have HST:Hid ((Instr.storeAt 35 (.pointer (some ⟨w.heap.size+1,0,none⟩)) (.agg (mcs { Mg.z with k:=15,day:=m.day,tr:=m.tr,rate:=m.rate } none none none none 0 0 0 0))).run Tryz.prog w5=.ok () (w5.setRow (w.heap.size+1) (mcs { Mg.z with k:=15,day:=m.day,tr:=m.tr,rate:=m.rate } none none none none 0 0 0 0))):=zaw w5 (w.heap.size+1) _ _ HY5.out rfl rfl (zaj _ _ _ _ _ _ _ _ _)
 have hld:=zbb (w5.setRow (w.heap.size+1) (mcs { Mg.z with k:=15,day:=m.day,tr:=m.tr,rate:=m.rate } none none none none 0 0 0 0)) (w.heap.size+1) (mcs { Mg.z with k:=15,day:=m.day,tr:=m.tr,rate:=m.rate } none none none none 0 0 0 0) rfl HY5.out.set
 have HBz:Hid (Below w.heap.size w (w5.setRow (w.heap.size+1) (mcs { Mg.z with k:=15,day:=m.day,tr:=m.tr,rate:=m.rate } none none none none 0 0 0 0))):=zad HB5.out (by omega)
 clear HX5 HY5 HP5 HB5
 generalize (mcs { Mg.z with k:=15,day:=m.day,tr:=m.tr,rate:=m.rate } none none none none 0 0 0 0)=PP at *
 go_wp2_with (first | (guard_target =~ wpList _ _ _ (⟨_,Op.load 35 _,_,_,_,_⟩::_) _ _;refine zag _ rfl 35 _ rfl _ rfl _ HLD.out ?_;go_simp) | (guard_target =~ wpList _ _ _ (⟨_,Op.store 35 _ _,_,_,_,_⟩::_) _ _;refine zaf _ _ rfl 35 _ _ rfl _ _ rfl rfl HST.out ?_;go_simp))
 refine bodyPost_ret (zaz _ _ 2 35 _ _ _ rfl rfl hld) rfl ?_
 exact ⟨rfl,HBz⟩
end Go.Proofs.YtdmlgheajblcdaaGreat
