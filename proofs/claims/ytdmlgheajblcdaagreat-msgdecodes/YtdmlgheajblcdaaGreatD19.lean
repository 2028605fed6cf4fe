/- Layer 10: the reference's Decode, a message. -/
import Derived.Test.YtdmlgheajblcdaaGreatD18
namespace Go.Proofs.YtdmlgheajblcdaaGreat
set_option maxHeartbeats 16000000
set_option maxRecDepth 100000
open Go.RowKit
set_option linter.unusedVariables false
set_option linter.unusedSimpArgs false
set_option maxRecDepth 100000
theorem zxe (l:List UInt8) (hl:l.length≤1000000) {r1:Rd} {k:Int} (hr:zah ⟨l,0,0⟩=(r1,k)) (he:r1.e=0) (hk:inn k 1 15=true) {r2:Rd} {m:Mg} (h2:rdK k r1=(r2,m)) (h3:(zbg r2).1.e≠0) (w:World):Calls Tryz.prog 21 #[.string ⟨l.toArray⟩] w (DQ Mg.z (zbg r2).1.at_ (zbg r2).1.e w):=by
 have s0:Sm ⟨l,0,0⟩:=⟨Nat.zero_le _,hl⟩
 have s1:Sm r1:=by have:=Sm.fw za7 s0;rw [hr] at this;exact this
 have hbz:Bx ((w.alloc (.cells (mcs Mg.z none none none none 0 0 0 0) 35)).alloc (.cells (zaa ⟨[],0,0⟩) 136)) (w.heap.size+1) (zaa ⟨[],0,0⟩) 136:=by have h:=Bx.new (w.alloc (.cells (mcs Mg.z none none none none 0 0 0 0) 35)) (zaa ⟨[],0,0⟩) 136;rwa [zan] at h
 have HBu:Hid (∀W,(Instr.build 136 #[(0,.string ⟨l.toArray⟩)]).run Tryz.prog W=.ok (.agg (zaa ⟨l,0,0⟩)) W):=fun W=>zfu _ W
 have HST:Hid ((Instr.storeAt 136 (.pointer (some ⟨w.heap.size+1,0,none⟩)) (.agg (zaa ⟨l,0,0⟩))).run Tryz.prog ((w.alloc (.cells (mcs Mg.z none none none none 0 0 0 0) 35)).alloc (.cells (zaa ⟨[],0,0⟩) 136))=.ok () (((w.alloc (.cells (mcs Mg.z none none none none 0 0 0 0) 35)).alloc (.cells (zaa ⟨[],0,0⟩) 136)).setRow (w.heap.size+1) (zaa ⟨l,0,0⟩))):=zaq _ _ _ _ hbz
 have HS1:Hid (Sd w ⟨l,0,0⟩ (((w.alloc (.cells (mcs Mg.z none none none none 0 0 0 0) 35)).alloc (.cells (zaa ⟨[],0,0⟩) 136)).setRow (w.heap.size+1) (zaa ⟨l,0,0⟩))):=⟨((Bx.new w _ _).keep (zab _ _)).other (by omega),hbz.set,zad (bt (zab w _) (zab _ _)) (by omega)⟩
 clear hbz
 go_enter Tryz.func21,Tryz.ntmps21
 go_upto_region 1 with fail
 generalize hX:(((w.alloc (.cells (mcs Mg.z none none none none 0 0 0 0) 35)).alloc (.cells (zaa ⟨[],0,0⟩) 136)).setRow (w.heap.size+1) (zaa ⟨l,0,0⟩))=w1 at *
 go_upto_region 2 with (first | (guard_target =~ wpList _ _ _ (⟨_,Op.build 136 _,_,_,_,_⟩::_) _ _;refine za5 _ rfl 136 _ _ rfl _ rfl _ (HBu.out _) ?_;go_simp) | (guard_target =~ wpList _ _ _ (⟨_,Op.store 136 _ _,_,_,_,_⟩::_) _ _;refine zaf _ _ rfl 136 _ _ rfl _ _ rfl rfl HST.out ?_;go_simp))
 clear HBu HST hX
 have HLd:Hid ((Instr.loadAt 136 (.pointer (some ⟨w.heap.size+1,0,none⟩))).run Tryz.prog w1=.ok (.agg (zaa ⟨l,0,0⟩)) w1):=za2 _ _ _ HS1.out.z
 go_wp2_with (guard_target =~ wpList _ _ _ (⟨_,Op.load 136 _,_,_,_,_⟩::_) _ _;refine zag _ rfl 136 _ rfl _ rfl _ HLd.out ?_;go_simp)
 refine (zei hr s0 _).mono ?_
 rintro e x1 ⟨rfl,hb⟩
 have HSa:Hid (Sd w ⟨l,0,0⟩ x1):=HS1.out.keep hb.out
 have HSt:Hid ((Instr.storeAt 136 (.pointer (some ⟨w.heap.size+1,0,none⟩)) (.agg (zaa r1))).run Tryz.prog x1=.ok () (x1.setRow (w.heap.size+1) (zaa r1))):=zaq _ _ _ _ HSa.out.z
 have HS2:Hid (Sd w r1 (x1.setRow (w.heap.size+1) (zaa r1))):=HSa.out.putZ r1
 clear hb HSa HS1 HLd
 generalize hX:x1.setRow (w.heap.size+1) (zaa r1)=w2 at *
 go_upto_region 3 with (guard_target =~ wpList _ _ _ (⟨_,Op.store 136 _ _,_,_,_,_⟩::_) _ _;refine zaf _ _ rfl 136 _ _ rfl _ _ rfl rfl HSt.out ?_;go_simp)
 clear HSt hX
 have c2:w2.cell? ⟨w.heap.size+1,2,none⟩=some (.int .i64 r1.e):=HS2.out.z.cell 2
 have hez:((r1.e:Int)==0)=true:=by rw [he];rfl
 have hk1:¬ k<1:=by unfold inn at hk;rw [Bool.and_eq_true,decide_eq_true_iff,decide_eq_true_iff] at hk;omega
 have hk15:¬ 15<k:=by unfold inn at hk;rw [Bool.and_eq_true,decide_eq_true_iff,decide_eq_true_iff] at hk;omega
 have s2:Sm r2:=by have:=Sm.fw (zqe hk) s1;rw [h2] at this;exact this
 have HG:Hid (∀W,Calls Tryz.prog 62 #[.agg (zaa r1),.agg (mcs { Mg.z with k:=k } none none none none 0 0 0 0)] W (RdG r2 m W)):=fun W=>by have:=zjj hk s1 W;rw [h2] at this;exact this
 have HCk:Hid (r2.e=0→∀(B:Nat) (W:World) (pa ia ca ba:Option Addr) (pc ic cc bc:Nat),Own B W m pa ia ca ba pc ic cc bc→Calls Tryz.prog 13 #[.agg (mcs m pa ia ca ba pc ic cc bc)] W (KP (.int .i64 ((zcb C0 m:Nat):Int)) W)):=fun h0 B W pa ia ca ba pc ic cc bc hO=>by
  have:=zxb (B:=B) (W:=W) (pa:=pa) (ia:=ia) (ca:=ca) (ba:=ba) (pc:=pc) (ic:=ic) (cc:=cc) (bc:=bc) hk s1 (by rw [h2];exact h0)
  rw [h2] at this
  exact this hO
 clear hk h2
 go_upto_region 5 with fail
 have hp:w.heap.size+2≤w2.heap.size:=HS2.out.lt
 have HBu:Hid (∀W,(Instr.build 35 #[(0,.int .i64 k)]).run Tryz.prog W=.ok (.agg (mcs { Mg.z with k:=k } none none none none 0 0 0 0)) W):=fun W=>zbx _ W
 have HST:Hid ((Instr.storeAt 35 (.pointer (some ⟨w2.heap.size,0,none⟩)) (.agg (mcs { Mg.z with k:=k } none none none none 0 0 0 0))).run Tryz.prog (w2.alloc (.cells (mcs Mg.z none none none none 0 0 0 0) 35))=.ok () ((w2.alloc (.cells (mcs Mg.z none none none none 0 0 0 0) 35)).setRow w2.heap.size (mcs { Mg.z with k:=k } none none none none 0 0 0 0))):=zaw _ _ _ _ (Bx.new _ _ _) (zac _ _ _ _ _ _ _ _ _) (zac _ _ _ _ _ _ _ _ _) (zaj _ _ _ _ _ _ _ _ _)
 have HS3:Hid (Sd w r1 ((w2.alloc (.cells (mcs Mg.z none none none none 0 0 0 0) 35)).setRow w2.heap.size (mcs { Mg.z with k:=k } none none none none 0 0 0 0))):=(HS2.out.keep (zab _ _)).row hp
 have HM3:Hid (Bx ((w2.alloc (.cells (mcs Mg.z none none none none 0 0 0 0) 35)).setRow w2.heap.size (mcs { Mg.z with k:=k } none none none none 0 0 0 0)) w2.heap.size (mcs { Mg.z with k:=k } none none none none 0 0 0 0) 35):=Bx.set (Bx.new _ _ _)
 clear HS2
 generalize hX:((w2.alloc (.cells (mcs Mg.z none none none none 0 0 0 0) 35)).setRow w2.heap.size (mcs { Mg.z with k:=k } none none none none 0 0 0 0))=w3 at *
 go_upto_region 6 with (first | (guard_target =~ wpList _ _ _ (⟨_,Op.build 35 _,_,_,_,_⟩::_) _ _;refine za5 _ rfl 35 _ _ rfl _ rfl _ (HBu.out _) ?_;go_simp) | (guard_target =~ wpList _ _ _ (⟨_,Op.store 35 _ _,_,_,_,_⟩::_) _ _;refine zaf _ _ rfl 35 _ _ rfl _ _ rfl rfl HST.out ?_;go_simp))
 clear HBu HST hX c2
 generalize w2.heap.size=p7 at *
 have c2:w3.cell? ⟨w.heap.size+1,2,none⟩=some (.int .i64 r1.e):=HS3.out.z.cell 2
 have HLd:Hid ((Instr.loadAt 136 (.pointer (some ⟨w.heap.size+1,0,none⟩))).run Tryz.prog w3=.ok (.agg (zaa r1)) w3):=za2 _ _ _ HS3.out.z
 have HLm:Hid ((Instr.loadAt 35 (.pointer (some ⟨p7,0,none⟩))).run Tryz.prog w3=.ok (.agg (mcs { Mg.z with k:=k } none none none none 0 0 0 0)) w3):=zam _ _ _ (zac _ _ _ _ _ _ _ _ _) HM3.out
 go_wp2_with (first | (guard_target =~ wpList _ _ _ (⟨_,Op.load 136 _,_,_,_,_⟩::_) _ _;refine zag _ rfl 136 _ rfl _ rfl _ HLd.out ?_;go_simp) | (guard_target =~ wpList _ _ _ (⟨_,Op.load 35 _,_,_,_,_⟩::_) _ _;refine zag _ rfl 35 _ rfl _ rfl _ HLm.out ?_;go_simp))
 refine (HG.out _).mono ?_
 rintro e x3 ⟨pa,ia,ca,ba,pc,ic,cc,bc,rfl,HO,hb⟩
 have hle:w.heap.size≤w3.heap.size:=by have:=HS3.out.lt;omega
 have HSa:Hid (Sd w r1 x3):=HS3.out.keep hb.out
 have HMa:Hid (Bx x3 p7 (mcs { Mg.z with k:=k } none none none none 0 0 0 0) 35):=HM3.out.keep hb.out
 have HMb:Hid (Bx (x3.setRow (w.heap.size+1) (zaa r2)) p7 (mcs { Mg.z with k:=k } none none none none 0 0 0 0) 35):=HMa.out.other (by omega)
 have HSt:Hid ((Instr.storeAt 136 (.pointer (some ⟨w.heap.size+1,0,none⟩)) (.agg (zaa r2))).run Tryz.prog x3=.ok () (x3.setRow (w.heap.size+1) (zaa r2))):=zaq _ _ _ _ HSa.out.z
 have HSu:Hid ((Instr.storeAt 35 (.pointer (some ⟨p7,0,none⟩)) (.agg (mcs m pa ia ca ba pc ic cc bc))).run Tryz.prog (x3.setRow (w.heap.size+1) (zaa r2))=.ok () ((x3.setRow (w.heap.size+1) (zaa r2)).setRow p7 (mcs m pa ia ca ba pc ic cc bc))):=zaw _ _ _ _ HMb.out (zac _ _ _ _ _ _ _ _ _) (zac _ _ _ _ _ _ _ _ _) (zaj _ _ _ _ _ _ _ _ _)
 have HS4:Hid (Sd w r2 ((x3.setRow (w.heap.size+1) (zaa r2)).setRow p7 (mcs m pa ia ca ba pc ic cc bc))):=(HSa.out.putZ r2).row hp
 have HM4:Hid (Bx ((x3.setRow (w.heap.size+1) (zaa r2)).setRow p7 (mcs m pa ia ca ba pc ic cc bc)) p7 (mcs m pa ia ca ba pc ic cc bc) 35):=HMb.out.set
 have HO4:Hid (Own w.heap.size ((x3.setRow (w.heap.size+1) (zaa r2)).setRow p7 (mcs m pa ia ca ba pc ic cc bc)) m pa ia ca ba pc ic cc bc):=((HO.out.mono hle).row HSa.out.z (.inl rfl)).row HMb.out (.inr rfl)
 clear hb HO HSa HMa HMb HS3 HM3 HLd HLm HG hle
 generalize hX:((x3.setRow (w.heap.size+1) (zaa r2)).setRow p7 (mcs m pa ia ca ba pc ic cc bc))=w4 at *
 go_upto_region 8 with (first | (guard_target =~ wpList _ _ _ (⟨_,Op.store 136 _ _,_,_,_,_⟩::_) _ _;refine zaf _ _ rfl 136 _ _ rfl _ _ rfl rfl HSt.out ?_;go_simp) | (guard_target =~ wpList _ _ _ (⟨_,Op.store 35 _ _,_,_,_,_⟩::_) _ _;refine zaf _ _ rfl 35 _ _ rfl _ _ rfl rfl HSu.out ?_;go_simp))
 clear HSt HSu hX
 have HLd:Hid ((Instr.loadAt 136 (.pointer (some ⟨w.heap.size+1,0,none⟩))).run Tryz.prog w4=.ok (.agg (zaa r2)) w4):=za2 _ _ _ HS4.out.z
 go_wp2_with (guard_target =~ wpList _ _ _ (⟨_,Op.load 136 _,_,_,_,_⟩::_) _ _;refine zag _ rfl 136 _ rfl _ rfl _ HLd.out ?_;go_simp)
 refine (zur r2 s2.1 s2.l2 _).mono ?_
 rintro e x4 ⟨rfl,hb⟩
 have HSa:Hid (Sd w r2 x4):=HS4.out.keep hb.out
 have HSt:Hid ((Instr.storeAt 136 (.pointer (some ⟨w.heap.size+1,0,none⟩)) (.agg (zaa (zbg r2).1))).run Tryz.prog x4=.ok () (x4.setRow (w.heap.size+1) (zaa (zbg r2).1))):=zaq _ _ _ _ HSa.out.z
 have HSe:Hid (Sd w (zbg r2).1 (x4.setRow (w.heap.size+1) (zaa (zbg r2).1))):=HSa.out.putZ _
 have HM5:Hid (Bx (x4.setRow (w.heap.size+1) (zaa (zbg r2).1)) p7 (mcs m pa ia ca ba pc ic cc bc) 35):=(HM4.out.keep hb.out).other (by omega)
 have HO5:Hid (Own w.heap.size (x4.setRow (w.heap.size+1) (zaa (zbg r2).1)) m pa ia ca ba pc ic cc bc):=(HO4.out.keep hb.out).row HSa.out.z (.inl rfl)
 clear HM4 HO4
 clear hb HSa HS4 HLd c2
 generalize hX:x4.setRow (w.heap.size+1) (zaa (zbg r2).1)=w5 at *
 go_upto_region 9 with (guard_target =~ wpList _ _ _ (⟨_,Op.store 136 _ _,_,_,_,_⟩::_) _ _;refine zaf _ _ rfl 136 _ _ rfl _ _ rfl rfl HSt.out ?_;go_simp)
 clear HSt hX
 clear HM5 HO5 HCk hez
 have hez:(((zbg r2).1.e:Int)==0)=false:=by rw [beq_eq_false_iff_ne];omega
 generalize (zbg r2).1=re at *
 have c2:w5.cell? ⟨w.heap.size+1,2,none⟩=some (.int .i64 re.e):=HSe.out.z.cell 2
 go_upto_region 10 with fail
 go_wp2_with fail
 refine wp_region_held (S:=fun W=>Bx W (w.heap.size+1) (zaa re) 136) (by kernel_rfl) ?_
 change wpAnyH _ _ _ _ _ 8 #[false,false,false,false,false,false,false,false] _ w5.drew
 have hS0:Bx w5.drew (w.heap.size+1) (zaa re) 136:=HSe.out.z
 have hO0:Bx w5.drew w.heap.size (mcs Mg.z none none none none 0 0 0 0) 35:=HSe.out.o
 have hC0:Below w.heap.size w w5.drew:=zef HSe.out.c 1
 clear HSe c2
 obtain ⟨v0,hv0⟩:∃u,u=w5.drew:=⟨_,rfl⟩
 rw [← hv0] at hS0 hO0 hC0 ⊢
 clear hv0
 refine zae (i:=0) (v:=.agg (mcs Mg.z none none none none 0 0 0 0)) rfl (by kernel_rfl) (Or.inl ⟨rfl,fun W hW=>by first | (go_simp;done) | (go_simp;rfl) | kernel_rfl⟩) hS0 ?_
 simp only [pu]
 refine zae (i:=1) (v:=.pointer (some ⟨w.heap.size+1,1,none⟩)) rfl (by kernel_rfl) (Or.inl ⟨rfl,fun W hW=>by go_simp⟩) hS0 ?_
 simp only [pu]
 refine zae (i:=2) (v:=.int .i64 re.at_) rfl (by kernel_rfl) (Or.inl ⟨rfl,fun W hW=>by have cj:W.cell? ⟨w.heap.size+1,1,none⟩=some (.int .i64 re.at_):=hW.cell 1;go_simp⟩) hS0 ?_
 simp only [pu]
 refine zae (i:=3) (v:=.pointer (some ⟨w.heap.size+1,2,none⟩)) rfl (by kernel_rfl) (Or.inl ⟨rfl,fun W hW=>by go_simp⟩) hS0 ?_
 simp only [pu]
 refine zae (i:=4) (v:=.int .i64 re.e) rfl (by kernel_rfl) (Or.inl ⟨rfl,fun W hW=>by have cj:W.cell? ⟨w.heap.size+1,2,none⟩=some (.int .i64 re.e):=hW.cell 2;go_simp⟩) hS0 ?_
 simp only [pu]
 refine zap (i:=5) rfl (by kernel_rfl) (fun K hK=>?_)
 rw [if_pos (by rfl)]
 refine zao _ _ 35 _ _ rfl _ _ rfl rfl (zaw v0 w.heap.size _ (mcs Mg.z none none none none 0 0 0 0) hO0 (zac _ _ _ _ _ _ _ _ _) (zac _ _ _ _ _ _ _ _ _) (zaj _ _ _ _ _ _ _ _ _)) ?_
 have hS1:Bx (v0.setRow w.heap.size (mcs Mg.z none none none none 0 0 0 0)) (w.heap.size+1) (zaa re) 136:=hS0.other (by omega)
 refine hK.out _ _ hS1 (fun _=>?_)
 clear hK
 try simp only [pu]
 refine zae (i:=6) (v:=.int .i64 re.at_) rfl (by kernel_rfl) (Or.inl ⟨rfl,fun _ _=>rfl⟩) hS1 ?_
 simp only [pu]
 refine zae (i:=7) (v:=.int .i64 re.e) rfl (by kernel_rfl) (Or.inl ⟨rfl,fun _ _=>rfl⟩) hS1 ?_
 simp only [pu]
 refine wpAnyH_done (by kernel_rfl) ?_ _
 have hl1:=zbb (v0.setRow w.heap.size (mcs Mg.z none none none none 0 0 0 0)) w.heap.size (mcs Mg.z none none none none 0 0 0 0) (zac _ _ _ _ _ _ _ _ _) hO0.set
 have HBz:Hid (Below w.heap.size w (v0.setRow w.heap.size (mcs Mg.z none none none none 0 0 0 0))):=zad hC0 (Nat.le_refl _)
 clear hS0 hS1 hO0 hC0
 go_wp2_with fail
 refine bodyPost_ret (zcn _ _ 2 35 3 4 _ _ _ _ _ rfl rfl rfl rfl hl1) rfl ?_
 exact ⟨none,none,none,none,0,0,0,0,rfl,zjk _ _ _ _ _ _ _ _ _ _,HBz⟩
theorem zxf (l:List UInt8) (hl:l.length≤1000000) {r1:Rd} {k:Int} (hr:zah ⟨l,0,0⟩=(r1,k)) (he:r1.e=0) (hk:inn k 1 15=true) {r2:Rd} {m:Mg} (h2:rdK k r1=(r2,m)) (h3:(zbg r2).1.e=0) (h4:zcb C0 m≠0) (w:World):Calls Tryz.prog 21 #[.string ⟨l.toArray⟩] w (DQ Mg.z l.length (zcb C0 m) w):=by
 have s0:Sm ⟨l,0,0⟩:=⟨Nat.zero_le _,hl⟩
 have s1:Sm r1:=by have:=Sm.fw za7 s0;rw [hr] at this;exact this
 have hbz:Bx ((w.alloc (.cells (mcs Mg.z none none none none 0 0 0 0) 35)).alloc (.cells (zaa ⟨[],0,0⟩) 136)) (w.heap.size+1) (zaa ⟨[],0,0⟩) 136:=by have h:=Bx.new (w.alloc (.cells (mcs Mg.z none none none none 0 0 0 0) 35)) (zaa ⟨[],0,0⟩) 136;rwa [zan] at h
 have HBu:Hid (∀W,(Instr.build 136 #[(0,.string ⟨l.toArray⟩)]).run Tryz.prog W=.ok (.agg (zaa ⟨l,0,0⟩)) W):=fun W=>zfu _ W
 have HST:Hid ((Instr.storeAt 136 (.pointer (some ⟨w.heap.size+1,0,none⟩)) (.agg (zaa ⟨l,0,0⟩))).run Tryz.prog ((w.alloc (.cells (mcs Mg.z none none none none 0 0 0 0) 35)).alloc (.cells (zaa ⟨[],0,0⟩) 136))=.ok () (((w.alloc (.cells (mcs Mg.z none none none none 0 0 0 0) 35)).alloc (.cells (zaa ⟨[],0,0⟩) 136)).setRow (w.heap.size+1) (zaa ⟨l,0,0⟩))):=zaq _ _ _ _ hbz
 have HS1:Hid (Sd w ⟨l,0,0⟩ (((w.alloc (.cells (mcs Mg.z none none none none 0 0 0 0) 35)).alloc (.cells (zaa ⟨[],0,0⟩) 136)).setRow (w.heap.size+1) (zaa ⟨l,0,0⟩))):=⟨((Bx.new w _ _).keep (zab _ _)).other (by omega),hbz.set,zad (bt (zab w _) (zab _ _)) (by omega)⟩
 clear hbz
 go_enter Tryz.func21,Tryz.ntmps21
 go_upto_region 1 with fail
 generalize hX:(((w.alloc (.cells (mcs Mg.z none none none none 0 0 0 0) 35)).alloc (.cells (zaa ⟨[],0,0⟩) 136)).setRow (w.heap.size+1) (zaa ⟨l,0,0⟩))=w1 at *
 go_upto_region 2 with (first | (guard_target =~ wpList _ _ _ (⟨_,Op.build 136 _,_,_,_,_⟩::_) _ _;refine za5 _ rfl 136 _ _ rfl _ rfl _ (HBu.out _) ?_;go_simp) | (guard_target =~ wpList _ _ _ (⟨_,Op.store 136 _ _,_,_,_,_⟩::_) _ _;refine zaf _ _ rfl 136 _ _ rfl _ _ rfl rfl HST.out ?_;go_simp))
 clear HBu HST hX
 have HLd:Hid ((Instr.loadAt 136 (.pointer (some ⟨w.heap.size+1,0,none⟩))).run Tryz.prog w1=.ok (.agg (zaa ⟨l,0,0⟩)) w1):=za2 _ _ _ HS1.out.z
 go_wp2_with (guard_target =~ wpList _ _ _ (⟨_,Op.load 136 _,_,_,_,_⟩::_) _ _;refine zag _ rfl 136 _ rfl _ rfl _ HLd.out ?_;go_simp)
 refine (zei hr s0 _).mono ?_
 rintro e x1 ⟨rfl,hb⟩
 have HSa:Hid (Sd w ⟨l,0,0⟩ x1):=HS1.out.keep hb.out
 have HSt:Hid ((Instr.storeAt 136 (.pointer (some ⟨w.heap.size+1,0,none⟩)) (.agg (zaa r1))).run Tryz.prog x1=.ok () (x1.setRow (w.heap.size+1) (zaa r1))):=zaq _ _ _ _ HSa.out.z
 have HS2:Hid (Sd w r1 (x1.setRow (w.heap.size+1) (zaa r1))):=HSa.out.putZ r1
 clear hb HSa HS1 HLd
 generalize hX:x1.setRow (w.heap.size+1) (zaa r1)=w2 at *
 go_upto_region 3 with (guard_target =~ wpList _ _ _ (⟨_,Op.store 136 _ _,_,_,_,_⟩::_) _ _;refine zaf _ _ rfl 136 _ _ rfl _ _ rfl rfl HSt.out ?_;go_simp)
 clear HSt hX
 have c2:w2.cell? ⟨w.heap.size+1,2,none⟩=some (.int .i64 r1.e):=HS2.out.z.cell 2
 have hez:((r1.e:Int)==0)=true:=by rw [he];rfl
 have hk1:¬ k<1:=by unfold inn at hk;rw [Bool.and_eq_true,decide_eq_true_iff,decide_eq_true_iff] at hk;omega
 have hk15:¬ 15<k:=by unfold inn at hk;rw [Bool.and_eq_true,decide_eq_true_iff,decide_eq_true_iff] at hk;omega
 have s2:Sm r2:=by have:=Sm.fw (zqe hk) s1;rw [h2] at this;exact this
 have HG:Hid (∀W,Calls Tryz.prog 62 #[.agg (zaa r1),.agg (mcs { Mg.z with k:=k } none none none none 0 0 0 0)] W (RdG r2 m W)):=fun W=>by have:=zjj hk s1 W;rw [h2] at this;exact this
 have HCk:Hid (r2.e=0→∀(B:Nat) (W:World) (pa ia ca ba:Option Addr) (pc ic cc bc:Nat),Own B W m pa ia ca ba pc ic cc bc→Calls Tryz.prog 13 #[.agg (mcs m pa ia ca ba pc ic cc bc)] W (KP (.int .i64 ((zcb C0 m:Nat):Int)) W)):=fun h0 B W pa ia ca ba pc ic cc bc hO=>by
  have:=zxb (B:=B) (W:=W) (pa:=pa) (ia:=ia) (ca:=ca) (ba:=ba) (pc:=pc) (ic:=ic) (cc:=cc) (bc:=bc) hk s1 (by rw [h2];exact h0)
  rw [h2] at this
  exact this hO
 clear hk h2
 go_upto_region 5 with fail
 have hp:w.heap.size+2≤w2.heap.size:=HS2.out.lt
 have HBu:Hid (∀W,(Instr.build 35 #[(0,.int .i64 k)]).run Tryz.prog W=.ok (.agg (mcs { Mg.z with k:=k } none none none none 0 0 0 0)) W):=fun W=>zbx _ W
 have HST:Hid ((Instr.storeAt 35 (.pointer (some ⟨w2.heap.size,0,none⟩)) (.agg (mcs { Mg.z with k:=k } none none none none 0 0 0 0))).run Tryz.prog (w2.alloc (.cells (mcs Mg.z none none none none 0 0 0 0) 35))=.ok () ((w2.alloc (.cells (mcs Mg.z none none none none 0 0 0 0) 35)).setRow w2.heap.size (mcs { Mg.z with k:=k } none none none none 0 0 0 0))):=zaw _ _ _ _ (Bx.new _ _ _) (zac _ _ _ _ _ _ _ _ _) (zac _ _ _ _ _ _ _ _ _) (zaj _ _ _ _ _ _ _ _ _)
 have HS3:Hid (Sd w r1 ((w2.alloc (.cells (mcs Mg.z none none none none 0 0 0 0) 35)).setRow w2.heap.size (mcs { Mg.z with k:=k } none none none none 0 0 0 0))):=(HS2.out.keep (zab _ _)).row hp
 have HM3:Hid (Bx ((w2.alloc (.cells (mcs Mg.z none none none none 0 0 0 0) 35)).setRow w2.heap.size (mcs { Mg.z with k:=k } none none none none 0 0 0 0)) w2.heap.size (mcs { Mg.z with k:=k } none none none none 0 0 0 0) 35):=Bx.set (Bx.new _ _ _)
 clear HS2
 generalize hX:((w2.alloc (.cells (mcs Mg.z none none none none 0 0 0 0) 35)).setRow w2.heap.size (mcs { Mg.z with k:=k } none none none none 0 0 0 0))=w3 at *
 go_upto_region 6 with (first | (guard_target =~ wpList _ _ _ (⟨_,Op.build 35 _,_,_,_,_⟩::_) _ _;refine za5 _ rfl 35 _ _ rfl _ rfl _ (HBu.out _) ?_;go_simp) | (guard_target =~ wpList _ _ _ (⟨_,Op.store 35 _ _,_,_,_,_⟩::_) _ _;refine zaf _ _ rfl 35 _ _ rfl _ _ rfl rfl HST.out ?_;go_simp))
 clear HBu HST hX c2
 generalize w2.heap.size=p7 at *
 have c2:w3.cell? ⟨w.heap.size+1,2,none⟩=some (.int .i64 r1.e):=HS3.out.z.cell 2
 have HLd:Hid ((Instr.loadAt 136 (.pointer (some ⟨w.heap.size+1,0,none⟩))).run Tryz.prog w3=.ok (.agg (zaa r1)) w3):=za2 _ _ _ HS3.out.z
 have HLm:Hid ((Instr.loadAt 35 (.pointer (some ⟨p7,0,none⟩))).run Tryz.prog w3=.ok (.agg (mcs { Mg.z with k:=k } none none none none 0 0 0 0)) w3):=zam _ _ _ (zac _ _ _ _ _ _ _ _ _) HM3.out
 go_wp2_with (first | (guard_target =~ wpList _ _ _ (⟨_,Op.load 136 _,_,_,_,_⟩::_) _ _;refine zag _ rfl 136 _ rfl _ rfl _ HLd.out ?_;go_simp) | (guard_target =~ wpList _ _ _ (⟨_,Op.load 35 _,_,_,_,_⟩::_) _ _;refine zag _ rfl 35 _ rfl _ rfl _ HLm.out ?_;go_simp))
 refine (HG.out _).mono ?_
 rintro e x3 ⟨pa,ia,ca,ba,pc,ic,cc,bc,rfl,HO,hb⟩
 have hle:w.heap.size≤w3.heap.size:=by have:=HS3.out.lt;omega
 have HSa:Hid (Sd w r1 x3):=HS3.out.keep hb.out
 have HMa:Hid (Bx x3 p7 (mcs { Mg.z with k:=k } none none none none 0 0 0 0) 35):=HM3.out.keep hb.out
 have HMb:Hid (Bx (x3.setRow (w.heap.size+1) (zaa r2)) p7 (mcs { Mg.z with k:=k } none none none none 0 0 0 0) 35):=HMa.out.other (by omega)
 have HSt:Hid ((Instr.storeAt 136 (.pointer (some ⟨w.heap.size+1,0,none⟩)) (.agg (zaa r2))).run Tryz.prog x3=.ok () (x3.setRow (w.heap.size+1) (zaa r2))):=zaq _ _ _ _ HSa.out.z
 have HSu:Hid ((Instr.storeAt 35 (.pointer (some ⟨p7,0,none⟩)) (.agg (mcs m pa ia ca ba pc ic cc bc))).run Tryz.prog (x3.setRow (w.heap.size+1) (zaa r2))=.ok () ((x3.setRow (w.heap.size+1) (zaa r2)).setRow p7 (mcs m pa ia ca ba pc ic cc bc))):=zaw _ _ _ _ HMb.out (zac _ _ _ _ _ _ _ _ _) (zac _ _ _ _ _ _ _ _ _) (zaj _ _ _ _ _ _ _ _ _)
 have HS4:Hid (Sd w r2 ((x3.setRow (w.heap.size+1) (zaa r2)).setRow p7 (mcs m pa ia ca ba pc ic cc bc))):=(HSa.out.putZ r2).row hp
 have HM4:Hid (Bx ((x3.setRow (w.heap.size+1) (zaa r2)).setRow p7 (mcs m pa ia ca ba pc ic cc bc)) p7 (mcs m pa ia ca ba pc ic cc bc) 35):=HMb.out.set
 have HO4:Hid (Own w.heap.size ((x3.setRow (w.heap.size+1) (zaa r2)).setRow p7 (mcs m pa ia ca ba pc ic cc bc)) m pa ia ca ba pc ic cc bc):=((HO.out.mono hle).row HSa.out.z (.inl rfl)).row HMb.out (.inr rfl)
 clear hb HO HSa HMa HMb HS3 HM3 HLd HLm HG hle
 generalize hX:((x3.setRow (w.heap.size+1) (zaa r2)).setRow p7 (mcs m pa ia ca ba pc ic cc bc))=w4 at *
 go_upto_region 8 with (first | (guard_target =~ wpList _ _ _ (⟨_,Op.store 136 _ _,_,_,_,_⟩::_) _ _;refine zaf _ _ rfl 136 _ _ rfl _ _ rfl rfl HSt.out ?_;go_simp) | (guard_target =~ wpList _ _ _ (⟨_,Op.store 35 _ _,_,_,_,_⟩::_) _ _;refine zaf _ _ rfl 35 _ _ rfl _ _ rfl rfl HSu.out ?_;go_simp))
 clear HSt HSu hX
 have HLd:Hid ((Instr.loadAt 136 (.pointer (some ⟨w.heap.size+1,0,none⟩))).run Tryz.prog w4=.ok (.agg (zaa r2)) w4):=za2 _ _ _ HS4.out.z
 go_wp2_with (guard_target =~ wpList _ _ _ (⟨_,Op.load 136 _,_,_,_,_⟩::_) _ _;refine zag _ rfl 136 _ rfl _ rfl _ HLd.out ?_;go_simp)
 refine (zur r2 s2.1 s2.l2 _).mono ?_
 rintro e x4 ⟨rfl,hb⟩
 have HSa:Hid (Sd w r2 x4):=HS4.out.keep hb.out
 have HSt:Hid ((Instr.storeAt 136 (.pointer (some ⟨w.heap.size+1,0,none⟩)) (.agg (zaa (zbg r2).1))).run Tryz.prog x4=.ok () (x4.setRow (w.heap.size+1) (zaa (zbg r2).1))):=zaq _ _ _ _ HSa.out.z
 have HSe:Hid (Sd w (zbg r2).1 (x4.setRow (w.heap.size+1) (zaa (zbg r2).1))):=HSa.out.putZ _
 have HM5:Hid (Bx (x4.setRow (w.heap.size+1) (zaa (zbg r2).1)) p7 (mcs m pa ia ca ba pc ic cc bc) 35):=(HM4.out.keep hb.out).other (by omega)
 have HO5:Hid (Own w.heap.size (x4.setRow (w.heap.size+1) (zaa (zbg r2).1)) m pa ia ca ba pc ic cc bc):=(HO4.out.keep hb.out).row HSa.out.z (.inl rfl)
 clear HM4 HO4
 clear hb HSa HS4 HLd c2
 generalize hX:x4.setRow (w.heap.size+1) (zaa (zbg r2).1)=w5 at *
 go_upto_region 9 with (guard_target =~ wpList _ _ _ (⟨_,Op.store 136 _ _,_,_,_,_⟩::_) _ _;refine zaf _ _ rfl 136 _ _ rfl _ _ rfl rfl HSt.out ?_;go_simp)
 clear HSt hX
 have h0:r2.e=0:=(zgr h3).2
 have hez2:(((zbg r2).1.e:Int)==0)=true:=by rw [h3];rfl
 have c2:w5.cell? ⟨w.heap.size+1,2,none⟩=some (.int .i64 (zbg r2).1.e):=HSe.out.z.cell 2
 have HC1:=HCk.out h0 _ _ _ _ _ _ _ _ _ _ HO5.out
 have HLm:Hid ((Instr.loadAt 35 (.pointer (some ⟨p7,0,none⟩))).run Tryz.prog w5=.ok (.agg (mcs m pa ia ca ba pc ic cc bc)) w5):=zam _ _ _ (zac _ _ _ _ _ _ _ _ _) HM5.out
 go_wp2_with (guard_target =~ wpList _ _ _ (⟨_,Op.load 35 _,_,_,_,_⟩::_) _ _;refine zag _ rfl 35 _ rfl _ rfl _ HLm.out ?_;go_simp)
 refine HC1.mono ?_
 rintro e x6 ⟨rfl,hb⟩
 have HS6:Hid (Sd w (zbg r2).1 x6):=HSe.out.keep hb.out
 have HM6:Hid (Bx x6 p7 (mcs m pa ia ca ba pc ic cc bc) 35):=HM5.out.keep hb.out
 have HO6:Hid (Own w.heap.size x6 m pa ia ca ba pc ic cc bc):=HO5.out.keep hb.out
 clear hb HSe HM5 HO5 HLm HC1 c2
 have HLm:Hid ((Instr.loadAt 35 (.pointer (some ⟨p7,0,none⟩))).run Tryz.prog x6=.ok (.agg (mcs m pa ia ca ba pc ic cc bc)) x6):=zam _ _ _ (zac _ _ _ _ _ _ _ _ _) HM6.out
 have hg:(((zcb C0 m:Nat):Int)==0)=false:=by rw [beq_eq_false_iff_ne];omega
 have HC1:=HCk.out h0 _ _ _ _ _ _ _ _ _ _ HO6.out
 go_wp2_with (first | (guard_target =~ wpList _ _ _ (⟨_,Op.build 35 #[],_,_,_,_⟩::_) _ _;refine zdi _ rfl 35 rfl _ (zgt _) ?_;go_simp) | (guard_target =~ wpList _ _ _ (⟨_,Op.load 35 _,_,_,_,_⟩::_) _ _;refine zag _ rfl 35 _ rfl _ rfl _ HLm.out ?_;go_simp))
 refine HC1.mono ?_
 rintro e x7 ⟨rfl,hb⟩
 have HS7:Hid (Sd w (zbg r2).1 x7):=HS6.out.keep hb.out
 have HSu:Hid ((Instr.storeAt 35 (.pointer (some ⟨w.heap.size,0,none⟩)) (.agg (mcs Mg.z none none none none 0 0 0 0))).run Tryz.prog x7=.ok () (x7.setRow w.heap.size (mcs Mg.z none none none none 0 0 0 0))):=zaw _ _ _ _ HS7.out.o (zac _ _ _ _ _ _ _ _ _) (zac _ _ _ _ _ _ _ _ _) (zaj _ _ _ _ _ _ _ _ _)
 have hl1:=zbb (x7.setRow w.heap.size (mcs Mg.z none none none none 0 0 0 0)) w.heap.size (mcs Mg.z none none none none 0 0 0 0) (zac _ _ _ _ _ _ _ _ _) HS7.out.o.set
 have HBz:Hid (Below w.heap.size w (x7.setRow w.heap.size (mcs Mg.z none none none none 0 0 0 0))):=zad HS7.out.c (Nat.le_refl _)
 clear HS6 HM6 HO6 HCk HS7 hb HC1
 go_wp2_with (guard_target =~ wpList _ _ _ (⟨_,Op.store 35 _ _,_,_,_,_⟩::_) _ _;refine zaf _ _ rfl 35 _ _ rfl _ _ rfl rfl HSu.out ?_;go_simp)
 refine bodyPost_ret (zcn _ _ 2 35 3 4 _ _ _ _ _ rfl rfl rfl rfl hl1) rfl ?_
 exact ⟨none,none,none,none,0,0,0,0,by simp,zjk _ _ _ _ _ _ _ _ _ _,HBz⟩
theorem zxg (l:List UInt8) (hl:l.length≤1000000) {r1:Rd} {k:Int} (hr:zah ⟨l,0,0⟩=(r1,k)) (he:r1.e=0) (hk:inn k 1 15=true) {r2:Rd} {m:Mg} (h2:rdK k r1=(r2,m)) (h3:(zbg r2).1.e=0) (h4:zcb C0 m=0) (w:World):Calls Tryz.prog 21 #[.string ⟨l.toArray⟩] w (DQ m l.length 0 w):=by
 have s0:Sm ⟨l,0,0⟩:=⟨Nat.zero_le _,hl⟩
 have s1:Sm r1:=by have:=Sm.fw za7 s0;rw [hr] at this;exact this
 have hbz:Bx ((w.alloc (.cells (mcs Mg.z none none none none 0 0 0 0) 35)).alloc (.cells (zaa ⟨[],0,0⟩) 136)) (w.heap.size+1) (zaa ⟨[],0,0⟩) 136:=by have h:=Bx.new (w.alloc (.cells (mcs Mg.z none none none none 0 0 0 0) 35)) (zaa ⟨[],0,0⟩) 136;rwa [zan] at h
 have HBu:Hid (∀W,(Instr.build 136 #[(0,.string ⟨l.toArray⟩)]).run Tryz.prog W=.ok (.agg (zaa ⟨l,0,0⟩)) W):=fun W=>zfu _ W
 have HST:Hid ((Instr.storeAt 136 (.pointer (some ⟨w.heap.size+1,0,none⟩)) (.agg (zaa ⟨l,0,0⟩))).run Tryz.prog ((w.alloc (.cells (mcs Mg.z none none none none 0 0 0 0) 35)).alloc (.cells (zaa ⟨[],0,0⟩) 136))=.ok () (((w.alloc (.cells (mcs Mg.z none none none none 0 0 0 0) 35)).alloc (.cells (zaa ⟨[],0,0⟩) 136)).setRow (w.heap.size+1) (zaa ⟨l,0,0⟩))):=zaq _ _ _ _ hbz
 have HS1:Hid (Sd w ⟨l,0,0⟩ (((w.alloc (.cells (mcs Mg.z none none none none 0 0 0 0) 35)).alloc (.cells (zaa ⟨[],0,0⟩) 136)).setRow (w.heap.size+1) (zaa ⟨l,0,0⟩))):=⟨((Bx.new w _ _).keep (zab _ _)).other (by omega),hbz.set,zad (bt (zab w _) (zab _ _)) (by omega)⟩
 clear hbz
 go_enter Tryz.func21,Tryz.ntmps21
 go_upto_region 1 with fail
 generalize hX:(((w.alloc (.cells (mcs Mg.z none none none none 0 0 0 0) 35)).alloc (.cells (zaa ⟨[],0,0⟩) 136)).setRow (w.heap.size+1) (zaa ⟨l,0,0⟩))=w1 at *
 go_upto_region 2 with (first | (guard_target =~ wpList _ _ _ (⟨_,Op.build 136 _,_,_,_,_⟩::_) _ _;refine za5 _ rfl 136 _ _ rfl _ rfl _ (HBu.out _) ?_;go_simp) | (guard_target =~ wpList _ _ _ (⟨_,Op.store 136 _ _,_,_,_,_⟩::_) _ _;refine zaf _ _ rfl 136 _ _ rfl _ _ rfl rfl HST.out ?_;go_simp))
 clear HBu HST hX
 have HLd:Hid ((Instr.loadAt 136 (.pointer (some ⟨w.heap.size+1,0,none⟩))).run Tryz.prog w1=.ok (.agg (zaa ⟨l,0,0⟩)) w1):=za2 _ _ _ HS1.out.z
 go_wp2_with (guard_target =~ wpList _ _ _ (⟨_,Op.load 136 _,_,_,_,_⟩::_) _ _;refine zag _ rfl 136 _ rfl _ rfl _ HLd.out ?_;go_simp)
 refine (zei hr s0 _).mono ?_
 rintro e x1 ⟨rfl,hb⟩
 have HSa:Hid (Sd w ⟨l,0,0⟩ x1):=HS1.out.keep hb.out
 have HSt:Hid ((Instr.storeAt 136 (.pointer (some ⟨w.heap.size+1,0,none⟩)) (.agg (zaa r1))).run Tryz.prog x1=.ok () (x1.setRow (w.heap.size+1) (zaa r1))):=zaq _ _ _ _ HSa.out.z
 have HS2:Hid (Sd w r1 (x1.setRow (w.heap.size+1) (zaa r1))):=HSa.out.putZ r1
 clear hb HSa HS1 HLd
 generalize hX:x1.setRow (w.heap.size+1) (zaa r1)=w2 at *
 go_upto_region 3 with (guard_target =~ wpList _ _ _ (⟨_,Op.store 136 _ _,_,_,_,_⟩::_) _ _;refine zaf _ _ rfl 136 _ _ rfl _ _ rfl rfl HSt.out ?_;go_simp)
 clear HSt hX
 have c2:w2.cell? ⟨w.heap.size+1,2,none⟩=some (.int .i64 r1.e):=HS2.out.z.cell 2
 have hez:((r1.e:Int)==0)=true:=by rw [he];rfl
 have hk1:¬ k<1:=by unfold inn at hk;rw [Bool.and_eq_true,decide_eq_true_iff,decide_eq_true_iff] at hk;omega
 have hk15:¬ 15<k:=by unfold inn at hk;rw [Bool.and_eq_true,decide_eq_true_iff,decide_eq_true_iff] at hk;omega
 have s2:Sm r2:=by have:=Sm.fw (zqe hk) s1;rw [h2] at this;exact this
 have HG:Hid (∀W,Calls Tryz.prog 62 #[.agg (zaa r1),.agg (mcs { Mg.z with k:=k } none none none none 0 0 0 0)] W (RdG r2 m W)):=fun W=>by have:=zjj hk s1 W;rw [h2] at this;exact this
 have HCk:Hid (r2.e=0→∀(B:Nat) (W:World) (pa ia ca ba:Option Addr) (pc ic cc bc:Nat),Own B W m pa ia ca ba pc ic cc bc→Calls Tryz.prog 13 #[.agg (mcs m pa ia ca ba pc ic cc bc)] W (KP (.int .i64 ((zcb C0 m:Nat):Int)) W)):=fun h0 B W pa ia ca ba pc ic cc bc hO=>by
  have:=zxb (B:=B) (W:=W) (pa:=pa) (ia:=ia) (ca:=ca) (ba:=ba) (pc:=pc) (ic:=ic) (cc:=cc) (bc:=bc) hk s1 (by rw [h2];exact h0)
  rw [h2] at this
  exact this hO
 clear hk h2
 go_upto_region 5 with fail
 have hp:w.heap.size+2≤w2.heap.size:=HS2.out.lt
 have HBu:Hid (∀W,(Instr.build 35 #[(0,.int .i64 k)]).run Tryz.prog W=.ok (.agg (mcs { Mg.z with k:=k } none none none none 0 0 0 0)) W):=fun W=>zbx _ W
 have HST:Hid ((Instr.storeAt 35 (.pointer (some ⟨w2.heap.size,0,none⟩)) (.agg (mcs { Mg.z with k:=k } none none none none 0 0 0 0))).run Tryz.prog (w2.alloc (.cells (mcs Mg.z none none none none 0 0 0 0) 35))=.ok () ((w2.alloc (.cells (mcs Mg.z none none none none 0 0 0 0) 35)).setRow w2.heap.size (mcs { Mg.z with k:=k } none none none none 0 0 0 0))):=zaw _ _ _ _ (Bx.new _ _ _) (zac _ _ _ _ _ _ _ _ _) (zac _ _ _ _ _ _ _ _ _) (zaj _ _ _ _ _ _ _ _ _)
 have HS3:Hid (Sd w r1 ((w2.alloc (.cells (mcs Mg.z none none none none 0 0 0 0) 35)).setRow w2.heap.size (mcs { Mg.z with k:=k } none none none none 0 0 0 0))):=(HS2.out.keep (zab _ _)).row hp
 have HM3:Hid (Bx ((w2.alloc (.cells (mcs Mg.z none none none none 0 0 0 0) 35)).setRow w2.heap.size (mcs { Mg.z with k:=k } none none none none 0 0 0 0)) w2.heap.size (mcs { Mg.z with k:=k } none none none none 0 0 0 0) 35):=Bx.set (Bx.new _ _ _)
 clear HS2
 generalize hX:((w2.alloc (.cells (mcs Mg.z none none none none 0 0 0 0) 35)).setRow w2.heap.size (mcs { Mg.z with k:=k } none none none none 0 0 0 0))=w3 at *
 go_upto_region 6 with (first | (guard_target =~ wpList _ _ _ (⟨_,Op.build 35 _,_,_,_,_⟩::_) _ _;refine za5 _ rfl 35 _ _ rfl _ rfl _ (HBu.out _) ?_;go_simp) | (guard_target =~ wpList _ _ _ (⟨_,Op.store 35 _ _,_,_,_,_⟩::_) _ _;refine zaf _ _ rfl 35 _ _ rfl _ _ rfl rfl HST.out ?_;go_simp))
 clear HBu HST hX c2
 generalize w2.heap.size=p7 at *
 have c2:w3.cell? ⟨w.heap.size+1,2,none⟩=some (.int .i64 r1.e):=HS3.out.z.cell 2
 have HLd:Hid ((Instr.loadAt 136 (.pointer (some ⟨w.heap.size+1,0,none⟩))).run Tryz.prog w3=.ok (.agg (zaa r1)) w3):=za2 _ _ _ HS3.out.z
 have HLm:Hid ((Instr.loadAt 35 (.pointer (some ⟨p7,0,none⟩))).run Tryz.prog w3=.ok (.agg (mcs { Mg.z with k:=k } none none none none 0 0 0 0)) w3):=zam _ _ _ (zac _ _ _ _ _ _ _ _ _) HM3.out
 go_wp2_with (first | (guard_target =~ wpList _ _ _ (⟨_,Op.load 136 _,_,_,_,_⟩::_) _ _;refine zag _ rfl 136 _ rfl _ rfl _ HLd.out ?_;go_simp) | (guard_target =~ wpList _ _ _ (⟨_,Op.load 35 _,_,_,_,_⟩::_) _ _;refine zag _ rfl 35 _ rfl _ rfl _ HLm.out ?_;go_simp))
 refine (HG.out _).mono ?_
 rintro e x3 ⟨pa,ia,ca,ba,pc,ic,cc,bc,rfl,HO,hb⟩
 have hle:w.heap.size≤w3.heap.size:=by have:=HS3.out.lt;omega
 have HSa:Hid (Sd w r1 x3):=HS3.out.keep hb.out
 have HMa:Hid (Bx x3 p7 (mcs { Mg.z with k:=k } none none none none 0 0 0 0) 35):=HM3.out.keep hb.out
 have HMb:Hid (Bx (x3.setRow (w.heap.size+1) (zaa r2)) p7 (mcs { Mg.z with k:=k } none none none none 0 0 0 0) 35):=HMa.out.other (by omega)
 have HSt:Hid ((Instr.storeAt 136 (.pointer (some ⟨w.heap.size+1,0,none⟩)) (.agg (zaa r2))).run Tryz.prog x3=.ok () (x3.setRow (w.heap.size+1) (zaa r2))):=zaq _ _ _ _ HSa.out.z
 have HSu:Hid ((Instr.storeAt 35 (.pointer (some ⟨p7,0,none⟩)) (.agg (mcs m pa ia ca ba pc ic cc bc))).run Tryz.prog (x3.setRow (w.heap.size+1) (zaa r2))=.ok () ((x3.setRow (w.heap.size+1) (zaa r2)).setRow p7 (mcs m pa ia ca ba pc ic cc bc))):=zaw _ _ _ _ HMb.out (zac _ _ _ _ _ _ _ _ _) (zac _ _ _ _ _ _ _ _ _) (zaj _ _ _ _ _ _ _ _ _)
 have HS4:Hid (Sd w r2 ((x3.setRow (w.heap.size+1) (zaa r2)).setRow p7 (mcs m pa ia ca ba pc ic cc bc))):=(HSa.out.putZ r2).row hp
 have HM4:Hid (Bx ((x3.setRow (w.heap.size+1) (zaa r2)).setRow p7 (mcs m pa ia ca ba pc ic cc bc)) p7 (mcs m pa ia ca ba pc ic cc bc) 35):=HMb.out.set
 have HO4:Hid (Own w.heap.size ((x3.setRow (w.heap.size+1) (zaa r2)).setRow p7 (mcs m pa ia ca ba pc ic cc bc)) m pa ia ca ba pc ic cc bc):=((HO.out.mono hle).row HSa.out.z (.inl rfl)).row HMb.out (.inr rfl)
 clear hb HO HSa HMa HMb HS3 HM3 HLd HLm HG hle
 generalize hX:((x3.setRow (w.heap.size+1) (zaa r2)).setRow p7 (mcs m pa ia ca ba pc ic cc bc))=w4 at *
 go_upto_region 8 with (first | (guard_target =~ wpList _ _ _ (⟨_,Op.store 136 _ _,_,_,_,_⟩::_) _ _;refine zaf _ _ rfl 136 _ _ rfl _ _ rfl rfl HSt.out ?_;go_simp) | (guard_target =~ wpList _ _ _ (⟨_,Op.store 35 _ _,_,_,_,_⟩::_) _ _;refine zaf _ _ rfl 35 _ _ rfl _ _ rfl rfl HSu.out ?_;go_simp))
 clear HSt HSu hX
 have HLd:Hid ((Instr.loadAt 136 (.pointer (some ⟨w.heap.size+1,0,none⟩))).run Tryz.prog w4=.ok (.agg (zaa r2)) w4):=za2 _ _ _ HS4.out.z
 go_wp2_with (guard_target =~ wpList _ _ _ (⟨_,Op.load 136 _,_,_,_,_⟩::_) _ _;refine zag _ rfl 136 _ rfl _ rfl _ HLd.out ?_;go_simp)
 refine (zur r2 s2.1 s2.l2 _).mono ?_
 rintro e x4 ⟨rfl,hb⟩
 have HSa:Hid (Sd w r2 x4):=HS4.out.keep hb.out
 have HSt:Hid ((Instr.storeAt 136 (.pointer (some ⟨w.heap.size+1,0,none⟩)) (.agg (zaa (zbg r2).1))).run Tryz.prog x4=.ok () (x4.setRow (w.heap.size+1) (zaa (zbg r2).1))):=zaq _ _ _ _ HSa.out.z
 have HSe:Hid (Sd w (zbg r2).1 (x4.setRow (w.heap.size+1) (zaa (zbg r2).1))):=HSa.out.putZ _
 have HM5:Hid (Bx (x4.setRow (w.heap.size+1) (zaa (zbg r2).1)) p7 (mcs m pa ia ca ba pc ic cc bc) 35):=(HM4.out.keep hb.out).other (by omega)
 have HO5:Hid (Own w.heap.size (x4.setRow (w.heap.size+1) (zaa (zbg r2).1)) m pa ia ca ba pc ic cc bc):=(HO4.out.keep hb.out).row HSa.out.z (.inl rfl)
 clear HM4 HO4
 clear hb HSa HS4 HLd c2
 generalize hX:x4.setRow (w.heap.size+1) (zaa (zbg r2).1)=w5 at *
 go_upto_region 9 with (guard_target =~ wpList _ _ _ (⟨_,Op.store 136 _ _,_,_,_,_⟩::_) _ _;refine zaf _ _ rfl 136 _ _ rfl _ _ rfl rfl HSt.out ?_;go_simp)
 clear HSt hX
 have h0:r2.e=0:=(zgr h3).2
 have hez2:(((zbg r2).1.e:Int)==0)=true:=by rw [h3];rfl
 have c2:w5.cell? ⟨w.heap.size+1,2,none⟩=some (.int .i64 (zbg r2).1.e):=HSe.out.z.cell 2
 have HC1:=HCk.out h0 _ _ _ _ _ _ _ _ _ _ HO5.out
 have HLm:Hid ((Instr.loadAt 35 (.pointer (some ⟨p7,0,none⟩))).run Tryz.prog w5=.ok (.agg (mcs m pa ia ca ba pc ic cc bc)) w5):=zam _ _ _ (zac _ _ _ _ _ _ _ _ _) HM5.out
 go_wp2_with (guard_target =~ wpList _ _ _ (⟨_,Op.load 35 _,_,_,_,_⟩::_) _ _;refine zag _ rfl 35 _ rfl _ rfl _ HLm.out ?_;go_simp)
 refine HC1.mono ?_
 rintro e x6 ⟨rfl,hb⟩
 have HS6:Hid (Sd w (zbg r2).1 x6):=HSe.out.keep hb.out
 have HM6:Hid (Bx x6 p7 (mcs m pa ia ca ba pc ic cc bc) 35):=HM5.out.keep hb.out
 have HO6:Hid (Own w.heap.size x6 m pa ia ca ba pc ic cc bc):=HO5.out.keep hb.out
 clear hb HSe HM5 HO5 HLm HC1 c2
 have HLm:Hid ((Instr.loadAt 35 (.pointer (some ⟨p7,0,none⟩))).run Tryz.prog x6=.ok (.agg (mcs m pa ia ca ba pc ic cc bc)) x6):=zam _ _ _ (zac _ _ _ _ _ _ _ _ _) HM6.out
 have hg:(((zcb C0 m:Nat):Int)==0)=true:=by rw [h4];rfl
 have HSu:Hid ((Instr.storeAt 35 (.pointer (some ⟨w.heap.size,0,none⟩)) (.agg (mcs m pa ia ca ba pc ic cc bc))).run Tryz.prog x6=.ok () (x6.setRow w.heap.size (mcs m pa ia ca ba pc ic cc bc))):=zaw _ _ _ _ HS6.out.o (zac _ _ _ _ _ _ _ _ _) (zac _ _ _ _ _ _ _ _ _) (zaj _ _ _ _ _ _ _ _ _)
 have hl1:=zbb (x6.setRow w.heap.size (mcs m pa ia ca ba pc ic cc bc)) w.heap.size (mcs m pa ia ca ba pc ic cc bc) (zac _ _ _ _ _ _ _ _ _) HS6.out.o.set
 have HBz:Hid (Below w.heap.size w (x6.setRow w.heap.size (mcs m pa ia ca ba pc ic cc bc))):=zad HS6.out.c (Nat.le_refl _)
 have HOz:Hid (Own w.heap.size (x6.setRow w.heap.size (mcs m pa ia ca ba pc ic cc bc)) m pa ia ca ba pc ic cc bc):=HO6.out.row HS6.out.o (.inr rfl)
 clear HS6 HM6 HO6 HCk
 go_wp2_with (first | (guard_target =~ wpList _ _ _ (⟨_,Op.load 35 _,_,_,_,_⟩::_) _ _;refine zag _ rfl 35 _ rfl _ rfl _ HLm.out ?_;go_simp) | (guard_target =~ wpList _ _ _ (⟨_,Op.store 35 _ _,_,_,_,_⟩::_) _ _;refine zaf _ _ rfl 35 _ _ rfl _ _ rfl rfl HSu.out ?_;go_simp))
 refine bodyPost_ret (zcn _ _ 2 35 3 4 _ _ _ _ _ rfl rfl rfl rfl hl1) rfl ?_
 exact ⟨pa,ia,ca,ba,pc,ic,cc,bc,by simp,HOz,HBz⟩
theorem zzq (l:List UInt8) (hl:l.length≤1000000) (w:World):Calls Tryz.prog 21 #[.string ⟨l.toArray⟩] w (DQ (zgw C0 l).1 (zgw C0 l).2.1 (zgw C0 l).2.2 w):=by
 obtain ⟨r1,k,hr⟩:∃a b,zah ⟨l,0,0⟩=(a,b):=⟨_,_,rfl⟩
 obtain ⟨r2,m,h2⟩:∃a b,rdK k r1=(a,b):=⟨_,_,rfl⟩
 unfold zgw
 rw [hr]
 by_cases he:r1.e≠0
 ·rw [if_pos (by exact he)]
  exact zxd l hl hr he w
 ·rw [if_neg (by exact he)]
  have he':r1.e=0:=by simpa using he
  by_cases hk:inn k 1 15=true
  ·rw [if_neg (by simp [hk])]
   simp only [h2]
   by_cases h3:(zbg r2).1.e≠0
   ·rw [if_pos (by exact h3)]
    exact zxe l hl hr he' hk h2 h3 w
   ·rw [if_neg (by exact h3)]
    have h3':(zbg r2).1.e=0:=by simpa using h3
    by_cases h4:zcb C0 m≠0
    ·rw [if_pos (by exact h4)]
     exact zxf l hl hr he' hk h2 h3' h4 w
    ·rw [if_neg (by exact h4)]
     exact zxg l hl hr he' hk h2 h3' (by simpa using h4) w
  ·have hk':inn k 1 15=false:=by simpa using hk
   rw [if_pos (by simp [hk'])]
   exact zxc l hl hr he' hk' w
theorem zt8 (m:Mg) (pa ia ca ba:Option Addr) (pc ic cc bc:Nat) (hk:m.k=0) (w:World):Calls Tryz.prog 24 #[.agg (mcs m pa ia ca ba pc ic cc bc)] w (KP (.agg (mcs { Mg.z with k:=0,mem:=m.mem } none none none none 0 0 0 0)) w):=by
 have HX0:Hid (Bx ((w.alloc (.cells (mcs m pa ia ca ba pc ic cc bc) 35)).alloc (.cells (mcs Mg.z none none none none 0 0 0 0) 35)) w.heap.size (mcs m pa ia ca ba pc ic cc bc) 35):=(Bx.new w _ _).keep (zab _ _)
 have HY0:Hid (Bx ((w.alloc (.cells (mcs m pa ia ca ba pc ic cc bc) 35)).alloc (.cells (mcs Mg.z none none none none 0 0 0 0) 35)) (w.heap.size+1) (mcs Mg.z none none none none 0 0 0 0) 35):=by have:=Bx.new (w.alloc (.cells (mcs m pa ia ca ba pc ic cc bc) 35)) (mcs Mg.z none none none none 0 0 0 0) 35;rwa [zan] at this
 have HB0:Hid (Below w.heap.size w ((w.alloc (.cells (mcs m pa ia ca ba pc ic cc bc) 35)).alloc (.cells (mcs Mg.z none none none none 0 0 0 0) 35))):=bt (zab w _) (zab _ _)
 have hsz0:w.heap.size+2≤((w.alloc (.cells (mcs m pa ia ca ba pc ic cc bc) 35)).alloc (.cells (mcs Mg.z none none none none 0 0 0 0) 35)).heap.size:=by rw [zan,zan];omega
 have HBu:Hid (∀W,(Instr.build 35 #[(0,.int .i64 0)]).run Tryz.prog W=.ok (.agg (mcs { Mg.z with k:=0 } none none none none 0 0 0 0)) W):=fun W=>zbx _ W
 go_enter Tryz.func24,Tryz.ntmps24
 go_upto_region 1 with fail
 show Code.wp _ _ _ _ ((w.alloc (.cells (mcs m pa ia ca ba pc ic cc bc) 35)).alloc (.cells (mcs Mg.z none none none none 0 0 0 0) 35))
 generalize ((w.alloc (.cells (mcs m pa ia ca ba pc ic cc bc) 35)).alloc (.cells (mcs Mg.z none none none none 0 0 0 0) 35))=w1 at *
 have hlt:w.heap.size<w1.heap.size:=by omega
 have c0:w1.cell? ⟨w.heap.size,0,none⟩=some (.int .i64 0):=by have:=HX0.out.cell 0;rw [show (mcs m pa ia ca ba pc ic cc bc)[0]? = some (.int .i64 m.k) from rfl,hk] at this;exact this
 have hne:w.heap.size≠w1.heap.size:=by omega
 have hne1:w.heap.size+1≠w1.heap.size:=by omega
 have HX2:Hid (Bx ((w1.alloc (.cells (mcs Mg.z none none none none 0 0 0 0) 35)).setRow w1.heap.size (mcs { Mg.z with k:=0 } none none none none 0 0 0 0)) w.heap.size (mcs m pa ia ca ba pc ic cc bc) 35):=(HX0.out.keep (zab _ _)).other hne
 have HY2:Hid (Bx ((w1.alloc (.cells (mcs Mg.z none none none none 0 0 0 0) 35)).setRow w1.heap.size (mcs { Mg.z with k:=0 } none none none none 0 0 0 0)) (w.heap.size+1) (mcs Mg.z none none none none 0 0 0 0) 35):=(HY0.out.keep (zab _ _)).other hne1
 have HP2:Hid (Bx ((w1.alloc (.cells (mcs Mg.z none none none none 0 0 0 0) 35)).setRow w1.heap.size (mcs { Mg.z with k:=0 } none none none none 0 0 0 0)) w1.heap.size (mcs { Mg.z with k:=0 } none none none none 0 0 0 0) 35):=Bx.set (Bx.new _ _ _)
 have HB2:Hid (Below w.heap.size w ((w1.alloc (.cells (mcs Mg.z none none none none 0 0 0 0) 35)).setRow w1.heap.size (mcs { Mg.z with k:=0 } none none none none 0 0 0 0))):=zad (bt HB0.out (zab _ _)) (by omega)
 have HST1:Hid ((Instr.storeAt 35 (.pointer (some ⟨w1.heap.size,0,none⟩)) (.agg (mcs { Mg.z with k:=0 } none none none none 0 0 0 0))).run Tryz.prog (w1.alloc (.cells (mcs Mg.z none none none none 0 0 0 0) 35))=.ok () ((w1.alloc (.cells (mcs Mg.z none none none none 0 0 0 0) 35)).setRow w1.heap.size (mcs { Mg.z with k:=0 } none none none none 0 0 0 0))):=zbo (T:=35) (n:=36) (w1.alloc (.cells (mcs Mg.z none none none none 0 0 0 0) 35)) w1.heap.size (mcs Mg.z none none none none 0 0 0 0) (mcs { Mg.z with k:=0 } none none none none 0 0 0 0) zb2 (Bx.new _ _ _) rfl rfl (zaj _ _ _ _ _ _ _ _ _)
 have HLE:Hid (w.heap.size≤w1.heap.size):=by unfold Hid;omega
 generalize ((w1.alloc (.cells (mcs Mg.z none none none none 0 0 0 0) 35)).setRow w1.heap.size (mcs { Mg.z with k:=0 } none none none none 0 0 0 0))=w2 at *
 clear HX0 HY0 HB0 hsz0
 go_upto_region 2 with (first | (guard_target =~ wpList _ _ _ (⟨_,Op.build 35 _,_,_,_,_⟩::_) _ _;refine za5 _ rfl 35 _ _ rfl _ rfl _ (HBu.out _) ?_;go_simp) | (guard_target =~ wpList _ _ _ (⟨_,Op.store 35 _ _,_,_,_,_⟩::_) _ _;refine zaf _ _ rfl 35 _ _ rfl _ _ rfl rfl HST1.out ?_;go_simp))
 clear HST1 HBu c0 hlt
 generalize w1.heap.size=pp at *
 have c0:w2.cell? ⟨w.heap.size,0,none⟩=some (.int .i64 0):=by have:=HX2.out.cell 0;rw [show (mcs m pa ia ca ba pc ic cc bc)[0]? = some (.int .i64 m.k) from rfl,hk] at this;exact this
 have c1:w2.cell? ⟨w.heap.size,1,none⟩=some (.int .i64 m.mem):=HX2.out.cell 1
 have d1:w2.cell? ⟨pp,1,none⟩=some (.int .i64 0):=HP2.out.cell 1
 have f1:w2.frozen? ⟨pp,1,none⟩=false:=HP2.out.froz 1
 obtain ⟨w3,hw⟩:∃v,v=(w2.setCell ⟨pp,1,none⟩ (.int .i64 m.mem)):=⟨_,rfl⟩
 have HX3:Hid (Bx w3 w.heap.size (mcs m pa ia ca ba pc ic cc bc) 35):=by unfold Hid;rw [hw];exact (HX2.out.cellOther (k:=1) hne _)
 have HY3:Hid (Bx w3 (w.heap.size+1) (mcs Mg.z none none none none 0 0 0 0) 35):=by unfold Hid;rw [hw];exact (HY2.out.cellOther (k:=1) hne1 _)
 have HP3:Hid (Bx w3 pp (mcs { Mg.z with k:=0,mem:=m.mem } none none none none 0 0 0 0) 35):=by
  unfold Hid
  rw [hw]
  have h:=HP2.out.cellSet (k:=1) (.int .i64 m.mem)
  have e:(mcs { Mg.z with k:=0 } none none none none 0 0 0 0).setIfInBounds 1 (.int .i64 m.mem)=(mcs { Mg.z with k:=0,mem:=m.mem } none none none none 0 0 0 0):=by kernel_rfl
  rw [e] at h
  exact h
 have HB3:Hid (Below w.heap.size w w3):=by unfold Hid;rw [hw];exact HB2.out.trans (((Bt.refl pp _).trans (Bt.set pp _ 1 (.int .i64 m.mem))).below HLE.out HB2.out.size)
 clear HX2 HY2 HP2 HB2
 go_upto_region 4 with fail
 rw [← hw]
 clear hw c0 c1 d1 f1
 have c0:w3.cell? ⟨w.heap.size,0,none⟩=some (.int .i64 0):=by have:=HX3.out.cell 0;rw [show (mcs m pa ia ca ba pc ic cc bc)[0]? = some (.int .i64 m.k) from rfl,hk] at this;exact this
 have HLD:Hid ((Instr.loadAt 35 (.pointer (some ⟨pp,0,none⟩))).run Tryz.prog w3=.ok (.agg (mcs { Mg.z with k:=0,mem:=m.mem } none none none none 0 0 0 0)) w3):=zam w3 pp _ rfl HP3.out
 have HST:Hid ((Instr.storeAt 35 (.pointer (some ⟨w.heap.size+1,0,none⟩)) (.agg (mcs { Mg.z with k:=0,mem:=m.mem } none none none none 0 0 0 0))).run Tryz.prog w3=.ok () (w3.setRow (w.heap.size+1) (mcs { Mg.z with k:=0,mem:=m.mem } none none none none 0 0 0 0))):=zaw w3 (w.heap.size+1) _ _ HY3.out rfl rfl (zaj _ _ _ _ _ _ _ _ _)
 have hld:=zbb (w3.setRow (w.heap.size+1) (mcs { Mg.z with k:=0,mem:=m.mem } none none none none 0 0 0 0)) (w.heap.size+1) (mcs { Mg.z with k:=0,mem:=m.mem } none none none none 0 0 0 0) rfl HY3.out.set
 have HBz:Hid (Below w.heap.size w (w3.setRow (w.heap.size+1) (mcs { Mg.z with k:=0,mem:=m.mem } none none none none 0 0 0 0))):=zad HB3.out (by omega)
 clear HX3 HY3 HP3 HB3
 generalize (mcs { Mg.z with k:=0,mem:=m.mem } none none none none 0 0 0 0)=PP at *
 go_wp2_with (first | (guard_target =~ wpList _ _ _ (⟨_,Op.load 35 _,_,_,_,_⟩::_) _ _;refine zag _ rfl 35 _ rfl _ rfl _ HLD.out ?_;go_simp) | (guard_target =~ wpList _ _ _ (⟨_,Op.store 35 _ _,_,_,_,_⟩::_) _ _;refine zaf _ _ rfl 35 _ _ rfl _ _ rfl rfl HST.out ?_;go_simp))
 refine bodyPost_ret (zaz _ _ 2 35 _ _ _ rfl rfl hld) rfl ?_
 exact ⟨rfl,HBz⟩
theorem zxh (w:World):Calls Tryz.prog 23 #[.nilIface] w (KP (.agg (mcs Mg.z none none none none 0 0 0 0)) w):=by
 have t1:=tz1
 have t2:=tz2
 have t3:=tz3
 have t4:=tz4
 have t5:=tz5
 have t6:=tz6
 have t7:=tz7
 have t8:=tz8
 have t9:=tz9
 have t10:=zyc
 have t11:=zyd
 have t12:=zye
 have t13:=zyf
 have t14:=zyg
 have t15:=zyh
 have HX0:Hid (Bx (w.alloc (.cells (mcs Mg.z none none none none 0 0 0 0) 35)) w.heap.size (mcs Mg.z none none none none 0 0 0 0) 35):=Bx.new w _ _
 have HB0:Hid (Below w.heap.size w (w.alloc (.cells (mcs Mg.z none none none none 0 0 0 0) 35))):=zab w _
 have HBu:Hid (∀W,(Instr.build 35 #[]).run Tryz.prog W=.ok (.agg (mcs Mg.z none none none none 0 0 0 0)) W):=fun W=>zgt W
 have HM1:Hid ((mcs Mg.z none none none none 0 0 0 0).size=36):=zac _ _ _ _ _ _ _ _ _
 have HM2:Hid ((mcs Mg.z none none none none 0 0 0 0).all (·.oneCell')=true):=zaj _ _ _ _ _ _ _ _ _
 go_enter Tryz.func23,Tryz.ntmps23
 go_upto_region 47 with fail
 show Code.wp _ _ _ _ (w.alloc (.cells (mcs Mg.z none none none none 0 0 0 0) 35))
 generalize (w.alloc (.cells (mcs Mg.z none none none none 0 0 0 0) 35))=w1 at *
 have HST:Hid ((Instr.storeAt 35 (.pointer (some ⟨w.heap.size,0,none⟩)) (.agg (mcs Mg.z none none none none 0 0 0 0))).run Tryz.prog w1=.ok () (w1.setRow w.heap.size (mcs Mg.z none none none none 0 0 0 0))):=zaw w1 w.heap.size _ (mcs Mg.z none none none none 0 0 0 0) HX0.out (zac _ _ _ _ _ _ _ _ _) HM1.out HM2.out
 have hld:=zbb (w1.setRow w.heap.size (mcs Mg.z none none none none 0 0 0 0)) w.heap.size (mcs Mg.z none none none none 0 0 0 0) HM1.out HX0.out.set
 have HB2:Hid (Below w.heap.size w (w1.setRow w.heap.size (mcs Mg.z none none none none 0 0 0 0))):=zad HB0.out (Nat.le_refl _)
 clear HX0 HB0
 generalize (mcs Mg.z none none none none 0 0 0 0)=M at *
 go_wp2_with (first | (guard_target =~ wpList _ _ _ (⟨_,Op.build _ _,_,_,_,_⟩::_) _ _;refine zdi _ rfl 35 rfl _ (HBu.out _) ?_;go_simp) | (guard_target =~ wpList _ _ _ (⟨_,Op.store _ _ _,_,_,_,_⟩::_) _ _;refine zaf _ _ rfl 35 _ _ rfl _ _ rfl rfl HST.out ?_;go_simp))
 refine bodyPost_ret (zaz _ _ 2 35 _ _ _ rfl rfl hld) rfl ?_
 exact ⟨rfl,HB2⟩
theorem zco {B:Nat} {W W2:World} {m:Mg} {pa ia ca ba:Option Addr} {pc ic cc bc:Nat} (h:Own B W m pa ia ca ba pc ic cc bc) (hb:Below W.heap.size W W2):Own B W2 m pa ia ca ba pc ic cc bc:=⟨fun hk=>zax (h.ps hk) hb,fun hk=>zax (h.ins hk) hb,fun hk=>zax (h.cuts hk) hb,fun hk=>zax (h.bar hk) hb⟩
theorem zgu {m:Mg} {q:Nat} {W W2:World} {v:Value} (h:MV m q W v) (hb:Below W.heap.size W W2):MV m q W2 v:=by
 obtain ⟨pa,ia,ca,ba,pc,ic,cc,bc,B,hq,hO,hv⟩:=h
 exact ⟨pa,ia,ca,ba,pc,ic,cc,bc,B,hq,zco hO hb,hv⟩
theorem zqb (s:ByteArray) (hss:s.size≤3000) (m:Mg) (n g:Nat) (hg:g≠0) (w:World)
  (h20:∀W,Calls Tryz.prog 20 #[.string s] W (DcP n g W)) (h21:∀W,Calls Tryz.prog 21 #[.string s] W (DQ m n g W))
  (h23:∀W,Calls Tryz.prog 23 #[.nilIface] W (PGP m W))
  (h24:∀W pa ia ca ba pc ic cc bc B,Own B W m pa ia ca ba pc ic cc bc→Calls Tryz.prog 24 #[.agg (mcs m pa ia ca ba pc ic cc bc)] W (PGP m W))
  (h22:∀W A B,PG m A W→PG m B W→Calls Tryz.prog 22 #[.agg A,.agg B] W (KP (.bool true) W)):Calls Tryz.prog 6 #[.string s] w (KP (.bool true) w):=by
 have hsi:¬ (s.size:Int) > 3000:=by omega
 have H20:Hid (∀W,Calls Tryz.prog 20 #[.string s] W (DcP n g W)):=h20
 have H21:Hid (∀W,Calls Tryz.prog 21 #[.string s] W (DQ m n g W)):=h21
 have H23:Hid (∀W,Calls Tryz.prog 23 #[.nilIface] W (PGP m W)):=h23
 have H24:Hid (∀W pa ia ca ba pc ic cc bc B,Own B W m pa ia ca ba pc ic cc bc→Calls Tryz.prog 24 #[.agg (mcs m pa ia ca ba pc ic cc bc)] W (PGP m W)):=h24
 have H22:Hid (∀W A B,PG m A W→PG m B W→Calls Tryz.prog 22 #[.agg A,.agg B] W (KP (.bool true) W)):=h22
 have hgi:((g:Int) != 0)=true:=by simp;omega
 clear hg
 clear h20 h21 h23 h24 h22
 go_enter Tryz.func6,Tryz.ntmps6
 go_upto_region 4 with (go_at_call 20;refine (H20.out _).mono ?_;rintro e w2 ⟨rfl,hb2⟩)
 have HB2:Hid (Below w.heap.size w w2):=hb2.out
 clear hb2
 go_wp2_with fail
 refine (H21.out _).mono ?_
 rintro e w3 ⟨pa,ia,ca,ba,pc,ic,cc,bc,rfl,HO3,hb3⟩
 have HB3:Hid (Below w.heap.size w w3):=bt HB2.out hb3.out
 have HSZ:Hid ((mcs m pa ia ca ba pc ic cc bc).size=36):=zac _ _ _ _ _ _ _ _ _
 have HST:Hid ((Instr.storeAt 35 (.pointer (some ⟨w3.heap.size,0,none⟩)) (.agg (mcs m pa ia ca ba pc ic cc bc))).run Tryz.prog (w3.alloc (.cells (mcs Mg.z none none none none 0 0 0 0) 35))=.ok () ((w3.alloc (.cells (mcs Mg.z none none none none 0 0 0 0) 35)).setRow w3.heap.size (mcs m pa ia ca ba pc ic cc bc))):=zaw (w3.alloc (.cells (mcs Mg.z none none none none 0 0 0 0) 35)) w3.heap.size _ _ (Bx.new w3 _ _) (zac _ _ _ _ _ _ _ _ _) HSZ.out (zaj _ _ _ _ _ _ _ _ _)
 have HX4:Hid (Bx ((w3.alloc (.cells (mcs Mg.z none none none none 0 0 0 0) 35)).setRow w3.heap.size (mcs m pa ia ca ba pc ic cc bc)) w3.heap.size (mcs m pa ia ca ba pc ic cc bc) 35):=Bx.set (Bx.new w3 _ _)
 have hb34:Below w3.heap.size w3 ((w3.alloc (.cells (mcs Mg.z none none none none 0 0 0 0) 35)).setRow w3.heap.size (mcs m pa ia ca ba pc ic cc bc)):=zad (zab w3 _) (Nat.le_refl _)
 have HB4:Hid (Below w.heap.size w ((w3.alloc (.cells (mcs Mg.z none none none none 0 0 0 0) 35)).setRow w3.heap.size (mcs m pa ia ca ba pc ic cc bc))):=bt HB3.out hb34
 have HO4:Hid (Own w2.heap.size ((w3.alloc (.cells (mcs Mg.z none none none none 0 0 0 0) 35)).setRow w3.heap.size (mcs m pa ia ca ba pc ic cc bc)) m pa ia ca ba pc ic cc bc):=zco HO3.out hb34
 go_upto_region 5 with (guard_target =~ wpList _ _ _ (⟨_,Op.store 35 _ _,_,_,_,_⟩::_) _ _;refine zaf _ _ rfl 35 _ _ rfl _ _ rfl rfl HST.out ?_;go_simp)
 generalize ((w3.alloc (.cells (mcs Mg.z none none none none 0 0 0 0) 35)).setRow w3.heap.size (mcs m pa ia ca ba pc ic cc bc))=w4 at *
 have HC24:Hid (∀W,Own w2.heap.size W m pa ia ca ba pc ic cc bc→Calls Tryz.prog 24 #[.agg (mcs m pa ia ca ba pc ic cc bc)] W (PGP m W)):=fun W h=>H24.out W _ _ _ _ _ _ _ _ _ h
 have HLD:Hid (∀W,Bx W w3.heap.size (mcs m pa ia ca ba pc ic cc bc) 35→(Instr.loadAt 35 (.pointer (some ⟨w3.heap.size,0,none⟩))).run Tryz.prog W=.ok (.agg (mcs m pa ia ca ba pc ic cc bc)) W):=fun W h=>zam W w3.heap.size _ HSZ.out h
 have HKO:Hid (∀W W',Own w2.heap.size W m pa ia ca ba pc ic cc bc→Below W.heap.size W W'→Own w2.heap.size W' m pa ia ca ba pc ic cc bc):=fun W W' h k=>zco h k
 have hO4:Own w2.heap.size w4 m pa ia ca ba pc ic cc bc:=HO4.out
 generalize hMM:(mcs m pa ia ca ba pc ic cc bc)=M at *
 clear hMM HST HSZ hb34 hb3 HB3 HO3 HO4 H20 H21 H24
 generalize w3.heap.size=pp at *
 refine wp_region_held (S:=fun W=>Bx W pp M 35∧Below w.heap.size w W) (by kernel_rfl) ?_
 change wpAnyH _ _ _ _ _ 26 #[false,false,false,false,false,false,false,false,false,false,false,false,false,false,false,false,false,false,false,false,false,false,false,false,false,false] _ w4.drew
 have hS:Bx w4.drew pp M 35∧Below w.heap.size w w4.drew:=⟨HX4.out,zef HB4.out 1⟩
 have hO:Own w2.heap.size w4.drew m pa ia ca ba pc ic cc bc:=⟨hO4.ps,hO4.ins,hO4.cuts,hO4.bar⟩
 clear HX4 HB4 hO4
 obtain ⟨v0,hv0⟩:∃v,v=w4.drew:=⟨_,rfl⟩
 rw [← hv0] at hS hO ⊢
 clear hv0
 refine zae (i:=0) (v:=.nilIface) rfl (by kernel_rfl) (Or.inl ⟨rfl,fun _ _=>rfl⟩) hS ?_
 simp only [pu]
 refine zae (i:=1) (v:=.bool true) rfl (by kernel_rfl) (Or.inl ⟨rfl,fun W hW=>by go_simp⟩) hS ?_
 simp only [pu]
 refine zae (i:=2) (v:=.int .i64 (g:Nat)) rfl (by kernel_rfl) (Or.inl ⟨rfl,fun _ _=>rfl⟩) hS ?_
 simp only [pu]
 refine zae (i:=3) (v:=.bool true) rfl (by kernel_rfl) (Or.inl ⟨rfl,fun W hW=>by go_simp⟩) hS ?_
 simp only [pu]
 refine zae (i:=4) (v:=.bool true) rfl (by kernel_rfl) (Or.inl ⟨rfl,fun W hW=>by go_simp⟩) hS ?_
 simp only [pu]
 refine zae (i:=5) (v:=.bool true) rfl (by kernel_rfl) (Or.inl ⟨rfl,fun _ _=>rfl⟩) hS ?_
 simp only [pu]
 refine zae (i:=6) (v:=.nilIface) rfl (by kernel_rfl) (Or.inl ⟨rfl,fun _ _=>rfl⟩) hS ?_
 simp only [pu]
 refine zae (i:=8) (v:=.agg M) rfl (by kernel_rfl) (Or.inl ⟨rfl,fun W hW=>exl _ _ _ _ rfl _ _ rfl (HLD.out W hW.1)⟩) hS ?_
 simp only [pu]
 refine zap (i:=7) rfl (by kernel_rfl) (fun K hK=>?_)
 rw [if_pos (by rfl)]
 go_simp
 refine (H23.out _).mono ?_
 rintro e w6 ⟨A1,rfl,HA1,HP1,hb6⟩
 refine hK.out _ _ ⟨hS.1.keep hb6.out,bt hS.2 hb6.out⟩ (fun hS6=>?_)
 clear hK
 try simp only [pu]
 have hO6:=HKO.out _ _ hO hb6.out
 refine zap (i:=9) rfl (by kernel_rfl) (fun K hK=>?_)
 rw [if_pos (by rfl)]
 go_simp
 refine (HC24.out _ hO6).mono ?_
 rintro e w7 ⟨A2,rfl,HA2,HP2,hb7⟩
 refine hK.out _ _ ⟨hS6.1.keep hb7.out,bt hS6.2 hb7.out⟩ (fun hS7=>?_)
 clear hK
 try simp only [pu]
 have hP1:=HP1.out.keep hb7.out
 refine zap (i:=10) rfl (by kernel_rfl) (fun K hK=>?_)
 rw [if_pos (by rfl)]
 go_simp
 refine (H22.out _ A1 A2 hP1 HP2.out).mono ?_
 rintro e w8 ⟨rfl,hb8⟩
 refine hK.out _ _ ⟨hS7.1.keep hb8.out,bt hS7.2 hb8.out⟩ (fun hS8=>?_)
 clear hK
 try simp only [pu]
 refine zae (i:=11) (v:=.bool true) rfl (by kernel_rfl) (Or.inl ⟨rfl,fun W hW=>by go_simp⟩) hS8 ?_
 simp only [pu]
 refine zae (i:=12) (v:=.bool true) rfl (by kernel_rfl) (Or.inl ⟨rfl,fun _ _=>rfl⟩) hS8 ?_
 simp only [pu]
 refine zae (i:=13) (v:=.int .i64 (n:Nat)) rfl (by kernel_rfl) (Or.inl ⟨rfl,fun _ _=>rfl⟩) hS8 ?_
 simp only [pu]
 refine zae (i:=14) (v:=.int .i64 (n:Nat)) rfl (by kernel_rfl) (Or.inl ⟨rfl,fun _ _=>rfl⟩) hS8 ?_
 simp only [pu]
 refine zae (i:=15) (v:=.bool true) rfl (by kernel_rfl) (Or.inl ⟨rfl,fun W hW=>by go_simp⟩) hS8 ?_
 simp only [pu]
 refine zae (i:=16) (v:=.bool true) rfl (by kernel_rfl) (Or.inl ⟨rfl,fun W hW=>by go_simp⟩) hS8 ?_
 simp only [pu]
 refine zae (i:=17) (v:=.bool true) rfl (by kernel_rfl) (Or.inl ⟨rfl,fun _ _=>rfl⟩) hS8 ?_
 simp only [pu]
 refine zae (i:=18) (v:=.int .i64 (g:Nat)) rfl (by kernel_rfl) (Or.inl ⟨rfl,fun _ _=>rfl⟩) hS8 ?_
 simp only [pu]
 refine zae (i:=19) (v:=.int .i64 (g:Nat)) rfl (by kernel_rfl) (Or.inl ⟨rfl,fun _ _=>rfl⟩) hS8 ?_
 simp only [pu]
 refine zae (i:=20) (v:=.bool true) rfl (by kernel_rfl) (Or.inl ⟨rfl,fun W hW=>by go_simp⟩) hS8 ?_
 simp only [pu]
 refine zae (i:=21) (v:=.bool true) rfl (by kernel_rfl) (Or.inl ⟨rfl,fun W hW=>by go_simp⟩) hS8 ?_
 simp only [pu]
 refine zae (i:=22) (v:=.bool true) rfl (by kernel_rfl) (Or.inl ⟨rfl,fun _ _=>rfl⟩) hS8 ?_
 simp only [pu]
 refine zap (i:=23) rfl (by kernel_rfl) (fun K hK=>?_)
 rw [if_pos (by rfl)]
 go_simp
 refine (zob _).mono ?_
 rintro e w9 ⟨rfl,hb9⟩
 refine hK.out _ _ ⟨hS8.1.keep hb9.out,bt hS8.2 hb9.out⟩ (fun hS9=>?_)
 clear hK
 try simp only [pu]
 refine zae (i:=24) (v:=.bool true) rfl (by kernel_rfl) (Or.inl ⟨rfl,fun W hW=>by go_simp⟩) hS9 ?_
 simp only [pu]
 refine zae (i:=25) (v:=.bool true) rfl (by kernel_rfl) (Or.inl ⟨rfl,fun _ _=>rfl⟩) hS9 ?_
 simp only [pu]
 refine wpAnyH_done (by kernel_rfl) ?_ _
 have HB9:Hid (Below w.heap.size w w9):=hS9.2
 clear hS hS6 hS7 hS8 hS9
 go_wp2_with fail
 go_ret
 exact KP.mk rfl HB9.out
theorem zt9 (s:ByteArray) (hss:s.size≤3000) (m:Mg) (n:Nat) (w:World)
  (h20:∀W,Calls Tryz.prog 20 #[.string s] W (DcV n (fun q W v=>MV m q W v) W)) (h21:∀W,Calls Tryz.prog 21 #[.string s] W (DQ m n 0 W))
  (h23:∀W q v,MV m q W v→Calls Tryz.prog 23 #[v] W (PGP m W))
  (h24:∀W pa ia ca ba pc ic cc bc B,Own B W m pa ia ca ba pc ic cc bc→Calls Tryz.prog 24 #[.agg (mcs m pa ia ca ba pc ic cc bc)] W (PGP m W))
  (h22:∀W A B,PG m A W→PG m B W→Calls Tryz.prog 22 #[.agg A,.agg B] W (KP (.bool true) W)) (hVn:∀W q v,MV m q W v→∃T u,v=.iface T u):Calls Tryz.prog 6 #[.string s] w (KP (.bool true) w):=by
 have hsi:¬ (s.size:Int) > 3000:=by omega
 have H20:Hid (∀W,Calls Tryz.prog 20 #[.string s] W (DcV n (fun q W v=>MV m q W v) W)):=h20
 have H21:Hid (∀W,Calls Tryz.prog 21 #[.string s] W (DQ m n 0 W)):=h21
 have H23:Hid (∀W q v,MV m q W v→Calls Tryz.prog 23 #[v] W (PGP m W)):=h23
 have H24:Hid (∀W pa ia ca ba pc ic cc bc B,Own B W m pa ia ca ba pc ic cc bc→Calls Tryz.prog 24 #[.agg (mcs m pa ia ca ba pc ic cc bc)] W (PGP m W)):=h24
 have H22:Hid (∀W A B,PG m A W→PG m B W→Calls Tryz.prog 22 #[.agg A,.agg B] W (KP (.bool true) W)):=h22
 have HVn:Hid (∀W q v,MV m q W v→∃T u,v=.iface T u):=hVn
 clear h20 h21 h23 h24 h22 hVn
 go_enter Tryz.func6,Tryz.ntmps6
 go_upto_region 4 with (go_at_call 20;refine (H20.out _).mono ?_;rintro e w2 ⟨v,q,rfl,hq,HMv,hb2⟩)
 obtain ⟨T,u,rfl⟩:=HVn.out w2 q v HMv.out
 have HB2:Hid (Below w.heap.size w w2):=hb2.out
 clear hb2
 go_wp2_with fail
 refine (H21.out _).mono ?_
 rintro e w3 ⟨pa,ia,ca,ba,pc,ic,cc,bc,rfl,HO3,hb3⟩
 have HB3:Hid (Below w.heap.size w w3):=bt HB2.out hb3.out
 have HM3:Hid (MV m q w3 (.iface T u)):=zgu HMv.out hb3.out
 have HSZ:Hid ((mcs m pa ia ca ba pc ic cc bc).size=36):=zac _ _ _ _ _ _ _ _ _
 have HST:Hid ((Instr.storeAt 35 (.pointer (some ⟨w3.heap.size,0,none⟩)) (.agg (mcs m pa ia ca ba pc ic cc bc))).run Tryz.prog (w3.alloc (.cells (mcs Mg.z none none none none 0 0 0 0) 35))=.ok () ((w3.alloc (.cells (mcs Mg.z none none none none 0 0 0 0) 35)).setRow w3.heap.size (mcs m pa ia ca ba pc ic cc bc))):=zaw (w3.alloc (.cells (mcs Mg.z none none none none 0 0 0 0) 35)) w3.heap.size _ _ (Bx.new w3 _ _) (zac _ _ _ _ _ _ _ _ _) HSZ.out (zaj _ _ _ _ _ _ _ _ _)
 have HX4:Hid (Bx ((w3.alloc (.cells (mcs Mg.z none none none none 0 0 0 0) 35)).setRow w3.heap.size (mcs m pa ia ca ba pc ic cc bc)) w3.heap.size (mcs m pa ia ca ba pc ic cc bc) 35):=Bx.set (Bx.new w3 _ _)
 have hb34:Below w3.heap.size w3 ((w3.alloc (.cells (mcs Mg.z none none none none 0 0 0 0) 35)).setRow w3.heap.size (mcs m pa ia ca ba pc ic cc bc)):=zad (zab w3 _) (Nat.le_refl _)
 have HB4:Hid (Below w.heap.size w ((w3.alloc (.cells (mcs Mg.z none none none none 0 0 0 0) 35)).setRow w3.heap.size (mcs m pa ia ca ba pc ic cc bc))):=bt HB3.out hb34
 have HO4:Hid (Own w2.heap.size ((w3.alloc (.cells (mcs Mg.z none none none none 0 0 0 0) 35)).setRow w3.heap.size (mcs m pa ia ca ba pc ic cc bc)) m pa ia ca ba pc ic cc bc):=zco HO3.out hb34
 have HM4:Hid (MV m q ((w3.alloc (.cells (mcs Mg.z none none none none 0 0 0 0) 35)).setRow w3.heap.size (mcs m pa ia ca ba pc ic cc bc)) (.iface T u)):=zgu HM3.out hb34
 go_upto_region 5 with (guard_target =~ wpList _ _ _ (⟨_,Op.store 35 _ _,_,_,_,_⟩::_) _ _;refine zaf _ _ rfl 35 _ _ rfl _ _ rfl rfl HST.out ?_;go_simp)
 generalize ((w3.alloc (.cells (mcs Mg.z none none none none 0 0 0 0) 35)).setRow w3.heap.size (mcs m pa ia ca ba pc ic cc bc))=w4 at *
 have HC24:Hid (∀W,Own w2.heap.size W m pa ia ca ba pc ic cc bc→Calls Tryz.prog 24 #[.agg (mcs m pa ia ca ba pc ic cc bc)] W (PGP m W)):=fun W h=>H24.out W _ _ _ _ _ _ _ _ _ h
 have HLD:Hid (∀W,Bx W w3.heap.size (mcs m pa ia ca ba pc ic cc bc) 35→(Instr.loadAt 35 (.pointer (some ⟨w3.heap.size,0,none⟩))).run Tryz.prog W=.ok (.agg (mcs m pa ia ca ba pc ic cc bc)) W):=fun W h=>zam W w3.heap.size _ HSZ.out h
 have HKO:Hid (∀W W',Own w2.heap.size W m pa ia ca ba pc ic cc bc→Below W.heap.size W W'→Own w2.heap.size W' m pa ia ca ba pc ic cc bc):=fun W W' h k=>zco h k
 have hO4:Own w2.heap.size w4 m pa ia ca ba pc ic cc bc:=HO4.out
 generalize hMM:(mcs m pa ia ca ba pc ic cc bc)=M at *
 clear hMM HST HSZ hb34 hb3 HB3 HO3 HO4 H20 H21 H24
 generalize w3.heap.size=pp at *
 refine wp_region_held (S:=fun W=>Bx W pp M 35∧Below w.heap.size w W) (by kernel_rfl) ?_
 change wpAnyH _ _ _ _ _ 26 #[false,false,false,false,false,false,false,false,false,false,false,false,false,false,false,false,false,false,false,false,false,false,false,false,false,false] _ w4.drew
 have hS:Bx w4.drew pp M 35∧Below w.heap.size w w4.drew:=⟨HX4.out,zef HB4.out 1⟩
 have hO:Own w2.heap.size w4.drew m pa ia ca ba pc ic cc bc:=⟨hO4.ps,hO4.ins,hO4.cuts,hO4.bar⟩
 have hM:MV m q w4.drew (.iface T u):=HM4.out.dr 1
 clear HX4 HB4 hO4
 obtain ⟨v0,hv0⟩:∃v,v=w4.drew:=⟨_,rfl⟩
 rw [← hv0] at hS hO hM ⊢
 clear hv0
 refine zae (i:=0) (v:=.iface T u) rfl (by kernel_rfl) (Or.inl ⟨rfl,fun _ _=>rfl⟩) hS ?_
 simp only [pu]
 refine zae (i:=1) (v:=.bool false) rfl (by kernel_rfl) (Or.inl ⟨rfl,fun W hW=>by go_simp⟩) hS ?_
 simp only [pu]
 refine zae (i:=2) (v:=.int .i64 (0:Nat)) rfl (by kernel_rfl) (Or.inl ⟨rfl,fun _ _=>rfl⟩) hS ?_
 simp only [pu]
 refine zae (i:=3) (v:=.bool false) rfl (by kernel_rfl) (Or.inl ⟨rfl,fun W hW=>by go_simp⟩) hS ?_
 simp only [pu]
 refine zae (i:=4) (v:=.bool true) rfl (by kernel_rfl) (Or.inl ⟨rfl,fun W hW=>by go_simp⟩) hS ?_
 simp only [pu]
 refine zae (i:=5) (v:=.bool true) rfl (by kernel_rfl) (Or.inl ⟨rfl,fun _ _=>rfl⟩) hS ?_
 simp only [pu]
 refine zae (i:=6) (v:=.iface T u) rfl (by kernel_rfl) (Or.inl ⟨rfl,fun _ _=>rfl⟩) hS ?_
 simp only [pu]
 refine zae (i:=8) (v:=.agg M) rfl (by kernel_rfl) (Or.inl ⟨rfl,fun W hW=>exl _ _ _ _ rfl _ _ rfl (HLD.out W hW.1)⟩) hS ?_
 simp only [pu]
 refine zap (i:=7) rfl (by kernel_rfl) (fun K hK=>?_)
 rw [if_pos (by rfl)]
 go_simp
 refine (H23.out _ q _ hM).mono ?_
 rintro e w6 ⟨A1,rfl,HA1,HP1,hb6⟩
 refine hK.out _ _ ⟨hS.1.keep hb6.out,bt hS.2 hb6.out⟩ (fun hS6=>?_)
 clear hK
 try simp only [pu]
 have hO6:=HKO.out _ _ hO hb6.out
 refine zap (i:=9) rfl (by kernel_rfl) (fun K hK=>?_)
 rw [if_pos (by rfl)]
 go_simp
 refine (HC24.out _ hO6).mono ?_
 rintro e w7 ⟨A2,rfl,HA2,HP2,hb7⟩
 refine hK.out _ _ ⟨hS6.1.keep hb7.out,bt hS6.2 hb7.out⟩ (fun hS7=>?_)
 clear hK
 try simp only [pu]
 have hP1:=HP1.out.keep hb7.out
 refine zap (i:=10) rfl (by kernel_rfl) (fun K hK=>?_)
 rw [if_pos (by rfl)]
 go_simp
 refine (H22.out _ A1 A2 hP1 HP2.out).mono ?_
 rintro e w8 ⟨rfl,hb8⟩
 refine hK.out _ _ ⟨hS7.1.keep hb8.out,bt hS7.2 hb8.out⟩ (fun hS8=>?_)
 clear hK
 try simp only [pu]
 refine zae (i:=11) (v:=.bool true) rfl (by kernel_rfl) (Or.inl ⟨rfl,fun W hW=>by go_simp⟩) hS8 ?_
 simp only [pu]
 refine zae (i:=12) (v:=.bool true) rfl (by kernel_rfl) (Or.inl ⟨rfl,fun _ _=>rfl⟩) hS8 ?_
 simp only [pu]
 refine zae (i:=13) (v:=.int .i64 (n:Nat)) rfl (by kernel_rfl) (Or.inl ⟨rfl,fun _ _=>rfl⟩) hS8 ?_
 simp only [pu]
 refine zae (i:=14) (v:=.int .i64 (n:Nat)) rfl (by kernel_rfl) (Or.inl ⟨rfl,fun _ _=>rfl⟩) hS8 ?_
 simp only [pu]
 refine zae (i:=15) (v:=.bool true) rfl (by kernel_rfl) (Or.inl ⟨rfl,fun W hW=>by go_simp⟩) hS8 ?_
 simp only [pu]
 refine zae (i:=16) (v:=.bool true) rfl (by kernel_rfl) (Or.inl ⟨rfl,fun W hW=>by go_simp⟩) hS8 ?_
 simp only [pu]
 refine zae (i:=17) (v:=.bool true) rfl (by kernel_rfl) (Or.inl ⟨rfl,fun _ _=>rfl⟩) hS8 ?_
 simp only [pu]
 refine zae (i:=18) (v:=.int .i64 (0:Nat)) rfl (by kernel_rfl) (Or.inl ⟨rfl,fun _ _=>rfl⟩) hS8 ?_
 simp only [pu]
 refine zae (i:=19) (v:=.int .i64 (0:Nat)) rfl (by kernel_rfl) (Or.inl ⟨rfl,fun _ _=>rfl⟩) hS8 ?_
 simp only [pu]
 refine zae (i:=20) (v:=.bool true) rfl (by kernel_rfl) (Or.inl ⟨rfl,fun W hW=>by go_simp⟩) hS8 ?_
 simp only [pu]
 refine zae (i:=21) (v:=.bool true) rfl (by kernel_rfl) (Or.inl ⟨rfl,fun W hW=>by go_simp⟩) hS8 ?_
 simp only [pu]
 refine zae (i:=22) (v:=.bool true) rfl (by kernel_rfl) (Or.inl ⟨rfl,fun _ _=>rfl⟩) hS8 ?_
 simp only [pu]
 refine zap (i:=23) rfl (by kernel_rfl) (fun K hK=>?_)
 rw [if_pos (by rfl)]
 go_simp
 refine (zob _).mono ?_
 rintro e w9 ⟨rfl,hb9⟩
 refine hK.out _ _ ⟨hS8.1.keep hb9.out,bt hS8.2 hb9.out⟩ (fun hS9=>?_)
 clear hK
 try simp only [pu]
 refine zae (i:=24) (v:=.bool true) rfl (by kernel_rfl) (Or.inl ⟨rfl,fun W hW=>by go_simp⟩) hS9 ?_
 simp only [pu]
 refine zae (i:=25) (v:=.bool true) rfl (by kernel_rfl) (Or.inl ⟨rfl,fun _ _=>rfl⟩) hS9 ?_
 simp only [pu]
 refine wpAnyH_done (by kernel_rfl) ?_ _
 have HB9:Hid (Below w.heap.size w w9):=hS9.2
 clear hS hS6 hS7 hS8 hS9
 go_wp2_with fail
 go_ret
 exact KP.mk rfl HB9.out
theorem zky {C:Cks} {l:List UInt8} {m:Mg} {n g:Nat} (h:zgw C l=(m,n,g)) (hg:g≠0):m=Mg.z:=by
 unfold zgw at h
 split at h
 ·injection h with h _;exact h.symm
 split at h
 ·injection h with h _;exact h.symm
 split at h
 ·injection h with h _;exact h.symm
 split at h
 ·injection h with h _;exact h.symm
 ·injection h with _ h;injection h with _ h;exact absurd h.symm hg
theorem zxi (W:World) (B:Nat):Hld B W Mg.z none none none none:=by
 refine ⟨?_,?_,?_,?_⟩<;>intro h<;>exact absurd h (by decide)
theorem zua {w:World} {e:Ending} {w':World} (h:KP (.agg (mcs Mg.z none none none none 0 0 0 0)) w e w'):PGP Mg.z w e w':=⟨_,h.1,zac _ _ _ _ _ _ _ _ _,⟨none,none,none,none,0,0,0,0,rfl,zxi _ _⟩,h.2⟩
theorem zqc (s:ByteArray) (hbig:3000<s.size) (hsx:s.size≤9223372036854775807) (w:World):Calls Tryz.prog 6 #[.string s] w (KP (.bool true) w):=by
 have hsi:(3000:Int)<(s.size:Int):=by omega
 go_enter Tryz.func6,Tryz.ntmps6
 go_wp2_with (go_at_call 10;refine (zob _).mono ?_;rintro e w2 ⟨rfl,hb2⟩)
 go_ret
 exact KP.mk rfl hb2.out
theorem lDecodes (s:ByteArray) (hs:s.size≤9223372036854775807) (w:World):Calls Tryz.prog 6 #[.string s] w (KP (.bool true) w):=by
 by_cases h3:s.size≤3000
 ·have hss:s.size≤1000000:=by omega
  obtain ⟨m,n,g,hd⟩:∃a b c,zgw C0 s.data.toList=(a,b,c):=⟨_,_,_,rfl⟩
  have h21:∀W,Calls Tryz.prog 21 #[.string s] W (DQ m n g W):=by
   intro W
   have:=zzq s.data.toList (by show s.size≤_;exact hss) W
   rw [hd] at this
   exact this
  by_cases hg:g=0
  ·subst hg
   obtain ⟨e1,e2,e3,e4,e5,e6⟩:=zm9 hd
   have hb2:(zb8 m).length≤1000000:=by
    have e:=congrArg List.length e2
    unfold zuw at e
    rw [List.length_append] at e
    have:s.data.toList.length=s.size:=rfl
    omega
   have hS:=zpc e3
   obtain ⟨l4,l11,l3⟩:=zcs e5
   have hc:m.b.cuts.length≤1000000000000∧m.b.bar.length≤1000000000000:=by
    by_cases hk:m.k=3
    ·have:=hS.b hk;omega
    ·rw [(l3 hk).1,(l3 hk).2];exact ⟨Nat.zero_le _,Nat.zero_le _⟩
   have hp4:m.ps.length≤1000000000000:=by
    by_cases hk:m.k=4
    ·have:=(hS.p hk).1;omega
    ·rw [l4 hk];exact Nat.zero_le _
   have hi11:m.ins.length≤1000000000000:=by
    by_cases hk:m.k=11
    ·have:=(hS.l hk).2.1;omega
    ·rw [l11 hk];exact Nat.zero_le _
   have hns:n=s.size:=e1
   subst hns
   have hVn:∀W q v,MV m q W v→∃T u,v=.iface T u:=by
    intro W q v h
    obtain ⟨pa,ia,ca,ba,pc,ic,cc,bc,B,hq,hO,rfl⟩:=h
    rcases zd0 m.k with h0 | hk | hk | hk | hk | hk | hk | hk | hk | hk | hk | hk | hk | hk | hk | hk
    ·rw [h0] at e6;cases e6
    ·exact ⟨_,_,zuh hk⟩
    ·exact ⟨_,_,zui hk⟩
    ·exact ⟨_,_,zuj hk⟩
    ·exact ⟨_,_,zuk hk⟩
    ·exact ⟨_,_,zul hk⟩
    ·exact ⟨_,_,zum hk⟩
    ·exact ⟨_,_,zun hk⟩
    ·exact ⟨_,_,zuo hk⟩
    ·exact ⟨_,_,zup hk⟩
    ·exact ⟨_,_,zko hk⟩
    ·exact ⟨_,_,zkp hk⟩
    ·exact ⟨_,_,zkq hk⟩
    ·exact ⟨_,_,zkr hk⟩
    ·exact ⟨_,_,zks hk⟩
    ·exact ⟨_,_,zkt hk⟩
   exact zt9 s h3 m s.size w (fun W=>zte s hss W m _ hd) h21 (fun W q v h=>zpq e5 e6 W h)
    (fun W pa ia ca ba pc ic cc bc B hO=>by have:=zg5 (pc:=pc) (ic:=ic) (cc:=cc) (bc:=bc) e6 W (hO.hld e5);rw [e5] at this;exact this)
    (fun W A B ha hb=>zja W ha hb hc.1 hc.2 hp4 hi11) hVn
  ·obtain rfl:=zky hd hg
   refine zqb s h3 Mg.z n g hg w (fun W=>zpi s hss W Mg.z n g hg hd) h21 (fun W=>(zxh W).mono fun _ _ h=>zua h) (fun W pa ia ca ba pc ic cc bc B hO=>?_) (fun W A B ha hb=>zja W ha hb (by decide) (by decide) (by decide) (by decide))
   exact (zt8 Mg.z pa ia ca ba pc ic cc bc rfl W).mono fun _ _ h=>zua h
 ·exact zqc s (by omega) hs w
end Go.Proofs.YtdmlgheajblcdaaGreat
