/- Layer 10: the reference's read, kind by kind. -/
import Derived.Test.YtdmlgheajblcdaaGreatD15
namespace Go.Proofs.YtdmlgheajblcdaaGreat
set_option maxHeartbeats 16000000
set_option maxRecDepth 100000
open Go.RowKit
set_option linter.unusedVariables false
set_option linter.unusedSimpArgs false
set_option maxRecDepth 100000
theorem zty {r r1 r2:Rd} {y0:Int} {y1:List UInt8} (h0:zah r=(r1,y0)) (h1:za4 r1 160=(r2,y1)) (hs:Sm r) (s1:Sm r1) (s2:Sm r2) (w:World):Calls Tryz.prog 62 #[.agg (zaa r),.agg (mcs { Mg.z with k:=1 } none none none none 0 0 0 0)] w (RdP r2 (mcs { Mg.z with k:=1,mem:=y0,name:=y1 } none none none none 0 0 0 0) w):=by
 have HS1:Hid (Sq w r (mcs { Mg.z with k:=1 } none none none none 0 0 0 0) ((((w.alloc (.cells (zaa r) 136)).alloc (.cells (mcs { Mg.z with k:=1 } none none none none 0 0 0 0) 35)).alloc (.cells (zaa ⟨[],0,0⟩) 136)).alloc (.cells (mcs Mg.z none none none none 0 0 0 0) 35))):=Sq.new w r _
 go_enter Tryz.func62,Tryz.ntmps62
 go_upto_region 1 with fail
 show Code.wp _ _ _ _ ((((w.alloc (.cells (zaa r) 136)).alloc (.cells (mcs { Mg.z with k:=1 } none none none none 0 0 0 0) 35)).alloc (.cells (zaa ⟨[],0,0⟩) 136)).alloc (.cells (mcs Mg.z none none none none 0 0 0 0) 35))
 generalize ((((w.alloc (.cells (zaa r) 136)).alloc (.cells (mcs { Mg.z with k:=1 } none none none none 0 0 0 0) 35)).alloc (.cells (zaa ⟨[],0,0⟩) 136)).alloc (.cells (mcs Mg.z none none none none 0 0 0 0) 35))=w1 at *
 have c0:w1.cell? ⟨w.heap.size+1,0,none⟩=some (.int .i64 1):=(HS1.out.b.cell 0).trans rfl
 have HLd:Hid ((Instr.loadAt 136 (.pointer (some ⟨w.heap.size,0,none⟩))).run Tryz.prog w1=.ok (.agg (zaa r)) w1):=za2 _ _ _ HS1.out.z
 go_wp2_with (guard_target =~ wpList _ _ _ (⟨_,Op.load 136 _,_,_,_,_⟩::_) _ _;refine zag _ rfl 136 _ rfl _ rfl _ HLd.out ?_;go_simp)
 refine (zei h0 hs _).mono ?_
 rintro e x1 ⟨rfl,hb⟩
 have HSa:Hid (Sq w r (mcs { Mg.z with k:=1 } none none none none 0 0 0 0) x1):=HS1.out.keep hb.out
 have HSt:Hid ((Instr.storeAt 136 (.pointer (some ⟨w.heap.size,0,none⟩)) (.agg (zaa r1))).run Tryz.prog x1=.ok () (x1.setRow w.heap.size (zaa r1))):=zaq _ _ _ _ HSa.out.z
 have HSb:Hid (Sq w r1 (mcs { Mg.z with k:=1 } none none none none 0 0 0 0) (x1.setRow w.heap.size (zaa r1))):=HSa.out.putZ r1
 clear hb HSa HS1 HLd c0
 generalize hx:x1.setRow w.heap.size (zaa r1)=yw1 at *
 have d:yw1.cell? ⟨w.heap.size+1,1,none⟩=some (.int .i64 0):=(HSb.out.b.cell 1).trans (by kernel_rfl)
 have f:=HSb.out.b.froz 1
 obtain ⟨w2,hw⟩:∃u,u=yw1.setCell ⟨w.heap.size+1,1,none⟩ (.int .i64 y0):=⟨_,rfl⟩
 have HS2:Hid (Sq w r1 (mcs { Mg.z with k:=1,mem:=y0 } none none none none 0 0 0 0) w2):=by unfold Hid;rw [hw];exact HSb.out.putB 1 (.int .i64 y0) (by kernel_rfl)
 clear HSb
 go_upto_region 5 with (guard_target =~ wpList _ _ _ (⟨_,Op.store 136 _ _,_,_,_,_⟩::_) _ _;refine zaf _ _ rfl 136 _ _ rfl _ _ rfl rfl HSt.out ?_;go_simp)
 rw [← hw]
 clear hw hx HSt d f
 have c0:w2.cell? ⟨w.heap.size+1,0,none⟩=some (.int .i64 1):=(HS2.out.b.cell 0).trans rfl
 have HLd:Hid ((Instr.loadAt 136 (.pointer (some ⟨w.heap.size,0,none⟩))).run Tryz.prog w2=.ok (.agg (zaa r1)) w2):=za2 _ _ _ HS2.out.z
 go_wp2_with (guard_target =~ wpList _ _ _ (⟨_,Op.load 136 _,_,_,_,_⟩::_) _ _;refine zag _ rfl 136 _ rfl _ rfl _ HLd.out ?_;go_simp)
 refine (zee ⟨by decide,by decide⟩ h1 s1 _).mono ?_
 rintro e x2 ⟨rfl,hb⟩
 have HSa:Hid (Sq w r1 (mcs { Mg.z with k:=1,mem:=y0 } none none none none 0 0 0 0) x2):=HS2.out.keep hb.out
 have HSt:Hid ((Instr.storeAt 136 (.pointer (some ⟨w.heap.size,0,none⟩)) (.agg (zaa r2))).run Tryz.prog x2=.ok () (x2.setRow w.heap.size (zaa r2))):=zaq _ _ _ _ HSa.out.z
 have HSb:Hid (Sq w r2 (mcs { Mg.z with k:=1,mem:=y0 } none none none none 0 0 0 0) (x2.setRow w.heap.size (zaa r2))):=HSa.out.putZ r2
 clear hb HSa HS2 HLd c0
 generalize hx:x2.setRow w.heap.size (zaa r2)=yw2 at *
 have d:yw2.cell? ⟨w.heap.size+1,2,none⟩=some (.string ⟨#[]⟩):=(HSb.out.b.cell 2).trans (by kernel_rfl)
 have f:=HSb.out.b.froz 2
 obtain ⟨w3,hw⟩:∃u,u=yw2.setCell ⟨w.heap.size+1,2,none⟩ (.string ⟨y1.toArray⟩):=⟨_,rfl⟩
 have HS3:Hid (Sq w r2 (mcs { Mg.z with k:=1,mem:=y0,name:=y1 } none none none none 0 0 0 0) w3):=by unfold Hid;rw [hw];exact HSb.out.putB 2 (.string ⟨y1.toArray⟩) (by kernel_rfl)
 clear HSb
 go_upto_region 6 with (guard_target =~ wpList _ _ _ (⟨_,Op.store 136 _ _,_,_,_,_⟩::_) _ _;refine zaf _ _ rfl 136 _ _ rfl _ _ rfl rfl HSt.out ?_;go_simp)
 rw [← hw]
 clear hw hx HSt d f
 have c0:w3.cell? ⟨w.heap.size+1,0,none⟩=some (.int .i64 1):=(HS3.out.b.cell 0).trans rfl
 have HLd:Hid ((Instr.loadAt 136 (.pointer (some ⟨w.heap.size,0,none⟩))).run Tryz.prog w3=.ok (.agg (zaa r2)) w3):=za2 _ _ _ HS3.out.z
 have HLm:Hid ((Instr.loadAt 35 (.pointer (some ⟨w.heap.size+1,0,none⟩))).run Tryz.prog w3=.ok (.agg (mcs { Mg.z with k:=1,mem:=y0,name:=y1 } none none none none 0 0 0 0)) w3):=zam _ _ _ (zac _ _ _ _ _ _ _ _ _) HS3.out.b
 go_wp2_with (first | (guard_target =~ wpList _ _ _ (⟨_,Op.load 136 _,_,_,_,_⟩::_) _ _;refine zag _ rfl 136 _ rfl _ rfl _ HLd.out ?_;go_simp) | (guard_target =~ wpList _ _ _ (⟨_,Op.load 35 _,_,_,_,_⟩::_) _ _;refine zag _ rfl 35 _ rfl _ rfl _ HLm.out ?_;go_simp))
 refine (zdr 1 (by decide) _ _ rfl (zac _ _ _ _ _ _ _ _ _) (zaj _ _ _ _ _ _ _ _ _) _).mono ?_
 rintro e x3 ⟨rfl,hb⟩
 have HSa:Hid (Sq w r2 (mcs { Mg.z with k:=1,mem:=y0,name:=y1 } none none none none 0 0 0 0) x3):=HS3.out.keep hb.out
 have HSt:Hid ((Instr.storeAt 136 (.pointer (some ⟨w.heap.size+2,0,none⟩)) (.agg (zaa r2))).run Tryz.prog x3=.ok () (x3.setRow (w.heap.size+2) (zaa r2))):=zaq _ _ _ _ HSa.out.y
 have HSu:Hid ((Instr.storeAt 35 (.pointer (some ⟨w.heap.size+3,0,none⟩)) (.agg (mcs { Mg.z with k:=1,mem:=y0,name:=y1 } none none none none 0 0 0 0))).run Tryz.prog (x3.setRow (w.heap.size+2) (zaa r2))=.ok () ((x3.setRow (w.heap.size+2) (zaa r2)).setRow (w.heap.size+3) (mcs { Mg.z with k:=1,mem:=y0,name:=y1 } none none none none 0 0 0 0))):=zaw _ (w.heap.size+3) _ _ (HSa.out.v.other (by omega)) (zac _ _ _ _ _ _ _ _ _) (zac _ _ _ _ _ _ _ _ _) (zaj _ _ _ _ _ _ _ _ _)
 have hl1:=zbi ((x3.setRow (w.heap.size+2) (zaa r2)).setRow (w.heap.size+3) (mcs { Mg.z with k:=1,mem:=y0,name:=y1 } none none none none 0 0 0 0)) (w.heap.size+2) r2 (HSa.out.y.set.other (by omega))
 have hl2:=zbb ((x3.setRow (w.heap.size+2) (zaa r2)).setRow (w.heap.size+3) (mcs { Mg.z with k:=1,mem:=y0,name:=y1 } none none none none 0 0 0 0)) (w.heap.size+3) (mcs { Mg.z with k:=1,mem:=y0,name:=y1 } none none none none 0 0 0 0) (zac _ _ _ _ _ _ _ _ _) ((HSa.out.v.other (by omega)).set)
 have HBz:Hid (Below w.heap.size w ((x3.setRow (w.heap.size+2) (zaa r2)).setRow (w.heap.size+3) (mcs { Mg.z with k:=1,mem:=y0,name:=y1 } none none none none 0 0 0 0))):=zad (zad HSa.out.c (by omega)) (by omega)
 clear HSa HLd HLm hb HS3 c0
 generalize (mcs { Mg.z with k:=1,mem:=y0,name:=y1 } none none none none 0 0 0 0)=AZ at *
 go_wp2_with (first | (guard_target =~ wpList _ _ _ (⟨_,Op.store 136 _ _,_,_,_,_⟩::_) _ _;refine zaf _ _ rfl 136 _ _ rfl _ _ rfl rfl HSt.out ?_;go_simp) | (guard_target =~ wpList _ _ _ (⟨_,Op.store 35 _ _,_,_,_,_⟩::_) _ _;refine zaf _ _ rfl 35 _ _ rfl _ _ rfl rfl HSu.out ?_;go_simp))
 refine bodyPost_ret (za3 _ _ 4 136 5 35 _ _ _ _ _ rfl rfl rfl hl1 hl2) rfl ?_
 exact ⟨rfl,HBz⟩
theorem ztz {r r1 r2 r3 r4 r5:Rd} {y0:List UInt8} {y1:Int} {y2:Int} {y3:Int} {y4:List UInt8} (h0:za4 r 12=(r1,y0)) (h1:zah r1=(r2,y1)) (h2:zah r2=(r3,y2)) (h3:zah r3=(r4,y3)) (h4:za4 r4 12=(r5,y4)) (hs:Sm r) (s1:Sm r1) (s2:Sm r2) (s3:Sm r3) (s4:Sm r4) (s5:Sm r5) (w:World):Calls Tryz.prog 62 #[.agg (zaa r),.agg (mcs { Mg.z with k:=2 } none none none none 0 0 0 0)] w (RdP r5 (mcs { Mg.z with k:=2,a:=⟨y0,y1,y2,y3,y4⟩ } none none none none 0 0 0 0) w):=by
 have HS1:Hid (Sq w r (mcs { Mg.z with k:=2 } none none none none 0 0 0 0) ((((w.alloc (.cells (zaa r) 136)).alloc (.cells (mcs { Mg.z with k:=2 } none none none none 0 0 0 0) 35)).alloc (.cells (zaa ⟨[],0,0⟩) 136)).alloc (.cells (mcs Mg.z none none none none 0 0 0 0) 35))):=Sq.new w r _
 go_enter Tryz.func62,Tryz.ntmps62
 go_upto_region 1 with fail
 show Code.wp _ _ _ _ ((((w.alloc (.cells (zaa r) 136)).alloc (.cells (mcs { Mg.z with k:=2 } none none none none 0 0 0 0) 35)).alloc (.cells (zaa ⟨[],0,0⟩) 136)).alloc (.cells (mcs Mg.z none none none none 0 0 0 0) 35))
 generalize ((((w.alloc (.cells (zaa r) 136)).alloc (.cells (mcs { Mg.z with k:=2 } none none none none 0 0 0 0) 35)).alloc (.cells (zaa ⟨[],0,0⟩) 136)).alloc (.cells (mcs Mg.z none none none none 0 0 0 0) 35))=w1 at *
 have c0:w1.cell? ⟨w.heap.size+1,0,none⟩=some (.int .i64 2):=(HS1.out.b.cell 0).trans rfl
 have HLd:Hid ((Instr.loadAt 136 (.pointer (some ⟨w.heap.size,0,none⟩))).run Tryz.prog w1=.ok (.agg (zaa r)) w1):=za2 _ _ _ HS1.out.z
 go_wp2_with (guard_target =~ wpList _ _ _ (⟨_,Op.load 136 _,_,_,_,_⟩::_) _ _;refine zag _ rfl 136 _ rfl _ rfl _ HLd.out ?_;go_simp)
 refine (zee ⟨by decide,by decide⟩ h0 hs _).mono ?_
 rintro e x1 ⟨rfl,hb⟩
 have HSa:Hid (Sq w r (mcs { Mg.z with k:=2 } none none none none 0 0 0 0) x1):=HS1.out.keep hb.out
 have HSt:Hid ((Instr.storeAt 136 (.pointer (some ⟨w.heap.size,0,none⟩)) (.agg (zaa r1))).run Tryz.prog x1=.ok () (x1.setRow w.heap.size (zaa r1))):=zaq _ _ _ _ HSa.out.z
 have HSb:Hid (Sq w r1 (mcs { Mg.z with k:=2 } none none none none 0 0 0 0) (x1.setRow w.heap.size (zaa r1))):=HSa.out.putZ r1
 clear hb HSa HS1 HLd c0
 generalize hx:x1.setRow w.heap.size (zaa r1)=yw1 at *
 have d:yw1.cell? ⟨w.heap.size+1,3,none⟩=some (.string ⟨#[]⟩):=(HSb.out.b.cell 3).trans (by kernel_rfl)
 have f:=HSb.out.b.froz 3
 obtain ⟨w2,hw⟩:∃u,u=yw1.setCell ⟨w.heap.size+1,3,none⟩ (.string ⟨y0.toArray⟩):=⟨_,rfl⟩
 have HS2:Hid (Sq w r1 (mcs { Mg.z with k:=2,a:=⟨y0,0,0,0,[]⟩ } none none none none 0 0 0 0) w2):=by unfold Hid;rw [hw];exact HSb.out.putB 3 (.string ⟨y0.toArray⟩) (by kernel_rfl)
 clear HSb
 go_upto_region 8 with (guard_target =~ wpList _ _ _ (⟨_,Op.store 136 _ _,_,_,_,_⟩::_) _ _;refine zaf _ _ rfl 136 _ _ rfl _ _ rfl rfl HSt.out ?_;go_simp)
 rw [← hw]
 clear hw hx HSt d f
 have c0:w2.cell? ⟨w.heap.size+1,0,none⟩=some (.int .i64 2):=(HS2.out.b.cell 0).trans rfl
 have HLd:Hid ((Instr.loadAt 136 (.pointer (some ⟨w.heap.size,0,none⟩))).run Tryz.prog w2=.ok (.agg (zaa r1)) w2):=za2 _ _ _ HS2.out.z
 go_wp2_with (guard_target =~ wpList _ _ _ (⟨_,Op.load 136 _,_,_,_,_⟩::_) _ _;refine zag _ rfl 136 _ rfl _ rfl _ HLd.out ?_;go_simp)
 refine (ze8 h1 h2 h3 s1 _).mono ?_
 rintro e x2 ⟨la,lc,rfl,HO,hb⟩
 have hle:w.heap.size+4≤w2.heap.size:=HS2.out.lt
 obtain ⟨lg,hla⟩:=zbp HO.out (by omega)
 subst hla
 have HSa:Hid (Sq w r1 (mcs { Mg.z with k:=2,a:=⟨y0,0,0,0,[]⟩ } none none none none 0 0 0 0) x2):=HS2.out.keep hb.out
 have HSt:Hid ((Instr.storeAt 136 (.pointer (some ⟨w.heap.size,0,none⟩)) (.agg (zaa r4))).run Tryz.prog x2=.ok () (x2.setRow w.heap.size (zaa r4))):=zaq _ _ _ _ HSa.out.z
 have HS3:Hid (Sq w r4 (mcs { Mg.z with k:=2,a:=⟨y0,0,0,0,[]⟩ } none none none none 0 0 0 0) (x2.setRow w.heap.size (zaa r4))):=HSa.out.putZ r4
 have HOl:Hid ((x2.setRow w.heap.size (zaa r4)).ownsRow (w.heap.size+4) 3 1 (.slice (some ⟨lg,0,none⟩) 3 lc) 3 (zal [y1,y2,y3])):=zau (zat HO.out HSa.out.z (by decide)) hle
 clear hb HSa HS2 HLd HO c0
 generalize hx:x2.setRow w.heap.size (zaa r4)=w3 at *
 go_upto_region 9 with (guard_target =~ wpList _ _ _ (⟨_,Op.store 136 _ _,_,_,_,_⟩::_) _ _;refine zaf _ _ rfl 136 _ _ rfl _ _ rfl rfl HSt.out ?_;go_simp)
 clear hx HSt
 have c0:w3.cell? ⟨w.heap.size+1,0,none⟩=some (.int .i64 2):=(HS3.out.b.cell 0).trans rfl
 go_wp2_with fail
 refine wp_region_held (S:=fun W=>W.ownsRow (w.heap.size+4) 3 1 (.slice (some ⟨lg,0,none⟩) 3 lc) 3 (zal [y1,y2,y3])) (by kernel_rfl) ?_
 change wpAnyH _ _ _ _ _ 18 #[false,false,false,false,false,false,false,false,false,false,false,false,false,false,false,false,false,false] _ w3.drew
 have hS0:w3.drew.ownsRow (w.heap.size+4) 3 1 (.slice (some ⟨lg,0,none⟩) 3 lc) 3 (zal [y1,y2,y3]):=HOl.out
 have hQ0:Sq w r4 (mcs { Mg.z with k:=2,a:=⟨y0,0,0,0,[]⟩ } none none none none 0 0 0 0) w3.drew:=HS3.out.drewN 1
 clear HOl HS3 c0
 obtain ⟨v0,hv0⟩:∃u,u=w3.drew:=⟨_,rfl⟩
 rw [← hv0] at hS0 hQ0 ⊢
 clear hv0
 refine zae (i:=0) (v:=.slice (some ⟨lg,0,none⟩) 3 lc) rfl (by kernel_rfl) (Or.inl ⟨rfl,fun _ _=>rfl⟩) hS0 ?_
 simp only [pu]
 refine zae (i:=1) (v:=.pointer (some ⟨lg,0,none⟩)) rfl (by kernel_rfl) (Or.inl ⟨rfl,fun W hW=>by go_simp⟩) hS0 ?_
 simp only [pu]
 refine zae (i:=2) (v:=.int .i64 y1) rfl (by kernel_rfl) (Or.inl ⟨rfl,fun W hW=>by have cj:W.cell? ⟨lg,0,none⟩=some (.int .i64 y1):=zbe hW 0 rfl;go_simp⟩) hS0 ?_
 simp only [pu]
 refine zae (i:=3) (v:=.slice (some ⟨lg,0,none⟩) 3 lc) rfl (by kernel_rfl) (Or.inl ⟨rfl,fun _ _=>rfl⟩) hS0 ?_
 simp only [pu]
 refine zae (i:=4) (v:=.pointer (some ⟨lg,1,none⟩)) rfl (by kernel_rfl) (Or.inl ⟨rfl,fun W hW=>by go_simp⟩) hS0 ?_
 simp only [pu]
 refine zae (i:=5) (v:=.int .i64 y2) rfl (by kernel_rfl) (Or.inl ⟨rfl,fun W hW=>by have cj:W.cell? ⟨lg,1,none⟩=some (.int .i64 y2):=zbe hW 1 rfl;go_simp⟩) hS0 ?_
 simp only [pu]
 refine zae (i:=6) (v:=.slice (some ⟨lg,0,none⟩) 3 lc) rfl (by kernel_rfl) (Or.inl ⟨rfl,fun _ _=>rfl⟩) hS0 ?_
 simp only [pu]
 refine zae (i:=7) (v:=.pointer (some ⟨lg,2,none⟩)) rfl (by kernel_rfl) (Or.inl ⟨rfl,fun W hW=>by go_simp⟩) hS0 ?_
 simp only [pu]
 refine zae (i:=8) (v:=.int .i64 y3) rfl (by kernel_rfl) (Or.inl ⟨rfl,fun W hW=>by have cj:W.cell? ⟨lg,2,none⟩=some (.int .i64 y3):=zbe hW 2 rfl;go_simp⟩) hS0 ?_
 simp only [pu]
 refine zae (i:=9) (v:=.pointer (some ⟨w.heap.size+1,3,none⟩)) rfl (by kernel_rfl) (Or.inl ⟨rfl,fun W hW=>by go_simp⟩) hS0 ?_
 simp only [pu]
 refine zae (i:=10) (v:=.pointer (some ⟨w.heap.size+1,4,none⟩)) rfl (by kernel_rfl) (Or.inl ⟨rfl,fun W hW=>by go_simp⟩) hS0 ?_
 simp only [pu]
 have d0:v0.cell? ⟨w.heap.size+1,4,none⟩=some (.int .i64 0):=(hQ0.b.cell 4).trans (by kernel_rfl)
 have hQ1:Sq w r4 (mcs { Mg.z with k:=2,a:=⟨y0,y1,0,0,[]⟩ } none none none none 0 0 0 0) (v0.setCell ⟨w.heap.size+1,4,none⟩ (.int .i64 y1)):=hQ0.putB 4 _ (by kernel_rfl)
 refine zap (i:=11) rfl (by kernel_rfl) (fun K hK=>?_)
 rw [if_pos (by rfl)]
 refine zao _ _ 3 _ _ rfl _ _ rfl rfl (zbu _ _ 4 _ _ d0 (hQ0.b.froz 4)) ?_
 refine hK.out _ _ (za8 hS0 (by omega) (Bt.set _ _ 4 _)) (fun hS1=>?_)
 clear hK d0 hQ0 hS0
 try simp only [pu]
 generalize v0.setCell ⟨w.heap.size+1,4,none⟩ (.int .i64 y1)=v1 at *
 refine zae (i:=12) (v:=.pointer (some ⟨w.heap.size+1,3,none⟩)) rfl (by kernel_rfl) (Or.inl ⟨rfl,fun W hW=>by go_simp⟩) hS1 ?_
 simp only [pu]
 refine zae (i:=13) (v:=.pointer (some ⟨w.heap.size+1,5,none⟩)) rfl (by kernel_rfl) (Or.inl ⟨rfl,fun W hW=>by go_simp⟩) hS1 ?_
 simp only [pu]
 have d1:v1.cell? ⟨w.heap.size+1,5,none⟩=some (.int .i64 0):=(hQ1.b.cell 5).trans (by kernel_rfl)
 have hQ2:Sq w r4 (mcs { Mg.z with k:=2,a:=⟨y0,y1,y2,0,[]⟩ } none none none none 0 0 0 0) (v1.setCell ⟨w.heap.size+1,5,none⟩ (.int .i64 y2)):=hQ1.putB 5 _ (by kernel_rfl)
 refine zap (i:=14) rfl (by kernel_rfl) (fun K hK=>?_)
 rw [if_pos (by rfl)]
 refine zao _ _ 3 _ _ rfl _ _ rfl rfl (zbu _ _ 5 _ _ d1 (hQ1.b.froz 5)) ?_
 refine hK.out _ _ (za8 hS1 (by omega) (Bt.set _ _ 5 _)) (fun hS2=>?_)
 clear hK d1 hQ1 hS1
 try simp only [pu]
 generalize v1.setCell ⟨w.heap.size+1,5,none⟩ (.int .i64 y2)=v2 at *
 refine zae (i:=15) (v:=.pointer (some ⟨w.heap.size+1,3,none⟩)) rfl (by kernel_rfl) (Or.inl ⟨rfl,fun W hW=>by go_simp⟩) hS2 ?_
 simp only [pu]
 refine zae (i:=16) (v:=.pointer (some ⟨w.heap.size+1,6,none⟩)) rfl (by kernel_rfl) (Or.inl ⟨rfl,fun W hW=>by go_simp⟩) hS2 ?_
 simp only [pu]
 have d2:v2.cell? ⟨w.heap.size+1,6,none⟩=some (.int .i64 0):=(hQ2.b.cell 6).trans (by kernel_rfl)
 have hQ3:Sq w r4 (mcs { Mg.z with k:=2,a:=⟨y0,y1,y2,y3,[]⟩ } none none none none 0 0 0 0) (v2.setCell ⟨w.heap.size+1,6,none⟩ (.int .i64 y3)):=hQ2.putB 6 _ (by kernel_rfl)
 refine zap (i:=17) rfl (by kernel_rfl) (fun K hK=>?_)
 rw [if_pos (by rfl)]
 refine zao _ _ 3 _ _ rfl _ _ rfl rfl (zbu _ _ 6 _ _ d2 (hQ2.b.froz 6)) ?_
 refine hK.out _ _ (za8 hS2 (by omega) (Bt.set _ _ 6 _)) (fun hS3=>?_)
 clear hK d2 hQ2 hS2
 try simp only [pu]
 generalize v2.setCell ⟨w.heap.size+1,6,none⟩ (.int .i64 y3)=v3 at *
 refine wpAnyH_done (by kernel_rfl) ?_ _
 have HS4:Hid (Sq w r4 (mcs { Mg.z with k:=2,a:=⟨y0,y1,y2,y3,[]⟩ } none none none none 0 0 0 0) v3):=hQ3
 clear hQ3 hS3
 generalize v3=w4 at *
 have c0:w4.cell? ⟨w.heap.size+1,0,none⟩=some (.int .i64 2):=(HS4.out.b.cell 0).trans rfl
 go_upto_region 10 with fail
 have HLd:Hid ((Instr.loadAt 136 (.pointer (some ⟨w.heap.size,0,none⟩))).run Tryz.prog w4=.ok (.agg (zaa r4)) w4):=za2 _ _ _ HS4.out.z
 go_wp2_with (guard_target =~ wpList _ _ _ (⟨_,Op.load 136 _,_,_,_,_⟩::_) _ _;refine zag _ rfl 136 _ rfl _ rfl _ HLd.out ?_;go_simp)
 refine (zee ⟨by decide,by decide⟩ h4 s4 _).mono ?_
 rintro e x4 ⟨rfl,hb⟩
 have HSa:Hid (Sq w r4 (mcs { Mg.z with k:=2,a:=⟨y0,y1,y2,y3,[]⟩ } none none none none 0 0 0 0) x4):=HS4.out.keep hb.out
 have HSt:Hid ((Instr.storeAt 136 (.pointer (some ⟨w.heap.size,0,none⟩)) (.agg (zaa r5))).run Tryz.prog x4=.ok () (x4.setRow w.heap.size (zaa r5))):=zaq _ _ _ _ HSa.out.z
 have HSb:Hid (Sq w r5 (mcs { Mg.z with k:=2,a:=⟨y0,y1,y2,y3,[]⟩ } none none none none 0 0 0 0) (x4.setRow w.heap.size (zaa r5))):=HSa.out.putZ r5
 clear hb HSa HS4 HLd c0
 generalize hx:x4.setRow w.heap.size (zaa r5)=yw4 at *
 have d:yw4.cell? ⟨w.heap.size+1,7,none⟩=some (.string ⟨#[]⟩):=(HSb.out.b.cell 7).trans (by kernel_rfl)
 have f:=HSb.out.b.froz 7
 obtain ⟨w5,hw⟩:∃u,u=yw4.setCell ⟨w.heap.size+1,7,none⟩ (.string ⟨y4.toArray⟩):=⟨_,rfl⟩
 have HS5:Hid (Sq w r5 (mcs { Mg.z with k:=2,a:=⟨y0,y1,y2,y3,y4⟩ } none none none none 0 0 0 0) w5):=by unfold Hid;rw [hw];exact HSb.out.putB 7 (.string ⟨y4.toArray⟩) (by kernel_rfl)
 clear HSb
 go_upto_region 11 with (guard_target =~ wpList _ _ _ (⟨_,Op.store 136 _ _,_,_,_,_⟩::_) _ _;refine zaf _ _ rfl 136 _ _ rfl _ _ rfl rfl HSt.out ?_;go_simp)
 rw [← hw]
 clear hw hx HSt d f
 have c0:w5.cell? ⟨w.heap.size+1,0,none⟩=some (.int .i64 2):=(HS5.out.b.cell 0).trans rfl
 have HLd:Hid ((Instr.loadAt 136 (.pointer (some ⟨w.heap.size,0,none⟩))).run Tryz.prog w5=.ok (.agg (zaa r5)) w5):=za2 _ _ _ HS5.out.z
 have HLm:Hid ((Instr.loadAt 35 (.pointer (some ⟨w.heap.size+1,0,none⟩))).run Tryz.prog w5=.ok (.agg (mcs { Mg.z with k:=2,a:=⟨y0,y1,y2,y3,y4⟩ } none none none none 0 0 0 0)) w5):=zam _ _ _ (zac _ _ _ _ _ _ _ _ _) HS5.out.b
 go_wp2_with (first | (guard_target =~ wpList _ _ _ (⟨_,Op.load 136 _,_,_,_,_⟩::_) _ _;refine zag _ rfl 136 _ rfl _ rfl _ HLd.out ?_;go_simp) | (guard_target =~ wpList _ _ _ (⟨_,Op.load 35 _,_,_,_,_⟩::_) _ _;refine zag _ rfl 35 _ rfl _ rfl _ HLm.out ?_;go_simp))
 refine (zdr 2 (by decide) _ _ rfl (zac _ _ _ _ _ _ _ _ _) (zaj _ _ _ _ _ _ _ _ _) _).mono ?_
 rintro e x5 ⟨rfl,hb⟩
 have HSa:Hid (Sq w r5 (mcs { Mg.z with k:=2,a:=⟨y0,y1,y2,y3,y4⟩ } none none none none 0 0 0 0) x5):=HS5.out.keep hb.out
 have HSt:Hid ((Instr.storeAt 136 (.pointer (some ⟨w.heap.size+2,0,none⟩)) (.agg (zaa r5))).run Tryz.prog x5=.ok () (x5.setRow (w.heap.size+2) (zaa r5))):=zaq _ _ _ _ HSa.out.y
 have HSu:Hid ((Instr.storeAt 35 (.pointer (some ⟨w.heap.size+3,0,none⟩)) (.agg (mcs { Mg.z with k:=2,a:=⟨y0,y1,y2,y3,y4⟩ } none none none none 0 0 0 0))).run Tryz.prog (x5.setRow (w.heap.size+2) (zaa r5))=.ok () ((x5.setRow (w.heap.size+2) (zaa r5)).setRow (w.heap.size+3) (mcs { Mg.z with k:=2,a:=⟨y0,y1,y2,y3,y4⟩ } none none none none 0 0 0 0))):=zaw _ (w.heap.size+3) _ _ (HSa.out.v.other (by omega)) (zac _ _ _ _ _ _ _ _ _) (zac _ _ _ _ _ _ _ _ _) (zaj _ _ _ _ _ _ _ _ _)
 have hl1:=zbi ((x5.setRow (w.heap.size+2) (zaa r5)).setRow (w.heap.size+3) (mcs { Mg.z with k:=2,a:=⟨y0,y1,y2,y3,y4⟩ } none none none none 0 0 0 0)) (w.heap.size+2) r5 (HSa.out.y.set.other (by omega))
 have hl2:=zbb ((x5.setRow (w.heap.size+2) (zaa r5)).setRow (w.heap.size+3) (mcs { Mg.z with k:=2,a:=⟨y0,y1,y2,y3,y4⟩ } none none none none 0 0 0 0)) (w.heap.size+3) (mcs { Mg.z with k:=2,a:=⟨y0,y1,y2,y3,y4⟩ } none none none none 0 0 0 0) (zac _ _ _ _ _ _ _ _ _) ((HSa.out.v.other (by omega)).set)
 have HBz:Hid (Below w.heap.size w ((x5.setRow (w.heap.size+2) (zaa r5)).setRow (w.heap.size+3) (mcs { Mg.z with k:=2,a:=⟨y0,y1,y2,y3,y4⟩ } none none none none 0 0 0 0))):=zad (zad HSa.out.c (by omega)) (by omega)
 clear HSa HLd HLm hb HS5 c0
 generalize (mcs { Mg.z with k:=2,a:=⟨y0,y1,y2,y3,y4⟩ } none none none none 0 0 0 0)=AZ at *
 go_wp2_with (first | (guard_target =~ wpList _ _ _ (⟨_,Op.store 136 _ _,_,_,_,_⟩::_) _ _;refine zaf _ _ rfl 136 _ _ rfl _ _ rfl rfl HSt.out ?_;go_simp) | (guard_target =~ wpList _ _ _ (⟨_,Op.store 35 _ _,_,_,_,_⟩::_) _ _;refine zaf _ _ rfl 35 _ _ rfl _ _ rfl rfl HSu.out ?_;go_simp))
 refine bodyPost_ret (za3 _ _ 4 136 5 35 _ _ _ _ _ rfl rfl rfl hl1 hl2) rfl ?_
 exact ⟨rfl,HBz⟩
theorem zt0 {r r1:Rd} {y0:Int} (h0:zah r=(r1,y0)) (hs:Sm r) (s1:Sm r1) (w:World):Calls Tryz.prog 62 #[.agg (zaa r),.agg (mcs { Mg.z with k:=5 } none none none none 0 0 0 0)] w (RdP r1 (mcs { Mg.z with k:=5,day:=y0 } none none none none 0 0 0 0) w):=by
 have HS1:Hid (Sq w r (mcs { Mg.z with k:=5 } none none none none 0 0 0 0) ((((w.alloc (.cells (zaa r) 136)).alloc (.cells (mcs { Mg.z with k:=5 } none none none none 0 0 0 0) 35)).alloc (.cells (zaa ⟨[],0,0⟩) 136)).alloc (.cells (mcs Mg.z none none none none 0 0 0 0) 35))):=Sq.new w r _
 go_enter Tryz.func62,Tryz.ntmps62
 go_upto_region 1 with fail
 show Code.wp _ _ _ _ ((((w.alloc (.cells (zaa r) 136)).alloc (.cells (mcs { Mg.z with k:=5 } none none none none 0 0 0 0) 35)).alloc (.cells (zaa ⟨[],0,0⟩) 136)).alloc (.cells (mcs Mg.z none none none none 0 0 0 0) 35))
 generalize ((((w.alloc (.cells (zaa r) 136)).alloc (.cells (mcs { Mg.z with k:=5 } none none none none 0 0 0 0) 35)).alloc (.cells (zaa ⟨[],0,0⟩) 136)).alloc (.cells (mcs Mg.z none none none none 0 0 0 0) 35))=w1 at *
 have c0:w1.cell? ⟨w.heap.size+1,0,none⟩=some (.int .i64 5):=(HS1.out.b.cell 0).trans rfl
 have HLd:Hid ((Instr.loadAt 136 (.pointer (some ⟨w.heap.size,0,none⟩))).run Tryz.prog w1=.ok (.agg (zaa r)) w1):=za2 _ _ _ HS1.out.z
 go_wp2_with (guard_target =~ wpList _ _ _ (⟨_,Op.load 136 _,_,_,_,_⟩::_) _ _;refine zag _ rfl 136 _ rfl _ rfl _ HLd.out ?_;go_simp)
 refine (zei h0 hs _).mono ?_
 rintro e x1 ⟨rfl,hb⟩
 have HSa:Hid (Sq w r (mcs { Mg.z with k:=5 } none none none none 0 0 0 0) x1):=HS1.out.keep hb.out
 have HSt:Hid ((Instr.storeAt 136 (.pointer (some ⟨w.heap.size,0,none⟩)) (.agg (zaa r1))).run Tryz.prog x1=.ok () (x1.setRow w.heap.size (zaa r1))):=zaq _ _ _ _ HSa.out.z
 have HSb:Hid (Sq w r1 (mcs { Mg.z with k:=5 } none none none none 0 0 0 0) (x1.setRow w.heap.size (zaa r1))):=HSa.out.putZ r1
 clear hb HSa HS1 HLd c0
 generalize hx:x1.setRow w.heap.size (zaa r1)=yw1 at *
 have d:yw1.cell? ⟨w.heap.size+1,19,none⟩=some (.int .i64 0):=(HSb.out.b.cell 19).trans (by kernel_rfl)
 have f:=HSb.out.b.froz 19
 obtain ⟨w2,hw⟩:∃u,u=yw1.setCell ⟨w.heap.size+1,19,none⟩ (.int .i64 y0):=⟨_,rfl⟩
 have HS2:Hid (Sq w r1 (mcs { Mg.z with k:=5,day:=y0 } none none none none 0 0 0 0) w2):=by unfold Hid;rw [hw];exact HSb.out.putB 19 (.int .i64 y0) (by kernel_rfl)
 clear HSb
 go_upto_region 23 with (guard_target =~ wpList _ _ _ (⟨_,Op.store 136 _ _,_,_,_,_⟩::_) _ _;refine zaf _ _ rfl 136 _ _ rfl _ _ rfl rfl HSt.out ?_;go_simp)
 rw [← hw]
 clear hw hx HSt d f
 have c0:w2.cell? ⟨w.heap.size+1,0,none⟩=some (.int .i64 5):=(HS2.out.b.cell 0).trans rfl
 have HLd:Hid ((Instr.loadAt 136 (.pointer (some ⟨w.heap.size,0,none⟩))).run Tryz.prog w2=.ok (.agg (zaa r1)) w2):=za2 _ _ _ HS2.out.z
 have HLm:Hid ((Instr.loadAt 35 (.pointer (some ⟨w.heap.size+1,0,none⟩))).run Tryz.prog w2=.ok (.agg (mcs { Mg.z with k:=5,day:=y0 } none none none none 0 0 0 0)) w2):=zam _ _ _ (zac _ _ _ _ _ _ _ _ _) HS2.out.b
 go_wp2_with (first | (guard_target =~ wpList _ _ _ (⟨_,Op.load 136 _,_,_,_,_⟩::_) _ _;refine zag _ rfl 136 _ rfl _ rfl _ HLd.out ?_;go_simp) | (guard_target =~ wpList _ _ _ (⟨_,Op.load 35 _,_,_,_,_⟩::_) _ _;refine zag _ rfl 35 _ rfl _ rfl _ HLm.out ?_;go_simp))
 refine (zdr 5 (by decide) _ _ rfl (zac _ _ _ _ _ _ _ _ _) (zaj _ _ _ _ _ _ _ _ _) _).mono ?_
 rintro e x2 ⟨rfl,hb⟩
 have HSa:Hid (Sq w r1 (mcs { Mg.z with k:=5,day:=y0 } none none none none 0 0 0 0) x2):=HS2.out.keep hb.out
 have HSt:Hid ((Instr.storeAt 136 (.pointer (some ⟨w.heap.size+2,0,none⟩)) (.agg (zaa r1))).run Tryz.prog x2=.ok () (x2.setRow (w.heap.size+2) (zaa r1))):=zaq _ _ _ _ HSa.out.y
 have HSu:Hid ((Instr.storeAt 35 (.pointer (some ⟨w.heap.size+3,0,none⟩)) (.agg (mcs { Mg.z with k:=5,day:=y0 } none none none none 0 0 0 0))).run Tryz.prog (x2.setRow (w.heap.size+2) (zaa r1))=.ok () ((x2.setRow (w.heap.size+2) (zaa r1)).setRow (w.heap.size+3) (mcs { Mg.z with k:=5,day:=y0 } none none none none 0 0 0 0))):=zaw _ (w.heap.size+3) _ _ (HSa.out.v.other (by omega)) (zac _ _ _ _ _ _ _ _ _) (zac _ _ _ _ _ _ _ _ _) (zaj _ _ _ _ _ _ _ _ _)
 have hl1:=zbi ((x2.setRow (w.heap.size+2) (zaa r1)).setRow (w.heap.size+3) (mcs { Mg.z with k:=5,day:=y0 } none none none none 0 0 0 0)) (w.heap.size+2) r1 (HSa.out.y.set.other (by omega))
 have hl2:=zbb ((x2.setRow (w.heap.size+2) (zaa r1)).setRow (w.heap.size+3) (mcs { Mg.z with k:=5,day:=y0 } none none none none 0 0 0 0)) (w.heap.size+3) (mcs { Mg.z with k:=5,day:=y0 } none none none none 0 0 0 0) (zac _ _ _ _ _ _ _ _ _) ((HSa.out.v.other (by omega)).set)
 have HBz:Hid (Below w.heap.size w ((x2.setRow (w.heap.size+2) (zaa r1)).setRow (w.heap.size+3) (mcs { Mg.z with k:=5,day:=y0 } none none none none 0 0 0 0))):=zad (zad HSa.out.c (by omega)) (by omega)
 clear HSa HLd HLm hb HS2 c0
 generalize (mcs { Mg.z with k:=5,day:=y0 } none none none none 0 0 0 0)=AZ at *
 go_wp2_with (first | (guard_target =~ wpList _ _ _ (⟨_,Op.store 136 _ _,_,_,_,_⟩::_) _ _;refine zaf _ _ rfl 136 _ _ rfl _ _ rfl rfl HSt.out ?_;go_simp) | (guard_target =~ wpList _ _ _ (⟨_,Op.store 35 _ _,_,_,_,_⟩::_) _ _;refine zaf _ _ rfl 35 _ _ rfl _ _ rfl rfl HSu.out ?_;go_simp))
 refine bodyPost_ret (za3 _ _ 4 136 5 35 _ _ _ _ _ rfl rfl rfl hl1 hl2) rfl ?_
 exact ⟨rfl,HBz⟩
theorem zt1 {r r1 r2 r3:Rd} {y0:Int} {y1:Int} {y2:List UInt8} (h0:zah r=(r1,y0)) (h1:zah r1=(r2,y1)) (h2:za4 r2 12=(r3,y2)) (hs:Sm r) (s1:Sm r1) (s2:Sm r2) (s3:Sm r3) (w:World):Calls Tryz.prog 62 #[.agg (zaa r),.agg (mcs { Mg.z with k:=6 } none none none none 0 0 0 0)] w (RdP r3 (mcs { Mg.z with k:=6,mem:=y0,n:=y1,t:=y2 } none none none none 0 0 0 0) w):=by
 have HS1:Hid (Sq w r (mcs { Mg.z with k:=6 } none none none none 0 0 0 0) ((((w.alloc (.cells (zaa r) 136)).alloc (.cells (mcs { Mg.z with k:=6 } none none none none 0 0 0 0) 35)).alloc (.cells (zaa ⟨[],0,0⟩) 136)).alloc (.cells (mcs Mg.z none none none none 0 0 0 0) 35))):=Sq.new w r _
 go_enter Tryz.func62,Tryz.ntmps62
 go_upto_region 1 with fail
 show Code.wp _ _ _ _ ((((w.alloc (.cells (zaa r) 136)).alloc (.cells (mcs { Mg.z with k:=6 } none none none none 0 0 0 0) 35)).alloc (.cells (zaa ⟨[],0,0⟩) 136)).alloc (.cells (mcs Mg.z none none none none 0 0 0 0) 35))
 generalize ((((w.alloc (.cells (zaa r) 136)).alloc (.cells (mcs { Mg.z with k:=6 } none none none none 0 0 0 0) 35)).alloc (.cells (zaa ⟨[],0,0⟩) 136)).alloc (.cells (mcs Mg.z none none none none 0 0 0 0) 35))=w1 at *
 have c0:w1.cell? ⟨w.heap.size+1,0,none⟩=some (.int .i64 6):=(HS1.out.b.cell 0).trans rfl
 have HLd:Hid ((Instr.loadAt 136 (.pointer (some ⟨w.heap.size,0,none⟩))).run Tryz.prog w1=.ok (.agg (zaa r)) w1):=za2 _ _ _ HS1.out.z
 go_wp2_with (guard_target =~ wpList _ _ _ (⟨_,Op.load 136 _,_,_,_,_⟩::_) _ _;refine zag _ rfl 136 _ rfl _ rfl _ HLd.out ?_;go_simp)
 refine (zdn h0 h1 hs _).mono ?_
 rintro e x1 ⟨la,lc,rfl,HO,hb⟩
 have hle:w.heap.size+4≤w1.heap.size:=HS1.out.lt
 obtain ⟨lg,hla⟩:=zbp HO.out (by omega)
 subst hla
 have HSa:Hid (Sq w r (mcs { Mg.z with k:=6 } none none none none 0 0 0 0) x1):=HS1.out.keep hb.out
 have HSt:Hid ((Instr.storeAt 136 (.pointer (some ⟨w.heap.size,0,none⟩)) (.agg (zaa r2))).run Tryz.prog x1=.ok () (x1.setRow w.heap.size (zaa r2))):=zaq _ _ _ _ HSa.out.z
 have HS2:Hid (Sq w r2 (mcs { Mg.z with k:=6 } none none none none 0 0 0 0) (x1.setRow w.heap.size (zaa r2))):=HSa.out.putZ r2
 have HOl:Hid ((x1.setRow w.heap.size (zaa r2)).ownsRow (w.heap.size+4) 3 1 (.slice (some ⟨lg,0,none⟩) 2 lc) 2 (zal [y0,y1])):=zau (zat HO.out HSa.out.z (by decide)) hle
 clear hb HSa HS1 HLd HO c0
 generalize hx:x1.setRow w.heap.size (zaa r2)=w2 at *
 go_upto_region 25 with (guard_target =~ wpList _ _ _ (⟨_,Op.store 136 _ _,_,_,_,_⟩::_) _ _;refine zaf _ _ rfl 136 _ _ rfl _ _ rfl rfl HSt.out ?_;go_simp)
 clear hx HSt
 have c0:w2.cell? ⟨w.heap.size+1,0,none⟩=some (.int .i64 6):=(HS2.out.b.cell 0).trans rfl
 go_wp2_with fail
 refine wp_region_held (S:=fun W=>W.ownsRow (w.heap.size+4) 3 1 (.slice (some ⟨lg,0,none⟩) 2 lc) 2 (zal [y0,y1])) (by kernel_rfl) ?_
 change wpAnyH _ _ _ _ _ 10 #[false,false,false,false,false,false,false,false,false,false] _ w2.drew
 have hS0:w2.drew.ownsRow (w.heap.size+4) 3 1 (.slice (some ⟨lg,0,none⟩) 2 lc) 2 (zal [y0,y1]):=HOl.out
 have hQ0:Sq w r2 (mcs { Mg.z with k:=6 } none none none none 0 0 0 0) w2.drew:=HS2.out.drewN 1
 clear HOl HS2 c0
 obtain ⟨v0,hv0⟩:∃u,u=w2.drew:=⟨_,rfl⟩
 rw [← hv0] at hS0 hQ0 ⊢
 clear hv0
 refine zae (i:=0) (v:=.slice (some ⟨lg,0,none⟩) 2 lc) rfl (by kernel_rfl) (Or.inl ⟨rfl,fun _ _=>rfl⟩) hS0 ?_
 simp only [pu]
 refine zae (i:=1) (v:=.pointer (some ⟨lg,0,none⟩)) rfl (by kernel_rfl) (Or.inl ⟨rfl,fun W hW=>by go_simp⟩) hS0 ?_
 simp only [pu]
 refine zae (i:=2) (v:=.int .i64 y0) rfl (by kernel_rfl) (Or.inl ⟨rfl,fun W hW=>by have cj:W.cell? ⟨lg,0,none⟩=some (.int .i64 y0):=zbe hW 0 rfl;go_simp⟩) hS0 ?_
 simp only [pu]
 refine zae (i:=3) (v:=.slice (some ⟨lg,0,none⟩) 2 lc) rfl (by kernel_rfl) (Or.inl ⟨rfl,fun _ _=>rfl⟩) hS0 ?_
 simp only [pu]
 refine zae (i:=4) (v:=.pointer (some ⟨lg,1,none⟩)) rfl (by kernel_rfl) (Or.inl ⟨rfl,fun W hW=>by go_simp⟩) hS0 ?_
 simp only [pu]
 refine zae (i:=5) (v:=.int .i64 y1) rfl (by kernel_rfl) (Or.inl ⟨rfl,fun W hW=>by have cj:W.cell? ⟨lg,1,none⟩=some (.int .i64 y1):=zbe hW 1 rfl;go_simp⟩) hS0 ?_
 simp only [pu]
 refine zae (i:=6) (v:=.pointer (some ⟨w.heap.size+1,1,none⟩)) rfl (by kernel_rfl) (Or.inl ⟨rfl,fun W hW=>by go_simp⟩) hS0 ?_
 simp only [pu]
 have d0:v0.cell? ⟨w.heap.size+1,1,none⟩=some (.int .i64 0):=(hQ0.b.cell 1).trans (by kernel_rfl)
 have hQ1:Sq w r2 (mcs { Mg.z with k:=6,mem:=y0 } none none none none 0 0 0 0) (v0.setCell ⟨w.heap.size+1,1,none⟩ (.int .i64 y0)):=hQ0.putB 1 _ (by kernel_rfl)
 refine zap (i:=7) rfl (by kernel_rfl) (fun K hK=>?_)
 rw [if_pos (by rfl)]
 refine zao _ _ 3 _ _ rfl _ _ rfl rfl (zbu _ _ 1 _ _ d0 (hQ0.b.froz 1)) ?_
 refine hK.out _ _ (za8 hS0 (by omega) (Bt.set _ _ 1 _)) (fun hS1=>?_)
 clear hK d0 hQ0 hS0
 try simp only [pu]
 generalize v0.setCell ⟨w.heap.size+1,1,none⟩ (.int .i64 y0)=v1 at *
 refine zae (i:=8) (v:=.pointer (some ⟨w.heap.size+1,21,none⟩)) rfl (by kernel_rfl) (Or.inl ⟨rfl,fun W hW=>by go_simp⟩) hS1 ?_
 simp only [pu]
 have d1:v1.cell? ⟨w.heap.size+1,21,none⟩=some (.int .i64 0):=(hQ1.b.cell 21).trans (by kernel_rfl)
 have hQ2:Sq w r2 (mcs { Mg.z with k:=6,mem:=y0,n:=y1 } none none none none 0 0 0 0) (v1.setCell ⟨w.heap.size+1,21,none⟩ (.int .i64 y1)):=hQ1.putB 21 _ (by kernel_rfl)
 refine zap (i:=9) rfl (by kernel_rfl) (fun K hK=>?_)
 rw [if_pos (by rfl)]
 refine zao _ _ 3 _ _ rfl _ _ rfl rfl (zbu _ _ 21 _ _ d1 (hQ1.b.froz 21)) ?_
 refine hK.out _ _ (za8 hS1 (by omega) (Bt.set _ _ 21 _)) (fun hS2=>?_)
 clear hK d1 hQ1 hS1
 try simp only [pu]
 generalize v1.setCell ⟨w.heap.size+1,21,none⟩ (.int .i64 y1)=v2 at *
 refine wpAnyH_done (by kernel_rfl) ?_ _
 have HS3:Hid (Sq w r2 (mcs { Mg.z with k:=6,mem:=y0,n:=y1 } none none none none 0 0 0 0) v2):=hQ2
 clear hQ2 hS2
 generalize v2=w3 at *
 have c0:w3.cell? ⟨w.heap.size+1,0,none⟩=some (.int .i64 6):=(HS3.out.b.cell 0).trans rfl
 go_upto_region 26 with fail
 have HLd:Hid ((Instr.loadAt 136 (.pointer (some ⟨w.heap.size,0,none⟩))).run Tryz.prog w3=.ok (.agg (zaa r2)) w3):=za2 _ _ _ HS3.out.z
 go_wp2_with (guard_target =~ wpList _ _ _ (⟨_,Op.load 136 _,_,_,_,_⟩::_) _ _;refine zag _ rfl 136 _ rfl _ rfl _ HLd.out ?_;go_simp)
 refine (zee ⟨by decide,by decide⟩ h2 s2 _).mono ?_
 rintro e x3 ⟨rfl,hb⟩
 have HSa:Hid (Sq w r2 (mcs { Mg.z with k:=6,mem:=y0,n:=y1 } none none none none 0 0 0 0) x3):=HS3.out.keep hb.out
 have HSt:Hid ((Instr.storeAt 136 (.pointer (some ⟨w.heap.size,0,none⟩)) (.agg (zaa r3))).run Tryz.prog x3=.ok () (x3.setRow w.heap.size (zaa r3))):=zaq _ _ _ _ HSa.out.z
 have HSb:Hid (Sq w r3 (mcs { Mg.z with k:=6,mem:=y0,n:=y1 } none none none none 0 0 0 0) (x3.setRow w.heap.size (zaa r3))):=HSa.out.putZ r3
 clear hb HSa HS3 HLd c0
 generalize hx:x3.setRow w.heap.size (zaa r3)=yw3 at *
 have d:yw3.cell? ⟨w.heap.size+1,20,none⟩=some (.string ⟨#[]⟩):=(HSb.out.b.cell 20).trans (by kernel_rfl)
 have f:=HSb.out.b.froz 20
 obtain ⟨w4,hw⟩:∃u,u=yw3.setCell ⟨w.heap.size+1,20,none⟩ (.string ⟨y2.toArray⟩):=⟨_,rfl⟩
 have HS4:Hid (Sq w r3 (mcs { Mg.z with k:=6,mem:=y0,n:=y1,t:=y2 } none none none none 0 0 0 0) w4):=by unfold Hid;rw [hw];exact HSb.out.putB 20 (.string ⟨y2.toArray⟩) (by kernel_rfl)
 clear HSb
 go_upto_region 27 with (guard_target =~ wpList _ _ _ (⟨_,Op.store 136 _ _,_,_,_,_⟩::_) _ _;refine zaf _ _ rfl 136 _ _ rfl _ _ rfl rfl HSt.out ?_;go_simp)
 rw [← hw]
 clear hw hx HSt d f
 have c0:w4.cell? ⟨w.heap.size+1,0,none⟩=some (.int .i64 6):=(HS4.out.b.cell 0).trans rfl
 have HLd:Hid ((Instr.loadAt 136 (.pointer (some ⟨w.heap.size,0,none⟩))).run Tryz.prog w4=.ok (.agg (zaa r3)) w4):=za2 _ _ _ HS4.out.z
 have HLm:Hid ((Instr.loadAt 35 (.pointer (some ⟨w.heap.size+1,0,none⟩))).run Tryz.prog w4=.ok (.agg (mcs { Mg.z with k:=6,mem:=y0,n:=y1,t:=y2 } none none none none 0 0 0 0)) w4):=zam _ _ _ (zac _ _ _ _ _ _ _ _ _) HS4.out.b
 go_wp2_with (first | (guard_target =~ wpList _ _ _ (⟨_,Op.load 136 _,_,_,_,_⟩::_) _ _;refine zag _ rfl 136 _ rfl _ rfl _ HLd.out ?_;go_simp) | (guard_target =~ wpList _ _ _ (⟨_,Op.load 35 _,_,_,_,_⟩::_) _ _;refine zag _ rfl 35 _ rfl _ rfl _ HLm.out ?_;go_simp))
 refine (zdr 6 (by decide) _ _ rfl (zac _ _ _ _ _ _ _ _ _) (zaj _ _ _ _ _ _ _ _ _) _).mono ?_
 rintro e x4 ⟨rfl,hb⟩
 have HSa:Hid (Sq w r3 (mcs { Mg.z with k:=6,mem:=y0,n:=y1,t:=y2 } none none none none 0 0 0 0) x4):=HS4.out.keep hb.out
 have HSt:Hid ((Instr.storeAt 136 (.pointer (some ⟨w.heap.size+2,0,none⟩)) (.agg (zaa r3))).run Tryz.prog x4=.ok () (x4.setRow (w.heap.size+2) (zaa r3))):=zaq _ _ _ _ HSa.out.y
 have HSu:Hid ((Instr.storeAt 35 (.pointer (some ⟨w.heap.size+3,0,none⟩)) (.agg (mcs { Mg.z with k:=6,mem:=y0,n:=y1,t:=y2 } none none none none 0 0 0 0))).run Tryz.prog (x4.setRow (w.heap.size+2) (zaa r3))=.ok () ((x4.setRow (w.heap.size+2) (zaa r3)).setRow (w.heap.size+3) (mcs { Mg.z with k:=6,mem:=y0,n:=y1,t:=y2 } none none none none 0 0 0 0))):=zaw _ (w.heap.size+3) _ _ (HSa.out.v.other (by omega)) (zac _ _ _ _ _ _ _ _ _) (zac _ _ _ _ _ _ _ _ _) (zaj _ _ _ _ _ _ _ _ _)
 have hl1:=zbi ((x4.setRow (w.heap.size+2) (zaa r3)).setRow (w.heap.size+3) (mcs { Mg.z with k:=6,mem:=y0,n:=y1,t:=y2 } none none none none 0 0 0 0)) (w.heap.size+2) r3 (HSa.out.y.set.other (by omega))
 have hl2:=zbb ((x4.setRow (w.heap.size+2) (zaa r3)).setRow (w.heap.size+3) (mcs { Mg.z with k:=6,mem:=y0,n:=y1,t:=y2 } none none none none 0 0 0 0)) (w.heap.size+3) (mcs { Mg.z with k:=6,mem:=y0,n:=y1,t:=y2 } none none none none 0 0 0 0) (zac _ _ _ _ _ _ _ _ _) ((HSa.out.v.other (by omega)).set)
 have HBz:Hid (Below w.heap.size w ((x4.setRow (w.heap.size+2) (zaa r3)).setRow (w.heap.size+3) (mcs { Mg.z with k:=6,mem:=y0,n:=y1,t:=y2 } none none none none 0 0 0 0))):=zad (zad HSa.out.c (by omega)) (by omega)
 clear HSa HLd HLm hb HS4 c0
 generalize (mcs { Mg.z with k:=6,mem:=y0,n:=y1,t:=y2 } none none none none 0 0 0 0)=AZ at *
 go_wp2_with (first | (guard_target =~ wpList _ _ _ (⟨_,Op.store 136 _ _,_,_,_,_⟩::_) _ _;refine zaf _ _ rfl 136 _ _ rfl _ _ rfl rfl HSt.out ?_;go_simp) | (guard_target =~ wpList _ _ _ (⟨_,Op.store 35 _ _,_,_,_,_⟩::_) _ _;refine zaf _ _ rfl 35 _ _ rfl _ _ rfl rfl HSu.out ?_;go_simp))
 refine bodyPost_ret (za3 _ _ 4 136 5 35 _ _ _ _ _ rfl rfl rfl hl1 hl2) rfl ?_
 exact ⟨rfl,HBz⟩
theorem zt2 {r r1 r2 r3:Rd} {y0:Int} {y1:Int} {y2:List UInt8} (h0:zah r=(r1,y0)) (h1:zah r1=(r2,y1)) (h2:za4 r2 12=(r3,y2)) (hs:Sm r) (s1:Sm r1) (s2:Sm r2) (s3:Sm r3) (w:World):Calls Tryz.prog 62 #[.agg (zaa r),.agg (mcs { Mg.z with k:=7 } none none none none 0 0 0 0)] w (RdP r3 (mcs { Mg.z with k:=7,mem:=y0,n:=y1,t:=y2 } none none none none 0 0 0 0) w):=by
 have HS1:Hid (Sq w r (mcs { Mg.z with k:=7 } none none none none 0 0 0 0) ((((w.alloc (.cells (zaa r) 136)).alloc (.cells (mcs { Mg.z with k:=7 } none none none none 0 0 0 0) 35)).alloc (.cells (zaa ⟨[],0,0⟩) 136)).alloc (.cells (mcs Mg.z none none none none 0 0 0 0) 35))):=Sq.new w r _
 go_enter Tryz.func62,Tryz.ntmps62
 go_upto_region 1 with fail
 show Code.wp _ _ _ _ ((((w.alloc (.cells (zaa r) 136)).alloc (.cells (mcs { Mg.z with k:=7 } none none none none 0 0 0 0) 35)).alloc (.cells (zaa ⟨[],0,0⟩) 136)).alloc (.cells (mcs Mg.z none none none none 0 0 0 0) 35))
 generalize ((((w.alloc (.cells (zaa r) 136)).alloc (.cells (mcs { Mg.z with k:=7 } none none none none 0 0 0 0) 35)).alloc (.cells (zaa ⟨[],0,0⟩) 136)).alloc (.cells (mcs Mg.z none none none none 0 0 0 0) 35))=w1 at *
 have c0:w1.cell? ⟨w.heap.size+1,0,none⟩=some (.int .i64 7):=(HS1.out.b.cell 0).trans rfl
 have HLd:Hid ((Instr.loadAt 136 (.pointer (some ⟨w.heap.size,0,none⟩))).run Tryz.prog w1=.ok (.agg (zaa r)) w1):=za2 _ _ _ HS1.out.z
 go_wp2_with (guard_target =~ wpList _ _ _ (⟨_,Op.load 136 _,_,_,_,_⟩::_) _ _;refine zag _ rfl 136 _ rfl _ rfl _ HLd.out ?_;go_simp)
 refine (zdn h0 h1 hs _).mono ?_
 rintro e x1 ⟨la,lc,rfl,HO,hb⟩
 have hle:w.heap.size+4≤w1.heap.size:=HS1.out.lt
 obtain ⟨lg,hla⟩:=zbp HO.out (by omega)
 subst hla
 have HSa:Hid (Sq w r (mcs { Mg.z with k:=7 } none none none none 0 0 0 0) x1):=HS1.out.keep hb.out
 have HSt:Hid ((Instr.storeAt 136 (.pointer (some ⟨w.heap.size,0,none⟩)) (.agg (zaa r2))).run Tryz.prog x1=.ok () (x1.setRow w.heap.size (zaa r2))):=zaq _ _ _ _ HSa.out.z
 have HS2:Hid (Sq w r2 (mcs { Mg.z with k:=7 } none none none none 0 0 0 0) (x1.setRow w.heap.size (zaa r2))):=HSa.out.putZ r2
 have HOl:Hid ((x1.setRow w.heap.size (zaa r2)).ownsRow (w.heap.size+4) 3 1 (.slice (some ⟨lg,0,none⟩) 2 lc) 2 (zal [y0,y1])):=zau (zat HO.out HSa.out.z (by decide)) hle
 clear hb HSa HS1 HLd HO c0
 generalize hx:x1.setRow w.heap.size (zaa r2)=w2 at *
 go_upto_region 25 with (guard_target =~ wpList _ _ _ (⟨_,Op.store 136 _ _,_,_,_,_⟩::_) _ _;refine zaf _ _ rfl 136 _ _ rfl _ _ rfl rfl HSt.out ?_;go_simp)
 clear hx HSt
 have c0:w2.cell? ⟨w.heap.size+1,0,none⟩=some (.int .i64 7):=(HS2.out.b.cell 0).trans rfl
 go_wp2_with fail
 refine wp_region_held (S:=fun W=>W.ownsRow (w.heap.size+4) 3 1 (.slice (some ⟨lg,0,none⟩) 2 lc) 2 (zal [y0,y1])) (by kernel_rfl) ?_
 change wpAnyH _ _ _ _ _ 10 #[false,false,false,false,false,false,false,false,false,false] _ w2.drew
 have hS0:w2.drew.ownsRow (w.heap.size+4) 3 1 (.slice (some ⟨lg,0,none⟩) 2 lc) 2 (zal [y0,y1]):=HOl.out
 have hQ0:Sq w r2 (mcs { Mg.z with k:=7 } none none none none 0 0 0 0) w2.drew:=HS2.out.drewN 1
 clear HOl HS2 c0
 obtain ⟨v0,hv0⟩:∃u,u=w2.drew:=⟨_,rfl⟩
 rw [← hv0] at hS0 hQ0 ⊢
 clear hv0
 refine zae (i:=0) (v:=.slice (some ⟨lg,0,none⟩) 2 lc) rfl (by kernel_rfl) (Or.inl ⟨rfl,fun _ _=>rfl⟩) hS0 ?_
 simp only [pu]
 refine zae (i:=1) (v:=.pointer (some ⟨lg,0,none⟩)) rfl (by kernel_rfl) (Or.inl ⟨rfl,fun W hW=>by go_simp⟩) hS0 ?_
 simp only [pu]
 refine zae (i:=2) (v:=.int .i64 y0) rfl (by kernel_rfl) (Or.inl ⟨rfl,fun W hW=>by have cj:W.cell? ⟨lg,0,none⟩=some (.int .i64 y0):=zbe hW 0 rfl;go_simp⟩) hS0 ?_
 simp only [pu]
 refine zae (i:=3) (v:=.slice (some ⟨lg,0,none⟩) 2 lc) rfl (by kernel_rfl) (Or.inl ⟨rfl,fun _ _=>rfl⟩) hS0 ?_
 simp only [pu]
 refine zae (i:=4) (v:=.pointer (some ⟨lg,1,none⟩)) rfl (by kernel_rfl) (Or.inl ⟨rfl,fun W hW=>by go_simp⟩) hS0 ?_
 simp only [pu]
 refine zae (i:=5) (v:=.int .i64 y1) rfl (by kernel_rfl) (Or.inl ⟨rfl,fun W hW=>by have cj:W.cell? ⟨lg,1,none⟩=some (.int .i64 y1):=zbe hW 1 rfl;go_simp⟩) hS0 ?_
 simp only [pu]
 refine zae (i:=6) (v:=.pointer (some ⟨w.heap.size+1,1,none⟩)) rfl (by kernel_rfl) (Or.inl ⟨rfl,fun W hW=>by go_simp⟩) hS0 ?_
 simp only [pu]
 have d0:v0.cell? ⟨w.heap.size+1,1,none⟩=some (.int .i64 0):=(hQ0.b.cell 1).trans (by kernel_rfl)
 have hQ1:Sq w r2 (mcs { Mg.z with k:=7,mem:=y0 } none none none none 0 0 0 0) (v0.setCell ⟨w.heap.size+1,1,none⟩ (.int .i64 y0)):=hQ0.putB 1 _ (by kernel_rfl)
 refine zap (i:=7) rfl (by kernel_rfl) (fun K hK=>?_)
 rw [if_pos (by rfl)]
 refine zao _ _ 3 _ _ rfl _ _ rfl rfl (zbu _ _ 1 _ _ d0 (hQ0.b.froz 1)) ?_
 refine hK.out _ _ (za8 hS0 (by omega) (Bt.set _ _ 1 _)) (fun hS1=>?_)
 clear hK d0 hQ0 hS0
 try simp only [pu]
 generalize v0.setCell ⟨w.heap.size+1,1,none⟩ (.int .i64 y0)=v1 at *
 refine zae (i:=8) (v:=.pointer (some ⟨w.heap.size+1,21,none⟩)) rfl (by kernel_rfl) (Or.inl ⟨rfl,fun W hW=>by go_simp⟩) hS1 ?_
 simp only [pu]
 have d1:v1.cell? ⟨w.heap.size+1,21,none⟩=some (.int .i64 0):=(hQ1.b.cell 21).trans (by kernel_rfl)
 have hQ2:Sq w r2 (mcs { Mg.z with k:=7,mem:=y0,n:=y1 } none none none none 0 0 0 0) (v1.setCell ⟨w.heap.size+1,21,none⟩ (.int .i64 y1)):=hQ1.putB 21 _ (by kernel_rfl)
 refine zap (i:=9) rfl (by kernel_rfl) (fun K hK=>?_)
 rw [if_pos (by rfl)]
 refine zao _ _ 3 _ _ rfl _ _ rfl rfl (zbu _ _ 21 _ _ d1 (hQ1.b.froz 21)) ?_
 refine hK.out _ _ (za8 hS1 (by omega) (Bt.set _ _ 21 _)) (fun hS2=>?_)
 clear hK d1 hQ1 hS1
 try simp only [pu]
 generalize v1.setCell ⟨w.heap.size+1,21,none⟩ (.int .i64 y1)=v2 at *
 refine wpAnyH_done (by kernel_rfl) ?_ _
 have HS3:Hid (Sq w r2 (mcs { Mg.z with k:=7,mem:=y0,n:=y1 } none none none none 0 0 0 0) v2):=hQ2
 clear hQ2 hS2
 generalize v2=w3 at *
 have c0:w3.cell? ⟨w.heap.size+1,0,none⟩=some (.int .i64 7):=(HS3.out.b.cell 0).trans rfl
 go_upto_region 26 with fail
 have HLd:Hid ((Instr.loadAt 136 (.pointer (some ⟨w.heap.size,0,none⟩))).run Tryz.prog w3=.ok (.agg (zaa r2)) w3):=za2 _ _ _ HS3.out.z
 go_wp2_with (guard_target =~ wpList _ _ _ (⟨_,Op.load 136 _,_,_,_,_⟩::_) _ _;refine zag _ rfl 136 _ rfl _ rfl _ HLd.out ?_;go_simp)
 refine (zee ⟨by decide,by decide⟩ h2 s2 _).mono ?_
 rintro e x3 ⟨rfl,hb⟩
 have HSa:Hid (Sq w r2 (mcs { Mg.z with k:=7,mem:=y0,n:=y1 } none none none none 0 0 0 0) x3):=HS3.out.keep hb.out
 have HSt:Hid ((Instr.storeAt 136 (.pointer (some ⟨w.heap.size,0,none⟩)) (.agg (zaa r3))).run Tryz.prog x3=.ok () (x3.setRow w.heap.size (zaa r3))):=zaq _ _ _ _ HSa.out.z
 have HSb:Hid (Sq w r3 (mcs { Mg.z with k:=7,mem:=y0,n:=y1 } none none none none 0 0 0 0) (x3.setRow w.heap.size (zaa r3))):=HSa.out.putZ r3
 clear hb HSa HS3 HLd c0
 generalize hx:x3.setRow w.heap.size (zaa r3)=yw3 at *
 have d:yw3.cell? ⟨w.heap.size+1,20,none⟩=some (.string ⟨#[]⟩):=(HSb.out.b.cell 20).trans (by kernel_rfl)
 have f:=HSb.out.b.froz 20
 obtain ⟨w4,hw⟩:∃u,u=yw3.setCell ⟨w.heap.size+1,20,none⟩ (.string ⟨y2.toArray⟩):=⟨_,rfl⟩
 have HS4:Hid (Sq w r3 (mcs { Mg.z with k:=7,mem:=y0,n:=y1,t:=y2 } none none none none 0 0 0 0) w4):=by unfold Hid;rw [hw];exact HSb.out.putB 20 (.string ⟨y2.toArray⟩) (by kernel_rfl)
 clear HSb
 go_upto_region 27 with (guard_target =~ wpList _ _ _ (⟨_,Op.store 136 _ _,_,_,_,_⟩::_) _ _;refine zaf _ _ rfl 136 _ _ rfl _ _ rfl rfl HSt.out ?_;go_simp)
 rw [← hw]
 clear hw hx HSt d f
 have c0:w4.cell? ⟨w.heap.size+1,0,none⟩=some (.int .i64 7):=(HS4.out.b.cell 0).trans rfl
 have HLd:Hid ((Instr.loadAt 136 (.pointer (some ⟨w.heap.size,0,none⟩))).run Tryz.prog w4=.ok (.agg (zaa r3)) w4):=za2 _ _ _ HS4.out.z
 have HLm:Hid ((Instr.loadAt 35 (.pointer (some ⟨w.heap.size+1,0,none⟩))).run Tryz.prog w4=.ok (.agg (mcs { Mg.z with k:=7,mem:=y0,n:=y1,t:=y2 } none none none none 0 0 0 0)) w4):=zam _ _ _ (zac _ _ _ _ _ _ _ _ _) HS4.out.b
 go_wp2_with (first | (guard_target =~ wpList _ _ _ (⟨_,Op.load 136 _,_,_,_,_⟩::_) _ _;refine zag _ rfl 136 _ rfl _ rfl _ HLd.out ?_;go_simp) | (guard_target =~ wpList _ _ _ (⟨_,Op.load 35 _,_,_,_,_⟩::_) _ _;refine zag _ rfl 35 _ rfl _ rfl _ HLm.out ?_;go_simp))
 refine (zdr 7 (by decide) _ _ rfl (zac _ _ _ _ _ _ _ _ _) (zaj _ _ _ _ _ _ _ _ _) _).mono ?_
 rintro e x4 ⟨rfl,hb⟩
 have HSa:Hid (Sq w r3 (mcs { Mg.z with k:=7,mem:=y0,n:=y1,t:=y2 } none none none none 0 0 0 0) x4):=HS4.out.keep hb.out
 have HSt:Hid ((Instr.storeAt 136 (.pointer (some ⟨w.heap.size+2,0,none⟩)) (.agg (zaa r3))).run Tryz.prog x4=.ok () (x4.setRow (w.heap.size+2) (zaa r3))):=zaq _ _ _ _ HSa.out.y
 have HSu:Hid ((Instr.storeAt 35 (.pointer (some ⟨w.heap.size+3,0,none⟩)) (.agg (mcs { Mg.z with k:=7,mem:=y0,n:=y1,t:=y2 } none none none none 0 0 0 0))).run Tryz.prog (x4.setRow (w.heap.size+2) (zaa r3))=.ok () ((x4.setRow (w.heap.size+2) (zaa r3)).setRow (w.heap.size+3) (mcs { Mg.z with k:=7,mem:=y0,n:=y1,t:=y2 } none none none none 0 0 0 0))):=zaw _ (w.heap.size+3) _ _ (HSa.out.v.other (by omega)) (zac _ _ _ _ _ _ _ _ _) (zac _ _ _ _ _ _ _ _ _) (zaj _ _ _ _ _ _ _ _ _)
 have hl1:=zbi ((x4.setRow (w.heap.size+2) (zaa r3)).setRow (w.heap.size+3) (mcs { Mg.z with k:=7,mem:=y0,n:=y1,t:=y2 } none none none none 0 0 0 0)) (w.heap.size+2) r3 (HSa.out.y.set.other (by omega))
 have hl2:=zbb ((x4.setRow (w.heap.size+2) (zaa r3)).setRow (w.heap.size+3) (mcs { Mg.z with k:=7,mem:=y0,n:=y1,t:=y2 } none none none none 0 0 0 0)) (w.heap.size+3) (mcs { Mg.z with k:=7,mem:=y0,n:=y1,t:=y2 } none none none none 0 0 0 0) (zac _ _ _ _ _ _ _ _ _) ((HSa.out.v.other (by omega)).set)
 have HBz:Hid (Below w.heap.size w ((x4.setRow (w.heap.size+2) (zaa r3)).setRow (w.heap.size+3) (mcs { Mg.z with k:=7,mem:=y0,n:=y1,t:=y2 } none none none none 0 0 0 0))):=zad (zad HSa.out.c (by omega)) (by omega)
 clear HSa HLd HLm hb HS4 c0
 generalize (mcs { Mg.z with k:=7,mem:=y0,n:=y1,t:=y2 } none none none none 0 0 0 0)=AZ at *
 go_wp2_with (first | (guard_target =~ wpList _ _ _ (⟨_,Op.store 136 _ _,_,_,_,_⟩::_) _ _;refine zaf _ _ rfl 136 _ _ rfl _ _ rfl rfl HSt.out ?_;go_simp) | (guard_target =~ wpList _ _ _ (⟨_,Op.store 35 _ _,_,_,_,_⟩::_) _ _;refine zaf _ _ rfl 35 _ _ rfl _ _ rfl rfl HSu.out ?_;go_simp))
 refine bodyPost_ret (za3 _ _ 4 136 5 35 _ _ _ _ _ rfl rfl rfl hl1 hl2) rfl ?_
 exact ⟨rfl,HBz⟩
theorem zt3 {r r1 r2:Rd} {y0:Int} {y1:Int} (h0:zah r=(r1,y0)) (h1:zah r1=(r2,y1)) (hs:Sm r) (s1:Sm r1) (s2:Sm r2) (w:World):Calls Tryz.prog 62 #[.agg (zaa r),.agg (mcs { Mg.z with k:=9 } none none none none 0 0 0 0)] w (RdP r2 (mcs { Mg.z with k:=9,mem:=y0,n:=y1 } none none none none 0 0 0 0) w):=by
 have HS1:Hid (Sq w r (mcs { Mg.z with k:=9 } none none none none 0 0 0 0) ((((w.alloc (.cells (zaa r) 136)).alloc (.cells (mcs { Mg.z with k:=9 } none none none none 0 0 0 0) 35)).alloc (.cells (zaa ⟨[],0,0⟩) 136)).alloc (.cells (mcs Mg.z none none none none 0 0 0 0) 35))):=Sq.new w r _
 go_enter Tryz.func62,Tryz.ntmps62
 go_upto_region 1 with fail
 show Code.wp _ _ _ _ ((((w.alloc (.cells (zaa r) 136)).alloc (.cells (mcs { Mg.z with k:=9 } none none none none 0 0 0 0) 35)).alloc (.cells (zaa ⟨[],0,0⟩) 136)).alloc (.cells (mcs Mg.z none none none none 0 0 0 0) 35))
 generalize ((((w.alloc (.cells (zaa r) 136)).alloc (.cells (mcs { Mg.z with k:=9 } none none none none 0 0 0 0) 35)).alloc (.cells (zaa ⟨[],0,0⟩) 136)).alloc (.cells (mcs Mg.z none none none none 0 0 0 0) 35))=w1 at *
 have c0:w1.cell? ⟨w.heap.size+1,0,none⟩=some (.int .i64 9):=(HS1.out.b.cell 0).trans rfl
 have HLd:Hid ((Instr.loadAt 136 (.pointer (some ⟨w.heap.size,0,none⟩))).run Tryz.prog w1=.ok (.agg (zaa r)) w1):=za2 _ _ _ HS1.out.z
 have HLm:Hid ((Instr.loadAt 35 (.pointer (some ⟨w.heap.size+1,0,none⟩))).run Tryz.prog w1=.ok (.agg (mcs { Mg.z with k:=9 } none none none none 0 0 0 0)) w1):=zam _ _ _ (zac _ _ _ _ _ _ _ _ _) HS1.out.b
 go_wp2_with (first | (guard_target =~ wpList _ _ _ (⟨_,Op.load 136 _,_,_,_,_⟩::_) _ _;refine zag _ rfl 136 _ rfl _ rfl _ HLd.out ?_;go_simp) | (guard_target =~ wpList _ _ _ (⟨_,Op.load 35 _,_,_,_,_⟩::_) _ _;refine zag _ rfl 35 _ rfl _ rfl _ HLm.out ?_;go_simp))
 refine (ztx h0 h1 hs s1 s2 _).mono ?_
 rintro e x1 ⟨rfl,hb⟩
 have HSa:Hid (Sq w r (mcs { Mg.z with k:=9 } none none none none 0 0 0 0) x1):=HS1.out.keep hb.out
 have HSt:Hid ((Instr.storeAt 136 (.pointer (some ⟨w.heap.size+2,0,none⟩)) (.agg (zaa r2))).run Tryz.prog x1=.ok () (x1.setRow (w.heap.size+2) (zaa r2))):=zaq _ _ _ _ HSa.out.y
 have HSu:Hid ((Instr.storeAt 35 (.pointer (some ⟨w.heap.size+3,0,none⟩)) (.agg (mcs { Mg.z with k:=9,mem:=y0,n:=y1 } none none none none 0 0 0 0))).run Tryz.prog (x1.setRow (w.heap.size+2) (zaa r2))=.ok () ((x1.setRow (w.heap.size+2) (zaa r2)).setRow (w.heap.size+3) (mcs { Mg.z with k:=9,mem:=y0,n:=y1 } none none none none 0 0 0 0))):=zaw _ (w.heap.size+3) _ _ (HSa.out.v.other (by omega)) (zac _ _ _ _ _ _ _ _ _) (zac _ _ _ _ _ _ _ _ _) (zaj _ _ _ _ _ _ _ _ _)
 have hl1:=zbi ((x1.setRow (w.heap.size+2) (zaa r2)).setRow (w.heap.size+3) (mcs { Mg.z with k:=9,mem:=y0,n:=y1 } none none none none 0 0 0 0)) (w.heap.size+2) r2 (HSa.out.y.set.other (by omega))
 have hl2:=zbb ((x1.setRow (w.heap.size+2) (zaa r2)).setRow (w.heap.size+3) (mcs { Mg.z with k:=9,mem:=y0,n:=y1 } none none none none 0 0 0 0)) (w.heap.size+3) (mcs { Mg.z with k:=9,mem:=y0,n:=y1 } none none none none 0 0 0 0) (zac _ _ _ _ _ _ _ _ _) ((HSa.out.v.other (by omega)).set)
 have HBz:Hid (Below w.heap.size w ((x1.setRow (w.heap.size+2) (zaa r2)).setRow (w.heap.size+3) (mcs { Mg.z with k:=9,mem:=y0,n:=y1 } none none none none 0 0 0 0))):=zad (zad HSa.out.c (by omega)) (by omega)
 clear HSa HLd HLm hb HS1 c0
 generalize (mcs { Mg.z with k:=9,mem:=y0,n:=y1 } none none none none 0 0 0 0)=AZ at *
 go_wp2_with (first | (guard_target =~ wpList _ _ _ (⟨_,Op.store 136 _ _,_,_,_,_⟩::_) _ _;refine zaf _ _ rfl 136 _ _ rfl _ _ rfl rfl HSt.out ?_;go_simp) | (guard_target =~ wpList _ _ _ (⟨_,Op.store 35 _ _,_,_,_,_⟩::_) _ _;refine zaf _ _ rfl 35 _ _ rfl _ _ rfl rfl HSu.out ?_;go_simp))
 refine bodyPost_ret (za3 _ _ 4 136 5 35 _ _ _ _ _ rfl rfl rfl hl1 hl2) rfl ?_
 exact ⟨rfl,HBz⟩
theorem zpz {r r1 r2 r3:Rd} {y0:Int} {y1:Int} {y2:Int} (h0:zah r=(r1,y0)) (h1:zah r1=(r2,y1)) (h2:zah r2=(r3,y2)) (hs:Sm r) (s1:Sm r1) (s2:Sm r2) (s3:Sm r3) (w:World):Calls Tryz.prog 62 #[.agg (zaa r),.agg (mcs { Mg.z with k:=10 } none none none none 0 0 0 0)] w (RdP r3 (mcs { Mg.z with k:=10,mem:=y0,tr:=y1,day:=y2 } none none none none 0 0 0 0) w):=by
 have HS1:Hid (Sq w r (mcs { Mg.z with k:=10 } none none none none 0 0 0 0) ((((w.alloc (.cells (zaa r) 136)).alloc (.cells (mcs { Mg.z with k:=10 } none none none none 0 0 0 0) 35)).alloc (.cells (zaa ⟨[],0,0⟩) 136)).alloc (.cells (mcs Mg.z none none none none 0 0 0 0) 35))):=Sq.new w r _
 go_enter Tryz.func62,Tryz.ntmps62
 go_upto_region 1 with fail
 show Code.wp _ _ _ _ ((((w.alloc (.cells (zaa r) 136)).alloc (.cells (mcs { Mg.z with k:=10 } none none none none 0 0 0 0) 35)).alloc (.cells (zaa ⟨[],0,0⟩) 136)).alloc (.cells (mcs Mg.z none none none none 0 0 0 0) 35))
 generalize ((((w.alloc (.cells (zaa r) 136)).alloc (.cells (mcs { Mg.z with k:=10 } none none none none 0 0 0 0) 35)).alloc (.cells (zaa ⟨[],0,0⟩) 136)).alloc (.cells (mcs Mg.z none none none none 0 0 0 0) 35))=w1 at *
 have c0:w1.cell? ⟨w.heap.size+1,0,none⟩=some (.int .i64 10):=(HS1.out.b.cell 0).trans rfl
 have HLd:Hid ((Instr.loadAt 136 (.pointer (some ⟨w.heap.size,0,none⟩))).run Tryz.prog w1=.ok (.agg (zaa r)) w1):=za2 _ _ _ HS1.out.z
 have HLm:Hid ((Instr.loadAt 35 (.pointer (some ⟨w.heap.size+1,0,none⟩))).run Tryz.prog w1=.ok (.agg (mcs { Mg.z with k:=10 } none none none none 0 0 0 0)) w1):=zam _ _ _ (zac _ _ _ _ _ _ _ _ _) HS1.out.b
 go_wp2_with (first | (guard_target =~ wpList _ _ _ (⟨_,Op.load 136 _,_,_,_,_⟩::_) _ _;refine zag _ rfl 136 _ rfl _ rfl _ HLd.out ?_;go_simp) | (guard_target =~ wpList _ _ _ (⟨_,Op.load 35 _,_,_,_,_⟩::_) _ _;refine zag _ rfl 35 _ rfl _ rfl _ HLm.out ?_;go_simp))
 refine (zpu h0 h1 h2 hs s1 s2 s3 _).mono ?_
 rintro e x1 ⟨rfl,hb⟩
 have HSa:Hid (Sq w r (mcs { Mg.z with k:=10 } none none none none 0 0 0 0) x1):=HS1.out.keep hb.out
 have HSt:Hid ((Instr.storeAt 136 (.pointer (some ⟨w.heap.size+2,0,none⟩)) (.agg (zaa r3))).run Tryz.prog x1=.ok () (x1.setRow (w.heap.size+2) (zaa r3))):=zaq _ _ _ _ HSa.out.y
 have HSu:Hid ((Instr.storeAt 35 (.pointer (some ⟨w.heap.size+3,0,none⟩)) (.agg (mcs { Mg.z with k:=10,mem:=y0,tr:=y1,day:=y2 } none none none none 0 0 0 0))).run Tryz.prog (x1.setRow (w.heap.size+2) (zaa r3))=.ok () ((x1.setRow (w.heap.size+2) (zaa r3)).setRow (w.heap.size+3) (mcs { Mg.z with k:=10,mem:=y0,tr:=y1,day:=y2 } none none none none 0 0 0 0))):=zaw _ (w.heap.size+3) _ _ (HSa.out.v.other (by omega)) (zac _ _ _ _ _ _ _ _ _) (zac _ _ _ _ _ _ _ _ _) (zaj _ _ _ _ _ _ _ _ _)
 have hl1:=zbi ((x1.setRow (w.heap.size+2) (zaa r3)).setRow (w.heap.size+3) (mcs { Mg.z with k:=10,mem:=y0,tr:=y1,day:=y2 } none none none none 0 0 0 0)) (w.heap.size+2) r3 (HSa.out.y.set.other (by omega))
 have hl2:=zbb ((x1.setRow (w.heap.size+2) (zaa r3)).setRow (w.heap.size+3) (mcs { Mg.z with k:=10,mem:=y0,tr:=y1,day:=y2 } none none none none 0 0 0 0)) (w.heap.size+3) (mcs { Mg.z with k:=10,mem:=y0,tr:=y1,day:=y2 } none none none none 0 0 0 0) (zac _ _ _ _ _ _ _ _ _) ((HSa.out.v.other (by omega)).set)
 have HBz:Hid (Below w.heap.size w ((x1.setRow (w.heap.size+2) (zaa r3)).setRow (w.heap.size+3) (mcs { Mg.z with k:=10,mem:=y0,tr:=y1,day:=y2 } none none none none 0 0 0 0))):=zad (zad HSa.out.c (by omega)) (by omega)
 clear HSa HLd HLm hb HS1 c0
 generalize (mcs { Mg.z with k:=10,mem:=y0,tr:=y1,day:=y2 } none none none none 0 0 0 0)=AZ at *
 go_wp2_with (first | (guard_target =~ wpList _ _ _ (⟨_,Op.store 136 _ _,_,_,_,_⟩::_) _ _;refine zaf _ _ rfl 136 _ _ rfl _ _ rfl rfl HSt.out ?_;go_simp) | (guard_target =~ wpList _ _ _ (⟨_,Op.store 35 _ _,_,_,_,_⟩::_) _ _;refine zaf _ _ rfl 35 _ _ rfl _ _ rfl rfl HSu.out ?_;go_simp))
 refine bodyPost_ret (za3 _ _ 4 136 5 35 _ _ _ _ _ rfl rfl rfl hl1 hl2) rfl ?_
 exact ⟨rfl,HBz⟩
theorem zp0 {r r1 r2 r3:Rd} {y0:Int} {y1:Int} {y2:Bool} (h0:zah r=(r1,y0)) (h1:zah r1=(r2,y1)) (h2:zbn r2=(r3,y2)) (hs:Sm r) (s1:Sm r1) (s2:Sm r2) (s3:Sm r3) (w:World):Calls Tryz.prog 62 #[.agg (zaa r),.agg (mcs { Mg.z with k:=12 } none none none none 0 0 0 0)] w (RdP r3 (mcs { Mg.z with k:=12,mem:=y0,day:=y1,done:=y2 } none none none none 0 0 0 0) w):=by
 have HS1:Hid (Sq w r (mcs { Mg.z with k:=12 } none none none none 0 0 0 0) ((((w.alloc (.cells (zaa r) 136)).alloc (.cells (mcs { Mg.z with k:=12 } none none none none 0 0 0 0) 35)).alloc (.cells (zaa ⟨[],0,0⟩) 136)).alloc (.cells (mcs Mg.z none none none none 0 0 0 0) 35))):=Sq.new w r _
 go_enter Tryz.func62,Tryz.ntmps62
 go_upto_region 1 with fail
 show Code.wp _ _ _ _ ((((w.alloc (.cells (zaa r) 136)).alloc (.cells (mcs { Mg.z with k:=12 } none none none none 0 0 0 0) 35)).alloc (.cells (zaa ⟨[],0,0⟩) 136)).alloc (.cells (mcs Mg.z none none none none 0 0 0 0) 35))
 generalize ((((w.alloc (.cells (zaa r) 136)).alloc (.cells (mcs { Mg.z with k:=12 } none none none none 0 0 0 0) 35)).alloc (.cells (zaa ⟨[],0,0⟩) 136)).alloc (.cells (mcs Mg.z none none none none 0 0 0 0) 35))=w1 at *
 have c0:w1.cell? ⟨w.heap.size+1,0,none⟩=some (.int .i64 12):=(HS1.out.b.cell 0).trans rfl
 have HLd:Hid ((Instr.loadAt 136 (.pointer (some ⟨w.heap.size,0,none⟩))).run Tryz.prog w1=.ok (.agg (zaa r)) w1):=za2 _ _ _ HS1.out.z
 have HLm:Hid ((Instr.loadAt 35 (.pointer (some ⟨w.heap.size+1,0,none⟩))).run Tryz.prog w1=.ok (.agg (mcs { Mg.z with k:=12 } none none none none 0 0 0 0)) w1):=zam _ _ _ (zac _ _ _ _ _ _ _ _ _) HS1.out.b
 go_wp2_with (first | (guard_target =~ wpList _ _ _ (⟨_,Op.load 136 _,_,_,_,_⟩::_) _ _;refine zag _ rfl 136 _ rfl _ rfl _ HLd.out ?_;go_simp) | (guard_target =~ wpList _ _ _ (⟨_,Op.load 35 _,_,_,_,_⟩::_) _ _;refine zag _ rfl 35 _ rfl _ rfl _ HLm.out ?_;go_simp))
 refine (zpv h0 h1 h2 hs s1 s2 s3 _).mono ?_
 rintro e x1 ⟨rfl,hb⟩
 have HSa:Hid (Sq w r (mcs { Mg.z with k:=12 } none none none none 0 0 0 0) x1):=HS1.out.keep hb.out
 have HSt:Hid ((Instr.storeAt 136 (.pointer (some ⟨w.heap.size+2,0,none⟩)) (.agg (zaa r3))).run Tryz.prog x1=.ok () (x1.setRow (w.heap.size+2) (zaa r3))):=zaq _ _ _ _ HSa.out.y
 have HSu:Hid ((Instr.storeAt 35 (.pointer (some ⟨w.heap.size+3,0,none⟩)) (.agg (mcs { Mg.z with k:=12,mem:=y0,day:=y1,done:=y2 } none none none none 0 0 0 0))).run Tryz.prog (x1.setRow (w.heap.size+2) (zaa r3))=.ok () ((x1.setRow (w.heap.size+2) (zaa r3)).setRow (w.heap.size+3) (mcs { Mg.z with k:=12,mem:=y0,day:=y1,done:=y2 } none none none none 0 0 0 0))):=zaw _ (w.heap.size+3) _ _ (HSa.out.v.other (by omega)) (zac _ _ _ _ _ _ _ _ _) (zac _ _ _ _ _ _ _ _ _) (zaj _ _ _ _ _ _ _ _ _)
 have hl1:=zbi ((x1.setRow (w.heap.size+2) (zaa r3)).setRow (w.heap.size+3) (mcs { Mg.z with k:=12,mem:=y0,day:=y1,done:=y2 } none none none none 0 0 0 0)) (w.heap.size+2) r3 (HSa.out.y.set.other (by omega))
 have hl2:=zbb ((x1.setRow (w.heap.size+2) (zaa r3)).setRow (w.heap.size+3) (mcs { Mg.z with k:=12,mem:=y0,day:=y1,done:=y2 } none none none none 0 0 0 0)) (w.heap.size+3) (mcs { Mg.z with k:=12,mem:=y0,day:=y1,done:=y2 } none none none none 0 0 0 0) (zac _ _ _ _ _ _ _ _ _) ((HSa.out.v.other (by omega)).set)
 have HBz:Hid (Below w.heap.size w ((x1.setRow (w.heap.size+2) (zaa r3)).setRow (w.heap.size+3) (mcs { Mg.z with k:=12,mem:=y0,day:=y1,done:=y2 } none none none none 0 0 0 0))):=zad (zad HSa.out.c (by omega)) (by omega)
 clear HSa HLd HLm hb HS1 c0
 generalize (mcs { Mg.z with k:=12,mem:=y0,day:=y1,done:=y2 } none none none none 0 0 0 0)=AZ at *
 go_wp2_with (first | (guard_target =~ wpList _ _ _ (⟨_,Op.store 136 _ _,_,_,_,_⟩::_) _ _;refine zaf _ _ rfl 136 _ _ rfl _ _ rfl rfl HSt.out ?_;go_simp) | (guard_target =~ wpList _ _ _ (⟨_,Op.store 35 _ _,_,_,_,_⟩::_) _ _;refine zaf _ _ rfl 35 _ _ rfl _ _ rfl rfl HSu.out ?_;go_simp))
 refine bodyPost_ret (za3 _ _ 4 136 5 35 _ _ _ _ _ rfl rfl rfl hl1 hl2) rfl ?_
 exact ⟨rfl,HBz⟩
theorem zp1 {r r1:Rd} {y0:Int} (h0:zah r=(r1,y0)) (hs:Sm r) (s1:Sm r1) (w:World):Calls Tryz.prog 62 #[.agg (zaa r),.agg (mcs { Mg.z with k:=13 } none none none none 0 0 0 0)] w (RdP r1 (mcs { Mg.z with k:=13,mem:=y0 } none none none none 0 0 0 0) w):=by
 have HS1:Hid (Sq w r (mcs { Mg.z with k:=13 } none none none none 0 0 0 0) ((((w.alloc (.cells (zaa r) 136)).alloc (.cells (mcs { Mg.z with k:=13 } none none none none 0 0 0 0) 35)).alloc (.cells (zaa ⟨[],0,0⟩) 136)).alloc (.cells (mcs Mg.z none none none none 0 0 0 0) 35))):=Sq.new w r _
 go_enter Tryz.func62,Tryz.ntmps62
 go_upto_region 1 with fail
 show Code.wp _ _ _ _ ((((w.alloc (.cells (zaa r) 136)).alloc (.cells (mcs { Mg.z with k:=13 } none none none none 0 0 0 0) 35)).alloc (.cells (zaa ⟨[],0,0⟩) 136)).alloc (.cells (mcs Mg.z none none none none 0 0 0 0) 35))
 generalize ((((w.alloc (.cells (zaa r) 136)).alloc (.cells (mcs { Mg.z with k:=13 } none none none none 0 0 0 0) 35)).alloc (.cells (zaa ⟨[],0,0⟩) 136)).alloc (.cells (mcs Mg.z none none none none 0 0 0 0) 35))=w1 at *
 have c0:w1.cell? ⟨w.heap.size+1,0,none⟩=some (.int .i64 13):=(HS1.out.b.cell 0).trans rfl
 have HLd:Hid ((Instr.loadAt 136 (.pointer (some ⟨w.heap.size,0,none⟩))).run Tryz.prog w1=.ok (.agg (zaa r)) w1):=za2 _ _ _ HS1.out.z
 have HLm:Hid ((Instr.loadAt 35 (.pointer (some ⟨w.heap.size+1,0,none⟩))).run Tryz.prog w1=.ok (.agg (mcs { Mg.z with k:=13 } none none none none 0 0 0 0)) w1):=zam _ _ _ (zac _ _ _ _ _ _ _ _ _) HS1.out.b
 go_wp2_with (first | (guard_target =~ wpList _ _ _ (⟨_,Op.load 136 _,_,_,_,_⟩::_) _ _;refine zag _ rfl 136 _ rfl _ rfl _ HLd.out ?_;go_simp) | (guard_target =~ wpList _ _ _ (⟨_,Op.load 35 _,_,_,_,_⟩::_) _ _;refine zag _ rfl 35 _ rfl _ rfl _ HLm.out ?_;go_simp))
 refine (zpw h0 hs s1 _).mono ?_
 rintro e x1 ⟨rfl,hb⟩
 have HSa:Hid (Sq w r (mcs { Mg.z with k:=13 } none none none none 0 0 0 0) x1):=HS1.out.keep hb.out
 have HSt:Hid ((Instr.storeAt 136 (.pointer (some ⟨w.heap.size+2,0,none⟩)) (.agg (zaa r1))).run Tryz.prog x1=.ok () (x1.setRow (w.heap.size+2) (zaa r1))):=zaq _ _ _ _ HSa.out.y
 have HSu:Hid ((Instr.storeAt 35 (.pointer (some ⟨w.heap.size+3,0,none⟩)) (.agg (mcs { Mg.z with k:=13,mem:=y0 } none none none none 0 0 0 0))).run Tryz.prog (x1.setRow (w.heap.size+2) (zaa r1))=.ok () ((x1.setRow (w.heap.size+2) (zaa r1)).setRow (w.heap.size+3) (mcs { Mg.z with k:=13,mem:=y0 } none none none none 0 0 0 0))):=zaw _ (w.heap.size+3) _ _ (HSa.out.v.other (by omega)) (zac _ _ _ _ _ _ _ _ _) (zac _ _ _ _ _ _ _ _ _) (zaj _ _ _ _ _ _ _ _ _)
 have hl1:=zbi ((x1.setRow (w.heap.size+2) (zaa r1)).setRow (w.heap.size+3) (mcs { Mg.z with k:=13,mem:=y0 } none none none none 0 0 0 0)) (w.heap.size+2) r1 (HSa.out.y.set.other (by omega))
 have hl2:=zbb ((x1.setRow (w.heap.size+2) (zaa r1)).setRow (w.heap.size+3) (mcs { Mg.z with k:=13,mem:=y0 } none none none none 0 0 0 0)) (w.heap.size+3) (mcs { Mg.z with k:=13,mem:=y0 } none none none none 0 0 0 0) (zac _ _ _ _ _ _ _ _ _) ((HSa.out.v.other (by omega)).set)
 have HBz:Hid (Below w.heap.size w ((x1.setRow (w.heap.size+2) (zaa r1)).setRow (w.heap.size+3) (mcs { Mg.z with k:=13,mem:=y0 } none none none none 0 0 0 0))):=zad (zad HSa.out.c (by omega)) (by omega)
 clear HSa HLd HLm hb HS1 c0
 generalize (mcs { Mg.z with k:=13,mem:=y0 } none none none none 0 0 0 0)=AZ at *
 go_wp2_with (first | (guard_target =~ wpList _ _ _ (⟨_,Op.store 136 _ _,_,_,_,_⟩::_) _ _;refine zaf _ _ rfl 136 _ _ rfl _ _ rfl rfl HSt.out ?_;go_simp) | (guard_target =~ wpList _ _ _ (⟨_,Op.store 35 _ _,_,_,_,_⟩::_) _ _;refine zaf _ _ rfl 35 _ _ rfl _ _ rfl rfl HSu.out ?_;go_simp))
 refine bodyPost_ret (za3 _ _ 4 136 5 35 _ _ _ _ _ rfl rfl rfl hl1 hl2) rfl ?_
 exact ⟨rfl,HBz⟩
theorem zp2 {r r1 r2:Rd} {y0:Int} {y1:Int} (h0:zah r=(r1,y0)) (h1:zah r1=(r2,y1)) (hs:Sm r) (s1:Sm r1) (s2:Sm r2) (w:World):Calls Tryz.prog 62 #[.agg (zaa r),.agg (mcs { Mg.z with k:=14 } none none none none 0 0 0 0)] w (RdP r2 (mcs { Mg.z with k:=14,mem:=y0,n:=y1 } none none none none 0 0 0 0) w):=by
 have HS1:Hid (Sq w r (mcs { Mg.z with k:=14 } none none none none 0 0 0 0) ((((w.alloc (.cells (zaa r) 136)).alloc (.cells (mcs { Mg.z with k:=14 } none none none none 0 0 0 0) 35)).alloc (.cells (zaa ⟨[],0,0⟩) 136)).alloc (.cells (mcs Mg.z none none none none 0 0 0 0) 35))):=Sq.new w r _
 go_enter Tryz.func62,Tryz.ntmps62
 go_upto_region 1 with fail
 show Code.wp _ _ _ _ ((((w.alloc (.cells (zaa r) 136)).alloc (.cells (mcs { Mg.z with k:=14 } none none none none 0 0 0 0) 35)).alloc (.cells (zaa ⟨[],0,0⟩) 136)).alloc (.cells (mcs Mg.z none none none none 0 0 0 0) 35))
 generalize ((((w.alloc (.cells (zaa r) 136)).alloc (.cells (mcs { Mg.z with k:=14 } none none none none 0 0 0 0) 35)).alloc (.cells (zaa ⟨[],0,0⟩) 136)).alloc (.cells (mcs Mg.z none none none none 0 0 0 0) 35))=w1 at *
 have c0:w1.cell? ⟨w.heap.size+1,0,none⟩=some (.int .i64 14):=(HS1.out.b.cell 0).trans rfl
 have HLd:Hid ((Instr.loadAt 136 (.pointer (some ⟨w.heap.size,0,none⟩))).run Tryz.prog w1=.ok (.agg (zaa r)) w1):=za2 _ _ _ HS1.out.z
 have HLm:Hid ((Instr.loadAt 35 (.pointer (some ⟨w.heap.size+1,0,none⟩))).run Tryz.prog w1=.ok (.agg (mcs { Mg.z with k:=14 } none none none none 0 0 0 0)) w1):=zam _ _ _ (zac _ _ _ _ _ _ _ _ _) HS1.out.b
 go_wp2_with (first | (guard_target =~ wpList _ _ _ (⟨_,Op.load 136 _,_,_,_,_⟩::_) _ _;refine zag _ rfl 136 _ rfl _ rfl _ HLd.out ?_;go_simp) | (guard_target =~ wpList _ _ _ (⟨_,Op.load 35 _,_,_,_,_⟩::_) _ _;refine zag _ rfl 35 _ rfl _ rfl _ HLm.out ?_;go_simp))
 refine (zpx h0 h1 hs s1 s2 _).mono ?_
 rintro e x1 ⟨rfl,hb⟩
 have HSa:Hid (Sq w r (mcs { Mg.z with k:=14 } none none none none 0 0 0 0) x1):=HS1.out.keep hb.out
 have HSt:Hid ((Instr.storeAt 136 (.pointer (some ⟨w.heap.size+2,0,none⟩)) (.agg (zaa r2))).run Tryz.prog x1=.ok () (x1.setRow (w.heap.size+2) (zaa r2))):=zaq _ _ _ _ HSa.out.y
 have HSu:Hid ((Instr.storeAt 35 (.pointer (some ⟨w.heap.size+3,0,none⟩)) (.agg (mcs { Mg.z with k:=14,mem:=y0,n:=y1 } none none none none 0 0 0 0))).run Tryz.prog (x1.setRow (w.heap.size+2) (zaa r2))=.ok () ((x1.setRow (w.heap.size+2) (zaa r2)).setRow (w.heap.size+3) (mcs { Mg.z with k:=14,mem:=y0,n:=y1 } none none none none 0 0 0 0))):=zaw _ (w.heap.size+3) _ _ (HSa.out.v.other (by omega)) (zac _ _ _ _ _ _ _ _ _) (zac _ _ _ _ _ _ _ _ _) (zaj _ _ _ _ _ _ _ _ _)
 have hl1:=zbi ((x1.setRow (w.heap.size+2) (zaa r2)).setRow (w.heap.size+3) (mcs { Mg.z with k:=14,mem:=y0,n:=y1 } none none none none 0 0 0 0)) (w.heap.size+2) r2 (HSa.out.y.set.other (by omega))
 have hl2:=zbb ((x1.setRow (w.heap.size+2) (zaa r2)).setRow (w.heap.size+3) (mcs { Mg.z with k:=14,mem:=y0,n:=y1 } none none none none 0 0 0 0)) (w.heap.size+3) (mcs { Mg.z with k:=14,mem:=y0,n:=y1 } none none none none 0 0 0 0) (zac _ _ _ _ _ _ _ _ _) ((HSa.out.v.other (by omega)).set)
 have HBz:Hid (Below w.heap.size w ((x1.setRow (w.heap.size+2) (zaa r2)).setRow (w.heap.size+3) (mcs { Mg.z with k:=14,mem:=y0,n:=y1 } none none none none 0 0 0 0))):=zad (zad HSa.out.c (by omega)) (by omega)
 clear HSa HLd HLm hb HS1 c0
 generalize (mcs { Mg.z with k:=14,mem:=y0,n:=y1 } none none none none 0 0 0 0)=AZ at *
 go_wp2_with (first | (guard_target =~ wpList _ _ _ (⟨_,Op.store 136 _ _,_,_,_,_⟩::_) _ _;refine zaf _ _ rfl 136 _ _ rfl _ _ rfl rfl HSt.out ?_;go_simp) | (guard_target =~ wpList _ _ _ (⟨_,Op.store 35 _ _,_,_,_,_⟩::_) _ _;refine zaf _ _ rfl 35 _ _ rfl _ _ rfl rfl HSu.out ?_;go_simp))
 refine bodyPost_ret (za3 _ _ 4 136 5 35 _ _ _ _ _ rfl rfl rfl hl1 hl2) rfl ?_
 exact ⟨rfl,HBz⟩
theorem zp3 {r r1 r2 r3:Rd} {y0:Int} {y1:Int} {y2:Int} (h0:zah r=(r1,y0)) (h1:zah r1=(r2,y1)) (h2:zah r2=(r3,y2)) (hs:Sm r) (s1:Sm r1) (s2:Sm r2) (s3:Sm r3) (w:World):Calls Tryz.prog 62 #[.agg (zaa r),.agg (mcs { Mg.z with k:=15 } none none none none 0 0 0 0)] w (RdP r3 (mcs { Mg.z with k:=15,tr:=y0,day:=y1,rate:=y2 } none none none none 0 0 0 0) w):=by
 have HS1:Hid (Sq w r (mcs { Mg.z with k:=15 } none none none none 0 0 0 0) ((((w.alloc (.cells (zaa r) 136)).alloc (.cells (mcs { Mg.z with k:=15 } none none none none 0 0 0 0) 35)).alloc (.cells (zaa ⟨[],0,0⟩) 136)).alloc (.cells (mcs Mg.z none none none none 0 0 0 0) 35))):=Sq.new w r _
 go_enter Tryz.func62,Tryz.ntmps62
 go_upto_region 1 with fail
 show Code.wp _ _ _ _ ((((w.alloc (.cells (zaa r) 136)).alloc (.cells (mcs { Mg.z with k:=15 } none none none none 0 0 0 0) 35)).alloc (.cells (zaa ⟨[],0,0⟩) 136)).alloc (.cells (mcs Mg.z none none none none 0 0 0 0) 35))
 generalize ((((w.alloc (.cells (zaa r) 136)).alloc (.cells (mcs { Mg.z with k:=15 } none none none none 0 0 0 0) 35)).alloc (.cells (zaa ⟨[],0,0⟩) 136)).alloc (.cells (mcs Mg.z none none none none 0 0 0 0) 35))=w1 at *
 have c0:w1.cell? ⟨w.heap.size+1,0,none⟩=some (.int .i64 15):=(HS1.out.b.cell 0).trans rfl
 have HLd:Hid ((Instr.loadAt 136 (.pointer (some ⟨w.heap.size,0,none⟩))).run Tryz.prog w1=.ok (.agg (zaa r)) w1):=za2 _ _ _ HS1.out.z
 have HLm:Hid ((Instr.loadAt 35 (.pointer (some ⟨w.heap.size+1,0,none⟩))).run Tryz.prog w1=.ok (.agg (mcs { Mg.z with k:=15 } none none none none 0 0 0 0)) w1):=zam _ _ _ (zac _ _ _ _ _ _ _ _ _) HS1.out.b
 go_wp2_with (first | (guard_target =~ wpList _ _ _ (⟨_,Op.load 136 _,_,_,_,_⟩::_) _ _;refine zag _ rfl 136 _ rfl _ rfl _ HLd.out ?_;go_simp) | (guard_target =~ wpList _ _ _ (⟨_,Op.load 35 _,_,_,_,_⟩::_) _ _;refine zag _ rfl 35 _ rfl _ rfl _ HLm.out ?_;go_simp))
 refine (zpy h0 h1 h2 hs s1 s2 s3 _).mono ?_
 rintro e x1 ⟨rfl,hb⟩
 have HSa:Hid (Sq w r (mcs { Mg.z with k:=15 } none none none none 0 0 0 0) x1):=HS1.out.keep hb.out
 have HSt:Hid ((Instr.storeAt 136 (.pointer (some ⟨w.heap.size+2,0,none⟩)) (.agg (zaa r3))).run Tryz.prog x1=.ok () (x1.setRow (w.heap.size+2) (zaa r3))):=zaq _ _ _ _ HSa.out.y
 have HSu:Hid ((Instr.storeAt 35 (.pointer (some ⟨w.heap.size+3,0,none⟩)) (.agg (mcs { Mg.z with k:=15,tr:=y0,day:=y1,rate:=y2 } none none none none 0 0 0 0))).run Tryz.prog (x1.setRow (w.heap.size+2) (zaa r3))=.ok () ((x1.setRow (w.heap.size+2) (zaa r3)).setRow (w.heap.size+3) (mcs { Mg.z with k:=15,tr:=y0,day:=y1,rate:=y2 } none none none none 0 0 0 0))):=zaw _ (w.heap.size+3) _ _ (HSa.out.v.other (by omega)) (zac _ _ _ _ _ _ _ _ _) (zac _ _ _ _ _ _ _ _ _) (zaj _ _ _ _ _ _ _ _ _)
 have hl1:=zbi ((x1.setRow (w.heap.size+2) (zaa r3)).setRow (w.heap.size+3) (mcs { Mg.z with k:=15,tr:=y0,day:=y1,rate:=y2 } none none none none 0 0 0 0)) (w.heap.size+2) r3 (HSa.out.y.set.other (by omega))
 have hl2:=zbb ((x1.setRow (w.heap.size+2) (zaa r3)).setRow (w.heap.size+3) (mcs { Mg.z with k:=15,tr:=y0,day:=y1,rate:=y2 } none none none none 0 0 0 0)) (w.heap.size+3) (mcs { Mg.z with k:=15,tr:=y0,day:=y1,rate:=y2 } none none none none 0 0 0 0) (zac _ _ _ _ _ _ _ _ _) ((HSa.out.v.other (by omega)).set)
 have HBz:Hid (Below w.heap.size w ((x1.setRow (w.heap.size+2) (zaa r3)).setRow (w.heap.size+3) (mcs { Mg.z with k:=15,tr:=y0,day:=y1,rate:=y2 } none none none none 0 0 0 0))):=zad (zad HSa.out.c (by omega)) (by omega)
 clear HSa HLd HLm hb HS1 c0
 generalize (mcs { Mg.z with k:=15,tr:=y0,day:=y1,rate:=y2 } none none none none 0 0 0 0)=AZ at *
 go_wp2_with (first | (guard_target =~ wpList _ _ _ (⟨_,Op.store 136 _ _,_,_,_,_⟩::_) _ _;refine zaf _ _ rfl 136 _ _ rfl _ _ rfl rfl HSt.out ?_;go_simp) | (guard_target =~ wpList _ _ _ (⟨_,Op.store 35 _ _,_,_,_,_⟩::_) _ _;refine zaf _ _ rfl 35 _ _ rfl _ _ rfl rfl HSu.out ?_;go_simp))
 refine bodyPost_ret (za3 _ _ 4 136 5 35 _ _ _ _ _ rfl rfl rfl hl1 hl2) rfl ?_
 exact ⟨rfl,HBz⟩
theorem zt4 {r r1 r2 r3 r4 r5 r6 r7 r8:Rd} {y0:Int} {y1:Int} {y2:Int} {y3:Int} {y4:Int} {y5:Int} {y6:Int} {y7:Int} (h0:zah r=(r1,y0)) (h1:zah r1=(r2,y1)) (h2:zah r2=(r3,y2)) (h3:zah r3=(r4,y3)) (h4:zah r4=(r5,y4)) (h5:zah r5=(r6,y5)) (h6:zah r6=(r7,y6)) (h7:zah r7=(r8,y7)) (hs:Sm r) (s1:Sm r1) (s2:Sm r2) (s3:Sm r3) (s4:Sm r4) (s5:Sm r5) (s6:Sm r6) (s7:Sm r7) (s8:Sm r8) (w:World):Calls Tryz.prog 62 #[.agg (zaa r),.agg (mcs { Mg.z with k:=8 } none none none none 0 0 0 0)] w (RdP r8 (mcs { Mg.z with k:=8,q:=⟨y0,y1,y2,y3,y4,y5,y6,y7⟩ } none none none none 0 0 0 0) w):=by
 have HS1:Hid (Sq w r (mcs { Mg.z with k:=8 } none none none none 0 0 0 0) ((((w.alloc (.cells (zaa r) 136)).alloc (.cells (mcs { Mg.z with k:=8 } none none none none 0 0 0 0) 35)).alloc (.cells (zaa ⟨[],0,0⟩) 136)).alloc (.cells (mcs Mg.z none none none none 0 0 0 0) 35))):=Sq.new w r _
 go_enter Tryz.func62,Tryz.ntmps62
 go_upto_region 1 with fail
 show Code.wp _ _ _ _ ((((w.alloc (.cells (zaa r) 136)).alloc (.cells (mcs { Mg.z with k:=8 } none none none none 0 0 0 0) 35)).alloc (.cells (zaa ⟨[],0,0⟩) 136)).alloc (.cells (mcs Mg.z none none none none 0 0 0 0) 35))
 generalize ((((w.alloc (.cells (zaa r) 136)).alloc (.cells (mcs { Mg.z with k:=8 } none none none none 0 0 0 0) 35)).alloc (.cells (zaa ⟨[],0,0⟩) 136)).alloc (.cells (mcs Mg.z none none none none 0 0 0 0) 35))=w1 at *
 have c0:w1.cell? ⟨w.heap.size+1,0,none⟩=some (.int .i64 8):=(HS1.out.b.cell 0).trans rfl
 have HLd:Hid ((Instr.loadAt 136 (.pointer (some ⟨w.heap.size,0,none⟩))).run Tryz.prog w1=.ok (.agg (zaa r)) w1):=za2 _ _ _ HS1.out.z
 go_wp2_with (guard_target =~ wpList _ _ _ (⟨_,Op.load 136 _,_,_,_,_⟩::_) _ _;refine zag _ rfl 136 _ rfl _ rfl _ HLd.out ?_;go_simp)
 refine (zpt h0 h1 h2 h3 h4 h5 h6 h7 hs _).mono ?_
 rintro e x1 ⟨la,lc,rfl,HO,hb⟩
 have hle:w.heap.size+4≤w1.heap.size:=HS1.out.lt
 obtain ⟨lg,hla⟩:=zbp HO.out (by omega)
 subst hla
 have HSa:Hid (Sq w r (mcs { Mg.z with k:=8 } none none none none 0 0 0 0) x1):=HS1.out.keep hb.out
 have HSt:Hid ((Instr.storeAt 136 (.pointer (some ⟨w.heap.size,0,none⟩)) (.agg (zaa r8))).run Tryz.prog x1=.ok () (x1.setRow w.heap.size (zaa r8))):=zaq _ _ _ _ HSa.out.z
 have HS2:Hid (Sq w r8 (mcs { Mg.z with k:=8 } none none none none 0 0 0 0) (x1.setRow w.heap.size (zaa r8))):=HSa.out.putZ r8
 have HOl:Hid ((x1.setRow w.heap.size (zaa r8)).ownsRow (w.heap.size+4) 3 1 (.slice (some ⟨lg,0,none⟩) 8 lc) 8 (zal [y0,y1,y2,y3,y4,y5,y6,y7])):=zau (zat HO.out HSa.out.z (by decide)) hle
 clear hb HSa HS1 HLd HO c0
 generalize hx:x1.setRow w.heap.size (zaa r8)=w2 at *
 go_upto_region 29 with (guard_target =~ wpList _ _ _ (⟨_,Op.store 136 _ _,_,_,_,_⟩::_) _ _;refine zaf _ _ rfl 136 _ _ rfl _ _ rfl rfl HSt.out ?_;go_simp)
 clear hx HSt
 have c0:w2.cell? ⟨w.heap.size+1,0,none⟩=some (.int .i64 8):=(HS2.out.b.cell 0).trans rfl
 go_wp2_with fail
 refine wp_region_held (S:=fun W=>W.ownsRow (w.heap.size+4) 3 1 (.slice (some ⟨lg,0,none⟩) 8 lc) 8 (zal [y0,y1,y2,y3,y4,y5,y6,y7])) (by kernel_rfl) ?_
 change wpAnyH _ _ _ _ _ 27 #[false,false,false,false,false,false,false,false,false,false,false,false,false,false,false,false,false,false,false,false,false,false,false,false,false,false,false] _ w2.drew
 have hS0:w2.drew.ownsRow (w.heap.size+4) 3 1 (.slice (some ⟨lg,0,none⟩) 8 lc) 8 (zal [y0,y1,y2,y3,y4,y5,y6,y7]):=HOl.out
 have hQ0:Sq w r8 (mcs { Mg.z with k:=8 } none none none none 0 0 0 0) w2.drew:=HS2.out.drewN 1
 clear HOl HS2 c0
 obtain ⟨v0,hv0⟩:∃u,u=w2.drew:=⟨_,rfl⟩
 rw [← hv0] at hS0 hQ0 ⊢
 clear hv0
 refine zae (i:=0) (v:=.slice (some ⟨lg,0,none⟩) 8 lc) rfl (by kernel_rfl) (Or.inl ⟨rfl,fun _ _=>rfl⟩) hS0 ?_
 simp only [pu]
 refine zae (i:=1) (v:=.pointer (some ⟨lg,0,none⟩)) rfl (by kernel_rfl) (Or.inl ⟨rfl,fun W hW=>by go_simp⟩) hS0 ?_
 simp only [pu]
 refine zae (i:=2) (v:=.int .i64 y0) rfl (by kernel_rfl) (Or.inl ⟨rfl,fun W hW=>by have cj:W.cell? ⟨lg,0,none⟩=some (.int .i64 y0):=zbe hW 0 rfl;go_simp⟩) hS0 ?_
 simp only [pu]
 refine zae (i:=3) (v:=.slice (some ⟨lg,0,none⟩) 8 lc) rfl (by kernel_rfl) (Or.inl ⟨rfl,fun _ _=>rfl⟩) hS0 ?_
 simp only [pu]
 refine zae (i:=4) (v:=.pointer (some ⟨lg,1,none⟩)) rfl (by kernel_rfl) (Or.inl ⟨rfl,fun W hW=>by go_simp⟩) hS0 ?_
 simp only [pu]
 refine zae (i:=5) (v:=.int .i64 y1) rfl (by kernel_rfl) (Or.inl ⟨rfl,fun W hW=>by have cj:W.cell? ⟨lg,1,none⟩=some (.int .i64 y1):=zbe hW 1 rfl;go_simp⟩) hS0 ?_
 simp only [pu]
 refine zae (i:=6) (v:=.slice (some ⟨lg,0,none⟩) 8 lc) rfl (by kernel_rfl) (Or.inl ⟨rfl,fun _ _=>rfl⟩) hS0 ?_
 simp only [pu]
 refine zae (i:=7) (v:=.pointer (some ⟨lg,2,none⟩)) rfl (by kernel_rfl) (Or.inl ⟨rfl,fun W hW=>by go_simp⟩) hS0 ?_
 simp only [pu]
 refine zae (i:=8) (v:=.int .i64 y2) rfl (by kernel_rfl) (Or.inl ⟨rfl,fun W hW=>by have cj:W.cell? ⟨lg,2,none⟩=some (.int .i64 y2):=zbe hW 2 rfl;go_simp⟩) hS0 ?_
 simp only [pu]
 refine zae (i:=9) (v:=.slice (some ⟨lg,0,none⟩) 8 lc) rfl (by kernel_rfl) (Or.inl ⟨rfl,fun _ _=>rfl⟩) hS0 ?_
 simp only [pu]
 refine zae (i:=10) (v:=.pointer (some ⟨lg,3,none⟩)) rfl (by kernel_rfl) (Or.inl ⟨rfl,fun W hW=>by go_simp⟩) hS0 ?_
 simp only [pu]
 refine zae (i:=11) (v:=.int .i64 y3) rfl (by kernel_rfl) (Or.inl ⟨rfl,fun W hW=>by have cj:W.cell? ⟨lg,3,none⟩=some (.int .i64 y3):=zbe hW 3 rfl;go_simp⟩) hS0 ?_
 simp only [pu]
 refine zae (i:=12) (v:=.slice (some ⟨lg,0,none⟩) 8 lc) rfl (by kernel_rfl) (Or.inl ⟨rfl,fun _ _=>rfl⟩) hS0 ?_
 simp only [pu]
 refine zae (i:=13) (v:=.pointer (some ⟨lg,4,none⟩)) rfl (by kernel_rfl) (Or.inl ⟨rfl,fun W hW=>by go_simp⟩) hS0 ?_
 simp only [pu]
 refine zae (i:=14) (v:=.int .i64 y4) rfl (by kernel_rfl) (Or.inl ⟨rfl,fun W hW=>by have cj:W.cell? ⟨lg,4,none⟩=some (.int .i64 y4):=zbe hW 4 rfl;go_simp⟩) hS0 ?_
 simp only [pu]
 refine zae (i:=15) (v:=.slice (some ⟨lg,0,none⟩) 8 lc) rfl (by kernel_rfl) (Or.inl ⟨rfl,fun _ _=>rfl⟩) hS0 ?_
 simp only [pu]
 refine zae (i:=16) (v:=.pointer (some ⟨lg,5,none⟩)) rfl (by kernel_rfl) (Or.inl ⟨rfl,fun W hW=>by go_simp⟩) hS0 ?_
 simp only [pu]
 refine zae (i:=17) (v:=.int .i64 y5) rfl (by kernel_rfl) (Or.inl ⟨rfl,fun W hW=>by have cj:W.cell? ⟨lg,5,none⟩=some (.int .i64 y5):=zbe hW 5 rfl;go_simp⟩) hS0 ?_
 simp only [pu]
 refine zae (i:=18) (v:=.slice (some ⟨lg,0,none⟩) 8 lc) rfl (by kernel_rfl) (Or.inl ⟨rfl,fun _ _=>rfl⟩) hS0 ?_
 simp only [pu]
 refine zae (i:=19) (v:=.pointer (some ⟨lg,6,none⟩)) rfl (by kernel_rfl) (Or.inl ⟨rfl,fun W hW=>by go_simp⟩) hS0 ?_
 simp only [pu]
 refine zae (i:=20) (v:=.int .i64 y6) rfl (by kernel_rfl) (Or.inl ⟨rfl,fun W hW=>by have cj:W.cell? ⟨lg,6,none⟩=some (.int .i64 y6):=zbe hW 6 rfl;go_simp⟩) hS0 ?_
 simp only [pu]
 refine zae (i:=21) (v:=.slice (some ⟨lg,0,none⟩) 8 lc) rfl (by kernel_rfl) (Or.inl ⟨rfl,fun _ _=>rfl⟩) hS0 ?_
 simp only [pu]
 refine zae (i:=22) (v:=.pointer (some ⟨lg,7,none⟩)) rfl (by kernel_rfl) (Or.inl ⟨rfl,fun W hW=>by go_simp⟩) hS0 ?_
 simp only [pu]
 refine zae (i:=23) (v:=.int .i64 y7) rfl (by kernel_rfl) (Or.inl ⟨rfl,fun W hW=>by have cj:W.cell? ⟨lg,7,none⟩=some (.int .i64 y7):=zbe hW 7 rfl;go_simp⟩) hS0 ?_
 simp only [pu]
 refine zae (i:=24) (v:=.agg #[.int .i64 y0,.int .i64 y1,.int .i64 y2,.int .i64 y3,.int .i64 y4,.int .i64 y5,.int .i64 y6,.int .i64 y7]) rfl (by kernel_rfl) (Or.inl ⟨rfl,fun W hW=>by first | go_simp | kernel_rfl⟩) hS0 ?_
 simp only [pu]
 refine zae (i:=25) (v:=.pointer (some ⟨w.heap.size+1,22,none⟩)) rfl (by kernel_rfl) (Or.inl ⟨rfl,fun W hW=>by go_simp⟩) hS0 ?_
 simp only [pu]
 have hst:(Instr.storeAt 30 (.pointer (some ⟨w.heap.size+1,22,none⟩)) (.agg #[.int .i64 y0,.int .i64 y1,.int .i64 y2,.int .i64 y3,.int .i64 y4,.int .i64 y5,.int .i64 y6,.int .i64 y7])).run Tryz.prog v0=.ok () (v0.setCells (w.heap.size+1) 22 [.int .i64 y0,.int .i64 y1,.int .i64 y2,.int .i64 y3,.int .i64 y4,.int .i64 y5,.int .i64 y6,.int .i64 y7]):=run_storeAt_mid v0 (w.heap.size+1) 22 30 #[.int .i64 y0,.int .i64 y1,.int .i64 y2,.int .i64 y3,.int .i64 y4,.int .i64 y5,.int .i64 y6,.int .i64 y7] (hQ0.b.there (by show 22+8≤(mcs _ _ _ _ _ _ _ _ _).size;rw [zac];omega)) (by kernel_rfl) (by simp [Value.oneCell'])
 have hQ1:Sq w r8 (mcs { Mg.z with k:=8,q:=⟨y0,y1,y2,y3,y4,y5,y6,y7⟩ } none none none none 0 0 0 0) (v0.setCells (w.heap.size+1) 22 [.int .i64 y0,.int .i64 y1,.int .i64 y2,.int .i64 y3,.int .i64 y4,.int .i64 y5,.int .i64 y6,.int .i64 y7]):=hQ0.putC 22 _ (by kernel_rfl)
 refine zap (i:=26) rfl (by kernel_rfl) (fun K hK=>?_)
 rw [if_pos (by rfl)]
 refine zao _ _ 30 _ _ rfl _ _ rfl rfl hst ?_
 refine hK.out _ _ (za8 hS0 (by omega) (Bt.cells _ _ _)) (fun hS1=>?_)
 clear hK hst hQ0 hS0
 try simp only [pu]
 generalize v0.setCells (w.heap.size+1) 22 [.int .i64 y0,.int .i64 y1,.int .i64 y2,.int .i64 y3,.int .i64 y4,.int .i64 y5,.int .i64 y6,.int .i64 y7]=v1 at *
 refine wpAnyH_done (by kernel_rfl) ?_ _
 have HS3:Hid (Sq w r8 (mcs { Mg.z with k:=8,q:=⟨y0,y1,y2,y3,y4,y5,y6,y7⟩ } none none none none 0 0 0 0) v1):=hQ1
 clear hQ1 hS1
 generalize v1=w3 at *
 have c0:w3.cell? ⟨w.heap.size+1,0,none⟩=some (.int .i64 8):=(HS3.out.b.cell 0).trans rfl
 have HLd:Hid ((Instr.loadAt 136 (.pointer (some ⟨w.heap.size,0,none⟩))).run Tryz.prog w3=.ok (.agg (zaa r8)) w3):=za2 _ _ _ HS3.out.z
 have HLm:Hid ((Instr.loadAt 35 (.pointer (some ⟨w.heap.size+1,0,none⟩))).run Tryz.prog w3=.ok (.agg (mcs { Mg.z with k:=8,q:=⟨y0,y1,y2,y3,y4,y5,y6,y7⟩ } none none none none 0 0 0 0)) w3):=zam _ _ _ (zac _ _ _ _ _ _ _ _ _) HS3.out.b
 go_wp2_with (first | (guard_target =~ wpList _ _ _ (⟨_,Op.load 136 _,_,_,_,_⟩::_) _ _;refine zag _ rfl 136 _ rfl _ rfl _ HLd.out ?_;go_simp) | (guard_target =~ wpList _ _ _ (⟨_,Op.load 35 _,_,_,_,_⟩::_) _ _;refine zag _ rfl 35 _ rfl _ rfl _ HLm.out ?_;go_simp))
 refine (zdr 8 (by decide) _ _ rfl (zac _ _ _ _ _ _ _ _ _) (zaj _ _ _ _ _ _ _ _ _) _).mono ?_
 rintro e x3 ⟨rfl,hb⟩
 have HSa:Hid (Sq w r8 (mcs { Mg.z with k:=8,q:=⟨y0,y1,y2,y3,y4,y5,y6,y7⟩ } none none none none 0 0 0 0) x3):=HS3.out.keep hb.out
 have HSt:Hid ((Instr.storeAt 136 (.pointer (some ⟨w.heap.size+2,0,none⟩)) (.agg (zaa r8))).run Tryz.prog x3=.ok () (x3.setRow (w.heap.size+2) (zaa r8))):=zaq _ _ _ _ HSa.out.y
 have HSu:Hid ((Instr.storeAt 35 (.pointer (some ⟨w.heap.size+3,0,none⟩)) (.agg (mcs { Mg.z with k:=8,q:=⟨y0,y1,y2,y3,y4,y5,y6,y7⟩ } none none none none 0 0 0 0))).run Tryz.prog (x3.setRow (w.heap.size+2) (zaa r8))=.ok () ((x3.setRow (w.heap.size+2) (zaa r8)).setRow (w.heap.size+3) (mcs { Mg.z with k:=8,q:=⟨y0,y1,y2,y3,y4,y5,y6,y7⟩ } none none none none 0 0 0 0))):=zaw _ (w.heap.size+3) _ _ (HSa.out.v.other (by omega)) (zac _ _ _ _ _ _ _ _ _) (zac _ _ _ _ _ _ _ _ _) (zaj _ _ _ _ _ _ _ _ _)
 have hl1:=zbi ((x3.setRow (w.heap.size+2) (zaa r8)).setRow (w.heap.size+3) (mcs { Mg.z with k:=8,q:=⟨y0,y1,y2,y3,y4,y5,y6,y7⟩ } none none none none 0 0 0 0)) (w.heap.size+2) r8 (HSa.out.y.set.other (by omega))
 have hl2:=zbb ((x3.setRow (w.heap.size+2) (zaa r8)).setRow (w.heap.size+3) (mcs { Mg.z with k:=8,q:=⟨y0,y1,y2,y3,y4,y5,y6,y7⟩ } none none none none 0 0 0 0)) (w.heap.size+3) (mcs { Mg.z with k:=8,q:=⟨y0,y1,y2,y3,y4,y5,y6,y7⟩ } none none none none 0 0 0 0) (zac _ _ _ _ _ _ _ _ _) ((HSa.out.v.other (by omega)).set)
 have HBz:Hid (Below w.heap.size w ((x3.setRow (w.heap.size+2) (zaa r8)).setRow (w.heap.size+3) (mcs { Mg.z with k:=8,q:=⟨y0,y1,y2,y3,y4,y5,y6,y7⟩ } none none none none 0 0 0 0))):=zad (zad HSa.out.c (by omega)) (by omega)
 clear HSa HLd HLm hb HS3 c0
 generalize (mcs { Mg.z with k:=8,q:=⟨y0,y1,y2,y3,y4,y5,y6,y7⟩ } none none none none 0 0 0 0)=AZ at *
 go_wp2_with (first | (guard_target =~ wpList _ _ _ (⟨_,Op.store 136 _ _,_,_,_,_⟩::_) _ _;refine zaf _ _ rfl 136 _ _ rfl _ _ rfl rfl HSt.out ?_;go_simp) | (guard_target =~ wpList _ _ _ (⟨_,Op.store 35 _ _,_,_,_,_⟩::_) _ _;refine zaf _ _ rfl 35 _ _ rfl _ _ rfl rfl HSu.out ?_;go_simp))
 refine bodyPost_ret (za3 _ _ 4 136 5 35 _ _ _ _ _ rfl rfl rfl hl1 hl2) rfl ?_
 exact ⟨rfl,HBz⟩
end Go.Proofs.YtdmlgheajblcdaaGreat
