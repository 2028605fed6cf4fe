/- Layer 10: the reference's more. -/
import Derived.Test.YtdmlgheajblcdaaGreatD14
namespace Go.Proofs.YtdmlgheajblcdaaGreat
set_option maxHeartbeats 16000000
set_option maxRecDepth 100000
open Go.RowKit
set_option linter.unusedVariables false
set_option linter.unusedSimpArgs false
set_option maxRecDepth 100000
theorem ztx {r r1 r2:Rd} {y0:Int} {y1:Int} (h0:zah r=(r1,y0)) (h1:zah r1=(r2,y1)) (hs:Sm r) (s1:Sm r1) (s2:Sm r2) (w:World):Calls Tryz.prog 96 #[.agg (zaa r),.agg (mcs { Mg.z with k:=9 } none none none none 0 0 0 0)] w (RdP r2 (mcs { Mg.z with k:=9,mem:=y0,n:=y1 } none none none none 0 0 0 0) w):=by
 have HS1:Hid (Sq w r (mcs { Mg.z with k:=9 } none none none none 0 0 0 0) ((((w.alloc (.cells (zaa r) 136)).alloc (.cells (mcs { Mg.z with k:=9 } none none none none 0 0 0 0) 35)).alloc (.cells (zaa ⟨[],0,0⟩) 136)).alloc (.cells (mcs Mg.z none none none none 0 0 0 0) 35))):=Sq.new w r _
 go_enter Tryz.func96,Tryz.ntmps96
 go_upto_region 1 with fail
 show Code.wp _ _ _ _ ((((w.alloc (.cells (zaa r) 136)).alloc (.cells (mcs { Mg.z with k:=9 } none none none none 0 0 0 0) 35)).alloc (.cells (zaa ⟨[],0,0⟩) 136)).alloc (.cells (mcs Mg.z none none none none 0 0 0 0) 35))
 generalize ((((w.alloc (.cells (zaa r) 136)).alloc (.cells (mcs { Mg.z with k:=9 } none none none none 0 0 0 0) 35)).alloc (.cells (zaa ⟨[],0,0⟩) 136)).alloc (.cells (mcs Mg.z none none none none 0 0 0 0) 35))=w1 at *
 have c0:w1.cell? ⟨w.heap.size+1,0,none⟩=some (.int .i64 9):=(HS1.out.b.cell 0).trans rfl
 have HLd:Hid ((Instr.loadAt 136 (.pointer (some ⟨w.heap.size,0,none⟩))).run Tryz.prog w1=.ok (.agg (zaa r)) w1):=za2 _ _ _ HS1.out.z
 go_wp2_with (guard_target =~ wpList _ _ _ (⟨_,Op.load 136 _,_,_,_,_⟩::_) _ _;refine zag _ rfl 136 _ rfl _ rfl _ HLd.out ?_;go_simp)
 refine (zdn h0 h1 hs _).mono ?_
 rintro e x1 ⟨la,lc,rfl,HO,hb⟩
 have hle:w.heap.size+4≤w1.heap.size:=HS1.out.lt
 obtain ⟨lg,hla⟩:=zbp HO.out (by omega)
 subst hla
 have HSa:Hid (Sq w r (mcs { Mg.z with k:=9 } none none none none 0 0 0 0) x1):=HS1.out.keep hb.out
 have HSt:Hid ((Instr.storeAt 136 (.pointer (some ⟨w.heap.size,0,none⟩)) (.agg (zaa r2))).run Tryz.prog x1=.ok () (x1.setRow w.heap.size (zaa r2))):=zaq _ _ _ _ HSa.out.z
 have HS2:Hid (Sq w r2 (mcs { Mg.z with k:=9 } none none none none 0 0 0 0) (x1.setRow w.heap.size (zaa r2))):=HSa.out.putZ r2
 have HOl:Hid ((x1.setRow w.heap.size (zaa r2)).ownsRow (w.heap.size+4) 3 1 (.slice (some ⟨lg,0,none⟩) 2 lc) 2 (zal [y0,y1])):=zau (zat HO.out HSa.out.z (by decide)) hle
 clear hb HSa HS1 HLd HO c0
 generalize hx:x1.setRow w.heap.size (zaa r2)=w2 at *
 go_upto_region 5 with (guard_target =~ wpList _ _ _ (⟨_,Op.store 136 _ _,_,_,_,_⟩::_) _ _;refine zaf _ _ rfl 136 _ _ rfl _ _ rfl rfl HSt.out ?_;go_simp)
 clear hx HSt
 have c0:w2.cell? ⟨w.heap.size+1,0,none⟩=some (.int .i64 9):=(HS2.out.b.cell 0).trans rfl
 go_wp2_with fail
 refine wp_region_held (S:=fun W=>W.ownsRow (w.heap.size+4) 3 1 (.slice (some ⟨lg,0,none⟩) 2 lc) 2 (zal [y0,y1])) (by kernel_rfl) ?_
 change wpAnyH _ _ _ _ _ 10 #[false,false,false,false,false,false,false,false,false,false] _ w2.drew
 have hS0:w2.drew.ownsRow (w.heap.size+4) 3 1 (.slice (some ⟨lg,0,none⟩) 2 lc) 2 (zal [y0,y1]):=HOl.out
 have hQ0:Sq w r2 (mcs { Mg.z with k:=9 } none none none none 0 0 0 0) w2.drew:=HS2.out.drewN 1
 clear HOl HS2 c0
 obtain ⟨v0,hv0⟩:∃u,u=w2.drew:=⟨_,rfl⟩
 rw [← hv0] at hS0 hQ0 ⊢
 clear hv0
 refine zae (i:=0) (v:=.slice (some ⟨lg,0,none⟩) 2 lc) rfl (by kernel_rfl) (Or.inl ⟨rfl,fun _ _=>rfl⟩) hS0 ?_
 simp only [pu]
 refine zae (i:=1) (v:=.pointer (some ⟨lg,0,none⟩)) rfl (by kernel_rfl) (Or.inl ⟨rfl,fun W hW=>by go_simp⟩) hS0 ?_
 simp only [pu]
 refine zae (i:=2) (v:=.int .i64 y0) rfl (by kernel_rfl) (Or.inl ⟨rfl,fun W hW=>by have cj:W.cell? ⟨lg,0,none⟩=some (.int .i64 y0):=zbe hW 0 rfl;go_simp⟩) hS0 ?_
 simp only [pu]
 refine zae (i:=3) (v:=.slice (some ⟨lg,0,none⟩) 2 lc) rfl (by kernel_rfl) (Or.inl ⟨rfl,fun _ _=>rfl⟩) hS0 ?_
 simp only [pu]
 refine zae (i:=4) (v:=.pointer (some ⟨lg,1,none⟩)) rfl (by kernel_rfl) (Or.inl ⟨rfl,fun W hW=>by go_simp⟩) hS0 ?_
 simp only [pu]
 refine zae (i:=5) (v:=.int .i64 y1) rfl (by kernel_rfl) (Or.inl ⟨rfl,fun W hW=>by have cj:W.cell? ⟨lg,1,none⟩=some (.int .i64 y1):=zbe hW 1 rfl;go_simp⟩) hS0 ?_
 simp only [pu]
 refine zae (i:=6) (v:=.pointer (some ⟨w.heap.size+1,1,none⟩)) rfl (by kernel_rfl) (Or.inl ⟨rfl,fun W hW=>by go_simp⟩) hS0 ?_
 simp only [pu]
 have d0:v0.cell? ⟨w.heap.size+1,1,none⟩=some (.int .i64 0):=(hQ0.b.cell 1).trans (by kernel_rfl)
 have hQ1:Sq w r2 (mcs { Mg.z with k:=9,mem:=y0 } none none none none 0 0 0 0) (v0.setCell ⟨w.heap.size+1,1,none⟩ (.int .i64 y0)):=hQ0.putB 1 _ (by kernel_rfl)
 refine zap (i:=7) rfl (by kernel_rfl) (fun K hK=>?_)
 rw [if_pos (by rfl)]
 refine zao _ _ 3 _ _ rfl _ _ rfl rfl (zbu _ _ 1 _ _ d0 (hQ0.b.froz 1)) ?_
 refine hK.out _ _ (za8 hS0 (by omega) (Bt.set _ _ 1 _)) (fun hS1=>?_)
 clear hK d0 hQ0 hS0
 try simp only [pu]
 generalize v0.setCell ⟨w.heap.size+1,1,none⟩ (.int .i64 y0)=v1 at *
 refine zae (i:=8) (v:=.pointer (some ⟨w.heap.size+1,21,none⟩)) rfl (by kernel_rfl) (Or.inl ⟨rfl,fun W hW=>by go_simp⟩) hS1 ?_
 simp only [pu]
 have d1:v1.cell? ⟨w.heap.size+1,21,none⟩=some (.int .i64 0):=(hQ1.b.cell 21).trans (by kernel_rfl)
 have hQ2:Sq w r2 (mcs { Mg.z with k:=9,mem:=y0,n:=y1 } none none none none 0 0 0 0) (v1.setCell ⟨w.heap.size+1,21,none⟩ (.int .i64 y1)):=hQ1.putB 21 _ (by kernel_rfl)
 refine zap (i:=9) rfl (by kernel_rfl) (fun K hK=>?_)
 rw [if_pos (by rfl)]
 refine zao _ _ 3 _ _ rfl _ _ rfl rfl (zbu _ _ 21 _ _ d1 (hQ1.b.froz 21)) ?_
 refine hK.out _ _ (za8 hS1 (by omega) (Bt.set _ _ 21 _)) (fun hS2=>?_)
 clear hK d1 hQ1 hS1
 try simp only [pu]
 generalize v1.setCell ⟨w.heap.size+1,21,none⟩ (.int .i64 y1)=v2 at *
 refine wpAnyH_done (by kernel_rfl) ?_ _
 have HS3:Hid (Sq w r2 (mcs { Mg.z with k:=9,mem:=y0,n:=y1 } none none none none 0 0 0 0) v2):=hQ2
 clear hQ2 hS2
 generalize v2=w3 at *
 have c0:w3.cell? ⟨w.heap.size+1,0,none⟩=some (.int .i64 9):=(HS3.out.b.cell 0).trans rfl
 go_upto_region 6 with fail
 go_wp2_with fail
 refine wp_region_held (S:=fun W=>Bx W w.heap.size (zaa r2) 136∧Bx W (w.heap.size+1) (mcs { Mg.z with k:=9,mem:=y0,n:=y1 } none none none none 0 0 0 0) 35) (by kernel_rfl) ?_
 change wpAnyH _ _ _ _ _ 4 #[false,false,false,false] _ w3.drew
 have hQ:Sq w r2 (mcs { Mg.z with k:=9,mem:=y0,n:=y1 } none none none none 0 0 0 0) w3.drew:=HS3.out.drewN 1
 clear HS3 c0
 obtain ⟨v0,hv0⟩:∃u,u=w3.drew:=⟨_,rfl⟩
 rw [← hv0] at hQ ⊢
 clear hv0
 have hS:Bx v0 w.heap.size (zaa r2) 136∧Bx v0 (w.heap.size+1) (mcs { Mg.z with k:=9,mem:=y0,n:=y1 } none none none none 0 0 0 0) 35:=⟨hQ.z,hQ.b⟩
 refine zae (i:=0) (v:=.agg (zaa r2)) rfl (by kernel_rfl) (Or.inl ⟨rfl,fun W hW=>exl _ _ _ _ rfl _ _ rfl (za2 W _ _ hW.1)⟩) hS ?_
 simp only [pu]
 refine zae (i:=1) (v:=.agg (mcs { Mg.z with k:=9,mem:=y0,n:=y1 } none none none none 0 0 0 0)) rfl (by kernel_rfl) (Or.inl ⟨rfl,fun W hW=>exl _ _ _ _ rfl _ _ rfl (zam W _ _ (zac _ _ _ _ _ _ _ _ _) hW.2)⟩) hS ?_
 simp only [pu]
 refine zap (i:=2) rfl (by kernel_rfl) (fun K hK=>?_)
 rw [if_pos (by rfl)]
 refine zao _ _ 136 _ _ rfl _ _ rfl rfl (zaq _ _ _ r2 hQ.y) ?_
 refine hK.out _ _ ⟨hQ.z.other (by omega),hQ.b.other (by omega)⟩ (fun hS1=>?_)
 clear hK
 try simp only [pu]
 refine zap (i:=3) rfl (by kernel_rfl) (fun K hK=>?_)
 rw [if_pos (by rfl)]
 refine zao _ _ 35 _ _ rfl _ _ rfl rfl (zaw _ (w.heap.size+3) _ (mcs { Mg.z with k:=9,mem:=y0,n:=y1 } none none none none 0 0 0 0) (hQ.v.other (by omega)) (zac _ _ _ _ _ _ _ _ _) (zac _ _ _ _ _ _ _ _ _) (zaj _ _ _ _ _ _ _ _ _)) ?_
 refine hK.out _ _ ⟨hS1.1.other (by omega),hS1.2.other (by omega)⟩ (fun hS2=>?_)
 clear hK
 try simp only [pu]
 refine wpAnyH_done (by kernel_rfl) ?_ _
 have hl1:=zbi ((v0.setRow (w.heap.size+2) (zaa r2)).setRow (w.heap.size+3) (mcs { Mg.z with k:=9,mem:=y0,n:=y1 } none none none none 0 0 0 0)) (w.heap.size+2) r2 (hQ.y.set.other (by omega))
 have hl2:=zbb ((v0.setRow (w.heap.size+2) (zaa r2)).setRow (w.heap.size+3) (mcs { Mg.z with k:=9,mem:=y0,n:=y1 } none none none none 0 0 0 0)) (w.heap.size+3) (mcs { Mg.z with k:=9,mem:=y0,n:=y1 } none none none none 0 0 0 0) (zac _ _ _ _ _ _ _ _ _) ((hQ.v.other (by omega)).set)
 have HBz:Hid (Below w.heap.size w ((v0.setRow (w.heap.size+2) (zaa r2)).setRow (w.heap.size+3) (mcs { Mg.z with k:=9,mem:=y0,n:=y1 } none none none none 0 0 0 0))):=zad (zad hQ.c (by omega)) (by omega)
 clear hS hS1 hS2 hQ
 go_wp2_with fail
 refine bodyPost_ret (za3 _ _ 4 136 5 35 _ _ _ _ _ rfl rfl rfl hl1 hl2) rfl ?_
 exact ⟨rfl,HBz⟩
theorem zpu {r r1 r2 r3:Rd} {y0:Int} {y1:Int} {y2:Int} (h0:zah r=(r1,y0)) (h1:zah r1=(r2,y1)) (h2:zah r2=(r3,y2)) (hs:Sm r) (s1:Sm r1) (s2:Sm r2) (s3:Sm r3) (w:World):Calls Tryz.prog 96 #[.agg (zaa r),.agg (mcs { Mg.z with k:=10 } none none none none 0 0 0 0)] w (RdP r3 (mcs { Mg.z with k:=10,mem:=y0,tr:=y1,day:=y2 } none none none none 0 0 0 0) w):=by
 have HS1:Hid (Sq w r (mcs { Mg.z with k:=10 } none none none none 0 0 0 0) ((((w.alloc (.cells (zaa r) 136)).alloc (.cells (mcs { Mg.z with k:=10 } none none none none 0 0 0 0) 35)).alloc (.cells (zaa ⟨[],0,0⟩) 136)).alloc (.cells (mcs Mg.z none none none none 0 0 0 0) 35))):=Sq.new w r _
 go_enter Tryz.func96,Tryz.ntmps96
 go_upto_region 1 with fail
 show Code.wp _ _ _ _ ((((w.alloc (.cells (zaa r) 136)).alloc (.cells (mcs { Mg.z with k:=10 } none none none none 0 0 0 0) 35)).alloc (.cells (zaa ⟨[],0,0⟩) 136)).alloc (.cells (mcs Mg.z none none none none 0 0 0 0) 35))
 generalize ((((w.alloc (.cells (zaa r) 136)).alloc (.cells (mcs { Mg.z with k:=10 } none none none none 0 0 0 0) 35)).alloc (.cells (zaa ⟨[],0,0⟩) 136)).alloc (.cells (mcs Mg.z none none none none 0 0 0 0) 35))=w1 at *
 have c0:w1.cell? ⟨w.heap.size+1,0,none⟩=some (.int .i64 10):=(HS1.out.b.cell 0).trans rfl
 have HLd:Hid ((Instr.loadAt 136 (.pointer (some ⟨w.heap.size,0,none⟩))).run Tryz.prog w1=.ok (.agg (zaa r)) w1):=za2 _ _ _ HS1.out.z
 go_wp2_with (guard_target =~ wpList _ _ _ (⟨_,Op.load 136 _,_,_,_,_⟩::_) _ _;refine zag _ rfl 136 _ rfl _ rfl _ HLd.out ?_;go_simp)
 refine (ze8 h0 h1 h2 hs _).mono ?_
 rintro e x1 ⟨la,lc,rfl,HO,hb⟩
 have hle:w.heap.size+4≤w1.heap.size:=HS1.out.lt
 obtain ⟨lg,hla⟩:=zbp HO.out (by omega)
 subst hla
 have HSa:Hid (Sq w r (mcs { Mg.z with k:=10 } none none none none 0 0 0 0) x1):=HS1.out.keep hb.out
 have HSt:Hid ((Instr.storeAt 136 (.pointer (some ⟨w.heap.size,0,none⟩)) (.agg (zaa r3))).run Tryz.prog x1=.ok () (x1.setRow w.heap.size (zaa r3))):=zaq _ _ _ _ HSa.out.z
 have HS2:Hid (Sq w r3 (mcs { Mg.z with k:=10 } none none none none 0 0 0 0) (x1.setRow w.heap.size (zaa r3))):=HSa.out.putZ r3
 have HOl:Hid ((x1.setRow w.heap.size (zaa r3)).ownsRow (w.heap.size+4) 3 1 (.slice (some ⟨lg,0,none⟩) 3 lc) 3 (zal [y0,y1,y2])):=zau (zat HO.out HSa.out.z (by decide)) hle
 clear hb HSa HS1 HLd HO c0
 generalize hx:x1.setRow w.heap.size (zaa r3)=w2 at *
 go_upto_region 8 with (guard_target =~ wpList _ _ _ (⟨_,Op.store 136 _ _,_,_,_,_⟩::_) _ _;refine zaf _ _ rfl 136 _ _ rfl _ _ rfl rfl HSt.out ?_;go_simp)
 clear hx HSt
 have c0:w2.cell? ⟨w.heap.size+1,0,none⟩=some (.int .i64 10):=(HS2.out.b.cell 0).trans rfl
 go_wp2_with fail
 refine wp_region_held (S:=fun W=>W.ownsRow (w.heap.size+4) 3 1 (.slice (some ⟨lg,0,none⟩) 3 lc) 3 (zal [y0,y1,y2])) (by kernel_rfl) ?_
 change wpAnyH _ _ _ _ _ 15 #[false,false,false,false,false,false,false,false,false,false,false,false,false,false,false] _ w2.drew
 have hS0:w2.drew.ownsRow (w.heap.size+4) 3 1 (.slice (some ⟨lg,0,none⟩) 3 lc) 3 (zal [y0,y1,y2]):=HOl.out
 have hQ0:Sq w r3 (mcs { Mg.z with k:=10 } none none none none 0 0 0 0) w2.drew:=HS2.out.drewN 1
 clear HOl HS2 c0
 obtain ⟨v0,hv0⟩:∃u,u=w2.drew:=⟨_,rfl⟩
 rw [← hv0] at hS0 hQ0 ⊢
 clear hv0
 refine zae (i:=0) (v:=.slice (some ⟨lg,0,none⟩) 3 lc) rfl (by kernel_rfl) (Or.inl ⟨rfl,fun _ _=>rfl⟩) hS0 ?_
 simp only [pu]
 refine zae (i:=1) (v:=.pointer (some ⟨lg,0,none⟩)) rfl (by kernel_rfl) (Or.inl ⟨rfl,fun W hW=>by go_simp⟩) hS0 ?_
 simp only [pu]
 refine zae (i:=2) (v:=.int .i64 y0) rfl (by kernel_rfl) (Or.inl ⟨rfl,fun W hW=>by have cj:W.cell? ⟨lg,0,none⟩=some (.int .i64 y0):=zbe hW 0 rfl;go_simp⟩) hS0 ?_
 simp only [pu]
 refine zae (i:=3) (v:=.slice (some ⟨lg,0,none⟩) 3 lc) rfl (by kernel_rfl) (Or.inl ⟨rfl,fun _ _=>rfl⟩) hS0 ?_
 simp only [pu]
 refine zae (i:=4) (v:=.pointer (some ⟨lg,1,none⟩)) rfl (by kernel_rfl) (Or.inl ⟨rfl,fun W hW=>by go_simp⟩) hS0 ?_
 simp only [pu]
 refine zae (i:=5) (v:=.int .i64 y1) rfl (by kernel_rfl) (Or.inl ⟨rfl,fun W hW=>by have cj:W.cell? ⟨lg,1,none⟩=some (.int .i64 y1):=zbe hW 1 rfl;go_simp⟩) hS0 ?_
 simp only [pu]
 refine zae (i:=6) (v:=.slice (some ⟨lg,0,none⟩) 3 lc) rfl (by kernel_rfl) (Or.inl ⟨rfl,fun _ _=>rfl⟩) hS0 ?_
 simp only [pu]
 refine zae (i:=7) (v:=.pointer (some ⟨lg,2,none⟩)) rfl (by kernel_rfl) (Or.inl ⟨rfl,fun W hW=>by go_simp⟩) hS0 ?_
 simp only [pu]
 refine zae (i:=8) (v:=.int .i64 y2) rfl (by kernel_rfl) (Or.inl ⟨rfl,fun W hW=>by have cj:W.cell? ⟨lg,2,none⟩=some (.int .i64 y2):=zbe hW 2 rfl;go_simp⟩) hS0 ?_
 simp only [pu]
 refine zae (i:=9) (v:=.pointer (some ⟨w.heap.size+1,1,none⟩)) rfl (by kernel_rfl) (Or.inl ⟨rfl,fun W hW=>by go_simp⟩) hS0 ?_
 simp only [pu]
 have d0:v0.cell? ⟨w.heap.size+1,1,none⟩=some (.int .i64 0):=(hQ0.b.cell 1).trans (by kernel_rfl)
 have hQ1:Sq w r3 (mcs { Mg.z with k:=10,mem:=y0 } none none none none 0 0 0 0) (v0.setCell ⟨w.heap.size+1,1,none⟩ (.int .i64 y0)):=hQ0.putB 1 _ (by kernel_rfl)
 refine zap (i:=10) rfl (by kernel_rfl) (fun K hK=>?_)
 rw [if_pos (by rfl)]
 refine zao _ _ 3 _ _ rfl _ _ rfl rfl (zbu _ _ 1 _ _ d0 (hQ0.b.froz 1)) ?_
 refine hK.out _ _ (za8 hS0 (by omega) (Bt.set _ _ 1 _)) (fun hS1=>?_)
 clear hK d0 hQ0 hS0
 try simp only [pu]
 generalize v0.setCell ⟨w.heap.size+1,1,none⟩ (.int .i64 y0)=v1 at *
 refine zae (i:=11) (v:=.pointer (some ⟨w.heap.size+1,33,none⟩)) rfl (by kernel_rfl) (Or.inl ⟨rfl,fun W hW=>by go_simp⟩) hS1 ?_
 simp only [pu]
 have d1:v1.cell? ⟨w.heap.size+1,33,none⟩=some (.int .i64 0):=(hQ1.b.cell 33).trans (by kernel_rfl)
 have hQ2:Sq w r3 (mcs { Mg.z with k:=10,mem:=y0,tr:=y1 } none none none none 0 0 0 0) (v1.setCell ⟨w.heap.size+1,33,none⟩ (.int .i64 y1)):=hQ1.putB 33 _ (by kernel_rfl)
 refine zap (i:=12) rfl (by kernel_rfl) (fun K hK=>?_)
 rw [if_pos (by rfl)]
 refine zao _ _ 3 _ _ rfl _ _ rfl rfl (zbu _ _ 33 _ _ d1 (hQ1.b.froz 33)) ?_
 refine hK.out _ _ (za8 hS1 (by omega) (Bt.set _ _ 33 _)) (fun hS2=>?_)
 clear hK d1 hQ1 hS1
 try simp only [pu]
 generalize v1.setCell ⟨w.heap.size+1,33,none⟩ (.int .i64 y1)=v2 at *
 refine zae (i:=13) (v:=.pointer (some ⟨w.heap.size+1,19,none⟩)) rfl (by kernel_rfl) (Or.inl ⟨rfl,fun W hW=>by go_simp⟩) hS2 ?_
 simp only [pu]
 have d2:v2.cell? ⟨w.heap.size+1,19,none⟩=some (.int .i64 0):=(hQ2.b.cell 19).trans (by kernel_rfl)
 have hQ3:Sq w r3 (mcs { Mg.z with k:=10,mem:=y0,tr:=y1,day:=y2 } none none none none 0 0 0 0) (v2.setCell ⟨w.heap.size+1,19,none⟩ (.int .i64 y2)):=hQ2.putB 19 _ (by kernel_rfl)
 refine zap (i:=14) rfl (by kernel_rfl) (fun K hK=>?_)
 rw [if_pos (by rfl)]
 refine zao _ _ 3 _ _ rfl _ _ rfl rfl (zbu _ _ 19 _ _ d2 (hQ2.b.froz 19)) ?_
 refine hK.out _ _ (za8 hS2 (by omega) (Bt.set _ _ 19 _)) (fun hS3=>?_)
 clear hK d2 hQ2 hS2
 try simp only [pu]
 generalize v2.setCell ⟨w.heap.size+1,19,none⟩ (.int .i64 y2)=v3 at *
 refine wpAnyH_done (by kernel_rfl) ?_ _
 have HS3:Hid (Sq w r3 (mcs { Mg.z with k:=10,mem:=y0,tr:=y1,day:=y2 } none none none none 0 0 0 0) v3):=hQ3
 clear hQ3 hS3
 generalize v3=w3 at *
 have c0:w3.cell? ⟨w.heap.size+1,0,none⟩=some (.int .i64 10):=(HS3.out.b.cell 0).trans rfl
 go_upto_region 9 with fail
 go_wp2_with fail
 refine wp_region_held (S:=fun W=>Bx W w.heap.size (zaa r3) 136∧Bx W (w.heap.size+1) (mcs { Mg.z with k:=10,mem:=y0,tr:=y1,day:=y2 } none none none none 0 0 0 0) 35) (by kernel_rfl) ?_
 change wpAnyH _ _ _ _ _ 4 #[false,false,false,false] _ w3.drew
 have hQ:Sq w r3 (mcs { Mg.z with k:=10,mem:=y0,tr:=y1,day:=y2 } none none none none 0 0 0 0) w3.drew:=HS3.out.drewN 1
 clear HS3 c0
 obtain ⟨v0,hv0⟩:∃u,u=w3.drew:=⟨_,rfl⟩
 rw [← hv0] at hQ ⊢
 clear hv0
 have hS:Bx v0 w.heap.size (zaa r3) 136∧Bx v0 (w.heap.size+1) (mcs { Mg.z with k:=10,mem:=y0,tr:=y1,day:=y2 } none none none none 0 0 0 0) 35:=⟨hQ.z,hQ.b⟩
 refine zae (i:=0) (v:=.agg (zaa r3)) rfl (by kernel_rfl) (Or.inl ⟨rfl,fun W hW=>exl _ _ _ _ rfl _ _ rfl (za2 W _ _ hW.1)⟩) hS ?_
 simp only [pu]
 refine zae (i:=1) (v:=.agg (mcs { Mg.z with k:=10,mem:=y0,tr:=y1,day:=y2 } none none none none 0 0 0 0)) rfl (by kernel_rfl) (Or.inl ⟨rfl,fun W hW=>exl _ _ _ _ rfl _ _ rfl (zam W _ _ (zac _ _ _ _ _ _ _ _ _) hW.2)⟩) hS ?_
 simp only [pu]
 refine zap (i:=2) rfl (by kernel_rfl) (fun K hK=>?_)
 rw [if_pos (by rfl)]
 refine zao _ _ 136 _ _ rfl _ _ rfl rfl (zaq _ _ _ r3 hQ.y) ?_
 refine hK.out _ _ ⟨hQ.z.other (by omega),hQ.b.other (by omega)⟩ (fun hS1=>?_)
 clear hK
 try simp only [pu]
 refine zap (i:=3) rfl (by kernel_rfl) (fun K hK=>?_)
 rw [if_pos (by rfl)]
 refine zao _ _ 35 _ _ rfl _ _ rfl rfl (zaw _ (w.heap.size+3) _ (mcs { Mg.z with k:=10,mem:=y0,tr:=y1,day:=y2 } none none none none 0 0 0 0) (hQ.v.other (by omega)) (zac _ _ _ _ _ _ _ _ _) (zac _ _ _ _ _ _ _ _ _) (zaj _ _ _ _ _ _ _ _ _)) ?_
 refine hK.out _ _ ⟨hS1.1.other (by omega),hS1.2.other (by omega)⟩ (fun hS2=>?_)
 clear hK
 try simp only [pu]
 refine wpAnyH_done (by kernel_rfl) ?_ _
 have hl1:=zbi ((v0.setRow (w.heap.size+2) (zaa r3)).setRow (w.heap.size+3) (mcs { Mg.z with k:=10,mem:=y0,tr:=y1,day:=y2 } none none none none 0 0 0 0)) (w.heap.size+2) r3 (hQ.y.set.other (by omega))
 have hl2:=zbb ((v0.setRow (w.heap.size+2) (zaa r3)).setRow (w.heap.size+3) (mcs { Mg.z with k:=10,mem:=y0,tr:=y1,day:=y2 } none none none none 0 0 0 0)) (w.heap.size+3) (mcs { Mg.z with k:=10,mem:=y0,tr:=y1,day:=y2 } none none none none 0 0 0 0) (zac _ _ _ _ _ _ _ _ _) ((hQ.v.other (by omega)).set)
 have HBz:Hid (Below w.heap.size w ((v0.setRow (w.heap.size+2) (zaa r3)).setRow (w.heap.size+3) (mcs { Mg.z with k:=10,mem:=y0,tr:=y1,day:=y2 } none none none none 0 0 0 0))):=zad (zad hQ.c (by omega)) (by omega)
 clear hS hS1 hS2 hQ
 go_wp2_with fail
 refine bodyPost_ret (za3 _ _ 4 136 5 35 _ _ _ _ _ rfl rfl rfl hl1 hl2) rfl ?_
 exact ⟨rfl,HBz⟩
theorem zpv {r r1 r2 r3:Rd} {y0:Int} {y1:Int} {y2:Bool} (h0:zah r=(r1,y0)) (h1:zah r1=(r2,y1)) (h2:zbn r2=(r3,y2)) (hs:Sm r) (s1:Sm r1) (s2:Sm r2) (s3:Sm r3) (w:World):Calls Tryz.prog 96 #[.agg (zaa r),.agg (mcs { Mg.z with k:=12 } none none none none 0 0 0 0)] w (RdP r3 (mcs { Mg.z with k:=12,mem:=y0,day:=y1,done:=y2 } none none none none 0 0 0 0) w):=by
 have HS1:Hid (Sq w r (mcs { Mg.z with k:=12 } none none none none 0 0 0 0) ((((w.alloc (.cells (zaa r) 136)).alloc (.cells (mcs { Mg.z with k:=12 } none none none none 0 0 0 0) 35)).alloc (.cells (zaa ⟨[],0,0⟩) 136)).alloc (.cells (mcs Mg.z none none none none 0 0 0 0) 35))):=Sq.new w r _
 go_enter Tryz.func96,Tryz.ntmps96
 go_upto_region 1 with fail
 show Code.wp _ _ _ _ ((((w.alloc (.cells (zaa r) 136)).alloc (.cells (mcs { Mg.z with k:=12 } none none none none 0 0 0 0) 35)).alloc (.cells (zaa ⟨[],0,0⟩) 136)).alloc (.cells (mcs Mg.z none none none none 0 0 0 0) 35))
 generalize ((((w.alloc (.cells (zaa r) 136)).alloc (.cells (mcs { Mg.z with k:=12 } none none none none 0 0 0 0) 35)).alloc (.cells (zaa ⟨[],0,0⟩) 136)).alloc (.cells (mcs Mg.z none none none none 0 0 0 0) 35))=w1 at *
 have c0:w1.cell? ⟨w.heap.size+1,0,none⟩=some (.int .i64 12):=(HS1.out.b.cell 0).trans rfl
 have HLd:Hid ((Instr.loadAt 136 (.pointer (some ⟨w.heap.size,0,none⟩))).run Tryz.prog w1=.ok (.agg (zaa r)) w1):=za2 _ _ _ HS1.out.z
 go_wp2_with (guard_target =~ wpList _ _ _ (⟨_,Op.load 136 _,_,_,_,_⟩::_) _ _;refine zag _ rfl 136 _ rfl _ rfl _ HLd.out ?_;go_simp)
 refine (zdn h0 h1 hs _).mono ?_
 rintro e x1 ⟨la,lc,rfl,HO,hb⟩
 have hle:w.heap.size+4≤w1.heap.size:=HS1.out.lt
 obtain ⟨lg,hla⟩:=zbp HO.out (by omega)
 subst hla
 have HSa:Hid (Sq w r (mcs { Mg.z with k:=12 } none none none none 0 0 0 0) x1):=HS1.out.keep hb.out
 have HSt:Hid ((Instr.storeAt 136 (.pointer (some ⟨w.heap.size,0,none⟩)) (.agg (zaa r2))).run Tryz.prog x1=.ok () (x1.setRow w.heap.size (zaa r2))):=zaq _ _ _ _ HSa.out.z
 have HS2:Hid (Sq w r2 (mcs { Mg.z with k:=12 } none none none none 0 0 0 0) (x1.setRow w.heap.size (zaa r2))):=HSa.out.putZ r2
 have HOl:Hid ((x1.setRow w.heap.size (zaa r2)).ownsRow (w.heap.size+4) 3 1 (.slice (some ⟨lg,0,none⟩) 2 lc) 2 (zal [y0,y1])):=zau (zat HO.out HSa.out.z (by decide)) hle
 clear hb HSa HS1 HLd HO c0
 generalize hx:x1.setRow w.heap.size (zaa r2)=w2 at *
 go_upto_region 19 with (guard_target =~ wpList _ _ _ (⟨_,Op.store 136 _ _,_,_,_,_⟩::_) _ _;refine zaf _ _ rfl 136 _ _ rfl _ _ rfl rfl HSt.out ?_;go_simp)
 clear hx HSt
 have c0:w2.cell? ⟨w.heap.size+1,0,none⟩=some (.int .i64 12):=(HS2.out.b.cell 0).trans rfl
 go_wp2_with fail
 refine wp_region_held (S:=fun W=>W.ownsRow (w.heap.size+4) 3 1 (.slice (some ⟨lg,0,none⟩) 2 lc) 2 (zal [y0,y1])) (by kernel_rfl) ?_
 change wpAnyH _ _ _ _ _ 10 #[false,false,false,false,false,false,false,false,false,false] _ w2.drew
 have hS0:w2.drew.ownsRow (w.heap.size+4) 3 1 (.slice (some ⟨lg,0,none⟩) 2 lc) 2 (zal [y0,y1]):=HOl.out
 have hQ0:Sq w r2 (mcs { Mg.z with k:=12 } none none none none 0 0 0 0) w2.drew:=HS2.out.drewN 1
 clear HOl HS2 c0
 obtain ⟨v0,hv0⟩:∃u,u=w2.drew:=⟨_,rfl⟩
 rw [← hv0] at hS0 hQ0 ⊢
 clear hv0
 refine zae (i:=0) (v:=.slice (some ⟨lg,0,none⟩) 2 lc) rfl (by kernel_rfl) (Or.inl ⟨rfl,fun _ _=>rfl⟩) hS0 ?_
 simp only [pu]
 refine zae (i:=1) (v:=.pointer (some ⟨lg,0,none⟩)) rfl (by kernel_rfl) (Or.inl ⟨rfl,fun W hW=>by go_simp⟩) hS0 ?_
 simp only [pu]
 refine zae (i:=2) (v:=.int .i64 y0) rfl (by kernel_rfl) (Or.inl ⟨rfl,fun W hW=>by have cj:W.cell? ⟨lg,0,none⟩=some (.int .i64 y0):=zbe hW 0 rfl;go_simp⟩) hS0 ?_
 simp only [pu]
 refine zae (i:=3) (v:=.slice (some ⟨lg,0,none⟩) 2 lc) rfl (by kernel_rfl) (Or.inl ⟨rfl,fun _ _=>rfl⟩) hS0 ?_
 simp only [pu]
 refine zae (i:=4) (v:=.pointer (some ⟨lg,1,none⟩)) rfl (by kernel_rfl) (Or.inl ⟨rfl,fun W hW=>by go_simp⟩) hS0 ?_
 simp only [pu]
 refine zae (i:=5) (v:=.int .i64 y1) rfl (by kernel_rfl) (Or.inl ⟨rfl,fun W hW=>by have cj:W.cell? ⟨lg,1,none⟩=some (.int .i64 y1):=zbe hW 1 rfl;go_simp⟩) hS0 ?_
 simp only [pu]
 refine zae (i:=6) (v:=.pointer (some ⟨w.heap.size+1,1,none⟩)) rfl (by kernel_rfl) (Or.inl ⟨rfl,fun W hW=>by go_simp⟩) hS0 ?_
 simp only [pu]
 have d0:v0.cell? ⟨w.heap.size+1,1,none⟩=some (.int .i64 0):=(hQ0.b.cell 1).trans (by kernel_rfl)
 have hQ1:Sq w r2 (mcs { Mg.z with k:=12,mem:=y0 } none none none none 0 0 0 0) (v0.setCell ⟨w.heap.size+1,1,none⟩ (.int .i64 y0)):=hQ0.putB 1 _ (by kernel_rfl)
 refine zap (i:=7) rfl (by kernel_rfl) (fun K hK=>?_)
 rw [if_pos (by rfl)]
 refine zao _ _ 3 _ _ rfl _ _ rfl rfl (zbu _ _ 1 _ _ d0 (hQ0.b.froz 1)) ?_
 refine hK.out _ _ (za8 hS0 (by omega) (Bt.set _ _ 1 _)) (fun hS1=>?_)
 clear hK d0 hQ0 hS0
 try simp only [pu]
 generalize v0.setCell ⟨w.heap.size+1,1,none⟩ (.int .i64 y0)=v1 at *
 refine zae (i:=8) (v:=.pointer (some ⟨w.heap.size+1,19,none⟩)) rfl (by kernel_rfl) (Or.inl ⟨rfl,fun W hW=>by go_simp⟩) hS1 ?_
 simp only [pu]
 have d1:v1.cell? ⟨w.heap.size+1,19,none⟩=some (.int .i64 0):=(hQ1.b.cell 19).trans (by kernel_rfl)
 have hQ2:Sq w r2 (mcs { Mg.z with k:=12,mem:=y0,day:=y1 } none none none none 0 0 0 0) (v1.setCell ⟨w.heap.size+1,19,none⟩ (.int .i64 y1)):=hQ1.putB 19 _ (by kernel_rfl)
 refine zap (i:=9) rfl (by kernel_rfl) (fun K hK=>?_)
 rw [if_pos (by rfl)]
 refine zao _ _ 3 _ _ rfl _ _ rfl rfl (zbu _ _ 19 _ _ d1 (hQ1.b.froz 19)) ?_
 refine hK.out _ _ (za8 hS1 (by omega) (Bt.set _ _ 19 _)) (fun hS2=>?_)
 clear hK d1 hQ1 hS1
 try simp only [pu]
 generalize v1.setCell ⟨w.heap.size+1,19,none⟩ (.int .i64 y1)=v2 at *
 refine wpAnyH_done (by kernel_rfl) ?_ _
 have HS3:Hid (Sq w r2 (mcs { Mg.z with k:=12,mem:=y0,day:=y1 } none none none none 0 0 0 0) v2):=hQ2
 clear hQ2 hS2
 generalize v2=w3 at *
 have c0:w3.cell? ⟨w.heap.size+1,0,none⟩=some (.int .i64 12):=(HS3.out.b.cell 0).trans rfl
 go_upto_region 20 with fail
 have HLd:Hid ((Instr.loadAt 136 (.pointer (some ⟨w.heap.size,0,none⟩))).run Tryz.prog w3=.ok (.agg (zaa r2)) w3):=za2 _ _ _ HS3.out.z
 go_wp2_with (guard_target =~ wpList _ _ _ (⟨_,Op.load 136 _,_,_,_,_⟩::_) _ _;refine zag _ rfl 136 _ rfl _ rfl _ HLd.out ?_;go_simp)
 refine (ztw h2 s2 _).mono ?_
 rintro e x3 ⟨rfl,hb⟩
 have HSa:Hid (Sq w r2 (mcs { Mg.z with k:=12,mem:=y0,day:=y1 } none none none none 0 0 0 0) x3):=HS3.out.keep hb.out
 have HSt:Hid ((Instr.storeAt 136 (.pointer (some ⟨w.heap.size,0,none⟩)) (.agg (zaa r3))).run Tryz.prog x3=.ok () (x3.setRow w.heap.size (zaa r3))):=zaq _ _ _ _ HSa.out.z
 have HSb:Hid (Sq w r3 (mcs { Mg.z with k:=12,mem:=y0,day:=y1 } none none none none 0 0 0 0) (x3.setRow w.heap.size (zaa r3))):=HSa.out.putZ r3
 clear hb HSa HS3 HLd c0
 generalize hx:x3.setRow w.heap.size (zaa r3)=yw3 at *
 have d:yw3.cell? ⟨w.heap.size+1,34,none⟩=some (.bool false):=(HSb.out.b.cell 34).trans (by kernel_rfl)
 have f:=HSb.out.b.froz 34
 obtain ⟨w4,hw⟩:∃u,u=yw3.setCell ⟨w.heap.size+1,34,none⟩ (.bool y2):=⟨_,rfl⟩
 have HS4:Hid (Sq w r3 (mcs { Mg.z with k:=12,mem:=y0,day:=y1,done:=y2 } none none none none 0 0 0 0) w4):=by unfold Hid;rw [hw];exact HSb.out.putB 34 (.bool y2) (by kernel_rfl)
 clear HSb
 go_upto_region 21 with (guard_target =~ wpList _ _ _ (⟨_,Op.store 136 _ _,_,_,_,_⟩::_) _ _;refine zaf _ _ rfl 136 _ _ rfl _ _ rfl rfl HSt.out ?_;go_simp)
 rw [← hw]
 clear hw hx HSt d f
 have c0:w4.cell? ⟨w.heap.size+1,0,none⟩=some (.int .i64 12):=(HS4.out.b.cell 0).trans rfl
 go_wp2_with fail
 refine wp_region_held (S:=fun W=>Bx W w.heap.size (zaa r3) 136∧Bx W (w.heap.size+1) (mcs { Mg.z with k:=12,mem:=y0,day:=y1,done:=y2 } none none none none 0 0 0 0) 35) (by kernel_rfl) ?_
 change wpAnyH _ _ _ _ _ 4 #[false,false,false,false] _ w4.drew
 have hQ:Sq w r3 (mcs { Mg.z with k:=12,mem:=y0,day:=y1,done:=y2 } none none none none 0 0 0 0) w4.drew:=HS4.out.drewN 1
 clear HS4 c0
 obtain ⟨v0,hv0⟩:∃u,u=w4.drew:=⟨_,rfl⟩
 rw [← hv0] at hQ ⊢
 clear hv0
 have hS:Bx v0 w.heap.size (zaa r3) 136∧Bx v0 (w.heap.size+1) (mcs { Mg.z with k:=12,mem:=y0,day:=y1,done:=y2 } none none none none 0 0 0 0) 35:=⟨hQ.z,hQ.b⟩
 refine zae (i:=0) (v:=.agg (zaa r3)) rfl (by kernel_rfl) (Or.inl ⟨rfl,fun W hW=>exl _ _ _ _ rfl _ _ rfl (za2 W _ _ hW.1)⟩) hS ?_
 simp only [pu]
 refine zae (i:=1) (v:=.agg (mcs { Mg.z with k:=12,mem:=y0,day:=y1,done:=y2 } none none none none 0 0 0 0)) rfl (by kernel_rfl) (Or.inl ⟨rfl,fun W hW=>exl _ _ _ _ rfl _ _ rfl (zam W _ _ (zac _ _ _ _ _ _ _ _ _) hW.2)⟩) hS ?_
 simp only [pu]
 refine zap (i:=2) rfl (by kernel_rfl) (fun K hK=>?_)
 rw [if_pos (by rfl)]
 refine zao _ _ 136 _ _ rfl _ _ rfl rfl (zaq _ _ _ r3 hQ.y) ?_
 refine hK.out _ _ ⟨hQ.z.other (by omega),hQ.b.other (by omega)⟩ (fun hS1=>?_)
 clear hK
 try simp only [pu]
 refine zap (i:=3) rfl (by kernel_rfl) (fun K hK=>?_)
 rw [if_pos (by rfl)]
 refine zao _ _ 35 _ _ rfl _ _ rfl rfl (zaw _ (w.heap.size+3) _ (mcs { Mg.z with k:=12,mem:=y0,day:=y1,done:=y2 } none none none none 0 0 0 0) (hQ.v.other (by omega)) (zac _ _ _ _ _ _ _ _ _) (zac _ _ _ _ _ _ _ _ _) (zaj _ _ _ _ _ _ _ _ _)) ?_
 refine hK.out _ _ ⟨hS1.1.other (by omega),hS1.2.other (by omega)⟩ (fun hS2=>?_)
 clear hK
 try simp only [pu]
 refine wpAnyH_done (by kernel_rfl) ?_ _
 have hl1:=zbi ((v0.setRow (w.heap.size+2) (zaa r3)).setRow (w.heap.size+3) (mcs { Mg.z with k:=12,mem:=y0,day:=y1,done:=y2 } none none none none 0 0 0 0)) (w.heap.size+2) r3 (hQ.y.set.other (by omega))
 have hl2:=zbb ((v0.setRow (w.heap.size+2) (zaa r3)).setRow (w.heap.size+3) (mcs { Mg.z with k:=12,mem:=y0,day:=y1,done:=y2 } none none none none 0 0 0 0)) (w.heap.size+3) (mcs { Mg.z with k:=12,mem:=y0,day:=y1,done:=y2 } none none none none 0 0 0 0) (zac _ _ _ _ _ _ _ _ _) ((hQ.v.other (by omega)).set)
 have HBz:Hid (Below w.heap.size w ((v0.setRow (w.heap.size+2) (zaa r3)).setRow (w.heap.size+3) (mcs { Mg.z with k:=12,mem:=y0,day:=y1,done:=y2 } none none none none 0 0 0 0))):=zad (zad hQ.c (by omega)) (by omega)
 clear hS hS1 hS2 hQ
 go_wp2_with fail
 refine bodyPost_ret (za3 _ _ 4 136 5 35 _ _ _ _ _ rfl rfl rfl hl1 hl2) rfl ?_
 exact ⟨rfl,HBz⟩
theorem zpw {r r1:Rd} {y0:Int} (h0:zah r=(r1,y0)) (hs:Sm r) (s1:Sm r1) (w:World):Calls Tryz.prog 96 #[.agg (zaa r),.agg (mcs { Mg.z with k:=13 } none none none none 0 0 0 0)] w (RdP r1 (mcs { Mg.z with k:=13,mem:=y0 } none none none none 0 0 0 0) w):=by
 have HS1:Hid (Sq w r (mcs { Mg.z with k:=13 } none none none none 0 0 0 0) ((((w.alloc (.cells (zaa r) 136)).alloc (.cells (mcs { Mg.z with k:=13 } none none none none 0 0 0 0) 35)).alloc (.cells (zaa ⟨[],0,0⟩) 136)).alloc (.cells (mcs Mg.z none none none none 0 0 0 0) 35))):=Sq.new w r _
 go_enter Tryz.func96,Tryz.ntmps96
 go_upto_region 1 with fail
 show Code.wp _ _ _ _ ((((w.alloc (.cells (zaa r) 136)).alloc (.cells (mcs { Mg.z with k:=13 } none none none none 0 0 0 0) 35)).alloc (.cells (zaa ⟨[],0,0⟩) 136)).alloc (.cells (mcs Mg.z none none none none 0 0 0 0) 35))
 generalize ((((w.alloc (.cells (zaa r) 136)).alloc (.cells (mcs { Mg.z with k:=13 } none none none none 0 0 0 0) 35)).alloc (.cells (zaa ⟨[],0,0⟩) 136)).alloc (.cells (mcs Mg.z none none none none 0 0 0 0) 35))=w1 at *
 have c0:w1.cell? ⟨w.heap.size+1,0,none⟩=some (.int .i64 13):=(HS1.out.b.cell 0).trans rfl
 have HLd:Hid ((Instr.loadAt 136 (.pointer (some ⟨w.heap.size,0,none⟩))).run Tryz.prog w1=.ok (.agg (zaa r)) w1):=za2 _ _ _ HS1.out.z
 go_wp2_with (guard_target =~ wpList _ _ _ (⟨_,Op.load 136 _,_,_,_,_⟩::_) _ _;refine zag _ rfl 136 _ rfl _ rfl _ HLd.out ?_;go_simp)
 refine (zei h0 hs _).mono ?_
 rintro e x1 ⟨rfl,hb⟩
 have HSa:Hid (Sq w r (mcs { Mg.z with k:=13 } none none none none 0 0 0 0) x1):=HS1.out.keep hb.out
 have HSt:Hid ((Instr.storeAt 136 (.pointer (some ⟨w.heap.size,0,none⟩)) (.agg (zaa r1))).run Tryz.prog x1=.ok () (x1.setRow w.heap.size (zaa r1))):=zaq _ _ _ _ HSa.out.z
 have HSb:Hid (Sq w r1 (mcs { Mg.z with k:=13 } none none none none 0 0 0 0) (x1.setRow w.heap.size (zaa r1))):=HSa.out.putZ r1
 clear hb HSa HS1 HLd c0
 generalize hx:x1.setRow w.heap.size (zaa r1)=yw1 at *
 have d:yw1.cell? ⟨w.heap.size+1,1,none⟩=some (.int .i64 0):=(HSb.out.b.cell 1).trans (by kernel_rfl)
 have f:=HSb.out.b.froz 1
 obtain ⟨w2,hw⟩:∃u,u=yw1.setCell ⟨w.heap.size+1,1,none⟩ (.int .i64 y0):=⟨_,rfl⟩
 have HS2:Hid (Sq w r1 (mcs { Mg.z with k:=13,mem:=y0 } none none none none 0 0 0 0) w2):=by unfold Hid;rw [hw];exact HSb.out.putB 1 (.int .i64 y0) (by kernel_rfl)
 clear HSb
 go_upto_region 23 with (guard_target =~ wpList _ _ _ (⟨_,Op.store 136 _ _,_,_,_,_⟩::_) _ _;refine zaf _ _ rfl 136 _ _ rfl _ _ rfl rfl HSt.out ?_;go_simp)
 rw [← hw]
 clear hw hx HSt d f
 have c0:w2.cell? ⟨w.heap.size+1,0,none⟩=some (.int .i64 13):=(HS2.out.b.cell 0).trans rfl
 go_wp2_with fail
 refine wp_region_held (S:=fun W=>Bx W w.heap.size (zaa r1) 136∧Bx W (w.heap.size+1) (mcs { Mg.z with k:=13,mem:=y0 } none none none none 0 0 0 0) 35) (by kernel_rfl) ?_
 change wpAnyH _ _ _ _ _ 4 #[false,false,false,false] _ w2.drew
 have hQ:Sq w r1 (mcs { Mg.z with k:=13,mem:=y0 } none none none none 0 0 0 0) w2.drew:=HS2.out.drewN 1
 clear HS2 c0
 obtain ⟨v0,hv0⟩:∃u,u=w2.drew:=⟨_,rfl⟩
 rw [← hv0] at hQ ⊢
 clear hv0
 have hS:Bx v0 w.heap.size (zaa r1) 136∧Bx v0 (w.heap.size+1) (mcs { Mg.z with k:=13,mem:=y0 } none none none none 0 0 0 0) 35:=⟨hQ.z,hQ.b⟩
 refine zae (i:=0) (v:=.agg (zaa r1)) rfl (by kernel_rfl) (Or.inl ⟨rfl,fun W hW=>exl _ _ _ _ rfl _ _ rfl (za2 W _ _ hW.1)⟩) hS ?_
 simp only [pu]
 refine zae (i:=1) (v:=.agg (mcs { Mg.z with k:=13,mem:=y0 } none none none none 0 0 0 0)) rfl (by kernel_rfl) (Or.inl ⟨rfl,fun W hW=>exl _ _ _ _ rfl _ _ rfl (zam W _ _ (zac _ _ _ _ _ _ _ _ _) hW.2)⟩) hS ?_
 simp only [pu]
 refine zap (i:=2) rfl (by kernel_rfl) (fun K hK=>?_)
 rw [if_pos (by rfl)]
 refine zao _ _ 136 _ _ rfl _ _ rfl rfl (zaq _ _ _ r1 hQ.y) ?_
 refine hK.out _ _ ⟨hQ.z.other (by omega),hQ.b.other (by omega)⟩ (fun hS1=>?_)
 clear hK
 try simp only [pu]
 refine zap (i:=3) rfl (by kernel_rfl) (fun K hK=>?_)
 rw [if_pos (by rfl)]
 refine zao _ _ 35 _ _ rfl _ _ rfl rfl (zaw _ (w.heap.size+3) _ (mcs { Mg.z with k:=13,mem:=y0 } none none none none 0 0 0 0) (hQ.v.other (by omega)) (zac _ _ _ _ _ _ _ _ _) (zac _ _ _ _ _ _ _ _ _) (zaj _ _ _ _ _ _ _ _ _)) ?_
 refine hK.out _ _ ⟨hS1.1.other (by omega),hS1.2.other (by omega)⟩ (fun hS2=>?_)
 clear hK
 try simp only [pu]
 refine wpAnyH_done (by kernel_rfl) ?_ _
 have hl1:=zbi ((v0.setRow (w.heap.size+2) (zaa r1)).setRow (w.heap.size+3) (mcs { Mg.z with k:=13,mem:=y0 } none none none none 0 0 0 0)) (w.heap.size+2) r1 (hQ.y.set.other (by omega))
 have hl2:=zbb ((v0.setRow (w.heap.size+2) (zaa r1)).setRow (w.heap.size+3) (mcs { Mg.z with k:=13,mem:=y0 } none none none none 0 0 0 0)) (w.heap.size+3) (mcs { Mg.z with k:=13,mem:=y0 } none none none none 0 0 0 0) (zac _ _ _ _ _ _ _ _ _) ((hQ.v.other (by omega)).set)
 have HBz:Hid (Below w.heap.size w ((v0.setRow (w.heap.size+2) (zaa r1)).setRow (w.heap.size+3) (mcs { Mg.z with k:=13,mem:=y0 } none none none none 0 0 0 0))):=zad (zad hQ.c (by omega)) (by omega)
 clear hS hS1 hS2 hQ
 go_wp2_with fail
 refine bodyPost_ret (za3 _ _ 4 136 5 35 _ _ _ _ _ rfl rfl rfl hl1 hl2) rfl ?_
 exact ⟨rfl,HBz⟩
theorem zpx {r r1 r2:Rd} {y0:Int} {y1:Int} (h0:zah r=(r1,y0)) (h1:zah r1=(r2,y1)) (hs:Sm r) (s1:Sm r1) (s2:Sm r2) (w:World):Calls Tryz.prog 96 #[.agg (zaa r),.agg (mcs { Mg.z with k:=14 } none none none none 0 0 0 0)] w (RdP r2 (mcs { Mg.z with k:=14,mem:=y0,n:=y1 } none none none none 0 0 0 0) w):=by
 have HS1:Hid (Sq w r (mcs { Mg.z with k:=14 } none none none none 0 0 0 0) ((((w.alloc (.cells (zaa r) 136)).alloc (.cells (mcs { Mg.z with k:=14 } none none none none 0 0 0 0) 35)).alloc (.cells (zaa ⟨[],0,0⟩) 136)).alloc (.cells (mcs Mg.z none none none none 0 0 0 0) 35))):=Sq.new w r _
 go_enter Tryz.func96,Tryz.ntmps96
 go_upto_region 1 with fail
 show Code.wp _ _ _ _ ((((w.alloc (.cells (zaa r) 136)).alloc (.cells (mcs { Mg.z with k:=14 } none none none none 0 0 0 0) 35)).alloc (.cells (zaa ⟨[],0,0⟩) 136)).alloc (.cells (mcs Mg.z none none none none 0 0 0 0) 35))
 generalize ((((w.alloc (.cells (zaa r) 136)).alloc (.cells (mcs { Mg.z with k:=14 } none none none none 0 0 0 0) 35)).alloc (.cells (zaa ⟨[],0,0⟩) 136)).alloc (.cells (mcs Mg.z none none none none 0 0 0 0) 35))=w1 at *
 have c0:w1.cell? ⟨w.heap.size+1,0,none⟩=some (.int .i64 14):=(HS1.out.b.cell 0).trans rfl
 have HLd:Hid ((Instr.loadAt 136 (.pointer (some ⟨w.heap.size,0,none⟩))).run Tryz.prog w1=.ok (.agg (zaa r)) w1):=za2 _ _ _ HS1.out.z
 go_wp2_with (guard_target =~ wpList _ _ _ (⟨_,Op.load 136 _,_,_,_,_⟩::_) _ _;refine zag _ rfl 136 _ rfl _ rfl _ HLd.out ?_;go_simp)
 refine (zdn h0 h1 hs _).mono ?_
 rintro e x1 ⟨la,lc,rfl,HO,hb⟩
 have hle:w.heap.size+4≤w1.heap.size:=HS1.out.lt
 obtain ⟨lg,hla⟩:=zbp HO.out (by omega)
 subst hla
 have HSa:Hid (Sq w r (mcs { Mg.z with k:=14 } none none none none 0 0 0 0) x1):=HS1.out.keep hb.out
 have HSt:Hid ((Instr.storeAt 136 (.pointer (some ⟨w.heap.size,0,none⟩)) (.agg (zaa r2))).run Tryz.prog x1=.ok () (x1.setRow w.heap.size (zaa r2))):=zaq _ _ _ _ HSa.out.z
 have HS2:Hid (Sq w r2 (mcs { Mg.z with k:=14 } none none none none 0 0 0 0) (x1.setRow w.heap.size (zaa r2))):=HSa.out.putZ r2
 have HOl:Hid ((x1.setRow w.heap.size (zaa r2)).ownsRow (w.heap.size+4) 3 1 (.slice (some ⟨lg,0,none⟩) 2 lc) 2 (zal [y0,y1])):=zau (zat HO.out HSa.out.z (by decide)) hle
 clear hb HSa HS1 HLd HO c0
 generalize hx:x1.setRow w.heap.size (zaa r2)=w2 at *
 go_upto_region 5 with (guard_target =~ wpList _ _ _ (⟨_,Op.store 136 _ _,_,_,_,_⟩::_) _ _;refine zaf _ _ rfl 136 _ _ rfl _ _ rfl rfl HSt.out ?_;go_simp)
 clear hx HSt
 have c0:w2.cell? ⟨w.heap.size+1,0,none⟩=some (.int .i64 14):=(HS2.out.b.cell 0).trans rfl
 go_wp2_with fail
 refine wp_region_held (S:=fun W=>W.ownsRow (w.heap.size+4) 3 1 (.slice (some ⟨lg,0,none⟩) 2 lc) 2 (zal [y0,y1])) (by kernel_rfl) ?_
 change wpAnyH _ _ _ _ _ 10 #[false,false,false,false,false,false,false,false,false,false] _ w2.drew
 have hS0:w2.drew.ownsRow (w.heap.size+4) 3 1 (.slice (some ⟨lg,0,none⟩) 2 lc) 2 (zal [y0,y1]):=HOl.out
 have hQ0:Sq w r2 (mcs { Mg.z with k:=14 } none none none none 0 0 0 0) w2.drew:=HS2.out.drewN 1
 clear HOl HS2 c0
 obtain ⟨v0,hv0⟩:∃u,u=w2.drew:=⟨_,rfl⟩
 rw [← hv0] at hS0 hQ0 ⊢
 clear hv0
 refine zae (i:=0) (v:=.slice (some ⟨lg,0,none⟩) 2 lc) rfl (by kernel_rfl) (Or.inl ⟨rfl,fun _ _=>rfl⟩) hS0 ?_
 simp only [pu]
 refine zae (i:=1) (v:=.pointer (some ⟨lg,0,none⟩)) rfl (by kernel_rfl) (Or.inl ⟨rfl,fun W hW=>by go_simp⟩) hS0 ?_
 simp only [pu]
 refine zae (i:=2) (v:=.int .i64 y0) rfl (by kernel_rfl) (Or.inl ⟨rfl,fun W hW=>by have cj:W.cell? ⟨lg,0,none⟩=some (.int .i64 y0):=zbe hW 0 rfl;go_simp⟩) hS0 ?_
 simp only [pu]
 refine zae (i:=3) (v:=.slice (some ⟨lg,0,none⟩) 2 lc) rfl (by kernel_rfl) (Or.inl ⟨rfl,fun _ _=>rfl⟩) hS0 ?_
 simp only [pu]
 refine zae (i:=4) (v:=.pointer (some ⟨lg,1,none⟩)) rfl (by kernel_rfl) (Or.inl ⟨rfl,fun W hW=>by go_simp⟩) hS0 ?_
 simp only [pu]
 refine zae (i:=5) (v:=.int .i64 y1) rfl (by kernel_rfl) (Or.inl ⟨rfl,fun W hW=>by have cj:W.cell? ⟨lg,1,none⟩=some (.int .i64 y1):=zbe hW 1 rfl;go_simp⟩) hS0 ?_
 simp only [pu]
 refine zae (i:=6) (v:=.pointer (some ⟨w.heap.size+1,1,none⟩)) rfl (by kernel_rfl) (Or.inl ⟨rfl,fun W hW=>by go_simp⟩) hS0 ?_
 simp only [pu]
 have d0:v0.cell? ⟨w.heap.size+1,1,none⟩=some (.int .i64 0):=(hQ0.b.cell 1).trans (by kernel_rfl)
 have hQ1:Sq w r2 (mcs { Mg.z with k:=14,mem:=y0 } none none none none 0 0 0 0) (v0.setCell ⟨w.heap.size+1,1,none⟩ (.int .i64 y0)):=hQ0.putB 1 _ (by kernel_rfl)
 refine zap (i:=7) rfl (by kernel_rfl) (fun K hK=>?_)
 rw [if_pos (by rfl)]
 refine zao _ _ 3 _ _ rfl _ _ rfl rfl (zbu _ _ 1 _ _ d0 (hQ0.b.froz 1)) ?_
 refine hK.out _ _ (za8 hS0 (by omega) (Bt.set _ _ 1 _)) (fun hS1=>?_)
 clear hK d0 hQ0 hS0
 try simp only [pu]
 generalize v0.setCell ⟨w.heap.size+1,1,none⟩ (.int .i64 y0)=v1 at *
 refine zae (i:=8) (v:=.pointer (some ⟨w.heap.size+1,21,none⟩)) rfl (by kernel_rfl) (Or.inl ⟨rfl,fun W hW=>by go_simp⟩) hS1 ?_
 simp only [pu]
 have d1:v1.cell? ⟨w.heap.size+1,21,none⟩=some (.int .i64 0):=(hQ1.b.cell 21).trans (by kernel_rfl)
 have hQ2:Sq w r2 (mcs { Mg.z with k:=14,mem:=y0,n:=y1 } none none none none 0 0 0 0) (v1.setCell ⟨w.heap.size+1,21,none⟩ (.int .i64 y1)):=hQ1.putB 21 _ (by kernel_rfl)
 refine zap (i:=9) rfl (by kernel_rfl) (fun K hK=>?_)
 rw [if_pos (by rfl)]
 refine zao _ _ 3 _ _ rfl _ _ rfl rfl (zbu _ _ 21 _ _ d1 (hQ1.b.froz 21)) ?_
 refine hK.out _ _ (za8 hS1 (by omega) (Bt.set _ _ 21 _)) (fun hS2=>?_)
 clear hK d1 hQ1 hS1
 try simp only [pu]
 generalize v1.setCell ⟨w.heap.size+1,21,none⟩ (.int .i64 y1)=v2 at *
 refine wpAnyH_done (by kernel_rfl) ?_ _
 have HS3:Hid (Sq w r2 (mcs { Mg.z with k:=14,mem:=y0,n:=y1 } none none none none 0 0 0 0) v2):=hQ2
 clear hQ2 hS2
 generalize v2=w3 at *
 have c0:w3.cell? ⟨w.heap.size+1,0,none⟩=some (.int .i64 14):=(HS3.out.b.cell 0).trans rfl
 go_upto_region 6 with fail
 go_wp2_with fail
 refine wp_region_held (S:=fun W=>Bx W w.heap.size (zaa r2) 136∧Bx W (w.heap.size+1) (mcs { Mg.z with k:=14,mem:=y0,n:=y1 } none none none none 0 0 0 0) 35) (by kernel_rfl) ?_
 change wpAnyH _ _ _ _ _ 4 #[false,false,false,false] _ w3.drew
 have hQ:Sq w r2 (mcs { Mg.z with k:=14,mem:=y0,n:=y1 } none none none none 0 0 0 0) w3.drew:=HS3.out.drewN 1
 clear HS3 c0
 obtain ⟨v0,hv0⟩:∃u,u=w3.drew:=⟨_,rfl⟩
 rw [← hv0] at hQ ⊢
 clear hv0
 have hS:Bx v0 w.heap.size (zaa r2) 136∧Bx v0 (w.heap.size+1) (mcs { Mg.z with k:=14,mem:=y0,n:=y1 } none none none none 0 0 0 0) 35:=⟨hQ.z,hQ.b⟩
 refine zae (i:=0) (v:=.agg (zaa r2)) rfl (by kernel_rfl) (Or.inl ⟨rfl,fun W hW=>exl _ _ _ _ rfl _ _ rfl (za2 W _ _ hW.1)⟩) hS ?_
 simp only [pu]
 refine zae (i:=1) (v:=.agg (mcs { Mg.z with k:=14,mem:=y0,n:=y1 } none none none none 0 0 0 0)) rfl (by kernel_rfl) (Or.inl ⟨rfl,fun W hW=>exl _ _ _ _ rfl _ _ rfl (zam W _ _ (zac _ _ _ _ _ _ _ _ _) hW.2)⟩) hS ?_
 simp only [pu]
 refine zap (i:=2) rfl (by kernel_rfl) (fun K hK=>?_)
 rw [if_pos (by rfl)]
 refine zao _ _ 136 _ _ rfl _ _ rfl rfl (zaq _ _ _ r2 hQ.y) ?_
 refine hK.out _ _ ⟨hQ.z.other (by omega),hQ.b.other (by omega)⟩ (fun hS1=>?_)
 clear hK
 try simp only [pu]
 refine zap (i:=3) rfl (by kernel_rfl) (fun K hK=>?_)
 rw [if_pos (by rfl)]
 refine zao _ _ 35 _ _ rfl _ _ rfl rfl (zaw _ (w.heap.size+3) _ (mcs { Mg.z with k:=14,mem:=y0,n:=y1 } none none none none 0 0 0 0) (hQ.v.other (by omega)) (zac _ _ _ _ _ _ _ _ _) (zac _ _ _ _ _ _ _ _ _) (zaj _ _ _ _ _ _ _ _ _)) ?_
 refine hK.out _ _ ⟨hS1.1.other (by omega),hS1.2.other (by omega)⟩ (fun hS2=>?_)
 clear hK
 try simp only [pu]
 refine wpAnyH_done (by kernel_rfl) ?_ _
 have hl1:=zbi ((v0.setRow (w.heap.size+2) (zaa r2)).setRow (w.heap.size+3) (mcs { Mg.z with k:=14,mem:=y0,n:=y1 } none none none none 0 0 0 0)) (w.heap.size+2) r2 (hQ.y.set.other (by omega))
 have hl2:=zbb ((v0.setRow (w.heap.size+2) (zaa r2)).setRow (w.heap.size+3) (mcs { Mg.z with k:=14,mem:=y0,n:=y1 } none none none none 0 0 0 0)) (w.heap.size+3) (mcs { Mg.z with k:=14,mem:=y0,n:=y1 } none none none none 0 0 0 0) (zac _ _ _ _ _ _ _ _ _) ((hQ.v.other (by omega)).set)
 have HBz:Hid (Below w.heap.size w ((v0.setRow (w.heap.size+2) (zaa r2)).setRow (w.heap.size+3) (mcs { Mg.z with k:=14,mem:=y0,n:=y1 } none none none none 0 0 0 0))):=zad (zad hQ.c (by omega)) (by omega)
 clear hS hS1 hS2 hQ
 go_wp2_with fail
 refine bodyPost_ret (za3 _ _ 4 136 5 35 _ _ _ _ _ rfl rfl rfl hl1 hl2) rfl ?_
 exact ⟨rfl,HBz⟩
theorem zpy {r r1 r2 r3:Rd} {y0:Int} {y1:Int} {y2:Int} (h0:zah r=(r1,y0)) (h1:zah r1=(r2,y1)) (h2:zah r2=(r3,y2)) (hs:Sm r) (s1:Sm r1) (s2:Sm r2) (s3:Sm r3) (w:World):Calls Tryz.prog 96 #[.agg (zaa r),.agg (mcs { Mg.z with k:=15 } none none none none 0 0 0 0)] w (RdP r3 (mcs { Mg.z with k:=15,tr:=y0,day:=y1,rate:=y2 } none none none none 0 0 0 0) w):=by
 have HS1:Hid (Sq w r (mcs { Mg.z with k:=15 } none none none none 0 0 0 0) ((((w.alloc (.cells (zaa r) 136)).alloc (.cells (mcs { Mg.z with k:=15 } none none none none 0 0 0 0) 35)).alloc (.cells (zaa ⟨[],0,0⟩) 136)).alloc (.cells (mcs Mg.z none none none none 0 0 0 0) 35))):=Sq.new w r _
 go_enter Tryz.func96,Tryz.ntmps96
 go_upto_region 1 with fail
 show Code.wp _ _ _ _ ((((w.alloc (.cells (zaa r) 136)).alloc (.cells (mcs { Mg.z with k:=15 } none none none none 0 0 0 0) 35)).alloc (.cells (zaa ⟨[],0,0⟩) 136)).alloc (.cells (mcs Mg.z none none none none 0 0 0 0) 35))
 generalize ((((w.alloc (.cells (zaa r) 136)).alloc (.cells (mcs { Mg.z with k:=15 } none none none none 0 0 0 0) 35)).alloc (.cells (zaa ⟨[],0,0⟩) 136)).alloc (.cells (mcs Mg.z none none none none 0 0 0 0) 35))=w1 at *
 have c0:w1.cell? ⟨w.heap.size+1,0,none⟩=some (.int .i64 15):=(HS1.out.b.cell 0).trans rfl
 have HLd:Hid ((Instr.loadAt 136 (.pointer (some ⟨w.heap.size,0,none⟩))).run Tryz.prog w1=.ok (.agg (zaa r)) w1):=za2 _ _ _ HS1.out.z
 go_wp2_with (guard_target =~ wpList _ _ _ (⟨_,Op.load 136 _,_,_,_,_⟩::_) _ _;refine zag _ rfl 136 _ rfl _ rfl _ HLd.out ?_;go_simp)
 refine (ze8 h0 h1 h2 hs _).mono ?_
 rintro e x1 ⟨la,lc,rfl,HO,hb⟩
 have hle:w.heap.size+4≤w1.heap.size:=HS1.out.lt
 obtain ⟨lg,hla⟩:=zbp HO.out (by omega)
 subst hla
 have HSa:Hid (Sq w r (mcs { Mg.z with k:=15 } none none none none 0 0 0 0) x1):=HS1.out.keep hb.out
 have HSt:Hid ((Instr.storeAt 136 (.pointer (some ⟨w.heap.size,0,none⟩)) (.agg (zaa r3))).run Tryz.prog x1=.ok () (x1.setRow w.heap.size (zaa r3))):=zaq _ _ _ _ HSa.out.z
 have HS2:Hid (Sq w r3 (mcs { Mg.z with k:=15 } none none none none 0 0 0 0) (x1.setRow w.heap.size (zaa r3))):=HSa.out.putZ r3
 have HOl:Hid ((x1.setRow w.heap.size (zaa r3)).ownsRow (w.heap.size+4) 3 1 (.slice (some ⟨lg,0,none⟩) 3 lc) 3 (zal [y0,y1,y2])):=zau (zat HO.out HSa.out.z (by decide)) hle
 clear hb HSa HS1 HLd HO c0
 generalize hx:x1.setRow w.heap.size (zaa r3)=w2 at *
 go_upto_region 25 with (guard_target =~ wpList _ _ _ (⟨_,Op.store 136 _ _,_,_,_,_⟩::_) _ _;refine zaf _ _ rfl 136 _ _ rfl _ _ rfl rfl HSt.out ?_;go_simp)
 clear hx HSt
 have c0:w2.cell? ⟨w.heap.size+1,0,none⟩=some (.int .i64 15):=(HS2.out.b.cell 0).trans rfl
 go_wp2_with fail
 refine wp_region_held (S:=fun W=>W.ownsRow (w.heap.size+4) 3 1 (.slice (some ⟨lg,0,none⟩) 3 lc) 3 (zal [y0,y1,y2])) (by kernel_rfl) ?_
 change wpAnyH _ _ _ _ _ 15 #[false,false,false,false,false,false,false,false,false,false,false,false,false,false,false] _ w2.drew
 have hS0:w2.drew.ownsRow (w.heap.size+4) 3 1 (.slice (some ⟨lg,0,none⟩) 3 lc) 3 (zal [y0,y1,y2]):=HOl.out
 have hQ0:Sq w r3 (mcs { Mg.z with k:=15 } none none none none 0 0 0 0) w2.drew:=HS2.out.drewN 1
 clear HOl HS2 c0
 obtain ⟨v0,hv0⟩:∃u,u=w2.drew:=⟨_,rfl⟩
 rw [← hv0] at hS0 hQ0 ⊢
 clear hv0
 refine zae (i:=0) (v:=.slice (some ⟨lg,0,none⟩) 3 lc) rfl (by kernel_rfl) (Or.inl ⟨rfl,fun _ _=>rfl⟩) hS0 ?_
 simp only [pu]
 refine zae (i:=1) (v:=.pointer (some ⟨lg,0,none⟩)) rfl (by kernel_rfl) (Or.inl ⟨rfl,fun W hW=>by go_simp⟩) hS0 ?_
 simp only [pu]
 refine zae (i:=2) (v:=.int .i64 y0) rfl (by kernel_rfl) (Or.inl ⟨rfl,fun W hW=>by have cj:W.cell? ⟨lg,0,none⟩=some (.int .i64 y0):=zbe hW 0 rfl;go_simp⟩) hS0 ?_
 simp only [pu]
 refine zae (i:=3) (v:=.slice (some ⟨lg,0,none⟩) 3 lc) rfl (by kernel_rfl) (Or.inl ⟨rfl,fun _ _=>rfl⟩) hS0 ?_
 simp only [pu]
 refine zae (i:=4) (v:=.pointer (some ⟨lg,1,none⟩)) rfl (by kernel_rfl) (Or.inl ⟨rfl,fun W hW=>by go_simp⟩) hS0 ?_
 simp only [pu]
 refine zae (i:=5) (v:=.int .i64 y1) rfl (by kernel_rfl) (Or.inl ⟨rfl,fun W hW=>by have cj:W.cell? ⟨lg,1,none⟩=some (.int .i64 y1):=zbe hW 1 rfl;go_simp⟩) hS0 ?_
 simp only [pu]
 refine zae (i:=6) (v:=.slice (some ⟨lg,0,none⟩) 3 lc) rfl (by kernel_rfl) (Or.inl ⟨rfl,fun _ _=>rfl⟩) hS0 ?_
 simp only [pu]
 refine zae (i:=7) (v:=.pointer (some ⟨lg,2,none⟩)) rfl (by kernel_rfl) (Or.inl ⟨rfl,fun W hW=>by go_simp⟩) hS0 ?_
 simp only [pu]
 refine zae (i:=8) (v:=.int .i64 y2) rfl (by kernel_rfl) (Or.inl ⟨rfl,fun W hW=>by have cj:W.cell? ⟨lg,2,none⟩=some (.int .i64 y2):=zbe hW 2 rfl;go_simp⟩) hS0 ?_
 simp only [pu]
 refine zae (i:=9) (v:=.pointer (some ⟨w.heap.size+1,33,none⟩)) rfl (by kernel_rfl) (Or.inl ⟨rfl,fun W hW=>by go_simp⟩) hS0 ?_
 simp only [pu]
 have d0:v0.cell? ⟨w.heap.size+1,33,none⟩=some (.int .i64 0):=(hQ0.b.cell 33).trans (by kernel_rfl)
 have hQ1:Sq w r3 (mcs { Mg.z with k:=15,tr:=y0 } none none none none 0 0 0 0) (v0.setCell ⟨w.heap.size+1,33,none⟩ (.int .i64 y0)):=hQ0.putB 33 _ (by kernel_rfl)
 refine zap (i:=10) rfl (by kernel_rfl) (fun K hK=>?_)
 rw [if_pos (by rfl)]
 refine zao _ _ 3 _ _ rfl _ _ rfl rfl (zbu _ _ 33 _ _ d0 (hQ0.b.froz 33)) ?_
 refine hK.out _ _ (za8 hS0 (by omega) (Bt.set _ _ 33 _)) (fun hS1=>?_)
 clear hK d0 hQ0 hS0
 try simp only [pu]
 generalize v0.setCell ⟨w.heap.size+1,33,none⟩ (.int .i64 y0)=v1 at *
 refine zae (i:=11) (v:=.pointer (some ⟨w.heap.size+1,19,none⟩)) rfl (by kernel_rfl) (Or.inl ⟨rfl,fun W hW=>by go_simp⟩) hS1 ?_
 simp only [pu]
 have d1:v1.cell? ⟨w.heap.size+1,19,none⟩=some (.int .i64 0):=(hQ1.b.cell 19).trans (by kernel_rfl)
 have hQ2:Sq w r3 (mcs { Mg.z with k:=15,tr:=y0,day:=y1 } none none none none 0 0 0 0) (v1.setCell ⟨w.heap.size+1,19,none⟩ (.int .i64 y1)):=hQ1.putB 19 _ (by kernel_rfl)
 refine zap (i:=12) rfl (by kernel_rfl) (fun K hK=>?_)
 rw [if_pos (by rfl)]
 refine zao _ _ 3 _ _ rfl _ _ rfl rfl (zbu _ _ 19 _ _ d1 (hQ1.b.froz 19)) ?_
 refine hK.out _ _ (za8 hS1 (by omega) (Bt.set _ _ 19 _)) (fun hS2=>?_)
 clear hK d1 hQ1 hS1
 try simp only [pu]
 generalize v1.setCell ⟨w.heap.size+1,19,none⟩ (.int .i64 y1)=v2 at *
 refine zae (i:=13) (v:=.pointer (some ⟨w.heap.size+1,35,none⟩)) rfl (by kernel_rfl) (Or.inl ⟨rfl,fun W hW=>by go_simp⟩) hS2 ?_
 simp only [pu]
 have d2:v2.cell? ⟨w.heap.size+1,35,none⟩=some (.int .i64 0):=(hQ2.b.cell 35).trans (by kernel_rfl)
 have hQ3:Sq w r3 (mcs { Mg.z with k:=15,tr:=y0,day:=y1,rate:=y2 } none none none none 0 0 0 0) (v2.setCell ⟨w.heap.size+1,35,none⟩ (.int .i64 y2)):=hQ2.putB 35 _ (by kernel_rfl)
 refine zap (i:=14) rfl (by kernel_rfl) (fun K hK=>?_)
 rw [if_pos (by rfl)]
 refine zao _ _ 3 _ _ rfl _ _ rfl rfl (zbu _ _ 35 _ _ d2 (hQ2.b.froz 35)) ?_
 refine hK.out _ _ (za8 hS2 (by omega) (Bt.set _ _ 35 _)) (fun hS3=>?_)
 clear hK d2 hQ2 hS2
 try simp only [pu]
 generalize v2.setCell ⟨w.heap.size+1,35,none⟩ (.int .i64 y2)=v3 at *
 refine wpAnyH_done (by kernel_rfl) ?_ _
 have HS3:Hid (Sq w r3 (mcs { Mg.z with k:=15,tr:=y0,day:=y1,rate:=y2 } none none none none 0 0 0 0) v3):=hQ3
 clear hQ3 hS3
 generalize v3=w3 at *
 have c0:w3.cell? ⟨w.heap.size+1,0,none⟩=some (.int .i64 15):=(HS3.out.b.cell 0).trans rfl
 go_wp2_with fail
 refine wp_region_held (S:=fun W=>Bx W w.heap.size (zaa r3) 136∧Bx W (w.heap.size+1) (mcs { Mg.z with k:=15,tr:=y0,day:=y1,rate:=y2 } none none none none 0 0 0 0) 35) (by kernel_rfl) ?_
 change wpAnyH _ _ _ _ _ 4 #[false,false,false,false] _ w3.drew
 have hQ:Sq w r3 (mcs { Mg.z with k:=15,tr:=y0,day:=y1,rate:=y2 } none none none none 0 0 0 0) w3.drew:=HS3.out.drewN 1
 clear HS3 c0
 obtain ⟨v0,hv0⟩:∃u,u=w3.drew:=⟨_,rfl⟩
 rw [← hv0] at hQ ⊢
 clear hv0
 have hS:Bx v0 w.heap.size (zaa r3) 136∧Bx v0 (w.heap.size+1) (mcs { Mg.z with k:=15,tr:=y0,day:=y1,rate:=y2 } none none none none 0 0 0 0) 35:=⟨hQ.z,hQ.b⟩
 refine zae (i:=0) (v:=.agg (zaa r3)) rfl (by kernel_rfl) (Or.inl ⟨rfl,fun W hW=>exl _ _ _ _ rfl _ _ rfl (za2 W _ _ hW.1)⟩) hS ?_
 simp only [pu]
 refine zae (i:=1) (v:=.agg (mcs { Mg.z with k:=15,tr:=y0,day:=y1,rate:=y2 } none none none none 0 0 0 0)) rfl (by kernel_rfl) (Or.inl ⟨rfl,fun W hW=>exl _ _ _ _ rfl _ _ rfl (zam W _ _ (zac _ _ _ _ _ _ _ _ _) hW.2)⟩) hS ?_
 simp only [pu]
 refine zap (i:=2) rfl (by kernel_rfl) (fun K hK=>?_)
 rw [if_pos (by rfl)]
 refine zao _ _ 136 _ _ rfl _ _ rfl rfl (zaq _ _ _ r3 hQ.y) ?_
 refine hK.out _ _ ⟨hQ.z.other (by omega),hQ.b.other (by omega)⟩ (fun hS1=>?_)
 clear hK
 try simp only [pu]
 refine zap (i:=3) rfl (by kernel_rfl) (fun K hK=>?_)
 rw [if_pos (by rfl)]
 refine zao _ _ 35 _ _ rfl _ _ rfl rfl (zaw _ (w.heap.size+3) _ (mcs { Mg.z with k:=15,tr:=y0,day:=y1,rate:=y2 } none none none none 0 0 0 0) (hQ.v.other (by omega)) (zac _ _ _ _ _ _ _ _ _) (zac _ _ _ _ _ _ _ _ _) (zaj _ _ _ _ _ _ _ _ _)) ?_
 refine hK.out _ _ ⟨hS1.1.other (by omega),hS1.2.other (by omega)⟩ (fun hS2=>?_)
 clear hK
 try simp only [pu]
 refine wpAnyH_done (by kernel_rfl) ?_ _
 have hl1:=zbi ((v0.setRow (w.heap.size+2) (zaa r3)).setRow (w.heap.size+3) (mcs { Mg.z with k:=15,tr:=y0,day:=y1,rate:=y2 } none none none none 0 0 0 0)) (w.heap.size+2) r3 (hQ.y.set.other (by omega))
 have hl2:=zbb ((v0.setRow (w.heap.size+2) (zaa r3)).setRow (w.heap.size+3) (mcs { Mg.z with k:=15,tr:=y0,day:=y1,rate:=y2 } none none none none 0 0 0 0)) (w.heap.size+3) (mcs { Mg.z with k:=15,tr:=y0,day:=y1,rate:=y2 } none none none none 0 0 0 0) (zac _ _ _ _ _ _ _ _ _) ((hQ.v.other (by omega)).set)
 have HBz:Hid (Below w.heap.size w ((v0.setRow (w.heap.size+2) (zaa r3)).setRow (w.heap.size+3) (mcs { Mg.z with k:=15,tr:=y0,day:=y1,rate:=y2 } none none none none 0 0 0 0))):=zad (zad hQ.c (by omega)) (by omega)
 clear hS hS1 hS2 hQ
 go_wp2_with fail
 refine bodyPost_ret (za3 _ _ 4 136 5 35 _ _ _ _ _ rfl rfl rfl hl1 hl2) rfl ?_
 exact ⟨rfl,HBz⟩
theorem zdr (k:Int) (hk:inn k 9 15=false) (r:Rd) (A:Array Value) (h0:A[0]? = some (.int .i64 k)) (hsz:A.size=36) (h1:A.all (·.oneCell')=true) (w:World):Calls Tryz.prog 96 #[.agg (zaa r),.agg A] w (RdP r A w):=by
 have hk2:¬ (9≤k∧k≤15):=by unfold inn at hk;rw [Bool.and_eq_false_iff,decide_eq_false_iff_not,decide_eq_false_iff_not] at hk;omega
 have q9:(k==9)=false:=by rw [beq_eq_false_iff_ne];omega
 have q10:(k==10)=false:=by rw [beq_eq_false_iff_ne];omega
 have q11:(k==11)=false:=by rw [beq_eq_false_iff_ne];omega
 have q12:(k==12)=false:=by rw [beq_eq_false_iff_ne];omega
 have q13:(k==13)=false:=by rw [beq_eq_false_iff_ne];omega
 have q14:(k==14)=false:=by rw [beq_eq_false_iff_ne];omega
 have q15:(k==15)=false:=by rw [beq_eq_false_iff_ne];omega
 clear hk hk2
 have HS1:Hid (Sq w r A ((((w.alloc (.cells (zaa r) 136)).alloc (.cells A 35)).alloc (.cells (zaa ⟨[],0,0⟩) 136)).alloc (.cells (mcs Mg.z none none none none 0 0 0 0) 35))):=Sq.new w r _
 go_enter Tryz.func96,Tryz.ntmps96
 go_upto_region 1 with fail
 show Code.wp _ _ _ _ ((((w.alloc (.cells (zaa r) 136)).alloc (.cells A 35)).alloc (.cells (zaa ⟨[],0,0⟩) 136)).alloc (.cells (mcs Mg.z none none none none 0 0 0 0) 35))
 generalize ((((w.alloc (.cells (zaa r) 136)).alloc (.cells A 35)).alloc (.cells (zaa ⟨[],0,0⟩) 136)).alloc (.cells (mcs Mg.z none none none none 0 0 0 0) 35))=w1 at *
 have c0:w1.cell? ⟨w.heap.size+1,0,none⟩=some (.int .i64 k):=(HS1.out.b.cell 0).trans h0
 go_wp2_with fail
 refine wp_region_held (S:=fun W=>Bx W w.heap.size (zaa r) 136∧Bx W (w.heap.size+1) A 35) (by kernel_rfl) ?_
 change wpAnyH _ _ _ _ _ 4 #[false,false,false,false] _ w1.drew
 have hQ:Sq w r A w1.drew:=HS1.out.drewN 1
 clear HS1 c0
 obtain ⟨v0,hv0⟩:∃u,u=w1.drew:=⟨_,rfl⟩
 rw [← hv0] at hQ ⊢
 clear hv0
 have hS:Bx v0 w.heap.size (zaa r) 136∧Bx v0 (w.heap.size+1) A 35:=⟨hQ.z,hQ.b⟩
 refine zae (i:=0) (v:=.agg (zaa r)) rfl (by kernel_rfl) (Or.inl ⟨rfl,fun W hW=>exl _ _ _ _ rfl _ _ rfl (za2 W _ _ hW.1)⟩) hS ?_
 simp only [pu]
 refine zae (i:=1) (v:=.agg A) rfl (by kernel_rfl) (Or.inl ⟨rfl,fun W hW=>exl _ _ _ _ rfl _ _ rfl (zam W _ _ hsz hW.2)⟩) hS ?_
 simp only [pu]
 refine zap (i:=2) rfl (by kernel_rfl) (fun K hK=>?_)
 rw [if_pos (by rfl)]
 refine zao _ _ 136 _ _ rfl _ _ rfl rfl (zaq _ _ _ r hQ.y) ?_
 refine hK.out _ _ ⟨hQ.z.other (by omega),hQ.b.other (by omega)⟩ (fun hS1=>?_)
 clear hK
 try simp only [pu]
 refine zap (i:=3) rfl (by kernel_rfl) (fun K hK=>?_)
 rw [if_pos (by rfl)]
 refine zao _ _ 35 _ _ rfl _ _ rfl rfl (zaw _ (w.heap.size+3) _ A (hQ.v.other (by omega)) (zac _ _ _ _ _ _ _ _ _) hsz h1) ?_
 refine hK.out _ _ ⟨hS1.1.other (by omega),hS1.2.other (by omega)⟩ (fun hS2=>?_)
 clear hK
 try simp only [pu]
 refine wpAnyH_done (by kernel_rfl) ?_ _
 have hl1:=zbi ((v0.setRow (w.heap.size+2) (zaa r)).setRow (w.heap.size+3) A) (w.heap.size+2) r (hQ.y.set.other (by omega))
 have hl2:=zbb ((v0.setRow (w.heap.size+2) (zaa r)).setRow (w.heap.size+3) A) (w.heap.size+3) A hsz ((hQ.v.other (by omega)).set)
 have HBz:Hid (Below w.heap.size w ((v0.setRow (w.heap.size+2) (zaa r)).setRow (w.heap.size+3) A)):=zad (zad hQ.c (by omega)) (by omega)
 clear hS hS1 hS2 hQ
 go_wp2_with fail
 refine bodyPost_ret (za3 _ _ 4 136 5 35 _ _ _ _ _ rfl rfl rfl hl1 hl2) rfl ?_
 exact ⟨rfl,HBz⟩
end Go.Proofs.YtdmlgheajblcdaaGreat
