/- Layer 10: messages read, kind by kind. -/
import Derived.Test.YtdmlgheajblcdaaGreatD08
namespace Go.Proofs.YtdmlgheajblcdaaGreat
set_option maxHeartbeats 16000000
set_option maxRecDepth 100000
open Go.RowKit
set_option linter.unusedVariables false
set_option linter.unusedSimpArgs false
set_option maxRecDepth 100000
theorem zyk {q:Nat} {r r1 r2:Rd} {a:Int} {b:List UInt8} (h1:zah r=(r1,a)) (h2:za4 r1 160=(r2,b)) (w:World) (hR:Rm w q r) (hs1:r1.s.length≤281474976710656):Calls Tryz.prog 56 #[.agg #[.pointer (some ⟨q,0,none⟩)],.int .i64 1] w (MsP q r2 (fun W v=>v=.iface 76 (.agg #[.int .i64 a,.string ⟨b.toArray⟩])) w):=by
 have HX0:Hid (Bx (w.alloc (.cells #[.pointer (some ⟨q,0,none⟩)] 133)) w.heap.size #[.pointer (some ⟨q,0,none⟩)] 133):=Bx.new _ _ _
 have HR0:Hid (Rm (w.alloc (.cells #[.pointer (some ⟨q,0,none⟩)] 133)) q r):=hR.keep (zab _ _)
 have HB0:Hid (Bt q w (w.alloc (.cells #[.pointer (some ⟨q,0,none⟩)] 133))):=Bt.of_below (zab w _)
 have hdq:w.heap.size≠q:=Nat.ne_of_gt hR.lt
 have hqs:q<w.heap.size:=hR.lt
 clear hR
 go_enter Tryz.func56,Tryz.ntmps56
 go_upto_region 1 with fail
 generalize (w.alloc (.cells #[.pointer (some ⟨q,0,none⟩)] 133))=w1 at *
 go_wp2_with fail
 refine wp_region_held (S:=fun W=>Bx W w.heap.size #[.pointer (some ⟨q,0,none⟩)] 133∧Bt q w W) (by kernel_rfl) ?_
 change wpAnyH _ _ _ _ _ 9 #[false,false,false,false,false,false,false,false,false] _ w1.drew
 have hS0:Bx w1.drew w.heap.size #[.pointer (some ⟨q,0,none⟩)] 133∧Bt q w w1.drew:=⟨HX0.out,HB0.out.drewN 1⟩
 have hR0:Rm w1.drew q r:=HR0.out.drewN 1
 clear HX0 HB0 HR0
 obtain ⟨v0,hv0⟩:∃v,v=w1.drew:=⟨_,rfl⟩
 rw [← hv0] at hS0 hR0 ⊢
 clear hv0
 refine zae (i:=0) (v:=.pointer (some ⟨w.heap.size,0,none⟩)) rfl (by kernel_rfl) (Or.inl ⟨rfl,fun W hW=>by go_simp⟩) hS0 ?_
 simp only [pu]
 refine zae (i:=1) (v:=.pointer (some ⟨q,0,none⟩)) rfl (by kernel_rfl) (Or.inl ⟨rfl,fun W hW=>by have cj:=(hW.1.cell 0:W.cell? ⟨w.heap.size,0,none⟩=some (.pointer (some ⟨q,0,none⟩)));go_simp⟩) hS0 ?_
 simp only [pu]
 refine zae (i:=3) (v:=.pointer (some ⟨w.heap.size,0,none⟩)) rfl (by kernel_rfl) (Or.inl ⟨rfl,fun W hW=>by go_simp⟩) hS0 ?_
 simp only [pu]
 refine zae (i:=4) (v:=.pointer (some ⟨q,0,none⟩)) rfl (by kernel_rfl) (Or.inl ⟨rfl,fun W hW=>by have cj:=(hW.1.cell 0:W.cell? ⟨w.heap.size,0,none⟩=some (.pointer (some ⟨q,0,none⟩)));go_simp⟩) hS0 ?_
 simp only [pu]
 refine zap (i:=2) rfl (by kernel_rfl) (fun K hK=>?_)
 rw [if_pos (by rfl)]
 go_simp
 refine (zce h1 _ hR0).mono ?_
 rintro e u1 ⟨rfl,HR1,hC1⟩
 refine hK.out _ _ ⟨hS0.1.bt hC1.out hdq,hS0.2.trans hC1.out⟩ (fun hS1=>?_)
 clear hK
 try simp only [pu]
 have hR1:=HR1.out
 clear hS0 hR0 HR1
 refine zap (i:=5) rfl (by kernel_rfl) (fun K hK=>?_)
 rw [if_pos (by rfl)]
 go_simp
 refine (zs3 ⟨by decide,by decide⟩ h2 _ hR1 hs1).mono ?_
 rintro e u2 ⟨rfl,HR2,hC2⟩
 refine hK.out _ _ ⟨hS1.1.bt hC2.out hdq,hS1.2.trans hC2.out⟩ (fun hS2=>?_)
 clear hK
 try simp only [pu]
 have hR2:=HR2.out
 clear hS1 hR1 HR2
 refine zae (i:=6) (v:=.agg #[.int .i64 a,.string ⟨b.toArray⟩]) rfl (by kernel_rfl) (Or.inl ⟨rfl,fun W hW=>by go_simp⟩) hS2 ?_
 simp only [pu]
 refine zae (i:=7) (v:=.iface 76 (.agg #[.int .i64 a,.string ⟨b.toArray⟩])) rfl (by kernel_rfl) (Or.inl ⟨rfl,fun W hW=>by go_simp⟩) hS2 ?_
 simp only [pu]
 refine zae (i:=8) (v:=.iface 76 (.agg #[.int .i64 a,.string ⟨b.toArray⟩])) rfl (by kernel_rfl) (Or.inl ⟨rfl,fun _ _=>rfl⟩) hS2 ?_
 simp only [pu]
 refine wpAnyH_done (by kernel_rfl) ?_ _
 have HRz:Hid (Rm u2 q r2):=hR2
 have HBz:Hid (Bt q w u2):=hS2.2
 clear hS2 hR2
 go_wp2_with fail
 go_ret
 exact ⟨_,rfl,rfl,HRz,HBz⟩
theorem zyl {q:Nat} {r r1 r2 r3 r4 r5:Rd} {a:List UInt8} {b c d:Int} {e0:List UInt8} (h1:za4 r 12=(r1,a)) (h2:zah r1=(r2,b)) (h3:zah r2=(r3,c)) (h4:zah r3=(r4,d)) (h5:za4 r4 12=(r5,e0)) (w:World) (hR:Rm w q r) (hs:r.s.length≤281474976710656) (hs4:r4.s.length≤281474976710656):Calls Tryz.prog 56 #[.agg #[.pointer (some ⟨q,0,none⟩)],.int .i64 2] w (MsP q r5 (fun W v=>v=.iface 78 (.agg #[.string ⟨a.toArray⟩,.int .i64 b,.int .i64 c,.int .i64 d,.string ⟨e0.toArray⟩])) w):=by
 have HX0:Hid (Bx (w.alloc (.cells #[.pointer (some ⟨q,0,none⟩)] 133)) w.heap.size #[.pointer (some ⟨q,0,none⟩)] 133):=Bx.new _ _ _
 have HR0:Hid (Rm (w.alloc (.cells #[.pointer (some ⟨q,0,none⟩)] 133)) q r):=hR.keep (zab _ _)
 have HB0:Hid (Bt q w (w.alloc (.cells #[.pointer (some ⟨q,0,none⟩)] 133))):=Bt.of_below (zab w _)
 have hdq:w.heap.size≠q:=Nat.ne_of_gt hR.lt
 have hqs:q<w.heap.size:=hR.lt
 clear hR
 go_enter Tryz.func56,Tryz.ntmps56
 go_upto_region 1 with fail
 generalize (w.alloc (.cells #[.pointer (some ⟨q,0,none⟩)] 133))=w1 at *
 have hle:w.heap.size≤w1.heap.size:=HB0.out.size
 have c0:w1.cell? ⟨w.heap.size,0,none⟩=some (.pointer (some ⟨q,0,none⟩)):=HX0.out.cell 0
 go_wp2_with fail
 refine (zo9 h1 h2 h3 h4 h5 _ HR0.out hs hs4).mono ?_
 rintro e w2 ⟨rfl,HR2,HB2⟩
 have HB3:Hid (Bt q w w2):=HB0.out.trans HB2.out
 clear HB0 HB2 HR0 HX0 c0
 go_wp2_with fail
 go_ret
 exact ⟨_,rfl,rfl,HR2,HB3⟩
theorem zym {q:Nat} {r r1 r2 r3 r4 r5 r6 r7 r8 r9 r10:Rd} {a0 a1 a2 a3 a4 a5 a6:Int} {a7:List UInt8} {N:Nat} {a9:List Int} (h0:zah r=(r1,a0)) (h1:zah r1=(r2,a1)) (h2:zah r2=(r3,a2)) (h3:zah r3=(r4,a3)) (h4:zah r4=(r5,a4)) (h5:zah r5=(r6,a5)) (h6:zah r6=(r7,a6)) (h7:za4 r7 12=(r8,a7)) (h8:zai r8 64=(r9,N)) (h9:zbq (pre zbl N r9).1 64=(r10,a9)) (w:World) (hR:Rm w q r) (hs7:r7.s.length≤281474976710656) (hs8:r8.s.length≤281474976710656) (hs9:(pre zbl N r9).1.s.length≤1099511627776):Calls Tryz.prog 56 #[.agg #[.pointer (some ⟨q,0,none⟩)],.int .i64 3] w (MsP q r10 (fun W v=>∃ca cc ba bc,v=.iface 80 (.agg #[.int .i64 a0,.int .i64 a1,.string ⟨a7.toArray⟩,.int .i64 a2,.int .i64 a3,.int .i64 a4,.slice ca (pre zbl N r9).2.length cc,.int .i64 a5,.int .i64 a6,.slice ba a9.length bc])∧W.ownsRow w.heap.size 112 3 (.slice ca (pre zbl N r9).2.length cc) (pre zbl N r9).2.length (zba (pre zbl N r9).2)∧W.ownsRow w.heap.size 3 1 (.slice ba a9.length bc) a9.length (zal a9)) w):=by
 have HX0:Hid (Bx (w.alloc (.cells #[.pointer (some ⟨q,0,none⟩)] 133)) w.heap.size #[.pointer (some ⟨q,0,none⟩)] 133):=Bx.new _ _ _
 have HR0:Hid (Rm (w.alloc (.cells #[.pointer (some ⟨q,0,none⟩)] 133)) q r):=hR.keep (zab _ _)
 have HB0:Hid (Bt q w (w.alloc (.cells #[.pointer (some ⟨q,0,none⟩)] 133))):=Bt.of_below (zab w _)
 have hdq:w.heap.size≠q:=Nat.ne_of_gt hR.lt
 have hqs:q<w.heap.size:=hR.lt
 clear hR
 go_enter Tryz.func56,Tryz.ntmps56
 go_upto_region 1 with fail
 generalize (w.alloc (.cells #[.pointer (some ⟨q,0,none⟩)] 133))=w1 at *
 have hle:w.heap.size≤w1.heap.size:=HB0.out.size
 have c0:w1.cell? ⟨w.heap.size,0,none⟩=some (.pointer (some ⟨q,0,none⟩)):=HX0.out.cell 0
 go_wp2_with fail
 refine (zkn h0 h1 h2 h3 h4 h5 h6 h7 h8 h9 _ HR0.out hs7 hs8 hs9).mono ?_
 rintro e w2 ⟨ca,cc,ba,bc,rfl,HO2,HO3,HR2,HB2⟩
 have HB3:Hid (Bt q w w2):=HB0.out.trans HB2.out
 have HOa:Hid (w2.ownsRow w.heap.size 112 3 (.slice ca (pre zbl N r9).2.length cc) (pre zbl N r9).2.length (zba (pre zbl N r9).2)):=zau HO2.out hle
 have HOb:Hid (w2.ownsRow w.heap.size 3 1 (.slice ba a9.length bc) a9.length (zal a9)):=zau HO3.out hle
 clear HB0 HB2 HR0 HX0 c0
 go_wp2_with fail
 go_ret
 exact ⟨_,rfl,⟨ca,cc,ba,bc,rfl,HOa.out,HOb.out⟩,HR2,HB3⟩
theorem zyn {q:Nat} {r r1:Rd} {N:Nat} (h1:zai r 64=(r1,N)) (w:World) (hR:Rm w q r) (hs:r.s.length≤281474976710656):Calls Tryz.prog 56 #[.agg #[.pointer (some ⟨q,0,none⟩)],.int .i64 4] w (MsP q (pre za9 N r1).1 (fun W v=>∃pa pc,v=.iface 82 (.agg #[.slice pa N pc])∧W.ownsRow w.heap.size 128 2 (.slice pa N pc) N (zav (pre za9 N r1).2)) w):=by
 have HX0:Hid (Bx (w.alloc (.cells #[.pointer (some ⟨q,0,none⟩)] 133)) w.heap.size #[.pointer (some ⟨q,0,none⟩)] 133):=Bx.new _ _ _
 have HR0:Hid (Rm (w.alloc (.cells #[.pointer (some ⟨q,0,none⟩)] 133)) q r):=hR.keep (zab _ _)
 have HB0:Hid (Bt q w (w.alloc (.cells #[.pointer (some ⟨q,0,none⟩)] 133))):=Bt.of_below (zab w _)
 have hdq:w.heap.size≠q:=Nat.ne_of_gt hR.lt
 have hqs:q<w.heap.size:=hR.lt
 clear hR
 go_enter Tryz.func56,Tryz.ntmps56
 go_upto_region 1 with fail
 generalize (w.alloc (.cells #[.pointer (some ⟨q,0,none⟩)] 133))=w1 at *
 have hle:w.heap.size≤w1.heap.size:=HB0.out.size
 have c0:w1.cell? ⟨w.heap.size,0,none⟩=some (.pointer (some ⟨q,0,none⟩)):=HX0.out.cell 0
 go_wp2_with fail
 refine (zpb h1 _ HR0.out hs).mono ?_
 rintro e w2 ⟨pa,pc,rfl,HO2,HR2,HB2⟩
 have HB3:Hid (Bt q w w2):=HB0.out.trans HB2.out
 have HOa:Hid (w2.ownsRow w.heap.size 128 2 (.slice pa N pc) N (zav (pre za9 N r1).2)):=zau HO2.out hle
 clear HB0 HB2 HR0 HX0 c0
 go_wp2_with fail
 go_ret
 exact ⟨_,rfl,⟨pa,pc,rfl,HOa.out⟩,HR2,HB3⟩
theorem zyo {q:Nat} {r r1:Rd} {a:Int} (h1:zah r=(r1,a)) (w:World) (hR:Rm w q r)  : Calls Tryz.prog 56 #[.agg #[.pointer (some ⟨q,0,none⟩)],.int .i64 5] w (MsP q r1 (fun W v=>v=.iface 74 (.agg #[.int .i64 a])) w):=by
 have HX0:Hid (Bx (w.alloc (.cells #[.pointer (some ⟨q,0,none⟩)] 133)) w.heap.size #[.pointer (some ⟨q,0,none⟩)] 133):=Bx.new _ _ _
 have HR0:Hid (Rm (w.alloc (.cells #[.pointer (some ⟨q,0,none⟩)] 133)) q r):=hR.keep (zab _ _)
 have HB0:Hid (Bt q w (w.alloc (.cells #[.pointer (some ⟨q,0,none⟩)] 133))):=Bt.of_below (zab w _)
 have hdq:w.heap.size≠q:=Nat.ne_of_gt hR.lt
 have hqs:q<w.heap.size:=hR.lt
 clear hR
 go_enter Tryz.func56,Tryz.ntmps56
 go_upto_region 1 with fail
 generalize (w.alloc (.cells #[.pointer (some ⟨q,0,none⟩)] 133))=w1 at *
 have hle:w.heap.size≤w1.heap.size:=HB0.out.size
 have c0:w1.cell? ⟨w.heap.size,0,none⟩=some (.pointer (some ⟨q,0,none⟩)):=HX0.out.cell 0
 go_wp2_with fail
 refine (zce h1 _ HR0.out).mono ?_
 rintro e w2 ⟨rfl,HR2,HB2⟩
 have HB3:Hid (Bt q w w2):=HB0.out.trans HB2.out
 clear HB0 HB2 HR0 HX0 c0
 go_wp2_with fail
 go_ret
 exact ⟨_,rfl,rfl,HR2,HB3⟩
theorem zyp {q:Nat} {r r1 r2 r3:Rd} {a b:Int} {c:List UInt8} (h1:zah r=(r1,a)) (h2:zah r1=(r2,b)) (h3:za4 r2 12=(r3,c)) (w:World) (hR:Rm w q r) (hs2:r2.s.length≤281474976710656):Calls Tryz.prog 56 #[.agg #[.pointer (some ⟨q,0,none⟩)],.int .i64 6] w (MsP q r3 (fun W v=>v=.iface 84 (.agg #[.int .i64 a,.string ⟨c.toArray⟩,.int .i64 b])) w):=by
 have HX0:Hid (Bx (w.alloc (.cells #[.pointer (some ⟨q,0,none⟩)] 133)) w.heap.size #[.pointer (some ⟨q,0,none⟩)] 133):=Bx.new _ _ _
 have HR0:Hid (Rm (w.alloc (.cells #[.pointer (some ⟨q,0,none⟩)] 133)) q r):=hR.keep (zab _ _)
 have HB0:Hid (Bt q w (w.alloc (.cells #[.pointer (some ⟨q,0,none⟩)] 133))):=Bt.of_below (zab w _)
 have hdq:w.heap.size≠q:=Nat.ne_of_gt hR.lt
 have hqs:q<w.heap.size:=hR.lt
 clear hR
 go_enter Tryz.func56,Tryz.ntmps56
 go_upto_region 1 with fail
 generalize (w.alloc (.cells #[.pointer (some ⟨q,0,none⟩)] 133))=w1 at *
 go_wp2_with fail
 refine wp_region_held (S:=fun W=>Bx W w.heap.size #[.pointer (some ⟨q,0,none⟩)] 133∧Bt q w W) (by kernel_rfl) ?_
 change wpAnyH _ _ _ _ _ 11 #[false,false,false,false,false,false,false,false,false,false,false] _ w1.drew
 have hS0:Bx w1.drew w.heap.size #[.pointer (some ⟨q,0,none⟩)] 133∧Bt q w w1.drew:=⟨HX0.out,HB0.out.drewN 1⟩
 have hR0:Rm w1.drew q r:=HR0.out.drewN 1
 clear HX0 HB0 HR0
 obtain ⟨v0,hv0⟩:∃v,v=w1.drew:=⟨_,rfl⟩
 rw [← hv0] at hS0 hR0 ⊢
 clear hv0
 refine zae (i:=0) (v:=.pointer (some ⟨w.heap.size,0,none⟩)) rfl (by kernel_rfl) (Or.inl ⟨rfl,fun W hW=>by go_simp⟩) hS0 ?_
 simp only [pu]
 refine zae (i:=1) (v:=.pointer (some ⟨q,0,none⟩)) rfl (by kernel_rfl) (Or.inl ⟨rfl,fun W hW=>by have cj:=(hW.1.cell 0:W.cell? ⟨w.heap.size,0,none⟩=some (.pointer (some ⟨q,0,none⟩)));go_simp⟩) hS0 ?_
 simp only [pu]
 refine zae (i:=3) (v:=.pointer (some ⟨w.heap.size,0,none⟩)) rfl (by kernel_rfl) (Or.inl ⟨rfl,fun W hW=>by go_simp⟩) hS0 ?_
 simp only [pu]
 refine zae (i:=4) (v:=.pointer (some ⟨q,0,none⟩)) rfl (by kernel_rfl) (Or.inl ⟨rfl,fun W hW=>by have cj:=(hW.1.cell 0:W.cell? ⟨w.heap.size,0,none⟩=some (.pointer (some ⟨q,0,none⟩)));go_simp⟩) hS0 ?_
 simp only [pu]
 refine zae (i:=6) (v:=.agg #[.pointer (some ⟨q,0,none⟩)]) rfl (by kernel_rfl) (Or.inl ⟨rfl,fun W hW=>by have cj:=(hW.1.cell 0:W.cell? ⟨w.heap.size,0,none⟩=some (.pointer (some ⟨q,0,none⟩)));go_simp⟩) hS0 ?_
 simp only [pu]
 refine zap (i:=2) rfl (by kernel_rfl) (fun K hK=>?_)
 rw [if_pos (by rfl)]
 go_simp
 refine (zce h1 _ hR0).mono ?_
 rintro e u1 ⟨rfl,HR1,hC1⟩
 refine hK.out _ _ ⟨hS0.1.bt hC1.out hdq,hS0.2.trans hC1.out⟩ (fun hS1=>?_)
 clear hK
 try simp only [pu]
 have hR1:=HR1.out
 clear hS0 hR0 HR1
 refine zap (i:=5) rfl (by kernel_rfl) (fun K hK=>?_)
 rw [if_pos (by rfl)]
 go_simp
 refine (zce h2 _ hR1).mono ?_
 rintro e u2 ⟨rfl,HR2,hC2⟩
 refine hK.out _ _ ⟨hS1.1.bt hC2.out hdq,hS1.2.trans hC2.out⟩ (fun hS2=>?_)
 clear hK
 try simp only [pu]
 have hR2:=HR2.out
 clear hS1 hR1 HR2
 refine zap (i:=7) rfl (by kernel_rfl) (fun K hK=>?_)
 rw [if_pos (by rfl)]
 go_simp
 refine (zf3 h3 _ hR2 hs2).mono ?_
 rintro e u3 ⟨rfl,HR3,hC3⟩
 refine hK.out _ _ ⟨hS2.1.bt hC3.out hdq,hS2.2.trans hC3.out⟩ (fun hS3=>?_)
 clear hK
 try simp only [pu]
 have hR3:=HR3.out
 clear hS2 hR2 HR3
 refine zae (i:=8) (v:=.agg #[.int .i64 a,.string ⟨c.toArray⟩,.int .i64 b]) rfl (by kernel_rfl) (Or.inl ⟨rfl,fun W hW=>by go_simp⟩) hS3 ?_
 simp only [pu]
 refine zae (i:=9) (v:=.iface 84 (.agg #[.int .i64 a,.string ⟨c.toArray⟩,.int .i64 b])) rfl (by kernel_rfl) (Or.inl ⟨rfl,fun W hW=>by go_simp⟩) hS3 ?_
 simp only [pu]
 refine zae (i:=10) (v:=.iface 84 (.agg #[.int .i64 a,.string ⟨c.toArray⟩,.int .i64 b])) rfl (by kernel_rfl) (Or.inl ⟨rfl,fun _ _=>rfl⟩) hS3 ?_
 simp only [pu]
 refine wpAnyH_done (by kernel_rfl) ?_ _
 have HRz:Hid (Rm u3 q r3):=hR3
 have HBz:Hid (Bt q w u3):=hS3.2
 clear hS3 hR3
 go_wp2_with fail
 go_ret
 exact ⟨_,rfl,rfl,HRz,HBz⟩
theorem zyq {q:Nat} {r r1 r2 r3:Rd} {a b:Int} {c:List UInt8} (h1:zah r=(r1,a)) (h2:zah r1=(r2,b)) (h3:za4 r2 12=(r3,c)) (w:World) (hR:Rm w q r) (hs2:r2.s.length≤281474976710656):Calls Tryz.prog 56 #[.agg #[.pointer (some ⟨q,0,none⟩)],.int .i64 7] w (MsP q r3 (fun W v=>v=.iface 86 (.agg #[.int .i64 a,.string ⟨c.toArray⟩,.int .i64 b])) w):=by
 have HX0:Hid (Bx (w.alloc (.cells #[.pointer (some ⟨q,0,none⟩)] 133)) w.heap.size #[.pointer (some ⟨q,0,none⟩)] 133):=Bx.new _ _ _
 have HR0:Hid (Rm (w.alloc (.cells #[.pointer (some ⟨q,0,none⟩)] 133)) q r):=hR.keep (zab _ _)
 have HB0:Hid (Bt q w (w.alloc (.cells #[.pointer (some ⟨q,0,none⟩)] 133))):=Bt.of_below (zab w _)
 have hdq:w.heap.size≠q:=Nat.ne_of_gt hR.lt
 have hqs:q<w.heap.size:=hR.lt
 clear hR
 go_enter Tryz.func56,Tryz.ntmps56
 go_upto_region 1 with fail
 generalize (w.alloc (.cells #[.pointer (some ⟨q,0,none⟩)] 133))=w1 at *
 go_wp2_with fail
 refine wp_region_held (S:=fun W=>Bx W w.heap.size #[.pointer (some ⟨q,0,none⟩)] 133∧Bt q w W) (by kernel_rfl) ?_
 change wpAnyH _ _ _ _ _ 11 #[false,false,false,false,false,false,false,false,false,false,false] _ w1.drew
 have hS0:Bx w1.drew w.heap.size #[.pointer (some ⟨q,0,none⟩)] 133∧Bt q w w1.drew:=⟨HX0.out,HB0.out.drewN 1⟩
 have hR0:Rm w1.drew q r:=HR0.out.drewN 1
 clear HX0 HB0 HR0
 obtain ⟨v0,hv0⟩:∃v,v=w1.drew:=⟨_,rfl⟩
 rw [← hv0] at hS0 hR0 ⊢
 clear hv0
 refine zae (i:=0) (v:=.pointer (some ⟨w.heap.size,0,none⟩)) rfl (by kernel_rfl) (Or.inl ⟨rfl,fun W hW=>by go_simp⟩) hS0 ?_
 simp only [pu]
 refine zae (i:=1) (v:=.pointer (some ⟨q,0,none⟩)) rfl (by kernel_rfl) (Or.inl ⟨rfl,fun W hW=>by have cj:=(hW.1.cell 0:W.cell? ⟨w.heap.size,0,none⟩=some (.pointer (some ⟨q,0,none⟩)));go_simp⟩) hS0 ?_
 simp only [pu]
 refine zae (i:=3) (v:=.pointer (some ⟨w.heap.size,0,none⟩)) rfl (by kernel_rfl) (Or.inl ⟨rfl,fun W hW=>by go_simp⟩) hS0 ?_
 simp only [pu]
 refine zae (i:=4) (v:=.pointer (some ⟨q,0,none⟩)) rfl (by kernel_rfl) (Or.inl ⟨rfl,fun W hW=>by have cj:=(hW.1.cell 0:W.cell? ⟨w.heap.size,0,none⟩=some (.pointer (some ⟨q,0,none⟩)));go_simp⟩) hS0 ?_
 simp only [pu]
 refine zae (i:=6) (v:=.agg #[.pointer (some ⟨q,0,none⟩)]) rfl (by kernel_rfl) (Or.inl ⟨rfl,fun W hW=>by have cj:=(hW.1.cell 0:W.cell? ⟨w.heap.size,0,none⟩=some (.pointer (some ⟨q,0,none⟩)));go_simp⟩) hS0 ?_
 simp only [pu]
 refine zap (i:=2) rfl (by kernel_rfl) (fun K hK=>?_)
 rw [if_pos (by rfl)]
 go_simp
 refine (zce h1 _ hR0).mono ?_
 rintro e u1 ⟨rfl,HR1,hC1⟩
 refine hK.out _ _ ⟨hS0.1.bt hC1.out hdq,hS0.2.trans hC1.out⟩ (fun hS1=>?_)
 clear hK
 try simp only [pu]
 have hR1:=HR1.out
 clear hS0 hR0 HR1
 refine zap (i:=5) rfl (by kernel_rfl) (fun K hK=>?_)
 rw [if_pos (by rfl)]
 go_simp
 refine (zce h2 _ hR1).mono ?_
 rintro e u2 ⟨rfl,HR2,hC2⟩
 refine hK.out _ _ ⟨hS1.1.bt hC2.out hdq,hS1.2.trans hC2.out⟩ (fun hS2=>?_)
 clear hK
 try simp only [pu]
 have hR2:=HR2.out
 clear hS1 hR1 HR2
 refine zap (i:=7) rfl (by kernel_rfl) (fun K hK=>?_)
 rw [if_pos (by rfl)]
 go_simp
 refine (zf3 h3 _ hR2 hs2).mono ?_
 rintro e u3 ⟨rfl,HR3,hC3⟩
 refine hK.out _ _ ⟨hS2.1.bt hC3.out hdq,hS2.2.trans hC3.out⟩ (fun hS3=>?_)
 clear hK
 try simp only [pu]
 have hR3:=HR3.out
 clear hS2 hR2 HR3
 refine zae (i:=8) (v:=.agg #[.int .i64 a,.string ⟨c.toArray⟩,.int .i64 b]) rfl (by kernel_rfl) (Or.inl ⟨rfl,fun W hW=>by go_simp⟩) hS3 ?_
 simp only [pu]
 refine zae (i:=9) (v:=.iface 86 (.agg #[.int .i64 a,.string ⟨c.toArray⟩,.int .i64 b])) rfl (by kernel_rfl) (Or.inl ⟨rfl,fun W hW=>by go_simp⟩) hS3 ?_
 simp only [pu]
 refine zae (i:=10) (v:=.iface 86 (.agg #[.int .i64 a,.string ⟨c.toArray⟩,.int .i64 b])) rfl (by kernel_rfl) (Or.inl ⟨rfl,fun _ _=>rfl⟩) hS3 ?_
 simp only [pu]
 refine wpAnyH_done (by kernel_rfl) ?_ _
 have HRz:Hid (Rm u3 q r3):=hR3
 have HBz:Hid (Bt q w u3):=hS3.2
 clear hS3 hR3
 go_wp2_with fail
 go_ret
 exact ⟨_,rfl,rfl,HRz,HBz⟩
theorem zyr {q:Nat} {r r1 r2 r3 r4 r5 r6 r7 r8:Rd} {a0 a1 a2 a3 a4 a5 a6 a7:Int} (h0:zah r=(r1,a0)) (h1:zah r1=(r2,a1)) (h2:zah r2=(r3,a2)) (h3:zah r3=(r4,a3)) (h4:zah r4=(r5,a4)) (h5:zah r5=(r6,a5)) (h6:zah r6=(r7,a6)) (h7:zah r7=(r8,a7)) (w:World) (hR:Rm w q r)  : Calls Tryz.prog 56 #[.agg #[.pointer (some ⟨q,0,none⟩)],.int .i64 8] w (MsP q r8 (fun W v=>v=.iface 63 (.agg #[.int .i64 a0,.int .i64 a1,.int .i64 a2,.int .i64 a3,.int .i64 a4,.int .i64 a5,.int .i64 a6,.int .i64 a7])) w):=by
 have HX0:Hid (Bx (w.alloc (.cells #[.pointer (some ⟨q,0,none⟩)] 133)) w.heap.size #[.pointer (some ⟨q,0,none⟩)] 133):=Bx.new _ _ _
 have HR0:Hid (Rm (w.alloc (.cells #[.pointer (some ⟨q,0,none⟩)] 133)) q r):=hR.keep (zab _ _)
 have HB0:Hid (Bt q w (w.alloc (.cells #[.pointer (some ⟨q,0,none⟩)] 133))):=Bt.of_below (zab w _)
 have hdq:w.heap.size≠q:=Nat.ne_of_gt hR.lt
 have hqs:q<w.heap.size:=hR.lt
 clear hR
 go_enter Tryz.func56,Tryz.ntmps56
 go_upto_region 1 with fail
 generalize (w.alloc (.cells #[.pointer (some ⟨q,0,none⟩)] 133))=w1 at *
 have hle:w.heap.size≤w1.heap.size:=HB0.out.size
 have c0:w1.cell? ⟨w.heap.size,0,none⟩=some (.pointer (some ⟨q,0,none⟩)):=HX0.out.cell 0
 go_wp2_with fail
 refine (zpa h0 h1 h2 h3 h4 h5 h6 h7 _ HR0.out).mono ?_
 rintro e w2 ⟨rfl,HR2,HB2⟩
 have HB3:Hid (Bt q w w2):=HB0.out.trans HB2.out
 clear HB0 HB2 HR0 HX0 c0
 go_wp2_with fail
 go_ret
 exact ⟨_,rfl,rfl,HR2,HB3⟩
theorem zys {q:Nat} {r r1 r2:Rd} {a b:Int} (h1:zah r=(r1,a)) (h2:zah r1=(r2,b)) (w:World) (hR:Rm w q r)  : Calls Tryz.prog 56 #[.agg #[.pointer (some ⟨q,0,none⟩)],.int .i64 9] w (MsP q r2 (fun W v=>v=.iface 88 (.agg #[.int .i64 a,.int .i64 b])) w):=by
 have HX0:Hid (Bx (w.alloc (.cells #[.pointer (some ⟨q,0,none⟩)] 133)) w.heap.size #[.pointer (some ⟨q,0,none⟩)] 133):=Bx.new _ _ _
 have HR0:Hid (Rm (w.alloc (.cells #[.pointer (some ⟨q,0,none⟩)] 133)) q r):=hR.keep (zab _ _)
 have HB0:Hid (Bt q w (w.alloc (.cells #[.pointer (some ⟨q,0,none⟩)] 133))):=Bt.of_below (zab w _)
 have hdq:w.heap.size≠q:=Nat.ne_of_gt hR.lt
 have hqs:q<w.heap.size:=hR.lt
 clear hR
 go_enter Tryz.func56,Tryz.ntmps56
 go_upto_region 1 with fail
 generalize (w.alloc (.cells #[.pointer (some ⟨q,0,none⟩)] 133))=w1 at *
 go_wp2_with fail
 refine wp_region_held (S:=fun W=>Bx W w.heap.size #[.pointer (some ⟨q,0,none⟩)] 133∧Bt q w W) (by kernel_rfl) ?_
 change wpAnyH _ _ _ _ _ 9 #[false,false,false,false,false,false,false,false,false] _ w1.drew
 have hS0:Bx w1.drew w.heap.size #[.pointer (some ⟨q,0,none⟩)] 133∧Bt q w w1.drew:=⟨HX0.out,HB0.out.drewN 1⟩
 have hR0:Rm w1.drew q r:=HR0.out.drewN 1
 clear HX0 HB0 HR0
 obtain ⟨v0,hv0⟩:∃v,v=w1.drew:=⟨_,rfl⟩
 rw [← hv0] at hS0 hR0 ⊢
 clear hv0
 refine zae (i:=0) (v:=.pointer (some ⟨w.heap.size,0,none⟩)) rfl (by kernel_rfl) (Or.inl ⟨rfl,fun W hW=>by go_simp⟩) hS0 ?_
 simp only [pu]
 refine zae (i:=1) (v:=.pointer (some ⟨q,0,none⟩)) rfl (by kernel_rfl) (Or.inl ⟨rfl,fun W hW=>by have cj:=(hW.1.cell 0:W.cell? ⟨w.heap.size,0,none⟩=some (.pointer (some ⟨q,0,none⟩)));go_simp⟩) hS0 ?_
 simp only [pu]
 refine zae (i:=3) (v:=.pointer (some ⟨w.heap.size,0,none⟩)) rfl (by kernel_rfl) (Or.inl ⟨rfl,fun W hW=>by go_simp⟩) hS0 ?_
 simp only [pu]
 refine zae (i:=4) (v:=.pointer (some ⟨q,0,none⟩)) rfl (by kernel_rfl) (Or.inl ⟨rfl,fun W hW=>by have cj:=(hW.1.cell 0:W.cell? ⟨w.heap.size,0,none⟩=some (.pointer (some ⟨q,0,none⟩)));go_simp⟩) hS0 ?_
 simp only [pu]
 refine zap (i:=2) rfl (by kernel_rfl) (fun K hK=>?_)
 rw [if_pos (by rfl)]
 go_simp
 refine (zce h1 _ hR0).mono ?_
 rintro e u1 ⟨rfl,HR1,hC1⟩
 refine hK.out _ _ ⟨hS0.1.bt hC1.out hdq,hS0.2.trans hC1.out⟩ (fun hS1=>?_)
 clear hK
 try simp only [pu]
 have hR1:=HR1.out
 clear hS0 hR0 HR1
 refine zap (i:=5) rfl (by kernel_rfl) (fun K hK=>?_)
 rw [if_pos (by rfl)]
 go_simp
 refine (zce h2 _ hR1).mono ?_
 rintro e u2 ⟨rfl,HR2,hC2⟩
 refine hK.out _ _ ⟨hS1.1.bt hC2.out hdq,hS1.2.trans hC2.out⟩ (fun hS2=>?_)
 clear hK
 try simp only [pu]
 have hR2:=HR2.out
 clear hS1 hR1 HR2
 refine zae (i:=6) (v:=.agg #[.int .i64 a,.int .i64 b]) rfl (by kernel_rfl) (Or.inl ⟨rfl,fun W hW=>by go_simp⟩) hS2 ?_
 simp only [pu]
 refine zae (i:=7) (v:=.iface 88 (.agg #[.int .i64 a,.int .i64 b])) rfl (by kernel_rfl) (Or.inl ⟨rfl,fun W hW=>by go_simp⟩) hS2 ?_
 simp only [pu]
 refine zae (i:=8) (v:=.iface 88 (.agg #[.int .i64 a,.int .i64 b])) rfl (by kernel_rfl) (Or.inl ⟨rfl,fun _ _=>rfl⟩) hS2 ?_
 simp only [pu]
 refine wpAnyH_done (by kernel_rfl) ?_ _
 have HRz:Hid (Rm u2 q r2):=hR2
 have HBz:Hid (Bt q w u2):=hS2.2
 clear hS2 hR2
 go_wp2_with fail
 go_ret
 exact ⟨_,rfl,rfl,HRz,HBz⟩
theorem zvy {q:Nat} {r r1 r2 r3:Rd} {a b c:Int} (h1:zah r=(r1,a)) (h2:zah r1=(r2,b)) (h3:zah r2=(r3,c)) (w:World) (hR:Rm w q r)  : Calls Tryz.prog 56 #[.agg #[.pointer (some ⟨q,0,none⟩)],.int .i64 10] w (MsP q r3 (fun W v=>v=.iface 90 (.agg #[.int .i64 a,.int .i64 b,.int .i64 c])) w):=by
 have HX0:Hid (Bx (w.alloc (.cells #[.pointer (some ⟨q,0,none⟩)] 133)) w.heap.size #[.pointer (some ⟨q,0,none⟩)] 133):=Bx.new _ _ _
 have HR0:Hid (Rm (w.alloc (.cells #[.pointer (some ⟨q,0,none⟩)] 133)) q r):=hR.keep (zab _ _)
 have HB0:Hid (Bt q w (w.alloc (.cells #[.pointer (some ⟨q,0,none⟩)] 133))):=Bt.of_below (zab w _)
 have hdq:w.heap.size≠q:=Nat.ne_of_gt hR.lt
 have hqs:q<w.heap.size:=hR.lt
 clear hR
 go_enter Tryz.func56,Tryz.ntmps56
 go_upto_region 1 with fail
 generalize (w.alloc (.cells #[.pointer (some ⟨q,0,none⟩)] 133))=w1 at *
 go_wp2_with fail
 refine wp_region_held (S:=fun W=>Bx W w.heap.size #[.pointer (some ⟨q,0,none⟩)] 133∧Bt q w W) (by kernel_rfl) ?_
 change wpAnyH _ _ _ _ _ 12 #[false,false,false,false,false,false,false,false,false,false,false,false] _ w1.drew
 have hS0:Bx w1.drew w.heap.size #[.pointer (some ⟨q,0,none⟩)] 133∧Bt q w w1.drew:=⟨HX0.out,HB0.out.drewN 1⟩
 have hR0:Rm w1.drew q r:=HR0.out.drewN 1
 clear HX0 HB0 HR0
 obtain ⟨v0,hv0⟩:∃v,v=w1.drew:=⟨_,rfl⟩
 rw [← hv0] at hS0 hR0 ⊢
 clear hv0
 refine zae (i:=0) (v:=.pointer (some ⟨w.heap.size,0,none⟩)) rfl (by kernel_rfl) (Or.inl ⟨rfl,fun W hW=>by go_simp⟩) hS0 ?_
 simp only [pu]
 refine zae (i:=1) (v:=.pointer (some ⟨q,0,none⟩)) rfl (by kernel_rfl) (Or.inl ⟨rfl,fun W hW=>by have cj:=(hW.1.cell 0:W.cell? ⟨w.heap.size,0,none⟩=some (.pointer (some ⟨q,0,none⟩)));go_simp⟩) hS0 ?_
 simp only [pu]
 refine zae (i:=3) (v:=.pointer (some ⟨w.heap.size,0,none⟩)) rfl (by kernel_rfl) (Or.inl ⟨rfl,fun W hW=>by go_simp⟩) hS0 ?_
 simp only [pu]
 refine zae (i:=4) (v:=.pointer (some ⟨q,0,none⟩)) rfl (by kernel_rfl) (Or.inl ⟨rfl,fun W hW=>by have cj:=(hW.1.cell 0:W.cell? ⟨w.heap.size,0,none⟩=some (.pointer (some ⟨q,0,none⟩)));go_simp⟩) hS0 ?_
 simp only [pu]
 refine zae (i:=6) (v:=.pointer (some ⟨w.heap.size,0,none⟩)) rfl (by kernel_rfl) (Or.inl ⟨rfl,fun W hW=>by go_simp⟩) hS0 ?_
 simp only [pu]
 refine zae (i:=7) (v:=.pointer (some ⟨q,0,none⟩)) rfl (by kernel_rfl) (Or.inl ⟨rfl,fun W hW=>by have cj:=(hW.1.cell 0:W.cell? ⟨w.heap.size,0,none⟩=some (.pointer (some ⟨q,0,none⟩)));go_simp⟩) hS0 ?_
 simp only [pu]
 refine zap (i:=2) rfl (by kernel_rfl) (fun K hK=>?_)
 rw [if_pos (by rfl)]
 go_simp
 refine (zce h1 _ hR0).mono ?_
 rintro e u1 ⟨rfl,HR1,hC1⟩
 refine hK.out _ _ ⟨hS0.1.bt hC1.out hdq,hS0.2.trans hC1.out⟩ (fun hS1=>?_)
 clear hK
 try simp only [pu]
 have hR1:=HR1.out
 clear hS0 hR0 HR1
 refine zap (i:=5) rfl (by kernel_rfl) (fun K hK=>?_)
 rw [if_pos (by rfl)]
 go_simp
 refine (zce h2 _ hR1).mono ?_
 rintro e u2 ⟨rfl,HR2,hC2⟩
 refine hK.out _ _ ⟨hS1.1.bt hC2.out hdq,hS1.2.trans hC2.out⟩ (fun hS2=>?_)
 clear hK
 try simp only [pu]
 have hR2:=HR2.out
 clear hS1 hR1 HR2
 refine zap (i:=8) rfl (by kernel_rfl) (fun K hK=>?_)
 rw [if_pos (by rfl)]
 go_simp
 refine (zce h3 _ hR2).mono ?_
 rintro e u3 ⟨rfl,HR3,hC3⟩
 refine hK.out _ _ ⟨hS2.1.bt hC3.out hdq,hS2.2.trans hC3.out⟩ (fun hS3=>?_)
 clear hK
 try simp only [pu]
 have hR3:=HR3.out
 clear hS2 hR2 HR3
 refine zae (i:=9) (v:=.agg #[.int .i64 a,.int .i64 b,.int .i64 c]) rfl (by kernel_rfl) (Or.inl ⟨rfl,fun W hW=>by go_simp⟩) hS3 ?_
 simp only [pu]
 refine zae (i:=10) (v:=.iface 90 (.agg #[.int .i64 a,.int .i64 b,.int .i64 c])) rfl (by kernel_rfl) (Or.inl ⟨rfl,fun W hW=>by go_simp⟩) hS3 ?_
 simp only [pu]
 refine zae (i:=11) (v:=.iface 90 (.agg #[.int .i64 a,.int .i64 b,.int .i64 c])) rfl (by kernel_rfl) (Or.inl ⟨rfl,fun _ _=>rfl⟩) hS3 ?_
 simp only [pu]
 refine wpAnyH_done (by kernel_rfl) ?_ _
 have HRz:Hid (Rm u3 q r3):=hR3
 have HBz:Hid (Bt q w u3):=hS3.2
 clear hS3 hR3
 go_wp2_with fail
 go_ret
 exact ⟨_,rfl,rfl,HRz,HBz⟩
theorem zvz {q:Nat} {r r1 r2 r3 r4 r5:Rd} {a b d:Int} {c:List UInt8} {N:Nat} (h1:zah r=(r1,a)) (h2:zah r1=(r2,b)) (h3:za4 r2 12=(r3,c)) (h4:zah r3=(r4,d)) (h5:zai r4 64=(r5,N)) (w:World) (hR:Rm w q r) (hs2:r2.s.length≤281474976710656) (hs4:r4.s.length≤281474976710656):Calls Tryz.prog 56 #[.agg #[.pointer (some ⟨q,0,none⟩)],.int .i64 11] w (MsP q (pre za9 N r5).1 (fun W v=>∃ia ic,v=.iface 67 (.agg #[.int .i64 a,.int .i64 b,.string ⟨c.toArray⟩,.int .i64 d,.slice ia N ic])∧W.ownsRow w.heap.size 32 2 (.slice ia N ic) N (zav (pre za9 N r5).2)) w):=by
 have HX0:Hid (Bx (w.alloc (.cells #[.pointer (some ⟨q,0,none⟩)] 133)) w.heap.size #[.pointer (some ⟨q,0,none⟩)] 133):=Bx.new _ _ _
 have HR0:Hid (Rm (w.alloc (.cells #[.pointer (some ⟨q,0,none⟩)] 133)) q r):=hR.keep (zab _ _)
 have HB0:Hid (Bt q w (w.alloc (.cells #[.pointer (some ⟨q,0,none⟩)] 133))):=Bt.of_below (zab w _)
 have hdq:w.heap.size≠q:=Nat.ne_of_gt hR.lt
 have hqs:q<w.heap.size:=hR.lt
 clear hR
 go_enter Tryz.func56,Tryz.ntmps56
 go_upto_region 1 with fail
 generalize (w.alloc (.cells #[.pointer (some ⟨q,0,none⟩)] 133))=w1 at *
 go_wp2_with fail
 refine wp_region_held (S:=fun W=>Bx W w.heap.size #[.pointer (some ⟨q,0,none⟩)] 133∧Bt q w W) (by kernel_rfl) ?_
 change wpAnyH _ _ _ _ _ 13 #[false,false,false,false,false,false,false,false,false,false,false,false,false] _ w1.drew
 have hS0:Bx w1.drew w.heap.size #[.pointer (some ⟨q,0,none⟩)] 133∧Bt q w w1.drew:=⟨HX0.out,HB0.out.drewN 1⟩
 have hR0:Rm w1.drew q r:=HR0.out.drewN 1
 clear HX0 HB0 HR0
 obtain ⟨v0,hv0⟩:∃v,v=w1.drew:=⟨_,rfl⟩
 rw [← hv0] at hS0 hR0 ⊢
 clear hv0
 refine zae (i:=0) (v:=.pointer (some ⟨w.heap.size,0,none⟩)) rfl (by kernel_rfl) (Or.inl ⟨rfl,fun W hW=>by go_simp⟩) hS0 ?_
 simp only [pu]
 refine zae (i:=1) (v:=.pointer (some ⟨q,0,none⟩)) rfl (by kernel_rfl) (Or.inl ⟨rfl,fun W hW=>by have cj:=(hW.1.cell 0:W.cell? ⟨w.heap.size,0,none⟩=some (.pointer (some ⟨q,0,none⟩)));go_simp⟩) hS0 ?_
 simp only [pu]
 refine zae (i:=3) (v:=.pointer (some ⟨w.heap.size,0,none⟩)) rfl (by kernel_rfl) (Or.inl ⟨rfl,fun W hW=>by go_simp⟩) hS0 ?_
 simp only [pu]
 refine zae (i:=4) (v:=.pointer (some ⟨q,0,none⟩)) rfl (by kernel_rfl) (Or.inl ⟨rfl,fun W hW=>by have cj:=(hW.1.cell 0:W.cell? ⟨w.heap.size,0,none⟩=some (.pointer (some ⟨q,0,none⟩)));go_simp⟩) hS0 ?_
 simp only [pu]
 refine zae (i:=6) (v:=.agg #[.pointer (some ⟨q,0,none⟩)]) rfl (by kernel_rfl) (Or.inl ⟨rfl,fun W hW=>by have cj:=(hW.1.cell 0:W.cell? ⟨w.heap.size,0,none⟩=some (.pointer (some ⟨q,0,none⟩)));go_simp⟩) hS0 ?_
 simp only [pu]
 refine zae (i:=8) (v:=.agg #[.pointer (some ⟨q,0,none⟩)]) rfl (by kernel_rfl) (Or.inl ⟨rfl,fun W hW=>by have cj:=(hW.1.cell 0:W.cell? ⟨w.heap.size,0,none⟩=some (.pointer (some ⟨q,0,none⟩)));go_simp⟩) hS0 ?_
 simp only [pu]
 refine zap (i:=2) rfl (by kernel_rfl) (fun K hK=>?_)
 rw [if_pos (by rfl)]
 go_simp
 refine (zce h1 _ hR0).mono ?_
 rintro e u1 ⟨rfl,HR1,hC1⟩
 refine hK.out _ _ ⟨hS0.1.bt hC1.out hdq,hS0.2.trans hC1.out⟩ (fun hS1=>?_)
 clear hK
 try simp only [pu]
 have hR1:=HR1.out
 clear hS0 hR0 HR1
 refine zap (i:=5) rfl (by kernel_rfl) (fun K hK=>?_)
 rw [if_pos (by rfl)]
 go_simp
 refine (zce h2 _ hR1).mono ?_
 rintro e u2 ⟨rfl,HR2,hC2⟩
 refine hK.out _ _ ⟨hS1.1.bt hC2.out hdq,hS1.2.trans hC2.out⟩ (fun hS2=>?_)
 clear hK
 try simp only [pu]
 have hR2:=HR2.out
 clear hS1 hR1 HR2
 refine zap (i:=7) rfl (by kernel_rfl) (fun K hK=>?_)
 rw [if_pos (by rfl)]
 go_simp
 refine (zs4 h3 h4 _ hR2 hs2).mono ?_
 rintro e u3 ⟨rfl,HR3,hC3⟩
 refine hK.out _ _ ⟨hS2.1.bt hC3.out hdq,hS2.2.trans hC3.out⟩ (fun hS3=>?_)
 clear hK
 try simp only [pu]
 have hR3:=HR3.out
 clear hS2 hR2 HR3
 refine zap (i:=9) rfl (by kernel_rfl) (fun K hK=>?_)
 rw [if_pos (by rfl)]
 go_simp
 refine (zvx h5 _ hR3 hs4).mono ?_
 rintro e u4 ⟨ia,ic,rfl,HO4,HR4,hC4⟩
 refine hK.out _ _ ⟨hS3.1.bt hC4.out hdq,hS3.2.trans hC4.out⟩ (fun hS4=>?_)
 clear hK
 try simp only [pu]
 have hR4:=HR4.out
 have HO4:=HO4.out
 have hq4:q<u3.heap.size:=hR3.lt
 have hle3:w.heap.size≤u3.heap.size:=hS3.2.size
 clear hS3 hR3 HR4
 refine zae (i:=10) (v:=.agg #[.int .i64 a,.int .i64 b,.string ⟨c.toArray⟩,.int .i64 d,.slice ia N ic]) rfl (by kernel_rfl) (Or.inl ⟨rfl,fun W hW=>by go_simp⟩) hS4 ?_
 simp only [pu]
 refine zae (i:=11) (v:=.iface 67 (.agg #[.int .i64 a,.int .i64 b,.string ⟨c.toArray⟩,.int .i64 d,.slice ia N ic])) rfl (by kernel_rfl) (Or.inl ⟨rfl,fun W hW=>by go_simp⟩) hS4 ?_
 simp only [pu]
 refine zae (i:=12) (v:=.iface 67 (.agg #[.int .i64 a,.int .i64 b,.string ⟨c.toArray⟩,.int .i64 d,.slice ia N ic])) rfl (by kernel_rfl) (Or.inl ⟨rfl,fun _ _=>rfl⟩) hS4 ?_
 simp only [pu]
 refine wpAnyH_done (by kernel_rfl) ?_ _
 have HOa:Hid (u4.ownsRow w.heap.size 32 2 (.slice ia N ic) N (zav (pre za9 N r5).2)):=zau HO4 hle3
 have HRz:Hid (Rm u4 q (pre za9 N r5).1):=hR4
 have HBz:Hid (Bt q w u4):=hS4.2
 clear hS4 hR4
 go_wp2_with fail
 go_ret
 exact ⟨_,rfl,⟨ia,ic,rfl,HOa.out⟩,HRz,HBz⟩
theorem zv0 {q:Nat} {r r1 r2 r3:Rd} {a b:Int} {c:Bool} (h1:zah r=(r1,a)) (h2:zah r1=(r2,b)) (h3:zbn r2=(r3,c)) (w:World) (hR:Rm w q r)  : Calls Tryz.prog 56 #[.agg #[.pointer (some ⟨q,0,none⟩)],.int .i64 12] w (MsP q r3 (fun W v=>v=.iface 92 (.agg #[.int .i64 a,.int .i64 b,.bool c])) w):=by
 have HX0:Hid (Bx (w.alloc (.cells #[.pointer (some ⟨q,0,none⟩)] 133)) w.heap.size #[.pointer (some ⟨q,0,none⟩)] 133):=Bx.new _ _ _
 have HR0:Hid (Rm (w.alloc (.cells #[.pointer (some ⟨q,0,none⟩)] 133)) q r):=hR.keep (zab _ _)
 have HB0:Hid (Bt q w (w.alloc (.cells #[.pointer (some ⟨q,0,none⟩)] 133))):=Bt.of_below (zab w _)
 have hdq:w.heap.size≠q:=Nat.ne_of_gt hR.lt
 have hqs:q<w.heap.size:=hR.lt
 clear hR
 go_enter Tryz.func56,Tryz.ntmps56
 go_upto_region 1 with fail
 generalize (w.alloc (.cells #[.pointer (some ⟨q,0,none⟩)] 133))=w1 at *
 go_wp2_with fail
 refine wp_region_held (S:=fun W=>Bx W w.heap.size #[.pointer (some ⟨q,0,none⟩)] 133∧Bt q w W) (by kernel_rfl) ?_
 change wpAnyH _ _ _ _ _ 12 #[false,false,false,false,false,false,false,false,false,false,false,false] _ w1.drew
 have hS0:Bx w1.drew w.heap.size #[.pointer (some ⟨q,0,none⟩)] 133∧Bt q w w1.drew:=⟨HX0.out,HB0.out.drewN 1⟩
 have hR0:Rm w1.drew q r:=HR0.out.drewN 1
 clear HX0 HB0 HR0
 obtain ⟨v0,hv0⟩:∃v,v=w1.drew:=⟨_,rfl⟩
 rw [← hv0] at hS0 hR0 ⊢
 clear hv0
 refine zae (i:=0) (v:=.pointer (some ⟨w.heap.size,0,none⟩)) rfl (by kernel_rfl) (Or.inl ⟨rfl,fun W hW=>by go_simp⟩) hS0 ?_
 simp only [pu]
 refine zae (i:=1) (v:=.pointer (some ⟨q,0,none⟩)) rfl (by kernel_rfl) (Or.inl ⟨rfl,fun W hW=>by have cj:=(hW.1.cell 0:W.cell? ⟨w.heap.size,0,none⟩=some (.pointer (some ⟨q,0,none⟩)));go_simp⟩) hS0 ?_
 simp only [pu]
 refine zae (i:=3) (v:=.pointer (some ⟨w.heap.size,0,none⟩)) rfl (by kernel_rfl) (Or.inl ⟨rfl,fun W hW=>by go_simp⟩) hS0 ?_
 simp only [pu]
 refine zae (i:=4) (v:=.pointer (some ⟨q,0,none⟩)) rfl (by kernel_rfl) (Or.inl ⟨rfl,fun W hW=>by have cj:=(hW.1.cell 0:W.cell? ⟨w.heap.size,0,none⟩=some (.pointer (some ⟨q,0,none⟩)));go_simp⟩) hS0 ?_
 simp only [pu]
 refine zae (i:=6) (v:=.pointer (some ⟨w.heap.size,0,none⟩)) rfl (by kernel_rfl) (Or.inl ⟨rfl,fun W hW=>by go_simp⟩) hS0 ?_
 simp only [pu]
 refine zae (i:=7) (v:=.pointer (some ⟨q,0,none⟩)) rfl (by kernel_rfl) (Or.inl ⟨rfl,fun W hW=>by have cj:=(hW.1.cell 0:W.cell? ⟨w.heap.size,0,none⟩=some (.pointer (some ⟨q,0,none⟩)));go_simp⟩) hS0 ?_
 simp only [pu]
 refine zap (i:=2) rfl (by kernel_rfl) (fun K hK=>?_)
 rw [if_pos (by rfl)]
 go_simp
 refine (zce h1 _ hR0).mono ?_
 rintro e u1 ⟨rfl,HR1,hC1⟩
 refine hK.out _ _ ⟨hS0.1.bt hC1.out hdq,hS0.2.trans hC1.out⟩ (fun hS1=>?_)
 clear hK
 try simp only [pu]
 have hR1:=HR1.out
 clear hS0 hR0 HR1
 refine zap (i:=5) rfl (by kernel_rfl) (fun K hK=>?_)
 rw [if_pos (by rfl)]
 go_simp
 refine (zce h2 _ hR1).mono ?_
 rintro e u2 ⟨rfl,HR2,hC2⟩
 refine hK.out _ _ ⟨hS1.1.bt hC2.out hdq,hS1.2.trans hC2.out⟩ (fun hS2=>?_)
 clear hK
 try simp only [pu]
 have hR2:=HR2.out
 clear hS1 hR1 HR2
 refine zap (i:=8) rfl (by kernel_rfl) (fun K hK=>?_)
 rw [if_pos (by rfl)]
 go_simp
 refine (zvv h3 _ hR2).mono ?_
 rintro e u3 ⟨rfl,HR3,hC3⟩
 refine hK.out _ _ ⟨hS2.1.bt hC3.out hdq,hS2.2.trans hC3.out⟩ (fun hS3=>?_)
 clear hK
 try simp only [pu]
 have hR3:=HR3.out
 clear hS2 hR2 HR3
 refine zae (i:=9) (v:=.agg #[.int .i64 a,.int .i64 b,.bool c]) rfl (by kernel_rfl) (Or.inl ⟨rfl,fun W hW=>by go_simp⟩) hS3 ?_
 simp only [pu]
 refine zae (i:=10) (v:=.iface 92 (.agg #[.int .i64 a,.int .i64 b,.bool c])) rfl (by kernel_rfl) (Or.inl ⟨rfl,fun W hW=>by go_simp⟩) hS3 ?_
 simp only [pu]
 refine zae (i:=11) (v:=.iface 92 (.agg #[.int .i64 a,.int .i64 b,.bool c])) rfl (by kernel_rfl) (Or.inl ⟨rfl,fun _ _=>rfl⟩) hS3 ?_
 simp only [pu]
 refine wpAnyH_done (by kernel_rfl) ?_ _
 have HRz:Hid (Rm u3 q r3):=hR3
 have HBz:Hid (Bt q w u3):=hS3.2
 clear hS3 hR3
 go_wp2_with fail
 go_ret
 exact ⟨_,rfl,rfl,HRz,HBz⟩
theorem zv1 {q:Nat} {r r1:Rd} {a:Int} (h1:zah r=(r1,a)) (w:World) (hR:Rm w q r)  : Calls Tryz.prog 56 #[.agg #[.pointer (some ⟨q,0,none⟩)],.int .i64 13] w (MsP q r1 (fun W v=>v=.iface 94 (.agg #[.int .i64 a])) w):=by
 have HX0:Hid (Bx (w.alloc (.cells #[.pointer (some ⟨q,0,none⟩)] 133)) w.heap.size #[.pointer (some ⟨q,0,none⟩)] 133):=Bx.new _ _ _
 have HR0:Hid (Rm (w.alloc (.cells #[.pointer (some ⟨q,0,none⟩)] 133)) q r):=hR.keep (zab _ _)
 have HB0:Hid (Bt q w (w.alloc (.cells #[.pointer (some ⟨q,0,none⟩)] 133))):=Bt.of_below (zab w _)
 have hdq:w.heap.size≠q:=Nat.ne_of_gt hR.lt
 have hqs:q<w.heap.size:=hR.lt
 clear hR
 go_enter Tryz.func56,Tryz.ntmps56
 go_upto_region 1 with fail
 generalize (w.alloc (.cells #[.pointer (some ⟨q,0,none⟩)] 133))=w1 at *
 have hle:w.heap.size≤w1.heap.size:=HB0.out.size
 have c0:w1.cell? ⟨w.heap.size,0,none⟩=some (.pointer (some ⟨q,0,none⟩)):=HX0.out.cell 0
 go_wp2_with fail
 refine (zce h1 _ HR0.out).mono ?_
 rintro e w2 ⟨rfl,HR2,HB2⟩
 have HB3:Hid (Bt q w w2):=HB0.out.trans HB2.out
 clear HB0 HB2 HR0 HX0 c0
 go_wp2_with fail
 go_ret
 exact ⟨_,rfl,rfl,HR2,HB3⟩
theorem zv2 {q:Nat} {r r1 r2:Rd} {a b:Int} (h1:zah r=(r1,a)) (h2:zah r1=(r2,b)) (w:World) (hR:Rm w q r)  : Calls Tryz.prog 56 #[.agg #[.pointer (some ⟨q,0,none⟩)],.int .i64 14] w (MsP q r2 (fun W v=>v=.iface 96 (.agg #[.int .i64 a,.int .i64 b])) w):=by
 have HX0:Hid (Bx (w.alloc (.cells #[.pointer (some ⟨q,0,none⟩)] 133)) w.heap.size #[.pointer (some ⟨q,0,none⟩)] 133):=Bx.new _ _ _
 have HR0:Hid (Rm (w.alloc (.cells #[.pointer (some ⟨q,0,none⟩)] 133)) q r):=hR.keep (zab _ _)
 have HB0:Hid (Bt q w (w.alloc (.cells #[.pointer (some ⟨q,0,none⟩)] 133))):=Bt.of_below (zab w _)
 have hdq:w.heap.size≠q:=Nat.ne_of_gt hR.lt
 have hqs:q<w.heap.size:=hR.lt
 clear hR
 go_enter Tryz.func56,Tryz.ntmps56
 go_upto_region 1 with fail
 generalize (w.alloc (.cells #[.pointer (some ⟨q,0,none⟩)] 133))=w1 at *
 go_wp2_with fail
 refine wp_region_held (S:=fun W=>Bx W w.heap.size #[.pointer (some ⟨q,0,none⟩)] 133∧Bt q w W) (by kernel_rfl) ?_
 change wpAnyH _ _ _ _ _ 9 #[false,false,false,false,false,false,false,false,false] _ w1.drew
 have hS0:Bx w1.drew w.heap.size #[.pointer (some ⟨q,0,none⟩)] 133∧Bt q w w1.drew:=⟨HX0.out,HB0.out.drewN 1⟩
 have hR0:Rm w1.drew q r:=HR0.out.drewN 1
 clear HX0 HB0 HR0
 obtain ⟨v0,hv0⟩:∃v,v=w1.drew:=⟨_,rfl⟩
 rw [← hv0] at hS0 hR0 ⊢
 clear hv0
 refine zae (i:=0) (v:=.pointer (some ⟨w.heap.size,0,none⟩)) rfl (by kernel_rfl) (Or.inl ⟨rfl,fun W hW=>by go_simp⟩) hS0 ?_
 simp only [pu]
 refine zae (i:=1) (v:=.pointer (some ⟨q,0,none⟩)) rfl (by kernel_rfl) (Or.inl ⟨rfl,fun W hW=>by have cj:=(hW.1.cell 0:W.cell? ⟨w.heap.size,0,none⟩=some (.pointer (some ⟨q,0,none⟩)));go_simp⟩) hS0 ?_
 simp only [pu]
 refine zae (i:=3) (v:=.pointer (some ⟨w.heap.size,0,none⟩)) rfl (by kernel_rfl) (Or.inl ⟨rfl,fun W hW=>by go_simp⟩) hS0 ?_
 simp only [pu]
 refine zae (i:=4) (v:=.pointer (some ⟨q,0,none⟩)) rfl (by kernel_rfl) (Or.inl ⟨rfl,fun W hW=>by have cj:=(hW.1.cell 0:W.cell? ⟨w.heap.size,0,none⟩=some (.pointer (some ⟨q,0,none⟩)));go_simp⟩) hS0 ?_
 simp only [pu]
 refine zap (i:=2) rfl (by kernel_rfl) (fun K hK=>?_)
 rw [if_pos (by rfl)]
 go_simp
 refine (zce h1 _ hR0).mono ?_
 rintro e u1 ⟨rfl,HR1,hC1⟩
 refine hK.out _ _ ⟨hS0.1.bt hC1.out hdq,hS0.2.trans hC1.out⟩ (fun hS1=>?_)
 clear hK
 try simp only [pu]
 have hR1:=HR1.out
 clear hS0 hR0 HR1
 refine zap (i:=5) rfl (by kernel_rfl) (fun K hK=>?_)
 rw [if_pos (by rfl)]
 go_simp
 refine (zce h2 _ hR1).mono ?_
 rintro e u2 ⟨rfl,HR2,hC2⟩
 refine hK.out _ _ ⟨hS1.1.bt hC2.out hdq,hS1.2.trans hC2.out⟩ (fun hS2=>?_)
 clear hK
 try simp only [pu]
 have hR2:=HR2.out
 clear hS1 hR1 HR2
 refine zae (i:=6) (v:=.agg #[.int .i64 a,.int .i64 b]) rfl (by kernel_rfl) (Or.inl ⟨rfl,fun W hW=>by go_simp⟩) hS2 ?_
 simp only [pu]
 refine zae (i:=7) (v:=.iface 96 (.agg #[.int .i64 a,.int .i64 b])) rfl (by kernel_rfl) (Or.inl ⟨rfl,fun W hW=>by go_simp⟩) hS2 ?_
 simp only [pu]
 refine zae (i:=8) (v:=.iface 96 (.agg #[.int .i64 a,.int .i64 b])) rfl (by kernel_rfl) (Or.inl ⟨rfl,fun _ _=>rfl⟩) hS2 ?_
 simp only [pu]
 refine wpAnyH_done (by kernel_rfl) ?_ _
 have HRz:Hid (Rm u2 q r2):=hR2
 have HBz:Hid (Bt q w u2):=hS2.2
 clear hS2 hR2
 go_wp2_with fail
 go_ret
 exact ⟨_,rfl,rfl,HRz,HBz⟩
theorem zv3 {q:Nat} {r r1 r2 r3:Rd} {a b c:Int} (h1:zah r=(r1,a)) (h2:zah r1=(r2,b)) (h3:zah r2=(r3,c)) (w:World) (hR:Rm w q r)  : Calls Tryz.prog 56 #[.agg #[.pointer (some ⟨q,0,none⟩)],.int .i64 15] w (MsP q r3 (fun W v=>v=.iface 98 (.agg #[.int .i64 a,.int .i64 b,.int .i64 c])) w):=by
 have HX0:Hid (Bx (w.alloc (.cells #[.pointer (some ⟨q,0,none⟩)] 133)) w.heap.size #[.pointer (some ⟨q,0,none⟩)] 133):=Bx.new _ _ _
 have HR0:Hid (Rm (w.alloc (.cells #[.pointer (some ⟨q,0,none⟩)] 133)) q r):=hR.keep (zab _ _)
 have HB0:Hid (Bt q w (w.alloc (.cells #[.pointer (some ⟨q,0,none⟩)] 133))):=Bt.of_below (zab w _)
 have hdq:w.heap.size≠q:=Nat.ne_of_gt hR.lt
 have hqs:q<w.heap.size:=hR.lt
 clear hR
 go_enter Tryz.func56,Tryz.ntmps56
 go_upto_region 1 with fail
 generalize (w.alloc (.cells #[.pointer (some ⟨q,0,none⟩)] 133))=w1 at *
 go_wp2_with fail
 refine wp_region_held (S:=fun W=>Bx W w.heap.size #[.pointer (some ⟨q,0,none⟩)] 133∧Bt q w W) (by kernel_rfl) ?_
 change wpAnyH _ _ _ _ _ 12 #[false,false,false,false,false,false,false,false,false,false,false,false] _ w1.drew
 have hS0:Bx w1.drew w.heap.size #[.pointer (some ⟨q,0,none⟩)] 133∧Bt q w w1.drew:=⟨HX0.out,HB0.out.drewN 1⟩
 have hR0:Rm w1.drew q r:=HR0.out.drewN 1
 clear HX0 HB0 HR0
 obtain ⟨v0,hv0⟩:∃v,v=w1.drew:=⟨_,rfl⟩
 rw [← hv0] at hS0 hR0 ⊢
 clear hv0
 refine zae (i:=0) (v:=.pointer (some ⟨w.heap.size,0,none⟩)) rfl (by kernel_rfl) (Or.inl ⟨rfl,fun W hW=>by go_simp⟩) hS0 ?_
 simp only [pu]
 refine zae (i:=1) (v:=.pointer (some ⟨q,0,none⟩)) rfl (by kernel_rfl) (Or.inl ⟨rfl,fun W hW=>by have cj:=(hW.1.cell 0:W.cell? ⟨w.heap.size,0,none⟩=some (.pointer (some ⟨q,0,none⟩)));go_simp⟩) hS0 ?_
 simp only [pu]
 refine zae (i:=3) (v:=.pointer (some ⟨w.heap.size,0,none⟩)) rfl (by kernel_rfl) (Or.inl ⟨rfl,fun W hW=>by go_simp⟩) hS0 ?_
 simp only [pu]
 refine zae (i:=4) (v:=.pointer (some ⟨q,0,none⟩)) rfl (by kernel_rfl) (Or.inl ⟨rfl,fun W hW=>by have cj:=(hW.1.cell 0:W.cell? ⟨w.heap.size,0,none⟩=some (.pointer (some ⟨q,0,none⟩)));go_simp⟩) hS0 ?_
 simp only [pu]
 refine zae (i:=6) (v:=.pointer (some ⟨w.heap.size,0,none⟩)) rfl (by kernel_rfl) (Or.inl ⟨rfl,fun W hW=>by go_simp⟩) hS0 ?_
 simp only [pu]
 refine zae (i:=7) (v:=.pointer (some ⟨q,0,none⟩)) rfl (by kernel_rfl) (Or.inl ⟨rfl,fun W hW=>by have cj:=(hW.1.cell 0:W.cell? ⟨w.heap.size,0,none⟩=some (.pointer (some ⟨q,0,none⟩)));go_simp⟩) hS0 ?_
 simp only [pu]
 refine zap (i:=2) rfl (by kernel_rfl) (fun K hK=>?_)
 rw [if_pos (by rfl)]
 go_simp
 refine (zce h1 _ hR0).mono ?_
 rintro e u1 ⟨rfl,HR1,hC1⟩
 refine hK.out _ _ ⟨hS0.1.bt hC1.out hdq,hS0.2.trans hC1.out⟩ (fun hS1=>?_)
 clear hK
 try simp only [pu]
 have hR1:=HR1.out
 clear hS0 hR0 HR1
 refine zap (i:=5) rfl (by kernel_rfl) (fun K hK=>?_)
 rw [if_pos (by rfl)]
 go_simp
 refine (zce h2 _ hR1).mono ?_
 rintro e u2 ⟨rfl,HR2,hC2⟩
 refine hK.out _ _ ⟨hS1.1.bt hC2.out hdq,hS1.2.trans hC2.out⟩ (fun hS2=>?_)
 clear hK
 try simp only [pu]
 have hR2:=HR2.out
 clear hS1 hR1 HR2
 refine zap (i:=8) rfl (by kernel_rfl) (fun K hK=>?_)
 rw [if_pos (by rfl)]
 go_simp
 refine (zce h3 _ hR2).mono ?_
 rintro e u3 ⟨rfl,HR3,hC3⟩
 refine hK.out _ _ ⟨hS2.1.bt hC3.out hdq,hS2.2.trans hC3.out⟩ (fun hS3=>?_)
 clear hK
 try simp only [pu]
 have hR3:=HR3.out
 clear hS2 hR2 HR3
 refine zae (i:=9) (v:=.agg #[.int .i64 a,.int .i64 b,.int .i64 c]) rfl (by kernel_rfl) (Or.inl ⟨rfl,fun W hW=>by go_simp⟩) hS3 ?_
 simp only [pu]
 refine zae (i:=10) (v:=.iface 98 (.agg #[.int .i64 a,.int .i64 b,.int .i64 c])) rfl (by kernel_rfl) (Or.inl ⟨rfl,fun W hW=>by go_simp⟩) hS3 ?_
 simp only [pu]
 refine zae (i:=11) (v:=.iface 98 (.agg #[.int .i64 a,.int .i64 b,.int .i64 c])) rfl (by kernel_rfl) (Or.inl ⟨rfl,fun _ _=>rfl⟩) hS3 ?_
 simp only [pu]
 refine wpAnyH_done (by kernel_rfl) ?_ _
 have HRz:Hid (Rm u3 q r3):=hR3
 have HBz:Hid (Bt q w u3):=hS3.2
 clear hS3 hR3
 go_wp2_with fail
 go_ret
 exact ⟨_,rfl,rfl,HRz,HBz⟩
theorem zxx {q:Nat} {r:Rd} (k:Int) (hk:inn k 1 15=false) (w:World) (hR:Rm w q r):Calls Tryz.prog 56 #[.agg #[.pointer (some ⟨q,0,none⟩)],.int .i64 k] w (MsP q r (fun W v=>v=.nilIface) w):=by
 have hk2:¬ (1≤k∧k≤15):=by unfold inn at hk;rw [Bool.and_eq_false_iff,decide_eq_false_iff_not,decide_eq_false_iff_not] at hk;omega
 have q1:(k==1)=false:=by rw [beq_eq_false_iff_ne];omega
 have q2:(k==2)=false:=by rw [beq_eq_false_iff_ne];omega
 have q3:(k==3)=false:=by rw [beq_eq_false_iff_ne];omega
 have q4:(k==4)=false:=by rw [beq_eq_false_iff_ne];omega
 have q5:(k==5)=false:=by rw [beq_eq_false_iff_ne];omega
 have q6:(k==6)=false:=by rw [beq_eq_false_iff_ne];omega
 have q7:(k==7)=false:=by rw [beq_eq_false_iff_ne];omega
 have q8:(k==8)=false:=by rw [beq_eq_false_iff_ne];omega
 have q9:(k==9)=false:=by rw [beq_eq_false_iff_ne];omega
 have q10:(k==10)=false:=by rw [beq_eq_false_iff_ne];omega
 have q11:(k==11)=false:=by rw [beq_eq_false_iff_ne];omega
 have q12:(k==12)=false:=by rw [beq_eq_false_iff_ne];omega
 have q13:(k==13)=false:=by rw [beq_eq_false_iff_ne];omega
 have q14:(k==14)=false:=by rw [beq_eq_false_iff_ne];omega
 have q15:(k==15)=false:=by rw [beq_eq_false_iff_ne];omega
 clear hk hk2
 have HX0:Hid (Bx (w.alloc (.cells #[.pointer (some ⟨q,0,none⟩)] 133)) w.heap.size #[.pointer (some ⟨q,0,none⟩)] 133):=Bx.new _ _ _
 have HR0:Hid (Rm (w.alloc (.cells #[.pointer (some ⟨q,0,none⟩)] 133)) q r):=hR.keep (zab _ _)
 have HB0:Hid (Bt q w (w.alloc (.cells #[.pointer (some ⟨q,0,none⟩)] 133))):=Bt.of_below (zab w _)
 have hdq:w.heap.size≠q:=Nat.ne_of_gt hR.lt
 have hqs:q<w.heap.size:=hR.lt
 clear hR
 go_enter Tryz.func56,Tryz.ntmps56
 go_upto_region 1 with fail
 generalize (w.alloc (.cells #[.pointer (some ⟨q,0,none⟩)] 133))=w1 at *
 go_wp2_with fail
 go_ret
 exact ⟨_,rfl,rfl,HR0,HB0⟩
structure Own (B:Nat) (W:World) (m:Mg) (pa ia ca ba:Option Addr) (pc ic cc bc:Nat):Prop where
 ps:m.k=4→W.ownsRow B 128 2 (.slice pa m.ps.length pc) m.ps.length (zav m.ps)
 ins:m.k=11→W.ownsRow B 32 2 (.slice ia m.ins.length ic) m.ins.length (zav m.ins)
 cuts:m.k=3→W.ownsRow B 112 3 (.slice ca m.b.cuts.length cc) m.b.cuts.length (zba m.b.cuts)
 bar:m.k=3→W.ownsRow B 3 1 (.slice ba m.b.bar.length bc) m.b.bar.length (zal m.b.bar)
def zc7 (m:Mg) (pa ia ca ba:Option Addr) (pc ic cc bc:Nat):Value:=
 if m.k=1 then .iface 76 (.agg #[.int .i64 m.mem,.string ⟨m.name.toArray⟩]) else if m.k=2 then .iface 78 (.agg #[.string ⟨m.a.i.toArray⟩,.int .i64 m.a.iss,.int .i64 m.a.rat,.int .i64 m.a.mat,.string ⟨m.a.cur.toArray⟩]) else if m.k=3 then .iface 80 (.agg #[.int .i64 m.b.id,.int .i64 m.b.ver,.string ⟨m.b.cur.toArray⟩,.int .i64 m.b.rat,.int .i64 m.b.least,.int .i64 m.b.most,.slice ca m.b.cuts.length cc,.int .i64 m.b.iss,.int .i64 m.b.ass,.slice ba m.b.bar.length bc]) else if m.k=4 then .iface 82 (.agg #[.slice pa m.ps.length pc]) else if m.k=5 then .iface 74 (.agg #[.int .i64 m.day]) else if m.k=6 then .iface 84 (.agg #[.int .i64 m.mem,.string ⟨m.t.toArray⟩,.int .i64 m.n]) else if m.k=7 then .iface 86 (.agg #[.int .i64 m.mem,.string ⟨m.t.toArray⟩,.int .i64 m.n]) else if m.k=8 then .iface 63 (.agg #[.int .i64 m.q.id,.int .i64 m.q.mem,.int .i64 m.q.side,.int .i64 m.q.bas,.int .i64 m.q.am,.int .i64 m.q.rate,.int .i64 m.q.st,.int .i64 m.q.en]) else if m.k=9 then .iface 88 (.agg #[.int .i64 m.mem,.int .i64 m.n]) else if m.k=10 then .iface 90 (.agg #[.int .i64 m.mem,.int .i64 m.tr,.int .i64 m.day]) else if m.k=11 then .iface 67 (.agg #[.int .i64 m.mem,.int .i64 m.tr,.string ⟨m.out.i.toArray⟩,.int .i64 m.out.q,.slice ia m.ins.length ic]) else if m.k=12 then .iface 92 (.agg #[.int .i64 m.mem,.int .i64 m.day,.bool m.done]) else if m.k=13 then .iface 94 (.agg #[.int .i64 m.mem]) else if m.k=14 then .iface 96 (.agg #[.int .i64 m.mem,.int .i64 m.n]) else if m.k=15 then .iface 98 (.agg #[.int .i64 m.tr,.int .i64 m.day,.int .i64 m.rate]) else .nilIface
theorem zuh {m:Mg} {pa ia ca ba:Option Addr} {pc ic cc bc:Nat} (hk:m.k=1):zc7 m pa ia ca ba pc ic cc bc=.iface 76 (.agg #[.int .i64 m.mem,.string ⟨m.name.toArray⟩]):=by unfold zc7;simp only [hk];rfl
theorem zui {m:Mg} {pa ia ca ba:Option Addr} {pc ic cc bc:Nat} (hk:m.k=2):zc7 m pa ia ca ba pc ic cc bc=.iface 78 (.agg #[.string ⟨m.a.i.toArray⟩,.int .i64 m.a.iss,.int .i64 m.a.rat,.int .i64 m.a.mat,.string ⟨m.a.cur.toArray⟩]):=by unfold zc7;simp only [hk];rfl
theorem zuj {m:Mg} {pa ia ca ba:Option Addr} {pc ic cc bc:Nat} (hk:m.k=3):zc7 m pa ia ca ba pc ic cc bc=.iface 80 (.agg #[.int .i64 m.b.id,.int .i64 m.b.ver,.string ⟨m.b.cur.toArray⟩,.int .i64 m.b.rat,.int .i64 m.b.least,.int .i64 m.b.most,.slice ca m.b.cuts.length cc,.int .i64 m.b.iss,.int .i64 m.b.ass,.slice ba m.b.bar.length bc]):=by unfold zc7;simp only [hk];rfl
theorem zuk {m:Mg} {pa ia ca ba:Option Addr} {pc ic cc bc:Nat} (hk:m.k=4):zc7 m pa ia ca ba pc ic cc bc=.iface 82 (.agg #[.slice pa m.ps.length pc]):=by unfold zc7;simp only [hk];rfl
theorem zul {m:Mg} {pa ia ca ba:Option Addr} {pc ic cc bc:Nat} (hk:m.k=5):zc7 m pa ia ca ba pc ic cc bc=.iface 74 (.agg #[.int .i64 m.day]):=by unfold zc7;simp only [hk];rfl
theorem zum {m:Mg} {pa ia ca ba:Option Addr} {pc ic cc bc:Nat} (hk:m.k=6):zc7 m pa ia ca ba pc ic cc bc=.iface 84 (.agg #[.int .i64 m.mem,.string ⟨m.t.toArray⟩,.int .i64 m.n]):=by unfold zc7;simp only [hk];rfl
theorem zun {m:Mg} {pa ia ca ba:Option Addr} {pc ic cc bc:Nat} (hk:m.k=7):zc7 m pa ia ca ba pc ic cc bc=.iface 86 (.agg #[.int .i64 m.mem,.string ⟨m.t.toArray⟩,.int .i64 m.n]):=by unfold zc7;simp only [hk];rfl
theorem zuo {m:Mg} {pa ia ca ba:Option Addr} {pc ic cc bc:Nat} (hk:m.k=8):zc7 m pa ia ca ba pc ic cc bc=.iface 63 (.agg #[.int .i64 m.q.id,.int .i64 m.q.mem,.int .i64 m.q.side,.int .i64 m.q.bas,.int .i64 m.q.am,.int .i64 m.q.rate,.int .i64 m.q.st,.int .i64 m.q.en]):=by unfold zc7;simp only [hk];rfl
theorem zup {m:Mg} {pa ia ca ba:Option Addr} {pc ic cc bc:Nat} (hk:m.k=9):zc7 m pa ia ca ba pc ic cc bc=.iface 88 (.agg #[.int .i64 m.mem,.int .i64 m.n]):=by unfold zc7;simp only [hk];rfl
theorem zko {m:Mg} {pa ia ca ba:Option Addr} {pc ic cc bc:Nat} (hk:m.k=10):zc7 m pa ia ca ba pc ic cc bc=.iface 90 (.agg #[.int .i64 m.mem,.int .i64 m.tr,.int .i64 m.day]):=by unfold zc7;simp only [hk];rfl
theorem zkp {m:Mg} {pa ia ca ba:Option Addr} {pc ic cc bc:Nat} (hk:m.k=11):zc7 m pa ia ca ba pc ic cc bc=.iface 67 (.agg #[.int .i64 m.mem,.int .i64 m.tr,.string ⟨m.out.i.toArray⟩,.int .i64 m.out.q,.slice ia m.ins.length ic]):=by unfold zc7;simp only [hk];rfl
theorem zkq {m:Mg} {pa ia ca ba:Option Addr} {pc ic cc bc:Nat} (hk:m.k=12):zc7 m pa ia ca ba pc ic cc bc=.iface 92 (.agg #[.int .i64 m.mem,.int .i64 m.day,.bool m.done]):=by unfold zc7;simp only [hk];rfl
theorem zkr {m:Mg} {pa ia ca ba:Option Addr} {pc ic cc bc:Nat} (hk:m.k=13):zc7 m pa ia ca ba pc ic cc bc=.iface 94 (.agg #[.int .i64 m.mem]):=by unfold zc7;simp only [hk];rfl
theorem zks {m:Mg} {pa ia ca ba:Option Addr} {pc ic cc bc:Nat} (hk:m.k=14):zc7 m pa ia ca ba pc ic cc bc=.iface 96 (.agg #[.int .i64 m.mem,.int .i64 m.n]):=by unfold zc7;simp only [hk];rfl
theorem zkt {m:Mg} {pa ia ca ba:Option Addr} {pc ic cc bc:Nat} (hk:m.k=15):zc7 m pa ia ca ba pc ic cc bc=.iface 98 (.agg #[.int .i64 m.tr,.int .i64 m.day,.int .i64 m.rate]):=by unfold zc7;simp only [hk];rfl
def MV (m:Mg) (q:Nat) (W:World) (v:Value):Prop:=∃(pa ia ca ba:Option Addr) (pc ic cc bc B:Nat),q<B∧Own B W m pa ia ca ba pc ic cc bc∧v=zc7 m pa ia ca ba pc ic cc bc
theorem Own.bt {B q:Nat} {W W2:World} {m:Mg} {pa ia ca ba:Option Addr} {pc ic cc bc:Nat} (h:Own B W m pa ia ca ba pc ic cc bc) (hq:q<B) (hb:Bt q W W2):Own B W2 m pa ia ca ba pc ic cc bc:=⟨fun hk=>za8 (h.ps hk) hq hb,fun hk=>za8 (h.ins hk) hq hb,fun hk=>za8 (h.cuts hk) hq hb,fun hk=>za8 (h.bar hk) hq hb⟩
theorem MV.bt {m:Mg} {q:Nat} {W W2:World} {v:Value} (h:MV m q W v) (hb:Bt q W W2):MV m q W2 v:=by
 obtain ⟨pa,ia,ca,ba,pc,ic,cc,bc,B,hq,hO,hv⟩:=h
 exact ⟨pa,ia,ca,ba,pc,ic,cc,bc,B,hq,hO.bt hq hb,hv⟩
theorem MV.dr {m:Mg} {q:Nat} {W:World} {v:Value} (h:MV m q W v) (n:Nat):MV m q (W.drewN n) v:=by
 obtain ⟨pa,ia,ca,ba,pc,ic,cc,bc,B,hq,hO,hv⟩:=h
 exact ⟨pa,ia,ca,ba,pc,ic,cc,bc,B,hq,⟨hO.ps,hO.ins,hO.cuts,hO.bar⟩,hv⟩
def Sm (r:Rd):Prop:=r.Ok∧r.s.length≤1000000
theorem Sm.fw {α:Type} {f:Rd→Rd × α} {P:α→List UInt8→Prop} (hf:Fw f P) {r:Rd} (h:Sm r):Sm (f r).1:=⟨(hf r h.1).1,by rw [(hf r h.1).2.1];exact h.2⟩
theorem Sm.pre {α:Type} {f:Rd→Rd × α} {P:α→List UInt8→Prop} (hf:Fw f P):∀(n:Nat) {r:Rd},Sm r→Sm (pre f n r).1
 | 0,_,h=>h
 | n+1,r,h=>Sm.fw hf (Sm.pre hf n h)
theorem Sm.l {r:Rd} (h:Sm r):r.s.length≤281474976710656:=by have:=h.2;omega
theorem Sm.l2 {r:Rd} (h:Sm r):r.s.length≤1099511627776:=by have:=h.2;omega
def QK (k:Int) (r:Rd) (q:Nat) (W:World) (v:Value):Prop:=(∃T u,v=.iface T u)∧((rdK k r).1.e=0→MV (rdK k r).2 q W v)
theorem QK.stb (k:Int) (r:Rd):Stb (QK k r):=⟨fun _ _ _ _ h hb=>⟨h.1,fun e=>(h.2 e).bt hb⟩,fun _ _ n _ h=>⟨h.1,fun e=>(h.2 e).dr n⟩⟩
theorem zv4 {q:Nat} {r:Rd} (w:World) (hR:Rm w q r) (hs:Sm r):Calls Tryz.prog 56 #[.agg #[.pointer (some ⟨q,0,none⟩)],.int .i64 1] w (MsP q (rdK 1 r).1 (QK 1 r q) w):=by
 obtain ⟨r1,x1,h1⟩:∃a b,zah r=(a,b):=⟨_,_,rfl⟩
 have s1:Sm r1:=by have:=Sm.fw za7 hs;rw [h1] at this;exact this
 obtain ⟨r2,x2,h2⟩:∃a b,za4 r1 160=(a,b):=⟨_,_,rfl⟩
 have s2:Sm r2:=by have:=Sm.fw (zcf 160) s1;rw [h2] at this;exact this
 have e:rdK 1 r=(r2,{ Mg.z with k:=1,mem:=x1,name:=x2 }):=by simp [rdK,rBk,rQu,za9,thn,h1,h2]
 unfold QK
 rw [e]
 refine (zyk h1 h2 w hR s1.l).mono ?_
 rintro E w' ⟨v,he,hQ,hR',hB⟩
 exact ⟨v,he,⟨⟨_,_,hQ.out⟩,fun _=>⟨none,none,none,none,0,0,0,0,q+1,Nat.lt_succ_self q,⟨fun h=>absurd (show (1:Int)=4 from h) (by decide),fun h=>absurd (show (1:Int)=11 from h) (by decide),fun h=>absurd (show (1:Int)=3 from h) (by decide),fun h=>absurd (show (1:Int)=3 from h) (by decide)⟩,hQ.out.trans (zuh (m:={ Mg.z with k:=1,mem:=x1,name:=x2 }) rfl).symm⟩⟩,hR',hB⟩
theorem zv5 {q:Nat} {r:Rd} (w:World) (hR:Rm w q r) (hs:Sm r):Calls Tryz.prog 56 #[.agg #[.pointer (some ⟨q,0,none⟩)],.int .i64 2] w (MsP q (rdK 2 r).1 (QK 2 r q) w):=by
 obtain ⟨r1,x1,h1⟩:∃a b,za4 r 12=(a,b):=⟨_,_,rfl⟩
 have s1:Sm r1:=by have:=Sm.fw (zcf 12) hs;rw [h1] at this;exact this
 obtain ⟨r2,x2,h2⟩:∃a b,zah r1=(a,b):=⟨_,_,rfl⟩
 have s2:Sm r2:=by have:=Sm.fw za7 s1;rw [h2] at this;exact this
 obtain ⟨r3,x3,h3⟩:∃a b,zah r2=(a,b):=⟨_,_,rfl⟩
 have s3:Sm r3:=by have:=Sm.fw za7 s2;rw [h3] at this;exact this
 obtain ⟨r4,x4,h4⟩:∃a b,zah r3=(a,b):=⟨_,_,rfl⟩
 have s4:Sm r4:=by have:=Sm.fw za7 s3;rw [h4] at this;exact this
 obtain ⟨r5,x5,h5⟩:∃a b,za4 r4 12=(a,b):=⟨_,_,rfl⟩
 have s5:Sm r5:=by have:=Sm.fw (zcf 12) s4;rw [h5] at this;exact this
 have e:rdK 2 r=(r5,{ Mg.z with k:=2,a:=⟨x1,x2,x3,x4,x5⟩ }):=by simp [rdK,rBk,rQu,za9,thn,h1,h2,h3,h4,h5]
 unfold QK
 rw [e]
 refine (zyl h1 h2 h3 h4 h5 w hR hs.l s4.l).mono ?_
 rintro E w' ⟨v,he,hQ,hR',hB⟩
 exact ⟨v,he,⟨⟨_,_,hQ.out⟩,fun _=>⟨none,none,none,none,0,0,0,0,q+1,Nat.lt_succ_self q,⟨fun h=>absurd (show (2:Int)=4 from h) (by decide),fun h=>absurd (show (2:Int)=11 from h) (by decide),fun h=>absurd (show (2:Int)=3 from h) (by decide),fun h=>absurd (show (2:Int)=3 from h) (by decide)⟩,hQ.out.trans (zui (m:={ Mg.z with k:=2,a:=⟨x1,x2,x3,x4,x5⟩ }) rfl).symm⟩⟩,hR',hB⟩
theorem zv6 {q:Nat} {r:Rd} (w:World) (hR:Rm w q r) (hs:Sm r):Calls Tryz.prog 56 #[.agg #[.pointer (some ⟨q,0,none⟩)],.int .i64 3] w (MsP q (rdK 3 r).1 (QK 3 r q) w):=by
 obtain ⟨r1,x1,h1⟩:∃a b,zah r=(a,b):=⟨_,_,rfl⟩
 have s1:Sm r1:=by have:=Sm.fw za7 hs;rw [h1] at this;exact this
 obtain ⟨r2,x2,h2⟩:∃a b,zah r1=(a,b):=⟨_,_,rfl⟩
 have s2:Sm r2:=by have:=Sm.fw za7 s1;rw [h2] at this;exact this
 obtain ⟨r3,x3,h3⟩:∃a b,zah r2=(a,b):=⟨_,_,rfl⟩
 have s3:Sm r3:=by have:=Sm.fw za7 s2;rw [h3] at this;exact this
 obtain ⟨r4,x4,h4⟩:∃a b,zah r3=(a,b):=⟨_,_,rfl⟩
 have s4:Sm r4:=by have:=Sm.fw za7 s3;rw [h4] at this;exact this
 obtain ⟨r5,x5,h5⟩:∃a b,zah r4=(a,b):=⟨_,_,rfl⟩
 have s5:Sm r5:=by have:=Sm.fw za7 s4;rw [h5] at this;exact this
 obtain ⟨r6,x6,h6⟩:∃a b,zah r5=(a,b):=⟨_,_,rfl⟩
 have s6:Sm r6:=by have:=Sm.fw za7 s5;rw [h6] at this;exact this
 obtain ⟨r7,x7,h7⟩:∃a b,zah r6=(a,b):=⟨_,_,rfl⟩
 have s7:Sm r7:=by have:=Sm.fw za7 s6;rw [h7] at this;exact this
 obtain ⟨r8,x8,h8⟩:∃a b,za4 r7 12=(a,b):=⟨_,_,rfl⟩
 have s8:Sm r8:=by have:=Sm.fw (zcf 12) s7;rw [h8] at this;exact this
 obtain ⟨r9,x9,h9⟩:∃a b,zai r8 64=(a,b):=⟨_,_,rfl⟩
 have s9:Sm r9:=by have:=Sm.fw (zcv 64) s8;rw [h9] at this;exact this
 have hp:=ze1 zbl (fun _ h=>zkm h) x9 r9
 rw [← zfo] at hp
 have s9p:Sm (pre zbl x9 r9).1:=Sm.pre zuc _ s9
 obtain ⟨r10,y9,h10⟩:∃a b,zbq (zbz x9 r9).1 64=(a,b):=⟨_,_,rfl⟩
 have h11:zbq (pre zbl x9 r9).1 64=(r10,y9):=by rw [hp.1];exact h10
 have e:rdK 3 r=(r10,{ Mg.z with k:=3,b:=⟨x1,x2,x8,x3,x4,x5,(zbz x9 r9).2,x6,x7,y9⟩ }):=by simp [rdK,rBk,thn,h1,h2,h3,h4,h5,h6,h7,h8,h9,h10]
 unfold QK
 rw [e]
 have hl:q<w.heap.size:=hR.lt
 refine (zym h1 h2 h3 h4 h5 h6 h7 h8 h9 h11 w hR s7.l s8.l s9p.l2).mono ?_
 rintro E w' ⟨v,he,hQ,hR',hB⟩
 obtain ⟨ca,cc,ba,bc,hv,ho,ho2⟩:=hQ.out
 refine ⟨v,he,⟨⟨_,_,hv⟩,fun h0=>?_⟩,hR',hB⟩
 have hbad:(zbz x9 r9).1.e=0:=by
  rcases Nat.eq_zero_or_pos (zbz x9 r9).1.e with h | h
  ·exact h
  ·have hne:(zbz x9 r9).1.e≠0:=by omega
   rw [zfb hne] at h10
   injection h10 with h10 _
   rw [h10];exact h0
 have e2:(pre zbl x9 r9).2=(zbz x9 r9).2:=hp.2 hbad
 rw [e2] at ho hv
 exact ⟨none,none,ca,ba,0,0,cc,bc,w.heap.size,hl,⟨fun h=>absurd (show (3:Int)=4 from h) (by decide),fun h=>absurd (show (3:Int)=11 from h) (by decide),fun _=>ho,fun _=>ho2⟩,hv.trans (zuj (m:={ Mg.z with k:=3,b:=⟨x1,x2,x8,x3,x4,x5,(zbz x9 r9).2,x6,x7,y9⟩ }) rfl).symm⟩
theorem zv7 {q:Nat} {r:Rd} (w:World) (hR:Rm w q r) (hs:Sm r):Calls Tryz.prog 56 #[.agg #[.pointer (some ⟨q,0,none⟩)],.int .i64 4] w (MsP q (rdK 4 r).1 (QK 4 r q) w):=by
 obtain ⟨r1,x1,h1⟩:∃a b,zai r 64=(a,b):=⟨_,_,rfl⟩
 have s1:Sm r1:=by have:=Sm.fw (zcv 64) hs;rw [h1] at this;exact this
 have hp:=ze1 za9 (fun _ h=>zgl h) x1 r1
 rw [← zeb] at hp
 have e:rdK 4 r=((zbf x1 r1).1,{ Mg.z with k:=4,ps:=(zbf x1 r1).2 }):=by simp [rdK,rBk,rQu,za9,thn,h1]
 unfold QK
 rw [e]
 have hl:q<w.heap.size:=hR.lt
 refine (zyn h1 w hR hs.l).mono ?_
 rintro E w' ⟨v,he,hQ,hR',hB⟩
 obtain ⟨la,lc,hv,ho⟩:=hQ.out
 refine ⟨v,he,⟨⟨_,_,hv⟩,fun h0=>?_⟩,by rw [← hp.1];exact hR',hB⟩
 have e2:(pre za9 x1 r1).2=(zbf x1 r1).2:=hp.2 h0
 have hn:x1=(zbf x1 r1).2.length:=by rw [← e2,zb9]
 have ho2:w'.ownsRow w.heap.size 128 2 (.slice la (zbf x1 r1).2.length lc) (zbf x1 r1).2.length (zav (zbf x1 r1).2):=by rw [← hn,← e2];exact ho
 have hv2:v=.iface 82 (.agg #[.slice la (zbf x1 r1).2.length lc]):=by rw [← hn];exact hv
 exact ⟨la,none,none,none,lc,0,0,0,w.heap.size,hl,⟨fun _=>ho2,fun h=>absurd (show (4:Int)=11 from h) (by decide),fun h=>absurd (show (4:Int)=3 from h) (by decide),fun h=>absurd (show (4:Int)=3 from h) (by decide)⟩,hv2.trans (zuk (m:={ Mg.z with k:=4,ps:=(zbf x1 r1).2 }) rfl).symm⟩
theorem zv8 {q:Nat} {r:Rd} (w:World) (hR:Rm w q r) (hs:Sm r):Calls Tryz.prog 56 #[.agg #[.pointer (some ⟨q,0,none⟩)],.int .i64 5] w (MsP q (rdK 5 r).1 (QK 5 r q) w):=by
 obtain ⟨r1,x1,h1⟩:∃a b,zah r=(a,b):=⟨_,_,rfl⟩
 have s1:Sm r1:=by have:=Sm.fw za7 hs;rw [h1] at this;exact this
 have e:rdK 5 r=(r1,{ Mg.z with k:=5,day:=x1 }):=by simp [rdK,rBk,rQu,za9,thn,h1]
 unfold QK
 rw [e]
 refine (zyo h1 w hR ).mono ?_
 rintro E w' ⟨v,he,hQ,hR',hB⟩
 exact ⟨v,he,⟨⟨_,_,hQ.out⟩,fun _=>⟨none,none,none,none,0,0,0,0,q+1,Nat.lt_succ_self q,⟨fun h=>absurd (show (5:Int)=4 from h) (by decide),fun h=>absurd (show (5:Int)=11 from h) (by decide),fun h=>absurd (show (5:Int)=3 from h) (by decide),fun h=>absurd (show (5:Int)=3 from h) (by decide)⟩,hQ.out.trans (zul (m:={ Mg.z with k:=5,day:=x1 }) rfl).symm⟩⟩,hR',hB⟩
theorem zv9 {q:Nat} {r:Rd} (w:World) (hR:Rm w q r) (hs:Sm r):Calls Tryz.prog 56 #[.agg #[.pointer (some ⟨q,0,none⟩)],.int .i64 6] w (MsP q (rdK 6 r).1 (QK 6 r q) w):=by
 obtain ⟨r1,x1,h1⟩:∃a b,zah r=(a,b):=⟨_,_,rfl⟩
 have s1:Sm r1:=by have:=Sm.fw za7 hs;rw [h1] at this;exact this
 obtain ⟨r2,x2,h2⟩:∃a b,zah r1=(a,b):=⟨_,_,rfl⟩
 have s2:Sm r2:=by have:=Sm.fw za7 s1;rw [h2] at this;exact this
 obtain ⟨r3,x3,h3⟩:∃a b,za4 r2 12=(a,b):=⟨_,_,rfl⟩
 have s3:Sm r3:=by have:=Sm.fw (zcf 12) s2;rw [h3] at this;exact this
 have e:rdK 6 r=(r3,{ Mg.z with k:=6,mem:=x1,t:=x3,n:=x2 }):=by simp [rdK,rBk,rQu,za9,thn,h1,h2,h3]
 unfold QK
 rw [e]
 refine (zyp h1 h2 h3 w hR s2.l).mono ?_
 rintro E w' ⟨v,he,hQ,hR',hB⟩
 exact ⟨v,he,⟨⟨_,_,hQ.out⟩,fun _=>⟨none,none,none,none,0,0,0,0,q+1,Nat.lt_succ_self q,⟨fun h=>absurd (show (6:Int)=4 from h) (by decide),fun h=>absurd (show (6:Int)=11 from h) (by decide),fun h=>absurd (show (6:Int)=3 from h) (by decide),fun h=>absurd (show (6:Int)=3 from h) (by decide)⟩,hQ.out.trans (zum (m:={ Mg.z with k:=6,mem:=x1,t:=x3,n:=x2 }) rfl).symm⟩⟩,hR',hB⟩
theorem zwa {q:Nat} {r:Rd} (w:World) (hR:Rm w q r) (hs:Sm r):Calls Tryz.prog 56 #[.agg #[.pointer (some ⟨q,0,none⟩)],.int .i64 7] w (MsP q (rdK 7 r).1 (QK 7 r q) w):=by
 obtain ⟨r1,x1,h1⟩:∃a b,zah r=(a,b):=⟨_,_,rfl⟩
 have s1:Sm r1:=by have:=Sm.fw za7 hs;rw [h1] at this;exact this
 obtain ⟨r2,x2,h2⟩:∃a b,zah r1=(a,b):=⟨_,_,rfl⟩
 have s2:Sm r2:=by have:=Sm.fw za7 s1;rw [h2] at this;exact this
 obtain ⟨r3,x3,h3⟩:∃a b,za4 r2 12=(a,b):=⟨_,_,rfl⟩
 have s3:Sm r3:=by have:=Sm.fw (zcf 12) s2;rw [h3] at this;exact this
 have e:rdK 7 r=(r3,{ Mg.z with k:=7,mem:=x1,t:=x3,n:=x2 }):=by simp [rdK,rBk,rQu,za9,thn,h1,h2,h3]
 unfold QK
 rw [e]
 refine (zyq h1 h2 h3 w hR s2.l).mono ?_
 rintro E w' ⟨v,he,hQ,hR',hB⟩
 exact ⟨v,he,⟨⟨_,_,hQ.out⟩,fun _=>⟨none,none,none,none,0,0,0,0,q+1,Nat.lt_succ_self q,⟨fun h=>absurd (show (7:Int)=4 from h) (by decide),fun h=>absurd (show (7:Int)=11 from h) (by decide),fun h=>absurd (show (7:Int)=3 from h) (by decide),fun h=>absurd (show (7:Int)=3 from h) (by decide)⟩,hQ.out.trans (zun (m:={ Mg.z with k:=7,mem:=x1,t:=x3,n:=x2 }) rfl).symm⟩⟩,hR',hB⟩
theorem zwb {q:Nat} {r:Rd} (w:World) (hR:Rm w q r) (hs:Sm r):Calls Tryz.prog 56 #[.agg #[.pointer (some ⟨q,0,none⟩)],.int .i64 8] w (MsP q (rdK 8 r).1 (QK 8 r q) w):=by
 obtain ⟨r1,x1,h1⟩:∃a b,zah r=(a,b):=⟨_,_,rfl⟩
 have s1:Sm r1:=by have:=Sm.fw za7 hs;rw [h1] at this;exact this
 obtain ⟨r2,x2,h2⟩:∃a b,zah r1=(a,b):=⟨_,_,rfl⟩
 have s2:Sm r2:=by have:=Sm.fw za7 s1;rw [h2] at this;exact this
 obtain ⟨r3,x3,h3⟩:∃a b,zah r2=(a,b):=⟨_,_,rfl⟩
 have s3:Sm r3:=by have:=Sm.fw za7 s2;rw [h3] at this;exact this
 obtain ⟨r4,x4,h4⟩:∃a b,zah r3=(a,b):=⟨_,_,rfl⟩
 have s4:Sm r4:=by have:=Sm.fw za7 s3;rw [h4] at this;exact this
 obtain ⟨r5,x5,h5⟩:∃a b,zah r4=(a,b):=⟨_,_,rfl⟩
 have s5:Sm r5:=by have:=Sm.fw za7 s4;rw [h5] at this;exact this
 obtain ⟨r6,x6,h6⟩:∃a b,zah r5=(a,b):=⟨_,_,rfl⟩
 have s6:Sm r6:=by have:=Sm.fw za7 s5;rw [h6] at this;exact this
 obtain ⟨r7,x7,h7⟩:∃a b,zah r6=(a,b):=⟨_,_,rfl⟩
 have s7:Sm r7:=by have:=Sm.fw za7 s6;rw [h7] at this;exact this
 obtain ⟨r8,x8,h8⟩:∃a b,zah r7=(a,b):=⟨_,_,rfl⟩
 have s8:Sm r8:=by have:=Sm.fw za7 s7;rw [h8] at this;exact this
 have e:rdK 8 r=(r8,{ Mg.z with k:=8,q:=⟨x1,x2,x3,x4,x5,x6,x7,x8⟩ }):=by simp [rdK,rBk,rQu,za9,thn,h1,h2,h3,h4,h5,h6,h7,h8]
 unfold QK
 rw [e]
 refine (zyr h1 h2 h3 h4 h5 h6 h7 h8 w hR ).mono ?_
 rintro E w' ⟨v,he,hQ,hR',hB⟩
 exact ⟨v,he,⟨⟨_,_,hQ.out⟩,fun _=>⟨none,none,none,none,0,0,0,0,q+1,Nat.lt_succ_self q,⟨fun h=>absurd (show (8:Int)=4 from h) (by decide),fun h=>absurd (show (8:Int)=11 from h) (by decide),fun h=>absurd (show (8:Int)=3 from h) (by decide),fun h=>absurd (show (8:Int)=3 from h) (by decide)⟩,hQ.out.trans (zuo (m:={ Mg.z with k:=8,q:=⟨x1,x2,x3,x4,x5,x6,x7,x8⟩ }) rfl).symm⟩⟩,hR',hB⟩
theorem zwc {q:Nat} {r:Rd} (w:World) (hR:Rm w q r) (hs:Sm r):Calls Tryz.prog 56 #[.agg #[.pointer (some ⟨q,0,none⟩)],.int .i64 9] w (MsP q (rdK 9 r).1 (QK 9 r q) w):=by
 obtain ⟨r1,x1,h1⟩:∃a b,zah r=(a,b):=⟨_,_,rfl⟩
 have s1:Sm r1:=by have:=Sm.fw za7 hs;rw [h1] at this;exact this
 obtain ⟨r2,x2,h2⟩:∃a b,zah r1=(a,b):=⟨_,_,rfl⟩
 have s2:Sm r2:=by have:=Sm.fw za7 s1;rw [h2] at this;exact this
 have e:rdK 9 r=(r2,{ Mg.z with k:=9,mem:=x1,n:=x2 }):=by simp [rdK,rBk,rQu,za9,thn,h1,h2]
 unfold QK
 rw [e]
 refine (zys h1 h2 w hR ).mono ?_
 rintro E w' ⟨v,he,hQ,hR',hB⟩
 exact ⟨v,he,⟨⟨_,_,hQ.out⟩,fun _=>⟨none,none,none,none,0,0,0,0,q+1,Nat.lt_succ_self q,⟨fun h=>absurd (show (9:Int)=4 from h) (by decide),fun h=>absurd (show (9:Int)=11 from h) (by decide),fun h=>absurd (show (9:Int)=3 from h) (by decide),fun h=>absurd (show (9:Int)=3 from h) (by decide)⟩,hQ.out.trans (zup (m:={ Mg.z with k:=9,mem:=x1,n:=x2 }) rfl).symm⟩⟩,hR',hB⟩
theorem zs7 {q:Nat} {r:Rd} (w:World) (hR:Rm w q r) (hs:Sm r):Calls Tryz.prog 56 #[.agg #[.pointer (some ⟨q,0,none⟩)],.int .i64 10] w (MsP q (rdK 10 r).1 (QK 10 r q) w):=by
 obtain ⟨r1,x1,h1⟩:∃a b,zah r=(a,b):=⟨_,_,rfl⟩
 have s1:Sm r1:=by have:=Sm.fw za7 hs;rw [h1] at this;exact this
 obtain ⟨r2,x2,h2⟩:∃a b,zah r1=(a,b):=⟨_,_,rfl⟩
 have s2:Sm r2:=by have:=Sm.fw za7 s1;rw [h2] at this;exact this
 obtain ⟨r3,x3,h3⟩:∃a b,zah r2=(a,b):=⟨_,_,rfl⟩
 have s3:Sm r3:=by have:=Sm.fw za7 s2;rw [h3] at this;exact this
 have e:rdK 10 r=(r3,{ Mg.z with k:=10,mem:=x1,tr:=x2,day:=x3 }):=by simp [rdK,rBk,rQu,za9,thn,h1,h2,h3]
 unfold QK
 rw [e]
 refine (zvy h1 h2 h3 w hR ).mono ?_
 rintro E w' ⟨v,he,hQ,hR',hB⟩
 exact ⟨v,he,⟨⟨_,_,hQ.out⟩,fun _=>⟨none,none,none,none,0,0,0,0,q+1,Nat.lt_succ_self q,⟨fun h=>absurd (show (10:Int)=4 from h) (by decide),fun h=>absurd (show (10:Int)=11 from h) (by decide),fun h=>absurd (show (10:Int)=3 from h) (by decide),fun h=>absurd (show (10:Int)=3 from h) (by decide)⟩,hQ.out.trans (zko (m:={ Mg.z with k:=10,mem:=x1,tr:=x2,day:=x3 }) rfl).symm⟩⟩,hR',hB⟩
theorem zs8 {q:Nat} {r:Rd} (w:World) (hR:Rm w q r) (hs:Sm r):Calls Tryz.prog 56 #[.agg #[.pointer (some ⟨q,0,none⟩)],.int .i64 11] w (MsP q (rdK 11 r).1 (QK 11 r q) w):=by
 obtain ⟨r1,x1,h1⟩:∃a b,zah r=(a,b):=⟨_,_,rfl⟩
 have s1:Sm r1:=by have:=Sm.fw za7 hs;rw [h1] at this;exact this
 obtain ⟨r2,x2,h2⟩:∃a b,zah r1=(a,b):=⟨_,_,rfl⟩
 have s2:Sm r2:=by have:=Sm.fw za7 s1;rw [h2] at this;exact this
 obtain ⟨r3,x3,h3⟩:∃a b,za4 r2 12=(a,b):=⟨_,_,rfl⟩
 have s3:Sm r3:=by have:=Sm.fw (zcf 12) s2;rw [h3] at this;exact this
 obtain ⟨r4,x4,h4⟩:∃a b,zah r3=(a,b):=⟨_,_,rfl⟩
 have s4:Sm r4:=by have:=Sm.fw za7 s3;rw [h4] at this;exact this
 obtain ⟨r5,x5,h5⟩:∃a b,zai r4 64=(a,b):=⟨_,_,rfl⟩
 have s5:Sm r5:=by have:=Sm.fw (zcv 64) s4;rw [h5] at this;exact this
 have hp:=ze1 za9 (fun _ h=>zgl h) x5 r5
 rw [← zeb] at hp
 have e:rdK 11 r=((zbf x5 r5).1,{ Mg.z with k:=11,mem:=x1,tr:=x2,out:=⟨x3,x4⟩,ins:=(zbf x5 r5).2 }):=by simp [rdK,rBk,rQu,za9,thn,h1,h2,h3,h4,h5]
 unfold QK
 rw [e]
 have hl:q<w.heap.size:=hR.lt
 refine (zvz h1 h2 h3 h4 h5 w hR s2.l s4.l).mono ?_
 rintro E w' ⟨v,he,hQ,hR',hB⟩
 obtain ⟨la,lc,hv,ho⟩:=hQ.out
 refine ⟨v,he,⟨⟨_,_,hv⟩,fun h0=>?_⟩,by rw [← hp.1];exact hR',hB⟩
 have e2:(pre za9 x5 r5).2=(zbf x5 r5).2:=hp.2 h0
 have hn:x5=(zbf x5 r5).2.length:=by rw [← e2,zb9]
 have ho2:w'.ownsRow w.heap.size 32 2 (.slice la (zbf x5 r5).2.length lc) (zbf x5 r5).2.length (zav (zbf x5 r5).2):=by rw [← hn,← e2];exact ho
 have hv2:v=.iface 67 (.agg #[.int .i64 x1,.int .i64 x2,.string ⟨x3.toArray⟩,.int .i64 x4,.slice la (zbf x5 r5).2.length lc]):=by rw [← hn];exact hv
 exact ⟨none,la,none,none,0,lc,0,0,w.heap.size,hl,⟨fun h=>absurd (show (11:Int)=4 from h) (by decide),fun _=>ho2,fun h=>absurd (show (11:Int)=3 from h) (by decide),fun h=>absurd (show (11:Int)=3 from h) (by decide)⟩,hv2.trans (zkp (m:={ Mg.z with k:=11,mem:=x1,tr:=x2,out:=⟨x3,x4⟩,ins:=(zbf x5 r5).2 }) rfl).symm⟩
theorem zs9 {q:Nat} {r:Rd} (w:World) (hR:Rm w q r) (hs:Sm r):Calls Tryz.prog 56 #[.agg #[.pointer (some ⟨q,0,none⟩)],.int .i64 12] w (MsP q (rdK 12 r).1 (QK 12 r q) w):=by
 obtain ⟨r1,x1,h1⟩:∃a b,zah r=(a,b):=⟨_,_,rfl⟩
 have s1:Sm r1:=by have:=Sm.fw za7 hs;rw [h1] at this;exact this
 obtain ⟨r2,x2,h2⟩:∃a b,zah r1=(a,b):=⟨_,_,rfl⟩
 have s2:Sm r2:=by have:=Sm.fw za7 s1;rw [h2] at this;exact this
 obtain ⟨r3,x3,h3⟩:∃a b,zbn r2=(a,b):=⟨_,_,rfl⟩
 have s3:Sm r3:=by have:=Sm.fw zm8 s2;rw [h3] at this;exact this
 have e:rdK 12 r=(r3,{ Mg.z with k:=12,mem:=x1,day:=x2,done:=x3 }):=by simp [rdK,rBk,rQu,za9,thn,h1,h2,h3]
 unfold QK
 rw [e]
 refine (zv0 h1 h2 h3 w hR ).mono ?_
 rintro E w' ⟨v,he,hQ,hR',hB⟩
 exact ⟨v,he,⟨⟨_,_,hQ.out⟩,fun _=>⟨none,none,none,none,0,0,0,0,q+1,Nat.lt_succ_self q,⟨fun h=>absurd (show (12:Int)=4 from h) (by decide),fun h=>absurd (show (12:Int)=11 from h) (by decide),fun h=>absurd (show (12:Int)=3 from h) (by decide),fun h=>absurd (show (12:Int)=3 from h) (by decide)⟩,hQ.out.trans (zkq (m:={ Mg.z with k:=12,mem:=x1,day:=x2,done:=x3 }) rfl).symm⟩⟩,hR',hB⟩
theorem zta {q:Nat} {r:Rd} (w:World) (hR:Rm w q r) (hs:Sm r):Calls Tryz.prog 56 #[.agg #[.pointer (some ⟨q,0,none⟩)],.int .i64 13] w (MsP q (rdK 13 r).1 (QK 13 r q) w):=by
 obtain ⟨r1,x1,h1⟩:∃a b,zah r=(a,b):=⟨_,_,rfl⟩
 have s1:Sm r1:=by have:=Sm.fw za7 hs;rw [h1] at this;exact this
 have e:rdK 13 r=(r1,{ Mg.z with k:=13,mem:=x1 }):=by simp [rdK,rBk,rQu,za9,thn,h1]
 unfold QK
 rw [e]
 refine (zv1 h1 w hR ).mono ?_
 rintro E w' ⟨v,he,hQ,hR',hB⟩
 exact ⟨v,he,⟨⟨_,_,hQ.out⟩,fun _=>⟨none,none,none,none,0,0,0,0,q+1,Nat.lt_succ_self q,⟨fun h=>absurd (show (13:Int)=4 from h) (by decide),fun h=>absurd (show (13:Int)=11 from h) (by decide),fun h=>absurd (show (13:Int)=3 from h) (by decide),fun h=>absurd (show (13:Int)=3 from h) (by decide)⟩,hQ.out.trans (zkr (m:={ Mg.z with k:=13,mem:=x1 }) rfl).symm⟩⟩,hR',hB⟩
theorem ztb {q:Nat} {r:Rd} (w:World) (hR:Rm w q r) (hs:Sm r):Calls Tryz.prog 56 #[.agg #[.pointer (some ⟨q,0,none⟩)],.int .i64 14] w (MsP q (rdK 14 r).1 (QK 14 r q) w):=by
 obtain ⟨r1,x1,h1⟩:∃a b,zah r=(a,b):=⟨_,_,rfl⟩
 have s1:Sm r1:=by have:=Sm.fw za7 hs;rw [h1] at this;exact this
 obtain ⟨r2,x2,h2⟩:∃a b,zah r1=(a,b):=⟨_,_,rfl⟩
 have s2:Sm r2:=by have:=Sm.fw za7 s1;rw [h2] at this;exact this
 have e:rdK 14 r=(r2,{ Mg.z with k:=14,mem:=x1,n:=x2 }):=by simp [rdK,rBk,rQu,za9,thn,h1,h2]
 unfold QK
 rw [e]
 refine (zv2 h1 h2 w hR ).mono ?_
 rintro E w' ⟨v,he,hQ,hR',hB⟩
 exact ⟨v,he,⟨⟨_,_,hQ.out⟩,fun _=>⟨none,none,none,none,0,0,0,0,q+1,Nat.lt_succ_self q,⟨fun h=>absurd (show (14:Int)=4 from h) (by decide),fun h=>absurd (show (14:Int)=11 from h) (by decide),fun h=>absurd (show (14:Int)=3 from h) (by decide),fun h=>absurd (show (14:Int)=3 from h) (by decide)⟩,hQ.out.trans (zks (m:={ Mg.z with k:=14,mem:=x1,n:=x2 }) rfl).symm⟩⟩,hR',hB⟩
theorem ztc {q:Nat} {r:Rd} (w:World) (hR:Rm w q r) (hs:Sm r):Calls Tryz.prog 56 #[.agg #[.pointer (some ⟨q,0,none⟩)],.int .i64 15] w (MsP q (rdK 15 r).1 (QK 15 r q) w):=by
 obtain ⟨r1,x1,h1⟩:∃a b,zah r=(a,b):=⟨_,_,rfl⟩
 have s1:Sm r1:=by have:=Sm.fw za7 hs;rw [h1] at this;exact this
 obtain ⟨r2,x2,h2⟩:∃a b,zah r1=(a,b):=⟨_,_,rfl⟩
 have s2:Sm r2:=by have:=Sm.fw za7 s1;rw [h2] at this;exact this
 obtain ⟨r3,x3,h3⟩:∃a b,zah r2=(a,b):=⟨_,_,rfl⟩
 have s3:Sm r3:=by have:=Sm.fw za7 s2;rw [h3] at this;exact this
 have e:rdK 15 r=(r3,{ Mg.z with k:=15,tr:=x1,day:=x2,rate:=x3 }):=by simp [rdK,rBk,rQu,za9,thn,h1,h2,h3]
 unfold QK
 rw [e]
 refine (zv3 h1 h2 h3 w hR ).mono ?_
 rintro E w' ⟨v,he,hQ,hR',hB⟩
 exact ⟨v,he,⟨⟨_,_,hQ.out⟩,fun _=>⟨none,none,none,none,0,0,0,0,q+1,Nat.lt_succ_self q,⟨fun h=>absurd (show (15:Int)=4 from h) (by decide),fun h=>absurd (show (15:Int)=11 from h) (by decide),fun h=>absurd (show (15:Int)=3 from h) (by decide),fun h=>absurd (show (15:Int)=3 from h) (by decide)⟩,hQ.out.trans (zkt (m:={ Mg.z with k:=15,tr:=x1,day:=x2,rate:=x3 }) rfl).symm⟩⟩,hR',hB⟩
theorem zwd {q:Nat} {r:Rd} {k:Int} (h:inn k 1 15=true) (w:World) (hR:Rm w q r) (hs:Sm r):Calls Tryz.prog 56 #[.agg #[.pointer (some ⟨q,0,none⟩)],.int .i64 k] w (MsP q (rdK k r).1 (QK k r q) w):=by
 rcases zd0 k with h0 | rfl | rfl | rfl | rfl | rfl | rfl | rfl | rfl | rfl | rfl | rfl | rfl | rfl | rfl | rfl
 ·rw [h0] at h;cases h
 ·exact zv4 w hR hs
 ·exact zv5 w hR hs
 ·exact zv6 w hR hs
 ·exact zv7 w hR hs
 ·exact zv8 w hR hs
 ·exact zv9 w hR hs
 ·exact zwa w hR hs
 ·exact zwb w hR hs
 ·exact zwc w hR hs
 ·exact zs7 w hR hs
 ·exact zs8 w hR hs
 ·exact zs9 w hR hs
 ·exact zta w hR hs
 ·exact ztb w hR hs
 ·exact ztc w hR hs
end Go.Proofs.YtdmlgheajblcdaaGreat
