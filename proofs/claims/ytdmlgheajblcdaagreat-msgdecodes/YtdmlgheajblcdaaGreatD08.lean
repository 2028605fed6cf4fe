/- Layer 10: parts of messages read. -/
import Derived.Test.YtdmlgheajblcdaaGreatD07
namespace Go.Proofs.YtdmlgheajblcdaaGreat
set_option maxHeartbeats 16000000
set_option maxRecDepth 100000
open Go.RowKit
set_option linter.unusedVariables false
set_option linter.unusedSimpArgs false
set_option maxRecDepth 100000
theorem Bx.bt {q:Nat} {w w':World} {b:Nat} {cs:Array Value} {T:Nat} (h:Bx w b cs T) (hb:Bt q w w') (hn:b≠q):Bx w' b cs T:=hb.other h hn
theorem Bt.setRow {q g:Nat} {w w':World} {M:Array Value} (h:Bt q w w') (hg:w.heap.size≤g):Bt q w (w'.setRow g M):=
 ⟨h.os,h.tape,h.output,by have:=h.size;simpa [World.setRow] using this,fun k hk hn=>(setRow_other w' g k M (by omega)).trans (h.block k hk hn)⟩
theorem Rm.setRow {q g:Nat} {w:World} {r:Rd} {M:Array Value} (h:Rm w q r) (hg:q≠g):Rm (w.setRow g M) q r:=h.same (setRow_other w g q M hg)
theorem zo7 (w:World) (g:Nat) (M:Array Value) (hg:Bx w g M 23) (hs:M.size=5):(loadVar 23 ⟨g,0,none⟩).run Tryz.prog w=.ok (.agg M) w:=
 run_loadVar_row w g 23 23 _ (0,0) _ hg Tryz.underlying23 rfl (by rw [hs];exact ziv)
theorem ze0 (w:World) (g:Nat) (M:Array Value) (hg:Bx w g M 27) (hs:M.size=10):(loadVar 27 ⟨g,0,none⟩).run Tryz.prog w=.ok (.agg M) w:=
 run_loadVar_row w g 27 27 _ (0,0) _ hg Tryz.underlying27 rfl (by rw [hs];exact zd7)
theorem zo8 (w:World) (g:Nat) (M:Array Value) (hg:Bx w g M 30) (hs:M.size=8):(loadVar 30 ⟨g,0,none⟩).run Tryz.prog w=.ok (.agg M) w:=
 run_loadVar_row w g 30 30 _ (0,0) _ hg Tryz.underlying30 rfl (by rw [hs];exact ziw)
theorem zce {q:Nat} {r r1:Rd} {a:Int} (h:zah r=(r1,a)) (w:World) (hR:Rm w q r):Calls Tryz.prog 57 #[.pointer (some ⟨q,0,none⟩)] w (RP q (.int .i64 a) r1 w):=by have:=zk4 q r w hR;rw [h] at this;exact this
theorem zvv {q:Nat} {r r1:Rd} {a:Bool} (h:zbn r=(r1,a)) (w:World) (hR:Rm w q r):Calls Tryz.prog 87 #[.pointer (some ⟨q,0,none⟩)] w (RP q (.bool a) r1 w):=by have:=zu1 q r w hR;rw [h] at this;exact this
theorem zs3 {q:Nat} {r r1:Rd} {m:Int} {a:List UInt8} (hm:I64 m) (h:za4 r m=(r1,a)) (w:World) (hR:Rm w q r) (hs:r.s.length≤281474976710656):Calls Tryz.prog 79 #[.pointer (some ⟨q,0,none⟩),.int .i64 m] w (RP q (.string ⟨a.toArray⟩) r1 w):=by have:=zu2 q r m hm w hR hs;rw [h] at this;exact this
theorem ziz {q:Nat} {r r1:Rd} {m:Int} {a:Nat} (hm:I64 m) (h:zai r m=(r1,a)) (w:World) (hR:Rm w q r):Calls Tryz.prog 112 #[.pointer (some ⟨q,0,none⟩),.int .i64 m] w (RP q (.int .i64 a) r1 w):=by have:=zk6 q r m hm w hR;rw [h] at this;exact this
theorem zvw {q:Nat} {r r1:Rd} {m:Int} {a:List Int} (hm:I64 m) (h:zbq r m=(r1,a)) (w:World) (hR:Rm w q r) (hs:r.s.length≤1099511627776):Calls Tryz.prog 111 #[.pointer (some ⟨q,0,none⟩),.int .i64 m] w (IsP q a r1 w):=by have:=zu3 q r m hm w hR hs;rw [h] at this;exact this
theorem zf3 {q:Nat} {r r1:Rd} {a:List UInt8} (h:za4 r 12=(r1,a)) (w:World) (hR:Rm w q r) (hs:r.s.length≤281474976710656):Calls Tryz.prog 83 #[.agg #[.pointer (some ⟨q,0,none⟩)]] w (RP q (.string ⟨a.toArray⟩) r1 w):=by
 have HX0:Hid (Bx (w.alloc (.cells #[.pointer (some ⟨q,0,none⟩)] 133)) w.heap.size #[.pointer (some ⟨q,0,none⟩)] 133):=Bx.new _ _ _
 have HR0:Hid (Rm (w.alloc (.cells #[.pointer (some ⟨q,0,none⟩)] 133)) q r):=hR.keep (zab _ _)
 have HB0:Hid (Bt q w (w.alloc (.cells #[.pointer (some ⟨q,0,none⟩)] 133))):=Bt.of_below (zab w _)
 have hdq:w.heap.size≠q:=Nat.ne_of_gt hR.lt
 have hqs:q<w.heap.size:=hR.lt
 clear hR
 go_enter Tryz.func83,Tryz.ntmps83
 go_upto_region 1 with fail
 generalize (w.alloc (.cells #[.pointer (some ⟨q,0,none⟩)] 133))=w1 at *
 have c0:w1.cell? ⟨w.heap.size,0,none⟩=some (.pointer (some ⟨q,0,none⟩)):=HX0.out.cell 0
 go_wp2_with fail
 refine (zs3 ⟨by decide,by decide⟩ h _ HR0.out hs).mono ?_
 rintro e w2 ⟨rfl,HR2,HB2⟩
 have HB3:Hid (Bt q w w2):=HB0.out.trans HB2.out
 clear HB0 HB2 HR0 HX0 c0
 go_wp2_with fail
 go_ret
 exact ⟨rfl,HR2,HB3⟩
theorem zs4 {q:Nat} {r r1 r2:Rd} {a:List UInt8} {b:Int} (h1:za4 r 12=(r1,a)) (h2:zah r1=(r2,b)) (w:World) (hR:Rm w q r) (hs:r.s.length≤281474976710656):Calls Tryz.prog 85 #[.agg #[.pointer (some ⟨q,0,none⟩)]] w (RP q (.agg #[.string ⟨a.toArray⟩,.int .i64 b]) r2 w):=by
 have HX0:Hid (Bx ((w.alloc (.cells #[.pointer (some ⟨q,0,none⟩)] 133)).alloc (.cells #[.string ⟨#[]⟩,.int .i64 0] 32)) w.heap.size #[.pointer (some ⟨q,0,none⟩)] 133):=(Bx.new w _ _).keep (zab _ _)
 have HY0:Hid (Bx ((w.alloc (.cells #[.pointer (some ⟨q,0,none⟩)] 133)).alloc (.cells #[.string ⟨#[]⟩,.int .i64 0] 32)) (w.heap.size+1) #[.string ⟨#[]⟩,.int .i64 0] 32):=by have:=Bx.new (w.alloc (.cells #[.pointer (some ⟨q,0,none⟩)] 133)) #[.string ⟨#[]⟩,.int .i64 0] 32;rwa [zan] at this
 have HR0:Hid (Rm ((w.alloc (.cells #[.pointer (some ⟨q,0,none⟩)] 133)).alloc (.cells #[.string ⟨#[]⟩,.int .i64 0] 32)) q r):=(hR.keep (zab _ _)).keep (zab _ _)
 have HB0:Hid (Bt q w ((w.alloc (.cells #[.pointer (some ⟨q,0,none⟩)] 133)).alloc (.cells #[.string ⟨#[]⟩,.int .i64 0] 32))):=Bt.of_below (bt (zab w _) (zab _ _))
 have hdq:w.heap.size≠q:=Nat.ne_of_gt hR.lt
 have hqs:q<w.heap.size:=hR.lt
 clear hR
 go_enter Tryz.func85,Tryz.ntmps85
 go_upto_region 1 with fail
 generalize ((w.alloc (.cells #[.pointer (some ⟨q,0,none⟩)] 133)).alloc (.cells #[.string ⟨#[]⟩,.int .i64 0] 32))=w1 at *
 go_wp2_with fail
 refine wp_region_held (S:=fun W=>Bx W w.heap.size #[.pointer (some ⟨q,0,none⟩)] 133∧Bt q w W) (by kernel_rfl) ?_
 change wpAnyH _ _ _ _ _ 7 #[false,false,false,false,false,false,false] _ w1.drew
 have hS0:Bx w1.drew w.heap.size #[.pointer (some ⟨q,0,none⟩)] 133∧Bt q w w1.drew:=⟨HX0.out,HB0.out.drewN 1⟩
 have hR0:Rm w1.drew q r:=HR0.out.drewN 1
 have hY0:Bx w1.drew (w.heap.size+1) #[.string ⟨#[]⟩,.int .i64 0] 32:=HY0.out
 clear HY0
 clear HX0 HB0 HR0
 obtain ⟨v0,hv0⟩:∃v,v=w1.drew:=⟨_,rfl⟩
 rw [← hv0] at hS0 hR0 hY0 ⊢
 clear hv0
 refine zae (i:=0) (v:=.agg #[.pointer (some ⟨q,0,none⟩)]) rfl (by kernel_rfl) (Or.inl ⟨rfl,fun W hW=>by have cj:=(hW.1.cell 0:W.cell? ⟨w.heap.size,0,none⟩=some (.pointer (some ⟨q,0,none⟩)));go_simp⟩) hS0 ?_
 simp only [pu]
 refine zae (i:=2) (v:=.pointer (some ⟨w.heap.size,0,none⟩)) rfl (by kernel_rfl) (Or.inl ⟨rfl,fun W hW=>by go_simp⟩) hS0 ?_
 simp only [pu]
 refine zae (i:=3) (v:=.pointer (some ⟨q,0,none⟩)) rfl (by kernel_rfl) (Or.inl ⟨rfl,fun W hW=>by have cj:=(hW.1.cell 0:W.cell? ⟨w.heap.size,0,none⟩=some (.pointer (some ⟨q,0,none⟩)));go_simp⟩) hS0 ?_
 simp only [pu]
 refine zap (i:=1) rfl (by kernel_rfl) (fun K hK=>?_)
 rw [if_pos (by rfl)]
 go_simp
 refine (zf3 h1 _ hR0 hs).mono ?_
 rintro e u1 ⟨rfl,HR1,hC1⟩
 refine hK.out _ _ ⟨hS0.1.bt hC1.out hdq,hS0.2.trans hC1.out⟩ (fun hS1=>?_)
 clear hK
 try simp only [pu]
 have hR1:=HR1.out
 have hY1:=hY0.bt hC1.out (by omega)
 clear hS0 hR0 HR1 hY0
 refine zap (i:=4) rfl (by kernel_rfl) (fun K hK=>?_)
 rw [if_pos (by rfl)]
 go_simp
 refine (zce h2 _ hR1).mono ?_
 rintro e u2 ⟨rfl,HR2,hC2⟩
 refine hK.out _ _ ⟨hS1.1.bt hC2.out hdq,hS1.2.trans hC2.out⟩ (fun hS2=>?_)
 clear hK
 try simp only [pu]
 have hR2:=HR2.out
 have hY2:=hY1.bt hC2.out (by omega)
 clear hS1 hR1 HR2 hY1
 refine zae (i:=5) (v:=.agg #[.string ⟨a.toArray⟩,.int .i64 b]) rfl (by kernel_rfl) (Or.inl ⟨rfl,fun W hW=>by go_simp⟩) hS2 ?_
 simp only [pu]
 refine zap (i:=6) rfl (by kernel_rfl) (fun K hK=>?_)
 rw [if_pos (by rfl)]
 refine zao _ _ 32 _ _ rfl _ _ rfl rfl (zbo _ (w.heap.size+1) _ #[.string ⟨a.toArray⟩,.int .i64 b] zd9 hY2 rfl rfl (by simp [Value.oneCell'])) ?_
 refine hK.out _ _ ⟨hS2.1.other (by omega),hS2.2.setRow (by omega)⟩ (fun hSz=>?_)
 clear hK
 try simp only [pu]
 have hld:=zo6 (u2.setRow (w.heap.size+1) #[.string ⟨a.toArray⟩,.int .i64 b]) (w.heap.size+1) #[.string ⟨a.toArray⟩,.int .i64 b] hY2.set rfl
 have HRz:Hid (Rm (u2.setRow (w.heap.size+1) #[.string ⟨a.toArray⟩,.int .i64 b]) q r2):=hR2.setRow (by omega)
 have HBz:Hid (Bt q w (u2.setRow (w.heap.size+1) #[.string ⟨a.toArray⟩,.int .i64 b])):=hSz.2
 refine wpAnyH_done (by kernel_rfl) ?_ _
 go_wp2_with fail
 refine bodyPost_ret (zaz _ _ 2 32 _ _ _ rfl rfl hld) rfl ?_
 exact ⟨rfl,HRz,HBz⟩
theorem zo9 {q:Nat} {r r1 r2 r3 r4 r5:Rd} {a:List UInt8} {b c d:Int} {e0:List UInt8} (h1:za4 r 12=(r1,a)) (h2:zah r1=(r2,b)) (h3:zah r2=(r3,c)) (h4:zah r3=(r4,d)) (h5:za4 r4 12=(r5,e0)) (w:World) (hR:Rm w q r) (hs:r.s.length≤281474976710656) (hs4:r4.s.length≤281474976710656):Calls Tryz.prog 80 #[.agg #[.pointer (some ⟨q,0,none⟩)]] w (RP q (.agg #[.string ⟨a.toArray⟩,.int .i64 b,.int .i64 c,.int .i64 d,.string ⟨e0.toArray⟩]) r5 w):=by
 have HX0:Hid (Bx ((w.alloc (.cells #[.pointer (some ⟨q,0,none⟩)] 133)).alloc (.cells #[.string ⟨#[]⟩,.int .i64 0,.int .i64 0,.int .i64 0,.string ⟨#[]⟩] 23)) w.heap.size #[.pointer (some ⟨q,0,none⟩)] 133):=(Bx.new w _ _).keep (zab _ _)
 have HY0:Hid (Bx ((w.alloc (.cells #[.pointer (some ⟨q,0,none⟩)] 133)).alloc (.cells #[.string ⟨#[]⟩,.int .i64 0,.int .i64 0,.int .i64 0,.string ⟨#[]⟩] 23)) (w.heap.size+1) #[.string ⟨#[]⟩,.int .i64 0,.int .i64 0,.int .i64 0,.string ⟨#[]⟩] 23):=by have:=Bx.new (w.alloc (.cells #[.pointer (some ⟨q,0,none⟩)] 133)) #[.string ⟨#[]⟩,.int .i64 0,.int .i64 0,.int .i64 0,.string ⟨#[]⟩] 23;rwa [zan] at this
 have HR0:Hid (Rm ((w.alloc (.cells #[.pointer (some ⟨q,0,none⟩)] 133)).alloc (.cells #[.string ⟨#[]⟩,.int .i64 0,.int .i64 0,.int .i64 0,.string ⟨#[]⟩] 23)) q r):=(hR.keep (zab _ _)).keep (zab _ _)
 have HB0:Hid (Bt q w ((w.alloc (.cells #[.pointer (some ⟨q,0,none⟩)] 133)).alloc (.cells #[.string ⟨#[]⟩,.int .i64 0,.int .i64 0,.int .i64 0,.string ⟨#[]⟩] 23))):=Bt.of_below (bt (zab w _) (zab _ _))
 have hdq:w.heap.size≠q:=Nat.ne_of_gt hR.lt
 have hqs:q<w.heap.size:=hR.lt
 clear hR
 go_enter Tryz.func80,Tryz.ntmps80
 go_upto_region 1 with fail
 generalize ((w.alloc (.cells #[.pointer (some ⟨q,0,none⟩)] 133)).alloc (.cells #[.string ⟨#[]⟩,.int .i64 0,.int .i64 0,.int .i64 0,.string ⟨#[]⟩] 23))=w1 at *
 go_wp2_with fail
 refine wp_region_held (S:=fun W=>Bx W w.heap.size #[.pointer (some ⟨q,0,none⟩)] 133∧Bt q w W) (by kernel_rfl) ?_
 change wpAnyH _ _ _ _ _ 15 #[false,false,false,false,false,false,false,false,false,false,false,false,false,false,false] _ w1.drew
 have hS0:Bx w1.drew w.heap.size #[.pointer (some ⟨q,0,none⟩)] 133∧Bt q w w1.drew:=⟨HX0.out,HB0.out.drewN 1⟩
 have hR0:Rm w1.drew q r:=HR0.out.drewN 1
 have hY0:Bx w1.drew (w.heap.size+1) #[.string ⟨#[]⟩,.int .i64 0,.int .i64 0,.int .i64 0,.string ⟨#[]⟩] 23:=HY0.out
 clear HY0
 clear HX0 HB0 HR0
 obtain ⟨v0,hv0⟩:∃v,v=w1.drew:=⟨_,rfl⟩
 rw [← hv0] at hS0 hR0 hY0 ⊢
 clear hv0
 refine zae (i:=0) (v:=.agg #[.pointer (some ⟨q,0,none⟩)]) rfl (by kernel_rfl) (Or.inl ⟨rfl,fun W hW=>by have cj:=(hW.1.cell 0:W.cell? ⟨w.heap.size,0,none⟩=some (.pointer (some ⟨q,0,none⟩)));go_simp⟩) hS0 ?_
 simp only [pu]
 refine zae (i:=2) (v:=.pointer (some ⟨w.heap.size,0,none⟩)) rfl (by kernel_rfl) (Or.inl ⟨rfl,fun W hW=>by go_simp⟩) hS0 ?_
 simp only [pu]
 refine zae (i:=3) (v:=.pointer (some ⟨q,0,none⟩)) rfl (by kernel_rfl) (Or.inl ⟨rfl,fun W hW=>by have cj:=(hW.1.cell 0:W.cell? ⟨w.heap.size,0,none⟩=some (.pointer (some ⟨q,0,none⟩)));go_simp⟩) hS0 ?_
 simp only [pu]
 refine zae (i:=5) (v:=.pointer (some ⟨w.heap.size,0,none⟩)) rfl (by kernel_rfl) (Or.inl ⟨rfl,fun W hW=>by go_simp⟩) hS0 ?_
 simp only [pu]
 refine zae (i:=6) (v:=.pointer (some ⟨q,0,none⟩)) rfl (by kernel_rfl) (Or.inl ⟨rfl,fun W hW=>by have cj:=(hW.1.cell 0:W.cell? ⟨w.heap.size,0,none⟩=some (.pointer (some ⟨q,0,none⟩)));go_simp⟩) hS0 ?_
 simp only [pu]
 refine zae (i:=8) (v:=.pointer (some ⟨w.heap.size,0,none⟩)) rfl (by kernel_rfl) (Or.inl ⟨rfl,fun W hW=>by go_simp⟩) hS0 ?_
 simp only [pu]
 refine zae (i:=9) (v:=.pointer (some ⟨q,0,none⟩)) rfl (by kernel_rfl) (Or.inl ⟨rfl,fun W hW=>by have cj:=(hW.1.cell 0:W.cell? ⟨w.heap.size,0,none⟩=some (.pointer (some ⟨q,0,none⟩)));go_simp⟩) hS0 ?_
 simp only [pu]
 refine zae (i:=11) (v:=.agg #[.pointer (some ⟨q,0,none⟩)]) rfl (by kernel_rfl) (Or.inl ⟨rfl,fun W hW=>by have cj:=(hW.1.cell 0:W.cell? ⟨w.heap.size,0,none⟩=some (.pointer (some ⟨q,0,none⟩)));go_simp⟩) hS0 ?_
 simp only [pu]
 refine zap (i:=1) rfl (by kernel_rfl) (fun K hK=>?_)
 rw [if_pos (by rfl)]
 go_simp
 refine (zf3 h1 _ hR0 hs).mono ?_
 rintro e u1 ⟨rfl,HR1,hC1⟩
 refine hK.out _ _ ⟨hS0.1.bt hC1.out hdq,hS0.2.trans hC1.out⟩ (fun hS1=>?_)
 clear hK
 try simp only [pu]
 have hR1:=HR1.out
 have hY1:=hY0.bt hC1.out (by omega)
 clear hS0 hR0 HR1 hY0
 refine zap (i:=4) rfl (by kernel_rfl) (fun K hK=>?_)
 rw [if_pos (by rfl)]
 go_simp
 refine (zce h2 _ hR1).mono ?_
 rintro e u2 ⟨rfl,HR2,hC2⟩
 refine hK.out _ _ ⟨hS1.1.bt hC2.out hdq,hS1.2.trans hC2.out⟩ (fun hS2=>?_)
 clear hK
 try simp only [pu]
 have hR2:=HR2.out
 have hY2:=hY1.bt hC2.out (by omega)
 clear hS1 hR1 HR2 hY1
 refine zap (i:=7) rfl (by kernel_rfl) (fun K hK=>?_)
 rw [if_pos (by rfl)]
 go_simp
 refine (zce h3 _ hR2).mono ?_
 rintro e u3 ⟨rfl,HR3,hC3⟩
 refine hK.out _ _ ⟨hS2.1.bt hC3.out hdq,hS2.2.trans hC3.out⟩ (fun hS3=>?_)
 clear hK
 try simp only [pu]
 have hR3:=HR3.out
 have hY3:=hY2.bt hC3.out (by omega)
 clear hS2 hR2 HR3 hY2
 refine zap (i:=10) rfl (by kernel_rfl) (fun K hK=>?_)
 rw [if_pos (by rfl)]
 go_simp
 refine (zce h4 _ hR3).mono ?_
 rintro e u4 ⟨rfl,HR4,hC4⟩
 refine hK.out _ _ ⟨hS3.1.bt hC4.out hdq,hS3.2.trans hC4.out⟩ (fun hS4=>?_)
 clear hK
 try simp only [pu]
 have hR4:=HR4.out
 have hY4:=hY3.bt hC4.out (by omega)
 clear hS3 hR3 HR4 hY3
 refine zap (i:=12) rfl (by kernel_rfl) (fun K hK=>?_)
 rw [if_pos (by rfl)]
 go_simp
 refine (zf3 h5 _ hR4 hs4).mono ?_
 rintro e u5 ⟨rfl,HR5,hC5⟩
 refine hK.out _ _ ⟨hS4.1.bt hC5.out hdq,hS4.2.trans hC5.out⟩ (fun hS5=>?_)
 clear hK
 try simp only [pu]
 have hR5:=HR5.out
 have hY5:=hY4.bt hC5.out (by omega)
 clear hS4 hR4 HR5 hY4
 refine zae (i:=13) (v:=.agg #[.string ⟨a.toArray⟩,.int .i64 b,.int .i64 c,.int .i64 d,.string ⟨e0.toArray⟩]) rfl (by kernel_rfl) (Or.inl ⟨rfl,fun W hW=>by go_simp⟩) hS5 ?_
 simp only [pu]
 refine zap (i:=14) rfl (by kernel_rfl) (fun K hK=>?_)
 rw [if_pos (by rfl)]
 refine zao _ _ 23 _ _ rfl _ _ rfl rfl (zbo _ (w.heap.size+1) _ #[.string ⟨a.toArray⟩,.int .i64 b,.int .i64 c,.int .i64 d,.string ⟨e0.toArray⟩] ziv hY5 rfl rfl (by simp [Value.oneCell'])) ?_
 refine hK.out _ _ ⟨hS5.1.other (by omega),hS5.2.setRow (by omega)⟩ (fun hSz=>?_)
 clear hK
 try simp only [pu]
 have hld:=zo7 (u5.setRow (w.heap.size+1) #[.string ⟨a.toArray⟩,.int .i64 b,.int .i64 c,.int .i64 d,.string ⟨e0.toArray⟩]) (w.heap.size+1) #[.string ⟨a.toArray⟩,.int .i64 b,.int .i64 c,.int .i64 d,.string ⟨e0.toArray⟩] hY5.set rfl
 have HRz:Hid (Rm (u5.setRow (w.heap.size+1) #[.string ⟨a.toArray⟩,.int .i64 b,.int .i64 c,.int .i64 d,.string ⟨e0.toArray⟩]) q r5):=hR5.setRow (by omega)
 have HBz:Hid (Bt q w (u5.setRow (w.heap.size+1) #[.string ⟨a.toArray⟩,.int .i64 b,.int .i64 c,.int .i64 d,.string ⟨e0.toArray⟩])):=hSz.2
 refine wpAnyH_done (by kernel_rfl) ?_ _
 go_wp2_with fail
 refine bodyPost_ret (zaz _ _ 2 23 _ _ _ rfl rfl hld) rfl ?_
 exact ⟨rfl,HRz,HBz⟩
theorem zpa {q:Nat} {r r1 r2 r3 r4 r5 r6 r7 r8:Rd} {a0 a1 a2 a3 a4 a5 a6 a7:Int} (h0:zah r=(r1,a0)) (h1:zah r1=(r2,a1)) (h2:zah r2=(r3,a2)) (h3:zah r3=(r4,a3)) (h4:zah r4=(r5,a4)) (h5:zah r5=(r6,a5)) (h6:zah r6=(r7,a6)) (h7:zah r7=(r8,a7)) (w:World) (hR:Rm w q r):Calls Tryz.prog 84 #[.agg #[.pointer (some ⟨q,0,none⟩)]] w (RP q (.agg #[.int .i64 a0,.int .i64 a1,.int .i64 a2,.int .i64 a3,.int .i64 a4,.int .i64 a5,.int .i64 a6,.int .i64 a7]) r8 w):=by
 have HX0:Hid (Bx ((w.alloc (.cells #[.pointer (some ⟨q,0,none⟩)] 133)).alloc (.cells #[.int .i64 0,.int .i64 0,.int .i64 0,.int .i64 0,.int .i64 0,.int .i64 0,.int .i64 0,.int .i64 0] 30)) w.heap.size #[.pointer (some ⟨q,0,none⟩)] 133):=(Bx.new w _ _).keep (zab _ _)
 have HY0:Hid (Bx ((w.alloc (.cells #[.pointer (some ⟨q,0,none⟩)] 133)).alloc (.cells #[.int .i64 0,.int .i64 0,.int .i64 0,.int .i64 0,.int .i64 0,.int .i64 0,.int .i64 0,.int .i64 0] 30)) (w.heap.size+1) #[.int .i64 0,.int .i64 0,.int .i64 0,.int .i64 0,.int .i64 0,.int .i64 0,.int .i64 0,.int .i64 0] 30):=by have:=Bx.new (w.alloc (.cells #[.pointer (some ⟨q,0,none⟩)] 133)) #[.int .i64 0,.int .i64 0,.int .i64 0,.int .i64 0,.int .i64 0,.int .i64 0,.int .i64 0,.int .i64 0] 30;rwa [zan] at this
 have HR0:Hid (Rm ((w.alloc (.cells #[.pointer (some ⟨q,0,none⟩)] 133)).alloc (.cells #[.int .i64 0,.int .i64 0,.int .i64 0,.int .i64 0,.int .i64 0,.int .i64 0,.int .i64 0,.int .i64 0] 30)) q r):=(hR.keep (zab _ _)).keep (zab _ _)
 have HB0:Hid (Bt q w ((w.alloc (.cells #[.pointer (some ⟨q,0,none⟩)] 133)).alloc (.cells #[.int .i64 0,.int .i64 0,.int .i64 0,.int .i64 0,.int .i64 0,.int .i64 0,.int .i64 0,.int .i64 0] 30))):=Bt.of_below (bt (zab w _) (zab _ _))
 have hdq:w.heap.size≠q:=Nat.ne_of_gt hR.lt
 have hqs:q<w.heap.size:=hR.lt
 clear hR
 go_enter Tryz.func84,Tryz.ntmps84
 go_upto_region 1 with fail
 generalize ((w.alloc (.cells #[.pointer (some ⟨q,0,none⟩)] 133)).alloc (.cells #[.int .i64 0,.int .i64 0,.int .i64 0,.int .i64 0,.int .i64 0,.int .i64 0,.int .i64 0,.int .i64 0] 30))=w1 at *
 go_wp2_with fail
 refine wp_region_held (S:=fun W=>Bx W w.heap.size #[.pointer (some ⟨q,0,none⟩)] 133∧Bt q w W) (by kernel_rfl) ?_
 change wpAnyH _ _ _ _ _ 26 #[false,false,false,false,false,false,false,false,false,false,false,false,false,false,false,false,false,false,false,false,false,false,false,false,false,false] _ w1.drew
 have hS0:Bx w1.drew w.heap.size #[.pointer (some ⟨q,0,none⟩)] 133∧Bt q w w1.drew:=⟨HX0.out,HB0.out.drewN 1⟩
 have hR0:Rm w1.drew q r:=HR0.out.drewN 1
 have hY0:Bx w1.drew (w.heap.size+1) #[.int .i64 0,.int .i64 0,.int .i64 0,.int .i64 0,.int .i64 0,.int .i64 0,.int .i64 0,.int .i64 0] 30:=HY0.out
 clear HY0
 clear HX0 HB0 HR0
 obtain ⟨v0,hv0⟩:∃v,v=w1.drew:=⟨_,rfl⟩
 rw [← hv0] at hS0 hR0 hY0 ⊢
 clear hv0
 refine zae (i:=0) (v:=.pointer (some ⟨w.heap.size,0,none⟩)) rfl (by kernel_rfl) (Or.inl ⟨rfl,fun W hW=>by go_simp⟩) hS0 ?_
 simp only [pu]
 refine zae (i:=1) (v:=.pointer (some ⟨q,0,none⟩)) rfl (by kernel_rfl) (Or.inl ⟨rfl,fun W hW=>by have cj:=(hW.1.cell 0:W.cell? ⟨w.heap.size,0,none⟩=some (.pointer (some ⟨q,0,none⟩)));go_simp⟩) hS0 ?_
 simp only [pu]
 refine zae (i:=3) (v:=.pointer (some ⟨w.heap.size,0,none⟩)) rfl (by kernel_rfl) (Or.inl ⟨rfl,fun W hW=>by go_simp⟩) hS0 ?_
 simp only [pu]
 refine zae (i:=4) (v:=.pointer (some ⟨q,0,none⟩)) rfl (by kernel_rfl) (Or.inl ⟨rfl,fun W hW=>by have cj:=(hW.1.cell 0:W.cell? ⟨w.heap.size,0,none⟩=some (.pointer (some ⟨q,0,none⟩)));go_simp⟩) hS0 ?_
 simp only [pu]
 refine zae (i:=6) (v:=.pointer (some ⟨w.heap.size,0,none⟩)) rfl (by kernel_rfl) (Or.inl ⟨rfl,fun W hW=>by go_simp⟩) hS0 ?_
 simp only [pu]
 refine zae (i:=7) (v:=.pointer (some ⟨q,0,none⟩)) rfl (by kernel_rfl) (Or.inl ⟨rfl,fun W hW=>by have cj:=(hW.1.cell 0:W.cell? ⟨w.heap.size,0,none⟩=some (.pointer (some ⟨q,0,none⟩)));go_simp⟩) hS0 ?_
 simp only [pu]
 refine zae (i:=9) (v:=.pointer (some ⟨w.heap.size,0,none⟩)) rfl (by kernel_rfl) (Or.inl ⟨rfl,fun W hW=>by go_simp⟩) hS0 ?_
 simp only [pu]
 refine zae (i:=10) (v:=.pointer (some ⟨q,0,none⟩)) rfl (by kernel_rfl) (Or.inl ⟨rfl,fun W hW=>by have cj:=(hW.1.cell 0:W.cell? ⟨w.heap.size,0,none⟩=some (.pointer (some ⟨q,0,none⟩)));go_simp⟩) hS0 ?_
 simp only [pu]
 refine zae (i:=12) (v:=.pointer (some ⟨w.heap.size,0,none⟩)) rfl (by kernel_rfl) (Or.inl ⟨rfl,fun W hW=>by go_simp⟩) hS0 ?_
 simp only [pu]
 refine zae (i:=13) (v:=.pointer (some ⟨q,0,none⟩)) rfl (by kernel_rfl) (Or.inl ⟨rfl,fun W hW=>by have cj:=(hW.1.cell 0:W.cell? ⟨w.heap.size,0,none⟩=some (.pointer (some ⟨q,0,none⟩)));go_simp⟩) hS0 ?_
 simp only [pu]
 refine zae (i:=15) (v:=.pointer (some ⟨w.heap.size,0,none⟩)) rfl (by kernel_rfl) (Or.inl ⟨rfl,fun W hW=>by go_simp⟩) hS0 ?_
 simp only [pu]
 refine zae (i:=16) (v:=.pointer (some ⟨q,0,none⟩)) rfl (by kernel_rfl) (Or.inl ⟨rfl,fun W hW=>by have cj:=(hW.1.cell 0:W.cell? ⟨w.heap.size,0,none⟩=some (.pointer (some ⟨q,0,none⟩)));go_simp⟩) hS0 ?_
 simp only [pu]
 refine zae (i:=18) (v:=.pointer (some ⟨w.heap.size,0,none⟩)) rfl (by kernel_rfl) (Or.inl ⟨rfl,fun W hW=>by go_simp⟩) hS0 ?_
 simp only [pu]
 refine zae (i:=19) (v:=.pointer (some ⟨q,0,none⟩)) rfl (by kernel_rfl) (Or.inl ⟨rfl,fun W hW=>by have cj:=(hW.1.cell 0:W.cell? ⟨w.heap.size,0,none⟩=some (.pointer (some ⟨q,0,none⟩)));go_simp⟩) hS0 ?_
 simp only [pu]
 refine zae (i:=21) (v:=.pointer (some ⟨w.heap.size,0,none⟩)) rfl (by kernel_rfl) (Or.inl ⟨rfl,fun W hW=>by go_simp⟩) hS0 ?_
 simp only [pu]
 refine zae (i:=22) (v:=.pointer (some ⟨q,0,none⟩)) rfl (by kernel_rfl) (Or.inl ⟨rfl,fun W hW=>by have cj:=(hW.1.cell 0:W.cell? ⟨w.heap.size,0,none⟩=some (.pointer (some ⟨q,0,none⟩)));go_simp⟩) hS0 ?_
 simp only [pu]
 refine zap (i:=2) rfl (by kernel_rfl) (fun K hK=>?_)
 rw [if_pos (by rfl)]
 go_simp
 refine (zce h0 _ hR0).mono ?_
 rintro e u1 ⟨rfl,HR1,hC1⟩
 refine hK.out _ _ ⟨hS0.1.bt hC1.out hdq,hS0.2.trans hC1.out⟩ (fun hS1=>?_)
 clear hK
 try simp only [pu]
 have hR1:=HR1.out
 have hY1:=hY0.bt hC1.out (by omega)
 clear hS0 hR0 HR1 hY0
 refine zap (i:=5) rfl (by kernel_rfl) (fun K hK=>?_)
 rw [if_pos (by rfl)]
 go_simp
 refine (zce h1 _ hR1).mono ?_
 rintro e u2 ⟨rfl,HR2,hC2⟩
 refine hK.out _ _ ⟨hS1.1.bt hC2.out hdq,hS1.2.trans hC2.out⟩ (fun hS2=>?_)
 clear hK
 try simp only [pu]
 have hR2:=HR2.out
 have hY2:=hY1.bt hC2.out (by omega)
 clear hS1 hR1 HR2 hY1
 refine zap (i:=8) rfl (by kernel_rfl) (fun K hK=>?_)
 rw [if_pos (by rfl)]
 go_simp
 refine (zce h2 _ hR2).mono ?_
 rintro e u3 ⟨rfl,HR3,hC3⟩
 refine hK.out _ _ ⟨hS2.1.bt hC3.out hdq,hS2.2.trans hC3.out⟩ (fun hS3=>?_)
 clear hK
 try simp only [pu]
 have hR3:=HR3.out
 have hY3:=hY2.bt hC3.out (by omega)
 clear hS2 hR2 HR3 hY2
 refine zap (i:=11) rfl (by kernel_rfl) (fun K hK=>?_)
 rw [if_pos (by rfl)]
 go_simp
 refine (zce h3 _ hR3).mono ?_
 rintro e u4 ⟨rfl,HR4,hC4⟩
 refine hK.out _ _ ⟨hS3.1.bt hC4.out hdq,hS3.2.trans hC4.out⟩ (fun hS4=>?_)
 clear hK
 try simp only [pu]
 have hR4:=HR4.out
 have hY4:=hY3.bt hC4.out (by omega)
 clear hS3 hR3 HR4 hY3
 refine zap (i:=14) rfl (by kernel_rfl) (fun K hK=>?_)
 rw [if_pos (by rfl)]
 go_simp
 refine (zce h4 _ hR4).mono ?_
 rintro e u5 ⟨rfl,HR5,hC5⟩
 refine hK.out _ _ ⟨hS4.1.bt hC5.out hdq,hS4.2.trans hC5.out⟩ (fun hS5=>?_)
 clear hK
 try simp only [pu]
 have hR5:=HR5.out
 have hY5:=hY4.bt hC5.out (by omega)
 clear hS4 hR4 HR5 hY4
 refine zap (i:=17) rfl (by kernel_rfl) (fun K hK=>?_)
 rw [if_pos (by rfl)]
 go_simp
 refine (zce h5 _ hR5).mono ?_
 rintro e u6 ⟨rfl,HR6,hC6⟩
 refine hK.out _ _ ⟨hS5.1.bt hC6.out hdq,hS5.2.trans hC6.out⟩ (fun hS6=>?_)
 clear hK
 try simp only [pu]
 have hR6:=HR6.out
 have hY6:=hY5.bt hC6.out (by omega)
 clear hS5 hR5 HR6 hY5
 refine zap (i:=20) rfl (by kernel_rfl) (fun K hK=>?_)
 rw [if_pos (by rfl)]
 go_simp
 refine (zce h6 _ hR6).mono ?_
 rintro e u7 ⟨rfl,HR7,hC7⟩
 refine hK.out _ _ ⟨hS6.1.bt hC7.out hdq,hS6.2.trans hC7.out⟩ (fun hS7=>?_)
 clear hK
 try simp only [pu]
 have hR7:=HR7.out
 have hY7:=hY6.bt hC7.out (by omega)
 clear hS6 hR6 HR7 hY6
 refine zap (i:=23) rfl (by kernel_rfl) (fun K hK=>?_)
 rw [if_pos (by rfl)]
 go_simp
 refine (zce h7 _ hR7).mono ?_
 rintro e u8 ⟨rfl,HR8,hC8⟩
 refine hK.out _ _ ⟨hS7.1.bt hC8.out hdq,hS7.2.trans hC8.out⟩ (fun hS8=>?_)
 clear hK
 try simp only [pu]
 have hR8:=HR8.out
 have hY8:=hY7.bt hC8.out (by omega)
 clear hS7 hR7 HR8 hY7
 refine zae (i:=24) (v:=.agg #[.int .i64 a0,.int .i64 a1,.int .i64 a2,.int .i64 a3,.int .i64 a4,.int .i64 a5,.int .i64 a6,.int .i64 a7]) rfl (by kernel_rfl) (Or.inl ⟨rfl,fun W hW=>by go_simp⟩) hS8 ?_
 simp only [pu]
 refine zap (i:=25) rfl (by kernel_rfl) (fun K hK=>?_)
 rw [if_pos (by rfl)]
 refine zao _ _ 30 _ _ rfl _ _ rfl rfl (zbo _ (w.heap.size+1) _ #[.int .i64 a0,.int .i64 a1,.int .i64 a2,.int .i64 a3,.int .i64 a4,.int .i64 a5,.int .i64 a6,.int .i64 a7] ziw hY8 rfl rfl (by simp [Value.oneCell'])) ?_
 refine hK.out _ _ ⟨hS8.1.other (by omega),hS8.2.setRow (by omega)⟩ (fun hSz=>?_)
 clear hK
 try simp only [pu]
 have hld:=zo8 (u8.setRow (w.heap.size+1) #[.int .i64 a0,.int .i64 a1,.int .i64 a2,.int .i64 a3,.int .i64 a4,.int .i64 a5,.int .i64 a6,.int .i64 a7]) (w.heap.size+1) #[.int .i64 a0,.int .i64 a1,.int .i64 a2,.int .i64 a3,.int .i64 a4,.int .i64 a5,.int .i64 a6,.int .i64 a7] hY8.set rfl
 have HRz:Hid (Rm (u8.setRow (w.heap.size+1) #[.int .i64 a0,.int .i64 a1,.int .i64 a2,.int .i64 a3,.int .i64 a4,.int .i64 a5,.int .i64 a6,.int .i64 a7]) q r8):=hR8.setRow (by omega)
 have HBz:Hid (Bt q w (u8.setRow (w.heap.size+1) #[.int .i64 a0,.int .i64 a1,.int .i64 a2,.int .i64 a3,.int .i64 a4,.int .i64 a5,.int .i64 a6,.int .i64 a7])):=hSz.2
 refine wpAnyH_done (by kernel_rfl) ?_ _
 go_wp2_with fail
 refine bodyPost_ret (zaz _ _ 2 30 _ _ _ rfl rfl hld) rfl ?_
 exact ⟨rfl,HRz,HBz⟩
def pre {α:Type} (f:Rd→Rd × α):Nat→Rd→Rd × List α
 | 0,r=>(r,[])
 | n+1,r=>((f (pre f n r).1).1,(pre f n r).2++[(f (pre f n r).1).2])
def rep {α:Type} (f:Rd→Rd × α):Nat→Rd→Rd × List α
 | 0,r=>(r,[])
 | n+1,r=>if r.e≠0 then (r,[]) else ((rep f n (f r).1).1,(f r).2::(rep f n (f r).1).2)
theorem zgk {α:Type} (f:Rd→Rd × α):∀(n:Nat) (r:Rd),pre f (n+1) r=((pre f n (f r).1).1,(f r).2::(pre f n (f r).1).2)
  | 0,r=>rfl
  | n + 1, r => by
    show ((f (pre f (n+1) r).1).1,(pre f (n+1) r).2++[(f (pre f (n+1) r).1).2])=_
    rw [zgk f n r]
    rfl
theorem zi0 {α:Type} (f:Rd→Rd × α) (hb:∀r,r.e≠0→(f r).1=r):∀(n:Nat) (r:Rd),r.e≠0→(pre f n r).1=r
  | 0,r,_=>rfl
  | n + 1, r, h => by
    show (f (pre f n r).1).1=r
    rw [zi0 f hb n r h,hb r h]
theorem ze1 {α:Type} (f:Rd→Rd × α) (hb:∀r,r.e≠0→(f r).1=r):∀(n:Nat) (r:Rd),(pre f n r).1=(rep f n r).1∧((rep f n r).1.e=0→(pre f n r).2=(rep f n r).2)
  | 0,r=>⟨rfl,fun _=>rfl⟩
  | n + 1, r => by
    rw [zgk]
    by_cases h:r.e≠0
    · have e : rep f (n + 1) r = (r, []) := if_pos h
      rw [e]
      refine ⟨?_,fun h0=>absurd h0 h⟩
      show (pre f n (f r).1).1=r
      rw [hb r h]
      exact zi0 f hb n r h
    · have e : rep f (n + 1) r = ((rep f n (f r).1).1, (f r).2 :: (rep f n (f r).1).2) := if_neg h
      rw [e]
      obtain ⟨h1,h2⟩:=ze1 f hb n (f r).1
      exact ⟨h1,fun h0=>by show _::_=_::_;rw [h2 h0]⟩
theorem zb9 {α:Type} (f:Rd→Rd × α):∀(n:Nat) (r:Rd),(pre f n r).2.length=n
 | 0,r=>rfl
 | n+1,r=>by show ((pre f n r).2++[_]).length=_;rw [List.length_append,zb9 f n r];rfl
theorem zeb:∀(n:Nat) (r:Rd),zbf n r=rep za9 n r
 | 0,_=>rfl
 | n+1,r=>by show (if r.e≠0 then _ else _)=(if r.e≠0 then _ else _);rw [zeb n]
theorem zfo:∀(n:Nat) (r:Rd),zbz n r=rep zbl n r
 | 0,_=>rfl
 | n+1,r=>by show (if r.e≠0 then _ else _)=(if r.e≠0 then _ else _);rw [zfo n]
theorem zgl {r:Rd} (h:r.e≠0):(za9 r).1=r:=by unfold za9;rw [zcu h,zcz h]
theorem zkm {r:Rd} (h:r.e≠0):(zbl r).1=r:=by unfold zbl;rw [zcz h,zcz h,zcz h]
theorem zi1 (r:Rd) (m:Int):zai r m=if (zas r).1.e≠0 then ((zas r).1,0) else if m<((zas r).2:Int) then (r.fl 2,0) else zas r:=rfl
theorem zcl (r:Rd):(zai r 64).2≤64:=by
 rw [zi1]
 split
 ·exact Nat.zero_le _
 ·split
  ·exact Nat.zero_le _
  ·rename_i h;omega
def LsP (e sz n:Nat) (cs:List Value) (q:Nat) (r:Rd) (w:World) (E:Ending) (w':World):Prop:=∃a c,E=.returned (.slice a n c)∧Hid (w'.ownsRow w.heap.size e sz (.slice a n c) n cs)∧Hid (Rm w' q r)∧Hid (Bt q w w')
theorem zc4 {B e sz n:Nat} {w:World} {v:Value} {xs:List Value} (h:w.ownsRow B e sz v n xs):∃a c,v=.slice a n c:=by
 rcases h.2 with ⟨hv,hn⟩ | ⟨g,cap,cur,hv,_⟩
 ·exact ⟨none,0,by rw [hv,hn]⟩
 ·exact ⟨_,cap,hv⟩
theorem zs5 {q:Nat} {r r1:Rd} {m:Int} {a:List Int} (hm:I64 m) (h:zbq r m=(r1,a)) (w:World) (hR:Rm w q r) (hs:r.s.length≤1099511627776):Calls Tryz.prog 111 #[.pointer (some ⟨q,0,none⟩),.int .i64 m] w (LsP 3 1 a.length (zal a) q r1 w):=
 (zvw hm h w hR hs).mono fun e w' ⟨v,xs,he,ho,hx,hr,hb⟩=>by
  have hx:=hx.out
  subst hx
  obtain ⟨p,c,rfl⟩:=zc4 ho.out
  exact ⟨p,c,he,ho,hr,hb⟩
theorem zvx {q:Nat} {r r1:Rd} {N:Nat} (h1:zai r 64=(r1,N)) (w:World) (hR:Rm w q r) (hs:r.s.length≤281474976710656):Calls Tryz.prog 86 #[.agg #[.pointer (some ⟨q,0,none⟩)]] w (LsP 32 2 N (zav (pre za9 N r1).2) q (pre za9 N r1).1 w):=by
 have hN:N≤64:=by have:=zcl r;rw [h1] at this;exact this
 have hs1:r1.s=r.s:=by have:=(zbt (show r.Ok from hR.le) 64).2;rw [h1] at this;exact this
 have HSr:Hid (r1.s.length≤281474976710656):=by unfold Hid;rw [hs1];exact hs
 have HX0:Hid (Bx (w.alloc (.cells #[.pointer (some ⟨q,0,none⟩)] 133)) w.heap.size #[.pointer (some ⟨q,0,none⟩)] 133):=Bx.new _ _ _
 have HR0:Hid (Rm (w.alloc (.cells #[.pointer (some ⟨q,0,none⟩)] 133)) q r):=hR.keep (zab _ _)
 have HB0:Hid (Bt q w (w.alloc (.cells #[.pointer (some ⟨q,0,none⟩)] 133))):=Bt.of_below (zab w _)
 have hsz0:w.heap.size+1≤(w.alloc (.cells #[.pointer (some ⟨q,0,none⟩)] 133)).heap.size:=by rw [zan];omega
 have hdq:w.heap.size≠q:=Nat.ne_of_gt hR.lt
 have hqs:q<w.heap.size:=hR.lt
 clear hR
 go_enter Tryz.func86,Tryz.ntmps86
 go_upto_region 1 with fail
 generalize (w.alloc (.cells #[.pointer (some ⟨q,0,none⟩)] 133))=w1 at *
 have c0:w1.cell? ⟨w.heap.size,0,none⟩=some (.pointer (some ⟨q,0,none⟩)):=HX0.out.cell 0
 go_wp2_with fail
 refine (ziz ⟨by decide,by decide⟩ h1 _ HR0.out).mono ?_
 rintro e w2 ⟨rfl,HR2,HB2⟩
 have HX2:Hid (Bx w2 w.heap.size #[.pointer (some ⟨q,0,none⟩)] 133):=HX0.out.bt HB2.out hdq
 have HB3:Hid (Bt q w w2):=HB0.out.trans HB2.out
 have hsz2:w.heap.size+1≤w2.heap.size:=Nat.le_trans hsz0 HB2.out.size
 clear HB0 HB2 HR0 HX0 c0 hsz0 hs hs1 h1
 go_wp2_with fail
 go_loopw [3,7] (fun v i wr=>∃(k:Nat),i=.int .i64 k∧k≤N∧Hid (wr.ownsRow (w.heap.size+1) 32 2 v (pre za9 k r1).2.length (zav (pre za9 k r1).2))∧Hid (Rm wr q (pre za9 k r1).1)∧Hid ((pre za9 k r1).1.s.length≤281474976710656)∧Hid (Bt q w wr)∧Hid (Bx wr w.heap.size #[.pointer (some ⟨q,0,none⟩)] 133)∧w.heap.size+1≤wr.heap.size) (fun _ i _=>N-(Lib.intOf i).toNat)
 case atStart=>exact ⟨0,rfl,Nat.zero_le _,World.ownsRow_nil _ _ _ _,HR2,HSr,HB3,HX2,hsz2⟩
 case round=>
  clear HR2 HB3 HX2 hsz2
  obtain ⟨k,rfl,hk,HOk,HRk,HSk,HBk,HXk,hszk⟩:=hrel
  by_cases hkn:k<N
  ·have hkz:(k:Int)<(N:Int):=by omega
   have HLk:Hid ((pre za9 k r1).2.length=k):=zb9 za9 k r1
   have HE1:Hid ((pre za9 (k+1) r1).1=(za9 (pre za9 k r1).1).1):=rfl
   have HE2:Hid ((pre za9 (k+1) r1).2=(pre za9 k r1).2++[(za9 (pre za9 k r1).1).2]):=rfl
   have HS2:Hid ((za9 (pre za9 k r1).1).1.s.length≤281474976710656):=by unfold Hid;rw [(zqd _ (show (pre za9 k r1).1.Ok from HRk.out.le)).2.1];exact HSk.out
   have HCk:Hid (∀W,Rm W q (pre za9 k r1).1→Calls Tryz.prog 85 #[.agg #[.pointer (some ⟨q,0,none⟩)]] W (RP q (.agg #[.string ⟨(za9 (pre za9 k r1).1).2.i.toArray⟩,.int .i64 (za9 (pre za9 k r1).1).2.q]) (za9 (pre za9 k r1).1).1 W)):=fun W h=>zs4 rfl rfl W h HSk.out
   generalize (pre za9 k r1).1=rk at *
   generalize (pre za9 k r1).2=ys at *
   generalize hP1:(pre za9 (k+1) r1).1=R1 at *
   generalize hP2:(pre za9 (k+1) r1).2=Y1 at *
   generalize (za9 rk).1=r2 at *
   generalize (za9 rk).2=y at *
   have d0:wr.cell? ⟨w.heap.size,0,none⟩=some (.pointer (some ⟨q,0,none⟩)):=HXk.out.cell 0
   go_wp2_with fail
   refine (HCk.out _ HRk.out).mono ?_
   rintro e w3 ⟨rfl,HR3,HC3⟩
   have HO3:Hid (w3.ownsRow (w.heap.size+1) 32 2 u3 ys.length (zav ys)):=za8 HOk.out (by omega) HC3.out
   have hs3:w.heap.size+1≤w3.heap.size:=Nat.le_trans hszk HC3.out.size
   have hly:ys.length≤1000000:=by have:=HLk.out;omega
   obtain ⟨v',w4,hr4,ho4,hg4⟩:=zix HO3.out hs3 y hly
   have HR4:Hid _:=hr4
   have hbw:Below (w.heap.size+1) w3 w4:=((Below.refl (w.heap.size+1) w3).alloc hs3 _).grown hg4 (by rw [zan];omega) (fun j hj=>(HO3.out.lt j hj).1)
   have HO4:Hid (w4.ownsRow (w.heap.size+1) 32 2 v' Y1.length (zav Y1)):=by unfold Hid;rw [HE2.out];exact ho4
   have HRm4:Hid (Rm w4 q R1):=by unfold Hid;rw [HE1.out];exact HR3.out.same (hbw.block q (by omega))
   have HS4:Hid (R1.s.length≤281474976710656):=by unfold Hid;rw [HE1.out];exact HS2.out
   have HB3:Hid (Bt q w w3):=HBk.out.trans HC3.out
   have HB4:Hid (Bt q w w4):=⟨hbw.os.trans HB3.out.os,hbw.tape.trans HB3.out.tape,hbw.output.trans HB3.out.output,Nat.le_trans HB3.out.size hbw.size,fun i hi hn=>(hbw.block i (by omega)).trans (HB3.out.block i hi hn)⟩
   have HX4:Hid (Bx w4 w.heap.size #[.pointer (some ⟨q,0,none⟩)] 133):=(hbw.block _ (by omega)).trans (HXk.out.bt HC3.out hdq)
   have hs4:w.heap.size+1≤w4.heap.size:=Nat.le_trans hs3 hbw.size
   clear ho4 hg4 hr4 HB3 HO3
   clear hbw HR3 HC3 HXk HBk HRk HOk HCk d0
   go_wp2_with (at_builtin;refine Lib.wpList_append_run _ rfl _ _ 33 33 rfl _ _ rfl rfl _ w4 HR4.out ?_)
   subst hP1
   subst hP2
   exact ⟨⟨k+1,by go_num,by omega,HO4.out,HRm4.out,HS4.out,HB4.out,HX4.out,hs4⟩,by simp [Lib.intOf];omega⟩
  ·have hkz:¬ (k:Int)<(N:Int):=by omega
   have hkN:k=N:=by omega
   subst hkN
   have hLf:=zb9 za9 k r1
   have hOf:=HOk.out
   rw [hLf] at hOf
   obtain ⟨fa,fc,hv⟩:=zc4 hOf
   subst hv
   have HOf:Hid (wr.ownsRow w.heap.size 32 2 (.slice fa k fc) k (zav (pre za9 k r1).2)):=zau hOf (by omega)
   clear hOf HOk hLf
   go_wp2_with fail
   go_ret
   exact ⟨fa,fc,rfl,HOf,HRk,HBk⟩
theorem zpb {q:Nat} {r r1:Rd} {N:Nat} (h1:zai r 64=(r1,N)) (w:World) (hR:Rm w q r) (hs:r.s.length≤281474976710656):Calls Tryz.prog 82 #[.agg #[.pointer (some ⟨q,0,none⟩)]] w (LsP 128 2 N (zav (pre za9 N r1).2) q (pre za9 N r1).1 w):=by
 have hN:N≤64:=by have:=zcl r;rw [h1] at this;exact this
 have hs1:r1.s=r.s:=by have:=(zbt (show r.Ok from hR.le) 64).2;rw [h1] at this;exact this
 have HSr:Hid (r1.s.length≤281474976710656):=by unfold Hid;rw [hs1];exact hs
 have HX0:Hid (Bx (w.alloc (.cells #[.pointer (some ⟨q,0,none⟩)] 133)) w.heap.size #[.pointer (some ⟨q,0,none⟩)] 133):=Bx.new _ _ _
 have HR0:Hid (Rm (w.alloc (.cells #[.pointer (some ⟨q,0,none⟩)] 133)) q r):=hR.keep (zab _ _)
 have HB0:Hid (Bt q w (w.alloc (.cells #[.pointer (some ⟨q,0,none⟩)] 133))):=Bt.of_below (zab w _)
 have hsz0:w.heap.size+1≤(w.alloc (.cells #[.pointer (some ⟨q,0,none⟩)] 133)).heap.size:=by rw [zan];omega
 have hdq:w.heap.size≠q:=Nat.ne_of_gt hR.lt
 have hqs:q<w.heap.size:=hR.lt
 clear hR
 go_enter Tryz.func82,Tryz.ntmps82
 go_upto_region 1 with fail
 generalize (w.alloc (.cells #[.pointer (some ⟨q,0,none⟩)] 133))=w1 at *
 have c0:w1.cell? ⟨w.heap.size,0,none⟩=some (.pointer (some ⟨q,0,none⟩)):=HX0.out.cell 0
 go_wp2_with fail
 refine (ziz ⟨by decide,by decide⟩ h1 _ HR0.out).mono ?_
 rintro e w2 ⟨rfl,HR2,HB2⟩
 have HX2:Hid (Bx w2 w.heap.size #[.pointer (some ⟨q,0,none⟩)] 133):=HX0.out.bt HB2.out hdq
 have HB3:Hid (Bt q w w2):=HB0.out.trans HB2.out
 have hsz2:w.heap.size+1≤w2.heap.size:=Nat.le_trans hsz0 HB2.out.size
 clear HB0 HB2 HR0 HX0 c0 hsz0 hs hs1 h1
 go_wp2_with fail
 go_loopw [3,7] (fun v i wr=>∃(k:Nat),i=.int .i64 k∧k≤N∧Hid (wr.ownsRow (w.heap.size+1) 128 2 v (pre za9 k r1).2.length (zav (pre za9 k r1).2))∧Hid (Rm wr q (pre za9 k r1).1)∧Hid ((pre za9 k r1).1.s.length≤281474976710656)∧Hid (Bt q w wr)∧Hid (Bx wr w.heap.size #[.pointer (some ⟨q,0,none⟩)] 133)∧w.heap.size+1≤wr.heap.size) (fun _ i _=>N-(Lib.intOf i).toNat)
 case atStart=>exact ⟨0,rfl,Nat.zero_le _,World.ownsRow_nil _ _ _ _,HR2,HSr,HB3,HX2,hsz2⟩
 case round=>
  clear HR2 HB3 HX2 hsz2
  obtain ⟨k,rfl,hk,HOk,HRk,HSk,HBk,HXk,hszk⟩:=hrel
  by_cases hkn:k<N
  ·have hkz:(k:Int)<(N:Int):=by omega
   have HLk:Hid ((pre za9 k r1).2.length=k):=zb9 za9 k r1
   have HE1:Hid ((pre za9 (k+1) r1).1=(za9 (pre za9 k r1).1).1):=rfl
   have HE2:Hid ((pre za9 (k+1) r1).2=(pre za9 k r1).2++[(za9 (pre za9 k r1).1).2]):=rfl
   have HS2:Hid ((za9 (pre za9 k r1).1).1.s.length≤281474976710656):=by unfold Hid;rw [(zqd _ (show (pre za9 k r1).1.Ok from HRk.out.le)).2.1];exact HSk.out
   have HC1:Hid (∀W,Rm W q (pre za9 k r1).1→Calls Tryz.prog 83 #[.agg #[.pointer (some ⟨q,0,none⟩)]] W (RP q (.string ⟨(za9 (pre za9 k r1).1).2.i.toArray⟩) (za4 (pre za9 k r1).1 12).1 W)):=fun W h=>zf3 rfl W h HSk.out
   have HC2:Hid (∀W,Rm W q (za4 (pre za9 k r1).1 12).1→Calls Tryz.prog 57 #[.pointer (some ⟨q,0,none⟩)] W (RP q (.int .i64 (za9 (pre za9 k r1).1).2.q) (za9 (pre za9 k r1).1).1 W)):=fun W h=>zce rfl W h
   generalize (za4 (pre za9 k r1).1 12).1=ra at *
   generalize (pre za9 k r1).1=rk at *
   generalize (pre za9 k r1).2=ys at *
   generalize hP1:(pre za9 (k+1) r1).1=R1 at *
   generalize hP2:(pre za9 (k+1) r1).2=Y1 at *
   generalize (za9 rk).1=r2 at *
   generalize (za9 rk).2=y at *
   go_wp2_with fail
   refine wp_region_held (S:=fun W=>Bx W w.heap.size #[.pointer (some ⟨q,0,none⟩)] 133∧Bt q w W) (by kernel_rfl) ?_
   change wpAnyH _ _ _ _ _ 10 #[false,false,false,false,false,false,false,false,false,false] _ wr.drew
   have hS0:Bx wr.drew w.heap.size #[.pointer (some ⟨q,0,none⟩)] 133∧Bt q w wr.drew:=⟨HXk.out,HBk.out.drewN 1⟩
   have hR0:Rm wr.drew q rk:=HRk.out.drewN 1
   have hD0:Bt q wr wr.drew:=(Bt.refl q wr).drewN 1
   obtain ⟨v0,hv0⟩:∃v,v=wr.drew:=⟨_,rfl⟩
   rw [← hv0] at hS0 hR0 hD0 ⊢
   clear hv0
   refine zae (i:=0) (v:=u3) rfl (by kernel_rfl) (Or.inl ⟨rfl,fun _ _=>rfl⟩) hS0 ?_
   simp only [pu]
   refine zae (i:=1) (v:=.agg #[.pointer (some ⟨q,0,none⟩)]) rfl (by kernel_rfl) (Or.inl ⟨rfl,fun W hW=>by have cj:=(hW.1.cell 0:W.cell? ⟨w.heap.size,0,none⟩=some (.pointer (some ⟨q,0,none⟩)));go_simp⟩) hS0 ?_
   simp only [pu]
   refine zae (i:=3) (v:=.pointer (some ⟨w.heap.size,0,none⟩)) rfl (by kernel_rfl) (Or.inl ⟨rfl,fun W hW=>by go_simp⟩) hS0 ?_
   simp only [pu]
   refine zae (i:=4) (v:=.pointer (some ⟨q,0,none⟩)) rfl (by kernel_rfl) (Or.inl ⟨rfl,fun W hW=>by have cj:=(hW.1.cell 0:W.cell? ⟨w.heap.size,0,none⟩=some (.pointer (some ⟨q,0,none⟩)));go_simp⟩) hS0 ?_
   simp only [pu]
   refine zap (i:=2) rfl (by kernel_rfl) (fun K hK=>?_)
   rw [if_pos (by rfl)]
   go_simp
   refine (HC1.out _ hR0).mono ?_
   rintro e x1 ⟨rfl,HRx1,hC1⟩
   refine hK.out _ _ ⟨hS0.1.bt hC1.out hdq,hS0.2.trans hC1.out⟩ (fun hS1=>?_)
   clear hK
   try simp only [pu]
   have hR1:=HRx1.out
   have hD1:=hD0.trans hC1.out
   refine zap (i:=5) rfl (by kernel_rfl) (fun K hK=>?_)
   rw [if_pos (by rfl)]
   go_simp
   refine (HC2.out _ hR1).mono ?_
   rintro e x2 ⟨rfl,HRx2,hC2⟩
   refine hK.out _ _ ⟨hS1.1.bt hC2.out hdq,hS1.2.trans hC2.out⟩ (fun hS2=>?_)
   clear hK
   try simp only [pu]
   have hR2:=HRx2.out
   have hD2:=hD1.trans hC2.out
   refine zae (i:=6) (v:=.agg #[.string ⟨y.i.toArray⟩,.int .i64 y.q]) rfl (by kernel_rfl) (Or.inl ⟨rfl,fun W hW=>by go_simp⟩) hS2 ?_
   simp only [pu]
   have HR3:Hid (Rm x2 q r2):=hR2
   have HC3:Hid (Bt q wr x2):=hD2
   have hS3:=hS2
   generalize x2=w3 at *
   have HO3:Hid (w3.ownsRow (w.heap.size+1) 128 2 u3 ys.length (zav ys)):=za8 HOk.out (by omega) HC3.out
   have hs3:w.heap.size+1≤w3.heap.size:=Nat.le_trans hszk HC3.out.size
   have hly:ys.length≤1000000:=by have:=HLk.out;omega
   obtain ⟨v',w4,hr4,ho4,hg4⟩:=zfn HO3.out hs3 y hly
   have HR4:Hid _:=hr4
   have hbw:Below (w.heap.size+1) w3 w4:=((Below.refl (w.heap.size+1) w3).alloc hs3 _).grown hg4 (by rw [zan];omega) (fun j hj=>(HO3.out.lt j hj).1)
   have HO4:Hid (w4.ownsRow (w.heap.size+1) 128 2 v' Y1.length (zav Y1)):=by unfold Hid;rw [HE2.out];exact ho4
   have HRm4:Hid (Rm w4 q R1):=by unfold Hid;rw [HE1.out];exact HR3.out.same (hbw.block q (by omega))
   have HS4:Hid (R1.s.length≤281474976710656):=by unfold Hid;rw [HE1.out];exact HS2.out
   have HB3:Hid (Bt q w w3):=HBk.out.trans HC3.out
   have HB4:Hid (Bt q w w4):=⟨hbw.os.trans HB3.out.os,hbw.tape.trans HB3.out.tape,hbw.output.trans HB3.out.output,Nat.le_trans HB3.out.size hbw.size,fun i hi hn=>(hbw.block i (by omega)).trans (HB3.out.block i hi hn)⟩
   have HX4:Hid (Bx w4 w.heap.size #[.pointer (some ⟨q,0,none⟩)] 133):=(hbw.block _ (by omega)).trans (HXk.out.bt HC3.out hdq)
   have hs4:w.heap.size+1≤w4.heap.size:=Nat.le_trans hs3 hbw.size
   clear ho4 hg4 hr4 HB3 HO3
   refine zap (i:=7) rfl (by kernel_rfl) (fun K hK=>?_)
   rw [if_pos (by rfl)]
   go_simp
   refine hK.out _ _ ⟨hS3.1.keep (zab _ _),hS3.2.trans (Bt.of_below (zab _ _))⟩ (fun hS4=>?_)
   clear hK
   try simp only [pu]
   refine zap (i:=8) rfl (by kernel_rfl) (fun K hK=>?_)
   rw [if_pos (by rfl)]
   refine Lib.wp_append_run _ _ _ 28 28 rfl _ _ rfl rfl v' w4 HR4.out ?_
   refine hK.out _ _ ⟨HX4.out,HB4.out⟩ (fun hS5=>?_)
   clear hK
   try simp only [pu]
   refine zae (i:=9) (v:=v') rfl (by kernel_rfl) (Or.inl ⟨rfl,fun _ _=>rfl⟩) hS5 ?_
   simp only [pu]
   refine wpAnyH_done (by kernel_rfl) ?_ _
   go_wp2_with fail
   subst hP1
   subst hP2
   exact ⟨⟨k+1,by go_num,by omega,HO4.out,HRm4.out,HS4.out,HB4.out,HX4.out,hs4⟩,by simp [Lib.intOf];omega⟩
  ·have hkz:¬ (k:Int)<(N:Int):=by omega
   have hkN:k=N:=by omega
   subst hkN
   have hLf:=zb9 za9 k r1
   have hOf:=HOk.out
   rw [hLf] at hOf
   obtain ⟨fa,fc,hv⟩:=zc4 hOf
   subst hv
   have HOf:Hid (wr.ownsRow w.heap.size 128 2 (.slice fa k fc) k (zav (pre za9 k r1).2)):=zau hOf (by omega)
   clear hOf HOk hLf
   go_wp2_with fail
   go_ret
   exact ⟨fa,fc,rfl,HOf,HRk,HBk⟩
theorem zs6 {q:Nat} {r r1:Rd} {N:Nat} (h1:zai r 64=(r1,N)) (w:World) (hR:Rm w q r) (hs:r.s.length≤281474976710656):Calls Tryz.prog 110 #[.agg #[.pointer (some ⟨q,0,none⟩)]] w (LsP 112 3 N (zba (pre zbl N r1).2) q (pre zbl N r1).1 w):=by
 have hN:N≤64:=by have:=zcl r;rw [h1] at this;exact this
 have hs1:r1.s=r.s:=by have:=(zbt (show r.Ok from hR.le) 64).2;rw [h1] at this;exact this
 have HSr:Hid (r1.s.length≤281474976710656):=by unfold Hid;rw [hs1];exact hs
 have HX0:Hid (Bx (w.alloc (.cells #[.pointer (some ⟨q,0,none⟩)] 133)) w.heap.size #[.pointer (some ⟨q,0,none⟩)] 133):=Bx.new _ _ _
 have HR0:Hid (Rm (w.alloc (.cells #[.pointer (some ⟨q,0,none⟩)] 133)) q r):=hR.keep (zab _ _)
 have HB0:Hid (Bt q w (w.alloc (.cells #[.pointer (some ⟨q,0,none⟩)] 133))):=Bt.of_below (zab w _)
 have hsz0:w.heap.size+1≤(w.alloc (.cells #[.pointer (some ⟨q,0,none⟩)] 133)).heap.size:=by rw [zan];omega
 have hdq:w.heap.size≠q:=Nat.ne_of_gt hR.lt
 have hqs:q<w.heap.size:=hR.lt
 clear hR
 go_enter Tryz.func110,Tryz.ntmps110
 go_upto_region 1 with fail
 generalize (w.alloc (.cells #[.pointer (some ⟨q,0,none⟩)] 133))=w1 at *
 have c0:w1.cell? ⟨w.heap.size,0,none⟩=some (.pointer (some ⟨q,0,none⟩)):=HX0.out.cell 0
 go_wp2_with fail
 refine (ziz ⟨by decide,by decide⟩ h1 _ HR0.out).mono ?_
 rintro e w2 ⟨rfl,HR2,HB2⟩
 have HX2:Hid (Bx w2 w.heap.size #[.pointer (some ⟨q,0,none⟩)] 133):=HX0.out.bt HB2.out hdq
 have HB3:Hid (Bt q w w2):=HB0.out.trans HB2.out
 have hsz2:w.heap.size+1≤w2.heap.size:=Nat.le_trans hsz0 HB2.out.size
 clear HB0 HB2 HR0 HX0 c0 hsz0 hs hs1 h1
 go_wp2_with fail
 go_loopw [3,7] (fun v i wr=>∃(k:Nat),i=.int .i64 k∧k≤N∧Hid (wr.ownsRow (w.heap.size+1) 112 3 v (pre zbl k r1).2.length (zba (pre zbl k r1).2))∧Hid (Rm wr q (pre zbl k r1).1)∧Hid ((pre zbl k r1).1.s.length≤281474976710656)∧Hid (Bt q w wr)∧Hid (Bx wr w.heap.size #[.pointer (some ⟨q,0,none⟩)] 133)∧w.heap.size+1≤wr.heap.size) (fun _ i _=>N-(Lib.intOf i).toNat)
 case atStart=>exact ⟨0,rfl,Nat.zero_le _,World.ownsRow_nil _ _ _ _,HR2,HSr,HB3,HX2,hsz2⟩
 case round=>
  clear HR2 HB3 HX2 hsz2
  obtain ⟨k,rfl,hk,HOk,HRk,HSk,HBk,HXk,hszk⟩:=hrel
  by_cases hkn:k<N
  ·have hkz:(k:Int)<(N:Int):=by omega
   have HLk:Hid ((pre zbl k r1).2.length=k):=zb9 zbl k r1
   have HE1:Hid ((pre zbl (k+1) r1).1=(zbl (pre zbl k r1).1).1):=rfl
   have HE2:Hid ((pre zbl (k+1) r1).2=(pre zbl k r1).2++[(zbl (pre zbl k r1).1).2]):=rfl
   have HS2:Hid ((zbl (pre zbl k r1).1).1.s.length≤281474976710656):=by unfold Hid;rw [(zuc _ (show (pre zbl k r1).1.Ok from HRk.out.le)).2.1];exact HSk.out
   have HC1:Hid (∀W,Rm W q (pre zbl k r1).1→Calls Tryz.prog 57 #[.pointer (some ⟨q,0,none⟩)] W (RP q (.int .i64 (zbl (pre zbl k r1).1).2.d) (zah (pre zbl k r1).1).1 W)):=fun W h=>zce rfl W h
   have HC2:Hid (∀W,Rm W q (zah (pre zbl k r1).1).1→Calls Tryz.prog 57 #[.pointer (some ⟨q,0,none⟩)] W (RP q (.int .i64 (zbl (pre zbl k r1).1).2.r) (zah (zah (pre zbl k r1).1).1).1 W)):=fun W h=>zce rfl W h
   have HC3':Hid (∀W,Rm W q (zah (zah (pre zbl k r1).1).1).1→Calls Tryz.prog 57 #[.pointer (some ⟨q,0,none⟩)] W (RP q (.int .i64 (zbl (pre zbl k r1).1).2.c) (zbl (pre zbl k r1).1).1 W)):=fun W h=>zce rfl W h
   generalize (zah (zah (pre zbl k r1).1).1).1=rb at *
   generalize (zah (pre zbl k r1).1).1=ra at *
   generalize (pre zbl k r1).1=rk at *
   generalize (pre zbl k r1).2=ys at *
   generalize hP1:(pre zbl (k+1) r1).1=R1 at *
   generalize hP2:(pre zbl (k+1) r1).2=Y1 at *
   generalize (zbl rk).1=r2 at *
   generalize (zbl rk).2=y at *
   go_wp2_with fail
   refine wp_region_held (S:=fun W=>Bx W w.heap.size #[.pointer (some ⟨q,0,none⟩)] 133∧Bt q w W) (by kernel_rfl) ?_
   change wpAnyH _ _ _ _ _ 14 #[false,false,false,false,false,false,false,false,false,false,false,false,false,false] _ wr.drew
   have hS0:Bx wr.drew w.heap.size #[.pointer (some ⟨q,0,none⟩)] 133∧Bt q w wr.drew:=⟨HXk.out,HBk.out.drewN 1⟩
   have hR0:Rm wr.drew q rk:=HRk.out.drewN 1
   have hD0:Bt q wr wr.drew:=(Bt.refl q wr).drewN 1
   obtain ⟨v0,hv0⟩:∃v,v=wr.drew:=⟨_,rfl⟩
   rw [← hv0] at hS0 hR0 hD0 ⊢
   clear hv0
   refine zae (i:=0) (v:=u3) rfl (by kernel_rfl) (Or.inl ⟨rfl,fun _ _=>rfl⟩) hS0 ?_
   simp only [pu]
   refine zae (i:=1) (v:=.pointer (some ⟨w.heap.size,0,none⟩)) rfl (by kernel_rfl) (Or.inl ⟨rfl,fun W hW=>by go_simp⟩) hS0 ?_
   simp only [pu]
   refine zae (i:=2) (v:=.pointer (some ⟨q,0,none⟩)) rfl (by kernel_rfl) (Or.inl ⟨rfl,fun W hW=>by have cj:=(hW.1.cell 0:W.cell? ⟨w.heap.size,0,none⟩=some (.pointer (some ⟨q,0,none⟩)));go_simp⟩) hS0 ?_
   simp only [pu]
   refine zae (i:=4) (v:=.pointer (some ⟨w.heap.size,0,none⟩)) rfl (by kernel_rfl) (Or.inl ⟨rfl,fun W hW=>by go_simp⟩) hS0 ?_
   simp only [pu]
   refine zae (i:=5) (v:=.pointer (some ⟨q,0,none⟩)) rfl (by kernel_rfl) (Or.inl ⟨rfl,fun W hW=>by have cj:=(hW.1.cell 0:W.cell? ⟨w.heap.size,0,none⟩=some (.pointer (some ⟨q,0,none⟩)));go_simp⟩) hS0 ?_
   simp only [pu]
   refine zae (i:=7) (v:=.pointer (some ⟨w.heap.size,0,none⟩)) rfl (by kernel_rfl) (Or.inl ⟨rfl,fun W hW=>by go_simp⟩) hS0 ?_
   simp only [pu]
   refine zae (i:=8) (v:=.pointer (some ⟨q,0,none⟩)) rfl (by kernel_rfl) (Or.inl ⟨rfl,fun W hW=>by have cj:=(hW.1.cell 0:W.cell? ⟨w.heap.size,0,none⟩=some (.pointer (some ⟨q,0,none⟩)));go_simp⟩) hS0 ?_
   simp only [pu]
   refine zap (i:=3) rfl (by kernel_rfl) (fun K hK=>?_)
   rw [if_pos (by rfl)]
   go_simp
   refine (HC1.out _ hR0).mono ?_
   rintro e x1 ⟨rfl,HRx1,hC1⟩
   refine hK.out _ _ ⟨hS0.1.bt hC1.out hdq,hS0.2.trans hC1.out⟩ (fun hS1=>?_)
   clear hK
   try simp only [pu]
   have hR1:=HRx1.out
   have hD1:=hD0.trans hC1.out
   refine zap (i:=6) rfl (by kernel_rfl) (fun K hK=>?_)
   rw [if_pos (by rfl)]
   go_simp
   refine (HC2.out _ hR1).mono ?_
   rintro e x2 ⟨rfl,HRx2,hC2⟩
   refine hK.out _ _ ⟨hS1.1.bt hC2.out hdq,hS1.2.trans hC2.out⟩ (fun hS2=>?_)
   clear hK
   try simp only [pu]
   have hR2:=HRx2.out
   have hD2:=hD1.trans hC2.out
   refine zap (i:=9) rfl (by kernel_rfl) (fun K hK=>?_)
   rw [if_pos (by rfl)]
   go_simp
   refine (HC3'.out _ hR2).mono ?_
   rintro e x3 ⟨rfl,HRx3,hC3⟩
   refine hK.out _ _ ⟨hS2.1.bt hC3.out hdq,hS2.2.trans hC3.out⟩ (fun hS3=>?_)
   clear hK
   try simp only [pu]
   have hR3:=HRx3.out
   have hD3:=hD2.trans hC3.out
   refine zae (i:=10) (v:=.agg #[.int .i64 y.d,.int .i64 y.r,.int .i64 y.c]) rfl (by kernel_rfl) (Or.inl ⟨rfl,fun W hW=>by go_simp⟩) hS3 ?_
   simp only [pu]
   have HR3:Hid (Rm x3 q r2):=hR3
   have HC3:Hid (Bt q wr x3):=hD3
   have hS3:=hS3
   generalize x3=w3 at *
   have HO3:Hid (w3.ownsRow (w.heap.size+1) 112 3 u3 ys.length (zba ys)):=za8 HOk.out (by omega) HC3.out
   have hs3:w.heap.size+1≤w3.heap.size:=Nat.le_trans hszk HC3.out.size
   have hly:ys.length≤1000000:=by have:=HLk.out;omega
   obtain ⟨v',w4,hr4,ho4,hg4⟩:=ziy HO3.out hs3 y hly
   have HR4:Hid _:=hr4
   have hbw:Below (w.heap.size+1) w3 w4:=((Below.refl (w.heap.size+1) w3).alloc hs3 _).grown hg4 (by rw [zan];omega) (fun j hj=>(HO3.out.lt j hj).1)
   have HO4:Hid (w4.ownsRow (w.heap.size+1) 112 3 v' Y1.length (zba Y1)):=by unfold Hid;rw [HE2.out];exact ho4
   have HRm4:Hid (Rm w4 q R1):=by unfold Hid;rw [HE1.out];exact HR3.out.same (hbw.block q (by omega))
   have HS4:Hid (R1.s.length≤281474976710656):=by unfold Hid;rw [HE1.out];exact HS2.out
   have HB3:Hid (Bt q w w3):=HBk.out.trans HC3.out
   have HB4:Hid (Bt q w w4):=⟨hbw.os.trans HB3.out.os,hbw.tape.trans HB3.out.tape,hbw.output.trans HB3.out.output,Nat.le_trans HB3.out.size hbw.size,fun i hi hn=>(hbw.block i (by omega)).trans (HB3.out.block i hi hn)⟩
   have HX4:Hid (Bx w4 w.heap.size #[.pointer (some ⟨q,0,none⟩)] 133):=(hbw.block _ (by omega)).trans (HXk.out.bt HC3.out hdq)
   have hs4:w.heap.size+1≤w4.heap.size:=Nat.le_trans hs3 hbw.size
   clear ho4 hg4 hr4 HB3 HO3
   refine zap (i:=11) rfl (by kernel_rfl) (fun K hK=>?_)
   rw [if_pos (by rfl)]
   go_simp
   refine hK.out _ _ ⟨hS3.1.keep (zab _ _),hS3.2.trans (Bt.of_below (zab _ _))⟩ (fun hS4=>?_)
   clear hK
   try simp only [pu]
   refine zap (i:=12) rfl (by kernel_rfl) (fun K hK=>?_)
   rw [if_pos (by rfl)]
   refine Lib.wp_append_run _ _ _ 24 24 rfl _ _ rfl rfl v' w4 HR4.out ?_
   refine hK.out _ _ ⟨HX4.out,HB4.out⟩ (fun hS5=>?_)
   clear hK
   try simp only [pu]
   refine zae (i:=13) (v:=v') rfl (by kernel_rfl) (Or.inl ⟨rfl,fun _ _=>rfl⟩) hS5 ?_
   simp only [pu]
   refine wpAnyH_done (by kernel_rfl) ?_ _
   go_wp2_with fail
   subst hP1
   subst hP2
   exact ⟨⟨k+1,by go_num,by omega,HO4.out,HRm4.out,HS4.out,HB4.out,HX4.out,hs4⟩,by simp [Lib.intOf];omega⟩
  ·have hkz:¬ (k:Int)<(N:Int):=by omega
   have hkN:k=N:=by omega
   subst hkN
   have hLf:=zb9 zbl k r1
   have hOf:=HOk.out
   rw [hLf] at hOf
   obtain ⟨fa,fc,hv⟩:=zc4 hOf
   subst hv
   have HOf:Hid (wr.ownsRow w.heap.size 112 3 (.slice fa k fc) k (zba (pre zbl k r1).2)):=zau hOf (by omega)
   clear hOf HOk hLf
   go_wp2_with fail
   go_ret
   exact ⟨fa,fc,rfl,HOf,HRk,HBk⟩
def BkP (a0 a1 a2 a3 a4 a5 a6:Int) (a7:List UInt8) (cs:List Ct) (a9:List Int) (q:Nat) (r:Rd) (w:World) (E:Ending) (w':World):Prop:=∃ca cc ba bc,E=.returned (.agg #[.int .i64 a0,.int .i64 a1,.string ⟨a7.toArray⟩,.int .i64 a2,.int .i64 a3,.int .i64 a4,.slice ca cs.length cc,.int .i64 a5,.int .i64 a6,.slice ba a9.length bc])∧Hid (w'.ownsRow w.heap.size 112 3 (.slice ca cs.length cc) cs.length (zba cs))∧Hid (w'.ownsRow w.heap.size 3 1 (.slice ba a9.length bc) a9.length (zal a9))∧Hid (Rm w' q r)∧Hid (Bt q w w')
theorem zkn {q:Nat} {r r1 r2 r3 r4 r5 r6 r7 r8 r9 r10:Rd} {a0 a1 a2 a3 a4 a5 a6:Int} {a7:List UInt8} {N:Nat} {a9:List Int} (h0:zah r=(r1,a0)) (h1:zah r1=(r2,a1)) (h2:zah r2=(r3,a2)) (h3:zah r3=(r4,a3)) (h4:zah r4=(r5,a4)) (h5:zah r5=(r6,a5)) (h6:zah r6=(r7,a6)) (h7:za4 r7 12=(r8,a7)) (h8:zai r8 64=(r9,N)) (h9:zbq (pre zbl N r9).1 64=(r10,a9)) (w:World) (hR:Rm w q r) (hs7:r7.s.length≤281474976710656) (hs8:r8.s.length≤281474976710656) (hs9:(pre zbl N r9).1.s.length≤1099511627776):Calls Tryz.prog 81 #[.agg #[.pointer (some ⟨q,0,none⟩)]] w (BkP a0 a1 a2 a3 a4 a5 a6 a7 (pre zbl N r9).2 a9 q r10 w):=by
 have hPL:=zb9 zbl N r9
 unfold BkP
 rw [hPL]
 clear hPL
 have HX0:Hid (Bx ((w.alloc (.cells #[.pointer (some ⟨q,0,none⟩)] 133)).alloc (.cells #[.int .i64 0,.int .i64 0,.string ⟨#[]⟩,.int .i64 0,.int .i64 0,.int .i64 0,.slice none 0 0,.int .i64 0,.int .i64 0,.slice none 0 0] 27)) w.heap.size #[.pointer (some ⟨q,0,none⟩)] 133):=(Bx.new w _ _).keep (zab _ _)
 have HY0:Hid (Bx ((w.alloc (.cells #[.pointer (some ⟨q,0,none⟩)] 133)).alloc (.cells #[.int .i64 0,.int .i64 0,.string ⟨#[]⟩,.int .i64 0,.int .i64 0,.int .i64 0,.slice none 0 0,.int .i64 0,.int .i64 0,.slice none 0 0] 27)) (w.heap.size+1) #[.int .i64 0,.int .i64 0,.string ⟨#[]⟩,.int .i64 0,.int .i64 0,.int .i64 0,.slice none 0 0,.int .i64 0,.int .i64 0,.slice none 0 0] 27):=by have:=Bx.new (w.alloc (.cells #[.pointer (some ⟨q,0,none⟩)] 133)) #[.int .i64 0,.int .i64 0,.string ⟨#[]⟩,.int .i64 0,.int .i64 0,.int .i64 0,.slice none 0 0,.int .i64 0,.int .i64 0,.slice none 0 0] 27;rwa [zan] at this
 have HR0:Hid (Rm ((w.alloc (.cells #[.pointer (some ⟨q,0,none⟩)] 133)).alloc (.cells #[.int .i64 0,.int .i64 0,.string ⟨#[]⟩,.int .i64 0,.int .i64 0,.int .i64 0,.slice none 0 0,.int .i64 0,.int .i64 0,.slice none 0 0] 27)) q r):=(hR.keep (zab _ _)).keep (zab _ _)
 have HB0:Hid (Bt q w ((w.alloc (.cells #[.pointer (some ⟨q,0,none⟩)] 133)).alloc (.cells #[.int .i64 0,.int .i64 0,.string ⟨#[]⟩,.int .i64 0,.int .i64 0,.int .i64 0,.slice none 0 0,.int .i64 0,.int .i64 0,.slice none 0 0] 27))):=Bt.of_below (bt (zab w _) (zab _ _))
 have hdq:w.heap.size≠q:=Nat.ne_of_gt hR.lt
 have hqs:q<w.heap.size:=hR.lt
 clear hR
 go_enter Tryz.func81,Tryz.ntmps81
 go_upto_region 1 with fail
 generalize ((w.alloc (.cells #[.pointer (some ⟨q,0,none⟩)] 133)).alloc (.cells #[.int .i64 0,.int .i64 0,.string ⟨#[]⟩,.int .i64 0,.int .i64 0,.int .i64 0,.slice none 0 0,.int .i64 0,.int .i64 0,.slice none 0 0] 27))=w1 at *
 go_wp2_with fail
 refine wp_region_held (S:=fun W=>Bx W w.heap.size #[.pointer (some ⟨q,0,none⟩)] 133∧Bt q w W) (by kernel_rfl) ?_
 change wpAnyH _ _ _ _ _ 30 #[false,false,false,false,false,false,false,false,false,false,false,false,false,false,false,false,false,false,false,false,false,false,false,false,false,false,false,false,false,false] _ w1.drew
 have hS0:Bx w1.drew w.heap.size #[.pointer (some ⟨q,0,none⟩)] 133∧Bt q w w1.drew:=⟨HX0.out,HB0.out.drewN 1⟩
 have hR0:Rm w1.drew q r:=HR0.out.drewN 1
 have hY0:Bx w1.drew (w.heap.size+1) #[.int .i64 0,.int .i64 0,.string ⟨#[]⟩,.int .i64 0,.int .i64 0,.int .i64 0,.slice none 0 0,.int .i64 0,.int .i64 0,.slice none 0 0] 27:=HY0.out
 clear HY0
 clear HX0 HB0 HR0
 obtain ⟨v0,hv0⟩:∃v,v=w1.drew:=⟨_,rfl⟩
 rw [← hv0] at hS0 hR0 hY0 ⊢
 clear hv0
 refine zae (i:=0) (v:=.pointer (some ⟨w.heap.size,0,none⟩)) rfl (by kernel_rfl) (Or.inl ⟨rfl,fun W hW=>by go_simp⟩) hS0 ?_
 simp only [pu]
 refine zae (i:=1) (v:=.pointer (some ⟨q,0,none⟩)) rfl (by kernel_rfl) (Or.inl ⟨rfl,fun W hW=>by have cj:=(hW.1.cell 0:W.cell? ⟨w.heap.size,0,none⟩=some (.pointer (some ⟨q,0,none⟩)));go_simp⟩) hS0 ?_
 simp only [pu]
 refine zae (i:=3) (v:=.pointer (some ⟨w.heap.size,0,none⟩)) rfl (by kernel_rfl) (Or.inl ⟨rfl,fun W hW=>by go_simp⟩) hS0 ?_
 simp only [pu]
 refine zae (i:=4) (v:=.pointer (some ⟨q,0,none⟩)) rfl (by kernel_rfl) (Or.inl ⟨rfl,fun W hW=>by have cj:=(hW.1.cell 0:W.cell? ⟨w.heap.size,0,none⟩=some (.pointer (some ⟨q,0,none⟩)));go_simp⟩) hS0 ?_
 simp only [pu]
 refine zae (i:=6) (v:=.pointer (some ⟨w.heap.size,0,none⟩)) rfl (by kernel_rfl) (Or.inl ⟨rfl,fun W hW=>by go_simp⟩) hS0 ?_
 simp only [pu]
 refine zae (i:=7) (v:=.pointer (some ⟨q,0,none⟩)) rfl (by kernel_rfl) (Or.inl ⟨rfl,fun W hW=>by have cj:=(hW.1.cell 0:W.cell? ⟨w.heap.size,0,none⟩=some (.pointer (some ⟨q,0,none⟩)));go_simp⟩) hS0 ?_
 simp only [pu]
 refine zae (i:=9) (v:=.pointer (some ⟨w.heap.size,0,none⟩)) rfl (by kernel_rfl) (Or.inl ⟨rfl,fun W hW=>by go_simp⟩) hS0 ?_
 simp only [pu]
 refine zae (i:=10) (v:=.pointer (some ⟨q,0,none⟩)) rfl (by kernel_rfl) (Or.inl ⟨rfl,fun W hW=>by have cj:=(hW.1.cell 0:W.cell? ⟨w.heap.size,0,none⟩=some (.pointer (some ⟨q,0,none⟩)));go_simp⟩) hS0 ?_
 simp only [pu]
 refine zae (i:=12) (v:=.pointer (some ⟨w.heap.size,0,none⟩)) rfl (by kernel_rfl) (Or.inl ⟨rfl,fun W hW=>by go_simp⟩) hS0 ?_
 simp only [pu]
 refine zae (i:=13) (v:=.pointer (some ⟨q,0,none⟩)) rfl (by kernel_rfl) (Or.inl ⟨rfl,fun W hW=>by have cj:=(hW.1.cell 0:W.cell? ⟨w.heap.size,0,none⟩=some (.pointer (some ⟨q,0,none⟩)));go_simp⟩) hS0 ?_
 simp only [pu]
 refine zae (i:=15) (v:=.pointer (some ⟨w.heap.size,0,none⟩)) rfl (by kernel_rfl) (Or.inl ⟨rfl,fun W hW=>by go_simp⟩) hS0 ?_
 simp only [pu]
 refine zae (i:=16) (v:=.pointer (some ⟨q,0,none⟩)) rfl (by kernel_rfl) (Or.inl ⟨rfl,fun W hW=>by have cj:=(hW.1.cell 0:W.cell? ⟨w.heap.size,0,none⟩=some (.pointer (some ⟨q,0,none⟩)));go_simp⟩) hS0 ?_
 simp only [pu]
 refine zae (i:=18) (v:=.pointer (some ⟨w.heap.size,0,none⟩)) rfl (by kernel_rfl) (Or.inl ⟨rfl,fun W hW=>by go_simp⟩) hS0 ?_
 simp only [pu]
 refine zae (i:=19) (v:=.pointer (some ⟨q,0,none⟩)) rfl (by kernel_rfl) (Or.inl ⟨rfl,fun W hW=>by have cj:=(hW.1.cell 0:W.cell? ⟨w.heap.size,0,none⟩=some (.pointer (some ⟨q,0,none⟩)));go_simp⟩) hS0 ?_
 simp only [pu]
 refine zae (i:=21) (v:=.agg #[.pointer (some ⟨q,0,none⟩)]) rfl (by kernel_rfl) (Or.inl ⟨rfl,fun W hW=>by have cj:=(hW.1.cell 0:W.cell? ⟨w.heap.size,0,none⟩=some (.pointer (some ⟨q,0,none⟩)));go_simp⟩) hS0 ?_
 simp only [pu]
 refine zae (i:=23) (v:=.agg #[.pointer (some ⟨q,0,none⟩)]) rfl (by kernel_rfl) (Or.inl ⟨rfl,fun W hW=>by have cj:=(hW.1.cell 0:W.cell? ⟨w.heap.size,0,none⟩=some (.pointer (some ⟨q,0,none⟩)));go_simp⟩) hS0 ?_
 simp only [pu]
 refine zae (i:=25) (v:=.pointer (some ⟨w.heap.size,0,none⟩)) rfl (by kernel_rfl) (Or.inl ⟨rfl,fun W hW=>by go_simp⟩) hS0 ?_
 simp only [pu]
 refine zae (i:=26) (v:=.pointer (some ⟨q,0,none⟩)) rfl (by kernel_rfl) (Or.inl ⟨rfl,fun W hW=>by have cj:=(hW.1.cell 0:W.cell? ⟨w.heap.size,0,none⟩=some (.pointer (some ⟨q,0,none⟩)));go_simp⟩) hS0 ?_
 simp only [pu]
 refine zap (i:=2) rfl (by kernel_rfl) (fun K hK=>?_)
 rw [if_pos (by rfl)]
 go_simp
 refine (zce h0 _ hR0).mono ?_
 rintro e u1 ⟨rfl,HR1,hC1⟩
 refine hK.out _ _ ⟨hS0.1.bt hC1.out hdq,hS0.2.trans hC1.out⟩ (fun hS1=>?_)
 clear hK
 try simp only [pu]
 have hR1:=HR1.out
 have hY1:=hY0.bt hC1.out (by omega)
 clear hS0 hR0 HR1 hY0
 refine zap (i:=5) rfl (by kernel_rfl) (fun K hK=>?_)
 rw [if_pos (by rfl)]
 go_simp
 refine (zce h1 _ hR1).mono ?_
 rintro e u2 ⟨rfl,HR2,hC2⟩
 refine hK.out _ _ ⟨hS1.1.bt hC2.out hdq,hS1.2.trans hC2.out⟩ (fun hS2=>?_)
 clear hK
 try simp only [pu]
 have hR2:=HR2.out
 have hY2:=hY1.bt hC2.out (by omega)
 clear hS1 hR1 HR2 hY1
 refine zap (i:=8) rfl (by kernel_rfl) (fun K hK=>?_)
 rw [if_pos (by rfl)]
 go_simp
 refine (zce h2 _ hR2).mono ?_
 rintro e u3 ⟨rfl,HR3,hC3⟩
 refine hK.out _ _ ⟨hS2.1.bt hC3.out hdq,hS2.2.trans hC3.out⟩ (fun hS3=>?_)
 clear hK
 try simp only [pu]
 have hR3:=HR3.out
 have hY3:=hY2.bt hC3.out (by omega)
 clear hS2 hR2 HR3 hY2
 refine zap (i:=11) rfl (by kernel_rfl) (fun K hK=>?_)
 rw [if_pos (by rfl)]
 go_simp
 refine (zce h3 _ hR3).mono ?_
 rintro e u4 ⟨rfl,HR4,hC4⟩
 refine hK.out _ _ ⟨hS3.1.bt hC4.out hdq,hS3.2.trans hC4.out⟩ (fun hS4=>?_)
 clear hK
 try simp only [pu]
 have hR4:=HR4.out
 have hY4:=hY3.bt hC4.out (by omega)
 clear hS3 hR3 HR4 hY3
 refine zap (i:=14) rfl (by kernel_rfl) (fun K hK=>?_)
 rw [if_pos (by rfl)]
 go_simp
 refine (zce h4 _ hR4).mono ?_
 rintro e u5 ⟨rfl,HR5,hC5⟩
 refine hK.out _ _ ⟨hS4.1.bt hC5.out hdq,hS4.2.trans hC5.out⟩ (fun hS5=>?_)
 clear hK
 try simp only [pu]
 have hR5:=HR5.out
 have hY5:=hY4.bt hC5.out (by omega)
 clear hS4 hR4 HR5 hY4
 refine zap (i:=17) rfl (by kernel_rfl) (fun K hK=>?_)
 rw [if_pos (by rfl)]
 go_simp
 refine (zce h5 _ hR5).mono ?_
 rintro e u6 ⟨rfl,HR6,hC6⟩
 refine hK.out _ _ ⟨hS5.1.bt hC6.out hdq,hS5.2.trans hC6.out⟩ (fun hS6=>?_)
 clear hK
 try simp only [pu]
 have hR6:=HR6.out
 have hY6:=hY5.bt hC6.out (by omega)
 clear hS5 hR5 HR6 hY5
 refine zap (i:=20) rfl (by kernel_rfl) (fun K hK=>?_)
 rw [if_pos (by rfl)]
 go_simp
 refine (zce h6 _ hR6).mono ?_
 rintro e u7 ⟨rfl,HR7,hC7⟩
 refine hK.out _ _ ⟨hS6.1.bt hC7.out hdq,hS6.2.trans hC7.out⟩ (fun hS7=>?_)
 clear hK
 try simp only [pu]
 have hR7:=HR7.out
 have hY7:=hY6.bt hC7.out (by omega)
 clear hS6 hR6 HR7 hY6
 refine zap (i:=22) rfl (by kernel_rfl) (fun K hK=>?_)
 rw [if_pos (by rfl)]
 go_simp
 refine (zf3 h7 _ hR7 hs7).mono ?_
 rintro e u8 ⟨rfl,HR8,hC8⟩
 refine hK.out _ _ ⟨hS7.1.bt hC8.out hdq,hS7.2.trans hC8.out⟩ (fun hS8=>?_)
 clear hK
 try simp only [pu]
 have hR8:=HR8.out
 have hY8:=hY7.bt hC8.out (by omega)
 have hlY8:=hY8.lt
 clear hS7 hR7 HR8 hY7
 refine zap (i:=24) rfl (by kernel_rfl) (fun K hK=>?_)
 rw [if_pos (by rfl)]
 go_simp
 refine (zs6 h8 _ hR8 hs8).mono ?_
 rintro e u9 ⟨ca,cc,rfl,HO9,HR9,hC9⟩
 refine hK.out _ _ ⟨hS8.1.bt hC9.out hdq,hS8.2.trans hC9.out⟩ (fun hS9=>?_)
 clear hK
 try simp only [pu]
 have hR9:=HR9.out
 have hY9:=hY8.bt hC9.out (by omega)
 have hlY9:=hY9.lt
 have HO9:=HO9.out
 have hq9:q<u8.heap.size:=hR8.lt
 clear hS8 hR8 HR9 hY8
 refine zap (i:=27) rfl (by kernel_rfl) (fun K hK=>?_)
 rw [if_pos (by rfl)]
 go_simp
 refine (zs5 ⟨by decide,by decide⟩ h9 _ hR9 hs9).mono ?_
 rintro e u10 ⟨ba,bc,rfl,HO10,HR10,hC10⟩
 refine hK.out _ _ ⟨hS9.1.bt hC10.out hdq,hS9.2.trans hC10.out⟩ (fun hS10=>?_)
 clear hK
 try simp only [pu]
 have hR10:=HR10.out
 have hY10:=hY9.bt hC10.out (by omega)
 have HO9:=za8 HO9 (hq9) hC10.out
 have HO10:=HO10.out
 have hq10:q<u9.heap.size:=hR9.lt
 clear hS9 hR9 HR10 hY9
 refine zae (i:=28) (v:=.agg #[.int .i64 a0,.int .i64 a1,.string ⟨a7.toArray⟩,.int .i64 a2,.int .i64 a3,.int .i64 a4,.slice ca N cc,.int .i64 a5,.int .i64 a6,.slice ba a9.length bc]) rfl (by kernel_rfl) (Or.inl ⟨rfl,fun W hW=>by go_simp⟩) hS10 ?_
 simp only [pu]
 refine zap (i:=29) rfl (by kernel_rfl) (fun K hK=>?_)
 rw [if_pos (by rfl)]
 refine zao _ _ 27 _ _ rfl _ _ rfl rfl (zbo _ (w.heap.size+1) _ #[.int .i64 a0,.int .i64 a1,.string ⟨a7.toArray⟩,.int .i64 a2,.int .i64 a3,.int .i64 a4,.slice ca N cc,.int .i64 a5,.int .i64 a6,.slice ba a9.length bc] zd7 hY10 rfl rfl (by simp [Value.oneCell'])) ?_
 refine hK.out _ _ ⟨hS10.1.other (by omega),hS10.2.setRow (by omega)⟩ (fun hSz=>?_)
 clear hK
 try simp only [pu]
 have hld:=ze0 (u10.setRow (w.heap.size+1) #[.int .i64 a0,.int .i64 a1,.string ⟨a7.toArray⟩,.int .i64 a2,.int .i64 a3,.int .i64 a4,.slice ca N cc,.int .i64 a5,.int .i64 a6,.slice ba a9.length bc]) (w.heap.size+1) #[.int .i64 a0,.int .i64 a1,.string ⟨a7.toArray⟩,.int .i64 a2,.int .i64 a3,.int .i64 a4,.slice ca N cc,.int .i64 a5,.int .i64 a6,.slice ba a9.length bc] hY10.set rfl
 have HRz:Hid (Rm (u10.setRow (w.heap.size+1) #[.int .i64 a0,.int .i64 a1,.string ⟨a7.toArray⟩,.int .i64 a2,.int .i64 a3,.int .i64 a4,.slice ca N cc,.int .i64 a5,.int .i64 a6,.slice ba a9.length bc]) q r10):=hR10.setRow (by omega)
 have HBz:Hid (Bt q w (u10.setRow (w.heap.size+1) #[.int .i64 a0,.int .i64 a1,.string ⟨a7.toArray⟩,.int .i64 a2,.int .i64 a3,.int .i64 a4,.slice ca N cc,.int .i64 a5,.int .i64 a6,.slice ba a9.length bc])):=hSz.2
 have hlt9:w.heap.size+1<u8.heap.size:=hlY8
 have HOa:Hid ((u10.setRow (w.heap.size+1) #[.int .i64 a0,.int .i64 a1,.string ⟨a7.toArray⟩,.int .i64 a2,.int .i64 a3,.int .i64 a4,.slice ca N cc,.int .i64 a5,.int .i64 a6,.slice ba a9.length bc]).ownsRow w.heap.size 112 3 (.slice ca N cc) N (zba (pre zbl N r9).2)):=zau (zeo HO9 hlt9) (by omega)
 have HOb:Hid ((u10.setRow (w.heap.size+1) #[.int .i64 a0,.int .i64 a1,.string ⟨a7.toArray⟩,.int .i64 a2,.int .i64 a3,.int .i64 a4,.slice ca N cc,.int .i64 a5,.int .i64 a6,.slice ba a9.length bc]).ownsRow w.heap.size 3 1 (.slice ba a9.length bc) a9.length (zal a9)):=zau (zeo HO10 (by omega)) (by omega)
 refine wpAnyH_done (by kernel_rfl) ?_ _
 go_wp2_with fail
 refine bodyPost_ret (zaz _ _ 2 27 _ _ _ rfl rfl hld) rfl ?_
 exact ⟨ca,cc,ba,bc,rfl,HOa,HOb,HRz,HBz⟩
end Go.Proofs.YtdmlgheajblcdaaGreat
