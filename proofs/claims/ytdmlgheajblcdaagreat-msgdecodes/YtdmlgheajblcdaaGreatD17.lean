/- Layer 10: the reference's more, a swap. -/
import Derived.Test.YtdmlgheajblcdaaGreatD15
namespace Go.Proofs.YtdmlgheajblcdaaGreat
set_option maxHeartbeats 16000000
set_option maxRecDepth 100000
open Go.RowKit
set_option linter.unusedVariables false
set_option linter.unusedSimpArgs false
set_option maxRecDepth 100000
theorem Sq.row {w W:World} {r:Rd} {A M:Array Value} {p:Nat} (h:Sq w r A W) (hp:w.heap.size+4≤p):Sq w r A (W.setRow p M):=⟨h.z.other (by omega),h.b.other (by omega),h.y.other (by omega),h.v.other (by omega),zad h.c (by omega)⟩
theorem zdy {B e sz:Nat} {w:World} {g c n:Nat} {xs:List Value} (h:w.ownsRow B e sz (.slice (some ⟨g,0,none⟩) n c) n xs) (j:Nat) {x:Value} (hj:xs[j]? = some x):w.cell? ⟨g,j,none⟩=some x:=by
 rcases h.2 with ⟨hv,_⟩ | ⟨g2,cap,cur,hv,hB,hg,_,_,_,ht⟩
 ·cases hv
 ·injection hv with hv _ _
  injection hv with hv
  injection hv with hv _ _
  subst hv
  rw [cell_of_row w g j _ e (0,0) hg,← Array.getElem?_toList]
  rw [← ht,List.getElem?_take] at hj
  split at hj
  ·exact hj
  ·cases hj
theorem zp4 (W:World) (b:Nat) (v0 v1:Value) (c0:W.cell? ⟨b,0,none⟩=some v0) (c1:W.cell? ⟨b,1,none⟩=some v1):(Instr.loadAt 32 (.pointer (some ⟨b,0,none⟩))).run Tryz.prog W=.ok (.agg #[v0,v1]) W:=by
 go_simp
theorem zjg (W:World) (b j:Nat) (y:Value) (a:Option Addr) (n c:Nat) (hy:y=.slice a n c) (old:Value) (hc:W.cell? ⟨b,j,none⟩=some old) (hf:W.frozen? ⟨b,j,none⟩=false):(Instr.storeAt 33 (.pointer (some ⟨b,j,none⟩)) y).run Tryz.prog W=.ok () (W.setCell ⟨b,j,none⟩ y):=by
 subst hy
 go_simp
def RdI (r:Rd) (m:Mg) (w:World) (e:Ending) (w':World):Prop:=∃ia ic,e=.returned (.tuple #[.agg (zaa r),.agg (mcs m none ia none none 0 ic 0 0)])∧Hid (w'.ownsRow w.heap.size 32 2 (.slice ia m.ins.length ic) m.ins.length (zav m.ins))∧Hid (Below w.heap.size w w')
theorem zjh {r:Rd} (h:r.e≠0):(za9 r).1=r:=by
 unfold za9;simp [zcu h,zcz h]
theorem zg8 {r:Rd} (h:r.e≠0):(za9 r).2=⟨[],0⟩:=by
 unfold za9;simp [zcu h,zcz h]
theorem zp5 {r r1 r2 r3 r4 r5:Rd} {y0 y1:Int} {o:Lt} {n:Nat} {l:List Lt} (h0:zah r=(r1,y0)) (h1:zah r1=(r2,y1)) (h2:za9 r2=(r3,o)) (h3:zai r3 64=(r4,n)) (hn:n≤64) (h4:zbf n r4=(r5,l)) (hs:Sm r) (s1:Sm r1) (s2:Sm r2) (s3:Sm r3) (s4:Sm r4) (w:World):Calls Tryz.prog 96 #[.agg (zaa r),.agg (mcs { Mg.z with k:=11 } none none none none 0 0 0 0)] w (RdI r5 { Mg.z with k:=11,mem:=y0,tr:=y1,out:=o,ins:=l } w):=by
 have HS1:Hid (Sq w r (mcs { Mg.z with k:=11 } none none none none 0 0 0 0) ((((w.alloc (.cells (zaa r) 136)).alloc (.cells (mcs { Mg.z with k:=11 } none none none none 0 0 0 0) 35)).alloc (.cells (zaa ⟨[],0,0⟩) 136)).alloc (.cells (mcs Mg.z none none none none 0 0 0 0) 35))):=Sq.new w r _
 go_enter Tryz.func96,Tryz.ntmps96
 go_upto_region 1 with fail
 show Code.wp _ _ _ _ ((((w.alloc (.cells (zaa r) 136)).alloc (.cells (mcs { Mg.z with k:=11 } none none none none 0 0 0 0) 35)).alloc (.cells (zaa ⟨[],0,0⟩) 136)).alloc (.cells (mcs Mg.z none none none none 0 0 0 0) 35))
 generalize ((((w.alloc (.cells (zaa r) 136)).alloc (.cells (mcs { Mg.z with k:=11 } none none none none 0 0 0 0) 35)).alloc (.cells (zaa ⟨[],0,0⟩) 136)).alloc (.cells (mcs Mg.z none none none none 0 0 0 0) 35))=w1 at *
 have c0:w1.cell? ⟨w.heap.size+1,0,none⟩=some (.int .i64 11):=(HS1.out.b.cell 0).trans rfl
 have HLd:Hid ((Instr.loadAt 136 (.pointer (some ⟨w.heap.size,0,none⟩))).run Tryz.prog w1=.ok (.agg (zaa r)) w1):=za2 _ _ _ HS1.out.z
 go_wp2_with (guard_target =~ wpList _ _ _ (⟨_,Op.load 136 _,_,_,_,_⟩::_) _ _;refine zag _ rfl 136 _ rfl _ rfl _ HLd.out ?_;go_simp)
 refine (zdn h0 h1 hs _).mono ?_
 rintro e x1 ⟨la,lc,rfl,HO,hb⟩
 have hle:w.heap.size+4≤w1.heap.size:=HS1.out.lt
 obtain ⟨lg,hla⟩:=zbp HO.out (by omega)
 subst hla
 have HSa:Hid (Sq w r (mcs { Mg.z with k:=11 } none none none none 0 0 0 0) x1):=HS1.out.keep hb.out
 have HSt:Hid ((Instr.storeAt 136 (.pointer (some ⟨w.heap.size,0,none⟩)) (.agg (zaa r2))).run Tryz.prog x1=.ok () (x1.setRow w.heap.size (zaa r2))):=zaq _ _ _ _ HSa.out.z
 have HS2:Hid (Sq w r2 (mcs { Mg.z with k:=11 } none none none none 0 0 0 0) (x1.setRow w.heap.size (zaa r2))):=HSa.out.putZ r2
 have HOl:Hid ((x1.setRow w.heap.size (zaa r2)).ownsRow (w.heap.size+4) 3 1 (.slice (some ⟨lg,0,none⟩) 2 lc) 2 (zal [y0,y1])):=zau (zat HO.out HSa.out.z (by decide)) hle
 clear hb HSa HS1 HLd HO c0
 generalize hx:x1.setRow w.heap.size (zaa r2)=w2 at *
 go_upto_region 11 with (guard_target =~ wpList _ _ _ (⟨_,Op.store 136 _ _,_,_,_,_⟩::_) _ _;refine zaf _ _ rfl 136 _ _ rfl _ _ rfl rfl HSt.out ?_;go_simp)
 clear hx HSt
 have c0:w2.cell? ⟨w.heap.size+1,0,none⟩=some (.int .i64 11):=(HS2.out.b.cell 0).trans rfl
 go_wp2_with fail
 refine wp_region_held (S:=fun W=>W.ownsRow (w.heap.size+4) 3 1 (.slice (some ⟨lg,0,none⟩) 2 lc) 2 (zal [y0,y1])) (by kernel_rfl) ?_
 change wpAnyH _ _ _ _ _ 10 #[false,false,false,false,false,false,false,false,false,false] _ w2.drew
 have hS0:w2.drew.ownsRow (w.heap.size+4) 3 1 (.slice (some ⟨lg,0,none⟩) 2 lc) 2 (zal [y0,y1]):=HOl.out
 have hQ0:Sq w r2 (mcs { Mg.z with k:=11 } none none none none 0 0 0 0) w2.drew:=HS2.out.drewN 1
 clear HOl HS2 c0
 obtain ⟨v0,hv0⟩:∃u,u=w2.drew:=⟨_,rfl⟩
 rw [← hv0] at hS0 hQ0 ⊢
 clear hv0
 refine zae (i:=0) (v:=.slice (some ⟨lg,0,none⟩) 2 lc) rfl (by kernel_rfl) (Or.inl ⟨rfl,fun _ _=>rfl⟩) hS0 ?_
 simp only [pu]
 refine zae (i:=1) (v:=.pointer (some ⟨lg,0,none⟩)) rfl (by kernel_rfl) (Or.inl ⟨rfl,fun W hW=>by go_simp⟩) hS0 ?_
 simp only [pu]
 refine zae (i:=2) (v:=.int .i64 y0) rfl (by kernel_rfl) (Or.inl ⟨rfl,fun W hW=>by have cj:W.cell? ⟨lg,0,none⟩=some (.int .i64 y0):=zbe hW 0 rfl;go_simp⟩) hS0 ?_
 simp only [pu]
 refine zae (i:=3) (v:=.slice (some ⟨lg,0,none⟩) 2 lc) rfl (by kernel_rfl) (Or.inl ⟨rfl,fun _ _=>rfl⟩) hS0 ?_
 simp only [pu]
 refine zae (i:=4) (v:=.pointer (some ⟨lg,1,none⟩)) rfl (by kernel_rfl) (Or.inl ⟨rfl,fun W hW=>by go_simp⟩) hS0 ?_
 simp only [pu]
 refine zae (i:=5) (v:=.int .i64 y1) rfl (by kernel_rfl) (Or.inl ⟨rfl,fun W hW=>by have cj:W.cell? ⟨lg,1,none⟩=some (.int .i64 y1):=zbe hW 1 rfl;go_simp⟩) hS0 ?_
 simp only [pu]
 refine zae (i:=6) (v:=.pointer (some ⟨w.heap.size+1,1,none⟩)) rfl (by kernel_rfl) (Or.inl ⟨rfl,fun W hW=>by go_simp⟩) hS0 ?_
 simp only [pu]
 have d0:v0.cell? ⟨w.heap.size+1,1,none⟩=some (.int .i64 0):=(hQ0.b.cell 1).trans (by kernel_rfl)
 have hQ1:Sq w r2 (mcs { Mg.z with k:=11,mem:=y0 } none none none none 0 0 0 0) (v0.setCell ⟨w.heap.size+1,1,none⟩ (.int .i64 y0)):=hQ0.putB 1 _ (by kernel_rfl)
 refine zap (i:=7) rfl (by kernel_rfl) (fun K hK=>?_)
 rw [if_pos (by rfl)]
 refine zao _ _ 3 _ _ rfl _ _ rfl rfl (zbu _ _ 1 _ _ d0 (hQ0.b.froz 1)) ?_
 refine hK.out _ _ (za8 hS0 (by omega) (Bt.set _ _ 1 _)) (fun hS1=>?_)
 clear hK d0 hQ0 hS0
 try simp only [pu]
 generalize v0.setCell ⟨w.heap.size+1,1,none⟩ (.int .i64 y0)=v1 at *
 refine zae (i:=8) (v:=.pointer (some ⟨w.heap.size+1,33,none⟩)) rfl (by kernel_rfl) (Or.inl ⟨rfl,fun W hW=>by go_simp⟩) hS1 ?_
 simp only [pu]
 have d1:v1.cell? ⟨w.heap.size+1,33,none⟩=some (.int .i64 0):=(hQ1.b.cell 33).trans (by kernel_rfl)
 have hQ2:Sq w r2 (mcs { Mg.z with k:=11,mem:=y0,tr:=y1 } none none none none 0 0 0 0) (v1.setCell ⟨w.heap.size+1,33,none⟩ (.int .i64 y1)):=hQ1.putB 33 _ (by kernel_rfl)
 refine zap (i:=9) rfl (by kernel_rfl) (fun K hK=>?_)
 rw [if_pos (by rfl)]
 refine zao _ _ 3 _ _ rfl _ _ rfl rfl (zbu _ _ 33 _ _ d1 (hQ1.b.froz 33)) ?_
 refine hK.out _ _ (za8 hS1 (by omega) (Bt.set _ _ 33 _)) (fun hS2=>?_)
 clear hK d1 hQ1 hS1
 try simp only [pu]
 generalize v1.setCell ⟨w.heap.size+1,33,none⟩ (.int .i64 y1)=v2 at *
 refine wpAnyH_done (by kernel_rfl) ?_ _
 have HS3:Hid (Sq w r2 (mcs { Mg.z with k:=11,mem:=y0,tr:=y1 } none none none none 0 0 0 0) v2):=hQ2
 clear hQ2 hS2
 generalize v2=w3 at *
 have c0:w3.cell? ⟨w.heap.size+1,0,none⟩=some (.int .i64 11):=(HS3.out.b.cell 0).trans rfl
 go_upto_region 12 with fail
 by_cases e0:r2.e=0
 ·skip
  have hL:zbf 1 r2=(r3,[o]):=by
   rw [zep e0,h2];rfl
  have HC:Hid (∀W,Calls Tryz.prog 95 #[.agg (zaa r2),.int .i64 1] W (QL 32 2 1 (zav [o]) r3 W)):=fun W=>by have h:=zjf 1 (by omega) r2 s2 W;rw [hL] at h;exact h
  clear hL e0
  have HLd:Hid ((Instr.loadAt 136 (.pointer (some ⟨w.heap.size,0,none⟩))).run Tryz.prog w3=.ok (.agg (zaa r2)) w3):=za2 _ _ _ HS3.out.z
  go_wp2_with (guard_target =~ wpList _ _ _ (⟨_,Op.load 136 _,_,_,_,_⟩::_) _ _;refine zag _ rfl 136 _ rfl _ rfl _ HLd.out ?_;go_simp)
  refine (HC.out _).mono ?_
  rintro e x3 ⟨oa,oc,rfl,HO,hb⟩
  have hle:w.heap.size+4≤w3.heap.size:=HS3.out.lt
  have HSa:Hid (Sq w r2 (mcs { Mg.z with k:=11,mem:=y0,tr:=y1 } none none none none 0 0 0 0) x3):=HS3.out.keep hb.out
  have hp:w.heap.size+4≤x3.heap.size:=HSa.out.lt
  have HST:Hid ((Instr.storeAt 136 (.pointer (some ⟨x3.heap.size,0,none⟩)) (.agg (zaa r3))).run Tryz.prog (x3.alloc (.cells (zaa ⟨[],0,0⟩) 136))=.ok () ((x3.alloc (.cells (zaa ⟨[],0,0⟩) 136)).setRow x3.heap.size (zaa r3))):=zaq _ _ _ _ (Bx.new _ _ _)
  have HSb:Hid (Sq w r2 (mcs { Mg.z with k:=11,mem:=y0,tr:=y1 } none none none none 0 0 0 0) ((x3.alloc (.cells (zaa ⟨[],0,0⟩) 136)).setRow x3.heap.size (zaa r3))):=(HSa.out.keep (zab _ _)).row hp
  have HN:Hid (Bx ((x3.alloc (.cells (zaa ⟨[],0,0⟩) 136)).setRow x3.heap.size (zaa r3)) x3.heap.size (zaa r3) 136):=Bx.set (Bx.new _ _ _)
  have HOa:Hid (((x3.alloc (.cells (zaa ⟨[],0,0⟩) 136)).setRow x3.heap.size (zaa r3)).ownsRow (w.heap.size+4) 32 2 (.slice oa 1 oc) 1 (zav [o])):=zat (zax (zau HO.out hle) (zab _ _)) (Bx.new _ _ _) (by decide)
  clear hb HO HSa HS3 HLd HC c0 hle
  generalize hX:((x3.alloc (.cells (zaa ⟨[],0,0⟩) 136)).setRow x3.heap.size (zaa r3))=v1 at *
  go_upto_region 13 with (guard_target =~ wpList _ _ _ (⟨_,Op.store 136 _ _,_,_,_,_⟩::_) _ _;refine zaf _ _ rfl 136 _ _ rfl _ _ rfl rfl HST.out ?_;go_simp)
  clear HST hX
  generalize x3.heap.size=p8 at *
  obtain ⟨og,hoa⟩:=zbp HOa.out (by omega)
  subst hoa
  have HL3:Hid ((Instr.loadAt 32 (.pointer (some ⟨og,0,none⟩))).run Tryz.prog v1=.ok (.agg #[.string ⟨o.i.toArray⟩,.int .i64 o.q]) v1):=zp4 _ _ _ _ (zdy HOa.out 0 rfl) (zdy HOa.out 1 rfl)
  have HSm:Hid ((Instr.storeAt 32 (.pointer (some ⟨w.heap.size+1,30,none⟩)) (.agg #[.string ⟨o.i.toArray⟩,.int .i64 o.q])).run Tryz.prog v1=.ok () (v1.setCells (w.heap.size+1) 30 [.string ⟨o.i.toArray⟩,.int .i64 o.q])):=run_storeAt_mid v1 (w.heap.size+1) 30 32 #[.string ⟨o.i.toArray⟩,.int .i64 o.q] (HSb.out.b.there (by show 30+2≤(mcs _ _ _ _ _ _ _ _ _).size;rw [zac];omega)) zd9 (by simp [Value.oneCell'])
  have HSc:Hid (Sq w r2 (mcs { Mg.z with k:=11,mem:=y0,tr:=y1,out:=o } none none none none 0 0 0 0) (v1.setCells (w.heap.size+1) 30 [.string ⟨o.i.toArray⟩,.int .i64 o.q])):=HSb.out.putC 30 _ (by kernel_rfl)
  have HN2:Hid (Bx (v1.setCells (w.heap.size+1) 30 [.string ⟨o.i.toArray⟩,.int .i64 o.q]) p8 (zaa r3) 136):=Bx.cellsOther (by omega) _ _ _ HN.out
  clear HN HSb
  generalize hX:v1.setCells (w.heap.size+1) 30 [.string ⟨o.i.toArray⟩,.int .i64 o.q]=v2 at *
  go_upto_region 15 with (first | (guard_target =~ wpList _ _ _ (⟨_,Op.load 32 _,_,_,_,_⟩::_) _ _;refine zag _ rfl 32 _ rfl _ rfl _ HL3.out ?_;go_simp) | (guard_target =~ wpList _ _ _ (⟨_,Op.store 32 _ _,_,_,_,_⟩::_) _ _;refine zaf _ _ rfl 32 _ _ rfl _ _ rfl rfl HSm.out ?_;go_simp))
  clear HL3 HSm hX HOa
  have HLd:Hid ((Instr.loadAt 136 (.pointer (some ⟨p8,0,none⟩))).run Tryz.prog v2=.ok (.agg (zaa r3)) v2):=za2 _ _ _ HN2.out
  go_wp2_with (guard_target =~ wpList _ _ _ (⟨_,Op.load 136 _,_,_,_,_⟩::_) _ _;refine zag _ rfl 136 _ rfl _ rfl _ HLd.out ?_;go_simp)
  refine (ze7 ⟨by decide,by decide⟩ h3 s3 _).mono ?_
  rintro e x5 ⟨rfl,hb⟩
  have HSa:Hid (Sq w r2 (mcs { Mg.z with k:=11,mem:=y0,tr:=y1,out:=o } none none none none 0 0 0 0) x5):=HSc.out.keep hb.out
  have HSt:Hid ((Instr.storeAt 136 (.pointer (some ⟨w.heap.size,0,none⟩)) (.agg (zaa r4))).run Tryz.prog x5=.ok () (x5.setRow w.heap.size (zaa r4))):=zaq _ _ _ _ HSa.out.z
  have HSb:Hid (Sq w r4 (mcs { Mg.z with k:=11,mem:=y0,tr:=y1,out:=o } none none none none 0 0 0 0) (x5.setRow w.heap.size (zaa r4))):=HSa.out.putZ r4
  clear hb HSa HSc HLd HN2 hp
  generalize hX:x5.setRow w.heap.size (zaa r4)=v5 at *
  go_upto_region 16 with (guard_target =~ wpList _ _ _ (⟨_,Op.store 136 _ _,_,_,_,_⟩::_) _ _;refine zaf _ _ rfl 136 _ _ rfl _ _ rfl rfl HSt.out ?_;go_simp)
  clear HSt hX
  have HLd:Hid ((Instr.loadAt 136 (.pointer (some ⟨w.heap.size,0,none⟩))).run Tryz.prog v5=.ok (.agg (zaa r4)) v5):=za2 _ _ _ HSb.out.z
  have HC:Hid (∀W,Calls Tryz.prog 95 #[.agg (zaa r4),.int .i64 n] W (QL 32 2 l.length (zav l) r5 W)):=fun W=>by have h:=zjf n (by omega) r4 s4 W;rw [h4] at h;exact h
  go_wp2_with (guard_target =~ wpList _ _ _ (⟨_,Op.load 136 _,_,_,_,_⟩::_) _ _;refine zag _ rfl 136 _ rfl _ rfl _ HLd.out ?_;go_simp)
  refine (HC.out _).mono ?_
  rintro e x6 ⟨ia,ic,rfl,HO,hb⟩
  have hle:w.heap.size+4≤v5.heap.size:=HSb.out.lt
  have HSa:Hid (Sq w r4 (mcs { Mg.z with k:=11,mem:=y0,tr:=y1,out:=o } none none none none 0 0 0 0) x6):=HSb.out.keep hb.out
  have HSt:Hid ((Instr.storeAt 136 (.pointer (some ⟨w.heap.size,0,none⟩)) (.agg (zaa r5))).run Tryz.prog x6=.ok () (x6.setRow w.heap.size (zaa r5))):=zaq _ _ _ _ HSa.out.z
  have HSd:Hid (Sq w r5 (mcs { Mg.z with k:=11,mem:=y0,tr:=y1,out:=o } none none none none 0 0 0 0) (x6.setRow w.heap.size (zaa r5))):=HSa.out.putZ r5
  have HOb:Hid ((x6.setRow w.heap.size (zaa r5)).ownsRow (w.heap.size+4) 32 2 (.slice ia l.length ic) l.length (zav l)):=zat (zau HO.out hle) HSa.out.z (by decide)
  clear hb HO HSa HSb HLd HC hle
  generalize hX:x6.setRow w.heap.size (zaa r5)=v6 at *
  have HSu:Hid ((Instr.storeAt 33 (.pointer (some ⟨w.heap.size+1,32,none⟩)) (.slice ia l.length ic)).run Tryz.prog v6=.ok () (v6.setCell ⟨w.heap.size+1,32,none⟩ (.slice ia l.length ic))):=zjg _ _ _ _ _ _ _ rfl (.slice none 0 0) ((HSd.out.b.cell 32).trans rfl) (HSd.out.b.froz 32)
  have HSe:Hid (Sq w r5 (mcs { Mg.z with k:=11,mem:=y0,tr:=y1,out:=o,ins:=l } none ia none none 0 ic 0 0) (v6.setCell ⟨w.heap.size+1,32,none⟩ (.slice ia l.length ic))):=HSd.out.putB 32 _ (by kernel_rfl)
  have HOc:Hid ((v6.setCell ⟨w.heap.size+1,32,none⟩ (.slice ia l.length ic)).ownsRow (w.heap.size+4) 32 2 (.slice ia l.length ic) l.length (zav l)):=za8 HOb.out (by omega) (Bt.set _ _ 32 _)
  clear HSd HOb
  generalize hY:v6.setCell ⟨w.heap.size+1,32,none⟩ (.slice ia l.length ic)=v7 at *
  go_upto_region 17 with (first | (guard_target =~ wpList _ _ _ (⟨_,Op.store 136 _ _,_,_,_,_⟩::_) _ _;refine zaf _ _ rfl 136 _ _ rfl _ _ rfl rfl HSt.out ?_;go_simp) | (guard_target =~ wpList _ _ _ (⟨_,Op.store 33 _ _,_,_,_,_⟩::_) _ _;refine zaf _ _ rfl 33 _ _ rfl _ _ rfl rfl HSu.out ?_;go_simp))
  clear HSt HSu hX hY
  have c0:v7.cell? ⟨w.heap.size+1,0,none⟩=some (.int .i64 11):=(HSe.out.b.cell 0).trans rfl
  go_wp2_with fail
  refine wp_region_held (S:=fun W=>Bx W w.heap.size (zaa r5) 136∧Bx W (w.heap.size+1) (mcs { Mg.z with k:=11,mem:=y0,tr:=y1,out:=o,ins:=l } none ia none none 0 ic 0 0) 35) (by kernel_rfl) ?_
  change wpAnyH _ _ _ _ _ 4 #[false,false,false,false] _ v7.drew
  have hQ:Sq w r5 (mcs { Mg.z with k:=11,mem:=y0,tr:=y1,out:=o,ins:=l } none ia none none 0 ic 0 0) v7.drew:=HSe.out.drewN 1
  have hO:v7.drew.ownsRow (w.heap.size+4) 32 2 (.slice ia l.length ic) l.length (zav l):=HOc.out
  clear HSe HOc c0
  obtain ⟨v0,hv0⟩:∃u,u=v7.drew:=⟨_,rfl⟩
  rw [← hv0] at hQ hO ⊢
  clear hv0
  have hS:Bx v0 w.heap.size (zaa r5) 136∧Bx v0 (w.heap.size+1) (mcs { Mg.z with k:=11,mem:=y0,tr:=y1,out:=o,ins:=l } none ia none none 0 ic 0 0) 35:=⟨hQ.z,hQ.b⟩
  refine zae (i:=0) (v:=.agg (zaa r5)) rfl (by kernel_rfl) (Or.inl ⟨rfl,fun W hW=>exl _ _ _ _ rfl _ _ rfl (za2 W _ _ hW.1)⟩) hS ?_
  simp only [pu]
  refine zae (i:=1) (v:=.agg (mcs { Mg.z with k:=11,mem:=y0,tr:=y1,out:=o,ins:=l } none ia none none 0 ic 0 0)) rfl (by kernel_rfl) (Or.inl ⟨rfl,fun W hW=>exl _ _ _ _ rfl _ _ rfl (zam W _ _ (zac _ _ _ _ _ _ _ _ _) hW.2)⟩) hS ?_
  simp only [pu]
  refine zap (i:=2) rfl (by kernel_rfl) (fun K hK=>?_)
  rw [if_pos (by rfl)]
  refine zao _ _ 136 _ _ rfl _ _ rfl rfl (zaq _ _ _ r5 hQ.y) ?_
  refine hK.out _ _ ⟨hQ.z.other (by omega),hQ.b.other (by omega)⟩ (fun hS1=>?_)
  clear hK
  try simp only [pu]
  refine zap (i:=3) rfl (by kernel_rfl) (fun K hK=>?_)
  rw [if_pos (by rfl)]
  refine zao _ _ 35 _ _ rfl _ _ rfl rfl (zaw _ (w.heap.size+3) _ (mcs { Mg.z with k:=11,mem:=y0,tr:=y1,out:=o,ins:=l } none ia none none 0 ic 0 0) (hQ.v.other (by omega)) (zac _ _ _ _ _ _ _ _ _) (zac _ _ _ _ _ _ _ _ _) (zaj _ _ _ _ _ _ _ _ _)) ?_
  refine hK.out _ _ ⟨hS1.1.other (by omega),hS1.2.other (by omega)⟩ (fun hS2=>?_)
  clear hK
  try simp only [pu]
  refine wpAnyH_done (by kernel_rfl) ?_ _
  have hl1:=zbi ((v0.setRow (w.heap.size+2) (zaa r5)).setRow (w.heap.size+3) (mcs { Mg.z with k:=11,mem:=y0,tr:=y1,out:=o,ins:=l } none ia none none 0 ic 0 0)) (w.heap.size+2) r5 (hQ.y.set.other (by omega))
  have hl2:=zbb ((v0.setRow (w.heap.size+2) (zaa r5)).setRow (w.heap.size+3) (mcs { Mg.z with k:=11,mem:=y0,tr:=y1,out:=o,ins:=l } none ia none none 0 ic 0 0)) (w.heap.size+3) (mcs { Mg.z with k:=11,mem:=y0,tr:=y1,out:=o,ins:=l } none ia none none 0 ic 0 0) (zac _ _ _ _ _ _ _ _ _) ((hQ.v.other (by omega)).set)
  have HBz:Hid (Below w.heap.size w ((v0.setRow (w.heap.size+2) (zaa r5)).setRow (w.heap.size+3) (mcs { Mg.z with k:=11,mem:=y0,tr:=y1,out:=o,ins:=l } none ia none none 0 ic 0 0))):=zad (zad hQ.c (by omega)) (by omega)
  have HOz:Hid (((v0.setRow (w.heap.size+2) (zaa r5)).setRow (w.heap.size+3) (mcs { Mg.z with k:=11,mem:=y0,tr:=y1,out:=o,ins:=l } none ia none none 0 ic 0 0)).ownsRow w.heap.size 32 2 (.slice ia l.length ic) l.length (zav l)):=zau (zat (zat hO hQ.y (by decide)) (hQ.v.other (by omega)) (by decide)) (by omega)
  clear hS hS1 hS2 hQ hO
  go_wp2_with fail
  refine bodyPost_ret (za3 _ _ 4 136 5 35 _ _ _ _ _ rfl rfl rfl hl1 hl2) rfl ?_
  exact ⟨ia,ic,rfl,HOz,HBz⟩
 ·skip
  have hL:zbf 1 r2=(r3,[]):=by
   have hr:r3=r2:=(congrArg Prod.fst h2).symm.trans (zjh e0)
   rw [zeq e0,hr]
  have ho:o=⟨[],0⟩:=(congrArg Prod.snd h2).symm.trans (zg8 e0)
  subst ho
  have HC:Hid (∀W,Calls Tryz.prog 95 #[.agg (zaa r2),.int .i64 1] W (QL 32 2 0 (zav []) r3 W)):=fun W=>by have h:=zjf 1 (by omega) r2 s2 W;rw [hL] at h;exact h
  clear hL e0
  have HLd:Hid ((Instr.loadAt 136 (.pointer (some ⟨w.heap.size,0,none⟩))).run Tryz.prog w3=.ok (.agg (zaa r2)) w3):=za2 _ _ _ HS3.out.z
  go_wp2_with (guard_target =~ wpList _ _ _ (⟨_,Op.load 136 _,_,_,_,_⟩::_) _ _;refine zag _ rfl 136 _ rfl _ rfl _ HLd.out ?_;go_simp)
  refine (HC.out _).mono ?_
  rintro e x3 ⟨oa,oc,rfl,HO,hb⟩
  have hle:w.heap.size+4≤w3.heap.size:=HS3.out.lt
  have HSa:Hid (Sq w r2 (mcs { Mg.z with k:=11,mem:=y0,tr:=y1 } none none none none 0 0 0 0) x3):=HS3.out.keep hb.out
  have hp:w.heap.size+4≤x3.heap.size:=HSa.out.lt
  have HST:Hid ((Instr.storeAt 136 (.pointer (some ⟨x3.heap.size,0,none⟩)) (.agg (zaa r3))).run Tryz.prog (x3.alloc (.cells (zaa ⟨[],0,0⟩) 136))=.ok () ((x3.alloc (.cells (zaa ⟨[],0,0⟩) 136)).setRow x3.heap.size (zaa r3))):=zaq _ _ _ _ (Bx.new _ _ _)
  have HSb:Hid (Sq w r2 (mcs { Mg.z with k:=11,mem:=y0,tr:=y1 } none none none none 0 0 0 0) ((x3.alloc (.cells (zaa ⟨[],0,0⟩) 136)).setRow x3.heap.size (zaa r3))):=(HSa.out.keep (zab _ _)).row hp
  have HN:Hid (Bx ((x3.alloc (.cells (zaa ⟨[],0,0⟩) 136)).setRow x3.heap.size (zaa r3)) x3.heap.size (zaa r3) 136):=Bx.set (Bx.new _ _ _)
  have HOa:Hid (((x3.alloc (.cells (zaa ⟨[],0,0⟩) 136)).setRow x3.heap.size (zaa r3)).ownsRow (w.heap.size+4) 32 2 (.slice oa 0 oc) 0 (zav [])):=zat (zax (zau HO.out hle) (zab _ _)) (Bx.new _ _ _) (by decide)
  clear hb HO HSa HS3 HLd HC c0 hle
  generalize hX:((x3.alloc (.cells (zaa ⟨[],0,0⟩) 136)).setRow x3.heap.size (zaa r3))=v1 at *
  go_upto_region 13 with (guard_target =~ wpList _ _ _ (⟨_,Op.store 136 _ _,_,_,_,_⟩::_) _ _;refine zaf _ _ rfl 136 _ _ rfl _ _ rfl rfl HST.out ?_;go_simp)
  clear HST hX
  generalize x3.heap.size=p8 at *
  have HSc:Hid (Sq w r2 (mcs { Mg.z with k:=11,mem:=y0,tr:=y1,out:=⟨[],0⟩ } none none none none 0 0 0 0) v1):=HSb.out
  have HN2:Hid (Bx v1 p8 (zaa r3) 136):=HN.out
  clear HN HSb HOa
  generalize v1=v2 at *
  go_upto_region 15 with fail
  have HLd:Hid ((Instr.loadAt 136 (.pointer (some ⟨p8,0,none⟩))).run Tryz.prog v2=.ok (.agg (zaa r3)) v2):=za2 _ _ _ HN2.out
  go_wp2_with (guard_target =~ wpList _ _ _ (⟨_,Op.load 136 _,_,_,_,_⟩::_) _ _;refine zag _ rfl 136 _ rfl _ rfl _ HLd.out ?_;go_simp)
  refine (ze7 ⟨by decide,by decide⟩ h3 s3 _).mono ?_
  rintro e x5 ⟨rfl,hb⟩
  have HSa:Hid (Sq w r2 (mcs { Mg.z with k:=11,mem:=y0,tr:=y1,out:=⟨[],0⟩ } none none none none 0 0 0 0) x5):=HSc.out.keep hb.out
  have HSt:Hid ((Instr.storeAt 136 (.pointer (some ⟨w.heap.size,0,none⟩)) (.agg (zaa r4))).run Tryz.prog x5=.ok () (x5.setRow w.heap.size (zaa r4))):=zaq _ _ _ _ HSa.out.z
  have HSb:Hid (Sq w r4 (mcs { Mg.z with k:=11,mem:=y0,tr:=y1,out:=⟨[],0⟩ } none none none none 0 0 0 0) (x5.setRow w.heap.size (zaa r4))):=HSa.out.putZ r4
  clear hb HSa HSc HLd HN2 hp
  generalize hX:x5.setRow w.heap.size (zaa r4)=v5 at *
  go_upto_region 16 with (guard_target =~ wpList _ _ _ (⟨_,Op.store 136 _ _,_,_,_,_⟩::_) _ _;refine zaf _ _ rfl 136 _ _ rfl _ _ rfl rfl HSt.out ?_;go_simp)
  clear HSt hX
  have HLd:Hid ((Instr.loadAt 136 (.pointer (some ⟨w.heap.size,0,none⟩))).run Tryz.prog v5=.ok (.agg (zaa r4)) v5):=za2 _ _ _ HSb.out.z
  have HC:Hid (∀W,Calls Tryz.prog 95 #[.agg (zaa r4),.int .i64 n] W (QL 32 2 l.length (zav l) r5 W)):=fun W=>by have h:=zjf n (by omega) r4 s4 W;rw [h4] at h;exact h
  go_wp2_with (guard_target =~ wpList _ _ _ (⟨_,Op.load 136 _,_,_,_,_⟩::_) _ _;refine zag _ rfl 136 _ rfl _ rfl _ HLd.out ?_;go_simp)
  refine (HC.out _).mono ?_
  rintro e x6 ⟨ia,ic,rfl,HO,hb⟩
  have hle:w.heap.size+4≤v5.heap.size:=HSb.out.lt
  have HSa:Hid (Sq w r4 (mcs { Mg.z with k:=11,mem:=y0,tr:=y1,out:=⟨[],0⟩ } none none none none 0 0 0 0) x6):=HSb.out.keep hb.out
  have HSt:Hid ((Instr.storeAt 136 (.pointer (some ⟨w.heap.size,0,none⟩)) (.agg (zaa r5))).run Tryz.prog x6=.ok () (x6.setRow w.heap.size (zaa r5))):=zaq _ _ _ _ HSa.out.z
  have HSd:Hid (Sq w r5 (mcs { Mg.z with k:=11,mem:=y0,tr:=y1,out:=⟨[],0⟩ } none none none none 0 0 0 0) (x6.setRow w.heap.size (zaa r5))):=HSa.out.putZ r5
  have HOb:Hid ((x6.setRow w.heap.size (zaa r5)).ownsRow (w.heap.size+4) 32 2 (.slice ia l.length ic) l.length (zav l)):=zat (zau HO.out hle) HSa.out.z (by decide)
  clear hb HO HSa HSb HLd HC hle
  generalize hX:x6.setRow w.heap.size (zaa r5)=v6 at *
  have HSu:Hid ((Instr.storeAt 33 (.pointer (some ⟨w.heap.size+1,32,none⟩)) (.slice ia l.length ic)).run Tryz.prog v6=.ok () (v6.setCell ⟨w.heap.size+1,32,none⟩ (.slice ia l.length ic))):=zjg _ _ _ _ _ _ _ rfl (.slice none 0 0) ((HSd.out.b.cell 32).trans rfl) (HSd.out.b.froz 32)
  have HSe:Hid (Sq w r5 (mcs { Mg.z with k:=11,mem:=y0,tr:=y1,out:=⟨[],0⟩,ins:=l } none ia none none 0 ic 0 0) (v6.setCell ⟨w.heap.size+1,32,none⟩ (.slice ia l.length ic))):=HSd.out.putB 32 _ (by kernel_rfl)
  have HOc:Hid ((v6.setCell ⟨w.heap.size+1,32,none⟩ (.slice ia l.length ic)).ownsRow (w.heap.size+4) 32 2 (.slice ia l.length ic) l.length (zav l)):=za8 HOb.out (by omega) (Bt.set _ _ 32 _)
  clear HSd HOb
  generalize hY:v6.setCell ⟨w.heap.size+1,32,none⟩ (.slice ia l.length ic)=v7 at *
  go_upto_region 17 with (first | (guard_target =~ wpList _ _ _ (⟨_,Op.store 136 _ _,_,_,_,_⟩::_) _ _;refine zaf _ _ rfl 136 _ _ rfl _ _ rfl rfl HSt.out ?_;go_simp) | (guard_target =~ wpList _ _ _ (⟨_,Op.store 33 _ _,_,_,_,_⟩::_) _ _;refine zaf _ _ rfl 33 _ _ rfl _ _ rfl rfl HSu.out ?_;go_simp))
  clear HSt HSu hX hY
  have c0:v7.cell? ⟨w.heap.size+1,0,none⟩=some (.int .i64 11):=(HSe.out.b.cell 0).trans rfl
  go_wp2_with fail
  refine wp_region_held (S:=fun W=>Bx W w.heap.size (zaa r5) 136∧Bx W (w.heap.size+1) (mcs { Mg.z with k:=11,mem:=y0,tr:=y1,out:=⟨[],0⟩,ins:=l } none ia none none 0 ic 0 0) 35) (by kernel_rfl) ?_
  change wpAnyH _ _ _ _ _ 4 #[false,false,false,false] _ v7.drew
  have hQ:Sq w r5 (mcs { Mg.z with k:=11,mem:=y0,tr:=y1,out:=⟨[],0⟩,ins:=l } none ia none none 0 ic 0 0) v7.drew:=HSe.out.drewN 1
  have hO:v7.drew.ownsRow (w.heap.size+4) 32 2 (.slice ia l.length ic) l.length (zav l):=HOc.out
  clear HSe HOc c0
  obtain ⟨v0,hv0⟩:∃u,u=v7.drew:=⟨_,rfl⟩
  rw [← hv0] at hQ hO ⊢
  clear hv0
  have hS:Bx v0 w.heap.size (zaa r5) 136∧Bx v0 (w.heap.size+1) (mcs { Mg.z with k:=11,mem:=y0,tr:=y1,out:=⟨[],0⟩,ins:=l } none ia none none 0 ic 0 0) 35:=⟨hQ.z,hQ.b⟩
  refine zae (i:=0) (v:=.agg (zaa r5)) rfl (by kernel_rfl) (Or.inl ⟨rfl,fun W hW=>exl _ _ _ _ rfl _ _ rfl (za2 W _ _ hW.1)⟩) hS ?_
  simp only [pu]
  refine zae (i:=1) (v:=.agg (mcs { Mg.z with k:=11,mem:=y0,tr:=y1,out:=⟨[],0⟩,ins:=l } none ia none none 0 ic 0 0)) rfl (by kernel_rfl) (Or.inl ⟨rfl,fun W hW=>exl _ _ _ _ rfl _ _ rfl (zam W _ _ (zac _ _ _ _ _ _ _ _ _) hW.2)⟩) hS ?_
  simp only [pu]
  refine zap (i:=2) rfl (by kernel_rfl) (fun K hK=>?_)
  rw [if_pos (by rfl)]
  refine zao _ _ 136 _ _ rfl _ _ rfl rfl (zaq _ _ _ r5 hQ.y) ?_
  refine hK.out _ _ ⟨hQ.z.other (by omega),hQ.b.other (by omega)⟩ (fun hS1=>?_)
  clear hK
  try simp only [pu]
  refine zap (i:=3) rfl (by kernel_rfl) (fun K hK=>?_)
  rw [if_pos (by rfl)]
  refine zao _ _ 35 _ _ rfl _ _ rfl rfl (zaw _ (w.heap.size+3) _ (mcs { Mg.z with k:=11,mem:=y0,tr:=y1,out:=⟨[],0⟩,ins:=l } none ia none none 0 ic 0 0) (hQ.v.other (by omega)) (zac _ _ _ _ _ _ _ _ _) (zac _ _ _ _ _ _ _ _ _) (zaj _ _ _ _ _ _ _ _ _)) ?_
  refine hK.out _ _ ⟨hS1.1.other (by omega),hS1.2.other (by omega)⟩ (fun hS2=>?_)
  clear hK
  try simp only [pu]
  refine wpAnyH_done (by kernel_rfl) ?_ _
  have hl1:=zbi ((v0.setRow (w.heap.size+2) (zaa r5)).setRow (w.heap.size+3) (mcs { Mg.z with k:=11,mem:=y0,tr:=y1,out:=⟨[],0⟩,ins:=l } none ia none none 0 ic 0 0)) (w.heap.size+2) r5 (hQ.y.set.other (by omega))
  have hl2:=zbb ((v0.setRow (w.heap.size+2) (zaa r5)).setRow (w.heap.size+3) (mcs { Mg.z with k:=11,mem:=y0,tr:=y1,out:=⟨[],0⟩,ins:=l } none ia none none 0 ic 0 0)) (w.heap.size+3) (mcs { Mg.z with k:=11,mem:=y0,tr:=y1,out:=⟨[],0⟩,ins:=l } none ia none none 0 ic 0 0) (zac _ _ _ _ _ _ _ _ _) ((hQ.v.other (by omega)).set)
  have HBz:Hid (Below w.heap.size w ((v0.setRow (w.heap.size+2) (zaa r5)).setRow (w.heap.size+3) (mcs { Mg.z with k:=11,mem:=y0,tr:=y1,out:=⟨[],0⟩,ins:=l } none ia none none 0 ic 0 0))):=zad (zad hQ.c (by omega)) (by omega)
  have HOz:Hid (((v0.setRow (w.heap.size+2) (zaa r5)).setRow (w.heap.size+3) (mcs { Mg.z with k:=11,mem:=y0,tr:=y1,out:=⟨[],0⟩,ins:=l } none ia none none 0 ic 0 0)).ownsRow w.heap.size 32 2 (.slice ia l.length ic) l.length (zav l)):=zau (zat (zat hO hQ.y (by decide)) (hQ.v.other (by omega)) (by decide)) (by omega)
  clear hS hS1 hS2 hQ hO
  go_wp2_with fail
  refine bodyPost_ret (za3 _ _ 4 136 5 35 _ _ _ _ _ rfl rfl rfl hl1 hl2) rfl ?_
  exact ⟨ia,ic,rfl,HOz,HBz⟩
theorem zp6 {r r1 r2 r3 r4 r5:Rd} {y0 y1:Int} {o:Lt} {n:Nat} {l:List Lt} (h0:zah r=(r1,y0)) (h1:zah r1=(r2,y1)) (h2:za9 r2=(r3,o)) (h3:zai r3 64=(r4,n)) (hn:n≤64) (h4:zbf n r4=(r5,l)) (hs:Sm r) (s1:Sm r1) (s2:Sm r2) (s3:Sm r3) (s4:Sm r4) (w:World):Calls Tryz.prog 62 #[.agg (zaa r),.agg (mcs { Mg.z with k:=11 } none none none none 0 0 0 0)] w (RdI r5 { Mg.z with k:=11,mem:=y0,tr:=y1,out:=o,ins:=l } w):=by
 have HS1:Hid (Sq w r (mcs { Mg.z with k:=11 } none none none none 0 0 0 0) ((((w.alloc (.cells (zaa r) 136)).alloc (.cells (mcs { Mg.z with k:=11 } none none none none 0 0 0 0) 35)).alloc (.cells (zaa ⟨[],0,0⟩) 136)).alloc (.cells (mcs Mg.z none none none none 0 0 0 0) 35))):=Sq.new w r _
 go_enter Tryz.func62,Tryz.ntmps62
 go_upto_region 1 with fail
 show Code.wp _ _ _ _ ((((w.alloc (.cells (zaa r) 136)).alloc (.cells (mcs { Mg.z with k:=11 } none none none none 0 0 0 0) 35)).alloc (.cells (zaa ⟨[],0,0⟩) 136)).alloc (.cells (mcs Mg.z none none none none 0 0 0 0) 35))
 generalize ((((w.alloc (.cells (zaa r) 136)).alloc (.cells (mcs { Mg.z with k:=11 } none none none none 0 0 0 0) 35)).alloc (.cells (zaa ⟨[],0,0⟩) 136)).alloc (.cells (mcs Mg.z none none none none 0 0 0 0) 35))=w1 at *
 have c0:w1.cell? ⟨w.heap.size+1,0,none⟩=some (.int .i64 11):=(HS1.out.b.cell 0).trans rfl
 have HLd:Hid ((Instr.loadAt 136 (.pointer (some ⟨w.heap.size,0,none⟩))).run Tryz.prog w1=.ok (.agg (zaa r)) w1):=za2 _ _ _ HS1.out.z
 have HLm:Hid ((Instr.loadAt 35 (.pointer (some ⟨w.heap.size+1,0,none⟩))).run Tryz.prog w1=.ok (.agg (mcs { Mg.z with k:=11 } none none none none 0 0 0 0)) w1):=zam _ _ _ (zac _ _ _ _ _ _ _ _ _) HS1.out.b
 go_wp2_with (first | (guard_target =~ wpList _ _ _ (⟨_,Op.load 136 _,_,_,_,_⟩::_) _ _;refine zag _ rfl 136 _ rfl _ rfl _ HLd.out ?_;go_simp) | (guard_target =~ wpList _ _ _ (⟨_,Op.load 35 _,_,_,_,_⟩::_) _ _;refine zag _ rfl 35 _ rfl _ rfl _ HLm.out ?_;go_simp))
 refine (zp5 h0 h1 h2 h3 hn h4 hs s1 s2 s3 s4 _).mono ?_
 rintro e x1 ⟨ia,ic,rfl,HO,hb⟩
 have HSa:Hid (Sq w r (mcs { Mg.z with k:=11 } none none none none 0 0 0 0) x1):=HS1.out.keep hb.out
 have HSt:Hid ((Instr.storeAt 136 (.pointer (some ⟨w.heap.size+2,0,none⟩)) (.agg (zaa r5))).run Tryz.prog x1=.ok () (x1.setRow (w.heap.size+2) (zaa r5))):=zaq _ _ _ _ HSa.out.y
 have HSu:Hid ((Instr.storeAt 35 (.pointer (some ⟨w.heap.size+3,0,none⟩)) (.agg (mcs { Mg.z with k:=11,mem:=y0,tr:=y1,out:=o,ins:=l } none ia none none 0 ic 0 0))).run Tryz.prog (x1.setRow (w.heap.size+2) (zaa r5))=.ok () ((x1.setRow (w.heap.size+2) (zaa r5)).setRow (w.heap.size+3) (mcs { Mg.z with k:=11,mem:=y0,tr:=y1,out:=o,ins:=l } none ia none none 0 ic 0 0))):=zaw _ (w.heap.size+3) _ _ (HSa.out.v.other (by omega)) (zac _ _ _ _ _ _ _ _ _) (zac _ _ _ _ _ _ _ _ _) (zaj _ _ _ _ _ _ _ _ _)
 have hl1:=zbi ((x1.setRow (w.heap.size+2) (zaa r5)).setRow (w.heap.size+3) (mcs { Mg.z with k:=11,mem:=y0,tr:=y1,out:=o,ins:=l } none ia none none 0 ic 0 0)) (w.heap.size+2) r5 (HSa.out.y.set.other (by omega))
 have hl2:=zbb ((x1.setRow (w.heap.size+2) (zaa r5)).setRow (w.heap.size+3) (mcs { Mg.z with k:=11,mem:=y0,tr:=y1,out:=o,ins:=l } none ia none none 0 ic 0 0)) (w.heap.size+3) (mcs { Mg.z with k:=11,mem:=y0,tr:=y1,out:=o,ins:=l } none ia none none 0 ic 0 0) (zac _ _ _ _ _ _ _ _ _) ((HSa.out.v.other (by omega)).set)
 have HBz:Hid (Below w.heap.size w ((x1.setRow (w.heap.size+2) (zaa r5)).setRow (w.heap.size+3) (mcs { Mg.z with k:=11,mem:=y0,tr:=y1,out:=o,ins:=l } none ia none none 0 ic 0 0))):=zad (zad HSa.out.c (by omega)) (by omega)
 have HOz:Hid (((x1.setRow (w.heap.size+2) (zaa r5)).setRow (w.heap.size+3) (mcs { Mg.z with k:=11,mem:=y0,tr:=y1,out:=o,ins:=l } none ia none none 0 ic 0 0)).ownsRow w.heap.size 32 2 (.slice ia l.length ic) l.length (zav l)):=zau (zat (zat HO.out HSa.out.y (by decide)) (HSa.out.v.other (by omega)) (by decide)) (by have:=HS1.out.lt;omega)
 clear HO
 clear HSa HLd HLm hb HS1 c0
 generalize hAZ:(mcs { Mg.z with k:=11,mem:=y0,tr:=y1,out:=o,ins:=l } none ia none none 0 ic 0 0)=AZ at *
 go_wp2_with (first | (guard_target =~ wpList _ _ _ (⟨_,Op.store 136 _ _,_,_,_,_⟩::_) _ _;refine zaf _ _ rfl 136 _ _ rfl _ _ rfl rfl HSt.out ?_;go_simp) | (guard_target =~ wpList _ _ _ (⟨_,Op.store 35 _ _,_,_,_,_⟩::_) _ _;refine zaf _ _ rfl 35 _ _ rfl _ _ rfl rfl HSu.out ?_;go_simp))
 refine bodyPost_ret (za3 _ _ 4 136 5 35 _ _ _ _ _ rfl rfl rfl hl1 hl2) rfl ?_
 subst hAZ;exact ⟨ia,ic,rfl,HOz,HBz⟩
theorem zfs {w w':World} {B e sz n:Nat} {v:Value} {xs:List Value} {B2 e2 sz2 n2:Nat} {v2:Value} {xs2:List Value} (h:w.ownsRow B e sz v n xs) (h2:w.ownsRow B2 e2 sz2 v2 n2 xs2) (he:e≠e2) (hg:w.grownBy w' v2.ownBlock):w'.ownsRow B e sz v n xs:=by
 refine ⟨h.1,?_⟩
 rcases h.2 with h3 | ⟨g,cap,cur,hv,hB,hr,hz⟩
 ·exact .inl h3
 ·exact .inr ⟨g,cap,cur,hv,hB,Bx.grown (p:=g) hr h2 he hg,hz⟩
theorem Sq.keepB {w W W2:World} {r:Rd} {A:Array Value} (h:Sq w r A W) (hb:Below (w.heap.size+4) W W2):Sq w r A W2:=⟨(hb.block _ (by omega)).trans h.z,(hb.block _ (by omega)).trans h.b,(hb.block _ (by omega)).trans h.y,(hb.block _ (by omega)).trans h.v,h.c.trans (hb.mono (by omega))⟩
theorem zp7 (W:World) (b j:Nat) (y:Value) (a:Option Addr) (n c:Nat) (hy:y=.slice a n c) (old:Value) (hc:W.cell? ⟨b,j,none⟩=some old) (hf:W.frozen? ⟨b,j,none⟩=false):(Instr.storeAt 28 (.pointer (some ⟨b,j,none⟩)) y).run Tryz.prog W=.ok () (W.setCell ⟨b,j,none⟩ y):=by
 subst hy
 go_simp
def RdS (r:Rd) (m:Mg) (w:World) (e:Ending) (w':World):Prop:=∃pa pc,e=.returned (.tuple #[.agg (zaa r),.agg (mcs m pa none none none pc 0 0 0)])∧Hid (w'.ownsRow w.heap.size 128 2 (.slice pa m.ps.length pc) m.ps.length (zav m.ps))∧Hid (Below w.heap.size w w')
theorem zt5 {r r1 r2:Rd} {n:Nat} {l:List Lt} (h0:zai r 64=(r1,n)) (hn:n≤64) (h1:zbf n r1=(r2,l)) (hl:l.length≤64) (hs:Sm r) (s1:Sm r1) (w:World):Calls Tryz.prog 62 #[.agg (zaa r),.agg (mcs { Mg.z with k:=4 } none none none none 0 0 0 0)] w (RdS r2 { Mg.z with k:=4,ps:=l } w):=by
 have HS1:Hid (Sq w r (mcs { Mg.z with k:=4 } none none none none 0 0 0 0) ((((w.alloc (.cells (zaa r) 136)).alloc (.cells (mcs { Mg.z with k:=4 } none none none none 0 0 0 0) 35)).alloc (.cells (zaa ⟨[],0,0⟩) 136)).alloc (.cells (mcs Mg.z none none none none 0 0 0 0) 35))):=Sq.new w r _
 go_enter Tryz.func62,Tryz.ntmps62
 go_upto_region 1 with fail
 show Code.wp _ _ _ _ ((((w.alloc (.cells (zaa r) 136)).alloc (.cells (mcs { Mg.z with k:=4 } none none none none 0 0 0 0) 35)).alloc (.cells (zaa ⟨[],0,0⟩) 136)).alloc (.cells (mcs Mg.z none none none none 0 0 0 0) 35))
 generalize ((((w.alloc (.cells (zaa r) 136)).alloc (.cells (mcs { Mg.z with k:=4 } none none none none 0 0 0 0) 35)).alloc (.cells (zaa ⟨[],0,0⟩) 136)).alloc (.cells (mcs Mg.z none none none none 0 0 0 0) 35))=w1 at *
 have c0:w1.cell? ⟨w.heap.size+1,0,none⟩=some (.int .i64 4):=(HS1.out.b.cell 0).trans rfl
 have HLd:Hid ((Instr.loadAt 136 (.pointer (some ⟨w.heap.size,0,none⟩))).run Tryz.prog w1=.ok (.agg (zaa r)) w1):=za2 _ _ _ HS1.out.z
 go_wp2_with (guard_target =~ wpList _ _ _ (⟨_,Op.load 136 _,_,_,_,_⟩::_) _ _;refine zag _ rfl 136 _ rfl _ rfl _ HLd.out ?_;go_simp)
 refine (ze7 ⟨by decide,by decide⟩ h0 hs _).mono ?_
 rintro e x1 ⟨rfl,hb⟩
 have HSa:Hid (Sq w r (mcs { Mg.z with k:=4 } none none none none 0 0 0 0) x1):=HS1.out.keep hb.out
 have HSt:Hid ((Instr.storeAt 136 (.pointer (some ⟨w.heap.size,0,none⟩)) (.agg (zaa r1))).run Tryz.prog x1=.ok () (x1.setRow w.heap.size (zaa r1))):=zaq _ _ _ _ HSa.out.z
 have HS2:Hid (Sq w r1 (mcs { Mg.z with k:=4 } none none none none 0 0 0 0) (x1.setRow w.heap.size (zaa r1))):=HSa.out.putZ r1
 clear hb HSa HS1 HLd c0
 generalize hX:x1.setRow w.heap.size (zaa r1)=w2 at *
 go_upto_region 15 with (guard_target =~ wpList _ _ _ (⟨_,Op.store 136 _ _,_,_,_,_⟩::_) _ _;refine zaf _ _ rfl 136 _ _ rfl _ _ rfl rfl HSt.out ?_;go_simp)
 clear HSt hX
 have HLd:Hid ((Instr.loadAt 136 (.pointer (some ⟨w.heap.size,0,none⟩))).run Tryz.prog w2=.ok (.agg (zaa r1)) w2):=za2 _ _ _ HS2.out.z
 have HC:Hid (∀W,Calls Tryz.prog 95 #[.agg (zaa r1),.int .i64 n] W (QL 32 2 l.length (zav l) r2 W)):=fun W=>by have h:=zjf n (by omega) r1 s1 W;rw [h1] at h;exact h
 go_wp2_with (guard_target =~ wpList _ _ _ (⟨_,Op.load 136 _,_,_,_,_⟩::_) _ _;refine zag _ rfl 136 _ rfl _ rfl _ HLd.out ?_;go_simp)
 refine (HC.out _).mono ?_
 rintro e x2 ⟨oa,oc,rfl,HO,hb⟩
 have hle:w.heap.size+4≤w2.heap.size:=HS2.out.lt
 have HSa:Hid (Sq w r1 (mcs { Mg.z with k:=4 } none none none none 0 0 0 0) x2):=HS2.out.keep hb.out
 have hp:w.heap.size+4≤x2.heap.size:=HSa.out.lt
 have HST:Hid ((Instr.storeAt 136 (.pointer (some ⟨x2.heap.size,0,none⟩)) (.agg (zaa r2))).run Tryz.prog (x2.alloc (.cells (zaa ⟨[],0,0⟩) 136))=.ok () ((x2.alloc (.cells (zaa ⟨[],0,0⟩) 136)).setRow x2.heap.size (zaa r2))):=zaq _ _ _ _ (Bx.new _ _ _)
 have HSb:Hid (Sq w r1 (mcs { Mg.z with k:=4 } none none none none 0 0 0 0) ((x2.alloc (.cells (zaa ⟨[],0,0⟩) 136)).setRow x2.heap.size (zaa r2))):=(HSa.out.keep (zab _ _)).row hp
 have HN:Hid (Bx ((x2.alloc (.cells (zaa ⟨[],0,0⟩) 136)).setRow x2.heap.size (zaa r2)) x2.heap.size (zaa r2) 136):=Bx.set (Bx.new _ _ _)
 have HOa:Hid (((x2.alloc (.cells (zaa ⟨[],0,0⟩) 136)).setRow x2.heap.size (zaa r2)).ownsRow (w.heap.size+4) 32 2 (.slice oa l.length oc) l.length (zav l)):=zat (zax (zau HO.out hle) (zab _ _)) (Bx.new _ _ _) (by decide)
 clear hb HO HSa HS2 HLd HC hle
 generalize hX:((x2.alloc (.cells (zaa ⟨[],0,0⟩) 136)).setRow x2.heap.size (zaa r2))=v1 at *
 go_upto_region 16 with (guard_target =~ wpList _ _ _ (⟨_,Op.store 136 _ _,_,_,_,_⟩::_) _ _;refine zaf _ _ rfl 136 _ _ rfl _ _ rfl rfl HST.out ?_;go_simp)
 clear HST hX
 generalize x2.heap.size=p8 at *
 have HLd:Hid ((Instr.loadAt 136 (.pointer (some ⟨p8,0,none⟩))).run Tryz.prog v1=.ok (.agg (zaa r2)) v1):=za2 _ _ _ HN.out
 have HSt:Hid ((Instr.storeAt 136 (.pointer (some ⟨w.heap.size,0,none⟩)) (.agg (zaa r2))).run Tryz.prog v1=.ok () (v1.setRow w.heap.size (zaa r2))):=zaq _ _ _ _ HSb.out.z
 have HS3:Hid (Sq w r2 (mcs { Mg.z with k:=4 } none none none none 0 0 0 0) (v1.setRow w.heap.size (zaa r2))):=HSb.out.putZ r2
 have HOl:Hid ((v1.setRow w.heap.size (zaa r2)).ownsRow (w.heap.size+4) 32 2 (.slice oa l.length oc) l.length (zav l)):=zat HOa.out HSb.out.z (by decide)
 clear HN HSb HOa hp
 generalize hX:v1.setRow w.heap.size (zaa r2)=w3 at *
 go_upto_region 17 with (first | (guard_target =~ wpList _ _ _ (⟨_,Op.load 136 _,_,_,_,_⟩::_) _ _;refine zag _ rfl 136 _ rfl _ rfl _ HLd.out ?_;go_simp) | (guard_target =~ wpList _ _ _ (⟨_,Op.store 136 _ _,_,_,_,_⟩::_) _ _;refine zaf _ _ rfl 136 _ _ rfl _ _ rfl rfl HSt.out ?_;go_simp))
 clear HLd HSt hX
 go_wp2_with fail
 go_loopw [10] (fun i wr=>∃(k:Nat) (pa:Option Addr) (pc:Nat),i=.int .i64 k∧k≤l.length∧Hid (Sq w r2 (mcs { Mg.z with k:=4,ps:=l.take k } pa none none none pc 0 0 0) wr)∧Hid (wr.ownsRow (w.heap.size+4) 128 2 (.slice pa (l.take k).length pc) (l.take k).length (zav (l.take k)))∧Hid (wr.ownsRow (w.heap.size+4) 32 2 (.slice oa l.length oc) l.length (zav l))) (fun i _=>l.length-(Lib.intOf i).toNat)
 case atStart=>exact ⟨0,none,0,rfl,Nat.zero_le _,HS3,World.ownsRow_nil _ _ _ _,HOl⟩
 case round=>
  clear HS3 HOl
  obtain ⟨k,pa,pc,rfl,hk,HSr,HOp,HOl⟩:=hrel
  by_cases hkn:k<l.length
  ·have hkz:(k:Int)<(l.length:Int):=by omega
   obtain ⟨og,hoa⟩:=zbp HOl.out (by omega)
   subst hoa
   have HTk:Hid (l.take k++[l[k]]=l.take (k+1)):=List.take_append_getElem hkn
   have hlk:(l.take k).length≤1000:=by rw [List.length_take];omega
   have hca:=zd8 l k hkn
   generalize l[k]=y at *
   generalize l.take k=ys at *
   obtain ⟨zs,hzz⟩:∃zs,l.take (k+1)=zs:=⟨_,rfl⟩
   rw [hzz] at HTk
   go_wp2_with fail
   refine wp_region_held (S:=fun W=>W.ownsRow (w.heap.size+4) 32 2 (.slice (some ⟨og,0,none⟩) l.length oc) l.length (zav l)) (by kernel_rfl) ?_
   change wpAnyH _ _ _ _ _ 17 #[false,false,false,false,false,false,false,false,false,false,false,false,false,false,false,false,false] _ wr.drew
   have hS0:wr.drew.ownsRow (w.heap.size+4) 32 2 (.slice (some ⟨og,0,none⟩) l.length oc) l.length (zav l):=HOl.out
   have hP0:wr.drew.ownsRow (w.heap.size+4) 128 2 (.slice pa ys.length pc) ys.length (zav ys):=HOp.out
   have hQ0:Sq w r2 (mcs { Mg.z with k:=4,ps:=ys } pa none none none pc 0 0 0) wr.drew:=HSr.out.drewN 1
   clear HOl HSr HOp
   obtain ⟨v0,hv0⟩:∃u,u=wr.drew:=⟨_,rfl⟩
   rw [← hv0] at hS0 hP0 hQ0 ⊢
   clear hv0
   have c18:v0.cell? ⟨w.heap.size+1,18,none⟩=some (.slice pa ys.length pc):=hQ0.b.cell 18
   refine zae (i:=0) (v:=.pointer (some ⟨w.heap.size+1,18,none⟩)) rfl (by kernel_rfl) (Or.inl ⟨rfl,fun W hW=>by go_simp⟩) hS0 ?_
   simp only [pu]
   refine zae (i:=2) (v:=.slice (some ⟨og,0,none⟩) l.length oc) rfl (by kernel_rfl) (Or.inl ⟨rfl,fun _ _=>rfl⟩) hS0 ?_
   simp only [pu]
   refine zae (i:=3) (v:=.int .i64 k) rfl (by kernel_rfl) (Or.inl ⟨rfl,fun _ _=>rfl⟩) hS0 ?_
   simp only [pu]
   refine zae (i:=4) (v:=.pointer (some ⟨og,k*2,none⟩)) rfl (by kernel_rfl) (Or.inl ⟨rfl,fun W hW=>by go_simp⟩) hS0 ?_
   simp only [pu]
   refine zae (i:=5) (v:=.pointer (some ⟨og,k*2,none⟩)) rfl (by kernel_rfl) (Or.inl ⟨rfl,fun W hW=>by go_simp⟩) hS0 ?_
   simp only [pu]
   refine zae (i:=6) (v:=.string ⟨y.i.toArray⟩) rfl (by kernel_rfl) (Or.inl ⟨rfl,fun W hW=>by have cj:W.cell? ⟨og,k*2,none⟩=some (.string ⟨y.i.toArray⟩):=zdy hW _ hca.1;go_simp⟩) hS0 ?_
   simp only [pu]
   refine zae (i:=7) (v:=.slice (some ⟨og,0,none⟩) l.length oc) rfl (by kernel_rfl) (Or.inl ⟨rfl,fun _ _=>rfl⟩) hS0 ?_
   simp only [pu]
   refine zae (i:=8) (v:=.int .i64 k) rfl (by kernel_rfl) (Or.inl ⟨rfl,fun _ _=>rfl⟩) hS0 ?_
   simp only [pu]
   refine zae (i:=9) (v:=.pointer (some ⟨og,k*2,none⟩)) rfl (by kernel_rfl) (Or.inl ⟨rfl,fun W hW=>by go_simp⟩) hS0 ?_
   simp only [pu]
   refine zae (i:=10) (v:=.pointer (some ⟨og,k*2+1,none⟩)) rfl (by kernel_rfl) (Or.inl ⟨rfl,fun W hW=>by go_simp⟩) hS0 ?_
   simp only [pu]
   refine zae (i:=11) (v:=.int .i64 y.q) rfl (by kernel_rfl) (Or.inl ⟨rfl,fun W hW=>by have cj:W.cell? ⟨og,k*2+1,none⟩=some (.int .i64 y.q):=zdy hW _ hca.2;go_simp⟩) hS0 ?_
   simp only [pu]
   refine zae (i:=12) (v:=.agg #[.string ⟨y.i.toArray⟩,.int .i64 y.q]) rfl (by kernel_rfl) (Or.inl ⟨rfl,fun W hW=>by go_simp⟩) hS0 ?_
   simp only [pu]
   have hlt:w.heap.size+4≤v0.heap.size:=hQ0.lt
   obtain ⟨v',w4,hr4,ho4,hg4⟩:=zfn hP0 hlt y (by omega)
   have hS1:(v0.alloc (.cells #[.string ⟨y.i.toArray⟩,.int .i64 y.q] 128)).ownsRow (w.heap.size+4) 32 2 (.slice (some ⟨og,0,none⟩) l.length oc) l.length (zav l):=zax hS0 (zab _ _)
   have hP1:=zax hP0 (zab v0 (.cells #[.string ⟨y.i.toArray⟩,.int .i64 y.q] 128))
   have hbw:Below (w.heap.size+4) v0 w4:=((Below.refl (w.heap.size+4) v0).alloc hlt _).grown hg4 (by rw [zan];omega) (fun j hj=>(hP0.lt j hj).1)
   have hS4:=zfs hS1 hP1 (by decide) hg4
   have hQ4:=hQ0.keepB hbw
   rw [HTk.out] at ho4
   obtain ⟨pa2,pc2,hv⟩:=zc4 ho4
   subst hv
   have hst:=zp7 w4 (w.heap.size+1) 18 _ _ _ _ (rfl:Value.slice pa2 zs.length pc2=_) _ (hQ4.b.cell 18) (hQ4.b.froz 18)
   have hQ5:Sq w r2 (mcs { Mg.z with k:=4,ps:=zs } pa2 none none none pc2 0 0 0) (w4.setCell ⟨w.heap.size+1,18,none⟩ (.slice pa2 zs.length pc2)):=hQ4.putB 18 _ (by kernel_rfl)
   have hS5:(w4.setCell ⟨w.heap.size+1,18,none⟩ (.slice pa2 zs.length pc2)).ownsRow (w.heap.size+4) 32 2 (.slice (some ⟨og,0,none⟩) l.length oc) l.length (zav l):=za8 hS4 (by omega) (Bt.set _ _ 18 _)
   have hP5:(w4.setCell ⟨w.heap.size+1,18,none⟩ (.slice pa2 zs.length pc2)).ownsRow (w.heap.size+4) 128 2 (.slice pa2 zs.length pc2) zs.length (zav zs):=za8 ho4 (by omega) (Bt.set _ _ 18 _)
   have c18b:(v0.alloc (.cells #[.string ⟨y.i.toArray⟩,.int .i64 y.q] 128)).cell? ⟨w.heap.size+1,18,none⟩=some (.slice pa ys.length pc):=((hQ0.keep (zab _ _)).b.cell 18).trans rfl
   refine zmx (i:=1) (j:=13) rfl rfl (by kernel_rfl) (fun K hK=>?_) (fun K hK=>?_)
   ·rw [if_pos (by rfl)]
    go_simp
    refine hK.out _ _ hS0 (fun _=>?_)
    clear hK
    try simp only [pu]
    refine zap (i:=13) rfl (by kernel_rfl) (fun K hK=>?_)
    rw [if_pos (by rfl)]
    go_simp
    refine hK.out _ _ hS1 (fun _=>?_)
    clear hK
    try simp only [pu]
    refine zap (i:=14) rfl (by kernel_rfl) (fun K hK=>?_)
    rw [if_pos (by rfl)]
    refine Lib.wp_append_run _ _ _ 28 28 rfl _ _ rfl rfl _ w4 hr4 ?_
    refine hK.out _ _ hS4 (fun _=>?_)
    clear hK
    try simp only [pu]
    refine zae (i:=15) (v:=.pointer (some ⟨w.heap.size+1,18,none⟩)) rfl (by kernel_rfl) (Or.inl ⟨rfl,fun W hW=>by go_simp⟩) hS4 ?_
    simp only [pu]
    refine zap (i:=16) rfl (by kernel_rfl) (fun K hK=>?_)
    rw [if_pos (by rfl)]
    refine zao _ _ 28 _ _ rfl _ _ rfl rfl hst ?_
    refine hK.out _ _ hS5 (fun _=>?_)
    clear hK
    try simp only [pu]
    refine wpAnyH_done (by kernel_rfl) ?_ _
    have HQ5:Hid (Sq w r2 (mcs { Mg.z with k:=4,ps:=zs } pa2 none none none pc2 0 0 0) (w4.setCell ⟨w.heap.size+1,18,none⟩ (.slice pa2 zs.length pc2))):=hQ5
    have HS5:Hid ((w4.setCell ⟨w.heap.size+1,18,none⟩ (.slice pa2 zs.length pc2)).ownsRow (w.heap.size+4) 32 2 (.slice (some ⟨og,0,none⟩) l.length oc) l.length (zav l)):=hS5
    have HP5:Hid ((w4.setCell ⟨w.heap.size+1,18,none⟩ (.slice pa2 zs.length pc2)).ownsRow (w.heap.size+4) 128 2 (.slice pa2 zs.length pc2) zs.length (zav zs)):=hP5
    clear hQ5 hS5 hP5 hst hQ4 hS4 hbw hP1 hS1 hr4 ho4 hg4 c18 c18b hQ0 hP0 hS0 hca HTk
    generalize w4.setCell ⟨w.heap.size+1,18,none⟩ (.slice pa2 zs.length pc2)=w5 at *
    go_wp2_with fail
    exact ⟨⟨k+1,pa2,pc2,by go_num,by omega,(by rw [hzz];exact HQ5.out),(by rw [hzz];exact HP5.out),HS5.out⟩,by simp [Lib.intOf];omega⟩
   ·rw [if_pos (by rfl)]
    go_simp
    refine hK.out _ _ hS1 (fun _=>?_)
    clear hK
    try simp only [pu]
    refine zap (i:=1) rfl (by kernel_rfl) (fun K hK=>?_)
    rw [if_pos (by rfl)]
    go_simp
    refine hK.out _ _ hS1 (fun _=>?_)
    clear hK
    try simp only [pu]
    refine zap (i:=14) rfl (by kernel_rfl) (fun K hK=>?_)
    rw [if_pos (by rfl)]
    refine Lib.wp_append_run _ _ _ 28 28 rfl _ _ rfl rfl _ w4 hr4 ?_
    refine hK.out _ _ hS4 (fun _=>?_)
    clear hK
    try simp only [pu]
    refine zae (i:=15) (v:=.pointer (some ⟨w.heap.size+1,18,none⟩)) rfl (by kernel_rfl) (Or.inl ⟨rfl,fun W hW=>by go_simp⟩) hS4 ?_
    simp only [pu]
    refine zap (i:=16) rfl (by kernel_rfl) (fun K hK=>?_)
    rw [if_pos (by rfl)]
    refine zao _ _ 28 _ _ rfl _ _ rfl rfl hst ?_
    refine hK.out _ _ hS5 (fun _=>?_)
    clear hK
    try simp only [pu]
    refine wpAnyH_done (by kernel_rfl) ?_ _
    have HQ5:Hid (Sq w r2 (mcs { Mg.z with k:=4,ps:=zs } pa2 none none none pc2 0 0 0) (w4.setCell ⟨w.heap.size+1,18,none⟩ (.slice pa2 zs.length pc2))):=hQ5
    have HS5:Hid ((w4.setCell ⟨w.heap.size+1,18,none⟩ (.slice pa2 zs.length pc2)).ownsRow (w.heap.size+4) 32 2 (.slice (some ⟨og,0,none⟩) l.length oc) l.length (zav l)):=hS5
    have HP5:Hid ((w4.setCell ⟨w.heap.size+1,18,none⟩ (.slice pa2 zs.length pc2)).ownsRow (w.heap.size+4) 128 2 (.slice pa2 zs.length pc2) zs.length (zav zs)):=hP5
    clear hQ5 hS5 hP5 hst hQ4 hS4 hbw hP1 hS1 hr4 ho4 hg4 c18 c18b hQ0 hP0 hS0 hca HTk
    generalize w4.setCell ⟨w.heap.size+1,18,none⟩ (.slice pa2 zs.length pc2)=w5 at *
    go_wp2_with fail
    exact ⟨⟨k+1,pa2,pc2,by go_num,by omega,(by rw [hzz];exact HQ5.out),(by rw [hzz];exact HP5.out),HS5.out⟩,by simp [Lib.intOf];omega⟩
  ·have hkz:¬ (k:Int)<(l.length:Int):=by omega
   have hT:l.take k=l:=List.take_of_length_le (by omega)
   rw [hT] at HSr HOp
   clear HOl hT
   have c0:wr.cell? ⟨w.heap.size+1,0,none⟩=some (.int .i64 4):=(HSr.out.b.cell 0).trans rfl
   have HLd:Hid ((Instr.loadAt 136 (.pointer (some ⟨w.heap.size,0,none⟩))).run Tryz.prog wr=.ok (.agg (zaa r2)) wr):=za2 _ _ _ HSr.out.z
   have HLm:Hid ((Instr.loadAt 35 (.pointer (some ⟨w.heap.size+1,0,none⟩))).run Tryz.prog wr=.ok (.agg (mcs { Mg.z with k:=4,ps:=l } pa none none none pc 0 0 0)) wr):=zam _ _ _ (zac _ _ _ _ _ _ _ _ _) HSr.out.b
   go_wp2_with (first | (guard_target =~ wpList _ _ _ (⟨_,Op.load 136 _,_,_,_,_⟩::_) _ _;refine zag _ rfl 136 _ rfl _ rfl _ HLd.out ?_;go_simp) | (guard_target =~ wpList _ _ _ (⟨_,Op.load 35 _,_,_,_,_⟩::_) _ _;refine zag _ rfl 35 _ rfl _ rfl _ HLm.out ?_;go_simp))
   refine (zdr 4 (by decide) _ _ rfl (zac _ _ _ _ _ _ _ _ _) (zaj _ _ _ _ _ _ _ _ _) _).mono ?_
   rintro e xr ⟨rfl,hb⟩
   have HSa:Hid (Sq w r2 (mcs { Mg.z with k:=4,ps:=l } pa none none none pc 0 0 0) xr):=HSr.out.keep hb.out
   have HSt:Hid ((Instr.storeAt 136 (.pointer (some ⟨w.heap.size+2,0,none⟩)) (.agg (zaa r2))).run Tryz.prog xr=.ok () (xr.setRow (w.heap.size+2) (zaa r2))):=zaq _ _ _ _ HSa.out.y
   have HSu:Hid ((Instr.storeAt 35 (.pointer (some ⟨w.heap.size+3,0,none⟩)) (.agg (mcs { Mg.z with k:=4,ps:=l } pa none none none pc 0 0 0))).run Tryz.prog (xr.setRow (w.heap.size+2) (zaa r2))=.ok () ((xr.setRow (w.heap.size+2) (zaa r2)).setRow (w.heap.size+3) (mcs { Mg.z with k:=4,ps:=l } pa none none none pc 0 0 0))):=zaw _ (w.heap.size+3) _ _ (HSa.out.v.other (by omega)) (zac _ _ _ _ _ _ _ _ _) (zac _ _ _ _ _ _ _ _ _) (zaj _ _ _ _ _ _ _ _ _)
   have hl1:=zbi ((xr.setRow (w.heap.size+2) (zaa r2)).setRow (w.heap.size+3) (mcs { Mg.z with k:=4,ps:=l } pa none none none pc 0 0 0)) (w.heap.size+2) r2 (HSa.out.y.set.other (by omega))
   have hl2:=zbb ((xr.setRow (w.heap.size+2) (zaa r2)).setRow (w.heap.size+3) (mcs { Mg.z with k:=4,ps:=l } pa none none none pc 0 0 0)) (w.heap.size+3) (mcs { Mg.z with k:=4,ps:=l } pa none none none pc 0 0 0) (zac _ _ _ _ _ _ _ _ _) ((HSa.out.v.other (by omega)).set)
   have HBz:Hid (Below w.heap.size w ((xr.setRow (w.heap.size+2) (zaa r2)).setRow (w.heap.size+3) (mcs { Mg.z with k:=4,ps:=l } pa none none none pc 0 0 0))):=zad (zad HSa.out.c (by omega)) (by omega)
   have HOz:Hid (((xr.setRow (w.heap.size+2) (zaa r2)).setRow (w.heap.size+3) (mcs { Mg.z with k:=4,ps:=l } pa none none none pc 0 0 0)).ownsRow w.heap.size 128 2 (.slice pa l.length pc) l.length (zav l)):=zau (zat (zat (zax HOp.out hb.out) HSa.out.y (by decide)) (HSa.out.v.other (by omega)) (by decide)) (by omega)
   clear HOp
   clear HSa HLd HLm hb HSr c0
   generalize hAZ:(mcs { Mg.z with k:=4,ps:=l } pa none none none pc 0 0 0)=AZ at *
   go_wp2_with (first | (guard_target =~ wpList _ _ _ (⟨_,Op.store 136 _ _,_,_,_,_⟩::_) _ _;refine zaf _ _ rfl 136 _ _ rfl _ _ rfl rfl HSt.out ?_;go_simp) | (guard_target =~ wpList _ _ _ (⟨_,Op.store 35 _ _,_,_,_,_⟩::_) _ _;refine zaf _ _ rfl 35 _ _ rfl _ _ rfl rfl HSu.out ?_;go_simp))
   refine bodyPost_ret (za3 _ _ 4 136 5 35 _ _ _ _ _ rfl rfl rfl hl1 hl2) rfl ?_
   subst hAZ;exact ⟨pa,pc,rfl,HOz,HBz⟩
end Go.Proofs.YtdmlgheajblcdaaGreat
