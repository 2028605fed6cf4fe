/- Layer 10: the reference's basket. -/
import Derived.Test.YtdmlgheajblcdaaGreatD17
import Derived.Test.YtdmlgheajblcdaaGreatD16
namespace Go.Proofs.YtdmlgheajblcdaaGreat
set_option maxHeartbeats 16000000
set_option maxRecDepth 100000
open Go.RowKit
set_option linter.unusedVariables false
set_option linter.unusedSimpArgs false
set_option maxRecDepth 100000
def bks (b:Bk) (ca ba:Option Addr) (cc bc:Nat):Array Value:=#[.int .i64 b.id,.int .i64 b.ver,.string ⟨b.cur.toArray⟩,.int .i64 b.rat,.int .i64 b.least,.int .i64 b.most,.slice ca b.cuts.length cc,.int .i64 b.iss,.int .i64 b.ass,.slice ba b.bar.length bc]
theorem ze9 (b:Bk) (ca ba:Option Addr) (cc bc:Nat):(bks b ca ba cc bc).all (·.oneCell')=true:=by simp [bks,Value.oneCell']
theorem zt6 (w:World) (g:Nat) (M:Array Value) (hg:Bx w g M 27) (hs:M.size=10):(Instr.loadAt 27 (.pointer (some ⟨g,0,none⟩))).run Tryz.prog w=.ok (.agg M) w:=by
 simp only [Instr.loadAt,Instr.sureAddr,asAddr,Sem.run_bind,Sem.run_pure,Result.andThen_ok]
 exact ze0 w g M hg hs
structure Sb (w:World) (r:Rd) (W:World):Prop where
 z:Bx W w.heap.size (zaa r) 136
 y:Bx W (w.heap.size+1) (zaa ⟨[],0,0⟩) 136
 v:Bx W (w.heap.size+2) (#[.int .i64 0,.int .i64 0,.string ⟨#[]⟩,.int .i64 0,.int .i64 0,.int .i64 0,.slice none 0 0,.int .i64 0,.int .i64 0,.slice none 0 0]:Array Value) 27
 c:Below w.heap.size w W
theorem Sb.keep {w W W2:World} {r:Rd} (h:Sb w r W) (hb:Below W.heap.size W W2):Sb w r W2:=⟨h.z.keep hb,h.y.keep hb,h.v.keep hb,bt h.c hb⟩
theorem Sb.drewN {w W:World} {r:Rd} (h:Sb w r W) (n:Nat):Sb w r (W.drewN n):=⟨h.z,h.y,h.v,zef h.c n⟩
theorem Sb.putZ {w W:World} {r:Rd} (h:Sb w r W) (x:Rd):Sb w x (W.setRow w.heap.size (zaa x)):=⟨h.z.set,h.y.other (by omega),h.v.other (by omega),zad h.c (Nat.le_refl _)⟩
theorem Sb.lt {w W:World} {r:Rd} (h:Sb w r W):w.heap.size+3≤W.heap.size:=h.v.lt
theorem Sb.row {w W:World} {r:Rd} {M:Array Value} {p:Nat} (h:Sb w r W) (hp:w.heap.size+3≤p):Sb w r (W.setRow p M):=⟨h.z.other (by omega),h.y.other (by omega),h.v.other (by omega),zad h.c (by omega)⟩
theorem Sb.cell {w W:World} {r:Rd} {p:Nat} (h:Sb w r W) (hp:w.heap.size+3≤p) (j:Nat) (u:Value):Sb w r (W.setCell ⟨p,j,none⟩ u):=⟨h.z.cellOther (by omega) u,h.y.cellOther (by omega) u,h.v.cellOther (by omega) u,h.c.trans ((Bt.set _ _ j u).below (by omega) h.c.size)⟩
theorem Sb.keepB {w W W2:World} {r:Rd} {p:Nat} (h:Sb w r W) (hp:w.heap.size+3≤p) (hb:Below p W W2):Sb w r W2:=⟨(hb.block _ (by omega)).trans h.z,(hb.block _ (by omega)).trans h.y,(hb.block _ (by omega)).trans h.v,h.c.trans (hb.mono (by omega))⟩
theorem Sb.new (w:World) (r:Rd):Sb w r (((w.alloc (.cells (zaa r) 136)).alloc (.cells (zaa ⟨[],0,0⟩) 136)).alloc (.cells (#[.int .i64 0,.int .i64 0,.string ⟨#[]⟩,.int .i64 0,.int .i64 0,.int .i64 0,.slice none 0 0,.int .i64 0,.int .i64 0,.slice none 0 0]:Array Value) 27)):=by
 have e1:(w.alloc (.cells (zaa r) 136)).heap.size=w.heap.size+1:=zan _ _
 have e2:((w.alloc (.cells (zaa r) 136)).alloc (.cells (zaa ⟨[],0,0⟩) 136)).heap.size=w.heap.size+2:=by rw [zan,e1]
 refine ⟨((Bx.new w _ _).keep (zab _ _)).keep (zab _ _),?_,?_,bt (bt (zab w _) (zab _ _)) (zab _ _)⟩
 ·have h:=Bx.new (w.alloc (.cells (zaa r) 136)) (zaa ⟨[],0,0⟩) 136
  rw [e1] at h
  exact h.keep (zab _ _)
 ·have h:=Bx.new ((w.alloc (.cells (zaa r) 136)).alloc (.cells (zaa ⟨[],0,0⟩) 136)) (#[.int .i64 0,.int .i64 0,.string ⟨#[]⟩,.int .i64 0,.int .i64 0,.int .i64 0,.slice none 0 0,.int .i64 0,.int .i64 0,.slice none 0 0]:Array Value) 27
  rw [e2] at h
  exact h
def FarC (N:Nat) (r:Rd) (k:Nat) (rk:Rd) (ys:List Ct):Prop:=zbz N r=((zbz (N-k) rk).1,ys++(zbz (N-k) rk).2)
theorem zg9 {rk:Rd} (h:rk.e=0) (n:Nat):zbz (n+1) rk=((zbz n (zbl rk).1).1,(zbl rk).2::(zbz n (zbl rk).1).2):=by show (if rk.e≠0 then _ else _)=_;rw [if_neg (by simpa using h)]
theorem zha {rk:Rd} (h:rk.e≠0) (n:Nat):zbz n rk=(rk,[]):=by
 cases n with
 | zero=>rfl
 | succ n=>show (if rk.e≠0 then _ else _)=_;rw [if_pos h]
theorem FarC.step {N:Nat} {r rk:Rd} {k:Nat} {ys:List Ct} (h:FarC N r k rk ys) (hk:k<N) (h0:rk.e=0):FarC N r (k+1) (zbl rk).1 (ys++[(zbl rk).2]):=by
 unfold FarC at h ⊢
 rw [h,show N-k=(N-(k+1))+1 by omega,zg9 h0]
 simp
theorem FarC.fin {N:Nat} {r rk:Rd} {k:Nat} {ys:List Ct} (h:FarC N r k rk ys) (hk:k=N∨rk.e≠0):zbz N r=(rk,ys):=by
 unfold FarC at h
 rcases hk with rfl | hk
 ·rw [h,Nat.sub_self];show (rk,ys++[])=_;rw [List.append_nil]
 ·rw [h,zha hk];show (rk,ys++[])=_;rw [List.append_nil]
theorem zp8 (W:World) (b j:Nat) (y:Value) (a:Option Addr) (n c:Nat) (hy:y=.slice a n c) (old:Value) (hc:W.cell? ⟨b,j,none⟩=some old) (hf:W.frozen? ⟨b,j,none⟩=false):(Instr.storeAt 24 (.pointer (some ⟨b,j,none⟩)) y).run Tryz.prog W=.ok () (W.setCell ⟨b,j,none⟩ y):=by
 subst hy
 go_simp
theorem zji (W:World) (b j:Nat) (y:Value) (a:Option Addr) (n c:Nat) (hy:y=.slice a n c) (old:Value) (hc:W.cell? ⟨b,j,none⟩=some old) (hf:W.frozen? ⟨b,j,none⟩=false):(Instr.storeAt 25 (.pointer (some ⟨b,j,none⟩)) y).run Tryz.prog W=.ok () (W.setCell ⟨b,j,none⟩ y):=by
 subst hy
 go_simp
theorem zp9 {r r1 r2 r3 r4 r5 r6 r7:Rd} {y0 y1 y2 y3 y4 y5 y6:Int} (h0:zah r=(r1,y0)) (h1:zah r1=(r2,y1)) (h2:zah r2=(r3,y2)) (h3:zah r3=(r4,y3)) (h4:zah r4=(r5,y4)) (h5:zah r5=(r6,y5)) (h6:zah r6=(r7,y6)) (hs:Sm r) (w:World):Calls Tryz.prog 92 #[.agg (zaa r),.int .i64 7] w (QL 3 1 7 (zal [y0,y1,y2,y3,y4,y5,y6]) r7 w):=by
 have h:=zkx 7 (by omega) r hs w
 have e:pre zah 7 r=(r7,[y0,y1,y2,y3,y4,y5,y6]):=by simp [pre,h0,h1,h2,h3,h4,h5,h6]
 rw [e] at h
 exact h
def QB (r:Rd) (b:Bk) (w:World) (e:Ending) (w':World):Prop:=∃ca cc ba bc,e=.returned (.tuple #[.agg (zaa r),.agg (bks b ca ba cc bc)])∧Hid (w'.ownsRow w.heap.size 112 3 (.slice ca b.cuts.length cc) b.cuts.length (zba b.cuts))∧Hid (w'.ownsRow w.heap.size 3 1 (.slice ba b.bar.length bc) b.bar.length (zal b.bar))∧Hid (Below w.heap.size w w')
theorem zqa {r r1 r2 r3 r4 r5 r6 r7 r8 r9 r10 r11:Rd} {y0 y1 y2 y3 y4 y5 y6:Int} {y7:List UInt8} {n:Nat} {cs:List Ct} {l:List Int} (h0:zah r=(r1,y0)) (h1:zah r1=(r2,y1)) (h2:zah r2=(r3,y2)) (h3:zah r3=(r4,y3)) (h4:zah r4=(r5,y4)) (h5:zah r5=(r6,y5)) (h6:zah r6=(r7,y6)) (h7:za4 r7 12=(r8,y7)) (h8:zai r8 64=(r9,n)) (hn:n≤64) (h9:zbz n r9=(r10,cs)) (h10:zbq r10 64=(r11,l)) (hs:Sm r) (s7:Sm r7) (s8:Sm r8) (s9:Sm r9) (w:World):Calls Tryz.prog 93 #[.agg (zaa r)] w (QB r11 ⟨y0,y1,y7,y2,y3,y4,cs,y5,y6,l⟩ w):=by
  have HS1:Hid (Sb w r (((w.alloc (.cells (zaa r) 136)).alloc (.cells (zaa ⟨[],0,0⟩) 136)).alloc (.cells (#[.int .i64 0,.int .i64 0,.string ⟨#[]⟩,.int .i64 0,.int .i64 0,.int .i64 0,.slice none 0 0,.int .i64 0,.int .i64 0,.slice none 0 0]:Array Value) 27))):=Sb.new w r
  go_enter Tryz.func93,Tryz.ntmps93
  go_upto_region 1 with fail
  show Code.wp _ _ _ _ (((w.alloc (.cells (zaa r) 136)).alloc (.cells (zaa ⟨[],0,0⟩) 136)).alloc (.cells (#[.int .i64 0,.int .i64 0,.string ⟨#[]⟩,.int .i64 0,.int .i64 0,.int .i64 0,.slice none 0 0,.int .i64 0,.int .i64 0,.slice none 0 0]:Array Value) 27))
  generalize (((w.alloc (.cells (zaa r) 136)).alloc (.cells (zaa ⟨[],0,0⟩) 136)).alloc (.cells (#[.int .i64 0,.int .i64 0,.string ⟨#[]⟩,.int .i64 0,.int .i64 0,.int .i64 0,.slice none 0 0,.int .i64 0,.int .i64 0,.slice none 0 0]:Array Value) 27))=w1 at *
  have HLd:Hid ((Instr.loadAt 136 (.pointer (some ⟨w.heap.size,0,none⟩))).run Tryz.prog w1=.ok (.agg (zaa r)) w1):=za2 _ _ _ HS1.out.z
  go_wp2_with (guard_target =~ wpList _ _ _ (⟨_,Op.load 136 _,_,_,_,_⟩::_) _ _;refine zag _ rfl 136 _ rfl _ rfl _ HLd.out ?_;go_simp)
  refine (zp9 h0 h1 h2 h3 h4 h5 h6 hs _).mono ?_
  rintro e x1 ⟨la,lc,rfl,HO,hb⟩
  have hle:w.heap.size+3≤w1.heap.size:=HS1.out.lt
  obtain ⟨lg,hla⟩:=zbp HO.out (by omega)
  subst hla
  have HSa:Hid (Sb w r x1):=HS1.out.keep hb.out
  have HSt:Hid ((Instr.storeAt 136 (.pointer (some ⟨w.heap.size,0,none⟩)) (.agg (zaa r7))).run Tryz.prog x1=.ok () (x1.setRow w.heap.size (zaa r7))):=zaq _ _ _ _ HSa.out.z
  have HS2:Hid (Sb w r7 (x1.setRow w.heap.size (zaa r7))):=HSa.out.putZ r7
  have HO2:Hid ((x1.setRow w.heap.size (zaa r7)).ownsRow (w.heap.size+3) 3 1 (.slice (some ⟨lg,0,none⟩) 7 lc) 7 (zal [y0,y1,y2,y3,y4,y5,y6])):=zau (zat HO.out HSa.out.z (by decide)) hle
  clear hb HSa HS1 HLd HO hle
  generalize hX:x1.setRow w.heap.size (zaa r7)=w2 at *
  go_upto_region 2 with (guard_target =~ wpList _ _ _ (⟨_,Op.store 136 _ _,_,_,_,_⟩::_) _ _;refine zaf _ _ rfl 136 _ _ rfl _ _ rfl rfl HSt.out ?_;go_simp)
  clear hX HSt
  have HLd:Hid ((Instr.loadAt 136 (.pointer (some ⟨w.heap.size,0,none⟩))).run Tryz.prog w2=.ok (.agg (zaa r7)) w2):=za2 _ _ _ HS2.out.z
  go_wp2_with (guard_target =~ wpList _ _ _ (⟨_,Op.load 136 _,_,_,_,_⟩::_) _ _;refine zag _ rfl 136 _ rfl _ rfl _ HLd.out ?_;go_simp)
  refine (zee ⟨by decide,by decide⟩ h7 s7 _).mono ?_
  rintro e x2 ⟨rfl,hb⟩
  have HSa:Hid (Sb w r7 x2):=HS2.out.keep hb.out
  have HSt:Hid ((Instr.storeAt 136 (.pointer (some ⟨w.heap.size,0,none⟩)) (.agg (zaa r8))).run Tryz.prog x2=.ok () (x2.setRow w.heap.size (zaa r8))):=zaq _ _ _ _ HSa.out.z
  have HS3:Hid (Sb w r8 (x2.setRow w.heap.size (zaa r8))):=HSa.out.putZ r8
  have HO3:Hid ((x2.setRow w.heap.size (zaa r8)).ownsRow (w.heap.size+3) 3 1 (.slice (some ⟨lg,0,none⟩) 7 lc) 7 (zal [y0,y1,y2,y3,y4,y5,y6])):=zat (zax HO2.out hb.out) HSa.out.z (by decide)
  clear hb HSa HS2 HLd HO2
  generalize hX:x2.setRow w.heap.size (zaa r8)=w3 at *
  go_upto_region 3 with (guard_target =~ wpList _ _ _ (⟨_,Op.store 136 _ _,_,_,_,_⟩::_) _ _;refine zaf _ _ rfl 136 _ _ rfl _ _ rfl rfl HSt.out ?_;go_simp)
  clear hX HSt
  go_wp2_with fail
  refine wp_region_held (S:=fun W=>W.ownsRow (w.heap.size+3) 3 1 (.slice (some ⟨lg,0,none⟩) 7 lc) 7 (zal [y0,y1,y2,y3,y4,y5,y6])) (by kernel_rfl) ?_
  change wpAnyH _ _ _ _ _ 25 #[false,false,false,false,false,false,false,false,false,false,false,false,false,false,false,false,false,false,false,false,false,false,false,false,false] _ w3.drew
  have hS0:w3.drew.ownsRow (w.heap.size+3) 3 1 (.slice (some ⟨lg,0,none⟩) 7 lc) 7 (zal [y0,y1,y2,y3,y4,y5,y6]):=HO3.out
  have hQ0:Sb w r8 w3.drew:=HS3.out.drewN 1
  clear HO3 HS3
  obtain ⟨v0,hv0⟩:∃u,u=w3.drew:=⟨_,rfl⟩
  rw [← hv0] at hS0 hQ0 ⊢
  clear hv0
  refine zae (i:=0) (v:=.slice (some ⟨lg,0,none⟩) 7 lc) rfl (by kernel_rfl) (Or.inl ⟨rfl,fun _ _=>rfl⟩) hS0 ?_
  simp only [pu]
  refine zae (i:=1) (v:=.pointer (some ⟨lg,0,none⟩)) rfl (by kernel_rfl) (Or.inl ⟨rfl,fun W hW=>by go_simp⟩) hS0 ?_
  simp only [pu]
  refine zae (i:=2) (v:=.int .i64 y0) rfl (by kernel_rfl) (Or.inl ⟨rfl,fun W hW=>by have cj:W.cell? ⟨lg,0,none⟩=some (.int .i64 y0):=zbe hW 0 rfl;go_simp⟩) hS0 ?_
  simp only [pu]
  refine zae (i:=3) (v:=.slice (some ⟨lg,0,none⟩) 7 lc) rfl (by kernel_rfl) (Or.inl ⟨rfl,fun _ _=>rfl⟩) hS0 ?_
  simp only [pu]
  refine zae (i:=4) (v:=.pointer (some ⟨lg,1,none⟩)) rfl (by kernel_rfl) (Or.inl ⟨rfl,fun W hW=>by go_simp⟩) hS0 ?_
  simp only [pu]
  refine zae (i:=5) (v:=.int .i64 y1) rfl (by kernel_rfl) (Or.inl ⟨rfl,fun W hW=>by have cj:W.cell? ⟨lg,1,none⟩=some (.int .i64 y1):=zbe hW 1 rfl;go_simp⟩) hS0 ?_
  simp only [pu]
  refine zae (i:=6) (v:=.slice (some ⟨lg,0,none⟩) 7 lc) rfl (by kernel_rfl) (Or.inl ⟨rfl,fun _ _=>rfl⟩) hS0 ?_
  simp only [pu]
  refine zae (i:=7) (v:=.pointer (some ⟨lg,2,none⟩)) rfl (by kernel_rfl) (Or.inl ⟨rfl,fun W hW=>by go_simp⟩) hS0 ?_
  simp only [pu]
  refine zae (i:=8) (v:=.int .i64 y2) rfl (by kernel_rfl) (Or.inl ⟨rfl,fun W hW=>by have cj:W.cell? ⟨lg,2,none⟩=some (.int .i64 y2):=zbe hW 2 rfl;go_simp⟩) hS0 ?_
  simp only [pu]
  refine zae (i:=9) (v:=.slice (some ⟨lg,0,none⟩) 7 lc) rfl (by kernel_rfl) (Or.inl ⟨rfl,fun _ _=>rfl⟩) hS0 ?_
  simp only [pu]
  refine zae (i:=10) (v:=.pointer (some ⟨lg,3,none⟩)) rfl (by kernel_rfl) (Or.inl ⟨rfl,fun W hW=>by go_simp⟩) hS0 ?_
  simp only [pu]
  refine zae (i:=11) (v:=.int .i64 y3) rfl (by kernel_rfl) (Or.inl ⟨rfl,fun W hW=>by have cj:W.cell? ⟨lg,3,none⟩=some (.int .i64 y3):=zbe hW 3 rfl;go_simp⟩) hS0 ?_
  simp only [pu]
  refine zae (i:=12) (v:=.slice (some ⟨lg,0,none⟩) 7 lc) rfl (by kernel_rfl) (Or.inl ⟨rfl,fun _ _=>rfl⟩) hS0 ?_
  simp only [pu]
  refine zae (i:=13) (v:=.pointer (some ⟨lg,4,none⟩)) rfl (by kernel_rfl) (Or.inl ⟨rfl,fun W hW=>by go_simp⟩) hS0 ?_
  simp only [pu]
  refine zae (i:=14) (v:=.int .i64 y4) rfl (by kernel_rfl) (Or.inl ⟨rfl,fun W hW=>by have cj:W.cell? ⟨lg,4,none⟩=some (.int .i64 y4):=zbe hW 4 rfl;go_simp⟩) hS0 ?_
  simp only [pu]
  refine zae (i:=15) (v:=.slice (some ⟨lg,0,none⟩) 7 lc) rfl (by kernel_rfl) (Or.inl ⟨rfl,fun _ _=>rfl⟩) hS0 ?_
  simp only [pu]
  refine zae (i:=16) (v:=.pointer (some ⟨lg,5,none⟩)) rfl (by kernel_rfl) (Or.inl ⟨rfl,fun W hW=>by go_simp⟩) hS0 ?_
  simp only [pu]
  refine zae (i:=17) (v:=.int .i64 y5) rfl (by kernel_rfl) (Or.inl ⟨rfl,fun W hW=>by have cj:W.cell? ⟨lg,5,none⟩=some (.int .i64 y5):=zbe hW 5 rfl;go_simp⟩) hS0 ?_
  simp only [pu]
  refine zae (i:=18) (v:=.slice (some ⟨lg,0,none⟩) 7 lc) rfl (by kernel_rfl) (Or.inl ⟨rfl,fun _ _=>rfl⟩) hS0 ?_
  simp only [pu]
  refine zae (i:=19) (v:=.pointer (some ⟨lg,6,none⟩)) rfl (by kernel_rfl) (Or.inl ⟨rfl,fun W hW=>by go_simp⟩) hS0 ?_
  simp only [pu]
  refine zae (i:=20) (v:=.int .i64 y6) rfl (by kernel_rfl) (Or.inl ⟨rfl,fun W hW=>by have cj:W.cell? ⟨lg,6,none⟩=some (.int .i64 y6):=zbe hW 6 rfl;go_simp⟩) hS0 ?_
  simp only [pu]
  refine zae (i:=21) (v:=.string ⟨y7.toArray⟩) rfl (by kernel_rfl) (Or.inl ⟨rfl,fun _ _=>rfl⟩) hS0 ?_
  simp only [pu]
  refine zae (i:=22) (v:=.agg (bks ⟨y0,y1,y7,y2,y3,y4,[],y5,y6,[]⟩ none none 0 0)) rfl (by kernel_rfl) (Or.inl ⟨rfl,fun W hW=>by go_simp;rfl⟩) hS0 ?_
  simp only [pu]
  have hlt:w.heap.size+3≤v0.heap.size:=hQ0.lt
  have hS1:(v0.alloc (.cells (#[.int .i64 0,.int .i64 0,.string ⟨#[]⟩,.int .i64 0,.int .i64 0,.int .i64 0,.slice none 0 0,.int .i64 0,.int .i64 0,.slice none 0 0]:Array Value) 27)).ownsRow (w.heap.size+3) 3 1 (.slice (some ⟨lg,0,none⟩) 7 lc) 7 (zal [y0,y1,y2,y3,y4,y5,y6]):=zax hS0 (zab _ _)
  have hS2:((v0.alloc (.cells (#[.int .i64 0,.int .i64 0,.string ⟨#[]⟩,.int .i64 0,.int .i64 0,.int .i64 0,.slice none 0 0,.int .i64 0,.int .i64 0,.slice none 0 0]:Array Value) 27)).setRow v0.heap.size (bks ⟨y0,y1,y7,y2,y3,y4,[],y5,y6,[]⟩ none none 0 0)).ownsRow (w.heap.size+3) 3 1 (.slice (some ⟨lg,0,none⟩) 7 lc) 7 (zal [y0,y1,y2,y3,y4,y5,y6]):=zat hS1 (Bx.new _ _ _) (by decide)
  have HS4:Hid (Sb w r8 ((v0.alloc (.cells (#[.int .i64 0,.int .i64 0,.string ⟨#[]⟩,.int .i64 0,.int .i64 0,.int .i64 0,.slice none 0 0,.int .i64 0,.int .i64 0,.slice none 0 0]:Array Value) 27)).setRow v0.heap.size (bks ⟨y0,y1,y7,y2,y3,y4,[],y5,y6,[]⟩ none none 0 0))):=(hQ0.keep (zab _ _)).row hlt
  have HB4:Hid (Bx ((v0.alloc (.cells (#[.int .i64 0,.int .i64 0,.string ⟨#[]⟩,.int .i64 0,.int .i64 0,.int .i64 0,.slice none 0 0,.int .i64 0,.int .i64 0,.slice none 0 0]:Array Value) 27)).setRow v0.heap.size (bks ⟨y0,y1,y7,y2,y3,y4,[],y5,y6,[]⟩ none none 0 0)) v0.heap.size (bks ⟨y0,y1,y7,y2,y3,y4,[],y5,y6,[]⟩ none none 0 0) 27):=Bx.set (Bx.new _ _ _)
  refine zap (i:=23) rfl (by kernel_rfl) (fun K hK=>?_)
  rw [if_pos (by rfl)]
  go_simp
  refine hK.out _ _ hS1 (fun _=>?_)
  clear hK
  try simp only [pu]
  refine zap (i:=24) rfl (by kernel_rfl) (fun K hK=>?_)
  rw [if_pos (by rfl)]
  refine zao _ _ 27 _ _ rfl _ _ rfl rfl (zbo (v0.alloc (.cells (#[.int .i64 0,.int .i64 0,.string ⟨#[]⟩,.int .i64 0,.int .i64 0,.int .i64 0,.slice none 0 0,.int .i64 0,.int .i64 0,.slice none 0 0]:Array Value) 27)) v0.heap.size _ (bks ⟨y0,y1,y7,y2,y3,y4,[],y5,y6,[]⟩ none none 0 0) zd7 (Bx.new _ _ _) rfl rfl (ze9 _ _ _ _ _)) ?_
  refine hK.out _ _ hS2 (fun _=>?_)
  clear hK
  try simp only [pu]
  refine wpAnyH_done (by kernel_rfl) ?_ _
  clear hS0 hS1 hS2 hQ0
  generalize ((v0.alloc (.cells (#[.int .i64 0,.int .i64 0,.string ⟨#[]⟩,.int .i64 0,.int .i64 0,.int .i64 0,.slice none 0 0,.int .i64 0,.int .i64 0,.slice none 0 0]:Array Value) 27)).setRow v0.heap.size (bks ⟨y0,y1,y7,y2,y3,y4,[],y5,y6,[]⟩ none none 0 0))=w4 at *
  generalize v0.heap.size=p6 at *
  go_upto_region 4 with fail
  have HLd:Hid ((Instr.loadAt 136 (.pointer (some ⟨w.heap.size,0,none⟩))).run Tryz.prog w4=.ok (.agg (zaa r8)) w4):=za2 _ _ _ HS4.out.z
  go_wp2_with (guard_target =~ wpList _ _ _ (⟨_,Op.load 136 _,_,_,_,_⟩::_) _ _;refine zag _ rfl 136 _ rfl _ rfl _ HLd.out ?_;go_simp)
  refine (ze7 ⟨by decide,by decide⟩ h8 s8 _).mono ?_
  rintro e x4 ⟨rfl,hb⟩
  have HSa:Hid (Sb w r8 x4):=HS4.out.keep hb.out
  have HSt:Hid ((Instr.storeAt 136 (.pointer (some ⟨w.heap.size,0,none⟩)) (.agg (zaa r9))).run Tryz.prog x4=.ok () (x4.setRow w.heap.size (zaa r9))):=zaq _ _ _ _ HSa.out.z
  have HS5:Hid (Sb w r9 (x4.setRow w.heap.size (zaa r9))):=HSa.out.putZ r9
  have HB5:Hid (Bx (x4.setRow w.heap.size (zaa r9)) p6 (bks ⟨y0,y1,y7,y2,y3,y4,[],y5,y6,[]⟩ none none 0 0) 27):=(HB4.out.keep hb.out).other (by omega)
  clear hb HSa HS4 HLd HB4
  generalize hX:x4.setRow w.heap.size (zaa r9)=w5 at *
  go_upto_region 5 with (guard_target =~ wpList _ _ _ (⟨_,Op.store 136 _ _,_,_,_,_⟩::_) _ _;refine zaf _ _ rfl 136 _ _ rfl _ _ rfl rfl HSt.out ?_;go_simp)
  clear hX HSt
  go_wp2_with fail
  go_loopw [8] (fun i wr=>∃(k:Nat) (rk:Rd) (ys:List Ct) (ca:Option Addr) (cc:Nat),i=.int .i64 k∧k≤n∧ys.length≤k∧Hid (FarC n r9 k rk ys)∧Hid (Sm rk)∧Hid (Sb w rk wr)∧Hid (Bx wr p6 (bks ⟨y0,y1,y7,y2,y3,y4,ys,y5,y6,[]⟩ ca none cc 0) 27)∧Hid (wr.ownsRow (p6+1) 112 3 (.slice ca ys.length cc) ys.length (zba ys))) (fun i _=>n-(Lib.intOf i).toNat)
  case atStart=>exact ⟨0,r9,[],none,0,rfl,Nat.zero_le _,Nat.zero_le _,by unfold Hid FarC;simp,s9,HS5,HB5,World.ownsRow_nil _ _ _ _⟩
  case round=>
    clear HS5 HB5
    obtain ⟨k,rk,ys,ca,cc,rfl,hk,hyk,HF,HSk,HQk,HBk,HOk⟩:=hrel
    have c2:wr.cell? ⟨w.heap.size,2,none⟩=some (.int .i64 rk.e):=HQk.out.z.cell 2
    have hp6:p6+1≤wr.heap.size:=HBk.out.lt
    by_cases hgo:k<n∧rk.e=0
    · have hkz : (k : Int) < (n : Int) := by omega
      have hez:((rk.e:Int)==0)=true:=by rw [hgo.2];rfl
      have HF2:Hid (FarC n r9 (k+1) (zbl rk).1 (ys++[(zbl rk).2])):=HF.out.step hgo.1 hgo.2
      have HS2:Hid (Sm (zbl rk).1):=Sm.fw zuc HSk.out
      have HC:Hid (∀W,Calls Tryz.prog 92 #[.agg (zaa rk),.int .i64 3] W (QL 3 1 3 (zal [(zbl rk).2.d,(zbl rk).2.r,(zbl rk).2.c]) (zbl rk).1 W)):=fun W=>ze8 rfl rfl rfl HSk.out W
      generalize (zbl rk).1=r2' at *
      generalize (zbl rk).2=y at *
      clear HF HSk
      have HLd:Hid ((Instr.loadAt 136 (.pointer (some ⟨w.heap.size,0,none⟩))).run Tryz.prog wr=.ok (.agg (zaa rk)) wr):=za2 _ _ _ HQk.out.z
      go_wp2_with (guard_target =~ wpList _ _ _ (⟨_,Op.load 136 _,_,_,_,_⟩::_) _ _;refine zag _ rfl 136 _ rfl _ rfl _ HLd.out ?_;go_simp)
      refine (HC.out _).mono ?_
      rintro e x6 ⟨ma,mc,rfl,HO,hb⟩
      obtain ⟨mg,hma⟩:=zbp HO.out (by omega)
      subst hma
      have HSa:Hid (Sb w rk x6):=HQk.out.keep hb.out
      have HBa:Hid (Bx x6 p6 (bks ⟨y0,y1,y7,y2,y3,y4,ys,y5,y6,[]⟩ ca none cc 0) 27):=HBk.out.keep hb.out
      have hp9:p6+1≤x6.heap.size:=HBa.out.lt
      have HST:Hid ((Instr.storeAt 136 (.pointer (some ⟨x6.heap.size,0,none⟩)) (.agg (zaa r2'))).run Tryz.prog (x6.alloc (.cells (zaa ⟨[],0,0⟩) 136))=.ok () ((x6.alloc (.cells (zaa ⟨[],0,0⟩) 136)).setRow x6.heap.size (zaa r2'))):=zaq _ _ _ _ (Bx.new _ _ _)
      have HQ7:Hid (Sb w rk ((x6.alloc (.cells (zaa ⟨[],0,0⟩) 136)).setRow x6.heap.size (zaa r2'))):=(HSa.out.keep (zab _ _)).row (by omega)
      have HB7:Hid (Bx ((x6.alloc (.cells (zaa ⟨[],0,0⟩) 136)).setRow x6.heap.size (zaa r2')) p6 (bks ⟨y0,y1,y7,y2,y3,y4,ys,y5,y6,[]⟩ ca none cc 0) 27):=(HBa.out.keep (zab _ _)).other (by omega)
      have HN7:Hid (Bx ((x6.alloc (.cells (zaa ⟨[],0,0⟩) 136)).setRow x6.heap.size (zaa r2')) x6.heap.size (zaa r2') 136):=Bx.set (Bx.new _ _ _)
      have HO7:Hid (((x6.alloc (.cells (zaa ⟨[],0,0⟩) 136)).setRow x6.heap.size (zaa r2')).ownsRow (p6+1) 3 1 (.slice (some ⟨mg,0,none⟩) 3 mc) 3 (zal [y.d,y.r,y.c])):=zat (zax (zau HO.out hp6) (zab _ _)) (Bx.new _ _ _) (by decide)
      have HC7:Hid (((x6.alloc (.cells (zaa ⟨[],0,0⟩) 136)).setRow x6.heap.size (zaa r2')).ownsRow (p6+1) 112 3 (.slice ca ys.length cc) ys.length (zba ys)):=zat (zax (zax HOk.out hb.out) (zab _ _)) (Bx.new _ _ _) (by decide)
      clear hb HO HSa HBa HQk HBk HOk HLd HC c2 hp6
      generalize hX:((x6.alloc (.cells (zaa ⟨[],0,0⟩) 136)).setRow x6.heap.size (zaa r2'))=w7 at *
      go_upto_region 9 with (guard_target =~ wpList _ _ _ (⟨_,Op.store 136 _ _,_,_,_,_⟩::_) _ _;refine zaf _ _ rfl 136 _ _ rfl _ _ rfl rfl HST.out ?_;go_simp)
      clear HST hX
      generalize x6.heap.size=p9 at *
      go_wp2_with fail
      refine wp_region_held (S:=fun W=>W.ownsRow (p6+1) 3 1 (.slice (some ⟨mg,0,none⟩) 3 mc) 3 (zal [y.d,y.r,y.c])) (by kernel_rfl) ?_
      change wpAnyH _ _ _ _ _ 16 #[false,false,false,false,false,false,false,false,false,false,false,false,false,false,false,false] _ w7.drew
      have hS0:w7.drew.ownsRow (p6+1) 3 1 (.slice (some ⟨mg,0,none⟩) 3 mc) 3 (zal [y.d,y.r,y.c]):=HO7.out
      have hP0:w7.drew.ownsRow (p6+1) 112 3 (.slice ca ys.length cc) ys.length (zba ys):=HC7.out
      have hQ0:Sb w rk w7.drew:=HQ7.out.drewN 1
      have hB0:Bx w7.drew p6 (bks ⟨y0,y1,y7,y2,y3,y4,ys,y5,y6,[]⟩ ca none cc 0) 27:=HB7.out
      have hN0:Bx w7.drew p9 (zaa r2') 136:=HN7.out
      clear HO7 HC7 HQ7 HB7 HN7
      obtain ⟨v0,hv0⟩:∃u,u=w7.drew:=⟨_,rfl⟩
      rw [← hv0] at hS0 hP0 hQ0 hB0 hN0 ⊢
      clear hv0
      have c6:v0.cell? ⟨p6,6,none⟩=some (.slice ca ys.length cc):=hB0.cell 6
      refine zae (i:=0) (v:=.pointer (some ⟨p6,6,none⟩)) rfl (by kernel_rfl) (Or.inl ⟨rfl,fun W hW=>by go_simp⟩) hS0 ?_
      simp only [pu]
      refine zae (i:=2) (v:=.slice (some ⟨mg,0,none⟩) 3 mc) rfl (by kernel_rfl) (Or.inl ⟨rfl,fun _ _=>rfl⟩) hS0 ?_
      simp only [pu]
      refine zae (i:=3) (v:=.pointer (some ⟨mg,0,none⟩)) rfl (by kernel_rfl) (Or.inl ⟨rfl,fun W hW=>by go_simp⟩) hS0 ?_
      simp only [pu]
      refine zae (i:=4) (v:=.int .i64 y.d) rfl (by kernel_rfl) (Or.inl ⟨rfl,fun W hW=>by have cj:W.cell? ⟨mg,0,none⟩=some (.int .i64 y.d):=zbe hW 0 rfl;go_simp⟩) hS0 ?_
      simp only [pu]
      refine zae (i:=5) (v:=.slice (some ⟨mg,0,none⟩) 3 mc) rfl (by kernel_rfl) (Or.inl ⟨rfl,fun _ _=>rfl⟩) hS0 ?_
      simp only [pu]
      refine zae (i:=6) (v:=.pointer (some ⟨mg,1,none⟩)) rfl (by kernel_rfl) (Or.inl ⟨rfl,fun W hW=>by go_simp⟩) hS0 ?_
      simp only [pu]
      refine zae (i:=7) (v:=.int .i64 y.r) rfl (by kernel_rfl) (Or.inl ⟨rfl,fun W hW=>by have cj:W.cell? ⟨mg,1,none⟩=some (.int .i64 y.r):=zbe hW 1 rfl;go_simp⟩) hS0 ?_
      simp only [pu]
      refine zae (i:=8) (v:=.slice (some ⟨mg,0,none⟩) 3 mc) rfl (by kernel_rfl) (Or.inl ⟨rfl,fun _ _=>rfl⟩) hS0 ?_
      simp only [pu]
      refine zae (i:=9) (v:=.pointer (some ⟨mg,2,none⟩)) rfl (by kernel_rfl) (Or.inl ⟨rfl,fun W hW=>by go_simp⟩) hS0 ?_
      simp only [pu]
      refine zae (i:=10) (v:=.int .i64 y.c) rfl (by kernel_rfl) (Or.inl ⟨rfl,fun W hW=>by have cj:W.cell? ⟨mg,2,none⟩=some (.int .i64 y.c):=zbe hW 2 rfl;go_simp⟩) hS0 ?_
      simp only [pu]
      refine zae (i:=11) (v:=.agg #[.int .i64 y.d,.int .i64 y.r,.int .i64 y.c]) rfl (by kernel_rfl) (Or.inl ⟨rfl,fun W hW=>by go_simp⟩) hS0 ?_
      simp only [pu]
      have hlt:p6+1≤v0.heap.size:=hB0.lt
      obtain ⟨v',w4,hr4,ho4,hg4⟩:=ziy hP0 hlt y (by omega)
      have hS1:(v0.alloc (.cells #[.int .i64 y.d,.int .i64 y.r,.int .i64 y.c] 112)).ownsRow (p6+1) 3 1 (.slice (some ⟨mg,0,none⟩) 3 mc) 3 (zal [y.d,y.r,y.c]):=zax hS0 (zab _ _)
      have hP1:=zax hP0 (zab v0 (.cells #[.int .i64 y.d,.int .i64 y.r,.int .i64 y.c] 112))
      have hbw:Below (p6+1) v0 w4:=((Below.refl (p6+1) v0).alloc hlt _).grown hg4 (by rw [zan];omega) (fun j hj=>(hP0.lt j hj).1)
      have hS4:=zfs hS1 hP1 (by decide) hg4
      have hQ4:=hQ0.keepB (by omega:w.heap.size+3≤p6+1) hbw
      have hB4:Bx w4 p6 (bks ⟨y0,y1,y7,y2,y3,y4,ys,y5,y6,[]⟩ ca none cc 0) 27:=(hbw.block _ (by omega)).trans hB0
      have hN4:Bx w4 p9 (zaa r2') 136:=(hN0.keep (zab _ _)).grown hP1 (by decide) hg4
      obtain ⟨zs,hzz⟩:∃zs,ys++[y]=zs:=⟨_,rfl⟩
      have hzl:zs.length≤k+1:=by rw [← hzz,List.length_append];show ys.length+1≤_;omega
      rw [hzz] at ho4 HF2
      obtain ⟨ca2,cc2,hv⟩:=zc4 ho4
      subst hv
      have hst:=zp8 w4 p6 6 _ _ _ _ (rfl:Value.slice ca2 zs.length cc2=_) _ (hB4.cell 6) (hB4.froz 6)
      have hQ5:Sb w rk (w4.setCell ⟨p6,6,none⟩ (.slice ca2 zs.length cc2)):=hQ4.cell (by omega) 6 _
      have hB5:Bx (w4.setCell ⟨p6,6,none⟩ (.slice ca2 zs.length cc2)) p6 (bks ⟨y0,y1,y7,y2,y3,y4,zs,y5,y6,[]⟩ ca2 none cc2 0) 27:=by rw [show (bks ⟨y0,y1,y7,y2,y3,y4,zs,y5,y6,[]⟩ ca2 none cc2 0)=(bks ⟨y0,y1,y7,y2,y3,y4,ys,y5,y6,[]⟩ ca none cc 0).setIfInBounds 6 (.slice ca2 zs.length cc2) by kernel_rfl];exact hB4.cellSet _
      have hN5:Bx (w4.setCell ⟨p6,6,none⟩ (.slice ca2 zs.length cc2)) p9 (zaa r2') 136:=hN4.cellOther (by omega) _
      have hS5:(w4.setCell ⟨p6,6,none⟩ (.slice ca2 zs.length cc2)).ownsRow (p6+1) 3 1 (.slice (some ⟨mg,0,none⟩) 3 mc) 3 (zal [y.d,y.r,y.c]):=za8 hS4 (by omega) (Bt.set _ _ 6 _)
      have hP5:(w4.setCell ⟨p6,6,none⟩ (.slice ca2 zs.length cc2)).ownsRow (p6+1) 112 3 (.slice ca2 zs.length cc2) zs.length (zba zs):=za8 ho4 (by omega) (Bt.set _ _ 6 _)
      have c6b:(v0.alloc (.cells #[.int .i64 y.d,.int .i64 y.r,.int .i64 y.c] 112)).cell? ⟨p6,6,none⟩=some (.slice ca ys.length cc):=((hB0.keep (zab _ _)).cell 6).trans rfl
      have HQ5:Hid (Sb w rk (w4.setCell ⟨p6,6,none⟩ (.slice ca2 zs.length cc2))):=hQ5
      have HB5:Hid (Bx (w4.setCell ⟨p6,6,none⟩ (.slice ca2 zs.length cc2)) p6 (bks ⟨y0,y1,y7,y2,y3,y4,zs,y5,y6,[]⟩ ca2 none cc2 0) 27):=hB5
      have HN5:Hid (Bx (w4.setCell ⟨p6,6,none⟩ (.slice ca2 zs.length cc2)) p9 (zaa r2') 136):=hN5
      have HP5:Hid ((w4.setCell ⟨p6,6,none⟩ (.slice ca2 zs.length cc2)).ownsRow (p6+1) 112 3 (.slice ca2 zs.length cc2) zs.length (zba zs)):=hP5
      clear hQ5 hB5 hN5 hP5 hQ4 hB4 hN4 hbw hP1 ho4 hg4 hQ0 hB0 hN0 hP0
      refine zmx (i:=1) (j:=12) rfl rfl (by kernel_rfl) (fun K hK=>?_) (fun K hK=>?_)
      · rw [if_pos (by rfl)]
        go_simp
        refine hK.out _ _ hS0 (fun _=>?_)
        clear hK
        try simp only [pu]
        refine zap (i:=12) rfl (by kernel_rfl) (fun K hK=>?_)
        rw [if_pos (by rfl)]
        go_simp
        refine hK.out _ _ hS1 (fun _=>?_)
        clear hK
        try simp only [pu]
        refine zap (i:=13) rfl (by kernel_rfl) (fun K hK=>?_)
        rw [if_pos (by rfl)]
        refine Lib.wp_append_run _ _ _ 24 24 rfl _ _ rfl rfl _ w4 hr4 ?_
        refine hK.out _ _ hS4 (fun _=>?_)
        clear hK
        try simp only [pu]
        refine zae (i:=14) (v:=.pointer (some ⟨p6,6,none⟩)) rfl (by kernel_rfl) (Or.inl ⟨rfl,fun W hW=>by go_simp⟩) hS4 ?_
        simp only [pu]
        refine zap (i:=15) rfl (by kernel_rfl) (fun K hK=>?_)
        rw [if_pos (by rfl)]
        refine zao _ _ 24 _ _ rfl _ _ rfl rfl hst ?_
        refine hK.out _ _ hS5 (fun _=>?_)
        clear hK
        try simp only [pu]
        refine wpAnyH_done (by kernel_rfl) ?_ _
        clear hS5 hst hS4 hS1 hr4 c6 c6b hS0
        generalize (w4.setCell ⟨p6,6,none⟩ (.slice ca2 zs.length cc2))=w5' at *
        have HLd:Hid ((Instr.loadAt 136 (.pointer (some ⟨p9,0,none⟩))).run Tryz.prog w5'=.ok (.agg (zaa r2')) w5'):=za2 _ _ _ HN5.out
        have HSt:Hid ((Instr.storeAt 136 (.pointer (some ⟨w.heap.size,0,none⟩)) (.agg (zaa r2'))).run Tryz.prog w5'=.ok () (w5'.setRow w.heap.size (zaa r2'))):=zaq _ _ _ _ HQ5.out.z
        have HQ6:Hid (Sb w r2' (w5'.setRow w.heap.size (zaa r2'))):=HQ5.out.putZ r2'
        have HB6:Hid (Bx (w5'.setRow w.heap.size (zaa r2')) p6 (bks ⟨y0,y1,y7,y2,y3,y4,zs,y5,y6,[]⟩ ca2 none cc2 0) 27):=HB5.out.other (by omega)
        have HP6:Hid ((w5'.setRow w.heap.size (zaa r2')).ownsRow (p6+1) 112 3 (.slice ca2 zs.length cc2) zs.length (zba zs)):=zat HP5.out HQ5.out.z (by decide)
        clear HQ5 HB5 HP5 HN5
        generalize hX:w5'.setRow w.heap.size (zaa r2')=w6' at *
        go_wp2_with (first | (guard_target =~ wpList _ _ _ (⟨_,Op.load 136 _,_,_,_,_⟩::_) _ _;refine zag _ rfl 136 _ rfl _ rfl _ HLd.out ?_;go_simp) | (guard_target =~ wpList _ _ _ (⟨_,Op.store 136 _ _,_,_,_,_⟩::_) _ _;refine zaf _ _ rfl 136 _ _ rfl _ _ rfl rfl HSt.out ?_;go_simp))
        exact ⟨⟨k+1,r2',zs,ca2,cc2,by go_num,by omega,hzl,HF2.out,HS2.out,HQ6.out,HB6.out,HP6.out⟩,by simp [Lib.intOf];omega⟩
      · rw [if_pos (by rfl)]
        go_simp
        refine hK.out _ _ hS1 (fun _=>?_)
        clear hK
        try simp only [pu]
        refine zap (i:=1) rfl (by kernel_rfl) (fun K hK=>?_)
        rw [if_pos (by rfl)]
        go_simp
        refine hK.out _ _ hS1 (fun _=>?_)
        clear hK
        try simp only [pu]
        refine zap (i:=13) rfl (by kernel_rfl) (fun K hK=>?_)
        rw [if_pos (by rfl)]
        refine Lib.wp_append_run _ _ _ 24 24 rfl _ _ rfl rfl _ w4 hr4 ?_
        refine hK.out _ _ hS4 (fun _=>?_)
        clear hK
        try simp only [pu]
        refine zae (i:=14) (v:=.pointer (some ⟨p6,6,none⟩)) rfl (by kernel_rfl) (Or.inl ⟨rfl,fun W hW=>by go_simp⟩) hS4 ?_
        simp only [pu]
        refine zap (i:=15) rfl (by kernel_rfl) (fun K hK=>?_)
        rw [if_pos (by rfl)]
        refine zao _ _ 24 _ _ rfl _ _ rfl rfl hst ?_
        refine hK.out _ _ hS5 (fun _=>?_)
        clear hK
        try simp only [pu]
        refine wpAnyH_done (by kernel_rfl) ?_ _
        clear hS5 hst hS4 hS1 hr4 c6 c6b hS0
        generalize (w4.setCell ⟨p6,6,none⟩ (.slice ca2 zs.length cc2))=w5' at *
        have HLd:Hid ((Instr.loadAt 136 (.pointer (some ⟨p9,0,none⟩))).run Tryz.prog w5'=.ok (.agg (zaa r2')) w5'):=za2 _ _ _ HN5.out
        have HSt:Hid ((Instr.storeAt 136 (.pointer (some ⟨w.heap.size,0,none⟩)) (.agg (zaa r2'))).run Tryz.prog w5'=.ok () (w5'.setRow w.heap.size (zaa r2'))):=zaq _ _ _ _ HQ5.out.z
        have HQ6:Hid (Sb w r2' (w5'.setRow w.heap.size (zaa r2'))):=HQ5.out.putZ r2'
        have HB6:Hid (Bx (w5'.setRow w.heap.size (zaa r2')) p6 (bks ⟨y0,y1,y7,y2,y3,y4,zs,y5,y6,[]⟩ ca2 none cc2 0) 27):=HB5.out.other (by omega)
        have HP6:Hid ((w5'.setRow w.heap.size (zaa r2')).ownsRow (p6+1) 112 3 (.slice ca2 zs.length cc2) zs.length (zba zs)):=zat HP5.out HQ5.out.z (by decide)
        clear HQ5 HB5 HP5 HN5
        generalize hX:w5'.setRow w.heap.size (zaa r2')=w6' at *
        go_wp2_with (first | (guard_target =~ wpList _ _ _ (⟨_,Op.load 136 _,_,_,_,_⟩::_) _ _;refine zag _ rfl 136 _ rfl _ rfl _ HLd.out ?_;go_simp) | (guard_target =~ wpList _ _ _ (⟨_,Op.store 136 _ _,_,_,_,_⟩::_) _ _;refine zaf _ _ rfl 136 _ _ rfl _ _ rfl rfl HSt.out ?_;go_simp))
        exact ⟨⟨k+1,r2',zs,ca2,cc2,by go_num,by omega,hzl,HF2.out,HS2.out,HQ6.out,HB6.out,HP6.out⟩,by simp [Lib.intOf];omega⟩
    · have hfin : zbz n r9 = (rk, ys) := HF.out.fin (by
        rcases Nat.eq_or_lt_of_le hk with h | h
        · exact .inl h
        · right;intro h0';exact hgo ⟨h,h0'⟩)
      rw [h9] at hfin
      have hrk:r10=rk:=congrArg Prod.fst hfin
      have hys:cs=ys:=congrArg Prod.snd hfin
      subst hrk
      subst hys
      have HC:Hid (∀W,Calls Tryz.prog 113 #[.agg (zaa r10),.int .i64 64] W (QI l r11 W)):=fun W=>by have h:=zw9 r10 64 ⟨by decide,by decide⟩ HSk.out.1 HSk.out.l2 W;rw [h10] at h;exact h
      clear HF hfin HSk h9
      by_cases hkn:k<n
      · have hkz : (k : Int) < (n : Int) := by omega
        have hez:((r10.e:Int)==0)=false:=by rw [beq_eq_false_iff_ne];intro h;exact hgo ⟨hkn,by omega⟩
        clear hgo
        have HLd:Hid ((Instr.loadAt 136 (.pointer (some ⟨w.heap.size,0,none⟩))).run Tryz.prog wr=.ok (.agg (zaa r10)) wr):=za2 _ _ _ HQk.out.z
        go_wp2_with (guard_target =~ wpList _ _ _ (⟨_,Op.load 136 _,_,_,_,_⟩::_) _ _;refine zag _ rfl 136 _ rfl _ rfl _ HLd.out ?_;go_simp)
        refine (HC.out _).mono ?_
        rintro e x8 ⟨bv,xs,rfl,HO,hxs,hb⟩
        have hxs2:xs=l:=hxs.out
        subst hxs2
        obtain ⟨ba,bc,hbv⟩:=zc4 HO.out
        subst hbv
        have HSa:Hid (Sb w r10 x8):=HQk.out.keep hb.out
        have HBa:Hid (Bx x8 p6 (bks ⟨y0,y1,y7,y2,y3,y4,cs,y5,y6,[]⟩ ca none cc 0) 27):=HBk.out.keep hb.out
        have HSt:Hid ((Instr.storeAt 136 (.pointer (some ⟨w.heap.size,0,none⟩)) (.agg (zaa r11))).run Tryz.prog x8=.ok () (x8.setRow w.heap.size (zaa r11))):=zaq _ _ _ _ HSa.out.z
        have HQ8:Hid (Sb w r11 (x8.setRow w.heap.size (zaa r11))):=HSa.out.putZ r11
        have HB8:Hid (Bx (x8.setRow w.heap.size (zaa r11)) p6 (bks ⟨y0,y1,y7,y2,y3,y4,cs,y5,y6,[]⟩ ca none cc 0) 27):=HBa.out.other (by omega)
        have HO8:Hid ((x8.setRow w.heap.size (zaa r11)).ownsRow (p6+1) 3 1 (.slice ba xs.length bc) xs.length (zal xs)):=zat (zau HO.out hp6) HSa.out.z (by decide)
        have HC8:Hid ((x8.setRow w.heap.size (zaa r11)).ownsRow (p6+1) 112 3 (.slice ca cs.length cc) cs.length (zba cs)):=zat (zax HOk.out hb.out) HSa.out.z (by decide)
        clear hb HO HSa HBa HQk HBk HOk HLd HC c2 hp6
        generalize hX:(x8.setRow w.heap.size (zaa r11))=v8 at *
        have HSu:Hid ((Instr.storeAt 25 (.pointer (some ⟨p6,9,none⟩)) (.slice ba xs.length bc)).run Tryz.prog v8=.ok () (v8.setCell ⟨p6,9,none⟩ (.slice ba xs.length bc))):=zji _ _ _ _ _ _ _ rfl _ (HB8.out.cell 9) (HB8.out.froz 9)
        have HQ9:Hid (Sb w r11 (v8.setCell ⟨p6,9,none⟩ (.slice ba xs.length bc))):=HQ8.out.cell (by omega) 9 _
        have HB9:Hid (Bx (v8.setCell ⟨p6,9,none⟩ (.slice ba xs.length bc)) p6 (bks ⟨y0,y1,y7,y2,y3,y4,cs,y5,y6,xs⟩ ca ba cc bc) 27):=by unfold Hid;rw [show (bks ⟨y0,y1,y7,y2,y3,y4,cs,y5,y6,xs⟩ ca ba cc bc)=(bks ⟨y0,y1,y7,y2,y3,y4,cs,y5,y6,[]⟩ ca none cc 0).setIfInBounds 9 (.slice ba xs.length bc) by kernel_rfl];exact HB8.out.cellSet _
        have HO9:Hid ((v8.setCell ⟨p6,9,none⟩ (.slice ba xs.length bc)).ownsRow (p6+1) 3 1 (.slice ba xs.length bc) xs.length (zal xs)):=za8 HO8.out (by omega) (Bt.set _ _ 9 _)
        have HC9:Hid ((v8.setCell ⟨p6,9,none⟩ (.slice ba xs.length bc)).ownsRow (p6+1) 112 3 (.slice ca cs.length cc) cs.length (zba cs)):=za8 HC8.out (by omega) (Bt.set _ _ 9 _)
        clear HQ8 HB8 HO8 HC8
        generalize hY:(v8.setCell ⟨p6,9,none⟩ (.slice ba xs.length bc))=w9 at *
        go_upto_region 12 with (first | (guard_target =~ wpList _ _ _ (⟨_,Op.store 136 _ _,_,_,_,_⟩::_) _ _;refine zaf _ _ rfl 136 _ _ rfl _ _ rfl rfl HSt.out ?_;go_simp) | (guard_target =~ wpList _ _ _ (⟨_,Op.store 25 _ _,_,_,_,_⟩::_) _ _;refine zaf _ _ rfl 25 _ _ rfl _ _ rfl rfl HSu.out ?_;go_simp))
        clear HSt HSu hX hY
        go_wp2_with fail
        refine wp_region_held (S:=fun W=>Bx W w.heap.size (zaa r11) 136∧Bx W p6 (bks ⟨y0,y1,y7,y2,y3,y4,cs,y5,y6,xs⟩ ca ba cc bc) 27) (by kernel_rfl) ?_
        change wpAnyH _ _ _ _ _ 4 #[false,false,false,false] _ w9.drew
        have hQ:Sb w r11 w9.drew:=HQ9.out.drewN 1
        have hB:Bx w9.drew p6 (bks ⟨y0,y1,y7,y2,y3,y4,cs,y5,y6,xs⟩ ca ba cc bc) 27:=HB9.out
        have hO:w9.drew.ownsRow (p6+1) 3 1 (.slice ba xs.length bc) xs.length (zal xs):=HO9.out
        have hC:w9.drew.ownsRow (p6+1) 112 3 (.slice ca cs.length cc) cs.length (zba cs):=HC9.out
        clear HQ9 HB9 HO9 HC9
        obtain ⟨v0,hv0⟩:∃u,u=w9.drew:=⟨_,rfl⟩
        rw [← hv0] at hQ hB hO hC ⊢
        clear hv0
        have hS:Bx v0 w.heap.size (zaa r11) 136∧Bx v0 p6 (bks ⟨y0,y1,y7,y2,y3,y4,cs,y5,y6,xs⟩ ca ba cc bc) 27:=⟨hQ.z,hB⟩
        refine zae (i:=0) (v:=.agg (zaa r11)) rfl (by kernel_rfl) (Or.inl ⟨rfl,fun W hW=>exl _ _ _ _ rfl _ _ rfl (za2 W _ _ hW.1)⟩) hS ?_
        simp only [pu]
        refine zae (i:=1) (v:=.agg (bks ⟨y0,y1,y7,y2,y3,y4,cs,y5,y6,xs⟩ ca ba cc bc)) rfl (by kernel_rfl) (Or.inl ⟨rfl,fun W hW=>exl _ _ _ _ rfl _ _ rfl (zt6 W _ _ hW.2 rfl)⟩) hS ?_
        simp only [pu]
        refine zap (i:=2) rfl (by kernel_rfl) (fun K hK=>?_)
        rw [if_pos (by rfl)]
        refine zao _ _ 136 _ _ rfl _ _ rfl rfl (zaq _ _ _ r11 hQ.y) ?_
        refine hK.out _ _ ⟨hQ.z.other (by omega),hB.other (by omega)⟩ (fun hS1=>?_)
        clear hK
        try simp only [pu]
        refine zap (i:=3) rfl (by kernel_rfl) (fun K hK=>?_)
        rw [if_pos (by rfl)]
        refine zao _ _ 27 _ _ rfl _ _ rfl rfl (zbo _ (w.heap.size+2) _ (bks ⟨y0,y1,y7,y2,y3,y4,cs,y5,y6,xs⟩ ca ba cc bc) zd7 (hQ.v.other (by omega)) rfl rfl (ze9 _ _ _ _ _)) ?_
        refine hK.out _ _ ⟨hS1.1.other (by omega),hS1.2.other (by omega)⟩ (fun hS2=>?_)
        clear hK
        try simp only [pu]
        refine wpAnyH_done (by kernel_rfl) ?_ _
        have hl1:=zbi ((v0.setRow (w.heap.size+1) (zaa r11)).setRow (w.heap.size+2) (bks ⟨y0,y1,y7,y2,y3,y4,cs,y5,y6,xs⟩ ca ba cc bc)) (w.heap.size+1) r11 (hQ.y.set.other (by omega))
        have hl2:=ze0 ((v0.setRow (w.heap.size+1) (zaa r11)).setRow (w.heap.size+2) (bks ⟨y0,y1,y7,y2,y3,y4,cs,y5,y6,xs⟩ ca ba cc bc)) (w.heap.size+2) (bks ⟨y0,y1,y7,y2,y3,y4,cs,y5,y6,xs⟩ ca ba cc bc) ((hQ.v.other (by omega)).set) rfl
        have HBz:Hid (Below w.heap.size w ((v0.setRow (w.heap.size+1) (zaa r11)).setRow (w.heap.size+2) (bks ⟨y0,y1,y7,y2,y3,y4,cs,y5,y6,xs⟩ ca ba cc bc))):=zad (zad hQ.c (by omega)) (by omega)
        have HOz:Hid (((v0.setRow (w.heap.size+1) (zaa r11)).setRow (w.heap.size+2) (bks ⟨y0,y1,y7,y2,y3,y4,cs,y5,y6,xs⟩ ca ba cc bc)).ownsRow w.heap.size 3 1 (.slice ba xs.length bc) xs.length (zal xs)):=zau (zat (zat hO hQ.y (by decide)) (hQ.v.other (by omega)) (by decide)) (by omega)
        have HCz:Hid (((v0.setRow (w.heap.size+1) (zaa r11)).setRow (w.heap.size+2) (bks ⟨y0,y1,y7,y2,y3,y4,cs,y5,y6,xs⟩ ca ba cc bc)).ownsRow w.heap.size 112 3 (.slice ca cs.length cc) cs.length (zba cs)):=zau (zat (zat hC hQ.y (by decide)) (hQ.v.other (by omega)) (by decide)) (by omega)
        clear hS hS1 hS2 hQ hB hO hC
        go_wp2_with fail
        refine bodyPost_ret (za3 _ _ 2 136 3 27 _ _ _ _ _ rfl rfl rfl hl1 hl2) rfl ?_
        exact ⟨ca,cc,ba,bc,rfl,HCz,HOz,HBz⟩
      · have hkz : ¬ (k : Int) < (n : Int) := by omega
        clear hgo
        have HLd:Hid ((Instr.loadAt 136 (.pointer (some ⟨w.heap.size,0,none⟩))).run Tryz.prog wr=.ok (.agg (zaa r10)) wr):=za2 _ _ _ HQk.out.z
        go_wp2_with (guard_target =~ wpList _ _ _ (⟨_,Op.load 136 _,_,_,_,_⟩::_) _ _;refine zag _ rfl 136 _ rfl _ rfl _ HLd.out ?_;go_simp)
        refine (HC.out _).mono ?_
        rintro e x8 ⟨bv,xs,rfl,HO,hxs,hb⟩
        have hxs2:xs=l:=hxs.out
        subst hxs2
        obtain ⟨ba,bc,hbv⟩:=zc4 HO.out
        subst hbv
        have HSa:Hid (Sb w r10 x8):=HQk.out.keep hb.out
        have HBa:Hid (Bx x8 p6 (bks ⟨y0,y1,y7,y2,y3,y4,cs,y5,y6,[]⟩ ca none cc 0) 27):=HBk.out.keep hb.out
        have HSt:Hid ((Instr.storeAt 136 (.pointer (some ⟨w.heap.size,0,none⟩)) (.agg (zaa r11))).run Tryz.prog x8=.ok () (x8.setRow w.heap.size (zaa r11))):=zaq _ _ _ _ HSa.out.z
        have HQ8:Hid (Sb w r11 (x8.setRow w.heap.size (zaa r11))):=HSa.out.putZ r11
        have HB8:Hid (Bx (x8.setRow w.heap.size (zaa r11)) p6 (bks ⟨y0,y1,y7,y2,y3,y4,cs,y5,y6,[]⟩ ca none cc 0) 27):=HBa.out.other (by omega)
        have HO8:Hid ((x8.setRow w.heap.size (zaa r11)).ownsRow (p6+1) 3 1 (.slice ba xs.length bc) xs.length (zal xs)):=zat (zau HO.out hp6) HSa.out.z (by decide)
        have HC8:Hid ((x8.setRow w.heap.size (zaa r11)).ownsRow (p6+1) 112 3 (.slice ca cs.length cc) cs.length (zba cs)):=zat (zax HOk.out hb.out) HSa.out.z (by decide)
        clear hb HO HSa HBa HQk HBk HOk HLd HC c2 hp6
        generalize hX:(x8.setRow w.heap.size (zaa r11))=v8 at *
        have HSu:Hid ((Instr.storeAt 25 (.pointer (some ⟨p6,9,none⟩)) (.slice ba xs.length bc)).run Tryz.prog v8=.ok () (v8.setCell ⟨p6,9,none⟩ (.slice ba xs.length bc))):=zji _ _ _ _ _ _ _ rfl _ (HB8.out.cell 9) (HB8.out.froz 9)
        have HQ9:Hid (Sb w r11 (v8.setCell ⟨p6,9,none⟩ (.slice ba xs.length bc))):=HQ8.out.cell (by omega) 9 _
        have HB9:Hid (Bx (v8.setCell ⟨p6,9,none⟩ (.slice ba xs.length bc)) p6 (bks ⟨y0,y1,y7,y2,y3,y4,cs,y5,y6,xs⟩ ca ba cc bc) 27):=by unfold Hid;rw [show (bks ⟨y0,y1,y7,y2,y3,y4,cs,y5,y6,xs⟩ ca ba cc bc)=(bks ⟨y0,y1,y7,y2,y3,y4,cs,y5,y6,[]⟩ ca none cc 0).setIfInBounds 9 (.slice ba xs.length bc) by kernel_rfl];exact HB8.out.cellSet _
        have HO9:Hid ((v8.setCell ⟨p6,9,none⟩ (.slice ba xs.length bc)).ownsRow (p6+1) 3 1 (.slice ba xs.length bc) xs.length (zal xs)):=za8 HO8.out (by omega) (Bt.set _ _ 9 _)
        have HC9:Hid ((v8.setCell ⟨p6,9,none⟩ (.slice ba xs.length bc)).ownsRow (p6+1) 112 3 (.slice ca cs.length cc) cs.length (zba cs)):=za8 HC8.out (by omega) (Bt.set _ _ 9 _)
        clear HQ8 HB8 HO8 HC8
        generalize hY:(v8.setCell ⟨p6,9,none⟩ (.slice ba xs.length bc))=w9 at *
        go_upto_region 12 with (first | (guard_target =~ wpList _ _ _ (⟨_,Op.store 136 _ _,_,_,_,_⟩::_) _ _;refine zaf _ _ rfl 136 _ _ rfl _ _ rfl rfl HSt.out ?_;go_simp) | (guard_target =~ wpList _ _ _ (⟨_,Op.store 25 _ _,_,_,_,_⟩::_) _ _;refine zaf _ _ rfl 25 _ _ rfl _ _ rfl rfl HSu.out ?_;go_simp))
        clear HSt HSu hX hY
        go_wp2_with fail
        refine wp_region_held (S:=fun W=>Bx W w.heap.size (zaa r11) 136∧Bx W p6 (bks ⟨y0,y1,y7,y2,y3,y4,cs,y5,y6,xs⟩ ca ba cc bc) 27) (by kernel_rfl) ?_
        change wpAnyH _ _ _ _ _ 4 #[false,false,false,false] _ w9.drew
        have hQ:Sb w r11 w9.drew:=HQ9.out.drewN 1
        have hB:Bx w9.drew p6 (bks ⟨y0,y1,y7,y2,y3,y4,cs,y5,y6,xs⟩ ca ba cc bc) 27:=HB9.out
        have hO:w9.drew.ownsRow (p6+1) 3 1 (.slice ba xs.length bc) xs.length (zal xs):=HO9.out
        have hC:w9.drew.ownsRow (p6+1) 112 3 (.slice ca cs.length cc) cs.length (zba cs):=HC9.out
        clear HQ9 HB9 HO9 HC9
        obtain ⟨v0,hv0⟩:∃u,u=w9.drew:=⟨_,rfl⟩
        rw [← hv0] at hQ hB hO hC ⊢
        clear hv0
        have hS:Bx v0 w.heap.size (zaa r11) 136∧Bx v0 p6 (bks ⟨y0,y1,y7,y2,y3,y4,cs,y5,y6,xs⟩ ca ba cc bc) 27:=⟨hQ.z,hB⟩
        refine zae (i:=0) (v:=.agg (zaa r11)) rfl (by kernel_rfl) (Or.inl ⟨rfl,fun W hW=>exl _ _ _ _ rfl _ _ rfl (za2 W _ _ hW.1)⟩) hS ?_
        simp only [pu]
        refine zae (i:=1) (v:=.agg (bks ⟨y0,y1,y7,y2,y3,y4,cs,y5,y6,xs⟩ ca ba cc bc)) rfl (by kernel_rfl) (Or.inl ⟨rfl,fun W hW=>exl _ _ _ _ rfl _ _ rfl (zt6 W _ _ hW.2 rfl)⟩) hS ?_
        simp only [pu]
        refine zap (i:=2) rfl (by kernel_rfl) (fun K hK=>?_)
        rw [if_pos (by rfl)]
        refine zao _ _ 136 _ _ rfl _ _ rfl rfl (zaq _ _ _ r11 hQ.y) ?_
        refine hK.out _ _ ⟨hQ.z.other (by omega),hB.other (by omega)⟩ (fun hS1=>?_)
        clear hK
        try simp only [pu]
        refine zap (i:=3) rfl (by kernel_rfl) (fun K hK=>?_)
        rw [if_pos (by rfl)]
        refine zao _ _ 27 _ _ rfl _ _ rfl rfl (zbo _ (w.heap.size+2) _ (bks ⟨y0,y1,y7,y2,y3,y4,cs,y5,y6,xs⟩ ca ba cc bc) zd7 (hQ.v.other (by omega)) rfl rfl (ze9 _ _ _ _ _)) ?_
        refine hK.out _ _ ⟨hS1.1.other (by omega),hS1.2.other (by omega)⟩ (fun hS2=>?_)
        clear hK
        try simp only [pu]
        refine wpAnyH_done (by kernel_rfl) ?_ _
        have hl1:=zbi ((v0.setRow (w.heap.size+1) (zaa r11)).setRow (w.heap.size+2) (bks ⟨y0,y1,y7,y2,y3,y4,cs,y5,y6,xs⟩ ca ba cc bc)) (w.heap.size+1) r11 (hQ.y.set.other (by omega))
        have hl2:=ze0 ((v0.setRow (w.heap.size+1) (zaa r11)).setRow (w.heap.size+2) (bks ⟨y0,y1,y7,y2,y3,y4,cs,y5,y6,xs⟩ ca ba cc bc)) (w.heap.size+2) (bks ⟨y0,y1,y7,y2,y3,y4,cs,y5,y6,xs⟩ ca ba cc bc) ((hQ.v.other (by omega)).set) rfl
        have HBz:Hid (Below w.heap.size w ((v0.setRow (w.heap.size+1) (zaa r11)).setRow (w.heap.size+2) (bks ⟨y0,y1,y7,y2,y3,y4,cs,y5,y6,xs⟩ ca ba cc bc))):=zad (zad hQ.c (by omega)) (by omega)
        have HOz:Hid (((v0.setRow (w.heap.size+1) (zaa r11)).setRow (w.heap.size+2) (bks ⟨y0,y1,y7,y2,y3,y4,cs,y5,y6,xs⟩ ca ba cc bc)).ownsRow w.heap.size 3 1 (.slice ba xs.length bc) xs.length (zal xs)):=zau (zat (zat hO hQ.y (by decide)) (hQ.v.other (by omega)) (by decide)) (by omega)
        have HCz:Hid (((v0.setRow (w.heap.size+1) (zaa r11)).setRow (w.heap.size+2) (bks ⟨y0,y1,y7,y2,y3,y4,cs,y5,y6,xs⟩ ca ba cc bc)).ownsRow w.heap.size 112 3 (.slice ca cs.length cc) cs.length (zba cs)):=zau (zat (zat hC hQ.y (by decide)) (hQ.v.other (by omega)) (by decide)) (by omega)
        clear hS hS1 hS2 hQ hB hO hC
        go_wp2_with fail
        refine bodyPost_ret (za3 _ _ 2 136 3 27 _ _ _ _ _ rfl rfl rfl hl1 hl2) rfl ?_
        exact ⟨ca,cc,ba,bc,rfl,HCz,HOz,HBz⟩
def RdB (r:Rd) (m:Mg) (w:World) (e:Ending) (w':World):Prop:=∃ca cc ba bc,e=.returned (.tuple #[.agg (zaa r),.agg (mcs m none none ca ba 0 0 cc bc)])∧Hid (w'.ownsRow w.heap.size 112 3 (.slice ca m.b.cuts.length cc) m.b.cuts.length (zba m.b.cuts))∧Hid (w'.ownsRow w.heap.size 3 1 (.slice ba m.b.bar.length bc) m.b.bar.length (zal m.b.bar))∧Hid (Below w.heap.size w w')
theorem zt7 {r r1:Rd} {b:Bk} (hq:∀W,Calls Tryz.prog 93 #[.agg (zaa r)] W (QB r1 b W)) (w:World):Calls Tryz.prog 62 #[.agg (zaa r),.agg (mcs { Mg.z with k:=3 } none none none none 0 0 0 0)] w (RdB r1 { Mg.z with k:=3,b:=b } w):=by
 have HS1:Hid (Sq w r (mcs { Mg.z with k:=3 } none none none none 0 0 0 0) ((((w.alloc (.cells (zaa r) 136)).alloc (.cells (mcs { Mg.z with k:=3 } none none none none 0 0 0 0) 35)).alloc (.cells (zaa ⟨[],0,0⟩) 136)).alloc (.cells (mcs Mg.z none none none none 0 0 0 0) 35))):=Sq.new w r _
 go_enter Tryz.func62,Tryz.ntmps62
 go_upto_region 1 with fail
 show Code.wp _ _ _ _ ((((w.alloc (.cells (zaa r) 136)).alloc (.cells (mcs { Mg.z with k:=3 } none none none none 0 0 0 0) 35)).alloc (.cells (zaa ⟨[],0,0⟩) 136)).alloc (.cells (mcs Mg.z none none none none 0 0 0 0) 35))
 generalize ((((w.alloc (.cells (zaa r) 136)).alloc (.cells (mcs { Mg.z with k:=3 } none none none none 0 0 0 0) 35)).alloc (.cells (zaa ⟨[],0,0⟩) 136)).alloc (.cells (mcs Mg.z none none none none 0 0 0 0) 35))=w1 at *
 have c0:w1.cell? ⟨w.heap.size+1,0,none⟩=some (.int .i64 3):=(HS1.out.b.cell 0).trans rfl
 have HLd:Hid ((Instr.loadAt 136 (.pointer (some ⟨w.heap.size,0,none⟩))).run Tryz.prog w1=.ok (.agg (zaa r)) w1):=za2 _ _ _ HS1.out.z
 go_wp2_with (guard_target =~ wpList _ _ _ (⟨_,Op.load 136 _,_,_,_,_⟩::_) _ _;refine zag _ rfl 136 _ rfl _ rfl _ HLd.out ?_;go_simp)
 refine (hq _).mono ?_
 rintro e x1 ⟨ca,cc,ba,bc,rfl,HC,HO,hb⟩
 have hle:w.heap.size+4≤w1.heap.size:=HS1.out.lt
 have HSa:Hid (Sq w r (mcs { Mg.z with k:=3 } none none none none 0 0 0 0) x1):=HS1.out.keep hb.out
 have HSt:Hid ((Instr.storeAt 136 (.pointer (some ⟨w.heap.size,0,none⟩)) (.agg (zaa r1))).run Tryz.prog x1=.ok () (x1.setRow w.heap.size (zaa r1))):=zaq _ _ _ _ HSa.out.z
 have HS2:Hid (Sq w r1 (mcs { Mg.z with k:=3 } none none none none 0 0 0 0) (x1.setRow w.heap.size (zaa r1))):=HSa.out.putZ r1
 have HC2:Hid ((x1.setRow w.heap.size (zaa r1)).ownsRow (w.heap.size+4) 112 3 (.slice ca b.cuts.length cc) b.cuts.length (zba b.cuts)):=zau (zat HC.out HSa.out.z (by decide)) hle
 have HO2:Hid ((x1.setRow w.heap.size (zaa r1)).ownsRow (w.heap.size+4) 3 1 (.slice ba b.bar.length bc) b.bar.length (zal b.bar)):=zau (zat HO.out HSa.out.z (by decide)) hle
 clear hb HC HO HSa HS1 HLd c0 hle
 generalize hX:(x1.setRow w.heap.size (zaa r1))=v1 at *
 have HSm:Hid ((Instr.storeAt 27 (.pointer (some ⟨w.heap.size+1,8,none⟩)) (.agg (bks b ca ba cc bc))).run Tryz.prog v1=.ok () (v1.setCells (w.heap.size+1) 8 [.int .i64 b.id,.int .i64 b.ver,.string ⟨b.cur.toArray⟩,.int .i64 b.rat,.int .i64 b.least,.int .i64 b.most,.slice ca b.cuts.length cc,.int .i64 b.iss,.int .i64 b.ass,.slice ba b.bar.length bc])):=run_storeAt_mid v1 (w.heap.size+1) 8 27 (bks b ca ba cc bc) (HS2.out.b.there (by show 8+10≤(mcs _ _ _ _ _ _ _ _ _).size;rw [zac];omega)) zd7 (ze9 _ _ _ _ _)
 have HSr:Hid (Sq w r1 (mcs { Mg.z with k:=3,b:=b } none none ca ba 0 0 cc bc) (v1.setCells (w.heap.size+1) 8 [.int .i64 b.id,.int .i64 b.ver,.string ⟨b.cur.toArray⟩,.int .i64 b.rat,.int .i64 b.least,.int .i64 b.most,.slice ca b.cuts.length cc,.int .i64 b.iss,.int .i64 b.ass,.slice ba b.bar.length bc])):=HS2.out.putC 8 _ (by kernel_rfl)
 have HCr:Hid ((v1.setCells (w.heap.size+1) 8 [.int .i64 b.id,.int .i64 b.ver,.string ⟨b.cur.toArray⟩,.int .i64 b.rat,.int .i64 b.least,.int .i64 b.most,.slice ca b.cuts.length cc,.int .i64 b.iss,.int .i64 b.ass,.slice ba b.bar.length bc]).ownsRow (w.heap.size+4) 112 3 (.slice ca b.cuts.length cc) b.cuts.length (zba b.cuts)):=za8 HC2.out (by omega) (Bt.cells _ _ _)
 have HOr:Hid ((v1.setCells (w.heap.size+1) 8 [.int .i64 b.id,.int .i64 b.ver,.string ⟨b.cur.toArray⟩,.int .i64 b.rat,.int .i64 b.least,.int .i64 b.most,.slice ca b.cuts.length cc,.int .i64 b.iss,.int .i64 b.ass,.slice ba b.bar.length bc]).ownsRow (w.heap.size+4) 3 1 (.slice ba b.bar.length bc) b.bar.length (zal b.bar)):=za8 HO2.out (by omega) (Bt.cells _ _ _)
 clear HS2 HC2 HO2
 generalize hY:(v1.setCells (w.heap.size+1) 8 [.int .i64 b.id,.int .i64 b.ver,.string ⟨b.cur.toArray⟩,.int .i64 b.rat,.int .i64 b.least,.int .i64 b.most,.slice ca b.cuts.length cc,.int .i64 b.iss,.int .i64 b.ass,.slice ba b.bar.length bc])=wr at *
 go_upto_region 13 with (first | (guard_target =~ wpList _ _ _ (⟨_,Op.store 136 _ _,_,_,_,_⟩::_) _ _;refine zaf _ _ rfl 136 _ _ rfl _ _ rfl rfl HSt.out ?_;go_simp) | (guard_target =~ wpList _ _ _ (⟨_,Op.store 27 _ _,_,_,_,_⟩::_) _ _;refine zaf _ _ rfl 27 _ _ rfl _ _ rfl rfl HSm.out ?_;go_simp))
 clear HSt HSm hX hY
 have c0:wr.cell? ⟨w.heap.size+1,0,none⟩=some (.int .i64 3):=(HSr.out.b.cell 0).trans rfl
 have HLd:Hid ((Instr.loadAt 136 (.pointer (some ⟨w.heap.size,0,none⟩))).run Tryz.prog wr=.ok (.agg (zaa r1)) wr):=za2 _ _ _ HSr.out.z
 have HLm:Hid ((Instr.loadAt 35 (.pointer (some ⟨w.heap.size+1,0,none⟩))).run Tryz.prog wr=.ok (.agg (mcs { Mg.z with k:=3,b:=b } none none ca ba 0 0 cc bc)) wr):=zam _ _ _ (zac _ _ _ _ _ _ _ _ _) HSr.out.b
 go_wp2_with (first | (guard_target =~ wpList _ _ _ (⟨_,Op.load 136 _,_,_,_,_⟩::_) _ _;refine zag _ rfl 136 _ rfl _ rfl _ HLd.out ?_;go_simp) | (guard_target =~ wpList _ _ _ (⟨_,Op.load 35 _,_,_,_,_⟩::_) _ _;refine zag _ rfl 35 _ rfl _ rfl _ HLm.out ?_;go_simp))
 refine (zdr 3 (by decide) _ _ rfl (zac _ _ _ _ _ _ _ _ _) (zaj _ _ _ _ _ _ _ _ _) _).mono ?_
 rintro e xr ⟨rfl,hb⟩
 have HSa:Hid (Sq w r1 (mcs { Mg.z with k:=3,b:=b } none none ca ba 0 0 cc bc) xr):=HSr.out.keep hb.out
 have HSt:Hid ((Instr.storeAt 136 (.pointer (some ⟨w.heap.size+2,0,none⟩)) (.agg (zaa r1))).run Tryz.prog xr=.ok () (xr.setRow (w.heap.size+2) (zaa r1))):=zaq _ _ _ _ HSa.out.y
 have HSu:Hid ((Instr.storeAt 35 (.pointer (some ⟨w.heap.size+3,0,none⟩)) (.agg (mcs { Mg.z with k:=3,b:=b } none none ca ba 0 0 cc bc))).run Tryz.prog (xr.setRow (w.heap.size+2) (zaa r1))=.ok () ((xr.setRow (w.heap.size+2) (zaa r1)).setRow (w.heap.size+3) (mcs { Mg.z with k:=3,b:=b } none none ca ba 0 0 cc bc))):=zaw _ (w.heap.size+3) _ _ (HSa.out.v.other (by omega)) (zac _ _ _ _ _ _ _ _ _) (zac _ _ _ _ _ _ _ _ _) (zaj _ _ _ _ _ _ _ _ _)
 have hl1:=zbi ((xr.setRow (w.heap.size+2) (zaa r1)).setRow (w.heap.size+3) (mcs { Mg.z with k:=3,b:=b } none none ca ba 0 0 cc bc)) (w.heap.size+2) r1 (HSa.out.y.set.other (by omega))
 have hl2:=zbb ((xr.setRow (w.heap.size+2) (zaa r1)).setRow (w.heap.size+3) (mcs { Mg.z with k:=3,b:=b } none none ca ba 0 0 cc bc)) (w.heap.size+3) (mcs { Mg.z with k:=3,b:=b } none none ca ba 0 0 cc bc) (zac _ _ _ _ _ _ _ _ _) ((HSa.out.v.other (by omega)).set)
 have HBz:Hid (Below w.heap.size w ((xr.setRow (w.heap.size+2) (zaa r1)).setRow (w.heap.size+3) (mcs { Mg.z with k:=3,b:=b } none none ca ba 0 0 cc bc))):=zad (zad HSa.out.c (by omega)) (by omega)
 have HCz:Hid (((xr.setRow (w.heap.size+2) (zaa r1)).setRow (w.heap.size+3) (mcs { Mg.z with k:=3,b:=b } none none ca ba 0 0 cc bc)).ownsRow w.heap.size 112 3 (.slice ca b.cuts.length cc) b.cuts.length (zba b.cuts)):=zau (zat (zat (zax HCr.out hb.out) HSa.out.y (by decide)) (HSa.out.v.other (by omega)) (by decide)) (by omega)
 have HOz:Hid (((xr.setRow (w.heap.size+2) (zaa r1)).setRow (w.heap.size+3) (mcs { Mg.z with k:=3,b:=b } none none ca ba 0 0 cc bc)).ownsRow w.heap.size 3 1 (.slice ba b.bar.length bc) b.bar.length (zal b.bar)):=zau (zat (zat (zax HOr.out hb.out) HSa.out.y (by decide)) (HSa.out.v.other (by omega)) (by decide)) (by omega)
 clear HCr HOr
 clear HSa HLd HLm hb HSr c0
 generalize hAZ:(mcs { Mg.z with k:=3,b:=b } none none ca ba 0 0 cc bc)=AZ at *
 go_wp2_with (first | (guard_target =~ wpList _ _ _ (⟨_,Op.store 136 _ _,_,_,_,_⟩::_) _ _;refine zaf _ _ rfl 136 _ _ rfl _ _ rfl rfl HSt.out ?_;go_simp) | (guard_target =~ wpList _ _ _ (⟨_,Op.store 35 _ _,_,_,_,_⟩::_) _ _;refine zaf _ _ rfl 35 _ _ rfl _ _ rfl rfl HSu.out ?_;go_simp))
 refine bodyPost_ret (za3 _ _ 4 136 5 35 _ _ _ _ _ rfl rfl rfl hl1 hl2) rfl ?_
 subst hAZ;exact ⟨ca,cc,ba,bc,rfl,HCz,HOz,HBz⟩
def RdG (r:Rd) (m:Mg) (w:World) (e:Ending) (w':World):Prop:=∃pa ia ca ba pc ic cc bc,e=.returned (.tuple #[.agg (zaa r),.agg (mcs m pa ia ca ba pc ic cc bc)])∧Hid (Own w.heap.size w' m pa ia ca ba pc ic cc bc)∧Hid (Below w.heap.size w w')
theorem zft:∀(n:Nat) (r:Rd),(zbf n r).2.length≤n
  | 0,_=>Nat.zero_le _
  | n + 1, r => by
    show (if r.e≠0 then (r,[]) else ((zbf n (za9 r).1).1,(za9 r).2::(zbf n (za9 r).1).2):Rd × List Lt).2.length≤n+1
    split
    · exact Nat.zero_le _
    · have := zft n (za9 r).1
      show (_::_).length≤_
      rw [List.length_cons];omega
theorem qg1 {r:Rd} (hs:Sm r) (w:World):Calls Tryz.prog 62 #[.agg (zaa r),.agg (mcs { Mg.z with k:=1 } none none none none 0 0 0 0)] w (RdG (rdK 1 r).1 (rdK 1 r).2 w):=by
 obtain ⟨r1,y0,h0⟩:∃a b,zah r=(a,b):=⟨_,_,rfl⟩
 have s1:Sm r1:=by have:=Sm.fw za7 hs;rw [h0] at this;exact this
 obtain ⟨r2,y1,h1⟩:∃a b,za4 r1 160=(a,b):=⟨_,_,rfl⟩
 have s2:Sm r2:=by have:=Sm.fw (zcf 160) s1;rw [h1] at this;exact this
 have e:rdK 1 r=(r2,{ Mg.z with k:=1,mem:=y0,name:=y1 }):=by simp [rdK,rBk,rQu,thn,h0,h1]
 rw [e]
 refine (zty h0 h1 hs s1 s2 w).mono ?_
 rintro E w' ⟨he,hB⟩
 exact ⟨none,none,none,none,0,0,0,0,he,⟨fun h=>absurd (show (1:Int)=4 from h) (by decide),fun h=>absurd (show (1:Int)=11 from h) (by decide),fun h=>absurd (show (1:Int)=3 from h) (by decide),fun h=>absurd (show (1:Int)=3 from h) (by decide)⟩,hB⟩
theorem qg2 {r:Rd} (hs:Sm r) (w:World):Calls Tryz.prog 62 #[.agg (zaa r),.agg (mcs { Mg.z with k:=2 } none none none none 0 0 0 0)] w (RdG (rdK 2 r).1 (rdK 2 r).2 w):=by
 obtain ⟨r1,y0,h0⟩:∃a b,za4 r 12=(a,b):=⟨_,_,rfl⟩
 have s1:Sm r1:=by have:=Sm.fw (zcf 12) hs;rw [h0] at this;exact this
 obtain ⟨r2,y1,h1⟩:∃a b,zah r1=(a,b):=⟨_,_,rfl⟩
 have s2:Sm r2:=by have:=Sm.fw za7 s1;rw [h1] at this;exact this
 obtain ⟨r3,y2,h2⟩:∃a b,zah r2=(a,b):=⟨_,_,rfl⟩
 have s3:Sm r3:=by have:=Sm.fw za7 s2;rw [h2] at this;exact this
 obtain ⟨r4,y3,h3⟩:∃a b,zah r3=(a,b):=⟨_,_,rfl⟩
 have s4:Sm r4:=by have:=Sm.fw za7 s3;rw [h3] at this;exact this
 obtain ⟨r5,y4,h4⟩:∃a b,za4 r4 12=(a,b):=⟨_,_,rfl⟩
 have s5:Sm r5:=by have:=Sm.fw (zcf 12) s4;rw [h4] at this;exact this
 have e:rdK 2 r=(r5,{ Mg.z with k:=2,a:=⟨y0,y1,y2,y3,y4⟩ }):=by simp [rdK,rBk,rQu,thn,h0,h1,h2,h3,h4]
 rw [e]
 refine (ztz h0 h1 h2 h3 h4 hs s1 s2 s3 s4 s5 w).mono ?_
 rintro E w' ⟨he,hB⟩
 exact ⟨none,none,none,none,0,0,0,0,he,⟨fun h=>absurd (show (2:Int)=4 from h) (by decide),fun h=>absurd (show (2:Int)=11 from h) (by decide),fun h=>absurd (show (2:Int)=3 from h) (by decide),fun h=>absurd (show (2:Int)=3 from h) (by decide)⟩,hB⟩
theorem qg5 {r:Rd} (hs:Sm r) (w:World):Calls Tryz.prog 62 #[.agg (zaa r),.agg (mcs { Mg.z with k:=5 } none none none none 0 0 0 0)] w (RdG (rdK 5 r).1 (rdK 5 r).2 w):=by
 obtain ⟨r1,y0,h0⟩:∃a b,zah r=(a,b):=⟨_,_,rfl⟩
 have s1:Sm r1:=by have:=Sm.fw za7 hs;rw [h0] at this;exact this
 have e:rdK 5 r=(r1,{ Mg.z with k:=5,day:=y0 }):=by simp [rdK,rBk,rQu,thn,h0]
 rw [e]
 refine (zt0 h0 hs s1 w).mono ?_
 rintro E w' ⟨he,hB⟩
 exact ⟨none,none,none,none,0,0,0,0,he,⟨fun h=>absurd (show (5:Int)=4 from h) (by decide),fun h=>absurd (show (5:Int)=11 from h) (by decide),fun h=>absurd (show (5:Int)=3 from h) (by decide),fun h=>absurd (show (5:Int)=3 from h) (by decide)⟩,hB⟩
theorem qg6 {r:Rd} (hs:Sm r) (w:World):Calls Tryz.prog 62 #[.agg (zaa r),.agg (mcs { Mg.z with k:=6 } none none none none 0 0 0 0)] w (RdG (rdK 6 r).1 (rdK 6 r).2 w):=by
 obtain ⟨r1,y0,h0⟩:∃a b,zah r=(a,b):=⟨_,_,rfl⟩
 have s1:Sm r1:=by have:=Sm.fw za7 hs;rw [h0] at this;exact this
 obtain ⟨r2,y1,h1⟩:∃a b,zah r1=(a,b):=⟨_,_,rfl⟩
 have s2:Sm r2:=by have:=Sm.fw za7 s1;rw [h1] at this;exact this
 obtain ⟨r3,y2,h2⟩:∃a b,za4 r2 12=(a,b):=⟨_,_,rfl⟩
 have s3:Sm r3:=by have:=Sm.fw (zcf 12) s2;rw [h2] at this;exact this
 have e:rdK 6 r=(r3,{ Mg.z with k:=6,mem:=y0,n:=y1,t:=y2 }):=by simp [rdK,rBk,rQu,thn,h0,h1,h2]
 rw [e]
 refine (zt1 h0 h1 h2 hs s1 s2 s3 w).mono ?_
 rintro E w' ⟨he,hB⟩
 exact ⟨none,none,none,none,0,0,0,0,he,⟨fun h=>absurd (show (6:Int)=4 from h) (by decide),fun h=>absurd (show (6:Int)=11 from h) (by decide),fun h=>absurd (show (6:Int)=3 from h) (by decide),fun h=>absurd (show (6:Int)=3 from h) (by decide)⟩,hB⟩
theorem qg7 {r:Rd} (hs:Sm r) (w:World):Calls Tryz.prog 62 #[.agg (zaa r),.agg (mcs { Mg.z with k:=7 } none none none none 0 0 0 0)] w (RdG (rdK 7 r).1 (rdK 7 r).2 w):=by
 obtain ⟨r1,y0,h0⟩:∃a b,zah r=(a,b):=⟨_,_,rfl⟩
 have s1:Sm r1:=by have:=Sm.fw za7 hs;rw [h0] at this;exact this
 obtain ⟨r2,y1,h1⟩:∃a b,zah r1=(a,b):=⟨_,_,rfl⟩
 have s2:Sm r2:=by have:=Sm.fw za7 s1;rw [h1] at this;exact this
 obtain ⟨r3,y2,h2⟩:∃a b,za4 r2 12=(a,b):=⟨_,_,rfl⟩
 have s3:Sm r3:=by have:=Sm.fw (zcf 12) s2;rw [h2] at this;exact this
 have e:rdK 7 r=(r3,{ Mg.z with k:=7,mem:=y0,n:=y1,t:=y2 }):=by simp [rdK,rBk,rQu,thn,h0,h1,h2]
 rw [e]
 refine (zt2 h0 h1 h2 hs s1 s2 s3 w).mono ?_
 rintro E w' ⟨he,hB⟩
 exact ⟨none,none,none,none,0,0,0,0,he,⟨fun h=>absurd (show (7:Int)=4 from h) (by decide),fun h=>absurd (show (7:Int)=11 from h) (by decide),fun h=>absurd (show (7:Int)=3 from h) (by decide),fun h=>absurd (show (7:Int)=3 from h) (by decide)⟩,hB⟩
theorem qg8 {r:Rd} (hs:Sm r) (w:World):Calls Tryz.prog 62 #[.agg (zaa r),.agg (mcs { Mg.z with k:=8 } none none none none 0 0 0 0)] w (RdG (rdK 8 r).1 (rdK 8 r).2 w):=by
 obtain ⟨r1,y0,h0⟩:∃a b,zah r=(a,b):=⟨_,_,rfl⟩
 have s1:Sm r1:=by have:=Sm.fw za7 hs;rw [h0] at this;exact this
 obtain ⟨r2,y1,h1⟩:∃a b,zah r1=(a,b):=⟨_,_,rfl⟩
 have s2:Sm r2:=by have:=Sm.fw za7 s1;rw [h1] at this;exact this
 obtain ⟨r3,y2,h2⟩:∃a b,zah r2=(a,b):=⟨_,_,rfl⟩
 have s3:Sm r3:=by have:=Sm.fw za7 s2;rw [h2] at this;exact this
 obtain ⟨r4,y3,h3⟩:∃a b,zah r3=(a,b):=⟨_,_,rfl⟩
 have s4:Sm r4:=by have:=Sm.fw za7 s3;rw [h3] at this;exact this
 obtain ⟨r5,y4,h4⟩:∃a b,zah r4=(a,b):=⟨_,_,rfl⟩
 have s5:Sm r5:=by have:=Sm.fw za7 s4;rw [h4] at this;exact this
 obtain ⟨r6,y5,h5⟩:∃a b,zah r5=(a,b):=⟨_,_,rfl⟩
 have s6:Sm r6:=by have:=Sm.fw za7 s5;rw [h5] at this;exact this
 obtain ⟨r7,y6,h6⟩:∃a b,zah r6=(a,b):=⟨_,_,rfl⟩
 have s7:Sm r7:=by have:=Sm.fw za7 s6;rw [h6] at this;exact this
 obtain ⟨r8,y7,h7⟩:∃a b,zah r7=(a,b):=⟨_,_,rfl⟩
 have s8:Sm r8:=by have:=Sm.fw za7 s7;rw [h7] at this;exact this
 have e:rdK 8 r=(r8,{ Mg.z with k:=8,q:=⟨y0,y1,y2,y3,y4,y5,y6,y7⟩ }):=by simp [rdK,rBk,rQu,thn,h0,h1,h2,h3,h4,h5,h6,h7]
 rw [e]
 refine (zt4 h0 h1 h2 h3 h4 h5 h6 h7 hs s1 s2 s3 s4 s5 s6 s7 s8 w).mono ?_
 rintro E w' ⟨he,hB⟩
 exact ⟨none,none,none,none,0,0,0,0,he,⟨fun h=>absurd (show (8:Int)=4 from h) (by decide),fun h=>absurd (show (8:Int)=11 from h) (by decide),fun h=>absurd (show (8:Int)=3 from h) (by decide),fun h=>absurd (show (8:Int)=3 from h) (by decide)⟩,hB⟩
theorem qg9 {r:Rd} (hs:Sm r) (w:World):Calls Tryz.prog 62 #[.agg (zaa r),.agg (mcs { Mg.z with k:=9 } none none none none 0 0 0 0)] w (RdG (rdK 9 r).1 (rdK 9 r).2 w):=by
 obtain ⟨r1,y0,h0⟩:∃a b,zah r=(a,b):=⟨_,_,rfl⟩
 have s1:Sm r1:=by have:=Sm.fw za7 hs;rw [h0] at this;exact this
 obtain ⟨r2,y1,h1⟩:∃a b,zah r1=(a,b):=⟨_,_,rfl⟩
 have s2:Sm r2:=by have:=Sm.fw za7 s1;rw [h1] at this;exact this
 have e:rdK 9 r=(r2,{ Mg.z with k:=9,mem:=y0,n:=y1 }):=by simp [rdK,rBk,rQu,thn,h0,h1]
 rw [e]
 refine (zt3 h0 h1 hs s1 s2 w).mono ?_
 rintro E w' ⟨he,hB⟩
 exact ⟨none,none,none,none,0,0,0,0,he,⟨fun h=>absurd (show (9:Int)=4 from h) (by decide),fun h=>absurd (show (9:Int)=11 from h) (by decide),fun h=>absurd (show (9:Int)=3 from h) (by decide),fun h=>absurd (show (9:Int)=3 from h) (by decide)⟩,hB⟩
theorem zzk {r:Rd} (hs:Sm r) (w:World):Calls Tryz.prog 62 #[.agg (zaa r),.agg (mcs { Mg.z with k:=10 } none none none none 0 0 0 0)] w (RdG (rdK 10 r).1 (rdK 10 r).2 w):=by
 obtain ⟨r1,y0,h0⟩:∃a b,zah r=(a,b):=⟨_,_,rfl⟩
 have s1:Sm r1:=by have:=Sm.fw za7 hs;rw [h0] at this;exact this
 obtain ⟨r2,y1,h1⟩:∃a b,zah r1=(a,b):=⟨_,_,rfl⟩
 have s2:Sm r2:=by have:=Sm.fw za7 s1;rw [h1] at this;exact this
 obtain ⟨r3,y2,h2⟩:∃a b,zah r2=(a,b):=⟨_,_,rfl⟩
 have s3:Sm r3:=by have:=Sm.fw za7 s2;rw [h2] at this;exact this
 have e:rdK 10 r=(r3,{ Mg.z with k:=10,mem:=y0,tr:=y1,day:=y2 }):=by simp [rdK,rBk,rQu,thn,h0,h1,h2]
 rw [e]
 refine (zpz h0 h1 h2 hs s1 s2 s3 w).mono ?_
 rintro E w' ⟨he,hB⟩
 exact ⟨none,none,none,none,0,0,0,0,he,⟨fun h=>absurd (show (10:Int)=4 from h) (by decide),fun h=>absurd (show (10:Int)=11 from h) (by decide),fun h=>absurd (show (10:Int)=3 from h) (by decide),fun h=>absurd (show (10:Int)=3 from h) (by decide)⟩,hB⟩
theorem zzl {r:Rd} (hs:Sm r) (w:World):Calls Tryz.prog 62 #[.agg (zaa r),.agg (mcs { Mg.z with k:=12 } none none none none 0 0 0 0)] w (RdG (rdK 12 r).1 (rdK 12 r).2 w):=by
 obtain ⟨r1,y0,h0⟩:∃a b,zah r=(a,b):=⟨_,_,rfl⟩
 have s1:Sm r1:=by have:=Sm.fw za7 hs;rw [h0] at this;exact this
 obtain ⟨r2,y1,h1⟩:∃a b,zah r1=(a,b):=⟨_,_,rfl⟩
 have s2:Sm r2:=by have:=Sm.fw za7 s1;rw [h1] at this;exact this
 obtain ⟨r3,y2,h2⟩:∃a b,zbn r2=(a,b):=⟨_,_,rfl⟩
 have s3:Sm r3:=by have:=Sm.fw zm8 s2;rw [h2] at this;exact this
 have e:rdK 12 r=(r3,{ Mg.z with k:=12,mem:=y0,day:=y1,done:=y2 }):=by simp [rdK,rBk,rQu,thn,h0,h1,h2]
 rw [e]
 refine (zp0 h0 h1 h2 hs s1 s2 s3 w).mono ?_
 rintro E w' ⟨he,hB⟩
 exact ⟨none,none,none,none,0,0,0,0,he,⟨fun h=>absurd (show (12:Int)=4 from h) (by decide),fun h=>absurd (show (12:Int)=11 from h) (by decide),fun h=>absurd (show (12:Int)=3 from h) (by decide),fun h=>absurd (show (12:Int)=3 from h) (by decide)⟩,hB⟩
theorem zzm {r:Rd} (hs:Sm r) (w:World):Calls Tryz.prog 62 #[.agg (zaa r),.agg (mcs { Mg.z with k:=13 } none none none none 0 0 0 0)] w (RdG (rdK 13 r).1 (rdK 13 r).2 w):=by
 obtain ⟨r1,y0,h0⟩:∃a b,zah r=(a,b):=⟨_,_,rfl⟩
 have s1:Sm r1:=by have:=Sm.fw za7 hs;rw [h0] at this;exact this
 have e:rdK 13 r=(r1,{ Mg.z with k:=13,mem:=y0 }):=by simp [rdK,rBk,rQu,thn,h0]
 rw [e]
 refine (zp1 h0 hs s1 w).mono ?_
 rintro E w' ⟨he,hB⟩
 exact ⟨none,none,none,none,0,0,0,0,he,⟨fun h=>absurd (show (13:Int)=4 from h) (by decide),fun h=>absurd (show (13:Int)=11 from h) (by decide),fun h=>absurd (show (13:Int)=3 from h) (by decide),fun h=>absurd (show (13:Int)=3 from h) (by decide)⟩,hB⟩
theorem zzn {r:Rd} (hs:Sm r) (w:World):Calls Tryz.prog 62 #[.agg (zaa r),.agg (mcs { Mg.z with k:=14 } none none none none 0 0 0 0)] w (RdG (rdK 14 r).1 (rdK 14 r).2 w):=by
 obtain ⟨r1,y0,h0⟩:∃a b,zah r=(a,b):=⟨_,_,rfl⟩
 have s1:Sm r1:=by have:=Sm.fw za7 hs;rw [h0] at this;exact this
 obtain ⟨r2,y1,h1⟩:∃a b,zah r1=(a,b):=⟨_,_,rfl⟩
 have s2:Sm r2:=by have:=Sm.fw za7 s1;rw [h1] at this;exact this
 have e:rdK 14 r=(r2,{ Mg.z with k:=14,mem:=y0,n:=y1 }):=by simp [rdK,rBk,rQu,thn,h0,h1]
 rw [e]
 refine (zp2 h0 h1 hs s1 s2 w).mono ?_
 rintro E w' ⟨he,hB⟩
 exact ⟨none,none,none,none,0,0,0,0,he,⟨fun h=>absurd (show (14:Int)=4 from h) (by decide),fun h=>absurd (show (14:Int)=11 from h) (by decide),fun h=>absurd (show (14:Int)=3 from h) (by decide),fun h=>absurd (show (14:Int)=3 from h) (by decide)⟩,hB⟩
theorem zzo {r:Rd} (hs:Sm r) (w:World):Calls Tryz.prog 62 #[.agg (zaa r),.agg (mcs { Mg.z with k:=15 } none none none none 0 0 0 0)] w (RdG (rdK 15 r).1 (rdK 15 r).2 w):=by
 obtain ⟨r1,y0,h0⟩:∃a b,zah r=(a,b):=⟨_,_,rfl⟩
 have s1:Sm r1:=by have:=Sm.fw za7 hs;rw [h0] at this;exact this
 obtain ⟨r2,y1,h1⟩:∃a b,zah r1=(a,b):=⟨_,_,rfl⟩
 have s2:Sm r2:=by have:=Sm.fw za7 s1;rw [h1] at this;exact this
 obtain ⟨r3,y2,h2⟩:∃a b,zah r2=(a,b):=⟨_,_,rfl⟩
 have s3:Sm r3:=by have:=Sm.fw za7 s2;rw [h2] at this;exact this
 have e:rdK 15 r=(r3,{ Mg.z with k:=15,tr:=y0,day:=y1,rate:=y2 }):=by simp [rdK,rBk,rQu,thn,h0,h1,h2]
 rw [e]
 refine (zp3 h0 h1 h2 hs s1 s2 s3 w).mono ?_
 rintro E w' ⟨he,hB⟩
 exact ⟨none,none,none,none,0,0,0,0,he,⟨fun h=>absurd (show (15:Int)=4 from h) (by decide),fun h=>absurd (show (15:Int)=11 from h) (by decide),fun h=>absurd (show (15:Int)=3 from h) (by decide),fun h=>absurd (show (15:Int)=3 from h) (by decide)⟩,hB⟩
theorem qg4 {r:Rd} (hs:Sm r) (w:World):Calls Tryz.prog 62 #[.agg (zaa r),.agg (mcs { Mg.z with k:=4 } none none none none 0 0 0 0)] w (RdG (rdK 4 r).1 (rdK 4 r).2 w):=by
 obtain ⟨r1,y0,h0⟩:∃a b,zai r 64=(a,b):=⟨_,_,rfl⟩
 have s1:Sm r1:=by have:=Sm.fw (zcv 64) hs;rw [h0] at this;exact this
 have hn:y0≤64:=by have:=zcl r;rw [h0] at this;exact this
 obtain ⟨r2,l,h1⟩:∃a b,zbf y0 r1=(a,b):=⟨_,_,rfl⟩
 have hl:l.length≤64:=by have:=zft y0 r1;rw [h1] at this;exact Nat.le_trans this hn
 have e:rdK 4 r=(r2,{ Mg.z with k:=4,ps:=l }):=by simp [rdK,thn,h0,h1]
 rw [e]
 refine (zt5 h0 hn h1 hl hs s1 w).mono ?_
 rintro E w' ⟨pa,pc,he,hO,hB⟩
 exact ⟨pa,none,none,none,pc,0,0,0,he,⟨fun _=>hO.out,fun h=>absurd (show (4:Int)=11 from h) (by decide),fun h=>absurd (show (4:Int)=3 from h) (by decide),fun h=>absurd (show (4:Int)=3 from h) (by decide)⟩,hB⟩
theorem zzp {r:Rd} (hs:Sm r) (w:World):Calls Tryz.prog 62 #[.agg (zaa r),.agg (mcs { Mg.z with k:=11 } none none none none 0 0 0 0)] w (RdG (rdK 11 r).1 (rdK 11 r).2 w):=by
 obtain ⟨r1,y0,h0⟩:∃a b,zah r=(a,b):=⟨_,_,rfl⟩
 have s1:Sm r1:=by have:=Sm.fw za7 hs;rw [h0] at this;exact this
 obtain ⟨r2,y1,h1⟩:∃a b,zah r1=(a,b):=⟨_,_,rfl⟩
 have s2:Sm r2:=by have:=Sm.fw za7 s1;rw [h1] at this;exact this
 obtain ⟨r3,y2,h2⟩:∃a b,za9 r2=(a,b):=⟨_,_,rfl⟩
 have s3:Sm r3:=by have:=Sm.fw zqd s2;rw [h2] at this;exact this
 obtain ⟨r4,y3,h3⟩:∃a b,zai r3 64=(a,b):=⟨_,_,rfl⟩
 have s4:Sm r4:=by have:=Sm.fw (zcv 64) s3;rw [h3] at this;exact this
 have hn:y3≤64:=by have:=zcl r3;rw [h3] at this;exact this
 obtain ⟨r5,l,h4⟩:∃a b,zbf y3 r4=(a,b):=⟨_,_,rfl⟩
 have e:rdK 11 r=(r5,{ Mg.z with k:=11,mem:=y0,tr:=y1,out:=y2,ins:=l }):=by simp [rdK,thn,h0,h1,h2,h3,h4]
 rw [e]
 refine (zp6 h0 h1 h2 h3 hn h4 hs s1 s2 s3 s4 w).mono ?_
 rintro E w' ⟨ia,ic,he,hO,hB⟩
 exact ⟨none,ia,none,none,0,ic,0,0,he,⟨fun h=>absurd (show (11:Int)=4 from h) (by decide),fun _=>hO.out,fun h=>absurd (show (11:Int)=3 from h) (by decide),fun h=>absurd (show (11:Int)=3 from h) (by decide)⟩,hB⟩
theorem qg3 {r:Rd} (hs:Sm r) (w:World):Calls Tryz.prog 62 #[.agg (zaa r),.agg (mcs { Mg.z with k:=3 } none none none none 0 0 0 0)] w (RdG (rdK 3 r).1 (rdK 3 r).2 w):=by
 obtain ⟨r1,y0,h0⟩:∃a b,zah r=(a,b):=⟨_,_,rfl⟩
 have s1:Sm r1:=by have:=Sm.fw za7 hs;rw [h0] at this;exact this
 obtain ⟨r2,y1,h1⟩:∃a b,zah r1=(a,b):=⟨_,_,rfl⟩
 have s2:Sm r2:=by have:=Sm.fw za7 s1;rw [h1] at this;exact this
 obtain ⟨r3,y2,h2⟩:∃a b,zah r2=(a,b):=⟨_,_,rfl⟩
 have s3:Sm r3:=by have:=Sm.fw za7 s2;rw [h2] at this;exact this
 obtain ⟨r4,y3,h3⟩:∃a b,zah r3=(a,b):=⟨_,_,rfl⟩
 have s4:Sm r4:=by have:=Sm.fw za7 s3;rw [h3] at this;exact this
 obtain ⟨r5,y4,h4⟩:∃a b,zah r4=(a,b):=⟨_,_,rfl⟩
 have s5:Sm r5:=by have:=Sm.fw za7 s4;rw [h4] at this;exact this
 obtain ⟨r6,y5,h5⟩:∃a b,zah r5=(a,b):=⟨_,_,rfl⟩
 have s6:Sm r6:=by have:=Sm.fw za7 s5;rw [h5] at this;exact this
 obtain ⟨r7,y6,h6⟩:∃a b,zah r6=(a,b):=⟨_,_,rfl⟩
 have s7:Sm r7:=by have:=Sm.fw za7 s6;rw [h6] at this;exact this
 obtain ⟨r8,y7,h7⟩:∃a b,za4 r7 12=(a,b):=⟨_,_,rfl⟩
 have s8:Sm r8:=by have:=Sm.fw (zcf 12) s7;rw [h7] at this;exact this
 obtain ⟨r9,y8,h8⟩:∃a b,zai r8 64=(a,b):=⟨_,_,rfl⟩
 have s9:Sm r9:=by have:=Sm.fw (zcv 64) s8;rw [h8] at this;exact this
 have hn:y8≤64:=by have:=zcl r8;rw [h8] at this;exact this
 obtain ⟨r10,cs,h9⟩:∃a b,zbz y8 r9=(a,b):=⟨_,_,rfl⟩
 obtain ⟨r11,l,h10⟩:∃a b,zbq r10 64=(a,b):=⟨_,_,rfl⟩
 have e:rdK 3 r=(r11,{ Mg.z with k:=3,b:=⟨y0,y1,y7,y2,y3,y4,cs,y5,y6,l⟩ }):=by simp [rdK,rBk,thn,h0,h1,h2,h3,h4,h5,h6,h7,h8,h9,h10]
 rw [e]
 refine (zt7 (fun W=>zqa h0 h1 h2 h3 h4 h5 h6 h7 h8 hn h9 h10 hs s7 s8 s9 W) w).mono ?_
 rintro E w' ⟨ca,cc,ba,bc,he,hC,hO,hB⟩
 exact ⟨none,none,ca,ba,0,0,cc,bc,he,⟨fun h=>absurd (show (3:Int)=4 from h) (by decide),fun h=>absurd (show (3:Int)=11 from h) (by decide),fun _=>hC.out,fun _=>hO.out⟩,hB⟩
theorem zjj {r:Rd} {k:Int} (h:inn k 1 15=true) (hs:Sm r) (w:World):Calls Tryz.prog 62 #[.agg (zaa r),.agg (mcs { Mg.z with k:=k } none none none none 0 0 0 0)] w (RdG (rdK k r).1 (rdK k r).2 w):=by
 rcases zd0 k with h0 | rfl | rfl | rfl | rfl | rfl | rfl | rfl | rfl | rfl | rfl | rfl | rfl | rfl | rfl | rfl
 ·rw [h0] at h;cases h
 ·exact qg1 hs w
 ·exact qg2 hs w
 ·exact qg3 hs w
 ·exact qg4 hs w
 ·exact qg5 hs w
 ·exact qg6 hs w
 ·exact qg7 hs w
 ·exact qg8 hs w
 ·exact qg9 hs w
 ·exact zzk hs w
 ·exact zzp hs w
 ·exact zzl hs w
 ·exact zzm hs w
 ·exact zzn hs w
 ·exact zzo hs w
theorem zxb {k:Int} {r:Rd} (hk:inn k 1 15=true) (hs:Sm r) (h0:(rdK k r).1.e=0) {B:Nat} {W:World} {pa ia ca ba:Option Addr} {pc ic cc bc:Nat} (hO:Own B W (rdK k r).2 pa ia ca ba pc ic cc bc):Calls Tryz.prog 13 #[.agg (mcs (rdK k r).2 pa ia ca ba pc ic cc bc)] W (KP (.int .i64 ((zcb C0 (rdK k r).2:Nat):Int)) W):=by
 obtain ⟨l,hl,hm⟩:=(zqe hk r hs.1).2.2.2 h0
 obtain ⟨h1,h2,h3,h4⟩:=hm
 have hb:(zb8 (rdK k r).2).length≤1000000:=by
  rw [← h2]
  have e:=congrArg List.length hl
  rw [List.length_append,List.length_drop] at e
  have:=hs.2;omega
 have hz:=zmy h4 (by rw [h1];exact hk) hb
 generalize (rdK k r).2=m at *
 have hH:=hO.hld h4
 rcases zd0 m.k with h5 | hj | hj | hj | hj | hj | hj | hj | hj | hj | hj | hj | hj | hj | hj | hj
 ·rw [h1,hk] at h5;cases h5
 ·rw [zf4 hj];exact zyu m pa ia ca ba pc ic cc bc hj W hH h3 hz
 ·rw [zf5 hj];exact zyw m pa ia ca ba pc ic cc bc hj W hH h3 hz
 ·rw [zf6 hj];exact zyy m pa ia ca ba pc ic cc bc hj W hH h3 hz
 ·rw [zf7 hj];exact zy0 m pa ia ca ba pc ic cc bc hj W hH h3 hz
 ·rw [zi2 hj];exact zy2 m pa ia ca ba pc ic cc bc hj W hH h3 hz
 ·rw [zf8 hj];exact zy4 m pa ia ca ba pc ic cc bc hj W hH h3 hz
 ·rw [zf9 hj];exact zy6 m pa ia ca ba pc ic cc bc hj W hH h3 hz
 ·rw [zi3 hj];exact zy8 m pa ia ca ba pc ic cc bc hj W hH h3 hz
 ·rw [zi4 hj];exact zza m pa ia ca ba pc ic cc bc hj W hH h3 hz
 ·rw [zgm hj];exact zwg m pa ia ca ba pc ic cc bc hj W hH h3 hz
 ·rw [ze2 hj];exact zwi m pa ia ca ba pc ic cc bc hj W hH h3 hz
 ·rw [zgn hj];exact zwk m pa ia ca ba pc ic cc bc hj W hH h3 hz
 ·rw [zgo hj];exact zwm m pa ia ca ba pc ic cc bc hj W hH h3 hz
 ·rw [zgp hj];exact zwo m pa ia ca ba pc ic cc bc hj W hH h3 hz
 ·rw [zgq hj];exact zwq m pa ia ca ba pc ic cc bc hj W hH h3 hz
structure Sd (w:World) (r:Rd) (W:World):Prop where
 o:Bx W w.heap.size (mcs Mg.z none none none none 0 0 0 0) 35
 z:Bx W (w.heap.size+1) (zaa r) 136
 c:Below w.heap.size w W
theorem Sd.keep {w W W2:World} {r:Rd} (h:Sd w r W) (hb:Below W.heap.size W W2):Sd w r W2:=⟨h.o.keep hb,h.z.keep hb,bt h.c hb⟩
theorem Sd.putZ {w W:World} {r:Rd} (h:Sd w r W) (x:Rd):Sd w x (W.setRow (w.heap.size+1) (zaa x)):=⟨h.o.other (by omega),h.z.set,zad h.c (by omega)⟩
theorem Sd.row {w W:World} {r:Rd} {M:Array Value} {p:Nat} (h:Sd w r W) (hp:w.heap.size+2≤p):Sd w r (W.setRow p M):=⟨h.o.other (by omega),h.z.other (by omega),zad h.c (by omega)⟩
theorem Sd.lt {w W:World} {r:Rd} (h:Sd w r W):w.heap.size+2≤W.heap.size:=h.z.lt
theorem Own.keep {B:Nat} {W W2:World} {m:Mg} {pa ia ca ba:Option Addr} {pc ic cc bc:Nat} (h:Own B W m pa ia ca ba pc ic cc bc) (hb:Below W.heap.size W W2):Own B W2 m pa ia ca ba pc ic cc bc:=⟨fun hk=>zax (h.ps hk) hb,fun hk=>zax (h.ins hk) hb,fun hk=>zax (h.cuts hk) hb,fun hk=>zax (h.bar hk) hb⟩
theorem Own.row {B q T:Nat} {W:World} {cs M:Array Value} {m:Mg} {pa ia ca ba:Option Addr} {pc ic cc bc:Nat} (h:Own B W m pa ia ca ba pc ic cc bc) (hb:Bx W q cs T) (hT:T=136∨T=35):Own B (W.setRow q M) m pa ia ca ba pc ic cc bc:=⟨fun hk=>zat (h.ps hk) hb (by omega),fun hk=>zat (h.ins hk) hb (by omega),fun hk=>zat (h.cuts hk) hb (by omega),fun hk=>zat (h.bar hk) hb (by omega)⟩
theorem Own.mono {B C:Nat} {W:World} {m:Mg} {pa ia ca ba:Option Addr} {pc ic cc bc:Nat} (h:Own B W m pa ia ca ba pc ic cc bc) (hB:C≤B):Own C W m pa ia ca ba pc ic cc bc:=⟨fun hk=>zau (h.ps hk) hB,fun hk=>zau (h.ins hk) hB,fun hk=>zau (h.cuts hk) hB,fun hk=>zau (h.bar hk) hB⟩
def DQ (m:Mg) (n g:Nat) (w:World) (e:Ending) (w':World):Prop:=∃pa ia ca ba pc ic cc bc,e=.returned (.tuple #[.agg (mcs m pa ia ca ba pc ic cc bc),.int .i64 n,.int .i64 g])∧Hid (Own w.heap.size w' m pa ia ca ba pc ic cc bc)∧Hid (Below w.heap.size w w')
theorem zjk (B:Nat) (W:World) (a b c d e f g h:_):Own B W Mg.z a b c d e f g h:=⟨fun h=>absurd (show (0:Int)=4 from h) (by decide),fun h=>absurd (show (0:Int)=11 from h) (by decide),fun h=>absurd (show (0:Int)=3 from h) (by decide),fun h=>absurd (show (0:Int)=3 from h) (by decide)⟩
theorem zfu (s:ByteArray) (W:World):(Instr.build 136 #[(0,.string s)]).run Tryz.prog W=.ok (.agg #[.string s,.int .i64 0,.int .i64 0]) W:=by kernel_rfl
theorem zgt (W:World):(Instr.build 35 #[]).run Tryz.prog W=.ok (.agg (mcs Mg.z none none none none 0 0 0 0)) W:=by kernel_rfl
theorem zdi {P:Program} {ops:Array Oper} {rest:List Oper} {o:Oper} {a:Act} {Q:Exit→Act→World→Prop} (w:World) (hgd:o.guard=none) (t:TypeId) (ho:o.op=.build t #[]) (v':Value) (hr:(Instr.build t #[]).run P w=.ok v' w) (h:wpList P ops Q rest (a.put o.dst v') w):wpList P ops Q (o::rest) a w:=
 wpList_plain hgd fun K hK=>by
  unfold Oper.wp execOp
  simp only [ho,List.map_toArray,List.map_nil,Sem.run_bind,Sem.run_pure,Result.andThen_ok,hr]
  exact hK _ _ h
theorem zcn {P:Program} (fn:Func) (tmps:Array Value) (a t b c:Nat) (ad:Addr) (v u x:Value) (w:World) (hf:fn.results=#[.cell a t,.tmp b,.tmp c]) (ht:tmps.getD a undef=.pointer (some ad)) (hu:tmps.getD b undef=u) (hx:tmps.getD c undef=x) (hl:(loadVar t ad).run P w=.ok v w):(results fn tmps).run P w=.ok (.tuple #[v,u,x]) w:=by
 have ht2:tmps[a]?.getD undef=.pointer (some ad):=by simpa using ht
 have hu2:tmps[b]?.getD undef=u:=by simpa using hu
 have hx2:tmps[c]?.getD undef=x:=by simpa using hx
 simp [results,hf,ht2,hu2,hx2,asAddr,hl]
theorem zxc (l:List UInt8) (hl:l.length≤1000000) {r1:Rd} {k:Int} (hr:zah ⟨l,0,0⟩=(r1,k)) (he:r1.e=0) (hk:inn k 1 15=false) (w:World):Calls Tryz.prog 21 #[.string ⟨l.toArray⟩] w (DQ Mg.z 0 17 w):=by
  have s0:Sm ⟨l,0,0⟩:=⟨Nat.zero_le _,hl⟩
  have s1:Sm r1:=by have:=Sm.fw za7 s0;rw [hr] at this;exact this
  have hbz:Bx ((w.alloc (.cells (mcs Mg.z none none none none 0 0 0 0) 35)).alloc (.cells (zaa ⟨[],0,0⟩) 136)) (w.heap.size+1) (zaa ⟨[],0,0⟩) 136:=by have h:=Bx.new (w.alloc (.cells (mcs Mg.z none none none none 0 0 0 0) 35)) (zaa ⟨[],0,0⟩) 136;rwa [zan] at h
  have HBu:Hid (∀W,(Instr.build 136 #[(0,.string ⟨l.toArray⟩)]).run Tryz.prog W=.ok (.agg (zaa ⟨l,0,0⟩)) W):=fun W=>zfu _ W
  have HST:Hid ((Instr.storeAt 136 (.pointer (some ⟨w.heap.size+1,0,none⟩)) (.agg (zaa ⟨l,0,0⟩))).run Tryz.prog ((w.alloc (.cells (mcs Mg.z none none none none 0 0 0 0) 35)).alloc (.cells (zaa ⟨[],0,0⟩) 136))=.ok () (((w.alloc (.cells (mcs Mg.z none none none none 0 0 0 0) 35)).alloc (.cells (zaa ⟨[],0,0⟩) 136)).setRow (w.heap.size+1) (zaa ⟨l,0,0⟩))):=zaq _ _ _ _ hbz
  have HS1:Hid (Sd w ⟨l,0,0⟩ (((w.alloc (.cells (mcs Mg.z none none none none 0 0 0 0) 35)).alloc (.cells (zaa ⟨[],0,0⟩) 136)).setRow (w.heap.size+1) (zaa ⟨l,0,0⟩))):=⟨((Bx.new w _ _).keep (zab _ _)).other (by omega),hbz.set,zad (bt (zab w _) (zab _ _)) (by omega)⟩
  clear hbz
  go_enter Tryz.func21,Tryz.ntmps21
  go_upto_region 1 with fail
  generalize hX:(((w.alloc (.cells (mcs Mg.z none none none none 0 0 0 0) 35)).alloc (.cells (zaa ⟨[],0,0⟩) 136)).setRow (w.heap.size+1) (zaa ⟨l,0,0⟩))=w1 at *
  go_upto_region 2 with (first | (guard_target =~ wpList _ _ _ (⟨_,Op.build 136 _,_,_,_,_⟩::_) _ _;refine za5 _ rfl 136 _ _ rfl _ rfl _ (HBu.out _) ?_;go_simp) | (guard_target =~ wpList _ _ _ (⟨_,Op.store 136 _ _,_,_,_,_⟩::_) _ _;refine zaf _ _ rfl 136 _ _ rfl _ _ rfl rfl HST.out ?_;go_simp))
  clear HBu HST hX
  have HLd:Hid ((Instr.loadAt 136 (.pointer (some ⟨w.heap.size+1,0,none⟩))).run Tryz.prog w1=.ok (.agg (zaa ⟨l,0,0⟩)) w1):=za2 _ _ _ HS1.out.z
  go_wp2_with (guard_target =~ wpList _ _ _ (⟨_,Op.load 136 _,_,_,_,_⟩::_) _ _;refine zag _ rfl 136 _ rfl _ rfl _ HLd.out ?_;go_simp)
  refine (zei hr s0 _).mono ?_
  rintro e x1 ⟨rfl,hb⟩
  have HSa:Hid (Sd w ⟨l,0,0⟩ x1):=HS1.out.keep hb.out
  have HSt:Hid ((Instr.storeAt 136 (.pointer (some ⟨w.heap.size+1,0,none⟩)) (.agg (zaa r1))).run Tryz.prog x1=.ok () (x1.setRow (w.heap.size+1) (zaa r1))):=zaq _ _ _ _ HSa.out.z
  have HS2:Hid (Sd w r1 (x1.setRow (w.heap.size+1) (zaa r1))):=HSa.out.putZ r1
  clear hb HSa HS1 HLd
  generalize hX:x1.setRow (w.heap.size+1) (zaa r1)=w2 at *
  go_upto_region 3 with (guard_target =~ wpList _ _ _ (⟨_,Op.store 136 _ _,_,_,_,_⟩::_) _ _;refine zaf _ _ rfl 136 _ _ rfl _ _ rfl rfl HSt.out ?_;go_simp)
  clear HSt hX
  have c2:w2.cell? ⟨w.heap.size+1,2,none⟩=some (.int .i64 r1.e):=HS2.out.z.cell 2
  have hez:((r1.e:Int)==0)=true:=by rw [he];rfl
  have HSu:Hid ((Instr.storeAt 35 (.pointer (some ⟨w.heap.size,0,none⟩)) (.agg (mcs Mg.z none none none none 0 0 0 0))).run Tryz.prog w2=.ok () (w2.setRow w.heap.size (mcs Mg.z none none none none 0 0 0 0))):=zaw _ _ _ _ HS2.out.o (zac _ _ _ _ _ _ _ _ _) (zac _ _ _ _ _ _ _ _ _) (zaj _ _ _ _ _ _ _ _ _)
  have hl1:=zbb (w2.setRow w.heap.size (mcs Mg.z none none none none 0 0 0 0)) w.heap.size (mcs Mg.z none none none none 0 0 0 0) (zac _ _ _ _ _ _ _ _ _) HS2.out.o.set
  have HBz:Hid (Below w.heap.size w (w2.setRow w.heap.size (mcs Mg.z none none none none 0 0 0 0))):=zad HS2.out.c (Nat.le_refl _)
  clear HS2
  by_cases hk1:k<1
  · go_wp2_with (first | (guard_target =~ wpList _ _ _ (⟨_, Op.build 35 #[], _, _, _, _⟩ :: _) _ _; refine zdi _ rfl 35 rfl _ (zgt _) ?_; go_simp) | (guard_target =~ wpList _ _ _ (⟨_, Op.store 35 _ _, _, _, _, _⟩ :: _) _ _; refine zaf _ _ rfl 35 _ _ rfl _ _ rfl rfl HSu.out ?_; go_simp))
    refine bodyPost_ret (zcn _ _ 2 35 3 4 _ _ _ _ _ rfl rfl rfl rfl hl1) rfl ?_
    exact ⟨none,none,none,none,0,0,0,0,rfl,zjk _ _ _ _ _ _ _ _ _ _,HBz⟩
  · have hk15 : 15 < k := by
      have h1:¬ (1≤k∧k≤15):=by unfold inn at hk;rw [Bool.and_eq_false_iff,decide_eq_false_iff_not,decide_eq_false_iff_not] at hk;omega
      omega
    go_wp2_with (first | (guard_target =~ wpList _ _ _ (⟨_,Op.build 35 #[],_,_,_,_⟩::_) _ _;refine zdi _ rfl 35 rfl _ (zgt _) ?_;go_simp) | (guard_target =~ wpList _ _ _ (⟨_,Op.store 35 _ _,_,_,_,_⟩::_) _ _;refine zaf _ _ rfl 35 _ _ rfl _ _ rfl rfl HSu.out ?_;go_simp))
    refine bodyPost_ret (zcn _ _ 2 35 3 4 _ _ _ _ _ rfl rfl rfl rfl hl1) rfl ?_
    exact ⟨none,none,none,none,0,0,0,0,rfl,zjk _ _ _ _ _ _ _ _ _ _,HBz⟩
theorem zxd (l:List UInt8) (hl:l.length≤1000000) {r1:Rd} {k:Int} (hr:zah ⟨l,0,0⟩=(r1,k)) (he:r1.e≠0) (w:World):Calls Tryz.prog 21 #[.string ⟨l.toArray⟩] w (DQ Mg.z r1.at_ r1.e w):=by
 have s0:Sm ⟨l,0,0⟩:=⟨Nat.zero_le _,hl⟩
 have s1:Sm r1:=by have:=Sm.fw za7 s0;rw [hr] at this;exact this
 have hbz:Bx ((w.alloc (.cells (mcs Mg.z none none none none 0 0 0 0) 35)).alloc (.cells (zaa ⟨[],0,0⟩) 136)) (w.heap.size+1) (zaa ⟨[],0,0⟩) 136:=by have h:=Bx.new (w.alloc (.cells (mcs Mg.z none none none none 0 0 0 0) 35)) (zaa ⟨[],0,0⟩) 136;rwa [zan] at h
 have HBu:Hid (∀W,(Instr.build 136 #[(0,.string ⟨l.toArray⟩)]).run Tryz.prog W=.ok (.agg (zaa ⟨l,0,0⟩)) W):=fun W=>zfu _ W
 have HST:Hid ((Instr.storeAt 136 (.pointer (some ⟨w.heap.size+1,0,none⟩)) (.agg (zaa ⟨l,0,0⟩))).run Tryz.prog ((w.alloc (.cells (mcs Mg.z none none none none 0 0 0 0) 35)).alloc (.cells (zaa ⟨[],0,0⟩) 136))=.ok () (((w.alloc (.cells (mcs Mg.z none none none none 0 0 0 0) 35)).alloc (.cells (zaa ⟨[],0,0⟩) 136)).setRow (w.heap.size+1) (zaa ⟨l,0,0⟩))):=zaq _ _ _ _ hbz
 have HS1:Hid (Sd w ⟨l,0,0⟩ (((w.alloc (.cells (mcs Mg.z none none none none 0 0 0 0) 35)).alloc (.cells (zaa ⟨[],0,0⟩) 136)).setRow (w.heap.size+1) (zaa ⟨l,0,0⟩))):=⟨((Bx.new w _ _).keep (zab _ _)).other (by omega),hbz.set,zad (bt (zab w _) (zab _ _)) (by omega)⟩
 clear hbz
 go_enter Tryz.func21,Tryz.ntmps21
 go_upto_region 1 with fail
 generalize hX:(((w.alloc (.cells (mcs Mg.z none none none none 0 0 0 0) 35)).alloc (.cells (zaa ⟨[],0,0⟩) 136)).setRow (w.heap.size+1) (zaa ⟨l,0,0⟩))=w1 at *
 go_upto_region 2 with (first | (guard_target =~ wpList _ _ _ (⟨_,Op.build 136 _,_,_,_,_⟩::_) _ _;refine za5 _ rfl 136 _ _ rfl _ rfl _ (HBu.out _) ?_;go_simp) | (guard_target =~ wpList _ _ _ (⟨_,Op.store 136 _ _,_,_,_,_⟩::_) _ _;refine zaf _ _ rfl 136 _ _ rfl _ _ rfl rfl HST.out ?_;go_simp))
 clear HBu HST hX
 have HLd:Hid ((Instr.loadAt 136 (.pointer (some ⟨w.heap.size+1,0,none⟩))).run Tryz.prog w1=.ok (.agg (zaa ⟨l,0,0⟩)) w1):=za2 _ _ _ HS1.out.z
 go_wp2_with (guard_target =~ wpList _ _ _ (⟨_,Op.load 136 _,_,_,_,_⟩::_) _ _;refine zag _ rfl 136 _ rfl _ rfl _ HLd.out ?_;go_simp)
 refine (zei hr s0 _).mono ?_
 rintro e x1 ⟨rfl,hb⟩
 have HSa:Hid (Sd w ⟨l,0,0⟩ x1):=HS1.out.keep hb.out
 have HSt:Hid ((Instr.storeAt 136 (.pointer (some ⟨w.heap.size+1,0,none⟩)) (.agg (zaa r1))).run Tryz.prog x1=.ok () (x1.setRow (w.heap.size+1) (zaa r1))):=zaq _ _ _ _ HSa.out.z
 have HS2:Hid (Sd w r1 (x1.setRow (w.heap.size+1) (zaa r1))):=HSa.out.putZ r1
 clear hb HSa HS1 HLd
 generalize hX:x1.setRow (w.heap.size+1) (zaa r1)=w2 at *
 go_upto_region 3 with (guard_target =~ wpList _ _ _ (⟨_,Op.store 136 _ _,_,_,_,_⟩::_) _ _;refine zaf _ _ rfl 136 _ _ rfl _ _ rfl rfl HSt.out ?_;go_simp)
 clear HSt hX
 have c2:w2.cell? ⟨w.heap.size+1,2,none⟩=some (.int .i64 r1.e):=HS2.out.z.cell 2
 have hez:((r1.e:Int)==0)=false:=by rw [beq_eq_false_iff_ne];omega
 go_upto_region 5 with fail
 have hp:w.heap.size+2≤w2.heap.size:=HS2.out.lt
 have HBu:Hid (∀W,(Instr.build 35 #[(0,.int .i64 k)]).run Tryz.prog W=.ok (.agg (mcs { Mg.z with k:=k } none none none none 0 0 0 0)) W):=fun W=>zbx _ W
 have HST:Hid ((Instr.storeAt 35 (.pointer (some ⟨w2.heap.size,0,none⟩)) (.agg (mcs { Mg.z with k:=k } none none none none 0 0 0 0))).run Tryz.prog (w2.alloc (.cells (mcs Mg.z none none none none 0 0 0 0) 35))=.ok () ((w2.alloc (.cells (mcs Mg.z none none none none 0 0 0 0) 35)).setRow w2.heap.size (mcs { Mg.z with k:=k } none none none none 0 0 0 0))):=zaw _ _ _ _ (Bx.new _ _ _) (zac _ _ _ _ _ _ _ _ _) (zac _ _ _ _ _ _ _ _ _) (zaj _ _ _ _ _ _ _ _ _)
 have HS3:Hid (Sd w r1 ((w2.alloc (.cells (mcs Mg.z none none none none 0 0 0 0) 35)).setRow w2.heap.size (mcs { Mg.z with k:=k } none none none none 0 0 0 0))):=(HS2.out.keep (zab _ _)).row hp
 have HM3:Hid (Bx ((w2.alloc (.cells (mcs Mg.z none none none none 0 0 0 0) 35)).setRow w2.heap.size (mcs { Mg.z with k:=k } none none none none 0 0 0 0)) w2.heap.size (mcs { Mg.z with k:=k } none none none none 0 0 0 0) 35):=Bx.set (Bx.new _ _ _)
 clear HS2
 generalize hX:((w2.alloc (.cells (mcs Mg.z none none none none 0 0 0 0) 35)).setRow w2.heap.size (mcs { Mg.z with k:=k } none none none none 0 0 0 0))=w3 at *
 go_upto_region 6 with (first | (guard_target =~ wpList _ _ _ (⟨_,Op.build 35 _,_,_,_,_⟩::_) _ _;refine za5 _ rfl 35 _ _ rfl _ rfl _ (HBu.out _) ?_;go_simp) | (guard_target =~ wpList _ _ _ (⟨_,Op.store 35 _ _,_,_,_,_⟩::_) _ _;refine zaf _ _ rfl 35 _ _ rfl _ _ rfl rfl HST.out ?_;go_simp))
 clear HBu HST hX c2
 generalize w2.heap.size=p7 at *
 have c2:w3.cell? ⟨w.heap.size+1,2,none⟩=some (.int .i64 r1.e):=HS3.out.z.cell 2
 have HLd:Hid ((Instr.loadAt 136 (.pointer (some ⟨w.heap.size+1,0,none⟩))).run Tryz.prog w3=.ok (.agg (zaa r1)) w3):=za2 _ _ _ HS3.out.z
 go_wp2_with (guard_target =~ wpList _ _ _ (⟨_,Op.load 136 _,_,_,_,_⟩::_) _ _;refine zag _ rfl 136 _ rfl _ rfl _ HLd.out ?_;go_simp)
 refine (zur r1 s1.1 s1.l2 _).mono ?_
 rintro e x3 ⟨rfl,hb⟩
 have HSa:Hid (Sd w r1 x3):=HS3.out.keep hb.out
 have HSt:Hid ((Instr.storeAt 136 (.pointer (some ⟨w.heap.size+1,0,none⟩)) (.agg (zaa (zbg r1).1))).run Tryz.prog x3=.ok () (x3.setRow (w.heap.size+1) (zaa (zbg r1).1))):=zaq _ _ _ _ HSa.out.z
 have HSe:Hid (Sd w (zbg r1).1 (x3.setRow (w.heap.size+1) (zaa (zbg r1).1))):=HSa.out.putZ _
 clear hb HSa HS3 HLd c2
 generalize hX:x3.setRow (w.heap.size+1) (zaa (zbg r1).1)=w4 at *
 go_upto_region 9 with (guard_target =~ wpList _ _ _ (⟨_,Op.store 136 _ _,_,_,_,_⟩::_) _ _;refine zaf _ _ rfl 136 _ _ rfl _ _ rfl rfl HSt.out ?_;go_simp)
 clear HSt hX
 rw [zdb he] at HSe
 have hez:((r1.e:Int)==0)=false:=by rw [beq_eq_false_iff_ne];omega
 have c2:w4.cell? ⟨w.heap.size+1,2,none⟩=some (.int .i64 r1.e):=HSe.out.z.cell 2
 go_upto_region 10 with fail
 go_wp2_with fail
 refine wp_region_held (S:=fun W=>Bx W (w.heap.size+1) (zaa r1) 136) (by kernel_rfl) ?_
 change wpAnyH _ _ _ _ _ 8 #[false,false,false,false,false,false,false,false] _ w4.drew
 have hS0:Bx w4.drew (w.heap.size+1) (zaa r1) 136:=HSe.out.z
 have hO0:Bx w4.drew w.heap.size (mcs Mg.z none none none none 0 0 0 0) 35:=HSe.out.o
 have hC0:Below w.heap.size w w4.drew:=zef HSe.out.c 1
 clear HSe c2
 obtain ⟨v0,hv0⟩:∃u,u=w4.drew:=⟨_,rfl⟩
 rw [← hv0] at hS0 hO0 hC0 ⊢
 clear hv0
 refine zae (i:=0) (v:=.agg (mcs Mg.z none none none none 0 0 0 0)) rfl (by kernel_rfl) (Or.inl ⟨rfl,fun W hW=>by first | (go_simp;done) | (go_simp;rfl) | kernel_rfl⟩) hS0 ?_
 simp only [pu]
 refine zae (i:=1) (v:=.pointer (some ⟨w.heap.size+1,1,none⟩)) rfl (by kernel_rfl) (Or.inl ⟨rfl,fun W hW=>by go_simp⟩) hS0 ?_
 simp only [pu]
 refine zae (i:=2) (v:=.int .i64 r1.at_) rfl (by kernel_rfl) (Or.inl ⟨rfl,fun W hW=>by have cj:W.cell? ⟨w.heap.size+1,1,none⟩=some (.int .i64 r1.at_):=hW.cell 1;go_simp⟩) hS0 ?_
 simp only [pu]
 refine zae (i:=3) (v:=.pointer (some ⟨w.heap.size+1,2,none⟩)) rfl (by kernel_rfl) (Or.inl ⟨rfl,fun W hW=>by go_simp⟩) hS0 ?_
 simp only [pu]
 refine zae (i:=4) (v:=.int .i64 r1.e) rfl (by kernel_rfl) (Or.inl ⟨rfl,fun W hW=>by have cj:W.cell? ⟨w.heap.size+1,2,none⟩=some (.int .i64 r1.e):=hW.cell 2;go_simp⟩) hS0 ?_
 simp only [pu]
 refine zap (i:=5) rfl (by kernel_rfl) (fun K hK=>?_)
 rw [if_pos (by rfl)]
 refine zao _ _ 35 _ _ rfl _ _ rfl rfl (zaw v0 w.heap.size _ (mcs Mg.z none none none none 0 0 0 0) hO0 (zac _ _ _ _ _ _ _ _ _) (zac _ _ _ _ _ _ _ _ _) (zaj _ _ _ _ _ _ _ _ _)) ?_
 have hS1:Bx (v0.setRow w.heap.size (mcs Mg.z none none none none 0 0 0 0)) (w.heap.size+1) (zaa r1) 136:=hS0.other (by omega)
 refine hK.out _ _ hS1 (fun _=>?_)
 clear hK
 try simp only [pu]
 refine zae (i:=6) (v:=.int .i64 r1.at_) rfl (by kernel_rfl) (Or.inl ⟨rfl,fun _ _=>rfl⟩) hS1 ?_
 simp only [pu]
 refine zae (i:=7) (v:=.int .i64 r1.e) rfl (by kernel_rfl) (Or.inl ⟨rfl,fun _ _=>rfl⟩) hS1 ?_
 simp only [pu]
 refine wpAnyH_done (by kernel_rfl) ?_ _
 have hl1:=zbb (v0.setRow w.heap.size (mcs Mg.z none none none none 0 0 0 0)) w.heap.size (mcs Mg.z none none none none 0 0 0 0) (zac _ _ _ _ _ _ _ _ _) hO0.set
 have HBz:Hid (Below w.heap.size w (v0.setRow w.heap.size (mcs Mg.z none none none none 0 0 0 0))):=zad hC0 (Nat.le_refl _)
 clear hS0 hS1 hO0 hC0
 go_wp2_with fail
 refine bodyPost_ret (zcn _ _ 2 35 3 4 _ _ _ _ _ rfl rfl rfl rfl hl1) rfl ?_
 exact ⟨none,none,none,none,0,0,0,0,rfl,zjk _ _ _ _ _ _ _ _ _ _,HBz⟩
end Go.Proofs.YtdmlgheajblcdaaGreat
