/- The reference's reader: Bool, End. -/
import Derived.Test.YtdmlgheajblcdaaGreatD13
namespace Go.Proofs.YtdmlgheajblcdaaGreat
set_option maxHeartbeats 16000000
set_option maxRecDepth 100000
open Go.RowKit
set_option linter.unusedVariables false
set_option linter.unusedSimpArgs false
theorem zga {r:Rd} (h0:r.e=0) (h:r.s.length≤r.at_):zbn r=(r.fl 14,false):=by
 unfold zbn Rd.fl
 rw [if_neg (by simpa using h0),if_pos h0,List.getElem?_eq_none h]
theorem zjc {r:Rd} (h0:r.e=0) {c:UInt8} (h:r.s[r.at_]? = some c):zbn r=if 1<c.toNat then (r.fl 15,false) else ({ r with at_:=r.at_+1 },c.toNat==1):=by
 unfold zbn Rd.fl
 rw [if_neg (by simpa using h0),if_pos h0,h]
theorem QP.lit {v u:Value} {r x:Rd} {S:ByteArray} {a e:Int} {w w':World} (hS:S=⟨r.s.toArray⟩) (hx:x.s=r.s) (ha:a=x.at_) (he:e=x.e) (hv:u=v) (hb:Below w.heap.size w w'):QP v x w (.returned (.tuple #[.agg #[.string S,.int .i64 a,.int .i64 e],u])) w':=by
 refine ⟨?_,hb⟩
 rw [zg7 hS hx,ha,he,hv]
theorem ztv (n:Nat):((n:Int)==0)=(n==0):=by
 by_cases h:n=0
 ·rw [h];rfl
 ·rw [show (n==0)=false by simpa using h,beq_eq_false_iff_ne];omega
theorem zur (r:Rd) (hr:r.at_≤r.s.length) (hs:r.s.length≤1099511627776) (w:World):Calls Tryz.prog 63 #[.agg (zaa r)] w (QP (.bool (zbg r).2) (zbg r).1 w):=by
 obtain ⟨S,HS⟩:∃S:ByteArray,Hid (S=⟨r.s.toArray⟩):=⟨_,rfl⟩
 have HF:Hid (∀(e:Nat) (w:World),Calls Tryz.prog 97 #[.agg #[.string S,.int .i64 r.at_,.int .i64 r.e],.int .i64 e] w fun x w'=>x=.returned (.agg #[.string S,.int .i64 (r.fl e).at_,.int .i64 (r.fl e).e])∧Hid (Below w.heap.size w w')):=fun e w=>ffl HS.out e w
 have hSz:S.size=r.s.length:=by rw [HS.out];rfl
 have hs2:S.size≤1099511627776:=by omega
 have ha:r.at_≤S.size:=by omega
 by_cases hl:r.at_<S.size
 ·have hlz:(r.at_:Int)<(S.size:Int):=by omega
  have HI:Hid (zbg r=(r.fl 16,(r.fl 16).e==0)):=by unfold Hid zbg;rw [if_pos (by omega)]
  have HX:Hid ((r.fl 16).s=r.s):=zkv r 16
  have HFC:Hid (∀(w:World),Calls Tryz.prog 97 #[.agg #[.string S,.int .i64 r.at_,.int .i64 r.e],.int .i64 16] w fun x w'=>x=.returned (.agg #[.string S,.int .i64 (r.fl 16).at_,.int .i64 (r.fl 16).e])∧Hid (Below w.heap.size w w')):=fun w=>HF.out 16 w
  have HN:=Rq.new2 w r
  have HB0:Hid (Below w.heap.size w ((w.alloc (.cells (zaa r) 136)).alloc (.cells (zaa ⟨[],0,0⟩) 136))):=HN.2.2
  have HQ0:Hid (Rq ((w.alloc (.cells (zaa r) 136)).alloc (.cells (zaa ⟨[],0,0⟩) 136)) w.heap.size r):=HN.1
  have HO0:Hid (Rq ((w.alloc (.cells (zaa r) 136)).alloc (.cells (zaa ⟨[],0,0⟩) 136)) (w.heap.size+1) ⟨[],0,0⟩):=HN.2.1
  clear HN
  clear hSz hr hs HF
  generalize r.fl 16=X at *
  go_enter Tryz.func63,Tryz.ntmps63
  go_upto_region 1 with fail
  show Code.wp _ _ _ _ ((w.alloc (.cells (zaa r) 136)).alloc (.cells (zaa ⟨[],0,0⟩) 136))
  generalize (w.alloc (.cells (zaa r) 136)).alloc (.cells (zaa ⟨[],0,0⟩) 136)=wA at *
  generalize hZ:w.heap.size=z at *
  have HZ:Hid (w.heap.size=z):=hZ
  clear hZ
  have c0:wA.cell? ⟨z,0,none⟩=some (.string S):=by rw [HS.out];exact HQ0.out.cell 0
  have c1:wA.cell? ⟨z,1,none⟩=some (.int .i64 r.at_):=HQ0.out.cell 1
  have c2:wA.cell? ⟨z,2,none⟩=some (.int .i64 r.e):=HQ0.out.cell 2
  go_wp2_with fail
  refine (HFC.out _).mono ?_
  rintro e w3 ⟨rfl,HB3⟩
  have HQ3:Hid (Rq w3 z r):=HQ0.out.keep HB3.out
  have HO3:Hid (Rq w3 (z+1) ⟨[],0,0⟩):=HO0.out.keep HB3.out
  have hAz:z≤wA.heap.size:=by have:=HB0.out.size;rw [HZ.out] at this;exact this
  have HB4:Hid (Below z w w3):=HB0.out.trans (HB3.out.mono hAz)
  clear c0 c1 c2 hAz
  have c0:w3.cell? ⟨z,0,none⟩=some (.string S):=by rw [HS.out];exact HQ3.out.cell 0
  have c1:w3.cell? ⟨z,1,none⟩=some (.int .i64 r.at_):=HQ3.out.cell 1
  have c2:w3.cell? ⟨z,2,none⟩=some (.int .i64 r.e):=HQ3.out.cell 2
  have f0:=HQ3.out.froz 0
  have f1:=HQ3.out.froz 1
  have f2:=HQ3.out.froz 2
  have HT3:Hid (((w3.setCell ⟨z,0,none⟩ (.string S)).setCell ⟨z,1,none⟩ (.int .i64 X.at_)).setCell ⟨z,2,none⟩ (.int .i64 X.e)=w3.setRow z (zaa X)):=zbc HQ3.out HS.out HX.out
  have HQ5:Hid (Rq (w3.setRow z (zaa X)) z X):=HQ3.out.put X
  have HO5:Hid (Rq (w3.setRow z (zaa X)) (z+1) ⟨[],0,0⟩):=HO3.out.aside (by omega)
  have HB5:Hid (Below z w (w3.setRow z (zaa X))):=zar HB4.out (Nat.le_refl _)
  go_upto_region 3 with fail
  rw [HT3.out]
  generalize w3.setRow z (zaa X)=w5 at *
  clear c0 c1 c2 f0 f1 f2 HT3 HQ3 HO3 HB4 HB3 HQ0 HO0 HB0
  have c0:w5.cell? ⟨z,0,none⟩=some (.string S):=by rw [HS.out,← HX.out];exact HQ5.out.cell 0
  have c1:w5.cell? ⟨z,1,none⟩=some (.int .i64 X.at_):=HQ5.out.cell 1
  have c2:w5.cell? ⟨z,2,none⟩=some (.int .i64 X.e):=HQ5.out.cell 2
  have g0:=HO5.out.froz 0
  have g1:=HO5.out.froz 1
  have g2:=HO5.out.froz 2
  have b0:w5.cell? ⟨z+1,0,none⟩=some (.string ⟨#[]⟩):=HO5.out.cell 0
  have b1:w5.cell? ⟨z+1,1,none⟩=some (.int .i64 0):=HO5.out.cell 1
  have b2:w5.cell? ⟨z+1,2,none⟩=some (.int .i64 0):=HO5.out.cell 2
  have HT:Hid (((w5.setCell ⟨z+1,0,none⟩ (.string S)).setCell ⟨z+1,1,none⟩ (.int .i64 X.at_)).setCell ⟨z+1,2,none⟩ (.int .i64 X.e)=w5.setRow (z+1) (zaa X)):=zbc HO5.out HS.out HX.out
  have HO9:Hid (Rq (w5.setRow (z+1) (zaa X)) (z+1) X):=HO5.out.put _
  have HB9:Hid (Below z w (w5.setRow (z+1) (zaa X))):=zar HB5.out (by omega)
  have HOd:Hid (Rq (w5.setRow (z+1) (zaa X)).drew (z+1) X):=HO9.out.same rfl
  have HBd:Hid (Below z w (w5.setRow (z+1) (zaa X)).drew):=zfy HB9.out 1
  go_region
  rw [HT.out]
  generalize (w5.setRow (z+1) (zaa X)).drew=w9 at *
  have d0:w9.cell? ⟨z+1,0,none⟩=some (.string ⟨X.s.toArray⟩):=HOd.out.cell 0
  have d1:w9.cell? ⟨z+1,1,none⟩=some (.int .i64 X.at_):=HOd.out.cell 1
  have d2:w9.cell? ⟨z+1,2,none⟩=some (.int .i64 X.e):=HOd.out.cell 2
  clear HT HO9 HB9 b0 b1 b2 g0 g1 g2 c0 c1 c2
  go_wp2_with fail
  refine bodyPost_ret (by simp [results,Tryz.results63,go_sem,d0,d1,d2];try rfl) rfl ?_
  exact QP.mk (x:=X) (by rw [HI.out];exact congrArg Value.bool (ztv _)) (by rw [HI.out]) (by rw [HZ.out];exact HBd.out)
 ·have hlz:¬ (r.at_:Int)<(S.size:Int):=by omega
  have HI:Hid (zbg r=(r,r.e==0)):=by unfold Hid zbg;rw [if_neg (by omega)]
  have HQ:Hid (zaa r=#[.string S,.int .i64 r.at_,.int .i64 r.e]):=zg7 HS.out rfl
  rw [HQ.out]
  clear hSz hr hs
  go_enter Tryz.func63,Tryz.ntmps63
  go_wp2_with fail
  go_region
  go_wp2_with fail
  go_returns
  exact QP.lit HS.out (by rw [HI.out]) (by rw [HI.out]) (by rw [HI.out]) (by rw [HI.out];exact congrArg Value.bool (ztv _)) (by first | exact (((below_new w _).alloc (by simp) _).drew) | exact zfy ((below_new w _).alloc (by simp) _) 1)
theorem zw8 (r:Rd) (hr:r.at_≤r.s.length) (hs:r.s.length≤1099511627776) (w:World):Calls Tryz.prog 114 #[.agg (zaa r)] w (QP (.bool (zbn r).2) (zbn r).1 w):=by
 obtain ⟨S,HS⟩:∃S:ByteArray,Hid (S=⟨r.s.toArray⟩):=⟨_,rfl⟩
 have HF:Hid (∀(e:Nat) (w:World),Calls Tryz.prog 97 #[.agg #[.string S,.int .i64 r.at_,.int .i64 r.e],.int .i64 e] w fun x w'=>x=.returned (.agg #[.string S,.int .i64 (r.fl e).at_,.int .i64 (r.fl e).e])∧Hid (Below w.heap.size w w')):=fun e w=>ffl HS.out e w
 have hSz:S.size=r.s.length:=by rw [HS.out];rfl
 have hs2:S.size≤1099511627776:=by omega
 have ha:r.at_≤S.size:=by omega
 by_cases h0:r.e=0
 ·have hz:((r.e:Int) != 0)=false:=by rw [h0];rfl
  by_cases hl:r.at_<S.size
  ·have hlz:¬ (S.size:Int)≤(r.at_:Int):=by omega
   obtain ⟨x,hx⟩:∃x:UInt8,S[r.at_]=x:=⟨_,rfl⟩
   have hxl:=x.toNat_lt
   have hiy:∀w:World,(Instr.index 9 (.string S) (.int .i64 (r.at_:Int))).run Tryz.prog w=.ok (.int .u8 (x.toNat:Int)) w:=fun w=>zd1 hl hx rfl w
   have HG:Hid (zbn r=if 1<x.toNat then (r.fl 15,false) else ({ r with at_:=r.at_+1 },x.toNat==1)):=zjc h0 (by
    rw [List.getElem?_eq_getElem (by omega),← hx]
    simp only [HS.out]
    rfl)
   clear hx
   by_cases hc:1<x.toNat
   ·have hcz:(1:Int)<(x.toNat:Int):=by omega
    have HD:Hid (zbn r=(r.fl 15,false)):=by unfold Hid;rw [HG.out,if_pos hc]
    have HN:=Rq.new2 w r
    have HB0:Hid (Below w.heap.size w ((w.alloc (.cells (zaa r) 136)).alloc (.cells (zaa ⟨[],0,0⟩) 136))):=HN.2.2
    have HQ0:Hid (Rq ((w.alloc (.cells (zaa r) 136)).alloc (.cells (zaa ⟨[],0,0⟩) 136)) w.heap.size r):=HN.1
    have HO0:Hid (Rq ((w.alloc (.cells (zaa r) 136)).alloc (.cells (zaa ⟨[],0,0⟩) 136)) (w.heap.size+1) ⟨[],0,0⟩):=HN.2.1
    clear HN
    clear hSz hr hs h0
    go_enter Tryz.func114,Tryz.ntmps114
    go_upto_region 1 with fail
    show Code.wp _ _ _ _ ((w.alloc (.cells (zaa r) 136)).alloc (.cells (zaa ⟨[],0,0⟩) 136))
    generalize (w.alloc (.cells (zaa r) 136)).alloc (.cells (zaa ⟨[],0,0⟩) 136)=wA at *
    generalize hZ:w.heap.size=z at *
    have HZ:Hid (w.heap.size=z):=hZ
    clear hZ
    have c0:wA.cell? ⟨z,0,none⟩=some (.string S):=by rw [HS.out];exact HQ0.out.cell 0
    have c1:wA.cell? ⟨z,1,none⟩=some (.int .i64 r.at_):=HQ0.out.cell 1
    have c2:wA.cell? ⟨z,2,none⟩=some (.int .i64 r.e):=HQ0.out.cell 2
    go_wp2_with fail
    refine (HF.out 15 _).mono ?_
    rintro e w6 ⟨rfl,HB6⟩
    have HO6:Hid (Rq w6 (z+1) ⟨[],0,0⟩):=HO0.out.keep HB6.out
    have h5z:z≤wA.heap.size:=by have:=HB0.out.size;rw [HZ.out] at this;exact this
    have HB7:Hid (Below z w w6):=HB0.out.trans (HB6.out.mono h5z)
    have HXf:Hid ((r.fl 15).s=r.s):=zkv r 15
    clear HF c0 c1 c2 HQ0
    generalize r.fl 15=Z at *
    have g0:=HO6.out.froz 0
    have g1:=HO6.out.froz 1
    have g2:=HO6.out.froz 2
    have b0:w6.cell? ⟨z+1,0,none⟩=some (.string ⟨#[]⟩):=HO6.out.cell 0
    have b1:w6.cell? ⟨z+1,1,none⟩=some (.int .i64 0):=HO6.out.cell 1
    have b2:w6.cell? ⟨z+1,2,none⟩=some (.int .i64 0):=HO6.out.cell 2
    have HT:Hid (((w6.setCell ⟨z+1,0,none⟩ (.string S)).setCell ⟨z+1,1,none⟩ (.int .i64 Z.at_)).setCell ⟨z+1,2,none⟩ (.int .i64 Z.e)=w6.setRow (z+1) (zaa Z)):=zbc HO6.out HS.out HXf.out
    have HO9:Hid (Rq (w6.setRow (z+1) (zaa Z)) (z+1) Z):=HO6.out.put _
    have HB9:Hid (Below z w (w6.setRow (z+1) (zaa Z))):=zar HB7.out (by omega)
    go_wp2_with fail
    rw [HT.out]
    generalize w6.setRow (z+1) (zaa Z)=w9 at *
    have d0:w9.cell? ⟨z+1,0,none⟩=some (.string ⟨Z.s.toArray⟩):=HO9.out.cell 0
    have d1:w9.cell? ⟨z+1,1,none⟩=some (.int .i64 Z.at_):=HO9.out.cell 1
    have d2:w9.cell? ⟨z+1,2,none⟩=some (.int .i64 Z.e):=HO9.out.cell 2
    refine bodyPost_ret (by simp [results,Tryz.results114,go_sem,d0,d1,d2];try rfl) rfl ?_
    exact QP.mk (x:=Z) (by rw [HD.out]) (by rw [HD.out]) (by rw [HZ.out];exact HB9.out)
   ·have hcz:¬ (1:Int)<(x.toNat:Int):=by omega
    have HD:Hid (zbn r=({ r with at_:=r.at_+1 },x.toNat==1)):=by unfold Hid;rw [HG.out,if_neg hc]
    have HB:Hid (((x.toNat:Int)==1)=(x.toNat==1)):=by
     unfold Hid
     by_cases h1:x.toNat=1
     ·rw [h1];rfl
     ·rw [show (x.toNat==1)=false by simpa using h1];rw [beq_eq_false_iff_ne];omega
    have HQ:Hid (zaa r=#[.string S,.int .i64 r.at_,.int .i64 r.e]):=zg7 HS.out rfl
    rw [HQ.out]
    clear hSz hr hs h0 HG hc
    go_enter Tryz.func114,Tryz.ntmps114
    go_wp2_with fail
    go_region
    go_wp2_with fail
    go_returns
    exact QP.lit HS.out (by rw [HD.out]) (by rw [HD.out];rfl) (by rw [HD.out]) (by rw [HD.out];exact congrArg Value.bool HB.out) (by first | exact zfy ((below_new w _).alloc (by simp) _) 1)
  ·have hlz:(S.size:Int)≤(r.at_:Int):=by omega
   have HD:Hid (zbn r=(r.fl 14,false)):=zga h0 (by omega)
   have HN:=Rq.new2 w r
   have HB0:Hid (Below w.heap.size w ((w.alloc (.cells (zaa r) 136)).alloc (.cells (zaa ⟨[],0,0⟩) 136))):=HN.2.2
   have HQ0:Hid (Rq ((w.alloc (.cells (zaa r) 136)).alloc (.cells (zaa ⟨[],0,0⟩) 136)) w.heap.size r):=HN.1
   have HO0:Hid (Rq ((w.alloc (.cells (zaa r) 136)).alloc (.cells (zaa ⟨[],0,0⟩) 136)) (w.heap.size+1) ⟨[],0,0⟩):=HN.2.1
   clear HN
   clear hSz hr hs h0
   go_enter Tryz.func114,Tryz.ntmps114
   go_upto_region 1 with fail
   show Code.wp _ _ _ _ ((w.alloc (.cells (zaa r) 136)).alloc (.cells (zaa ⟨[],0,0⟩) 136))
   generalize (w.alloc (.cells (zaa r) 136)).alloc (.cells (zaa ⟨[],0,0⟩) 136)=wA at *
   generalize hZ:w.heap.size=z at *
   have HZ:Hid (w.heap.size=z):=hZ
   clear hZ
   have c0:wA.cell? ⟨z,0,none⟩=some (.string S):=by rw [HS.out];exact HQ0.out.cell 0
   have c1:wA.cell? ⟨z,1,none⟩=some (.int .i64 r.at_):=HQ0.out.cell 1
   have c2:wA.cell? ⟨z,2,none⟩=some (.int .i64 r.e):=HQ0.out.cell 2
   go_wp2_with fail
   refine (HF.out 14 _).mono ?_
   rintro e w6 ⟨rfl,HB6⟩
   have HO6:Hid (Rq w6 (z+1) ⟨[],0,0⟩):=HO0.out.keep HB6.out
   have h5z:z≤wA.heap.size:=by have:=HB0.out.size;rw [HZ.out] at this;exact this
   have HB7:Hid (Below z w w6):=HB0.out.trans (HB6.out.mono h5z)
   have HXf:Hid ((r.fl 14).s=r.s):=zkv r 14
   clear HF c0 c1 c2 HQ0
   generalize r.fl 14=Z at *
   have g0:=HO6.out.froz 0
   have g1:=HO6.out.froz 1
   have g2:=HO6.out.froz 2
   have b0:w6.cell? ⟨z+1,0,none⟩=some (.string ⟨#[]⟩):=HO6.out.cell 0
   have b1:w6.cell? ⟨z+1,1,none⟩=some (.int .i64 0):=HO6.out.cell 1
   have b2:w6.cell? ⟨z+1,2,none⟩=some (.int .i64 0):=HO6.out.cell 2
   have HT:Hid (((w6.setCell ⟨z+1,0,none⟩ (.string S)).setCell ⟨z+1,1,none⟩ (.int .i64 Z.at_)).setCell ⟨z+1,2,none⟩ (.int .i64 Z.e)=w6.setRow (z+1) (zaa Z)):=zbc HO6.out HS.out HXf.out
   have HO9:Hid (Rq (w6.setRow (z+1) (zaa Z)) (z+1) Z):=HO6.out.put _
   have HB9:Hid (Below z w (w6.setRow (z+1) (zaa Z))):=zar HB7.out (by omega)
   go_wp2_with fail
   rw [HT.out]
   generalize w6.setRow (z+1) (zaa Z)=w9 at *
   have d0:w9.cell? ⟨z+1,0,none⟩=some (.string ⟨Z.s.toArray⟩):=HO9.out.cell 0
   have d1:w9.cell? ⟨z+1,1,none⟩=some (.int .i64 Z.at_):=HO9.out.cell 1
   have d2:w9.cell? ⟨z+1,2,none⟩=some (.int .i64 Z.e):=HO9.out.cell 2
   refine bodyPost_ret (by simp [results,Tryz.results114,go_sem,d0,d1,d2];try rfl) rfl ?_
   exact QP.mk (x:=Z) (by rw [HD.out]) (by rw [HD.out]) (by rw [HZ.out];exact HB9.out)
 ·have hz:((r.e:Int) != 0)=true:=by rw [bne_iff_ne];omega
  have HD:Hid (zbn r=(r,false)):=zda h0
  have HQ:Hid (zaa r=#[.string S,.int .i64 r.at_,.int .i64 r.e]):=zg7 HS.out rfl
  rw [HQ.out]
  clear hSz hr hs h0 HF
  go_enter Tryz.func114,Tryz.ntmps114
  go_wp2_with fail
  go_returns
  exact QP.lit HS.out (by rw [HD.out]) (by rw [HD.out]) (by rw [HD.out]) (by rw [HD.out]) ((below_new w _).alloc (by simp) _)
theorem zjd {B:Nat} {w:World} {p:Nat} {T:Nat} {cs:Array Value} {fz:Nat × Nat} {v:Value} {n:Nat} {xs:List Value} (h:w.ownsRow B 3 1 v n xs) (hp:w.heap[p]? = some (.cells cs T fz)) (hT:T≠3):v.ownBlock≠some p:=by
 intro e
 rcases h.2 with ⟨rfl,_⟩ | ⟨g,cap,cur,rfl,_,hg,_⟩
 ·cases e
 ·obtain rfl:g=p:=Option.some.inj e
  rw [hp] at hg
  injection hg with hg
  injection hg with _ e2 _
  exact hT e2
theorem zfr {B:Nat} {w w':World} {v:Value} {n:Nat} {xs:List Value} (h:w.ownsRow B 3 1 v n xs) (hb:∀g,v.ownBlock=some g→w'.heap[g]? = w.heap[g]?):w'.ownsRow B 3 1 v n xs:=by
 refine ⟨h.1,?_⟩
 rcases h.2 with h2 | ⟨g,cap,cur,hv,hB,hg,hr⟩
 ·exact .inl h2
 ·exact .inr ⟨g,cap,cur,hv,hB,(hb g (by rw [hv];rfl)).trans hg,hr⟩
theorem zps {B:Nat} {w:World} {v:Value} {n:Nat} {xs:List Value} (h:w.ownsRow B 3 1 v n xs) {g:Nat} (hg:v.ownBlock=some g):g<w.heap.size:=by
 rcases h.2 with ⟨rfl,_⟩ | ⟨g',cap,cur,rfl,_,hb,_⟩
 ·cases hg
 ·obtain rfl:g'=g:=Option.some.inj hg
  exact (Array.getElem?_eq_some_iff.1 hb).1
theorem zed {B:Nat} {w w':World} {v:Value} {n:Nat} {xs:List Value} (h:w.ownsRow B 3 1 v n xs) (hb:Below w.heap.size w w'):w'.ownsRow B 3 1 v n xs:=zfr h fun g hg=>hb.block g (zps h hg)
theorem zgs {B:Nat} {w:World} {v:Value} {n z:Nat} {xs:List Value} {r:Rd} {cs:Array Value} (h:w.ownsRow B 3 1 v n xs) (hz:Rq w z r):(w.setRow z cs).ownsRow B 3 1 v n xs:=
 zfr h fun g hg=>setRow_other w z g cs (by rintro rfl;exact zjd h hz.blk (by decide) hg)
theorem Rq.grown {B:Nat} {w w':World} {v:Value} {n z:Nat} {xs:List Value} {r:Rd} (h:Rq w z r) (ho:w.ownsRow B 3 1 v n xs) (hg:w.grownBy w' v.ownBlock):Rq w' z r:=h.same (hg.block z h.lt (fun e=>zjd ho h.blk (by decide) e.symm))
def QI (l:List Int) (r:Rd) (w:World) (e:Ending) (w':World):Prop:=∃v xs,e=.returned (.tuple #[.agg (zaa r),v])∧Hid (w'.ownsRow w.heap.size 3 1 v xs.length (zal xs))∧Hid (xs=l)∧Hid (Below w.heap.size w w')
theorem QI.mk {l xs:List Int} {r x:Rd} {w w':World} {v:Value} (hx:x=r) (h:w'.ownsRow w.heap.size 3 1 v xs.length (zal xs)) (hl:xs=l) (hb:Below w.heap.size w w'):QI l r w (.returned (.tuple #[.agg (zaa x),v])) w':=⟨v,xs,by rw [hx],h,hl,hb⟩
theorem ifl {r:Rd} {S:ByteArray} (hS:S=⟨r.s.toArray⟩) {k:Rd} (hk:k.s=r.s) (hr:k.at_≤r.s.length) (hs:r.s.length≤1099511627776) (w:World):Calls Tryz.prog 61 #[.agg #[.string S,.int .i64 k.at_,.int .i64 k.e]] w fun e w'=>e=.returned (.tuple #[.agg #[.string S,.int .i64 (zah k).1.at_,.int .i64 (zah k).1.e],.int .i64 (zah k).2])∧Hid (Below w.heap.size w w'):=by
 have h:=zxy k (by rw [hk];exact hr) (by rw [hk];exact hs) w
 unfold QP at h
 rw [zg7 hS (X:=(zah k).1) ((zfw (show k.Ok from by show k.at_≤_;rw [hk];exact hr)).2.1.trans hk),zg7 hS hk] at h
 exact h
theorem cfl {r:Rd} {S:ByteArray} (hS:S=⟨r.s.toArray⟩) {m:Int} (hm:I64 m) (hr:r.at_≤r.s.length) (hs:r.s.length≤1099511627776) (w:World):Calls Tryz.prog 94 #[.agg #[.string S,.int .i64 r.at_,.int .i64 r.e],.int .i64 m] w fun e w'=>e=.returned (.tuple #[.agg #[.string S,.int .i64 (zai r m).1.at_,.int .i64 (zai r m).1.e],.int .i64 (zai r m).2])∧Hid (Below w.heap.size w w'):=by
 have h:=zm0 r m hm hr hs w
 unfold QP at h
 rw [zg7 hS (X:=(zai r m).1) (zbt (show r.Ok from hr) m).2,zg7 hS rfl] at h
 exact h
theorem zw9 (r:Rd) (m:Int) (hm:I64 m) (hr:r.at_≤r.s.length) (hs:r.s.length≤1099511627776) (w:World):Calls Tryz.prog 113 #[.agg (zaa r),.int .i64 m] w (QI (zbq r m).2 (zbq r m).1 w):=by
 obtain ⟨S,HS⟩:∃S:ByteArray,Hid (S=⟨r.s.toArray⟩):=⟨_,rfl⟩
 have HC:Hid (∀w,Calls Tryz.prog 94 #[.agg #[.string S,.int .i64 r.at_,.int .i64 r.e],.int .i64 m] w fun e w'=>e=.returned (.tuple #[.agg #[.string S,.int .i64 (zai r m).1.at_,.int .i64 (zai r m).1.e],.int .i64 (zai r m).2])∧Hid (Below w.heap.size w w')):=fun w=>cfl HS.out hm hr hs w
 have HI:Hid (∀k:Rd,k.s=r.s→k.at_≤r.s.length→∀w,Calls Tryz.prog 61 #[.agg #[.string S,.int .i64 k.at_,.int .i64 k.e]] w fun e w'=>e=.returned (.tuple #[.agg #[.string S,.int .i64 (zah k).1.at_,.int .i64 (zah k).1.e],.int .i64 (zah k).2])∧Hid (Below w.heap.size w w')):=fun k hk ha w=>ifl HS.out hk ha hs w
 have HU:Hid (zbq r m=if (rIs (zai r m).2 (zai r m).1).1.e≠0 then ((rIs (zai r m).2 (zai r m).1).1,[]) else rIs (zai r m).2 (zai r m).1):=rfl
 have HX:Hid ((zai r m).1.s=r.s):=(zbt (show r.Ok from hr) m).2
 have HXa:Hid ((zai r m).1.at_≤r.s.length):=by have h1:(zai r m).1.at_≤(zai r m).1.s.length:=(zbt (show r.Ok from hr) m).1;rw [HX.out] at h1;exact h1
 have HLs:Hid (r.s.length≤1099511627776):=hs
 have hN:((zai r m).2:Int)≤9223372036854775807:=by
  have:=hm.2
  rw [zcj]
  split
  ·next hc=>
   show ((nxt r).2.1:Int)≤_
   unfold cE at hc
   split at hc
   ·exact absurd hc ‹_›
   ·split at hc
    ·omega
    ·omega
  ·show ((0:Nat):Int)≤_;omega
 have HN:=Rq.new2 w r
 have HB0:Hid (Below w.heap.size w ((w.alloc (.cells (zaa r) 136)).alloc (.cells (zaa ⟨[],0,0⟩) 136))):=HN.2.2
 have HQ0:Hid (Rq ((w.alloc (.cells (zaa r) 136)).alloc (.cells (zaa ⟨[],0,0⟩) 136)) w.heap.size r):=HN.1
 have HO0:Hid (Rq ((w.alloc (.cells (zaa r) 136)).alloc (.cells (zaa ⟨[],0,0⟩) 136)) (w.heap.size+1) ⟨[],0,0⟩):=HN.2.1
 clear HN
 obtain ⟨hm1,hm2⟩:=hm
 clear hr hs
 generalize (zai r m).2=N at *
 generalize (zai r m).1=X at *
 go_enter Tryz.func113,Tryz.ntmps113
 go_upto_region 1 with fail
 show Code.wp _ _ _ _ ((w.alloc (.cells (zaa r) 136)).alloc (.cells (zaa ⟨[],0,0⟩) 136))
 generalize (w.alloc (.cells (zaa r) 136)).alloc (.cells (zaa ⟨[],0,0⟩) 136)=wA at *
 generalize hZ:w.heap.size=z at *
 have HZ:Hid (w.heap.size=z):=hZ
 clear hZ
 have c0:wA.cell? ⟨z,0,none⟩=some (.string S):=by rw [HS.out];exact HQ0.out.cell 0
 have c1:wA.cell? ⟨z,1,none⟩=some (.int .i64 r.at_):=HQ0.out.cell 1
 have c2:wA.cell? ⟨z,2,none⟩=some (.int .i64 r.e):=HQ0.out.cell 2
 go_wp2_with fail
 refine (HC.out _).mono ?_
 rintro e w3 ⟨rfl,HB3⟩
 have HQ3:Hid (Rq w3 z r):=HQ0.out.keep HB3.out
 have HO3:Hid (Rq w3 (z+1) ⟨[],0,0⟩):=HO0.out.keep HB3.out
 have hAz:z≤wA.heap.size:=by have:=HB0.out.size;rw [HZ.out] at this;exact this
 have HB4:Hid (Below z w w3):=HB0.out.trans (HB3.out.mono hAz)
 clear c0 c1 c2 hAz
 have c0:w3.cell? ⟨z,0,none⟩=some (.string S):=by rw [HS.out];exact HQ3.out.cell 0
 have c1:w3.cell? ⟨z,1,none⟩=some (.int .i64 r.at_):=HQ3.out.cell 1
 have c2:w3.cell? ⟨z,2,none⟩=some (.int .i64 r.e):=HQ3.out.cell 2
 have f0:=HQ3.out.froz 0
 have f1:=HQ3.out.froz 1
 have f2:=HQ3.out.froz 2
 have HT3:Hid (((w3.setCell ⟨z,0,none⟩ (.string S)).setCell ⟨z,1,none⟩ (.int .i64 X.at_)).setCell ⟨z,2,none⟩ (.int .i64 X.e)=w3.setRow z (zaa X)):=zbc HQ3.out HS.out HX.out
 have HQ5:Hid (Rq (w3.setRow z (zaa X)) z X):=HQ3.out.put X
 have HO5:Hid (Rq (w3.setRow z (zaa X)) (z+1) ⟨[],0,0⟩):=HO3.out.aside (by omega)
 have HB5:Hid (Below z w (w3.setRow z (zaa X))):=zar HB4.out (Nat.le_refl _)
 go_upto_region 2 with fail
 rw [HT3.out]
 generalize w3.setRow z (zaa X)=w5 at *
 clear c0 c1 c2 f0 f1 f2 HT3 HQ3 HO3 HB4 HB3 HQ0 HO0 HB0 HC
 go_wp2_with fail
 go_loopw [7,8] (fun v i wr=>∃(k:Nat) (xs:List Int) (rk:Rd),i=.int .i64 k∧k≤N∧xs.length=k∧Hid (wr.ownsRow z 3 1 v xs.length (zal xs))∧Hid (Rq wr z rk)∧Hid (Rq wr (z+1) ⟨[],0,0⟩)∧Hid (Below z w wr)∧Hid (Far N X k rk xs)∧Hid ((rk.e=0→k≤rk.at_)∧rk.s=r.s∧rk.at_≤r.s.length)) (fun _ i _=>N-(Lib.intOf i).toNat)
 case atStart=>exact ⟨0,[],X,rfl,Nat.zero_le _,rfl,World.ownsRow_nil _ _ _ _,HQ5,HO5,HB5,by unfold Hid Far;simp,⟨fun _=>Nat.zero_le _,HX.out,HXa.out⟩⟩
 case round=>
  clear HQ5 HO5 HB5 HX HXa
  obtain ⟨k,xs,rk,rfl,hk,hxk,HW,HQ,HO,HB,HF,HK⟩:=hrel
  have c0:wr.cell? ⟨z,0,none⟩=some (.string S):=by rw [HS.out,← HK.out.2.1];exact HQ.out.cell 0
  have c1:wr.cell? ⟨z,1,none⟩=some (.int .i64 rk.at_):=HQ.out.cell 1
  have c2:wr.cell? ⟨z,2,none⟩=some (.int .i64 rk.e):=HQ.out.cell 2
  have HKs:Hid (rk.s=r.s):=HK.out.2.1
  by_cases hkn:k<N
  ·have hkz:(k:Int)<(N:Int):=by omega
   by_cases h0:rk.e=0
   ·have hez:((rk.e:Int)==0)=true:=by rw [h0];rfl
    have hkl:k≤1099511627776:=by have h1:=HK.out.1 h0;have h2:=HK.out.2.2;have h3:=HLs.out;omega
    have hokk:rk.Ok:=by show rk.at_≤_;rw [HKs.out];exact HK.out.2.2
    have HIk:Hid (∀w,Calls Tryz.prog 61 #[.agg #[.string S,.int .i64 rk.at_,.int .i64 rk.e]] w fun e w'=>e=.returned (.tuple #[.agg #[.string S,.int .i64 (zah rk).1.at_,.int .i64 (zah rk).1.e],.int .i64 (zah rk).2])∧Hid (Below w.heap.size w w')):=fun w=>HI.out rk HKs.out HK.out.2.2 w
    have HF2:Hid (Far N X (k+1) (zah rk).1 (xs++[(zah rk).2])):=HF.out.step hkn h0
    have HK2:Hid (((zah rk).1.e=0→k+1≤(zah rk).1.at_)∧(zah rk).1.s=r.s∧(zah rk).1.at_≤r.s.length):=by
     have h1:=zfw hokk
     refine ⟨fun h=>?_,h1.2.1.trans HKs.out,?_⟩
     ·have h2:=(zej h0 h).1
      have h3:=HK.out.1 h0
      omega
     ·have h2:(zah rk).1.at_≤(zah rk).1.s.length:=h1.1
      rw [h1.2.1,HKs.out] at h2
      exact h2
    clear HK HF h0 hokk
    generalize (zah rk).1=Y at *
    generalize (zah rk).2=n at *
    go_wp2_with fail
    refine (HIk.out _).mono ?_
    rintro e w3 ⟨rfl,HB3⟩
    have hwz:z≤wr.heap.size:=by have:=HB.out.size;rw [HZ.out] at this;exact this
    have HQ3:Hid (Rq w3 z rk):=HQ.out.keep HB3.out
    have HO3:Hid (Rq w3 (z+1) ⟨[],0,0⟩):=HO.out.keep HB3.out
    have HW3:Hid (w3.ownsRow z 3 1 u7 xs.length (zal xs)):=zed HW.out HB3.out
    have HB4:Hid (Below z w w3):=HB.out.trans (HB3.out.mono hwz)
    have h3z:z≤w3.heap.size:=by have:=HB4.out.size;rw [HZ.out] at this;exact this
    have HE3:Hid (w3.alloc (.cells #[.string S,.int .i64 Y.at_,.int .i64 Y.e] 136)=w3.alloc (.cells (zaa Y) 136)):=by unfold Hid;rw [zg7 HS.out HK2.out.2.1]
    have HQ5:Hid (Rq (w3.alloc (.cells (zaa Y) 136)) z rk):=HQ3.out.keep (below_new _ _)
    have HO5:Hid (Rq (w3.alloc (.cells (zaa Y) 136)) (z+1) ⟨[],0,0⟩):=HO3.out.keep (below_new _ _)
    have HY5:Hid (Rq (w3.alloc (.cells (zaa Y) 136)) w3.heap.size Y):=Rq.new _ _
    have HW5:Hid ((w3.alloc (.cells (zaa Y) 136)).ownsRow z 3 1 u7 xs.length (zal xs)):=zed HW3.out (below_new _ _)
    have HB5:Hid (Below z w (w3.alloc (.cells (zaa Y) 136))):=HB4.out.alloc h3z _
    clear c0 c1 c2
    go_upto_region 7 with fail
    rw [HE3.out]
    generalize w3.alloc (.cells (zaa Y) 136)=w5 at *
    generalize w3.heap.size=y at *
    clear HE3 HQ3 HO3 HB4 HB3 HW3 HQ HO HB HW h3z hwz HIk
    have h5z:z≤w5.heap.size:=by have:=HB5.out.size;rw [HZ.out] at this;exact this
    obtain ⟨v',w6,hr6,ho6,hg6⟩:=zf0 HW5.out h5z n (by omega)
    have HR6:Hid _:=hr6
    have HW6:Hid (w6.ownsRow z 3 1 v' (xs++[n]).length (zal (xs++[n]))):=ho6
    have how:=zed HW5.out (below_new w5 (.cells #[.int .i64 n] 3))
    have HQ6:Hid (Rq w6 z rk):=(HQ5.out.keep (below_new _ _)).grown how hg6
    have HO6:Hid (Rq w6 (z+1) ⟨[],0,0⟩):=(HO5.out.keep (below_new _ _)).grown how hg6
    have HY6:Hid (Rq w6 y Y):=(HY5.out.keep (below_new _ _)).grown how hg6
    have HB6:Hid (Below z w w6):=(HB5.out.alloc h5z _).grown hg6 (by simp;omega) (fun j hj=>(HW5.out.lt j hj).1)
    clear hr6 ho6 hg6 how HQ5 HO5 HY5 HB5 HW5 h5z
    have y0:w6.cell? ⟨y,0,none⟩=some (.string S):=by rw [HS.out,← HK2.out.2.1];exact HY6.out.cell 0
    have y1:w6.cell? ⟨y,1,none⟩=some (.int .i64 Y.at_):=HY6.out.cell 1
    have y2:w6.cell? ⟨y,2,none⟩=some (.int .i64 Y.e):=HY6.out.cell 2
    have c0:w6.cell? ⟨z,0,none⟩=some (.string S):=by rw [HS.out,← HKs.out];exact HQ6.out.cell 0
    have c1:w6.cell? ⟨z,1,none⟩=some (.int .i64 rk.at_):=HQ6.out.cell 1
    have c2:w6.cell? ⟨z,2,none⟩=some (.int .i64 rk.e):=HQ6.out.cell 2
    have f0:=HQ6.out.froz 0
    have f1:=HQ6.out.froz 1
    have f2:=HQ6.out.froz 2
    have HT6:Hid (((w6.setCell ⟨z,0,none⟩ (.string S)).setCell ⟨z,1,none⟩ (.int .i64 Y.at_)).setCell ⟨z,2,none⟩ (.int .i64 Y.e)=w6.setRow z (zaa Y)):=zbc HQ6.out HS.out HK2.out.2.1
    have HQ7:Hid (Rq (w6.setRow z (zaa Y)) z Y):=HQ6.out.put Y
    have HO7:Hid (Rq (w6.setRow z (zaa Y)) (z+1) ⟨[],0,0⟩):=HO6.out.aside (by omega)
    have HW7:Hid ((w6.setRow z (zaa Y)).ownsRow z 3 1 v' (xs++[n]).length (zal (xs++[n]))):=zgs HW6.out HQ6.out
    have HB7:Hid (Below z w (w6.setRow z (zaa Y))):=zar HB6.out (Nat.le_refl _)
    go_wp2_with (at_builtin;refine Lib.wpList_append_run _ rfl _ _ 25 25 rfl _ _ rfl rfl _ w6 HR6.out ?_)
    rw [HT6.out]
    exact ⟨⟨k+1,xs++[n],Y,by go_num,by omega,by simp;omega,HW7.out,HQ7.out,HO7.out,HB7.out,HF2.out,HK2.out⟩,by simp [Lib.intOf];omega⟩
   ·have hez:((rk.e:Int)==0)=false:=by rw [beq_eq_false_iff_ne];omega
    have hez2:((rk.e:Int) != 0)=true:=by rw [bne_iff_ne];omega
    have HD:Hid (zbq r m=(rk,[])):=by
     unfold Hid
     rw [HU.out,HF.out.bad h0,if_pos h0]
    clear h0
    have g0:=HO.out.froz 0
    have g1:=HO.out.froz 1
    have g2:=HO.out.froz 2
    have b0:wr.cell? ⟨z+1,0,none⟩=some (.string ⟨#[]⟩):=HO.out.cell 0
    have b1:wr.cell? ⟨z+1,1,none⟩=some (.int .i64 0):=HO.out.cell 1
    have b2:wr.cell? ⟨z+1,2,none⟩=some (.int .i64 0):=HO.out.cell 2
    have HT:Hid (((wr.setCell ⟨z+1,0,none⟩ (.string S)).setCell ⟨z+1,1,none⟩ (.int .i64 rk.at_)).setCell ⟨z+1,2,none⟩ (.int .i64 rk.e)=wr.setRow (z+1) (zaa rk)):=zbc HO.out HS.out HKs.out
    have HO9:Hid (Rq (wr.setRow (z+1) (zaa rk)) (z+1) rk):=HO.out.put _
    have HB9:Hid (Below z w (wr.setRow (z+1) (zaa rk))):=zar HB.out (by omega)
    go_wp2_with fail
    rw [HT.out]
    generalize wr.setRow (z+1) (zaa rk)=w9 at *
    have d0:w9.cell? ⟨z+1,0,none⟩=some (.string ⟨rk.s.toArray⟩):=HO9.out.cell 0
    have d1:w9.cell? ⟨z+1,1,none⟩=some (.int .i64 rk.at_):=HO9.out.cell 1
    have d2:w9.cell? ⟨z+1,2,none⟩=some (.int .i64 rk.e):=HO9.out.cell 2
    refine bodyPost_ret (by simp [results,Tryz.results113,go_sem,d0,d1,d2];try rfl) rfl ?_
    exact QI.mk (x:=rk) (xs:=[]) (by rw [HD.out]) (World.ownsRow_nil _ _ _ _) (by rw [HD.out]) (by rw [HZ.out];exact HB9.out)
  ·have hkz:¬ (k:Int)<(N:Int):=by omega
   have hkN:k=N:=by omega
   subst hkN
   by_cases h0:rk.e=0
   ·have hez2:((rk.e:Int) != 0)=false:=by rw [h0];rfl
    have HD:Hid (zbq r m=(rk,xs)):=by
     unfold Hid
     rw [HU.out,HF.out.end_,if_neg (by simpa using h0)]
    clear h0
    have HW9:Hid ((wr.setRow (z+1) (zaa rk)).ownsRow z 3 1 u7 xs.length (zal xs)):=zgs HW.out HO.out
    have g0:=HO.out.froz 0
    have g1:=HO.out.froz 1
    have g2:=HO.out.froz 2
    have b0:wr.cell? ⟨z+1,0,none⟩=some (.string ⟨#[]⟩):=HO.out.cell 0
    have b1:wr.cell? ⟨z+1,1,none⟩=some (.int .i64 0):=HO.out.cell 1
    have b2:wr.cell? ⟨z+1,2,none⟩=some (.int .i64 0):=HO.out.cell 2
    have HT:Hid (((wr.setCell ⟨z+1,0,none⟩ (.string S)).setCell ⟨z+1,1,none⟩ (.int .i64 rk.at_)).setCell ⟨z+1,2,none⟩ (.int .i64 rk.e)=wr.setRow (z+1) (zaa rk)):=zbc HO.out HS.out HKs.out
    have HO9:Hid (Rq (wr.setRow (z+1) (zaa rk)) (z+1) rk):=HO.out.put _
    have HB9:Hid (Below z w (wr.setRow (z+1) (zaa rk))):=zar HB.out (by omega)
    go_wp2_with fail
    rw [HT.out]
    generalize wr.setRow (z+1) (zaa rk)=w9 at *
    have d0:w9.cell? ⟨z+1,0,none⟩=some (.string ⟨rk.s.toArray⟩):=HO9.out.cell 0
    have d1:w9.cell? ⟨z+1,1,none⟩=some (.int .i64 rk.at_):=HO9.out.cell 1
    have d2:w9.cell? ⟨z+1,2,none⟩=some (.int .i64 rk.e):=HO9.out.cell 2
    refine bodyPost_ret (by simp [results,Tryz.results113,go_sem,d0,d1,d2];try rfl) rfl ?_
    exact QI.mk (x:=rk) (xs:=xs) (by rw [HD.out]) (by rw [HZ.out];exact HW9.out) (by rw [HD.out]) (by rw [HZ.out];exact HB9.out)
   ·have hez2:((rk.e:Int) != 0)=true:=by rw [bne_iff_ne];omega
    have HD:Hid (zbq r m=(rk,[])):=by
     unfold Hid
     rw [HU.out,HF.out.end_,if_pos h0]
    clear h0
    have g0:=HO.out.froz 0
    have g1:=HO.out.froz 1
    have g2:=HO.out.froz 2
    have b0:wr.cell? ⟨z+1,0,none⟩=some (.string ⟨#[]⟩):=HO.out.cell 0
    have b1:wr.cell? ⟨z+1,1,none⟩=some (.int .i64 0):=HO.out.cell 1
    have b2:wr.cell? ⟨z+1,2,none⟩=some (.int .i64 0):=HO.out.cell 2
    have HT:Hid (((wr.setCell ⟨z+1,0,none⟩ (.string S)).setCell ⟨z+1,1,none⟩ (.int .i64 rk.at_)).setCell ⟨z+1,2,none⟩ (.int .i64 rk.e)=wr.setRow (z+1) (zaa rk)):=zbc HO.out HS.out HKs.out
    have HO9:Hid (Rq (wr.setRow (z+1) (zaa rk)) (z+1) rk):=HO.out.put _
    have HB9:Hid (Below z w (wr.setRow (z+1) (zaa rk))):=zar HB.out (by omega)
    go_wp2_with fail
    rw [HT.out]
    generalize wr.setRow (z+1) (zaa rk)=w9 at *
    have d0:w9.cell? ⟨z+1,0,none⟩=some (.string ⟨rk.s.toArray⟩):=HO9.out.cell 0
    have d1:w9.cell? ⟨z+1,1,none⟩=some (.int .i64 rk.at_):=HO9.out.cell 1
    have d2:w9.cell? ⟨z+1,2,none⟩=some (.int .i64 rk.e):=HO9.out.cell 2
    refine bodyPost_ret (by simp [results,Tryz.results113,go_sem,d0,d1,d2];try rfl) rfl ?_
    exact QI.mk (x:=rk) (xs:=[]) (by rw [HD.out]) (World.ownsRow_nil _ _ _ _) (by rw [HD.out]) (by rw [HZ.out];exact HB9.out)
theorem zje:(Tryz.prog.info? 136).map (·.size)=some 3:=by kernel_rfl
theorem zxa (r:Rd):(zaa r).all (·.oneCell')=true:=by simp [zaa,Value.oneCell']
theorem zbi (w:World) (z:Nat) (r:Rd) (h:Bx w z (zaa r) 136):(loadVar 136 ⟨z,0,none⟩).run Tryz.prog w=.ok (.agg (zaa r)) w:=run_loadVar_row w z 136 136 _ (0,0) _ h Tryz.underlying136 rfl zje
theorem za2 (w:World) (z:Nat) (r:Rd) (h:Bx w z (zaa r) 136):(Instr.loadAt 136 (.pointer (some ⟨z,0,none⟩))).run Tryz.prog w=.ok (.agg (zaa r)) w:=by
 simp only [Instr.loadAt,Instr.sureAddr,asAddr,Sem.run_bind,Sem.run_pure,Result.andThen_ok]
 exact zbi w z r h
theorem zaq (w:World) (z:Nat) (r x:Rd) (h:Bx w z (zaa r) 136):(Instr.storeAt 136 (.pointer (some ⟨z,0,none⟩)) (.agg (zaa x))).run Tryz.prog w=.ok () (w.setRow z (zaa x)):=zbo w z _ _ zje h rfl rfl (zxa x)
def QL (e sz n:Nat) (cs:List Value) (r:Rd) (w:World) (E:Ending) (w':World):Prop:=∃a c,E=.returned (.tuple #[.agg (zaa r),.slice a n c])∧Hid (w'.ownsRow w.heap.size e sz (.slice a n c) n cs)∧Hid (Below w.heap.size w w')
theorem zei {r r1:Rd} {a:Int} (h:zah r=(r1,a)) (hs:Sm r) (w:World):Calls Tryz.prog 61 #[.agg (zaa r)] w (QP (.int .i64 a) r1 w):=by have:=zxy r hs.1 hs.l2 w;rw [h] at this;exact this
theorem zee {r r1:Rd} {m:Int} {a:List UInt8} (hm:I64 m) (h:za4 r m=(r1,a)) (hs:Sm r) (w:World):Calls Tryz.prog 91 #[.agg (zaa r),.int .i64 m] w (QP (.string ⟨a.toArray⟩) r1 w):=by have:=zw7 r m hm hs.1 hs.l2 w;rw [h] at this;exact this
theorem ze7 {r r1:Rd} {m:Int} {a:Nat} (hm:I64 m) (h:zai r m=(r1,a)) (hs:Sm r) (w:World):Calls Tryz.prog 94 #[.agg (zaa r),.int .i64 m] w (QP (.int .i64 a) r1 w):=by have:=zm0 r m hm hs.1 hs.l2 w;rw [h] at this;exact this
theorem ztw {r r1:Rd} {a:Bool} (h:zbn r=(r1,a)) (hs:Sm r) (w:World):Calls Tryz.prog 114 #[.agg (zaa r)] w (QP (.bool a) r1 w):=by have:=zw8 r hs.1 hs.l2 w;rw [h] at this;exact this
theorem zat {w:World} {B e size n q:Nat} {v:Value} {xs:List Value} {M:Array Value} {cs:Array Value} {T:Nat} (h:w.ownsRow B e size v n xs) (hb:Bx w q cs T) (hT:T≠e):(w.setRow q M).ownsRow B e size v n xs:=by
  refine ⟨h.1,?_⟩
  rcases h.2 with h2 | ⟨g,cap,cur,hv,hB,hg,hr⟩
  · exact .inl h2
  · exact .inr ⟨g, cap, cur, hv, hB, by
      rw [setRow_other w q g M (by
        intro e1;subst e1
        rw [show w.heap[g]? = some (.cells cs T (0,0)) from hb] at hg
        injection hg with hg;injection hg with _ hg;exact hT hg)]
      exact hg,hr⟩
theorem Bx.grown {B e size n:Nat} {w w':World} {v:Value} {xs:List Value} {p:Nat} {cs:Array Value} {T:Nat} (h:Bx w p cs T) (ho:w.ownsRow B e size v n xs) (hT:T≠e) (hg:w.grownBy w' v.ownBlock):Bx w' p cs T:=by
 refine (hg.block p h.lt (fun e1=>?_)).trans h
 rcases ho.2 with ⟨rfl,_⟩ | ⟨g,cap,cur,rfl,_,hg2,_⟩
 ·cases e1
 ·have e2:p=g:=Option.some.inj e1
  rw [← e2,show w.heap[p]? = some (.cells cs T (0,0)) from h] at hg2
  injection hg2 with hg2;injection hg2 with _ hg2;exact hT hg2
theorem zkx (N:Nat) (hN:N≤100) (r:Rd) (hs:Sm r) (w:World):Calls Tryz.prog 92 #[.agg (zaa r),.int .i64 N] w (QL 3 1 N (zal (pre zah N r).2) (pre zah N r).1 w):=by
 have HSm:Hid (∀k,Sm (pre zah k r).1):=fun k=>Sm.pre za7 k hs
 clear hs
 have HZ0:Hid (Bx ((w.alloc (.cells (zaa r) 136)).alloc (.cells (zaa ⟨[],0,0⟩) 136)) w.heap.size (zaa r) 136):=(Bx.new w _ _).keep (zab _ _)
 have HO0:Hid (Bx ((w.alloc (.cells (zaa r) 136)).alloc (.cells (zaa ⟨[],0,0⟩) 136)) (w.heap.size+1) (zaa ⟨[],0,0⟩) 136):=by have:=Bx.new (w.alloc (.cells (zaa r) 136)) (zaa ⟨[],0,0⟩) 136;rwa [zan] at this
 have HB0:Hid (Below w.heap.size w ((w.alloc (.cells (zaa r) 136)).alloc (.cells (zaa ⟨[],0,0⟩) 136))):=bt (zab w _) (zab _ _)
 have hsz0:w.heap.size+2≤((w.alloc (.cells (zaa r) 136)).alloc (.cells (zaa ⟨[],0,0⟩) 136)).heap.size:=by rw [zan,zan];omega
 go_enter Tryz.func92,Tryz.ntmps92
 go_upto_region 1 with fail
 show Code.wp _ _ _ _ ((w.alloc (.cells (zaa r) 136)).alloc (.cells (zaa ⟨[],0,0⟩) 136))
 generalize ((w.alloc (.cells (zaa r) 136)).alloc (.cells (zaa ⟨[],0,0⟩) 136))=w1 at *
 go_wp2_with fail
 go_loopw [6,7] (fun v i wr=>∃(k:Nat),i=.int .i64 k∧k≤N∧Hid (wr.ownsRow (w.heap.size+2) 3 1 v (pre zah k r).2.length (zal (pre zah k r).2))∧Hid (Bx wr w.heap.size (zaa (pre zah k r).1) 136)∧Hid (Bx wr (w.heap.size+1) (zaa ⟨[],0,0⟩) 136)∧Hid (Below w.heap.size w wr)∧w.heap.size+2≤wr.heap.size) (fun _ i _=>N-(Lib.intOf i).toNat)
 case atStart=>exact ⟨0,rfl,Nat.zero_le _,World.ownsRow_nil _ _ _ _,HZ0,HO0,HB0,hsz0⟩
 case round=>
  clear HZ0 HO0 HB0 hsz0
  obtain ⟨k,rfl,hk,HOk,HZk,HYk,HBk,hszk⟩:=hrel
  by_cases hkn:k<N
  ·have hkz:(k:Int)<(N:Int):=by omega
   have HLk:Hid ((pre zah k r).2.length=k):=zb9 zah k r
   have HC:Hid (∀W,Calls Tryz.prog 61 #[.agg (zaa (pre zah k r).1)] W (QP (.int .i64 (zah (pre zah k r).1).2) (zah (pre zah k r).1).1 W)):=fun W=>zei rfl (HSm.out k) W
   have HE1:Hid ((pre zah (k+1) r).1=(zah (pre zah k r).1).1):=rfl
   have HE2:Hid ((pre zah (k+1) r).2=(pre zah k r).2++[(zah (pre zah k r).1).2]):=rfl
   generalize (pre zah k r).1=rk at *
   generalize (pre zah k r).2=ys at *
   generalize hP1:(pre zah (k+1) r).1=R1 at *
   generalize hP2:(pre zah (k+1) r).2=Y1 at *
   generalize (zah rk).1=r2 at *
   generalize (zah rk).2=y at *
   have HL1:Hid ((Instr.loadAt 136 (.pointer (some ⟨w.heap.size,0,none⟩))).run Tryz.prog wr=.ok (.agg (zaa rk)) wr):=za2 _ _ _ HZk.out
   go_wp2_with (guard_target =~ wpList _ _ _ (⟨_,Op.load 136 _,_,_,_,_⟩::_) _ _;refine zag _ rfl 136 _ rfl _ rfl _ HL1.out ?_;go_simp)
   refine (HC.out _).mono ?_
   rintro e w2 ⟨rfl,hb2⟩
   have HZ2:Hid (Bx w2 w.heap.size (zaa rk) 136):=HZk.out.keep hb2.out
   have HY2:Hid (Bx w2 (w.heap.size+1) (zaa ⟨[],0,0⟩) 136):=HYk.out.keep hb2.out
   have HO2:Hid (w2.ownsRow (w.heap.size+2) 3 1 u6 ys.length (zal ys)):=zax HOk.out hb2.out
   have HB2:Hid (Below w.heap.size w w2):=bt HBk.out hb2.out
   have hs2:w.heap.size+2≤w2.heap.size:=Nat.le_trans hszk hb2.out.size
   clear hb2 HZk HYk HOk HBk HL1 HC
   have HST:Hid ((Instr.storeAt 136 (.pointer (some ⟨w2.heap.size,0,none⟩)) (.agg (zaa r2))).run Tryz.prog (w2.alloc (.cells (zaa ⟨[],0,0⟩) 136))=.ok () ((w2.alloc (.cells (zaa ⟨[],0,0⟩) 136)).setRow w2.heap.size (zaa r2))):=zaq _ _ _ _ (Bx.new _ _ _)
   have HZ3:Hid (Bx ((w2.alloc (.cells (zaa ⟨[],0,0⟩) 136)).setRow w2.heap.size (zaa r2)) w.heap.size (zaa rk) 136):=(HZ2.out.keep (zab _ _)).other (by omega)
   have HY3:Hid (Bx ((w2.alloc (.cells (zaa ⟨[],0,0⟩) 136)).setRow w2.heap.size (zaa r2)) (w.heap.size+1) (zaa ⟨[],0,0⟩) 136):=(HY2.out.keep (zab _ _)).other (by omega)
   have HN3:Hid (Bx ((w2.alloc (.cells (zaa ⟨[],0,0⟩) 136)).setRow w2.heap.size (zaa r2)) w2.heap.size (zaa r2) 136):=Bx.set (Bx.new _ _ _)
   have HO3:Hid (((w2.alloc (.cells (zaa ⟨[],0,0⟩) 136)).setRow w2.heap.size (zaa r2)).ownsRow (w.heap.size+2) 3 1 u6 ys.length (zal ys)):=zat (zax HO2.out (zab _ _)) (Bx.new _ _ _) (by decide)
   have HB3:Hid (Below w.heap.size w ((w2.alloc (.cells (zaa ⟨[],0,0⟩) 136)).setRow w2.heap.size (zaa r2))):=zad (bt HB2.out (zab _ _)) (by omega)
   have hs3:w.heap.size+2≤((w2.alloc (.cells (zaa ⟨[],0,0⟩) 136)).setRow w2.heap.size (zaa r2)).heap.size:=by rw [setRow_size,zan];omega
   clear HZ2 HY2 HO2 HB2
   generalize hw3:(w2.alloc (.cells (zaa ⟨[],0,0⟩) 136)).setRow w2.heap.size (zaa r2)=w3 at *
   go_upto_region 6 with (guard_target =~ wpList _ _ _ (⟨_,Op.store 136 _ _,_,_,_,_⟩::_) _ _;refine zaf _ _ rfl 136 _ _ rfl _ _ rfl rfl HST.out ?_;go_simp)
   clear HST hw3
   generalize w2.heap.size=p8 at *
   obtain ⟨v',w4,hr4,ho4,hg4⟩:=zf0 HO3.out hs3 y (by have:=HLk.out;omega)
   have HR4:Hid _:=hr4
   have hO3a:=zax HO3.out (zab w3 (.cells #[.int .i64 y] 3))
   have HZ4:Hid (Bx w4 w.heap.size (zaa rk) 136):=(HZ3.out.keep (zab _ _)).grown hO3a (by decide) hg4
   have HY4:Hid (Bx w4 (w.heap.size+1) (zaa ⟨[],0,0⟩) 136):=(HY3.out.keep (zab _ _)).grown hO3a (by decide) hg4
   have HN4:Hid (Bx w4 p8 (zaa r2) 136):=(HN3.out.keep (zab _ _)).grown hO3a (by decide) hg4
   have hbw:Below (w.heap.size+2) w3 w4:=((Below.refl (w.heap.size+2) w3).alloc hs3 _).grown hg4 (by rw [zan];omega) (fun j hj=>(HO3.out.lt j hj).1)
   have HB4:Hid (Below w.heap.size w w4):=HB3.out.trans (hbw.mono (by omega))
   have hs4:w.heap.size+2≤w4.heap.size:=Nat.le_trans hs3 hbw.size
   have HO4:Hid (w4.ownsRow (w.heap.size+2) 3 1 v' Y1.length (zal Y1)):=by unfold Hid;rw [HE2.out];exact ho4
   clear hr4 ho4 hg4 hO3a hbw HZ3 HY3 HN3 HO3 HB3
   go_upto_region 7 with (at_builtin;refine Lib.wpList_append_run _ rfl _ _ 25 25 rfl _ _ rfl rfl _ w4 HR4.out ?_)
   clear HR4
   have HL4:Hid ((Instr.loadAt 136 (.pointer (some ⟨p8,0,none⟩))).run Tryz.prog w4=.ok (.agg (zaa r2)) w4):=za2 _ _ _ HN4.out
   have HS4:Hid ((Instr.storeAt 136 (.pointer (some ⟨w.heap.size,0,none⟩)) (.agg (zaa r2))).run Tryz.prog w4=.ok () (w4.setRow w.heap.size (zaa r2))):=zaq _ _ _ _ HZ4.out
   have HZ5:Hid (Bx (w4.setRow w.heap.size (zaa r2)) w.heap.size (zaa R1) 136):=by unfold Hid;rw [HE1.out];exact HZ4.out.set
   have HY5:Hid (Bx (w4.setRow w.heap.size (zaa r2)) (w.heap.size+1) (zaa ⟨[],0,0⟩) 136):=HY4.out.other (by omega)
   have HO5:Hid ((w4.setRow w.heap.size (zaa r2)).ownsRow (w.heap.size+2) 3 1 v' Y1.length (zal Y1)):=zat HO4.out HZ4.out (by decide)
   have HB5:Hid (Below w.heap.size w (w4.setRow w.heap.size (zaa r2))):=zad HB4.out (Nat.le_refl _)
   have hs5:w.heap.size+2≤(w4.setRow w.heap.size (zaa r2)).heap.size:=by rw [setRow_size];exact hs4
   clear HZ4 HY4 HN4 HO4 HB4
   generalize hw5:w4.setRow w.heap.size (zaa r2)=w5 at *
   go_wp2_with (first | (guard_target =~ wpList _ _ _ (⟨_,Op.load 136 _,_,_,_,_⟩::_) _ _;refine zag _ rfl 136 _ rfl _ rfl _ HL4.out ?_;go_simp) | (guard_target =~ wpList _ _ _ (⟨_,Op.store 136 _ _,_,_,_,_⟩::_) _ _;refine zaf _ _ rfl 136 _ _ rfl _ _ rfl rfl HS4.out ?_;go_simp))
   subst hP1
   subst hP2
   exact ⟨⟨k+1,by go_num,by omega,HO5.out,HZ5.out,HY5.out,HB5.out,hs5⟩,by simp [Lib.intOf];omega⟩
  ·have hkz:¬ (k:Int)<(N:Int):=by omega
   have hkN:k=N:=by omega
   subst hkN
   have hLf:=zb9 zah k r
   have hOf:=HOk.out
   rw [hLf] at hOf
   obtain ⟨fa,fc,hv⟩:=zc4 hOf
   subst hv
   have HL1:Hid ((Instr.loadAt 136 (.pointer (some ⟨w.heap.size,0,none⟩))).run Tryz.prog wr=.ok (.agg (zaa (pre zah k r).1)) wr):=za2 _ _ _ HZk.out
   have HS1:Hid ((Instr.storeAt 136 (.pointer (some ⟨w.heap.size+1,0,none⟩)) (.agg (zaa (pre zah k r).1))).run Tryz.prog wr=.ok () (wr.setRow (w.heap.size+1) (zaa (pre zah k r).1))):=zaq _ _ _ _ HYk.out
   have hld:=zbi (wr.setRow (w.heap.size+1) (zaa (pre zah k r).1)) (w.heap.size+1) _ HYk.out.set
   have HOf:Hid ((wr.setRow (w.heap.size+1) (zaa (pre zah k r).1)).ownsRow w.heap.size 3 1 (.slice fa k fc) k (zal (pre zah k r).2)):=zau (zat hOf HYk.out (by decide)) (by omega)
   have HBf:Hid (Below w.heap.size w (wr.setRow (w.heap.size+1) (zaa (pre zah k r).1))):=zad HBk.out (by omega)
   clear hOf HOk hLf
   go_wp2_with (first | (guard_target =~ wpList _ _ _ (⟨_,Op.load 136 _,_,_,_,_⟩::_) _ _;refine zag _ rfl 136 _ rfl _ rfl _ HL1.out ?_;go_simp) | (guard_target =~ wpList _ _ _ (⟨_,Op.store 136 _ _,_,_,_,_⟩::_) _ _;refine zaf _ _ rfl 136 _ _ rfl _ _ rfl rfl HS1.out ?_;go_simp))
   refine bodyPost_ret (zea _ _ 4 136 5 _ _ _ _ rfl rfl rfl hld) rfl ?_
   exact ⟨fa,fc,rfl,HOf,HBf⟩
def FarL (N:Nat) (r:Rd) (k:Nat) (rk:Rd) (ys:List Lt):Prop:=zbf N r=((zbf (N-k) rk).1,ys++(zbf (N-k) rk).2)
theorem zep {rk:Rd} (h:rk.e=0) (n:Nat):zbf (n+1) rk=((zbf n (za9 rk).1).1,(za9 rk).2::(zbf n (za9 rk).1).2):=by show (if rk.e≠0 then _ else _)=_;rw [if_neg (by simpa using h)]
theorem zeq {rk:Rd} (h:rk.e≠0) (n:Nat):zbf n rk=(rk,[]):=by
 cases n with
 | zero=>rfl
 | succ n=>show (if rk.e≠0 then _ else _)=_;rw [if_pos h]
theorem FarL.step {N:Nat} {r rk:Rd} {k:Nat} {ys:List Lt} (h:FarL N r k rk ys) (hk:k<N) (h0:rk.e=0):FarL N r (k+1) (za9 rk).1 (ys++[(za9 rk).2]):=by
 unfold FarL at h ⊢
 rw [h,show N-k=(N-(k+1))+1 by omega,zep h0]
 simp
theorem FarL.fin {N:Nat} {r rk:Rd} {k:Nat} {ys:List Lt} (h:FarL N r k rk ys) (hk:k=N∨rk.e≠0):zbf N r=(rk,ys):=by
 unfold FarL at h
 rcases hk with rfl | hk
 ·rw [h,Nat.sub_self];show (rk,ys++[])=_;rw [List.append_nil]
 ·rw [h,zeq hk];show (rk,ys++[])=_;rw [List.append_nil]
theorem zjf (N:Nat) (hN:N≤100) (r:Rd) (hs:Sm r) (w:World):Calls Tryz.prog 95 #[.agg (zaa r),.int .i64 N] w (QL 32 2 (zbf N r).2.length (zav (zbf N r).2) (zbf N r).1 w):=by
  have HS0:Hid (Sm r):=hs
  clear hs
  have HZ0:Hid (Bx ((w.alloc (.cells (zaa r) 136)).alloc (.cells (zaa ⟨[],0,0⟩) 136)) w.heap.size (zaa r) 136):=(Bx.new w _ _).keep (zab _ _)
  have HO0:Hid (Bx ((w.alloc (.cells (zaa r) 136)).alloc (.cells (zaa ⟨[],0,0⟩) 136)) (w.heap.size+1) (zaa ⟨[],0,0⟩) 136):=by have:=Bx.new (w.alloc (.cells (zaa r) 136)) (zaa ⟨[],0,0⟩) 136;rwa [zan] at this
  have HB0:Hid (Below w.heap.size w ((w.alloc (.cells (zaa r) 136)).alloc (.cells (zaa ⟨[],0,0⟩) 136))):=bt (zab w _) (zab _ _)
  have hsz0:w.heap.size+2≤((w.alloc (.cells (zaa r) 136)).alloc (.cells (zaa ⟨[],0,0⟩) 136)).heap.size:=by rw [zan,zan];omega
  go_enter Tryz.func95,Tryz.ntmps95
  go_upto_region 1 with fail
  show Code.wp _ _ _ _ ((w.alloc (.cells (zaa r) 136)).alloc (.cells (zaa ⟨[],0,0⟩) 136))
  generalize ((w.alloc (.cells (zaa r) 136)).alloc (.cells (zaa ⟨[],0,0⟩) 136))=w1 at *
  go_wp2_with fail
  go_loopw [6,7] (fun v i wr=>∃(k:Nat) (rk:Rd) (ys:List Lt),i=.int .i64 k∧k≤N∧ys.length≤k∧Hid (FarL N r k rk ys)∧Hid (Sm rk)∧Hid (wr.ownsRow (w.heap.size+2) 32 2 v ys.length (zav ys))∧Hid (Bx wr w.heap.size (zaa rk) 136)∧Hid (Bx wr (w.heap.size+1) (zaa ⟨[],0,0⟩) 136)∧Hid (Below w.heap.size w wr)∧w.heap.size+2≤wr.heap.size) (fun _ i _=>N-(Lib.intOf i).toNat)
  case atStart=>exact ⟨0,r,[],rfl,Nat.zero_le _,Nat.zero_le _,by unfold Hid FarL;simp,HS0,World.ownsRow_nil _ _ _ _,HZ0,HO0,HB0,hsz0⟩
  case round=>
    clear HZ0 HO0 HB0 hsz0
    obtain ⟨k,rk,ys,rfl,hk,hyk,HF,HSk,HOk,HZk,HYk,HBk,hszk⟩:=hrel
    have c2:wr.cell? ⟨w.heap.size,2,none⟩=some (.int .i64 rk.e):=HZk.out.cell 2
    by_cases hgo:k<N∧rk.e=0
    · have hkz : (k : Int) < (N : Int) := by omega
      have hez:((rk.e:Int)==0)=true:=by rw [hgo.2];rfl
      have HF2:Hid (FarL N r (k+1) (za9 rk).1 (ys++[(za9 rk).2])):=HF.out.step hgo.1 hgo.2
      have HS2:Hid (Sm (za9 rk).1):=Sm.fw zqd HSk.out
      have HSt:Hid (Sm (za4 rk 12).1):=Sm.fw (zcf 12) HSk.out
      have HC1:Hid (∀W,Calls Tryz.prog 91 #[.agg (zaa rk),.int .i64 12] W (QP (.string ⟨(za9 rk).2.i.toArray⟩) (za4 rk 12).1 W)):=fun W=>zee ⟨by decide,by decide⟩ rfl HSk.out W
      have HC2:Hid (∀W,Calls Tryz.prog 61 #[.agg (zaa (za4 rk 12).1)] W (QP (.int .i64 (za9 rk).2.q) (za9 rk).1 W)):=fun W=>zei rfl HSt.out W
      generalize (za9 rk).1=r2 at *
      generalize (za9 rk).2=y at *
      generalize (za4 rk 12).1=rt at *
      clear HF HSt
      have HL1:Hid ((Instr.loadAt 136 (.pointer (some ⟨w.heap.size,0,none⟩))).run Tryz.prog wr=.ok (.agg (zaa rk)) wr):=za2 _ _ _ HZk.out
      go_wp2_with (guard_target =~ wpList _ _ _ (⟨_,Op.load 136 _,_,_,_,_⟩::_) _ _;refine zag _ rfl 136 _ rfl _ rfl _ HL1.out ?_;go_simp)
      refine (HC1.out _).mono ?_
      rintro e w2 ⟨rfl,hb2⟩
      have HZ2:Hid (Bx w2 w.heap.size (zaa rk) 136):=HZk.out.keep hb2.out
      have HY2:Hid (Bx w2 (w.heap.size+1) (zaa ⟨[],0,0⟩) 136):=HYk.out.keep hb2.out
      have HO2:Hid (w2.ownsRow (w.heap.size+2) 32 2 u6 ys.length (zav ys)):=zax HOk.out hb2.out
      have HB2:Hid (Below w.heap.size w w2):=bt HBk.out hb2.out
      have hs2:w.heap.size+2≤w2.heap.size:=Nat.le_trans hszk hb2.out.size
      clear hb2 HZk HYk HOk HBk HL1 HC1 c2
      have HST:Hid ((Instr.storeAt 136 (.pointer (some ⟨w2.heap.size,0,none⟩)) (.agg (zaa rt))).run Tryz.prog (w2.alloc (.cells (zaa ⟨[],0,0⟩) 136))=.ok () ((w2.alloc (.cells (zaa ⟨[],0,0⟩) 136)).setRow w2.heap.size (zaa rt))):=zaq _ _ _ _ (Bx.new _ _ _)
      have HZ3:Hid (Bx ((w2.alloc (.cells (zaa ⟨[],0,0⟩) 136)).setRow w2.heap.size (zaa rt)) w.heap.size (zaa rk) 136):=(HZ2.out.keep (zab _ _)).other (by omega)
      have HY3:Hid (Bx ((w2.alloc (.cells (zaa ⟨[],0,0⟩) 136)).setRow w2.heap.size (zaa rt)) (w.heap.size+1) (zaa ⟨[],0,0⟩) 136):=(HY2.out.keep (zab _ _)).other (by omega)
      have HN3:Hid (Bx ((w2.alloc (.cells (zaa ⟨[],0,0⟩) 136)).setRow w2.heap.size (zaa rt)) w2.heap.size (zaa rt) 136):=Bx.set (Bx.new _ _ _)
      have HO3:Hid (((w2.alloc (.cells (zaa ⟨[],0,0⟩) 136)).setRow w2.heap.size (zaa rt)).ownsRow (w.heap.size+2) 32 2 u6 ys.length (zav ys)):=zat (zax HO2.out (zab _ _)) (Bx.new _ _ _) (by decide)
      have HB3:Hid (Below w.heap.size w ((w2.alloc (.cells (zaa ⟨[],0,0⟩) 136)).setRow w2.heap.size (zaa rt))):=zad (bt HB2.out (zab _ _)) (by omega)
      have hs3:w.heap.size+2≤((w2.alloc (.cells (zaa ⟨[],0,0⟩) 136)).setRow w2.heap.size (zaa rt)).heap.size:=by rw [setRow_size,zan];omega
      clear HZ2 HY2 HO2 HB2
      generalize hw3:(w2.alloc (.cells (zaa ⟨[],0,0⟩) 136)).setRow w2.heap.size (zaa rt)=w3 at *
      go_upto_region 6 with (guard_target =~ wpList _ _ _ (⟨_,Op.store 136 _ _,_,_,_,_⟩::_) _ _;refine zaf _ _ rfl 136 _ _ rfl _ _ rfl rfl HST.out ?_;go_simp)
      clear HST hw3
      generalize w2.heap.size=p8 at *
      have HL3:Hid ((Instr.loadAt 136 (.pointer (some ⟨p8,0,none⟩))).run Tryz.prog w3=.ok (.agg (zaa rt)) w3):=za2 _ _ _ HN3.out
      go_wp2_with (guard_target =~ wpList _ _ _ (⟨_,Op.load 136 _,_,_,_,_⟩::_) _ _;refine zag _ rfl 136 _ rfl _ rfl _ HL3.out ?_;go_simp)
      refine (HC2.out _).mono ?_
      rintro e w4 ⟨rfl,hb4⟩
      have HZ4:Hid (Bx w4 w.heap.size (zaa rk) 136):=HZ3.out.keep hb4.out
      have HY4:Hid (Bx w4 (w.heap.size+1) (zaa ⟨[],0,0⟩) 136):=HY3.out.keep hb4.out
      have HO4:Hid (w4.ownsRow (w.heap.size+2) 32 2 u6 ys.length (zav ys)):=zax HO3.out hb4.out
      have HB4:Hid (Below w.heap.size w w4):=bt HB3.out hb4.out
      have hs4:w.heap.size+2≤w4.heap.size:=Nat.le_trans hs3 hb4.out.size
      clear hb4 HZ3 HY3 HN3 HO3 HB3 HL3 HC2
      have HST:Hid ((Instr.storeAt 136 (.pointer (some ⟨w4.heap.size,0,none⟩)) (.agg (zaa r2))).run Tryz.prog (w4.alloc (.cells (zaa ⟨[],0,0⟩) 136))=.ok () ((w4.alloc (.cells (zaa ⟨[],0,0⟩) 136)).setRow w4.heap.size (zaa r2))):=zaq _ _ _ _ (Bx.new _ _ _)
      have HZ5:Hid (Bx ((w4.alloc (.cells (zaa ⟨[],0,0⟩) 136)).setRow w4.heap.size (zaa r2)) w.heap.size (zaa rk) 136):=(HZ4.out.keep (zab _ _)).other (by omega)
      have HY5:Hid (Bx ((w4.alloc (.cells (zaa ⟨[],0,0⟩) 136)).setRow w4.heap.size (zaa r2)) (w.heap.size+1) (zaa ⟨[],0,0⟩) 136):=(HY4.out.keep (zab _ _)).other (by omega)
      have HN5:Hid (Bx ((w4.alloc (.cells (zaa ⟨[],0,0⟩) 136)).setRow w4.heap.size (zaa r2)) w4.heap.size (zaa r2) 136):=Bx.set (Bx.new _ _ _)
      have HO5:Hid (((w4.alloc (.cells (zaa ⟨[],0,0⟩) 136)).setRow w4.heap.size (zaa r2)).ownsRow (w.heap.size+2) 32 2 u6 ys.length (zav ys)):=zat (zax HO4.out (zab _ _)) (Bx.new _ _ _) (by decide)
      have HB5:Hid (Below w.heap.size w ((w4.alloc (.cells (zaa ⟨[],0,0⟩) 136)).setRow w4.heap.size (zaa r2))):=zad (bt HB4.out (zab _ _)) (by omega)
      have hs5:w.heap.size+2≤((w4.alloc (.cells (zaa ⟨[],0,0⟩) 136)).setRow w4.heap.size (zaa r2)).heap.size:=by rw [setRow_size,zan];omega
      clear HZ4 HY4 HO4 HB4
      generalize hw5:(w4.alloc (.cells (zaa ⟨[],0,0⟩) 136)).setRow w4.heap.size (zaa r2)=w5 at *
      go_upto_region 7 with (guard_target =~ wpList _ _ _ (⟨_,Op.store 136 _ _,_,_,_,_⟩::_) _ _;refine zaf _ _ rfl 136 _ _ rfl _ _ rfl rfl HST.out ?_;go_simp)
      clear HST hw5
      generalize w4.heap.size=p10 at *
      obtain ⟨v',w6,hr6,ho6,hg6⟩:=zix HO5.out hs5 y (by omega)
      have HR6:Hid _:=hr6
      have hO5a:=zax HO5.out (zab w5 (.cells #[.string ⟨y.i.toArray⟩,.int .i64 y.q] 32))
      have HZ6:Hid (Bx w6 w.heap.size (zaa rk) 136):=(HZ5.out.keep (zab _ _)).grown hO5a (by decide) hg6
      have HY6:Hid (Bx w6 (w.heap.size+1) (zaa ⟨[],0,0⟩) 136):=(HY5.out.keep (zab _ _)).grown hO5a (by decide) hg6
      have HN6:Hid (Bx w6 p10 (zaa r2) 136):=(HN5.out.keep (zab _ _)).grown hO5a (by decide) hg6
      have hbw:Below (w.heap.size+2) w5 w6:=((Below.refl (w.heap.size+2) w5).alloc hs5 _).grown hg6 (by rw [zan];omega) (fun j hj=>(HO5.out.lt j hj).1)
      have HB6:Hid (Below w.heap.size w w6):=HB5.out.trans (hbw.mono (by omega))
      have hs6:w.heap.size+2≤w6.heap.size:=Nat.le_trans hs5 hbw.size
      have HO6:Hid (w6.ownsRow (w.heap.size+2) 32 2 v' (ys++[y]).length (zav (ys++[y]))):=ho6
      have hyl:(ys++[y]).length≤k+1:=by rw [List.length_append];show ys.length+1≤_;omega
      clear hr6 ho6 hg6 hO5a hbw HZ5 HY5 HN5 HO5 HB5
      generalize ys++[y]=Y1 at *
      go_upto_region 8 with (at_builtin;refine Lib.wpList_append_run _ rfl _ _ 33 33 rfl _ _ rfl rfl _ w6 HR6.out ?_)
      clear HR6
      have HL6:Hid ((Instr.loadAt 136 (.pointer (some ⟨p10,0,none⟩))).run Tryz.prog w6=.ok (.agg (zaa r2)) w6):=za2 _ _ _ HN6.out
      have HS6:Hid ((Instr.storeAt 136 (.pointer (some ⟨w.heap.size,0,none⟩)) (.agg (zaa r2))).run Tryz.prog w6=.ok () (w6.setRow w.heap.size (zaa r2))):=zaq _ _ _ _ HZ6.out
      have HZ7:Hid (Bx (w6.setRow w.heap.size (zaa r2)) w.heap.size (zaa r2) 136):=HZ6.out.set
      have HY7:Hid (Bx (w6.setRow w.heap.size (zaa r2)) (w.heap.size+1) (zaa ⟨[],0,0⟩) 136):=HY6.out.other (by omega)
      have HO7:Hid ((w6.setRow w.heap.size (zaa r2)).ownsRow (w.heap.size+2) 32 2 v' Y1.length (zav Y1)):=zat HO6.out HZ6.out (by decide)
      have HB7:Hid (Below w.heap.size w (w6.setRow w.heap.size (zaa r2))):=zad HB6.out (Nat.le_refl _)
      have hs7:w.heap.size+2≤(w6.setRow w.heap.size (zaa r2)).heap.size:=by rw [setRow_size];exact hs6
      clear HZ6 HY6 HN6 HO6 HB6
      generalize hw7:w6.setRow w.heap.size (zaa r2)=w7 at *
      go_wp2_with (first | (guard_target =~ wpList _ _ _ (⟨_,Op.load 136 _,_,_,_,_⟩::_) _ _;refine zag _ rfl 136 _ rfl _ rfl _ HL6.out ?_;go_simp) | (guard_target =~ wpList _ _ _ (⟨_,Op.store 136 _ _,_,_,_,_⟩::_) _ _;refine zaf _ _ rfl 136 _ _ rfl _ _ rfl rfl HS6.out ?_;go_simp))
      exact ⟨⟨k+1,r2,Y1,by go_num,by omega,hyl,HF2.out,HS2.out,HO7.out,HZ7.out,HY7.out,HB7.out,hs7⟩,by simp [Lib.intOf];omega⟩
    · have hfin : zbf N r = (rk, ys) := HF.out.fin (by
        rcases Nat.eq_or_lt_of_le hk with h | h
        · exact .inl h
        · right;intro h0;exact hgo ⟨h,h0⟩)
      have hOf:=HOk.out
      obtain ⟨fa,fc,hv⟩:=zc4 hOf
      subst hv
      have HL1:Hid ((Instr.loadAt 136 (.pointer (some ⟨w.heap.size,0,none⟩))).run Tryz.prog wr=.ok (.agg (zaa rk)) wr):=za2 _ _ _ HZk.out
      have HS1:Hid ((Instr.storeAt 136 (.pointer (some ⟨w.heap.size+1,0,none⟩)) (.agg (zaa rk))).run Tryz.prog wr=.ok () (wr.setRow (w.heap.size+1) (zaa rk))):=zaq _ _ _ _ HYk.out
      have hld:=zbi (wr.setRow (w.heap.size+1) (zaa rk)) (w.heap.size+1) _ HYk.out.set
      have HOf:Hid ((wr.setRow (w.heap.size+1) (zaa rk)).ownsRow w.heap.size 32 2 (.slice fa ys.length fc) ys.length (zav ys)):=zau (zat hOf HYk.out (by decide)) (by omega)
      have HBf:Hid (Below w.heap.size w (wr.setRow (w.heap.size+1) (zaa rk))):=zad HBk.out (by omega)
      have HFin:Hid (zbf N r=(rk,ys)):=hfin
      clear hOf HOk hfin HF
      by_cases hkn:k<N
      · have hkz : (k : Int) < (N : Int) := by omega
        have hez:((rk.e:Int)==0)=false:=by rw [beq_eq_false_iff_ne];intro h;exact hgo ⟨hkn,by omega⟩
        clear hgo
        go_wp2_with (first | (guard_target =~ wpList _ _ _ (⟨_,Op.load 136 _,_,_,_,_⟩::_) _ _;refine zag _ rfl 136 _ rfl _ rfl _ HL1.out ?_;go_simp) | (guard_target =~ wpList _ _ _ (⟨_,Op.store 136 _ _,_,_,_,_⟩::_) _ _;refine zaf _ _ rfl 136 _ _ rfl _ _ rfl rfl HS1.out ?_;go_simp))
        refine bodyPost_ret (zea _ _ 4 136 5 _ _ _ _ rfl rfl rfl hld) rfl ?_
        unfold QL
        rw [HFin.out]
        exact ⟨fa,fc,rfl,HOf,HBf⟩
      · have hkz : ¬ (k : Int) < (N : Int) := by omega
        clear hgo
        go_wp2_with (first | (guard_target =~ wpList _ _ _ (⟨_,Op.load 136 _,_,_,_,_⟩::_) _ _;refine zag _ rfl 136 _ rfl _ rfl _ HL1.out ?_;go_simp) | (guard_target =~ wpList _ _ _ (⟨_,Op.store 136 _ _,_,_,_,_⟩::_) _ _;refine zaf _ _ rfl 136 _ _ rfl _ _ rfl rfl HS1.out ?_;go_simp))
        refine bodyPost_ret (zea _ _ 4 136 5 _ _ _ _ rfl rfl rfl hld) rfl ?_
        unfold QL
        rw [HFin.out]
        exact ⟨fa,fc,rfl,HOf,HBf⟩
structure Sq (w:World) (r:Rd) (A:Array Value) (W:World):Prop where
 z:Bx W w.heap.size (zaa r) 136
 b:Bx W (w.heap.size+1) A 35
 y:Bx W (w.heap.size+2) (zaa ⟨[],0,0⟩) 136
 v:Bx W (w.heap.size+3) (mcs Mg.z none none none none 0 0 0 0) 35
 c:Below w.heap.size w W
theorem Sq.keep {w W W2:World} {r:Rd} {A:Array Value} (h:Sq w r A W) (hb:Below W.heap.size W W2):Sq w r A W2:=⟨h.z.keep hb,h.b.keep hb,h.y.keep hb,h.v.keep hb,bt h.c hb⟩
theorem Sq.drewN {w W:World} {r:Rd} {A:Array Value} (h:Sq w r A W) (n:Nat):Sq w r A (W.drewN n):=⟨h.z,h.b,h.y,h.v,zef h.c n⟩
theorem Sq.putZ {w W:World} {r:Rd} {A:Array Value} (h:Sq w r A W) (x:Rd):Sq w x A (W.setRow w.heap.size (zaa x)):=⟨h.z.set,h.b.other (by omega),h.y.other (by omega),h.v.other (by omega),zad h.c (Nat.le_refl _)⟩
theorem Sq.putB {w W:World} {r:Rd} {A C:Array Value} (h:Sq w r A W) (j:Nat) (u:Value) (e:A.setIfInBounds j u=C):Sq w r C (W.setCell ⟨w.heap.size+1,j,none⟩ u):=by
 subst e
 exact ⟨h.z.cellOther (by omega) u,h.b.cellSet u,h.y.cellOther (by omega) u,h.v.cellOther (by omega) u,h.c.trans ((Bt.set _ _ j u).below (by omega) h.c.size)⟩
theorem Sq.putC {w W:World} {r:Rd} {A C:Array Value} (h:Sq w r A W) (o:Nat) (vs:List Value) (e:zmz A o vs=C):Sq w r C (W.setCells (w.heap.size+1) o vs):=by
 subst e
 exact ⟨Bx.cellsOther (by omega) _ _ _ h.z,Bx.cellsSet _ _ _ _ h.b,Bx.cellsOther (by omega) _ _ _ h.y,Bx.cellsOther (by omega) _ _ _ h.v,h.c.trans ((Bt.cells _ _ _).below (by omega) h.c.size)⟩
theorem Sq.lt {w W:World} {r:Rd} {A:Array Value} (h:Sq w r A W):w.heap.size+4≤W.heap.size:=h.v.lt
theorem Sq.new (w:World) (r:Rd) (A:Array Value):Sq w r A ((((w.alloc (.cells (zaa r) 136)).alloc (.cells A 35)).alloc (.cells (zaa ⟨[],0,0⟩) 136)).alloc (.cells (mcs Mg.z none none none none 0 0 0 0) 35)):=by
 have e1:(w.alloc (.cells (zaa r) 136)).heap.size=w.heap.size+1:=zan _ _
 have e2:((w.alloc (.cells (zaa r) 136)).alloc (.cells A 35)).heap.size=w.heap.size+2:=by rw [zan,e1]
 have e3:(((w.alloc (.cells (zaa r) 136)).alloc (.cells A 35)).alloc (.cells (zaa ⟨[],0,0⟩) 136)).heap.size=w.heap.size+3:=by rw [zan,e2]
 refine ⟨(((Bx.new w _ _).keep (zab _ _)).keep (zab _ _)).keep (zab _ _),?_,?_,?_,bt (bt (bt (zab w _) (zab _ _)) (zab _ _)) (zab _ _)⟩
 ·have h:=Bx.new (w.alloc (.cells (zaa r) 136)) A 35
  rw [e1] at h
  exact (h.keep (zab _ _)).keep (zab _ _)
 ·have h:=Bx.new ((w.alloc (.cells (zaa r) 136)).alloc (.cells A 35)) (zaa ⟨[],0,0⟩) 136
  rw [e2] at h
  exact h.keep (zab _ _)
 ·have h:=Bx.new (((w.alloc (.cells (zaa r) 136)).alloc (.cells A 35)).alloc (.cells (zaa ⟨[],0,0⟩) 136)) (mcs Mg.z none none none none 0 0 0 0) 35
  rw [e3] at h
  exact h
theorem zbp {B e sz n:Nat} {w:World} {a:Option Addr} {c:Nat} {xs:List Value} (h:w.ownsRow B e sz (.slice a n c) n xs) (hn:0<n):∃g,a=some ⟨g,0,none⟩:=by
 rcases h.2 with ⟨_,h0⟩ | ⟨g,cap,cur,hv,_⟩
 ·omega
 ·injection hv with hv _ _;exact ⟨g,hv⟩
theorem zbe {B:Nat} {w:World} {g c n:Nat} {xs:List Int} (h:w.ownsRow B 3 1 (.slice (some ⟨g,0,none⟩) n c) n (zal xs)) (j:Nat) {x:Int} (hj:xs[j]? = some x):w.cell? ⟨g,j,none⟩=some (.int .i64 x):=by
 rcases h.2 with ⟨hv,_⟩ | ⟨g2,cap,cur,hv,hB,hg,_,_,_,ht⟩
 ·cases hv
 ·injection hv with hv _ _
  injection hv with hv
  injection hv with hv _ _
  subst hv
  rw [cell_of_row w g j _ 3 (0,0) hg,← Array.getElem?_toList]
  have hx:(zal xs)[j]? = some (.int .i64 x):=by unfold zal;rw [List.getElem?_map,hj];rfl
  rw [← ht,List.getElem?_take] at hx
  split at hx
  ·exact hx
  ·cases hx
theorem zbu (W:World) (b j:Nat) (y:Int) (old:Value) (hc:W.cell? ⟨b,j,none⟩=some old) (hf:W.frozen? ⟨b,j,none⟩=false):(Instr.storeAt 3 (.pointer (some ⟨b,j,none⟩)) (.int .i64 y)).run Tryz.prog W=.ok () (W.setCell ⟨b,j,none⟩ (.int .i64 y)):=by
 go_simp
theorem za3 {P:Program} (fn:Func) (tmps:Array Value) (a t b u:Nat) (ad bd:Addr) (v x:Value) (w:World) (hf:fn.results=#[.cell a t,.cell b u]) (ht:tmps.getD a undef=.pointer (some ad)) (hu:tmps.getD b undef=.pointer (some bd)) (hl:(loadVar t ad).run P w=.ok v w) (hm:(loadVar u bd).run P w=.ok x w):(results fn tmps).run P w=.ok (.tuple #[v,x]) w:=by
 have ht2:tmps[a]?.getD undef=.pointer (some ad):=by simpa using ht
 have hu2:tmps[b]?.getD undef=.pointer (some bd):=by simpa using hu
 simp [results,hf,ht2,hu2,asAddr,hl,hm]
def RdP (r:Rd) (A:Array Value) (w:World) (e:Ending) (w':World):Prop:=e=.returned (.tuple #[.agg (zaa r),.agg A])∧Hid (Below w.heap.size w w')
theorem zdn {r r1 r2:Rd} {y0 y1:Int} (h0:zah r=(r1,y0)) (h1:zah r1=(r2,y1)) (hs:Sm r) (w:World):Calls Tryz.prog 92 #[.agg (zaa r),.int .i64 2] w (QL 3 1 2 (zal [y0,y1]) r2 w):=by
 have h:=zkx 2 (by omega) r hs w
 have e:pre zah 2 r=(r2,[y0,y1]):=by simp [pre,h0,h1]
 rw [e] at h
 exact h
theorem ze8 {r r1 r2 r3:Rd} {y0 y1 y2:Int} (h0:zah r=(r1,y0)) (h1:zah r1=(r2,y1)) (h2:zah r2=(r3,y2)) (hs:Sm r) (w:World):Calls Tryz.prog 92 #[.agg (zaa r),.int .i64 3] w (QL 3 1 3 (zal [y0,y1,y2]) r3 w):=by
 have h:=zkx 3 (by omega) r hs w
 have e:pre zah 3 r=(r3,[y0,y1,y2]):=by simp [pre,h0,h1,h2]
 rw [e] at h
 exact h
theorem zpt {r r1 r2 r3 r4 r5 r6 r7 r8:Rd} {y0 y1 y2 y3 y4 y5 y6 y7:Int} (h0:zah r=(r1,y0)) (h1:zah r1=(r2,y1)) (h2:zah r2=(r3,y2)) (h3:zah r3=(r4,y3)) (h4:zah r4=(r5,y4)) (h5:zah r5=(r6,y5)) (h6:zah r6=(r7,y6)) (h7:zah r7=(r8,y7)) (hs:Sm r) (w:World):Calls Tryz.prog 92 #[.agg (zaa r),.int .i64 8] w (QL 3 1 8 (zal [y0,y1,y2,y3,y4,y5,y6,y7]) r8 w):=by
 have h:=zkx 8 (by omega) r hs w
 have e:pre zah 8 r=(r8,[y0,y1,y2,y3,y4,y5,y6,y7]):=by simp [pre,h0,h1,h2,h3,h4,h5,h6,h7]
 rw [e] at h
 exact h
end Go.Proofs.YtdmlgheajblcdaaGreat
