/- NewReader, Int, above, Count, Bool, End, Text. -/
import Derived.Test.YtdmlgheajblcdaaGreatD01
import Derived.Test.YtdmlgheajblcdaaGreatShelf
import Derived.Lib.IndexBytes
namespace Go.Proofs.YtdmlgheajblcdaaGreat
set_option maxHeartbeats 16000000
set_option maxRecDepth 100000
open Go.RowKit
set_option linter.unusedVariables false
set_option linter.unusedSimpArgs false
theorem zk3 (s:ByteArray) (hs:s.size≤281474976710656) (w:World):Calls Tryz.prog 78 #[.string s] w fun e w'=>e=.returned (.string s)∧Below w.heap.size w w':=by
 have H:Hid (∀w,Calls Tryz.prog 107 #[.string s] w fun e w'=>e=.returned (.string s)∧Below w.heap.size w w'):=fun w=>Tryz.stringslite_Clone s w hs
 go_enter Tryz.func78,Tryz.ntmps78
 go_wp2_with fail
 refine (H.out _).mono ?_
 rintro e w1 ⟨rfl,hb⟩
 have HB:Hid (Below w.heap.size w w1):=hb
 clear hb
 go_wp2_with fail
 go_ret
 exact ⟨rfl,HB.out⟩
def NwP (l:List UInt8) (w:World) (e:Ending) (w':World):Prop:=∃q,e=.returned (.pointer (some ⟨q,0,none⟩))∧w.heap.size≤q∧Hid (Rm w' q ⟨l,0,0⟩)∧Hid (Below w.heap.size w w')
theorem zqn (s:ByteArray) (hs:s.size≤281474976710656) (w:World):Calls Tryz.prog 55 #[.string s] w (NwP s.data.toList w):=by
 have H:Hid (∀w,Calls Tryz.prog 78 #[.string s] w fun e w'=>e=.returned (.string s)∧Below w.heap.size w w'):=fun w=>zk3 s hs w
 have HS:Hid (s.size≤281474976710656):=hs
 clear hs
 go_enter Tryz.func55,Tryz.ntmps55
 go_wp2_with fail
 refine (H.out _).mono ?_
 rintro e w1 ⟨rfl,hb⟩
 have HB:Hid (Below w.heap.size w w1):=hb
 clear hb
 go_wp2_with fail
 go_ret
 refine ⟨w1.heap.size,rfl,HB.out.size,⟨heap_alloc_new w1 _,?_,Nat.zero_le _⟩,HB.out.alloc HB.out.size _⟩
 have:=HS.out
 show s.size≤_
 omega
theorem zu0 (x:Nat) (hx:x<9223372036854775808):bits .xor .i64 (-1) (x:Int) = -1-(x:Int):=by
 show IntKind.i64.wrap ((BitVec.ofInt 64 (-1) ^^^ BitVec.ofInt 64 (x:Int)).toNat:Int)=_
 have e1:BitVec.ofInt 64 (-1)=BitVec.allOnes 64:=by decide
 rw [e1,BitVec.allOnes_xor,BitVec.toNat_not,BitVec.ofInt_natCast,BitVec.toNat_ofNat,Nat.mod_eq_of_lt (by omega),IntKind.wrap_i64]
 omega
theorem zqo (x:Nat) (hx:x<18446744073709551616):bits .xor .u64 IntKind.u64.max (x:Int)=((18446744073709551615-x:Nat):Int):=by
 show IntKind.u64.wrap ((BitVec.ofInt 64 (18446744073709551615) ^^^ BitVec.ofInt 64 (x:Int)).toNat:Int)=_
 have e1:BitVec.ofInt 64 (18446744073709551615)=BitVec.allOnes 64:=by decide
 rw [e1,BitVec.allOnes_xor,BitVec.toNat_not,BitVec.ofInt_natCast,BitVec.toNat_ofNat,Nat.mod_eq_of_lt (by omega),IntKind.wrap_u64]
 omega
theorem zhp (u:Nat) (hu:u<18446744073709551616):bits .and .u64 (u:Int) 1=((u % 2:Nat):Int):=by
 have:=u64_and_nat u 1 hu (by omega)
 rw [Nat.and_one_is_mod] at this
 exact this
theorem zqp {u:Nat} (h:u % 2=1):un u = -1-((u / 2:Nat):Int):=if_pos h
theorem znc {u:Nat} (h:¬ u % 2=1):un u=((u / 2:Nat):Int):=if_neg h
theorem zfz {r:Rd} (hl:r.at_≤r.s.length):(zas r).2<18446744073709551616:=by
 rw [zd2]
 split
 ·exact (zde hl).1
 ·show 0<_;omega
theorem zk4 (q:Nat) (r:Rd) (w:World) (h:Rm w q r):Calls Tryz.prog 57 #[.pointer (some ⟨q,0,none⟩)] w (RP q (.int .i64 (zah r).2) (zah r).1 w):=by
 have HX:Hid (Calls Tryz.prog 88 #[.pointer (some ⟨q,0,none⟩)] w (RP q (.int .u64 (zas r).2) (zas r).1 w)):=zuz q r w h
 have hu:=zfz h.le
 have HI:Hid ((zah r).2=un (zas r).2∧(zah r).1=(zas r).1):=⟨rfl,rfl⟩
 clear h
 generalize (zas r).2=u at *
 by_cases h2:u % 2=1
 ·have ha:bits .and .u64 (u:Int) 1=1:=by rw [zhp u hu,h2];rfl
  have HU:Hid (un u = -1-((u / 2:Nat):Int)):=zqp h2
  have HX2:Hid (bits .xor .i64 (-1) ((u:Int) / 2) = -1-((u / 2:Nat):Int)):=zu0 (u / 2) (by omega)
  clear h2
  go_enter Tryz.func57,Tryz.ntmps57
  go_wp2_with fail
  refine HX.out.mono ?_
  rintro e w1 ⟨rfl,HR1,HB1⟩
  go_wp2_with fail
  go_ret
  exact RP.mk (by rw [HI.out.1,HU.out,← HX2.out];rfl) (by rw [HI.out.2];exact HR1.out) HB1.out
 ·have ha:bits .and .u64 (u:Int) 1=0:=by rw [zhp u hu,show u % 2=0 by omega];rfl
  have HU:Hid (un u=((u / 2:Nat):Int)):=znc h2
  clear h2
  go_enter Tryz.func57,Tryz.ntmps57
  go_wp2_with fail
  refine HX.out.mono ?_
  rintro e w1 ⟨rfl,HR1,HB1⟩
  go_wp2_with fail
  go_ret
  exact RP.mk (by rw [HI.out.1,HU.out];rfl) (by rw [HI.out.2];exact HR1.out) HB1.out
def BP (b:Bool) (w:World) (e:Ending) (w':World):Prop:=e=.returned (.bool b)∧w=w'
theorem BP.mk {b c:Bool} {w:World} (h:c=b):BP b w (.returned (.bool c)) w:=⟨by rw [h],rfl⟩
theorem zk5 (n:Nat) (hn:n<18446744073709551616) (m:Int) (hm:I64 m) (w:World):Calls Tryz.prog 109 #[.int .u64 n,.int .i64 m] w (BP (decide (m<(n:Int))) w):=by
 obtain ⟨h1,h2⟩:=hm
 by_cases h0:m<0
 ·have HD:Hid (decide (m<(n:Int))=true):=by unfold Hid;rw [decide_eq_true_iff];omega
  unfold BP
  go_enter Tryz.func109,Tryz.ntmps109
  go_wp2_with fail
  go_ret
  exact ⟨by rw [HD.out];rfl,rfl⟩
 ·have hw:IntKind.u64.wrap m=m:=IntWalk.u64_in m (by omega)
  obtain ⟨b,hb⟩:∃b,b=decide (m<(n:Int)):=⟨_,rfl⟩
  rw [← hb]
  have HD:Hid (b=decide (m<(n:Int))):=hb
  clear hb
  unfold BP
  go_enter Tryz.func109,Tryz.ntmps109
  go_wp2_with fail
  go_ret
  exact ⟨by rw [HD.out];rfl,rfl⟩
theorem Rm.fl {w w':World} {q:Nat} {r:Rd} {e:Nat} (h:Rm w q r) (hw:w'=if r.e=0 then w.setCell ⟨q,3,none⟩ (.int .i64 e) else w):Rm w' q (r.fl e)∧Bt q w w':=by
 unfold Rd.fl
 by_cases he:r.e=0
 ·rw [if_pos he] at hw
  subst hw
  rw [if_pos he]
  exact ⟨h.setE e,Bt.set q w 3 _⟩
 ·rw [if_neg he] at hw
  subst hw
  rw [if_neg he]
  exact ⟨h,Bt.refl q _⟩
theorem xfl (q:Nat) (r:Rd) (e:Nat) (w:World) (h:Rm w q r):Calls Tryz.prog 89 #[.pointer (some ⟨q,0,none⟩),.int .i64 e] w (RP q (.tuple #[]) (r.fl e) w):=
 (zqm q r e w h).mono fun _ _ hh=>⟨hh.1,(h.fl hh.2).1,(h.fl hh.2).2⟩
def cE (t:Nat × Nat × Nat) (m:Int):Nat:=if t.1≠0 then t.1 else if m<(t.2.1:Int) then 2 else 0
theorem zcj (r:Rd) (m:Int):zai r m=if cE (nxt r) m=0 then ({ r with at_:=(nxt r).2.2 },(nxt r).2.1) else (r.fl (cE (nxt r) m),0):=by
 unfold zai cE
 rw [zd2]
 by_cases h:r.e≠0
 ·rw [zdk h,if_neg h]
  simp only [h,ne_eq,not_false_eq_true,if_true,if_false]
  rw [zhg h]
 ·have h0:r.e=0:=by simpa using h
  by_cases h1:(nxt r).1=0
  ·rw [if_pos h1]
   simp only [h0,h1,ne_eq,not_true_eq_false,if_false,gt_iff_lt]
   split<;>simp
  ·rw [if_neg h1]
   simp only [h0,h1,ne_eq,not_false_eq_true,if_true,if_false]
   simp [Rd.fl,h0]
theorem zk6 (q:Nat) (r:Rd) (m:Int) (hm:I64 m) (w:World) (h:Rm w q r):Calls Tryz.prog 112 #[.pointer (some ⟨q,0,none⟩),.int .i64 m] w (RP q (.int .i64 (zai r m).2) (zai r m).1 w):=by
  have HX:Hid (Calls Tryz.prog 108 #[.pointer (some ⟨q,0,none⟩)] w (N3 (nxt r) w)):=znb q r w h
  have HF:Hid (∀(e:Nat) (w1:World),Rm w1 q r→Calls Tryz.prog 89 #[.pointer (some ⟨q,0,none⟩),.int .i64 e] w1 (RP q (.tuple #[]) (r.fl e) w1)):=fun e w1 h=>xfl q r e w1 h
  have hsm:=zde h.le
  have HU:Hid (zai r m=if cE (nxt r) m=0 then ({ r with at_:=(nxt r).2.2 },(nxt r).2.1) else (r.fl (cE (nxt r) m),0)):=zcj r m
  have HR:Hid (Rm w q r):=h
  have hlen:=h.len
  have HA:Hid (∀w,Calls Tryz.prog 109 #[.int .u64 (nxt r).2.1,.int .i64 m] w (BP (decide (m<((nxt r).2.1:Int))) w)):=fun w=>zk5 _ hsm.1 m hm w
  have HM:Hid (I64 m):=hm
  clear h hm
  unfold N3 at HX
  generalize nxt r=t at *
  obtain ⟨t0,t1,t2⟩:=t
  simp only at HX hsm HA
  obtain ⟨d,hd⟩:∃d,d=decide (m<(t1:Int)):=⟨_,rfl⟩
  rw [← hd] at HA
  have HD:Hid (d=decide (m<(t1:Int))):=hd
  clear hd
  by_cases h0:t0=0
  · subst h0
    cases d with
    | false =>
      have hle:(t1:Int)≤m:=by have:=HD.out;simpa using this
      have HC:Hid (cE (0,t1,t2) m=0):=by unfold Hid cE;simp;omega
      rw [if_pos HC.out] at HU
      have ht1:(t1:Int)≤9223372036854775807:=by have:=HM.out.2;omega
      go_enter Tryz.func112,Tryz.ntmps112
      go_wp2_with fail
      refine HX.out.mono ?_
      rintro e w1 ⟨rfl,n,hn⟩
      have HR1:Hid (Rm w1 q r):=by unfold Hid;rw [hn];exact HR.out.drewN n
      have HB1:Hid (Bt q w w1):=by unfold Hid;rw [hn];exact (Bt.refl q w).drewN n
      have c2:w1.cell? ⟨q,2,none⟩=some (.int .i64 r.at_):=HR1.out.cell 2
      have f2:=HR1.out.froz 2
      clear hn
      go_wp2_with ((go_at_call 109;refine (HA.out _).mono ?_;rintro e w3 ⟨rfl,rfl⟩))
      go_ret
      exact RP.mk (by rw [HU.out];rfl) (by rw [HU.out];exact HR1.out.setAt t2 hsm.2) (HB1.out.trans (Bt.set q w1 2 _))
    | true =>
      have hle:m<(t1:Int):=by have:=HD.out;simpa using this
      have HC:Hid (cE (0,t1,t2) m=2):=by unfold Hid cE;simp;omega
      rw [if_neg (by rw [HC.out];omega),HC.out] at HU
      go_enter Tryz.func112,Tryz.ntmps112
      go_wp2_with fail
      refine HX.out.mono ?_
      rintro e w1 ⟨rfl,n,hn⟩
      have HR1:Hid (Rm w1 q r):=by unfold Hid;rw [hn];exact HR.out.drewN n
      have HB1:Hid (Bt q w w1):=by unfold Hid;rw [hn];exact (Bt.refl q w).drewN n
      clear hn
      go_wp2_with ((go_at_call 109;refine (HA.out _).mono ?_;rintro e w3 ⟨rfl,rfl⟩))
      refine (HF.out 2 _ HR1.out).mono ?_
      rintro e w2 ⟨rfl,HR2,HB2⟩
      have HB3:Hid (Bt q w w2):=HB1.out.trans HB2.out
      go_wp2_with fail
      go_ret
      exact RP.mk (by rw [HU.out];rfl) (by rw [HU.out];exact HR2.out) HB3.out
  · have hz : ((t0 : Int) == 0) = false := by rw [beq_eq_false_iff_ne]; omega
    have hz2:((t0:Int) != 0)=true:=by rw [bne_iff_ne];omega
    have HC:Hid (cE (t0,t1,t2) m=t0):=by unfold Hid cE;simp [h0]
    rw [if_neg (by rw [HC.out];exact h0),HC.out] at HU
    go_enter Tryz.func112,Tryz.ntmps112
    go_wp2_with fail
    refine HX.out.mono ?_
    rintro e w1 ⟨rfl,n,hn⟩
    have HR1:Hid (Rm w1 q r):=by unfold Hid;rw [hn];exact HR.out.drewN n
    have HB1:Hid (Bt q w w1):=by unfold Hid;rw [hn];exact (Bt.refl q w).drewN n
    clear hn
    go_wp2_with fail
    refine (HF.out t0 _ HR1.out).mono ?_
    rintro e w2 ⟨rfl,HR2,HB2⟩
    have HB3:Hid (Bt q w w2):=HB1.out.trans HB2.out
    go_wp2_with fail
    go_ret
    exact RP.mk (by rw [HU.out];rfl) (by rw [HU.out];exact HR2.out) HB3.out
theorem zgx {r:Rd} (h0:r.e=0) (h:r.at_=r.s.length):zbn r=(r.fl 14,false):=by
 unfold zbn Rd.fl
 rw [if_neg (by simpa using h0),if_pos h0,h,List.getElem?_eq_none (Nat.le_refl _)]
theorem zgy {r:Rd} (h0:r.e=0) {c:UInt8} (h:r.s[r.at_]? = some c):zbn r=if 1<c.toNat then (r.fl 15,false) else ({ r with at_:=r.at_+1 },c.toNat==1):=by
 unfold zbn Rd.fl
 rw [if_neg (by simpa using h0),if_pos h0,h]
theorem zu1 (q:Nat) (r:Rd) (w:World) (h:Rm w q r):Calls Tryz.prog 87 #[.pointer (some ⟨q,0,none⟩)] w (RP q (.bool (zbn r).2) (zbn r).1 w):=by
 have HE:Hid (∀w,Rm w q r→Calls Tryz.prog 58 #[.pointer (some ⟨q,0,none⟩)] w (NP .i64 r.e w)):=fun w h=>zjw q r w h
 have HF:Hid (∀(e:Nat) (w1:World),Rm w1 q r→Calls Tryz.prog 89 #[.pointer (some ⟨q,0,none⟩),.int .i64 e] w1 (RP q (.tuple #[]) (r.fl e) w1)):=fun e w1 h=>xfl q r e w1 h
 have HR:Hid (Rm w q r):=h
 have c1:w.cell? ⟨q,1,none⟩=some (.string ⟨r.s.toArray⟩):=h.cell 1
 have c2:w.cell? ⟨q,2,none⟩=some (.int .i64 r.at_):=h.cell 2
 have f2:=h.froz 2
 obtain ⟨S,hS⟩:∃S:ByteArray,S=⟨r.s.toArray⟩:=⟨_,rfl⟩
 rw [← hS] at c1
 have hsz:S.size=r.s.length:=by rw [hS];rfl
 have hs:S.size≤9223372036854775807:=by have:=h.len;omega
 have ha:r.at_≤S.size:=by have:=h.le;omega
 have hds:r.s=S.data.toList:=by rw [hS]
 by_cases h0:r.e=0
 ·have hz:((r.e:Int) != 0)=false:=by rw [h0];rfl
  by_cases hl:r.at_=S.size
  ·have HU:Hid (zbn r=(r.fl 14,false)):=zgx h0 (by omega)
   have hlz:((r.at_:Int)==(S.size:Int))=true:=by rw [hl];simp
   clear h hS hsz hds
   go_enter Tryz.func87,Tryz.ntmps87
   go_wp2_with fail
   refine (HE.out _ HR.out).mono ?_
   rintro e w1 ⟨rfl,rfl⟩
   go_wp2_with fail
   go_quiet (fail)
   go_wp2_with fail
   refine (HF.out 14 _ (HR.out.drewN _)).mono ?_
   rintro e w2 ⟨rfl,HR2,HB2⟩
   have HB3:Hid (Bt q w w2):=((Bt.refl q w).drewN _).trans HB2.out
   clear HB2
   go_wp2_with fail
   go_ret
   exact RP.mk (by rw [HU.out];rfl) (by rw [HU.out];exact HR2.out) HB3.out
  ·have hlt:r.at_<S.size:=by omega
   obtain ⟨x,hx⟩:∃x:UInt8,S[r.at_]=x:=⟨_,rfl⟩
   have hxl:=x.toNat_lt
   have hix:∀w:World,(Instr.index 9 (.string S) (.int .i64 r.at_)).run Tryz.prog w=.ok (.int .u8 (x.toNat:Int)) w:=fun w=>zd1 hlt hx rfl w
   have HG:Hid (zbn r=if 1<x.toNat then (r.fl 15,false) else ({ r with at_:=r.at_+1 },x.toNat==1)):=zgy h0 (by
    rw [hds,← hx]
    have h1:r.at_<S.data.toList.length:=hlt
    rw [List.getElem?_eq_getElem h1]
    rfl)
   have hlz:((r.at_:Int)==(S.size:Int))=false:=by rw [beq_eq_false_iff_ne];omega
   have hll:r.at_+1≤r.s.length:=by omega
   clear h hS hsz hds hx hl
   by_cases hc:1<x.toNat
   ·have hcz:(1:Int)<(x.toNat:Int):=by omega
    rw [if_pos hc] at HG
    go_enter Tryz.func87,Tryz.ntmps87
    go_wp2_with fail
    refine (HE.out _ HR.out).mono ?_
    rintro e w1 ⟨rfl,rfl⟩
    go_wp2_with fail
    go_quiet (fail)
    go_wp2_with fail
    go_quiet (fail)
    go_wp2_with fail
    refine (HF.out 15 _ (HR.out.drewN _)).mono ?_
    rintro e w2 ⟨rfl,HR2,HB2⟩
    have HB3:Hid (Bt q w w2):=((Bt.refl q w).drewN _).trans HB2.out
    clear HB2
    go_wp2_with fail
    go_ret
    exact RP.mk (by rw [HG.out];rfl) (by rw [HG.out];exact HR2.out) HB3.out
   ·have hcz:¬ (1:Int)<(x.toNat:Int):=by omega
    rw [if_neg hc] at HG
    have hb:((x.toNat:Int)==1)=(x.toNat==1):=by
     by_cases h1:x.toNat=1
     ·rw [h1];rfl
     ·rw [show (x.toNat==1)=false by simpa using h1];rw [beq_eq_false_iff_ne];omega
    generalize (x.toNat==1)=b at *
    have HRW:Hid (∀n,Rm ((w.drewN n).setCell ⟨q,2,none⟩ (.int .i64 ((r.at_:Int)+1))) q { r with at_:=r.at_+1 }):=fun n=>(HR.out.drewN n).setAt (r.at_+1) hll
    go_enter Tryz.func87,Tryz.ntmps87
    go_wp2_with fail
    refine (HE.out _ HR.out).mono ?_
    rintro e w1 ⟨rfl,rfl⟩
    go_wp2_with fail
    go_quiet (fail)
    go_wp2_with fail
    go_quiet (fail)
    go_wp2_with fail
    go_ret
    exact RP.mk (by rw [HG.out];rfl) (by rw [HG.out];exact HRW.out _) (((Bt.refl q w).drewN _).trans (Bt.set q _ 2 _))
 ·have hz:((r.e:Int) != 0)=true:=by rw [bne_iff_ne];omega
  have HU:Hid (zbn r=(r,false)):=zda h0
  clear h hS hsz hds
  go_enter Tryz.func87,Tryz.ntmps87
  go_wp2_with fail
  refine (HE.out _ HR.out).mono ?_
  rintro e w1 ⟨rfl,rfl⟩
  go_wp2_with fail
  go_ret
  exact RP.mk (by rw [HU.out];rfl) (by rw [HU.out];exact HR.out) (Bt.refl q w)
theorem zhq {r:Rd} (h0:r.e=0) (h:r.at_<r.s.length):zbg r=(r.fl 16,false):=by
 unfold zbg
 rw [if_pos h]
 simp [Rd.fl,h0]
theorem zhr {r:Rd} (h0:r.e=0) (h:¬ r.at_<r.s.length):zbg r=(r,true):=by
 unfold zbg
 rw [if_neg h]
 simp [h0]
theorem zud (q:Nat) (r:Rd) (w:World) (h:Rm w q r):Calls Tryz.prog 59 #[.pointer (some ⟨q,0,none⟩)] w (RP q (.bool (zbg r).2) (zbg r).1 w):=by
 have HE:Hid (∀r w,Rm w q r→Calls Tryz.prog 58 #[.pointer (some ⟨q,0,none⟩)] w (NP .i64 r.e w)):=fun r w h=>zjw q r w h
 have HF:Hid (∀(e:Nat) (w1:World),Rm w1 q r→Calls Tryz.prog 89 #[.pointer (some ⟨q,0,none⟩),.int .i64 e] w1 (RP q (.tuple #[]) (r.fl e) w1)):=fun e w1 h=>xfl q r e w1 h
 have HR:Hid (Rm w q r):=h
 have HQ:Hid (∀n,Calls Tryz.prog 58 #[.pointer (some ⟨q,0,none⟩)] (w.drewN n) fun e w'=>e=.returned (.int .i64 (r.e:Int))∧w'=w.drewN n):=fun n=>(zjw q r _ (h.drewN n)).mono fun _ _ h=>⟨h.1,h.2.symm⟩
 have c1:w.cell? ⟨q,1,none⟩=some (.string ⟨r.s.toArray⟩):=h.cell 1
 have c2:w.cell? ⟨q,2,none⟩=some (.int .i64 r.at_):=h.cell 2
 obtain ⟨S,hS⟩:∃S:ByteArray,S=⟨r.s.toArray⟩:=⟨_,rfl⟩
 rw [← hS] at c1
 have hsz:S.size=r.s.length:=by rw [hS];rfl
 have hs:S.size≤9223372036854775807:=by have:=h.len;omega
 have ha:r.at_≤S.size:=by have:=h.le;omega
 by_cases h0:r.e=0
 ·have hz:((r.e:Int)==0)=true:=by rw [h0];rfl
  by_cases hl:r.at_<S.size
  ·have HU:Hid (zbg r=(r.fl 16,false)):=zhq h0 (by omega)
   have hlz:(r.at_:Int)<(S.size:Int):=by omega
   have hfz:(r.fl 16).e=16:=by simp [Rd.fl,h0]
   clear h hS hsz
   go_enter Tryz.func59,Tryz.ntmps59
   go_wp2_with fail
   go_quiet ((go_at_call 58;refine Calls.quiet_of_same (HQ.out _)))
   go_wp2_with fail
   refine (HF.out 16 _ (HR.out.drewN _)).mono ?_
   rintro e w2 ⟨rfl,HR2,HB2⟩
   have HB3:Hid (Bt q w w2):=((Bt.refl q w).drewN _).trans HB2.out
   have HE2:Hid (Calls Tryz.prog 58 #[.pointer (some ⟨q,0,none⟩)] w2 (NP .i64 16 w2)):=by have:=HE.out _ _ HR2.out;rw [hfz] at this;exact this
   clear HB2
   go_wp2_with fail
   refine HE2.out.mono ?_
   rintro e w3 ⟨rfl,rfl⟩
   go_wp2_with fail
   go_ret
   exact RP.mk (by rw [HU.out];rfl) (by rw [HU.out];exact HR2.out) HB3.out
  ·have HU:Hid (zbg r=(r,true)):=zhr h0 (by omega)
   have hlz:¬ (r.at_:Int)<(S.size:Int):=by omega
   clear h hS hsz
   go_enter Tryz.func59,Tryz.ntmps59
   go_wp2_with fail
   go_quiet ((go_at_call 58;refine Calls.quiet_of_same (HQ.out _)))
   go_wp2_with fail
   refine (HE.out r _ (HR.out.drewN _)).mono ?_
   rintro e w3 ⟨rfl,rfl⟩
   go_wp2_with fail
   go_ret
   exact RP.mk (by rw [HU.out];rfl) (by rw [HU.out];exact HR.out.drewN _) ((Bt.refl q w).drewN _)
 ·have hz:((r.e:Int)==0)=false:=by rw [beq_eq_false_iff_ne];omega
  have HU:Hid (zbg r=(r,false)):=zdb h0
  clear h hS hsz
  go_enter Tryz.func59,Tryz.ntmps59
  go_wp2_with fail
  go_quiet ((go_at_call 58;refine Calls.quiet_of_same (HQ.out _)))
  go_wp2_with fail
  refine (HE.out r _ (HR.out.drewN _)).mono ?_
  rintro e w3 ⟨rfl,rfl⟩
  go_wp2_with fail
  go_ret
  exact RP.mk (by rw [HU.out];rfl) (by rw [HU.out];exact HR.out.drewN _) ((Bt.refl q w).drewN _)
def tE (t:Nat × Nat × Nat) (m:Int) (n:Nat):Nat:=if t.1≠0 then t.1 else if m<(t.2.1:Int) then 2 else if n<t.2.2+t.2.1 then 14 else 0
theorem zhs (r:Rd) (m:Int):za4 r m=if tE (nxt r) m r.s.length=0 then ({ r with at_:=(nxt r).2.2+(nxt r).2.1 },(r.s.drop (nxt r).2.2).take (nxt r).2.1) else (r.fl (tE (nxt r) m r.s.length),[]):=by
 by_cases h:r.e≠0
 ·rw [zcu h,zdk h]
  unfold tE
  simp only [h,ne_eq,not_false_eq_true,if_true,if_false]
  rw [zhg h]
 ·have h0:r.e=0:=by simpa using h
  unfold za4
  rw [zcj]
  unfold cE tE
  by_cases h1:(nxt r).1=0
  ·simp only [h1,ne_eq,not_true_eq_false,if_false]
   by_cases h2:m<((nxt r).2.1:Int)
   ·simp [h2,Rd.fl,h0]
   ·simp only [h2,if_false,if_true,h0]
    simp only [not_true_eq_false,if_false]
    split<;>simp_all
  ·simp [h1,Rd.fl,h0]
theorem zu2 (q:Nat) (r:Rd) (m:Int) (hm:I64 m) (w:World) (h:Rm w q r) (hs:r.s.length≤281474976710656):Calls Tryz.prog 79 #[.pointer (some ⟨q,0,none⟩),.int .i64 m] w (RP q (.string ⟨(za4 r m).2.toArray⟩) (za4 r m).1 w):=by
 have HX:Hid (Calls Tryz.prog 108 #[.pointer (some ⟨q,0,none⟩)] w (N3 (nxt r) w)):=znb q r w h
 have HF:Hid (∀(e:Nat) (w1:World),Rm w1 q r→Calls Tryz.prog 89 #[.pointer (some ⟨q,0,none⟩),.int .i64 e] w1 (RP q (.tuple #[]) (r.fl e) w1)):=fun e w1 h=>xfl q r e w1 h
 have hsm:=zde h.le
 have HU:Hid (za4 r m=if tE (nxt r) m r.s.length=0 then ({ r with at_:=(nxt r).2.2+(nxt r).2.1 },(r.s.drop (nxt r).2.2).take (nxt r).2.1) else (r.fl (tE (nxt r) m r.s.length),[])):=zhs r m
 have HR:Hid (Rm w q r):=h
 have hlen:=h.len
 have HA:Hid (∀(k:Int),I64 k→∀w,Calls Tryz.prog 109 #[.int .u64 (nxt r).2.1,.int .i64 k] w (BP (decide (k<((nxt r).2.1:Int))) w)):=fun k hk w=>zk5 _ hsm.1 k hk w
 have HM:Hid (I64 m):=hm
 clear h hm
 unfold N3 at HX
 generalize nxt r=t at *
 obtain ⟨t0,t1,t2⟩:=t
 simp only at HX hsm HA
 obtain ⟨S,hS⟩:∃S:ByteArray,Hid (S=⟨r.s.toArray⟩):=⟨_,rfl⟩
 have hsz:S.size=r.s.length:=by rw [hS.out];rfl
 have hds:r.s=S.data.toList:=by rw [hS.out]
 have hsS:S.size≤281474976710656:=by omega
 have ht2:t2≤S.size:=by have:=hsm.2;omega
 have hm1:=HM.out.1
 have hm2:=HM.out.2
 have HD1:Hid (∀w,Calls Tryz.prog 109 #[.int .u64 t1,.int .i64 m] w (BP (decide (m<(t1:Int))) w)):=fun w=>HA.out m HM.out w
 have HD2:Hid (∀w,Calls Tryz.prog 109 #[.int .u64 t1,.int .i64 ((S.size:Int)-t2)] w (BP (decide ((S.size:Int)-t2<(t1:Int))) w)):=fun w=>HA.out ((S.size:Int)-t2) ⟨by omega,by omega⟩ w
 clear HA
 by_cases h0:t0=0
 ·subst h0
  by_cases h1:m<(t1:Int)
  ·have HC:Hid (tE (0,t1,t2) m r.s.length=2):=by unfold Hid tE;simp [h1]
   rw [if_neg (by rw [HC.out];omega),HC.out] at HU
   rw [decide_eq_true h1] at HD1
   clear HC hS hds h1 hsz
   go_enter Tryz.func79,Tryz.ntmps79
   go_wp2_with fail
   refine HX.out.mono ?_
   rintro e w1 ⟨rfl,n,hn⟩
   have HR1:Hid (Rm w1 q r):=by unfold Hid;rw [hn];exact HR.out.drewN n
   have HB1:Hid (Bt q w w1):=by unfold Hid;rw [hn];exact (Bt.refl q w).drewN n
   clear hn
   go_wp2_with fail
   refine (HD1.out _).mono ?_
   rintro e w2 ⟨rfl,rfl⟩
   go_wp2_with fail
   refine (HF.out 2 _ HR1.out).mono ?_
   rintro e w2 ⟨rfl,HR2,HB2⟩
   have HB3:Hid (Bt q w w2):=HB1.out.trans HB2.out
   clear HB2
   go_wp2_with fail
   go_ret
   exact RP.mk (by rw [HU.out];rfl) (by rw [HU.out];exact HR2.out) HB3.out
  ·rw [decide_eq_false h1] at HD1
   by_cases h2:(S.size:Int)-t2<(t1:Int)
   ·have HC:Hid (tE (0,t1,t2) m r.s.length=14):=by unfold Hid tE;simp [h1];omega
    rw [if_neg (by rw [HC.out];omega),HC.out] at HU
    rw [decide_eq_true h2] at HD2
    clear HC hds h1 h2 hsz
    go_enter Tryz.func79,Tryz.ntmps79
    go_wp2_with fail
    refine HX.out.mono ?_
    rintro e w1 ⟨rfl,n,hn⟩
    have HR1:Hid (Rm w1 q r):=by unfold Hid;rw [hn];exact HR.out.drewN n
    have HB1:Hid (Bt q w w1):=by unfold Hid;rw [hn];exact (Bt.refl q w).drewN n
    have c1:w1.cell? ⟨q,1,none⟩=some (.string S):=by rw [hS.out];exact HR1.out.cell 1
    clear hn hS
    go_wp2_with fail
    refine (HD1.out _).mono ?_
    rintro e w2 ⟨rfl,rfl⟩
    go_wp2_with fail
    refine (HD2.out _).mono ?_
    rintro e w2 ⟨rfl,rfl⟩
    go_wp2_with fail
    refine (HF.out 14 _ HR1.out).mono ?_
    rintro e w2 ⟨rfl,HR2,HB2⟩
    have HB3:Hid (Bt q w w2):=HB1.out.trans HB2.out
    clear HB2
    go_wp2_with fail
    go_ret
    exact RP.mk (by rw [HU.out];rfl) (by rw [HU.out];exact HR2.out) HB3.out
   ·have HC:Hid (tE (0,t1,t2) m r.s.length=0):=by unfold Hid tE;simp [h1];omega
    rw [if_pos HC.out] at HU
    rw [decide_eq_false h2] at HD2
    have hle:t2+t1≤S.size:=by omega
    have HT:Hid ((S.extract t2 (t2+t1)).data.toList=(r.s.drop t2).take t1):=by
     unfold Hid
     rw [zdv,← hds]
     congr 1
     omega
    have hx:=zhm S t2 (t2+t1) hle
    have HK:Hid (∀w,Calls Tryz.prog 78 #[.string (S.extract t2 (t2+t1))] w fun e w'=>e=.returned (.string (S.extract t2 (t2+t1)))∧Below w.heap.size w w'):=fun w=>zk3 _ (by omega) w
    have hle2:t2+t1≤r.s.length:=by omega
    have hb1:(0:Int)≤(t2:Int):=by omega
    have hb2:(t2:Int)≤(t2:Int)+t1:=by omega
    have hb3:(t2:Int)+t1≤(S.size:Int):=by omega
    have hb4:(0:Int)≤(t2:Int)+t1:=by omega
    clear HC hds h1 h2 hsz
    go_enter Tryz.func79,Tryz.ntmps79
    go_wp2_with fail
    refine HX.out.mono ?_
    rintro e w1 ⟨rfl,n,hn⟩
    have HR1:Hid (Rm w1 q r):=by unfold Hid;rw [hn];exact HR.out.drewN n
    have HB1:Hid (Bt q w w1):=by unfold Hid;rw [hn];exact (Bt.refl q w).drewN n
    have c1:w1.cell? ⟨q,1,none⟩=some (.string S):=by rw [hS.out];exact HR1.out.cell 1
    have c2:w1.cell? ⟨q,2,none⟩=some (.int .i64 r.at_):=HR1.out.cell 2
    have f2:=HR1.out.froz 2
    clear hn
    go_wp2_with fail
    refine (HD1.out _).mono ?_
    rintro e w2 ⟨rfl,rfl⟩
    go_wp2_with fail
    refine (HD2.out _).mono ?_
    rintro e w2 ⟨rfl,rfl⟩
    have HR2:Hid (Rm (w1.setCell ⟨q,2,none⟩ (.int .i64 ((t2:Int)+t1))) q { r with at_:=t2+t1 }):=HR1.out.setAt (t2+t1) hle2
    have HB2:Hid (Bt q w (w1.setCell ⟨q,2,none⟩ (.int .i64 ((t2:Int)+t1)))):=HB1.out.trans (Bt.set q w1 2 _)
    go_upto_region 10 with fail
    generalize w1.setCell ⟨q,2,none⟩ (.int .i64 ((t2:Int)+t1))=w2 at *
    clear c1 c2 f2
    have d1:w2.cell? ⟨q,1,none⟩=some (.string S):=by rw [hS.out];exact HR2.out.cell 1
    have d2:w2.cell? ⟨q,2,none⟩=some (.int .i64 ((t2:Int)+t1)):=HR2.out.cell 2
    have HKP:Hid (∀(n:Nat) (w3:World),Below (w2.drewN n).heap.size (w2.drewN n) w3→w3.cell? ⟨q,1,none⟩=some (.string S)∧w3.cell? ⟨q,2,none⟩=some (.int .i64 ((t2:Int)+t1))):=fun n w3 hb=>⟨(hb.cell (by exact HR2.out.lt)).trans d1,(hb.cell (by exact HR2.out.lt)).trans d2⟩
    clear hS
    go_region_held3 (fun w'=>w'.cell? ⟨q,1,none⟩=some (.string S)∧w'.cell? ⟨q,2,none⟩=some (.int .i64 ((t2:Int)+t1))) (first | go_keep | exact HKP.out _ _ hb3) (first | (go_at_call 78;go_must (refine (HK.out _).mono ?_;rintro e w3 ⟨rfl,hb3⟩)))
    have HR3:Hid (Rm w3 q { r with at_:=t2+t1 }):=(HR2.out.drewN _).keep hb3
    have HB3:Hid (Bt q w w3):=(HB2.out.drewN _).trans (Bt.of_below hb3)
    clear hb3
    go_wp2_with fail
    go_ret
    exact RP.mk (by rw [HU.out,← HT.out];rfl) (by rw [HU.out];exact HR3.out) HB3.out
 ·have hz:((t0:Int)==0)=false:=by rw [beq_eq_false_iff_ne];omega
  have hz2:((t0:Int) != 0)=true:=by rw [bne_iff_ne];omega
  have HC:Hid (tE (t0,t1,t2) m r.s.length=t0):=by unfold Hid tE;simp [h0]
  rw [if_neg (by rw [HC.out];exact h0),HC.out] at HU
  clear HC hS hds hsz
  go_enter Tryz.func79,Tryz.ntmps79
  go_wp2_with fail
  refine HX.out.mono ?_
  rintro e w1 ⟨rfl,n,hn⟩
  have HR1:Hid (Rm w1 q r):=by unfold Hid;rw [hn];exact HR.out.drewN n
  have HB1:Hid (Bt q w w1):=by unfold Hid;rw [hn];exact (Bt.refl q w).drewN n
  clear hn
  go_wp2_with fail
  refine (HF.out t0 _ HR1.out).mono ?_
  rintro e w2 ⟨rfl,HR2,HB2⟩
  have HB3:Hid (Bt q w w2):=HB1.out.trans HB2.out
  clear HB2
  go_wp2_with fail
  go_ret
  exact RP.mk (by rw [HU.out];rfl) (by rw [HU.out];exact HR2.out) HB3.out
theorem Tryz.info3:(Tryz.prog.info? 3).map (fun i=>(i.zero,i.size,i.bytes))=some (some (.int .i64 0),1,8):=by kernel_rfl
theorem Tryz.info5:(Tryz.prog.info? 5).map (fun i=>(i.zero,i.size,i.bytes))=some (some (.int .u8 0),1,1):=by kernel_rfl
theorem zb4 {P:Program} {t:TypeId} {z:Value} {s b:Nat} (h:(P.info? t).map (fun i=>(i.zero,i.size,i.bytes))=some (some z,s,b)):∃i,P.info? t=some i∧i.zero=some z∧i.size=s∧i.bytes=b:=by
 obtain ⟨i,hi,he⟩:=Option.map_eq_some_iff.1 h
 simp only [Prod.mk.injEq] at he
 exact ⟨i,hi,he.1,he.2.1,he.2.2⟩
def zal (xs:List Int):List Value:=xs.map fun n=>Value.int .i64 n
theorem zgz (xs ys:List Int):zal (xs++ys)=zal xs++zal ys:=List.map_append ..
theorem zg0 {xs:List Int} : ∀u ∈ zal xs,u.oneCell'=true:=by
 intro u hu
 simp only [zal,List.mem_map] at hu
 obtain ⟨c,_,rfl⟩:=hu
 rfl
theorem zf0 {B:Nat} {w:World} {v:Value} {xs:List Int} (h:w.ownsRow B 3 1 v xs.length (zal xs)) (hB:B≤w.heap.size) (n:Int) (hl:xs.length≤1099511627776) :
  ∃v' w',(Builtin.append_ #[25,25] 25 #[v,.slice (some ⟨w.heap.size,0,none⟩) 1 1]).run Tryz.prog (w.alloc (.cells #[.int .i64 n] 3))=.ok v' w'∧w'.ownsRow B 3 1 v' (xs++[n]).length (zal (xs++[n]))∧(w.alloc (.cells #[.int .i64 n] 3)).grownBy w' v.ownBlock:=by
 obtain ⟨i0,hi,hz0,hz1,hz2⟩:=zb4 Tryz.info3
 obtain ⟨v',w',hr,ho,hgr,_,hat⟩:=run_append_own_at (P:=Tryz.prog) (w:=w.alloc (.cells #[.int .i64 n] 3)) B 25 25 3 i0 (.int .i64 0) 1 8 Tryz.underlying25 hi hz0 hz1 hz2 rfl (by decide) v _ _ (h.alloc _) ⟨w.heap.size,0,none⟩ 1 1 [.int .i64 n] rfl (cell_one_new _ _ _) (zg0 (xs:=[n])) (by unfold maxLen;omega) (by omega) (by simp;omega)
 refine ⟨v',w',hr,?_,hgr⟩
 rw [zgz,List.length_append];exact ho
theorem za8 {w w':World} {B e size n q:Nat} {v:Value} {xs:List Value} (h:w.ownsRow B e size v n xs) (hq:q<B) (hb:Bt q w w'):w'.ownsRow B e size v n xs:=by
 refine ⟨h.1,?_⟩
 rcases h.2 with h2 | ⟨g,cap,cur,hv,hB,hg,hr⟩
 ·exact .inl h2
 ·exact .inr ⟨g,cap,cur,hv,hB,hb.other hg (by omega),hr⟩
theorem znd {r:Rd} (h:r.e≠0) (n:Nat):rIs n r=(r,[]):=by
 cases n with
 | zero=>rfl
 | succ n=>unfold rIs;rw [if_pos h]
theorem zjy {r:Rd} (h:r.e=0) (n:Nat):rIs (n+1) r=((rIs n (zah r).1).1,(zah r).2::(rIs n (zah r).1).2):=by
 show (if _ then _ else _)=_
 rw [if_neg (by simpa using h)]
theorem zg1 {r:Rd} {m:Int} (h:(zai r m).2≠0):(zai r m).1.e=0:=by
 rw [zcj] at h ⊢
 by_cases hc:cE (nxt r) m=0
 ·rw [if_pos hc]
  have:(nxt r).1=0:=by
   unfold cE at hc
   apply Classical.byContradiction
   intro hn
   rw [if_pos hn] at hc
   exact hn hc
  show r.e=0
  apply Classical.byContradiction
  intro hn
  rw [zdk hn] at this
  exact hn this
 ·rw [if_neg hc] at h
  exact absurd rfl h
theorem zej {r:Rd} (h0:r.e=0) (h1:(zah r).1.e=0):r.at_+1≤(zah r).1.at_∧(zah r).1.s=r.s:=by
 change (zas r).1.e=0 at h1
 show r.at_+1≤(zas r).1.at_∧(zas r).1.s=r.s
 unfold zas at h1 ⊢
 rw [if_neg (by simpa using h0)] at h1 ⊢
 by_cases hr:(rdU (r.s.drop r.at_)).1=0
 ·have hk:=zfa (s:=r.s.drop r.at_) (m:=(rdU (r.s.drop r.at_)).2.1) (j:=(rdU (r.s.drop r.at_)).2.2) (by rw [← hr])
  rw [if_pos hr]
  exact ⟨by show _≤r.at_+_;omega,rfl⟩
 ·rw [if_neg hr] at h1
  exact absurd h1 hr
def Far (N:Nat) (rc:Rd) (k:Nat) (rk:Rd) (xs:List Int):Prop:=rIs N rc=((rIs (N-k) rk).1,xs++(rIs (N-k) rk).2)
theorem Far.step {N:Nat} {rc rk:Rd} {k:Nat} {xs:List Int} (h:Far N rc k rk xs) (hk:k<N) (h0:rk.e=0):Far N rc (k+1) (zah rk).1 (xs++[(zah rk).2]):=by
 unfold Far at h ⊢
 rw [h,show N-k=N-(k+1)+1 by omega,zjy h0]
 simp
theorem Far.end_ {N:Nat} {rc rk:Rd} {xs:List Int} (h:Far N rc N rk xs):rIs N rc=(rk,xs):=by
 unfold Far at h
 rw [h,Nat.sub_self]
 show (rk,xs++[])=_
 rw [List.append_nil]
theorem Far.bad {N:Nat} {rc rk:Rd} {k:Nat} {xs:List Int} (h:Far N rc k rk xs) (h0:rk.e≠0):(rIs N rc).1=rk:=by
 unfold Far at h
 rw [h,znd h0]
def IsP (q:Nat) (l:List Int) (r:Rd) (w:World) (e:Ending) (w':World):Prop:=∃v xs,e=.returned v∧Hid (w'.ownsRow w.heap.size 3 1 v xs.length (zal xs))∧Hid (xs=l)∧Hid (Rm w' q r)∧Hid (Bt q w w')
theorem IsP.mk {q:Nat} {l:List Int} {r:Rd} {w w':World} {v:Value} {xs:List Int} (h:w'.ownsRow w.heap.size 3 1 v xs.length (zal xs)) (hx:xs=l) (hr:Rm w' q r) (hb:Bt q w w'):IsP q l r w (.returned v) w':=⟨v,xs,rfl,h,hx,hr,hb⟩
theorem zu3 (q:Nat) (r:Rd) (m:Int) (hm:I64 m) (w:World) (h:Rm w q r) (hs:r.s.length≤1099511627776):Calls Tryz.prog 111 #[.pointer (some ⟨q,0,none⟩),.int .i64 m] w (IsP q (zbq r m).2 (zbq r m).1 w):=by
 have HX:Hid (Calls Tryz.prog 112 #[.pointer (some ⟨q,0,none⟩),.int .i64 m] w (RP q (.int .i64 (zai r m).2) (zai r m).1 w)):=zk6 q r m hm w h
 have HI:Hid (∀rk w1,Rm w1 q rk→Calls Tryz.prog 57 #[.pointer (some ⟨q,0,none⟩)] w1 (RP q (.int .i64 (zah rk).2) (zah rk).1 w1)):=fun rk w1 h=>zk4 q rk w1 h
 have HE:Hid (∀rk w1,Rm w1 q rk→Calls Tryz.prog 58 #[.pointer (some ⟨q,0,none⟩)] w1 (NP .i64 rk.e w1)):=fun rk w1 h=>zjw q rk w1 h
 have HU:Hid (zbq r m=if (rIs (zai r m).2 (zai r m).1).1.e≠0 then ((rIs (zai r m).2 (zai r m).1).1,[]) else rIs (zai r m).2 (zai r m).1):=rfl
 have HN0:Hid ((zai r m).2≠0→(zai r m).1.e=0):=zg1
 have HS:Hid ((zai r m).1.s=r.s):=(zbt (show r.Ok from h.le) m).2
 have hqs:q<w.heap.size:=h.lt
 have hN:((zai r m).2:Int)≤9223372036854775807:=by
  have:=hm.2
  rw [zcj]
  split
  ·next hc=>
   show ((nxt r).2.1:Int)≤_
   unfold cE at hc
   split at hc
   ·exact absurd hc ‹_›
   ·split at hc
    ·omega
    ·omega
  ·show ((0:Nat):Int)≤_;omega
 clear h hm
 generalize (zai r m).2=N at *
 generalize (zai r m).1=rc at *
 go_enter Tryz.func111,Tryz.ntmps111
 go_wp2_with fail
 refine HX.out.mono ?_
 rintro e w1 ⟨rfl,HR1,HB1⟩
 clear HX
 go_wp2_with fail
 go_loopw [5,10] (fun v i wr=>∃(k:Nat) (xs:List Int) (rk:Rd),i=.int .i64 k∧k≤N∧xs.length=k∧Hid (wr.ownsRow w.heap.size 3 1 v xs.length (zal xs))∧Hid (Rm wr q rk)∧Hid (Bt q w wr)∧Hid (Far N rc k rk xs)∧Hid (k≤rk.at_∧rk.s=r.s∧(N≠0→rk.e=0))) (fun _ i _=>N-(Lib.intOf i).toNat)
 case atStart=>exact ⟨0,[],rc,rfl,Nat.zero_le _,rfl,World.ownsRow_nil _ _ _ _,HR1,HB1,by unfold Hid Far;simp,⟨Nat.zero_le _,HS.out,HN0.out⟩⟩
 case round=>
  obtain ⟨k,xs,rk,rfl,hk,hxk,HO,HR,HB,HF,HK⟩:=hrel
  by_cases hkn:k<N
  ·have hkz:(k:Int)<(N:Int):=by omega
   have h0:rk.e=0:=HK.out.2.2 (by omega)
   have HM:Hid ((zah rk).1.e=0→rk.at_+1≤(zah rk).1.at_∧(zah rk).1.s=rk.s):=fun h1=>zej h0 h1
   have HF2:Hid (Far N rc (k+1) (zah rk).1 (xs++[(zah rk).2])):=HF.out.step hkn h0
   have HIk:=HI.out rk wr HR.out
   have HIk2:Hid (Calls Tryz.prog 57 #[.pointer (some ⟨q,0,none⟩)] wr (RP q (.int .i64 (zah rk).2) (zah rk).1 wr)):=HIk
   have hkl:k≤1099511627776:=by
    have h1:=HK.out.1
    have h2:=HR.out.le
    rw [HK.out.2.1] at h2
    omega
   clear HIk h0
   generalize (zah rk).2=n at *
   generalize (zah rk).1=r2 at *
   go_wp2_with fail
   refine HIk2.out.mono ?_
   rintro e w2 ⟨rfl,HR2,HB2⟩
   have HO2:Hid (w2.ownsRow w.heap.size 3 1 u5 xs.length (zal xs)):=za8 HO.out hqs HB2.out
   have HB3:Hid (Bt q w w2):=HB.out.trans HB2.out
   have HE2:Hid (Calls Tryz.prog 58 #[.pointer (some ⟨q,0,none⟩)] w2 (NP .i64 r2.e w2)):=HE.out r2 w2 HR2.out
   clear HB2 HIk2
   by_cases hr:r2.e=0
   ·have hrz:((r2.e:Int) != 0)=false:=by rw [hr];rfl
    obtain ⟨v',w4,hr4,ho4,hg4⟩:=zf0 HO2.out HB3.out.size n (by omega)
    have HR4:Hid _:=hr4
    have HO4:Hid (w4.ownsRow w.heap.size 3 1 v' (xs++[n]).length (zal (xs++[n]))):=ho4
    have hbw:Below w.heap.size w2 w4:=((Below.refl w.heap.size w2).alloc HB3.out.size _).grown hg4 (by have:=HB3.out.size;simp;omega) (fun j hj=>(HO2.out.lt j hj).1)
    have HRm4:Hid (Rm w4 q r2):=HR2.out.same (hbw.block q hqs)
    have HB4:Hid (Bt q w w4):=⟨hbw.os.trans HB3.out.os,hbw.tape.trans HB3.out.tape,hbw.output.trans HB3.out.output,Nat.le_trans HB3.out.size hbw.size,fun i hi hn=>(hbw.block i hi).trans (HB3.out.block i hi hn)⟩
    have HK2:Hid (k+1≤r2.at_∧r2.s=r.s∧(N≠0→r2.e=0)):=⟨by have h1:=(HM.out hr).1;have h2:=HK.out.1;omega,by rw [(HM.out hr).2];exact HK.out.2.1,fun _=>hr⟩
    clear hr4 ho4 hg4 hbw HM HK HF HO HR HB HO2
    go_wp2_with fail
    refine HE2.out.mono ?_
    rintro e w5 ⟨rfl,rfl⟩
    go_wp2_with (at_builtin;refine Lib.wpList_append_run _ rfl _ _ 25 25 rfl _ _ rfl rfl _ w4 HR4.out ?_)
    exact ⟨⟨k+1,xs++[n],r2,by go_num,by omega,by simp;omega,HO4.out,HRm4.out,HB4.out,HF2.out,HK2.out⟩,by simp [Lib.intOf];omega⟩
   ·have hrz:((r2.e:Int) != 0)=true:=by rw [bne_iff_ne];omega
    have HD:Hid (zbq r m=(r2,[])):=by
     unfold Hid
     rw [HU.out,HF2.out.bad hr,if_pos hr]
    go_wp2_with fail
    refine HE2.out.mono ?_
    rintro e w5 ⟨rfl,rfl⟩
    go_wp2_with fail
    go_ret
    exact IsP.mk (xs:=[]) (World.ownsRow_nil _ _ _ _) (by rw [HD.out]) (by rw [HD.out];exact HR2.out) HB3.out
  ·have hkz:¬ (k:Int)<(N:Int):=by omega
   have hkN:k=N:=by omega
   subst hkN
   have HD:Hid ((zbq r m).2=xs∧(zbq r m).1=rk):=by
    unfold Hid
    rw [HU.out,HF.out.end_]
    by_cases hr:rk.e=0
    ·rw [if_neg (by simpa using hr)];exact ⟨rfl,rfl⟩
    ·rw [if_pos hr]
     refine ⟨?_,rfl⟩
     have:k=0:=Classical.byContradiction fun hn=>hr (HK.out.2.2 hn)
     rw [this] at hxk
     exact (List.length_eq_zero_iff.1 hxk).symm
   go_wp2_with fail
   go_ret
   exact IsP.mk HO.out HD.out.1.symm (by rw [HD.out.2];exact HR.out) HB.out
def Src (w:World) (u:Value) (m:List UInt8):Prop:=(u=.slice none 0 0∧m=[])∨∃a cap,u=.slice (some a) m.length cap∧∀j x,(Lib.byteCells m)[j]? = some x→w.cell? (a.add j)=some x
theorem zht {l:List UInt8} : ∀u ∈ Lib.byteCells l,u.oneCell'=true:=by
 intro u hu
 simp only [Lib.byteCells,List.mem_map] at hu
 obtain ⟨c,_,rfl⟩:=hu
 rfl
theorem zne {B:Nat} {w:World} {v u:Value} {l m:List UInt8} (h:w.ownsRow B 5 1 v l.length (Lib.byteCells l)) (hu:Src w u m) (hB:B≤w.heap.size) (hl:l.length+m.length≤1099511627776) :
  ∃v' w',(Builtin.append_ #[113,113] 113 #[v,u]).run Tryz.prog w=.ok v' w'∧w'.ownsRow B 5 1 v' (l++m).length (Lib.byteCells (l++m))∧w.grownBy w' v.ownBlock:=by
 obtain ⟨i0,hi,hz0,hz1,hz2⟩:=zb4 Tryz.info5
 rcases hu with ⟨rfl,rfl⟩ | ⟨a,cap,rfl,hc⟩
 ·exact ⟨v,w,run_append_owned_none (P:=Tryz.prog) (w:=w) B 113 113 5 i0 1 Tryz.underlying113 hi v _ _ h,by rw [List.append_nil];exact h,⟨rfl,rfl,rfl,Nat.le_refl _,fun _ _ _=>rfl⟩⟩
 ·obtain ⟨v',w',hr,ho,hgr,_,hat⟩:=run_append_own_at (P:=Tryz.prog) (w:=w) B 113 113 5 i0 (.int .u8 0) 1 1 Tryz.underlying113 hi hz0 hz1 hz2 rfl (by decide) v _ _ h a m.length cap (Lib.byteCells m) (by rw [Lib.byteCells_length,Nat.mul_one]) hc (zht (l:=m)) (by unfold maxLen;omega) (by omega) hB
  exact ⟨v',w',hr,by rw [Lib.byteCells_append,List.length_append];exact ho,hgr⟩
structure Wm (B:Nat) (w:World) (p:Nat) (v:Value) (l:List UInt8):Prop where
 base:B≤p
 blk:w.heap[p]? = some (.cells #[v] 117 (0,0))
 own:w.ownsRow B 5 1 v l.length (Lib.byteCells l)
theorem zge {w w':World} {B e size n:Nat} {v:Value} {xs:List Value} (h:w.ownsRow B e size v n xs) (hb:Below w.heap.size w w'):w'.ownsRow B e size v n xs:=by
 refine ⟨h.1,?_⟩
 rcases h.2 with h2 | ⟨g,cap,cur,hv,hB,hg,hr⟩
 ·exact .inl h2
 ·exact .inr ⟨g,cap,cur,hv,hB,by rw [hb.block g (Array.getElem?_eq_some_iff.1 hg).1];exact hg,hr⟩
theorem zhu {B p T e:Nat} {w:World} {cs:Array Value} {fz:Nat × Nat} {v:Value} {n:Nat} {xs:List Value} (h:w.ownsRow B e 1 v n xs) (hp:w.heap[p]? = some (.cells cs T fz)) (hT:T≠e):v.ownBlock≠some p:=by
 intro q
 rcases h.2 with ⟨rfl,_⟩ | ⟨g,cap,cur,rfl,_,hg,_⟩
 ·cases q
 ·obtain rfl:g=p:=Option.some.inj q
  rw [hp] at hg
  injection hg with hg
  injection hg with _ e2 _
  exact hT e2
section
variable {B p:Nat} {w w':World} {v:Value} {l m:List UInt8}
theorem Wm.lt (h:Wm B w p v l):p<w.heap.size:=(Array.getElem?_eq_some_iff.1 h.blk).1
theorem Wm.bw (h:Wm B w p v l):B≤w.heap.size:=Nat.le_of_lt (Nat.lt_of_le_of_lt h.base h.lt)
theorem Wm.cell (h:Wm B w p v l):w.cell? ⟨p,0,none⟩=some v:=cell_of_row w p 0 _ 117 (0,0) h.blk
theorem Wm.froz (h:Wm B w p v l):w.frozen? ⟨p,0,none⟩=false:=by
 have:=h.blk
 simp [World.frozen?,this]
theorem Wm.keep (h:Wm B w p v l) (hb:Below w.heap.size w w'):Wm B w' p v l:=⟨h.base,(hb.block p h.lt).trans h.blk,zge h.own hb⟩
theorem Wm.alloc (h:Wm B w p v l) (o:Obj):Wm B (w.alloc o) p v l:=h.keep (below_new w o)
theorem Wm.drewN (h:Wm B w p v l) (n:Nat):Wm B (w.drewN n) p v l:=⟨h.base,h.blk,h.own⟩
theorem zd3 {n:Nat} {e:Nat} {xs:List Value} (h:w.ownsRow B e 1 v n xs):∃a cap,v=.slice a n cap:=by
 rcases h.2 with ⟨rfl,h0⟩ | ⟨g,cap,cur,rfl,_⟩
 ·exact ⟨none,0,by rw [h0]⟩
 ·exact ⟨_,_,rfl⟩
theorem znf {e n:Nat} {xs:List Value} {cs:Array Value} (h:w.ownsRow B e 1 v n xs) (hp:w.heap[p]? = some (.cells cs 117 (0,0))) (hT:117≠e) (u:Value):(w.setCell ⟨p,0,none⟩ u).ownsRow B e 1 v n xs:=by
 refine ⟨h.1,?_⟩
 have hne:=zhu h hp hT
 rcases h.2 with h2 | ⟨g,cap,cur,hv,hB,hg,hr⟩
 ·exact .inl h2
 ·exact .inr ⟨g,cap,cur,hv,hB,(Below.heap_setCell w _ u g (by intro e;exact hne (by rw [hv,e];rfl))).trans hg,hr⟩
def Kt (p:Nat) (w w':World):Prop:=∀(g:Nat) (cs:Array Value) (T:Nat),w.heap[g]? = some (.cells cs T (0,0))→T≠5→g≠p→w'.heap[g]? = some (.cells cs T (0,0))
def Bw (B p:Nat) (w w':World):Prop:=Below B w w'∧Kt p w w'
theorem Bw.refl (B p:Nat) (w:World):Bw B p w w:=⟨Below.refl B w,fun _ _ _ h _ _=>h⟩
theorem Bw.trans {B p:Nat} {w w' w'':World} (h:Bw B p w w') (k:Bw B p w' w''):Bw B p w w'':=⟨h.1.trans k.1,fun g cs T hg hT hp=>k.2 g cs T (h.2 g cs T hg hT hp) hT hp⟩
theorem Bw.of {B p:Nat} {w w':World} (h:Below w.heap.size w w') (hB:B≤w.heap.size):Bw B p w w':=⟨h.mono hB,fun g cs T hg _ _=>(h.block g (Array.getElem?_eq_some_iff.1 hg).1).trans hg⟩
theorem Bw.alloc {B p:Nat} {w w':World} (h:Bw B p w w') (hB:B≤w'.heap.size) (o:Obj):Bw B p w (w'.alloc o):=h.trans (Bw.of (below_new w' o) hB)
theorem Wm.grow (h:Wm B w p v l) {u:Value} (hu:Src w u m) (hl:l.length+m.length≤1099511627776) :
  ∃(x:Option Addr) (n c:Nat) (w2:World),(Builtin.append_ #[113,113] 113 #[v,u]).run Tryz.prog w=.ok (.slice x n c) w2∧w2.cell? ⟨p,0,none⟩=some v∧w2.frozen? ⟨p,0,none⟩=false ∧
   Wm B (w2.setCell ⟨p,0,none⟩ (.slice x n c)) p (.slice x n c) (l++m)∧Bw B p w (w2.setCell ⟨p,0,none⟩ (.slice x n c)):=by
 obtain ⟨v',w2,hr,ho,hg⟩:=zne h.own hu h.bw hl
 obtain ⟨x,c,rfl⟩:=zd3 ho
 have hp:w2.heap[p]? = some (.cells #[v] 117 (0,0)):=(hg.block p h.lt (fun e=>zhu h.own h.blk (by decide) e.symm)).trans h.blk
 refine ⟨x,_,c,w2,hr,cell_of_row w2 p 0 _ 117 (0,0) hp,by simp [World.frozen?,hp],⟨h.base,?_,znf ho hp (by decide) _⟩,?_⟩
 ·rw [zdj hp]
  rfl
 ·refine ⟨((Below.refl B w).grown hg h.bw fun k hk=>(h.own.lt k hk).1).setCell h.base _,fun g cs T hgb hT hgp=>?_⟩
  have h1:w2.heap[g]? = some (.cells cs T (0,0)):=(hg.block g (Array.getElem?_eq_some_iff.1 hgb).1 (fun e=>zhu h.own hgb hT e.symm)).trans hgb
  exact (Below.heap_setCell w2 _ _ g hgp).trans h1
end
def WP (B p:Nat) (l:List UInt8) (w:World) (e:Ending) (w':World):Prop:=e=.returned (.tuple #[])∧∃v,Hid (Wm B w' p v l)∧Hid (Bw B p w w')
theorem zxj (B p:Nat) (v u:Value) (l m:List UInt8) (w:World) (h:Wm B w p v l) (hu:Src w u m) (hl:l.length+m.length≤1099511627776):Calls Tryz.prog 106 #[.pointer (some ⟨p,0,none⟩),u] w (WP B p (l++m) w):=by
 obtain ⟨xv,cv,rfl⟩:=zd3 h.own
 have c0:w.cell? ⟨p,0,none⟩=some (.slice xv l.length cv):=h.cell
 obtain ⟨x,n,c,w2,hr,hc2,hf2,hw,hb⟩:=h.grow hu hl
 have HR:Hid _:=hr
 have HW:Hid (Wm B (w2.setCell ⟨p,0,none⟩ (.slice x n c)) p (.slice x n c) (l++m)):=hw
 have HB:Hid (Bw B p w (w2.setCell ⟨p,0,none⟩ (.slice x n c))):=hb
 clear hr hw hb h hu
 go_enter Tryz.func106,Tryz.ntmps106
 go_wp2_with (at_builtin;refine Lib.wpList_append_run _ rfl _ _ 113 113 rfl _ _ rfl rfl _ w2 HR.out ?_)
 go_returns
 exact ⟨rfl,_,HW,HB⟩
theorem zjz (k:Nat):∀n,n<128 ^ k→hiL (k+1) n=hiL k n:=by
  induction k with
  | zero => intro n h; have : n = 0 := by simp at h; exact h
            rw [this,zb6,zb6]
  | succ k ih =>
    intro n h
    by_cases hn:n=0
    · rw [hn,zb6,zb6]
    · rw [zc9 hn,zc9 hn,ih (n / 128) (by rw [Nat.pow_succ] at h;exact Nat.div_lt_of_lt_mul (by omega))]
theorem zhv (w:World) (c:Nat) (hc:c<256) (cap:Nat):Src (w.alloc (.cells #[.int .u8 (c:Int)] 5)) (.slice (some ⟨w.heap.size,0,none⟩) 1 cap) [UInt8.ofNat c]:=by
 refine .inr ⟨⟨w.heap.size,0,none⟩,cap,rfl,fun j x hx=>?_⟩
 have e:Lib.byteCells [UInt8.ofNat c]=[.int .u8 (c:Int)]:=by
  simp [Lib.byteCells,UInt8.toNat_ofNat',Nat.mod_eq_of_lt hc]
 rw [e] at hx
 exact cell_one_new _ _ _ j x hx
theorem zng (y:Nat) (hy:y<256):bits .or .u8 (y:Int) 128=((128+y % 128:Nat):Int):=by
 have h:=u8_or_nat y 128 hy (by omega)
 have e:∀z,z<256→z ||| 128=128+z % 128:=by decide +kernel
 rw [e y hy] at h
 exact h
theorem zhw (n:Nat) (hn:n<18446744073709551616):bits .and .u64 (n:Int) 127=((n % 128:Nat):Int):=by
 have:=u64_and_nat n 127 hn (by omega)
 rw [show (127:Nat)=2 ^ 7-1 from rfl,Nat.and_two_pow_sub_one_eq_mod] at this
 exact this
theorem zj0 {n sh:Nat} (h:n / 2 ^ sh=0):hiL 10 (n / 2 ^ (sh+7))=hiL 10 (n / 2 ^ sh):=by
 rw [Nat.pow_add,← Nat.div_div_eq_div_mul,h]
theorem zj1 {n sh:Nat} (hn:n<18446744073709551616) (hs:1≤sh) (h:n / 2 ^ sh≠0):hiL 10 (n / 2 ^ sh)=hiL 10 (n / 2 ^ (sh+7))++[UInt8.ofNat (128+n / 2 ^ sh % 128)]:=by
 rw [zc9 h,Nat.pow_add,← Nat.div_div_eq_div_mul,show 2 ^ 7=128 from rfl,zjz 9]
 have h1:n / 2 ^ sh / 128≤n:=Nat.le_trans (Nat.div_le_self _ _) (Nat.div_le_self _ _)
 have h2:n / 2 ^ sh≤n / 2 ^ 1:=Nat.div_le_div_left (Nat.pow_le_pow_right (by omega) hs) (by omega)
 have h3:n / 2 ^ 1<9223372036854775808:=by omega
 omega
theorem zj2 {n:Nat} (hn:n<18446744073709551616):hiL 10 (n / 2 ^ (63+7))=[]:=by
 rw [Nat.div_eq_of_lt (by omega),zb6]
theorem zk7 (k:Nat):∀n,(hiL k n).length≤k:=by
  induction k with
  | zero=>intro n;simp [hiL]
  | succ k ih =>
    intro n
    by_cases hn:n=0
    · rw [hn,zb6];simp
    · rw [zc9 hn, List.length_append]
      have:=ih (n / 128)
      simp;omega
theorem zu4 (B p:Nat) (v:Value) (l:List UInt8) (n:Nat) (hn:n<18446744073709551616) (w:World) (h:Wm B w p v l) (hl:l.length≤1000000000000):Calls Tryz.prog 75 #[.pointer (some ⟨p,0,none⟩),.int .u64 n] w (WP B p (l++zbr n) w):=by
 have HW:Hid (Wm B w p v l):=h
 clear h
 go_enter Tryz.func75,Tryz.ntmps75
 go_wp2_with fail
 go_loopw [4] (fun i wr=>∃(sh:Nat) (v:Value),i=.int .i64 sh∧sh≤63∧(0<sh→7≤sh)∧Hid (sh % 7=0)∧Hid (Wm B wr p v (l++hiL 10 (n / 2 ^ (sh+7))))∧Hid (Bw B p w wr)) (fun i _=>(Lib.intOf i).toNat)
 case atStart=>exact ⟨63,v,rfl,by omega,by omega,by unfold Hid;omega,by unfold Hid;rw [zj2 hn,List.append_nil];exact HW.out,Bw.refl _ _ _⟩
 case round=>
  obtain ⟨sh,v2,rfl,h63,h7,HM,HW2,HB⟩:=hrel
  by_cases hs0:0<sh
  ·have hz:(0:Int)<(sh:Int):=by omega
   have h7:=h7 hs0
   have hcast:(n:Int) / 2 ^ sh=((n / 2 ^ sh:Nat):Int):=by rw [Int.natCast_ediv];simp
   obtain ⟨sh2,hsh⟩:∃sh2,sh=sh2+7:=⟨sh-7,by omega⟩
   have hsz:(sh:Int)-7=(sh2:Int):=by omega
   by_cases h0:n / 2 ^ sh=0
   ·have hne:((n:Int) / 2 ^ sh != 0)=false:=by rw [hcast,h0];rfl
    have HW3:Hid (Wm B wr p v2 (l++hiL 10 (n / 2 ^ (sh2+7)))):=by unfold Hid;rw [← hsh,← zj0 h0];exact HW2.out
    have HA:Hid ((0<sh2→7≤sh2)∧sh2 % 7=0∧sh2≤63):=by have:=HM.out;unfold Hid;omega
    clear hcast h0 HW2 hsh
    go_wp2_with fail
    exact ⟨⟨sh2,v2,rfl,HA.out.2.2,HA.out.1,HA.out.2.1,HW3.out,HB.out⟩,by simp [Lib.intOf];omega⟩
   ·have hne:((n:Int) / 2 ^ sh != 0)=true:=by rw [hcast,bne_iff_ne];omega
    have HO:Hid (bits .or .u8 ((n:Int) / 2 ^ sh % 256) 128=((128+n / 2 ^ sh % 128:Nat):Int)):=by
     unfold Hid
     have e:(n:Int) / 2 ^ sh % 256=((n / 2 ^ sh % 256:Nat):Int):=by rw [hcast];omega
     rw [e,zng _ (by omega)]
     omega
    have HS:Hid (l++hiL 10 (n / 2 ^ (sh+7))++[UInt8.ofNat (128+n / 2 ^ sh % 128)]=l++hiL 10 (n / 2 ^ (sh2+7))):=by unfold Hid;rw [List.append_assoc,← zj1 hn hs0 h0,hsh]
    have HA:Hid ((0<sh2→7≤sh2)∧sh2 % 7=0∧sh2≤63):=by have:=HM.out;unfold Hid;omega
    have HL:Hid ((l++hiL 10 (n / 2 ^ (sh+7))).length+1≤1099511627776):=by
     unfold Hid
     rw [List.length_append]
     have:=zk7 10 (n / 2 ^ (sh+7))
     omega
    have HC:Hid (128+n / 2 ^ sh % 128<256):=by unfold Hid;omega
    clear hcast h0 hsh
    go_wp2_with fail
    rw [HO.out]
    generalize 128+n / 2 ^ sh % 128=c at *
    have HW4:Hid (Wm B (wr.alloc (.cells #[.int .u8 (c:Int)] 5)) p v2 (l++hiL 10 (n / 2 ^ (sh+7)))):=HW2.out.alloc _
    have HB4:Hid (Bw B p w (wr.alloc (.cells #[.int .u8 (c:Int)] 5))):=HB.out.alloc HW2.out.bw _
    refine (zxj B p v2 _ _ _ _ HW4.out (zhv wr c HC.out 1) HL.out).mono ?_
    rintro e w3 ⟨rfl,v3,HW5,HB5⟩
    rw [HS.out] at HW5
    have HB6:Hid (Bw B p w w3):=HB4.out.trans HB5.out
    clear HW4 HB4 HB5 HW2 HB
    go_wp2_with fail
    exact ⟨⟨sh2,v3,rfl,HA.out.2.2,HA.out.1,HA.out.2.1,HW5.out,HB6.out⟩,by simp [Lib.intOf];omega⟩
  ·have hz:¬ (0:Int)<(sh:Int):=by omega
   have hsh:sh=0:=by omega
   subst hsh
   have HA:Hid (bits .and .u64 (n:Int) 127 % 256=((n % 128:Nat):Int)):=by unfold Hid;rw [zhw n hn];omega
   have HS:Hid (l++hiL 10 (n / 2 ^ (0+7))++[UInt8.ofNat (n % 128)]=l++zbr n):=by unfold Hid zbr;rw [List.append_assoc]
   have HL:Hid ((l++hiL 10 (n / 2 ^ (0+7))).length+1≤1099511627776):=by
    unfold Hid
    rw [List.length_append]
    have:=zk7 10 (n / 2 ^ (0+7))
    omega
   have HC:Hid (n % 128<256):=by unfold Hid;omega
   go_wp2_with fail
   rw [HA.out]
   generalize n % 128=c at *
   have HW4:Hid (Wm B (wr.alloc (.cells #[.int .u8 (c:Int)] 5)) p v2 (l++hiL 10 (n / 2 ^ (0+7)))):=HW2.out.alloc _
   have HB4:Hid (Bw B p w (wr.alloc (.cells #[.int .u8 (c:Int)] 5))):=HB.out.alloc HW2.out.bw _
   refine (zxj B p v2 _ _ _ _ HW4.out (zhv wr c HC.out 1) HL.out).mono ?_
   rintro e w3 ⟨rfl,v3,HW5,HB5⟩
   rw [HS.out] at HW5
   have HB6:Hid (Bw B p w w3):=HB4.out.trans HB5.out
   clear HW4 HB4 HB5 HW2 HB
   go_wp2_with fail
   go_returns
   exact ⟨rfl,v3,HW5,HB6⟩
theorem zqq {n:Int} (h:n<0):fo n=(-2*n-1).toNat:=if_pos h
theorem zqr {n:Int} (h:¬ n<0):fo n=(2*n).toNat:=if_neg h
theorem zhx {n:Int} (h1 : -9223372036854775808≤n) (h0:n<0):bits .xor .u64 IntKind.u64.max (IntKind.u64.wrap (IntKind.u64.wrap n*2))=((fo n:Nat):Int):=by
 obtain ⟨m,hm⟩:∃m:Nat,(m:Int)=2*n+18446744073709551616:=⟨(2*n+18446744073709551616).toNat,by omega⟩
 have e:IntKind.u64.wrap (IntKind.u64.wrap n*2)=(m:Int):=by
  rw [IntKind.wrap_u64,IntKind.wrap_u64]
  omega
 rw [e,zqo m (by omega),zqq h0]
 omega
theorem zxk (B p:Nat) (v:Value) (l:List UInt8) (n:Int) (hn:I64 n) (w:World) (h:Wm B w p v l) (hl:l.length≤1000000000000):Calls Tryz.prog 47 #[.pointer (some ⟨p,0,none⟩),.int .i64 n] w (WP B p (l++zbj n) w):=by
 have HX:Hid (Calls Tryz.prog 75 #[.pointer (some ⟨p,0,none⟩),.int .u64 ((fo n:Nat):Int)] w (WP B p (l++zbj n) w)):=zu4 B p v l (fo n) (zjq hn) w h hl
 obtain ⟨h1,h2⟩:=hn
 clear h hl
 by_cases h0:n<0
 ·have HT:Hid (bits .xor .u64 IntKind.u64.max (IntKind.u64.wrap (IntKind.u64.wrap n*2))=((fo n:Nat):Int)):=zhx h1 h0
  go_enter Tryz.func47,Tryz.ntmps47
  go_wp2_with fail
  rw [HT.out]
  refine HX.out.mono ?_
  rintro e w1 ⟨rfl,v1,HW1,HB1⟩
  go_wp2_with fail
  go_returns
  exact ⟨rfl,v1,HW1,HB1⟩
 ·have HT:Hid (n*2=((fo n:Nat):Int)):=by unfold Hid;rw [zqr h0];omega
  go_enter Tryz.func47,Tryz.ntmps47
  go_wp2_with fail
  rw [HT.out]
  refine HX.out.mono ?_
  rintro e w1 ⟨rfl,v1,HW1,HB1⟩
  go_wp2_with fail
  go_returns
  exact ⟨rfl,v1,HW1,HB1⟩
def Ins (B:Nat) (w:World) (a:Option Addr) (xs:List Int):Prop:=0<xs.length→∃b off,a=some ⟨b,off,none⟩∧b<B∧∀j (h:j<xs.length),w.cell? ⟨b,off+j,none⟩=some (.int .i64 xs[j])
theorem Ins.keep {B:Nat} {w w':World} {a:Option Addr} {xs:List Int} (h:Ins B w a xs) (hb:Below B w w'):Ins B w' a xs:=fun h0=>by
 obtain ⟨b,off,rfl,hB,hc⟩:=h h0
 exact ⟨b,off,rfl,hB,fun j hj=>(hb.cell (by exact hB)).trans (hc j hj)⟩
theorem Ins.mono {B C:Nat} {w:World} {a:Option Addr} {xs:List Int} (h:Ins B w a xs) (hb:B≤C):Ins C w a xs:=fun h0=>by
 obtain ⟨b,off,rfl,hB,hc⟩:=h h0
 exact ⟨b,off,rfl,Nat.lt_of_lt_of_le hB hb,hc⟩
theorem zj3 {B:Nat} {w:World} {v:Value} {l:List UInt8} (h:w.ownsRow B 5 1 v l.length (Lib.byteCells l)):(convert 113 9 v).run Tryz.prog w=.ok (.string ⟨l.toArray⟩) w:=by
 rcases h.2 with ⟨rfl,h0⟩ | ⟨g,cap,cur,rfl,hb,hg,h1,h2,h3,h4⟩
 ·have hb:l=[]:=List.length_eq_zero_iff.1 h0
  rw [hb,run_convert_bytes_string w 113 9 5 none 0 0 Tryz.underlying113 Tryz.underlying5 Tryz.underlying9]
  rfl
 ·refine run_convert_bytes_back (P:=Tryz.prog) w 113 9 5 ⟨g,0,none⟩ cap l Tryz.underlying113 Tryz.underlying5 Tryz.underlying9 (fun j hj=>?_)
  refine h.cells (g:=g) rfl j _ ?_
  simp only [Lib.byteCells,List.getElem?_map,List.getElem?_eq_getElem hj]
  rfl
def TP (l:List UInt8) (w:World) (e:Ending) (w':World):Prop:=e=.returned (.string ⟨l.toArray⟩)∧w=w'
theorem zqs (B p:Nat) (v:Value) (l:List UInt8) (w:World) (h:Wm B w p v l):Calls Tryz.prog 48 #[.pointer (some ⟨p,0,none⟩)] w (TP l w):=by
 obtain ⟨xv,cv,rfl⟩:=zd3 h.own
 have c0:w.cell? ⟨p,0,none⟩=some (.slice xv l.length cv):=h.cell
 have hcv:=zj3 h.own
 clear h
 unfold TP
 generalize (⟨l.toArray⟩:ByteArray)=S at *
 generalize l.length=n at *
 go_enter Tryz.func48,Tryz.ntmps48
 go_wp2_with fail
 go_ret
 exact ⟨rfl,rfl⟩
def SB (l:List UInt8) (w:World) (e:Ending) (w':World):Prop:=e=.returned (.string ⟨l.toArray⟩)∧Below w.heap.size w w'
theorem SB.mk {l:List UInt8} {s:ByteArray} {w w':World} (h:s.data.toList=l) (hb:Below w.heap.size w w'):SB l w (.returned (.string s)) w':=⟨by rw [← h],hb⟩
def BB (b:Bool) (w:World) (e:Ending) (w':World):Prop:=e=.returned (.bool b)∧Below w.heap.size w w'
theorem BB.mk {b c:Bool} {w w':World} (h:c=b) (hb:Below w.heap.size w w'):BB b w (.returned (.bool c)) w':=⟨by rw [h],hb⟩
theorem zu5 (xs ys:List Int) (a b:Option Addr) (c d:Nat) (w:World) (B:Nat) (hB:B≤w.heap.size) (hx:Ins B w a xs) (hy:Ins B w b ys) (he:xs=ys) (hl:xs.length≤1000000000000):Calls Tryz.prog 98 #[.slice a xs.length c,.slice b ys.length d] w (BB true w):=by
 subst he
 have HX:Hid (Ins B w a xs):=hx
 have HY:Hid (Ins B w b xs):=hy
 clear hx hy
 go_enter Tryz.func98,Tryz.ntmps98
 go_wp2_with fail
 go_loopw [5] (fun i wr=>∃(k:Nat),i=.int .i64 k∧k≤xs.length∧Hid (Below w.heap.size w wr)) (fun i _=>xs.length-(Lib.intOf i).toNat)
 case atStart=>exact ⟨0,rfl,Nat.zero_le _,Below.refl _ _⟩
 case round=>
  obtain ⟨k,rfl,hk,HBw⟩:=hrel
  by_cases hkn:k<xs.length
  ·have hkz:(k:Int)<(xs.length:Int):=by omega
   obtain ⟨b1,off1,rfl,hbl1,hce1⟩:=HX.out (by omega)
   obtain ⟨b2,off2,rfl,hbl2,hce2⟩:=HY.out (by omega)
   have hc1:wr.cell? ⟨b1,off1+k,none⟩=some (.int .i64 xs[k]):=(HBw.out.cell (by exact Nat.lt_of_lt_of_le hbl1 hB)).trans (hce1 k hkn)
   have hc2:wr.cell? ⟨b2,off2+k,none⟩=some (.int .i64 xs[k]):=(HBw.out.cell (by exact Nat.lt_of_lt_of_le hbl2 hB)).trans (hce2 k hkn)
   generalize xs[k]=n at *
   clear hce1 hce2
   go_wp2_with fail
   go_quiet (fail)
   go_wp2_with fail
   exact ⟨⟨k+1,by go_num,by omega,zfy HBw.out _⟩,by simp [Lib.intOf];omega⟩
  ·have hkz:¬ (k:Int)<(xs.length:Int):=by omega
   go_wp2_with fail
   go_ret
   exact BB.mk rfl HBw.out
theorem zek {n a b:Int} (h:¬ a≤n):inn n a b=false:=by
 unfold inn;rw [decide_eq_false h];rfl
theorem zel {n a b:Int} (h:a≤n):inn n a b=decide (n≤b):=by
 unfold inn;rw [decide_eq_true h];rfl
theorem zay (n a b:Int) (g:Bool) (h:inn n a b=g) (w:World):Calls Tryz.prog 39 #[.int .i64 n,.int .i64 a,.int .i64 b] w (BP g w):=by
 by_cases h0:a≤n
 ·have H:Hid (decide (n≤b)=g):=by unfold Hid;rw [← h,zel h0]
  clear h
  go_enter Tryz.func39,Tryz.ntmps39
  go_wp2_with fail
  go_ret
  exact BP.mk H.out
 ·have H:Hid (false=g):=by unfold Hid;rw [← h,zek h0]
  clear h
  go_enter Tryz.func39,Tryz.ntmps39
  go_wp2_with fail
  go_ret
  exact BP.mk H.out
theorem rin (n a b:Int) (g:Bool) (h:inn n a b=g) (w:World):Calls Tryz.prog 45 #[.int .i64 n,.int .i64 a,.int .i64 b] w (BP g w):=by
 by_cases h0:a≤n
 ·have H:Hid (decide (n≤b)=g):=by unfold Hid;rw [← h,zel h0]
  clear h
  go_enter Tryz.func45,Tryz.ntmps45
  go_wp2_with fail
  go_ret
  exact BP.mk H.out
 ·have H:Hid (false=g):=by unfold Hid;rw [← h,zek h0]
  clear h
  go_enter Tryz.func45,Tryz.ntmps45
  go_wp2_with fail
  go_ret
  exact BP.mk H.out
theorem za0 (n:Int) (g:Bool) (h:inn n 1 32=g) (w:World):Calls Tryz.prog 140 #[.int .i64 n] w (BP g w):=by
 go_enter Tryz.func140,Tryz.ntmps140
 go_wp2_with (go_at_call 39;refine (zay _ _ _ g h _).mono ?_;rintro e w2 ⟨rfl,rfl⟩)
 go_ret
 exact BP.mk rfl
theorem zbh (n:Int) (g:Bool) (h:inn n 1 1125899906842624=g) (w:World):Calls Tryz.prog 141 #[.int .i64 n] w (BP g w):=by
 go_enter Tryz.func141,Tryz.ntmps141
 go_wp2_with (go_at_call 39;refine (zay _ _ _ g h _).mono ?_;rintro e w2 ⟨rfl,rfl⟩)
 go_ret
 exact BP.mk rfl
theorem za1 (n:Int) (g:Bool) (h:inn n 1 1125899906842624=g) (w:World):Calls Tryz.prog 40 #[.int .i64 n] w (BP g w):=by
 go_enter Tryz.func40,Tryz.ntmps40
 go_wp2_with (go_at_call 39;refine (zay _ _ _ g h _).mono ?_;rintro e w2 ⟨rfl,rfl⟩)
 go_ret
 exact BP.mk rfl
theorem zck (n:Int) (g:Bool) (h:inn n (-1000000) 1000000=g) (w:World):Calls Tryz.prog 142 #[.int .i64 n] w (BP g w):=by
 go_enter Tryz.func142,Tryz.ntmps142
 go_wp2_with (go_at_call 39;refine (zay _ _ _ g h _).mono ?_;rintro e w2 ⟨rfl,rfl⟩)
 go_ret
 exact BP.mk rfl
theorem zbw (n:Int) (g:Bool) (h:inn n 0 20=g) (w:World):Calls Tryz.prog 41 #[.int .i64 n] w (BP g w):=by
 go_enter Tryz.func41,Tryz.ntmps41
 go_wp2_with (go_at_call 39;refine (zay _ _ _ g h _).mono ?_;rintro e w2 ⟨rfl,rfl⟩)
 go_ret
 exact BP.mk rfl
theorem zcg (n:Int) (g:Bool) (h:inn n 0 200000=g) (w:World):Calls Tryz.prog 143 #[.int .i64 n] w (BP g w):=by
 by_cases h0:(0:Int)≤n
 ·have H:Hid (decide (n≤200000)=g):=by unfold Hid;rw [← h,zel h0]
  clear h
  go_enter Tryz.func143,Tryz.ntmps143
  go_wp2_with fail
  go_ret
  exact BP.mk H.out
 ·have H:Hid (false=g):=by unfold Hid;rw [← h,zek h0]
  clear h
  go_enter Tryz.func143,Tryz.ntmps143
  go_wp2_with fail
  go_ret
  exact BP.mk H.out
theorem zdt (n:Int) (g:Bool) (h:inn n 0 200000=g) (w:World):Calls Tryz.prog 71 #[.int .i64 n] w (BP g w):=by
 by_cases h0:(0:Int)≤n
 ·have H:Hid (decide (n≤200000)=g):=by unfold Hid;rw [← h,zel h0]
  clear h
  go_enter Tryz.func71,Tryz.ntmps71
  go_wp2_with fail
  go_ret
  exact BP.mk H.out
 ·have H:Hid (false=g):=by unfold Hid;rw [← h,zek h0]
  clear h
  go_enter Tryz.func71,Tryz.ntmps71
  go_wp2_with fail
  go_ret
  exact BP.mk H.out
theorem zbk (n:Int) (g:Bool) (h:inn n 1 32=g) (w:World):Calls Tryz.prog 35 #[.int .i64 n] w (BP g w):=by
 by_cases h0:(1:Int)≤n
 ·have H:Hid (decide (n≤32)=g):=by unfold Hid;rw [← h,zel h0]
  clear h
  go_enter Tryz.func35,Tryz.ntmps35
  go_wp2_with fail
  go_ret
  exact BP.mk H.out
 ·have H:Hid (false=g):=by unfold Hid;rw [← h,zek h0]
  clear h
  go_enter Tryz.func35,Tryz.ntmps35
  go_wp2_with fail
  go_ret
  exact BP.mk H.out
theorem za6 (n:Int) (g:Bool) (h:inn n 1 1125899906842624=g) (w:World):Calls Tryz.prog 46 #[.int .i64 n] w (BP g w):=by
 by_cases h0:(1:Int)≤n
 ·have H:Hid (decide (n≤1125899906842624)=g):=by unfold Hid;rw [← h,zel h0]
  clear h
  go_enter Tryz.func46,Tryz.ntmps46
  go_wp2_with fail
  go_ret
  exact BP.mk H.out
 ·have H:Hid (false=g):=by unfold Hid;rw [← h,zek h0]
  clear h
  go_enter Tryz.func46,Tryz.ntmps46
  go_wp2_with fail
  go_ret
  exact BP.mk H.out
theorem zue (n:Int) (g:Bool) (h:inn n 0 200000=g) (w:World):Calls Tryz.prog 163 #[.int .i64 n] w (NP .i64 (if g then (0:Nat) else 10:Nat) w):=by
 cases g
 ·go_enter Tryz.func163,Tryz.ntmps163
  go_wp2_with (go_at_call 143;refine (zcg _ _ h _).mono ?_;rintro e w2 ⟨rfl,rfl⟩)
  go_ret
  exact NP.mk rfl
 ·go_enter Tryz.func163,Tryz.ntmps163
  go_wp2_with (go_at_call 143;refine (zcg _ _ h _).mono ?_;rintro e w2 ⟨rfl,rfl⟩)
  go_ret
  exact NP.mk rfl
theorem zuf (n:Int) (g:Bool) (h:inn n 0 200000=g) (w:World):Calls Tryz.prog 33 #[.int .i64 n] w (NP .i64 (if g then (0:Nat) else 10:Nat) w):=by
 cases g
 ·go_enter Tryz.func33,Tryz.ntmps33
  go_wp2_with (go_at_call 71;refine (zdt _ _ h _).mono ?_;rintro e w2 ⟨rfl,rfl⟩)
  go_ret
  exact NP.mk rfl
 ·go_enter Tryz.func33,Tryz.ntmps33
  go_wp2_with (go_at_call 71;refine (zdt _ _ h _).mono ?_;rintro e w2 ⟨rfl,rfl⟩)
  go_ret
  exact NP.mk rfl
theorem zc6 (n:Int) (hn:I64 n) (g:Bool) (h:sgn n=g) (w:World):Calls Tryz.prog 188 #[.int .i64 n] w (BP g w):=by
 unfold sgn at h
 by_cases h1:amt n=true
 ·have H:Hid (true=g):=by unfold Hid;rw [← h,h1];rfl
  clear h
  go_enter Tryz.func188,Tryz.ntmps188
  go_wp2_with (go_at_call 141;refine (zbh _ _ h1 _).mono ?_;rintro e w2 ⟨rfl,rfl⟩)
  go_ret
  exact BP.mk H.out
 ·have h1f:amt n=false:=by simpa using h1
  have h2:amt (wrap64 (-n))=g:=by
   rw [← h,h1f,show wrap64 (-n)=IntKind.i64.wrap (-n) from by unfold wrap64;rw [IntKind.wrap_i64]]
   by_cases hm:n = -9223372036854775808
   ·subst hm;decide
   ·have hr:IntKind.i64.wrap (-n) = -n:=by obtain ⟨ha,hb⟩:=hn;rw [IntKind.wrap_i64];omega
    rw [hr]
    unfold amt inn
    rw [Bool.eq_iff_iff]
    simp
    omega
  clear h
  go_enter Tryz.func188,Tryz.ntmps188
  go_wp2_with (go_at_call 141;first | (refine (zbh _ _ h1f _).mono ?_;rintro e w2 ⟨rfl,rfl⟩) | (refine (zbh _ _ h2 _).mono ?_;rintro e w2 ⟨rfl,rfl⟩))
  go_ret
  exact BP.mk rfl
end Go.Proofs.YtdmlgheajblcdaaGreat
namespace Go.Proofs.YtdmlgheajblcdaaGreat.N4
set_option maxHeartbeats 16000000
set_option maxRecDepth 100000
open Go.RowKit
set_option linter.unusedVariables false
set_option linter.unusedSimpArgs false
def bt (l:List UInt8) (i:Nat):Nat:=(l.getD i 0).toNat
def dg (a b c d:Nat):Nat × Nat × Bool:=
 if a<128 then (a,1,true)
 else if 194≤a∧a<224∧128≤b∧b<192 then ((a-192)*64+(b-128),2,true)
 else if 224≤a∧a<240∧128≤b∧b<192∧128≤c∧c<192∧2048≤(a-224)*4096+(b-128)*64+(c-128)∧((a-224)*4096+(b-128)*64+(c-128)<55296∨57343<(a-224)*4096+(b-128)*64+(c-128)) then ((a-224)*4096+(b-128)*64+(c-128),3,true)
 else if 240≤a∧a<245∧128≤b∧b<192∧128≤c∧c<192∧128≤d∧d<192∧65536≤(a-240)*262144+(b-128)*4096+(c-128)*64+(d-128)∧(a-240)*262144+(b-128)*4096+(c-128)*64+(d-128)<1114112 then ((a-240)*262144+(b-128)*4096+(c-128)*64+(d-128),4,true)
 else (65533,1,false)
def D (l:List UInt8) (p:Nat):Nat × Nat × Bool:=dg (bt l p) (bt l (p+1)) (bt l (p+2)) (bt l (p+3))
theorem zqt (s:ByteArray) (i:Nat):(s.get! i).toNat=bt s.data.toList i:=by
  unfold bt
  by_cases h:i<s.data.size
  · have : s.get! i = s.data[i] := by
      show s.data[i]! = _
      exact getElem!_pos s.data i h
    rw [this,List.getD_eq_getElem?_getD,Array.getElem?_toList,Array.getElem?_eq_getElem h]
    rfl
  · have : s.get! i = 0 := by
      show s.data[i]! = _
      rw [getElem!_neg s.data i h]
      rfl
    rw [this,List.getD_eq_getElem?_getD,Array.getElem?_toList,Array.getElem?_eq_none (by omega)]
    rfl
theorem zfd (l:List UInt8) (i:Nat):bt l i<256:=UInt8.toNat_lt _
theorem zfe {l:List UInt8} {i:Nat} (h:l.length≤i):bt l i=0:=by
 unfold bt
 rw [List.getD_eq_getElem?_getD,List.getElem?_eq_none h]
 rfl
theorem zj4 {p:Prop} [Decidable p] (a b:Nat × Nat × Bool):((if p then a else b).1,(if p then a else b).2.1)=if p then (a.1,a.2.1) else (b.1,b.2.1):=by
 split<;>rfl
theorem zhy (n:Nat):Utf8.valid (n:Int)=true↔(n<55296∨57344≤n∧n≤1114111):=by
 unfold Utf8.valid
 simp only [Bool.or_eq_true,Bool.and_eq_true,decide_eq_true_eq]
 omega
theorem zhz (s:ByteArray) (i:Nat):Utf8.decode s i=((D s.data.toList i).1,(D s.data.toList i).2.1):=by
 have hc:∀k,(decide (i+k<s.size)&&bt s.data.toList (i+k) / 64==2)=decide (128≤bt s.data.toList (i+k)∧bt s.data.toList (i+k)<192):=by
  intro k
  rw [Bool.eq_iff_iff,Bool.and_eq_true,beq_iff_eq,decide_eq_true_eq,decide_eq_true_eq]
  have hl:s.data.toList.length=s.size:=rfl
  by_cases h:i+k<s.size
  ·omega
  ·have:bt s.data.toList (i+k)=0:=zfe (by omega)
   omega
 unfold Utf8.decode D
 simp only [zqt,hc]
 have h0:=zfd s.data.toList i;have h1:=zfd s.data.toList (i+1);have h2:=zfd s.data.toList (i+2);have h3:=zfd s.data.toList (i+3)
 rw [Nat.add_zero]
 generalize bt s.data.toList i=a at *
 generalize bt s.data.toList (i+1)=b at *
 generalize bt s.data.toList (i+2)=c at *
 generalize bt s.data.toList (i+3)=d at *
 clear hc
 unfold dg
 simp only [zj4,Bool.and_eq_true,decide_eq_true_eq,beq_iff_eq,ge_iff_le,zhy,Utf8.runeError]
 by_cases k1:a<128
 ·rw [if_pos k1,if_pos k1]
 rw [if_neg k1,if_neg k1]
 by_cases k2:a<224
 ·rw [if_neg (c:=224≤a∧_) (by omega),if_neg (c:=240≤a∧_) (by omega),if_neg (c:=(a / 16=14∧_)∧_) (by omega),if_neg (c:=((a / 8=30∧_)∧_)∧_) (by omega)]
  repeat' split
  all_goals first | rfl | (exfalso;omega) | (congr 1;omega)
 rw [if_neg (c:=194≤a∧_) (by omega),if_neg (c:=a / 32=6∧_) (by omega)]
 by_cases k3:a<240
 ·rw [if_neg (c:=240≤a∧_) (by omega),if_neg (c:=((a / 8=30∧_)∧_)∧_) (by omega)]
  by_cases kb:(128≤b∧b<192)∧128≤c∧c<192
  ·have e3:a % 16*4096+b % 64*64+c % 64=(a-224)*4096+(b-128)*64+(c-128):=by omega
   rw [e3]
   repeat' split
   all_goals first | (exfalso;omega) | rfl
  ·rw [if_neg (by omega),if_neg (by omega)]
 ·rw [if_neg (c:=224≤a∧_) (by omega),if_neg (c:=(a / 16=14∧_)∧_) (by omega)]
  by_cases kb:(128≤b∧b<192)∧(128≤c∧c<192)∧128≤d∧d<192
  ·by_cases k5:a<248
   ·have e3:a % 8*262144+b % 64*4096+c % 64*64+d % 64=(a-240)*262144+(b-128)*4096+(c-128)*64+(d-128):=by omega
    rw [e3]
    have e4:245≤a→1114112≤(a-240)*262144+(b-128)*4096+(c-128)*64+(d-128):=by omega
    repeat' split
    all_goals first | (exfalso;omega) | rfl
   ·rw [if_neg (by omega),if_neg (by omega)]
  ·rw [if_neg (by omega),if_neg (by omega)]
theorem zxl (l:List UInt8) (p:Nat):D l p=dg (bt l p) (bt l (p+1)) (bt l (p+2)) (bt l (p+3)):=rfl
theorem zx6 (a b c d:Nat):1≤(dg a b c d).2.1∧(dg a b c d).2.1≤4:=by
 unfold dg
 repeat' split
 all_goals simp
theorem zg2 (l:List UInt8) (p:Nat):1≤(D l p).2.1:=(zx6 _ _ _ _).1
def Vl (c:Nat):Prop:=c<55296∨57343<c∧c<1114112
theorem znh {p:Prop} [Decidable p] (a b:Nat × Nat × Bool):(if p then a else b).1=if p then a.1 else b.1:=by split<;>rfl
theorem zx7 (a b c d:Nat):Vl (dg a b c d).1:=by
 unfold dg Vl
 simp only [znh]
 repeat' split
 all_goals omega
theorem D_V (l:List UInt8) (p:Nat):Vl (D l p).1:=zx7 _ _ _ _
theorem Vl.le {c:Nat} (h:Vl c):c<1114112:=by unfold Vl at h;omega
theorem zx8 (l:List UInt8) (p:Nat) (h:p<l.length):p+(D l p).2.1≤l.length:=by
 have e1:l.length≤p+1→bt l (p+1)=0:=fun h=>zfe h
 have e2:l.length≤p+2→bt l (p+2)=0:=fun h=>zfe h
 have e3:l.length≤p+3→bt l (p+3)=0:=fun h=>zfe h
 rw [zxl]
 generalize bt l (p+1)=b at *
 generalize bt l (p+2)=c at *
 generalize bt l (p+3)=d at *
 unfold dg
 repeat' split
 all_goals (try simp only);omega
def sgF (l:List UInt8):Nat→Nat→List (Nat × Nat × Bool)
 | 0,_=>[]
 | f+1,p=>if p<l.length then (p,(D l p).1,(D l p).2.2)::sgF l f (p+(D l p).2.1) else []
def sg (l:List UInt8) (p:Nat):List (Nat × Nat × Bool):=sgF l (l.length-p) p
theorem zgf (l:List UInt8):∀f g p,l.length≤p+f→l.length≤p+g→sgF l f p=sgF l g p
  | 0,0,_,_,_=>rfl
  | 0, g + 1, p, h, _ => by
    have:¬ p<l.length:=by omega
    simp [sgF,this]
  | f + 1, 0, p, _, h => by
    have:¬ p<l.length:=by omega
    simp [sgF,this]
  | f + 1, g + 1, p, h, k => by
    unfold sgF
    have:=zg2 l p
    rw [zgf l f g (p+(D l p).2.1) (by omega) (by omega)]
theorem zdp {l:List UInt8} {p:Nat} (h:l.length≤p):sg l p=[]:=by
 unfold sg
 rw [show l.length-p=0 by omega]
 rfl
theorem zdl {l:List UInt8} {p:Nat} (h:p<l.length):sg l p=(p,(D l p).1,(D l p).2.2)::sg l (p+(D l p).2.1):=by
 unfold sg
 obtain ⟨f,hf⟩:∃f,l.length-p=f+1:=⟨l.length-p-1,by omega⟩
 have:=zg2 l p
 rw [hf,sgF,if_pos h,zgf l f (l.length-(p+(D l p).2.1)) _ (by omega) (by omega)]
def cs (l:List UInt8) (p:Nat):List Nat:=(sg l p).map fun x=>x.2.1
def ps (l:List UInt8) (p:Nat):List Nat:=(sg l p).map fun x=>x.1
def ok (l:List UInt8) (p:Nat):Bool:=(sg l p).all fun x=>x.2.2
theorem zqu {l:List UInt8} {p:Nat} (h:l.length≤p):cs l p=[]:=by simp [cs,zdp h]
theorem zqv {l:List UInt8} {p:Nat} (h:l.length≤p):ps l p=[]:=by simp [ps,zdp h]
theorem zqw {l:List UInt8} {p:Nat} (h:l.length≤p):ok l p=true:=by simp [ok,zdp h]
theorem zni {l:List UInt8} {p:Nat} (h:p<l.length):cs l p=(D l p).1::cs l (p+(D l p).2.1):=by simp [cs,zdl h]
theorem znj {l:List UInt8} {p:Nat} (h:p<l.length):ps l p=p::ps l (p+(D l p).2.1):=by simp [ps,zdl h]
theorem znk {l:List UInt8} {p:Nat} (h:p<l.length):ok l p=((D l p).2.2&&ok l (p+(D l p).2.1)):=by simp [ok,zdl h]
theorem zu6 (l:List UInt8) (p:Nat):(cs l p).length=(ps l p).length:=by simp [cs,ps]
theorem zk8 (l:List UInt8):∀n p,l.length≤p+n→(sg l p).length≤n
  | 0,p,h=>by rw [zdp (by omega)];simp
  | n + 1, p, h => by
    by_cases hp:p<l.length
    · have := zg2 l p
      have:=zk8 l n (p+(D l p).2.1) (by omega)
      rw [zdl hp,List.length_cons]
      omega
    · rw [zdp (by omega)];simp
theorem zqx (l:List UInt8):(cs l 0).length≤l.length:=by
 have:=zk8 l l.length 0 (by omega)
 simpa [cs] using this
theorem zxm (l:List UInt8):∀n p,l.length≤p+n→∀x ∈ sg l p,Vl x.2.1∧p≤x.1∧x.1<l.length
  | 0,p,h=>by rw [zdp (by omega)];simp
  | n + 1, p, h => by
    by_cases hp:p<l.length
    · have hd := zg2 l p
      have ih:=zxm l n (p+(D l p).2.1) (by omega)
      rw [zdl hp]
      intro x hx
      rcases List.mem_cons.1 hx with rfl | hx
      · exact ⟨D_V l p,Nat.le_refl _,hp⟩
      · have := ih x hx
        exact ⟨this.1,by omega,this.2.2⟩
    · rw [zdp (by omega)];simp
theorem zx9 (l:List UInt8) (p:Nat):∀c ∈ cs l p,Vl c:=by
 intro c hc
 obtain ⟨x,hx,rfl⟩:=List.mem_map.1 hc
 exact (zxm l l.length p (by omega) x hx).1
abbrev Let (c:Nat):Prop:=97≤c∧c≤122∨65≤c∧c≤90∨192≤c∧c≤383∧c≠215∧c≠247
abbrev Dig (c:Nat):Prop:=48≤c∧c≤57
abbrev Jnt (c:Nat):Prop:=c=32∨c=45∨c=46∨c=38∨c=39
abbrev Bad (k last c:Nat):Prop:=¬ Let c∧(k=0∨¬ Dig c∧¬ Jnt c)∨0<k∧c=32∧Jnt last∧last≠46∧last≠38
def zev (z:Nat):List (Nat × Nat × Bool)→Nat→Nat→Nat × Nat
 | [],k,last=>(z,if k=0∨last=32 then 11 else 0)
 | x::L,k,last=>if k=40 then (x.1,2) else if Bad k last x.2.1 then (x.1,11) else zev z L (k+1) x.2.1
def BP (p:Prop) [Decidable p] (w:World) (e:Ending) (w':World):Prop:=e=.returned (.bool (decide p))∧w=w'
theorem BP.t {p:Prop} [Decidable p] {w:World} (h:p):BP p w (.returned (.bool true)) w:=⟨by rw [decide_eq_true h],rfl⟩
theorem BP.f {p:Prop} [Decidable p] {w:World} (h:¬ p):BP p w (.returned (.bool false)) w:=⟨by rw [decide_eq_false h],rfl⟩
theorem BP.b {p:Prop} [Decidable p] {w:World} {b:Bool} (h:b=true↔p):BP p w (.returned (.bool b)) w:=⟨by rw [Bool.eq_iff_iff.2 (h.trans decide_eq_true_iff.symm)],rfl⟩
theorem calls_t {p:Prop} [Decidable p] {f:Nat} {args:Array Value} {w:World} (h:Calls Tryz.prog f args w (BP p w)) (hp:p):Calls Tryz.prog f args w fun e w'=>e=.returned (.bool true)∧w=w':=
 h.mono fun e w' ⟨he,hw⟩=>⟨by rw [he,decide_eq_true hp],hw⟩
theorem calls_f {p:Prop} [Decidable p] {f:Nat} {args:Array Value} {w:World} (h:Calls Tryz.prog f args w (BP p w)) (hp:¬ p):Calls Tryz.prog f args w fun e w'=>e=.returned (.bool false)∧w=w':=
 h.mono fun e w' ⟨he,hw⟩=>⟨by rw [he,decide_eq_false hp],hw⟩
def NP (k:IntKind) (n:Int) (w:World) (e:Ending) (w':World):Prop:=e=.returned (.int k n)∧w=w'
theorem NP.mk {k:IntKind} {n m:Int} {w:World} (h:m=n):NP k n w (.returned (.int k m)) w:=⟨by rw [h],rfl⟩
theorem xletter (c:Nat) (hc:c<1114112) (w:World):Calls Tryz.prog 168 #[.int .i32 c] w (BP (Let c) w):=by
 go_enter Tryz.func168,Tryz.ntmps168
 go_wp2_with go_in
 all_goals go_ret
 all_goals first | exact BP.t (by omega) | exact BP.f (by omega) | (refine BP.b ?_;simp only [Bool.and_eq_true,Bool.or_eq_true,decide_eq_true_eq,bne_iff_ne,ne_eq,beq_iff_eq];omega)
theorem xdigit (c:Nat) (hc:c<1114112) (w:World):Calls Tryz.prog 172 #[.int .i32 c] w (BP (Dig c) w):=by
 go_enter Tryz.func172,Tryz.ntmps172
 go_wp2_with go_in
 all_goals go_ret
 all_goals first | exact BP.t (by omega) | exact BP.f (by omega) | (refine BP.b ?_;simp only [Bool.and_eq_true,Bool.or_eq_true,decide_eq_true_eq,bne_iff_ne,ne_eq,beq_iff_eq];omega)
theorem zgg (c:Nat) (hc:c<1114112) (w:World):Calls Tryz.prog 171 #[.int .i32 c] w (BP (Jnt c) w):=by
 by_cases h:Jnt c
 ·rcases h with rfl | rfl | rfl | rfl | rfl
  all_goals
   go_enter Tryz.func171,Tryz.ntmps171
   go_wp2_with go_in
   go_ret
   exact BP.t (by decide)
 ·have h1:((c:Int)==32)=false:=beq_eq_false_iff_ne.2 (by omega)
  have h2:((c:Int)==45)=false:=beq_eq_false_iff_ne.2 (by omega)
  have h3:((c:Int)==46)=false:=beq_eq_false_iff_ne.2 (by omega)
  have h4:((c:Int)==38)=false:=beq_eq_false_iff_ne.2 (by omega)
  have h5:((c:Int)==39)=false:=beq_eq_false_iff_ne.2 (by omega)
  have H:Hid (¬ Jnt c):=h
  clear h
  go_enter Tryz.func171,Tryz.ntmps171
  go_wp2_with go_in
  go_ret
  exact BP.f H.out
abbrev May (a c:Nat):Prop:=(c=32∧(a=46∨a=38∨¬ Jnt a))∨(c≠32∧(Let c∨Dig c∨Jnt c))
theorem zug (a c:Nat) (ha:a<1114112) (hc:c<1114112) (w:World):Calls Tryz.prog 169 #[.int .i32 a,.int .i32 c] w (BP (May a c) w):=by
 by_cases h:c=32
 ·subst h
  by_cases h1:a=46
  ·subst h1
   go_enter Tryz.func169,Tryz.ntmps169
   go_wp2_with fail
   go_ret
   exact BP.t (by decide)
  by_cases h2:a=38
  ·subst h2
   go_enter Tryz.func169,Tryz.ntmps169
   go_wp2_with fail
   go_ret
   exact BP.t (by decide)
  have g1:((a:Int)==46)=false:=beq_eq_false_iff_ne.2 (by omega)
  have g2:((a:Int)==38)=false:=beq_eq_false_iff_ne.2 (by omega)
  have H1:Hid (¬ a=46):=h1
  have H2:Hid (¬ a=38):=h2
  clear h1 h2
  by_cases h3:Jnt a
  ·have H3:Hid (Jnt a):=h3
   clear h3
   go_enter Tryz.func169,Tryz.ntmps169
   go_wp2_with fail
   refine (calls_t (zgg a ha _) H3.out).mono ?_
   rintro e w1 ⟨rfl,rfl⟩
   go_wp2_with fail
   go_ret
   exact BP.f (by have:=H1.out;have:=H2.out;have:=H3.out;omega)
  ·have H3:Hid (¬ Jnt a):=h3
   clear h3
   go_enter Tryz.func169,Tryz.ntmps169
   go_wp2_with fail
   refine (calls_f (zgg a ha _) H3.out).mono ?_
   rintro e w1 ⟨rfl,rfl⟩
   go_wp2_with fail
   go_ret
   exact BP.t (Or.inl ⟨rfl,Or.inr (Or.inr H3.out)⟩)
 ·have g:((c:Int)==32)=false:=beq_eq_false_iff_ne.2 (by omega)
  have H:Hid (¬ c=32):=h
  clear h
  by_cases h1:Let c
  ·have H1:Hid (Let c):=h1
   clear h1
   go_enter Tryz.func169,Tryz.ntmps169
   go_wp2_with fail
   refine (calls_t (xletter c hc _) H1.out).mono ?_
   rintro e w1 ⟨rfl,rfl⟩
   go_wp2_with fail
   go_ret
   exact BP.t (Or.inr ⟨H.out,Or.inl H1.out⟩)
  by_cases h2:Dig c
  ·have H1:Hid (¬ Let c):=h1
   have H2:Hid (Dig c):=h2
   clear h1 h2
   go_enter Tryz.func169,Tryz.ntmps169
   go_wp2_with fail
   refine (calls_f (xletter c hc _) H1.out).mono ?_
   rintro e w1 ⟨rfl,rfl⟩
   go_wp2_with fail
   refine (calls_t (xdigit c hc _) H2.out).mono ?_
   rintro e w1 ⟨rfl,rfl⟩
   go_wp2_with fail
   go_ret
   exact BP.t (Or.inr ⟨H.out,Or.inr (Or.inl H2.out)⟩)
  have H1:Hid (¬ Let c):=h1
  have H2:Hid (¬ Dig c):=h2
  clear h1 h2
  by_cases h3:Jnt c
  ·have H3:Hid (Jnt c):=h3
   clear h3
   go_enter Tryz.func169,Tryz.ntmps169
   go_wp2_with fail
   refine (calls_f (xletter c hc _) H1.out).mono ?_
   rintro e w1 ⟨rfl,rfl⟩
   go_wp2_with fail
   refine (calls_f (xdigit c hc _) H2.out).mono ?_
   rintro e w1 ⟨rfl,rfl⟩
   go_wp2_with fail
   refine (calls_t (zgg c hc _) H3.out).mono ?_
   rintro e w1 ⟨rfl,rfl⟩
   go_wp2_with fail
   go_ret
   exact BP.t (Or.inr ⟨H.out,Or.inr (Or.inr H3.out)⟩)
  ·have H3:Hid (¬ Jnt c):=h3
   clear h3
   go_enter Tryz.func169,Tryz.ntmps169
   go_wp2_with fail
   refine (calls_f (xletter c hc _) H1.out).mono ?_
   rintro e w1 ⟨rfl,rfl⟩
   go_wp2_with fail
   refine (calls_f (xdigit c hc _) H2.out).mono ?_
   rintro e w1 ⟨rfl,rfl⟩
   go_wp2_with fail
   refine (calls_f (zgg c hc _) H3.out).mono ?_
   rintro e w1 ⟨rfl,rfl⟩
   go_wp2_with fail
   go_ret
   exact BP.f (by have h1:=H1.out;have h2:=H2.out;have h3:=H3.out;have h:=H.out;rintro (⟨k,_⟩ | ⟨_,k | k | k⟩);exact h k;exact h1 k;exact h2 k;exact h3 k)
def atv (s:ByteArray) (j:Int):Int:=if j<s.size then (bt s.data.toList j.toNat:Int) else -1
theorem rat (s:ByteArray) (j:Int) (h0:0≤j) (w:World):Calls Tryz.prog 119 #[.string s,.int .i64 j] w fun e w'=>e=.returned (.int .i64 (atv s j))∧w=w':=by
 obtain ⟨i,rfl⟩:=Int.eq_ofNat_of_zero_le h0
 by_cases h:i<s.size
 ·have h':(i:Int)<(s.size:Int):=by omega
  have H:Hid (atv s i=(s[i].toNat:Int)):=by
   unfold Hid atv
   rw [if_pos h',Int.toNat_natCast,bt,List.getD_eq_getElem?_getD]
   have:s.data.toList[i]? = some s[i]:=Lib.data_getElem? s i h
   rw [this]
   rfl
  have hb:(s[i].toNat:Int)<256:=by have:=s[i].toNat_lt;omega
  go_enter Tryz.func119,Tryz.ntmps119
  go_wp2_with fail
  go_ret
  exact ⟨by rw [H.out];rfl,rfl⟩
 ·have h':¬ (i:Int)<(s.size:Int):=by omega
  have H:Hid (atv s i = -1):=by
   unfold Hid atv
   rw [if_neg h']
  go_enter Tryz.func119,Tryz.ntmps119
  go_wp2_with fail
  go_ret
  exact ⟨by rw [H.out];rfl,rfl⟩
theorem zca (c:Int) (w:World):Calls Tryz.prog 120 #[.int .i64 c] w (BP (128≤c∧c<192) w):=by
 go_enter Tryz.func120,Tryz.ntmps120
 go_wp2_with fail
 all_goals go_ret
 all_goals first | exact BP.t (by omega) | exact BP.f (by omega) | (refine BP.b ?_;simp only [Bool.and_eq_true,Bool.or_eq_true,decide_eq_true_eq,bne_iff_ne,ne_eq,beq_iff_eq];omega)
theorem zh0 (s:ByteArray) (j:Int) (h0:0≤j):(atv s j=(bt s.data.toList j.toNat:Int)∨(atv s j = -1∧bt s.data.toList j.toNat=0)):=by
 unfold atv
 split
 ·exact .inl rfl
 ·refine .inr ⟨rfl,zfe ?_⟩
  have:s.data.toList.length=s.size:=rfl
  omega
def SP (x:Nat × Nat × Bool) (w:World) (e:Ending) (w':World):Prop:=e=.returned (.tuple #[.int .i64 x.1,.int .i64 x.2.1,.bool x.2.2])∧w=w'
theorem SP.mk {x:Nat × Nat × Bool} {w:World} {n k:Int} {b:Bool} (h:x=(n.toNat,k.toNat,b)) (hn:0≤n) (hk:0≤k):SP x w (.returned (.tuple #[.int .i64 n,.int .i64 k,.bool b])) w:=by
 subst h
 refine ⟨?_,rfl⟩
 rw [show ((n.toNat,k.toNat,b).1:Int)=n from Int.toNat_of_nonneg hn,show (((n.toNat,k.toNat,b).2.1:Nat):Int)=k from Int.toNat_of_nonneg hk]
theorem zeh {a b c d:Nat} (h1:¬ a<128) (h2:¬ (194≤a∧a<224∧128≤b∧b<192)) (h3:¬ (224≤a∧a<240∧128≤b∧b<192∧128≤c∧c<192∧2048≤(a-224)*4096+(b-128)*64+(c-128)∧((a-224)*4096+(b-128)*64+(c-128)<55296∨57343<(a-224)*4096+(b-128)*64+(c-128))))
  (h4:¬ (240≤a∧a<245∧128≤b∧b<192∧128≤c∧c<192∧128≤d∧d<192∧65536≤(a-240)*262144+(b-128)*4096+(c-128)*64+(d-128)∧(a-240)*262144+(b-128)*4096+(c-128)*64+(d-128)<1114112)):dg a b c d=(65533,1,false):=by
 unfold dg
 rw [if_neg h1,if_neg h2,if_neg h3,if_neg h4]
theorem zu7 (s:ByteArray) (i:Int) (h0:0≤i) (hi:i<s.size) (hs:(s.size:Int)≤140737488355328) (w:World):Calls Tryz.prog 116 #[.string s,.int .i64 i] w (SP (D s.data.toList i.toNat) w):=by
  have e1:(i+1).toNat=i.toNat+1:=by omega
  have e2:(i+2).toNat=i.toNat+2:=by omega
  have e3:(i+3).toNat=i.toNat+3:=by omega
  have F0:atv s i=(bt s.data.toList i.toNat:Int):=by unfold atv;rw [if_pos hi]
  have F1:=zh0 s (i+1) (by omega)
  have F2:=zh0 s (i+2) (by omega)
  have F3:=zh0 s (i+3) (by omega)
  rw [e1] at F1;rw [e2] at F2;rw [e3] at F3
  have hA:=zfd s.data.toList i.toNat
  have hB:=zfd s.data.toList (i.toNat+1)
  have hC:=zfd s.data.toList (i.toNat+2)
  have hD:=zfd s.data.toList (i.toNat+3)
  rw [zxl]
  generalize bt s.data.toList i.toNat=A at *
  generalize bt s.data.toList (i.toNat+1)=B at *
  generalize bt s.data.toList (i.toNat+2)=C at *
  generalize bt s.data.toList (i.toNat+3)=E at *
  clear e1 e2 e3
  have Ha:Hid (atv s i=(A:Int)):=F0
  have hb0 : -1≤atv s (i+1):=by omega
  have hb1:atv s (i+1)<256:=by omega
  have hc0 : -1≤atv s (i+2):=by omega
  have hc1:atv s (i+2)<256:=by omega
  have hd0 : -1≤atv s (i+3):=by omega
  have hd1:atv s (i+3)<256:=by omega
  have ha0:0≤atv s i:=by omega
  have ha1:atv s i<256:=by omega
  have HF:Hid ((atv s (i+1)=(B:Int)∨(atv s (i+1) = -1∧B=0))∧(atv s (i+2)=(C:Int)∨(atv s (i+2) = -1∧C=0))∧(atv s (i+3)=(E:Int)∨(atv s (i+3) = -1∧E=0))):=⟨F1,F2,F3⟩
  clear F0 F1 F2 F3
  by_cases k1:atv s i<128
  · have H : Hid (dg A B C E = (A, 1, true)) := by
      unfold Hid dg
      rw [if_pos (by have:=Ha.out;omega)]
    clear hA hB hC hD
    go_enter Tryz.func116,Tryz.ntmps116
    go_wp2_with (first | (go_at_call 119;refine (rat _ _ (by omega) _).mono ?_;rintro e w1 ⟨rfl,rfl⟩) | (go_at_call 120;refine (calls_t (zca _ _) (by omega)).mono ?_;rintro e w1 ⟨rfl,rfl⟩) | (go_at_call 120;refine (calls_f (zca _ _) (by omega)).mono ?_;rintro e w1 ⟨rfl,rfl⟩))
    go_ret3
    exact SP.mk (by rw [H.out,Ha.out];rfl) (by have:=Ha.out;omega) (by omega)
  by_cases k2:atv s i<194
  · have H : Hid (dg A B C E = (65533, 1, false)) := zeh (by have := Ha.out; omega) (by have := Ha.out; omega) (by have := Ha.out; omega) (by have := Ha.out; omega)
    have q1:¬ 194≤atv s i:=by omega
    have q2:¬ 224≤atv s i:=by omega
    have q3:¬ 240≤atv s i:=by omega
    clear hA hB hC hD
    go_enter Tryz.func116,Tryz.ntmps116
    go_wp2_with (first | (go_at_call 119;refine (rat _ _ (by omega) _).mono ?_;rintro e w1 ⟨rfl,rfl⟩) | (go_at_call 120;refine (calls_t (zca _ _) (by omega)).mono ?_;rintro e w1 ⟨rfl,rfl⟩) | (go_at_call 120;refine (calls_f (zca _ _) (by omega)).mono ?_;rintro e w1 ⟨rfl,rfl⟩))
    go_ret3
    exact SP.mk (by rw [H.out];rfl) (by omega) (by omega)
  have q1:194≤atv s i:=by omega
  by_cases k3:atv s i<224
  · have q2 : ¬ 224 ≤ atv s i := by omega
    have q3:¬ 240≤atv s i:=by omega
    by_cases k4:128≤atv s (i+1)∧atv s (i+1)<192
    · have H : Hid (dg A B C E = (((atv s i - 192) * 64 + atv s (i + 1) - 128).toNat, 2, true)) := by
        have:=Ha.out
        have:=HF.out.1
        unfold Hid dg
        rw [if_neg (by omega),if_pos (by omega)]
        exact Prod.ext (by show (A-192)*64+(B-128)=_;omega) rfl
      obtain ⟨k5,k6⟩:=k4
      clear hA hB hC hD
      go_enter Tryz.func116,Tryz.ntmps116
      go_wp2_with (first | (go_at_call 119;refine (rat _ _ (by omega) _).mono ?_;rintro e w1 ⟨rfl,rfl⟩) | (go_at_call 120;refine (calls_t (zca _ _) (by omega)).mono ?_;rintro e w1 ⟨rfl,rfl⟩) | (go_at_call 120;refine (calls_f (zca _ _) (by omega)).mono ?_;rintro e w1 ⟨rfl,rfl⟩))
      go_ret3
      exact SP.mk (by rw [H.out];rfl) (by omega) (by omega)
    · have H : Hid (dg A B C E = (65533, 1, false)) := zeh (by have := Ha.out; omega) (by have := HF.out.1; omega) (by have := Ha.out; omega) (by have := Ha.out; omega)
      have K4:Hid _:=k4
      clear hA hB hC hD k4
      go_enter Tryz.func116,Tryz.ntmps116
      go_wp2_with (first | (go_at_call 119;refine (rat _ _ (by omega) _).mono ?_;rintro e w1 ⟨rfl,rfl⟩) | (go_at_call 120;refine (calls_t (zca _ _) (by omega)).mono ?_;rintro e w1 ⟨rfl,rfl⟩) | (go_at_call 120;refine (calls_f (zca _ _) K4.out).mono ?_;rintro e w1 ⟨rfl,rfl⟩))
      go_ret3
      exact SP.mk (by rw [H.out];rfl) (by omega) (by omega)
  have q2:224≤atv s i:=by omega
  by_cases k4:atv s i<240
  · have q3 : ¬ 240 ≤ atv s i := by omega
    by_cases k5:128≤atv s (i+1)∧atv s (i+1)<192
    · by_cases k6 : 128 ≤ atv s (i + 2) ∧ atv s (i + 2) < 192
      · have HF' := HF.out
        have HA':=Ha.out
        have H3:Hid (2048≤(atv s i-224)*4096+(atv s (i+1)-128)*64+atv s (i+2)-128∧((atv s i-224)*4096+(atv s (i+1)-128)*64+atv s (i+2)-128<55296∨57343<(atv s i-224)*4096+(atv s (i+1)-128)*64+atv s (i+2)-128)→dg A B C E=(((atv s i-224)*4096+(atv s (i+1)-128)*64+atv s (i+2)-128).toNat,3,true)):=by
          intro hn
          unfold dg
          rw [if_neg (by omega),if_neg (by omega),if_pos (by omega)]
          exact Prod.ext (by show (A-224)*4096+(B-128)*64+(C-128)=_;omega) rfl
        have HB:Hid (¬ (2048≤(atv s i-224)*4096+(atv s (i+1)-128)*64+atv s (i+2)-128∧((atv s i-224)*4096+(atv s (i+1)-128)*64+atv s (i+2)-128<55296∨57343<(atv s i-224)*4096+(atv s (i+1)-128)*64+atv s (i+2)-128))→dg A B C E=(65533,1,false)):=by
          intro hn
          exact zeh (by omega) (by omega) (by omega) (by omega)
        obtain ⟨k5,k7⟩:=k5
        obtain ⟨k6,k8⟩:=k6
        clear hA hB hC hD HF' HA'
        go_enter Tryz.func116,Tryz.ntmps116
        go_wp2_with (first | (go_at_call 119;refine (rat _ _ (by omega) _).mono ?_;rintro e w1 ⟨rfl,rfl⟩) | (go_at_call 120;refine (calls_t (zca _ _) (by omega)).mono ?_;rintro e w1 ⟨rfl,rfl⟩) | (go_at_call 120;refine (calls_f (zca _ _) (by omega)).mono ?_;rintro e w1 ⟨rfl,rfl⟩))
        all_goals go_ret3
        all_goals first
          | exact SP.mk (by rw [H3.out (by omega)];rfl) (by omega) (by omega)
          | exact SP.mk (by rw [HB.out (by omega)];rfl) (by omega) (by omega)
      · have H : Hid (dg A B C E = (65533, 1, false)) := zeh (by have := Ha.out; omega) (by have := Ha.out; omega) (by have := HF.out; omega) (by have := Ha.out; omega)
        have K:Hid _:=k6
        obtain ⟨k5,k7⟩:=k5
        clear hA hB hC hD k6
        go_enter Tryz.func116,Tryz.ntmps116
        go_wp2_with (first | (go_at_call 119;refine (rat _ _ (by omega) _).mono ?_;rintro e w1 ⟨rfl,rfl⟩) | (go_at_call 120;refine (calls_t (zca _ _) (by omega)).mono ?_;rintro e w1 ⟨rfl,rfl⟩) | (go_at_call 120;refine (calls_f (zca _ _) K.out).mono ?_;rintro e w1 ⟨rfl,rfl⟩))
        go_ret3
        exact SP.mk (by rw [H.out];rfl) (by omega) (by omega)
    · have H : Hid (dg A B C E = (65533, 1, false)) := zeh (by have := Ha.out; omega) (by have := Ha.out; omega) (by have := HF.out; omega) (by have := Ha.out; omega)
      have K:Hid _:=k5
      clear hA hB hC hD k5
      go_enter Tryz.func116,Tryz.ntmps116
      go_wp2_with (first | (go_at_call 119;refine (rat _ _ (by omega) _).mono ?_;rintro e w1 ⟨rfl,rfl⟩) | (go_at_call 120;refine (calls_t (zca _ _) (by omega)).mono ?_;rintro e w1 ⟨rfl,rfl⟩) | (go_at_call 120;refine (calls_f (zca _ _) K.out).mono ?_;rintro e w1 ⟨rfl,rfl⟩))
      go_ret3
      exact SP.mk (by rw [H.out];rfl) (by omega) (by omega)
  have q3:240≤atv s i:=by omega
  by_cases k5:atv s i<245
  · by_cases k6 : 128 ≤ atv s (i + 1) ∧ atv s (i + 1) < 192
    · by_cases k7 : 128 ≤ atv s (i + 2) ∧ atv s (i + 2) < 192
      · by_cases k8 : 128 ≤ atv s (i + 3) ∧ atv s (i + 3) < 192
        · have HF' := HF.out
          have HA':=Ha.out
          have H3:Hid (65536≤(atv s i-240)*262144+(atv s (i+1)-128)*4096+(atv s (i+2)-128)*64+atv s (i+3)-128∧(atv s i-240)*262144+(atv s (i+1)-128)*4096+(atv s (i+2)-128)*64+atv s (i+3)-128<1114112→dg A B C E=(((atv s i-240)*262144+(atv s (i+1)-128)*4096+(atv s (i+2)-128)*64+atv s (i+3)-128).toNat,4,true)):=by
            intro hn
            unfold dg
            rw [if_neg (by omega),if_neg (by omega),if_neg (by omega),if_pos (by omega)]
            exact Prod.ext (by show (A-240)*262144+(B-128)*4096+(C-128)*64+(E-128)=_;omega) rfl
          have HB:Hid (¬ (65536≤(atv s i-240)*262144+(atv s (i+1)-128)*4096+(atv s (i+2)-128)*64+atv s (i+3)-128∧(atv s i-240)*262144+(atv s (i+1)-128)*4096+(atv s (i+2)-128)*64+atv s (i+3)-128<1114112)→dg A B C E=(65533,1,false)):=by
            intro hn
            exact zeh (by omega) (by omega) (by omega) (by omega)
          obtain ⟨k6,k9⟩:=k6
          obtain ⟨k7,k10⟩:=k7
          obtain ⟨k8,k11⟩:=k8
          clear hA hB hC hD HF' HA'
          go_enter Tryz.func116,Tryz.ntmps116
          go_wp2_with (first | (go_at_call 119;refine (rat _ _ (by omega) _).mono ?_;rintro e w1 ⟨rfl,rfl⟩) | (go_at_call 120;refine (calls_t (zca _ _) (by omega)).mono ?_;rintro e w1 ⟨rfl,rfl⟩) | (go_at_call 120;refine (calls_f (zca _ _) (by omega)).mono ?_;rintro e w1 ⟨rfl,rfl⟩))
          all_goals go_ret3
          all_goals first
            | exact SP.mk (by rw [H3.out (by omega)];rfl) (by omega) (by omega)
            | exact SP.mk (by rw [HB.out (by omega)];rfl) (by omega) (by omega)
        · have H : Hid (dg A B C E = (65533, 1, false)) := zeh (by have := Ha.out; omega) (by have := Ha.out; omega) (by have := Ha.out; omega) (by have := HF.out; omega)
          have K:Hid _:=k8
          obtain ⟨k6,k9⟩:=k6
          obtain ⟨k7,k10⟩:=k7
          clear hA hB hC hD k8
          go_enter Tryz.func116,Tryz.ntmps116
          go_wp2_with (first | (go_at_call 119;refine (rat _ _ (by omega) _).mono ?_;rintro e w1 ⟨rfl,rfl⟩) | (go_at_call 120;refine (calls_t (zca _ _) (by omega)).mono ?_;rintro e w1 ⟨rfl,rfl⟩) | (go_at_call 120;refine (calls_f (zca _ _) K.out).mono ?_;rintro e w1 ⟨rfl,rfl⟩))
          go_ret3
          exact SP.mk (by rw [H.out];rfl) (by omega) (by omega)
      · have H : Hid (dg A B C E = (65533, 1, false)) := zeh (by have := Ha.out; omega) (by have := Ha.out; omega) (by have := Ha.out; omega) (by have := HF.out; omega)
        have K:Hid _:=k7
        obtain ⟨k6,k9⟩:=k6
        clear hA hB hC hD k7
        go_enter Tryz.func116,Tryz.ntmps116
        go_wp2_with (first | (go_at_call 119;refine (rat _ _ (by omega) _).mono ?_;rintro e w1 ⟨rfl,rfl⟩) | (go_at_call 120;refine (calls_t (zca _ _) (by omega)).mono ?_;rintro e w1 ⟨rfl,rfl⟩) | (go_at_call 120;refine (calls_f (zca _ _) K.out).mono ?_;rintro e w1 ⟨rfl,rfl⟩))
        go_ret3
        exact SP.mk (by rw [H.out];rfl) (by omega) (by omega)
    · have H : Hid (dg A B C E = (65533, 1, false)) := zeh (by have := Ha.out; omega) (by have := Ha.out; omega) (by have := Ha.out; omega) (by have := HF.out; omega)
      have K:Hid _:=k6
      clear hA hB hC hD k6
      go_enter Tryz.func116,Tryz.ntmps116
      go_wp2_with (first | (go_at_call 119;refine (rat _ _ (by omega) _).mono ?_;rintro e w1 ⟨rfl,rfl⟩) | (go_at_call 120;refine (calls_t (zca _ _) (by omega)).mono ?_;rintro e w1 ⟨rfl,rfl⟩) | (go_at_call 120;refine (calls_f (zca _ _) K.out).mono ?_;rintro e w1 ⟨rfl,rfl⟩))
      go_ret3
      exact SP.mk (by rw [H.out];rfl) (by omega) (by omega)
  · have H : Hid (dg A B C E = (65533, 1, false)) := zeh (by have := Ha.out; omega) (by have := Ha.out; omega) (by have := Ha.out; omega) (by have := Ha.out; omega)
    clear hA hB hC hD
    go_enter Tryz.func116,Tryz.ntmps116
    go_wp2_with (first | (go_at_call 119;refine (rat _ _ (by omega) _).mono ?_;rintro e w1 ⟨rfl,rfl⟩) | (go_at_call 120;refine (calls_t (zca _ _) (by omega)).mono ?_;rintro e w1 ⟨rfl,rfl⟩) | (go_at_call 120;refine (calls_f (zca _ _) (by omega)).mono ?_;rintro e w1 ⟨rfl,rfl⟩))
    go_ret3
    exact SP.mk (by rw [H.out];rfl) (by omega) (by omega)
def NB (n:Int) (w:World) (e:Ending) (w':World):Prop:=e=.returned (.int .i64 n)∧Below w.heap.size w w'
theorem NB.mk {n m:Int} {w w':World} (h:m=n) (hb:Below w.heap.size w w'):NB n w (.returned (.int .i64 m)) w':=⟨by rw [h],hb⟩
theorem zqy (w:World) (s:ByteArray) (pos:Nat) (ty:TypeId) (h:pos<s.size) :
  (Instr.next (.pointer (some ⟨w.heap.size,0,none⟩)) true ty).run Tryz.prog (w.iter s pos) =
   .ok (.tuple #[.bool true,.int .i64 pos,.int .i32 (D s.data.toList pos).1]) (w.iter s (pos+(D s.data.toList pos).2.1)):=by
 rw [run_next_any w s pos ty h,zhz]
theorem zb5 (w:World) (s:ByteArray) (pos:Nat):Below w.heap.size w (w.iter s pos):=(Below.refl _ w).alloc (Nat.le_refl _) _
def TB (x:Nat × Nat) (w:World) (e:Ending) (w':World):Prop:=e=.returned (.tuple #[.int .i64 x.1,.int .i64 x.2])∧Below w.heap.size w w'
theorem TB.mk {x:Nat × Nat} {a b:Int} {w w':World} (h:a=x.1) (h2:b=x.2) (hb:Below w.heap.size w w'):TB x w (.returned (.tuple #[.int .i64 a,.int .i64 b])) w':=⟨by rw [h,h2],hb⟩
theorem Tryz.info3:(Tryz.prog.info? 3).map (fun i=>(i.zero,i.size,i.bytes))=some (some (.int .i64 0),1,8):=by kernel_rfl
def cells (k:IntKind) (xs:List Nat):List Value:=xs.map fun c:Nat=>Value.int k (c:Int)
theorem zg3 (k:IntKind) (xs:List Nat) (c:Nat):cells k (xs++[c])=cells k xs++[Value.int k (c:Int)]:=by simp [cells]
def Seg (k:IntKind) (w:World) (v:Value) (xs:List Nat):Prop:=
 ∃a cap,v=.slice a xs.length cap∧(xs≠[]→∃b,a=some ⟨b,0,none⟩∧b<w.heap.size∧∀j,j<xs.length→w.cell? ⟨b,j,none⟩=some (.int k ((xs.getD j 0:Nat):Int)))
theorem Seg.below {k:IntKind} {w w':World} {v:Value} {xs:List Nat} (h:Seg k w v xs) (hb:Below w.heap.size w w'):Seg k w' v xs:=by
 obtain ⟨a,cap,rfl,h2⟩:=h
 refine ⟨a,cap,rfl,fun hx=>?_⟩
 obtain ⟨b,rfl,hlt,hc⟩:=h2 hx
 exact ⟨b,rfl,Nat.lt_of_lt_of_le hlt hb.size,fun j hj=>(hb.cell (by exact hlt)).trans (hc j hj)⟩
theorem Seg.of_owns {k:IntKind} {w:World} {base e:Nat} {v:Value} {xs:List Nat} (h:w.ownsRow base e 1 v xs.length (cells k xs)):Seg k w v xs:=by
  by_cases h0:0<xs.length
  · obtain ⟨g, cap, hv, hb, hlt⟩ : ∃ g cap, v = .slice (some ⟨g, 0, none⟩) xs.length cap ∧ base ≤ g ∧ g < w.heap.size := by
      rcases h.2 with ⟨_,hn⟩ | ⟨g,cap,cur,hv,hb,hg,_⟩
      · omega
      · exact ⟨g,cap,hv,hb,(Array.getElem?_eq_some_iff.1 hg).1⟩
    refine ⟨_,cap,hv,fun _=>⟨g,rfl,hlt,fun j hj=>?_⟩⟩
    have hc:=h.cells (g:=g) (by rw [hv];rfl) j (.int k ((xs.getD j 0:Nat):Int)) (by simp [cells,List.getD_eq_getElem?_getD,hj])
    have ha:(⟨g,0,none⟩:Addr).add j=⟨g,j,none⟩:=by
      cases j<;>simp [Addr.add]
    rw [ha] at hc
    exact hc
  · have : xs = [] := by
      cases xs with
      | nil=>rfl
      | cons _ _=>simp at h0
    subst this
    rcases h.2 with ⟨hv,_⟩ | ⟨g,cap,cur,hv,_⟩
    · exact ⟨none,0,hv,fun h=>absurd rfl h⟩
    · exact ⟨_,cap,hv,fun h=>absurd rfl h⟩
theorem zcq {w:World} {k:IntKind} {c:Int} {e:TypeId} : ∀(j:Nat) (u:Value),[Value.int k c][j]? = some u→(w.alloc (.cells #[.int k c] e)).cell? ((⟨w.heap.size,0,none⟩:Addr).add j)=some u:=by
  intro j u hj
  match j,hj with
  | 0, hj =>
    simp at hj
    subst hj
    simp [Addr.add]
theorem zdw {k:IntKind} {c:Int} : ∀u ∈ [Value.int k c],u.oneCell'=true:=by
 intro u hu
 simp at hu
 subst hu
 rfl
end Go.Proofs.YtdmlgheajblcdaaGreat.N4
