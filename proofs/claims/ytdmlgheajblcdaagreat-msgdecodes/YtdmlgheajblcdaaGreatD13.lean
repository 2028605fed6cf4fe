/- Layer 10: messages told, and without the rest; both the same. -/
import Derived.Test.YtdmlgheajblcdaaGreatD10
import Derived.Test.YtdmlgheajblcdaaGreatD12
namespace Go.Proofs.YtdmlgheajblcdaaGreat
set_option maxHeartbeats 16000000
set_option maxRecDepth 100000
open Go.RowKit
set_option linter.unusedVariables false
set_option linter.unusedSimpArgs false
set_option maxRecDepth 100000
def PG (m:Mg) (A:Array Value) (W:World):Prop:=∃(pa ia ca ba:Option Addr) (pc ic cc bc:Nat),A=mcs m pa ia ca ba pc ic cc bc∧Hld W.heap.size W m pa ia ca ba
theorem PG.keep {m:Mg} {A:Array Value} {W W2:World} (h:PG m A W) (hb:Below W.heap.size W W2):PG m A W2:=by
 obtain ⟨pa,ia,ca,ba,pc,ic,cc,bc,hA,hH⟩:=h
 exact ⟨pa,ia,ca,ba,pc,ic,cc,bc,hA,hH.on hb⟩
def PGP (m:Mg) (w:World) (e:Ending) (w':World):Prop:=∃A,e=.returned (.agg A)∧Hid (A.size=36)∧Hid (PG m A w')∧Hid (Below w.heap.size w w')
theorem zpq {m:Mg} (hp:zak m=m) (hi:inn m.k 1 15=true) {q:Nat} {v:Value} (W:World) (h:MV m q W v):Calls Tryz.prog 23 #[v] W (PGP m W):=by
 obtain ⟨pa,ia,ca,ba,pc,ic,cc,bc,B,hq,hO,rfl⟩:=h
 have hH:=hO.hld hp
 obtain ⟨l4,l11,l3⟩:=zcs hp
 rcases zd0 m.k with h0 | hk | hk | hk | hk | hk | hk | hk | hk | hk | hk | hk | hk | hk | hk | hk
 ·rw [h0] at hi;cases hi
 ·rw [zuh hk]
  refine (zwr m pa ia ca ba pc ic cc bc W).mono ?_
  rintro e w' ⟨rfl,hb'⟩
  have hb:=hH.on hb'.out
  have e : { Mg.z with k:=1,mem:=m.mem,name:=m.name } = m:=by rw [← hp];unfold zak;simp [hk]
  refine ⟨_,rfl,zac _ _ _ _ _ _ _ _ _,?_,hb'⟩
  unfold Hid
  rw [e]
  exact ⟨none,none,none,none,0,0,0,0,rfl,⟨Lts.nil (l4 (by omega)),Lts.nil (l11 (by omega)),Cts.nil (l3 (by omega)).1,Ins.nil (l3 (by omega)).2⟩⟩
 ·rw [zui hk]
  refine (zws m pa ia ca ba pc ic cc bc W).mono ?_
  rintro e w' ⟨rfl,hb'⟩
  have hb:=hH.on hb'.out
  have e : { Mg.z with k:=2,a:=m.a } = m:=by rw [← hp];unfold zak;simp [hk]
  refine ⟨_,rfl,zac _ _ _ _ _ _ _ _ _,?_,hb'⟩
  unfold Hid
  rw [e]
  exact ⟨none,none,none,none,0,0,0,0,rfl,⟨Lts.nil (l4 (by omega)),Lts.nil (l11 (by omega)),Cts.nil (l3 (by omega)).1,Ins.nil (l3 (by omega)).2⟩⟩
 ·rw [zuj hk]
  refine (zwt m pa ia ca ba pc ic cc bc W).mono ?_
  rintro e w' ⟨rfl,hb'⟩
  have hb:=hH.on hb'.out
  have e : { Mg.z with k:=3,b:=m.b } = m:=by rw [← hp];unfold zak;simp [hk]
  refine ⟨_,rfl,zac _ _ _ _ _ _ _ _ _,?_,hb'⟩
  unfold Hid
  rw [e]
  exact ⟨none,none,ca,ba,0,0,cc,bc,rfl,⟨Lts.nil (l4 (by omega)),Lts.nil (l11 (by omega)),hb.cuts,hb.bar⟩⟩
 ·rw [zuk hk]
  refine (zwu m pa ia ca ba pc ic cc bc W).mono ?_
  rintro e w' ⟨rfl,hb'⟩
  have hb:=hH.on hb'.out
  have e : { Mg.z with k:=4,ps:=m.ps } = m:=by rw [← hp];unfold zak;simp [hk]
  refine ⟨_,rfl,zac _ _ _ _ _ _ _ _ _,?_,hb'⟩
  unfold Hid
  rw [e]
  exact ⟨pa,none,none,none,pc,0,0,0,rfl,⟨hb.ps,Lts.nil (l11 (by omega)),Cts.nil (l3 (by omega)).1,Ins.nil (l3 (by omega)).2⟩⟩
 ·rw [zul hk]
  refine (zwv m pa ia ca ba pc ic cc bc W).mono ?_
  rintro e w' ⟨rfl,hb'⟩
  have hb:=hH.on hb'.out
  have e : { Mg.z with k:=5,day:=m.day } = m:=by rw [← hp];unfold zak;simp [hk]
  refine ⟨_,rfl,zac _ _ _ _ _ _ _ _ _,?_,hb'⟩
  unfold Hid
  rw [e]
  exact ⟨none,none,none,none,0,0,0,0,rfl,⟨Lts.nil (l4 (by omega)),Lts.nil (l11 (by omega)),Cts.nil (l3 (by omega)).1,Ins.nil (l3 (by omega)).2⟩⟩
 ·rw [zum hk]
  refine (zww m pa ia ca ba pc ic cc bc W).mono ?_
  rintro e w' ⟨rfl,hb'⟩
  have hb:=hH.on hb'.out
  have e : { Mg.z with k:=6,mem:=m.mem,t:=m.t,n:=m.n } = m:=by rw [← hp];unfold zak;simp [hk]
  refine ⟨_,rfl,zac _ _ _ _ _ _ _ _ _,?_,hb'⟩
  unfold Hid
  rw [e]
  exact ⟨none,none,none,none,0,0,0,0,rfl,⟨Lts.nil (l4 (by omega)),Lts.nil (l11 (by omega)),Cts.nil (l3 (by omega)).1,Ins.nil (l3 (by omega)).2⟩⟩
 ·rw [zun hk]
  refine (zwx m pa ia ca ba pc ic cc bc W).mono ?_
  rintro e w' ⟨rfl,hb'⟩
  have hb:=hH.on hb'.out
  have e : { Mg.z with k:=7,mem:=m.mem,t:=m.t,n:=m.n } = m:=by rw [← hp];unfold zak;simp [hk]
  refine ⟨_,rfl,zac _ _ _ _ _ _ _ _ _,?_,hb'⟩
  unfold Hid
  rw [e]
  exact ⟨none,none,none,none,0,0,0,0,rfl,⟨Lts.nil (l4 (by omega)),Lts.nil (l11 (by omega)),Cts.nil (l3 (by omega)).1,Ins.nil (l3 (by omega)).2⟩⟩
 ·rw [zuo hk]
  refine (zwy m pa ia ca ba pc ic cc bc W).mono ?_
  rintro e w' ⟨rfl,hb'⟩
  have hb:=hH.on hb'.out
  have e : { Mg.z with k:=8,q:=m.q } = m:=by rw [← hp];unfold zak;simp [hk]
  refine ⟨_,rfl,zac _ _ _ _ _ _ _ _ _,?_,hb'⟩
  unfold Hid
  rw [e]
  exact ⟨none,none,none,none,0,0,0,0,rfl,⟨Lts.nil (l4 (by omega)),Lts.nil (l11 (by omega)),Cts.nil (l3 (by omega)).1,Ins.nil (l3 (by omega)).2⟩⟩
 ·rw [zup hk]
  refine (zwz m pa ia ca ba pc ic cc bc W).mono ?_
  rintro e w' ⟨rfl,hb'⟩
  have hb:=hH.on hb'.out
  have e : { Mg.z with k:=9,mem:=m.mem,n:=m.n } = m:=by rw [← hp];unfold zak;simp [hk]
  refine ⟨_,rfl,zac _ _ _ _ _ _ _ _ _,?_,hb'⟩
  unfold Hid
  rw [e]
  exact ⟨none,none,none,none,0,0,0,0,rfl,⟨Lts.nil (l4 (by omega)),Lts.nil (l11 (by omega)),Cts.nil (l3 (by omega)).1,Ins.nil (l3 (by omega)).2⟩⟩
 ·rw [zko hk]
  refine (ztf m pa ia ca ba pc ic cc bc W).mono ?_
  rintro e w' ⟨rfl,hb'⟩
  have hb:=hH.on hb'.out
  have e : { Mg.z with k:=10,mem:=m.mem,day:=m.day,tr:=m.tr } = m:=by rw [← hp];unfold zak;simp [hk]
  refine ⟨_,rfl,zac _ _ _ _ _ _ _ _ _,?_,hb'⟩
  unfold Hid
  rw [e]
  exact ⟨none,none,none,none,0,0,0,0,rfl,⟨Lts.nil (l4 (by omega)),Lts.nil (l11 (by omega)),Cts.nil (l3 (by omega)).1,Ins.nil (l3 (by omega)).2⟩⟩
 ·rw [zkp hk]
  refine (ztg m pa ia ca ba pc ic cc bc W).mono ?_
  rintro e w' ⟨rfl,hb'⟩
  have hb:=hH.on hb'.out
  have e : { Mg.z with k:=11,mem:=m.mem,tr:=m.tr,out:=m.out,ins:=m.ins } = m:=by rw [← hp];unfold zak;simp [hk]
  refine ⟨_,rfl,zac _ _ _ _ _ _ _ _ _,?_,hb'⟩
  unfold Hid
  rw [e]
  exact ⟨none,ia,none,none,0,ic,0,0,rfl,⟨Lts.nil (l4 (by omega)),hb.ins,Cts.nil (l3 (by omega)).1,Ins.nil (l3 (by omega)).2⟩⟩
 ·rw [zkq hk]
  refine (zth m pa ia ca ba pc ic cc bc W).mono ?_
  rintro e w' ⟨rfl,hb'⟩
  have hb:=hH.on hb'.out
  have e : { Mg.z with k:=12,mem:=m.mem,day:=m.day,done:=m.done } = m:=by rw [← hp];unfold zak;simp [hk]
  refine ⟨_,rfl,zac _ _ _ _ _ _ _ _ _,?_,hb'⟩
  unfold Hid
  rw [e]
  exact ⟨none,none,none,none,0,0,0,0,rfl,⟨Lts.nil (l4 (by omega)),Lts.nil (l11 (by omega)),Cts.nil (l3 (by omega)).1,Ins.nil (l3 (by omega)).2⟩⟩
 ·rw [zkr hk]
  refine (zti m pa ia ca ba pc ic cc bc W).mono ?_
  rintro e w' ⟨rfl,hb'⟩
  have hb:=hH.on hb'.out
  have e : { Mg.z with k:=13,mem:=m.mem } = m:=by rw [← hp];unfold zak;simp [hk]
  refine ⟨_,rfl,zac _ _ _ _ _ _ _ _ _,?_,hb'⟩
  unfold Hid
  rw [e]
  exact ⟨none,none,none,none,0,0,0,0,rfl,⟨Lts.nil (l4 (by omega)),Lts.nil (l11 (by omega)),Cts.nil (l3 (by omega)).1,Ins.nil (l3 (by omega)).2⟩⟩
 ·rw [zks hk]
  refine (ztj m pa ia ca ba pc ic cc bc W).mono ?_
  rintro e w' ⟨rfl,hb'⟩
  have hb:=hH.on hb'.out
  have e : { Mg.z with k:=14,mem:=m.mem,n:=m.n } = m:=by rw [← hp];unfold zak;simp [hk]
  refine ⟨_,rfl,zac _ _ _ _ _ _ _ _ _,?_,hb'⟩
  unfold Hid
  rw [e]
  exact ⟨none,none,none,none,0,0,0,0,rfl,⟨Lts.nil (l4 (by omega)),Lts.nil (l11 (by omega)),Cts.nil (l3 (by omega)).1,Ins.nil (l3 (by omega)).2⟩⟩
 ·rw [zkt hk]
  refine (ztk m pa ia ca ba pc ic cc bc W).mono ?_
  rintro e w' ⟨rfl,hb'⟩
  have hb:=hH.on hb'.out
  have e : { Mg.z with k:=15,day:=m.day,tr:=m.tr,rate:=m.rate } = m:=by rw [← hp];unfold zak;simp [hk]
  refine ⟨_,rfl,zac _ _ _ _ _ _ _ _ _,?_,hb'⟩
  unfold Hid
  rw [e]
  exact ⟨none,none,none,none,0,0,0,0,rfl,⟨Lts.nil (l4 (by omega)),Lts.nil (l11 (by omega)),Cts.nil (l3 (by omega)).1,Ins.nil (l3 (by omega)).2⟩⟩
theorem zg5 {m:Mg} {pa ia ca ba:Option Addr} {pc ic cc bc:Nat} (hi:inn m.k 1 15=true) (W:World) (hH:Hld W.heap.size W m pa ia ca ba):Calls Tryz.prog 24 #[.agg (mcs m pa ia ca ba pc ic cc bc)] W (PGP (zak m) W):=by
 obtain ⟨l4,l11,l3⟩:=zcs (zfx m)
 rw [zhj] at l4 l11 l3
 rcases zd0 m.k with h0 | hk | hk | hk | hk | hk | hk | hk | hk | hk | hk | hk | hk | hk | hk | hk
 ·rw [h0] at hi;cases hi
 ·refine (ztl m pa ia ca ba pc ic cc bc hk W).mono ?_
  rintro e w' ⟨rfl,hb'⟩
  have hc:=hH.on hb'.out
  have e:zak m = { Mg.z with k:=1,mem:=m.mem,name:=m.name }:=by unfold zak;simp [hk]
  refine ⟨_,rfl,zac _ _ _ _ _ _ _ _ _,?_,hb'⟩
  unfold Hid
  refine ⟨none,none,none,none,0,0,0,0,by rw [e],?_⟩
  exact ⟨Lts.nil (l4 (by omega)),Lts.nil (l11 (by omega)),Cts.nil (l3 (by omega)).1,Ins.nil (l3 (by omega)).2⟩
 ·refine (ztm m pa ia ca ba pc ic cc bc hk W).mono ?_
  rintro e w' ⟨rfl,hb'⟩
  have hc:=hH.on hb'.out
  have e:zak m = { Mg.z with k:=2,a:=m.a }:=by unfold zak;simp [hk]
  refine ⟨_,rfl,zac _ _ _ _ _ _ _ _ _,?_,hb'⟩
  unfold Hid
  refine ⟨none,none,none,none,0,0,0,0,by rw [e],?_⟩
  exact ⟨Lts.nil (l4 (by omega)),Lts.nil (l11 (by omega)),Cts.nil (l3 (by omega)).1,Ins.nil (l3 (by omega)).2⟩
 ·refine (ztn m pa ia ca ba pc ic cc bc hk W).mono ?_
  rintro e w' ⟨rfl,hb'⟩
  have hc:=hH.on hb'.out
  have e:zak m = { Mg.z with k:=3,b:=m.b }:=by unfold zak;simp [hk]
  refine ⟨_,rfl,zac _ _ _ _ _ _ _ _ _,?_,hb'⟩
  unfold Hid
  refine ⟨none,none,ca,ba,0,0,cc,bc,by rw [e],?_⟩
  have e4:(zak m).b=m.b:=by rw [e]
  exact ⟨Lts.nil (l4 (by omega)),Lts.nil (l11 (by omega)),by rw [e4];exact hc.cuts,by rw [e4];exact hc.bar⟩
 ·refine (zto m pa ia ca ba pc ic cc bc hk W).mono ?_
  rintro e w' ⟨rfl,hb'⟩
  have hc:=hH.on hb'.out
  have e:zak m = { Mg.z with k:=4,ps:=m.ps }:=by unfold zak;simp [hk]
  refine ⟨_,rfl,zac _ _ _ _ _ _ _ _ _,?_,hb'⟩
  unfold Hid
  refine ⟨pa,none,none,none,pc,0,0,0,by rw [e],?_⟩
  have e4:(zak m).ps=m.ps:=by rw [e]
  exact ⟨by rw [e4];exact hc.ps,Lts.nil (l11 (by omega)),Cts.nil (l3 (by omega)).1,Ins.nil (l3 (by omega)).2⟩
 ·refine (ztp m pa ia ca ba pc ic cc bc hk W).mono ?_
  rintro e w' ⟨rfl,hb'⟩
  have hc:=hH.on hb'.out
  have e:zak m = { Mg.z with k:=5,day:=m.day }:=by unfold zak;simp [hk]
  refine ⟨_,rfl,zac _ _ _ _ _ _ _ _ _,?_,hb'⟩
  unfold Hid
  refine ⟨none,none,none,none,0,0,0,0,by rw [e],?_⟩
  exact ⟨Lts.nil (l4 (by omega)),Lts.nil (l11 (by omega)),Cts.nil (l3 (by omega)).1,Ins.nil (l3 (by omega)).2⟩
 ·refine (ztq m pa ia ca ba pc ic cc bc hk W).mono ?_
  rintro e w' ⟨rfl,hb'⟩
  have hc:=hH.on hb'.out
  have e:zak m = { Mg.z with k:=6,mem:=m.mem,t:=m.t,n:=m.n }:=by unfold zak;simp [hk]
  refine ⟨_,rfl,zac _ _ _ _ _ _ _ _ _,?_,hb'⟩
  unfold Hid
  refine ⟨none,none,none,none,0,0,0,0,by rw [e],?_⟩
  exact ⟨Lts.nil (l4 (by omega)),Lts.nil (l11 (by omega)),Cts.nil (l3 (by omega)).1,Ins.nil (l3 (by omega)).2⟩
 ·refine (ztr m pa ia ca ba pc ic cc bc hk W).mono ?_
  rintro e w' ⟨rfl,hb'⟩
  have hc:=hH.on hb'.out
  have e:zak m = { Mg.z with k:=7,mem:=m.mem,t:=m.t,n:=m.n }:=by unfold zak;simp [hk]
  refine ⟨_,rfl,zac _ _ _ _ _ _ _ _ _,?_,hb'⟩
  unfold Hid
  refine ⟨none,none,none,none,0,0,0,0,by rw [e],?_⟩
  exact ⟨Lts.nil (l4 (by omega)),Lts.nil (l11 (by omega)),Cts.nil (l3 (by omega)).1,Ins.nil (l3 (by omega)).2⟩
 ·refine (zts m pa ia ca ba pc ic cc bc hk W).mono ?_
  rintro e w' ⟨rfl,hb'⟩
  have hc:=hH.on hb'.out
  have e:zak m = { Mg.z with k:=8,q:=m.q }:=by unfold zak;simp [hk]
  refine ⟨_,rfl,zac _ _ _ _ _ _ _ _ _,?_,hb'⟩
  unfold Hid
  refine ⟨none,none,none,none,0,0,0,0,by rw [e],?_⟩
  exact ⟨Lts.nil (l4 (by omega)),Lts.nil (l11 (by omega)),Cts.nil (l3 (by omega)).1,Ins.nil (l3 (by omega)).2⟩
 ·refine (ztt m pa ia ca ba pc ic cc bc hk W).mono ?_
  rintro e w' ⟨rfl,hb'⟩
  have hc:=hH.on hb'.out
  have e:zak m = { Mg.z with k:=9,mem:=m.mem,n:=m.n }:=by unfold zak;simp [hk]
  refine ⟨_,rfl,zac _ _ _ _ _ _ _ _ _,?_,hb'⟩
  unfold Hid
  refine ⟨none,none,none,none,0,0,0,0,by rw [e],?_⟩
  exact ⟨Lts.nil (l4 (by omega)),Lts.nil (l11 (by omega)),Cts.nil (l3 (by omega)).1,Ins.nil (l3 (by omega)).2⟩
 ·refine (zpk m pa ia ca ba pc ic cc bc hk W).mono ?_
  rintro e w' ⟨rfl,hb'⟩
  have hc:=hH.on hb'.out
  have e:zak m = { Mg.z with k:=10,mem:=m.mem,day:=m.day,tr:=m.tr }:=by unfold zak;simp [hk]
  refine ⟨_,rfl,zac _ _ _ _ _ _ _ _ _,?_,hb'⟩
  unfold Hid
  refine ⟨none,none,none,none,0,0,0,0,by rw [e],?_⟩
  exact ⟨Lts.nil (l4 (by omega)),Lts.nil (l11 (by omega)),Cts.nil (l3 (by omega)).1,Ins.nil (l3 (by omega)).2⟩
 ·refine (zpl m pa ia ca ba pc ic cc bc hk W).mono ?_
  rintro e w' ⟨rfl,hb'⟩
  have hc:=hH.on hb'.out
  have e:zak m = { Mg.z with k:=11,mem:=m.mem,tr:=m.tr,out:=m.out,ins:=m.ins }:=by unfold zak;simp [hk]
  refine ⟨_,rfl,zac _ _ _ _ _ _ _ _ _,?_,hb'⟩
  unfold Hid
  refine ⟨none,ia,none,none,0,ic,0,0,by rw [e],?_⟩
  have e4:(zak m).ins=m.ins:=by rw [e]
  exact ⟨Lts.nil (l4 (by omega)),by rw [e4];exact hc.ins,Cts.nil (l3 (by omega)).1,Ins.nil (l3 (by omega)).2⟩
 ·refine (zpm m pa ia ca ba pc ic cc bc hk W).mono ?_
  rintro e w' ⟨rfl,hb'⟩
  have hc:=hH.on hb'.out
  have e:zak m = { Mg.z with k:=12,mem:=m.mem,day:=m.day,done:=m.done }:=by unfold zak;simp [hk]
  refine ⟨_,rfl,zac _ _ _ _ _ _ _ _ _,?_,hb'⟩
  unfold Hid
  refine ⟨none,none,none,none,0,0,0,0,by rw [e],?_⟩
  exact ⟨Lts.nil (l4 (by omega)),Lts.nil (l11 (by omega)),Cts.nil (l3 (by omega)).1,Ins.nil (l3 (by omega)).2⟩
 ·refine (zpn m pa ia ca ba pc ic cc bc hk W).mono ?_
  rintro e w' ⟨rfl,hb'⟩
  have hc:=hH.on hb'.out
  have e:zak m = { Mg.z with k:=13,mem:=m.mem }:=by unfold zak;simp [hk]
  refine ⟨_,rfl,zac _ _ _ _ _ _ _ _ _,?_,hb'⟩
  unfold Hid
  refine ⟨none,none,none,none,0,0,0,0,by rw [e],?_⟩
  exact ⟨Lts.nil (l4 (by omega)),Lts.nil (l11 (by omega)),Cts.nil (l3 (by omega)).1,Ins.nil (l3 (by omega)).2⟩
 ·refine (zpo m pa ia ca ba pc ic cc bc hk W).mono ?_
  rintro e w' ⟨rfl,hb'⟩
  have hc:=hH.on hb'.out
  have e:zak m = { Mg.z with k:=14,mem:=m.mem,n:=m.n }:=by unfold zak;simp [hk]
  refine ⟨_,rfl,zac _ _ _ _ _ _ _ _ _,?_,hb'⟩
  unfold Hid
  refine ⟨none,none,none,none,0,0,0,0,by rw [e],?_⟩
  exact ⟨Lts.nil (l4 (by omega)),Lts.nil (l11 (by omega)),Cts.nil (l3 (by omega)).1,Ins.nil (l3 (by omega)).2⟩
 ·refine (zpp m pa ia ca ba pc ic cc bc hk W).mono ?_
  rintro e w' ⟨rfl,hb'⟩
  have hc:=hH.on hb'.out
  have e:zak m = { Mg.z with k:=15,day:=m.day,tr:=m.tr,rate:=m.rate }:=by unfold zak;simp [hk]
  refine ⟨_,rfl,zac _ _ _ _ _ _ _ _ _,?_,hb'⟩
  unfold Hid
  refine ⟨none,none,none,none,0,0,0,0,by rw [e],?_⟩
  exact ⟨Lts.nil (l4 (by omega)),Lts.nil (l11 (by omega)),Cts.nil (l3 (by omega)).1,Ins.nil (l3 (by omega)).2⟩
theorem zja {m:Mg} {A B:Array Value} (W:World) (hA:PG m A W) (hB:PG m B W) (hlc:m.b.cuts.length≤1000000000000) (hlb:m.b.bar.length≤1000000000000) (hlp:m.ps.length≤1000000000000) (hli:m.ins.length≤1000000000000):Calls Tryz.prog 22 #[.agg A,.agg B] W (KP (.bool true) W):=by
 obtain ⟨p1,i1,c1,b1,pc1,ic1,cc1,bc1,rfl,h1⟩:=hA
 obtain ⟨p2,i2,c2,b2,pc2,ic2,cc2,bc2,rfl,h2⟩:=hB
 exact zsk m c1 c2 b1 b2 p1 p2 i1 i2 cc1 cc2 bc1 bc2 pc1 pc2 ic1 ic2 W h1.cuts h2.cuts h1.bar h2.bar h1.ps h2.ps h1.ins h2.ins hlc hlb hlp hli
structure Jn (D:List UInt8) (j:Nat):Prop where
 le:j≤D.length
 ten:j≤10
 high:High (D.take j)
 head:0<j→D.head?≠some 128
 is:D.head?≠some 128→rdU D=rdF (D.drop j) (gv 0 (D.take j)) j
theorem Jn.zero (D:List UInt8):Jn D 0:=⟨Nat.zero_le _,by omega,fun c h=>by simp at h,fun h=>absurd h (Nat.lt_irrefl 0),fun h=>by unfold rdU;rw [if_neg h];rfl⟩
theorem ze5 {D:List UInt8} {j:Nat} (J:Jn D j) {c:UInt8} (hc:D[j]? = some c) (h:¬ (j=0∧c.toNat=128)):D.head?≠some 128:=by
 by_cases h0:0<j
 ·exact J.head h0
 ·have:j=0:=by omega
  subst this
  rw [List.head?_eq_getElem?,hc]
  intro e
  exact h ⟨rfl,by rw [Option.some.inj e];rfl⟩
theorem Jn.short {D:List UInt8} {j:Nat} (J:Jn D j) (h:D.length≤j):rdU D=(14,0,0):=by
 have hd:D.drop j=[]:=List.drop_of_length_le h
 by_cases h0:0<j
 ·rw [J.is (J.head h0),hd]
  rfl
 ·have:D=[]:=List.length_eq_zero_iff.1 (by omega)
  rw [this]
  rfl
theorem zec {D:List UInt8} {j:Nat} {c:UInt8} (hc:D[j]? = some c):D.drop j=c::D.drop (j+1):=by
 obtain ⟨h,e⟩:=List.getElem?_eq_some_iff.1 hc
 rw [List.drop_eq_getElem_cons h,e]
theorem zcm {D:List UInt8} {j:Nat} {c:UInt8} (hc:D[j]? = some c):D.take (j+1)=D.take j++[c]:=by
 obtain ⟨h,e⟩:=List.getElem?_eq_some_iff.1 hc
 rw [List.take_succ_eq_append_getElem h,e]
theorem zfp {D:List UInt8} {j:Nat} (h:0<j):(D.take j).head? = D.head?:=by
 cases j with
 | zero=>exact absurd h (Nat.lt_irrefl 0)
 | succ j=>cases D<;>rfl
theorem Jn.much {D:List UInt8} {j:Nat} (J:Jn D j) (hn:D.head?≠some 128):144115188075855872≤gv 0 (D.take j)↔j=10∨j=9∧∃c,D.head? = some c∧129<c.toNat:=by
 have hl:(D.take j).length=j:=by rw [List.length_take];have:=J.le;omega
 by_cases h0:0<j
 ·have:=zm4 J.high (by rw [zfp h0];exact hn) (by rw [hl];exact J.ten)
  rw [hl,zfp h0] at this
  exact this
 ·have:j=0:=by omega
  subst this
  simp [gv]
theorem Jn.form1 {D:List UInt8} {c:UInt8} (hc:D[0]? = some c) (h:c.toNat=128):rdU D=(15,0,0):=by
 unfold rdU
 rw [if_pos]
 rw [List.head?_eq_getElem?,hc]
 exact congrArg some (UInt8.toNat_inj.mp h)
theorem Jn.form2 {D:List UInt8} {j:Nat} (J:Jn D j) {c d:UInt8} (hc:D[j]? = some c) (hd:D[0]? = some d) (h0:¬ (j=0∧c.toNat=128)) (h:j=10∨j=9∧129<d.toNat):rdU D=(15,0,0):=by
 have hn:=ze5 J hc h0
 rw [J.is hn,zec hc]
 refine zhk ((J.much hn).2 ?_)
 rcases h with h | h
 ·exact .inl h
 ·exact .inr ⟨h.1,d,by rw [List.head?_eq_getElem?];exact hd,h.2⟩
theorem Jn.small {D:List UInt8} {j:Nat} (J:Jn D j) {c d:UInt8} (hc:D[j]? = some c) (hd:D[0]? = some d) (h0:¬ (j=0∧c.toNat=128)) (h:¬ (j=10∨j=9∧129<d.toNat)):¬ 144115188075855872≤gv 0 (D.take j):=by
 intro hm
 refine h ?_
 rcases (J.much (ze5 J hc h0)).1 hm with h | ⟨h,x,hx,hx2⟩
 ·exact .inl h
 ·rw [List.head?_eq_getElem?,hd] at hx
  rw [← Option.some.inj hx] at hx2
  exact .inr ⟨h,hx2⟩
theorem Jn.last {D:List UInt8} {j:Nat} (J:Jn D j) {c:UInt8} (hc:D[j]? = some c) (h0:¬ (j=0∧c.toNat=128)) (h:¬ 144115188075855872≤gv 0 (D.take j)) (h1:c.toNat<128):rdU D=(0,gv 0 (D.take (j+1)),j+1):=by
 rw [J.is (ze5 J hc h0),zec hc,zgc h h1,zcm hc,zc5,Nat.mod_eq_of_lt h1]
theorem Jn.more {D:List UInt8} {j:Nat} (J:Jn D j) {c:UInt8} (hc:D[j]? = some c) (h0:¬ (j=0∧c.toNat=128)) (h:¬ 144115188075855872≤gv 0 (D.take j)) (h10:j≠10) (h1:¬ c.toNat<128):Jn D (j+1):=by
 have hn:=ze5 J hc h0
 refine ⟨?_,by have:=J.ten;omega,?_,fun _=>hn,fun _=>?_⟩
 ·obtain ⟨h,_⟩:=List.getElem?_eq_some_iff.1 hc
  exact h
 ·intro x hx
  rw [zcm hc] at hx
  rcases List.mem_append.1 hx with hx | hx
  ·exact J.high x hx
  ·rw [List.mem_singleton.1 hx]
   omega
 ·rw [J.is hn,zec hc,zgd h h1,zcm hc,zc5]
theorem zdm (D:List UInt8) {i j:Nat} (h:i≤j):gv 0 (D.take i)≤gv 0 (D.take j):=by
 have e:D.take j=D.take i++(D.take j).drop i:=by
  have:=List.take_append_drop i (D.take j)
  rw [List.take_take,Nat.min_eq_left h] at this
  exact this.symm
 rw [e,zhc]
 exact zut _ _
def zaa (r:Rd):Array Value:=#[.string ⟨r.s.toArray⟩,.int .i64 r.at_,.int .i64 r.e]
structure Rq (w:World) (z:Nat) (r:Rd):Prop where
 blk:w.heap[z]? = some (.cells (zaa r) 136 (0,0))
section
variable {w w':World} {z:Nat} {r:Rd}
theorem Rq.lt (h:Rq w z r):z<w.heap.size:=(Array.getElem?_eq_some_iff.1 h.blk).1
theorem Rq.cell (h:Rq w z r) (j:Nat):w.cell? ⟨z,j,none⟩=(zaa r)[j]?:=cell_of_row w z j _ 136 (0,0) h.blk
theorem Rq.froz (h:Rq w z r) (j:Nat):w.frozen? ⟨z,j,none⟩=false:=by
 have:=h.blk
 simp [World.frozen?,this]
theorem Rq.same (h:Rq w z r) (hb:w'.heap[z]? = w.heap[z]?):Rq w' z r:=⟨hb.trans h.blk⟩
theorem Rq.drewN (h:Rq w z r) (n:Nat):Rq (w.drewN n) z r:=h.same rfl
theorem Rq.keep (h:Rq w z r) (hb:Below w.heap.size w w'):Rq w' z r:=h.same (hb.block z h.lt)
theorem Rq.new (w:World) (r:Rd):Rq (w.alloc (.cells (zaa r) 136)) w.heap.size r:=⟨heap_alloc_new w _⟩
theorem Rq.setAt (h:Rq w z r) (n:Nat):Rq (w.setCell ⟨z,1,none⟩ (.int .i64 n)) z { r with at_:=n }:=⟨by rw [zdj h.blk];rfl⟩
theorem Rq.setE (h:Rq w z r) (n:Nat):Rq (w.setCell ⟨z,2,none⟩ (.int .i64 n)) z { r with e:=n }:=⟨by rw [zdj h.blk];rfl⟩
end
def QP (v:Value) (r:Rd) (w:World) (e:Ending) (w':World):Prop:=e=.returned (.tuple #[.agg (zaa r),v])∧Hid (Below w.heap.size w w')
theorem ztu (r:Rd) (e:Nat) (w:World):Calls Tryz.prog 97 #[.agg (zaa r),.int .i64 e] w fun x w'=>x=.returned (.agg (zaa (r.fl e)))∧Below w.heap.size w w':=by
 unfold zaa Rd.fl
 by_cases h0:r.e=0
 ·have hz:((r.e:Int)==0)=true:=by rw [h0];rfl
  rw [if_pos h0]
  simp only
  generalize (⟨r.s.toArray⟩:ByteArray)=S
  generalize r.at_=a
  go_enter Tryz.func97,Tryz.ntmps97
  go_wp2
  go_returns
  exact ⟨rfl,by first | exact ((below_new w _).alloc (by simp) _) | skip⟩
 ·have hz:((r.e:Int)==0)=false:=by rw [beq_eq_false_iff_ne];omega
  rw [if_neg h0]
  generalize (⟨r.s.toArray⟩:ByteArray)=S
  generalize r.at_=a
  go_enter Tryz.func97,Tryz.ntmps97
  go_wp2
  go_returns
  exact ⟨rfl,by first | exact ((below_new w _).alloc (by simp) _) | skip⟩
theorem zku (r:Rd) (h:r.e=0):zas r=if (rdU (r.s.drop r.at_)).1=0 then ({ r with at_:=r.at_+(rdU (r.s.drop r.at_)).2.2 },(rdU (r.s.drop r.at_)).2.1) else (r.fl (rdU (r.s.drop r.at_)).1,0):=by
 unfold zas Rd.fl
 rw [if_neg (by simpa using h)]
 rw [if_pos h]
theorem zg6 (X:Rd):∀v ∈ (zaa X).toList,v.oneCell'=true:=by
 intro v hv
 simp only [zaa,List.mem_cons,List.not_mem_nil,or_false] at hv
 rcases hv with rfl | rfl | rfl<;>rfl
theorem zuq {w:World} {z:Nat} {r:Rd} (h:Rq w z r) (X:Rd):(storeCells ⟨z,0,none⟩ (zaa X).toList).run Tryz.prog w=.ok () (w.setRow z (zaa X)):=by
 have:=run_storeCells_at Tryz.prog z 0 136 (zaa X).toList 0 (zaa r) w h.blk (by simp [zaa]) (zg6 X)
 rw [this]
 congr 2
theorem Rq.put {w:World} {z:Nat} {r:Rd} (h:Rq w z r) (X:Rd):Rq (w.setRow z (zaa X)) z X:=⟨setRow_heap w z _ _ 136 (0,0) h.blk⟩
theorem zdh {w:World} {z:Nat} {r:Rd} (h:Rq w z r) (X:Rd):((w.setCell ⟨z,0,none⟩ (.string ⟨X.s.toArray⟩)).setCell ⟨z,1,none⟩ (.int .i64 X.at_)).setCell ⟨z,2,none⟩ (.int .i64 X.e)=w.setRow z (zaa X):=by
 have hs:∀(cs:Array Value),(w.setRow z cs).heap[z]? = some (.cells cs 136 (0,0)):=fun cs=>setRow_heap w z _ _ 136 (0,0) h.blk
 rw [setCell_eq_setRow w z 0 _ 136 (0,0) _ h.blk]
 rw [setCell_eq_setRow _ z 1 _ 136 (0,0) _ (hs _),setRow_setRow]
 rw [setCell_eq_setRow _ z 2 _ 136 (0,0) _ (hs _),setRow_setRow]
 rfl
theorem zar {B:Nat} {a w:World} {q:Nat} {cs:Array Value} (h:Below B a w) (hq:B≤q):Below B a (w.setRow q cs):=
 ⟨h.os,h.tape,h.output,by have:=h.size;simpa [World.setRow] using this,fun k hk=>(setRow_other w q k cs (by omega)).trans (h.block k hk)⟩
theorem QP.mk {v u:Value} {r x:Rd} {w w':World} (hv:u=v) (hx:x=r) (hb:Below w.heap.size w w'):QP v r w (.returned (.tuple #[.agg (zaa x),u])) w':=⟨by rw [hv,hx],hb⟩
theorem Rq.new2 (w:World) (r:Rd):Rq ((w.alloc (.cells (zaa r) 136)).alloc (.cells (zaa ⟨[],0,0⟩) 136)) w.heap.size r∧Rq ((w.alloc (.cells (zaa r) 136)).alloc (.cells (zaa ⟨[],0,0⟩) 136)) (w.heap.size+1) ⟨[],0,0⟩∧Below w.heap.size w ((w.alloc (.cells (zaa r) 136)).alloc (.cells (zaa ⟨[],0,0⟩) 136)):=by
 have e:(w.alloc (.cells (zaa r) 136)).heap.size=w.heap.size+1:=by simp
 refine ⟨?_,?_,(below_new w _).alloc (by omega) _⟩
 ·refine (Rq.new w r).keep (below_new _ _)
 ·have:=Rq.new (w.alloc (.cells (zaa r) 136)) ⟨[],0,0⟩
  rw [e] at this
  exact this
theorem zw6 (r:Rd) (hr:r.at_≤r.s.length) (hs:r.s.length≤1099511627776) (w:World):Calls Tryz.prog 90 #[.agg (zaa r)] w (QP (.int .u64 (zas r).2) (zas r).1 w):=by
  by_cases h0:r.e=0
  · have HU : Hid (zas r = if (rdU (r.s.drop r.at_)).1 = 0 then ({ r with at_ := r.at_ + (rdU (r.s.drop r.at_)).2.2 }, (rdU (r.s.drop r.at_)).2.1) else (r.fl (rdU (r.s.drop r.at_)).1, 0)) := zku r h0
    have hz:((r.e:Int) != 0)=false:=by rw [h0];rfl
    have HN:=Rq.new2 w r
    have HB0:Hid (Below w.heap.size w ((w.alloc (.cells (zaa r) 136)).alloc (.cells (zaa ⟨[],0,0⟩) 136))):=HN.2.2
    have HQ0:Hid (Rq ((w.alloc (.cells (zaa r) 136)).alloc (.cells (zaa ⟨[],0,0⟩) 136)) w.heap.size r):=HN.1
    have HO0:Hid (Rq ((w.alloc (.cells (zaa r) 136)).alloc (.cells (zaa ⟨[],0,0⟩) 136)) (w.heap.size+1) ⟨[],0,0⟩):=HN.2.1
    obtain ⟨S,hS⟩:∃S:ByteArray,S=⟨r.s.toArray⟩:=⟨_,rfl⟩
    have HF:Hid (∀(e:Nat) (w:World),Calls Tryz.prog 97 #[.agg #[.string S,.int .i64 r.at_,.int .i64 r.e],.int .i64 e] w fun x w'=>x=.returned (.agg (zaa (r.fl e)))∧Below w.heap.size w w'):=fun e w=>by rw [hS];exact ztu r e w
    have hsz:S.size=r.s.length:=by rw [hS];rfl
    have hds:r.s=S.data.toList:=by rw [hS]
    have HS:Hid (S=⟨r.s.toArray⟩):=hS
    have hs2:S.size≤1099511627776:=by omega
    have ha:r.at_≤S.size:=by omega
    have HG:Hid (∀i (h:r.at_+i<S.size),(r.s.drop r.at_)[i]? = some (S[r.at_+i])):=fun i h=>by
      rw [List.getElem?_drop,hds,List.getElem?_eq_getElem (show r.at_+i<S.data.toList.length from h)]
      rfl
    have HL:Hid ((r.s.drop r.at_).length=S.size-r.at_):=by unfold Hid;rw [List.length_drop,hsz]
    have HJ0:Hid (Jn (r.s.drop r.at_) 0):=Jn.zero _
    clear hS hsz hds hs hr HN
    clear h0
    generalize r.s.drop r.at_=D at *
    obtain ⟨N,HN⟩:∃N:Nat,Hid (N=12):=⟨12,rfl⟩
    go_enter Tryz.func90,Tryz.ntmps90
    go_upto_region 1 with fail
    show Code.wp _ _ _ _ ((w.alloc (.cells (zaa r) 136)).alloc (.cells (zaa ⟨[],0,0⟩) 136))
    generalize (w.alloc (.cells (zaa r) 136)).alloc (.cells (zaa ⟨[],0,0⟩) 136)=wA at *
    generalize hZ:w.heap.size=z at *
    have HZ:Hid (w.heap.size=z):=hZ
    clear hZ
    have c2:wA.cell? ⟨z,2,none⟩=some (.int .i64 r.e):=HQ0.out.cell 2
    go_wp2_with fail
    go_loopw [4] (fun i wr=>∃(k:Nat),i=.int .i64 k∧1≤k∧k≤11∧Hid (Jn D (k-1))∧Hid (Rq wr z r)∧Hid (Rq wr (z+1) ⟨[],0,0⟩)∧Hid (Below z w wr)) (fun i _=>N-(Lib.intOf i).toNat)
    case atStart=>exact ⟨1,rfl,by omega,by omega,HJ0,HQ0,HO0,HB0⟩
    case round=>
      clear HJ0 HQ0 HO0 HB0 c2
      obtain ⟨k,rfl,hk1,hk11,HJ,HQ,HO,HB⟩:=hrel
      have c0:wr.cell? ⟨z,0,none⟩=some (.string S):=by rw [HS.out];exact HQ.out.cell 0
      have c1:wr.cell? ⟨z,1,none⟩=some (.int .i64 r.at_):=HQ.out.cell 1
      have c2:wr.cell? ⟨z,2,none⟩=some (.int .i64 r.e):=HQ.out.cell 2
      have hkz:(k:Int)≤11:=by omega
      by_cases hl:S.size<r.at_+k
      · have hlz : (S.size : Int) < (r.at_ : Int) + (k : Int) := by omega
        have HE:Hid (zas r=(r.fl 14,0)):=by
          unfold Hid
          rw [HU.out,HJ.out.short (by rw [HL.out];omega),if_neg (by simp)]
        go_wp2_with fail
        refine (HF.out 14 _).mono ?_
        rintro e w3 ⟨rfl,hb3⟩
        have HB3:Hid (Below z w w3):=HB.out.trans (hb3.mono (by have:=HB.out.size;rw [HZ.out] at this;exact this))
        have HO3:Hid (Rq w3 (z+1) ⟨[],0,0⟩):=HO.out.keep hb3
        have hst:=zuq HO3.out (r.fl 14)
        have hsz3:(zaa (r.fl 14)).size=3:=rfl
        have HO4:Hid (Rq (w3.setRow (z+1) (zaa (r.fl 14))) (z+1) (r.fl 14)):=HO3.out.put _
        have HB4:Hid (Below z w (w3.setRow (z+1) (zaa (r.fl 14)))):=zar HB3.out (by omega)
        clear hb3 c0 c1 c2 HO3 HB3 HO HB HF HQ HJ
        go_wp2_with fail
        generalize w3.setRow (z+1) (zaa (r.fl 14))=w4 at *
        have d0:w4.cell? ⟨z+1,0,none⟩=some (.string ⟨(r.fl 14).s.toArray⟩):=HO4.out.cell 0
        have d1:w4.cell? ⟨z+1,1,none⟩=some (.int .i64 (r.fl 14).at_):=HO4.out.cell 1
        have d2:w4.cell? ⟨z+1,2,none⟩=some (.int .i64 (r.fl 14).e):=HO4.out.cell 2
        refine bodyPost_ret (by simp [results,Tryz.results90,go_sem,d0,d1,d2];try rfl) rfl ?_
        exact QP.mk (by rw [HE.out];rfl) (by rw [HE.out]) (by rw [HZ.out];exact HB4.out)
      · have hlz : ¬ (S.size : Int) < (r.at_ : Int) + (k : Int) := by omega
        have hlt:r.at_+(k-1)<S.size:=by omega
        have hlt0:r.at_<S.size:=by omega
        obtain ⟨x,hx⟩:∃x:UInt8,S[r.at_+(k-1)]=x:=⟨_,rfl⟩
        obtain ⟨y,hy⟩:∃y:UInt8,S[r.at_]=y:=⟨_,rfl⟩
        have hxl:=x.toNat_lt
        have hyl:=y.toNat_lt
        have hix:∀w:World,(Instr.index 9 (.string S) (.int .i64 ((r.at_:Int)+k-1))).run Tryz.prog w=.ok (.int .u8 (x.toNat:Int)) w:=fun w=>zd1 hlt hx (by omega) w
        have hiy:∀w:World,(Instr.index 9 (.string S) (.int .i64 (r.at_:Int))).run Tryz.prog w=.ok (.int .u8 (y.toNat:Int)) w:=fun w=>zd1 hlt0 hy rfl w
        have HX:Hid (D[k-1]? = some x):=by unfold Hid;rw [HG.out _ hlt,hx]
        have HY:Hid (D[0]? = some y):=by unfold Hid;rw [HG.out 0 (by omega)];exact congrArg some hy
        clear hx hy
        by_cases hf:(k=1∧x.toNat=128)∨k=11∨k=10∧129<y.toNat
        · have HE : Hid (zas r = (r.fl 15, 0)) := by
            unfold Hid
            have:rdU D=(15,0,0):=by
              by_cases h1:k=1∧x.toNat=128
              · have h2 := HX.out
                rw [h1.1] at h2
                exact Jn.form1 h2 h1.2
              · exact HJ.out.form2 HX.out HY.out (by omega) (by omega)
            rw [HU.out,this,if_neg (by simp)]
          rcases hf with ⟨h1,h2⟩ | h1 | ⟨h1,h2⟩
          · have e1 : ((k : Int) == 1) = true := by rw [beq_iff_eq]; omega
            have e2:((x.toNat:Int)==128)=true:=by rw [beq_iff_eq];omega
            clear h1 h2
            go_wp2_with fail
            refine (HF.out 15 _).mono ?_
            rintro e w3 ⟨rfl,hb3⟩
            have HB3:Hid (Below z w w3):=HB.out.trans (hb3.mono (by have:=HB.out.size;rw [HZ.out] at this;exact this))
            have HO3:Hid (Rq w3 (z+1) ⟨[],0,0⟩):=HO.out.keep hb3
            have hst:=zuq HO3.out (r.fl 15)
            have hsz3:(zaa (r.fl 15)).size=3:=rfl
            have HO4:Hid (Rq (w3.setRow (z+1) (zaa (r.fl 15))) (z+1) (r.fl 15)):=HO3.out.put _
            have HB4:Hid (Below z w (w3.setRow (z+1) (zaa (r.fl 15)))):=zar HB3.out (by omega)
            clear hb3 c0 c1 c2 HO3 HB3 HO HB HF HQ HJ
            go_wp2_with fail
            generalize w3.setRow (z+1) (zaa (r.fl 15))=w4 at *
            have d0:w4.cell? ⟨z+1,0,none⟩=some (.string ⟨(r.fl 15).s.toArray⟩):=HO4.out.cell 0
            have d1:w4.cell? ⟨z+1,1,none⟩=some (.int .i64 (r.fl 15).at_):=HO4.out.cell 1
            have d2:w4.cell? ⟨z+1,2,none⟩=some (.int .i64 (r.fl 15).e):=HO4.out.cell 2
            refine bodyPost_ret (by simp [results,Tryz.results90,go_sem,d0,d1,d2];try rfl) rfl ?_
            exact QP.mk (by rw [HE.out];rfl) (by rw [HE.out]) (by rw [HZ.out];exact HB4.out)
          · have e1 : ((k : Int) == 1) = false := by rw [beq_eq_false_iff_ne]; omega
            have e2:((k:Int)==11)=true:=by rw [beq_iff_eq];omega
            clear h1
            go_wp2_with fail
            refine (HF.out 15 _).mono ?_
            rintro e w3 ⟨rfl,hb3⟩
            have HB3:Hid (Below z w w3):=HB.out.trans (hb3.mono (by have:=HB.out.size;rw [HZ.out] at this;exact this))
            have HO3:Hid (Rq w3 (z+1) ⟨[],0,0⟩):=HO.out.keep hb3
            have hst:=zuq HO3.out (r.fl 15)
            have hsz3:(zaa (r.fl 15)).size=3:=rfl
            have HO4:Hid (Rq (w3.setRow (z+1) (zaa (r.fl 15))) (z+1) (r.fl 15)):=HO3.out.put _
            have HB4:Hid (Below z w (w3.setRow (z+1) (zaa (r.fl 15)))):=zar HB3.out (by omega)
            clear hb3 c0 c1 c2 HO3 HB3 HO HB HF HQ HJ
            go_wp2_with fail
            generalize w3.setRow (z+1) (zaa (r.fl 15))=w4 at *
            have d0:w4.cell? ⟨z+1,0,none⟩=some (.string ⟨(r.fl 15).s.toArray⟩):=HO4.out.cell 0
            have d1:w4.cell? ⟨z+1,1,none⟩=some (.int .i64 (r.fl 15).at_):=HO4.out.cell 1
            have d2:w4.cell? ⟨z+1,2,none⟩=some (.int .i64 (r.fl 15).e):=HO4.out.cell 2
            refine bodyPost_ret (by simp [results,Tryz.results90,go_sem,d0,d1,d2];try rfl) rfl ?_
            exact QP.mk (by rw [HE.out];rfl) (by rw [HE.out]) (by rw [HZ.out];exact HB4.out)
          · have e1 : ((k : Int) == 1) = false := by rw [beq_eq_false_iff_ne]; omega
            have e2:((k:Int)==11)=false:=by rw [beq_eq_false_iff_ne];omega
            have e3:((k:Int)==10)=true:=by rw [beq_iff_eq];omega
            have e4:(129:Int)<(y.toNat:Int):=by omega
            clear h1 h2
            go_wp2_with fail
            refine (HF.out 15 _).mono ?_
            rintro e w3 ⟨rfl,hb3⟩
            have HB3:Hid (Below z w w3):=HB.out.trans (hb3.mono (by have:=HB.out.size;rw [HZ.out] at this;exact this))
            have HO3:Hid (Rq w3 (z+1) ⟨[],0,0⟩):=HO.out.keep hb3
            have hst:=zuq HO3.out (r.fl 15)
            have hsz3:(zaa (r.fl 15)).size=3:=rfl
            have HO4:Hid (Rq (w3.setRow (z+1) (zaa (r.fl 15))) (z+1) (r.fl 15)):=HO3.out.put _
            have HB4:Hid (Below z w (w3.setRow (z+1) (zaa (r.fl 15)))):=zar HB3.out (by omega)
            clear hb3 c0 c1 c2 HO3 HB3 HO HB HF HQ HJ
            go_wp2_with fail
            generalize w3.setRow (z+1) (zaa (r.fl 15))=w4 at *
            have d0:w4.cell? ⟨z+1,0,none⟩=some (.string ⟨(r.fl 15).s.toArray⟩):=HO4.out.cell 0
            have d1:w4.cell? ⟨z+1,1,none⟩=some (.int .i64 (r.fl 15).at_):=HO4.out.cell 1
            have d2:w4.cell? ⟨z+1,2,none⟩=some (.int .i64 (r.fl 15).e):=HO4.out.cell 2
            refine bodyPost_ret (by simp [results,Tryz.results90,go_sem,d0,d1,d2];try rfl) rfl ?_
            exact QP.mk (by rw [HE.out];rfl) (by rw [HE.out]) (by rw [HZ.out];exact HB4.out)
        · have h0 : ¬ (k - 1 = 0 ∧ x.toNat = 128) := by omega
          have HM:Hid (¬ 144115188075855872≤gv 0 (D.take (k-1))):=HJ.out.small HX.out HY.out h0 (by omega)
          have hk10:k≠11:=by omega
          have hnf1:k=1→x.toNat≠128:=by omega
          have hnf2:k=10→y.toNat≤129:=by omega
          by_cases hc:x.toNat<128
          · have hcz : (x.toNat : Int) < 128 := by omega
            have HE:Hid (zas r=({ r with at_:=r.at_+k },gv 0 (D.take k))):=by
              unfold Hid
              have:=HJ.out.last HX.out h0 HM.out hc
              rw [show k-1+1=k by omega] at this
              rw [HU.out,this,if_pos rfl]
            clear hf h0
            by_cases hw:k=1
            · have e1 : ((k : Int) == 1) = true := by rw [beq_iff_eq]; omega
              have e2:((x.toNat:Int)==128)=false:=by rw [beq_eq_false_iff_ne];have:=hnf1 hw;omega
              have e3:((k:Int)==11)=false:=by rw [beq_eq_false_iff_ne];omega
              have e4:((k:Int)==10)=false:=by rw [beq_eq_false_iff_ne];omega
              clear hw hnf1 hnf2
              go_wp2_with fail
              go_loopw [6,7] (fun v i wi=>∃(a n:Nat),v=.int .u64 n∧i=.int .i64 a∧a≤k∧Hid (n=gv 0 (D.take a))∧Hid (Rq wi z r)∧Hid (Rq wi (z+1) ⟨[],0,0⟩)∧Hid (Below z w wi)) (fun _ i _=>k-(Lib.intOf i).toNat)
              case atStart=>exact ⟨0,0,rfl,rfl,by omega,rfl,HQ.out,HO.out,HB.out⟩
              case round=>
                clear c0 c1 c2 HQ HO HB
                obtain ⟨a,n,rfl,rfl,hak,HA,HQ,HO,HB⟩:=hrel
                by_cases hlt2:a<k
                · have haz : (a : Int) < (k : Int) := by omega
                  have c0:wr.cell? ⟨z,0,none⟩=some (.string S):=by rw [HS.out];exact HQ.out.cell 0
                  have c1:wr.cell? ⟨z,1,none⟩=some (.int .i64 r.at_):=HQ.out.cell 1
                  have hlt3:r.at_+a<S.size:=by omega
                  obtain ⟨u,hu⟩:∃u:UInt8,S[r.at_+a]=u:=⟨_,rfl⟩
                  have hul:=u.toNat_lt
                  have hiu:∀w:World,(Instr.index 9 (.string S) (.int .i64 ((r.at_:Int)+a))).run Tryz.prog w=.ok (.int .u8 (u.toNat:Int)) w:=fun w=>zd1 hlt3 hu rfl w
                  have hn57:n<144115188075855872:=by
                    have h1:=zdm D (show a≤k-1 by omega)
                    have h2:=HM.out
                    rw [HA.out]
                    omega
                  have HA2:Hid (n*128+u.toNat % 128=gv 0 (D.take (a+1))):=by
                    unfold Hid
                    rw [zcm (by rw [HG.out a hlt3,hu]),zc5,HA.out]
                  clear hu HA
                  go_wp2_with fail
                  exact ⟨⟨a+1,n*128+u.toNat % 128,by rw [Int.natCast_add,Int.natCast_mul];rfl,by go_num,by omega,HA2.out,HQ.out,HO.out,HB.out⟩,by simp [Lib.intOf];omega⟩
                · have haz : ¬ (a : Int) < (k : Int) := by omega
                  have hak2:a=k:=by omega
                  subst hak2
                  have c0:wr.cell? ⟨z,0,none⟩=some (.string S):=by rw [HS.out];exact HQ.out.cell 0
                  have c1:wr.cell? ⟨z,1,none⟩=some (.int .i64 r.at_):=HQ.out.cell 1
                  have c2:wr.cell? ⟨z,2,none⟩=some (.int .i64 r.e):=HQ.out.cell 2
                  have f1:=HQ.out.froz 1
                  have HQ5:Hid (Rq (wr.setCell ⟨z,1,none⟩ (.int .i64 ((r.at_:Int)+a))) z { r with at_:=r.at_+a }):=HQ.out.setAt (r.at_+a)
                  have HO5:Hid (Rq (wr.setCell ⟨z,1,none⟩ (.int .i64 ((r.at_:Int)+a))) (z+1) ⟨[],0,0⟩):=HO.out.same (Below.heap_setCell wr _ _ _ (by simp))
                  have HB5:Hid (Below z w (wr.setCell ⟨z,1,none⟩ (.int .i64 ((r.at_:Int)+a)))):=HB.out.setCell (by simp) _
                  go_upto_region 18 with fail
                  generalize wr.setCell ⟨z,1,none⟩ (.int .i64 ((r.at_:Int)+a))=w5 at *
                  clear c0 c1 c2 f1
                  have c0:w5.cell? ⟨z,0,none⟩=some (.string S):=by rw [HS.out];exact HQ5.out.cell 0
                  have c1:w5.cell? ⟨z,1,none⟩=some (.int .i64 ((r.at_:Int)+a)):=HQ5.out.cell 1
                  have c2:w5.cell? ⟨z,2,none⟩=some (.int .i64 r.e):=HQ5.out.cell 2
                  have g0:=HO5.out.froz 0
                  have g1:=HO5.out.froz 1
                  have g2:=HO5.out.froz 2
                  have b0:w5.cell? ⟨z+1,0,none⟩=some (.string ⟨#[]⟩):=HO5.out.cell 0
                  have b1:w5.cell? ⟨z+1,1,none⟩=some (.int .i64 0):=HO5.out.cell 1
                  have b2:w5.cell? ⟨z+1,2,none⟩=some (.int .i64 0):=HO5.out.cell 2
                  have HT:Hid (((w5.setCell ⟨z+1,0,none⟩ (.string S)).setCell ⟨z+1,1,none⟩ (.int .i64 ((r.at_:Int)+a))).setCell ⟨z+1,2,none⟩ (.int .i64 r.e)=w5.setRow (z+1) (zaa { r with at_:=r.at_+a })):=by unfold Hid;rw [HS.out];exact zdh HO5.out { r with at_:=r.at_+a }
                  have HO6:Hid (Rq (w5.setRow (z+1) (zaa { r with at_:=r.at_+a })) (z+1) { r with at_:=r.at_+a }):=HO5.out.put _
                  have HB6:Hid (Below z w (w5.setRow (z+1) (zaa { r with at_:=r.at_+a }))):=zar HB5.out (by omega)
                  go_wp2_with fail
                  rw [HT.out]
                  generalize w5.setRow (z+1) (zaa { r with at_:=r.at_+a })=w6 at *
                  have d0:w6.cell? ⟨z+1,0,none⟩=some (.string ⟨r.s.toArray⟩):=HO6.out.cell 0
                  have d1:w6.cell? ⟨z+1,1,none⟩=some (.int .i64 ((r.at_+a:Nat):Int)):=HO6.out.cell 1
                  have d2:w6.cell? ⟨z+1,2,none⟩=some (.int .i64 r.e):=HO6.out.cell 2
                  refine bodyPost_ret (by simp [results,Tryz.results90,go_sem,d0,d1,d2];try rfl) rfl ?_
                  exact QP.mk (x:={ r with at_:=r.at_+a }) (by rw [HE.out,HA.out]) (by rw [HE.out]) (by rw [HZ.out];exact HB6.out)
            have hw1:=hw
            clear hw
            by_cases hw:k=10
            · have e1 : ((k : Int) == 1) = false := by rw [beq_eq_false_iff_ne]; omega
              have e3:((k:Int)==11)=false:=by rw [beq_eq_false_iff_ne];omega
              have e4:((k:Int)==10)=true:=by rw [beq_iff_eq];omega
              have e5:¬ (129:Int)<(y.toNat:Int):=by have:=hnf2 hw;omega
              clear hw hw1 hnf1 hnf2
              go_wp2_with fail
              go_loopw [6,7] (fun v i wi=>∃(a n:Nat),v=.int .u64 n∧i=.int .i64 a∧a≤k∧Hid (n=gv 0 (D.take a))∧Hid (Rq wi z r)∧Hid (Rq wi (z+1) ⟨[],0,0⟩)∧Hid (Below z w wi)) (fun _ i _=>k-(Lib.intOf i).toNat)
              case atStart=>exact ⟨0,0,rfl,rfl,by omega,rfl,HQ.out,HO.out,HB.out⟩
              case round=>
                clear c0 c1 c2 HQ HO HB
                obtain ⟨a,n,rfl,rfl,hak,HA,HQ,HO,HB⟩:=hrel
                by_cases hlt2:a<k
                · have haz : (a : Int) < (k : Int) := by omega
                  have c0:wr.cell? ⟨z,0,none⟩=some (.string S):=by rw [HS.out];exact HQ.out.cell 0
                  have c1:wr.cell? ⟨z,1,none⟩=some (.int .i64 r.at_):=HQ.out.cell 1
                  have hlt3:r.at_+a<S.size:=by omega
                  obtain ⟨u,hu⟩:∃u:UInt8,S[r.at_+a]=u:=⟨_,rfl⟩
                  have hul:=u.toNat_lt
                  have hiu:∀w:World,(Instr.index 9 (.string S) (.int .i64 ((r.at_:Int)+a))).run Tryz.prog w=.ok (.int .u8 (u.toNat:Int)) w:=fun w=>zd1 hlt3 hu rfl w
                  have hn57:n<144115188075855872:=by
                    have h1:=zdm D (show a≤k-1 by omega)
                    have h2:=HM.out
                    rw [HA.out]
                    omega
                  have HA2:Hid (n*128+u.toNat % 128=gv 0 (D.take (a+1))):=by
                    unfold Hid
                    rw [zcm (by rw [HG.out a hlt3,hu]),zc5,HA.out]
                  clear hu HA
                  go_wp2_with fail
                  exact ⟨⟨a+1,n*128+u.toNat % 128,by rw [Int.natCast_add,Int.natCast_mul];rfl,by go_num,by omega,HA2.out,HQ.out,HO.out,HB.out⟩,by simp [Lib.intOf];omega⟩
                · have haz : ¬ (a : Int) < (k : Int) := by omega
                  have hak2:a=k:=by omega
                  subst hak2
                  have c0:wr.cell? ⟨z,0,none⟩=some (.string S):=by rw [HS.out];exact HQ.out.cell 0
                  have c1:wr.cell? ⟨z,1,none⟩=some (.int .i64 r.at_):=HQ.out.cell 1
                  have c2:wr.cell? ⟨z,2,none⟩=some (.int .i64 r.e):=HQ.out.cell 2
                  have f1:=HQ.out.froz 1
                  have HQ5:Hid (Rq (wr.setCell ⟨z,1,none⟩ (.int .i64 ((r.at_:Int)+a))) z { r with at_:=r.at_+a }):=HQ.out.setAt (r.at_+a)
                  have HO5:Hid (Rq (wr.setCell ⟨z,1,none⟩ (.int .i64 ((r.at_:Int)+a))) (z+1) ⟨[],0,0⟩):=HO.out.same (Below.heap_setCell wr _ _ _ (by simp))
                  have HB5:Hid (Below z w (wr.setCell ⟨z,1,none⟩ (.int .i64 ((r.at_:Int)+a)))):=HB.out.setCell (by simp) _
                  go_upto_region 18 with fail
                  generalize wr.setCell ⟨z,1,none⟩ (.int .i64 ((r.at_:Int)+a))=w5 at *
                  clear c0 c1 c2 f1
                  have c0:w5.cell? ⟨z,0,none⟩=some (.string S):=by rw [HS.out];exact HQ5.out.cell 0
                  have c1:w5.cell? ⟨z,1,none⟩=some (.int .i64 ((r.at_:Int)+a)):=HQ5.out.cell 1
                  have c2:w5.cell? ⟨z,2,none⟩=some (.int .i64 r.e):=HQ5.out.cell 2
                  have g0:=HO5.out.froz 0
                  have g1:=HO5.out.froz 1
                  have g2:=HO5.out.froz 2
                  have b0:w5.cell? ⟨z+1,0,none⟩=some (.string ⟨#[]⟩):=HO5.out.cell 0
                  have b1:w5.cell? ⟨z+1,1,none⟩=some (.int .i64 0):=HO5.out.cell 1
                  have b2:w5.cell? ⟨z+1,2,none⟩=some (.int .i64 0):=HO5.out.cell 2
                  have HT:Hid (((w5.setCell ⟨z+1,0,none⟩ (.string S)).setCell ⟨z+1,1,none⟩ (.int .i64 ((r.at_:Int)+a))).setCell ⟨z+1,2,none⟩ (.int .i64 r.e)=w5.setRow (z+1) (zaa { r with at_:=r.at_+a })):=by unfold Hid;rw [HS.out];exact zdh HO5.out { r with at_:=r.at_+a }
                  have HO6:Hid (Rq (w5.setRow (z+1) (zaa { r with at_:=r.at_+a })) (z+1) { r with at_:=r.at_+a }):=HO5.out.put _
                  have HB6:Hid (Below z w (w5.setRow (z+1) (zaa { r with at_:=r.at_+a }))):=zar HB5.out (by omega)
                  go_wp2_with fail
                  rw [HT.out]
                  generalize w5.setRow (z+1) (zaa { r with at_:=r.at_+a })=w6 at *
                  have d0:w6.cell? ⟨z+1,0,none⟩=some (.string ⟨r.s.toArray⟩):=HO6.out.cell 0
                  have d1:w6.cell? ⟨z+1,1,none⟩=some (.int .i64 ((r.at_+a:Nat):Int)):=HO6.out.cell 1
                  have d2:w6.cell? ⟨z+1,2,none⟩=some (.int .i64 r.e):=HO6.out.cell 2
                  refine bodyPost_ret (by simp [results,Tryz.results90,go_sem,d0,d1,d2];try rfl) rfl ?_
                  exact QP.mk (x:={ r with at_:=r.at_+a }) (by rw [HE.out,HA.out]) (by rw [HE.out]) (by rw [HZ.out];exact HB6.out)
            have hw2:=hw
            clear hw
            have e1:((k:Int)==1)=false:=by rw [beq_eq_false_iff_ne];omega
            have e3:((k:Int)==11)=false:=by rw [beq_eq_false_iff_ne];omega
            have e4:((k:Int)==10)=false:=by rw [beq_eq_false_iff_ne];omega
            clear hw1 hw2 hnf1 hnf2
            go_wp2_with fail
            go_loopw [6,7] (fun v i wi=>∃(a n:Nat),v=.int .u64 n∧i=.int .i64 a∧a≤k∧Hid (n=gv 0 (D.take a))∧Hid (Rq wi z r)∧Hid (Rq wi (z+1) ⟨[],0,0⟩)∧Hid (Below z w wi)) (fun _ i _=>k-(Lib.intOf i).toNat)
            case atStart=>exact ⟨0,0,rfl,rfl,by omega,rfl,HQ.out,HO.out,HB.out⟩
            case round=>
              clear c0 c1 c2 HQ HO HB
              obtain ⟨a,n,rfl,rfl,hak,HA,HQ,HO,HB⟩:=hrel
              by_cases hlt2:a<k
              · have haz : (a : Int) < (k : Int) := by omega
                have c0:wr.cell? ⟨z,0,none⟩=some (.string S):=by rw [HS.out];exact HQ.out.cell 0
                have c1:wr.cell? ⟨z,1,none⟩=some (.int .i64 r.at_):=HQ.out.cell 1
                have hlt3:r.at_+a<S.size:=by omega
                obtain ⟨u,hu⟩:∃u:UInt8,S[r.at_+a]=u:=⟨_,rfl⟩
                have hul:=u.toNat_lt
                have hiu:∀w:World,(Instr.index 9 (.string S) (.int .i64 ((r.at_:Int)+a))).run Tryz.prog w=.ok (.int .u8 (u.toNat:Int)) w:=fun w=>zd1 hlt3 hu rfl w
                have hn57:n<144115188075855872:=by
                  have h1:=zdm D (show a≤k-1 by omega)
                  have h2:=HM.out
                  rw [HA.out]
                  omega
                have HA2:Hid (n*128+u.toNat % 128=gv 0 (D.take (a+1))):=by
                  unfold Hid
                  rw [zcm (by rw [HG.out a hlt3,hu]),zc5,HA.out]
                clear hu HA
                go_wp2_with fail
                exact ⟨⟨a+1,n*128+u.toNat % 128,by rw [Int.natCast_add,Int.natCast_mul];rfl,by go_num,by omega,HA2.out,HQ.out,HO.out,HB.out⟩,by simp [Lib.intOf];omega⟩
              · have haz : ¬ (a : Int) < (k : Int) := by omega
                have hak2:a=k:=by omega
                subst hak2
                have c0:wr.cell? ⟨z,0,none⟩=some (.string S):=by rw [HS.out];exact HQ.out.cell 0
                have c1:wr.cell? ⟨z,1,none⟩=some (.int .i64 r.at_):=HQ.out.cell 1
                have c2:wr.cell? ⟨z,2,none⟩=some (.int .i64 r.e):=HQ.out.cell 2
                have f1:=HQ.out.froz 1
                have HQ5:Hid (Rq (wr.setCell ⟨z,1,none⟩ (.int .i64 ((r.at_:Int)+a))) z { r with at_:=r.at_+a }):=HQ.out.setAt (r.at_+a)
                have HO5:Hid (Rq (wr.setCell ⟨z,1,none⟩ (.int .i64 ((r.at_:Int)+a))) (z+1) ⟨[],0,0⟩):=HO.out.same (Below.heap_setCell wr _ _ _ (by simp))
                have HB5:Hid (Below z w (wr.setCell ⟨z,1,none⟩ (.int .i64 ((r.at_:Int)+a)))):=HB.out.setCell (by simp) _
                go_upto_region 18 with fail
                generalize wr.setCell ⟨z,1,none⟩ (.int .i64 ((r.at_:Int)+a))=w5 at *
                clear c0 c1 c2 f1
                have c0:w5.cell? ⟨z,0,none⟩=some (.string S):=by rw [HS.out];exact HQ5.out.cell 0
                have c1:w5.cell? ⟨z,1,none⟩=some (.int .i64 ((r.at_:Int)+a)):=HQ5.out.cell 1
                have c2:w5.cell? ⟨z,2,none⟩=some (.int .i64 r.e):=HQ5.out.cell 2
                have g0:=HO5.out.froz 0
                have g1:=HO5.out.froz 1
                have g2:=HO5.out.froz 2
                have b0:w5.cell? ⟨z+1,0,none⟩=some (.string ⟨#[]⟩):=HO5.out.cell 0
                have b1:w5.cell? ⟨z+1,1,none⟩=some (.int .i64 0):=HO5.out.cell 1
                have b2:w5.cell? ⟨z+1,2,none⟩=some (.int .i64 0):=HO5.out.cell 2
                have HT:Hid (((w5.setCell ⟨z+1,0,none⟩ (.string S)).setCell ⟨z+1,1,none⟩ (.int .i64 ((r.at_:Int)+a))).setCell ⟨z+1,2,none⟩ (.int .i64 r.e)=w5.setRow (z+1) (zaa { r with at_:=r.at_+a })):=by unfold Hid;rw [HS.out];exact zdh HO5.out { r with at_:=r.at_+a }
                have HO6:Hid (Rq (w5.setRow (z+1) (zaa { r with at_:=r.at_+a })) (z+1) { r with at_:=r.at_+a }):=HO5.out.put _
                have HB6:Hid (Below z w (w5.setRow (z+1) (zaa { r with at_:=r.at_+a }))):=zar HB5.out (by omega)
                go_wp2_with fail
                rw [HT.out]
                generalize w5.setRow (z+1) (zaa { r with at_:=r.at_+a })=w6 at *
                have d0:w6.cell? ⟨z+1,0,none⟩=some (.string ⟨r.s.toArray⟩):=HO6.out.cell 0
                have d1:w6.cell? ⟨z+1,1,none⟩=some (.int .i64 ((r.at_+a:Nat):Int)):=HO6.out.cell 1
                have d2:w6.cell? ⟨z+1,2,none⟩=some (.int .i64 r.e):=HO6.out.cell 2
                refine bodyPost_ret (by simp [results,Tryz.results90,go_sem,d0,d1,d2];try rfl) rfl ?_
                exact QP.mk (x:={ r with at_:=r.at_+a }) (by rw [HE.out,HA.out]) (by rw [HE.out]) (by rw [HZ.out];exact HB6.out)
          · have hcz : ¬ (x.toNat : Int) < 128 := by omega
            have HJ2:Hid (Jn D (k+1-1)):=by
              unfold Hid
              have:=HJ.out.more HX.out h0 HM.out (by omega) hc
              rw [show k-1+1=k+1-1 by omega] at this
              exact this
            clear hf h0
            by_cases hw:k=1
            · have e1 : ((k : Int) == 1) = true := by rw [beq_iff_eq]; omega
              have e2:((x.toNat:Int)==128)=false:=by rw [beq_eq_false_iff_ne];have:=hnf1 hw;omega
              have e3:((k:Int)==11)=false:=by rw [beq_eq_false_iff_ne];omega
              have e4:((k:Int)==10)=false:=by rw [beq_eq_false_iff_ne];omega
              clear hw hnf1 hnf2
              go_wp2_with fail
              exact ⟨⟨k+1,by go_num,by omega,by omega,HJ2.out,HQ.out,HO.out,HB.out⟩,by have:=HN.out;simp [Lib.intOf];omega⟩
            have hw1:=hw
            clear hw
            by_cases hw:k=10
            · have e1 : ((k : Int) == 1) = false := by rw [beq_eq_false_iff_ne]; omega
              have e3:((k:Int)==11)=false:=by rw [beq_eq_false_iff_ne];omega
              have e4:((k:Int)==10)=true:=by rw [beq_iff_eq];omega
              have e5:¬ (129:Int)<(y.toNat:Int):=by have:=hnf2 hw;omega
              clear hw hw1 hnf1 hnf2
              go_wp2_with fail
              exact ⟨⟨k+1,by go_num,by omega,by omega,HJ2.out,HQ.out,HO.out,HB.out⟩,by have:=HN.out;simp [Lib.intOf];omega⟩
            have hw2:=hw
            clear hw
            have e1:((k:Int)==1)=false:=by rw [beq_eq_false_iff_ne];omega
            have e3:((k:Int)==11)=false:=by rw [beq_eq_false_iff_ne];omega
            have e4:((k:Int)==10)=false:=by rw [beq_eq_false_iff_ne];omega
            clear hw1 hw2 hnf1 hnf2
            go_wp2_with fail
            exact ⟨⟨k+1,by go_num,by omega,by omega,HJ2.out,HQ.out,HO.out,HB.out⟩,by have:=HN.out;simp [Lib.intOf];omega⟩
  · have hz : ((r.e : Int) != 0) = true := by rw [bne_iff_ne]; omega
    have HU:Hid (zas r=(r,0)):=zb7 h0
    unfold QP
    rw [HU.out]
    unfold zaa
    generalize (⟨r.s.toArray⟩:ByteArray)=S
    generalize r.at_=a
    clear HU
    go_enter Tryz.func90,Tryz.ntmps90
    go_wp2_with fail
    go_returns
    exact ⟨rfl,(below_new w _).alloc (by simp) _⟩
theorem ze6 {r:Rd} (h:r.at_≤r.s.length):(zas r).1.s=r.s:=(zbv (show r.Ok from h)).2.1
theorem zg7 {r:Rd} {S:ByteArray} (hS:S=⟨r.s.toArray⟩) {X:Rd} (hX:X.s=r.s):zaa X=#[.string S,.int .i64 X.at_,.int .i64 X.e]:=by
 rw [hS,← hX]
 rfl
theorem zkv (r:Rd) (e:Nat):(r.fl e).s=r.s:=by unfold Rd.fl;split<;>rfl
theorem zbc {w:World} {z:Nat} {r Y:Rd} {S:ByteArray} (h:Rq w z Y) (hS:S=⟨r.s.toArray⟩) {X:Rd} (hX:X.s=r.s):((w.setCell ⟨z,0,none⟩ (.string S)).setCell ⟨z,1,none⟩ (.int .i64 X.at_)).setCell ⟨z,2,none⟩ (.int .i64 X.e)=w.setRow z (zaa X):=by
 rw [hS,← hX]
 exact zdh h X
theorem ufl {r:Rd} {S:ByteArray} (hS:S=⟨r.s.toArray⟩) (hr:r.at_≤r.s.length) (hs:r.s.length≤1099511627776) (w:World):Calls Tryz.prog 90 #[.agg #[.string S,.int .i64 r.at_,.int .i64 r.e]] w fun e w'=>e=.returned (.tuple #[.agg #[.string S,.int .i64 (zas r).1.at_,.int .i64 (zas r).1.e],.int .u64 (zas r).2])∧Hid (Below w.heap.size w w'):=by
 have h:=zw6 r hr hs w
 unfold QP at h
 rw [zg7 hS (ze6 hr)] at h
 rw [hS] at h ⊢
 exact h
theorem ffl {r:Rd} {S:ByteArray} (hS:S=⟨r.s.toArray⟩) (e:Nat) (w:World):Calls Tryz.prog 97 #[.agg #[.string S,.int .i64 r.at_,.int .i64 r.e],.int .i64 e] w fun x w'=>x=.returned (.agg #[.string S,.int .i64 (r.fl e).at_,.int .i64 (r.fl e).e])∧Hid (Below w.heap.size w w'):=by
 have h:=ztu r e w
 rw [zg7 hS (zkv r e)] at h
 rw [hS] at h ⊢
 exact h
theorem Rq.aside {w:World} {z q:Nat} {r:Rd} {cs:Array Value} (h:Rq w z r) (hn:z≠q):Rq (w.setRow q cs) z r:=h.same (setRow_other w q z cs hn)
theorem zxy (r:Rd) (hr:r.at_≤r.s.length) (hs:r.s.length≤1099511627776) (w:World):Calls Tryz.prog 61 #[.agg (zaa r)] w (QP (.int .i64 (zah r).2) (zah r).1 w):=by
 obtain ⟨S,HS⟩:∃S:ByteArray,Hid (S=⟨r.s.toArray⟩):=⟨_,rfl⟩
 have HU:Hid (∀w,Calls Tryz.prog 90 #[.agg #[.string S,.int .i64 r.at_,.int .i64 r.e]] w fun e w'=>e=.returned (.tuple #[.agg #[.string S,.int .i64 (zas r).1.at_,.int .i64 (zas r).1.e],.int .u64 (zas r).2])∧Hid (Below w.heap.size w w')):=fun w=>ufl HS.out hr hs w
 have HX:Hid ((zas r).1.s=r.s):=ze6 hr
 have hu:=(zbv (show r.Ok from hr)).2.2.2
 have HI:Hid (zah r=((zas r).1,un (zas r).2)):=rfl
 have HN:=Rq.new2 w r
 have HB0:Hid (Below w.heap.size w ((w.alloc (.cells (zaa r) 136)).alloc (.cells (zaa ⟨[],0,0⟩) 136))):=HN.2.2
 have HQ0:Hid (Rq ((w.alloc (.cells (zaa r) 136)).alloc (.cells (zaa ⟨[],0,0⟩) 136)) w.heap.size r):=HN.1
 have HO0:Hid (Rq ((w.alloc (.cells (zaa r) 136)).alloc (.cells (zaa ⟨[],0,0⟩) 136)) (w.heap.size+1) ⟨[],0,0⟩):=HN.2.1
 clear HN
 clear hr hs
 generalize (zas r).1=X at *
 generalize (zas r).2=u at *
 go_enter Tryz.func61,Tryz.ntmps61
 go_upto_region 1 with fail
 show Code.wp _ _ _ _ ((w.alloc (.cells (zaa r) 136)).alloc (.cells (zaa ⟨[],0,0⟩) 136))
 generalize (w.alloc (.cells (zaa r) 136)).alloc (.cells (zaa ⟨[],0,0⟩) 136)=wA at *
 generalize hZ:w.heap.size=z at *
 have HZ:Hid (w.heap.size=z):=hZ
 clear hZ
 have c0:wA.cell? ⟨z,0,none⟩=some (.string S):=by rw [HS.out];exact HQ0.out.cell 0
 have c1:wA.cell? ⟨z,1,none⟩=some (.int .i64 r.at_):=HQ0.out.cell 1
 have c2:wA.cell? ⟨z,2,none⟩=some (.int .i64 r.e):=HQ0.out.cell 2
 have f0:=HQ0.out.froz 0
 have f1:=HQ0.out.froz 1
 have f2:=HQ0.out.froz 2
 go_wp2_with fail
 refine (HU.out _).mono ?_
 rintro e w3 ⟨rfl,HB3⟩
 have HQ3:Hid (Rq w3 z r):=HQ0.out.keep HB3.out
 have HO3:Hid (Rq w3 (z+1) ⟨[],0,0⟩):=HO0.out.keep HB3.out
 have hAz:z≤wA.heap.size:=by have:=HB0.out.size;rw [HZ.out] at this;exact this
 have HB4:Hid (Below z w w3):=HB0.out.trans (HB3.out.mono hAz)
 clear c0 c1 c2 f0 f1 f2 hAz
 have c0:w3.cell? ⟨z,0,none⟩=some (.string S):=by rw [HS.out];exact HQ3.out.cell 0
 have c1:w3.cell? ⟨z,1,none⟩=some (.int .i64 r.at_):=HQ3.out.cell 1
 have c2:w3.cell? ⟨z,2,none⟩=some (.int .i64 r.e):=HQ3.out.cell 2
 have f0:=HQ3.out.froz 0
 have f1:=HQ3.out.froz 1
 have f2:=HQ3.out.froz 2
 have HT3:Hid (((w3.setCell ⟨z,0,none⟩ (.string S)).setCell ⟨z,1,none⟩ (.int .i64 X.at_)).setCell ⟨z,2,none⟩ (.int .i64 X.e)=w3.setRow z (zaa X)):=zbc HQ3.out HS.out HX.out
 have HQ5:Hid (Rq (w3.setRow z (zaa X)) z X):=HQ3.out.put X
 have HO5:Hid (Rq (w3.setRow z (zaa X)) (z+1) ⟨[],0,0⟩):=HO3.out.aside (by omega)
 have HB5:Hid (Below z w (w3.setRow z (zaa X))):=zar HB4.out (Nat.le_refl _)
 go_upto_region 2 with fail
 rw [HT3.out]
 generalize w3.setRow z (zaa X)=w5 at *
 clear c0 c1 c2 f0 f1 f2 HT3 HQ3 HO3 HB4 HB3 HQ0 HO0 HB0
 have c0:w5.cell? ⟨z,0,none⟩=some (.string S):=by rw [HS.out,← HX.out];exact HQ5.out.cell 0
 have c1:w5.cell? ⟨z,1,none⟩=some (.int .i64 X.at_):=HQ5.out.cell 1
 have c2:w5.cell? ⟨z,2,none⟩=some (.int .i64 X.e):=HQ5.out.cell 2
 have g0:=HO5.out.froz 0
 have g1:=HO5.out.froz 1
 have g2:=HO5.out.froz 2
 have b0:w5.cell? ⟨z+1,0,none⟩=some (.string ⟨#[]⟩):=HO5.out.cell 0
 have b1:w5.cell? ⟨z+1,1,none⟩=some (.int .i64 0):=HO5.out.cell 1
 have b2:w5.cell? ⟨z+1,2,none⟩=some (.int .i64 0):=HO5.out.cell 2
 have HT:Hid (((w5.setCell ⟨z+1,0,none⟩ (.string S)).setCell ⟨z+1,1,none⟩ (.int .i64 X.at_)).setCell ⟨z+1,2,none⟩ (.int .i64 X.e)=w5.setRow (z+1) (zaa X)):=zbc HO5.out HS.out HX.out
 have HO9:Hid (Rq (w5.setRow (z+1) (zaa X)) (z+1) X):=HO5.out.put _
 have HB9:Hid (Below z w (w5.setRow (z+1) (zaa X))):=zar HB5.out (by omega)
 by_cases h1:u % 2=1
 ·have h1z:((u:Int) % 2==1)=true:=by rw [beq_iff_eq];omega
  have HV:Hid (-1-(u:Int) / 2=(zah r).2):=by unfold Hid;rw [HI.out];simp only [un,h1,if_true];omega
  go_wp2_with fail
  rw [HT.out]
  generalize w5.setRow (z+1) (zaa X)=w9 at *
  have d0:w9.cell? ⟨z+1,0,none⟩=some (.string ⟨X.s.toArray⟩):=HO9.out.cell 0
  have d1:w9.cell? ⟨z+1,1,none⟩=some (.int .i64 X.at_):=HO9.out.cell 1
  have d2:w9.cell? ⟨z+1,2,none⟩=some (.int .i64 X.e):=HO9.out.cell 2
  refine bodyPost_ret (by simp [results,Tryz.results61,go_sem,d0,d1,d2];try rfl) rfl ?_
  exact QP.mk (x:=X) (by rw [← HV.out]) (by rw [HI.out]) (by rw [HZ.out];exact HB9.out)
 ·have h1z:((u:Int) % 2==1)=false:=by rw [beq_eq_false_iff_ne];omega
  have HV:Hid ((u:Int) / 2=(zah r).2):=by unfold Hid;rw [HI.out];simp only [un,h1,if_false];omega
  go_wp2_with fail
  rw [HT.out]
  generalize w5.setRow (z+1) (zaa X)=w9 at *
  have d0:w9.cell? ⟨z+1,0,none⟩=some (.string ⟨X.s.toArray⟩):=HO9.out.cell 0
  have d1:w9.cell? ⟨z+1,1,none⟩=some (.int .i64 X.at_):=HO9.out.cell 1
  have d2:w9.cell? ⟨z+1,2,none⟩=some (.int .i64 X.e):=HO9.out.cell 2
  refine bodyPost_ret (by simp [results,Tryz.results61,go_sem,d0,d1,d2];try rfl) rfl ?_
  exact QP.mk (x:=X) (by rw [← HV.out]) (by rw [HI.out]) (by rw [HZ.out];exact HB9.out)
theorem zfq (r:Rd) (m:Int):zai r m=if (zas r).1.e≠0 then ((zas r).1,0) else if m<((zas r).2:Int) then (r.fl 2,0) else zas r:=rfl
theorem zjb {r:Rd} (h:(zas r).1.e=0):r.e=0:=by
 apply Classical.byContradiction
 intro hn
 rw [zb7 hn] at h
 exact hn h
theorem zpr {r:Rd} (h:(zas r).1.e=0):(zas r).1 = { r with at_:=(zas r).1.at_ }:=by
 have h0:=zjb h
 unfold zas at h ⊢
 rw [if_neg (by simpa using h0)] at h ⊢
 by_cases h1:(rdU (r.s.drop r.at_)).1=0
 ·rw [if_pos h1]
 ·rw [if_neg h1] at h
  exact absurd h h1
theorem zkw (r:Rd) (m:Int):za4 r m=if (zas r).1.e≠0 then ((zas r).1,[]) else if m<((zas r).2:Int) then (r.fl 2,[]) else if r.s.length<(zas r).1.at_+(zas r).2 then (r.fl 14,[]) else ({ (zas r).1 with at_:=(zas r).1.at_+(zas r).2 },(r.s.drop (zas r).1.at_).take (zas r).2):=by
 unfold za4
 rw [zfq]
 by_cases h:(zas r).1.e≠0
 ·rw [if_pos h,if_pos h,if_pos h]
 ·rw [if_neg h,if_neg h]
  have h0:(zas r).1.e=0:=by simpa using h
  by_cases h2:m<((zas r).2:Int)
  ·rw [if_pos h2,if_pos h2]
   have h1:=zjb h0
   rw [if_pos (by simp [Rd.fl,h1])]
  ·rw [if_neg h2,if_neg h2,if_neg h]
   have e:=zpr h0
   split
   ·rfl
   ·rw [e]
theorem zm0 (r:Rd) (m:Int) (hm:I64 m) (hr:r.at_≤r.s.length) (hs:r.s.length≤1099511627776) (w:World):Calls Tryz.prog 94 #[.agg (zaa r),.int .i64 m] w (QP (.int .i64 (zai r m).2) (zai r m).1 w):=by
 obtain ⟨S,HS⟩:∃S:ByteArray,Hid (S=⟨r.s.toArray⟩):=⟨_,rfl⟩
 have HU:Hid (∀w,Calls Tryz.prog 90 #[.agg #[.string S,.int .i64 r.at_,.int .i64 r.e]] w fun e w'=>e=.returned (.tuple #[.agg #[.string S,.int .i64 (zas r).1.at_,.int .i64 (zas r).1.e],.int .u64 (zas r).2])∧Hid (Below w.heap.size w w')):=fun w=>ufl HS.out hr hs w
 have HF:Hid (∀(e:Nat) (w:World),Calls Tryz.prog 97 #[.agg #[.string S,.int .i64 r.at_,.int .i64 r.e],.int .i64 e] w fun x w'=>x=.returned (.agg #[.string S,.int .i64 (r.fl e).at_,.int .i64 (r.fl e).e])∧Hid (Below w.heap.size w w')):=fun e w=>ffl HS.out e w
 have HX:Hid ((zas r).1.s=r.s):=ze6 hr
 have hok:=zbv (show r.Ok from hr)
 have hu:=hok.2.2.2
 have hxa:(zas r).1.at_≤r.s.length:=by have h1:(zas r).1.at_≤(zas r).1.s.length:=hok.1;rw [hok.2.1] at h1;exact h1
 have HI:Hid (zai r m=if (zas r).1.e≠0 then ((zas r).1,0) else if m<((zas r).2:Int) then (r.fl 2,0) else ((zas r).1,(zas r).2)):=zfq r m
 have HN:=Rq.new2 w r
 have HB0:Hid (Below w.heap.size w ((w.alloc (.cells (zaa r) 136)).alloc (.cells (zaa ⟨[],0,0⟩) 136))):=HN.2.2
 have HQ0:Hid (Rq ((w.alloc (.cells (zaa r) 136)).alloc (.cells (zaa ⟨[],0,0⟩) 136)) w.heap.size r):=HN.1
 have HO0:Hid (Rq ((w.alloc (.cells (zaa r) 136)).alloc (.cells (zaa ⟨[],0,0⟩) 136)) (w.heap.size+1) ⟨[],0,0⟩):=HN.2.1
 clear HN
 obtain ⟨hm1,hm2⟩:=hm
 have hSz:S.size=r.s.length:=by rw [HS.out];rfl
 have hs2:S.size≤1099511627776:=by omega
 have hxs:(zas r).1.at_≤S.size:=by omega
 clear hr hs hok hSz hxa
 generalize (zas r).1=X at *
 generalize (zas r).2=u at *
 go_enter Tryz.func94,Tryz.ntmps94
 go_upto_region 1 with fail
 show Code.wp _ _ _ _ ((w.alloc (.cells (zaa r) 136)).alloc (.cells (zaa ⟨[],0,0⟩) 136))
 generalize (w.alloc (.cells (zaa r) 136)).alloc (.cells (zaa ⟨[],0,0⟩) 136)=wA at *
 generalize hZ:w.heap.size=z at *
 have HZ:Hid (w.heap.size=z):=hZ
 clear hZ
 have c0:wA.cell? ⟨z,0,none⟩=some (.string S):=by rw [HS.out];exact HQ0.out.cell 0
 have c1:wA.cell? ⟨z,1,none⟩=some (.int .i64 r.at_):=HQ0.out.cell 1
 have c2:wA.cell? ⟨z,2,none⟩=some (.int .i64 r.e):=HQ0.out.cell 2
 go_wp2_with fail
 refine (HU.out _).mono ?_
 rintro e w3 ⟨rfl,HB3⟩
 have HQ3:Hid (Rq w3 z r):=HQ0.out.keep HB3.out
 have HO3:Hid (Rq w3 (z+1) ⟨[],0,0⟩):=HO0.out.keep HB3.out
 have hAz:z≤wA.heap.size:=by have:=HB0.out.size;rw [HZ.out] at this;exact this
 have HB4:Hid (Below z w w3):=HB0.out.trans (HB3.out.mono hAz)
 have h3z:z≤w3.heap.size:=by have:=HB4.out.size;rw [HZ.out] at this;exact this
 have hy1:z+1<w3.heap.size:=HO3.out.lt
 have HE3:Hid (w3.alloc (.cells #[.string S,.int .i64 X.at_,.int .i64 X.e] 136)=w3.alloc (.cells (zaa X) 136)):=by unfold Hid;rw [zg7 HS.out HX.out]
 have HQ5:Hid (Rq (w3.alloc (.cells (zaa X) 136)) z r):=HQ3.out.keep (below_new _ _)
 have HO5:Hid (Rq (w3.alloc (.cells (zaa X) 136)) (z+1) ⟨[],0,0⟩):=HO3.out.keep (below_new _ _)
 have HY5:Hid (Rq (w3.alloc (.cells (zaa X) 136)) w3.heap.size X):=Rq.new _ _
 have HB5:Hid (Below z w (w3.alloc (.cells (zaa X) 136))):=HB4.out.alloc h3z _
 clear c0 c1 c2 hAz
 go_upto_region 2 with fail
 rw [HE3.out]
 generalize w3.alloc (.cells (zaa X) 136)=w5 at *
 generalize w3.heap.size=y at *
 clear HE3 HQ3 HO3 HB4 HB3 HQ0 HO0 HB0
 have c0:w5.cell? ⟨z,0,none⟩=some (.string S):=by rw [HS.out];exact HQ5.out.cell 0
 have c1:w5.cell? ⟨z,1,none⟩=some (.int .i64 r.at_):=HQ5.out.cell 1
 have c2:w5.cell? ⟨z,2,none⟩=some (.int .i64 r.e):=HQ5.out.cell 2
 have y0:w5.cell? ⟨y,0,none⟩=some (.string S):=by rw [HS.out,← HX.out];exact HY5.out.cell 0
 have y1:w5.cell? ⟨y,1,none⟩=some (.int .i64 X.at_):=HY5.out.cell 1
 have y2:w5.cell? ⟨y,2,none⟩=some (.int .i64 X.e):=HY5.out.cell 2
 by_cases hxe:X.e=0
 ·have hxz:((X.e:Int) != 0)=false:=by rw [hxe];rfl
  by_cases hlt:m<(u:Int)
  ·have HD:Hid (zai r m=(r.fl 2,0)):=by unfold Hid;rw [HI.out,if_neg (by simpa using hxe),if_pos hlt]
   clear hxe
   by_cases h0:m<0
   ·
    go_wp2_with fail
    refine (HF.out 2 _).mono ?_
    rintro e w6 ⟨rfl,HB6⟩
    have HO6:Hid (Rq w6 (z+1) ⟨[],0,0⟩):=HO5.out.keep HB6.out
    have h5z:z≤w5.heap.size:=by have:=HB5.out.size;rw [HZ.out] at this;exact this
    have HB7:Hid (Below z w w6):=HB5.out.trans (HB6.out.mono h5z)
    have HXf:Hid ((r.fl 2).s=r.s):=zkv r 2
    have HF0:=HF
    clear HF c0 c1 c2
    generalize r.fl 2=Z at *
    have g0:=HO6.out.froz 0
    have g1:=HO6.out.froz 1
    have g2:=HO6.out.froz 2
    have b0:w6.cell? ⟨z+1,0,none⟩=some (.string ⟨#[]⟩):=HO6.out.cell 0
    have b1:w6.cell? ⟨z+1,1,none⟩=some (.int .i64 0):=HO6.out.cell 1
    have b2:w6.cell? ⟨z+1,2,none⟩=some (.int .i64 0):=HO6.out.cell 2
    have HT:Hid (((w6.setCell ⟨z+1,0,none⟩ (.string S)).setCell ⟨z+1,1,none⟩ (.int .i64 Z.at_)).setCell ⟨z+1,2,none⟩ (.int .i64 Z.e)=w6.setRow (z+1) (zaa Z)):=zbc HO6.out HS.out HXf.out
    have HO9:Hid (Rq (w6.setRow (z+1) (zaa Z)) (z+1) Z):=HO6.out.put _
    have HB9:Hid (Below z w (w6.setRow (z+1) (zaa Z))):=zar HB7.out (by omega)
    go_wp2_with fail
    rw [HT.out]
    generalize w6.setRow (z+1) (zaa Z)=w9 at *
    have d0:w9.cell? ⟨z+1,0,none⟩=some (.string ⟨Z.s.toArray⟩):=HO9.out.cell 0
    have d1:w9.cell? ⟨z+1,1,none⟩=some (.int .i64 Z.at_):=HO9.out.cell 1
    have d2:w9.cell? ⟨z+1,2,none⟩=some (.int .i64 Z.e):=HO9.out.cell 2
    refine bodyPost_ret (by simp [results,Tryz.results94,go_sem,d0,d1,d2];try rfl) rfl ?_
    exact QP.mk (x:=Z) (by rw [HD.out];rfl) (by rw [HD.out]) (by rw [HZ.out];exact HB9.out)
   ·have hw:IntKind.u64.wrap m=m:=IntWalk.u64_in m (by omega)
    go_wp2_with fail
    refine (HF.out 2 _).mono ?_
    rintro e w6 ⟨rfl,HB6⟩
    have HO6:Hid (Rq w6 (z+1) ⟨[],0,0⟩):=HO5.out.keep HB6.out
    have h5z:z≤w5.heap.size:=by have:=HB5.out.size;rw [HZ.out] at this;exact this
    have HB7:Hid (Below z w w6):=HB5.out.trans (HB6.out.mono h5z)
    have HXf:Hid ((r.fl 2).s=r.s):=zkv r 2
    have HF0:=HF
    clear HF c0 c1 c2
    generalize r.fl 2=Z at *
    have g0:=HO6.out.froz 0
    have g1:=HO6.out.froz 1
    have g2:=HO6.out.froz 2
    have b0:w6.cell? ⟨z+1,0,none⟩=some (.string ⟨#[]⟩):=HO6.out.cell 0
    have b1:w6.cell? ⟨z+1,1,none⟩=some (.int .i64 0):=HO6.out.cell 1
    have b2:w6.cell? ⟨z+1,2,none⟩=some (.int .i64 0):=HO6.out.cell 2
    have HT:Hid (((w6.setCell ⟨z+1,0,none⟩ (.string S)).setCell ⟨z+1,1,none⟩ (.int .i64 Z.at_)).setCell ⟨z+1,2,none⟩ (.int .i64 Z.e)=w6.setRow (z+1) (zaa Z)):=zbc HO6.out HS.out HXf.out
    have HO9:Hid (Rq (w6.setRow (z+1) (zaa Z)) (z+1) Z):=HO6.out.put _
    have HB9:Hid (Below z w (w6.setRow (z+1) (zaa Z))):=zar HB7.out (by omega)
    go_wp2_with fail
    rw [HT.out]
    generalize w6.setRow (z+1) (zaa Z)=w9 at *
    have d0:w9.cell? ⟨z+1,0,none⟩=some (.string ⟨Z.s.toArray⟩):=HO9.out.cell 0
    have d1:w9.cell? ⟨z+1,1,none⟩=some (.int .i64 Z.at_):=HO9.out.cell 1
    have d2:w9.cell? ⟨z+1,2,none⟩=some (.int .i64 Z.e):=HO9.out.cell 2
    refine bodyPost_ret (by simp [results,Tryz.results94,go_sem,d0,d1,d2];try rfl) rfl ?_
    exact QP.mk (x:=Z) (by rw [HD.out];rfl) (by rw [HD.out]) (by rw [HZ.out];exact HB9.out)
  ·have HD:Hid (zai r m=(X,u)):=by unfold Hid;rw [HI.out,if_neg (by simpa using hxe),if_neg hlt]
   clear hxe
   have h0:¬ m<0:=by omega
   have hw:IntKind.u64.wrap m=m:=IntWalk.u64_in m (by omega)
   have hu2:(u:Int)≤9223372036854775807:=by omega
   have g0:=HO5.out.froz 0
   have g1:=HO5.out.froz 1
   have g2:=HO5.out.froz 2
   have b0:w5.cell? ⟨z+1,0,none⟩=some (.string ⟨#[]⟩):=HO5.out.cell 0
   have b1:w5.cell? ⟨z+1,1,none⟩=some (.int .i64 0):=HO5.out.cell 1
   have b2:w5.cell? ⟨z+1,2,none⟩=some (.int .i64 0):=HO5.out.cell 2
   have HT:Hid (((w5.setCell ⟨z+1,0,none⟩ (.string S)).setCell ⟨z+1,1,none⟩ (.int .i64 X.at_)).setCell ⟨z+1,2,none⟩ (.int .i64 X.e)=w5.setRow (z+1) (zaa X)):=zbc HO5.out HS.out HX.out
   have HO9:Hid (Rq (w5.setRow (z+1) (zaa X)) (z+1) X):=HO5.out.put _
   have HB9:Hid (Below z w (w5.setRow (z+1) (zaa X))):=zar HB5.out (by omega)
   go_wp2_with fail
   rw [HT.out]
   generalize w5.setRow (z+1) (zaa X)=w9 at *
   have d0:w9.cell? ⟨z+1,0,none⟩=some (.string ⟨X.s.toArray⟩):=HO9.out.cell 0
   have d1:w9.cell? ⟨z+1,1,none⟩=some (.int .i64 X.at_):=HO9.out.cell 1
   have d2:w9.cell? ⟨z+1,2,none⟩=some (.int .i64 X.e):=HO9.out.cell 2
   refine bodyPost_ret (by simp [results,Tryz.results94,go_sem,d0,d1,d2];try rfl) rfl ?_
   exact QP.mk (x:=X) (by rw [HD.out]) (by rw [HD.out]) (by rw [HZ.out];exact HB9.out)
 ·have hxz:((X.e:Int) != 0)=true:=by rw [bne_iff_ne];omega
  have HD:Hid (zai r m=(X,0)):=by unfold Hid;rw [HI.out,if_pos hxe]
  clear hxe
  have g0:=HO5.out.froz 0
  have g1:=HO5.out.froz 1
  have g2:=HO5.out.froz 2
  have b0:w5.cell? ⟨z+1,0,none⟩=some (.string ⟨#[]⟩):=HO5.out.cell 0
  have b1:w5.cell? ⟨z+1,1,none⟩=some (.int .i64 0):=HO5.out.cell 1
  have b2:w5.cell? ⟨z+1,2,none⟩=some (.int .i64 0):=HO5.out.cell 2
  have HT:Hid (((w5.setCell ⟨z+1,0,none⟩ (.string S)).setCell ⟨z+1,1,none⟩ (.int .i64 X.at_)).setCell ⟨z+1,2,none⟩ (.int .i64 X.e)=w5.setRow (z+1) (zaa X)):=zbc HO5.out HS.out HX.out
  have HO9:Hid (Rq (w5.setRow (z+1) (zaa X)) (z+1) X):=HO5.out.put _
  have HB9:Hid (Below z w (w5.setRow (z+1) (zaa X))):=zar HB5.out (by omega)
  go_wp2_with fail
  rw [HT.out]
  generalize w5.setRow (z+1) (zaa X)=w9 at *
  have d0:w9.cell? ⟨z+1,0,none⟩=some (.string ⟨X.s.toArray⟩):=HO9.out.cell 0
  have d1:w9.cell? ⟨z+1,1,none⟩=some (.int .i64 X.at_):=HO9.out.cell 1
  have d2:w9.cell? ⟨z+1,2,none⟩=some (.int .i64 X.e):=HO9.out.cell 2
  refine bodyPost_ret (by simp [results,Tryz.results94,go_sem,d0,d1,d2];try rfl) rfl ?_
  exact QP.mk (x:=X) (by rw [HD.out];rfl) (by rw [HD.out]) (by rw [HZ.out];exact HB9.out)
theorem zw7 (r:Rd) (m:Int) (hm:I64 m) (hr:r.at_≤r.s.length) (hs:r.s.length≤1099511627776) (w:World):Calls Tryz.prog 91 #[.agg (zaa r),.int .i64 m] w (QP (.string ⟨(za4 r m).2.toArray⟩) (za4 r m).1 w):=by
 obtain ⟨S,HS⟩:∃S:ByteArray,Hid (S=⟨r.s.toArray⟩):=⟨_,rfl⟩
 have HU:Hid (∀w,Calls Tryz.prog 90 #[.agg #[.string S,.int .i64 r.at_,.int .i64 r.e]] w fun e w'=>e=.returned (.tuple #[.agg #[.string S,.int .i64 (zas r).1.at_,.int .i64 (zas r).1.e],.int .u64 (zas r).2])∧Hid (Below w.heap.size w w')):=fun w=>ufl HS.out hr hs w
 have HF:Hid (∀(e:Nat) (w:World),Calls Tryz.prog 97 #[.agg #[.string S,.int .i64 r.at_,.int .i64 r.e],.int .i64 e] w fun x w'=>x=.returned (.agg #[.string S,.int .i64 (r.fl e).at_,.int .i64 (r.fl e).e])∧Hid (Below w.heap.size w w')):=fun e w=>ffl HS.out e w
 have HX:Hid ((zas r).1.s=r.s):=ze6 hr
 have hok:=zbv (show r.Ok from hr)
 have hu:=hok.2.2.2
 have hxa:(zas r).1.at_≤r.s.length:=by have h1:(zas r).1.at_≤(zas r).1.s.length:=hok.1;rw [hok.2.1] at h1;exact h1
 have HI:Hid (za4 r m=if (zas r).1.e≠0 then ((zas r).1,[]) else if m<((zas r).2:Int) then (r.fl 2,[]) else if r.s.length<(zas r).1.at_+(zas r).2 then (r.fl 14,[]) else ({ (zas r).1 with at_:=(zas r).1.at_+(zas r).2 },(r.s.drop (zas r).1.at_).take (zas r).2)):=zkw r m
 have HN:=Rq.new2 w r
 have HB0:Hid (Below w.heap.size w ((w.alloc (.cells (zaa r) 136)).alloc (.cells (zaa ⟨[],0,0⟩) 136))):=HN.2.2
 have HQ0:Hid (Rq ((w.alloc (.cells (zaa r) 136)).alloc (.cells (zaa ⟨[],0,0⟩) 136)) w.heap.size r):=HN.1
 have HO0:Hid (Rq ((w.alloc (.cells (zaa r) 136)).alloc (.cells (zaa ⟨[],0,0⟩) 136)) (w.heap.size+1) ⟨[],0,0⟩):=HN.2.1
 clear HN
 obtain ⟨hm1,hm2⟩:=hm
 have hSz:S.size=r.s.length:=by rw [HS.out];rfl
 have hs2:S.size≤1099511627776:=by omega
 have hxs:(zas r).1.at_≤S.size:=by omega
 have HL:Hid (r.s.length=S.size):=hSz.symm
 have HC:Hid (∀a b,(r.s.drop a).take b=(S.extract a (a+b)).data.toList):=fun a b=>by rw [zdv,HS.out,Nat.add_sub_cancel_left]
 clear hr hs hok hSz hxa
 generalize (zas r).1=X at *
 generalize (zas r).2=u at *
 go_enter Tryz.func91,Tryz.ntmps91
 go_upto_region 1 with fail
 show Code.wp _ _ _ _ ((w.alloc (.cells (zaa r) 136)).alloc (.cells (zaa ⟨[],0,0⟩) 136))
 generalize (w.alloc (.cells (zaa r) 136)).alloc (.cells (zaa ⟨[],0,0⟩) 136)=wA at *
 generalize hZ:w.heap.size=z at *
 have HZ:Hid (w.heap.size=z):=hZ
 clear hZ
 have c0:wA.cell? ⟨z,0,none⟩=some (.string S):=by rw [HS.out];exact HQ0.out.cell 0
 have c1:wA.cell? ⟨z,1,none⟩=some (.int .i64 r.at_):=HQ0.out.cell 1
 have c2:wA.cell? ⟨z,2,none⟩=some (.int .i64 r.e):=HQ0.out.cell 2
 go_wp2_with fail
 refine (HU.out _).mono ?_
 rintro e w3 ⟨rfl,HB3⟩
 have HQ3:Hid (Rq w3 z r):=HQ0.out.keep HB3.out
 have HO3:Hid (Rq w3 (z+1) ⟨[],0,0⟩):=HO0.out.keep HB3.out
 have hAz:z≤wA.heap.size:=by have:=HB0.out.size;rw [HZ.out] at this;exact this
 have HB4:Hid (Below z w w3):=HB0.out.trans (HB3.out.mono hAz)
 have h3z:z≤w3.heap.size:=by have:=HB4.out.size;rw [HZ.out] at this;exact this
 have hy1:z+1<w3.heap.size:=HO3.out.lt
 have HE3:Hid (w3.alloc (.cells #[.string S,.int .i64 X.at_,.int .i64 X.e] 136)=w3.alloc (.cells (zaa X) 136)):=by unfold Hid;rw [zg7 HS.out HX.out]
 have HQ5:Hid (Rq (w3.alloc (.cells (zaa X) 136)) z r):=HQ3.out.keep (below_new _ _)
 have HO5:Hid (Rq (w3.alloc (.cells (zaa X) 136)) (z+1) ⟨[],0,0⟩):=HO3.out.keep (below_new _ _)
 have HY5:Hid (Rq (w3.alloc (.cells (zaa X) 136)) w3.heap.size X):=Rq.new _ _
 have HB5:Hid (Below z w (w3.alloc (.cells (zaa X) 136))):=HB4.out.alloc h3z _
 clear c0 c1 c2 hAz
 go_upto_region 2 with fail
 rw [HE3.out]
 generalize w3.alloc (.cells (zaa X) 136)=w5 at *
 generalize w3.heap.size=y at *
 clear HE3 HQ3 HO3 HB4 HB3 HQ0 HO0 HB0
 have c0:w5.cell? ⟨z,0,none⟩=some (.string S):=by rw [HS.out];exact HQ5.out.cell 0
 have c1:w5.cell? ⟨z,1,none⟩=some (.int .i64 r.at_):=HQ5.out.cell 1
 have c2:w5.cell? ⟨z,2,none⟩=some (.int .i64 r.e):=HQ5.out.cell 2
 have y0:w5.cell? ⟨y,0,none⟩=some (.string S):=by rw [HS.out,← HX.out];exact HY5.out.cell 0
 have y1:w5.cell? ⟨y,1,none⟩=some (.int .i64 X.at_):=HY5.out.cell 1
 have y2:w5.cell? ⟨y,2,none⟩=some (.int .i64 X.e):=HY5.out.cell 2
 by_cases hxe:X.e=0
 ·have hxz:((X.e:Int) != 0)=false:=by rw [hxe];rfl
  by_cases hlt:m<(u:Int)
  ·have HD:Hid (za4 r m=(r.fl 2,[])):=by unfold Hid;rw [HI.out,if_neg (by simpa using hxe),if_pos hlt]
   clear hxe
   by_cases h0:m<0
   ·
    go_wp2_with fail
    refine (HF.out 2 _).mono ?_
    rintro e w6 ⟨rfl,HB6⟩
    have HO6:Hid (Rq w6 (z+1) ⟨[],0,0⟩):=HO5.out.keep HB6.out
    have h5z:z≤w5.heap.size:=by have:=HB5.out.size;rw [HZ.out] at this;exact this
    have HB7:Hid (Below z w w6):=HB5.out.trans (HB6.out.mono h5z)
    have HXf:Hid ((r.fl 2).s=r.s):=zkv r 2
    have HF0:=HF
    clear HF c0 c1 c2
    generalize r.fl 2=Z at *
    have g0:=HO6.out.froz 0
    have g1:=HO6.out.froz 1
    have g2:=HO6.out.froz 2
    have b0:w6.cell? ⟨z+1,0,none⟩=some (.string ⟨#[]⟩):=HO6.out.cell 0
    have b1:w6.cell? ⟨z+1,1,none⟩=some (.int .i64 0):=HO6.out.cell 1
    have b2:w6.cell? ⟨z+1,2,none⟩=some (.int .i64 0):=HO6.out.cell 2
    have HT:Hid (((w6.setCell ⟨z+1,0,none⟩ (.string S)).setCell ⟨z+1,1,none⟩ (.int .i64 Z.at_)).setCell ⟨z+1,2,none⟩ (.int .i64 Z.e)=w6.setRow (z+1) (zaa Z)):=zbc HO6.out HS.out HXf.out
    have HO9:Hid (Rq (w6.setRow (z+1) (zaa Z)) (z+1) Z):=HO6.out.put _
    have HB9:Hid (Below z w (w6.setRow (z+1) (zaa Z))):=zar HB7.out (by omega)
    go_wp2_with fail
    rw [HT.out]
    generalize w6.setRow (z+1) (zaa Z)=w9 at *
    have d0:w9.cell? ⟨z+1,0,none⟩=some (.string ⟨Z.s.toArray⟩):=HO9.out.cell 0
    have d1:w9.cell? ⟨z+1,1,none⟩=some (.int .i64 Z.at_):=HO9.out.cell 1
    have d2:w9.cell? ⟨z+1,2,none⟩=some (.int .i64 Z.e):=HO9.out.cell 2
    refine bodyPost_ret (by simp [results,Tryz.results91,go_sem,d0,d1,d2];try rfl) rfl ?_
    exact QP.mk (x:=Z) (by rw [HD.out]) (by rw [HD.out]) (by rw [HZ.out];exact HB9.out)
   ·have hw:IntKind.u64.wrap m=m:=IntWalk.u64_in m (by omega)
    go_wp2_with fail
    refine (HF.out 2 _).mono ?_
    rintro e w6 ⟨rfl,HB6⟩
    have HO6:Hid (Rq w6 (z+1) ⟨[],0,0⟩):=HO5.out.keep HB6.out
    have h5z:z≤w5.heap.size:=by have:=HB5.out.size;rw [HZ.out] at this;exact this
    have HB7:Hid (Below z w w6):=HB5.out.trans (HB6.out.mono h5z)
    have HXf:Hid ((r.fl 2).s=r.s):=zkv r 2
    have HF0:=HF
    clear HF c0 c1 c2
    generalize r.fl 2=Z at *
    have g0:=HO6.out.froz 0
    have g1:=HO6.out.froz 1
    have g2:=HO6.out.froz 2
    have b0:w6.cell? ⟨z+1,0,none⟩=some (.string ⟨#[]⟩):=HO6.out.cell 0
    have b1:w6.cell? ⟨z+1,1,none⟩=some (.int .i64 0):=HO6.out.cell 1
    have b2:w6.cell? ⟨z+1,2,none⟩=some (.int .i64 0):=HO6.out.cell 2
    have HT:Hid (((w6.setCell ⟨z+1,0,none⟩ (.string S)).setCell ⟨z+1,1,none⟩ (.int .i64 Z.at_)).setCell ⟨z+1,2,none⟩ (.int .i64 Z.e)=w6.setRow (z+1) (zaa Z)):=zbc HO6.out HS.out HXf.out
    have HO9:Hid (Rq (w6.setRow (z+1) (zaa Z)) (z+1) Z):=HO6.out.put _
    have HB9:Hid (Below z w (w6.setRow (z+1) (zaa Z))):=zar HB7.out (by omega)
    go_wp2_with fail
    rw [HT.out]
    generalize w6.setRow (z+1) (zaa Z)=w9 at *
    have d0:w9.cell? ⟨z+1,0,none⟩=some (.string ⟨Z.s.toArray⟩):=HO9.out.cell 0
    have d1:w9.cell? ⟨z+1,1,none⟩=some (.int .i64 Z.at_):=HO9.out.cell 1
    have d2:w9.cell? ⟨z+1,2,none⟩=some (.int .i64 Z.e):=HO9.out.cell 2
    refine bodyPost_ret (by simp [results,Tryz.results91,go_sem,d0,d1,d2];try rfl) rfl ?_
    exact QP.mk (x:=Z) (by rw [HD.out]) (by rw [HD.out]) (by rw [HZ.out];exact HB9.out)
  ·have h0:¬ m<0:=by omega
   have hw:IntKind.u64.wrap m=m:=IntWalk.u64_in m (by omega)
   have hu2:(u:Int)≤9223372036854775807:=by omega
   have hw2:IntKind.u64.wrap ((S.size:Int)-X.at_)=(S.size:Int)-X.at_:=IntWalk.u64_in _ (by omega)
   by_cases hsh:S.size<X.at_+u
   ·have hshz:(S.size:Int)-X.at_<(u:Int):=by omega
    have HD:Hid (za4 r m=(r.fl 14,[])):=by unfold Hid;rw [HI.out,if_neg (by simpa using hxe),if_neg hlt,if_pos (by rw [HL.out];exact hsh)]
    clear hxe
    go_wp2_with fail
    refine (HF.out 14 _).mono ?_
    rintro e w6 ⟨rfl,HB6⟩
    have HO6:Hid (Rq w6 (z+1) ⟨[],0,0⟩):=HO5.out.keep HB6.out
    have h5z:z≤w5.heap.size:=by have:=HB5.out.size;rw [HZ.out] at this;exact this
    have HB7:Hid (Below z w w6):=HB5.out.trans (HB6.out.mono h5z)
    have HXf:Hid ((r.fl 14).s=r.s):=zkv r 14
    have HF0:=HF
    clear HF c0 c1 c2
    generalize r.fl 14=Z at *
    have g0:=HO6.out.froz 0
    have g1:=HO6.out.froz 1
    have g2:=HO6.out.froz 2
    have b0:w6.cell? ⟨z+1,0,none⟩=some (.string ⟨#[]⟩):=HO6.out.cell 0
    have b1:w6.cell? ⟨z+1,1,none⟩=some (.int .i64 0):=HO6.out.cell 1
    have b2:w6.cell? ⟨z+1,2,none⟩=some (.int .i64 0):=HO6.out.cell 2
    have HT:Hid (((w6.setCell ⟨z+1,0,none⟩ (.string S)).setCell ⟨z+1,1,none⟩ (.int .i64 Z.at_)).setCell ⟨z+1,2,none⟩ (.int .i64 Z.e)=w6.setRow (z+1) (zaa Z)):=zbc HO6.out HS.out HXf.out
    have HO9:Hid (Rq (w6.setRow (z+1) (zaa Z)) (z+1) Z):=HO6.out.put _
    have HB9:Hid (Below z w (w6.setRow (z+1) (zaa Z))):=zar HB7.out (by omega)
    go_wp2_with fail
    rw [HT.out]
    generalize w6.setRow (z+1) (zaa Z)=w9 at *
    have d0:w9.cell? ⟨z+1,0,none⟩=some (.string ⟨Z.s.toArray⟩):=HO9.out.cell 0
    have d1:w9.cell? ⟨z+1,1,none⟩=some (.int .i64 Z.at_):=HO9.out.cell 1
    have d2:w9.cell? ⟨z+1,2,none⟩=some (.int .i64 Z.e):=HO9.out.cell 2
    refine bodyPost_ret (by simp [results,Tryz.results91,go_sem,d0,d1,d2];try rfl) rfl ?_
    exact QP.mk (x:=Z) (by rw [HD.out]) (by rw [HD.out]) (by rw [HZ.out];exact HB9.out)
   ·have hshz:¬ (S.size:Int)-X.at_<(u:Int):=by omega
    have HD:Hid (za4 r m=({ X with at_:=X.at_+u },(S.extract X.at_ (X.at_+u)).data.toList)):=by unfold Hid;rw [HI.out,if_neg (by simpa using hxe),if_neg hlt,if_neg (by rw [HL.out];exact hsh),HC.out]
    clear hxe
    have hb1:(0:Int)≤(X.at_:Int):=by omega
    have hb2:(X.at_:Int)≤(X.at_:Int)+u:=by omega
    have hb3:(X.at_:Int)+u≤(S.size:Int):=by omega
    have hb4:(0:Int)≤(X.at_:Int)+u:=by omega
    have k1:=HY5.out.froz 1
    have HY7:Hid (Rq (w5.setCell ⟨y,1,none⟩ (.int .i64 ((X.at_:Int)+u))) y { X with at_:=X.at_+u }):=HY5.out.setAt (X.at_+u)
    have HO7:Hid (Rq (w5.setCell ⟨y,1,none⟩ (.int .i64 ((X.at_:Int)+u))) (z+1) ⟨[],0,0⟩):=HO5.out.same (Below.heap_setCell w5 _ _ _ (by show z+1≠y;omega))
    have HB7:Hid (Below z w (w5.setCell ⟨y,1,none⟩ (.int .i64 ((X.at_:Int)+u)))):=HB5.out.setCell (by show z≤y;omega) _
    go_upto_region 10 with fail
    generalize w5.setCell ⟨y,1,none⟩ (.int .i64 ((X.at_:Int)+u))=w7 at *
    clear c0 c1 c2 y0 y1 y2 k1
    have HX7:Hid (({ X with at_:=X.at_+u } : Rd).s=r.s):=HX.out
    have HA7:Hid (({ X with at_:=X.at_+u } : Rd).at_=X.at_+u):=rfl
    have HE7:Hid (({ X with at_:=X.at_+u } : Rd).e=X.e):=rfl
    have y0:w7.cell? ⟨y,0,none⟩=some (.string S):=by rw [HS.out,← HX.out];exact HY7.out.cell 0
    have y1:w7.cell? ⟨y,1,none⟩=some (.int .i64 ({ X with at_:=X.at_+u } : Rd).at_):=HY7.out.cell 1
    have y2:w7.cell? ⟨y,2,none⟩=some (.int .i64 ({ X with at_:=X.at_+u } : Rd).e):=HY7.out.cell 2
    generalize S.extract X.at_ (X.at_+u)=T at *
    generalize ({ X with at_:=X.at_+u } : Rd)=Z at *
    have g0:=HO7.out.froz 0
    have g1:=HO7.out.froz 1
    have g2:=HO7.out.froz 2
    have b0:w7.cell? ⟨z+1,0,none⟩=some (.string ⟨#[]⟩):=HO7.out.cell 0
    have b1:w7.cell? ⟨z+1,1,none⟩=some (.int .i64 0):=HO7.out.cell 1
    have b2:w7.cell? ⟨z+1,2,none⟩=some (.int .i64 0):=HO7.out.cell 2
    have HT:Hid (((w7.setCell ⟨z+1,0,none⟩ (.string S)).setCell ⟨z+1,1,none⟩ (.int .i64 Z.at_)).setCell ⟨z+1,2,none⟩ (.int .i64 Z.e)=w7.setRow (z+1) (zaa Z)):=zbc HO7.out HS.out HX7.out
    have HO9:Hid (Rq (w7.setRow (z+1) (zaa Z)) (z+1) Z):=HO7.out.put _
    have HB9:Hid (Below z w (w7.setRow (z+1) (zaa Z))):=zar HB7.out (by omega)
    go_wp2_with fail
    rw [HT.out]
    generalize w7.setRow (z+1) (zaa Z)=w9 at *
    have d0:w9.cell? ⟨z+1,0,none⟩=some (.string ⟨Z.s.toArray⟩):=HO9.out.cell 0
    have d1:w9.cell? ⟨z+1,1,none⟩=some (.int .i64 Z.at_):=HO9.out.cell 1
    have d2:w9.cell? ⟨z+1,2,none⟩=some (.int .i64 Z.e):=HO9.out.cell 2
    refine bodyPost_ret (by simp [results,Tryz.results91,go_sem,d0,d1,d2];try rfl) rfl ?_
    exact QP.mk (x:=Z) (by rw [HD.out]) (by rw [HD.out]) (by rw [HZ.out];exact HB9.out)
 ·have hxz:((X.e:Int) != 0)=true:=by rw [bne_iff_ne];omega
  have HD:Hid (za4 r m=(X,[])):=by unfold Hid;rw [HI.out,if_pos hxe]
  clear hxe
  have g0:=HO5.out.froz 0
  have g1:=HO5.out.froz 1
  have g2:=HO5.out.froz 2
  have b0:w5.cell? ⟨z+1,0,none⟩=some (.string ⟨#[]⟩):=HO5.out.cell 0
  have b1:w5.cell? ⟨z+1,1,none⟩=some (.int .i64 0):=HO5.out.cell 1
  have b2:w5.cell? ⟨z+1,2,none⟩=some (.int .i64 0):=HO5.out.cell 2
  have HT:Hid (((w5.setCell ⟨z+1,0,none⟩ (.string S)).setCell ⟨z+1,1,none⟩ (.int .i64 X.at_)).setCell ⟨z+1,2,none⟩ (.int .i64 X.e)=w5.setRow (z+1) (zaa X)):=zbc HO5.out HS.out HX.out
  have HO9:Hid (Rq (w5.setRow (z+1) (zaa X)) (z+1) X):=HO5.out.put _
  have HB9:Hid (Below z w (w5.setRow (z+1) (zaa X))):=zar HB5.out (by omega)
  go_wp2_with fail
  rw [HT.out]
  generalize w5.setRow (z+1) (zaa X)=w9 at *
  have d0:w9.cell? ⟨z+1,0,none⟩=some (.string ⟨X.s.toArray⟩):=HO9.out.cell 0
  have d1:w9.cell? ⟨z+1,1,none⟩=some (.int .i64 X.at_):=HO9.out.cell 1
  have d2:w9.cell? ⟨z+1,2,none⟩=some (.int .i64 X.e):=HO9.out.cell 2
  refine bodyPost_ret (by simp [results,Tryz.results91,go_sem,d0,d1,d2];try rfl) rfl ?_
  exact QP.mk (x:=X) (by rw [HD.out]) (by rw [HD.out]) (by rw [HZ.out];exact HB9.out)
end Go.Proofs.YtdmlgheajblcdaaGreat
