/- Layer 10: Decode, over what is read of a message. -/
import Derived.Test.YtdmlgheajblcdaaGreatD04
namespace Go.Proofs.YtdmlgheajblcdaaGreat
set_option maxHeartbeats 16000000
set_option maxRecDepth 100000
open Go.RowKit
set_option linter.unusedVariables false
set_option linter.unusedSimpArgs false
set_option maxRecDepth 20000
theorem zby {q p j:Nat} {w w':World} {v:Value} (hb:Bt q w w') (hc:w.cell? ⟨p,j,none⟩=some v) (hn:p≠q):w'.cell? ⟨p,j,none⟩=some v:=
 World.grownBy.cell hb hc (fun e=>hn (Option.some.inj e))
def MsP (q:Nat) (r2:Rd) (Q:World→Value→Prop) (w:World) (e:Ending) (w':World):Prop:=∃v,e=.returned v∧Hid (Q w' v)∧Hid (Rm w' q r2)∧Hid (Bt q w w')
structure Stb (Q:Nat→World→Value→Prop):Prop where
 bt:∀q w w' v,Q q w v→Bt q w w'→Q q w' v
 dr:∀q w n v,Q q w v→Q q (w.drewN n) v
def DcP (n g:Nat) (w:World) (e:Ending) (w':World):Prop:=e=.returned (.tuple #[.nilIface,.int .i64 n,.int .i64 g])∧Hid (Below w.heap.size w w')
def DcV (n:Nat) (Q:Nat→World→Value→Prop) (w:World) (e:Ending) (w':World):Prop:=∃v q,e=.returned (.tuple #[v,.int .i64 n,.int .i64 0])∧w.heap.size≤q∧Hid (Q q w' v)∧Hid (Below w.heap.size w w')
theorem zxt (q:Nat) (r:Rd) (w:World) (h:Rm w q r):Calls Tryz.prog 58 #[.pointer (some ⟨q,0,none⟩)] w fun e w'=>e=.returned (.int .i64 r.e)∧w'=w:=(zjw q r w h).mono fun _ _ ⟨he,hw⟩=>⟨he,hw.symm⟩
theorem atQ (q:Nat) (r:Rd) (w:World) (h:Rm w q r):Calls Tryz.prog 60 #[.pointer (some ⟨q,0,none⟩)] w fun e w'=>e=.returned (.int .i64 r.at_)∧w'=w:=(xat q r w h).mono fun _ _ ⟨he,hw⟩=>⟨he,hw.symm⟩
theorem zyi (s:ByteArray) (hs:s.size≤281474976710656) (w:World) (r1 r2:Rd) (k:Int) (Q:Nat→World→Value→Prop) (hQ:Stb Q) (h1:zah ⟨s.data.toList,0,0⟩=(r1,k)) (hm:∀q w',w.heap.size≤q→Rm w' q r1→Below w.heap.size w w'→Calls Tryz.prog 56 #[.agg #[.pointer (some ⟨q,0,none⟩)],.int .i64 k] w' (MsP q r2 (Q q) w')) (hn:∀q w v,Q q w v→v=.nilIface) (h0:r2.e=0):Calls Tryz.prog 20 #[.string s] w (DcP 0 17 w):=by
 have HE0:Hid (r2.e=0):=h0
 clear h0
 have HS:Hid (∀w,Calls Tryz.prog 55 #[.string s] w (NwP s.data.toList w)):=fun w=>zqn s hs w
 have HI:Hid (∀(q:Nat) (w:World),Rm w q ⟨s.data.toList,0,0⟩→Calls Tryz.prog 57 #[.pointer (some ⟨q,0,none⟩)] w (RP q (.int .i64 k) r1 w)):=fun q w h=>by have:=zk4 q _ w h;rw [h1] at this;exact this
 have HM:Hid (∀q w',w.heap.size≤q→Rm w' q r1→Below w.heap.size w w'→Calls Tryz.prog 56 #[.agg #[.pointer (some ⟨q,0,none⟩)],.int .i64 k] w' (MsP q r2 (Q q) w')):=hm
 have HQ:Hid (Stb Q):=hQ
 have HN:Hid (∀q w v,Q q w v→v=.nilIface):=hn
 clear h1 hm hQ hn
 go_enter Tryz.func20,Tryz.ntmps20
 go_wp2_with fail
 refine (HS.out _).mono ?_
 rintro e w2 ⟨q,rfl,hq,HR2,HB2⟩
 clear HS
 go_wp2_with fail
 have HX:Hid (Bx (w2.alloc (.cells #[.pointer (some ⟨q,0,none⟩)] 133)) w2.heap.size #[.pointer (some ⟨q,0,none⟩)] 133):=Bx.new _ _ _
 have HR3:Hid (Rm (w2.alloc (.cells #[.pointer (some ⟨q,0,none⟩)] 133)) q ⟨s.data.toList,0,0⟩):=HR2.out.keep (zab w2 _)
 have HB3:Hid (Below w.heap.size w (w2.alloc (.cells #[.pointer (some ⟨q,0,none⟩)] 133))):=HB2.out.alloc HB2.out.size _
 have hdq:w2.heap.size≠q:=Nat.ne_of_gt HR2.out.lt
 have hwd:w.heap.size≤w2.heap.size:=HB2.out.size
 clear HR2 HB2
 generalize w2.alloc (.cells #[.pointer (some ⟨q,0,none⟩)] 133)=w3 at *
 generalize w2.heap.size=d at *
 have c0:w3.cell? ⟨d,0,none⟩=some (.pointer (some ⟨q,0,none⟩)):=HX.out.cell 0
 have HKP:Hid (∀(n:Nat) (w5:World),Bt q (w3.drewN n) w5→w5.cell? ⟨d,0,none⟩=some (.pointer (some ⟨q,0,none⟩))):=fun n w5 hb=>zby hb c0 hdq
 have HKB:Hid (∀(n:Nat) (w5:World),Bt q (w3.drewN n) w5→Below w.heap.size w w5):=fun n w5 hb=>(zef HB3.out n).trans (hb.below hq HB3.out.size)
 have HK2:Hid (∀(n:Nat) (w5 w6:World),Bt q (w3.drewN n) w5→Bt q w5 w6→w6.cell? ⟨d,0,none⟩=some (.pointer (some ⟨q,0,none⟩))):=fun n w5 w6 hb hb2=>zby (hb.trans hb2) c0 hdq
 have HKB2:Hid (∀(n:Nat) (w5 w6:World),Bt q (w3.drewN n) w5→Bt q w5 w6→Below w.heap.size w w6):=fun n w5 w6 hb hb2=>(zef HB3.out n).trans ((hb.trans hb2).below hq HB3.out.size)
 clear HX
 go_region_held3 (fun w'=>w'.cell? ⟨d,0,none⟩=some (.pointer (some ⟨q,0,none⟩))) (first | go_keep | exact HK2.out _ _ _ HB5.out HB6.out | exact HKP.out _ _ HB5.out) (first | (go_at_call 57;go_must (refine (HI.out q _ (HR3.out.drewN _)).mono ?_;rintro e w5 ⟨rfl,HR5,HB5⟩)) | (go_at_call 56;go_must (refine (HM.out q _ hq HR5.out (HKB.out _ _ HB5.out)).mono ?_;rintro e w6 ⟨v,rfl,HV6,HR6,HB6⟩)))
 have c6:w6.cell? ⟨d,0,none⟩=some (.pointer (some ⟨q,0,none⟩)):=HK2.out _ _ _ HB5.out HB6.out
 have HB7:Hid (Below w.heap.size w w6):=HKB2.out _ _ _ HB5.out HB6.out
 rename_i hHeld
 clear hHeld HKP HKB HK2 HKB2 HB5 HR5 HI HM HR3 HB3 HB6 c0
 obtain rfl:=HN.out _ _ _ HV6.out
 go_wp2_with fail
 refine (zjw q r2 _ HR6.out).mono ?_
 rintro e w7 ⟨rfl,rfl⟩
 rw [HE0.out]
 go_wp2_with fail
 go_ret3
 exact ⟨rfl,HB7⟩
theorem zvh (s:ByteArray) (hs:s.size≤281474976710656) (w:World) (r1 r2:Rd) (k:Int) (Q:Nat→World→Value→Prop) (hQ:Stb Q) (h1:zah ⟨s.data.toList,0,0⟩=(r1,k)) (hm:∀q w',w.heap.size≤q→Rm w' q r1→Below w.heap.size w w'→Calls Tryz.prog 56 #[.agg #[.pointer (some ⟨q,0,none⟩)],.int .i64 k] w' (MsP q r2 (Q q) w')) (hn:∀q w v,Q q w v→v=.nilIface) (h0:r2.e≠0) (he:(zbg r2).2=false):Calls Tryz.prog 20 #[.string s] w (DcP (zbg r2).1.at_ (zbg r2).1.e w):=by
 have HE0:Hid (((r2.e:Int)==0)=false):=by unfold Hid;rw [beq_eq_false_iff_ne];omega
 clear h0
 have HS:Hid (∀w,Calls Tryz.prog 55 #[.string s] w (NwP s.data.toList w)):=fun w=>zqn s hs w
 have HI:Hid (∀(q:Nat) (w:World),Rm w q ⟨s.data.toList,0,0⟩→Calls Tryz.prog 57 #[.pointer (some ⟨q,0,none⟩)] w (RP q (.int .i64 k) r1 w)):=fun q w h=>by have:=zk4 q _ w h;rw [h1] at this;exact this
 have HM:Hid (∀q w',w.heap.size≤q→Rm w' q r1→Below w.heap.size w w'→Calls Tryz.prog 56 #[.agg #[.pointer (some ⟨q,0,none⟩)],.int .i64 k] w' (MsP q r2 (Q q) w')):=hm
 have HQ:Hid (Stb Q):=hQ
 have HN:Hid (∀q w v,Q q w v→v=.nilIface):=hn
 clear h1 hm hQ hn
 go_enter Tryz.func20,Tryz.ntmps20
 go_wp2_with fail
 refine (HS.out _).mono ?_
 rintro e w2 ⟨q,rfl,hq,HR2,HB2⟩
 clear HS
 go_wp2_with fail
 have HX:Hid (Bx (w2.alloc (.cells #[.pointer (some ⟨q,0,none⟩)] 133)) w2.heap.size #[.pointer (some ⟨q,0,none⟩)] 133):=Bx.new _ _ _
 have HR3:Hid (Rm (w2.alloc (.cells #[.pointer (some ⟨q,0,none⟩)] 133)) q ⟨s.data.toList,0,0⟩):=HR2.out.keep (zab w2 _)
 have HB3:Hid (Below w.heap.size w (w2.alloc (.cells #[.pointer (some ⟨q,0,none⟩)] 133))):=HB2.out.alloc HB2.out.size _
 have hdq:w2.heap.size≠q:=Nat.ne_of_gt HR2.out.lt
 have hwd:w.heap.size≤w2.heap.size:=HB2.out.size
 clear HR2 HB2
 generalize w2.alloc (.cells #[.pointer (some ⟨q,0,none⟩)] 133)=w3 at *
 generalize w2.heap.size=d at *
 have c0:w3.cell? ⟨d,0,none⟩=some (.pointer (some ⟨q,0,none⟩)):=HX.out.cell 0
 have HKP:Hid (∀(n:Nat) (w5:World),Bt q (w3.drewN n) w5→w5.cell? ⟨d,0,none⟩=some (.pointer (some ⟨q,0,none⟩))):=fun n w5 hb=>zby hb c0 hdq
 have HKB:Hid (∀(n:Nat) (w5:World),Bt q (w3.drewN n) w5→Below w.heap.size w w5):=fun n w5 hb=>(zef HB3.out n).trans (hb.below hq HB3.out.size)
 have HK2:Hid (∀(n:Nat) (w5 w6:World),Bt q (w3.drewN n) w5→Bt q w5 w6→w6.cell? ⟨d,0,none⟩=some (.pointer (some ⟨q,0,none⟩))):=fun n w5 w6 hb hb2=>zby (hb.trans hb2) c0 hdq
 have HKB2:Hid (∀(n:Nat) (w5 w6:World),Bt q (w3.drewN n) w5→Bt q w5 w6→Below w.heap.size w w6):=fun n w5 w6 hb hb2=>(zef HB3.out n).trans ((hb.trans hb2).below hq HB3.out.size)
 clear HX
 go_region_held3 (fun w'=>w'.cell? ⟨d,0,none⟩=some (.pointer (some ⟨q,0,none⟩))) (first | go_keep | exact HK2.out _ _ _ HB5.out HB6.out | exact HKP.out _ _ HB5.out) (first | (go_at_call 57;go_must (refine (HI.out q _ (HR3.out.drewN _)).mono ?_;rintro e w5 ⟨rfl,HR5,HB5⟩)) | (go_at_call 56;go_must (refine (HM.out q _ hq HR5.out (HKB.out _ _ HB5.out)).mono ?_;rintro e w6 ⟨v,rfl,HV6,HR6,HB6⟩)))
 have c6:w6.cell? ⟨d,0,none⟩=some (.pointer (some ⟨q,0,none⟩)):=HK2.out _ _ _ HB5.out HB6.out
 have HB7:Hid (Below w.heap.size w w6):=HKB2.out _ _ _ HB5.out HB6.out
 rename_i hHeld
 clear hHeld HKP HKB HK2 HKB2 HB5 HR5 HI HM HR3 HB3 HB6 c0
 obtain rfl:=HN.out _ _ _ HV6.out
 go_wp2_with fail
 refine (zjw q r2 _ HR6.out).mono ?_
 rintro e w7 ⟨rfl,rfl⟩
 have hz:=HE0.out
 go_wp2_with fail
 refine (zud q r2 _ HR6.out).mono ?_
 rintro e w8 ⟨rfl,HR8,HB8⟩
 have c8:w8.cell? ⟨d,0,none⟩=some (.pointer (some ⟨q,0,none⟩)):=zby HB8.out c6 hdq
 have HB9:Hid (Below w.heap.size w w8):=HB7.out.trans (HB8.out.below hq HB7.out.size)
 have HV8:Hid (Q q w8 .nilIface):=HQ.out.bt _ _ _ _ HV6.out HB8.out
 clear HR6 HB7 c6 HV6 HB8
 rw [he]
 go_wp2_with fail
 have HE9:Hid (∀n,Calls Tryz.prog 58 #[.pointer (some ⟨q,0,none⟩)] (w8.drewN n) fun e w'=>e=.returned (.int .i64 (zbg r2).1.e)∧w'=w8.drewN n):=fun n=>zxt q _ _ (HR8.out.drewN n)
 have HA9:Hid (∀n,Calls Tryz.prog 60 #[.pointer (some ⟨q,0,none⟩)] (w8.drewN n) fun e w'=>e=.returned (.int .i64 (zbg r2).1.at_)∧w'=w8.drewN n):=fun n=>atQ q _ _ (HR8.out.drewN n)
 have HBX:Hid (∀n,Below w.heap.size w (w8.drewN n)):=fun n=>zef HB9.out n
 generalize (zbg r2).1.e=e9 at *
 generalize (zbg r2).1.at_=a9 at *
 go_quiet ((first | (go_at_call 58;refine Calls.quiet_of_same (HE9.out _)) | (go_at_call 60;refine Calls.quiet_of_same (HA9.out _))))
 go_wp2_with fail
 go_ret3
 exact ⟨rfl,HBX.out _⟩
theorem zvi (s:ByteArray) (hs:s.size≤281474976710656) (w:World) (r1 r2:Rd) (k:Int) (Q:Nat→World→Value→Prop) (hQ:Stb Q) (h1:zah ⟨s.data.toList,0,0⟩=(r1,k)) (hm:∀q w',w.heap.size≤q→Rm w' q r1→Below w.heap.size w w'→Calls Tryz.prog 56 #[.agg #[.pointer (some ⟨q,0,none⟩)],.int .i64 k] w' (MsP q r2 (Q q) w')) (hn:∀q w v,Q q w v→∃T u,v=.iface T u) (he:(zbg r2).2=false):Calls Tryz.prog 20 #[.string s] w (DcP (zbg r2).1.at_ (zbg r2).1.e w):=by
 have HS:Hid (∀w,Calls Tryz.prog 55 #[.string s] w (NwP s.data.toList w)):=fun w=>zqn s hs w
 have HI:Hid (∀(q:Nat) (w:World),Rm w q ⟨s.data.toList,0,0⟩→Calls Tryz.prog 57 #[.pointer (some ⟨q,0,none⟩)] w (RP q (.int .i64 k) r1 w)):=fun q w h=>by have:=zk4 q _ w h;rw [h1] at this;exact this
 have HM:Hid (∀q w',w.heap.size≤q→Rm w' q r1→Below w.heap.size w w'→Calls Tryz.prog 56 #[.agg #[.pointer (some ⟨q,0,none⟩)],.int .i64 k] w' (MsP q r2 (Q q) w')):=hm
 have HQ:Hid (Stb Q):=hQ
 have HN:Hid (∀q w v,Q q w v→∃T u,v=.iface T u):=hn
 clear h1 hm hQ hn
 go_enter Tryz.func20,Tryz.ntmps20
 go_wp2_with fail
 refine (HS.out _).mono ?_
 rintro e w2 ⟨q,rfl,hq,HR2,HB2⟩
 clear HS
 go_wp2_with fail
 have HX:Hid (Bx (w2.alloc (.cells #[.pointer (some ⟨q,0,none⟩)] 133)) w2.heap.size #[.pointer (some ⟨q,0,none⟩)] 133):=Bx.new _ _ _
 have HR3:Hid (Rm (w2.alloc (.cells #[.pointer (some ⟨q,0,none⟩)] 133)) q ⟨s.data.toList,0,0⟩):=HR2.out.keep (zab w2 _)
 have HB3:Hid (Below w.heap.size w (w2.alloc (.cells #[.pointer (some ⟨q,0,none⟩)] 133))):=HB2.out.alloc HB2.out.size _
 have hdq:w2.heap.size≠q:=Nat.ne_of_gt HR2.out.lt
 have hwd:w.heap.size≤w2.heap.size:=HB2.out.size
 clear HR2 HB2
 generalize w2.alloc (.cells #[.pointer (some ⟨q,0,none⟩)] 133)=w3 at *
 generalize w2.heap.size=d at *
 have c0:w3.cell? ⟨d,0,none⟩=some (.pointer (some ⟨q,0,none⟩)):=HX.out.cell 0
 have HKP:Hid (∀(n:Nat) (w5:World),Bt q (w3.drewN n) w5→w5.cell? ⟨d,0,none⟩=some (.pointer (some ⟨q,0,none⟩))):=fun n w5 hb=>zby hb c0 hdq
 have HKB:Hid (∀(n:Nat) (w5:World),Bt q (w3.drewN n) w5→Below w.heap.size w w5):=fun n w5 hb=>(zef HB3.out n).trans (hb.below hq HB3.out.size)
 have HK2:Hid (∀(n:Nat) (w5 w6:World),Bt q (w3.drewN n) w5→Bt q w5 w6→w6.cell? ⟨d,0,none⟩=some (.pointer (some ⟨q,0,none⟩))):=fun n w5 w6 hb hb2=>zby (hb.trans hb2) c0 hdq
 have HKB2:Hid (∀(n:Nat) (w5 w6:World),Bt q (w3.drewN n) w5→Bt q w5 w6→Below w.heap.size w w6):=fun n w5 w6 hb hb2=>(zef HB3.out n).trans ((hb.trans hb2).below hq HB3.out.size)
 clear HX
 go_region_held3 (fun w'=>w'.cell? ⟨d,0,none⟩=some (.pointer (some ⟨q,0,none⟩))) (first | go_keep | exact HK2.out _ _ _ HB5.out HB6.out | exact HKP.out _ _ HB5.out) (first | (go_at_call 57;go_must (refine (HI.out q _ (HR3.out.drewN _)).mono ?_;rintro e w5 ⟨rfl,HR5,HB5⟩)) | (go_at_call 56;go_must (refine (HM.out q _ hq HR5.out (HKB.out _ _ HB5.out)).mono ?_;rintro e w6 ⟨v,rfl,HV6,HR6,HB6⟩)))
 have c6:w6.cell? ⟨d,0,none⟩=some (.pointer (some ⟨q,0,none⟩)):=HK2.out _ _ _ HB5.out HB6.out
 have HB7:Hid (Below w.heap.size w w6):=HKB2.out _ _ _ HB5.out HB6.out
 rename_i hHeld
 clear hHeld HKP HKB HK2 HKB2 HB5 HR5 HI HM HR3 HB3 HB6 c0
 obtain ⟨T,u,rfl⟩:=HN.out _ _ _ HV6.out
 go_wp2_with fail
 refine (zud q r2 _ HR6.out).mono ?_
 rintro e w8 ⟨rfl,HR8,HB8⟩
 have c8:w8.cell? ⟨d,0,none⟩=some (.pointer (some ⟨q,0,none⟩)):=zby HB8.out c6 hdq
 have HB9:Hid (Below w.heap.size w w8):=HB7.out.trans (HB8.out.below hq HB7.out.size)
 have HV8:Hid (Q q w8 (.iface T u)):=HQ.out.bt _ _ _ _ HV6.out HB8.out
 clear HR6 HB7 c6 HV6 HB8
 rw [he]
 go_wp2_with fail
 have HE9:Hid (∀n,Calls Tryz.prog 58 #[.pointer (some ⟨q,0,none⟩)] (w8.drewN n) fun e w'=>e=.returned (.int .i64 (zbg r2).1.e)∧w'=w8.drewN n):=fun n=>zxt q _ _ (HR8.out.drewN n)
 have HA9:Hid (∀n,Calls Tryz.prog 60 #[.pointer (some ⟨q,0,none⟩)] (w8.drewN n) fun e w'=>e=.returned (.int .i64 (zbg r2).1.at_)∧w'=w8.drewN n):=fun n=>atQ q _ _ (HR8.out.drewN n)
 have HBX:Hid (∀n,Below w.heap.size w (w8.drewN n)):=fun n=>zef HB9.out n
 generalize (zbg r2).1.e=e9 at *
 generalize (zbg r2).1.at_=a9 at *
 go_quiet ((first | (go_at_call 58;refine Calls.quiet_of_same (HE9.out _)) | (go_at_call 60;refine Calls.quiet_of_same (HA9.out _))))
 go_wp2_with fail
 go_ret3
 exact ⟨rfl,HBX.out _⟩
theorem zyj (s:ByteArray) (hs:s.size≤281474976710656) (w:World) (r1 r2:Rd) (k:Int) (Q:Nat→World→Value→Prop) (hQ:Stb Q) (h1:zah ⟨s.data.toList,0,0⟩=(r1,k)) (hm:∀q w',w.heap.size≤q→Rm w' q r1→Below w.heap.size w w'→Calls Tryz.prog 56 #[.agg #[.pointer (some ⟨q,0,none⟩)],.int .i64 k] w' (MsP q r2 (Q q) w')) (hn:∀q w v,Q q w v→∃T u,v=.iface T u) (he:(zbg r2).2=true) (g:Nat) (hg:g≠0) (hc:∀q w v,Q q w v→Calls Tryz.prog 12 #[v] w (KP (.int .i64 g) w)):Calls Tryz.prog 20 #[.string s] w (DcP s.size g w):=by
 have hz:((g:Int) != 0)=true:=by rw [bne_iff_ne];omega
 have HC:Hid (∀q w v,Q q w v→Calls Tryz.prog 12 #[v] w (KP (.int .i64 g) w)):=hc
 have hsz:(s.size:Int)≤281474976710656:=by omega
 clear hc hg
 have HS:Hid (∀w,Calls Tryz.prog 55 #[.string s] w (NwP s.data.toList w)):=fun w=>zqn s hs w
 have HI:Hid (∀(q:Nat) (w:World),Rm w q ⟨s.data.toList,0,0⟩→Calls Tryz.prog 57 #[.pointer (some ⟨q,0,none⟩)] w (RP q (.int .i64 k) r1 w)):=fun q w h=>by have:=zk4 q _ w h;rw [h1] at this;exact this
 have HM:Hid (∀q w',w.heap.size≤q→Rm w' q r1→Below w.heap.size w w'→Calls Tryz.prog 56 #[.agg #[.pointer (some ⟨q,0,none⟩)],.int .i64 k] w' (MsP q r2 (Q q) w')):=hm
 have HQ:Hid (Stb Q):=hQ
 have HN:Hid (∀q w v,Q q w v→∃T u,v=.iface T u):=hn
 clear h1 hm hQ hn
 go_enter Tryz.func20,Tryz.ntmps20
 go_wp2_with fail
 refine (HS.out _).mono ?_
 rintro e w2 ⟨q,rfl,hq,HR2,HB2⟩
 clear HS
 go_wp2_with fail
 have HX:Hid (Bx (w2.alloc (.cells #[.pointer (some ⟨q,0,none⟩)] 133)) w2.heap.size #[.pointer (some ⟨q,0,none⟩)] 133):=Bx.new _ _ _
 have HR3:Hid (Rm (w2.alloc (.cells #[.pointer (some ⟨q,0,none⟩)] 133)) q ⟨s.data.toList,0,0⟩):=HR2.out.keep (zab w2 _)
 have HB3:Hid (Below w.heap.size w (w2.alloc (.cells #[.pointer (some ⟨q,0,none⟩)] 133))):=HB2.out.alloc HB2.out.size _
 have hdq:w2.heap.size≠q:=Nat.ne_of_gt HR2.out.lt
 have hwd:w.heap.size≤w2.heap.size:=HB2.out.size
 clear HR2 HB2
 generalize w2.alloc (.cells #[.pointer (some ⟨q,0,none⟩)] 133)=w3 at *
 generalize w2.heap.size=d at *
 have c0:w3.cell? ⟨d,0,none⟩=some (.pointer (some ⟨q,0,none⟩)):=HX.out.cell 0
 have HKP:Hid (∀(n:Nat) (w5:World),Bt q (w3.drewN n) w5→w5.cell? ⟨d,0,none⟩=some (.pointer (some ⟨q,0,none⟩))):=fun n w5 hb=>zby hb c0 hdq
 have HKB:Hid (∀(n:Nat) (w5:World),Bt q (w3.drewN n) w5→Below w.heap.size w w5):=fun n w5 hb=>(zef HB3.out n).trans (hb.below hq HB3.out.size)
 have HK2:Hid (∀(n:Nat) (w5 w6:World),Bt q (w3.drewN n) w5→Bt q w5 w6→w6.cell? ⟨d,0,none⟩=some (.pointer (some ⟨q,0,none⟩))):=fun n w5 w6 hb hb2=>zby (hb.trans hb2) c0 hdq
 have HKB2:Hid (∀(n:Nat) (w5 w6:World),Bt q (w3.drewN n) w5→Bt q w5 w6→Below w.heap.size w w6):=fun n w5 w6 hb hb2=>(zef HB3.out n).trans ((hb.trans hb2).below hq HB3.out.size)
 clear HX
 go_region_held3 (fun w'=>w'.cell? ⟨d,0,none⟩=some (.pointer (some ⟨q,0,none⟩))) (first | go_keep | exact HK2.out _ _ _ HB5.out HB6.out | exact HKP.out _ _ HB5.out) (first | (go_at_call 57;go_must (refine (HI.out q _ (HR3.out.drewN _)).mono ?_;rintro e w5 ⟨rfl,HR5,HB5⟩)) | (go_at_call 56;go_must (refine (HM.out q _ hq HR5.out (HKB.out _ _ HB5.out)).mono ?_;rintro e w6 ⟨v,rfl,HV6,HR6,HB6⟩)))
 have c6:w6.cell? ⟨d,0,none⟩=some (.pointer (some ⟨q,0,none⟩)):=HK2.out _ _ _ HB5.out HB6.out
 have HB7:Hid (Below w.heap.size w w6):=HKB2.out _ _ _ HB5.out HB6.out
 rename_i hHeld
 clear hHeld HKP HKB HK2 HKB2 HB5 HR5 HI HM HR3 HB3 HB6 c0
 obtain ⟨T,u,rfl⟩:=HN.out _ _ _ HV6.out
 go_wp2_with fail
 refine (zud q r2 _ HR6.out).mono ?_
 rintro e w8 ⟨rfl,HR8,HB8⟩
 have c8:w8.cell? ⟨d,0,none⟩=some (.pointer (some ⟨q,0,none⟩)):=zby HB8.out c6 hdq
 have HB9:Hid (Below w.heap.size w w8):=HB7.out.trans (HB8.out.below hq HB7.out.size)
 have HV8:Hid (Q q w8 (.iface T u)):=HQ.out.bt _ _ _ _ HV6.out HB8.out
 clear HR6 HB7 c6 HV6 HB8
 rw [he]
 go_wp2_with fail
 refine (HC.out _ _ _ HV8.out).mono ?_
 rintro e w9 ⟨rfl,hb9⟩
 have HBX:Hid (Below w.heap.size w w9):=bt HB9.out hb9.out
 clear hb9 HB9 HV8 HR8
 go_wp2_with fail
 go_ret3
 exact ⟨rfl,HBX⟩
theorem zxu (s:ByteArray) (hs:s.size≤281474976710656) (w:World) (r1 r2:Rd) (k:Int) (Q:Nat→World→Value→Prop) (hQ:Stb Q) (h1:zah ⟨s.data.toList,0,0⟩=(r1,k)) (hm:∀q w',w.heap.size≤q→Rm w' q r1→Below w.heap.size w w'→Calls Tryz.prog 56 #[.agg #[.pointer (some ⟨q,0,none⟩)],.int .i64 k] w' (MsP q r2 (Q q) w')) (hn:∀q w v,Q q w v→∃T u,v=.iface T u) (he:(zbg r2).2=true) (hc:∀q w v,Q q w v→Calls Tryz.prog 12 #[v] w (KP (.int .i64 0) w)):Calls Tryz.prog 20 #[.string s] w (DcV s.size Q w):=by
 have HC:Hid (∀q w v,Q q w v→Calls Tryz.prog 12 #[v] w (KP (.int .i64 0) w)):=hc
 have hsz:(s.size:Int)≤281474976710656:=by omega
 clear hc
 have HS:Hid (∀w,Calls Tryz.prog 55 #[.string s] w (NwP s.data.toList w)):=fun w=>zqn s hs w
 have HI:Hid (∀(q:Nat) (w:World),Rm w q ⟨s.data.toList,0,0⟩→Calls Tryz.prog 57 #[.pointer (some ⟨q,0,none⟩)] w (RP q (.int .i64 k) r1 w)):=fun q w h=>by have:=zk4 q _ w h;rw [h1] at this;exact this
 have HM:Hid (∀q w',w.heap.size≤q→Rm w' q r1→Below w.heap.size w w'→Calls Tryz.prog 56 #[.agg #[.pointer (some ⟨q,0,none⟩)],.int .i64 k] w' (MsP q r2 (Q q) w')):=hm
 have HQ:Hid (Stb Q):=hQ
 have HN:Hid (∀q w v,Q q w v→∃T u,v=.iface T u):=hn
 clear h1 hm hQ hn
 go_enter Tryz.func20,Tryz.ntmps20
 go_wp2_with fail
 refine (HS.out _).mono ?_
 rintro e w2 ⟨q,rfl,hq,HR2,HB2⟩
 clear HS
 go_wp2_with fail
 have HX:Hid (Bx (w2.alloc (.cells #[.pointer (some ⟨q,0,none⟩)] 133)) w2.heap.size #[.pointer (some ⟨q,0,none⟩)] 133):=Bx.new _ _ _
 have HR3:Hid (Rm (w2.alloc (.cells #[.pointer (some ⟨q,0,none⟩)] 133)) q ⟨s.data.toList,0,0⟩):=HR2.out.keep (zab w2 _)
 have HB3:Hid (Below w.heap.size w (w2.alloc (.cells #[.pointer (some ⟨q,0,none⟩)] 133))):=HB2.out.alloc HB2.out.size _
 have hdq:w2.heap.size≠q:=Nat.ne_of_gt HR2.out.lt
 have hwd:w.heap.size≤w2.heap.size:=HB2.out.size
 clear HR2 HB2
 generalize w2.alloc (.cells #[.pointer (some ⟨q,0,none⟩)] 133)=w3 at *
 generalize w2.heap.size=d at *
 have c0:w3.cell? ⟨d,0,none⟩=some (.pointer (some ⟨q,0,none⟩)):=HX.out.cell 0
 have HKP:Hid (∀(n:Nat) (w5:World),Bt q (w3.drewN n) w5→w5.cell? ⟨d,0,none⟩=some (.pointer (some ⟨q,0,none⟩))):=fun n w5 hb=>zby hb c0 hdq
 have HKB:Hid (∀(n:Nat) (w5:World),Bt q (w3.drewN n) w5→Below w.heap.size w w5):=fun n w5 hb=>(zef HB3.out n).trans (hb.below hq HB3.out.size)
 have HK2:Hid (∀(n:Nat) (w5 w6:World),Bt q (w3.drewN n) w5→Bt q w5 w6→w6.cell? ⟨d,0,none⟩=some (.pointer (some ⟨q,0,none⟩))):=fun n w5 w6 hb hb2=>zby (hb.trans hb2) c0 hdq
 have HKB2:Hid (∀(n:Nat) (w5 w6:World),Bt q (w3.drewN n) w5→Bt q w5 w6→Below w.heap.size w w6):=fun n w5 w6 hb hb2=>(zef HB3.out n).trans ((hb.trans hb2).below hq HB3.out.size)
 clear HX
 go_region_held3 (fun w'=>w'.cell? ⟨d,0,none⟩=some (.pointer (some ⟨q,0,none⟩))) (first | go_keep | exact HK2.out _ _ _ HB5.out HB6.out | exact HKP.out _ _ HB5.out) (first | (go_at_call 57;go_must (refine (HI.out q _ (HR3.out.drewN _)).mono ?_;rintro e w5 ⟨rfl,HR5,HB5⟩)) | (go_at_call 56;go_must (refine (HM.out q _ hq HR5.out (HKB.out _ _ HB5.out)).mono ?_;rintro e w6 ⟨v,rfl,HV6,HR6,HB6⟩)))
 have c6:w6.cell? ⟨d,0,none⟩=some (.pointer (some ⟨q,0,none⟩)):=HK2.out _ _ _ HB5.out HB6.out
 have HB7:Hid (Below w.heap.size w w6):=HKB2.out _ _ _ HB5.out HB6.out
 rename_i hHeld
 clear hHeld HKP HKB HK2 HKB2 HB5 HR5 HI HM HR3 HB3 HB6 c0
 obtain ⟨T,u,rfl⟩:=HN.out _ _ _ HV6.out
 go_wp2_with fail
 refine (zud q r2 _ HR6.out).mono ?_
 rintro e w8 ⟨rfl,HR8,HB8⟩
 have c8:w8.cell? ⟨d,0,none⟩=some (.pointer (some ⟨q,0,none⟩)):=zby HB8.out c6 hdq
 have HB9:Hid (Below w.heap.size w w8):=HB7.out.trans (HB8.out.below hq HB7.out.size)
 have HV8:Hid (Q q w8 (.iface T u)):=HQ.out.bt _ _ _ _ HV6.out HB8.out
 clear HR6 HB7 c6 HV6 HB8
 rw [he]
 go_wp2_with fail
 refine (HC.out _ _ _ HV8.out).mono ?_
 rintro e w9 ⟨rfl,hb9⟩
 have HBX:Hid (Below w.heap.size w w9):=bt HB9.out hb9.out
 have HV9:Hid (Q q w9 (.iface T u)):=HQ.out.bt _ _ _ _ HV8.out (Bt.of_below hb9.out)
 clear hb9 HB9 HV8 HR8
 go_wp2_with fail
 go_ret3
 exact ⟨_,q,rfl,hq,HV9,HBX⟩
theorem zvj (xs:List Lt) (a b:Option Addr) (c d:Nat) (w:World) (B:Nat) (hB:B≤w.heap.size) (hx:Lts B w a xs) (hy:Lts B w b xs) (hl:xs.length≤1000000000000):Calls Tryz.prog 29 #[.slice a xs.length c,.slice b xs.length d] w (KP (.bool true) w):=by
 have HX:Hid (Lts B w a xs):=hx
 have HY:Hid (Lts B w b xs):=hy
 clear hx hy
 go_enter Tryz.func29,Tryz.ntmps29
 go_wp2_with fail
 go_loopw [5] (fun i wr=>∃(k:Nat),i=.int .i64 k∧k≤xs.length∧Hid (Below w.heap.size w wr)) (fun i _=>xs.length-(Lib.intOf i).toNat)
 case atStart=>exact ⟨0,rfl,Nat.zero_le _,Below.refl _ _⟩
 case round=>
  obtain ⟨k,rfl,hk,HBw⟩:=hrel
  by_cases hkn:k<xs.length
  ·have hkz:(k:Int)<(xs.length:Int):=by omega
   obtain ⟨b1,off1,rfl,hbl1,hce1⟩:=HX.out (by omega)
   obtain ⟨b2,off2,rfl,hbl2,hce2⟩:=HY.out (by omega)
   have hc1:wr.cell? ⟨b1,off1+k*2,none⟩=some (.string ⟨xs[k].i.toArray⟩):=(HBw.out.cell (by exact Nat.lt_of_lt_of_le hbl1 hB)).trans (hce1 k hkn).1
   have hd1:wr.cell? ⟨b1,off1+k*2+1,none⟩=some (.int .i64 xs[k].q):=(HBw.out.cell (by exact Nat.lt_of_lt_of_le hbl1 hB)).trans (hce1 k hkn).2
   have hc2:wr.cell? ⟨b2,off2+k*2,none⟩=some (.string ⟨xs[k].i.toArray⟩):=(HBw.out.cell (by exact Nat.lt_of_lt_of_le hbl2 hB)).trans (hce2 k hkn).1
   have hd2:wr.cell? ⟨b2,off2+k*2+1,none⟩=some (.int .i64 xs[k].q):=(HBw.out.cell (by exact Nat.lt_of_lt_of_le hbl2 hB)).trans (hce2 k hkn).2
   generalize (⟨xs[k].i.toArray⟩:ByteArray)=n at *
   generalize xs[k].q=q at *
   clear hce1 hce2
   go_wp2_with fail
   go_quiet (fail)
   go_wp2_with fail
   exact ⟨⟨k+1,by go_num,by omega,zfy HBw.out _⟩,by simp [Lib.intOf];omega⟩
  ·have hkz:¬ (k:Int)<(xs.length:Int):=by omega
   go_wp2_with fail
   go_ret
   exact KP.mk rfl HBw.out
theorem zj8 (b:Bk) (ca1 ca2 ba1 ba2:Option Addr) (cc1 cc2 bc1 bc2:Nat) (w:World) (hC1:Cts w.heap.size w ca1 b.cuts) (hC2:Cts w.heap.size w ca2 b.cuts) (hI1:Ins w.heap.size w ba1 b.bar) (hI2:Ins w.heap.size w ba2 b.bar) (hlc:b.cuts.length≤1000000000000) (hlb:b.bar.length≤1000000000000):Calls Tryz.prog 64 #[.agg #[.int .i64 b.id,.int .i64 b.ver,.string ⟨b.cur.toArray⟩,.int .i64 b.rat,.int .i64 b.least,.int .i64 b.most,.slice ca1 b.cuts.length cc1,.int .i64 b.iss,.int .i64 b.ass,.slice ba1 b.bar.length bc1],.agg #[.int .i64 b.id,.int .i64 b.ver,.string ⟨b.cur.toArray⟩,.int .i64 b.rat,.int .i64 b.least,.int .i64 b.most,.slice ca2 b.cuts.length cc2,.int .i64 b.iss,.int .i64 b.ass,.slice ba2 b.bar.length bc2]] w (KP (.bool true) w):=by
 have HB:Hid (Below w.heap.size w ((w.alloc (.cells #[.int .i64 b.id,.int .i64 b.ver,.string ⟨b.cur.toArray⟩,.int .i64 b.rat,.int .i64 b.least,.int .i64 b.most,.slice ca1 b.cuts.length cc1,.int .i64 b.iss,.int .i64 b.ass,.slice ba1 b.bar.length bc1] 27)).alloc (.cells #[.int .i64 b.id,.int .i64 b.ver,.string ⟨b.cur.toArray⟩,.int .i64 b.rat,.int .i64 b.least,.int .i64 b.most,.slice ca2 b.cuts.length cc2,.int .i64 b.iss,.int .i64 b.ass,.slice ba2 b.bar.length bc2] 27))):=bt (zab w _) (zab _ _)
 have HX:Hid (Bx ((w.alloc (.cells #[.int .i64 b.id,.int .i64 b.ver,.string ⟨b.cur.toArray⟩,.int .i64 b.rat,.int .i64 b.least,.int .i64 b.most,.slice ca1 b.cuts.length cc1,.int .i64 b.iss,.int .i64 b.ass,.slice ba1 b.bar.length bc1] 27)).alloc (.cells #[.int .i64 b.id,.int .i64 b.ver,.string ⟨b.cur.toArray⟩,.int .i64 b.rat,.int .i64 b.least,.int .i64 b.most,.slice ca2 b.cuts.length cc2,.int .i64 b.iss,.int .i64 b.ass,.slice ba2 b.bar.length bc2] 27)) w.heap.size #[.int .i64 b.id,.int .i64 b.ver,.string ⟨b.cur.toArray⟩,.int .i64 b.rat,.int .i64 b.least,.int .i64 b.most,.slice ca1 b.cuts.length cc1,.int .i64 b.iss,.int .i64 b.ass,.slice ba1 b.bar.length bc1] 27):=(Bx.new w _ _).keep (zab _ _)
 have HY:Hid (Bx ((w.alloc (.cells #[.int .i64 b.id,.int .i64 b.ver,.string ⟨b.cur.toArray⟩,.int .i64 b.rat,.int .i64 b.least,.int .i64 b.most,.slice ca1 b.cuts.length cc1,.int .i64 b.iss,.int .i64 b.ass,.slice ba1 b.bar.length bc1] 27)).alloc (.cells #[.int .i64 b.id,.int .i64 b.ver,.string ⟨b.cur.toArray⟩,.int .i64 b.rat,.int .i64 b.least,.int .i64 b.most,.slice ca2 b.cuts.length cc2,.int .i64 b.iss,.int .i64 b.ass,.slice ba2 b.bar.length bc2] 27)) (w.alloc (.cells #[.int .i64 b.id,.int .i64 b.ver,.string ⟨b.cur.toArray⟩,.int .i64 b.rat,.int .i64 b.least,.int .i64 b.most,.slice ca1 b.cuts.length cc1,.int .i64 b.iss,.int .i64 b.ass,.slice ba1 b.bar.length bc1] 27)).heap.size #[.int .i64 b.id,.int .i64 b.ver,.string ⟨b.cur.toArray⟩,.int .i64 b.rat,.int .i64 b.least,.int .i64 b.most,.slice ca2 b.cuts.length cc2,.int .i64 b.iss,.int .i64 b.ass,.slice ba2 b.bar.length bc2] 27):=Bx.new _ _ _
 have HC1:Hid (Cts w.heap.size w ca1 b.cuts):=hC1
 have HC2:Hid (Cts w.heap.size w ca2 b.cuts):=hC2
 have HI1:Hid (Ins w.heap.size ((w.alloc (.cells #[.int .i64 b.id,.int .i64 b.ver,.string ⟨b.cur.toArray⟩,.int .i64 b.rat,.int .i64 b.least,.int .i64 b.most,.slice ca1 b.cuts.length cc1,.int .i64 b.iss,.int .i64 b.ass,.slice ba1 b.bar.length bc1] 27)).alloc (.cells #[.int .i64 b.id,.int .i64 b.ver,.string ⟨b.cur.toArray⟩,.int .i64 b.rat,.int .i64 b.least,.int .i64 b.most,.slice ca2 b.cuts.length cc2,.int .i64 b.iss,.int .i64 b.ass,.slice ba2 b.bar.length bc2] 27)) ba1 b.bar):=hI1.keep HB.out
 have HI2:Hid (Ins w.heap.size ((w.alloc (.cells #[.int .i64 b.id,.int .i64 b.ver,.string ⟨b.cur.toArray⟩,.int .i64 b.rat,.int .i64 b.least,.int .i64 b.most,.slice ca1 b.cuts.length cc1,.int .i64 b.iss,.int .i64 b.ass,.slice ba1 b.bar.length bc1] 27)).alloc (.cells #[.int .i64 b.id,.int .i64 b.ver,.string ⟨b.cur.toArray⟩,.int .i64 b.rat,.int .i64 b.least,.int .i64 b.most,.slice ca2 b.cuts.length cc2,.int .i64 b.iss,.int .i64 b.ass,.slice ba2 b.bar.length bc2] 27)) ba2 b.bar):=hI2.keep HB.out
 have HS:Hid (∀(W:World),w.heap.size≤W.heap.size→Ins w.heap.size W ba1 b.bar→Ins w.heap.size W ba2 b.bar→Calls Tryz.prog 98 #[.slice ba1 b.bar.length bc1,.slice ba2 b.bar.length bc2] W (BB true W)):=fun W hw h1 h2=>zu5 b.bar b.bar ba1 ba2 bc1 bc2 W w.heap.size hw h1 h2 rfl hlb
 have hz:(w.alloc (.cells #[.int .i64 b.id,.int .i64 b.ver,.string ⟨b.cur.toArray⟩,.int .i64 b.rat,.int .i64 b.least,.int .i64 b.most,.slice ca1 b.cuts.length cc1,.int .i64 b.iss,.int .i64 b.ass,.slice ba1 b.bar.length bc1] 27)).heap.size=w.heap.size+1:=by simp
 clear hC1 hC2 hI1 hI2
 generalize (⟨b.cur.toArray⟩:ByteArray)=cur at *
 go_enter Tryz.func64,Tryz.ntmps64
 go_wp2_with fail
 generalize ((w.alloc (.cells #[.int .i64 b.id,.int .i64 b.ver,.string cur,.int .i64 b.rat,.int .i64 b.least,.int .i64 b.most,.slice ca1 b.cuts.length cc1,.int .i64 b.iss,.int .i64 b.ass,.slice ba1 b.bar.length bc1] 27)).alloc (.cells #[.int .i64 b.id,.int .i64 b.ver,.string cur,.int .i64 b.rat,.int .i64 b.least,.int .i64 b.most,.slice ca2 b.cuts.length cc2,.int .i64 b.iss,.int .i64 b.ass,.slice ba2 b.bar.length bc2] 27))=w2 at *
 rw [hz] at HY
 have hB2:w.heap.size≤w2.heap.size:=HB.out.size
 refine (HS.out _ hB2 HI1.out HI2.out).mono ?_
 rintro e w3 ⟨rfl,hb⟩
 have HB3:Hid (Below w.heap.size w w3):=bt HB.out hb
 have HX3:Hid (Bx w3 w.heap.size #[.int .i64 b.id,.int .i64 b.ver,.string cur,.int .i64 b.rat,.int .i64 b.least,.int .i64 b.most,.slice ca1 b.cuts.length cc1,.int .i64 b.iss,.int .i64 b.ass,.slice ba1 b.bar.length bc1] 27):=HX.out.keep hb
 have HY3:Hid (Bx w3 (w.heap.size+1) #[.int .i64 b.id,.int .i64 b.ver,.string cur,.int .i64 b.rat,.int .i64 b.least,.int .i64 b.most,.slice ca2 b.cuts.length cc2,.int .i64 b.iss,.int .i64 b.ass,.slice ba2 b.bar.length bc2] 27):=HY.out.keep hb
 clear hb HB HX HY HS HI1 HI2 hz
 go_wp2_with fail
 go_loopw [5] (fun i wr=>∃(k:Nat),i=.int .i64 k∧k≤b.cuts.length∧Hid (Below w.heap.size w wr)∧Hid (wr.cell? ⟨w.heap.size,6,none⟩=some (.slice ca1 b.cuts.length cc1)∧wr.cell? ⟨w.heap.size+1,6,none⟩=some (.slice ca2 b.cuts.length cc2))) (fun i _=>b.cuts.length-(Lib.intOf i).toNat)
 case atStart=>exact ⟨0,rfl,Nat.zero_le _,HB3,HX3.out.cell 6,HY3.out.cell 6⟩
 case round=>
  clear HB3 HX3 HY3
  obtain ⟨k,rfl,hk,HBw,HK⟩:=hrel
  obtain ⟨k1,k2⟩:=HK.out
  by_cases hkn:k<b.cuts.length
  ·have hkz:(k:Int)<(b.cuts.length:Int):=by omega
   obtain ⟨b1,off1,rfl,hbl1,hce1⟩:=HC1.out (by omega)
   obtain ⟨b2,off2,rfl,hbl2,hce2⟩:=HC2.out (by omega)
   have hc1:wr.cell? ⟨b1,off1+k*3,none⟩=some (.int .i64 b.cuts[k].d):=(HBw.out.cell (by exact hbl1)).trans (hce1 k hkn).1
   have hd1:wr.cell? ⟨b1,off1+k*3+1,none⟩=some (.int .i64 b.cuts[k].r):=(HBw.out.cell (by exact hbl1)).trans (hce1 k hkn).2.1
   have he1:wr.cell? ⟨b1,off1+k*3+2,none⟩=some (.int .i64 b.cuts[k].c):=(HBw.out.cell (by exact hbl1)).trans (hce1 k hkn).2.2
   have hc2:wr.cell? ⟨b2,off2+k*3,none⟩=some (.int .i64 b.cuts[k].d):=(HBw.out.cell (by exact hbl2)).trans (hce2 k hkn).1
   have hd2:wr.cell? ⟨b2,off2+k*3+1,none⟩=some (.int .i64 b.cuts[k].r):=(HBw.out.cell (by exact hbl2)).trans (hce2 k hkn).2.1
   have he2:wr.cell? ⟨b2,off2+k*3+2,none⟩=some (.int .i64 b.cuts[k].c):=(HBw.out.cell (by exact hbl2)).trans (hce2 k hkn).2.2
   generalize b.cuts[k].d=x at *
   generalize b.cuts[k].r=y at *
   generalize b.cuts[k].c=z at *
   clear hce1 hce2
   go_wp2_with fail
   go_quiet (fail)
   go_wp2_with fail
   exact ⟨⟨k+1,by go_num,by omega,zfy HBw.out _,HK⟩,by simp [Lib.intOf];omega⟩
  ·have hkz:¬ (k:Int)<(b.cuts.length:Int):=by omega
   go_wp2_with fail
   go_ret
   exact KP.mk rfl HBw.out
theorem zsk (m:Mg) (ca1 ca2 ba1 ba2 pa1 pa2 ia1 ia2:Option Addr) (cc1 cc2 bc1 bc2 pc1 pc2 ic1 ic2:Nat) (w:World) (hC1:Cts w.heap.size w ca1 m.b.cuts) (hC2:Cts w.heap.size w ca2 m.b.cuts) (hI1:Ins w.heap.size w ba1 m.b.bar) (hI2:Ins w.heap.size w ba2 m.b.bar) (hP1:Lts w.heap.size w pa1 m.ps) (hP2:Lts w.heap.size w pa2 m.ps) (hL1:Lts w.heap.size w ia1 m.ins) (hL2:Lts w.heap.size w ia2 m.ins) (hlc:m.b.cuts.length≤1000000000000) (hlb:m.b.bar.length≤1000000000000) (hlp:m.ps.length≤1000000000000) (hli:m.ins.length≤1000000000000):Calls Tryz.prog 22 #[.agg #[.int .i64 m.k,.int .i64 m.mem,.string ⟨m.name.toArray⟩,.string ⟨m.a.i.toArray⟩,.int .i64 m.a.iss,.int .i64 m.a.rat,.int .i64 m.a.mat,.string ⟨m.a.cur.toArray⟩,.int .i64 m.b.id,.int .i64 m.b.ver,.string ⟨m.b.cur.toArray⟩,.int .i64 m.b.rat,.int .i64 m.b.least,.int .i64 m.b.most,.slice ca1 m.b.cuts.length cc1,.int .i64 m.b.iss,.int .i64 m.b.ass,.slice ba1 m.b.bar.length bc1,.slice pa1 m.ps.length pc1,.int .i64 m.day,.string ⟨m.t.toArray⟩,.int .i64 m.n,.int .i64 m.q.id,.int .i64 m.q.mem,.int .i64 m.q.side,.int .i64 m.q.bas,.int .i64 m.q.am,.int .i64 m.q.rate,.int .i64 m.q.st,.int .i64 m.q.en,.string ⟨m.out.i.toArray⟩,.int .i64 m.out.q,.slice ia1 m.ins.length ic1,.int .i64 m.tr,.bool m.done,.int .i64 m.rate],.agg #[.int .i64 m.k,.int .i64 m.mem,.string ⟨m.name.toArray⟩,.string ⟨m.a.i.toArray⟩,.int .i64 m.a.iss,.int .i64 m.a.rat,.int .i64 m.a.mat,.string ⟨m.a.cur.toArray⟩,.int .i64 m.b.id,.int .i64 m.b.ver,.string ⟨m.b.cur.toArray⟩,.int .i64 m.b.rat,.int .i64 m.b.least,.int .i64 m.b.most,.slice ca2 m.b.cuts.length cc2,.int .i64 m.b.iss,.int .i64 m.b.ass,.slice ba2 m.b.bar.length bc2,.slice pa2 m.ps.length pc2,.int .i64 m.day,.string ⟨m.t.toArray⟩,.int .i64 m.n,.int .i64 m.q.id,.int .i64 m.q.mem,.int .i64 m.q.side,.int .i64 m.q.bas,.int .i64 m.q.am,.int .i64 m.q.rate,.int .i64 m.q.st,.int .i64 m.q.en,.string ⟨m.out.i.toArray⟩,.int .i64 m.out.q,.slice ia2 m.ins.length ic2,.int .i64 m.tr,.bool m.done,.int .i64 m.rate]] w (KP (.bool true) w):=by
 have HB:Hid (Below w.heap.size w ((w.alloc (.cells #[.int .i64 m.k,.int .i64 m.mem,.string ⟨m.name.toArray⟩,.string ⟨m.a.i.toArray⟩,.int .i64 m.a.iss,.int .i64 m.a.rat,.int .i64 m.a.mat,.string ⟨m.a.cur.toArray⟩,.int .i64 m.b.id,.int .i64 m.b.ver,.string ⟨m.b.cur.toArray⟩,.int .i64 m.b.rat,.int .i64 m.b.least,.int .i64 m.b.most,.slice ca1 m.b.cuts.length cc1,.int .i64 m.b.iss,.int .i64 m.b.ass,.slice ba1 m.b.bar.length bc1,.slice pa1 m.ps.length pc1,.int .i64 m.day,.string ⟨m.t.toArray⟩,.int .i64 m.n,.int .i64 m.q.id,.int .i64 m.q.mem,.int .i64 m.q.side,.int .i64 m.q.bas,.int .i64 m.q.am,.int .i64 m.q.rate,.int .i64 m.q.st,.int .i64 m.q.en,.string ⟨m.out.i.toArray⟩,.int .i64 m.out.q,.slice ia1 m.ins.length ic1,.int .i64 m.tr,.bool m.done,.int .i64 m.rate] 35)).alloc (.cells #[.int .i64 m.k,.int .i64 m.mem,.string ⟨m.name.toArray⟩,.string ⟨m.a.i.toArray⟩,.int .i64 m.a.iss,.int .i64 m.a.rat,.int .i64 m.a.mat,.string ⟨m.a.cur.toArray⟩,.int .i64 m.b.id,.int .i64 m.b.ver,.string ⟨m.b.cur.toArray⟩,.int .i64 m.b.rat,.int .i64 m.b.least,.int .i64 m.b.most,.slice ca2 m.b.cuts.length cc2,.int .i64 m.b.iss,.int .i64 m.b.ass,.slice ba2 m.b.bar.length bc2,.slice pa2 m.ps.length pc2,.int .i64 m.day,.string ⟨m.t.toArray⟩,.int .i64 m.n,.int .i64 m.q.id,.int .i64 m.q.mem,.int .i64 m.q.side,.int .i64 m.q.bas,.int .i64 m.q.am,.int .i64 m.q.rate,.int .i64 m.q.st,.int .i64 m.q.en,.string ⟨m.out.i.toArray⟩,.int .i64 m.out.q,.slice ia2 m.ins.length ic2,.int .i64 m.tr,.bool m.done,.int .i64 m.rate] 35))):=bt (zab w _) (zab _ _)
 have HX:Hid (Bx ((w.alloc (.cells #[.int .i64 m.k,.int .i64 m.mem,.string ⟨m.name.toArray⟩,.string ⟨m.a.i.toArray⟩,.int .i64 m.a.iss,.int .i64 m.a.rat,.int .i64 m.a.mat,.string ⟨m.a.cur.toArray⟩,.int .i64 m.b.id,.int .i64 m.b.ver,.string ⟨m.b.cur.toArray⟩,.int .i64 m.b.rat,.int .i64 m.b.least,.int .i64 m.b.most,.slice ca1 m.b.cuts.length cc1,.int .i64 m.b.iss,.int .i64 m.b.ass,.slice ba1 m.b.bar.length bc1,.slice pa1 m.ps.length pc1,.int .i64 m.day,.string ⟨m.t.toArray⟩,.int .i64 m.n,.int .i64 m.q.id,.int .i64 m.q.mem,.int .i64 m.q.side,.int .i64 m.q.bas,.int .i64 m.q.am,.int .i64 m.q.rate,.int .i64 m.q.st,.int .i64 m.q.en,.string ⟨m.out.i.toArray⟩,.int .i64 m.out.q,.slice ia1 m.ins.length ic1,.int .i64 m.tr,.bool m.done,.int .i64 m.rate] 35)).alloc (.cells #[.int .i64 m.k,.int .i64 m.mem,.string ⟨m.name.toArray⟩,.string ⟨m.a.i.toArray⟩,.int .i64 m.a.iss,.int .i64 m.a.rat,.int .i64 m.a.mat,.string ⟨m.a.cur.toArray⟩,.int .i64 m.b.id,.int .i64 m.b.ver,.string ⟨m.b.cur.toArray⟩,.int .i64 m.b.rat,.int .i64 m.b.least,.int .i64 m.b.most,.slice ca2 m.b.cuts.length cc2,.int .i64 m.b.iss,.int .i64 m.b.ass,.slice ba2 m.b.bar.length bc2,.slice pa2 m.ps.length pc2,.int .i64 m.day,.string ⟨m.t.toArray⟩,.int .i64 m.n,.int .i64 m.q.id,.int .i64 m.q.mem,.int .i64 m.q.side,.int .i64 m.q.bas,.int .i64 m.q.am,.int .i64 m.q.rate,.int .i64 m.q.st,.int .i64 m.q.en,.string ⟨m.out.i.toArray⟩,.int .i64 m.out.q,.slice ia2 m.ins.length ic2,.int .i64 m.tr,.bool m.done,.int .i64 m.rate] 35)) w.heap.size #[.int .i64 m.k,.int .i64 m.mem,.string ⟨m.name.toArray⟩,.string ⟨m.a.i.toArray⟩,.int .i64 m.a.iss,.int .i64 m.a.rat,.int .i64 m.a.mat,.string ⟨m.a.cur.toArray⟩,.int .i64 m.b.id,.int .i64 m.b.ver,.string ⟨m.b.cur.toArray⟩,.int .i64 m.b.rat,.int .i64 m.b.least,.int .i64 m.b.most,.slice ca1 m.b.cuts.length cc1,.int .i64 m.b.iss,.int .i64 m.b.ass,.slice ba1 m.b.bar.length bc1,.slice pa1 m.ps.length pc1,.int .i64 m.day,.string ⟨m.t.toArray⟩,.int .i64 m.n,.int .i64 m.q.id,.int .i64 m.q.mem,.int .i64 m.q.side,.int .i64 m.q.bas,.int .i64 m.q.am,.int .i64 m.q.rate,.int .i64 m.q.st,.int .i64 m.q.en,.string ⟨m.out.i.toArray⟩,.int .i64 m.out.q,.slice ia1 m.ins.length ic1,.int .i64 m.tr,.bool m.done,.int .i64 m.rate] 35):=(Bx.new w _ _).keep (zab _ _)
 have HY:Hid (Bx ((w.alloc (.cells #[.int .i64 m.k,.int .i64 m.mem,.string ⟨m.name.toArray⟩,.string ⟨m.a.i.toArray⟩,.int .i64 m.a.iss,.int .i64 m.a.rat,.int .i64 m.a.mat,.string ⟨m.a.cur.toArray⟩,.int .i64 m.b.id,.int .i64 m.b.ver,.string ⟨m.b.cur.toArray⟩,.int .i64 m.b.rat,.int .i64 m.b.least,.int .i64 m.b.most,.slice ca1 m.b.cuts.length cc1,.int .i64 m.b.iss,.int .i64 m.b.ass,.slice ba1 m.b.bar.length bc1,.slice pa1 m.ps.length pc1,.int .i64 m.day,.string ⟨m.t.toArray⟩,.int .i64 m.n,.int .i64 m.q.id,.int .i64 m.q.mem,.int .i64 m.q.side,.int .i64 m.q.bas,.int .i64 m.q.am,.int .i64 m.q.rate,.int .i64 m.q.st,.int .i64 m.q.en,.string ⟨m.out.i.toArray⟩,.int .i64 m.out.q,.slice ia1 m.ins.length ic1,.int .i64 m.tr,.bool m.done,.int .i64 m.rate] 35)).alloc (.cells #[.int .i64 m.k,.int .i64 m.mem,.string ⟨m.name.toArray⟩,.string ⟨m.a.i.toArray⟩,.int .i64 m.a.iss,.int .i64 m.a.rat,.int .i64 m.a.mat,.string ⟨m.a.cur.toArray⟩,.int .i64 m.b.id,.int .i64 m.b.ver,.string ⟨m.b.cur.toArray⟩,.int .i64 m.b.rat,.int .i64 m.b.least,.int .i64 m.b.most,.slice ca2 m.b.cuts.length cc2,.int .i64 m.b.iss,.int .i64 m.b.ass,.slice ba2 m.b.bar.length bc2,.slice pa2 m.ps.length pc2,.int .i64 m.day,.string ⟨m.t.toArray⟩,.int .i64 m.n,.int .i64 m.q.id,.int .i64 m.q.mem,.int .i64 m.q.side,.int .i64 m.q.bas,.int .i64 m.q.am,.int .i64 m.q.rate,.int .i64 m.q.st,.int .i64 m.q.en,.string ⟨m.out.i.toArray⟩,.int .i64 m.out.q,.slice ia2 m.ins.length ic2,.int .i64 m.tr,.bool m.done,.int .i64 m.rate] 35)) (w.alloc (.cells #[.int .i64 m.k,.int .i64 m.mem,.string ⟨m.name.toArray⟩,.string ⟨m.a.i.toArray⟩,.int .i64 m.a.iss,.int .i64 m.a.rat,.int .i64 m.a.mat,.string ⟨m.a.cur.toArray⟩,.int .i64 m.b.id,.int .i64 m.b.ver,.string ⟨m.b.cur.toArray⟩,.int .i64 m.b.rat,.int .i64 m.b.least,.int .i64 m.b.most,.slice ca1 m.b.cuts.length cc1,.int .i64 m.b.iss,.int .i64 m.b.ass,.slice ba1 m.b.bar.length bc1,.slice pa1 m.ps.length pc1,.int .i64 m.day,.string ⟨m.t.toArray⟩,.int .i64 m.n,.int .i64 m.q.id,.int .i64 m.q.mem,.int .i64 m.q.side,.int .i64 m.q.bas,.int .i64 m.q.am,.int .i64 m.q.rate,.int .i64 m.q.st,.int .i64 m.q.en,.string ⟨m.out.i.toArray⟩,.int .i64 m.out.q,.slice ia1 m.ins.length ic1,.int .i64 m.tr,.bool m.done,.int .i64 m.rate] 35)).heap.size #[.int .i64 m.k,.int .i64 m.mem,.string ⟨m.name.toArray⟩,.string ⟨m.a.i.toArray⟩,.int .i64 m.a.iss,.int .i64 m.a.rat,.int .i64 m.a.mat,.string ⟨m.a.cur.toArray⟩,.int .i64 m.b.id,.int .i64 m.b.ver,.string ⟨m.b.cur.toArray⟩,.int .i64 m.b.rat,.int .i64 m.b.least,.int .i64 m.b.most,.slice ca2 m.b.cuts.length cc2,.int .i64 m.b.iss,.int .i64 m.b.ass,.slice ba2 m.b.bar.length bc2,.slice pa2 m.ps.length pc2,.int .i64 m.day,.string ⟨m.t.toArray⟩,.int .i64 m.n,.int .i64 m.q.id,.int .i64 m.q.mem,.int .i64 m.q.side,.int .i64 m.q.bas,.int .i64 m.q.am,.int .i64 m.q.rate,.int .i64 m.q.st,.int .i64 m.q.en,.string ⟨m.out.i.toArray⟩,.int .i64 m.out.q,.slice ia2 m.ins.length ic2,.int .i64 m.tr,.bool m.done,.int .i64 m.rate] 35):=Bx.new _ _ _
 have HL:Hid (∀(W:World),Below w.heap.size w W→Calls Tryz.prog 29 #[.slice ia1 m.ins.length ic1,.slice ia2 m.ins.length ic2] W (KP (.bool true) W)):=fun W hb=>zvj m.ins ia1 ia2 ic1 ic2 W w.heap.size hb.size (hL1.keep hb) (hL2.keep hb) hli
 have HS:Hid (∀(W:World),Below w.heap.size w W→Calls Tryz.prog 64 #[.agg #[.int .i64 m.b.id,.int .i64 m.b.ver,.string ⟨m.b.cur.toArray⟩,.int .i64 m.b.rat,.int .i64 m.b.least,.int .i64 m.b.most,.slice ca1 m.b.cuts.length cc1,.int .i64 m.b.iss,.int .i64 m.b.ass,.slice ba1 m.b.bar.length bc1],.agg #[.int .i64 m.b.id,.int .i64 m.b.ver,.string ⟨m.b.cur.toArray⟩,.int .i64 m.b.rat,.int .i64 m.b.least,.int .i64 m.b.most,.slice ca2 m.b.cuts.length cc2,.int .i64 m.b.iss,.int .i64 m.b.ass,.slice ba2 m.b.bar.length bc2]] W (KP (.bool true) W)):=fun W hb=>zj8 m.b ca1 ca2 ba1 ba2 cc1 cc2 bc1 bc2 W ((hC1.keep hb).mono hb.size) ((hC2.keep hb).mono hb.size) ((hI1.keep hb).mono hb.size) ((hI2.keep hb).mono hb.size) hlc hlb
 have HP1:Hid (Lts w.heap.size w pa1 m.ps):=hP1
 have HP2:Hid (Lts w.heap.size w pa2 m.ps):=hP2
 have hz:(w.alloc (.cells #[.int .i64 m.k,.int .i64 m.mem,.string ⟨m.name.toArray⟩,.string ⟨m.a.i.toArray⟩,.int .i64 m.a.iss,.int .i64 m.a.rat,.int .i64 m.a.mat,.string ⟨m.a.cur.toArray⟩,.int .i64 m.b.id,.int .i64 m.b.ver,.string ⟨m.b.cur.toArray⟩,.int .i64 m.b.rat,.int .i64 m.b.least,.int .i64 m.b.most,.slice ca1 m.b.cuts.length cc1,.int .i64 m.b.iss,.int .i64 m.b.ass,.slice ba1 m.b.bar.length bc1,.slice pa1 m.ps.length pc1,.int .i64 m.day,.string ⟨m.t.toArray⟩,.int .i64 m.n,.int .i64 m.q.id,.int .i64 m.q.mem,.int .i64 m.q.side,.int .i64 m.q.bas,.int .i64 m.q.am,.int .i64 m.q.rate,.int .i64 m.q.st,.int .i64 m.q.en,.string ⟨m.out.i.toArray⟩,.int .i64 m.out.q,.slice ia1 m.ins.length ic1,.int .i64 m.tr,.bool m.done,.int .i64 m.rate] 35)).heap.size=w.heap.size+1:=by simp
 rw [hz] at HY
 clear hC1 hC2 hI1 hI2 hP1 hP2 hL1 hL2 hz
 generalize (⟨m.b.cur.toArray⟩:ByteArray)=bcur at *
 generalize (⟨m.a.i.toArray⟩:ByteArray)=ai at *
 generalize (⟨m.a.cur.toArray⟩:ByteArray)=acur at *
 generalize (⟨m.name.toArray⟩:ByteArray)=nam at *
 generalize (⟨m.t.toArray⟩:ByteArray)=txt at *
 generalize (⟨m.out.i.toArray⟩:ByteArray)=oi at *
 go_enter Tryz.func22,Tryz.ntmps22
 go_wp2_with fail
 generalize ((w.alloc (.cells #[.int .i64 m.k,.int .i64 m.mem,.string nam,.string ai,.int .i64 m.a.iss,.int .i64 m.a.rat,.int .i64 m.a.mat,.string acur,.int .i64 m.b.id,.int .i64 m.b.ver,.string bcur,.int .i64 m.b.rat,.int .i64 m.b.least,.int .i64 m.b.most,.slice ca1 m.b.cuts.length cc1,.int .i64 m.b.iss,.int .i64 m.b.ass,.slice ba1 m.b.bar.length bc1,.slice pa1 m.ps.length pc1,.int .i64 m.day,.string txt,.int .i64 m.n,.int .i64 m.q.id,.int .i64 m.q.mem,.int .i64 m.q.side,.int .i64 m.q.bas,.int .i64 m.q.am,.int .i64 m.q.rate,.int .i64 m.q.st,.int .i64 m.q.en,.string oi,.int .i64 m.out.q,.slice ia1 m.ins.length ic1,.int .i64 m.tr,.bool m.done,.int .i64 m.rate] 35)).alloc (.cells #[.int .i64 m.k,.int .i64 m.mem,.string nam,.string ai,.int .i64 m.a.iss,.int .i64 m.a.rat,.int .i64 m.a.mat,.string acur,.int .i64 m.b.id,.int .i64 m.b.ver,.string bcur,.int .i64 m.b.rat,.int .i64 m.b.least,.int .i64 m.b.most,.slice ca2 m.b.cuts.length cc2,.int .i64 m.b.iss,.int .i64 m.b.ass,.slice ba2 m.b.bar.length bc2,.slice pa2 m.ps.length pc2,.int .i64 m.day,.string txt,.int .i64 m.n,.int .i64 m.q.id,.int .i64 m.q.mem,.int .i64 m.q.side,.int .i64 m.q.bas,.int .i64 m.q.am,.int .i64 m.q.rate,.int .i64 m.q.st,.int .i64 m.q.en,.string oi,.int .i64 m.out.q,.slice ia2 m.ins.length ic2,.int .i64 m.tr,.bool m.done,.int .i64 m.rate] 35))=w2 at *
 refine (HS.out _ HB.out).mono ?_
 rintro e w3 ⟨rfl,hb⟩
 have HB3:Hid (Below w.heap.size w w3):=bt HB.out hb.out
 have HX3:Hid (Bx w3 w.heap.size #[.int .i64 m.k,.int .i64 m.mem,.string nam,.string ai,.int .i64 m.a.iss,.int .i64 m.a.rat,.int .i64 m.a.mat,.string acur,.int .i64 m.b.id,.int .i64 m.b.ver,.string bcur,.int .i64 m.b.rat,.int .i64 m.b.least,.int .i64 m.b.most,.slice ca1 m.b.cuts.length cc1,.int .i64 m.b.iss,.int .i64 m.b.ass,.slice ba1 m.b.bar.length bc1,.slice pa1 m.ps.length pc1,.int .i64 m.day,.string txt,.int .i64 m.n,.int .i64 m.q.id,.int .i64 m.q.mem,.int .i64 m.q.side,.int .i64 m.q.bas,.int .i64 m.q.am,.int .i64 m.q.rate,.int .i64 m.q.st,.int .i64 m.q.en,.string oi,.int .i64 m.out.q,.slice ia1 m.ins.length ic1,.int .i64 m.tr,.bool m.done,.int .i64 m.rate] 35):=HX.out.keep hb.out
 have HY3:Hid (Bx w3 (w.heap.size+1) #[.int .i64 m.k,.int .i64 m.mem,.string nam,.string ai,.int .i64 m.a.iss,.int .i64 m.a.rat,.int .i64 m.a.mat,.string acur,.int .i64 m.b.id,.int .i64 m.b.ver,.string bcur,.int .i64 m.b.rat,.int .i64 m.b.least,.int .i64 m.b.most,.slice ca2 m.b.cuts.length cc2,.int .i64 m.b.iss,.int .i64 m.b.ass,.slice ba2 m.b.bar.length bc2,.slice pa2 m.ps.length pc2,.int .i64 m.day,.string txt,.int .i64 m.n,.int .i64 m.q.id,.int .i64 m.q.mem,.int .i64 m.q.side,.int .i64 m.q.bas,.int .i64 m.q.am,.int .i64 m.q.rate,.int .i64 m.q.st,.int .i64 m.q.en,.string oi,.int .i64 m.out.q,.slice ia2 m.ins.length ic2,.int .i64 m.tr,.bool m.done,.int .i64 m.rate] 35):=HY.out.keep hb.out
 have x5:w3.cell? ⟨w.heap.size,18,none⟩=some (.slice pa1 m.ps.length pc1):=HX3.out.cell 18
 have y5:w3.cell? ⟨w.heap.size+1,18,none⟩=some (.slice pa2 m.ps.length pc2):=HY3.out.cell 18
 clear hb HB HX HY HS
 go_wp2_with fail
 clear x5 y5
 go_loopw [5] (fun i wr=>∃(k:Nat),i=.int .i64 k∧k≤m.ps.length∧Hid (Below w.heap.size w wr)∧Hid (Bx wr w.heap.size #[.int .i64 m.k,.int .i64 m.mem,.string nam,.string ai,.int .i64 m.a.iss,.int .i64 m.a.rat,.int .i64 m.a.mat,.string acur,.int .i64 m.b.id,.int .i64 m.b.ver,.string bcur,.int .i64 m.b.rat,.int .i64 m.b.least,.int .i64 m.b.most,.slice ca1 m.b.cuts.length cc1,.int .i64 m.b.iss,.int .i64 m.b.ass,.slice ba1 m.b.bar.length bc1,.slice pa1 m.ps.length pc1,.int .i64 m.day,.string txt,.int .i64 m.n,.int .i64 m.q.id,.int .i64 m.q.mem,.int .i64 m.q.side,.int .i64 m.q.bas,.int .i64 m.q.am,.int .i64 m.q.rate,.int .i64 m.q.st,.int .i64 m.q.en,.string oi,.int .i64 m.out.q,.slice ia1 m.ins.length ic1,.int .i64 m.tr,.bool m.done,.int .i64 m.rate] 35∧Bx wr (w.heap.size+1) #[.int .i64 m.k,.int .i64 m.mem,.string nam,.string ai,.int .i64 m.a.iss,.int .i64 m.a.rat,.int .i64 m.a.mat,.string acur,.int .i64 m.b.id,.int .i64 m.b.ver,.string bcur,.int .i64 m.b.rat,.int .i64 m.b.least,.int .i64 m.b.most,.slice ca2 m.b.cuts.length cc2,.int .i64 m.b.iss,.int .i64 m.b.ass,.slice ba2 m.b.bar.length bc2,.slice pa2 m.ps.length pc2,.int .i64 m.day,.string txt,.int .i64 m.n,.int .i64 m.q.id,.int .i64 m.q.mem,.int .i64 m.q.side,.int .i64 m.q.bas,.int .i64 m.q.am,.int .i64 m.q.rate,.int .i64 m.q.st,.int .i64 m.q.en,.string oi,.int .i64 m.out.q,.slice ia2 m.ins.length ic2,.int .i64 m.tr,.bool m.done,.int .i64 m.rate] 35)) (fun i _=>m.ps.length-(Lib.intOf i).toNat)
 case atStart=>exact ⟨0,rfl,Nat.zero_le _,HB3,HX3.out,HY3.out⟩
 case round=>
  clear HB3 HX3 HY3
  obtain ⟨k,rfl,hk,HBw,HK⟩:=hrel
  have k1:wr.cell? ⟨w.heap.size,18,none⟩=some (.slice pa1 m.ps.length pc1):=HK.out.1.cell 18
  have k2:wr.cell? ⟨w.heap.size+1,18,none⟩=some (.slice pa2 m.ps.length pc2):=HK.out.2.cell 18
  by_cases hkn:k<m.ps.length
  ·have hkz:(k:Int)<(m.ps.length:Int):=by omega
   obtain ⟨b1,off1,rfl,hbl1,hce1⟩:=HP1.out (by omega)
   obtain ⟨b2,off2,rfl,hbl2,hce2⟩:=HP2.out (by omega)
   have hc1:wr.cell? ⟨b1,off1+k*2,none⟩=some (.string ⟨m.ps[k].i.toArray⟩):=(HBw.out.cell (by exact hbl1)).trans (hce1 k hkn).1
   have hd1:wr.cell? ⟨b1,off1+k*2+1,none⟩=some (.int .i64 m.ps[k].q):=(HBw.out.cell (by exact hbl1)).trans (hce1 k hkn).2
   have hc2:wr.cell? ⟨b2,off2+k*2,none⟩=some (.string ⟨m.ps[k].i.toArray⟩):=(HBw.out.cell (by exact hbl2)).trans (hce2 k hkn).1
   have hd2:wr.cell? ⟨b2,off2+k*2+1,none⟩=some (.int .i64 m.ps[k].q):=(HBw.out.cell (by exact hbl2)).trans (hce2 k hkn).2
   generalize (⟨m.ps[k].i.toArray⟩:ByteArray)=n at *
   generalize m.ps[k].q=q at *
   clear hce1 hce2
   go_wp2_with fail
   go_quiet (fail)
   go_wp2_with fail
   exact ⟨⟨k+1,by go_num,by omega,zfy HBw.out _,HK⟩,by simp [Lib.intOf];omega⟩
  ·have hkz:¬ (k:Int)<(m.ps.length:Int):=by omega
   have z19:wr.cell? ⟨w.heap.size,19,none⟩=some (.int .i64 m.day):=HK.out.1.cell 19
   have z20:wr.cell? ⟨w.heap.size,20,none⟩=some (.string txt):=HK.out.1.cell 20
   have z21:wr.cell? ⟨w.heap.size,21,none⟩=some (.int .i64 m.n):=HK.out.1.cell 21
   have z22:wr.cell? ⟨w.heap.size,22,none⟩=some (.int .i64 m.q.id):=HK.out.1.cell 22
   have z23:wr.cell? ⟨w.heap.size,23,none⟩=some (.int .i64 m.q.mem):=HK.out.1.cell 23
   have z24:wr.cell? ⟨w.heap.size,24,none⟩=some (.int .i64 m.q.side):=HK.out.1.cell 24
   have z25:wr.cell? ⟨w.heap.size,25,none⟩=some (.int .i64 m.q.bas):=HK.out.1.cell 25
   have z26:wr.cell? ⟨w.heap.size,26,none⟩=some (.int .i64 m.q.am):=HK.out.1.cell 26
   have z27:wr.cell? ⟨w.heap.size,27,none⟩=some (.int .i64 m.q.rate):=HK.out.1.cell 27
   have z28:wr.cell? ⟨w.heap.size,28,none⟩=some (.int .i64 m.q.st):=HK.out.1.cell 28
   have z29:wr.cell? ⟨w.heap.size,29,none⟩=some (.int .i64 m.q.en):=HK.out.1.cell 29
   have z30:wr.cell? ⟨w.heap.size,30,none⟩=some (.string oi):=HK.out.1.cell 30
   have z31:wr.cell? ⟨w.heap.size,31,none⟩=some (.int .i64 m.out.q):=HK.out.1.cell 31
   have z32:wr.cell? ⟨w.heap.size,32,none⟩=some (.slice ia1 m.ins.length ic1):=HK.out.1.cell 32
   have z33:wr.cell? ⟨w.heap.size,33,none⟩=some (.int .i64 m.tr):=HK.out.1.cell 33
   have z34:wr.cell? ⟨w.heap.size,34,none⟩=some (.bool m.done):=HK.out.1.cell 34
   have z35:wr.cell? ⟨w.heap.size,35,none⟩=some (.int .i64 m.rate):=HK.out.1.cell 35
   have u19:wr.cell? ⟨w.heap.size+1,19,none⟩=some (.int .i64 m.day):=HK.out.2.cell 19
   have u20:wr.cell? ⟨w.heap.size+1,20,none⟩=some (.string txt):=HK.out.2.cell 20
   have u21:wr.cell? ⟨w.heap.size+1,21,none⟩=some (.int .i64 m.n):=HK.out.2.cell 21
   have u22:wr.cell? ⟨w.heap.size+1,22,none⟩=some (.int .i64 m.q.id):=HK.out.2.cell 22
   have u23:wr.cell? ⟨w.heap.size+1,23,none⟩=some (.int .i64 m.q.mem):=HK.out.2.cell 23
   have u24:wr.cell? ⟨w.heap.size+1,24,none⟩=some (.int .i64 m.q.side):=HK.out.2.cell 24
   have u25:wr.cell? ⟨w.heap.size+1,25,none⟩=some (.int .i64 m.q.bas):=HK.out.2.cell 25
   have u26:wr.cell? ⟨w.heap.size+1,26,none⟩=some (.int .i64 m.q.am):=HK.out.2.cell 26
   have u27:wr.cell? ⟨w.heap.size+1,27,none⟩=some (.int .i64 m.q.rate):=HK.out.2.cell 27
   have u28:wr.cell? ⟨w.heap.size+1,28,none⟩=some (.int .i64 m.q.st):=HK.out.2.cell 28
   have u29:wr.cell? ⟨w.heap.size+1,29,none⟩=some (.int .i64 m.q.en):=HK.out.2.cell 29
   have u30:wr.cell? ⟨w.heap.size+1,30,none⟩=some (.string oi):=HK.out.2.cell 30
   have u31:wr.cell? ⟨w.heap.size+1,31,none⟩=some (.int .i64 m.out.q):=HK.out.2.cell 31
   have u32:wr.cell? ⟨w.heap.size+1,32,none⟩=some (.slice ia2 m.ins.length ic2):=HK.out.2.cell 32
   have u33:wr.cell? ⟨w.heap.size+1,33,none⟩=some (.int .i64 m.tr):=HK.out.2.cell 33
   have u34:wr.cell? ⟨w.heap.size+1,34,none⟩=some (.bool m.done):=HK.out.2.cell 34
   have u35:wr.cell? ⟨w.heap.size+1,35,none⟩=some (.int .i64 m.rate):=HK.out.2.cell 35
   go_wp2_with fail
   refine (HL.out _ HBw.out).mono ?_
   rintro e w8 ⟨rfl,hb8⟩
   have HB8:Hid (Below w.heap.size w w8):=bt HBw.out hb8.out
   have v33:w8.cell? ⟨w.heap.size,33,none⟩=some (.int .i64 m.tr):=(HK.out.1.keep hb8.out).cell 33
   have v34:w8.cell? ⟨w.heap.size,34,none⟩=some (.bool m.done):=(HK.out.1.keep hb8.out).cell 34
   have v35:w8.cell? ⟨w.heap.size,35,none⟩=some (.int .i64 m.rate):=(HK.out.1.keep hb8.out).cell 35
   have t33:w8.cell? ⟨w.heap.size+1,33,none⟩=some (.int .i64 m.tr):=(HK.out.2.keep hb8.out).cell 33
   have t34:w8.cell? ⟨w.heap.size+1,34,none⟩=some (.bool m.done):=(HK.out.2.keep hb8.out).cell 34
   have t35:w8.cell? ⟨w.heap.size+1,35,none⟩=some (.int .i64 m.rate):=(HK.out.2.keep hb8.out).cell 35
   clear hb8
   go_wp2_with fail
   go_ret
   exact KP.mk rfl HB8.out
theorem zvk (x0:Int) (w:World):Calls Tryz.prog 160 #[.agg #[.int .i64 x0]] w (KP (.int .i64 5) w):=by
 have HB:Hid (∀o,Below w.heap.size w (w.alloc o)):=zab w
 go_enter Tryz.func160,Tryz.ntmps160
 go_wp2_with fail
 go_ret
 exact ⟨rfl,HB.out _⟩
theorem zn8 (x0:Int) (L:List UInt8) (w:World) (hc:Calls Tryz.prog 12 #[.iface 74 (.agg #[.int .i64 x0])] w (KP (.int .i64 0) w)) (hw:∀(w':World) (p:Nat) (v:Value) (l:List UInt8),Below w.heap.size w w'→Wm p w' p v l→w.heap.size≤p→l.length≤100→Calls Tryz.prog 162 #[.agg #[.int .i64 x0],.pointer (some ⟨p,0,none⟩)] w' (WP p p (l++L) w')):Calls Tryz.prog 18 #[.iface 74 (.agg #[.int .i64 x0])] w (KP (.tuple #[.string ⟨(zbj 5++L).toArray⟩,.int .i64 0]) w):=by
 have HC:Hid _:=hc
 have HWr:Hid (∀(w':World) (p:Nat) (v:Value) (l:List UInt8),Below w.heap.size w w'→Wm p w' p v l→w.heap.size≤p→l.length≤100→Calls Tryz.prog 162 #[.agg #[.int .i64 x0],.pointer (some ⟨p,0,none⟩)] w' (WP p p (l++L) w')):=hw
 have H10:Hid ((([]++zbj 5:List UInt8)).length≤100):=by unfold Hid;decide
 clear hc hw
 go_enter Tryz.func18,Tryz.ntmps18
 go_wp2_with fail
 refine Calls.mono HC.out ?_
 rintro e w2 ⟨rfl,hb⟩
 clear HC
 go_wp2_with fail
 have HW:Hid (Wm w2.heap.size (w2.alloc (.cells #[.slice none 0 0] 117)) w2.heap.size (.slice none 0 0) []):=Wm.new w2
 have HB:Hid (Below w.heap.size w (w2.alloc (.cells #[.slice none 0 0] 117))):=hb.out.alloc hb.out.size _
 have hwB:w.heap.size≤w2.heap.size:=hb.out.size
 clear hb
 generalize w2.alloc (.cells #[.slice none 0 0] 117)=w3 at *
 generalize w2.heap.size=p at *
 refine (ziq x0 _).mono ?_
 rintro e w4 ⟨rfl,hb4⟩
 have HW4:Hid (Wm p w4 p (.slice none 0 0) []):=HW.out.keep hb4.out
 have HB4:Hid (Below w.heap.size w w4):=bt HB.out hb4.out
 clear HW HB hb4
 go_wp2_with fail
 refine (zvk x0 _).mono ?_
 rintro e w5 ⟨rfl,hb5⟩
 have HW5:Hid (Wm p w5 p (.slice none 0 0) []):=HW4.out.keep hb5.out
 have HB5:Hid (Below w.heap.size w w5):=bt HB4.out hb5.out
 clear HW4 HB4 hb5
 go_wp2_with fail
 refine (zxk p p _ _ 5 ⟨by decide,by decide⟩ _ HW5.out (by decide)).mono ?_
 rintro e w6 ⟨rfl,v6,HW6,HB6⟩
 have HB7:Hid (Below w.heap.size w w6):=HB5.out.trans (HB6.out.1.mono hwB)
 clear HW5 HB5 HB6
 generalize hl0:([]++zbj 5:List UInt8)=l0 at *
 have HL:Hid (l0=zbj 5):=hl0.symm
 clear hl0
 go_wp2_with fail
 refine (HWr.out _ p v6 _ HB7.out HW6.out hwB H10.out).mono ?_
 rintro e w8 ⟨rfl,v8,HW8,HB8⟩
 have HB9:Hid (Below w.heap.size w w8):=HB7.out.trans (HB8.out.1.mono hwB)
 clear HWr HB7 HW6 HB8
 go_wp2_with fail
 refine (zqs p p v8 _ _ HW8.out).mono ?_
 rintro e wX ⟨rfl,rfl⟩
 clear HW8
 go_wp2_with fail
 go_ret2
 exact ⟨by rw [← HL.out];rfl,HB9⟩
theorem zj9 (q:Nat) (r r1:Rd) (a:Int) (h1:zah r=(r1,a)) (w:World) (hR:Rm w q r):Calls Tryz.prog 56 #[.agg #[.pointer (some ⟨q,0,none⟩)],.int .i64 5] w (MsP q r1 (fun _ v=>v=.iface 74 (.agg #[.int .i64 a])) w):=by
 have HR:Hid (Rm (w.alloc (.cells #[.pointer (some ⟨q,0,none⟩)] 133)) q r):=hR.keep (zab w _)
 have HB:Hid (Bt q w (w.alloc (.cells #[.pointer (some ⟨q,0,none⟩)] 133))):=Bt.of_below (zab w _)
 have HI:Hid (∀w,Rm w q r→Calls Tryz.prog 57 #[.pointer (some ⟨q,0,none⟩)] w (RP q (.int .i64 a) r1 w)):=fun w h=>by have:=zk4 q _ w h;rw [h1] at this;exact this
 clear h1 hR
 go_enter Tryz.func56,Tryz.ntmps56
 go_wp2_with fail
 refine (HI.out _ HR.out).mono ?_
 rintro e w2 ⟨rfl,HR2,HB2⟩
 have HB3:Hid (Bt q w w2):=HB.out.trans HB2.out
 clear HB HB2 HI HR
 go_wp2_with fail
 go_ret
 exact ⟨_,rfl,rfl,HR2,HB3⟩
theorem zvl:zah ⟨[10,14],0,0⟩=(⟨[10,14],1,0⟩,5):=by rfl
theorem zvm:zah ⟨[10,14],1,0⟩=(⟨[10,14],2,0⟩,7):=by rfl
theorem zvn:(zbg ⟨[10,14],2,0⟩).2=true:=by decide +kernel
theorem zn9 (w:World):Calls Tryz.prog 20 #[.string ⟨#[10,14]⟩] w (DcV 2 (fun _ _ v=>v=.iface 74 (.agg #[.int .i64 7])) w):=by
 refine zxu ⟨#[10,14]⟩ (by decide) w ⟨[10,14],1,0⟩ ⟨[10,14],2,0⟩ 5 (fun _ _ v=>v=.iface 74 (.agg #[.int .i64 7])) ⟨fun _ _ _ _ h _=>h,fun _ _ _ _ h=>h⟩ zvl ?_ ?_ zvn ?_
 ·intro q w' hq hR hb
  exact zj9 q _ _ 7 zvm w' hR
 ·intro q w v h
  exact ⟨_,_,h⟩
 ·intro q w v h
  subst h
  exact zmv 7 true (by decide) w
theorem zoa (w:World):Calls Tryz.prog 18 #[.iface 74 (.agg #[.int .i64 7])] w (KP (.tuple #[.string ⟨#[10,14]⟩,.int .i64 0]) w):=by
 have h:=zn8 7 (zbj 7) w (zmv 7 true (by decide) w) (fun w' p v l hb hW hp hl=>zsj p p v l 7 ⟨by decide,by decide⟩ w' hW (by omega))
 have e:(zbj 5++zbj 7).toArray=#[10,14]:=by decide
 rw [e] at h
 exact h
def mcs (m:Mg) (pa ia ca ba:Option Addr) (pc ic cc bc:Nat):Array Value:=#[.int .i64 m.k,.int .i64 m.mem,.string ⟨m.name.toArray⟩,.string ⟨m.a.i.toArray⟩,.int .i64 m.a.iss,.int .i64 m.a.rat,.int .i64 m.a.mat,.string ⟨m.a.cur.toArray⟩,.int .i64 m.b.id,.int .i64 m.b.ver,.string ⟨m.b.cur.toArray⟩,.int .i64 m.b.rat,.int .i64 m.b.least,.int .i64 m.b.most,.slice ca m.b.cuts.length cc,.int .i64 m.b.iss,.int .i64 m.b.ass,.slice ba m.b.bar.length bc,.slice pa m.ps.length pc,.int .i64 m.day,.string ⟨m.t.toArray⟩,.int .i64 m.n,.int .i64 m.q.id,.int .i64 m.q.mem,.int .i64 m.q.side,.int .i64 m.q.bas,.int .i64 m.q.am,.int .i64 m.q.rate,.int .i64 m.q.st,.int .i64 m.q.en,.string ⟨m.out.i.toArray⟩,.int .i64 m.out.q,.slice ia m.ins.length ic,.int .i64 m.tr,.bool m.done,.int .i64 m.rate]
theorem zac (m:Mg) (pa ia ca ba:Option Addr) (pc ic cc bc:Nat):(mcs m pa ia ca ba pc ic cc bc).size=36:=rfl
theorem zaj (m:Mg) (pa ia ca ba:Option Addr) (pc ic cc bc:Nat):(mcs m pa ia ca ba pc ic cc bc).all (·.oneCell')=true:=by simp [mcs,Value.oneCell']
theorem zb2:(Tryz.prog.info? 35).map (·.size)=some 36:=by kernel_rfl
theorem zaw (w:World) (g:Nat) (old M:Array Value) (hg:w.heap[g]? = some (.cells old 35 (0,0))) (ho:old.size=36) (hs:M.size=36) (h1:M.all (·.oneCell')=true):(Instr.storeAt 35 (.pointer (some ⟨g,0,none⟩)) (.agg M)).run Tryz.prog w=.ok () (w.setRow g M):=by
 have h:=run_storeVar_row (P:=Tryz.prog) w g 35 35 old M hg (by rw [hs];exact zb2) (by rw [ho,hs]) h1
 simp only [Instr.storeAt,Instr.sureAddr,asAddr,Sem.run_bind,Sem.run_pure,Result.andThen_ok]
 exact h
theorem zbb (w:World) (g:Nat) (M:Array Value) (hs:M.size=36) (hg:w.heap[g]? = some (.cells M 35 (0,0))):(loadVar 35 ⟨g,0,none⟩).run Tryz.prog w=.ok (.agg M) w:=
 run_loadVar_row w g 35 35 _ (0,0) _ hg Tryz.underlying35 rfl (by rw [hs];exact zb2)
theorem zam (w:World) (g:Nat) (M:Array Value) (hs:M.size=36) (hg:w.heap[g]? = some (.cells M 35 (0,0))):(Instr.loadAt 35 (.pointer (some ⟨g,0,none⟩))).run Tryz.prog w=.ok (.agg M) w:=by
 simp only [Instr.loadAt,Instr.sureAddr,asAddr,Sem.run_bind,Sem.run_pure,Result.andThen_ok]
 exact zbb w g M hs hg
theorem zad {B:Nat} {a w:World} {q:Nat} {cs:Array Value} (h:Below B a w) (hq:B≤q):Below B a (w.setRow q cs):=
 ⟨h.os,h.tape,h.output,by have:=h.size;simpa [World.setRow] using this,fun k hk=>(setRow_other w q k cs (by omega)).trans (h.block k hk)⟩
section
variable {P:Program} {ops:Array Oper} {rest:List Oper} {o:Oper} {a:Act} {Q:Exit→Act→World→Prop}
theorem zcc (w:World) (hgd:o.guard=none) (t:TypeId) (n0 n1:Nat) (x0 x1:Operand) (ho:o.op=.build t #[(n0,x0),(n1,x1)]) (v0 v1:Value) (h0:a.eval x0=v0) (h1:a.eval x1=v1) (v':Value) (hr:(Instr.build t #[(n0,v0),(n1,v1)]).run P w=.ok v' w) (h:wpList P ops Q rest (a.put o.dst v') w):wpList P ops Q (o::rest) a w:=
 wpList_plain hgd fun K hK=>by
  unfold Oper.wp execOp
  simp only [ho,List.map_toArray,List.map_cons,List.map_nil,h0,h1,Sem.run_bind,Sem.run_pure,Result.andThen_ok,hr]
  exact hK _ _ h
theorem zd6 (w:World) (hgd:o.guard=none) (t:TypeId) (n0 n1 n2:Nat) (x0 x1 x2:Operand) (ho:o.op=.build t #[(n0,x0),(n1,x1),(n2,x2)]) (v0 v1 v2:Value) (h0:a.eval x0=v0) (h1:a.eval x1=v1) (h2:a.eval x2=v2) (v':Value) (hr:(Instr.build t #[(n0,v0),(n1,v1),(n2,v2)]).run P w=.ok v' w) (h:wpList P ops Q rest (a.put o.dst v') w):wpList P ops Q (o::rest) a w:=
 wpList_plain hgd fun K hK=>by
  unfold Oper.wp execOp
  simp only [ho,List.map_toArray,List.map_cons,List.map_nil,h0,h1,h2,Sem.run_bind,Sem.run_pure,Result.andThen_ok,hr]
  exact hK _ _ h
theorem zcx (w:World) (hgd:o.guard=none) (t:TypeId) (n0 n1 n2 n3:Nat) (x0 x1 x2 x3:Operand) (ho:o.op=.build t #[(n0,x0),(n1,x1),(n2,x2),(n3,x3)]) (v0 v1 v2 v3:Value) (h0:a.eval x0=v0) (h1:a.eval x1=v1) (h2:a.eval x2=v2) (h3:a.eval x3=v3) (v':Value) (hr:(Instr.build t #[(n0,v0),(n1,v1),(n2,v2),(n3,v3)]).run P w=.ok v' w) (h:wpList P ops Q rest (a.put o.dst v') w):wpList P ops Q (o::rest) a w:=
 wpList_plain hgd fun K hK=>by
  unfold Oper.wp execOp
  simp only [ho,List.map_toArray,List.map_cons,List.map_nil,h0,h1,h2,h3,Sem.run_bind,Sem.run_pure,Result.andThen_ok,hr]
  exact hK _ _ h
theorem zis (w:World) (hgd:o.guard=none) (t:TypeId) (n0 n1 n2 n3 n4:Nat) (x0 x1 x2 x3 x4:Operand) (ho:o.op=.build t #[(n0,x0),(n1,x1),(n2,x2),(n3,x3),(n4,x4)]) (v0 v1 v2 v3 v4:Value) (h0:a.eval x0=v0) (h1:a.eval x1=v1) (h2:a.eval x2=v2) (h3:a.eval x3=v3) (h4:a.eval x4=v4) (v':Value) (hr:(Instr.build t #[(n0,v0),(n1,v1),(n2,v2),(n3,v3),(n4,v4)]).run P w=.ok v' w) (h:wpList P ops Q rest (a.put o.dst v') w):wpList P ops Q (o::rest) a w:=
 wpList_plain hgd fun K hK=>by
  unfold Oper.wp execOp
  simp only [ho,List.map_toArray,List.map_cons,List.map_nil,h0,h1,h2,h3,h4,Sem.run_bind,Sem.run_pure,Result.andThen_ok,hr]
  exact hK _ _ h
theorem zag (w:World) (hgd:o.guard=none) (t:TypeId) (x:Operand) (ho:o.op=.load t x) (vx:Value) (hx:a.eval x=vx) (v':Value) (hr:(Instr.loadAt t vx).run P w=.ok v' w) (h:wpList P ops Q rest (a.put o.dst v') w):wpList P ops Q (o::rest) a w:=
 wpList_plain hgd fun K hK=>by
  unfold Oper.wp execOp
  simp only [ho,hx,Sem.run_bind,Sem.run_pure,Result.andThen_ok,hr]
  exact hK _ _ h
theorem zaf (w w':World) (hgd:o.guard=none) (t:TypeId) (x y:Operand) (ho:o.op=.store t x y) (vx vy:Value) (hx:a.eval x=vx) (hy:a.eval y=vy) (hr:(Instr.storeAt t vx vy).run P w=.ok () w') (h:wpList P ops Q rest (a.put o.dst undef) w'):wpList P ops Q (o::rest) a w:=
 wpList_plain hgd fun K hK=>by
  unfold Oper.wp execOp
  simp only [ho,hx,hy,Sem.run_bind,Sem.run_pure,Result.andThen_ok,hr]
  exact hK _ _ h
end
theorem zaz {P:Program} (fn:Func) (tmps:Array Value) (a t:Nat) (ad:Addr) (v:Value) (w:World) (hf:fn.results=#[.cell a t]) (ht:tmps.getD a undef=.pointer (some ad)) (hl:(loadVar t ad).run P w=.ok v w):(results fn tmps).run P w=.ok v w:=by
 have ht2:tmps[a]?.getD undef=.pointer (some ad):=by simpa using ht
 simp [results,hf,ht2,asAddr,hl]
theorem zsl (d:Int) (w:World):(Instr.build 35 #[(0,.int .i64 5),(6,.int .i64 d)]).run Tryz.prog w=.ok (.agg (mcs { Mg.z with k:=5,day:=d } none none none none 0 0 0 0)) w:=by kernel_rfl
theorem zvo (d:Int) (w:World):Calls Tryz.prog 23 #[.iface 74 (.agg #[.int .i64 d])] w (KP (.agg (mcs { Mg.z with k:=5,day:=d } none none none none 0 0 0 0)) w):=by
 have t1:=znu
 have t2:=znv
 have t3:=znw
 have t4:=znx
 have t5:=ty5
 have HBu:Hid (∀w,(Instr.build 35 #[(0,.int .i64 5),(6,.int .i64 d)]).run Tryz.prog w=.ok (.agg (mcs { Mg.z with k:=5,day:=d } none none none none 0 0 0 0)) w):=fun w=>zsl d w
 have HM1:Hid ((mcs { Mg.z with k:=5,day:=d } none none none none 0 0 0 0).size=36):=zac _ _ _ _ _ _ _ _ _
 have HM2:Hid ((mcs { Mg.z with k:=5,day:=d } none none none none 0 0 0 0).all (·.oneCell')=true):=zaj _ _ _ _ _ _ _ _ _
 generalize mcs { Mg.z with k:=5,day:=d } none none none none 0 0 0 0=M at *
 have HB:Hid (Below w.heap.size w ((w.alloc (.cells #[.int .i64 0,.int .i64 0,.string ⟨#[]⟩,.string ⟨#[]⟩,.int .i64 0,.int .i64 0,.int .i64 0,.string ⟨#[]⟩,.int .i64 0,.int .i64 0,.string ⟨#[]⟩,.int .i64 0,.int .i64 0,.int .i64 0,.slice none 0 0,.int .i64 0,.int .i64 0,.slice none 0 0,.slice none 0 0,.int .i64 0,.string ⟨#[]⟩,.int .i64 0,.int .i64 0,.int .i64 0,.int .i64 0,.int .i64 0,.int .i64 0,.int .i64 0,.int .i64 0,.int .i64 0,.string ⟨#[]⟩,.int .i64 0,.slice none 0 0,.int .i64 0,.bool false,.int .i64 0] 35)).alloc (.cells #[.int .i64 d] 74))):=bt (zab w _) (zab _ _)
 have HX:Hid (Bx ((w.alloc (.cells #[.int .i64 0,.int .i64 0,.string ⟨#[]⟩,.string ⟨#[]⟩,.int .i64 0,.int .i64 0,.int .i64 0,.string ⟨#[]⟩,.int .i64 0,.int .i64 0,.string ⟨#[]⟩,.int .i64 0,.int .i64 0,.int .i64 0,.slice none 0 0,.int .i64 0,.int .i64 0,.slice none 0 0,.slice none 0 0,.int .i64 0,.string ⟨#[]⟩,.int .i64 0,.int .i64 0,.int .i64 0,.int .i64 0,.int .i64 0,.int .i64 0,.int .i64 0,.int .i64 0,.int .i64 0,.string ⟨#[]⟩,.int .i64 0,.slice none 0 0,.int .i64 0,.bool false,.int .i64 0] 35)).alloc (.cells #[.int .i64 d] 74)) w.heap.size #[.int .i64 0,.int .i64 0,.string ⟨#[]⟩,.string ⟨#[]⟩,.int .i64 0,.int .i64 0,.int .i64 0,.string ⟨#[]⟩,.int .i64 0,.int .i64 0,.string ⟨#[]⟩,.int .i64 0,.int .i64 0,.int .i64 0,.slice none 0 0,.int .i64 0,.int .i64 0,.slice none 0 0,.slice none 0 0,.int .i64 0,.string ⟨#[]⟩,.int .i64 0,.int .i64 0,.int .i64 0,.int .i64 0,.int .i64 0,.int .i64 0,.int .i64 0,.int .i64 0,.int .i64 0,.string ⟨#[]⟩,.int .i64 0,.slice none 0 0,.int .i64 0,.bool false,.int .i64 0] 35):=(Bx.new w _ _).keep (zab _ _)
 go_enter Tryz.func23,Tryz.ntmps23
 go_upto_region 16 with fail
 have c0:((w.alloc (.cells #[.int .i64 0,.int .i64 0,.string ⟨#[]⟩,.string ⟨#[]⟩,.int .i64 0,.int .i64 0,.int .i64 0,.string ⟨#[]⟩,.int .i64 0,.int .i64 0,.string ⟨#[]⟩,.int .i64 0,.int .i64 0,.int .i64 0,.slice none 0 0,.int .i64 0,.int .i64 0,.slice none 0 0,.slice none 0 0,.int .i64 0,.string ⟨#[]⟩,.int .i64 0,.int .i64 0,.int .i64 0,.int .i64 0,.int .i64 0,.int .i64 0,.int .i64 0,.int .i64 0,.int .i64 0,.string ⟨#[]⟩,.int .i64 0,.slice none 0 0,.int .i64 0,.bool false,.int .i64 0] 35)).alloc (.cells #[.int .i64 d] 74)).cell? ⟨w.heap.size+1,0,none⟩=some (.int .i64 d):=by simp
 generalize ((w.alloc (.cells #[.int .i64 0,.int .i64 0,.string ⟨#[]⟩,.string ⟨#[]⟩,.int .i64 0,.int .i64 0,.int .i64 0,.string ⟨#[]⟩,.int .i64 0,.int .i64 0,.string ⟨#[]⟩,.int .i64 0,.int .i64 0,.int .i64 0,.slice none 0 0,.int .i64 0,.int .i64 0,.slice none 0 0,.slice none 0 0,.int .i64 0,.string ⟨#[]⟩,.int .i64 0,.int .i64 0,.int .i64 0,.int .i64 0,.int .i64 0,.int .i64 0,.int .i64 0,.int .i64 0,.int .i64 0,.string ⟨#[]⟩,.int .i64 0,.slice none 0 0,.int .i64 0,.bool false,.int .i64 0] 35)).alloc (.cells #[.int .i64 d] 74))=w2 at *
 have HST:Hid ((Instr.storeAt 35 (.pointer (some ⟨w.heap.size,0,none⟩)) (.agg M)).run Tryz.prog w2=.ok () (w2.setRow w.heap.size M)):=zaw w2 w.heap.size _ M HX.out rfl HM1.out HM2.out
 have hld:=zbb (w2.setRow w.heap.size M) w.heap.size M HM1.out (setRow_heap w2 w.heap.size _ _ 35 (0,0) HX.out)
 have HB2:Hid (Below w.heap.size w (w2.setRow w.heap.size M)):=zad HB.out (Nat.le_refl _)
 go_wp2_with (first | (guard_target =~ wpList _ _ _ (⟨_,Op.build _ _,_,_,_,_⟩::_) _ _;refine zcc _ rfl 35 _ _ _ _ rfl _ _ rfl rfl _ (HBu.out _) ?_;go_simp) | (guard_target =~ wpList _ _ _ (⟨_,Op.store _ _ _,_,_,_,_⟩::_) _ _;refine zaf _ _ rfl 35 _ _ rfl _ _ rfl rfl HST.out ?_;go_simp))
 refine bodyPost_ret (zaz _ _ 2 35 _ _ _ rfl rfl hld) rfl ?_
 exact ⟨rfl,HB2⟩
theorem zvp (w:World):Calls Tryz.prog 22 #[.agg (mcs { Mg.z with k:=5,day:=7 } none none none none 0 0 0 0),.agg #[.int .i64 5,.int .i64 0,.string ⟨#[]⟩,.string ⟨#[]⟩,.int .i64 0,.int .i64 0,.int .i64 0,.string ⟨#[]⟩,.int .i64 0,.int .i64 0,.string ⟨#[]⟩,.int .i64 0,.int .i64 0,.int .i64 0,.slice none 0 0,.int .i64 0,.int .i64 0,.slice none 0 0,.slice none 0 0,.int .i64 7,.string ⟨#[]⟩,.int .i64 0,.int .i64 0,.int .i64 0,.int .i64 0,.int .i64 0,.int .i64 0,.int .i64 0,.int .i64 0,.int .i64 0,.string ⟨#[]⟩,.int .i64 0,.slice none 0 0,.int .i64 0,.bool false,.int .i64 0]] w (KP (.bool true) w):=
 zsk { Mg.z with k:=5,day:=7 } none none none none none none none none 0 0 0 0 0 0 0 0 w (fun h=>absurd h (by decide)) (fun h=>absurd h (by decide)) (fun h=>absurd h (by decide)) (fun h=>absurd h (by decide)) (fun h=>absurd h (by decide)) (fun h=>absurd h (by decide)) (fun h=>absurd h (by decide)) (fun h=>absurd h (by decide)) (by decide) (by decide) (by decide) (by decide)
theorem zob (w:World):Calls Tryz.prog 10 #[] w (KP (.bool true) w):=by
 have HS:Hid (∀w,Calls Tryz.prog 22 #[.agg (mcs { Mg.z with k:=5,day:=7 } none none none none 0 0 0 0),.agg #[.int .i64 5,.int .i64 0,.string ⟨#[]⟩,.string ⟨#[]⟩,.int .i64 0,.int .i64 0,.int .i64 0,.string ⟨#[]⟩,.int .i64 0,.int .i64 0,.string ⟨#[]⟩,.int .i64 0,.int .i64 0,.int .i64 0,.slice none 0 0,.int .i64 0,.int .i64 0,.slice none 0 0,.slice none 0 0,.int .i64 7,.string ⟨#[]⟩,.int .i64 0,.int .i64 0,.int .i64 0,.int .i64 0,.int .i64 0,.int .i64 0,.int .i64 0,.int .i64 0,.int .i64 0,.string ⟨#[]⟩,.int .i64 0,.slice none 0 0,.int .i64 0,.bool false,.int .i64 0]] w (KP (.bool true) w)):=zvp
 have HT:Hid (∀w,Calls Tryz.prog 23 #[.iface 74 (.agg #[.int .i64 7])] w (KP (.agg (mcs { Mg.z with k:=5,day:=7 } none none none none 0 0 0 0)) w)):=fun w=>zvo 7 w
 generalize mcs { Mg.z with k:=5,day:=7 } none none none none 0 0 0 0=M at *
 go_enter Tryz.func10,Tryz.ntmps10
 go_wp2_with fail
 refine (zoa _).mono ?_
 rintro e w2 ⟨rfl,hb2⟩
 go_wp2_with fail
 refine (zn9 _).mono ?_
 rintro e w3 ⟨v,q,rfl,hq,HV,hb3⟩
 have hv:=HV.out
 subst hv
 have HB3:Hid (Below w.heap.size w w3):=bt hb2.out hb3.out
 clear hb2 hb3 HV hq
 go_wp2_with fail
 refine (HT.out _).mono ?_
 rintro e w4 ⟨rfl,hb4⟩
 have HB4:Hid (Below w.heap.size w w4):=bt HB3.out hb4.out
 clear hb4 HB3
 go_wp2_with fail
 refine (HS.out _).mono ?_
 rintro e w5 ⟨rfl,hb5⟩
 have HB5:Hid (Below w.heap.size w w5):=bt HB4.out hb5.out
 clear hb5 HB4
 go_wp2_with fail
 go_ret
 exact KP.mk rfl HB5.out
theorem zdf (n a b:Int) (g:Bool) (h:inn n a b=g) (w:World):Calls Tryz.prog 39 #[.int .i64 n,.int .i64 a,.int .i64 b] w fun e w'=>e=.returned (.bool g)∧w'=w:=(zay n a b g h w).mono fun _ _ ⟨he,hw⟩=>⟨he,hw.symm⟩
def ahI (xs:List Lt) (k:Nat):Option (List UInt8):=(ah xs k).map Lt.i
theorem zit {xs:List Lt} {k:Nat} (h:k<xs.length):zeg C0 (ahI xs k) (xs.drop k)=if C0.is xs[k].i≠0 then C0.is xs[k].i else if !(inn xs[k].q 1 4294967296&&zm5 C0 (ahI xs k) xs[k].i) then 31 else zeg C0 (ahI xs (k+1)) (xs.drop (k+1)):=by
 rw [zdx h]
 have e:ahI xs (k+1)=some xs[k].i:=by
  show (xs[k]?).map Lt.i=_
  rw [List.getElem?_eq_getElem h];rfl
 rw [e]
 rfl
theorem zmw {xs:List Lt} (h:inn (xs.length:Int) 1 64=true):prE C0 xs=zeg C0 (ahI xs 0) (xs.drop 0):=by
 unfold inn at h
 rw [Bool.and_eq_true,decide_eq_true_iff,decide_eq_true_iff] at h
 unfold prE
 rw [if_neg (by omega)]
 rfl
theorem ziu {xs:List Lt} (h:inn (xs.length:Int) 1 64=false):prE C0 xs=2:=by
 unfold inn at h
 rw [Bool.and_eq_false_iff,decide_eq_false_iff_not,decide_eq_false_iff_not] at h
 unfold prE
 rw [if_pos (by omega)]
theorem zsm (a b:List UInt8):C0.le a b=(Op.bytesLess (⟨a.toArray⟩:ByteArray).toList (⟨b.toArray⟩:ByteArray).toList||((⟨a.toArray⟩:ByteArray).toList==(⟨b.toArray⟩:ByteArray).toList)):=by
 rw [toL,toL];rfl
theorem zsn (m:Mg) (pa ia ca ba:Option Addr) (pc ic cc bc:Nat) (w:World) (hL:Lts w.heap.size w pa m.ps) (hi:∀y ∈ m.ps,y.i.length≤9223372036854775807) (hl:m.ps.length≤9223372036854775807) (g:Nat) (hg:prE C0 m.ps=g):Calls Tryz.prog 183 #[.agg #[.slice pa m.ps.length pc]] w (KP (.int .i64 g) w):=by
  have HB:Hid (Below w.heap.size w (w.alloc (.cells #[.slice pa m.ps.length pc] 82))):=zab w _
  have HX:Hid ((w.alloc (.cells #[.slice pa m.ps.length pc] 82)).cell? ⟨w.heap.size,0,none⟩=some (.slice pa m.ps.length pc)):=(Bx.new w _ _).cell 0
  have HI:Hid (Lts w.heap.size w pa m.ps):=hL
  have HS:Hid (∀y ∈ m.ps,y.i.length≤9223372036854775807):=hi
  clear hL hi
  by_cases e1:inn (m.ps.length:Int) 1 64=true
  · have HG : Hid (zeg C0 (ahI m.ps 0) (m.ps.drop 0) = g) := by unfold Hid; rw [← zmw e1]; exact hg
    clear hg
    go_enter Tryz.func183,Tryz.ntmps183
    go_wp2_with (go_at_call 39;refine (zay _ _ _ _ e1 _).mono ?_;rintro e w2 ⟨rfl,rfl⟩)
    generalize (w.alloc (.cells #[.slice pa m.ps.length pc] 82))=w1 at *
    go_loopw [14] (fun i wr=>∃(k:Nat),i=.int .i64 k∧k≤m.ps.length∧Hid (zeg C0 (ahI m.ps k) (m.ps.drop k)=g)∧Hid (Below w.heap.size w wr)∧Hid (wr.cell? ⟨w.heap.size,0,none⟩=some (.slice pa m.ps.length pc)∧w.heap.size<wr.heap.size)) (fun i _=>m.ps.length-(Lib.intOf i).toNat)
    case atStart=>exact ⟨0,rfl,Nat.zero_le _,HG,HB,HX.out,World.block_lt_of_cell? w1 _ HX.out⟩
    case round=>
      clear HG HB HX
      obtain ⟨k,rfl,hk,HK,HBw,HXw⟩:=hrel
      by_cases hkn:k<m.ps.length
      · have hkz : (k : Int) < (m.ps.length : Int) := by omega
        obtain ⟨b,off,rfl,hbl,hce⟩:=HI.out (by omega)
        have hc1:wr.cell? ⟨b,off+k*2,none⟩=some (.string ⟨m.ps[k].i.toArray⟩):=(HBw.out.cell (by exact hbl)).trans (hce k hkn).1
        have hc2:wr.cell? ⟨b,off+k*2+1,none⟩=some (.int .i64 m.ps[k].q):=(HBw.out.cell (by exact hbl)).trans (hce k hkn).2
        have HC:Hid (∀w,Calls Tryz.prog 151 #[.string ⟨m.ps[k].i.toArray⟩] w (NP .i64 (C0.is m.ps[k].i:Nat) w)):=fun w=>zns m.ps[k].i (HS.out _ (List.getElem_mem hkn)) _ rfl w
        have HK2:Hid ((if C0.is m.ps[k].i≠0 then C0.is m.ps[k].i else if !(inn m.ps[k].q 1 4294967296&&zm5 C0 (ahI m.ps k) m.ps[k].i) then 31 else zeg C0 (ahI m.ps (k+1)) (m.ps.drop (k+1)))=g):=by unfold Hid;rw [← zit hkn];exact HK.out
        have HA:Hid (∀o,Below w.heap.size w (wr.alloc o)∧(wr.alloc o).cell? ⟨w.heap.size,0,none⟩=some (.slice (some ⟨b,off,none⟩) m.ps.length pc)∧w.heap.size<(wr.alloc o).heap.size):=fun o=>by
          have h1:=(zab wr o).cell (p:=⟨w.heap.size,0,none⟩) HXw.out.2
          exact ⟨HBw.out.alloc HBw.out.size _,h1.trans HXw.out.1,Nat.lt_of_lt_of_le HXw.out.2 (zab wr o).size⟩
        have HD:Hid (∀o n,Below w.heap.size w ((wr.alloc o).drewN n)∧((wr.alloc o).drewN n).cell? ⟨w.heap.size,0,none⟩=some (.slice (some ⟨b,off,none⟩) m.ps.length pc)∧w.heap.size<((wr.alloc o).drewN n).heap.size):=fun o n=>⟨zef (HA.out o).1 n,(HA.out o).2⟩
        clear HK
        by_cases e2:C0.is m.ps[k].i=0
        · have HK3 : Hid ((if !(inn m.ps[k].q 1 4294967296 && zm5 C0 (ahI m.ps k) m.ps[k].i) then 31 else zeg C0 (ahI m.ps (k + 1)) (m.ps.drop (k + 1))) = g) := by have := HK2.out; rw [if_neg (by simpa using e2)] at this; exact this
          clear HK2
          rw [e2] at HC
          clear e2
          by_cases e3:inn m.ps[k].q 1 4294967296=true
          · cases k with
            | zero =>
              have HK4:Hid (zeg C0 (ahI m.ps 1) (m.ps.drop 1)=g):=by have:=HK3.out;rw [e3] at this;exact this
              have hd1:wr.cell? ⟨b,off,none⟩=some (.string ⟨m.ps[0].i.toArray⟩):=by have:=hc1;simpa using this
              have hd2:wr.cell? ⟨b,off+1,none⟩=some (.int .i64 m.ps[0].q):=by have:=hc2;simpa using this
              clear HK3 hce
              generalize (⟨m.ps[0].i.toArray⟩:ByteArray)=X at *
              generalize m.ps[0].q=q at *
              go_wp2_with (go_at_call 151;refine (HC.out _).mono ?_;rintro e w2 ⟨rfl,rfl⟩)
              go_quiet ((go_at_call 39;refine Calls.quiet_of_same (zdf _ _ _ _ e3 _)))
              go_wp2_with fail
              exact ⟨⟨1,by go_num,by omega,HK4,(HD.out _ _).1,(HD.out _ _).2⟩,by simp [Lib.intOf];omega⟩
            | succ j =>
              have hcp:∀o,(wr.alloc o).cell? ⟨b,off+j*2,none⟩=some (.string ⟨m.ps[j].i.toArray⟩):=fun o=>((HA.out o).1.cell (by exact hbl)).trans (hce j (by omega)).1
              have hp:ahI m.ps (j+1)=some m.ps[j].i:=by show (m.ps[j]?).map Lt.i=_;rw [List.getElem?_eq_getElem];rfl
              have HK4:Hid ((if !(!C0.le m.ps[j+1].i m.ps[j].i) then 31 else zeg C0 (ahI m.ps (j+1+1)) (m.ps.drop (j+1+1)))=g):=by have:=HK3.out;rw [e3,hp] at this;exact this
              rw [zsm] at HK4
              have hcx:=fun o=>(HA.out o).2.1
              clear HK3 hce hp
              generalize (⟨m.ps[j+1].i.toArray⟩:ByteArray)=X at *
              generalize (⟨m.ps[j].i.toArray⟩:ByteArray)=Y at *
              generalize m.ps[j+1].q=q at *
              generalize hb1:Op.bytesLess X.toList Y.toList=b1 at *
              generalize hb2:(X.toList==Y.toList)=b2 at *
              cases b1 with
              | true =>
                have HK5:Hid (31=g):=HK4.out
                clear HK4
                go_wp2_with (go_at_call 151;refine (HC.out _).mono ?_;rintro e w2 ⟨rfl,rfl⟩)
                go_quiet ((go_at_call 39;refine Calls.quiet_of_same (zdf _ _ _ _ e3 _)))
                go_wp2_with fail
                go_ret
                exact KP.mk (by rw [← HK5.out];rfl) (HD.out _ _).1
              | false =>
                cases b2 with
                | true =>
                  have HK5:Hid (31=g):=HK4.out
                  clear HK4
                  go_wp2_with (go_at_call 151;refine (HC.out _).mono ?_;rintro e w2 ⟨rfl,rfl⟩)
                  go_quiet ((go_at_call 39;refine Calls.quiet_of_same (zdf _ _ _ _ e3 _)))
                  go_wp2_with fail
                  go_ret
                  exact KP.mk (by rw [← HK5.out];rfl) (HD.out _ _).1
                | false =>
                  have HK5:Hid (zeg C0 (ahI m.ps (j+1+1)) (m.ps.drop (j+1+1))=g):=HK4.out
                  clear HK4
                  go_wp2_with (go_at_call 151;refine (HC.out _).mono ?_;rintro e w2 ⟨rfl,rfl⟩)
                  go_quiet ((go_at_call 39;refine Calls.quiet_of_same (zdf _ _ _ _ e3 _)))
                  go_wp2_with fail
                  exact ⟨⟨j+1+1,by go_num,by omega,HK5,(HD.out _ _).1,(HD.out _ _).2⟩,by simp [Lib.intOf];omega⟩
          · have e3 : inn m.ps[k].q 1 4294967296 = false := by simpa using e3
            have HK4:Hid (31=g):=by have:=HK3.out;rw [e3] at this;exact this
            clear HK3 hce
            generalize (⟨m.ps[k].i.toArray⟩:ByteArray)=X at *
            generalize m.ps[k].q=q at *
            go_wp2_with (go_at_call 151;refine (HC.out _).mono ?_;rintro e w2 ⟨rfl,rfl⟩)
            go_quiet ((go_at_call 39;refine Calls.quiet_of_same (zdf _ _ _ _ e3 _)))
            go_wp2_with fail
            go_ret
            exact KP.mk (by rw [← HK4.out];rfl) (HD.out _ _).1
        · have HK3 : Hid (C0.is m.ps[k].i = g) := by have := HK2.out; rw [if_pos e2] at this; exact this
          have z2:((C0.is m.ps[k].i:Int) != 0)=true:=by rw [bne_iff_ne];omega
          clear HK2 hce e2
          generalize C0.is m.ps[k].i=ce at *
          generalize (⟨m.ps[k].i.toArray⟩:ByteArray)=X at *
          generalize m.ps[k].q=q at *
          go_wp2_with (go_at_call 151;refine (HC.out _).mono ?_;rintro e w2 ⟨rfl,rfl⟩)
          go_ret
          exact KP.mk (by rw [← HK3.out];rfl) (HA.out _).1
      · have hkz : ¬ (k : Int) < (m.ps.length : Int) := by omega
        have HK3:Hid (0=g):=by have:=HK.out;rw [List.drop_of_length_le (by omega)] at this;exact this
        clear HK
        go_wp2_with fail
        go_ret
        exact KP.mk (by rw [← HK3.out];rfl) HBw.out
  · have e1 : inn (m.ps.length : Int) 1 64 = false := by simpa using e1
    have HG2:Hid (2=g):=by unfold Hid;rw [← hg,ziu e1]
    clear hg
    go_enter Tryz.func183,Tryz.ntmps183
    go_wp2_with (go_at_call 39;refine (zay _ _ _ _ e1 _).mono ?_;rintro e w2 ⟨rfl,rfl⟩)
    go_ret
    exact KP.mk (by rw [← HG2.out];rfl) HB.out
end Go.Proofs.YtdmlgheajblcdaaGreat
