/- Assets: upTo, the program's Asset and the reference's. Condition: the number's text has at most 2 to the 47th bytes. -/
import Derived.Test.YtdmlgheajblcdaaGreatD03
namespace Go.Proofs.YtdmlgheajblcdaaGreat.N5
set_option maxHeartbeats 16000000
set_option maxRecDepth 100000
open Go.RowKit
set_option linter.unusedVariables false
set_option linter.unusedSimpArgs false
abbrev In (m n:Int):Prop:=0≤n∧n≤m
theorem xup (m n:Int) (w:World):Calls Tryz.prog 177 #[.int .i64 m,.int .i64 n] w (BP (In m n) w):=by
 go_enter Tryz.func177,Tryz.ntmps177
 go_wp2_with go_in
 all_goals go_ret
 all_goals first | exact BP.t (by omega) | exact BP.f (by omega) | (refine BP.b ?_;simp only [Bool.and_eq_true,Bool.or_eq_true,decide_eq_true_eq,bne_iff_ne,ne_eq,beq_iff_eq];omega)
def astE (e:Nat) (p:Prop) [Decidable p] (i r m:Int):Nat:=
 if e≠0 then e else if ¬ p then 11 else if ¬ (In 9999 i∧In 20 r) then 1 else if ¬ In 200000 m then 10 else 0
theorem zfl (w:World) (o:Obj):Below w.heap.size w (w.alloc o):=(Below.refl _ w).alloc (Nat.le_refl _) _
theorem xAsset (s c:ByteArray) (i r m:Int) (hs:s.size≤9223372036854775807) (w:World):Calls Tryz.prog 176 #[.agg #[.string s,.int .i64 i,.int .i64 r,.int .i64 m,.string c]] w (NB (astE (chk s.data.toList) (Cur c.toList) i r m) w):=by
 have HC:Hid (∀w,Calls Tryz.prog 151 #[.string s] w (NP .i64 (chk s.data.toList) w)):=fun w=>xCheck s hs w
 have HB:=zfl w (.cells #[.string s,.int .i64 i,.int .i64 r,.int .i64 m,.string c] 23)
 have HBB:Hid _:=HB
 clear HB
 generalize chk s.data.toList=e at *
 by_cases he:e=0
 ·subst he
  by_cases hp:Cur c.toList
  ·have HP:Hid (Cur c.toList):=hp
   by_cases hi:In 9999 i
   ·have HI:Hid (In 9999 i):=hi
    by_cases hr:In 20 r
    ·have HR:Hid (In 20 r):=hr
     by_cases hm:In 200000 m
     ·have HM:Hid (In 200000 m):=hm
      have HE:Hid (astE 0 (Cur c.toList) i r m=0):=by unfold Hid astE;rw [if_neg (by omega),if_neg (not_not_intro hp),if_neg (not_not_intro ⟨hi,hr⟩),if_neg (not_not_intro hm)]
      clear hp hi hr hm
      go_enter Tryz.func176,Tryz.ntmps176
      go_wp2_with (first | (go_at_call 151;refine (HC.out _).mono ?_;rintro e w1 ⟨rfl,rfl⟩) | (go_at_call 42;refine (calls_t (xCur c _) HP.out).mono ?_;rintro e w1 ⟨rfl,rfl⟩) | (go_at_call 177;refine (calls_t (xup _ _ _) (by first | exact HI.out | exact HR.out | exact HM.out)).mono ?_;rintro e w1 ⟨rfl,rfl⟩))
      go_ret
      exact NB.mk (by rw [HE.out];rfl) HBB.out
     ·have HM:Hid (¬ In 200000 m):=hm
      have HE:Hid (astE 0 (Cur c.toList) i r m=10):=by unfold Hid astE;rw [if_neg (by omega),if_neg (not_not_intro hp),if_neg (not_not_intro ⟨hi,hr⟩),if_pos hm]
      clear hp hi hr hm
      go_enter Tryz.func176,Tryz.ntmps176
      go_wp2_with (first | (go_at_call 151;refine (HC.out _).mono ?_;rintro e w1 ⟨rfl,rfl⟩) | (go_at_call 42;refine (calls_t (xCur c _) HP.out).mono ?_;rintro e w1 ⟨rfl,rfl⟩) | (go_at_call 177;refine (calls_t (xup _ _ _) (by first | exact HI.out | exact HR.out)).mono ?_;rintro e w1 ⟨rfl,rfl⟩) | (go_at_call 177;refine (calls_f (xup _ _ _) HM.out).mono ?_;rintro e w1 ⟨rfl,rfl⟩))
      go_ret
      exact NB.mk (by rw [HE.out];rfl) HBB.out
    ·have HR:Hid (¬ In 20 r):=hr
     have HE:Hid (astE 0 (Cur c.toList) i r m=1):=by unfold Hid astE;rw [if_neg (by omega),if_neg (not_not_intro hp),if_pos (fun h=>hr h.2)]
     clear hp hi hr
     go_enter Tryz.func176,Tryz.ntmps176
     go_wp2_with (first | (go_at_call 151;refine (HC.out _).mono ?_;rintro e w1 ⟨rfl,rfl⟩) | (go_at_call 42;refine (calls_t (xCur c _) HP.out).mono ?_;rintro e w1 ⟨rfl,rfl⟩) | (go_at_call 177;refine (calls_t (xup _ _ _) (by exact HI.out)).mono ?_;rintro e w1 ⟨rfl,rfl⟩) | (go_at_call 177;refine (calls_f (xup _ _ _) HR.out).mono ?_;rintro e w1 ⟨rfl,rfl⟩))
     go_ret
     exact NB.mk (by rw [HE.out];rfl) HBB.out
   ·have HI:Hid (¬ In 9999 i):=hi
    have HE:Hid (astE 0 (Cur c.toList) i r m=1):=by unfold Hid astE;rw [if_neg (by omega),if_neg (not_not_intro hp),if_pos (fun h=>hi h.1)]
    clear hp hi
    go_enter Tryz.func176,Tryz.ntmps176
    go_wp2_with (first | (go_at_call 151;refine (HC.out _).mono ?_;rintro e w1 ⟨rfl,rfl⟩) | (go_at_call 42;refine (calls_t (xCur c _) HP.out).mono ?_;rintro e w1 ⟨rfl,rfl⟩) | (go_at_call 177;refine (calls_f (xup _ _ _) HI.out).mono ?_;rintro e w1 ⟨rfl,rfl⟩))
    go_ret
    exact NB.mk (by rw [HE.out];rfl) HBB.out
  ·have HP:Hid (¬ Cur c.toList):=hp
   have HE:Hid (astE 0 (Cur c.toList) i r m=11):=by unfold Hid astE;rw [if_neg (by omega),if_pos hp]
   clear hp
   go_enter Tryz.func176,Tryz.ntmps176
   go_wp2_with (first | (go_at_call 151;refine (HC.out _).mono ?_;rintro e w1 ⟨rfl,rfl⟩) | (go_at_call 42;refine (calls_f (xCur c _) HP.out).mono ?_;rintro e w1 ⟨rfl,rfl⟩))
   go_ret
   exact NB.mk (by rw [HE.out];rfl) HBB.out
 ·have HE:Hid (astE e (Cur c.toList) i r m=e):=by unfold Hid astE;rw [if_pos he]
  have hne:(((e:Nat):Int) != 0)=true:=by rw [bne_iff_ne];omega
  clear he
  go_enter Tryz.func176,Tryz.ntmps176
  go_wp2_with (go_at_call 151;refine (HC.out _).mono ?_;rintro e w1 ⟨rfl,rfl⟩)
  go_ret
  exact NB.mk (by rw [HE.out]) HBB.out
def Bx (w:World) (g:Nat) (s c:ByteArray) (i r m:Int):Prop:=w.heap[g]? = some (.cells #[.string s,.int .i64 i,.int .i64 r,.int .i64 m,.string c] 23 (0,0))
section
variable {w w':World} {g:Nat} {s c:ByteArray} {i r m:Int}
theorem Bx.c0 (h:Bx w g s c i r m):w.cell? ⟨g,0,none⟩=some (.string s):=by unfold Bx at h;simp [World.cell?,h]
theorem Bx.c1 (h:Bx w g s c i r m):w.cell? ⟨g,1,none⟩=some (.int .i64 i):=by unfold Bx at h;simp [World.cell?,h]
theorem Bx.c2 (h:Bx w g s c i r m):w.cell? ⟨g,2,none⟩=some (.int .i64 r):=by unfold Bx at h;simp [World.cell?,h]
theorem Bx.c3 (h:Bx w g s c i r m):w.cell? ⟨g,3,none⟩=some (.int .i64 m):=by unfold Bx at h;simp [World.cell?,h]
theorem Bx.c4 (h:Bx w g s c i r m):w.cell? ⟨g,4,none⟩=some (.string c):=by unfold Bx at h;simp [World.cell?,h]
theorem Bx.below {B:Nat} (h:Bx w g s c i r m) (hb:Below B w w') (hg:g<B):Bx w' g s c i r m:=(hb.block g hg).trans h
theorem Bx.new (w:World) (s c:ByteArray) (i r m:Int):Bx (w.alloc (.cells #[.string s,.int .i64 i,.int .i64 r,.int .i64 m,.string c] 23)) w.heap.size s c i r m:=heap_alloc_new w _
end
theorem rAsset (s c:ByteArray) (i r m:Int) (w:World):Calls Tryz.prog 31 #[.agg #[.string s,.int .i64 i,.int .i64 r,.int .i64 m,.string c]] w (NB (astE (chk s.data.toList) (Cur c.toList) i r m) w):=by
 have HC:Hid (∀w,Calls Tryz.prog 70 #[.string s] w (NB (chk s.data.toList) w)):=fun w=>rCheck s w
 have HB0:Hid _:=zfl w (.cells #[.string s,.int .i64 i,.int .i64 r,.int .i64 m,.string c] 23)
 have HX0:Hid _:=Bx.new w s c i r m
 generalize chk s.data.toList=e at *
 go_enter Tryz.func31,Tryz.ntmps31
 go_wp2_with fail
 refine (HC.out _).mono ?_
 rintro e' W1 ⟨rfl,hb1⟩
 have hx:Bx W1 w.heap.size s c i r m:=Bx.below HX0.out hb1 (by simp)
 have HB1:Hid (Below w.heap.size w W1):=HB0.out.trans (hb1.mono (by simp))
 have c0:=hx.c0
 have c1:=hx.c1
 have c2:=hx.c2
 have c3:=hx.c3
 have c4:=hx.c4
 clear hb1 hx HX0 HB0
 by_cases he:e=0
 ·subst he
  by_cases hp:Cur c.toList
  ·have HP:Hid (Cur c.toList):=hp
   have HE:Hid (astE 0 (Cur c.toList) i r m=if ¬ (In 9999 i∧In 20 r) then 1 else if ¬ In 200000 m then 10 else 0):=by unfold Hid astE;rw [if_neg (by omega),if_neg (not_not_intro hp)]
   clear hp
   go_wp2_with (go_at_call 34;refine (calls_t (rCur c _) HP.out).mono ?_;rintro e w1 ⟨rfl,rfl⟩)
   all_goals go_ret
   all_goals refine NB.mk ?_ HB1.out
   all_goals rw [HE.out]
   all_goals first | (rw [if_pos (by omega)];rfl) | (rw [if_neg (by omega),if_pos (by omega)];rfl) | (rw [if_neg (by omega),if_neg (by omega)];rfl)
  ·have HP:Hid (¬ Cur c.toList):=hp
   have HE:Hid (astE 0 (Cur c.toList) i r m=11):=by unfold Hid astE;rw [if_neg (by omega),if_pos hp]
   clear hp
   go_wp2_with (go_at_call 34;refine (calls_f (rCur c _) HP.out).mono ?_;rintro e w1 ⟨rfl,rfl⟩)
   go_ret
   exact NB.mk (by rw [HE.out];rfl) HB1.out
 ·have HE:Hid (astE e (Cur c.toList) i r m=e):=by unfold Hid astE;rw [if_pos he]
  have hne:(((e:Nat):Int) != 0)=true:=by rw [bne_iff_ne];omega
  clear he
  go_wp2_with fail
  refine (HC.out _).mono ?_
  rintro e' W2 ⟨rfl,hb2⟩
  have HB2:Hid (Below w.heap.size w W2):=HB1.out.trans (hb2.mono HB1.out.size)
  clear hb2
  go_wp2_with fail
  go_ret
  exact NB.mk (by rw [HE.out]) HB2.out
end Go.Proofs.YtdmlgheajblcdaaGreat.N5
namespace Go.Proofs.YtdmlgheajblcdaaGreat
set_option maxHeartbeats 16000000
set_option maxRecDepth 100000
open Go.RowKit
set_option linter.unusedVariables false
set_option linter.unusedSimpArgs false
set_option maxRecDepth 20000
theorem toL (l:List UInt8):(⟨l.toArray⟩:ByteArray).toList=l:=by
 have:(⟨l.toArray⟩:ByteArray).toList=(⟨l.toArray⟩:ByteArray).data.toList:=ByteArray.toList_eq _
 rw [this]
def C0:Cks:={ nm:=fun s=>(N4.chk s).2,is:=N5.chk,cu:=fun s=>decide (N5.Cur s),ast:=fun a=>N5.astE (N5.chk a.i) (N5.Cur a.cur) a.iss a.rat a.mat,gd:=fun n=>inn n 0 200000,le:=fun a b=>Op.bytesLess a b||a==b }
theorem zfv (l:List UInt8) (g:Bool) (h:C0.cu l=g) (w:World):Calls Tryz.prog 42 #[.string ⟨l.toArray⟩] w (BP g w):=by
 refine (N5.xCur ⟨l.toArray⟩ w).mono ?_
 rintro e w2 ⟨rfl,rfl⟩
 have h1:decide (N5.Cur l)=g:=h
 exact ⟨by simp only [toL];rw [h1],rfl⟩
theorem zgi (l:List UInt8) (g:Bool) (h:C0.cu l=g) (w:World):Calls Tryz.prog 34 #[.string ⟨l.toArray⟩] w (BP g w):=by
 refine (N5.rCur ⟨l.toArray⟩ w).mono ?_
 rintro e w2 ⟨rfl,rfl⟩
 have h1:decide (N5.Cur l)=g:=h
 exact ⟨by simp only [toL];rw [h1],rfl⟩
theorem zns (l:List UInt8) (hs:l.length≤9223372036854775807) (g:Nat) (h:C0.is l=g) (w:World):Calls Tryz.prog 151 #[.string ⟨l.toArray⟩] w (NP .i64 g w):=by
 refine (N5.xCheck ⟨l.toArray⟩ hs w).mono ?_
 rintro e w2 ⟨rfl,rfl⟩
 subst h
 exact ⟨rfl,rfl⟩
def NB (n:Int) (w:World) (e:Ending) (w':World):Prop:=e=.returned (.int .i64 n)∧Hid (Below w.heap.size w w')
theorem NB.mk {n m:Int} {w w':World} (h:m=n) (hb:Below w.heap.size w w'):NB n w (.returned (.int .i64 m)) w':=⟨by rw [h],hb⟩
theorem znt (l:List UInt8) (g:Nat) (h:C0.is l=g) (w:World):Calls Tryz.prog 70 #[.string ⟨l.toArray⟩] w (NB g w):=by
 refine (N5.rCheck ⟨l.toArray⟩ w).mono ?_
 rintro e w2 ⟨rfl,hb⟩
 subst h
 exact ⟨rfl,hb⟩
def TB (a b:Nat) (w:World) (e:Ending) (w':World):Prop:=e=.returned (.tuple #[.int .i64 a,.int .i64 b])∧Hid (Below w.heap.size w w')
theorem zve (l:List UInt8) (hs:l.length≤9223372036854775807) (g:Nat) (h:C0.nm l=g) (w:World):Calls Tryz.prog 167 #[.string ⟨l.toArray⟩] w (TB (N4.chk l).1 g w):=by
 refine (N4.xcheck ⟨l.toArray⟩ hs w).mono ?_
 rintro e w2 ⟨rfl,hb⟩
 subst h
 exact ⟨rfl,hb⟩
theorem zvf (l:List UInt8) (hs:l.length≤9223372036854775807) (g:Nat) (h:C0.nm l=g) (w:World):Calls Tryz.prog 72 #[.string ⟨l.toArray⟩] w (TB (N4.chk l).1 g w):=by
 refine (N4.rcheck ⟨l.toArray⟩ hs w).mono ?_
 rintro e w2 ⟨rfl,hb⟩
 subst h
 exact ⟨rfl,hb⟩
theorem zrd (a:Ast) (hs:a.i.length≤9223372036854775807) (g:Nat) (h:C0.ast a=g) (w:World):Calls Tryz.prog 176 #[.agg #[.string ⟨a.i.toArray⟩,.int .i64 a.iss,.int .i64 a.rat,.int .i64 a.mat,.string ⟨a.cur.toArray⟩]] w (NB g w):=by
 refine (N5.xAsset ⟨a.i.toArray⟩ ⟨a.cur.toArray⟩ a.iss a.rat a.mat hs w).mono ?_
 rintro e w2 ⟨rfl,hb⟩
 subst h
 exact ⟨by simp only [toL];rfl,hb⟩
theorem zre (a:Ast) (g:Nat) (h:C0.ast a=g) (w:World):Calls Tryz.prog 31 #[.agg #[.string ⟨a.i.toArray⟩,.int .i64 a.iss,.int .i64 a.rat,.int .i64 a.mat,.string ⟨a.cur.toArray⟩]] w (NB g w):=by
 refine (N5.rAsset ⟨a.i.toArray⟩ ⟨a.cur.toArray⟩ a.iss a.rat a.mat w).mono ?_
 rintro e w2 ⟨rfl,hb⟩
 subst h
 exact ⟨by simp only [toL];rfl,hb⟩
theorem C0_ok:C0.Ok where
 nm:=fun s h=>by
  have h1:(N4.chk s).2=0:=h
  unfold N4.chk at h1
  split at h1
  ·cases h1
  ·omega
 is:=fun s h=>by
  have h1:N5.chk s=0:=h
  have h2:=N5.shp_iff.1 (N5.chk_ok.1 h1).1
  omega
 cu:=fun s h=>by
  have h1:N5.Cur s:=of_decide_eq_true h
  rcases h1 with h | h | h | h | h | h | h | h<;>(rw [h];decide)
 ast:=fun a h=>by
  have h1:N5.astE (N5.chk a.i) (N5.Cur a.cur) a.iss a.rat a.mat=0:=h
  unfold N5.astE at h1
  split at h1
  ·omega
  ·rename_i h2
   split at h1
   ·cases h1
   ·rename_i h3
    have h4:N5.chk a.i=0:=by omega
    have h5:=N5.shp_iff.1 (N5.chk_ok.1 h4).1
    have h6:N5.Cur a.cur:=Classical.not_not.1 h3
    refine ⟨by omega,?_⟩
    rcases h6 with h | h | h | h | h | h | h | h<;>(rw [h];decide)
theorem ty1 (w:World) (v:Value):(Instr.typeAssert (.iface 76 v) 39 76 true).run Tryz.prog w=.ok (.tuple #[v,.bool true]) w:=by kernel_rfl
theorem tz1 (w:World):(Instr.typeAssert .nilIface 39 76 true).run Tryz.prog w=.ok (.tuple #[.agg #[.int .i64 0,.string ⟨#[]⟩],.bool false]) w:=by kernel_rfl
theorem zrf (w:World) (v:Value):(Instr.typeAssert (.iface 78 v) 39 76 true).run Tryz.prog w=.ok (.tuple #[.agg #[.int .i64 0,.string ⟨#[]⟩],.bool false]) w:=by kernel_rfl
theorem zrg (w:World) (v:Value):(Instr.typeAssert (.iface 80 v) 39 76 true).run Tryz.prog w=.ok (.tuple #[.agg #[.int .i64 0,.string ⟨#[]⟩],.bool false]) w:=by kernel_rfl
theorem zrh (w:World) (v:Value):(Instr.typeAssert (.iface 82 v) 39 76 true).run Tryz.prog w=.ok (.tuple #[.agg #[.int .i64 0,.string ⟨#[]⟩],.bool false]) w:=by kernel_rfl
theorem znu (w:World) (v:Value):(Instr.typeAssert (.iface 74 v) 39 76 true).run Tryz.prog w=.ok (.tuple #[.agg #[.int .i64 0,.string ⟨#[]⟩],.bool false]) w:=by kernel_rfl
theorem zri (w:World) (v:Value):(Instr.typeAssert (.iface 84 v) 39 76 true).run Tryz.prog w=.ok (.tuple #[.agg #[.int .i64 0,.string ⟨#[]⟩],.bool false]) w:=by kernel_rfl
theorem zrj (w:World) (v:Value):(Instr.typeAssert (.iface 86 v) 39 76 true).run Tryz.prog w=.ok (.tuple #[.agg #[.int .i64 0,.string ⟨#[]⟩],.bool false]) w:=by kernel_rfl
theorem zrk (w:World) (v:Value):(Instr.typeAssert (.iface 63 v) 39 76 true).run Tryz.prog w=.ok (.tuple #[.agg #[.int .i64 0,.string ⟨#[]⟩],.bool false]) w:=by kernel_rfl
theorem zrl (w:World) (v:Value):(Instr.typeAssert (.iface 88 v) 39 76 true).run Tryz.prog w=.ok (.tuple #[.agg #[.int .i64 0,.string ⟨#[]⟩],.bool false]) w:=by kernel_rfl
theorem zlb (w:World) (v:Value):(Instr.typeAssert (.iface 90 v) 39 76 true).run Tryz.prog w=.ok (.tuple #[.agg #[.int .i64 0,.string ⟨#[]⟩],.bool false]) w:=by kernel_rfl
theorem zlc (w:World) (v:Value):(Instr.typeAssert (.iface 67 v) 39 76 true).run Tryz.prog w=.ok (.tuple #[.agg #[.int .i64 0,.string ⟨#[]⟩],.bool false]) w:=by kernel_rfl
theorem zld (w:World) (v:Value):(Instr.typeAssert (.iface 92 v) 39 76 true).run Tryz.prog w=.ok (.tuple #[.agg #[.int .i64 0,.string ⟨#[]⟩],.bool false]) w:=by kernel_rfl
theorem zle (w:World) (v:Value):(Instr.typeAssert (.iface 94 v) 39 76 true).run Tryz.prog w=.ok (.tuple #[.agg #[.int .i64 0,.string ⟨#[]⟩],.bool false]) w:=by kernel_rfl
theorem zlf (w:World) (v:Value):(Instr.typeAssert (.iface 96 v) 39 76 true).run Tryz.prog w=.ok (.tuple #[.agg #[.int .i64 0,.string ⟨#[]⟩],.bool false]) w:=by kernel_rfl
theorem zlg (w:World) (v:Value):(Instr.typeAssert (.iface 98 v) 39 76 true).run Tryz.prog w=.ok (.tuple #[.agg #[.int .i64 0,.string ⟨#[]⟩],.bool false]) w:=by kernel_rfl
theorem ty2 (w:World) (v:Value):(Instr.typeAssert (.iface 78 v) 39 78 true).run Tryz.prog w=.ok (.tuple #[v,.bool true]) w:=by kernel_rfl
theorem tz2 (w:World):(Instr.typeAssert .nilIface 39 78 true).run Tryz.prog w=.ok (.tuple #[.agg #[.string ⟨#[]⟩,.int .i64 0,.int .i64 0,.int .i64 0,.string ⟨#[]⟩],.bool false]) w:=by kernel_rfl
theorem zrm (w:World) (v:Value):(Instr.typeAssert (.iface 80 v) 39 78 true).run Tryz.prog w=.ok (.tuple #[.agg #[.string ⟨#[]⟩,.int .i64 0,.int .i64 0,.int .i64 0,.string ⟨#[]⟩],.bool false]) w:=by kernel_rfl
theorem zrn (w:World) (v:Value):(Instr.typeAssert (.iface 82 v) 39 78 true).run Tryz.prog w=.ok (.tuple #[.agg #[.string ⟨#[]⟩,.int .i64 0,.int .i64 0,.int .i64 0,.string ⟨#[]⟩],.bool false]) w:=by kernel_rfl
theorem znv (w:World) (v:Value):(Instr.typeAssert (.iface 74 v) 39 78 true).run Tryz.prog w=.ok (.tuple #[.agg #[.string ⟨#[]⟩,.int .i64 0,.int .i64 0,.int .i64 0,.string ⟨#[]⟩],.bool false]) w:=by kernel_rfl
theorem zro (w:World) (v:Value):(Instr.typeAssert (.iface 84 v) 39 78 true).run Tryz.prog w=.ok (.tuple #[.agg #[.string ⟨#[]⟩,.int .i64 0,.int .i64 0,.int .i64 0,.string ⟨#[]⟩],.bool false]) w:=by kernel_rfl
theorem zrp (w:World) (v:Value):(Instr.typeAssert (.iface 86 v) 39 78 true).run Tryz.prog w=.ok (.tuple #[.agg #[.string ⟨#[]⟩,.int .i64 0,.int .i64 0,.int .i64 0,.string ⟨#[]⟩],.bool false]) w:=by kernel_rfl
theorem zrq (w:World) (v:Value):(Instr.typeAssert (.iface 63 v) 39 78 true).run Tryz.prog w=.ok (.tuple #[.agg #[.string ⟨#[]⟩,.int .i64 0,.int .i64 0,.int .i64 0,.string ⟨#[]⟩],.bool false]) w:=by kernel_rfl
theorem zrr (w:World) (v:Value):(Instr.typeAssert (.iface 88 v) 39 78 true).run Tryz.prog w=.ok (.tuple #[.agg #[.string ⟨#[]⟩,.int .i64 0,.int .i64 0,.int .i64 0,.string ⟨#[]⟩],.bool false]) w:=by kernel_rfl
theorem zlh (w:World) (v:Value):(Instr.typeAssert (.iface 90 v) 39 78 true).run Tryz.prog w=.ok (.tuple #[.agg #[.string ⟨#[]⟩,.int .i64 0,.int .i64 0,.int .i64 0,.string ⟨#[]⟩],.bool false]) w:=by kernel_rfl
theorem zli (w:World) (v:Value):(Instr.typeAssert (.iface 67 v) 39 78 true).run Tryz.prog w=.ok (.tuple #[.agg #[.string ⟨#[]⟩,.int .i64 0,.int .i64 0,.int .i64 0,.string ⟨#[]⟩],.bool false]) w:=by kernel_rfl
theorem zlj (w:World) (v:Value):(Instr.typeAssert (.iface 92 v) 39 78 true).run Tryz.prog w=.ok (.tuple #[.agg #[.string ⟨#[]⟩,.int .i64 0,.int .i64 0,.int .i64 0,.string ⟨#[]⟩],.bool false]) w:=by kernel_rfl
theorem zlk (w:World) (v:Value):(Instr.typeAssert (.iface 94 v) 39 78 true).run Tryz.prog w=.ok (.tuple #[.agg #[.string ⟨#[]⟩,.int .i64 0,.int .i64 0,.int .i64 0,.string ⟨#[]⟩],.bool false]) w:=by kernel_rfl
theorem zll (w:World) (v:Value):(Instr.typeAssert (.iface 96 v) 39 78 true).run Tryz.prog w=.ok (.tuple #[.agg #[.string ⟨#[]⟩,.int .i64 0,.int .i64 0,.int .i64 0,.string ⟨#[]⟩],.bool false]) w:=by kernel_rfl
theorem zlm (w:World) (v:Value):(Instr.typeAssert (.iface 98 v) 39 78 true).run Tryz.prog w=.ok (.tuple #[.agg #[.string ⟨#[]⟩,.int .i64 0,.int .i64 0,.int .i64 0,.string ⟨#[]⟩],.bool false]) w:=by kernel_rfl
theorem ty3 (w:World) (v:Value):(Instr.typeAssert (.iface 80 v) 39 80 true).run Tryz.prog w=.ok (.tuple #[v,.bool true]) w:=by kernel_rfl
theorem tz3 (w:World):(Instr.typeAssert .nilIface 39 80 true).run Tryz.prog w=.ok (.tuple #[.agg #[.int .i64 0,.int .i64 0,.string ⟨#[]⟩,.int .i64 0,.int .i64 0,.int .i64 0,.slice none 0 0,.int .i64 0,.int .i64 0,.slice none 0 0],.bool false]) w:=by kernel_rfl
theorem zrs (w:World) (v:Value):(Instr.typeAssert (.iface 82 v) 39 80 true).run Tryz.prog w=.ok (.tuple #[.agg #[.int .i64 0,.int .i64 0,.string ⟨#[]⟩,.int .i64 0,.int .i64 0,.int .i64 0,.slice none 0 0,.int .i64 0,.int .i64 0,.slice none 0 0],.bool false]) w:=by kernel_rfl
theorem znw (w:World) (v:Value):(Instr.typeAssert (.iface 74 v) 39 80 true).run Tryz.prog w=.ok (.tuple #[.agg #[.int .i64 0,.int .i64 0,.string ⟨#[]⟩,.int .i64 0,.int .i64 0,.int .i64 0,.slice none 0 0,.int .i64 0,.int .i64 0,.slice none 0 0],.bool false]) w:=by kernel_rfl
theorem zrt (w:World) (v:Value):(Instr.typeAssert (.iface 84 v) 39 80 true).run Tryz.prog w=.ok (.tuple #[.agg #[.int .i64 0,.int .i64 0,.string ⟨#[]⟩,.int .i64 0,.int .i64 0,.int .i64 0,.slice none 0 0,.int .i64 0,.int .i64 0,.slice none 0 0],.bool false]) w:=by kernel_rfl
theorem zru (w:World) (v:Value):(Instr.typeAssert (.iface 86 v) 39 80 true).run Tryz.prog w=.ok (.tuple #[.agg #[.int .i64 0,.int .i64 0,.string ⟨#[]⟩,.int .i64 0,.int .i64 0,.int .i64 0,.slice none 0 0,.int .i64 0,.int .i64 0,.slice none 0 0],.bool false]) w:=by kernel_rfl
theorem zrv (w:World) (v:Value):(Instr.typeAssert (.iface 63 v) 39 80 true).run Tryz.prog w=.ok (.tuple #[.agg #[.int .i64 0,.int .i64 0,.string ⟨#[]⟩,.int .i64 0,.int .i64 0,.int .i64 0,.slice none 0 0,.int .i64 0,.int .i64 0,.slice none 0 0],.bool false]) w:=by kernel_rfl
theorem zrw (w:World) (v:Value):(Instr.typeAssert (.iface 88 v) 39 80 true).run Tryz.prog w=.ok (.tuple #[.agg #[.int .i64 0,.int .i64 0,.string ⟨#[]⟩,.int .i64 0,.int .i64 0,.int .i64 0,.slice none 0 0,.int .i64 0,.int .i64 0,.slice none 0 0],.bool false]) w:=by kernel_rfl
theorem zln (w:World) (v:Value):(Instr.typeAssert (.iface 90 v) 39 80 true).run Tryz.prog w=.ok (.tuple #[.agg #[.int .i64 0,.int .i64 0,.string ⟨#[]⟩,.int .i64 0,.int .i64 0,.int .i64 0,.slice none 0 0,.int .i64 0,.int .i64 0,.slice none 0 0],.bool false]) w:=by kernel_rfl
theorem zlo (w:World) (v:Value):(Instr.typeAssert (.iface 67 v) 39 80 true).run Tryz.prog w=.ok (.tuple #[.agg #[.int .i64 0,.int .i64 0,.string ⟨#[]⟩,.int .i64 0,.int .i64 0,.int .i64 0,.slice none 0 0,.int .i64 0,.int .i64 0,.slice none 0 0],.bool false]) w:=by kernel_rfl
theorem zlp (w:World) (v:Value):(Instr.typeAssert (.iface 92 v) 39 80 true).run Tryz.prog w=.ok (.tuple #[.agg #[.int .i64 0,.int .i64 0,.string ⟨#[]⟩,.int .i64 0,.int .i64 0,.int .i64 0,.slice none 0 0,.int .i64 0,.int .i64 0,.slice none 0 0],.bool false]) w:=by kernel_rfl
theorem zlq (w:World) (v:Value):(Instr.typeAssert (.iface 94 v) 39 80 true).run Tryz.prog w=.ok (.tuple #[.agg #[.int .i64 0,.int .i64 0,.string ⟨#[]⟩,.int .i64 0,.int .i64 0,.int .i64 0,.slice none 0 0,.int .i64 0,.int .i64 0,.slice none 0 0],.bool false]) w:=by kernel_rfl
theorem zlr (w:World) (v:Value):(Instr.typeAssert (.iface 96 v) 39 80 true).run Tryz.prog w=.ok (.tuple #[.agg #[.int .i64 0,.int .i64 0,.string ⟨#[]⟩,.int .i64 0,.int .i64 0,.int .i64 0,.slice none 0 0,.int .i64 0,.int .i64 0,.slice none 0 0],.bool false]) w:=by kernel_rfl
theorem zls (w:World) (v:Value):(Instr.typeAssert (.iface 98 v) 39 80 true).run Tryz.prog w=.ok (.tuple #[.agg #[.int .i64 0,.int .i64 0,.string ⟨#[]⟩,.int .i64 0,.int .i64 0,.int .i64 0,.slice none 0 0,.int .i64 0,.int .i64 0,.slice none 0 0],.bool false]) w:=by kernel_rfl
theorem ty4 (w:World) (v:Value):(Instr.typeAssert (.iface 82 v) 39 82 true).run Tryz.prog w=.ok (.tuple #[v,.bool true]) w:=by kernel_rfl
theorem tz4 (w:World):(Instr.typeAssert .nilIface 39 82 true).run Tryz.prog w=.ok (.tuple #[.agg #[.slice none 0 0],.bool false]) w:=by kernel_rfl
theorem znx (w:World) (v:Value):(Instr.typeAssert (.iface 74 v) 39 82 true).run Tryz.prog w=.ok (.tuple #[.agg #[.slice none 0 0],.bool false]) w:=by kernel_rfl
theorem zrx (w:World) (v:Value):(Instr.typeAssert (.iface 84 v) 39 82 true).run Tryz.prog w=.ok (.tuple #[.agg #[.slice none 0 0],.bool false]) w:=by kernel_rfl
theorem zry (w:World) (v:Value):(Instr.typeAssert (.iface 86 v) 39 82 true).run Tryz.prog w=.ok (.tuple #[.agg #[.slice none 0 0],.bool false]) w:=by kernel_rfl
theorem zrz (w:World) (v:Value):(Instr.typeAssert (.iface 63 v) 39 82 true).run Tryz.prog w=.ok (.tuple #[.agg #[.slice none 0 0],.bool false]) w:=by kernel_rfl
theorem zr0 (w:World) (v:Value):(Instr.typeAssert (.iface 88 v) 39 82 true).run Tryz.prog w=.ok (.tuple #[.agg #[.slice none 0 0],.bool false]) w:=by kernel_rfl
theorem zlt (w:World) (v:Value):(Instr.typeAssert (.iface 90 v) 39 82 true).run Tryz.prog w=.ok (.tuple #[.agg #[.slice none 0 0],.bool false]) w:=by kernel_rfl
theorem zlu (w:World) (v:Value):(Instr.typeAssert (.iface 67 v) 39 82 true).run Tryz.prog w=.ok (.tuple #[.agg #[.slice none 0 0],.bool false]) w:=by kernel_rfl
theorem zlv (w:World) (v:Value):(Instr.typeAssert (.iface 92 v) 39 82 true).run Tryz.prog w=.ok (.tuple #[.agg #[.slice none 0 0],.bool false]) w:=by kernel_rfl
theorem zlw (w:World) (v:Value):(Instr.typeAssert (.iface 94 v) 39 82 true).run Tryz.prog w=.ok (.tuple #[.agg #[.slice none 0 0],.bool false]) w:=by kernel_rfl
theorem zlx (w:World) (v:Value):(Instr.typeAssert (.iface 96 v) 39 82 true).run Tryz.prog w=.ok (.tuple #[.agg #[.slice none 0 0],.bool false]) w:=by kernel_rfl
theorem zly (w:World) (v:Value):(Instr.typeAssert (.iface 98 v) 39 82 true).run Tryz.prog w=.ok (.tuple #[.agg #[.slice none 0 0],.bool false]) w:=by kernel_rfl
theorem ty5 (w:World) (v:Value):(Instr.typeAssert (.iface 74 v) 39 74 true).run Tryz.prog w=.ok (.tuple #[v,.bool true]) w:=by kernel_rfl
theorem tz5 (w:World):(Instr.typeAssert .nilIface 39 74 true).run Tryz.prog w=.ok (.tuple #[.agg #[.int .i64 0],.bool false]) w:=by kernel_rfl
theorem zr1 (w:World) (v:Value):(Instr.typeAssert (.iface 84 v) 39 74 true).run Tryz.prog w=.ok (.tuple #[.agg #[.int .i64 0],.bool false]) w:=by kernel_rfl
theorem zr2 (w:World) (v:Value):(Instr.typeAssert (.iface 86 v) 39 74 true).run Tryz.prog w=.ok (.tuple #[.agg #[.int .i64 0],.bool false]) w:=by kernel_rfl
theorem zr3 (w:World) (v:Value):(Instr.typeAssert (.iface 63 v) 39 74 true).run Tryz.prog w=.ok (.tuple #[.agg #[.int .i64 0],.bool false]) w:=by kernel_rfl
theorem zr4 (w:World) (v:Value):(Instr.typeAssert (.iface 88 v) 39 74 true).run Tryz.prog w=.ok (.tuple #[.agg #[.int .i64 0],.bool false]) w:=by kernel_rfl
theorem zlz (w:World) (v:Value):(Instr.typeAssert (.iface 90 v) 39 74 true).run Tryz.prog w=.ok (.tuple #[.agg #[.int .i64 0],.bool false]) w:=by kernel_rfl
theorem zl0 (w:World) (v:Value):(Instr.typeAssert (.iface 67 v) 39 74 true).run Tryz.prog w=.ok (.tuple #[.agg #[.int .i64 0],.bool false]) w:=by kernel_rfl
theorem zl1 (w:World) (v:Value):(Instr.typeAssert (.iface 92 v) 39 74 true).run Tryz.prog w=.ok (.tuple #[.agg #[.int .i64 0],.bool false]) w:=by kernel_rfl
theorem zl2 (w:World) (v:Value):(Instr.typeAssert (.iface 94 v) 39 74 true).run Tryz.prog w=.ok (.tuple #[.agg #[.int .i64 0],.bool false]) w:=by kernel_rfl
theorem zl3 (w:World) (v:Value):(Instr.typeAssert (.iface 96 v) 39 74 true).run Tryz.prog w=.ok (.tuple #[.agg #[.int .i64 0],.bool false]) w:=by kernel_rfl
theorem zl4 (w:World) (v:Value):(Instr.typeAssert (.iface 98 v) 39 74 true).run Tryz.prog w=.ok (.tuple #[.agg #[.int .i64 0],.bool false]) w:=by kernel_rfl
theorem ty6 (w:World) (v:Value):(Instr.typeAssert (.iface 84 v) 39 84 true).run Tryz.prog w=.ok (.tuple #[v,.bool true]) w:=by kernel_rfl
theorem tz6 (w:World):(Instr.typeAssert .nilIface 39 84 true).run Tryz.prog w=.ok (.tuple #[.agg #[.int .i64 0,.string ⟨#[]⟩,.int .i64 0],.bool false]) w:=by kernel_rfl
theorem zr5 (w:World) (v:Value):(Instr.typeAssert (.iface 86 v) 39 84 true).run Tryz.prog w=.ok (.tuple #[.agg #[.int .i64 0,.string ⟨#[]⟩,.int .i64 0],.bool false]) w:=by kernel_rfl
theorem zr6 (w:World) (v:Value):(Instr.typeAssert (.iface 63 v) 39 84 true).run Tryz.prog w=.ok (.tuple #[.agg #[.int .i64 0,.string ⟨#[]⟩,.int .i64 0],.bool false]) w:=by kernel_rfl
theorem zr7 (w:World) (v:Value):(Instr.typeAssert (.iface 88 v) 39 84 true).run Tryz.prog w=.ok (.tuple #[.agg #[.int .i64 0,.string ⟨#[]⟩,.int .i64 0],.bool false]) w:=by kernel_rfl
theorem zl5 (w:World) (v:Value):(Instr.typeAssert (.iface 90 v) 39 84 true).run Tryz.prog w=.ok (.tuple #[.agg #[.int .i64 0,.string ⟨#[]⟩,.int .i64 0],.bool false]) w:=by kernel_rfl
theorem zl6 (w:World) (v:Value):(Instr.typeAssert (.iface 67 v) 39 84 true).run Tryz.prog w=.ok (.tuple #[.agg #[.int .i64 0,.string ⟨#[]⟩,.int .i64 0],.bool false]) w:=by kernel_rfl
theorem zl7 (w:World) (v:Value):(Instr.typeAssert (.iface 92 v) 39 84 true).run Tryz.prog w=.ok (.tuple #[.agg #[.int .i64 0,.string ⟨#[]⟩,.int .i64 0],.bool false]) w:=by kernel_rfl
theorem zl8 (w:World) (v:Value):(Instr.typeAssert (.iface 94 v) 39 84 true).run Tryz.prog w=.ok (.tuple #[.agg #[.int .i64 0,.string ⟨#[]⟩,.int .i64 0],.bool false]) w:=by kernel_rfl
theorem zl9 (w:World) (v:Value):(Instr.typeAssert (.iface 96 v) 39 84 true).run Tryz.prog w=.ok (.tuple #[.agg #[.int .i64 0,.string ⟨#[]⟩,.int .i64 0],.bool false]) w:=by kernel_rfl
theorem zma (w:World) (v:Value):(Instr.typeAssert (.iface 98 v) 39 84 true).run Tryz.prog w=.ok (.tuple #[.agg #[.int .i64 0,.string ⟨#[]⟩,.int .i64 0],.bool false]) w:=by kernel_rfl
theorem ty7 (w:World) (v:Value):(Instr.typeAssert (.iface 86 v) 39 86 true).run Tryz.prog w=.ok (.tuple #[v,.bool true]) w:=by kernel_rfl
theorem tz7 (w:World):(Instr.typeAssert .nilIface 39 86 true).run Tryz.prog w=.ok (.tuple #[.agg #[.int .i64 0,.string ⟨#[]⟩,.int .i64 0],.bool false]) w:=by kernel_rfl
theorem zr8 (w:World) (v:Value):(Instr.typeAssert (.iface 63 v) 39 86 true).run Tryz.prog w=.ok (.tuple #[.agg #[.int .i64 0,.string ⟨#[]⟩,.int .i64 0],.bool false]) w:=by kernel_rfl
theorem zr9 (w:World) (v:Value):(Instr.typeAssert (.iface 88 v) 39 86 true).run Tryz.prog w=.ok (.tuple #[.agg #[.int .i64 0,.string ⟨#[]⟩,.int .i64 0],.bool false]) w:=by kernel_rfl
theorem zmb (w:World) (v:Value):(Instr.typeAssert (.iface 90 v) 39 86 true).run Tryz.prog w=.ok (.tuple #[.agg #[.int .i64 0,.string ⟨#[]⟩,.int .i64 0],.bool false]) w:=by kernel_rfl
theorem zmc (w:World) (v:Value):(Instr.typeAssert (.iface 67 v) 39 86 true).run Tryz.prog w=.ok (.tuple #[.agg #[.int .i64 0,.string ⟨#[]⟩,.int .i64 0],.bool false]) w:=by kernel_rfl
theorem zmd (w:World) (v:Value):(Instr.typeAssert (.iface 92 v) 39 86 true).run Tryz.prog w=.ok (.tuple #[.agg #[.int .i64 0,.string ⟨#[]⟩,.int .i64 0],.bool false]) w:=by kernel_rfl
theorem zme (w:World) (v:Value):(Instr.typeAssert (.iface 94 v) 39 86 true).run Tryz.prog w=.ok (.tuple #[.agg #[.int .i64 0,.string ⟨#[]⟩,.int .i64 0],.bool false]) w:=by kernel_rfl
theorem zmf (w:World) (v:Value):(Instr.typeAssert (.iface 96 v) 39 86 true).run Tryz.prog w=.ok (.tuple #[.agg #[.int .i64 0,.string ⟨#[]⟩,.int .i64 0],.bool false]) w:=by kernel_rfl
theorem zmg (w:World) (v:Value):(Instr.typeAssert (.iface 98 v) 39 86 true).run Tryz.prog w=.ok (.tuple #[.agg #[.int .i64 0,.string ⟨#[]⟩,.int .i64 0],.bool false]) w:=by kernel_rfl
theorem ty8 (w:World) (v:Value):(Instr.typeAssert (.iface 63 v) 39 63 true).run Tryz.prog w=.ok (.tuple #[v,.bool true]) w:=by kernel_rfl
theorem tz8 (w:World):(Instr.typeAssert .nilIface 39 63 true).run Tryz.prog w=.ok (.tuple #[.agg #[.int .i64 0,.int .i64 0,.int .i64 0,.int .i64 0,.int .i64 0,.int .i64 0,.int .i64 0,.int .i64 0],.bool false]) w:=by kernel_rfl
theorem zsa (w:World) (v:Value):(Instr.typeAssert (.iface 88 v) 39 63 true).run Tryz.prog w=.ok (.tuple #[.agg #[.int .i64 0,.int .i64 0,.int .i64 0,.int .i64 0,.int .i64 0,.int .i64 0,.int .i64 0,.int .i64 0],.bool false]) w:=by kernel_rfl
theorem zmh (w:World) (v:Value):(Instr.typeAssert (.iface 90 v) 39 63 true).run Tryz.prog w=.ok (.tuple #[.agg #[.int .i64 0,.int .i64 0,.int .i64 0,.int .i64 0,.int .i64 0,.int .i64 0,.int .i64 0,.int .i64 0],.bool false]) w:=by kernel_rfl
theorem zmi (w:World) (v:Value):(Instr.typeAssert (.iface 67 v) 39 63 true).run Tryz.prog w=.ok (.tuple #[.agg #[.int .i64 0,.int .i64 0,.int .i64 0,.int .i64 0,.int .i64 0,.int .i64 0,.int .i64 0,.int .i64 0],.bool false]) w:=by kernel_rfl
theorem zmj (w:World) (v:Value):(Instr.typeAssert (.iface 92 v) 39 63 true).run Tryz.prog w=.ok (.tuple #[.agg #[.int .i64 0,.int .i64 0,.int .i64 0,.int .i64 0,.int .i64 0,.int .i64 0,.int .i64 0,.int .i64 0],.bool false]) w:=by kernel_rfl
theorem zmk (w:World) (v:Value):(Instr.typeAssert (.iface 94 v) 39 63 true).run Tryz.prog w=.ok (.tuple #[.agg #[.int .i64 0,.int .i64 0,.int .i64 0,.int .i64 0,.int .i64 0,.int .i64 0,.int .i64 0,.int .i64 0],.bool false]) w:=by kernel_rfl
theorem zml (w:World) (v:Value):(Instr.typeAssert (.iface 96 v) 39 63 true).run Tryz.prog w=.ok (.tuple #[.agg #[.int .i64 0,.int .i64 0,.int .i64 0,.int .i64 0,.int .i64 0,.int .i64 0,.int .i64 0,.int .i64 0],.bool false]) w:=by kernel_rfl
theorem zmm (w:World) (v:Value):(Instr.typeAssert (.iface 98 v) 39 63 true).run Tryz.prog w=.ok (.tuple #[.agg #[.int .i64 0,.int .i64 0,.int .i64 0,.int .i64 0,.int .i64 0,.int .i64 0,.int .i64 0,.int .i64 0],.bool false]) w:=by kernel_rfl
theorem ty9 (w:World) (v:Value):(Instr.typeAssert (.iface 88 v) 39 88 true).run Tryz.prog w=.ok (.tuple #[v,.bool true]) w:=by kernel_rfl
theorem tz9 (w:World):(Instr.typeAssert .nilIface 39 88 true).run Tryz.prog w=.ok (.tuple #[.agg #[.int .i64 0,.int .i64 0],.bool false]) w:=by kernel_rfl
theorem zmn (w:World) (v:Value):(Instr.typeAssert (.iface 90 v) 39 88 true).run Tryz.prog w=.ok (.tuple #[.agg #[.int .i64 0,.int .i64 0],.bool false]) w:=by kernel_rfl
theorem zmo (w:World) (v:Value):(Instr.typeAssert (.iface 67 v) 39 88 true).run Tryz.prog w=.ok (.tuple #[.agg #[.int .i64 0,.int .i64 0],.bool false]) w:=by kernel_rfl
theorem zmp (w:World) (v:Value):(Instr.typeAssert (.iface 92 v) 39 88 true).run Tryz.prog w=.ok (.tuple #[.agg #[.int .i64 0,.int .i64 0],.bool false]) w:=by kernel_rfl
theorem zmq (w:World) (v:Value):(Instr.typeAssert (.iface 94 v) 39 88 true).run Tryz.prog w=.ok (.tuple #[.agg #[.int .i64 0,.int .i64 0],.bool false]) w:=by kernel_rfl
theorem zmr (w:World) (v:Value):(Instr.typeAssert (.iface 96 v) 39 88 true).run Tryz.prog w=.ok (.tuple #[.agg #[.int .i64 0,.int .i64 0],.bool false]) w:=by kernel_rfl
theorem zms (w:World) (v:Value):(Instr.typeAssert (.iface 98 v) 39 88 true).run Tryz.prog w=.ok (.tuple #[.agg #[.int .i64 0,.int .i64 0],.bool false]) w:=by kernel_rfl
theorem zxn (w:World) (v:Value):(Instr.typeAssert (.iface 90 v) 39 90 true).run Tryz.prog w=.ok (.tuple #[v,.bool true]) w:=by kernel_rfl
theorem zyc (w:World):(Instr.typeAssert .nilIface 39 90 true).run Tryz.prog w=.ok (.tuple #[.agg #[.int .i64 0,.int .i64 0,.int .i64 0],.bool false]) w:=by kernel_rfl
theorem zib (w:World) (v:Value):(Instr.typeAssert (.iface 67 v) 39 90 true).run Tryz.prog w=.ok (.tuple #[.agg #[.int .i64 0,.int .i64 0,.int .i64 0],.bool false]) w:=by kernel_rfl
theorem zic (w:World) (v:Value):(Instr.typeAssert (.iface 92 v) 39 90 true).run Tryz.prog w=.ok (.tuple #[.agg #[.int .i64 0,.int .i64 0,.int .i64 0],.bool false]) w:=by kernel_rfl
theorem zid (w:World) (v:Value):(Instr.typeAssert (.iface 94 v) 39 90 true).run Tryz.prog w=.ok (.tuple #[.agg #[.int .i64 0,.int .i64 0,.int .i64 0],.bool false]) w:=by kernel_rfl
theorem zie (w:World) (v:Value):(Instr.typeAssert (.iface 96 v) 39 90 true).run Tryz.prog w=.ok (.tuple #[.agg #[.int .i64 0,.int .i64 0,.int .i64 0],.bool false]) w:=by kernel_rfl
theorem zif (w:World) (v:Value):(Instr.typeAssert (.iface 98 v) 39 90 true).run Tryz.prog w=.ok (.tuple #[.agg #[.int .i64 0,.int .i64 0,.int .i64 0],.bool false]) w:=by kernel_rfl
theorem zxo (w:World) (v:Value):(Instr.typeAssert (.iface 67 v) 39 67 true).run Tryz.prog w=.ok (.tuple #[v,.bool true]) w:=by kernel_rfl
theorem zyd (w:World):(Instr.typeAssert .nilIface 39 67 true).run Tryz.prog w=.ok (.tuple #[.agg #[.int .i64 0,.int .i64 0,.string ⟨#[]⟩,.int .i64 0,.slice none 0 0],.bool false]) w:=by kernel_rfl
theorem zig (w:World) (v:Value):(Instr.typeAssert (.iface 92 v) 39 67 true).run Tryz.prog w=.ok (.tuple #[.agg #[.int .i64 0,.int .i64 0,.string ⟨#[]⟩,.int .i64 0,.slice none 0 0],.bool false]) w:=by kernel_rfl
theorem zih (w:World) (v:Value):(Instr.typeAssert (.iface 94 v) 39 67 true).run Tryz.prog w=.ok (.tuple #[.agg #[.int .i64 0,.int .i64 0,.string ⟨#[]⟩,.int .i64 0,.slice none 0 0],.bool false]) w:=by kernel_rfl
theorem zii (w:World) (v:Value):(Instr.typeAssert (.iface 96 v) 39 67 true).run Tryz.prog w=.ok (.tuple #[.agg #[.int .i64 0,.int .i64 0,.string ⟨#[]⟩,.int .i64 0,.slice none 0 0],.bool false]) w:=by kernel_rfl
theorem zij (w:World) (v:Value):(Instr.typeAssert (.iface 98 v) 39 67 true).run Tryz.prog w=.ok (.tuple #[.agg #[.int .i64 0,.int .i64 0,.string ⟨#[]⟩,.int .i64 0,.slice none 0 0],.bool false]) w:=by kernel_rfl
theorem zxp (w:World) (v:Value):(Instr.typeAssert (.iface 92 v) 39 92 true).run Tryz.prog w=.ok (.tuple #[v,.bool true]) w:=by kernel_rfl
theorem zye (w:World):(Instr.typeAssert .nilIface 39 92 true).run Tryz.prog w=.ok (.tuple #[.agg #[.int .i64 0,.int .i64 0,.bool false],.bool false]) w:=by kernel_rfl
theorem zik (w:World) (v:Value):(Instr.typeAssert (.iface 94 v) 39 92 true).run Tryz.prog w=.ok (.tuple #[.agg #[.int .i64 0,.int .i64 0,.bool false],.bool false]) w:=by kernel_rfl
theorem zil (w:World) (v:Value):(Instr.typeAssert (.iface 96 v) 39 92 true).run Tryz.prog w=.ok (.tuple #[.agg #[.int .i64 0,.int .i64 0,.bool false],.bool false]) w:=by kernel_rfl
theorem zim (w:World) (v:Value):(Instr.typeAssert (.iface 98 v) 39 92 true).run Tryz.prog w=.ok (.tuple #[.agg #[.int .i64 0,.int .i64 0,.bool false],.bool false]) w:=by kernel_rfl
theorem zxq (w:World) (v:Value):(Instr.typeAssert (.iface 94 v) 39 94 true).run Tryz.prog w=.ok (.tuple #[v,.bool true]) w:=by kernel_rfl
theorem zyf (w:World):(Instr.typeAssert .nilIface 39 94 true).run Tryz.prog w=.ok (.tuple #[.agg #[.int .i64 0],.bool false]) w:=by kernel_rfl
theorem zin (w:World) (v:Value):(Instr.typeAssert (.iface 96 v) 39 94 true).run Tryz.prog w=.ok (.tuple #[.agg #[.int .i64 0],.bool false]) w:=by kernel_rfl
theorem zio (w:World) (v:Value):(Instr.typeAssert (.iface 98 v) 39 94 true).run Tryz.prog w=.ok (.tuple #[.agg #[.int .i64 0],.bool false]) w:=by kernel_rfl
theorem zxr (w:World) (v:Value):(Instr.typeAssert (.iface 96 v) 39 96 true).run Tryz.prog w=.ok (.tuple #[v,.bool true]) w:=by kernel_rfl
theorem zyg (w:World):(Instr.typeAssert .nilIface 39 96 true).run Tryz.prog w=.ok (.tuple #[.agg #[.int .i64 0,.int .i64 0],.bool false]) w:=by kernel_rfl
theorem zip (w:World) (v:Value):(Instr.typeAssert (.iface 98 v) 39 96 true).run Tryz.prog w=.ok (.tuple #[.agg #[.int .i64 0,.int .i64 0],.bool false]) w:=by kernel_rfl
theorem zxs (w:World) (v:Value):(Instr.typeAssert (.iface 98 v) 39 98 true).run Tryz.prog w=.ok (.tuple #[v,.bool true]) w:=by kernel_rfl
theorem zyh (w:World):(Instr.typeAssert .nilIface 39 98 true).run Tryz.prog w=.ok (.tuple #[.agg #[.int .i64 0,.int .i64 0,.int .i64 0],.bool false]) w:=by kernel_rfl
def KP (v:Value) (w:World) (e:Ending) (w':World):Prop:=e=.returned v∧Hid (Below w.heap.size w w')
theorem zab (w:World) (o:Obj):Below w.heap.size w (w.alloc o):=(Below.refl _ w).alloc (Nat.le_refl _) _
theorem zsb (x0:Int) (x1:ByteArray) (w:World):Calls Tryz.prog 30 #[.iface 76 (.agg #[.int .i64 x0,.string x1])] w (KP (.iface 76 (.agg #[.int .i64 x0,.string x1])) w):=by
 have t1:=ty1
 have HB:Hid (∀o,Below w.heap.size w (w.alloc o)):=zab w
 go_enter Tryz.func30,Tryz.ntmps30
 go_wp2_with fail
 go_ret
 exact ⟨rfl,HB.out _⟩
theorem zsc (x0:ByteArray) (x1:Int) (x2:Int) (x3:Int) (x4:ByteArray) (w:World):Calls Tryz.prog 30 #[.iface 78 (.agg #[.string x0,.int .i64 x1,.int .i64 x2,.int .i64 x3,.string x4])] w (KP (.iface 78 (.agg #[.string x0,.int .i64 x1,.int .i64 x2,.int .i64 x3,.string x4])) w):=by
 have t1:=zrf
 have t2:=ty2
 have HB:Hid (∀o,Below w.heap.size w (w.alloc o)):=zab w
 go_enter Tryz.func30,Tryz.ntmps30
 go_wp2_with fail
 go_ret
 exact ⟨rfl,HB.out _⟩
theorem zsd (x0:Int) (x1:Int) (x2:ByteArray) (x3:Int) (x4:Int) (x5:Int) (x6a:Option Addr) (x6n x6c:Nat) (x7:Int) (x8:Int) (x9a:Option Addr) (x9n x9c:Nat) (w:World):Calls Tryz.prog 30 #[.iface 80 (.agg #[.int .i64 x0,.int .i64 x1,.string x2,.int .i64 x3,.int .i64 x4,.int .i64 x5,.slice x6a x6n x6c,.int .i64 x7,.int .i64 x8,.slice x9a x9n x9c])] w (KP (.iface 80 (.agg #[.int .i64 x0,.int .i64 x1,.string x2,.int .i64 x3,.int .i64 x4,.int .i64 x5,.slice x6a x6n x6c,.int .i64 x7,.int .i64 x8,.slice x9a x9n x9c])) w):=by
 have t1:=zrg
 have t2:=zrm
 have t3:=ty3
 have HB:Hid (∀o,Below w.heap.size w (w.alloc o)):=zab w
 go_enter Tryz.func30,Tryz.ntmps30
 go_wp2_with fail
 go_ret
 exact ⟨rfl,HB.out _⟩
theorem zse (x0a:Option Addr) (x0n x0c:Nat) (w:World):Calls Tryz.prog 30 #[.iface 82 (.agg #[.slice x0a x0n x0c])] w (KP (.iface 82 (.agg #[.slice x0a x0n x0c])) w):=by
 have t1:=zrh
 have t2:=zrn
 have t3:=zrs
 have t4:=ty4
 have HB:Hid (∀o,Below w.heap.size w (w.alloc o)):=zab w
 go_enter Tryz.func30,Tryz.ntmps30
 go_wp2_with fail
 go_ret
 exact ⟨rfl,HB.out _⟩
theorem ziq (x0:Int) (w:World):Calls Tryz.prog 30 #[.iface 74 (.agg #[.int .i64 x0])] w (KP (.iface 74 (.agg #[.int .i64 x0])) w):=by
 have t1:=znu
 have t2:=znv
 have t3:=znw
 have t4:=znx
 have t5:=ty5
 have HB:Hid (∀o,Below w.heap.size w (w.alloc o)):=zab w
 go_enter Tryz.func30,Tryz.ntmps30
 go_wp2_with fail
 go_ret
 exact ⟨rfl,HB.out _⟩
theorem zsf (x0:Int) (x1:ByteArray) (x2:Int) (w:World):Calls Tryz.prog 30 #[.iface 84 (.agg #[.int .i64 x0,.string x1,.int .i64 x2])] w (KP (.iface 84 (.agg #[.int .i64 x0,.string x1,.int .i64 x2])) w):=by
 have t1:=zri
 have t2:=zro
 have t3:=zrt
 have t4:=zrx
 have t5:=zr1
 have t6:=ty6
 have HB:Hid (∀o,Below w.heap.size w (w.alloc o)):=zab w
 go_enter Tryz.func30,Tryz.ntmps30
 go_wp2_with fail
 go_ret
 exact ⟨rfl,HB.out _⟩
theorem zsg (x0:Int) (x1:ByteArray) (x2:Int) (w:World):Calls Tryz.prog 30 #[.iface 86 (.agg #[.int .i64 x0,.string x1,.int .i64 x2])] w (KP (.iface 86 (.agg #[.int .i64 x0,.string x1,.int .i64 x2])) w):=by
 have t1:=zrj
 have t2:=zrp
 have t3:=zru
 have t4:=zry
 have t5:=zr2
 have t6:=zr5
 have t7:=ty7
 have HB:Hid (∀o,Below w.heap.size w (w.alloc o)):=zab w
 go_enter Tryz.func30,Tryz.ntmps30
 go_wp2_with fail
 go_ret
 exact ⟨rfl,HB.out _⟩
theorem zsh (x0:Int) (x1:Int) (x2:Int) (x3:Int) (x4:Int) (x5:Int) (x6:Int) (x7:Int) (w:World):Calls Tryz.prog 30 #[.iface 63 (.agg #[.int .i64 x0,.int .i64 x1,.int .i64 x2,.int .i64 x3,.int .i64 x4,.int .i64 x5,.int .i64 x6,.int .i64 x7])] w (KP (.iface 63 (.agg #[.int .i64 x0,.int .i64 x1,.int .i64 x2,.int .i64 x3,.int .i64 x4,.int .i64 x5,.int .i64 x6,.int .i64 x7])) w):=by
 have t1:=zrk
 have t2:=zrq
 have t3:=zrv
 have t4:=zrz
 have t5:=zr3
 have t6:=zr6
 have t7:=zr8
 have t8:=ty8
 have HB:Hid (∀o,Below w.heap.size w (w.alloc o)):=zab w
 go_enter Tryz.func30,Tryz.ntmps30
 go_wp2_with fail
 go_ret
 exact ⟨rfl,HB.out _⟩
theorem zsi (x0:Int) (x1:Int) (w:World):Calls Tryz.prog 30 #[.iface 88 (.agg #[.int .i64 x0,.int .i64 x1])] w (KP (.iface 88 (.agg #[.int .i64 x0,.int .i64 x1])) w):=by
 have t1:=zrl
 have t2:=zrr
 have t3:=zrw
 have t4:=zr0
 have t5:=zr4
 have t6:=zr7
 have t7:=zr9
 have t8:=zsa
 have t9:=ty9
 have HB:Hid (∀o,Below w.heap.size w (w.alloc o)):=zab w
 go_enter Tryz.func30,Tryz.ntmps30
 go_wp2_with fail
 go_ret
 exact ⟨rfl,HB.out _⟩
theorem zny (x0:Int) (x1:Int) (x2:Int) (w:World):Calls Tryz.prog 30 #[.iface 90 (.agg #[.int .i64 x0,.int .i64 x1,.int .i64 x2])] w (KP (.iface 90 (.agg #[.int .i64 x0,.int .i64 x1,.int .i64 x2])) w):=by
 have t1:=zlb
 have t2:=zlh
 have t3:=zln
 have t4:=zlt
 have t5:=zlz
 have t6:=zl5
 have t7:=zmb
 have t8:=zmh
 have t9:=zmn
 have t10:=zxn
 have HB:Hid (∀o,Below w.heap.size w (w.alloc o)):=zab w
 go_enter Tryz.func30,Tryz.ntmps30
 go_wp2_with fail
 go_ret
 exact ⟨rfl,HB.out _⟩
theorem znz (x0:Int) (x1:Int) (x2:ByteArray) (x3:Int) (x4a:Option Addr) (x4n x4c:Nat) (w:World):Calls Tryz.prog 30 #[.iface 67 (.agg #[.int .i64 x0,.int .i64 x1,.string x2,.int .i64 x3,.slice x4a x4n x4c])] w (KP (.iface 67 (.agg #[.int .i64 x0,.int .i64 x1,.string x2,.int .i64 x3,.slice x4a x4n x4c])) w):=by
 have t1:=zlc
 have t2:=zli
 have t3:=zlo
 have t4:=zlu
 have t5:=zl0
 have t6:=zl6
 have t7:=zmc
 have t8:=zmi
 have t9:=zmo
 have t10:=zib
 have t11:=zxo
 have HB:Hid (∀o,Below w.heap.size w (w.alloc o)):=zab w
 go_enter Tryz.func30,Tryz.ntmps30
 go_wp2_with fail
 go_ret
 exact ⟨rfl,HB.out _⟩
theorem zn0 (x0:Int) (x1:Int) (x2:Bool) (w:World):Calls Tryz.prog 30 #[.iface 92 (.agg #[.int .i64 x0,.int .i64 x1,.bool x2])] w (KP (.iface 92 (.agg #[.int .i64 x0,.int .i64 x1,.bool x2])) w):=by
 have t1:=zld
 have t2:=zlj
 have t3:=zlp
 have t4:=zlv
 have t5:=zl1
 have t6:=zl7
 have t7:=zmd
 have t8:=zmj
 have t9:=zmp
 have t10:=zic
 have t11:=zig
 have t12:=zxp
 have HB:Hid (∀o,Below w.heap.size w (w.alloc o)):=zab w
 go_enter Tryz.func30,Tryz.ntmps30
 go_wp2_with fail
 go_ret
 exact ⟨rfl,HB.out _⟩
theorem zn1 (x0:Int) (w:World):Calls Tryz.prog 30 #[.iface 94 (.agg #[.int .i64 x0])] w (KP (.iface 94 (.agg #[.int .i64 x0])) w):=by
 have t1:=zle
 have t2:=zlk
 have t3:=zlq
 have t4:=zlw
 have t5:=zl2
 have t6:=zl8
 have t7:=zme
 have t8:=zmk
 have t9:=zmq
 have t10:=zid
 have t11:=zih
 have t12:=zik
 have t13:=zxq
 have HB:Hid (∀o,Below w.heap.size w (w.alloc o)):=zab w
 go_enter Tryz.func30,Tryz.ntmps30
 go_wp2_with fail
 go_ret
 exact ⟨rfl,HB.out _⟩
theorem zn2 (x0:Int) (x1:Int) (w:World):Calls Tryz.prog 30 #[.iface 96 (.agg #[.int .i64 x0,.int .i64 x1])] w (KP (.iface 96 (.agg #[.int .i64 x0,.int .i64 x1])) w):=by
 have t1:=zlf
 have t2:=zll
 have t3:=zlr
 have t4:=zlx
 have t5:=zl3
 have t6:=zl9
 have t7:=zmf
 have t8:=zml
 have t9:=zmr
 have t10:=zie
 have t11:=zii
 have t12:=zil
 have t13:=zin
 have t14:=zxr
 have HB:Hid (∀o,Below w.heap.size w (w.alloc o)):=zab w
 go_enter Tryz.func30,Tryz.ntmps30
 go_wp2_with fail
 go_ret
 exact ⟨rfl,HB.out _⟩
theorem zn3 (x0:Int) (x1:Int) (x2:Int) (w:World):Calls Tryz.prog 30 #[.iface 98 (.agg #[.int .i64 x0,.int .i64 x1,.int .i64 x2])] w (KP (.iface 98 (.agg #[.int .i64 x0,.int .i64 x1,.int .i64 x2])) w):=by
 have t1:=zlg
 have t2:=zlm
 have t3:=zls
 have t4:=zly
 have t5:=zl4
 have t6:=zma
 have t7:=zmg
 have t8:=zmm
 have t9:=zms
 have t10:=zif
 have t11:=zij
 have t12:=zim
 have t13:=zio
 have t14:=zip
 have t15:=zxs
 have HB:Hid (∀o,Below w.heap.size w (w.alloc o)):=zab w
 go_enter Tryz.func30,Tryz.ntmps30
 go_wp2_with fail
 go_ret
 exact ⟨rfl,HB.out _⟩
def Cts (B:Nat) (w:World) (a:Option Addr) (xs:List Ct):Prop:=0<xs.length→∃b off,a=some ⟨b,off,none⟩∧b<B∧∀j (h:j<xs.length),w.cell? ⟨b,off+j*3,none⟩=some (.int .i64 xs[j].d)∧w.cell? ⟨b,off+j*3+1,none⟩=some (.int .i64 xs[j].r)∧w.cell? ⟨b,off+j*3+2,none⟩=some (.int .i64 xs[j].c)
def Lts (B:Nat) (w:World) (a:Option Addr) (xs:List Lt):Prop:=0<xs.length→∃b off,a=some ⟨b,off,none⟩∧b<B∧∀j (h:j<xs.length),w.cell? ⟨b,off+j*2,none⟩=some (.string ⟨xs[j].i.toArray⟩)∧w.cell? ⟨b,off+j*2+1,none⟩=some (.int .i64 xs[j].q)
theorem Cts.keep {B:Nat} {w w':World} {a:Option Addr} {xs:List Ct} (h:Cts B w a xs) (hb:Below B w w'):Cts B w' a xs:=fun h0=>by
 obtain ⟨b,off,rfl,hB,hc⟩:=h h0
 exact ⟨b,off,rfl,hB,fun j hj=>⟨(hb.cell (by exact hB)).trans (hc j hj).1,(hb.cell (by exact hB)).trans (hc j hj).2.1,(hb.cell (by exact hB)).trans (hc j hj).2.2⟩⟩
theorem Cts.mono {B C:Nat} {w:World} {a:Option Addr} {xs:List Ct} (h:Cts B w a xs) (hb:B≤C):Cts C w a xs:=fun h0=>by
 obtain ⟨b,off,rfl,hB,hc⟩:=h h0
 exact ⟨b,off,rfl,Nat.lt_of_lt_of_le hB hb,hc⟩
theorem Lts.keep {B:Nat} {w w':World} {a:Option Addr} {xs:List Lt} (h:Lts B w a xs) (hb:Below B w w'):Lts B w' a xs:=fun h0=>by
 obtain ⟨b,off,rfl,hB,hc⟩:=h h0
 exact ⟨b,off,rfl,hB,fun j hj=>⟨(hb.cell (by exact hB)).trans (hc j hj).1,(hb.cell (by exact hB)).trans (hc j hj).2⟩⟩
theorem Lts.mono {B C:Nat} {w:World} {a:Option Addr} {xs:List Lt} (h:Lts B w a xs) (hb:B≤C):Lts C w a xs:=fun h0=>by
 obtain ⟨b,off,rfl,hB,hc⟩:=h h0
 exact ⟨b,off,rfl,Nat.lt_of_lt_of_le hB hb,hc⟩
theorem KP.mk {v u:Value} {w w':World} (h:u=v) (hb:Below w.heap.size w w'):KP v w (.returned u) w':=⟨by rw [h],hb⟩
theorem zdx {α:Type} {l:List α} {k:Nat} (h:k<l.length):l.drop k=l[k]::l.drop (k+1):=List.drop_eq_getElem_cons h
theorem zmt {α:Type} {p:α→Bool} {l:List α} {k:Nat} (h:k<l.length):(l.drop k).all p=(p l[k]&&(l.drop (k+1)).all p):=by
 rw [zdx h,List.all_cons]
theorem zvg (xs:List Ct) (a:Option Addr) (cap:Nat) (w:World) (hC:Cts w.heap.size w a xs) (hl:xs.length≤9223372036854775807) (g:Bool) (hg:xs.all zdu=g):Calls Tryz.prog 43 #[.slice a xs.length cap] w (KP (.bool g) w):=by
 have HI:Hid (Cts w.heap.size w a xs):=hC
 have HG:Hid (xs.all zdu=g):=hg
 clear hC hg
 go_enter Tryz.func43,Tryz.ntmps43
 go_wp2_with fail
 go_loopw [7] (fun i wr=>∃(k:Nat),i=.int .i64 k∧k≤xs.length∧Hid ((xs.drop k).all zdu=g)∧Hid (Below w.heap.size w wr)) (fun i _=>xs.length-(Lib.intOf i).toNat)
 case atStart=>exact ⟨0,rfl,Nat.zero_le _,HG,Below.refl _ _⟩
 case round=>
  obtain ⟨k,rfl,hk,HK,HB⟩:=hrel
  by_cases hkn:k<xs.length
  ·have hkz:(k:Int)<(xs.length:Int):=by omega
   obtain ⟨b,off,rfl,hbl,hce⟩:=HI.out (by omega)
   obtain ⟨h1,h2,h3⟩:=hce k hkn
   have hc1:wr.cell? ⟨b,off+k*3,none⟩=some (.int .i64 xs[k].d):=(HB.out.cell (by exact hbl)).trans h1
   have hc2:wr.cell? ⟨b,off+k*3+1,none⟩=some (.int .i64 xs[k].r):=(HB.out.cell (by exact hbl)).trans h2
   have hc3:wr.cell? ⟨b,off+k*3+2,none⟩=some (.int .i64 xs[k].c):=(HB.out.cell (by exact hbl)).trans h3
   have HK2:Hid ((zdu xs[k]&&(xs.drop (k+1)).all zdu)=g):=by unfold Hid;rw [← zmt hkn];exact HK.out
   have HB2:Hid (∀o,Below w.heap.size w (wr.alloc o)):=fun o=>HB.out.alloc HB.out.size _
   clear hce h1 h2 h3 HK
   unfold zdu at HK2
   generalize xs[k].d=d at *
   generalize xs[k].r=r at *
   generalize xs[k].c=c at *
   by_cases e1:inn d 0 200000=true
   ·by_cases e2:inn r 0 20=true
    ·by_cases e3:inn c 0 999999=true
     ·have HK3:Hid ((xs.drop (k+1)).all zdu=g):=by have:=HK2.out;rw [e1,e2,e3] at this;exact this
      clear HK2
      go_wp2_with (first | (go_at_call 39;refine (zay _ _ _ _ (by first | exact e1 | exact e3) _).mono ?_;rintro e w2 ⟨rfl,rfl⟩) | (go_at_call 41;refine (zbw _ _ e2 _).mono ?_;rintro e w2 ⟨rfl,rfl⟩))
      exact ⟨⟨k+1,by go_num,by omega,HK3,HB2.out _⟩,by simp [Lib.intOf];omega⟩
     ·have e3:inn c 0 999999=false:=by simpa using e3
      have HK3:Hid (false=g):=by have:=HK2.out;rw [e1,e2,e3] at this;exact this
      clear HK2
      go_wp2_with (first | (go_at_call 39;refine (zay _ _ _ _ (by first | exact e1 | exact e3) _).mono ?_;rintro e w2 ⟨rfl,rfl⟩) | (go_at_call 41;refine (zbw _ _ e2 _).mono ?_;rintro e w2 ⟨rfl,rfl⟩))
      go_ret
      exact KP.mk (congrArg Value.bool HK3.out) (HB2.out _)
    ·have e2:inn r 0 20=false:=by simpa using e2
     have HK3:Hid (false=g):=by have:=HK2.out;rw [e1,e2] at this;exact this
     clear HK2
     go_wp2_with (first | (go_at_call 39;refine (zay _ _ _ _ e1 _).mono ?_;rintro e w2 ⟨rfl,rfl⟩) | (go_at_call 41;refine (zbw _ _ e2 _).mono ?_;rintro e w2 ⟨rfl,rfl⟩))
     go_ret
     exact KP.mk (congrArg Value.bool HK3.out) (HB2.out _)
   ·have e1:inn d 0 200000=false:=by simpa using e1
    have HK3:Hid (false=g):=by have:=HK2.out;rw [e1] at this;exact this
    clear HK2
    go_wp2_with (go_at_call 39;refine (zay _ _ _ _ e1 _).mono ?_;rintro e w2 ⟨rfl,rfl⟩)
    go_ret
    exact KP.mk (congrArg Value.bool HK3.out) (HB2.out _)
  ·have hkz:¬ (k:Int)<(xs.length:Int):=by omega
   have HK3:Hid (true=g):=by have:=HK.out;rw [List.drop_of_length_le (by omega)] at this;exact this
   go_wp2_with fail
   go_ret
   exact KP.mk (congrArg Value.bool HK3.out) HB.out
theorem bt {w w1 w2:World} (h:Below w.heap.size w w1) (k:Below w1.heap.size w1 w2):Below w.heap.size w w2:=h.trans (k.mono h.size)
theorem zmu (d:Int) (g:Bool) (h:inn d 0 200000=g) (w:World):Calls Tryz.prog 161 #[.agg #[.int .i64 d]] w (KP (.int .i64 (if g then (0:Nat) else 10:Nat)) w):=by
 have HB:Hid (Below w.heap.size w (w.alloc (.cells #[.int .i64 d] 74))):=zab w _
 have HC:Hid (∀w,Calls Tryz.prog 163 #[.int .i64 d] w (NP .i64 (if g then (0:Nat) else 10:Nat) w)):=fun w=>zue d g h w
 generalize (if g then (0:Nat) else 10:Nat)=n at *
 go_enter Tryz.func161,Tryz.ntmps161
 go_wp2_with (go_at_call 163;refine (HC.out _).mono ?_;rintro e w2 ⟨rfl,rfl⟩)
 go_ret
 exact KP.mk rfl HB.out
theorem zmv (d:Int) (g:Bool) (h:inn d 0 200000=g) (w:World):Calls Tryz.prog 12 #[.iface 74 (.agg #[.int .i64 d])] w (KP (.int .i64 (if g then (0:Nat) else 10:Nat)) w):=by
 have HC:Hid (∀w,Calls Tryz.prog 161 #[.agg #[.int .i64 d]] w (KP (.int .i64 (if g then (0:Nat) else 10:Nat)) w)):=fun w=>zmu d g h w
 generalize (if g then (0:Nat) else 10:Nat)=n at *
 go_enter Tryz.func12,Tryz.ntmps12
 go_wp2_with fail
 refine (ziq d _).mono ?_
 rintro e w2 ⟨rfl,hb⟩
 go_wp2_with fail
 refine (HC.out _).mono ?_
 rintro e w3 ⟨rfl,hb3⟩
 have HB:Hid (Below w.heap.size w w3):=bt hb.out hb3.out
 clear hb hb3
 go_wp2_with fail
 go_ret
 exact KP.mk rfl HB.out
def Bx (w:World) (b:Nat) (cs:Array Value) (T:Nat):Prop:=w.heap[b]? = some (.cells cs T (0,0))
theorem Bx.new (w:World) (cs:Array Value) (T:Nat):Bx (w.alloc (.cells cs T)) w.heap.size cs T:=heap_alloc_new w _
theorem Bx.cell {w:World} {b:Nat} {cs:Array Value} {T:Nat} (h:Bx w b cs T) (j:Nat):w.cell? ⟨b,j,none⟩=cs[j]?:=cell_of_row w b j _ T (0,0) h
theorem Bx.lt {w:World} {b:Nat} {cs:Array Value} {T:Nat} (h:Bx w b cs T):b<w.heap.size:=(Array.getElem?_eq_some_iff.1 h).1
theorem Bx.keep {w w':World} {b:Nat} {cs:Array Value} {T:Nat} (h:Bx w b cs T) (hb:Below w.heap.size w w'):Bx w' b cs T:=(hb.block b h.lt).trans h
theorem Bx.drewN {w:World} {b:Nat} {cs:Array Value} {T:Nat} (h:Bx w b cs T) (n:Nat):Bx (w.drewN n) b cs T:=h
theorem Bx.bw {B p:Nat} {w w':World} {b:Nat} {cs:Array Value} {T:Nat} (h:Bx w b cs T) (k:Bw B p w w') (hT:T≠5) (hp:b≠p):Bx w' b cs T:=k.2 b cs T h hT hp
theorem Bw.drewN {B p:Nat} {w w':World} (h:Bw B p w w') (n:Nat):Bw B p w (w'.drewN n):=⟨⟨h.1.os,h.1.tape,h.1.output,h.1.size,h.1.block⟩,h.2⟩
theorem zsj (B p:Nat) (v:Value) (l:List UInt8) (d:Int) (hd:I64 d) (w:World) (h:Wm B w p v l) (hl:l.length≤1000000000):Calls Tryz.prog 162 #[.agg #[.int .i64 d],.pointer (some ⟨p,0,none⟩)] w (WP B p (l++zbj d) w):=by
 have HW:Hid (Wm B (w.alloc (.cells #[.int .i64 d] 74)) p v l):=h.alloc _
 have HB:Hid (Bw B p w (w.alloc (.cells #[.int .i64 d] 74))):=(Bw.refl B p w).alloc h.bw _
 have HX:Hid (Bx (w.alloc (.cells #[.int .i64 d] 74)) w.heap.size #[.int .i64 d] 74):=Bx.new _ _ _
 have hbp:w.heap.size≠p:=Nat.ne_of_gt h.lt
 clear h
 go_enter Tryz.func162,Tryz.ntmps162
 go_wp2_with fail
 generalize w.alloc (.cells #[.int .i64 d] 74)=w1 at *
 generalize w.heap.size=b at *
 have c0:w1.cell? ⟨b,0,none⟩=some (.int .i64 d):=HX.out.cell 0
 have HKP:Hid (∀(n:Nat) (w5:World),Bw B p (w1.drewN n) w5→w5.cell? ⟨b,0,none⟩=some (.int .i64 d)):=fun n w5 k=>((HX.out.drewN n).bw k (by decide) hbp).cell 0
 go_region_held3 (fun w'=>w'.cell? ⟨b,0,none⟩=some (.int .i64 d)) (first | go_keep | exact HKP.out _ _ HB5.out) (first | (go_at_call 47;go_must (refine (zxk B p v l d hd _ (HW.out.drewN _) (by omega)).mono ?_;rintro e w5 ⟨rfl,v5,HW5,HB5⟩)))
 have HB6:Hid (Bw B p w w5):=(HB.out.drewN _).trans HB5.out
 clear HB5 HB HW
 go_wp2_with fail
 go_returns
 exact ⟨rfl,v5,HW5,HB6⟩
theorem Wm.new (w:World):Wm w.heap.size (w.alloc (.cells #[.slice none 0 0] 117)) w.heap.size (.slice none 0 0) []:=⟨Nat.le_refl _,heap_alloc_new w _,⟨rfl,.inl ⟨rfl,rfl⟩⟩⟩
theorem li {l:List UInt8} {n:Int} (h:I64 n):(l++zbj n).length≤l.length+10:=by rw [List.length_append];have:=(zcp (zjq h)).2;unfold zbj;omega
theorem lt {l s:List UInt8} (h:s.length≤1000):(l++zci s).length≤l.length+1010:=by unfold zci;rw [List.length_append,List.length_append];have:=(zcp (n:=s.length) (by omega)).2;omega
theorem lb {l:List UInt8} {b:Bool} : (l++zgv b).length≤l.length+10:=by rw [List.length_append];show l.length+1≤_;omega
theorem zan (w:World) (o:Obj):(w.alloc o).heap.size=w.heap.size+1:=by simp
def ah {α:Type} (xs:List α):Nat→Option α
 | 0=>none
 | k+1=>xs[k]?
theorem zir {xs:List Int} {k:Nat} (h:k<xs.length):zdc (ah xs k) (xs.drop k)=(inn xs[k] 0 9999&&(zub (ah xs k) xs[k]&&zdc (ah xs (k+1)) (xs.drop (k+1)))):=by
 rw [zdx h]
 show (_&&(_&&zdc (some xs[k]) _))=_
 rw [show ah xs (k+1)=some xs[k] from List.getElem?_eq_getElem h]
theorem zn4 (xs:List Int) (a:Option Addr) (cap:Nat) (w:World) (hC:Ins w.heap.size w a xs) (hl:xs.length≤9223372036854775807) (g:Bool) (hg:zdc none xs=g):Calls Tryz.prog 44 #[.slice a xs.length cap] w (KP (.bool g) w):=by
  have HI:Hid (Ins w.heap.size w a xs):=hC
  have HG:Hid (zdc (ah xs 0) (xs.drop 0)=g):=hg
  clear hC hg
  go_enter Tryz.func44,Tryz.ntmps44
  go_wp2_with fail
  go_loopw [7] (fun i wr=>∃(k:Nat),i=.int .i64 k∧k≤xs.length∧Hid (zdc (ah xs k) (xs.drop k)=g)∧wr=w) (fun i _=>xs.length-(Lib.intOf i).toNat)
  case atStart=>exact ⟨0,rfl,Nat.zero_le _,HG,rfl⟩
  case round=>
    clear HG
    obtain ⟨k,rfl,hk,HK,rfl⟩:=hrel
    by_cases hkn:k<xs.length
    · have hkz : (k : Int) < (xs.length : Int) := by omega
      obtain ⟨b,off,rfl,hbl,hce⟩:=HI.out (by omega)
      have HK2:Hid ((inn xs[k] 0 9999&&(zub (ah xs k) xs[k]&&zdc (ah xs (k+1)) (xs.drop (k+1))))=g):=by unfold Hid;rw [← zir hkn];exact HK.out
      have hc1:=hce k hkn
      clear HK
      by_cases e1:inn xs[k] 0 9999=true
      · cases k with
        | zero =>
          have HK3:Hid (zdc (ah xs 1) (xs.drop 1)=g):=by have:=HK2.out;rw [e1] at this;exact this
          clear HK2 hce
          have hc0:wr.cell? ⟨b,off,none⟩=some (.int .i64 xs[0]):=hc1
          generalize xs[0]=n at *
          go_wp2_with (go_at_call 39;refine (zay _ _ _ _ e1 _).mono ?_;rintro e w2 ⟨rfl,rfl⟩)
          exact ⟨⟨1,by go_num,by omega,HK3,trivial⟩,by simp [Lib.intOf];omega⟩
        | succ j =>
          have hc2:wr.cell? ⟨b,off+j,none⟩=some (.int .i64 xs[j]):=hce j (by omega)
          have hp:ah xs (j+1)=some xs[j]:=List.getElem?_eq_getElem _
          have HK3:Hid ((decide (xs[j]<xs[j+1])&&zdc (ah xs (j+1+1)) (xs.drop (j+1+1)))=g):=by have:=HK2.out;rw [e1,hp] at this;exact this
          clear HK2 hce hp
          generalize xs[j+1]=n at *
          generalize xs[j]=m at *
          by_cases e2:n≤m
          · have HK4 : Hid (false = g) := by have := HK3.out; rw [decide_eq_false (by omega)] at this; exact this
            clear HK3
            go_wp2_with (go_at_call 39;refine (zay _ _ _ _ e1 _).mono ?_;rintro e w2 ⟨rfl,rfl⟩)
            go_ret
            exact KP.mk (congrArg Value.bool HK4.out) (Below.refl _ _)
          · have HK4 : Hid (zdc (ah xs (j + 1 + 1)) (xs.drop (j + 1 + 1)) = g) := by have := HK3.out; rw [decide_eq_true (by omega)] at this; exact this
            clear HK3
            go_wp2_with (go_at_call 39;refine (zay _ _ _ _ e1 _).mono ?_;rintro e w2 ⟨rfl,rfl⟩)
            exact ⟨⟨j+1+1,by go_num,by omega,HK4,trivial⟩,by simp [Lib.intOf];omega⟩
      · have e1 : inn xs[k] 0 9999 = false := by simpa using e1
        have HK3:Hid (false=g):=by have:=HK2.out;rw [e1] at this;exact this
        clear HK2
        have hc0:k=0→wr.cell? ⟨b,off,none⟩=some (.int .i64 xs[k]):=by rintro rfl;exact hc1
        clear hce
        generalize xs[k]=n at *
        go_wp2_with (go_at_call 39;refine (zay _ _ _ _ e1 _).mono ?_;rintro e w2 ⟨rfl,rfl⟩)
        go_ret
        exact KP.mk (congrArg Value.bool HK3.out) (Below.refl _ _)
    · have hkz : ¬ (k : Int) < (xs.length : Int) := by omega
      have HK3:Hid (true=g):=by have:=HK.out;rw [List.drop_of_length_le (by omega)] at this;exact this
      go_wp2_with fail
      go_ret
      exact KP.mk (congrArg Value.bool HK3.out) (Below.refl _ _)
theorem zn5 (n:Nat):inn (n:Int) 1 64=(decide (1≤n)&&decide (n≤64)):=by
 unfold inn
 rw [decide_eq_decide.2 (show (1:Int)≤n↔1≤n by omega),decide_eq_decide.2 (show (n:Int)≤64↔n≤64 by omega)]
theorem ff {b:Bool} (h:b=false):¬ b=true:=by rw [h];exact Bool.false_ne_true
theorem zbd (b:Bk):bkE C0 b=if inn b.id 1 64=true then if amt b.ver=true then if inn b.rat 0 20=true then if inn b.iss 0 1000000=true then if inn b.ass 0 1000000=true then if inn (b.cuts.length:Int) 1 64=true then if decide (b.bar.length≤64)=true then if decide (0≤b.least)=true then if inn b.most b.least 200000=true then if C0.cu b.cur=true then if b.cuts.all zdu=true then if zdc none b.bar=true then 0 else 1 else 1 else 11 else 10 else 10 else 1 else 1 else 1 else 1 else 1 else 1 else 1:=by
  rw [zn5]
  unfold bkE
  cases inn b.id 1 64 with
  | false=>rfl
  | true =>
    cases amt b.ver with
    | false=>rfl
    | true =>
      cases inn b.rat 0 20 with
      | false=>rfl
      | true =>
        cases inn b.iss 0 1000000 with
        | false=>rfl
        | true =>
          cases inn b.ass 0 1000000 with
          | false=>rfl
          | true =>
            cases decide (1≤b.cuts.length) with
            | false=>rfl
            | true =>
              cases decide (b.cuts.length≤64) with
              | false=>rfl
              | true =>
                cases decide (b.bar.length≤64) with
                | false=>rfl
                | true =>
                  cases decide (0≤b.least) with
                  | false=>rfl
                  | true =>
                    cases inn b.most b.least 200000 with
                    | false=>rfl
                    | true =>
                      cases C0.cu b.cur with
                      | false=>rfl
                      | true =>
                        cases b.cuts.all zdu with
                        | false=>rfl
                        | true =>
                          cases zdc none b.bar with
                          | false=>rfl
                          | true =>
                            rfl
theorem zn6 (b:Bk) (ca ba:Option Addr) (cc bc:Nat) (w:World) (hC:Cts w.heap.size w ca b.cuts) (hI:Ins w.heap.size w ba b.bar) (hlc:b.cuts.length≤9223372036854775807) (hlb:b.bar.length≤9223372036854775807) (g:Nat) (hg:bkE C0 b=g):Calls Tryz.prog 16 #[.agg #[.int .i64 b.id,.int .i64 b.ver,.string ⟨b.cur.toArray⟩,.int .i64 b.rat,.int .i64 b.least,.int .i64 b.most,.slice ca b.cuts.length cc,.int .i64 b.iss,.int .i64 b.ass,.slice ba b.bar.length bc]] w (KP (.int .i64 g) w):=by
 have HG:Hid (bkE C0 b=g):=hg
 have HB:Hid (Below w.heap.size w (w.alloc (.cells #[.int .i64 b.id,.int .i64 b.ver,.string ⟨b.cur.toArray⟩,.int .i64 b.rat,.int .i64 b.least,.int .i64 b.most,.slice ca b.cuts.length cc,.int .i64 b.iss,.int .i64 b.ass,.slice ba b.bar.length bc] 27))):=zab w _
 have HC:Hid (Cts (w.heap.size+1) (w.alloc (.cells #[.int .i64 b.id,.int .i64 b.ver,.string ⟨b.cur.toArray⟩,.int .i64 b.rat,.int .i64 b.least,.int .i64 b.most,.slice ca b.cuts.length cc,.int .i64 b.iss,.int .i64 b.ass,.slice ba b.bar.length bc] 27)) ca b.cuts):=(hC.keep HB.out).mono (by omega)
 have HI:Hid (Ins (w.heap.size+1) (w.alloc (.cells #[.int .i64 b.id,.int .i64 b.ver,.string ⟨b.cur.toArray⟩,.int .i64 b.rat,.int .i64 b.least,.int .i64 b.most,.slice ca b.cuts.length cc,.int .i64 b.iss,.int .i64 b.ass,.slice ba b.bar.length bc] 27)) ba b.bar):=(hI.keep HB.out).mono (by omega)
 have hz:(w.alloc (.cells #[.int .i64 b.id,.int .i64 b.ver,.string ⟨b.cur.toArray⟩,.int .i64 b.rat,.int .i64 b.least,.int .i64 b.most,.slice ca b.cuts.length cc,.int .i64 b.iss,.int .i64 b.ass,.slice ba b.bar.length bc] 27)).heap.size=w.heap.size+1:=by simp
 clear hg hC hI
 go_enter Tryz.func16,Tryz.ntmps16
 by_cases e1:inn b.id 1 64=true
 ·by_cases e2:amt b.ver=true
  ·by_cases e3:inn b.rat 0 20=true
   ·by_cases e4:inn b.iss 0 1000000=true
    ·by_cases e5:inn b.ass 0 1000000=true
     ·by_cases e6:inn (b.cuts.length:Int) 1 64=true
      ·by_cases e7:decide (b.bar.length≤64)=true
       ·have e7n:¬ (b.bar.length:Int) > 64:=by have:=of_decide_eq_true e7;omega
        by_cases e8:decide (0≤b.least)=true
        ·have e8n:¬ b.least<0:=by have:=of_decide_eq_true e8;omega
         by_cases e9:inn b.most b.least 200000=true
         ·obtain ⟨e9n,e9m⟩:¬ b.most<b.least∧¬ b.most > 200000:=by unfold inn at e9;rw [Bool.and_eq_true,decide_eq_true_iff,decide_eq_true_iff] at e9;omega
          by_cases ec:C0.cu b.cur=true
          ·go_wp2_with (first | (go_at_call 39;refine (zay _ _ _ _ (by first | exact e1 | exact e3 | exact e4 | exact e5 | exact e6) _).mono ?_;rintro e w2 ⟨rfl,rfl⟩) | (go_at_call 40;refine (za1 _ _ e2 _).mono ?_;rintro e w2 ⟨rfl,rfl⟩) | (go_at_call 41;refine (zbw _ _ e3 _).mono ?_;rintro e w2 ⟨rfl,rfl⟩) | (go_at_call 42;refine (zfv _ _ ec _).mono ?_;rintro e w2 ⟨rfl,rfl⟩))
           refine (zvg b.cuts ca cc _ (by rw [hz];exact HC.out) hlc _ rfl).mono ?_
           rintro e w2 ⟨rfl,hb⟩
           have HB2:Hid (Below w.heap.size w w2):=HB.out.trans (hb.out.mono (by rw [hz];omega))
           by_cases ed:b.cuts.all zdu=true
           ·rw [ed]
            have HI2:Hid (Ins w2.heap.size w2 ba b.bar):=((HI.out.mono (by rw [hz];omega)).keep hb.out).mono hb.out.size
            have c9:w2.cell? ⟨w.heap.size,9,none⟩=some (.slice ba b.bar.length bc):=(hb.out.cell (by show w.heap.size<_;rw [hz];omega)).trans ((cell_of_row _ _ 9 _ 27 (0,0) (heap_alloc_new w _)).trans rfl)
            clear hb
            go_wp2_with fail
            refine (zn4 b.bar ba bc _ HI2.out hlb _ rfl).mono ?_
            rintro e w3 ⟨rfl,hb3⟩
            have HB3:Hid (Below w.heap.size w w3):=HB2.out.trans (hb3.out.mono HB2.out.size)
            clear hb3
            by_cases ee:zdc none b.bar=true
            ·rw [ee]
             have HG2:Hid (0=g):=by have:=HG.out;rw [zbd,if_pos e1,if_pos e2,if_pos e3,if_pos e4,if_pos e5,if_pos e6,if_pos e7,if_pos e8,if_pos e9,if_pos ec,if_pos ed,if_pos ee] at this;exact this
             clear HG
             go_wp2_with fail
             go_ret
             exact KP.mk (by rw [← HG2.out];rfl) HB3.out
            ·have ee:zdc none b.bar=false:=by simpa using ee
             rw [ee]
             have HG2:Hid (1=g):=by have:=HG.out;rw [zbd,if_pos e1,if_pos e2,if_pos e3,if_pos e4,if_pos e5,if_pos e6,if_pos e7,if_pos e8,if_pos e9,if_pos ec,if_pos ed,if_neg (ff ee)] at this;exact this
             clear HG
             go_wp2_with fail
             go_ret
             exact KP.mk (by rw [← HG2.out];rfl) HB3.out
           ·have ed:b.cuts.all zdu=false:=by simpa using ed
            rw [ed]
            have HG2:Hid (1=g):=by have:=HG.out;rw [zbd,if_pos e1,if_pos e2,if_pos e3,if_pos e4,if_pos e5,if_pos e6,if_pos e7,if_pos e8,if_pos e9,if_pos ec,if_neg (ff ed)] at this;exact this
            clear HG
            go_wp2_with fail
            go_ret
            exact KP.mk (by rw [← HG2.out];rfl) HB2.out
          ·have ec:C0.cu b.cur=false:=by simpa using ec
           have HG2:Hid (11=g):=by have:=HG.out;rw [zbd,if_pos e1,if_pos e2,if_pos e3,if_pos e4,if_pos e5,if_pos e6,if_pos e7,if_pos e8,if_pos e9,if_neg (ff ec)] at this;exact this
           clear HG
           go_wp2_with (first | (go_at_call 39;refine (zay _ _ _ _ (by first | exact e1 | exact e3 | exact e4 | exact e5 | exact e6) _).mono ?_;rintro e w2 ⟨rfl,rfl⟩) | (go_at_call 40;refine (za1 _ _ e2 _).mono ?_;rintro e w2 ⟨rfl,rfl⟩) | (go_at_call 41;refine (zbw _ _ e3 _).mono ?_;rintro e w2 ⟨rfl,rfl⟩) | (go_at_call 42;refine (zfv _ _ ec _).mono ?_;rintro e w2 ⟨rfl,rfl⟩))
           go_ret
           exact KP.mk (by rw [← HG2.out];rfl) HB.out
         ·have e9:inn b.most b.least 200000=false:=by simpa using e9
          have HG2:Hid (10=g):=by have:=HG.out;rw [zbd,if_pos e1,if_pos e2,if_pos e3,if_pos e4,if_pos e5,if_pos e6,if_pos e7,if_pos e8,if_neg (ff e9)] at this;exact this
          clear HG
          by_cases e9n:b.most<b.least
          ·go_wp2_with (first | (go_at_call 39;refine (zay _ _ _ _ (by first | exact e1 | exact e3 | exact e4 | exact e5 | exact e6) _).mono ?_;rintro e w2 ⟨rfl,rfl⟩) | (go_at_call 40;refine (za1 _ _ e2 _).mono ?_;rintro e w2 ⟨rfl,rfl⟩) | (go_at_call 41;refine (zbw _ _ e3 _).mono ?_;rintro e w2 ⟨rfl,rfl⟩) | (go_at_call 42;refine (zfv _ _ ec _).mono ?_;rintro e w2 ⟨rfl,rfl⟩))
           go_ret
           exact KP.mk (by rw [← HG2.out];rfl) HB.out
          ·have e9m:b.most > 200000:=by unfold inn at e9;rw [Bool.and_eq_false_iff,decide_eq_false_iff_not,decide_eq_false_iff_not] at e9;omega
           go_wp2_with (first | (go_at_call 39;refine (zay _ _ _ _ (by first | exact e1 | exact e3 | exact e4 | exact e5 | exact e6) _).mono ?_;rintro e w2 ⟨rfl,rfl⟩) | (go_at_call 40;refine (za1 _ _ e2 _).mono ?_;rintro e w2 ⟨rfl,rfl⟩) | (go_at_call 41;refine (zbw _ _ e3 _).mono ?_;rintro e w2 ⟨rfl,rfl⟩) | (go_at_call 42;refine (zfv _ _ ec _).mono ?_;rintro e w2 ⟨rfl,rfl⟩))
           go_ret
           exact KP.mk (by rw [← HG2.out];rfl) HB.out
        ·have e8:decide (0≤b.least)=false:=by simpa using e8
         have HG2:Hid (10=g):=by have:=HG.out;rw [zbd,if_pos e1,if_pos e2,if_pos e3,if_pos e4,if_pos e5,if_pos e6,if_pos e7,if_neg (ff e8)] at this;exact this
         clear HG
         have e8n:b.least<0:=by have:=of_decide_eq_false e8;omega
         go_wp2_with (first | (go_at_call 39;refine (zay _ _ _ _ (by first | exact e1 | exact e3 | exact e4 | exact e5 | exact e6) _).mono ?_;rintro e w2 ⟨rfl,rfl⟩) | (go_at_call 40;refine (za1 _ _ e2 _).mono ?_;rintro e w2 ⟨rfl,rfl⟩) | (go_at_call 41;refine (zbw _ _ e3 _).mono ?_;rintro e w2 ⟨rfl,rfl⟩) | (go_at_call 42;refine (zfv _ _ ec _).mono ?_;rintro e w2 ⟨rfl,rfl⟩))
         go_ret
         exact KP.mk (by rw [← HG2.out];rfl) HB.out
       ·have e7:decide (b.bar.length≤64)=false:=by simpa using e7
        have HG2:Hid (1=g):=by have:=HG.out;rw [zbd,if_pos e1,if_pos e2,if_pos e3,if_pos e4,if_pos e5,if_pos e6,if_neg (ff e7)] at this;exact this
        clear HG
        have e7n:(b.bar.length:Int) > 64:=by have:=of_decide_eq_false e7;omega
        go_wp2_with (first | (go_at_call 39;refine (zay _ _ _ _ (by first | exact e1 | exact e3 | exact e4 | exact e5 | exact e6) _).mono ?_;rintro e w2 ⟨rfl,rfl⟩) | (go_at_call 40;refine (za1 _ _ e2 _).mono ?_;rintro e w2 ⟨rfl,rfl⟩) | (go_at_call 41;refine (zbw _ _ e3 _).mono ?_;rintro e w2 ⟨rfl,rfl⟩) | (go_at_call 42;refine (zfv _ _ ec _).mono ?_;rintro e w2 ⟨rfl,rfl⟩))
        go_ret
        exact KP.mk (by rw [← HG2.out];rfl) HB.out
      ·have e6:inn (b.cuts.length:Int) 1 64=false:=by simpa using e6
       have HG2:Hid (1=g):=by have:=HG.out;rw [zbd,if_pos e1,if_pos e2,if_pos e3,if_pos e4,if_pos e5,if_neg (ff e6)] at this;exact this
       clear HG
       go_wp2_with (first | (go_at_call 39;refine (zay _ _ _ _ (by first | exact e1 | exact e3 | exact e4 | exact e5 | exact e6) _).mono ?_;rintro e w2 ⟨rfl,rfl⟩) | (go_at_call 40;refine (za1 _ _ e2 _).mono ?_;rintro e w2 ⟨rfl,rfl⟩) | (go_at_call 41;refine (zbw _ _ e3 _).mono ?_;rintro e w2 ⟨rfl,rfl⟩) | (go_at_call 42;refine (zfv _ _ ec _).mono ?_;rintro e w2 ⟨rfl,rfl⟩))
       go_ret
       exact KP.mk (by rw [← HG2.out];rfl) HB.out
     ·have e5:inn b.ass 0 1000000=false:=by simpa using e5
      have HG2:Hid (1=g):=by have:=HG.out;rw [zbd,if_pos e1,if_pos e2,if_pos e3,if_pos e4,if_neg (ff e5)] at this;exact this
      clear HG
      go_wp2_with (first | (go_at_call 39;refine (zay _ _ _ _ (by first | exact e1 | exact e3 | exact e4 | exact e5 | exact e6) _).mono ?_;rintro e w2 ⟨rfl,rfl⟩) | (go_at_call 40;refine (za1 _ _ e2 _).mono ?_;rintro e w2 ⟨rfl,rfl⟩) | (go_at_call 41;refine (zbw _ _ e3 _).mono ?_;rintro e w2 ⟨rfl,rfl⟩) | (go_at_call 42;refine (zfv _ _ ec _).mono ?_;rintro e w2 ⟨rfl,rfl⟩))
      go_ret
      exact KP.mk (by rw [← HG2.out];rfl) HB.out
    ·have e4:inn b.iss 0 1000000=false:=by simpa using e4
     have HG2:Hid (1=g):=by have:=HG.out;rw [zbd,if_pos e1,if_pos e2,if_pos e3,if_neg (ff e4)] at this;exact this
     clear HG
     go_wp2_with (first | (go_at_call 39;refine (zay _ _ _ _ (by first | exact e1 | exact e3 | exact e4 | exact e5 | exact e6) _).mono ?_;rintro e w2 ⟨rfl,rfl⟩) | (go_at_call 40;refine (za1 _ _ e2 _).mono ?_;rintro e w2 ⟨rfl,rfl⟩) | (go_at_call 41;refine (zbw _ _ e3 _).mono ?_;rintro e w2 ⟨rfl,rfl⟩) | (go_at_call 42;refine (zfv _ _ ec _).mono ?_;rintro e w2 ⟨rfl,rfl⟩))
     go_ret
     exact KP.mk (by rw [← HG2.out];rfl) HB.out
   ·have e3:inn b.rat 0 20=false:=by simpa using e3
    have HG2:Hid (1=g):=by have:=HG.out;rw [zbd,if_pos e1,if_pos e2,if_neg (ff e3)] at this;exact this
    clear HG
    go_wp2_with (first | (go_at_call 39;refine (zay _ _ _ _ (by first | exact e1 | exact e3 | exact e4 | exact e5 | exact e6) _).mono ?_;rintro e w2 ⟨rfl,rfl⟩) | (go_at_call 40;refine (za1 _ _ e2 _).mono ?_;rintro e w2 ⟨rfl,rfl⟩) | (go_at_call 41;refine (zbw _ _ e3 _).mono ?_;rintro e w2 ⟨rfl,rfl⟩) | (go_at_call 42;refine (zfv _ _ ec _).mono ?_;rintro e w2 ⟨rfl,rfl⟩))
    go_ret
    exact KP.mk (by rw [← HG2.out];rfl) HB.out
  ·have e2:amt b.ver=false:=by simpa using e2
   have HG2:Hid (1=g):=by have:=HG.out;rw [zbd,if_pos e1,if_neg (ff e2)] at this;exact this
   clear HG
   go_wp2_with (first | (go_at_call 39;refine (zay _ _ _ _ (by first | exact e1 | exact e3 | exact e4 | exact e5 | exact e6) _).mono ?_;rintro e w2 ⟨rfl,rfl⟩) | (go_at_call 40;refine (za1 _ _ e2 _).mono ?_;rintro e w2 ⟨rfl,rfl⟩) | (go_at_call 41;refine (zbw _ _ e3 _).mono ?_;rintro e w2 ⟨rfl,rfl⟩) | (go_at_call 42;refine (zfv _ _ ec _).mono ?_;rintro e w2 ⟨rfl,rfl⟩))
   go_ret
   exact KP.mk (by rw [← HG2.out];rfl) HB.out
 ·have e1:inn b.id 1 64=false:=by simpa using e1
  have HG2:Hid (1=g):=by have:=HG.out;rw [zbd,if_neg (ff e1)] at this;exact this
  clear HG
  go_wp2_with (first | (go_at_call 39;refine (zay _ _ _ _ (by first | exact e1 | exact e3 | exact e4 | exact e5 | exact e6) _).mono ?_;rintro e w2 ⟨rfl,rfl⟩) | (go_at_call 40;refine (za1 _ _ e2 _).mono ?_;rintro e w2 ⟨rfl,rfl⟩) | (go_at_call 41;refine (zbw _ _ e3 _).mono ?_;rintro e w2 ⟨rfl,rfl⟩) | (go_at_call 42;refine (zfv _ _ ec _).mono ?_;rintro e w2 ⟨rfl,rfl⟩))
  go_ret
  exact KP.mk (by rw [← HG2.out];rfl) HB.out
theorem zef {B:Nat} {a w:World} (h:Below B a w) (n:Nat):Below B a (w.drewN n):=⟨h.os,h.tape,h.output,h.size,h.block⟩
theorem zjl (n a b:Int) (g:Bool) (h:inn n a b=g) (w:World):Calls Tryz.prog 45 #[.int .i64 n,.int .i64 a,.int .i64 b] w fun e w'=>e=.returned (.bool g)∧w'=w:=(rin n a b g h w).mono fun _ _ ⟨he,hw⟩=>⟨he,hw.symm⟩
theorem zn7 (b:Bk) (ca ba:Option Addr) (cc bc:Nat) (w:World) (hC:Cts w.heap.size w ca b.cuts) (hI:Ins w.heap.size w ba b.bar) (hlc:b.cuts.length≤9223372036854775807) (hlb:b.bar.length≤9223372036854775807) (g:Nat) (hg:bkE C0 b=g):Calls Tryz.prog 17 #[.agg #[.int .i64 b.id,.int .i64 b.ver,.string ⟨b.cur.toArray⟩,.int .i64 b.rat,.int .i64 b.least,.int .i64 b.most,.slice ca b.cuts.length cc,.int .i64 b.iss,.int .i64 b.ass,.slice ba b.bar.length bc]] w (KP (.int .i64 g) w):=by
  have HG:Hid (bkE C0 b=g):=hg
  have HB:Hid (Below w.heap.size w (w.alloc (.cells #[.int .i64 b.id,.int .i64 b.ver,.string ⟨b.cur.toArray⟩,.int .i64 b.rat,.int .i64 b.least,.int .i64 b.most,.slice ca b.cuts.length cc,.int .i64 b.iss,.int .i64 b.ass,.slice ba b.bar.length bc] 27))):=zab w _
  have HC:Hid (Cts w.heap.size (w.alloc (.cells #[.int .i64 b.id,.int .i64 b.ver,.string ⟨b.cur.toArray⟩,.int .i64 b.rat,.int .i64 b.least,.int .i64 b.most,.slice ca b.cuts.length cc,.int .i64 b.iss,.int .i64 b.ass,.slice ba b.bar.length bc] 27)) ca b.cuts):=hC.keep HB.out
  have HI:Hid (Ins w.heap.size w ba b.bar):=hI
  have H6:Hid ((w.alloc (.cells #[.int .i64 b.id,.int .i64 b.ver,.string ⟨b.cur.toArray⟩,.int .i64 b.rat,.int .i64 b.least,.int .i64 b.most,.slice ca b.cuts.length cc,.int .i64 b.iss,.int .i64 b.ass,.slice ba b.bar.length bc] 27)).cell? ⟨w.heap.size,6,none⟩=some (.slice ca b.cuts.length cc)):=(cell_of_row _ _ 6 _ 27 (0,0) (heap_alloc_new w _)).trans rfl
  have H9:Hid ((w.alloc (.cells #[.int .i64 b.id,.int .i64 b.ver,.string ⟨b.cur.toArray⟩,.int .i64 b.rat,.int .i64 b.least,.int .i64 b.most,.slice ca b.cuts.length cc,.int .i64 b.iss,.int .i64 b.ass,.slice ba b.bar.length bc] 27)).cell? ⟨w.heap.size,9,none⟩=some (.slice ba b.bar.length bc)):=(cell_of_row _ _ 9 _ 27 (0,0) (heap_alloc_new w _)).trans rfl
  clear hg hC hI
  go_enter Tryz.func17,Tryz.ntmps17
  by_cases e1:inn b.id 1 64=true
  · by_cases e2 : amt b.ver = true
    · by_cases e3 : inn b.rat 0 20 = true
      · by_cases e4 : inn b.iss 0 1000000 = true
        · by_cases e5 : inn b.ass 0 1000000 = true
          · by_cases e6 : inn (b.cuts.length : Int) 1 64 = true
            · by_cases e7 : decide (b.bar.length ≤ 64) = true
              · have e7n : ¬ (b.bar.length : Int) > 64 := by have := of_decide_eq_true e7; omega
                by_cases e8:decide (0≤b.least)=true
                · have e8n : ¬ b.least < 0 := by have := of_decide_eq_true e8; omega
                  by_cases e9:inn b.most b.least 200000=true
                  · by_cases ec : C0.cu b.cur = true
                    · go_wp2_with (first | (go_at_call 45; refine (rin _ _ _ _ (by first | exact e1 | exact e3 | exact e4 | exact e5 | exact e6 | exact e9) _).mono ?_; rintro e w2 ⟨rfl, rfl⟩) | (go_at_call 46; refine (za6 _ _ e2 _).mono ?_; rintro e w2 ⟨rfl, rfl⟩) | (go_at_call 34; refine (zgi _ _ ec _).mono ?_; rintro e w2 ⟨rfl, rfl⟩))
                      generalize w.alloc (.cells #[.int .i64 b.id,.int .i64 b.ver,.string ⟨b.cur.toArray⟩,.int .i64 b.rat,.int .i64 b.least,.int .i64 b.most,.slice ca b.cuts.length cc,.int .i64 b.iss,.int .i64 b.ass,.slice ba b.bar.length bc] 27)=w1 at *
                      go_loopw [3] (fun i wr=>∃(k:Nat),i=.int .i64 k∧k≤b.cuts.length∧Hid ((b.cuts.drop k).all zdu=b.cuts.all zdu)∧wr=w1) (fun i _=>b.cuts.length-(Lib.intOf i).toNat)
                      case atStart=>exact ⟨0,rfl,Nat.zero_le _,rfl,rfl⟩
                      case round=>
                        obtain ⟨k,rfl,hk,HK,rfl⟩:=hrel
                        have h6:=H6.out
                        by_cases hkn:k<b.cuts.length
                        · have hkz : (k : Int) < (b.cuts.length : Int) := by omega
                          obtain ⟨q,off,rfl,hbl,hce⟩:=HC.out (by omega)
                          obtain ⟨h1,h2,h3⟩:=hce k hkn
                          have HK2:Hid ((zdu b.cuts[k]&&(b.cuts.drop (k+1)).all zdu)=b.cuts.all zdu):=by unfold Hid;rw [← zmt hkn];exact HK.out
                          clear hce HK
                          unfold zdu at HK2
                          generalize b.cuts[k].d=d at *
                          generalize b.cuts[k].r=r at *
                          generalize b.cuts[k].c=c at *
                          by_cases f1:inn d 0 200000=true
                          · by_cases f2 : inn r 0 20 = true
                            · by_cases f3 : inn c 0 999999 = true
                              · have HK3 : Hid ((b.cuts.drop (k + 1)).all zdu = b.cuts.all zdu) := by have := HK2.out; rw [f1, f2, f3] at this; exact this
                                clear HK2
                                go_wp2_with (go_at_call 45;refine (rin _ _ _ _ (by first | exact f1 | exact f2 | exact f3) _).mono ?_;rintro e w2 ⟨rfl,rfl⟩)
                                exact ⟨⟨k+1,by go_num,by omega,HK3,trivial⟩,by simp [Lib.intOf];omega⟩
                              · have f3 : inn c 0 999999 = false := by simpa using f3
                                have ed:b.cuts.all zdu=false:=by have:=HK2.out;rw [f1,f2,f3] at this;exact this.symm
                                have HG2:Hid (1=g):=by have:=HG.out;rw [zbd,if_pos e1,if_pos e2,if_pos e3,if_pos e4,if_pos e5,if_pos e6,if_pos e7,if_pos e8,if_pos e9,if_pos ec,if_neg (ff ed)] at this;exact this
                                clear HG
                                go_wp2_with (go_at_call 45;refine (rin _ _ _ _ (by first | exact f1 | exact f2 | exact f3) _).mono ?_;rintro e w2 ⟨rfl,rfl⟩)
                                go_ret
                                exact KP.mk (by rw [← HG2.out];rfl) HB.out
                            · have f2 : inn r 0 20 = false := by simpa using f2
                              have ed:b.cuts.all zdu=false:=by have:=HK2.out;rw [f1,f2] at this;exact this.symm
                              have HG2:Hid (1=g):=by have:=HG.out;rw [zbd,if_pos e1,if_pos e2,if_pos e3,if_pos e4,if_pos e5,if_pos e6,if_pos e7,if_pos e8,if_pos e9,if_pos ec,if_neg (ff ed)] at this;exact this
                              clear HG
                              go_wp2_with (go_at_call 45;refine (rin _ _ _ _ (by first | exact f1 | exact f2) _).mono ?_;rintro e w2 ⟨rfl,rfl⟩)
                              go_ret
                              exact KP.mk (by rw [← HG2.out];rfl) HB.out
                          · have f1 : inn d 0 200000 = false := by simpa using f1
                            have ed:b.cuts.all zdu=false:=by have:=HK2.out;rw [f1] at this;exact this.symm
                            have HG2:Hid (1=g):=by have:=HG.out;rw [zbd,if_pos e1,if_pos e2,if_pos e3,if_pos e4,if_pos e5,if_pos e6,if_pos e7,if_pos e8,if_pos e9,if_pos ec,if_neg (ff ed)] at this;exact this
                            clear HG
                            go_wp2_with (go_at_call 45;refine (rin _ _ _ _ (by first | exact f1) _).mono ?_;rintro e w2 ⟨rfl,rfl⟩)
                            go_ret
                            exact KP.mk (by rw [← HG2.out];rfl) HB.out
                        · have hkz : ¬ (k : Int) < (b.cuts.length : Int) := by omega
                          have ed:b.cuts.all zdu=true:=by have:=HK.out;rw [List.drop_of_length_le (by omega)] at this;exact this.symm
                          clear HK
                          go_wp2_with fail
                          clear h6
                          go_loopw [4] (fun i wr'=>∃(k:Nat),i=.int .i64 k∧k≤b.bar.length∧Hid (zdc (ah b.bar k) (b.bar.drop k)=zdc none b.bar)∧Hid (Below w.heap.size w wr'∧wr'.cell? ⟨w.heap.size,9,none⟩=some (.slice ba b.bar.length bc))) (fun i _=>b.bar.length-(Lib.intOf i).toNat)
                          case atStart=>exact ⟨0,rfl,Nat.zero_le _,rfl,HB.out,H9.out⟩
                          case round=>
                            clear HB H9
                            obtain ⟨k2,rfl,hk2,HK,HW⟩:=hrel
                            have h9:=HW.out.2
                            have HW2:Hid (∀m,Below w.heap.size w (wr.drewN m)∧(wr.drewN m).cell? ⟨w.heap.size,9,none⟩=some (.slice ba b.bar.length bc)):=fun m=>⟨zef HW.out.1 m,HW.out.2⟩
                            by_cases hkn2:k2<b.bar.length
                            · have hkz2 : (k2 : Int) < (b.bar.length : Int) := by omega
                              obtain ⟨q,off,rfl,hbl,hce⟩:=(HI.out.keep HW.out.1) (by omega)
                              have HK2:Hid ((inn b.bar[k2] 0 9999&&(zub (ah b.bar k2) b.bar[k2]&&zdc (ah b.bar (k2+1)) (b.bar.drop (k2+1))))=zdc none b.bar):=by unfold Hid;rw [← zir hkn2];exact HK.out
                              have hc1:=hce k2 hkn2
                              clear HK
                              by_cases f1:inn b.bar[k2] 0 9999=true
                              · cases k2 with
                                | zero =>
                                  have HK3:Hid (zdc (ah b.bar 1) (b.bar.drop 1)=zdc none b.bar):=by have:=HK2.out;rw [f1] at this;exact this
                                  clear HK2 hce
                                  have hc0:wr.cell? ⟨q,off,none⟩=some (.int .i64 b.bar[0]):=hc1
                                  generalize b.bar[0]=n at *
                                  go_wp2_with fail
                                  go_quiet ((go_at_call 45;refine Calls.quiet_of_same (zjl _ _ _ _ f1 _)))
                                  go_wp2_with fail
                                  exact ⟨⟨1,by go_num,by omega,HK3,HW2.out _⟩,by simp [Lib.intOf];omega⟩
                                | succ j =>
                                  have hc2:wr.cell? ⟨q,off+j,none⟩=some (.int .i64 b.bar[j]):=hce j (by omega)
                                  have hp:ah b.bar (j+1)=some b.bar[j]:=List.getElem?_eq_getElem _
                                  have HK3:Hid ((decide (b.bar[j]<b.bar[j+1])&&zdc (ah b.bar (j+1+1)) (b.bar.drop (j+1+1)))=zdc none b.bar):=by have:=HK2.out;rw [f1,hp] at this;exact this
                                  clear HK2 hce hp
                                  generalize b.bar[j+1]=n at *
                                  generalize b.bar[j]=m at *
                                  by_cases f2:n≤m
                                  · have ee : zdc none b.bar = false := by have := HK3.out; rw [decide_eq_false (by omega)] at this; exact this.symm
                                    have HG2:Hid (1=g):=by have:=HG.out;rw [zbd,if_pos e1,if_pos e2,if_pos e3,if_pos e4,if_pos e5,if_pos e6,if_pos e7,if_pos e8,if_pos e9,if_pos ec,if_pos ed,if_neg (ff ee)] at this;exact this
                                    clear HG
                                    clear HK3
                                    go_wp2_with fail
                                    go_quiet ((go_at_call 45;refine Calls.quiet_of_same (zjl _ _ _ _ f1 _)))
                                    go_wp2_with fail
                                    go_ret
                                    exact KP.mk (by rw [← HG2.out];rfl) (HW2.out _).1
                                  · have HK4 : Hid (zdc (ah b.bar (j + 1 + 1)) (b.bar.drop (j + 1 + 1)) = zdc none b.bar) := by have := HK3.out; rw [decide_eq_true (by omega)] at this; exact this
                                    clear HK3
                                    go_wp2_with fail
                                    go_quiet ((go_at_call 45;refine Calls.quiet_of_same (zjl _ _ _ _ f1 _)))
                                    go_wp2_with fail
                                    exact ⟨⟨j+1+1,by go_num,by omega,HK4,HW2.out _⟩,by simp [Lib.intOf];omega⟩
                              · have f1 : inn b.bar[k2] 0 9999 = false := by simpa using f1
                                have ee:zdc none b.bar=false:=by have:=HK2.out;rw [f1] at this;exact this.symm
                                have HG2:Hid (1=g):=by have:=HG.out;rw [zbd,if_pos e1,if_pos e2,if_pos e3,if_pos e4,if_pos e5,if_pos e6,if_pos e7,if_pos e8,if_pos e9,if_pos ec,if_pos ed,if_neg (ff ee)] at this;exact this
                                clear HG
                                clear HK2 hce
                                generalize b.bar[k2]=n at *
                                go_wp2_with fail
                                go_quiet ((go_at_call 45;refine Calls.quiet_of_same (zjl _ _ _ _ f1 _)))
                                go_wp2_with fail
                                go_ret
                                exact KP.mk (by rw [← HG2.out];rfl) (HW2.out _).1
                            · have hkz2 : ¬ (k2 : Int) < (b.bar.length : Int) := by omega
                              have ee:zdc none b.bar=true:=by have:=HK.out;rw [List.drop_of_length_le (by omega)] at this;exact this.symm
                              have HG2:Hid (0=g):=by have:=HG.out;rw [zbd,if_pos e1,if_pos e2,if_pos e3,if_pos e4,if_pos e5,if_pos e6,if_pos e7,if_pos e8,if_pos e9,if_pos ec,if_pos ed,if_pos ee] at this;exact this
                              clear HG HK
                              go_wp2_with fail
                              go_ret
                              exact KP.mk (by rw [← HG2.out];rfl) HW.out.1
                    · have ec : C0.cu b.cur = false := by simpa using ec
                      have HG2:Hid (11=g):=by have:=HG.out;rw [zbd,if_pos e1,if_pos e2,if_pos e3,if_pos e4,if_pos e5,if_pos e6,if_pos e7,if_pos e8,if_pos e9,if_neg (ff ec)] at this;exact this
                      clear HG
                      go_wp2_with (first | (go_at_call 45;refine (rin _ _ _ _ (by first | exact e1 | exact e3 | exact e4 | exact e5 | exact e6 | exact e9) _).mono ?_;rintro e w2 ⟨rfl,rfl⟩) | (go_at_call 46;refine (za6 _ _ e2 _).mono ?_;rintro e w2 ⟨rfl,rfl⟩) | (go_at_call 34;refine (zgi _ _ ec _).mono ?_;rintro e w2 ⟨rfl,rfl⟩))
                      go_ret
                      exact KP.mk (by rw [← HG2.out];rfl) HB.out
                  · have e9 : inn b.most b.least 200000 = false := by simpa using e9
                    have HG2:Hid (10=g):=by have:=HG.out;rw [zbd,if_pos e1,if_pos e2,if_pos e3,if_pos e4,if_pos e5,if_pos e6,if_pos e7,if_pos e8,if_neg (ff e9)] at this;exact this
                    clear HG
                    go_wp2_with (first | (go_at_call 45;refine (rin _ _ _ _ (by first | exact e1 | exact e3 | exact e4 | exact e5 | exact e6 | exact e9) _).mono ?_;rintro e w2 ⟨rfl,rfl⟩) | (go_at_call 46;refine (za6 _ _ e2 _).mono ?_;rintro e w2 ⟨rfl,rfl⟩) | (go_at_call 34;refine (zgi _ _ ec _).mono ?_;rintro e w2 ⟨rfl,rfl⟩))
                    go_ret
                    exact KP.mk (by rw [← HG2.out];rfl) HB.out
                · have e8 : decide (0 ≤ b.least) = false := by simpa using e8
                  have HG2:Hid (10=g):=by have:=HG.out;rw [zbd,if_pos e1,if_pos e2,if_pos e3,if_pos e4,if_pos e5,if_pos e6,if_pos e7,if_neg (ff e8)] at this;exact this
                  clear HG
                  have e8n:b.least<0:=by have:=of_decide_eq_false e8;omega
                  go_wp2_with (first | (go_at_call 45;refine (rin _ _ _ _ (by first | exact e1 | exact e3 | exact e4 | exact e5 | exact e6 | exact e9) _).mono ?_;rintro e w2 ⟨rfl,rfl⟩) | (go_at_call 46;refine (za6 _ _ e2 _).mono ?_;rintro e w2 ⟨rfl,rfl⟩) | (go_at_call 34;refine (zgi _ _ ec _).mono ?_;rintro e w2 ⟨rfl,rfl⟩))
                  go_ret
                  exact KP.mk (by rw [← HG2.out];rfl) HB.out
              · have e7 : decide (b.bar.length ≤ 64) = false := by simpa using e7
                have HG2:Hid (1=g):=by have:=HG.out;rw [zbd,if_pos e1,if_pos e2,if_pos e3,if_pos e4,if_pos e5,if_pos e6,if_neg (ff e7)] at this;exact this
                clear HG
                have e7n:(b.bar.length:Int) > 64:=by have:=of_decide_eq_false e7;omega
                go_wp2_with (first | (go_at_call 45;refine (rin _ _ _ _ (by first | exact e1 | exact e3 | exact e4 | exact e5 | exact e6 | exact e9) _).mono ?_;rintro e w2 ⟨rfl,rfl⟩) | (go_at_call 46;refine (za6 _ _ e2 _).mono ?_;rintro e w2 ⟨rfl,rfl⟩) | (go_at_call 34;refine (zgi _ _ ec _).mono ?_;rintro e w2 ⟨rfl,rfl⟩))
                go_ret
                exact KP.mk (by rw [← HG2.out];rfl) HB.out
            · have e6 : inn (b.cuts.length : Int) 1 64 = false := by simpa using e6
              have HG2:Hid (1=g):=by have:=HG.out;rw [zbd,if_pos e1,if_pos e2,if_pos e3,if_pos e4,if_pos e5,if_neg (ff e6)] at this;exact this
              clear HG
              go_wp2_with (first | (go_at_call 45;refine (rin _ _ _ _ (by first | exact e1 | exact e3 | exact e4 | exact e5 | exact e6 | exact e9) _).mono ?_;rintro e w2 ⟨rfl,rfl⟩) | (go_at_call 46;refine (za6 _ _ e2 _).mono ?_;rintro e w2 ⟨rfl,rfl⟩) | (go_at_call 34;refine (zgi _ _ ec _).mono ?_;rintro e w2 ⟨rfl,rfl⟩))
              go_ret
              exact KP.mk (by rw [← HG2.out];rfl) HB.out
          · have e5 : inn b.ass 0 1000000 = false := by simpa using e5
            have HG2:Hid (1=g):=by have:=HG.out;rw [zbd,if_pos e1,if_pos e2,if_pos e3,if_pos e4,if_neg (ff e5)] at this;exact this
            clear HG
            go_wp2_with (first | (go_at_call 45;refine (rin _ _ _ _ (by first | exact e1 | exact e3 | exact e4 | exact e5 | exact e6 | exact e9) _).mono ?_;rintro e w2 ⟨rfl,rfl⟩) | (go_at_call 46;refine (za6 _ _ e2 _).mono ?_;rintro e w2 ⟨rfl,rfl⟩) | (go_at_call 34;refine (zgi _ _ ec _).mono ?_;rintro e w2 ⟨rfl,rfl⟩))
            go_ret
            exact KP.mk (by rw [← HG2.out];rfl) HB.out
        · have e4 : inn b.iss 0 1000000 = false := by simpa using e4
          have HG2:Hid (1=g):=by have:=HG.out;rw [zbd,if_pos e1,if_pos e2,if_pos e3,if_neg (ff e4)] at this;exact this
          clear HG
          go_wp2_with (first | (go_at_call 45;refine (rin _ _ _ _ (by first | exact e1 | exact e3 | exact e4 | exact e5 | exact e6 | exact e9) _).mono ?_;rintro e w2 ⟨rfl,rfl⟩) | (go_at_call 46;refine (za6 _ _ e2 _).mono ?_;rintro e w2 ⟨rfl,rfl⟩) | (go_at_call 34;refine (zgi _ _ ec _).mono ?_;rintro e w2 ⟨rfl,rfl⟩))
          go_ret
          exact KP.mk (by rw [← HG2.out];rfl) HB.out
      · have e3 : inn b.rat 0 20 = false := by simpa using e3
        have HG2:Hid (1=g):=by have:=HG.out;rw [zbd,if_pos e1,if_pos e2,if_neg (ff e3)] at this;exact this
        clear HG
        go_wp2_with (first | (go_at_call 45;refine (rin _ _ _ _ (by first | exact e1 | exact e3 | exact e4 | exact e5 | exact e6 | exact e9) _).mono ?_;rintro e w2 ⟨rfl,rfl⟩) | (go_at_call 46;refine (za6 _ _ e2 _).mono ?_;rintro e w2 ⟨rfl,rfl⟩) | (go_at_call 34;refine (zgi _ _ ec _).mono ?_;rintro e w2 ⟨rfl,rfl⟩))
        go_ret
        exact KP.mk (by rw [← HG2.out];rfl) HB.out
    · have e2 : amt b.ver = false := by simpa using e2
      have HG2:Hid (1=g):=by have:=HG.out;rw [zbd,if_pos e1,if_neg (ff e2)] at this;exact this
      clear HG
      go_wp2_with (first | (go_at_call 45;refine (rin _ _ _ _ (by first | exact e1 | exact e3 | exact e4 | exact e5 | exact e6 | exact e9) _).mono ?_;rintro e w2 ⟨rfl,rfl⟩) | (go_at_call 46;refine (za6 _ _ e2 _).mono ?_;rintro e w2 ⟨rfl,rfl⟩) | (go_at_call 34;refine (zgi _ _ ec _).mono ?_;rintro e w2 ⟨rfl,rfl⟩))
      go_ret
      exact KP.mk (by rw [← HG2.out];rfl) HB.out
  · have e1 : inn b.id 1 64 = false := by simpa using e1
    have HG2:Hid (1=g):=by have:=HG.out;rw [zbd,if_neg (ff e1)] at this;exact this
    clear HG
    go_wp2_with (first | (go_at_call 45;refine (rin _ _ _ _ (by first | exact e1 | exact e3 | exact e4 | exact e5 | exact e6 | exact e9) _).mono ?_;rintro e w2 ⟨rfl,rfl⟩) | (go_at_call 46;refine (za6 _ _ e2 _).mono ?_;rintro e w2 ⟨rfl,rfl⟩) | (go_at_call 34;refine (zgi _ _ ec _).mono ?_;rintro e w2 ⟨rfl,rfl⟩))
    go_ret
    exact KP.mk (by rw [← HG2.out];rfl) HB.out
end Go.Proofs.YtdmlgheajblcdaaGreat
