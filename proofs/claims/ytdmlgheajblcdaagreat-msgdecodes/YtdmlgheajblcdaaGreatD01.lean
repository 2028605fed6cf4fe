/- layer 9, numbers: a number in groups of seven bits -/
import Derived.Test.YtdmlgheajblcdaaGreatRows
import Derived.WalkKit
import Derived.ProofKit
import Derived.Handy
import Derived.WalkLawsBesides
import Derived.WalkSpells
import Derived.BigQuiet
import Derived.BigCall
import Derived.Deep.QuietTactic
import Derived.Deep.Light
import Derived.Deep.OwnRows
import Derived.Laws.AppendOwnNone
import Derived.Laws.Strings3
import Derived.Laws.RangeAny
import Derived.Deep.RegionWith
import Derived.Lib.BitFns
import Derived.Lib.Walk
import Derived.Lib.Strings
import Derived.Lib.OthersKept
import Derived.Deep.CutBlock
import Derived.Deep.DeepCutAuto
import Derived.Deep.LoopGhost
import Derived.Deep.RegionHeld3
import Derived.Lib.SmallJoins
import Derived.Maps.AppendAt
import Derived.Laws.IdiomStrings
import Derived.Lib.AppendZeros
import Derived.Deep.WholeRow
import Derived.Laws.BitsAllLaws
import Derived.Lib.ConvBytes
import Derived.Deep.RegionLaw
namespace Go.Proofs.YtdmlgheajblcdaaGreat
set_option maxHeartbeats 16000000
set_option maxRecDepth 100000
open Go.RowKit
set_option linter.unusedVariables false
set_option linter.unusedSimpArgs false
def hiL:Nat→Nat→List UInt8
 | 0,_=>[]
 | k+1,n=>if n=0 then [] else hiL k (n / 128)++[UInt8.ofNat (128+n % 128)]
def zbr (n:Nat):List UInt8:=hiL 10 (n / 128)++[UInt8.ofNat (n % 128)]
def gv:Nat→List UInt8→Nat
 | n,[]=>n
 | n,c::l=>gv (n*128+c.toNat % 128) l
def rdF:List UInt8→Nat→Nat→Nat × Nat × Nat
 | [],_,_=>(14,0,0)
 | c::l,n,k=>if 144115188075855872≤n then (15,0,0) else if c.toNat<128 then (0,n*128+c.toNat,k+1) else rdF l (n*128+c.toNat % 128) (k+1)
def rdU (s:List UInt8):Nat × Nat × Nat:=if s.head? = some 128 then (15,0,0) else rdF s 0 0
theorem zhc (l m:List UInt8):∀n,gv n (l++m)=gv (gv n l) m:=by
 induction l with
 | nil=>intro n;rfl
 | cons c l ih=>intro n;exact ih _
theorem zhd (l:List UInt8):∀n,gv n l=n*128 ^ l.length+gv 0 l:=by
  induction l with
  | nil=>intro n;simp [gv]
  | cons c l ih =>
    intro n
    show gv (n*128+c.toNat % 128) l=_+gv (0*128+c.toNat % 128) l
    rw [ih (n*128+c.toNat % 128),ih (0*128+c.toNat % 128),List.length_cons,Nat.pow_succ,Nat.add_mul,Nat.mul_assoc,Nat.mul_comm 128,Nat.zero_mul,Nat.zero_add]
    omega
theorem zus (l:List UInt8):gv 0 l<128 ^ l.length:=by
  induction l with
  | nil=>simp [gv]
  | cons c l ih =>
    show gv (0*128+c.toNat % 128) l<_
    rw [zhd,List.length_cons,Nat.pow_succ,Nat.zero_mul,Nat.zero_add]
    have h1:c.toNat % 128<128:=Nat.mod_lt _ (by omega)
    have h2:(c.toNat % 128)*128 ^ l.length≤127*128 ^ l.length:=Nat.mul_le_mul_right _ (by omega)
    omega
theorem zut (l:List UInt8) (n:Nat):n≤gv n l:=by
 rw [zhd]
 have h:1≤128 ^ l.length:=Nat.one_le_pow _ _ (by omega)
 have:=Nat.mul_le_mul_left n h
 omega
def High (l:List UInt8):Prop:=∀c ∈ l,128≤c.toNat
theorem High.tail {c:UInt8} {l:List UInt8} (h:High (c::l)):High l:=fun x hx=>h x (List.mem_cons_of_mem _ hx)
theorem zjm (p:List UInt8):∀(q:List UInt8) (n k:Nat),High p→(∀a b,p=a++b→b≠[]→gv n a<144115188075855872)→rdF (p++q) n k=rdF q (gv n p) (k+p.length):=by
  induction p with
  | nil=>intro q n k _ _;rfl
  | cons c p ih =>
    intro q n k h hs
    have h0:¬ 144115188075855872≤n:=by have:=hs [] (c::p) rfl (by simp);simp only [gv] at this;omega
    have h1:¬ c.toNat<128:=by have:=h c (List.mem_cons_self ..);omega
    show (if _ then _ else if _ then _ else rdF (p++q) _ _)=_
    rw [if_neg h0,if_neg h1,ih q _ _ h.tail (fun a b e hb=>hs (c::a) b (by rw [e];rfl) hb),List.length_cons,Nat.add_assoc,Nat.add_comm 1]
    rfl
theorem zb6 (k:Nat):hiL k 0=[]:=by cases k<;>simp [hiL]
theorem zc9 {k n:Nat} (h:n≠0):hiL (k+1) n=hiL k (n / 128)++[UInt8.ofNat (128+n % 128)]:=by simp [hiL,h]
theorem zes (n:Nat):(UInt8.ofNat (128+n % 128)).toNat=128+n % 128:=by
 rw [UInt8.toNat_ofNat']
 have:n % 128<128:=Nat.mod_lt _ (by omega)
 omega
theorem zet (n:Nat):(UInt8.ofNat (n % 128)).toNat=n % 128:=by
 rw [UInt8.toNat_ofNat']
 have:n % 128<128:=Nat.mod_lt _ (by omega)
 omega
theorem zjn (k:Nat):∀n,High (hiL k n):=by
  induction k with
  | zero=>intro n c h;simp [hiL] at h
  | succ k ih =>
    intro n c h
    by_cases hn:n=0
    · rw [hn,zb6] at h;simp at h
    · rw [zc9 hn] at h
      rcases List.mem_append.mp h with h | h
      · exact ih _ c h
      · rw [List.mem_singleton.mp h,zes];omega
theorem zgb (k:Nat):∀n,n<128 ^ k→gv 0 (hiL k n)=n:=by
  induction k with
  | zero => intro n h; have : n = 0 := by simp at h; exact h
            rw [this];rfl
  | succ k ih =>
    intro n h
    by_cases hn:n=0
    · rw [hn,zb6];rfl
    · rw [zc9 hn, zhc, ih (n / 128) (by rw [Nat.pow_succ] at h; exact Nat.div_lt_of_lt_mul (by omega))]
      show n / 128*128+(UInt8.ofNat (128+n % 128)).toNat % 128=n
      rw [zes];omega
theorem zm1 (k:Nat):∀n a b,n<128 ^ k→hiL k n=a++b→b≠[]→gv 0 a≤n / 128:=by
  induction k with
  | zero=>intro n a b _ e hb;simp [hiL] at e;exact absurd e.2 hb
  | succ k ih =>
    intro n a b h e hb
    by_cases hn:n=0
    · rw [hn,zb6] at e;simp at e;exact absurd e.2 hb
    · have hk : n / 128 < 128 ^ k := by rw [Nat.pow_succ] at h; exact Nat.div_lt_of_lt_mul (by omega)
      rw [zc9 hn] at e
      rcases List.append_eq_append_iff.mp e with ⟨x,e1,e2⟩ | ⟨x,e1,e2⟩
      · cases x with
        | nil=>simp at e1;rw [e1,zgb k _ hk];omega
        | cons y x => 
          have:x++b=[]:=by simpa using (List.cons.inj e2).2.symm
          exact absurd (List.append_eq_nil_iff.mp this).2 hb
      · cases x with
        | nil=>simp at e1;rw [← e1,zgb k _ hk];omega
        | cons y x=>have:=ih (n / 128) a (y::x) hk e1 (by simp);omega
theorem zjo (k:Nat):∀n c l,n<128 ^ k→hiL k n=c::l→c≠128:=by
  induction k with
  | zero=>intro n c l _ e;simp [hiL] at e
  | succ k ih =>
    intro n c l h e
    by_cases hn:n=0
    · rw [hn,zb6] at e;simp at e
    · have hk : n / 128 < 128 ^ k := by rw [Nat.pow_succ] at h; exact Nat.div_lt_of_lt_mul (by omega)
      rw [zc9 hn] at e
      cases hh:hiL k (n / 128) with
      | nil =>
        rw [hh] at e
        have e1:UInt8.ofNat (128+n % 128)=c:=(List.cons.inj e).1
        have h0:n / 128=0:=by have:=zgb k _ hk;rw [hh] at this;exact this.symm
        intro hc
        have:(UInt8.ofNat (128+n % 128)).toNat=128:=by rw [e1,hc];rfl
        rw [zes] at this
        omega
      | cons y x =>
        rw [hh] at e
        rw [← (List.cons.inj e).1]
        exact ih _ y x hk hh
theorem zhe (n:Nat) (h:n<18446744073709551616) (r:List UInt8):(zbr n++r).head?≠some 128:=by
  unfold zbr
  cases hh:hiL 10 (n / 128) with
  | nil =>
    intro e
    have e1:UInt8.ofNat (n % 128)=128:=by simpa using e
    have:=congrArg UInt8.toNat e1
    rw [zet] at this
    have h2:(128:UInt8).toNat=128:=rfl
    omega
  | cons c l =>
    intro e
    have e1:c=128:=by simpa using e
    exact zjo 10 (n / 128) c l (by omega) hh e1
theorem zjp (n:Nat) (h:n<18446744073709551616) (r:List UInt8):rdU (zbr n++r)=(0,n,(zbr n).length):=by
 unfold rdU
 rw [if_neg (zhe n h r)]
 unfold zbr
 rw [List.append_assoc,zjm _ _ 0 0 (zjn _ _) (fun a b e hb=>by have:=zm1 10 (n / 128) a b (by omega) e hb;omega),zgb 10 _ (by omega)]
 show (if _ then _ else _)=_
 rw [if_neg (by omega),if_pos (by rw [zet];omega),zet,List.length_append]
 simp only [List.length_singleton,Nat.zero_add,Prod.mk.injEq,true_and,and_true]
 omega
theorem zqf (s:List UInt8):∀(n k m j:Nat),rdF s n k=(0,m,j)→∃p c q,s=p++c::q∧High p∧c.toNat<128∧gv n p<144115188075855872∧m=gv n p*128+c.toNat∧j=k+p.length+1:=by
  induction s with
  | nil=>intro n k m j h;simp [rdF] at h
  | cons c l ih =>
    intro n k m j h
    change (if 144115188075855872≤n then (15,0,0) else if c.toNat<128 then (0,n*128+c.toNat,k+1) else rdF l (n*128+c.toNat % 128) (k+1))=(0,m,j) at h
    by_cases h0:144115188075855872≤n
    · rw [if_pos h0] at h;simp at h
    rw [if_neg h0] at h
    by_cases h1:c.toNat<128
    · rw [if_pos h1] at h
      have e:=congrArg Prod.snd h
      simp only [Prod.mk.injEq] at e
      exact ⟨[],c,l,rfl,(fun _ h=>by simp at h),h1,by simp only [gv];omega,e.1.symm,e.2.symm⟩
    · rw [if_neg h1] at h
      obtain ⟨p,d,q,e,hp,hd,hg,hm,hj⟩:=ih _ _ _ _ h
      refine ⟨c::p,d,q,by rw [e];rfl,?_,hd,hg,hm,by rw [hj,List.length_cons];omega⟩
      intro x hx
      rcases List.mem_cons.mp hx with rfl | hx
      · omega
      · exact hp x hx
theorem zc5 (n:Nat) (p:List UInt8) (c:UInt8):gv n (p++[c])=gv n p*128+c.toNat % 128:=by rw [zhc];rfl
theorem zhf (c:UInt8) (l:List UInt8):gv 0 (c::l)=(c.toNat % 128)*128 ^ l.length+gv 0 l:=by
 show gv (0*128+c.toNat % 128) l=_
 rw [zhd,Nat.zero_mul,Nat.zero_add]
theorem zkz {p:List UInt8} (hp:High p) (h1:p≠[]) (h2:p.head?≠some 128):128 ^ (p.length-1)≤gv 0 p:=by
  cases p with
  | nil=>exact absurd rfl h1
  | cons c l =>
    rw [zhf]
    have hc:=hp c (List.mem_cons_self ..)
    have hn:c.toNat≠128:=fun e=>h2 (by rw [List.head?_cons];exact congrArg some (UInt8.toNat_inj.mp e))
    have hl:=c.toNat_lt
    have:1≤c.toNat % 128:=by omega
    have:=Nat.mul_le_mul_right (128 ^ l.length) this
    show 128 ^ l.length≤_
    omega
theorem zeu {p:List UInt8} {c:UInt8} (h:(p++[c]).head?≠some 128):p.head?≠some 128:=by
 cases p with
 | nil=>simp
 | cons d l=>exact h
theorem zuu (k:Nat):∀p,p.length≤k→High p→p.head?≠some 128→hiL k (gv 0 p)=p:=by
  induction k with
  | zero =>
    intro p h _ _
    have:p=[]:=List.length_eq_zero_iff.mp (by omega)
    rw [this];rfl
  | succ k ih =>
    intro p h hp hh
    by_cases h0:p=[]
    · rw [h0];rfl
    obtain ⟨q,c,rfl⟩:∃q c,p=q++[c]:=⟨p.dropLast,p.getLast h0,(List.dropLast_concat_getLast h0).symm⟩
    have hpos:=zkz hp h0 hh
    have h1:1≤128 ^ ((q++[c]).length-1):=Nat.one_le_pow _ _ (by omega)
    have hc:128≤c.toNat:=hp c (by simp)
    have hl:=c.toNat_lt
    have e1:gv 0 (q++[c]) / 128=gv 0 q:=by rw [zc5];omega
    have e2:128+gv 0 (q++[c]) % 128=c.toNat:=by rw [zc5];omega
    rw [zc9 (by omega),e1,e2,ih q (by simp at h;omega) (fun x hx=>hp x (by simp [hx])) (zeu hh),UInt8.ofNat_toNat]
theorem zfa {s:List UInt8} {m j:Nat} (h:rdU s=(0,m,j)):m<18446744073709551616∧zbr m=s.take j∧1≤j∧j≤10∧j≤s.length:=by
 unfold rdU at h
 by_cases h0:s.head? = some 128
 ·rw [if_pos h0] at h;simp at h
 rw [if_neg h0] at h
 obtain ⟨p,c,q,e,hp,hc,hg,hm,hj⟩:=zqf s 0 0 m j h
 have hh:p.head?≠some 128:=by
  cases p with
  | nil=>simp
  | cons d l=>rw [e] at h0;exact h0
 have hlen:p.length≤9:=by
  apply Classical.byContradiction
  intro hn
  have h1:p≠[]:=fun e=>by rw [e] at hn;simp at hn
  have hpos:=zkz hp h1 hh
  have:128 ^ 9≤128 ^ (p.length-1):=Nat.pow_le_pow_right (by omega) (by omega)
  omega
 refine ⟨by omega,?_,by omega,by omega,by rw [e];simp;omega⟩
 have e1:m / 128=gv 0 p:=by omega
 have e2:m % 128=c.toNat:=by omega
 unfold zbr
 rw [e1,e2,zuu 10 p (by omega) hp hh,UInt8.ofNat_toNat,e,hj,Nat.zero_add]
 rw [show p++c::q=(p++[c])++q by simp,List.take_left' (by simp)]
theorem zm2 (s:List UInt8):∀n k,(rdF s n k).1=0∨rdF s n k=(14,0,0)∨rdF s n k=(15,0,0):=by
  induction s with
  | nil=>intro n k;exact .inr (.inl rfl)
  | cons c l ih =>
    intro n k
    show (if _ then _ else if _ then _ else rdF l _ _).1=0∨(if _ then _ else if _ then _ else rdF l _ _)=_∨(if _ then _ else if _ then _ else rdF l _ _)=_
    split
    · exact .inr (.inr rfl)
    · split
      · exact .inl rfl
      · exact ih _ _
theorem zm3 (s:List UInt8):(rdU s).1=0∨rdU s=(14,0,0)∨rdU s=(15,0,0):=by
 unfold rdU
 split
 ·exact .inr (.inr rfl)
 ·exact zm2 s 0 0
theorem zm4 {p:List UInt8} (hp:High p) (hh:p.head?≠some 128) (h10:p.length≤10):144115188075855872≤gv 0 p↔p.length=10∨p.length=9∧∃c,p.head? = some c∧129<c.toNat:=by
  cases p with
  | nil=>simp [gv]
  | cons c l =>
    have hc:=hp c (List.mem_cons_self ..)
    have hl:=c.toNat_lt
    have hlt:=zus l
    have hn:c.toNat≠128:=fun e=>hh (by rw [List.head?_cons];exact congrArg some (UInt8.toNat_inj.mp e))
    rw [zhf,List.length_cons]
    rw [List.length_cons] at h10
    have hx:(∃d,(c::l).head? = some d∧129<d.toNat)↔129<c.toNat:=⟨fun ⟨d,e,h⟩=>by rw [List.head?_cons] at e;rw [Option.some.inj e];exact h,fun h=>⟨c,rfl,h⟩⟩
    rw [hx]
    by_cases h7:l.length≤7
    · have h1 : 128 ^ l.length ≤ 128 ^ 7 := Nat.pow_le_pow_right (by omega) h7
      have h2:(c.toNat % 128)*128 ^ l.length≤127*128 ^ l.length:=Nat.mul_le_mul_right _ (by omega)
      omega
    · have h89 : l.length = 8 ∨ l.length = 9 := by omega
      rcases h89 with h8 | h8<;>rw [h8] at hlt ⊢<;>omega
def fo (n:Int):Nat:=if n<0 then (-2*n-1).toNat else (2*n).toNat
def un (u:Nat):Int:=if u % 2=1 then -1-((u / 2:Nat):Int) else ((u / 2:Nat):Int)
def I64 (n:Int):Prop:=-9223372036854775808≤n∧n≤9223372036854775807
theorem zuv (u:Nat):fo (un u)=u:=by
 unfold un fo
 split<;>split<;>omega
theorem zjq {n:Int} (h:I64 n):fo n<18446744073709551616:=by
 unfold fo
 have:=h.1;have:=h.2
 split<;>omega
theorem zqg {u:Nat} (h:u<18446744073709551616):I64 (un u):=by
 unfold un I64
 split<;>omega
def zbj (n:Int):List UInt8:=zbr (fo n)
def zci (t:List UInt8):List UInt8:=zbr t.length++t
def zgv (b:Bool):List UInt8:=[if b then 1 else 0]
def zdz:List Int→List UInt8
 | []=>[]
 | n::l=>zbj n++zdz l
def zct (l:List Int):List UInt8:=zbr l.length++zdz l
structure Rd where
 s:List UInt8
 at_:Nat
 e:Nat
def Rd.fl (r:Rd) (e:Nat):Rd:=if r.e=0 then { r with e:=e } else r
def zas (r:Rd):Rd × Nat:=
 if r.e≠0 then (r,0) else if (rdU (r.s.drop r.at_)).1=0 then ({ r with at_:=r.at_+(rdU (r.s.drop r.at_)).2.2 },(rdU (r.s.drop r.at_)).2.1) else ({ r with e:=(rdU (r.s.drop r.at_)).1 },0)
def zah (r:Rd):Rd × Int:=((zas r).1,un (zas r).2)
def zai (r:Rd) (most:Int):Rd × Nat:=
 if (zas r).1.e≠0 then ((zas r).1,0) else if (((zas r).2:Nat):Int) > most then (r.fl 2,0) else zas r
def za4 (r:Rd) (most:Int):Rd × List UInt8:=
 if (zai r most).1.e≠0 then ((zai r most).1,[]) else if r.s.length<(zai r most).1.at_+(zai r most).2 then (r.fl 14,[]) else
  ({ r with at_:=(zai r most).1.at_+(zai r most).2 },(r.s.drop (zai r most).1.at_).take (zai r most).2)
def zbn (r:Rd):Rd × Bool:=
 if r.e≠0 then (r,false) else match r.s[r.at_]? with
  | none=>({ r with e:=14 },false)
  | some c=>if 1<c.toNat then ({ r with e:=15 },false) else ({ r with at_:=r.at_+1 },c.toNat==1)
def rIs:Nat→Rd→Rd × List Int
 | 0,r=>(r,[])
 | n+1,r=>if r.e≠0 then (r,[]) else ((rIs n (zah r).1).1,(zah r).2::(rIs n (zah r).1).2)
def zbq (r:Rd) (most:Int):Rd × List Int:=
 if (rIs (zai r most).2 (zai r most).1).1.e≠0 then ((rIs (zai r most).2 (zai r most).1).1,[]) else rIs (zai r most).2 (zai r most).1
def zbg (r:Rd):Rd × Bool:=((if r.at_<r.s.length then r.fl 16 else r),(if r.at_<r.s.length then r.fl 16 else r).e==0)
theorem zb7 {r:Rd} (h:r.e≠0):zas r=(r,0):=by unfold zas;rw [if_pos h]
theorem zcz {r:Rd} (h:r.e≠0):zah r=(r,0):=by unfold zah;rw [zb7 h];show (r,un 0)=_;simp [un]
theorem zc0 {r:Rd} (h:r.e≠0) (m:Int):zai r m=(r,0):=by unfold zai;rw [zb7 h,if_pos h]
theorem zcu {r:Rd} (h:r.e≠0) (m:Int):za4 r m=(r,[]):=by unfold za4;rw [zc0 h,if_pos h]
theorem zda {r:Rd} (h:r.e≠0):zbn r=(r,false):=by unfold zbn;rw [if_pos h]
theorem zfb {r:Rd} (h:r.e≠0) (m:Int):zbq r m=(r,[]):=by
 unfold zbq;rw [zc0 h]
 show (if (rIs 0 r).1.e≠0 then ((rIs 0 r).1,[]) else rIs 0 r)=_
 rw [if_pos (show (rIs 0 r).1.e≠0 from h)]
 rfl
theorem zhg {r:Rd} (h:r.e≠0) (e:Nat):r.fl e=r:=by unfold Rd.fl;rw [if_neg h]
theorem zdb {r:Rd} (h:r.e≠0):zbg r=(r,false):=by
 unfold zbg
 rw [zhg h,ite_self]
 simp [h]
theorem zcp {n:Nat} (h:n<18446744073709551616):1≤(zbr n).length∧(zbr n).length≤10:=by
 have h1:=zjp n h []
 have:=zfa h1
 exact ⟨this.2.2.1,this.2.2.2.1⟩
theorem zhh (l:List Int) (h:∀n ∈ l,I64 n):(zdz l).length≤10*l.length:=by
  induction l with
  | nil=>simp [zdz]
  | cons n l ih =>
    have h1:=(zcp (zjq (h n (List.mem_cons_self ..)))).2
    have h2:=ih (fun x hx=>h x (List.mem_cons_of_mem _ hx))
    simp only [zdz,zbj,List.length_append,List.length_cons]
    omega
def Rd.Ok (r:Rd):Prop:=r.at_≤r.s.length
theorem zbv {r:Rd} (h:r.Ok):(zas r).1.Ok∧(zas r).1.s=r.s∧r.at_≤(zas r).1.at_∧(zas r).2<18446744073709551616:=by
 unfold zas
 split
 ·exact ⟨h,rfl,Nat.le_refl _,by simp⟩
 ·split
  ·next h1 h2=>
   have hk:=zfa (s:=r.s.drop r.at_) (m:=(rdU (r.s.drop r.at_)).2.1) (j:=(rdU (r.s.drop r.at_)).2.2) (by rw [← h2])
   rw [List.length_drop] at hk
   refine ⟨?_,rfl,Nat.le_add_right ..,hk.1⟩
   show r.at_+_≤r.s.length
   have:r.at_≤r.s.length:=h
   omega
  ·exact ⟨h,rfl,Nat.le_refl _,by simp⟩
theorem zfw {r:Rd} (h:r.Ok):(zah r).1.Ok∧(zah r).1.s=r.s∧I64 (zah r).2:=⟨(zbv h).1,(zbv h).2.1,zqg (zbv h).2.2.2⟩
theorem zqh {r:Rd} (h:r.Ok) (e:Nat):(r.fl e).Ok∧(r.fl e).s=r.s:=by
 unfold Rd.fl
 split
 ·exact ⟨h,rfl⟩
 ·exact ⟨h,rfl⟩
theorem zbt {r:Rd} (h:r.Ok) (m:Int):(zai r m).1.Ok∧(zai r m).1.s=r.s:=by
 unfold zai
 split
 ·exact ⟨(zbv h).1,(zbv h).2.1⟩
 ·split
  ·exact zqh h 2
  ·exact ⟨(zbv h).1,(zbv h).2.1⟩
theorem zk0 (n:Nat):∀{r:Rd},r.Ok→(rIs n r).1.Ok∧(rIs n r).1.s=r.s:=by
  induction n with
  | zero=>intro r h;exact ⟨h,rfl⟩
  | succ n ih =>
    intro r h
    unfold rIs
    split
    · exact ⟨h,rfl⟩
    · have h1 := zfw h
      have h2:=ih h1.1
      exact ⟨h2.1,h2.2.trans h1.2.1⟩
theorem zjr {r:Rd} (h:r.Ok) (m:Int):(za4 r m).1.Ok∧(za4 r m).1.s=r.s:=by
 unfold za4
 split
 ·exact zbt h m
 ·split
  ·exact zqh h 14
  ·next h1 h2=>exact ⟨(by show (zai r m).1.at_+(zai r m).2≤r.s.length;omega),rfl⟩
theorem zjs {r:Rd} (h:r.Ok):(zbn r).1.Ok∧(zbn r).1.s=r.s:=by
 unfold zbn
 split
 ·exact ⟨h,rfl⟩
 ·split
  ·exact ⟨h,rfl⟩
  ·next c hc=>
   split
   ·exact ⟨h,rfl⟩
   ·refine ⟨?_,rfl⟩
    have:=(List.getElem?_eq_some_iff.mp hc).1
    exact this
theorem zjt {r:Rd} (h:r.Ok) (m:Int):(zbq r m).1.Ok∧(zbq r m).1.s=r.s:=by
 have h1:=zbt h m
 have h2:=zk0 (zai r m).2 h1.1
 unfold zbq
 split
 ·exact ⟨h2.1,h2.2.trans h1.2⟩
 ·exact ⟨h2.1,h2.2.trans h1.2⟩
structure Lt where
 i:List UInt8
 q:Int
structure Ct where
 d:Int
 r:Int
 c:Int
structure Ast where
 i:List UInt8
 iss:Int
 rat:Int
 mat:Int
 cur:List UInt8
structure Bk where
 id:Int
 ver:Int
 cur:List UInt8
 rat:Int
 least:Int
 most:Int
 cuts:List Ct
 iss:Int
 ass:Int
 bar:List Int
structure Qu where
 id:Int
 mem:Int
 side:Int
 bas:Int
 am:Int
 rate:Int
 st:Int
 en:Int
structure Mg where
 k:Int
 mem:Int
 name:List UInt8
 a:Ast
 b:Bk
 ps:List Lt
 day:Int
 t:List UInt8
 n:Int
 q:Qu
 out:Lt
 ins:List Lt
 tr:Int
 done:Bool
 rate:Int
def Lt.z:Lt:=⟨[],0⟩
def Ast.z:Ast:=⟨[],0,0,0,[]⟩
def Bk.z:Bk:=⟨0,0,[],0,0,0,[],0,0,[]⟩
def Qu.z:Qu:=⟨0,0,0,0,0,0,0,0⟩
def Mg.z:Mg:=⟨0,0,[],Ast.z,Bk.z,[],0,[],0,Qu.z,Lt.z,[],0,false,0⟩
structure Cks where
 nm:List UInt8→Nat
 is:List UInt8→Nat
 cu:List UInt8→Bool
 ast:Ast→Nat
 gd:Int→Bool
 le:List UInt8→List UInt8→Bool
structure Cks.Ok (C:Cks):Prop where
 nm:∀s,C.nm s=0→s.length≤160
 is:∀s,C.is s=0→s.length≤12
 cu:∀s,C.cu s=true→s.length≤12
 ast:∀a,C.ast a=0→a.i.length≤12∧a.cur.length≤12
def inn (n a b:Int):Bool:=decide (a≤n)&&decide (n≤b)
def amt (n:Int):Bool:=inn n 1 1125899906842624
def mbr (n:Int):Bool:=inn n 1 32
def sgn (n:Int):Bool:=amt n||(decide (n<0)&&decide (-1125899906842624≤n))
def zb0 (C:Cks) (n:Int):Nat:=if C.gd n then 0 else 10
def zdo (C:Cks) (l:Lt):Nat:=if amt l.q then C.is l.i else 1
def zb3 (C:Cks):List Lt→Nat
 | []=>0
 | l::r=>if zdo C l=0 then zb3 C r else zdo C l
def zdu (c:Ct):Bool:=inn c.d 0 200000&&(inn c.r 0 20&&inn c.c 0 999999)
def zub (p:Option Int) (n:Int):Bool:=match p with
 | none=>true
 | some m=>decide (m<n)
def zdc:Option Int→List Int→Bool
 | _,[]=>true
 | p,n::l=>inn n 0 9999&&(zub p n&&zdc (some n) l)
def bkE (C:Cks) (b:Bk):Nat:=
 if !(inn b.id 1 64&&(amt b.ver&&(inn b.rat 0 20&&(inn b.iss 0 1000000&&(inn b.ass 0 1000000&&(decide (1≤b.cuts.length)&&(decide (b.cuts.length≤64)&&decide (b.bar.length≤64)))))))) then 1
 else if !(decide (0≤b.least)&&inn b.most b.least 200000) then 10
 else if !C.cu b.cur then 11
 else if !(b.cuts.all zdu) then 1
 else if !(zdc none b.bar) then 1 else 0
def quE (C:Cks) (q:Qu):Nat:=
 if !(amt q.id&&(inn q.side 1 2&&(inn q.bas 1 64&&(amt q.am&&inn q.rate (-1000000) 1000000)))) then 1
 else if !(C.gd q.st&&(decide (q.en=0)||(C.gd q.en&&inn (q.en-q.st) 1 3660))) then 10 else 0
def zm5 (C:Cks) (p:Option (List UInt8)) (i:List UInt8):Bool:=match p with
 | none=>true
 | some m=>!C.le i m
def zeg (C:Cks):Option (List UInt8)→List Lt→Nat
 | _,[]=>0
 | p,l::r=>if C.is l.i≠0 then C.is l.i else if !(inn l.q 1 4294967296&&zm5 C p l.i) then 31 else zeg C (some l.i) r
def prE (C:Cks) (l:List Lt):Nat:=if l.length=0∨64<l.length then 2 else zeg C none l
def zcb (C:Cks) (m:Mg):Nat:=
 if m.k=1 then (if mbr m.mem then C.nm m.name else 1)
 else if m.k=2 then C.ast m.a
 else if m.k=3 then bkE C m.b
 else if m.k=4 then prE C m.ps
 else if m.k=5 then zb0 C m.day
 else if m.k=6 then (if C.cu m.t then (if mbr m.mem&&sgn m.n then 0 else 1) else 11)
 else if m.k=7 then (if mbr m.mem&&sgn m.n then C.is m.t else 1)
 else if m.k=8 then (if mbr m.q.mem then quE C m.q else 1)
 else if m.k=9 then (if mbr m.mem&&amt m.n then 0 else 1)
 else if m.k=10 then (if mbr m.mem&&amt m.tr then zb0 C m.day else 1)
 else if m.k=11 then (if mbr m.mem&&(amt m.tr&&decide (m.ins.length≤64)) then zb3 C (m.out::m.ins) else 1)
 else if m.k=12 then (if mbr m.mem then zb0 C m.day else 1)
 else if m.k=13 then (if mbr m.mem then 0 else 1)
 else if m.k=14 then (if mbr m.mem&&inn m.n 0 1125899906842624 then 0 else 1)
 else if m.k=15 then (if amt m.tr&&inn m.rate (-1000000) 1000000 then zb0 C m.day else 1)
 else 17
def zc2 (l:Lt):List UInt8:=zci l.i++zbj l.q
def zm6 (c:Ct):List UInt8:=zbj c.d++(zbj c.r++zbj c.c)
def zdd {α:Type} (f:α→List UInt8):List α→List UInt8
 | []=>[]
 | x::l=>f x++zdd f l
def bkL (b:Bk):List UInt8:=zbj b.id++(zbj b.ver++(zbj b.rat++(zbj b.least++(zbj b.most++(zbj b.iss++(zbj b.ass++(zci b.cur++(zbr b.cuts.length++(zdd zm6 b.cuts++zct b.bar)))))))))
def quL (q:Qu):List UInt8:=zbj q.id++(zbj q.mem++(zbj q.side++(zbj q.bas++(zbj q.am++(zbj q.rate++(zbj q.st++zbj q.en))))))
def zb8 (m:Mg):List UInt8:=
 if m.k=1 then zbj m.mem++zci m.name
 else if m.k=2 then zci m.a.i++(zbj m.a.iss++(zbj m.a.rat++(zbj m.a.mat++zci m.a.cur)))
 else if m.k=3 then bkL m.b
 else if m.k=4 then zbr m.ps.length++zdd zc2 m.ps
 else if m.k=5 then zbj m.day
 else if m.k=6 then zbj m.mem++(zbj m.n++zci m.t)
 else if m.k=7 then zbj m.mem++(zbj m.n++zci m.t)
 else if m.k=8 then quL m.q
 else if m.k=9 then zbj m.mem++zbj m.n
 else if m.k=10 then zbj m.mem++(zbj m.tr++zbj m.day)
 else if m.k=11 then zbj m.mem++(zbj m.tr++(zc2 m.out++(zbr m.ins.length++zdd zc2 m.ins)))
 else if m.k=12 then zbj m.mem++(zbj m.day++zgv m.done)
 else if m.k=13 then zbj m.mem
 else if m.k=14 then zbj m.mem++zbj m.n
 else if m.k=15 then zbj m.tr++(zbj m.day++zbj m.rate)
 else []
def zuw (m:Mg):List UInt8:=zbj m.k++zb8 m
structure Mg.Wf (m:Mg):Prop where
 k:I64 m.k
 mem:I64 m.mem
 a:I64 m.a.iss∧I64 m.a.rat∧I64 m.a.mat
 b:I64 m.b.id∧I64 m.b.ver∧I64 m.b.rat∧I64 m.b.least∧I64 m.b.most∧I64 m.b.iss∧I64 m.b.ass∧(∀c ∈ m.b.cuts,I64 c.d∧I64 c.r∧I64 c.c)∧∀n ∈ m.b.bar,I64 n
 ps:∀l ∈ m.ps,I64 l.q
 day:I64 m.day
 n:I64 m.n
 q:I64 m.q.id∧I64 m.q.mem∧I64 m.q.side∧I64 m.q.bas∧I64 m.q.am∧I64 m.q.rate∧I64 m.q.st∧I64 m.q.en
 out:I64 m.out.q
 ins:∀l ∈ m.ins,I64 l.q
 tr:I64 m.tr
 rate:I64 m.rate
def zak (m:Mg):Mg:=
 if m.k=1 then { Mg.z with k:=1,mem:=m.mem,name:=m.name }
 else if m.k=2 then { Mg.z with k:=2,a:=m.a }
 else if m.k=3 then { Mg.z with k:=3,b:=m.b }
 else if m.k=4 then { Mg.z with k:=4,ps:=m.ps }
 else if m.k=5 then { Mg.z with k:=5,day:=m.day }
 else if m.k=6 then { Mg.z with k:=6,mem:=m.mem,t:=m.t,n:=m.n }
 else if m.k=7 then { Mg.z with k:=7,mem:=m.mem,t:=m.t,n:=m.n }
 else if m.k=8 then { Mg.z with k:=8,q:=m.q }
 else if m.k=9 then { Mg.z with k:=9,mem:=m.mem,n:=m.n }
 else if m.k=10 then { Mg.z with k:=10,mem:=m.mem,tr:=m.tr,day:=m.day }
 else if m.k=11 then { Mg.z with k:=11,mem:=m.mem,tr:=m.tr,out:=m.out,ins:=m.ins }
 else if m.k=12 then { Mg.z with k:=12,mem:=m.mem,day:=m.day,done:=m.done }
 else if m.k=13 then { Mg.z with k:=13,mem:=m.mem }
 else if m.k=14 then { Mg.z with k:=14,mem:=m.mem,n:=m.n }
 else if m.k=15 then { Mg.z with k:=15,tr:=m.tr,day:=m.day,rate:=m.rate }
 else { Mg.z with k:=m.k }
def za9 (r:Rd):Rd × Lt:=((zah (za4 r 12).1).1,⟨(za4 r 12).2,(zah (za4 r 12).1).2⟩)
def zbf:Nat→Rd→Rd × List Lt
 | 0,r=>(r,[])
 | n+1,r=>if r.e≠0 then (r,[]) else ((zbf n (za9 r).1).1,(za9 r).2::(zbf n (za9 r).1).2)
def zbl (r:Rd):Rd × Ct:=((zah (zah (zah r).1).1).1,⟨(zah r).2,(zah (zah r).1).2,(zah (zah (zah r).1).1).2⟩)
def zbz:Nat→Rd→Rd × List Ct
 | 0,r=>(r,[])
 | n+1,r=>if r.e≠0 then (r,[]) else ((zbz n (zbl r).1).1,(zbl r).2::(zbz n (zbl r).1).2)
def thn {α β:Type} (a:Rd × α) (f:α→Rd→Rd × β):Rd × β:=f a.2 a.1
def rBk (r:Rd):Rd × Bk:=
 thn (zah r) fun i r=>thn (zah r) fun v r=>thn (zah r) fun t r=>thn (zah r) fun l r=>thn (zah r) fun m r=>thn (zah r) fun s r=>thn (zah r) fun x r=>thn (za4 r 12) fun c r=>thn (zai r 64) fun n r=>thn (zbz n r) fun cs r=>thn (zbq r 64) fun b r=>(r,⟨i,v,c,t,l,m,cs,s,x,b⟩)
def rQu (r:Rd):Rd × Qu:=
 thn (zah r) fun i r=>thn (zah r) fun v r=>thn (zah r) fun t r=>thn (zah r) fun l r=>thn (zah r) fun m r=>thn (zah r) fun s r=>thn (zah r) fun x r=>thn (zah r) fun y r=>(r,⟨i,v,t,l,m,s,x,y⟩)
def rdK (k:Int) (r:Rd):Rd × Mg:=
 if k=1 then thn (zah r) fun a r=>thn (za4 r 160) fun s r=>(r,{ Mg.z with k:=1,mem:=a,name:=s })
 else if k=2 then thn (za4 r 12) fun s r=>thn (zah r) fun a r=>thn (zah r) fun b r=>thn (zah r) fun c r=>thn (za4 r 12) fun t r=>(r,{ Mg.z with k:=2,a:=⟨s,a,b,c,t⟩ })
 else if k=3 then thn (rBk r) fun b r=>(r,{ Mg.z with k:=3,b:=b })
 else if k=4 then thn (zai r 64) fun n r=>thn (zbf n r) fun l r=>(r,{ Mg.z with k:=4,ps:=l })
 else if k=5 then thn (zah r) fun a r=>(r,{ Mg.z with k:=5,day:=a })
 else if k=6 then thn (zah r) fun a r=>thn (zah r) fun b r=>thn (za4 r 12) fun s r=>(r,{ Mg.z with k:=6,mem:=a,t:=s,n:=b })
 else if k=7 then thn (zah r) fun a r=>thn (zah r) fun b r=>thn (za4 r 12) fun s r=>(r,{ Mg.z with k:=7,mem:=a,t:=s,n:=b })
 else if k=8 then thn (rQu r) fun q r=>(r,{ Mg.z with k:=8,q:=q })
 else if k=9 then thn (zah r) fun a r=>thn (zah r) fun b r=>(r,{ Mg.z with k:=9,mem:=a,n:=b })
 else if k=10 then thn (zah r) fun a r=>thn (zah r) fun b r=>thn (zah r) fun c r=>(r,{ Mg.z with k:=10,mem:=a,tr:=b,day:=c })
 else if k=11 then thn (zah r) fun a r=>thn (zah r) fun b r=>thn (za9 r) fun o r=>thn (zai r 64) fun n r=>thn (zbf n r) fun l r=>(r,{ Mg.z with k:=11,mem:=a,tr:=b,out:=o,ins:=l })
 else if k=12 then thn (zah r) fun a r=>thn (zah r) fun b r=>thn (zbn r) fun d r=>(r,{ Mg.z with k:=12,mem:=a,day:=b,done:=d })
 else if k=13 then thn (zah r) fun a r=>(r,{ Mg.z with k:=13,mem:=a })
 else if k=14 then thn (zah r) fun a r=>thn (zah r) fun b r=>(r,{ Mg.z with k:=14,mem:=a,n:=b })
 else if k=15 then thn (zah r) fun a r=>thn (zah r) fun b r=>thn (zah r) fun c r=>(r,{ Mg.z with k:=15,tr:=a,day:=b,rate:=c })
 else (r,{ Mg.z with k:=k })
def zgw (C:Cks) (s:List UInt8):Mg × Nat × Nat:=
 if (zah ⟨s,0,0⟩).1.e≠0 then (Mg.z,(zah ⟨s,0,0⟩).1.at_,(zah ⟨s,0,0⟩).1.e)
 else if !inn (zah ⟨s,0,0⟩).2 1 15 then (Mg.z,0,17)
 else if (zbg (rdK (zah ⟨s,0,0⟩).2 (zah ⟨s,0,0⟩).1).1).1.e≠0 then (Mg.z,(zbg (rdK (zah ⟨s,0,0⟩).2 (zah ⟨s,0,0⟩).1).1).1.at_,(zbg (rdK (zah ⟨s,0,0⟩).2 (zah ⟨s,0,0⟩).1).1).1.e)
 else if zcb C (rdK (zah ⟨s,0,0⟩).2 (zah ⟨s,0,0⟩).1).2≠0 then (Mg.z,s.length,zcb C (rdK (zah ⟨s,0,0⟩).2 (zah ⟨s,0,0⟩).1).2)
 else ((rdK (zah ⟨s,0,0⟩).2 (zah ⟨s,0,0⟩).1).2,s.length,0)
structure Ah (r:Rd) (l c:List UInt8):Prop where
 e:r.e=0
 le:r.at_≤r.s.length
 is:r.s.drop r.at_=l++c
theorem Ah.split {r:Rd} {l c:List UInt8} (h:Ah r l c):r=⟨r.s.take r.at_++l++c,(r.s.take r.at_).length,0⟩:=by
 obtain ⟨s,a,e⟩:=r
 have h1:e=0:=h.e
 have h2:a≤s.length:=h.le
 have h3:s.drop a=l++c:=h.is
 subst h1
 have h4:s.take a++l++c=s:=by rw [List.append_assoc,← h3,List.take_append_drop]
 have h5:(s.take a).length=a:=by rw [List.length_take];omega
 show Rd.mk s a 0=Rd.mk (s.take a++l++c) (s.take a).length 0
 rw [h4,h5]
theorem zk1 {n a b:Int} (h:inn n a b=true):a≤n∧n≤b:=by
 unfold inn at h
 simpa using h
theorem zhi {C:Cks} (hC:C.Ok):∀(l:List Lt),zb3 C l=0→∀x ∈ l,x.i.length≤12:=by
  intro l
  induction l with
  | nil=>intro _ x hx;exact (List.not_mem_nil hx).elim
  | cons y l ih =>
    intro h x hx
    unfold zb3 at h
    by_cases h0:zdo C y=0
    · rw [if_pos h0] at h
      rcases List.mem_cons.1 hx with rfl | hx
      · unfold zdo at h0
        by_cases ha:amt x.q=true
        · rw [if_pos ha] at h0;exact hC.is _ h0
        · rw [if_neg ha] at h0;exact absurd h0 (by omega)
      · exact ih h x hx
    · rw [if_neg h0] at h
      exact absurd h h0
theorem zju {C:Cks} (hC:C.Ok):∀(l:List Lt) (p:Option (List UInt8)),zeg C p l=0→∀x ∈ l,x.i.length≤12:=by
  intro l
  induction l with
  | nil=>intro _ _ x hx;exact (List.not_mem_nil hx).elim
  | cons y l ih =>
    intro p h x hx
    unfold zeg at h
    by_cases h0:C.is y.i≠0
    · rw [if_pos h0] at h;exact absurd h h0
    · rw [if_neg h0] at h
      have h0':C.is y.i=0:=by simpa using h0
      by_cases hg:(!(inn y.q 1 4294967296&&zm5 C p y.i))=true
      · rw [if_pos hg] at h
        exact absurd h (by omega)
      · rw [if_neg hg] at h
        rcases List.mem_cons.1 hx with rfl | hx
        · exact hC.is _ h0'
        · exact ih _ h x hx
theorem zm7 {C:Cks} (hC:C.Ok) {b:Bk} (h:bkE C b=0):b.cur.length≤12∧b.cuts.length≤64∧b.bar.length≤64:=by
 unfold bkE at h
 split at h
 ·omega
 ·next h1=>
  split at h
  ·omega
  ·split at h
   ·omega
   ·next h3=>
    simp only [Bool.not_eq_true',Bool.not_eq_false,Bool.and_eq_true,decide_eq_true_eq] at h1 h3
    exact ⟨hC.cu _ h3,h1.2.2.2.2.2.2.1,h1.2.2.2.2.2.2.2⟩
theorem zd0 (k:Int):inn k 1 15=false∨k=1∨k=2∨k=3∨k=4∨k=5∨k=6∨k=7∨k=8∨k=9∨k=10∨k=11∨k=12∨k=13∨k=14∨k=15:=by
 cases h:inn k 1 15 with
 | false=>exact .inl rfl
 | true=>have h1:=zk1 h;omega
theorem zbm {k:Int} (h:inn k 1 15=false) (j:Int) (h1:1≤j) (h2:j≤15):¬ k=j:=by
 rintro rfl
 unfold inn at h
 rw [decide_eq_true h1,decide_eq_true h2] at h
 exact absurd h (by decide)
theorem zc1 {m:Mg} (h:inn m.k 1 15=false):zak m = { Mg.z with k:=m.k }:=by
 have k1:=zbm h 1 (by omega) (by omega)
 have k2:=zbm h 2 (by omega) (by omega)
 have k3:=zbm h 3 (by omega) (by omega)
 have k4:=zbm h 4 (by omega) (by omega)
 have k5:=zbm h 5 (by omega) (by omega)
 have k6:=zbm h 6 (by omega) (by omega)
 have k7:=zbm h 7 (by omega) (by omega)
 have k8:=zbm h 8 (by omega) (by omega)
 have k9:=zbm h 9 (by omega) (by omega)
 have k10:=zbm h 10 (by omega) (by omega)
 have k11:=zbm h 11 (by omega) (by omega)
 have k12:=zbm h 12 (by omega) (by omega)
 have k13:=zbm h 13 (by omega) (by omega)
 have k14:=zbm h 14 (by omega) (by omega)
 have k15:=zbm h 15 (by omega) (by omega)
 unfold zak
 rw [if_neg k1,if_neg k2,if_neg k3,if_neg k4,if_neg k5,if_neg k6,if_neg k7,if_neg k8,if_neg k9,if_neg k10,if_neg k11,if_neg k12,if_neg k13,if_neg k14,if_neg k15]
theorem zhj (m:Mg):(zak m).k=m.k:=by
 obtain ⟨k,mem,name,a,b,ps,day,t,n,q,out,ins,tr,done,rate⟩:=m
 rcases zd0 k with h | rfl | rfl | rfl | rfl | rfl | rfl | rfl | rfl | rfl | rfl | rfl | rfl | rfl | rfl | rfl
 ·rw [zc1 h]
 all_goals rfl
theorem zfx (m:Mg):zak (zak m)=zak m:=by
 obtain ⟨k,mem,name,a,b,ps,day,t,n,q,out,ins,tr,done,rate⟩:=m
 rcases zd0 k with h | rfl | rfl | rfl | rfl | rfl | rfl | rfl | rfl | rfl | rfl | rfl | rfl | rfl | rfl | rfl
 ·rw [zc1 (m:=zak _) (by rw [zhj];exact h),zc1 h]
 all_goals rfl
def Fw {α:Type} (f:Rd→Rd × α) (P:α→List UInt8→Prop):Prop:=∀r,r.Ok→(f r).1.Ok∧(f r).1.s=r.s∧(r.e≠0→(f r).1=r)∧((f r).1.e=0→∃l,r.s.drop r.at_=l++r.s.drop (f r).1.at_∧P (f r).2 l)
theorem zcd {α:Type} {f:Rd→Rd × α} {P Q:α→List UInt8→Prop} (h:Fw f P) (hq:∀x l,P x l→Q x l):Fw f Q:=fun r hr=>by
 obtain ⟨h1,h2,h3,h4⟩:=h r hr
 refine ⟨h1,h2,h3,fun he=>?_⟩
 obtain ⟨l,hl,hp⟩:=h4 he
 exact ⟨l,hl,hq _ _ hp⟩
theorem zds {α:Type} (v:α):Fw (fun r=>(r,v)) (fun y l=>y=v∧l=[]):=fun r hr=>⟨hr,rfl,fun _=>rfl,fun _=>⟨[],rfl,rfl,rfl⟩⟩
theorem zbs {α β:Type} {f:Rd→Rd × α} {g:α→Rd→Rd × β} {P:α→List UInt8→Prop} {Q:α→β→List UInt8→Prop} (hf:Fw f P) (hg:∀x,Fw (g x) (Q x)):Fw (fun r=>thn (f r) g) (fun y l=>∃x l1 l2,l=l1++l2∧P x l1∧Q x y l2):=fun r hr=>by
  obtain ⟨h1,h2,h3,h4⟩:=hf r hr
  obtain ⟨k1,k2,k3,k4⟩:=hg (f r).2 (f r).1 h1
  show (g (f r).2 (f r).1).1.Ok∧(g (f r).2 (f r).1).1.s=r.s∧(r.e≠0→(g (f r).2 (f r).1).1=r)∧((g (f r).2 (f r).1).1.e=0→∃l,r.s.drop r.at_=l++r.s.drop (g (f r).2 (f r).1).1.at_∧_)
  refine ⟨k1,k2.trans h2,fun he=>?_,fun he=>?_⟩
  · rw [k3 (by rw [h3 he];exact he),h3 he]
  · have h0 : (f r).1.e = 0 := by
      apply Classical.byContradiction
      intro hn
      rw [k3 hn] at he
      exact hn he
    obtain ⟨l1,e1,p1⟩:=h4 h0
    obtain ⟨l2,e2,p2⟩:=k4 he
    rw [h2] at e2
    exact ⟨l1++l2,by rw [e1,e2,List.append_assoc],(f r).2,l1,l2,rfl,p1,p2⟩
theorem fEq {α:Type} {f g:Rd→Rd × α} {P:α→List UInt8→Prop} (h:Fw g P) (e:∀r,f r=g r):Fw f P:=fun r hr=>by rw [e];exact h r hr
theorem zqi:Fw zas (fun n l=>l=zbr n∧n<18446744073709551616):=fun r hr=>by
 obtain ⟨h1,h2,h3,h4⟩:=zbv hr
 refine ⟨h1,h2,fun he=>by rw [zb7 he],fun he=>?_⟩
 have h0:r.e=0:=by
  apply Classical.byContradiction
  intro hn
  rw [zb7 hn] at he
  exact hn he
 by_cases hu:(rdU (r.s.drop r.at_)).1=0
 ·have e:zas r=({ r with at_:=r.at_+(rdU (r.s.drop r.at_)).2.2 },(rdU (r.s.drop r.at_)).2.1):=by unfold zas;rw [if_neg (by simpa using h0),if_pos hu]
  have hk:=zfa (s:=r.s.drop r.at_) (m:=(rdU (r.s.drop r.at_)).2.1) (j:=(rdU (r.s.drop r.at_)).2.2) (by rw [← hu])
  refine ⟨zbr (zas r).2,?_,rfl,h4⟩
  rw [e]
  show r.s.drop r.at_=zbr (rdU (r.s.drop r.at_)).2.1++r.s.drop (r.at_+(rdU (r.s.drop r.at_)).2.2)
  rw [hk.2.1,← List.drop_drop,List.take_append_drop]
 ·exfalso
  unfold zas at he
  rw [if_neg (by simpa using h0),if_neg hu] at he
  exact hu he
theorem za7:Fw zah (fun n l=>l=zbj n∧I64 n):=fun r hr=>by
 obtain ⟨h1,h2,h3,h4⟩:=zqi r hr
 refine ⟨h1,h2,h3,fun he=>?_⟩
 obtain ⟨l,e,p1,p2⟩:=h4 he
 refine ⟨l,e,?_,zqg p2⟩
 rw [p1]
 show _=zbr (fo (un (zas r).2))
 rw [zuv]
theorem zcv (m:Int):Fw (fun r=>zai r m) (fun n l=>l=zbr n∧(n:Int)≤m∧n<18446744073709551616):=fun r hr=>by
 obtain ⟨h1,h2,h3,h4⟩:=zqi r hr
 have ho:=zbt hr m
 refine ⟨ho.1,ho.2,fun he=>by show (zai r m).1=r;rw [zc0 he],fun he=>?_⟩
 change (zai r m).1.e=0 at he
 have hu:(zas r).1.e=0:=by
  apply Classical.byContradiction
  intro hn
  unfold zai at he
  rw [if_pos hn] at he
  exact hn he
 have h0:r.e=0:=by
  apply Classical.byContradiction
  intro hn
  rw [zb7 hn] at hu
  exact hn hu
 have hle:¬ (((zas r).2:Nat):Int) > m:=by
  intro hgt
  unfold zai at he
  rw [if_neg (by simpa using hu),if_pos hgt] at he
  simp [Rd.fl,h0] at he
 have e:zai r m=zas r:=by unfold zai;rw [if_neg (by simpa using hu),if_neg hle]
 obtain ⟨l,e1,p1,p2⟩:=h4 hu
 refine ⟨l,?_,?_,?_,?_⟩
 ·show r.s.drop r.at_=l++r.s.drop (zai r m).1.at_;rw [e];exact e1
 ·show l=zbr (zai r m).2;rw [e];exact p1
 ·show ((zai r m).2:Int)≤m;rw [e];omega
 ·show (zai r m).2<_;rw [e];exact p2
theorem zcf (m:Int):Fw (fun r=>za4 r m) (fun t l=>l=zci t∧(t.length:Int)≤m):=fun r hr=>by
 obtain ⟨h1,h2,h3,h4⟩:=zcv m r hr
 have ho:=zjr hr m
 refine ⟨ho.1,ho.2,fun he=>by show (za4 r m).1=r;rw [zcu he],fun he=>?_⟩
 change (za4 r m).1.e=0 at he
 change (zai r m).1.e=0→_ at h4
 have hu:(zai r m).1.e=0:=by
  apply Classical.byContradiction
  intro hn
  unfold za4 at he
  rw [if_pos hn] at he
  exact hn he
 have h0:r.e=0:=by
  apply Classical.byContradiction
  intro hn
  rw [zc0 hn] at hu
  exact hn hu
 have hle:¬ r.s.length<(zai r m).1.at_+(zai r m).2:=by
  intro hgt
  unfold za4 at he
  rw [if_neg (by simpa using hu),if_pos hgt] at he
  simp [Rd.fl,h0] at he
 have e:za4 r m=({ r with at_:=(zai r m).1.at_+(zai r m).2 },(r.s.drop (zai r m).1.at_).take (zai r m).2):=by unfold za4;rw [if_neg (by simpa using hu),if_neg hle]
 obtain ⟨l,e1,p1,p2,p3⟩:=h4 hu
 change r.s.drop r.at_=l++r.s.drop (zai r m).1.at_ at e1
 change l=zbr (zai r m).2 at p1
 change ((zai r m).2:Int)≤m at p2
 have hl:((r.s.drop (zai r m).1.at_).take (zai r m).2).length=(zai r m).2:=by rw [List.length_take,List.length_drop];omega
 refine ⟨l++(r.s.drop (zai r m).1.at_).take (zai r m).2,?_,?_,?_⟩
 ·show r.s.drop r.at_=_++r.s.drop (za4 r m).1.at_
  rw [e,e1,List.append_assoc]
  show _=l++(_++r.s.drop ((zai r m).1.at_+(zai r m).2))
  rw [← List.drop_drop,List.take_append_drop]
 ·show _=zci (za4 r m).2
  rw [e,p1]
  show _=zbr ((r.s.drop (zai r m).1.at_).take (zai r m).2).length++_
  rw [hl]
 ·show ((za4 r m).2.length:Int)≤m
  rw [e]
  show (((r.s.drop (zai r m).1.at_).take (zai r m).2).length:Int)≤m
  rw [hl]
  exact p2
theorem zm8:Fw zbn (fun b l=>l=zgv b):=fun r hr=>by
  have ho:=zjs hr
  refine ⟨ho.1,ho.2,fun he=>by rw [zda he],fun he=>?_⟩
  have h0:r.e=0:=by
    apply Classical.byContradiction
    intro hn
    rw [zda hn] at he
    exact hn he
  cases hc:r.s[r.at_]? with
  | none =>
    exfalso
    unfold zbn at he
    rw [if_neg (by simpa using h0),hc] at he
    simp at he
  | some c =>
    by_cases h1:1<c.toNat
    · exfalso
      unfold zbn at he
      rw [if_neg (by simpa using h0),hc] at he
      simp [h1] at he
    · have e : zbn r = ({ r with at_ := r.at_ + 1 }, c.toNat == 1) := by unfold zbn; rw [if_neg (by simpa using h0), hc]; simp [h1]
      obtain ⟨hlt,hce⟩:=List.getElem?_eq_some_iff.1 hc
      refine ⟨[c],?_,?_⟩
      · rw [e, List.drop_eq_getElem_cons hlt, hce]
        rfl
      · rw [e]
        have hcl:=c.toNat_lt
        unfold zgv
        by_cases h2:c.toNat=1
        · rw [show c=1 from UInt8.toNat_inj.mp h2];rfl
        · rw [show c=0 from UInt8.toNat_inj.mp (by show c.toNat=0;omega)];rfl
theorem fIs (n:Nat):Fw (rIs n) (fun xs l=>xs.length=n∧l=zdz xs∧∀x ∈ xs,I64 x):=by
  induction n with
  | zero=>exact zcd (zds []) fun x l h=>by obtain ⟨rfl,rfl⟩:=h;exact ⟨rfl,rfl,fun x hx=>(List.not_mem_nil hx).elim⟩
  | succ n ih =>
    intro r hr
    have ho:=zk0 (n+1) hr
    refine ⟨ho.1,ho.2,fun he=>by unfold rIs;rw [if_pos he],fun he=>?_⟩
    have h0:r.e=0:=by
      apply Classical.byContradiction
      intro hn
      unfold rIs at he
      rw [if_pos hn] at he
      exact hn he
    have e:rIs (n+1) r=thn (zah r) fun x r=>thn (rIs n r) fun k r=>(r,x::k):=by
      show (if r.e≠0 then _ else _)=_
      rw [if_neg (by simpa using h0)]
      rfl
    rw [e] at he ⊢
    obtain ⟨l,e1,x,l1,l2,rfl,⟨rfl,p1⟩,⟨xs,l3,l4,rfl,⟨q1,rfl,q2⟩,q3,rfl⟩⟩:=(zbs za7 fun x=>zbs ih fun k=>zds (x::k)) r hr |>.2.2.2 he
    refine ⟨_,e1,?_⟩
    change (thn (zah r) fun x r=>thn (rIs n r) fun k r=>(r,x::k)).2=x::xs at q3
    rw [q3]
    refine ⟨by rw [List.length_cons,q1],by simp [zdz],fun y hy=>?_⟩
    rcases List.mem_cons.1 hy with rfl | hy
    · exact p1
    · exact q2 y hy
theorem zux (m:Int):Fw (fun r=>zbq r m) (fun xs l=>l=zct xs∧(xs.length:Int)≤m∧∀x ∈ xs,I64 x):=fun r hr=>by
 have ho:=zjt hr m
 refine ⟨ho.1,ho.2,fun he=>by show (zbq r m).1=r;rw [zfb he],fun he=>?_⟩
 change (zbq r m).1.e=0 at he
 have hu:(rIs (zai r m).2 (zai r m).1).1.e=0:=by
  apply Classical.byContradiction
  intro hn
  unfold zbq at he
  rw [if_pos hn] at he
  exact hn he
 have e:zbq r m=thn (zai r m) fun n r=>rIs n r:=by unfold zbq thn;rw [if_neg (by simpa using hu)]
 obtain ⟨l,e1,n,l1,l2,rfl,⟨rfl,p1,p2⟩,⟨q1,rfl,q2⟩⟩:=(zbs (zcv m) fun n=>fIs n) r hr |>.2.2.2 hu
 change r.s.drop r.at_=_++r.s.drop (thn (zai r m) fun n r=>rIs n r).1.at_ at e1
 change (thn (zai r m) fun n r=>rIs n r).2.length=n at q1
 refine ⟨_,by show r.s.drop r.at_=_++r.s.drop (zbq r m).1.at_;rw [e];exact e1,?_⟩
 show zbr n++zdz (thn (zai r m) fun n r=>rIs n r).2=zct (zbq r m).2∧((zbq r m).2.length:Int)≤m∧∀x ∈ (zbq r m).2,I64 x
 rw [e]
 exact ⟨by unfold zct;rw [q1],by rw [q1];exact p1,q2⟩
theorem zqd:Fw za9 (fun x l=>l=zc2 x∧x.i.length≤12∧I64 x.q):=
 zcd (fEq (g:=fun r=>thn (za4 r 12) fun s r=>thn (zah r) fun n r=>(r,(⟨s,n⟩:Lt))) (zbs (zcf 12) fun s=>zbs za7 fun n=>zds _) fun _=>rfl) fun x l h=>by
  obtain ⟨s,l1,l2,rfl,⟨rfl,p1⟩,n,l3,l4,rfl,⟨rfl,p2⟩,rfl,rfl⟩:=h
  exact ⟨by simp [zc2],by simp only;omega,p2⟩
theorem zuc:Fw zbl (fun x l=>l=zm6 x∧I64 x.d∧I64 x.r∧I64 x.c):=
 zcd (fEq (g:=fun r=>thn (zah r) fun a r=>thn (zah r) fun b r=>thn (zah r) fun c r=>(r,(⟨a,b,c⟩:Ct))) (zbs za7 fun a=>zbs za7 fun b=>zbs za7 fun c=>zds _) fun _=>rfl) fun x l h=>by
  obtain ⟨a,l1,l2,rfl,⟨rfl,p1⟩,b,l3,l4,rfl,⟨rfl,p2⟩,c,l5,l6,rfl,⟨rfl,p3⟩,rfl,rfl⟩:=h
  exact ⟨by simp [zm6],p1,p2,p3⟩
theorem zqj (n:Nat):Fw (zbf n) (fun xs l=>xs.length=n∧l=zdd zc2 xs∧∀x ∈ xs,x.i.length≤12∧I64 x.q):=by
  induction n with
  | zero=>exact zcd (zds []) fun x l h=>by obtain ⟨rfl,rfl⟩:=h;exact ⟨rfl,rfl,fun x hx=>(List.not_mem_nil hx).elim⟩
  | succ n ih =>
    intro r hr
    by_cases h0:r.e=0
    · have e : zbf (n + 1) r = thn (za9 r) fun x r => thn (zbf n r) fun k r => (r, x :: k) := by
        show (if r.e≠0 then _ else _)=_
        rw [if_neg (by simpa using h0)]
        rfl
      rw [e]
      obtain ⟨h1,h2,h3,h4⟩:=(zbs zqd fun x=>zbs ih fun k=>zds (x::k)) r hr
      refine ⟨h1,h2,h3,fun he=>?_⟩
      obtain ⟨l,e1,x,l1,l2,rfl,⟨rfl,p1⟩,⟨xs,l3,l4,rfl,⟨q1,rfl,q2⟩,q3,rfl⟩⟩:=h4 he
      refine ⟨_,e1,?_⟩
      change (thn (za9 r) fun x r=>thn (zbf n r) fun k r=>(r,x::k)).2=x::xs at q3
      rw [q3]
      refine ⟨by rw [List.length_cons,q1],by simp [zdd],fun y hy=>?_⟩
      rcases List.mem_cons.1 hy with rfl | hy
      · exact p1
      · exact q2 y hy
    · have e : zbf (n + 1) r = (r, []) := by unfold zbf; rw [if_pos h0]
      rw [e]
      exact ⟨hr,rfl,fun _=>rfl,fun he=>absurd he h0⟩
theorem zuy (n:Nat):Fw (zbz n) (fun xs l=>xs.length=n∧l=zdd zm6 xs∧∀x ∈ xs,I64 x.d∧I64 x.r∧I64 x.c):=by
  induction n with
  | zero=>exact zcd (zds []) fun x l h=>by obtain ⟨rfl,rfl⟩:=h;exact ⟨rfl,rfl,fun x hx=>(List.not_mem_nil hx).elim⟩
  | succ n ih =>
    intro r hr
    by_cases h0:r.e=0
    · have e : zbz (n + 1) r = thn (zbl r) fun x r => thn (zbz n r) fun k r => (r, x :: k) := by
        show (if r.e≠0 then _ else _)=_
        rw [if_neg (by simpa using h0)]
        rfl
      rw [e]
      obtain ⟨h1,h2,h3,h4⟩:=(zbs zuc fun x=>zbs ih fun k=>zds (x::k)) r hr
      refine ⟨h1,h2,h3,fun he=>?_⟩
      obtain ⟨l,e1,x,l1,l2,rfl,⟨rfl,p1⟩,⟨xs,l3,l4,rfl,⟨q1,rfl,q2⟩,q3,rfl⟩⟩:=h4 he
      refine ⟨_,e1,?_⟩
      change (thn (zbl r) fun x r=>thn (zbz n r) fun k r=>(r,x::k)).2=x::xs at q3
      rw [q3]
      refine ⟨by rw [List.length_cons,q1],by simp [zdd],fun y hy=>?_⟩
      rcases List.mem_cons.1 hy with rfl | hy
      · exact p1
      · exact q2 y hy
    · have e : zbz (n + 1) r = (r, []) := by unfold zbz; rw [if_pos h0]
      rw [e]
      exact ⟨hr,rfl,fun _=>rfl,fun he=>absurd he h0⟩
theorem fBk:Fw rBk (fun b l=>l=bkL b∧(I64 b.id∧I64 b.ver∧I64 b.rat∧I64 b.least∧I64 b.most∧I64 b.iss∧I64 b.ass∧(∀c ∈ b.cuts,I64 c.d∧I64 c.r∧I64 c.c)∧∀n ∈ b.bar,I64 n)∧b.cuts.length≤64∧b.bar.length≤64∧b.cur.length≤12):=
 zcd (zbs za7 fun i=>zbs za7 fun v=>zbs za7 fun t=>zbs za7 fun l=>zbs za7 fun m=>zbs za7 fun s=>zbs za7 fun x=>zbs (zcf 12) fun c=>zbs (zcv 64) fun n=>zbs (zuy n) fun cs=>zbs (zux 64) fun b=>zds _) fun b l h=>by
  obtain ⟨_,_,_,rfl,⟨rfl,p1⟩,_,_,_,rfl,⟨rfl,p2⟩,_,_,_,rfl,⟨rfl,p3⟩,_,_,_,rfl,⟨rfl,p4⟩,_,_,_,rfl,⟨rfl,p5⟩,_,_,_,rfl,⟨rfl,p6⟩,_,_,_,rfl,⟨rfl,p7⟩,_,_,_,rfl,⟨rfl,p8⟩,_,_,_,rfl,⟨rfl,p9,_⟩,_,_,_,rfl,⟨rfl,rfl,p10⟩,_,_,_,rfl,⟨rfl,p11,p12⟩,rfl,rfl⟩:=h
  exact ⟨by simp [bkL],⟨p1,p2,p3,p4,p5,p6,p7,p10,p12⟩,by simp only;omega,by simp only;omega,by simp only;omega⟩
theorem fQu:Fw rQu (fun q l=>l=quL q∧I64 q.id∧I64 q.mem∧I64 q.side∧I64 q.bas∧I64 q.am∧I64 q.rate∧I64 q.st∧I64 q.en):=
 zcd (zbs za7 fun i=>zbs za7 fun v=>zbs za7 fun t=>zbs za7 fun l=>zbs za7 fun m=>zbs za7 fun s=>zbs za7 fun x=>zbs za7 fun y=>zds _) fun b l h=>by
  obtain ⟨_,_,_,rfl,⟨rfl,p1⟩,_,_,_,rfl,⟨rfl,p2⟩,_,_,_,rfl,⟨rfl,p3⟩,_,_,_,rfl,⟨rfl,p4⟩,_,_,_,rfl,⟨rfl,p5⟩,_,_,_,rfl,⟨rfl,p6⟩,_,_,_,rfl,⟨rfl,p7⟩,_,_,_,rfl,⟨rfl,p8⟩,rfl,rfl⟩:=h
  exact ⟨by simp [quL],p1,p2,p3,p4,p5,p6,p7,p8⟩
theorem I64.z:I64 0:=⟨by omega,by omega⟩
theorem I64.lit (n:Int) (h : -9223372036854775808≤n) (h2:n≤9223372036854775807):I64 n:=⟨h,h2⟩
theorem Bk.zwf:I64 Bk.z.id∧I64 Bk.z.ver∧I64 Bk.z.rat∧I64 Bk.z.least∧I64 Bk.z.most∧I64 Bk.z.iss∧I64 Bk.z.ass∧(∀c ∈ Bk.z.cuts,I64 c.d∧I64 c.r∧I64 c.c)∧∀n ∈ Bk.z.bar,I64 n:=⟨I64.z,I64.z,I64.z,I64.z,I64.z,I64.z,I64.z,fun _ h=>(List.not_mem_nil h).elim,fun _ h=>(List.not_mem_nil h).elim⟩
theorem Qu.zwf:I64 Qu.z.id∧I64 Qu.z.mem∧I64 Qu.z.side∧I64 Qu.z.bas∧I64 Qu.z.am∧I64 Qu.z.rate∧I64 Qu.z.st∧I64 Qu.z.en:=⟨I64.z,I64.z,I64.z,I64.z,I64.z,I64.z,I64.z,I64.z⟩
theorem Lt.zwf:∀l ∈ ([]:List Lt),I64 l.q:=fun _ h=>(List.not_mem_nil h).elim
def Rdm (k:Int) (m:Mg) (l:List UInt8):Prop:=m.k=k∧l=zb8 m∧m.Wf∧zak m=m
theorem fk1:Fw (rdK 1) (Rdm 1):=
 zcd (fEq (f:=rdK 1) (zbs za7 fun x0=>zbs (zcf 160) fun x1=>zds ({ Mg.z with k:=1,mem:=x0,name:=x1 } : Mg)) fun _=>rfl) fun m l h=>by
  obtain ⟨x0,_,_,rfl,⟨rfl,p0⟩,x1,_,_,rfl,⟨rfl,_⟩,rfl,rfl⟩:=h
  exact ⟨rfl,by simp [zb8,zc2,List.append_assoc],⟨I64.lit 1 (by omega) (by omega),p0,⟨I64.z,I64.z,I64.z⟩,Bk.zwf,Lt.zwf,I64.z,I64.z,Qu.zwf,I64.z,Lt.zwf,I64.z,I64.z⟩,rfl⟩
theorem fk2:Fw (rdK 2) (Rdm 2):=
 zcd (fEq (f:=rdK 2) (zbs (zcf 12) fun x0=>zbs za7 fun x1=>zbs za7 fun x2=>zbs za7 fun x3=>zbs (zcf 12) fun x4=>zds ({ Mg.z with k:=2,a:=⟨x0,x1,x2,x3,x4⟩ } : Mg)) fun _=>rfl) fun m l h=>by
  obtain ⟨x0,_,_,rfl,⟨rfl,_⟩,x1,_,_,rfl,⟨rfl,p1⟩,x2,_,_,rfl,⟨rfl,p2⟩,x3,_,_,rfl,⟨rfl,p3⟩,x4,_,_,rfl,⟨rfl,_⟩,rfl,rfl⟩:=h
  exact ⟨rfl,by simp [zb8,zc2,List.append_assoc],⟨I64.lit 2 (by omega) (by omega),I64.z,⟨p1,p2,p3⟩,Bk.zwf,Lt.zwf,I64.z,I64.z,Qu.zwf,I64.z,Lt.zwf,I64.z,I64.z⟩,rfl⟩
theorem fk3:Fw (rdK 3) (Rdm 3):=
 zcd (fEq (f:=rdK 3) (zbs fBk fun x0=>zds ({ Mg.z with k:=3,b:=x0 } : Mg)) fun _=>rfl) fun m l h=>by
  obtain ⟨x0,_,_,rfl,⟨rfl,p0,_⟩,rfl,rfl⟩:=h
  exact ⟨rfl,by simp [zb8,zc2,List.append_assoc],⟨I64.lit 3 (by omega) (by omega),I64.z,⟨I64.z,I64.z,I64.z⟩,p0,Lt.zwf,I64.z,I64.z,Qu.zwf,I64.z,Lt.zwf,I64.z,I64.z⟩,rfl⟩
theorem fk4:Fw (rdK 4) (Rdm 4):=
 zcd (fEq (f:=rdK 4) (zbs (zcv 64) fun x0=>zbs (zqj x0) fun x1=>zds ({ Mg.z with k:=4,ps:=x1 } : Mg)) fun _=>rfl) fun m l h=>by
  obtain ⟨x0,_,_,rfl,⟨rfl,_,_⟩,x1,_,_,rfl,⟨rfl,rfl,p1⟩,rfl,rfl⟩:=h
  exact ⟨rfl,by simp [zb8,zc2,List.append_assoc],⟨I64.lit 4 (by omega) (by omega),I64.z,⟨I64.z,I64.z,I64.z⟩,Bk.zwf,fun l h=>(p1 l h).2,I64.z,I64.z,Qu.zwf,I64.z,Lt.zwf,I64.z,I64.z⟩,rfl⟩
theorem fk5:Fw (rdK 5) (Rdm 5):=
 zcd (fEq (f:=rdK 5) (zbs za7 fun x0=>zds ({ Mg.z with k:=5,day:=x0 } : Mg)) fun _=>rfl) fun m l h=>by
  obtain ⟨x0,_,_,rfl,⟨rfl,p0⟩,rfl,rfl⟩:=h
  exact ⟨rfl,by simp [zb8,zc2,List.append_assoc],⟨I64.lit 5 (by omega) (by omega),I64.z,⟨I64.z,I64.z,I64.z⟩,Bk.zwf,Lt.zwf,p0,I64.z,Qu.zwf,I64.z,Lt.zwf,I64.z,I64.z⟩,rfl⟩
theorem fk6:Fw (rdK 6) (Rdm 6):=
 zcd (fEq (f:=rdK 6) (zbs za7 fun x0=>zbs za7 fun x1=>zbs (zcf 12) fun x2=>zds ({ Mg.z with k:=6,mem:=x0,t:=x2,n:=x1 } : Mg)) fun _=>rfl) fun m l h=>by
  obtain ⟨x0,_,_,rfl,⟨rfl,p0⟩,x1,_,_,rfl,⟨rfl,p1⟩,x2,_,_,rfl,⟨rfl,_⟩,rfl,rfl⟩:=h
  exact ⟨rfl,by simp [zb8,zc2,List.append_assoc],⟨I64.lit 6 (by omega) (by omega),p0,⟨I64.z,I64.z,I64.z⟩,Bk.zwf,Lt.zwf,I64.z,p1,Qu.zwf,I64.z,Lt.zwf,I64.z,I64.z⟩,rfl⟩
theorem fk7:Fw (rdK 7) (Rdm 7):=
 zcd (fEq (f:=rdK 7) (zbs za7 fun x0=>zbs za7 fun x1=>zbs (zcf 12) fun x2=>zds ({ Mg.z with k:=7,mem:=x0,t:=x2,n:=x1 } : Mg)) fun _=>rfl) fun m l h=>by
  obtain ⟨x0,_,_,rfl,⟨rfl,p0⟩,x1,_,_,rfl,⟨rfl,p1⟩,x2,_,_,rfl,⟨rfl,_⟩,rfl,rfl⟩:=h
  exact ⟨rfl,by simp [zb8,zc2,List.append_assoc],⟨I64.lit 7 (by omega) (by omega),p0,⟨I64.z,I64.z,I64.z⟩,Bk.zwf,Lt.zwf,I64.z,p1,Qu.zwf,I64.z,Lt.zwf,I64.z,I64.z⟩,rfl⟩
theorem fk8:Fw (rdK 8) (Rdm 8):=
 zcd (fEq (f:=rdK 8) (zbs fQu fun x0=>zds ({ Mg.z with k:=8,q:=x0 } : Mg)) fun _=>rfl) fun m l h=>by
  obtain ⟨x0,_,_,rfl,⟨rfl,p0⟩,rfl,rfl⟩:=h
  exact ⟨rfl,by simp [zb8,zc2,List.append_assoc],⟨I64.lit 8 (by omega) (by omega),I64.z,⟨I64.z,I64.z,I64.z⟩,Bk.zwf,Lt.zwf,I64.z,I64.z,p0,I64.z,Lt.zwf,I64.z,I64.z⟩,rfl⟩
theorem fk9:Fw (rdK 9) (Rdm 9):=
 zcd (fEq (f:=rdK 9) (zbs za7 fun x0=>zbs za7 fun x1=>zds ({ Mg.z with k:=9,mem:=x0,n:=x1 } : Mg)) fun _=>rfl) fun m l h=>by
  obtain ⟨x0,_,_,rfl,⟨rfl,p0⟩,x1,_,_,rfl,⟨rfl,p1⟩,rfl,rfl⟩:=h
  exact ⟨rfl,by simp [zb8,zc2,List.append_assoc],⟨I64.lit 9 (by omega) (by omega),p0,⟨I64.z,I64.z,I64.z⟩,Bk.zwf,Lt.zwf,I64.z,p1,Qu.zwf,I64.z,Lt.zwf,I64.z,I64.z⟩,rfl⟩
theorem zxz:Fw (rdK 10) (Rdm 10):=
 zcd (fEq (f:=rdK 10) (zbs za7 fun x0=>zbs za7 fun x1=>zbs za7 fun x2=>zds ({ Mg.z with k:=10,mem:=x0,tr:=x1,day:=x2 } : Mg)) fun _=>rfl) fun m l h=>by
  obtain ⟨x0,_,_,rfl,⟨rfl,p0⟩,x1,_,_,rfl,⟨rfl,p1⟩,x2,_,_,rfl,⟨rfl,p2⟩,rfl,rfl⟩:=h
  exact ⟨rfl,by simp [zb8,zc2,List.append_assoc],⟨I64.lit 10 (by omega) (by omega),p0,⟨I64.z,I64.z,I64.z⟩,Bk.zwf,Lt.zwf,p2,I64.z,Qu.zwf,I64.z,Lt.zwf,p1,I64.z⟩,rfl⟩
theorem zx0:Fw (rdK 11) (Rdm 11):=
 zcd (fEq (f:=rdK 11) (zbs za7 fun x0=>zbs za7 fun x1=>zbs zqd fun x2=>zbs (zcv 64) fun x3=>zbs (zqj x3) fun x4=>zds ({ Mg.z with k:=11,mem:=x0,tr:=x1,out:=x2,ins:=x4 } : Mg)) fun _=>rfl) fun m l h=>by
  obtain ⟨x0,_,_,rfl,⟨rfl,p0⟩,x1,_,_,rfl,⟨rfl,p1⟩,x2,_,_,rfl,⟨rfl,_,p2⟩,x3,_,_,rfl,⟨rfl,_,_⟩,x4,_,_,rfl,⟨rfl,rfl,p4⟩,rfl,rfl⟩:=h
  exact ⟨rfl,by simp [zb8,zc2,List.append_assoc],⟨I64.lit 11 (by omega) (by omega),p0,⟨I64.z,I64.z,I64.z⟩,Bk.zwf,Lt.zwf,I64.z,I64.z,Qu.zwf,p2,fun l h=>(p4 l h).2,p1,I64.z⟩,rfl⟩
theorem zx1:Fw (rdK 12) (Rdm 12):=
 zcd (fEq (f:=rdK 12) (zbs za7 fun x0=>zbs za7 fun x1=>zbs zm8 fun x2=>zds ({ Mg.z with k:=12,mem:=x0,day:=x1,done:=x2 } : Mg)) fun _=>rfl) fun m l h=>by
  obtain ⟨x0,_,_,rfl,⟨rfl,p0⟩,x1,_,_,rfl,⟨rfl,p1⟩,x2,_,_,rfl,rfl,rfl,rfl⟩:=h
  exact ⟨rfl,by simp [zb8,zc2,List.append_assoc],⟨I64.lit 12 (by omega) (by omega),p0,⟨I64.z,I64.z,I64.z⟩,Bk.zwf,Lt.zwf,p1,I64.z,Qu.zwf,I64.z,Lt.zwf,I64.z,I64.z⟩,rfl⟩
theorem zx2:Fw (rdK 13) (Rdm 13):=
 zcd (fEq (f:=rdK 13) (zbs za7 fun x0=>zds ({ Mg.z with k:=13,mem:=x0 } : Mg)) fun _=>rfl) fun m l h=>by
  obtain ⟨x0,_,_,rfl,⟨rfl,p0⟩,rfl,rfl⟩:=h
  exact ⟨rfl,by simp [zb8,zc2,List.append_assoc],⟨I64.lit 13 (by omega) (by omega),p0,⟨I64.z,I64.z,I64.z⟩,Bk.zwf,Lt.zwf,I64.z,I64.z,Qu.zwf,I64.z,Lt.zwf,I64.z,I64.z⟩,rfl⟩
theorem zx3:Fw (rdK 14) (Rdm 14):=
 zcd (fEq (f:=rdK 14) (zbs za7 fun x0=>zbs za7 fun x1=>zds ({ Mg.z with k:=14,mem:=x0,n:=x1 } : Mg)) fun _=>rfl) fun m l h=>by
  obtain ⟨x0,_,_,rfl,⟨rfl,p0⟩,x1,_,_,rfl,⟨rfl,p1⟩,rfl,rfl⟩:=h
  exact ⟨rfl,by simp [zb8,zc2,List.append_assoc],⟨I64.lit 14 (by omega) (by omega),p0,⟨I64.z,I64.z,I64.z⟩,Bk.zwf,Lt.zwf,I64.z,p1,Qu.zwf,I64.z,Lt.zwf,I64.z,I64.z⟩,rfl⟩
theorem zx4:Fw (rdK 15) (Rdm 15):=
 zcd (fEq (f:=rdK 15) (zbs za7 fun x0=>zbs za7 fun x1=>zbs za7 fun x2=>zds ({ Mg.z with k:=15,tr:=x0,day:=x1,rate:=x2 } : Mg)) fun _=>rfl) fun m l h=>by
  obtain ⟨x0,_,_,rfl,⟨rfl,p0⟩,x1,_,_,rfl,⟨rfl,p1⟩,x2,_,_,rfl,⟨rfl,p2⟩,rfl,rfl⟩:=h
  exact ⟨rfl,by simp [zb8,zc2,List.append_assoc],⟨I64.lit 15 (by omega) (by omega),I64.z,⟨I64.z,I64.z,I64.z⟩,Bk.zwf,Lt.zwf,p1,I64.z,Qu.zwf,I64.z,Lt.zwf,p0,p2⟩,rfl⟩
theorem zqe {k:Int} (h:inn k 1 15=true):Fw (rdK k) (Rdm k):=by
 have h1:=zk1 h
 have hk:k=1∨k=2∨k=3∨k=4∨k=5∨k=6∨k=7∨k=8∨k=9∨k=10∨k=11∨k=12∨k=13∨k=14∨k=15:=by omega
 rcases hk with rfl | rfl | rfl | rfl | rfl | rfl | rfl | rfl | rfl | rfl | rfl | rfl | rfl | rfl | rfl
 ·exact fk1
 ·exact fk2
 ·exact fk3
 ·exact fk4
 ·exact fk5
 ·exact fk6
 ·exact fk7
 ·exact fk8
 ·exact fk9
 ·exact zxz
 ·exact zx0
 ·exact zx1
 ·exact zx2
 ·exact zx3
 ·exact zx4
theorem zm9 {C:Cks} {s:List UInt8} {m:Mg} {n:Nat} (h:zgw C s=(m,n,0)):n=s.length∧zuw m=s∧zcb C m=0∧m.Wf∧zak m=m∧inn m.k 1 15=true:=by
  have hok:(Rd.mk s 0 0).Ok:=Nat.zero_le _
  obtain ⟨a1,a2,a3,a4⟩:=za7 ⟨s,0,0⟩ hok
  unfold zgw at h
  by_cases h0:(zah ⟨s,0,0⟩).1.e≠0
  · rw [if_pos h0] at h
    have:=congrArg (fun x=>x.2.2) h
    exact absurd this h0
  rw [if_neg h0] at h
  have h0:(zah ⟨s,0,0⟩).1.e=0:=by simpa using h0
  cases hin:inn (zah ⟨s,0,0⟩).2 1 15 with
  | false =>
    rw [hin,if_pos (by rfl)] at h
    have:(17:Nat)=0:=congrArg (fun x=>x.2.2) h
    omega
  | true =>
    rw [hin,if_neg (by simp)] at h
    obtain ⟨l1,e1,p1,p2⟩:=a4 h0
    obtain ⟨b1,b2,b3,b4⟩:=zqe hin (zah ⟨s,0,0⟩).1 a1
    generalize (zah ⟨s,0,0⟩).2=k at *
    generalize (zah ⟨s,0,0⟩).1=r1 at *
    generalize (rdK k r1).2=m2 at *
    generalize (rdK k r1).1=r2 at *
    by_cases h2:(zbg r2).1.e≠0
    · rw [if_pos h2] at h
      have:=congrArg (fun x=>x.2.2) h
      exact absurd this h2
    rw [if_neg h2] at h
    have h2:(zbg r2).1.e=0:=by simpa using h2
    have hr2:r2.e=0:=by
      apply Classical.byContradiction
      intro hn
      rw [zdb hn] at h2
      exact hn h2
    have hat:¬ r2.at_<r2.s.length:=by
      intro hl
      unfold zbg at h2
      rw [if_pos hl] at h2
      simp [Rd.fl,hr2] at h2
    by_cases h3:zcb C m2≠0
    · rw [if_pos h3] at h
      have:=congrArg (fun x=>x.2.2) h
      exact absurd this h3
    rw [if_neg h3] at h
    have h3:zcb C m2=0:=by simpa using h3
    have hm:m2=m:=congrArg (fun x=>x.1) h
    have hn:s.length=n:=congrArg (fun x=>x.2.1) h
    subst hm
    obtain ⟨l2,e2,q1,q2,q3,q4⟩:=b4 hr2
    have ee:(s.drop 0)=l1++(l2++[]):=by
      change s.drop 0=l1++s.drop r1.at_ at e1
      rw [e1]
      have hs:r1.s=s:=a2
      rw [hs] at e2
      rw [e2]
      have hd:s.drop r2.at_=[]:=List.drop_of_length_le (by have:r2.s=s:=b2.trans hs;rw [this] at hat;omega)
      rw [hd]
    refine ⟨hn.symm,?_,h3,q3,q4,by rw [q1];exact hin⟩
    unfold zuw
    rw [q1,← q2,← p1]
    simpa using ee.symm
def itL (k:Int) (u:Nat) (n:Int) (t:List UInt8) (b:Bool) (l:List Int):List UInt8:=
 if k=0 then zbr u else if k=1 then zbj n else if k=2 then zci t else if k=3 then zgv b else zct l
structure It where
 k:Int
 u:Nat
 n:Int
 t:List UInt8
 b:Bool
 l:List Int
def It.L (x:It):List UInt8:=itL x.k x.u x.n x.t x.b x.l
structure It.Wf (x:It):Prop where
 u:x.u<18446744073709551616
 n:I64 x.n
 l:∀n ∈ x.l,I64 n
theorem It.len {x:It} (h:x.Wf) (ht:x.t.length≤6000) (hl:x.l.length≤6000):x.L.length≤10+x.t.length+10*x.l.length:=by
 unfold It.L itL
 have h1:=(zcp h.u).2
 have h2:=(zcp (zjq h.n)).2
 have h3:=(zcp (n:=x.t.length) (by omega)).2
 have h4:=(zcp (n:=x.l.length) (by omega)).2
 have h5:=zhh x.l h.l
 split
 ·omega
 split
 ·show (zbr (fo x.n)).length≤_;omega
 split
 ·show (zbr x.t.length++x.t).length≤_;rw [List.length_append];omega
 split
 ·show 1≤_;omega
 ·show (zbr x.l.length++zdz x.l).length≤_;rw [List.length_append];omega
theorem zfy {B:Nat} {a w:World} (h:Below B a w) (n:Nat):Below B a (w.drewN n):=⟨h.os,h.tape,h.output,h.size,h.block⟩
theorem below_new (w:World) (o:Obj):Below w.heap.size w (w.alloc o):=(Below.refl _ w).alloc (Nat.le_refl _) _
def NP (k:IntKind) (n:Int) (w:World) (e:Ending) (w':World):Prop:=e=.returned (.int k n)∧w=w'
theorem NP.mk {k:IntKind} {n m:Int} {w:World} (h:m=n):NP k n w (.returned (.int k m)) w:=⟨by rw [h],rfl⟩
theorem drop_at {s:ByteArray} {k:Nat} (h:k<s.size):s.data.toList.drop k=s[k]::s.data.toList.drop (k+1):=by
 have h1:k<s.data.toList.length:=h
 rw [List.drop_eq_getElem_cons h1]
 rfl
theorem take_at {s:ByteArray} {k:Nat} (h:k<s.size):s.data.toList.take (k+1)=s.data.toList.take k++[s[k]]:=by
 rw [List.take_succ_eq_append_getElem (by simpa using h)]
 rfl
theorem zd1 {s:ByteArray} {k:Nat} (h:k<s.size) {z:UInt8} (hz:s[k]=z) {i:Int} (hi:i=k) (w:World):(Instr.index 9 (.string s) (.int .i64 i)).run Tryz.prog w=.ok (.int .u8 (z.toNat:Int)) w:=by
 subst hi
 rw [run_index_string w 9 s .i64 k Tryz.underlying9]
 simp [h,hz]
theorem zqk {x y:Nat} (n:Nat) (hx:x<2 ^ n):x ||| y*2 ^ n=x+y*2 ^ n:=by
 have h:=Nat.two_pow_add_eq_or_of_lt hx y
 rw [Nat.mul_comm y,Nat.or_comm,← h,Nat.add_comm]
theorem zna (x:Nat) (hx:x<256):bits .and .u8 (x:Int) 127=((x % 128:Nat):Int):=by
 have:=u8_and_nat x 127 hx (by omega)
 rw [show (127:Nat)=2 ^ 7-1 from rfl,Nat.and_two_pow_sub_one_eq_mod] at this
 exact this
theorem zql (n x:Nat) (hn:n<144115188075855872) (hx:x<128):bits .or .u64 ((n:Int)*128) (x:Int)=((n*128+x:Nat):Int):=by
 have h1:=u64_or_nat (n*128) x (by omega) (by omega)
 rw [Nat.or_comm,show n*128=n*2 ^ 7 from rfl,zqk 7 (by omega:x<2 ^ 7)] at h1
 rw [show (n:Int)*128=((n*2 ^ 7:Nat):Int) by omega,h1]
 omega
theorem zhk {c:UInt8} {l:List UInt8} {n k:Nat} (h:144115188075855872≤n):rdF (c::l) n k=(15,0,0):=if_pos h
theorem zgc {c:UInt8} {l:List UInt8} {n k:Nat} (h:¬ 144115188075855872≤n) (hc:c.toNat<128):rdF (c::l) n k=(0,n*128+c.toNat,k+1):=by
 show (if _ then _ else _)=_
 rw [if_neg h,if_pos hc]
theorem zgd {c:UInt8} {l:List UInt8} {n k:Nat} (h:¬ 144115188075855872≤n) (hc:¬ c.toNat<128):rdF (c::l) n k=rdF l (n*128+c.toNat % 128) (k+1):=by
 show (if _ then _ else _)=_
 rw [if_neg h,if_neg hc]
theorem zjv {s:ByteArray} (h:0<s.size) (hx:s[0].toNat=128):rdU s.data.toList=(15,0,0):=by
 have:=drop_at h
 rw [List.drop_zero] at this
 unfold rdU
 rw [this,if_pos]
 rw [List.head?_cons]
 exact congrArg some (UInt8.toNat_inj.mp hx)
theorem zhl {s:ByteArray} (h:0<s.size) (hx:s[0].toNat≠128):rdU s.data.toList=rdF (s.data.toList.drop 0) 0 0:=by
 have:=drop_at h
 rw [List.drop_zero] at this
 unfold rdU
 rw [List.drop_zero,if_neg]
 rw [this,List.head?_cons]
 intro e
 exact hx (by rw [Option.some.inj e];rfl)
def U3 (r:Nat × Nat × Nat) (w:World) (e:Ending) (w':World):Prop:=e=.returned (.tuple #[.int .u64 r.2.1,.int .i64 r.2.2,.int .i64 r.1])∧w=w'
theorem U3.mk {r:Nat × Nat × Nat} {w:World} {x y z:Int} {a b c:Nat} (h:r=(a,b,c)) (hx:x=b) (hy:y=c) (hz:z=a):U3 r w (.returned (.tuple #[.int .u64 x,.int .i64 y,.int .i64 z])) w:=by
 subst h hx hy hz
 exact ⟨rfl,rfl⟩
theorem zx5 (s:ByteArray) (hs:s.size≤9223372036854775807) (w:World):Calls Tryz.prog 118 #[.string s] w (U3 (rdU s.data.toList) w):=by
  have HL:Hid (s.data.toList.length=s.size):=rfl
  go_enter Tryz.func118,Tryz.ntmps118
  go_wp2_with fail
  go_loopw [5,9] (fun v i wr=>∃(k n:Nat),v=.int .u64 n∧i=.int .i64 k∧k≤s.size∧n<18446744073709551616∧w=wr∧Hid (k=0∧n=0∨0<k∧rdU s.data.toList=rdF (s.data.toList.drop k) n k)) (fun _ i _=>s.size-(Lib.intOf i).toNat)
  case atStart=>exact ⟨0,0,rfl,rfl,Nat.zero_le _,by omega,by first | rfl | trivial,.inl ⟨rfl,rfl⟩⟩
  case round=>
    obtain ⟨k,n,rfl,rfl,hk,hn,rfl,HR⟩:=hrel
    by_cases hkn:k<s.size
    · have hkz : (k : Int) < (s.size : Int) := by omega
      obtain ⟨x,hx⟩:∃x:UInt8,s[k]=x:=⟨_,rfl⟩
      have hxl:=x.toNat_lt
      have hdr:=drop_at hkn
      rw [hx] at hdr
      by_cases hf:k=0∧x.toNat=128
      · have h0 : k = 0 := hf.1
        subst h0
        have HF:Hid (rdU s.data.toList=(15,0,0)):=zjv hkn (by rw [hx];exact hf.2)
        have h128:((x.toNat:Int)==128)=true:=by rw [beq_iff_eq];omega
        clear HR hf hdr
        go_wp2_with fail
        go_ret3
        exact U3.mk HF.out rfl rfl rfl
      · have HS : Hid (rdU s.data.toList = rdF (x :: s.data.toList.drop (k + 1)) n k) := by
          unfold Hid
          rw [← hdr]
          rcases HR.out with ⟨h0,h1⟩ | ⟨_,h1⟩
          · subst h0 h1
            exact zhl hkn fun e=>hf ⟨rfl,by rw [← hx];exact e⟩
          · exact h1
        have hz:k=0→¬ x.toNat=128:=fun h e=>hf ⟨h,e⟩
        have hg:(decide ((k:Int)=0)&&decide ((x.toNat:Int)=128))=false:=by
          by_cases h0:k=0
          · simp [hz h0];intro _;have:=hz h0;omega
          · simp;omega
        by_cases hb:144115188075855872≤n
        · have hbz : (144115188075855871 : Int) < (n : Int) := by omega
          have HF:Hid (rdU s.data.toList=(15,0,0)):=by unfold Hid;rw [HS.out,zhk hb]
          clear HS HR hdr hf hg
          by_cases h0:k=0
          · subst h0
            have h128:((x.toNat:Int)==128)=false:=by rw [beq_eq_false_iff_ne];have:=hz rfl;omega
            go_wp2_with fail
            go_ret3
            exact U3.mk HF.out rfl rfl rfl
          · have h0z : ((k : Int) == 0) = false := by rw [beq_eq_false_iff_ne]; omega
            go_wp2_with fail
            go_ret3
            exact U3.mk HF.out rfl rfl rfl
        · have hbz : ¬ (144115188075855871 : Int) < (n : Int) := by omega
          have HA:Hid (bits .and .u8 (x.toNat:Int) 127=((x.toNat % 128:Nat):Int)):=zna x.toNat hxl
          have HO:Hid (bits .or .u64 ((n:Int)*128) (IntKind.u64.wrap ((x.toNat % 128:Nat):Int))=((n*128+x.toNat % 128:Nat):Int)):=by unfold Hid;rw [IntWalk.u64_in _ (by omega)];exact zql n _ (by omega) (by omega)
          by_cases hc:x.toNat<128
          · have hcz : (x.toNat : Int) < 128 := by omega
            have HF:Hid (rdU s.data.toList=(0,n*128+x.toNat,k+1)):=by unfold Hid;rw [HS.out,zgc hb hc]
            have h128:((x.toNat:Int)==128)=false:=by rw [beq_eq_false_iff_ne];omega
            clear HS HR hdr hf hg
            by_cases h0:((k:Int)==0)=true
            · go_wp2_with fail
              go_ret3
              refine U3.mk HF.out ?_ ?_ rfl
              · rw [HA.out,HO.out,Nat.mod_eq_of_lt hc]
              · omega
            · have h0 : ((k : Int) == 0) = false := by simpa using h0
              go_wp2_with fail
              go_ret3
              refine U3.mk HF.out ?_ ?_ rfl
              · rw [HA.out,HO.out,Nat.mod_eq_of_lt hc]
              · omega
          · have hcz : ¬ (x.toNat : Int) < 128 := by omega
            have HF:Hid (rdU s.data.toList=rdF (s.data.toList.drop (k+1)) (n*128+x.toNat % 128) (k+1)):=by unfold Hid;rw [HS.out,zgd hb hc]
            have HN:Hid (n*128+x.toNat % 128<18446744073709551616):=by unfold Hid;omega
            clear HS HR hdr hf hg
            by_cases h0:k=0
            · subst h0
              have h128:((x.toNat:Int)==128)=false:=by rw [beq_eq_false_iff_ne];have:=hz rfl;omega
              go_wp2_with fail
              exact ⟨⟨0+1,n*128+x.toNat % 128,by rw [HA.out,HO.out],by go_num,by omega,HN.out,by first | rfl | trivial,.inr ⟨by omega,HF.out⟩⟩,by simp [Lib.intOf];omega⟩
            · have h0z : ((k : Int) == 0) = false := by rw [beq_eq_false_iff_ne]; omega
              go_wp2_with fail
              exact ⟨⟨k+1,n*128+x.toNat % 128,by rw [HA.out,HO.out],by go_num,by omega,HN.out,by first | rfl | trivial,.inr ⟨by omega,HF.out⟩⟩,by simp [Lib.intOf];omega⟩
    · have hkz : ¬ (k : Int) < (s.size : Int) := by omega
      have HF:Hid (rdU s.data.toList=(14,0,0)):=by
        unfold Hid
        have hd:s.data.toList.drop k=[]:=List.drop_of_length_le (by rw [HL.out];omega)
        rcases HR.out with ⟨h0,_⟩ | ⟨_,h1⟩
        · subst h0
          rw [List.drop_zero] at hd
          rw [hd]
          rfl
        · rw [h1, hd]
          rfl
      clear HR
      go_wp2_with fail
      go_ret3
      exact U3.mk HF.out rfl rfl rfl
def zk2 (r:Rd):Array Value:=#[.bool true,.string ⟨r.s.toArray⟩,.int .i64 r.at_,.int .i64 r.e]
structure Rm (w:World) (q:Nat) (r:Rd):Prop where
 blk:w.heap[q]? = some (.cells (zk2 r) 155 (0,0))
 len:r.s.length≤9223372036854775807
 le:r.at_≤r.s.length
def Bt (q:Nat) (w w':World):Prop:=w.grownBy w' (some q)
theorem Bt.refl (q:Nat) (w:World):Bt q w w:=⟨rfl,rfl,rfl,Nat.le_refl _,fun _ _ _=>rfl⟩
theorem Bt.trans {q:Nat} {a b c:World} (h:Bt q a b) (k:Bt q b c):Bt q a c:=
 ⟨k.os.trans h.os,k.tape.trans h.tape,k.output.trans h.output,Nat.le_trans h.size k.size,fun i hi hn=>(k.block i (Nat.lt_of_lt_of_le hi h.size) hn).trans (h.block i hi hn)⟩
theorem Bt.drewN {q:Nat} {a w:World} (h:Bt q a w) (n:Nat):Bt q a (w.drewN n):=⟨h.os,h.tape,h.output,h.size,h.block⟩
theorem Bt.of_below {q:Nat} {w w':World} (h:Below w.heap.size w w'):Bt q w w':=⟨h.os,h.tape,h.output,h.size,fun k hk _=>h.block k hk⟩
theorem Bt.below {q B:Nat} {w w':World} (h:Bt q w w') (hB:B≤q) (hw:B≤w.heap.size):Below B w w':=
 (Below.refl B w).grown h hw (fun k hk=>by rw [← Option.some.inj hk];exact hB)
theorem Bt.set (q:Nat) (w:World) (k:Nat) (u:Value):Bt q w (w.setCell ⟨q,k,none⟩ u):=
 ⟨rfl,rfl,rfl,by simp,fun i _ hn=>Below.heap_setCell w _ u i (fun e=>hn (by rw [e]))⟩
theorem Bt.other {q p:Nat} {w w':World} {o:Obj} (h:Bt q w w') (hp:w.heap[p]? = some o) (hn:p≠q):w'.heap[p]? = some o:=
 (h.block p (Array.getElem?_eq_some_iff.1 hp).1 (fun e=>hn (Option.some.inj e))).trans hp
section
variable {w w':World} {q:Nat} {r:Rd}
theorem Rm.lt (h:Rm w q r):q<w.heap.size:=(Array.getElem?_eq_some_iff.1 h.blk).1
theorem Rm.cell (h:Rm w q r) (j:Nat):w.cell? ⟨q,j,none⟩=(zk2 r)[j]?:=cell_of_row w q j _ 155 (0,0) h.blk
theorem Rm.froz (h:Rm w q r) (j:Nat):w.frozen? ⟨q,j,none⟩=false:=by
 have:=h.blk
 simp [World.frozen?,this]
theorem Rm.same (h:Rm w q r) (hb:w'.heap[q]? = w.heap[q]?):Rm w' q r:=⟨hb.trans h.blk,h.len,h.le⟩
theorem Rm.drewN (h:Rm w q r) (n:Nat):Rm (w.drewN n) q r:=h.same rfl
theorem Rm.keep (h:Rm w q r) (hb:Below w.heap.size w w'):Rm w' q r:=h.same (hb.block q h.lt)
theorem zdj {p:Nat} {T k:Nat} {cs:Array Value} {fz:Nat × Nat} (hp:w.heap[p]? = some (.cells cs T fz)) (u:Value):(w.setCell ⟨p,k,none⟩ u).heap[p]? = some (.cells (cs.setIfInBounds k u) T fz):=by
 rw [setCell_eq_setRow w p k cs T fz u hp]
 exact setRow_heap w p cs _ T fz hp
theorem Rm.setAt (h:Rm w q r) (n:Nat) (hn:n≤r.s.length):Rm (w.setCell ⟨q,2,none⟩ (.int .i64 n)) q { r with at_:=n }:=⟨by rw [zdj h.blk];rfl,h.len,hn⟩
theorem Rm.setE (h:Rm w q r) (n:Nat):Rm (w.setCell ⟨q,3,none⟩ (.int .i64 n)) q { r with e:=n }:=⟨by rw [zdj h.blk];rfl,h.len,h.le⟩
end
theorem zjw (q:Nat) (r:Rd) (w:World) (h:Rm w q r):Calls Tryz.prog 58 #[.pointer (some ⟨q,0,none⟩)] w (NP .i64 r.e w):=by
 have c0:w.cell? ⟨q,0,none⟩=some (.bool true):=h.cell 0
 have c3:w.cell? ⟨q,3,none⟩=some (.int .i64 r.e):=h.cell 3
 clear h
 go_enter Tryz.func58,Tryz.ntmps58
 go_wp2_with fail
 go_ret
 exact NP.mk rfl
theorem xat (q:Nat) (r:Rd) (w:World) (h:Rm w q r):Calls Tryz.prog 60 #[.pointer (some ⟨q,0,none⟩)] w (NP .i64 r.at_ w):=by
 have c2:w.cell? ⟨q,2,none⟩=some (.int .i64 r.at_):=h.cell 2
 clear h
 go_enter Tryz.func60,Tryz.ntmps60
 go_wp2_with fail
 go_ret
 exact NP.mk rfl
def FlP (q:Nat) (r:Rd) (e:Nat) (w:World) (x:Ending) (w':World):Prop:=x=.returned (.tuple #[])∧w'=if r.e=0 then w.setCell ⟨q,3,none⟩ (.int .i64 e) else w
theorem zqm (q:Nat) (r:Rd) (e:Nat) (w:World) (h:Rm w q r):Calls Tryz.prog 89 #[.pointer (some ⟨q,0,none⟩),.int .i64 e] w (FlP q r e w):=by
 have HE:Hid (∀w,Rm w q r→Calls Tryz.prog 58 #[.pointer (some ⟨q,0,none⟩)] w (NP .i64 r.e w)):=fun w h=>zjw q r w h
 have HR:Hid (Rm w q r):=h
 have c3:w.cell? ⟨q,3,none⟩=some (.int .i64 r.e):=h.cell 3
 have f3:=h.froz 3
 clear h
 unfold FlP
 by_cases h0:r.e=0
 ·have hz:((r.e:Int)==0)=true:=by rw [h0];rfl
  rw [if_pos h0]
  go_enter Tryz.func89,Tryz.ntmps89
  go_wp2_with fail
  refine (HE.out _ HR.out).mono ?_
  rintro e w1 ⟨rfl,rfl⟩
  go_wp2_with fail
  go_returns
  exact ⟨rfl,rfl⟩
 ·have hz:((r.e:Int)==0)=false:=by rw [beq_eq_false_iff_ne];omega
  rw [if_neg h0]
  go_enter Tryz.func89,Tryz.ntmps89
  go_wp2_with fail
  refine (HE.out _ HR.out).mono ?_
  rintro e w1 ⟨rfl,rfl⟩
  go_wp2_with fail
  go_returns
  exact ⟨rfl,rfl⟩
theorem zdv (s:ByteArray) (a b:Nat):(s.extract a b).data.toList=(s.data.toList.drop a).take (b-a):=by
 rw [ByteArray.data_extract,Array.toList_extract]
theorem zhm (s:ByteArray) (a b:Nat) (h:b≤s.size):(s.extract a b).size=b-a:=by
 have h1:(s.extract a b).size=(s.extract a b).data.toList.length:=rfl
 rw [h1,zdv,List.length_take,List.length_drop]
 show min (b-a) (s.size-a)=_
 omega
theorem zjx (s:ByteArray) (a:Nat):(s.extract a s.size).data.toList=s.data.toList.drop a:=by
 rw [zdv,List.take_of_length_le]
 rw [List.length_drop]
 exact Nat.le_refl _
def nxt (r:Rd):Nat × Nat × Nat:=if r.e≠0 then (r.e,0,0) else ((rdU (r.s.drop r.at_)).1,(rdU (r.s.drop r.at_)).2.1,r.at_+(rdU (r.s.drop r.at_)).2.2)
theorem zdk {r:Rd} (h:r.e≠0):nxt r=(r.e,0,0):=if_pos h
theorem zhn {r:Rd} (h:¬ r.e≠0):nxt r=((rdU (r.s.drop r.at_)).1,(rdU (r.s.drop r.at_)).2.1,r.at_+(rdU (r.s.drop r.at_)).2.2):=if_neg h
theorem zfc (l:List UInt8):(rdU l).2.1<18446744073709551616∧(rdU l).2.2≤l.length:=by
 rcases zm3 l with h | h | h
 ·have:=zfa (s:=l) (m:=(rdU l).2.1) (j:=(rdU l).2.2) (by rw [← h])
  exact ⟨this.1,this.2.2.2.2⟩
 ·rw [h];exact ⟨by decide,Nat.zero_le _⟩
 ·rw [h];exact ⟨by decide,Nat.zero_le _⟩
theorem zde {r:Rd} (hl:r.at_≤r.s.length):(nxt r).2.1<18446744073709551616∧(nxt r).2.2≤r.s.length:=by
 by_cases h:r.e≠0
 ·rw [zdk h];exact ⟨by show 0<_;omega,Nat.zero_le _⟩
 ·rw [zhn h]
  have:=zfc (r.s.drop r.at_)
  rw [List.length_drop] at this
  exact ⟨this.1,by show r.at_+_≤_;omega⟩
theorem zho (w:World) (a b:Nat):(w.drewN a).drewN b=w.drewN (a+b):=by simp [World.drewN,Nat.add_assoc]
def N3 (t:Nat × Nat × Nat) (w:World) (e:Ending) (w':World):Prop:=e=.returned (.tuple #[.int .u64 t.2.1,.int .i64 t.2.2,.int .i64 t.1])∧∃n,w'=w.drewN n
theorem N3.mk {t:Nat × Nat × Nat} {w:World} {x y z:Int} {a b c n:Nat} (h:t=(a,b,c)) (hx:x=b) (hy:y=c) (hz:z=a):N3 t w (.returned (.tuple #[.int .u64 x,.int .i64 y,.int .i64 z])) (w.drewN n):=by
 subst h hx hy hz
 exact ⟨rfl,n,rfl⟩
theorem N3.mk0 {t:Nat × Nat × Nat} {w:World} {x y z:Int} {a b c:Nat} (h:t=(a,b,c)) (hx:x=b) (hy:y=c) (hz:z=a):N3 t w (.returned (.tuple #[.int .u64 x,.int .i64 y,.int .i64 z])) w:=by
 subst h hx hy hz
 exact ⟨rfl,0,rfl⟩
theorem znb (q:Nat) (r:Rd) (w:World) (h:Rm w q r):Calls Tryz.prog 108 #[.pointer (some ⟨q,0,none⟩)] w (N3 (nxt r) w):=by
 have HE:Hid (∀w,Rm w q r→Calls Tryz.prog 58 #[.pointer (some ⟨q,0,none⟩)] w (NP .i64 r.e w)):=fun w h=>zjw q r w h
 have HR:Hid (Rm w q r):=h
 have c1:w.cell? ⟨q,1,none⟩=some (.string ⟨r.s.toArray⟩):=h.cell 1
 have c2:w.cell? ⟨q,2,none⟩=some (.int .i64 r.at_):=h.cell 2
 obtain ⟨S,hS⟩:∃S:ByteArray,S=⟨r.s.toArray⟩:=⟨_,rfl⟩
 rw [← hS] at c1
 have hsz:S.size=r.s.length:=by rw [hS];rfl
 have hs:S.size≤9223372036854775807:=by have:=h.len;omega
 have ha:r.at_≤S.size:=by have:=h.le;omega
 have hds:r.s=S.data.toList:=by rw [hS]
 by_cases h0:r.e=0
 ·have hz:((r.e:Int) != 0)=false:=by rw [h0];rfl
  have HN:Hid (nxt r=((rdU (S.data.toList.drop r.at_)).1,(rdU (S.data.toList.drop r.at_)).2.1,r.at_+(rdU (S.data.toList.drop r.at_)).2.2)):=by unfold Hid;rw [zhn (by simpa using h0),hds]
  have HX:Hid (∀w,Calls Tryz.prog 118 #[.string (S.extract r.at_ S.size)] w fun e w'=>e=.returned (.tuple #[.int .u64 (rdU (S.data.toList.drop r.at_)).2.1,.int .i64 (rdU (S.data.toList.drop r.at_)).2.2,.int .i64 (rdU (S.data.toList.drop r.at_)).1])∧w'=w):=fun w=>by
   have:=zx5 (S.extract r.at_ S.size) (by rw [zhm _ _ _ (Nat.le_refl _)];omega) w
   rw [zjx] at this
   exact this.mono fun _ _ h=>⟨h.1,h.2.symm⟩
  have hsm:=zfc (S.data.toList.drop r.at_)
  have hle:(rdU (S.data.toList.drop r.at_)).2.2+r.at_≤S.size:=by
   have:=hsm.2
   rw [List.length_drop] at this
   have h2:S.data.toList.length=S.size:=rfl
   omega
  clear hsm h hS hsz hds
  generalize rdU (S.data.toList.drop r.at_)=t at *
  obtain ⟨t0,t1,t2⟩:=t
  simp only at hle HN
  simp only at HX
  generalize r.at_=A at *
  go_enter Tryz.func108,Tryz.ntmps108
  go_wp2_with fail
  refine (HE.out _ HR.out).mono ?_
  rintro e w1 ⟨rfl,rfl⟩
  go_wp2_with fail
  go_quiet ((go_at_call 118;refine Calls.quiet_of_same (HX.out _)))
  go_wp2_with fail
  go_quiet (fail)
  go_wp2_with fail
  go_ret3
  rw [zho]
  exact N3.mk HN.out rfl (Int.natCast_add A t2).symm rfl
 ·have hz:((r.e:Int) != 0)=true:=by rw [bne_iff_ne];omega
  have HN:Hid (nxt r=(r.e,0,0)):=zdk h0
  clear h hS hsz hds
  go_enter Tryz.func108,Tryz.ntmps108
  go_wp2_with fail
  refine (HE.out _ HR.out).mono ?_
  rintro e w1 ⟨rfl,rfl⟩
  go_wp2_with fail
  go_ret3
  exact N3.mk0 HN.out rfl rfl rfl
def RP (q:Nat) (v:Value) (r:Rd) (w:World) (e:Ending) (w':World):Prop:=e=.returned v∧Hid (Rm w' q r)∧Hid (Bt q w w')
theorem RP.mk {q:Nat} {u v:Value} {r:Rd} {w w':World} (hv:u=v) (h:Rm w' q r) (hb:Bt q w w'):RP q v r w (.returned u) w':=⟨by rw [hv],h,hb⟩
theorem zd2 (r:Rd):zas r=if (nxt r).1=0 then ({ r with at_:=(nxt r).2.2 },(nxt r).2.1) else (if r.e=0 then { r with e:=(nxt r).1 } else r,0):=by
 by_cases h:r.e≠0
 ·rw [zb7 h,zdk h,if_neg h,if_neg h]
 ·rw [zhn h]
  unfold zas
  rw [if_neg h]
  by_cases h1:(rdU (r.s.drop r.at_)).1=0
  ·rw [if_pos h1,if_pos h1]
  ·rw [if_neg h1,if_neg h1,if_pos (by simpa using h)]
theorem zuz (q:Nat) (r:Rd) (w:World) (h:Rm w q r):Calls Tryz.prog 88 #[.pointer (some ⟨q,0,none⟩)] w (RP q (.int .u64 (zas r).2) (zas r).1 w):=by
 have HX:Hid (Calls Tryz.prog 108 #[.pointer (some ⟨q,0,none⟩)] w (N3 (nxt r) w)):=znb q r w h
 have HF:Hid (∀(e:Nat) (w1:World),Rm w1 q r→Calls Tryz.prog 89 #[.pointer (some ⟨q,0,none⟩),.int .i64 e] w1 (FlP q r e w1)):=fun e w1 h=>zqm q r e w1 h
 have hsm:=zde h.le
 have HU:Hid (zas r=if (nxt r).1=0 then ({ r with at_:=(nxt r).2.2 },(nxt r).2.1) else (if r.e=0 then { r with e:=(nxt r).1 } else r,0)):=zd2 r
 have HR:Hid (Rm w q r):=h
 have hlen:=h.len
 clear h
 unfold N3 at HX
 generalize nxt r=t at *
 obtain ⟨t0,t1,t2⟩:=t
 simp only at HX HU hsm
 by_cases h0:t0=0
 ·have hz:((t0:Int) != 0)=false:=by rw [h0];rfl
  rw [if_pos h0] at HU
  go_enter Tryz.func88,Tryz.ntmps88
  go_wp2_with fail
  refine HX.out.mono ?_
  rintro e w1 ⟨rfl,n,hn⟩
  have HR1:Hid (Rm w1 q r):=by unfold Hid;rw [hn];exact HR.out.drewN n
  have HB1:Hid (Bt q w w1):=by unfold Hid;rw [hn];exact (Bt.refl q w).drewN n
  have c2:w1.cell? ⟨q,2,none⟩=some (.int .i64 r.at_):=HR1.out.cell 2
  have f2:=HR1.out.froz 2
  clear hn
  go_wp2_with fail
  go_ret
  exact RP.mk (by rw [HU.out];rfl) (by rw [HU.out];exact HR1.out.setAt t2 hsm.2) (HB1.out.trans (Bt.set q w1 2 _))
 ·have hz:((t0:Int) != 0)=true:=by rw [bne_iff_ne];omega
  rw [if_neg h0] at HU
  go_enter Tryz.func88,Tryz.ntmps88
  go_wp2_with fail
  refine HX.out.mono ?_
  rintro e w1 ⟨rfl,n,hn⟩
  have HR1:Hid (Rm w1 q r):=by unfold Hid;rw [hn];exact HR.out.drewN n
  have HB1:Hid (Bt q w w1):=by unfold Hid;rw [hn];exact (Bt.refl q w).drewN n
  clear hn
  go_wp2_with fail
  refine (HF.out t0 _ HR1.out).mono ?_
  rintro e w2 ⟨rfl,hw2⟩
  have HR2:Hid (Rm w2 q (zas r).1∧Bt q w w2):=by
   unfold Hid
   rw [HU.out]
   by_cases he:r.e=0
   ·rw [if_pos he] at hw2
    subst hw2
    simp only [if_pos he]
    exact ⟨HR1.out.setE t0,HB1.out.trans (Bt.set q w1 3 _)⟩
   ·rw [if_neg he] at hw2
    subst hw2
    simp only [if_neg he]
    exact ⟨HR1.out,HB1.out⟩
  clear hw2
  go_wp2_with fail
  go_ret
  exact RP.mk (by rw [HU.out];rfl) HR2.out.1 HR2.out.2
end Go.Proofs.YtdmlgheajblcdaaGreat
