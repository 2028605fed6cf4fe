/- Layer 10: the reference's tests of amounts, lots, quotes and prices. -/
import Derived.Test.YtdmlgheajblcdaaGreatD05
namespace Go.Proofs.YtdmlgheajblcdaaGreat
set_option maxHeartbeats 16000000
set_option maxRecDepth 100000
open Go.RowKit
set_option linter.unusedVariables false
set_option linter.unusedSimpArgs false
set_option maxRecDepth 20000
theorem zey (n:Int) (g:Bool) (h:sgn n=g) (w:World):Calls Tryz.prog 73 #[.int .i64 n] w (BP g w):=by
 unfold sgn at h
 by_cases h1:amt n=true
 ·have H:Hid (true=g):=by unfold Hid;rw [← h,h1];rfl
  clear h
  go_enter Tryz.func73,Tryz.ntmps73
  go_wp2_with (go_at_call 46;refine (za6 _ _ h1 _).mono ?_;rintro e w2 ⟨rfl,rfl⟩)
  go_ret
  exact BP.mk H.out
 ·have h1:amt n=false:=by simpa using h1
  by_cases h2:n<0
  ·have H:Hid (decide (-1125899906842624≤n)=g):=by unfold Hid;rw [← h,h1,decide_eq_true h2];rfl
   clear h
   go_enter Tryz.func73,Tryz.ntmps73
   go_wp2_with (go_at_call 46;refine (za6 _ _ h1 _).mono ?_;rintro e w2 ⟨rfl,rfl⟩)
   go_ret
   exact BP.mk H.out
  ·have H:Hid (false=g):=by unfold Hid;rw [← h,h1,decide_eq_false h2];rfl
   clear h
   go_enter Tryz.func73,Tryz.ntmps73
   go_wp2_with (go_at_call 46;refine (za6 _ _ h1 _).mono ?_;rintro e w2 ⟨rfl,rfl⟩)
   go_ret
   exact BP.mk H.out
theorem zxv (l:Lt) (g:Nat) (hg:zdo C0 l=g) (w:World):Calls Tryz.prog 74 #[.agg #[.string ⟨l.i.toArray⟩,.int .i64 l.q]] w (KP (.int .i64 g) w):=by
 have HB:Hid (Below w.heap.size w (w.alloc (.cells #[.string ⟨l.i.toArray⟩,.int .i64 l.q] 32))):=zab w _
 have HC:Hid (∀w,Calls Tryz.prog 70 #[.string ⟨l.i.toArray⟩] w (NB (C0.is l.i:Nat) w)):=fun w=>znt l.i _ rfl w
 unfold zdo at hg
 by_cases e1:amt l.q=true
 ·rw [if_pos e1] at hg
  subst hg
  generalize C0.is l.i=g at *
  go_enter Tryz.func74,Tryz.ntmps74
  go_wp2_with (go_at_call 46;refine (za6 _ _ e1 _).mono ?_;rintro e w2 ⟨rfl,rfl⟩)
  refine (HC.out _).mono ?_
  rintro e w2 ⟨rfl,hb⟩
  have HB2:Hid (Below w.heap.size w w2):=bt HB.out hb.out
  clear hb
  go_wp2_with fail
  go_ret
  exact KP.mk rfl HB2.out
 ·have e1:amt l.q=false:=by simpa using e1
  rw [if_neg (ff e1)] at hg
  subst hg
  go_enter Tryz.func74,Tryz.ntmps74
  go_wp2_with (go_at_call 46;refine (za6 _ _ e1 _).mono ?_;rintro e w2 ⟨rfl,rfl⟩)
  go_ret
  exact KP.mk rfl HB.out
theorem zf2 (q:Qu):quE C0 q=if amt q.id=true then if inn q.side 1 2=true then if inn q.bas 1 64=true then if amt q.am=true then if inn q.rate (-1000000) 1000000=true then if inn q.st 0 200000=true then if (decide (q.en=0)||(inn q.en 0 200000&&inn (q.en-q.st) 1 3660))=true then 0 else 10 else 10 else 1 else 1 else 1 else 1 else 1:=by
  unfold quE
  show (if (!(amt q.id&&(inn q.side 1 2&&(inn q.bas 1 64&&(amt q.am&&inn q.rate (-1000000) 1000000)))))=true then 1 else if (!(inn q.st 0 200000&&(decide (q.en=0)||(inn q.en 0 200000&&inn (q.en-q.st) 1 3660))))=true then 10 else 0)=_
  cases amt q.id with
  | false=>rfl
  | true =>
    cases inn q.side 1 2 with
    | false=>rfl
    | true =>
      cases inn q.bas 1 64 with
      | false=>rfl
      | true =>
        cases amt q.am with
        | false=>rfl
        | true =>
          cases inn q.rate (-1000000) 1000000 with
          | false=>rfl
          | true =>
            cases inn q.st 0 200000 with
            | false=>rfl
            | true =>
              cases (decide (q.en=0)||(inn q.en 0 200000&&inn (q.en-q.st) 1 3660)) with
              | false=>rfl
              | true =>
                rfl
theorem zoc (q:Qu) (g:Nat) (hg:quE C0 q=g) (w:World):Calls Tryz.prog 36 #[.agg #[.int .i64 q.id,.int .i64 q.mem,.int .i64 q.side,.int .i64 q.bas,.int .i64 q.am,.int .i64 q.rate,.int .i64 q.st,.int .i64 q.en]] w (KP (.int .i64 g) w):=by
  have HG:Hid ((if amt q.id=true then if inn q.side 1 2=true then if inn q.bas 1 64=true then if amt q.am=true then if inn q.rate (-1000000) 1000000=true then if inn q.st 0 200000=true then if (decide (q.en=0)||(inn q.en 0 200000&&inn (q.en-q.st) 1 3660))=true then 0 else 10 else 10 else 1 else 1 else 1 else 1 else 1)=g):=by unfold Hid;rw [← zf2];exact hg
  have HB:Hid (Below w.heap.size w (w.alloc (.cells #[.int .i64 q.id,.int .i64 q.mem,.int .i64 q.side,.int .i64 q.bas,.int .i64 q.am,.int .i64 q.rate,.int .i64 q.st,.int .i64 q.en] 30))):=zab w _
  clear hg
  go_enter Tryz.func36,Tryz.ntmps36
  by_cases e2:amt q.id=true
  · by_cases e3 : inn q.side 1 2 = true
    · by_cases e4 : inn q.bas 1 64 = true
      · by_cases e5 : amt q.am = true
        · by_cases e6 : inn q.rate (-1000000) 1000000 = true
          · by_cases e7 : inn q.st 0 200000 = true
            · by_cases f1 : q.en = 0
              · have HG2 : Hid (0 = g) := by have := HG.out; rw [if_pos e2, if_pos e3, if_pos e4, if_pos e5, if_pos e6, if_pos e7, if_pos (by first | (rw [decide_eq_true f1]; rfl) | (rw [decide_eq_false f1, f2, f3]; rfl))] at this; exact this
                have z1:(q.en != 0)=false:=by rw [f1];rfl
                clear HG f1
                go_wp2_with (first | (go_at_call 46;refine (za6 _ _ (by first | exact e2 | exact e5) _).mono ?_;rintro e w2 ⟨rfl,rfl⟩) | (go_at_call 45;refine (rin _ _ _ _ (by first | exact e3 | exact e4 | exact e6 | exact f3) _).mono ?_;rintro e w2 ⟨rfl,rfl⟩) | (go_at_call 71;refine (zdt _ _ (by first | exact e7 | exact f2) _).mono ?_;rintro e w2 ⟨rfl,rfl⟩))
                go_ret
                exact KP.mk (by rw [← HG2.out];rfl) HB.out
              · have z1 : (q.en != 0) = true := by rw [bne_iff_ne]; exact f1
                by_cases f2:inn q.en 0 200000=true
                · have hr : 0 ≤ q.st ∧ q.st ≤ 200000 ∧ 0 ≤ q.en ∧ q.en ≤ 200000 := by
                    have e7:=e7
                    have f2:=f2
                    unfold inn at e7 f2
                    rw [Bool.and_eq_true,decide_eq_true_iff,decide_eq_true_iff] at e7 f2
                    omega
                  obtain ⟨r1,r2,r3,r4⟩:=hr
                  by_cases f3:inn (q.en-q.st) 1 3660=true
                  · have HG2 : Hid (0 = g) := by have := HG.out; rw [if_pos e2, if_pos e3, if_pos e4, if_pos e5, if_pos e6, if_pos e7, if_pos (by first | (rw [decide_eq_true f1]; rfl) | (rw [decide_eq_false f1, f2, f3]; rfl))] at this; exact this
                    clear HG f1
                    go_wp2_with (first | (go_at_call 46;refine (za6 _ _ (by first | exact e2 | exact e5) _).mono ?_;rintro e w2 ⟨rfl,rfl⟩) | (go_at_call 45;refine (rin _ _ _ _ (by first | exact e3 | exact e4 | exact e6 | exact f3) _).mono ?_;rintro e w2 ⟨rfl,rfl⟩) | (go_at_call 71;refine (zdt _ _ (by first | exact e7 | exact f2) _).mono ?_;rintro e w2 ⟨rfl,rfl⟩))
                    go_ret
                    exact KP.mk (by rw [← HG2.out];rfl) HB.out
                  · have f3 : inn (q.en - q.st) 1 3660 = false := by simpa using f3
                    have HG2:Hid (10=g):=by have:=HG.out;rw [if_pos e2,if_pos e3,if_pos e4,if_pos e5,if_pos e6,if_pos e7,if_neg (ff (by rw [decide_eq_false f1,f2,f3];rfl))] at this;exact this
                    clear HG f1
                    go_wp2_with (first | (go_at_call 46;refine (za6 _ _ (by first | exact e2 | exact e5) _).mono ?_;rintro e w2 ⟨rfl,rfl⟩) | (go_at_call 45;refine (rin _ _ _ _ (by first | exact e3 | exact e4 | exact e6 | exact f3) _).mono ?_;rintro e w2 ⟨rfl,rfl⟩) | (go_at_call 71;refine (zdt _ _ (by first | exact e7 | exact f2) _).mono ?_;rintro e w2 ⟨rfl,rfl⟩))
                    go_ret
                    exact KP.mk (by rw [← HG2.out];rfl) HB.out
                · have f2 : inn q.en 0 200000 = false := by simpa using f2
                  have HG2:Hid (10=g):=by have:=HG.out;rw [if_pos e2,if_pos e3,if_pos e4,if_pos e5,if_pos e6,if_pos e7,if_neg (ff (by rw [decide_eq_false f1,f2];rfl))] at this;exact this
                  clear HG f1
                  go_wp2_with (first | (go_at_call 46;refine (za6 _ _ (by first | exact e2 | exact e5) _).mono ?_;rintro e w2 ⟨rfl,rfl⟩) | (go_at_call 45;refine (rin _ _ _ _ (by first | exact e3 | exact e4 | exact e6 | exact f3) _).mono ?_;rintro e w2 ⟨rfl,rfl⟩) | (go_at_call 71;refine (zdt _ _ (by first | exact e7 | exact f2) _).mono ?_;rintro e w2 ⟨rfl,rfl⟩))
                  go_ret
                  exact KP.mk (by rw [← HG2.out];rfl) HB.out
            · have e7 : inn q.st 0 200000 = false := by simpa using e7
              have HG2:Hid (10=g):=by have:=HG.out;rw [if_pos e2,if_pos e3,if_pos e4,if_pos e5,if_pos e6,if_neg (ff e7)] at this;exact this
              clear HG
              go_wp2_with (first | (go_at_call 46;refine (za6 _ _ (by first | exact e2 | exact e5) _).mono ?_;rintro e w2 ⟨rfl,rfl⟩) | (go_at_call 45;refine (rin _ _ _ _ (by first | exact e3 | exact e4 | exact e6 | exact f3) _).mono ?_;rintro e w2 ⟨rfl,rfl⟩) | (go_at_call 71;refine (zdt _ _ (by first | exact e7 | exact f2) _).mono ?_;rintro e w2 ⟨rfl,rfl⟩))
              go_ret
              exact KP.mk (by rw [← HG2.out];rfl) HB.out
          · have e6 : inn q.rate (-1000000) 1000000 = false := by simpa using e6
            have HG2:Hid (1=g):=by have:=HG.out;rw [if_pos e2,if_pos e3,if_pos e4,if_pos e5,if_neg (ff e6)] at this;exact this
            clear HG
            go_wp2_with (first | (go_at_call 46;refine (za6 _ _ (by first | exact e2 | exact e5) _).mono ?_;rintro e w2 ⟨rfl,rfl⟩) | (go_at_call 45;refine (rin _ _ _ _ (by first | exact e3 | exact e4 | exact e6 | exact f3) _).mono ?_;rintro e w2 ⟨rfl,rfl⟩) | (go_at_call 71;refine (zdt _ _ (by first | exact e7 | exact f2) _).mono ?_;rintro e w2 ⟨rfl,rfl⟩))
            go_ret
            exact KP.mk (by rw [← HG2.out];rfl) HB.out
        · have e5 : amt q.am = false := by simpa using e5
          have HG2:Hid (1=g):=by have:=HG.out;rw [if_pos e2,if_pos e3,if_pos e4,if_neg (ff e5)] at this;exact this
          clear HG
          go_wp2_with (first | (go_at_call 46;refine (za6 _ _ (by first | exact e2 | exact e5) _).mono ?_;rintro e w2 ⟨rfl,rfl⟩) | (go_at_call 45;refine (rin _ _ _ _ (by first | exact e3 | exact e4 | exact e6 | exact f3) _).mono ?_;rintro e w2 ⟨rfl,rfl⟩) | (go_at_call 71;refine (zdt _ _ (by first | exact e7 | exact f2) _).mono ?_;rintro e w2 ⟨rfl,rfl⟩))
          go_ret
          exact KP.mk (by rw [← HG2.out];rfl) HB.out
      · have e4 : inn q.bas 1 64 = false := by simpa using e4
        have HG2:Hid (1=g):=by have:=HG.out;rw [if_pos e2,if_pos e3,if_neg (ff e4)] at this;exact this
        clear HG
        go_wp2_with (first | (go_at_call 46;refine (za6 _ _ (by first | exact e2 | exact e5) _).mono ?_;rintro e w2 ⟨rfl,rfl⟩) | (go_at_call 45;refine (rin _ _ _ _ (by first | exact e3 | exact e4 | exact e6 | exact f3) _).mono ?_;rintro e w2 ⟨rfl,rfl⟩) | (go_at_call 71;refine (zdt _ _ (by first | exact e7 | exact f2) _).mono ?_;rintro e w2 ⟨rfl,rfl⟩))
        go_ret
        exact KP.mk (by rw [← HG2.out];rfl) HB.out
    · have e3 : inn q.side 1 2 = false := by simpa using e3
      have HG2:Hid (1=g):=by have:=HG.out;rw [if_pos e2,if_neg (ff e3)] at this;exact this
      clear HG
      go_wp2_with (first | (go_at_call 46;refine (za6 _ _ (by first | exact e2 | exact e5) _).mono ?_;rintro e w2 ⟨rfl,rfl⟩) | (go_at_call 45;refine (rin _ _ _ _ (by first | exact e3 | exact e4 | exact e6 | exact f3) _).mono ?_;rintro e w2 ⟨rfl,rfl⟩) | (go_at_call 71;refine (zdt _ _ (by first | exact e7 | exact f2) _).mono ?_;rintro e w2 ⟨rfl,rfl⟩))
      go_ret
      exact KP.mk (by rw [← HG2.out];rfl) HB.out
  · have e2 : amt q.id = false := by simpa using e2
    have HG2:Hid (1=g):=by have:=HG.out;rw [if_neg (ff e2)] at this;exact this
    clear HG
    go_wp2_with (first | (go_at_call 46;refine (za6 _ _ (by first | exact e2 | exact e5) _).mono ?_;rintro e w2 ⟨rfl,rfl⟩) | (go_at_call 45;refine (rin _ _ _ _ (by first | exact e3 | exact e4 | exact e6 | exact f3) _).mono ?_;rintro e w2 ⟨rfl,rfl⟩) | (go_at_call 71;refine (zdt _ _ (by first | exact e7 | exact f2) _).mono ?_;rintro e w2 ⟨rfl,rfl⟩))
    go_ret
    exact KP.mk (by rw [← HG2.out];rfl) HB.out
theorem zod (xs:List Lt) (a:Option Addr) (cap:Nat) (w:World) (hL:Lts w.heap.size w a xs) (hl:xs.length≤9223372036854775807) (g:Nat) (hg:prE C0 xs=g):Calls Tryz.prog 32 #[.slice a xs.length cap] w (KP (.int .i64 g) w):=by
  have HI:Hid (Lts w.heap.size w a xs):=hL
  clear hL
  by_cases e1:inn (xs.length:Int) 1 64=true
  · have HG : Hid (zeg C0 (ahI xs 0) (xs.drop 0) = g) := by unfold Hid; rw [← zmw e1]; exact hg
    have n1:((xs.length:Int)==0)=false∧¬ (xs.length:Int) > 64:=by
      unfold inn at e1
      rw [Bool.and_eq_true,decide_eq_true_iff,decide_eq_true_iff] at e1
      exact ⟨by rw [beq_eq_false_iff_ne];omega,by omega⟩
    obtain ⟨n1,n2⟩:=n1
    clear hg e1
    go_enter Tryz.func32,Tryz.ntmps32
    go_wp2_with fail
    go_loopw [3] (fun i wr=>∃(k:Nat),i=.int .i64 k∧k≤xs.length∧Hid (zeg C0 (ahI xs k) (xs.drop k)=g)∧Hid (Below w.heap.size w wr)) (fun i _=>xs.length-(Lib.intOf i).toNat)
    case atStart=>exact ⟨0,rfl,Nat.zero_le _,HG,Below.refl _ _⟩
    case round=>
      clear HG
      obtain ⟨k,rfl,hk,HK,HBw⟩:=hrel
      by_cases hkn:k<xs.length
      · have hkz : (k : Int) < (xs.length : Int) := by omega
        obtain ⟨b,off,rfl,hbl,hce⟩:=HI.out (by omega)
        have hc1:wr.cell? ⟨b,off+k*2,none⟩=some (.string ⟨xs[k].i.toArray⟩):=(HBw.out.cell (by exact hbl)).trans (hce k hkn).1
        have hc0:k=0→wr.cell? ⟨b,off,none⟩=some (.string ⟨xs[k].i.toArray⟩):=by rintro rfl;have:=hc1;simpa using this
        have HC:Hid (∀w,Calls Tryz.prog 70 #[.string ⟨xs[k].i.toArray⟩] w (NB (C0.is xs[k].i:Nat) w)):=fun w=>znt xs[k].i _ rfl w
        have HK2:Hid ((if C0.is xs[k].i≠0 then C0.is xs[k].i else if !(inn xs[k].q 1 4294967296&&zm5 C0 (ahI xs k) xs[k].i) then 31 else zeg C0 (ahI xs (k+1)) (xs.drop (k+1)))=g):=by unfold Hid;rw [← zit hkn];exact HK.out
        clear HK
        by_cases e2:C0.is xs[k].i=0
        · have HK3 : Hid ((if !(inn xs[k].q 1 4294967296 && zm5 C0 (ahI xs k) xs[k].i) then 31 else zeg C0 (ahI xs (k + 1)) (xs.drop (k + 1))) = g) := by have := HK2.out; rw [if_neg (by simpa using e2)] at this; exact this
          clear HK2
          rw [e2] at HC
          clear e2
          have hce2:=hce
          have HCE:Hid (∀(W:World),Below w.heap.size w W→∀j (h:j<xs.length),W.cell? ⟨b,off+j*2,none⟩=some (.string ⟨xs[j].i.toArray⟩)∧W.cell? ⟨b,off+j*2+1,none⟩=some (.int .i64 xs[j].q)):=fun W hb j hj=>⟨(hb.cell (by exact hbl)).trans (hce j hj).1,(hb.cell (by exact hbl)).trans (hce j hj).2⟩
          clear hce hce2
          cases k with
          | zero =>
            have hz1:=hc0 rfl
            clear hc1 hc0
            go_wp2_with fail
            refine (HC.out _).mono ?_
            rintro e w2 ⟨rfl,hb⟩
            have HB2:Hid (Below w.heap.size w w2):=bt HBw.out hb.out
            have HB3:Hid (∀n,Below w.heap.size w (w2.drewN n)):=fun n=>zef HB2.out n
            have hd1:w2.cell? ⟨b,off,none⟩=some (.string ⟨xs[0].i.toArray⟩):=by have:=(HCE.out _ HB2.out 0 hkn).1;simpa using this
            have hd2:w2.cell? ⟨b,off+1,none⟩=some (.int .i64 xs[0].q):=by have:=(HCE.out _ HB2.out 0 hkn).2;simpa using this
            clear hb HBw hz1 HCE
            by_cases e3:inn xs[0].q 1 4294967296=true
            · have HK4 : Hid (zeg C0 (ahI xs 1) (xs.drop 1) = g) := by have := HK3.out; rw [e3] at this; exact this
              clear HK3
              generalize (⟨xs[0].i.toArray⟩:ByteArray)=X at *
              generalize xs[0].q=q at *
              go_wp2_with fail
              go_quiet ((go_at_call 45;refine Calls.quiet_of_same (zjl _ _ _ _ e3 _)))
              go_wp2_with fail
              exact ⟨⟨1,by go_num,by omega,HK4,HB3.out _⟩,by simp [Lib.intOf];omega⟩
            · have e3 : inn xs[0].q 1 4294967296 = false := by simpa using e3
              have HK4:Hid (31=g):=by have:=HK3.out;rw [e3] at this;exact this
              clear HK3
              generalize (⟨xs[0].i.toArray⟩:ByteArray)=X at *
              generalize xs[0].q=q at *
              go_wp2_with fail
              go_quiet ((go_at_call 45;refine Calls.quiet_of_same (zjl _ _ _ _ e3 _)))
              go_wp2_with fail
              go_ret
              exact KP.mk (by rw [← HK4.out];rfl) (HB3.out _)
          | succ j =>
            clear hc0
            go_wp2_with fail
            refine (HC.out _).mono ?_
            rintro e w2 ⟨rfl,hb⟩
            have HB2:Hid (Below w.heap.size w w2):=bt HBw.out hb.out
            have HB3:Hid (∀n,Below w.heap.size w (w2.drewN n)):=fun n=>zef HB2.out n
            have hd1:w2.cell? ⟨b,off+(j+1)*2,none⟩=some (.string ⟨xs[j+1].i.toArray⟩):=(HCE.out _ HB2.out (j+1) hkn).1
            have hd2:w2.cell? ⟨b,off+(j+1)*2+1,none⟩=some (.int .i64 xs[j+1].q):=(HCE.out _ HB2.out (j+1) hkn).2
            have hd3:w2.cell? ⟨b,off+j*2,none⟩=some (.string ⟨xs[j].i.toArray⟩):=(HCE.out _ HB2.out j (by omega)).1
            have hp:ahI xs (j+1)=some xs[j].i:=by show (xs[j]?).map Lt.i=_;rw [List.getElem?_eq_getElem];rfl
            clear hb HBw hc1 HCE
            by_cases e3:inn xs[j+1].q 1 4294967296=true
            · have HK4 : Hid ((if !(!C0.le xs[j + 1].i xs[j].i) then 31 else zeg C0 (ahI xs (j + 1 + 1)) (xs.drop (j + 1 + 1))) = g) := by have := HK3.out; rw [e3, hp] at this; exact this
              rw [zsm] at HK4
              clear HK3 hp
              generalize (⟨xs[j+1].i.toArray⟩:ByteArray)=X at *
              generalize (⟨xs[j].i.toArray⟩:ByteArray)=Y at *
              generalize xs[j+1].q=q at *
              generalize hb1:Op.bytesLess X.toList Y.toList=b1 at *
              generalize hb2:(X.toList==Y.toList)=b2 at *
              cases b1 with
              | true =>
                have HK5:Hid (31=g):=HK4.out
                clear HK4
                go_wp2_with fail
                go_quiet ((go_at_call 45;refine Calls.quiet_of_same (zjl _ _ _ _ e3 _)))
                go_wp2_with fail
                go_ret
                exact KP.mk (by rw [← HK5.out];rfl) (HB3.out _)
              | false =>
                cases b2 with
                | true =>
                  have HK5:Hid (31=g):=HK4.out
                  clear HK4
                  go_wp2_with fail
                  go_quiet ((go_at_call 45;refine Calls.quiet_of_same (zjl _ _ _ _ e3 _)))
                  go_wp2_with fail
                  go_ret
                  exact KP.mk (by rw [← HK5.out];rfl) (HB3.out _)
                | false =>
                  have HK5:Hid (zeg C0 (ahI xs (j+1+1)) (xs.drop (j+1+1))=g):=HK4.out
                  clear HK4
                  go_wp2_with fail
                  go_quiet ((go_at_call 45;refine Calls.quiet_of_same (zjl _ _ _ _ e3 _)))
                  go_wp2_with fail
                  exact ⟨⟨j+1+1,by go_num,by omega,HK5,HB3.out _⟩,by simp [Lib.intOf];omega⟩
            · have e3 : inn xs[j + 1].q 1 4294967296 = false := by simpa using e3
              have HK4:Hid (31=g):=by have:=HK3.out;rw [e3] at this;exact this
              clear HK3
              generalize (⟨xs[j+1].i.toArray⟩:ByteArray)=X at *
              generalize (⟨xs[j].i.toArray⟩:ByteArray)=Y at *
              generalize xs[j+1].q=q at *
              go_wp2_with fail
              go_quiet ((go_at_call 45;refine Calls.quiet_of_same (zjl _ _ _ _ e3 _)))
              go_wp2_with fail
              go_ret
              exact KP.mk (by rw [← HK4.out];rfl) (HB3.out _)
        · have HK3 : Hid (C0.is xs[k].i = g) := by have := HK2.out; rw [if_pos e2] at this; exact this
          have z2:((C0.is xs[k].i:Int) != 0)=true:=by rw [bne_iff_ne];omega
          have HCE:Hid (∀(W:World),Below w.heap.size w W→W.cell? ⟨b,off+k*2,none⟩=some (.string ⟨xs[k].i.toArray⟩)):=fun W hb=>(hb.cell (by exact hbl)).trans (hce k hkn).1
          clear HK2 hce e2
          generalize C0.is xs[k].i=ce at *
          generalize (⟨xs[k].i.toArray⟩:ByteArray)=X at *
          go_wp2_with fail
          refine (HC.out _).mono ?_
          rintro e w2 ⟨rfl,hb⟩
          have HB2:Hid (Below w.heap.size w w2):=bt HBw.out hb.out
          have hd1:=HCE.out _ HB2.out
          clear hb HBw
          go_wp2_with fail
          refine (HC.out _).mono ?_
          rintro e w3 ⟨rfl,hb⟩
          have HB3:Hid (Below w.heap.size w w3):=bt HB2.out hb.out
          clear hb HB2
          go_wp2_with fail
          go_ret
          exact KP.mk (by rw [← HK3.out];rfl) HB3.out
      · have hkz : ¬ (k : Int) < (xs.length : Int) := by omega
        have HK3:Hid (0=g):=by have:=HK.out;rw [List.drop_of_length_le (by omega)] at this;exact this
        clear HK
        go_wp2_with fail
        go_ret
        exact KP.mk (by rw [← HK3.out];rfl) HBw.out
  · have e1 : inn (xs.length : Int) 1 64 = false := by simpa using e1
    have HG2:Hid (2=g):=by unfold Hid;rw [← hg,ziu e1]
    have hcs:xs.length=0∨64<xs.length:=by
      unfold inn at e1
      rw [Bool.and_eq_false_iff,decide_eq_false_iff_not,decide_eq_false_iff_not] at e1
      omega
    clear hg e1
    rcases hcs with h0 | h0
    · have n1 : ((xs.length : Int) == 0) = true := by rw [beq_iff_eq]; omega
      clear h0
      go_enter Tryz.func32,Tryz.ntmps32
      go_wp2_with fail
      go_ret
      exact KP.mk (by rw [← HG2.out];rfl) (Below.refl _ _)
    · have n1 : ((xs.length : Int) == 0) = false := by rw [beq_eq_false_iff_ne]; omega
      have n2:(xs.length:Int) > 64:=by omega
      clear h0
      go_enter Tryz.func32,Tryz.ntmps32
      go_wp2_with fail
      go_ret
      exact KP.mk (by rw [← HG2.out];rfl) (Below.refl _ _)
theorem zoe (x0:Int) (x1:ByteArray) (g:Nat) (w:World) (hc:∀W,Below w.heap.size w W→Calls Tryz.prog 165 #[.agg #[.int .i64 x0,.string x1]] W (KP (.int .i64 g) W)):Calls Tryz.prog 12 #[.iface 76 (.agg #[.int .i64 x0,.string x1])] w (KP (.int .i64 g) w):=by
 have HC:Hid (∀W,Below w.heap.size w W→Calls Tryz.prog 165 #[.agg #[.int .i64 x0,.string x1]] W (KP (.int .i64 g) W)):=hc
 clear hc
 go_enter Tryz.func12,Tryz.ntmps12
 go_wp2_with fail
 refine (zsb x0 x1 _).mono ?_
 rintro e w2 ⟨rfl,hb⟩
 go_wp2_with fail
 refine (HC.out _ hb.out).mono ?_
 rintro e w3 ⟨rfl,hb3⟩
 have HB:Hid (Below w.heap.size w w3):=bt hb.out hb3.out
 clear hb hb3
 go_wp2_with fail
 go_ret
 exact KP.mk rfl HB.out
theorem zof (x0:ByteArray) (x1:Int) (x2:Int) (x3:Int) (x4:ByteArray) (g:Nat) (w:World) (hc:∀W,Below w.heap.size w W→Calls Tryz.prog 174 #[.agg #[.string x0,.int .i64 x1,.int .i64 x2,.int .i64 x3,.string x4]] W (KP (.int .i64 g) W)):Calls Tryz.prog 12 #[.iface 78 (.agg #[.string x0,.int .i64 x1,.int .i64 x2,.int .i64 x3,.string x4])] w (KP (.int .i64 g) w):=by
 have HC:Hid (∀W,Below w.heap.size w W→Calls Tryz.prog 174 #[.agg #[.string x0,.int .i64 x1,.int .i64 x2,.int .i64 x3,.string x4]] W (KP (.int .i64 g) W)):=hc
 clear hc
 go_enter Tryz.func12,Tryz.ntmps12
 go_wp2_with fail
 refine (zsc x0 x1 x2 x3 x4 _).mono ?_
 rintro e w2 ⟨rfl,hb⟩
 go_wp2_with fail
 refine (HC.out _ hb.out).mono ?_
 rintro e w3 ⟨rfl,hb3⟩
 have HB:Hid (Below w.heap.size w w3):=bt hb.out hb3.out
 clear hb hb3
 go_wp2_with fail
 go_ret
 exact KP.mk rfl HB.out
theorem zog (x0:Int) (x1:Int) (x2:ByteArray) (x3:Int) (x4:Int) (x5:Int) (x6a:Option Addr) (x6n x6c:Nat) (x7:Int) (x8:Int) (x9a:Option Addr) (x9n x9c:Nat) (g:Nat) (w:World) (hc:∀W,Below w.heap.size w W→Calls Tryz.prog 179 #[.agg #[.int .i64 x0,.int .i64 x1,.string x2,.int .i64 x3,.int .i64 x4,.int .i64 x5,.slice x6a x6n x6c,.int .i64 x7,.int .i64 x8,.slice x9a x9n x9c]] W (KP (.int .i64 g) W)):Calls Tryz.prog 12 #[.iface 80 (.agg #[.int .i64 x0,.int .i64 x1,.string x2,.int .i64 x3,.int .i64 x4,.int .i64 x5,.slice x6a x6n x6c,.int .i64 x7,.int .i64 x8,.slice x9a x9n x9c])] w (KP (.int .i64 g) w):=by
 have HC:Hid (∀W,Below w.heap.size w W→Calls Tryz.prog 179 #[.agg #[.int .i64 x0,.int .i64 x1,.string x2,.int .i64 x3,.int .i64 x4,.int .i64 x5,.slice x6a x6n x6c,.int .i64 x7,.int .i64 x8,.slice x9a x9n x9c]] W (KP (.int .i64 g) W)):=hc
 clear hc
 go_enter Tryz.func12,Tryz.ntmps12
 go_wp2_with fail
 refine (zsd x0 x1 x2 x3 x4 x5 x6a x6n x6c x7 x8 x9a x9n x9c _).mono ?_
 rintro e w2 ⟨rfl,hb⟩
 go_wp2_with fail
 refine (HC.out _ hb.out).mono ?_
 rintro e w3 ⟨rfl,hb3⟩
 have HB:Hid (Below w.heap.size w w3):=bt hb.out hb3.out
 clear hb hb3
 go_wp2_with fail
 go_ret
 exact KP.mk rfl HB.out
theorem zoh (x0a:Option Addr) (x0n x0c:Nat) (g:Nat) (w:World) (hc:∀W,Below w.heap.size w W→Calls Tryz.prog 183 #[.agg #[.slice x0a x0n x0c]] W (KP (.int .i64 g) W)):Calls Tryz.prog 12 #[.iface 82 (.agg #[.slice x0a x0n x0c])] w (KP (.int .i64 g) w):=by
 have HC:Hid (∀W,Below w.heap.size w W→Calls Tryz.prog 183 #[.agg #[.slice x0a x0n x0c]] W (KP (.int .i64 g) W)):=hc
 clear hc
 go_enter Tryz.func12,Tryz.ntmps12
 go_wp2_with fail
 refine (zse x0a x0n x0c _).mono ?_
 rintro e w2 ⟨rfl,hb⟩
 go_wp2_with fail
 refine (HC.out _ hb.out).mono ?_
 rintro e w3 ⟨rfl,hb3⟩
 have HB:Hid (Below w.heap.size w w3):=bt hb.out hb3.out
 clear hb hb3
 go_wp2_with fail
 go_ret
 exact KP.mk rfl HB.out
theorem zoi (x0:Int) (g:Nat) (w:World) (hc:∀W,Below w.heap.size w W→Calls Tryz.prog 161 #[.agg #[.int .i64 x0]] W (KP (.int .i64 g) W)):Calls Tryz.prog 12 #[.iface 74 (.agg #[.int .i64 x0])] w (KP (.int .i64 g) w):=by
 have HC:Hid (∀W,Below w.heap.size w W→Calls Tryz.prog 161 #[.agg #[.int .i64 x0]] W (KP (.int .i64 g) W)):=hc
 clear hc
 go_enter Tryz.func12,Tryz.ntmps12
 go_wp2_with fail
 refine (ziq x0 _).mono ?_
 rintro e w2 ⟨rfl,hb⟩
 go_wp2_with fail
 refine (HC.out _ hb.out).mono ?_
 rintro e w3 ⟨rfl,hb3⟩
 have HB:Hid (Below w.heap.size w w3):=bt hb.out hb3.out
 clear hb hb3
 go_wp2_with fail
 go_ret
 exact KP.mk rfl HB.out
theorem zoj (x0:Int) (x1:ByteArray) (x2:Int) (g:Nat) (w:World) (hc:∀W,Below w.heap.size w W→Calls Tryz.prog 186 #[.agg #[.int .i64 x0,.string x1,.int .i64 x2]] W (KP (.int .i64 g) W)):Calls Tryz.prog 12 #[.iface 84 (.agg #[.int .i64 x0,.string x1,.int .i64 x2])] w (KP (.int .i64 g) w):=by
 have HC:Hid (∀W,Below w.heap.size w W→Calls Tryz.prog 186 #[.agg #[.int .i64 x0,.string x1,.int .i64 x2]] W (KP (.int .i64 g) W)):=hc
 clear hc
 go_enter Tryz.func12,Tryz.ntmps12
 go_wp2_with fail
 refine (zsf x0 x1 x2 _).mono ?_
 rintro e w2 ⟨rfl,hb⟩
 go_wp2_with fail
 refine (HC.out _ hb.out).mono ?_
 rintro e w3 ⟨rfl,hb3⟩
 have HB:Hid (Below w.heap.size w w3):=bt hb.out hb3.out
 clear hb hb3
 go_wp2_with fail
 go_ret
 exact KP.mk rfl HB.out
theorem zok (x0:Int) (x1:ByteArray) (x2:Int) (g:Nat) (w:World) (hc:∀W,Below w.heap.size w W→Calls Tryz.prog 190 #[.agg #[.int .i64 x0,.string x1,.int .i64 x2]] W (KP (.int .i64 g) W)):Calls Tryz.prog 12 #[.iface 86 (.agg #[.int .i64 x0,.string x1,.int .i64 x2])] w (KP (.int .i64 g) w):=by
 have HC:Hid (∀W,Below w.heap.size w W→Calls Tryz.prog 190 #[.agg #[.int .i64 x0,.string x1,.int .i64 x2]] W (KP (.int .i64 g) W)):=hc
 clear hc
 go_enter Tryz.func12,Tryz.ntmps12
 go_wp2_with fail
 refine (zsg x0 x1 x2 _).mono ?_
 rintro e w2 ⟨rfl,hb⟩
 go_wp2_with fail
 refine (HC.out _ hb.out).mono ?_
 rintro e w3 ⟨rfl,hb3⟩
 have HB:Hid (Below w.heap.size w w3):=bt hb.out hb3.out
 clear hb hb3
 go_wp2_with fail
 go_ret
 exact KP.mk rfl HB.out
theorem zol (x0:Int) (x1:Int) (x2:Int) (x3:Int) (x4:Int) (x5:Int) (x6:Int) (x7:Int) (g:Nat) (w:World) (hc:∀W,Below w.heap.size w W→Calls Tryz.prog 138 #[.agg #[.int .i64 x0,.int .i64 x1,.int .i64 x2,.int .i64 x3,.int .i64 x4,.int .i64 x5,.int .i64 x6,.int .i64 x7]] W (KP (.int .i64 g) W)):Calls Tryz.prog 12 #[.iface 63 (.agg #[.int .i64 x0,.int .i64 x1,.int .i64 x2,.int .i64 x3,.int .i64 x4,.int .i64 x5,.int .i64 x6,.int .i64 x7])] w (KP (.int .i64 g) w):=by
 have HC:Hid (∀W,Below w.heap.size w W→Calls Tryz.prog 138 #[.agg #[.int .i64 x0,.int .i64 x1,.int .i64 x2,.int .i64 x3,.int .i64 x4,.int .i64 x5,.int .i64 x6,.int .i64 x7]] W (KP (.int .i64 g) W)):=hc
 clear hc
 go_enter Tryz.func12,Tryz.ntmps12
 go_wp2_with fail
 refine (zsh x0 x1 x2 x3 x4 x5 x6 x7 _).mono ?_
 rintro e w2 ⟨rfl,hb⟩
 go_wp2_with fail
 refine (HC.out _ hb.out).mono ?_
 rintro e w3 ⟨rfl,hb3⟩
 have HB:Hid (Below w.heap.size w w3):=bt hb.out hb3.out
 clear hb hb3
 go_wp2_with fail
 go_ret
 exact KP.mk rfl HB.out
theorem zom (x0:Int) (x1:Int) (g:Nat) (w:World) (hc:∀W,Below w.heap.size w W→Calls Tryz.prog 193 #[.agg #[.int .i64 x0,.int .i64 x1]] W (KP (.int .i64 g) W)):Calls Tryz.prog 12 #[.iface 88 (.agg #[.int .i64 x0,.int .i64 x1])] w (KP (.int .i64 g) w):=by
 have HC:Hid (∀W,Below w.heap.size w W→Calls Tryz.prog 193 #[.agg #[.int .i64 x0,.int .i64 x1]] W (KP (.int .i64 g) W)):=hc
 clear hc
 go_enter Tryz.func12,Tryz.ntmps12
 go_wp2_with fail
 refine (zsi x0 x1 _).mono ?_
 rintro e w2 ⟨rfl,hb⟩
 go_wp2_with fail
 refine (HC.out _ hb.out).mono ?_
 rintro e w3 ⟨rfl,hb3⟩
 have HB:Hid (Below w.heap.size w w3):=bt hb.out hb3.out
 clear hb hb3
 go_wp2_with fail
 go_ret
 exact KP.mk rfl HB.out
theorem zka (x0:Int) (x1:Int) (x2:Int) (g:Nat) (w:World) (hc:∀W,Below w.heap.size w W→Calls Tryz.prog 196 #[.agg #[.int .i64 x0,.int .i64 x1,.int .i64 x2]] W (KP (.int .i64 g) W)):Calls Tryz.prog 12 #[.iface 90 (.agg #[.int .i64 x0,.int .i64 x1,.int .i64 x2])] w (KP (.int .i64 g) w):=by
 have HC:Hid (∀W,Below w.heap.size w W→Calls Tryz.prog 196 #[.agg #[.int .i64 x0,.int .i64 x1,.int .i64 x2]] W (KP (.int .i64 g) W)):=hc
 clear hc
 go_enter Tryz.func12,Tryz.ntmps12
 go_wp2_with fail
 refine (zny x0 x1 x2 _).mono ?_
 rintro e w2 ⟨rfl,hb⟩
 go_wp2_with fail
 refine (HC.out _ hb.out).mono ?_
 rintro e w3 ⟨rfl,hb3⟩
 have HB:Hid (Below w.heap.size w w3):=bt hb.out hb3.out
 clear hb hb3
 go_wp2_with fail
 go_ret
 exact KP.mk rfl HB.out
theorem zkb (x0:Int) (x1:Int) (x2:ByteArray) (x3:Int) (x4a:Option Addr) (x4n x4c:Nat) (g:Nat) (w:World) (hc:∀W,Below w.heap.size w W→Calls Tryz.prog 147 #[.agg #[.int .i64 x0,.int .i64 x1,.string x2,.int .i64 x3,.slice x4a x4n x4c]] W (KP (.int .i64 g) W)):Calls Tryz.prog 12 #[.iface 67 (.agg #[.int .i64 x0,.int .i64 x1,.string x2,.int .i64 x3,.slice x4a x4n x4c])] w (KP (.int .i64 g) w):=by
 have HC:Hid (∀W,Below w.heap.size w W→Calls Tryz.prog 147 #[.agg #[.int .i64 x0,.int .i64 x1,.string x2,.int .i64 x3,.slice x4a x4n x4c]] W (KP (.int .i64 g) W)):=hc
 clear hc
 go_enter Tryz.func12,Tryz.ntmps12
 go_wp2_with fail
 refine (znz x0 x1 x2 x3 x4a x4n x4c _).mono ?_
 rintro e w2 ⟨rfl,hb⟩
 go_wp2_with fail
 refine (HC.out _ hb.out).mono ?_
 rintro e w3 ⟨rfl,hb3⟩
 have HB:Hid (Below w.heap.size w w3):=bt hb.out hb3.out
 clear hb hb3
 go_wp2_with fail
 go_ret
 exact KP.mk rfl HB.out
theorem zkc (x0:Int) (x1:Int) (x2:Bool) (g:Nat) (w:World) (hc:∀W,Below w.heap.size w W→Calls Tryz.prog 199 #[.agg #[.int .i64 x0,.int .i64 x1,.bool x2]] W (KP (.int .i64 g) W)):Calls Tryz.prog 12 #[.iface 92 (.agg #[.int .i64 x0,.int .i64 x1,.bool x2])] w (KP (.int .i64 g) w):=by
 have HC:Hid (∀W,Below w.heap.size w W→Calls Tryz.prog 199 #[.agg #[.int .i64 x0,.int .i64 x1,.bool x2]] W (KP (.int .i64 g) W)):=hc
 clear hc
 go_enter Tryz.func12,Tryz.ntmps12
 go_wp2_with fail
 refine (zn0 x0 x1 x2 _).mono ?_
 rintro e w2 ⟨rfl,hb⟩
 go_wp2_with fail
 refine (HC.out _ hb.out).mono ?_
 rintro e w3 ⟨rfl,hb3⟩
 have HB:Hid (Below w.heap.size w w3):=bt hb.out hb3.out
 clear hb hb3
 go_wp2_with fail
 go_ret
 exact KP.mk rfl HB.out
theorem zkd (x0:Int) (g:Nat) (w:World) (hc:∀W,Below w.heap.size w W→Calls Tryz.prog 203 #[.agg #[.int .i64 x0]] W (KP (.int .i64 g) W)):Calls Tryz.prog 12 #[.iface 94 (.agg #[.int .i64 x0])] w (KP (.int .i64 g) w):=by
 have HC:Hid (∀W,Below w.heap.size w W→Calls Tryz.prog 203 #[.agg #[.int .i64 x0]] W (KP (.int .i64 g) W)):=hc
 clear hc
 go_enter Tryz.func12,Tryz.ntmps12
 go_wp2_with fail
 refine (zn1 x0 _).mono ?_
 rintro e w2 ⟨rfl,hb⟩
 go_wp2_with fail
 refine (HC.out _ hb.out).mono ?_
 rintro e w3 ⟨rfl,hb3⟩
 have HB:Hid (Below w.heap.size w w3):=bt hb.out hb3.out
 clear hb hb3
 go_wp2_with fail
 go_ret
 exact KP.mk rfl HB.out
theorem zke (x0:Int) (x1:Int) (g:Nat) (w:World) (hc:∀W,Below w.heap.size w W→Calls Tryz.prog 206 #[.agg #[.int .i64 x0,.int .i64 x1]] W (KP (.int .i64 g) W)):Calls Tryz.prog 12 #[.iface 96 (.agg #[.int .i64 x0,.int .i64 x1])] w (KP (.int .i64 g) w):=by
 have HC:Hid (∀W,Below w.heap.size w W→Calls Tryz.prog 206 #[.agg #[.int .i64 x0,.int .i64 x1]] W (KP (.int .i64 g) W)):=hc
 clear hc
 go_enter Tryz.func12,Tryz.ntmps12
 go_wp2_with fail
 refine (zn2 x0 x1 _).mono ?_
 rintro e w2 ⟨rfl,hb⟩
 go_wp2_with fail
 refine (HC.out _ hb.out).mono ?_
 rintro e w3 ⟨rfl,hb3⟩
 have HB:Hid (Below w.heap.size w w3):=bt hb.out hb3.out
 clear hb hb3
 go_wp2_with fail
 go_ret
 exact KP.mk rfl HB.out
theorem zkf (x0:Int) (x1:Int) (x2:Int) (g:Nat) (w:World) (hc:∀W,Below w.heap.size w W→Calls Tryz.prog 209 #[.agg #[.int .i64 x0,.int .i64 x1,.int .i64 x2]] W (KP (.int .i64 g) W)):Calls Tryz.prog 12 #[.iface 98 (.agg #[.int .i64 x0,.int .i64 x1,.int .i64 x2])] w (KP (.int .i64 g) w):=by
 have HC:Hid (∀W,Below w.heap.size w W→Calls Tryz.prog 209 #[.agg #[.int .i64 x0,.int .i64 x1,.int .i64 x2]] W (KP (.int .i64 g) W)):=hc
 clear hc
 go_enter Tryz.func12,Tryz.ntmps12
 go_wp2_with fail
 refine (zn3 x0 x1 x2 _).mono ?_
 rintro e w2 ⟨rfl,hb⟩
 go_wp2_with fail
 refine (HC.out _ hb.out).mono ?_
 rintro e w3 ⟨rfl,hb3⟩
 have HB:Hid (Below w.heap.size w w3):=bt hb.out hb3.out
 clear hb hb3
 go_wp2_with fail
 go_ret
 exact KP.mk rfl HB.out
theorem zxw (l:Lt) (hs:l.i.length≤9223372036854775807) (g:Nat) (hg:zdo C0 l=g) (w:World):Calls Tryz.prog 149 #[.agg #[.string ⟨l.i.toArray⟩,.int .i64 l.q]] w (KP (.int .i64 g) w):=by
 have HB:Hid (Below w.heap.size w (w.alloc (.cells #[.string ⟨l.i.toArray⟩,.int .i64 l.q] 32))):=zab w _
 have HC:Hid (∀w,Calls Tryz.prog 151 #[.string ⟨l.i.toArray⟩] w (NP .i64 (C0.is l.i:Nat) w)):=fun w=>zns l.i hs _ rfl w
 unfold zdo at hg
 by_cases e1:amt l.q=true
 ·rw [if_pos e1] at hg
  subst hg
  generalize C0.is l.i=g at *
  go_enter Tryz.func149,Tryz.ntmps149
  go_wp2_with (first | (go_at_call 141;refine (zbh _ _ e1 _).mono ?_;rintro e w2 ⟨rfl,rfl⟩) | (go_at_call 151;refine (HC.out _).mono ?_;rintro e w2 ⟨rfl,rfl⟩))
  go_ret
  exact KP.mk rfl HB.out
 ·have e1:amt l.q=false:=by simpa using e1
  rw [if_neg (ff e1)] at hg
  subst hg
  go_enter Tryz.func149,Tryz.ntmps149
  go_wp2_with (go_at_call 141;refine (zbh _ _ e1 _).mono ?_;rintro e w2 ⟨rfl,rfl⟩)
  go_ret
  exact KP.mk rfl HB.out
theorem zgj {xs:List Lt} {k:Nat} (h:k<xs.length):zb3 C0 (xs.drop k)=if zdo C0 xs[k]=0 then zb3 C0 (xs.drop (k+1)) else zdo C0 xs[k]:=by
 rw [zdx h];rfl
theorem zon (m:Mg) (pa ia ca ba:Option Addr) (pc ic cc bc:Nat) (w:World) (hL:Lts w.heap.size w ia m.ins) (ho:m.out.i.length≤9223372036854775807) (hi:∀y ∈ m.ins,y.i.length≤9223372036854775807) (hl:m.ins.length≤9223372036854775807) (g:Nat) (hg:(if mbr m.mem=true then if amt m.tr=true then if decide (m.ins.length≤64)=true then zb3 C0 (m.out::m.ins) else 1 else 1 else 1)=g):Calls Tryz.prog 147 #[.agg #[.int .i64 m.mem,.int .i64 m.tr,.string ⟨m.out.i.toArray⟩,.int .i64 m.out.q,.slice ia m.ins.length ic]] w (KP (.int .i64 g) w):=by
 have HG:Hid ((if mbr m.mem=true then if amt m.tr=true then if decide (m.ins.length≤64)=true then zb3 C0 (m.out::m.ins) else 1 else 1 else 1)=g):=hg
 have HB:Hid (Below w.heap.size w (w.alloc (.cells #[.int .i64 m.mem,.int .i64 m.tr,.string ⟨m.out.i.toArray⟩,.int .i64 m.out.q,.slice ia m.ins.length ic] 67))):=zab w _
 have HI:Hid (Lts w.heap.size w ia m.ins):=hL
 have HS:Hid (∀y ∈ m.ins,y.i.length≤9223372036854775807):=hi
 have HO:Hid (∀w,Calls Tryz.prog 149 #[.agg #[.string ⟨m.out.i.toArray⟩,.int .i64 m.out.q]] w (KP (.int .i64 (zdo C0 m.out:Nat)) w)):=fun w=>zxw m.out ho _ rfl w
 have HX:Hid (Bx (w.alloc (.cells #[.int .i64 m.mem,.int .i64 m.tr,.string ⟨m.out.i.toArray⟩,.int .i64 m.out.q,.slice ia m.ins.length ic] 67)) w.heap.size #[.int .i64 m.mem,.int .i64 m.tr,.string ⟨m.out.i.toArray⟩,.int .i64 m.out.q,.slice ia m.ins.length ic] 67):=Bx.new _ _ _
 clear hg hL hi ho
 by_cases e1:mbr m.mem=true
 ·by_cases e2:amt m.tr=true
  ·by_cases e3:decide (m.ins.length≤64)=true
   ·have e3n:¬ (m.ins.length:Int) > 64:=by have:=of_decide_eq_true e3;omega
    have HG1:Hid ((if zdo C0 m.out=0 then zb3 C0 m.ins else zdo C0 m.out)=g):=by have:=HG.out;rw [if_pos e1,if_pos e2,if_pos e3] at this;exact this
    clear HG
    generalize zdo C0 m.out=lo at *
    go_enter Tryz.func147,Tryz.ntmps147
    go_wp2_with (first | (go_at_call 140;refine (za0 _ _ e1 _).mono ?_;rintro e w2 ⟨rfl,rfl⟩) | (go_at_call 40;refine (za1 _ _ e2 _).mono ?_;rintro e w2 ⟨rfl,rfl⟩))
    refine (HO.out _).mono ?_
    rintro e w2 ⟨rfl,hb2⟩
    have HB2:Hid (Below w.heap.size w w2):=bt HB.out hb2.out
    have x4:w2.cell? ⟨w.heap.size,4,none⟩=some (.slice ia m.ins.length ic):=(HX.out.keep hb2.out).cell 4
    clear hb2 HB HX HO
    by_cases e4:lo=0
    ·have HG2:Hid (zb3 C0 m.ins=g):=by have:=HG1.out;rw [if_pos e4] at this;exact this
     have z4:((lo:Int) != 0)=false:=by rw [e4];rfl
     clear HG1 e4
     go_wp2_with fail
     clear x4
     go_loopw [32] (fun i wr=>∃(k:Nat),i=.int .i64 k∧k≤m.ins.length∧Hid (zb3 C0 (m.ins.drop k)=g)∧Hid (Below w.heap.size w wr)) (fun i _=>m.ins.length-(Lib.intOf i).toNat)
     case atStart=>exact ⟨0,rfl,Nat.zero_le _,HG2,HB2⟩
     case round=>
      clear HG2 HB2
      obtain ⟨k,rfl,hk,HK,HBw⟩:=hrel
      by_cases hkn:k<m.ins.length
      ·have hkz:(k:Int)<(m.ins.length:Int):=by omega
       obtain ⟨b,off,rfl,hbl,hce⟩:=HI.out (by omega)
       have hc1:wr.cell? ⟨b,off+k*2,none⟩=some (.string ⟨m.ins[k].i.toArray⟩):=(HBw.out.cell (by exact hbl)).trans (hce k hkn).1
       have hc2:wr.cell? ⟨b,off+k*2+1,none⟩=some (.int .i64 m.ins[k].q):=(HBw.out.cell (by exact hbl)).trans (hce k hkn).2
       have HC:Hid (∀w,Calls Tryz.prog 149 #[.agg #[.string ⟨m.ins[k].i.toArray⟩,.int .i64 m.ins[k].q]] w (KP (.int .i64 (zdo C0 m.ins[k]:Nat)) w)):=fun w=>zxw m.ins[k] (HS.out _ (List.getElem_mem hkn)) _ rfl w
       have HK2:Hid ((if zdo C0 m.ins[k]=0 then zb3 C0 (m.ins.drop (k+1)) else zdo C0 m.ins[k])=g):=by unfold Hid;rw [← zgj hkn];exact HK.out
       have HBa:Hid (∀o,Below w.heap.size w (wr.alloc o)):=fun o=>HBw.out.alloc HBw.out.size _
       clear HK hce
       generalize zdo C0 m.ins[k]=lk at *
       generalize (⟨m.ins[k].i.toArray⟩:ByteArray)=X at *
       generalize m.ins[k].q=q at *
       go_wp2_with fail
       refine (HC.out _).mono ?_
       rintro e w5 ⟨rfl,hb5⟩
       have HB5:Hid (Below w.heap.size w w5):=bt (HBa.out _) hb5.out
       clear hb5
       by_cases e5:lk=0
       ·have HK3:Hid (zb3 C0 (m.ins.drop (k+1))=g):=by have:=HK2.out;rw [if_pos e5] at this;exact this
        have z5:((lk:Int) != 0)=false:=by rw [e5];rfl
        clear HK2 e5
        go_wp2_with fail
        exact ⟨⟨k+1,by go_num,by omega,HK3,HB5⟩,by simp [Lib.intOf];omega⟩
       ·have HK3:Hid (lk=g):=by have:=HK2.out;rw [if_neg e5] at this;exact this
        have z5:((lk:Int) != 0)=true:=by rw [bne_iff_ne];omega
        clear HK2 e5
        go_wp2_with fail
        go_ret
        exact KP.mk (by rw [← HK3.out];rfl) HB5.out
      ·have hkz:¬ (k:Int)<(m.ins.length:Int):=by omega
       have HK3:Hid (0=g):=by have:=HK.out;rw [List.drop_of_length_le (by omega)] at this;exact this
       clear HK
       go_wp2_with fail
       go_ret
       exact KP.mk (by rw [← HK3.out];rfl) HBw.out
    ·have HG2:Hid (lo=g):=by have:=HG1.out;rw [if_neg e4] at this;exact this
     have z4:((lo:Int) != 0)=true:=by rw [bne_iff_ne];omega
     clear HG1 e4
     go_wp2_with fail
     go_ret
     exact KP.mk (by rw [← HG2.out];rfl) HB2.out
   ·have e3:decide (m.ins.length≤64)=false:=by simpa using e3
    have e3n:(m.ins.length:Int) > 64:=by have:=of_decide_eq_false e3;omega
    go_enter Tryz.func147,Tryz.ntmps147
    have HG2:Hid (1=g):=by have:=HG.out;rw [if_pos e1,if_pos e2,if_neg (ff e3)] at this;exact this
    clear HG
    go_wp2_with (first | (go_at_call 140;refine (za0 _ _ e1 _).mono ?_;rintro e w2 ⟨rfl,rfl⟩) | (go_at_call 40;refine (za1 _ _ e2 _).mono ?_;rintro e w2 ⟨rfl,rfl⟩))
    go_ret
    exact KP.mk (by rw [← HG2.out];rfl) HB.out
  ·have e2:amt m.tr=false:=by simpa using e2
   go_enter Tryz.func147,Tryz.ntmps147
   have HG2:Hid (1=g):=by have:=HG.out;rw [if_pos e1,if_neg (ff e2)] at this;exact this
   clear HG
   go_wp2_with (first | (go_at_call 140;refine (za0 _ _ e1 _).mono ?_;rintro e w2 ⟨rfl,rfl⟩) | (go_at_call 40;refine (za1 _ _ e2 _).mono ?_;rintro e w2 ⟨rfl,rfl⟩))
   go_ret
   exact KP.mk (by rw [← HG2.out];rfl) HB.out
 ·have e1:mbr m.mem=false:=by simpa using e1
  go_enter Tryz.func147,Tryz.ntmps147
  have HG2:Hid (1=g):=by have:=HG.out;rw [if_neg (ff e1)] at this;exact this
  clear HG
  go_wp2_with (first | (go_at_call 140;refine (za0 _ _ e1 _).mono ?_;rintro e w2 ⟨rfl,rfl⟩) | (go_at_call 40;refine (za1 _ _ e2 _).mono ?_;rintro e w2 ⟨rfl,rfl⟩))
  go_ret
  exact KP.mk (by rw [← HG2.out];rfl) HB.out
theorem zcy (a b:Int) (ha:I64 a) (hb:I64 b) (hg:inn a 0 200000=true) (g:Bool) (h:(decide (b=0)||(inn b 0 200000&&inn (b-a) 1 3660))=g) (w:World):Calls Tryz.prog 144 #[.int .i64 a,.int .i64 b] w (BP g w):=by
  by_cases e0:b=0
  · have H : Hid (true = g) := by unfold Hid; rw [← h, decide_eq_true e0]; rfl
    have z0:(b==0)=true:=by rw [e0];rfl
    clear h e0
    go_enter Tryz.func144,Tryz.ntmps144
    go_wp2_with fail
    go_ret
    exact BP.mk H.out
  · have z0 : (b == 0) = false := by rw [beq_eq_false_iff_ne]; exact e0
    by_cases e1:inn b 0 200000=true
    · have hr : 0 ≤ a ∧ a ≤ 200000 ∧ 0 ≤ b ∧ b ≤ 200000 := by
        unfold inn at hg e1
        rw [Bool.and_eq_true,decide_eq_true_iff,decide_eq_true_iff] at hg e1
        omega
      have h2:inn (b-a) 1 3660=g:=by rw [← h,decide_eq_false e0,e1];rfl
      obtain ⟨r1,r2,r3,r4⟩:=hr
      clear h e0 hg
      go_enter Tryz.func144,Tryz.ntmps144
      go_wp2_with (first | (go_at_call 143;refine (zcg _ _ e1 _).mono ?_;rintro e w2 ⟨rfl,rfl⟩) | (go_at_call 39;refine (zay _ _ _ _ h2 _).mono ?_;rintro e w2 ⟨rfl,rfl⟩))
      go_ret
      exact BP.mk rfl
    · have e1 : inn b 0 200000 = false := by simpa using e1
      have H:Hid (false=g):=by unfold Hid;rw [← h,decide_eq_false e0,e1];rfl
      clear h e0 hg
      go_enter Tryz.func144,Tryz.ntmps144
      go_wp2_with (go_at_call 143;refine (zcg _ _ e1 _).mono ?_;rintro e w2 ⟨rfl,rfl⟩)
      go_ret
      exact BP.mk H.out
theorem zso (m:Mg) (pa ia ca ba:Option Addr) (pc ic cc bc:Nat) (w:World) (hs:m.name.length≤9223372036854775807) (g:Nat) (hg:(if mbr m.mem=true then C0.nm m.name else 1)=g):Calls Tryz.prog 165 #[.agg #[.int .i64 m.mem,.string ⟨m.name.toArray⟩]] w (KP (.int .i64 g) w):=by
 have HG:Hid ((if mbr m.mem=true then C0.nm m.name else 1)=g):=hg
 have HB:Hid (Below w.heap.size w (w.alloc (.cells #[.int .i64 m.mem,.string ⟨m.name.toArray⟩] 76))):=zab w _
 clear hg
 have HC:Hid (∀w,Calls Tryz.prog 167 #[.string ⟨m.name.toArray⟩] w (TB (N4.chk m.name).1 (C0.nm m.name) w)):=fun w=>zve m.name hs _ rfl w
 generalize C0.nm m.name=dd at *
 go_enter Tryz.func165,Tryz.ntmps165
 by_cases e1:mbr m.mem=true
 ·have HG2:Hid (dd=g):=by have:=HG.out;rw [if_pos e1] at this;exact this
  clear HG
  go_wp2_with (first | (go_at_call 140;refine (za0 _ _ (by first | exact e1) _).mono ?_;rintro e w2 ⟨rfl,rfl⟩))
  refine (HC.out _).mono ?_
  rintro e w2 ⟨rfl,hb2⟩
  have HB2:Hid (Below w.heap.size w w2):=bt HB.out hb2.out
  clear hb2
  go_wp2_with fail
  go_ret
  exact KP.mk (by rw [← HG2.out];rfl) HB2.out
 ·have e1:mbr m.mem=false:=by simpa using e1
  have HG2:Hid (1=g):=by have:=HG.out;rw [if_neg (ff e1)] at this;exact this
  clear HG
  go_wp2_with (first | (go_at_call 140;refine (za0 _ _ (by first | exact e1) _).mono ?_;rintro e w2 ⟨rfl,rfl⟩))
  go_ret
  exact KP.mk (by rw [← HG2.out];rfl) HB.out
theorem zsp (m:Mg) (pa ia ca ba:Option Addr) (pc ic cc bc:Nat) (w:World) (hs:m.a.i.length≤9223372036854775807) (g:Nat) (hg:(C0.ast m.a)=g):Calls Tryz.prog 174 #[.agg #[.string ⟨m.a.i.toArray⟩,.int .i64 m.a.iss,.int .i64 m.a.rat,.int .i64 m.a.mat,.string ⟨m.a.cur.toArray⟩]] w (KP (.int .i64 g) w):=by
 have HG:Hid ((C0.ast m.a)=g):=hg
 have HB:Hid (Below w.heap.size w (w.alloc (.cells #[.string ⟨m.a.i.toArray⟩,.int .i64 m.a.iss,.int .i64 m.a.rat,.int .i64 m.a.mat,.string ⟨m.a.cur.toArray⟩] 78))):=zab w _
 clear hg
 have HC:Hid (∀w,Calls Tryz.prog 176 #[.agg #[.string ⟨m.a.i.toArray⟩,.int .i64 m.a.iss,.int .i64 m.a.rat,.int .i64 m.a.mat,.string ⟨m.a.cur.toArray⟩]] w (NB (C0.ast m.a:Nat) w)):=fun w=>zrd m.a hs _ rfl w
 generalize C0.ast m.a=dd at *
 go_enter Tryz.func174,Tryz.ntmps174
 have HG2:Hid (dd=g):=HG.out
 clear HG
 go_wp2_with fail
 refine (HC.out _).mono ?_
 rintro e w2 ⟨rfl,hb2⟩
 have HB2:Hid (Below w.heap.size w w2):=bt HB.out hb2.out
 clear hb2
 go_wp2_with fail
 go_ret
 exact KP.mk (by rw [← HG2.out];rfl) HB2.out
theorem zsq (m:Mg) (pa ia ca ba:Option Addr) (pc ic cc bc:Nat) (w:World) (hC:Cts w.heap.size w ca m.b.cuts) (hI:Ins w.heap.size w ba m.b.bar) (hlc:m.b.cuts.length≤9223372036854775807) (hlb:m.b.bar.length≤9223372036854775807) (g:Nat) (hg:(bkE C0 m.b)=g):Calls Tryz.prog 179 #[.agg #[.int .i64 m.b.id,.int .i64 m.b.ver,.string ⟨m.b.cur.toArray⟩,.int .i64 m.b.rat,.int .i64 m.b.least,.int .i64 m.b.most,.slice ca m.b.cuts.length cc,.int .i64 m.b.iss,.int .i64 m.b.ass,.slice ba m.b.bar.length bc]] w (KP (.int .i64 g) w):=by
 have HG:Hid ((bkE C0 m.b)=g):=hg
 have HB:Hid (Below w.heap.size w (w.alloc (.cells #[.int .i64 m.b.id,.int .i64 m.b.ver,.string ⟨m.b.cur.toArray⟩,.int .i64 m.b.rat,.int .i64 m.b.least,.int .i64 m.b.most,.slice ca m.b.cuts.length cc,.int .i64 m.b.iss,.int .i64 m.b.ass,.slice ba m.b.bar.length bc] 80))):=zab w _
 clear hg
 have HC:Hid (∀W,Below w.heap.size w W→Calls Tryz.prog 16 #[.agg #[.int .i64 m.b.id,.int .i64 m.b.ver,.string ⟨m.b.cur.toArray⟩,.int .i64 m.b.rat,.int .i64 m.b.least,.int .i64 m.b.most,.slice ca m.b.cuts.length cc,.int .i64 m.b.iss,.int .i64 m.b.ass,.slice ba m.b.bar.length bc]] W (KP (.int .i64 (bkE C0 m.b:Nat)) W)):=fun W hb=>zn6 m.b ca ba cc bc W ((hC.keep hb).mono hb.size) ((hI.keep hb).mono hb.size) hlc hlb _ rfl
 generalize bkE C0 m.b=dd at *
 clear hC hI
 go_enter Tryz.func179,Tryz.ntmps179
 have HG2:Hid (dd=g):=HG.out
 clear HG
 go_wp2_with fail
 refine (HC.out _ HB.out).mono ?_
 rintro e w2 ⟨rfl,hb2⟩
 have HB2:Hid (Below w.heap.size w w2):=bt HB.out hb2.out
 clear hb2
 go_wp2_with fail
 go_ret
 exact KP.mk (by rw [← HG2.out];rfl) HB2.out
theorem zsr (m:Mg) (pa ia ca ba:Option Addr) (pc ic cc bc:Nat) (w:World) (hn:I64 m.n) (g:Nat) (hg:(if C0.cu m.t=true then if mbr m.mem=true then if sgn m.n=true then 0 else 1 else 1 else 11)=g):Calls Tryz.prog 186 #[.agg #[.int .i64 m.mem,.string ⟨m.t.toArray⟩,.int .i64 m.n]] w (KP (.int .i64 g) w):=by
 have HG:Hid ((if C0.cu m.t=true then if mbr m.mem=true then if sgn m.n=true then 0 else 1 else 1 else 11)=g):=hg
 have HB:Hid (Below w.heap.size w (w.alloc (.cells #[.int .i64 m.mem,.string ⟨m.t.toArray⟩,.int .i64 m.n] 84))):=zab w _
 clear hg
 go_enter Tryz.func186,Tryz.ntmps186
 by_cases e0:C0.cu m.t=true
 ·by_cases e1:mbr m.mem=true
  ·by_cases e2:sgn m.n=true
   ·have HG2:Hid (0=g):=by have:=HG.out;rw [if_pos e0,if_pos e1,if_pos e2] at this;exact this
    clear HG
    go_wp2_with (first | (go_at_call 42;refine (zfv _ _ (by first | exact e0) _).mono ?_;rintro e w2 ⟨rfl,rfl⟩) | (go_at_call 140;refine (za0 _ _ (by first | exact e1) _).mono ?_;rintro e w2 ⟨rfl,rfl⟩) | (go_at_call 188;refine (zc6 _ hn _ e2 _).mono ?_;rintro e w2 ⟨rfl,rfl⟩))
    go_ret
    exact KP.mk (by rw [← HG2.out];rfl) HB.out
   ·have e2:sgn m.n=false:=by simpa using e2
    have HG2:Hid (1=g):=by have:=HG.out;rw [if_pos e0,if_pos e1,if_neg (ff e2)] at this;exact this
    clear HG
    go_wp2_with (first | (go_at_call 42;refine (zfv _ _ (by first | exact e0) _).mono ?_;rintro e w2 ⟨rfl,rfl⟩) | (go_at_call 140;refine (za0 _ _ (by first | exact e1) _).mono ?_;rintro e w2 ⟨rfl,rfl⟩) | (go_at_call 188;refine (zc6 _ hn _ e2 _).mono ?_;rintro e w2 ⟨rfl,rfl⟩))
    go_ret
    exact KP.mk (by rw [← HG2.out];rfl) HB.out
  ·have e1:mbr m.mem=false:=by simpa using e1
   have HG2:Hid (1=g):=by have:=HG.out;rw [if_pos e0,if_neg (ff e1)] at this;exact this
   clear HG
   go_wp2_with (first | (go_at_call 42;refine (zfv _ _ (by first | exact e0) _).mono ?_;rintro e w2 ⟨rfl,rfl⟩) | (go_at_call 140;refine (za0 _ _ (by first | exact e1) _).mono ?_;rintro e w2 ⟨rfl,rfl⟩) | (go_at_call 188;refine (zc6 _ hn _ e2 _).mono ?_;rintro e w2 ⟨rfl,rfl⟩))
   go_ret
   exact KP.mk (by rw [← HG2.out];rfl) HB.out
 ·have e0:C0.cu m.t=false:=by simpa using e0
  have HG2:Hid (11=g):=by have:=HG.out;rw [if_neg (ff e0)] at this;exact this
  clear HG
  go_wp2_with (first | (go_at_call 42;refine (zfv _ _ (by first | exact e0) _).mono ?_;rintro e w2 ⟨rfl,rfl⟩) | (go_at_call 140;refine (za0 _ _ (by first | exact e1) _).mono ?_;rintro e w2 ⟨rfl,rfl⟩) | (go_at_call 188;refine (zc6 _ hn _ e2 _).mono ?_;rintro e w2 ⟨rfl,rfl⟩))
  go_ret
  exact KP.mk (by rw [← HG2.out];rfl) HB.out
theorem zss (m:Mg) (pa ia ca ba:Option Addr) (pc ic cc bc:Nat) (w:World) (hn:I64 m.n) (hs:m.t.length≤9223372036854775807) (g:Nat) (hg:(if mbr m.mem=true then if sgn m.n=true then C0.is m.t else 1 else 1)=g):Calls Tryz.prog 190 #[.agg #[.int .i64 m.mem,.string ⟨m.t.toArray⟩,.int .i64 m.n]] w (KP (.int .i64 g) w):=by
 have HG:Hid ((if mbr m.mem=true then if sgn m.n=true then C0.is m.t else 1 else 1)=g):=hg
 have HB:Hid (Below w.heap.size w (w.alloc (.cells #[.int .i64 m.mem,.string ⟨m.t.toArray⟩,.int .i64 m.n] 86))):=zab w _
 clear hg
 have HC:Hid (∀w,Calls Tryz.prog 151 #[.string ⟨m.t.toArray⟩] w (NP .i64 (C0.is m.t:Nat) w)):=fun w=>zns m.t hs _ rfl w
 generalize C0.is m.t=dd at *
 go_enter Tryz.func190,Tryz.ntmps190
 by_cases e1:mbr m.mem=true
 ·by_cases e2:sgn m.n=true
  ·have HG2:Hid (dd=g):=by have:=HG.out;rw [if_pos e1,if_pos e2] at this;exact this
   clear HG
   go_wp2_with (first | (go_at_call 140;refine (za0 _ _ (by first | exact e1) _).mono ?_;rintro e w2 ⟨rfl,rfl⟩) | (go_at_call 188;refine (zc6 _ hn _ e2 _).mono ?_;rintro e w2 ⟨rfl,rfl⟩) | (go_at_call 151;refine (HC.out _).mono ?_;rintro e w2 ⟨rfl,rfl⟩))
   go_ret
   exact KP.mk (by rw [← HG2.out];rfl) HB.out
  ·have e2:sgn m.n=false:=by simpa using e2
   have HG2:Hid (1=g):=by have:=HG.out;rw [if_pos e1,if_neg (ff e2)] at this;exact this
   clear HG
   go_wp2_with (first | (go_at_call 140;refine (za0 _ _ (by first | exact e1) _).mono ?_;rintro e w2 ⟨rfl,rfl⟩) | (go_at_call 188;refine (zc6 _ hn _ e2 _).mono ?_;rintro e w2 ⟨rfl,rfl⟩))
   go_ret
   exact KP.mk (by rw [← HG2.out];rfl) HB.out
 ·have e1:mbr m.mem=false:=by simpa using e1
  have HG2:Hid (1=g):=by have:=HG.out;rw [if_neg (ff e1)] at this;exact this
  clear HG
  go_wp2_with (first | (go_at_call 140;refine (za0 _ _ (by first | exact e1) _).mono ?_;rintro e w2 ⟨rfl,rfl⟩) | (go_at_call 188;refine (zc6 _ hn _ e2 _).mono ?_;rintro e w2 ⟨rfl,rfl⟩))
  go_ret
  exact KP.mk (by rw [← HG2.out];rfl) HB.out
theorem zoo (m:Mg) (pa ia ca ba:Option Addr) (pc ic cc bc:Nat) (w:World) (hs:m.q.side=1) (h1:I64 m.q.st) (h2:I64 m.q.en) (g:Nat) (hg:(if mbr m.q.mem=true then if amt m.q.id=true then if inn m.q.side 1 2=true then if inn m.q.bas 1 64=true then if amt m.q.am=true then if inn m.q.rate (-1000000) 1000000=true then if inn m.q.st 0 200000=true then if (decide (m.q.en=0)||(inn m.q.en 0 200000&&inn (m.q.en-m.q.st) 1 3660))=true then 0 else 10 else 10 else 1 else 1 else 1 else 1 else 1 else 1)=g):Calls Tryz.prog 138 #[.agg #[.int .i64 m.q.id,.int .i64 m.q.mem,.int .i64 m.q.side,.int .i64 m.q.bas,.int .i64 m.q.am,.int .i64 m.q.rate,.int .i64 m.q.st,.int .i64 m.q.en]] w (KP (.int .i64 g) w):=by
 have HG:Hid ((if mbr m.q.mem=true then if amt m.q.id=true then if inn m.q.side 1 2=true then if inn m.q.bas 1 64=true then if amt m.q.am=true then if inn m.q.rate (-1000000) 1000000=true then if inn m.q.st 0 200000=true then if (decide (m.q.en=0)||(inn m.q.en 0 200000&&inn (m.q.en-m.q.st) 1 3660))=true then 0 else 10 else 10 else 1 else 1 else 1 else 1 else 1 else 1)=g):=hg
 have HB:Hid (Below w.heap.size w ((w.alloc (.cells #[.int .i64 m.q.id,.int .i64 m.q.mem,.int .i64 m.q.side,.int .i64 m.q.bas,.int .i64 m.q.am,.int .i64 m.q.rate,.int .i64 m.q.st,.int .i64 m.q.en] 63)).alloc (.cells #[.int .i64 m.q.id,.int .i64 m.q.mem,.int .i64 m.q.side,.int .i64 m.q.bas,.int .i64 m.q.am,.int .i64 m.q.rate,.int .i64 m.q.st,.int .i64 m.q.en] 30))):=bt (zab w _) (zab _ _)
 clear hg
 have z1:(m.q.side != 1)=false:=by rw [hs];rfl
 have e3:inn m.q.side 1 2=true:=by rw [hs];decide
 clear hs
 go_enter Tryz.func138,Tryz.ntmps138
 by_cases e1:mbr m.q.mem=true
 ·by_cases e2:amt m.q.id=true
  ·have e3:inn m.q.side 1 2=true:=e3
   by_cases e4:inn m.q.bas 1 64=true
   ·by_cases e5:amt m.q.am=true
    ·by_cases e6:inn m.q.rate (-1000000) 1000000=true
     ·by_cases e7:inn m.q.st 0 200000=true
      ·by_cases e8:(decide (m.q.en=0)||(inn m.q.en 0 200000&&inn (m.q.en-m.q.st) 1 3660))=true
       ·have HG2:Hid (0=g):=by have:=HG.out;rw [if_pos e1,if_pos e2,if_pos e3,if_pos e4,if_pos e5,if_pos e6,if_pos e7,if_pos e8] at this;exact this
        clear HG
        go_wp2_with (first | (go_at_call 140;refine (za0 _ _ (by first | exact e1) _).mono ?_;rintro e w2 ⟨rfl,rfl⟩) | (go_at_call 40;refine (za1 _ _ (by first | exact e2) _).mono ?_;rintro e w2 ⟨rfl,rfl⟩) | (go_at_call 39;refine (zay _ _ _ _ (by first | exact e4) _).mono ?_;rintro e w2 ⟨rfl,rfl⟩) | (go_at_call 141;refine (zbh _ _ (by first | exact e5) _).mono ?_;rintro e w2 ⟨rfl,rfl⟩) | (go_at_call 142;refine (zck _ _ (by first | exact e6) _).mono ?_;rintro e w2 ⟨rfl,rfl⟩) | (go_at_call 143;refine (zcg _ _ (by first | exact e7) _).mono ?_;rintro e w2 ⟨rfl,rfl⟩) | (go_at_call 144;refine (zcy _ _ h1 h2 e7 _ e8 _).mono ?_;rintro e w2 ⟨rfl,rfl⟩))
        go_ret
        exact KP.mk (by rw [← HG2.out];rfl) HB.out
       ·have e8:(decide (m.q.en=0)||(inn m.q.en 0 200000&&inn (m.q.en-m.q.st) 1 3660))=false:=by simpa using e8
        have HG2:Hid (10=g):=by have:=HG.out;rw [if_pos e1,if_pos e2,if_pos e3,if_pos e4,if_pos e5,if_pos e6,if_pos e7,if_neg (ff e8)] at this;exact this
        clear HG
        go_wp2_with (first | (go_at_call 140;refine (za0 _ _ (by first | exact e1) _).mono ?_;rintro e w2 ⟨rfl,rfl⟩) | (go_at_call 40;refine (za1 _ _ (by first | exact e2) _).mono ?_;rintro e w2 ⟨rfl,rfl⟩) | (go_at_call 39;refine (zay _ _ _ _ (by first | exact e4) _).mono ?_;rintro e w2 ⟨rfl,rfl⟩) | (go_at_call 141;refine (zbh _ _ (by first | exact e5) _).mono ?_;rintro e w2 ⟨rfl,rfl⟩) | (go_at_call 142;refine (zck _ _ (by first | exact e6) _).mono ?_;rintro e w2 ⟨rfl,rfl⟩) | (go_at_call 143;refine (zcg _ _ (by first | exact e7) _).mono ?_;rintro e w2 ⟨rfl,rfl⟩) | (go_at_call 144;refine (zcy _ _ h1 h2 e7 _ e8 _).mono ?_;rintro e w2 ⟨rfl,rfl⟩))
        go_ret
        exact KP.mk (by rw [← HG2.out];rfl) HB.out
      ·have e7:inn m.q.st 0 200000=false:=by simpa using e7
       have HG2:Hid (10=g):=by have:=HG.out;rw [if_pos e1,if_pos e2,if_pos e3,if_pos e4,if_pos e5,if_pos e6,if_neg (ff e7)] at this;exact this
       clear HG
       go_wp2_with (first | (go_at_call 140;refine (za0 _ _ (by first | exact e1) _).mono ?_;rintro e w2 ⟨rfl,rfl⟩) | (go_at_call 40;refine (za1 _ _ (by first | exact e2) _).mono ?_;rintro e w2 ⟨rfl,rfl⟩) | (go_at_call 39;refine (zay _ _ _ _ (by first | exact e4) _).mono ?_;rintro e w2 ⟨rfl,rfl⟩) | (go_at_call 141;refine (zbh _ _ (by first | exact e5) _).mono ?_;rintro e w2 ⟨rfl,rfl⟩) | (go_at_call 142;refine (zck _ _ (by first | exact e6) _).mono ?_;rintro e w2 ⟨rfl,rfl⟩) | (go_at_call 143;refine (zcg _ _ (by first | exact e7) _).mono ?_;rintro e w2 ⟨rfl,rfl⟩) | (go_at_call 144;refine (zcy _ _ h1 h2 e7 _ e8 _).mono ?_;rintro e w2 ⟨rfl,rfl⟩))
       go_ret
       exact KP.mk (by rw [← HG2.out];rfl) HB.out
     ·have e6:inn m.q.rate (-1000000) 1000000=false:=by simpa using e6
      have HG2:Hid (1=g):=by have:=HG.out;rw [if_pos e1,if_pos e2,if_pos e3,if_pos e4,if_pos e5,if_neg (ff e6)] at this;exact this
      clear HG
      go_wp2_with (first | (go_at_call 140;refine (za0 _ _ (by first | exact e1) _).mono ?_;rintro e w2 ⟨rfl,rfl⟩) | (go_at_call 40;refine (za1 _ _ (by first | exact e2) _).mono ?_;rintro e w2 ⟨rfl,rfl⟩) | (go_at_call 39;refine (zay _ _ _ _ (by first | exact e4) _).mono ?_;rintro e w2 ⟨rfl,rfl⟩) | (go_at_call 141;refine (zbh _ _ (by first | exact e5) _).mono ?_;rintro e w2 ⟨rfl,rfl⟩) | (go_at_call 142;refine (zck _ _ (by first | exact e6) _).mono ?_;rintro e w2 ⟨rfl,rfl⟩) | (go_at_call 143;refine (zcg _ _ (by first | exact e7) _).mono ?_;rintro e w2 ⟨rfl,rfl⟩) | (go_at_call 144;refine (zcy _ _ h1 h2 e7 _ e8 _).mono ?_;rintro e w2 ⟨rfl,rfl⟩))
      go_ret
      exact KP.mk (by rw [← HG2.out];rfl) HB.out
    ·have e5:amt m.q.am=false:=by simpa using e5
     have HG2:Hid (1=g):=by have:=HG.out;rw [if_pos e1,if_pos e2,if_pos e3,if_pos e4,if_neg (ff e5)] at this;exact this
     clear HG
     go_wp2_with (first | (go_at_call 140;refine (za0 _ _ (by first | exact e1) _).mono ?_;rintro e w2 ⟨rfl,rfl⟩) | (go_at_call 40;refine (za1 _ _ (by first | exact e2) _).mono ?_;rintro e w2 ⟨rfl,rfl⟩) | (go_at_call 39;refine (zay _ _ _ _ (by first | exact e4) _).mono ?_;rintro e w2 ⟨rfl,rfl⟩) | (go_at_call 141;refine (zbh _ _ (by first | exact e5) _).mono ?_;rintro e w2 ⟨rfl,rfl⟩) | (go_at_call 142;refine (zck _ _ (by first | exact e6) _).mono ?_;rintro e w2 ⟨rfl,rfl⟩) | (go_at_call 143;refine (zcg _ _ (by first | exact e7) _).mono ?_;rintro e w2 ⟨rfl,rfl⟩) | (go_at_call 144;refine (zcy _ _ h1 h2 e7 _ e8 _).mono ?_;rintro e w2 ⟨rfl,rfl⟩))
     go_ret
     exact KP.mk (by rw [← HG2.out];rfl) HB.out
   ·have e4:inn m.q.bas 1 64=false:=by simpa using e4
    have HG2:Hid (1=g):=by have:=HG.out;rw [if_pos e1,if_pos e2,if_pos e3,if_neg (ff e4)] at this;exact this
    clear HG
    go_wp2_with (first | (go_at_call 140;refine (za0 _ _ (by first | exact e1) _).mono ?_;rintro e w2 ⟨rfl,rfl⟩) | (go_at_call 40;refine (za1 _ _ (by first | exact e2) _).mono ?_;rintro e w2 ⟨rfl,rfl⟩) | (go_at_call 39;refine (zay _ _ _ _ (by first | exact e4) _).mono ?_;rintro e w2 ⟨rfl,rfl⟩) | (go_at_call 141;refine (zbh _ _ (by first | exact e5) _).mono ?_;rintro e w2 ⟨rfl,rfl⟩) | (go_at_call 142;refine (zck _ _ (by first | exact e6) _).mono ?_;rintro e w2 ⟨rfl,rfl⟩) | (go_at_call 143;refine (zcg _ _ (by first | exact e7) _).mono ?_;rintro e w2 ⟨rfl,rfl⟩) | (go_at_call 144;refine (zcy _ _ h1 h2 e7 _ e8 _).mono ?_;rintro e w2 ⟨rfl,rfl⟩))
    go_ret
    exact KP.mk (by rw [← HG2.out];rfl) HB.out
  ·have e2:amt m.q.id=false:=by simpa using e2
   have HG2:Hid (1=g):=by have:=HG.out;rw [if_pos e1,if_neg (ff e2)] at this;exact this
   clear HG
   go_wp2_with (first | (go_at_call 140;refine (za0 _ _ (by first | exact e1) _).mono ?_;rintro e w2 ⟨rfl,rfl⟩) | (go_at_call 40;refine (za1 _ _ (by first | exact e2) _).mono ?_;rintro e w2 ⟨rfl,rfl⟩) | (go_at_call 39;refine (zay _ _ _ _ (by first | exact e4) _).mono ?_;rintro e w2 ⟨rfl,rfl⟩) | (go_at_call 141;refine (zbh _ _ (by first | exact e5) _).mono ?_;rintro e w2 ⟨rfl,rfl⟩) | (go_at_call 142;refine (zck _ _ (by first | exact e6) _).mono ?_;rintro e w2 ⟨rfl,rfl⟩) | (go_at_call 143;refine (zcg _ _ (by first | exact e7) _).mono ?_;rintro e w2 ⟨rfl,rfl⟩) | (go_at_call 144;refine (zcy _ _ h1 h2 e7 _ e8 _).mono ?_;rintro e w2 ⟨rfl,rfl⟩))
   go_ret
   exact KP.mk (by rw [← HG2.out];rfl) HB.out
 ·have e1:mbr m.q.mem=false:=by simpa using e1
  have HG2:Hid (1=g):=by have:=HG.out;rw [if_neg (ff e1)] at this;exact this
  clear HG
  go_wp2_with (first | (go_at_call 140;refine (za0 _ _ (by first | exact e1) _).mono ?_;rintro e w2 ⟨rfl,rfl⟩) | (go_at_call 40;refine (za1 _ _ (by first | exact e2) _).mono ?_;rintro e w2 ⟨rfl,rfl⟩) | (go_at_call 39;refine (zay _ _ _ _ (by first | exact e4) _).mono ?_;rintro e w2 ⟨rfl,rfl⟩) | (go_at_call 141;refine (zbh _ _ (by first | exact e5) _).mono ?_;rintro e w2 ⟨rfl,rfl⟩) | (go_at_call 142;refine (zck _ _ (by first | exact e6) _).mono ?_;rintro e w2 ⟨rfl,rfl⟩) | (go_at_call 143;refine (zcg _ _ (by first | exact e7) _).mono ?_;rintro e w2 ⟨rfl,rfl⟩) | (go_at_call 144;refine (zcy _ _ h1 h2 e7 _ e8 _).mono ?_;rintro e w2 ⟨rfl,rfl⟩))
  go_ret
  exact KP.mk (by rw [← HG2.out];rfl) HB.out
theorem zop (m:Mg) (pa ia ca ba:Option Addr) (pc ic cc bc:Nat) (w:World) (hs:m.q.side≠1) (h1:I64 m.q.st) (h2:I64 m.q.en) (g:Nat) (hg:(if mbr m.q.mem=true then if amt m.q.id=true then if inn m.q.side 1 2=true then if inn m.q.bas 1 64=true then if amt m.q.am=true then if inn m.q.rate (-1000000) 1000000=true then if inn m.q.st 0 200000=true then if (decide (m.q.en=0)||(inn m.q.en 0 200000&&inn (m.q.en-m.q.st) 1 3660))=true then 0 else 10 else 10 else 1 else 1 else 1 else 1 else 1 else 1)=g):Calls Tryz.prog 138 #[.agg #[.int .i64 m.q.id,.int .i64 m.q.mem,.int .i64 m.q.side,.int .i64 m.q.bas,.int .i64 m.q.am,.int .i64 m.q.rate,.int .i64 m.q.st,.int .i64 m.q.en]] w (KP (.int .i64 g) w):=by
 have HG:Hid ((if mbr m.q.mem=true then if amt m.q.id=true then if inn m.q.side 1 2=true then if inn m.q.bas 1 64=true then if amt m.q.am=true then if inn m.q.rate (-1000000) 1000000=true then if inn m.q.st 0 200000=true then if (decide (m.q.en=0)||(inn m.q.en 0 200000&&inn (m.q.en-m.q.st) 1 3660))=true then 0 else 10 else 10 else 1 else 1 else 1 else 1 else 1 else 1)=g):=hg
 have HB:Hid (Below w.heap.size w ((w.alloc (.cells #[.int .i64 m.q.id,.int .i64 m.q.mem,.int .i64 m.q.side,.int .i64 m.q.bas,.int .i64 m.q.am,.int .i64 m.q.rate,.int .i64 m.q.st,.int .i64 m.q.en] 63)).alloc (.cells #[.int .i64 m.q.id,.int .i64 m.q.mem,.int .i64 m.q.side,.int .i64 m.q.bas,.int .i64 m.q.am,.int .i64 m.q.rate,.int .i64 m.q.st,.int .i64 m.q.en] 30))):=bt (zab w _) (zab _ _)
 clear hg
 have z1:(m.q.side != 1)=true:=by rw [bne_iff_ne];exact hs
 have HS:Hid (m.q.side≠1):=hs
 clear hs
 go_enter Tryz.func138,Tryz.ntmps138
 by_cases e1:mbr m.q.mem=true
 ·by_cases e2:amt m.q.id=true
  ·by_cases e3:inn m.q.side 1 2=true
   ·have z2:(m.q.side != 2)=false:=by have hs:=HS.out;unfold inn at e3;rw [Bool.and_eq_true,decide_eq_true_iff,decide_eq_true_iff] at e3;rw [bne_eq_false_iff_eq];omega
    by_cases e4:inn m.q.bas 1 64=true
    ·by_cases e5:amt m.q.am=true
     ·by_cases e6:inn m.q.rate (-1000000) 1000000=true
      ·by_cases e7:inn m.q.st 0 200000=true
       ·by_cases e8:(decide (m.q.en=0)||(inn m.q.en 0 200000&&inn (m.q.en-m.q.st) 1 3660))=true
        ·have HG2:Hid (0=g):=by have:=HG.out;rw [if_pos e1,if_pos e2,if_pos e3,if_pos e4,if_pos e5,if_pos e6,if_pos e7,if_pos e8] at this;exact this
         clear HG
         go_wp2_with (first | (go_at_call 140;refine (za0 _ _ (by first | exact e1) _).mono ?_;rintro e w2 ⟨rfl,rfl⟩) | (go_at_call 40;refine (za1 _ _ (by first | exact e2) _).mono ?_;rintro e w2 ⟨rfl,rfl⟩) | (go_at_call 39;refine (zay _ _ _ _ (by first | exact e4) _).mono ?_;rintro e w2 ⟨rfl,rfl⟩) | (go_at_call 141;refine (zbh _ _ (by first | exact e5) _).mono ?_;rintro e w2 ⟨rfl,rfl⟩) | (go_at_call 142;refine (zck _ _ (by first | exact e6) _).mono ?_;rintro e w2 ⟨rfl,rfl⟩) | (go_at_call 143;refine (zcg _ _ (by first | exact e7) _).mono ?_;rintro e w2 ⟨rfl,rfl⟩) | (go_at_call 144;refine (zcy _ _ h1 h2 e7 _ e8 _).mono ?_;rintro e w2 ⟨rfl,rfl⟩))
         go_ret
         exact KP.mk (by rw [← HG2.out];rfl) HB.out
        ·have e8:(decide (m.q.en=0)||(inn m.q.en 0 200000&&inn (m.q.en-m.q.st) 1 3660))=false:=by simpa using e8
         have HG2:Hid (10=g):=by have:=HG.out;rw [if_pos e1,if_pos e2,if_pos e3,if_pos e4,if_pos e5,if_pos e6,if_pos e7,if_neg (ff e8)] at this;exact this
         clear HG
         go_wp2_with (first | (go_at_call 140;refine (za0 _ _ (by first | exact e1) _).mono ?_;rintro e w2 ⟨rfl,rfl⟩) | (go_at_call 40;refine (za1 _ _ (by first | exact e2) _).mono ?_;rintro e w2 ⟨rfl,rfl⟩) | (go_at_call 39;refine (zay _ _ _ _ (by first | exact e4) _).mono ?_;rintro e w2 ⟨rfl,rfl⟩) | (go_at_call 141;refine (zbh _ _ (by first | exact e5) _).mono ?_;rintro e w2 ⟨rfl,rfl⟩) | (go_at_call 142;refine (zck _ _ (by first | exact e6) _).mono ?_;rintro e w2 ⟨rfl,rfl⟩) | (go_at_call 143;refine (zcg _ _ (by first | exact e7) _).mono ?_;rintro e w2 ⟨rfl,rfl⟩) | (go_at_call 144;refine (zcy _ _ h1 h2 e7 _ e8 _).mono ?_;rintro e w2 ⟨rfl,rfl⟩))
         go_ret
         exact KP.mk (by rw [← HG2.out];rfl) HB.out
       ·have e7:inn m.q.st 0 200000=false:=by simpa using e7
        have HG2:Hid (10=g):=by have:=HG.out;rw [if_pos e1,if_pos e2,if_pos e3,if_pos e4,if_pos e5,if_pos e6,if_neg (ff e7)] at this;exact this
        clear HG
        go_wp2_with (first | (go_at_call 140;refine (za0 _ _ (by first | exact e1) _).mono ?_;rintro e w2 ⟨rfl,rfl⟩) | (go_at_call 40;refine (za1 _ _ (by first | exact e2) _).mono ?_;rintro e w2 ⟨rfl,rfl⟩) | (go_at_call 39;refine (zay _ _ _ _ (by first | exact e4) _).mono ?_;rintro e w2 ⟨rfl,rfl⟩) | (go_at_call 141;refine (zbh _ _ (by first | exact e5) _).mono ?_;rintro e w2 ⟨rfl,rfl⟩) | (go_at_call 142;refine (zck _ _ (by first | exact e6) _).mono ?_;rintro e w2 ⟨rfl,rfl⟩) | (go_at_call 143;refine (zcg _ _ (by first | exact e7) _).mono ?_;rintro e w2 ⟨rfl,rfl⟩) | (go_at_call 144;refine (zcy _ _ h1 h2 e7 _ e8 _).mono ?_;rintro e w2 ⟨rfl,rfl⟩))
        go_ret
        exact KP.mk (by rw [← HG2.out];rfl) HB.out
      ·have e6:inn m.q.rate (-1000000) 1000000=false:=by simpa using e6
       have HG2:Hid (1=g):=by have:=HG.out;rw [if_pos e1,if_pos e2,if_pos e3,if_pos e4,if_pos e5,if_neg (ff e6)] at this;exact this
       clear HG
       go_wp2_with (first | (go_at_call 140;refine (za0 _ _ (by first | exact e1) _).mono ?_;rintro e w2 ⟨rfl,rfl⟩) | (go_at_call 40;refine (za1 _ _ (by first | exact e2) _).mono ?_;rintro e w2 ⟨rfl,rfl⟩) | (go_at_call 39;refine (zay _ _ _ _ (by first | exact e4) _).mono ?_;rintro e w2 ⟨rfl,rfl⟩) | (go_at_call 141;refine (zbh _ _ (by first | exact e5) _).mono ?_;rintro e w2 ⟨rfl,rfl⟩) | (go_at_call 142;refine (zck _ _ (by first | exact e6) _).mono ?_;rintro e w2 ⟨rfl,rfl⟩) | (go_at_call 143;refine (zcg _ _ (by first | exact e7) _).mono ?_;rintro e w2 ⟨rfl,rfl⟩) | (go_at_call 144;refine (zcy _ _ h1 h2 e7 _ e8 _).mono ?_;rintro e w2 ⟨rfl,rfl⟩))
       go_ret
       exact KP.mk (by rw [← HG2.out];rfl) HB.out
     ·have e5:amt m.q.am=false:=by simpa using e5
      have HG2:Hid (1=g):=by have:=HG.out;rw [if_pos e1,if_pos e2,if_pos e3,if_pos e4,if_neg (ff e5)] at this;exact this
      clear HG
      go_wp2_with (first | (go_at_call 140;refine (za0 _ _ (by first | exact e1) _).mono ?_;rintro e w2 ⟨rfl,rfl⟩) | (go_at_call 40;refine (za1 _ _ (by first | exact e2) _).mono ?_;rintro e w2 ⟨rfl,rfl⟩) | (go_at_call 39;refine (zay _ _ _ _ (by first | exact e4) _).mono ?_;rintro e w2 ⟨rfl,rfl⟩) | (go_at_call 141;refine (zbh _ _ (by first | exact e5) _).mono ?_;rintro e w2 ⟨rfl,rfl⟩) | (go_at_call 142;refine (zck _ _ (by first | exact e6) _).mono ?_;rintro e w2 ⟨rfl,rfl⟩) | (go_at_call 143;refine (zcg _ _ (by first | exact e7) _).mono ?_;rintro e w2 ⟨rfl,rfl⟩) | (go_at_call 144;refine (zcy _ _ h1 h2 e7 _ e8 _).mono ?_;rintro e w2 ⟨rfl,rfl⟩))
      go_ret
      exact KP.mk (by rw [← HG2.out];rfl) HB.out
    ·have e4:inn m.q.bas 1 64=false:=by simpa using e4
     have HG2:Hid (1=g):=by have:=HG.out;rw [if_pos e1,if_pos e2,if_pos e3,if_neg (ff e4)] at this;exact this
     clear HG
     go_wp2_with (first | (go_at_call 140;refine (za0 _ _ (by first | exact e1) _).mono ?_;rintro e w2 ⟨rfl,rfl⟩) | (go_at_call 40;refine (za1 _ _ (by first | exact e2) _).mono ?_;rintro e w2 ⟨rfl,rfl⟩) | (go_at_call 39;refine (zay _ _ _ _ (by first | exact e4) _).mono ?_;rintro e w2 ⟨rfl,rfl⟩) | (go_at_call 141;refine (zbh _ _ (by first | exact e5) _).mono ?_;rintro e w2 ⟨rfl,rfl⟩) | (go_at_call 142;refine (zck _ _ (by first | exact e6) _).mono ?_;rintro e w2 ⟨rfl,rfl⟩) | (go_at_call 143;refine (zcg _ _ (by first | exact e7) _).mono ?_;rintro e w2 ⟨rfl,rfl⟩) | (go_at_call 144;refine (zcy _ _ h1 h2 e7 _ e8 _).mono ?_;rintro e w2 ⟨rfl,rfl⟩))
     go_ret
     exact KP.mk (by rw [← HG2.out];rfl) HB.out
   ·have e3:inn m.q.side 1 2=false:=by simpa using e3
    have HG2:Hid (1=g):=by have:=HG.out;rw [if_pos e1,if_pos e2,if_neg (ff e3)] at this;exact this
    clear HG
    have z2:(m.q.side != 2)=true:=by have hs:=HS.out;unfold inn at e3;rw [Bool.and_eq_false_iff,decide_eq_false_iff_not,decide_eq_false_iff_not] at e3;rw [bne_iff_ne];omega
    go_wp2_with (first | (go_at_call 140;refine (za0 _ _ (by first | exact e1) _).mono ?_;rintro e w2 ⟨rfl,rfl⟩) | (go_at_call 40;refine (za1 _ _ (by first | exact e2) _).mono ?_;rintro e w2 ⟨rfl,rfl⟩) | (go_at_call 39;refine (zay _ _ _ _ (by first | exact e4) _).mono ?_;rintro e w2 ⟨rfl,rfl⟩) | (go_at_call 141;refine (zbh _ _ (by first | exact e5) _).mono ?_;rintro e w2 ⟨rfl,rfl⟩) | (go_at_call 142;refine (zck _ _ (by first | exact e6) _).mono ?_;rintro e w2 ⟨rfl,rfl⟩) | (go_at_call 143;refine (zcg _ _ (by first | exact e7) _).mono ?_;rintro e w2 ⟨rfl,rfl⟩) | (go_at_call 144;refine (zcy _ _ h1 h2 e7 _ e8 _).mono ?_;rintro e w2 ⟨rfl,rfl⟩))
    go_ret
    exact KP.mk (by rw [← HG2.out];rfl) HB.out
  ·have e2:amt m.q.id=false:=by simpa using e2
   have HG2:Hid (1=g):=by have:=HG.out;rw [if_pos e1,if_neg (ff e2)] at this;exact this
   clear HG
   go_wp2_with (first | (go_at_call 140;refine (za0 _ _ (by first | exact e1) _).mono ?_;rintro e w2 ⟨rfl,rfl⟩) | (go_at_call 40;refine (za1 _ _ (by first | exact e2) _).mono ?_;rintro e w2 ⟨rfl,rfl⟩) | (go_at_call 39;refine (zay _ _ _ _ (by first | exact e4) _).mono ?_;rintro e w2 ⟨rfl,rfl⟩) | (go_at_call 141;refine (zbh _ _ (by first | exact e5) _).mono ?_;rintro e w2 ⟨rfl,rfl⟩) | (go_at_call 142;refine (zck _ _ (by first | exact e6) _).mono ?_;rintro e w2 ⟨rfl,rfl⟩) | (go_at_call 143;refine (zcg _ _ (by first | exact e7) _).mono ?_;rintro e w2 ⟨rfl,rfl⟩) | (go_at_call 144;refine (zcy _ _ h1 h2 e7 _ e8 _).mono ?_;rintro e w2 ⟨rfl,rfl⟩))
   go_ret
   exact KP.mk (by rw [← HG2.out];rfl) HB.out
 ·have e1:mbr m.q.mem=false:=by simpa using e1
  have HG2:Hid (1=g):=by have:=HG.out;rw [if_neg (ff e1)] at this;exact this
  clear HG
  go_wp2_with (first | (go_at_call 140;refine (za0 _ _ (by first | exact e1) _).mono ?_;rintro e w2 ⟨rfl,rfl⟩) | (go_at_call 40;refine (za1 _ _ (by first | exact e2) _).mono ?_;rintro e w2 ⟨rfl,rfl⟩) | (go_at_call 39;refine (zay _ _ _ _ (by first | exact e4) _).mono ?_;rintro e w2 ⟨rfl,rfl⟩) | (go_at_call 141;refine (zbh _ _ (by first | exact e5) _).mono ?_;rintro e w2 ⟨rfl,rfl⟩) | (go_at_call 142;refine (zck _ _ (by first | exact e6) _).mono ?_;rintro e w2 ⟨rfl,rfl⟩) | (go_at_call 143;refine (zcg _ _ (by first | exact e7) _).mono ?_;rintro e w2 ⟨rfl,rfl⟩) | (go_at_call 144;refine (zcy _ _ h1 h2 e7 _ e8 _).mono ?_;rintro e w2 ⟨rfl,rfl⟩))
  go_ret
  exact KP.mk (by rw [← HG2.out];rfl) HB.out
theorem zst (m:Mg) (pa ia ca ba:Option Addr) (pc ic cc bc:Nat) (w:World)  (g:Nat) (hg:(if mbr m.mem=true then if amt m.n=true then 0 else 1 else 1)=g):Calls Tryz.prog 193 #[.agg #[.int .i64 m.mem,.int .i64 m.n]] w (KP (.int .i64 g) w):=by
 have HG:Hid ((if mbr m.mem=true then if amt m.n=true then 0 else 1 else 1)=g):=hg
 have HB:Hid (Below w.heap.size w (w.alloc (.cells #[.int .i64 m.mem,.int .i64 m.n] 88))):=zab w _
 clear hg
 go_enter Tryz.func193,Tryz.ntmps193
 by_cases e1:mbr m.mem=true
 ·by_cases e2:amt m.n=true
  ·have HG2:Hid (0=g):=by have:=HG.out;rw [if_pos e1,if_pos e2] at this;exact this
   clear HG
   go_wp2_with (first | (go_at_call 140;refine (za0 _ _ (by first | exact e1) _).mono ?_;rintro e w2 ⟨rfl,rfl⟩) | (go_at_call 40;refine (za1 _ _ (by first | exact e2) _).mono ?_;rintro e w2 ⟨rfl,rfl⟩))
   go_ret
   exact KP.mk (by rw [← HG2.out];rfl) HB.out
  ·have e2:amt m.n=false:=by simpa using e2
   have HG2:Hid (1=g):=by have:=HG.out;rw [if_pos e1,if_neg (ff e2)] at this;exact this
   clear HG
   go_wp2_with (first | (go_at_call 140;refine (za0 _ _ (by first | exact e1) _).mono ?_;rintro e w2 ⟨rfl,rfl⟩) | (go_at_call 40;refine (za1 _ _ (by first | exact e2) _).mono ?_;rintro e w2 ⟨rfl,rfl⟩))
   go_ret
   exact KP.mk (by rw [← HG2.out];rfl) HB.out
 ·have e1:mbr m.mem=false:=by simpa using e1
  have HG2:Hid (1=g):=by have:=HG.out;rw [if_neg (ff e1)] at this;exact this
  clear HG
  go_wp2_with (first | (go_at_call 140;refine (za0 _ _ (by first | exact e1) _).mono ?_;rintro e w2 ⟨rfl,rfl⟩) | (go_at_call 40;refine (za1 _ _ (by first | exact e2) _).mono ?_;rintro e w2 ⟨rfl,rfl⟩))
  go_ret
  exact KP.mk (by rw [← HG2.out];rfl) HB.out
theorem zoq (m:Mg) (pa ia ca ba:Option Addr) (pc ic cc bc:Nat) (w:World)  (g:Nat) (hg:(if mbr m.mem=true then if amt m.tr=true then zb0 C0 m.day else 1 else 1)=g):Calls Tryz.prog 196 #[.agg #[.int .i64 m.mem,.int .i64 m.tr,.int .i64 m.day]] w (KP (.int .i64 g) w):=by
 have HG:Hid ((if mbr m.mem=true then if amt m.tr=true then zb0 C0 m.day else 1 else 1)=g):=hg
 have HB:Hid (Below w.heap.size w (w.alloc (.cells #[.int .i64 m.mem,.int .i64 m.tr,.int .i64 m.day] 90))):=zab w _
 clear hg
 have HC:Hid (∀w,Calls Tryz.prog 163 #[.int .i64 m.day] w (NP .i64 (zb0 C0 m.day:Nat) w)):=fun w=>zue m.day _ rfl w
 generalize zb0 C0 m.day=dd at *
 go_enter Tryz.func196,Tryz.ntmps196
 by_cases e1:mbr m.mem=true
 ·by_cases e2:amt m.tr=true
  ·have HG2:Hid (dd=g):=by have:=HG.out;rw [if_pos e1,if_pos e2] at this;exact this
   clear HG
   go_wp2_with (first | (go_at_call 140;refine (za0 _ _ (by first | exact e1) _).mono ?_;rintro e w2 ⟨rfl,rfl⟩) | (go_at_call 40;refine (za1 _ _ (by first | exact e2) _).mono ?_;rintro e w2 ⟨rfl,rfl⟩) | (go_at_call 163;refine (HC.out _).mono ?_;rintro e w2 ⟨rfl,rfl⟩))
   go_ret
   exact KP.mk (by rw [← HG2.out];rfl) HB.out
  ·have e2:amt m.tr=false:=by simpa using e2
   have HG2:Hid (1=g):=by have:=HG.out;rw [if_pos e1,if_neg (ff e2)] at this;exact this
   clear HG
   go_wp2_with (first | (go_at_call 140;refine (za0 _ _ (by first | exact e1) _).mono ?_;rintro e w2 ⟨rfl,rfl⟩) | (go_at_call 40;refine (za1 _ _ (by first | exact e2) _).mono ?_;rintro e w2 ⟨rfl,rfl⟩))
   go_ret
   exact KP.mk (by rw [← HG2.out];rfl) HB.out
 ·have e1:mbr m.mem=false:=by simpa using e1
  have HG2:Hid (1=g):=by have:=HG.out;rw [if_neg (ff e1)] at this;exact this
  clear HG
  go_wp2_with (first | (go_at_call 140;refine (za0 _ _ (by first | exact e1) _).mono ?_;rintro e w2 ⟨rfl,rfl⟩) | (go_at_call 40;refine (za1 _ _ (by first | exact e2) _).mono ?_;rintro e w2 ⟨rfl,rfl⟩))
  go_ret
  exact KP.mk (by rw [← HG2.out];rfl) HB.out
theorem zor (m:Mg) (pa ia ca ba:Option Addr) (pc ic cc bc:Nat) (w:World)  (g:Nat) (hg:(if mbr m.mem=true then zb0 C0 m.day else 1)=g):Calls Tryz.prog 199 #[.agg #[.int .i64 m.mem,.int .i64 m.day,.bool m.done]] w (KP (.int .i64 g) w):=by
 have HG:Hid ((if mbr m.mem=true then zb0 C0 m.day else 1)=g):=hg
 have HB:Hid (Below w.heap.size w (w.alloc (.cells #[.int .i64 m.mem,.int .i64 m.day,.bool m.done] 92))):=zab w _
 clear hg
 have HC:Hid (∀w,Calls Tryz.prog 163 #[.int .i64 m.day] w (NP .i64 (zb0 C0 m.day:Nat) w)):=fun w=>zue m.day _ rfl w
 generalize zb0 C0 m.day=dd at *
 go_enter Tryz.func199,Tryz.ntmps199
 by_cases e1:mbr m.mem=true
 ·have HG2:Hid (dd=g):=by have:=HG.out;rw [if_pos e1] at this;exact this
  clear HG
  go_wp2_with (first | (go_at_call 140;refine (za0 _ _ (by first | exact e1) _).mono ?_;rintro e w2 ⟨rfl,rfl⟩) | (go_at_call 163;refine (HC.out _).mono ?_;rintro e w2 ⟨rfl,rfl⟩))
  go_ret
  exact KP.mk (by rw [← HG2.out];rfl) HB.out
 ·have e1:mbr m.mem=false:=by simpa using e1
  have HG2:Hid (1=g):=by have:=HG.out;rw [if_neg (ff e1)] at this;exact this
  clear HG
  go_wp2_with (first | (go_at_call 140;refine (za0 _ _ (by first | exact e1) _).mono ?_;rintro e w2 ⟨rfl,rfl⟩))
  go_ret
  exact KP.mk (by rw [← HG2.out];rfl) HB.out
theorem zos (m:Mg) (pa ia ca ba:Option Addr) (pc ic cc bc:Nat) (w:World)  (g:Nat) (hg:(if mbr m.mem=true then 0 else 1)=g):Calls Tryz.prog 203 #[.agg #[.int .i64 m.mem]] w (KP (.int .i64 g) w):=by
 have HG:Hid ((if mbr m.mem=true then 0 else 1)=g):=hg
 have HB:Hid (Below w.heap.size w (w.alloc (.cells #[.int .i64 m.mem] 94))):=zab w _
 clear hg
 go_enter Tryz.func203,Tryz.ntmps203
 by_cases e1:mbr m.mem=true
 ·have HG2:Hid (0=g):=by have:=HG.out;rw [if_pos e1] at this;exact this
  clear HG
  go_wp2_with (first | (go_at_call 140;refine (za0 _ _ (by first | exact e1) _).mono ?_;rintro e w2 ⟨rfl,rfl⟩))
  go_ret
  exact KP.mk (by rw [← HG2.out];rfl) HB.out
 ·have e1:mbr m.mem=false:=by simpa using e1
  have HG2:Hid (1=g):=by have:=HG.out;rw [if_neg (ff e1)] at this;exact this
  clear HG
  go_wp2_with (first | (go_at_call 140;refine (za0 _ _ (by first | exact e1) _).mono ?_;rintro e w2 ⟨rfl,rfl⟩))
  go_ret
  exact KP.mk (by rw [← HG2.out];rfl) HB.out
theorem zot (m:Mg) (pa ia ca ba:Option Addr) (pc ic cc bc:Nat) (w:World)  (g:Nat) (hg:(if mbr m.mem=true then if inn m.n 0 1125899906842624=true then 0 else 1 else 1)=g):Calls Tryz.prog 206 #[.agg #[.int .i64 m.mem,.int .i64 m.n]] w (KP (.int .i64 g) w):=by
 have HG:Hid ((if mbr m.mem=true then if inn m.n 0 1125899906842624=true then 0 else 1 else 1)=g):=hg
 have HB:Hid (Below w.heap.size w (w.alloc (.cells #[.int .i64 m.mem,.int .i64 m.n] 96))):=zab w _
 clear hg
 go_enter Tryz.func206,Tryz.ntmps206
 by_cases e1:mbr m.mem=true
 ·by_cases e2:inn m.n 0 1125899906842624=true
  ·have HG2:Hid (0=g):=by have:=HG.out;rw [if_pos e1,if_pos e2] at this;exact this
   clear HG
   go_wp2_with (first | (go_at_call 140;refine (za0 _ _ (by first | exact e1) _).mono ?_;rintro e w2 ⟨rfl,rfl⟩) | (go_at_call 39;refine (zay _ _ _ _ (by first | exact e2) _).mono ?_;rintro e w2 ⟨rfl,rfl⟩))
   go_ret
   exact KP.mk (by rw [← HG2.out];rfl) HB.out
  ·have e2:inn m.n 0 1125899906842624=false:=by simpa using e2
   have HG2:Hid (1=g):=by have:=HG.out;rw [if_pos e1,if_neg (ff e2)] at this;exact this
   clear HG
   go_wp2_with (first | (go_at_call 140;refine (za0 _ _ (by first | exact e1) _).mono ?_;rintro e w2 ⟨rfl,rfl⟩) | (go_at_call 39;refine (zay _ _ _ _ (by first | exact e2) _).mono ?_;rintro e w2 ⟨rfl,rfl⟩))
   go_ret
   exact KP.mk (by rw [← HG2.out];rfl) HB.out
 ·have e1:mbr m.mem=false:=by simpa using e1
  have HG2:Hid (1=g):=by have:=HG.out;rw [if_neg (ff e1)] at this;exact this
  clear HG
  go_wp2_with (first | (go_at_call 140;refine (za0 _ _ (by first | exact e1) _).mono ?_;rintro e w2 ⟨rfl,rfl⟩) | (go_at_call 39;refine (zay _ _ _ _ (by first | exact e2) _).mono ?_;rintro e w2 ⟨rfl,rfl⟩))
  go_ret
  exact KP.mk (by rw [← HG2.out];rfl) HB.out
theorem zou (m:Mg) (pa ia ca ba:Option Addr) (pc ic cc bc:Nat) (w:World)  (g:Nat) (hg:(if amt m.tr=true then if inn m.rate (-1000000) 1000000=true then zb0 C0 m.day else 1 else 1)=g):Calls Tryz.prog 209 #[.agg #[.int .i64 m.tr,.int .i64 m.day,.int .i64 m.rate]] w (KP (.int .i64 g) w):=by
 have HG:Hid ((if amt m.tr=true then if inn m.rate (-1000000) 1000000=true then zb0 C0 m.day else 1 else 1)=g):=hg
 have HB:Hid (Below w.heap.size w (w.alloc (.cells #[.int .i64 m.tr,.int .i64 m.day,.int .i64 m.rate] 98))):=zab w _
 clear hg
 have HC:Hid (∀w,Calls Tryz.prog 163 #[.int .i64 m.day] w (NP .i64 (zb0 C0 m.day:Nat) w)):=fun w=>zue m.day _ rfl w
 generalize zb0 C0 m.day=dd at *
 go_enter Tryz.func209,Tryz.ntmps209
 by_cases e1:amt m.tr=true
 ·by_cases e2:inn m.rate (-1000000) 1000000=true
  ·have HG2:Hid (dd=g):=by have:=HG.out;rw [if_pos e1,if_pos e2] at this;exact this
   clear HG
   go_wp2_with (first | (go_at_call 40;refine (za1 _ _ (by first | exact e1) _).mono ?_;rintro e w2 ⟨rfl,rfl⟩) | (go_at_call 142;refine (zck _ _ (by first | exact e2) _).mono ?_;rintro e w2 ⟨rfl,rfl⟩) | (go_at_call 163;refine (HC.out _).mono ?_;rintro e w2 ⟨rfl,rfl⟩))
   go_ret
   exact KP.mk (by rw [← HG2.out];rfl) HB.out
  ·have e2:inn m.rate (-1000000) 1000000=false:=by simpa using e2
   have HG2:Hid (1=g):=by have:=HG.out;rw [if_pos e1,if_neg (ff e2)] at this;exact this
   clear HG
   go_wp2_with (first | (go_at_call 40;refine (za1 _ _ (by first | exact e1) _).mono ?_;rintro e w2 ⟨rfl,rfl⟩) | (go_at_call 142;refine (zck _ _ (by first | exact e2) _).mono ?_;rintro e w2 ⟨rfl,rfl⟩))
   go_ret
   exact KP.mk (by rw [← HG2.out];rfl) HB.out
 ·have e1:amt m.tr=false:=by simpa using e1
  have HG2:Hid (1=g):=by have:=HG.out;rw [if_neg (ff e1)] at this;exact this
  clear HG
  go_wp2_with (first | (go_at_call 40;refine (za1 _ _ (by first | exact e1) _).mono ?_;rintro e w2 ⟨rfl,rfl⟩) | (go_at_call 142;refine (zck _ _ (by first | exact e2) _).mono ?_;rintro e w2 ⟨rfl,rfl⟩))
  go_ret
  exact KP.mk (by rw [← HG2.out];rfl) HB.out
end Go.Proofs.YtdmlgheajblcdaaGreat
