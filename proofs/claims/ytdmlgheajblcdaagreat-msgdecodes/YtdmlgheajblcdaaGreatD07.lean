/- Layer 10: what is wrong with a message, and who sends it, by the reference. -/
import Derived.Test.YtdmlgheajblcdaaGreatD06
import Derived.OpenShut
import Derived.ChangeOld
import Derived.Below
import Derived.SizedLaws
import Derived.SliceStrings
namespace Go.Proofs.YtdmlgheajblcdaaGreat
set_option maxHeartbeats 16000000
set_option maxRecDepth 100000
open Go.RowKit
set_option linter.unusedVariables false
set_option linter.unusedSimpArgs false
set_option maxRecDepth 20000
theorem zvq (m:Mg) (pa ia ca ba:Option Addr) (pc ic cc bc:Nat) (hk:m.k=1) (w:World) (hs:m.name.length≤9223372036854775807) (g:Nat) (hg:(C0.nm m.name)=g):Calls Tryz.prog 37 #[.agg (mcs m pa ia ca ba pc ic cc bc)] w (KP (.int .i64 g) w):=by
 have HG:Hid ((C0.nm m.name)=g):=hg
 clear hg
 have HC:Hid (∀w,Calls Tryz.prog 72 #[.string ⟨m.name.toArray⟩] w (TB (N4.chk m.name).1 (C0.nm m.name) w)):=fun w=>zvf m.name hs _ rfl w
 generalize C0.nm m.name=dd at *
 have HX0:Hid (Bx (w.alloc (.cells (mcs m pa ia ca ba pc ic cc bc) 35)) w.heap.size (mcs m pa ia ca ba pc ic cc bc) 35):=Bx.new _ _ _
 have HB0:Hid (Below w.heap.size w (w.alloc (.cells (mcs m pa ia ca ba pc ic cc bc) 35))):=zab w _
 have hsz:(mcs m pa ia ca ba pc ic cc bc).size=36:=zac m pa ia ca ba pc ic cc bc
 go_enter Tryz.func37,Tryz.ntmps37
 go_upto_region 1 with fail
 generalize hw1:w.alloc (.cells (mcs m pa ia ca ba pc ic cc bc) 35)=w1 at *
 have HX:Hid (Bx w1 w.heap.size (mcs m pa ia ca ba pc ic cc bc) 35):=HX0.out
 have HB:Hid (Below w.heap.size w w1):=HB0.out
 have HLD:Hid ((Instr.loadAt 35 (.pointer (some ⟨w.heap.size,0,none⟩))).run Tryz.prog w1=.ok (.agg (mcs m pa ia ca ba pc ic cc bc)) w1):=zam w1 w.heap.size (mcs m pa ia ca ba pc ic cc bc) (zac m pa ia ca ba pc ic cc bc) HX.out
 clear HX0 HB0 hw1
 have c0:w1.cell? ⟨w.heap.size,0,none⟩=some (.int .i64 1):=by rw [← hk];exact HX.out.cell 0
 have c2:w1.cell? ⟨w.heap.size,2,none⟩=some (.string ⟨m.name.toArray⟩):=HX.out.cell 2
 have HG2:Hid (dd=g):=by have:=HG.out;exact this
 clear HG
 go_wp2_with fail
 refine (HC.out _).mono ?_
 rintro e w2 ⟨rfl,hb⟩
 have HB2:Hid (Below w.heap.size w w2):=bt HB.out hb.out
 clear hb
 go_wp2_with fail
 go_ret
 exact KP.mk (by rw [← HG2.out];rfl) HB2.out
theorem zvr (m:Mg) (pa ia ca ba:Option Addr) (pc ic cc bc:Nat) (hk:m.k=6) (w:World)  (g:Nat) (hg:(if sgn m.n=true then 0 else 1)=g):Calls Tryz.prog 37 #[.agg (mcs m pa ia ca ba pc ic cc bc)] w (KP (.int .i64 g) w):=by
 have HG:Hid ((if sgn m.n=true then 0 else 1)=g):=hg
 clear hg
 have HX0:Hid (Bx (w.alloc (.cells (mcs m pa ia ca ba pc ic cc bc) 35)) w.heap.size (mcs m pa ia ca ba pc ic cc bc) 35):=Bx.new _ _ _
 have HB0:Hid (Below w.heap.size w (w.alloc (.cells (mcs m pa ia ca ba pc ic cc bc) 35))):=zab w _
 have hsz:(mcs m pa ia ca ba pc ic cc bc).size=36:=zac m pa ia ca ba pc ic cc bc
 go_enter Tryz.func37,Tryz.ntmps37
 go_upto_region 1 with fail
 generalize hw1:w.alloc (.cells (mcs m pa ia ca ba pc ic cc bc) 35)=w1 at *
 have HX:Hid (Bx w1 w.heap.size (mcs m pa ia ca ba pc ic cc bc) 35):=HX0.out
 have HB:Hid (Below w.heap.size w w1):=HB0.out
 have HLD:Hid ((Instr.loadAt 35 (.pointer (some ⟨w.heap.size,0,none⟩))).run Tryz.prog w1=.ok (.agg (mcs m pa ia ca ba pc ic cc bc)) w1):=zam w1 w.heap.size (mcs m pa ia ca ba pc ic cc bc) (zac m pa ia ca ba pc ic cc bc) HX.out
 clear HX0 HB0 hw1
 have c0:w1.cell? ⟨w.heap.size,0,none⟩=some (.int .i64 6):=by rw [← hk];exact HX.out.cell 0
 have c21:w1.cell? ⟨w.heap.size,21,none⟩=some (.int .i64 m.n):=HX.out.cell 21
 have c33:w1.cell? ⟨w.heap.size,33,none⟩=some (.int .i64 m.tr):=HX.out.cell 33
 have c35:w1.cell? ⟨w.heap.size,35,none⟩=some (.int .i64 m.rate):=HX.out.cell 35
 by_cases e2:sgn m.n=true
 ·have HG2:Hid (0=g):=by have:=HG.out;rw [if_pos e2] at this;exact this
  clear HG
  go_wp2_with (first | (go_at_call 73;refine (zey _ _ (by first | exact e2) _).mono ?_;rintro e w2 ⟨rfl,rfl⟩))
  go_ret
  exact KP.mk (by rw [← HG2.out];rfl) HB.out
 ·have e2:sgn m.n=false:=by simpa using e2
  have HG2:Hid (1=g):=by have:=HG.out;rw [if_neg (ff e2)] at this;exact this
  clear HG
  go_wp2_with (first | (go_at_call 73;refine (zey _ _ (by first | exact e2) _).mono ?_;rintro e w2 ⟨rfl,rfl⟩))
  go_ret
  exact KP.mk (by rw [← HG2.out];rfl) HB.out
theorem zvs (m:Mg) (pa ia ca ba:Option Addr) (pc ic cc bc:Nat) (hk:m.k=7) (w:World)  (g:Nat) (hg:(if sgn m.n=true then C0.is m.t else 1)=g):Calls Tryz.prog 37 #[.agg (mcs m pa ia ca ba pc ic cc bc)] w (KP (.int .i64 g) w):=by
 have HG:Hid ((if sgn m.n=true then C0.is m.t else 1)=g):=hg
 clear hg
 have HC:Hid (∀w,Calls Tryz.prog 70 #[.string ⟨m.t.toArray⟩] w (NB (C0.is m.t:Nat) w)):=fun w=>znt m.t _ rfl w
 generalize C0.is m.t=dd at *
 have HX0:Hid (Bx (w.alloc (.cells (mcs m pa ia ca ba pc ic cc bc) 35)) w.heap.size (mcs m pa ia ca ba pc ic cc bc) 35):=Bx.new _ _ _
 have HB0:Hid (Below w.heap.size w (w.alloc (.cells (mcs m pa ia ca ba pc ic cc bc) 35))):=zab w _
 have hsz:(mcs m pa ia ca ba pc ic cc bc).size=36:=zac m pa ia ca ba pc ic cc bc
 go_enter Tryz.func37,Tryz.ntmps37
 go_upto_region 1 with fail
 generalize hw1:w.alloc (.cells (mcs m pa ia ca ba pc ic cc bc) 35)=w1 at *
 have HX:Hid (Bx w1 w.heap.size (mcs m pa ia ca ba pc ic cc bc) 35):=HX0.out
 have HB:Hid (Below w.heap.size w w1):=HB0.out
 have HLD:Hid ((Instr.loadAt 35 (.pointer (some ⟨w.heap.size,0,none⟩))).run Tryz.prog w1=.ok (.agg (mcs m pa ia ca ba pc ic cc bc)) w1):=zam w1 w.heap.size (mcs m pa ia ca ba pc ic cc bc) (zac m pa ia ca ba pc ic cc bc) HX.out
 clear HX0 HB0 hw1
 have c0:w1.cell? ⟨w.heap.size,0,none⟩=some (.int .i64 7):=by rw [← hk];exact HX.out.cell 0
 have c21:w1.cell? ⟨w.heap.size,21,none⟩=some (.int .i64 m.n):=HX.out.cell 21
 have c33:w1.cell? ⟨w.heap.size,33,none⟩=some (.int .i64 m.tr):=HX.out.cell 33
 have c35:w1.cell? ⟨w.heap.size,35,none⟩=some (.int .i64 m.rate):=HX.out.cell 35
 have c20:w1.cell? ⟨w.heap.size,20,none⟩=some (.string ⟨m.t.toArray⟩):=HX.out.cell 20
 by_cases e2:sgn m.n=true
 ·have HG2:Hid (dd=g):=by have:=HG.out;rw [if_pos e2] at this;exact this
  clear HG
  go_wp2_with (first | (go_at_call 73;refine (zey _ _ (by first | exact e2) _).mono ?_;rintro e w2 ⟨rfl,rfl⟩))
  refine (HC.out _).mono ?_
  rintro e w2 ⟨rfl,hb⟩
  have HB2:Hid (Below w.heap.size w w2):=bt HB.out hb.out
  clear hb
  go_wp2_with fail
  go_ret
  exact KP.mk (by rw [← HG2.out];rfl) HB2.out
 ·have e2:sgn m.n=false:=by simpa using e2
  have HG2:Hid (1=g):=by have:=HG.out;rw [if_neg (ff e2)] at this;exact this
  clear HG
  go_wp2_with (first | (go_at_call 73;refine (zey _ _ (by first | exact e2) _).mono ?_;rintro e w2 ⟨rfl,rfl⟩))
  go_ret
  exact KP.mk (by rw [← HG2.out];rfl) HB.out
theorem zvt (m:Mg) (pa ia ca ba:Option Addr) (pc ic cc bc:Nat) (hk:m.k=9) (w:World)  (g:Nat) (hg:(if amt m.n=true then 0 else 1)=g):Calls Tryz.prog 37 #[.agg (mcs m pa ia ca ba pc ic cc bc)] w (KP (.int .i64 g) w):=by
 have HG:Hid ((if amt m.n=true then 0 else 1)=g):=hg
 clear hg
 have HX0:Hid (Bx (w.alloc (.cells (mcs m pa ia ca ba pc ic cc bc) 35)) w.heap.size (mcs m pa ia ca ba pc ic cc bc) 35):=Bx.new _ _ _
 have HB0:Hid (Below w.heap.size w (w.alloc (.cells (mcs m pa ia ca ba pc ic cc bc) 35))):=zab w _
 have hsz:(mcs m pa ia ca ba pc ic cc bc).size=36:=zac m pa ia ca ba pc ic cc bc
 go_enter Tryz.func37,Tryz.ntmps37
 go_upto_region 1 with fail
 generalize hw1:w.alloc (.cells (mcs m pa ia ca ba pc ic cc bc) 35)=w1 at *
 have HX:Hid (Bx w1 w.heap.size (mcs m pa ia ca ba pc ic cc bc) 35):=HX0.out
 have HB:Hid (Below w.heap.size w w1):=HB0.out
 have HLD:Hid ((Instr.loadAt 35 (.pointer (some ⟨w.heap.size,0,none⟩))).run Tryz.prog w1=.ok (.agg (mcs m pa ia ca ba pc ic cc bc)) w1):=zam w1 w.heap.size (mcs m pa ia ca ba pc ic cc bc) (zac m pa ia ca ba pc ic cc bc) HX.out
 clear HX0 HB0 hw1
 have c0:w1.cell? ⟨w.heap.size,0,none⟩=some (.int .i64 9):=by rw [← hk];exact HX.out.cell 0
 have c21:w1.cell? ⟨w.heap.size,21,none⟩=some (.int .i64 m.n):=HX.out.cell 21
 by_cases e2:amt m.n=true
 ·have HG2:Hid (0=g):=by have:=HG.out;rw [if_pos e2] at this;exact this
  clear HG
  go_wp2_with (first | (go_at_call 46;refine (za6 _ _ (by first | exact e2) _).mono ?_;rintro e w2 ⟨rfl,rfl⟩))
  go_ret
  exact KP.mk (by rw [← HG2.out];rfl) HB.out
 ·have e2:amt m.n=false:=by simpa using e2
  have HG2:Hid (1=g):=by have:=HG.out;rw [if_neg (ff e2)] at this;exact this
  clear HG
  go_wp2_with (first | (go_at_call 46;refine (za6 _ _ (by first | exact e2) _).mono ?_;rintro e w2 ⟨rfl,rfl⟩))
  go_ret
  exact KP.mk (by rw [← HG2.out];rfl) HB.out
theorem zsu (m:Mg) (pa ia ca ba:Option Addr) (pc ic cc bc:Nat) (hk:m.k=10) (w:World)  (g:Nat) (hg:(if amt m.tr=true then zb0 C0 m.day else 1)=g):Calls Tryz.prog 37 #[.agg (mcs m pa ia ca ba pc ic cc bc)] w (KP (.int .i64 g) w):=by
 have HG:Hid ((if amt m.tr=true then zb0 C0 m.day else 1)=g):=hg
 clear hg
 have HC:Hid (∀w,Calls Tryz.prog 33 #[.int .i64 m.day] w (NP .i64 (zb0 C0 m.day:Nat) w)):=fun w=>zuf m.day _ rfl w
 generalize zb0 C0 m.day=dd at *
 have HX0:Hid (Bx (w.alloc (.cells (mcs m pa ia ca ba pc ic cc bc) 35)) w.heap.size (mcs m pa ia ca ba pc ic cc bc) 35):=Bx.new _ _ _
 have HB0:Hid (Below w.heap.size w (w.alloc (.cells (mcs m pa ia ca ba pc ic cc bc) 35))):=zab w _
 have hsz:(mcs m pa ia ca ba pc ic cc bc).size=36:=zac m pa ia ca ba pc ic cc bc
 go_enter Tryz.func37,Tryz.ntmps37
 go_upto_region 1 with fail
 generalize hw1:w.alloc (.cells (mcs m pa ia ca ba pc ic cc bc) 35)=w1 at *
 have HX:Hid (Bx w1 w.heap.size (mcs m pa ia ca ba pc ic cc bc) 35):=HX0.out
 have HB:Hid (Below w.heap.size w w1):=HB0.out
 have HLD:Hid ((Instr.loadAt 35 (.pointer (some ⟨w.heap.size,0,none⟩))).run Tryz.prog w1=.ok (.agg (mcs m pa ia ca ba pc ic cc bc)) w1):=zam w1 w.heap.size (mcs m pa ia ca ba pc ic cc bc) (zac m pa ia ca ba pc ic cc bc) HX.out
 clear HX0 HB0 hw1
 have c0:w1.cell? ⟨w.heap.size,0,none⟩=some (.int .i64 10):=by rw [← hk];exact HX.out.cell 0
 have c33:w1.cell? ⟨w.heap.size,33,none⟩=some (.int .i64 m.tr):=HX.out.cell 33
 have c19:w1.cell? ⟨w.heap.size,19,none⟩=some (.int .i64 m.day):=HX.out.cell 19
 by_cases e2:amt m.tr=true
 ·have HG2:Hid (dd=g):=by have:=HG.out;rw [if_pos e2] at this;exact this
  clear HG
  go_wp2_with (first | (go_at_call 46;refine (za6 _ _ (by first | exact e2) _).mono ?_;rintro e w2 ⟨rfl,rfl⟩))
  refine (HC.out _).mono ?_
  rintro e w2 ⟨rfl,rfl⟩
  go_wp2_with fail
  go_ret
  exact KP.mk (by rw [← HG2.out];rfl) HB.out
 ·have e2:amt m.tr=false:=by simpa using e2
  have HG2:Hid (1=g):=by have:=HG.out;rw [if_neg (ff e2)] at this;exact this
  clear HG
  go_wp2_with (first | (go_at_call 46;refine (za6 _ _ (by first | exact e2) _).mono ?_;rintro e w2 ⟨rfl,rfl⟩))
  go_ret
  exact KP.mk (by rw [← HG2.out];rfl) HB.out
theorem zsv (m:Mg) (pa ia ca ba:Option Addr) (pc ic cc bc:Nat) (hk:m.k=12) (w:World)  (g:Nat) (hg:(zb0 C0 m.day)=g):Calls Tryz.prog 37 #[.agg (mcs m pa ia ca ba pc ic cc bc)] w (KP (.int .i64 g) w):=by
 have HG:Hid ((zb0 C0 m.day)=g):=hg
 clear hg
 have HC:Hid (∀w,Calls Tryz.prog 33 #[.int .i64 m.day] w (NP .i64 (zb0 C0 m.day:Nat) w)):=fun w=>zuf m.day _ rfl w
 generalize zb0 C0 m.day=dd at *
 have HX0:Hid (Bx (w.alloc (.cells (mcs m pa ia ca ba pc ic cc bc) 35)) w.heap.size (mcs m pa ia ca ba pc ic cc bc) 35):=Bx.new _ _ _
 have HB0:Hid (Below w.heap.size w (w.alloc (.cells (mcs m pa ia ca ba pc ic cc bc) 35))):=zab w _
 have hsz:(mcs m pa ia ca ba pc ic cc bc).size=36:=zac m pa ia ca ba pc ic cc bc
 go_enter Tryz.func37,Tryz.ntmps37
 go_upto_region 1 with fail
 generalize hw1:w.alloc (.cells (mcs m pa ia ca ba pc ic cc bc) 35)=w1 at *
 have HX:Hid (Bx w1 w.heap.size (mcs m pa ia ca ba pc ic cc bc) 35):=HX0.out
 have HB:Hid (Below w.heap.size w w1):=HB0.out
 have HLD:Hid ((Instr.loadAt 35 (.pointer (some ⟨w.heap.size,0,none⟩))).run Tryz.prog w1=.ok (.agg (mcs m pa ia ca ba pc ic cc bc)) w1):=zam w1 w.heap.size (mcs m pa ia ca ba pc ic cc bc) (zac m pa ia ca ba pc ic cc bc) HX.out
 clear HX0 HB0 hw1
 have c0:w1.cell? ⟨w.heap.size,0,none⟩=some (.int .i64 12):=by rw [← hk];exact HX.out.cell 0
 have c19:w1.cell? ⟨w.heap.size,19,none⟩=some (.int .i64 m.day):=HX.out.cell 19
 have HG2:Hid (dd=g):=by have:=HG.out;exact this
 clear HG
 go_wp2_with fail
 refine (HC.out _).mono ?_
 rintro e w2 ⟨rfl,rfl⟩
 go_wp2_with fail
 go_ret
 exact KP.mk (by rw [← HG2.out];rfl) HB.out
theorem zsw (m:Mg) (pa ia ca ba:Option Addr) (pc ic cc bc:Nat) (hk:m.k=13) (w:World)  (g:Nat) (hg:(0)=g):Calls Tryz.prog 37 #[.agg (mcs m pa ia ca ba pc ic cc bc)] w (KP (.int .i64 g) w):=by
 have HG:Hid ((0)=g):=hg
 clear hg
 have HX0:Hid (Bx (w.alloc (.cells (mcs m pa ia ca ba pc ic cc bc) 35)) w.heap.size (mcs m pa ia ca ba pc ic cc bc) 35):=Bx.new _ _ _
 have HB0:Hid (Below w.heap.size w (w.alloc (.cells (mcs m pa ia ca ba pc ic cc bc) 35))):=zab w _
 have hsz:(mcs m pa ia ca ba pc ic cc bc).size=36:=zac m pa ia ca ba pc ic cc bc
 go_enter Tryz.func37,Tryz.ntmps37
 go_upto_region 1 with fail
 generalize hw1:w.alloc (.cells (mcs m pa ia ca ba pc ic cc bc) 35)=w1 at *
 have HX:Hid (Bx w1 w.heap.size (mcs m pa ia ca ba pc ic cc bc) 35):=HX0.out
 have HB:Hid (Below w.heap.size w w1):=HB0.out
 have HLD:Hid ((Instr.loadAt 35 (.pointer (some ⟨w.heap.size,0,none⟩))).run Tryz.prog w1=.ok (.agg (mcs m pa ia ca ba pc ic cc bc)) w1):=zam w1 w.heap.size (mcs m pa ia ca ba pc ic cc bc) (zac m pa ia ca ba pc ic cc bc) HX.out
 clear HX0 HB0 hw1
 have c0:w1.cell? ⟨w.heap.size,0,none⟩=some (.int .i64 13):=by rw [← hk];exact HX.out.cell 0
 have HG2:Hid (0=g):=by have:=HG.out;exact this
 clear HG
 go_wp2_with fail
 go_ret
 exact KP.mk (by rw [← HG2.out];rfl) HB.out
theorem zsx (m:Mg) (pa ia ca ba:Option Addr) (pc ic cc bc:Nat) (hk:m.k=14) (w:World)  (g:Nat) (hg:(if inn m.n 0 1125899906842624=true then 0 else 1)=g):Calls Tryz.prog 37 #[.agg (mcs m pa ia ca ba pc ic cc bc)] w (KP (.int .i64 g) w):=by
 have HG:Hid ((if inn m.n 0 1125899906842624=true then 0 else 1)=g):=hg
 clear hg
 have HX0:Hid (Bx (w.alloc (.cells (mcs m pa ia ca ba pc ic cc bc) 35)) w.heap.size (mcs m pa ia ca ba pc ic cc bc) 35):=Bx.new _ _ _
 have HB0:Hid (Below w.heap.size w (w.alloc (.cells (mcs m pa ia ca ba pc ic cc bc) 35))):=zab w _
 have hsz:(mcs m pa ia ca ba pc ic cc bc).size=36:=zac m pa ia ca ba pc ic cc bc
 go_enter Tryz.func37,Tryz.ntmps37
 go_upto_region 1 with fail
 generalize hw1:w.alloc (.cells (mcs m pa ia ca ba pc ic cc bc) 35)=w1 at *
 have HX:Hid (Bx w1 w.heap.size (mcs m pa ia ca ba pc ic cc bc) 35):=HX0.out
 have HB:Hid (Below w.heap.size w w1):=HB0.out
 have HLD:Hid ((Instr.loadAt 35 (.pointer (some ⟨w.heap.size,0,none⟩))).run Tryz.prog w1=.ok (.agg (mcs m pa ia ca ba pc ic cc bc)) w1):=zam w1 w.heap.size (mcs m pa ia ca ba pc ic cc bc) (zac m pa ia ca ba pc ic cc bc) HX.out
 clear HX0 HB0 hw1
 have c0:w1.cell? ⟨w.heap.size,0,none⟩=some (.int .i64 14):=by rw [← hk];exact HX.out.cell 0
 have c21:w1.cell? ⟨w.heap.size,21,none⟩=some (.int .i64 m.n):=HX.out.cell 21
 by_cases e2:inn m.n 0 1125899906842624=true
 ·have HG2:Hid (0=g):=by have:=HG.out;rw [if_pos e2] at this;exact this
  clear HG
  go_wp2_with (first | (go_at_call 45;refine (rin _ _ _ _ (by first | exact e2) _).mono ?_;rintro e w2 ⟨rfl,rfl⟩))
  go_ret
  exact KP.mk (by rw [← HG2.out];rfl) HB.out
 ·have e2:inn m.n 0 1125899906842624=false:=by simpa using e2
  have HG2:Hid (1=g):=by have:=HG.out;rw [if_neg (ff e2)] at this;exact this
  clear HG
  go_wp2_with (first | (go_at_call 45;refine (rin _ _ _ _ (by first | exact e2) _).mono ?_;rintro e w2 ⟨rfl,rfl⟩))
  go_ret
  exact KP.mk (by rw [← HG2.out];rfl) HB.out
theorem zsy (m:Mg) (pa ia ca ba:Option Addr) (pc ic cc bc:Nat) (hk:m.k=15) (w:World)  (g:Nat) (hg:(if amt m.tr=true then if inn m.rate (-1000000) 1000000=true then zb0 C0 m.day else 1 else 1)=g):Calls Tryz.prog 37 #[.agg (mcs m pa ia ca ba pc ic cc bc)] w (KP (.int .i64 g) w):=by
 have HG:Hid ((if amt m.tr=true then if inn m.rate (-1000000) 1000000=true then zb0 C0 m.day else 1 else 1)=g):=hg
 clear hg
 have HC:Hid (∀w,Calls Tryz.prog 33 #[.int .i64 m.day] w (NP .i64 (zb0 C0 m.day:Nat) w)):=fun w=>zuf m.day _ rfl w
 generalize zb0 C0 m.day=dd at *
 have HX0:Hid (Bx (w.alloc (.cells (mcs m pa ia ca ba pc ic cc bc) 35)) w.heap.size (mcs m pa ia ca ba pc ic cc bc) 35):=Bx.new _ _ _
 have HB0:Hid (Below w.heap.size w (w.alloc (.cells (mcs m pa ia ca ba pc ic cc bc) 35))):=zab w _
 have hsz:(mcs m pa ia ca ba pc ic cc bc).size=36:=zac m pa ia ca ba pc ic cc bc
 go_enter Tryz.func37,Tryz.ntmps37
 go_upto_region 1 with fail
 generalize hw1:w.alloc (.cells (mcs m pa ia ca ba pc ic cc bc) 35)=w1 at *
 have HX:Hid (Bx w1 w.heap.size (mcs m pa ia ca ba pc ic cc bc) 35):=HX0.out
 have HB:Hid (Below w.heap.size w w1):=HB0.out
 have HLD:Hid ((Instr.loadAt 35 (.pointer (some ⟨w.heap.size,0,none⟩))).run Tryz.prog w1=.ok (.agg (mcs m pa ia ca ba pc ic cc bc)) w1):=zam w1 w.heap.size (mcs m pa ia ca ba pc ic cc bc) (zac m pa ia ca ba pc ic cc bc) HX.out
 clear HX0 HB0 hw1
 have c0:w1.cell? ⟨w.heap.size,0,none⟩=some (.int .i64 15):=by rw [← hk];exact HX.out.cell 0
 have c33:w1.cell? ⟨w.heap.size,33,none⟩=some (.int .i64 m.tr):=HX.out.cell 33
 have c35:w1.cell? ⟨w.heap.size,35,none⟩=some (.int .i64 m.rate):=HX.out.cell 35
 have c19:w1.cell? ⟨w.heap.size,19,none⟩=some (.int .i64 m.day):=HX.out.cell 19
 by_cases e1:amt m.tr=true
 ·by_cases e2:inn m.rate (-1000000) 1000000=true
  ·have HG2:Hid (dd=g):=by have:=HG.out;rw [if_pos e1,if_pos e2] at this;exact this
   clear HG
   go_wp2_with (first | (go_at_call 46;refine (za6 _ _ (by first | exact e1) _).mono ?_;rintro e w2 ⟨rfl,rfl⟩) | (go_at_call 45;refine (rin _ _ _ _ (by first | exact e2) _).mono ?_;rintro e w2 ⟨rfl,rfl⟩))
   refine (HC.out _).mono ?_
   rintro e w2 ⟨rfl,rfl⟩
   go_wp2_with fail
   go_ret
   exact KP.mk (by rw [← HG2.out];rfl) HB.out
  ·have e2:inn m.rate (-1000000) 1000000=false:=by simpa using e2
   have HG2:Hid (1=g):=by have:=HG.out;rw [if_pos e1,if_neg (ff e2)] at this;exact this
   clear HG
   go_wp2_with (first | (go_at_call 46;refine (za6 _ _ (by first | exact e1) _).mono ?_;rintro e w2 ⟨rfl,rfl⟩) | (go_at_call 45;refine (rin _ _ _ _ (by first | exact e2) _).mono ?_;rintro e w2 ⟨rfl,rfl⟩))
   go_ret
   exact KP.mk (by rw [← HG2.out];rfl) HB.out
 ·have e1:amt m.tr=false:=by simpa using e1
  have HG2:Hid (1=g):=by have:=HG.out;rw [if_neg (ff e1)] at this;exact this
  clear HG
  go_wp2_with (first | (go_at_call 46;refine (za6 _ _ (by first | exact e1) _).mono ?_;rintro e w2 ⟨rfl,rfl⟩) | (go_at_call 45;refine (rin _ _ _ _ (by first | exact e2) _).mono ?_;rintro e w2 ⟨rfl,rfl⟩))
  go_ret
  exact KP.mk (by rw [← HG2.out];rfl) HB.out
theorem zsz (m:Mg) (pa ia ca ba:Option Addr) (pc ic cc bc:Nat) (hk:m.k=11) (w:World) (hL:Lts w.heap.size w ia m.ins) (hl:m.ins.length≤9223372036854775807) (g:Nat) (hg:(if amt m.tr=true then if decide (m.ins.length≤64)=true then zb3 C0 (m.out::m.ins) else 1 else 1)=g):Calls Tryz.prog 37 #[.agg (mcs m pa ia ca ba pc ic cc bc)] w (KP (.int .i64 g) w):=by
 have HG:Hid ((if amt m.tr=true then if decide (m.ins.length≤64)=true then zb3 C0 (m.out::m.ins) else 1 else 1)=g):=hg
 clear hg
 have HI:Hid (Lts w.heap.size w ia m.ins):=hL
 have HO:Hid (∀w,Calls Tryz.prog 74 #[.agg #[.string ⟨m.out.i.toArray⟩,.int .i64 m.out.q]] w (KP (.int .i64 (zdo C0 m.out:Nat)) w)):=fun w=>zxv m.out _ rfl w
 clear hL
 have HX0:Hid (Bx (w.alloc (.cells (mcs m pa ia ca ba pc ic cc bc) 35)) w.heap.size (mcs m pa ia ca ba pc ic cc bc) 35):=Bx.new _ _ _
 have HB0:Hid (Below w.heap.size w (w.alloc (.cells (mcs m pa ia ca ba pc ic cc bc) 35))):=zab w _
 have hsz:(mcs m pa ia ca ba pc ic cc bc).size=36:=zac m pa ia ca ba pc ic cc bc
 go_enter Tryz.func37,Tryz.ntmps37
 go_upto_region 1 with fail
 generalize hw1:w.alloc (.cells (mcs m pa ia ca ba pc ic cc bc) 35)=w1 at *
 have HX:Hid (Bx w1 w.heap.size (mcs m pa ia ca ba pc ic cc bc) 35):=HX0.out
 have HB:Hid (Below w.heap.size w w1):=HB0.out
 have HLD:Hid ((Instr.loadAt 35 (.pointer (some ⟨w.heap.size,0,none⟩))).run Tryz.prog w1=.ok (.agg (mcs m pa ia ca ba pc ic cc bc)) w1):=zam w1 w.heap.size (mcs m pa ia ca ba pc ic cc bc) (zac m pa ia ca ba pc ic cc bc) HX.out
 clear HX0 HB0 hw1
 have c0:w1.cell? ⟨w.heap.size,0,none⟩=some (.int .i64 11):=by rw [← hk];exact HX.out.cell 0
 have c33:w1.cell? ⟨w.heap.size,33,none⟩=some (.int .i64 m.tr):=HX.out.cell 33
 have c32:w1.cell? ⟨w.heap.size,32,none⟩=some (.slice ia m.ins.length ic):=HX.out.cell 32
 have c30:w1.cell? ⟨w.heap.size,30,none⟩=some (.string ⟨m.out.i.toArray⟩):=HX.out.cell 30
 have c31:w1.cell? ⟨w.heap.size,31,none⟩=some (.int .i64 m.out.q):=HX.out.cell 31
 by_cases e2:amt m.tr=true
 ·by_cases e3:decide (m.ins.length≤64)=true
  ·have e3n:¬ (m.ins.length:Int) > 64:=by have:=of_decide_eq_true e3;omega
   have HG1:Hid (zb3 C0 (m.out::m.ins)=g):=by have:=HG.out;rw [if_pos e2,if_pos e3] at this;exact this
   clear HG
   have HG3:Hid ((if zdo C0 m.out=0 then zb3 C0 m.ins else zdo C0 m.out)=g):=HG1.out
   clear HG1
   generalize zdo C0 m.out=lo at *
   go_wp2_with (first | (go_at_call 46;refine (za6 _ _ (by first | exact e2) _).mono ?_;rintro e w2 ⟨rfl,rfl⟩))
   refine (HO.out _).mono ?_
   rintro e w2 ⟨rfl,hb⟩
   have HB2:Hid (Below w.heap.size w w2):=bt HB.out hb.out
   have HX2:Hid (Bx w2 w.heap.size (mcs m pa ia ca ba pc ic cc bc) 35):=HX.out.keep hb.out
   clear hb HB HX HLD HO c0 c33 c32 c30 c31
   go_wp2_with fail
   go_loopw [5,6] (fun ev i wr=>∃(k e:Nat),i=.int .i64 k∧ev=.int .i64 e∧k≤m.ins.length∧Hid ((if e=0 then zb3 C0 (m.ins.drop k) else e)=g)∧Hid (Below w.heap.size w wr∧Bx wr w.heap.size (mcs m pa ia ca ba pc ic cc bc) 35)) (fun _ i _=>m.ins.length-(Lib.intOf i).toNat)
   case atStart=>exact ⟨0,lo,rfl,rfl,Nat.zero_le _,HG3,HB2.out,HX2.out⟩
   case round=>
    clear HG3 HB2 HX2
    obtain ⟨k,ec,rfl,rfl,hk,HK,HW⟩:=hrel
    have d32:wr.cell? ⟨w.heap.size,32,none⟩=some (.slice ia m.ins.length ic):=HW.out.2.cell 32
    by_cases hkn:k<m.ins.length
    ·have hkz:(k:Int)<(m.ins.length:Int):=by omega
     by_cases e5:ec=0
     ·have z5:((ec:Int)==0)=true:=by rw [e5];rfl
      have HK2:Hid (zb3 C0 (m.ins.drop k)=g):=by have:=HK.out;rw [if_pos e5] at this;exact this
      obtain ⟨b,off,rfl,hbl,hce⟩:=HI.out (by omega)
      have hc1:wr.cell? ⟨b,off+k*2,none⟩=some (.string ⟨m.ins[k].i.toArray⟩):=(HW.out.1.cell (by exact hbl)).trans (hce k hkn).1
      have hc2:wr.cell? ⟨b,off+k*2+1,none⟩=some (.int .i64 m.ins[k].q):=(HW.out.1.cell (by exact hbl)).trans (hce k hkn).2
      have HC:Hid (∀w,Calls Tryz.prog 74 #[.agg #[.string ⟨m.ins[k].i.toArray⟩,.int .i64 m.ins[k].q]] w (KP (.int .i64 (zdo C0 m.ins[k]:Nat)) w)):=fun w=>zxv m.ins[k] _ rfl w
      have HK3:Hid ((if zdo C0 m.ins[k]=0 then zb3 C0 (m.ins.drop (k+1)) else zdo C0 m.ins[k])=g):=by unfold Hid;rw [← zgj hkn];exact HK2.out
      clear HK HK2 hce e5
      generalize zdo C0 m.ins[k]=lk at *
      generalize (⟨m.ins[k].i.toArray⟩:ByteArray)=X at *
      generalize m.ins[k].q=q at *
      go_wp2_with fail
      refine (HC.out _).mono ?_
      rintro e w5 ⟨rfl,hb5⟩
      have HB5:Hid (Below w.heap.size w w5∧Bx w5 w.heap.size (mcs m pa (some ⟨b,off,none⟩) ca ba pc ic cc bc) 35):=⟨bt HW.out.1 hb5.out,HW.out.2.keep hb5.out⟩
      clear hb5 HW
      go_wp2_with fail
      exact ⟨⟨k+1,lk,by go_num,rfl,by omega,HK3,HB5.out.1,HB5.out.2⟩,by simp [Lib.intOf];omega⟩
     ·have z5:((ec:Int)==0)=false:=by rw [beq_eq_false_iff_ne];omega
      have HK2:Hid (ec=g):=by have:=HK.out;rw [if_neg e5] at this;exact this
      clear HK e5
      go_wp2_with fail
      go_ret
      exact KP.mk (by rw [← HK2.out];rfl) HW.out.1
    ·have hkz:¬ (k:Int)<(m.ins.length:Int):=by omega
     have HK2:Hid (ec=g):=by
      have:=HK.out
      rw [List.drop_of_length_le (by omega)] at this
      by_cases e5:ec=0
      ·rw [if_pos e5] at this;rw [e5];exact this
      ·rw [if_neg e5] at this;exact this
     clear HK
     go_wp2_with fail
     go_ret
     exact KP.mk (by rw [← HK2.out];rfl) HW.out.1
  ·have e3:decide (m.ins.length≤64)=false:=by simpa using e3
   have HG2:Hid (1=g):=by have:=HG.out;rw [if_pos e2,if_neg (ff e3)] at this;exact this
   clear HG
   have e3n:(m.ins.length:Int) > 64:=by have:=of_decide_eq_false e3;omega
   go_wp2_with (first | (go_at_call 46;refine (za6 _ _ (by first | exact e2) _).mono ?_;rintro e w2 ⟨rfl,rfl⟩))
   go_ret
   exact KP.mk (by rw [← HG2.out];rfl) HB.out
 ·have e2:amt m.tr=false:=by simpa using e2
  have HG2:Hid (1=g):=by have:=HG.out;rw [if_neg (ff e2)] at this;exact this
  clear HG
  go_wp2_with (first | (go_at_call 46;refine (za6 _ _ (by first | exact e2) _).mono ?_;rintro e w2 ⟨rfl,rfl⟩))
  go_ret
  exact KP.mk (by rw [← HG2.out];rfl) HB.out
theorem zov (m:Mg) (pa ia ca ba:Option Addr) (pc ic cc bc:Nat) (hk:m.k=1) (w:World) (hs:m.name.length≤9223372036854775807) (g:Nat) (hg:(if mbr m.mem=true then C0.nm m.name else 1)=g):Calls Tryz.prog 13 #[.agg (mcs m pa ia ca ba pc ic cc bc)] w (KP (.int .i64 g) w):=by
 have HG:Hid ((if mbr m.mem=true then C0.nm m.name else 1)=g):=hg
 clear hg
 have HR:Hid (∀W,Below w.heap.size w W→Calls Tryz.prog 37 #[.agg (mcs m pa ia ca ba pc ic cc bc)] W (KP (.int .i64 ((C0.nm m.name:Nat):Int)) W)):=fun W hb=>zvq m pa ia ca ba pc ic cc bc hk W hs _ rfl
 generalize (C0.nm m.name:Nat)=gr at *
 have HX0:Hid (Bx (w.alloc (.cells (mcs m pa ia ca ba pc ic cc bc) 35)) w.heap.size (mcs m pa ia ca ba pc ic cc bc) 35):=Bx.new _ _ _
 have HB0:Hid (Below w.heap.size w (w.alloc (.cells (mcs m pa ia ca ba pc ic cc bc) 35))):=zab w _
 have hsz:(mcs m pa ia ca ba pc ic cc bc).size=36:=zac m pa ia ca ba pc ic cc bc
 go_enter Tryz.func13,Tryz.ntmps13
 go_upto_region 1 with fail
 generalize hw1:w.alloc (.cells (mcs m pa ia ca ba pc ic cc bc) 35)=w1 at *
 have HX:Hid (Bx w1 w.heap.size (mcs m pa ia ca ba pc ic cc bc) 35):=HX0.out
 have HB:Hid (Below w.heap.size w w1):=HB0.out
 have HLD:Hid ((Instr.loadAt 35 (.pointer (some ⟨w.heap.size,0,none⟩))).run Tryz.prog w1=.ok (.agg (mcs m pa ia ca ba pc ic cc bc)) w1):=zam w1 w.heap.size (mcs m pa ia ca ba pc ic cc bc) (zac m pa ia ca ba pc ic cc bc) HX.out
 clear HX0 HB0 hw1
 have c0:w1.cell? ⟨w.heap.size,0,none⟩=some (.int .i64 1):=by rw [← hk];exact HX.out.cell 0
 have c1:w1.cell? ⟨w.heap.size,1,none⟩=some (.int .i64 m.mem):=HX.out.cell 1
 by_cases e1:mbr m.mem=true
 ·have HG2:Hid (gr=g):=by have:=HG.out;rw [if_pos e1] at this;exact this
  clear HG
  go_wp2_with (first | (go_at_call 35;refine (zbk _ _ (by first | exact e1) _).mono ?_;rintro e w2 ⟨rfl,rfl⟩) | (guard_target =~ wpList _ _ _ (⟨_,Op.load 35 _,_,_,_,_⟩::_) _ _;refine zag _ rfl 35 _ rfl _ rfl _ HLD.out ?_;go_simp))
  refine (HR.out _ HB.out).mono ?_
  rintro e w2 ⟨rfl,hb⟩
  have HB2:Hid (Below w.heap.size w w2):=bt HB.out hb.out
  clear hb
  go_wp2_with fail
  go_ret
  exact KP.mk (by rw [← HG2.out];rfl) HB2.out
 ·have e1:mbr m.mem=false:=by simpa using e1
  have HG2:Hid (1=g):=by have:=HG.out;rw [if_neg (ff e1)] at this;exact this
  clear HG
  go_wp2_with (first | (go_at_call 35;refine (zbk _ _ (by first | exact e1) _).mono ?_;rintro e w2 ⟨rfl,rfl⟩) | (guard_target =~ wpList _ _ _ (⟨_,Op.load 35 _,_,_,_,_⟩::_) _ _;refine zag _ rfl 35 _ rfl _ rfl _ HLD.out ?_;go_simp))
  go_ret
  exact KP.mk (by rw [← HG2.out];rfl) HB.out
theorem zow (m:Mg) (pa ia ca ba:Option Addr) (pc ic cc bc:Nat) (hk:m.k=6) (w:World)  (g:Nat) (hg:(if C0.cu m.t=true then if mbr m.mem=true then if sgn m.n=true then 0 else 1 else 1 else 11)=g):Calls Tryz.prog 13 #[.agg (mcs m pa ia ca ba pc ic cc bc)] w (KP (.int .i64 g) w):=by
 have HG:Hid ((if C0.cu m.t=true then if mbr m.mem=true then if sgn m.n=true then 0 else 1 else 1 else 11)=g):=hg
 clear hg
 have HR:Hid (∀W,Below w.heap.size w W→Calls Tryz.prog 37 #[.agg (mcs m pa ia ca ba pc ic cc bc)] W (KP (.int .i64 ((if sgn m.n=true then 0 else 1:Nat):Int)) W)):=fun W hb=>zvr m pa ia ca ba pc ic cc bc hk W  _ rfl
 generalize (if sgn m.n=true then 0 else 1:Nat)=gr at *
 have HX0:Hid (Bx (w.alloc (.cells (mcs m pa ia ca ba pc ic cc bc) 35)) w.heap.size (mcs m pa ia ca ba pc ic cc bc) 35):=Bx.new _ _ _
 have HB0:Hid (Below w.heap.size w (w.alloc (.cells (mcs m pa ia ca ba pc ic cc bc) 35))):=zab w _
 have hsz:(mcs m pa ia ca ba pc ic cc bc).size=36:=zac m pa ia ca ba pc ic cc bc
 go_enter Tryz.func13,Tryz.ntmps13
 go_upto_region 1 with fail
 generalize hw1:w.alloc (.cells (mcs m pa ia ca ba pc ic cc bc) 35)=w1 at *
 have HX:Hid (Bx w1 w.heap.size (mcs m pa ia ca ba pc ic cc bc) 35):=HX0.out
 have HB:Hid (Below w.heap.size w w1):=HB0.out
 have HLD:Hid ((Instr.loadAt 35 (.pointer (some ⟨w.heap.size,0,none⟩))).run Tryz.prog w1=.ok (.agg (mcs m pa ia ca ba pc ic cc bc)) w1):=zam w1 w.heap.size (mcs m pa ia ca ba pc ic cc bc) (zac m pa ia ca ba pc ic cc bc) HX.out
 clear HX0 HB0 hw1
 have c0:w1.cell? ⟨w.heap.size,0,none⟩=some (.int .i64 6):=by rw [← hk];exact HX.out.cell 0
 have c1:w1.cell? ⟨w.heap.size,1,none⟩=some (.int .i64 m.mem):=HX.out.cell 1
 have c20:w1.cell? ⟨w.heap.size,20,none⟩=some (.string ⟨m.t.toArray⟩):=HX.out.cell 20
 by_cases e0:C0.cu m.t=true
 ·by_cases e1:mbr m.mem=true
  ·have HG2:Hid (gr=g):=by have:=HG.out;rw [if_pos e0,if_pos e1] at this;exact this
   clear HG
   go_wp2_with (first | (go_at_call 34;refine (zgi _ _ (by first | exact e0) _).mono ?_;rintro e w2 ⟨rfl,rfl⟩) | (go_at_call 35;refine (zbk _ _ (by first | exact e1) _).mono ?_;rintro e w2 ⟨rfl,rfl⟩) | (guard_target =~ wpList _ _ _ (⟨_,Op.load 35 _,_,_,_,_⟩::_) _ _;refine zag _ rfl 35 _ rfl _ rfl _ HLD.out ?_;go_simp))
   refine (HR.out _ HB.out).mono ?_
   rintro e w2 ⟨rfl,hb⟩
   have HB2:Hid (Below w.heap.size w w2):=bt HB.out hb.out
   clear hb
   go_wp2_with fail
   go_ret
   exact KP.mk (by rw [← HG2.out];rfl) HB2.out
  ·have e1:mbr m.mem=false:=by simpa using e1
   have HG2:Hid (1=g):=by have:=HG.out;rw [if_pos e0,if_neg (ff e1)] at this;exact this
   clear HG
   go_wp2_with (first | (go_at_call 34;refine (zgi _ _ (by first | exact e0) _).mono ?_;rintro e w2 ⟨rfl,rfl⟩) | (go_at_call 35;refine (zbk _ _ (by first | exact e1) _).mono ?_;rintro e w2 ⟨rfl,rfl⟩) | (guard_target =~ wpList _ _ _ (⟨_,Op.load 35 _,_,_,_,_⟩::_) _ _;refine zag _ rfl 35 _ rfl _ rfl _ HLD.out ?_;go_simp))
   go_ret
   exact KP.mk (by rw [← HG2.out];rfl) HB.out
 ·have e0:C0.cu m.t=false:=by simpa using e0
  have HG2:Hid (11=g):=by have:=HG.out;rw [if_neg (ff e0)] at this;exact this
  clear HG
  go_wp2_with (first | (go_at_call 34;refine (zgi _ _ (by first | exact e0) _).mono ?_;rintro e w2 ⟨rfl,rfl⟩) | (go_at_call 35;refine (zbk _ _ (by first | exact e1) _).mono ?_;rintro e w2 ⟨rfl,rfl⟩) | (guard_target =~ wpList _ _ _ (⟨_,Op.load 35 _,_,_,_,_⟩::_) _ _;refine zag _ rfl 35 _ rfl _ rfl _ HLD.out ?_;go_simp))
  go_ret
  exact KP.mk (by rw [← HG2.out];rfl) HB.out
theorem zox (m:Mg) (pa ia ca ba:Option Addr) (pc ic cc bc:Nat) (hk:m.k=7) (w:World)  (g:Nat) (hg:(if mbr m.mem=true then if sgn m.n=true then C0.is m.t else 1 else 1)=g):Calls Tryz.prog 13 #[.agg (mcs m pa ia ca ba pc ic cc bc)] w (KP (.int .i64 g) w):=by
 have HG:Hid ((if mbr m.mem=true then if sgn m.n=true then C0.is m.t else 1 else 1)=g):=hg
 clear hg
 have HR:Hid (∀W,Below w.heap.size w W→Calls Tryz.prog 37 #[.agg (mcs m pa ia ca ba pc ic cc bc)] W (KP (.int .i64 ((if sgn m.n=true then C0.is m.t else 1:Nat):Int)) W)):=fun W hb=>zvs m pa ia ca ba pc ic cc bc hk W  _ rfl
 generalize (if sgn m.n=true then C0.is m.t else 1:Nat)=gr at *
 have HX0:Hid (Bx (w.alloc (.cells (mcs m pa ia ca ba pc ic cc bc) 35)) w.heap.size (mcs m pa ia ca ba pc ic cc bc) 35):=Bx.new _ _ _
 have HB0:Hid (Below w.heap.size w (w.alloc (.cells (mcs m pa ia ca ba pc ic cc bc) 35))):=zab w _
 have hsz:(mcs m pa ia ca ba pc ic cc bc).size=36:=zac m pa ia ca ba pc ic cc bc
 go_enter Tryz.func13,Tryz.ntmps13
 go_upto_region 1 with fail
 generalize hw1:w.alloc (.cells (mcs m pa ia ca ba pc ic cc bc) 35)=w1 at *
 have HX:Hid (Bx w1 w.heap.size (mcs m pa ia ca ba pc ic cc bc) 35):=HX0.out
 have HB:Hid (Below w.heap.size w w1):=HB0.out
 have HLD:Hid ((Instr.loadAt 35 (.pointer (some ⟨w.heap.size,0,none⟩))).run Tryz.prog w1=.ok (.agg (mcs m pa ia ca ba pc ic cc bc)) w1):=zam w1 w.heap.size (mcs m pa ia ca ba pc ic cc bc) (zac m pa ia ca ba pc ic cc bc) HX.out
 clear HX0 HB0 hw1
 have c0:w1.cell? ⟨w.heap.size,0,none⟩=some (.int .i64 7):=by rw [← hk];exact HX.out.cell 0
 have c1:w1.cell? ⟨w.heap.size,1,none⟩=some (.int .i64 m.mem):=HX.out.cell 1
 by_cases e1:mbr m.mem=true
 ·have HG2:Hid (gr=g):=by have:=HG.out;rw [if_pos e1] at this;exact this
  clear HG
  go_wp2_with (first | (go_at_call 35;refine (zbk _ _ (by first | exact e1) _).mono ?_;rintro e w2 ⟨rfl,rfl⟩) | (guard_target =~ wpList _ _ _ (⟨_,Op.load 35 _,_,_,_,_⟩::_) _ _;refine zag _ rfl 35 _ rfl _ rfl _ HLD.out ?_;go_simp))
  refine (HR.out _ HB.out).mono ?_
  rintro e w2 ⟨rfl,hb⟩
  have HB2:Hid (Below w.heap.size w w2):=bt HB.out hb.out
  clear hb
  go_wp2_with fail
  go_ret
  exact KP.mk (by rw [← HG2.out];rfl) HB2.out
 ·have e1:mbr m.mem=false:=by simpa using e1
  have HG2:Hid (1=g):=by have:=HG.out;rw [if_neg (ff e1)] at this;exact this
  clear HG
  go_wp2_with (first | (go_at_call 35;refine (zbk _ _ (by first | exact e1) _).mono ?_;rintro e w2 ⟨rfl,rfl⟩) | (guard_target =~ wpList _ _ _ (⟨_,Op.load 35 _,_,_,_,_⟩::_) _ _;refine zag _ rfl 35 _ rfl _ rfl _ HLD.out ?_;go_simp))
  go_ret
  exact KP.mk (by rw [← HG2.out];rfl) HB.out
theorem zoy (m:Mg) (pa ia ca ba:Option Addr) (pc ic cc bc:Nat) (hk:m.k=9) (w:World)  (g:Nat) (hg:(if mbr m.mem=true then if amt m.n=true then 0 else 1 else 1)=g):Calls Tryz.prog 13 #[.agg (mcs m pa ia ca ba pc ic cc bc)] w (KP (.int .i64 g) w):=by
 have HG:Hid ((if mbr m.mem=true then if amt m.n=true then 0 else 1 else 1)=g):=hg
 clear hg
 have HR:Hid (∀W,Below w.heap.size w W→Calls Tryz.prog 37 #[.agg (mcs m pa ia ca ba pc ic cc bc)] W (KP (.int .i64 ((if amt m.n=true then 0 else 1:Nat):Int)) W)):=fun W hb=>zvt m pa ia ca ba pc ic cc bc hk W  _ rfl
 generalize (if amt m.n=true then 0 else 1:Nat)=gr at *
 have HX0:Hid (Bx (w.alloc (.cells (mcs m pa ia ca ba pc ic cc bc) 35)) w.heap.size (mcs m pa ia ca ba pc ic cc bc) 35):=Bx.new _ _ _
 have HB0:Hid (Below w.heap.size w (w.alloc (.cells (mcs m pa ia ca ba pc ic cc bc) 35))):=zab w _
 have hsz:(mcs m pa ia ca ba pc ic cc bc).size=36:=zac m pa ia ca ba pc ic cc bc
 go_enter Tryz.func13,Tryz.ntmps13
 go_upto_region 1 with fail
 generalize hw1:w.alloc (.cells (mcs m pa ia ca ba pc ic cc bc) 35)=w1 at *
 have HX:Hid (Bx w1 w.heap.size (mcs m pa ia ca ba pc ic cc bc) 35):=HX0.out
 have HB:Hid (Below w.heap.size w w1):=HB0.out
 have HLD:Hid ((Instr.loadAt 35 (.pointer (some ⟨w.heap.size,0,none⟩))).run Tryz.prog w1=.ok (.agg (mcs m pa ia ca ba pc ic cc bc)) w1):=zam w1 w.heap.size (mcs m pa ia ca ba pc ic cc bc) (zac m pa ia ca ba pc ic cc bc) HX.out
 clear HX0 HB0 hw1
 have c0:w1.cell? ⟨w.heap.size,0,none⟩=some (.int .i64 9):=by rw [← hk];exact HX.out.cell 0
 have c1:w1.cell? ⟨w.heap.size,1,none⟩=some (.int .i64 m.mem):=HX.out.cell 1
 by_cases e1:mbr m.mem=true
 ·have HG2:Hid (gr=g):=by have:=HG.out;rw [if_pos e1] at this;exact this
  clear HG
  go_wp2_with (first | (go_at_call 35;refine (zbk _ _ (by first | exact e1) _).mono ?_;rintro e w2 ⟨rfl,rfl⟩) | (guard_target =~ wpList _ _ _ (⟨_,Op.load 35 _,_,_,_,_⟩::_) _ _;refine zag _ rfl 35 _ rfl _ rfl _ HLD.out ?_;go_simp))
  refine (HR.out _ HB.out).mono ?_
  rintro e w2 ⟨rfl,hb⟩
  have HB2:Hid (Below w.heap.size w w2):=bt HB.out hb.out
  clear hb
  go_wp2_with fail
  go_ret
  exact KP.mk (by rw [← HG2.out];rfl) HB2.out
 ·have e1:mbr m.mem=false:=by simpa using e1
  have HG2:Hid (1=g):=by have:=HG.out;rw [if_neg (ff e1)] at this;exact this
  clear HG
  go_wp2_with (first | (go_at_call 35;refine (zbk _ _ (by first | exact e1) _).mono ?_;rintro e w2 ⟨rfl,rfl⟩) | (guard_target =~ wpList _ _ _ (⟨_,Op.load 35 _,_,_,_,_⟩::_) _ _;refine zag _ rfl 35 _ rfl _ rfl _ HLD.out ?_;go_simp))
  go_ret
  exact KP.mk (by rw [← HG2.out];rfl) HB.out
theorem zkg (m:Mg) (pa ia ca ba:Option Addr) (pc ic cc bc:Nat) (hk:m.k=10) (w:World)  (g:Nat) (hg:(if mbr m.mem=true then if amt m.tr=true then zb0 C0 m.day else 1 else 1)=g):Calls Tryz.prog 13 #[.agg (mcs m pa ia ca ba pc ic cc bc)] w (KP (.int .i64 g) w):=by
 have HG:Hid ((if mbr m.mem=true then if amt m.tr=true then zb0 C0 m.day else 1 else 1)=g):=hg
 clear hg
 have HR:Hid (∀W,Below w.heap.size w W→Calls Tryz.prog 37 #[.agg (mcs m pa ia ca ba pc ic cc bc)] W (KP (.int .i64 ((if amt m.tr=true then zb0 C0 m.day else 1:Nat):Int)) W)):=fun W hb=>zsu m pa ia ca ba pc ic cc bc hk W  _ rfl
 generalize (if amt m.tr=true then zb0 C0 m.day else 1:Nat)=gr at *
 have HX0:Hid (Bx (w.alloc (.cells (mcs m pa ia ca ba pc ic cc bc) 35)) w.heap.size (mcs m pa ia ca ba pc ic cc bc) 35):=Bx.new _ _ _
 have HB0:Hid (Below w.heap.size w (w.alloc (.cells (mcs m pa ia ca ba pc ic cc bc) 35))):=zab w _
 have hsz:(mcs m pa ia ca ba pc ic cc bc).size=36:=zac m pa ia ca ba pc ic cc bc
 go_enter Tryz.func13,Tryz.ntmps13
 go_upto_region 1 with fail
 generalize hw1:w.alloc (.cells (mcs m pa ia ca ba pc ic cc bc) 35)=w1 at *
 have HX:Hid (Bx w1 w.heap.size (mcs m pa ia ca ba pc ic cc bc) 35):=HX0.out
 have HB:Hid (Below w.heap.size w w1):=HB0.out
 have HLD:Hid ((Instr.loadAt 35 (.pointer (some ⟨w.heap.size,0,none⟩))).run Tryz.prog w1=.ok (.agg (mcs m pa ia ca ba pc ic cc bc)) w1):=zam w1 w.heap.size (mcs m pa ia ca ba pc ic cc bc) (zac m pa ia ca ba pc ic cc bc) HX.out
 clear HX0 HB0 hw1
 have c0:w1.cell? ⟨w.heap.size,0,none⟩=some (.int .i64 10):=by rw [← hk];exact HX.out.cell 0
 have c1:w1.cell? ⟨w.heap.size,1,none⟩=some (.int .i64 m.mem):=HX.out.cell 1
 by_cases e1:mbr m.mem=true
 ·have HG2:Hid (gr=g):=by have:=HG.out;rw [if_pos e1] at this;exact this
  clear HG
  go_wp2_with (first | (go_at_call 35;refine (zbk _ _ (by first | exact e1) _).mono ?_;rintro e w2 ⟨rfl,rfl⟩) | (guard_target =~ wpList _ _ _ (⟨_,Op.load 35 _,_,_,_,_⟩::_) _ _;refine zag _ rfl 35 _ rfl _ rfl _ HLD.out ?_;go_simp))
  refine (HR.out _ HB.out).mono ?_
  rintro e w2 ⟨rfl,hb⟩
  have HB2:Hid (Below w.heap.size w w2):=bt HB.out hb.out
  clear hb
  go_wp2_with fail
  go_ret
  exact KP.mk (by rw [← HG2.out];rfl) HB2.out
 ·have e1:mbr m.mem=false:=by simpa using e1
  have HG2:Hid (1=g):=by have:=HG.out;rw [if_neg (ff e1)] at this;exact this
  clear HG
  go_wp2_with (first | (go_at_call 35;refine (zbk _ _ (by first | exact e1) _).mono ?_;rintro e w2 ⟨rfl,rfl⟩) | (guard_target =~ wpList _ _ _ (⟨_,Op.load 35 _,_,_,_,_⟩::_) _ _;refine zag _ rfl 35 _ rfl _ rfl _ HLD.out ?_;go_simp))
  go_ret
  exact KP.mk (by rw [← HG2.out];rfl) HB.out
theorem zkh (m:Mg) (pa ia ca ba:Option Addr) (pc ic cc bc:Nat) (hk:m.k=11) (w:World) (hL:Lts w.heap.size w ia m.ins) (hl:m.ins.length≤9223372036854775807) (g:Nat) (hg:(if mbr m.mem=true then if amt m.tr=true then if decide (m.ins.length≤64)=true then zb3 C0 (m.out::m.ins) else 1 else 1 else 1)=g):Calls Tryz.prog 13 #[.agg (mcs m pa ia ca ba pc ic cc bc)] w (KP (.int .i64 g) w):=by
 have HG:Hid ((if mbr m.mem=true then if amt m.tr=true then if decide (m.ins.length≤64)=true then zb3 C0 (m.out::m.ins) else 1 else 1 else 1)=g):=hg
 clear hg
 have HR:Hid (∀W,Below w.heap.size w W→Calls Tryz.prog 37 #[.agg (mcs m pa ia ca ba pc ic cc bc)] W (KP (.int .i64 ((if amt m.tr=true then if decide (m.ins.length≤64)=true then zb3 C0 (m.out::m.ins) else 1 else 1:Nat):Int)) W)):=fun W hb=>zsz m pa ia ca ba pc ic cc bc hk W ((hL.keep hb).mono hb.size) hl _ rfl
 generalize (if amt m.tr=true then if decide (m.ins.length≤64)=true then zb3 C0 (m.out::m.ins) else 1 else 1:Nat)=gr at *
 have HX0:Hid (Bx (w.alloc (.cells (mcs m pa ia ca ba pc ic cc bc) 35)) w.heap.size (mcs m pa ia ca ba pc ic cc bc) 35):=Bx.new _ _ _
 have HB0:Hid (Below w.heap.size w (w.alloc (.cells (mcs m pa ia ca ba pc ic cc bc) 35))):=zab w _
 have hsz:(mcs m pa ia ca ba pc ic cc bc).size=36:=zac m pa ia ca ba pc ic cc bc
 go_enter Tryz.func13,Tryz.ntmps13
 go_upto_region 1 with fail
 generalize hw1:w.alloc (.cells (mcs m pa ia ca ba pc ic cc bc) 35)=w1 at *
 have HX:Hid (Bx w1 w.heap.size (mcs m pa ia ca ba pc ic cc bc) 35):=HX0.out
 have HB:Hid (Below w.heap.size w w1):=HB0.out
 have HLD:Hid ((Instr.loadAt 35 (.pointer (some ⟨w.heap.size,0,none⟩))).run Tryz.prog w1=.ok (.agg (mcs m pa ia ca ba pc ic cc bc)) w1):=zam w1 w.heap.size (mcs m pa ia ca ba pc ic cc bc) (zac m pa ia ca ba pc ic cc bc) HX.out
 clear HX0 HB0 hw1
 have c0:w1.cell? ⟨w.heap.size,0,none⟩=some (.int .i64 11):=by rw [← hk];exact HX.out.cell 0
 have c1:w1.cell? ⟨w.heap.size,1,none⟩=some (.int .i64 m.mem):=HX.out.cell 1
 by_cases e1:mbr m.mem=true
 ·have HG2:Hid (gr=g):=by have:=HG.out;rw [if_pos e1] at this;exact this
  clear HG
  go_wp2_with (first | (go_at_call 35;refine (zbk _ _ (by first | exact e1) _).mono ?_;rintro e w2 ⟨rfl,rfl⟩) | (guard_target =~ wpList _ _ _ (⟨_,Op.load 35 _,_,_,_,_⟩::_) _ _;refine zag _ rfl 35 _ rfl _ rfl _ HLD.out ?_;go_simp))
  refine (HR.out _ HB.out).mono ?_
  rintro e w2 ⟨rfl,hb⟩
  have HB2:Hid (Below w.heap.size w w2):=bt HB.out hb.out
  clear hb
  go_wp2_with fail
  go_ret
  exact KP.mk (by rw [← HG2.out];rfl) HB2.out
 ·have e1:mbr m.mem=false:=by simpa using e1
  have HG2:Hid (1=g):=by have:=HG.out;rw [if_neg (ff e1)] at this;exact this
  clear HG
  go_wp2_with (first | (go_at_call 35;refine (zbk _ _ (by first | exact e1) _).mono ?_;rintro e w2 ⟨rfl,rfl⟩) | (guard_target =~ wpList _ _ _ (⟨_,Op.load 35 _,_,_,_,_⟩::_) _ _;refine zag _ rfl 35 _ rfl _ rfl _ HLD.out ?_;go_simp))
  go_ret
  exact KP.mk (by rw [← HG2.out];rfl) HB.out
theorem zki (m:Mg) (pa ia ca ba:Option Addr) (pc ic cc bc:Nat) (hk:m.k=12) (w:World)  (g:Nat) (hg:(if mbr m.mem=true then zb0 C0 m.day else 1)=g):Calls Tryz.prog 13 #[.agg (mcs m pa ia ca ba pc ic cc bc)] w (KP (.int .i64 g) w):=by
 have HG:Hid ((if mbr m.mem=true then zb0 C0 m.day else 1)=g):=hg
 clear hg
 have HR:Hid (∀W,Below w.heap.size w W→Calls Tryz.prog 37 #[.agg (mcs m pa ia ca ba pc ic cc bc)] W (KP (.int .i64 ((zb0 C0 m.day:Nat):Int)) W)):=fun W hb=>zsv m pa ia ca ba pc ic cc bc hk W  _ rfl
 generalize (zb0 C0 m.day:Nat)=gr at *
 have HX0:Hid (Bx (w.alloc (.cells (mcs m pa ia ca ba pc ic cc bc) 35)) w.heap.size (mcs m pa ia ca ba pc ic cc bc) 35):=Bx.new _ _ _
 have HB0:Hid (Below w.heap.size w (w.alloc (.cells (mcs m pa ia ca ba pc ic cc bc) 35))):=zab w _
 have hsz:(mcs m pa ia ca ba pc ic cc bc).size=36:=zac m pa ia ca ba pc ic cc bc
 go_enter Tryz.func13,Tryz.ntmps13
 go_upto_region 1 with fail
 generalize hw1:w.alloc (.cells (mcs m pa ia ca ba pc ic cc bc) 35)=w1 at *
 have HX:Hid (Bx w1 w.heap.size (mcs m pa ia ca ba pc ic cc bc) 35):=HX0.out
 have HB:Hid (Below w.heap.size w w1):=HB0.out
 have HLD:Hid ((Instr.loadAt 35 (.pointer (some ⟨w.heap.size,0,none⟩))).run Tryz.prog w1=.ok (.agg (mcs m pa ia ca ba pc ic cc bc)) w1):=zam w1 w.heap.size (mcs m pa ia ca ba pc ic cc bc) (zac m pa ia ca ba pc ic cc bc) HX.out
 clear HX0 HB0 hw1
 have c0:w1.cell? ⟨w.heap.size,0,none⟩=some (.int .i64 12):=by rw [← hk];exact HX.out.cell 0
 have c1:w1.cell? ⟨w.heap.size,1,none⟩=some (.int .i64 m.mem):=HX.out.cell 1
 by_cases e1:mbr m.mem=true
 ·have HG2:Hid (gr=g):=by have:=HG.out;rw [if_pos e1] at this;exact this
  clear HG
  go_wp2_with (first | (go_at_call 35;refine (zbk _ _ (by first | exact e1) _).mono ?_;rintro e w2 ⟨rfl,rfl⟩) | (guard_target =~ wpList _ _ _ (⟨_,Op.load 35 _,_,_,_,_⟩::_) _ _;refine zag _ rfl 35 _ rfl _ rfl _ HLD.out ?_;go_simp))
  refine (HR.out _ HB.out).mono ?_
  rintro e w2 ⟨rfl,hb⟩
  have HB2:Hid (Below w.heap.size w w2):=bt HB.out hb.out
  clear hb
  go_wp2_with fail
  go_ret
  exact KP.mk (by rw [← HG2.out];rfl) HB2.out
 ·have e1:mbr m.mem=false:=by simpa using e1
  have HG2:Hid (1=g):=by have:=HG.out;rw [if_neg (ff e1)] at this;exact this
  clear HG
  go_wp2_with (first | (go_at_call 35;refine (zbk _ _ (by first | exact e1) _).mono ?_;rintro e w2 ⟨rfl,rfl⟩) | (guard_target =~ wpList _ _ _ (⟨_,Op.load 35 _,_,_,_,_⟩::_) _ _;refine zag _ rfl 35 _ rfl _ rfl _ HLD.out ?_;go_simp))
  go_ret
  exact KP.mk (by rw [← HG2.out];rfl) HB.out
theorem zkj (m:Mg) (pa ia ca ba:Option Addr) (pc ic cc bc:Nat) (hk:m.k=13) (w:World)  (g:Nat) (hg:(if mbr m.mem=true then 0 else 1)=g):Calls Tryz.prog 13 #[.agg (mcs m pa ia ca ba pc ic cc bc)] w (KP (.int .i64 g) w):=by
 have HG:Hid ((if mbr m.mem=true then 0 else 1)=g):=hg
 clear hg
 have HR:Hid (∀W,Below w.heap.size w W→Calls Tryz.prog 37 #[.agg (mcs m pa ia ca ba pc ic cc bc)] W (KP (.int .i64 ((0:Nat):Int)) W)):=fun W hb=>zsw m pa ia ca ba pc ic cc bc hk W 0 rfl
 have HX0:Hid (Bx (w.alloc (.cells (mcs m pa ia ca ba pc ic cc bc) 35)) w.heap.size (mcs m pa ia ca ba pc ic cc bc) 35):=Bx.new _ _ _
 have HB0:Hid (Below w.heap.size w (w.alloc (.cells (mcs m pa ia ca ba pc ic cc bc) 35))):=zab w _
 have hsz:(mcs m pa ia ca ba pc ic cc bc).size=36:=zac m pa ia ca ba pc ic cc bc
 go_enter Tryz.func13,Tryz.ntmps13
 go_upto_region 1 with fail
 generalize hw1:w.alloc (.cells (mcs m pa ia ca ba pc ic cc bc) 35)=w1 at *
 have HX:Hid (Bx w1 w.heap.size (mcs m pa ia ca ba pc ic cc bc) 35):=HX0.out
 have HB:Hid (Below w.heap.size w w1):=HB0.out
 have HLD:Hid ((Instr.loadAt 35 (.pointer (some ⟨w.heap.size,0,none⟩))).run Tryz.prog w1=.ok (.agg (mcs m pa ia ca ba pc ic cc bc)) w1):=zam w1 w.heap.size (mcs m pa ia ca ba pc ic cc bc) (zac m pa ia ca ba pc ic cc bc) HX.out
 clear HX0 HB0 hw1
 have c0:w1.cell? ⟨w.heap.size,0,none⟩=some (.int .i64 13):=by rw [← hk];exact HX.out.cell 0
 have c1:w1.cell? ⟨w.heap.size,1,none⟩=some (.int .i64 m.mem):=HX.out.cell 1
 by_cases e1:mbr m.mem=true
 ·have HG2:Hid (0=g):=by have:=HG.out;rw [if_pos e1] at this;exact this
  clear HG
  go_wp2_with (first | (go_at_call 35;refine (zbk _ _ (by first | exact e1) _).mono ?_;rintro e w2 ⟨rfl,rfl⟩) | (guard_target =~ wpList _ _ _ (⟨_,Op.load 35 _,_,_,_,_⟩::_) _ _;refine zag _ rfl 35 _ rfl _ rfl _ HLD.out ?_;go_simp))
  refine (HR.out _ HB.out).mono ?_
  rintro e w2 ⟨rfl,hb⟩
  have HB2:Hid (Below w.heap.size w w2):=bt HB.out hb.out
  clear hb
  go_wp2_with fail
  go_ret
  exact KP.mk (by rw [← HG2.out];rfl) HB2.out
 ·have e1:mbr m.mem=false:=by simpa using e1
  have HG2:Hid (1=g):=by have:=HG.out;rw [if_neg (ff e1)] at this;exact this
  clear HG
  go_wp2_with (first | (go_at_call 35;refine (zbk _ _ (by first | exact e1) _).mono ?_;rintro e w2 ⟨rfl,rfl⟩) | (guard_target =~ wpList _ _ _ (⟨_,Op.load 35 _,_,_,_,_⟩::_) _ _;refine zag _ rfl 35 _ rfl _ rfl _ HLD.out ?_;go_simp))
  go_ret
  exact KP.mk (by rw [← HG2.out];rfl) HB.out
theorem zkk (m:Mg) (pa ia ca ba:Option Addr) (pc ic cc bc:Nat) (hk:m.k=14) (w:World)  (g:Nat) (hg:(if mbr m.mem=true then if inn m.n 0 1125899906842624=true then 0 else 1 else 1)=g):Calls Tryz.prog 13 #[.agg (mcs m pa ia ca ba pc ic cc bc)] w (KP (.int .i64 g) w):=by
 have HG:Hid ((if mbr m.mem=true then if inn m.n 0 1125899906842624=true then 0 else 1 else 1)=g):=hg
 clear hg
 have HR:Hid (∀W,Below w.heap.size w W→Calls Tryz.prog 37 #[.agg (mcs m pa ia ca ba pc ic cc bc)] W (KP (.int .i64 ((if inn m.n 0 1125899906842624=true then 0 else 1:Nat):Int)) W)):=fun W hb=>zsx m pa ia ca ba pc ic cc bc hk W  _ rfl
 generalize (if inn m.n 0 1125899906842624=true then 0 else 1:Nat)=gr at *
 have HX0:Hid (Bx (w.alloc (.cells (mcs m pa ia ca ba pc ic cc bc) 35)) w.heap.size (mcs m pa ia ca ba pc ic cc bc) 35):=Bx.new _ _ _
 have HB0:Hid (Below w.heap.size w (w.alloc (.cells (mcs m pa ia ca ba pc ic cc bc) 35))):=zab w _
 have hsz:(mcs m pa ia ca ba pc ic cc bc).size=36:=zac m pa ia ca ba pc ic cc bc
 go_enter Tryz.func13,Tryz.ntmps13
 go_upto_region 1 with fail
 generalize hw1:w.alloc (.cells (mcs m pa ia ca ba pc ic cc bc) 35)=w1 at *
 have HX:Hid (Bx w1 w.heap.size (mcs m pa ia ca ba pc ic cc bc) 35):=HX0.out
 have HB:Hid (Below w.heap.size w w1):=HB0.out
 have HLD:Hid ((Instr.loadAt 35 (.pointer (some ⟨w.heap.size,0,none⟩))).run Tryz.prog w1=.ok (.agg (mcs m pa ia ca ba pc ic cc bc)) w1):=zam w1 w.heap.size (mcs m pa ia ca ba pc ic cc bc) (zac m pa ia ca ba pc ic cc bc) HX.out
 clear HX0 HB0 hw1
 have c0:w1.cell? ⟨w.heap.size,0,none⟩=some (.int .i64 14):=by rw [← hk];exact HX.out.cell 0
 have c1:w1.cell? ⟨w.heap.size,1,none⟩=some (.int .i64 m.mem):=HX.out.cell 1
 by_cases e1:mbr m.mem=true
 ·have HG2:Hid (gr=g):=by have:=HG.out;rw [if_pos e1] at this;exact this
  clear HG
  go_wp2_with (first | (go_at_call 35;refine (zbk _ _ (by first | exact e1) _).mono ?_;rintro e w2 ⟨rfl,rfl⟩) | (guard_target =~ wpList _ _ _ (⟨_,Op.load 35 _,_,_,_,_⟩::_) _ _;refine zag _ rfl 35 _ rfl _ rfl _ HLD.out ?_;go_simp))
  refine (HR.out _ HB.out).mono ?_
  rintro e w2 ⟨rfl,hb⟩
  have HB2:Hid (Below w.heap.size w w2):=bt HB.out hb.out
  clear hb
  go_wp2_with fail
  go_ret
  exact KP.mk (by rw [← HG2.out];rfl) HB2.out
 ·have e1:mbr m.mem=false:=by simpa using e1
  have HG2:Hid (1=g):=by have:=HG.out;rw [if_neg (ff e1)] at this;exact this
  clear HG
  go_wp2_with (first | (go_at_call 35;refine (zbk _ _ (by first | exact e1) _).mono ?_;rintro e w2 ⟨rfl,rfl⟩) | (guard_target =~ wpList _ _ _ (⟨_,Op.load 35 _,_,_,_,_⟩::_) _ _;refine zag _ rfl 35 _ rfl _ rfl _ HLD.out ?_;go_simp))
  go_ret
  exact KP.mk (by rw [← HG2.out];rfl) HB.out
theorem zkl (m:Mg) (pa ia ca ba:Option Addr) (pc ic cc bc:Nat) (hk:m.k=15) (w:World)  (g:Nat) (hg:(if amt m.tr=true then if inn m.rate (-1000000) 1000000=true then zb0 C0 m.day else 1 else 1)=g):Calls Tryz.prog 13 #[.agg (mcs m pa ia ca ba pc ic cc bc)] w (KP (.int .i64 g) w):=by
 have HG:Hid ((if amt m.tr=true then if inn m.rate (-1000000) 1000000=true then zb0 C0 m.day else 1 else 1)=g):=hg
 clear hg
 have HR:Hid (∀W,Below w.heap.size w W→Calls Tryz.prog 37 #[.agg (mcs m pa ia ca ba pc ic cc bc)] W (KP (.int .i64 ((if amt m.tr=true then if inn m.rate (-1000000) 1000000=true then zb0 C0 m.day else 1 else 1:Nat):Int)) W)):=fun W hb=>zsy m pa ia ca ba pc ic cc bc hk W  _ rfl
 generalize (if amt m.tr=true then if inn m.rate (-1000000) 1000000=true then zb0 C0 m.day else 1 else 1:Nat)=gr at *
 have HX0:Hid (Bx (w.alloc (.cells (mcs m pa ia ca ba pc ic cc bc) 35)) w.heap.size (mcs m pa ia ca ba pc ic cc bc) 35):=Bx.new _ _ _
 have HB0:Hid (Below w.heap.size w (w.alloc (.cells (mcs m pa ia ca ba pc ic cc bc) 35))):=zab w _
 have hsz:(mcs m pa ia ca ba pc ic cc bc).size=36:=zac m pa ia ca ba pc ic cc bc
 go_enter Tryz.func13,Tryz.ntmps13
 go_upto_region 1 with fail
 generalize hw1:w.alloc (.cells (mcs m pa ia ca ba pc ic cc bc) 35)=w1 at *
 have HX:Hid (Bx w1 w.heap.size (mcs m pa ia ca ba pc ic cc bc) 35):=HX0.out
 have HB:Hid (Below w.heap.size w w1):=HB0.out
 have HLD:Hid ((Instr.loadAt 35 (.pointer (some ⟨w.heap.size,0,none⟩))).run Tryz.prog w1=.ok (.agg (mcs m pa ia ca ba pc ic cc bc)) w1):=zam w1 w.heap.size (mcs m pa ia ca ba pc ic cc bc) (zac m pa ia ca ba pc ic cc bc) HX.out
 clear HX0 HB0 hw1
 have c0:w1.cell? ⟨w.heap.size,0,none⟩=some (.int .i64 15):=by rw [← hk];exact HX.out.cell 0
 have HG2:Hid (gr=g):=by have:=HG.out;exact this
 clear HG
 go_wp2_with (first | (guard_target =~ wpList _ _ _ (⟨_,Op.load 35 _,_,_,_,_⟩::_) _ _;refine zag _ rfl 35 _ rfl _ rfl _ HLD.out ?_;go_simp))
 refine (HR.out _ HB.out).mono ?_
 rintro e w2 ⟨rfl,hb⟩
 have HB2:Hid (Below w.heap.size w w2):=bt HB.out hb.out
 clear hb
 go_wp2_with fail
 go_ret
 exact KP.mk (by rw [← HG2.out];rfl) HB2.out
theorem zoz (m:Mg) (pa ia ca ba:Option Addr) (pc ic cc bc:Nat) (hk:m.k=2) (w:World)  (g:Nat) (hg:(C0.ast m.a)=g):Calls Tryz.prog 13 #[.agg (mcs m pa ia ca ba pc ic cc bc)] w (KP (.int .i64 g) w):=by
 have HG:Hid ((C0.ast m.a)=g):=hg
 clear hg
 have HC:Hid (∀w,Calls Tryz.prog 31 #[.agg #[.string ⟨m.a.i.toArray⟩,.int .i64 m.a.iss,.int .i64 m.a.rat,.int .i64 m.a.mat,.string ⟨m.a.cur.toArray⟩]] w (NB (C0.ast m.a:Nat) w)):=fun w=>zre m.a _ rfl w
 generalize C0.ast m.a=dd at *
 have HX0:Hid (Bx (w.alloc (.cells (mcs m pa ia ca ba pc ic cc bc) 35)) w.heap.size (mcs m pa ia ca ba pc ic cc bc) 35):=Bx.new _ _ _
 have HB0:Hid (Below w.heap.size w (w.alloc (.cells (mcs m pa ia ca ba pc ic cc bc) 35))):=zab w _
 have hsz:(mcs m pa ia ca ba pc ic cc bc).size=36:=zac m pa ia ca ba pc ic cc bc
 go_enter Tryz.func13,Tryz.ntmps13
 go_upto_region 1 with fail
 generalize hw1:w.alloc (.cells (mcs m pa ia ca ba pc ic cc bc) 35)=w1 at *
 have HX:Hid (Bx w1 w.heap.size (mcs m pa ia ca ba pc ic cc bc) 35):=HX0.out
 have HB:Hid (Below w.heap.size w w1):=HB0.out
 have HLD:Hid ((Instr.loadAt 35 (.pointer (some ⟨w.heap.size,0,none⟩))).run Tryz.prog w1=.ok (.agg (mcs m pa ia ca ba pc ic cc bc)) w1):=zam w1 w.heap.size (mcs m pa ia ca ba pc ic cc bc) (zac m pa ia ca ba pc ic cc bc) HX.out
 clear HX0 HB0 hw1
 have c0:w1.cell? ⟨w.heap.size,0,none⟩=some (.int .i64 2):=by rw [← hk];exact HX.out.cell 0
 have c3:w1.cell? ⟨w.heap.size,3,none⟩=some (.string ⟨m.a.i.toArray⟩):=HX.out.cell 3
 have c4:w1.cell? ⟨w.heap.size,4,none⟩=some (.int .i64 m.a.iss):=HX.out.cell 4
 have c5:w1.cell? ⟨w.heap.size,5,none⟩=some (.int .i64 m.a.rat):=HX.out.cell 5
 have c6:w1.cell? ⟨w.heap.size,6,none⟩=some (.int .i64 m.a.mat):=HX.out.cell 6
 have c7:w1.cell? ⟨w.heap.size,7,none⟩=some (.string ⟨m.a.cur.toArray⟩):=HX.out.cell 7
 have HG2:Hid (dd=g):=by have:=HG.out;exact this
 clear HG
 go_wp2_with fail
 refine (HC.out _).mono ?_
 rintro e w2 ⟨rfl,hb⟩
 have HB2:Hid (Below w.heap.size w w2):=bt HB.out hb.out
 clear hb
 go_wp2_with fail
 go_ret
 exact KP.mk (by rw [← HG2.out];rfl) HB2.out
theorem zo0 (m:Mg) (pa ia ca ba:Option Addr) (pc ic cc bc:Nat) (hk:m.k=3) (w:World) (hC:Cts w.heap.size w ca m.b.cuts) (hI:Ins w.heap.size w ba m.b.bar) (hlc:m.b.cuts.length≤9223372036854775807) (hlb:m.b.bar.length≤9223372036854775807) (g:Nat) (hg:(bkE C0 m.b)=g):Calls Tryz.prog 13 #[.agg (mcs m pa ia ca ba pc ic cc bc)] w (KP (.int .i64 g) w):=by
 have HG:Hid ((bkE C0 m.b)=g):=hg
 clear hg
 have HC:Hid (∀W,Below w.heap.size w W→Calls Tryz.prog 17 #[.agg #[.int .i64 m.b.id,.int .i64 m.b.ver,.string ⟨m.b.cur.toArray⟩,.int .i64 m.b.rat,.int .i64 m.b.least,.int .i64 m.b.most,.slice ca m.b.cuts.length cc,.int .i64 m.b.iss,.int .i64 m.b.ass,.slice ba m.b.bar.length bc]] W (KP (.int .i64 (bkE C0 m.b:Nat)) W)):=fun W hb=>zn7 m.b ca ba cc bc W ((hC.keep hb).mono hb.size) ((hI.keep hb).mono hb.size) hlc hlb _ rfl
 generalize bkE C0 m.b=dd at *
 clear hC hI
 have HX0:Hid (Bx (w.alloc (.cells (mcs m pa ia ca ba pc ic cc bc) 35)) w.heap.size (mcs m pa ia ca ba pc ic cc bc) 35):=Bx.new _ _ _
 have HB0:Hid (Below w.heap.size w (w.alloc (.cells (mcs m pa ia ca ba pc ic cc bc) 35))):=zab w _
 have hsz:(mcs m pa ia ca ba pc ic cc bc).size=36:=zac m pa ia ca ba pc ic cc bc
 go_enter Tryz.func13,Tryz.ntmps13
 go_upto_region 1 with fail
 generalize hw1:w.alloc (.cells (mcs m pa ia ca ba pc ic cc bc) 35)=w1 at *
 have HX:Hid (Bx w1 w.heap.size (mcs m pa ia ca ba pc ic cc bc) 35):=HX0.out
 have HB:Hid (Below w.heap.size w w1):=HB0.out
 have HLD:Hid ((Instr.loadAt 35 (.pointer (some ⟨w.heap.size,0,none⟩))).run Tryz.prog w1=.ok (.agg (mcs m pa ia ca ba pc ic cc bc)) w1):=zam w1 w.heap.size (mcs m pa ia ca ba pc ic cc bc) (zac m pa ia ca ba pc ic cc bc) HX.out
 clear HX0 HB0 hw1
 have c0:w1.cell? ⟨w.heap.size,0,none⟩=some (.int .i64 3):=by rw [← hk];exact HX.out.cell 0
 have c8:w1.cell? ⟨w.heap.size,8,none⟩=some (.int .i64 m.b.id):=HX.out.cell 8
 have c9:w1.cell? ⟨w.heap.size,9,none⟩=some (.int .i64 m.b.ver):=HX.out.cell 9
 have c10:w1.cell? ⟨w.heap.size,10,none⟩=some (.string ⟨m.b.cur.toArray⟩):=HX.out.cell 10
 have c11:w1.cell? ⟨w.heap.size,11,none⟩=some (.int .i64 m.b.rat):=HX.out.cell 11
 have c12:w1.cell? ⟨w.heap.size,12,none⟩=some (.int .i64 m.b.least):=HX.out.cell 12
 have c13:w1.cell? ⟨w.heap.size,13,none⟩=some (.int .i64 m.b.most):=HX.out.cell 13
 have c14:w1.cell? ⟨w.heap.size,14,none⟩=some (.slice ca m.b.cuts.length cc):=HX.out.cell 14
 have c15:w1.cell? ⟨w.heap.size,15,none⟩=some (.int .i64 m.b.iss):=HX.out.cell 15
 have c16:w1.cell? ⟨w.heap.size,16,none⟩=some (.int .i64 m.b.ass):=HX.out.cell 16
 have c17:w1.cell? ⟨w.heap.size,17,none⟩=some (.slice ba m.b.bar.length bc):=HX.out.cell 17
 have HG2:Hid (dd=g):=by have:=HG.out;exact this
 clear HG
 go_wp2_with fail
 refine (HC.out _ HB.out).mono ?_
 rintro e w2 ⟨rfl,hb⟩
 have HB2:Hid (Below w.heap.size w w2):=bt HB.out hb.out
 clear hb
 go_wp2_with fail
 go_ret
 exact KP.mk (by rw [← HG2.out];rfl) HB2.out
theorem zo1 (m:Mg) (pa ia ca ba:Option Addr) (pc ic cc bc:Nat) (hk:m.k=4) (w:World) (hL:Lts w.heap.size w pa m.ps) (hl:m.ps.length≤9223372036854775807) (g:Nat) (hg:(prE C0 m.ps)=g):Calls Tryz.prog 13 #[.agg (mcs m pa ia ca ba pc ic cc bc)] w (KP (.int .i64 g) w):=by
 have HG:Hid ((prE C0 m.ps)=g):=hg
 clear hg
 have HC:Hid (∀W,Below w.heap.size w W→Calls Tryz.prog 32 #[.slice pa m.ps.length pc] W (KP (.int .i64 (prE C0 m.ps:Nat)) W)):=fun W hb=>zod m.ps pa pc W ((hL.keep hb).mono hb.size) hl _ rfl
 generalize prE C0 m.ps=dd at *
 clear hL
 have HX0:Hid (Bx (w.alloc (.cells (mcs m pa ia ca ba pc ic cc bc) 35)) w.heap.size (mcs m pa ia ca ba pc ic cc bc) 35):=Bx.new _ _ _
 have HB0:Hid (Below w.heap.size w (w.alloc (.cells (mcs m pa ia ca ba pc ic cc bc) 35))):=zab w _
 have hsz:(mcs m pa ia ca ba pc ic cc bc).size=36:=zac m pa ia ca ba pc ic cc bc
 go_enter Tryz.func13,Tryz.ntmps13
 go_upto_region 1 with fail
 generalize hw1:w.alloc (.cells (mcs m pa ia ca ba pc ic cc bc) 35)=w1 at *
 have HX:Hid (Bx w1 w.heap.size (mcs m pa ia ca ba pc ic cc bc) 35):=HX0.out
 have HB:Hid (Below w.heap.size w w1):=HB0.out
 have HLD:Hid ((Instr.loadAt 35 (.pointer (some ⟨w.heap.size,0,none⟩))).run Tryz.prog w1=.ok (.agg (mcs m pa ia ca ba pc ic cc bc)) w1):=zam w1 w.heap.size (mcs m pa ia ca ba pc ic cc bc) (zac m pa ia ca ba pc ic cc bc) HX.out
 clear HX0 HB0 hw1
 have c0:w1.cell? ⟨w.heap.size,0,none⟩=some (.int .i64 4):=by rw [← hk];exact HX.out.cell 0
 have c18:w1.cell? ⟨w.heap.size,18,none⟩=some (.slice pa m.ps.length pc):=HX.out.cell 18
 have HG2:Hid (dd=g):=by have:=HG.out;exact this
 clear HG
 go_wp2_with fail
 refine (HC.out _ HB.out).mono ?_
 rintro e w2 ⟨rfl,hb⟩
 have HB2:Hid (Below w.heap.size w w2):=bt HB.out hb.out
 clear hb
 go_wp2_with fail
 go_ret
 exact KP.mk (by rw [← HG2.out];rfl) HB2.out
theorem zo2 (m:Mg) (pa ia ca ba:Option Addr) (pc ic cc bc:Nat) (hk:m.k=5) (w:World)  (g:Nat) (hg:(zb0 C0 m.day)=g):Calls Tryz.prog 13 #[.agg (mcs m pa ia ca ba pc ic cc bc)] w (KP (.int .i64 g) w):=by
 have HG:Hid ((zb0 C0 m.day)=g):=hg
 clear hg
 have HC:Hid (∀w,Calls Tryz.prog 33 #[.int .i64 m.day] w (NP .i64 (zb0 C0 m.day:Nat) w)):=fun w=>zuf m.day _ rfl w
 generalize zb0 C0 m.day=dd at *
 have HX0:Hid (Bx (w.alloc (.cells (mcs m pa ia ca ba pc ic cc bc) 35)) w.heap.size (mcs m pa ia ca ba pc ic cc bc) 35):=Bx.new _ _ _
 have HB0:Hid (Below w.heap.size w (w.alloc (.cells (mcs m pa ia ca ba pc ic cc bc) 35))):=zab w _
 have hsz:(mcs m pa ia ca ba pc ic cc bc).size=36:=zac m pa ia ca ba pc ic cc bc
 go_enter Tryz.func13,Tryz.ntmps13
 go_upto_region 1 with fail
 generalize hw1:w.alloc (.cells (mcs m pa ia ca ba pc ic cc bc) 35)=w1 at *
 have HX:Hid (Bx w1 w.heap.size (mcs m pa ia ca ba pc ic cc bc) 35):=HX0.out
 have HB:Hid (Below w.heap.size w w1):=HB0.out
 have HLD:Hid ((Instr.loadAt 35 (.pointer (some ⟨w.heap.size,0,none⟩))).run Tryz.prog w1=.ok (.agg (mcs m pa ia ca ba pc ic cc bc)) w1):=zam w1 w.heap.size (mcs m pa ia ca ba pc ic cc bc) (zac m pa ia ca ba pc ic cc bc) HX.out
 clear HX0 HB0 hw1
 have c0:w1.cell? ⟨w.heap.size,0,none⟩=some (.int .i64 5):=by rw [← hk];exact HX.out.cell 0
 have c19:w1.cell? ⟨w.heap.size,19,none⟩=some (.int .i64 m.day):=HX.out.cell 19
 have HG2:Hid (dd=g):=by have:=HG.out;exact this
 clear HG
 go_wp2_with fail
 refine (HC.out _).mono ?_
 rintro e w2 ⟨rfl,rfl⟩
 go_wp2_with fail
 go_ret
 exact KP.mk (by rw [← HG2.out];rfl) HB.out
theorem zo3 (m:Mg) (pa ia ca ba:Option Addr) (pc ic cc bc:Nat) (hk:m.k=8) (w:World)  (g:Nat) (hg:(if mbr m.q.mem=true then quE C0 m.q else 1)=g):Calls Tryz.prog 13 #[.agg (mcs m pa ia ca ba pc ic cc bc)] w (KP (.int .i64 g) w):=by
 have HG:Hid ((if mbr m.q.mem=true then quE C0 m.q else 1)=g):=hg
 clear hg
 have HC:Hid (∀w,Calls Tryz.prog 36 #[.agg #[.int .i64 m.q.id,.int .i64 m.q.mem,.int .i64 m.q.side,.int .i64 m.q.bas,.int .i64 m.q.am,.int .i64 m.q.rate,.int .i64 m.q.st,.int .i64 m.q.en]] w (KP (.int .i64 (quE C0 m.q:Nat)) w)):=fun w=>zoc m.q _ rfl w
 generalize quE C0 m.q=dd at *
 have HX0:Hid (Bx (w.alloc (.cells (mcs m pa ia ca ba pc ic cc bc) 35)) w.heap.size (mcs m pa ia ca ba pc ic cc bc) 35):=Bx.new _ _ _
 have HB0:Hid (Below w.heap.size w (w.alloc (.cells (mcs m pa ia ca ba pc ic cc bc) 35))):=zab w _
 have hsz:(mcs m pa ia ca ba pc ic cc bc).size=36:=zac m pa ia ca ba pc ic cc bc
 go_enter Tryz.func13,Tryz.ntmps13
 go_upto_region 1 with fail
 generalize hw1:w.alloc (.cells (mcs m pa ia ca ba pc ic cc bc) 35)=w1 at *
 have HX:Hid (Bx w1 w.heap.size (mcs m pa ia ca ba pc ic cc bc) 35):=HX0.out
 have HB:Hid (Below w.heap.size w w1):=HB0.out
 have HLD:Hid ((Instr.loadAt 35 (.pointer (some ⟨w.heap.size,0,none⟩))).run Tryz.prog w1=.ok (.agg (mcs m pa ia ca ba pc ic cc bc)) w1):=zam w1 w.heap.size (mcs m pa ia ca ba pc ic cc bc) (zac m pa ia ca ba pc ic cc bc) HX.out
 clear HX0 HB0 hw1
 have c0:w1.cell? ⟨w.heap.size,0,none⟩=some (.int .i64 8):=by rw [← hk];exact HX.out.cell 0
 have c22:w1.cell? ⟨w.heap.size,22,none⟩=some (.int .i64 m.q.id):=HX.out.cell 22
 have c23:w1.cell? ⟨w.heap.size,23,none⟩=some (.int .i64 m.q.mem):=HX.out.cell 23
 have c24:w1.cell? ⟨w.heap.size,24,none⟩=some (.int .i64 m.q.side):=HX.out.cell 24
 have c25:w1.cell? ⟨w.heap.size,25,none⟩=some (.int .i64 m.q.bas):=HX.out.cell 25
 have c26:w1.cell? ⟨w.heap.size,26,none⟩=some (.int .i64 m.q.am):=HX.out.cell 26
 have c27:w1.cell? ⟨w.heap.size,27,none⟩=some (.int .i64 m.q.rate):=HX.out.cell 27
 have c28:w1.cell? ⟨w.heap.size,28,none⟩=some (.int .i64 m.q.st):=HX.out.cell 28
 have c29:w1.cell? ⟨w.heap.size,29,none⟩=some (.int .i64 m.q.en):=HX.out.cell 29
 by_cases e1:mbr m.q.mem=true
 ·have HG2:Hid (dd=g):=by have:=HG.out;rw [if_pos e1] at this;exact this
  clear HG
  go_wp2_with (first | (go_at_call 35;refine (zbk _ _ (by first | exact e1) _).mono ?_;rintro e w2 ⟨rfl,rfl⟩))
  refine (HC.out _).mono ?_
  rintro e w2 ⟨rfl,hb⟩
  have HB2:Hid (Below w.heap.size w w2):=bt HB.out hb.out
  clear hb
  go_wp2_with fail
  go_ret
  exact KP.mk (by rw [← HG2.out];rfl) HB2.out
 ·have e1:mbr m.q.mem=false:=by simpa using e1
  have HG2:Hid (1=g):=by have:=HG.out;rw [if_neg (ff e1)] at this;exact this
  clear HG
  go_wp2_with (first | (go_at_call 35;refine (zbk _ _ (by first | exact e1) _).mono ?_;rintro e w2 ⟨rfl,rfl⟩))
  go_ret
  exact KP.mk (by rw [← HG2.out];rfl) HB.out
open Go.ChangeShapes Go.WideShapes
structure Szd (m:Mg):Prop where
 name:m.name.length≤140737488351232
 ai:m.a.i.length≤140737488351232
 ac:m.a.cur.length≤140737488351232
 bc:m.b.cur.length≤140737488351232
 t:m.t.length≤140737488351232
 oi:m.out.i.length≤140737488351232
 ps:∀y ∈ m.ps,y.i.length≤140737488351232
 ins:∀y ∈ m.ins,y.i.length≤140737488351232
 lc:m.b.cuts.length≤9223372036854775807
 lb:m.b.bar.length≤9223372036854775807
 lp:m.ps.length≤9223372036854775807
 li:m.ins.length≤9223372036854775807
structure Hld (B:Nat) (w:World) (m:Mg) (pa ia ca ba:Option Addr):Prop where
 ps:Lts B w pa m.ps
 ins:Lts B w ia m.ins
 cuts:Cts B w ca m.b.cuts
 bar:Ins B w ba m.b.bar
section
variable {H:Type} {enc:TypeId × Value→H} {w:World} {base:Nat} {spare:Nat→Bool} {held:Bool}
end
def TB' (S:ByteArray) (w:World) (e:Ending) (w':World):Prop:=e=.returned (.string S)∧Hid (Below w.heap.size w w')
theorem TB'.of {l:List UInt8} {S:ByteArray} {F:Nat} {a:Array Value} {w:World} (h:Calls Tryz.prog F a w (SB l w)) (hS:S=⟨l.toArray⟩):Calls Tryz.prog F a w (TB' S w):=h.mono fun _ _ ⟨h1,h2⟩=>⟨by rw [hS];exact h1,h2⟩
theorem zmx {P:Program} {l:List Oper} {Q:Exit→Act→World→Prop} {md:Region.Mode} {S:World→Prop} {fuel:Nat} {listed:Array Bool} {a:Act} {w:World} {i j:Nat} {o o2:Oper} (hi:l[i]? = some o) (hj:l[j]? = some o2) (hr:Region.ready md l.toArray listed=[i,j])
  (h:∀K':Act→World→Prop,Shut (∀a w,S w→(S w→wpAnyH P md l.toArray Q S fuel (listed.setIfInBounds i true) a w)→K' a w)→if Region.wanted o (yielded l.toArray a.tmps)=true then Oper.wp P o a w K' Q else K' (a.put o.dst undef) w)
  (h2:∀K':Act→World→Prop,Shut (∀a w,S w→(S w→wpAnyH P md l.toArray Q S fuel (listed.setIfInBounds j true) a w)→K' a w)→if Region.wanted o2 (yielded l.toArray a.tmps)=true then Oper.wp P o2 a w K' Q else K' (a.put o2.dst undef) w) :
  wpAnyH P md l.toArray Q S (fuel+1) listed a w:=
 wpAnyH_ready hr (by simp) (AllReadyH.cons (by rw [List.getElem?_toArray];exact hi) h (AllReadyH.cons (by rw [List.getElem?_toArray];exact hj) h2 AllReadyH.nil))
theorem exl {P:Program} {w:World} (ρ:Operand→Value) (o:Oper) (t:TypeId) (x:Operand) (ho:o.op=.load t x) (p v:Value) (hx:ρ x=p) (h:(Instr.loadAt t p).run P w=.ok v w):(execOp ρ o).run P w=.ok (.value v) w:=by
 unfold execOp
 simp only [ho,hx,Sem.run_bind,Sem.run_pure,Result.andThen_ok,h]
theorem zs0 (W:World) (b:Nat) (v3 v4 v5 v6 v7:Value) (c3:W.cell? ⟨b,3,none⟩=some v3) (c4:W.cell? ⟨b,4,none⟩=some v4) (c5:W.cell? ⟨b,5,none⟩=some v5) (c6:W.cell? ⟨b,6,none⟩=some v6) (c7:W.cell? ⟨b,7,none⟩=some v7):(Instr.loadAt 23 (.pointer (some ⟨b,3,none⟩))).run Tryz.prog W=.ok (.agg #[v3,v4,v5,v6,v7]) W:=by
 go_simp
theorem zs1 (W:World) (b:Nat) (v8 v9 v10 v11 v12 v13 v14 v15 v16 v17:Value) (c8:W.cell? ⟨b,8,none⟩=some v8) (c9:W.cell? ⟨b,9,none⟩=some v9) (c10:W.cell? ⟨b,10,none⟩=some v10) (c11:W.cell? ⟨b,11,none⟩=some v11) (c12:W.cell? ⟨b,12,none⟩=some v12) (c13:W.cell? ⟨b,13,none⟩=some v13) (c14:W.cell? ⟨b,14,none⟩=some v14) (c15:W.cell? ⟨b,15,none⟩=some v15) (c16:W.cell? ⟨b,16,none⟩=some v16) (c17:W.cell? ⟨b,17,none⟩=some v17):(Instr.loadAt 27 (.pointer (some ⟨b,8,none⟩))).run Tryz.prog W=.ok (.agg #[v8,v9,v10,v11,v12,v13,v14,v15,v16,v17]) W:=by
 go_simp
theorem zs2 (W:World) (b:Nat) (v22 v23 v24 v25 v26 v27 v28 v29:Value) (c22:W.cell? ⟨b,22,none⟩=some v22) (c23:W.cell? ⟨b,23,none⟩=some v23) (c24:W.cell? ⟨b,24,none⟩=some v24) (c25:W.cell? ⟨b,25,none⟩=some v25) (c26:W.cell? ⟨b,26,none⟩=some v26) (c27:W.cell? ⟨b,27,none⟩=some v27) (c28:W.cell? ⟨b,28,none⟩=some v28) (c29:W.cell? ⟨b,29,none⟩=some v29):(Instr.loadAt 30 (.pointer (some ⟨b,22,none⟩))).run Tryz.prog W=.ok (.agg #[v22,v23,v24,v25,v26,v27,v28,v29]) W:=by
 go_simp
theorem zao {P:Program} {o:Oper} {a:Act} {K:Act→World→Prop} {Q:Exit→Act→World→Prop} (w w':World) (t:TypeId) (x y:Operand) (ho:o.op=.store t x y) (vx vy:Value) (hx:a.eval x=vx) (hy:a.eval y=vy) (hr:(Instr.storeAt t vx vy).run P w=.ok () w') (h:K (a.put o.dst undef) w'):Oper.wp P o a w K Q:=by
 unfold Oper.wp execOp
 simp only [ho,hx,hy,Sem.run_bind,Sem.run_pure,Result.andThen_ok,hr]
 exact h
theorem zbo {T n:Nat} (w:World) (g:Nat) (old M:Array Value) (hi:(Tryz.prog.info? T).map (·.size)=some n) (hg:Bx w g old T) (ho:old.size=n) (hs:M.size=n) (h1:M.all (·.oneCell')=true):(Instr.storeAt T (.pointer (some ⟨g,0,none⟩)) (.agg M)).run Tryz.prog w=.ok () (w.setRow g M):=by
 have h:=run_storeVar_row (P:=Tryz.prog) w g T T old M hg (by rw [hs];exact hi) (by rw [ho,hs]) h1
 simp only [Instr.storeAt,Instr.sureAddr,asAddr,Sem.run_bind,Sem.run_pure,Result.andThen_ok]
 exact h
theorem ziv:(Tryz.prog.info? 23).map (·.size)=some 5:=by kernel_rfl
theorem zd7:(Tryz.prog.info? 27).map (·.size)=some 10:=by kernel_rfl
theorem ziw:(Tryz.prog.info? 30).map (·.size)=some 8:=by kernel_rfl
theorem Bx.set {w:World} {b:Nat} {cs ds:Array Value} {T:Nat} (h:Bx w b cs T):Bx (w.setRow b ds) b ds T:=setRow_heap w b _ _ T (0,0) h
theorem Bx.other {w:World} {b c:Nat} {cs ds:Array Value} {T:Nat} (h:Bx w b cs T) (hn:b≠c):Bx (w.setRow c ds) b cs T:=(setRow_other w c b ds hn).trans h
theorem zvu {P:Program} {l:List Oper} {Q:Exit→Act→World→Prop} {md:Region.Mode} {S:World→Prop} {i:Nat} {oi:Oper} {v:Value} {fuel:Nat} {listed:Array Bool} {a:Act} {w:World} (hi:l[i]? = some oi)
  (hs:Region.noSelect l.toArray=true) (hf:Region.free md l.toArray listed i=true) (hr:(Region.ready md l.toArray listed).contains i=true)
  (hQ:∀c a w,Q (.panic c) (a.put oi.dst v) w→Q (.panic c) a w) (hy:YieldsIf P l.toArray S oi v a) (hS:S w)
  (h:wpAnyH P md l.toArray Q S fuel (listed.setIfInBounds i true) (a.put oi.dst v) w):wpAnyH P md l.toArray Q S (fuel+1) listed a w:=
 wpAnyH_take (by rw [List.getElem?_toArray];exact hi) hs hf hr hQ hy hS h
theorem zae {P:Program} {l:List Oper} {Q:Exit→Act→World→Prop} {md:Region.Mode} {S:World→Prop} {i:Nat} {oi:Oper} {v:Value} {fuel:Nat} {listed:Array Bool} {a:Act} {w:World} (hi:l[i]? = some oi) (hb:(Region.noSelect l.toArray&&(Region.free md l.toArray listed i&&(Region.ready md l.toArray listed).contains i))=true) (hy:YieldsIf P l.toArray S oi v a) (hS:S w)
  (h:wpAnyH P md l.toArray Q S fuel (listed.setIfInBounds i true) (a.put oi.dst v) w) (hQ:∀c a w,Q (.panic c) (a.put oi.dst v) w→Q (.panic c) a w:=by exact fun _ _ _ h=>h):wpAnyH P md l.toArray Q S (fuel+1) listed a w:=by
 simp only [Bool.and_eq_true] at hb
 exact zvu hi hb.1 hb.2.1 hb.2.2 hQ hy hS h
theorem pu:(∀(a:Act) (i:Nat) (v:Value),a.put (some i) v = { a with tmps:=a.tmps.setIfInBounds i v })∧(∀(a:Act) (v:Value),a.put none v=a)∧(∀(l:List Value) (i:Nat) (v:Value),l.toArray.setIfInBounds i v=(l.set i v).toArray)∧(∀(x y:Value) (l:List Value),(x::l).set 0 y=y::l)∧(∀(x y:Value) (l:List Value) (n:Nat),(x::l).set (n+1) y=x::l.set n y):=
 ⟨fun _ _ _=>rfl,fun _ _=>rfl,fun _ _ _=>by simp,fun _ _ _=>rfl,fun _ _ _ _=>rfl⟩
theorem zap {P:Program} {l:List Oper} {Q:Exit→Act→World→Prop} {md:Region.Mode} {S:World→Prop} {fuel:Nat} {listed:Array Bool} {a:Act} {w:World} {i:Nat} {o:Oper} (hi:l[i]? = some o) (hr:Region.ready md l.toArray listed=[i])
  (h:∀K':Act→World→Prop,Shut (∀a w,S w→(S w→wpAnyH P md l.toArray Q S fuel (listed.setIfInBounds i true) a w)→K' a w)→if Region.wanted o (yielded l.toArray a.tmps)=true then Oper.wp P o a w K' Q else K' (a.put o.dst undef) w) :
  wpAnyH P md l.toArray Q S (fuel+1) listed a w:=
 wpAnyH_ready hr (by simp) (AllReadyH.cons (by rw [List.getElem?_toArray];exact hi) h AllReadyH.nil)
structure Shrt (m:Mg):Prop where
 n:m.k=1→m.name.length≤1000
 a:m.k=2→m.a.i.length≤1000∧m.a.cur.length≤1000
 b:m.k=3→m.b.cur.length≤1000∧m.b.cuts.length≤64∧m.b.bar.length≤64
 p:m.k=4→m.ps.length≤64∧∀y ∈ m.ps,y.i.length≤1000
 t:m.k=6∨m.k=7→m.t.length≤1000
 l:m.k=11→m.out.i.length≤1000∧m.ins.length≤64∧∀y ∈ m.ins,y.i.length≤1000
structure Tr5 (m:Mg) (pa ia ca ba:Option Addr) (pc ic cc bc:Nat) (w:World) (p5:Nat) (xi xc:ByteArray) (W:World):Prop where
 a:Bx W p5 #[.string xi,.int .i64 m.a.iss,.int .i64 m.a.rat,.int .i64 m.a.mat,.string xc] 23
 b:Bx W w.heap.size (mcs m pa ia ca ba pc ic cc bc) 35
 c:Below w.heap.size w W
section
variable {m:Mg} {pa ia ca ba:Option Addr} {pc ic cc bc:Nat} {w:World} {p5:Nat} {xi xc:ByteArray} {W W2:World}
theorem Tr5.keep (h:Tr5 m pa ia ca ba pc ic cc bc w p5 xi xc W) (hb:Below W.heap.size W W2):Tr5 m pa ia ca ba pc ic cc bc w p5 xi xc W2:=⟨h.a.keep hb,h.b.keep hb,bt h.c hb⟩
theorem Tr5.alloc (h:Tr5 m pa ia ca ba pc ic cc bc w p5 xi xc W) (o:Obj):Tr5 m pa ia ca ba pc ic cc bc w p5 xi xc (W.alloc o):=h.keep (zab _ _)
theorem Tr5.drewN (h:Tr5 m pa ia ca ba pc ic cc bc w p5 xi xc W) (n:Nat):Tr5 m pa ia ca ba pc ic cc bc w p5 xi xc (W.drewN n):=⟨h.a,h.b,zef h.c n⟩
theorem Tr5.cs (h:Tr5 m pa ia ca ba pc ic cc bc w p5 xi xc W):W.cell? ⟨p5,0,none⟩=some (.string xi)∧W.cell? ⟨p5,1,none⟩=some (.int .i64 m.a.iss)∧W.cell? ⟨p5,2,none⟩=some (.int .i64 m.a.rat)∧W.cell? ⟨p5,3,none⟩=some (.int .i64 m.a.mat)∧W.cell? ⟨p5,4,none⟩=some (.string xc):=⟨h.a.cell 0,h.a.cell 1,h.a.cell 2,h.a.cell 3,h.a.cell 4⟩
end
theorem Tryz.info32:(Tryz.prog.info? 32).map (fun i=>(i.zero,i.size,i.bytes))=some (some (.agg #[.string ⟨#[]⟩,.int .i64 0]),2,24):=by kernel_rfl
theorem Tryz.info128:(Tryz.prog.info? 128).map (fun i=>(i.zero,i.size,i.bytes))=some (some (.agg #[.string ⟨#[]⟩,.int .i64 0]),2,24):=by kernel_rfl
theorem Tryz.info112:(Tryz.prog.info? 112).map (fun i=>(i.zero,i.size,i.bytes))=some (some (.agg #[.int .i64 0,.int .i64 0,.int .i64 0]),3,24):=by kernel_rfl
def zav:List Lt→List Value
 | []=>[]
 | x::l=>.string ⟨x.i.toArray⟩ :: .int .i64 x.q::zav l
def zba:List Ct→List Value
 | []=>[]
 | x::l=>.int .i64 x.d :: .int .i64 x.r :: .int .i64 x.c::zba l
theorem zen (a b:List Lt):zav (a++b)=zav a++zav b:=by
 induction a with
 | nil=>rfl
 | cons x l ih=>show _::_::zav (l++b)=_;rw [ih];rfl
theorem zg4 (a b:List Ct):zba (a++b)=zba a++zba b:=by
 induction a with
 | nil=>rfl
 | cons x l ih=>show _::_::_::zba (l++b)=_;rw [ih];rfl
theorem zd8:∀(l:List Lt) (j:Nat) (h:j<l.length),(zav l)[j*2]? = some (.string ⟨l[j].i.toArray⟩)∧(zav l)[j*2+1]? = some (.int .i64 l[j].q)
  | x::l,0,_=>⟨rfl,rfl⟩
  | x :: l, j + 1, h => by
    have:=zd8 l j (by simpa using h)
    rw [show (j+1)*2=j*2+2 by omega,show j*2+2+1=(j*2+1)+2 by omega]
    exact this
theorem zfm:∀(l:List Ct) (j:Nat) (h:j<l.length),(zba l)[j*3]? = some (.int .i64 l[j].d)∧(zba l)[j*3+1]? = some (.int .i64 l[j].r)∧(zba l)[j*3+2]? = some (.int .i64 l[j].c)
  | x::l,0,_=>⟨rfl,rfl,rfl⟩
  | x :: l, j + 1, h => by
    have:=zfm l j (by simpa using h)
    rw [show (j+1)*3=j*3+3 by omega,show j*3+3+1=(j*3+1)+3 by omega,show j*3+3+2=(j*3+2)+3 by omega]
    exact this
theorem zez {w:World} {cs:List Value} {T:Nat} : ∀j u,cs[j]? = some u→(w.alloc (.cells cs.toArray T)).cell? ((⟨w.heap.size,0,none⟩:Addr).add j)=some u:=fun j u h=>by
 have e:(⟨w.heap.size,0,none⟩:Addr).add j=⟨w.heap.size,j,none⟩:=by simp [Addr.add];intro h;exact h.symm
 rw [e,(Bx.new w cs.toArray T).cell j,List.getElem?_toArray,h]
theorem zix {B:Nat} {w:World} {v:Value} {xs:List Lt} (h:w.ownsRow B 32 2 v xs.length (zav xs)) (hB:B≤w.heap.size) (x:Lt) (hl:xs.length≤1000000) :
  ∃v' w',(Builtin.append_ #[33,33] 33 #[v,.slice (some ⟨w.heap.size,0,none⟩) 1 1]).run Tryz.prog (w.alloc (.cells #[.string ⟨x.i.toArray⟩,.int .i64 x.q] 32))=.ok v' w'∧w'.ownsRow B 32 2 v' (xs++[x]).length (zav (xs++[x]))∧(w.alloc (.cells #[.string ⟨x.i.toArray⟩,.int .i64 x.q] 32)).grownBy w' v.ownBlock:=by
 obtain ⟨i0,hi,hz0,hz1,hz2⟩:=zb4 Tryz.info32
 obtain ⟨v',w',hr,ho,hgr,_,hat⟩:=run_append_own_at (P:=Tryz.prog) (w:=w.alloc (.cells #[.string ⟨x.i.toArray⟩,.int .i64 x.q] 32)) B 33 33 32 i0 _ 2 24 Tryz.underlying33 hi hz0 hz1 hz2 rfl (by decide) v _ _ (h.alloc _) ⟨w.heap.size,0,none⟩ 1 1 [.string ⟨x.i.toArray⟩,.int .i64 x.q] rfl (zez (cs:=[.string ⟨x.i.toArray⟩,.int .i64 x.q])) (by intro u hu;simp at hu;rcases hu with rfl | rfl<;>rfl) (by unfold maxLen;omega) (by omega) (by simp;omega)
 refine ⟨v',w',hr,?_,hgr⟩
 rw [zen,List.length_append];exact ho
theorem zfn {B:Nat} {w:World} {v:Value} {xs:List Lt} (h:w.ownsRow B 128 2 v xs.length (zav xs)) (hB:B≤w.heap.size) (x:Lt) (hl:xs.length≤1000000) :
  ∃v' w',(Builtin.append_ #[28,28] 28 #[v,.slice (some ⟨w.heap.size,0,none⟩) 1 1]).run Tryz.prog (w.alloc (.cells #[.string ⟨x.i.toArray⟩,.int .i64 x.q] 128))=.ok v' w'∧w'.ownsRow B 128 2 v' (xs++[x]).length (zav (xs++[x]))∧(w.alloc (.cells #[.string ⟨x.i.toArray⟩,.int .i64 x.q] 128)).grownBy w' v.ownBlock:=by
 obtain ⟨i0,hi,hz0,hz1,hz2⟩:=zb4 Tryz.info128
 obtain ⟨v',w',hr,ho,hgr,_,hat⟩:=run_append_own_at (P:=Tryz.prog) (w:=w.alloc (.cells #[.string ⟨x.i.toArray⟩,.int .i64 x.q] 128)) B 28 28 128 i0 _ 2 24 Tryz.underlying28 hi hz0 hz1 hz2 rfl (by decide) v _ _ (h.alloc _) ⟨w.heap.size,0,none⟩ 1 1 [.string ⟨x.i.toArray⟩,.int .i64 x.q] rfl (zez (cs:=[.string ⟨x.i.toArray⟩,.int .i64 x.q])) (by intro u hu;simp at hu;rcases hu with rfl | rfl<;>rfl) (by unfold maxLen;omega) (by omega) (by simp;omega)
 refine ⟨v',w',hr,?_,hgr⟩
 rw [zen,List.length_append];exact ho
theorem ziy {B:Nat} {w:World} {v:Value} {xs:List Ct} (h:w.ownsRow B 112 3 v xs.length (zba xs)) (hB:B≤w.heap.size) (x:Ct) (hl:xs.length≤1000000) :
  ∃v' w',(Builtin.append_ #[24,24] 24 #[v,.slice (some ⟨w.heap.size,0,none⟩) 1 1]).run Tryz.prog (w.alloc (.cells #[.int .i64 x.d,.int .i64 x.r,.int .i64 x.c] 112))=.ok v' w'∧w'.ownsRow B 112 3 v' (xs++[x]).length (zba (xs++[x]))∧(w.alloc (.cells #[.int .i64 x.d,.int .i64 x.r,.int .i64 x.c] 112)).grownBy w' v.ownBlock:=by
 obtain ⟨i0,hi,hz0,hz1,hz2⟩:=zb4 Tryz.info112
 obtain ⟨v',w',hr,ho,hgr,_,hat⟩:=run_append_own_at (P:=Tryz.prog) (w:=w.alloc (.cells #[.int .i64 x.d,.int .i64 x.r,.int .i64 x.c] 112)) B 24 24 112 i0 _ 3 24 Tryz.underlying24 hi hz0 hz1 hz2 rfl (by decide) v _ _ (h.alloc _) ⟨w.heap.size,0,none⟩ 1 1 [.int .i64 x.d,.int .i64 x.r,.int .i64 x.c] rfl (zez (cs:=[.int .i64 x.d,.int .i64 x.r,.int .i64 x.c])) (by intro u hu;simp at hu;rcases hu with rfl | rfl | rfl<;>rfl) (by unfold maxLen;omega) (by omega) (by simp;omega)
 refine ⟨v',w',hr,?_,hgr⟩
 rw [zg4,List.length_append];exact ho
theorem zo4 {B e:Nat} {w:World} {v:Value} {xs:List Lt} (h:w.ownsRow B e 2 v xs.length (zav xs)):∃a c,v=.slice a xs.length c∧Lts w.heap.size w a xs:=by
 rcases h.2 with ⟨hv,hn⟩ | ⟨g,cap,cur,hv,hB,hg,hc,_,_,ht⟩
 ·exact ⟨none,0,by rw [hv,hn],fun h0=>by omega⟩
 ·refine ⟨_,cap,hv,fun h0=>⟨g,0,rfl,(Array.getElem?_eq_some_iff.1 hg).1,fun j hj=>?_⟩⟩
  have hx:=zd8 xs j hj
  rw [← ht] at hx
  have e:∀i x,(cur.toList.take (xs.length*2))[i]? = some x→w.cell? ⟨g,i,none⟩=some x:=fun i x hi=>by
   rw [cell_of_row w g i _ e (0,0) hg,← Array.getElem?_toList]
   rw [List.getElem?_take] at hi
   split at hi
   ·exact hi
   ·cases hi
  exact ⟨by rw [Nat.zero_add];exact e _ _ hx.1,by rw [Nat.zero_add];exact e _ _ hx.2⟩
theorem zo5 {B e:Nat} {w:World} {v:Value} {xs:List Ct} (h:w.ownsRow B e 3 v xs.length (zba xs)):∃a c,v=.slice a xs.length c∧Cts w.heap.size w a xs:=by
 rcases h.2 with ⟨hv,hn⟩ | ⟨g,cap,cur,hv,hB,hg,hc,_,_,ht⟩
 ·exact ⟨none,0,by rw [hv,hn],fun h0=>by omega⟩
 ·refine ⟨_,cap,hv,fun h0=>⟨g,0,rfl,(Array.getElem?_eq_some_iff.1 hg).1,fun j hj=>?_⟩⟩
  have hx:=zfm xs j hj
  rw [← ht] at hx
  have e:∀i x,(cur.toList.take (xs.length*3))[i]? = some x→w.cell? ⟨g,i,none⟩=some x:=fun i x hi=>by
   rw [cell_of_row w g i _ e (0,0) hg,← Array.getElem?_toList]
   rw [List.getElem?_take] at hi
   split at hi
   ·exact hi
   ·cases hi
  exact ⟨by rw [Nat.zero_add];exact e _ _ hx.1,by rw [Nat.zero_add];exact e _ _ hx.2.1,by rw [Nat.zero_add];exact e _ _ hx.2.2⟩
theorem zd9:(Tryz.prog.info? 32).map (·.size)=some 2:=by kernel_rfl
theorem zea {P:Program} (fn:Func) (tmps:Array Value) (a t b:Nat) (ad:Addr) (v u:Value) (w:World) (hf:fn.results=#[.cell a t,.tmp b]) (ht:tmps.getD a undef=.pointer (some ad)) (hu:tmps.getD b undef=u) (hl:(loadVar t ad).run P w=.ok v w):(results fn tmps).run P w=.ok (.tuple #[v,u]) w:=by
 have ht2:tmps[a]?.getD undef=.pointer (some ad):=by simpa using ht
 have hu2:tmps[b]?.getD undef=u:=by simpa using hu
 simp [results,hf,ht2,hu2,asAddr,hl]
theorem zo6 (w:World) (g:Nat) (M:Array Value) (hg:Bx w g M 32) (hs:M.size=2):(loadVar 32 ⟨g,0,none⟩).run Tryz.prog w=.ok (.agg M) w:=
 run_loadVar_row w g 32 32 _ (0,0) _ hg Tryz.underlying32 rfl (by rw [hs];exact zd9)
theorem Bx.cellSet {w:World} {b k:Nat} {cs:Array Value} {T:Nat} (h:Bx w b cs T) (u:Value):Bx (w.setCell ⟨b,k,none⟩ u) b (cs.setIfInBounds k u) T:=zdj h u
theorem Bx.cellOther {w:World} {b c k:Nat} {cs:Array Value} {T:Nat} (h:Bx w b cs T) (hn:b≠c) (u:Value):Bx (w.setCell ⟨c,k,none⟩ u) b cs T:=Bt.other (Bt.set c w k u) h hn
theorem Bx.froz {w:World} {b:Nat} {cs:Array Value} {T:Nat} (h:Bx w b cs T) (j:Nat):w.frozen? ⟨b,j,none⟩=false:=by
 simp only [World.frozen?]
 rw [show w.heap[b]? = some (.cells cs T (0,0)) from h]
 simp
theorem zeo {w:World} {B e size n q:Nat} {v:Value} {xs:List Value} {M:Array Value} (h:w.ownsRow B e size v n xs) (hq:q<B):(w.setRow q M).ownsRow B e size v n xs:=by
 refine ⟨h.1,?_⟩
 rcases h.2 with h2 | ⟨g,cap,cur,hv,hB,hg,hr⟩
 ·exact .inl h2
 ·exact .inr ⟨g,cap,cur,hv,hB,by rw [setRow_other w q g M (by omega)];exact hg,hr⟩
theorem zax {w w':World} {B e size n:Nat} {v:Value} {xs:List Value} (h:w.ownsRow B e size v n xs) (hb:Below w.heap.size w w'):w'.ownsRow B e size v n xs:=zge h hb
theorem zau {w:World} {B C e size n:Nat} {v:Value} {xs:List Value} (h:w.ownsRow B e size v n xs) (hB:C≤B):w.ownsRow C e size v n xs:=by
 refine ⟨h.1,?_⟩
 rcases h.2 with h2 | ⟨g,cap,cur,hv,hg,hr⟩
 ·exact .inl h2
 ·exact .inr ⟨g,cap,cur,hv,Nat.le_trans hB hg,hr⟩
end Go.Proofs.YtdmlgheajblcdaaGreat
