/- Layer 10: Check of both, every kind. -/
import Derived.Test.YtdmlgheajblcdaaGreatD09
namespace Go.Proofs.YtdmlgheajblcdaaGreat
set_option maxHeartbeats 16000000
set_option maxRecDepth 100000
open Go.RowKit
set_option linter.unusedVariables false
set_option linter.unusedSimpArgs false
set_option maxRecDepth 20000
theorem zyt (m:Mg) (pa ia ca ba:Option Addr) (pc ic cc bc:Nat) (hk:m.k=1) (w:World) (hH:Hld w.heap.size w m pa ia ca ba) (hW:m.Wf) (hZ:Szd m):Calls Tryz.prog 12 #[.iface 76 (.agg #[.int .i64 m.mem,.string ⟨m.name.toArray⟩])] w (KP (.int .i64 ((if mbr m.mem=true then C0.nm m.name else 1:Nat):Int)) w):=
 zoe (m.mem) ⟨m.name.toArray⟩ _ w (fun W hb=>zso m pa ia ca ba pc ic cc bc W (by have:=hZ.name;omega) _ rfl)
theorem zyu (m:Mg) (pa ia ca ba:Option Addr) (pc ic cc bc:Nat) (hk:m.k=1) (w:World) (hH:Hld w.heap.size w m pa ia ca ba) (hW:m.Wf) (hZ:Szd m):Calls Tryz.prog 13 #[.agg (mcs m pa ia ca ba pc ic cc bc)] w (KP (.int .i64 ((if mbr m.mem=true then C0.nm m.name else 1:Nat):Int)) w):=by
 have hb:Below w.heap.size w w:=Below.refl _ _
 have W:=w
 exact zov m pa ia ca ba pc ic cc bc hk w (by have:=hZ.name;omega) _ rfl
theorem zyv (m:Mg) (pa ia ca ba:Option Addr) (pc ic cc bc:Nat) (hk:m.k=2) (w:World) (hH:Hld w.heap.size w m pa ia ca ba) (hW:m.Wf) (hZ:Szd m):Calls Tryz.prog 12 #[.iface 78 (.agg #[.string ⟨m.a.i.toArray⟩,.int .i64 m.a.iss,.int .i64 m.a.rat,.int .i64 m.a.mat,.string ⟨m.a.cur.toArray⟩])] w (KP (.int .i64 ((C0.ast m.a:Nat):Int)) w):=
 zof ⟨m.a.i.toArray⟩ (m.a.iss) (m.a.rat) (m.a.mat) ⟨m.a.cur.toArray⟩ _ w (fun W hb=>zsp m pa ia ca ba pc ic cc bc W (by have:=hZ.ai;omega) _ rfl)
theorem zyw (m:Mg) (pa ia ca ba:Option Addr) (pc ic cc bc:Nat) (hk:m.k=2) (w:World) (hH:Hld w.heap.size w m pa ia ca ba) (hW:m.Wf) (hZ:Szd m):Calls Tryz.prog 13 #[.agg (mcs m pa ia ca ba pc ic cc bc)] w (KP (.int .i64 ((C0.ast m.a:Nat):Int)) w):=by
 have hb:Below w.heap.size w w:=Below.refl _ _
 have W:=w
 exact zoz m pa ia ca ba pc ic cc bc hk w  _ rfl
theorem zyx (m:Mg) (pa ia ca ba:Option Addr) (pc ic cc bc:Nat) (hk:m.k=3) (w:World) (hH:Hld w.heap.size w m pa ia ca ba) (hW:m.Wf) (hZ:Szd m):Calls Tryz.prog 12 #[.iface 80 (.agg #[.int .i64 m.b.id,.int .i64 m.b.ver,.string ⟨m.b.cur.toArray⟩,.int .i64 m.b.rat,.int .i64 m.b.least,.int .i64 m.b.most,.slice ca m.b.cuts.length cc,.int .i64 m.b.iss,.int .i64 m.b.ass,.slice ba m.b.bar.length bc])] w (KP (.int .i64 ((bkE C0 m.b:Nat):Int)) w):=
 zog (m.b.id) (m.b.ver) ⟨m.b.cur.toArray⟩ (m.b.rat) (m.b.least) (m.b.most) ca (m.b.cuts.length) cc (m.b.iss) (m.b.ass) ba (m.b.bar.length) bc _ w (fun W hb=>zsq m pa ia ca ba pc ic cc bc W ((hH.cuts.keep hb).mono hb.size) ((hH.bar.keep hb).mono hb.size) hZ.lc hZ.lb _ rfl)
theorem zyy (m:Mg) (pa ia ca ba:Option Addr) (pc ic cc bc:Nat) (hk:m.k=3) (w:World) (hH:Hld w.heap.size w m pa ia ca ba) (hW:m.Wf) (hZ:Szd m):Calls Tryz.prog 13 #[.agg (mcs m pa ia ca ba pc ic cc bc)] w (KP (.int .i64 ((bkE C0 m.b:Nat):Int)) w):=by
 have hb:Below w.heap.size w w:=Below.refl _ _
 have W:=w
 exact zo0 m pa ia ca ba pc ic cc bc hk w ((hH.cuts.keep hb).mono hb.size) ((hH.bar.keep hb).mono hb.size) hZ.lc hZ.lb _ rfl
theorem zyz (m:Mg) (pa ia ca ba:Option Addr) (pc ic cc bc:Nat) (hk:m.k=4) (w:World) (hH:Hld w.heap.size w m pa ia ca ba) (hW:m.Wf) (hZ:Szd m):Calls Tryz.prog 12 #[.iface 82 (.agg #[.slice pa m.ps.length pc])] w (KP (.int .i64 ((prE C0 m.ps:Nat):Int)) w):=
 zoh pa (m.ps.length) pc _ w (fun W hb=>zsn m pa ia ca ba pc ic cc bc W ((hH.ps.keep hb).mono hb.size) (fun y hy=>by have:=hZ.ps y hy;omega) hZ.lp _ rfl)
theorem zy0 (m:Mg) (pa ia ca ba:Option Addr) (pc ic cc bc:Nat) (hk:m.k=4) (w:World) (hH:Hld w.heap.size w m pa ia ca ba) (hW:m.Wf) (hZ:Szd m):Calls Tryz.prog 13 #[.agg (mcs m pa ia ca ba pc ic cc bc)] w (KP (.int .i64 ((prE C0 m.ps:Nat):Int)) w):=by
 have hb:Below w.heap.size w w:=Below.refl _ _
 have W:=w
 exact zo1 m pa ia ca ba pc ic cc bc hk w ((hH.ps.keep hb).mono hb.size) hZ.lp _ rfl
theorem zy1 (m:Mg) (pa ia ca ba:Option Addr) (pc ic cc bc:Nat) (hk:m.k=5) (w:World) (hH:Hld w.heap.size w m pa ia ca ba) (hW:m.Wf) (hZ:Szd m):Calls Tryz.prog 12 #[.iface 74 (.agg #[.int .i64 m.day])] w (KP (.int .i64 ((zb0 C0 m.day:Nat):Int)) w):=
 zoi (m.day) _ w (fun W hb=>zmu m.day _ rfl W)
theorem zy2 (m:Mg) (pa ia ca ba:Option Addr) (pc ic cc bc:Nat) (hk:m.k=5) (w:World) (hH:Hld w.heap.size w m pa ia ca ba) (hW:m.Wf) (hZ:Szd m):Calls Tryz.prog 13 #[.agg (mcs m pa ia ca ba pc ic cc bc)] w (KP (.int .i64 ((zb0 C0 m.day:Nat):Int)) w):=by
 have hb:Below w.heap.size w w:=Below.refl _ _
 have W:=w
 exact zo2 m pa ia ca ba pc ic cc bc hk w  _ rfl
theorem zy3 (m:Mg) (pa ia ca ba:Option Addr) (pc ic cc bc:Nat) (hk:m.k=6) (w:World) (hH:Hld w.heap.size w m pa ia ca ba) (hW:m.Wf) (hZ:Szd m):Calls Tryz.prog 12 #[.iface 84 (.agg #[.int .i64 m.mem,.string ⟨m.t.toArray⟩,.int .i64 m.n])] w (KP (.int .i64 ((if C0.cu m.t=true then if mbr m.mem=true then if sgn m.n=true then 0 else 1 else 1 else 11:Nat):Int)) w):=
 zoj (m.mem) ⟨m.t.toArray⟩ (m.n) _ w (fun W hb=>zsr m pa ia ca ba pc ic cc bc W hW.n _ rfl)
theorem zy4 (m:Mg) (pa ia ca ba:Option Addr) (pc ic cc bc:Nat) (hk:m.k=6) (w:World) (hH:Hld w.heap.size w m pa ia ca ba) (hW:m.Wf) (hZ:Szd m):Calls Tryz.prog 13 #[.agg (mcs m pa ia ca ba pc ic cc bc)] w (KP (.int .i64 ((if C0.cu m.t=true then if mbr m.mem=true then if sgn m.n=true then 0 else 1 else 1 else 11:Nat):Int)) w):=by
 have hb:Below w.heap.size w w:=Below.refl _ _
 have W:=w
 exact zow m pa ia ca ba pc ic cc bc hk w  _ rfl
theorem zy5 (m:Mg) (pa ia ca ba:Option Addr) (pc ic cc bc:Nat) (hk:m.k=7) (w:World) (hH:Hld w.heap.size w m pa ia ca ba) (hW:m.Wf) (hZ:Szd m):Calls Tryz.prog 12 #[.iface 86 (.agg #[.int .i64 m.mem,.string ⟨m.t.toArray⟩,.int .i64 m.n])] w (KP (.int .i64 ((if mbr m.mem=true then if sgn m.n=true then C0.is m.t else 1 else 1:Nat):Int)) w):=
 zok (m.mem) ⟨m.t.toArray⟩ (m.n) _ w (fun W hb=>zss m pa ia ca ba pc ic cc bc W hW.n (by have:=hZ.t;omega) _ rfl)
theorem zy6 (m:Mg) (pa ia ca ba:Option Addr) (pc ic cc bc:Nat) (hk:m.k=7) (w:World) (hH:Hld w.heap.size w m pa ia ca ba) (hW:m.Wf) (hZ:Szd m):Calls Tryz.prog 13 #[.agg (mcs m pa ia ca ba pc ic cc bc)] w (KP (.int .i64 ((if mbr m.mem=true then if sgn m.n=true then C0.is m.t else 1 else 1:Nat):Int)) w):=by
 have hb:Below w.heap.size w w:=Below.refl _ _
 have W:=w
 exact zox m pa ia ca ba pc ic cc bc hk w  _ rfl
theorem zy7 (m:Mg) (pa ia ca ba:Option Addr) (pc ic cc bc:Nat) (hk:m.k=8) (w:World) (hH:Hld w.heap.size w m pa ia ca ba) (hW:m.Wf) (hZ:Szd m):Calls Tryz.prog 12 #[.iface 63 (.agg #[.int .i64 m.q.id,.int .i64 m.q.mem,.int .i64 m.q.side,.int .i64 m.q.bas,.int .i64 m.q.am,.int .i64 m.q.rate,.int .i64 m.q.st,.int .i64 m.q.en])] w (KP (.int .i64 ((if mbr m.q.mem=true then quE C0 m.q else 1:Nat):Int)) w):=
 zol (m.q.id) (m.q.mem) (m.q.side) (m.q.bas) (m.q.am) (m.q.rate) (m.q.st) (m.q.en) _ w (fun W hb=>(by by_cases hs:m.q.side=1;exact zoo m pa ia ca ba pc ic cc bc W hs hW.q.2.2.2.2.2.2.1 hW.q.2.2.2.2.2.2.2 _ (by rw [zf2]);exact zop m pa ia ca ba pc ic cc bc W hs hW.q.2.2.2.2.2.2.1 hW.q.2.2.2.2.2.2.2 _ (by rw [zf2])))
theorem zy8 (m:Mg) (pa ia ca ba:Option Addr) (pc ic cc bc:Nat) (hk:m.k=8) (w:World) (hH:Hld w.heap.size w m pa ia ca ba) (hW:m.Wf) (hZ:Szd m):Calls Tryz.prog 13 #[.agg (mcs m pa ia ca ba pc ic cc bc)] w (KP (.int .i64 ((if mbr m.q.mem=true then quE C0 m.q else 1:Nat):Int)) w):=by
 have hb:Below w.heap.size w w:=Below.refl _ _
 have W:=w
 exact zo3 m pa ia ca ba pc ic cc bc hk w  _ rfl
theorem zy9 (m:Mg) (pa ia ca ba:Option Addr) (pc ic cc bc:Nat) (hk:m.k=9) (w:World) (hH:Hld w.heap.size w m pa ia ca ba) (hW:m.Wf) (hZ:Szd m):Calls Tryz.prog 12 #[.iface 88 (.agg #[.int .i64 m.mem,.int .i64 m.n])] w (KP (.int .i64 ((if mbr m.mem=true then if amt m.n=true then 0 else 1 else 1:Nat):Int)) w):=
 zom (m.mem) (m.n) _ w (fun W hb=>zst m pa ia ca ba pc ic cc bc W _ rfl)
theorem zza (m:Mg) (pa ia ca ba:Option Addr) (pc ic cc bc:Nat) (hk:m.k=9) (w:World) (hH:Hld w.heap.size w m pa ia ca ba) (hW:m.Wf) (hZ:Szd m):Calls Tryz.prog 13 #[.agg (mcs m pa ia ca ba pc ic cc bc)] w (KP (.int .i64 ((if mbr m.mem=true then if amt m.n=true then 0 else 1 else 1:Nat):Int)) w):=by
 have hb:Below w.heap.size w w:=Below.refl _ _
 have W:=w
 exact zoy m pa ia ca ba pc ic cc bc hk w  _ rfl
theorem zwe (m:Mg) (pa ia ca ba:Option Addr) (pc ic cc bc:Nat) (hk:m.k=10) (w:World) (hH:Hld w.heap.size w m pa ia ca ba) (hW:m.Wf) (hZ:Szd m):Calls Tryz.prog 12 #[.iface 90 (.agg #[.int .i64 m.mem,.int .i64 m.tr,.int .i64 m.day])] w (KP (.int .i64 ((if mbr m.mem=true then if amt m.tr=true then zb0 C0 m.day else 1 else 1:Nat):Int)) w):=
 zka (m.mem) (m.tr) (m.day) _ w (fun W hb=>zoq m pa ia ca ba pc ic cc bc W _ rfl)
theorem zwg (m:Mg) (pa ia ca ba:Option Addr) (pc ic cc bc:Nat) (hk:m.k=10) (w:World) (hH:Hld w.heap.size w m pa ia ca ba) (hW:m.Wf) (hZ:Szd m):Calls Tryz.prog 13 #[.agg (mcs m pa ia ca ba pc ic cc bc)] w (KP (.int .i64 ((if mbr m.mem=true then if amt m.tr=true then zb0 C0 m.day else 1 else 1:Nat):Int)) w):=by
 have hb:Below w.heap.size w w:=Below.refl _ _
 have W:=w
 exact zkg m pa ia ca ba pc ic cc bc hk w  _ rfl
theorem zwh (m:Mg) (pa ia ca ba:Option Addr) (pc ic cc bc:Nat) (hk:m.k=11) (w:World) (hH:Hld w.heap.size w m pa ia ca ba) (hW:m.Wf) (hZ:Szd m):Calls Tryz.prog 12 #[.iface 67 (.agg #[.int .i64 m.mem,.int .i64 m.tr,.string ⟨m.out.i.toArray⟩,.int .i64 m.out.q,.slice ia m.ins.length ic])] w (KP (.int .i64 ((if mbr m.mem=true then if amt m.tr=true then if decide (m.ins.length≤64)=true then zb3 C0 (m.out::m.ins) else 1 else 1 else 1:Nat):Int)) w):=
 zkb (m.mem) (m.tr) ⟨m.out.i.toArray⟩ (m.out.q) ia (m.ins.length) ic _ w (fun W hb=>zon m pa ia ca ba pc ic cc bc W ((hH.ins.keep hb).mono hb.size) (by have:=hZ.oi;omega) (fun y hy=>by have:=hZ.ins y hy;omega) hZ.li _ rfl)
theorem zwi (m:Mg) (pa ia ca ba:Option Addr) (pc ic cc bc:Nat) (hk:m.k=11) (w:World) (hH:Hld w.heap.size w m pa ia ca ba) (hW:m.Wf) (hZ:Szd m):Calls Tryz.prog 13 #[.agg (mcs m pa ia ca ba pc ic cc bc)] w (KP (.int .i64 ((if mbr m.mem=true then if amt m.tr=true then if decide (m.ins.length≤64)=true then zb3 C0 (m.out::m.ins) else 1 else 1 else 1:Nat):Int)) w):=by
 have hb:Below w.heap.size w w:=Below.refl _ _
 have W:=w
 exact zkh m pa ia ca ba pc ic cc bc hk w ((hH.ins.keep hb).mono hb.size) hZ.li _ rfl
theorem zwj (m:Mg) (pa ia ca ba:Option Addr) (pc ic cc bc:Nat) (hk:m.k=12) (w:World) (hH:Hld w.heap.size w m pa ia ca ba) (hW:m.Wf) (hZ:Szd m):Calls Tryz.prog 12 #[.iface 92 (.agg #[.int .i64 m.mem,.int .i64 m.day,.bool m.done])] w (KP (.int .i64 ((if mbr m.mem=true then zb0 C0 m.day else 1:Nat):Int)) w):=
 zkc (m.mem) (m.day) (m.done) _ w (fun W hb=>zor m pa ia ca ba pc ic cc bc W _ rfl)
theorem zwk (m:Mg) (pa ia ca ba:Option Addr) (pc ic cc bc:Nat) (hk:m.k=12) (w:World) (hH:Hld w.heap.size w m pa ia ca ba) (hW:m.Wf) (hZ:Szd m):Calls Tryz.prog 13 #[.agg (mcs m pa ia ca ba pc ic cc bc)] w (KP (.int .i64 ((if mbr m.mem=true then zb0 C0 m.day else 1:Nat):Int)) w):=by
 have hb:Below w.heap.size w w:=Below.refl _ _
 have W:=w
 exact zki m pa ia ca ba pc ic cc bc hk w  _ rfl
theorem zwl (m:Mg) (pa ia ca ba:Option Addr) (pc ic cc bc:Nat) (hk:m.k=13) (w:World) (hH:Hld w.heap.size w m pa ia ca ba) (hW:m.Wf) (hZ:Szd m):Calls Tryz.prog 12 #[.iface 94 (.agg #[.int .i64 m.mem])] w (KP (.int .i64 ((if mbr m.mem=true then 0 else 1:Nat):Int)) w):=
 zkd (m.mem) _ w (fun W hb=>zos m pa ia ca ba pc ic cc bc W _ rfl)
theorem zwm (m:Mg) (pa ia ca ba:Option Addr) (pc ic cc bc:Nat) (hk:m.k=13) (w:World) (hH:Hld w.heap.size w m pa ia ca ba) (hW:m.Wf) (hZ:Szd m):Calls Tryz.prog 13 #[.agg (mcs m pa ia ca ba pc ic cc bc)] w (KP (.int .i64 ((if mbr m.mem=true then 0 else 1:Nat):Int)) w):=by
 have hb:Below w.heap.size w w:=Below.refl _ _
 have W:=w
 exact zkj m pa ia ca ba pc ic cc bc hk w  _ rfl
theorem zwn (m:Mg) (pa ia ca ba:Option Addr) (pc ic cc bc:Nat) (hk:m.k=14) (w:World) (hH:Hld w.heap.size w m pa ia ca ba) (hW:m.Wf) (hZ:Szd m):Calls Tryz.prog 12 #[.iface 96 (.agg #[.int .i64 m.mem,.int .i64 m.n])] w (KP (.int .i64 ((if mbr m.mem=true then if inn m.n 0 1125899906842624=true then 0 else 1 else 1:Nat):Int)) w):=
 zke (m.mem) (m.n) _ w (fun W hb=>zot m pa ia ca ba pc ic cc bc W _ rfl)
theorem zwo (m:Mg) (pa ia ca ba:Option Addr) (pc ic cc bc:Nat) (hk:m.k=14) (w:World) (hH:Hld w.heap.size w m pa ia ca ba) (hW:m.Wf) (hZ:Szd m):Calls Tryz.prog 13 #[.agg (mcs m pa ia ca ba pc ic cc bc)] w (KP (.int .i64 ((if mbr m.mem=true then if inn m.n 0 1125899906842624=true then 0 else 1 else 1:Nat):Int)) w):=by
 have hb:Below w.heap.size w w:=Below.refl _ _
 have W:=w
 exact zkk m pa ia ca ba pc ic cc bc hk w  _ rfl
theorem zwp (m:Mg) (pa ia ca ba:Option Addr) (pc ic cc bc:Nat) (hk:m.k=15) (w:World) (hH:Hld w.heap.size w m pa ia ca ba) (hW:m.Wf) (hZ:Szd m):Calls Tryz.prog 12 #[.iface 98 (.agg #[.int .i64 m.tr,.int .i64 m.day,.int .i64 m.rate])] w (KP (.int .i64 ((if amt m.tr=true then if inn m.rate (-1000000) 1000000=true then zb0 C0 m.day else 1 else 1:Nat):Int)) w):=
 zkf (m.tr) (m.day) (m.rate) _ w (fun W hb=>zou m pa ia ca ba pc ic cc bc W _ rfl)
theorem zwq (m:Mg) (pa ia ca ba:Option Addr) (pc ic cc bc:Nat) (hk:m.k=15) (w:World) (hH:Hld w.heap.size w m pa ia ca ba) (hW:m.Wf) (hZ:Szd m):Calls Tryz.prog 13 #[.agg (mcs m pa ia ca ba pc ic cc bc)] w (KP (.int .i64 ((if amt m.tr=true then if inn m.rate (-1000000) 1000000=true then zb0 C0 m.day else 1 else 1:Nat):Int)) w):=by
 have hb:Below w.heap.size w w:=Below.refl _ _
 have W:=w
 exact zkl m pa ia ca ba pc ic cc bc hk w  _ rfl
theorem Hld.keep {B:Nat} {w w':World} {m:Mg} {pa ia ca ba:Option Addr} (h:Hld B w m pa ia ca ba) (hb:Below B w w'):Hld B w' m pa ia ca ba:=⟨h.ps.keep hb,h.ins.keep hb,h.cuts.keep hb,h.bar.keep hb⟩
theorem Hld.mono {B C:Nat} {w:World} {m:Mg} {pa ia ca ba:Option Addr} (h:Hld B w m pa ia ca ba) (hb:B≤C):Hld C w m pa ia ca ba:=⟨h.ps.mono hb,h.ins.mono hb,h.cuts.mono hb,h.bar.mono hb⟩
theorem Hld.on {w w':World} {m:Mg} {pa ia ca ba:Option Addr} (h:Hld w.heap.size w m pa ia ca ba) (hb:Below w.heap.size w w'):Hld w'.heap.size w' m pa ia ca ba:=(h.keep hb).mono hb.size
theorem zf4 {m:Mg} (hk:m.k=1):zcb C0 m=if mbr m.mem=true then C0.nm m.name else 1:=by
 unfold zcb
 rw [if_pos hk]
theorem zf5 {m:Mg} (hk:m.k=2):zcb C0 m=C0.ast m.a:=by
 unfold zcb
 rw [if_neg (by omega:¬ m.k=1)]
 rw [if_pos hk]
theorem zf6 {m:Mg} (hk:m.k=3):zcb C0 m=bkE C0 m.b:=by
 unfold zcb
 rw [if_neg (by omega:¬ m.k=1)]
 rw [if_neg (by omega:¬ m.k=2)]
 rw [if_pos hk]
theorem zf7 {m:Mg} (hk:m.k=4):zcb C0 m=prE C0 m.ps:=by
 unfold zcb
 rw [if_neg (by omega:¬ m.k=1)]
 rw [if_neg (by omega:¬ m.k=2)]
 rw [if_neg (by omega:¬ m.k=3)]
 rw [if_pos hk]
theorem zi2 {m:Mg} (hk:m.k=5):zcb C0 m=zb0 C0 m.day:=by
 unfold zcb
 rw [if_neg (by omega:¬ m.k=1)]
 rw [if_neg (by omega:¬ m.k=2)]
 rw [if_neg (by omega:¬ m.k=3)]
 rw [if_neg (by omega:¬ m.k=4)]
 rw [if_pos hk]
theorem zf8 {m:Mg} (hk:m.k=6):zcb C0 m=if C0.cu m.t=true then if mbr m.mem=true then if sgn m.n=true then 0 else 1 else 1 else 11:=by
 unfold zcb
 rw [if_neg (by omega:¬ m.k=1)]
 rw [if_neg (by omega:¬ m.k=2)]
 rw [if_neg (by omega:¬ m.k=3)]
 rw [if_neg (by omega:¬ m.k=4)]
 rw [if_neg (by omega:¬ m.k=5)]
 rw [if_pos hk]
 generalize mbr m.mem=t0
 generalize sgn m.n=t1
 cases t0<;>cases t1<;>first | rfl | simp
theorem zf9 {m:Mg} (hk:m.k=7):zcb C0 m=if mbr m.mem=true then if sgn m.n=true then C0.is m.t else 1 else 1:=by
 unfold zcb
 rw [if_neg (by omega:¬ m.k=1)]
 rw [if_neg (by omega:¬ m.k=2)]
 rw [if_neg (by omega:¬ m.k=3)]
 rw [if_neg (by omega:¬ m.k=4)]
 rw [if_neg (by omega:¬ m.k=5)]
 rw [if_neg (by omega:¬ m.k=6)]
 rw [if_pos hk]
 generalize mbr m.mem=t0
 generalize sgn m.n=t1
 cases t0<;>cases t1<;>first | rfl | simp
theorem zi3 {m:Mg} (hk:m.k=8):zcb C0 m=if mbr m.q.mem=true then quE C0 m.q else 1:=by
 unfold zcb
 rw [if_neg (by omega:¬ m.k=1)]
 rw [if_neg (by omega:¬ m.k=2)]
 rw [if_neg (by omega:¬ m.k=3)]
 rw [if_neg (by omega:¬ m.k=4)]
 rw [if_neg (by omega:¬ m.k=5)]
 rw [if_neg (by omega:¬ m.k=6)]
 rw [if_neg (by omega:¬ m.k=7)]
 rw [if_pos hk]
theorem zi4 {m:Mg} (hk:m.k=9):zcb C0 m=if mbr m.mem=true then if amt m.n=true then 0 else 1 else 1:=by
 unfold zcb
 rw [if_neg (by omega:¬ m.k=1)]
 rw [if_neg (by omega:¬ m.k=2)]
 rw [if_neg (by omega:¬ m.k=3)]
 rw [if_neg (by omega:¬ m.k=4)]
 rw [if_neg (by omega:¬ m.k=5)]
 rw [if_neg (by omega:¬ m.k=6)]
 rw [if_neg (by omega:¬ m.k=7)]
 rw [if_neg (by omega:¬ m.k=8)]
 rw [if_pos hk]
 generalize mbr m.mem=t0
 generalize amt m.n=t1
 cases t0<;>cases t1<;>first | rfl | simp
theorem zgm {m:Mg} (hk:m.k=10):zcb C0 m=if mbr m.mem=true then if amt m.tr=true then zb0 C0 m.day else 1 else 1:=by
 unfold zcb
 rw [if_neg (by omega:¬ m.k=1)]
 rw [if_neg (by omega:¬ m.k=2)]
 rw [if_neg (by omega:¬ m.k=3)]
 rw [if_neg (by omega:¬ m.k=4)]
 rw [if_neg (by omega:¬ m.k=5)]
 rw [if_neg (by omega:¬ m.k=6)]
 rw [if_neg (by omega:¬ m.k=7)]
 rw [if_neg (by omega:¬ m.k=8)]
 rw [if_neg (by omega:¬ m.k=9)]
 rw [if_pos hk]
 generalize mbr m.mem=t0
 generalize amt m.tr=t1
 cases t0<;>cases t1<;>first | rfl | simp
theorem ze2 {m:Mg} (hk:m.k=11):zcb C0 m=if mbr m.mem=true then if amt m.tr=true then if decide (m.ins.length≤64)=true then zb3 C0 (m.out::m.ins) else 1 else 1 else 1:=by
 unfold zcb
 rw [if_neg (by omega:¬ m.k=1)]
 rw [if_neg (by omega:¬ m.k=2)]
 rw [if_neg (by omega:¬ m.k=3)]
 rw [if_neg (by omega:¬ m.k=4)]
 rw [if_neg (by omega:¬ m.k=5)]
 rw [if_neg (by omega:¬ m.k=6)]
 rw [if_neg (by omega:¬ m.k=7)]
 rw [if_neg (by omega:¬ m.k=8)]
 rw [if_neg (by omega:¬ m.k=9)]
 rw [if_neg (by omega:¬ m.k=10)]
 rw [if_pos hk]
 generalize mbr m.mem=t0
 generalize amt m.tr=t1
 generalize decide (m.ins.length≤64)=t2
 cases t0<;>cases t1<;>cases t2<;>first | rfl | simp
theorem zgn {m:Mg} (hk:m.k=12):zcb C0 m=if mbr m.mem=true then zb0 C0 m.day else 1:=by
 unfold zcb
 rw [if_neg (by omega:¬ m.k=1)]
 rw [if_neg (by omega:¬ m.k=2)]
 rw [if_neg (by omega:¬ m.k=3)]
 rw [if_neg (by omega:¬ m.k=4)]
 rw [if_neg (by omega:¬ m.k=5)]
 rw [if_neg (by omega:¬ m.k=6)]
 rw [if_neg (by omega:¬ m.k=7)]
 rw [if_neg (by omega:¬ m.k=8)]
 rw [if_neg (by omega:¬ m.k=9)]
 rw [if_neg (by omega:¬ m.k=10)]
 rw [if_neg (by omega:¬ m.k=11)]
 rw [if_pos hk]
theorem zgo {m:Mg} (hk:m.k=13):zcb C0 m=if mbr m.mem=true then 0 else 1:=by
 unfold zcb
 rw [if_neg (by omega:¬ m.k=1)]
 rw [if_neg (by omega:¬ m.k=2)]
 rw [if_neg (by omega:¬ m.k=3)]
 rw [if_neg (by omega:¬ m.k=4)]
 rw [if_neg (by omega:¬ m.k=5)]
 rw [if_neg (by omega:¬ m.k=6)]
 rw [if_neg (by omega:¬ m.k=7)]
 rw [if_neg (by omega:¬ m.k=8)]
 rw [if_neg (by omega:¬ m.k=9)]
 rw [if_neg (by omega:¬ m.k=10)]
 rw [if_neg (by omega:¬ m.k=11)]
 rw [if_neg (by omega:¬ m.k=12)]
 rw [if_pos hk]
theorem zgp {m:Mg} (hk:m.k=14):zcb C0 m=if mbr m.mem=true then if inn m.n 0 1125899906842624=true then 0 else 1 else 1:=by
 unfold zcb
 rw [if_neg (by omega:¬ m.k=1)]
 rw [if_neg (by omega:¬ m.k=2)]
 rw [if_neg (by omega:¬ m.k=3)]
 rw [if_neg (by omega:¬ m.k=4)]
 rw [if_neg (by omega:¬ m.k=5)]
 rw [if_neg (by omega:¬ m.k=6)]
 rw [if_neg (by omega:¬ m.k=7)]
 rw [if_neg (by omega:¬ m.k=8)]
 rw [if_neg (by omega:¬ m.k=9)]
 rw [if_neg (by omega:¬ m.k=10)]
 rw [if_neg (by omega:¬ m.k=11)]
 rw [if_neg (by omega:¬ m.k=12)]
 rw [if_neg (by omega:¬ m.k=13)]
 rw [if_pos hk]
 generalize mbr m.mem=t0
 generalize inn m.n 0 1125899906842624=t1
 cases t0<;>cases t1<;>first | rfl | simp
theorem zgq {m:Mg} (hk:m.k=15):zcb C0 m=if amt m.tr=true then if inn m.rate (-1000000) 1000000=true then zb0 C0 m.day else 1 else 1:=by
 unfold zcb
 rw [if_neg (by omega:¬ m.k=1)]
 rw [if_neg (by omega:¬ m.k=2)]
 rw [if_neg (by omega:¬ m.k=3)]
 rw [if_neg (by omega:¬ m.k=4)]
 rw [if_neg (by omega:¬ m.k=5)]
 rw [if_neg (by omega:¬ m.k=6)]
 rw [if_neg (by omega:¬ m.k=7)]
 rw [if_neg (by omega:¬ m.k=8)]
 rw [if_neg (by omega:¬ m.k=9)]
 rw [if_neg (by omega:¬ m.k=10)]
 rw [if_neg (by omega:¬ m.k=11)]
 rw [if_neg (by omega:¬ m.k=12)]
 rw [if_neg (by omega:¬ m.k=13)]
 rw [if_neg (by omega:¬ m.k=14)]
 rw [if_pos hk]
 generalize amt m.tr=t0
 generalize inn m.rate (-1000000) 1000000=t1
 cases t0<;>cases t1<;>first | rfl | simp
theorem zpc {m:Mg} (h:zcb C0 m=0):Shrt m where
 n:=fun hk=>by
  rw [zf4 hk] at h
  split at h
  ·have:=C0_ok.nm _ h;omega
  ·cases h
 a:=fun hk=>by
  rw [zf5 hk] at h
  have:=C0_ok.ast _ h
  omega
 b:=fun hk=>by
  rw [zf6 hk] at h
  have:=zm7 C0_ok h
  omega
 p:=fun hk=>by
  rw [zf7 hk] at h
  unfold prE at h
  split at h
  ·cases h
  ·rename_i hn
   exact ⟨by omega,fun y hy=>by have:=zju C0_ok _ _ h y hy;omega⟩
 t:=fun hk=>by
  rcases hk with hk | hk
  ·rw [zf8 hk] at h
   split at h
   ·rename_i hc;have:=C0_ok.cu _ hc;omega
   ·cases h
  ·rw [zf9 hk] at h
   split at h
   ·split at h
    ·have:=C0_ok.is _ h;omega
    ·cases h
   ·cases h
 l:=fun hk=>by
  rw [ze2 hk] at h
  split at h
  ·split at h
   ·split at h
    ·rename_i hd
     have:=zhi C0_ok _ h
     refine ⟨by have:=this _ (List.mem_cons_self ..);omega,of_decide_eq_true hd,fun y hy=>by have:=this _ (List.mem_cons_of_mem _ hy);omega⟩
    ·cases h
   ·cases h
  ·cases h
theorem zcs {m:Mg} (hp:zak m=m):(m.k≠4→m.ps=[])∧(m.k≠11→m.ins=[])∧(m.k≠3→m.b.cuts=[]∧m.b.bar=[]):=by
 rcases zd0 m.k with h0 | hk | hk | hk | hk | hk | hk | hk | hk | hk | hk | hk | hk | hk | hk | hk
 ·rw [zc1 h0] at hp
  rw [← hp]
  exact ⟨fun _=>rfl,fun _=>rfl,fun _=>⟨rfl,rfl⟩⟩
 ·have e:zak m = { Mg.z with k:=1,mem:=m.mem,name:=m.name }:=by unfold zak;simp [hk]
  rw [e] at hp
  exact ⟨fun h=>by rw [← hp];rfl,fun h=>by rw [← hp];rfl,fun h=>⟨by rw [← hp];rfl,by rw [← hp];rfl⟩⟩
 ·have e:zak m = { Mg.z with k:=2,a:=m.a }:=by unfold zak;simp [hk]
  rw [e] at hp
  exact ⟨fun h=>by rw [← hp];rfl,fun h=>by rw [← hp];rfl,fun h=>⟨by rw [← hp];rfl,by rw [← hp];rfl⟩⟩
 ·have e:zak m = { Mg.z with k:=3,b:=m.b }:=by unfold zak;simp [hk]
  rw [e] at hp
  exact ⟨fun h=>by rw [← hp];rfl,fun h=>by rw [← hp];rfl,fun h=>absurd hk h⟩
 ·have e:zak m = { Mg.z with k:=4,ps:=m.ps }:=by unfold zak;simp [hk]
  rw [e] at hp
  exact ⟨fun h=>absurd hk h,fun h=>by rw [← hp];rfl,fun h=>⟨by rw [← hp];rfl,by rw [← hp];rfl⟩⟩
 ·have e:zak m = { Mg.z with k:=5,day:=m.day }:=by unfold zak;simp [hk]
  rw [e] at hp
  exact ⟨fun h=>by rw [← hp];rfl,fun h=>by rw [← hp];rfl,fun h=>⟨by rw [← hp];rfl,by rw [← hp];rfl⟩⟩
 ·have e:zak m = { Mg.z with k:=6,mem:=m.mem,t:=m.t,n:=m.n }:=by unfold zak;simp [hk]
  rw [e] at hp
  exact ⟨fun h=>by rw [← hp];rfl,fun h=>by rw [← hp];rfl,fun h=>⟨by rw [← hp];rfl,by rw [← hp];rfl⟩⟩
 ·have e:zak m = { Mg.z with k:=7,mem:=m.mem,t:=m.t,n:=m.n }:=by unfold zak;simp [hk]
  rw [e] at hp
  exact ⟨fun h=>by rw [← hp];rfl,fun h=>by rw [← hp];rfl,fun h=>⟨by rw [← hp];rfl,by rw [← hp];rfl⟩⟩
 ·have e:zak m = { Mg.z with k:=8,q:=m.q }:=by unfold zak;simp [hk]
  rw [e] at hp
  exact ⟨fun h=>by rw [← hp];rfl,fun h=>by rw [← hp];rfl,fun h=>⟨by rw [← hp];rfl,by rw [← hp];rfl⟩⟩
 ·have e:zak m = { Mg.z with k:=9,mem:=m.mem,n:=m.n }:=by unfold zak;simp [hk]
  rw [e] at hp
  exact ⟨fun h=>by rw [← hp];rfl,fun h=>by rw [← hp];rfl,fun h=>⟨by rw [← hp];rfl,by rw [← hp];rfl⟩⟩
 ·have e:zak m = { Mg.z with k:=10,mem:=m.mem,day:=m.day,tr:=m.tr }:=by unfold zak;simp [hk]
  rw [e] at hp
  exact ⟨fun h=>by rw [← hp];rfl,fun h=>by rw [← hp];rfl,fun h=>⟨by rw [← hp];rfl,by rw [← hp];rfl⟩⟩
 ·have e:zak m = { Mg.z with k:=11,mem:=m.mem,tr:=m.tr,out:=m.out,ins:=m.ins }:=by unfold zak;simp [hk]
  rw [e] at hp
  exact ⟨fun h=>by rw [← hp];rfl,fun h=>absurd hk h,fun h=>⟨by rw [← hp];rfl,by rw [← hp];rfl⟩⟩
 ·have e:zak m = { Mg.z with k:=12,mem:=m.mem,day:=m.day,done:=m.done }:=by unfold zak;simp [hk]
  rw [e] at hp
  exact ⟨fun h=>by rw [← hp];rfl,fun h=>by rw [← hp];rfl,fun h=>⟨by rw [← hp];rfl,by rw [← hp];rfl⟩⟩
 ·have e:zak m = { Mg.z with k:=13,mem:=m.mem }:=by unfold zak;simp [hk]
  rw [e] at hp
  exact ⟨fun h=>by rw [← hp];rfl,fun h=>by rw [← hp];rfl,fun h=>⟨by rw [← hp];rfl,by rw [← hp];rfl⟩⟩
 ·have e:zak m = { Mg.z with k:=14,mem:=m.mem,n:=m.n }:=by unfold zak;simp [hk]
  rw [e] at hp
  exact ⟨fun h=>by rw [← hp];rfl,fun h=>by rw [← hp];rfl,fun h=>⟨by rw [← hp];rfl,by rw [← hp];rfl⟩⟩
 ·have e:zak m = { Mg.z with k:=15,day:=m.day,tr:=m.tr,rate:=m.rate }:=by unfold zak;simp [hk]
  rw [e] at hp
  exact ⟨fun h=>by rw [← hp];rfl,fun h=>by rw [← hp];rfl,fun h=>⟨by rw [← hp];rfl,by rw [← hp];rfl⟩⟩
theorem zpd {B:Nat} {w:World} {v:Value} {xs:List Int} (h:w.ownsRow B 3 1 v xs.length (zal xs)):∃a c,v=.slice a xs.length c∧Ins w.heap.size w a xs:=by
 rcases h.2 with ⟨hv,hn⟩ | ⟨g,cap,cur,hv,hB,hg,hc,_,_,ht⟩
 ·exact ⟨none,0,by rw [hv,hn],fun h0=>by omega⟩
 ·refine ⟨_,cap,hv,fun h0=>⟨g,0,rfl,(Array.getElem?_eq_some_iff.1 hg).1,fun j hj=>?_⟩⟩
  have hx:(zal xs)[j]? = some (.int .i64 xs[j]):=by unfold zal;rw [List.getElem?_map,List.getElem?_eq_getElem hj];rfl
  rw [← ht,List.getElem?_take] at hx
  split at hx
  ·rw [cell_of_row w g _ _ 3 (0,0) hg,← Array.getElem?_toList,Nat.zero_add];exact hx
  ·cases hx
theorem Lts.nil {B:Nat} {w:World} {a:Option Addr} {xs:List Lt} (h:xs=[]):Lts B w a xs:=by subst h;exact fun h=>absurd h (by decide)
theorem Cts.nil {B:Nat} {w:World} {a:Option Addr} {xs:List Ct} (h:xs=[]):Cts B w a xs:=by subst h;exact fun h=>absurd h (by decide)
theorem Ins.nil {B:Nat} {w:World} {a:Option Addr} {xs:List Int} (h:xs=[]):Ins B w a xs:=by subst h;exact fun h=>absurd h (by decide)
theorem zi5 {B e:Nat} {w:World} {a:Option Addr} {c:Nat} {xs:List Lt} (h:w.ownsRow B e 2 (.slice a xs.length c) xs.length (zav xs)):Lts w.heap.size w a xs:=by
 obtain ⟨p,d,hv,hl⟩:=zo4 h
 injection hv with hv _ _
 rw [hv];exact hl
theorem zpe {B e:Nat} {w:World} {a:Option Addr} {c:Nat} {xs:List Ct} (h:w.ownsRow B e 3 (.slice a xs.length c) xs.length (zba xs)):Cts w.heap.size w a xs:=by
 obtain ⟨p,d,hv,hl⟩:=zo5 h
 injection hv with hv _ _
 rw [hv];exact hl
theorem zpf {B:Nat} {w:World} {a:Option Addr} {c:Nat} {xs:List Int} (h:w.ownsRow B 3 1 (.slice a xs.length c) xs.length (zal xs)):Ins w.heap.size w a xs:=by
 obtain ⟨p,d,hv,hl⟩:=zpd h
 injection hv with hv _ _
 rw [hv];exact hl
theorem Own.hld {B:Nat} {W:World} {m:Mg} {pa ia ca ba:Option Addr} {pc ic cc bc:Nat} (hp:zak m=m) (h:Own B W m pa ia ca ba pc ic cc bc):Hld W.heap.size W m pa ia ca ba:=by
 obtain ⟨h4,h11,h3⟩:=zcs hp
 refine ⟨?_,?_,?_,?_⟩
 ·by_cases hk:m.k=4
  ·exact zi5 (h.ps hk)
  ·exact Lts.nil (h4 hk)
 ·by_cases hk:m.k=11
  ·exact zi5 (h.ins hk)
  ·exact Lts.nil (h11 hk)
 ·by_cases hk:m.k=3
  ·exact zpe (h.cuts hk)
  ·exact Cts.nil (h3 hk).1
 ·by_cases hk:m.k=3
  ·exact zpf (h.bar hk)
  ·exact Ins.nil (h3 hk).2
theorem ze3 {α:Type} (f:α→List UInt8) {x:α} : ∀(l:List α),x ∈ l→(f x).length≤(zdd f l).length
  | y :: l, h => by
    show _≤(f y++zdd f l).length
    rw [List.length_append]
    rcases List.mem_cons.1 h with rfl | h
    · omega
    · have:=ze3 f l h;omega
theorem zdg {α:Type} (f:α→List UInt8) (hf:∀x,1≤(f x).length):∀(l:List α),l.length≤(zdd f l).length
  | []=>Nat.zero_le _
  | y :: l => by
    show l.length+1≤(f y++zdd f l).length
    rw [List.length_append]
    have:=zdg f hf l;have:=hf y;omega
theorem ze4 (n:Nat):1≤(zbr n).length:=by unfold zbr;simp
theorem zc8 (t:List UInt8):t.length≤(zci t).length:=by unfold zci;rw [List.length_append];omega
theorem zi6 (x:Lt):1≤(zc2 x).length:=by unfold zc2 zci;simp only [List.length_append];have:=ze4 x.i.length;omega
theorem zpg (x:Ct):1≤(zm6 x).length:=by unfold zm6 zbj;simp only [List.length_append];have:=ze4 (fo x.d);omega
theorem zi7 (x:Lt):x.i.length≤(zc2 x).length:=by unfold zc2;rw [List.length_append];have:=zc8 x.i;omega
theorem zi8:∀(l:List Int),l.length≤(zdz l).length
  | []=>Nat.zero_le _
  | y :: l => by
    show l.length+1≤(zbj y++zdz l).length
    rw [List.length_append]
    have:=zi8 l;have:=ze4 (fo y);unfold zbj;omega
theorem zmy {m:Mg} (hp:zak m=m) (hi:inn m.k 1 15=true) (hb:(zb8 m).length≤1000000):Szd m:=by
 have hz:∀{l:List UInt8},l=[]→l.length≤140737488351232:=fun h=>by rw [h];exact Nat.zero_le _
 rcases zd0 m.k with h0 | hk | hk | hk | hk | hk | hk | hk | hk | hk | hk | hk | hk | hk | hk | hk
 ·rw [h0] at hi;cases hi
 ·have e:zak m = { Mg.z with k:=1,mem:=m.mem,name:=m.name }:=by unfold zak;simp [hk]
  rw [e] at hp
  have e2:zb8 m=zbj m.mem++zci m.name:=by unfold zb8;simp [hk]
  rw [e2] at hb
  exact ⟨by simp only [bkL,zct,List.length_append] at hb;have:=zc8 m.name;omega,hz (by rw [← hp];rfl),hz (by rw [← hp];rfl),hz (by rw [← hp];rfl),hz (by rw [← hp];rfl),hz (by rw [← hp];rfl),fun y hy=>absurd hy (by rw [show m.ps=[] from by rw [← hp];rfl];simp),fun y hy=>absurd hy (by rw [show m.ins=[] from by rw [← hp];rfl];simp),by rw [show m.b.cuts=[] from by rw [← hp];rfl];exact Nat.zero_le _,by rw [show m.b.bar=[] from by rw [← hp];rfl];exact Nat.zero_le _,by rw [show m.ps=[] from by rw [← hp];rfl];exact Nat.zero_le _,by rw [show m.ins=[] from by rw [← hp];rfl];exact Nat.zero_le _⟩
 ·have e:zak m = { Mg.z with k:=2,a:=m.a }:=by unfold zak;simp [hk]
  rw [e] at hp
  have e2:zb8 m=zci m.a.i++(zbj m.a.iss++(zbj m.a.rat++(zbj m.a.mat++zci m.a.cur))):=by unfold zb8;simp [hk]
  rw [e2] at hb
  exact ⟨hz (by rw [← hp];rfl),by simp only [bkL,zct,List.length_append] at hb;have:=zc8 m.a.i;omega,by simp only [bkL,zct,List.length_append] at hb;have:=zc8 m.a.cur;omega,hz (by rw [← hp];rfl),hz (by rw [← hp];rfl),hz (by rw [← hp];rfl),fun y hy=>absurd hy (by rw [show m.ps=[] from by rw [← hp];rfl];simp),fun y hy=>absurd hy (by rw [show m.ins=[] from by rw [← hp];rfl];simp),by rw [show m.b.cuts=[] from by rw [← hp];rfl];exact Nat.zero_le _,by rw [show m.b.bar=[] from by rw [← hp];rfl];exact Nat.zero_le _,by rw [show m.ps=[] from by rw [← hp];rfl];exact Nat.zero_le _,by rw [show m.ins=[] from by rw [← hp];rfl];exact Nat.zero_le _⟩
 ·have e:zak m = { Mg.z with k:=3,b:=m.b }:=by unfold zak;simp [hk]
  rw [e] at hp
  have e2:zb8 m=bkL m.b:=by unfold zb8;simp [hk]
  rw [e2] at hb
  exact ⟨hz (by rw [← hp];rfl),hz (by rw [← hp];rfl),hz (by rw [← hp];rfl),by simp only [bkL,zct,List.length_append] at hb;have:=zc8 m.b.cur;omega,hz (by rw [← hp];rfl),hz (by rw [← hp];rfl),fun y hy=>absurd hy (by rw [show m.ps=[] from by rw [← hp];rfl];simp),fun y hy=>absurd hy (by rw [show m.ins=[] from by rw [← hp];rfl];simp),by simp only [bkL,zct,List.length_append] at hb;have:=zdg zm6 zpg m.b.cuts;omega,by simp only [bkL,zct,List.length_append] at hb;have:=zi8 m.b.bar;omega,by rw [show m.ps=[] from by rw [← hp];rfl];exact Nat.zero_le _,by rw [show m.ins=[] from by rw [← hp];rfl];exact Nat.zero_le _⟩
 ·have e:zak m = { Mg.z with k:=4,ps:=m.ps }:=by unfold zak;simp [hk]
  rw [e] at hp
  have e2:zb8 m=zbr m.ps.length++zdd zc2 m.ps:=by unfold zb8;simp [hk]
  rw [e2] at hb
  exact ⟨hz (by rw [← hp];rfl),hz (by rw [← hp];rfl),hz (by rw [← hp];rfl),hz (by rw [← hp];rfl),hz (by rw [← hp];rfl),hz (by rw [← hp];rfl),fun y hy=>by simp only [bkL,zct,List.length_append] at hb;have:=ze3 zc2 m.ps hy;have:=zi7 y;omega,fun y hy=>absurd hy (by rw [show m.ins=[] from by rw [← hp];rfl];simp),by rw [show m.b.cuts=[] from by rw [← hp];rfl];exact Nat.zero_le _,by rw [show m.b.bar=[] from by rw [← hp];rfl];exact Nat.zero_le _,by simp only [bkL,zct,List.length_append] at hb;have:=zdg zc2 zi6 m.ps;omega,by rw [show m.ins=[] from by rw [← hp];rfl];exact Nat.zero_le _⟩
 ·have e:zak m = { Mg.z with k:=5,day:=m.day }:=by unfold zak;simp [hk]
  rw [e] at hp
  have e2:zb8 m=zbj m.day:=by unfold zb8;simp [hk]
  rw [e2] at hb
  exact ⟨hz (by rw [← hp];rfl),hz (by rw [← hp];rfl),hz (by rw [← hp];rfl),hz (by rw [← hp];rfl),hz (by rw [← hp];rfl),hz (by rw [← hp];rfl),fun y hy=>absurd hy (by rw [show m.ps=[] from by rw [← hp];rfl];simp),fun y hy=>absurd hy (by rw [show m.ins=[] from by rw [← hp];rfl];simp),by rw [show m.b.cuts=[] from by rw [← hp];rfl];exact Nat.zero_le _,by rw [show m.b.bar=[] from by rw [← hp];rfl];exact Nat.zero_le _,by rw [show m.ps=[] from by rw [← hp];rfl];exact Nat.zero_le _,by rw [show m.ins=[] from by rw [← hp];rfl];exact Nat.zero_le _⟩
 ·have e:zak m = { Mg.z with k:=6,mem:=m.mem,t:=m.t,n:=m.n }:=by unfold zak;simp [hk]
  rw [e] at hp
  have e2:zb8 m=zbj m.mem++(zbj m.n++zci m.t):=by unfold zb8;simp [hk]
  rw [e2] at hb
  exact ⟨hz (by rw [← hp];rfl),hz (by rw [← hp];rfl),hz (by rw [← hp];rfl),hz (by rw [← hp];rfl),by simp only [bkL,zct,List.length_append] at hb;have:=zc8 m.t;omega,hz (by rw [← hp];rfl),fun y hy=>absurd hy (by rw [show m.ps=[] from by rw [← hp];rfl];simp),fun y hy=>absurd hy (by rw [show m.ins=[] from by rw [← hp];rfl];simp),by rw [show m.b.cuts=[] from by rw [← hp];rfl];exact Nat.zero_le _,by rw [show m.b.bar=[] from by rw [← hp];rfl];exact Nat.zero_le _,by rw [show m.ps=[] from by rw [← hp];rfl];exact Nat.zero_le _,by rw [show m.ins=[] from by rw [← hp];rfl];exact Nat.zero_le _⟩
 ·have e:zak m = { Mg.z with k:=7,mem:=m.mem,t:=m.t,n:=m.n }:=by unfold zak;simp [hk]
  rw [e] at hp
  have e2:zb8 m=zbj m.mem++(zbj m.n++zci m.t):=by unfold zb8;simp [hk]
  rw [e2] at hb
  exact ⟨hz (by rw [← hp];rfl),hz (by rw [← hp];rfl),hz (by rw [← hp];rfl),hz (by rw [← hp];rfl),by simp only [bkL,zct,List.length_append] at hb;have:=zc8 m.t;omega,hz (by rw [← hp];rfl),fun y hy=>absurd hy (by rw [show m.ps=[] from by rw [← hp];rfl];simp),fun y hy=>absurd hy (by rw [show m.ins=[] from by rw [← hp];rfl];simp),by rw [show m.b.cuts=[] from by rw [← hp];rfl];exact Nat.zero_le _,by rw [show m.b.bar=[] from by rw [← hp];rfl];exact Nat.zero_le _,by rw [show m.ps=[] from by rw [← hp];rfl];exact Nat.zero_le _,by rw [show m.ins=[] from by rw [← hp];rfl];exact Nat.zero_le _⟩
 ·have e:zak m = { Mg.z with k:=8,q:=m.q }:=by unfold zak;simp [hk]
  rw [e] at hp
  have e2:zb8 m=quL m.q:=by unfold zb8;simp [hk]
  rw [e2] at hb
  exact ⟨hz (by rw [← hp];rfl),hz (by rw [← hp];rfl),hz (by rw [← hp];rfl),hz (by rw [← hp];rfl),hz (by rw [← hp];rfl),hz (by rw [← hp];rfl),fun y hy=>absurd hy (by rw [show m.ps=[] from by rw [← hp];rfl];simp),fun y hy=>absurd hy (by rw [show m.ins=[] from by rw [← hp];rfl];simp),by rw [show m.b.cuts=[] from by rw [← hp];rfl];exact Nat.zero_le _,by rw [show m.b.bar=[] from by rw [← hp];rfl];exact Nat.zero_le _,by rw [show m.ps=[] from by rw [← hp];rfl];exact Nat.zero_le _,by rw [show m.ins=[] from by rw [← hp];rfl];exact Nat.zero_le _⟩
 ·have e:zak m = { Mg.z with k:=9,mem:=m.mem,n:=m.n }:=by unfold zak;simp [hk]
  rw [e] at hp
  have e2:zb8 m=zbj m.mem++zbj m.n:=by unfold zb8;simp [hk]
  rw [e2] at hb
  exact ⟨hz (by rw [← hp];rfl),hz (by rw [← hp];rfl),hz (by rw [← hp];rfl),hz (by rw [← hp];rfl),hz (by rw [← hp];rfl),hz (by rw [← hp];rfl),fun y hy=>absurd hy (by rw [show m.ps=[] from by rw [← hp];rfl];simp),fun y hy=>absurd hy (by rw [show m.ins=[] from by rw [← hp];rfl];simp),by rw [show m.b.cuts=[] from by rw [← hp];rfl];exact Nat.zero_le _,by rw [show m.b.bar=[] from by rw [← hp];rfl];exact Nat.zero_le _,by rw [show m.ps=[] from by rw [← hp];rfl];exact Nat.zero_le _,by rw [show m.ins=[] from by rw [← hp];rfl];exact Nat.zero_le _⟩
 ·have e:zak m = { Mg.z with k:=10,mem:=m.mem,day:=m.day,tr:=m.tr }:=by unfold zak;simp [hk]
  rw [e] at hp
  have e2:zb8 m=zbj m.mem++(zbj m.tr++zbj m.day):=by unfold zb8;simp [hk]
  rw [e2] at hb
  exact ⟨hz (by rw [← hp];rfl),hz (by rw [← hp];rfl),hz (by rw [← hp];rfl),hz (by rw [← hp];rfl),hz (by rw [← hp];rfl),hz (by rw [← hp];rfl),fun y hy=>absurd hy (by rw [show m.ps=[] from by rw [← hp];rfl];simp),fun y hy=>absurd hy (by rw [show m.ins=[] from by rw [← hp];rfl];simp),by rw [show m.b.cuts=[] from by rw [← hp];rfl];exact Nat.zero_le _,by rw [show m.b.bar=[] from by rw [← hp];rfl];exact Nat.zero_le _,by rw [show m.ps=[] from by rw [← hp];rfl];exact Nat.zero_le _,by rw [show m.ins=[] from by rw [← hp];rfl];exact Nat.zero_le _⟩
 ·have e:zak m = { Mg.z with k:=11,mem:=m.mem,tr:=m.tr,out:=m.out,ins:=m.ins }:=by unfold zak;simp [hk]
  rw [e] at hp
  have e2:zb8 m=zbj m.mem++(zbj m.tr++(zc2 m.out++(zbr m.ins.length++zdd zc2 m.ins))):=by unfold zb8;simp [hk]
  rw [e2] at hb
  exact ⟨hz (by rw [← hp];rfl),hz (by rw [← hp];rfl),hz (by rw [← hp];rfl),hz (by rw [← hp];rfl),hz (by rw [← hp];rfl),by simp only [bkL,zct,List.length_append] at hb;have:=zi7 m.out;omega,fun y hy=>absurd hy (by rw [show m.ps=[] from by rw [← hp];rfl];simp),fun y hy=>by simp only [bkL,zct,List.length_append] at hb;have:=ze3 zc2 m.ins hy;have:=zi7 y;omega,by rw [show m.b.cuts=[] from by rw [← hp];rfl];exact Nat.zero_le _,by rw [show m.b.bar=[] from by rw [← hp];rfl];exact Nat.zero_le _,by rw [show m.ps=[] from by rw [← hp];rfl];exact Nat.zero_le _,by simp only [bkL,zct,List.length_append] at hb;have:=zdg zc2 zi6 m.ins;omega⟩
 ·have e:zak m = { Mg.z with k:=12,mem:=m.mem,day:=m.day,done:=m.done }:=by unfold zak;simp [hk]
  rw [e] at hp
  have e2:zb8 m=zbj m.mem++(zbj m.day++zgv m.done):=by unfold zb8;simp [hk]
  rw [e2] at hb
  exact ⟨hz (by rw [← hp];rfl),hz (by rw [← hp];rfl),hz (by rw [← hp];rfl),hz (by rw [← hp];rfl),hz (by rw [← hp];rfl),hz (by rw [← hp];rfl),fun y hy=>absurd hy (by rw [show m.ps=[] from by rw [← hp];rfl];simp),fun y hy=>absurd hy (by rw [show m.ins=[] from by rw [← hp];rfl];simp),by rw [show m.b.cuts=[] from by rw [← hp];rfl];exact Nat.zero_le _,by rw [show m.b.bar=[] from by rw [← hp];rfl];exact Nat.zero_le _,by rw [show m.ps=[] from by rw [← hp];rfl];exact Nat.zero_le _,by rw [show m.ins=[] from by rw [← hp];rfl];exact Nat.zero_le _⟩
 ·have e:zak m = { Mg.z with k:=13,mem:=m.mem }:=by unfold zak;simp [hk]
  rw [e] at hp
  have e2:zb8 m=zbj m.mem:=by unfold zb8;simp [hk]
  rw [e2] at hb
  exact ⟨hz (by rw [← hp];rfl),hz (by rw [← hp];rfl),hz (by rw [← hp];rfl),hz (by rw [← hp];rfl),hz (by rw [← hp];rfl),hz (by rw [← hp];rfl),fun y hy=>absurd hy (by rw [show m.ps=[] from by rw [← hp];rfl];simp),fun y hy=>absurd hy (by rw [show m.ins=[] from by rw [← hp];rfl];simp),by rw [show m.b.cuts=[] from by rw [← hp];rfl];exact Nat.zero_le _,by rw [show m.b.bar=[] from by rw [← hp];rfl];exact Nat.zero_le _,by rw [show m.ps=[] from by rw [← hp];rfl];exact Nat.zero_le _,by rw [show m.ins=[] from by rw [← hp];rfl];exact Nat.zero_le _⟩
 ·have e:zak m = { Mg.z with k:=14,mem:=m.mem,n:=m.n }:=by unfold zak;simp [hk]
  rw [e] at hp
  have e2:zb8 m=zbj m.mem++zbj m.n:=by unfold zb8;simp [hk]
  rw [e2] at hb
  exact ⟨hz (by rw [← hp];rfl),hz (by rw [← hp];rfl),hz (by rw [← hp];rfl),hz (by rw [← hp];rfl),hz (by rw [← hp];rfl),hz (by rw [← hp];rfl),fun y hy=>absurd hy (by rw [show m.ps=[] from by rw [← hp];rfl];simp),fun y hy=>absurd hy (by rw [show m.ins=[] from by rw [← hp];rfl];simp),by rw [show m.b.cuts=[] from by rw [← hp];rfl];exact Nat.zero_le _,by rw [show m.b.bar=[] from by rw [← hp];rfl];exact Nat.zero_le _,by rw [show m.ps=[] from by rw [← hp];rfl];exact Nat.zero_le _,by rw [show m.ins=[] from by rw [← hp];rfl];exact Nat.zero_le _⟩
 ·have e:zak m = { Mg.z with k:=15,day:=m.day,tr:=m.tr,rate:=m.rate }:=by unfold zak;simp [hk]
  rw [e] at hp
  have e2:zb8 m=zbj m.tr++(zbj m.day++zbj m.rate):=by unfold zb8;simp [hk]
  rw [e2] at hb
  exact ⟨hz (by rw [← hp];rfl),hz (by rw [← hp];rfl),hz (by rw [← hp];rfl),hz (by rw [← hp];rfl),hz (by rw [← hp];rfl),hz (by rw [← hp];rfl),fun y hy=>absurd hy (by rw [show m.ps=[] from by rw [← hp];rfl];simp),fun y hy=>absurd hy (by rw [show m.ins=[] from by rw [← hp];rfl];simp),by rw [show m.b.cuts=[] from by rw [← hp];rfl];exact Nat.zero_le _,by rw [show m.b.bar=[] from by rw [← hp];rfl];exact Nat.zero_le _,by rw [show m.ps=[] from by rw [← hp];rfl];exact Nat.zero_le _,by rw [show m.ins=[] from by rw [← hp];rfl];exact Nat.zero_le _⟩
theorem zgr {r:Rd} (h:(zbg r).1.e=0):(zbg r).2=true∧r.e=0:=by
 have h2:(zbg r).2=true:=by unfold zbg at h ⊢;simp only at h ⊢;rw [h];rfl
 refine ⟨h2,?_⟩
 rcases Nat.eq_zero_or_pos r.e with h3 | h3
 ·exact h3
 ·have hne:r.e≠0:=by omega
  rw [zdb hne] at h2
  cases h2
theorem zph {r:Rd} (h:(zbg r).1.e≠0):(zbg r).2=false:=by
 unfold zbg at h ⊢
 simp only at h ⊢
 exact beq_eq_false_iff_ne.2 h
theorem zi9 {r:Rd} (h:(zah r).1.e≠0):(zah r).2=0:=by
 have e:(zas r).2=0:=by
  have h':(zas r).1.e≠0:=h
  unfold zas at h' ⊢
  split
  ·rfl
  ·rename_i h0
   rw [if_neg h0] at h'
   split
   ·rename_i h1
    rw [if_pos h1] at h'
    exact absurd (show r.e=0 by simpa using h0) h'
   ·rfl
 show un (zas r).2=0
 rw [e];rfl
theorem ztd {s:ByteArray} (hs:s.size≤1000000):Sm (zah ⟨s.data.toList,0,0⟩).1:=Sm.fw za7 ⟨Nat.zero_le _,hs⟩
theorem MV.chk {k:Int} {r:Rd} (hk:inn k 1 15=true) (hs:Sm r) (h0:(rdK k r).1.e=0) {q:Nat} {W:World} {v:Value} (h:MV (rdK k r).2 q W v):Calls Tryz.prog 12 #[v] W (KP (.int .i64 ((zcb C0 (rdK k r).2:Nat):Int)) W):=by
 obtain ⟨l,hl,hm⟩:=(zqe hk r hs.1).2.2.2 h0
 obtain ⟨h1,h2,h3,h4⟩:=hm
 have hb:(zb8 (rdK k r).2).length≤1000000:=by
  rw [← h2]
  have e:=congrArg List.length hl
  rw [List.length_append,List.length_drop] at e
  have:=hs.2;omega
 have hz:=zmy h4 (by rw [h1];exact hk) hb
 generalize (rdK k r).2=m at *
 obtain ⟨pa,ia,ca,ba,pc,ic,cc,bc,B,hq,hO,rfl⟩:=h
 have hH:=hO.hld h4
 rcases zd0 m.k with h5 | hj | hj | hj | hj | hj | hj | hj | hj | hj | hj | hj | hj | hj | hj | hj
 ·rw [h1,hk] at h5;cases h5
 ·rw [zuh hj,zf4 hj];exact zyt m pa ia ca ba pc ic cc bc hj W hH h3 hz
 ·rw [zui hj,zf5 hj];exact zyv m pa ia ca ba pc ic cc bc hj W hH h3 hz
 ·rw [zuj hj,zf6 hj];exact zyx m pa ia ca ba pc ic cc bc hj W hH h3 hz
 ·rw [zuk hj,zf7 hj];exact zyz m pa ia ca ba pc ic cc bc hj W hH h3 hz
 ·rw [zul hj,zi2 hj];exact zy1 m pa ia ca ba pc ic cc bc hj W hH h3 hz
 ·rw [zum hj,zf8 hj];exact zy3 m pa ia ca ba pc ic cc bc hj W hH h3 hz
 ·rw [zun hj,zf9 hj];exact zy5 m pa ia ca ba pc ic cc bc hj W hH h3 hz
 ·rw [zuo hj,zi3 hj];exact zy7 m pa ia ca ba pc ic cc bc hj W hH h3 hz
 ·rw [zup hj,zi4 hj];exact zy9 m pa ia ca ba pc ic cc bc hj W hH h3 hz
 ·rw [zko hj,zgm hj];exact zwe m pa ia ca ba pc ic cc bc hj W hH h3 hz
 ·rw [zkp hj,ze2 hj];exact zwh m pa ia ca ba pc ic cc bc hj W hH h3 hz
 ·rw [zkq hj,zgn hj];exact zwj m pa ia ca ba pc ic cc bc hj W hH h3 hz
 ·rw [zkr hj,zgo hj];exact zwl m pa ia ca ba pc ic cc bc hj W hH h3 hz
 ·rw [zks hj,zgp hj];exact zwn m pa ia ca ba pc ic cc bc hj W hH h3 hz
 ·rw [zkt hj,zgq hj];exact zwp m pa ia ca ba pc ic cc bc hj W hH h3 hz
theorem zte (s:ByteArray) (hs:s.size≤1000000) (w:World) (m:Mg) (n:Nat) (h:zgw C0 s.data.toList=(m,n,0)):Calls Tryz.prog 20 #[.string s] w (DcV s.size (fun q W v=>MV m q W v) w):=by
 unfold zgw at h
 split at h
 ·rename_i h1;injection h with _ h;injection h with _ h;exact absurd h h1
 rename_i h1
 split at h
 ·injection h with _ h;injection h with _ h;cases h
 rename_i h2
 split at h
 ·rename_i h3;injection h with _ h;injection h with _ h;exact absurd h h3
 rename_i h3
 split at h
 ·rename_i h4;injection h with _ h;injection h with _ h;exact absurd h h4
 rename_i h4
 injection h with hm _
 have h2':inn (zah ⟨s.data.toList,0,0⟩).2 1 15=true:=by simpa using h2
 have h3':(zbg (rdK (zah ⟨s.data.toList,0,0⟩).2 (zah ⟨s.data.toList,0,0⟩).1).1).1.e=0:=by simpa using h3
 have h4':zcb C0 (rdK (zah ⟨s.data.toList,0,0⟩).2 (zah ⟨s.data.toList,0,0⟩).1).2=0:=by simpa using h4
 have hsm:=ztd hs
 obtain ⟨r1,k,hr⟩:∃a b,zah ⟨s.data.toList,0,0⟩=(a,b):=⟨_,_,rfl⟩
 rw [hr] at h2' h3' h4' hm hsm
 obtain ⟨he,h0⟩:=zgr h3'
 refine (zxu s (by omega) w r1 (rdK k r1).1 k (QK k r1) (QK.stb k r1) hr (fun q w' hq hR hb=>zwd h2' w' hR hsm) (fun q w v hQ=>hQ.1) he (fun q w v hQ=>?_)).mono ?_
 ·have:=MV.chk h2' hsm h0 (hQ.2 h0)
  rw [h4'] at this
  exact this
 ·rintro e w' ⟨v,q,he,hq,hQ,hb⟩
  exact ⟨v,q,he,hq,by unfold Hid;rw [← hm];exact hQ.out.2 h0,hb⟩
theorem zpi (s:ByteArray) (hs:s.size≤1000000) (w:World) (m:Mg) (n g:Nat) (hg:g≠0) (h:zgw C0 s.data.toList=(m,n,g)):Calls Tryz.prog 20 #[.string s] w (DcP n g w):=by
 have hsm:=ztd hs
 have hz:=@zi9 ⟨s.data.toList,0,0⟩
 unfold zgw at h
 obtain ⟨r1,k,hr⟩:∃a b,zah ⟨s.data.toList,0,0⟩=(a,b):=⟨_,_,rfl⟩
 rw [hr] at h hsm hz
 split at h
 ·rename_i h1
  injection h with _ h;injection h with ha hb
  have hk:k=0:=hz h1
  have e:=zdb (r:=r1) h1
  have:=zvh s (by omega) w r1 r1 k (fun _ _ v=>v=.nilIface) ⟨fun _ _ _ _ h _=>h,fun _ _ _ _ h=>h⟩ hr (fun q w' hq hR hb=>zxx k (by rw [hk];decide) w' hR) (fun _ _ _ h=>h) h1 (by rw [e])
  rw [e] at this
  rw [← ha,← hb]
  exact this
 rename_i h1
 have h1':r1.e=0:=by simpa using h1
 split at h
 ·rename_i h2
  injection h with _ h;injection h with ha hb
  rw [← ha,← hb]
  exact zyi s (by omega) w r1 r1 k (fun _ _ v=>v=.nilIface) ⟨fun _ _ _ _ h _=>h,fun _ _ _ _ h=>h⟩ hr (fun q w' hq hR hb=>zxx k (by simpa using h2) w' hR) (fun _ _ _ h=>h) h1'
 rename_i h2
 have h2':inn k 1 15=true:=by simpa using h2
 split at h
 ·rename_i h3
  injection h with _ h;injection h with ha hb
  rw [← ha,← hb]
  exact zvi s (by omega) w r1 (rdK k r1).1 k (QK k r1) (QK.stb k r1) hr (fun q w' hq hR hb=>zwd h2' w' hR hsm) (fun q w v hQ=>hQ.1) (zph h3)
 rename_i h3
 have h3':(zbg (rdK k r1).1).1.e=0:=by simpa using h3
 obtain ⟨he,h0⟩:=zgr h3'
 split at h
 ·rename_i h4
  injection h with _ h;injection h with ha hb
  have hn:n=s.size:=by rw [← ha];rfl
  rw [hn,← hb]
  exact zyj s (by omega) w r1 (rdK k r1).1 k (QK k r1) (QK.stb k r1) hr (fun q w' hq hR hb=>zwd h2' w' hR hsm) (fun q w v hQ=>hQ.1) he _ h4 (fun q w v hQ=>MV.chk h2' hsm h0 (hQ.2 h0))
 ·injection h with _ h;injection h with _ h
  exact absurd h.symm hg
end Go.Proofs.YtdmlgheajblcdaaGreat
