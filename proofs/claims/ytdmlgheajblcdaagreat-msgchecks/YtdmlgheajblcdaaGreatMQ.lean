/- Layer 10: the chapter's example. -/
import Derived.Test.YtdmlgheajblcdaaGreatMP
import Derived.Test.YtdmlgheajblcdaaGreatMN
import Derived.WalkKit
import Derived.ProofKit
import Derived.Handy
import Derived.WalkLawsBesides
import Derived.WalkSpells
import Derived.BigQuiet
import Derived.BigCall
import Derived.Deep.QuietTactic
import Derived.Deep.Light
import Derived.Deep.OwnRows
import Derived.Laws.AppendOwnNone
import Derived.Laws.Strings3
import Derived.Laws.RangeAny
import Derived.Deep.RegionWith
import Derived.Lib.BitFns
import Derived.Lib.Walk
import Derived.Lib.Strings
import Derived.Lib.OthersKept
import Derived.Deep.CutBlock
import Derived.Deep.DeepCutAuto
import Derived.Deep.LoopGhost
import Derived.Deep.RegionHeld3
import Derived.Lib.SmallJoins
import Derived.Maps.AppendAt
import Derived.Laws.IdiomStrings
import Derived.Lib.AppendZeros
import Derived.Deep.WholeRow
import Derived.Laws.BitsAllLaws
import Derived.Lib.ConvBytes
import Derived.Deep.RegionLaw
namespace Go.Proofs.YtdmlgheajblcdaaGreat
open Go.RowKit
set_option linter.unusedVariables false
set_option linter.unusedSimpArgs false
set_option maxRecDepth 20000
set_option maxHeartbeats 4000000 in
theorem message5 (q : Nat) (r r1 : Rd) (a : Int) (h1 : rInt r = (r1, a)) (w : World) (hR : Rm w q r) : Calls Tryz.prog 56 #[.agg #[.pointer (some ⟨q, 0, none⟩)], .int .i64 5] w (MsP q r1 (fun _ v => v = .iface 74 (.agg #[.int .i64 a])) w) := by
  have HR : Hid (Rm (w.alloc (.cells #[.pointer (some ⟨q, 0, none⟩)] 133)) q r) := hR.keep (below_a w _)
  have HB : Hid (Bt q w (w.alloc (.cells #[.pointer (some ⟨q, 0, none⟩)] 133))) := Bt.of_below (below_a w _)
  have HI : Hid (∀ w, Rm w q r → Calls Tryz.prog 57 #[.pointer (some ⟨q, 0, none⟩)] w (RP q (.int .i64 a) r1 w)) := fun w h => by have := xint q _ w h; rw [h1] at this; exact this
  clear h1 hR
  go_enter Tryz.func56, Tryz.ntmps56
  go_wp2_with fail
  refine (HI.out _ HR.out).mono ?_
  rintro e w2 ⟨rfl, HR2, HB2⟩
  have HB3 : Hid (Bt q w w2) := HB.out.trans HB2.out
  clear HB HB2 HI HR
  go_wp2_with fail
  go_ret
  exact ⟨_, rfl, rfl, HR2, HB3⟩
theorem ex_r1 : rInt ⟨[10, 14], 0, 0⟩ = (⟨[10, 14], 1, 0⟩, 5) := by rfl
theorem ex_r2 : rInt ⟨[10, 14], 1, 0⟩ = (⟨[10, 14], 2, 0⟩, 7) := by rfl
theorem ex_r3 : (rEnd ⟨[10, 14], 2, 0⟩).2 = true := by decide +kernel
theorem decodeR (w : World) : Calls Tryz.prog 20 #[.string ⟨#[10, 14]⟩] w (DcV 2 (fun _ _ v => v = .iface 74 (.agg #[.int .i64 7])) w) := by
  refine decD ⟨#[10, 14]⟩ (by decide) w ⟨[10, 14], 1, 0⟩ ⟨[10, 14], 2, 0⟩ 5 (fun _ _ v => v = .iface 74 (.agg #[.int .i64 7])) ⟨fun _ _ _ _ h _ => h, fun _ _ _ _ h => h⟩ ex_r1 ?_ ?_ ex_r3 ?_
  · intro q w' hq hR hb
    exact message5 q _ _ 7 ex_r2 w' hR
  · intro q w v h
    exact ⟨_, _, h⟩
  · intro q w v h
    subst h
    exact Check5 7 true (by decide) w
theorem encodeR (w : World) : Calls Tryz.prog 18 #[.iface 74 (.agg #[.int .i64 7])] w (KP (.tuple #[.string ⟨#[10, 14]⟩, .int .i64 0]) w) := by
  have h := encode5 7 (intL 7) w (Check5 7 true (by decide) w) (fun w' p v l hb hW hp hl => write5 p p v l 7 ⟨by decide, by decide⟩ w' hW (by omega))
  have e : (intL 5 ++ intL 7).toArray = #[10, 14] := by decide
  rw [e] at h
  exact h
/-- a message of the reference's, cell by cell -/
def mcs (m : Mg) (pa ia ca ba : Option Addr) (pc ic cc bc : Nat) : Array Value := #[.int .i64 m.k, .int .i64 m.mem, .string ⟨m.name.toArray⟩, .string ⟨m.a.i.toArray⟩, .int .i64 m.a.iss, .int .i64 m.a.rat, .int .i64 m.a.mat, .string ⟨m.a.cur.toArray⟩, .int .i64 m.b.id, .int .i64 m.b.ver, .string ⟨m.b.cur.toArray⟩, .int .i64 m.b.rat, .int .i64 m.b.least, .int .i64 m.b.most, .slice ca m.b.cuts.length cc, .int .i64 m.b.iss, .int .i64 m.b.ass, .slice ba m.b.bar.length bc, .slice pa m.ps.length pc, .int .i64 m.day, .string ⟨m.t.toArray⟩, .int .i64 m.n, .int .i64 m.q.id, .int .i64 m.q.mem, .int .i64 m.q.side, .int .i64 m.q.bas, .int .i64 m.q.am, .int .i64 m.q.rate, .int .i64 m.q.st, .int .i64 m.q.en, .string ⟨m.out.i.toArray⟩, .int .i64 m.out.q, .slice ia m.ins.length ic, .int .i64 m.tr, .bool m.done, .int .i64 m.rate]
theorem mcs_size (m : Mg) (pa ia ca ba : Option Addr) (pc ic cc bc : Nat) : (mcs m pa ia ca ba pc ic cc bc).size = 36 := rfl
theorem mcs_one (m : Mg) (pa ia ca ba : Option Addr) (pc ic cc bc : Nat) : (mcs m pa ia ca ba pc ic cc bc).all (·.oneCell') = true := by simp [mcs, Value.oneCell']
theorem info35 : (Tryz.prog.info? 35).map (·.size) = some 36 := by kernel_rfl
theorem hstore (w : World) (g : Nat) (old M : Array Value) (hg : w.heap[g]? = some (.cells old 35 (0, 0))) (ho : old.size = 36) (hs : M.size = 36) (h1 : M.all (·.oneCell') = true) : (Instr.storeAt 35 (.pointer (some ⟨g, 0, none⟩)) (.agg M)).run Tryz.prog w = .ok () (w.setRow g M) := by
  have h := run_storeVar_row (P := Tryz.prog) w g 35 35 old M hg (by rw [hs]; exact info35) (by rw [ho, hs]) h1
  simp only [Instr.storeAt, Instr.sureAddr, asAddr, Sem.run_bind, Sem.run_pure, Result.andThen_ok]
  exact h
theorem hload (w : World) (g : Nat) (M : Array Value) (hs : M.size = 36) (hg : w.heap[g]? = some (.cells M 35 (0, 0))) : (loadVar 35 ⟨g, 0, none⟩).run Tryz.prog w = .ok (.agg M) w :=
  run_loadVar_row w g 35 35 _ (0, 0) _ hg Tryz.underlying35 rfl (by rw [hs]; exact info35)
theorem hloadAt (w : World) (g : Nat) (M : Array Value) (hs : M.size = 36) (hg : w.heap[g]? = some (.cells M 35 (0, 0))) : (Instr.loadAt 35 (.pointer (some ⟨g, 0, none⟩))).run Tryz.prog w = .ok (.agg M) w := by
  simp only [Instr.loadAt, Instr.sureAddr, asAddr, Sem.run_bind, Sem.run_pure, Result.andThen_ok]
  exact hload w g M hs hg
theorem below_setRow' {B : Nat} {a w : World} {q : Nat} {cs : Array Value} (h : Below B a w) (hq : B ≤ q) : Below B a (w.setRow q cs) :=
  ⟨h.os, h.tape, h.output, by have := h.size; simpa [World.setRow] using this, fun k hk => (setRow_other w q k cs (by omega)).trans (h.block k hk)⟩
section
variable {P : Program} {ops : Array Oper} {rest : List Oper} {o : Oper} {a : Act} {Q : Exit → Act → World → Prop}
theorem wl_build2 (w : World) (hgd : o.guard = none) (t : TypeId) (n0 n1 : Nat) (x0 x1 : Operand) (ho : o.op = .build t #[(n0, x0), (n1, x1)]) (v0 v1 : Value) (h0 : a.eval x0 = v0) (h1 : a.eval x1 = v1) (v' : Value) (hr : (Instr.build t #[(n0, v0), (n1, v1)]).run P w = .ok v' w) (h : wpList P ops Q rest (a.put o.dst v') w) : wpList P ops Q (o :: rest) a w :=
  wpList_plain hgd fun K hK => by
    unfold Oper.wp execOp
    simp only [ho, List.map_toArray, List.map_cons, List.map_nil, h0, h1, Sem.run_bind, Sem.run_pure, Result.andThen_ok, hr]
    exact hK _ _ h
theorem wl_build3 (w : World) (hgd : o.guard = none) (t : TypeId) (n0 n1 n2 : Nat) (x0 x1 x2 : Operand) (ho : o.op = .build t #[(n0, x0), (n1, x1), (n2, x2)]) (v0 v1 v2 : Value) (h0 : a.eval x0 = v0) (h1 : a.eval x1 = v1) (h2 : a.eval x2 = v2) (v' : Value) (hr : (Instr.build t #[(n0, v0), (n1, v1), (n2, v2)]).run P w = .ok v' w) (h : wpList P ops Q rest (a.put o.dst v') w) : wpList P ops Q (o :: rest) a w :=
  wpList_plain hgd fun K hK => by
    unfold Oper.wp execOp
    simp only [ho, List.map_toArray, List.map_cons, List.map_nil, h0, h1, h2, Sem.run_bind, Sem.run_pure, Result.andThen_ok, hr]
    exact hK _ _ h
theorem wl_build4 (w : World) (hgd : o.guard = none) (t : TypeId) (n0 n1 n2 n3 : Nat) (x0 x1 x2 x3 : Operand) (ho : o.op = .build t #[(n0, x0), (n1, x1), (n2, x2), (n3, x3)]) (v0 v1 v2 v3 : Value) (h0 : a.eval x0 = v0) (h1 : a.eval x1 = v1) (h2 : a.eval x2 = v2) (h3 : a.eval x3 = v3) (v' : Value) (hr : (Instr.build t #[(n0, v0), (n1, v1), (n2, v2), (n3, v3)]).run P w = .ok v' w) (h : wpList P ops Q rest (a.put o.dst v') w) : wpList P ops Q (o :: rest) a w :=
  wpList_plain hgd fun K hK => by
    unfold Oper.wp execOp
    simp only [ho, List.map_toArray, List.map_cons, List.map_nil, h0, h1, h2, h3, Sem.run_bind, Sem.run_pure, Result.andThen_ok, hr]
    exact hK _ _ h
theorem wl_build5 (w : World) (hgd : o.guard = none) (t : TypeId) (n0 n1 n2 n3 n4 : Nat) (x0 x1 x2 x3 x4 : Operand) (ho : o.op = .build t #[(n0, x0), (n1, x1), (n2, x2), (n3, x3), (n4, x4)]) (v0 v1 v2 v3 v4 : Value) (h0 : a.eval x0 = v0) (h1 : a.eval x1 = v1) (h2 : a.eval x2 = v2) (h3 : a.eval x3 = v3) (h4 : a.eval x4 = v4) (v' : Value) (hr : (Instr.build t #[(n0, v0), (n1, v1), (n2, v2), (n3, v3), (n4, v4)]).run P w = .ok v' w) (h : wpList P ops Q rest (a.put o.dst v') w) : wpList P ops Q (o :: rest) a w :=
  wpList_plain hgd fun K hK => by
    unfold Oper.wp execOp
    simp only [ho, List.map_toArray, List.map_cons, List.map_nil, h0, h1, h2, h3, h4, Sem.run_bind, Sem.run_pure, Result.andThen_ok, hr]
    exact hK _ _ h
theorem wl_load (w : World) (hgd : o.guard = none) (t : TypeId) (x : Operand) (ho : o.op = .load t x) (vx : Value) (hx : a.eval x = vx) (v' : Value) (hr : (Instr.loadAt t vx).run P w = .ok v' w) (h : wpList P ops Q rest (a.put o.dst v') w) : wpList P ops Q (o :: rest) a w :=
  wpList_plain hgd fun K hK => by
    unfold Oper.wp execOp
    simp only [ho, hx, Sem.run_bind, Sem.run_pure, Result.andThen_ok, hr]
    exact hK _ _ h
theorem wl_store (w w' : World) (hgd : o.guard = none) (t : TypeId) (x y : Operand) (ho : o.op = .store t x y) (vx vy : Value) (hx : a.eval x = vx) (hy : a.eval y = vy) (hr : (Instr.storeAt t vx vy).run P w = .ok () w') (h : wpList P ops Q rest (a.put o.dst undef) w') : wpList P ops Q (o :: rest) a w :=
  wpList_plain hgd fun K hK => by
    unfold Oper.wp execOp
    simp only [ho, hx, hy, Sem.run_bind, Sem.run_pure, Result.andThen_ok, hr]
    exact hK _ _ h
end
theorem res_cell {P : Program} (fn : Func) (tmps : Array Value) (a t : Nat) (ad : Addr) (v : Value) (w : World) (hf : fn.results = #[.cell a t]) (ht : tmps.getD a undef = .pointer (some ad)) (hl : (loadVar t ad).run P w = .ok v w) : (results fn tmps).run P w = .ok v w := by
  have ht2 : tmps[a]?.getD undef = .pointer (some ad) := by simpa using ht
  simp [results, hf, ht2, asAddr, hl]
theorem build5 (d : Int) (w : World) : (Instr.build 35 #[(0, .int .i64 5), (6, .int .i64 d)]).run Tryz.prog w = .ok (.agg (mcs { Mg.z with k := 5, day := d } none none none none 0 0 0 0)) w := by kernel_rfl
set_option maxHeartbeats 4000000 in
theorem told5 (d : Int) (w : World) : Calls Tryz.prog 23 #[.iface 74 (.agg #[.int .i64 d])] w (KP (.agg (mcs { Mg.z with k := 5, day := d } none none none none 0 0 0 0)) w) := by
  have t1 := tn5_1
  have t2 := tn5_2
  have t3 := tn5_3
  have t4 := tn5_4
  have t5 := ty5
  have HBu : Hid (∀ w, (Instr.build 35 #[(0, .int .i64 5), (6, .int .i64 d)]).run Tryz.prog w = .ok (.agg (mcs { Mg.z with k := 5, day := d } none none none none 0 0 0 0)) w) := fun w => build5 d w
  have HM1 : Hid ((mcs { Mg.z with k := 5, day := d } none none none none 0 0 0 0).size = 36) := mcs_size _ _ _ _ _ _ _ _ _
  have HM2 : Hid ((mcs { Mg.z with k := 5, day := d } none none none none 0 0 0 0).all (·.oneCell') = true) := mcs_one _ _ _ _ _ _ _ _ _
  generalize mcs { Mg.z with k := 5, day := d } none none none none 0 0 0 0 = M at *
  have HB : Hid (Below w.heap.size w ((w.alloc (.cells #[.int .i64 0, .int .i64 0, .string ⟨#[]⟩, .string ⟨#[]⟩, .int .i64 0, .int .i64 0, .int .i64 0, .string ⟨#[]⟩, .int .i64 0, .int .i64 0, .string ⟨#[]⟩, .int .i64 0, .int .i64 0, .int .i64 0, .slice none 0 0, .int .i64 0, .int .i64 0, .slice none 0 0, .slice none 0 0, .int .i64 0, .string ⟨#[]⟩, .int .i64 0, .int .i64 0, .int .i64 0, .int .i64 0, .int .i64 0, .int .i64 0, .int .i64 0, .int .i64 0, .int .i64 0, .string ⟨#[]⟩, .int .i64 0, .slice none 0 0, .int .i64 0, .bool false, .int .i64 0] 35)).alloc (.cells #[.int .i64 d] 74))) := bt (below_a w _) (below_a _ _)
  have HX : Hid (Bx ((w.alloc (.cells #[.int .i64 0, .int .i64 0, .string ⟨#[]⟩, .string ⟨#[]⟩, .int .i64 0, .int .i64 0, .int .i64 0, .string ⟨#[]⟩, .int .i64 0, .int .i64 0, .string ⟨#[]⟩, .int .i64 0, .int .i64 0, .int .i64 0, .slice none 0 0, .int .i64 0, .int .i64 0, .slice none 0 0, .slice none 0 0, .int .i64 0, .string ⟨#[]⟩, .int .i64 0, .int .i64 0, .int .i64 0, .int .i64 0, .int .i64 0, .int .i64 0, .int .i64 0, .int .i64 0, .int .i64 0, .string ⟨#[]⟩, .int .i64 0, .slice none 0 0, .int .i64 0, .bool false, .int .i64 0] 35)).alloc (.cells #[.int .i64 d] 74)) w.heap.size #[.int .i64 0, .int .i64 0, .string ⟨#[]⟩, .string ⟨#[]⟩, .int .i64 0, .int .i64 0, .int .i64 0, .string ⟨#[]⟩, .int .i64 0, .int .i64 0, .string ⟨#[]⟩, .int .i64 0, .int .i64 0, .int .i64 0, .slice none 0 0, .int .i64 0, .int .i64 0, .slice none 0 0, .slice none 0 0, .int .i64 0, .string ⟨#[]⟩, .int .i64 0, .int .i64 0, .int .i64 0, .int .i64 0, .int .i64 0, .int .i64 0, .int .i64 0, .int .i64 0, .int .i64 0, .string ⟨#[]⟩, .int .i64 0, .slice none 0 0, .int .i64 0, .bool false, .int .i64 0] 35) := (Bx.new w _ _).keep (below_a _ _)
  go_enter Tryz.func23, Tryz.ntmps23
  go_upto_region 16 with fail
  have c0 : ((w.alloc (.cells #[.int .i64 0, .int .i64 0, .string ⟨#[]⟩, .string ⟨#[]⟩, .int .i64 0, .int .i64 0, .int .i64 0, .string ⟨#[]⟩, .int .i64 0, .int .i64 0, .string ⟨#[]⟩, .int .i64 0, .int .i64 0, .int .i64 0, .slice none 0 0, .int .i64 0, .int .i64 0, .slice none 0 0, .slice none 0 0, .int .i64 0, .string ⟨#[]⟩, .int .i64 0, .int .i64 0, .int .i64 0, .int .i64 0, .int .i64 0, .int .i64 0, .int .i64 0, .int .i64 0, .int .i64 0, .string ⟨#[]⟩, .int .i64 0, .slice none 0 0, .int .i64 0, .bool false, .int .i64 0] 35)).alloc (.cells #[.int .i64 d] 74)).cell? ⟨w.heap.size + 1, 0, none⟩ = some (.int .i64 d) := by simp
  generalize ((w.alloc (.cells #[.int .i64 0, .int .i64 0, .string ⟨#[]⟩, .string ⟨#[]⟩, .int .i64 0, .int .i64 0, .int .i64 0, .string ⟨#[]⟩, .int .i64 0, .int .i64 0, .string ⟨#[]⟩, .int .i64 0, .int .i64 0, .int .i64 0, .slice none 0 0, .int .i64 0, .int .i64 0, .slice none 0 0, .slice none 0 0, .int .i64 0, .string ⟨#[]⟩, .int .i64 0, .int .i64 0, .int .i64 0, .int .i64 0, .int .i64 0, .int .i64 0, .int .i64 0, .int .i64 0, .int .i64 0, .string ⟨#[]⟩, .int .i64 0, .slice none 0 0, .int .i64 0, .bool false, .int .i64 0] 35)).alloc (.cells #[.int .i64 d] 74)) = w2 at *
  have HST : Hid ((Instr.storeAt 35 (.pointer (some ⟨w.heap.size, 0, none⟩)) (.agg M)).run Tryz.prog w2 = .ok () (w2.setRow w.heap.size M)) := hstore w2 w.heap.size _ M HX.out rfl HM1.out HM2.out
  have hld := hload (w2.setRow w.heap.size M) w.heap.size M HM1.out (setRow_heap w2 w.heap.size _ _ 35 (0, 0) HX.out)
  have HB2 : Hid (Below w.heap.size w (w2.setRow w.heap.size M)) := below_setRow' HB.out (Nat.le_refl _)
  go_wp2_with (first | (guard_target =~ wpList _ _ _ (⟨_, Op.build _ _, _, _, _, _⟩ :: _) _ _; refine wl_build2 _ rfl 35 _ _ _ _ rfl _ _ rfl rfl _ (HBu.out _) ?_; go_simp) | (guard_target =~ wpList _ _ _ (⟨_, Op.store _ _ _, _, _, _, _⟩ :: _) _ _; refine wl_store _ _ rfl 35 _ _ rfl _ _ rfl rfl HST.out ?_; go_simp))
  refine bodyPost_ret (res_cell _ _ 2 35 _ _ _ rfl rfl hld) rfl ?_
  exact ⟨rfl, HB2⟩
theorem sameR (w : World) : Calls Tryz.prog 22 #[.agg (mcs { Mg.z with k := 5, day := 7 } none none none none 0 0 0 0), .agg #[.int .i64 5, .int .i64 0, .string ⟨#[]⟩, .string ⟨#[]⟩, .int .i64 0, .int .i64 0, .int .i64 0, .string ⟨#[]⟩, .int .i64 0, .int .i64 0, .string ⟨#[]⟩, .int .i64 0, .int .i64 0, .int .i64 0, .slice none 0 0, .int .i64 0, .int .i64 0, .slice none 0 0, .slice none 0 0, .int .i64 7, .string ⟨#[]⟩, .int .i64 0, .int .i64 0, .int .i64 0, .int .i64 0, .int .i64 0, .int .i64 0, .int .i64 0, .int .i64 0, .int .i64 0, .string ⟨#[]⟩, .int .i64 0, .slice none 0 0, .int .i64 0, .bool false, .int .i64 0]] w (KP (.bool true) w) :=
  ySame { Mg.z with k := 5, day := 7 } none none none none none none none none 0 0 0 0 0 0 0 0 w (fun h => absurd h (by decide)) (fun h => absurd h (by decide)) (fun h => absurd h (by decide)) (fun h => absurd h (by decide)) (fun h => absurd h (by decide)) (fun h => absurd h (by decide)) (fun h => absurd h (by decide)) (fun h => absurd h (by decide)) (by decide) (by decide) (by decide) (by decide)
set_option maxHeartbeats 4000000 in
theorem awake (w : World) : Calls Tryz.prog 10 #[] w (KP (.bool true) w) := by
  have HS : Hid (∀ w, Calls Tryz.prog 22 #[.agg (mcs { Mg.z with k := 5, day := 7 } none none none none 0 0 0 0), .agg #[.int .i64 5, .int .i64 0, .string ⟨#[]⟩, .string ⟨#[]⟩, .int .i64 0, .int .i64 0, .int .i64 0, .string ⟨#[]⟩, .int .i64 0, .int .i64 0, .string ⟨#[]⟩, .int .i64 0, .int .i64 0, .int .i64 0, .slice none 0 0, .int .i64 0, .int .i64 0, .slice none 0 0, .slice none 0 0, .int .i64 7, .string ⟨#[]⟩, .int .i64 0, .int .i64 0, .int .i64 0, .int .i64 0, .int .i64 0, .int .i64 0, .int .i64 0, .int .i64 0, .int .i64 0, .string ⟨#[]⟩, .int .i64 0, .slice none 0 0, .int .i64 0, .bool false, .int .i64 0]] w (KP (.bool true) w)) := sameR
  have HT : Hid (∀ w, Calls Tryz.prog 23 #[.iface 74 (.agg #[.int .i64 7])] w (KP (.agg (mcs { Mg.z with k := 5, day := 7 } none none none none 0 0 0 0)) w)) := fun w => told5 7 w
  generalize mcs { Mg.z with k := 5, day := 7 } none none none none 0 0 0 0 = M at *
  go_enter Tryz.func10, Tryz.ntmps10
  go_wp2_with fail
  refine (encodeR _).mono ?_
  rintro e w2 ⟨rfl, hb2⟩
  go_wp2_with fail
  refine (decodeR _).mono ?_
  rintro e w3 ⟨v, q, rfl, hq, HV, hb3⟩
  have hv := HV.out
  subst hv
  have HB3 : Hid (Below w.heap.size w w3) := bt hb2.out hb3.out
  clear hb2 hb3 HV hq
  go_wp2_with fail
  refine (HT.out _).mono ?_
  rintro e w4 ⟨rfl, hb4⟩
  have HB4 : Hid (Below w.heap.size w w4) := bt HB3.out hb4.out
  clear hb4 HB3
  go_wp2_with fail
  refine (HS.out _).mono ?_
  rintro e w5 ⟨rfl, hb5⟩
  have HB5 : Hid (Below w.heap.size w w5) := bt HB4.out hb5.out
  clear hb5 HB4
  go_wp2_with fail
  go_ret
  exact KP.mk rfl HB5.out
end Go.Proofs.YtdmlgheajblcdaaGreat
