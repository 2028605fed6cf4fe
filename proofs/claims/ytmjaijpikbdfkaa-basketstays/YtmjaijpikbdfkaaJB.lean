/- layer 14: the document's At and Takes -/
import Derived.Test.YtmjaijpikbdfkaaJA
import Derived.Test.YtmjaijpikbdfkaaR
import Derived.WalkKit
import Derived.ProofKit
import Derived.Handy
import Derived.WalkLawsBesides
import Derived.WalkSpells
import Derived.BigQuiet
import Derived.BigCall
import Derived.Deep.QuietTactic
import Derived.Deep.Light
import Derived.Deep.OwnRows
import Derived.Laws.AppendOwnNone
import Derived.Laws.Strings3
import Derived.Laws.RangeAny
import Derived.Deep.RegionWith
import Derived.Lib.BitFns
import Derived.Lib.Walk
import Derived.Lib.Strings
import Derived.Lib.OthersKept
import Derived.Deep.CutBlock
import Derived.Deep.DeepCutAuto
import Derived.Deep.LoopGhost
import Derived.Deep.RegionHeld3
import Derived.Lib.SmallJoins
import Derived.Maps.AppendAt
import Derived.Laws.IdiomStrings
import Derived.Lib.AppendZeros
import Derived.Deep.WholeRow
import Derived.Laws.BitsAllLaws
import Derived.Lib.ConvBytes
import Derived.Deep.RegionLaw
import Derived.Maps.OwnSet
import Derived.Maps.OwnOps
import Derived.Maps.RangeWalk
import Derived.Maps.Ext
import Derived.DeepKeys4
import Derived.Laws.StructEq
import Derived.Deep.MidRow
import Derived.Lib.Bytealg
import Derived.Lib.Overlaps
import Derived.Lib.AppendZerosOnto
import Derived.Laws.MakeOwn
import Derived.Deep.Upon
namespace Go.Proofs.Ytmjaijpikbdfkaa
open Go.RowKit
set_option linter.unusedVariables false
set_option linter.unusedSimpArgs false
set_option maxRecDepth 20000
section
variable {P : Program} {ops : Array Oper} {rest : List Oper} {o : Oper} {a : Act} {Q : Exit → Act → World → Prop}
theorem wl_load (w : World) (hgd : o.guard = none) (t : TypeId) (x : Operand) (ho : o.op = .load t x) (vx : Value) (hx : a.eval x = vx) (v' : Value) (hr : (Instr.loadAt t vx).run P w = .ok v' w) (h : wpList P ops Q rest (a.put o.dst v') w) : wpList P ops Q (o :: rest) a w :=
  wpList_plain hgd fun K hK => by
    unfold Oper.wp execOp
    simp only [ho, hx, Sem.run_bind, Sem.run_pure, Result.andThen_ok, hr]
    exact hK _ _ h
theorem wl_store (w w' : World) (hgd : o.guard = none) (t : TypeId) (x y : Operand) (ho : o.op = .store t x y) (vx vy : Value) (hx : a.eval x = vx) (hy : a.eval y = vy) (hr : (Instr.storeAt t vx vy).run P w = .ok () w') (h : wpList P ops Q rest (a.put o.dst undef) w') : wpList P ops Q (o :: rest) a w :=
  wpList_plain hgd fun K hK => by
    unfold Oper.wp execOp
    simp only [ho, hx, hy, Sem.run_bind, Sem.run_pure, Result.andThen_ok, hr]
    exact hK _ _ h
end
theorem jload25 (W : World) (b p : Nat) (v0 v1 v2 v3 v4 v5 v6 v7 v8 v9 : Value) (c0 : W.cell? ⟨b, p, none⟩ = some v0) (c1 : W.cell? ⟨b, p + 1, none⟩ = some v1) (c2 : W.cell? ⟨b, p + 2, none⟩ = some v2) (c3 : W.cell? ⟨b, p + 3, none⟩ = some v3) (c4 : W.cell? ⟨b, p + 4, none⟩ = some v4) (c5 : W.cell? ⟨b, p + 5, none⟩ = some v5) (c6 : W.cell? ⟨b, p + 6, none⟩ = some v6) (c7 : W.cell? ⟨b, p + 7, none⟩ = some v7) (c8 : W.cell? ⟨b, p + 8, none⟩ = some v8) (c9 : W.cell? ⟨b, p + 9, none⟩ = some v9) : (Instr.loadAt 25 (.pointer (some ⟨b, p, none⟩))).run Try.prog W = .ok (.agg #[v0, v1, v2, v3, v4, v5, v6, v7, v8, v9]) W := by
  go_simp
/-- a basket of a row is loaded -/
theorem row_load {W : World} {blk q : Nat} {x : Bm} (h : ∀ j, j < 10 → W.cell? ⟨blk, q + j, none⟩ = (bcs x)[j]?) : (Instr.loadAt 25 (.pointer (some ⟨blk, q, none⟩))).run Try.prog W = .ok (.agg (bcs x).toArray) W :=
  jload25 W blk q _ _ _ _ _ _ _ _ _ _ (h 0 (by omega)) (h 1 (by omega)) (h 2 (by omega)) (h 3 (by omega)) (h 4 (by omega)) (h 5 (by omega)) (h 6 (by omega)) (h 7 (by omega)) (h 8 (by omega)) (h 9 (by omega))
theorem Rw.load {w W : World} {a : Option Addr} {ys : List Bm} (h : Rw 10 bcs w a ys) (hb : Below w.heap.size w W) {k : Nat} (hk : k < ys.length) : ∃ blk off, a = some ⟨blk, off, none⟩ ∧ (Instr.loadAt 25 (.pointer (some ⟨blk, off + k * 10, none⟩))).run Try.prog W = .ok (.agg (bcs ys[k]).toArray) W := by
  obtain ⟨blk, off, e, hl, hc⟩ := h (by omega)
  exact ⟨blk, off, e, row_load (fun j hj => (hb.cell (p := ⟨blk, off + k * 10 + j, none⟩) hl).trans (hc k hk j hj))⟩
theorem jinf25 : (Try.prog.info? 25).map (·.size) = some 10 := by kernel_rfl
theorem box_store {w : World} {g : Nat} {old : Array Value} (h : Bx w g old 25) (ho : old.size = 10) (y : Bm) : (Instr.storeAt 25 (.pointer (some ⟨g, 0, none⟩)) (.agg (bcs y).toArray)).run Try.prog w = .ok () (w.setRow g (bcs y).toArray) := by
  have h := run_storeVar_row (P := Try.prog) w g 25 25 old (bcs y).toArray h jinf25 (by rw [ho]; rfl) (by simp [bcs, Value.oneCell'])
  simp only [Instr.storeAt, Instr.sureAddr, asAddr, Sem.run_bind, Sem.run_pure, Result.andThen_ok]
  exact h
theorem box_load {w : World} {g : Nat} {y : Bm} (h : Bx w g (bcs y).toArray 25) : (loadVar 25 ⟨g, 0, none⟩).run Try.prog w = .ok (.agg (bcs y).toArray) w :=
  run_loadVar_row w g 25 25 _ (0, 0) _ h Try.underlying25 rfl jinf25
theorem box_loadAt {w : World} {g : Nat} {y : Bm} (h : Bx w g (bcs y).toArray 25) : (Instr.loadAt 25 (.pointer (some ⟨g, 0, none⟩))).run Try.prog w = .ok (.agg (bcs y).toArray) w := by
  simp only [Instr.loadAt, Instr.sureAddr, asAddr, Sem.run_bind, Sem.run_pure, Result.andThen_ok]
  exact box_load h
theorem Bx.setR {w : World} {b : Nat} {cs ds : Array Value} {T : Nat} (h : Bx w b cs T) : Bx (w.setRow b ds) b ds T := setRow_heap w b _ _ T (0, 0) h
theorem Bx.othR {w : World} {b c : Nat} {cs ds : Array Value} {T : Nat} (h : Bx w b cs T) (hn : b ≠ c) : Bx (w.setRow c ds) b cs T := (setRow_other w c b ds hn).trans h
theorem below_setR {B : Nat} {a w : World} {q : Nat} {cs : Array Value} (h : Below B a w) (hq : B ≤ q) : Below B a (w.setRow q cs) :=
  ⟨h.os, h.tape, h.output, by have := h.size; simpa [World.setRow] using this, fun k hk => (setRow_other w q k cs (by omega)).trans (h.block k hk)⟩
theorem res_cell2 {P : Program} (fn : Func) (tmps : Array Value) (a t b : Nat) (ad : Addr) (v u : Value) (w : World) (hf : fn.results = #[.cell a t, .tmp b]) (ht : tmps.getD a undef = .pointer (some ad)) (hu : tmps.getD b undef = u) (hl : (loadVar t ad).run P w = .ok v w) : (results fn tmps).run P w = .ok (.tuple #[v, u]) w := by
  have ht2 : tmps[a]?.getD undef = .pointer (some ad) := by simpa using ht
  have hu2 : tmps[b]?.getD undef = u := by simpa using hu
  simp [results, hf, ht2, hu2, asAddr, hl]
def Zm : Bm := ⟨Bk.z, none, 0, none, 0⟩
/-- a version of the document's list; 0: the newest one -/
def pickM (zs : List Bm) (ver : Int) : Option Bm := if (if ver = 0 then (zs.length : Int) else ver) < 1 ∨ (zs.length : Int) < (if ver = 0 then (zs.length : Int) else ver) then none else zs[((if ver = 0 then (zs.length : Int) else ver) - 1).toNat]?
def atM (ys : List Bm) (id ver : Int) : Option Bm := pickM (ofm ys id) ver
def AtP (o : Option Bm) (w : World) (e : Ending) (w' : World) : Prop := e = .returned (.tuple #[.agg (bcs (o.getD Zm)).toArray, .bool o.isSome]) ∧ Hid (Below w.heap.size w w')
theorem pick_no {zs : List Bm} {ver : Int} (h : (if ver = 0 then (zs.length : Int) else ver) < 1 ∨ (zs.length : Int) < (if ver = 0 then (zs.length : Int) else ver)) : pickM zs ver = none := by
  unfold pickM
  rw [if_pos h]
theorem pick_yes {zs : List Bm} {ver : Int} {j : Nat} (hj : j < zs.length) (h : (if ver = 0 then (zs.length : Int) else ver) - 1 = (j : Int)) : pickM zs ver = some zs[j] := by
  unfold pickM
  rw [if_neg (by omega), h]
  simp [hj]
set_option maxHeartbeats 8000000 in
theorem rat (ys : List Bm) (a : Option Addr) (cap : Nat) (id ver : Int) (w : World) (hr : Rw 10 bcs w a ys) (hl : ys.length ≤ 1000000) : Calls Try.prog 21 #[.slice a ys.length cap, .int .i64 id, .int .i64 ver] w (AtP (atM ys id ver) w) := by
  have HX0 : Hid (Bx (w.alloc (.cells #[.int .i64 0, .int .i64 0, .string ⟨#[]⟩, .int .i64 0, .int .i64 0, .int .i64 0, .slice none 0 0, .int .i64 0, .int .i64 0, .slice none 0 0] 25)) w.heap.size #[.int .i64 0, .int .i64 0, .string ⟨#[]⟩, .int .i64 0, .int .i64 0, .int .i64 0, .slice none 0 0, .int .i64 0, .int .i64 0, .slice none 0 0] 25) := Bx.new w _ _
  have HB0 : Hid (Below w.heap.size w (w.alloc (.cells #[.int .i64 0, .int .i64 0, .string ⟨#[]⟩, .int .i64 0, .int .i64 0, .int .i64 0, .slice none 0 0, .int .i64 0, .int .i64 0, .slice none 0 0] 25))) := below_a w _
  have HOF : Hid (Calls Try.prog 40 #[.slice a ys.length cap, .int .i64 id] (w.alloc (.cells #[.int .i64 0, .int .i64 0, .string ⟨#[]⟩, .int .i64 0, .int .i64 0, .int .i64 0, .slice none 0 0, .int .i64 0, .int .i64 0, .slice none 0 0] 25)) (RwP (ofm ys id) (w.alloc (.cells #[.int .i64 0, .int .i64 0, .string ⟨#[]⟩, .int .i64 0, .int .i64 0, .int .i64 0, .slice none 0 0, .int .i64 0, .int .i64 0, .slice none 0 0] 25)))) := rof ys a cap id _ (hr.below (below_a w _)) hl
  have hzl : (ofm ys id).length ≤ 1000000 := Nat.le_trans (ofm_len _ _) hl
  unfold atM
  generalize ofm ys id = zs at *
  clear hr
  go_enter Try.func21, Try.ntmps21
  go_upto_region 1 with fail
  generalize (w.alloc (.cells #[.int .i64 0, .int .i64 0, .string ⟨#[]⟩, .int .i64 0, .int .i64 0, .int .i64 0, .slice none 0 0, .int .i64 0, .int .i64 0, .slice none 0 0] 25)) = w0 at *
  go_upto_region 2 with (go_at_call 40; refine HOF.out.mono ?_; clear HOF; rintro e w1 ⟨v, rfl, HZ⟩)
  obtain ⟨a1, c1, hv, _, hrw⟩ := own_rw bcs_len HZ.out.1 rfl
  subst hv
  have HX1 : Hid (Bx w1 w.heap.size #[.int .i64 0, .int .i64 0, .string ⟨#[]⟩, .int .i64 0, .int .i64 0, .int .i64 0, .slice none 0 0, .int .i64 0, .int .i64 0, .slice none 0 0] 25) := HX0.out.keep HZ.out.2
  have HB1 : Hid (Below w.heap.size w w1) := HB0.out.trans (HZ.out.2.mono HB0.out.size)
  have HRW : Hid (Rw 10 bcs w1 a1 zs) := hrw
  have HFIN : Hid (∀ y, Bx (w1.setRow w.heap.size (bcs y).toArray) w.heap.size (bcs y).toArray 25 ∧ Below w.heap.size w (w1.setRow w.heap.size (bcs y).toArray)) := fun y => ⟨HX1.out.setR, below_setR HB1.out (Nat.le_refl _)⟩
  have HSTZ : Hid ((Instr.storeAt 25 (.pointer (some ⟨w.heap.size, 0, none⟩)) (.agg #[.int .i64 0, .int .i64 0, .string ⟨#[]⟩, .int .i64 0, .int .i64 0, .int .i64 0, .slice none 0 0, .int .i64 0, .int .i64 0, .slice none 0 0])).run Try.prog w1 = .ok () (w1.setRow w.heap.size #[.int .i64 0, .int .i64 0, .string ⟨#[]⟩, .int .i64 0, .int .i64 0, .int .i64 0, .slice none 0 0, .int .i64 0, .int .i64 0, .slice none 0 0])) := box_store HX1.out rfl Zm
  have HST : Hid (∀ y, (Instr.storeAt 25 (.pointer (some ⟨w.heap.size, 0, none⟩)) (.agg (bcs y).toArray)).run Try.prog w1 = .ok () (w1.setRow w.heap.size (bcs y).toArray)) := fun y => box_store HX1.out rfl y
  clear hrw HZ HX0 HB0 HX1 HB1
  have HPN : Hid ((if ver = 0 then (zs.length : Int) else ver) < 1 ∨ (zs.length : Int) < (if ver = 0 then (zs.length : Int) else ver) → pickM zs ver = none) := pick_no
  have HPY : Hid (∀ j (h : j < zs.length), (if ver = 0 then (zs.length : Int) else ver) - 1 = (j : Int) → pickM zs ver = some zs[j]) := fun j h e => pick_yes h e
  generalize hp : pickM zs ver = o at *
  clear hp
  by_cases hv0 : ver = 0
  · have hvb : (ver == 0) = true := by simp [hv0]
    by_cases hn : zs.length = 0
    · have ho := HPN.out (by rw [if_pos hv0]; omega)
      have hn1 : (zs.length : Int) < 1 := by omega
      clear HPN HPY HRW hn hv0
      subst ho
      go_wp2_with (guard_target =~ wpList _ _ _ (⟨_, Op.store 25 _ _, _, _, _, _⟩ :: _) _ _; refine wl_store _ _ rfl 25 _ _ rfl _ _ rfl rfl HSTZ.out ?_; go_simp)
      refine bodyPost_ret (res_cell2 _ _ 6 25 7 _ _ _ _ rfl rfl rfl (box_load (y := Zm) (HFIN.out Zm).1)) rfl ?_
      exact ⟨rfl, (HFIN.out Zm).2⟩
    · obtain ⟨j, hje⟩ : ∃ j, j = zs.length - 1 := ⟨_, rfl⟩
      have hj : j < zs.length := by omega
      have ho := HPY.out j hj (by rw [if_pos hv0]; omega)
      have hn1 : ¬ (zs.length : Int) < 1 := by omega
      have hn2 : ¬ (zs.length : Int) < (zs.length : Int) := by omega
      have hjz : (zs.length : Int) - 1 = (j : Int) := by omega
      have hjl : (j : Int) < (zs.length : Int) := by omega
      have hj0 : (0 : Int) ≤ j := by omega
      have hwj : IntKind.i64.wrap (j : Int) = j := by rw [IntKind.wrap_i64]; omega
      clear HPN HPY hn hv0 hje
      obtain ⟨blk, off, rfl, hld⟩ := HRW.out.load (Below.refl _ _) hj
      have HLD : Hid ((Instr.loadAt 25 (.pointer (some ⟨blk, off + j * 10, none⟩))).run Try.prog w1 = .ok (.agg (bcs zs[j]).toArray) w1) := hld
      have HS2 := HST.out zs[j]
      have HF2 := HFIN.out zs[j]
      subst ho
      clear HRW hld HST HFIN HSTZ
      have HS3 : Hid ((Instr.storeAt 25 (.pointer (some ⟨w.heap.size, 0, none⟩)) (.agg (bcs zs[j]).toArray)).run Try.prog w1 = .ok () (w1.setRow w.heap.size (bcs zs[j]).toArray)) := HS2
      have HF3 : Hid (Bx (w1.setRow w.heap.size (bcs zs[j]).toArray) w.heap.size (bcs zs[j]).toArray 25 ∧ Below w.heap.size w (w1.setRow w.heap.size (bcs zs[j]).toArray)) := HF2
      clear HS2 HF2
      generalize zs[j] = y at *
      generalize hM : (bcs y).toArray = M at *
      go_wp2_with (first | (guard_target =~ wpList _ _ _ (⟨_, Op.load 25 _, _, _, _, _⟩ :: _) _ _; refine wl_load _ rfl 25 _ rfl _ rfl _ HLD.out ?_; go_simp) | (guard_target =~ wpList _ _ _ (⟨_, Op.store 25 _ _, _, _, _, _⟩ :: _) _ _; refine wl_store _ _ rfl 25 _ _ rfl _ _ rfl rfl HS3.out ?_; go_simp))
      subst hM
      refine bodyPost_ret (res_cell2 _ _ 6 25 7 _ _ _ _ rfl rfl rfl (box_load HF3.out.1)) rfl ?_
      exact ⟨rfl, HF3.out.2⟩
  · have hvb : (ver == 0) = false := by simp [hv0]
    by_cases h1 : ver < 1
    · have ho := HPN.out (by rw [if_neg hv0]; exact .inl h1)
      clear HPN HPY HRW hv0
      subst ho
      go_wp2_with (guard_target =~ wpList _ _ _ (⟨_, Op.store 25 _ _, _, _, _, _⟩ :: _) _ _; refine wl_store _ _ rfl 25 _ _ rfl _ _ rfl rfl HSTZ.out ?_; go_simp)
      refine bodyPost_ret (res_cell2 _ _ 6 25 7 _ _ _ _ rfl rfl rfl (box_load (y := Zm) (HFIN.out Zm).1)) rfl ?_
      exact ⟨rfl, (HFIN.out Zm).2⟩
    by_cases h2 : (zs.length : Int) < ver
    · have ho := HPN.out (by rw [if_neg hv0]; exact .inr h2)
      clear HPN HPY HRW hv0
      subst ho
      go_wp2_with (guard_target =~ wpList _ _ _ (⟨_, Op.store 25 _ _, _, _, _, _⟩ :: _) _ _; refine wl_store _ _ rfl 25 _ _ rfl _ _ rfl rfl HSTZ.out ?_; go_simp)
      refine bodyPost_ret (res_cell2 _ _ 6 25 7 _ _ _ _ rfl rfl rfl (box_load (y := Zm) (HFIN.out Zm).1)) rfl ?_
      exact ⟨rfl, (HFIN.out Zm).2⟩
    · obtain ⟨j, hje⟩ : ∃ j, j = (ver - 1).toNat := ⟨_, rfl⟩
      have hj : j < zs.length := by omega
      have ho := HPY.out j hj (by rw [if_neg hv0]; omega)
      have hjz : ver - 1 = (j : Int) := by omega
      have hjl : (j : Int) < (zs.length : Int) := by omega
      have hj0 : (0 : Int) ≤ j := by omega
      have hwj : IntKind.i64.wrap (j : Int) = j := by rw [IntKind.wrap_i64]; omega
      clear HPN HPY hv0 hje
      obtain ⟨blk, off, rfl, hld⟩ := HRW.out.load (Below.refl _ _) hj
      have HLD : Hid ((Instr.loadAt 25 (.pointer (some ⟨blk, off + j * 10, none⟩))).run Try.prog w1 = .ok (.agg (bcs zs[j]).toArray) w1) := hld
      have HS2 := HST.out zs[j]
      have HF2 := HFIN.out zs[j]
      subst ho
      clear HRW hld HST HFIN HSTZ
      have HS3 : Hid ((Instr.storeAt 25 (.pointer (some ⟨w.heap.size, 0, none⟩)) (.agg (bcs zs[j]).toArray)).run Try.prog w1 = .ok () (w1.setRow w.heap.size (bcs zs[j]).toArray)) := HS2
      have HF3 : Hid (Bx (w1.setRow w.heap.size (bcs zs[j]).toArray) w.heap.size (bcs zs[j]).toArray 25 ∧ Below w.heap.size w (w1.setRow w.heap.size (bcs zs[j]).toArray)) := HF2
      clear HS2 HF2
      generalize zs[j] = y at *
      generalize hM : (bcs y).toArray = M at *
      go_wp2_with (first | (guard_target =~ wpList _ _ _ (⟨_, Op.load 25 _, _, _, _, _⟩ :: _) _ _; refine wl_load _ rfl 25 _ rfl _ rfl _ HLD.out ?_; go_simp) | (guard_target =~ wpList _ _ _ (⟨_, Op.store 25 _ _, _, _, _, _⟩ :: _) _ _; refine wl_store _ _ rfl 25 _ _ rfl _ _ rfl rfl HS3.out ?_; go_simp))
      subst hM
      refine bodyPost_ret (res_cell2 _ _ 6 25 7 _ _ _ _ rfl rfl rfl (box_load HF3.out.1)) rfl ?_
      exact ⟨rfl, HF3.out.2⟩
theorem jload27 {W : World} {b : Nat} {v0 v1 v2 v3 v4 : Value} (h : Bx W b #[v0, v1, v2, v3, v4] 27) : (Instr.loadAt 27 (.pointer (some ⟨b, 0, none⟩))).run Try.prog W = .ok (.agg #[v0, v1, v2, v3, v4]) W := by
  have c0 : W.cell? ⟨b, 0, none⟩ = some v0 := h.cell 0
  have c1 : W.cell? ⟨b, 1, none⟩ = some v1 := h.cell 1
  have c2 : W.cell? ⟨b, 2, none⟩ = some v2 := h.cell 2
  have c3 : W.cell? ⟨b, 3, none⟩ = some v3 := h.cell 3
  have c4 : W.cell? ⟨b, 4, none⟩ = some v4 := h.cell 4
  clear h
  go_simp
theorem last_pick {ys : List Bm} {id : Int} (h : 0 < (ofm ys id).length) : ∃ z, z ∈ ys ∧ atM ys id 0 = some z ∧ (of (ys.map (·.b)) id).getLast? = some z.b := by
  refine ⟨(ofm ys id)[(ofm ys id).length - 1]'(by omega), ofm_mem (List.getElem_mem _), pick_yes (by omega) (by rw [if_pos rfl]; omega), ?_⟩
  rw [← ofm_of, List.getLast?_map, List.getLast?_eq_getElem?, List.getElem?_eq_getElem (by omega)]
  rfl
set_option maxHeartbeats 8000000 in
theorem rtakes0 (ys : List Bm) (a : Option Addr) (cap : Nat) (ai ac : ByteArray) (a1 a2 m day : Int) (w : World) (hr : Rw 10 bcs w a ys) (hl : ys.length ≤ 1000000) (S : List Int) (T : Int → Bool)
    (HIDS : Calls Try.prog 45 #[.slice a ys.length cap] (w.alloc (.cells #[.string ai, .int .i64 a1, .int .i64 a2, .int .i64 m, .string ac] 27)) (JdP S (w.alloc (.cells #[.string ai, .int .i64 a1, .int .i64 a2, .int .i64 m, .string ac] 27)))) (hS : S.length ≤ 1000000)
    (HAT : ∀ id ∈ S, ∃ z : Bm, (∀ W, Below w.heap.size w W → Calls Try.prog 21 #[.slice a ys.length cap, .int .i64 id, .int .i64 0] W (AtP (some z) W)) ∧ ∃ n : Int, (n == 0) = T id ∧ ∀ W, Below w.heap.size w W → Calls Try.prog 10 #[.agg (bcs z).toArray, .agg #[.string ai, .int .i64 a1, .int .i64 a2, .int .i64 m, .string ac], .int .i64 day] W (KP (.int .i64 n) W))
    : Calls Try.prog 26 #[.slice a ys.length cap, .agg #[.string ai, .int .i64 a1, .int .i64 a2, .int .i64 m, .string ac], .int .i64 day] w (JdP (S.filter T) w) := by
  have HX0 : Hid (Bx (w.alloc (.cells #[.string ai, .int .i64 a1, .int .i64 a2, .int .i64 m, .string ac] 27)) w.heap.size #[.string ai, .int .i64 a1, .int .i64 a2, .int .i64 m, .string ac] 27) := Bx.new w _ _
  have HB0 : Hid (Below w.heap.size w (w.alloc (.cells #[.string ai, .int .i64 a1, .int .i64 a2, .int .i64 m, .string ac] 27))) := below_a w _
  have HI : Hid (Calls Try.prog 45 #[.slice a ys.length cap] (w.alloc (.cells #[.string ai, .int .i64 a1, .int .i64 a2, .int .i64 m, .string ac] 27)) (JdP S (w.alloc (.cells #[.string ai, .int .i64 a1, .int .i64 a2, .int .i64 m, .string ac] 27)))) := HIDS
  have HA : Hid (∀ id ∈ S, ∃ z : Bm, (∀ W, Below w.heap.size w W → Calls Try.prog 21 #[.slice a ys.length cap, .int .i64 id, .int .i64 0] W (AtP (some z) W)) ∧ ∃ n : Int, (n == 0) = T id ∧ ∀ W, Below w.heap.size w W → Calls Try.prog 10 #[.agg (bcs z).toArray, .agg #[.string ai, .int .i64 a1, .int .i64 a2, .int .i64 m, .string ac], .int .i64 day] W (KP (.int .i64 n) W)) := HAT
  clear hr HIDS HAT
  go_enter Try.func26, Try.ntmps26
  go_upto_region 2 with fail
  generalize (w.alloc (.cells #[.string ai, .int .i64 a1, .int .i64 a2, .int .i64 m, .string ac] 27)) = w0 at *
  go_wp2_with (go_at_call 45; refine HI.out.mono ?_; clear HI; rintro e w1 ⟨sa, sc, rfl, HZ⟩)
  obtain ⟨sa', sc', e0, _, hsr⟩ := own_rw ics_len HZ.out.1 rfl
  injection e0 with e1 e2 e3
  subst e1
  have HS : Hid (Rw 1 ics w1 sa S) := hsr
  have HX1 : Hid (Bx w1 w.heap.size #[.string ai, .int .i64 a1, .int .i64 a2, .int .i64 m, .string ac] 27) := HX0.out.keep HZ.out.2
  have HB1 : Hid (Below w.heap.size w w1) := HB0.out.trans (HZ.out.2.mono HB0.out.size)
  clear e2 e3 hsr HZ HX0 HB0
  go_loopw [7, 9] (fun v i wr => ∃ (k : Nat), k ≤ S.length ∧ i = .int .i64 k ∧ Hid (wr.ownsRow w1.heap.size 3 1 v ((S.take k).filter T).length (rcs ics ((S.take k).filter T)) ∧ Below w1.heap.size w1 wr))
    (fun _ i _ => S.length - (intOf i).toNat)
  case atStart => exact ⟨0, Nat.zero_le _, rfl, World.ownsRow_nil _ _ _ _, Below.refl _ _⟩
  case round =>
    obtain ⟨k, hk, rfl, HZ⟩ := hrel
    by_cases hkn : k < S.length
    · have hkz : (k : Int) < (S.length : Int) := by omega
      obtain ⟨blk, off, rfl, hbl, hcs⟩ := HS.out (by omega)
      have hc := hcs k hkn 0 (by omega)
      obtain ⟨z, hz1, n, hz2, hz3⟩ := HA.out S[k] (List.getElem_mem hkn)
      have HT : Hid ((S.take (k + 1)).filter T = if T S[k] = true then (S.take k).filter T ++ [S[k]] else (S.take k).filter T) := by
        unfold Hid
        rw [← List.take_append_getElem hkn, List.filter_append]
        cases hT : T S[k] <;> simp [hT]
      have HO : Hid (wr.ownsRow w1.heap.size 3 1 u7 ((S.take k).filter T).length (rcs ics ((S.take k).filter T))) := HZ.out.1
      have HB : Hid (Below w1.heap.size w1 wr) := HZ.out.2
      have HBW : Hid (Below w.heap.size w wr) := HB1.out.trans (HB.out.mono HB1.out.size)
      have HYL : Hid (((S.take k).filter T).length ≤ 1000000) := Nat.le_trans (List.length_filter_le _ _) (by rw [List.length_take]; omega)
      generalize (S.take k).filter T = D at *
      have c0 : wr.cell? ⟨blk, off + k, none⟩ = some (.int .i64 S[k]) := by
        have := (HB.out.cell (p := ⟨blk, off + k * 1 + 0, none⟩) hbl).trans hc
        rw [Nat.mul_one, Nat.add_zero] at this
        exact this
      generalize S[k] = id at *
      clear hcs hc HZ HS HA
      have HC1 : Hid (Calls Try.prog 21 #[.slice a ys.length cap, .int .i64 id, .int .i64 0] wr (AtP (some z) wr)) := hz1 wr HBW.out
      have HC2 : Hid (∀ W, Below w.heap.size w W → Calls Try.prog 10 #[.agg (bcs z).toArray, .agg #[.string ai, .int .i64 a1, .int .i64 a2, .int .i64 m, .string ac], .int .i64 day] W (KP (.int .i64 n) W)) := hz3
      have HTI : Hid (((n : Int) == 0) = T id) := hz2
      clear hz1 hz2 hz3
      go_upto_region 7 with (first | (go_at_call 21; refine HC1.out.mono ?_; clear HC1; rintro e w2 ⟨rfl, hb2⟩; have HBQ : Hid (Below wr.heap.size wr w2) := hb2.out; have HSQ : Hid ((Instr.storeAt 25 (.pointer (some ⟨w2.heap.size, 0, none⟩)) (.agg (bcs z).toArray)).run Try.prog (w2.alloc (.cells #[.int .i64 0, .int .i64 0, .string ⟨#[]⟩, .int .i64 0, .int .i64 0, .int .i64 0, .slice none 0 0, .int .i64 0, .int .i64 0, .slice none 0 0] 25)) = .ok () ((w2.alloc (.cells #[.int .i64 0, .int .i64 0, .string ⟨#[]⟩, .int .i64 0, .int .i64 0, .int .i64 0, .slice none 0 0, .int .i64 0, .int .i64 0, .slice none 0 0] 25)).setRow w2.heap.size (bcs z).toArray)) := box_store (Bx.new _ _ _) rfl z) | (guard_target =~ wpList _ _ _ (⟨_, Op.store 25 _ _, _, _, _, _⟩ :: _) _ _; refine wl_store _ _ rfl 25 _ _ rfl _ _ rfl rfl HSQ.out ?_; go_simp))
      have hb3 : Below w2.heap.size w2 ((w2.alloc (.cells #[.int .i64 0, .int .i64 0, .string ⟨#[]⟩, .int .i64 0, .int .i64 0, .int .i64 0, .slice none 0 0, .int .i64 0, .int .i64 0, .slice none 0 0] 25)).setRow w2.heap.size (bcs z).toArray) := below_setR (below_a _ _) (Nat.le_refl _)
      have HX3 : Bx ((w2.alloc (.cells #[.int .i64 0, .int .i64 0, .string ⟨#[]⟩, .int .i64 0, .int .i64 0, .int .i64 0, .slice none 0 0, .int .i64 0, .int .i64 0, .slice none 0 0] 25)).setRow w2.heap.size (bcs z).toArray) w2.heap.size (bcs z).toArray 25 := (Bx.new _ _ _).setR
      generalize ((w2.alloc (.cells #[.int .i64 0, .int .i64 0, .string ⟨#[]⟩, .int .i64 0, .int .i64 0, .int .i64 0, .slice none 0 0, .int .i64 0, .int .i64 0, .slice none 0 0] 25)).setRow w2.heap.size (bcs z).toArray) = w3 at *
      have hbr3 : Below wr.heap.size wr w3 := bt HBQ.out hb3
      have HB3 : Hid (Below w1.heap.size w1 w3) := HB.out.trans (hbr3.mono HB.out.size)
      have HBW3 : Hid (Below w.heap.size w w3) := HBW.out.trans (hbr3.mono HBW.out.size)
      have HO3 : Hid (w3.ownsRow w1.heap.size 3 1 u7 D.length (rcs ics D)) := own_below HO.out hbr3
      have HLD : Hid ((Instr.loadAt 25 (.pointer (some ⟨w2.heap.size, 0, none⟩))).run Try.prog w3 = .ok (.agg (bcs z).toArray) w3) := box_loadAt HX3
      have hxa : Bx w3 w.heap.size #[.string ai, .int .i64 a1, .int .i64 a2, .int .i64 m, .string ac] 27 := HX1.out.keep HB3.out
      have HLA : Hid ((Instr.loadAt 27 (.pointer (some ⟨w.heap.size, 0, none⟩))).run Try.prog w3 = .ok (.agg #[.string ai, .int .i64 a1, .int .i64 a2, .int .i64 m, .string ac]) w3) := jload27 hxa
      have HC3 : Hid (Calls Try.prog 10 #[.agg (bcs z).toArray, .agg #[.string ai, .int .i64 a1, .int .i64 a2, .int .i64 m, .string ac], .int .i64 day] w3 (KP (.int .i64 n) w3)) := HC2.out w3 HBW3.out
      have d0 : w3.cell? ⟨blk, off + k, none⟩ = some (.int .i64 id) := (hbr3.cell (p := ⟨blk, off + k, none⟩) (Nat.lt_of_lt_of_le hbl HB.out.size)).trans c0
      clear hb3 HX3 HO HB HBW HBQ HSQ hb2 hbr3 hxa c0 HC2
      generalize w2.heap.size = q2 at *
      generalize (bcs z).toArray = M at *
      cases hT : T id with
      | true =>
        have hnb : ((n : Int) == 0) = true := HTI.out.trans hT
        have HT2 : Hid (((S.take (k + 1)).filter T) = D ++ [id]) := by unfold Hid; rw [HT.out, if_pos hT]
        clear HT HTI hT
        go_upto_region 8 with (first | (go_at_call 10; refine HC3.out.mono ?_; clear HC3; rintro e w4 ⟨rfl, hb4⟩; have HB4 : Hid (Below w3.heap.size w3 w4) := hb4.out; clear hb4) | (guard_target =~ wpList _ _ _ (⟨_, Op.load 25 _, _, _, _, _⟩ :: _) _ _; refine wl_load _ rfl 25 _ rfl _ rfl _ HLD.out ?_; go_simp) | (guard_target =~ wpList _ _ _ (⟨_, Op.load 27 _, _, _, _, _⟩ :: _) _ _; refine wl_load _ rfl 27 _ rfl _ rfl _ HLA.out ?_; go_simp))
        have ho4 := own_below HO3.out HB4.out
        have hb14 : Below w1.heap.size w1 w4 := HB3.out.trans (HB4.out.mono HB3.out.size)
        have e0 : w4.cell? ⟨blk, off + k, none⟩ = some (.int .i64 id) := (hb14.cell (p := ⟨blk, off + k, none⟩) hbl).trans ((HB3.out.cell (p := ⟨blk, off + k, none⟩) hbl).symm.trans d0)
        obtain ⟨v', w5, hr5, ho5, hg5⟩ := app_gen (T := 3) (Sl := 23) (k := 1) (bytes := 8) Try.underlying23 jinfo3 rfl (by omega) (ics id) rfl (by intro u hu; simp only [ics, List.mem_cons, List.not_mem_nil, or_false] at hu; subst hu; rfl) ho4 hb14.size (by have := HYL.out; omega) (by have := HYL.out; unfold maxLen; omega)
        have hr5' : (Builtin.append_ #[23, 23] 23 #[u7, .slice (some ⟨w4.heap.size, 0, none⟩) 1 1]).run Try.prog (w4.alloc (.cells #[.int .i64 id] 3)) = .ok v' w5 := hr5
        have HF : Hid (w5.ownsRow w1.heap.size 3 1 v' ((S.take (k + 1)).filter T).length (rcs ics ((S.take (k + 1)).filter T)) ∧ Below w1.heap.size w1 w5) := by
          rw [HT2.out, List.length_append, rcs_snoc]
          exact ⟨ho5, (hb14.alloc hb14.size _).grown hg5 (by simp; have := hb14.size; omega) (fun j hj => (ho4.lt j hj).1)⟩
        clear ho4 hb14 hr5 ho5 hg5 HB4 HLD HLA HO3 HB3 HBW3 HT2 d0
        go_wp2_with (at_builtin; refine Lib.wpList_append_run _ rfl _ _ 23 23 rfl _ _ rfl rfl _ w5 hr5' ?_)
        go_roundw
        case rel => exact ⟨k + 1, by omega, by simp, HF.out⟩
        case measure => simp [intOf]; omega
      | false =>
        have hnb : ((n : Int) == 0) = false := HTI.out.trans hT
        have HF : Hid (∀ w4, Below w3.heap.size w3 w4 → w4.ownsRow w1.heap.size 3 1 u7 ((S.take (k + 1)).filter T).length (rcs ics ((S.take (k + 1)).filter T)) ∧ Below w1.heap.size w1 w4) := by
          intro w4 h4
          rw [HT.out, if_neg (by rw [hT]; simp)]
          exact ⟨own_below HO3.out h4, HB3.out.trans (h4.mono HB3.out.size)⟩
        clear HT HTI hT HO3 HB3 HBW3
        go_wp2_with (first | (go_at_call 10; refine HC3.out.mono ?_; clear HC3; rintro e w4 ⟨rfl, hb4⟩; have HF4 := HF.out w4 hb4.out; have HF5 : Hid (w4.ownsRow w1.heap.size 3 1 u7 ((S.take (k + 1)).filter T).length (rcs ics ((S.take (k + 1)).filter T)) ∧ Below w1.heap.size w1 w4) := HF4; clear HF HF4 hb4) | (guard_target =~ wpList _ _ _ (⟨_, Op.load 25 _, _, _, _, _⟩ :: _) _ _; refine wl_load _ rfl 25 _ rfl _ rfl _ HLD.out ?_; go_simp) | (guard_target =~ wpList _ _ _ (⟨_, Op.load 27 _, _, _, _, _⟩ :: _) _ _; refine wl_load _ rfl 27 _ rfl _ rfl _ HLA.out ?_; go_simp))
        go_roundw
        case rel => exact ⟨k + 1, by omega, by simp, HF5.out⟩
        case measure => simp [intOf]; omega
    · have hkz : ¬ (k : Int) < (S.length : Int) := by omega
      have HF : Hid (JdP (S.filter T) w (.returned u7) wr) := by
        have hz := HZ.out
        rw [show k = S.length by omega, List.take_length] at hz
        obtain ⟨a, c, e⟩ := own_jd hz.1 rfl
        subst e
        exact ⟨a, c, rfl, own_mono hz.1 HB1.out.size, HB1.out.trans (hz.2.mono HB1.out.size)⟩
      clear HZ
      go_wp2_with fail
      go_ret
      exact HF.out
theorem rtakes (ys : List Bm) (a : Option Addr) (cap : Nat) (x : As) (day : Int) (w : World) (hr : Rw 10 bcs w a ys) (hl : ys.length ≤ 1000000) (hs : Srt (ys.map (·.b))) (hm : 0 ≤ x.mat ∧ x.mat ≤ 200000) (hh : ∀ y ∈ ys, Ha w.heap.size w y) (hb : ∀ y ∈ ys, y.b.bar.length ≤ 1000000) : Calls Try.prog 26 #[.slice a ys.length cap, .agg (acs x), .int .i64 day] w (JdP (takes (ys.map (·.b)) x day) w) :=
  rtakes0 ys a cap x.i x.c x.iss x.rat x.mat day w hr hl (ids (ys.map (fun y : Bm => y.b))) (tkB (ys.map (fun y : Bm => y.b)) x day) (rids ys a cap _ (hr.below (below_a w _)) hl) (Nat.le_trans (ids_len _) (by rw [List.length_map]; exact hl)) (fun id hid => by
    obtain ⟨b, hb1, rfl⟩ := (ids_mem hs id).1 hid
    have hpos : 0 < (ofm ys b.id).length := by
      have := of_pos hb1
      rw [← ofm_of, List.length_map] at this
      exact this
    obtain ⟨z, hz, hat, hlast⟩ := last_pick hpos
    refine ⟨z, fun W hW => by rw [← hat]; exact rat ys a cap _ 0 W (hr.below hW) hl, why z.b x day, ?_, fun W hW => rwhy z x day hm W ((hh z hz).on hW (Nat.le_refl _)) (hb z hz)⟩
    unfold tkB
    rw [hlast]
    by_cases h : why z.b x day = 0 <;> simp [h])
end Go.Proofs.Ytmjaijpikbdfkaa
