/- Layer 10: the law Checks, every kind. -/
import Derived.Test.YtdmlgheajblcdaaGreatMAA
import Derived.Test.YtdmlgheajblcdaaGreatMX
import Derived.WalkKit
import Derived.ProofKit
import Derived.Handy
import Derived.WalkLawsBesides
import Derived.WalkSpells
import Derived.BigQuiet
import Derived.BigCall
import Derived.Deep.QuietTactic
import Derived.Deep.Light
import Derived.Deep.OwnRows
import Derived.Laws.AppendOwnNone
import Derived.Laws.Strings3
import Derived.Laws.RangeAny
import Derived.Deep.RegionWith
import Derived.Lib.BitFns
import Derived.Lib.Walk
import Derived.Lib.Strings
import Derived.Lib.OthersKept
import Derived.Deep.CutBlock
import Derived.Deep.DeepCutAuto
import Derived.Deep.LoopGhost
import Derived.Deep.RegionHeld3
import Derived.Lib.SmallJoins
import Derived.Maps.AppendAt
import Derived.Laws.IdiomStrings
import Derived.Lib.AppendZeros
import Derived.Deep.WholeRow
import Derived.Laws.BitsAllLaws
import Derived.Lib.ConvBytes
import Derived.Deep.RegionLaw
namespace Go.Proofs.YtdmlgheajblcdaaGreat
open Go.RowKit
set_option linter.unusedVariables false
set_option linter.unusedSimpArgs false
set_option maxRecDepth 20000
set_option maxHeartbeats 4000000 in
theorem lChecksBig (M : Array Value) (hsz : M.size = 36) (w : World) (hsm : ∀ W, Calls Tryz.prog 9 #[.agg M] W (KP (.bool false) W)) : Calls Tryz.prog 3 #[.agg M] w (KP (.bool true) w) := by
  have HSM : Hid (∀ W, Calls Tryz.prog 9 #[.agg M] W (KP (.bool false) W)) := hsm
  have HX0 : Hid (Bx (w.alloc (.cells M 35)) w.heap.size M 35) := Bx.new _ _ _
  have HB0 : Hid (Below w.heap.size w (w.alloc (.cells M 35))) := below_a w _
  have HLD : Hid (∀ W, Bx W w.heap.size M 35 → (Instr.loadAt 35 (.pointer (some ⟨w.heap.size, 0, none⟩))).run Tryz.prog W = .ok (.agg M) W) := fun W h => hloadAt W w.heap.size M hsz h
  clear hsm
  go_enter Tryz.func3, Tryz.ntmps3
  go_upto_region 1 with fail
  generalize hw1 : w.alloc (.cells M 35) = w1 at *
  have HX : Hid (Bx w1 w.heap.size M 35) := HX0.out
  have HB : Hid (Below w.heap.size w w1) := HB0.out
  clear HX0 HB0 hw1
  go_wp2_with (guard_target =~ wpList _ _ _ (⟨_, Op.load 35 _, _, _, _, _⟩ :: _) _ _; refine wl_load _ rfl 35 _ rfl _ rfl _ (HLD.out _ HX.out) ?_; go_simp)
  refine (HSM.out _).mono ?_
  rintro e w2 ⟨rfl, hb2⟩
  have HB2 : Hid (Below w.heap.size w w2) := bt HB.out hb2.out
  clear hb2 HX HB HSM
  go_wp2_with fail
  refine (awake _).mono ?_
  rintro e w3 ⟨rfl, hb3⟩
  have HB3 : Hid (Below w.heap.size w w3) := bt HB2.out hb3.out
  clear hb3 HB2
  go_wp2_with fail
  go_ret
  exact KP.mk rfl HB3.out
theorem xCk1 (m : Mg) (pa ia ca ba : Option Addr) (pc ic cc bc : Nat) (hk : m.k = 1) (w : World) (hH : Hld w.heap.size w m pa ia ca ba) (hW : m.Wf) (hZ : Szd m) : Calls Tryz.prog 12 #[.iface 76 (.agg #[.int .i64 m.mem, .string ⟨m.name.toArray⟩])] w (KP (.int .i64 ((if mbr m.mem = true then C0.nm m.name else 1 : Nat) : Int)) w) :=
  checkV1 (m.mem) ⟨m.name.toArray⟩ _ w (fun W hb => check1 m pa ia ca ba pc ic cc bc W (by have := hZ.name; omega) _ rfl)
theorem rCk1 (m : Mg) (pa ia ca ba : Option Addr) (pc ic cc bc : Nat) (hk : m.k = 1) (w : World) (hH : Hld w.heap.size w m pa ia ca ba) (hW : m.Wf) (hZ : Szd m) : Calls Tryz.prog 13 #[.agg (mcs m pa ia ca ba pc ic cc bc)] w (KP (.int .i64 ((if mbr m.mem = true then C0.nm m.name else 1 : Nat) : Int)) w) := by
  have hb : Below w.heap.size w w := Below.refl _ _
  have W := w
  exact rCheck1 m pa ia ca ba pc ic cc bc hk w (by have := hZ.name; omega) _ rfl
theorem xCk2 (m : Mg) (pa ia ca ba : Option Addr) (pc ic cc bc : Nat) (hk : m.k = 2) (w : World) (hH : Hld w.heap.size w m pa ia ca ba) (hW : m.Wf) (hZ : Szd m) : Calls Tryz.prog 12 #[.iface 78 (.agg #[.string ⟨m.a.i.toArray⟩, .int .i64 m.a.iss, .int .i64 m.a.rat, .int .i64 m.a.mat, .string ⟨m.a.cur.toArray⟩])] w (KP (.int .i64 ((C0.ast m.a : Nat) : Int)) w) :=
  checkV2 ⟨m.a.i.toArray⟩ (m.a.iss) (m.a.rat) (m.a.mat) ⟨m.a.cur.toArray⟩ _ w (fun W hb => check2 m pa ia ca ba pc ic cc bc W (by have := hZ.ai; omega) _ rfl)
theorem rCk2 (m : Mg) (pa ia ca ba : Option Addr) (pc ic cc bc : Nat) (hk : m.k = 2) (w : World) (hH : Hld w.heap.size w m pa ia ca ba) (hW : m.Wf) (hZ : Szd m) : Calls Tryz.prog 13 #[.agg (mcs m pa ia ca ba pc ic cc bc)] w (KP (.int .i64 ((C0.ast m.a : Nat) : Int)) w) := by
  have hb : Below w.heap.size w w := Below.refl _ _
  have W := w
  exact rCheck2 m pa ia ca ba pc ic cc bc hk w  _ rfl
theorem xCk3 (m : Mg) (pa ia ca ba : Option Addr) (pc ic cc bc : Nat) (hk : m.k = 3) (w : World) (hH : Hld w.heap.size w m pa ia ca ba) (hW : m.Wf) (hZ : Szd m) : Calls Tryz.prog 12 #[.iface 80 (.agg #[.int .i64 m.b.id, .int .i64 m.b.ver, .string ⟨m.b.cur.toArray⟩, .int .i64 m.b.rat, .int .i64 m.b.least, .int .i64 m.b.most, .slice ca m.b.cuts.length cc, .int .i64 m.b.iss, .int .i64 m.b.ass, .slice ba m.b.bar.length bc])] w (KP (.int .i64 ((bkE C0 m.b : Nat) : Int)) w) :=
  checkV3 (m.b.id) (m.b.ver) ⟨m.b.cur.toArray⟩ (m.b.rat) (m.b.least) (m.b.most) ca (m.b.cuts.length) cc (m.b.iss) (m.b.ass) ba (m.b.bar.length) bc _ w (fun W hb => check3 m pa ia ca ba pc ic cc bc W ((hH.cuts.keep hb).mono hb.size) ((hH.bar.keep hb).mono hb.size) hZ.lc hZ.lb _ rfl)
theorem rCk3 (m : Mg) (pa ia ca ba : Option Addr) (pc ic cc bc : Nat) (hk : m.k = 3) (w : World) (hH : Hld w.heap.size w m pa ia ca ba) (hW : m.Wf) (hZ : Szd m) : Calls Tryz.prog 13 #[.agg (mcs m pa ia ca ba pc ic cc bc)] w (KP (.int .i64 ((bkE C0 m.b : Nat) : Int)) w) := by
  have hb : Below w.heap.size w w := Below.refl _ _
  have W := w
  exact rCheck3 m pa ia ca ba pc ic cc bc hk w ((hH.cuts.keep hb).mono hb.size) ((hH.bar.keep hb).mono hb.size) hZ.lc hZ.lb _ rfl
theorem xCk4 (m : Mg) (pa ia ca ba : Option Addr) (pc ic cc bc : Nat) (hk : m.k = 4) (w : World) (hH : Hld w.heap.size w m pa ia ca ba) (hW : m.Wf) (hZ : Szd m) : Calls Tryz.prog 12 #[.iface 82 (.agg #[.slice pa m.ps.length pc])] w (KP (.int .i64 ((prE C0 m.ps : Nat) : Int)) w) :=
  checkV4 pa (m.ps.length) pc _ w (fun W hb => check4 m pa ia ca ba pc ic cc bc W ((hH.ps.keep hb).mono hb.size) (fun y hy => by have := hZ.ps y hy; omega) hZ.lp _ rfl)
theorem rCk4 (m : Mg) (pa ia ca ba : Option Addr) (pc ic cc bc : Nat) (hk : m.k = 4) (w : World) (hH : Hld w.heap.size w m pa ia ca ba) (hW : m.Wf) (hZ : Szd m) : Calls Tryz.prog 13 #[.agg (mcs m pa ia ca ba pc ic cc bc)] w (KP (.int .i64 ((prE C0 m.ps : Nat) : Int)) w) := by
  have hb : Below w.heap.size w w := Below.refl _ _
  have W := w
  exact rCheck4 m pa ia ca ba pc ic cc bc hk w ((hH.ps.keep hb).mono hb.size) hZ.lp _ rfl
theorem xCk5 (m : Mg) (pa ia ca ba : Option Addr) (pc ic cc bc : Nat) (hk : m.k = 5) (w : World) (hH : Hld w.heap.size w m pa ia ca ba) (hW : m.Wf) (hZ : Szd m) : Calls Tryz.prog 12 #[.iface 74 (.agg #[.int .i64 m.day])] w (KP (.int .i64 ((dayE C0 m.day : Nat) : Int)) w) :=
  checkV5 (m.day) _ w (fun W hb => check5 m.day _ rfl W)
theorem rCk5 (m : Mg) (pa ia ca ba : Option Addr) (pc ic cc bc : Nat) (hk : m.k = 5) (w : World) (hH : Hld w.heap.size w m pa ia ca ba) (hW : m.Wf) (hZ : Szd m) : Calls Tryz.prog 13 #[.agg (mcs m pa ia ca ba pc ic cc bc)] w (KP (.int .i64 ((dayE C0 m.day : Nat) : Int)) w) := by
  have hb : Below w.heap.size w w := Below.refl _ _
  have W := w
  exact rCheck5 m pa ia ca ba pc ic cc bc hk w  _ rfl
theorem xCk6 (m : Mg) (pa ia ca ba : Option Addr) (pc ic cc bc : Nat) (hk : m.k = 6) (w : World) (hH : Hld w.heap.size w m pa ia ca ba) (hW : m.Wf) (hZ : Szd m) : Calls Tryz.prog 12 #[.iface 84 (.agg #[.int .i64 m.mem, .string ⟨m.t.toArray⟩, .int .i64 m.n])] w (KP (.int .i64 ((if C0.cu m.t = true then if mbr m.mem = true then if sgn m.n = true then 0 else 1 else 1 else 11 : Nat) : Int)) w) :=
  checkV6 (m.mem) ⟨m.t.toArray⟩ (m.n) _ w (fun W hb => check6 m pa ia ca ba pc ic cc bc W hW.n _ rfl)
theorem rCk6 (m : Mg) (pa ia ca ba : Option Addr) (pc ic cc bc : Nat) (hk : m.k = 6) (w : World) (hH : Hld w.heap.size w m pa ia ca ba) (hW : m.Wf) (hZ : Szd m) : Calls Tryz.prog 13 #[.agg (mcs m pa ia ca ba pc ic cc bc)] w (KP (.int .i64 ((if C0.cu m.t = true then if mbr m.mem = true then if sgn m.n = true then 0 else 1 else 1 else 11 : Nat) : Int)) w) := by
  have hb : Below w.heap.size w w := Below.refl _ _
  have W := w
  exact rCheck6 m pa ia ca ba pc ic cc bc hk w  _ rfl
theorem xCk7 (m : Mg) (pa ia ca ba : Option Addr) (pc ic cc bc : Nat) (hk : m.k = 7) (w : World) (hH : Hld w.heap.size w m pa ia ca ba) (hW : m.Wf) (hZ : Szd m) : Calls Tryz.prog 12 #[.iface 86 (.agg #[.int .i64 m.mem, .string ⟨m.t.toArray⟩, .int .i64 m.n])] w (KP (.int .i64 ((if mbr m.mem = true then if sgn m.n = true then C0.is m.t else 1 else 1 : Nat) : Int)) w) :=
  checkV7 (m.mem) ⟨m.t.toArray⟩ (m.n) _ w (fun W hb => check7 m pa ia ca ba pc ic cc bc W hW.n (by have := hZ.t; omega) _ rfl)
theorem rCk7 (m : Mg) (pa ia ca ba : Option Addr) (pc ic cc bc : Nat) (hk : m.k = 7) (w : World) (hH : Hld w.heap.size w m pa ia ca ba) (hW : m.Wf) (hZ : Szd m) : Calls Tryz.prog 13 #[.agg (mcs m pa ia ca ba pc ic cc bc)] w (KP (.int .i64 ((if mbr m.mem = true then if sgn m.n = true then C0.is m.t else 1 else 1 : Nat) : Int)) w) := by
  have hb : Below w.heap.size w w := Below.refl _ _
  have W := w
  exact rCheck7 m pa ia ca ba pc ic cc bc hk w  _ rfl
theorem xCk8 (m : Mg) (pa ia ca ba : Option Addr) (pc ic cc bc : Nat) (hk : m.k = 8) (w : World) (hH : Hld w.heap.size w m pa ia ca ba) (hW : m.Wf) (hZ : Szd m) : Calls Tryz.prog 12 #[.iface 63 (.agg #[.int .i64 m.q.id, .int .i64 m.q.mem, .int .i64 m.q.side, .int .i64 m.q.bas, .int .i64 m.q.am, .int .i64 m.q.rate, .int .i64 m.q.st, .int .i64 m.q.en])] w (KP (.int .i64 ((if mbr m.q.mem = true then quE C0 m.q else 1 : Nat) : Int)) w) :=
  checkV8 (m.q.id) (m.q.mem) (m.q.side) (m.q.bas) (m.q.am) (m.q.rate) (m.q.st) (m.q.en) _ w (fun W hb => (by by_cases hs : m.q.side = 1; exact check8a m pa ia ca ba pc ic cc bc W hs hW.q.2.2.2.2.2.2.1 hW.q.2.2.2.2.2.2.2 _ (by rw [quE_seq]); exact check8b m pa ia ca ba pc ic cc bc W hs hW.q.2.2.2.2.2.2.1 hW.q.2.2.2.2.2.2.2 _ (by rw [quE_seq])))
theorem rCk8 (m : Mg) (pa ia ca ba : Option Addr) (pc ic cc bc : Nat) (hk : m.k = 8) (w : World) (hH : Hld w.heap.size w m pa ia ca ba) (hW : m.Wf) (hZ : Szd m) : Calls Tryz.prog 13 #[.agg (mcs m pa ia ca ba pc ic cc bc)] w (KP (.int .i64 ((if mbr m.q.mem = true then quE C0 m.q else 1 : Nat) : Int)) w) := by
  have hb : Below w.heap.size w w := Below.refl _ _
  have W := w
  exact rCheck8 m pa ia ca ba pc ic cc bc hk w  _ rfl
theorem xCk9 (m : Mg) (pa ia ca ba : Option Addr) (pc ic cc bc : Nat) (hk : m.k = 9) (w : World) (hH : Hld w.heap.size w m pa ia ca ba) (hW : m.Wf) (hZ : Szd m) : Calls Tryz.prog 12 #[.iface 88 (.agg #[.int .i64 m.mem, .int .i64 m.n])] w (KP (.int .i64 ((if mbr m.mem = true then if amt m.n = true then 0 else 1 else 1 : Nat) : Int)) w) :=
  checkV9 (m.mem) (m.n) _ w (fun W hb => check9 m pa ia ca ba pc ic cc bc W _ rfl)
theorem rCk9 (m : Mg) (pa ia ca ba : Option Addr) (pc ic cc bc : Nat) (hk : m.k = 9) (w : World) (hH : Hld w.heap.size w m pa ia ca ba) (hW : m.Wf) (hZ : Szd m) : Calls Tryz.prog 13 #[.agg (mcs m pa ia ca ba pc ic cc bc)] w (KP (.int .i64 ((if mbr m.mem = true then if amt m.n = true then 0 else 1 else 1 : Nat) : Int)) w) := by
  have hb : Below w.heap.size w w := Below.refl _ _
  have W := w
  exact rCheck9 m pa ia ca ba pc ic cc bc hk w  _ rfl
theorem xCk10 (m : Mg) (pa ia ca ba : Option Addr) (pc ic cc bc : Nat) (hk : m.k = 10) (w : World) (hH : Hld w.heap.size w m pa ia ca ba) (hW : m.Wf) (hZ : Szd m) : Calls Tryz.prog 12 #[.iface 90 (.agg #[.int .i64 m.mem, .int .i64 m.tr, .int .i64 m.day])] w (KP (.int .i64 ((if mbr m.mem = true then if amt m.tr = true then dayE C0 m.day else 1 else 1 : Nat) : Int)) w) :=
  checkV10 (m.mem) (m.tr) (m.day) _ w (fun W hb => check10 m pa ia ca ba pc ic cc bc W _ rfl)
theorem rCk10 (m : Mg) (pa ia ca ba : Option Addr) (pc ic cc bc : Nat) (hk : m.k = 10) (w : World) (hH : Hld w.heap.size w m pa ia ca ba) (hW : m.Wf) (hZ : Szd m) : Calls Tryz.prog 13 #[.agg (mcs m pa ia ca ba pc ic cc bc)] w (KP (.int .i64 ((if mbr m.mem = true then if amt m.tr = true then dayE C0 m.day else 1 else 1 : Nat) : Int)) w) := by
  have hb : Below w.heap.size w w := Below.refl _ _
  have W := w
  exact rCheck10 m pa ia ca ba pc ic cc bc hk w  _ rfl
theorem xCk11 (m : Mg) (pa ia ca ba : Option Addr) (pc ic cc bc : Nat) (hk : m.k = 11) (w : World) (hH : Hld w.heap.size w m pa ia ca ba) (hW : m.Wf) (hZ : Szd m) : Calls Tryz.prog 12 #[.iface 67 (.agg #[.int .i64 m.mem, .int .i64 m.tr, .string ⟨m.out.i.toArray⟩, .int .i64 m.out.q, .slice ia m.ins.length ic])] w (KP (.int .i64 ((if mbr m.mem = true then if amt m.tr = true then if decide (m.ins.length ≤ 64) = true then lotsE C0 (m.out :: m.ins) else 1 else 1 else 1 : Nat) : Int)) w) :=
  checkV11 (m.mem) (m.tr) ⟨m.out.i.toArray⟩ (m.out.q) ia (m.ins.length) ic _ w (fun W hb => check11 m pa ia ca ba pc ic cc bc W ((hH.ins.keep hb).mono hb.size) (by have := hZ.oi; omega) (fun y hy => by have := hZ.ins y hy; omega) hZ.li _ rfl)
theorem rCk11 (m : Mg) (pa ia ca ba : Option Addr) (pc ic cc bc : Nat) (hk : m.k = 11) (w : World) (hH : Hld w.heap.size w m pa ia ca ba) (hW : m.Wf) (hZ : Szd m) : Calls Tryz.prog 13 #[.agg (mcs m pa ia ca ba pc ic cc bc)] w (KP (.int .i64 ((if mbr m.mem = true then if amt m.tr = true then if decide (m.ins.length ≤ 64) = true then lotsE C0 (m.out :: m.ins) else 1 else 1 else 1 : Nat) : Int)) w) := by
  have hb : Below w.heap.size w w := Below.refl _ _
  have W := w
  exact rCheck11 m pa ia ca ba pc ic cc bc hk w ((hH.ins.keep hb).mono hb.size) hZ.li _ rfl
theorem xCk12 (m : Mg) (pa ia ca ba : Option Addr) (pc ic cc bc : Nat) (hk : m.k = 12) (w : World) (hH : Hld w.heap.size w m pa ia ca ba) (hW : m.Wf) (hZ : Szd m) : Calls Tryz.prog 12 #[.iface 92 (.agg #[.int .i64 m.mem, .int .i64 m.day, .bool m.done])] w (KP (.int .i64 ((if mbr m.mem = true then dayE C0 m.day else 1 : Nat) : Int)) w) :=
  checkV12 (m.mem) (m.day) (m.done) _ w (fun W hb => check12 m pa ia ca ba pc ic cc bc W _ rfl)
theorem rCk12 (m : Mg) (pa ia ca ba : Option Addr) (pc ic cc bc : Nat) (hk : m.k = 12) (w : World) (hH : Hld w.heap.size w m pa ia ca ba) (hW : m.Wf) (hZ : Szd m) : Calls Tryz.prog 13 #[.agg (mcs m pa ia ca ba pc ic cc bc)] w (KP (.int .i64 ((if mbr m.mem = true then dayE C0 m.day else 1 : Nat) : Int)) w) := by
  have hb : Below w.heap.size w w := Below.refl _ _
  have W := w
  exact rCheck12 m pa ia ca ba pc ic cc bc hk w  _ rfl
theorem xCk13 (m : Mg) (pa ia ca ba : Option Addr) (pc ic cc bc : Nat) (hk : m.k = 13) (w : World) (hH : Hld w.heap.size w m pa ia ca ba) (hW : m.Wf) (hZ : Szd m) : Calls Tryz.prog 12 #[.iface 94 (.agg #[.int .i64 m.mem])] w (KP (.int .i64 ((if mbr m.mem = true then 0 else 1 : Nat) : Int)) w) :=
  checkV13 (m.mem) _ w (fun W hb => check13 m pa ia ca ba pc ic cc bc W _ rfl)
theorem rCk13 (m : Mg) (pa ia ca ba : Option Addr) (pc ic cc bc : Nat) (hk : m.k = 13) (w : World) (hH : Hld w.heap.size w m pa ia ca ba) (hW : m.Wf) (hZ : Szd m) : Calls Tryz.prog 13 #[.agg (mcs m pa ia ca ba pc ic cc bc)] w (KP (.int .i64 ((if mbr m.mem = true then 0 else 1 : Nat) : Int)) w) := by
  have hb : Below w.heap.size w w := Below.refl _ _
  have W := w
  exact rCheck13 m pa ia ca ba pc ic cc bc hk w  _ rfl
theorem xCk14 (m : Mg) (pa ia ca ba : Option Addr) (pc ic cc bc : Nat) (hk : m.k = 14) (w : World) (hH : Hld w.heap.size w m pa ia ca ba) (hW : m.Wf) (hZ : Szd m) : Calls Tryz.prog 12 #[.iface 96 (.agg #[.int .i64 m.mem, .int .i64 m.n])] w (KP (.int .i64 ((if mbr m.mem = true then if inn m.n 0 1125899906842624 = true then 0 else 1 else 1 : Nat) : Int)) w) :=
  checkV14 (m.mem) (m.n) _ w (fun W hb => check14 m pa ia ca ba pc ic cc bc W _ rfl)
theorem rCk14 (m : Mg) (pa ia ca ba : Option Addr) (pc ic cc bc : Nat) (hk : m.k = 14) (w : World) (hH : Hld w.heap.size w m pa ia ca ba) (hW : m.Wf) (hZ : Szd m) : Calls Tryz.prog 13 #[.agg (mcs m pa ia ca ba pc ic cc bc)] w (KP (.int .i64 ((if mbr m.mem = true then if inn m.n 0 1125899906842624 = true then 0 else 1 else 1 : Nat) : Int)) w) := by
  have hb : Below w.heap.size w w := Below.refl _ _
  have W := w
  exact rCheck14 m pa ia ca ba pc ic cc bc hk w  _ rfl
theorem xCk15 (m : Mg) (pa ia ca ba : Option Addr) (pc ic cc bc : Nat) (hk : m.k = 15) (w : World) (hH : Hld w.heap.size w m pa ia ca ba) (hW : m.Wf) (hZ : Szd m) : Calls Tryz.prog 12 #[.iface 98 (.agg #[.int .i64 m.tr, .int .i64 m.day, .int .i64 m.rate])] w (KP (.int .i64 ((if amt m.tr = true then if inn m.rate (-1000000) 1000000 = true then dayE C0 m.day else 1 else 1 : Nat) : Int)) w) :=
  checkV15 (m.tr) (m.day) (m.rate) _ w (fun W hb => check15 m pa ia ca ba pc ic cc bc W _ rfl)
theorem rCk15 (m : Mg) (pa ia ca ba : Option Addr) (pc ic cc bc : Nat) (hk : m.k = 15) (w : World) (hH : Hld w.heap.size w m pa ia ca ba) (hW : m.Wf) (hZ : Szd m) : Calls Tryz.prog 13 #[.agg (mcs m pa ia ca ba pc ic cc bc)] w (KP (.int .i64 ((if amt m.tr = true then if inn m.rate (-1000000) 1000000 = true then dayE C0 m.day else 1 else 1 : Nat) : Int)) w) := by
  have hb : Below w.heap.size w w := Below.refl _ _
  have W := w
  exact rCheck15 m pa ia ca ba pc ic cc bc hk w  _ rfl
theorem Hld.keep {B : Nat} {w w' : World} {m : Mg} {pa ia ca ba : Option Addr} (h : Hld B w m pa ia ca ba) (hb : Below B w w') : Hld B w' m pa ia ca ba := ⟨h.ps.keep hb, h.ins.keep hb, h.cuts.keep hb, h.bar.keep hb⟩
theorem Hld.mono {B C : Nat} {w : World} {m : Mg} {pa ia ca ba : Option Addr} (h : Hld B w m pa ia ca ba) (hb : B ≤ C) : Hld C w m pa ia ca ba := ⟨h.ps.mono hb, h.ins.mono hb, h.cuts.mono hb, h.bar.mono hb⟩
theorem Hld.on {w w' : World} {m : Mg} {pa ia ca ba : Option Addr} (h : Hld w.heap.size w m pa ia ca ba) (hb : Below w.heap.size w w') : Hld w'.heap.size w' m pa ia ca ba := (h.keep hb).mono hb.size
theorem lChecks (m : Mg) (pa ia ca ba : Option Addr) (pc ic cc bc : Nat) (w : World) (hH : Hld w.heap.size w m pa ia ca ba) (hW : m.Wf) (hZ : Szd m) : Calls Tryz.prog 3 #[.agg (mcs m pa ia ca ba pc ic cc bc)] w (KP (.bool true) w) := by
  have h1 : m.name.length ≤ 9223372036854775807 := by have := hZ.name; omega
  have h2 : m.t.length ≤ 9223372036854775807 := by have := hZ.t; omega
  by_cases hS : smB m = true
  · have hsm : ∀ W, Calls Tryz.prog 9 #[.agg (mcs m pa ia ca ba pc ic cc bc)] W (KP (.bool true) W) := fun W => by have := rSmall m pa ia ca ba pc ic cc bc W h1 h2; rw [hS] at this; exact this
    by_cases hk : m.k = 1
    · exact lChecks1 (mcs m pa ia ca ba pc ic cc bc) (mcs_size m pa ia ca ba pc ic cc bc) (m.mem) ⟨m.name.toArray⟩ (by rw [← hk]; rfl) w _ 0 hsm (fun W => of1 m pa ia ca ba pc ic cc bc W hk) (fun W hb => xCk1 m pa ia ca ba pc ic cc bc hk W (hH.on hb) hW hZ) (fun W hb => rCk1 m pa ia ca ba pc ic cc bc hk W (hH.on hb) hW hZ) (fun W => send1 (m.mem) ⟨m.name.toArray⟩ W) (fun W => rSend0 m pa ia ca ba pc ic cc bc (by omega) (by omega) (by omega) (by omega) W)
    have q1 := hk
    clear hk
    by_cases hk : m.k = 2
    · exact lChecks2 (mcs m pa ia ca ba pc ic cc bc) (mcs_size m pa ia ca ba pc ic cc bc) ⟨m.a.i.toArray⟩ (m.a.iss) (m.a.rat) (m.a.mat) ⟨m.a.cur.toArray⟩ (by rw [← hk]; rfl) w _ 0 hsm (fun W => of2 m pa ia ca ba pc ic cc bc W hk) (fun W hb => xCk2 m pa ia ca ba pc ic cc bc hk W (hH.on hb) hW hZ) (fun W hb => rCk2 m pa ia ca ba pc ic cc bc hk W (hH.on hb) hW hZ) (fun W => send2 ⟨m.a.i.toArray⟩ (m.a.iss) (m.a.rat) (m.a.mat) ⟨m.a.cur.toArray⟩ W) (fun W => rSend0 m pa ia ca ba pc ic cc bc (by omega) (by omega) (by omega) (by omega) W)
    have q2 := hk
    clear hk
    by_cases hk : m.k = 3
    · exact lChecks3 (mcs m pa ia ca ba pc ic cc bc) (mcs_size m pa ia ca ba pc ic cc bc) (m.b.id) (m.b.ver) ⟨m.b.cur.toArray⟩ (m.b.rat) (m.b.least) (m.b.most) ca (m.b.cuts.length) cc (m.b.iss) (m.b.ass) ba (m.b.bar.length) bc (by rw [← hk]; rfl) w _ 0 hsm (fun W => of3 m pa ia ca ba pc ic cc bc W hk) (fun W hb => xCk3 m pa ia ca ba pc ic cc bc hk W (hH.on hb) hW hZ) (fun W hb => rCk3 m pa ia ca ba pc ic cc bc hk W (hH.on hb) hW hZ) (fun W => send3 (m.b.id) (m.b.ver) ⟨m.b.cur.toArray⟩ (m.b.rat) (m.b.least) (m.b.most) ca (m.b.cuts.length) cc (m.b.iss) (m.b.ass) ba (m.b.bar.length) bc W) (fun W => rSend0 m pa ia ca ba pc ic cc bc (by omega) (by omega) (by omega) (by omega) W)
    have q3 := hk
    clear hk
    by_cases hk : m.k = 4
    · exact lChecks4 (mcs m pa ia ca ba pc ic cc bc) (mcs_size m pa ia ca ba pc ic cc bc) pa (m.ps.length) pc (by rw [← hk]; rfl) w _ 0 hsm (fun W => of4 m pa ia ca ba pc ic cc bc W hk) (fun W hb => xCk4 m pa ia ca ba pc ic cc bc hk W (hH.on hb) hW hZ) (fun W hb => rCk4 m pa ia ca ba pc ic cc bc hk W (hH.on hb) hW hZ) (fun W => send4 pa (m.ps.length) pc W) (fun W => rSend0 m pa ia ca ba pc ic cc bc (by omega) (by omega) (by omega) (by omega) W)
    have q4 := hk
    clear hk
    by_cases hk : m.k = 5
    · exact lChecks5 (mcs m pa ia ca ba pc ic cc bc) (mcs_size m pa ia ca ba pc ic cc bc) (m.day) (by rw [← hk]; rfl) w _ 0 hsm (fun W => of5 m pa ia ca ba pc ic cc bc W hk) (fun W hb => xCk5 m pa ia ca ba pc ic cc bc hk W (hH.on hb) hW hZ) (fun W hb => rCk5 m pa ia ca ba pc ic cc bc hk W (hH.on hb) hW hZ) (fun W => send5 (m.day) W) (fun W => rSend0 m pa ia ca ba pc ic cc bc (by omega) (by omega) (by omega) (by omega) W)
    have q5 := hk
    clear hk
    by_cases hk : m.k = 6
    · exact lChecks6 (mcs m pa ia ca ba pc ic cc bc) (mcs_size m pa ia ca ba pc ic cc bc) (m.mem) ⟨m.t.toArray⟩ (m.n) (by rw [← hk]; rfl) w _ 0 hsm (fun W => of6 m pa ia ca ba pc ic cc bc W hk) (fun W hb => xCk6 m pa ia ca ba pc ic cc bc hk W (hH.on hb) hW hZ) (fun W hb => rCk6 m pa ia ca ba pc ic cc bc hk W (hH.on hb) hW hZ) (fun W => send6 (m.mem) ⟨m.t.toArray⟩ (m.n) W) (fun W => rSend0 m pa ia ca ba pc ic cc bc (by omega) (by omega) (by omega) (by omega) W)
    have q6 := hk
    clear hk
    by_cases hk : m.k = 7
    · exact lChecks7 (mcs m pa ia ca ba pc ic cc bc) (mcs_size m pa ia ca ba pc ic cc bc) (m.mem) ⟨m.t.toArray⟩ (m.n) (by rw [← hk]; rfl) w _ 0 hsm (fun W => of7 m pa ia ca ba pc ic cc bc W hk) (fun W hb => xCk7 m pa ia ca ba pc ic cc bc hk W (hH.on hb) hW hZ) (fun W hb => rCk7 m pa ia ca ba pc ic cc bc hk W (hH.on hb) hW hZ) (fun W => send7 (m.mem) ⟨m.t.toArray⟩ (m.n) W) (fun W => rSend0 m pa ia ca ba pc ic cc bc (by omega) (by omega) (by omega) (by omega) W)
    have q7 := hk
    clear hk
    by_cases hk : m.k = 8
    · exact lChecks8 (mcs m pa ia ca ba pc ic cc bc) (mcs_size m pa ia ca ba pc ic cc bc) (m.q.id) (m.q.mem) (m.q.side) (m.q.bas) (m.q.am) (m.q.rate) (m.q.st) (m.q.en) (by rw [← hk]; rfl) w _ m.q.mem hsm (fun W => of8 m pa ia ca ba pc ic cc bc W hk) (fun W hb => xCk8 m pa ia ca ba pc ic cc bc hk W (hH.on hb) hW hZ) (fun W hb => rCk8 m pa ia ca ba pc ic cc bc hk W (hH.on hb) hW hZ) (fun W => send8 (m.q.id) (m.q.mem) (m.q.side) (m.q.bas) (m.q.am) (m.q.rate) (m.q.st) (m.q.en) W) (fun W => rSend8 m pa ia ca ba pc ic cc bc hk W)
    have q8 := hk
    clear hk
    by_cases hk : m.k = 9
    · exact lChecks9 (mcs m pa ia ca ba pc ic cc bc) (mcs_size m pa ia ca ba pc ic cc bc) (m.mem) (m.n) (by rw [← hk]; rfl) w _ m.mem hsm (fun W => of9 m pa ia ca ba pc ic cc bc W hk) (fun W hb => xCk9 m pa ia ca ba pc ic cc bc hk W (hH.on hb) hW hZ) (fun W hb => rCk9 m pa ia ca ba pc ic cc bc hk W (hH.on hb) hW hZ) (fun W => send9 (m.mem) (m.n) W) (fun W => rSend9 m pa ia ca ba pc ic cc bc hk W)
    have q9 := hk
    clear hk
    by_cases hk : m.k = 10
    · exact lChecks10 (mcs m pa ia ca ba pc ic cc bc) (mcs_size m pa ia ca ba pc ic cc bc) (m.mem) (m.tr) (m.day) (by rw [← hk]; rfl) w _ m.mem hsm (fun W => of10 m pa ia ca ba pc ic cc bc W hk) (fun W hb => xCk10 m pa ia ca ba pc ic cc bc hk W (hH.on hb) hW hZ) (fun W hb => rCk10 m pa ia ca ba pc ic cc bc hk W (hH.on hb) hW hZ) (fun W => send10 (m.mem) (m.tr) (m.day) W) (fun W => rSend10 m pa ia ca ba pc ic cc bc hk W)
    have q10 := hk
    clear hk
    by_cases hk : m.k = 11
    · exact lChecks11 (mcs m pa ia ca ba pc ic cc bc) (mcs_size m pa ia ca ba pc ic cc bc) (m.mem) (m.tr) ⟨m.out.i.toArray⟩ (m.out.q) ia (m.ins.length) ic (by rw [← hk]; rfl) w _ m.mem hsm (fun W => of11 m pa ia ca ba pc ic cc bc W hk) (fun W hb => xCk11 m pa ia ca ba pc ic cc bc hk W (hH.on hb) hW hZ) (fun W hb => rCk11 m pa ia ca ba pc ic cc bc hk W (hH.on hb) hW hZ) (fun W => send11 (m.mem) (m.tr) ⟨m.out.i.toArray⟩ (m.out.q) ia (m.ins.length) ic W) (fun W => rSend11 m pa ia ca ba pc ic cc bc hk W)
    have q11 := hk
    clear hk
    by_cases hk : m.k = 12
    · exact lChecks12 (mcs m pa ia ca ba pc ic cc bc) (mcs_size m pa ia ca ba pc ic cc bc) (m.mem) (m.day) (m.done) (by rw [← hk]; rfl) w _ 0 hsm (fun W => of12 m pa ia ca ba pc ic cc bc W hk) (fun W hb => xCk12 m pa ia ca ba pc ic cc bc hk W (hH.on hb) hW hZ) (fun W hb => rCk12 m pa ia ca ba pc ic cc bc hk W (hH.on hb) hW hZ) (fun W => send12 (m.mem) (m.day) (m.done) W) (fun W => rSend0 m pa ia ca ba pc ic cc bc (by omega) (by omega) (by omega) (by omega) W)
    have q12 := hk
    clear hk
    by_cases hk : m.k = 13
    · exact lChecks13 (mcs m pa ia ca ba pc ic cc bc) (mcs_size m pa ia ca ba pc ic cc bc) (m.mem) (by rw [← hk]; rfl) w _ 0 hsm (fun W => of13 m pa ia ca ba pc ic cc bc W hk) (fun W hb => xCk13 m pa ia ca ba pc ic cc bc hk W (hH.on hb) hW hZ) (fun W hb => rCk13 m pa ia ca ba pc ic cc bc hk W (hH.on hb) hW hZ) (fun W => send13 (m.mem) W) (fun W => rSend0 m pa ia ca ba pc ic cc bc (by omega) (by omega) (by omega) (by omega) W)
    have q13 := hk
    clear hk
    by_cases hk : m.k = 14
    · exact lChecks14 (mcs m pa ia ca ba pc ic cc bc) (mcs_size m pa ia ca ba pc ic cc bc) (m.mem) (m.n) (by rw [← hk]; rfl) w _ 0 hsm (fun W => of14 m pa ia ca ba pc ic cc bc W hk) (fun W hb => xCk14 m pa ia ca ba pc ic cc bc hk W (hH.on hb) hW hZ) (fun W hb => rCk14 m pa ia ca ba pc ic cc bc hk W (hH.on hb) hW hZ) (fun W => send14 (m.mem) (m.n) W) (fun W => rSend0 m pa ia ca ba pc ic cc bc (by omega) (by omega) (by omega) (by omega) W)
    have q14 := hk
    clear hk
    by_cases hk : m.k = 15
    · exact lChecks15 (mcs m pa ia ca ba pc ic cc bc) (mcs_size m pa ia ca ba pc ic cc bc) (m.tr) (m.day) (m.rate) (by rw [← hk]; rfl) w _ 0 hsm (fun W => of15 m pa ia ca ba pc ic cc bc W hk) (fun W hb => xCk15 m pa ia ca ba pc ic cc bc hk W (hH.on hb) hW hZ) (fun W hb => rCk15 m pa ia ca ba pc ic cc bc hk W (hH.on hb) hW hZ) (fun W => send15 (m.tr) (m.day) (m.rate) W) (fun W => rSend0 m pa ia ca ba pc ic cc bc (by omega) (by omega) (by omega) (by omega) W)
    have q15 := hk
    clear hk
    have h0 : inn m.k 1 15 = false := by unfold inn; rw [Bool.and_eq_false_iff, decide_eq_false_iff_not, decide_eq_false_iff_not]; omega
    exact lChecks0 (mcs m pa ia ca ba pc ic cc bc) (mcs_size m pa ia ca ba pc ic cc bc) m.k (by omega) rfl w 17 0 hsm (fun W => of0 m pa ia ca ba pc ic cc bc W h0) (fun W hb => checkV0 W) (fun W hb => rCheck0 m pa ia ca ba pc ic cc bc W h0) (fun W => send0 W) (fun W => rSend0 m pa ia ca ba pc ic cc bc (by omega) (by omega) (by omega) (by omega) W)
  · have hS : smB m = false := by simpa using hS
    exact lChecksBig (mcs m pa ia ca ba pc ic cc bc) (mcs_size m pa ia ca ba pc ic cc bc) w (fun W => by have := rSmall m pa ia ca ba pc ic cc bc W h1 h2; rw [hS] at this; exact this)
end Go.Proofs.YtdmlgheajblcdaaGreat
