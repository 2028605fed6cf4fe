/- Layer 10: Check and Encode of the program, every kind. -/
import Derived.Test.YtdmlgheajblcdaaGreatN25
import Derived.Test.YtdmlgheajblcdaaGreatK17
import Derived.Test.YtdmlgheajblcdaaGreatK18
import Derived.Test.YtdmlgheajblcdaaGreatK19
import Derived.Test.YtdmlgheajblcdaaGreatK15
import Derived.Test.YtdmlgheajblcdaaGreatK11
import Derived.WalkKit
import Derived.ProofKit
import Derived.Handy
import Derived.WalkLawsBesides
import Derived.WalkSpells
import Derived.BigQuiet
import Derived.BigCall
import Derived.Deep.QuietTactic
import Derived.Deep.Light
import Derived.Deep.OwnRows
import Derived.Laws.AppendOwnNone
import Derived.Laws.Strings3
import Derived.Laws.RangeAny
import Derived.Deep.RegionWith
import Derived.Lib.BitFns
import Derived.Lib.Walk
import Derived.Lib.Strings
import Derived.Lib.OthersKept
import Derived.Deep.CutBlock
import Derived.Deep.DeepCutAuto
import Derived.Deep.LoopGhost
import Derived.Deep.RegionHeld3
import Derived.Lib.SmallJoins
import Derived.Maps.AppendAt
import Derived.Laws.IdiomStrings
import Derived.Lib.AppendZeros
import Derived.Deep.WholeRow
import Derived.Laws.BitsAllLaws
import Derived.Lib.ConvBytes
import Derived.Deep.RegionLaw
namespace Go.Proofs.YtdmlgheajblcdaaGreat
open Go.RowKit
set_option linter.unusedVariables false
set_option linter.unusedSimpArgs false
set_option maxRecDepth 20000
theorem quE_seq (q : Qu) : quE C0 q = if amt q.id = true then if inn q.side 1 2 = true then if inn q.bas 1 64 = true then if amt q.am = true then if inn q.rate (-1000000) 1000000 = true then if inn q.st 0 200000 = true then if (decide (q.en = 0) || (inn q.en 0 200000 && inn (q.en - q.st) 1 3660)) = true then 0 else 10 else 10 else 1 else 1 else 1 else 1 else 1 := by
  unfold quE
  show (if (!(amt q.id && (inn q.side 1 2 && (inn q.bas 1 64 && (amt q.am && inn q.rate (-1000000) 1000000))))) = true then 1 else if (!(inn q.st 0 200000 && (decide (q.en = 0) || (inn q.en 0 200000 && inn (q.en - q.st) 1 3660)))) = true then 10 else 0) = _
  cases amt q.id with
  | false => rfl
  | true =>
    cases inn q.side 1 2 with
    | false => rfl
    | true =>
      cases inn q.bas 1 64 with
      | false => rfl
      | true =>
        cases amt q.am with
        | false => rfl
        | true =>
          cases inn q.rate (-1000000) 1000000 with
          | false => rfl
          | true =>
            cases inn q.st 0 200000 with
            | false => rfl
            | true =>
              cases (decide (q.en = 0) || (inn q.en 0 200000 && inn (q.en - q.st) 1 3660)) with
              | false => rfl
              | true =>
                rfl
theorem xCk1 (m : Mg) (pa ia ca ba : Option Addr) (pc ic cc bc : Nat) (hk : m.k = 1) (w : World) (hH : Hld w.heap.size w m pa ia ca ba) (hW : m.Wf) (hZ : Szd m) : Calls Tryz.prog 12 #[.iface 76 (.agg #[.int .i64 m.mem, .string ⟨m.name.toArray⟩])] w (KP (.int .i64 ((if mbr m.mem = true then C0.nm m.name else 1 : Nat) : Int)) w) :=
  checkV1 (m.mem) ⟨m.name.toArray⟩ _ w (fun W hb => check1 m pa ia ca ba pc ic cc bc W (by have := hZ.name; omega) _ rfl)
theorem xCk2 (m : Mg) (pa ia ca ba : Option Addr) (pc ic cc bc : Nat) (hk : m.k = 2) (w : World) (hH : Hld w.heap.size w m pa ia ca ba) (hW : m.Wf) (hZ : Szd m) : Calls Tryz.prog 12 #[.iface 78 (.agg #[.string ⟨m.a.i.toArray⟩, .int .i64 m.a.iss, .int .i64 m.a.rat, .int .i64 m.a.mat, .string ⟨m.a.cur.toArray⟩])] w (KP (.int .i64 ((C0.ast m.a : Nat) : Int)) w) :=
  checkV2 ⟨m.a.i.toArray⟩ (m.a.iss) (m.a.rat) (m.a.mat) ⟨m.a.cur.toArray⟩ _ w (fun W hb => check2 m pa ia ca ba pc ic cc bc W (by have := hZ.ai; omega) _ rfl)
theorem xCk3 (m : Mg) (pa ia ca ba : Option Addr) (pc ic cc bc : Nat) (hk : m.k = 3) (w : World) (hH : Hld w.heap.size w m pa ia ca ba) (hW : m.Wf) (hZ : Szd m) : Calls Tryz.prog 12 #[.iface 80 (.agg #[.int .i64 m.b.id, .int .i64 m.b.ver, .string ⟨m.b.cur.toArray⟩, .int .i64 m.b.rat, .int .i64 m.b.least, .int .i64 m.b.most, .slice ca m.b.cuts.length cc, .int .i64 m.b.iss, .int .i64 m.b.ass, .slice ba m.b.bar.length bc])] w (KP (.int .i64 ((bkE C0 m.b : Nat) : Int)) w) :=
  checkV3 (m.b.id) (m.b.ver) ⟨m.b.cur.toArray⟩ (m.b.rat) (m.b.least) (m.b.most) ca (m.b.cuts.length) cc (m.b.iss) (m.b.ass) ba (m.b.bar.length) bc _ w (fun W hb => check3 m pa ia ca ba pc ic cc bc W ((hH.cuts.keep hb).mono hb.size) ((hH.bar.keep hb).mono hb.size) hZ.lc hZ.lb _ rfl)
theorem xCk4 (m : Mg) (pa ia ca ba : Option Addr) (pc ic cc bc : Nat) (hk : m.k = 4) (w : World) (hH : Hld w.heap.size w m pa ia ca ba) (hW : m.Wf) (hZ : Szd m) : Calls Tryz.prog 12 #[.iface 82 (.agg #[.slice pa m.ps.length pc])] w (KP (.int .i64 ((prE C0 m.ps : Nat) : Int)) w) :=
  checkV4 pa (m.ps.length) pc _ w (fun W hb => check4 m pa ia ca ba pc ic cc bc W ((hH.ps.keep hb).mono hb.size) (fun y hy => by have := hZ.ps y hy; omega) hZ.lp _ rfl)
theorem xCk5 (m : Mg) (pa ia ca ba : Option Addr) (pc ic cc bc : Nat) (hk : m.k = 5) (w : World) (hH : Hld w.heap.size w m pa ia ca ba) (hW : m.Wf) (hZ : Szd m) : Calls Tryz.prog 12 #[.iface 74 (.agg #[.int .i64 m.day])] w (KP (.int .i64 ((dayE C0 m.day : Nat) : Int)) w) :=
  checkV5 (m.day) _ w (fun W hb => check5 m.day _ rfl W)
theorem xCk6 (m : Mg) (pa ia ca ba : Option Addr) (pc ic cc bc : Nat) (hk : m.k = 6) (w : World) (hH : Hld w.heap.size w m pa ia ca ba) (hW : m.Wf) (hZ : Szd m) : Calls Tryz.prog 12 #[.iface 84 (.agg #[.int .i64 m.mem, .string ⟨m.t.toArray⟩, .int .i64 m.n])] w (KP (.int .i64 ((if C0.cu m.t = true then if mbr m.mem = true then if sgn m.n = true then 0 else 1 else 1 else 11 : Nat) : Int)) w) :=
  checkV6 (m.mem) ⟨m.t.toArray⟩ (m.n) _ w (fun W hb => check6 m pa ia ca ba pc ic cc bc W hW.n _ rfl)
theorem xCk7 (m : Mg) (pa ia ca ba : Option Addr) (pc ic cc bc : Nat) (hk : m.k = 7) (w : World) (hH : Hld w.heap.size w m pa ia ca ba) (hW : m.Wf) (hZ : Szd m) : Calls Tryz.prog 12 #[.iface 86 (.agg #[.int .i64 m.mem, .string ⟨m.t.toArray⟩, .int .i64 m.n])] w (KP (.int .i64 ((if mbr m.mem = true then if sgn m.n = true then C0.is m.t else 1 else 1 : Nat) : Int)) w) :=
  checkV7 (m.mem) ⟨m.t.toArray⟩ (m.n) _ w (fun W hb => check7 m pa ia ca ba pc ic cc bc W hW.n (by have := hZ.t; omega) _ rfl)
theorem xCk8 (m : Mg) (pa ia ca ba : Option Addr) (pc ic cc bc : Nat) (hk : m.k = 8) (w : World) (hH : Hld w.heap.size w m pa ia ca ba) (hW : m.Wf) (hZ : Szd m) : Calls Tryz.prog 12 #[.iface 63 (.agg #[.int .i64 m.q.id, .int .i64 m.q.mem, .int .i64 m.q.side, .int .i64 m.q.bas, .int .i64 m.q.am, .int .i64 m.q.rate, .int .i64 m.q.st, .int .i64 m.q.en])] w (KP (.int .i64 ((if mbr m.q.mem = true then quE C0 m.q else 1 : Nat) : Int)) w) :=
  checkV8 (m.q.id) (m.q.mem) (m.q.side) (m.q.bas) (m.q.am) (m.q.rate) (m.q.st) (m.q.en) _ w (fun W hb => (by by_cases hs : m.q.side = 1; exact check8a m pa ia ca ba pc ic cc bc W hs hW.q.2.2.2.2.2.2.1 hW.q.2.2.2.2.2.2.2 _ (by rw [quE_seq]); exact check8b m pa ia ca ba pc ic cc bc W hs hW.q.2.2.2.2.2.2.1 hW.q.2.2.2.2.2.2.2 _ (by rw [quE_seq])))
theorem xCk9 (m : Mg) (pa ia ca ba : Option Addr) (pc ic cc bc : Nat) (hk : m.k = 9) (w : World) (hH : Hld w.heap.size w m pa ia ca ba) (hW : m.Wf) (hZ : Szd m) : Calls Tryz.prog 12 #[.iface 88 (.agg #[.int .i64 m.mem, .int .i64 m.n])] w (KP (.int .i64 ((if mbr m.mem = true then if amt m.n = true then 0 else 1 else 1 : Nat) : Int)) w) :=
  checkV9 (m.mem) (m.n) _ w (fun W hb => check9 m pa ia ca ba pc ic cc bc W _ rfl)
theorem xCk10 (m : Mg) (pa ia ca ba : Option Addr) (pc ic cc bc : Nat) (hk : m.k = 10) (w : World) (hH : Hld w.heap.size w m pa ia ca ba) (hW : m.Wf) (hZ : Szd m) : Calls Tryz.prog 12 #[.iface 90 (.agg #[.int .i64 m.mem, .int .i64 m.tr, .int .i64 m.day])] w (KP (.int .i64 ((if mbr m.mem = true then if amt m.tr = true then dayE C0 m.day else 1 else 1 : Nat) : Int)) w) :=
  checkV10 (m.mem) (m.tr) (m.day) _ w (fun W hb => check10 m pa ia ca ba pc ic cc bc W _ rfl)
theorem xCk11 (m : Mg) (pa ia ca ba : Option Addr) (pc ic cc bc : Nat) (hk : m.k = 11) (w : World) (hH : Hld w.heap.size w m pa ia ca ba) (hW : m.Wf) (hZ : Szd m) : Calls Tryz.prog 12 #[.iface 67 (.agg #[.int .i64 m.mem, .int .i64 m.tr, .string ⟨m.out.i.toArray⟩, .int .i64 m.out.q, .slice ia m.ins.length ic])] w (KP (.int .i64 ((if mbr m.mem = true then if amt m.tr = true then if decide (m.ins.length ≤ 64) = true then lotsE C0 (m.out :: m.ins) else 1 else 1 else 1 : Nat) : Int)) w) :=
  checkV11 (m.mem) (m.tr) ⟨m.out.i.toArray⟩ (m.out.q) ia (m.ins.length) ic _ w (fun W hb => check11 m pa ia ca ba pc ic cc bc W ((hH.ins.keep hb).mono hb.size) (by have := hZ.oi; omega) (fun y hy => by have := hZ.ins y hy; omega) hZ.li _ rfl)
theorem xCk12 (m : Mg) (pa ia ca ba : Option Addr) (pc ic cc bc : Nat) (hk : m.k = 12) (w : World) (hH : Hld w.heap.size w m pa ia ca ba) (hW : m.Wf) (hZ : Szd m) : Calls Tryz.prog 12 #[.iface 92 (.agg #[.int .i64 m.mem, .int .i64 m.day, .bool m.done])] w (KP (.int .i64 ((if mbr m.mem = true then dayE C0 m.day else 1 : Nat) : Int)) w) :=
  checkV12 (m.mem) (m.day) (m.done) _ w (fun W hb => check12 m pa ia ca ba pc ic cc bc W _ rfl)
theorem xCk13 (m : Mg) (pa ia ca ba : Option Addr) (pc ic cc bc : Nat) (hk : m.k = 13) (w : World) (hH : Hld w.heap.size w m pa ia ca ba) (hW : m.Wf) (hZ : Szd m) : Calls Tryz.prog 12 #[.iface 94 (.agg #[.int .i64 m.mem])] w (KP (.int .i64 ((if mbr m.mem = true then 0 else 1 : Nat) : Int)) w) :=
  checkV13 (m.mem) _ w (fun W hb => check13 m pa ia ca ba pc ic cc bc W _ rfl)
theorem xCk14 (m : Mg) (pa ia ca ba : Option Addr) (pc ic cc bc : Nat) (hk : m.k = 14) (w : World) (hH : Hld w.heap.size w m pa ia ca ba) (hW : m.Wf) (hZ : Szd m) : Calls Tryz.prog 12 #[.iface 96 (.agg #[.int .i64 m.mem, .int .i64 m.n])] w (KP (.int .i64 ((if mbr m.mem = true then if inn m.n 0 1125899906842624 = true then 0 else 1 else 1 : Nat) : Int)) w) :=
  checkV14 (m.mem) (m.n) _ w (fun W hb => check14 m pa ia ca ba pc ic cc bc W _ rfl)
theorem xCk15 (m : Mg) (pa ia ca ba : Option Addr) (pc ic cc bc : Nat) (hk : m.k = 15) (w : World) (hH : Hld w.heap.size w m pa ia ca ba) (hW : m.Wf) (hZ : Szd m) : Calls Tryz.prog 12 #[.iface 98 (.agg #[.int .i64 m.tr, .int .i64 m.day, .int .i64 m.rate])] w (KP (.int .i64 ((if amt m.tr = true then if inn m.rate (-1000000) 1000000 = true then dayE C0 m.day else 1 else 1 : Nat) : Int)) w) :=
  checkV15 (m.tr) (m.day) (m.rate) _ w (fun W hb => check15 m pa ia ca ba pc ic cc bc W _ rfl)
theorem Hld.keep {B : Nat} {w w' : World} {m : Mg} {pa ia ca ba : Option Addr} (h : Hld B w m pa ia ca ba) (hb : Below B w w') : Hld B w' m pa ia ca ba := ⟨h.ps.keep hb, h.ins.keep hb, h.cuts.keep hb, h.bar.keep hb⟩
theorem Hld.mono {B C : Nat} {w : World} {m : Mg} {pa ia ca ba : Option Addr} (h : Hld B w m pa ia ca ba) (hb : B ≤ C) : Hld C w m pa ia ca ba := ⟨h.ps.mono hb, h.ins.mono hb, h.cuts.mono hb, h.bar.mono hb⟩
theorem Hld.on {w w' : World} {m : Mg} {pa ia ca ba : Option Addr} (h : Hld w.heap.size w m pa ia ca ba) (hb : Below w.heap.size w w') : Hld w'.heap.size w' m pa ia ca ba := (h.keep hb).mono hb.size
theorem chk_is1 {m : Mg} (hk : m.k = 1) : chkM C0 m = if mbr m.mem = true then C0.nm m.name else 1 := by
  unfold chkM
  rw [if_pos hk]
theorem chk_is2 {m : Mg} (hk : m.k = 2) : chkM C0 m = C0.ast m.a := by
  unfold chkM
  rw [if_neg (by omega : ¬ m.k = 1)]
  rw [if_pos hk]
theorem chk_is3 {m : Mg} (hk : m.k = 3) : chkM C0 m = bkE C0 m.b := by
  unfold chkM
  rw [if_neg (by omega : ¬ m.k = 1)]
  rw [if_neg (by omega : ¬ m.k = 2)]
  rw [if_pos hk]
theorem chk_is4 {m : Mg} (hk : m.k = 4) : chkM C0 m = prE C0 m.ps := by
  unfold chkM
  rw [if_neg (by omega : ¬ m.k = 1)]
  rw [if_neg (by omega : ¬ m.k = 2)]
  rw [if_neg (by omega : ¬ m.k = 3)]
  rw [if_pos hk]
theorem chk_is5 {m : Mg} (hk : m.k = 5) : chkM C0 m = dayE C0 m.day := by
  unfold chkM
  rw [if_neg (by omega : ¬ m.k = 1)]
  rw [if_neg (by omega : ¬ m.k = 2)]
  rw [if_neg (by omega : ¬ m.k = 3)]
  rw [if_neg (by omega : ¬ m.k = 4)]
  rw [if_pos hk]
theorem chk_is6 {m : Mg} (hk : m.k = 6) : chkM C0 m = if C0.cu m.t = true then if mbr m.mem = true then if sgn m.n = true then 0 else 1 else 1 else 11 := by
  unfold chkM
  rw [if_neg (by omega : ¬ m.k = 1)]
  rw [if_neg (by omega : ¬ m.k = 2)]
  rw [if_neg (by omega : ¬ m.k = 3)]
  rw [if_neg (by omega : ¬ m.k = 4)]
  rw [if_neg (by omega : ¬ m.k = 5)]
  rw [if_pos hk]
  generalize mbr m.mem = t0
  generalize sgn m.n = t1
  cases t0 <;> cases t1 <;> first | rfl | simp
theorem chk_is7 {m : Mg} (hk : m.k = 7) : chkM C0 m = if mbr m.mem = true then if sgn m.n = true then C0.is m.t else 1 else 1 := by
  unfold chkM
  rw [if_neg (by omega : ¬ m.k = 1)]
  rw [if_neg (by omega : ¬ m.k = 2)]
  rw [if_neg (by omega : ¬ m.k = 3)]
  rw [if_neg (by omega : ¬ m.k = 4)]
  rw [if_neg (by omega : ¬ m.k = 5)]
  rw [if_neg (by omega : ¬ m.k = 6)]
  rw [if_pos hk]
  generalize mbr m.mem = t0
  generalize sgn m.n = t1
  cases t0 <;> cases t1 <;> first | rfl | simp
theorem chk_is8 {m : Mg} (hk : m.k = 8) : chkM C0 m = if mbr m.q.mem = true then quE C0 m.q else 1 := by
  unfold chkM
  rw [if_neg (by omega : ¬ m.k = 1)]
  rw [if_neg (by omega : ¬ m.k = 2)]
  rw [if_neg (by omega : ¬ m.k = 3)]
  rw [if_neg (by omega : ¬ m.k = 4)]
  rw [if_neg (by omega : ¬ m.k = 5)]
  rw [if_neg (by omega : ¬ m.k = 6)]
  rw [if_neg (by omega : ¬ m.k = 7)]
  rw [if_pos hk]
theorem chk_is9 {m : Mg} (hk : m.k = 9) : chkM C0 m = if mbr m.mem = true then if amt m.n = true then 0 else 1 else 1 := by
  unfold chkM
  rw [if_neg (by omega : ¬ m.k = 1)]
  rw [if_neg (by omega : ¬ m.k = 2)]
  rw [if_neg (by omega : ¬ m.k = 3)]
  rw [if_neg (by omega : ¬ m.k = 4)]
  rw [if_neg (by omega : ¬ m.k = 5)]
  rw [if_neg (by omega : ¬ m.k = 6)]
  rw [if_neg (by omega : ¬ m.k = 7)]
  rw [if_neg (by omega : ¬ m.k = 8)]
  rw [if_pos hk]
  generalize mbr m.mem = t0
  generalize amt m.n = t1
  cases t0 <;> cases t1 <;> first | rfl | simp
theorem chk_is10 {m : Mg} (hk : m.k = 10) : chkM C0 m = if mbr m.mem = true then if amt m.tr = true then dayE C0 m.day else 1 else 1 := by
  unfold chkM
  rw [if_neg (by omega : ¬ m.k = 1)]
  rw [if_neg (by omega : ¬ m.k = 2)]
  rw [if_neg (by omega : ¬ m.k = 3)]
  rw [if_neg (by omega : ¬ m.k = 4)]
  rw [if_neg (by omega : ¬ m.k = 5)]
  rw [if_neg (by omega : ¬ m.k = 6)]
  rw [if_neg (by omega : ¬ m.k = 7)]
  rw [if_neg (by omega : ¬ m.k = 8)]
  rw [if_neg (by omega : ¬ m.k = 9)]
  rw [if_pos hk]
  generalize mbr m.mem = t0
  generalize amt m.tr = t1
  cases t0 <;> cases t1 <;> first | rfl | simp
theorem chk_is11 {m : Mg} (hk : m.k = 11) : chkM C0 m = if mbr m.mem = true then if amt m.tr = true then if decide (m.ins.length ≤ 64) = true then lotsE C0 (m.out :: m.ins) else 1 else 1 else 1 := by
  unfold chkM
  rw [if_neg (by omega : ¬ m.k = 1)]
  rw [if_neg (by omega : ¬ m.k = 2)]
  rw [if_neg (by omega : ¬ m.k = 3)]
  rw [if_neg (by omega : ¬ m.k = 4)]
  rw [if_neg (by omega : ¬ m.k = 5)]
  rw [if_neg (by omega : ¬ m.k = 6)]
  rw [if_neg (by omega : ¬ m.k = 7)]
  rw [if_neg (by omega : ¬ m.k = 8)]
  rw [if_neg (by omega : ¬ m.k = 9)]
  rw [if_neg (by omega : ¬ m.k = 10)]
  rw [if_pos hk]
  generalize mbr m.mem = t0
  generalize amt m.tr = t1
  generalize decide (m.ins.length ≤ 64) = t2
  cases t0 <;> cases t1 <;> cases t2 <;> first | rfl | simp
theorem chk_is12 {m : Mg} (hk : m.k = 12) : chkM C0 m = if mbr m.mem = true then dayE C0 m.day else 1 := by
  unfold chkM
  rw [if_neg (by omega : ¬ m.k = 1)]
  rw [if_neg (by omega : ¬ m.k = 2)]
  rw [if_neg (by omega : ¬ m.k = 3)]
  rw [if_neg (by omega : ¬ m.k = 4)]
  rw [if_neg (by omega : ¬ m.k = 5)]
  rw [if_neg (by omega : ¬ m.k = 6)]
  rw [if_neg (by omega : ¬ m.k = 7)]
  rw [if_neg (by omega : ¬ m.k = 8)]
  rw [if_neg (by omega : ¬ m.k = 9)]
  rw [if_neg (by omega : ¬ m.k = 10)]
  rw [if_neg (by omega : ¬ m.k = 11)]
  rw [if_pos hk]
theorem chk_is13 {m : Mg} (hk : m.k = 13) : chkM C0 m = if mbr m.mem = true then 0 else 1 := by
  unfold chkM
  rw [if_neg (by omega : ¬ m.k = 1)]
  rw [if_neg (by omega : ¬ m.k = 2)]
  rw [if_neg (by omega : ¬ m.k = 3)]
  rw [if_neg (by omega : ¬ m.k = 4)]
  rw [if_neg (by omega : ¬ m.k = 5)]
  rw [if_neg (by omega : ¬ m.k = 6)]
  rw [if_neg (by omega : ¬ m.k = 7)]
  rw [if_neg (by omega : ¬ m.k = 8)]
  rw [if_neg (by omega : ¬ m.k = 9)]
  rw [if_neg (by omega : ¬ m.k = 10)]
  rw [if_neg (by omega : ¬ m.k = 11)]
  rw [if_neg (by omega : ¬ m.k = 12)]
  rw [if_pos hk]
theorem chk_is14 {m : Mg} (hk : m.k = 14) : chkM C0 m = if mbr m.mem = true then if inn m.n 0 1125899906842624 = true then 0 else 1 else 1 := by
  unfold chkM
  rw [if_neg (by omega : ¬ m.k = 1)]
  rw [if_neg (by omega : ¬ m.k = 2)]
  rw [if_neg (by omega : ¬ m.k = 3)]
  rw [if_neg (by omega : ¬ m.k = 4)]
  rw [if_neg (by omega : ¬ m.k = 5)]
  rw [if_neg (by omega : ¬ m.k = 6)]
  rw [if_neg (by omega : ¬ m.k = 7)]
  rw [if_neg (by omega : ¬ m.k = 8)]
  rw [if_neg (by omega : ¬ m.k = 9)]
  rw [if_neg (by omega : ¬ m.k = 10)]
  rw [if_neg (by omega : ¬ m.k = 11)]
  rw [if_neg (by omega : ¬ m.k = 12)]
  rw [if_neg (by omega : ¬ m.k = 13)]
  rw [if_pos hk]
  generalize mbr m.mem = t0
  generalize inn m.n 0 1125899906842624 = t1
  cases t0 <;> cases t1 <;> first | rfl | simp
theorem chk_is15 {m : Mg} (hk : m.k = 15) : chkM C0 m = if amt m.tr = true then if inn m.rate (-1000000) 1000000 = true then dayE C0 m.day else 1 else 1 := by
  unfold chkM
  rw [if_neg (by omega : ¬ m.k = 1)]
  rw [if_neg (by omega : ¬ m.k = 2)]
  rw [if_neg (by omega : ¬ m.k = 3)]
  rw [if_neg (by omega : ¬ m.k = 4)]
  rw [if_neg (by omega : ¬ m.k = 5)]
  rw [if_neg (by omega : ¬ m.k = 6)]
  rw [if_neg (by omega : ¬ m.k = 7)]
  rw [if_neg (by omega : ¬ m.k = 8)]
  rw [if_neg (by omega : ¬ m.k = 9)]
  rw [if_neg (by omega : ¬ m.k = 10)]
  rw [if_neg (by omega : ¬ m.k = 11)]
  rw [if_neg (by omega : ¬ m.k = 12)]
  rw [if_neg (by omega : ¬ m.k = 13)]
  rw [if_neg (by omega : ¬ m.k = 14)]
  rw [if_pos hk]
  generalize amt m.tr = t0
  generalize inn m.rate (-1000000) 1000000 = t1
  cases t0 <;> cases t1 <;> first | rfl | simp
theorem shrt_of {m : Mg} (h : chkM C0 m = 0) : Shrt m where
  n := fun hk => by
    rw [chk_is1 hk] at h
    split at h
    · have := C0_ok.nm _ h; omega
    · cases h
  a := fun hk => by
    rw [chk_is2 hk] at h
    have := C0_ok.ast _ h
    omega
  b := fun hk => by
    rw [chk_is3 hk] at h
    have := bkE_len C0_ok h
    omega
  p := fun hk => by
    rw [chk_is4 hk] at h
    unfold prE at h
    split at h
    · cases h
    · rename_i hn
      exact ⟨by omega, fun y hy => by have := prsE_len C0_ok _ _ h y hy; omega⟩
  t := fun hk => by
    rcases hk with hk | hk
    · rw [chk_is6 hk] at h
      split at h
      · rename_i hc; have := C0_ok.cu _ hc; omega
      · cases h
    · rw [chk_is7 hk] at h
      split at h
      · split at h
        · have := C0_ok.is _ h; omega
        · cases h
      · cases h
  l := fun hk => by
    rw [chk_is11 hk] at h
    split at h
    · split at h
      · split at h
        · rename_i hd
          have := lotsE_len C0_ok _ h
          refine ⟨by have := this _ (List.mem_cons_self ..); omega, of_decide_eq_true hd, fun y hy => by have := this _ (List.mem_cons_of_mem _ hy); omega⟩
        · cases h
      · cases h
    · cases h
/-- P10.4 -/
def encS (m : Mg) : List UInt8 := if chkM C0 m = 0 then encL m else []
theorem encS_ok {m : Mg} (h : chkM C0 m = 0) : encS m = encL m := if_pos h
theorem encS_bad {m : Mg} (h : ¬ chkM C0 m = 0) : encS m = [] := if_neg h
theorem xEnc1 (m : Mg) (pa ia ca ba : Option Addr) (pc ic cc bc : Nat) (hk : m.k = 1) (w : World) (hH : Hld w.heap.size w m pa ia ca ba) (hW : m.Wf) (hZ : Szd m) : Calls Tryz.prog 18 #[.iface 76 (.agg #[.int .i64 m.mem, .string ⟨m.name.toArray⟩])] w (KP (.tuple #[.string ⟨(encS m).toArray⟩, .int .i64 ((chkM C0 m : Nat) : Int)]) w) := by
  have hc := xCk1 m pa ia ca ba pc ic cc bc hk w hH hW hZ
  rw [← chk_is1 hk] at hc
  by_cases h0 : chkM C0 m = 0
  · rw [encS_ok h0]
    rw [h0] at hc ⊢
    have e : encL m = intL 1 ++ (intL m.mem ++ textL m.name) := by unfold encL bodL; simp [hk]
    rw [e]
    exact encode1 (m.mem) ⟨m.name.toArray⟩ (intL m.mem ++ textL m.name) w hc (fun w' p v l hb hw hp hl => write1 p p v l _ _ hW.mem ((shrt_of h0).n hk) w' hw (by omega))
  · rw [encS_bad h0]
    exact encodeBad _ _ h0 w hc
theorem xEnc2 (m : Mg) (pa ia ca ba : Option Addr) (pc ic cc bc : Nat) (hk : m.k = 2) (w : World) (hH : Hld w.heap.size w m pa ia ca ba) (hW : m.Wf) (hZ : Szd m) : Calls Tryz.prog 18 #[.iface 78 (.agg #[.string ⟨m.a.i.toArray⟩, .int .i64 m.a.iss, .int .i64 m.a.rat, .int .i64 m.a.mat, .string ⟨m.a.cur.toArray⟩])] w (KP (.tuple #[.string ⟨(encS m).toArray⟩, .int .i64 ((chkM C0 m : Nat) : Int)]) w) := by
  have hc := xCk2 m pa ia ca ba pc ic cc bc hk w hH hW hZ
  rw [← chk_is2 hk] at hc
  by_cases h0 : chkM C0 m = 0
  · rw [encS_ok h0]
    rw [h0] at hc ⊢
    have e : encL m = intL 2 ++ (textL m.a.i ++ (intL m.a.iss ++ (intL m.a.rat ++ (intL m.a.mat ++ textL m.a.cur)))) := by unfold encL bodL; simp [hk]
    rw [e]
    exact encode2 ⟨m.a.i.toArray⟩ (m.a.iss) (m.a.rat) (m.a.mat) ⟨m.a.cur.toArray⟩ (textL m.a.i ++ (intL m.a.iss ++ (intL m.a.rat ++ (intL m.a.mat ++ textL m.a.cur)))) w hc (fun w' p v l hb hw hp hl => write2 p p v l _ _ _ _ _ ((shrt_of h0).a hk).1 hW.a.1 hW.a.2.1 hW.a.2.2 ((shrt_of h0).a hk).2 w' hw (by omega))
  · rw [encS_bad h0]
    exact encodeBad _ _ h0 w hc
theorem xEnc3 (m : Mg) (pa ia ca ba : Option Addr) (pc ic cc bc : Nat) (hk : m.k = 3) (w : World) (hH : Hld w.heap.size w m pa ia ca ba) (hW : m.Wf) (hZ : Szd m) : Calls Tryz.prog 18 #[.iface 80 (.agg #[.int .i64 m.b.id, .int .i64 m.b.ver, .string ⟨m.b.cur.toArray⟩, .int .i64 m.b.rat, .int .i64 m.b.least, .int .i64 m.b.most, .slice ca m.b.cuts.length cc, .int .i64 m.b.iss, .int .i64 m.b.ass, .slice ba m.b.bar.length bc])] w (KP (.tuple #[.string ⟨(encS m).toArray⟩, .int .i64 ((chkM C0 m : Nat) : Int)]) w) := by
  have hc := xCk3 m pa ia ca ba pc ic cc bc hk w hH hW hZ
  rw [← chk_is3 hk] at hc
  by_cases h0 : chkM C0 m = 0
  · rw [encS_ok h0]
    rw [h0] at hc ⊢
    have e : encL m = intL 3 ++ (bkL m.b) := by unfold encL bodL; simp [hk]
    rw [e]
    exact encode3 (m.b.id) (m.b.ver) ⟨m.b.cur.toArray⟩ (m.b.rat) (m.b.least) (m.b.most) ca (m.b.cuts.length) cc (m.b.iss) (m.b.ass) ba (m.b.bar.length) bc (bkL m.b) w hc (fun w' p v l hb hw hp hl => write3 p p v l _ _ _ _ _ _ m.b.cuts ca cc _ _ m.b.bar ba bc hW.b.1 hW.b.2.1 ((shrt_of h0).b hk).1 hW.b.2.2.1 hW.b.2.2.2.1 hW.b.2.2.2.2.1 hW.b.2.2.2.2.2.1 hW.b.2.2.2.2.2.2.1 w' hw (by omega) ((shrt_of h0).b hk).2.1 ((shrt_of h0).b hk).2.2 ((hH.cuts.keep hb).mono hp) hW.b.2.2.2.2.2.2.2.1 ((hH.bar.keep hb).mono hp) hW.b.2.2.2.2.2.2.2.2)
  · rw [encS_bad h0]
    exact encodeBad _ _ h0 w hc
theorem xEnc4 (m : Mg) (pa ia ca ba : Option Addr) (pc ic cc bc : Nat) (hk : m.k = 4) (w : World) (hH : Hld w.heap.size w m pa ia ca ba) (hW : m.Wf) (hZ : Szd m) : Calls Tryz.prog 18 #[.iface 82 (.agg #[.slice pa m.ps.length pc])] w (KP (.tuple #[.string ⟨(encS m).toArray⟩, .int .i64 ((chkM C0 m : Nat) : Int)]) w) := by
  have hc := xCk4 m pa ia ca ba pc ic cc bc hk w hH hW hZ
  rw [← chk_is4 hk] at hc
  by_cases h0 : chkM C0 m = 0
  · rw [encS_ok h0]
    rw [h0] at hc ⊢
    have e : encL m = intL 4 ++ (uintL m.ps.length ++ flatM lotL m.ps) := by unfold encL bodL; simp [hk]
    rw [e]
    exact encode4 pa (m.ps.length) pc (uintL m.ps.length ++ flatM lotL m.ps) w hc (fun w' p v l hb hw hp hl => write4 p p v l m.ps pa pc w' hw (by omega) ((shrt_of h0).p hk).1 ((hH.ps.keep hb).mono hp) (fun y hy => ⟨((shrt_of h0).p hk).2 y hy, hW.ps y hy⟩))
  · rw [encS_bad h0]
    exact encodeBad _ _ h0 w hc
theorem xEnc5 (m : Mg) (pa ia ca ba : Option Addr) (pc ic cc bc : Nat) (hk : m.k = 5) (w : World) (hH : Hld w.heap.size w m pa ia ca ba) (hW : m.Wf) (hZ : Szd m) : Calls Tryz.prog 18 #[.iface 74 (.agg #[.int .i64 m.day])] w (KP (.tuple #[.string ⟨(encS m).toArray⟩, .int .i64 ((chkM C0 m : Nat) : Int)]) w) := by
  have hc := xCk5 m pa ia ca ba pc ic cc bc hk w hH hW hZ
  rw [← chk_is5 hk] at hc
  by_cases h0 : chkM C0 m = 0
  · rw [encS_ok h0]
    rw [h0] at hc ⊢
    have e : encL m = intL 5 ++ (intL m.day) := by unfold encL bodL; simp [hk]
    rw [e]
    exact encode5 (m.day) (intL m.day) w hc (fun w' p v l hb hw hp hl => write5 p p v l _ hW.day w' hw (by omega))
  · rw [encS_bad h0]
    exact encodeBad _ _ h0 w hc
theorem xEnc6 (m : Mg) (pa ia ca ba : Option Addr) (pc ic cc bc : Nat) (hk : m.k = 6) (w : World) (hH : Hld w.heap.size w m pa ia ca ba) (hW : m.Wf) (hZ : Szd m) : Calls Tryz.prog 18 #[.iface 84 (.agg #[.int .i64 m.mem, .string ⟨m.t.toArray⟩, .int .i64 m.n])] w (KP (.tuple #[.string ⟨(encS m).toArray⟩, .int .i64 ((chkM C0 m : Nat) : Int)]) w) := by
  have hc := xCk6 m pa ia ca ba pc ic cc bc hk w hH hW hZ
  rw [← chk_is6 hk] at hc
  by_cases h0 : chkM C0 m = 0
  · rw [encS_ok h0]
    rw [h0] at hc ⊢
    have e : encL m = intL 6 ++ (intL m.mem ++ (intL m.n ++ textL m.t)) := by unfold encL bodL; simp [hk]
    rw [e]
    exact encode6 (m.mem) ⟨m.t.toArray⟩ (m.n) (intL m.mem ++ (intL m.n ++ textL m.t)) w hc (fun w' p v l hb hw hp hl => write6 p p v l _ _ _ hW.mem ((shrt_of h0).t (Or.inl hk)) hW.n w' hw (by omega))
  · rw [encS_bad h0]
    exact encodeBad _ _ h0 w hc
theorem xEnc7 (m : Mg) (pa ia ca ba : Option Addr) (pc ic cc bc : Nat) (hk : m.k = 7) (w : World) (hH : Hld w.heap.size w m pa ia ca ba) (hW : m.Wf) (hZ : Szd m) : Calls Tryz.prog 18 #[.iface 86 (.agg #[.int .i64 m.mem, .string ⟨m.t.toArray⟩, .int .i64 m.n])] w (KP (.tuple #[.string ⟨(encS m).toArray⟩, .int .i64 ((chkM C0 m : Nat) : Int)]) w) := by
  have hc := xCk7 m pa ia ca ba pc ic cc bc hk w hH hW hZ
  rw [← chk_is7 hk] at hc
  by_cases h0 : chkM C0 m = 0
  · rw [encS_ok h0]
    rw [h0] at hc ⊢
    have e : encL m = intL 7 ++ (intL m.mem ++ (intL m.n ++ textL m.t)) := by unfold encL bodL; simp [hk]
    rw [e]
    exact encode7 (m.mem) ⟨m.t.toArray⟩ (m.n) (intL m.mem ++ (intL m.n ++ textL m.t)) w hc (fun w' p v l hb hw hp hl => write7 p p v l _ _ _ hW.mem ((shrt_of h0).t (Or.inr hk)) hW.n w' hw (by omega))
  · rw [encS_bad h0]
    exact encodeBad _ _ h0 w hc
theorem xEnc8 (m : Mg) (pa ia ca ba : Option Addr) (pc ic cc bc : Nat) (hk : m.k = 8) (w : World) (hH : Hld w.heap.size w m pa ia ca ba) (hW : m.Wf) (hZ : Szd m) : Calls Tryz.prog 18 #[.iface 63 (.agg #[.int .i64 m.q.id, .int .i64 m.q.mem, .int .i64 m.q.side, .int .i64 m.q.bas, .int .i64 m.q.am, .int .i64 m.q.rate, .int .i64 m.q.st, .int .i64 m.q.en])] w (KP (.tuple #[.string ⟨(encS m).toArray⟩, .int .i64 ((chkM C0 m : Nat) : Int)]) w) := by
  have hc := xCk8 m pa ia ca ba pc ic cc bc hk w hH hW hZ
  rw [← chk_is8 hk] at hc
  by_cases h0 : chkM C0 m = 0
  · rw [encS_ok h0]
    rw [h0] at hc ⊢
    have e : encL m = intL 8 ++ (quL m.q) := by unfold encL bodL; simp [hk]
    rw [e]
    exact encode8 (m.q.id) (m.q.mem) (m.q.side) (m.q.bas) (m.q.am) (m.q.rate) (m.q.st) (m.q.en) (quL m.q) w hc (fun w' p v l hb hw hp hl => write8 p p v l _ _ _ _ _ _ _ _ hW.q.1 hW.q.2.1 hW.q.2.2.1 hW.q.2.2.2.1 hW.q.2.2.2.2.1 hW.q.2.2.2.2.2.1 hW.q.2.2.2.2.2.2.1 hW.q.2.2.2.2.2.2.2 w' hw (by omega))
  · rw [encS_bad h0]
    exact encodeBad _ _ h0 w hc
theorem xEnc9 (m : Mg) (pa ia ca ba : Option Addr) (pc ic cc bc : Nat) (hk : m.k = 9) (w : World) (hH : Hld w.heap.size w m pa ia ca ba) (hW : m.Wf) (hZ : Szd m) : Calls Tryz.prog 18 #[.iface 88 (.agg #[.int .i64 m.mem, .int .i64 m.n])] w (KP (.tuple #[.string ⟨(encS m).toArray⟩, .int .i64 ((chkM C0 m : Nat) : Int)]) w) := by
  have hc := xCk9 m pa ia ca ba pc ic cc bc hk w hH hW hZ
  rw [← chk_is9 hk] at hc
  by_cases h0 : chkM C0 m = 0
  · rw [encS_ok h0]
    rw [h0] at hc ⊢
    have e : encL m = intL 9 ++ (intL m.mem ++ intL m.n) := by unfold encL bodL; simp [hk]
    rw [e]
    exact encode9 (m.mem) (m.n) (intL m.mem ++ intL m.n) w hc (fun w' p v l hb hw hp hl => write9 p p v l _ _ hW.mem hW.n w' hw (by omega))
  · rw [encS_bad h0]
    exact encodeBad _ _ h0 w hc
theorem xEnc10 (m : Mg) (pa ia ca ba : Option Addr) (pc ic cc bc : Nat) (hk : m.k = 10) (w : World) (hH : Hld w.heap.size w m pa ia ca ba) (hW : m.Wf) (hZ : Szd m) : Calls Tryz.prog 18 #[.iface 90 (.agg #[.int .i64 m.mem, .int .i64 m.tr, .int .i64 m.day])] w (KP (.tuple #[.string ⟨(encS m).toArray⟩, .int .i64 ((chkM C0 m : Nat) : Int)]) w) := by
  have hc := xCk10 m pa ia ca ba pc ic cc bc hk w hH hW hZ
  rw [← chk_is10 hk] at hc
  by_cases h0 : chkM C0 m = 0
  · rw [encS_ok h0]
    rw [h0] at hc ⊢
    have e : encL m = intL 10 ++ (intL m.mem ++ (intL m.tr ++ intL m.day)) := by unfold encL bodL; simp [hk]
    rw [e]
    exact encode10 (m.mem) (m.tr) (m.day) (intL m.mem ++ (intL m.tr ++ intL m.day)) w hc (fun w' p v l hb hw hp hl => write10 p p v l _ _ _ hW.mem hW.tr hW.day w' hw (by omega))
  · rw [encS_bad h0]
    exact encodeBad _ _ h0 w hc
theorem xEnc11 (m : Mg) (pa ia ca ba : Option Addr) (pc ic cc bc : Nat) (hk : m.k = 11) (w : World) (hH : Hld w.heap.size w m pa ia ca ba) (hW : m.Wf) (hZ : Szd m) : Calls Tryz.prog 18 #[.iface 67 (.agg #[.int .i64 m.mem, .int .i64 m.tr, .string ⟨m.out.i.toArray⟩, .int .i64 m.out.q, .slice ia m.ins.length ic])] w (KP (.tuple #[.string ⟨(encS m).toArray⟩, .int .i64 ((chkM C0 m : Nat) : Int)]) w) := by
  have hc := xCk11 m pa ia ca ba pc ic cc bc hk w hH hW hZ
  rw [← chk_is11 hk] at hc
  by_cases h0 : chkM C0 m = 0
  · rw [encS_ok h0]
    rw [h0] at hc ⊢
    have e : encL m = intL 11 ++ (intL m.mem ++ (intL m.tr ++ (lotL m.out ++ (uintL m.ins.length ++ flatM lotL m.ins)))) := by unfold encL bodL; simp [hk]
    rw [e]
    exact encode11 (m.mem) (m.tr) ⟨m.out.i.toArray⟩ (m.out.q) ia (m.ins.length) ic (intL m.mem ++ (intL m.tr ++ (lotL m.out ++ (uintL m.ins.length ++ flatM lotL m.ins)))) w hc (fun w' p v l hb hw hp hl => write11 p p v l _ _ _ _ m.ins ia ic hW.mem hW.tr ((shrt_of h0).l hk).1 hW.out w' hw (by omega) ((shrt_of h0).l hk).2.1 ((hH.ins.keep hb).mono hp) (fun y hy => ⟨((shrt_of h0).l hk).2.2 y hy, hW.ins y hy⟩))
  · rw [encS_bad h0]
    exact encodeBad _ _ h0 w hc
theorem xEnc12 (m : Mg) (pa ia ca ba : Option Addr) (pc ic cc bc : Nat) (hk : m.k = 12) (w : World) (hH : Hld w.heap.size w m pa ia ca ba) (hW : m.Wf) (hZ : Szd m) : Calls Tryz.prog 18 #[.iface 92 (.agg #[.int .i64 m.mem, .int .i64 m.day, .bool m.done])] w (KP (.tuple #[.string ⟨(encS m).toArray⟩, .int .i64 ((chkM C0 m : Nat) : Int)]) w) := by
  have hc := xCk12 m pa ia ca ba pc ic cc bc hk w hH hW hZ
  rw [← chk_is12 hk] at hc
  by_cases h0 : chkM C0 m = 0
  · rw [encS_ok h0]
    rw [h0] at hc ⊢
    have e : encL m = intL 12 ++ (intL m.mem ++ (intL m.day ++ boolL m.done)) := by unfold encL bodL; simp [hk]
    rw [e]
    exact encode12 (m.mem) (m.day) (m.done) (intL m.mem ++ (intL m.day ++ boolL m.done)) w hc (fun w' p v l hb hw hp hl => write12 p p v l _ _ _ hW.mem hW.day w' hw (by omega))
  · rw [encS_bad h0]
    exact encodeBad _ _ h0 w hc
theorem xEnc13 (m : Mg) (pa ia ca ba : Option Addr) (pc ic cc bc : Nat) (hk : m.k = 13) (w : World) (hH : Hld w.heap.size w m pa ia ca ba) (hW : m.Wf) (hZ : Szd m) : Calls Tryz.prog 18 #[.iface 94 (.agg #[.int .i64 m.mem])] w (KP (.tuple #[.string ⟨(encS m).toArray⟩, .int .i64 ((chkM C0 m : Nat) : Int)]) w) := by
  have hc := xCk13 m pa ia ca ba pc ic cc bc hk w hH hW hZ
  rw [← chk_is13 hk] at hc
  by_cases h0 : chkM C0 m = 0
  · rw [encS_ok h0]
    rw [h0] at hc ⊢
    have e : encL m = intL 13 ++ (intL m.mem) := by unfold encL bodL; simp [hk]
    rw [e]
    exact encode13 (m.mem) (intL m.mem) w hc (fun w' p v l hb hw hp hl => write13 p p v l _ hW.mem w' hw (by omega))
  · rw [encS_bad h0]
    exact encodeBad _ _ h0 w hc
theorem xEnc14 (m : Mg) (pa ia ca ba : Option Addr) (pc ic cc bc : Nat) (hk : m.k = 14) (w : World) (hH : Hld w.heap.size w m pa ia ca ba) (hW : m.Wf) (hZ : Szd m) : Calls Tryz.prog 18 #[.iface 96 (.agg #[.int .i64 m.mem, .int .i64 m.n])] w (KP (.tuple #[.string ⟨(encS m).toArray⟩, .int .i64 ((chkM C0 m : Nat) : Int)]) w) := by
  have hc := xCk14 m pa ia ca ba pc ic cc bc hk w hH hW hZ
  rw [← chk_is14 hk] at hc
  by_cases h0 : chkM C0 m = 0
  · rw [encS_ok h0]
    rw [h0] at hc ⊢
    have e : encL m = intL 14 ++ (intL m.mem ++ intL m.n) := by unfold encL bodL; simp [hk]
    rw [e]
    exact encode14 (m.mem) (m.n) (intL m.mem ++ intL m.n) w hc (fun w' p v l hb hw hp hl => write14 p p v l _ _ hW.mem hW.n w' hw (by omega))
  · rw [encS_bad h0]
    exact encodeBad _ _ h0 w hc
theorem xEnc15 (m : Mg) (pa ia ca ba : Option Addr) (pc ic cc bc : Nat) (hk : m.k = 15) (w : World) (hH : Hld w.heap.size w m pa ia ca ba) (hW : m.Wf) (hZ : Szd m) : Calls Tryz.prog 18 #[.iface 98 (.agg #[.int .i64 m.tr, .int .i64 m.day, .int .i64 m.rate])] w (KP (.tuple #[.string ⟨(encS m).toArray⟩, .int .i64 ((chkM C0 m : Nat) : Int)]) w) := by
  have hc := xCk15 m pa ia ca ba pc ic cc bc hk w hH hW hZ
  rw [← chk_is15 hk] at hc
  by_cases h0 : chkM C0 m = 0
  · rw [encS_ok h0]
    rw [h0] at hc ⊢
    have e : encL m = intL 15 ++ (intL m.tr ++ (intL m.day ++ intL m.rate)) := by unfold encL bodL; simp [hk]
    rw [e]
    exact encode15 (m.tr) (m.day) (m.rate) (intL m.tr ++ (intL m.day ++ intL m.rate)) w hc (fun w' p v l hb hw hp hl => write15 p p v l _ _ _ hW.tr hW.day hW.rate w' hw (by omega))
  · rw [encS_bad h0]
    exact encodeBad _ _ h0 w hc
theorem xEnc0 (w : World) : Calls Tryz.prog 18 #[.nilIface] w (KP (.tuple #[.string ⟨#[]⟩, .int .i64 ((17 : Nat) : Int)]) w) := encodeBad _ 17 (by decide) w (checkV0 w)
end Go.Proofs.YtdmlgheajblcdaaGreat
