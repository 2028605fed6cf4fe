/- Layer 10: the same messages, by the reference. -/
import Derived.Test.YtdmlgheajblcdaaGreatK13
import Derived.WalkKit
import Derived.ProofKit
import Derived.Handy
import Derived.WalkLawsBesides
import Derived.WalkSpells
import Derived.BigQuiet
import Derived.BigCall
import Derived.Deep.QuietTactic
import Derived.Deep.Light
import Derived.Deep.OwnRows
import Derived.Laws.AppendOwnNone
import Derived.Laws.Strings3
import Derived.Laws.RangeAny
import Derived.Deep.RegionWith
import Derived.Lib.BitFns
import Derived.Lib.Walk
import Derived.Lib.Strings
import Derived.Lib.OthersKept
import Derived.Deep.CutBlock
import Derived.Deep.DeepCutAuto
import Derived.Deep.LoopGhost
import Derived.Deep.RegionHeld3
import Derived.Lib.SmallJoins
import Derived.Maps.AppendAt
import Derived.Laws.IdiomStrings
import Derived.Lib.AppendZeros
import Derived.Deep.WholeRow
import Derived.Laws.BitsAllLaws
import Derived.Lib.ConvBytes
import Derived.Deep.RegionLaw
import Derived.Test.YtdmlgheajblcdaaGreatK11
namespace Go.Proofs.YtdmlgheajblcdaaGreat
open Go.RowKit
set_option linter.unusedVariables false
set_option linter.unusedSimpArgs false
set_option maxRecDepth 20000
set_option maxHeartbeats 4000000 in
theorem yLots (xs : List Lt) (a b : Option Addr) (c d : Nat) (w : World) (B : Nat) (hB : B ≤ w.heap.size) (hx : Lts B w a xs) (hy : Lts B w b xs) (hl : xs.length ≤ 1000000000000) : Calls Tryz.prog 29 #[.slice a xs.length c, .slice b xs.length d] w (KP (.bool true) w) := by
  have HX : Hid (Lts B w a xs) := hx
  have HY : Hid (Lts B w b xs) := hy
  clear hx hy
  go_enter Tryz.func29, Tryz.ntmps29
  go_wp2_with fail
  go_loopw [5] (fun i wr => ∃ (k : Nat), i = .int .i64 k ∧ k ≤ xs.length ∧ Hid (Below w.heap.size w wr)) (fun i _ => xs.length - (Lib.intOf i).toNat)
  case atStart => exact ⟨0, rfl, Nat.zero_le _, Below.refl _ _⟩
  case round =>
    obtain ⟨k, rfl, hk, HBw⟩ := hrel
    by_cases hkn : k < xs.length
    · have hkz : (k : Int) < (xs.length : Int) := by omega
      obtain ⟨b1, off1, rfl, hbl1, hce1⟩ := HX.out (by omega)
      obtain ⟨b2, off2, rfl, hbl2, hce2⟩ := HY.out (by omega)
      have hc1 : wr.cell? ⟨b1, off1 + k * 2, none⟩ = some (.string ⟨xs[k].i.toArray⟩) := (HBw.out.cell (by exact Nat.lt_of_lt_of_le hbl1 hB)).trans (hce1 k hkn).1
      have hd1 : wr.cell? ⟨b1, off1 + k * 2 + 1, none⟩ = some (.int .i64 xs[k].q) := (HBw.out.cell (by exact Nat.lt_of_lt_of_le hbl1 hB)).trans (hce1 k hkn).2
      have hc2 : wr.cell? ⟨b2, off2 + k * 2, none⟩ = some (.string ⟨xs[k].i.toArray⟩) := (HBw.out.cell (by exact Nat.lt_of_lt_of_le hbl2 hB)).trans (hce2 k hkn).1
      have hd2 : wr.cell? ⟨b2, off2 + k * 2 + 1, none⟩ = some (.int .i64 xs[k].q) := (HBw.out.cell (by exact Nat.lt_of_lt_of_le hbl2 hB)).trans (hce2 k hkn).2
      generalize (⟨xs[k].i.toArray⟩ : ByteArray) = n at *
      generalize xs[k].q = q at *
      clear hce1 hce2
      go_wp2_with fail
      go_quiet (fail)
      go_wp2_with fail
      exact ⟨⟨k + 1, by go_num, by omega, bdrew HBw.out _⟩, by simp [Lib.intOf]; omega⟩
    · have hkz : ¬ (k : Int) < (xs.length : Int) := by omega
      go_wp2_with fail
      go_ret
      exact KP.mk rfl HBw.out
set_option maxHeartbeats 4000000 in
theorem yBaskets (b : Bk) (ca1 ca2 ba1 ba2 : Option Addr) (cc1 cc2 bc1 bc2 : Nat) (w : World) (hC1 : Cts w.heap.size w ca1 b.cuts) (hC2 : Cts w.heap.size w ca2 b.cuts) (hI1 : Ins w.heap.size w ba1 b.bar) (hI2 : Ins w.heap.size w ba2 b.bar) (hlc : b.cuts.length ≤ 1000000000000) (hlb : b.bar.length ≤ 1000000000000) : Calls Tryz.prog 64 #[.agg #[.int .i64 b.id, .int .i64 b.ver, .string ⟨b.cur.toArray⟩, .int .i64 b.rat, .int .i64 b.least, .int .i64 b.most, .slice ca1 b.cuts.length cc1, .int .i64 b.iss, .int .i64 b.ass, .slice ba1 b.bar.length bc1], .agg #[.int .i64 b.id, .int .i64 b.ver, .string ⟨b.cur.toArray⟩, .int .i64 b.rat, .int .i64 b.least, .int .i64 b.most, .slice ca2 b.cuts.length cc2, .int .i64 b.iss, .int .i64 b.ass, .slice ba2 b.bar.length bc2]] w (KP (.bool true) w) := by
  have HB : Hid (Below w.heap.size w ((w.alloc (.cells #[.int .i64 b.id, .int .i64 b.ver, .string ⟨b.cur.toArray⟩, .int .i64 b.rat, .int .i64 b.least, .int .i64 b.most, .slice ca1 b.cuts.length cc1, .int .i64 b.iss, .int .i64 b.ass, .slice ba1 b.bar.length bc1] 27)).alloc (.cells #[.int .i64 b.id, .int .i64 b.ver, .string ⟨b.cur.toArray⟩, .int .i64 b.rat, .int .i64 b.least, .int .i64 b.most, .slice ca2 b.cuts.length cc2, .int .i64 b.iss, .int .i64 b.ass, .slice ba2 b.bar.length bc2] 27))) := bt (below_a w _) (below_a _ _)
  have HX : Hid (Bx ((w.alloc (.cells #[.int .i64 b.id, .int .i64 b.ver, .string ⟨b.cur.toArray⟩, .int .i64 b.rat, .int .i64 b.least, .int .i64 b.most, .slice ca1 b.cuts.length cc1, .int .i64 b.iss, .int .i64 b.ass, .slice ba1 b.bar.length bc1] 27)).alloc (.cells #[.int .i64 b.id, .int .i64 b.ver, .string ⟨b.cur.toArray⟩, .int .i64 b.rat, .int .i64 b.least, .int .i64 b.most, .slice ca2 b.cuts.length cc2, .int .i64 b.iss, .int .i64 b.ass, .slice ba2 b.bar.length bc2] 27)) w.heap.size #[.int .i64 b.id, .int .i64 b.ver, .string ⟨b.cur.toArray⟩, .int .i64 b.rat, .int .i64 b.least, .int .i64 b.most, .slice ca1 b.cuts.length cc1, .int .i64 b.iss, .int .i64 b.ass, .slice ba1 b.bar.length bc1] 27) := (Bx.new w _ _).keep (below_a _ _)
  have HY : Hid (Bx ((w.alloc (.cells #[.int .i64 b.id, .int .i64 b.ver, .string ⟨b.cur.toArray⟩, .int .i64 b.rat, .int .i64 b.least, .int .i64 b.most, .slice ca1 b.cuts.length cc1, .int .i64 b.iss, .int .i64 b.ass, .slice ba1 b.bar.length bc1] 27)).alloc (.cells #[.int .i64 b.id, .int .i64 b.ver, .string ⟨b.cur.toArray⟩, .int .i64 b.rat, .int .i64 b.least, .int .i64 b.most, .slice ca2 b.cuts.length cc2, .int .i64 b.iss, .int .i64 b.ass, .slice ba2 b.bar.length bc2] 27)) (w.alloc (.cells #[.int .i64 b.id, .int .i64 b.ver, .string ⟨b.cur.toArray⟩, .int .i64 b.rat, .int .i64 b.least, .int .i64 b.most, .slice ca1 b.cuts.length cc1, .int .i64 b.iss, .int .i64 b.ass, .slice ba1 b.bar.length bc1] 27)).heap.size #[.int .i64 b.id, .int .i64 b.ver, .string ⟨b.cur.toArray⟩, .int .i64 b.rat, .int .i64 b.least, .int .i64 b.most, .slice ca2 b.cuts.length cc2, .int .i64 b.iss, .int .i64 b.ass, .slice ba2 b.bar.length bc2] 27) := Bx.new _ _ _
  have HC1 : Hid (Cts w.heap.size w ca1 b.cuts) := hC1
  have HC2 : Hid (Cts w.heap.size w ca2 b.cuts) := hC2
  have HI1 : Hid (Ins w.heap.size ((w.alloc (.cells #[.int .i64 b.id, .int .i64 b.ver, .string ⟨b.cur.toArray⟩, .int .i64 b.rat, .int .i64 b.least, .int .i64 b.most, .slice ca1 b.cuts.length cc1, .int .i64 b.iss, .int .i64 b.ass, .slice ba1 b.bar.length bc1] 27)).alloc (.cells #[.int .i64 b.id, .int .i64 b.ver, .string ⟨b.cur.toArray⟩, .int .i64 b.rat, .int .i64 b.least, .int .i64 b.most, .slice ca2 b.cuts.length cc2, .int .i64 b.iss, .int .i64 b.ass, .slice ba2 b.bar.length bc2] 27)) ba1 b.bar) := hI1.keep HB.out
  have HI2 : Hid (Ins w.heap.size ((w.alloc (.cells #[.int .i64 b.id, .int .i64 b.ver, .string ⟨b.cur.toArray⟩, .int .i64 b.rat, .int .i64 b.least, .int .i64 b.most, .slice ca1 b.cuts.length cc1, .int .i64 b.iss, .int .i64 b.ass, .slice ba1 b.bar.length bc1] 27)).alloc (.cells #[.int .i64 b.id, .int .i64 b.ver, .string ⟨b.cur.toArray⟩, .int .i64 b.rat, .int .i64 b.least, .int .i64 b.most, .slice ca2 b.cuts.length cc2, .int .i64 b.iss, .int .i64 b.ass, .slice ba2 b.bar.length bc2] 27)) ba2 b.bar) := hI2.keep HB.out
  have HS : Hid (∀ (W : World), w.heap.size ≤ W.heap.size → Ins w.heap.size W ba1 b.bar → Ins w.heap.size W ba2 b.bar → Calls Tryz.prog 98 #[.slice ba1 b.bar.length bc1, .slice ba2 b.bar.length bc2] W (BB true W)) := fun W hw h1 h2 => rsame b.bar b.bar ba1 ba2 bc1 bc2 W w.heap.size hw h1 h2 rfl hlb
  have hz : (w.alloc (.cells #[.int .i64 b.id, .int .i64 b.ver, .string ⟨b.cur.toArray⟩, .int .i64 b.rat, .int .i64 b.least, .int .i64 b.most, .slice ca1 b.cuts.length cc1, .int .i64 b.iss, .int .i64 b.ass, .slice ba1 b.bar.length bc1] 27)).heap.size = w.heap.size + 1 := by simp
  clear hC1 hC2 hI1 hI2
  generalize (⟨b.cur.toArray⟩ : ByteArray) = cur at *
  go_enter Tryz.func64, Tryz.ntmps64
  go_wp2_with fail
  generalize ((w.alloc (.cells #[.int .i64 b.id, .int .i64 b.ver, .string cur, .int .i64 b.rat, .int .i64 b.least, .int .i64 b.most, .slice ca1 b.cuts.length cc1, .int .i64 b.iss, .int .i64 b.ass, .slice ba1 b.bar.length bc1] 27)).alloc (.cells #[.int .i64 b.id, .int .i64 b.ver, .string cur, .int .i64 b.rat, .int .i64 b.least, .int .i64 b.most, .slice ca2 b.cuts.length cc2, .int .i64 b.iss, .int .i64 b.ass, .slice ba2 b.bar.length bc2] 27)) = w2 at *
  rw [hz] at HY
  have hB2 : w.heap.size ≤ w2.heap.size := HB.out.size
  refine (HS.out _ hB2 HI1.out HI2.out).mono ?_
  rintro e w3 ⟨rfl, hb⟩
  have HB3 : Hid (Below w.heap.size w w3) := bt HB.out hb
  have HX3 : Hid (Bx w3 w.heap.size #[.int .i64 b.id, .int .i64 b.ver, .string cur, .int .i64 b.rat, .int .i64 b.least, .int .i64 b.most, .slice ca1 b.cuts.length cc1, .int .i64 b.iss, .int .i64 b.ass, .slice ba1 b.bar.length bc1] 27) := HX.out.keep hb
  have HY3 : Hid (Bx w3 (w.heap.size + 1) #[.int .i64 b.id, .int .i64 b.ver, .string cur, .int .i64 b.rat, .int .i64 b.least, .int .i64 b.most, .slice ca2 b.cuts.length cc2, .int .i64 b.iss, .int .i64 b.ass, .slice ba2 b.bar.length bc2] 27) := HY.out.keep hb
  clear hb HB HX HY HS HI1 HI2 hz
  go_wp2_with fail
  go_loopw [5] (fun i wr => ∃ (k : Nat), i = .int .i64 k ∧ k ≤ b.cuts.length ∧ Hid (Below w.heap.size w wr) ∧ Hid (wr.cell? ⟨w.heap.size, 6, none⟩ = some (.slice ca1 b.cuts.length cc1) ∧ wr.cell? ⟨w.heap.size + 1, 6, none⟩ = some (.slice ca2 b.cuts.length cc2))) (fun i _ => b.cuts.length - (Lib.intOf i).toNat)
  case atStart => exact ⟨0, rfl, Nat.zero_le _, HB3, HX3.out.cell 6, HY3.out.cell 6⟩
  case round =>
    clear HB3 HX3 HY3
    obtain ⟨k, rfl, hk, HBw, HK⟩ := hrel
    obtain ⟨k1, k2⟩ := HK.out
    by_cases hkn : k < b.cuts.length
    · have hkz : (k : Int) < (b.cuts.length : Int) := by omega
      obtain ⟨b1, off1, rfl, hbl1, hce1⟩ := HC1.out (by omega)
      obtain ⟨b2, off2, rfl, hbl2, hce2⟩ := HC2.out (by omega)
      have hc1 : wr.cell? ⟨b1, off1 + k * 3, none⟩ = some (.int .i64 b.cuts[k].d) := (HBw.out.cell (by exact hbl1)).trans (hce1 k hkn).1
      have hd1 : wr.cell? ⟨b1, off1 + k * 3 + 1, none⟩ = some (.int .i64 b.cuts[k].r) := (HBw.out.cell (by exact hbl1)).trans (hce1 k hkn).2.1
      have he1 : wr.cell? ⟨b1, off1 + k * 3 + 2, none⟩ = some (.int .i64 b.cuts[k].c) := (HBw.out.cell (by exact hbl1)).trans (hce1 k hkn).2.2
      have hc2 : wr.cell? ⟨b2, off2 + k * 3, none⟩ = some (.int .i64 b.cuts[k].d) := (HBw.out.cell (by exact hbl2)).trans (hce2 k hkn).1
      have hd2 : wr.cell? ⟨b2, off2 + k * 3 + 1, none⟩ = some (.int .i64 b.cuts[k].r) := (HBw.out.cell (by exact hbl2)).trans (hce2 k hkn).2.1
      have he2 : wr.cell? ⟨b2, off2 + k * 3 + 2, none⟩ = some (.int .i64 b.cuts[k].c) := (HBw.out.cell (by exact hbl2)).trans (hce2 k hkn).2.2
      generalize b.cuts[k].d = x at *
      generalize b.cuts[k].r = y at *
      generalize b.cuts[k].c = z at *
      clear hce1 hce2
      go_wp2_with fail
      go_quiet (fail)
      go_wp2_with fail
      exact ⟨⟨k + 1, by go_num, by omega, bdrew HBw.out _, HK⟩, by simp [Lib.intOf]; omega⟩
    · have hkz : ¬ (k : Int) < (b.cuts.length : Int) := by omega
      go_wp2_with fail
      go_ret
      exact KP.mk rfl HBw.out
set_option maxHeartbeats 8000000 in
theorem ySame (m : Mg) (ca1 ca2 ba1 ba2 pa1 pa2 ia1 ia2 : Option Addr) (cc1 cc2 bc1 bc2 pc1 pc2 ic1 ic2 : Nat) (w : World) (hC1 : Cts w.heap.size w ca1 m.b.cuts) (hC2 : Cts w.heap.size w ca2 m.b.cuts) (hI1 : Ins w.heap.size w ba1 m.b.bar) (hI2 : Ins w.heap.size w ba2 m.b.bar) (hP1 : Lts w.heap.size w pa1 m.ps) (hP2 : Lts w.heap.size w pa2 m.ps) (hL1 : Lts w.heap.size w ia1 m.ins) (hL2 : Lts w.heap.size w ia2 m.ins) (hlc : m.b.cuts.length ≤ 1000000000000) (hlb : m.b.bar.length ≤ 1000000000000) (hlp : m.ps.length ≤ 1000000000000) (hli : m.ins.length ≤ 1000000000000) : Calls Tryz.prog 22 #[.agg #[.int .i64 m.k, .int .i64 m.mem, .string ⟨m.name.toArray⟩, .string ⟨m.a.i.toArray⟩, .int .i64 m.a.iss, .int .i64 m.a.rat, .int .i64 m.a.mat, .string ⟨m.a.cur.toArray⟩, .int .i64 m.b.id, .int .i64 m.b.ver, .string ⟨m.b.cur.toArray⟩, .int .i64 m.b.rat, .int .i64 m.b.least, .int .i64 m.b.most, .slice ca1 m.b.cuts.length cc1, .int .i64 m.b.iss, .int .i64 m.b.ass, .slice ba1 m.b.bar.length bc1, .slice pa1 m.ps.length pc1, .int .i64 m.day, .string ⟨m.t.toArray⟩, .int .i64 m.n, .int .i64 m.q.id, .int .i64 m.q.mem, .int .i64 m.q.side, .int .i64 m.q.bas, .int .i64 m.q.am, .int .i64 m.q.rate, .int .i64 m.q.st, .int .i64 m.q.en, .string ⟨m.out.i.toArray⟩, .int .i64 m.out.q, .slice ia1 m.ins.length ic1, .int .i64 m.tr, .bool m.done, .int .i64 m.rate], .agg #[.int .i64 m.k, .int .i64 m.mem, .string ⟨m.name.toArray⟩, .string ⟨m.a.i.toArray⟩, .int .i64 m.a.iss, .int .i64 m.a.rat, .int .i64 m.a.mat, .string ⟨m.a.cur.toArray⟩, .int .i64 m.b.id, .int .i64 m.b.ver, .string ⟨m.b.cur.toArray⟩, .int .i64 m.b.rat, .int .i64 m.b.least, .int .i64 m.b.most, .slice ca2 m.b.cuts.length cc2, .int .i64 m.b.iss, .int .i64 m.b.ass, .slice ba2 m.b.bar.length bc2, .slice pa2 m.ps.length pc2, .int .i64 m.day, .string ⟨m.t.toArray⟩, .int .i64 m.n, .int .i64 m.q.id, .int .i64 m.q.mem, .int .i64 m.q.side, .int .i64 m.q.bas, .int .i64 m.q.am, .int .i64 m.q.rate, .int .i64 m.q.st, .int .i64 m.q.en, .string ⟨m.out.i.toArray⟩, .int .i64 m.out.q, .slice ia2 m.ins.length ic2, .int .i64 m.tr, .bool m.done, .int .i64 m.rate]] w (KP (.bool true) w) := by
  have HB : Hid (Below w.heap.size w ((w.alloc (.cells #[.int .i64 m.k, .int .i64 m.mem, .string ⟨m.name.toArray⟩, .string ⟨m.a.i.toArray⟩, .int .i64 m.a.iss, .int .i64 m.a.rat, .int .i64 m.a.mat, .string ⟨m.a.cur.toArray⟩, .int .i64 m.b.id, .int .i64 m.b.ver, .string ⟨m.b.cur.toArray⟩, .int .i64 m.b.rat, .int .i64 m.b.least, .int .i64 m.b.most, .slice ca1 m.b.cuts.length cc1, .int .i64 m.b.iss, .int .i64 m.b.ass, .slice ba1 m.b.bar.length bc1, .slice pa1 m.ps.length pc1, .int .i64 m.day, .string ⟨m.t.toArray⟩, .int .i64 m.n, .int .i64 m.q.id, .int .i64 m.q.mem, .int .i64 m.q.side, .int .i64 m.q.bas, .int .i64 m.q.am, .int .i64 m.q.rate, .int .i64 m.q.st, .int .i64 m.q.en, .string ⟨m.out.i.toArray⟩, .int .i64 m.out.q, .slice ia1 m.ins.length ic1, .int .i64 m.tr, .bool m.done, .int .i64 m.rate] 35)).alloc (.cells #[.int .i64 m.k, .int .i64 m.mem, .string ⟨m.name.toArray⟩, .string ⟨m.a.i.toArray⟩, .int .i64 m.a.iss, .int .i64 m.a.rat, .int .i64 m.a.mat, .string ⟨m.a.cur.toArray⟩, .int .i64 m.b.id, .int .i64 m.b.ver, .string ⟨m.b.cur.toArray⟩, .int .i64 m.b.rat, .int .i64 m.b.least, .int .i64 m.b.most, .slice ca2 m.b.cuts.length cc2, .int .i64 m.b.iss, .int .i64 m.b.ass, .slice ba2 m.b.bar.length bc2, .slice pa2 m.ps.length pc2, .int .i64 m.day, .string ⟨m.t.toArray⟩, .int .i64 m.n, .int .i64 m.q.id, .int .i64 m.q.mem, .int .i64 m.q.side, .int .i64 m.q.bas, .int .i64 m.q.am, .int .i64 m.q.rate, .int .i64 m.q.st, .int .i64 m.q.en, .string ⟨m.out.i.toArray⟩, .int .i64 m.out.q, .slice ia2 m.ins.length ic2, .int .i64 m.tr, .bool m.done, .int .i64 m.rate] 35))) := bt (below_a w _) (below_a _ _)
  have HX : Hid (Bx ((w.alloc (.cells #[.int .i64 m.k, .int .i64 m.mem, .string ⟨m.name.toArray⟩, .string ⟨m.a.i.toArray⟩, .int .i64 m.a.iss, .int .i64 m.a.rat, .int .i64 m.a.mat, .string ⟨m.a.cur.toArray⟩, .int .i64 m.b.id, .int .i64 m.b.ver, .string ⟨m.b.cur.toArray⟩, .int .i64 m.b.rat, .int .i64 m.b.least, .int .i64 m.b.most, .slice ca1 m.b.cuts.length cc1, .int .i64 m.b.iss, .int .i64 m.b.ass, .slice ba1 m.b.bar.length bc1, .slice pa1 m.ps.length pc1, .int .i64 m.day, .string ⟨m.t.toArray⟩, .int .i64 m.n, .int .i64 m.q.id, .int .i64 m.q.mem, .int .i64 m.q.side, .int .i64 m.q.bas, .int .i64 m.q.am, .int .i64 m.q.rate, .int .i64 m.q.st, .int .i64 m.q.en, .string ⟨m.out.i.toArray⟩, .int .i64 m.out.q, .slice ia1 m.ins.length ic1, .int .i64 m.tr, .bool m.done, .int .i64 m.rate] 35)).alloc (.cells #[.int .i64 m.k, .int .i64 m.mem, .string ⟨m.name.toArray⟩, .string ⟨m.a.i.toArray⟩, .int .i64 m.a.iss, .int .i64 m.a.rat, .int .i64 m.a.mat, .string ⟨m.a.cur.toArray⟩, .int .i64 m.b.id, .int .i64 m.b.ver, .string ⟨m.b.cur.toArray⟩, .int .i64 m.b.rat, .int .i64 m.b.least, .int .i64 m.b.most, .slice ca2 m.b.cuts.length cc2, .int .i64 m.b.iss, .int .i64 m.b.ass, .slice ba2 m.b.bar.length bc2, .slice pa2 m.ps.length pc2, .int .i64 m.day, .string ⟨m.t.toArray⟩, .int .i64 m.n, .int .i64 m.q.id, .int .i64 m.q.mem, .int .i64 m.q.side, .int .i64 m.q.bas, .int .i64 m.q.am, .int .i64 m.q.rate, .int .i64 m.q.st, .int .i64 m.q.en, .string ⟨m.out.i.toArray⟩, .int .i64 m.out.q, .slice ia2 m.ins.length ic2, .int .i64 m.tr, .bool m.done, .int .i64 m.rate] 35)) w.heap.size #[.int .i64 m.k, .int .i64 m.mem, .string ⟨m.name.toArray⟩, .string ⟨m.a.i.toArray⟩, .int .i64 m.a.iss, .int .i64 m.a.rat, .int .i64 m.a.mat, .string ⟨m.a.cur.toArray⟩, .int .i64 m.b.id, .int .i64 m.b.ver, .string ⟨m.b.cur.toArray⟩, .int .i64 m.b.rat, .int .i64 m.b.least, .int .i64 m.b.most, .slice ca1 m.b.cuts.length cc1, .int .i64 m.b.iss, .int .i64 m.b.ass, .slice ba1 m.b.bar.length bc1, .slice pa1 m.ps.length pc1, .int .i64 m.day, .string ⟨m.t.toArray⟩, .int .i64 m.n, .int .i64 m.q.id, .int .i64 m.q.mem, .int .i64 m.q.side, .int .i64 m.q.bas, .int .i64 m.q.am, .int .i64 m.q.rate, .int .i64 m.q.st, .int .i64 m.q.en, .string ⟨m.out.i.toArray⟩, .int .i64 m.out.q, .slice ia1 m.ins.length ic1, .int .i64 m.tr, .bool m.done, .int .i64 m.rate] 35) := (Bx.new w _ _).keep (below_a _ _)
  have HY : Hid (Bx ((w.alloc (.cells #[.int .i64 m.k, .int .i64 m.mem, .string ⟨m.name.toArray⟩, .string ⟨m.a.i.toArray⟩, .int .i64 m.a.iss, .int .i64 m.a.rat, .int .i64 m.a.mat, .string ⟨m.a.cur.toArray⟩, .int .i64 m.b.id, .int .i64 m.b.ver, .string ⟨m.b.cur.toArray⟩, .int .i64 m.b.rat, .int .i64 m.b.least, .int .i64 m.b.most, .slice ca1 m.b.cuts.length cc1, .int .i64 m.b.iss, .int .i64 m.b.ass, .slice ba1 m.b.bar.length bc1, .slice pa1 m.ps.length pc1, .int .i64 m.day, .string ⟨m.t.toArray⟩, .int .i64 m.n, .int .i64 m.q.id, .int .i64 m.q.mem, .int .i64 m.q.side, .int .i64 m.q.bas, .int .i64 m.q.am, .int .i64 m.q.rate, .int .i64 m.q.st, .int .i64 m.q.en, .string ⟨m.out.i.toArray⟩, .int .i64 m.out.q, .slice ia1 m.ins.length ic1, .int .i64 m.tr, .bool m.done, .int .i64 m.rate] 35)).alloc (.cells #[.int .i64 m.k, .int .i64 m.mem, .string ⟨m.name.toArray⟩, .string ⟨m.a.i.toArray⟩, .int .i64 m.a.iss, .int .i64 m.a.rat, .int .i64 m.a.mat, .string ⟨m.a.cur.toArray⟩, .int .i64 m.b.id, .int .i64 m.b.ver, .string ⟨m.b.cur.toArray⟩, .int .i64 m.b.rat, .int .i64 m.b.least, .int .i64 m.b.most, .slice ca2 m.b.cuts.length cc2, .int .i64 m.b.iss, .int .i64 m.b.ass, .slice ba2 m.b.bar.length bc2, .slice pa2 m.ps.length pc2, .int .i64 m.day, .string ⟨m.t.toArray⟩, .int .i64 m.n, .int .i64 m.q.id, .int .i64 m.q.mem, .int .i64 m.q.side, .int .i64 m.q.bas, .int .i64 m.q.am, .int .i64 m.q.rate, .int .i64 m.q.st, .int .i64 m.q.en, .string ⟨m.out.i.toArray⟩, .int .i64 m.out.q, .slice ia2 m.ins.length ic2, .int .i64 m.tr, .bool m.done, .int .i64 m.rate] 35)) (w.alloc (.cells #[.int .i64 m.k, .int .i64 m.mem, .string ⟨m.name.toArray⟩, .string ⟨m.a.i.toArray⟩, .int .i64 m.a.iss, .int .i64 m.a.rat, .int .i64 m.a.mat, .string ⟨m.a.cur.toArray⟩, .int .i64 m.b.id, .int .i64 m.b.ver, .string ⟨m.b.cur.toArray⟩, .int .i64 m.b.rat, .int .i64 m.b.least, .int .i64 m.b.most, .slice ca1 m.b.cuts.length cc1, .int .i64 m.b.iss, .int .i64 m.b.ass, .slice ba1 m.b.bar.length bc1, .slice pa1 m.ps.length pc1, .int .i64 m.day, .string ⟨m.t.toArray⟩, .int .i64 m.n, .int .i64 m.q.id, .int .i64 m.q.mem, .int .i64 m.q.side, .int .i64 m.q.bas, .int .i64 m.q.am, .int .i64 m.q.rate, .int .i64 m.q.st, .int .i64 m.q.en, .string ⟨m.out.i.toArray⟩, .int .i64 m.out.q, .slice ia1 m.ins.length ic1, .int .i64 m.tr, .bool m.done, .int .i64 m.rate] 35)).heap.size #[.int .i64 m.k, .int .i64 m.mem, .string ⟨m.name.toArray⟩, .string ⟨m.a.i.toArray⟩, .int .i64 m.a.iss, .int .i64 m.a.rat, .int .i64 m.a.mat, .string ⟨m.a.cur.toArray⟩, .int .i64 m.b.id, .int .i64 m.b.ver, .string ⟨m.b.cur.toArray⟩, .int .i64 m.b.rat, .int .i64 m.b.least, .int .i64 m.b.most, .slice ca2 m.b.cuts.length cc2, .int .i64 m.b.iss, .int .i64 m.b.ass, .slice ba2 m.b.bar.length bc2, .slice pa2 m.ps.length pc2, .int .i64 m.day, .string ⟨m.t.toArray⟩, .int .i64 m.n, .int .i64 m.q.id, .int .i64 m.q.mem, .int .i64 m.q.side, .int .i64 m.q.bas, .int .i64 m.q.am, .int .i64 m.q.rate, .int .i64 m.q.st, .int .i64 m.q.en, .string ⟨m.out.i.toArray⟩, .int .i64 m.out.q, .slice ia2 m.ins.length ic2, .int .i64 m.tr, .bool m.done, .int .i64 m.rate] 35) := Bx.new _ _ _
  have HL : Hid (∀ (W : World), Below w.heap.size w W → Calls Tryz.prog 29 #[.slice ia1 m.ins.length ic1, .slice ia2 m.ins.length ic2] W (KP (.bool true) W)) := fun W hb => yLots m.ins ia1 ia2 ic1 ic2 W w.heap.size hb.size (hL1.keep hb) (hL2.keep hb) hli
  have HS : Hid (∀ (W : World), Below w.heap.size w W → Calls Tryz.prog 64 #[.agg #[.int .i64 m.b.id, .int .i64 m.b.ver, .string ⟨m.b.cur.toArray⟩, .int .i64 m.b.rat, .int .i64 m.b.least, .int .i64 m.b.most, .slice ca1 m.b.cuts.length cc1, .int .i64 m.b.iss, .int .i64 m.b.ass, .slice ba1 m.b.bar.length bc1], .agg #[.int .i64 m.b.id, .int .i64 m.b.ver, .string ⟨m.b.cur.toArray⟩, .int .i64 m.b.rat, .int .i64 m.b.least, .int .i64 m.b.most, .slice ca2 m.b.cuts.length cc2, .int .i64 m.b.iss, .int .i64 m.b.ass, .slice ba2 m.b.bar.length bc2]] W (KP (.bool true) W)) := fun W hb => yBaskets m.b ca1 ca2 ba1 ba2 cc1 cc2 bc1 bc2 W ((hC1.keep hb).mono hb.size) ((hC2.keep hb).mono hb.size) ((hI1.keep hb).mono hb.size) ((hI2.keep hb).mono hb.size) hlc hlb
  have HP1 : Hid (Lts w.heap.size w pa1 m.ps) := hP1
  have HP2 : Hid (Lts w.heap.size w pa2 m.ps) := hP2
  have hz : (w.alloc (.cells #[.int .i64 m.k, .int .i64 m.mem, .string ⟨m.name.toArray⟩, .string ⟨m.a.i.toArray⟩, .int .i64 m.a.iss, .int .i64 m.a.rat, .int .i64 m.a.mat, .string ⟨m.a.cur.toArray⟩, .int .i64 m.b.id, .int .i64 m.b.ver, .string ⟨m.b.cur.toArray⟩, .int .i64 m.b.rat, .int .i64 m.b.least, .int .i64 m.b.most, .slice ca1 m.b.cuts.length cc1, .int .i64 m.b.iss, .int .i64 m.b.ass, .slice ba1 m.b.bar.length bc1, .slice pa1 m.ps.length pc1, .int .i64 m.day, .string ⟨m.t.toArray⟩, .int .i64 m.n, .int .i64 m.q.id, .int .i64 m.q.mem, .int .i64 m.q.side, .int .i64 m.q.bas, .int .i64 m.q.am, .int .i64 m.q.rate, .int .i64 m.q.st, .int .i64 m.q.en, .string ⟨m.out.i.toArray⟩, .int .i64 m.out.q, .slice ia1 m.ins.length ic1, .int .i64 m.tr, .bool m.done, .int .i64 m.rate] 35)).heap.size = w.heap.size + 1 := by simp
  rw [hz] at HY
  clear hC1 hC2 hI1 hI2 hP1 hP2 hL1 hL2 hz
  generalize (⟨m.b.cur.toArray⟩ : ByteArray) = bcur at *
  generalize (⟨m.a.i.toArray⟩ : ByteArray) = ai at *
  generalize (⟨m.a.cur.toArray⟩ : ByteArray) = acur at *
  generalize (⟨m.name.toArray⟩ : ByteArray) = nam at *
  generalize (⟨m.t.toArray⟩ : ByteArray) = txt at *
  generalize (⟨m.out.i.toArray⟩ : ByteArray) = oi at *
  go_enter Tryz.func22, Tryz.ntmps22
  go_wp2_with fail
  generalize ((w.alloc (.cells #[.int .i64 m.k, .int .i64 m.mem, .string nam, .string ai, .int .i64 m.a.iss, .int .i64 m.a.rat, .int .i64 m.a.mat, .string acur, .int .i64 m.b.id, .int .i64 m.b.ver, .string bcur, .int .i64 m.b.rat, .int .i64 m.b.least, .int .i64 m.b.most, .slice ca1 m.b.cuts.length cc1, .int .i64 m.b.iss, .int .i64 m.b.ass, .slice ba1 m.b.bar.length bc1, .slice pa1 m.ps.length pc1, .int .i64 m.day, .string txt, .int .i64 m.n, .int .i64 m.q.id, .int .i64 m.q.mem, .int .i64 m.q.side, .int .i64 m.q.bas, .int .i64 m.q.am, .int .i64 m.q.rate, .int .i64 m.q.st, .int .i64 m.q.en, .string oi, .int .i64 m.out.q, .slice ia1 m.ins.length ic1, .int .i64 m.tr, .bool m.done, .int .i64 m.rate] 35)).alloc (.cells #[.int .i64 m.k, .int .i64 m.mem, .string nam, .string ai, .int .i64 m.a.iss, .int .i64 m.a.rat, .int .i64 m.a.mat, .string acur, .int .i64 m.b.id, .int .i64 m.b.ver, .string bcur, .int .i64 m.b.rat, .int .i64 m.b.least, .int .i64 m.b.most, .slice ca2 m.b.cuts.length cc2, .int .i64 m.b.iss, .int .i64 m.b.ass, .slice ba2 m.b.bar.length bc2, .slice pa2 m.ps.length pc2, .int .i64 m.day, .string txt, .int .i64 m.n, .int .i64 m.q.id, .int .i64 m.q.mem, .int .i64 m.q.side, .int .i64 m.q.bas, .int .i64 m.q.am, .int .i64 m.q.rate, .int .i64 m.q.st, .int .i64 m.q.en, .string oi, .int .i64 m.out.q, .slice ia2 m.ins.length ic2, .int .i64 m.tr, .bool m.done, .int .i64 m.rate] 35)) = w2 at *
  refine (HS.out _ HB.out).mono ?_
  rintro e w3 ⟨rfl, hb⟩
  have HB3 : Hid (Below w.heap.size w w3) := bt HB.out hb.out
  have HX3 : Hid (Bx w3 w.heap.size #[.int .i64 m.k, .int .i64 m.mem, .string nam, .string ai, .int .i64 m.a.iss, .int .i64 m.a.rat, .int .i64 m.a.mat, .string acur, .int .i64 m.b.id, .int .i64 m.b.ver, .string bcur, .int .i64 m.b.rat, .int .i64 m.b.least, .int .i64 m.b.most, .slice ca1 m.b.cuts.length cc1, .int .i64 m.b.iss, .int .i64 m.b.ass, .slice ba1 m.b.bar.length bc1, .slice pa1 m.ps.length pc1, .int .i64 m.day, .string txt, .int .i64 m.n, .int .i64 m.q.id, .int .i64 m.q.mem, .int .i64 m.q.side, .int .i64 m.q.bas, .int .i64 m.q.am, .int .i64 m.q.rate, .int .i64 m.q.st, .int .i64 m.q.en, .string oi, .int .i64 m.out.q, .slice ia1 m.ins.length ic1, .int .i64 m.tr, .bool m.done, .int .i64 m.rate] 35) := HX.out.keep hb.out
  have HY3 : Hid (Bx w3 (w.heap.size + 1) #[.int .i64 m.k, .int .i64 m.mem, .string nam, .string ai, .int .i64 m.a.iss, .int .i64 m.a.rat, .int .i64 m.a.mat, .string acur, .int .i64 m.b.id, .int .i64 m.b.ver, .string bcur, .int .i64 m.b.rat, .int .i64 m.b.least, .int .i64 m.b.most, .slice ca2 m.b.cuts.length cc2, .int .i64 m.b.iss, .int .i64 m.b.ass, .slice ba2 m.b.bar.length bc2, .slice pa2 m.ps.length pc2, .int .i64 m.day, .string txt, .int .i64 m.n, .int .i64 m.q.id, .int .i64 m.q.mem, .int .i64 m.q.side, .int .i64 m.q.bas, .int .i64 m.q.am, .int .i64 m.q.rate, .int .i64 m.q.st, .int .i64 m.q.en, .string oi, .int .i64 m.out.q, .slice ia2 m.ins.length ic2, .int .i64 m.tr, .bool m.done, .int .i64 m.rate] 35) := HY.out.keep hb.out
  have x5 : w3.cell? ⟨w.heap.size, 18, none⟩ = some (.slice pa1 m.ps.length pc1) := HX3.out.cell 18
  have y5 : w3.cell? ⟨w.heap.size + 1, 18, none⟩ = some (.slice pa2 m.ps.length pc2) := HY3.out.cell 18
  clear hb HB HX HY HS
  go_wp2_with fail
  clear x5 y5
  go_loopw [5] (fun i wr => ∃ (k : Nat), i = .int .i64 k ∧ k ≤ m.ps.length ∧ Hid (Below w.heap.size w wr) ∧ Hid (Bx wr w.heap.size #[.int .i64 m.k, .int .i64 m.mem, .string nam, .string ai, .int .i64 m.a.iss, .int .i64 m.a.rat, .int .i64 m.a.mat, .string acur, .int .i64 m.b.id, .int .i64 m.b.ver, .string bcur, .int .i64 m.b.rat, .int .i64 m.b.least, .int .i64 m.b.most, .slice ca1 m.b.cuts.length cc1, .int .i64 m.b.iss, .int .i64 m.b.ass, .slice ba1 m.b.bar.length bc1, .slice pa1 m.ps.length pc1, .int .i64 m.day, .string txt, .int .i64 m.n, .int .i64 m.q.id, .int .i64 m.q.mem, .int .i64 m.q.side, .int .i64 m.q.bas, .int .i64 m.q.am, .int .i64 m.q.rate, .int .i64 m.q.st, .int .i64 m.q.en, .string oi, .int .i64 m.out.q, .slice ia1 m.ins.length ic1, .int .i64 m.tr, .bool m.done, .int .i64 m.rate] 35 ∧ Bx wr (w.heap.size + 1) #[.int .i64 m.k, .int .i64 m.mem, .string nam, .string ai, .int .i64 m.a.iss, .int .i64 m.a.rat, .int .i64 m.a.mat, .string acur, .int .i64 m.b.id, .int .i64 m.b.ver, .string bcur, .int .i64 m.b.rat, .int .i64 m.b.least, .int .i64 m.b.most, .slice ca2 m.b.cuts.length cc2, .int .i64 m.b.iss, .int .i64 m.b.ass, .slice ba2 m.b.bar.length bc2, .slice pa2 m.ps.length pc2, .int .i64 m.day, .string txt, .int .i64 m.n, .int .i64 m.q.id, .int .i64 m.q.mem, .int .i64 m.q.side, .int .i64 m.q.bas, .int .i64 m.q.am, .int .i64 m.q.rate, .int .i64 m.q.st, .int .i64 m.q.en, .string oi, .int .i64 m.out.q, .slice ia2 m.ins.length ic2, .int .i64 m.tr, .bool m.done, .int .i64 m.rate] 35)) (fun i _ => m.ps.length - (Lib.intOf i).toNat)
  case atStart => exact ⟨0, rfl, Nat.zero_le _, HB3, HX3.out, HY3.out⟩
  case round =>
    clear HB3 HX3 HY3
    obtain ⟨k, rfl, hk, HBw, HK⟩ := hrel
    have k1 : wr.cell? ⟨w.heap.size, 18, none⟩ = some (.slice pa1 m.ps.length pc1) := HK.out.1.cell 18
    have k2 : wr.cell? ⟨w.heap.size + 1, 18, none⟩ = some (.slice pa2 m.ps.length pc2) := HK.out.2.cell 18
    by_cases hkn : k < m.ps.length
    · have hkz : (k : Int) < (m.ps.length : Int) := by omega
      obtain ⟨b1, off1, rfl, hbl1, hce1⟩ := HP1.out (by omega)
      obtain ⟨b2, off2, rfl, hbl2, hce2⟩ := HP2.out (by omega)
      have hc1 : wr.cell? ⟨b1, off1 + k * 2, none⟩ = some (.string ⟨m.ps[k].i.toArray⟩) := (HBw.out.cell (by exact hbl1)).trans (hce1 k hkn).1
      have hd1 : wr.cell? ⟨b1, off1 + k * 2 + 1, none⟩ = some (.int .i64 m.ps[k].q) := (HBw.out.cell (by exact hbl1)).trans (hce1 k hkn).2
      have hc2 : wr.cell? ⟨b2, off2 + k * 2, none⟩ = some (.string ⟨m.ps[k].i.toArray⟩) := (HBw.out.cell (by exact hbl2)).trans (hce2 k hkn).1
      have hd2 : wr.cell? ⟨b2, off2 + k * 2 + 1, none⟩ = some (.int .i64 m.ps[k].q) := (HBw.out.cell (by exact hbl2)).trans (hce2 k hkn).2
      generalize (⟨m.ps[k].i.toArray⟩ : ByteArray) = n at *
      generalize m.ps[k].q = q at *
      clear hce1 hce2
      go_wp2_with fail
      go_quiet (fail)
      go_wp2_with fail
      exact ⟨⟨k + 1, by go_num, by omega, bdrew HBw.out _, HK⟩, by simp [Lib.intOf]; omega⟩
    · have hkz : ¬ (k : Int) < (m.ps.length : Int) := by omega
      have z19 : wr.cell? ⟨w.heap.size, 19, none⟩ = some (.int .i64 m.day) := HK.out.1.cell 19
      have z20 : wr.cell? ⟨w.heap.size, 20, none⟩ = some (.string txt) := HK.out.1.cell 20
      have z21 : wr.cell? ⟨w.heap.size, 21, none⟩ = some (.int .i64 m.n) := HK.out.1.cell 21
      have z22 : wr.cell? ⟨w.heap.size, 22, none⟩ = some (.int .i64 m.q.id) := HK.out.1.cell 22
      have z23 : wr.cell? ⟨w.heap.size, 23, none⟩ = some (.int .i64 m.q.mem) := HK.out.1.cell 23
      have z24 : wr.cell? ⟨w.heap.size, 24, none⟩ = some (.int .i64 m.q.side) := HK.out.1.cell 24
      have z25 : wr.cell? ⟨w.heap.size, 25, none⟩ = some (.int .i64 m.q.bas) := HK.out.1.cell 25
      have z26 : wr.cell? ⟨w.heap.size, 26, none⟩ = some (.int .i64 m.q.am) := HK.out.1.cell 26
      have z27 : wr.cell? ⟨w.heap.size, 27, none⟩ = some (.int .i64 m.q.rate) := HK.out.1.cell 27
      have z28 : wr.cell? ⟨w.heap.size, 28, none⟩ = some (.int .i64 m.q.st) := HK.out.1.cell 28
      have z29 : wr.cell? ⟨w.heap.size, 29, none⟩ = some (.int .i64 m.q.en) := HK.out.1.cell 29
      have z30 : wr.cell? ⟨w.heap.size, 30, none⟩ = some (.string oi) := HK.out.1.cell 30
      have z31 : wr.cell? ⟨w.heap.size, 31, none⟩ = some (.int .i64 m.out.q) := HK.out.1.cell 31
      have z32 : wr.cell? ⟨w.heap.size, 32, none⟩ = some (.slice ia1 m.ins.length ic1) := HK.out.1.cell 32
      have z33 : wr.cell? ⟨w.heap.size, 33, none⟩ = some (.int .i64 m.tr) := HK.out.1.cell 33
      have z34 : wr.cell? ⟨w.heap.size, 34, none⟩ = some (.bool m.done) := HK.out.1.cell 34
      have z35 : wr.cell? ⟨w.heap.size, 35, none⟩ = some (.int .i64 m.rate) := HK.out.1.cell 35
      have u19 : wr.cell? ⟨w.heap.size + 1, 19, none⟩ = some (.int .i64 m.day) := HK.out.2.cell 19
      have u20 : wr.cell? ⟨w.heap.size + 1, 20, none⟩ = some (.string txt) := HK.out.2.cell 20
      have u21 : wr.cell? ⟨w.heap.size + 1, 21, none⟩ = some (.int .i64 m.n) := HK.out.2.cell 21
      have u22 : wr.cell? ⟨w.heap.size + 1, 22, none⟩ = some (.int .i64 m.q.id) := HK.out.2.cell 22
      have u23 : wr.cell? ⟨w.heap.size + 1, 23, none⟩ = some (.int .i64 m.q.mem) := HK.out.2.cell 23
      have u24 : wr.cell? ⟨w.heap.size + 1, 24, none⟩ = some (.int .i64 m.q.side) := HK.out.2.cell 24
      have u25 : wr.cell? ⟨w.heap.size + 1, 25, none⟩ = some (.int .i64 m.q.bas) := HK.out.2.cell 25
      have u26 : wr.cell? ⟨w.heap.size + 1, 26, none⟩ = some (.int .i64 m.q.am) := HK.out.2.cell 26
      have u27 : wr.cell? ⟨w.heap.size + 1, 27, none⟩ = some (.int .i64 m.q.rate) := HK.out.2.cell 27
      have u28 : wr.cell? ⟨w.heap.size + 1, 28, none⟩ = some (.int .i64 m.q.st) := HK.out.2.cell 28
      have u29 : wr.cell? ⟨w.heap.size + 1, 29, none⟩ = some (.int .i64 m.q.en) := HK.out.2.cell 29
      have u30 : wr.cell? ⟨w.heap.size + 1, 30, none⟩ = some (.string oi) := HK.out.2.cell 30
      have u31 : wr.cell? ⟨w.heap.size + 1, 31, none⟩ = some (.int .i64 m.out.q) := HK.out.2.cell 31
      have u32 : wr.cell? ⟨w.heap.size + 1, 32, none⟩ = some (.slice ia2 m.ins.length ic2) := HK.out.2.cell 32
      have u33 : wr.cell? ⟨w.heap.size + 1, 33, none⟩ = some (.int .i64 m.tr) := HK.out.2.cell 33
      have u34 : wr.cell? ⟨w.heap.size + 1, 34, none⟩ = some (.bool m.done) := HK.out.2.cell 34
      have u35 : wr.cell? ⟨w.heap.size + 1, 35, none⟩ = some (.int .i64 m.rate) := HK.out.2.cell 35
      go_wp2_with fail
      refine (HL.out _ HBw.out).mono ?_
      rintro e w8 ⟨rfl, hb8⟩
      have HB8 : Hid (Below w.heap.size w w8) := bt HBw.out hb8.out
      have v33 : w8.cell? ⟨w.heap.size, 33, none⟩ = some (.int .i64 m.tr) := (HK.out.1.keep hb8.out).cell 33
      have v34 : w8.cell? ⟨w.heap.size, 34, none⟩ = some (.bool m.done) := (HK.out.1.keep hb8.out).cell 34
      have v35 : w8.cell? ⟨w.heap.size, 35, none⟩ = some (.int .i64 m.rate) := (HK.out.1.keep hb8.out).cell 35
      have t33 : w8.cell? ⟨w.heap.size + 1, 33, none⟩ = some (.int .i64 m.tr) := (HK.out.2.keep hb8.out).cell 33
      have t34 : w8.cell? ⟨w.heap.size + 1, 34, none⟩ = some (.bool m.done) := (HK.out.2.keep hb8.out).cell 34
      have t35 : w8.cell? ⟨w.heap.size + 1, 35, none⟩ = some (.int .i64 m.rate) := (HK.out.2.keep hb8.out).cell 35
      clear hb8
      go_wp2_with fail
      go_ret
      exact KP.mk rfl HB8.out
end Go.Proofs.YtdmlgheajblcdaaGreat

/- Layer 10: the chapter's example. -/
namespace Go.Proofs.YtdmlgheajblcdaaGreat
open Go.RowKit
set_option linter.unusedVariables false
set_option linter.unusedSimpArgs false
set_option maxRecDepth 20000
set_option maxHeartbeats 4000000 in
theorem message5 (q : Nat) (r r1 : Rd) (a : Int) (h1 : rInt r = (r1, a)) (w : World) (hR : Rm w q r) : Calls Tryz.prog 56 #[.agg #[.pointer (some ⟨q, 0, none⟩)], .int .i64 5] w (MsP q r1 (fun _ v => v = .iface 74 (.agg #[.int .i64 a])) w) := by
  have HR : Hid (Rm (w.alloc (.cells #[.pointer (some ⟨q, 0, none⟩)] 133)) q r) := hR.keep (below_a w _)
  have HB : Hid (Bt q w (w.alloc (.cells #[.pointer (some ⟨q, 0, none⟩)] 133))) := Bt.of_below (below_a w _)
  have HI : Hid (∀ w, Rm w q r → Calls Tryz.prog 57 #[.pointer (some ⟨q, 0, none⟩)] w (RP q (.int .i64 a) r1 w)) := fun w h => by have := xint q _ w h; rw [h1] at this; exact this
  clear h1 hR
  go_enter Tryz.func56, Tryz.ntmps56
  go_wp2_with fail
  refine (HI.out _ HR.out).mono ?_
  rintro e w2 ⟨rfl, HR2, HB2⟩
  have HB3 : Hid (Bt q w w2) := HB.out.trans HB2.out
  clear HB HB2 HI HR
  go_wp2_with fail
  go_ret
  exact ⟨_, rfl, rfl, HR2, HB3⟩
theorem ex_r1 : rInt ⟨[10, 14], 0, 0⟩ = (⟨[10, 14], 1, 0⟩, 5) := by rfl
theorem ex_r2 : rInt ⟨[10, 14], 1, 0⟩ = (⟨[10, 14], 2, 0⟩, 7) := by rfl
theorem ex_r3 : (rEnd ⟨[10, 14], 2, 0⟩).2 = true := by decide +kernel
theorem decodeR (w : World) : Calls Tryz.prog 20 #[.string ⟨#[10, 14]⟩] w (DcV 2 (fun _ _ v => v = .iface 74 (.agg #[.int .i64 7])) w) := by
  refine decD ⟨#[10, 14]⟩ (by decide) w ⟨[10, 14], 1, 0⟩ ⟨[10, 14], 2, 0⟩ 5 (fun _ _ v => v = .iface 74 (.agg #[.int .i64 7])) ⟨fun _ _ _ _ h _ => h, fun _ _ _ _ h => h⟩ ex_r1 ?_ ?_ ex_r3 ?_
  · intro q w' hq hR hb
    exact message5 q _ _ 7 ex_r2 w' hR
  · intro q w v h
    exact ⟨_, _, h⟩
  · intro q w v h
    subst h
    exact Check5 7 true (by decide) w
theorem encodeR (w : World) : Calls Tryz.prog 18 #[.iface 74 (.agg #[.int .i64 7])] w (KP (.tuple #[.string ⟨#[10, 14]⟩, .int .i64 0]) w) := by
  have h := encode5 7 (intL 7) w (Check5 7 true (by decide) w) (fun w' p v l hb hW hp hl => write5 p p v l 7 ⟨by decide, by decide⟩ w' hW (by omega))
  have e : (intL 5 ++ intL 7).toArray = #[10, 14] := by decide
  rw [e] at h
  exact h
/-- a message of the reference's, cell by cell -/
def mcs (m : Mg) (pa ia ca ba : Option Addr) (pc ic cc bc : Nat) : Array Value := #[.int .i64 m.k, .int .i64 m.mem, .string ⟨m.name.toArray⟩, .string ⟨m.a.i.toArray⟩, .int .i64 m.a.iss, .int .i64 m.a.rat, .int .i64 m.a.mat, .string ⟨m.a.cur.toArray⟩, .int .i64 m.b.id, .int .i64 m.b.ver, .string ⟨m.b.cur.toArray⟩, .int .i64 m.b.rat, .int .i64 m.b.least, .int .i64 m.b.most, .slice ca m.b.cuts.length cc, .int .i64 m.b.iss, .int .i64 m.b.ass, .slice ba m.b.bar.length bc, .slice pa m.ps.length pc, .int .i64 m.day, .string ⟨m.t.toArray⟩, .int .i64 m.n, .int .i64 m.q.id, .int .i64 m.q.mem, .int .i64 m.q.side, .int .i64 m.q.bas, .int .i64 m.q.am, .int .i64 m.q.rate, .int .i64 m.q.st, .int .i64 m.q.en, .string ⟨m.out.i.toArray⟩, .int .i64 m.out.q, .slice ia m.ins.length ic, .int .i64 m.tr, .bool m.done, .int .i64 m.rate]
theorem mcs_size (m : Mg) (pa ia ca ba : Option Addr) (pc ic cc bc : Nat) : (mcs m pa ia ca ba pc ic cc bc).size = 36 := rfl
theorem mcs_one (m : Mg) (pa ia ca ba : Option Addr) (pc ic cc bc : Nat) : (mcs m pa ia ca ba pc ic cc bc).all (·.oneCell') = true := by simp [mcs, Value.oneCell']
theorem info35 : (Tryz.prog.info? 35).map (·.size) = some 36 := by kernel_rfl
theorem hstore (w : World) (g : Nat) (old M : Array Value) (hg : w.heap[g]? = some (.cells old 35 (0, 0))) (ho : old.size = 36) (hs : M.size = 36) (h1 : M.all (·.oneCell') = true) : (Instr.storeAt 35 (.pointer (some ⟨g, 0, none⟩)) (.agg M)).run Tryz.prog w = .ok () (w.setRow g M) := by
  have h := run_storeVar_row (P := Tryz.prog) w g 35 35 old M hg (by rw [hs]; exact info35) (by rw [ho, hs]) h1
  simp only [Instr.storeAt, Instr.sureAddr, asAddr, Sem.run_bind, Sem.run_pure, Result.andThen_ok]
  exact h
theorem hload (w : World) (g : Nat) (M : Array Value) (hs : M.size = 36) (hg : w.heap[g]? = some (.cells M 35 (0, 0))) : (loadVar 35 ⟨g, 0, none⟩).run Tryz.prog w = .ok (.agg M) w :=
  run_loadVar_row w g 35 35 _ (0, 0) _ hg Tryz.underlying35 rfl (by rw [hs]; exact info35)
theorem hloadAt (w : World) (g : Nat) (M : Array Value) (hs : M.size = 36) (hg : w.heap[g]? = some (.cells M 35 (0, 0))) : (Instr.loadAt 35 (.pointer (some ⟨g, 0, none⟩))).run Tryz.prog w = .ok (.agg M) w := by
  simp only [Instr.loadAt, Instr.sureAddr, asAddr, Sem.run_bind, Sem.run_pure, Result.andThen_ok]
  exact hload w g M hs hg
theorem below_setRow' {B : Nat} {a w : World} {q : Nat} {cs : Array Value} (h : Below B a w) (hq : B ≤ q) : Below B a (w.setRow q cs) :=
  ⟨h.os, h.tape, h.output, by have := h.size; simpa [World.setRow] using this, fun k hk => (setRow_other w q k cs (by omega)).trans (h.block k hk)⟩
section
variable {P : Program} {ops : Array Oper} {rest : List Oper} {o : Oper} {a : Act} {Q : Exit → Act → World → Prop}
theorem wl_build2 (w : World) (hgd : o.guard = none) (t : TypeId) (n0 n1 : Nat) (x0 x1 : Operand) (ho : o.op = .build t #[(n0, x0), (n1, x1)]) (v0 v1 : Value) (h0 : a.eval x0 = v0) (h1 : a.eval x1 = v1) (v' : Value) (hr : (Instr.build t #[(n0, v0), (n1, v1)]).run P w = .ok v' w) (h : wpList P ops Q rest (a.put o.dst v') w) : wpList P ops Q (o :: rest) a w :=
  wpList_plain hgd fun K hK => by
    unfold Oper.wp execOp
    simp only [ho, List.map_toArray, List.map_cons, List.map_nil, h0, h1, Sem.run_bind, Sem.run_pure, Result.andThen_ok, hr]
    exact hK _ _ h
theorem wl_build3 (w : World) (hgd : o.guard = none) (t : TypeId) (n0 n1 n2 : Nat) (x0 x1 x2 : Operand) (ho : o.op = .build t #[(n0, x0), (n1, x1), (n2, x2)]) (v0 v1 v2 : Value) (h0 : a.eval x0 = v0) (h1 : a.eval x1 = v1) (h2 : a.eval x2 = v2) (v' : Value) (hr : (Instr.build t #[(n0, v0), (n1, v1), (n2, v2)]).run P w = .ok v' w) (h : wpList P ops Q rest (a.put o.dst v') w) : wpList P ops Q (o :: rest) a w :=
  wpList_plain hgd fun K hK => by
    unfold Oper.wp execOp
    simp only [ho, List.map_toArray, List.map_cons, List.map_nil, h0, h1, h2, Sem.run_bind, Sem.run_pure, Result.andThen_ok, hr]
    exact hK _ _ h
theorem wl_build4 (w : World) (hgd : o.guard = none) (t : TypeId) (n0 n1 n2 n3 : Nat) (x0 x1 x2 x3 : Operand) (ho : o.op = .build t #[(n0, x0), (n1, x1), (n2, x2), (n3, x3)]) (v0 v1 v2 v3 : Value) (h0 : a.eval x0 = v0) (h1 : a.eval x1 = v1) (h2 : a.eval x2 = v2) (h3 : a.eval x3 = v3) (v' : Value) (hr : (Instr.build t #[(n0, v0), (n1, v1), (n2, v2), (n3, v3)]).run P w = .ok v' w) (h : wpList P ops Q rest (a.put o.dst v') w) : wpList P ops Q (o :: rest) a w :=
  wpList_plain hgd fun K hK => by
    unfold Oper.wp execOp
    simp only [ho, List.map_toArray, List.map_cons, List.map_nil, h0, h1, h2, h3, Sem.run_bind, Sem.run_pure, Result.andThen_ok, hr]
    exact hK _ _ h
theorem wl_build5 (w : World) (hgd : o.guard = none) (t : TypeId) (n0 n1 n2 n3 n4 : Nat) (x0 x1 x2 x3 x4 : Operand) (ho : o.op = .build t #[(n0, x0), (n1, x1), (n2, x2), (n3, x3), (n4, x4)]) (v0 v1 v2 v3 v4 : Value) (h0 : a.eval x0 = v0) (h1 : a.eval x1 = v1) (h2 : a.eval x2 = v2) (h3 : a.eval x3 = v3) (h4 : a.eval x4 = v4) (v' : Value) (hr : (Instr.build t #[(n0, v0), (n1, v1), (n2, v2), (n3, v3), (n4, v4)]).run P w = .ok v' w) (h : wpList P ops Q rest (a.put o.dst v') w) : wpList P ops Q (o :: rest) a w :=
  wpList_plain hgd fun K hK => by
    unfold Oper.wp execOp
    simp only [ho, List.map_toArray, List.map_cons, List.map_nil, h0, h1, h2, h3, h4, Sem.run_bind, Sem.run_pure, Result.andThen_ok, hr]
    exact hK _ _ h
theorem wl_load (w : World) (hgd : o.guard = none) (t : TypeId) (x : Operand) (ho : o.op = .load t x) (vx : Value) (hx : a.eval x = vx) (v' : Value) (hr : (Instr.loadAt t vx).run P w = .ok v' w) (h : wpList P ops Q rest (a.put o.dst v') w) : wpList P ops Q (o :: rest) a w :=
  wpList_plain hgd fun K hK => by
    unfold Oper.wp execOp
    simp only [ho, hx, Sem.run_bind, Sem.run_pure, Result.andThen_ok, hr]
    exact hK _ _ h
theorem wl_store (w w' : World) (hgd : o.guard = none) (t : TypeId) (x y : Operand) (ho : o.op = .store t x y) (vx vy : Value) (hx : a.eval x = vx) (hy : a.eval y = vy) (hr : (Instr.storeAt t vx vy).run P w = .ok () w') (h : wpList P ops Q rest (a.put o.dst undef) w') : wpList P ops Q (o :: rest) a w :=
  wpList_plain hgd fun K hK => by
    unfold Oper.wp execOp
    simp only [ho, hx, hy, Sem.run_bind, Sem.run_pure, Result.andThen_ok, hr]
    exact hK _ _ h
end
theorem res_cell {P : Program} (fn : Func) (tmps : Array Value) (a t : Nat) (ad : Addr) (v : Value) (w : World) (hf : fn.results = #[.cell a t]) (ht : tmps.getD a undef = .pointer (some ad)) (hl : (loadVar t ad).run P w = .ok v w) : (results fn tmps).run P w = .ok v w := by
  have ht2 : tmps[a]?.getD undef = .pointer (some ad) := by simpa using ht
  simp [results, hf, ht2, asAddr, hl]
theorem build5 (d : Int) (w : World) : (Instr.build 35 #[(0, .int .i64 5), (6, .int .i64 d)]).run Tryz.prog w = .ok (.agg (mcs { Mg.z with k := 5, day := d } none none none none 0 0 0 0)) w := by kernel_rfl
set_option maxHeartbeats 4000000 in
theorem told5 (d : Int) (w : World) : Calls Tryz.prog 23 #[.iface 74 (.agg #[.int .i64 d])] w (KP (.agg (mcs { Mg.z with k := 5, day := d } none none none none 0 0 0 0)) w) := by
  have t1 := tn5_1
  have t2 := tn5_2
  have t3 := tn5_3
  have t4 := tn5_4
  have t5 := ty5
  have HBu : Hid (∀ w, (Instr.build 35 #[(0, .int .i64 5), (6, .int .i64 d)]).run Tryz.prog w = .ok (.agg (mcs { Mg.z with k := 5, day := d } none none none none 0 0 0 0)) w) := fun w => build5 d w
  have HM1 : Hid ((mcs { Mg.z with k := 5, day := d } none none none none 0 0 0 0).size = 36) := mcs_size _ _ _ _ _ _ _ _ _
  have HM2 : Hid ((mcs { Mg.z with k := 5, day := d } none none none none 0 0 0 0).all (·.oneCell') = true) := mcs_one _ _ _ _ _ _ _ _ _
  generalize mcs { Mg.z with k := 5, day := d } none none none none 0 0 0 0 = M at *
  have HB : Hid (Below w.heap.size w ((w.alloc (.cells #[.int .i64 0, .int .i64 0, .string ⟨#[]⟩, .string ⟨#[]⟩, .int .i64 0, .int .i64 0, .int .i64 0, .string ⟨#[]⟩, .int .i64 0, .int .i64 0, .string ⟨#[]⟩, .int .i64 0, .int .i64 0, .int .i64 0, .slice none 0 0, .int .i64 0, .int .i64 0, .slice none 0 0, .slice none 0 0, .int .i64 0, .string ⟨#[]⟩, .int .i64 0, .int .i64 0, .int .i64 0, .int .i64 0, .int .i64 0, .int .i64 0, .int .i64 0, .int .i64 0, .int .i64 0, .string ⟨#[]⟩, .int .i64 0, .slice none 0 0, .int .i64 0, .bool false, .int .i64 0] 35)).alloc (.cells #[.int .i64 d] 74))) := bt (below_a w _) (below_a _ _)
  have HX : Hid (Bx ((w.alloc (.cells #[.int .i64 0, .int .i64 0, .string ⟨#[]⟩, .string ⟨#[]⟩, .int .i64 0, .int .i64 0, .int .i64 0, .string ⟨#[]⟩, .int .i64 0, .int .i64 0, .string ⟨#[]⟩, .int .i64 0, .int .i64 0, .int .i64 0, .slice none 0 0, .int .i64 0, .int .i64 0, .slice none 0 0, .slice none 0 0, .int .i64 0, .string ⟨#[]⟩, .int .i64 0, .int .i64 0, .int .i64 0, .int .i64 0, .int .i64 0, .int .i64 0, .int .i64 0, .int .i64 0, .int .i64 0, .string ⟨#[]⟩, .int .i64 0, .slice none 0 0, .int .i64 0, .bool false, .int .i64 0] 35)).alloc (.cells #[.int .i64 d] 74)) w.heap.size #[.int .i64 0, .int .i64 0, .string ⟨#[]⟩, .string ⟨#[]⟩, .int .i64 0, .int .i64 0, .int .i64 0, .string ⟨#[]⟩, .int .i64 0, .int .i64 0, .string ⟨#[]⟩, .int .i64 0, .int .i64 0, .int .i64 0, .slice none 0 0, .int .i64 0, .int .i64 0, .slice none 0 0, .slice none 0 0, .int .i64 0, .string ⟨#[]⟩, .int .i64 0, .int .i64 0, .int .i64 0, .int .i64 0, .int .i64 0, .int .i64 0, .int .i64 0, .int .i64 0, .int .i64 0, .string ⟨#[]⟩, .int .i64 0, .slice none 0 0, .int .i64 0, .bool false, .int .i64 0] 35) := (Bx.new w _ _).keep (below_a _ _)
  go_enter Tryz.func23, Tryz.ntmps23
  go_upto_region 16 with fail
  have c0 : ((w.alloc (.cells #[.int .i64 0, .int .i64 0, .string ⟨#[]⟩, .string ⟨#[]⟩, .int .i64 0, .int .i64 0, .int .i64 0, .string ⟨#[]⟩, .int .i64 0, .int .i64 0, .string ⟨#[]⟩, .int .i64 0, .int .i64 0, .int .i64 0, .slice none 0 0, .int .i64 0, .int .i64 0, .slice none 0 0, .slice none 0 0, .int .i64 0, .string ⟨#[]⟩, .int .i64 0, .int .i64 0, .int .i64 0, .int .i64 0, .int .i64 0, .int .i64 0, .int .i64 0, .int .i64 0, .int .i64 0, .string ⟨#[]⟩, .int .i64 0, .slice none 0 0, .int .i64 0, .bool false, .int .i64 0] 35)).alloc (.cells #[.int .i64 d] 74)).cell? ⟨w.heap.size + 1, 0, none⟩ = some (.int .i64 d) := by simp
  generalize ((w.alloc (.cells #[.int .i64 0, .int .i64 0, .string ⟨#[]⟩, .string ⟨#[]⟩, .int .i64 0, .int .i64 0, .int .i64 0, .string ⟨#[]⟩, .int .i64 0, .int .i64 0, .string ⟨#[]⟩, .int .i64 0, .int .i64 0, .int .i64 0, .slice none 0 0, .int .i64 0, .int .i64 0, .slice none 0 0, .slice none 0 0, .int .i64 0, .string ⟨#[]⟩, .int .i64 0, .int .i64 0, .int .i64 0, .int .i64 0, .int .i64 0, .int .i64 0, .int .i64 0, .int .i64 0, .int .i64 0, .string ⟨#[]⟩, .int .i64 0, .slice none 0 0, .int .i64 0, .bool false, .int .i64 0] 35)).alloc (.cells #[.int .i64 d] 74)) = w2 at *
  have HST : Hid ((Instr.storeAt 35 (.pointer (some ⟨w.heap.size, 0, none⟩)) (.agg M)).run Tryz.prog w2 = .ok () (w2.setRow w.heap.size M)) := hstore w2 w.heap.size _ M HX.out rfl HM1.out HM2.out
  have hld := hload (w2.setRow w.heap.size M) w.heap.size M HM1.out (setRow_heap w2 w.heap.size _ _ 35 (0, 0) HX.out)
  have HB2 : Hid (Below w.heap.size w (w2.setRow w.heap.size M)) := below_setRow' HB.out (Nat.le_refl _)
  go_wp2_with (first | (guard_target =~ wpList _ _ _ (⟨_, Op.build _ _, _, _, _, _⟩ :: _) _ _; refine wl_build2 _ rfl 35 _ _ _ _ rfl _ _ rfl rfl _ (HBu.out _) ?_; go_simp) | (guard_target =~ wpList _ _ _ (⟨_, Op.store _ _ _, _, _, _, _⟩ :: _) _ _; refine wl_store _ _ rfl 35 _ _ rfl _ _ rfl rfl HST.out ?_; go_simp))
  refine bodyPost_ret (res_cell _ _ 2 35 _ _ _ rfl rfl hld) rfl ?_
  exact ⟨rfl, HB2⟩
theorem sameR (w : World) : Calls Tryz.prog 22 #[.agg (mcs { Mg.z with k := 5, day := 7 } none none none none 0 0 0 0), .agg #[.int .i64 5, .int .i64 0, .string ⟨#[]⟩, .string ⟨#[]⟩, .int .i64 0, .int .i64 0, .int .i64 0, .string ⟨#[]⟩, .int .i64 0, .int .i64 0, .string ⟨#[]⟩, .int .i64 0, .int .i64 0, .int .i64 0, .slice none 0 0, .int .i64 0, .int .i64 0, .slice none 0 0, .slice none 0 0, .int .i64 7, .string ⟨#[]⟩, .int .i64 0, .int .i64 0, .int .i64 0, .int .i64 0, .int .i64 0, .int .i64 0, .int .i64 0, .int .i64 0, .int .i64 0, .string ⟨#[]⟩, .int .i64 0, .slice none 0 0, .int .i64 0, .bool false, .int .i64 0]] w (KP (.bool true) w) :=
  ySame { Mg.z with k := 5, day := 7 } none none none none none none none none 0 0 0 0 0 0 0 0 w (fun h => absurd h (by decide)) (fun h => absurd h (by decide)) (fun h => absurd h (by decide)) (fun h => absurd h (by decide)) (fun h => absurd h (by decide)) (fun h => absurd h (by decide)) (fun h => absurd h (by decide)) (fun h => absurd h (by decide)) (by decide) (by decide) (by decide) (by decide)
set_option maxHeartbeats 4000000 in
theorem awake (w : World) : Calls Tryz.prog 10 #[] w (KP (.bool true) w) := by
  have HS : Hid (∀ w, Calls Tryz.prog 22 #[.agg (mcs { Mg.z with k := 5, day := 7 } none none none none 0 0 0 0), .agg #[.int .i64 5, .int .i64 0, .string ⟨#[]⟩, .string ⟨#[]⟩, .int .i64 0, .int .i64 0, .int .i64 0, .string ⟨#[]⟩, .int .i64 0, .int .i64 0, .string ⟨#[]⟩, .int .i64 0, .int .i64 0, .int .i64 0, .slice none 0 0, .int .i64 0, .int .i64 0, .slice none 0 0, .slice none 0 0, .int .i64 7, .string ⟨#[]⟩, .int .i64 0, .int .i64 0, .int .i64 0, .int .i64 0, .int .i64 0, .int .i64 0, .int .i64 0, .int .i64 0, .int .i64 0, .string ⟨#[]⟩, .int .i64 0, .slice none 0 0, .int .i64 0, .bool false, .int .i64 0]] w (KP (.bool true) w)) := sameR
  have HT : Hid (∀ w, Calls Tryz.prog 23 #[.iface 74 (.agg #[.int .i64 7])] w (KP (.agg (mcs { Mg.z with k := 5, day := 7 } none none none none 0 0 0 0)) w)) := fun w => told5 7 w
  generalize mcs { Mg.z with k := 5, day := 7 } none none none none 0 0 0 0 = M at *
  go_enter Tryz.func10, Tryz.ntmps10
  go_wp2_with fail
  refine (encodeR _).mono ?_
  rintro e w2 ⟨rfl, hb2⟩
  go_wp2_with fail
  refine (decodeR _).mono ?_
  rintro e w3 ⟨v, q, rfl, hq, HV, hb3⟩
  have hv := HV.out
  subst hv
  have HB3 : Hid (Below w.heap.size w w3) := bt hb2.out hb3.out
  clear hb2 hb3 HV hq
  go_wp2_with fail
  refine (HT.out _).mono ?_
  rintro e w4 ⟨rfl, hb4⟩
  have HB4 : Hid (Below w.heap.size w w4) := bt HB3.out hb4.out
  clear hb4 HB3
  go_wp2_with fail
  refine (HS.out _).mono ?_
  rintro e w5 ⟨rfl, hb5⟩
  have HB5 : Hid (Below w.heap.size w w5) := bt HB4.out hb5.out
  clear hb5 HB4
  go_wp2_with fail
  go_ret
  exact KP.mk rfl HB5.out
end Go.Proofs.YtdmlgheajblcdaaGreat
