/- Layer 10: messages told, and without the rest; both the same. -/
import Derived.Test.YtdmlgheajblcdaaGreatN38
import Derived.Test.YtdmlgheajblcdaaGreatN37
import Derived.Test.YtdmlgheajblcdaaGreatN34
import Derived.Test.YtdmlgheajblcdaaGreatN35
import Derived.Test.YtdmlgheajblcdaaGreatN36
import Derived.WalkKit
import Derived.ProofKit
import Derived.Handy
import Derived.WalkLawsBesides
import Derived.WalkSpells
import Derived.BigQuiet
import Derived.BigCall
import Derived.Deep.QuietTactic
import Derived.Deep.Light
import Derived.Deep.OwnRows
import Derived.Laws.AppendOwnNone
import Derived.Laws.Strings3
import Derived.Laws.RangeAny
import Derived.Deep.RegionWith
import Derived.Lib.BitFns
import Derived.Lib.Walk
import Derived.Lib.Strings
import Derived.Lib.OthersKept
import Derived.Deep.CutBlock
import Derived.Deep.DeepCutAuto
import Derived.Deep.LoopGhost
import Derived.Deep.RegionHeld3
import Derived.Lib.SmallJoins
import Derived.Maps.AppendAt
import Derived.Laws.IdiomStrings
import Derived.Lib.AppendZeros
import Derived.Deep.WholeRow
import Derived.Laws.BitsAllLaws
import Derived.Lib.ConvBytes
import Derived.Deep.RegionLaw
import Derived.Test.YtdmlgheajblcdaaGreatK16
namespace Go.Proofs.YtdmlgheajblcdaaGreat
open Go.RowKit
set_option linter.unusedVariables false
set_option linter.unusedSimpArgs false
set_option maxRecDepth 100000
/-- a message of the reference's in memory -/
def PG (m : Mg) (A : Array Value) (W : World) : Prop := ∃ (pa ia ca ba : Option Addr) (pc ic cc bc : Nat), A = mcs m pa ia ca ba pc ic cc bc ∧ Hld W.heap.size W m pa ia ca ba
theorem PG.keep {m : Mg} {A : Array Value} {W W2 : World} (h : PG m A W) (hb : Below W.heap.size W W2) : PG m A W2 := by
  obtain ⟨pa, ia, ca, ba, pc, ic, cc, bc, hA, hH⟩ := h
  exact ⟨pa, ia, ca, ba, pc, ic, cc, bc, hA, hH.on hb⟩
def PGP (m : Mg) (w : World) (e : Ending) (w' : World) : Prop := ∃ A, e = .returned (.agg A) ∧ Hid (A.size = 36) ∧ Hid (PG m A w') ∧ Hid (Below w.heap.size w w')
theorem mv_tell {m : Mg} (hp : plainM m = m) (hi : inn m.k 1 15 = true) {q : Nat} {v : Value} (W : World) (h : MV m q W v) : Calls Tryz.prog 23 #[v] W (PGP m W) := by
  obtain ⟨pa, ia, ca, ba, pc, ic, cc, bc, B, hq, hO, rfl⟩ := h
  have hH := hO.hld hp
  obtain ⟨l4, l11, l3⟩ := plain_lists hp
  rcases kinds m.k with h0 | hk | hk | hk | hk | hk | hk | hk | hk | hk | hk | hk | hk | hk | hk | hk
  · rw [h0] at hi; cases hi
  · rw [val1 hk]
    refine (tell1 m pa ia ca ba pc ic cc bc W).mono ?_
    rintro e w' ⟨rfl, hb'⟩
    have hb := hH.on hb'.out
    have e : { Mg.z with k := 1, mem := m.mem, name := m.name } = m := by rw [← hp]; unfold plainM; simp [hk]
    refine ⟨_, rfl, mcs_size _ _ _ _ _ _ _ _ _, ?_, hb'⟩
    unfold Hid
    rw [e]
    exact ⟨none, none, none, none, 0, 0, 0, 0, rfl, ⟨Lts.nil (l4 (by omega)), Lts.nil (l11 (by omega)), Cts.nil (l3 (by omega)).1, Ins.nil (l3 (by omega)).2⟩⟩
  · rw [val2 hk]
    refine (tell2 m pa ia ca ba pc ic cc bc W).mono ?_
    rintro e w' ⟨rfl, hb'⟩
    have hb := hH.on hb'.out
    have e : { Mg.z with k := 2, a := m.a } = m := by rw [← hp]; unfold plainM; simp [hk]
    refine ⟨_, rfl, mcs_size _ _ _ _ _ _ _ _ _, ?_, hb'⟩
    unfold Hid
    rw [e]
    exact ⟨none, none, none, none, 0, 0, 0, 0, rfl, ⟨Lts.nil (l4 (by omega)), Lts.nil (l11 (by omega)), Cts.nil (l3 (by omega)).1, Ins.nil (l3 (by omega)).2⟩⟩
  · rw [val3 hk]
    refine (tell3 m pa ia ca ba pc ic cc bc W).mono ?_
    rintro e w' ⟨rfl, hb'⟩
    have hb := hH.on hb'.out
    have e : { Mg.z with k := 3, b := m.b } = m := by rw [← hp]; unfold plainM; simp [hk]
    refine ⟨_, rfl, mcs_size _ _ _ _ _ _ _ _ _, ?_, hb'⟩
    unfold Hid
    rw [e]
    exact ⟨none, none, ca, ba, 0, 0, cc, bc, rfl, ⟨Lts.nil (l4 (by omega)), Lts.nil (l11 (by omega)), hb.cuts, hb.bar⟩⟩
  · rw [val4 hk]
    refine (tell4 m pa ia ca ba pc ic cc bc W).mono ?_
    rintro e w' ⟨rfl, hb'⟩
    have hb := hH.on hb'.out
    have e : { Mg.z with k := 4, ps := m.ps } = m := by rw [← hp]; unfold plainM; simp [hk]
    refine ⟨_, rfl, mcs_size _ _ _ _ _ _ _ _ _, ?_, hb'⟩
    unfold Hid
    rw [e]
    exact ⟨pa, none, none, none, pc, 0, 0, 0, rfl, ⟨hb.ps, Lts.nil (l11 (by omega)), Cts.nil (l3 (by omega)).1, Ins.nil (l3 (by omega)).2⟩⟩
  · rw [val5 hk]
    refine (tell5 m pa ia ca ba pc ic cc bc W).mono ?_
    rintro e w' ⟨rfl, hb'⟩
    have hb := hH.on hb'.out
    have e : { Mg.z with k := 5, day := m.day } = m := by rw [← hp]; unfold plainM; simp [hk]
    refine ⟨_, rfl, mcs_size _ _ _ _ _ _ _ _ _, ?_, hb'⟩
    unfold Hid
    rw [e]
    exact ⟨none, none, none, none, 0, 0, 0, 0, rfl, ⟨Lts.nil (l4 (by omega)), Lts.nil (l11 (by omega)), Cts.nil (l3 (by omega)).1, Ins.nil (l3 (by omega)).2⟩⟩
  · rw [val6 hk]
    refine (tell6 m pa ia ca ba pc ic cc bc W).mono ?_
    rintro e w' ⟨rfl, hb'⟩
    have hb := hH.on hb'.out
    have e : { Mg.z with k := 6, mem := m.mem, t := m.t, n := m.n } = m := by rw [← hp]; unfold plainM; simp [hk]
    refine ⟨_, rfl, mcs_size _ _ _ _ _ _ _ _ _, ?_, hb'⟩
    unfold Hid
    rw [e]
    exact ⟨none, none, none, none, 0, 0, 0, 0, rfl, ⟨Lts.nil (l4 (by omega)), Lts.nil (l11 (by omega)), Cts.nil (l3 (by omega)).1, Ins.nil (l3 (by omega)).2⟩⟩
  · rw [val7 hk]
    refine (tell7 m pa ia ca ba pc ic cc bc W).mono ?_
    rintro e w' ⟨rfl, hb'⟩
    have hb := hH.on hb'.out
    have e : { Mg.z with k := 7, mem := m.mem, t := m.t, n := m.n } = m := by rw [← hp]; unfold plainM; simp [hk]
    refine ⟨_, rfl, mcs_size _ _ _ _ _ _ _ _ _, ?_, hb'⟩
    unfold Hid
    rw [e]
    exact ⟨none, none, none, none, 0, 0, 0, 0, rfl, ⟨Lts.nil (l4 (by omega)), Lts.nil (l11 (by omega)), Cts.nil (l3 (by omega)).1, Ins.nil (l3 (by omega)).2⟩⟩
  · rw [val8 hk]
    refine (tell8 m pa ia ca ba pc ic cc bc W).mono ?_
    rintro e w' ⟨rfl, hb'⟩
    have hb := hH.on hb'.out
    have e : { Mg.z with k := 8, q := m.q } = m := by rw [← hp]; unfold plainM; simp [hk]
    refine ⟨_, rfl, mcs_size _ _ _ _ _ _ _ _ _, ?_, hb'⟩
    unfold Hid
    rw [e]
    exact ⟨none, none, none, none, 0, 0, 0, 0, rfl, ⟨Lts.nil (l4 (by omega)), Lts.nil (l11 (by omega)), Cts.nil (l3 (by omega)).1, Ins.nil (l3 (by omega)).2⟩⟩
  · rw [val9 hk]
    refine (tell9 m pa ia ca ba pc ic cc bc W).mono ?_
    rintro e w' ⟨rfl, hb'⟩
    have hb := hH.on hb'.out
    have e : { Mg.z with k := 9, mem := m.mem, n := m.n } = m := by rw [← hp]; unfold plainM; simp [hk]
    refine ⟨_, rfl, mcs_size _ _ _ _ _ _ _ _ _, ?_, hb'⟩
    unfold Hid
    rw [e]
    exact ⟨none, none, none, none, 0, 0, 0, 0, rfl, ⟨Lts.nil (l4 (by omega)), Lts.nil (l11 (by omega)), Cts.nil (l3 (by omega)).1, Ins.nil (l3 (by omega)).2⟩⟩
  · rw [val10 hk]
    refine (tell10 m pa ia ca ba pc ic cc bc W).mono ?_
    rintro e w' ⟨rfl, hb'⟩
    have hb := hH.on hb'.out
    have e : { Mg.z with k := 10, mem := m.mem, day := m.day, tr := m.tr } = m := by rw [← hp]; unfold plainM; simp [hk]
    refine ⟨_, rfl, mcs_size _ _ _ _ _ _ _ _ _, ?_, hb'⟩
    unfold Hid
    rw [e]
    exact ⟨none, none, none, none, 0, 0, 0, 0, rfl, ⟨Lts.nil (l4 (by omega)), Lts.nil (l11 (by omega)), Cts.nil (l3 (by omega)).1, Ins.nil (l3 (by omega)).2⟩⟩
  · rw [val11 hk]
    refine (tell11 m pa ia ca ba pc ic cc bc W).mono ?_
    rintro e w' ⟨rfl, hb'⟩
    have hb := hH.on hb'.out
    have e : { Mg.z with k := 11, mem := m.mem, tr := m.tr, out := m.out, ins := m.ins } = m := by rw [← hp]; unfold plainM; simp [hk]
    refine ⟨_, rfl, mcs_size _ _ _ _ _ _ _ _ _, ?_, hb'⟩
    unfold Hid
    rw [e]
    exact ⟨none, ia, none, none, 0, ic, 0, 0, rfl, ⟨Lts.nil (l4 (by omega)), hb.ins, Cts.nil (l3 (by omega)).1, Ins.nil (l3 (by omega)).2⟩⟩
  · rw [val12 hk]
    refine (tell12 m pa ia ca ba pc ic cc bc W).mono ?_
    rintro e w' ⟨rfl, hb'⟩
    have hb := hH.on hb'.out
    have e : { Mg.z with k := 12, mem := m.mem, day := m.day, done := m.done } = m := by rw [← hp]; unfold plainM; simp [hk]
    refine ⟨_, rfl, mcs_size _ _ _ _ _ _ _ _ _, ?_, hb'⟩
    unfold Hid
    rw [e]
    exact ⟨none, none, none, none, 0, 0, 0, 0, rfl, ⟨Lts.nil (l4 (by omega)), Lts.nil (l11 (by omega)), Cts.nil (l3 (by omega)).1, Ins.nil (l3 (by omega)).2⟩⟩
  · rw [val13 hk]
    refine (tell13 m pa ia ca ba pc ic cc bc W).mono ?_
    rintro e w' ⟨rfl, hb'⟩
    have hb := hH.on hb'.out
    have e : { Mg.z with k := 13, mem := m.mem } = m := by rw [← hp]; unfold plainM; simp [hk]
    refine ⟨_, rfl, mcs_size _ _ _ _ _ _ _ _ _, ?_, hb'⟩
    unfold Hid
    rw [e]
    exact ⟨none, none, none, none, 0, 0, 0, 0, rfl, ⟨Lts.nil (l4 (by omega)), Lts.nil (l11 (by omega)), Cts.nil (l3 (by omega)).1, Ins.nil (l3 (by omega)).2⟩⟩
  · rw [val14 hk]
    refine (tell14 m pa ia ca ba pc ic cc bc W).mono ?_
    rintro e w' ⟨rfl, hb'⟩
    have hb := hH.on hb'.out
    have e : { Mg.z with k := 14, mem := m.mem, n := m.n } = m := by rw [← hp]; unfold plainM; simp [hk]
    refine ⟨_, rfl, mcs_size _ _ _ _ _ _ _ _ _, ?_, hb'⟩
    unfold Hid
    rw [e]
    exact ⟨none, none, none, none, 0, 0, 0, 0, rfl, ⟨Lts.nil (l4 (by omega)), Lts.nil (l11 (by omega)), Cts.nil (l3 (by omega)).1, Ins.nil (l3 (by omega)).2⟩⟩
  · rw [val15 hk]
    refine (tell15 m pa ia ca ba pc ic cc bc W).mono ?_
    rintro e w' ⟨rfl, hb'⟩
    have hb := hH.on hb'.out
    have e : { Mg.z with k := 15, day := m.day, tr := m.tr, rate := m.rate } = m := by rw [← hp]; unfold plainM; simp [hk]
    refine ⟨_, rfl, mcs_size _ _ _ _ _ _ _ _ _, ?_, hb'⟩
    unfold Hid
    rw [e]
    exact ⟨none, none, none, none, 0, 0, 0, 0, rfl, ⟨Lts.nil (l4 (by omega)), Lts.nil (l11 (by omega)), Cts.nil (l3 (by omega)).1, Ins.nil (l3 (by omega)).2⟩⟩
theorem plain_tell {m : Mg} {pa ia ca ba : Option Addr} {pc ic cc bc : Nat} (hi : inn m.k 1 15 = true) (W : World) (hH : Hld W.heap.size W m pa ia ca ba) : Calls Tryz.prog 24 #[.agg (mcs m pa ia ca ba pc ic cc bc)] W (PGP (plainM m) W) := by
  obtain ⟨l4, l11, l3⟩ := plain_lists (plain_plain m)
  rw [plain_k] at l4 l11 l3
  rcases kinds m.k with h0 | hk | hk | hk | hk | hk | hk | hk | hk | hk | hk | hk | hk | hk | hk | hk
  · rw [h0] at hi; cases hi
  · refine (plain1 m pa ia ca ba pc ic cc bc hk W).mono ?_
    rintro e w' ⟨rfl, hb'⟩
    have hc := hH.on hb'.out
    have e : plainM m = { Mg.z with k := 1, mem := m.mem, name := m.name } := by unfold plainM; simp [hk]
    refine ⟨_, rfl, mcs_size _ _ _ _ _ _ _ _ _, ?_, hb'⟩
    unfold Hid
    refine ⟨none, none, none, none, 0, 0, 0, 0, by rw [e], ?_⟩
    exact ⟨Lts.nil (l4 (by omega)), Lts.nil (l11 (by omega)), Cts.nil (l3 (by omega)).1, Ins.nil (l3 (by omega)).2⟩
  · refine (plain2 m pa ia ca ba pc ic cc bc hk W).mono ?_
    rintro e w' ⟨rfl, hb'⟩
    have hc := hH.on hb'.out
    have e : plainM m = { Mg.z with k := 2, a := m.a } := by unfold plainM; simp [hk]
    refine ⟨_, rfl, mcs_size _ _ _ _ _ _ _ _ _, ?_, hb'⟩
    unfold Hid
    refine ⟨none, none, none, none, 0, 0, 0, 0, by rw [e], ?_⟩
    exact ⟨Lts.nil (l4 (by omega)), Lts.nil (l11 (by omega)), Cts.nil (l3 (by omega)).1, Ins.nil (l3 (by omega)).2⟩
  · refine (plain3 m pa ia ca ba pc ic cc bc hk W).mono ?_
    rintro e w' ⟨rfl, hb'⟩
    have hc := hH.on hb'.out
    have e : plainM m = { Mg.z with k := 3, b := m.b } := by unfold plainM; simp [hk]
    refine ⟨_, rfl, mcs_size _ _ _ _ _ _ _ _ _, ?_, hb'⟩
    unfold Hid
    refine ⟨none, none, ca, ba, 0, 0, cc, bc, by rw [e], ?_⟩
    have e4 : (plainM m).b = m.b := by rw [e]
    exact ⟨Lts.nil (l4 (by omega)), Lts.nil (l11 (by omega)), by rw [e4]; exact hc.cuts, by rw [e4]; exact hc.bar⟩
  · refine (plain4 m pa ia ca ba pc ic cc bc hk W).mono ?_
    rintro e w' ⟨rfl, hb'⟩
    have hc := hH.on hb'.out
    have e : plainM m = { Mg.z with k := 4, ps := m.ps } := by unfold plainM; simp [hk]
    refine ⟨_, rfl, mcs_size _ _ _ _ _ _ _ _ _, ?_, hb'⟩
    unfold Hid
    refine ⟨pa, none, none, none, pc, 0, 0, 0, by rw [e], ?_⟩
    have e4 : (plainM m).ps = m.ps := by rw [e]
    exact ⟨by rw [e4]; exact hc.ps, Lts.nil (l11 (by omega)), Cts.nil (l3 (by omega)).1, Ins.nil (l3 (by omega)).2⟩
  · refine (plain5 m pa ia ca ba pc ic cc bc hk W).mono ?_
    rintro e w' ⟨rfl, hb'⟩
    have hc := hH.on hb'.out
    have e : plainM m = { Mg.z with k := 5, day := m.day } := by unfold plainM; simp [hk]
    refine ⟨_, rfl, mcs_size _ _ _ _ _ _ _ _ _, ?_, hb'⟩
    unfold Hid
    refine ⟨none, none, none, none, 0, 0, 0, 0, by rw [e], ?_⟩
    exact ⟨Lts.nil (l4 (by omega)), Lts.nil (l11 (by omega)), Cts.nil (l3 (by omega)).1, Ins.nil (l3 (by omega)).2⟩
  · refine (plain6 m pa ia ca ba pc ic cc bc hk W).mono ?_
    rintro e w' ⟨rfl, hb'⟩
    have hc := hH.on hb'.out
    have e : plainM m = { Mg.z with k := 6, mem := m.mem, t := m.t, n := m.n } := by unfold plainM; simp [hk]
    refine ⟨_, rfl, mcs_size _ _ _ _ _ _ _ _ _, ?_, hb'⟩
    unfold Hid
    refine ⟨none, none, none, none, 0, 0, 0, 0, by rw [e], ?_⟩
    exact ⟨Lts.nil (l4 (by omega)), Lts.nil (l11 (by omega)), Cts.nil (l3 (by omega)).1, Ins.nil (l3 (by omega)).2⟩
  · refine (plain7 m pa ia ca ba pc ic cc bc hk W).mono ?_
    rintro e w' ⟨rfl, hb'⟩
    have hc := hH.on hb'.out
    have e : plainM m = { Mg.z with k := 7, mem := m.mem, t := m.t, n := m.n } := by unfold plainM; simp [hk]
    refine ⟨_, rfl, mcs_size _ _ _ _ _ _ _ _ _, ?_, hb'⟩
    unfold Hid
    refine ⟨none, none, none, none, 0, 0, 0, 0, by rw [e], ?_⟩
    exact ⟨Lts.nil (l4 (by omega)), Lts.nil (l11 (by omega)), Cts.nil (l3 (by omega)).1, Ins.nil (l3 (by omega)).2⟩
  · refine (plain8 m pa ia ca ba pc ic cc bc hk W).mono ?_
    rintro e w' ⟨rfl, hb'⟩
    have hc := hH.on hb'.out
    have e : plainM m = { Mg.z with k := 8, q := m.q } := by unfold plainM; simp [hk]
    refine ⟨_, rfl, mcs_size _ _ _ _ _ _ _ _ _, ?_, hb'⟩
    unfold Hid
    refine ⟨none, none, none, none, 0, 0, 0, 0, by rw [e], ?_⟩
    exact ⟨Lts.nil (l4 (by omega)), Lts.nil (l11 (by omega)), Cts.nil (l3 (by omega)).1, Ins.nil (l3 (by omega)).2⟩
  · refine (plain9 m pa ia ca ba pc ic cc bc hk W).mono ?_
    rintro e w' ⟨rfl, hb'⟩
    have hc := hH.on hb'.out
    have e : plainM m = { Mg.z with k := 9, mem := m.mem, n := m.n } := by unfold plainM; simp [hk]
    refine ⟨_, rfl, mcs_size _ _ _ _ _ _ _ _ _, ?_, hb'⟩
    unfold Hid
    refine ⟨none, none, none, none, 0, 0, 0, 0, by rw [e], ?_⟩
    exact ⟨Lts.nil (l4 (by omega)), Lts.nil (l11 (by omega)), Cts.nil (l3 (by omega)).1, Ins.nil (l3 (by omega)).2⟩
  · refine (plain10 m pa ia ca ba pc ic cc bc hk W).mono ?_
    rintro e w' ⟨rfl, hb'⟩
    have hc := hH.on hb'.out
    have e : plainM m = { Mg.z with k := 10, mem := m.mem, day := m.day, tr := m.tr } := by unfold plainM; simp [hk]
    refine ⟨_, rfl, mcs_size _ _ _ _ _ _ _ _ _, ?_, hb'⟩
    unfold Hid
    refine ⟨none, none, none, none, 0, 0, 0, 0, by rw [e], ?_⟩
    exact ⟨Lts.nil (l4 (by omega)), Lts.nil (l11 (by omega)), Cts.nil (l3 (by omega)).1, Ins.nil (l3 (by omega)).2⟩
  · refine (plain11 m pa ia ca ba pc ic cc bc hk W).mono ?_
    rintro e w' ⟨rfl, hb'⟩
    have hc := hH.on hb'.out
    have e : plainM m = { Mg.z with k := 11, mem := m.mem, tr := m.tr, out := m.out, ins := m.ins } := by unfold plainM; simp [hk]
    refine ⟨_, rfl, mcs_size _ _ _ _ _ _ _ _ _, ?_, hb'⟩
    unfold Hid
    refine ⟨none, ia, none, none, 0, ic, 0, 0, by rw [e], ?_⟩
    have e4 : (plainM m).ins = m.ins := by rw [e]
    exact ⟨Lts.nil (l4 (by omega)), by rw [e4]; exact hc.ins, Cts.nil (l3 (by omega)).1, Ins.nil (l3 (by omega)).2⟩
  · refine (plain12 m pa ia ca ba pc ic cc bc hk W).mono ?_
    rintro e w' ⟨rfl, hb'⟩
    have hc := hH.on hb'.out
    have e : plainM m = { Mg.z with k := 12, mem := m.mem, day := m.day, done := m.done } := by unfold plainM; simp [hk]
    refine ⟨_, rfl, mcs_size _ _ _ _ _ _ _ _ _, ?_, hb'⟩
    unfold Hid
    refine ⟨none, none, none, none, 0, 0, 0, 0, by rw [e], ?_⟩
    exact ⟨Lts.nil (l4 (by omega)), Lts.nil (l11 (by omega)), Cts.nil (l3 (by omega)).1, Ins.nil (l3 (by omega)).2⟩
  · refine (plain13 m pa ia ca ba pc ic cc bc hk W).mono ?_
    rintro e w' ⟨rfl, hb'⟩
    have hc := hH.on hb'.out
    have e : plainM m = { Mg.z with k := 13, mem := m.mem } := by unfold plainM; simp [hk]
    refine ⟨_, rfl, mcs_size _ _ _ _ _ _ _ _ _, ?_, hb'⟩
    unfold Hid
    refine ⟨none, none, none, none, 0, 0, 0, 0, by rw [e], ?_⟩
    exact ⟨Lts.nil (l4 (by omega)), Lts.nil (l11 (by omega)), Cts.nil (l3 (by omega)).1, Ins.nil (l3 (by omega)).2⟩
  · refine (plain14 m pa ia ca ba pc ic cc bc hk W).mono ?_
    rintro e w' ⟨rfl, hb'⟩
    have hc := hH.on hb'.out
    have e : plainM m = { Mg.z with k := 14, mem := m.mem, n := m.n } := by unfold plainM; simp [hk]
    refine ⟨_, rfl, mcs_size _ _ _ _ _ _ _ _ _, ?_, hb'⟩
    unfold Hid
    refine ⟨none, none, none, none, 0, 0, 0, 0, by rw [e], ?_⟩
    exact ⟨Lts.nil (l4 (by omega)), Lts.nil (l11 (by omega)), Cts.nil (l3 (by omega)).1, Ins.nil (l3 (by omega)).2⟩
  · refine (plain15 m pa ia ca ba pc ic cc bc hk W).mono ?_
    rintro e w' ⟨rfl, hb'⟩
    have hc := hH.on hb'.out
    have e : plainM m = { Mg.z with k := 15, day := m.day, tr := m.tr, rate := m.rate } := by unfold plainM; simp [hk]
    refine ⟨_, rfl, mcs_size _ _ _ _ _ _ _ _ _, ?_, hb'⟩
    unfold Hid
    refine ⟨none, none, none, none, 0, 0, 0, 0, by rw [e], ?_⟩
    exact ⟨Lts.nil (l4 (by omega)), Lts.nil (l11 (by omega)), Cts.nil (l3 (by omega)).1, Ins.nil (l3 (by omega)).2⟩
theorem pg_same {m : Mg} {A B : Array Value} (W : World) (hA : PG m A W) (hB : PG m B W) (hlc : m.b.cuts.length ≤ 1000000000000) (hlb : m.b.bar.length ≤ 1000000000000) (hlp : m.ps.length ≤ 1000000000000) (hli : m.ins.length ≤ 1000000000000) : Calls Tryz.prog 22 #[.agg A, .agg B] W (KP (.bool true) W) := by
  obtain ⟨p1, i1, c1, b1, pc1, ic1, cc1, bc1, rfl, h1⟩ := hA
  obtain ⟨p2, i2, c2, b2, pc2, ic2, cc2, bc2, rfl, h2⟩ := hB
  exact ySame m c1 c2 b1 b2 p1 p2 i1 i2 cc1 cc2 bc1 bc2 pc1 pc2 ic1 ic2 W h1.cuts h2.cuts h1.bar h2.bar h1.ps h2.ps h1.ins h2.ins hlc hlb hlp hli
theorem enc_len {m : Mg} (hS : Shrt m) (hW : m.Wf) (hi : inn m.k 1 15 = true) : (encL m).length ≤ 1000000 := by
  have ak := intL_len hW.k
  have a0 := intL_len hW.mem
  have a1 := intL_len hW.n
  have a2 := intL_len hW.tr
  have a3 := intL_len hW.day
  have a4 := intL_len hW.rate
  rcases kinds m.k with h0 | hk | hk | hk | hk | hk | hk | hk | hk | hk | hk | hk | hk | hk | hk | hk
  · rw [h0] at hi; cases hi
  · have e : encL m = intL m.k ++ (intL m.mem ++ textL m.name) := by unfold encL bodL; simp [hk]
    rw [e]
    have b1 := textL_len (hS.n hk)
    simp only [bkL, quL, intsL, List.length_append]
    omega
  · have e : encL m = intL m.k ++ (textL m.a.i ++ (intL m.a.iss ++ (intL m.a.rat ++ (intL m.a.mat ++ textL m.a.cur)))) := by unfold encL bodL; simp [hk]
    rw [e]
    have b1 := textL_len (hS.a hk).1; have b2 := textL_len (hS.a hk).2; have b3 := intL_len hW.a.1; have b4 := intL_len hW.a.2.1; have b5 := intL_len hW.a.2.2
    simp only [bkL, quL, intsL, List.length_append]
    omega
  · have e : encL m = intL m.k ++ (bkL m.b) := by unfold encL bodL; simp [hk]
    rw [e]
    have b1 := textL_len (hS.b hk).1; have b2 := uintL_len (n := m.b.cuts.length) (by have := (hS.b hk).2.1; omega); have b3 := flatM_len cutL 30 m.b.cuts (fun y hy => cutL_len (hW.b.2.2.2.2.2.2.2.1 y hy)); have b4 := flatI_len m.b.bar hW.b.2.2.2.2.2.2.2.2; have b5 := (uint_len (n := m.b.bar.length) (by have := (hS.b hk).2.2; omega)).2; have c0 := (hS.b hk).2.1; have c1 := (hS.b hk).2.2; have d0 := intL_len hW.b.1; have d1 := intL_len hW.b.2.1; have d2 := intL_len hW.b.2.2.1; have d3 := intL_len hW.b.2.2.2.1; have d4 := intL_len hW.b.2.2.2.2.1; have d5 := intL_len hW.b.2.2.2.2.2.1; have d6 := intL_len hW.b.2.2.2.2.2.2.1
    simp only [bkL, quL, intsL, List.length_append]
    omega
  · have e : encL m = intL m.k ++ (uintL m.ps.length ++ flatM lotL m.ps) := by unfold encL bodL; simp [hk]
    rw [e]
    have b2 := uintL_len (n := m.ps.length) (by have := (hS.p hk).1; omega); have b3 := flatM_len lotL 1020 m.ps (fun y hy => lotL_len ((hS.p hk).2 y hy) (hW.ps y hy)); have c0 := (hS.p hk).1
    simp only [bkL, quL, intsL, List.length_append]
    omega
  · have e : encL m = intL m.k ++ (intL m.day) := by unfold encL bodL; simp [hk]
    rw [e]
    skip
    simp only [bkL, quL, intsL, List.length_append]
    omega
  · have e : encL m = intL m.k ++ (intL m.mem ++ (intL m.n ++ textL m.t)) := by unfold encL bodL; simp [hk]
    rw [e]
    have b1 := textL_len (hS.t (Or.inl hk))
    simp only [bkL, quL, intsL, List.length_append]
    omega
  · have e : encL m = intL m.k ++ (intL m.mem ++ (intL m.n ++ textL m.t)) := by unfold encL bodL; simp [hk]
    rw [e]
    have b1 := textL_len (hS.t (Or.inr hk))
    simp only [bkL, quL, intsL, List.length_append]
    omega
  · have e : encL m = intL m.k ++ (quL m.q) := by unfold encL bodL; simp [hk]
    rw [e]
    have d0 := intL_len hW.q.1; have d1 := intL_len hW.q.2.1; have d2 := intL_len hW.q.2.2.1; have d3 := intL_len hW.q.2.2.2.1; have d4 := intL_len hW.q.2.2.2.2.1; have d5 := intL_len hW.q.2.2.2.2.2.1; have d6 := intL_len hW.q.2.2.2.2.2.2.1; have d7 := intL_len hW.q.2.2.2.2.2.2.2
    simp only [bkL, quL, intsL, List.length_append]
    omega
  · have e : encL m = intL m.k ++ (intL m.mem ++ intL m.n) := by unfold encL bodL; simp [hk]
    rw [e]
    skip
    simp only [bkL, quL, intsL, List.length_append]
    omega
  · have e : encL m = intL m.k ++ (intL m.mem ++ (intL m.tr ++ intL m.day)) := by unfold encL bodL; simp [hk]
    rw [e]
    skip
    simp only [bkL, quL, intsL, List.length_append]
    omega
  · have e : encL m = intL m.k ++ (intL m.mem ++ (intL m.tr ++ (lotL m.out ++ (uintL m.ins.length ++ flatM lotL m.ins)))) := by unfold encL bodL; simp [hk]
    rw [e]
    have b1 := lotL_len (hS.l hk).1 hW.out; have b2 := uintL_len (n := m.ins.length) (by have := (hS.l hk).2.1; omega); have b3 := flatM_len lotL 1020 m.ins (fun y hy => lotL_len ((hS.l hk).2.2 y hy) (hW.ins y hy)); have c0 := (hS.l hk).2.1
    simp only [bkL, quL, intsL, List.length_append]
    omega
  · have e : encL m = intL m.k ++ (intL m.mem ++ (intL m.day ++ boolL m.done)) := by unfold encL bodL; simp [hk]
    rw [e]
    have b1 : (boolL m.done).length = 1 := rfl
    simp only [bkL, quL, intsL, List.length_append]
    omega
  · have e : encL m = intL m.k ++ (intL m.mem) := by unfold encL bodL; simp [hk]
    rw [e]
    skip
    simp only [bkL, quL, intsL, List.length_append]
    omega
  · have e : encL m = intL m.k ++ (intL m.mem ++ intL m.n) := by unfold encL bodL; simp [hk]
    rw [e]
    skip
    simp only [bkL, quL, intsL, List.length_append]
    omega
  · have e : encL m = intL m.k ++ (intL m.tr ++ (intL m.day ++ intL m.rate)) := by unfold encL bodL; simp [hk]
    rw [e]
    skip
    simp only [bkL, quL, intsL, List.length_append]
    omega
theorem mv_enc {m : Mg} (hp : plainM m = m) (h0 : chkM C0 m = 0) (hW : m.Wf) (hb : (bodL m).length ≤ 1000000) {q : Nat} {v : Value} (W : World) (h : MV m q W v) : Calls Tryz.prog 18 #[v] W (KP (.tuple #[.string ⟨(encL m).toArray⟩, .int .i64 0]) W) := by
  have hi := chk_kind h0
  have hz := szd_rd hp hi hb
  obtain ⟨pa, ia, ca, ba, pc, ic, cc, bc, B, hq, hO, rfl⟩ := h
  have hH := hO.hld hp
  rcases kinds m.k with h1 | hk | hk | hk | hk | hk | hk | hk | hk | hk | hk | hk | hk | hk | hk | hk
  · rw [h1] at hi; cases hi
  · rw [val1 hk]; have := xEnc1 m pa ia ca ba pc ic cc bc hk W hH hW hz; rw [encS_ok h0, h0] at this; exact this
  · rw [val2 hk]; have := xEnc2 m pa ia ca ba pc ic cc bc hk W hH hW hz; rw [encS_ok h0, h0] at this; exact this
  · rw [val3 hk]; have := xEnc3 m pa ia ca ba pc ic cc bc hk W hH hW hz; rw [encS_ok h0, h0] at this; exact this
  · rw [val4 hk]; have := xEnc4 m pa ia ca ba pc ic cc bc hk W hH hW hz; rw [encS_ok h0, h0] at this; exact this
  · rw [val5 hk]; have := xEnc5 m pa ia ca ba pc ic cc bc hk W hH hW hz; rw [encS_ok h0, h0] at this; exact this
  · rw [val6 hk]; have := xEnc6 m pa ia ca ba pc ic cc bc hk W hH hW hz; rw [encS_ok h0, h0] at this; exact this
  · rw [val7 hk]; have := xEnc7 m pa ia ca ba pc ic cc bc hk W hH hW hz; rw [encS_ok h0, h0] at this; exact this
  · rw [val8 hk]; have := xEnc8 m pa ia ca ba pc ic cc bc hk W hH hW hz; rw [encS_ok h0, h0] at this; exact this
  · rw [val9 hk]; have := xEnc9 m pa ia ca ba pc ic cc bc hk W hH hW hz; rw [encS_ok h0, h0] at this; exact this
  · rw [val10 hk]; have := xEnc10 m pa ia ca ba pc ic cc bc hk W hH hW hz; rw [encS_ok h0, h0] at this; exact this
  · rw [val11 hk]; have := xEnc11 m pa ia ca ba pc ic cc bc hk W hH hW hz; rw [encS_ok h0, h0] at this; exact this
  · rw [val12 hk]; have := xEnc12 m pa ia ca ba pc ic cc bc hk W hH hW hz; rw [encS_ok h0, h0] at this; exact this
  · rw [val13 hk]; have := xEnc13 m pa ia ca ba pc ic cc bc hk W hH hW hz; rw [encS_ok h0, h0] at this; exact this
  · rw [val14 hk]; have := xEnc14 m pa ia ca ba pc ic cc bc hk W hH hW hz; rw [encS_ok h0, h0] at this; exact this
  · rw [val15 hk]; have := xEnc15 m pa ia ca ba pc ic cc bc hk W hH hW hz; rw [encS_ok h0, h0] at this; exact this
end Go.Proofs.YtdmlgheajblcdaaGreat

/- Layer 10: the law Back. -/
namespace Go.Proofs.YtdmlgheajblcdaaGreat
open Go.RowKit
set_option linter.unusedVariables false
set_option linter.unusedSimpArgs false
set_option maxRecDepth 100000
set_option maxHeartbeats 8000000 in
theorem lBackNB (M : Array Value) (hsz : M.size = 36) (s : ByteArray) (hss : s.size ≤ 3000) (V : Value) (S : ByteArray) (g : Nat) (m1 m2 : Mg) (n2 g2 : Nat) (w : World)
    (hsm : ∀ W, Calls Tryz.prog 9 #[.agg M] W (KP (.bool true) W)) (hof : ∀ W, Calls Tryz.prog 11 #[.agg M] W (KP V W))
    (h18 : ∀ W, Below w.heap.size w W → Calls Tryz.prog 18 #[V] W (KP (.tuple #[.string S, .int .i64 g]) W))
    (hg : g ≠ 0)
    (hg2 : g2 ≠ 0) (h20s : ∀ W, Calls Tryz.prog 20 #[.string s] W (DcP n2 g2 W)) : Calls Tryz.prog 7 #[.agg M, .string s] w (KP (.bool true) w) := by
  have HSM : Hid (∀ W, Calls Tryz.prog 9 #[.agg M] W (KP (.bool true) W)) := hsm
  have HOF : Hid (∀ W, Calls Tryz.prog 11 #[.agg M] W (KP V W)) := hof
  have H18 : Hid (∀ W, Below w.heap.size w W → Calls Tryz.prog 18 #[V] W (KP (.tuple #[.string S, .int .i64 g]) W)) := h18
  have hgz : ((g : Int) == 0) = false := by rw [beq_eq_false_iff_ne]; omega
  clear hg
  have H20s : Hid (∀ W, Calls Tryz.prog 20 #[.string s] W (DcP n2 g2 W)) := h20s
  have hg2z : ((g2 : Int) != 0) = true := by rw [bne_iff_ne]; omega
  clear h20s hg2
  have hsi : ¬ (s.size : Int) > 3000 := by omega
  have HX0 : Hid (Bx (w.alloc (.cells M 35)) w.heap.size M 35) := Bx.new _ _ _
  have HB0 : Hid (Below w.heap.size w (w.alloc (.cells M 35))) := below_a w _
  have HLD : Hid (∀ W, Bx W w.heap.size M 35 → (Instr.loadAt 35 (.pointer (some ⟨w.heap.size, 0, none⟩))).run Tryz.prog W = .ok (.agg M) W) := fun W h => hloadAt W w.heap.size M hsz h
  clear hsm hof h18
  go_enter Tryz.func7, Tryz.ntmps7
  go_upto_region 1 with fail
  generalize hw1 : w.alloc (.cells M 35) = w1 at *
  have HX : Hid (Bx w1 w.heap.size M 35) := HX0.out
  have HB : Hid (Below w.heap.size w w1) := HB0.out
  clear HX0 HB0 hw1
  go_wp2_with (guard_target =~ wpList _ _ _ (⟨_, Op.load 35 _, _, _, _, _⟩ :: _) _ _; refine wl_load _ rfl 35 _ rfl _ rfl _ (HLD.out _ HX.out) ?_; go_simp)
  refine (HSM.out _).mono ?_
  rintro e w2 ⟨rfl, hb2⟩
  have HX2 : Hid (Bx w2 w.heap.size M 35) := HX.out.keep hb2.out
  have HB2 : Hid (Below w.heap.size w w2) := bt HB.out hb2.out
  clear hb2 HX HB
  go_wp2_with (guard_target =~ wpList _ _ _ (⟨_, Op.load 35 _, _, _, _, _⟩ :: _) _ _; refine wl_load _ rfl 35 _ rfl _ rfl _ (HLD.out _ HX2.out) ?_; go_simp)
  refine (HOF.out _).mono ?_
  rintro e w3 ⟨rfl, hb3⟩
  have HX3 : Hid (Bx w3 w.heap.size M 35) := HX2.out.keep hb3.out
  have HB3 : Hid (Below w.heap.size w w3) := bt HB2.out hb3.out
  clear hb3 HX2 HB2
  go_wp2_with fail
  refine (H18.out _ HB3.out).mono ?_
  rintro e w4 ⟨rfl, hb4⟩
  have HX4 : Hid (Bx w4 w.heap.size M 35) := HX3.out.keep hb4.out
  have HB4 : Hid (Below w.heap.size w w4) := bt HB3.out hb4.out
  clear hb4 HX3 HB3
  go_wp2_with fail
  refine (H20s.out _).mono ?_
  rintro e w10 ⟨rfl, hb10⟩
  have HB10 : Hid (Below w.heap.size w w10) := bt HB4.out hb10.out
  clear hb10 HB4
  go_wp2_with fail
  refine (awake _).mono ?_
  rintro e w11 ⟨rfl, hb11⟩
  have HB11 : Hid (Below w.heap.size w w11) := bt HB10.out hb11.out
  clear hb11 HB10
  go_wp2_with fail
  go_ret
  exact KP.mk rfl HB11.out
set_option maxHeartbeats 8000000 in
theorem lBackNO (M : Array Value) (hsz : M.size = 36) (s : ByteArray) (hss : s.size ≤ 3000) (V : Value) (S : ByteArray) (g : Nat) (m1 m2 : Mg) (n2 g2 : Nat) (w : World)
    (hsm : ∀ W, Calls Tryz.prog 9 #[.agg M] W (KP (.bool true) W)) (hof : ∀ W, Calls Tryz.prog 11 #[.agg M] W (KP V W))
    (h18 : ∀ W, Below w.heap.size w W → Calls Tryz.prog 18 #[V] W (KP (.tuple #[.string S, .int .i64 g]) W))
    (hg : g ≠ 0)
    (h20s : ∀ W, Calls Tryz.prog 20 #[.string s] W (DcV s.size (fun q W v => MV m2 q W v) W)) (h18s : ∀ W q v, MV m2 q W v → Calls Tryz.prog 18 #[v] W (KP (.tuple #[.string s, .int .i64 0]) W)) (hVn : ∀ W q v, MV m2 q W v → ∃ T u, v = .iface T u) : Calls Tryz.prog 7 #[.agg M, .string s] w (KP (.bool true) w) := by
  have HSM : Hid (∀ W, Calls Tryz.prog 9 #[.agg M] W (KP (.bool true) W)) := hsm
  have HOF : Hid (∀ W, Calls Tryz.prog 11 #[.agg M] W (KP V W)) := hof
  have H18 : Hid (∀ W, Below w.heap.size w W → Calls Tryz.prog 18 #[V] W (KP (.tuple #[.string S, .int .i64 g]) W)) := h18
  have hgz : ((g : Int) == 0) = false := by rw [beq_eq_false_iff_ne]; omega
  clear hg
  have H20s : Hid (∀ W, Calls Tryz.prog 20 #[.string s] W (DcV s.size (fun q W v => MV m2 q W v) W)) := h20s
  have H18s : Hid (∀ W q v, MV m2 q W v → Calls Tryz.prog 18 #[v] W (KP (.tuple #[.string s, .int .i64 0]) W)) := h18s
  have HVn : Hid (∀ W q v, MV m2 q W v → ∃ T u, v = .iface T u) := hVn
  clear h20s h18s hVn
  have hsi : ¬ (s.size : Int) > 3000 := by omega
  have HX0 : Hid (Bx (w.alloc (.cells M 35)) w.heap.size M 35) := Bx.new _ _ _
  have HB0 : Hid (Below w.heap.size w (w.alloc (.cells M 35))) := below_a w _
  have HLD : Hid (∀ W, Bx W w.heap.size M 35 → (Instr.loadAt 35 (.pointer (some ⟨w.heap.size, 0, none⟩))).run Tryz.prog W = .ok (.agg M) W) := fun W h => hloadAt W w.heap.size M hsz h
  clear hsm hof h18
  go_enter Tryz.func7, Tryz.ntmps7
  go_upto_region 1 with fail
  generalize hw1 : w.alloc (.cells M 35) = w1 at *
  have HX : Hid (Bx w1 w.heap.size M 35) := HX0.out
  have HB : Hid (Below w.heap.size w w1) := HB0.out
  clear HX0 HB0 hw1
  go_wp2_with (guard_target =~ wpList _ _ _ (⟨_, Op.load 35 _, _, _, _, _⟩ :: _) _ _; refine wl_load _ rfl 35 _ rfl _ rfl _ (HLD.out _ HX.out) ?_; go_simp)
  refine (HSM.out _).mono ?_
  rintro e w2 ⟨rfl, hb2⟩
  have HX2 : Hid (Bx w2 w.heap.size M 35) := HX.out.keep hb2.out
  have HB2 : Hid (Below w.heap.size w w2) := bt HB.out hb2.out
  clear hb2 HX HB
  go_wp2_with (guard_target =~ wpList _ _ _ (⟨_, Op.load 35 _, _, _, _, _⟩ :: _) _ _; refine wl_load _ rfl 35 _ rfl _ rfl _ (HLD.out _ HX2.out) ?_; go_simp)
  refine (HOF.out _).mono ?_
  rintro e w3 ⟨rfl, hb3⟩
  have HX3 : Hid (Bx w3 w.heap.size M 35) := HX2.out.keep hb3.out
  have HB3 : Hid (Below w.heap.size w w3) := bt HB2.out hb3.out
  clear hb3 HX2 HB2
  go_wp2_with fail
  refine (H18.out _ HB3.out).mono ?_
  rintro e w4 ⟨rfl, hb4⟩
  have HX4 : Hid (Bx w4 w.heap.size M 35) := HX3.out.keep hb4.out
  have HB4 : Hid (Below w.heap.size w w4) := bt HB3.out hb4.out
  clear hb4 HX3 HB3
  go_wp2_with fail
  refine (H20s.out _).mono ?_
  rintro e w10 ⟨v2, q2, rfl, hq2, HM2, hb10⟩
  have HB10 : Hid (Below w.heap.size w w10) := bt HB4.out hb10.out
  have HC2 : Hid (Calls Tryz.prog 18 #[v2] w10 (KP (.tuple #[.string s, .int .i64 0]) w10)) := H18s.out _ q2 v2 HM2.out
  clear hb10 HB4 HM2 hq2
  go_wp2_with fail
  refine HC2.out.mono ?_
  rintro e w11 ⟨rfl, hb11⟩
  have HB11 : Hid (Below w.heap.size w w11) := bt HB10.out hb11.out
  clear hb11 HB10 HC2
  go_wp2_with fail
  refine (awake _).mono ?_
  rintro e w12 ⟨rfl, hb12⟩
  have HB12 : Hid (Below w.heap.size w w12) := bt HB11.out hb12.out
  clear hb12 HB11
  go_wp2_with fail
  go_ret
  exact KP.mk rfl HB12.out
set_option maxHeartbeats 8000000 in
theorem lBackEB (M : Array Value) (hsz : M.size = 36) (s : ByteArray) (hss : s.size ≤ 3000) (V : Value) (S : ByteArray) (m1 m2 : Mg) (n2 g2 : Nat) (w : World)
    (hsm : ∀ W, Calls Tryz.prog 9 #[.agg M] W (KP (.bool true) W)) (hof : ∀ W, Calls Tryz.prog 11 #[.agg M] W (KP V W))
    (h18 : ∀ W, Below w.heap.size w W → Calls Tryz.prog 18 #[V] W (KP (.tuple #[.string S, .int .i64 0]) W))
    (hSz : S.size ≤ 1000000) (h20 : ∀ W, Calls Tryz.prog 20 #[.string S] W (DcV S.size (fun q W v => MV m1 q W v) W))
    (h23 : ∀ W q v, MV m1 q W v → Calls Tryz.prog 23 #[v] W (PGP m1 W)) (h24 : ∀ W, Below w.heap.size w W → Calls Tryz.prog 24 #[.agg M] W (PGP m1 W))
    (h22 : ∀ W A B, PG m1 A W → PG m1 B W → Calls Tryz.prog 22 #[.agg A, .agg B] W (KP (.bool true) W))
    (hg2 : g2 ≠ 0) (h20s : ∀ W, Calls Tryz.prog 20 #[.string s] W (DcP n2 g2 W)) : Calls Tryz.prog 7 #[.agg M, .string s] w (KP (.bool true) w) := by
  have HSM : Hid (∀ W, Calls Tryz.prog 9 #[.agg M] W (KP (.bool true) W)) := hsm
  have HOF : Hid (∀ W, Calls Tryz.prog 11 #[.agg M] W (KP V W)) := hof
  have H18 : Hid (∀ W, Below w.heap.size w W → Calls Tryz.prog 18 #[V] W (KP (.tuple #[.string S, .int .i64 0]) W)) := h18
  have H20 : Hid (∀ W, Calls Tryz.prog 20 #[.string S] W (DcV S.size (fun q W v => MV m1 q W v) W)) := h20
  have H23 : Hid (∀ W q v, MV m1 q W v → Calls Tryz.prog 23 #[v] W (PGP m1 W)) := h23
  have H24 : Hid (∀ W, Below w.heap.size w W → Calls Tryz.prog 24 #[.agg M] W (PGP m1 W)) := h24
  have H22 : Hid (∀ W A B, PG m1 A W → PG m1 B W → Calls Tryz.prog 22 #[.agg A, .agg B] W (KP (.bool true) W)) := h22
  have hSi : (S.size : Int) ≤ 1000000 := by omega
  clear h20 h23 h24 h22
  have H20s : Hid (∀ W, Calls Tryz.prog 20 #[.string s] W (DcP n2 g2 W)) := h20s
  have hg2z : ((g2 : Int) != 0) = true := by rw [bne_iff_ne]; omega
  clear h20s hg2
  have hsi : ¬ (s.size : Int) > 3000 := by omega
  have HX0 : Hid (Bx (w.alloc (.cells M 35)) w.heap.size M 35) := Bx.new _ _ _
  have HB0 : Hid (Below w.heap.size w (w.alloc (.cells M 35))) := below_a w _
  have HLD : Hid (∀ W, Bx W w.heap.size M 35 → (Instr.loadAt 35 (.pointer (some ⟨w.heap.size, 0, none⟩))).run Tryz.prog W = .ok (.agg M) W) := fun W h => hloadAt W w.heap.size M hsz h
  clear hsm hof h18
  go_enter Tryz.func7, Tryz.ntmps7
  go_upto_region 1 with fail
  generalize hw1 : w.alloc (.cells M 35) = w1 at *
  have HX : Hid (Bx w1 w.heap.size M 35) := HX0.out
  have HB : Hid (Below w.heap.size w w1) := HB0.out
  clear HX0 HB0 hw1
  go_wp2_with (guard_target =~ wpList _ _ _ (⟨_, Op.load 35 _, _, _, _, _⟩ :: _) _ _; refine wl_load _ rfl 35 _ rfl _ rfl _ (HLD.out _ HX.out) ?_; go_simp)
  refine (HSM.out _).mono ?_
  rintro e w2 ⟨rfl, hb2⟩
  have HX2 : Hid (Bx w2 w.heap.size M 35) := HX.out.keep hb2.out
  have HB2 : Hid (Below w.heap.size w w2) := bt HB.out hb2.out
  clear hb2 HX HB
  go_wp2_with (guard_target =~ wpList _ _ _ (⟨_, Op.load 35 _, _, _, _, _⟩ :: _) _ _; refine wl_load _ rfl 35 _ rfl _ rfl _ (HLD.out _ HX2.out) ?_; go_simp)
  refine (HOF.out _).mono ?_
  rintro e w3 ⟨rfl, hb3⟩
  have HX3 : Hid (Bx w3 w.heap.size M 35) := HX2.out.keep hb3.out
  have HB3 : Hid (Below w.heap.size w w3) := bt HB2.out hb3.out
  clear hb3 HX2 HB2
  go_wp2_with fail
  refine (H18.out _ HB3.out).mono ?_
  rintro e w4 ⟨rfl, hb4⟩
  have HX4 : Hid (Bx w4 w.heap.size M 35) := HX3.out.keep hb4.out
  have HB4 : Hid (Below w.heap.size w w4) := bt HB3.out hb4.out
  clear hb4 HX3 HB3
  go_wp2_with fail
  refine (H20.out _).mono ?_
  rintro e w5 ⟨v, q, rfl, hq, HMv, hb5⟩
  have HX5 : Hid (Bx w5 w.heap.size M 35) := HX4.out.keep hb5.out
  have HB5 : Hid (Below w.heap.size w w5) := bt HB4.out hb5.out
  clear hb5 HX4 HB4 H20
  go_wp2_with fail
  refine wp_region_held (S := fun W => Bx W w.heap.size M 35 ∧ Below w.heap.size w W) (by kernel_rfl) ?_
  change wpAnyH _ _ _ _ _ 16 #[false, false, false, false, false, false, false, false, false, false, false, false, false, false, false, false] _ w5.drew
  have hS : Bx w5.drew w.heap.size M 35 ∧ Below w.heap.size w w5.drew := ⟨HX5.out, bdrw HB5.out 1⟩
  have hM : MV m1 q w5.drew v := HMv.out.dr 1
  clear HX5 HB5 HMv
  obtain ⟨v0, hv0⟩ : ∃ v, v = w5.drew := ⟨_, rfl⟩
  rw [← hv0] at hS hM ⊢
  clear hv0
  refine takeR (fuel := 15) (i := 0) (v := .int .i64 0) rfl (by kernel_rfl) (by kernel_rfl) (by kernel_rfl) (fun _ _ _ h => h) (Or.inl ⟨rfl, fun _ _ => rfl⟩) hS ?_
  simp only [Act.put, List.setIfInBounds_toArray, List.set_cons_zero, List.set_cons_succ]
  refine takeR (fuel := 14) (i := 1) (v := .bool false) rfl (by kernel_rfl) (by kernel_rfl) (by kernel_rfl) (fun _ _ _ h => h) (Or.inl ⟨rfl, fun W hW => by go_simp⟩) hS ?_
  simp only [Act.put, List.setIfInBounds_toArray, List.set_cons_zero, List.set_cons_succ]
  refine takeR (fuel := 13) (i := 2) (v := .bool false) rfl (by kernel_rfl) (by kernel_rfl) (by kernel_rfl) (fun _ _ _ h => h) (Or.inl ⟨rfl, fun _ _ => rfl⟩) hS ?_
  simp only [Act.put, List.setIfInBounds_toArray, List.set_cons_zero, List.set_cons_succ]
  refine takeR (fuel := 12) (i := 3) (v := .int .i64 (S.size : Int)) rfl (by kernel_rfl) (by kernel_rfl) (by kernel_rfl) (fun _ _ _ h => h) (Or.inl ⟨rfl, fun _ _ => rfl⟩) hS ?_
  simp only [Act.put, List.setIfInBounds_toArray, List.set_cons_zero, List.set_cons_succ]
  refine takeR (fuel := 11) (i := 4) (v := .string S) rfl (by kernel_rfl) (by kernel_rfl) (by kernel_rfl) (fun _ _ _ h => h) (Or.inl ⟨rfl, fun _ _ => rfl⟩) hS ?_
  simp only [Act.put, List.setIfInBounds_toArray, List.set_cons_zero, List.set_cons_succ]
  refine takeR (fuel := 10) (i := 5) (v := .int .i64 (S.size : Int)) rfl (by kernel_rfl) (by kernel_rfl) (by kernel_rfl) (fun _ _ _ h => h) (Or.inl ⟨rfl, fun W hW => by go_simp⟩) hS ?_
  simp only [Act.put, List.setIfInBounds_toArray, List.set_cons_zero, List.set_cons_succ]
  refine takeR (fuel := 9) (i := 6) (v := .bool false) rfl (by kernel_rfl) (by kernel_rfl) (by kernel_rfl) (fun _ _ _ h => h) (Or.inl ⟨rfl, fun W hW => by go_simp⟩) hS ?_
  simp only [Act.put, List.setIfInBounds_toArray, List.set_cons_zero, List.set_cons_succ]
  refine takeR (fuel := 8) (i := 7) (v := .bool false) rfl (by kernel_rfl) (by kernel_rfl) (by kernel_rfl) (fun _ _ _ h => h) (Or.inl ⟨rfl, fun _ _ => rfl⟩) hS ?_
  simp only [Act.put, List.setIfInBounds_toArray, List.set_cons_zero, List.set_cons_succ]
  refine takeR (fuel := 7) (i := 8) (v := .bool false) rfl (by kernel_rfl) (by kernel_rfl) (by kernel_rfl) (fun _ _ _ h => h) (Or.inl ⟨rfl, fun _ _ => rfl⟩) hS ?_
  simp only [Act.put, List.setIfInBounds_toArray, List.set_cons_zero, List.set_cons_succ]
  refine takeR (fuel := 6) (i := 9) (v := v) rfl (by kernel_rfl) (by kernel_rfl) (by kernel_rfl) (fun _ _ _ h => h) (Or.inl ⟨rfl, fun _ _ => rfl⟩) hS ?_
  simp only [Act.put, List.setIfInBounds_toArray, List.set_cons_zero, List.set_cons_succ]
  refine takeR (fuel := 5) (i := 11) (v := .agg M) rfl (by kernel_rfl) (by kernel_rfl) (by kernel_rfl) (fun _ _ _ h => h) (Or.inl ⟨rfl, fun W hW => exl _ _ _ _ rfl _ _ rfl (HLD.out W hW.1)⟩) hS ?_
  simp only [Act.put, List.setIfInBounds_toArray, List.set_cons_zero, List.set_cons_succ]
  refine consR (fuel := 4) (i := 10) rfl (by kernel_rfl) (fun K hK => ?_)
  rw [if_pos (by rfl)]
  go_simp
  refine (H23.out _ q v hM).mono ?_
  rintro e w6 ⟨A1, rfl, HA1, HP1, hb6⟩
  refine hK.out _ _ ⟨hS.1.keep hb6.out, bt hS.2 hb6.out⟩ (fun hS6 => ?_)
  clear hK
  try simp only [Act.put, List.setIfInBounds_toArray, List.set_cons_zero, List.set_cons_succ]
  refine consR (fuel := 3) (i := 12) rfl (by kernel_rfl) (fun K hK => ?_)
  rw [if_pos (by rfl)]
  go_simp
  refine (H24.out _ hS6.2).mono ?_
  rintro e w7 ⟨A2, rfl, HA2, HP2, hb7⟩
  refine hK.out _ _ ⟨hS6.1.keep hb7.out, bt hS6.2 hb7.out⟩ (fun hS7 => ?_)
  clear hK
  try simp only [Act.put, List.setIfInBounds_toArray, List.set_cons_zero, List.set_cons_succ]
  have hP1 := HP1.out.keep hb7.out
  refine consR (fuel := 2) (i := 13) rfl (by kernel_rfl) (fun K hK => ?_)
  rw [if_pos (by rfl)]
  go_simp
  refine (H22.out _ A1 A2 hP1 HP2.out).mono ?_
  rintro e w8 ⟨rfl, hb8⟩
  refine hK.out _ _ ⟨hS7.1.keep hb8.out, bt hS7.2 hb8.out⟩ (fun hS8 => ?_)
  clear hK
  try simp only [Act.put, List.setIfInBounds_toArray, List.set_cons_zero, List.set_cons_succ]
  refine takeR (fuel := 1) (i := 14) (v := .bool false) rfl (by kernel_rfl) (by kernel_rfl) (by kernel_rfl) (fun _ _ _ h => h) (Or.inl ⟨rfl, fun W hW => by go_simp⟩) hS8 ?_
  simp only [Act.put, List.setIfInBounds_toArray, List.set_cons_zero, List.set_cons_succ]
  refine takeR (fuel := 0) (i := 15) (v := .bool false) rfl (by kernel_rfl) (by kernel_rfl) (by kernel_rfl) (fun _ _ _ h => h) (Or.inl ⟨rfl, fun _ _ => rfl⟩) hS8 ?_
  simp only [Act.put, List.setIfInBounds_toArray, List.set_cons_zero, List.set_cons_succ]
  refine wpAnyH_done (by kernel_rfl) ?_ _
  have HB8 : Hid (Below w.heap.size w w8) := hS8.2
  clear hS hS6 hS7 hS8 hM hP1 HP1 HP2 HA1 HA2 hb6 hb7 hb8 H22 H23 H24
  go_wp2_with fail
  refine (H20s.out _).mono ?_
  rintro e w10 ⟨rfl, hb10⟩
  have HB10 : Hid (Below w.heap.size w w10) := bt HB8.out hb10.out
  clear hb10 HB8
  go_wp2_with fail
  refine (awake _).mono ?_
  rintro e w11 ⟨rfl, hb11⟩
  have HB11 : Hid (Below w.heap.size w w11) := bt HB10.out hb11.out
  clear hb11 HB10
  go_wp2_with fail
  go_ret
  exact KP.mk rfl HB11.out
set_option maxHeartbeats 8000000 in
theorem lBackEO (M : Array Value) (hsz : M.size = 36) (s : ByteArray) (hss : s.size ≤ 3000) (V : Value) (S : ByteArray) (m1 m2 : Mg) (n2 g2 : Nat) (w : World)
    (hsm : ∀ W, Calls Tryz.prog 9 #[.agg M] W (KP (.bool true) W)) (hof : ∀ W, Calls Tryz.prog 11 #[.agg M] W (KP V W))
    (h18 : ∀ W, Below w.heap.size w W → Calls Tryz.prog 18 #[V] W (KP (.tuple #[.string S, .int .i64 0]) W))
    (hSz : S.size ≤ 1000000) (h20 : ∀ W, Calls Tryz.prog 20 #[.string S] W (DcV S.size (fun q W v => MV m1 q W v) W))
    (h23 : ∀ W q v, MV m1 q W v → Calls Tryz.prog 23 #[v] W (PGP m1 W)) (h24 : ∀ W, Below w.heap.size w W → Calls Tryz.prog 24 #[.agg M] W (PGP m1 W))
    (h22 : ∀ W A B, PG m1 A W → PG m1 B W → Calls Tryz.prog 22 #[.agg A, .agg B] W (KP (.bool true) W))
    (h20s : ∀ W, Calls Tryz.prog 20 #[.string s] W (DcV s.size (fun q W v => MV m2 q W v) W)) (h18s : ∀ W q v, MV m2 q W v → Calls Tryz.prog 18 #[v] W (KP (.tuple #[.string s, .int .i64 0]) W)) (hVn : ∀ W q v, MV m2 q W v → ∃ T u, v = .iface T u) : Calls Tryz.prog 7 #[.agg M, .string s] w (KP (.bool true) w) := by
  have HSM : Hid (∀ W, Calls Tryz.prog 9 #[.agg M] W (KP (.bool true) W)) := hsm
  have HOF : Hid (∀ W, Calls Tryz.prog 11 #[.agg M] W (KP V W)) := hof
  have H18 : Hid (∀ W, Below w.heap.size w W → Calls Tryz.prog 18 #[V] W (KP (.tuple #[.string S, .int .i64 0]) W)) := h18
  have H20 : Hid (∀ W, Calls Tryz.prog 20 #[.string S] W (DcV S.size (fun q W v => MV m1 q W v) W)) := h20
  have H23 : Hid (∀ W q v, MV m1 q W v → Calls Tryz.prog 23 #[v] W (PGP m1 W)) := h23
  have H24 : Hid (∀ W, Below w.heap.size w W → Calls Tryz.prog 24 #[.agg M] W (PGP m1 W)) := h24
  have H22 : Hid (∀ W A B, PG m1 A W → PG m1 B W → Calls Tryz.prog 22 #[.agg A, .agg B] W (KP (.bool true) W)) := h22
  have hSi : (S.size : Int) ≤ 1000000 := by omega
  clear h20 h23 h24 h22
  have H20s : Hid (∀ W, Calls Tryz.prog 20 #[.string s] W (DcV s.size (fun q W v => MV m2 q W v) W)) := h20s
  have H18s : Hid (∀ W q v, MV m2 q W v → Calls Tryz.prog 18 #[v] W (KP (.tuple #[.string s, .int .i64 0]) W)) := h18s
  have HVn : Hid (∀ W q v, MV m2 q W v → ∃ T u, v = .iface T u) := hVn
  clear h20s h18s hVn
  have hsi : ¬ (s.size : Int) > 3000 := by omega
  have HX0 : Hid (Bx (w.alloc (.cells M 35)) w.heap.size M 35) := Bx.new _ _ _
  have HB0 : Hid (Below w.heap.size w (w.alloc (.cells M 35))) := below_a w _
  have HLD : Hid (∀ W, Bx W w.heap.size M 35 → (Instr.loadAt 35 (.pointer (some ⟨w.heap.size, 0, none⟩))).run Tryz.prog W = .ok (.agg M) W) := fun W h => hloadAt W w.heap.size M hsz h
  clear hsm hof h18
  go_enter Tryz.func7, Tryz.ntmps7
  go_upto_region 1 with fail
  generalize hw1 : w.alloc (.cells M 35) = w1 at *
  have HX : Hid (Bx w1 w.heap.size M 35) := HX0.out
  have HB : Hid (Below w.heap.size w w1) := HB0.out
  clear HX0 HB0 hw1
  go_wp2_with (guard_target =~ wpList _ _ _ (⟨_, Op.load 35 _, _, _, _, _⟩ :: _) _ _; refine wl_load _ rfl 35 _ rfl _ rfl _ (HLD.out _ HX.out) ?_; go_simp)
  refine (HSM.out _).mono ?_
  rintro e w2 ⟨rfl, hb2⟩
  have HX2 : Hid (Bx w2 w.heap.size M 35) := HX.out.keep hb2.out
  have HB2 : Hid (Below w.heap.size w w2) := bt HB.out hb2.out
  clear hb2 HX HB
  go_wp2_with (guard_target =~ wpList _ _ _ (⟨_, Op.load 35 _, _, _, _, _⟩ :: _) _ _; refine wl_load _ rfl 35 _ rfl _ rfl _ (HLD.out _ HX2.out) ?_; go_simp)
  refine (HOF.out _).mono ?_
  rintro e w3 ⟨rfl, hb3⟩
  have HX3 : Hid (Bx w3 w.heap.size M 35) := HX2.out.keep hb3.out
  have HB3 : Hid (Below w.heap.size w w3) := bt HB2.out hb3.out
  clear hb3 HX2 HB2
  go_wp2_with fail
  refine (H18.out _ HB3.out).mono ?_
  rintro e w4 ⟨rfl, hb4⟩
  have HX4 : Hid (Bx w4 w.heap.size M 35) := HX3.out.keep hb4.out
  have HB4 : Hid (Below w.heap.size w w4) := bt HB3.out hb4.out
  clear hb4 HX3 HB3
  go_wp2_with fail
  refine (H20.out _).mono ?_
  rintro e w5 ⟨v, q, rfl, hq, HMv, hb5⟩
  have HX5 : Hid (Bx w5 w.heap.size M 35) := HX4.out.keep hb5.out
  have HB5 : Hid (Below w.heap.size w w5) := bt HB4.out hb5.out
  clear hb5 HX4 HB4 H20
  go_wp2_with fail
  refine wp_region_held (S := fun W => Bx W w.heap.size M 35 ∧ Below w.heap.size w W) (by kernel_rfl) ?_
  change wpAnyH _ _ _ _ _ 16 #[false, false, false, false, false, false, false, false, false, false, false, false, false, false, false, false] _ w5.drew
  have hS : Bx w5.drew w.heap.size M 35 ∧ Below w.heap.size w w5.drew := ⟨HX5.out, bdrw HB5.out 1⟩
  have hM : MV m1 q w5.drew v := HMv.out.dr 1
  clear HX5 HB5 HMv
  obtain ⟨v0, hv0⟩ : ∃ v, v = w5.drew := ⟨_, rfl⟩
  rw [← hv0] at hS hM ⊢
  clear hv0
  refine takeR (fuel := 15) (i := 0) (v := .int .i64 0) rfl (by kernel_rfl) (by kernel_rfl) (by kernel_rfl) (fun _ _ _ h => h) (Or.inl ⟨rfl, fun _ _ => rfl⟩) hS ?_
  simp only [Act.put, List.setIfInBounds_toArray, List.set_cons_zero, List.set_cons_succ]
  refine takeR (fuel := 14) (i := 1) (v := .bool false) rfl (by kernel_rfl) (by kernel_rfl) (by kernel_rfl) (fun _ _ _ h => h) (Or.inl ⟨rfl, fun W hW => by go_simp⟩) hS ?_
  simp only [Act.put, List.setIfInBounds_toArray, List.set_cons_zero, List.set_cons_succ]
  refine takeR (fuel := 13) (i := 2) (v := .bool false) rfl (by kernel_rfl) (by kernel_rfl) (by kernel_rfl) (fun _ _ _ h => h) (Or.inl ⟨rfl, fun _ _ => rfl⟩) hS ?_
  simp only [Act.put, List.setIfInBounds_toArray, List.set_cons_zero, List.set_cons_succ]
  refine takeR (fuel := 12) (i := 3) (v := .int .i64 (S.size : Int)) rfl (by kernel_rfl) (by kernel_rfl) (by kernel_rfl) (fun _ _ _ h => h) (Or.inl ⟨rfl, fun _ _ => rfl⟩) hS ?_
  simp only [Act.put, List.setIfInBounds_toArray, List.set_cons_zero, List.set_cons_succ]
  refine takeR (fuel := 11) (i := 4) (v := .string S) rfl (by kernel_rfl) (by kernel_rfl) (by kernel_rfl) (fun _ _ _ h => h) (Or.inl ⟨rfl, fun _ _ => rfl⟩) hS ?_
  simp only [Act.put, List.setIfInBounds_toArray, List.set_cons_zero, List.set_cons_succ]
  refine takeR (fuel := 10) (i := 5) (v := .int .i64 (S.size : Int)) rfl (by kernel_rfl) (by kernel_rfl) (by kernel_rfl) (fun _ _ _ h => h) (Or.inl ⟨rfl, fun W hW => by go_simp⟩) hS ?_
  simp only [Act.put, List.setIfInBounds_toArray, List.set_cons_zero, List.set_cons_succ]
  refine takeR (fuel := 9) (i := 6) (v := .bool false) rfl (by kernel_rfl) (by kernel_rfl) (by kernel_rfl) (fun _ _ _ h => h) (Or.inl ⟨rfl, fun W hW => by go_simp⟩) hS ?_
  simp only [Act.put, List.setIfInBounds_toArray, List.set_cons_zero, List.set_cons_succ]
  refine takeR (fuel := 8) (i := 7) (v := .bool false) rfl (by kernel_rfl) (by kernel_rfl) (by kernel_rfl) (fun _ _ _ h => h) (Or.inl ⟨rfl, fun _ _ => rfl⟩) hS ?_
  simp only [Act.put, List.setIfInBounds_toArray, List.set_cons_zero, List.set_cons_succ]
  refine takeR (fuel := 7) (i := 8) (v := .bool false) rfl (by kernel_rfl) (by kernel_rfl) (by kernel_rfl) (fun _ _ _ h => h) (Or.inl ⟨rfl, fun _ _ => rfl⟩) hS ?_
  simp only [Act.put, List.setIfInBounds_toArray, List.set_cons_zero, List.set_cons_succ]
  refine takeR (fuel := 6) (i := 9) (v := v) rfl (by kernel_rfl) (by kernel_rfl) (by kernel_rfl) (fun _ _ _ h => h) (Or.inl ⟨rfl, fun _ _ => rfl⟩) hS ?_
  simp only [Act.put, List.setIfInBounds_toArray, List.set_cons_zero, List.set_cons_succ]
  refine takeR (fuel := 5) (i := 11) (v := .agg M) rfl (by kernel_rfl) (by kernel_rfl) (by kernel_rfl) (fun _ _ _ h => h) (Or.inl ⟨rfl, fun W hW => exl _ _ _ _ rfl _ _ rfl (HLD.out W hW.1)⟩) hS ?_
  simp only [Act.put, List.setIfInBounds_toArray, List.set_cons_zero, List.set_cons_succ]
  refine consR (fuel := 4) (i := 10) rfl (by kernel_rfl) (fun K hK => ?_)
  rw [if_pos (by rfl)]
  go_simp
  refine (H23.out _ q v hM).mono ?_
  rintro e w6 ⟨A1, rfl, HA1, HP1, hb6⟩
  refine hK.out _ _ ⟨hS.1.keep hb6.out, bt hS.2 hb6.out⟩ (fun hS6 => ?_)
  clear hK
  try simp only [Act.put, List.setIfInBounds_toArray, List.set_cons_zero, List.set_cons_succ]
  refine consR (fuel := 3) (i := 12) rfl (by kernel_rfl) (fun K hK => ?_)
  rw [if_pos (by rfl)]
  go_simp
  refine (H24.out _ hS6.2).mono ?_
  rintro e w7 ⟨A2, rfl, HA2, HP2, hb7⟩
  refine hK.out _ _ ⟨hS6.1.keep hb7.out, bt hS6.2 hb7.out⟩ (fun hS7 => ?_)
  clear hK
  try simp only [Act.put, List.setIfInBounds_toArray, List.set_cons_zero, List.set_cons_succ]
  have hP1 := HP1.out.keep hb7.out
  refine consR (fuel := 2) (i := 13) rfl (by kernel_rfl) (fun K hK => ?_)
  rw [if_pos (by rfl)]
  go_simp
  refine (H22.out _ A1 A2 hP1 HP2.out).mono ?_
  rintro e w8 ⟨rfl, hb8⟩
  refine hK.out _ _ ⟨hS7.1.keep hb8.out, bt hS7.2 hb8.out⟩ (fun hS8 => ?_)
  clear hK
  try simp only [Act.put, List.setIfInBounds_toArray, List.set_cons_zero, List.set_cons_succ]
  refine takeR (fuel := 1) (i := 14) (v := .bool false) rfl (by kernel_rfl) (by kernel_rfl) (by kernel_rfl) (fun _ _ _ h => h) (Or.inl ⟨rfl, fun W hW => by go_simp⟩) hS8 ?_
  simp only [Act.put, List.setIfInBounds_toArray, List.set_cons_zero, List.set_cons_succ]
  refine takeR (fuel := 0) (i := 15) (v := .bool false) rfl (by kernel_rfl) (by kernel_rfl) (by kernel_rfl) (fun _ _ _ h => h) (Or.inl ⟨rfl, fun _ _ => rfl⟩) hS8 ?_
  simp only [Act.put, List.setIfInBounds_toArray, List.set_cons_zero, List.set_cons_succ]
  refine wpAnyH_done (by kernel_rfl) ?_ _
  have HB8 : Hid (Below w.heap.size w w8) := hS8.2
  clear hS hS6 hS7 hS8 hM hP1 HP1 HP2 HA1 HA2 hb6 hb7 hb8 H22 H23 H24
  go_wp2_with fail
  refine (H20s.out _).mono ?_
  rintro e w10 ⟨v2, q2, rfl, hq2, HM2, hb10⟩
  have HB10 : Hid (Below w.heap.size w w10) := bt HB8.out hb10.out
  have HC2 : Hid (Calls Tryz.prog 18 #[v2] w10 (KP (.tuple #[.string s, .int .i64 0]) w10)) := H18s.out _ q2 v2 HM2.out
  clear hb10 HB8 HM2 hq2
  go_wp2_with fail
  refine HC2.out.mono ?_
  rintro e w11 ⟨rfl, hb11⟩
  have HB11 : Hid (Below w.heap.size w w11) := bt HB10.out hb11.out
  clear hb11 HB10 HC2
  go_wp2_with fail
  refine (awake _).mono ?_
  rintro e w12 ⟨rfl, hb12⟩
  have HB12 : Hid (Below w.heap.size w w12) := bt HB11.out hb12.out
  clear hb12 HB11
  go_wp2_with fail
  go_ret
  exact KP.mk rfl HB12.out
set_option maxHeartbeats 4000000 in
theorem lBackBig1 (M : Array Value) (hsz : M.size = 36) (s : ByteArray) (w : World) (hsm : ∀ W, Calls Tryz.prog 9 #[.agg M] W (KP (.bool false) W)) : Calls Tryz.prog 7 #[.agg M, .string s] w (KP (.bool true) w) := by
  have HSM : Hid (∀ W, Calls Tryz.prog 9 #[.agg M] W (KP (.bool false) W)) := hsm
  have HX0 : Hid (Bx (w.alloc (.cells M 35)) w.heap.size M 35) := Bx.new _ _ _
  have HB0 : Hid (Below w.heap.size w (w.alloc (.cells M 35))) := below_a w _
  have HLD : Hid (∀ W, Bx W w.heap.size M 35 → (Instr.loadAt 35 (.pointer (some ⟨w.heap.size, 0, none⟩))).run Tryz.prog W = .ok (.agg M) W) := fun W h => hloadAt W w.heap.size M hsz h
  clear hsm
  go_enter Tryz.func7, Tryz.ntmps7
  go_upto_region 1 with fail
  generalize hw1 : w.alloc (.cells M 35) = w1 at *
  have HX : Hid (Bx w1 w.heap.size M 35) := HX0.out
  have HB : Hid (Below w.heap.size w w1) := HB0.out
  clear HX0 HB0 hw1
  go_wp2_with (guard_target =~ wpList _ _ _ (⟨_, Op.load 35 _, _, _, _, _⟩ :: _) _ _; refine wl_load _ rfl 35 _ rfl _ rfl _ (HLD.out _ HX.out) ?_; go_simp)
  refine (HSM.out _).mono ?_
  rintro e w2 ⟨rfl, hb2⟩
  have HB2 : Hid (Below w.heap.size w w2) := bt HB.out hb2.out
  clear hb2 HX HB HSM
  go_wp2_with fail
  refine (awake _).mono ?_
  rintro e w3 ⟨rfl, hb3⟩
  have HB3 : Hid (Below w.heap.size w w3) := bt HB2.out hb3.out
  clear hb3 HB2
  go_wp2_with fail
  go_ret
  exact KP.mk rfl HB3.out
set_option maxHeartbeats 4000000 in
theorem lBackBig2 (M : Array Value) (hsz : M.size = 36) (s : ByteArray) (hbig : 3000 < s.size) (hsx : s.size ≤ 9223372036854775807) (w : World) (hsm : ∀ W, Calls Tryz.prog 9 #[.agg M] W (KP (.bool true) W)) : Calls Tryz.prog 7 #[.agg M, .string s] w (KP (.bool true) w) := by
  have HSM : Hid (∀ W, Calls Tryz.prog 9 #[.agg M] W (KP (.bool true) W)) := hsm
  have hsi : (s.size : Int) > 3000 := by omega
  have hsx2 : (s.size : Int) ≤ 9223372036854775807 := by omega
  have HX0 : Hid (Bx (w.alloc (.cells M 35)) w.heap.size M 35) := Bx.new _ _ _
  have HB0 : Hid (Below w.heap.size w (w.alloc (.cells M 35))) := below_a w _
  have HLD : Hid (∀ W, Bx W w.heap.size M 35 → (Instr.loadAt 35 (.pointer (some ⟨w.heap.size, 0, none⟩))).run Tryz.prog W = .ok (.agg M) W) := fun W h => hloadAt W w.heap.size M hsz h
  clear hsm
  go_enter Tryz.func7, Tryz.ntmps7
  go_upto_region 1 with fail
  generalize hw1 : w.alloc (.cells M 35) = w1 at *
  have HX : Hid (Bx w1 w.heap.size M 35) := HX0.out
  have HB : Hid (Below w.heap.size w w1) := HB0.out
  clear HX0 HB0 hw1
  go_wp2_with (guard_target =~ wpList _ _ _ (⟨_, Op.load 35 _, _, _, _, _⟩ :: _) _ _; refine wl_load _ rfl 35 _ rfl _ rfl _ (HLD.out _ HX.out) ?_; go_simp)
  refine (HSM.out _).mono ?_
  rintro e w2 ⟨rfl, hb2⟩
  have HB2 : Hid (Below w.heap.size w w2) := bt HB.out hb2.out
  clear hb2 HX HB HSM
  go_wp2_with fail
  refine (awake _).mono ?_
  rintro e w3 ⟨rfl, hb3⟩
  have HB3 : Hid (Below w.heap.size w w3) := bt HB2.out hb3.out
  clear hb3 HB2
  go_wp2_with fail
  go_ret
  exact KP.mk rfl HB3.out
end Go.Proofs.YtdmlgheajblcdaaGreat

/- Layer 10: the law Back, whole. -/
namespace Go.Proofs.YtdmlgheajblcdaaGreat
open Go.RowKit
set_option linter.unusedVariables false
set_option linter.unusedSimpArgs false
set_option maxRecDepth 100000
theorem lBack (m : Mg) (pa ia ca ba : Option Addr) (pc ic cc bc : Nat) (s : ByteArray) (hs : s.size ≤ 9223372036854775807) (w : World) (hH : Hld w.heap.size w m pa ia ca ba) (hW : m.Wf) (hZ : Szd m) : Calls Tryz.prog 7 #[.agg (mcs m pa ia ca ba pc ic cc bc), .string s] w (KP (.bool true) w) := by
  have h1 : m.name.length ≤ 9223372036854775807 := by have := hZ.name; omega
  have h2 : m.t.length ≤ 9223372036854775807 := by have := hZ.t; omega
  by_cases hS : smB m = true
  · have hsm : ∀ W, Calls Tryz.prog 9 #[.agg (mcs m pa ia ca ba pc ic cc bc)] W (KP (.bool true) W) := fun W => by have := rSmall m pa ia ca ba pc ic cc bc W h1 h2; rw [hS] at this; exact this
    by_cases h3 : s.size ≤ 3000
    · -- what s says
      obtain ⟨m2, n2, g2, hd⟩ : ∃ a b c, decN C0 s.data.toList = (a, b, c) := ⟨_, _, _, rfl⟩
      -- what m is as the program's
      obtain ⟨V, hof, h18⟩ : ∃ V, (∀ W, Calls Tryz.prog 11 #[.agg (mcs m pa ia ca ba pc ic cc bc)] W (KP V W)) ∧ (∀ W, Below w.heap.size w W → Calls Tryz.prog 18 #[V] W (KP (.tuple #[.string ⟨(encS m).toArray⟩, .int .i64 ((chkM C0 m : Nat) : Int)]) W)) := by
        rcases kinds m.k with h0 | hk | hk | hk | hk | hk | hk | hk | hk | hk | hk | hk | hk | hk | hk | hk
        · have hb : ¬ chkM C0 m = 0 := by rw [chk_none h0]; decide
          refine ⟨.nilIface, fun W => of0 m pa ia ca ba pc ic cc bc W h0, fun W _ => ?_⟩
          rw [encS_bad hb, chk_none h0]
          exact xEnc0 W
        · exact ⟨_, fun W => of1 m pa ia ca ba pc ic cc bc W hk, fun W hb => xEnc1 m pa ia ca ba pc ic cc bc hk W (hH.on hb) hW hZ⟩
        · exact ⟨_, fun W => of2 m pa ia ca ba pc ic cc bc W hk, fun W hb => xEnc2 m pa ia ca ba pc ic cc bc hk W (hH.on hb) hW hZ⟩
        · exact ⟨_, fun W => of3 m pa ia ca ba pc ic cc bc W hk, fun W hb => xEnc3 m pa ia ca ba pc ic cc bc hk W (hH.on hb) hW hZ⟩
        · exact ⟨_, fun W => of4 m pa ia ca ba pc ic cc bc W hk, fun W hb => xEnc4 m pa ia ca ba pc ic cc bc hk W (hH.on hb) hW hZ⟩
        · exact ⟨_, fun W => of5 m pa ia ca ba pc ic cc bc W hk, fun W hb => xEnc5 m pa ia ca ba pc ic cc bc hk W (hH.on hb) hW hZ⟩
        · exact ⟨_, fun W => of6 m pa ia ca ba pc ic cc bc W hk, fun W hb => xEnc6 m pa ia ca ba pc ic cc bc hk W (hH.on hb) hW hZ⟩
        · exact ⟨_, fun W => of7 m pa ia ca ba pc ic cc bc W hk, fun W hb => xEnc7 m pa ia ca ba pc ic cc bc hk W (hH.on hb) hW hZ⟩
        · exact ⟨_, fun W => of8 m pa ia ca ba pc ic cc bc W hk, fun W hb => xEnc8 m pa ia ca ba pc ic cc bc hk W (hH.on hb) hW hZ⟩
        · exact ⟨_, fun W => of9 m pa ia ca ba pc ic cc bc W hk, fun W hb => xEnc9 m pa ia ca ba pc ic cc bc hk W (hH.on hb) hW hZ⟩
        · exact ⟨_, fun W => of10 m pa ia ca ba pc ic cc bc W hk, fun W hb => xEnc10 m pa ia ca ba pc ic cc bc hk W (hH.on hb) hW hZ⟩
        · exact ⟨_, fun W => of11 m pa ia ca ba pc ic cc bc W hk, fun W hb => xEnc11 m pa ia ca ba pc ic cc bc hk W (hH.on hb) hW hZ⟩
        · exact ⟨_, fun W => of12 m pa ia ca ba pc ic cc bc W hk, fun W hb => xEnc12 m pa ia ca ba pc ic cc bc hk W (hH.on hb) hW hZ⟩
        · exact ⟨_, fun W => of13 m pa ia ca ba pc ic cc bc W hk, fun W hb => xEnc13 m pa ia ca ba pc ic cc bc hk W (hH.on hb) hW hZ⟩
        · exact ⟨_, fun W => of14 m pa ia ca ba pc ic cc bc W hk, fun W hb => xEnc14 m pa ia ca ba pc ic cc bc hk W (hH.on hb) hW hZ⟩
        · exact ⟨_, fun W => of15 m pa ia ca ba pc ic cc bc W hk, fun W hb => xEnc15 m pa ia ca ba pc ic cc bc hk W (hH.on hb) hW hZ⟩
      have hlen : m.b.cuts.length ≤ 100 ∧ m.b.bar.length ≤ 100 ∧ m.ps.length ≤ 100 ∧ m.ins.length ≤ 100 := by
        unfold smB at hS
        simp only [Bool.and_eq_true, decide_eq_true_eq] at hS
        exact ⟨hS.2.2.2.2.1, hS.2.2.2.2.2, hS.2.2.1, hS.2.2.2.1⟩
      have hpl : (plainM m).b.cuts.length ≤ 1000000000000 ∧ (plainM m).b.bar.length ≤ 1000000000000 ∧ (plainM m).ps.length ≤ 1000000000000 ∧ (plainM m).ins.length ≤ 1000000000000 := by
        obtain ⟨l4, l11, l3⟩ := plain_lists (plain_plain m)
        rw [plain_k] at l4 l11 l3
        refine ⟨?_, ?_, ?_, ?_⟩
        · by_cases hk : m.k = 3
          · have e : (plainM m).b = m.b := by unfold plainM; simp [hk]
            rw [e]; omega
          · rw [(l3 hk).1]; exact Nat.zero_le _
        · by_cases hk : m.k = 3
          · have e : (plainM m).b = m.b := by unfold plainM; simp [hk]
            rw [e]; omega
          · rw [(l3 hk).2]; exact Nat.zero_le _
        · by_cases hk : m.k = 4
          · have e : (plainM m).ps = m.ps := by unfold plainM; simp [hk]
            rw [e]; omega
          · rw [l4 hk]; exact Nat.zero_le _
        · by_cases hk : m.k = 11
          · have e : (plainM m).ins = m.ins := by unfold plainM; simp [hk]
            rw [e]; omega
          · rw [l11 hk]; exact Nat.zero_le _
      have hss : s.size ≤ 1000000 := by omega
      by_cases hg2 : g2 = 0
      · subst hg2
        obtain ⟨e1, e2, e3, e4, e5, e6⟩ := enc_dec hd
        have hb2 : (bodL m2).length ≤ 1000000 := by
          have e := congrArg List.length e2
          unfold encL at e
          rw [List.length_append] at e
          have : s.data.toList.length = s.size := rfl
          omega
        have h20s := fun W => xdecOk s hss W m2 n2 hd
        have hsz2 : (⟨(encL m2).toArray⟩ : ByteArray) = s := by rw [e2]
        have h18s : ∀ W q v, MV m2 q W v → Calls Tryz.prog 18 #[v] W (KP (.tuple #[.string s, .int .i64 0]) W) := fun W q v h => by have := mv_enc e5 e3 e4 hb2 W h; rw [hsz2] at this; exact this
        have hVn : ∀ W q v, MV m2 q W v → ∃ T u, v = .iface T u := by
          intro W q v h
          obtain ⟨pa, ia, ca, ba, pc, ic, cc, bc, B, hq, hO, rfl⟩ := h
          rcases kinds m2.k with h0 | hk | hk | hk | hk | hk | hk | hk | hk | hk | hk | hk | hk | hk | hk | hk
          · rw [h0] at e6; cases e6
          · exact ⟨_, _, val1 hk⟩
          · exact ⟨_, _, val2 hk⟩
          · exact ⟨_, _, val3 hk⟩
          · exact ⟨_, _, val4 hk⟩
          · exact ⟨_, _, val5 hk⟩
          · exact ⟨_, _, val6 hk⟩
          · exact ⟨_, _, val7 hk⟩
          · exact ⟨_, _, val8 hk⟩
          · exact ⟨_, _, val9 hk⟩
          · exact ⟨_, _, val10 hk⟩
          · exact ⟨_, _, val11 hk⟩
          · exact ⟨_, _, val12 hk⟩
          · exact ⟨_, _, val13 hk⟩
          · exact ⟨_, _, val14 hk⟩
          · exact ⟨_, _, val15 hk⟩
        by_cases h0 : chkM C0 m = 0
        · rw [encS_ok h0, h0] at h18
          have hde := dec_enc C0_ok hW h0
          have hz : (⟨(encL m).toArray⟩ : ByteArray).size ≤ 1000000 := enc_len (shrt_of h0) hW (chk_kind h0)
          exact lBackEO (mcs m pa ia ca ba pc ic cc bc) (mcs_size m pa ia ca ba pc ic cc bc) s h3 V _ (plainM m) m2 n2 0 w hsm hof h18 hz (fun W => xdecOk _ hz W _ _ hde) (fun W q v h => mv_tell (plain_plain m) (by rw [plain_k]; exact chk_kind h0) W h) (fun W hb => plain_tell (chk_kind h0) W (hH.on hb)) (fun W A B ha hb => pg_same W ha hb hpl.1 hpl.2.1 hpl.2.2.1 hpl.2.2.2) h20s h18s hVn
        · exact lBackNO (mcs m pa ia ca ba pc ic cc bc) (mcs_size m pa ia ca ba pc ic cc bc) s h3 V _ _ m m2 n2 0 w hsm hof h18 h0 h20s h18s hVn
      · have h20s := fun W => xdecBad s hss W m2 n2 g2 hg2 hd
        by_cases h0 : chkM C0 m = 0
        · rw [encS_ok h0, h0] at h18
          have hde := dec_enc C0_ok hW h0
          have hz : (⟨(encL m).toArray⟩ : ByteArray).size ≤ 1000000 := enc_len (shrt_of h0) hW (chk_kind h0)
          exact lBackEB (mcs m pa ia ca ba pc ic cc bc) (mcs_size m pa ia ca ba pc ic cc bc) s h3 V _ (plainM m) m2 n2 g2 w hsm hof h18 hz (fun W => xdecOk _ hz W _ _ hde) (fun W q v h => mv_tell (plain_plain m) (by rw [plain_k]; exact chk_kind h0) W h) (fun W hb => plain_tell (chk_kind h0) W (hH.on hb)) (fun W A B ha hb => pg_same W ha hb hpl.1 hpl.2.1 hpl.2.2.1 hpl.2.2.2) hg2 h20s
        · exact lBackNB (mcs m pa ia ca ba pc ic cc bc) (mcs_size m pa ia ca ba pc ic cc bc) s h3 V _ _ m m2 n2 g2 w hsm hof h18 h0 hg2 h20s
    · exact lBackBig2 (mcs m pa ia ca ba pc ic cc bc) (mcs_size m pa ia ca ba pc ic cc bc) s (by omega) hs w hsm
  · have hS : smB m = false := by simpa using hS
    exact lBackBig1 (mcs m pa ia ca ba pc ic cc bc) (mcs_size m pa ia ca ba pc ic cc bc) s w (fun W => by have := rSmall m pa ia ca ba pc ic cc bc W h1 h2; rw [hS] at this; exact this)
end Go.Proofs.YtdmlgheajblcdaaGreat
