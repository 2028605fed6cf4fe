/- layer 17: the last item, by the program -/
import Derived.Test.YtheikjjehidagaaK2
import Derived.WalkKit
import Derived.ProofKit
import Derived.Handy
import Derived.WalkLawsBesides
import Derived.WalkSpells
import Derived.BigQuiet
import Derived.BigCall
import Derived.Deep.QuietTactic
import Derived.Deep.Light
import Derived.Deep.OwnRows
import Derived.Laws.AppendOwnNone
import Derived.Laws.Strings3
import Derived.Laws.RangeAny
import Derived.Deep.RegionWith
import Derived.Lib.BitFns
import Derived.Lib.Walk
import Derived.Lib.Strings
import Derived.Lib.OthersKept
import Derived.Deep.CutBlock
import Derived.Deep.DeepCutAuto
import Derived.Deep.LoopGhost
import Derived.Deep.RegionHeld3
import Derived.Lib.SmallJoins
import Derived.Maps.AppendAt
import Derived.Laws.IdiomStrings
import Derived.Lib.AppendZeros
import Derived.Deep.WholeRow
import Derived.Laws.BitsAllLaws
import Derived.Lib.ConvBytes
import Derived.Deep.RegionLaw
import Derived.Maps.OwnSet
import Derived.Maps.OwnOps
import Derived.Maps.RangeWalk
import Derived.Maps.Ext
import Derived.DeepKeys4
import Derived.Laws.StructEq
import Derived.Deep.MidRow
import Derived.Lib.Bytealg
import Derived.Lib.AppendZerosOnto
import Derived.Laws.MakeOwn
import Derived.Deep.Upon
import Derived.Sort.KeysCollected
import Derived.Shelf.SlSortCmp.KitK
namespace Go.Proofs.Ytheikjjehidagaa
open Go.RowKit
set_option linter.unusedVariables false
set_option linter.unusedSimpArgs false
open Go.Sort (grow SWO PermIn SortedIn HoldsK swp putRowK)
open H5 (It its its_len its_one)
set_option maxRecDepth 100000
set_option linter.unusedSectionVars false
theorem res_cell2 {P : Program} (fn : Func) (tmps : Array Value) (a t b : Nat) (ad : Addr) (v u : Value) (w : World) (hf : fn.results = #[.cell a t, .tmp b]) (ht : tmps.getD a undef = .pointer (some ad)) (hu : tmps.getD b undef = u) (hl : (loadVar t ad).run P w = .ok v w) : (results fn tmps).run P w = .ok (.tuple #[v, u]) w := by
  have ht2 : tmps[a]?.getD undef = .pointer (some ad) := by simpa using ht
  have hu2 : tmps[b]?.getD undef = u := by simpa using hu
  simp [results, hf, ht2, hu2, asAddr, hl]
def Zi : It := ⟨⟨#[]⟩, 0, ⟨⟨#[]⟩, 0, 0, 0, ⟨#[]⟩⟩, 0, 0⟩
/-- the last item of a list and whether there is one -/
def lastI (M : List It) : It × Bool := (M.getLast?.getD Zi, decide (0 < M.length))
theorem lastI_nil {M : List It} (h : M.length = 0) : lastI M = (Zi, false) := by
  rw [List.length_eq_zero_iff.1 h]
  rfl
theorem lastI_at {M : List It} {m : Nat} (h : M.length = m + 1) : lastI M = (M[m]'(by omega), true) := by
  unfold lastI
  rw [List.getLast?_eq_getElem?]
  have e : M.length - 1 = m := by omega
  rw [e, List.getElem?_eq_getElem (by omega), decide_eq_true (by omega)]
  rfl
def WsP (M : List It) (w : World) (e : Ending) (w' : World) : Prop := e = .returned (.tuple #[.agg (its (lastI M).1).toArray, .bool (lastI M).2]) ∧ Below w.heap.size w w'
section
variable [Inhabited It]
set_option maxHeartbeats 16000000 in
theorem xworst (L : List It) (hl : L.length ≤ 1000000) (hs : ∀ x ∈ L, smI x) (a : Option Addr) (cap : Nat) (w : World) (h : Rw 9 its w a L) : Calls Try.prog 25 #[.slice a L.length cap] w (WsP (SS.rnk ltI L) w) := by
  obtain ⟨w1, hw1⟩ : ∃ w1, w.alloc (.cells #[.string ⟨#[]⟩, .int .i64 0, .string ⟨#[]⟩, .int .i64 0, .int .i64 0, .int .i64 0, .string ⟨#[]⟩, .int .i64 0, .int .i64 0] 47) = w1 := ⟨_, rfl⟩
  have hX1 : Bx w1 w.heap.size #[.string ⟨#[]⟩, .int .i64 0, .string ⟨#[]⟩, .int .i64 0, .int .i64 0, .int .i64 0, .string ⟨#[]⟩, .int .i64 0, .int .i64 0] 47 := by rw [← hw1]; exact Bx.new _ _ _
  have hB1 : Below w.heap.size w w1 := by rw [← hw1]; exact below_a _ _
  have HRK : Hid (Calls Try.prog 30 #[.slice a L.length cap] w1 fun e w2 => ∃ a2 c2, e = .returned (.slice a2 L.length c2) ∧ Hid (Rw 9 its w2 a2 (SS.rnk ltI L)) ∧ Hid (Bx w2 w.heap.size #[.string ⟨#[]⟩, .int .i64 0, .string ⟨#[]⟩, .int .i64 0, .int .i64 0, .int .i64 0, .string ⟨#[]⟩, .int .i64 0, .int .i64 0] 47) ∧ Hid (Below w.heap.size w w2)) := (xrankl L hl hs a cap w1 (h.below hB1)).mono fun e w2 hh => by
    obtain ⟨a2, c2, rfl, HZ⟩ := hh
    exact ⟨a2, c2, rfl, HZ.out.1, hX1.below HZ.out.2 hX1.lt, hB1.trans (HZ.out.2.mono hB1.size)⟩
  have HLN : Hid ((SS.rnk ltI L).length = L.length) := SS.rnk_len _ _
  have HL : Hid (L.length ≤ 1000000) := hl
  obtain ⟨n, hn⟩ : ∃ n, L.length = n := ⟨_, rfl⟩
  rw [hn] at HRK HLN HL ⊢
  clear hX1 hB1 hl hs h hn
  generalize SS.rnk ltI L = M at *
  have hlz : (n : Int) ≤ 1000000 := by have := HL.out; omega
  by_cases h0 : n = 0
  · subst h0
    go_enter Try.func25, Try.ntmps25
    go_upto_region 1 with fail
    try rw [hw1]
    go_upto_region 2 with (go_at_call 30; refine HRK.out.mono ?_; clear HRK; rintro e w2 ⟨a2, c2, rfl, HM, HX, HB⟩)
    clear hw1
    have e0 : w2.cell? ⟨w.heap.size, 0, none⟩ = some (.string ⟨#[]⟩) := HX.out.cell 0
    have f0 : w2.frozen? ⟨w.heap.size, 0, none⟩ = false := HX.out.froz 0
    have e1 : w2.cell? ⟨w.heap.size, 1, none⟩ = some (.int .i64 0) := HX.out.cell 1
    have f1 : w2.frozen? ⟨w.heap.size, 1, none⟩ = false := HX.out.froz 1
    have e2 : w2.cell? ⟨w.heap.size, 2, none⟩ = some (.string ⟨#[]⟩) := HX.out.cell 2
    have f2 : w2.frozen? ⟨w.heap.size, 2, none⟩ = false := HX.out.froz 2
    have e3 : w2.cell? ⟨w.heap.size, 3, none⟩ = some (.int .i64 0) := HX.out.cell 3
    have f3 : w2.frozen? ⟨w.heap.size, 3, none⟩ = false := HX.out.froz 3
    have e4 : w2.cell? ⟨w.heap.size, 4, none⟩ = some (.int .i64 0) := HX.out.cell 4
    have f4 : w2.frozen? ⟨w.heap.size, 4, none⟩ = false := HX.out.froz 4
    have e5 : w2.cell? ⟨w.heap.size, 5, none⟩ = some (.int .i64 0) := HX.out.cell 5
    have f5 : w2.frozen? ⟨w.heap.size, 5, none⟩ = false := HX.out.froz 5
    have e6 : w2.cell? ⟨w.heap.size, 6, none⟩ = some (.string ⟨#[]⟩) := HX.out.cell 6
    have f6 : w2.frozen? ⟨w.heap.size, 6, none⟩ = false := HX.out.froz 6
    have e7 : w2.cell? ⟨w.heap.size, 7, none⟩ = some (.int .i64 0) := HX.out.cell 7
    have f7 : w2.frozen? ⟨w.heap.size, 7, none⟩ = false := HX.out.froz 7
    have e8 : w2.cell? ⟨w.heap.size, 8, none⟩ = some (.int .i64 0) := HX.out.cell 8
    have f8 : w2.frozen? ⟨w.heap.size, 8, none⟩ = false := HX.out.froz 8
    go_wp2_with fail
    have HZ : Bx _ w.heap.size #[.string ⟨#[]⟩, .int .i64 0, .string ⟨#[]⟩, .int .i64 0, .int .i64 0, .int .i64 0, .string ⟨#[]⟩, .int .i64 0, .int .i64 0] 47 := (((((((((HX.out.setc 0 (.string ⟨#[]⟩)).setc 1 (.int .i64 0)).setc 2 (.string ⟨#[]⟩)).setc 3 (.int .i64 0)).setc 4 (.int .i64 0)).setc 5 (.int .i64 0)).setc 6 (.string ⟨#[]⟩)).setc 7 (.int .i64 0)).setc 8 (.int .i64 0))
    have HBz := (((((((((HB.out.setCell (p := ⟨w.heap.size, 0, none⟩) (by simp) (.string ⟨#[]⟩)).setCell (p := ⟨w.heap.size, 1, none⟩) (by simp) (.int .i64 0)).setCell (p := ⟨w.heap.size, 2, none⟩) (by simp) (.string ⟨#[]⟩)).setCell (p := ⟨w.heap.size, 3, none⟩) (by simp) (.int .i64 0)).setCell (p := ⟨w.heap.size, 4, none⟩) (by simp) (.int .i64 0)).setCell (p := ⟨w.heap.size, 5, none⟩) (by simp) (.int .i64 0)).setCell (p := ⟨w.heap.size, 6, none⟩) (by simp) (.string ⟨#[]⟩)).setCell (p := ⟨w.heap.size, 7, none⟩) (by simp) (.int .i64 0)).setCell (p := ⟨w.heap.size, 8, none⟩) (by simp) (.int .i64 0))
    refine bodyPost_ret (res_cell2 _ _ 2 47 3 _ _ _ _ rfl rfl rfl (res47 HZ)) rfl ?_
    refine ⟨?_, HBz⟩
    rw [lastI_nil HLN.out]
    rfl
  · obtain ⟨m, hm⟩ : ∃ m, n = m + 1 := ⟨n - 1, by omega⟩
    have hmz : (n : Int) - 1 = (m : Int) := by omega
    have hmw : wrap64 (m : Int) = (m : Int) := by unfold wrap64; omega
    have hmv : IntKind.i64.wrap (m : Int) = (m : Int) := by rw [IntKind.wrap_i64]; omega
    have hmn : ¬ (n : Int) = 0 := by omega
    have hmn2 : ¬ n = 0 := by omega
    have hmlt : (m : Int) < (n : Int) := by omega
    have HM1 := hid_in hm
    clear hm hlz
    go_enter Try.func25, Try.ntmps25
    go_upto_region 1 with fail
    try rw [hw1]
    go_upto_region 2 with (go_at_call 30; refine HRK.out.mono ?_; clear HRK; rintro e w2 ⟨a2, c2, rfl, HM, HX, HB⟩)
    clear hw1
    obtain ⟨blk, off, rfl, hbl, hcs⟩ := HM.out (by have := HLN.out; have := HM1.out; omega)
    have hc9 := hcs m (by have := HLN.out; have := HM1.out; omega)
    have HLA : Hid (lastI M = (M[m]'(by have := HLN.out; have := HM1.out; omega), true)) := lastI_at (HLN.out.trans HM1.out)
    clear hcs
    generalize M[m]'(by have := HLN.out; have := HM1.out; omega) = y at *
    obtain ⟨l, q, ⟨ai, a1, a2, am, ac⟩, p, c⟩ := y
    simp only [its] at *
    have c0 : w2.cell? ⟨blk, off + m * 9, none⟩ = some (.string l) := hc9 0 (by decide)
    have c1 : w2.cell? ⟨blk, off + m * 9 + 1, none⟩ = some (.int .i64 q) := hc9 1 (by decide)
    have c2 : w2.cell? ⟨blk, off + m * 9 + 2, none⟩ = some (.string ai) := hc9 2 (by decide)
    have c3 : w2.cell? ⟨blk, off + m * 9 + 3, none⟩ = some (.int .i64 a1) := hc9 3 (by decide)
    have c4 : w2.cell? ⟨blk, off + m * 9 + 4, none⟩ = some (.int .i64 a2) := hc9 4 (by decide)
    have c5 : w2.cell? ⟨blk, off + m * 9 + 5, none⟩ = some (.int .i64 am) := hc9 5 (by decide)
    have c6 : w2.cell? ⟨blk, off + m * 9 + 6, none⟩ = some (.string ac) := hc9 6 (by decide)
    have c7 : w2.cell? ⟨blk, off + m * 9 + 7, none⟩ = some (.int .i64 p) := hc9 7 (by decide)
    have c8 : w2.cell? ⟨blk, off + m * 9 + 8, none⟩ = some (.int .i64 c) := hc9 8 (by decide)
    have e0 : w2.cell? ⟨w.heap.size, 0, none⟩ = some (.string ⟨#[]⟩) := HX.out.cell 0
    have f0 : w2.frozen? ⟨w.heap.size, 0, none⟩ = false := HX.out.froz 0
    have e1 : w2.cell? ⟨w.heap.size, 1, none⟩ = some (.int .i64 0) := HX.out.cell 1
    have f1 : w2.frozen? ⟨w.heap.size, 1, none⟩ = false := HX.out.froz 1
    have e2 : w2.cell? ⟨w.heap.size, 2, none⟩ = some (.string ⟨#[]⟩) := HX.out.cell 2
    have f2 : w2.frozen? ⟨w.heap.size, 2, none⟩ = false := HX.out.froz 2
    have e3 : w2.cell? ⟨w.heap.size, 3, none⟩ = some (.int .i64 0) := HX.out.cell 3
    have f3 : w2.frozen? ⟨w.heap.size, 3, none⟩ = false := HX.out.froz 3
    have e4 : w2.cell? ⟨w.heap.size, 4, none⟩ = some (.int .i64 0) := HX.out.cell 4
    have f4 : w2.frozen? ⟨w.heap.size, 4, none⟩ = false := HX.out.froz 4
    have e5 : w2.cell? ⟨w.heap.size, 5, none⟩ = some (.int .i64 0) := HX.out.cell 5
    have f5 : w2.frozen? ⟨w.heap.size, 5, none⟩ = false := HX.out.froz 5
    have e6 : w2.cell? ⟨w.heap.size, 6, none⟩ = some (.string ⟨#[]⟩) := HX.out.cell 6
    have f6 : w2.frozen? ⟨w.heap.size, 6, none⟩ = false := HX.out.froz 6
    have e7 : w2.cell? ⟨w.heap.size, 7, none⟩ = some (.int .i64 0) := HX.out.cell 7
    have f7 : w2.frozen? ⟨w.heap.size, 7, none⟩ = false := HX.out.froz 7
    have e8 : w2.cell? ⟨w.heap.size, 8, none⟩ = some (.int .i64 0) := HX.out.cell 8
    have f8 : w2.frozen? ⟨w.heap.size, 8, none⟩ = false := HX.out.froz 8
    clear hc9 h0
    go_wp2_with fail
    have HZ : Bx _ w.heap.size #[.string l, .int .i64 q, .string ai, .int .i64 a1, .int .i64 a2, .int .i64 am, .string ac, .int .i64 p, .int .i64 c] 47 := (((((((((HX.out.setc 0 (.string l)).setc 1 (.int .i64 q)).setc 2 (.string ai)).setc 3 (.int .i64 a1)).setc 4 (.int .i64 a2)).setc 5 (.int .i64 am)).setc 6 (.string ac)).setc 7 (.int .i64 p)).setc 8 (.int .i64 c))
    have HBz := (((((((((HB.out.setCell (p := ⟨w.heap.size, 0, none⟩) (by simp) (.string l)).setCell (p := ⟨w.heap.size, 1, none⟩) (by simp) (.int .i64 q)).setCell (p := ⟨w.heap.size, 2, none⟩) (by simp) (.string ai)).setCell (p := ⟨w.heap.size, 3, none⟩) (by simp) (.int .i64 a1)).setCell (p := ⟨w.heap.size, 4, none⟩) (by simp) (.int .i64 a2)).setCell (p := ⟨w.heap.size, 5, none⟩) (by simp) (.int .i64 am)).setCell (p := ⟨w.heap.size, 6, none⟩) (by simp) (.string ac)).setCell (p := ⟨w.heap.size, 7, none⟩) (by simp) (.int .i64 p)).setCell (p := ⟨w.heap.size, 8, none⟩) (by simp) (.int .i64 c))
    refine bodyPost_ret (res_cell2 _ _ 2 47 3 _ _ _ _ rfl rfl rfl (res47 HZ)) rfl ?_
    refine ⟨?_, HBz⟩
    rw [HLA.out]
    rfl
end
end Go.Proofs.Ytheikjjehidagaa
