/- layer 11: the document: what an account has -/
import Derived.Test.YtbfnfebmmhhegaaAB
import Derived.WalkKit
import Derived.ProofKit
import Derived.Handy
import Derived.WalkLawsBesides
import Derived.WalkSpells
import Derived.BigQuiet
import Derived.BigCall
import Derived.Deep.QuietTactic
import Derived.Deep.Light
import Derived.Deep.OwnRows
import Derived.Laws.AppendOwnNone
import Derived.Laws.Strings3
import Derived.Laws.RangeAny
import Derived.Deep.RegionWith
import Derived.Lib.BitFns
import Derived.Lib.Walk
import Derived.Lib.Strings
import Derived.Lib.OthersKept
import Derived.Deep.CutBlock
import Derived.Deep.DeepCutAuto
import Derived.Deep.LoopGhost
import Derived.Deep.RegionHeld3
import Derived.Lib.SmallJoins
import Derived.Maps.AppendAt
import Derived.Laws.IdiomStrings
import Derived.Lib.AppendZeros
import Derived.Deep.WholeRow
import Derived.Laws.BitsAllLaws
import Derived.Lib.ConvBytes
import Derived.Deep.RegionLaw
import Derived.Maps.OwnSet
import Derived.Maps.OwnOps
import Derived.Maps.RangeWalk
import Derived.Maps.Ext
import Derived.DeepKeys4
import Derived.Laws.StructEq
import Derived.Shelf.SlSortCmp.NoneTotal
namespace Go.Proofs.Ytbfnfebmmhhegaa
open Go.RowKit
set_option linter.unusedVariables false
set_option linter.unusedSimpArgs false
set_option maxRecDepth 20000
theorem eq42 (o b o' b' : Int) (s s' : ByteArray) (w : World) : (binOp .eql 40 (.agg #[.int .i64 o, .int .i64 b, .string s]) (.agg #[.int .i64 o', .int .i64 b', .string s'])).run Try.prog w = .ok (.bool (decide ((o, b, s.toList) = (o', b', s'.toList)))) w := by
  by_cases h1 : o = o'
  · by_cases h2 : b = b'
    · by_cases h3 : s.toList = s'.toList
      · go_simp
      · go_simp
    · go_simp
  · go_simp
def GetP (L : List Num.Bal) (a : Num.Acc) (w : World) (e : Ending) (w' : World) : Prop := e = .returned (.int .i64 (Num.get L a)) ∧ Below w.heap.size w w'
set_option maxHeartbeats 4000000 in
theorem rget (L : List Num.Bal) (hl : L.length ≤ 1000000) (a : Option Addr) (cap : Nat) (o b : Int) (s : ByteArray) (w : World) (h : Bs w a L) : Calls Try.prog 15 #[.slice a L.length cap, .agg #[.int .i64 o, .int .i64 b, .string s]] w (GetP L (o, b, s.toList) w) := by
  obtain ⟨w1, hw1⟩ : ∃ w1, w1 = w.alloc (.cells #[.int .i64 o, .int .i64 b, .string s] 40) := ⟨_, rfl⟩
  have HW : Hid (w.alloc (.cells #[.int .i64 o, .int .i64 b, .string s] 40) = w1) := hw1.symm
  have HX : Hid (Bx w1 w.heap.size #[.int .i64 o, .int .i64 b, .string s] 40) := by rw [hw1]; exact Bx.new w _ _
  have hb1 : Below w.heap.size w w1 := by rw [hw1]; exact (Below.refl _ w).alloc (Nat.le_refl _) _
  have HB1 : Hid (Below w.heap.size w w1) := hb1
  have HBs : Hid (Bs w1 a L) := h.below hb1
  have HG : Hid (∀ x w', Num.get L (o, b, s.toList) = x → Below w.heap.size w w' → GetP L (o, b, s.toList) w (.returned (.int .i64 x)) w') := fun x w' hx hb => ⟨by rw [hx], hb⟩
  clear hb1 h hw1
  go_enter Try.func15, Try.ntmps15
  go_wp2_with fail
  rw [HW.out]
  go_loopw [5] (fun i wr => ∃ k : Nat, k ≤ L.length ∧ i = .int .i64 k ∧ Hid (Below w1.heap.size w1 wr ∧ Num.get L (o, b, s.toList) = Num.get (L.drop k) (o, b, s.toList)))
    (fun i _ => L.length - (intOf i).toNat)
  case atStart => exact ⟨0, Nat.zero_le _, rfl, Below.refl _ _, rfl⟩
  case round =>
    obtain ⟨k, hk, rfl, HR⟩ := hrel
    by_cases hkn : k < L.length
    · have hkz : (k : Int) < (L.length : Int) := by omega
      obtain ⟨blk, off, rfl, hbl, hcs⟩ := HBs.out (by omega)
      have hc4 := hcs k hkn
      have hdr := List.drop_eq_getElem_cons hkn
      have HX2 := HX.out.below HR.out.1 HX.out.lt
      generalize L[k] = x at *
      obtain ⟨⟨po, pb, pt⟩, pn⟩ := x
      obtain ⟨T, hT⟩ : ∃ T, T = S pt := ⟨_, rfl⟩
      have hxs : bcs ((po, pb, pt), pn) = [.int .i64 po, .int .i64 pb, .string T, .int .i64 pn] := by rw [hT]; rfl
      have hTl : T.toList = pt := by rw [hT, S_toList]
      rw [hxs] at hc4
      have c0 : wr.cell? ⟨blk, off + k * 4, none⟩ = some (.int .i64 po) := (HR.out.1.cell (p := ⟨blk, _, none⟩) hbl).trans (hc4 0 (by omega))
      have c1 : wr.cell? ⟨blk, off + k * 4 + 1, none⟩ = some (.int .i64 pb) := (HR.out.1.cell (p := ⟨blk, _, none⟩) hbl).trans (hc4 1 (by omega))
      have c2 : wr.cell? ⟨blk, off + k * 4 + 2, none⟩ = some (.string T) := (HR.out.1.cell (p := ⟨blk, _, none⟩) hbl).trans (hc4 2 (by omega))
      have c3 : wr.cell? ⟨blk, off + k * 4 + 3, none⟩ = some (.int .i64 pn) := (HR.out.1.cell (p := ⟨blk, _, none⟩) hbl).trans (hc4 3 (by omega))
      have d0 : wr.cell? ⟨w.heap.size, 0, none⟩ = some (.int .i64 o) := HX2.cell 0
      have d1 : wr.cell? ⟨w.heap.size, 1, none⟩ = some (.int .i64 b) := HX2.cell 1
      have d2 : wr.cell? ⟨w.heap.size, 2, none⟩ = some (.string s) := HX2.cell 2
      have HNE : Hid (∀ w, _) := fun w => eq42 po pb o b T s w
      have HB : Hid (∀ k, Below w1.heap.size w1 (wr.drewN k)) := fun k => HR.out.1.trans ⟨rfl, rfl, rfl, Nat.le_refl _, fun _ _ => rfl⟩
      have HBw : Hid (∀ k, Below w.heap.size w (wr.drewN k)) := fun k => HB1.out.trans ((HB.out k).mono HB1.out.size)
      have hdx : decide ((po, pb, T.toList) = (o, b, s.toList)) = true ∨ decide ((po, pb, T.toList) = (o, b, s.toList)) = false := by cases decide ((po, pb, T.toList) = (o, b, s.toList)) <;> simp
      have HQ : Hid (decide ((po, pb, T.toList) = (o, b, s.toList)) = true → Num.get L (o, b, s.toList) = pn) := fun hq => by
        rw [HR.out.2, hdr]
        have := of_decide_eq_true hq
        rw [hTl] at this
        simp [Num.get, this]
      have HN : Hid (decide ((po, pb, T.toList) = (o, b, s.toList)) = false → Num.get L (o, b, s.toList) = Num.get (L.drop (k + 1)) (o, b, s.toList)) := fun hq => by
        rw [HR.out.2, hdr]
        have := of_decide_eq_false hq
        rw [hTl] at this
        simp only [Num.get, if_neg this]
      have hne := HNE.out
      generalize decide ((po, pb, T.toList) = (o, b, s.toList)) = dq at *
      clear hc4 hcs hdr HX2 hT hxs hTl HNE
      rcases hdx with rfl | rfl
      · have HF : Hid (∀ k, GetP L (o, b, s.toList) w (.returned (.int .i64 pn)) (wr.drewN k)) := fun k => HG.out _ _ (HQ.out rfl) (HBw.out k)
        clear HQ HN HG
        go_upto_region 4 with fail
        go_quiet (fail)
        go_wp2_with fail
        go_ret
        exact HF.out _
      · have HF : Hid (Num.get L (o, b, s.toList) = Num.get (L.drop (k + 1)) (o, b, s.toList)) := HN.out rfl
        clear HQ HN HG
        go_upto_region 4 with fail
        go_quiet (fail)
        go_wp2_with fail
        go_roundw
        case rel => exact ⟨k + 1, by omega, by simp, HB.out _, HF.out⟩
        case measure => simp [intOf]; omega
    · have hkz : ¬ (k : Int) < (L.length : Int) := by omega
      have HF : Hid (GetP L (o, b, s.toList) w (.returned (.int .i64 0)) wr) := HG.out 0 wr (by rw [HR.out.2, List.drop_eq_nil_of_le (by omega)]; rfl) (HB1.out.trans (HR.out.1.mono HB1.out.size))
      clear HG
      go_wp2_with fail
      go_ret
      exact HF.out
end Go.Proofs.Ytbfnfebmmhhegaa
