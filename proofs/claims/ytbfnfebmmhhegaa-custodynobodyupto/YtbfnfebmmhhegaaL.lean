/- layer 11: what an owner has; what is out -/
import Derived.Test.YtbfnfebmmhhegaaJ
import Derived.WalkKit
import Derived.ProofKit
import Derived.Handy
import Derived.WalkLawsBesides
import Derived.WalkSpells
import Derived.BigQuiet
import Derived.BigCall
import Derived.Deep.QuietTactic
import Derived.Deep.Light
import Derived.Deep.OwnRows
import Derived.Laws.AppendOwnNone
import Derived.Laws.Strings3
import Derived.Laws.RangeAny
import Derived.Deep.RegionWith
import Derived.Lib.BitFns
import Derived.Lib.Walk
import Derived.Lib.Strings
import Derived.Lib.OthersKept
import Derived.Deep.CutBlock
import Derived.Deep.DeepCutAuto
import Derived.Deep.LoopGhost
import Derived.Deep.RegionHeld3
import Derived.Lib.SmallJoins
import Derived.Maps.AppendAt
import Derived.Laws.IdiomStrings
import Derived.Lib.AppendZeros
import Derived.Deep.WholeRow
import Derived.Laws.BitsAllLaws
import Derived.Lib.ConvBytes
import Derived.Deep.RegionLaw
import Derived.Maps.OwnSet
import Derived.Maps.OwnOps
import Derived.Maps.RangeWalk
import Derived.Maps.Ext
import Derived.DeepKeys4
import Derived.Laws.StructEq
namespace Go.Proofs.Ytbfnfebmmhhegaa
open Go.RowKit
set_option linter.unusedVariables false
set_option linter.unusedSimpArgs false
theorem hld_app (o : Int) (t : List UInt8) : ∀ (C : List Num.Bal) (p : Num.Bal), Num.hld o t (C ++ [p]) = Num.hld o t C + (if p.1.1 = o ∧ p.1.2.2 = t then p.2 else 0)
  | [], p => by simp [Num.hld]
  | x :: r, p => by simp only [List.cons_append, Num.hld, hld_app o t r p]; omega
theorem wrap_add (x y : Int) : wrap64 (wrap64 x + y) = wrap64 (x + y) := by unfold wrap64; omega
set_option maxRecDepth 20000 in
set_option maxHeartbeats 1000000 in
theorem xheld (q m : Nat) (L : List Num.Bal) (o : Int) (s : ByteArray) (w : World) (h : Lg w q m L) : Calls Try.prog 62 #[.pointer (some ⟨q, 0, none⟩), .int .i64 o, .string s] w fun e w' => e = .returned (.int .i64 (wrap64 (Num.hld o s.toList L))) ∧ Below w.heap.size w w' := by
  have HC : Hid (Calls Try.prog 60 #[.pointer (some ⟨q, 0, none⟩)] w fun e w' => e = .returned (.bool false) ∧ w = w') := (xlack q m L w h).mono fun _ _ h => ⟨h.1, h.2.symm⟩
  have cq : w.cell? ⟨q, 0, none⟩ = some (.map (some m)) := h.b.cell 0
  have hml : m < w.heap.size := h.m.lt
  obtain ⟨w1, hr, hrv, hg, hs⟩ := h.m.range
  have HR1 : Hid (Rv w1 m w.heap.size L [] L.length) := hrv
  have HB1 : Hid (Below w.heap.size w w1) := ⟨hg.os, hg.tape, hg.output, hg.size, fun k hk => hg.block k hk (by simp)⟩
  have HF : Hid (∀ C, C.Perm L → wrap64 (Num.hld o s.toList C) = wrap64 (Num.hld o s.toList L)) := fun C hC => by rw [Num.hld_perm hC]
  generalize wrap64 (Num.hld o s.toList L) = FIN at *
  clear h hrv hg hs
  go_enter Try.func62, Try.ntmps62
  go_wp2_with (go_at_call 60; refine HC.out.mono ?_; rintro e w2 ⟨rfl, rfl⟩)
  clear HC
  go_loopw [7] (fun v wr => ∃ (C : List Num.Bal) (cnt : Nat), v = .int .i64 (wrap64 (Num.hld o s.toList C)) ∧ Hid (Rv wr m w.heap.size L C cnt ∧ Below w.heap.size w wr))
    (fun _ wr => wr.rangeLeft m w.heap.size)
  case atStart => exact ⟨[], _, by simp [Num.hld, wrap64], HR1.out, HB1.out⟩
  case round =>
    obtain ⟨C, cnt, rfl, HR⟩ := hrel
    rcases HR.out.1.next 0 with ⟨hC, hn⟩ | ⟨p, w2, cnt', hp, hn, hrv, hlt, hgr, hsz, hen⟩
    · have HE : Hid (wrap64 (Num.hld o s.toList C) = FIN) := HF.out C hC
      clear hC
      go_wp2_with fail
      go_ret
      exact ⟨by rw [← HE.out]; rfl, HR.out.2⟩
    · obtain ⟨⟨po, pb, pt⟩, pn⟩ := p
      have hbw : Below w.heap.size w w2 := HR.out.2.grown hgr HR.out.2.size (fun k e => by cases e; exact Nat.le_refl _)
      have HR2 : Hid (∀ x, Rv (w2.alloc x) m w.heap.size L (C ++ [((po, pb, pt), pn)]) cnt' ∧ Below w.heap.size w (w2.alloc x)) := fun x => ⟨hrv.kept (grown_alloc _ _ none) (by simp) (by simp), hbw.alloc hbw.size x⟩
      have HM : Hid (∀ x, (w2.alloc x).rangeLeft m w.heap.size < wr.rangeLeft m w.heap.size) := fun x => by rw [(HR2.out x).1.left, HR.out.1.left]; exact hlt
      have HH := hld_app o s.toList C ((po, pb, pt), pn)
      simp only at HH
      have HW : Hid (wrap64 (wrap64 (Num.hld o s.toList C) + pn) = wrap64 (Num.hld o s.toList C + pn)) := wrap_add _ _
      have hn' : (Instr.next (.pointer (some ⟨w.heap.size, 0, none⟩)) false 0).run Try.prog wr = .ok (.tuple #[.bool true, .agg #[.int .i64 po, .int .i64 pb, .string (S pt)], .int .i64 pn]) w2 := hn
      have hen' : (Instr.entry (.pointer (some ⟨w.heap.size, 0, none⟩))).run Try.prog w2 = .ok (.tuple #[.agg #[.int .i64 po, .int .i64 pb, .string (S pt)], .int .i64 pn]) w2 := hen
      obtain ⟨T, hT⟩ : ∃ T, T = S pt := ⟨_, rfl⟩
      rw [← hT] at hn' hen'
      have hTl : T.toList = pt := by rw [hT, S_toList]
      rw [← hTl] at HH
      have HR3 : Hid (∀ x, Rv (w2.alloc x) m w.heap.size L (C ++ [((po, pb, T.toList), pn)]) cnt' ∧ Below w.heap.size w (w2.alloc x)) := by rw [hTl]; exact HR2
      clear hn hen hp hrv hlt hgr hsz hbw HR2 hT hTl HF HR1 HB1 hr cq
      by_cases h1 : po = o
      · by_cases h2 : T.toList = s.toList
        · have h1' : (po == o) = true := by simp [h1]
          have h2' : (T.toList == s.toList) = true := by simp [h2]
          rw [if_pos ⟨h1, h2⟩] at HH
          have HX : Hid (wrap64 (wrap64 (Num.hld o s.toList C) + pn) = wrap64 (Num.hld o s.toList (C ++ [((po, pb, T.toList), pn)]))) := by unfold Hid; rw [HW.out, HH]
          clear h1 h2 HH HW
          go_wp2_with fail
          go_roundw
          case rel => exact ⟨_, _, by rw [← HX.out], HR3.out _⟩
          case measure => exact HM.out _
        · have h1' : (po == o) = true := by simp [h1]
          have h2' : (T.toList == s.toList) = false := by simp [h2]
          rw [if_neg (fun hh => h2 hh.2)] at HH
          have HX : Hid (wrap64 (Num.hld o s.toList C) = wrap64 (Num.hld o s.toList (C ++ [((po, pb, T.toList), pn)]))) := by unfold Hid; rw [HH, Int.add_zero]
          clear h1 h2 HH HW
          go_wp2_with fail
          go_roundw
          case rel => exact ⟨_, _, by rw [← HX.out], HR3.out _⟩
          case measure => exact HM.out _
      · have h1' : (po == o) = false := by simp [h1]
        rw [if_neg (fun hh => h1 hh.1)] at HH
        have HX : Hid (wrap64 (Num.hld o s.toList C) = wrap64 (Num.hld o s.toList (C ++ [((po, pb, T.toList), pn)]))) := by unfold Hid; rw [HH, Int.add_zero]
        clear h1 HH HW
        go_wp2_with fail
        go_roundw
        case rel => exact ⟨_, _, by rw [← HX.out], HR3.out _⟩
        case measure => exact HM.out _
theorem xout (q m : Nat) (L : List Num.Bal) (s : ByteArray) (w : World) (h : Lg w q m L) : Calls Try.prog 46 #[.pointer (some ⟨q, 0, none⟩), .string s] w fun e w' => e = .returned (.int .i64 (wrap64 (-(wrap64 (Num.hld 0 s.toList L))))) ∧ Below w.heap.size w w' := by
  have HC : Hid (Calls Try.prog 62 #[.pointer (some ⟨q, 0, none⟩), .int .i64 0, .string s] w fun e w' => e = .returned (.int .i64 (wrap64 (Num.hld 0 s.toList L))) ∧ Below w.heap.size w w') := xheld q m L 0 s w h
  clear h
  generalize wrap64 (Num.hld 0 s.toList L) = G at *
  go_enter Try.func46, Try.ntmps46
  go_wp2_with (go_at_call 62; refine HC.out.mono ?_; rintro e w2 ⟨rfl, hb⟩)
  go_ret
  exact ⟨rfl, hb⟩
end Go.Proofs.Ytbfnfebmmhhegaa
