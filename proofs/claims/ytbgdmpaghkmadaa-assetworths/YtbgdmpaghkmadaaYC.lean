/- layer 13: law Worths -/
import Derived.Test.YtbgdmpaghkmadaaU
import Derived.WalkKit
import Derived.ProofKit
import Derived.Handy
import Derived.WalkLawsBesides
import Derived.WalkSpells
import Derived.BigQuiet
import Derived.BigCall
import Derived.Deep.QuietTactic
import Derived.Deep.Light
import Derived.Deep.OwnRows
import Derived.Laws.AppendOwnNone
import Derived.Laws.Strings3
import Derived.Laws.RangeAny
import Derived.Deep.RegionWith
import Derived.Lib.BitFns
import Derived.Lib.Walk
import Derived.Lib.Strings
import Derived.Lib.OthersKept
import Derived.Deep.CutBlock
import Derived.Deep.DeepCutAuto
import Derived.Deep.LoopGhost
import Derived.Deep.RegionHeld3
import Derived.Lib.SmallJoins
import Derived.Maps.AppendAt
import Derived.Laws.IdiomStrings
import Derived.Lib.AppendZeros
import Derived.Deep.WholeRow
import Derived.Laws.BitsAllLaws
import Derived.Lib.ConvBytes
import Derived.Deep.RegionLaw
import Derived.Maps.OwnSet
import Derived.Maps.OwnOps
import Derived.Maps.RangeWalk
import Derived.Maps.Ext
import Derived.DeepKeys4
import Derived.Laws.StructEq
import Derived.Deep.MidRow
import Derived.Lib.Bytealg
import Derived.Lib.Overlaps
import Derived.Lib.AppendZerosOnto
import Derived.Laws.MakeOwn
namespace Go.Proofs.Ytbgdmpaghkmadaa
open Go.RowKit
set_option linter.unusedVariables false
set_option linter.unusedSimpArgs false
open Num
set_option maxRecDepth 20000
set_option maxHeartbeats 16000000 in
theorem lworths (xl : List Ac) (a0 : Option Addr) (cap : Nat) (ls : List Pr) (b0 : Option Addr) (bc : Nat) (qt pr : Int) (w : World) (h : Acs w a0 xl) (hp : Prs w b0 ls) (hln : ls.length ≤ 140737488355328) : Calls Try.prog 5 #[.slice a0 xl.length cap, .slice b0 ls.length bc, .int .i64 qt, .int .i64 pr] w (OkP w) := by
  have HAw : Hid (∀ w, Calls Try.prog 12 #[] w (OkP w)) := fun w => xawake w
  have HFi : Hid (Calls Try.prog 13 #[.slice a0 xl.length cap] w (FiP w)) := xfilled xl a0 cap w h
  have HP : Hid (Prs w b0 ls) := hp
  clear h hp
  by_cases hl : ls.length ≤ 100
  · have hlz : ¬ (100 : Int) < (ls.length : Int) := by omega
    have HW1 : Hid (∀ w, Calls Try.prog 17 #[.int .i64 qt, .int .i64 pr] w (WoP (woS qt pr) (woE qt pr) w)) := fun w => xworth qt pr w
    have HW2 : Hid (∀ w, Calls Try.prog 18 #[.int .i64 qt, .int .i64 pr] w (WoP (woS qt pr) (woE qt pr) w)) := fun w => rworth qt pr w
    generalize woS qt pr = S1 at *
    generalize woE qt pr = E1 at *
    go_enter Try.func5, Try.ntmps5
    go_upto_region 2 with (go_at_call 13; refine HFi.out.mono ?_; clear HFi; rintro e w1 ⟨L, v, lp, al, cl, rfl, HZ⟩)
    have HG : Hid (Num.Good L) := HZ.out.1
    have HD : Hid (Ds w w1 w.heap.size v lp L L al cl) := HZ.out.2
    have HTo : Hid (∀ W, Below w1.heap.size w1 W → Calls Try.prog 19 #[.pointer (some ⟨w.heap.size, 0, none⟩), .slice b0 ls.length bc] W (WoP (tot L 0 ls).1 (tot L 0 ls).2 W)) := fun W hb => xtotal (HD.out.below hb).x HG.out ls (by omega) b0 bc (HP.out.below (HD.out.below hb).b)
    have HTr : Hid (∀ W, Below w1.heap.size w1 W → Calls Try.prog 20 #[.slice al L.length cl, .slice b0 ls.length bc] W (WoP (tot L 0 ls).1 (tot L 0 ls).2 W)) := fun W hb => rtotal (HD.out.below hb).rw HG.out ls (by omega) b0 bc (HP.out.below (HD.out.below hb).b)
    generalize (tot L 0 ls).1 = T1 at *
    generalize (tot L 0 ls).2 = T2 at *
    clear HZ
    go_wp2_with (first | (go_at_call 17; refine (HW1.out _).mono ?_; clear HW1; rintro e w2 ⟨rfl, HB2⟩; have K2 : Hid (Below w1.heap.size w1 w2) := HB2; clear HB2) | (go_at_call 18; refine (HW2.out _).mono ?_; clear HW2; rintro e w3 ⟨rfl, HB3⟩; have K3 : Hid (Below w1.heap.size w1 w3) := K2.out.trans (HB3.mono K2.out.size); clear HB3 K2) | (go_at_call 19; refine (HTo.out _ K3.out).mono ?_; clear HTo; rintro e w4 ⟨rfl, HB4⟩; have K4 : Hid (Below w1.heap.size w1 w4) := K3.out.trans (HB4.mono K3.out.size); clear HB4 K3) | (go_at_call 20; refine (HTr.out _ K4.out).mono ?_; clear HTr; rintro e w5 ⟨rfl, HB5⟩; have K5 : Hid (Below w1.heap.size w1 w5) := K4.out.trans (HB5.mono K4.out.size); clear HB5 K4))
    go_loopw [20] (fun i wr => ∃ k : Nat, k ≤ ls.length ∧ i = .int .i64 k ∧ Hid (Below w1.heap.size w1 wr))
      (fun i _ => ls.length - (intOf i).toNat)
    case atStart => exact ⟨0, Nat.zero_le _, rfl, K5.out⟩
    case round =>
      obtain ⟨k, hk, rfl, HB⟩ := hrel
      clear K5
      by_cases hkn : k < ls.length
      · have hkz : (k : Int) < (ls.length : Int) := by omega
        obtain ⟨blk, off, rfl, hbl, hcs⟩ := HP.out (by omega)
        have hc2 := hcs k hkn
        have hcell : ∀ W, Below w1.heap.size w1 W → W.cell? ⟨blk, off + k * 2, none⟩ = some (.string ls[k].1) ∧ W.cell? ⟨blk, off + k * 2 + 1, none⟩ = some (.int .i64 ls[k].2) := fun W hb => by
          have hb' := (HD.out.below hb).b
          exact ⟨(hb'.cell (p := ⟨blk, off + k * 2 + 0, none⟩) hbl).trans (hc2 0 (by omega)), (hb'.cell (p := ⟨blk, off + k * 2 + 1, none⟩) hbl).trans (hc2 1 (by omega))⟩
        have HV1 : Hid (Calls Try.prog 21 #[.pointer (some ⟨w.heap.size, 0, none⟩), .agg #[.string ls[k].1, .int .i64 ls[k].2]] wr (WoP (vaS L (ls[k].1, ls[k].2)) (vaE L (ls[k].1, ls[k].2)) wr)) := xvalue (HD.out.below HB.out).x HG.out _ _
        have HV2 : Hid (∀ W, Below w1.heap.size w1 W → Calls Try.prog 22 #[.slice al L.length cl, .agg #[.string ls[k].1, .int .i64 ls[k].2]] W (WoP (vaS L (ls[k].1, ls[k].2)) (vaE L (ls[k].1, ls[k].2)) W)) := fun W hb => rvalue (HD.out.below hb).rw HG.out _ _
        generalize vaS L (ls[k].1, ls[k].2) = S at *
        generalize vaE L (ls[k].1, ls[k].2) = E at *
        generalize ls[k] = x at *
        obtain ⟨x1, x2⟩ := x
        simp only at *
        have HCe : Hid (∀ W, Below w1.heap.size w1 W → W.cell? ⟨blk, off + k * 2, none⟩ = some (.string x1) ∧ W.cell? ⟨blk, off + k * 2 + 1, none⟩ = some (.int .i64 x2)) := hcell
        obtain ⟨c0, c1⟩ := hcell wr HB.out
        clear hcs hc2 hcell hbl
        go_wp2_with (first | (go_at_call 21; refine HV1.out.mono ?_; clear HV1; rintro e w6 ⟨rfl, HB6⟩; have K6 : Hid (Below w1.heap.size w1 w6) := HB.out.trans (HB6.mono HB.out.size); obtain ⟨d0, d1⟩ := HCe.out w6 K6.out; clear HB6) | (go_at_call 22; refine (HV2.out _ K6.out).mono ?_; clear HV2; rintro e w7 ⟨rfl, HB7⟩; have K7 : Hid (Below w1.heap.size w1 w7) := K6.out.trans (HB7.mono K6.out.size); clear HB7))
        go_roundw
        case rel => exact ⟨k + 1, by omega, by simp, K7.out⟩
        case measure => simp [intOf]; omega
      · have hkz : ¬ (k : Int) < (ls.length : Int) := by omega
        go_wp2_with (go_at_call 12; refine (HAw.out _).mono ?_; rintro e w9 ⟨rfl, HB9⟩)
        go_ret
        exact ⟨rfl, (HD.out.below (HB.out.trans (HB9.mono HB.out.size))).b⟩
  · have hlz : (100 : Int) < (ls.length : Int) := by omega
    go_enter Try.func5, Try.ntmps5
    go_wp2_with (first | (go_at_call 13; refine HFi.out.mono ?_; clear HFi; rintro e w1 ⟨L, v, lp, al, cl, rfl, HZ⟩) | (go_at_call 12; refine (HAw.out _).mono ?_; rintro e w9 ⟨rfl, HB9⟩))
    go_ret
    exact ⟨rfl, HZ.out.2.b.trans (HB9.mono HZ.out.2.b.size)⟩
end Go.Proofs.Ytbgdmpaghkmadaa
