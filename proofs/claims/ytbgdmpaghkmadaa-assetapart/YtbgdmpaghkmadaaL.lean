/- layer 13: Ending of both -/
import Derived.Test.YtbgdmpaghkmadaaK
import Derived.WalkKit
import Derived.ProofKit
import Derived.Handy
import Derived.WalkLawsBesides
import Derived.WalkSpells
import Derived.BigQuiet
import Derived.BigCall
import Derived.Deep.QuietTactic
import Derived.Deep.Light
import Derived.Deep.OwnRows
import Derived.Laws.AppendOwnNone
import Derived.Laws.Strings3
import Derived.Laws.RangeAny
import Derived.Deep.RegionWith
import Derived.Lib.BitFns
import Derived.Lib.Walk
import Derived.Lib.Strings
import Derived.Lib.OthersKept
import Derived.Deep.CutBlock
import Derived.Deep.DeepCutAuto
import Derived.Deep.LoopGhost
import Derived.Deep.RegionHeld3
import Derived.Lib.SmallJoins
import Derived.Maps.AppendAt
import Derived.Laws.IdiomStrings
import Derived.Lib.AppendZeros
import Derived.Deep.WholeRow
import Derived.Laws.BitsAllLaws
import Derived.Lib.ConvBytes
import Derived.Deep.RegionLaw
import Derived.Maps.OwnSet
import Derived.Maps.OwnOps
import Derived.Maps.RangeWalk
import Derived.Maps.Ext
import Derived.DeepKeys4
import Derived.Laws.StructEq
import Derived.Deep.MidRow
import Derived.Lib.Bytealg
import Derived.Lib.Overlaps
import Derived.Lib.AppendZerosOnto
import Derived.Laws.MakeOwn
namespace Go.Proofs.Ytbgdmpaghkmadaa
open Go.RowKit
set_option linter.unusedVariables false
set_option linter.unusedSimpArgs false
open Num
set_option maxRecDepth 20000
def stc (s : ByteArray) : List Value := [.string s]
theorem stc_len (s : ByteArray) : (stc s).length = 1 := rfl
theorem stc_one (s : ByteArray) : ∀ u ∈ stc s, u.oneCell' = true := by
  intro u hu
  unfold stc at hu
  simp at hu
  rcases hu with rfl
  rfl
def nmF (d : Int) (k : Kn) : Option ByteArray := if lft k.a.mat d ≤ 0 then some k.a.i else none
set_option maxHeartbeats 8000000 in
theorem xending {p a : Option Addr} {cap : Nat} {L : List Kn} (g : Num.Good L) (d : Int) (w : World) (hk : KnC p a L.length cap w) (h : Rw 6 kcs w a L) : Calls Try.prog 26 #[.pointer p, .int .i64 d] w (NwP 9 1 stc (sel (nmF d) L) w) := by
  have HE : Hid (Rw 6 kcs w a L) := h
  have HK : Hid (KnC p a L.length cap w) := hk
  have HS : Hid (Num.Good L) := g
  have hlz : (L.length : Int) ≤ 1000000 := by have := g.len; omega
  have hl : L.length ≤ 1000000 := by have := g.len; omega
  clear h hk g
  go_enter Try.func26, Try.ntmps26
  go_wp2_with (go_at_call 43; refine HK.out.mono ?_; clear HK; rintro e w1 ⟨rfl, rfl⟩)
  go_loopw [5, 11] (fun v i wr => ∃ k : Nat, k ≤ L.length ∧ i = .int .i64 k ∧ Hid (wr.ownsRow w.heap.size 9 1 v (sel (nmF d) (L.take k)).length (rcs stc (sel (nmF d) (L.take k))) ∧ Below w.heap.size w wr))
    (fun _ i _ => L.length - (intOf i).toNat)
  case atStart => exact ⟨0, Nat.zero_le _, rfl, World.ownsRow_nil _ _ _ _, Below.refl _ _⟩
  case round =>
    obtain ⟨k, hk, rfl, HZ⟩ := hrel
    by_cases hkn : k < L.length
    · have hkz : (k : Int) < (L.length : Int) := by omega
      obtain ⟨blk, off, rfl, hbl, hcs⟩ := HE.out (by omega)
      obtain ⟨c0, c1, c2, c3, c4, c5⟩ := Rw.at6 hcs HZ.out.2 hbl hkn
      have f1 := HS.out.all L[k] (List.getElem_mem hkn)
      have HT1 : Hid (¬ lft L[k].a.mat d ≤ 0 → sel (nmF d) (L.take (k + 1)) = sel (nmF d) (L.take k)) := fun e => sel_none hkn (by unfold nmF; rw [if_neg e])
      have HT2 : Hid (lft L[k].a.mat d ≤ 0 → sel (nmF d) (L.take (k + 1)) = sel (nmF d) (L.take k) ++ [L[k].a.i]) := fun e => sel_some hkn (by unfold nmF; rw [if_pos e])
      have hsl : (sel (nmF d) (L.take k)).length ≤ 1000000 := by have := sel_len (nmF d) (L.take k); rw [List.length_take] at this; omega
      have s1 := f1.i
      have m1 : 0 ≤ L[k].a.mat ∧ L[k].a.mat ≤ 200000 := ⟨f1.m0, f1.m1⟩
      clear f1
      generalize L[k] = x at *
      obtain ⟨⟨xi, xa, xb, xc, xs⟩, xp⟩ := x
      simp only at *
      have HL : Hid (Calls Try.prog 23 #[.agg #[.string xi, .int .i64 xa, .int .i64 xb, .int .i64 xc, .string xs], .int .i64 d] (wr.alloc (.cells #[.string xi, .int .i64 xa, .int .i64 xb, .int .i64 xc, .string xs, .int .i64 xp] 84)) fun e w5 => e = .returned (.int .i64 (lft xc d)) ∧ w5.cell? ⟨wr.heap.size, 0, none⟩ = some (.string xi) ∧ Hid (w5.ownsRow w.heap.size 9 1 u5 (sel (nmF d) (L.take k)).length (rcs stc (sel (nmF d) (L.take k))) ∧ Below w.heap.size w w5)) := by
        refine (xleft xi xa xb xc xs d m1 _).mono ?_
        rintro e w5 ⟨rfl, hb5⟩
        have hb := HZ.out.2.alloc HZ.out.2.size (.cells #[.string xi, .int .i64 xa, .int .i64 xb, .int .i64 xc, .string xs, .int .i64 xp] 84)
        exact ⟨rfl, ((Bx.new wr _ _).below hb5 (Bx.new wr _ _).lt).cell 0, own_below (HZ.out.1.alloc _) hb5, hb.trans (hb5.mono hb.size)⟩
      by_cases hp : lft xc d ≤ 0
      · have HT : Hid (sel (nmF d) (L.take (k + 1)) = sel (nmF d) (L.take k) ++ [xi]) := HT2.out hp
        have HC : Hid (∀ w5, w5.ownsRow w.heap.size 9 1 u5 (sel (nmF d) (L.take k)).length (rcs stc (sel (nmF d) (L.take k))) → Below w.heap.size w w5 → Calls Try.prog 44 #[.string xi] w5 fun e w6 => e = .returned (.string xi) ∧ ∃ v' w7, (Builtin.append_ #[61, 61] 61 #[u5, .slice (some ⟨w6.heap.size, 0, none⟩) 1 1]).run Try.prog (w6.alloc (.cells #[.string xi] 9)) = .ok v' w7 ∧ Hid (w7.ownsRow w.heap.size 9 1 v' (sel (nmF d) (L.take (k + 1))).length (rcs stc (sel (nmF d) (L.take (k + 1)))) ∧ Below w.heap.size w w7)) := by
          intro w5 ho5 hb5
          refine (xclone xi (by omega) w5).mono ?_
          rintro e w6 ⟨rfl, hb6⟩
          have hb : Below w.heap.size w w6 := hb5.trans (hb6.mono hb5.size)
          have ho6 := own_below ho5 hb6
          obtain ⟨v', w7, hr, ho, hg⟩ := app_gen (T := 9) (Sl := 61) (k := 1) (bytes := 16) Try.underlying61 info9 rfl (by omega) (stc xi) rfl (stc_one _) ho6 hb.size (by omega) (by unfold maxLen; omega)
          refine ⟨rfl, v', w7, hr, ?_, ?_⟩
          · rw [HT.out, rcs_snoc, List.length_append]; exact ho
          · exact (hb.alloc hb.size _).grown hg (by have := hb.size; simp; omega) (fun j hj => (ho6.lt j hj).1)
        clear hcs HZ HT1 HT2 HT hbl s1 hsl m1
        generalize lft xc d = lf at *
        go_wp2_with (first | (go_at_call 23; refine HL.out.mono ?_; clear HL; rintro e w5 ⟨rfl, d0, HX⟩) | (go_at_call 44; refine (HC.out _ HX.out.1 HX.out.2).mono ?_; clear HC; rintro e w6 ⟨rfl, v', w7, hr, HY⟩) | (at_builtin; refine Lib.wpList_append_run _ rfl _ _ 61 61 rfl _ _ rfl rfl _ w7 hr ?_))
        go_roundw
        case rel => exact ⟨k + 1, by omega, by simp, HY.out⟩
        case measure => simp [intOf]; omega
      · have HT : Hid (sel (nmF d) (L.take (k + 1)) = sel (nmF d) (L.take k)) := HT1.out hp
        clear hcs HZ HT1 HT2 hbl s1 hsl m1
        generalize lft xc d = lf at *
        go_wp2_with (go_at_call 23; refine HL.out.mono ?_; clear HL; rintro e w5 ⟨rfl, d0, HX⟩)
        go_roundw
        case rel => exact ⟨k + 1, by omega, by simp, by rw [HT.out]; exact HX.out⟩
        case measure => simp [intOf]; omega
    · have hkz : ¬ (k : Int) < (L.length : Int) := by omega
      have HF : Hid (NwP 9 1 stc (sel (nmF d) L) w (.returned u5) wr) := by
        have hr := HZ.out
        rw [show k = L.length by omega, List.take_length] at hr
        exact ⟨u5, rfl, hr.1, hr.2⟩
      clear HZ
      go_wp2_with fail
      go_ret
      exact HF.out
set_option maxHeartbeats 8000000 in
theorem rending {a : Option Addr} {cap : Nat} {L : List Kn} (g : Num.Good L) (d : Int) (w : World) (h : Rw 6 kcs w a L) : Calls Try.prog 27 #[.slice a L.length cap, .int .i64 d] w (NwP 9 1 stc (sel (nmF d) L) w) := by
  have HE : Hid (Rw 6 kcs w a L) := h
  have HS : Hid (Num.Good L) := g
  have hlz : (L.length : Int) ≤ 1000000 := by have := g.len; omega
  have hl : L.length ≤ 1000000 := by have := g.len; omega
  clear h g
  go_enter Try.func27, Try.ntmps27
  go_wp2_with fail
  go_loopw [5, 6] (fun v i wr => ∃ k : Nat, k ≤ L.length ∧ i = .int .i64 k ∧ Hid (wr.ownsRow w.heap.size 9 1 v (sel (nmF d) (L.take k)).length (rcs stc (sel (nmF d) (L.take k))) ∧ Below w.heap.size w wr))
    (fun _ i _ => L.length - (intOf i).toNat)
  case atStart => exact ⟨0, Nat.zero_le _, rfl, World.ownsRow_nil _ _ _ _, Below.refl _ _⟩
  case round =>
    obtain ⟨k, hk, rfl, HZ⟩ := hrel
    by_cases hkn : k < L.length
    · have hkz : (k : Int) < (L.length : Int) := by omega
      obtain ⟨blk, off, rfl, hbl, hcs⟩ := HE.out (by omega)
      obtain ⟨c0, c1, c2, c3, c4, c5⟩ := Rw.at6 hcs HZ.out.2 hbl hkn
      have hc0 : ∀ w5, Below wr.heap.size wr w5 → w5.cell? ⟨blk, off + k * 6, none⟩ = some (.string L[k].a.i) := fun w5 hb5 => (hb5.cell (p := ⟨blk, off + k * 6, none⟩) (Nat.lt_of_lt_of_le hbl HZ.out.2.size)).trans c0
      have f1 := HS.out.all L[k] (List.getElem_mem hkn)
      have HT1 : Hid (¬ lft L[k].a.mat d ≤ 0 → sel (nmF d) (L.take (k + 1)) = sel (nmF d) (L.take k)) := fun e => sel_none hkn (by unfold nmF; rw [if_neg e])
      have HT2 : Hid (lft L[k].a.mat d ≤ 0 → sel (nmF d) (L.take (k + 1)) = sel (nmF d) (L.take k) ++ [L[k].a.i]) := fun e => sel_some hkn (by unfold nmF; rw [if_pos e])
      have hsl : (sel (nmF d) (L.take k)).length ≤ 1000000 := by have := sel_len (nmF d) (L.take k); rw [List.length_take] at this; omega
      have m1 : 0 ≤ L[k].a.mat ∧ L[k].a.mat ≤ 200000 := ⟨f1.m0, f1.m1⟩
      clear f1
      generalize L[k] = x at *
      obtain ⟨⟨xi, xa, xb, xc, xs⟩, xp⟩ := x
      simp only at *
      have HL : Hid (Calls Try.prog 24 #[.agg #[.string xi, .int .i64 xa, .int .i64 xb, .int .i64 xc, .string xs], .int .i64 d] wr fun e w5 => e = .returned (.int .i64 (lft xc d)) ∧ w5.cell? ⟨blk, off + k * 6, none⟩ = some (.string xi) ∧ Hid (w5.ownsRow w.heap.size 9 1 u5 (sel (nmF d) (L.take k)).length (rcs stc (sel (nmF d) (L.take k))) ∧ Below w.heap.size w w5)) := by
        refine (rleft xi xa xb xc xs d m1 _).mono ?_
        rintro e w5 ⟨rfl, hb5⟩
        exact ⟨rfl, hc0 w5 hb5, own_below HZ.out.1 hb5, HZ.out.2.trans (hb5.mono HZ.out.2.size)⟩
      by_cases hp : lft xc d ≤ 0
      · have HT : Hid (sel (nmF d) (L.take (k + 1)) = sel (nmF d) (L.take k) ++ [xi]) := HT2.out hp
        have HC : Hid (∀ w5, w5.ownsRow w.heap.size 9 1 u5 (sel (nmF d) (L.take k)).length (rcs stc (sel (nmF d) (L.take k))) → Below w.heap.size w w5 → ∃ v' w7, (Builtin.append_ #[61, 61] 61 #[u5, .slice (some ⟨w5.heap.size, 0, none⟩) 1 1]).run Try.prog (w5.alloc (.cells #[.string xi] 9)) = .ok v' w7 ∧ Hid (w7.ownsRow w.heap.size 9 1 v' (sel (nmF d) (L.take (k + 1))).length (rcs stc (sel (nmF d) (L.take (k + 1)))) ∧ Below w.heap.size w w7)) := by
          intro w5 ho5 hb
          obtain ⟨v', w7, hr, ho, hg⟩ := app_gen (T := 9) (Sl := 61) (k := 1) (bytes := 16) Try.underlying61 info9 rfl (by omega) (stc xi) rfl (stc_one _) ho5 hb.size (by omega) (by unfold maxLen; omega)
          refine ⟨v', w7, hr, ?_, ?_⟩
          · rw [HT.out, rcs_snoc, List.length_append]; exact ho
          · exact (hb.alloc hb.size _).grown hg (by have := hb.size; simp; omega) (fun j hj => (ho5.lt j hj).1)
        clear hcs HZ HT1 HT2 HT hbl hsl m1 hc0
        generalize lft xc d = lf at *
        go_wp2_with (first | (go_at_call 24; refine HL.out.mono ?_; clear HL; rintro e w5 ⟨rfl, d0, HX⟩; obtain ⟨v', w7, hr, HY⟩ := HC.out _ HX.out.1 HX.out.2) | (at_builtin; refine Lib.wpList_append_run _ rfl _ _ 61 61 rfl _ _ rfl rfl _ w7 hr ?_))
        go_roundw
        case rel => exact ⟨k + 1, by omega, by simp, HY.out⟩
        case measure => simp [intOf]; omega
      · have HT : Hid (sel (nmF d) (L.take (k + 1)) = sel (nmF d) (L.take k)) := HT1.out hp
        clear hcs HZ HT1 HT2 hbl hsl m1 hc0
        generalize lft xc d = lf at *
        go_wp2_with (go_at_call 24; refine HL.out.mono ?_; clear HL; rintro e w5 ⟨rfl, d0, HX⟩)
        go_roundw
        case rel => exact ⟨k + 1, by omega, by simp, by rw [HT.out]; exact HX.out⟩
        case measure => simp [intOf]; omega
    · have hkz : ¬ (k : Int) < (L.length : Int) := by omega
      have HF : Hid (NwP 9 1 stc (sel (nmF d) L) w (.returned u5) wr) := by
        have hr := HZ.out
        rw [show k = L.length by omega, List.take_length] at hr
        exact ⟨u5, rfl, hr.1, hr.2⟩
      clear HZ
      go_wp2_with fail
      go_ret
      exact HF.out
end Go.Proofs.Ytbgdmpaghkmadaa
