/- layer 16: told, Same -/
import Derived.Test.YtdfadcbchiogjaaGreatNL
import Derived.WalkKit
import Derived.ProofKit
import Derived.Handy
import Derived.WalkLawsBesides
import Derived.WalkSpells
import Derived.BigQuiet
import Derived.BigCall
import Derived.Deep.QuietTactic
import Derived.Deep.Light
import Derived.Deep.OwnRows
import Derived.Laws.AppendOwnNone
import Derived.Laws.Strings3
import Derived.Laws.RangeAny
import Derived.Deep.RegionWith
import Derived.Lib.BitFns
import Derived.Lib.Walk
import Derived.Lib.Strings
import Derived.Lib.OthersKept
import Derived.Deep.CutBlock
import Derived.Deep.DeepCutAuto
import Derived.Deep.LoopGhost
import Derived.Deep.RegionHeld3
import Derived.Lib.SmallJoins
import Derived.Maps.AppendAt
import Derived.Laws.IdiomStrings
import Derived.Lib.AppendZeros
import Derived.Deep.WholeRow
import Derived.Laws.BitsAllLaws
import Derived.Lib.ConvBytes
import Derived.Deep.RegionLaw
import Derived.Maps.OwnSet
import Derived.Maps.OwnOps
import Derived.Maps.RangeWalk
import Derived.Maps.Ext
import Derived.DeepKeys4
import Derived.Laws.StructEq
import Derived.Deep.MidRow
import Derived.Lib.Bytealg
import Derived.Lib.AppendZerosOnto
import Derived.Laws.MakeOwn
import Derived.Deep.Upon
import Derived.Sort.KeysCollected
namespace Go.Proofs.YtdfadcbchiogjaaGreat
open Go.RowKit
set_option linter.unusedVariables false
set_option linter.unusedSimpArgs false
set_option maxRecDepth 20000
theorem info77 : (Tryz.prog.info? 70).map (fun i => (i.zero, i.size, i.bytes)) = some (some (.agg #[.int .i64 0, .string ⟨#[]⟩, .int .i64 0, .int .i64 0]), 4, 40) := by kernel_rfl
theorem ucs_at {wr w : World} {blk off : Nat} {l : List Us} {k : Nat} (hcs : ∀ i (h : i < l.length), ∀ j, j < 4 → w.cell? ⟨blk, off + i * 4 + j, none⟩ = (ucs l[i])[j]?) (hb : Below w.heap.size w wr) (hbl : blk < w.heap.size) (hk : k < l.length) :
    wr.cell? ⟨blk, off + k * 4, none⟩ = some (.int .i64 l[k].i) ∧ wr.cell? ⟨blk, off + k * 4 + 1, none⟩ = some (.string ⟨l[k].s.toArray⟩) ∧ wr.cell? ⟨blk, off + k * 4 + 2, none⟩ = some (.int .i64 l[k].c) ∧ wr.cell? ⟨blk, off + k * 4 + 3, none⟩ = some (.int .i64 l[k].l) := by
  have h := hcs k hk
  exact ⟨(hb.cell (p := ⟨blk, off + k * 4 + 0, none⟩) hbl).trans (h 0 (by omega)), (hb.cell (p := ⟨blk, off + k * 4 + 1, none⟩) hbl).trans (h 1 (by omega)), (hb.cell (p := ⟨blk, off + k * 4 + 2, none⟩) hbl).trans (h 2 (by omega)), (hb.cell (p := ⟨blk, off + k * 4 + 3, none⟩) hbl).trans (h 3 (by omega))⟩
set_option maxHeartbeats 4000000 in
theorem xtold {w : World} {a : Option Addr} {l : List Us} {cap : Nat} (h : Rw 4 ucs w a l) (hl : l.length ≤ 1000000) : Calls Tryz.prog 11 #[.slice a l.length cap] w (UsP 70 4 ucs l w) := by
  have H1 : Hid (Rw 4 ucs w a l) := h
  have hl' : (l.length : Int) ≤ 1000000 := by omega
  clear h
  go_enter Tryz.func11, Tryz.ntmps11
  go_wp2_with fail
  go_loopw [3, 4] (fun v i wr => ∃ k : Nat, k ≤ l.length ∧ i = .int .i64 k ∧ Hid (wr.ownsRow w.heap.size 70 4 v (l.take k).length (rcs ucs (l.take k)) ∧ Below w.heap.size w wr))
    (fun _ i _ => l.length - (intOf i).toNat)
  case atStart => exact ⟨0, Nat.zero_le _, rfl, World.ownsRow_nil _ _ _ _, Below.refl _ _⟩
  case round =>
    obtain ⟨k, hk, rfl, HO⟩ := hrel
    by_cases hkn : k < l.length
    · have hkz : (k : Int) < (l.length : Int) := by omega
      obtain ⟨blk, off, rfl, hbl, hcs⟩ := H1.out (by omega)
      obtain ⟨c0, c1, c2, c3⟩ := ucs_at hcs HO.out.2 hbl hkn
      have hlen : (l.take k).length ≤ 1000000 := by rw [List.length_take]; omega
      obtain ⟨v', w7, hr, ho, hg⟩ := app_gen (T := 70) (Sl := 34) (k := 4) (bytes := 40) Tryz.underlying34 info77 rfl (by omega) (ucs l[k]) rfl (ucs_one _) (own_drew HO.out.1) HO.out.2.size (by omega) (by unfold maxLen; omega)
      have hr' : (Builtin.append_ #[34, 34] 34 #[u3, .slice (some ⟨wr.heap.size, 0, none⟩) 1 1]).run Tryz.prog (wr.drew.alloc (.cells #[.int .i64 l[k].i, .string ⟨l[k].s.toArray⟩, .int .i64 l[k].c, .int .i64 l[k].l] 70)) = .ok v' w7 := hr
      have HY : Hid (w7.ownsRow w.heap.size 70 4 v' (l.take (k + 1)).length (rcs ucs (l.take (k + 1))) ∧ Below w.heap.size w w7) := by
        rw [← List.take_append_getElem hkn, rcs_snoc, List.length_append]
        exact ⟨ho, ((HO.out.2.drew).alloc HO.out.2.size _).grown hg (by have := HO.out.2.size; simp; omega) (fun j hj => (HO.out.1.lt j hj).1)⟩
      clear hcs HO hlen hr ho hg hbl
      generalize l[k] = x at *
      obtain ⟨xi, xs, xc, xl⟩ := x
      simp only at *
      generalize (⟨xs.toArray⟩ : ByteArray) = s at *
      go_wp2_with fail
      go_region_law (refine step_append_run _ (by rfl) _ _ 34 34 (by rfl) _ _ (by rfl) (by rfl) _ w7 hr' ?_)
      all_goals
        go_wp2_with fail
        go_roundw
        case rel => exact ⟨k + 1, by omega, by simp, HY.out⟩
        case measure => simp [intOf]; omega
    · have hkz : ¬ (k : Int) < (l.length : Int) := by omega
      have HF : Hid (UsP 70 4 ucs l w (.returned u3) wr) := by
        have hr := HO.out
        rw [show k = l.length by omega, List.take_length] at hr
        exact ⟨_, rfl, hr⟩
      clear HO
      go_wp2_with fail
      go_ret
      exact HF.out
def SamP (w : World) (e : Ending) (w' : World) : Prop := e = .returned (.bool true) ∧ Below w.heap.size w w'
set_option maxHeartbeats 4000000 in
theorem rsame {w : World} {a1 a2 : Option Addr} {l : List Us} {cap1 cap2 : Nat} (h1 : Rw 4 ucs w a1 l) (h2 : Rw 4 ucs w a2 l) (hl : l.length ≤ 1000000) : Calls Tryz.prog 10 #[.slice a1 l.length cap1, .slice a2 l.length cap2] w (SamP w) := by
  have H1 : Hid (Rw 4 ucs w a1 l) := h1
  have H2 : Hid (Rw 4 ucs w a2 l) := h2
  have hl' : (l.length : Int) ≤ 1000000 := by omega
  clear h1 h2
  go_enter Tryz.func10, Tryz.ntmps10
  go_wp2_with fail
  go_loopw [5] (fun i wr => ∃ k : Nat, k ≤ l.length ∧ i = .int .i64 k ∧ Hid (Below w.heap.size w wr))
    (fun i _ => l.length - (intOf i).toNat)
  case atStart => exact ⟨0, Nat.zero_le _, rfl, Below.refl _ _⟩
  case round =>
    obtain ⟨k, hk, rfl, HR⟩ := hrel
    by_cases hkn : k < l.length
    · have hkz : (k : Int) < (l.length : Int) := by omega
      obtain ⟨blk, off, rfl, hbl, hcs⟩ := H1.out (by omega)
      obtain ⟨blk', off', rfl, hbl', hcs'⟩ := H2.out (by omega)
      obtain ⟨c0, c1, c2, c3⟩ := ucs_at hcs HR.out hbl hkn
      obtain ⟨d0, d1, d2, d3⟩ := ucs_at hcs' HR.out hbl' hkn
      have HB : Hid (∀ k, Below w.heap.size w (wr.drewN k)) := fun k => below_drewN HR.out k
      clear hcs hcs'
      generalize l[k] = x at *
      obtain ⟨xi, xs, xc, xl⟩ := x
      simp only at *
      generalize (⟨xs.toArray⟩ : ByteArray) = s at *
      go_upto_region 6 with fail
      go_quiet (fail)
      go_wp2_with fail
      go_roundw
      case rel => exact ⟨k + 1, by omega, by simp, HB.out _⟩
      case measure => simp [intOf]; omega
    · have hkz : ¬ (k : Int) < (l.length : Int) := by omega
      go_wp2_with fail
      go_ret
      exact ⟨rfl, HR.out⟩
end Go.Proofs.YtdfadcbchiogjaaGreat
