/- layer 11: the document: what an owner has -/
import Derived.Test.YtbfnfebmmhhegaaAF
import Derived.WalkKit
import Derived.ProofKit
import Derived.Handy
import Derived.WalkLawsBesides
import Derived.WalkSpells
import Derived.BigQuiet
import Derived.BigCall
import Derived.Deep.QuietTactic
import Derived.Deep.Light
import Derived.Deep.OwnRows
import Derived.Laws.AppendOwnNone
import Derived.Laws.Strings3
import Derived.Laws.RangeAny
import Derived.Deep.RegionWith
import Derived.Lib.BitFns
import Derived.Lib.Walk
import Derived.Lib.Strings
import Derived.Lib.OthersKept
import Derived.Deep.CutBlock
import Derived.Deep.DeepCutAuto
import Derived.Deep.LoopGhost
import Derived.Deep.RegionHeld3
import Derived.Lib.SmallJoins
import Derived.Maps.AppendAt
import Derived.Laws.IdiomStrings
import Derived.Lib.AppendZeros
import Derived.Deep.WholeRow
import Derived.Laws.BitsAllLaws
import Derived.Lib.ConvBytes
import Derived.Deep.RegionLaw
import Derived.Maps.OwnSet
import Derived.Maps.OwnOps
import Derived.Maps.RangeWalk
import Derived.Maps.Ext
import Derived.DeepKeys4
import Derived.Laws.StructEq
import Derived.Shelf.SlSortCmp.NoneTotal
namespace Go.Proofs.Ytbfnfebmmhhegaa
open Go.RowKit
set_option linter.unusedVariables false
set_option linter.unusedSimpArgs false
set_option maxRecDepth 20000
def HelP (L : List Num.Bal) (o : Int) (t : List UInt8) (w : World) (e : Ending) (w' : World) : Prop := e = .returned (.int .i64 (wrap64 (Num.hld o t L))) ∧ w = w'
set_option maxHeartbeats 4000000 in
theorem rheld (L : List Num.Bal) (hl : L.length ≤ 1000000) (a : Option Addr) (cap : Nat) (o : Int) (s : ByteArray) (w : World) (h : Bs w a L) : Calls Try.prog 25 #[.slice a L.length cap, .int .i64 o, .string s] w (HelP L o s.toList w) := by
  have HBs : Hid (Bs w a L) := h
  clear h
  go_enter Try.func25, Try.ntmps25
  go_wp2_with fail
  go_loopw [7, 8] (fun v i wr => ∃ k : Nat, k ≤ L.length ∧ i = .int .i64 k ∧ v = .int .i64 (wrap64 (Num.hld o s.toList (L.take k))) ∧ wr = w)
    (fun _ i _ => L.length - (intOf i).toNat)
  case atStart => exact ⟨0, Nat.zero_le _, rfl, by simp [Num.hld, wrap64], rfl⟩
  case round =>
    obtain ⟨k, hk, rfl, rfl, rfl⟩ := hrel
    by_cases hkn : k < L.length
    · have hkz : (k : Int) < (L.length : Int) := by omega
      obtain ⟨blk, off, rfl, hbl, hcs⟩ := HBs.out (by omega)
      have hc4 := hcs k hkn
      have HT := hld_app o s.toList (L.take k) L[k]
      rw [List.take_append_getElem hkn] at HT
      generalize L[k] = x at *
      obtain ⟨⟨po, pb, pt⟩, pn⟩ := x
      obtain ⟨T, hT⟩ : ∃ T, T = S pt := ⟨_, rfl⟩
      have hxs : bcs ((po, pb, pt), pn) = [.int .i64 po, .int .i64 pb, .string T, .int .i64 pn] := by rw [hT]; rfl
      have hTl : T.toList = pt := by rw [hT, S_toList]
      rw [hxs] at hc4
      simp only at HT
      rw [← hTl] at HT
      have c0 : wr.cell? ⟨blk, off + k * 4, none⟩ = some (.int .i64 po) := hc4 0 (by omega)
      have c2 : wr.cell? ⟨blk, off + k * 4 + 2, none⟩ = some (.string T) := hc4 2 (by omega)
      have c3 : wr.cell? ⟨blk, off + k * 4 + 3, none⟩ = some (.int .i64 pn) := hc4 3 (by omega)
      have HW : Hid (wrap64 (wrap64 (Num.hld o s.toList (L.take k)) + pn) = wrap64 (Num.hld o s.toList (L.take k) + pn)) := wrap_add _ _
      clear hc4 hcs hT hxs hTl
      by_cases h1 : po = o
      · have h1' : (po == o) = true := by simp [h1]
        by_cases h2 : T.toList = s.toList
        · have h2' : (T.toList == s.toList) = true := by simp [h2]
          rw [if_pos ⟨h1, h2⟩] at HT
          have HX : Hid (wrap64 (wrap64 (Num.hld o s.toList (L.take k)) + pn) = wrap64 (Num.hld o s.toList (L.take (k + 1)))) := by unfold Hid; rw [HW.out, HT]
          clear h1 h2 HT HW
          go_wp2_with fail
          go_roundw
          case rel => exact ⟨k + 1, by omega, by simp, by rw [← HX.out], trivial⟩
          case measure => simp [intOf]; omega
        · have h2' : (T.toList == s.toList) = false := by simp [h2]
          rw [if_neg (fun hh => h2 hh.2), Int.add_zero] at HT
          have HX : Hid (Num.hld o s.toList (L.take k) = Num.hld o s.toList (L.take (k + 1))) := HT.symm
          clear h1 h2 HT HW
          go_wp2_with fail
          go_roundw
          case rel => exact ⟨k + 1, by omega, by simp, by rw [← HX.out], trivial⟩
          case measure => simp [intOf]; omega
      · have h1' : (po == o) = false := by simp [h1]
        rw [if_neg (fun hh => h1 hh.1), Int.add_zero] at HT
        have HX : Hid (Num.hld o s.toList (L.take k) = Num.hld o s.toList (L.take (k + 1))) := HT.symm
        clear h1 HT HW
        go_wp2_with fail
        go_roundw
        case rel => exact ⟨k + 1, by omega, by simp, by rw [← HX.out], trivial⟩
        case measure => simp [intOf]; omega
    · have hkz : ¬ (k : Int) < (L.length : Int) := by omega
      have HF : Hid (HelP L o s.toList wr (.returned (.int .i64 (wrap64 (Num.hld o s.toList (L.take k))))) wr) := ⟨by rw [List.take_of_length_le (by omega)], rfl⟩
      generalize wrap64 (Num.hld o s.toList (L.take k)) = V at *
      go_wp2_with fail
      go_ret
      exact HF.out
end Go.Proofs.Ytbfnfebmmhhegaa
