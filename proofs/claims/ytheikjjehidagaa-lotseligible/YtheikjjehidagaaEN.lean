/- layer 13: Find, Value, Total of the document's -/
import Derived.Test.YtheikjjehidagaaEM
import Derived.WalkKit
import Derived.ProofKit
import Derived.Handy
import Derived.WalkLawsBesides
import Derived.WalkSpells
import Derived.BigQuiet
import Derived.BigCall
import Derived.Deep.QuietTactic
import Derived.Deep.Light
import Derived.Deep.OwnRows
import Derived.Laws.AppendOwnNone
import Derived.Laws.Strings3
import Derived.Laws.RangeAny
import Derived.Deep.RegionWith
import Derived.Lib.BitFns
import Derived.Lib.Walk
import Derived.Lib.Strings
import Derived.Lib.OthersKept
import Derived.Deep.CutBlock
import Derived.Deep.DeepCutAuto
import Derived.Deep.LoopGhost
import Derived.Deep.RegionHeld3
import Derived.Lib.SmallJoins
import Derived.Maps.AppendAt
import Derived.Laws.IdiomStrings
import Derived.Lib.AppendZeros
import Derived.Deep.WholeRow
import Derived.Laws.BitsAllLaws
import Derived.Lib.ConvBytes
import Derived.Deep.RegionLaw
import Derived.Maps.OwnSet
import Derived.Maps.OwnOps
import Derived.Maps.RangeWalk
import Derived.Maps.Ext
import Derived.DeepKeys4
import Derived.Laws.StructEq
import Derived.Deep.MidRow
import Derived.Lib.Bytealg
import Derived.Lib.Overlaps
import Derived.Lib.AppendZerosOnto
import Derived.Laws.MakeOwn
namespace Go.Proofs.Ytheikjjehidagaa.H5
open Go.RowKit
set_option linter.unusedVariables false
set_option linter.unusedSimpArgs false
open Num
set_option maxRecDepth 20000
def FxP (n : Int) (w : World) (e : Ending) (w' : World) : Prop := e = .returned (.int .i64 n) ∧ w = w'
set_option maxHeartbeats 4000000 in
theorem rfind {L : List Kn} (hs : Srt L) (hl : L.length ≤ 1000000) (n : ByteArray) (a : Option Addr) (cap : Nat) (w : World) (h : Rw 6 kcs w a L) : Calls Try.prog 59 #[.slice a L.length cap, .string n] w (FxP (fx L n.toList) w) := by
  have HE : Hid (Rw 6 kcs w a L) := h
  have HS : Hid (Srt L) := hs
  have hlz : (L.length : Int) ≤ 1000000 := by omega
  clear h hs
  go_enter Try.func59, Try.ntmps59
  go_wp2_with fail
  go_loopw [5] (fun i wr => ∃ k : Nat, k ≤ L.length ∧ i = .int .i64 k ∧ w = wr ∧ Hid (∀ j (hj : j < L.length), j < k → key L[j] ≠ n.toList))
    (fun i _ => L.length - (intOf i).toNat)
  case atStart => exact ⟨0, Nat.zero_le _, rfl, rfl, fun j _ h => absurd h (Nat.not_lt_zero j)⟩
  case round =>
    obtain ⟨k, hk, rfl, rfl, HZ⟩ := hrel
    by_cases hkn : k < L.length
    · have hkz : (k : Int) < (L.length : Int) := by omega
      obtain ⟨blk, off, rfl, hbl, hcs⟩ := HE.out (by omega)
      obtain ⟨c0, _, _, _, _, _⟩ := Rw.at6 hcs (Below.refl _ w) hbl hkn
      have HY : Hid (key L[k] = n.toList → fx L n.toList = k) := fun e => by
        obtain ⟨h1, h2⟩ := at_pos HS.out hkn e
        unfold fx
        rw [if_pos h1, h2]
      have HN : Hid (key L[k] ≠ n.toList → ∀ j (hj : j < L.length), j < k + 1 → key L[j] ≠ n.toList) := fun e j hj h1 => by
        rcases Nat.lt_or_ge j k with h2 | h2
        · exact HZ.out j hj h2
        · obtain rfl : j = k := by omega
          exact e
      have hkey : key L[k] = L[k].a.i.toList := rfl
      rw [hkey] at HY HN
      generalize L[k].a.i = xi at *
      clear hcs HZ hkey
      by_cases e : xi.toList = n.toList
      · have hz : (xi.toList == n.toList) = true := by simp [e]
        have HF : Hid (fx L n.toList = k) := HY.out e
        clear e HY HN
        generalize fx L n.toList = r at *
        go_wp2_with fail
        go_ret
        exact ⟨by rw [HF.out]; rfl, rfl⟩
      · have hz : (xi.toList == n.toList) = false := by simp [e]
        have HF : Hid (∀ j (hj : j < L.length), j < k + 1 → key L[j] ≠ n.toList) := HN.out e
        clear e HY HN
        go_wp2_with fail
        go_roundw
        case rel => exact ⟨k + 1, by omega, by simp, trivial, HF.out⟩
        case measure => simp [intOf]; omega
    · have hkz : ¬ (k : Int) < (L.length : Int) := by omega
      have HF : Hid (fx L n.toList = -1) := by
        unfold fx Hid
        rw [has_not (fun j hj => HZ.out j hj (by omega))]
        rfl
      clear HZ
      generalize fx L n.toList = r at *
      go_wp2_with fail
      go_ret
      exact ⟨by rw [HF.out]; rfl, rfl⟩
end Go.Proofs.Ytheikjjehidagaa.H5
