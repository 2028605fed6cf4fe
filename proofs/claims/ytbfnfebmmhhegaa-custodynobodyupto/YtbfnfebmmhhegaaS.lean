/- layer 11: what a ledger has, told; the same balances -/
import Derived.Test.YtbfnfebmmhhegaaR
import Derived.WalkKit
import Derived.ProofKit
import Derived.Handy
import Derived.WalkLawsBesides
import Derived.WalkSpells
import Derived.BigQuiet
import Derived.BigCall
import Derived.Deep.QuietTactic
import Derived.Deep.Light
import Derived.Deep.OwnRows
import Derived.Laws.AppendOwnNone
import Derived.Laws.Strings3
import Derived.Laws.RangeAny
import Derived.Deep.RegionWith
import Derived.Lib.BitFns
import Derived.Lib.Walk
import Derived.Lib.Strings
import Derived.Lib.OthersKept
import Derived.Deep.CutBlock
import Derived.Deep.DeepCutAuto
import Derived.Deep.LoopGhost
import Derived.Deep.RegionHeld3
import Derived.Lib.SmallJoins
import Derived.Maps.AppendAt
import Derived.Laws.IdiomStrings
import Derived.Lib.AppendZeros
import Derived.Deep.WholeRow
import Derived.Laws.BitsAllLaws
import Derived.Lib.ConvBytes
import Derived.Deep.RegionLaw
import Derived.Maps.OwnSet
import Derived.Maps.OwnOps
import Derived.Maps.RangeWalk
import Derived.Maps.Ext
import Derived.DeepKeys4
import Derived.Laws.StructEq
import Derived.Shelf.SlSortCmp.NoneTotal
namespace Go.Proofs.Ytbfnfebmmhhegaa
open Go.RowKit
set_option linter.unusedVariables false
set_option linter.unusedSimpArgs false
set_option maxRecDepth 20000
theorem info44 : (Try.prog.info? 68).map (fun i => (i.zero, i.size, i.bytes)) = some (some (.agg #[.int .i64 0, .int .i64 0, .string ⟨#[]⟩, .int .i64 0]), 4, 40) := by kernel_rfl
def TolP (L : List Num.Bal) (w : World) (e : Ending) (w' : World) : Prop := ∃ v, e = .returned v ∧ w'.ownsRow w.heap.size 68 4 v L.length (bcells L) ∧ Below w.heap.size w w'
set_option maxHeartbeats 4000000 in
theorem neq44 (o b n : Int) (s : ByteArray) (w : World) : (binOp .neq 68 (.agg #[.int .i64 o, .int .i64 b, .string s, .int .i64 n]) (.agg #[.int .i64 o, .int .i64 b, .string s, .int .i64 n])).run Try.prog w = .ok (.bool false) w := by
  go_simp
def SamP (w : World) (e : Ending) (w' : World) : Prop := e = .returned (.bool true) ∧ Below w.heap.size w w'
set_option maxHeartbeats 4000000 in
theorem xsame (L : List Num.Bal) (hl : L.length ≤ 1000000) (a1 : Option Addr) (cap1 : Nat) (a2 : Option Addr) (cap2 : Nat) (w : World) (h1 : Bs w a1 L) (h2 : Bs w a2 L) : Calls Try.prog 12 #[.slice a1 L.length cap1, .slice a2 L.length cap2] w (SamP w) := by
  have H1 : Hid (Bs w a1 L) := h1
  have H2 : Hid (Bs w a2 L) := h2
  clear h1 h2
  go_enter Try.func12, Try.ntmps12
  go_wp2_with fail
  go_loopw [5] (fun i wr => ∃ k : Nat, k ≤ L.length ∧ i = .int .i64 k ∧ Hid (Below w.heap.size w wr))
    (fun i _ => L.length - (intOf i).toNat)
  case atStart => exact ⟨0, Nat.zero_le _, rfl, Below.refl _ _⟩
  case round =>
    obtain ⟨k, hk, rfl, HR⟩ := hrel
    by_cases hkn : k < L.length
    · have hkz : (k : Int) < (L.length : Int) := by omega
      obtain ⟨blk, off, rfl, hbl, hcs⟩ := H1.out (by omega)
      obtain ⟨blk', off', rfl, hbl', hcs'⟩ := H2.out (by omega)
      have hc4 := hcs k hkn
      have hd4 := hcs' k hkn
      generalize L[k] = x at *
      obtain ⟨⟨o, b, t⟩, n⟩ := x
      obtain ⟨s, hs⟩ : ∃ s, s = S t := ⟨_, rfl⟩
      have hxs : bcs ((o, b, t), n) = [.int .i64 o, .int .i64 b, .string s, .int .i64 n] := by rw [hs]; rfl
      rw [hxs] at hc4 hd4
      clear hs hxs
      have c0 : wr.cell? ⟨blk, off + k * 4, none⟩ = some (.int .i64 o) := (HR.out.cell (p := ⟨blk, _, none⟩) hbl).trans (hc4 0 (by omega))
      have c1 : wr.cell? ⟨blk, off + k * 4 + 1, none⟩ = some (.int .i64 b) := (HR.out.cell (p := ⟨blk, _, none⟩) hbl).trans (hc4 1 (by omega))
      have c2 : wr.cell? ⟨blk, off + k * 4 + 2, none⟩ = some (.string s) := (HR.out.cell (p := ⟨blk, _, none⟩) hbl).trans (hc4 2 (by omega))
      have c3 : wr.cell? ⟨blk, off + k * 4 + 3, none⟩ = some (.int .i64 n) := (HR.out.cell (p := ⟨blk, _, none⟩) hbl).trans (hc4 3 (by omega))
      have d0 : wr.cell? ⟨blk', off' + k * 4, none⟩ = some (.int .i64 o) := (HR.out.cell (p := ⟨blk', _, none⟩) hbl').trans (hd4 0 (by omega))
      have d1 : wr.cell? ⟨blk', off' + k * 4 + 1, none⟩ = some (.int .i64 b) := (HR.out.cell (p := ⟨blk', _, none⟩) hbl').trans (hd4 1 (by omega))
      have d2 : wr.cell? ⟨blk', off' + k * 4 + 2, none⟩ = some (.string s) := (HR.out.cell (p := ⟨blk', _, none⟩) hbl').trans (hd4 2 (by omega))
      have d3 : wr.cell? ⟨blk', off' + k * 4 + 3, none⟩ = some (.int .i64 n) := (HR.out.cell (p := ⟨blk', _, none⟩) hbl').trans (hd4 3 (by omega))
      have HB : Hid (∀ k, Below w.heap.size w (wr.drewN k)) := fun k => HR.out.trans ⟨rfl, rfl, rfl, Nat.le_refl _, fun _ _ => rfl⟩
      clear hc4 hcs hd4 hcs'
      go_upto_region 6 with fail
      go_quiet (fail)
      go_wp2_with fail
      go_roundw
      case rel => exact ⟨k + 1, by omega, by simp, HB.out _⟩
      case measure => simp [intOf]; omega
    · have hkz : ¬ (k : Int) < (L.length : Int) := by omega
      go_wp2_with fail
      go_ret
      exact ⟨rfl, HR.out⟩
end Go.Proofs.Ytbfnfebmmhhegaa
