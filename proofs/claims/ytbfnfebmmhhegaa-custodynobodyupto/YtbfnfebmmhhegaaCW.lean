/- layer 12: texts alike, lots alike -/
import Derived.Test.YtbfnfebmmhhegaaCU
import Derived.WalkKit
import Derived.ProofKit
import Derived.Handy
import Derived.WalkLawsBesides
import Derived.WalkSpells
import Derived.BigQuiet
import Derived.BigCall
import Derived.Deep.QuietTactic
import Derived.Deep.Light
import Derived.Deep.OwnRows
import Derived.Laws.AppendOwnNone
import Derived.Laws.Strings3
import Derived.Laws.RangeAny
import Derived.Deep.RegionWith
import Derived.Lib.BitFns
import Derived.Lib.Walk
import Derived.Lib.Strings
import Derived.Lib.OthersKept
import Derived.Deep.CutBlock
import Derived.Deep.DeepCutAuto
import Derived.Deep.LoopGhost
import Derived.Deep.RegionHeld3
import Derived.Lib.SmallJoins
import Derived.Maps.AppendAt
import Derived.Laws.IdiomStrings
import Derived.Lib.AppendZeros
import Derived.Deep.WholeRow
import Derived.Laws.BitsAllLaws
import Derived.Lib.ConvBytes
import Derived.Deep.RegionLaw
import Derived.Maps.OwnSet
import Derived.Maps.OwnOps
import Derived.Maps.RangeWalk
import Derived.Maps.Ext
import Derived.DeepKeys4
import Derived.Laws.StructEq
import Derived.Shelf.SlSortCmp.NoneTotal
import Derived.Deep.MidRow
import Derived.Laws.MakeOwn
import Derived.Sort.OwnSorted
import Derived.Lib.SlicesCompact
import Derived.Lib.RowBridge
namespace Go.Proofs.Ytbfnfebmmhhegaa
open Go.RowKit
set_option linter.unusedVariables false
set_option linter.unusedSimpArgs false
set_option maxRecDepth 20000
set_option maxHeartbeats 4000000 in
theorem rtexts (ts : List (List UInt8)) (hl : ts.length ≤ 1000000) (a1 : Option Addr) (cap1 : Nat) (a2 : Option Addr) (cap2 : Nat) (w : World) (h1 : Tx w a1 ts) (h2 : Tx w a2 ts) : Calls Try.prog 21 #[.slice a1 ts.length cap1, .slice a2 ts.length cap2] w (SamP w) := by
  have H1 : Hid (Tx w a1 ts) := h1
  have H2 : Hid (Tx w a2 ts) := h2
  have hl' : (ts.length : Int) ≤ 1000000 := by omega
  clear h1 h2
  go_enter Try.func21, Try.ntmps21
  go_wp2_with fail
  go_loopw [5] (fun i wr => ∃ k : Nat, k ≤ ts.length ∧ i = .int .i64 k ∧ Hid (Below w.heap.size w wr))
    (fun i _ => ts.length - (intOf i).toNat)
  case atStart => exact ⟨0, Nat.zero_le _, rfl, Below.refl _ _⟩
  case round =>
    obtain ⟨k, hk, rfl, HR⟩ := hrel
    by_cases hkn : k < ts.length
    · have hkz : (k : Int) < (ts.length : Int) := by omega
      obtain ⟨blk, off, rfl, hbl, hcs⟩ := H1.out (by omega)
      obtain ⟨blk', off', rfl, hbl', hcs'⟩ := H2.out (by omega)
      have hc := hcs k hkn 0 (by omega)
      have hd := hcs' k hkn 0 (by omega)
      rw [Nat.mul_one, Nat.add_zero] at hc hd
      obtain ⟨s, hs⟩ : ∃ s, s = S ts[k] := ⟨_, rfl⟩
      have c0 : wr.cell? ⟨blk, off + k, none⟩ = some (.string s) := by rw [hs]; exact (HR.out.cell (p := ⟨blk, _, none⟩) hbl).trans hc
      have d0 : wr.cell? ⟨blk', off' + k, none⟩ = some (.string s) := by rw [hs]; exact (HR.out.cell (p := ⟨blk', _, none⟩) hbl').trans hd
      have HB : Hid (∀ k, Below w.heap.size w (wr.drewN k)) := fun k => HR.out.trans ⟨rfl, rfl, rfl, Nat.le_refl _, fun _ _ => rfl⟩
      clear hc hcs hd hcs' hs
      go_upto_region 6 with fail
      go_quiet (fail)
      go_wp2_with fail
      go_roundw
      case rel => exact ⟨k + 1, by omega, by simp, HB.out _⟩
      case measure => simp [intOf]; omega
    · have hkz : ¬ (k : Int) < (ts.length : Int) := by omega
      go_wp2_with fail
      go_ret
      exact ⟨rfl, HR.out⟩
set_option maxHeartbeats 4000000 in
theorem rlots (ts : List Lot) (hl : ts.length ≤ 1000000) (a1 : Option Addr) (cap1 : Nat) (a2 : Option Addr) (cap2 : Nat) (w : World) (h1 : Lts w a1 ts) (h2 : Lts w a2 ts) : Calls Try.prog 18 #[.slice a1 ts.length cap1, .slice a2 ts.length cap2] w (SamP w) := by
  have H1 : Hid (Lts w a1 ts) := h1
  have H2 : Hid (Lts w a2 ts) := h2
  have hl' : (ts.length : Int) ≤ 1000000 := by omega
  clear h1 h2
  go_enter Try.func18, Try.ntmps18
  go_wp2_with fail
  go_loopw [5] (fun i wr => ∃ k : Nat, k ≤ ts.length ∧ i = .int .i64 k ∧ Hid (Below w.heap.size w wr))
    (fun i _ => ts.length - (intOf i).toNat)
  case atStart => exact ⟨0, Nat.zero_le _, rfl, Below.refl _ _⟩
  case round =>
    obtain ⟨k, hk, rfl, HR⟩ := hrel
    by_cases hkn : k < ts.length
    · have hkz : (k : Int) < (ts.length : Int) := by omega
      obtain ⟨blk, off, rfl, hbl, hcs⟩ := H1.out (by omega)
      obtain ⟨blk', off', rfl, hbl', hcs'⟩ := H2.out (by omega)
      have hc := hcs k hkn
      have hd := hcs' k hkn
      generalize ts[k] = x at *
      obtain ⟨s, n⟩ := x
      have c0 : wr.cell? ⟨blk, off + k * 2, none⟩ = some (.string s) := (HR.out.cell (p := ⟨blk, off + k * 2 + 0, none⟩) hbl).trans (hc 0 (by omega))
      have c1 : wr.cell? ⟨blk, off + k * 2 + 1, none⟩ = some (.int .i64 n) := (HR.out.cell (p := ⟨blk, off + k * 2 + 1, none⟩) hbl).trans (hc 1 (by omega))
      have d0 : wr.cell? ⟨blk', off' + k * 2, none⟩ = some (.string s) := (HR.out.cell (p := ⟨blk', off' + k * 2 + 0, none⟩) hbl').trans (hd 0 (by omega))
      have d1 : wr.cell? ⟨blk', off' + k * 2 + 1, none⟩ = some (.int .i64 n) := (HR.out.cell (p := ⟨blk', off' + k * 2 + 1, none⟩) hbl').trans (hd 1 (by omega))
      have HB : Hid (∀ k, Below w.heap.size w (wr.drewN k)) := fun k => HR.out.trans ⟨rfl, rfl, rfl, Nat.le_refl _, fun _ _ => rfl⟩
      clear hc hcs hd hcs'
      go_upto_region 6 with fail
      go_quiet (fail)
      go_wp2_with fail
      go_roundw
      case rel => exact ⟨k + 1, by omega, by simp, HB.out _⟩
      case measure => simp [intOf]; omega
    · have hkz : ¬ (k : Int) < (ts.length : Int) := by omega
      go_wp2_with fail
      go_ret
      exact ⟨rfl, HR.out⟩
theorem xcthings (c q m : Nat) (L : List Num.Bal) (hl : L.length ≤ 1000000) (hb : ∀ p ∈ L, p.1.2.2.length ≤ 281474976710656) (w : World) (h : Cu w c q m L) : Calls Try.prog 22 #[.pointer (some ⟨c, 0, none⟩)] w (ThP L w) := by
  have HK : Hid (Calls Try.prog 41 #[.pointer (some ⟨c, 0, none⟩)] w fun e w' => e = .returned (.pointer (some ⟨q, 0, none⟩)) ∧ w = w') := xkept c q m L w h
  have HA : Hid (Calls Try.prog 45 #[.pointer (some ⟨q, 0, none⟩)] w fun e w' => ∃ v, e = .returned v ∧ Hid (ThP L w (.returned v) w')) := (xthings q m L hl hb w h.l).mono fun e w' hh => by
    obtain ⟨a, cap, rfl, h2⟩ := hh
    exact ⟨_, rfl, a, cap, rfl, h2⟩
  clear h hb hl
  go_enter Try.func22, Try.ntmps22
  go_wp2_with (first | (go_at_call 41; refine HK.out.mono ?_; rintro e w1 ⟨rfl, rfl⟩; clear HK) | (go_at_call 45; refine HA.out.mono ?_; rintro e w1 ⟨v1, rfl, HZ⟩; clear HA))
  go_ret
  exact HZ.out
theorem xcout (c q m : Nat) (L : List Num.Bal) (s : ByteArray) (w : World) (h : Cu w c q m L) : Calls Try.prog 24 #[.pointer (some ⟨c, 0, none⟩), .string s] w fun e w' => e = .returned (.int .i64 (wrap64 (-(wrap64 (Num.hld 0 s.toList L))))) ∧ Below w.heap.size w w' := by
  have HK : Hid (Calls Try.prog 41 #[.pointer (some ⟨c, 0, none⟩)] w fun e w' => e = .returned (.pointer (some ⟨q, 0, none⟩)) ∧ w = w') := xkept c q m L w h
  have HA : Hid (Calls Try.prog 46 #[.pointer (some ⟨q, 0, none⟩), .string s] w fun e w' => e = .returned (.int .i64 (wrap64 (-(wrap64 (Num.hld 0 s.toList L))))) ∧ Below w.heap.size w w') := xout q m L s w h.l
  generalize wrap64 (-(wrap64 (Num.hld 0 s.toList L))) = G at *
  clear h
  go_enter Try.func24, Try.ntmps24
  go_wp2_with (first | (go_at_call 41; refine HK.out.mono ?_; rintro e w1 ⟨rfl, rfl⟩; clear HK) | (go_at_call 46; refine HA.out.mono ?_; rintro e w1 ⟨rfl, hb1⟩; clear HA))
  go_ret
  exact ⟨rfl, hb1⟩
end Go.Proofs.Ytbfnfebmmhhegaa
