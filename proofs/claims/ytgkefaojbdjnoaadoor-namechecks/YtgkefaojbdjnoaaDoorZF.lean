/- The laws' walks: Checks, Signs. -/
import Derived.Test.YtgkefaojbdjnoaaDoorZE
import Derived.WalkKit
import Derived.ProofKit
import Derived.Handy
import Derived.WalkLawsBesides
import Derived.WalkSpells
import Derived.BigQuiet
import Derived.BigCall
import Derived.Deep.QuietTactic
import Derived.Deep.Light
import Derived.Deep.OwnRows
import Derived.Laws.AppendOwnNone
import Derived.Laws.Strings3
import Derived.Laws.RangeAny
import Derived.Deep.RegionWith
import Derived.Lib.BitFns
import Derived.Lib.Walk
import Derived.Lib.Strings
import Derived.Lib.OthersKept
import Derived.Deep.CutBlock
import Derived.Deep.DeepCutAuto
import Derived.Deep.LoopGhost
import Derived.Deep.RegionHeld3
import Derived.Lib.SmallJoins
import Derived.Maps.AppendAt
import Derived.Laws.IdiomStrings
namespace Go.Proofs.YtgkefaojbdjnoaaDoor
open Go.RowKit
set_option linter.unusedVariables false
set_option linter.unusedSimpArgs false
theorem TRUE.of {w w1 w2 : World} {e : Ending} (hb : Below w.heap.size w w1) (h : TRUE w1 e w2) : TRUE w e w2 := ⟨h.1, hb.trans (h.2.mono hb.size)⟩
set_option maxRecDepth 100000 in
set_option maxHeartbeats 8000000 in
theorem lchecks (s : ByteArray) (hs : s.size ≤ 9223372036854775807) (w : World) (ht : Tab w) : Calls Tryd.prog 3 #[.string s] w (TRUE w) := by
  have HT : Hid (Tab w) := ht
  clear ht
  go_enter Tryd.func3, Tryd.ntmps3
  go_wp2_with fail
  refine (xcheck s hs _).mono ?_
  rintro e w1 ⟨rfl, hb1⟩
  go_wp2_with fail
  refine (rcheck s hs _).mono ?_
  rintro e w2 ⟨rfl, hb2⟩
  have HB2 : Hid (Below w.heap.size w w2) := hb1.trans (hb2.mono hb1.size)
  clear hb1 hb2
  generalize chk s.data.toList = X at *
  obtain ⟨x, y⟩ := X
  go_wp2_with fail
  refine (awake _ (HT.out.below HB2.out)).mono ?_
  rintro e w3 ⟨rfl, hb3⟩
  go_wp2_with fail
  go_ret
  exact ⟨rfl, HB2.out.trans (hb3.mono HB2.out.size)⟩
set_option maxRecDepth 100000 in
set_option maxHeartbeats 8000000 in
theorem lsigns (s : ByteArray) (w : World) (ht : Tab w) : Calls Tryd.prog 4 #[.string s] w (TRUE w) := by
  have HT : Hid (Tab w) := ht
  clear ht
  by_cases hz : 2000 < s.size
  · have hz' : 2000 < (s.size : Int) := by omega
    clear hz
    go_enter Tryd.func4, Tryd.ntmps4
    go_wp2_with fail
    refine (awake _ HT.out).mono ?_
    rintro e w3 ⟨rfl, hb3⟩
    go_wp2_with fail
    go_ret
    exact ⟨rfl, hb3⟩
  have hz' : ¬ 2000 < (s.size : Int) := by omega
  have hz2 : s.size ≤ 2000 := by omega
  clear hz
  go_enter Tryd.func4, Tryd.ntmps4
  go_wp2_with fail
  refine (xrunes s (by omega) _).mono ?_
  rintro e w1 ⟨v0, rfl, hs0, hb1⟩
  go_wp2_with fail
  refine (rsigns s (by omega) _).mono ?_
  rintro e w2 ⟨v1, v2, rfl, hs1, hs2, hb2⟩
  have hs0' := hs0.below hb2
  have HB2 : Hid (Below w.heap.size w w2) := hb1.trans (hb2.mono hb1.size)
  have hcl : (cs s.data.toList 0).length ≤ s.size := cs_len s.data.toList
  have HV : Hid (∀ k, k < (cs s.data.toList 0).length → Vl ((cs s.data.toList 0).getD k 0)) := fun k hk => cs_at hk
  have HC : Hid (∀ w, Calls Tryd.prog 14 #[.string s] w fun e w' => e = .returned (.int .i64 (cs s.data.toList 0).length) ∧ Below w.heap.size w w') := fun w => xcount s (by omega) w
  clear hs0 hb1 hb2 hs2
  obtain ⟨a0, cap0, rfl, hg0⟩ := hs0'
  obtain ⟨a1, cap1, rfl, hg1⟩ := hs1
  have HG0 : Hid _ := hg0
  have HG1 : Hid _ := hg1
  clear hg0 hg1
  generalize cs s.data.toList 0 = xs at *
  generalize ok s.data.toList 0 = g at *
  cases g
  all_goals
    go_wp2_with fail
    refine Calls.mono (HC.out _) ?_
    rintro e w3 ⟨rfl, hb3⟩
    have HB3 : Hid (Below w2.heap.size w2 w3) := hb3
    clear hb3
    go_wp2_with fail
    go_loopw [8] (fun i wr => ∃ k : Nat, i = .int .i64 k ∧ k ≤ xs.length ∧ Hid (Below w2.heap.size w2 wr)) (fun i _ => xs.length - (Lib.intOf i).toNat)
    case atStart => exact ⟨0, rfl, Nat.zero_le _, HB3⟩
    case round =>
      obtain ⟨k, rfl, hk, hbr⟩ := hrel
      by_cases hkn : k < xs.length
      · have hkz : (k : Int) < (xs.length : Int) := by omega
        obtain ⟨b, rfl, hlt, hc⟩ := HG0.out (by intro e; rw [e] at hkn; simp at hkn)
        obtain ⟨b1, rfl, hlt1, hc1⟩ := HG1.out (by intro e; rw [e] at hkn; simp at hkn)
        have hck : wr.cell? ⟨b, k, none⟩ = some (.int .i32 ((xs.getD k 0 : Nat) : Int)) := (hbr.out.cell (by exact hlt)).trans (hc k hkn)
        have hck1 : wr.cell? ⟨b1, k, none⟩ = some (.int .i64 ((xs.getD k 0 : Nat) : Int)) := (hbr.out.cell (by exact hlt1)).trans (hc1 k hkn)
        have hv := (HV.out k hkn).le
        clear hc hc1
        generalize xs.getD k 0 = c at *
        go_wp2_with fail
        go_quiet (fail)
        go_wp2
        go_roundw
        case rel => exact ⟨k + 1, by go_num, by omega, below_drewN hbr.out _⟩
        case measure =>
          simp [Lib.intOf]
          omega
      · have hkz : ¬ (k : Int) < (xs.length : Int) := by omega
        have HBr : Hid (Below w.heap.size w wr) := HB2.out.trans (hbr.out.mono HB2.out.size)
        go_wp2_with fail
        refine (awake _ (HT.out.below HBr.out)).mono ?_
        rintro e w4 ⟨rfl, hb4⟩
        go_wp2_with fail
        go_ret
        exact ⟨rfl, HBr.out.trans (hb4.mono HBr.out.size)⟩
end Go.Proofs.YtgkefaojbdjnoaaDoor
