/- layer 17: what is in both, by the document -/
import Derived.Test.YtheikjjehidagaaNN
import Derived.WalkKit
import Derived.ProofKit
import Derived.Handy
import Derived.WalkLawsBesides
import Derived.WalkSpells
import Derived.BigQuiet
import Derived.BigCall
import Derived.Deep.QuietTactic
import Derived.Deep.Light
import Derived.Deep.OwnRows
import Derived.Laws.AppendOwnNone
import Derived.Laws.Strings3
import Derived.Laws.RangeAny
import Derived.Deep.RegionWith
import Derived.Lib.BitFns
import Derived.Lib.Walk
import Derived.Lib.Strings
import Derived.Lib.OthersKept
import Derived.Deep.CutBlock
import Derived.Deep.DeepCutAuto
import Derived.Deep.LoopGhost
import Derived.Deep.RegionHeld3
import Derived.Lib.SmallJoins
import Derived.Maps.AppendAt
import Derived.Laws.IdiomStrings
import Derived.Lib.AppendZeros
import Derived.Deep.WholeRow
import Derived.Laws.BitsAllLaws
import Derived.Lib.ConvBytes
import Derived.Deep.RegionLaw
import Derived.Maps.OwnSet
import Derived.Maps.OwnOps
import Derived.Maps.RangeWalk
import Derived.Maps.Ext
import Derived.DeepKeys4
import Derived.Laws.StructEq
import Derived.Deep.MidRow
import Derived.Lib.Bytealg
import Derived.Lib.AppendZerosOnto
import Derived.Laws.MakeOwn
import Derived.Deep.Upon
import Derived.Sort.KeysCollected
namespace Go.Proofs.Ytheikjjehidagaa
open Go.RowKit
set_option linter.unusedVariables false
set_option linter.unusedSimpArgs false
set_option maxRecDepth 20000
set_option maxHeartbeats 16000000 in
theorem rboth (a b : List Lt) (ga : Good a) (gb : Good b) (ad : Option Addr) (cap : Nat) (ad2 : Option Addr) (cap2 : Nat) (w : World) (h : Rw 2 lcs w ad a) (h2 : Rw 2 lcs w ad2 b) : Calls Try.prog 21 #[.slice ad a.length cap, .slice ad2 b.length cap2] w (BtP a b w) := by
  have HE : Hid (Rw 2 lcs w ad a) := h
  have HE2 : Hid (Rw 2 lcs w ad2 b) := h2
  have HL : Hid (a.length ≤ 64 ∧ b.length ≤ 64) := ⟨ga.len, gb.len⟩
  have hlz : (a.length : Int) ≤ 64 := by have := ga.len; omega
  clear h h2 ga gb
  go_enter Try.func21, Try.ntmps21
  go_wp2_with fail
  go_loopw [5, 6] (fun s i wr => ∃ (k : Nat) (v : Value), k ≤ a.length ∧ v = s ∧ i = .int .i64 k ∧ Hid (Ol w.heap.size wr v (pick (fun x => min x.n (qty b (key x))) (a.take k)) ∧ Below w.heap.size w wr))
    (fun _ i _ => a.length - (intOf i).toNat)
  case atStart => exact ⟨0, _, Nat.zero_le _, rfl, rfl, World.ownsRow_nil _ _ _ _, Below.refl _ _⟩
  case round =>
    obtain ⟨k, v, hk, rfl, rfl, HR⟩ := hrel
    by_cases hkn : k < a.length
    · have hkz : (k : Int) < (a.length : Int) := by omega
      obtain ⟨blk, off, rfl, hbl, hcs⟩ := HE.out (by omega)
      obtain ⟨c0, c1⟩ := Rw.at2 hcs HR.out.2 hbl hkn
      have HK1 : Hid (∀ W, Below wr.heap.size wr W → W.cell? ⟨blk, off + k * 2, none⟩ = some (.string a[k].i) ∧ W.cell? ⟨blk, off + k * 2 + 1, none⟩ = some (.int .i64 a[k].n)) := fun W hb => Rw.at2 hcs (HR.out.2.trans (hb.mono HR.out.2.size)) hbl hkn
      have HC : Hid (Calls Try.prog 23 #[.slice ad2 b.length cap2, .string a[k].i] wr (QtP b (key a[k]) wr)) := rqty b (by have := HL.out.2; omega) a[k].i ad2 cap2 wr (HE2.out.below HR.out.2)
      have hpl : (pick (fun x => min x.n (qty b (key x))) (a.take k)).length ≤ 64 := by
        have := pick_len (fun x => min x.n (qty b (key x))) (a.take k)
        rw [List.length_take] at this
        have := HL.out.1
        omega
      have HA : Hid (∀ W, Below wr.heap.size wr W → ∀ N, N = min a[k].n (qty b (key a[k])) → 0 < N → ∃ v' w6, (Builtin.append_ #[22, 22] 22 #[v, .slice (some ⟨W.heap.size, 0, none⟩) 1 1]).run Try.prog (W.alloc (.cells #[.string a[k].i, .int .i64 N] 43)) = .ok v' w6 ∧ Hid (Ol w.heap.size w6 v' (pick (fun x => min x.n (qty b (key x))) (a.take (k + 1))) ∧ Below w.heap.size w w6)) := fun W hb N hN h0 => by
        have hB := HR.out.2.size
        obtain ⟨v', w6, hr, HZ⟩ := ap_lot HR.out.1 hB (by omega) ⟨a[k].i, N⟩ hb
        refine ⟨v', w6, hr, ?_, HR.out.2.trans (HZ.out.below HR.out.1 hB)⟩
        rw [pick_take hkn, if_pos (by show 0 < min _ _; rw [← hN]; exact h0), ← hN]
        exact HZ.out.o
      have HN : Hid (∀ W, Below wr.heap.size wr W → ∀ N, N = min a[k].n (qty b (key a[k])) → ¬ 0 < N → Hid (Ol w.heap.size W v (pick (fun x => min x.n (qty b (key x))) (a.take (k + 1))) ∧ Below w.heap.size w W)) := fun W hb N hN h0 => by
        refine ⟨?_, HR.out.2.trans (hb.mono HR.out.2.size)⟩
        rw [pick_take hkn, if_neg (by show ¬ 0 < min _ _; rw [← hN]; exact h0), List.append_nil]
        exact own_below HR.out.1 hb
      clear HR hcs hpl
      unfold QtP at HC
      generalize qty b (key a[k]) = N at *
      generalize a[k] = x at *
      obtain ⟨xi, xn⟩ := x
      simp only at *
      by_cases hlt : xn < N
      · have hm : xn = min xn N := by omega
        by_cases h0 : 0 < xn
        · go_wp2_with (first | (go_at_call 23; refine HC.out.mono ?_; clear HC; rintro e w2 ⟨rfl, hb2⟩; obtain ⟨d0, d1⟩ := HK1.out w2 hb2; clear HK1 HN; obtain ⟨v', w6, hr6, HZ⟩ := HA.out w2 hb2 xn hm h0; clear HA hm hb2) | (at_builtin; refine Lib.wpList_append_run _ rfl _ _ 22 22 rfl _ _ rfl rfl _ w6 hr6 ?_))
          go_roundw
          case rel => exact ⟨k + 1, v', by omega, rfl, by simp, HZ.out⟩
          case measure => simp [intOf]; omega
        · go_wp2_with (first | (go_at_call 23; refine HC.out.mono ?_; clear HC; rintro e w2 ⟨rfl, hb2⟩; obtain ⟨d0, d1⟩ := HK1.out w2 hb2; clear HK1 HA; have HZ := HN.out w2 hb2 xn hm h0; clear HN hm hb2))
          go_roundw
          case rel => exact ⟨k + 1, v, by omega, rfl, by simp, HZ.out⟩
          case measure => simp [intOf]; omega
      · have hm : N = min xn N := by omega
        by_cases h0 : 0 < N
        · go_wp2_with (first | (go_at_call 23; refine HC.out.mono ?_; clear HC; rintro e w2 ⟨rfl, hb2⟩; obtain ⟨d0, d1⟩ := HK1.out w2 hb2; clear HK1 HN; obtain ⟨v', w6, hr6, HZ⟩ := HA.out w2 hb2 N hm h0; clear HA hm hb2) | (at_builtin; refine Lib.wpList_append_run _ rfl _ _ 22 22 rfl _ _ rfl rfl _ w6 hr6 ?_))
          go_roundw
          case rel => exact ⟨k + 1, v', by omega, rfl, by simp, HZ.out⟩
          case measure => simp [intOf]; omega
        · go_wp2_with (first | (go_at_call 23; refine HC.out.mono ?_; clear HC; rintro e w2 ⟨rfl, hb2⟩; obtain ⟨d0, d1⟩ := HK1.out w2 hb2; clear HK1 HA; have HZ := HN.out w2 hb2 N hm h0; clear HN hm hb2))
          go_roundw
          case rel => exact ⟨k + 1, v, by omega, rfl, by simp, HZ.out⟩
          case measure => simp [intOf]; omega
    · have hkz : ¬ (k : Int) < (a.length : Int) := by omega
      have hO : Ol w.heap.size wr v (bth a b) := by
        have := HR.out.1
        rwa [List.take_of_length_le (by omega)] at this
      obtain ⟨a', cap', rfl, _, hr⟩ := Ol.read hO
      have HF : Hid (BtP a b w (.returned (.slice a' (bth a b).length cap')) wr) := ⟨a', cap', rfl, hr, HR.out.2⟩
      clear HR hO hr
      go_wp2_with fail
      go_ret
      exact HF.out
end Go.Proofs.Ytheikjjehidagaa
