/- layer 17: the law Checks -/
import Derived.Test.YtheikjjehidagaaNP
import Derived.WalkKit
import Derived.ProofKit
import Derived.Handy
import Derived.WalkLawsBesides
import Derived.WalkSpells
import Derived.BigQuiet
import Derived.BigCall
import Derived.Deep.QuietTactic
import Derived.Deep.Light
import Derived.Deep.OwnRows
import Derived.Laws.AppendOwnNone
import Derived.Laws.Strings3
import Derived.Laws.RangeAny
import Derived.Deep.RegionWith
import Derived.Lib.BitFns
import Derived.Lib.Walk
import Derived.Lib.Strings
import Derived.Lib.OthersKept
import Derived.Deep.CutBlock
import Derived.Deep.DeepCutAuto
import Derived.Deep.LoopGhost
import Derived.Deep.RegionHeld3
import Derived.Lib.SmallJoins
import Derived.Maps.AppendAt
import Derived.Laws.IdiomStrings
import Derived.Lib.AppendZeros
import Derived.Deep.WholeRow
import Derived.Laws.BitsAllLaws
import Derived.Lib.ConvBytes
import Derived.Deep.RegionLaw
import Derived.Maps.OwnSet
import Derived.Maps.OwnOps
import Derived.Maps.RangeWalk
import Derived.Maps.Ext
import Derived.DeepKeys4
import Derived.Laws.StructEq
import Derived.Deep.MidRow
import Derived.Lib.Bytealg
import Derived.Lib.AppendZerosOnto
import Derived.Laws.MakeOwn
import Derived.Deep.Upon
import Derived.Sort.KeysCollected
namespace Go.Proofs.Ytheikjjehidagaa
open Go.RowKit
set_option linter.unusedVariables false
set_option linter.unusedSimpArgs false
set_option maxRecDepth 20000
theorem big_eq (n : Int) : (n == n) = true := by simp
set_option maxHeartbeats 16000000 in
theorem lchecks (l : List Lt) (ad : Option Addr) (cap : Nat) (w : World) (hc : l.length ≤ cap) (h : Rw 2 lcs w ad l) (hs : ∀ x ∈ l, x.i.size ≤ 281474976710656) (hn : l.length ≤ 10000000000000) : Calls Try.prog 3 #[.slice ad l.length cap] w (BbP true w) := by
  have HAw : Hid (∀ W, Below w.heap.size w W → Calls Try.prog 8 #[] W fun e w' => e = .returned (.bool true) ∧ Hid (Below w.heap.size w w')) := fun W hb => (xawake W).mono fun e w' hh => ⟨hh.1, hb.trans (hh.2.mono hb.size)⟩
  by_cases h200 : 200 < l.length
  · have hz : (200 : Int) < (l.length : Int) := by omega
    clear h hs
    go_enter Try.func3, Try.ntmps3
    go_wp2_with (go_at_call 8; refine (HAw.out _ (Below.refl _ w)).mono ?_; clear HAw; rintro e w1 ⟨rfl, HB⟩)
    go_ret
    exact ⟨rfl, HB.out⟩
  · have hz : ¬ (200 : Int) < (l.length : Int) := by omega
    have hl : l.length ≤ 1000000 := by omega
    have H1 : Hid (Calls Try.prog 9 #[.slice ad l.length cap] w fun e w' => e = .returned (.tuple #[.int .i64 (chk l).1, .int .i64 (chk l).2]) ∧ Hid (Below w.heap.size w w')) := (xcheck l hl ad cap w h).mono fun e w' hh => ⟨hh.1, hh.2⟩
    have H2 : Hid (∀ W, Below w.heap.size w W → Calls Try.prog 10 #[.slice ad l.length cap] W fun e w' => e = .returned (.tuple #[.int .i64 (chk l).1, .int .i64 (chk l).2]) ∧ Hid (Below w.heap.size w w')) := fun W hb => (rcheck l hl ad cap W (h.below hb)).mono fun e w' hh => ⟨hh.1, hb.trans (hh.2.mono hb.size)⟩
    have H3 : Hid (∀ W, Below w.heap.size w W → Calls Try.prog 11 #[.slice ad l.length cap] W fun e w' => ∃ a1 c1, e = .returned (.tuple #[.slice a1 (mrg [] l).1.length c1, .int .i64 (mrg [] l).2]) ∧ Hid (Rw 2 lcs w' a1 (mrg [] l).1 ∧ Below w.heap.size w w')) := fun W hb => (xmerge l hl hs ad cap W (h.below hb)).mono fun e w' hh => by
      obtain ⟨a1, c1, rfl, HZ⟩ := hh
      exact ⟨a1, c1, rfl, HZ.out.1, hb.trans (HZ.out.2.mono hb.size)⟩
    have H4 : Hid (∀ W a1, Rw 2 lcs W a1 (mrg [] l).1 → Below w.heap.size w W → Calls Try.prog 12 #[.slice ad l.length cap] W fun e w' => ∃ a2 c2, e = .returned (.tuple #[.slice a2 (mrg [] l).1.length c2, .int .i64 (mrg [] l).2]) ∧ Hid (Rw 2 lcs w' a1 (mrg [] l).1 ∧ Rw 2 lcs w' a2 (mrg [] l).1 ∧ Below w.heap.size w w')) := fun W a1 h1 hb => (rmerge l hl ad cap hc W (h.below hb)).mono fun e w' hh => by
      obtain ⟨a2, c2, rfl, HZ⟩ := hh
      exact ⟨a2, c2, rfl, h1.below HZ.out.2, HZ.out.1, hb.trans (HZ.out.2.mono hb.size)⟩
    have hml : (mrg [] l).1.length ≤ 64 := by
      by_cases e : (mrg [] l).2 = 0
      · exact (mrg_good (b := l) Good.nil e).len
      · rw [mrg_bad e]; simp
    have H5 : Hid (∀ W a1 c1 a2 c2, Rw 2 lcs W a1 (mrg [] l).1 → Rw 2 lcs W a2 (mrg [] l).1 → Below w.heap.size w W → Calls Try.prog 13 #[.slice a1 (mrg [] l).1.length c1, .slice a2 (mrg [] l).1.length c2] W fun e w' => e = .returned (.bool true) ∧ Below w.heap.size w w') := fun W a1 c1 a2 c2 h1 h2 hb => (rlots _ (by omega) a1 c1 a2 c2 W h1 h2).mono fun e w' hh => ⟨hh.1, hb.trans (hh.2.mono hb.size)⟩
    clear h hs hc hn hml
    generalize (chk l).1 = p at *
    generalize (chk l).2 = q at *
    generalize (mrg [] l).2 = r at *
    generalize (mrg [] l).1 = M at *
    go_enter Try.func3, Try.ntmps3
    go_wp2_with (first | (go_at_call 9; refine H1.out.mono ?_; clear H1; rintro e w1 ⟨rfl, HB1⟩) | (go_at_call 10; refine (H2.out _ HB1.out).mono ?_; clear H2 HB1; rintro e w2 ⟨rfl, HB2⟩) | (go_at_call 11; refine (H3.out _ HB2.out).mono ?_; clear H3 HB2; rintro e w3 ⟨a1, c1, rfl, HB3⟩) | (go_at_call 12; refine (H4.out _ _ HB3.out.1 HB3.out.2).mono ?_; clear H4 HB3; rintro e w4 ⟨a2, c2, rfl, HB4⟩) | (go_at_call 13; refine (H5.out _ _ _ _ _ HB4.out.1 HB4.out.2.1 HB4.out.2.2).mono ?_; clear H5 HB4; rintro e w5 ⟨rfl, hb5⟩; replace hb5 := hid_in hb5) | (go_at_call 8; refine (HAw.out _ hb5.out).mono ?_; clear HAw hb5; rintro e w6 ⟨rfl, HB6⟩))
    go_ret
    exact ⟨rfl, HB6.out⟩
end Go.Proofs.Ytheikjjehidagaa
