/- FixnumMulDiv and FixnumShares: for every input the laws return true. No condition. Here: the walks of the laws themselves, out of the walks of what they call. -/
import Derived.Test.YtjjcjgighdidcaaV
import Derived.Test.YtjjcjgighdidcaaY
import Derived.Test.YtjjcjgighdidcaaI
import Derived.WalkKit
import Derived.ProofKit
import Derived.Handy
import Derived.WalkLawsBesides
import Derived.WalkSpells
import Derived.BigQuiet
import Derived.Deep.QuietTactic
import Derived.Deep.Light
import Derived.Deep.OwnRows
import Derived.Laws.AppendOwnNone
import Derived.Deep.RegionWith
import Derived.Lib.BitFns
import Derived.Lib.Walk
import Derived.Deep.CutBlock
import Derived.Deep.DeepCutAuto
import Derived.Deep.LoopGhost
namespace Go.Proofs.Ytjjcjgighdidcaa
open Go.RowKit
set_option linter.unusedVariables false
set_option linter.unusedSimpArgs false
theorem muldiv_walk (a b c how : Int) (w : World) (ha : -9223372036854775808 ≤ a ∧ a ≤ 9223372036854775807) (hb : -9223372036854775808 ≤ b ∧ b ≤ 9223372036854775807) (hc : -9223372036854775808 ≤ c ∧ c ≤ 9223372036854775807) :
    Calls Try.prog 6 #[.int .i64 a, .int .i64 b, .int .i64 c, .int .i64 how] w (TruePost w) := by
  go_enter Try.func6, Try.ntmps6
  go_wp2_with fail
  refine (xmuldiv a b c how ha hb hc _ (Or.inr xdiv64)).mono ?_
  rintro e w1 ⟨rfl, hb1⟩
  have Hb1 : Hid (Below w.heap.size w w1) := hb1
  clear hb1
  go_wp2_with fail
  refine (rmuldiv a b c how ha hb hc _).mono ?_
  rintro e w2 ⟨rfl, hb2⟩
  have Hb2 : Hid (Below w.heap.size w w2) := Hb1.out.trans (hb2.mono Hb1.out.size)
  clear hb2
  generalize mdS a b c how = p
  generalize mdE a b c how = q
  go_wp2_with fail
  refine (awake_true _).mono ?_
  rintro e w3 ⟨rfl, hb3⟩
  have Hb3 : Hid (Below w.heap.size w w3) := Hb2.out.trans (hb3.mono Hb2.out.size)
  clear hb3
  go_wp2
  go_ret
  exact ⟨rfl, Hb3.out⟩

theorem shares_walk (a : Int) (v : Value) (xs : List Int) (w : World) (ha : -9223372036854775808 ≤ a ∧ a ≤ 9223372036854775807) (hx : Ints xs) (hv : Seg w v xs) : Calls Try.prog 8 #[.int .i64 a, v] w (TruePost w) := by
  have HX : Hid (Ints xs) := hx
  have HV : Hid (Seg w v xs) := hv
  clear hx hv
  go_enter Try.func8, Try.ntmps8
  go_wp2_with fail
  refine (xshare a xs v _ ha HX.out HV.out (Or.inr xdiv64)).mono ?_
  rintro e w1 ⟨v1, rfl, hs1, hb1⟩
  have Hs1 : Hid (Seg w1 v1 (shareL a xs)) := hs1
  have Hb1 : Hid (Below w.heap.size w w1) := hb1
  have HV1 : Hid (Seg w1 v xs) := Seg.below HV.out hb1
  clear hs1 hb1 HV
  go_wp2_with fail
  refine (rshare a xs v _ ha HX.out HV1.out (fun a b c how h1 h2 h3 w => rmuldiv a b c how h1 h2 h3 w)).mono ?_
  rintro e w2 ⟨v2, rfl, hs2, hb2⟩
  have Hs2 : Hid (Seg w2 v2 (shareL a xs)) := hs2
  have Hb2 : Hid (Below w.heap.size w w2) := Hb1.out.trans (hb2.mono Hb1.out.size)
  have Hs12 : Hid (Seg w2 v1 (shareL a xs)) := Seg.below Hs1.out hb2
  clear hs2 hb2 Hs1 HV1
  generalize shareE a xs = p
  go_wp2_with fail
  refine (rints (shareL a xs) (shareL a xs) v1 v2 _ ?_ Hs12.out Hs2.out).mono ?_
  · by_cases h : shareE a xs = 0
    · rw [shareL, if_pos h, giveS_length]
      simp [parts]
      exact HX.out.2
    · rw [shareL, if_neg h]
      decide
  rintro e w3 ⟨rfl, n, rfl⟩
  rw [decide_eq_true rfl]
  go_wp2_with fail
  refine (awake_true _).mono ?_
  rintro e w4 ⟨rfl, hb4⟩
  have h1 : Below w.heap.size w (w2.drewN n) := below_drewN Hb2.out
  have Hb4 : Hid (Below w.heap.size w w4) := h1.trans (hb4.mono h1.size)
  clear hb4 h1
  go_wp2
  go_ret
  exact ⟨rfl, Hb4.out⟩
end Go.Proofs.Ytjjcjgighdidcaa
