/- FixnumMul: for every input the law returns true. No condition. Here: the walk of the law itself, out of the walks of what it calls. -/
import Derived.Test.YtjjcjgighdidcaaL
import Derived.Test.YtjjcjgighdidcaaI
import Derived.WalkKit
import Derived.ProofKit
import Derived.Handy
import Derived.WalkLawsBesides
import Derived.WalkSpells
import Derived.BigQuiet
import Derived.Deep.QuietTactic
import Derived.Deep.Light
import Derived.Deep.OwnRows
import Derived.Laws.AppendOwnNone
namespace Go.Proofs.Ytjjcjgighdidcaa
open Go.RowKit
set_option linter.unusedVariables false
set_option linter.unusedSimpArgs false
theorem mul_walk (a b : Int) (w : World) (ha : 0 ≤ a ∧ a < 18446744073709551616) (hb : 0 ≤ b ∧ b < 18446744073709551616) : Calls Try.prog 3 #[.int .u64 a, .int .u64 b] w (TruePost w) := by
  go_enter Try.func3, Try.ntmps3
  go_wp2_with fail
  refine (xmul a b ha hb _).mono ?_
  rintro e w1 ⟨ph, pl, rfl, bph, bpl, hprod, hb1⟩
  have Hb1 : Hid _ := hb1
  clear hb1
  go_wp2_with fail
  refine (rof a _ ha).mono ?_
  rintro e w2 ⟨va, da, rfl, hoa, hna, hb2, -⟩
  have Hoa : Hid _ := hoa
  have Hb2 : Hid _ := hb2
  clear hoa hb2
  go_wp2_with fail
  refine (rof b _ hb).mono ?_
  rintro e w3 ⟨vb, db, rfl, hob, hnb, hb3, -⟩
  have Hob : Hid _ := hob
  have Hb3 : Hid _ := hb3
  clear hob hb3
  go_wp2_with fail
  refine (rmul da db va vb _ hna.out.1.1 hnb.out.1.1 (by have := hna.out.2.2; omega) (by have := hnb.out.2.2; omega) (Dig.below (Own.dig Hoa.out) Hb3.out) (Own.dig Hob.out)).mono ?_
  rintro e w4 ⟨vp, dp, rfl, hop, hnp, hb4⟩
  have Hop : Hid _ := hop
  have Hb4 : Hid _ := hb4
  clear hop hb4
  go_wp2_with fail
  refine (lis ph pl vp dp _ bph bpl hnp.out.1 (by have := hnp.out.2.2; have := hna.out.2.2; have := hnb.out.2.2; omega) (Own.dig Hop.out)).mono ?_
  rintro e w5 ⟨rfl, hb5⟩
  rw [decide_eq_true (by rw [hprod.out, hnp.out.2.1, hna.out.2.1, hnb.out.2.1])]
  have Hb5 : Hid _ := hb5
  clear hb5
  go_wp2_with fail
  refine (awake_true _).mono ?_
  rintro e w6 ⟨rfl, hb6⟩
  go_wp2
  go_ret
  have h1 := Below.trans Hb1.out (Hb2.out.mono Hb1.out.size)
  have h2 := h1.trans (Hb3.out.mono h1.size)
  have h3 := h2.trans (Hb4.out.mono h2.size)
  have h4 := h3.trans (Hb5.out.mono h3.size)
  exact ⟨rfl, h4.trans (hb6.mono h4.size)⟩
end Go.Proofs.Ytjjcjgighdidcaa
