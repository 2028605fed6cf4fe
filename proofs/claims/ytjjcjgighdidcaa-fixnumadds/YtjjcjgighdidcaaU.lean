/- FixnumDiv: for every input the law returns true. No condition. Here: the walk of the law itself, out of the walks of what it calls. -/
import Derived.Test.YtjjcjgighdidcaaT
import Derived.Test.YtjjcjgighdidcaaR
import Derived.Test.YtjjcjgighdidcaaI
import Derived.WalkKit
import Derived.ProofKit
import Derived.Handy
import Derived.WalkLawsBesides
import Derived.WalkSpells
import Derived.BigQuiet
import Derived.Deep.QuietTactic
import Derived.Deep.Light
import Derived.Deep.OwnRows
import Derived.Laws.AppendOwnNone
import Derived.Deep.RegionWith
import Derived.Lib.BitFns
import Derived.Lib.Walk
import Derived.Deep.CutBlock
import Derived.Deep.DeepCutAuto
import Derived.Deep.LoopGhost
namespace Go.Proofs.Ytjjcjgighdidcaa
open Go.RowKit
set_option linter.unusedVariables false
set_option linter.unusedSimpArgs false
theorem cell_kept {w w' : World} (hb : Below w.heap.size w w') {p : Addr} {v : Value} (h : w.cell? p = some v) : w'.cell? p = some v := (hb.cell (World.block_lt_of_cell? w p h)).trans h

theorem div_unique {x y q r q' r' : Int} (h : q * y + r = x) (hr : 0 ≤ r ∧ r < y) (h' : q' * y + r' = x) (hr' : 0 ≤ r' ∧ r' < y) : q = q' ∧ r = r' := by
  have h1 := (Int.ediv_emod_unique (a := x) (b := y) (r := r) (q := q) (by omega)).2 ⟨by rw [Int.mul_comm y q]; omega, hr.1, hr.2⟩
  have h2 := (Int.ediv_emod_unique (a := x) (b := y) (r := r') (q := q') (by omega)).2 ⟨by rw [Int.mul_comm y q']; omega, hr'.1, hr'.2⟩
  exact ⟨h1.1.symm.trans h2.1, h1.2.symm.trans h2.2⟩

theorem div_walk_zero (a b : Int) (w : World) : Calls Try.prog 5 #[.int .u64 a, .int .u64 b, .int .u64 0] w (TruePost w) := by
  go_enter Try.func5, Try.ntmps5
  go_wp2_with fail
  refine (xdiv_none a b _).mono ?_
  rintro e w1 ⟨rfl, hb1⟩
  have Hb1 : Hid _ := hb1
  clear hb1
  go_wp2_with fail
  refine (awake_true _).mono ?_
  rintro e w2 ⟨rfl, hb2⟩
  have Hb2 : Hid _ := hb2
  clear hb2
  go_wp2
  go_ret
  have h1 := Below.alloc Hb1.out Hb1.out.size (Obj.cells #[Value.int IntKind.u64 0, Value.int IntKind.u64 0] 25)
  exact ⟨rfl, h1.trans (Hb2.out.mono h1.size)⟩

theorem div_walk (a b d : Int) (w : World) (ha : 0 ≤ a ∧ a < 18446744073709551616) (hb : 0 ≤ b ∧ b < 18446744073709551616) (hd : 0 ≤ d ∧ d < 18446744073709551616) : Calls Try.prog 5 #[.int .u64 a, .int .u64 b, .int .u64 d] w (TruePost w) := by
  by_cases h0 : d = 0
  · subst h0
    exact div_walk_zero a b w
  have g0 : (d == 0) = false := by simp [h0]
  go_enter Try.func5, Try.ntmps5
  go_wp2_with fail
  refine (xdiv a b d ha hb (by omega) _ (Or.inr xdiv64)).mono ?_
  rintro e w1 ⟨qh, ql, r, rfl, bqh, bql, br, hq, hb1⟩
  have hB1 := Below.alloc hb1 hb1.size (Obj.cells #[Value.int IntKind.u64 qh, Value.int IntKind.u64 ql] 25)
  have HB1 : Hid _ := hB1
  clear hb1 hB1
  go_wp2_with fail
  refine (rtwo a b _ ha hb).mono ?_
  rintro e w2 ⟨vp, dp, rfl, hop, hnp, hb2⟩
  have c0 := cell_kept hb2 (World.cell?_alloc_new w1 #[.int .u64 qh, .int .u64 ql] 25 0)
  have c1 := cell_kept hb2 (World.cell?_alloc_new w1 #[.int .u64 qh, .int .u64 ql] 25 1)
  have HB2 : Hid (Below w.heap.size w w2) := HB1.out.trans (hb2.mono HB1.out.size)
  have Hop : Hid (Own _ w2 vp dp) := hop
  clear hop hb2 HB1
  go_wp2_with fail
  refine (rof d _ hd).mono ?_
  rintro e w3 ⟨vd, dd, rfl, hod, hnd, hb3, -⟩
  replace c0 := cell_kept hb3 c0
  replace c1 := cell_kept hb3 c1
  have HB3 : Hid (Below w.heap.size w w3) := HB2.out.trans (hb3.mono HB2.out.size)
  have Hod : Hid (Own _ w3 vd dd) := hod
  have HDp : Hid (Dig w3 vp dp) := Dig.below (Own.dig Hop.out) hb3
  clear hod hb3 HB2 Hop
  go_wp2_with fail
  refine (rdiv dp dd vp vd _ hnp.out.1 hnd.out.1 (by have := hnp.out.2.2; omega) (by have := hnd.out.2.2; omega) (by rw [hnd.out.2.1]; omega) HDp.out (Own.dig Hod.out)).mono ?_
  rintro e w4 ⟨vq, qs, vr, rs, rfl, hoq, hor, hdv, hb4⟩
  replace c0 := cell_kept hb4 c0
  replace c1 := cell_kept hb4 c1
  have HB4 : Hid (Below w.heap.size w w4) := HB3.out.trans (hb4.mono HB3.out.size)
  have Hoq : Hid (Own _ w4 vq qs) := hoq
  have Hor : Hid (Own _ w4 vr rs) := hor
  have hqr : wd qh ql = val qs ∧ r = val rs := by
    obtain ⟨h1, h2, h3, h4, -⟩ := hdv.out
    rw [hnd.out.2.1, hnp.out.2.1] at h3
    rw [hnd.out.2.1] at h4
    exact div_unique hq.out br h3 ⟨val_nonneg rs h2.1, h4⟩
  have Hqr : Hid _ := hqr
  clear hoq hor hb4 HB3 HDp Hod hqr
  go_wp2_with fail
  refine (lis qh ql vq qs _ bqh bql hdv.out.1 (by have := hdv.out.2.2.2.2.1; have := hnp.out.2.2; omega) (Own.dig Hoq.out)).mono ?_
  rintro e w5 ⟨rfl, hb5⟩
  rw [decide_eq_true Hqr.out.1]
  have HB5 : Hid (Below w.heap.size w w5) := HB4.out.trans (hb5.mono HB4.out.size)
  have HDr : Hid (Dig w5 vr rs) := Dig.below (Own.dig Hor.out) hb5
  clear hb5 HB4 Hor
  go_wp2_with fail
  refine (rof r _ (by omega)).mono ?_
  rintro e w6 ⟨v6, d6, rfl, ho6, hn6, hb6, -⟩
  have HB6 : Hid (Below w.heap.size w w6) := HB5.out.trans (hb6.mono HB5.out.size)
  have HDr6 : Hid (Dig w6 vr rs) := Dig.below HDr.out hb6
  have Ho6 : Hid (Own _ w6 v6 d6) := ho6
  clear ho6 hb6 HB5 HDr
  go_wp2_with fail
  refine (rcompare d6 rs v6 vr _ hn6.out.1 hdv.out.2.1 (by have := hn6.out.2.2; omega) (by have := hdv.out.2.2.2.2.2; have := hnd.out.2.2; omega) (Own.dig Ho6.out) HDr6.out).mono ?_
  rintro e w7 ⟨c, rfl, bc, hc, k7, rfl⟩
  obtain rfl : c = 0 := hc.out.2.2 (by rw [hn6.out.2.1]; exact Hqr.out.2)
  have hrd : r < d := br.2
  go_wp2_with fail
  refine (awake_true _).mono ?_
  rintro e w8 ⟨rfl, hb8⟩
  have Hb8 : Hid _ := hb8
  clear hb8
  go_wp2
  go_ret
  have h1 : Below w.heap.size w (w6.drewN k7) := below_drewN HB6.out
  exact ⟨rfl, h1.trans (Hb8.out.mono h1.size)⟩
end Go.Proofs.Ytjjcjgighdidcaa
