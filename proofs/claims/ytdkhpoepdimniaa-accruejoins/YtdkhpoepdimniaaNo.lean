/- AccrueBetween, AccrueJoins, AccrueOne: for every input the laws return true. No condition. Here: the walks of the laws themselves, out of the walks of what they call. -/
import Derived.Test.YtdkhpoepdimniaaNn
import Derived.WalkKit
import Derived.ProofKit
import Derived.Handy
import Derived.WalkLawsBesides
import Derived.WalkSpells
import Derived.BigQuiet
import Derived.Deep.QuietTactic
import Derived.Deep.Light
import Derived.Deep.OwnRows
import Derived.Laws.AppendOwnNone
import Derived.Deep.RegionWith
import Derived.Lib.BitFns
import Derived.Lib.Walk
import Derived.Deep.CutBlock
import Derived.Deep.DeepCutAuto
import Derived.Deep.LoopGhost
import Derived.Deep.RegionHeld3
import Derived.Lib.SmallJoins
namespace Go.Proofs.Ytdkhpoepdimniaa
open Go.RowKit
set_option linter.unusedVariables false
set_option linter.unusedSimpArgs false
set_option maxHeartbeats 4000000 in
set_option maxRecDepth 100000 in
theorem between_walk (l : Pairs) (v : Value) (a f t : Int) (w : World) (hl : PInts l) (hv : PSeg w v l) (ha : I64 a) (hf : I64 f) (ht : I64 t) :
    Calls Try.prog 6 #[.int .i64 a, v, .int .i64 f, .int .i64 t] w (TruePost w) := by
  have HL : Hid (PInts l) := hl
  have HV : Hid (PSeg w v l) := hv
  have HA : Hid (I64 a ∧ I64 f ∧ I64 t) := ⟨ha, hf, ht⟩
  obtain ⟨ad, cap, rfl, -⟩ := hv
  clear hl ha hf ht
  go_enter Try.func6, Try.ntmps6
  go_wp2_with fail
  refine (xbetween l _ a f t _ HL.out HV.out HA.out.1 HA.out.2.1 HA.out.2.2).mono ?_
  rintro e w1 ⟨rfl, hb1⟩
  have W1 : Hid (Below w.heap.size w w1) := hb1
  clear hb1
  go_wp2_with fail
  refine (rbetween l _ a f t _ HL.out (HV.out.below W1.out) HA.out.1 HA.out.2.1 HA.out.2.2).mono ?_
  rintro e w2 ⟨rfl, hb2⟩
  have W2 : Hid (Below w.heap.size w w2) := W1.out.trans (hb2.mono W1.out.size)
  clear hb2
  have hbd := run_fits l a f t
  generalize hx : runT l a f t / 360000000 = x at *
  generalize hz : runE l a f t = z at *
  go_wp2_with fail
  refine (xback l _ a f t _ HL.out (HV.out.below W2.out) HA.out.1 HA.out.2.1 HA.out.2.2).mono ?_
  rintro e w3 ⟨rfl, hb3⟩
  have W3 : Hid (Below w.heap.size w w3) := W2.out.trans (hb3.mono W2.out.size)
  clear hb3
  rw [hz]
  by_cases h0 : z = 0
  · subst h0
    have hM := (runE_zero hz).2.2.2.2.2
    have hS : backS l a f t = a + x := by rw [backS, if_pos hz, hx]
    rw [hS]
    clear hS hx hz
    go_wp2_with fail
    refine (awake_true _).mono ?_
    rintro e w4 ⟨rfl, hb4⟩
    go_wp2
    go_ret
    exact ⟨rfl, W3.out.trans (hb4.mono W3.out.size)⟩
  · have hS : backS l a f t = 0 := by rw [backS, if_neg (by rw [hz]; exact h0)]
    have h0b : (z != 0) = true := bne_iff_ne.2 h0
    have h0c : (z == 0) = false := beq_eq_false_iff_ne.2 h0
    rw [hS]
    clear hS hx hz
    go_wp2_with fail
    refine (awake_true _).mono ?_
    rintro e w4 ⟨rfl, hb4⟩
    go_wp2
    go_ret
    exact ⟨rfl, W3.out.trans (hb4.mono W3.out.size)⟩

theorem run_joins {l : Pairs} {a f m t : Int} (h1 : runE l a f m = 0) (h2 : runE l a m t = 0) (h3 : runE l a f t = 0) : runT l a f t = runT l a f m + runT l a m t := by
  rw [runT_ok h1, runT_ok h2, runT_ok h3]
  obtain ⟨-, -, -, s1, -⟩ := runE_zero h1
  obtain ⟨-, -, -, s2, -⟩ := runE_zero h2
  rw [show (t - f).toNat = (m - f).toNat + (t - m).toNat by omega, sumR_add, show f + ((m - f).toNat : Int) = m by omega, Int.mul_add]

set_option maxHeartbeats 4000000 in
set_option maxRecDepth 100000 in
theorem joins_walk (l : Pairs) (v : Value) (a f m t : Int) (w : World) (hl : PInts l) (hv : PSeg w v l) (ha : I64 a) (hf : I64 f) (hm : I64 m) (ht : I64 t) :
    Calls Try.prog 7 #[.int .i64 a, v, .int .i64 f, .int .i64 m, .int .i64 t] w (TruePost w) := by
  have HL : Hid (PInts l) := hl
  have HV : Hid (PSeg w v l) := hv
  have HA : Hid (I64 a ∧ I64 f ∧ I64 m ∧ I64 t) := ⟨ha, hf, hm, ht⟩
  obtain ⟨ad, cap, rfl, -⟩ := hv
  clear hl ha hf hm ht
  go_enter Try.func7, Try.ntmps7
  go_wp2_with fail
  refine (xrun l _ a f m _ HL.out HV.out HA.out.1 HA.out.2.1 HA.out.2.2.1).mono ?_
  rintro e w1 ⟨rfl, hb1⟩
  generalize hx1 : runT l a f m / 360000000 = x1
  generalize hy1 : runT l a f m % 360000000 = y1
  generalize hz1 : runE l a f m = z1
  have W2 : Hid (Below w.heap.size w (w1.alloc (.cells #[.int .i64 x1, .int .i64 y1] 31))) := hb1.alloc hb1.size _
  have P2 : Hid (Blk (w1.alloc (.cells #[.int .i64 x1, .int .i64 y1] 31)) w1.heap.size 31 x1 y1) := Blk.new _ _ _ _
  have Q1 : Hid (runT l a f m / 360000000 = x1 ∧ runT l a f m % 360000000 = y1 ∧ runE l a f m = z1) := ⟨hx1, hy1, hz1⟩
  clear hb1 hx1 hy1 hz1
  go_upto_region 2 with fail
  generalize w1.alloc (.cells #[.int .i64 x1, .int .i64 y1] 31) = w2 at *
  go_wp2_with fail
  refine (xrun l _ a m t _ HL.out (HV.out.below W2.out) HA.out.1 HA.out.2.2.1 HA.out.2.2.2).mono ?_
  rintro e w3 ⟨rfl, hb3⟩
  generalize hx2 : runT l a m t / 360000000 = x2
  generalize hy2 : runT l a m t % 360000000 = y2
  generalize hz2 : runE l a m t = z2
  have W4 : Hid (Below w.heap.size w (w3.alloc (.cells #[.int .i64 x2, .int .i64 y2] 31))) := by
    have := W2.out.trans (hb3.mono W2.out.size)
    exact this.alloc this.size _
  have P4 : Hid (Blk (w3.alloc (.cells #[.int .i64 x2, .int .i64 y2] 31)) w1.heap.size 31 x1 y1) := (P2.out.kept hb3).alloc _
  have R4 : Hid (Blk (w3.alloc (.cells #[.int .i64 x2, .int .i64 y2] 31)) w3.heap.size 31 x2 y2) := Blk.new _ _ _ _
  have Q2 : Hid (runT l a m t / 360000000 = x2 ∧ runT l a m t % 360000000 = y2 ∧ runE l a m t = z2) := ⟨hx2, hy2, hz2⟩
  clear hb3 hx2 hy2 hz2 W2 P2
  go_upto_region 3 with fail
  generalize w3.alloc (.cells #[.int .i64 x2, .int .i64 y2] 31) = w4 at *
  go_wp2_with fail
  refine (xrun l _ a f t _ HL.out (HV.out.below W4.out) HA.out.1 HA.out.2.1 HA.out.2.2.2).mono ?_
  rintro e w5 ⟨rfl, hb5⟩
  generalize hx3 : runT l a f t / 360000000 = x3
  generalize hy3 : runT l a f t % 360000000 = y3
  generalize hz3 : runE l a f t = z3
  have W6 : Hid (Below w.heap.size w (w5.alloc (.cells #[.int .i64 x3, .int .i64 y3] 31))) := by
    have := W4.out.trans (hb5.mono W4.out.size)
    exact this.alloc this.size _
  have P6 : Hid (Blk (w5.alloc (.cells #[.int .i64 x3, .int .i64 y3] 31)) w1.heap.size 31 x1 y1) := (P4.out.kept hb5).alloc _
  have R6 : Hid (Blk (w5.alloc (.cells #[.int .i64 x3, .int .i64 y3] 31)) w3.heap.size 31 x2 y2) := (R4.out.kept hb5).alloc _
  have S6 : Hid (Blk (w5.alloc (.cells #[.int .i64 x3, .int .i64 y3] 31)) w5.heap.size 31 x3 y3) := Blk.new _ _ _ _
  have Q3 : Hid (runT l a f t / 360000000 = x3 ∧ runT l a f t % 360000000 = y3 ∧ runE l a f t = z3) := ⟨hx3, hy3, hz3⟩
  clear hb5 hx3 hy3 hz3 W4 P4 R4
  go_upto_region 4 with fail
  generalize w5.alloc (.cells #[.int .i64 x3, .int .i64 y3] 31) = w6 at *
  have HJ : Hid (z1 = 0 → z2 = 0 → z3 = 0 → runT l a f t = runT l a f m + runT l a m t) := fun h1 h2 h3 => run_joins (Q1.out.2.2.trans h1) (Q2.out.2.2.trans h2) (Q3.out.2.2.trans h3)
  by_cases h1 : z1 = 0
  case neg =>
    have hb : (z1 != 0) = true := bne_iff_ne.2 h1
    go_wp2_with fail
    refine (awake_true _).mono ?_
    rintro e w7 ⟨rfl, hb7⟩
    go_wp2
    go_ret
    exact ⟨rfl, W6.out.trans (hb7.mono W6.out.size)⟩
  by_cases h2 : z2 = 0
  case neg =>
    subst h1
    have hb : (z2 != 0) = true := bne_iff_ne.2 h2
    go_wp2_with fail
    refine (awake_true _).mono ?_
    rintro e w7 ⟨rfl, hb7⟩
    go_wp2
    go_ret
    exact ⟨rfl, W6.out.trans (hb7.mono W6.out.size)⟩
  by_cases h3 : z3 = 0
  case neg =>
    subst h1 h2
    have hb : (z3 != 0) = true := bne_iff_ne.2 h3
    go_wp2_with fail
    refine (awake_true _).mono ?_
    rintro e w7 ⟨rfl, hb7⟩
    go_wp2
    go_ret
    exact ⟨rfl, W6.out.trans (hb7.mono W6.out.size)⟩
  have hj := HJ.out h1 h2 h3
  have q1 := Q1.out
  have q2 := Q2.out
  have q3 := Q3.out
  have b1 := runT_bound l a f m
  have b2 := runT_bound l a m t
  subst h1 h2 h3
  clear HJ Q1 Q2 Q3
  rw [hj] at q3
  have hr : 0 ≤ y1 ∧ y1 < 360000000 ∧ 0 ≤ y2 ∧ y2 < 360000000 ∧ -12000000000000000 ≤ x1 ∧ x1 ≤ 12000000000000000 ∧ -12000000000000000 ≤ x2 ∧ x2 ≤ 12000000000000000 := by omega
  have f0 := P6.out.c0
  have f1 := P6.out.c1
  have f2 := R6.out.c0
  have f3 := R6.out.c1
  have f4 := S6.out.c0
  have f5 := S6.out.c1
  by_cases hc : 360000000 ≤ y1 + y2
  · have e1 : y3 = y1 + y2 - 360000000 := by omega
    have e2 : x3 = x1 + x2 + 1 := by omega
    clear q1 q2 q3 b1 b2 hj
    subst e1 e2
    go_wp2_with fail
    refine (awake_true _).mono ?_
    rintro e w7 ⟨rfl, hb7⟩
    go_wp2
    go_ret
    exact ⟨rfl, W6.out.trans (hb7.mono W6.out.size)⟩
  · have e1 : y3 = y1 + y2 := by omega
    have e2 : x3 = x1 + x2 := by omega
    clear q1 q2 q3 b1 b2 hj
    subst e1 e2
    go_wp2_with fail
    refine (awake_true _).mono ?_
    rintro e w7 ⟨rfl, hb7⟩
    go_wp2
    go_ret
    exact ⟨rfl, W6.out.trans (hb7.mono W6.out.size)⟩
end Go.Proofs.Ytdkhpoepdimniaa
