/- The walk of MulDiv of package fixnum. Conditions: the arguments are ints; the product has no upper word, or Div64 of math/bits divides as it should. -/
import Derived.Test.YtpdlbbglbbmjmaaFC
import Derived.WalkKit
import Derived.ProofKit
import Derived.Handy
import Derived.WalkLawsBesides
import Derived.WalkSpells
import Derived.BigQuiet
import Derived.Deep.QuietTactic
import Derived.Deep.Light
import Derived.Deep.OwnRows
import Derived.Laws.AppendOwnNone
import Derived.Deep.RegionWith
import Derived.Lib.BitFns
import Derived.Lib.Walk
import Derived.Deep.CutBlock
import Derived.Deep.DeepCutAuto
import Derived.Deep.LoopGhost
import Derived.Deep.RegionHeld
namespace Go.Proofs.Ytpdlbbglbbmjmaa.N1
open Go.RowKit
set_option linter.unusedVariables false
set_option linter.unusedSimpArgs false

def negB (a b c : Int) : Bool := (decide (a < 0) != decide (b < 0)) != decide (c < 0)
/-- the sizes' quotient, rounded -/
def mdQ (a b c how : Int) : Int :=
  if awayB how ((a.natAbs : Int) * b.natAbs % c.natAbs) c.natAbs ((a.natAbs : Int) * b.natAbs / c.natAbs) (negB a b c) = true then (a.natAbs : Int) * b.natAbs / c.natAbs + 1 else (a.natAbs : Int) * b.natAbs / c.natAbs
/-- with its sign -/
def mdN (a b c how : Int) : Int := sgnd (negB a b c) (mdQ a b c how)
/-- what MulDiv answers: the number, the error -/
def mdS (a b c how : Int) : Int := if c = 0 ∨ how < 1 ∨ 4 < how then 0 else fitS (mdN a b c how)
def mdE (a b c how : Int) : Int := if c = 0 ∨ how < 1 ∨ 4 < how then 1 else fitE (mdN a b c how)

def MulDivPost (a b c how : Int) (w : World) (e : Ending) (w' : World) : Prop :=
  e = .returned (.tuple #[.int .i64 (mdS a b c how), .int .i64 (mdE a b c how)]) ∧ Below w.heap.size w w'

theorem xmuldiv_bad (a b c how : Int) (w : World) (h : c = 0 ∨ how < 1 ∨ 4 < how) :
    Calls Try.prog 40 #[.int .i64 a, .int .i64 b, .int .i64 c, .int .i64 how] w (MulDivPost a b c how w) := by
  have e1 : mdS a b c how = 0 := if_pos h
  have e2 : mdE a b c how = 1 := if_pos h
  have E1 : Hid (mdS a b c how = 0) := e1
  have E2 : Hid (mdE a b c how = 1) := e2
  clear e1 e2
  by_cases h0 : c = 0
  · subst h0
    go_enter Try.func40, Try.ntmps40
    go_wp2
    go_ret2
    exact ⟨ret_two E1.out.symm E2.out.symm, Below.refl _ _⟩
  have g0 : (c == 0) = false := by simp [h0]
  by_cases h1 : how < 1
  · go_enter Try.func40, Try.ntmps40
    go_wp2
    go_ret2
    exact ⟨ret_two E1.out.symm E2.out.symm, Below.refl _ _⟩
  have h2 : 4 < how := by omega
  go_enter Try.func40, Try.ntmps40
  go_wp2
  go_ret2
  exact ⟨ret_two E1.out.symm E2.out.symm, Below.refl _ _⟩

theorem wd_zero (a b : Int) (ha : 0 ≤ a ∧ a < 18446744073709551616) (hb : 0 ≤ b ∧ b < 18446744073709551616) (h : wd a b < 18446744073709551616) : a = 0 := by
  unfold wd at h
  omega

theorem md_quot (a b c ph pl qh ql r d : Int) (hprod : wd ph pl = (a.natAbs : Int) * b.natAbs) (hquo : wd qh ql * d + r = wd ph pl) (hr : 0 ≤ r ∧ r < d) (hd : d = (c.natAbs : Int)) :
    (a.natAbs : Int) * b.natAbs / c.natAbs = wd qh ql ∧ (a.natAbs : Int) * b.natAbs % c.natAbs = r := by
  rw [← hd, ← hprod, ← hquo]
  generalize wd qh ql = q
  have h1 := (Int.ediv_emod_unique (a := q * d + r) (b := d) (r := r) (q := q) (by omega)).2 ⟨by rw [Int.mul_comm d q]; omega, hr.1, hr.2⟩
  exact h1

theorem awayB_lo (how r d qh ql : Int) (ng : Bool) : awayB how r d (wd qh ql) ng = awayB how r d ql ng := by
  have : wd qh ql % 2 = ql % 2 := by unfold wd; omega
  unfold awayB
  rw [this]

theorem md_no (a b c how ph pl qh ql r d : Int) (ng : Bool) (hprod : wd ph pl = (a.natAbs : Int) * b.natAbs) (hquo : wd qh ql * d + r = wd ph pl) (hr : 0 ≤ r ∧ r < d) (hd : d = (c.natAbs : Int)) (hng : ng = negB a b c)
    (haw : awayB how r d ql ng = false) : mdN a b c how = sgnd ng (wd qh ql) := by
  obtain ⟨h1, h2⟩ := md_quot a b c ph pl qh ql r d hprod hquo hr hd
  unfold mdN mdQ
  rw [h1, h2, ← hng, ← hd, awayB_lo, haw, if_neg (by simp)]

theorem md_yes (a b c how ph pl qh ql r d sh sl : Int) (ng : Bool) (ha : -9223372036854775808 ≤ a ∧ a ≤ 9223372036854775807) (hb : -9223372036854775808 ≤ b ∧ b ≤ 9223372036854775807) (hprod : wd ph pl = (a.natAbs : Int) * b.natAbs) (hquo : wd qh ql * d + r = wd ph pl) (hr : 0 ≤ r ∧ r < d) (hd : d = (c.natAbs : Int)) (hng : ng = negB a b c)
    (haw : awayB how r d ql ng = true) (hs : wd sh sl = if wd qh ql + wd 0 1 < wd 18446744073709551616 0 then wd qh ql + wd 0 1 else 0) : mdN a b c how = sgnd ng (wd sh sl) := by
  obtain ⟨h1, h2⟩ := md_quot a b c ph pl qh ql r d hprod hquo hr hd
  have h3 : wd qh ql ≤ (a.natAbs : Int) * b.natAbs := by
    rw [← h1]
    exact Int.ediv_le_self _ (Int.mul_nonneg (by omega) (by omega))
  have h4 : (a.natAbs : Int) * b.natAbs ≤ 9223372036854775808 * 9223372036854775808 := Int.mul_le_mul (by omega) (by omega) (by omega) (by omega)
  have h5 : wd 0 1 = 1 := rfl
  have h6 : wd 18446744073709551616 0 = 340282366920938463463374607431768211456 := rfl
  rw [if_pos (by omega), h5] at hs
  unfold mdN mdQ
  rw [h1, h2, ← hng, ← hd, awayB_lo, haw, if_pos rfl, hs]

theorem xmuldiv_good (a b c how : Int) (ha : -9223372036854775808 ≤ a ∧ a ≤ 9223372036854775807) (hb : -9223372036854775808 ≤ b ∧ b ≤ 9223372036854775807) (hc : -9223372036854775808 ≤ c ∧ c ≤ 9223372036854775807)
    (w : World) (h0 : c ≠ 0) (h1 : 1 ≤ how) (h2 : how ≤ 4) (H : (a.natAbs : Int) * b.natAbs < 18446744073709551616 ∨ Div64Said) :
    Calls Try.prog 40 #[.int .i64 a, .int .i64 b, .int .i64 c, .int .i64 how] w (MulDivPost a b c how w) := by
  have g0 : (c == 0) = false := by simp [h0]
  have HH : Hid _ := H
  clear H
  go_enter Try.func40, Try.ntmps40
  go_wp2_with fail
  refine (xsize c hc _).mono ?_
  rintro e w1 ⟨rfl, rfl⟩
  go_wp2_with fail
  refine (xsize a ha _).mono ?_
  rintro e w1 ⟨rfl, rfl⟩
  go_wp2_with fail
  refine (xsize b hb _).mono ?_
  rintro e w1 ⟨rfl, rfl⟩
  go_wp2_with fail
  refine (xmul _ _ (by omega) (by omega) _).mono ?_
  rintro e w1 ⟨ph, pl, rfl, bph, bpl, hprod, hb1⟩
  go_wp2_with fail
  have hS : ph % ↑c.natAbs = 0 ∨ Div64Said := by
    rcases HH.out with h | h
    · left
      have hp := hprod.out
      obtain rfl : ph = 0 := wd_zero ph pl bph bpl (by rw [hp]; exact h)
      simp
    · exact Or.inr h
  obtain ⟨d, hd⟩ : ∃ d : Int, d = (c.natAbs : Int) := ⟨_, rfl⟩
  have bd : 0 < d ∧ d < 18446744073709551616 := by omega
  rw [← hd] at hS ⊢
  have Hd : Hid _ := hd
  clear hd
  refine (xdiv ph pl d bph bpl bd _ hS).mono ?_
  rintro e w2 ⟨qh, ql, r, rfl, bqh, bql, brr, hquo, hb2⟩
  clear hS HH bph bpl
  have Hb : Hid (Below w.heap.size w w2) := hb1.trans (hb2.mono hb1.size)
  clear hb1 hb2
  go_wp2_with fail
  generalize hng : (!(!decide (a < 0) == decide (b < 0)) == decide (c < 0)) = ng
  have Hng : Hid (ng = negB a b c) := hng.symm
  clear hng
  refine (xaway qh ql r d ng how bql ⟨brr.1, by omega⟩ ⟨by omega, bd.2⟩ brr.2 _).mono ?_
  rintro e w3 ⟨rfl, rfl⟩
  generalize haw : awayB how r d ql ng = aw
  have Haw : Hid _ := haw
  clear haw
  have hsz : Hid (w.heap.size ≤ w2.heap.size) := Hb.out.size
  cases aw
  · go_wp2_with fail
    refine (xsigned qh ql ng bqh bql _).mono ?_
    rintro e w4 ⟨rfl, rfl⟩
    go_wp2
    go_ret2
    have hm := md_no a b c how ph pl qh ql r d ng hprod.out hquo.out brr Hd.out Hng.out Haw.out
    refine ⟨ret_two ?_ ?_, ?_⟩
    · rw [mdS, if_neg (by omega), hm]
    · rw [mdE, if_neg (by omega), hm]
    · have := hsz.out
      refine Below.alloc (Below.alloc (Below.alloc Hb.out ?_ _) ?_ _) ?_ _
      all_goals first | omega | (simp; omega)
  · go_wp2_with fail
    refine (xadd qh ql 0 1 bqh bql (by omega) (by omega) _).mono ?_
    rintro e w4 ⟨sh, sl, rfl, bsh, bsl, hsum, hb4⟩
    have c0 : w4.cell? ⟨w2.heap.size, 0, none⟩ = some (.int .u64 qh) := (hb4.cell (by simp; omega)).trans (World.cell?_alloc2_first ..)
    have c1 : w4.cell? ⟨w2.heap.size, 1, none⟩ = some (.int .u64 ql) := (hb4.cell (by simp; omega)).trans (World.cell?_alloc2_first ..)
    have f0 : w4.frozen? ⟨w2.heap.size, 0, none⟩ = false := (hb4.frozen (by simp; omega)).trans (World.frozen?_alloc2_first ..)
    have f1 : w4.frozen? ⟨w2.heap.size, 1, none⟩ = false := (hb4.frozen (by simp; omega)).trans (World.frozen?_alloc2_first ..)
    have Hb4 : Hid _ := hb4
    clear hb4
    generalize hok : decide (wd qh ql + wd 0 1 < wd 18446744073709551616 0) = ok
    have Hok : Hid _ := hok
    clear hok
    go_wp2_with fail
    refine (xsigned sh sl ng bsh bsl _).mono ?_
    rintro e w5 ⟨rfl, rfl⟩
    go_wp2
    go_ret2
    have hm := md_yes a b c how ph pl qh ql r d sh sl ng ha hb hprod.out hquo.out brr Hd.out Hng.out Haw.out hsum.out
    refine ⟨ret_two ?_ ?_, ?_⟩
    · rw [mdS, if_neg (by omega), hm]
    · rw [mdE, if_neg (by omega), hm]
    · have h7 := hsz.out
      have h8 := Hb4.out.size
      simp at h8
      have hB : Below w.heap.size w w4 := by
        refine Below.trans (Below.alloc (Below.alloc Hb.out ?_ _) ?_ _) (Hb4.out.mono ?_)
        all_goals first | omega | (simp; omega)
      refine Below.alloc (Below.setCell (Below.setCell hB ?_ _) ?_ _) ?_ _
      all_goals first | omega | (simp; omega)

theorem xmuldiv (a b c how : Int) (ha : -9223372036854775808 ≤ a ∧ a ≤ 9223372036854775807) (hb : -9223372036854775808 ≤ b ∧ b ≤ 9223372036854775807) (hc : -9223372036854775808 ≤ c ∧ c ≤ 9223372036854775807)
    (w : World) (H : (a.natAbs : Int) * b.natAbs < 18446744073709551616 ∨ Div64Said) :
    Calls Try.prog 40 #[.int .i64 a, .int .i64 b, .int .i64 c, .int .i64 how] w (MulDivPost a b c how w) := by
  by_cases h : c = 0 ∨ how < 1 ∨ 4 < how
  · exact xmuldiv_bad a b c how w h
  · exact xmuldiv_good a b c how ha hb hc w (by omega) (by omega) (by omega) H
end Go.Proofs.Ytpdlbbglbbmjmaa.N1
