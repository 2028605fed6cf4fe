/- Walks of Roll, of package calendar and of the reference. Conditions: the arguments are ints. -/
import Derived.Test.YthdngjpfmjnchaaN
import Derived.Test.YthdngjpfmjnchaaI
import Derived.WalkKit
import Derived.ProofKit
import Derived.Handy
import Derived.WalkLawsBesides
import Derived.WalkSpells
import Derived.BigQuiet
import Derived.Deep.QuietTactic
import Derived.Deep.Light
import Derived.Deep.OwnRows
import Derived.Laws.AppendOwnNone
import Derived.Deep.RegionWith
import Derived.Lib.BitFns
import Derived.Lib.Walk
import Derived.Deep.CutBlock
import Derived.Deep.DeepCutAuto
import Derived.Deep.LoopGhost
import Derived.Deep.RegionHeld3
import Derived.Lib.SlicesCompact
import Derived.Laws.CopyOwn
import Derived.Sort.OwnSortedInts
namespace Go.Proofs.Ythdngjpfmjnchaa
open Go.RowKit
set_option linter.unusedVariables false
set_option linter.unusedSimpArgs false
theorem of_good {d y m dd f : Int} (h : (GoodD d ∧ f = 0 ∧ IsDate d y m dd) ∨ (¬ GoodD d ∧ f = 10 ∧ y = 0 ∧ m = 0 ∧ dd = 0)) (hg : GoodD d) : f = 0 ∧ IsDate d y m dd := by
  rcases h with h | h
  · exact h.2
  · exact absurd hg h.1

theorem xmonthof (d : Int) (hg : GoodD d) (w : World) : Calls Try.prog 45 #[.int .i64 d] w fun e w' => ∃ y m dd, e = .returned (.int .i64 m) ∧ Below w.heap.size w w' ∧ Hid (IsDate d y m dd) := by
  have hd : 0 ≤ d ∧ d ≤ 200000 := hg
  have HG : Hid (GoodD d) := hg
  clear hg
  go_enter Try.func45, Try.ntmps45
  go_wp2_with fail
  refine (xof d (by omega) _).mono ?_
  rintro e w1 ⟨y, m, dd, f, rfl, hb1, hof⟩
  obtain ⟨rfl, hdt⟩ := of_good hof.out HG.out
  have HDT : Hid (IsDate d y m dd) := hdt
  have HB1 : Hid (Below w.heap.size w w1) := hb1
  clear hof hdt hb1
  go_wp2_with fail
  go_ret
  exact ⟨y, m, dd, rfl, HB1.out.alloc HB1.out.size _, HDT⟩

def RollPost (ys : List Int) (d : Int) (w : World) (e : Ending) (w' : World) : Prop :=
  ∃ v f, e = .returned (.tuple #[.int .i64 v, .int .i64 f]) ∧ Below w.heap.size w w' ∧ Hid (Rol ys d v f)

set_option maxHeartbeats 2000000 in
theorem xroll (p : Nat) (ys : List Int) (d : Int) (w : World) (hd : -9223372036854775808 ≤ d ∧ d ≤ 9223372036854775807) (hc : Cal w p ys) :
    Calls Try.prog 30 #[.pointer (some ⟨p, 0, none⟩), .int .i64 d] w (RollPost ys d w) := by
  have HC : Hid (Cal w p ys) := hc
  clear hc
  go_enter Try.func30, Try.ntmps30
  go_wp2_with fail
  refine (xnext p ys d _ hd HC.out).mono ?_
  rintro e w1 ⟨a, f, q, rfl, rfl, hne⟩
  by_cases hf : f = 0
  · subst hf
    obtain ⟨hwk, hgd⟩ := hne.out.ok
    have HGA : Hid (GoodD a) := wk_good hwk
    have HGD : Hid (GoodD d) := hgd
    clear hwk hgd
    go_wp2_with fail
    refine (xmonthof a HGA.out _).mono ?_
    rintro e w2 ⟨y1, m1, d1, rfl, hb2, hd1⟩
    have HB2 : Hid (Below w.heap.size w w2) := ⟨hb2.os, hb2.tape, hb2.output, hb2.size, hb2.block⟩
    clear hb2
    go_wp2_with fail
    refine (xmonthof d HGD.out _).mono ?_
    rintro e w3 ⟨y2, m2, d2, rfl, hb3, hd2⟩
    have HB3 : Hid (Below w.heap.size w w3) := HB2.out.trans (hb3.mono HB2.out.size)
    clear hb3 HB2
    by_cases hm : m1 = m2
    · subst hm
      go_wp2_with fail
      go_ret2
      exact ⟨_, _, rfl, HB3.out, a, 0, hne.out, .inl ⟨rfl, (SameMonth.iff hd1.out hd2.out).2 rfl, rfl, rfl⟩⟩
    · have hmb : (m1 == m2) = false := by simp [hm]
      have HM : Hid (¬ m1 = m2) := hm
      clear hm
      go_wp2_with fail
      refine (xback p ys d _ hd (HC.out.below HB3.out)).mono ?_
      rintro e w4 ⟨v, f, q2, rfl, rfl, hnb⟩
      go_wp2_with fail
      go_ret2
      exact ⟨_, _, rfl, below_drewN HB3.out, a, 0, hne.out, .inr ⟨fun q => HM.out ((SameMonth.iff hd1.out hd2.out).1 q.2), hnb.out⟩⟩
  · have hfb : (f == 0) = false := by simp [hf]
    have HF : Hid (f ≠ 0) := hf
    clear hf
    go_wp2_with fail
    refine (xback p ys d _ hd (HC.out.drewN q)).mono ?_
    rintro e w4 ⟨v, f2, q2, rfl, rfl, hnb⟩
    go_wp2_with fail
    go_ret2
    exact ⟨_, _, rfl, below_drewN (Below.refl _ _), a, f, hne.out, .inr ⟨fun q => HF.out q.1, hnb.out⟩⟩

set_option maxHeartbeats 2000000 in
theorem rroll (xs : List Int) (v : Value) (d : Int) (w : World) (hd : -9223372036854775808 ≤ d ∧ d ≤ 9223372036854775807) (hl : xs.length ≤ 256) (hv : Seg w v xs) :
    Calls Try.prog 31 #[.agg #[v], .int .i64 d] w (RollPost xs d w) := by
  have HV : Hid (Seg w v xs) := hv
  have HB : Hid (BoxV w v (w.alloc (.cells #[v] 45))) := BoxV.new w v
  have hone : v.oneCell' = true := by obtain ⟨a, cap, rfl, -⟩ := hv; rfl
  clear hv
  go_enter Try.func31, Try.ntmps31
  go_wp2_with fail
  refine (rgood d hd _).mono ?_
  rintro e w1 ⟨rfl, rfl⟩
  by_cases hg : GoodD d
  case neg =>
    rw [decide_eq_false hg]
    have HG : Hid (¬ GoodD d) := hg
    clear hg
    go_wp2_with fail
    go_ret2
    exact ⟨_, _, rfl, HB.out.bel, 0, 10, .inl ⟨HG.out, rfl, rfl⟩, .inr ⟨fun q => absurd q.1 (by decide), .inl ⟨HG.out, rfl, rfl⟩⟩⟩
  rw [decide_eq_true hg]
  have HG : Hid (GoodD d) := hg
  clear hg
  go_wp2_with fail
  refine (rgo xs v 1 d _ (.inl rfl) hd hl (HV.out.below HB.out.bel)).mono ?_
  rintro e w1 ⟨a, f, rfl, hb1, hne⟩
  have HB1 : Hid (BoxV w v w1) := HB.out.below hb1
  have har := hne.out.range
  clear hb1 HB
  go_wp2_with fail
  refine (rof d hd _).mono ?_
  rintro e w2 ⟨y1, m1, d1, f1, rfl, hb2, ho1⟩
  obtain ⟨rfl, hd1⟩ := of_good ho1.out HG.out
  have HD1 : Hid (IsDate d y1 m1 d1) := hd1
  have HB2 : Hid (BoxV w v w2) := HB1.out.below hb2
  have A1 : Hid (At3 (w2.alloc (.cells #[.int .i64 y1, .int .i64 m1, .int .i64 d1] 23)) w2.heap.size y1 m1 d1) := At3.new w2 23 y1 m1 d1
  clear ho1 hd1 hb2 HB1
  go_wp2_with fail
  refine (rof a (by omega) _).mono ?_
  rintro e w3 ⟨y2, m2, d2, f2, rfl, hb3, ho2⟩
  obtain ⟨rfl, hd2⟩ := of_good ho2.out har
  have HD2 : Hid (IsDate a y2 m2 d2) := hd2
  have HB3 : Hid (BoxV w v w3) := by
    refine BoxV.below (wr := w2.alloc (.cells #[.int .i64 y1, .int .i64 m1, .int .i64 d1] 23)) (HB2.out.below ((Below.refl _ _).alloc (Nat.le_refl _) _)) hb3
  have A3 : Hid (At3 w3 w2.heap.size y1 m1 d1) := A1.out.below hb3
  have n2 : w2.heap.size < w3.heap.size := by have := hb3.size; simp at this; omega
  have HB4 : Hid (BoxV w v (w3.alloc (.cells #[.int .i64 y2, .int .i64 m2, .int .i64 d2] 23))) := HB3.out.below ((Below.refl _ _).alloc (Nat.le_refl _) _)
  have A4 := A3.out.alloc (.cells #[.int .i64 y2, .int .i64 m2, .int .i64 d2] 23)
  have k0 := A4.c0
  have k1 := A4.c1
  have k2 := A4.c2
  have c0 := HB4.out.c0
  clear ho2 hd2 hb3 HB2 A1 A3 A4
  by_cases hf : f = 0
  · subst hf
    by_cases hm : m1 = m2
    · subst hm
      go_wp2_with fail
      go_ret2
      exact ⟨_, _, rfl, HB4.out.bel, a, 0, hne.out, .inl ⟨rfl, (SameMonth.iff HD2.out HD1.out).2 rfl, rfl, rfl⟩⟩
    · have hmb : (m1 == m2) = false := by simp [hm]
      have HM : Hid (¬ m2 = m1) := fun q => hm q.symm
      clear hm
      go_wp2_with fail
      refine (rgo xs v (-1) d _ (.inr rfl) hd hl (HV.out.below HB4.out.bel)).mono ?_
      rintro e w5 ⟨a5, f5, rfl, hb5, hn5⟩
      have HB5 : Hid (BoxV w v w5) := HB4.out.below hb5
      clear hb5 k0 k1 k2 c0 HB4
      go_wp2_with fail
      go_ret2
      exact ⟨_, _, rfl, HB5.out.bel, a, 0, hne.out, .inr ⟨fun q => HM.out ((SameMonth.iff HD2.out HD1.out).1 q.2), hn5.out⟩⟩
  · have hfb : (f == 0) = false := by simp [hf]
    have HF : Hid (f ≠ 0) := hf
    clear hf
    go_wp2_with fail
    refine (rgo xs v (-1) d _ (.inr rfl) hd hl (HV.out.below HB4.out.bel)).mono ?_
    rintro e w5 ⟨a5, f5, rfl, hb5, hn5⟩
    have HB5 : Hid (BoxV w v w5) := HB4.out.below hb5
    clear hb5 k0 k1 k2 c0 HB4
    go_wp2_with fail
    go_ret2
    exact ⟨_, _, rfl, HB5.out.bel, a, f, hne.out, .inr ⟨fun q => HF.out q.1, hn5.out⟩⟩
end Go.Proofs.Ythdngjpfmjnchaa
