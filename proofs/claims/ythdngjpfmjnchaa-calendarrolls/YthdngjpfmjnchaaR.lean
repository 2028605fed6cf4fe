/- CalendarRolls: for every input the law returns true. No condition. Here: the walk of the law itself, out of the walks of what it calls. -/
import Derived.Test.YthdngjpfmjnchaaP
import Derived.WalkKit
import Derived.ProofKit
import Derived.Handy
import Derived.WalkLawsBesides
import Derived.WalkSpells
import Derived.BigQuiet
import Derived.Deep.QuietTactic
import Derived.Deep.Light
import Derived.Deep.OwnRows
import Derived.Laws.AppendOwnNone
import Derived.Deep.RegionWith
import Derived.Lib.BitFns
import Derived.Lib.Walk
import Derived.Deep.CutBlock
import Derived.Deep.DeepCutAuto
import Derived.Deep.LoopGhost
import Derived.Deep.RegionHeld3
import Derived.Lib.SlicesCompact
import Derived.Laws.CopyOwn
import Derived.Sort.OwnSortedInts
namespace Go.Proofs.Ythdngjpfmjnchaa
open Go.RowKit
set_option linter.unusedVariables false
set_option linter.unusedSimpArgs false
set_option maxHeartbeats 4000000 in
set_option maxRecDepth 100000 in
theorem rolls_walk (xs : List Int) (v : Value) (day n : Int) (w : World) (hday : -9223372036854775808 ≤ day ∧ day ≤ 9223372036854775807) (hn : -9223372036854775808 ≤ n ∧ n ≤ 9223372036854775807) (hx : Ints xs) (hv : Seg w v xs) :
    Calls Try.prog 7 #[v, .int .i64 day, .int .i64 n] w (TruePost w) := by
  have HX : Hid (Ints xs) := hx
  have HV : Hid (Seg w v xs) := hv
  obtain ⟨ad, cap, rfl, -⟩ := hv
  have hlen : (xs.length : Int) ≤ 9223372036854775807 := by have := hx.2; omega
  clear hx
  go_enter Try.func7, Try.ntmps7
  go_wp2_with fail
  refine (xnew xs _ _ HX.out HV.out).mono ?_
  rintro e w1 ⟨pv, f, rfl, hb1, hcase⟩
  have W1 : Hid (Below w.heap.size w w1) := hb1
  have HV1 : Hid (Seg w1 (.slice ad xs.length cap) xs) := HV.out.below hb1
  obtain ⟨-, hcs⟩ := new_check hcase.out
  have HCS : Hid ((f ≠ 0 ∧ pv = .pointer none) ∨ (f = 0 ∧ xs.length ≤ 256 ∧ ∃ p, pv = .pointer (some ⟨p, 0, none⟩) ∧ Cal w1 p (srt xs))) := hcs
  clear hb1 hcase hcs
  rcases HCS.out with ⟨hf, rfl⟩ | ⟨rfl, hl256, p, rfl, hcal⟩
  · have hfb : (f != 0) = true := by simp [hf]
    clear hf HCS
    go_wp2_with fail
    refine (awake_true _).mono ?_
    rintro e w2 h2
    have H2 : Hid (TruePost w e w2) := h2.of W1.out
    obtain ⟨rfl, -⟩ := h2
    go_wp2_with fail
    go_ret
    exact H2.out
  have HC1 : Hid (Cal w1 p (srt xs)) := hcal
  have HS : Hid (∀ x, x ∈ srt xs ↔ x ∈ xs) := (srt_facts xs).1
  generalize srt xs = ys at HC1 HS
  clear hcal HCS HV HX
  by_cases hl60 : (60 : Int) < xs.length
  · have e1 : decide ((60 : Int) < xs.length) = true := decide_eq_true hl60
    clear hl60
    go_wp2_with fail
    refine (awake_true _).mono ?_
    rintro e w2 h2
    have H2 : Hid (TruePost w e w2) := h2.of W1.out
    obtain ⟨rfl, -⟩ := h2
    go_wp2_with fail
    go_ret
    exact H2.out
  have e1 : decide ((60 : Int) < xs.length) = false := decide_eq_false hl60
  clear hl60
  have HB : Hid (BoxV w1 (.slice ad xs.length cap) (w1.alloc (.cells #[.slice ad xs.length cap] 45))) := BoxV.new w1 _
  go_wp2_with fail
  refine (xroll p ys day _ hday (HC1.out.below HB.out.bel)).mono ?_
  rintro e w2 ⟨a, f, rfl, hb2, hna⟩
  have HB2 : Hid (BoxV w1 (.slice ad xs.length cap) w2) := HB.out.below hb2
  have c2 := HB2.out.c0
  clear hb2 HB
  go_wp2_with fail
  refine (rroll xs _ day _ hday hl256 (HV1.out.below HB2.out.bel)).mono ?_
  rintro e w3 ⟨b, g, rfl, hb3, hnb⟩
  obtain ⟨rfl, rfl⟩ := (hna.out.same HS.out).det hnb.out
  have HB3 : Hid (BoxV w1 (.slice ad xs.length cap) w3) := HB2.out.below hb3
  clear hna hnb hb3 c2 HB2
  go_wp2_with fail
  refine (xmonths p ys day n _ hday hn (HC1.out.below HB3.out.bel)).mono ?_
  rintro e w4 ⟨a2, f2, rfl, hb4, hna⟩
  have HB4 : Hid (BoxV w1 (.slice ad xs.length cap) w4) := HB3.out.below hb4
  have c4 := HB4.out.c0
  clear hb4 HB3
  go_wp2_with fail
  refine (rmonths xs _ day n _ hday hn hl256 (HV1.out.below HB4.out.bel)).mono ?_
  rintro e w5 ⟨b, g, rfl, hb5, hnb⟩
  obtain ⟨rfl, rfl⟩ := (hna.out.same HS.out).det hnb.out
  have HB5 : Hid (BoxV w1 (.slice ad xs.length cap) w5) := HB4.out.below hb5
  clear hna hnb hb5 c4 HB4
  go_wp2_with fail
  refine (awake_true _).mono ?_
  rintro e w6 h6
  have H6 : Hid (TruePost w e w6) := (h6.of HB5.out.bel).of W1.out
  obtain ⟨rfl, -⟩ := h6
  go_wp2_with fail
  go_ret
  exact H6.out
end Go.Proofs.Ythdngjpfmjnchaa
