/- Layer 10: the small tests of the program and of the reference. -/
import Derived.Test.YtdmlgheajblcdaaGreatMF
import Derived.Test.YtdmlgheajblcdaaGreatNM
import Derived.WalkKit
import Derived.ProofKit
import Derived.Handy
import Derived.WalkLawsBesides
import Derived.WalkSpells
import Derived.BigQuiet
import Derived.BigCall
import Derived.Deep.QuietTactic
import Derived.Deep.Light
import Derived.Deep.OwnRows
import Derived.Laws.AppendOwnNone
import Derived.Laws.Strings3
import Derived.Laws.RangeAny
import Derived.Deep.RegionWith
import Derived.Lib.BitFns
import Derived.Lib.Walk
import Derived.Lib.Strings
import Derived.Lib.OthersKept
import Derived.Deep.CutBlock
import Derived.Deep.DeepCutAuto
import Derived.Deep.LoopGhost
import Derived.Deep.RegionHeld3
import Derived.Lib.SmallJoins
import Derived.Maps.AppendAt
import Derived.Laws.IdiomStrings
import Derived.Lib.AppendZeros
import Derived.Deep.WholeRow
import Derived.Laws.BitsAllLaws
import Derived.Lib.ConvBytes
import Derived.Deep.RegionLaw
namespace Go.Proofs.YtdmlgheajblcdaaGreat
open Go.RowKit
set_option linter.unusedVariables false
set_option linter.unusedSimpArgs false
set_option maxRecDepth 20000
theorem inn_lo {n a b : Int} (h : ¬ a ≤ n) : inn n a b = false := by
  unfold inn; rw [decide_eq_false h]; rfl
theorem inn_hi {n a b : Int} (h : a ≤ n) : inn n a b = decide (n ≤ b) := by
  unfold inn; rw [decide_eq_true h]; rfl
theorem xwithin (n a b : Int) (g : Bool) (h : inn n a b = g) (w : World) : Calls Tryz.prog 39 #[.int .i64 n, .int .i64 a, .int .i64 b] w (BP g w) := by
  by_cases h0 : a ≤ n
  · have H : Hid (decide (n ≤ b) = g) := by unfold Hid; rw [← h, inn_hi h0]
    clear h
    go_enter Tryz.func39, Tryz.ntmps39
    go_wp2_with fail
    go_ret
    exact BP.mk H.out
  · have H : Hid (false = g) := by unfold Hid; rw [← h, inn_lo h0]
    clear h
    go_enter Tryz.func39, Tryz.ntmps39
    go_wp2_with fail
    go_ret
    exact BP.mk H.out
theorem rin (n a b : Int) (g : Bool) (h : inn n a b = g) (w : World) : Calls Tryz.prog 45 #[.int .i64 n, .int .i64 a, .int .i64 b] w (BP g w) := by
  by_cases h0 : a ≤ n
  · have H : Hid (decide (n ≤ b) = g) := by unfold Hid; rw [← h, inn_hi h0]
    clear h
    go_enter Tryz.func45, Tryz.ntmps45
    go_wp2_with fail
    go_ret
    exact BP.mk H.out
  · have H : Hid (false = g) := by unfold Hid; rw [← h, inn_lo h0]
    clear h
    go_enter Tryz.func45, Tryz.ntmps45
    go_wp2_with fail
    go_ret
    exact BP.mk H.out
theorem xmember (n : Int) (g : Bool) (h : inn n 1 32 = g) (w : World) : Calls Tryz.prog 140 #[.int .i64 n] w (BP g w) := by
  go_enter Tryz.func140, Tryz.ntmps140
  go_wp2_with (go_at_call 39; refine (xwithin _ _ _ g h _).mono ?_; rintro e w2 ⟨rfl, rfl⟩)
  go_ret
  exact BP.mk rfl
theorem xamount (n : Int) (g : Bool) (h : inn n 1 1125899906842624 = g) (w : World) : Calls Tryz.prog 141 #[.int .i64 n] w (BP g w) := by
  go_enter Tryz.func141, Tryz.ntmps141
  go_wp2_with (go_at_call 39; refine (xwithin _ _ _ g h _).mono ?_; rintro e w2 ⟨rfl, rfl⟩)
  go_ret
  exact BP.mk rfl
theorem xnumber (n : Int) (g : Bool) (h : inn n 1 1125899906842624 = g) (w : World) : Calls Tryz.prog 40 #[.int .i64 n] w (BP g w) := by
  go_enter Tryz.func40, Tryz.ntmps40
  go_wp2_with (go_at_call 39; refine (xwithin _ _ _ g h _).mono ?_; rintro e w2 ⟨rfl, rfl⟩)
  go_ret
  exact BP.mk rfl
theorem xrate (n : Int) (g : Bool) (h : inn n (-1000000) 1000000 = g) (w : World) : Calls Tryz.prog 142 #[.int .i64 n] w (BP g w) := by
  go_enter Tryz.func142, Tryz.ntmps142
  go_wp2_with (go_at_call 39; refine (xwithin _ _ _ g h _).mono ?_; rintro e w2 ⟨rfl, rfl⟩)
  go_ret
  exact BP.mk rfl
theorem xrating (n : Int) (g : Bool) (h : inn n 0 20 = g) (w : World) : Calls Tryz.prog 41 #[.int .i64 n] w (BP g w) := by
  go_enter Tryz.func41, Tryz.ntmps41
  go_wp2_with (go_at_call 39; refine (xwithin _ _ _ g h _).mono ?_; rintro e w2 ⟨rfl, rfl⟩)
  go_ret
  exact BP.mk rfl
theorem xgood (n : Int) (g : Bool) (h : inn n 0 200000 = g) (w : World) : Calls Tryz.prog 143 #[.int .i64 n] w (BP g w) := by
  by_cases h0 : (0 : Int) ≤ n
  · have H : Hid (decide (n ≤ 200000) = g) := by unfold Hid; rw [← h, inn_hi h0]
    clear h
    go_enter Tryz.func143, Tryz.ntmps143
    go_wp2_with fail
    go_ret
    exact BP.mk H.out
  · have H : Hid (false = g) := by unfold Hid; rw [← h, inn_lo h0]
    clear h
    go_enter Tryz.func143, Tryz.ntmps143
    go_wp2_with fail
    go_ret
    exact BP.mk H.out
theorem rgood (n : Int) (g : Bool) (h : inn n 0 200000 = g) (w : World) : Calls Tryz.prog 71 #[.int .i64 n] w (BP g w) := by
  by_cases h0 : (0 : Int) ≤ n
  · have H : Hid (decide (n ≤ 200000) = g) := by unfold Hid; rw [← h, inn_hi h0]
    clear h
    go_enter Tryz.func71, Tryz.ntmps71
    go_wp2_with fail
    go_ret
    exact BP.mk H.out
  · have H : Hid (false = g) := by unfold Hid; rw [← h, inn_lo h0]
    clear h
    go_enter Tryz.func71, Tryz.ntmps71
    go_wp2_with fail
    go_ret
    exact BP.mk H.out
theorem rmember (n : Int) (g : Bool) (h : inn n 1 32 = g) (w : World) : Calls Tryz.prog 35 #[.int .i64 n] w (BP g w) := by
  by_cases h0 : (1 : Int) ≤ n
  · have H : Hid (decide (n ≤ 32) = g) := by unfold Hid; rw [← h, inn_hi h0]
    clear h
    go_enter Tryz.func35, Tryz.ntmps35
    go_wp2_with fail
    go_ret
    exact BP.mk H.out
  · have H : Hid (false = g) := by unfold Hid; rw [← h, inn_lo h0]
    clear h
    go_enter Tryz.func35, Tryz.ntmps35
    go_wp2_with fail
    go_ret
    exact BP.mk H.out
theorem ramount (n : Int) (g : Bool) (h : inn n 1 1125899906842624 = g) (w : World) : Calls Tryz.prog 46 #[.int .i64 n] w (BP g w) := by
  by_cases h0 : (1 : Int) ≤ n
  · have H : Hid (decide (n ≤ 1125899906842624) = g) := by unfold Hid; rw [← h, inn_hi h0]
    clear h
    go_enter Tryz.func46, Tryz.ntmps46
    go_wp2_with fail
    go_ret
    exact BP.mk H.out
  · have H : Hid (false = g) := by unfold Hid; rw [← h, inn_lo h0]
    clear h
    go_enter Tryz.func46, Tryz.ntmps46
    go_wp2_with fail
    go_ret
    exact BP.mk H.out
theorem xday (n : Int) (g : Bool) (h : inn n 0 200000 = g) (w : World) : Calls Tryz.prog 163 #[.int .i64 n] w (NP .i64 (if g then (0 : Nat) else 10 : Nat) w) := by
  cases g
  · go_enter Tryz.func163, Tryz.ntmps163
    go_wp2_with (go_at_call 143; refine (xgood _ _ h _).mono ?_; rintro e w2 ⟨rfl, rfl⟩)
    go_ret
    exact NP.mk rfl
  · go_enter Tryz.func163, Tryz.ntmps163
    go_wp2_with (go_at_call 143; refine (xgood _ _ h _).mono ?_; rintro e w2 ⟨rfl, rfl⟩)
    go_ret
    exact NP.mk rfl
theorem rday (n : Int) (g : Bool) (h : inn n 0 200000 = g) (w : World) : Calls Tryz.prog 33 #[.int .i64 n] w (NP .i64 (if g then (0 : Nat) else 10 : Nat) w) := by
  cases g
  · go_enter Tryz.func33, Tryz.ntmps33
    go_wp2_with (go_at_call 71; refine (rgood _ _ h _).mono ?_; rintro e w2 ⟨rfl, rfl⟩)
    go_ret
    exact NP.mk rfl
  · go_enter Tryz.func33, Tryz.ntmps33
    go_wp2_with (go_at_call 71; refine (rgood _ _ h _).mono ?_; rintro e w2 ⟨rfl, rfl⟩)
    go_ret
    exact NP.mk rfl
theorem neg_min : IntKind.i64.wrap (-(-9223372036854775808)) = -9223372036854775808 := by decide
theorem xchange (n : Int) (hn : I64 n) (g : Bool) (h : sgn n = g) (w : World) : Calls Tryz.prog 188 #[.int .i64 n] w (BP g w) := by
  unfold sgn at h
  by_cases h1 : amt n = true
  · have H : Hid (true = g) := by unfold Hid; rw [← h, h1]; rfl
    clear h
    go_enter Tryz.func188, Tryz.ntmps188
    go_wp2_with (go_at_call 141; refine (xamount _ _ h1 _).mono ?_; rintro e w2 ⟨rfl, rfl⟩)
    go_ret
    exact BP.mk H.out
  · have h1f : amt n = false := by simpa using h1
    have h2 : amt (wrap64 (-n)) = g := by
      rw [← h, h1f, show wrap64 (-n) = IntKind.i64.wrap (-n) from by unfold wrap64; rw [IntKind.wrap_i64]]
      by_cases hm : n = -9223372036854775808
      · subst hm; decide
      · have hr : IntKind.i64.wrap (-n) = -n := by obtain ⟨ha, hb⟩ := hn; rw [IntKind.wrap_i64]; omega
        rw [hr]
        unfold amt inn
        rw [Bool.eq_iff_iff]
        simp
        omega
    clear h
    go_enter Tryz.func188, Tryz.ntmps188
    go_wp2_with (go_at_call 141; first | (refine (xamount _ _ h1f _).mono ?_; rintro e w2 ⟨rfl, rfl⟩) | (refine (xamount _ _ h2 _).mono ?_; rintro e w2 ⟨rfl, rfl⟩))
    go_ret
    exact BP.mk rfl
end Go.Proofs.YtdmlgheajblcdaaGreat
