/- AccrueRates: for every input the law returns true. No condition. Here: the walk of the law itself, out of the walks of what it calls. -/
import Derived.Test.YtdkhpoepdimniaaNj
import Derived.WalkKit
import Derived.ProofKit
import Derived.Handy
import Derived.WalkLawsBesides
import Derived.WalkSpells
import Derived.BigQuiet
import Derived.Deep.QuietTactic
import Derived.Deep.Light
import Derived.Deep.OwnRows
import Derived.Laws.AppendOwnNone
import Derived.Deep.RegionWith
import Derived.Lib.BitFns
import Derived.Lib.Walk
import Derived.Deep.CutBlock
import Derived.Deep.DeepCutAuto
import Derived.Deep.LoopGhost
import Derived.Deep.RegionHeld3
import Derived.Lib.SmallJoins
namespace Go.Proofs.Ytdkhpoepdimniaa
open Go.RowKit
set_option linter.unusedVariables false
set_option linter.unusedSimpArgs false
set_option maxHeartbeats 4000000 in
set_option maxRecDepth 100000 in
theorem rates_walk (l : Pairs) (v : Value) (d : Int) (w : World) (hl : PInts l) (hv : PSeg w v l) (hd : I64 d) : Calls Try.prog 5 #[v, .int .i64 d] w (TruePost w) := by
  have HL : Hid (PInts l) := hl
  have HV : Hid (PSeg w v l) := hv
  have HD : Hid (I64 d) := hd
  obtain ⟨ad, cap, rfl, -⟩ := hv
  clear hl hd
  go_enter Try.func5, Try.ntmps5
  go_wp2_with fail
  refine (xcheck l _ _ HL.out HV.out).mono ?_
  rintro e w1 ⟨rfl, hb1⟩
  have W1 : Hid (Below w.heap.size w w1) := hb1
  clear hb1
  go_wp2_with fail
  refine (rcheck l _ _ HL.out (HV.out.below W1.out)).mono ?_
  rintro e w2 ⟨rfl, hb2⟩
  have W2 : Hid (Below w.heap.size w w2) := W1.out.trans (hb2.mono W1.out.size)
  clear hb2
  go_wp2_with fail
  refine (rcheck l _ _ HL.out (HV.out.below W2.out)).mono ?_
  rintro e w3 ⟨rfl, hb3⟩
  have W3 : Hid (Below w.heap.size w w3) := W2.out.trans (hb3.mono W2.out.size)
  clear hb3
  generalize chk l = c
  by_cases hc : c = 0
  · subst hc
    go_wp2_with fail
    refine (xrate l d _ _ HL.out HD.out (HV.out.below W3.out)).mono ?_
    rintro e w4 ⟨rfl, rfl⟩
    go_wp2_with fail
    refine (rrate l d _ _ HL.out HD.out (HV.out.below W3.out)).mono ?_
    rintro e w4 ⟨rfl, rfl⟩
    generalize rateV l d = x
    generalize rateB l d = f
    go_wp2_with fail
    refine (awake_true _).mono ?_
    rintro e w4 ⟨rfl, hb4⟩
    go_wp2
    go_ret
    exact ⟨rfl, W3.out.trans (hb4.mono W3.out.size)⟩
  · have hc' : (c != 0) = true := by simp [hc]
    go_wp2_with fail
    refine (awake_true _).mono ?_
    rintro e w4 ⟨rfl, hb4⟩
    go_wp2
    go_ret
    exact ⟨rfl, W3.out.trans (hb4.mono W3.out.size)⟩
end Go.Proofs.Ytdkhpoepdimniaa
