/- AccrueOne: for every input the law returns true. No condition. Here: the walk of the law itself, out of the walks of what it calls. -/
import Derived.Test.YtdkhpoepdimniaaNo
import Derived.WalkKit
import Derived.ProofKit
import Derived.Handy
import Derived.WalkLawsBesides
import Derived.WalkSpells
import Derived.BigQuiet
import Derived.Deep.QuietTactic
import Derived.Deep.Light
import Derived.Deep.OwnRows
import Derived.Laws.AppendOwnNone
import Derived.Deep.RegionWith
import Derived.Lib.BitFns
import Derived.Lib.Walk
import Derived.Deep.CutBlock
import Derived.Deep.DeepCutAuto
import Derived.Deep.LoopGhost
import Derived.Deep.RegionHeld3
import Derived.Lib.SmallJoins
namespace Go.Proofs.Ytdkhpoepdimniaa
open Go.RowKit
set_option linter.unusedVariables false
set_option linter.unusedSimpArgs false
theorem rate_one (r d : Int) (h : 0 ≤ d) : rateV [(0, r)] d = r := by simp [rateV, rateO, h]
theorem chk_one_no (r : Int) (h : ¬ Rtd r) : chk [(0, r)] = 1 := by
  rw [chk, if_neg (by simp), if_neg (by simp)]
  exact chkG_rate _ 0 (by simp) (fun h => by rcases h with h | h <;> simp [Pairs.at] at h) (by simpa [Pairs.at] using h)
theorem chk_one_yes (r : Int) (h : Rtd r) : chk [(0, r)] = 0 := by
  rw [chk, if_neg (by simp), if_neg (by simp), chkG_next _ 0 (by simp) (fun h => by rcases h with h | h <;> simp [Pairs.at] at h) (by simpa [Pairs.at] using h)]
  exact chkG_end _ _ (by simp)
theorem one_eq (a r f n : Int) (hf : 0 ≤ f ∧ f ≤ 100000) (hn : Spn n) : runE [(0, r)] a f (f + n) = simE a r n ∧ runT [(0, r)] a f (f + n) / 360000000 = simS a r n := by
  by_cases hr : Rtd r
  · have hc := chk_one_yes r hr
    have hok : ¬ (¬ (0 ≤ f ∧ f ≤ 200000) ∨ ¬ (0 ≤ f + n ∧ f + n ≤ 200000) ∨ ¬ Spn (f + n - f) ∨ f < (Pairs.at [(0, r)] 0).1) := by
      have h0 : (Pairs.at [(0, r)] 0).1 = 0 := rfl
      rw [h0]
      omega
    by_cases ha : Amt a
    · have hz := runE_ok hc hok ha
      have hs := sim_yes (a := a) (t := r) (n := n) ⟨ha, hr, hn⟩
      refine ⟨hz.trans hs.2.symm, ?_⟩
      rw [runT_ok hz, hs.1, show (f + n - f).toNat = n.toNat by omega, sumR_const [(0, r)] f r n.toNat (fun j _ => rate_one r _ (by omega)), show ((n.toNat : Nat) : Int) = n by omega]
    · have hz := runE_amt hc hok ha
      have hs := sim_no (a := a) (t := r) (n := n) (fun h => ha h.1)
      refine ⟨hz.trans hs.2.symm, ?_⟩
      rw [runT_err (by omega), hs.1]
      rfl
  · have hc := chk_one_no r hr
    have hz := runE_chk (a := a) (f := f) (t := f + n) (l := [(0, r)]) (by omega)
    have hs := sim_no (a := a) (t := r) (n := n) (fun h => hr h.2.1)
    rw [hc] at hz
    refine ⟨hz.trans hs.2.symm, ?_⟩
    rw [runT_err (by omega), hs.1]
    rfl

theorem Blk.one {w : World} {g : Nat} {T : TypeId} {r : Int} (h : Blk w g T 0 r) : PSeg w (.slice (some ⟨g, 0, none⟩) 1 1) [(0, r)] := by
  refine ⟨some ⟨g, 0, none⟩, 1, rfl, fun _ => ⟨g, 0, rfl, h.lt, fun j hj => ?_⟩⟩
  have : j = 0 := by simpa using hj
  subst this
  exact ⟨h.c0, h.c1⟩
theorem ints_one {r : Int} (h : I64 r) : PInts [(0, r)] := by
  refine ⟨fun j => ?_, by simp⟩
  match j with
  | 0 => exact ⟨show I64 0 by decide, h⟩
  | n + 1 => exact ⟨by simp [Pairs.at]; decide, by simp [Pairs.at]; decide⟩

set_option maxHeartbeats 4000000 in
set_option maxRecDepth 100000 in
theorem one_walk (a r f n : Int) (w : World) (ha : I64 a) (hr : I64 r) (hf : I64 f) (hn : I64 n) :
    Calls Try.prog 8 #[.int .i64 a, .int .i64 r, .int .i64 f, .int .i64 n] w (TruePost w) := by
  have HA : Hid (I64 a ∧ I64 r ∧ I64 f ∧ I64 n) := ⟨ha, hr, hf, hn⟩
  by_cases h1 : n < 0
  · go_enter Try.func8, Try.ntmps8
    go_wp2_with fail
    refine (awake_true _).mono ?_
    rintro e w1 ⟨rfl, hb1⟩
    go_wp2
    go_ret
    exact ⟨rfl, hb1⟩
  by_cases h2 : 3660 < n
  · go_enter Try.func8, Try.ntmps8
    go_wp2_with fail
    refine (awake_true _).mono ?_
    rintro e w1 ⟨rfl, hb1⟩
    go_wp2
    go_ret
    exact ⟨rfl, hb1⟩
  by_cases h3 : f < 0
  · go_enter Try.func8, Try.ntmps8
    go_wp2_with fail
    refine (awake_true _).mono ?_
    rintro e w1 ⟨rfl, hb1⟩
    go_wp2
    go_ret
    exact ⟨rfl, hb1⟩
  by_cases h4 : 100000 < f
  · go_enter Try.func8, Try.ntmps8
    go_wp2_with fail
    refine (awake_true _).mono ?_
    rintro e w1 ⟨rfl, hb1⟩
    go_wp2
    go_ret
    exact ⟨rfl, hb1⟩
  have HO : Hid _ := one_eq a r f n ⟨by omega, by omega⟩ ⟨by omega, by omega⟩
  have W0 : Hid (Below w.heap.size w (w.alloc (.cells #[.int .i64 0, .int .i64 r] 51))) := (Below.refl _ _).alloc (Nat.le_refl _) _
  have B0 : Hid (Blk (w.alloc (.cells #[.int .i64 0, .int .i64 r] 51)) w.heap.size 51 0 r) := Blk.new _ _ _ _
  go_enter Try.func8, Try.ntmps8
  go_wp2_with fail
  refine (xbetween [(0, r)] _ a f (f + n) _ (ints_one HA.out.2.1) B0.out.one HA.out.1 HA.out.2.2.1 ⟨by omega, by omega⟩).mono ?_
  rintro e w1 ⟨rfl, hb1⟩
  rw [HO.out.1, HO.out.2]
  have W1 : Hid (Below w.heap.size w w1) := W0.out.trans (hb1.mono W0.out.size)
  clear hb1 HO
  go_wp2_with fail
  refine (xsimple a r n HA.out.1 HA.out.2.1 HA.out.2.2.2 _).mono ?_
  rintro e w2 ⟨rfl, hb2⟩
  have W2 : Hid (Below w.heap.size w w2) := W1.out.trans (hb2.mono W1.out.size)
  clear hb2
  generalize simS a r n = x at *
  generalize simE a r n = y at *
  go_wp2_with fail
  refine (awake_true _).mono ?_
  rintro e w3 ⟨rfl, hb3⟩
  go_wp2
  go_ret
  exact ⟨rfl, W2.out.trans (hb3.mono W2.out.size)⟩
end Go.Proofs.Ytdkhpoepdimniaa
