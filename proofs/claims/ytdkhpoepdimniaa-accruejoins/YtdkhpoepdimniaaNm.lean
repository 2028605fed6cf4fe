/- Walks of Between and Back of the program, and of Between of the reference. Conditions: the arguments are ints. -/
import Derived.Test.YtdkhpoepdimniaaNl
import Derived.WalkKit
import Derived.ProofKit
import Derived.Handy
import Derived.WalkLawsBesides
import Derived.WalkSpells
import Derived.BigQuiet
import Derived.Deep.QuietTactic
import Derived.Deep.Light
import Derived.Deep.OwnRows
import Derived.Laws.AppendOwnNone
import Derived.Deep.RegionWith
import Derived.Lib.BitFns
import Derived.Lib.Walk
import Derived.Deep.CutBlock
import Derived.Deep.DeepCutAuto
import Derived.Deep.LoopGhost
import Derived.Deep.RegionHeld3
import Derived.Lib.SmallJoins
namespace Go.Proofs.Ytdkhpoepdimniaa
open Go.RowKit
set_option linter.unusedVariables false
set_option linter.unusedSimpArgs false
def BtwPost (l : Pairs) (a f t : Int) (w : World) (e : Ending) (w' : World) : Prop := e = .returned (.tuple #[.int .i64 (runT l a f t / 360000000), .int .i64 (runE l a f t)]) ∧ Below w.heap.size w w'

set_option maxHeartbeats 4000000 in
set_option maxRecDepth 100000 in
theorem xbetween (l : Pairs) (v : Value) (a f t : Int) (w : World) (hl : PInts l) (hv : PSeg w v l) (ha : I64 a) (hf : I64 f) (ht : I64 t) :
    Calls Try.prog 20 #[.int .i64 a, v, .int .i64 f, .int .i64 t] w (BtwPost l a f t w) := by
  have HL : Hid (PInts l) := hl
  have HV : Hid (PSeg w v l) := hv
  have HA : Hid (I64 a ∧ I64 f ∧ I64 t) := ⟨ha, hf, ht⟩
  obtain ⟨ad, cap, rfl, -⟩ := hv
  clear hl ha hf ht
  go_enter Try.func20, Try.ntmps20
  go_wp2_with fail
  refine (xrun l _ a f t _ HL.out HV.out HA.out.1 HA.out.2.1 HA.out.2.2).mono ?_
  rintro e w1 ⟨rfl, hb1⟩
  generalize hx : runT l a f t / 360000000 = x
  generalize hy : runT l a f t % 360000000 = y
  generalize hz : runE l a f t = z
  have W1 : Hid (Below w.heap.size w (w1.alloc (.cells #[.int .i64 x, .int .i64 y] 31))) := hb1.alloc hb1.size _
  have B1 : Hid (Blk (w1.alloc (.cells #[.int .i64 x, .int .i64 y] 31)) w1.heap.size 31 x y) := Blk.new _ _ _ _
  have Hx : Hid _ := hx
  have Hz : Hid _ := hz
  clear hx hy hz hb1
  go_upto_region 2 with fail
  generalize w1.alloc (.cells #[.int .i64 x, .int .i64 y] 31) = w2 at *
  have f0 := B1.out.c0
  go_wp2
  go_ret2
  exact ⟨ret_two Hx.out.symm Hz.out.symm, W1.out⟩

def backS (l : Pairs) (a f t : Int) : Int := if runE l a f t = 0 then a + runT l a f t / 360000000 else 0
def BackPost (l : Pairs) (a f t : Int) (w : World) (e : Ending) (w' : World) : Prop := e = .returned (.tuple #[.int .i64 (backS l a f t), .int .i64 (runE l a f t)]) ∧ Below w.heap.size w w'
theorem run_fits (l : Pairs) (a f t : Int) : -12000000000000000 ≤ runT l a f t / 360000000 ∧ runT l a f t / 360000000 ≤ 12000000000000000 := by
  have := runT_bound l a f t
  omega

set_option maxHeartbeats 4000000 in
set_option maxRecDepth 100000 in
theorem xback (l : Pairs) (v : Value) (a f t : Int) (w : World) (hl : PInts l) (hv : PSeg w v l) (ha : I64 a) (hf : I64 f) (ht : I64 t) :
    Calls Try.prog 22 #[.int .i64 a, v, .int .i64 f, .int .i64 t] w (BackPost l a f t w) := by
  have HL : Hid (PInts l) := hl
  have HV : Hid (PSeg w v l) := hv
  have HA : Hid (I64 a ∧ I64 f ∧ I64 t) := ⟨ha, hf, ht⟩
  obtain ⟨ad, cap, rfl, -⟩ := hv
  clear hl ha hf ht
  go_enter Try.func22, Try.ntmps22
  go_wp2_with fail
  refine (xbetween l _ a f t _ HL.out HV.out HA.out.1 HA.out.2.1 HA.out.2.2).mono ?_
  rintro e w1 ⟨rfl, hb1⟩
  have hbd := run_fits l a f t
  by_cases hz : runE l a f t = 0
  · have hM := (runE_zero hz).2.2.2.2.2
    have HS : Hid (backS l a f t = a + runT l a f t / 360000000) := if_pos hz
    have HZ : Hid _ := hz
    rw [hz]
    clear hz
    generalize runT l a f t / 360000000 = x at *
    go_wp2_with fail
    refine (xplus a x HA.out.1 ⟨by omega, by omega⟩ _).mono ?_
    rintro e w2 ⟨rfl, rfl⟩
    have hfit : I64 (a + x) := ⟨by omega, by omega⟩
    rw [(fit_in _ hfit).1, (fit_in _ hfit).2]
    go_wp2
    go_ret2
    exact ⟨ret_two HS.out.symm HZ.out.symm, hb1⟩
  · have HS : Hid (backS l a f t = 0) := if_neg hz
    have hzb : (runE l a f t != 0) = true := bne_iff_ne.2 hz
    clear hz
    have HP : Hid (BackPost l a f t w (.returned (.tuple #[.int .i64 0, .int .i64 (runE l a f t)])) w1) := ⟨ret_two HS.out.symm rfl, hb1⟩
    generalize runE l a f t = c at *
    go_wp2
    go_ret2
    exact HP.out

/-- the k-th one's day; behind all of them the last day -/
def dayK (l : Pairs) (t : Int) (k : Nat) : Int := if k < l.length then (l.at k).1 else t
/-- the rates of the days ahead of the k-th one's -/
def aheadR (l : Pairs) (f t : Int) (k : Nat) : Int := sumR l f (clampN f t (dayK l t k))
theorem ahead_bound (l : Pairs) (hg : Good l) (f t : Int) (h : Spn (t - f)) (k : Nat) : -3660000000 ≤ aheadR l f t k ∧ aheadR l f t k ≤ 3660000000 := by
  have h1 := sumR_bound l hg.rate f (clampN f t (dayK l t k))
  have h2 : clampN f t (dayK l t k) ≤ 3660 := by
    unfold clampN
    split
    · omega
    · split <;> omega
  unfold aheadR
  omega
theorem ahead_first (l : Pairs) (hg : Good l) (f t : Int) (h : Spn (t - f)) (hf : (l.at 0).1 ≤ f) : aheadR l f t 0 = 0 := by
  unfold aheadR dayK
  rw [if_pos hg.pos]
  exact sum_first l f t (by omega) hf
theorem ahead_last (l : Pairs) (f t : Int) (h : Spn (t - f)) : aheadR l f t l.length = sumR l f (t - f).toNat := by
  unfold aheadR dayK
  rw [if_neg (by omega), clamp_end f t (by omega)]
theorem ahead_next (l : Pairs) (hg : Good l) (f t : Int) (h : Spn (t - f)) (hf : (l.at 0).1 ≤ f) (k : Nat) (hk : k < l.length) (b : Int)
    (hb : b = if k + 1 < l.length ∧ (l.at (k + 1)).1 < t then (l.at (k + 1)).1 else t) (a : Int) (ha : a = if (l.at k).1 < f then f else (l.at k).1) :
    aheadR l f t (k + 1) = aheadR l f t k + (if a < b then (l.at k).2 * (b - a) else 0) := by
  have := sum_piece l hg f t (by omega) k hk hf b hb a ha
  unfold aheadR dayK
  rw [if_pos hk]
  exact this
end Go.Proofs.Ytdkhpoepdimniaa
