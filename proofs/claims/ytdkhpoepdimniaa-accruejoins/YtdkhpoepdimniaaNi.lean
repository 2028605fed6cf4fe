/- Walks of Rate and of Check, of the program and of the reference. Conditions: the rates are ints. -/
import Derived.Test.YtdkhpoepdimniaaNh
import Derived.WalkKit
import Derived.ProofKit
import Derived.Handy
import Derived.WalkLawsBesides
import Derived.WalkSpells
import Derived.BigQuiet
import Derived.Deep.QuietTactic
import Derived.Deep.Light
import Derived.Deep.OwnRows
import Derived.Laws.AppendOwnNone
import Derived.Deep.RegionWith
import Derived.Lib.BitFns
import Derived.Lib.Walk
import Derived.Deep.CutBlock
import Derived.Deep.DeepCutAuto
import Derived.Deep.LoopGhost
import Derived.Deep.RegionHeld3
import Derived.Lib.SmallJoins
namespace Go.Proofs.Ytdkhpoepdimniaa
open Go.RowKit
set_option linter.unusedVariables false
set_option linter.unusedSimpArgs false
def RatePost (l : Pairs) (d : Int) (w : World) (e : Ending) (w' : World) : Prop := e = .returned (.tuple #[.int .i64 (rateV l d), .bool (rateB l d)]) ∧ w = w'
theorem rate_some {l : Pairs} {d x : Int} (h : rateO l d = some x) : rateV l d = x ∧ rateB l d = true := by simp [rateV, rateB, h]
theorem rate_none {l : Pairs} {d : Int} (h : rateO l d = none) : rateV l d = 0 ∧ rateB l d = false := by simp [rateV, rateB, h]
theorem ret_rate {a b : Int} {x y : Bool} (h1 : a = b) (h2 : x = y) : Ending.returned (.tuple #[.int .i64 a, .bool x]) = .returned (.tuple #[.int .i64 b, .bool y]) := by rw [h1, h2]

theorem pcell {w : World} {b off : Nat} {l : Pairs} (hc : ∀ j, j < l.length → w.cell? ⟨b, off + j * 2, none⟩ = some (.int .i64 (l.at j).1) ∧ w.cell? ⟨b, off + j * 2 + 1, none⟩ = some (.int .i64 (l.at j).2)) (k : Nat) (hk : k < l.length) :
    w.cell? ⟨b, off + k * 2, none⟩ = some (.int .i64 (l.at k).1) ∧ w.cell? ⟨b, off + k * 2 + 1, none⟩ = some (.int .i64 (l.at k).2) := hc k hk

set_option maxHeartbeats 4000000 in
set_option maxRecDepth 100000 in
theorem xrate_row (l : Pairs) (d : Int) (b off cap : Nat) (w : World) (hl : PInts l) (hd : I64 d) (hc : ∀ j, j < l.length → w.cell? ⟨b, off + j * 2, none⟩ = some (.int .i64 (l.at j).1) ∧ w.cell? ⟨b, off + j * 2 + 1, none⟩ = some (.int .i64 (l.at j).2)) :
    Calls Try.prog 18 #[.slice (some ⟨b, off, none⟩) l.length cap, .int .i64 d] w (RatePost l d w) := by
  have HC : Hid _ := hc
  have HL : Hid _ := hl
  have hlen := hl.2
  clear hc hl
  go_enter Try.func18, Try.ntmps18
  go_wp2_with fail
  go_loop [6] (fun i => ∃ k : Nat, i = .int .i64 ((k : Int) - 1) ∧ k ≤ l.length ∧ Hid (rateO (l.drop k) d = none)) (fun i => (intOf i + 1).toNat)
  case atStart => exact ⟨l.length, rfl, by omega, by rw [List.drop_length]; rfl⟩
  case round =>
    obtain ⟨k, rfl, hk, hn⟩ := hrel
    by_cases h0 : k = 0
    · subst h0
      have H : Hid _ := rate_none hn.out
      go_wp2
      go_ret2
      exact ⟨ret_rate H.out.1.symm H.out.2.symm, rfl⟩
    · obtain ⟨m, rfl⟩ : ∃ m, k = m + 1 := ⟨k - 1, by omega⟩
      have f := HC.out m (by omega)
      have f0 := f.1
      have f1 := f.2
      have b0 := (HL.out.1 m)
      clear f
      have hy : (l.at m).1 ≤ d → Hid (rateO l d = some (l.at m).2) := fun h => by
        show _ = _
        have h1 := rateO_append (l.take (m + 1)) (l.drop (m + 1)) d
        rw [List.take_append_drop, hn.out, rateO_take_yes l m d (by omega) h] at h1
        exact h1
      have hno : ¬ (l.at m).1 ≤ d → Hid (rateO (l.drop m) d = none) := fun h => by
        show _ = _
        rw [drop_at l m (by omega), rateO, hn.out]
        simp [h]
      generalize (l.at m).1 = x at *
      generalize (l.at m).2 = y at *
      by_cases hx : x ≤ d
      · have H : Hid _ := rate_some (hy hx).out
        clear hy hno
        go_wp2
        go_ret2
        exact ⟨ret_rate H.out.1.symm H.out.2.symm, rfl⟩
      · have H := hno hx
        clear hy hno
        go_wp2
        exact ⟨⟨m, by go_num, by omega, H⟩, by simp [intOf]⟩

theorem xrate (l : Pairs) (d : Int) (v : Value) (w : World) (hl : PInts l) (hd : I64 d) (hv : PSeg w v l) : Calls Try.prog 18 #[v, .int .i64 d] w (RatePost l d w) := by
  obtain ⟨a, cap, rfl, h⟩ := hv
  by_cases h0 : l = []
  · subst h0
    clear h
    go_enter Try.func18, Try.ntmps18
    go_wp2
    refine wp_loop_rounds 1 ?_
    rw [rounds_succ]
    go_wp2
    go_ret2
    exact ⟨ret_rate rfl rfl, rfl⟩
  · obtain ⟨b, off, rfl, hb, hc⟩ := h h0
    exact xrate_row l d b off cap w hl hd hc

/-- the rate so far, of the first ones -/
def soFar (l : Pairs) (d : Int) (k : Nat) (x : Int) (f : Bool) : Prop := x = rateV (l.take k) d ∧ f = rateB (l.take k) d
theorem soFar.yes {l : Pairs} {d : Int} {k : Nat} (hk : k < l.length) (h : (l.at k).1 ≤ d) : soFar l d (k + 1) (l.at k).2 true := by
  have := rate_some (rateO_take_yes l k d hk h)
  exact ⟨this.1.symm, this.2.symm⟩
theorem soFar.no {l : Pairs} {d : Int} {k : Nat} {x : Int} {f : Bool} (hs : soFar l d k x f) (hk : k < l.length) (h : ¬ (l.at k).1 ≤ d) : soFar l d (k + 1) x f := by
  unfold soFar rateV rateB at *
  rw [rateO_take_no l k d hk h]
  exact hs
theorem soFar.all {l : Pairs} {d : Int} {x : Int} {f : Bool} (hs : soFar l d l.length x f) : x = rateV l d ∧ f = rateB l d := by
  unfold soFar at hs
  rw [List.take_length] at hs
  exact hs

set_option maxHeartbeats 4000000 in
set_option maxRecDepth 100000 in
theorem rrate_row (l : Pairs) (d : Int) (b off cap : Nat) (w : World) (hl : PInts l) (hd : I64 d) (hc : ∀ j, j < l.length → w.cell? ⟨b, off + j * 2, none⟩ = some (.int .i64 (l.at j).1) ∧ w.cell? ⟨b, off + j * 2 + 1, none⟩ = some (.int .i64 (l.at j).2)) :
    Calls Try.prog 19 #[.slice (some ⟨b, off, none⟩) l.length cap, .int .i64 d] w (RatePost l d w) := by
  have HC : Hid _ := hc
  have HL : Hid _ := hl
  have hlen := hl.2
  clear hc hl
  go_enter Try.func19, Try.ntmps19
  go_wp2_with fail
  go_loop [6, 7, 8] (fun x f i => ∃ (k : Nat) (xv : Int) (fv : Bool), i = .int .i64 k ∧ x = .int .i64 xv ∧ f = .bool fv ∧ k ≤ l.length ∧ Hid (soFar l d k xv fv)) (fun _ _ i => l.length - (intOf i).toNat)
  case atStart => exact ⟨0, 0, false, rfl, rfl, rfl, by omega, ⟨rfl, rfl⟩⟩
  case round =>
    obtain ⟨k, xv, fv, rfl, rfl, rfl, hk, hs⟩ := hrel
    by_cases h0 : k < l.length
    · have f := HC.out k h0
      have f0 := f.1
      have f1 := f.2
      have b0 := (HL.out.1 k)
      clear f
      have hy := fun h => (soFar.yes (d := d) h0 h)
      have hno := fun h => (hs.out.no h0 h)
      generalize (l.at k).1 = x at *
      generalize (l.at k).2 = y at *
      by_cases hx : x ≤ d
      · have H : Hid _ := (hy hx)
        clear hy hno
        go_wp2
        exact ⟨⟨k + 1, y, true, by go_num, rfl, rfl, by omega, H⟩, by simp [intOf]; omega⟩
      · have H : Hid _ := hno hx
        clear hy hno
        go_wp2
        exact ⟨⟨k + 1, xv, fv, by go_num, rfl, rfl, by omega, H⟩, by simp [intOf]; omega⟩
    · obtain rfl : k = l.length := by omega
      have H : Hid _ := hs.out.all
      clear hs
      go_wp2
      go_ret2
      exact ⟨ret_rate H.out.1 H.out.2, rfl⟩

theorem rrate (l : Pairs) (d : Int) (v : Value) (w : World) (hl : PInts l) (hd : I64 d) (hv : PSeg w v l) : Calls Try.prog 19 #[v, .int .i64 d] w (RatePost l d w) := by
  obtain ⟨a, cap, rfl, h⟩ := hv
  by_cases h0 : l = []
  · subst h0
    clear h
    go_enter Try.func19, Try.ntmps19
    go_wp2
    refine wp_loop_rounds 1 ?_
    rw [rounds_succ]
    go_wp2
    go_ret2
    exact ⟨ret_rate rfl rfl, rfl⟩
  · obtain ⟨b, off, rfl, hb, hc⟩ := h h0
    exact rrate_row l d b off cap w hl hd hc
end Go.Proofs.Ytdkhpoepdimniaa
