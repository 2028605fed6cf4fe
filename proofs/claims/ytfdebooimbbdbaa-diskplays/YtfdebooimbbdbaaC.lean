/- The small calls of a disk: lacking, find, spend, cut, late, sync. -/
import Derived.Test.YtfdebooimbbdbaaB
import Derived.WalkKit
import Derived.ProofKit
import Derived.Handy
import Derived.WalkLawsBesides
import Derived.WalkSpells
import Derived.BigQuiet
import Derived.BigCall
import Derived.Deep.QuietTactic
import Derived.Deep.Light
import Derived.Deep.OwnRows
import Derived.Laws.AppendOwnNone
import Derived.Laws.Strings3
import Derived.Laws.RangeAny
import Derived.Deep.RegionWith
import Derived.Lib.BitFns
import Derived.Lib.Walk
import Derived.Lib.Strings
import Derived.Lib.OthersKept
import Derived.Deep.CutBlock
import Derived.Deep.DeepCutAuto
import Derived.Deep.LoopGhost
import Derived.Deep.RegionHeld3
import Derived.Lib.SmallJoins
import Derived.Maps.AppendAt
import Derived.Laws.IdiomStrings
namespace Go.Proofs.Ytfdebooimbbdbaa
open Go.RowKit
set_option linter.unusedVariables false
set_option linter.unusedSimpArgs false
theorem xlack (B p : Nat) (S : St) (V : Nat → Value) (w : World) (h : Dk B w p S V) : Calls Try.prog 28 #[.pointer (some ⟨p, 0, none⟩)] w fun e w' => e = .returned (.bool false) ∧ w = w' := by
  have hc := h.c0
  clear h
  go_enter Try.func28, Try.ntmps28
  go_wp2
  go_ret
  exact ⟨rfl, rfl⟩
theorem xlackn (w : World) : Calls Try.prog 28 #[.pointer none] w fun e w' => e = .returned (.bool true) ∧ w = w' := by
  go_enter Try.func28, Try.ntmps28
  go_wp2
  go_ret
  exact ⟨rfl, rfl⟩
theorem xlack0 (p : Nat) (w : World) (hc : w.cell? ⟨p, 0, none⟩ = some (.bool false)) : Calls Try.prog 28 #[.pointer (some ⟨p, 0, none⟩)] w fun e w' => e = .returned (.bool true) ∧ w = w' := by
  go_enter Try.func28, Try.ntmps28
  go_wp2
  go_ret
  exact ⟨rfl, rfl⟩
set_option maxHeartbeats 400000 in
theorem xfind (B p : Nat) (S : St) (V : Nat → Value) (w : World) (h : Dk B w p S V) (i : Nat) (hi : i < 4) (hg : S.gone = false) : Calls Try.prog 26 #[.pointer (some ⟨p, 0, none⟩), .int .i64 i] w fun e w' => e = .returned (.tuple #[.pointer (some ⟨p, 3 + i * 2, none⟩), .int .i64 0]) ∧ w = w' := by
  have hc := h.c1
  rw [hg] at hc
  have H : Hid (Dk B w p S V) := h
  have h1 : (i : Int) < 4 := by omega
  have h2 : ¬ ((i : Int) < 0) := by omega
  clear h hg
  go_enter Try.func26, Try.ntmps26
  go_wp2_with fail
  refine (xlack B p S V _ H.out).mono ?_
  rintro e w1 ⟨rfl, rfl⟩
  go_wp2_with fail
  go_ret2
  exact ⟨rfl, rfl⟩
set_option maxHeartbeats 400000 in
theorem xfindg (B p : Nat) (S : St) (V : Nat → Value) (w : World) (h : Dk B w p S V) (i : Int) (hg : S.gone = true) : Calls Try.prog 26 #[.pointer (some ⟨p, 0, none⟩), .int .i64 i] w fun e w' => e = .returned (.tuple #[.pointer none, .int .i64 13]) ∧ w = w' := by
  have hc := h.c1
  rw [hg] at hc
  have H : Hid (Dk B w p S V) := h
  clear h hg
  go_enter Try.func26, Try.ntmps26
  go_wp2_with fail
  refine (xlack B p S V _ H.out).mono ?_
  rintro e w1 ⟨rfl, rfl⟩
  go_wp2_with fail
  go_ret2
  exact ⟨rfl, rfl⟩
set_option maxHeartbeats 400000 in
theorem xfindo (B p : Nat) (S : St) (V : Nat → Value) (w : World) (h : Dk B w p S V) (i : Int) (hi : i < 0 ∨ 3 < i) (hg : S.gone = false) : Calls Try.prog 26 #[.pointer (some ⟨p, 0, none⟩), .int .i64 i] w fun e w' => e = .returned (.tuple #[.pointer none, .int .i64 6]) ∧ w = w' := by
  have hc := h.c1
  rw [hg] at hc
  have H : Hid (Dk B w p S V) := h
  clear h hg
  by_cases h1 : i < 0
  · clear hi
    go_enter Try.func26, Try.ntmps26
    go_wp2_with fail
    refine (xlack B p S V _ H.out).mono ?_
    rintro e w1 ⟨rfl, rfl⟩
    go_wp2_with fail
    go_ret2
    exact ⟨rfl, rfl⟩
  · have h2 : 4 ≤ i := by omega
    clear hi
    go_enter Try.func26, Try.ntmps26
    go_wp2_with fail
    refine (xlack B p S V _ H.out).mono ?_
    rintro e w1 ⟨rfl, rfl⟩
    go_wp2_with fail
    go_ret2
    exact ⟨rfl, rfl⟩
/-- of nil, or of what New didn't make -/
def Lack (w : World) (v : Value) : Prop := v = .pointer none ∨ ∃ p, v = .pointer (some ⟨p, 0, none⟩) ∧ w.cell? ⟨p, 0, none⟩ = some (.bool false)
theorem ylack (v : Value) (w : World) (h : Lack w v) : Calls Try.prog 28 #[v] w fun e w' => e = .returned (.bool true) ∧ w = w' := by
  rcases h with rfl | ⟨p, rfl, hc⟩
  · exact xlackn w
  · exact xlack0 p w hc
theorem yfind (v : Value) (w : World) (h : Lack w v) (i : Int) : Calls Try.prog 26 #[v, .int .i64 i] w fun e w' => e = .returned (.tuple #[.pointer none, .int .i64 3]) ∧ w = w' := by
  have H : Hid (Lack w v) := h
  clear h
  go_enter Try.func26, Try.ntmps26
  go_wp2_with fail
  refine (ylack v _ H.out).mono ?_
  rintro e w1 ⟨rfl, rfl⟩
  go_wp2_with fail
  go_ret2
  exact ⟨rfl, rfl⟩
/-- what a change of the disk leaves: the disk as said, all else as it was -/
def Ch (B p : Nat) (S : St) (V : Nat → Value) (w w' : World) : Prop := Dk B w' p S V ∧ Fr B p w w'
theorem Ch.trans {B p : Nat} {S T : St} {V U : Nat → Value} {a b c : World} (h : Ch B p S V a b) (k : Ch B p T U b c) : Ch B p T U a c := ⟨k.1, h.2.trans k.2⟩
set_option maxHeartbeats 400000 in
theorem xspend (B p : Nat) (S : St) (V : Nat → Value) (w : World) (h : Dk B w p S V) (ok : Ok S) : Calls Try.prog 31 #[.pointer (some ⟨p, 0, none⟩)] w fun e w' => e = .returned (.int .i64 (spd S).2) ∧ Ch B p (spd S).1 V w w' := by
  have hc := h.c2
  have hc1 := h.c1
  have hf1 := h.froz 1
  have hf2 := h.froz 2
  have H : Hid (Dk B w p S V) := h
  have hlo := ok.lo
  have hhi := ok.hi
  rcases spd_cases S with ⟨c, e⟩ | ⟨c, e⟩ | ⟨c, e⟩ <;> rw [e] <;> clear e h ok
  · have HP : Hid (Dk B (w.setCell ⟨p, 1, none⟩ (.bool false)) p { S with gone := true } V) := H.out.setP true
    rw [c] at hc
    clear c hlo hhi
    go_enter Try.func31, Try.ntmps31
    go_wp2
    go_ret
    exact ⟨rfl, HP.out, Fr.set H.out.base _ _⟩
  · have HP : Hid (Dk B (w.setCell ⟨p, 2, none⟩ (.int .i64 (S.lim - 1))) p { S with lim := S.lim - 1 } V) := H.out.setL _
    generalize S.lim = l at *
    have hl : ¬ l = 0 := by omega
    have hl2 : (l == 0) = false := by simpa using hl
    go_enter Try.func31, Try.ntmps31
    go_wp2
    go_ret
    exact ⟨rfl, HP.out, Fr.set H.out.base _ _⟩
  · generalize S.lim = l at *
    have hl : ¬ l = 0 := by omega
    have hl2 : (l == 0) = false := by simpa using hl
    have hl3 : ¬ 0 < l := by omega
    go_enter Try.func31, Try.ntmps31
    go_wp2
    go_ret
    exact ⟨rfl, H.out, Fr.refl _ _ _⟩
set_option maxHeartbeats 400000 in
theorem xlate (B p : Nat) (S : St) (V : Nat → Value) (w : World) (h : Dk B w p S V) (ok : Ok S) (i : Nat) (hi : i < 4) : Calls Try.prog 27 #[.pointer (some ⟨p, 3 + i * 2, none⟩)] w fun e w' => e = .returned (.int .i64 ((S.f i).size - S.s i : Nat)) ∧ ∃ n, w' = w.drewN n := by
  have hc := h.cV hi
  have hs := h.cS hi
  obtain ⟨a, cap, hv, _⟩ := own_sl (h.own i hi)
  rw [hv] at hc
  have h1 := ok.safe i
  have h2 := ok.small i
  have H : Hid (((S.f i).size - S.s i : Nat) = ((S.f i).size : Int) - S.s i) := by show (_ : Int) = _; omega
  rw [H.out]
  generalize (S.f i).size = n at *
  generalize S.s i = m at *
  have h3 : (m : Int) ≤ n := by omega
  have h4 : (n : Int) ≤ 1048576 := by omega
  clear h ok hv H h1 h2
  go_enter Try.func27, Try.ntmps27
  go_wp2
  go_quiet (fail)
  go_wp2
  go_ret
  exact ⟨rfl, _, rfl⟩
set_option maxHeartbeats 400000 in
theorem xsync (B p : Nat) (S : St) (V : Nat → Value) (w : World) (h : Dk B w p S V) (i : Nat) (hi : i < 4) : Calls Try.prog 30 #[.pointer (some ⟨p, 3 + i * 2, none⟩)] w fun e w' => e = .returned (.tuple #[]) ∧ Ch B p { S with s := put S.s i (S.f i).size } V w w' := by
  have hc := h.cV hi
  have hs := h.cS hi
  have hf := h.froz (3 + i * 2 + 1)
  obtain ⟨a, cap, hv, _⟩ := own_sl (h.own i hi)
  rw [hv] at hc
  have HB : Hid (B ≤ p) := h.base
  have HP : Hid (Dk B (w.setCell ⟨p, 3 + i * 2 + 1, none⟩ (.int .i64 ((S.f i).size : Nat))) p { S with s := put S.s i (S.f i).size } V) := h.setS hi _
  generalize (S.f i).size = n at *
  clear h hv
  go_enter Try.func30, Try.ntmps30
  go_wp2
  go_end0
  exact ⟨rfl, HP.out, Fr.set HB.out _ _⟩
set_option maxHeartbeats 400000 in
theorem xcut (B p : Nat) (S : St) (V : Nat → Value) (w : World) (h : Dk B w p S V) (ok : Ok S) (i n : Nat) (hi : i < 4) (hn : n ≤ (S.f i).size) : Calls Try.prog 29 #[.pointer (some ⟨p, 3 + i * 2, none⟩), .int .i64 n] w fun e w' => e = .returned (.tuple #[]) ∧ ∃ v, Ch B p { S with f := put S.f i ((S.f i).extract 0 n), s := put S.s i (min (S.s i) n) } (put V i v) w w' := by
  have hc := h.cV hi
  have hs := h.cS hi
  have hf := h.froz (3 + i * 2)
  have hf1 := h.froz (3 + i * 2 + 1)
  obtain ⟨a, cap, hv, h1, h2, h3, h4⟩ := own_sl (h.own i hi)
  rw [hv] at hc
  have HB : Hid (B ≤ p) := h.base
  have hq := h.setV hi (.slice a n cap) ((S.f i).extract 0 n) (h4 n hn) (fun j hj hne => by rw [h3]; exact h.apart i j hi hj (fun e => hne e.symm))
  have HP : Hid (Dk B ((w.setCell ⟨p, 3 + i * 2, none⟩ (.slice a n cap)).setCell ⟨p, 3 + i * 2 + 1, none⟩ (.int .i64 (min (S.s i) n : Nat))) p { S with f := put S.f i ((S.f i).extract 0 n), s := put S.s i (min (S.s i) n) } (put V i (.slice a n cap))) := hq.setS hi _
  have hs2 := hq.cS hi
  have hf2 := hq.froz (3 + i * 2 + 1)
  have h5 : (n : Int) ≤ cap := by omega
  have hm : ((min (S.s i) n : Nat) : Int) = min (S.s i : Int) n := by omega
  rw [hm] at HP
  clear hq h3 h4 h ok hn h1 hv h2 hm
  generalize (S.s i) = m at *
  generalize (S.f i) = b at *
  go_enter Try.func29, Try.ntmps29
  go_wp2
  go_end0
  exact ⟨rfl, _, HP.out, (Fr.set HB.out _ _).trans (Fr.set HB.out _ _)⟩
end Go.Proofs.Ytfdebooimbbdbaa
