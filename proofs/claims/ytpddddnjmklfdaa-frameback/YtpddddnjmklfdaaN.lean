/- The laws FramePuts and FrameReads. -/
import Derived.Test.YtpddddnjmklfdaaM
import Derived.WalkKit
import Derived.ProofKit
import Derived.Handy
import Derived.WalkLawsBesides
import Derived.WalkSpells
import Derived.BigQuiet
import Derived.BigCall
import Derived.Deep.QuietTactic
import Derived.Deep.Light
import Derived.Deep.OwnRows
import Derived.Laws.AppendOwnNone
import Derived.Laws.Strings3
import Derived.Laws.RangeAny
import Derived.Deep.RegionWith
import Derived.Lib.BitFns
import Derived.Lib.Walk
import Derived.Lib.Strings
import Derived.Lib.OthersKept
import Derived.Deep.CutBlock
import Derived.Deep.DeepCutAuto
import Derived.Deep.LoopGhost
import Derived.Deep.RegionHeld3
import Derived.Lib.SmallJoins
import Derived.Maps.AppendAt
import Derived.Laws.IdiomStrings
import Derived.Lib.AppendZeros
import Derived.Deep.WholeRow
import Derived.Laws.BitsAllLaws
namespace Go.Proofs.Ytpddddnjmklfdaa
open Go.RowKit
set_option linter.unusedVariables false
set_option linter.unusedSimpArgs false
set_option maxHeartbeats 4000000 in
theorem lputs (s : ByteArray) (hs : s.size ≤ 140737488355328) (l : List ByteArray) (a : Option Addr) (cap : Nat) (w : World) (h : Strs w a l) : Calls Try.prog 3 #[.string s, .slice a l.length cap] w fun e w' => e = .returned (.bool true) ∧ Below w.heap.size w w' := by
  have HS : Hid (Strs w a l) := h
  have HW : Hid (∀ w, Calls Try.prog 9 #[] w (BB true w)) := fun w => xawake w
  clear h
  by_cases h9 : s.size ≤ 9000
  · have h9z : ¬ (9000 : Int) < (s.size : Int) := by omega
    have H8 : Hid (Calls Try.prog 8 #[.slice a l.length cap] w (SmP l w)) := rsmall l a cap w HS.out
    have H10 : Hid (∀ w, Calls Try.prog 10 #[.string s] w (MB (put s.data.toList) (putE s.data.toList) w)) := fun w => xput s w
    have H11 : Hid (∀ w, Calls Try.prog 11 #[.string s] w (MB (put s.data.toList) (putE s.data.toList) w)) := fun w => rput s w
    have H14 : Hid (∀ w, Calls Try.prog 14 #[.string s] w (NP .u32 (sumN s.data.toList) w)) := fun w => xsum s (by omega) w
    have H15 : Hid (∀ w, Calls Try.prog 15 #[.string s] w (NP .u32 (sumN s.data.toList) w)) := fun w => rsum s (by omega) w
    have H16 : Hid (∀ w, Calls Try.prog 16 #[.string s] w (NP .i64 ((s.size : Int) + 12) w)) := fun w => xsize s (by omega) w
    have H12 : Hid (l.length ≤ 100 ∧ tot l ≤ 20000 → ∀ w', Below w.heap.size w w' → Calls Try.prog 12 #[.slice a l.length cap] w' (MB (allL (ls l)) (allE (ls l)) w')) := fun hc w' hb => xall l a cap w' (HS.out.below hb) hc.1 hc.2
    have H13 : Hid (l.length ≤ 100 ∧ tot l ≤ 20000 → ∀ w', Below w.heap.size w w' → Calls Try.prog 13 #[.slice a l.length cap] w' (MB (allL (ls l)) (allE (ls l)) w')) := fun hc w' hb => rall l a cap w' (HS.out.below hb) hc.1 hc.2
    unfold MB at H10 H11 H12 H13
    generalize (⟨(put s.data.toList).toArray⟩ : ByteArray) = P at *
    generalize putE s.data.toList = pe at *
    generalize (⟨(allL (ls l)).toArray⟩ : ByteArray) = Q at *
    generalize allE (ls l) = qe at *
    generalize sumN s.data.toList = t at *
    have hPP : (P.toList == P.toList) = true := by simp
    have hQQ : (Q.toList == Q.toList) = true := by simp
    have hpp : ((pe : Int) == (pe : Int)) = true := by simp
    have hqq : ((qe : Int) == (qe : Int)) = true := by simp
    have htt : ((t : Int) == (t : Int)) = true := by simp
    go_enter Try.func3, Try.ntmps3
    go_wp2_with fail
    refine H8.out.mono ?_
    rintro e w1 ⟨g, rfl, rfl, hg⟩
    have HG : Hid (g = true → l.length ≤ 100 ∧ tot l ≤ 20000) := hg
    clear hg
    cases g with
    | false =>
      go_wp2_with fail
      refine (HW.out _).mono ?_
      rintro e w2 ⟨rfl, hb2⟩
      have HB2 : Hid (Below w.heap.size w w2) := hb2
      clear hb2
      go_wp2_with fail
      go_ret
      exact ⟨rfl, HB2.out⟩
    | true =>
      have HC := HG.out rfl
      have HCC : Hid (l.length ≤ 100 ∧ tot l ≤ 20000) := HC
      clear HC HG
      go_wp2_with fail
      refine (H10.out _).mono ?_
      rintro e w2 ⟨rfl, hb2⟩
      have HB2 : Hid (Below w.heap.size w w2) := hb2
      clear hb2
      go_wp2_with fail
      refine (H11.out _).mono ?_
      rintro e w3 ⟨rfl, hb3⟩
      have HB3 : Hid (Below w.heap.size w w3) := HB2.out.trans (hb3.mono HB2.out.size)
      clear hb3
      go_wp2_with fail
      refine (H12.out HCC.out _ HB3.out).mono ?_
      rintro e w4 ⟨rfl, hb4⟩
      have HB4 : Hid (Below w.heap.size w w4) := HB3.out.trans (hb4.mono HB3.out.size)
      clear hb4
      go_wp2_with fail
      refine (H13.out HCC.out _ HB4.out).mono ?_
      rintro e w5 ⟨rfl, hb5⟩
      have HB5 : Hid (Below w.heap.size w w5) := HB4.out.trans (hb5.mono HB4.out.size)
      clear hb5
      go_wp2_with fail
      refine (H14.out _).mono ?_
      rintro e w6 ⟨rfl, rfl⟩
      go_wp2_with fail
      refine (H15.out _).mono ?_
      rintro e w6 ⟨rfl, rfl⟩
      go_wp2_with fail
      refine (H16.out _).mono ?_
      rintro e w6 ⟨rfl, rfl⟩
      go_wp2_with fail
      refine (HW.out _).mono ?_
      rintro e w7 ⟨rfl, hb7⟩
      have HB7 : Hid (Below w.heap.size w w7) := HB5.out.trans (hb7.mono HB5.out.size)
      clear hb7
      go_wp2_with fail
      go_ret
      exact ⟨rfl, HB7.out⟩
  · have h9z : (9000 : Int) < (s.size : Int) := by omega
    go_enter Try.func3, Try.ntmps3
    go_wp2_with fail
    refine (HW.out _).mono ?_
    rintro e w2 ⟨rfl, hb2⟩
    have HB2 : Hid (Below w.heap.size w w2) := hb2
    clear hb2
    go_wp2_with fail
    go_ret
    exact ⟨rfl, HB2.out⟩
theorem ls_inj : ∀ {xs ys : List ByteArray}, ls xs = ls ys → xs = ys
  | [], [], _ => rfl
  | [], _ :: _, h => by cases h
  | _ :: _, [], h => by cases h
  | x :: xs, y :: ys, h => by
    have h' : x.data.toList :: ls xs = y.data.toList :: ls ys := h
    injection h' with h1 h2
    rw [ls_inj h2]
    have : x = y := by
      cases x
      cases y
      simp at h1
      rw [h1]
    rw [this]
set_option maxHeartbeats 4000000 in
theorem lreads (s : ByteArray) (hs : s.size ≤ 140737488355328) (w : World) : Calls Try.prog 4 #[.string s] w fun e w' => e = .returned (.bool true) ∧ Below w.heap.size w w' := by
  have HW : Hid (∀ w, Calls Try.prog 9 #[] w (BB true w)) := fun w => xawake w
  by_cases h9 : s.size ≤ 9000
  · have h9z : ¬ (9000 : Int) < (s.size : Int) := by omega
    have H17 : Hid (∀ w, Calls Try.prog 17 #[.string s] w (TB (nextL s.data.toList) (nextN s.data.toList) (nextE s.data.toList) w)) := fun w => xnext s (by omega) w
    have H18 : Hid (∀ w, Calls Try.prog 18 #[.string s] w (TB (nextL s.data.toList) (nextN s.data.toList) (nextE s.data.toList) w)) := fun w => rnext s (by omega) w
    have H19 : Hid (∀ w, Calls Try.prog 19 #[.string s] w (RP s.data.toList w)) := fun w => xread s (by omega) w
    have H20 : Hid (∀ w, Calls Try.prog 20 #[.string s] w (RP s.data.toList w)) := fun w => rread s (by omega) w
    unfold TB at H17 H18
    unfold RP at H19 H20
    generalize (⟨(nextL s.data.toList).toArray⟩ : ByteArray) = P at *
    generalize nextN s.data.toList = n at *
    generalize nextE s.data.toList = m at *
    generalize rdA s.data.toList = R at *
    obtain ⟨L, z, q⟩ := R
    simp only at H19 H20
    have hPP : (P.toList == P.toList) = true := by simp
    have hpp : ((n : Int) == (n : Int)) = true := by simp
    have hqq : ((m : Int) == (m : Int)) = true := by simp
    have hzz : ((z : Int) == (z : Int)) = true := by simp
    have htt : ((q : Int) == (q : Int)) = true := by simp
    go_enter Try.func4, Try.ntmps4
    go_wp2_with fail
    refine (H17.out _).mono ?_
    rintro e w2 ⟨rfl, hb2⟩
    have HB2 : Hid (Below w.heap.size w w2) := hb2
    clear hb2
    go_wp2_with fail
    refine (H18.out _).mono ?_
    rintro e w3 ⟨rfl, hb3⟩
    have HB3 : Hid (Below w.heap.size w w3) := HB2.out.trans (hb3.mono HB2.out.size)
    clear hb3
    go_wp2_with fail
    refine (H19.out _).mono ?_
    rintro e w4 ⟨xs, a4, c4, rfl, hl4, hs4, hb4⟩
    have HB4 : Hid (Below w.heap.size w w4) := HB3.out.trans (hb4.mono HB3.out.size)
    have HS4 : Hid (Strs w4 a4 xs) := hs4
    have HL4 : Hid (ls xs = L) := hl4
    clear hb4 hs4 hl4
    go_wp2_with fail
    refine (H20.out _).mono ?_
    rintro e w5 ⟨ys, a5, c5, rfl, hl5, hs5, hb5⟩
    have HB5 : Hid (Below w.heap.size w w5) := HB4.out.trans (hb5.mono HB4.out.size)
    obtain rfl : xs = ys := ls_inj (HL4.out.trans hl5.symm)
    have HT : Hid (∀ (w6 : World), w5 = w6 → Calls Try.prog 21 #[.slice a4 xs.length c4, .slice a5 xs.length c5] w6 (BB true w6)) := fun w6 e => by subst e; exact rtexts xs a4 a5 c4 c5 w5 (HS4.out.below hb5) hs5
    clear hb5 hs5 hl5 HS4 HL4
    go_wp2_with fail
    refine (HT.out _ rfl).mono ?_
    rintro e w6 ⟨rfl, hb6⟩
    have HB6 : Hid (Below w.heap.size w w6) := HB5.out.trans (hb6.mono HB5.out.size)
    clear hb6
    go_wp2_with fail
    refine (HW.out _).mono ?_
    rintro e w7 ⟨rfl, hb7⟩
    have HB7 : Hid (Below w.heap.size w w7) := HB6.out.trans (hb7.mono HB6.out.size)
    clear hb7
    go_wp2_with fail
    go_ret
    exact ⟨rfl, HB7.out⟩
  · have h9z : (9000 : Int) < (s.size : Int) := by omega
    go_enter Try.func4, Try.ntmps4
    go_wp2_with fail
    refine (HW.out _).mono ?_
    rintro e w2 ⟨rfl, hb2⟩
    have HB2 : Hid (Below w.heap.size w w2) := hb2
    clear hb2
    go_wp2_with fail
    go_ret
    exact ⟨rfl, HB2.out⟩
end Go.Proofs.Ytpddddnjmklfdaa
