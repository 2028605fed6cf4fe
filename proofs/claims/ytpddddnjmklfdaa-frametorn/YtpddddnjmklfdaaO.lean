/- The laws FrameBack and FrameTorn. -/
import Derived.Test.YtpddddnjmklfdaaN
import Derived.WalkKit
import Derived.ProofKit
import Derived.Handy
import Derived.WalkLawsBesides
import Derived.WalkSpells
import Derived.BigQuiet
import Derived.BigCall
import Derived.Deep.QuietTactic
import Derived.Deep.Light
import Derived.Deep.OwnRows
import Derived.Laws.AppendOwnNone
import Derived.Laws.Strings3
import Derived.Laws.RangeAny
import Derived.Deep.RegionWith
import Derived.Lib.BitFns
import Derived.Lib.Walk
import Derived.Lib.Strings
import Derived.Lib.OthersKept
import Derived.Deep.CutBlock
import Derived.Deep.DeepCutAuto
import Derived.Deep.LoopGhost
import Derived.Deep.RegionHeld3
import Derived.Lib.SmallJoins
import Derived.Maps.AppendAt
import Derived.Laws.IdiomStrings
import Derived.Lib.AppendZeros
import Derived.Deep.WholeRow
import Derived.Laws.BitsAllLaws
namespace Go.Proofs.Ytpddddnjmklfdaa
open Go.RowKit
set_option linter.unusedVariables false
set_option linter.unusedSimpArgs false
theorem ba_list (S : ByteArray) : (⟨S.data.toList.toArray⟩ : ByteArray) = S := by
  cases S
  rfl
set_option maxHeartbeats 4000000 in
theorem lback (l : List ByteArray) (a : Option Addr) (cap : Nat) (w : World) (h : Strs w a l) : Calls Try.prog 5 #[.slice a l.length cap] w fun e w' => e = .returned (.bool true) ∧ Below w.heap.size w w' := by
  have HS : Hid (Strs w a l) := h
  have HW : Hid (∀ w, Calls Try.prog 9 #[] w (BB true w)) := fun w => xawake w
  have H8 : Hid (Calls Try.prog 8 #[.slice a l.length cap] w (SmP l w)) := rsmall l a cap w HS.out
  clear h
  go_enter Try.func5, Try.ntmps5
  go_wp2_with fail
  refine H8.out.mono ?_
  rintro e w1 ⟨g, rfl, rfl, hg⟩
  have HG : Hid (g = true → l.length ≤ 100 ∧ tot l ≤ 20000) := hg
  clear hg H8
  cases g with
  | false =>
    go_wp2_with fail
    refine (HW.out _).mono ?_
    rintro e w2 ⟨rfl, hb2⟩
    have HB2 : Hid (Below w.heap.size w w2) := hb2
    clear hb2
    go_wp2_with fail
    go_ret
    exact ⟨rfl, HB2.out⟩
  | true =>
    have HC := HG.out rfl
    have H12 : Hid (∀ w', Below w.heap.size w w' → Calls Try.prog 12 #[.slice a l.length cap] w' (MB (allL (ls l)) (allE (ls l)) w')) := fun w' hb => xall l a cap w' (HS.out.below hb) HC.1 HC.2
    by_cases hok : allOk (ls l) = true
    · have hr := rdA_flat (ls l) hok
      have hfl := flat_len l
      rw [allL_yes hok, allE_yes hok] at H12
      have hsz : (flat (ls l)).length ≤ 22000 := by omega
      obtain ⟨S, hS⟩ : ∃ S : ByteArray, S = ⟨(flat (ls l)).toArray⟩ := ⟨_, rfl⟩
      have hSl : S.data.toList = flat (ls l) := by rw [hS]
      have hSs : S.size ≤ 22000 := by rw [hS, ba_size]; exact hsz
      have hSs2 : (flat (ls l)).length = S.size := by rw [hS, ba_size]
      have H19 : Hid (∀ w, Calls Try.prog 19 #[.string S] w (RP S.data.toList w)) := fun w => xread S (by omega) w
      rw [hSl] at H19
      unfold RP at H19
      rw [hr, hSs2] at H19
      unfold MB at H12
      rw [← hS] at H12
      have hss : ((S.size : Int) == (S.size : Int)) = true := by simp
      have h0 : Hid (((0 : Nat) : Int) = 0) := rfl
      rw [h0.out] at H12 H19
      clear hS hSl hSs2 hr hfl hsz hok HG HC h0
      go_wp2_with fail
      refine (H12.out _ (Below.refl _ _)).mono ?_
      rintro e w2 ⟨rfl, hb2⟩
      have HB2 : Hid (Below w.heap.size w w2) := hb2
      clear hb2
      go_wp2_with fail
      refine (H19.out _).mono ?_
      rintro e w4 ⟨xs, a4, c4, rfl, hl4, hs4, hb4⟩
      have HB4 : Hid (Below w.heap.size w w4) := HB2.out.trans (hb4.mono HB2.out.size)
      obtain rfl : xs = l := ls_inj hl4
      have HT : Hid (∀ (w6 : World), w4 = w6 → Calls Try.prog 21 #[.slice a xs.length cap, .slice a4 xs.length c4] w6 (BB true w6)) := fun w6 e => by subst e; exact rtexts xs a a4 cap c4 w4 (HS.out.below HB4.out) hs4
      clear hb4 hs4 hl4
      go_wp2_with fail
      refine (HT.out _ rfl).mono ?_
      rintro e w6 ⟨rfl, hb6⟩
      have HB6 : Hid (Below w.heap.size w w6) := HB4.out.trans (hb6.mono HB4.out.size)
      clear hb6
      go_wp2_with fail
      refine (HW.out _).mono ?_
      rintro e w7 ⟨rfl, hb7⟩
      have HB7 : Hid (Below w.heap.size w w7) := HB6.out.trans (hb7.mono HB6.out.size)
      clear hb7
      go_wp2_with fail
      go_ret
      exact ⟨rfl, HB7.out⟩
    · have hno : allOk (ls l) = false := by simpa using hok
      rw [allL_no hno, allE_no hno] at H12
      clear hok hno HG HC
      go_wp2_with fail
      refine (H12.out _ (Below.refl _ _)).mono ?_
      rintro e w2 ⟨rfl, hb2⟩
      have HB2 : Hid (Below w.heap.size w w2) := hb2
      clear hb2
      go_wp2_with fail
      refine (HW.out _).mono ?_
      rintro e w7 ⟨rfl, hb7⟩
      have HB7 : Hid (Below w.heap.size w w7) := HB2.out.trans (hb7.mono HB2.out.size)
      clear hb7
      go_wp2_with fail
      go_ret
      exact ⟨rfl, HB7.out⟩
/-- how many are whole, from a place on -/
def Wh (l : List ByteArray) (k j e : Nat) : Prop := e ≤ k ∧ (whole (ls l) k).1 = j + (whole (ls (l.drop j)) (k - e)).1 ∧ (whole (ls l) k).2 = e + (whole (ls (l.drop j)) (k - e)).2
theorem ls_drop {l : List ByteArray} {j : Nat} (h : j < l.length) : ls (l.drop j) = l[j].data.toList :: ls (l.drop (j + 1)) := by
  rw [List.drop_eq_getElem_cons h]
  rfl
theorem Wh.start (l : List ByteArray) (k : Nat) : Wh l k 0 0 := ⟨Nat.zero_le _, by rw [List.drop_zero, Nat.zero_add]; rfl, by rw [List.drop_zero, Nat.zero_add]; rfl⟩
theorem Wh.next {l : List ByteArray} {k j e : Nat} (h : Wh l k j e) (hj : j < l.length) (hk : e + l[j].size + 12 ≤ k) : Wh l k (j + 1) (e + l[j].size + 12) := by
  obtain ⟨h1, h2, h3⟩ := h
  rw [ls_drop hj, whole] at h2 h3
  have hs : l[j].data.toList.length = l[j].size := rfl
  rw [hs, if_pos (by omega)] at h2 h3
  rw [show k - e - (l[j].size + 12) = k - (e + l[j].size + 12) by omega] at h2 h3
  exact ⟨hk, by rw [h2]; omega, by rw [h3]; omega⟩
theorem Wh.stop {l : List ByteArray} {k j e : Nat} (h : Wh l k j e) (hj : j < l.length) (hk : ¬ e + l[j].size + 12 ≤ k) : whole (ls l) k = (j, e) := by
  obtain ⟨h1, h2, h3⟩ := h
  rw [ls_drop hj, whole] at h2 h3
  have hs : l[j].data.toList.length = l[j].size := rfl
  rw [hs, if_neg (by omega)] at h2 h3
  exact Prod.ext h2 h3
theorem Wh.end_ {l : List ByteArray} {k j e : Nat} (h : Wh l k j e) (hj : l.length ≤ j) : whole (ls l) k = (j, e) := by
  obtain ⟨h1, h2, h3⟩ := h
  rw [List.drop_of_length_le hj] at h2 h3
  exact Prod.ext h2 h3
end Go.Proofs.Ytpddddnjmklfdaa
