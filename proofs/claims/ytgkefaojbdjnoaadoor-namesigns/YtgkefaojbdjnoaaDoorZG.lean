/- The laws' walks: Fits, Folds, Plain, Once. -/
import Derived.Test.YtgkefaojbdjnoaaDoorZF
import Derived.WalkKit
import Derived.ProofKit
import Derived.Handy
import Derived.WalkLawsBesides
import Derived.WalkSpells
import Derived.BigQuiet
import Derived.BigCall
import Derived.Deep.QuietTactic
import Derived.Deep.Light
import Derived.Deep.OwnRows
import Derived.Laws.AppendOwnNone
import Derived.Laws.Strings3
import Derived.Laws.RangeAny
import Derived.Deep.RegionWith
import Derived.Lib.BitFns
import Derived.Lib.Walk
import Derived.Lib.Strings
import Derived.Lib.OthersKept
import Derived.Deep.CutBlock
import Derived.Deep.DeepCutAuto
import Derived.Deep.LoopGhost
import Derived.Deep.RegionHeld3
import Derived.Lib.SmallJoins
import Derived.Maps.AppendAt
import Derived.Laws.IdiomStrings
namespace Go.Proofs.YtgkefaojbdjnoaaDoor
open Go.RowKit
set_option linter.unusedVariables false
set_option linter.unusedSimpArgs false
set_option maxRecDepth 100000 in
set_option maxHeartbeats 8000000 in
theorem lfits (s : ByteArray) (n : Int) (hn0 : -9223372036854775808 ≤ n) (hn1 : n ≤ 9223372036854775807) (w : World) (ht : Tab w) : Calls Tryd.prog 5 #[.string s, .int .i64 n] w (TRUE w) := by
  have HT : Hid (Tab w) := ht
  clear ht
  by_cases hz : 600 < s.size
  · have hz' : 600 < (s.size : Int) := by omega
    clear hz
    go_enter Tryd.func5, Tryd.ntmps5
    go_wp2_with fail
    refine (awake _ HT.out).mono ?_
    rintro e w3 ⟨rfl, hb3⟩
    go_wp2_with fail
    go_ret
    exact ⟨rfl, hb3⟩
  have hz' : ¬ 600 < (s.size : Int) := by omega
  have hz2 : s.size ≤ 600 := by omega
  clear hz
  by_cases h1 : 600 < n ∧ n ≤ 4096
  · obtain ⟨h1, h2⟩ := h1
    go_enter Tryd.func5, Tryd.ntmps5
    go_wp2_with fail
    refine (awake _ HT.out).mono ?_
    rintro e w3 ⟨rfl, hb3⟩
    go_wp2_with fail
    go_ret
    exact ⟨rfl, hb3⟩
  have hcase : ¬ 600 < n ∨ (600 < n ∧ ¬ n ≤ 4096) := by omega
  clear h1
  have fin : ∀ (A : Nat) (B C : ByteArray), (∀ w, Calls Tryd.prog 15 #[.string s] w fun e w' => e = .returned (.int .i64 A) ∧ Below w.heap.size w w') → (∀ w, Calls Tryd.prog 16 #[.string s] w fun e w' => e = .returned (.int .i64 A) ∧ Below w.heap.size w w') → (∀ w, Calls Tryd.prog 17 #[.string s, .int .i64 n] w fun e w' => e = .returned (.string B) ∧ Below w.heap.size w w') → (∀ w, Calls Tryd.prog 18 #[.string s, .int .i64 n] w fun e w' => e = .returned (.string B) ∧ Below w.heap.size w w') → (∀ w, Calls Tryd.prog 19 #[.string s, .int .i64 n] w fun e w' => e = .returned (.string C) ∧ Below w.heap.size w w') → (∀ w, Calls Tryd.prog 20 #[.string s, .int .i64 n] w fun e w' => e = .returned (.string C) ∧ Below w.heap.size w w') → Calls Tryd.prog 5 #[.string s, .int .i64 n] w (TRUE w) := by
    intro A B C c15 c16 c17 c18 c19 c20
    have C15 : Hid _ := c15
    have C16 : Hid _ := c16
    have C17 : Hid _ := c17
    have C18 : Hid _ := c18
    have C19 : Hid _ := c19
    have C20 : Hid _ := c20
    clear c15 c16 c17 c18 c19 c20
    rcases hcase with hcase | ⟨hc1, hc2⟩
    all_goals
      go_enter Tryd.func5, Tryd.ntmps5
      go_wp2_with fail
      refine Calls.mono (C15.out _) ?_
      rintro e w1 ⟨rfl, hb1⟩
      have H1 : Hid (Below w.heap.size w w1) := hb1
      clear hb1
      go_wp2_with fail
      refine Calls.mono (C16.out _) ?_
      rintro e w2 ⟨rfl, hb2⟩
      have H2 : Hid (Below w.heap.size w w2) := H1.out.trans (hb2.mono H1.out.size)
      clear hb2
      go_wp2_with fail
      refine Calls.mono (C17.out _) ?_
      rintro e w3 ⟨rfl, hb3⟩
      have H3 : Hid (Below w.heap.size w w3) := H2.out.trans (hb3.mono H2.out.size)
      clear hb3
      go_wp2_with fail
      refine Calls.mono (C18.out _) ?_
      rintro e w4 ⟨rfl, hb4⟩
      have H4 : Hid (Below w.heap.size w w4) := H3.out.trans (hb4.mono H3.out.size)
      clear hb4
      go_wp2_with fail
      refine Calls.mono (C19.out _) ?_
      rintro e w5 ⟨rfl, hb5⟩
      have H5 : Hid (Below w.heap.size w w5) := H4.out.trans (hb5.mono H4.out.size)
      clear hb5
      go_wp2_with fail
      refine Calls.mono (C20.out _) ?_
      rintro e w6 ⟨rfl, hb6⟩
      have H6 : Hid (Below w.heap.size w w6) := H5.out.trans (hb6.mono H5.out.size)
      clear hb6
      go_wp2_with fail
      refine (awake _ (HT.out.below H6.out)).mono ?_
      rintro e w7 ⟨rfl, hb7⟩
      go_wp2_with fail
      go_ret
      exact ⟨rfl, H6.out.trans (hb7.mono H6.out.size)⟩
  exact fin (width s.data.toList) ⟨(cut s.data.toList n).toArray⟩ ⟨(fitZ s.data.toList n).toArray⟩ (fun w => xwidth s (by omega) w) (fun w => rwidth s (by omega) w) (fun w => xcut s (by omega) n hn0 hn1 w) (fun w => rcut s (by omega) n w) (fun w => xfit s (by omega) n w) (fun w => rfit s (by omega) n w)
set_option maxRecDepth 100000 in
set_option maxHeartbeats 8000000 in
theorem lfolds (s t : ByteArray) (w : World) (ht : Tab w) : Calls Tryd.prog 6 #[.string s, .string t] w (TRUE w) := by
  have HT : Hid (Tab w) := ht
  clear ht
  by_cases hz : 600 < s.size
  · have hz' : 600 < (s.size : Int) := by omega
    clear hz
    go_enter Tryd.func6, Tryd.ntmps6
    go_wp2_with fail
    refine (awake _ HT.out).mono ?_
    rintro e w3 ⟨rfl, hb3⟩
    go_wp2_with fail
    go_ret
    exact ⟨rfl, hb3⟩
  have hz' : ¬ 600 < (s.size : Int) := by omega
  have hz2 : s.size ≤ 600 := by omega
  clear hz
  by_cases hy : 600 < t.size
  · have hy' : 600 < (t.size : Int) := by omega
    clear hy
    go_enter Tryd.func6, Tryd.ntmps6
    go_wp2_with fail
    refine (awake _ HT.out).mono ?_
    rintro e w3 ⟨rfl, hb3⟩
    go_wp2_with fail
    go_ret
    exact ⟨rfl, hb3⟩
  have hy' : ¬ 600 < (t.size : Int) := by omega
  have hy2 : t.size ≤ 600 := by omega
  clear hy
  have fin : ∀ (F G : List UInt8), (∀ w, Calls Tryd.prog 21 #[.string s] w fun e w' => e = .returned (.string ⟨F.toArray⟩) ∧ Below w.heap.size w w') → (∀ w, Calls Tryd.prog 22 #[.string s] w fun e w' => e = .returned (.string ⟨F.toArray⟩) ∧ Below w.heap.size w w') → (∀ w, Calls Tryd.prog 22 #[.string t] w fun e w' => e = .returned (.string ⟨G.toArray⟩) ∧ Below w.heap.size w w') → (∀ w, Calls Tryd.prog 23 #[.string s, .string t] w fun e w' => e = .returned (.bool (decide (F = G))) ∧ Below w.heap.size w w') → Calls Tryd.prog 6 #[.string s, .string t] w (TRUE w) := by
    intro F G c1 c2 c3 c4
    obtain ⟨g, hg⟩ : ∃ g, decide (F = G) = g := ⟨_, rfl⟩
    rw [hg] at c4
    have hFG : (F == G) = g := by
      rw [← hg]
      by_cases h : F = G
      · simp [h]
      · simp [h]
    have C1 : Hid _ := c1
    have C2 : Hid _ := c2
    have C3 : Hid _ := c3
    have C4 : Hid _ := c4
    clear c1 c2 c3 c4 hg
    go_enter Tryd.func6, Tryd.ntmps6
    go_wp2_with fail
    refine Calls.mono (C1.out _) ?_
    rintro e w1 ⟨rfl, hb1⟩
    have H1 : Hid (Below w.heap.size w w1) := hb1
    clear hb1
    go_wp2_with fail
    refine Calls.mono (C2.out _) ?_
    rintro e w2 ⟨rfl, hb2⟩
    have H2 : Hid (Below w.heap.size w w2) := H1.out.trans (hb2.mono H1.out.size)
    clear hb2
    go_wp2_with fail
    refine Calls.mono (C4.out _) ?_
    rintro e w3 ⟨rfl, hb3⟩
    have H3 : Hid (Below w.heap.size w w3) := H2.out.trans (hb3.mono H2.out.size)
    clear hb3
    go_wp2_with fail
    refine Calls.mono (C2.out _) ?_
    rintro e w4 ⟨rfl, hb4⟩
    have H4 : Hid (Below w.heap.size w w4) := H3.out.trans (hb4.mono H3.out.size)
    clear hb4
    go_wp2_with fail
    refine Calls.mono (C3.out _) ?_
    rintro e w5 ⟨rfl, hb5⟩
    have H5 : Hid (Below w.heap.size w w5) := H4.out.trans (hb5.mono H4.out.size)
    clear hb5
    go_wp2_with fail
    refine (awake _ (HT.out.below H5.out)).mono ?_
    rintro e w7 ⟨rfl, hb7⟩
    go_wp2_with fail
    go_ret
    exact ⟨rfl, H5.out.trans (hb7.mono H5.out.size)⟩
  exact fin (fold s.data.toList) (fold t.data.toList) (fun w => xfold s w (by omega)) (fun w => rfold s (by omega) w) (fun w => rfold t (by omega) w) (fun w => xsame s t w (by omega) (by omega))
set_option maxRecDepth 100000 in
set_option maxHeartbeats 8000000 in
theorem lplain (s : ByteArray) (w : World) (ht : Tab w) : Calls Tryd.prog 7 #[.string s] w (TRUE w) := by
  have HT : Hid (Tab w) := ht
  clear ht
  by_cases hz : 600 < s.size
  · have hz' : 600 < (s.size : Int) := by omega
    clear hz
    go_enter Tryd.func7, Tryd.ntmps7
    go_wp2_with fail
    refine (awake _ HT.out).mono ?_
    rintro e w3 ⟨rfl, hb3⟩
    go_wp2_with fail
    go_ret
    exact ⟨rfl, hb3⟩
  have hz' : ¬ 600 < (s.size : Int) := by omega
  have hz2 : s.size ≤ 600 := by omega
  clear hz
  have fin : ∀ (F G : ByteArray), (∀ w, Calls Tryd.prog 24 #[.string s] w fun e w' => e = .returned (.string F) ∧ Below w.heap.size w w') → (∀ w, Calls Tryd.prog 25 #[.string s] w fun e w' => e = .returned (.string F) ∧ Below w.heap.size w w') → (∀ w, Tab w → Calls Tryd.prog 26 #[.string s] w fun e w' => e = .returned (.string G) ∧ Below w.heap.size w w') → (∀ w, Calls Tryd.prog 27 #[.string s] w fun e w' => e = .returned (.string G) ∧ Below w.heap.size w w') → Calls Tryd.prog 7 #[.string s] w (TRUE w) := by
    intro F G c1 c2 c3 c4
    have C1 : Hid _ := c1
    have C2 : Hid _ := c2
    have C3 : Hid _ := c3
    have C4 : Hid _ := c4
    clear c1 c2 c3 c4
    go_enter Tryd.func7, Tryd.ntmps7
    go_wp2_with fail
    refine Calls.mono (C1.out _) ?_
    rintro e w1 ⟨rfl, hb1⟩
    have H1 : Hid (Below w.heap.size w w1) := hb1
    clear hb1
    go_wp2_with fail
    refine Calls.mono (C2.out _) ?_
    rintro e w2 ⟨rfl, hb2⟩
    have H2 : Hid (Below w.heap.size w w2) := H1.out.trans (hb2.mono H1.out.size)
    clear hb2
    go_wp2_with fail
    refine Calls.mono (C3.out _ (HT.out.below H2.out)) ?_
    rintro e w3 ⟨rfl, hb3⟩
    have H3 : Hid (Below w.heap.size w w3) := H2.out.trans (hb3.mono H2.out.size)
    clear hb3
    go_wp2_with fail
    refine Calls.mono (C4.out _) ?_
    rintro e w4 ⟨rfl, hb4⟩
    have H4 : Hid (Below w.heap.size w w4) := H3.out.trans (hb4.mono H3.out.size)
    clear hb4
    go_wp2_with fail
    refine (awake _ (HT.out.below H4.out)).mono ?_
    rintro e w7 ⟨rfl, hb7⟩
    go_wp2_with fail
    go_ret
    exact ⟨rfl, H4.out.trans (hb7.mono H4.out.size)⟩
  exact fin ⟨(plain s.data.toList).toArray⟩ ⟨(short s.data.toList).toArray⟩ (fun w => xplains s w (by omega)) (fun w => rplains s (by omega) w) (fun w ht => xshort s w (by omega) ht) (fun w => rshort s (by omega) w)
set_option maxRecDepth 100000 in
set_option maxHeartbeats 8000000 in
theorem lonce (s t : ByteArray) (w : World) (ht : Tab w) : Calls Tryd.prog 8 #[.string s, .string t] w (TRUE w) := by
  have HT : Hid (Tab w) := ht
  clear ht
  by_cases hz : 1000 < s.size
  · have hz' : 1000 < (s.size : Int) := by omega
    clear hz
    go_enter Tryd.func8, Tryd.ntmps8
    go_wp2_with fail
    refine (awake _ HT.out).mono ?_
    rintro e w3 ⟨rfl, hb3⟩
    go_wp2_with fail
    go_ret
    exact ⟨rfl, hb3⟩
  have hz' : ¬ 1000 < (s.size : Int) := by omega
  have hz2 : s.size ≤ 1000 := by omega
  clear hz
  by_cases hy : 1000 < t.size
  · have hy' : 1000 < (t.size : Int) := by omega
    clear hy
    go_enter Tryd.func8, Tryd.ntmps8
    go_wp2_with fail
    refine (awake _ HT.out).mono ?_
    rintro e w3 ⟨rfl, hb3⟩
    go_wp2_with fail
    go_ret
    exact ⟨rfl, hb3⟩
  have hy' : ¬ 1000 < (t.size : Int) := by omega
  have hy2 : t.size ≤ 1000 := by omega
  clear hy
  have fin : ∀ (f : ByteArray) (n : Nat) (g : Bool) (A B : ByteArray), (∀ w, Calls Tryd.prog 21 #[.string s] w fun e w' => e = .returned (.string f) ∧ Below w.heap.size w w') → (∀ w, Calls Tryd.prog 21 #[.string f] w fun e w' => e = .returned (.string f) ∧ Below w.heap.size w w') → (∀ w, Calls Tryd.prog 14 #[.string f] w fun e w' => e = .returned (.int .i64 n) ∧ Below w.heap.size w w') → (∀ w, Calls Tryd.prog 14 #[.string s] w fun e w' => e = .returned (.int .i64 n) ∧ Below w.heap.size w w') → (∀ w, Calls Tryd.prog 23 #[.string s, .string f] w fun e w' => e = .returned (.bool true) ∧ Below w.heap.size w w') → (∀ w, Calls Tryd.prog 23 #[.string s, .string t] w fun e w' => e = .returned (.bool g) ∧ Below w.heap.size w w') → (∀ w, Calls Tryd.prog 24 #[.string s] w fun e w' => e = .returned (.string A) ∧ Below w.heap.size w w') → (∀ w, Calls Tryd.prog 24 #[.string t] w fun e w' => e = .returned (.string B) ∧ Below w.heap.size w w') → (g = true → A = B) → Calls Tryd.prog 8 #[.string s, .string t] w (TRUE w) := by
    intro f n g A B c1 c2 c3 c4 c5 c6 c7 c8 hAB
    have C1 : Hid _ := c1
    have C2 : Hid _ := c2
    have C3 : Hid _ := c3
    have C4 : Hid _ := c4
    have C5 : Hid _ := c5
    have C6 : Hid _ := c6
    have C7 : Hid _ := c7
    have C8 : Hid _ := c8
    clear c1 c2 c3 c4 c5 c6 c7 c8
    cases g
    · clear hAB
      go_enter Tryd.func8, Tryd.ntmps8
      go_wp2_with fail
      refine Calls.mono (C1.out _) ?_
      rintro e w1 ⟨rfl, hb1⟩
      have H1 : Hid (Below w.heap.size w w1) := hb1
      clear hb1
      go_wp2_with fail
      refine Calls.mono (C2.out _) ?_
      rintro e w2 ⟨rfl, hb2⟩
      have H2 : Hid (Below w.heap.size w w2) := H1.out.trans (hb2.mono H1.out.size)
      clear hb2
      go_wp2_with fail
      refine Calls.mono (C3.out _) ?_
      rintro e w3 ⟨rfl, hb3⟩
      have H3 : Hid (Below w.heap.size w w3) := H2.out.trans (hb3.mono H2.out.size)
      clear hb3
      go_wp2_with fail
      refine Calls.mono (C4.out _) ?_
      rintro e w4 ⟨rfl, hb4⟩
      have H4 : Hid (Below w.heap.size w w4) := H3.out.trans (hb4.mono H3.out.size)
      clear hb4
      go_wp2_with fail
      refine Calls.mono (C5.out _) ?_
      rintro e w5 ⟨rfl, hb5⟩
      have H5 : Hid (Below w.heap.size w w5) := H4.out.trans (hb5.mono H4.out.size)
      clear hb5
      go_wp2_with fail
      refine Calls.mono (C6.out _) ?_
      rintro e w6 ⟨rfl, hb6⟩
      have H6 : Hid (Below w.heap.size w w6) := H5.out.trans (hb6.mono H5.out.size)
      clear hb6
      go_wp2_with fail
      refine (awake _ (HT.out.below H6.out)).mono ?_
      rintro e w7 ⟨rfl, hb7⟩
      go_wp2_with fail
      go_ret
      exact ⟨rfl, H6.out.trans (hb7.mono H6.out.size)⟩
    · obtain rfl := hAB rfl
      clear hAB
      go_enter Tryd.func8, Tryd.ntmps8
      go_wp2_with fail
      refine Calls.mono (C1.out _) ?_
      rintro e w1 ⟨rfl, hb1⟩
      have H1 : Hid (Below w.heap.size w w1) := hb1
      clear hb1
      go_wp2_with fail
      refine Calls.mono (C2.out _) ?_
      rintro e w2 ⟨rfl, hb2⟩
      have H2 : Hid (Below w.heap.size w w2) := H1.out.trans (hb2.mono H1.out.size)
      clear hb2
      go_wp2_with fail
      refine Calls.mono (C3.out _) ?_
      rintro e w3 ⟨rfl, hb3⟩
      have H3 : Hid (Below w.heap.size w w3) := H2.out.trans (hb3.mono H2.out.size)
      clear hb3
      go_wp2_with fail
      refine Calls.mono (C4.out _) ?_
      rintro e w4 ⟨rfl, hb4⟩
      have H4 : Hid (Below w.heap.size w w4) := H3.out.trans (hb4.mono H3.out.size)
      clear hb4
      go_wp2_with fail
      refine Calls.mono (C5.out _) ?_
      rintro e w5 ⟨rfl, hb5⟩
      have H5 : Hid (Below w.heap.size w w5) := H4.out.trans (hb5.mono H4.out.size)
      clear hb5
      go_wp2_with fail
      refine Calls.mono (C6.out _) ?_
      rintro e w6 ⟨rfl, hb6⟩
      have H6 : Hid (Below w.heap.size w w6) := H5.out.trans (hb6.mono H5.out.size)
      clear hb6
      go_wp2_with fail
      refine Calls.mono (C7.out _) ?_
      rintro e w7 ⟨rfl, hb7⟩
      have H7 : Hid (Below w.heap.size w w7) := H6.out.trans (hb7.mono H6.out.size)
      clear hb7
      go_wp2_with fail
      refine Calls.mono (C8.out _) ?_
      rintro e w8 ⟨rfl, hb8⟩
      have H8 : Hid (Below w.heap.size w w8) := H7.out.trans (hb8.mono H7.out.size)
      clear hb8
      go_wp2_with fail
      refine (awake _ (HT.out.below H8.out)).mono ?_
      rintro e w9 ⟨rfl, hb9⟩
      go_wp2_with fail
      go_ret
      exact ⟨rfl, H8.out.trans (hb9.mono H8.out.size)⟩
  have hfl := fold_len s.data.toList
  have hsl : s.data.toList.length = s.size := rfl
  have hfs : (⟨(fold s.data.toList).toArray⟩ : ByteArray).size ≤ 4000 := by show (fold s.data.toList).length ≤ _; omega
  have hff : fold (⟨(fold s.data.toList).toArray⟩ : ByteArray).data.toList = fold s.data.toList := fold_fold _
  have hcf : (cs (⟨(fold s.data.toList).toArray⟩ : ByteArray).data.toList 0).length = (cs s.data.toList 0).length := by
    have h1 : cs (⟨(fold s.data.toList).toArray⟩ : ByteArray).data.toList 0 = lows s.data.toList 0 := cs_fold _
    rw [h1, lows, List.length_map]
  refine fin ⟨(fold s.data.toList).toArray⟩ (cs s.data.toList 0).length (decide (fold s.data.toList = fold t.data.toList)) ⟨(plain s.data.toList).toArray⟩ ⟨(plain t.data.toList).toArray⟩ (fun w => xfold s w (by omega)) (fun w => ?_) (fun w => ?_) (fun w => xcount s (by omega) w) (fun w => ?_) (fun w => xsame s t w (by omega) (by omega)) (fun w => xplains s w (by omega)) (fun w => xplains t w (by omega)) ?_
  · have h := xfold ⟨(fold s.data.toList).toArray⟩ w (by omega)
    rw [hff] at h
    exact h
  · have h := xcount ⟨(fold s.data.toList).toArray⟩ (by omega) w
    rw [hcf] at h
    exact h
  · have h := xsame s ⟨(fold s.data.toList).toArray⟩ w (by omega) (by omega)
    rw [hff, decide_eq_true rfl] at h
    exact h
  · intro h
    rw [plain_of_fold (of_decide_eq_true h)]
end Go.Proofs.YtgkefaojbdjnoaaDoor
