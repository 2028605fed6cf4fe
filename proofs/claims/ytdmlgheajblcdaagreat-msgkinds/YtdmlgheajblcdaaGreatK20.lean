/- Layer 10: the reference's tests of amounts, lots, quotes and prices. -/
import Derived.Test.YtdmlgheajblcdaaGreatK18
import Derived.WalkKit
import Derived.ProofKit
import Derived.Handy
import Derived.WalkLawsBesides
import Derived.WalkSpells
import Derived.BigQuiet
import Derived.BigCall
import Derived.Deep.QuietTactic
import Derived.Deep.Light
import Derived.Deep.OwnRows
import Derived.Laws.AppendOwnNone
import Derived.Laws.Strings3
import Derived.Laws.RangeAny
import Derived.Deep.RegionWith
import Derived.Lib.BitFns
import Derived.Lib.Walk
import Derived.Lib.Strings
import Derived.Lib.OthersKept
import Derived.Deep.CutBlock
import Derived.Deep.DeepCutAuto
import Derived.Deep.LoopGhost
import Derived.Deep.RegionHeld3
import Derived.Lib.SmallJoins
import Derived.Maps.AppendAt
import Derived.Laws.IdiomStrings
import Derived.Lib.AppendZeros
import Derived.Deep.WholeRow
import Derived.Laws.BitsAllLaws
import Derived.Lib.ConvBytes
import Derived.Deep.RegionLaw
import Derived.Test.YtdmlgheajblcdaaGreatK19
import Derived.Test.YtdmlgheajblcdaaGreatK17
namespace Go.Proofs.YtdmlgheajblcdaaGreat
open Go.RowKit
set_option linter.unusedVariables false
set_option linter.unusedSimpArgs false
set_option maxRecDepth 20000
theorem rsigned (n : Int) (g : Bool) (h : sgn n = g) (w : World) : Calls Tryz.prog 73 #[.int .i64 n] w (BP g w) := by
  unfold sgn at h
  by_cases h1 : amt n = true
  · have H : Hid (true = g) := by unfold Hid; rw [← h, h1]; rfl
    clear h
    go_enter Tryz.func73, Tryz.ntmps73
    go_wp2_with (go_at_call 46; refine (ramount _ _ h1 _).mono ?_; rintro e w2 ⟨rfl, rfl⟩)
    go_ret
    exact BP.mk H.out
  · have h1 : amt n = false := by simpa using h1
    by_cases h2 : n < 0
    · have H : Hid (decide (-1125899906842624 ≤ n) = g) := by unfold Hid; rw [← h, h1, decide_eq_true h2]; rfl
      clear h
      go_enter Tryz.func73, Tryz.ntmps73
      go_wp2_with (go_at_call 46; refine (ramount _ _ h1 _).mono ?_; rintro e w2 ⟨rfl, rfl⟩)
      go_ret
      exact BP.mk H.out
    · have H : Hid (false = g) := by unfold Hid; rw [← h, h1, decide_eq_false h2]; rfl
      clear h
      go_enter Tryz.func73, Tryz.ntmps73
      go_wp2_with (go_at_call 46; refine (ramount _ _ h1 _).mono ?_; rintro e w2 ⟨rfl, rfl⟩)
      go_ret
      exact BP.mk H.out
theorem rlot (l : Lt) (g : Nat) (hg : lotE C0 l = g) (w : World) : Calls Tryz.prog 74 #[.agg #[.string ⟨l.i.toArray⟩, .int .i64 l.q]] w (KP (.int .i64 g) w) := by
  have HB : Hid (Below w.heap.size w (w.alloc (.cells #[.string ⟨l.i.toArray⟩, .int .i64 l.q] 32))) := below_a w _
  have HC : Hid (∀ w, Calls Tryz.prog 70 #[.string ⟨l.i.toArray⟩] w (NB (C0.is l.i : Nat) w)) := fun w => risin l.i _ rfl w
  unfold lotE at hg
  by_cases e1 : amt l.q = true
  · rw [if_pos e1] at hg
    subst hg
    generalize C0.is l.i = g at *
    go_enter Tryz.func74, Tryz.ntmps74
    go_wp2_with (go_at_call 46; refine (ramount _ _ e1 _).mono ?_; rintro e w2 ⟨rfl, rfl⟩)
    refine (HC.out _).mono ?_
    rintro e w2 ⟨rfl, hb⟩
    have HB2 : Hid (Below w.heap.size w w2) := bt HB.out hb.out
    clear hb
    go_wp2_with fail
    go_ret
    exact KP.mk rfl HB2.out
  · have e1 : amt l.q = false := by simpa using e1
    rw [if_neg (ff e1)] at hg
    subst hg
    go_enter Tryz.func74, Tryz.ntmps74
    go_wp2_with (go_at_call 46; refine (ramount _ _ e1 _).mono ?_; rintro e w2 ⟨rfl, rfl⟩)
    go_ret
    exact KP.mk rfl HB.out
theorem quE_seq (q : Qu) : quE C0 q = if amt q.id = true then if inn q.side 1 2 = true then if inn q.bas 1 64 = true then if amt q.am = true then if inn q.rate (-1000000) 1000000 = true then if inn q.st 0 200000 = true then if (decide (q.en = 0) || (inn q.en 0 200000 && inn (q.en - q.st) 1 3660)) = true then 0 else 10 else 10 else 1 else 1 else 1 else 1 else 1 := by
  unfold quE
  show (if (!(amt q.id && (inn q.side 1 2 && (inn q.bas 1 64 && (amt q.am && inn q.rate (-1000000) 1000000))))) = true then 1 else if (!(inn q.st 0 200000 && (decide (q.en = 0) || (inn q.en 0 200000 && inn (q.en - q.st) 1 3660)))) = true then 10 else 0) = _
  cases amt q.id with
  | false => rfl
  | true =>
    cases inn q.side 1 2 with
    | false => rfl
    | true =>
      cases inn q.bas 1 64 with
      | false => rfl
      | true =>
        cases amt q.am with
        | false => rfl
        | true =>
          cases inn q.rate (-1000000) 1000000 with
          | false => rfl
          | true =>
            cases inn q.st 0 200000 with
            | false => rfl
            | true =>
              cases (decide (q.en = 0) || (inn q.en 0 200000 && inn (q.en - q.st) 1 3660)) with
              | false => rfl
              | true =>
                rfl
set_option maxHeartbeats 4000000 in
theorem rQuoteE (q : Qu) (g : Nat) (hg : quE C0 q = g) (w : World) : Calls Tryz.prog 36 #[.agg #[.int .i64 q.id, .int .i64 q.mem, .int .i64 q.side, .int .i64 q.bas, .int .i64 q.am, .int .i64 q.rate, .int .i64 q.st, .int .i64 q.en]] w (KP (.int .i64 g) w) := by
  have HG : Hid ((if amt q.id = true then if inn q.side 1 2 = true then if inn q.bas 1 64 = true then if amt q.am = true then if inn q.rate (-1000000) 1000000 = true then if inn q.st 0 200000 = true then if (decide (q.en = 0) || (inn q.en 0 200000 && inn (q.en - q.st) 1 3660)) = true then 0 else 10 else 10 else 1 else 1 else 1 else 1 else 1) = g) := by unfold Hid; rw [← quE_seq]; exact hg
  have HB : Hid (Below w.heap.size w (w.alloc (.cells #[.int .i64 q.id, .int .i64 q.mem, .int .i64 q.side, .int .i64 q.bas, .int .i64 q.am, .int .i64 q.rate, .int .i64 q.st, .int .i64 q.en] 30))) := below_a w _
  clear hg
  go_enter Tryz.func36, Tryz.ntmps36
  by_cases e2 : amt q.id = true
  · by_cases e3 : inn q.side 1 2 = true
    · by_cases e4 : inn q.bas 1 64 = true
      · by_cases e5 : amt q.am = true
        · by_cases e6 : inn q.rate (-1000000) 1000000 = true
          · by_cases e7 : inn q.st 0 200000 = true
            · by_cases f1 : q.en = 0
              · have HG2 : Hid (0 = g) := by have := HG.out; rw [if_pos e2, if_pos e3, if_pos e4, if_pos e5, if_pos e6, if_pos e7, if_pos (by first | (rw [decide_eq_true f1]; rfl) | (rw [decide_eq_false f1, f2, f3]; rfl))] at this; exact this
                have z1 : (q.en != 0) = false := by rw [f1]; rfl
                clear HG f1
                go_wp2_with (first | (go_at_call 46; refine (ramount _ _ (by first | exact e2 | exact e5) _).mono ?_; rintro e w2 ⟨rfl, rfl⟩) | (go_at_call 45; refine (rin _ _ _ _ (by first | exact e3 | exact e4 | exact e6 | exact f3) _).mono ?_; rintro e w2 ⟨rfl, rfl⟩) | (go_at_call 71; refine (rgood _ _ (by first | exact e7 | exact f2) _).mono ?_; rintro e w2 ⟨rfl, rfl⟩))
                go_ret
                exact KP.mk (by rw [← HG2.out]; rfl) HB.out
              · have z1 : (q.en != 0) = true := by rw [bne_iff_ne]; exact f1
                by_cases f2 : inn q.en 0 200000 = true
                · have hr : 0 ≤ q.st ∧ q.st ≤ 200000 ∧ 0 ≤ q.en ∧ q.en ≤ 200000 := by
                    have e7 := e7
                    have f2 := f2
                    unfold inn at e7 f2
                    rw [Bool.and_eq_true, decide_eq_true_iff, decide_eq_true_iff] at e7 f2
                    omega
                  obtain ⟨r1, r2, r3, r4⟩ := hr
                  by_cases f3 : inn (q.en - q.st) 1 3660 = true
                  · have HG2 : Hid (0 = g) := by have := HG.out; rw [if_pos e2, if_pos e3, if_pos e4, if_pos e5, if_pos e6, if_pos e7, if_pos (by first | (rw [decide_eq_true f1]; rfl) | (rw [decide_eq_false f1, f2, f3]; rfl))] at this; exact this
                    clear HG f1
                    go_wp2_with (first | (go_at_call 46; refine (ramount _ _ (by first | exact e2 | exact e5) _).mono ?_; rintro e w2 ⟨rfl, rfl⟩) | (go_at_call 45; refine (rin _ _ _ _ (by first | exact e3 | exact e4 | exact e6 | exact f3) _).mono ?_; rintro e w2 ⟨rfl, rfl⟩) | (go_at_call 71; refine (rgood _ _ (by first | exact e7 | exact f2) _).mono ?_; rintro e w2 ⟨rfl, rfl⟩))
                    go_ret
                    exact KP.mk (by rw [← HG2.out]; rfl) HB.out
                  · have f3 : inn (q.en - q.st) 1 3660 = false := by simpa using f3
                    have HG2 : Hid (10 = g) := by have := HG.out; rw [if_pos e2, if_pos e3, if_pos e4, if_pos e5, if_pos e6, if_pos e7, if_neg (ff (by rw [decide_eq_false f1, f2, f3]; rfl))] at this; exact this
                    clear HG f1
                    go_wp2_with (first | (go_at_call 46; refine (ramount _ _ (by first | exact e2 | exact e5) _).mono ?_; rintro e w2 ⟨rfl, rfl⟩) | (go_at_call 45; refine (rin _ _ _ _ (by first | exact e3 | exact e4 | exact e6 | exact f3) _).mono ?_; rintro e w2 ⟨rfl, rfl⟩) | (go_at_call 71; refine (rgood _ _ (by first | exact e7 | exact f2) _).mono ?_; rintro e w2 ⟨rfl, rfl⟩))
                    go_ret
                    exact KP.mk (by rw [← HG2.out]; rfl) HB.out
                · have f2 : inn q.en 0 200000 = false := by simpa using f2
                  have HG2 : Hid (10 = g) := by have := HG.out; rw [if_pos e2, if_pos e3, if_pos e4, if_pos e5, if_pos e6, if_pos e7, if_neg (ff (by rw [decide_eq_false f1, f2]; rfl))] at this; exact this
                  clear HG f1
                  go_wp2_with (first | (go_at_call 46; refine (ramount _ _ (by first | exact e2 | exact e5) _).mono ?_; rintro e w2 ⟨rfl, rfl⟩) | (go_at_call 45; refine (rin _ _ _ _ (by first | exact e3 | exact e4 | exact e6 | exact f3) _).mono ?_; rintro e w2 ⟨rfl, rfl⟩) | (go_at_call 71; refine (rgood _ _ (by first | exact e7 | exact f2) _).mono ?_; rintro e w2 ⟨rfl, rfl⟩))
                  go_ret
                  exact KP.mk (by rw [← HG2.out]; rfl) HB.out
            · have e7 : inn q.st 0 200000 = false := by simpa using e7
              have HG2 : Hid (10 = g) := by have := HG.out; rw [if_pos e2, if_pos e3, if_pos e4, if_pos e5, if_pos e6, if_neg (ff e7)] at this; exact this
              clear HG
              go_wp2_with (first | (go_at_call 46; refine (ramount _ _ (by first | exact e2 | exact e5) _).mono ?_; rintro e w2 ⟨rfl, rfl⟩) | (go_at_call 45; refine (rin _ _ _ _ (by first | exact e3 | exact e4 | exact e6 | exact f3) _).mono ?_; rintro e w2 ⟨rfl, rfl⟩) | (go_at_call 71; refine (rgood _ _ (by first | exact e7 | exact f2) _).mono ?_; rintro e w2 ⟨rfl, rfl⟩))
              go_ret
              exact KP.mk (by rw [← HG2.out]; rfl) HB.out
          · have e6 : inn q.rate (-1000000) 1000000 = false := by simpa using e6
            have HG2 : Hid (1 = g) := by have := HG.out; rw [if_pos e2, if_pos e3, if_pos e4, if_pos e5, if_neg (ff e6)] at this; exact this
            clear HG
            go_wp2_with (first | (go_at_call 46; refine (ramount _ _ (by first | exact e2 | exact e5) _).mono ?_; rintro e w2 ⟨rfl, rfl⟩) | (go_at_call 45; refine (rin _ _ _ _ (by first | exact e3 | exact e4 | exact e6 | exact f3) _).mono ?_; rintro e w2 ⟨rfl, rfl⟩) | (go_at_call 71; refine (rgood _ _ (by first | exact e7 | exact f2) _).mono ?_; rintro e w2 ⟨rfl, rfl⟩))
            go_ret
            exact KP.mk (by rw [← HG2.out]; rfl) HB.out
        · have e5 : amt q.am = false := by simpa using e5
          have HG2 : Hid (1 = g) := by have := HG.out; rw [if_pos e2, if_pos e3, if_pos e4, if_neg (ff e5)] at this; exact this
          clear HG
          go_wp2_with (first | (go_at_call 46; refine (ramount _ _ (by first | exact e2 | exact e5) _).mono ?_; rintro e w2 ⟨rfl, rfl⟩) | (go_at_call 45; refine (rin _ _ _ _ (by first | exact e3 | exact e4 | exact e6 | exact f3) _).mono ?_; rintro e w2 ⟨rfl, rfl⟩) | (go_at_call 71; refine (rgood _ _ (by first | exact e7 | exact f2) _).mono ?_; rintro e w2 ⟨rfl, rfl⟩))
          go_ret
          exact KP.mk (by rw [← HG2.out]; rfl) HB.out
      · have e4 : inn q.bas 1 64 = false := by simpa using e4
        have HG2 : Hid (1 = g) := by have := HG.out; rw [if_pos e2, if_pos e3, if_neg (ff e4)] at this; exact this
        clear HG
        go_wp2_with (first | (go_at_call 46; refine (ramount _ _ (by first | exact e2 | exact e5) _).mono ?_; rintro e w2 ⟨rfl, rfl⟩) | (go_at_call 45; refine (rin _ _ _ _ (by first | exact e3 | exact e4 | exact e6 | exact f3) _).mono ?_; rintro e w2 ⟨rfl, rfl⟩) | (go_at_call 71; refine (rgood _ _ (by first | exact e7 | exact f2) _).mono ?_; rintro e w2 ⟨rfl, rfl⟩))
        go_ret
        exact KP.mk (by rw [← HG2.out]; rfl) HB.out
    · have e3 : inn q.side 1 2 = false := by simpa using e3
      have HG2 : Hid (1 = g) := by have := HG.out; rw [if_pos e2, if_neg (ff e3)] at this; exact this
      clear HG
      go_wp2_with (first | (go_at_call 46; refine (ramount _ _ (by first | exact e2 | exact e5) _).mono ?_; rintro e w2 ⟨rfl, rfl⟩) | (go_at_call 45; refine (rin _ _ _ _ (by first | exact e3 | exact e4 | exact e6 | exact f3) _).mono ?_; rintro e w2 ⟨rfl, rfl⟩) | (go_at_call 71; refine (rgood _ _ (by first | exact e7 | exact f2) _).mono ?_; rintro e w2 ⟨rfl, rfl⟩))
      go_ret
      exact KP.mk (by rw [← HG2.out]; rfl) HB.out
  · have e2 : amt q.id = false := by simpa using e2
    have HG2 : Hid (1 = g) := by have := HG.out; rw [if_neg (ff e2)] at this; exact this
    clear HG
    go_wp2_with (first | (go_at_call 46; refine (ramount _ _ (by first | exact e2 | exact e5) _).mono ?_; rintro e w2 ⟨rfl, rfl⟩) | (go_at_call 45; refine (rin _ _ _ _ (by first | exact e3 | exact e4 | exact e6 | exact f3) _).mono ?_; rintro e w2 ⟨rfl, rfl⟩) | (go_at_call 71; refine (rgood _ _ (by first | exact e7 | exact f2) _).mono ?_; rintro e w2 ⟨rfl, rfl⟩))
    go_ret
    exact KP.mk (by rw [← HG2.out]; rfl) HB.out
set_option maxHeartbeats 8000000 in
theorem rprices (xs : List Lt) (a : Option Addr) (cap : Nat) (w : World) (hL : Lts w.heap.size w a xs) (hl : xs.length ≤ 9223372036854775807) (g : Nat) (hg : prE C0 xs = g) : Calls Tryz.prog 32 #[.slice a xs.length cap] w (KP (.int .i64 g) w) := by
  have HI : Hid (Lts w.heap.size w a xs) := hL
  clear hL
  by_cases e1 : inn (xs.length : Int) 1 64 = true
  · have HG : Hid (prsE C0 (ahI xs 0) (xs.drop 0) = g) := by unfold Hid; rw [← prE_in e1]; exact hg
    have n1 : ((xs.length : Int) == 0) = false ∧ ¬ (xs.length : Int) > 64 := by
      unfold inn at e1
      rw [Bool.and_eq_true, decide_eq_true_iff, decide_eq_true_iff] at e1
      exact ⟨by rw [beq_eq_false_iff_ne]; omega, by omega⟩
    obtain ⟨n1, n2⟩ := n1
    clear hg e1
    go_enter Tryz.func32, Tryz.ntmps32
    go_wp2_with fail
    go_loopw [3] (fun i wr => ∃ (k : Nat), i = .int .i64 k ∧ k ≤ xs.length ∧ Hid (prsE C0 (ahI xs k) (xs.drop k) = g) ∧ Hid (Below w.heap.size w wr)) (fun i _ => xs.length - (Lib.intOf i).toNat)
    case atStart => exact ⟨0, rfl, Nat.zero_le _, HG, Below.refl _ _⟩
    case round =>
      clear HG
      obtain ⟨k, rfl, hk, HK, HBw⟩ := hrel
      by_cases hkn : k < xs.length
      · have hkz : (k : Int) < (xs.length : Int) := by omega
        obtain ⟨b, off, rfl, hbl, hce⟩ := HI.out (by omega)
        have hc1 : wr.cell? ⟨b, off + k * 2, none⟩ = some (.string ⟨xs[k].i.toArray⟩) := (HBw.out.cell (by exact hbl)).trans (hce k hkn).1
        have hc0 : k = 0 → wr.cell? ⟨b, off, none⟩ = some (.string ⟨xs[k].i.toArray⟩) := by rintro rfl; have := hc1; simpa using this
        have HC : Hid (∀ w, Calls Tryz.prog 70 #[.string ⟨xs[k].i.toArray⟩] w (NB (C0.is xs[k].i : Nat) w)) := fun w => risin xs[k].i _ rfl w
        have HK2 : Hid ((if C0.is xs[k].i ≠ 0 then C0.is xs[k].i else if !(inn xs[k].q 1 4294967296 && prGo C0 (ahI xs k) xs[k].i) then 31 else prsE C0 (ahI xs (k + 1)) (xs.drop (k + 1))) = g) := by unfold Hid; rw [← prsE_at hkn]; exact HK.out
        clear HK
        by_cases e2 : C0.is xs[k].i = 0
        · have HK3 : Hid ((if !(inn xs[k].q 1 4294967296 && prGo C0 (ahI xs k) xs[k].i) then 31 else prsE C0 (ahI xs (k + 1)) (xs.drop (k + 1))) = g) := by have := HK2.out; rw [if_neg (by simpa using e2)] at this; exact this
          clear HK2
          rw [e2] at HC
          clear e2
          have hce2 := hce
          have HCE : Hid (∀ (W : World), Below w.heap.size w W → ∀ j (h : j < xs.length), W.cell? ⟨b, off + j * 2, none⟩ = some (.string ⟨xs[j].i.toArray⟩) ∧ W.cell? ⟨b, off + j * 2 + 1, none⟩ = some (.int .i64 xs[j].q)) := fun W hb j hj => ⟨(hb.cell (by exact hbl)).trans (hce j hj).1, (hb.cell (by exact hbl)).trans (hce j hj).2⟩
          clear hce hce2
          cases k with
          | zero =>
            have hz1 := hc0 rfl
            clear hc1 hc0
            go_wp2_with fail
            refine (HC.out _).mono ?_
            rintro e w2 ⟨rfl, hb⟩
            have HB2 : Hid (Below w.heap.size w w2) := bt HBw.out hb.out
            have HB3 : Hid (∀ n, Below w.heap.size w (w2.drewN n)) := fun n => bdrw HB2.out n
            have hd1 : w2.cell? ⟨b, off, none⟩ = some (.string ⟨xs[0].i.toArray⟩) := by have := (HCE.out _ HB2.out 0 hkn).1; simpa using this
            have hd2 : w2.cell? ⟨b, off + 1, none⟩ = some (.int .i64 xs[0].q) := by have := (HCE.out _ HB2.out 0 hkn).2; simpa using this
            clear hb HBw hz1 HCE
            by_cases e3 : inn xs[0].q 1 4294967296 = true
            · have HK4 : Hid (prsE C0 (ahI xs 1) (xs.drop 1) = g) := by have := HK3.out; rw [e3] at this; exact this
              clear HK3
              generalize (⟨xs[0].i.toArray⟩ : ByteArray) = X at *
              generalize xs[0].q = q at *
              go_wp2_with fail
              go_quiet ((go_at_call 45; refine Calls.quiet_of_same (rinQ _ _ _ _ e3 _)))
              go_wp2_with fail
              exact ⟨⟨1, by go_num, by omega, HK4, HB3.out _⟩, by simp [Lib.intOf]; omega⟩
            · have e3 : inn xs[0].q 1 4294967296 = false := by simpa using e3
              have HK4 : Hid (31 = g) := by have := HK3.out; rw [e3] at this; exact this
              clear HK3
              generalize (⟨xs[0].i.toArray⟩ : ByteArray) = X at *
              generalize xs[0].q = q at *
              go_wp2_with fail
              go_quiet ((go_at_call 45; refine Calls.quiet_of_same (rinQ _ _ _ _ e3 _)))
              go_wp2_with fail
              go_ret
              exact KP.mk (by rw [← HK4.out]; rfl) (HB3.out _)
          | succ j =>
            clear hc0
            go_wp2_with fail
            refine (HC.out _).mono ?_
            rintro e w2 ⟨rfl, hb⟩
            have HB2 : Hid (Below w.heap.size w w2) := bt HBw.out hb.out
            have HB3 : Hid (∀ n, Below w.heap.size w (w2.drewN n)) := fun n => bdrw HB2.out n
            have hd1 : w2.cell? ⟨b, off + (j + 1) * 2, none⟩ = some (.string ⟨xs[j + 1].i.toArray⟩) := (HCE.out _ HB2.out (j + 1) hkn).1
            have hd2 : w2.cell? ⟨b, off + (j + 1) * 2 + 1, none⟩ = some (.int .i64 xs[j + 1].q) := (HCE.out _ HB2.out (j + 1) hkn).2
            have hd3 : w2.cell? ⟨b, off + j * 2, none⟩ = some (.string ⟨xs[j].i.toArray⟩) := (HCE.out _ HB2.out j (by omega)).1
            have hp : ahI xs (j + 1) = some xs[j].i := by show (xs[j]?).map Lt.i = _; rw [List.getElem?_eq_getElem]; rfl
            clear hb HBw hc1 HCE
            by_cases e3 : inn xs[j + 1].q 1 4294967296 = true
            · have HK4 : Hid ((if !(!C0.le xs[j + 1].i xs[j].i) then 31 else prsE C0 (ahI xs (j + 1 + 1)) (xs.drop (j + 1 + 1))) = g) := by have := HK3.out; rw [e3, hp] at this; exact this
              rw [le_of] at HK4
              clear HK3 hp
              generalize (⟨xs[j + 1].i.toArray⟩ : ByteArray) = X at *
              generalize (⟨xs[j].i.toArray⟩ : ByteArray) = Y at *
              generalize xs[j + 1].q = q at *
              generalize hb1 : Op.bytesLess X.toList Y.toList = b1 at *
              generalize hb2 : (X.toList == Y.toList) = b2 at *
              cases b1 with
              | true =>
                have HK5 : Hid (31 = g) := HK4.out
                clear HK4
                go_wp2_with fail
                go_quiet ((go_at_call 45; refine Calls.quiet_of_same (rinQ _ _ _ _ e3 _)))
                go_wp2_with fail
                go_ret
                exact KP.mk (by rw [← HK5.out]; rfl) (HB3.out _)
              | false =>
                cases b2 with
                | true =>
                  have HK5 : Hid (31 = g) := HK4.out
                  clear HK4
                  go_wp2_with fail
                  go_quiet ((go_at_call 45; refine Calls.quiet_of_same (rinQ _ _ _ _ e3 _)))
                  go_wp2_with fail
                  go_ret
                  exact KP.mk (by rw [← HK5.out]; rfl) (HB3.out _)
                | false =>
                  have HK5 : Hid (prsE C0 (ahI xs (j + 1 + 1)) (xs.drop (j + 1 + 1)) = g) := HK4.out
                  clear HK4
                  go_wp2_with fail
                  go_quiet ((go_at_call 45; refine Calls.quiet_of_same (rinQ _ _ _ _ e3 _)))
                  go_wp2_with fail
                  exact ⟨⟨j + 1 + 1, by go_num, by omega, HK5, HB3.out _⟩, by simp [Lib.intOf]; omega⟩
            · have e3 : inn xs[j + 1].q 1 4294967296 = false := by simpa using e3
              have HK4 : Hid (31 = g) := by have := HK3.out; rw [e3] at this; exact this
              clear HK3
              generalize (⟨xs[j + 1].i.toArray⟩ : ByteArray) = X at *
              generalize (⟨xs[j].i.toArray⟩ : ByteArray) = Y at *
              generalize xs[j + 1].q = q at *
              go_wp2_with fail
              go_quiet ((go_at_call 45; refine Calls.quiet_of_same (rinQ _ _ _ _ e3 _)))
              go_wp2_with fail
              go_ret
              exact KP.mk (by rw [← HK4.out]; rfl) (HB3.out _)
        · have HK3 : Hid (C0.is xs[k].i = g) := by have := HK2.out; rw [if_pos e2] at this; exact this
          have z2 : ((C0.is xs[k].i : Int) != 0) = true := by rw [bne_iff_ne]; omega
          have HCE : Hid (∀ (W : World), Below w.heap.size w W → W.cell? ⟨b, off + k * 2, none⟩ = some (.string ⟨xs[k].i.toArray⟩)) := fun W hb => (hb.cell (by exact hbl)).trans (hce k hkn).1
          clear HK2 hce e2
          generalize C0.is xs[k].i = ce at *
          generalize (⟨xs[k].i.toArray⟩ : ByteArray) = X at *
          go_wp2_with fail
          refine (HC.out _).mono ?_
          rintro e w2 ⟨rfl, hb⟩
          have HB2 : Hid (Below w.heap.size w w2) := bt HBw.out hb.out
          have hd1 := HCE.out _ HB2.out
          clear hb HBw
          go_wp2_with fail
          refine (HC.out _).mono ?_
          rintro e w3 ⟨rfl, hb⟩
          have HB3 : Hid (Below w.heap.size w w3) := bt HB2.out hb.out
          clear hb HB2
          go_wp2_with fail
          go_ret
          exact KP.mk (by rw [← HK3.out]; rfl) HB3.out
      · have hkz : ¬ (k : Int) < (xs.length : Int) := by omega
        have HK3 : Hid (0 = g) := by have := HK.out; rw [List.drop_of_length_le (by omega)] at this; exact this
        clear HK
        go_wp2_with fail
        go_ret
        exact KP.mk (by rw [← HK3.out]; rfl) HBw.out
  · have e1 : inn (xs.length : Int) 1 64 = false := by simpa using e1
    have HG2 : Hid (2 = g) := by unfold Hid; rw [← hg, prE_out e1]
    have hcs : xs.length = 0 ∨ 64 < xs.length := by
      unfold inn at e1
      rw [Bool.and_eq_false_iff, decide_eq_false_iff_not, decide_eq_false_iff_not] at e1
      omega
    clear hg e1
    rcases hcs with h0 | h0
    · have n1 : ((xs.length : Int) == 0) = true := by rw [beq_iff_eq]; omega
      clear h0
      go_enter Tryz.func32, Tryz.ntmps32
      go_wp2_with fail
      go_ret
      exact KP.mk (by rw [← HG2.out]; rfl) (Below.refl _ _)
    · have n1 : ((xs.length : Int) == 0) = false := by rw [beq_eq_false_iff_ne]; omega
      have n2 : (xs.length : Int) > 64 := by omega
      clear h0
      go_enter Tryz.func32, Tryz.ntmps32
      go_wp2_with fail
      go_ret
      exact KP.mk (by rw [← HG2.out]; rfl) (Below.refl _ _)
end Go.Proofs.YtdmlgheajblcdaaGreat

/- Layer 10: what is wrong with a message, and who sends it, by the reference. -/
namespace Go.Proofs.YtdmlgheajblcdaaGreat
open Go.RowKit
set_option linter.unusedVariables false
set_option linter.unusedSimpArgs false
set_option maxRecDepth 20000
set_option maxHeartbeats 4000000 in
theorem rest1 (m : Mg) (pa ia ca ba : Option Addr) (pc ic cc bc : Nat) (hk : m.k = 1) (w : World) (hs : m.name.length ≤ 9223372036854775807) (g : Nat) (hg : (C0.nm m.name) = g) : Calls Tryz.prog 37 #[.agg (mcs m pa ia ca ba pc ic cc bc)] w (KP (.int .i64 g) w) := by
  have HG : Hid ((C0.nm m.name) = g) := hg
  clear hg
  have HC : Hid (∀ w, Calls Tryz.prog 72 #[.string ⟨m.name.toArray⟩] w (TB (N4.chk m.name).1 (C0.nm m.name) w)) := fun w => rname m.name hs _ rfl w
  generalize C0.nm m.name = dd at *
  have HX0 : Hid (Bx (w.alloc (.cells (mcs m pa ia ca ba pc ic cc bc) 35)) w.heap.size (mcs m pa ia ca ba pc ic cc bc) 35) := Bx.new _ _ _
  have HB0 : Hid (Below w.heap.size w (w.alloc (.cells (mcs m pa ia ca ba pc ic cc bc) 35))) := below_a w _
  have hsz : (mcs m pa ia ca ba pc ic cc bc).size = 36 := mcs_size m pa ia ca ba pc ic cc bc
  go_enter Tryz.func37, Tryz.ntmps37
  go_upto_region 1 with fail
  generalize hw1 : w.alloc (.cells (mcs m pa ia ca ba pc ic cc bc) 35) = w1 at *
  have HX : Hid (Bx w1 w.heap.size (mcs m pa ia ca ba pc ic cc bc) 35) := HX0.out
  have HB : Hid (Below w.heap.size w w1) := HB0.out
  have HLD : Hid ((Instr.loadAt 35 (.pointer (some ⟨w.heap.size, 0, none⟩))).run Tryz.prog w1 = .ok (.agg (mcs m pa ia ca ba pc ic cc bc)) w1) := hloadAt w1 w.heap.size (mcs m pa ia ca ba pc ic cc bc) (mcs_size m pa ia ca ba pc ic cc bc) HX.out
  clear HX0 HB0 hw1
  have c0 : w1.cell? ⟨w.heap.size, 0, none⟩ = some (.int .i64 1) := by rw [← hk]; exact HX.out.cell 0
  have c2 : w1.cell? ⟨w.heap.size, 2, none⟩ = some (.string ⟨m.name.toArray⟩) := HX.out.cell 2
  have HG2 : Hid (dd = g) := by have := HG.out; exact this
  clear HG
  go_wp2_with fail
  refine (HC.out _).mono ?_
  rintro e w2 ⟨rfl, hb⟩
  have HB2 : Hid (Below w.heap.size w w2) := bt HB.out hb.out
  clear hb
  go_wp2_with fail
  go_ret
  exact KP.mk (by rw [← HG2.out]; rfl) HB2.out
set_option maxHeartbeats 4000000 in
theorem rest6 (m : Mg) (pa ia ca ba : Option Addr) (pc ic cc bc : Nat) (hk : m.k = 6) (w : World)  (g : Nat) (hg : (if sgn m.n = true then 0 else 1) = g) : Calls Tryz.prog 37 #[.agg (mcs m pa ia ca ba pc ic cc bc)] w (KP (.int .i64 g) w) := by
  have HG : Hid ((if sgn m.n = true then 0 else 1) = g) := hg
  clear hg
  have HX0 : Hid (Bx (w.alloc (.cells (mcs m pa ia ca ba pc ic cc bc) 35)) w.heap.size (mcs m pa ia ca ba pc ic cc bc) 35) := Bx.new _ _ _
  have HB0 : Hid (Below w.heap.size w (w.alloc (.cells (mcs m pa ia ca ba pc ic cc bc) 35))) := below_a w _
  have hsz : (mcs m pa ia ca ba pc ic cc bc).size = 36 := mcs_size m pa ia ca ba pc ic cc bc
  go_enter Tryz.func37, Tryz.ntmps37
  go_upto_region 1 with fail
  generalize hw1 : w.alloc (.cells (mcs m pa ia ca ba pc ic cc bc) 35) = w1 at *
  have HX : Hid (Bx w1 w.heap.size (mcs m pa ia ca ba pc ic cc bc) 35) := HX0.out
  have HB : Hid (Below w.heap.size w w1) := HB0.out
  have HLD : Hid ((Instr.loadAt 35 (.pointer (some ⟨w.heap.size, 0, none⟩))).run Tryz.prog w1 = .ok (.agg (mcs m pa ia ca ba pc ic cc bc)) w1) := hloadAt w1 w.heap.size (mcs m pa ia ca ba pc ic cc bc) (mcs_size m pa ia ca ba pc ic cc bc) HX.out
  clear HX0 HB0 hw1
  have c0 : w1.cell? ⟨w.heap.size, 0, none⟩ = some (.int .i64 6) := by rw [← hk]; exact HX.out.cell 0
  have c21 : w1.cell? ⟨w.heap.size, 21, none⟩ = some (.int .i64 m.n) := HX.out.cell 21
  have c33 : w1.cell? ⟨w.heap.size, 33, none⟩ = some (.int .i64 m.tr) := HX.out.cell 33
  have c35 : w1.cell? ⟨w.heap.size, 35, none⟩ = some (.int .i64 m.rate) := HX.out.cell 35
  by_cases e2 : sgn m.n = true
  · have HG2 : Hid (0 = g) := by have := HG.out; rw [if_pos e2] at this; exact this
    clear HG
    go_wp2_with (first | (go_at_call 73; refine (rsigned _ _ (by first | exact e2) _).mono ?_; rintro e w2 ⟨rfl, rfl⟩))
    go_ret
    exact KP.mk (by rw [← HG2.out]; rfl) HB.out
  · have e2 : sgn m.n = false := by simpa using e2
    have HG2 : Hid (1 = g) := by have := HG.out; rw [if_neg (ff e2)] at this; exact this
    clear HG
    go_wp2_with (first | (go_at_call 73; refine (rsigned _ _ (by first | exact e2) _).mono ?_; rintro e w2 ⟨rfl, rfl⟩))
    go_ret
    exact KP.mk (by rw [← HG2.out]; rfl) HB.out
set_option maxHeartbeats 4000000 in
theorem rest7 (m : Mg) (pa ia ca ba : Option Addr) (pc ic cc bc : Nat) (hk : m.k = 7) (w : World)  (g : Nat) (hg : (if sgn m.n = true then C0.is m.t else 1) = g) : Calls Tryz.prog 37 #[.agg (mcs m pa ia ca ba pc ic cc bc)] w (KP (.int .i64 g) w) := by
  have HG : Hid ((if sgn m.n = true then C0.is m.t else 1) = g) := hg
  clear hg
  have HC : Hid (∀ w, Calls Tryz.prog 70 #[.string ⟨m.t.toArray⟩] w (NB (C0.is m.t : Nat) w)) := fun w => risin m.t _ rfl w
  generalize C0.is m.t = dd at *
  have HX0 : Hid (Bx (w.alloc (.cells (mcs m pa ia ca ba pc ic cc bc) 35)) w.heap.size (mcs m pa ia ca ba pc ic cc bc) 35) := Bx.new _ _ _
  have HB0 : Hid (Below w.heap.size w (w.alloc (.cells (mcs m pa ia ca ba pc ic cc bc) 35))) := below_a w _
  have hsz : (mcs m pa ia ca ba pc ic cc bc).size = 36 := mcs_size m pa ia ca ba pc ic cc bc
  go_enter Tryz.func37, Tryz.ntmps37
  go_upto_region 1 with fail
  generalize hw1 : w.alloc (.cells (mcs m pa ia ca ba pc ic cc bc) 35) = w1 at *
  have HX : Hid (Bx w1 w.heap.size (mcs m pa ia ca ba pc ic cc bc) 35) := HX0.out
  have HB : Hid (Below w.heap.size w w1) := HB0.out
  have HLD : Hid ((Instr.loadAt 35 (.pointer (some ⟨w.heap.size, 0, none⟩))).run Tryz.prog w1 = .ok (.agg (mcs m pa ia ca ba pc ic cc bc)) w1) := hloadAt w1 w.heap.size (mcs m pa ia ca ba pc ic cc bc) (mcs_size m pa ia ca ba pc ic cc bc) HX.out
  clear HX0 HB0 hw1
  have c0 : w1.cell? ⟨w.heap.size, 0, none⟩ = some (.int .i64 7) := by rw [← hk]; exact HX.out.cell 0
  have c21 : w1.cell? ⟨w.heap.size, 21, none⟩ = some (.int .i64 m.n) := HX.out.cell 21
  have c33 : w1.cell? ⟨w.heap.size, 33, none⟩ = some (.int .i64 m.tr) := HX.out.cell 33
  have c35 : w1.cell? ⟨w.heap.size, 35, none⟩ = some (.int .i64 m.rate) := HX.out.cell 35
  have c20 : w1.cell? ⟨w.heap.size, 20, none⟩ = some (.string ⟨m.t.toArray⟩) := HX.out.cell 20
  by_cases e2 : sgn m.n = true
  · have HG2 : Hid (dd = g) := by have := HG.out; rw [if_pos e2] at this; exact this
    clear HG
    go_wp2_with (first | (go_at_call 73; refine (rsigned _ _ (by first | exact e2) _).mono ?_; rintro e w2 ⟨rfl, rfl⟩))
    refine (HC.out _).mono ?_
    rintro e w2 ⟨rfl, hb⟩
    have HB2 : Hid (Below w.heap.size w w2) := bt HB.out hb.out
    clear hb
    go_wp2_with fail
    go_ret
    exact KP.mk (by rw [← HG2.out]; rfl) HB2.out
  · have e2 : sgn m.n = false := by simpa using e2
    have HG2 : Hid (1 = g) := by have := HG.out; rw [if_neg (ff e2)] at this; exact this
    clear HG
    go_wp2_with (first | (go_at_call 73; refine (rsigned _ _ (by first | exact e2) _).mono ?_; rintro e w2 ⟨rfl, rfl⟩))
    go_ret
    exact KP.mk (by rw [← HG2.out]; rfl) HB.out
set_option maxHeartbeats 4000000 in
theorem rest9 (m : Mg) (pa ia ca ba : Option Addr) (pc ic cc bc : Nat) (hk : m.k = 9) (w : World)  (g : Nat) (hg : (if amt m.n = true then 0 else 1) = g) : Calls Tryz.prog 37 #[.agg (mcs m pa ia ca ba pc ic cc bc)] w (KP (.int .i64 g) w) := by
  have HG : Hid ((if amt m.n = true then 0 else 1) = g) := hg
  clear hg
  have HX0 : Hid (Bx (w.alloc (.cells (mcs m pa ia ca ba pc ic cc bc) 35)) w.heap.size (mcs m pa ia ca ba pc ic cc bc) 35) := Bx.new _ _ _
  have HB0 : Hid (Below w.heap.size w (w.alloc (.cells (mcs m pa ia ca ba pc ic cc bc) 35))) := below_a w _
  have hsz : (mcs m pa ia ca ba pc ic cc bc).size = 36 := mcs_size m pa ia ca ba pc ic cc bc
  go_enter Tryz.func37, Tryz.ntmps37
  go_upto_region 1 with fail
  generalize hw1 : w.alloc (.cells (mcs m pa ia ca ba pc ic cc bc) 35) = w1 at *
  have HX : Hid (Bx w1 w.heap.size (mcs m pa ia ca ba pc ic cc bc) 35) := HX0.out
  have HB : Hid (Below w.heap.size w w1) := HB0.out
  have HLD : Hid ((Instr.loadAt 35 (.pointer (some ⟨w.heap.size, 0, none⟩))).run Tryz.prog w1 = .ok (.agg (mcs m pa ia ca ba pc ic cc bc)) w1) := hloadAt w1 w.heap.size (mcs m pa ia ca ba pc ic cc bc) (mcs_size m pa ia ca ba pc ic cc bc) HX.out
  clear HX0 HB0 hw1
  have c0 : w1.cell? ⟨w.heap.size, 0, none⟩ = some (.int .i64 9) := by rw [← hk]; exact HX.out.cell 0
  have c21 : w1.cell? ⟨w.heap.size, 21, none⟩ = some (.int .i64 m.n) := HX.out.cell 21
  by_cases e2 : amt m.n = true
  · have HG2 : Hid (0 = g) := by have := HG.out; rw [if_pos e2] at this; exact this
    clear HG
    go_wp2_with (first | (go_at_call 46; refine (ramount _ _ (by first | exact e2) _).mono ?_; rintro e w2 ⟨rfl, rfl⟩))
    go_ret
    exact KP.mk (by rw [← HG2.out]; rfl) HB.out
  · have e2 : amt m.n = false := by simpa using e2
    have HG2 : Hid (1 = g) := by have := HG.out; rw [if_neg (ff e2)] at this; exact this
    clear HG
    go_wp2_with (first | (go_at_call 46; refine (ramount _ _ (by first | exact e2) _).mono ?_; rintro e w2 ⟨rfl, rfl⟩))
    go_ret
    exact KP.mk (by rw [← HG2.out]; rfl) HB.out
set_option maxHeartbeats 4000000 in
theorem rest10 (m : Mg) (pa ia ca ba : Option Addr) (pc ic cc bc : Nat) (hk : m.k = 10) (w : World)  (g : Nat) (hg : (if amt m.tr = true then dayE C0 m.day else 1) = g) : Calls Tryz.prog 37 #[.agg (mcs m pa ia ca ba pc ic cc bc)] w (KP (.int .i64 g) w) := by
  have HG : Hid ((if amt m.tr = true then dayE C0 m.day else 1) = g) := hg
  clear hg
  have HC : Hid (∀ w, Calls Tryz.prog 33 #[.int .i64 m.day] w (NP .i64 (dayE C0 m.day : Nat) w)) := fun w => rday m.day _ rfl w
  generalize dayE C0 m.day = dd at *
  have HX0 : Hid (Bx (w.alloc (.cells (mcs m pa ia ca ba pc ic cc bc) 35)) w.heap.size (mcs m pa ia ca ba pc ic cc bc) 35) := Bx.new _ _ _
  have HB0 : Hid (Below w.heap.size w (w.alloc (.cells (mcs m pa ia ca ba pc ic cc bc) 35))) := below_a w _
  have hsz : (mcs m pa ia ca ba pc ic cc bc).size = 36 := mcs_size m pa ia ca ba pc ic cc bc
  go_enter Tryz.func37, Tryz.ntmps37
  go_upto_region 1 with fail
  generalize hw1 : w.alloc (.cells (mcs m pa ia ca ba pc ic cc bc) 35) = w1 at *
  have HX : Hid (Bx w1 w.heap.size (mcs m pa ia ca ba pc ic cc bc) 35) := HX0.out
  have HB : Hid (Below w.heap.size w w1) := HB0.out
  have HLD : Hid ((Instr.loadAt 35 (.pointer (some ⟨w.heap.size, 0, none⟩))).run Tryz.prog w1 = .ok (.agg (mcs m pa ia ca ba pc ic cc bc)) w1) := hloadAt w1 w.heap.size (mcs m pa ia ca ba pc ic cc bc) (mcs_size m pa ia ca ba pc ic cc bc) HX.out
  clear HX0 HB0 hw1
  have c0 : w1.cell? ⟨w.heap.size, 0, none⟩ = some (.int .i64 10) := by rw [← hk]; exact HX.out.cell 0
  have c33 : w1.cell? ⟨w.heap.size, 33, none⟩ = some (.int .i64 m.tr) := HX.out.cell 33
  have c19 : w1.cell? ⟨w.heap.size, 19, none⟩ = some (.int .i64 m.day) := HX.out.cell 19
  by_cases e2 : amt m.tr = true
  · have HG2 : Hid (dd = g) := by have := HG.out; rw [if_pos e2] at this; exact this
    clear HG
    go_wp2_with (first | (go_at_call 46; refine (ramount _ _ (by first | exact e2) _).mono ?_; rintro e w2 ⟨rfl, rfl⟩))
    refine (HC.out _).mono ?_
    rintro e w2 ⟨rfl, rfl⟩
    go_wp2_with fail
    go_ret
    exact KP.mk (by rw [← HG2.out]; rfl) HB.out
  · have e2 : amt m.tr = false := by simpa using e2
    have HG2 : Hid (1 = g) := by have := HG.out; rw [if_neg (ff e2)] at this; exact this
    clear HG
    go_wp2_with (first | (go_at_call 46; refine (ramount _ _ (by first | exact e2) _).mono ?_; rintro e w2 ⟨rfl, rfl⟩))
    go_ret
    exact KP.mk (by rw [← HG2.out]; rfl) HB.out
set_option maxHeartbeats 4000000 in
theorem rest12 (m : Mg) (pa ia ca ba : Option Addr) (pc ic cc bc : Nat) (hk : m.k = 12) (w : World)  (g : Nat) (hg : (dayE C0 m.day) = g) : Calls Tryz.prog 37 #[.agg (mcs m pa ia ca ba pc ic cc bc)] w (KP (.int .i64 g) w) := by
  have HG : Hid ((dayE C0 m.day) = g) := hg
  clear hg
  have HC : Hid (∀ w, Calls Tryz.prog 33 #[.int .i64 m.day] w (NP .i64 (dayE C0 m.day : Nat) w)) := fun w => rday m.day _ rfl w
  generalize dayE C0 m.day = dd at *
  have HX0 : Hid (Bx (w.alloc (.cells (mcs m pa ia ca ba pc ic cc bc) 35)) w.heap.size (mcs m pa ia ca ba pc ic cc bc) 35) := Bx.new _ _ _
  have HB0 : Hid (Below w.heap.size w (w.alloc (.cells (mcs m pa ia ca ba pc ic cc bc) 35))) := below_a w _
  have hsz : (mcs m pa ia ca ba pc ic cc bc).size = 36 := mcs_size m pa ia ca ba pc ic cc bc
  go_enter Tryz.func37, Tryz.ntmps37
  go_upto_region 1 with fail
  generalize hw1 : w.alloc (.cells (mcs m pa ia ca ba pc ic cc bc) 35) = w1 at *
  have HX : Hid (Bx w1 w.heap.size (mcs m pa ia ca ba pc ic cc bc) 35) := HX0.out
  have HB : Hid (Below w.heap.size w w1) := HB0.out
  have HLD : Hid ((Instr.loadAt 35 (.pointer (some ⟨w.heap.size, 0, none⟩))).run Tryz.prog w1 = .ok (.agg (mcs m pa ia ca ba pc ic cc bc)) w1) := hloadAt w1 w.heap.size (mcs m pa ia ca ba pc ic cc bc) (mcs_size m pa ia ca ba pc ic cc bc) HX.out
  clear HX0 HB0 hw1
  have c0 : w1.cell? ⟨w.heap.size, 0, none⟩ = some (.int .i64 12) := by rw [← hk]; exact HX.out.cell 0
  have c19 : w1.cell? ⟨w.heap.size, 19, none⟩ = some (.int .i64 m.day) := HX.out.cell 19
  have HG2 : Hid (dd = g) := by have := HG.out; exact this
  clear HG
  go_wp2_with fail
  refine (HC.out _).mono ?_
  rintro e w2 ⟨rfl, rfl⟩
  go_wp2_with fail
  go_ret
  exact KP.mk (by rw [← HG2.out]; rfl) HB.out
set_option maxHeartbeats 4000000 in
theorem rest13 (m : Mg) (pa ia ca ba : Option Addr) (pc ic cc bc : Nat) (hk : m.k = 13) (w : World)  (g : Nat) (hg : (0) = g) : Calls Tryz.prog 37 #[.agg (mcs m pa ia ca ba pc ic cc bc)] w (KP (.int .i64 g) w) := by
  have HG : Hid ((0) = g) := hg
  clear hg
  have HX0 : Hid (Bx (w.alloc (.cells (mcs m pa ia ca ba pc ic cc bc) 35)) w.heap.size (mcs m pa ia ca ba pc ic cc bc) 35) := Bx.new _ _ _
  have HB0 : Hid (Below w.heap.size w (w.alloc (.cells (mcs m pa ia ca ba pc ic cc bc) 35))) := below_a w _
  have hsz : (mcs m pa ia ca ba pc ic cc bc).size = 36 := mcs_size m pa ia ca ba pc ic cc bc
  go_enter Tryz.func37, Tryz.ntmps37
  go_upto_region 1 with fail
  generalize hw1 : w.alloc (.cells (mcs m pa ia ca ba pc ic cc bc) 35) = w1 at *
  have HX : Hid (Bx w1 w.heap.size (mcs m pa ia ca ba pc ic cc bc) 35) := HX0.out
  have HB : Hid (Below w.heap.size w w1) := HB0.out
  have HLD : Hid ((Instr.loadAt 35 (.pointer (some ⟨w.heap.size, 0, none⟩))).run Tryz.prog w1 = .ok (.agg (mcs m pa ia ca ba pc ic cc bc)) w1) := hloadAt w1 w.heap.size (mcs m pa ia ca ba pc ic cc bc) (mcs_size m pa ia ca ba pc ic cc bc) HX.out
  clear HX0 HB0 hw1
  have c0 : w1.cell? ⟨w.heap.size, 0, none⟩ = some (.int .i64 13) := by rw [← hk]; exact HX.out.cell 0
  have HG2 : Hid (0 = g) := by have := HG.out; exact this
  clear HG
  go_wp2_with fail
  go_ret
  exact KP.mk (by rw [← HG2.out]; rfl) HB.out
set_option maxHeartbeats 4000000 in
theorem rest14 (m : Mg) (pa ia ca ba : Option Addr) (pc ic cc bc : Nat) (hk : m.k = 14) (w : World)  (g : Nat) (hg : (if inn m.n 0 1125899906842624 = true then 0 else 1) = g) : Calls Tryz.prog 37 #[.agg (mcs m pa ia ca ba pc ic cc bc)] w (KP (.int .i64 g) w) := by
  have HG : Hid ((if inn m.n 0 1125899906842624 = true then 0 else 1) = g) := hg
  clear hg
  have HX0 : Hid (Bx (w.alloc (.cells (mcs m pa ia ca ba pc ic cc bc) 35)) w.heap.size (mcs m pa ia ca ba pc ic cc bc) 35) := Bx.new _ _ _
  have HB0 : Hid (Below w.heap.size w (w.alloc (.cells (mcs m pa ia ca ba pc ic cc bc) 35))) := below_a w _
  have hsz : (mcs m pa ia ca ba pc ic cc bc).size = 36 := mcs_size m pa ia ca ba pc ic cc bc
  go_enter Tryz.func37, Tryz.ntmps37
  go_upto_region 1 with fail
  generalize hw1 : w.alloc (.cells (mcs m pa ia ca ba pc ic cc bc) 35) = w1 at *
  have HX : Hid (Bx w1 w.heap.size (mcs m pa ia ca ba pc ic cc bc) 35) := HX0.out
  have HB : Hid (Below w.heap.size w w1) := HB0.out
  have HLD : Hid ((Instr.loadAt 35 (.pointer (some ⟨w.heap.size, 0, none⟩))).run Tryz.prog w1 = .ok (.agg (mcs m pa ia ca ba pc ic cc bc)) w1) := hloadAt w1 w.heap.size (mcs m pa ia ca ba pc ic cc bc) (mcs_size m pa ia ca ba pc ic cc bc) HX.out
  clear HX0 HB0 hw1
  have c0 : w1.cell? ⟨w.heap.size, 0, none⟩ = some (.int .i64 14) := by rw [← hk]; exact HX.out.cell 0
  have c21 : w1.cell? ⟨w.heap.size, 21, none⟩ = some (.int .i64 m.n) := HX.out.cell 21
  by_cases e2 : inn m.n 0 1125899906842624 = true
  · have HG2 : Hid (0 = g) := by have := HG.out; rw [if_pos e2] at this; exact this
    clear HG
    go_wp2_with (first | (go_at_call 45; refine (rin _ _ _ _ (by first | exact e2) _).mono ?_; rintro e w2 ⟨rfl, rfl⟩))
    go_ret
    exact KP.mk (by rw [← HG2.out]; rfl) HB.out
  · have e2 : inn m.n 0 1125899906842624 = false := by simpa using e2
    have HG2 : Hid (1 = g) := by have := HG.out; rw [if_neg (ff e2)] at this; exact this
    clear HG
    go_wp2_with (first | (go_at_call 45; refine (rin _ _ _ _ (by first | exact e2) _).mono ?_; rintro e w2 ⟨rfl, rfl⟩))
    go_ret
    exact KP.mk (by rw [← HG2.out]; rfl) HB.out
set_option maxHeartbeats 4000000 in
theorem rest15 (m : Mg) (pa ia ca ba : Option Addr) (pc ic cc bc : Nat) (hk : m.k = 15) (w : World)  (g : Nat) (hg : (if amt m.tr = true then if inn m.rate (-1000000) 1000000 = true then dayE C0 m.day else 1 else 1) = g) : Calls Tryz.prog 37 #[.agg (mcs m pa ia ca ba pc ic cc bc)] w (KP (.int .i64 g) w) := by
  have HG : Hid ((if amt m.tr = true then if inn m.rate (-1000000) 1000000 = true then dayE C0 m.day else 1 else 1) = g) := hg
  clear hg
  have HC : Hid (∀ w, Calls Tryz.prog 33 #[.int .i64 m.day] w (NP .i64 (dayE C0 m.day : Nat) w)) := fun w => rday m.day _ rfl w
  generalize dayE C0 m.day = dd at *
  have HX0 : Hid (Bx (w.alloc (.cells (mcs m pa ia ca ba pc ic cc bc) 35)) w.heap.size (mcs m pa ia ca ba pc ic cc bc) 35) := Bx.new _ _ _
  have HB0 : Hid (Below w.heap.size w (w.alloc (.cells (mcs m pa ia ca ba pc ic cc bc) 35))) := below_a w _
  have hsz : (mcs m pa ia ca ba pc ic cc bc).size = 36 := mcs_size m pa ia ca ba pc ic cc bc
  go_enter Tryz.func37, Tryz.ntmps37
  go_upto_region 1 with fail
  generalize hw1 : w.alloc (.cells (mcs m pa ia ca ba pc ic cc bc) 35) = w1 at *
  have HX : Hid (Bx w1 w.heap.size (mcs m pa ia ca ba pc ic cc bc) 35) := HX0.out
  have HB : Hid (Below w.heap.size w w1) := HB0.out
  have HLD : Hid ((Instr.loadAt 35 (.pointer (some ⟨w.heap.size, 0, none⟩))).run Tryz.prog w1 = .ok (.agg (mcs m pa ia ca ba pc ic cc bc)) w1) := hloadAt w1 w.heap.size (mcs m pa ia ca ba pc ic cc bc) (mcs_size m pa ia ca ba pc ic cc bc) HX.out
  clear HX0 HB0 hw1
  have c0 : w1.cell? ⟨w.heap.size, 0, none⟩ = some (.int .i64 15) := by rw [← hk]; exact HX.out.cell 0
  have c33 : w1.cell? ⟨w.heap.size, 33, none⟩ = some (.int .i64 m.tr) := HX.out.cell 33
  have c35 : w1.cell? ⟨w.heap.size, 35, none⟩ = some (.int .i64 m.rate) := HX.out.cell 35
  have c19 : w1.cell? ⟨w.heap.size, 19, none⟩ = some (.int .i64 m.day) := HX.out.cell 19
  by_cases e1 : amt m.tr = true
  · by_cases e2 : inn m.rate (-1000000) 1000000 = true
    · have HG2 : Hid (dd = g) := by have := HG.out; rw [if_pos e1, if_pos e2] at this; exact this
      clear HG
      go_wp2_with (first | (go_at_call 46; refine (ramount _ _ (by first | exact e1) _).mono ?_; rintro e w2 ⟨rfl, rfl⟩) | (go_at_call 45; refine (rin _ _ _ _ (by first | exact e2) _).mono ?_; rintro e w2 ⟨rfl, rfl⟩))
      refine (HC.out _).mono ?_
      rintro e w2 ⟨rfl, rfl⟩
      go_wp2_with fail
      go_ret
      exact KP.mk (by rw [← HG2.out]; rfl) HB.out
    · have e2 : inn m.rate (-1000000) 1000000 = false := by simpa using e2
      have HG2 : Hid (1 = g) := by have := HG.out; rw [if_pos e1, if_neg (ff e2)] at this; exact this
      clear HG
      go_wp2_with (first | (go_at_call 46; refine (ramount _ _ (by first | exact e1) _).mono ?_; rintro e w2 ⟨rfl, rfl⟩) | (go_at_call 45; refine (rin _ _ _ _ (by first | exact e2) _).mono ?_; rintro e w2 ⟨rfl, rfl⟩))
      go_ret
      exact KP.mk (by rw [← HG2.out]; rfl) HB.out
  · have e1 : amt m.tr = false := by simpa using e1
    have HG2 : Hid (1 = g) := by have := HG.out; rw [if_neg (ff e1)] at this; exact this
    clear HG
    go_wp2_with (first | (go_at_call 46; refine (ramount _ _ (by first | exact e1) _).mono ?_; rintro e w2 ⟨rfl, rfl⟩) | (go_at_call 45; refine (rin _ _ _ _ (by first | exact e2) _).mono ?_; rintro e w2 ⟨rfl, rfl⟩))
    go_ret
    exact KP.mk (by rw [← HG2.out]; rfl) HB.out
set_option maxHeartbeats 4000000 in
theorem rest11 (m : Mg) (pa ia ca ba : Option Addr) (pc ic cc bc : Nat) (hk : m.k = 11) (w : World) (hL : Lts w.heap.size w ia m.ins) (hl : m.ins.length ≤ 9223372036854775807) (g : Nat) (hg : (if amt m.tr = true then if decide (m.ins.length ≤ 64) = true then lotsE C0 (m.out :: m.ins) else 1 else 1) = g) : Calls Tryz.prog 37 #[.agg (mcs m pa ia ca ba pc ic cc bc)] w (KP (.int .i64 g) w) := by
  have HG : Hid ((if amt m.tr = true then if decide (m.ins.length ≤ 64) = true then lotsE C0 (m.out :: m.ins) else 1 else 1) = g) := hg
  clear hg
  have HI : Hid (Lts w.heap.size w ia m.ins) := hL
  have HO : Hid (∀ w, Calls Tryz.prog 74 #[.agg #[.string ⟨m.out.i.toArray⟩, .int .i64 m.out.q]] w (KP (.int .i64 (lotE C0 m.out : Nat)) w)) := fun w => rlot m.out _ rfl w
  clear hL
  have HX0 : Hid (Bx (w.alloc (.cells (mcs m pa ia ca ba pc ic cc bc) 35)) w.heap.size (mcs m pa ia ca ba pc ic cc bc) 35) := Bx.new _ _ _
  have HB0 : Hid (Below w.heap.size w (w.alloc (.cells (mcs m pa ia ca ba pc ic cc bc) 35))) := below_a w _
  have hsz : (mcs m pa ia ca ba pc ic cc bc).size = 36 := mcs_size m pa ia ca ba pc ic cc bc
  go_enter Tryz.func37, Tryz.ntmps37
  go_upto_region 1 with fail
  generalize hw1 : w.alloc (.cells (mcs m pa ia ca ba pc ic cc bc) 35) = w1 at *
  have HX : Hid (Bx w1 w.heap.size (mcs m pa ia ca ba pc ic cc bc) 35) := HX0.out
  have HB : Hid (Below w.heap.size w w1) := HB0.out
  have HLD : Hid ((Instr.loadAt 35 (.pointer (some ⟨w.heap.size, 0, none⟩))).run Tryz.prog w1 = .ok (.agg (mcs m pa ia ca ba pc ic cc bc)) w1) := hloadAt w1 w.heap.size (mcs m pa ia ca ba pc ic cc bc) (mcs_size m pa ia ca ba pc ic cc bc) HX.out
  clear HX0 HB0 hw1
  have c0 : w1.cell? ⟨w.heap.size, 0, none⟩ = some (.int .i64 11) := by rw [← hk]; exact HX.out.cell 0
  have c33 : w1.cell? ⟨w.heap.size, 33, none⟩ = some (.int .i64 m.tr) := HX.out.cell 33
  have c32 : w1.cell? ⟨w.heap.size, 32, none⟩ = some (.slice ia m.ins.length ic) := HX.out.cell 32
  have c30 : w1.cell? ⟨w.heap.size, 30, none⟩ = some (.string ⟨m.out.i.toArray⟩) := HX.out.cell 30
  have c31 : w1.cell? ⟨w.heap.size, 31, none⟩ = some (.int .i64 m.out.q) := HX.out.cell 31
  by_cases e2 : amt m.tr = true
  · by_cases e3 : decide (m.ins.length ≤ 64) = true
    · have e3n : ¬ (m.ins.length : Int) > 64 := by have := of_decide_eq_true e3; omega
      have HG1 : Hid (lotsE C0 (m.out :: m.ins) = g) := by have := HG.out; rw [if_pos e2, if_pos e3] at this; exact this
      clear HG
      have HG3 : Hid ((if lotE C0 m.out = 0 then lotsE C0 m.ins else lotE C0 m.out) = g) := HG1.out
      clear HG1
      generalize lotE C0 m.out = lo at *
      go_wp2_with (first | (go_at_call 46; refine (ramount _ _ (by first | exact e2) _).mono ?_; rintro e w2 ⟨rfl, rfl⟩))
      refine (HO.out _).mono ?_
      rintro e w2 ⟨rfl, hb⟩
      have HB2 : Hid (Below w.heap.size w w2) := bt HB.out hb.out
      have HX2 : Hid (Bx w2 w.heap.size (mcs m pa ia ca ba pc ic cc bc) 35) := HX.out.keep hb.out
      clear hb HB HX HLD HO c0 c33 c32 c30 c31
      go_wp2_with fail
      go_loopw [5, 6] (fun ev i wr => ∃ (k e : Nat), i = .int .i64 k ∧ ev = .int .i64 e ∧ k ≤ m.ins.length ∧ Hid ((if e = 0 then lotsE C0 (m.ins.drop k) else e) = g) ∧ Hid (Below w.heap.size w wr ∧ Bx wr w.heap.size (mcs m pa ia ca ba pc ic cc bc) 35)) (fun _ i _ => m.ins.length - (Lib.intOf i).toNat)
      case atStart => exact ⟨0, lo, rfl, rfl, Nat.zero_le _, HG3, HB2.out, HX2.out⟩
      case round =>
        clear HG3 HB2 HX2
        obtain ⟨k, ec, rfl, rfl, hk, HK, HW⟩ := hrel
        have d32 : wr.cell? ⟨w.heap.size, 32, none⟩ = some (.slice ia m.ins.length ic) := HW.out.2.cell 32
        by_cases hkn : k < m.ins.length
        · have hkz : (k : Int) < (m.ins.length : Int) := by omega
          by_cases e5 : ec = 0
          · have z5 : ((ec : Int) == 0) = true := by rw [e5]; rfl
            have HK2 : Hid (lotsE C0 (m.ins.drop k) = g) := by have := HK.out; rw [if_pos e5] at this; exact this
            obtain ⟨b, off, rfl, hbl, hce⟩ := HI.out (by omega)
            have hc1 : wr.cell? ⟨b, off + k * 2, none⟩ = some (.string ⟨m.ins[k].i.toArray⟩) := (HW.out.1.cell (by exact hbl)).trans (hce k hkn).1
            have hc2 : wr.cell? ⟨b, off + k * 2 + 1, none⟩ = some (.int .i64 m.ins[k].q) := (HW.out.1.cell (by exact hbl)).trans (hce k hkn).2
            have HC : Hid (∀ w, Calls Tryz.prog 74 #[.agg #[.string ⟨m.ins[k].i.toArray⟩, .int .i64 m.ins[k].q]] w (KP (.int .i64 (lotE C0 m.ins[k] : Nat)) w)) := fun w => rlot m.ins[k] _ rfl w
            have HK3 : Hid ((if lotE C0 m.ins[k] = 0 then lotsE C0 (m.ins.drop (k + 1)) else lotE C0 m.ins[k]) = g) := by unfold Hid; rw [← lotsE_at hkn]; exact HK2.out
            clear HK HK2 hce e5
            generalize lotE C0 m.ins[k] = lk at *
            generalize (⟨m.ins[k].i.toArray⟩ : ByteArray) = X at *
            generalize m.ins[k].q = q at *
            go_wp2_with fail
            refine (HC.out _).mono ?_
            rintro e w5 ⟨rfl, hb5⟩
            have HB5 : Hid (Below w.heap.size w w5 ∧ Bx w5 w.heap.size (mcs m pa (some ⟨b, off, none⟩) ca ba pc ic cc bc) 35) := ⟨bt HW.out.1 hb5.out, HW.out.2.keep hb5.out⟩
            clear hb5 HW
            go_wp2_with fail
            exact ⟨⟨k + 1, lk, by go_num, rfl, by omega, HK3, HB5.out.1, HB5.out.2⟩, by simp [Lib.intOf]; omega⟩
          · have z5 : ((ec : Int) == 0) = false := by rw [beq_eq_false_iff_ne]; omega
            have HK2 : Hid (ec = g) := by have := HK.out; rw [if_neg e5] at this; exact this
            clear HK e5
            go_wp2_with fail
            go_ret
            exact KP.mk (by rw [← HK2.out]; rfl) HW.out.1
        · have hkz : ¬ (k : Int) < (m.ins.length : Int) := by omega
          have HK2 : Hid (ec = g) := by
            have := HK.out
            rw [List.drop_of_length_le (by omega)] at this
            by_cases e5 : ec = 0
            · rw [if_pos e5] at this; rw [e5]; exact this
            · rw [if_neg e5] at this; exact this
          clear HK
          go_wp2_with fail
          go_ret
          exact KP.mk (by rw [← HK2.out]; rfl) HW.out.1
    · have e3 : decide (m.ins.length ≤ 64) = false := by simpa using e3
      have HG2 : Hid (1 = g) := by have := HG.out; rw [if_pos e2, if_neg (ff e3)] at this; exact this
      clear HG
      have e3n : (m.ins.length : Int) > 64 := by have := of_decide_eq_false e3; omega
      go_wp2_with (first | (go_at_call 46; refine (ramount _ _ (by first | exact e2) _).mono ?_; rintro e w2 ⟨rfl, rfl⟩))
      go_ret
      exact KP.mk (by rw [← HG2.out]; rfl) HB.out
  · have e2 : amt m.tr = false := by simpa using e2
    have HG2 : Hid (1 = g) := by have := HG.out; rw [if_neg (ff e2)] at this; exact this
    clear HG
    go_wp2_with (first | (go_at_call 46; refine (ramount _ _ (by first | exact e2) _).mono ?_; rintro e w2 ⟨rfl, rfl⟩))
    go_ret
    exact KP.mk (by rw [← HG2.out]; rfl) HB.out
end Go.Proofs.YtdmlgheajblcdaaGreat
