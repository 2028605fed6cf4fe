/- layer 10: what is wrong with a basket, by the program -/
import Derived.Test.YtmjaijpikbdfkaaD
import Derived.WalkKit
import Derived.ProofKit
import Derived.Handy
import Derived.WalkLawsBesides
import Derived.WalkSpells
import Derived.BigQuiet
import Derived.BigCall
import Derived.Deep.QuietTactic
import Derived.Deep.Light
import Derived.Deep.OwnRows
import Derived.Laws.AppendOwnNone
import Derived.Laws.Strings3
import Derived.Laws.RangeAny
import Derived.Deep.RegionWith
import Derived.Lib.BitFns
import Derived.Lib.Walk
import Derived.Lib.Strings
import Derived.Lib.OthersKept
import Derived.Deep.CutBlock
import Derived.Deep.DeepCutAuto
import Derived.Deep.LoopGhost
import Derived.Deep.RegionHeld3
import Derived.Lib.SmallJoins
import Derived.Maps.AppendAt
import Derived.Laws.IdiomStrings
import Derived.Lib.AppendZeros
import Derived.Deep.WholeRow
import Derived.Laws.BitsAllLaws
import Derived.Lib.ConvBytes
import Derived.Deep.RegionLaw
import Derived.Maps.OwnSet
import Derived.Maps.OwnOps
import Derived.Maps.RangeWalk
import Derived.Maps.Ext
import Derived.DeepKeys4
import Derived.Laws.StructEq
import Derived.Deep.MidRow
import Derived.Lib.Bytealg
import Derived.Lib.Overlaps
import Derived.Lib.AppendZerosOnto
import Derived.Laws.MakeOwn
namespace Go.Proofs.Ytmjaijpikbdfkaa
open Go.RowKit
set_option linter.unusedVariables false
set_option linter.unusedSimpArgs false
set_option maxRecDepth 20000
def bkE (C : Cks) (b : Bk) : Nat :=
  if !(inn b.id 1 64 && (amt b.ver && (inn b.rat 0 20 && (inn b.iss 0 1000000 && (inn b.ass 0 1000000 && (decide (1 ≤ b.cuts.length) && (decide (b.cuts.length ≤ 64) && decide (b.bar.length ≤ 64)))))))) then 1
  else if !(decide (0 ≤ b.least) && inn b.most b.least 200000) then 10
  else if !C.cu b.cur then 11
  else if !(b.cuts.all cutB) then 1
  else if !(barB none b.bar) then 1 else 0
theorem len_inn (n : Nat) : inn (n : Int) 1 64 = (decide (1 ≤ n) && decide (n ≤ 64)) := by
  unfold inn
  rw [decide_eq_decide.2 (show (1 : Int) ≤ n ↔ 1 ≤ n by omega), decide_eq_decide.2 (show (n : Int) ≤ 64 ↔ n ≤ 64 by omega)]
theorem ff {b : Bool} (h : b = false) : ¬ b = true := by rw [h]; exact Bool.false_ne_true
theorem bkE_seq (b : Bk) : bkE C0 b = if inn b.id 1 64 = true then if amt b.ver = true then if inn b.rat 0 20 = true then if inn b.iss 0 1000000 = true then if inn b.ass 0 1000000 = true then if inn (b.cuts.length : Int) 1 64 = true then if decide (b.bar.length ≤ 64) = true then if decide (0 ≤ b.least) = true then if inn b.most b.least 200000 = true then if C0.cu b.cur = true then if b.cuts.all cutB = true then if barB none b.bar = true then 0 else 1 else 1 else 11 else 10 else 10 else 1 else 1 else 1 else 1 else 1 else 1 else 1 := by
  rw [len_inn]
  unfold bkE
  cases inn b.id 1 64 with
  | false => rfl
  | true =>
    cases amt b.ver with
    | false => rfl
    | true =>
      cases inn b.rat 0 20 with
      | false => rfl
      | true =>
        cases inn b.iss 0 1000000 with
        | false => rfl
        | true =>
          cases inn b.ass 0 1000000 with
          | false => rfl
          | true =>
            cases decide (1 ≤ b.cuts.length) with
            | false => rfl
            | true =>
              cases decide (b.cuts.length ≤ 64) with
              | false => rfl
              | true =>
                cases decide (b.bar.length ≤ 64) with
                | false => rfl
                | true =>
                  cases decide (0 ≤ b.least) with
                  | false => rfl
                  | true =>
                    cases inn b.most b.least 200000 with
                    | false => rfl
                    | true =>
                      cases C0.cu b.cur with
                      | false => rfl
                      | true =>
                        cases b.cuts.all cutB with
                        | false => rfl
                        | true =>
                          cases barB none b.bar with
                          | false => rfl
                          | true =>
                            rfl
set_option maxHeartbeats 8000000 in
theorem xBasket (b : Bk) (ca ba : Option Addr) (cc bc : Nat) (w : World) (hC : Cts w.heap.size w ca b.cuts) (hI : Ins w.heap.size w ba b.bar) (hlc : b.cuts.length ≤ 9223372036854775807) (hlb : b.bar.length ≤ 9223372036854775807) (g : Nat) (hg : bkE C0 b = g) : Calls Try.prog 42 #[.agg #[.int .i64 b.id, .int .i64 b.ver, .string ⟨b.cur.toArray⟩, .int .i64 b.rat, .int .i64 b.least, .int .i64 b.most, .slice ca b.cuts.length cc, .int .i64 b.iss, .int .i64 b.ass, .slice ba b.bar.length bc]] w (KP (.int .i64 g) w) := by
  have HG : Hid (bkE C0 b = g) := hg
  have HB : Hid (Below w.heap.size w (w.alloc (.cells #[.int .i64 b.id, .int .i64 b.ver, .string ⟨b.cur.toArray⟩, .int .i64 b.rat, .int .i64 b.least, .int .i64 b.most, .slice ca b.cuts.length cc, .int .i64 b.iss, .int .i64 b.ass, .slice ba b.bar.length bc] 25))) := below_a w _
  have HC : Hid (Cts (w.heap.size + 1) (w.alloc (.cells #[.int .i64 b.id, .int .i64 b.ver, .string ⟨b.cur.toArray⟩, .int .i64 b.rat, .int .i64 b.least, .int .i64 b.most, .slice ca b.cuts.length cc, .int .i64 b.iss, .int .i64 b.ass, .slice ba b.bar.length bc] 25)) ca b.cuts) := (hC.keep HB.out).mono (by omega)
  have HI : Hid (Ins (w.heap.size + 1) (w.alloc (.cells #[.int .i64 b.id, .int .i64 b.ver, .string ⟨b.cur.toArray⟩, .int .i64 b.rat, .int .i64 b.least, .int .i64 b.most, .slice ca b.cuts.length cc, .int .i64 b.iss, .int .i64 b.ass, .slice ba b.bar.length bc] 25)) ba b.bar) := (hI.keep HB.out).mono (by omega)
  have hz : (w.alloc (.cells #[.int .i64 b.id, .int .i64 b.ver, .string ⟨b.cur.toArray⟩, .int .i64 b.rat, .int .i64 b.least, .int .i64 b.most, .slice ca b.cuts.length cc, .int .i64 b.iss, .int .i64 b.ass, .slice ba b.bar.length bc] 25)).heap.size = w.heap.size + 1 := by simp
  clear hg hC hI
  go_enter Try.func42, Try.ntmps42
  by_cases e1 : inn b.id 1 64 = true
  · by_cases e2 : amt b.ver = true
    · by_cases e3 : inn b.rat 0 20 = true
      · by_cases e4 : inn b.iss 0 1000000 = true
        · by_cases e5 : inn b.ass 0 1000000 = true
          · by_cases e6 : inn (b.cuts.length : Int) 1 64 = true
            · by_cases e7 : decide (b.bar.length ≤ 64) = true
              · have e7n : ¬ (b.bar.length : Int) > 64 := by have := of_decide_eq_true e7; omega
                by_cases e8 : decide (0 ≤ b.least) = true
                · have e8n : ¬ b.least < 0 := by have := of_decide_eq_true e8; omega
                  by_cases e9 : inn b.most b.least 200000 = true
                  · obtain ⟨e9n, e9m⟩ : ¬ b.most < b.least ∧ ¬ b.most > 200000 := by unfold inn at e9; rw [Bool.and_eq_true, decide_eq_true_iff, decide_eq_true_iff] at e9; omega
                    by_cases ec : C0.cu b.cur = true
                    · go_wp2_with (first | (go_at_call 50; refine (xwithin _ _ _ _ (by first | exact e1 | exact e3 | exact e4 | exact e5 | exact e6) _).mono ?_; rintro e w2 ⟨rfl, rfl⟩) | (go_at_call 51; refine (xnumber _ _ e2 _).mono ?_; rintro e w2 ⟨rfl, rfl⟩) | (go_at_call 52; refine (xrating _ _ e3 _).mono ?_; rintro e w2 ⟨rfl, rfl⟩) | (go_at_call 53; refine (xcur _ _ ec _).mono ?_; rintro e w2 ⟨rfl, rfl⟩))
                      refine (xcuts b.cuts ca cc _ (by rw [hz]; exact HC.out) hlc _ rfl).mono ?_
                      rintro e w2 ⟨rfl, hb⟩
                      have HB2 : Hid (Below w.heap.size w w2) := HB.out.trans (hb.out.mono (by rw [hz]; omega))
                      by_cases ed : b.cuts.all cutB = true
                      · rw [ed]
                        have HI2 : Hid (Ins w2.heap.size w2 ba b.bar) := ((HI.out.mono (by rw [hz]; omega)).keep hb.out).mono hb.out.size
                        have c9 : w2.cell? ⟨w.heap.size, 9, none⟩ = some (.slice ba b.bar.length bc) := (hb.out.cell (by show w.heap.size < _; rw [hz]; omega)).trans ((cell_of_row _ _ 9 _ 25 (0, 0) (heap_alloc_new w _)).trans rfl)
                        clear hb
                        go_wp2_with fail
                        refine (xbarred b.bar ba bc _ HI2.out hlb _ rfl).mono ?_
                        rintro e w3 ⟨rfl, hb3⟩
                        have HB3 : Hid (Below w.heap.size w w3) := HB2.out.trans (hb3.out.mono HB2.out.size)
                        clear hb3
                        by_cases ee : barB none b.bar = true
                        · rw [ee]
                          have HG2 : Hid (0 = g) := by have := HG.out; rw [bkE_seq, if_pos e1, if_pos e2, if_pos e3, if_pos e4, if_pos e5, if_pos e6, if_pos e7, if_pos e8, if_pos e9, if_pos ec, if_pos ed, if_pos ee] at this; exact this
                          clear HG
                          go_wp2_with fail
                          go_ret
                          exact KP.mk (by rw [← HG2.out]; rfl) HB3.out
                        · have ee : barB none b.bar = false := by simpa using ee
                          rw [ee]
                          have HG2 : Hid (1 = g) := by have := HG.out; rw [bkE_seq, if_pos e1, if_pos e2, if_pos e3, if_pos e4, if_pos e5, if_pos e6, if_pos e7, if_pos e8, if_pos e9, if_pos ec, if_pos ed, if_neg (ff ee)] at this; exact this
                          clear HG
                          go_wp2_with fail
                          go_ret
                          exact KP.mk (by rw [← HG2.out]; rfl) HB3.out
                      · have ed : b.cuts.all cutB = false := by simpa using ed
                        rw [ed]
                        have HG2 : Hid (1 = g) := by have := HG.out; rw [bkE_seq, if_pos e1, if_pos e2, if_pos e3, if_pos e4, if_pos e5, if_pos e6, if_pos e7, if_pos e8, if_pos e9, if_pos ec, if_neg (ff ed)] at this; exact this
                        clear HG
                        go_wp2_with fail
                        go_ret
                        exact KP.mk (by rw [← HG2.out]; rfl) HB2.out
                    · have ec : C0.cu b.cur = false := by simpa using ec
                      have HG2 : Hid (11 = g) := by have := HG.out; rw [bkE_seq, if_pos e1, if_pos e2, if_pos e3, if_pos e4, if_pos e5, if_pos e6, if_pos e7, if_pos e8, if_pos e9, if_neg (ff ec)] at this; exact this
                      clear HG
                      go_wp2_with (first | (go_at_call 50; refine (xwithin _ _ _ _ (by first | exact e1 | exact e3 | exact e4 | exact e5 | exact e6) _).mono ?_; rintro e w2 ⟨rfl, rfl⟩) | (go_at_call 51; refine (xnumber _ _ e2 _).mono ?_; rintro e w2 ⟨rfl, rfl⟩) | (go_at_call 52; refine (xrating _ _ e3 _).mono ?_; rintro e w2 ⟨rfl, rfl⟩) | (go_at_call 53; refine (xcur _ _ ec _).mono ?_; rintro e w2 ⟨rfl, rfl⟩))
                      go_ret
                      exact KP.mk (by rw [← HG2.out]; rfl) HB.out
                  · have e9 : inn b.most b.least 200000 = false := by simpa using e9
                    have HG2 : Hid (10 = g) := by have := HG.out; rw [bkE_seq, if_pos e1, if_pos e2, if_pos e3, if_pos e4, if_pos e5, if_pos e6, if_pos e7, if_pos e8, if_neg (ff e9)] at this; exact this
                    clear HG
                    by_cases e9n : b.most < b.least
                    · go_wp2_with (first | (go_at_call 50; refine (xwithin _ _ _ _ (by first | exact e1 | exact e3 | exact e4 | exact e5 | exact e6) _).mono ?_; rintro e w2 ⟨rfl, rfl⟩) | (go_at_call 51; refine (xnumber _ _ e2 _).mono ?_; rintro e w2 ⟨rfl, rfl⟩) | (go_at_call 52; refine (xrating _ _ e3 _).mono ?_; rintro e w2 ⟨rfl, rfl⟩) | (go_at_call 53; refine (xcur _ _ ec _).mono ?_; rintro e w2 ⟨rfl, rfl⟩))
                      go_ret
                      exact KP.mk (by rw [← HG2.out]; rfl) HB.out
                    · have e9m : b.most > 200000 := by unfold inn at e9; rw [Bool.and_eq_false_iff, decide_eq_false_iff_not, decide_eq_false_iff_not] at e9; omega
                      go_wp2_with (first | (go_at_call 50; refine (xwithin _ _ _ _ (by first | exact e1 | exact e3 | exact e4 | exact e5 | exact e6) _).mono ?_; rintro e w2 ⟨rfl, rfl⟩) | (go_at_call 51; refine (xnumber _ _ e2 _).mono ?_; rintro e w2 ⟨rfl, rfl⟩) | (go_at_call 52; refine (xrating _ _ e3 _).mono ?_; rintro e w2 ⟨rfl, rfl⟩) | (go_at_call 53; refine (xcur _ _ ec _).mono ?_; rintro e w2 ⟨rfl, rfl⟩))
                      go_ret
                      exact KP.mk (by rw [← HG2.out]; rfl) HB.out
                · have e8 : decide (0 ≤ b.least) = false := by simpa using e8
                  have HG2 : Hid (10 = g) := by have := HG.out; rw [bkE_seq, if_pos e1, if_pos e2, if_pos e3, if_pos e4, if_pos e5, if_pos e6, if_pos e7, if_neg (ff e8)] at this; exact this
                  clear HG
                  have e8n : b.least < 0 := by have := of_decide_eq_false e8; omega
                  go_wp2_with (first | (go_at_call 50; refine (xwithin _ _ _ _ (by first | exact e1 | exact e3 | exact e4 | exact e5 | exact e6) _).mono ?_; rintro e w2 ⟨rfl, rfl⟩) | (go_at_call 51; refine (xnumber _ _ e2 _).mono ?_; rintro e w2 ⟨rfl, rfl⟩) | (go_at_call 52; refine (xrating _ _ e3 _).mono ?_; rintro e w2 ⟨rfl, rfl⟩) | (go_at_call 53; refine (xcur _ _ ec _).mono ?_; rintro e w2 ⟨rfl, rfl⟩))
                  go_ret
                  exact KP.mk (by rw [← HG2.out]; rfl) HB.out
              · have e7 : decide (b.bar.length ≤ 64) = false := by simpa using e7
                have HG2 : Hid (1 = g) := by have := HG.out; rw [bkE_seq, if_pos e1, if_pos e2, if_pos e3, if_pos e4, if_pos e5, if_pos e6, if_neg (ff e7)] at this; exact this
                clear HG
                have e7n : (b.bar.length : Int) > 64 := by have := of_decide_eq_false e7; omega
                go_wp2_with (first | (go_at_call 50; refine (xwithin _ _ _ _ (by first | exact e1 | exact e3 | exact e4 | exact e5 | exact e6) _).mono ?_; rintro e w2 ⟨rfl, rfl⟩) | (go_at_call 51; refine (xnumber _ _ e2 _).mono ?_; rintro e w2 ⟨rfl, rfl⟩) | (go_at_call 52; refine (xrating _ _ e3 _).mono ?_; rintro e w2 ⟨rfl, rfl⟩) | (go_at_call 53; refine (xcur _ _ ec _).mono ?_; rintro e w2 ⟨rfl, rfl⟩))
                go_ret
                exact KP.mk (by rw [← HG2.out]; rfl) HB.out
            · have e6 : inn (b.cuts.length : Int) 1 64 = false := by simpa using e6
              have HG2 : Hid (1 = g) := by have := HG.out; rw [bkE_seq, if_pos e1, if_pos e2, if_pos e3, if_pos e4, if_pos e5, if_neg (ff e6)] at this; exact this
              clear HG
              go_wp2_with (first | (go_at_call 50; refine (xwithin _ _ _ _ (by first | exact e1 | exact e3 | exact e4 | exact e5 | exact e6) _).mono ?_; rintro e w2 ⟨rfl, rfl⟩) | (go_at_call 51; refine (xnumber _ _ e2 _).mono ?_; rintro e w2 ⟨rfl, rfl⟩) | (go_at_call 52; refine (xrating _ _ e3 _).mono ?_; rintro e w2 ⟨rfl, rfl⟩) | (go_at_call 53; refine (xcur _ _ ec _).mono ?_; rintro e w2 ⟨rfl, rfl⟩))
              go_ret
              exact KP.mk (by rw [← HG2.out]; rfl) HB.out
          · have e5 : inn b.ass 0 1000000 = false := by simpa using e5
            have HG2 : Hid (1 = g) := by have := HG.out; rw [bkE_seq, if_pos e1, if_pos e2, if_pos e3, if_pos e4, if_neg (ff e5)] at this; exact this
            clear HG
            go_wp2_with (first | (go_at_call 50; refine (xwithin _ _ _ _ (by first | exact e1 | exact e3 | exact e4 | exact e5 | exact e6) _).mono ?_; rintro e w2 ⟨rfl, rfl⟩) | (go_at_call 51; refine (xnumber _ _ e2 _).mono ?_; rintro e w2 ⟨rfl, rfl⟩) | (go_at_call 52; refine (xrating _ _ e3 _).mono ?_; rintro e w2 ⟨rfl, rfl⟩) | (go_at_call 53; refine (xcur _ _ ec _).mono ?_; rintro e w2 ⟨rfl, rfl⟩))
            go_ret
            exact KP.mk (by rw [← HG2.out]; rfl) HB.out
        · have e4 : inn b.iss 0 1000000 = false := by simpa using e4
          have HG2 : Hid (1 = g) := by have := HG.out; rw [bkE_seq, if_pos e1, if_pos e2, if_pos e3, if_neg (ff e4)] at this; exact this
          clear HG
          go_wp2_with (first | (go_at_call 50; refine (xwithin _ _ _ _ (by first | exact e1 | exact e3 | exact e4 | exact e5 | exact e6) _).mono ?_; rintro e w2 ⟨rfl, rfl⟩) | (go_at_call 51; refine (xnumber _ _ e2 _).mono ?_; rintro e w2 ⟨rfl, rfl⟩) | (go_at_call 52; refine (xrating _ _ e3 _).mono ?_; rintro e w2 ⟨rfl, rfl⟩) | (go_at_call 53; refine (xcur _ _ ec _).mono ?_; rintro e w2 ⟨rfl, rfl⟩))
          go_ret
          exact KP.mk (by rw [← HG2.out]; rfl) HB.out
      · have e3 : inn b.rat 0 20 = false := by simpa using e3
        have HG2 : Hid (1 = g) := by have := HG.out; rw [bkE_seq, if_pos e1, if_pos e2, if_neg (ff e3)] at this; exact this
        clear HG
        go_wp2_with (first | (go_at_call 50; refine (xwithin _ _ _ _ (by first | exact e1 | exact e3 | exact e4 | exact e5 | exact e6) _).mono ?_; rintro e w2 ⟨rfl, rfl⟩) | (go_at_call 51; refine (xnumber _ _ e2 _).mono ?_; rintro e w2 ⟨rfl, rfl⟩) | (go_at_call 52; refine (xrating _ _ e3 _).mono ?_; rintro e w2 ⟨rfl, rfl⟩) | (go_at_call 53; refine (xcur _ _ ec _).mono ?_; rintro e w2 ⟨rfl, rfl⟩))
        go_ret
        exact KP.mk (by rw [← HG2.out]; rfl) HB.out
    · have e2 : amt b.ver = false := by simpa using e2
      have HG2 : Hid (1 = g) := by have := HG.out; rw [bkE_seq, if_pos e1, if_neg (ff e2)] at this; exact this
      clear HG
      go_wp2_with (first | (go_at_call 50; refine (xwithin _ _ _ _ (by first | exact e1 | exact e3 | exact e4 | exact e5 | exact e6) _).mono ?_; rintro e w2 ⟨rfl, rfl⟩) | (go_at_call 51; refine (xnumber _ _ e2 _).mono ?_; rintro e w2 ⟨rfl, rfl⟩) | (go_at_call 52; refine (xrating _ _ e3 _).mono ?_; rintro e w2 ⟨rfl, rfl⟩) | (go_at_call 53; refine (xcur _ _ ec _).mono ?_; rintro e w2 ⟨rfl, rfl⟩))
      go_ret
      exact KP.mk (by rw [← HG2.out]; rfl) HB.out
  · have e1 : inn b.id 1 64 = false := by simpa using e1
    have HG2 : Hid (1 = g) := by have := HG.out; rw [bkE_seq, if_neg (ff e1)] at this; exact this
    clear HG
    go_wp2_with (first | (go_at_call 50; refine (xwithin _ _ _ _ (by first | exact e1 | exact e3 | exact e4 | exact e5 | exact e6) _).mono ?_; rintro e w2 ⟨rfl, rfl⟩) | (go_at_call 51; refine (xnumber _ _ e2 _).mono ?_; rintro e w2 ⟨rfl, rfl⟩) | (go_at_call 52; refine (xrating _ _ e3 _).mono ?_; rintro e w2 ⟨rfl, rfl⟩) | (go_at_call 53; refine (xcur _ _ ec _).mono ?_; rintro e w2 ⟨rfl, rfl⟩))
    go_ret
    exact KP.mk (by rw [← HG2.out]; rfl) HB.out
end Go.Proofs.Ytmjaijpikbdfkaa
