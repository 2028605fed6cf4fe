/- layer 10: what is wrong with a basket, by the reference; are two the same -/
import Derived.Test.YtheikjjehidagaaQE
import Derived.WalkKit
import Derived.ProofKit
import Derived.Handy
import Derived.WalkLawsBesides
import Derived.WalkSpells
import Derived.BigQuiet
import Derived.BigCall
import Derived.Deep.QuietTactic
import Derived.Deep.Light
import Derived.Deep.OwnRows
import Derived.Laws.AppendOwnNone
import Derived.Laws.Strings3
import Derived.Laws.RangeAny
import Derived.Deep.RegionWith
import Derived.Lib.BitFns
import Derived.Lib.Walk
import Derived.Lib.Strings
import Derived.Lib.OthersKept
import Derived.Deep.CutBlock
import Derived.Deep.DeepCutAuto
import Derived.Deep.LoopGhost
import Derived.Deep.RegionHeld3
import Derived.Lib.SmallJoins
import Derived.Maps.AppendAt
import Derived.Laws.IdiomStrings
import Derived.Lib.AppendZeros
import Derived.Deep.WholeRow
import Derived.Laws.BitsAllLaws
import Derived.Lib.ConvBytes
import Derived.Deep.RegionLaw
import Derived.Maps.OwnSet
import Derived.Maps.OwnOps
import Derived.Maps.RangeWalk
import Derived.Maps.Ext
import Derived.DeepKeys4
import Derived.Laws.StructEq
import Derived.Deep.MidRow
import Derived.Lib.Bytealg
import Derived.Lib.Overlaps
import Derived.Lib.AppendZerosOnto
import Derived.Laws.MakeOwn
namespace Go.Proofs.Ytheikjjehidagaa.H5.N14
open Go.RowKit
set_option linter.unusedVariables false
set_option linter.unusedSimpArgs false
set_option maxRecDepth 20000
theorem bdrw {B : Nat} {a w : World} (h : Below B a w) (n : Nat) : Below B a (w.drewN n) := ⟨h.os, h.tape, h.output, h.size, h.block⟩
theorem rinQ (n a b : Int) (g : Bool) (h : inn n a b = g) (w : World) : Calls Try.prog 50 #[.int .i64 n, .int .i64 a, .int .i64 b] w fun e w' => e = .returned (.bool g) ∧ w' = w := (rin n a b g h w).mono fun _ _ ⟨he, hw⟩ => ⟨he, hw.symm⟩
set_option maxHeartbeats 8000000 in
theorem rBasket (b : Bk) (ca ba : Option Addr) (cc bc : Nat) (w : World) (hC : Cts w.heap.size w ca b.cuts) (hI : Ins w.heap.size w ba b.bar) (hlc : b.cuts.length ≤ 9223372036854775807) (hlb : b.bar.length ≤ 9223372036854775807) (g : Nat) (hg : bkE C0 b = g) : Calls Try.prog 31 #[.agg #[.int .i64 b.id, .int .i64 b.ver, .string ⟨b.cur.toArray⟩, .int .i64 b.rat, .int .i64 b.least, .int .i64 b.most, .slice ca b.cuts.length cc, .int .i64 b.iss, .int .i64 b.ass, .slice ba b.bar.length bc]] w (KP (.int .i64 g) w) := by
  have HG : Hid (bkE C0 b = g) := hg
  have HB : Hid (Below w.heap.size w (w.alloc (.cells #[.int .i64 b.id, .int .i64 b.ver, .string ⟨b.cur.toArray⟩, .int .i64 b.rat, .int .i64 b.least, .int .i64 b.most, .slice ca b.cuts.length cc, .int .i64 b.iss, .int .i64 b.ass, .slice ba b.bar.length bc] 62))) := below_a w _
  have HC : Hid (Cts w.heap.size (w.alloc (.cells #[.int .i64 b.id, .int .i64 b.ver, .string ⟨b.cur.toArray⟩, .int .i64 b.rat, .int .i64 b.least, .int .i64 b.most, .slice ca b.cuts.length cc, .int .i64 b.iss, .int .i64 b.ass, .slice ba b.bar.length bc] 62)) ca b.cuts) := hC.keep HB.out
  have HI : Hid (Ins w.heap.size w ba b.bar) := hI
  have H6 : Hid ((w.alloc (.cells #[.int .i64 b.id, .int .i64 b.ver, .string ⟨b.cur.toArray⟩, .int .i64 b.rat, .int .i64 b.least, .int .i64 b.most, .slice ca b.cuts.length cc, .int .i64 b.iss, .int .i64 b.ass, .slice ba b.bar.length bc] 62)).cell? ⟨w.heap.size, 6, none⟩ = some (.slice ca b.cuts.length cc)) := (cell_of_row _ _ 6 _ 62 (0, 0) (heap_alloc_new w _)).trans rfl
  have H9 : Hid ((w.alloc (.cells #[.int .i64 b.id, .int .i64 b.ver, .string ⟨b.cur.toArray⟩, .int .i64 b.rat, .int .i64 b.least, .int .i64 b.most, .slice ca b.cuts.length cc, .int .i64 b.iss, .int .i64 b.ass, .slice ba b.bar.length bc] 62)).cell? ⟨w.heap.size, 9, none⟩ = some (.slice ba b.bar.length bc)) := (cell_of_row _ _ 9 _ 62 (0, 0) (heap_alloc_new w _)).trans rfl
  clear hg hC hI
  go_enter Try.func31, Try.ntmps31
  by_cases e1 : inn b.id 1 64 = true
  · by_cases e2 : amt b.ver = true
    · by_cases e3 : inn b.rat 0 20 = true
      · by_cases e4 : inn b.iss 0 1000000 = true
        · by_cases e5 : inn b.ass 0 1000000 = true
          · by_cases e6 : inn (b.cuts.length : Int) 1 64 = true
            · by_cases e7 : decide (b.bar.length ≤ 64) = true
              · have e7n : ¬ (b.bar.length : Int) > 64 := by have := of_decide_eq_true e7; omega
                by_cases e8 : decide (0 ≤ b.least) = true
                · have e8n : ¬ b.least < 0 := by have := of_decide_eq_true e8; omega
                  by_cases e9 : inn b.most b.least 200000 = true
                  · by_cases ec : C0.cu b.cur = true
                    · go_wp2_with (first | (go_at_call 50; refine (rin _ _ _ _ (by first | exact e1 | exact e3 | exact e4 | exact e5 | exact e6 | exact e9) _).mono ?_; rintro e w2 ⟨rfl, rfl⟩) | (go_at_call 51; refine (ramount _ _ e2 _).mono ?_; rintro e w2 ⟨rfl, rfl⟩) | (go_at_call 52; refine (rcur _ _ ec _).mono ?_; rintro e w2 ⟨rfl, rfl⟩))
                      generalize w.alloc (.cells #[.int .i64 b.id, .int .i64 b.ver, .string ⟨b.cur.toArray⟩, .int .i64 b.rat, .int .i64 b.least, .int .i64 b.most, .slice ca b.cuts.length cc, .int .i64 b.iss, .int .i64 b.ass, .slice ba b.bar.length bc] 62) = w1 at *
                      go_loopw [3] (fun i wr => ∃ (k : Nat), i = .int .i64 k ∧ k ≤ b.cuts.length ∧ Hid ((b.cuts.drop k).all cutB = b.cuts.all cutB) ∧ wr = w1) (fun i _ => b.cuts.length - (Lib.intOf i).toNat)
                      case atStart => exact ⟨0, rfl, Nat.zero_le _, rfl, rfl⟩
                      case round =>
                        obtain ⟨k, rfl, hk, HK, rfl⟩ := hrel
                        have h6 := H6.out
                        by_cases hkn : k < b.cuts.length
                        · have hkz : (k : Int) < (b.cuts.length : Int) := by omega
                          obtain ⟨q, off, rfl, hbl, hce⟩ := HC.out (by omega)
                          obtain ⟨h1, h2, h3⟩ := hce k hkn
                          have HK2 : Hid ((cutB b.cuts[k] && (b.cuts.drop (k + 1)).all cutB) = b.cuts.all cutB) := by unfold Hid; rw [← all_at hkn]; exact HK.out
                          clear hce HK
                          unfold cutB at HK2
                          generalize b.cuts[k].d = d at *
                          generalize b.cuts[k].r = r at *
                          generalize b.cuts[k].c = c at *
                          by_cases f1 : inn d 0 200000 = true
                          · by_cases f2 : inn r 0 20 = true
                            · by_cases f3 : inn c 0 999999 = true
                              · have HK3 : Hid ((b.cuts.drop (k + 1)).all cutB = b.cuts.all cutB) := by have := HK2.out; rw [f1, f2, f3] at this; exact this
                                clear HK2
                                go_wp2_with (go_at_call 50; refine (rin _ _ _ _ (by first | exact f1 | exact f2 | exact f3) _).mono ?_; rintro e w2 ⟨rfl, rfl⟩)
                                exact ⟨⟨k + 1, by go_num, by omega, HK3, trivial⟩, by simp [Lib.intOf]; omega⟩
                              · have f3 : inn c 0 999999 = false := by simpa using f3
                                have ed : b.cuts.all cutB = false := by have := HK2.out; rw [f1, f2, f3] at this; exact this.symm
                                have HG2 : Hid (1 = g) := by have := HG.out; rw [bkE_seq, if_pos e1, if_pos e2, if_pos e3, if_pos e4, if_pos e5, if_pos e6, if_pos e7, if_pos e8, if_pos e9, if_pos ec, if_neg (ff ed)] at this; exact this
                                clear HG
                                go_wp2_with (go_at_call 50; refine (rin _ _ _ _ (by first | exact f1 | exact f2 | exact f3) _).mono ?_; rintro e w2 ⟨rfl, rfl⟩)
                                go_ret
                                exact KP.mk (by rw [← HG2.out]; rfl) HB.out
                            · have f2 : inn r 0 20 = false := by simpa using f2
                              have ed : b.cuts.all cutB = false := by have := HK2.out; rw [f1, f2] at this; exact this.symm
                              have HG2 : Hid (1 = g) := by have := HG.out; rw [bkE_seq, if_pos e1, if_pos e2, if_pos e3, if_pos e4, if_pos e5, if_pos e6, if_pos e7, if_pos e8, if_pos e9, if_pos ec, if_neg (ff ed)] at this; exact this
                              clear HG
                              go_wp2_with (go_at_call 50; refine (rin _ _ _ _ (by first | exact f1 | exact f2) _).mono ?_; rintro e w2 ⟨rfl, rfl⟩)
                              go_ret
                              exact KP.mk (by rw [← HG2.out]; rfl) HB.out
                          · have f1 : inn d 0 200000 = false := by simpa using f1
                            have ed : b.cuts.all cutB = false := by have := HK2.out; rw [f1] at this; exact this.symm
                            have HG2 : Hid (1 = g) := by have := HG.out; rw [bkE_seq, if_pos e1, if_pos e2, if_pos e3, if_pos e4, if_pos e5, if_pos e6, if_pos e7, if_pos e8, if_pos e9, if_pos ec, if_neg (ff ed)] at this; exact this
                            clear HG
                            go_wp2_with (go_at_call 50; refine (rin _ _ _ _ (by first | exact f1) _).mono ?_; rintro e w2 ⟨rfl, rfl⟩)
                            go_ret
                            exact KP.mk (by rw [← HG2.out]; rfl) HB.out
                        · have hkz : ¬ (k : Int) < (b.cuts.length : Int) := by omega
                          have ed : b.cuts.all cutB = true := by have := HK.out; rw [List.drop_of_length_le (by omega)] at this; exact this.symm
                          clear HK
                          go_wp2_with fail
                          clear h6
                          go_loopw [4] (fun i wr' => ∃ (k : Nat), i = .int .i64 k ∧ k ≤ b.bar.length ∧ Hid (barB (ah b.bar k) (b.bar.drop k) = barB none b.bar) ∧ Hid (Below w.heap.size w wr' ∧ wr'.cell? ⟨w.heap.size, 9, none⟩ = some (.slice ba b.bar.length bc))) (fun i _ => b.bar.length - (Lib.intOf i).toNat)
                          case atStart => exact ⟨0, rfl, Nat.zero_le _, rfl, HB.out, H9.out⟩
                          case round =>
                            clear HB H9
                            obtain ⟨k2, rfl, hk2, HK, HW⟩ := hrel
                            have h9 := HW.out.2
                            have HW2 : Hid (∀ m, Below w.heap.size w (wr.drewN m) ∧ (wr.drewN m).cell? ⟨w.heap.size, 9, none⟩ = some (.slice ba b.bar.length bc)) := fun m => ⟨bdrw HW.out.1 m, HW.out.2⟩
                            by_cases hkn2 : k2 < b.bar.length
                            · have hkz2 : (k2 : Int) < (b.bar.length : Int) := by omega
                              obtain ⟨q, off, rfl, hbl, hce⟩ := (HI.out.keep HW.out.1) (by omega)
                              have HK2 : Hid ((inn b.bar[k2] 0 9999 && (baGo (ah b.bar k2) b.bar[k2] && barB (ah b.bar (k2 + 1)) (b.bar.drop (k2 + 1)))) = barB none b.bar) := by unfold Hid; rw [← barB_at hkn2]; exact HK.out
                              have hc1 := hce k2 hkn2
                              clear HK
                              by_cases f1 : inn b.bar[k2] 0 9999 = true
                              · cases k2 with
                                | zero =>
                                  have HK3 : Hid (barB (ah b.bar 1) (b.bar.drop 1) = barB none b.bar) := by have := HK2.out; rw [f1] at this; exact this
                                  clear HK2 hce
                                  have hc0 : wr.cell? ⟨q, off, none⟩ = some (.int .i64 b.bar[0]) := hc1
                                  generalize b.bar[0] = n at *
                                  go_wp2_with fail
                                  go_quiet ((go_at_call 50; refine Calls.quiet_of_same (rinQ _ _ _ _ f1 _)))
                                  go_wp2_with fail
                                  exact ⟨⟨1, by go_num, by omega, HK3, HW2.out _⟩, by simp [Lib.intOf]; omega⟩
                                | succ j =>
                                  have hc2 : wr.cell? ⟨q, off + j, none⟩ = some (.int .i64 b.bar[j]) := hce j (by omega)
                                  have hp : ah b.bar (j + 1) = some b.bar[j] := List.getElem?_eq_getElem _
                                  have HK3 : Hid ((decide (b.bar[j] < b.bar[j + 1]) && barB (ah b.bar (j + 1 + 1)) (b.bar.drop (j + 1 + 1))) = barB none b.bar) := by have := HK2.out; rw [f1, hp] at this; exact this
                                  clear HK2 hce hp
                                  generalize b.bar[j + 1] = n at *
                                  generalize b.bar[j] = m at *
                                  by_cases f2 : n ≤ m
                                  · have ee : barB none b.bar = false := by have := HK3.out; rw [decide_eq_false (by omega)] at this; exact this.symm
                                    have HG2 : Hid (1 = g) := by have := HG.out; rw [bkE_seq, if_pos e1, if_pos e2, if_pos e3, if_pos e4, if_pos e5, if_pos e6, if_pos e7, if_pos e8, if_pos e9, if_pos ec, if_pos ed, if_neg (ff ee)] at this; exact this
                                    clear HG
                                    clear HK3
                                    go_wp2_with fail
                                    go_quiet ((go_at_call 50; refine Calls.quiet_of_same (rinQ _ _ _ _ f1 _)))
                                    go_wp2_with fail
                                    go_ret
                                    exact KP.mk (by rw [← HG2.out]; rfl) (HW2.out _).1
                                  · have HK4 : Hid (barB (ah b.bar (j + 1 + 1)) (b.bar.drop (j + 1 + 1)) = barB none b.bar) := by have := HK3.out; rw [decide_eq_true (by omega)] at this; exact this
                                    clear HK3
                                    go_wp2_with fail
                                    go_quiet ((go_at_call 50; refine Calls.quiet_of_same (rinQ _ _ _ _ f1 _)))
                                    go_wp2_with fail
                                    exact ⟨⟨j + 1 + 1, by go_num, by omega, HK4, HW2.out _⟩, by simp [Lib.intOf]; omega⟩
                              · have f1 : inn b.bar[k2] 0 9999 = false := by simpa using f1
                                have ee : barB none b.bar = false := by have := HK2.out; rw [f1] at this; exact this.symm
                                have HG2 : Hid (1 = g) := by have := HG.out; rw [bkE_seq, if_pos e1, if_pos e2, if_pos e3, if_pos e4, if_pos e5, if_pos e6, if_pos e7, if_pos e8, if_pos e9, if_pos ec, if_pos ed, if_neg (ff ee)] at this; exact this
                                clear HG
                                clear HK2 hce
                                generalize b.bar[k2] = n at *
                                go_wp2_with fail
                                go_quiet ((go_at_call 50; refine Calls.quiet_of_same (rinQ _ _ _ _ f1 _)))
                                go_wp2_with fail
                                go_ret
                                exact KP.mk (by rw [← HG2.out]; rfl) (HW2.out _).1
                            · have hkz2 : ¬ (k2 : Int) < (b.bar.length : Int) := by omega
                              have ee : barB none b.bar = true := by have := HK.out; rw [List.drop_of_length_le (by omega)] at this; exact this.symm
                              have HG2 : Hid (0 = g) := by have := HG.out; rw [bkE_seq, if_pos e1, if_pos e2, if_pos e3, if_pos e4, if_pos e5, if_pos e6, if_pos e7, if_pos e8, if_pos e9, if_pos ec, if_pos ed, if_pos ee] at this; exact this
                              clear HG HK
                              go_wp2_with fail
                              go_ret
                              exact KP.mk (by rw [← HG2.out]; rfl) HW.out.1
                    · have ec : C0.cu b.cur = false := by simpa using ec
                      have HG2 : Hid (11 = g) := by have := HG.out; rw [bkE_seq, if_pos e1, if_pos e2, if_pos e3, if_pos e4, if_pos e5, if_pos e6, if_pos e7, if_pos e8, if_pos e9, if_neg (ff ec)] at this; exact this
                      clear HG
                      go_wp2_with (first | (go_at_call 50; refine (rin _ _ _ _ (by first | exact e1 | exact e3 | exact e4 | exact e5 | exact e6 | exact e9) _).mono ?_; rintro e w2 ⟨rfl, rfl⟩) | (go_at_call 51; refine (ramount _ _ e2 _).mono ?_; rintro e w2 ⟨rfl, rfl⟩) | (go_at_call 52; refine (rcur _ _ ec _).mono ?_; rintro e w2 ⟨rfl, rfl⟩))
                      go_ret
                      exact KP.mk (by rw [← HG2.out]; rfl) HB.out
                  · have e9 : inn b.most b.least 200000 = false := by simpa using e9
                    have HG2 : Hid (10 = g) := by have := HG.out; rw [bkE_seq, if_pos e1, if_pos e2, if_pos e3, if_pos e4, if_pos e5, if_pos e6, if_pos e7, if_pos e8, if_neg (ff e9)] at this; exact this
                    clear HG
                    go_wp2_with (first | (go_at_call 50; refine (rin _ _ _ _ (by first | exact e1 | exact e3 | exact e4 | exact e5 | exact e6 | exact e9) _).mono ?_; rintro e w2 ⟨rfl, rfl⟩) | (go_at_call 51; refine (ramount _ _ e2 _).mono ?_; rintro e w2 ⟨rfl, rfl⟩) | (go_at_call 52; refine (rcur _ _ ec _).mono ?_; rintro e w2 ⟨rfl, rfl⟩))
                    go_ret
                    exact KP.mk (by rw [← HG2.out]; rfl) HB.out
                · have e8 : decide (0 ≤ b.least) = false := by simpa using e8
                  have HG2 : Hid (10 = g) := by have := HG.out; rw [bkE_seq, if_pos e1, if_pos e2, if_pos e3, if_pos e4, if_pos e5, if_pos e6, if_pos e7, if_neg (ff e8)] at this; exact this
                  clear HG
                  have e8n : b.least < 0 := by have := of_decide_eq_false e8; omega
                  go_wp2_with (first | (go_at_call 50; refine (rin _ _ _ _ (by first | exact e1 | exact e3 | exact e4 | exact e5 | exact e6 | exact e9) _).mono ?_; rintro e w2 ⟨rfl, rfl⟩) | (go_at_call 51; refine (ramount _ _ e2 _).mono ?_; rintro e w2 ⟨rfl, rfl⟩) | (go_at_call 52; refine (rcur _ _ ec _).mono ?_; rintro e w2 ⟨rfl, rfl⟩))
                  go_ret
                  exact KP.mk (by rw [← HG2.out]; rfl) HB.out
              · have e7 : decide (b.bar.length ≤ 64) = false := by simpa using e7
                have HG2 : Hid (1 = g) := by have := HG.out; rw [bkE_seq, if_pos e1, if_pos e2, if_pos e3, if_pos e4, if_pos e5, if_pos e6, if_neg (ff e7)] at this; exact this
                clear HG
                have e7n : (b.bar.length : Int) > 64 := by have := of_decide_eq_false e7; omega
                go_wp2_with (first | (go_at_call 50; refine (rin _ _ _ _ (by first | exact e1 | exact e3 | exact e4 | exact e5 | exact e6 | exact e9) _).mono ?_; rintro e w2 ⟨rfl, rfl⟩) | (go_at_call 51; refine (ramount _ _ e2 _).mono ?_; rintro e w2 ⟨rfl, rfl⟩) | (go_at_call 52; refine (rcur _ _ ec _).mono ?_; rintro e w2 ⟨rfl, rfl⟩))
                go_ret
                exact KP.mk (by rw [← HG2.out]; rfl) HB.out
            · have e6 : inn (b.cuts.length : Int) 1 64 = false := by simpa using e6
              have HG2 : Hid (1 = g) := by have := HG.out; rw [bkE_seq, if_pos e1, if_pos e2, if_pos e3, if_pos e4, if_pos e5, if_neg (ff e6)] at this; exact this
              clear HG
              go_wp2_with (first | (go_at_call 50; refine (rin _ _ _ _ (by first | exact e1 | exact e3 | exact e4 | exact e5 | exact e6 | exact e9) _).mono ?_; rintro e w2 ⟨rfl, rfl⟩) | (go_at_call 51; refine (ramount _ _ e2 _).mono ?_; rintro e w2 ⟨rfl, rfl⟩) | (go_at_call 52; refine (rcur _ _ ec _).mono ?_; rintro e w2 ⟨rfl, rfl⟩))
              go_ret
              exact KP.mk (by rw [← HG2.out]; rfl) HB.out
          · have e5 : inn b.ass 0 1000000 = false := by simpa using e5
            have HG2 : Hid (1 = g) := by have := HG.out; rw [bkE_seq, if_pos e1, if_pos e2, if_pos e3, if_pos e4, if_neg (ff e5)] at this; exact this
            clear HG
            go_wp2_with (first | (go_at_call 50; refine (rin _ _ _ _ (by first | exact e1 | exact e3 | exact e4 | exact e5 | exact e6 | exact e9) _).mono ?_; rintro e w2 ⟨rfl, rfl⟩) | (go_at_call 51; refine (ramount _ _ e2 _).mono ?_; rintro e w2 ⟨rfl, rfl⟩) | (go_at_call 52; refine (rcur _ _ ec _).mono ?_; rintro e w2 ⟨rfl, rfl⟩))
            go_ret
            exact KP.mk (by rw [← HG2.out]; rfl) HB.out
        · have e4 : inn b.iss 0 1000000 = false := by simpa using e4
          have HG2 : Hid (1 = g) := by have := HG.out; rw [bkE_seq, if_pos e1, if_pos e2, if_pos e3, if_neg (ff e4)] at this; exact this
          clear HG
          go_wp2_with (first | (go_at_call 50; refine (rin _ _ _ _ (by first | exact e1 | exact e3 | exact e4 | exact e5 | exact e6 | exact e9) _).mono ?_; rintro e w2 ⟨rfl, rfl⟩) | (go_at_call 51; refine (ramount _ _ e2 _).mono ?_; rintro e w2 ⟨rfl, rfl⟩) | (go_at_call 52; refine (rcur _ _ ec _).mono ?_; rintro e w2 ⟨rfl, rfl⟩))
          go_ret
          exact KP.mk (by rw [← HG2.out]; rfl) HB.out
      · have e3 : inn b.rat 0 20 = false := by simpa using e3
        have HG2 : Hid (1 = g) := by have := HG.out; rw [bkE_seq, if_pos e1, if_pos e2, if_neg (ff e3)] at this; exact this
        clear HG
        go_wp2_with (first | (go_at_call 50; refine (rin _ _ _ _ (by first | exact e1 | exact e3 | exact e4 | exact e5 | exact e6 | exact e9) _).mono ?_; rintro e w2 ⟨rfl, rfl⟩) | (go_at_call 51; refine (ramount _ _ e2 _).mono ?_; rintro e w2 ⟨rfl, rfl⟩) | (go_at_call 52; refine (rcur _ _ ec _).mono ?_; rintro e w2 ⟨rfl, rfl⟩))
        go_ret
        exact KP.mk (by rw [← HG2.out]; rfl) HB.out
    · have e2 : amt b.ver = false := by simpa using e2
      have HG2 : Hid (1 = g) := by have := HG.out; rw [bkE_seq, if_pos e1, if_neg (ff e2)] at this; exact this
      clear HG
      go_wp2_with (first | (go_at_call 50; refine (rin _ _ _ _ (by first | exact e1 | exact e3 | exact e4 | exact e5 | exact e6 | exact e9) _).mono ?_; rintro e w2 ⟨rfl, rfl⟩) | (go_at_call 51; refine (ramount _ _ e2 _).mono ?_; rintro e w2 ⟨rfl, rfl⟩) | (go_at_call 52; refine (rcur _ _ ec _).mono ?_; rintro e w2 ⟨rfl, rfl⟩))
      go_ret
      exact KP.mk (by rw [← HG2.out]; rfl) HB.out
  · have e1 : inn b.id 1 64 = false := by simpa using e1
    have HG2 : Hid (1 = g) := by have := HG.out; rw [bkE_seq, if_neg (ff e1)] at this; exact this
    clear HG
    go_wp2_with (first | (go_at_call 50; refine (rin _ _ _ _ (by first | exact e1 | exact e3 | exact e4 | exact e5 | exact e6 | exact e9) _).mono ?_; rintro e w2 ⟨rfl, rfl⟩) | (go_at_call 51; refine (ramount _ _ e2 _).mono ?_; rintro e w2 ⟨rfl, rfl⟩) | (go_at_call 52; refine (rcur _ _ ec _).mono ?_; rintro e w2 ⟨rfl, rfl⟩))
    go_ret
    exact KP.mk (by rw [← HG2.out]; rfl) HB.out
end Go.Proofs.Ytheikjjehidagaa.H5.N14
