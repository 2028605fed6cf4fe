/- layer 11: a ledger of balances -/
import Derived.Test.YtbfnfebmmhhegaaOB
import Derived.Test.YtbfnfebmmhhegaaT
import Derived.Test.YtbfnfebmmhhegaaCH
import Derived.WalkKit
import Derived.ProofKit
import Derived.Handy
import Derived.WalkLawsBesides
import Derived.WalkSpells
import Derived.BigQuiet
import Derived.BigCall
import Derived.Deep.QuietTactic
import Derived.Deep.Light
import Derived.Deep.OwnRows
import Derived.Laws.AppendOwnNone
import Derived.Laws.Strings3
import Derived.Laws.RangeAny
import Derived.Deep.RegionWith
import Derived.Lib.BitFns
import Derived.Lib.Walk
import Derived.Lib.Strings
import Derived.Lib.OthersKept
import Derived.Deep.CutBlock
import Derived.Deep.DeepCutAuto
import Derived.Deep.LoopGhost
import Derived.Deep.RegionHeld3
import Derived.Lib.SmallJoins
import Derived.Maps.AppendAt
import Derived.Laws.IdiomStrings
import Derived.Lib.AppendZeros
import Derived.Deep.WholeRow
import Derived.Laws.BitsAllLaws
import Derived.Lib.ConvBytes
import Derived.Deep.RegionLaw
import Derived.Maps.OwnSet
import Derived.Maps.OwnOps
import Derived.Maps.RangeWalk
import Derived.Maps.Ext
import Derived.DeepKeys4
import Derived.Laws.StructEq
import Derived.Shelf.SlSortCmp.NoneTotal
import Derived.Deep.MidRow
import Derived.Laws.MakeOwn
import Derived.Sort.OwnSorted
import Derived.Lib.SlicesCompact
import Derived.Lib.RowBridge
namespace Go.Proofs.Ytbfnfebmmhhegaa
open Go.RowKit
set_option linter.unusedVariables false
set_option linter.unusedSimpArgs false
set_option maxRecDepth 20000
def OfP (L : List Num.Bal) (w : World) (x : Ending) (w' : World) : Prop := ∃ e : Int, Num.OfR L e ∧ Below w.heap.size w w' ∧ ((e ≠ 0 ∧ x = .returned (.tuple #[.pointer none, .int .i64 e])) ∨ (e = 0 ∧ ∃ q m, x = .returned (.tuple #[.pointer (some ⟨q, 0, none⟩), .int .i64 0]) ∧ w.heap.size ≤ q ∧ w.heap.size ≤ m ∧ Lg w' q m L))
theorem set_next {L : List Num.Bal} {k : Nat} (hk : k < L.length) (h : Num.Pre L (k + 1)) : Num.set (L.take k) L[k].1 L[k].2 = L.take (k + 1) := by
  have g1 := Num.pre_good k (by omega) (fun i hi => h i (by omega))
  have g2 := Num.pre_good (k + 1) hk h
  have e1 := bld_perm g1.srt g1.nz (List.Perm.refl _)
  have e2 := bld_perm g2.srt g2.nz (List.Perm.refl _)
  rw [← List.take_append_getElem hk, bld_app, e1] at e2
  rw [e2, List.take_append_getElem hk]
set_option maxHeartbeats 16000000 in
theorem xofl (L : List Num.Bal) (hl : L.length ≤ 100) (hsz : ∀ p ∈ L, p.1.2.2.length ≤ 281474976710656) (a : Option Addr) (cap : Nat) (w : World) (h : Bs w a L) : Calls Try.prog 55 #[.slice a L.length cap] w (OfP L w) := by
  have HBs : Hid (Bs w a L) := h
  have HNW : Hid (Calls Try.prog 35 #[] w fun e w1 => e = .returned (.pointer (some ⟨w.heap.size + 1, 0, none⟩)) ∧ Hid (Lg w1 (w.heap.size + 1) w.heap.size (L.take 0) ∧ Below w.heap.size w w1)) := (xnew w).mono fun e w1 k => ⟨k.1, k.2.1, k.2.2⟩
  have hl' : (L.length : Int) ≤ 100 := by omega
  clear h
  go_enter Try.func55, Try.ntmps55
  go_wp2_with (go_at_call 35; refine HNW.out.mono ?_; rintro e w1 ⟨rfl, HL1⟩)
  clear HNW
  go_loopw [11] (fun i wr => ∃ k : Nat, k ≤ L.length ∧ i = .int .i64 k ∧ Hid (Lg wr (w.heap.size + 1) w.heap.size (L.take k) ∧ Below w.heap.size w wr ∧ Num.Pre L k))
    (fun i _ => L.length - (intOf i).toNat)
  case atStart => exact ⟨0, Nat.zero_le _, rfl, HL1.out.1, HL1.out.2, Num.Pre.zero L⟩
  case round =>
    obtain ⟨k, hk, rfl, HR⟩ := hrel
    clear HL1
    by_cases hkn : k < L.length
    · have hkz : (k : Int) < (L.length : Int) := by omega
      obtain ⟨blk, off, rfl, hbl, hcs⟩ := HBs.out (by omega)
      have hc4 := hcs k hkn
      have hss := hsz _ (List.getElem_mem hkn)
      obtain ⟨s, hs⟩ : ∃ s, s = S L[k].1.2.2 := ⟨_, rfl⟩
      have hst : s.toList = L[k].1.2.2 := by rw [hs, S_toList]
      have hsl : s.size ≤ 281474976710656 := by rw [hs, S_size]; exact hss
      obtain ⟨o, b, n, ho, hb, hn⟩ : ∃ o b n, o = L[k].1.1 ∧ b = L[k].1.2.1 ∧ n = L[k].2 := ⟨_, _, _, rfl, rfl, rfl⟩
      have hLk : L[k] = ((o, b, s.toList), n) := by rw [ho, hb, hn, hst]
      have hcc (i : Nat) (h : i < 4) : wr.cell? ⟨blk, off + k * 4 + i, none⟩ = _ := (HR.out.2.1.cell (p := ⟨blk, off + k * 4 + i, none⟩) hbl).trans (hc4 i h)
      have c0 : wr.cell? ⟨blk, off + k * 4, none⟩ = some (.int .i64 o) := by rw [ho]; exact hcc 0 (by omega)
      have c1 : wr.cell? ⟨blk, off + k * 4 + 1, none⟩ = some (.int .i64 b) := by rw [hb]; exact hcc 1 (by omega)
      have c2 : wr.cell? ⟨blk, off + k * 4 + 2, none⟩ = some (.string s) := by rw [hs]; exact hcc 2 (by omega)
      have c3 : wr.cell? ⟨blk, off + k * 4 + 3, none⟩ = some (.int .i64 n) := by rw [hn]; exact hcc 3 (by omega)
      obtain ⟨w5, hw5⟩ : ∃ w5, w5 = wr.alloc (.cells #[.int .i64 o, .int .i64 b, .string s, .int .i64 n] 71) := ⟨_, rfl⟩
      have HW5 : Hid (wr.alloc (.cells #[.int .i64 o, .int .i64 b, .string s, .int .i64 n] 71) = w5) := hw5.symm
      have hB5 : Below wr.heap.size wr w5 := by rw [hw5]; exact (Below.refl _ wr).alloc (Nat.le_refl _) _
      have hX5 : Bx w5 wr.heap.size #[.int .i64 o, .int .i64 b, .string s, .int .i64 n] 71 := by rw [hw5]; exact Bx.new wr _ _
      have z0 : w5.cell? ⟨wr.heap.size, 0, none⟩ = some (.int .i64 o) := hX5.cell 0
      have z1 : w5.cell? ⟨wr.heap.size, 1, none⟩ = some (.int .i64 b) := hX5.cell 1
      have z2 : w5.cell? ⟨wr.heap.size, 2, none⟩ = some (.string s) := hX5.cell 2
      have z3 : w5.cell? ⟨wr.heap.size, 3, none⟩ = some (.int .i64 n) := hX5.cell 3
      have hBw5 : Below w.heap.size w w5 := HR.out.2.1.trans (hB5.mono HR.out.2.1.size)
      have hwm : w.heap.size < wr.heap.size := HR.out.1.m.lt
      have hwq : w.heap.size + 1 < wr.heap.size := HR.out.1.b.lt
      by_cases hbw : Num.balw ((o, b, s.toList), n) = 0
      · have HB6 : Hid (Calls Try.prog 67 #[.agg #[.int .i64 o, .int .i64 b, .string s, .int .i64 n]] w5 fun e w6 => e = .returned (.int .i64 0) ∧ Below w5.heap.size w5 w6) := (xbalw o b s n w5).mono fun e w6 kk => ⟨by rw [kk.1, hbw], kk.2⟩
        obtain ⟨hwr0, hn0, -, hnl, hnh⟩ := Num.balw_ok hbw
        simp only at hwr0 hn0 hnl hnh
        -- what is done where nothing is wrong here
        have HPUT : Hid (Num.fltAt L k = 0 → ∀ W, Below w5.heap.size w5 W → Calls Try.prog 69 #[.pointer (some ⟨w.heap.size + 1, 0, none⟩), .agg #[.int .i64 o, .int .i64 b, .string s], .int .i64 n] W fun e w9 => e = .returned (.tuple #[]) ∧ Hid (Lg w9 (w.heap.size + 1) w.heap.size (L.take (k + 1)) ∧ Below w.heap.size w w9 ∧ Num.Pre L (k + 1))) := fun hf W hW => by
          have hpre := HR.out.2.2.succ hf
          have hLW : Lg W (w.heap.size + 1) w.heap.size (L.take k) := (HR.out.1.below hB5).below hW
          have hBW : Below w.heap.size w W := hBw5.trans (hW.mono hBw5.size)
          refine (xput _ _ (L.take k) o b n s W hLW (wa_of hwr0) hsl (WalkArith.wf_i64 (by omega)) (by rw [List.length_take]; unfold maxLen; omega)).mono ?_
          rintro e w9 ⟨rfl, k1, k2⟩
          have e1 := set_next hkn hpre
          rw [hLk] at e1
          simp only at e1
          rw [e1] at k1
          exact ⟨rfl, k1, hBW.grown k2 hBW.size (fun r e => by cases e; exact Nat.le_refl _), hpre⟩
        have HTW : Hid (Num.fltAt L k = 7 → ∀ W, Below w5.heap.size w5 W → OfP L w (.returned (.tuple #[.pointer none, .int .i64 7])) W) := fun hf W hW => ⟨7, .inl ⟨k, hkn, HR.out.2.2, hf, by decide⟩, hBw5.trans (hW.mono hBw5.size), .inl ⟨by decide, rfl⟩⟩
        by_cases hk0 : k = 0
        · have hf : Num.fltAt L k = 0 := by
            subst hk0
            exact Num.fltAt_zero hkn (by rw [hLk]; exact hbw)
          have hk0' : ¬ (0 : Int) < (k : Int) := by omega
          have hk0n : ¬ 0 < k := by omega
          have HP2 : Hid (∀ W, Below w5.heap.size w5 W → Calls Try.prog 69 #[.pointer (some ⟨w.heap.size + 1, 0, none⟩), .agg #[.int .i64 o, .int .i64 b, .string s], .int .i64 n] W fun e w9 => e = .returned (.tuple #[]) ∧ Hid (Lg w9 (w.heap.size + 1) w.heap.size (L.take (k + 1)) ∧ Below w.heap.size w w9 ∧ Num.Pre L (k + 1))) := HPUT.out hf
          have HX6 : Hid (∀ W nq, Below w5.heap.size w5 W → Below w5.heap.size w5 (W.drewN nq)) := fun W nq hW => hW.trans ⟨rfl, rfl, rfl, Nat.le_refl _, fun _ _ => rfl⟩
          have HCx : Hid (∀ W, Below w5.heap.size w5 W → W.cell? ⟨wr.heap.size, 0, none⟩ = some (.int .i64 o) ∧ W.cell? ⟨wr.heap.size, 1, none⟩ = some (.int .i64 b) ∧ W.cell? ⟨wr.heap.size, 2, none⟩ = some (.string s) ∧ W.cell? ⟨wr.heap.size, 3, none⟩ = some (.int .i64 n)) := fun W hW => by
            have hx := hX5.below hW hX5.lt
            exact ⟨hx.cell 0, hx.cell 1, hx.cell 2, hx.cell 3⟩
          clear hc4 hcs hs hst ho hb hn hcc hw5 hB5 hX5 hBw5 HR hbw hwr0 hn0 hnl hnh HPUT HTW hf hss hLk hk0
          go_upto_region 5 with fail
          rw [HW5.out]
          clear HW5
          go_upto_region 8 with (go_at_call 67; refine HB6.out.mono ?_; rintro e w6 ⟨rfl, hb6⟩; obtain ⟨k0, k1, k2, k3⟩ := HCx.out w6 hb6; clear HB6)
          go_quiet (fail)
          go_wp2_with (go_at_call 69; refine (HP2.out _ (HX6.out _ _ hb6)).mono ?_; rintro e w9 ⟨rfl, HZ⟩)
          go_roundw
          case rel => exact ⟨k + 1, by omega, by simp, HZ.out⟩
          case measure => simp [intOf]; omega
        · obtain ⟨j, hj0⟩ : ∃ j, k = j + 1 := ⟨k - 1, by omega⟩
          have hjl : j < L.length := by omega
          have hd4 := hcs j hjl
          obtain ⟨s1, hs1⟩ : ∃ s1, s1 = S L[j].1.2.2 := ⟨_, rfl⟩
          obtain ⟨o1, b1, ho1, hb1⟩ : ∃ o1 b1, o1 = L[j].1.1 ∧ b1 = L[j].1.2.1 := ⟨_, _, rfl, rfl⟩
          have e0 : w.cell? ⟨blk, off + j * 4, none⟩ = some (.int .i64 o1) := by rw [ho1]; exact hd4 0 (by omega)
          have e1 : w.cell? ⟨blk, off + j * 4 + 1, none⟩ = some (.int .i64 b1) := by rw [hb1]; exact hd4 1 (by omega)
          have e2 : w.cell? ⟨blk, off + j * 4 + 2, none⟩ = some (.string s1) := by rw [hs1]; exact hd4 2 (by omega)
          have hst1 : s1.toList = L[j].1.2.2 := by rw [hs1, S_toList]
          have hjn' : (j : Int) < (L.length : Int) := by omega
          have hk1 : (k : Int) - 1 = (j : Int) := by omega
          have hk1' : IntKind.i64.wrap ((k : Int) - 1) = (j : Int) := (Rng.w (x := (k : Int) - 1) (by unfold Rng; omega)).trans hk1
          have hkj : IntKind.i64.wrap (j : Int) = (j : Int) := Rng.w (by unfold Rng; omega)
          have hk0' : (0 : Int) < (k : Int) := by omega
          have hk0n : 0 < k := by omega
          have HOR : Hid (∀ W, Calls Try.prog 68 #[.agg #[.int .i64 o1, .int .i64 b1, .string s1], .agg #[.int .i64 o, .int .i64 b, .string s]] W fun e w' => e = .returned (.int .i64 (ordI o1 b1 s1.toList o b s.toList)) ∧ Below W.heap.size W w') := fun W => (xorder o1 b1 s1 o b s W).mono fun e w' kk => ⟨kk.1, kk.2.below⟩
          have hord : ordI o1 b1 s1.toList o b s.toList < 0 ↔ Num.ahead (o1, b1, s1.toList) (o, b, s.toList) := cfB_lt ((o1, b1, s1.toList), 0) ((o, b, s.toList), 0)
          have hfl : Num.fltAt L k = if Num.aheadB (o1, b1, s1.toList) (o, b, s.toList) = true then 0 else 7 := by
            subst hj0
            rw [Num.fltAt_succ hkn (by rw [hLk]; exact hbw)]
            have a1 : L[j].1 = (o1, b1, s1.toList) := by rw [ho1, hb1, hst1]
            rw [hLk, a1]
          have HCx : Hid (∀ W, Below w5.heap.size w5 W → W.cell? ⟨wr.heap.size, 0, none⟩ = some (.int .i64 o) ∧ W.cell? ⟨wr.heap.size, 1, none⟩ = some (.int .i64 b) ∧ W.cell? ⟨wr.heap.size, 2, none⟩ = some (.string s) ∧ W.cell? ⟨wr.heap.size, 3, none⟩ = some (.int .i64 n)) := fun W hW => by
            have hx := hX5.below hW hX5.lt
            exact ⟨hx.cell 0, hx.cell 1, hx.cell 2, hx.cell 3⟩
          have hxl := hX5.lt
          by_cases hah : Num.ahead (o1, b1, s1.toList) (o, b, s.toList)
          · have hf : Num.fltAt L k = 0 := by rw [hfl, if_pos (Num.aheadB_iff.2 hah)]
            have hR : ¬ 0 ≤ ordI o1 b1 s1.toList o b s.toList := by have := hord.2 hah; omega
            have HP2 : Hid (∀ W, Below w5.heap.size w5 W → Calls Try.prog 69 #[.pointer (some ⟨w.heap.size + 1, 0, none⟩), .agg #[.int .i64 o, .int .i64 b, .string s], .int .i64 n] W fun e w9 => e = .returned (.tuple #[]) ∧ Hid (Lg w9 (w.heap.size + 1) w.heap.size (L.take (k + 1)) ∧ Below w.heap.size w w9 ∧ Num.Pre L (k + 1))) := HPUT.out hf
            generalize ordI o1 b1 s1.toList o b s.toList = RR at *
            have hBw5' : Hid (Below w.heap.size w w5) := hBw5
            clear hc4 hcs hs hst ho hb hn hcc hw5 hB5 hBw5 HR hbw hwr0 hn0 hnl hnh HPUT HTW hf hss hLk hord hfl hah hd4 hs1 ho1 hb1 hst1 hk0 hj0
            go_upto_region 5 with fail
            rw [HW5.out]
            clear HW5
            go_upto_region 8 with (go_at_call 67; refine HB6.out.mono ?_; rintro e w6 ⟨rfl, hb6⟩; clear HB6)
            refine wp_region_held (S := fun W => Below w5.heap.size w5 W) (by kernel_rfl) ?_
            change wpAnyH _ _ _ _ _ 14 #[false, false, false, false, false, false, false, false, false, false, false, false, false, false] _ w6.drew
            have hS0 : Below w5.heap.size w5 w6.drew := hb6.trans ⟨rfl, rfl, rfl, Nat.le_refl _, fun _ _ => rfl⟩
            obtain ⟨v0, hv0⟩ : ∃ v, v = w6.drew := ⟨_, rfl⟩
            rw [← hv0] at hS0 ⊢
            clear hv0
            have hblw : blk < w.heap.size := hbl
            refine takeR (fuel := 13) (i := 0) (v := .int .i64 k) rfl (by kernel_rfl) (by kernel_rfl) (by kernel_rfl) (fun _ _ _ h => h) (Or.inl ⟨rfl, fun W hW => by go_simp⟩) hS0 ?_
            simp only [Act.put, List.setIfInBounds_toArray, List.set_cons_zero, List.set_cons_succ]
            refine takeR (fuel := 12) (i := 1) (v := .bool true) rfl (by kernel_rfl) (by kernel_rfl) (by kernel_rfl) (fun _ _ _ h => h) (Or.inl ⟨rfl, fun W hW => by go_simp⟩) hS0 ?_
            simp only [Act.put, List.setIfInBounds_toArray, List.set_cons_zero, List.set_cons_succ]
            refine takeR (fuel := 11) (i := 2) (v := .bool true) rfl (by kernel_rfl) (by kernel_rfl) (by kernel_rfl) (fun _ _ _ h => h) (Or.inl ⟨rfl, fun W hW => by go_simp⟩) hS0 ?_
            simp only [Act.put, List.setIfInBounds_toArray, List.set_cons_zero, List.set_cons_succ]
            refine takeR (fuel := 10) (i := 3) (v := .slice (some ⟨blk, off, none⟩) L.length cap) rfl (by kernel_rfl) (by kernel_rfl) (by kernel_rfl) (fun _ _ _ h => h) (Or.inl ⟨rfl, fun W hW => by go_simp⟩) hS0 ?_
            simp only [Act.put, List.setIfInBounds_toArray, List.set_cons_zero, List.set_cons_succ]
            refine takeR (fuel := 9) (i := 4) (v := .int .i64 k) rfl (by kernel_rfl) (by kernel_rfl) (by kernel_rfl) (fun _ _ _ h => h) (Or.inl ⟨rfl, fun W hW => by go_simp⟩) hS0 ?_
            simp only [Act.put, List.setIfInBounds_toArray, List.set_cons_zero, List.set_cons_succ]
            refine takeR (fuel := 8) (i := 5) (v := .int .i64 j) rfl (by kernel_rfl) (by kernel_rfl) (by kernel_rfl) (fun _ _ _ h => h) (Or.inl ⟨rfl, fun W hW => by go_simp⟩) hS0 ?_
            simp only [Act.put, List.setIfInBounds_toArray, List.set_cons_zero, List.set_cons_succ]
            refine takeR (fuel := 7) (i := 6) (v := .pointer (some ⟨blk, off + j * 4, none⟩)) rfl (by kernel_rfl) (by kernel_rfl) (by kernel_rfl) (fun _ _ _ h => h) (Or.inl ⟨rfl, fun W hW => by go_simp⟩) hS0 ?_
            simp only [Act.put, List.setIfInBounds_toArray, List.set_cons_zero, List.set_cons_succ]
            refine takeR (fuel := 6) (i := 7) (v := .pointer (some ⟨blk, off + j * 4, none⟩)) rfl (by kernel_rfl) (by kernel_rfl) (by kernel_rfl) (fun _ _ _ h => h) (Or.inl ⟨rfl, fun W hW => by go_simp⟩) hS0 ?_
            simp only [Act.put, List.setIfInBounds_toArray, List.set_cons_zero, List.set_cons_succ]
            refine takeR (fuel := 5) (i := 8) (v := .agg #[.int .i64 o1, .int .i64 b1, .string s1]) rfl (by kernel_rfl) (by kernel_rfl) (by kernel_rfl) (fun _ _ _ h => h) (Or.inl ⟨rfl, fun W hW => exl _ _ _ _ rfl _ _ rfl (load69 W blk (off + j * 4) _ _ _ _ _ rfl rfl (((hBw5'.out.trans (hW.mono hBw5'.out.size)).cell (p := ⟨blk, _, none⟩) hblw).trans e0) (((hBw5'.out.trans (hW.mono hBw5'.out.size)).cell (p := ⟨blk, _, none⟩) hblw).trans e1) (((hBw5'.out.trans (hW.mono hBw5'.out.size)).cell (p := ⟨blk, _, none⟩) hblw).trans e2))⟩) hS0 ?_
            simp only [Act.put, List.setIfInBounds_toArray, List.set_cons_zero, List.set_cons_succ]
            refine takeR (fuel := 4) (i := 9) (v := .pointer (some ⟨wr.heap.size, 0, none⟩)) rfl (by kernel_rfl) (by kernel_rfl) (by kernel_rfl) (fun _ _ _ h => h) (Or.inl ⟨rfl, fun W hW => by go_simp⟩) hS0 ?_
            simp only [Act.put, List.setIfInBounds_toArray, List.set_cons_zero, List.set_cons_succ]
            refine takeR (fuel := 3) (i := 10) (v := .agg #[.int .i64 o, .int .i64 b, .string s]) rfl (by kernel_rfl) (by kernel_rfl) (by kernel_rfl) (fun _ _ _ h => h) (Or.inl ⟨rfl, fun W hW => exl _ _ _ _ rfl _ _ rfl (load69 W wr.heap.size 0 1 2 _ _ _ rfl rfl ((hX5.below hW hxl).cell 0) ((hX5.below hW hxl).cell 1) ((hX5.below hW hxl).cell 2))⟩) hS0 ?_
            simp only [Act.put, List.setIfInBounds_toArray, List.set_cons_zero, List.set_cons_succ]
            refine consR (fuel := 2) (i := 11) rfl (by kernel_rfl) (fun K hK => ?_)
            rw [if_pos (by rfl)]
            go_simp
            refine (HOR.out v0).mono ?_
            rintro e v1 ⟨rfl, hC⟩
            refine hK.out _ _ (hS0.trans (hC.mono hS0.size)) (fun hS1 => ?_)
            clear hK hC
            try simp only [Act.put, List.setIfInBounds_toArray, List.set_cons_zero, List.set_cons_succ]
            refine takeR (fuel := 1) (i := 12) (v := .bool false) rfl (by kernel_rfl) (by kernel_rfl) (by kernel_rfl) (fun _ _ _ h => h) (Or.inl ⟨rfl, fun W hW => by go_simp⟩) hS1 ?_
            simp only [Act.put, List.setIfInBounds_toArray, List.set_cons_zero, List.set_cons_succ]
            refine takeR (fuel := 0) (i := 13) (v := .bool false) rfl (by kernel_rfl) (by kernel_rfl) (by kernel_rfl) (fun _ _ _ h => h) (Or.inl ⟨rfl, fun W hW => by go_simp⟩) hS1 ?_
            simp only [Act.put, List.setIfInBounds_toArray, List.set_cons_zero, List.set_cons_succ]
            refine wpAnyH_done (by kernel_rfl) ?_ _
            obtain ⟨k0, k1, k2, k3⟩ := HCx.out v1 hS1
            go_wp2_with (go_at_call 69; refine (HP2.out _ hS1).mono ?_; rintro e w9 ⟨rfl, HZ⟩)
            go_roundw
            case rel => exact ⟨k + 1, by omega, by simp, HZ.out⟩
            case measure => simp [intOf]; omega
          · have hf : Num.fltAt L k = 7 := by rw [hfl, if_neg (by rw [Num.aheadB_no.2 hah]; decide)]
            have hR : 0 ≤ ordI o1 b1 s1.toList o b s.toList := Int.not_lt.1 (fun hh => hah (hord.1 hh))
            have HT2 : Hid (∀ W, Below w5.heap.size w5 W → OfP L w (.returned (.tuple #[.pointer none, .int .i64 7])) W) := HTW.out hf
            generalize ordI o1 b1 s1.toList o b s.toList = RR at *
            have hBw5' : Hid (Below w.heap.size w w5) := hBw5
            clear hc4 hcs hs hst ho hb hn hcc hw5 hB5 hBw5 HR hbw hwr0 hn0 hnl hnh HPUT HTW hf hss hLk hord hfl hah hd4 hs1 ho1 hb1 hst1 hk0 hj0
            go_upto_region 5 with fail
            rw [HW5.out]
            clear HW5
            go_upto_region 8 with (go_at_call 67; refine HB6.out.mono ?_; rintro e w6 ⟨rfl, hb6⟩; clear HB6)
            refine wp_region_held (S := fun W => Below w5.heap.size w5 W) (by kernel_rfl) ?_
            change wpAnyH _ _ _ _ _ 14 #[false, false, false, false, false, false, false, false, false, false, false, false, false, false] _ w6.drew
            have hS0 : Below w5.heap.size w5 w6.drew := hb6.trans ⟨rfl, rfl, rfl, Nat.le_refl _, fun _ _ => rfl⟩
            obtain ⟨v0, hv0⟩ : ∃ v, v = w6.drew := ⟨_, rfl⟩
            rw [← hv0] at hS0 ⊢
            clear hv0
            have hblw : blk < w.heap.size := hbl
            refine takeR (fuel := 13) (i := 0) (v := .int .i64 k) rfl (by kernel_rfl) (by kernel_rfl) (by kernel_rfl) (fun _ _ _ h => h) (Or.inl ⟨rfl, fun W hW => by go_simp⟩) hS0 ?_
            simp only [Act.put, List.setIfInBounds_toArray, List.set_cons_zero, List.set_cons_succ]
            refine takeR (fuel := 12) (i := 1) (v := .bool true) rfl (by kernel_rfl) (by kernel_rfl) (by kernel_rfl) (fun _ _ _ h => h) (Or.inl ⟨rfl, fun W hW => by go_simp⟩) hS0 ?_
            simp only [Act.put, List.setIfInBounds_toArray, List.set_cons_zero, List.set_cons_succ]
            refine takeR (fuel := 11) (i := 2) (v := .bool true) rfl (by kernel_rfl) (by kernel_rfl) (by kernel_rfl) (fun _ _ _ h => h) (Or.inl ⟨rfl, fun W hW => by go_simp⟩) hS0 ?_
            simp only [Act.put, List.setIfInBounds_toArray, List.set_cons_zero, List.set_cons_succ]
            refine takeR (fuel := 10) (i := 3) (v := .slice (some ⟨blk, off, none⟩) L.length cap) rfl (by kernel_rfl) (by kernel_rfl) (by kernel_rfl) (fun _ _ _ h => h) (Or.inl ⟨rfl, fun W hW => by go_simp⟩) hS0 ?_
            simp only [Act.put, List.setIfInBounds_toArray, List.set_cons_zero, List.set_cons_succ]
            refine takeR (fuel := 9) (i := 4) (v := .int .i64 k) rfl (by kernel_rfl) (by kernel_rfl) (by kernel_rfl) (fun _ _ _ h => h) (Or.inl ⟨rfl, fun W hW => by go_simp⟩) hS0 ?_
            simp only [Act.put, List.setIfInBounds_toArray, List.set_cons_zero, List.set_cons_succ]
            refine takeR (fuel := 8) (i := 5) (v := .int .i64 j) rfl (by kernel_rfl) (by kernel_rfl) (by kernel_rfl) (fun _ _ _ h => h) (Or.inl ⟨rfl, fun W hW => by go_simp⟩) hS0 ?_
            simp only [Act.put, List.setIfInBounds_toArray, List.set_cons_zero, List.set_cons_succ]
            refine takeR (fuel := 7) (i := 6) (v := .pointer (some ⟨blk, off + j * 4, none⟩)) rfl (by kernel_rfl) (by kernel_rfl) (by kernel_rfl) (fun _ _ _ h => h) (Or.inl ⟨rfl, fun W hW => by go_simp⟩) hS0 ?_
            simp only [Act.put, List.setIfInBounds_toArray, List.set_cons_zero, List.set_cons_succ]
            refine takeR (fuel := 6) (i := 7) (v := .pointer (some ⟨blk, off + j * 4, none⟩)) rfl (by kernel_rfl) (by kernel_rfl) (by kernel_rfl) (fun _ _ _ h => h) (Or.inl ⟨rfl, fun W hW => by go_simp⟩) hS0 ?_
            simp only [Act.put, List.setIfInBounds_toArray, List.set_cons_zero, List.set_cons_succ]
            refine takeR (fuel := 5) (i := 8) (v := .agg #[.int .i64 o1, .int .i64 b1, .string s1]) rfl (by kernel_rfl) (by kernel_rfl) (by kernel_rfl) (fun _ _ _ h => h) (Or.inl ⟨rfl, fun W hW => exl _ _ _ _ rfl _ _ rfl (load69 W blk (off + j * 4) _ _ _ _ _ rfl rfl (((hBw5'.out.trans (hW.mono hBw5'.out.size)).cell (p := ⟨blk, _, none⟩) hblw).trans e0) (((hBw5'.out.trans (hW.mono hBw5'.out.size)).cell (p := ⟨blk, _, none⟩) hblw).trans e1) (((hBw5'.out.trans (hW.mono hBw5'.out.size)).cell (p := ⟨blk, _, none⟩) hblw).trans e2))⟩) hS0 ?_
            simp only [Act.put, List.setIfInBounds_toArray, List.set_cons_zero, List.set_cons_succ]
            refine takeR (fuel := 4) (i := 9) (v := .pointer (some ⟨wr.heap.size, 0, none⟩)) rfl (by kernel_rfl) (by kernel_rfl) (by kernel_rfl) (fun _ _ _ h => h) (Or.inl ⟨rfl, fun W hW => by go_simp⟩) hS0 ?_
            simp only [Act.put, List.setIfInBounds_toArray, List.set_cons_zero, List.set_cons_succ]
            refine takeR (fuel := 3) (i := 10) (v := .agg #[.int .i64 o, .int .i64 b, .string s]) rfl (by kernel_rfl) (by kernel_rfl) (by kernel_rfl) (fun _ _ _ h => h) (Or.inl ⟨rfl, fun W hW => exl _ _ _ _ rfl _ _ rfl (load69 W wr.heap.size 0 1 2 _ _ _ rfl rfl ((hX5.below hW hxl).cell 0) ((hX5.below hW hxl).cell 1) ((hX5.below hW hxl).cell 2))⟩) hS0 ?_
            simp only [Act.put, List.setIfInBounds_toArray, List.set_cons_zero, List.set_cons_succ]
            refine consR (fuel := 2) (i := 11) rfl (by kernel_rfl) (fun K hK => ?_)
            rw [if_pos (by rfl)]
            go_simp
            refine (HOR.out v0).mono ?_
            rintro e v1 ⟨rfl, hC⟩
            refine hK.out _ _ (hS0.trans (hC.mono hS0.size)) (fun hS1 => ?_)
            clear hK hC
            try simp only [Act.put, List.setIfInBounds_toArray, List.set_cons_zero, List.set_cons_succ]
            refine takeR (fuel := 1) (i := 12) (v := .bool true) rfl (by kernel_rfl) (by kernel_rfl) (by kernel_rfl) (fun _ _ _ h => h) (Or.inl ⟨rfl, fun W hW => by go_simp⟩) hS1 ?_
            simp only [Act.put, List.setIfInBounds_toArray, List.set_cons_zero, List.set_cons_succ]
            refine takeR (fuel := 0) (i := 13) (v := .bool true) rfl (by kernel_rfl) (by kernel_rfl) (by kernel_rfl) (fun _ _ _ h => h) (Or.inl ⟨rfl, fun W hW => by go_simp⟩) hS1 ?_
            simp only [Act.put, List.setIfInBounds_toArray, List.set_cons_zero, List.set_cons_succ]
            refine wpAnyH_done (by kernel_rfl) ?_ _
            go_wp2_with fail
            go_returns
            exact HT2.out _ hS1
      · have hbw' : (Num.balw ((o, b, s.toList), n) != 0) = true := by simp [hbw]
        have HB6 : Hid (Calls Try.prog 67 #[.agg #[.int .i64 o, .int .i64 b, .string s, .int .i64 n]] w5 fun e w6 => e = .returned (.int .i64 (Num.balw ((o, b, s.toList), n))) ∧ Hid (OfP L w (.returned (.tuple #[.pointer none, .int .i64 (Num.balw ((o, b, s.toList), n))])) w6)) := (xbalw o b s n w5).mono fun e w6 kk => ⟨kk.1, _, .inl ⟨k, hkn, HR.out.2.2, by rw [Num.fltAt_bal hkn (by rw [hLk]; exact hbw), hLk], hbw⟩, hBw5.trans (kk.2.mono hBw5.size), .inl ⟨hbw, rfl⟩⟩
        generalize Num.balw ((o, b, s.toList), n) = FB at *
        clear hc4 hcs hs hst ho hb hn hcc hw5 hB5 hX5 hBw5 HR hbw hss hLk
        go_upto_region 5 with fail
        rw [HW5.out]
        clear HW5
        go_wp2_with (go_at_call 67; refine HB6.out.mono ?_; rintro e w6 ⟨rfl, HF⟩)
        go_returns
        exact HF.out
    · have hkz : ¬ (k : Int) < (L.length : Int) := by omega
      have hpre : Num.Pre L L.length := by
        have e : k = L.length := by omega
        have := HR.out.2.2
        rw [e] at this
        exact this
      have hLg : Lg wr (w.heap.size + 1) w.heap.size L := by
        have := HR.out.1
        rw [List.take_of_length_le (by omega)] at this
        exact this
      have hBw := HR.out.2.1
      have HEV : Hid (Calls Try.prog 70 #[.slice a L.length cap] wr (EvP (Num.evB L) wr)) := xeven L (Num.pre_good_all hpre) hl a cap wr (HBs.out.below hBw)
      cases hev : Num.evB L
      · rw [hev] at HEV
        have HE2 : Hid (Calls Try.prog 70 #[.slice a L.length cap] wr fun e w6 => e = .returned (.bool false) ∧ Hid (OfP L w (.returned (.tuple #[.pointer none, .int .i64 20])) w6)) := HEV.out.mono fun e w6 kk => ⟨kk.1, 20, .inr ⟨hpre, by rw [hev]; rfl⟩, hBw.trans (kk.2.mono hBw.size), .inl ⟨by decide, rfl⟩⟩
        clear HEV HR hpre hLg hBw hev HBs
        go_wp2_with (go_at_call 70; refine HE2.out.mono ?_; rintro e w6 ⟨rfl, HF⟩)
        go_returns
        exact HF.out
      · rw [hev] at HEV
        have HE2 : Hid (Calls Try.prog 70 #[.slice a L.length cap] wr fun e w6 => e = .returned (.bool true) ∧ Hid (OfP L w (.returned (.tuple #[.pointer (some ⟨w.heap.size + 1, 0, none⟩), .int .i64 0])) w6)) := HEV.out.mono fun e w6 kk => ⟨kk.1, 0, .inr ⟨hpre, by rw [hev]; rfl⟩, hBw.trans (kk.2.mono hBw.size), .inr ⟨rfl, _, _, rfl, by omega, Nat.le_refl _, hLg.below kk.2⟩⟩
        clear HEV HR hpre hLg hBw hev HBs
        go_wp2_with (go_at_call 70; refine HE2.out.mono ?_; rintro e w6 ⟨rfl, HF⟩)
        go_returns
        exact HF.out
end Go.Proofs.Ytbfnfebmmhhegaa
