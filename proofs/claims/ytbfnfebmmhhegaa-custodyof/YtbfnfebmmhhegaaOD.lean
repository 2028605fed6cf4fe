/- layer 11: the document: a ledger of balances -/
import Derived.Test.YtbfnfebmmhhegaaOB
import Derived.Test.YtbfnfebmmhhegaaAG
import Derived.Test.YtbfnfebmmhhegaaCI
import Derived.WalkKit
import Derived.ProofKit
import Derived.Handy
import Derived.WalkLawsBesides
import Derived.WalkSpells
import Derived.BigQuiet
import Derived.BigCall
import Derived.Deep.QuietTactic
import Derived.Deep.Light
import Derived.Deep.OwnRows
import Derived.Laws.AppendOwnNone
import Derived.Laws.Strings3
import Derived.Laws.RangeAny
import Derived.Deep.RegionWith
import Derived.Lib.BitFns
import Derived.Lib.Walk
import Derived.Lib.Strings
import Derived.Lib.OthersKept
import Derived.Deep.CutBlock
import Derived.Deep.DeepCutAuto
import Derived.Deep.LoopGhost
import Derived.Deep.RegionHeld3
import Derived.Lib.SmallJoins
import Derived.Maps.AppendAt
import Derived.Laws.IdiomStrings
import Derived.Lib.AppendZeros
import Derived.Deep.WholeRow
import Derived.Laws.BitsAllLaws
import Derived.Lib.ConvBytes
import Derived.Deep.RegionLaw
import Derived.Maps.OwnSet
import Derived.Maps.OwnOps
import Derived.Maps.RangeWalk
import Derived.Maps.Ext
import Derived.DeepKeys4
import Derived.Laws.StructEq
import Derived.Shelf.SlSortCmp.NoneTotal
import Derived.Deep.MidRow
import Derived.Laws.MakeOwn
import Derived.Sort.OwnSorted
import Derived.Lib.SlicesCompact
import Derived.Lib.RowBridge
namespace Go.Proofs.Ytbfnfebmmhhegaa
open Go.RowKit
set_option linter.unusedVariables false
set_option linter.unusedSimpArgs false
set_option maxRecDepth 20000
def RoP (L : List Num.Bal) (w : World) (x : Ending) (w' : World) : Prop := ∃ e : Int, Num.OfR L e ∧ Below w.heap.size w w' ∧ x = .returned (.int .i64 e)
theorem ev_odd {L : List Num.Bal} {i : Nat} (h : i < L.length) (hv : Num.tot L[i].1.2.2 L ≠ 0) : Num.evB L = false := by
  by_cases hb : Num.evB L = true
  · have := List.all_eq_true.1 hb _ (List.getElem_mem h)
    simp only [beq_iff_eq] at this
    exact absurd this hv
  · simpa using hb
theorem ev_all {L : List Num.Bal} (h : ∀ j (hj : j < L.length), Num.tot L[j].1.2.2 L = 0) : Num.evB L = true := by
  refine List.all_eq_true.2 fun p hp => ?_
  obtain ⟨i, hi, rfl⟩ := List.getElem_of_mem hp
  rw [h i hi]
  rfl
theorem tot_take (t : List UInt8) {L : List Num.Bal} {k : Nat} (h : k < L.length) : Num.tot t (L.take (k + 1)) = Num.tot t (L.take k) + (if L[k].1.2.2 = t then L[k].2 else 0) := by
  rw [← List.take_append_getElem h, Num.tot_append]
  simp [Num.tot]
set_option maxHeartbeats 32000000 in
theorem rofl (L : List Num.Bal) (hl : L.length ≤ 100) (a : Option Addr) (cap : Nat) (w : World) (h : Bs w a L) : Calls Try.prog 56 #[.slice a L.length cap] w (RoP L w) := by
  have HBs : Hid (Bs w a L) := h
  have hl' : (L.length : Int) ≤ 100 := by omega
  clear h
  go_enter Try.func56, Try.ntmps56
  go_wp2_with fail
  go_loopw [3] (fun i wr => ∃ k : Nat, k ≤ L.length ∧ i = .int .i64 k ∧ Hid (Below w.heap.size w wr ∧ Num.Pre L k))
    (fun i _ => L.length - (intOf i).toNat)
  case atStart => exact ⟨0, Nat.zero_le _, rfl, Below.refl _ _, Num.Pre.zero L⟩
  case round =>
    obtain ⟨k, hk, rfl, HR⟩ := hrel
    by_cases hkn : k < L.length
    · have hkz : (k : Int) < (L.length : Int) := by omega
      obtain ⟨blk, off, rfl, hbl, hcs⟩ := HBs.out (by omega)
      have hc4 := hcs k hkn
      obtain ⟨s, hs⟩ : ∃ s, s = S L[k].1.2.2 := ⟨_, rfl⟩
      have hst : s.toList = L[k].1.2.2 := by rw [hs, S_toList]
      obtain ⟨o, b, n, ho, hb, hn⟩ : ∃ o b n, o = L[k].1.1 ∧ b = L[k].1.2.1 ∧ n = L[k].2 := ⟨_, _, _, rfl, rfl, rfl⟩
      have hLk : L[k] = ((o, b, s.toList), n) := by rw [ho, hb, hn, hst]
      have hcc (i : Nat) (h : i < 4) : wr.cell? ⟨blk, off + k * 4 + i, none⟩ = _ := (HR.out.1.cell (p := ⟨blk, off + k * 4 + i, none⟩) hbl).trans (hc4 i h)
      have c0 : wr.cell? ⟨blk, off + k * 4, none⟩ = some (.int .i64 o) := by rw [ho]; exact hcc 0 (by omega)
      have c1 : wr.cell? ⟨blk, off + k * 4 + 1, none⟩ = some (.int .i64 b) := by rw [hb]; exact hcc 1 (by omega)
      have c2 : wr.cell? ⟨blk, off + k * 4 + 2, none⟩ = some (.string s) := by rw [hs]; exact hcc 2 (by omega)
      have c3 : wr.cell? ⟨blk, off + k * 4 + 3, none⟩ = some (.int .i64 n) := by rw [hn]; exact hcc 3 (by omega)
      have hblr : blk < wr.heap.size := Nat.lt_of_lt_of_le hbl HR.out.1.size
      obtain ⟨w5, hw5⟩ : ∃ w5, w5 = (wr.alloc (.cells #[.int .i64 o, .int .i64 b, .string s] 40)).drew := ⟨_, rfl⟩
      have HW5 : Hid ((wr.alloc (.cells #[.int .i64 o, .int .i64 b, .string s] 40)).drew = w5) := hw5.symm
      have hB5 : Below wr.heap.size wr w5 := by rw [hw5]; exact ((Below.refl _ wr).alloc (Nat.le_refl _) _).trans ⟨rfl, rfl, rfl, Nat.le_refl _, fun _ _ => rfl⟩
      have hX5 : Bx w5 wr.heap.size #[.int .i64 o, .int .i64 b, .string s] 40 := by rw [hw5]; exact (Bx.new wr _ _).kept (grown_drew _ none) (by simp)
      have hBw5 : Below w.heap.size w w5 := HR.out.1.trans (hB5.mono HR.out.1.size)
      have hxl := hX5.lt
      have HCx : Hid (∀ W, Below w5.heap.size w5 W → W.cell? ⟨wr.heap.size, 0, none⟩ = some (.int .i64 o) ∧ W.cell? ⟨wr.heap.size, 1, none⟩ = some (.int .i64 b) ∧ W.cell? ⟨wr.heap.size, 2, none⟩ = some (.string s)) := fun W hW => by
        have hx := hX5.below hW hxl
        exact ⟨hx.cell 0, hx.cell 1, hx.cell 2⟩
      obtain ⟨z0, z1, z2⟩ := HCx.out w5 (Below.refl _ _)
      have HWR : Hid (∀ W, Below w5.heap.size w5 W → Calls Try.prog 71 #[.agg #[.int .i64 o, .int .i64 b, .string s]] W fun e w6 => e = .returned (.int .i64 (Num.wr (o, b, s.toList))) ∧ (w6.cell? ⟨wr.heap.size, 0, none⟩ = some (.int .i64 o) ∧ w6.cell? ⟨wr.heap.size, 1, none⟩ = some (.int .i64 b) ∧ w6.cell? ⟨wr.heap.size, 2, none⟩ = some (.string s)) ∧ Hid (Below w5.heap.size w5 w6)) := fun W hW => (rwrong o b s W).mono fun e w6 kk => by
        have hb6 : Below w5.heap.size w5 w6 := by rw [kk.2]; exact hW.alloc hW.size _
        exact ⟨kk.1, HCx.out w6 hb6, hb6⟩
      have HBAD : Hid (∀ e, Num.balw ((o, b, s.toList), n) = e → e ≠ 0 → ∀ W, Below w5.heap.size w5 W → RoP L w (.returned (.int .i64 e)) W) := fun e he hne W hW => ⟨e, .inl ⟨k, hkn, HR.out.2, by rw [Num.fltAt_bal hkn (by rw [hLk, he]; exact hne), hLk, he], hne⟩, hBw5.trans (hW.mono hBw5.size), rfl⟩
      by_cases hwr : Num.wr (o, b, s.toList) = 0
      · have how := (Num.wr_ok.1 hwr).1
        simp only at how
        rw [hwr] at HWR
        by_cases hn0 : n = 0
        · have hq : (n == 0) = true := by simp [hn0]
          have HB2 : Hid (∀ W, Below w5.heap.size w5 W → RoP L w (.returned (.int .i64 1)) W) := HBAD.out 1 (balw_one hwr (.inl hn0)) (by decide)
          clear hc4 hcs hs hst ho hb hn hcc hw5 hB5 hX5 hBw5 HR hwr hLk HBAD how hn0
          go_upto_region 4 with fail
          go_region
          rw [HW5.out]
          clear HW5
          go_wp2_with (go_at_call 71; refine (HWR.out _ (Below.refl _ _)).mono ?_; rintro e w6 ⟨rfl, ⟨k0, k1, k2⟩, hb6⟩)
          go_ret
          exact HB2.out _ hb6.out
        by_cases hneg : n < 0 ∧ 0 < o
        · have hq : (n == 0) = false := by simp [hn0]
          have hq1 : n < 0 := hneg.1
          have hq2 : 0 < o := hneg.2
          have HB2 : Hid (∀ W, Below w5.heap.size w5 W → RoP L w (.returned (.int .i64 1)) W) := HBAD.out 1 (balw_one hwr (.inr (.inl hneg))) (by decide)
          clear hc4 hcs hs hst ho hb hn hcc hw5 hB5 hX5 hBw5 HR hwr hLk HBAD how hneg hn0
          go_upto_region 4 with fail
          go_region
          rw [HW5.out]
          clear HW5
          go_wp2_with (go_at_call 71; refine (HWR.out _ (Below.refl _ _)).mono ?_; rintro e w6 ⟨rfl, ⟨k0, k1, k2⟩, hb6⟩)
          go_ret
          exact HB2.out _ hb6.out
        by_cases hhi : 72057594037927936 < n
        · have hq : (n == 0) = false := by simp [hn0]
          have hq1 : ¬ n < 0 := by omega
          have hq3 : 72057594037927936 < n := hhi
          have HB2 : Hid (∀ W, Below w5.heap.size w5 W → RoP L w (.returned (.int .i64 1)) W) := HBAD.out 1 (balw_one hwr (.inr (.inr (.inr hhi)))) (by decide)
          clear hc4 hcs hs hst ho hb hn hcc hw5 hB5 hX5 hBw5 HR hwr hLk HBAD how hhi hn0 hneg
          go_upto_region 4 with fail
          go_region
          rw [HW5.out]
          clear HW5
          go_wp2_with (go_at_call 71; refine (HWR.out _ (Below.refl _ _)).mono ?_; rintro e w6 ⟨rfl, ⟨k0, k1, k2⟩, hb6⟩)
          go_ret
          exact HB2.out _ hb6.out
        by_cases hlo : n < -72057594037927936
        · have hq : (n == 0) = false := by simp [hn0]
          have hq1 : n < 0 := by omega
          have hq2 : ¬ 0 < o := by omega
          have hq3 : ¬ 72057594037927936 < n := by omega
          have hq4 : n < -72057594037927936 := hlo
          have HB2 : Hid (∀ W, Below w5.heap.size w5 W → RoP L w (.returned (.int .i64 1)) W) := HBAD.out 1 (balw_one hwr (.inr (.inr (.inl hlo)))) (by decide)
          clear hc4 hcs hs hst ho hb hn hcc hw5 hB5 hX5 hBw5 HR hwr hLk HBAD how hlo hn0 hneg hhi
          go_upto_region 4 with fail
          go_region
          rw [HW5.out]
          clear HW5
          go_wp2_with (go_at_call 71; refine (HWR.out _ (Below.refl _ _)).mono ?_; rintro e w6 ⟨rfl, ⟨k0, k1, k2⟩, hb6⟩)
          go_ret
          exact HB2.out _ hb6.out
        by_cases hng : n < 0
        · have hq : (n == 0) = false := by simp [hn0]
          have hq3 : ¬ 72057594037927936 < n := hhi
          have hq4 : ¬ n < -72057594037927936 := hlo
          have hq1 : n < 0 := hng
          have hq2 : ¬ 0 < o := by omega
          have hbw : Num.balw ((o, b, s.toList), n) = 0 := balw_zero hwr (by omega)
          have HTW : Hid (Num.fltAt L k = 7 → ∀ W, Below w5.heap.size w5 W → RoP L w (.returned (.int .i64 7)) W) := fun hf W hW => ⟨7, .inl ⟨k, hkn, HR.out.2, hf, by decide⟩, hBw5.trans (hW.mono hBw5.size), rfl⟩
          have HNX : Hid (Num.fltAt L k = 0 → ∀ W, Below w5.heap.size w5 W → Below w.heap.size w W ∧ Num.Pre L (k + 1)) := fun hf W hW => ⟨hBw5.trans (hW.mono hBw5.size), HR.out.2.succ hf⟩
          by_cases hk0 : k = 0
          · have hf : Num.fltAt L k = 0 := by
              subst hk0
              exact Num.fltAt_zero hkn (by rw [hLk]; exact hbw)
            have HN2 : Hid (∀ W, Below w5.heap.size w5 W → Below w.heap.size w W ∧ Num.Pre L (k + 1)) := HNX.out hf
            have HDR : Hid (∀ W nq, Below w5.heap.size w5 W → Below w5.heap.size w5 (W.drewN nq)) := fun W nq hW => hW.trans ⟨rfl, rfl, rfl, Nat.le_refl _, fun _ _ => rfl⟩
            have hk0' : ¬ (0 : Int) < (k : Int) := by omega
            have hk0n : ¬ 0 < k := by omega
            clear hc4 hcs hs hst ho hb hn hcc hw5 hB5 hX5 hBw5 HR hwr hLk HBAD hbw HTW HNX hn0 how hneg hk0 hf hng hhi hlo
            go_upto_region 4 with fail
            go_region
            rw [HW5.out]
            clear HW5
            go_upto_region 9 with (go_at_call 71; refine (HWR.out _ (Below.refl _ _)).mono ?_; rintro e w6 ⟨rfl, ⟨k0, k1, k2⟩, hb6⟩)
            go_quiet (fail)
            go_wp2_with fail
            go_roundw
            case rel => exact ⟨k + 1, by omega, by simp, HN2.out _ (HDR.out _ _ hb6.out)⟩
            case measure => simp [intOf]; omega
          · obtain ⟨j, hj0⟩ : ∃ j, k = j + 1 := ⟨k - 1, by omega⟩
            have hjl : j < L.length := by omega
            have hd4 := hcs j hjl
            obtain ⟨s1, hs1⟩ : ∃ s1, s1 = S L[j].1.2.2 := ⟨_, rfl⟩
            obtain ⟨o1, b1, ho1, hb1⟩ : ∃ o1 b1, o1 = L[j].1.1 ∧ b1 = L[j].1.2.1 := ⟨_, _, rfl, rfl⟩
            have e0 : w.cell? ⟨blk, off + j * 4, none⟩ = some (.int .i64 o1) := by rw [ho1]; exact hd4 0 (by omega)
            have e1 : w.cell? ⟨blk, off + j * 4 + 1, none⟩ = some (.int .i64 b1) := by rw [hb1]; exact hd4 1 (by omega)
            have e2 : w.cell? ⟨blk, off + j * 4 + 2, none⟩ = some (.string s1) := by rw [hs1]; exact hd4 2 (by omega)
            have hst1 : s1.toList = L[j].1.2.2 := by rw [hs1, S_toList]
            have hjn' : (j : Int) < (L.length : Int) := by omega
            have hk1 : (k : Int) - 1 = (j : Int) := by omega
            have hkj : IntKind.i64.wrap (j : Int) = (j : Int) := Rng.w (by unfold Rng; omega)
            have hk0' : (0 : Int) < (k : Int) := by omega
            have hk0n : 0 < k := by omega
            have HAH : Hid (∀ W, Calls Try.prog 72 #[.agg #[.int .i64 o1, .int .i64 b1, .string s1], .agg #[.int .i64 o, .int .i64 b, .string s]] W fun e w' => e = .returned (.bool (Num.aheadB (o1, b1, s1.toList) (o, b, s.toList))) ∧ Below W.heap.size W w') := fun W => rahead o1 b1 s1 o b s W
            have hfl : Num.fltAt L k = if Num.aheadB (o1, b1, s1.toList) (o, b, s.toList) = true then 0 else 7 := by
              subst hj0
              rw [Num.fltAt_succ hkn (by rw [hLk]; exact hbw)]
              have a1 : L[j].1 = (o1, b1, s1.toList) := by rw [ho1, hb1, hst1]
              rw [hLk, a1]
            generalize Num.aheadB (o1, b1, s1.toList) (o, b, s.toList) = AB at *
            cases AB
            · have HT2 : Hid (∀ W, Below w5.heap.size w5 W → RoP L w (.returned (.int .i64 7)) W) := HTW.out (by rw [hfl]; rfl)
              have hBw5' : Hid (Below w.heap.size w w5) := hBw5
              clear hc4 hcs hs hst ho hb hn hcc hw5 hB5 hBw5 HR hwr hLk HBAD hbw HTW HNX hn0 how hfl hd4 hs1 ho1 hb1 hst1 hk0 hj0 hneg hng hhi hlo
              go_upto_region 4 with fail
              go_region
              rw [HW5.out]
              clear HW5
              go_upto_region 9 with (go_at_call 71; refine (HWR.out _ (Below.refl _ _)).mono ?_; rintro e w6 ⟨rfl, ⟨k0, k1, k2⟩, hb6⟩)
              refine wp_region_held (S := fun W => Below w5.heap.size w5 W) (by kernel_rfl) ?_
              change wpAnyH _ _ _ _ _ 13 #[false, false, false, false, false, false, false, false, false, false, false, false, false] _ w6.drew
              have hS0 : Below w5.heap.size w5 w6.drew := hb6.out.trans ⟨rfl, rfl, rfl, Nat.le_refl _, fun _ _ => rfl⟩
              obtain ⟨v0, hv0⟩ : ∃ v, v = w6.drew := ⟨_, rfl⟩
              rw [← hv0] at hS0 ⊢
              clear hv0
              refine takeR (fuel := 12) (i := 0) (v := .int .i64 k) rfl (by kernel_rfl) (by kernel_rfl) (by kernel_rfl) (fun _ _ _ h => h) (Or.inl ⟨rfl, fun W hW => by go_simp⟩) hS0 ?_
              simp only [Act.put, List.setIfInBounds_toArray, List.set_cons_zero, List.set_cons_succ]
              refine takeR (fuel := 11) (i := 1) (v := .bool true) rfl (by kernel_rfl) (by kernel_rfl) (by kernel_rfl) (fun _ _ _ h => h) (Or.inl ⟨rfl, fun W hW => by go_simp⟩) hS0 ?_
              simp only [Act.put, List.setIfInBounds_toArray, List.set_cons_zero, List.set_cons_succ]
              refine takeR (fuel := 10) (i := 2) (v := .bool true) rfl (by kernel_rfl) (by kernel_rfl) (by kernel_rfl) (fun _ _ _ h => h) (Or.inl ⟨rfl, fun W hW => by go_simp⟩) hS0 ?_
              simp only [Act.put, List.setIfInBounds_toArray, List.set_cons_zero, List.set_cons_succ]
              refine takeR (fuel := 9) (i := 3) (v := .slice (some ⟨blk, off, none⟩) L.length cap) rfl (by kernel_rfl) (by kernel_rfl) (by kernel_rfl) (fun _ _ _ h => h) (Or.inl ⟨rfl, fun W hW => by go_simp⟩) hS0 ?_
              simp only [Act.put, List.setIfInBounds_toArray, List.set_cons_zero, List.set_cons_succ]
              refine takeR (fuel := 8) (i := 4) (v := .int .i64 k) rfl (by kernel_rfl) (by kernel_rfl) (by kernel_rfl) (fun _ _ _ h => h) (Or.inl ⟨rfl, fun W hW => by go_simp⟩) hS0 ?_
              simp only [Act.put, List.setIfInBounds_toArray, List.set_cons_zero, List.set_cons_succ]
              refine takeR (fuel := 7) (i := 5) (v := .int .i64 j) rfl (by kernel_rfl) (by kernel_rfl) (by kernel_rfl) (fun _ _ _ h => h) (Or.inl ⟨rfl, fun W hW => by go_simp⟩) hS0 ?_
              simp only [Act.put, List.setIfInBounds_toArray, List.set_cons_zero, List.set_cons_succ]
              refine takeR (fuel := 6) (i := 6) (v := .pointer (some ⟨blk, off + j * 4, none⟩)) rfl (by kernel_rfl) (by kernel_rfl) (by kernel_rfl) (fun _ _ _ h => h) (Or.inl ⟨rfl, fun W hW => by go_simp⟩) hS0 ?_
              simp only [Act.put, List.setIfInBounds_toArray, List.set_cons_zero, List.set_cons_succ]
              refine takeR (fuel := 5) (i := 7) (v := .pointer (some ⟨blk, off + j * 4, none⟩)) rfl (by kernel_rfl) (by kernel_rfl) (by kernel_rfl) (fun _ _ _ h => h) (Or.inl ⟨rfl, fun W hW => by go_simp⟩) hS0 ?_
              simp only [Act.put, List.setIfInBounds_toArray, List.set_cons_zero, List.set_cons_succ]
              refine takeR (fuel := 4) (i := 8) (v := .agg #[.int .i64 o1, .int .i64 b1, .string s1]) rfl (by kernel_rfl) (by kernel_rfl) (by kernel_rfl) (fun _ _ _ h => h) (Or.inl ⟨rfl, fun W hW => exl _ _ _ _ rfl _ _ rfl (load40 W blk (off + j * 4) _ _ _ _ _ rfl rfl (((hBw5'.out.trans (hW.mono hBw5'.out.size)).cell (p := ⟨blk, _, none⟩) hbl).trans e0) (((hBw5'.out.trans (hW.mono hBw5'.out.size)).cell (p := ⟨blk, _, none⟩) hbl).trans e1) (((hBw5'.out.trans (hW.mono hBw5'.out.size)).cell (p := ⟨blk, _, none⟩) hbl).trans e2))⟩) hS0 ?_
              simp only [Act.put, List.setIfInBounds_toArray, List.set_cons_zero, List.set_cons_succ]
              refine takeR (fuel := 3) (i := 9) (v := .agg #[.int .i64 o, .int .i64 b, .string s]) rfl (by kernel_rfl) (by kernel_rfl) (by kernel_rfl) (fun _ _ _ h => h) (Or.inl ⟨rfl, fun W hW => exl _ _ _ _ rfl _ _ rfl (load40 W wr.heap.size 0 1 2 _ _ _ rfl rfl ((hX5.below hW hxl).cell 0) ((hX5.below hW hxl).cell 1) ((hX5.below hW hxl).cell 2))⟩) hS0 ?_
              simp only [Act.put, List.setIfInBounds_toArray, List.set_cons_zero, List.set_cons_succ]
              refine consR (fuel := 2) (i := 10) rfl (by kernel_rfl) (fun K hK => ?_)
              rw [if_pos (by rfl)]
              go_simp
              refine (HAH.out v0).mono ?_
              rintro e v1 ⟨rfl, hC⟩
              refine hK.out _ _ (hS0.trans (hC.mono hS0.size)) (fun hS1 => ?_)
              clear hK hC
              try simp only [Act.put, List.setIfInBounds_toArray, List.set_cons_zero, List.set_cons_succ]
              refine takeR (fuel := 1) (i := 11) (v := .bool true) rfl (by kernel_rfl) (by kernel_rfl) (by kernel_rfl) (fun _ _ _ h => h) (Or.inl ⟨rfl, fun W hW => by go_simp⟩) hS1 ?_
              simp only [Act.put, List.setIfInBounds_toArray, List.set_cons_zero, List.set_cons_succ]
              refine takeR (fuel := 0) (i := 12) (v := .bool true) rfl (by kernel_rfl) (by kernel_rfl) (by kernel_rfl) (fun _ _ _ h => h) (Or.inl ⟨rfl, fun W hW => by go_simp⟩) hS1 ?_
              simp only [Act.put, List.setIfInBounds_toArray, List.set_cons_zero, List.set_cons_succ]
              refine wpAnyH_done (by kernel_rfl) ?_ _
              go_wp2_with fail
              go_ret
              exact HT2.out _ hS1
            · have HN2 : Hid (∀ W, Below w5.heap.size w5 W → Below w.heap.size w W ∧ Num.Pre L (k + 1)) := HNX.out (by rw [hfl]; rfl)
              have hBw5' : Hid (Below w.heap.size w w5) := hBw5
              clear hc4 hcs hs hst ho hb hn hcc hw5 hB5 hBw5 HR hwr hLk HBAD hbw HTW HNX hn0 how hfl hd4 hs1 ho1 hb1 hst1 hk0 hj0 hneg hng hhi hlo
              go_upto_region 4 with fail
              go_region
              rw [HW5.out]
              clear HW5
              go_upto_region 9 with (go_at_call 71; refine (HWR.out _ (Below.refl _ _)).mono ?_; rintro e w6 ⟨rfl, ⟨k0, k1, k2⟩, hb6⟩)
              refine wp_region_held (S := fun W => Below w5.heap.size w5 W) (by kernel_rfl) ?_
              change wpAnyH _ _ _ _ _ 13 #[false, false, false, false, false, false, false, false, false, false, false, false, false] _ w6.drew
              have hS0 : Below w5.heap.size w5 w6.drew := hb6.out.trans ⟨rfl, rfl, rfl, Nat.le_refl _, fun _ _ => rfl⟩
              obtain ⟨v0, hv0⟩ : ∃ v, v = w6.drew := ⟨_, rfl⟩
              rw [← hv0] at hS0 ⊢
              clear hv0
              refine takeR (fuel := 12) (i := 0) (v := .int .i64 k) rfl (by kernel_rfl) (by kernel_rfl) (by kernel_rfl) (fun _ _ _ h => h) (Or.inl ⟨rfl, fun W hW => by go_simp⟩) hS0 ?_
              simp only [Act.put, List.setIfInBounds_toArray, List.set_cons_zero, List.set_cons_succ]
              refine takeR (fuel := 11) (i := 1) (v := .bool true) rfl (by kernel_rfl) (by kernel_rfl) (by kernel_rfl) (fun _ _ _ h => h) (Or.inl ⟨rfl, fun W hW => by go_simp⟩) hS0 ?_
              simp only [Act.put, List.setIfInBounds_toArray, List.set_cons_zero, List.set_cons_succ]
              refine takeR (fuel := 10) (i := 2) (v := .bool true) rfl (by kernel_rfl) (by kernel_rfl) (by kernel_rfl) (fun _ _ _ h => h) (Or.inl ⟨rfl, fun W hW => by go_simp⟩) hS0 ?_
              simp only [Act.put, List.setIfInBounds_toArray, List.set_cons_zero, List.set_cons_succ]
              refine takeR (fuel := 9) (i := 3) (v := .slice (some ⟨blk, off, none⟩) L.length cap) rfl (by kernel_rfl) (by kernel_rfl) (by kernel_rfl) (fun _ _ _ h => h) (Or.inl ⟨rfl, fun W hW => by go_simp⟩) hS0 ?_
              simp only [Act.put, List.setIfInBounds_toArray, List.set_cons_zero, List.set_cons_succ]
              refine takeR (fuel := 8) (i := 4) (v := .int .i64 k) rfl (by kernel_rfl) (by kernel_rfl) (by kernel_rfl) (fun _ _ _ h => h) (Or.inl ⟨rfl, fun W hW => by go_simp⟩) hS0 ?_
              simp only [Act.put, List.setIfInBounds_toArray, List.set_cons_zero, List.set_cons_succ]
              refine takeR (fuel := 7) (i := 5) (v := .int .i64 j) rfl (by kernel_rfl) (by kernel_rfl) (by kernel_rfl) (fun _ _ _ h => h) (Or.inl ⟨rfl, fun W hW => by go_simp⟩) hS0 ?_
              simp only [Act.put, List.setIfInBounds_toArray, List.set_cons_zero, List.set_cons_succ]
              refine takeR (fuel := 6) (i := 6) (v := .pointer (some ⟨blk, off + j * 4, none⟩)) rfl (by kernel_rfl) (by kernel_rfl) (by kernel_rfl) (fun _ _ _ h => h) (Or.inl ⟨rfl, fun W hW => by go_simp⟩) hS0 ?_
              simp only [Act.put, List.setIfInBounds_toArray, List.set_cons_zero, List.set_cons_succ]
              refine takeR (fuel := 5) (i := 7) (v := .pointer (some ⟨blk, off + j * 4, none⟩)) rfl (by kernel_rfl) (by kernel_rfl) (by kernel_rfl) (fun _ _ _ h => h) (Or.inl ⟨rfl, fun W hW => by go_simp⟩) hS0 ?_
              simp only [Act.put, List.setIfInBounds_toArray, List.set_cons_zero, List.set_cons_succ]
              refine takeR (fuel := 4) (i := 8) (v := .agg #[.int .i64 o1, .int .i64 b1, .string s1]) rfl (by kernel_rfl) (by kernel_rfl) (by kernel_rfl) (fun _ _ _ h => h) (Or.inl ⟨rfl, fun W hW => exl _ _ _ _ rfl _ _ rfl (load40 W blk (off + j * 4) _ _ _ _ _ rfl rfl (((hBw5'.out.trans (hW.mono hBw5'.out.size)).cell (p := ⟨blk, _, none⟩) hbl).trans e0) (((hBw5'.out.trans (hW.mono hBw5'.out.size)).cell (p := ⟨blk, _, none⟩) hbl).trans e1) (((hBw5'.out.trans (hW.mono hBw5'.out.size)).cell (p := ⟨blk, _, none⟩) hbl).trans e2))⟩) hS0 ?_
              simp only [Act.put, List.setIfInBounds_toArray, List.set_cons_zero, List.set_cons_succ]
              refine takeR (fuel := 3) (i := 9) (v := .agg #[.int .i64 o, .int .i64 b, .string s]) rfl (by kernel_rfl) (by kernel_rfl) (by kernel_rfl) (fun _ _ _ h => h) (Or.inl ⟨rfl, fun W hW => exl _ _ _ _ rfl _ _ rfl (load40 W wr.heap.size 0 1 2 _ _ _ rfl rfl ((hX5.below hW hxl).cell 0) ((hX5.below hW hxl).cell 1) ((hX5.below hW hxl).cell 2))⟩) hS0 ?_
              simp only [Act.put, List.setIfInBounds_toArray, List.set_cons_zero, List.set_cons_succ]
              refine consR (fuel := 2) (i := 10) rfl (by kernel_rfl) (fun K hK => ?_)
              rw [if_pos (by rfl)]
              go_simp
              refine (HAH.out v0).mono ?_
              rintro e v1 ⟨rfl, hC⟩
              refine hK.out _ _ (hS0.trans (hC.mono hS0.size)) (fun hS1 => ?_)
              clear hK hC
              try simp only [Act.put, List.setIfInBounds_toArray, List.set_cons_zero, List.set_cons_succ]
              refine takeR (fuel := 1) (i := 11) (v := .bool false) rfl (by kernel_rfl) (by kernel_rfl) (by kernel_rfl) (fun _ _ _ h => h) (Or.inl ⟨rfl, fun W hW => by go_simp⟩) hS1 ?_
              simp only [Act.put, List.setIfInBounds_toArray, List.set_cons_zero, List.set_cons_succ]
              refine takeR (fuel := 0) (i := 12) (v := .bool false) rfl (by kernel_rfl) (by kernel_rfl) (by kernel_rfl) (fun _ _ _ h => h) (Or.inl ⟨rfl, fun W hW => by go_simp⟩) hS1 ?_
              simp only [Act.put, List.setIfInBounds_toArray, List.set_cons_zero, List.set_cons_succ]
              refine wpAnyH_done (by kernel_rfl) ?_ _
              go_wp2_with fail
              go_roundw
              case rel => exact ⟨k + 1, by omega, by simp, HN2.out _ hS1⟩
              case measure => simp [intOf]; omega
        · have hq : (n == 0) = false := by simp [hn0]
          have hq3 : ¬ 72057594037927936 < n := hhi
          have hq4 : ¬ n < -72057594037927936 := hlo
          have hq1 : ¬ n < 0 := hng
          have hbw : Num.balw ((o, b, s.toList), n) = 0 := balw_zero hwr (by omega)
          have HTW : Hid (Num.fltAt L k = 7 → ∀ W, Below w5.heap.size w5 W → RoP L w (.returned (.int .i64 7)) W) := fun hf W hW => ⟨7, .inl ⟨k, hkn, HR.out.2, hf, by decide⟩, hBw5.trans (hW.mono hBw5.size), rfl⟩
          have HNX : Hid (Num.fltAt L k = 0 → ∀ W, Below w5.heap.size w5 W → Below w.heap.size w W ∧ Num.Pre L (k + 1)) := fun hf W hW => ⟨hBw5.trans (hW.mono hBw5.size), HR.out.2.succ hf⟩
          by_cases hk0 : k = 0
          · have hf : Num.fltAt L k = 0 := by
              subst hk0
              exact Num.fltAt_zero hkn (by rw [hLk]; exact hbw)
            have HN2 : Hid (∀ W, Below w5.heap.size w5 W → Below w.heap.size w W ∧ Num.Pre L (k + 1)) := HNX.out hf
            have HDR : Hid (∀ W nq, Below w5.heap.size w5 W → Below w5.heap.size w5 (W.drewN nq)) := fun W nq hW => hW.trans ⟨rfl, rfl, rfl, Nat.le_refl _, fun _ _ => rfl⟩
            have hk0' : ¬ (0 : Int) < (k : Int) := by omega
            have hk0n : ¬ 0 < k := by omega
            clear hc4 hcs hs hst ho hb hn hcc hw5 hB5 hX5 hBw5 HR hwr hLk HBAD hbw HTW HNX hn0 how hneg hk0 hf hng hhi hlo
            go_upto_region 4 with fail
            go_region
            rw [HW5.out]
            clear HW5
            go_upto_region 9 with (go_at_call 71; refine (HWR.out _ (Below.refl _ _)).mono ?_; rintro e w6 ⟨rfl, ⟨k0, k1, k2⟩, hb6⟩)
            go_quiet (fail)
            go_wp2_with fail
            go_roundw
            case rel => exact ⟨k + 1, by omega, by simp, HN2.out _ (HDR.out _ _ hb6.out)⟩
            case measure => simp [intOf]; omega
          · obtain ⟨j, hj0⟩ : ∃ j, k = j + 1 := ⟨k - 1, by omega⟩
            have hjl : j < L.length := by omega
            have hd4 := hcs j hjl
            obtain ⟨s1, hs1⟩ : ∃ s1, s1 = S L[j].1.2.2 := ⟨_, rfl⟩
            obtain ⟨o1, b1, ho1, hb1⟩ : ∃ o1 b1, o1 = L[j].1.1 ∧ b1 = L[j].1.2.1 := ⟨_, _, rfl, rfl⟩
            have e0 : w.cell? ⟨blk, off + j * 4, none⟩ = some (.int .i64 o1) := by rw [ho1]; exact hd4 0 (by omega)
            have e1 : w.cell? ⟨blk, off + j * 4 + 1, none⟩ = some (.int .i64 b1) := by rw [hb1]; exact hd4 1 (by omega)
            have e2 : w.cell? ⟨blk, off + j * 4 + 2, none⟩ = some (.string s1) := by rw [hs1]; exact hd4 2 (by omega)
            have hst1 : s1.toList = L[j].1.2.2 := by rw [hs1, S_toList]
            have hjn' : (j : Int) < (L.length : Int) := by omega
            have hk1 : (k : Int) - 1 = (j : Int) := by omega
            have hkj : IntKind.i64.wrap (j : Int) = (j : Int) := Rng.w (by unfold Rng; omega)
            have hk0' : (0 : Int) < (k : Int) := by omega
            have hk0n : 0 < k := by omega
            have HAH : Hid (∀ W, Calls Try.prog 72 #[.agg #[.int .i64 o1, .int .i64 b1, .string s1], .agg #[.int .i64 o, .int .i64 b, .string s]] W fun e w' => e = .returned (.bool (Num.aheadB (o1, b1, s1.toList) (o, b, s.toList))) ∧ Below W.heap.size W w') := fun W => rahead o1 b1 s1 o b s W
            have hfl : Num.fltAt L k = if Num.aheadB (o1, b1, s1.toList) (o, b, s.toList) = true then 0 else 7 := by
              subst hj0
              rw [Num.fltAt_succ hkn (by rw [hLk]; exact hbw)]
              have a1 : L[j].1 = (o1, b1, s1.toList) := by rw [ho1, hb1, hst1]
              rw [hLk, a1]
            generalize Num.aheadB (o1, b1, s1.toList) (o, b, s.toList) = AB at *
            cases AB
            · have HT2 : Hid (∀ W, Below w5.heap.size w5 W → RoP L w (.returned (.int .i64 7)) W) := HTW.out (by rw [hfl]; rfl)
              have hBw5' : Hid (Below w.heap.size w w5) := hBw5
              clear hc4 hcs hs hst ho hb hn hcc hw5 hB5 hBw5 HR hwr hLk HBAD hbw HTW HNX hn0 how hfl hd4 hs1 ho1 hb1 hst1 hk0 hj0 hneg hng hhi hlo
              go_upto_region 4 with fail
              go_region
              rw [HW5.out]
              clear HW5
              go_upto_region 9 with (go_at_call 71; refine (HWR.out _ (Below.refl _ _)).mono ?_; rintro e w6 ⟨rfl, ⟨k0, k1, k2⟩, hb6⟩)
              refine wp_region_held (S := fun W => Below w5.heap.size w5 W) (by kernel_rfl) ?_
              change wpAnyH _ _ _ _ _ 13 #[false, false, false, false, false, false, false, false, false, false, false, false, false] _ w6.drew
              have hS0 : Below w5.heap.size w5 w6.drew := hb6.out.trans ⟨rfl, rfl, rfl, Nat.le_refl _, fun _ _ => rfl⟩
              obtain ⟨v0, hv0⟩ : ∃ v, v = w6.drew := ⟨_, rfl⟩
              rw [← hv0] at hS0 ⊢
              clear hv0
              refine takeR (fuel := 12) (i := 0) (v := .int .i64 k) rfl (by kernel_rfl) (by kernel_rfl) (by kernel_rfl) (fun _ _ _ h => h) (Or.inl ⟨rfl, fun W hW => by go_simp⟩) hS0 ?_
              simp only [Act.put, List.setIfInBounds_toArray, List.set_cons_zero, List.set_cons_succ]
              refine takeR (fuel := 11) (i := 1) (v := .bool true) rfl (by kernel_rfl) (by kernel_rfl) (by kernel_rfl) (fun _ _ _ h => h) (Or.inl ⟨rfl, fun W hW => by go_simp⟩) hS0 ?_
              simp only [Act.put, List.setIfInBounds_toArray, List.set_cons_zero, List.set_cons_succ]
              refine takeR (fuel := 10) (i := 2) (v := .bool true) rfl (by kernel_rfl) (by kernel_rfl) (by kernel_rfl) (fun _ _ _ h => h) (Or.inl ⟨rfl, fun W hW => by go_simp⟩) hS0 ?_
              simp only [Act.put, List.setIfInBounds_toArray, List.set_cons_zero, List.set_cons_succ]
              refine takeR (fuel := 9) (i := 3) (v := .slice (some ⟨blk, off, none⟩) L.length cap) rfl (by kernel_rfl) (by kernel_rfl) (by kernel_rfl) (fun _ _ _ h => h) (Or.inl ⟨rfl, fun W hW => by go_simp⟩) hS0 ?_
              simp only [Act.put, List.setIfInBounds_toArray, List.set_cons_zero, List.set_cons_succ]
              refine takeR (fuel := 8) (i := 4) (v := .int .i64 k) rfl (by kernel_rfl) (by kernel_rfl) (by kernel_rfl) (fun _ _ _ h => h) (Or.inl ⟨rfl, fun W hW => by go_simp⟩) hS0 ?_
              simp only [Act.put, List.setIfInBounds_toArray, List.set_cons_zero, List.set_cons_succ]
              refine takeR (fuel := 7) (i := 5) (v := .int .i64 j) rfl (by kernel_rfl) (by kernel_rfl) (by kernel_rfl) (fun _ _ _ h => h) (Or.inl ⟨rfl, fun W hW => by go_simp⟩) hS0 ?_
              simp only [Act.put, List.setIfInBounds_toArray, List.set_cons_zero, List.set_cons_succ]
              refine takeR (fuel := 6) (i := 6) (v := .pointer (some ⟨blk, off + j * 4, none⟩)) rfl (by kernel_rfl) (by kernel_rfl) (by kernel_rfl) (fun _ _ _ h => h) (Or.inl ⟨rfl, fun W hW => by go_simp⟩) hS0 ?_
              simp only [Act.put, List.setIfInBounds_toArray, List.set_cons_zero, List.set_cons_succ]
              refine takeR (fuel := 5) (i := 7) (v := .pointer (some ⟨blk, off + j * 4, none⟩)) rfl (by kernel_rfl) (by kernel_rfl) (by kernel_rfl) (fun _ _ _ h => h) (Or.inl ⟨rfl, fun W hW => by go_simp⟩) hS0 ?_
              simp only [Act.put, List.setIfInBounds_toArray, List.set_cons_zero, List.set_cons_succ]
              refine takeR (fuel := 4) (i := 8) (v := .agg #[.int .i64 o1, .int .i64 b1, .string s1]) rfl (by kernel_rfl) (by kernel_rfl) (by kernel_rfl) (fun _ _ _ h => h) (Or.inl ⟨rfl, fun W hW => exl _ _ _ _ rfl _ _ rfl (load40 W blk (off + j * 4) _ _ _ _ _ rfl rfl (((hBw5'.out.trans (hW.mono hBw5'.out.size)).cell (p := ⟨blk, _, none⟩) hbl).trans e0) (((hBw5'.out.trans (hW.mono hBw5'.out.size)).cell (p := ⟨blk, _, none⟩) hbl).trans e1) (((hBw5'.out.trans (hW.mono hBw5'.out.size)).cell (p := ⟨blk, _, none⟩) hbl).trans e2))⟩) hS0 ?_
              simp only [Act.put, List.setIfInBounds_toArray, List.set_cons_zero, List.set_cons_succ]
              refine takeR (fuel := 3) (i := 9) (v := .agg #[.int .i64 o, .int .i64 b, .string s]) rfl (by kernel_rfl) (by kernel_rfl) (by kernel_rfl) (fun _ _ _ h => h) (Or.inl ⟨rfl, fun W hW => exl _ _ _ _ rfl _ _ rfl (load40 W wr.heap.size 0 1 2 _ _ _ rfl rfl ((hX5.below hW hxl).cell 0) ((hX5.below hW hxl).cell 1) ((hX5.below hW hxl).cell 2))⟩) hS0 ?_
              simp only [Act.put, List.setIfInBounds_toArray, List.set_cons_zero, List.set_cons_succ]
              refine consR (fuel := 2) (i := 10) rfl (by kernel_rfl) (fun K hK => ?_)
              rw [if_pos (by rfl)]
              go_simp
              refine (HAH.out v0).mono ?_
              rintro e v1 ⟨rfl, hC⟩
              refine hK.out _ _ (hS0.trans (hC.mono hS0.size)) (fun hS1 => ?_)
              clear hK hC
              try simp only [Act.put, List.setIfInBounds_toArray, List.set_cons_zero, List.set_cons_succ]
              refine takeR (fuel := 1) (i := 11) (v := .bool true) rfl (by kernel_rfl) (by kernel_rfl) (by kernel_rfl) (fun _ _ _ h => h) (Or.inl ⟨rfl, fun W hW => by go_simp⟩) hS1 ?_
              simp only [Act.put, List.setIfInBounds_toArray, List.set_cons_zero, List.set_cons_succ]
              refine takeR (fuel := 0) (i := 12) (v := .bool true) rfl (by kernel_rfl) (by kernel_rfl) (by kernel_rfl) (fun _ _ _ h => h) (Or.inl ⟨rfl, fun W hW => by go_simp⟩) hS1 ?_
              simp only [Act.put, List.setIfInBounds_toArray, List.set_cons_zero, List.set_cons_succ]
              refine wpAnyH_done (by kernel_rfl) ?_ _
              go_wp2_with fail
              go_ret
              exact HT2.out _ hS1
            · have HN2 : Hid (∀ W, Below w5.heap.size w5 W → Below w.heap.size w W ∧ Num.Pre L (k + 1)) := HNX.out (by rw [hfl]; rfl)
              have hBw5' : Hid (Below w.heap.size w w5) := hBw5
              clear hc4 hcs hs hst ho hb hn hcc hw5 hB5 hBw5 HR hwr hLk HBAD hbw HTW HNX hn0 how hfl hd4 hs1 ho1 hb1 hst1 hk0 hj0 hneg hng hhi hlo
              go_upto_region 4 with fail
              go_region
              rw [HW5.out]
              clear HW5
              go_upto_region 9 with (go_at_call 71; refine (HWR.out _ (Below.refl _ _)).mono ?_; rintro e w6 ⟨rfl, ⟨k0, k1, k2⟩, hb6⟩)
              refine wp_region_held (S := fun W => Below w5.heap.size w5 W) (by kernel_rfl) ?_
              change wpAnyH _ _ _ _ _ 13 #[false, false, false, false, false, false, false, false, false, false, false, false, false] _ w6.drew
              have hS0 : Below w5.heap.size w5 w6.drew := hb6.out.trans ⟨rfl, rfl, rfl, Nat.le_refl _, fun _ _ => rfl⟩
              obtain ⟨v0, hv0⟩ : ∃ v, v = w6.drew := ⟨_, rfl⟩
              rw [← hv0] at hS0 ⊢
              clear hv0
              refine takeR (fuel := 12) (i := 0) (v := .int .i64 k) rfl (by kernel_rfl) (by kernel_rfl) (by kernel_rfl) (fun _ _ _ h => h) (Or.inl ⟨rfl, fun W hW => by go_simp⟩) hS0 ?_
              simp only [Act.put, List.setIfInBounds_toArray, List.set_cons_zero, List.set_cons_succ]
              refine takeR (fuel := 11) (i := 1) (v := .bool true) rfl (by kernel_rfl) (by kernel_rfl) (by kernel_rfl) (fun _ _ _ h => h) (Or.inl ⟨rfl, fun W hW => by go_simp⟩) hS0 ?_
              simp only [Act.put, List.setIfInBounds_toArray, List.set_cons_zero, List.set_cons_succ]
              refine takeR (fuel := 10) (i := 2) (v := .bool true) rfl (by kernel_rfl) (by kernel_rfl) (by kernel_rfl) (fun _ _ _ h => h) (Or.inl ⟨rfl, fun W hW => by go_simp⟩) hS0 ?_
              simp only [Act.put, List.setIfInBounds_toArray, List.set_cons_zero, List.set_cons_succ]
              refine takeR (fuel := 9) (i := 3) (v := .slice (some ⟨blk, off, none⟩) L.length cap) rfl (by kernel_rfl) (by kernel_rfl) (by kernel_rfl) (fun _ _ _ h => h) (Or.inl ⟨rfl, fun W hW => by go_simp⟩) hS0 ?_
              simp only [Act.put, List.setIfInBounds_toArray, List.set_cons_zero, List.set_cons_succ]
              refine takeR (fuel := 8) (i := 4) (v := .int .i64 k) rfl (by kernel_rfl) (by kernel_rfl) (by kernel_rfl) (fun _ _ _ h => h) (Or.inl ⟨rfl, fun W hW => by go_simp⟩) hS0 ?_
              simp only [Act.put, List.setIfInBounds_toArray, List.set_cons_zero, List.set_cons_succ]
              refine takeR (fuel := 7) (i := 5) (v := .int .i64 j) rfl (by kernel_rfl) (by kernel_rfl) (by kernel_rfl) (fun _ _ _ h => h) (Or.inl ⟨rfl, fun W hW => by go_simp⟩) hS0 ?_
              simp only [Act.put, List.setIfInBounds_toArray, List.set_cons_zero, List.set_cons_succ]
              refine takeR (fuel := 6) (i := 6) (v := .pointer (some ⟨blk, off + j * 4, none⟩)) rfl (by kernel_rfl) (by kernel_rfl) (by kernel_rfl) (fun _ _ _ h => h) (Or.inl ⟨rfl, fun W hW => by go_simp⟩) hS0 ?_
              simp only [Act.put, List.setIfInBounds_toArray, List.set_cons_zero, List.set_cons_succ]
              refine takeR (fuel := 5) (i := 7) (v := .pointer (some ⟨blk, off + j * 4, none⟩)) rfl (by kernel_rfl) (by kernel_rfl) (by kernel_rfl) (fun _ _ _ h => h) (Or.inl ⟨rfl, fun W hW => by go_simp⟩) hS0 ?_
              simp only [Act.put, List.setIfInBounds_toArray, List.set_cons_zero, List.set_cons_succ]
              refine takeR (fuel := 4) (i := 8) (v := .agg #[.int .i64 o1, .int .i64 b1, .string s1]) rfl (by kernel_rfl) (by kernel_rfl) (by kernel_rfl) (fun _ _ _ h => h) (Or.inl ⟨rfl, fun W hW => exl _ _ _ _ rfl _ _ rfl (load40 W blk (off + j * 4) _ _ _ _ _ rfl rfl (((hBw5'.out.trans (hW.mono hBw5'.out.size)).cell (p := ⟨blk, _, none⟩) hbl).trans e0) (((hBw5'.out.trans (hW.mono hBw5'.out.size)).cell (p := ⟨blk, _, none⟩) hbl).trans e1) (((hBw5'.out.trans (hW.mono hBw5'.out.size)).cell (p := ⟨blk, _, none⟩) hbl).trans e2))⟩) hS0 ?_
              simp only [Act.put, List.setIfInBounds_toArray, List.set_cons_zero, List.set_cons_succ]
              refine takeR (fuel := 3) (i := 9) (v := .agg #[.int .i64 o, .int .i64 b, .string s]) rfl (by kernel_rfl) (by kernel_rfl) (by kernel_rfl) (fun _ _ _ h => h) (Or.inl ⟨rfl, fun W hW => exl _ _ _ _ rfl _ _ rfl (load40 W wr.heap.size 0 1 2 _ _ _ rfl rfl ((hX5.below hW hxl).cell 0) ((hX5.below hW hxl).cell 1) ((hX5.below hW hxl).cell 2))⟩) hS0 ?_
              simp only [Act.put, List.setIfInBounds_toArray, List.set_cons_zero, List.set_cons_succ]
              refine consR (fuel := 2) (i := 10) rfl (by kernel_rfl) (fun K hK => ?_)
              rw [if_pos (by rfl)]
              go_simp
              refine (HAH.out v0).mono ?_
              rintro e v1 ⟨rfl, hC⟩
              refine hK.out _ _ (hS0.trans (hC.mono hS0.size)) (fun hS1 => ?_)
              clear hK hC
              try simp only [Act.put, List.setIfInBounds_toArray, List.set_cons_zero, List.set_cons_succ]
              refine takeR (fuel := 1) (i := 11) (v := .bool false) rfl (by kernel_rfl) (by kernel_rfl) (by kernel_rfl) (fun _ _ _ h => h) (Or.inl ⟨rfl, fun W hW => by go_simp⟩) hS1 ?_
              simp only [Act.put, List.setIfInBounds_toArray, List.set_cons_zero, List.set_cons_succ]
              refine takeR (fuel := 0) (i := 12) (v := .bool false) rfl (by kernel_rfl) (by kernel_rfl) (by kernel_rfl) (fun _ _ _ h => h) (Or.inl ⟨rfl, fun W hW => by go_simp⟩) hS1 ?_
              simp only [Act.put, List.setIfInBounds_toArray, List.set_cons_zero, List.set_cons_succ]
              refine wpAnyH_done (by kernel_rfl) ?_ _
              go_wp2_with fail
              go_roundw
              case rel => exact ⟨k + 1, by omega, by simp, HN2.out _ hS1⟩
              case measure => simp [intOf]; omega
      · have hwr' : (Num.wr (o, b, s.toList) != 0) = true := by simp [hwr]
        have HB2 : Hid (∀ W, Below w5.heap.size w5 W → RoP L w (.returned (.int .i64 (Num.wr (o, b, s.toList)))) W) := HBAD.out _ (balw_first hwr) hwr
        generalize Num.wr (o, b, s.toList) = W0 at *
        clear hc4 hcs hs hst ho hb hn hcc hw5 hB5 hX5 hBw5 HR hwr hLk HBAD
        go_upto_region 4 with fail
        go_region
        rw [HW5.out]
        clear HW5
        go_wp2_with (first | (go_at_call 71; refine (HWR.out _ (Below.refl _ _)).mono ?_; rintro e w6 ⟨rfl, ⟨k0, k1, k2⟩, hb6⟩; clear z0) | (go_at_call 71; refine (HWR.out _ hb6.out).mono ?_; rintro e w7 ⟨rfl, k8, hb7⟩; clear HWR))
        go_ret
        exact HB2.out _ hb7.out
    · have hkz : ¬ (k : Int) < (L.length : Int) := by omega
      have hpre : Num.Pre L L.length := by
        have e : k = L.length := by omega
        have := HR.out.2
        rw [e] at this
        exact this
      have HG : Hid (Num.Good L) := Num.pre_good_all hpre
      have HBw : Hid (Below w.heap.size w wr) := HR.out.1
      have HODD : Hid (Num.evB L = false → ∀ W, Below w.heap.size w W → RoP L w (.returned (.int .i64 20)) W) := fun hev W hW => ⟨20, .inr ⟨hpre, by rw [hev]; rfl⟩, hW, rfl⟩
      have HEVN : Hid (Num.evB L = true → ∀ W, Below w.heap.size w W → RoP L w (.returned (.int .i64 0)) W) := fun hev W hW => ⟨0, .inr ⟨hpre, by rw [hev]; rfl⟩, hW, rfl⟩
      have HTB : Hid (∀ t, -7205759403792793600 ≤ Num.tot t L ∧ Num.tot t L ≤ 7205759403792793600) := fun t => by
        have := Num.tot_bound t (C := L) (fun p hp => ⟨HG.out.lo p hp, HG.out.hi p hp⟩)
        omega
      clear HR hpre
      go_wp2_with fail
      go_loopw [6] (fun i w2 => ∃ i2 : Nat, i2 ≤ L.length ∧ i = .int .i64 i2 ∧ Hid (Below w.heap.size w w2 ∧ ∀ j (hj : j < L.length), j < i2 → Num.tot L[j].1.2.2 L = 0))
        (fun i _ => L.length - (intOf i).toNat)
      case atStart => exact ⟨0, Nat.zero_le _, rfl, HBw.out, fun j _ h => absurd h (Nat.not_lt_zero j)⟩
      case round =>
        obtain ⟨i2, hi2, rfl, HR2⟩ := hrel
        clear HBw
        by_cases hin : i2 < L.length
        · have hiz : (i2 : Int) < (L.length : Int) := by omega
          obtain ⟨blk, off, rfl, hbl, hcs⟩ := HBs.out (by omega)
          have hci := hcs i2 hin 2 (by omega)
          obtain ⟨t, ht⟩ : ∃ t, t = S L[i2].1.2.2 := ⟨_, rfl⟩
          have htt : t.toList = L[i2].1.2.2 := by rw [ht, S_toList]
          have ci : w.cell? ⟨blk, off + i2 * 4 + 2, none⟩ = some (.string t) := by rw [ht]; exact hci
          have HTZ : Hid (Num.tot t.toList L = 0 → ∀ j (hj : j < L.length), j < i2 + 1 → Num.tot L[j].1.2.2 L = 0) := fun hz j hj hj1 => by
            rcases Nat.lt_or_ge j i2 with h1 | h1
            · exact HR2.out.2 j hj h1
            · obtain rfl : j = i2 := by omega
              rw [← htt]
              exact hz
          have HTO : Hid (Num.tot t.toList L ≠ 0 → ∀ W, Below w.heap.size w W → RoP L w (.returned (.int .i64 20)) W) := fun hz => HODD.out (ev_odd hin (by rw [← htt]; exact hz))
          have HBw2 : Hid (Below w.heap.size w wr) := HR2.out.1
          have htb := HTB.out t.toList
          have HWT : Hid (wrap64 (Num.tot t.toList L) = Num.tot t.toList L) := wrap_in (by omega)
          clear hci ht htt HR2 htb
          go_wp2_with fail
          go_loopw [7, 8] (fun v i w3 => ∃ k3 : Nat, k3 ≤ L.length ∧ i = .int .i64 k3 ∧ v = .int .i64 (wrap64 (Num.tot t.toList (L.take k3))) ∧ Hid (Below w.heap.size w w3))
            (fun _ i _ => L.length - (intOf i).toNat)
          case atStart => exact ⟨0, Nat.zero_le _, rfl, by simp [Num.tot, wrap64], HBw2.out⟩
          case round =>
            obtain ⟨k3, hk3, rfl, rfl, HR3⟩ := hrel
            clear HBw2
            by_cases hkn3 : k3 < L.length
            · have hkz3 : (k3 : Int) < (L.length : Int) := by omega
              have hc3 := hcs k3 hkn3
              obtain ⟨s3, hs3⟩ : ∃ s3, s3 = S L[k3].1.2.2 := ⟨_, rfl⟩
              have hss3 : s3.toList = L[k3].1.2.2 := by rw [hs3, S_toList]
              obtain ⟨n3, hn3⟩ : ∃ n3, n3 = L[k3].2 := ⟨_, rfl⟩
              have d2 : wr.cell? ⟨blk, off + k3 * 4 + 2, none⟩ = some (.string s3) := by rw [hs3]; exact (HR3.out.cell (p := ⟨blk, _, none⟩) hbl).trans (hc3 2 (by omega))
              have d3 : wr.cell? ⟨blk, off + k3 * 4 + 3, none⟩ = some (.int .i64 n3) := by rw [hn3]; exact (HR3.out.cell (p := ⟨blk, _, none⟩) hbl).trans (hc3 3 (by omega))
              have di : wr.cell? ⟨blk, off + i2 * 4 + 2, none⟩ = some (.string t) := (HR3.out.cell (p := ⟨blk, _, none⟩) hbl).trans ci
              have hTT := tot_take t.toList hkn3
              rw [← hss3, ← hn3] at hTT
              have HBd : Hid (∀ nq, Below w.heap.size w (wr.drewN nq)) := fun nq => HR3.out.trans ⟨rfl, rfl, rfl, Nat.le_refl _, fun _ _ => rfl⟩
              have HWA : Hid (wrap64 (wrap64 (Num.tot t.toList (L.take k3)) + n3) = wrap64 (Num.tot t.toList (L.take k3) + n3)) := wrap_add _ _
              by_cases hte : s3.toList = t.toList
              · have hte' : (s3.toList == t.toList) = true := by simp [hte]
                rw [if_pos hte] at hTT
                have HNX : Hid (wrap64 (wrap64 (Num.tot t.toList (L.take k3)) + n3) = wrap64 (Num.tot t.toList (L.take (k3 + 1)))) := by unfold Hid; rw [HWA.out, hTT]
                clear hc3 hs3 hss3 hn3 hTT hte HWA hcs HR3
                go_upto_region 18 with fail
                go_quiet (fail)
                go_wp2_with fail
                go_roundw
                case rel => exact ⟨k3 + 1, by omega, by simp, by rw [← HNX.out], HBd.out _⟩
                case measure => simp [intOf]; omega
              · have hte' : (s3.toList == t.toList) = false := by simp [hte]
                rw [if_neg hte, Int.add_zero] at hTT
                have HNX : Hid (Num.tot t.toList (L.take k3) = Num.tot t.toList (L.take (k3 + 1))) := hTT.symm
                clear hc3 hs3 hss3 hn3 hTT hte HWA hcs HR3
                go_upto_region 18 with fail
                go_quiet (fail)
                go_wp2_with fail
                go_roundw
                case rel => exact ⟨k3 + 1, by omega, by simp, by rw [← HNX.out], HBd.out _⟩
                case measure => simp [intOf]; omega
            · have hkz3 : ¬ (k3 : Int) < (L.length : Int) := by omega
              have hV : wrap64 (Num.tot t.toList (L.take k3)) = Num.tot t.toList L := by rw [List.take_of_length_le (by omega)]; exact HWT.out
              rw [hV]
              by_cases hz : Num.tot t.toList L = 0
              · have HZ2 : Hid (∀ j (hj : j < L.length), j < i2 + 1 → Num.tot L[j].1.2.2 L = 0) := HTZ.out hz
                have hz' : (Num.tot t.toList L != 0) = false := by simp [hz]
                generalize Num.tot t.toList L = TV at *
                clear hV hz HTZ HTO HWT
                go_wp2_with fail
                go_roundw
                case rel => exact ⟨i2 + 1, by omega, by simp, HR3.out, HZ2.out⟩
                case measure => simp [intOf]; omega
              · have HZ2 : Hid (∀ W, Below w.heap.size w W → RoP L w (.returned (.int .i64 20)) W) := HTO.out hz
                have hz' : (Num.tot t.toList L != 0) = true := by simp [hz]
                generalize Num.tot t.toList L = TV at *
                clear hV hz HTZ HTO HWT
                go_wp2_with fail
                go_ret
                exact HZ2.out _ HR3.out
        · have hiz : ¬ (i2 : Int) < (L.length : Int) := by omega
          have HF : Hid (RoP L w (.returned (.int .i64 0)) wr) := HEVN.out (ev_all (fun j hj => HR2.out.2 j hj (by omega))) wr HR2.out.1
          clear HR2
          go_wp2_with fail
          go_ret
          exact HF.out
end Go.Proofs.Ytbfnfebmmhhegaa
