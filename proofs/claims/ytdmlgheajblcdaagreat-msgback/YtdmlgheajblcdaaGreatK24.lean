/- Layer 10: numbers, lots and messages written. -/
import Derived.Test.YtdmlgheajblcdaaGreatK10
import Derived.WalkKit
import Derived.ProofKit
import Derived.Handy
import Derived.WalkLawsBesides
import Derived.WalkSpells
import Derived.BigQuiet
import Derived.BigCall
import Derived.Deep.QuietTactic
import Derived.Deep.Light
import Derived.Deep.OwnRows
import Derived.Laws.AppendOwnNone
import Derived.Laws.Strings3
import Derived.Laws.RangeAny
import Derived.Deep.RegionWith
import Derived.Lib.BitFns
import Derived.Lib.Walk
import Derived.Lib.Strings
import Derived.Lib.OthersKept
import Derived.Deep.CutBlock
import Derived.Deep.DeepCutAuto
import Derived.Deep.LoopGhost
import Derived.Deep.RegionHeld3
import Derived.Lib.SmallJoins
import Derived.Maps.AppendAt
import Derived.Laws.IdiomStrings
import Derived.Lib.AppendZeros
import Derived.Deep.WholeRow
import Derived.Laws.BitsAllLaws
import Derived.Lib.ConvBytes
import Derived.Deep.RegionLaw
namespace Go.Proofs.YtdmlgheajblcdaaGreat
open Go.RowKit
set_option linter.unusedVariables false
set_option linter.unusedSimpArgs false
set_option maxRecDepth 20000
theorem li {l : List UInt8} {n : Int} (h : I64 n) : (l ++ intL n).length ≤ l.length + 10 := by rw [List.length_append]; have := (uint_len (fo_lt h)).2; unfold intL; omega
theorem lt {l s : List UInt8} (h : s.length ≤ 1000) : (l ++ textL s).length ≤ l.length + 1010 := by unfold textL; rw [List.length_append, List.length_append]; have := (uint_len (n := s.length) (by omega)).2; omega
theorem lb {l : List UInt8} {b : Bool} : (l ++ boolL b).length ≤ l.length + 10 := by rw [List.length_append]; show l.length + 1 ≤ _; omega
theorem lu {l : List UInt8} {n : Nat} (h : n ≤ 1000) : (l ++ uintL n).length ≤ l.length + 10 := by rw [List.length_append]; have := (uint_len (n := n) (by omega)).2; omega
theorem ln {l : List UInt8} {xs : List Int} (h : ∀ n ∈ xs, I64 n) : (l ++ flatI xs).length ≤ l.length + 10 * xs.length := by rw [List.length_append]; have := flatI_len xs h; omega
theorem icell {xs : List Int} {k : Nat} (h : k < xs.length) : (icells xs).toArray[k]? = some (.int .i64 xs[k]) := by
  rw [List.getElem?_toArray]; unfold icells; rw [List.getElem?_map, List.getElem?_eq_getElem h]; rfl
theorem size_a (w : World) (o : Obj) : (w.alloc o).heap.size = w.heap.size + 1 := by simp
set_option maxHeartbeats 4000000 in
theorem wnums (B p : Nat) (v : Value) (l : List UInt8) (xs : List Int) (b cap : Nat) (w : World) (h : Wm B w p v l) (hX : Bx w b (icells xs).toArray 3) (hx : ∀ n ∈ xs, I64 n) (hl : l.length + 10 * xs.length ≤ 999999999000) : Calls Tryz.prog 145 #[.pointer (some ⟨p, 0, none⟩), .slice (some ⟨b, 0, none⟩) xs.length cap] w (WP B p (l ++ flatI xs) w) := by
  have hbp : b ≠ p := by
    intro e; subst e
    have h1 := h.blk
    have h2 : w.heap[b]? = some (.cells (icells xs).toArray 3 (0, 0)) := hX
    rw [h2] at h1
    injection h1 with h1; injection h1 with _ h1; cases h1
  have HX : Hid (Bx w b (icells xs).toArray 3) := hX
  have HW : Hid (Wm B w p v l) := h
  have HN : Hid (∀ n ∈ xs, I64 n) := hx
  clear h hX hx
  go_enter Tryz.func145, Tryz.ntmps145
  go_wp2_with fail
  go_loopw [8] (fun i wr => ∃ (k : Nat) (v : Value), i = .int .i64 k ∧ k ≤ xs.length ∧ Hid (Wm B wr p v (l ++ flatI (xs.take k))) ∧ Hid (Bw B p w wr)) (fun i _ => xs.length - (Lib.intOf i).toNat)
  case atStart => exact ⟨0, v, rfl, Nat.zero_le _, by unfold Hid; rw [List.take_zero]; show Wm B w p v (_ ++ []); rw [List.append_nil]; exact HW.out, Bw.refl _ _ _⟩
  case round =>
    obtain ⟨k, v2, rfl, hk, HW2, HB2⟩ := hrel
    by_cases hkn : k < xs.length
    · have hkz : (k : Int) < (xs.length : Int) := by omega
      have hc : wr.cell? ⟨b, k, none⟩ = some (.int .i64 xs[k]) := ((HX.out.bw HB2.out (by decide) hbp).cell k).trans (icell hkn)
      have hc0 : wr.cell? ⟨b, 0 + k, none⟩ = some (.int .i64 xs[k]) := by rw [Nat.zero_add]; exact hc
      have HT : Hid (l ++ flatI (xs.take k) ++ intL xs[k] = l ++ flatI (xs.take (k + 1))) := by unfold Hid; rw [flatI_take hkn, List.append_assoc]
      have HC : Hid (Calls Tryz.prog 47 #[.pointer (some ⟨p, 0, none⟩), .int .i64 xs[k]] wr (WP B p (l ++ flatI (xs.take k) ++ intL xs[k]) wr)) := by
        refine wint B p v2 _ xs[k] (HN.out _ (List.getElem_mem hkn)) wr HW2.out ?_
        rw [List.length_append]
        have := flatI_len (xs.take k) (fun n hn => HN.out n (List.mem_of_mem_take hn))
        rw [List.length_take] at this
        omega
      rw [HT.out] at HC
      generalize xs[k] = n at *
      clear HT
      go_wp2_with fail
      refine HC.out.mono ?_
      rintro e w3 ⟨rfl, v3, HW3, HB3⟩
      have HB4 : Hid (Bw B p w w3) := HB2.out.trans HB3.out
      clear HB3
      go_wp2_with fail
      exact ⟨⟨k + 1, v3, by go_num, by omega, HW3.out, HB4.out⟩, by simp [Lib.intOf]; omega⟩
    · have hkz : ¬ (k : Int) < (xs.length : Int) := by omega
      have HT : Hid (l ++ flatI (xs.take k) = l ++ flatI xs) := by unfold Hid; rw [List.take_of_length_le (by omega)]
      rw [HT.out] at HW2
      go_wp2_with fail
      go_returns
      exact ⟨rfl, v2, HW2, HB2⟩
set_option maxHeartbeats 4000000 in
theorem write1 (B p : Nat) (v : Value) (l : List UInt8) (x0 : Int) (x1 : ByteArray)  (h0 : I64 x0) (h1 : x1.data.toList.length ≤ 1000) (w : World) (h : Wm B w p v l) (hl : l.length ≤ 1000) : Calls Tryz.prog 166 #[.agg #[.int .i64 x0, .string x1], .pointer (some ⟨p, 0, none⟩)] w (WP B p (l ++ (intL x0 ++ textL x1.data.toList)) w) := by
  have hs1 : x1.size ≤ 1000 := h1
  have HW0 : Hid (Wm B (w.alloc (.cells #[.int .i64 x0, .string x1] 76)) p v l) := h.alloc _
  have HB0 : Hid (Bw B p w (w.alloc (.cells #[.int .i64 x0, .string x1] 76))) := (Bw.refl B p w).alloc h.bw _
  have HX0 : Hid (Bx (w.alloc (.cells #[.int .i64 x0, .string x1] 76)) w.heap.size #[.int .i64 x0, .string x1] 76) := Bx.new _ _ _
  have hbp : w.heap.size ≠ p := Nat.ne_of_gt h.lt
  clear h
  go_enter Tryz.func166, Tryz.ntmps166
  go_upto_region 1 with fail
  generalize w.alloc (.cells #[.int .i64 x0, .string x1] 76) = w0 at *
  generalize w.heap.size = b at *
  have c0_0 : w0.cell? ⟨b, 0, none⟩ = some (.int .i64 x0) := HX0.out.cell 0
  have HKP0 : Hid (∀ (k : Nat) (w5 : World), Bw B p (w0.drewN k) w5 → w5.cell? ⟨b, 0, none⟩ = some (.int .i64 x0)) := fun k w5 hk => ((HX0.out.drewN k).bw hk (by decide) hbp).cell 0
  go_wp2_with fail
  go_region_held3 (fun w' => w'.cell? ⟨b, 0, none⟩ = some (.int .i64 x0)) (first | go_keep | exact HKP0.out _ _ HC1.out) (first | (go_at_call 47; go_must (refine (wint B p v l x0 (by assumption) _ (HW0.out.drewN _) (by omega)).mono ?_; rintro e w1 ⟨rfl, v1, HW1, HC1⟩)))
  rename_i hHeld
  clear hHeld
  have HX1 : Hid (Bx w1 b #[.int .i64 x0, .string x1] 76) := (HX0.out.drewN _).bw HC1.out (by decide) hbp
  have HB1 : Hid (Bw B p w w1) := (HB0.out.drewN _).trans HC1.out
  clear HX0 HB0 HC1 HW0 HKP0 c0_0
  obtain ⟨l1, hl1⟩ : ∃ x, x = l ++ intL x0 := ⟨_, rfl⟩
  rw [← hl1] at HW1
  have hz1 : l1.length ≤ 1010 := by rw [hl1]; have := li (l := l) (n := x0) (by assumption); omega
  have HL1 : Hid (l1 = l ++ intL x0) := hl1
  clear hl1
  have c1_1 : w1.cell? ⟨b, 1, none⟩ = some (.string x1) := HX1.out.cell 1
  have HKP1 : Hid (∀ (k : Nat) (w5 : World), Bw B p (w1.drewN k) w5 → w5.cell? ⟨b, 1, none⟩ = some (.string x1)) := fun k w5 hk => ((HX1.out.drewN k).bw hk (by decide) hbp).cell 1
  go_wp2_with fail
  go_region_held3 (fun w' => w'.cell? ⟨b, 1, none⟩ = some (.string x1)) (first | go_keep | exact HKP1.out _ _ HC2.out) (first | (go_at_call 152; go_must (refine (wtext B p v1 l1 x1 _ (HW1.out.drewN _) (by omega)).mono ?_; rintro e w2 ⟨rfl, v2, HW2, HC2⟩)))
  rename_i hHeld
  clear hHeld
  have HX2 : Hid (Bx w2 b #[.int .i64 x0, .string x1] 76) := (HX1.out.drewN _).bw HC2.out (by decide) hbp
  have HB2 : Hid (Bw B p w w2) := (HB1.out.drewN _).trans HC2.out
  clear HX1 HB1 HC2 HW1 HKP1 c1_1
  obtain ⟨l2, hl2⟩ : ∃ x, x = l1 ++ textL x1.data.toList := ⟨_, rfl⟩
  rw [← hl2] at HW2
  have hz2 : l2.length ≤ 2020 := by rw [hl2]; have := lt (l := l1) (s := x1.data.toList) (by assumption); omega
  have HL2 : Hid (l2 = l1 ++ textL x1.data.toList) := hl2
  clear hl2
  go_wp2_with fail
  go_returns
  exact ⟨rfl, v2, by unfold Hid; refine cast (congrArg (fun z => Wm B _ p v2 z) ?_) HW2.out; simp only [HL2.out, HL1.out, flatI, cutL, lotL, flatM, bkL, List.append_assoc, List.append_nil], HB2⟩
set_option maxHeartbeats 4000000 in
theorem write2 (B p : Nat) (v : Value) (l : List UInt8) (x0 : ByteArray) (x1 : Int) (x2 : Int) (x3 : Int) (x4 : ByteArray)  (h0 : x0.data.toList.length ≤ 1000) (h1 : I64 x1) (h2 : I64 x2) (h3 : I64 x3) (h4 : x4.data.toList.length ≤ 1000) (w : World) (h : Wm B w p v l) (hl : l.length ≤ 1000) : Calls Tryz.prog 175 #[.agg #[.string x0, .int .i64 x1, .int .i64 x2, .int .i64 x3, .string x4], .pointer (some ⟨p, 0, none⟩)] w (WP B p (l ++ (textL x0.data.toList ++ (intL x1 ++ (intL x2 ++ (intL x3 ++ textL x4.data.toList))))) w) := by
  have hs0 : x0.size ≤ 1000 := h0
  have hs4 : x4.size ≤ 1000 := h4
  have HW0 : Hid (Wm B (w.alloc (.cells #[.string x0, .int .i64 x1, .int .i64 x2, .int .i64 x3, .string x4] 78)) p v l) := h.alloc _
  have HB0 : Hid (Bw B p w (w.alloc (.cells #[.string x0, .int .i64 x1, .int .i64 x2, .int .i64 x3, .string x4] 78))) := (Bw.refl B p w).alloc h.bw _
  have HX0 : Hid (Bx (w.alloc (.cells #[.string x0, .int .i64 x1, .int .i64 x2, .int .i64 x3, .string x4] 78)) w.heap.size #[.string x0, .int .i64 x1, .int .i64 x2, .int .i64 x3, .string x4] 78) := Bx.new _ _ _
  have hbp : w.heap.size ≠ p := Nat.ne_of_gt h.lt
  clear h
  go_enter Tryz.func175, Tryz.ntmps175
  go_upto_region 1 with fail
  generalize w.alloc (.cells #[.string x0, .int .i64 x1, .int .i64 x2, .int .i64 x3, .string x4] 78) = w0 at *
  generalize w.heap.size = b at *
  have c0_0 : w0.cell? ⟨b, 0, none⟩ = some (.string x0) := HX0.out.cell 0
  have HKP0 : Hid (∀ (k : Nat) (w5 : World), Bw B p (w0.drewN k) w5 → w5.cell? ⟨b, 0, none⟩ = some (.string x0)) := fun k w5 hk => ((HX0.out.drewN k).bw hk (by decide) hbp).cell 0
  go_wp2_with fail
  go_region_held3 (fun w' => w'.cell? ⟨b, 0, none⟩ = some (.string x0)) (first | go_keep | exact HKP0.out _ _ HC1.out) (first | (go_at_call 152; go_must (refine (wtext B p v l x0 _ (HW0.out.drewN _) (by omega)).mono ?_; rintro e w1 ⟨rfl, v1, HW1, HC1⟩)))
  rename_i hHeld
  clear hHeld
  have HX1 : Hid (Bx w1 b #[.string x0, .int .i64 x1, .int .i64 x2, .int .i64 x3, .string x4] 78) := (HX0.out.drewN _).bw HC1.out (by decide) hbp
  have HB1 : Hid (Bw B p w w1) := (HB0.out.drewN _).trans HC1.out
  clear HX0 HB0 HC1 HW0 HKP0 c0_0
  obtain ⟨l1, hl1⟩ : ∃ x, x = l ++ textL x0.data.toList := ⟨_, rfl⟩
  rw [← hl1] at HW1
  have hz1 : l1.length ≤ 2010 := by rw [hl1]; have := lt (l := l) (s := x0.data.toList) (by assumption); omega
  have HL1 : Hid (l1 = l ++ textL x0.data.toList) := hl1
  clear hl1
  have c1_1 : w1.cell? ⟨b, 1, none⟩ = some (.int .i64 x1) := HX1.out.cell 1
  have c1_2 : w1.cell? ⟨b, 2, none⟩ = some (.int .i64 x2) := HX1.out.cell 2
  have c1_3 : w1.cell? ⟨b, 3, none⟩ = some (.int .i64 x3) := HX1.out.cell 3
  have HN1 : Hid (∀ n ∈ [x1, x2, x3], I64 n) := by unfold Hid; intro n hn; simp only [List.mem_cons, List.not_mem_nil, or_false] at hn; rcases hn with rfl | rfl | rfl <;> assumption
  go_wp2_with fail
  refine (wnums B p v1 l1 [x1, x2, x3] w1.heap.size _ _ (HW1.out.alloc _) (Bx.new _ _ _) HN1.out (by show l1.length + 30 ≤ _; omega)).mono ?_
  rintro e w2 ⟨rfl, v2, HW2, HC2⟩
  have HX2 : Hid (Bx w2 b #[.string x0, .int .i64 x1, .int .i64 x2, .int .i64 x3, .string x4] 78) := (HX1.out.keep (below_a _ _)).bw HC2.out (by decide) hbp
  have HB2 : Hid (Bw B p w w2) := (HB1.out.alloc HW1.out.bw _).trans HC2.out
  obtain ⟨l2, hl2⟩ : ∃ x, x = l1 ++ flatI [x1, x2, x3] := ⟨_, rfl⟩
  rw [← hl2] at HW2
  have hz2 : l2.length ≤ 2040 := by rw [hl2]; have := ln (l := l1) (xs := [x1, x2, x3]) HN1.out; have e : [x1, x2, x3].length = 3 := rfl; rw [e] at this; omega
  have HL2 : Hid (l2 = l1 ++ flatI [x1, x2, x3]) := hl2
  clear hl2
  clear HX1 HB1 HC2 HW1 HN1 c1_1 c1_2 c1_3
  have c2_4 : w2.cell? ⟨b, 4, none⟩ = some (.string x4) := HX2.out.cell 4
  have HKP2 : Hid (∀ (k : Nat) (w5 : World), Bw B p (w2.drewN k) w5 → w5.cell? ⟨b, 4, none⟩ = some (.string x4)) := fun k w5 hk => ((HX2.out.drewN k).bw hk (by decide) hbp).cell 4
  go_wp2_with fail
  go_region_held3 (fun w' => w'.cell? ⟨b, 4, none⟩ = some (.string x4)) (first | go_keep | exact HKP2.out _ _ HC3.out) (first | (go_at_call 152; go_must (refine (wtext B p v2 l2 x4 _ (HW2.out.drewN _) (by omega)).mono ?_; rintro e w3 ⟨rfl, v3, HW3, HC3⟩)))
  rename_i hHeld
  clear hHeld
  have HX3 : Hid (Bx w3 b #[.string x0, .int .i64 x1, .int .i64 x2, .int .i64 x3, .string x4] 78) := (HX2.out.drewN _).bw HC3.out (by decide) hbp
  have HB3 : Hid (Bw B p w w3) := (HB2.out.drewN _).trans HC3.out
  clear HX2 HB2 HC3 HW2 HKP2 c2_4
  obtain ⟨l3, hl3⟩ : ∃ x, x = l2 ++ textL x4.data.toList := ⟨_, rfl⟩
  rw [← hl3] at HW3
  have hz3 : l3.length ≤ 3050 := by rw [hl3]; have := lt (l := l2) (s := x4.data.toList) (by assumption); omega
  have HL3 : Hid (l3 = l2 ++ textL x4.data.toList) := hl3
  clear hl3
  go_wp2_with fail
  go_returns
  exact ⟨rfl, v3, by unfold Hid; refine cast (congrArg (fun z => Wm B _ p v3 z) ?_) HW3.out; simp only [HL3.out, HL2.out, HL1.out, flatI, cutL, lotL, flatM, bkL, List.append_assoc, List.append_nil], HB3⟩
set_option maxHeartbeats 4000000 in
theorem write6 (B p : Nat) (v : Value) (l : List UInt8) (x0 : Int) (x1 : ByteArray) (x2 : Int)  (h0 : I64 x0) (h1 : x1.data.toList.length ≤ 1000) (h2 : I64 x2) (w : World) (h : Wm B w p v l) (hl : l.length ≤ 1000) : Calls Tryz.prog 187 #[.agg #[.int .i64 x0, .string x1, .int .i64 x2], .pointer (some ⟨p, 0, none⟩)] w (WP B p (l ++ (intL x0 ++ (intL x2 ++ textL x1.data.toList))) w) := by
  have hs1 : x1.size ≤ 1000 := h1
  have HW0 : Hid (Wm B (w.alloc (.cells #[.int .i64 x0, .string x1, .int .i64 x2] 84)) p v l) := h.alloc _
  have HB0 : Hid (Bw B p w (w.alloc (.cells #[.int .i64 x0, .string x1, .int .i64 x2] 84))) := (Bw.refl B p w).alloc h.bw _
  have HX0 : Hid (Bx (w.alloc (.cells #[.int .i64 x0, .string x1, .int .i64 x2] 84)) w.heap.size #[.int .i64 x0, .string x1, .int .i64 x2] 84) := Bx.new _ _ _
  have hbp : w.heap.size ≠ p := Nat.ne_of_gt h.lt
  clear h
  go_enter Tryz.func187, Tryz.ntmps187
  go_upto_region 1 with fail
  generalize w.alloc (.cells #[.int .i64 x0, .string x1, .int .i64 x2] 84) = w0 at *
  generalize w.heap.size = b at *
  have c0_0 : w0.cell? ⟨b, 0, none⟩ = some (.int .i64 x0) := HX0.out.cell 0
  have c0_2 : w0.cell? ⟨b, 2, none⟩ = some (.int .i64 x2) := HX0.out.cell 2
  have HN0 : Hid (∀ n ∈ [x0, x2], I64 n) := by unfold Hid; intro n hn; simp only [List.mem_cons, List.not_mem_nil, or_false] at hn; rcases hn with rfl | rfl <;> assumption
  go_wp2_with fail
  refine (wnums B p v l [x0, x2] w0.heap.size _ _ (HW0.out.alloc _) (Bx.new _ _ _) HN0.out (by show l.length + 20 ≤ _; omega)).mono ?_
  rintro e w1 ⟨rfl, v1, HW1, HC1⟩
  have HX1 : Hid (Bx w1 b #[.int .i64 x0, .string x1, .int .i64 x2] 84) := (HX0.out.keep (below_a _ _)).bw HC1.out (by decide) hbp
  have HB1 : Hid (Bw B p w w1) := (HB0.out.alloc HW0.out.bw _).trans HC1.out
  obtain ⟨l1, hl1⟩ : ∃ x, x = l ++ flatI [x0, x2] := ⟨_, rfl⟩
  rw [← hl1] at HW1
  have hz1 : l1.length ≤ 1020 := by rw [hl1]; have := ln (l := l) (xs := [x0, x2]) HN0.out; have e : [x0, x2].length = 2 := rfl; rw [e] at this; omega
  have HL1 : Hid (l1 = l ++ flatI [x0, x2]) := hl1
  clear hl1
  clear HX0 HB0 HC1 HW0 HN0 c0_0 c0_2
  have c1_1 : w1.cell? ⟨b, 1, none⟩ = some (.string x1) := HX1.out.cell 1
  have HKP1 : Hid (∀ (k : Nat) (w5 : World), Bw B p (w1.drewN k) w5 → w5.cell? ⟨b, 1, none⟩ = some (.string x1)) := fun k w5 hk => ((HX1.out.drewN k).bw hk (by decide) hbp).cell 1
  go_wp2_with fail
  go_region_held3 (fun w' => w'.cell? ⟨b, 1, none⟩ = some (.string x1)) (first | go_keep | exact HKP1.out _ _ HC2.out) (first | (go_at_call 152; go_must (refine (wtext B p v1 l1 x1 _ (HW1.out.drewN _) (by omega)).mono ?_; rintro e w2 ⟨rfl, v2, HW2, HC2⟩)))
  rename_i hHeld
  clear hHeld
  have HX2 : Hid (Bx w2 b #[.int .i64 x0, .string x1, .int .i64 x2] 84) := (HX1.out.drewN _).bw HC2.out (by decide) hbp
  have HB2 : Hid (Bw B p w w2) := (HB1.out.drewN _).trans HC2.out
  clear HX1 HB1 HC2 HW1 HKP1 c1_1
  obtain ⟨l2, hl2⟩ : ∃ x, x = l1 ++ textL x1.data.toList := ⟨_, rfl⟩
  rw [← hl2] at HW2
  have hz2 : l2.length ≤ 2030 := by rw [hl2]; have := lt (l := l1) (s := x1.data.toList) (by assumption); omega
  have HL2 : Hid (l2 = l1 ++ textL x1.data.toList) := hl2
  clear hl2
  go_wp2_with fail
  go_returns
  exact ⟨rfl, v2, by unfold Hid; refine cast (congrArg (fun z => Wm B _ p v2 z) ?_) HW2.out; simp only [HL2.out, HL1.out, flatI, cutL, lotL, flatM, bkL, List.append_assoc, List.append_nil], HB2⟩
set_option maxHeartbeats 4000000 in
theorem write7 (B p : Nat) (v : Value) (l : List UInt8) (x0 : Int) (x1 : ByteArray) (x2 : Int)  (h0 : I64 x0) (h1 : x1.data.toList.length ≤ 1000) (h2 : I64 x2) (w : World) (h : Wm B w p v l) (hl : l.length ≤ 1000) : Calls Tryz.prog 191 #[.agg #[.int .i64 x0, .string x1, .int .i64 x2], .pointer (some ⟨p, 0, none⟩)] w (WP B p (l ++ (intL x0 ++ (intL x2 ++ textL x1.data.toList))) w) := by
  have hs1 : x1.size ≤ 1000 := h1
  have HW0 : Hid (Wm B (w.alloc (.cells #[.int .i64 x0, .string x1, .int .i64 x2] 86)) p v l) := h.alloc _
  have HB0 : Hid (Bw B p w (w.alloc (.cells #[.int .i64 x0, .string x1, .int .i64 x2] 86))) := (Bw.refl B p w).alloc h.bw _
  have HX0 : Hid (Bx (w.alloc (.cells #[.int .i64 x0, .string x1, .int .i64 x2] 86)) w.heap.size #[.int .i64 x0, .string x1, .int .i64 x2] 86) := Bx.new _ _ _
  have hbp : w.heap.size ≠ p := Nat.ne_of_gt h.lt
  clear h
  go_enter Tryz.func191, Tryz.ntmps191
  go_upto_region 1 with fail
  generalize w.alloc (.cells #[.int .i64 x0, .string x1, .int .i64 x2] 86) = w0 at *
  generalize w.heap.size = b at *
  have c0_0 : w0.cell? ⟨b, 0, none⟩ = some (.int .i64 x0) := HX0.out.cell 0
  have c0_2 : w0.cell? ⟨b, 2, none⟩ = some (.int .i64 x2) := HX0.out.cell 2
  have HN0 : Hid (∀ n ∈ [x0, x2], I64 n) := by unfold Hid; intro n hn; simp only [List.mem_cons, List.not_mem_nil, or_false] at hn; rcases hn with rfl | rfl <;> assumption
  go_wp2_with fail
  refine (wnums B p v l [x0, x2] w0.heap.size _ _ (HW0.out.alloc _) (Bx.new _ _ _) HN0.out (by show l.length + 20 ≤ _; omega)).mono ?_
  rintro e w1 ⟨rfl, v1, HW1, HC1⟩
  have HX1 : Hid (Bx w1 b #[.int .i64 x0, .string x1, .int .i64 x2] 86) := (HX0.out.keep (below_a _ _)).bw HC1.out (by decide) hbp
  have HB1 : Hid (Bw B p w w1) := (HB0.out.alloc HW0.out.bw _).trans HC1.out
  obtain ⟨l1, hl1⟩ : ∃ x, x = l ++ flatI [x0, x2] := ⟨_, rfl⟩
  rw [← hl1] at HW1
  have hz1 : l1.length ≤ 1020 := by rw [hl1]; have := ln (l := l) (xs := [x0, x2]) HN0.out; have e : [x0, x2].length = 2 := rfl; rw [e] at this; omega
  have HL1 : Hid (l1 = l ++ flatI [x0, x2]) := hl1
  clear hl1
  clear HX0 HB0 HC1 HW0 HN0 c0_0 c0_2
  have c1_1 : w1.cell? ⟨b, 1, none⟩ = some (.string x1) := HX1.out.cell 1
  have HKP1 : Hid (∀ (k : Nat) (w5 : World), Bw B p (w1.drewN k) w5 → w5.cell? ⟨b, 1, none⟩ = some (.string x1)) := fun k w5 hk => ((HX1.out.drewN k).bw hk (by decide) hbp).cell 1
  go_wp2_with fail
  go_region_held3 (fun w' => w'.cell? ⟨b, 1, none⟩ = some (.string x1)) (first | go_keep | exact HKP1.out _ _ HC2.out) (first | (go_at_call 152; go_must (refine (wtext B p v1 l1 x1 _ (HW1.out.drewN _) (by omega)).mono ?_; rintro e w2 ⟨rfl, v2, HW2, HC2⟩)))
  rename_i hHeld
  clear hHeld
  have HX2 : Hid (Bx w2 b #[.int .i64 x0, .string x1, .int .i64 x2] 86) := (HX1.out.drewN _).bw HC2.out (by decide) hbp
  have HB2 : Hid (Bw B p w w2) := (HB1.out.drewN _).trans HC2.out
  clear HX1 HB1 HC2 HW1 HKP1 c1_1
  obtain ⟨l2, hl2⟩ : ∃ x, x = l1 ++ textL x1.data.toList := ⟨_, rfl⟩
  rw [← hl2] at HW2
  have hz2 : l2.length ≤ 2030 := by rw [hl2]; have := lt (l := l1) (s := x1.data.toList) (by assumption); omega
  have HL2 : Hid (l2 = l1 ++ textL x1.data.toList) := hl2
  clear hl2
  go_wp2_with fail
  go_returns
  exact ⟨rfl, v2, by unfold Hid; refine cast (congrArg (fun z => Wm B _ p v2 z) ?_) HW2.out; simp only [HL2.out, HL1.out, flatI, cutL, lotL, flatM, bkL, List.append_assoc, List.append_nil], HB2⟩
set_option maxHeartbeats 4000000 in
theorem write8 (B p : Nat) (v : Value) (l : List UInt8) (x0 : Int) (x1 : Int) (x2 : Int) (x3 : Int) (x4 : Int) (x5 : Int) (x6 : Int) (x7 : Int)  (h0 : I64 x0) (h1 : I64 x1) (h2 : I64 x2) (h3 : I64 x3) (h4 : I64 x4) (h5 : I64 x5) (h6 : I64 x6) (h7 : I64 x7) (w : World) (h : Wm B w p v l) (hl : l.length ≤ 1000) : Calls Tryz.prog 139 #[.agg #[.int .i64 x0, .int .i64 x1, .int .i64 x2, .int .i64 x3, .int .i64 x4, .int .i64 x5, .int .i64 x6, .int .i64 x7], .pointer (some ⟨p, 0, none⟩)] w (WP B p (l ++ (intL x0 ++ (intL x1 ++ (intL x2 ++ (intL x3 ++ (intL x4 ++ (intL x5 ++ (intL x6 ++ intL x7)))))))) w) := by
  have HW0 : Hid (Wm B ((w.alloc (.cells #[.int .i64 x0, .int .i64 x1, .int .i64 x2, .int .i64 x3, .int .i64 x4, .int .i64 x5, .int .i64 x6, .int .i64 x7] 63)).alloc (.cells #[.int .i64 x0, .int .i64 x1, .int .i64 x2, .int .i64 x3, .int .i64 x4, .int .i64 x5, .int .i64 x6, .int .i64 x7] 30)) p v l) := (h.alloc _).alloc _
  have HB0 : Hid (Bw B p w ((w.alloc (.cells #[.int .i64 x0, .int .i64 x1, .int .i64 x2, .int .i64 x3, .int .i64 x4, .int .i64 x5, .int .i64 x6, .int .i64 x7] 63)).alloc (.cells #[.int .i64 x0, .int .i64 x1, .int .i64 x2, .int .i64 x3, .int .i64 x4, .int .i64 x5, .int .i64 x6, .int .i64 x7] 30))) := ((Bw.refl B p w).alloc h.bw _).alloc (h.alloc _).bw _
  have HX0 : Hid (Bx ((w.alloc (.cells #[.int .i64 x0, .int .i64 x1, .int .i64 x2, .int .i64 x3, .int .i64 x4, .int .i64 x5, .int .i64 x6, .int .i64 x7] 63)).alloc (.cells #[.int .i64 x0, .int .i64 x1, .int .i64 x2, .int .i64 x3, .int .i64 x4, .int .i64 x5, .int .i64 x6, .int .i64 x7] 30)) (w.heap.size + 1) #[.int .i64 x0, .int .i64 x1, .int .i64 x2, .int .i64 x3, .int .i64 x4, .int .i64 x5, .int .i64 x6, .int .i64 x7] 30) := by have := Bx.new (w.alloc (.cells #[.int .i64 x0, .int .i64 x1, .int .i64 x2, .int .i64 x3, .int .i64 x4, .int .i64 x5, .int .i64 x6, .int .i64 x7] 63)) #[.int .i64 x0, .int .i64 x1, .int .i64 x2, .int .i64 x3, .int .i64 x4, .int .i64 x5, .int .i64 x6, .int .i64 x7] 30; rwa [size_a] at this
  have hbp : w.heap.size + 1 ≠ p := by have := h.lt; omega
  clear h
  go_enter Tryz.func139, Tryz.ntmps139
  go_upto_region 2 with fail
  generalize ((w.alloc (.cells #[.int .i64 x0, .int .i64 x1, .int .i64 x2, .int .i64 x3, .int .i64 x4, .int .i64 x5, .int .i64 x6, .int .i64 x7] 63)).alloc (.cells #[.int .i64 x0, .int .i64 x1, .int .i64 x2, .int .i64 x3, .int .i64 x4, .int .i64 x5, .int .i64 x6, .int .i64 x7] 30)) = w0 at *
  generalize w.heap.size + 1 = b at *
  have c0_0 : w0.cell? ⟨b, 0, none⟩ = some (.int .i64 x0) := HX0.out.cell 0
  have c0_1 : w0.cell? ⟨b, 1, none⟩ = some (.int .i64 x1) := HX0.out.cell 1
  have c0_2 : w0.cell? ⟨b, 2, none⟩ = some (.int .i64 x2) := HX0.out.cell 2
  have c0_3 : w0.cell? ⟨b, 3, none⟩ = some (.int .i64 x3) := HX0.out.cell 3
  have c0_4 : w0.cell? ⟨b, 4, none⟩ = some (.int .i64 x4) := HX0.out.cell 4
  have c0_5 : w0.cell? ⟨b, 5, none⟩ = some (.int .i64 x5) := HX0.out.cell 5
  have c0_6 : w0.cell? ⟨b, 6, none⟩ = some (.int .i64 x6) := HX0.out.cell 6
  have c0_7 : w0.cell? ⟨b, 7, none⟩ = some (.int .i64 x7) := HX0.out.cell 7
  have HN0 : Hid (∀ n ∈ [x0, x1, x2, x3, x4, x5, x6, x7], I64 n) := by unfold Hid; intro n hn; simp only [List.mem_cons, List.not_mem_nil, or_false] at hn; rcases hn with rfl | rfl | rfl | rfl | rfl | rfl | rfl | rfl <;> assumption
  go_wp2_with fail
  refine (wnums B p v l [x0, x1, x2, x3, x4, x5, x6, x7] w0.heap.size _ _ (HW0.out.alloc _) (Bx.new _ _ _) HN0.out (by show l.length + 80 ≤ _; omega)).mono ?_
  rintro e w1 ⟨rfl, v1, HW1, HC1⟩
  have HX1 : Hid (Bx w1 b #[.int .i64 x0, .int .i64 x1, .int .i64 x2, .int .i64 x3, .int .i64 x4, .int .i64 x5, .int .i64 x6, .int .i64 x7] 30) := (HX0.out.keep (below_a _ _)).bw HC1.out (by decide) hbp
  have HB1 : Hid (Bw B p w w1) := (HB0.out.alloc HW0.out.bw _).trans HC1.out
  obtain ⟨l1, hl1⟩ : ∃ x, x = l ++ flatI [x0, x1, x2, x3, x4, x5, x6, x7] := ⟨_, rfl⟩
  rw [← hl1] at HW1
  have hz1 : l1.length ≤ 1080 := by rw [hl1]; have := ln (l := l) (xs := [x0, x1, x2, x3, x4, x5, x6, x7]) HN0.out; have e : [x0, x1, x2, x3, x4, x5, x6, x7].length = 8 := rfl; rw [e] at this; omega
  have HL1 : Hid (l1 = l ++ flatI [x0, x1, x2, x3, x4, x5, x6, x7]) := hl1
  clear hl1
  clear HX0 HB0 HC1 HW0 HN0 c0_0 c0_1 c0_2 c0_3 c0_4 c0_5 c0_6 c0_7
  go_wp2_with fail
  go_returns
  exact ⟨rfl, v1, by unfold Hid; refine cast (congrArg (fun z => Wm B _ p v1 z) ?_) HW1.out; simp only [HL1.out, flatI, cutL, lotL, flatM, bkL, List.append_assoc, List.append_nil], HB1⟩
set_option maxHeartbeats 4000000 in
theorem write9 (B p : Nat) (v : Value) (l : List UInt8) (x0 : Int) (x1 : Int)  (h0 : I64 x0) (h1 : I64 x1) (w : World) (h : Wm B w p v l) (hl : l.length ≤ 1000) : Calls Tryz.prog 194 #[.agg #[.int .i64 x0, .int .i64 x1], .pointer (some ⟨p, 0, none⟩)] w (WP B p (l ++ (intL x0 ++ intL x1)) w) := by
  have HW0 : Hid (Wm B (w.alloc (.cells #[.int .i64 x0, .int .i64 x1] 88)) p v l) := h.alloc _
  have HB0 : Hid (Bw B p w (w.alloc (.cells #[.int .i64 x0, .int .i64 x1] 88))) := (Bw.refl B p w).alloc h.bw _
  have HX0 : Hid (Bx (w.alloc (.cells #[.int .i64 x0, .int .i64 x1] 88)) w.heap.size #[.int .i64 x0, .int .i64 x1] 88) := Bx.new _ _ _
  have hbp : w.heap.size ≠ p := Nat.ne_of_gt h.lt
  clear h
  go_enter Tryz.func194, Tryz.ntmps194
  go_upto_region 1 with fail
  generalize w.alloc (.cells #[.int .i64 x0, .int .i64 x1] 88) = w0 at *
  generalize w.heap.size = b at *
  have c0_0 : w0.cell? ⟨b, 0, none⟩ = some (.int .i64 x0) := HX0.out.cell 0
  have c0_1 : w0.cell? ⟨b, 1, none⟩ = some (.int .i64 x1) := HX0.out.cell 1
  have HN0 : Hid (∀ n ∈ [x0, x1], I64 n) := by unfold Hid; intro n hn; simp only [List.mem_cons, List.not_mem_nil, or_false] at hn; rcases hn with rfl | rfl <;> assumption
  go_wp2_with fail
  refine (wnums B p v l [x0, x1] w0.heap.size _ _ (HW0.out.alloc _) (Bx.new _ _ _) HN0.out (by show l.length + 20 ≤ _; omega)).mono ?_
  rintro e w1 ⟨rfl, v1, HW1, HC1⟩
  have HX1 : Hid (Bx w1 b #[.int .i64 x0, .int .i64 x1] 88) := (HX0.out.keep (below_a _ _)).bw HC1.out (by decide) hbp
  have HB1 : Hid (Bw B p w w1) := (HB0.out.alloc HW0.out.bw _).trans HC1.out
  obtain ⟨l1, hl1⟩ : ∃ x, x = l ++ flatI [x0, x1] := ⟨_, rfl⟩
  rw [← hl1] at HW1
  have hz1 : l1.length ≤ 1020 := by rw [hl1]; have := ln (l := l) (xs := [x0, x1]) HN0.out; have e : [x0, x1].length = 2 := rfl; rw [e] at this; omega
  have HL1 : Hid (l1 = l ++ flatI [x0, x1]) := hl1
  clear hl1
  clear HX0 HB0 HC1 HW0 HN0 c0_0 c0_1
  go_wp2_with fail
  go_returns
  exact ⟨rfl, v1, by unfold Hid; refine cast (congrArg (fun z => Wm B _ p v1 z) ?_) HW1.out; simp only [HL1.out, flatI, cutL, lotL, flatM, bkL, List.append_assoc, List.append_nil], HB1⟩
set_option maxHeartbeats 4000000 in
theorem write10 (B p : Nat) (v : Value) (l : List UInt8) (x0 : Int) (x1 : Int) (x2 : Int)  (h0 : I64 x0) (h1 : I64 x1) (h2 : I64 x2) (w : World) (h : Wm B w p v l) (hl : l.length ≤ 1000) : Calls Tryz.prog 197 #[.agg #[.int .i64 x0, .int .i64 x1, .int .i64 x2], .pointer (some ⟨p, 0, none⟩)] w (WP B p (l ++ (intL x0 ++ (intL x1 ++ intL x2))) w) := by
  have HW0 : Hid (Wm B (w.alloc (.cells #[.int .i64 x0, .int .i64 x1, .int .i64 x2] 90)) p v l) := h.alloc _
  have HB0 : Hid (Bw B p w (w.alloc (.cells #[.int .i64 x0, .int .i64 x1, .int .i64 x2] 90))) := (Bw.refl B p w).alloc h.bw _
  have HX0 : Hid (Bx (w.alloc (.cells #[.int .i64 x0, .int .i64 x1, .int .i64 x2] 90)) w.heap.size #[.int .i64 x0, .int .i64 x1, .int .i64 x2] 90) := Bx.new _ _ _
  have hbp : w.heap.size ≠ p := Nat.ne_of_gt h.lt
  clear h
  go_enter Tryz.func197, Tryz.ntmps197
  go_upto_region 1 with fail
  generalize w.alloc (.cells #[.int .i64 x0, .int .i64 x1, .int .i64 x2] 90) = w0 at *
  generalize w.heap.size = b at *
  have c0_0 : w0.cell? ⟨b, 0, none⟩ = some (.int .i64 x0) := HX0.out.cell 0
  have c0_1 : w0.cell? ⟨b, 1, none⟩ = some (.int .i64 x1) := HX0.out.cell 1
  have c0_2 : w0.cell? ⟨b, 2, none⟩ = some (.int .i64 x2) := HX0.out.cell 2
  have HN0 : Hid (∀ n ∈ [x0, x1, x2], I64 n) := by unfold Hid; intro n hn; simp only [List.mem_cons, List.not_mem_nil, or_false] at hn; rcases hn with rfl | rfl | rfl <;> assumption
  go_wp2_with fail
  refine (wnums B p v l [x0, x1, x2] w0.heap.size _ _ (HW0.out.alloc _) (Bx.new _ _ _) HN0.out (by show l.length + 30 ≤ _; omega)).mono ?_
  rintro e w1 ⟨rfl, v1, HW1, HC1⟩
  have HX1 : Hid (Bx w1 b #[.int .i64 x0, .int .i64 x1, .int .i64 x2] 90) := (HX0.out.keep (below_a _ _)).bw HC1.out (by decide) hbp
  have HB1 : Hid (Bw B p w w1) := (HB0.out.alloc HW0.out.bw _).trans HC1.out
  obtain ⟨l1, hl1⟩ : ∃ x, x = l ++ flatI [x0, x1, x2] := ⟨_, rfl⟩
  rw [← hl1] at HW1
  have hz1 : l1.length ≤ 1030 := by rw [hl1]; have := ln (l := l) (xs := [x0, x1, x2]) HN0.out; have e : [x0, x1, x2].length = 3 := rfl; rw [e] at this; omega
  have HL1 : Hid (l1 = l ++ flatI [x0, x1, x2]) := hl1
  clear hl1
  clear HX0 HB0 HC1 HW0 HN0 c0_0 c0_1 c0_2
  go_wp2_with fail
  go_returns
  exact ⟨rfl, v1, by unfold Hid; refine cast (congrArg (fun z => Wm B _ p v1 z) ?_) HW1.out; simp only [HL1.out, flatI, cutL, lotL, flatM, bkL, List.append_assoc, List.append_nil], HB1⟩
set_option maxHeartbeats 4000000 in
theorem write12 (B p : Nat) (v : Value) (l : List UInt8) (x0 : Int) (x1 : Int) (x2 : Bool)  (h0 : I64 x0) (h1 : I64 x1) (w : World) (h : Wm B w p v l) (hl : l.length ≤ 1000) : Calls Tryz.prog 200 #[.agg #[.int .i64 x0, .int .i64 x1, .bool x2], .pointer (some ⟨p, 0, none⟩)] w (WP B p (l ++ (intL x0 ++ (intL x1 ++ boolL x2))) w) := by
  have HW0 : Hid (Wm B (w.alloc (.cells #[.int .i64 x0, .int .i64 x1, .bool x2] 92)) p v l) := h.alloc _
  have HB0 : Hid (Bw B p w (w.alloc (.cells #[.int .i64 x0, .int .i64 x1, .bool x2] 92))) := (Bw.refl B p w).alloc h.bw _
  have HX0 : Hid (Bx (w.alloc (.cells #[.int .i64 x0, .int .i64 x1, .bool x2] 92)) w.heap.size #[.int .i64 x0, .int .i64 x1, .bool x2] 92) := Bx.new _ _ _
  have hbp : w.heap.size ≠ p := Nat.ne_of_gt h.lt
  clear h
  go_enter Tryz.func200, Tryz.ntmps200
  go_upto_region 1 with fail
  generalize w.alloc (.cells #[.int .i64 x0, .int .i64 x1, .bool x2] 92) = w0 at *
  generalize w.heap.size = b at *
  have c0_0 : w0.cell? ⟨b, 0, none⟩ = some (.int .i64 x0) := HX0.out.cell 0
  have c0_1 : w0.cell? ⟨b, 1, none⟩ = some (.int .i64 x1) := HX0.out.cell 1
  have HN0 : Hid (∀ n ∈ [x0, x1], I64 n) := by unfold Hid; intro n hn; simp only [List.mem_cons, List.not_mem_nil, or_false] at hn; rcases hn with rfl | rfl <;> assumption
  go_wp2_with fail
  refine (wnums B p v l [x0, x1] w0.heap.size _ _ (HW0.out.alloc _) (Bx.new _ _ _) HN0.out (by show l.length + 20 ≤ _; omega)).mono ?_
  rintro e w1 ⟨rfl, v1, HW1, HC1⟩
  have HX1 : Hid (Bx w1 b #[.int .i64 x0, .int .i64 x1, .bool x2] 92) := (HX0.out.keep (below_a _ _)).bw HC1.out (by decide) hbp
  have HB1 : Hid (Bw B p w w1) := (HB0.out.alloc HW0.out.bw _).trans HC1.out
  obtain ⟨l1, hl1⟩ : ∃ x, x = l ++ flatI [x0, x1] := ⟨_, rfl⟩
  rw [← hl1] at HW1
  have hz1 : l1.length ≤ 1020 := by rw [hl1]; have := ln (l := l) (xs := [x0, x1]) HN0.out; have e : [x0, x1].length = 2 := rfl; rw [e] at this; omega
  have HL1 : Hid (l1 = l ++ flatI [x0, x1]) := hl1
  clear hl1
  clear HX0 HB0 HC1 HW0 HN0 c0_0 c0_1
  have c1_2 : w1.cell? ⟨b, 2, none⟩ = some (.bool x2) := HX1.out.cell 2
  have HKP1 : Hid (∀ (k : Nat) (w5 : World), Bw B p (w1.drewN k) w5 → w5.cell? ⟨b, 2, none⟩ = some (.bool x2)) := fun k w5 hk => ((HX1.out.drewN k).bw hk (by decide) hbp).cell 2
  go_wp2_with fail
  go_region_held3 (fun w' => w'.cell? ⟨b, 2, none⟩ = some (.bool x2)) (first | go_keep | exact HKP1.out _ _ HC2.out) (first | (go_at_call 201; go_must (refine (wbool B p v1 l1 x2 _ (HW1.out.drewN _) (by omega)).mono ?_; rintro e w2 ⟨rfl, v2, HW2, HC2⟩)))
  rename_i hHeld
  clear hHeld
  have HX2 : Hid (Bx w2 b #[.int .i64 x0, .int .i64 x1, .bool x2] 92) := (HX1.out.drewN _).bw HC2.out (by decide) hbp
  have HB2 : Hid (Bw B p w w2) := (HB1.out.drewN _).trans HC2.out
  clear HX1 HB1 HC2 HW1 HKP1 c1_2
  obtain ⟨l2, hl2⟩ : ∃ x, x = l1 ++ boolL x2 := ⟨_, rfl⟩
  rw [← hl2] at HW2
  have hz2 : l2.length ≤ 1030 := by rw [hl2]; have := lb (l := l1) (b := x2); omega
  have HL2 : Hid (l2 = l1 ++ boolL x2) := hl2
  clear hl2
  go_wp2_with fail
  go_returns
  exact ⟨rfl, v2, by unfold Hid; refine cast (congrArg (fun z => Wm B _ p v2 z) ?_) HW2.out; simp only [HL2.out, HL1.out, flatI, cutL, lotL, flatM, bkL, List.append_assoc, List.append_nil], HB2⟩
set_option maxHeartbeats 4000000 in
theorem write13 (B p : Nat) (v : Value) (l : List UInt8) (x0 : Int)  (h0 : I64 x0) (w : World) (h : Wm B w p v l) (hl : l.length ≤ 1000) : Calls Tryz.prog 204 #[.agg #[.int .i64 x0], .pointer (some ⟨p, 0, none⟩)] w (WP B p (l ++ (intL x0)) w) := by
  have HW0 : Hid (Wm B (w.alloc (.cells #[.int .i64 x0] 94)) p v l) := h.alloc _
  have HB0 : Hid (Bw B p w (w.alloc (.cells #[.int .i64 x0] 94))) := (Bw.refl B p w).alloc h.bw _
  have HX0 : Hid (Bx (w.alloc (.cells #[.int .i64 x0] 94)) w.heap.size #[.int .i64 x0] 94) := Bx.new _ _ _
  have hbp : w.heap.size ≠ p := Nat.ne_of_gt h.lt
  clear h
  go_enter Tryz.func204, Tryz.ntmps204
  go_upto_region 1 with fail
  generalize w.alloc (.cells #[.int .i64 x0] 94) = w0 at *
  generalize w.heap.size = b at *
  have c0_0 : w0.cell? ⟨b, 0, none⟩ = some (.int .i64 x0) := HX0.out.cell 0
  have HKP0 : Hid (∀ (k : Nat) (w5 : World), Bw B p (w0.drewN k) w5 → w5.cell? ⟨b, 0, none⟩ = some (.int .i64 x0)) := fun k w5 hk => ((HX0.out.drewN k).bw hk (by decide) hbp).cell 0
  go_wp2_with fail
  go_region_held3 (fun w' => w'.cell? ⟨b, 0, none⟩ = some (.int .i64 x0)) (first | go_keep | exact HKP0.out _ _ HC1.out) (first | (go_at_call 47; go_must (refine (wint B p v l x0 (by assumption) _ (HW0.out.drewN _) (by omega)).mono ?_; rintro e w1 ⟨rfl, v1, HW1, HC1⟩)))
  rename_i hHeld
  clear hHeld
  have HX1 : Hid (Bx w1 b #[.int .i64 x0] 94) := (HX0.out.drewN _).bw HC1.out (by decide) hbp
  have HB1 : Hid (Bw B p w w1) := (HB0.out.drewN _).trans HC1.out
  clear HX0 HB0 HC1 HW0 HKP0 c0_0
  obtain ⟨l1, hl1⟩ : ∃ x, x = l ++ intL x0 := ⟨_, rfl⟩
  rw [← hl1] at HW1
  have hz1 : l1.length ≤ 1010 := by rw [hl1]; have := li (l := l) (n := x0) (by assumption); omega
  have HL1 : Hid (l1 = l ++ intL x0) := hl1
  clear hl1
  go_wp2_with fail
  go_returns
  exact ⟨rfl, v1, by unfold Hid; refine cast (congrArg (fun z => Wm B _ p v1 z) ?_) HW1.out; simp only [HL1.out, flatI, cutL, lotL, flatM, bkL, List.append_assoc, List.append_nil], HB1⟩
set_option maxHeartbeats 4000000 in
theorem write14 (B p : Nat) (v : Value) (l : List UInt8) (x0 : Int) (x1 : Int)  (h0 : I64 x0) (h1 : I64 x1) (w : World) (h : Wm B w p v l) (hl : l.length ≤ 1000) : Calls Tryz.prog 207 #[.agg #[.int .i64 x0, .int .i64 x1], .pointer (some ⟨p, 0, none⟩)] w (WP B p (l ++ (intL x0 ++ intL x1)) w) := by
  have HW0 : Hid (Wm B (w.alloc (.cells #[.int .i64 x0, .int .i64 x1] 96)) p v l) := h.alloc _
  have HB0 : Hid (Bw B p w (w.alloc (.cells #[.int .i64 x0, .int .i64 x1] 96))) := (Bw.refl B p w).alloc h.bw _
  have HX0 : Hid (Bx (w.alloc (.cells #[.int .i64 x0, .int .i64 x1] 96)) w.heap.size #[.int .i64 x0, .int .i64 x1] 96) := Bx.new _ _ _
  have hbp : w.heap.size ≠ p := Nat.ne_of_gt h.lt
  clear h
  go_enter Tryz.func207, Tryz.ntmps207
  go_upto_region 1 with fail
  generalize w.alloc (.cells #[.int .i64 x0, .int .i64 x1] 96) = w0 at *
  generalize w.heap.size = b at *
  have c0_0 : w0.cell? ⟨b, 0, none⟩ = some (.int .i64 x0) := HX0.out.cell 0
  have c0_1 : w0.cell? ⟨b, 1, none⟩ = some (.int .i64 x1) := HX0.out.cell 1
  have HN0 : Hid (∀ n ∈ [x0, x1], I64 n) := by unfold Hid; intro n hn; simp only [List.mem_cons, List.not_mem_nil, or_false] at hn; rcases hn with rfl | rfl <;> assumption
  go_wp2_with fail
  refine (wnums B p v l [x0, x1] w0.heap.size _ _ (HW0.out.alloc _) (Bx.new _ _ _) HN0.out (by show l.length + 20 ≤ _; omega)).mono ?_
  rintro e w1 ⟨rfl, v1, HW1, HC1⟩
  have HX1 : Hid (Bx w1 b #[.int .i64 x0, .int .i64 x1] 96) := (HX0.out.keep (below_a _ _)).bw HC1.out (by decide) hbp
  have HB1 : Hid (Bw B p w w1) := (HB0.out.alloc HW0.out.bw _).trans HC1.out
  obtain ⟨l1, hl1⟩ : ∃ x, x = l ++ flatI [x0, x1] := ⟨_, rfl⟩
  rw [← hl1] at HW1
  have hz1 : l1.length ≤ 1020 := by rw [hl1]; have := ln (l := l) (xs := [x0, x1]) HN0.out; have e : [x0, x1].length = 2 := rfl; rw [e] at this; omega
  have HL1 : Hid (l1 = l ++ flatI [x0, x1]) := hl1
  clear hl1
  clear HX0 HB0 HC1 HW0 HN0 c0_0 c0_1
  go_wp2_with fail
  go_returns
  exact ⟨rfl, v1, by unfold Hid; refine cast (congrArg (fun z => Wm B _ p v1 z) ?_) HW1.out; simp only [HL1.out, flatI, cutL, lotL, flatM, bkL, List.append_assoc, List.append_nil], HB1⟩
set_option maxHeartbeats 4000000 in
theorem write15 (B p : Nat) (v : Value) (l : List UInt8) (x0 : Int) (x1 : Int) (x2 : Int)  (h0 : I64 x0) (h1 : I64 x1) (h2 : I64 x2) (w : World) (h : Wm B w p v l) (hl : l.length ≤ 1000) : Calls Tryz.prog 210 #[.agg #[.int .i64 x0, .int .i64 x1, .int .i64 x2], .pointer (some ⟨p, 0, none⟩)] w (WP B p (l ++ (intL x0 ++ (intL x1 ++ intL x2))) w) := by
  have HW0 : Hid (Wm B (w.alloc (.cells #[.int .i64 x0, .int .i64 x1, .int .i64 x2] 98)) p v l) := h.alloc _
  have HB0 : Hid (Bw B p w (w.alloc (.cells #[.int .i64 x0, .int .i64 x1, .int .i64 x2] 98))) := (Bw.refl B p w).alloc h.bw _
  have HX0 : Hid (Bx (w.alloc (.cells #[.int .i64 x0, .int .i64 x1, .int .i64 x2] 98)) w.heap.size #[.int .i64 x0, .int .i64 x1, .int .i64 x2] 98) := Bx.new _ _ _
  have hbp : w.heap.size ≠ p := Nat.ne_of_gt h.lt
  clear h
  go_enter Tryz.func210, Tryz.ntmps210
  go_upto_region 1 with fail
  generalize w.alloc (.cells #[.int .i64 x0, .int .i64 x1, .int .i64 x2] 98) = w0 at *
  generalize w.heap.size = b at *
  have c0_0 : w0.cell? ⟨b, 0, none⟩ = some (.int .i64 x0) := HX0.out.cell 0
  have c0_1 : w0.cell? ⟨b, 1, none⟩ = some (.int .i64 x1) := HX0.out.cell 1
  have c0_2 : w0.cell? ⟨b, 2, none⟩ = some (.int .i64 x2) := HX0.out.cell 2
  have HN0 : Hid (∀ n ∈ [x0, x1, x2], I64 n) := by unfold Hid; intro n hn; simp only [List.mem_cons, List.not_mem_nil, or_false] at hn; rcases hn with rfl | rfl | rfl <;> assumption
  go_wp2_with fail
  refine (wnums B p v l [x0, x1, x2] w0.heap.size _ _ (HW0.out.alloc _) (Bx.new _ _ _) HN0.out (by show l.length + 30 ≤ _; omega)).mono ?_
  rintro e w1 ⟨rfl, v1, HW1, HC1⟩
  have HX1 : Hid (Bx w1 b #[.int .i64 x0, .int .i64 x1, .int .i64 x2] 98) := (HX0.out.keep (below_a _ _)).bw HC1.out (by decide) hbp
  have HB1 : Hid (Bw B p w w1) := (HB0.out.alloc HW0.out.bw _).trans HC1.out
  obtain ⟨l1, hl1⟩ : ∃ x, x = l ++ flatI [x0, x1, x2] := ⟨_, rfl⟩
  rw [← hl1] at HW1
  have hz1 : l1.length ≤ 1030 := by rw [hl1]; have := ln (l := l) (xs := [x0, x1, x2]) HN0.out; have e : [x0, x1, x2].length = 3 := rfl; rw [e] at this; omega
  have HL1 : Hid (l1 = l ++ flatI [x0, x1, x2]) := hl1
  clear hl1
  clear HX0 HB0 HC1 HW0 HN0 c0_0 c0_1 c0_2
  go_wp2_with fail
  go_returns
  exact ⟨rfl, v1, by unfold Hid; refine cast (congrArg (fun z => Wm B _ p v1 z) ?_) HW1.out; simp only [HL1.out, flatI, cutL, lotL, flatM, bkL, List.append_assoc, List.append_nil], HB1⟩
end Go.Proofs.YtdmlgheajblcdaaGreat

/- Layer 10: lots, prices and rules written. -/
namespace Go.Proofs.YtdmlgheajblcdaaGreat
open Go.RowKit
set_option linter.unusedVariables false
set_option linter.unusedSimpArgs false
set_option maxRecDepth 20000
theorem wuintW (B p : Nat) (v : Value) (l : List UInt8) (n : Nat) (hn : n ≤ 1000) (w : World) (h : Wm B w p v l) (hl : l.length ≤ 1000000000000) : Calls Tryz.prog 75 #[.pointer (some ⟨p, 0, none⟩), .int .u64 (IntKind.u64.wrap (n : Int))] w (WP B p (l ++ uintL n) w) := by
  rw [IntWalk.u64_in _ (by omega)]
  exact wuint B p v l n (by omega) w h hl
theorem flatM_app {α : Type} (f : α → List UInt8) (a b : List α) : flatM f (a ++ b) = flatM f a ++ flatM f b := by
  induction a with
  | nil => rfl
  | cons x l ih => show f x ++ flatM f (l ++ b) = _; rw [ih, ← List.append_assoc]; rfl
theorem flatM_take {α : Type} (f : α → List UInt8) {xs : List α} {k : Nat} (h : k < xs.length) : flatM f (xs.take (k + 1)) = flatM f (xs.take k) ++ f xs[k] := by
  rw [← List.take_append_getElem h, flatM_app]
  show _ ++ (f xs[k] ++ []) = _
  rw [List.append_nil]
theorem flatM_len {α : Type} (f : α → List UInt8) (c : Nat) (xs : List α) (h : ∀ x ∈ xs, (f x).length ≤ c) : (flatM f xs).length ≤ c * xs.length := by
  induction xs with
  | nil => simp [flatM]
  | cons x l ih =>
    have h1 := h x (List.mem_cons_self ..)
    have h2 := ih fun y hy => h y (List.mem_cons_of_mem _ hy)
    show (f x ++ flatM f l).length ≤ _
    rw [List.length_append, List.length_cons, Nat.mul_succ]
    omega
theorem lotL_len {x : Lt} (h : x.i.length ≤ 1000) (hq : I64 x.q) : (lotL x).length ≤ 1020 := by
  have h1 := lt (l := []) h
  have h2 := li (l := []) hq
  rw [List.nil_append] at h1 h2
  unfold lotL; rw [List.length_append]
  simp only [List.length_nil] at h1 h2
  omega
theorem cutL_len {x : Ct} (h : I64 x.d ∧ I64 x.r ∧ I64 x.c) : (cutL x).length ≤ 30 := by
  have h1 := li (l := []) h.1
  have h2 := li (l := []) h.2.1
  have h3 := li (l := []) h.2.2
  rw [List.nil_append] at h1 h2 h3
  unfold cutL; rw [List.length_append, List.length_append]
  simp only [List.length_nil] at h1 h2 h3
  omega
set_option maxHeartbeats 4000000 in
theorem wlotE (B p : Nat) (v : Value) (l : List UInt8) (x0 : ByteArray) (x1 : Int) (h0 : x0.data.toList.length ≤ 1000) (h1 : I64 x1) (w : World) (h : Wm B w p v l) (hl : l.length ≤ 1000000) : Calls Tryz.prog 150 #[.pointer (some ⟨p, 0, none⟩), .agg #[.string x0, .int .i64 x1]] w (WP B p (l ++ (textL x0.data.toList ++ intL x1)) w) := by
  have hs0 : x0.size ≤ 1000 := h0
  have HW0 : Hid (Wm B (w.alloc (.cells #[.string x0, .int .i64 x1] 32)) p v l) := h.alloc _
  have HB0 : Hid (Bw B p w (w.alloc (.cells #[.string x0, .int .i64 x1] 32))) := (Bw.refl B p w).alloc h.bw _
  have HX0 : Hid (Bx (w.alloc (.cells #[.string x0, .int .i64 x1] 32)) w.heap.size #[.string x0, .int .i64 x1] 32) := Bx.new _ _ _
  have hbp : w.heap.size ≠ p := Nat.ne_of_gt h.lt
  clear h
  go_enter Tryz.func150, Tryz.ntmps150
  go_upto_region 1 with fail
  generalize w.alloc (.cells #[.string x0, .int .i64 x1] 32) = w0 at *
  generalize w.heap.size = b at *
  have c0_0 : w0.cell? ⟨b, 0, none⟩ = some (.string x0) := HX0.out.cell 0
  have HKP0 : Hid (∀ (k : Nat) (w5 : World), Bw B p (w0.drewN k) w5 → w5.cell? ⟨b, 0, none⟩ = some (.string x0)) := fun k w5 hk => ((HX0.out.drewN k).bw hk (by decide) hbp).cell 0
  go_wp2_with fail
  go_region_held3 (fun w' => w'.cell? ⟨b, 0, none⟩ = some (.string x0)) (first | go_keep | exact HKP0.out _ _ HC1.out) (first | (go_at_call 152; go_must (refine (wtext B p v l x0 _ (HW0.out.drewN _) (by omega)).mono ?_; rintro e w1 ⟨rfl, v1, HW1, HC1⟩)))
  rename_i hHeld
  clear hHeld
  have HX1 : Hid (Bx w1 b #[.string x0, .int .i64 x1] 32) := (HX0.out.drewN _).bw HC1.out (by decide) hbp
  have HB1 : Hid (Bw B p w w1) := (HB0.out.drewN _).trans HC1.out
  clear HX0 HB0 HC1 HW0 HKP0 c0_0
  obtain ⟨l1, hl1⟩ : ∃ x, x = l ++ textL x0.data.toList := ⟨_, rfl⟩
  rw [← hl1] at HW1
  have hz1 : l1.length ≤ 1001010 := by rw [hl1]; have := lt (l := l) (s := x0.data.toList) (by assumption); omega
  have HL1 : Hid (l1 = l ++ textL x0.data.toList) := hl1
  clear hl1
  have c1_1 : w1.cell? ⟨b, 1, none⟩ = some (.int .i64 x1) := HX1.out.cell 1
  have HKP1 : Hid (∀ (k : Nat) (w5 : World), Bw B p (w1.drewN k) w5 → w5.cell? ⟨b, 1, none⟩ = some (.int .i64 x1)) := fun k w5 hk => ((HX1.out.drewN k).bw hk (by decide) hbp).cell 1
  go_wp2_with fail
  go_region_held3 (fun w' => w'.cell? ⟨b, 1, none⟩ = some (.int .i64 x1)) (first | go_keep | exact HKP1.out _ _ HC2.out) (first | (go_at_call 47; go_must (refine (wint B p v1 l1 x1 (by assumption) _ (HW1.out.drewN _) (by omega)).mono ?_; rintro e w2 ⟨rfl, v2, HW2, HC2⟩)))
  rename_i hHeld
  clear hHeld
  have HX2 : Hid (Bx w2 b #[.string x0, .int .i64 x1] 32) := (HX1.out.drewN _).bw HC2.out (by decide) hbp
  have HB2 : Hid (Bw B p w w2) := (HB1.out.drewN _).trans HC2.out
  clear HX1 HB1 HC2 HW1 HKP1 c1_1
  obtain ⟨l2, hl2⟩ : ∃ x, x = l1 ++ intL x1 := ⟨_, rfl⟩
  rw [← hl2] at HW2
  have hz2 : l2.length ≤ 1001020 := by rw [hl2]; have := li (l := l1) (n := x1) (by assumption); omega
  have HL2 : Hid (l2 = l1 ++ intL x1) := hl2
  clear hl2
  go_wp2_with fail
  go_returns
  exact ⟨rfl, v2, by unfold Hid; refine cast (congrArg (fun z => Wm B _ p v2 z) ?_) HW2.out; simp only [HL2.out, HL1.out, flatI, cutL, lotL, flatM, bkL, List.append_assoc, List.append_nil], HB2⟩
set_option maxHeartbeats 4000000 in
theorem write4 (B p : Nat) (v : Value) (l : List UInt8) (xs : List Lt) (xa : Option Addr) (xac : Nat) (w : World) (h : Wm B w p v l) (hl : l.length ≤ 1000) (hn : xs.length ≤ 64) (hL : Lts B w xa xs) (hq : ∀ y ∈ xs, y.i.length ≤ 1000 ∧ I64 y.q) : Calls Tryz.prog 184 #[.agg #[.slice xa xs.length xac], .pointer (some ⟨p, 0, none⟩)] w (WP B p (l ++ (uintL xs.length ++ flatM lotL xs)) w) := by
  have HLk : Hid (Lts B w xa xs) := hL
  have HQ : Hid (∀ y ∈ xs, y.i.length ≤ 1000 ∧ I64 y.q) := hq
  clear hL hq
  have HW0 : Hid (Wm B (w.alloc (.cells #[.slice xa xs.length xac] 82)) p v l) := h.alloc _
  have HB0 : Hid (Bw B p w (w.alloc (.cells #[.slice xa xs.length xac] 82))) := (Bw.refl B p w).alloc h.bw _
  have HX0 : Hid (Bx (w.alloc (.cells #[.slice xa xs.length xac] 82)) w.heap.size #[.slice xa xs.length xac] 82) := Bx.new _ _ _
  have hbp : w.heap.size ≠ p := Nat.ne_of_gt h.lt
  clear h
  go_enter Tryz.func184, Tryz.ntmps184
  go_upto_region 1 with fail
  generalize w.alloc (.cells #[.slice xa xs.length xac] 82) = w0 at *
  generalize w.heap.size = b at *
  have c0_0 : w0.cell? ⟨b, 0, none⟩ = some (.slice xa xs.length xac) := HX0.out.cell 0
  have HKP0 : Hid (∀ (k : Nat) (w5 : World), Bw B p (w0.drewN k) w5 → w5.cell? ⟨b, 0, none⟩ = some (.slice xa xs.length xac)) := fun k w5 hk => ((HX0.out.drewN k).bw hk (by decide) hbp).cell 0
  go_wp2_with fail
  go_region_held3 (fun w' => w'.cell? ⟨b, 0, none⟩ = some (.slice xa xs.length xac)) (first | go_keep | exact HKP0.out _ _ HC1.out) (first | (go_at_call 75; go_must (refine (wuintW B p v l xs.length (by omega) _ (HW0.out.drewN _) (by omega)).mono ?_; rintro e w1 ⟨rfl, v1, HW1, HC1⟩)))
  rename_i hHeld
  clear hHeld
  have HX1 : Hid (Bx w1 b #[.slice xa xs.length xac] 82) := (HX0.out.drewN _).bw HC1.out (by decide) hbp
  have HB1 : Hid (Bw B p w w1) := (HB0.out.drewN _).trans HC1.out
  clear HX0 HB0 HC1 HW0 HKP0 c0_0
  obtain ⟨l1, hl1⟩ : ∃ x, x = l ++ uintL xs.length := ⟨_, rfl⟩
  rw [← hl1] at HW1
  have hz1 : l1.length ≤ 1010 := by rw [hl1]; have := lu (l := l) (n := xs.length) (by omega); omega
  have HL1 : Hid (l1 = l ++ uintL xs.length) := hl1
  clear hl1
  have cS : w1.cell? ⟨b, 0, none⟩ = some (.slice xa xs.length xac) := HX1.out.cell 0
  go_wp2_with fail
  go_loopw [17] (fun i wr => ∃ (k : Nat) (vk : Value) (lk : List UInt8), i = .int .i64 k ∧ k ≤ xs.length ∧ lk.length ≤ 1010 + 1020 * k ∧ Hid (lk = l1 ++ flatM lotL (xs.take k)) ∧ Hid (Wm B wr p vk lk) ∧ Hid (Bw B p w wr)) (fun i _ => xs.length - (Lib.intOf i).toNat)
  case atStart => exact ⟨0, v1, l1, rfl, Nat.zero_le _, by omega, by unfold Hid; rw [List.take_zero]; show _ = _ ++ []; rw [List.append_nil], HW1, HB1⟩
  case round =>
    obtain ⟨k, vk, lk, rfl, hk, hzk, HLkk, HWk, HBk⟩ := hrel
    clear HW1 HB1 HX1 cS
    by_cases hkn : k < xs.length
    · have hkz : (k : Int) < (xs.length : Int) := by omega
      obtain ⟨bb, off, rfl, hbl, hce⟩ := HLk.out (by omega)
      have hc := hce k hkn
      have hc0 : wr.cell? ⟨bb, off + k * 2, none⟩ = some (.string ⟨xs[k].i.toArray⟩) := (HBk.out.1.cell (by exact hbl)).trans hc.1
      have hc1 : wr.cell? ⟨bb, off + k * 2 + 1, none⟩ = some (.int .i64 xs[k].q) := (HBk.out.1.cell (by exact hbl)).trans hc.2
      have HT : Hid (lk ++ (textL xs[k].i ++ intL xs[k].q) = l1 ++ flatM lotL (xs.take (k + 1))) := by unfold Hid; rw [HLkk.out, flatM_take lotL hkn, List.append_assoc]; rfl
      have hq0 := (HQ.out _ (List.getElem_mem hkn)).1
      have h1 := (HQ.out _ (List.getElem_mem hkn)).2
      have e0 : (⟨xs[k].i.toArray⟩ : ByteArray).data.toList = xs[k].i := rfl
      rw [← e0] at HT hq0
      generalize (⟨xs[k].i.toArray⟩ : ByteArray) = x0 at *
      generalize xs[k].q = x1 at *
      have h0 : x0.data.toList.length ≤ 1000 := hq0
      have hs0 : x0.size ≤ 1000 := hq0
      clear hce hc e0 hq0 HLkk
      have HW0 : Hid (Wm B (wr.alloc (.cells #[.string x0, .int .i64 x1] 128)) p vk lk) := HWk.out.alloc _
      have HB0 : Hid (Bw B p w (wr.alloc (.cells #[.string x0, .int .i64 x1] 128))) := HBk.out.alloc HWk.out.bw _
      have HX0 : Hid (Bx (wr.alloc (.cells #[.string x0, .int .i64 x1] 128)) wr.heap.size #[.string x0, .int .i64 x1] 128) := Bx.new _ _ _
      have hbp0 : wr.heap.size ≠ p := Nat.ne_of_gt HWk.out.lt
      clear HWk HBk hbp
      go_upto_region 5 with fail
      generalize wr.alloc (.cells #[.string x0, .int .i64 x1] 128) = w0 at *
      have hbp : wr.heap.size ≠ p := hbp0
      clear hbp0
      have HW50 := HW0
      have HB50 := HB0
      have HX50 := HX0
      clear HW0 HB0 HX0
      generalize w0 = w50 at *
      have c50_0 : w50.cell? ⟨wr.heap.size, 0, none⟩ = some (.string x0) := HX50.out.cell 0
      have HKP50 : Hid (∀ (k : Nat) (w5 : World), Bw B p (w50.drewN k) w5 → w5.cell? ⟨wr.heap.size, 0, none⟩ = some (.string x0)) := fun k w5 hk => ((HX50.out.drewN k).bw hk (by decide) hbp).cell 0
      go_wp2_with fail
      go_region_held3 (fun w' => w'.cell? ⟨wr.heap.size, 0, none⟩ = some (.string x0)) (first | go_keep | exact HKP50.out _ _ HC51.out) (first | (go_at_call 152; go_must (refine (wtext B p vk lk x0 _ (HW50.out.drewN _) (by omega)).mono ?_; rintro e w51 ⟨rfl, v51, HW51, HC51⟩)))
      rename_i hHeld
      clear hHeld
      have HX51 : Hid (Bx w51 wr.heap.size #[.string x0, .int .i64 x1] 128) := (HX50.out.drewN _).bw HC51.out (by decide) hbp
      have HB51 : Hid (Bw B p w w51) := (HB50.out.drewN _).trans HC51.out
      clear HX50 HB50 HC51 HW50 HKP50 c50_0
      obtain ⟨l51, hl51⟩ : ∃ x, x = lk ++ textL x0.data.toList := ⟨_, rfl⟩
      rw [← hl51] at HW51
      have hz51 : l51.length ≤ lk.length + 1010 := by rw [hl51]; have := lt (l := lk) (s := x0.data.toList) (by assumption); omega
      have HL51 : Hid (l51 = lk ++ textL x0.data.toList) := hl51
      clear hl51
      have c51_1 : w51.cell? ⟨wr.heap.size, 1, none⟩ = some (.int .i64 x1) := HX51.out.cell 1
      have HKP51 : Hid (∀ (k : Nat) (w5 : World), Bw B p (w51.drewN k) w5 → w5.cell? ⟨wr.heap.size, 1, none⟩ = some (.int .i64 x1)) := fun k w5 hk => ((HX51.out.drewN k).bw hk (by decide) hbp).cell 1
      go_wp2_with fail
      go_region_held3 (fun w' => w'.cell? ⟨wr.heap.size, 1, none⟩ = some (.int .i64 x1)) (first | go_keep | exact HKP51.out _ _ HC52.out) (first | (go_at_call 47; go_must (refine (wint B p v51 l51 x1 (by assumption) _ (HW51.out.drewN _) (by omega)).mono ?_; rintro e w52 ⟨rfl, v52, HW52, HC52⟩)))
      rename_i hHeld
      clear hHeld
      have HX52 : Hid (Bx w52 wr.heap.size #[.string x0, .int .i64 x1] 128) := (HX51.out.drewN _).bw HC52.out (by decide) hbp
      have HB52 : Hid (Bw B p w w52) := (HB51.out.drewN _).trans HC52.out
      clear HX51 HB51 HC52 HW51 HKP51 c51_1
      obtain ⟨l52, hl52⟩ : ∃ x, x = l51 ++ intL x1 := ⟨_, rfl⟩
      rw [← hl52] at HW52
      have hz52 : l52.length ≤ lk.length + 1020 := by rw [hl52]; have := li (l := l51) (n := x1) (by assumption); omega
      have HL52 : Hid (l52 = l51 ++ intL x1) := hl52
      clear hl52
      have hz2 : l52.length ≤ 1010 + 1020 * (k + 1) := by omega
      have HT2 : Hid (l52 = l1 ++ flatM lotL (xs.take (k + 1))) := by unfold Hid; rw [HL52.out, HL51.out, ← HT.out, List.append_assoc]
      go_wp2_with fail
      exact ⟨⟨k + 1, v52, l52, by go_num, by omega, hz2, HT2.out, HW52.out, HB52.out⟩, by simp [Lib.intOf]; omega⟩
    · have hkz : ¬ (k : Int) < (xs.length : Int) := by omega
      have HT : Hid (lk = l1 ++ flatM lotL xs) := by unfold Hid; rw [HLkk.out, List.take_of_length_le (by omega)]
      go_wp2_with fail
      go_returns
      exact ⟨rfl, vk, by unfold Hid; refine cast (congrArg (fun z => Wm B _ p vk z) ?_) HWk.out; simp only [HT.out, HL1.out, List.append_assoc], HBk⟩
set_option maxHeartbeats 4000000 in
theorem write11 (B p : Nat) (v : Value) (l : List UInt8) (x0 x1 : Int) (x2 : ByteArray) (x3 : Int) (xs : List Lt) (xa : Option Addr) (xac : Nat) (h0 : I64 x0) (h1 : I64 x1) (h2 : x2.data.toList.length ≤ 1000) (h3 : I64 x3) (w : World) (h : Wm B w p v l) (hl : l.length ≤ 1000) (hn : xs.length ≤ 64) (hL : Lts B w xa xs) (hq : ∀ y ∈ xs, y.i.length ≤ 1000 ∧ I64 y.q) : Calls Tryz.prog 148 #[.agg #[.int .i64 x0, .int .i64 x1, .string x2, .int .i64 x3, .slice xa xs.length xac], .pointer (some ⟨p, 0, none⟩)] w (WP B p (l ++ (intL x0 ++ (intL x1 ++ ((textL x2.data.toList ++ intL x3) ++ (uintL xs.length ++ flatM lotL xs))))) w) := by
  have hs2 : x2.size ≤ 1000 := h2
  have HLk : Hid (Lts B w xa xs) := hL
  have HQ : Hid (∀ y ∈ xs, y.i.length ≤ 1000 ∧ I64 y.q) := hq
  clear hL hq
  have HW0 : Hid (Wm B (w.alloc (.cells #[.int .i64 x0, .int .i64 x1, .string x2, .int .i64 x3, .slice xa xs.length xac] 67)) p v l) := h.alloc _
  have HB0 : Hid (Bw B p w (w.alloc (.cells #[.int .i64 x0, .int .i64 x1, .string x2, .int .i64 x3, .slice xa xs.length xac] 67))) := (Bw.refl B p w).alloc h.bw _
  have HX0 : Hid (Bx (w.alloc (.cells #[.int .i64 x0, .int .i64 x1, .string x2, .int .i64 x3, .slice xa xs.length xac] 67)) w.heap.size #[.int .i64 x0, .int .i64 x1, .string x2, .int .i64 x3, .slice xa xs.length xac] 67) := Bx.new _ _ _
  have hbp : w.heap.size ≠ p := Nat.ne_of_gt h.lt
  clear h
  go_enter Tryz.func148, Tryz.ntmps148
  go_upto_region 1 with fail
  generalize w.alloc (.cells #[.int .i64 x0, .int .i64 x1, .string x2, .int .i64 x3, .slice xa xs.length xac] 67) = w0 at *
  generalize w.heap.size = b at *
  have c0_0 : w0.cell? ⟨b, 0, none⟩ = some (.int .i64 x0) := HX0.out.cell 0
  have c0_1 : w0.cell? ⟨b, 1, none⟩ = some (.int .i64 x1) := HX0.out.cell 1
  have HN0 : Hid (∀ n ∈ [x0, x1], I64 n) := by unfold Hid; intro n hn; simp only [List.mem_cons, List.not_mem_nil, or_false] at hn; rcases hn with rfl | rfl <;> assumption
  go_wp2_with fail
  refine (wnums B p v l [x0, x1] w0.heap.size _ _ (HW0.out.alloc _) (Bx.new _ _ _) HN0.out (by show l.length + 20 ≤ _; omega)).mono ?_
  rintro e w1 ⟨rfl, v1, HW1, HC1⟩
  have HX1 : Hid (Bx w1 b #[.int .i64 x0, .int .i64 x1, .string x2, .int .i64 x3, .slice xa xs.length xac] 67) := (HX0.out.keep (below_a _ _)).bw HC1.out (by decide) hbp
  have HB1 : Hid (Bw B p w w1) := (HB0.out.alloc HW0.out.bw _).trans HC1.out
  obtain ⟨l1, hl1⟩ : ∃ x, x = l ++ flatI [x0, x1] := ⟨_, rfl⟩
  rw [← hl1] at HW1
  have hz1 : l1.length ≤ 1020 := by rw [hl1]; have := ln (l := l) (xs := [x0, x1]) HN0.out; have e : [x0, x1].length = 2 := rfl; rw [e] at this; omega
  have HL1 : Hid (l1 = l ++ flatI [x0, x1]) := hl1
  clear hl1
  clear HX0 HB0 HC1 HW0 HN0 c0_0 c0_1
  have c1_2 : w1.cell? ⟨b, 2, none⟩ = some (.string x2) := HX1.out.cell 2
  have c1_3 : w1.cell? ⟨b, 3, none⟩ = some (.int .i64 x3) := HX1.out.cell 3
  go_wp2_with fail
  refine (wlotE B p v1 l1 x2 x3 h2 h3 _ HW1.out (by omega)).mono ?_
  rintro e w2 ⟨rfl, v2, HW2, HC2⟩
  have HX2 : Hid (Bx w2 b #[.int .i64 x0, .int .i64 x1, .string x2, .int .i64 x3, .slice xa xs.length xac] 67) := HX1.out.bw HC2.out (by decide) hbp
  have HB2 : Hid (Bw B p w w2) := HB1.out.trans HC2.out
  clear HX1 HB1 HC2 HW1 c1_2 c1_3
  obtain ⟨l2, hl2⟩ : ∃ x, x = l1 ++ (textL x2.data.toList ++ intL x3) := ⟨_, rfl⟩
  rw [← hl2] at HW2
  have hz2 : l2.length ≤ 2040 := by rw [hl2]; have := (by rw [← List.append_assoc]; have a1 := lt (l := l1) h2; have a2 := li (l := l1 ++ textL x2.data.toList) h3; omega : (l1 ++ (textL x2.data.toList ++ intL x3)).length ≤ l1.length + 1020); omega
  have HL2 : Hid (l2 = l1 ++ (textL x2.data.toList ++ intL x3)) := hl2
  clear hl2
  have c2_4 : w2.cell? ⟨b, 4, none⟩ = some (.slice xa xs.length xac) := HX2.out.cell 4
  have HKP2 : Hid (∀ (k : Nat) (w5 : World), Bw B p (w2.drewN k) w5 → w5.cell? ⟨b, 4, none⟩ = some (.slice xa xs.length xac)) := fun k w5 hk => ((HX2.out.drewN k).bw hk (by decide) hbp).cell 4
  go_wp2_with fail
  go_region_held3 (fun w' => w'.cell? ⟨b, 4, none⟩ = some (.slice xa xs.length xac)) (first | go_keep | exact HKP2.out _ _ HC3.out) (first | (go_at_call 75; go_must (refine (wuintW B p v2 l2 xs.length (by omega) _ (HW2.out.drewN _) (by omega)).mono ?_; rintro e w3 ⟨rfl, v3, HW3, HC3⟩)))
  rename_i hHeld
  clear hHeld
  have HX3 : Hid (Bx w3 b #[.int .i64 x0, .int .i64 x1, .string x2, .int .i64 x3, .slice xa xs.length xac] 67) := (HX2.out.drewN _).bw HC3.out (by decide) hbp
  have HB3 : Hid (Bw B p w w3) := (HB2.out.drewN _).trans HC3.out
  clear HX2 HB2 HC3 HW2 HKP2 c2_4
  obtain ⟨l3, hl3⟩ : ∃ x, x = l2 ++ uintL xs.length := ⟨_, rfl⟩
  rw [← hl3] at HW3
  have hz3 : l3.length ≤ 2050 := by rw [hl3]; have := lu (l := l2) (n := xs.length) (by omega); omega
  have HL3 : Hid (l3 = l2 ++ uintL xs.length) := hl3
  clear hl3
  have cS : w3.cell? ⟨b, 4, none⟩ = some (.slice xa xs.length xac) := HX3.out.cell 4
  go_wp2_with fail
  go_loopw [28] (fun i wr => ∃ (k : Nat) (vk : Value) (lk : List UInt8), i = .int .i64 k ∧ k ≤ xs.length ∧ lk.length ≤ 2050 + 1020 * k ∧ Hid (lk = l3 ++ flatM lotL (xs.take k)) ∧ Hid (Wm B wr p vk lk) ∧ Hid (Bw B p w wr)) (fun i _ => xs.length - (Lib.intOf i).toNat)
  case atStart => exact ⟨0, v3, l3, rfl, Nat.zero_le _, by omega, by unfold Hid; rw [List.take_zero]; show _ = _ ++ []; rw [List.append_nil], HW3, HB3⟩
  case round =>
    obtain ⟨k, vk, lk, rfl, hk, hzk, HLkk, HWk, HBk⟩ := hrel
    clear HW3 HB3 HX3 cS
    by_cases hkn : k < xs.length
    · have hkz : (k : Int) < (xs.length : Int) := by omega
      obtain ⟨bb, off, rfl, hbl, hce⟩ := HLk.out (by omega)
      have hc := hce k hkn
      have hc0 : wr.cell? ⟨bb, off + k * 2, none⟩ = some (.string ⟨xs[k].i.toArray⟩) := (HBk.out.1.cell (by exact hbl)).trans hc.1
      have hc1 : wr.cell? ⟨bb, off + k * 2 + 1, none⟩ = some (.int .i64 xs[k].q) := (HBk.out.1.cell (by exact hbl)).trans hc.2
      have HT : Hid (lk ++ (textL xs[k].i ++ intL xs[k].q) = l3 ++ flatM lotL (xs.take (k + 1))) := by unfold Hid; rw [HLkk.out, flatM_take lotL hkn, List.append_assoc]; rfl
      have hq0 := (HQ.out _ (List.getElem_mem hkn)).1
      have h1 := (HQ.out _ (List.getElem_mem hkn)).2
      have e0 : (⟨xs[k].i.toArray⟩ : ByteArray).data.toList = xs[k].i := rfl
      rw [← e0] at HT hq0
      generalize (⟨xs[k].i.toArray⟩ : ByteArray) = x0 at *
      generalize xs[k].q = x1 at *
      have h0 : x0.data.toList.length ≤ 1000 := hq0
      have hs0 : x0.size ≤ 1000 := hq0
      clear hce hc e0 hq0 HLkk
      have HW0 : Hid (Wm B (wr.alloc (.cells #[.string x0, .int .i64 x1] 32)) p vk lk) := HWk.out.alloc _
      have HB0 : Hid (Bw B p w (wr.alloc (.cells #[.string x0, .int .i64 x1] 32))) := HBk.out.alloc HWk.out.bw _
      have HX0 : Hid (Bx (wr.alloc (.cells #[.string x0, .int .i64 x1] 32)) wr.heap.size #[.string x0, .int .i64 x1] 32) := Bx.new _ _ _
      have hbp0 : wr.heap.size ≠ p := Nat.ne_of_gt HWk.out.lt
      clear HWk HBk hbp
      go_upto_region 7 with fail
      generalize wr.alloc (.cells #[.string x0, .int .i64 x1] 32) = w0 at *
      have hbp : wr.heap.size ≠ p := hbp0
      clear hbp0
      have c0 : w0.cell? ⟨wr.heap.size, 0, none⟩ = some (.string x0) := HX0.out.cell 0
      have c1 : w0.cell? ⟨wr.heap.size, 1, none⟩ = some (.int .i64 x1) := HX0.out.cell 1
      go_wp2_with fail
      refine (wlotE B p vk lk x0 x1 h0 h1 _ HW0.out (by omega)).mono ?_
      rintro e w2 ⟨rfl, v2, HW2, HC2⟩
      have HB2 : Hid (Bw B p w w2) := HB0.out.trans HC2.out
      clear HC2 HB0 HW0 HX0 c0 c1
      rw [HT.out] at HW2
      have hz2 : (l3 ++ flatM lotL (xs.take (k + 1))).length ≤ 2050 + 1020 * (k + 1) := by rw [← HT.out, ← List.append_assoc]; have a1 := lt (l := lk) h0; have a2 := li (l := lk ++ textL x0.data.toList) h1; omega
      go_wp2_with fail
      exact ⟨⟨k + 1, v2, _, by go_num, by omega, hz2, rfl, HW2.out, HB2.out⟩, by simp [Lib.intOf]; omega⟩
    · have hkz : ¬ (k : Int) < (xs.length : Int) := by omega
      have HT : Hid (lk = l3 ++ flatM lotL xs) := by unfold Hid; rw [HLkk.out, List.take_of_length_le (by omega)]
      go_wp2_with fail
      go_returns
      exact ⟨rfl, vk, by unfold Hid; refine cast (congrArg (fun z => Wm B _ p vk z) ?_) HWk.out; simp only [HT.out, HL3.out, HL2.out, HL1.out, flatI, List.append_assoc, List.append_nil], HBk⟩
set_option maxHeartbeats 8000000 in
theorem write3 (B p : Nat) (v : Value) (l : List UInt8) (x0 x1 : Int) (x2 : ByteArray) (x3 x4 x5 : Int) (xs : List Ct) (xa : Option Addr) (xac : Nat) (x7 x8 : Int) (ys : List Int) (ya : Option Addr) (yac : Nat) (h0 : I64 x0) (h1 : I64 x1) (h2 : x2.data.toList.length ≤ 1000) (h3 : I64 x3) (h4 : I64 x4) (h5 : I64 x5) (h7 : I64 x7) (h8 : I64 x8) (w : World) (h : Wm B w p v l) (hl : l.length ≤ 1000) (hn : xs.length ≤ 64) (hm : ys.length ≤ 64) (hL : Cts B w xa xs) (hq : ∀ y ∈ xs, I64 y.d ∧ I64 y.r ∧ I64 y.c) (hM : Ins B w ya ys) (hy : ∀ n ∈ ys, I64 n) : Calls Tryz.prog 180 #[.agg #[.int .i64 x0, .int .i64 x1, .string x2, .int .i64 x3, .int .i64 x4, .int .i64 x5, .slice xa xs.length xac, .int .i64 x7, .int .i64 x8, .slice ya ys.length yac], .pointer (some ⟨p, 0, none⟩)] w (WP B p (l ++ (intL x0 ++ (intL x1 ++ (intL x3 ++ (intL x4 ++ (intL x5 ++ (intL x7 ++ (intL x8 ++ (textL x2.data.toList ++ (uintL xs.length ++ (flatM cutL xs ++ intsL ys))))))))))) w) := by
  have hs2 : x2.size ≤ 1000 := h2
  have HW0 : Hid (Wm B ((w.alloc (.cells #[.int .i64 x0, .int .i64 x1, .string x2, .int .i64 x3, .int .i64 x4, .int .i64 x5, .slice xa xs.length xac, .int .i64 x7, .int .i64 x8, .slice ya ys.length yac] 80)).alloc (.cells #[.int .i64 x0, .int .i64 x1, .string x2, .int .i64 x3, .int .i64 x4, .int .i64 x5, .slice xa xs.length xac, .int .i64 x7, .int .i64 x8, .slice ya ys.length yac] 27)) p v l) := (h.alloc _).alloc _
  have HB0 : Hid (Bw B p w ((w.alloc (.cells #[.int .i64 x0, .int .i64 x1, .string x2, .int .i64 x3, .int .i64 x4, .int .i64 x5, .slice xa xs.length xac, .int .i64 x7, .int .i64 x8, .slice ya ys.length yac] 80)).alloc (.cells #[.int .i64 x0, .int .i64 x1, .string x2, .int .i64 x3, .int .i64 x4, .int .i64 x5, .slice xa xs.length xac, .int .i64 x7, .int .i64 x8, .slice ya ys.length yac] 27))) := ((Bw.refl B p w).alloc h.bw _).alloc (h.alloc _).bw _
  have HX0 : Hid (Bx ((w.alloc (.cells #[.int .i64 x0, .int .i64 x1, .string x2, .int .i64 x3, .int .i64 x4, .int .i64 x5, .slice xa xs.length xac, .int .i64 x7, .int .i64 x8, .slice ya ys.length yac] 80)).alloc (.cells #[.int .i64 x0, .int .i64 x1, .string x2, .int .i64 x3, .int .i64 x4, .int .i64 x5, .slice xa xs.length xac, .int .i64 x7, .int .i64 x8, .slice ya ys.length yac] 27)) (w.heap.size + 1) #[.int .i64 x0, .int .i64 x1, .string x2, .int .i64 x3, .int .i64 x4, .int .i64 x5, .slice xa xs.length xac, .int .i64 x7, .int .i64 x8, .slice ya ys.length yac] 27) := by have := Bx.new (w.alloc (.cells #[.int .i64 x0, .int .i64 x1, .string x2, .int .i64 x3, .int .i64 x4, .int .i64 x5, .slice xa xs.length xac, .int .i64 x7, .int .i64 x8, .slice ya ys.length yac] 80)) #[.int .i64 x0, .int .i64 x1, .string x2, .int .i64 x3, .int .i64 x4, .int .i64 x5, .slice xa xs.length xac, .int .i64 x7, .int .i64 x8, .slice ya ys.length yac] 27; rwa [size_a] at this
  have hbp : w.heap.size + 1 ≠ p := by have := h.lt; omega
  have HLk : Hid (Cts B w xa xs) := hL
  have HQ : Hid (∀ y ∈ xs, I64 y.d ∧ I64 y.r ∧ I64 y.c) := hq
  have HM : Hid (Ins B w ya ys) := hM
  have HY : Hid (∀ n ∈ ys, I64 n) := hy
  clear h hL hq hM hy
  go_enter Tryz.func180, Tryz.ntmps180
  go_upto_region 2 with fail
  generalize ((w.alloc (.cells #[.int .i64 x0, .int .i64 x1, .string x2, .int .i64 x3, .int .i64 x4, .int .i64 x5, .slice xa xs.length xac, .int .i64 x7, .int .i64 x8, .slice ya ys.length yac] 80)).alloc (.cells #[.int .i64 x0, .int .i64 x1, .string x2, .int .i64 x3, .int .i64 x4, .int .i64 x5, .slice xa xs.length xac, .int .i64 x7, .int .i64 x8, .slice ya ys.length yac] 27)) = w0 at *
  generalize w.heap.size + 1 = b at *
  have c0_0 : w0.cell? ⟨b, 0, none⟩ = some (.int .i64 x0) := HX0.out.cell 0
  have c0_1 : w0.cell? ⟨b, 1, none⟩ = some (.int .i64 x1) := HX0.out.cell 1
  have c0_3 : w0.cell? ⟨b, 3, none⟩ = some (.int .i64 x3) := HX0.out.cell 3
  have c0_4 : w0.cell? ⟨b, 4, none⟩ = some (.int .i64 x4) := HX0.out.cell 4
  have c0_5 : w0.cell? ⟨b, 5, none⟩ = some (.int .i64 x5) := HX0.out.cell 5
  have c0_7 : w0.cell? ⟨b, 7, none⟩ = some (.int .i64 x7) := HX0.out.cell 7
  have c0_8 : w0.cell? ⟨b, 8, none⟩ = some (.int .i64 x8) := HX0.out.cell 8
  have HN0 : Hid (∀ n ∈ [x0, x1, x3, x4, x5, x7, x8], I64 n) := by unfold Hid; intro n hn; simp only [List.mem_cons, List.not_mem_nil, or_false] at hn; rcases hn with rfl | rfl | rfl | rfl | rfl | rfl | rfl <;> assumption
  go_wp2_with fail
  refine (wnums B p v l [x0, x1, x3, x4, x5, x7, x8] w0.heap.size _ _ (HW0.out.alloc _) (Bx.new _ _ _) HN0.out (by show l.length + 70 ≤ _; omega)).mono ?_
  rintro e w1 ⟨rfl, v1, HW1, HC1⟩
  have HX1 : Hid (Bx w1 b #[.int .i64 x0, .int .i64 x1, .string x2, .int .i64 x3, .int .i64 x4, .int .i64 x5, .slice xa xs.length xac, .int .i64 x7, .int .i64 x8, .slice ya ys.length yac] 27) := (HX0.out.keep (below_a _ _)).bw HC1.out (by decide) hbp
  have HB1 : Hid (Bw B p w w1) := (HB0.out.alloc HW0.out.bw _).trans HC1.out
  obtain ⟨l1, hl1⟩ : ∃ x, x = l ++ flatI [x0, x1, x3, x4, x5, x7, x8] := ⟨_, rfl⟩
  rw [← hl1] at HW1
  have hz1 : l1.length ≤ 1070 := by rw [hl1]; have := ln (l := l) (xs := [x0, x1, x3, x4, x5, x7, x8]) HN0.out; have e : [x0, x1, x3, x4, x5, x7, x8].length = 7 := rfl; rw [e] at this; omega
  have HL1 : Hid (l1 = l ++ flatI [x0, x1, x3, x4, x5, x7, x8]) := hl1
  clear hl1
  clear HX0 HB0 HC1 HW0 HN0 c0_0 c0_1 c0_3 c0_4 c0_5 c0_7 c0_8
  have c1_2 : w1.cell? ⟨b, 2, none⟩ = some (.string x2) := HX1.out.cell 2
  have HKP1 : Hid (∀ (k : Nat) (w5 : World), Bw B p (w1.drewN k) w5 → w5.cell? ⟨b, 2, none⟩ = some (.string x2)) := fun k w5 hk => ((HX1.out.drewN k).bw hk (by decide) hbp).cell 2
  go_wp2_with fail
  go_region_held3 (fun w' => w'.cell? ⟨b, 2, none⟩ = some (.string x2)) (first | go_keep | exact HKP1.out _ _ HC2.out) (first | (go_at_call 152; go_must (refine (wtext B p v1 l1 x2 _ (HW1.out.drewN _) (by omega)).mono ?_; rintro e w2 ⟨rfl, v2, HW2, HC2⟩)))
  rename_i hHeld
  clear hHeld
  have HX2 : Hid (Bx w2 b #[.int .i64 x0, .int .i64 x1, .string x2, .int .i64 x3, .int .i64 x4, .int .i64 x5, .slice xa xs.length xac, .int .i64 x7, .int .i64 x8, .slice ya ys.length yac] 27) := (HX1.out.drewN _).bw HC2.out (by decide) hbp
  have HB2 : Hid (Bw B p w w2) := (HB1.out.drewN _).trans HC2.out
  clear HX1 HB1 HC2 HW1 HKP1 c1_2
  obtain ⟨l2, hl2⟩ : ∃ x, x = l1 ++ textL x2.data.toList := ⟨_, rfl⟩
  rw [← hl2] at HW2
  have hz2 : l2.length ≤ 2080 := by rw [hl2]; have := lt (l := l1) (s := x2.data.toList) (by assumption); omega
  have HL2 : Hid (l2 = l1 ++ textL x2.data.toList) := hl2
  clear hl2
  have c2_6 : w2.cell? ⟨b, 6, none⟩ = some (.slice xa xs.length xac) := HX2.out.cell 6
  have HKP2 : Hid (∀ (k : Nat) (w5 : World), Bw B p (w2.drewN k) w5 → w5.cell? ⟨b, 6, none⟩ = some (.slice xa xs.length xac)) := fun k w5 hk => ((HX2.out.drewN k).bw hk (by decide) hbp).cell 6
  go_wp2_with fail
  go_region_held3 (fun w' => w'.cell? ⟨b, 6, none⟩ = some (.slice xa xs.length xac)) (first | go_keep | exact HKP2.out _ _ HC3.out) (first | (go_at_call 75; go_must (refine (wuintW B p v2 l2 xs.length (by omega) _ (HW2.out.drewN _) (by omega)).mono ?_; rintro e w3 ⟨rfl, v3, HW3, HC3⟩)))
  rename_i hHeld
  clear hHeld
  have HX3 : Hid (Bx w3 b #[.int .i64 x0, .int .i64 x1, .string x2, .int .i64 x3, .int .i64 x4, .int .i64 x5, .slice xa xs.length xac, .int .i64 x7, .int .i64 x8, .slice ya ys.length yac] 27) := (HX2.out.drewN _).bw HC3.out (by decide) hbp
  have HB3 : Hid (Bw B p w w3) := (HB2.out.drewN _).trans HC3.out
  clear HX2 HB2 HC3 HW2 HKP2 c2_6
  obtain ⟨l3, hl3⟩ : ∃ x, x = l2 ++ uintL xs.length := ⟨_, rfl⟩
  rw [← hl3] at HW3
  have hz3 : l3.length ≤ 2090 := by rw [hl3]; have := lu (l := l2) (n := xs.length) (by omega); omega
  have HL3 : Hid (l3 = l2 ++ uintL xs.length) := hl3
  clear hl3
  have cS : w3.cell? ⟨b, 6, none⟩ = some (.slice xa xs.length xac) := HX3.out.cell 6
  go_wp2_with fail
  go_loopw [43] (fun i wr => ∃ (k : Nat) (vk : Value) (lk : List UInt8), i = .int .i64 k ∧ k ≤ xs.length ∧ lk.length ≤ 2090 + 30 * k ∧ Hid (lk = l3 ++ flatM cutL (xs.take k)) ∧ Hid (Wm B wr p vk lk) ∧ Hid (Bw B p w wr) ∧ Hid (Bx wr b #[.int .i64 x0, .int .i64 x1, .string x2, .int .i64 x3, .int .i64 x4, .int .i64 x5, .slice xa xs.length xac, .int .i64 x7, .int .i64 x8, .slice ya ys.length yac] 27)) (fun i _ => xs.length - (Lib.intOf i).toNat)
  case atStart => exact ⟨0, v3, l3, rfl, Nat.zero_le _, by omega, by unfold Hid; rw [List.take_zero]; show _ = _ ++ []; rw [List.append_nil], HW3, HB3, HX3⟩
  case round =>
    obtain ⟨k, vk, lk, rfl, hk, hzk, HLkk, HWk, HBk, HXk⟩ := hrel
    clear HW3 HB3 HX3 cS
    by_cases hkn : k < xs.length
    · have hkz : (k : Int) < (xs.length : Int) := by omega
      obtain ⟨bb, off, rfl, hbl, hce⟩ := HLk.out (by omega)
      have hc := hce k hkn
      have hc0 : wr.cell? ⟨bb, off + k * 3, none⟩ = some (.int .i64 xs[k].d) := (HBk.out.1.cell (by exact hbl)).trans hc.1
      have hc1 : wr.cell? ⟨bb, off + k * 3 + 1, none⟩ = some (.int .i64 xs[k].r) := (HBk.out.1.cell (by exact hbl)).trans hc.2.1
      have hc2 : wr.cell? ⟨bb, off + k * 3 + 2, none⟩ = some (.int .i64 xs[k].c) := (HBk.out.1.cell (by exact hbl)).trans hc.2.2
      have HT : Hid (lk ++ flatI [xs[k].d, xs[k].r, xs[k].c] = l3 ++ flatM cutL (xs.take (k + 1))) := by unfold Hid; rw [HLkk.out, flatM_take cutL hkn, List.append_assoc]; simp only [flatI, cutL, List.append_nil]
      have g0 := (HQ.out _ (List.getElem_mem hkn)).1
      have g1 := (HQ.out _ (List.getElem_mem hkn)).2.1
      have g2 := (HQ.out _ (List.getElem_mem hkn)).2.2
      generalize xs[k].d = z0 at *
      generalize xs[k].r = z1 at *
      generalize xs[k].c = z2 at *
      have HNk : Hid (∀ n ∈ [z0, z1, z2], I64 n) := by unfold Hid; intro n hn; simp only [List.mem_cons, List.not_mem_nil, or_false] at hn; rcases hn with rfl | rfl | rfl <;> assumption
      clear hce hc HLkk
      have HB0 : Hid (Bw B p w ((wr.alloc (.cells #[.int .i64 z0, .int .i64 z1, .int .i64 z2] 112)).alloc (.cells #[.int .i64 z0, .int .i64 z1, .int .i64 z2] 3))) := (HBk.out.alloc HWk.out.bw _).alloc (HWk.out.alloc _).bw _
      have HX0 : Hid (Bx ((wr.alloc (.cells #[.int .i64 z0, .int .i64 z1, .int .i64 z2] 112)).alloc (.cells #[.int .i64 z0, .int .i64 z1, .int .i64 z2] 3)) b #[.int .i64 x0, .int .i64 x1, .string x2, .int .i64 x3, .int .i64 x4, .int .i64 x5, .slice (some ⟨bb, off, none⟩) xs.length xac, .int .i64 x7, .int .i64 x8, .slice ya ys.length yac] 27) := (HXk.out.keep (below_a _ _)).keep (below_a _ _)
      have HXn : Hid (Bx ((wr.alloc (.cells #[.int .i64 z0, .int .i64 z1, .int .i64 z2] 112)).alloc (.cells #[.int .i64 z0, .int .i64 z1, .int .i64 z2] 3)) (wr.heap.size + 1) (icells [z0, z1, z2]).toArray 3) := by have := Bx.new (wr.alloc (.cells #[.int .i64 z0, .int .i64 z1, .int .i64 z2] 112)) #[.int .i64 z0, .int .i64 z1, .int .i64 z2] 3; rwa [size_a] at this
      have HW0 : Hid (Wm B ((wr.alloc (.cells #[.int .i64 z0, .int .i64 z1, .int .i64 z2] 112)).alloc (.cells #[.int .i64 z0, .int .i64 z1, .int .i64 z2] 3)) p vk lk) := (HWk.out.alloc _).alloc _
      clear HWk HBk HXk
      go_wp2_with fail
      refine (wnums B p vk lk [z0, z1, z2] (wr.heap.size + 1) _ _ HW0.out HXn.out HNk.out (by show lk.length + 30 ≤ _; omega)).mono ?_
      rintro e w2 ⟨rfl, v2, HW2, HC2⟩
      have HB2 : Hid (Bw B p w w2) := HB0.out.trans HC2.out
      have HX2 : Hid (Bx w2 b #[.int .i64 x0, .int .i64 x1, .string x2, .int .i64 x3, .int .i64 x4, .int .i64 x5, .slice (some ⟨bb, off, none⟩) xs.length xac, .int .i64 x7, .int .i64 x8, .slice ya ys.length yac] 27) := HX0.out.bw HC2.out (by decide) hbp
      clear HC2 HB0 HW0 HX0 HXn
      have hz2 : (l3 ++ flatM cutL (xs.take (k + 1))).length ≤ 2090 + 30 * (k + 1) := by rw [← HT.out]; have a1 := ln (l := lk) HNk.out; have e : [z0, z1, z2].length = 3 := rfl; rw [e] at a1; omega
      rw [HT.out] at HW2
      go_wp2_with fail
      exact ⟨⟨k + 1, v2, _, by go_num, by omega, hz2, rfl, HW2.out, HB2.out, HX2.out⟩, by simp [Lib.intOf]; omega⟩
    · have hkz : ¬ (k : Int) < (xs.length : Int) := by omega
      have HT : Hid (lk = l3 ++ flatM cutL xs) := by unfold Hid; rw [HLkk.out, List.take_of_length_le (by omega)]
      have hzz : lk.length ≤ 100000 := by omega
      have c9 : wr.cell? ⟨b, 9, none⟩ = some (.slice ya ys.length yac) := HXk.out.cell 9
      have HKP : Hid (∀ (k : Nat) (w5 : World), Bw B p (wr.drewN k) w5 → w5.cell? ⟨b, 9, none⟩ = some (.slice ya ys.length yac)) := fun k w5 hk => ((HXk.out.drewN k).bw hk (by decide) hbp).cell 9
      have HMr : Hid (∀ k, Ins B (wr.drewN k) ya ys) := fun k => (HM.out.keep HBk.out.1).keep ⟨rfl, rfl, rfl, Nat.le_refl _, fun _ _ => rfl⟩
      go_wp2_with fail
      go_region_held3 (fun w' => w'.cell? ⟨b, 9, none⟩ = some (.slice ya ys.length yac)) (first | go_keep | exact HKP.out _ _ HC2.out) (first | (go_at_call 181; go_must (refine (wints B p vk lk ys ya yac _ (HWk.out.drewN _) (HMr.out _) HY.out (by omega)).mono ?_; rintro e w2 ⟨rfl, v2, HW2, HC2⟩)))
      have HB2 : Hid (Bw B p w w2) := (HBk.out.drewN _).trans HC2.out
      go_wp2_with fail
      go_returns
      exact ⟨rfl, v2, by unfold Hid; refine cast (congrArg (fun z => Wm B _ p v2 z) ?_) HW2.out; simp only [HT.out, HL3.out, HL2.out, HL1.out, flatI, List.append_assoc, List.append_nil], HB2⟩
end Go.Proofs.YtdmlgheajblcdaaGreat
