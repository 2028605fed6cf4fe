/- layer 15: the haircut of a security in a basket, of both -/
import Derived.Test.YtheikjjehidagaaECA
import Derived.Test.YtheikjjehidagaaQF
import Derived.WalkKit
import Derived.ProofKit
import Derived.Handy
import Derived.WalkLawsBesides
import Derived.WalkSpells
import Derived.BigQuiet
import Derived.BigCall
import Derived.Deep.QuietTactic
import Derived.Deep.Light
import Derived.Deep.OwnRows
import Derived.Laws.AppendOwnNone
import Derived.Laws.Strings3
import Derived.Laws.RangeAny
import Derived.Deep.RegionWith
import Derived.Lib.BitFns
import Derived.Lib.Walk
import Derived.Lib.Strings
import Derived.Lib.OthersKept
import Derived.Deep.CutBlock
import Derived.Deep.DeepCutAuto
import Derived.Deep.LoopGhost
import Derived.Deep.RegionHeld3
import Derived.Lib.SmallJoins
import Derived.Maps.AppendAt
import Derived.Laws.IdiomStrings
import Derived.Lib.AppendZeros
import Derived.Deep.WholeRow
import Derived.Laws.BitsAllLaws
import Derived.Lib.ConvBytes
import Derived.Deep.RegionLaw
import Derived.Maps.OwnSet
import Derived.Maps.OwnOps
import Derived.Maps.RangeWalk
import Derived.Maps.Ext
import Derived.DeepKeys4
import Derived.Laws.StructEq
import Derived.Deep.MidRow
import Derived.Lib.Bytealg
import Derived.Lib.Overlaps
import Derived.Lib.AppendZerosOnto
import Derived.Laws.MakeOwn
namespace Go.Proofs.Ytheikjjehidagaa.H5
open Go.RowKit
set_option linter.unusedVariables false
set_option linter.unusedSimpArgs false
set_option maxRecDepth 20000
open Num
def ofN (t r : Int) : List N14.Ct → Int × Bool
  | [] => (0, false)
  | c :: l => if t ≤ c.d ∧ r ≤ c.r then (c.c, true) else ofN t r l
def ofC (t r : Int) (l : List N14.Ct) : Int × Bool := if t < 0 then (0, false) else ofN t r l
theorem ofN_nil (t r : Int) (l : List N14.Ct) : ofN t r (l.drop l.length) = (0, false) := by rw [List.drop_length]; rfl
theorem ofN_yes {t r : Int} {l : List N14.Ct} {k : Nat} (hk : k < l.length) (h : t ≤ l[k].d) (h2 : r ≤ l[k].r) : ofN t r (l.drop k) = (l[k].c, true) := by
  rw [List.drop_eq_getElem_cons hk, ofN, if_pos ⟨h, h2⟩]
theorem ofN_no {t r : Int} {l : List N14.Ct} {k : Nat} (hk : k < l.length) (h : ¬ (t ≤ l[k].d ∧ r ≤ l[k].r)) : ofN t r (l.drop k) = ofN t r (l.drop (k + 1)) := by
  rw [List.drop_eq_getElem_cons hk, ofN, if_neg h]
set_option maxHeartbeats 16000000 in
theorem xof (i0 i1 i3 i4 i5 i7 i8 : Int) (s : ByteArray) (ca ba : Option Addr) (cc nb bc : Nat) (xs : List N14.Ct) (ai ac : ByteArray) (a1 a2 m d : Int) (hm : 0 ≤ m ∧ m ≤ 200000) (w : World) (hC : N14.Cts w.heap.size w ca xs) (hl : xs.length ≤ 9223372036854775807) : Calls Try.prog 87 #[.agg #[.int .i64 i0, .int .i64 i1, .string s, .int .i64 i3, .int .i64 i4, .int .i64 i5, .slice ca xs.length cc, .int .i64 i7, .int .i64 i8, .slice ba nb bc], .agg #[.string ai, .int .i64 a1, .int .i64 a2, .int .i64 m, .string ac], .int .i64 d] w (LeP (ofC (lft m d) a2 xs).1 (ofC (lft m d) a2 xs).2 w) := by
  have HL : Hid (∀ W, Calls Try.prog 105 #[.agg #[.string ai, .int .i64 a1, .int .i64 a2, .int .i64 m, .string ac], .int .i64 d] W (LfP (lft m d) W)) := fun W => xleft ai a1 a2 m ac d hm W
  have HX : Hid (Bx ((w.alloc (.cells #[.int .i64 i0, .int .i64 i1, .string s, .int .i64 i3, .int .i64 i4, .int .i64 i5, .slice ca xs.length cc, .int .i64 i7, .int .i64 i8, .slice ba nb bc] 62)).alloc (.cells #[.string ai, .int .i64 a1, .int .i64 a2, .int .i64 m, .string ac] 45)) w.heap.size #[.int .i64 i0, .int .i64 i1, .string s, .int .i64 i3, .int .i64 i4, .int .i64 i5, .slice ca xs.length cc, .int .i64 i7, .int .i64 i8, .slice ba nb bc] 62) := (Bx.new w _ _).kept (World.grownBy_alloc _ _ none) (by simp)
  have HY : Hid (Bx ((w.alloc (.cells #[.int .i64 i0, .int .i64 i1, .string s, .int .i64 i3, .int .i64 i4, .int .i64 i5, .slice ca xs.length cc, .int .i64 i7, .int .i64 i8, .slice ba nb bc] 62)).alloc (.cells #[.string ai, .int .i64 a1, .int .i64 a2, .int .i64 m, .string ac] 45)) (w.heap.size + 1) #[.string ai, .int .i64 a1, .int .i64 a2, .int .i64 m, .string ac] 45) := by
    have := Bx.new (w.alloc (.cells #[.int .i64 i0, .int .i64 i1, .string s, .int .i64 i3, .int .i64 i4, .int .i64 i5, .slice ca xs.length cc, .int .i64 i7, .int .i64 i8, .slice ba nb bc] 62)) #[.string ai, .int .i64 a1, .int .i64 a2, .int .i64 m, .string ac] 45
    rw [World.size_alloc] at this
    exact this
  have HB : Hid (Below w.heap.size w ((w.alloc (.cells #[.int .i64 i0, .int .i64 i1, .string s, .int .i64 i3, .int .i64 i4, .int .i64 i5, .slice ca xs.length cc, .int .i64 i7, .int .i64 i8, .slice ba nb bc] 62)).alloc (.cells #[.string ai, .int .i64 a1, .int .i64 a2, .int .i64 m, .string ac] 45))) := ((Below.refl _ w).alloc (Nat.le_refl _) _).alloc (by simp) _
  have HC : Hid (N14.Cts w.heap.size w ca xs) := hC
  obtain ⟨T1, hT1⟩ : ∃ T, T = (ofC (lft m d) a2 xs).1 := ⟨_, rfl⟩
  obtain ⟨T2, hT2⟩ : ∃ T, T = (ofC (lft m d) a2 xs).2 := ⟨_, rfl⟩
  have HT : Hid (ofC (lft m d) a2 xs = (T1, T2)) := by rw [hT1, hT2]; rfl
  rw [← hT1, ← hT2]
  have hlz : (xs.length : Int) ≤ 9223372036854775807 := by omega
  clear hT1 hT2 hC hm
  generalize lft m d = t at *
  go_enter Try.func87, Try.ntmps87
  go_wp2_with fail
  refine (HL.out _).mono ?_
  rintro e w1 ⟨rfl, HB0⟩
  have HX1 : Hid (Bx w1 w.heap.size #[.int .i64 i0, .int .i64 i1, .string s, .int .i64 i3, .int .i64 i4, .int .i64 i5, .slice ca xs.length cc, .int .i64 i7, .int .i64 i8, .slice ba nb bc] 62) := HX.out.keep HB0
  have HY1 : Hid (Bx w1 (w.heap.size + 1) #[.string ai, .int .i64 a1, .int .i64 a2, .int .i64 m, .string ac] 45) := HY.out.keep HB0
  have HB1 : Hid (Below w.heap.size w w1) := HB.out.trans (HB0.mono HB.out.size)
  clear HL HX HY HB HB0
  have c6 : w1.cell? ⟨w.heap.size, 6, none⟩ = some (.slice ca xs.length cc) := HX1.out.cell 6
  by_cases ht : t < 0
  · have HY2 : Hid ((0, false) = (T1, T2)) := by have := HT.out; rw [ofC, if_pos ht] at this; exact this
    have KB : Hid (Below w.heap.size w w1) := HB1.out
    clear HT
    go_wp2_with fail
    go_ret2
    have h9 := HY2.out
    injection h9 with h9 h8
    rw [← h9, ← h8]
    exact ⟨rfl, KB.out⟩
  have HT0 : Hid (ofN t a2 (xs.drop 0) = (T1, T2)) := by have := HT.out; rw [ofC, if_neg ht] at this; exact this
  clear HT
  go_wp2_with fail
  go_loopw [19] (fun i wr => ∃ k : Nat, k ≤ xs.length ∧ i = .int .i64 k ∧ Hid (ofN t a2 (xs.drop k) = (T1, T2) ∧ Below w1.heap.size w1 wr))
    (fun i _ => xs.length - (intOf i).toNat)
  case atStart => exact ⟨0, Nat.zero_le _, rfl, HT0.out, Below.refl _ _⟩
  case round =>
    obtain ⟨k, hk, rfl, HZ⟩ := hrel
    have KB : Hid (Below w.heap.size w wr) := HB1.out.trans (HZ.out.2.mono HB1.out.size)
    have KW : Hid (Below w1.heap.size w1 wr) := HZ.out.2
    have e6 : wr.cell? ⟨w.heap.size, 6, none⟩ = some (.slice ca xs.length cc) := (HX1.out.keep KW.out).cell 6
    have e2 : wr.cell? ⟨w.heap.size + 1, 2, none⟩ = some (.int .i64 a2) := (HY1.out.keep KW.out).cell 2
    have hlt : w.heap.size + 1 < wr.heap.size := (HY1.out.keep KW.out).lt
    clear c6
    by_cases hkn : k < xs.length
    · have hkz : (k : Int) < (xs.length : Int) := by omega
      obtain ⟨blk, off, rfl, hbl, hcs⟩ := HC.out (by omega)
      have hbw : blk < wr.heap.size := by have := KB.out.size; omega
      obtain ⟨g0, g1, g2⟩ := hcs k hkn
      have HY3 : Hid (t ≤ xs[k].d → a2 ≤ xs[k].r → (xs[k].c, true) = (T1, T2)) := fun e e2 => (ofN_yes hkn e e2).symm.trans HZ.out.1
      have HN3 : Hid (¬ (t ≤ xs[k].d ∧ a2 ≤ xs[k].r) → ofN t a2 (xs.drop (k + 1)) = (T1, T2)) := fun e => (ofN_no hkn e).symm.trans HZ.out.1
      generalize xs[k] = x at *
      obtain ⟨xd, xr, xc⟩ := x
      simp only at *
      have f0 : wr.cell? ⟨blk, off + k * 3, none⟩ = some (.int .i64 xd) := (KB.out.cell (p := ⟨blk, off + k * 3, none⟩) hbl).trans g0
      have f1 : wr.cell? ⟨blk, off + k * 3 + 1, none⟩ = some (.int .i64 xr) := (KB.out.cell (p := ⟨blk, off + k * 3 + 1, none⟩) hbl).trans g1
      have f2 : wr.cell? ⟨blk, off + k * 3 + 2, none⟩ = some (.int .i64 xc) := (KB.out.cell (p := ⟨blk, off + k * 3 + 2, none⟩) hbl).trans g2
      clear hcs g0 g1 g2 HZ
      have HK : Hid (∀ y, Below w.heap.size w (wr.alloc y) ∧ Below w1.heap.size w1 (wr.alloc y)) := fun y => ⟨KB.out.alloc KB.out.size _, KW.out.alloc KW.out.size _⟩
      by_cases h1 : t ≤ xd
      · by_cases h2 : a2 ≤ xr
        · have HY4 := HY3.out h1 h2
          have HY2 : Hid ((xc, true) = (T1, T2)) := HY4
          clear HY4 HY3 HN3
          go_wp2_with fail
          go_ret2
          have h9 := HY2.out
          injection h9 with h9 h8
          rw [← h9, ← h8]
          exact ⟨rfl, (HK.out _).1⟩
        · have HN2 : Hid (ofN t a2 (xs.drop (k + 1)) = (T1, T2)) := HN3.out (by omega)
          clear HY3 HN3
          go_wp2_with fail
          go_roundw
          case rel => exact ⟨k + 1, by omega, by simp, HN2.out, (HK.out _).2⟩
          case measure => simp [intOf]; omega
      · have HN2 : Hid (ofN t a2 (xs.drop (k + 1)) = (T1, T2)) := HN3.out (by omega)
        clear HY3 HN3
        go_wp2_with fail
        go_roundw
        case rel => exact ⟨k + 1, by omega, by simp, HN2.out, (HK.out _).2⟩
        case measure => simp [intOf]; omega
    · have hkz : ¬ (k : Int) < (xs.length : Int) := by omega
      have HY2 : Hid ((0, false) = (T1, T2)) := by
        have := HZ.out.1
        rw [show k = xs.length by omega, ofN_nil] at this
        exact this
      clear HZ
      go_wp2_with fail
      go_ret2
      have h9 := HY2.out
      injection h9 with h9 h8
      rw [← h9, ← h8]
      exact ⟨rfl, KB.out⟩
set_option maxHeartbeats 16000000 in
theorem rof (i0 i1 i3 i4 i5 i7 i8 : Int) (s : ByteArray) (ca ba : Option Addr) (cc nb bc : Nat) (xs : List N14.Ct) (ai ac : ByteArray) (a1 a2 m d : Int) (hm : 0 ≤ m ∧ m ≤ 200000) (w : World) (hC : N14.Cts w.heap.size w ca xs) (hl : xs.length ≤ 9223372036854775807) : Calls Try.prog 90 #[.agg #[.int .i64 i0, .int .i64 i1, .string s, .int .i64 i3, .int .i64 i4, .int .i64 i5, .slice ca xs.length cc, .int .i64 i7, .int .i64 i8, .slice ba nb bc], .agg #[.string ai, .int .i64 a1, .int .i64 a2, .int .i64 m, .string ac], .int .i64 d] w (LeP (ofC (lft m d) a2 xs).1 (ofC (lft m d) a2 xs).2 w) := by
  have HL : Hid (∀ W, Calls Try.prog 91 #[.agg #[.string ai, .int .i64 a1, .int .i64 a2, .int .i64 m, .string ac], .int .i64 d] W (LfP (lft m d) W)) := fun W => rleft ai a1 a2 m ac d hm W
  have HX : Hid (Bx ((w.alloc (.cells #[.int .i64 i0, .int .i64 i1, .string s, .int .i64 i3, .int .i64 i4, .int .i64 i5, .slice ca xs.length cc, .int .i64 i7, .int .i64 i8, .slice ba nb bc] 62)).alloc (.cells #[.string ai, .int .i64 a1, .int .i64 a2, .int .i64 m, .string ac] 45)) w.heap.size #[.int .i64 i0, .int .i64 i1, .string s, .int .i64 i3, .int .i64 i4, .int .i64 i5, .slice ca xs.length cc, .int .i64 i7, .int .i64 i8, .slice ba nb bc] 62) := (Bx.new w _ _).kept (World.grownBy_alloc _ _ none) (by simp)
  have HY : Hid (Bx ((w.alloc (.cells #[.int .i64 i0, .int .i64 i1, .string s, .int .i64 i3, .int .i64 i4, .int .i64 i5, .slice ca xs.length cc, .int .i64 i7, .int .i64 i8, .slice ba nb bc] 62)).alloc (.cells #[.string ai, .int .i64 a1, .int .i64 a2, .int .i64 m, .string ac] 45)) (w.heap.size + 1) #[.string ai, .int .i64 a1, .int .i64 a2, .int .i64 m, .string ac] 45) := by
    have := Bx.new (w.alloc (.cells #[.int .i64 i0, .int .i64 i1, .string s, .int .i64 i3, .int .i64 i4, .int .i64 i5, .slice ca xs.length cc, .int .i64 i7, .int .i64 i8, .slice ba nb bc] 62)) #[.string ai, .int .i64 a1, .int .i64 a2, .int .i64 m, .string ac] 45
    rw [World.size_alloc] at this
    exact this
  have HB : Hid (Below w.heap.size w ((w.alloc (.cells #[.int .i64 i0, .int .i64 i1, .string s, .int .i64 i3, .int .i64 i4, .int .i64 i5, .slice ca xs.length cc, .int .i64 i7, .int .i64 i8, .slice ba nb bc] 62)).alloc (.cells #[.string ai, .int .i64 a1, .int .i64 a2, .int .i64 m, .string ac] 45))) := ((Below.refl _ w).alloc (Nat.le_refl _) _).alloc (by simp) _
  have HC : Hid (N14.Cts w.heap.size w ca xs) := hC
  obtain ⟨T1, hT1⟩ : ∃ T, T = (ofC (lft m d) a2 xs).1 := ⟨_, rfl⟩
  obtain ⟨T2, hT2⟩ : ∃ T, T = (ofC (lft m d) a2 xs).2 := ⟨_, rfl⟩
  have HT : Hid (ofC (lft m d) a2 xs = (T1, T2)) := by rw [hT1, hT2]; rfl
  rw [← hT1, ← hT2]
  have hlz : (xs.length : Int) ≤ 9223372036854775807 := by omega
  clear hT1 hT2 hC hm
  generalize lft m d = t at *
  go_enter Try.func90, Try.ntmps90
  go_wp2_with fail
  refine (HL.out _).mono ?_
  rintro e w1 ⟨rfl, HB0⟩
  have HX1 : Hid (Bx w1 w.heap.size #[.int .i64 i0, .int .i64 i1, .string s, .int .i64 i3, .int .i64 i4, .int .i64 i5, .slice ca xs.length cc, .int .i64 i7, .int .i64 i8, .slice ba nb bc] 62) := HX.out.keep HB0
  have HY1 : Hid (Bx w1 (w.heap.size + 1) #[.string ai, .int .i64 a1, .int .i64 a2, .int .i64 m, .string ac] 45) := HY.out.keep HB0
  have HB1 : Hid (Below w.heap.size w w1) := HB.out.trans (HB0.mono HB.out.size)
  clear HL HX HY HB HB0
  have c6 : w1.cell? ⟨w.heap.size, 6, none⟩ = some (.slice ca xs.length cc) := HX1.out.cell 6
  go_wp2_with fail
  by_cases ht : t < 0
  · have HY2 : Hid ((0, false) = (T1, T2)) := by have := HT.out; rw [ofC, if_pos ht] at this; exact this
    clear HT
    go_loopw [9] (fun i wr => i = .int .i64 0 ∧ wr = w1)
      (fun i _ => 0)
    case atStart => exact ⟨rfl, rfl⟩
    case round =>
      obtain ⟨rfl, rfl⟩ := hrel
      have KB : Hid (Below w.heap.size w wr) := HB1.out
      by_cases h0 : 0 < xs.length
      · have h0z : (0 : Int) < (xs.length : Int) := by omega
        go_wp2_with fail
        go_ret2
        have h9 := HY2.out
        injection h9 with h9 h8
        rw [← h9, ← h8]
        exact ⟨rfl, KB.out⟩
      · have h0z : ¬ (0 : Int) < (xs.length : Int) := by omega
        go_wp2_with fail
        go_ret2
        have h9 := HY2.out
        injection h9 with h9 h8
        rw [← h9, ← h8]
        exact ⟨rfl, KB.out⟩
  have HT0 : Hid (ofN t a2 (xs.drop 0) = (T1, T2)) := by have := HT.out; rw [ofC, if_neg ht] at this; exact this
  clear HT
  go_loopw [9] (fun i wr => ∃ k : Nat, k ≤ xs.length ∧ i = .int .i64 k ∧ Hid (ofN t a2 (xs.drop k) = (T1, T2) ∧ Below w1.heap.size w1 wr))
    (fun i _ => xs.length - (intOf i).toNat)
  case atStart => exact ⟨0, Nat.zero_le _, rfl, HT0.out, Below.refl _ _⟩
  case round =>
    obtain ⟨k, hk, rfl, HZ⟩ := hrel
    have KB : Hid (Below w.heap.size w wr) := HB1.out.trans (HZ.out.2.mono HB1.out.size)
    have KW : Hid (Below w1.heap.size w1 wr) := HZ.out.2
    have e6 : wr.cell? ⟨w.heap.size, 6, none⟩ = some (.slice ca xs.length cc) := (HX1.out.keep KW.out).cell 6
    have e2 : wr.cell? ⟨w.heap.size + 1, 2, none⟩ = some (.int .i64 a2) := (HY1.out.keep KW.out).cell 2
    have hlt : w.heap.size + 1 < wr.heap.size := (HY1.out.keep KW.out).lt
    clear c6
    by_cases hkn : k < xs.length
    · have hkz : (k : Int) < (xs.length : Int) := by omega
      obtain ⟨blk, off, rfl, hbl, hcs⟩ := HC.out (by omega)
      have hbw : blk < wr.heap.size := by have := KB.out.size; omega
      obtain ⟨g0, g1, g2⟩ := hcs k hkn
      have HY3 : Hid (t ≤ xs[k].d → a2 ≤ xs[k].r → (xs[k].c, true) = (T1, T2)) := fun e e2 => (ofN_yes hkn e e2).symm.trans HZ.out.1
      have HN3 : Hid (¬ (t ≤ xs[k].d ∧ a2 ≤ xs[k].r) → ofN t a2 (xs.drop (k + 1)) = (T1, T2)) := fun e => (ofN_no hkn e).symm.trans HZ.out.1
      generalize xs[k] = x at *
      obtain ⟨xd, xr, xc⟩ := x
      simp only at *
      have f0 : wr.cell? ⟨blk, off + k * 3, none⟩ = some (.int .i64 xd) := (KB.out.cell (p := ⟨blk, off + k * 3, none⟩) hbl).trans g0
      have f1 : wr.cell? ⟨blk, off + k * 3 + 1, none⟩ = some (.int .i64 xr) := (KB.out.cell (p := ⟨blk, off + k * 3 + 1, none⟩) hbl).trans g1
      have f2 : wr.cell? ⟨blk, off + k * 3 + 2, none⟩ = some (.int .i64 xc) := (KB.out.cell (p := ⟨blk, off + k * 3 + 2, none⟩) hbl).trans g2
      clear hcs g0 g1 g2 HZ
      have HK : Hid (∀ j, Below w.heap.size w (wr.drewN j) ∧ Below w1.heap.size w1 (wr.drewN j)) := fun j => ⟨N14.bdrew KB.out j, N14.bdrew KW.out j⟩
      have HC6 : Hid (∀ j, (wr.drewN j).cell? ⟨w.heap.size, 6, none⟩ = some (.slice (some ⟨blk, off, none⟩) xs.length cc)) := fun j => e6
      have HF2 : Hid (∀ j, (wr.drewN j).cell? ⟨blk, off + k * 3 + 2, none⟩ = some (.int .i64 xc)) := fun j => f2
      by_cases h1 : t ≤ xd
      · by_cases h2 : a2 ≤ xr
        · have HY4 := HY3.out h1 h2
          have HY2 : Hid ((xc, true) = (T1, T2)) := HY4
          clear HY4 HY3 HN3
          go_wp2_with fail
          go_quiet (fail)
          obtain ⟨w9, hw9⟩ : ∃ w9, w9 = wr.drewN nq := ⟨_, rfl⟩
          have l6 : w9.cell? ⟨w.heap.size, 6, none⟩ = some (.slice (some ⟨blk, off, none⟩) xs.length cc) := by rw [hw9]; exact HC6.out _
          have l2 : w9.cell? ⟨blk, off + k * 3 + 2, none⟩ = some (.int .i64 xc) := by rw [hw9]; exact HF2.out _
          have K9 : Hid (Below w.heap.size w w9) := by rw [hw9]; exact (HK.out _).1
          rw [← hw9]
          clear hw9 HK HC6 HF2 e6 e2 f0 f1 f2
          go_wp2_with fail
          go_ret2
          have h9 := HY2.out
          injection h9 with h9 h8
          rw [← h9, ← h8]
          exact ⟨rfl, K9.out⟩
        · have HN2 : Hid (ofN t a2 (xs.drop (k + 1)) = (T1, T2)) := HN3.out (by omega)
          clear HY3 HN3
          go_wp2_with fail
          go_quiet (fail)
          go_wp2_with fail
          go_roundw
          case rel => exact ⟨k + 1, by omega, by simp, HN2.out, (HK.out _).2⟩
          case measure => simp [intOf]; omega
      · have HN2 : Hid (ofN t a2 (xs.drop (k + 1)) = (T1, T2)) := HN3.out (by omega)
        have hdf : decide (t ≤ xd) = false := decide_eq_false h1
        have hlt2 : xd < t := by omega
        clear HY3 HN3
        go_wp2_with fail
        go_quiet (fail)
        go_wp2_with fail
        go_roundw
        case rel => exact ⟨k + 1, by omega, by simp, HN2.out, (HK.out _).2⟩
        case measure => simp [intOf]; omega
    · have hkz : ¬ (k : Int) < (xs.length : Int) := by omega
      have HY2 : Hid ((0, false) = (T1, T2)) := by
        have := HZ.out.1
        rw [show k = xs.length by omega, ofN_nil] at this
        exact this
      clear HZ
      go_wp2_with fail
      go_ret2
      have h9 := HY2.out
      injection h9 with h9 h8
      rw [← h9, ← h8]
      exact ⟨rfl, KB.out⟩
theorem rbk (b : N14.Bk) (ca ba : Option Addr) (cc bc : Nat) (w : World) (hC : N14.Cts w.heap.size w ca b.cuts) (hI : N14.Ins w.heap.size w ba b.bar) (hlc : b.cuts.length ≤ 9223372036854775807) (hlb : b.bar.length ≤ 9223372036854775807) : Calls Try.prog 31 #[.agg #[.int .i64 b.id, .int .i64 b.ver, .string ⟨b.cur.toArray⟩, .int .i64 b.rat, .int .i64 b.least, .int .i64 b.most, .slice ca b.cuts.length cc, .int .i64 b.iss, .int .i64 b.ass, .slice ba b.bar.length bc]] w (N14.KP (.int .i64 (N14.bkE N14.C0 b)) w) := N14.rBasket b ca ba cc bc w hC hI hlc hlb _ rfl
end Go.Proofs.Ytheikjjehidagaa.H5
