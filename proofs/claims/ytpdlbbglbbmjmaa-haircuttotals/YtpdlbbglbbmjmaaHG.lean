/- layer 15: law Totals -/
import Derived.Test.YtpdlbbglbbmjmaaHF
import Derived.WalkKit
import Derived.ProofKit
import Derived.Handy
import Derived.WalkLawsBesides
import Derived.WalkSpells
import Derived.BigQuiet
import Derived.BigCall
import Derived.Deep.QuietTactic
import Derived.Deep.Light
import Derived.Deep.OwnRows
import Derived.Laws.AppendOwnNone
import Derived.Laws.Strings3
import Derived.Laws.RangeAny
import Derived.Deep.RegionWith
import Derived.Lib.BitFns
import Derived.Lib.Walk
import Derived.Lib.Strings
import Derived.Lib.OthersKept
import Derived.Deep.CutBlock
import Derived.Deep.DeepCutAuto
import Derived.Deep.LoopGhost
import Derived.Deep.RegionHeld3
import Derived.Lib.SmallJoins
import Derived.Maps.AppendAt
import Derived.Laws.IdiomStrings
import Derived.Lib.AppendZeros
import Derived.Deep.WholeRow
import Derived.Laws.BitsAllLaws
import Derived.Lib.ConvBytes
import Derived.Deep.RegionLaw
import Derived.Maps.OwnSet
import Derived.Maps.OwnOps
import Derived.Maps.RangeWalk
import Derived.Maps.Ext
import Derived.DeepKeys4
import Derived.Laws.StructEq
import Derived.Deep.MidRow
import Derived.Lib.Bytealg
import Derived.Lib.Overlaps
import Derived.Lib.AppendZerosOnto
import Derived.Laws.MakeOwn
namespace Go.Proofs.Ytpdlbbglbbmjmaa
open Go.RowKit
set_option linter.unusedVariables false
set_option linter.unusedSimpArgs false
set_option maxRecDepth 20000
open Num
set_option maxHeartbeats 16000000 in
theorem ltotals (xs : List It) (hcc : ∀ x ∈ xs, Rng x.c) (a : Option Addr) (cap : Nat) (n : Int) (hn : Rng n) (w : World) (h : Rw 9 its w a xs) : Calls Try.prog 7 #[.slice a xs.length cap, .int .i64 n] w (OkP w) := by
  have HA : Hid (∀ w, Calls Try.prog 10 #[] w (OkP w)) := fun w => xawake w
  by_cases hl : 100 < xs.length
  · have hlz : (100 : Int) < (xs.length : Int) := by omega
    clear h hcc
    generalize xs.length = m at *
    go_enter Try.func7, Try.ntmps7
    go_wp2_with (go_at_call 10; refine (HA.out _).mono ?_; rintro e w1 ⟨rfl, HB1⟩)
    go_ret
    exact ⟨rfl, HB1⟩
  have hlz : ¬ (100 : Int) < (xs.length : Int) := by omega
  have HI : Hid (Calls Try.prog 19 #[.slice a xs.length cap] w (ItP xs w)) := xitems xs a cap w h (by omega)
  have HR : Hid (Rw 9 its w a xs) := h
  have HC : Hid (∀ x ∈ xs, Rng x.c) := hcc
  have HN : Hid (Rng n) := hn
  clear h hcc hn
  go_enter Try.func7, Try.ntmps7
  go_wp2_with (go_at_call 19; refine HI.out.mono ?_; clear HI; rintro e w1 ⟨vo, rfl, ho, HB1⟩; obtain ⟨a2, cap2, rfl, hc2, hrw⟩ := own_rw its_len ho rfl; have KO : Hid (Rw 9 its w1 a2 xs) := hrw; have K1 : Hid (Below w.heap.size w w1) := HB1; clear ho HB1 hrw)
  have KR : Hid (Rw 9 its w1 a xs) := Rw.below HR.out K1.out
  clear HR
  go_loopw [6] (fun i wr => ∃ k : Nat, k ≤ xs.length ∧ i = .int .i64 k ∧ Hid (Below w1.heap.size w1 wr))
    (fun i _ => xs.length - (intOf i).toNat)
  case atStart => exact ⟨0, Nat.zero_le _, rfl, Below.refl _ _⟩
  case round =>
    obtain ⟨k, hk, rfl, HB⟩ := hrel
    by_cases hkn : k < xs.length
    · have hkz : (k : Int) < (xs.length : Int) := by omega
      obtain ⟨blk, off, rfl, hbl, hcs⟩ := KR.out (by omega)
      obtain ⟨bk2, of2, rfl, hb2, hcs2⟩ := KO.out (by omega)
      have hc9 := hcs k hkn
      have hd9 := hcs2 k hkn
      have HV1 : Hid (∀ W, Calls Try.prog 20 #[.agg (its xs[k]).toArray] W (NuP xs[k].co W)) := fun W => xicov xs[k] (HC.out _ (List.getElem_mem hkn)) W
      have HV2 : Hid (∀ W, Calls Try.prog 21 #[.agg (its xs[k]).toArray] W (NuP xs[k].co W)) := fun W => ricov xs[k] (HC.out _ (List.getElem_mem hkn)) W
      generalize xs[k].co = S at *
      generalize xs[k] = x at *
      obtain ⟨l, q, ⟨ai, a1, a2, a3, ac⟩, p, c⟩ := x
      simp only [its] at HV1 HV2
      have c0 : w1.cell? ⟨blk, off + k * 9, none⟩ = some (.string l) := hc9 0 (by omega)
      have d0 : w1.cell? ⟨bk2, of2 + k * 9, none⟩ = some (.string l) := hd9 0 (by omega)
      have c1 : w1.cell? ⟨blk, off + k * 9 + 1, none⟩ = some (.int .i64 q) := hc9 1 (by omega)
      have d1 : w1.cell? ⟨bk2, of2 + k * 9 + 1, none⟩ = some (.int .i64 q) := hd9 1 (by omega)
      have c2 : w1.cell? ⟨blk, off + k * 9 + 2, none⟩ = some (.string ai) := hc9 2 (by omega)
      have d2 : w1.cell? ⟨bk2, of2 + k * 9 + 2, none⟩ = some (.string ai) := hd9 2 (by omega)
      have c3 : w1.cell? ⟨blk, off + k * 9 + 3, none⟩ = some (.int .i64 a1) := hc9 3 (by omega)
      have d3 : w1.cell? ⟨bk2, of2 + k * 9 + 3, none⟩ = some (.int .i64 a1) := hd9 3 (by omega)
      have c4 : w1.cell? ⟨blk, off + k * 9 + 4, none⟩ = some (.int .i64 a2) := hc9 4 (by omega)
      have d4 : w1.cell? ⟨bk2, of2 + k * 9 + 4, none⟩ = some (.int .i64 a2) := hd9 4 (by omega)
      have c5 : w1.cell? ⟨blk, off + k * 9 + 5, none⟩ = some (.int .i64 a3) := hc9 5 (by omega)
      have d5 : w1.cell? ⟨bk2, of2 + k * 9 + 5, none⟩ = some (.int .i64 a3) := hd9 5 (by omega)
      have c6 : w1.cell? ⟨blk, off + k * 9 + 6, none⟩ = some (.string ac) := hc9 6 (by omega)
      have d6 : w1.cell? ⟨bk2, of2 + k * 9 + 6, none⟩ = some (.string ac) := hd9 6 (by omega)
      have c7 : w1.cell? ⟨blk, off + k * 9 + 7, none⟩ = some (.int .i64 p) := hc9 7 (by omega)
      have d7 : w1.cell? ⟨bk2, of2 + k * 9 + 7, none⟩ = some (.int .i64 p) := hd9 7 (by omega)
      have c8 : w1.cell? ⟨blk, off + k * 9 + 8, none⟩ = some (.int .i64 c) := hc9 8 (by omega)
      have d8 : w1.cell? ⟨bk2, of2 + k * 9 + 8, none⟩ = some (.int .i64 c) := hd9 8 (by omega)
      clear hc9 hcs hd9 hcs2
      have hss : (S != S) = false := by simp
      go_upto_region 7 with fail
      refine wp_region_held (S := fun W => Below w1.heap.size w1 W) (by kernel_rfl) ?_
      change wpAnyH _ _ _ _ _ 11 #[false, false, false, false, false, false, false, false, false, false, false] _ wr.drew
      have hS0 : Below w1.heap.size w1 wr.drew := HB.out.trans (⟨rfl, rfl, rfl, Nat.le_refl _, fun _ _ => rfl⟩ : Below w1.heap.size wr wr.drew)
      obtain ⟨v0, hv0⟩ : ∃ v, v = wr.drew := ⟨_, rfl⟩
      rw [← hv0] at hS0 ⊢
      clear hv0
      refine takeR (fuel := 10) (i := 0) (v := .slice (some ⟨bk2, of2, none⟩) xs.length cap2) rfl (by kernel_rfl) (by kernel_rfl) (by kernel_rfl) (fun _ _ _ h => h) (Or.inl ⟨rfl, fun W hW => by go_simp⟩) hS0 ?_
      simp only [Act.put, List.setIfInBounds_toArray, List.set_cons_zero, List.set_cons_succ]
      refine takeR (fuel := 9) (i := 1) (v := .int .i64 k) rfl (by kernel_rfl) (by kernel_rfl) (by kernel_rfl) (fun _ _ _ h => h) (Or.inl ⟨rfl, fun W hW => by go_simp⟩) hS0 ?_
      simp only [Act.put, List.setIfInBounds_toArray, List.set_cons_zero, List.set_cons_succ]
      refine takeR (fuel := 8) (i := 2) (v := .pointer (some ⟨bk2, of2 + k * 9, none⟩)) rfl (by kernel_rfl) (by kernel_rfl) (by kernel_rfl) (fun _ _ _ h => h) (Or.inl ⟨rfl, fun W hW => by go_simp⟩) hS0 ?_
      simp only [Act.put, List.setIfInBounds_toArray, List.set_cons_zero, List.set_cons_succ]
      refine takeR (fuel := 7) (i := 3) (v := .agg #[.string l, .int .i64 q, .string ai, .int .i64 a1, .int .i64 a2, .int .i64 a3, .string ac, .int .i64 p, .int .i64 c]) rfl (by kernel_rfl) (by kernel_rfl) (by kernel_rfl) (fun _ _ _ h => h) (Or.inl ⟨rfl, fun W hW => exl _ _ _ _ rfl (.pointer (some ⟨bk2, of2 + k * 9, none⟩)) _ rfl (load48 W bk2 (of2 + k * 9) _ _ _ _ _ _ _ _ _ ((hW.cell (p := ⟨bk2, _, none⟩) hb2).trans d0) ((hW.cell (p := ⟨bk2, _, none⟩) hb2).trans d1) ((hW.cell (p := ⟨bk2, _, none⟩) hb2).trans d2) ((hW.cell (p := ⟨bk2, _, none⟩) hb2).trans d3) ((hW.cell (p := ⟨bk2, _, none⟩) hb2).trans d4) ((hW.cell (p := ⟨bk2, _, none⟩) hb2).trans d5) ((hW.cell (p := ⟨bk2, _, none⟩) hb2).trans d6) ((hW.cell (p := ⟨bk2, _, none⟩) hb2).trans d7) ((hW.cell (p := ⟨bk2, _, none⟩) hb2).trans d8))⟩) hS0 ?_
      simp only [Act.put, List.setIfInBounds_toArray, List.set_cons_zero, List.set_cons_succ]
      refine takeR (fuel := 6) (i := 5) (v := .slice (some ⟨blk, off, none⟩) xs.length cap) rfl (by kernel_rfl) (by kernel_rfl) (by kernel_rfl) (fun _ _ _ h => h) (Or.inl ⟨rfl, fun W hW => by go_simp⟩) hS0 ?_
      simp only [Act.put, List.setIfInBounds_toArray, List.set_cons_zero, List.set_cons_succ]
      refine takeR (fuel := 5) (i := 6) (v := .int .i64 k) rfl (by kernel_rfl) (by kernel_rfl) (by kernel_rfl) (fun _ _ _ h => h) (Or.inl ⟨rfl, fun W hW => by go_simp⟩) hS0 ?_
      simp only [Act.put, List.setIfInBounds_toArray, List.set_cons_zero, List.set_cons_succ]
      refine takeR (fuel := 4) (i := 7) (v := .pointer (some ⟨blk, off + k * 9, none⟩)) rfl (by kernel_rfl) (by kernel_rfl) (by kernel_rfl) (fun _ _ _ h => h) (Or.inl ⟨rfl, fun W hW => by go_simp⟩) hS0 ?_
      simp only [Act.put, List.setIfInBounds_toArray, List.set_cons_zero, List.set_cons_succ]
      refine takeR (fuel := 3) (i := 8) (v := .agg #[.string l, .int .i64 q, .string ai, .int .i64 a1, .int .i64 a2, .int .i64 a3, .string ac, .int .i64 p, .int .i64 c]) rfl (by kernel_rfl) (by kernel_rfl) (by kernel_rfl) (fun _ _ _ h => h) (Or.inl ⟨rfl, fun W hW => exl _ _ _ _ rfl (.pointer (some ⟨blk, off + k * 9, none⟩)) _ rfl (load50 W blk (off + k * 9) _ _ _ _ _ _ _ _ _ ((hW.cell (p := ⟨blk, _, none⟩) hbl).trans c0) ((hW.cell (p := ⟨blk, _, none⟩) hbl).trans c1) ((hW.cell (p := ⟨blk, _, none⟩) hbl).trans c2) ((hW.cell (p := ⟨blk, _, none⟩) hbl).trans c3) ((hW.cell (p := ⟨blk, _, none⟩) hbl).trans c4) ((hW.cell (p := ⟨blk, _, none⟩) hbl).trans c5) ((hW.cell (p := ⟨blk, _, none⟩) hbl).trans c6) ((hW.cell (p := ⟨blk, _, none⟩) hbl).trans c7) ((hW.cell (p := ⟨blk, _, none⟩) hbl).trans c8))⟩) hS0 ?_
      simp only [Act.put, List.setIfInBounds_toArray, List.set_cons_zero, List.set_cons_succ]
      refine consR (fuel := 2) (i := 4) rfl (by kernel_rfl) (fun K hK => ?_)
      rw [if_pos (by rfl)]
      go_simp
      refine (HV1.out _).mono ?_
      rintro e v1 ⟨rfl, hC⟩
      refine hK.out _ _ (hS0.trans (hC.mono hS0.size)) (fun hS1 => ?_)
      clear hK hC
      try simp only [Act.put, List.setIfInBounds_toArray, List.set_cons_zero, List.set_cons_succ]
      refine consR (fuel := 1) (i := 9) rfl (by kernel_rfl) (fun K hK => ?_)
      rw [if_pos (by rfl)]
      go_simp
      refine (HV2.out _).mono ?_
      rintro e v2 ⟨rfl, hC⟩
      refine hK.out _ _ (hS1.trans (hC.mono hS1.size)) (fun hS2 => ?_)
      clear hK hC
      try simp only [Act.put, List.setIfInBounds_toArray, List.set_cons_zero, List.set_cons_succ]
      refine takeR (fuel := 0) (i := 10) (v := .bool false) rfl (by kernel_rfl) (by kernel_rfl) (by kernel_rfl) (fun _ _ _ h => h) (Or.inl ⟨rfl, fun W hW => by go_simp⟩) hS2 ?_
      simp only [Act.put, List.setIfInBounds_toArray, List.set_cons_zero, List.set_cons_succ]
      refine wpAnyH_done (by kernel_rfl) ?_ _
      go_wp2_with fail
      go_roundw
      case rel => exact ⟨k + 1, by omega, by simp, hS2⟩
      case measure => simp [intOf]; omega
    · have hkz : ¬ (k : Int) < (xs.length : Int) := by omega
      have KW : Hid (Below w.heap.size w wr) := K1.out.trans (HB.out.mono K1.out.size)
      have HT1 : Hid (∀ W, Below w1.heap.size w1 W → Calls Try.prog 22 #[.slice a2 xs.length cap2] W fun e w' => e = .returned (.tuple #[.int .i64 (itot 0 xs).1, .int .i64 (itot 0 xs).2]) ∧ Hid (Below w1.heap.size w1 w')) := fun W hW => (xitotal xs (by omega) HC.out a2 cap2 W (Rw.below KO.out hW)).mono fun e w' hh => ⟨hh.1, hW.trans (hh.2.mono hW.size)⟩
      have HT2 : Hid (∀ W, Below w1.heap.size w1 W → Calls Try.prog 23 #[.slice a xs.length cap] W fun e w' => e = .returned (.tuple #[.int .i64 (itot 0 xs).1, .int .i64 (itot 0 xs).2]) ∧ Hid (Below w1.heap.size w1 w')) := fun W hW => (ritotal xs (by omega) HC.out a cap W (Rw.below KR.out hW)).mono fun e w' hh => ⟨hh.1, hW.trans (hh.2.mono hW.size)⟩
      have HT3 : Hid (∀ W, Below w1.heap.size w1 W → Calls Try.prog 24 #[.slice a2 xs.length cap2, .int .i64 n] W fun e w' => e = .returned (.tuple #[.int .i64 (imar xs n).1, .int .i64 (imar xs n).2]) ∧ Hid (Below w1.heap.size w1 w')) := fun W hW => (ximar xs (by omega) HC.out n HN.out a2 cap2 W (Rw.below KO.out hW)).mono fun e w' hh => ⟨hh.1, hW.trans (hh.2.mono hW.size)⟩
      have hr := itot_rng (xs := xs) (s := 0) (by constructor <;> omega)
      have HT4 : Hid (∀ w, Calls Try.prog 25 #[.int .i64 (itot 0 xs).1, .int .i64 n] w fun e w' => e = .returned (.tuple #[.int .i64 (N1.fitS ((itot 0 xs).1 - n)), .int .i64 (N1.fitE ((itot 0 xs).1 - n))]) ∧ w = w') := fun w => rminus _ n hr.1 HN.out w
      have hm : imar xs n = if (itot 0 xs).2 = 0 then (N1.fitS ((itot 0 xs).1 - n), N1.fitE ((itot 0 xs).1 - n)) else (0, (itot 0 xs).2) := rfl
      clear hr hlz HC HN KR KO
      generalize hN : xs.length = N at *
      clear hN
      by_cases hz : (itot 0 xs).2 = 0
      · rw [if_pos hz] at hm
        have hz2 : ((itot 0 xs).2 != 0) = false := by simp [hz]
        rw [hm] at HT3
        simp only at HT3
        clear hm hz
        generalize (itot 0 xs).2 = E at *
        generalize (itot 0 xs).1 = S at *
        generalize N1.fitS (S - n) = R1 at *
        generalize N1.fitE (S - n) = R2 at *
        go_wp2_with (first | (go_at_call 22; refine (HT1.out _ HB.out).mono ?_; clear HT1; rintro e w3 ⟨rfl, HB3⟩) | (go_at_call 23; refine (HT2.out _ HB3.out).mono ?_; clear HT2; rintro e w4 ⟨rfl, HB4⟩) | (go_at_call 24; refine (HT3.out _ HB4.out).mono ?_; clear HT3; rintro e w5 ⟨rfl, HB5⟩) | (go_at_call 25; refine (HT4.out _).mono ?_; clear HT4; rintro e w6 ⟨rfl, rfl⟩) | (go_at_call 10; refine (HA.out _).mono ?_; rintro e w7 ⟨rfl, HB7⟩; have K7 : Hid (Below w.heap.size w w7) := (K1.out.trans (HB5.out.mono K1.out.size)).trans (HB7.mono (K1.out.trans (HB5.out.mono K1.out.size)).size); clear HB7))
        go_ret
        exact ⟨rfl, K7.out⟩
      · rw [if_neg hz] at hm
        have hz2 : ((itot 0 xs).2 != 0) = true := by simp [hz]
        rw [hm] at HT3
        simp only at HT3
        clear hm hz
        generalize (itot 0 xs).2 = E at *
        generalize (itot 0 xs).1 = S at *
        generalize N1.fitS (S - n) = R1 at *
        generalize N1.fitE (S - n) = R2 at *
        go_wp2_with (first | (go_at_call 22; refine (HT1.out _ HB.out).mono ?_; clear HT1; rintro e w3 ⟨rfl, HB3⟩) | (go_at_call 23; refine (HT2.out _ HB3.out).mono ?_; clear HT2; rintro e w4 ⟨rfl, HB4⟩) | (go_at_call 24; refine (HT3.out _ HB4.out).mono ?_; clear HT3; rintro e w5 ⟨rfl, HB5⟩) | (go_at_call 25; refine (HT4.out _).mono ?_; clear HT4; rintro e w6 ⟨rfl, rfl⟩) | (go_at_call 10; refine (HA.out _).mono ?_; rintro e w7 ⟨rfl, HB7⟩; have K7 : Hid (Below w.heap.size w w7) := (K1.out.trans (HB5.out.mono K1.out.size)).trans (HB7.mono (K1.out.trans (HB5.out.mono K1.out.size)).size); clear HB7))
        go_ret
        exact ⟨rfl, K7.out⟩
end Go.Proofs.Ytpdlbbglbbmjmaa
