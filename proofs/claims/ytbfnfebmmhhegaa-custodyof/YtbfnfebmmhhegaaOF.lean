/- layer 12: law Of -/
import Derived.Test.YtbfnfebmmhhegaaOE
import Derived.Test.YtbfnfebmmhhegaaOD
import Derived.Test.YtbfnfebmmhhegaaCS
import Derived.WalkKit
import Derived.ProofKit
import Derived.Handy
import Derived.WalkLawsBesides
import Derived.WalkSpells
import Derived.BigQuiet
import Derived.BigCall
import Derived.Deep.QuietTactic
import Derived.Deep.Light
import Derived.Deep.OwnRows
import Derived.Laws.AppendOwnNone
import Derived.Laws.Strings3
import Derived.Laws.RangeAny
import Derived.Deep.RegionWith
import Derived.Lib.BitFns
import Derived.Lib.Walk
import Derived.Lib.Strings
import Derived.Lib.OthersKept
import Derived.Deep.CutBlock
import Derived.Deep.DeepCutAuto
import Derived.Deep.LoopGhost
import Derived.Deep.RegionHeld3
import Derived.Lib.SmallJoins
import Derived.Maps.AppendAt
import Derived.Laws.IdiomStrings
import Derived.Lib.AppendZeros
import Derived.Deep.WholeRow
import Derived.Laws.BitsAllLaws
import Derived.Lib.ConvBytes
import Derived.Deep.RegionLaw
import Derived.Maps.OwnSet
import Derived.Maps.OwnOps
import Derived.Maps.RangeWalk
import Derived.Maps.Ext
import Derived.DeepKeys4
import Derived.Laws.StructEq
import Derived.Shelf.SlSortCmp.NoneTotal
import Derived.Deep.MidRow
import Derived.Laws.MakeOwn
import Derived.Sort.OwnSorted
import Derived.Lib.SlicesCompact
import Derived.Lib.RowBridge
namespace Go.Proofs.Ytbfnfebmmhhegaa
open Go.RowKit
set_option linter.unusedVariables false
set_option linter.unusedSimpArgs false
set_option maxRecDepth 20000
def RcP (L : List Num.Bal) (w : World) (x : Ending) (w' : World) : Prop := ∃ e : Int, CoR L e ∧ Below w.heap.size w w' ∧ x = .returned (.int .i64 e)
set_option maxHeartbeats 8000000 in
theorem rcof (L : List Num.Bal) (hl : L.length ≤ 100) (a : Option Addr) (cap : Nat) (w : World) (h : Bs w a L) : Calls Try.prog 32 #[.slice a L.length cap] w (RcP L w) := by
  have HBs : Hid (Bs w a L) := h
  have hl' : (L.length : Int) ≤ 100 := by omega
  have HRO : Hid (∀ W, Below w.heap.size w W → Calls Try.prog 56 #[.slice a L.length cap] W (RoP L W)) := fun W hW => rofl L hl a cap W (h.below hW)
  clear h
  go_enter Try.func32, Try.ntmps32
  go_wp2_with fail
  go_loopw [3] (fun i wr => ∃ k : Nat, k ≤ L.length ∧ i = .int .i64 k ∧ Hid (Below w.heap.size w wr ∧ (∀ j (h : j < L.length), j < k → stB L[j] = false)))
    (fun i _ => L.length - (intOf i).toNat)
  case atStart => exact ⟨0, Nat.zero_le _, rfl, Below.refl _ _, fun j _ h => absurd h (Nat.not_lt_zero j)⟩
  case round =>
    obtain ⟨k, hk, rfl, HR⟩ := hrel
    by_cases hkn : k < L.length
    · have hkz : (k : Int) < (L.length : Int) := by omega
      obtain ⟨blk, off, rfl, hbl, hcs⟩ := HBs.out (by omega)
      have hc4 := hcs k hkn
      have HY : Hid (stB L[k] = true → ∀ W, Below w.heap.size w W → RcP L w (.returned (.int .i64 22)) W) := fun hs W hW => ⟨22, by unfold CoR; rw [if_pos (by rw [fidx_some hkn (fun j hj => HR.out.2 j (by omega) hj) hs]; rfl)], hW, rfl⟩
      have HN : Hid (stB L[k] = false → ∀ j (h : j < L.length), j < k + 1 → stB L[j] = false) := fun hs j hj hk1 => by
        rcases Nat.lt_or_ge j k with h1 | h1
        · exact HR.out.2 j hj h1
        · obtain rfl : j = k := by omega
          exact hs
      have HB : Hid (Below w.heap.size w wr) := HR.out.1
      generalize L[k] = x at *
      obtain ⟨⟨o, b, t⟩, q⟩ := x
      obtain ⟨s, hs⟩ : ∃ s, s = S t := ⟨_, rfl⟩
      have hxs : bcs ((o, b, t), q) = [.int .i64 o, .int .i64 b, .string s, .int .i64 q] := by rw [hs]; rfl
      rw [hxs] at hc4
      have hcc (i : Nat) (h : i < 4) : wr.cell? ⟨blk, off + k * 4 + i, none⟩ = _ := (HB.out.cell (p := ⟨blk, off + k * 4 + i, none⟩) hbl).trans (hc4 i h)
      have c0 : wr.cell? ⟨blk, off + k * 4, none⟩ = some (.int .i64 o) := hcc 0 (by omega)
      have c1 : wr.cell? ⟨blk, off + k * 4 + 1, none⟩ = some (.int .i64 b) := hcc 1 (by omega)
      have c2 : wr.cell? ⟨blk, off + k * 4 + 2, none⟩ = some (.string s) := hcc 2 (by omega)
      have HBa : Hid (∀ x, Below w.heap.size w (wr.alloc x)) := fun x => HB.out.alloc HB.out.size x
      have HSt : Hid (stB ((o, b, t), q) = (wrm o b && (decide (o ≠ 0) || decide (b ≠ 0)))) := rfl
      have HW : Hid (∀ W, Calls Try.prog 44 #[.int .i64 o, .int .i64 b] W fun e w' => e = .returned (.bool (wrm o b)) ∧ W = w') := rwrm o b
      clear hc4 hcs hcc hs hxs HR
      by_cases ho : o = 0
      · have ho' : (o == 0) = true := by simp [ho]
        have ho2 : (o != 0) = false := by simp [ho]
        have hwz : wrm o b = true := wrm_yes (.inl (by omega))
        by_cases hb : b = 0
        · have hb' : (b != 0) = false := by simp [hb]
          have HN2 : Hid (∀ j (h : j < L.length), j < k + 1 → stB L[j] = false) := HN.out (by rw [HSt.out]; simp [ho, hb])
          clear HY HN HSt ho hb hwz
          go_wp2_with fail
          go_roundw
          case rel => exact ⟨k + 1, by omega, by simp, HBa.out _, HN2.out⟩
          case measure => simp [intOf]; omega
        · have hb' : (b != 0) = true := by simp [hb]
          have HY2 : Hid (∀ W, Below w.heap.size w W → RcP L w (.returned (.int .i64 22)) W) := HY.out (by rw [HSt.out, hwz]; simp [hb])
          clear HY HN HSt ho hb hwz
          go_wp2_with fail
          go_ret
          exact HY2.out _ (HBa.out _)
      · have ho' : (o == 0) = false := by simp [ho]
        have ho2 : (o != 0) = true := by simp [ho]
        generalize wrm o b = WB at *
        cases WB
        · have HN2 : Hid (∀ j (h : j < L.length), j < k + 1 → stB L[j] = false) := HN.out (by rw [HSt.out]; rfl)
          clear HY HN HSt ho
          go_wp2_with (go_at_call 44; refine (HW.out _).mono ?_; rintro e w2 ⟨rfl, rfl⟩)
          go_roundw
          case rel => exact ⟨k + 1, by omega, by simp, HBa.out _, HN2.out⟩
          case measure => simp [intOf]; omega
        · have HY2 : Hid (∀ W, Below w.heap.size w W → RcP L w (.returned (.int .i64 22)) W) := HY.out (by rw [HSt.out]; simp [ho])
          clear HY HN HSt ho
          go_wp2_with (go_at_call 44; refine (HW.out _).mono ?_; rintro e w2 ⟨rfl, rfl⟩)
          go_ret
          exact HY2.out _ (HBa.out _)
    · have hkz : ¬ (k : Int) < (L.length : Int) := by omega
      have HR2 : Hid (Calls Try.prog 56 #[.slice a L.length cap] wr fun x w6 => ∃ e : Int, x = .returned (.int .i64 e) ∧ Hid (RcP L w (.returned (.int .i64 e)) w6)) := (HRO.out wr HR.out.1).mono fun x w6 hh => by
        obtain ⟨e, h1, h2, h3⟩ := hh
        exact ⟨e, h3, e, by unfold CoR; rw [if_neg (by rw [fidx_none (fun j hj => HR.out.2 j hj (by omega))]; decide)]; exact h1, HR.out.1.trans (h2.mono HR.out.1.size), rfl⟩
      clear HR HRO
      go_wp2_with (go_at_call 56; refine HR2.out.mono ?_; rintro e w6 ⟨e6, rfl, HF⟩)
      go_ret
      exact HF.out
theorem co_ex (L : List Num.Bal) : ∃ e, CoR L e := by
  unfold CoR
  split
  · exact ⟨22, rfl⟩
  · exact of_ex L
theorem co_good {L : List Num.Bal} (h : CoR L 0) : Num.Good L := by
  unfold CoR at h
  split at h
  · cases h
  · rcases h with ⟨i, _, _, _, h5⟩ | ⟨h1, _⟩
    · exact absurd rfl h5
    · exact Num.pre_good_all h1
set_option maxHeartbeats 16000000 in
theorem lcof (L : List Num.Bal) (a : Option Addr) (cap : Nat) (w : World) (h : Bs w a L) (hsz : ∀ p ∈ L, p.1.2.2.length ≤ 140737488355328) : Calls Try.prog 7 #[.slice a L.length cap] w (OkP w) := by
  by_cases hl : 100 < L.length
  · have hl' : (100 : Int) < (L.length : Int) := by omega
    clear h
    go_enter Try.func7, Try.ntmps7
    go_wp2_with (go_at_call 14; refine (xcawake w).mono ?_; rintro e wc ⟨rfl, hbc⟩)
    go_ret
    exact ⟨rfl, hbc⟩
  have hl' : ¬ (100 : Int) < (L.length : Int) := by omega
  have hlz : (L.length : Int) ≤ 100 := by omega
  have HBs : Hid (Bs w a L) := h
  have HSZ : Hid (∀ p ∈ L, p.1.2.2.length ≤ 281474976710656) := fun p hp => by have := hsz p hp; omega
  clear h hsz
  go_enter Try.func7, Try.ntmps7
  go_wp2_with fail
  go_loopw [3, 4] (fun v i wr => ∃ k : Nat, k ≤ L.length ∧ i = .int .i64 k ∧ Hid (wr.ownsRow w.heap.size 71 4 v k (bcells (L.take k)) ∧ Below w.heap.size w wr))
    (fun _ i _ => L.length - (intOf i).toNat)
  case atStart => exact ⟨0, Nat.zero_le _, rfl, World.ownsRow_nil _ _ _ _, Below.refl _ _⟩
  case round =>
    obtain ⟨k, hk, rfl, HR⟩ := hrel
    by_cases hkn : k < L.length
    · have hkz : (k : Int) < (L.length : Int) := by omega
      obtain ⟨blk, off, rfl, hbl, hcs⟩ := HBs.out (by omega)
      have hc4 := hcs k hkn
      have HT : Hid (bcells (L.take k) ++ bcs L[k] = bcells (L.take (k + 1))) := by
        unfold Hid
        rw [← List.take_append_getElem hkn]
        unfold bcells
        rw [flat_snoc]
      generalize L[k] = x at *
      obtain ⟨⟨o, b, t⟩, n⟩ := x
      obtain ⟨s, hs⟩ : ∃ s, s = S t := ⟨_, rfl⟩
      have hxs : bcs ((o, b, t), n) = [.int .i64 o, .int .i64 b, .string s, .int .i64 n] := by rw [hs]; rfl
      rw [hxs] at hc4 HT
      clear hs hxs
      have c3 : w.cell? ⟨blk, off + k * 4 + 3, none⟩ = some (.int .i64 n) := hc4 3 (by omega)
      have r0 : wr.cell? ⟨blk, off + k * 4, none⟩ = some (.int .i64 o) := (HR.out.2.cell (p := ⟨blk, off + k * 4 + 0, none⟩) hbl).trans (hc4 0 (by omega))
      have r1 : wr.cell? ⟨blk, off + k * 4 + 1, none⟩ = some (.int .i64 b) := (HR.out.2.cell (p := ⟨blk, off + k * 4 + 1, none⟩) hbl).trans (hc4 1 (by omega))
      have r2 : wr.cell? ⟨blk, off + k * 4 + 2, none⟩ = some (.string s) := (HR.out.2.cell (p := ⟨blk, off + k * 4 + 2, none⟩) hbl).trans (hc4 2 (by omega))
      clear hc4 hcs
      go_upto_region 8 with fail
      refine wp_region_held (S := fun W => Below w.heap.size w W ∧ Bx W wr.heap.size #[.int .i64 o, .int .i64 b, .string s] 40) (by kernel_rfl) ?_
      change wpAnyH _ _ _ _ _ 17 #[false, false, false, false, false, false, false, false, false, false, false, false, false, false, false, false, false] _ (wr.alloc (.cells #[.int .i64 o, .int .i64 b, .string s] 40)).drew
      have hT0 : Below wr.heap.size wr (wr.alloc (.cells #[.int .i64 o, .int .i64 b, .string s] 40)).drew := ((Below.refl _ wr).alloc (Nat.le_refl _) _).trans ⟨rfl, rfl, rfl, Nat.le_refl _, fun _ _ => rfl⟩
      have hS0 : Below w.heap.size w (wr.alloc (.cells #[.int .i64 o, .int .i64 b, .string s] 40)).drew ∧ Bx (wr.alloc (.cells #[.int .i64 o, .int .i64 b, .string s] 40)).drew wr.heap.size #[.int .i64 o, .int .i64 b, .string s] 40 := ⟨HR.out.2.trans (hT0.mono HR.out.2.size), Bx.new wr _ _⟩
      obtain ⟨v0, hv0⟩ : ∃ v, v = (wr.alloc (.cells #[.int .i64 o, .int .i64 b, .string s] 40)).drew := ⟨_, rfl⟩
      rw [← hv0] at hS0 hT0 ⊢
      clear hv0
      refine takeR (fuel := 16) (i := 0) (v := u3) rfl (by kernel_rfl) (by kernel_rfl) (by kernel_rfl) (fun _ _ _ h => h) (Or.inl ⟨rfl, fun W hW => by go_simp⟩) hS0 ?_
      simp only [Act.put, List.setIfInBounds_toArray, List.set_cons_zero, List.set_cons_succ]
      refine takeR (fuel := 15) (i := 1) (v := .pointer (some ⟨wr.heap.size, 0, none⟩)) rfl (by kernel_rfl) (by kernel_rfl) (by kernel_rfl) (fun _ _ _ h => h) (Or.inl ⟨rfl, fun W hW => by go_simp⟩) hS0 ?_
      simp only [Act.put, List.setIfInBounds_toArray, List.set_cons_zero, List.set_cons_succ]
      refine takeR (fuel := 14) (i := 2) (v := .int .i64 o) rfl (by kernel_rfl) (by kernel_rfl) (by kernel_rfl) (fun _ _ _ h => h) (Or.inl ⟨rfl, fun W hW => by have cj : W.cell? ⟨wr.heap.size, 0, none⟩ = _ := hW.2.cell 0; go_simp⟩) hS0 ?_
      simp only [Act.put, List.setIfInBounds_toArray, List.set_cons_zero, List.set_cons_succ]
      refine takeR (fuel := 13) (i := 3) (v := .pointer (some ⟨wr.heap.size, 1, none⟩)) rfl (by kernel_rfl) (by kernel_rfl) (by kernel_rfl) (fun _ _ _ h => h) (Or.inl ⟨rfl, fun W hW => by go_simp⟩) hS0 ?_
      simp only [Act.put, List.setIfInBounds_toArray, List.set_cons_zero, List.set_cons_succ]
      refine takeR (fuel := 12) (i := 4) (v := .int .i64 b) rfl (by kernel_rfl) (by kernel_rfl) (by kernel_rfl) (fun _ _ _ h => h) (Or.inl ⟨rfl, fun W hW => by have cj : W.cell? ⟨wr.heap.size, 1, none⟩ = _ := hW.2.cell 1; go_simp⟩) hS0 ?_
      simp only [Act.put, List.setIfInBounds_toArray, List.set_cons_zero, List.set_cons_succ]
      refine takeR (fuel := 11) (i := 5) (v := .pointer (some ⟨wr.heap.size, 2, none⟩)) rfl (by kernel_rfl) (by kernel_rfl) (by kernel_rfl) (fun _ _ _ h => h) (Or.inl ⟨rfl, fun W hW => by go_simp⟩) hS0 ?_
      simp only [Act.put, List.setIfInBounds_toArray, List.set_cons_zero, List.set_cons_succ]
      refine takeR (fuel := 10) (i := 6) (v := .string s) rfl (by kernel_rfl) (by kernel_rfl) (by kernel_rfl) (fun _ _ _ h => h) (Or.inl ⟨rfl, fun W hW => by have cj : W.cell? ⟨wr.heap.size, 2, none⟩ = _ := hW.2.cell 2; go_simp⟩) hS0 ?_
      simp only [Act.put, List.setIfInBounds_toArray, List.set_cons_zero, List.set_cons_succ]
      refine takeR (fuel := 9) (i := 7) (v := .agg #[.int .i64 o, .int .i64 b, .string s]) rfl (by kernel_rfl) (by kernel_rfl) (by kernel_rfl) (fun _ _ _ h => h) (Or.inl ⟨rfl, fun W hW => by go_simp⟩) hS0 ?_
      simp only [Act.put, List.setIfInBounds_toArray, List.set_cons_zero, List.set_cons_succ]
      refine takeR (fuel := 8) (i := 8) (v := .slice (some ⟨blk, off, none⟩) L.length cap) rfl (by kernel_rfl) (by kernel_rfl) (by kernel_rfl) (fun _ _ _ h => h) (Or.inl ⟨rfl, fun W hW => by go_simp⟩) hS0 ?_
      simp only [Act.put, List.setIfInBounds_toArray, List.set_cons_zero, List.set_cons_succ]
      refine takeR (fuel := 7) (i := 9) (v := .int .i64 k) rfl (by kernel_rfl) (by kernel_rfl) (by kernel_rfl) (fun _ _ _ h => h) (Or.inl ⟨rfl, fun W hW => by go_simp⟩) hS0 ?_
      simp only [Act.put, List.setIfInBounds_toArray, List.set_cons_zero, List.set_cons_succ]
      refine takeR (fuel := 6) (i := 10) (v := .pointer (some ⟨blk, off + k * 4, none⟩)) rfl (by kernel_rfl) (by kernel_rfl) (by kernel_rfl) (fun _ _ _ h => h) (Or.inl ⟨rfl, fun W hW => by go_simp⟩) hS0 ?_
      simp only [Act.put, List.setIfInBounds_toArray, List.set_cons_zero, List.set_cons_succ]
      refine takeR (fuel := 5) (i := 11) (v := .pointer (some ⟨blk, off + k * 4 + 3, none⟩)) rfl (by kernel_rfl) (by kernel_rfl) (by kernel_rfl) (fun _ _ _ h => h) (Or.inl ⟨rfl, fun W hW => by go_simp⟩) hS0 ?_
      simp only [Act.put, List.setIfInBounds_toArray, List.set_cons_zero, List.set_cons_succ]
      refine takeR (fuel := 4) (i := 12) (v := .int .i64 n) rfl (by kernel_rfl) (by kernel_rfl) (by kernel_rfl) (fun _ _ _ h => h) (Or.inl ⟨rfl, fun W hW => by have cj : W.cell? ⟨blk, off + k * 4 + 3, none⟩ = some (.int .i64 n) := (hW.1.cell (p := ⟨blk, _, none⟩) hbl).trans c3; go_simp⟩) hS0 ?_
      simp only [Act.put, List.setIfInBounds_toArray, List.set_cons_zero, List.set_cons_succ]
      refine takeR (fuel := 3) (i := 13) (v := .agg #[.int .i64 o, .int .i64 b, .string s, .int .i64 n]) rfl (by kernel_rfl) (by kernel_rfl) (by kernel_rfl) (fun _ _ _ h => h) (Or.inl ⟨rfl, fun W hW => by go_simp⟩) hS0 ?_
      simp only [Act.put, List.setIfInBounds_toArray, List.set_cons_zero, List.set_cons_succ]
      have hO2 : v0.ownsRow w.heap.size 71 4 u3 k (bcells (L.take k)) := own_below HR.out.1 hT0
      have hsz2 : w.heap.size ≤ v0.heap.size := hS0.1.size
      obtain ⟨v', w4, hr4, ho4, hg4⟩ := app_gen (T := 71) (Sl := 66) (k := 4) (bytes := 40) Try.underlying66 info46 rfl (by omega) [.int .i64 o, .int .i64 b, .string s, .int .i64 n] rfl (by intro u hu; simp at hu; rcases hu with rfl | rfl | rfl | rfl <;> rfl) hO2 hsz2 (by omega) (by unfold maxLen; omega)
      have hB4 : Below w.heap.size w w4 := ((hS0.1.alloc hsz2 _).grown hg4 (by simp; omega) (fun j hj => (hO2.lt j hj).1))
      have HO4 : Hid (w4.ownsRow w.heap.size 71 4 v' (k + 1) (bcells (L.take (k + 1))) ∧ Below w.heap.size w w4) := ⟨by rw [← HT.out]; exact ho4, hB4⟩
      have hne : some wr.heap.size ≠ u3.ownBlock := fun e => by have := (HR.out.1.lt _ e.symm).2; omega
      have hX4 : Bx w4 wr.heap.size #[.int .i64 o, .int .i64 b, .string s] 40 := (hS0.2.kept (grown_alloc _ _ none) (by simp)).kept hg4 hne
      refine consR (fuel := 2) (i := 14) rfl (by kernel_rfl) (fun K hK => ?_)
      rw [if_pos (by rfl)]
      go_simp
      refine hK.out _ _ ⟨hS0.1.alloc hS0.1.size _, hS0.2.kept (grown_alloc _ _ none) (by simp)⟩ (fun hS3 => ?_)
      clear hK
      try simp only [Act.put, List.setIfInBounds_toArray, List.set_cons_zero, List.set_cons_succ]
      refine consR (fuel := 1) (i := 15) rfl (by kernel_rfl) (fun K hK => ?_)
      rw [if_pos (by rfl)]
      refine Lib.wp_append_run _ _ _ 66 66 rfl _ _ rfl rfl _ w4 hr4 ?_
      refine hK.out _ _ ⟨hB4, hX4⟩ (fun hS4 => ?_)
      clear hK
      try simp only [Act.put, List.setIfInBounds_toArray, List.set_cons_zero, List.set_cons_succ]
      refine takeR (fuel := 0) (i := 16) (v := v') rfl (by kernel_rfl) (by kernel_rfl) (by kernel_rfl) (fun _ _ _ h => h) (Or.inl ⟨rfl, fun W hW => by go_simp⟩) hS4 ?_
      simp only [Act.put, List.setIfInBounds_toArray, List.set_cons_zero, List.set_cons_succ]
      refine wpAnyH_done (by kernel_rfl) ?_ _
      go_wp2_with fail
      go_roundw
      case rel => exact ⟨k + 1, by omega, by simp, HO4⟩
      case measure => simp [intOf]; omega
    · have hkz : ¬ (k : Int) < (L.length : Int) := by omega
      have hr := HR.out
      rw [show k = L.length by omega, List.take_length] at hr
      obtain ⟨ho, hbw⟩ := hr
      obtain ⟨a1, c1, e1, _, hBs1⟩ : ∃ a1 c1, u3 = .slice a1 L.length c1 ∧ L.length ≤ c1 ∧ Bs wr a1 L := own_rw (f := bcs) bcs_len ho rfl
      rw [e1]
      obtain ⟨eo, heo⟩ := co_ex L
      have HO1 : Calls Try.prog 31 #[.slice a1 L.length c1] wr (CoP L wr) := xcof L (by omega) HSZ.out a1 c1 wr hBs1
      have HO2 : Hid (∀ W, Below w.heap.size w W → Calls Try.prog 32 #[.slice a L.length cap] W fun x w6 => x = .returned (.int .i64 eo) ∧ Hid (Below W.heap.size W w6)) := fun W hW => (rcof L (by omega) a cap W (HBs.out.below hW)).mono fun x w6 hh => by
        obtain ⟨e, h1, h2, h3⟩ := hh
        obtain rfl := h1.det heo
        exact ⟨h3, h2⟩
      clear HR ho e1 hBs1
      by_cases he : eo = 0
      · subst he
        have hg := co_good heo
        have HO3 : Hid (Calls Try.prog 31 #[.slice a1 L.length c1] wr fun x w5 => ∃ c q m, x = .returned (.tuple #[.pointer (some ⟨c, 0, none⟩), .int .i64 0]) ∧ Hid (Dc w w5 c q m L [])) := HO1.mono fun x w5 hh => by
          obtain ⟨e, h1, h2, h3⟩ := hh
          obtain rfl := h1.det heo
          rcases h3 with ⟨h3, _⟩ | ⟨_, c, q, m, h4, h6, h5⟩
          · exact absurd rfl h3
          · exact ⟨c, q, m, h4, hbw.trans (h2.mono hbw.size), h5, Nat.le_trans hbw.size h6, fun y hy => (List.not_mem_nil hy).elim⟩
        have HCl : Hid (∀ W c q m, Dc w W c q m L [] → Calls Try.prog 33 #[.pointer (some ⟨c, 0, none⟩)] W fun x w7 => ∃ c' q' m', x = .returned (.pointer (some ⟨c', 0, none⟩)) ∧ Hid (Calls Try.prog 26 #[.pointer (some ⟨c, 0, none⟩), .int .i64 1, .string EB, .int .i64 5] w7 fun x w8 => ∃ v8, x = .returned v8 ∧ Hid (Dc w w8 c' q' m' L []))) := fun W c q m hD => (xcclone c q m L hg (by omega) W hD.x).mono fun x w7 hh => by
          obtain ⟨c', q', m', h1, hz⟩ := hh
          obtain ⟨z1, z2, z3, z4, z5⟩ := hz.out
          have hm := hD.x.l.m.lt
          have hb7 : Below w.heap.size w w7 := hD.b.trans (z5.mono hD.b.size)
          refine ⟨c', q', m', h1, (xbring c q m L hg (by omega) 1 EB 5 w7 (hD.x.below z5)).mono fun x w8 kk => ⟨_, kk.1, ?_⟩⟩
          have g8 := kk.2.2
          exact ⟨hb7.grown g8 hb7.size (fun r e => by cases e; exact hD.m0), ⟨z4.b.kept g8 (by simp; omega), z4.l.kept g8 (by simp; omega) (by simp; omega)⟩, Nat.le_trans hD.b.size z2, fun y hy => (List.not_mem_nil hy).elim⟩
        have HTL : Hid (∀ W c q m, Dc w W c q m L [] → Calls Try.prog 13 #[.pointer (some ⟨c, 0, none⟩)] W fun x w9 => ∃ a9 c9, x = .returned (.slice a9 L.length c9) ∧ Hid (Below w.heap.size w w9 ∧ Bs w9 a9 L)) := fun W c q m hD => (dc_told hD hg (by omega)).mono fun x w9 hh => by
          obtain ⟨a9, c9, h1, hz⟩ := hh
          exact ⟨a9, c9, h1, hz.out.b, hz.out.r (a9, L) (by simp)⟩
        have HSM : Hid (∀ W a7 c7, Below w.heap.size w W ∧ Bs W a7 L → Calls Try.prog 12 #[.slice a7 L.length c7, .slice a L.length cap] W fun x w8 => x = .returned (.bool true) ∧ Hid (Below w.heap.size w w8)) := fun W a7 c7 hB => (xsame L (by omega) a7 c7 a cap W hB.2 (HBs.out.below hB.1)).mono fun x w8 kk => ⟨kk.1, hB.1.trans (kk.2.mono hB.1.size)⟩
        have HAK : Hid (∀ W, Below w.heap.size w W → Calls Try.prog 14 #[] W fun x w9 => x = .returned (.bool true) ∧ Below w.heap.size w w9) := fun W hW => (xcawake W).mono fun x w9 kk => ⟨kk.1, hW.trans (kk.2.mono hW.size)⟩
        clear HO1 heo hg hbw
        go_wp2_with (first | (go_at_call 31; refine HO3.out.mono ?_; rintro e w5 ⟨c5, q5, m5, rfl, HL5⟩; clear HO3) | (go_at_call 32; refine (HO2.out _ HL5.out.b).mono ?_; rintro e w6 ⟨rfl, HB6⟩; clear HO2; have HL6 : Hid (Dc w w6 c5 q5 m5 L []) := HL5.out.below HB6.out) | (go_at_call 33; refine (HCl.out _ _ _ _ HL6.out).mono ?_; rintro e w7 ⟨c7, q7, m7, rfl, H26⟩; clear HCl) | (go_at_call 26; refine H26.out.mono ?_; rintro e w8 ⟨v8, rfl, HD8⟩; clear H26) | (go_at_call 13; refine (HTL.out _ _ _ _ HD8.out).mono ?_; rintro e w9 ⟨a9, c9, rfl, HB9⟩; clear HTL) | (go_at_call 12; refine (HSM.out _ _ _ HB9.out).mono ?_; rintro e w10 ⟨rfl, HB10⟩; clear HSM) | (go_at_call 14; refine (HAK.out _ HB10.out).mono ?_; rintro e w11 ⟨rfl, hb11⟩; clear HAK))
        go_ret
        exact ⟨rfl, hb11⟩
      · have he' : (eo != 0) = true := by simp [he]
        have he2 : (eo == 0) = false := by simp [he]
        have HO3 : Hid (Calls Try.prog 31 #[.slice a1 L.length c1] wr fun x w5 => x = .returned (.tuple #[.pointer none, .int .i64 eo]) ∧ Hid (Below w.heap.size w w5)) := HO1.mono fun x w5 hh => by
          obtain ⟨e, h1, h2, h3⟩ := hh
          obtain rfl := h1.det heo
          rcases h3 with ⟨_, h3⟩ | ⟨h3, _⟩
          · exact ⟨h3, hbw.trans (h2.mono hbw.size)⟩
          · exact absurd h3 he
        have HAK : Hid (∀ W, Below w.heap.size w W → Calls Try.prog 14 #[] W fun x w9 => x = .returned (.bool true) ∧ Below w.heap.size w w9) := fun W hW => (xcawake W).mono fun x w9 kk => ⟨kk.1, hW.trans (kk.2.mono hW.size)⟩
        clear HO1 he heo hbw
        go_wp2_with (first | (go_at_call 31; refine HO3.out.mono ?_; rintro e w5 ⟨rfl, HL5⟩; clear HO3) | (go_at_call 32; refine (HO2.out _ HL5.out).mono ?_; rintro e w6 ⟨rfl, HB6⟩; clear HO2; have HL6 : Hid (Below w.heap.size w w6) := HL5.out.trans (HB6.out.mono HL5.out.size)) | (go_at_call 14; refine (HAK.out _ HL6.out).mono ?_; rintro e w9 ⟨rfl, hb9⟩; clear HAK))
        go_ret
        exact ⟨rfl, hb9⟩
end Go.Proofs.Ytbfnfebmmhhegaa
