/- layer 12: all books, told; what a member has -/
import Derived.Test.YtbfnfebmmhhegaaCL
import Derived.WalkKit
import Derived.ProofKit
import Derived.Handy
import Derived.WalkLawsBesides
import Derived.WalkSpells
import Derived.BigQuiet
import Derived.BigCall
import Derived.Deep.QuietTactic
import Derived.Deep.Light
import Derived.Deep.OwnRows
import Derived.Laws.AppendOwnNone
import Derived.Laws.Strings3
import Derived.Laws.RangeAny
import Derived.Deep.RegionWith
import Derived.Lib.BitFns
import Derived.Lib.Walk
import Derived.Lib.Strings
import Derived.Lib.OthersKept
import Derived.Deep.CutBlock
import Derived.Deep.DeepCutAuto
import Derived.Deep.LoopGhost
import Derived.Deep.RegionHeld3
import Derived.Lib.SmallJoins
import Derived.Maps.AppendAt
import Derived.Laws.IdiomStrings
import Derived.Lib.AppendZeros
import Derived.Deep.WholeRow
import Derived.Laws.BitsAllLaws
import Derived.Lib.ConvBytes
import Derived.Deep.RegionLaw
import Derived.Maps.OwnSet
import Derived.Maps.OwnOps
import Derived.Maps.RangeWalk
import Derived.Maps.Ext
import Derived.DeepKeys4
import Derived.Laws.StructEq
import Derived.Shelf.SlSortCmp.NoneTotal
import Derived.Deep.MidRow
import Derived.Laws.MakeOwn
namespace Go.Proofs.Ytbfnfebmmhhegaa
open Go.RowKit
set_option linter.unusedVariables false
set_option linter.unusedSimpArgs false
set_option maxRecDepth 20000
theorem xcall (c q m : Nat) (L : List Num.Bal) (hl : L.length ≤ 1000000) (hb : ∀ p ∈ L, p.1.2.2.length ≤ 281474976710656) (w : World) (h : Cu w c q m L) : Calls Try.prog 34 #[.pointer (some ⟨c, 0, none⟩)] w (AllP L w) := by
  have HK : Hid (Calls Try.prog 41 #[.pointer (some ⟨c, 0, none⟩)] w fun e w' => e = .returned (.pointer (some ⟨q, 0, none⟩)) ∧ w = w') := xkept c q m L w h
  have HA : Hid (Calls Try.prog 58 #[.pointer (some ⟨q, 0, none⟩)] w fun e w' => ∃ v, e = .returned v ∧ Hid (AllP L w (.returned v) w')) := (xall q m L hl hb w h.l).mono fun e w' hh => by
    obtain ⟨a, cap, rfl, h2⟩ := hh
    exact ⟨_, rfl, a, cap, rfl, h2⟩
  clear h hb hl
  go_enter Try.func34, Try.ntmps34
  go_wp2_with (first | (go_at_call 41; refine HK.out.mono ?_; rintro e w1 ⟨rfl, rfl⟩; clear HK) | (go_at_call 58; refine HA.out.mono ?_; rintro e w1 ⟨v1, rfl, HZ⟩; clear HA))
  go_ret
  exact HZ.out
theorem good_len {L : List Num.Bal} (g : Num.Good L) : ∀ p ∈ L, p.1.2.2.length ≤ 281474976710656 := fun p hp => by have := (Num.wr_ok.1 (g.wr p hp)).2.2.2.2.2; omega
set_option maxHeartbeats 8000000 in
theorem xtold (c q m : Nat) (L : List Num.Bal) (hl : L.length ≤ 1000000) (hb : ∀ p ∈ L, p.1.2.2.length ≤ 281474976710656) (w : World) (h : Cu w c q m L) : Calls Try.prog 13 #[.pointer (some ⟨c, 0, none⟩)] w (TolP L w) := by
  have HC : Hid (Calls Try.prog 34 #[.pointer (some ⟨c, 0, none⟩)] w (AllP L w)) := xcall c q m L hl hb w h
  have HL : Hid (L.length ≤ 1000000) := hl
  clear h hl hb
  go_enter Try.func13, Try.ntmps13
  go_wp2_with (go_at_call 34; refine HC.out.mono ?_; rintro e w1 ⟨a, cap, rfl, hcap, HBs⟩)
  clear HC
  go_loopw [4, 5] (fun v i wr => ∃ k : Nat, k ≤ L.length ∧ i = .int .i64 k ∧ Hid (wr.ownsRow w1.heap.size 68 4 v k (bcells (L.take k)) ∧ Below w1.heap.size w1 wr))
    (fun _ i _ => L.length - (intOf i).toNat)
  case atStart => exact ⟨0, Nat.zero_le _, rfl, World.ownsRow_nil _ _ _ _, Below.refl _ _⟩
  case round =>
    obtain ⟨k, hk, rfl, HR⟩ := hrel
    by_cases hkn : k < L.length
    · have hkz : (k : Int) < (L.length : Int) := by omega
      obtain ⟨blk, off, rfl, hbl, hcs⟩ := HBs.out.1 (by omega)
      have hc4 := hcs k hkn
      have HT : Hid (bcells (L.take k) ++ bcs L[k] = bcells (L.take (k + 1))) := by
        unfold Hid
        rw [← List.take_append_getElem hkn]
        unfold bcells
        rw [flat_snoc]
      have hkb : (k + 1) * 40 ≤ 140737488355328 := by have := HL.out; omega
      generalize L[k] = x at *
      obtain ⟨⟨o, b, t⟩, n⟩ := x
      obtain ⟨s, hs⟩ : ∃ s, s = S t := ⟨_, rfl⟩
      have hxs : bcs ((o, b, t), n) = [.int .i64 o, .int .i64 b, .string s, .int .i64 n] := by rw [hs]; rfl
      rw [hxs] at hc4 HT
      clear hs hxs
      have c0 : w1.cell? ⟨blk, off + k * 4, none⟩ = some (.int .i64 o) := hc4 0 (by omega)
      have c1 : w1.cell? ⟨blk, off + k * 4 + 1, none⟩ = some (.int .i64 b) := hc4 1 (by omega)
      have c2 : w1.cell? ⟨blk, off + k * 4 + 2, none⟩ = some (.string s) := hc4 2 (by omega)
      have c3 : w1.cell? ⟨blk, off + k * 4 + 3, none⟩ = some (.int .i64 n) := hc4 3 (by omega)
      have r0 : wr.cell? ⟨blk, off + k * 4, none⟩ = some (.int .i64 o) := (HR.out.2.cell (p := ⟨blk, _, none⟩) hbl).trans c0
      have r1 : wr.cell? ⟨blk, off + k * 4 + 1, none⟩ = some (.int .i64 b) := (HR.out.2.cell (p := ⟨blk, _, none⟩) hbl).trans c1
      have r2 : wr.cell? ⟨blk, off + k * 4 + 2, none⟩ = some (.string s) := (HR.out.2.cell (p := ⟨blk, _, none⟩) hbl).trans c2
      clear hc4 hcs
      go_upto_region 7 with fail
      refine wp_region_held (S := fun W => Below w1.heap.size w1 W ∧ Bx W wr.heap.size #[.int .i64 o, .int .i64 b, .string s] 69) (by kernel_rfl) ?_
      change wpAnyH _ _ _ _ _ 17 #[false, false, false, false, false, false, false, false, false, false, false, false, false, false, false, false, false] _ (wr.alloc (.cells #[.int .i64 o, .int .i64 b, .string s] 69)).drew
      have hT0 : Below wr.heap.size wr (wr.alloc (.cells #[.int .i64 o, .int .i64 b, .string s] 69)).drew := ((Below.refl _ wr).alloc (Nat.le_refl _) _).trans ⟨rfl, rfl, rfl, Nat.le_refl _, fun _ _ => rfl⟩
      have hS0 : Below w1.heap.size w1 (wr.alloc (.cells #[.int .i64 o, .int .i64 b, .string s] 69)).drew ∧ Bx (wr.alloc (.cells #[.int .i64 o, .int .i64 b, .string s] 69)).drew wr.heap.size #[.int .i64 o, .int .i64 b, .string s] 69 := ⟨HR.out.2.trans (hT0.mono HR.out.2.size), Bx.new wr _ _⟩
      obtain ⟨v0, hv0⟩ : ∃ v, v = (wr.alloc (.cells #[.int .i64 o, .int .i64 b, .string s] 69)).drew := ⟨_, rfl⟩
      rw [← hv0] at hS0 hT0 ⊢
      clear hv0
      refine takeR (fuel := 16) (i := 0) (v := u4) rfl (by kernel_rfl) (by kernel_rfl) (by kernel_rfl) (fun _ _ _ h => h) (Or.inl ⟨rfl, fun W hW => by go_simp⟩) hS0 ?_
      simp only [Act.put, List.setIfInBounds_toArray, List.set_cons_zero, List.set_cons_succ]
      refine takeR (fuel := 15) (i := 1) (v := .pointer (some ⟨wr.heap.size, 0, none⟩)) rfl (by kernel_rfl) (by kernel_rfl) (by kernel_rfl) (fun _ _ _ h => h) (Or.inl ⟨rfl, fun W hW => by go_simp⟩) hS0 ?_
      simp only [Act.put, List.setIfInBounds_toArray, List.set_cons_zero, List.set_cons_succ]
      refine takeR (fuel := 14) (i := 2) (v := .int .i64 o) rfl (by kernel_rfl) (by kernel_rfl) (by kernel_rfl) (fun _ _ _ h => h) (Or.inl ⟨rfl, fun W hW => by have cj : W.cell? ⟨wr.heap.size, 0, none⟩ = _ := hW.2.cell 0; go_simp⟩) hS0 ?_
      simp only [Act.put, List.setIfInBounds_toArray, List.set_cons_zero, List.set_cons_succ]
      refine takeR (fuel := 13) (i := 3) (v := .pointer (some ⟨wr.heap.size, 1, none⟩)) rfl (by kernel_rfl) (by kernel_rfl) (by kernel_rfl) (fun _ _ _ h => h) (Or.inl ⟨rfl, fun W hW => by go_simp⟩) hS0 ?_
      simp only [Act.put, List.setIfInBounds_toArray, List.set_cons_zero, List.set_cons_succ]
      refine takeR (fuel := 12) (i := 4) (v := .int .i64 b) rfl (by kernel_rfl) (by kernel_rfl) (by kernel_rfl) (fun _ _ _ h => h) (Or.inl ⟨rfl, fun W hW => by have cj : W.cell? ⟨wr.heap.size, 1, none⟩ = _ := hW.2.cell 1; go_simp⟩) hS0 ?_
      simp only [Act.put, List.setIfInBounds_toArray, List.set_cons_zero, List.set_cons_succ]
      refine takeR (fuel := 11) (i := 5) (v := .pointer (some ⟨wr.heap.size, 2, none⟩)) rfl (by kernel_rfl) (by kernel_rfl) (by kernel_rfl) (fun _ _ _ h => h) (Or.inl ⟨rfl, fun W hW => by go_simp⟩) hS0 ?_
      simp only [Act.put, List.setIfInBounds_toArray, List.set_cons_zero, List.set_cons_succ]
      refine takeR (fuel := 10) (i := 6) (v := .string s) rfl (by kernel_rfl) (by kernel_rfl) (by kernel_rfl) (fun _ _ _ h => h) (Or.inl ⟨rfl, fun W hW => by have cj : W.cell? ⟨wr.heap.size, 2, none⟩ = _ := hW.2.cell 2; go_simp⟩) hS0 ?_
      simp only [Act.put, List.setIfInBounds_toArray, List.set_cons_zero, List.set_cons_succ]
      refine takeR (fuel := 9) (i := 7) (v := .agg #[.int .i64 o, .int .i64 b, .string s]) rfl (by kernel_rfl) (by kernel_rfl) (by kernel_rfl) (fun _ _ _ h => h) (Or.inl ⟨rfl, fun W hW => by go_simp⟩) hS0 ?_
      simp only [Act.put, List.setIfInBounds_toArray, List.set_cons_zero, List.set_cons_succ]
      refine takeR (fuel := 8) (i := 8) (v := .slice (some ⟨blk, off, none⟩) L.length cap) rfl (by kernel_rfl) (by kernel_rfl) (by kernel_rfl) (fun _ _ _ h => h) (Or.inl ⟨rfl, fun W hW => by go_simp⟩) hS0 ?_
      simp only [Act.put, List.setIfInBounds_toArray, List.set_cons_zero, List.set_cons_succ]
      refine takeR (fuel := 7) (i := 9) (v := .int .i64 k) rfl (by kernel_rfl) (by kernel_rfl) (by kernel_rfl) (fun _ _ _ h => h) (Or.inl ⟨rfl, fun W hW => by go_simp⟩) hS0 ?_
      simp only [Act.put, List.setIfInBounds_toArray, List.set_cons_zero, List.set_cons_succ]
      refine takeR (fuel := 6) (i := 10) (v := .pointer (some ⟨blk, off + k * 4, none⟩)) rfl (by kernel_rfl) (by kernel_rfl) (by kernel_rfl) (fun _ _ _ h => h) (Or.inl ⟨rfl, fun W hW => by go_simp⟩) hS0 ?_
      simp only [Act.put, List.setIfInBounds_toArray, List.set_cons_zero, List.set_cons_succ]
      refine takeR (fuel := 5) (i := 11) (v := .pointer (some ⟨blk, off + k * 4 + 3, none⟩)) rfl (by kernel_rfl) (by kernel_rfl) (by kernel_rfl) (fun _ _ _ h => h) (Or.inl ⟨rfl, fun W hW => by go_simp⟩) hS0 ?_
      simp only [Act.put, List.setIfInBounds_toArray, List.set_cons_zero, List.set_cons_succ]
      refine takeR (fuel := 4) (i := 12) (v := .int .i64 n) rfl (by kernel_rfl) (by kernel_rfl) (by kernel_rfl) (fun _ _ _ h => h) (Or.inl ⟨rfl, fun W hW => by have cj : W.cell? ⟨blk, off + k * 4 + 3, none⟩ = some (.int .i64 n) := (hW.1.cell (p := ⟨blk, _, none⟩) hbl).trans c3; go_simp⟩) hS0 ?_
      simp only [Act.put, List.setIfInBounds_toArray, List.set_cons_zero, List.set_cons_succ]
      refine takeR (fuel := 3) (i := 13) (v := .agg #[.int .i64 o, .int .i64 b, .string s, .int .i64 n]) rfl (by kernel_rfl) (by kernel_rfl) (by kernel_rfl) (fun _ _ _ h => h) (Or.inl ⟨rfl, fun W hW => by go_simp⟩) hS0 ?_
      simp only [Act.put, List.setIfInBounds_toArray, List.set_cons_zero, List.set_cons_succ]
      have hO2 : v0.ownsRow w1.heap.size 68 4 u4 k (bcells (L.take k)) := own_below HR.out.1 hT0
      have hsz2 : w1.heap.size ≤ v0.heap.size := hS0.1.size
      obtain ⟨v', w4, hr4, ho4, hg4⟩ := app_gen (T := 68) (Sl := 25) (k := 4) (bytes := 40) Try.underlying25 info44 rfl (by omega) [.int .i64 o, .int .i64 b, .string s, .int .i64 n] rfl (by intro u hu; simp at hu; rcases hu with rfl | rfl | rfl | rfl <;> rfl) hO2 hsz2 hkb (by unfold maxLen; omega)
      have hB4 : Below w1.heap.size w1 w4 := ((hS0.1.alloc hsz2 _).grown hg4 (by simp; omega) (fun j hj => (hO2.lt j hj).1))
      have HO4 : Hid (w4.ownsRow w1.heap.size 68 4 v' (k + 1) (bcells (L.take (k + 1))) ∧ Below w1.heap.size w1 w4) := ⟨by rw [← HT.out]; exact ho4, hB4⟩
      have hne : some wr.heap.size ≠ u4.ownBlock := fun e => by have := (HR.out.1.lt _ e.symm).2; omega
      have hX4 : Bx w4 wr.heap.size #[.int .i64 o, .int .i64 b, .string s] 69 := (hS0.2.kept (grown_alloc _ _ none) (by simp)).kept hg4 hne
      refine consR (fuel := 2) (i := 14) rfl (by kernel_rfl) (fun K hK => ?_)
      rw [if_pos (by rfl)]
      go_simp
      refine hK.out _ _ ⟨hS0.1.alloc hS0.1.size _, hS0.2.kept (grown_alloc _ _ none) (by simp)⟩ (fun hS3 => ?_)
      clear hK
      try simp only [Act.put, List.setIfInBounds_toArray, List.set_cons_zero, List.set_cons_succ]
      refine consR (fuel := 1) (i := 15) rfl (by kernel_rfl) (fun K hK => ?_)
      rw [if_pos (by rfl)]
      refine Lib.wp_append_run _ _ _ 25 25 rfl _ _ rfl rfl _ w4 hr4 ?_
      refine hK.out _ _ ⟨hB4, hX4⟩ (fun hS4 => ?_)
      clear hK
      try simp only [Act.put, List.setIfInBounds_toArray, List.set_cons_zero, List.set_cons_succ]
      refine takeR (fuel := 0) (i := 16) (v := v') rfl (by kernel_rfl) (by kernel_rfl) (by kernel_rfl) (fun _ _ _ h => h) (Or.inl ⟨rfl, fun W hW => by go_simp⟩) hS4 ?_
      simp only [Act.put, List.setIfInBounds_toArray, List.set_cons_zero, List.set_cons_succ]
      refine wpAnyH_done (by kernel_rfl) ?_ _
      go_wp2_with fail
      go_roundw
      case rel => exact ⟨k + 1, by omega, by simp, HO4⟩
      case measure => simp [intOf]; omega
    · have hkz : ¬ (k : Int) < (L.length : Int) := by omega
      have HF : Hid (TolP L w (.returned u4) wr) := by
        have hr := HR.out
        have e : k = L.length := by omega
        rw [e, List.take_length] at hr
        exact ⟨u4, rfl, own_mono hr.1 HBs.out.2.size, HBs.out.2.trans (hr.2.mono HBs.out.2.size)⟩
      go_wp2_with fail
      go_ret
      exact HF.out
end Go.Proofs.Ytbfnfebmmhhegaa
