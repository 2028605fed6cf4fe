/- layer 11: what a ledger has, told; the same balances -/
import Derived.Test.YteoibfegekipjaaR
import Derived.WalkKit
import Derived.ProofKit
import Derived.Handy
import Derived.WalkLawsBesides
import Derived.WalkSpells
import Derived.BigQuiet
import Derived.BigCall
import Derived.Deep.QuietTactic
import Derived.Deep.Light
import Derived.Deep.OwnRows
import Derived.Laws.AppendOwnNone
import Derived.Laws.Strings3
import Derived.Laws.RangeAny
import Derived.Deep.RegionWith
import Derived.Lib.BitFns
import Derived.Lib.Walk
import Derived.Lib.Strings
import Derived.Lib.OthersKept
import Derived.Deep.CutBlock
import Derived.Deep.DeepCutAuto
import Derived.Deep.LoopGhost
import Derived.Deep.RegionHeld3
import Derived.Lib.SmallJoins
import Derived.Maps.AppendAt
import Derived.Laws.IdiomStrings
import Derived.Lib.AppendZeros
import Derived.Deep.WholeRow
import Derived.Laws.BitsAllLaws
import Derived.Lib.ConvBytes
import Derived.Deep.RegionLaw
import Derived.Maps.OwnSet
import Derived.Maps.OwnOps
import Derived.Maps.RangeWalk
import Derived.Maps.Ext
import Derived.DeepKeys4
import Derived.Laws.StructEq
import Derived.Shelf.SlSortCmp.NoneTotal
namespace Go.Proofs.Yteoibfegekipjaa
open Go.RowKit
set_option linter.unusedVariables false
set_option linter.unusedSimpArgs false
set_option maxRecDepth 20000
theorem info44 : (Try.prog.info? 44).map (fun i => (i.zero, i.size, i.bytes)) = some (some (.agg #[.int .i64 0, .int .i64 0, .string ⟨#[]⟩, .int .i64 0]), 4, 40) := by kernel_rfl
def TolP (L : List Num.Bal) (w : World) (e : Ending) (w' : World) : Prop := ∃ v, e = .returned v ∧ w'.ownsRow w.heap.size 44 4 v L.length (bcells L) ∧ Below w.heap.size w w'
set_option maxHeartbeats 8000000 in
theorem xtold (q m : Nat) (L : List Num.Bal) (hl : L.length ≤ 1000000) (hb : ∀ p ∈ L, p.1.2.2.length ≤ 281474976710656) (w : World) (h : Lg w q m L) : Calls Try.prog 16 #[.pointer (some ⟨q, 0, none⟩)] w (TolP L w) := by
  have HC : Hid (Calls Try.prog 28 #[.pointer (some ⟨q, 0, none⟩)] w (AllP L w)) := xall q m L hl hb w h
  have HL : Hid (L.length ≤ 1000000) := hl
  clear h hl hb
  go_enter Try.func16, Try.ntmps16
  go_wp2_with (go_at_call 28; refine HC.out.mono ?_; rintro e w1 ⟨a, cap, rfl, hcap, HBs⟩)
  clear HC
  go_loopw [4, 5] (fun v i wr => ∃ k : Nat, k ≤ L.length ∧ i = .int .i64 k ∧ Hid (wr.ownsRow w1.heap.size 44 4 v k (bcells (L.take k)) ∧ Below w1.heap.size w1 wr))
    (fun _ i _ => L.length - (intOf i).toNat)
  case atStart => exact ⟨0, Nat.zero_le _, rfl, World.ownsRow_nil _ _ _ _, Below.refl _ _⟩
  case round =>
    obtain ⟨k, hk, rfl, HR⟩ := hrel
    by_cases hkn : k < L.length
    · have hkz : (k : Int) < (L.length : Int) := by omega
      obtain ⟨blk, off, rfl, hbl, hcs⟩ := HBs.out.1 (by omega)
      have hc4 := hcs k hkn
      have HT : Hid (bcells (L.take k) ++ bcs L[k] = bcells (L.take (k + 1))) := by
        unfold Hid
        rw [← List.take_append_getElem hkn]
        unfold bcells
        rw [flat_snoc]
      have hkb : (k + 1) * 40 ≤ 140737488355328 := by have := HL.out; omega
      generalize L[k] = x at *
      obtain ⟨⟨o, b, t⟩, n⟩ := x
      obtain ⟨s, hs⟩ : ∃ s, s = S t := ⟨_, rfl⟩
      have hxs : bcs ((o, b, t), n) = [.int .i64 o, .int .i64 b, .string s, .int .i64 n] := by rw [hs]; rfl
      rw [hxs] at hc4 HT
      clear hs hxs
      have c0 : w1.cell? ⟨blk, off + k * 4, none⟩ = some (.int .i64 o) := hc4 0 (by omega)
      have c1 : w1.cell? ⟨blk, off + k * 4 + 1, none⟩ = some (.int .i64 b) := hc4 1 (by omega)
      have c2 : w1.cell? ⟨blk, off + k * 4 + 2, none⟩ = some (.string s) := hc4 2 (by omega)
      have c3 : w1.cell? ⟨blk, off + k * 4 + 3, none⟩ = some (.int .i64 n) := hc4 3 (by omega)
      have r0 : wr.cell? ⟨blk, off + k * 4, none⟩ = some (.int .i64 o) := (HR.out.2.cell (p := ⟨blk, _, none⟩) hbl).trans c0
      have r1 : wr.cell? ⟨blk, off + k * 4 + 1, none⟩ = some (.int .i64 b) := (HR.out.2.cell (p := ⟨blk, _, none⟩) hbl).trans c1
      have r2 : wr.cell? ⟨blk, off + k * 4 + 2, none⟩ = some (.string s) := (HR.out.2.cell (p := ⟨blk, _, none⟩) hbl).trans c2
      clear hc4 hcs
      go_upto_region 7 with fail
      refine wp_region_held (S := fun W => Below w1.heap.size w1 W ∧ Bx W wr.heap.size #[.int .i64 o, .int .i64 b, .string s] 40) (by kernel_rfl) ?_
      change wpAnyH _ _ _ _ _ 17 #[false, false, false, false, false, false, false, false, false, false, false, false, false, false, false, false, false] _ (wr.alloc (.cells #[.int .i64 o, .int .i64 b, .string s] 40)).drew
      have hT0 : Below wr.heap.size wr (wr.alloc (.cells #[.int .i64 o, .int .i64 b, .string s] 40)).drew := ((Below.refl _ wr).alloc (Nat.le_refl _) _).trans ⟨rfl, rfl, rfl, Nat.le_refl _, fun _ _ => rfl⟩
      have hS0 : Below w1.heap.size w1 (wr.alloc (.cells #[.int .i64 o, .int .i64 b, .string s] 40)).drew ∧ Bx (wr.alloc (.cells #[.int .i64 o, .int .i64 b, .string s] 40)).drew wr.heap.size #[.int .i64 o, .int .i64 b, .string s] 40 := ⟨HR.out.2.trans (hT0.mono HR.out.2.size), Bx.new wr _ _⟩
      obtain ⟨v0, hv0⟩ : ∃ v, v = (wr.alloc (.cells #[.int .i64 o, .int .i64 b, .string s] 40)).drew := ⟨_, rfl⟩
      rw [← hv0] at hS0 hT0 ⊢
      clear hv0
      refine takeR (fuel := 16) (i := 0) (v := u4) rfl (by kernel_rfl) (by kernel_rfl) (by kernel_rfl) (fun _ _ _ h => h) (Or.inl ⟨rfl, fun W hW => by go_simp⟩) hS0 ?_
      simp only [Act.put, List.setIfInBounds_toArray, List.set_cons_zero, List.set_cons_succ]
      refine takeR (fuel := 15) (i := 1) (v := .pointer (some ⟨wr.heap.size, 0, none⟩)) rfl (by kernel_rfl) (by kernel_rfl) (by kernel_rfl) (fun _ _ _ h => h) (Or.inl ⟨rfl, fun W hW => by go_simp⟩) hS0 ?_
      simp only [Act.put, List.setIfInBounds_toArray, List.set_cons_zero, List.set_cons_succ]
      refine takeR (fuel := 14) (i := 2) (v := .int .i64 o) rfl (by kernel_rfl) (by kernel_rfl) (by kernel_rfl) (fun _ _ _ h => h) (Or.inl ⟨rfl, fun W hW => by have cj : W.cell? ⟨wr.heap.size, 0, none⟩ = _ := hW.2.cell 0; go_simp⟩) hS0 ?_
      simp only [Act.put, List.setIfInBounds_toArray, List.set_cons_zero, List.set_cons_succ]
      refine takeR (fuel := 13) (i := 3) (v := .pointer (some ⟨wr.heap.size, 1, none⟩)) rfl (by kernel_rfl) (by kernel_rfl) (by kernel_rfl) (fun _ _ _ h => h) (Or.inl ⟨rfl, fun W hW => by go_simp⟩) hS0 ?_
      simp only [Act.put, List.setIfInBounds_toArray, List.set_cons_zero, List.set_cons_succ]
      refine takeR (fuel := 12) (i := 4) (v := .int .i64 b) rfl (by kernel_rfl) (by kernel_rfl) (by kernel_rfl) (fun _ _ _ h => h) (Or.inl ⟨rfl, fun W hW => by have cj : W.cell? ⟨wr.heap.size, 1, none⟩ = _ := hW.2.cell 1; go_simp⟩) hS0 ?_
      simp only [Act.put, List.setIfInBounds_toArray, List.set_cons_zero, List.set_cons_succ]
      refine takeR (fuel := 11) (i := 5) (v := .pointer (some ⟨wr.heap.size, 2, none⟩)) rfl (by kernel_rfl) (by kernel_rfl) (by kernel_rfl) (fun _ _ _ h => h) (Or.inl ⟨rfl, fun W hW => by go_simp⟩) hS0 ?_
      simp only [Act.put, List.setIfInBounds_toArray, List.set_cons_zero, List.set_cons_succ]
      refine takeR (fuel := 10) (i := 6) (v := .string s) rfl (by kernel_rfl) (by kernel_rfl) (by kernel_rfl) (fun _ _ _ h => h) (Or.inl ⟨rfl, fun W hW => by have cj : W.cell? ⟨wr.heap.size, 2, none⟩ = _ := hW.2.cell 2; go_simp⟩) hS0 ?_
      simp only [Act.put, List.setIfInBounds_toArray, List.set_cons_zero, List.set_cons_succ]
      refine takeR (fuel := 9) (i := 7) (v := .agg #[.int .i64 o, .int .i64 b, .string s]) rfl (by kernel_rfl) (by kernel_rfl) (by kernel_rfl) (fun _ _ _ h => h) (Or.inl ⟨rfl, fun W hW => by go_simp⟩) hS0 ?_
      simp only [Act.put, List.setIfInBounds_toArray, List.set_cons_zero, List.set_cons_succ]
      refine takeR (fuel := 8) (i := 8) (v := .slice (some ⟨blk, off, none⟩) L.length cap) rfl (by kernel_rfl) (by kernel_rfl) (by kernel_rfl) (fun _ _ _ h => h) (Or.inl ⟨rfl, fun W hW => by go_simp⟩) hS0 ?_
      simp only [Act.put, List.setIfInBounds_toArray, List.set_cons_zero, List.set_cons_succ]
      refine takeR (fuel := 7) (i := 9) (v := .int .i64 k) rfl (by kernel_rfl) (by kernel_rfl) (by kernel_rfl) (fun _ _ _ h => h) (Or.inl ⟨rfl, fun W hW => by go_simp⟩) hS0 ?_
      simp only [Act.put, List.setIfInBounds_toArray, List.set_cons_zero, List.set_cons_succ]
      refine takeR (fuel := 6) (i := 10) (v := .pointer (some ⟨blk, off + k * 4, none⟩)) rfl (by kernel_rfl) (by kernel_rfl) (by kernel_rfl) (fun _ _ _ h => h) (Or.inl ⟨rfl, fun W hW => by go_simp⟩) hS0 ?_
      simp only [Act.put, List.setIfInBounds_toArray, List.set_cons_zero, List.set_cons_succ]
      refine takeR (fuel := 5) (i := 11) (v := .pointer (some ⟨blk, off + k * 4 + 3, none⟩)) rfl (by kernel_rfl) (by kernel_rfl) (by kernel_rfl) (fun _ _ _ h => h) (Or.inl ⟨rfl, fun W hW => by go_simp⟩) hS0 ?_
      simp only [Act.put, List.setIfInBounds_toArray, List.set_cons_zero, List.set_cons_succ]
      refine takeR (fuel := 4) (i := 12) (v := .int .i64 n) rfl (by kernel_rfl) (by kernel_rfl) (by kernel_rfl) (fun _ _ _ h => h) (Or.inl ⟨rfl, fun W hW => by have cj : W.cell? ⟨blk, off + k * 4 + 3, none⟩ = some (.int .i64 n) := (hW.1.cell (p := ⟨blk, _, none⟩) hbl).trans c3; go_simp⟩) hS0 ?_
      simp only [Act.put, List.setIfInBounds_toArray, List.set_cons_zero, List.set_cons_succ]
      refine takeR (fuel := 3) (i := 13) (v := .agg #[.int .i64 o, .int .i64 b, .string s, .int .i64 n]) rfl (by kernel_rfl) (by kernel_rfl) (by kernel_rfl) (fun _ _ _ h => h) (Or.inl ⟨rfl, fun W hW => by go_simp⟩) hS0 ?_
      simp only [Act.put, List.setIfInBounds_toArray, List.set_cons_zero, List.set_cons_succ]
      have hO2 : v0.ownsRow w1.heap.size 44 4 u4 k (bcells (L.take k)) := own_below HR.out.1 hT0
      have hsz2 : w1.heap.size ≤ v0.heap.size := hS0.1.size
      obtain ⟨v', w4, hr4, ho4, hg4⟩ := app_gen (T := 44) (Sl := 27) (k := 4) (bytes := 40) Try.underlying27 info44 rfl (by omega) [.int .i64 o, .int .i64 b, .string s, .int .i64 n] rfl (by intro u hu; simp at hu; rcases hu with rfl | rfl | rfl | rfl <;> rfl) hO2 hsz2 hkb (by unfold maxLen; omega)
      have hB4 : Below w1.heap.size w1 w4 := ((hS0.1.alloc hsz2 _).grown hg4 (by simp; omega) (fun j hj => (hO2.lt j hj).1))
      have HO4 : Hid (w4.ownsRow w1.heap.size 44 4 v' (k + 1) (bcells (L.take (k + 1))) ∧ Below w1.heap.size w1 w4) := ⟨by rw [← HT.out]; exact ho4, hB4⟩
      have hne : some wr.heap.size ≠ u4.ownBlock := fun e => by have := (HR.out.1.lt _ e.symm).2; omega
      have hX4 : Bx w4 wr.heap.size #[.int .i64 o, .int .i64 b, .string s] 40 := (hS0.2.kept (grown_alloc _ _ none) (by simp)).kept hg4 hne
      refine consR (fuel := 2) (i := 14) rfl (by kernel_rfl) (fun K hK => ?_)
      rw [if_pos (by rfl)]
      go_simp
      refine hK.out _ _ ⟨hS0.1.alloc hS0.1.size _, hS0.2.kept (grown_alloc _ _ none) (by simp)⟩ (fun hS3 => ?_)
      clear hK
      try simp only [Act.put, List.setIfInBounds_toArray, List.set_cons_zero, List.set_cons_succ]
      refine consR (fuel := 1) (i := 15) rfl (by kernel_rfl) (fun K hK => ?_)
      rw [if_pos (by rfl)]
      refine Lib.wp_append_run _ _ _ 27 27 rfl _ _ rfl rfl _ w4 hr4 ?_
      refine hK.out _ _ ⟨hB4, hX4⟩ (fun hS4 => ?_)
      clear hK
      try simp only [Act.put, List.setIfInBounds_toArray, List.set_cons_zero, List.set_cons_succ]
      refine takeR (fuel := 0) (i := 16) (v := v') rfl (by kernel_rfl) (by kernel_rfl) (by kernel_rfl) (fun _ _ _ h => h) (Or.inl ⟨rfl, fun W hW => by go_simp⟩) hS4 ?_
      simp only [Act.put, List.setIfInBounds_toArray, List.set_cons_zero, List.set_cons_succ]
      refine wpAnyH_done (by kernel_rfl) ?_ _
      go_wp2_with fail
      go_roundw
      case rel => exact ⟨k + 1, by omega, by simp, HO4⟩
      case measure => simp [intOf]; omega
    · have hkz : ¬ (k : Int) < (L.length : Int) := by omega
      have HF : Hid (TolP L w (.returned u4) wr) := by
        have hr := HR.out
        have e : k = L.length := by omega
        rw [e, List.take_length] at hr
        exact ⟨u4, rfl, own_mono hr.1 HBs.out.2.size, HBs.out.2.trans (hr.2.mono HBs.out.2.size)⟩
      go_wp2_with fail
      go_ret
      exact HF.out
set_option maxHeartbeats 4000000 in
theorem neq44 (o b n : Int) (s : ByteArray) (w : World) : (binOp .neq 44 (.agg #[.int .i64 o, .int .i64 b, .string s, .int .i64 n]) (.agg #[.int .i64 o, .int .i64 b, .string s, .int .i64 n])).run Try.prog w = .ok (.bool false) w := by
  go_simp
def SamP (w : World) (e : Ending) (w' : World) : Prop := e = .returned (.bool true) ∧ Below w.heap.size w w'
set_option maxHeartbeats 4000000 in
theorem xsame (L : List Num.Bal) (hl : L.length ≤ 1000000) (a1 : Option Addr) (cap1 : Nat) (a2 : Option Addr) (cap2 : Nat) (w : World) (h1 : Bs w a1 L) (h2 : Bs w a2 L) : Calls Try.prog 15 #[.slice a1 L.length cap1, .slice a2 L.length cap2] w (SamP w) := by
  have H1 : Hid (Bs w a1 L) := h1
  have H2 : Hid (Bs w a2 L) := h2
  clear h1 h2
  go_enter Try.func15, Try.ntmps15
  go_wp2_with fail
  go_loopw [5] (fun i wr => ∃ k : Nat, k ≤ L.length ∧ i = .int .i64 k ∧ Hid (Below w.heap.size w wr))
    (fun i _ => L.length - (intOf i).toNat)
  case atStart => exact ⟨0, Nat.zero_le _, rfl, Below.refl _ _⟩
  case round =>
    obtain ⟨k, hk, rfl, HR⟩ := hrel
    by_cases hkn : k < L.length
    · have hkz : (k : Int) < (L.length : Int) := by omega
      obtain ⟨blk, off, rfl, hbl, hcs⟩ := H1.out (by omega)
      obtain ⟨blk', off', rfl, hbl', hcs'⟩ := H2.out (by omega)
      have hc4 := hcs k hkn
      have hd4 := hcs' k hkn
      generalize L[k] = x at *
      obtain ⟨⟨o, b, t⟩, n⟩ := x
      obtain ⟨s, hs⟩ : ∃ s, s = S t := ⟨_, rfl⟩
      have hxs : bcs ((o, b, t), n) = [.int .i64 o, .int .i64 b, .string s, .int .i64 n] := by rw [hs]; rfl
      rw [hxs] at hc4 hd4
      clear hs hxs
      have c0 : wr.cell? ⟨blk, off + k * 4, none⟩ = some (.int .i64 o) := (HR.out.cell (p := ⟨blk, _, none⟩) hbl).trans (hc4 0 (by omega))
      have c1 : wr.cell? ⟨blk, off + k * 4 + 1, none⟩ = some (.int .i64 b) := (HR.out.cell (p := ⟨blk, _, none⟩) hbl).trans (hc4 1 (by omega))
      have c2 : wr.cell? ⟨blk, off + k * 4 + 2, none⟩ = some (.string s) := (HR.out.cell (p := ⟨blk, _, none⟩) hbl).trans (hc4 2 (by omega))
      have c3 : wr.cell? ⟨blk, off + k * 4 + 3, none⟩ = some (.int .i64 n) := (HR.out.cell (p := ⟨blk, _, none⟩) hbl).trans (hc4 3 (by omega))
      have d0 : wr.cell? ⟨blk', off' + k * 4, none⟩ = some (.int .i64 o) := (HR.out.cell (p := ⟨blk', _, none⟩) hbl').trans (hd4 0 (by omega))
      have d1 : wr.cell? ⟨blk', off' + k * 4 + 1, none⟩ = some (.int .i64 b) := (HR.out.cell (p := ⟨blk', _, none⟩) hbl').trans (hd4 1 (by omega))
      have d2 : wr.cell? ⟨blk', off' + k * 4 + 2, none⟩ = some (.string s) := (HR.out.cell (p := ⟨blk', _, none⟩) hbl').trans (hd4 2 (by omega))
      have d3 : wr.cell? ⟨blk', off' + k * 4 + 3, none⟩ = some (.int .i64 n) := (HR.out.cell (p := ⟨blk', _, none⟩) hbl').trans (hd4 3 (by omega))
      have HB : Hid (∀ k, Below w.heap.size w (wr.drewN k)) := fun k => HR.out.trans ⟨rfl, rfl, rfl, Nat.le_refl _, fun _ _ => rfl⟩
      clear hc4 hcs hd4 hcs'
      go_upto_region 6 with fail
      go_quiet (fail)
      go_wp2_with fail
      go_roundw
      case rel => exact ⟨k + 1, by omega, by simp, HB.out _⟩
      case measure => simp [intOf]; omega
    · have hkz : ¬ (k : Int) < (L.length : Int) := by omega
      go_wp2_with fail
      go_ret
      exact ⟨rfl, HR.out⟩
end Go.Proofs.Yteoibfegekipjaa
