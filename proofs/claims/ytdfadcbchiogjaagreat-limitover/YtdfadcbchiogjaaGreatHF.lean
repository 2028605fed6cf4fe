/- layer 15: items, what each covers, all together, and what is above a need, of both -/
import Derived.Test.YtdfadcbchiogjaaGreatHD
import Derived.Test.YtdfadcbchiogjaaGreatC
import Derived.WalkKit
import Derived.ProofKit
import Derived.Handy
import Derived.WalkLawsBesides
import Derived.WalkSpells
import Derived.BigQuiet
import Derived.BigCall
import Derived.Deep.QuietTactic
import Derived.Deep.Light
import Derived.Deep.OwnRows
import Derived.Laws.AppendOwnNone
import Derived.Laws.Strings3
import Derived.Laws.RangeAny
import Derived.Deep.RegionWith
import Derived.Lib.BitFns
import Derived.Lib.Walk
import Derived.Lib.Strings
import Derived.Lib.OthersKept
import Derived.Deep.CutBlock
import Derived.Deep.DeepCutAuto
import Derived.Deep.LoopGhost
import Derived.Deep.RegionHeld3
import Derived.Lib.SmallJoins
import Derived.Maps.AppendAt
import Derived.Laws.IdiomStrings
import Derived.Lib.AppendZeros
import Derived.Deep.WholeRow
import Derived.Laws.BitsAllLaws
import Derived.Lib.ConvBytes
import Derived.Deep.RegionLaw
import Derived.Maps.OwnSet
import Derived.Maps.OwnOps
import Derived.Maps.RangeWalk
import Derived.Maps.Ext
import Derived.DeepKeys4
import Derived.Laws.StructEq
import Derived.Deep.MidRow
import Derived.Lib.Bytealg
import Derived.Lib.Overlaps
import Derived.Lib.AppendZerosOnto
import Derived.Laws.MakeOwn
namespace Go.Proofs.YtdfadcbchiogjaaGreat.H5
open Go.RowKit
set_option linter.unusedVariables false
set_option linter.unusedSimpArgs false
set_option maxRecDepth 20000
open Num
structure It where
  l : ByteArray
  q : Int
  a : As
  p : Int
  c : Int
def its (x : It) : List Value := [.string x.l, .int .i64 x.q, .string x.a.i, .int .i64 x.a.iss, .int .i64 x.a.rat, .int .i64 x.a.mat, .string x.a.c, .int .i64 x.p, .int .i64 x.c]
theorem its_len (x : It) : (its x).length = 9 := rfl
theorem its_one (x : It) : ∀ u ∈ its x, u.oneCell' = true := by
  intro u hu
  simp only [its, List.mem_cons, List.not_mem_nil, or_false] at hu
  rcases hu with rfl | rfl | rfl | rfl | rfl | rfl | rfl | rfl | rfl <;> rfl
def It.co (x : It) : Int := coS x.q x.p x.c
theorem load46 (W : World) (b p p1 : Nat) (v0 v1 : Value) (h1 : p1 = p + 1) (c0 : W.cell? ⟨b, p, none⟩ = some v0) (c1 : W.cell? ⟨b, p1, none⟩ = some v1) : (Instr.loadAt 53 (.pointer (some ⟨b, p, none⟩))).run Tryz.prog W = .ok (.agg #[v0, v1]) W := by
  subst h1
  go_simp
theorem load27 (W : World) (b p p1 p2 p3 p4 : Nat) (v0 v1 v2 v3 v4 : Value) (h1 : p1 = p + 1) (h2 : p2 = p + 2) (h3 : p3 = p + 3) (h4 : p4 = p + 4) (c0 : W.cell? ⟨b, p, none⟩ = some v0) (c1 : W.cell? ⟨b, p1, none⟩ = some v1) (c2 : W.cell? ⟨b, p2, none⟩ = some v2) (c3 : W.cell? ⟨b, p3, none⟩ = some v3) (c4 : W.cell? ⟨b, p4, none⟩ = some v4) : (Instr.loadAt 48 (.pointer (some ⟨b, p, none⟩))).run Tryz.prog W = .ok (.agg #[v0, v1, v2, v3, v4]) W := by
  subst h1 h2 h3 h4
  go_simp
theorem load48 (W : World) (b p : Nat) (v0 v1 v2 v3 v4 v5 v6 v7 v8 : Value) (c0 : W.cell? ⟨b, p, none⟩ = some v0) (c1 : W.cell? ⟨b, p + 1, none⟩ = some v1) (c2 : W.cell? ⟨b, p + 2, none⟩ = some v2) (c3 : W.cell? ⟨b, p + 3, none⟩ = some v3) (c4 : W.cell? ⟨b, p + 4, none⟩ = some v4) (c5 : W.cell? ⟨b, p + 5, none⟩ = some v5) (c6 : W.cell? ⟨b, p + 6, none⟩ = some v6) (c7 : W.cell? ⟨b, p + 7, none⟩ = some v7) (c8 : W.cell? ⟨b, p + 8, none⟩ = some v8) : (Instr.loadAt 55 (.pointer (some ⟨b, p, none⟩))).run Tryz.prog W = .ok (.agg #[v0, v1, v2, v3, v4, v5, v6, v7, v8]) W := by
  go_simp
theorem load50 (W : World) (b p : Nat) (v0 v1 v2 v3 v4 v5 v6 v7 v8 : Value) (c0 : W.cell? ⟨b, p, none⟩ = some v0) (c1 : W.cell? ⟨b, p + 1, none⟩ = some v1) (c2 : W.cell? ⟨b, p + 2, none⟩ = some v2) (c3 : W.cell? ⟨b, p + 3, none⟩ = some v3) (c4 : W.cell? ⟨b, p + 4, none⟩ = some v4) (c5 : W.cell? ⟨b, p + 5, none⟩ = some v5) (c6 : W.cell? ⟨b, p + 6, none⟩ = some v6) (c7 : W.cell? ⟨b, p + 7, none⟩ = some v7) (c8 : W.cell? ⟨b, p + 8, none⟩ = some v8) : (Instr.loadAt 62 (.pointer (some ⟨b, p, none⟩))).run Tryz.prog W = .ok (.agg #[v0, v1, v2, v3, v4, v5, v6, v7, v8]) W := by
  go_simp
theorem info48 : (Tryz.prog.info? 55).map (fun i => (i.zero, i.size, i.bytes)) = some (some (.agg #[.string ⟨#[]⟩, .int .i64 0, .string ⟨#[]⟩, .int .i64 0, .int .i64 0, .int .i64 0, .string ⟨#[]⟩, .int .i64 0, .int .i64 0]), 9, 96) := by kernel_rfl
theorem xicov (x : It) (hc : Rng x.c) (w : World) : Calls Tryz.prog 16 #[.agg (its x).toArray] w (NuP x.co w) := by
  obtain ⟨l, q, ⟨ai, a1, a2, a3, ac⟩, p, c⟩ := x
  have HC : Hid (∀ w, Calls Tryz.prog 36 #[.int .i64 q, .int .i64 p, .int .i64 c] w (WoP (coS q p c) (coE q p c) w)) := fun w => xcover q p c hc w
  have HB : Hid (∀ y, Below w.heap.size w (w.alloc y)) := fun y => (Below.refl _ w).alloc (Nat.le_refl _) y
  have h01 := (co_rng q p c).2.2
  have h0 : coE q p c = 1 → coS q p c = 0 := fun e => by
    by_cases k : Gd p c ∧ Qk q
    · rw [(co_yes k.1 k.2).2] at e; omega
    · exact (co_no k).1
  unfold It.co its
  simp only
  generalize coS q p c = s at *
  generalize coE q p c = e at *
  rcases h01 with rfl | rfl
  · clear h0
    go_enter Tryz.func16, Tryz.ntmps16
    go_wp2_with (go_at_call 36; refine (HC.out _).mono ?_; clear HC; rintro e w1 ⟨rfl, HB1⟩; have K1 : Hid (Below w.heap.size w w1) := (HB.out _).trans (HB1.mono (HB.out _).size); clear HB1)
    go_ret
    exact ⟨rfl, K1.out⟩
  · have h1 := h0 rfl
    subst h1
    clear h0
    go_enter Tryz.func16, Tryz.ntmps16
    go_wp2_with (go_at_call 36; refine (HC.out _).mono ?_; clear HC; rintro e w1 ⟨rfl, HB1⟩; have K1 : Hid (Below w.heap.size w w1) := (HB.out _).trans (HB1.mono (HB.out _).size); clear HB1)
    go_ret
    exact ⟨rfl, K1.out⟩
theorem ricov (x : It) (hc : Rng x.c) (w : World) : Calls Tryz.prog 22 #[.agg (its x).toArray] w (NuP x.co w) := by
  obtain ⟨l, q, ⟨ai, a1, a2, a3, ac⟩, p, c⟩ := x
  have HC : Hid (∀ w, Calls Tryz.prog 43 #[.int .i64 q, .int .i64 p, .int .i64 c] w (WoP (coS q p c) (coE q p c) w)) := fun w => rcover q p c hc w
  have HB : Hid (∀ y, Below w.heap.size w (w.alloc y)) := fun y => (Below.refl _ w).alloc (Nat.le_refl _) y
  unfold It.co its
  simp only
  generalize coS q p c = s at *
  generalize coE q p c = e at *
  go_enter Tryz.func22, Tryz.ntmps22
  go_wp2_with (go_at_call 43; refine (HC.out _).mono ?_; clear HC; rintro e w1 ⟨rfl, HB1⟩; have K1 : Hid (Below w.heap.size w w1) := (HB.out _).trans (HB1.mono (HB.out _).size); clear HB1)
  go_ret
  exact ⟨rfl, K1.out⟩
def ItP (xs : List It) (w : World) (e : Ending) (w' : World) : Prop := ∃ v, e = .returned v ∧ w'.ownsRow w.heap.size 55 9 v xs.length (rcs its xs) ∧ Below w.heap.size w w'
set_option maxHeartbeats 8000000 in
theorem xitems (xs : List It) (a : Option Addr) (cap : Nat) (w : World) (he : Rw 9 its w a xs) (hn : xs.length ≤ 1000000) : Calls Tryz.prog 6 #[.slice a xs.length cap] w (ItP xs w) := by
  have HE : Hid (Rw 9 its w a xs) := he
  clear he
  go_enter Tryz.func6, Tryz.ntmps6
  go_wp2_with fail
  go_loopw [3, 4] (fun v i wr => ∃ k : Nat, k ≤ xs.length ∧ i = .int .i64 k ∧ Hid (wr.ownsRow w.heap.size 55 9 v k (rcs its (xs.take k)) ∧ Below w.heap.size w wr))
    (fun _ i _ => xs.length - (intOf i).toNat)
  case atStart => exact ⟨0, Nat.zero_le _, rfl, World.ownsRow_nil _ _ _ _, Below.refl _ _⟩
  case round =>
    obtain ⟨k, hk, rfl, HR⟩ := hrel
    by_cases hkn : k < xs.length
    · have hkz : (k : Int) < (xs.length : Int) := by omega
      obtain ⟨blk, off, rfl, hbl, hcs⟩ := HE.out (by omega)
      have hc9 := hcs k hkn
      have HT : Hid (rcs its (xs.take k) ++ its xs[k] = rcs its (xs.take (k + 1))) := rcs_take its xs hkn
      generalize xs[k] = x at *
      obtain ⟨l, q, ⟨ai, a1, a2, a3, ac⟩, p, c⟩ := x
      have c0 : w.cell? ⟨blk, off + k * 9, none⟩ = some (.string l) := hc9 0 (by omega)
      have c1 : w.cell? ⟨blk, off + k * 9 + 1, none⟩ = some (.int .i64 q) := hc9 1 (by omega)
      have c2 : w.cell? ⟨blk, off + k * 9 + 2, none⟩ = some (.string ai) := hc9 2 (by omega)
      have c3 : w.cell? ⟨blk, off + k * 9 + 3, none⟩ = some (.int .i64 a1) := hc9 3 (by omega)
      have c4 : w.cell? ⟨blk, off + k * 9 + 4, none⟩ = some (.int .i64 a2) := hc9 4 (by omega)
      have c5 : w.cell? ⟨blk, off + k * 9 + 5, none⟩ = some (.int .i64 a3) := hc9 5 (by omega)
      have c6 : w.cell? ⟨blk, off + k * 9 + 6, none⟩ = some (.string ac) := hc9 6 (by omega)
      have c7 : w.cell? ⟨blk, off + k * 9 + 7, none⟩ = some (.int .i64 p) := hc9 7 (by omega)
      have c8 : w.cell? ⟨blk, off + k * 9 + 8, none⟩ = some (.int .i64 c) := hc9 8 (by omega)
      clear hc9 hcs
      obtain ⟨N, hN⟩ : ∃ N, N = xs.length := ⟨_, rfl⟩
      have hkz' : (k : Int) < (N : Int) := by omega
      go_upto_region 5 with fail
      refine wp_region_held (S := fun W => Below w.heap.size w W) (by kernel_rfl) ?_
      change wpAnyH _ _ _ _ _ 25 #[false, false, false, false, false, false, false, false, false, false, false, false, false, false, false, false, false, false, false, false, false, false, false, false, false] _ wr.drew
      have hT0 : Below wr.heap.size wr wr.drew := ⟨rfl, rfl, rfl, Nat.le_refl _, fun _ _ => rfl⟩
      have hS0 : Below w.heap.size w wr.drew := HR.out.2.trans (hT0.mono HR.out.2.size)
      obtain ⟨v0, hv0⟩ : ∃ v, v = wr.drew := ⟨_, rfl⟩
      rw [← hv0] at hS0 hT0 ⊢
      clear hv0
      refine takeR (fuel := 24) (i := 0) (v := u3) rfl (by kernel_rfl) (by kernel_rfl) (by kernel_rfl) (fun _ _ _ h => h) (Or.inl ⟨rfl, fun W hW => by go_simp⟩) hS0 ?_
      simp only [Act.put, List.setIfInBounds_toArray, List.set_cons_zero, List.set_cons_succ]
      refine takeR (fuel := 23) (i := 1) (v := .slice (some ⟨blk, off, none⟩) xs.length cap) rfl (by kernel_rfl) (by kernel_rfl) (by kernel_rfl) (fun _ _ _ h => h) (Or.inl ⟨rfl, fun W hW => by go_simp⟩) hS0 ?_
      simp only [Act.put, List.setIfInBounds_toArray, List.set_cons_zero, List.set_cons_succ]
      refine takeR (fuel := 22) (i := 2) (v := .int .i64 k) rfl (by kernel_rfl) (by kernel_rfl) (by kernel_rfl) (fun _ _ _ h => h) (Or.inl ⟨rfl, fun W hW => by go_simp⟩) hS0 ?_
      simp only [Act.put, List.setIfInBounds_toArray, List.set_cons_zero, List.set_cons_succ]
      refine takeR (fuel := 21) (i := 3) (v := .pointer (some ⟨blk, off + k * 9, none⟩)) rfl (by kernel_rfl) (by kernel_rfl) (by kernel_rfl) (fun _ _ _ h => h) (Or.inl ⟨rfl, fun W hW => by go_simp⟩) hS0 ?_
      simp only [Act.put, List.setIfInBounds_toArray, List.set_cons_zero, List.set_cons_succ]
      refine takeR (fuel := 20) (i := 4) (v := .pointer (some ⟨blk, off + k * 9, none⟩)) rfl (by kernel_rfl) (by kernel_rfl) (by kernel_rfl) (fun _ _ _ h => h) (Or.inl ⟨rfl, fun W hW => by go_simp⟩) hS0 ?_
      simp only [Act.put, List.setIfInBounds_toArray, List.set_cons_zero, List.set_cons_succ]
      refine takeR (fuel := 19) (i := 5) (v := .agg #[.string l, .int .i64 q]) rfl (by kernel_rfl) (by kernel_rfl) (by kernel_rfl) (fun _ _ _ h => h) (Or.inl ⟨rfl, fun W hW => exl _ _ _ _ rfl (.pointer (some ⟨blk, off + k * 9, none⟩)) _ rfl (load46 W blk (off + k * 9) _ _ _ rfl ((hW.cell (p := ⟨blk, _, none⟩) hbl).trans c0) ((hW.cell (p := ⟨blk, _, none⟩) hbl).trans c1))⟩) hS0 ?_
      simp only [Act.put, List.setIfInBounds_toArray, List.set_cons_zero, List.set_cons_succ]
      refine takeR (fuel := 18) (i := 6) (v := .slice (some ⟨blk, off, none⟩) xs.length cap) rfl (by kernel_rfl) (by kernel_rfl) (by kernel_rfl) (fun _ _ _ h => h) (Or.inl ⟨rfl, fun W hW => by go_simp⟩) hS0 ?_
      simp only [Act.put, List.setIfInBounds_toArray, List.set_cons_zero, List.set_cons_succ]
      refine takeR (fuel := 17) (i := 7) (v := .int .i64 k) rfl (by kernel_rfl) (by kernel_rfl) (by kernel_rfl) (fun _ _ _ h => h) (Or.inl ⟨rfl, fun W hW => by go_simp⟩) hS0 ?_
      simp only [Act.put, List.setIfInBounds_toArray, List.set_cons_zero, List.set_cons_succ]
      refine takeR (fuel := 16) (i := 8) (v := .pointer (some ⟨blk, off + k * 9, none⟩)) rfl (by kernel_rfl) (by kernel_rfl) (by kernel_rfl) (fun _ _ _ h => h) (Or.inl ⟨rfl, fun W hW => by go_simp⟩) hS0 ?_
      simp only [Act.put, List.setIfInBounds_toArray, List.set_cons_zero, List.set_cons_succ]
      refine takeR (fuel := 15) (i := 9) (v := .pointer (some ⟨blk, off + k * 9 + 2, none⟩)) rfl (by kernel_rfl) (by kernel_rfl) (by kernel_rfl) (fun _ _ _ h => h) (Or.inl ⟨rfl, fun W hW => by go_simp⟩) hS0 ?_
      simp only [Act.put, List.setIfInBounds_toArray, List.set_cons_zero, List.set_cons_succ]
      refine takeR (fuel := 14) (i := 10) (v := .agg #[.string ai, .int .i64 a1, .int .i64 a2, .int .i64 a3, .string ac]) rfl (by kernel_rfl) (by kernel_rfl) (by kernel_rfl) (fun _ _ _ h => h) (Or.inl ⟨rfl, fun W hW => exl _ _ _ _ rfl (.pointer (some ⟨blk, off + k * 9 + 2, none⟩)) _ rfl (load27 W blk (off + k * 9 + 2) _ _ _ _ _ _ _ _ _ rfl rfl rfl rfl ((hW.cell (p := ⟨blk, _, none⟩) hbl).trans c2) ((hW.cell (p := ⟨blk, _, none⟩) hbl).trans c3) ((hW.cell (p := ⟨blk, _, none⟩) hbl).trans c4) ((hW.cell (p := ⟨blk, _, none⟩) hbl).trans c5) ((hW.cell (p := ⟨blk, _, none⟩) hbl).trans c6))⟩) hS0 ?_
      simp only [Act.put, List.setIfInBounds_toArray, List.set_cons_zero, List.set_cons_succ]
      refine takeR (fuel := 13) (i := 11) (v := .slice (some ⟨blk, off, none⟩) xs.length cap) rfl (by kernel_rfl) (by kernel_rfl) (by kernel_rfl) (fun _ _ _ h => h) (Or.inl ⟨rfl, fun W hW => by go_simp⟩) hS0 ?_
      simp only [Act.put, List.setIfInBounds_toArray, List.set_cons_zero, List.set_cons_succ]
      refine takeR (fuel := 12) (i := 12) (v := .int .i64 k) rfl (by kernel_rfl) (by kernel_rfl) (by kernel_rfl) (fun _ _ _ h => h) (Or.inl ⟨rfl, fun W hW => by go_simp⟩) hS0 ?_
      simp only [Act.put, List.setIfInBounds_toArray, List.set_cons_zero, List.set_cons_succ]
      refine takeR (fuel := 11) (i := 13) (v := .pointer (some ⟨blk, off + k * 9, none⟩)) rfl (by kernel_rfl) (by kernel_rfl) (by kernel_rfl) (fun _ _ _ h => h) (Or.inl ⟨rfl, fun W hW => by go_simp⟩) hS0 ?_
      simp only [Act.put, List.setIfInBounds_toArray, List.set_cons_zero, List.set_cons_succ]
      refine takeR (fuel := 10) (i := 14) (v := .pointer (some ⟨blk, off + k * 9 + 7, none⟩)) rfl (by kernel_rfl) (by kernel_rfl) (by kernel_rfl) (fun _ _ _ h => h) (Or.inl ⟨rfl, fun W hW => by go_simp⟩) hS0 ?_
      simp only [Act.put, List.setIfInBounds_toArray, List.set_cons_zero, List.set_cons_succ]
      refine takeR (fuel := 9) (i := 15) (v := .int .i64 p) rfl (by kernel_rfl) (by kernel_rfl) (by kernel_rfl) (fun _ _ _ h => h) (Or.inl ⟨rfl, fun W hW => by have cj : W.cell? ⟨blk, off + k * 9 + 7, none⟩ = some (.int .i64 p) := ((hW.cell (p := ⟨blk, _, none⟩) hbl).trans c7); go_simp⟩) hS0 ?_
      simp only [Act.put, List.setIfInBounds_toArray, List.set_cons_zero, List.set_cons_succ]
      refine takeR (fuel := 8) (i := 16) (v := .slice (some ⟨blk, off, none⟩) xs.length cap) rfl (by kernel_rfl) (by kernel_rfl) (by kernel_rfl) (fun _ _ _ h => h) (Or.inl ⟨rfl, fun W hW => by go_simp⟩) hS0 ?_
      simp only [Act.put, List.setIfInBounds_toArray, List.set_cons_zero, List.set_cons_succ]
      refine takeR (fuel := 7) (i := 17) (v := .int .i64 k) rfl (by kernel_rfl) (by kernel_rfl) (by kernel_rfl) (fun _ _ _ h => h) (Or.inl ⟨rfl, fun W hW => by go_simp⟩) hS0 ?_
      simp only [Act.put, List.setIfInBounds_toArray, List.set_cons_zero, List.set_cons_succ]
      refine takeR (fuel := 6) (i := 18) (v := .pointer (some ⟨blk, off + k * 9, none⟩)) rfl (by kernel_rfl) (by kernel_rfl) (by kernel_rfl) (fun _ _ _ h => h) (Or.inl ⟨rfl, fun W hW => by go_simp⟩) hS0 ?_
      simp only [Act.put, List.setIfInBounds_toArray, List.set_cons_zero, List.set_cons_succ]
      refine takeR (fuel := 5) (i := 19) (v := .pointer (some ⟨blk, off + k * 9 + 8, none⟩)) rfl (by kernel_rfl) (by kernel_rfl) (by kernel_rfl) (fun _ _ _ h => h) (Or.inl ⟨rfl, fun W hW => by go_simp⟩) hS0 ?_
      simp only [Act.put, List.setIfInBounds_toArray, List.set_cons_zero, List.set_cons_succ]
      refine takeR (fuel := 4) (i := 20) (v := .int .i64 c) rfl (by kernel_rfl) (by kernel_rfl) (by kernel_rfl) (fun _ _ _ h => h) (Or.inl ⟨rfl, fun W hW => by have cj : W.cell? ⟨blk, off + k * 9 + 8, none⟩ = some (.int .i64 c) := ((hW.cell (p := ⟨blk, _, none⟩) hbl).trans c8); go_simp⟩) hS0 ?_
      simp only [Act.put, List.setIfInBounds_toArray, List.set_cons_zero, List.set_cons_succ]
      refine takeR (fuel := 3) (i := 21) (v := .agg #[.string l, .int .i64 q, .string ai, .int .i64 a1, .int .i64 a2, .int .i64 a3, .string ac, .int .i64 p, .int .i64 c]) rfl (by kernel_rfl) (by kernel_rfl) (by kernel_rfl) (fun _ _ _ h => h) (Or.inl ⟨rfl, fun W hW => by go_simp⟩) hS0 ?_
      simp only [Act.put, List.setIfInBounds_toArray, List.set_cons_zero, List.set_cons_succ]
      have hO2 : v0.ownsRow w.heap.size 55 9 u3 k (rcs its (xs.take k)) := own_below HR.out.1 hT0
      have hsz2 : w.heap.size ≤ v0.heap.size := hS0.size
      obtain ⟨v', w4, hr4, ho4, hg4⟩ := app_gen (T := 55) (Sl := 32) (k := 9) (bytes := 96) Tryz.underlying32 info48 rfl (by omega) [.string l, .int .i64 q, .string ai, .int .i64 a1, .int .i64 a2, .int .i64 a3, .string ac, .int .i64 p, .int .i64 c] rfl (its_one ⟨l, q, ⟨ai, a1, a2, a3, ac⟩, p, c⟩) hO2 hsz2 (by omega) (by unfold maxLen; omega)
      have hB4 : Below w.heap.size w w4 := ((hS0.alloc hsz2 _).grown hg4 (by simp; omega) (fun j hj => (hO2.lt j hj).1))
      have HO4 : Hid (w4.ownsRow w.heap.size 55 9 v' (k + 1) (rcs its (xs.take (k + 1))) ∧ Below w.heap.size w w4) := ⟨by rw [← HT.out]; exact ho4, hB4⟩
      refine consR (fuel := 2) (i := 22) rfl (by kernel_rfl) (fun K hK => ?_)
      rw [if_pos (by rfl)]
      go_simp
      refine hK.out _ _ (hS0.alloc hS0.size _) (fun hS3 => ?_)
      clear hK
      try simp only [Act.put, List.setIfInBounds_toArray, List.set_cons_zero, List.set_cons_succ]
      refine consR (fuel := 1) (i := 23) rfl (by kernel_rfl) (fun K hK => ?_)
      rw [if_pos (by rfl)]
      refine Lib.wp_append_run _ _ _ 32 32 rfl _ _ rfl rfl _ w4 hr4 ?_
      refine hK.out _ _ hB4 (fun hS4 => ?_)
      clear hK
      try simp only [Act.put, List.setIfInBounds_toArray, List.set_cons_zero, List.set_cons_succ]
      refine takeR (fuel := 0) (i := 24) (v := v') rfl (by kernel_rfl) (by kernel_rfl) (by kernel_rfl) (fun _ _ _ h => h) (Or.inl ⟨rfl, fun W hW => by go_simp⟩) hS4 ?_
      simp only [Act.put, List.setIfInBounds_toArray, List.set_cons_zero, List.set_cons_succ]
      refine wpAnyH_done (by kernel_rfl) ?_ _
      go_wp2_with fail
      go_roundw
      case rel => exact ⟨k + 1, by omega, by simp, HO4⟩
      case measure => simp [intOf]; omega
    · have hkz : ¬ (k : Int) < (xs.length : Int) := by omega
      have HF : Hid (ItP xs w (.returned u3) wr) := by
        have hr := HR.out
        have e : k = xs.length := by omega
        rw [e, List.take_length] at hr
        exact ⟨u3, rfl, hr.1, hr.2⟩
      go_wp2_with fail
      go_ret
      exact HF.out
def itot : Int → List It → Int × Int
  | s, [] => (s, 0)
  | s, x :: r => if N1.fitE (s + x.co) ≠ 0 then (0, N1.fitE (s + x.co)) else itot (s + x.co) r
theorem itot_nil (s : Int) (xs : List It) : itot s (xs.drop xs.length) = (s, 0) := by rw [List.drop_length]; rfl
theorem itot_over {s : Int} {xs : List It} {k : Nat} (hk : k < xs.length) (h2 : N1.fitE (s + xs[k].co) ≠ 0) : itot s (xs.drop k) = (0, N1.fitE (s + xs[k].co)) := by
  rw [List.drop_eq_getElem_cons hk, itot, if_pos h2]
theorem itot_next {s : Int} {xs : List It} {k : Nat} (hk : k < xs.length) (h2 : N1.fitE (s + xs[k].co) = 0) : itot s (xs.drop k) = itot (s + xs[k].co) (xs.drop (k + 1)) := by
  rw [List.drop_eq_getElem_cons hk, itot, if_neg (by simp [h2])]
theorem ifit_ok {n : Int} (h : N1.fitE n = 0) : N1.fitS n = n ∧ Rng n := by
  unfold N1.fitE at h
  unfold N1.fitS
  split at h
  · rename_i h1; exact ⟨if_pos h1, h1⟩
  · cases h
theorem It.co_rng (x : It) : 0 ≤ x.co ∧ x.co ≤ 4835703278458516698 := ⟨(_root_.Go.Proofs.YtdfadcbchiogjaaGreat.H5.co_rng x.q x.p x.c).1, (_root_.Go.Proofs.YtdfadcbchiogjaaGreat.H5.co_rng x.q x.p x.c).2.1⟩
theorem itot_rng : ∀ {xs : List It} {s : Int}, Rng s → Rng (itot s xs).1 ∧ ((itot s xs).2 = 0 ∨ (itot s xs).2 = 9 ∧ (itot s xs).1 = 0)
  | [], s, h => ⟨h, .inl rfl⟩
  | x :: r, s, h => by
    rw [itot]
    split
    · rename_i h1
      refine ⟨⟨by show (-9223372036854775808 : Int) ≤ 0; omega, by show (0 : Int) ≤ 9223372036854775807; omega⟩, .inr ⟨?_, rfl⟩⟩
      unfold N1.fitE at h1 ⊢
      split
      · rename_i h2; rw [if_pos h2] at h1; exact absurd rfl h1
      · rfl
    · rename_i h1
      exact itot_rng (ifit_ok (Decidable.of_not_not h1)).2
set_option maxHeartbeats 8000000 in
theorem xitotal (xs : List It) (hl : xs.length ≤ 1000000) (hcc : ∀ x ∈ xs, Rng x.c) (a : Option Addr) (cap : Nat) (w : World) (hp : Rw 9 its w a xs) : Calls Tryz.prog 25 #[.slice a xs.length cap] w (WoP (itot 0 xs).1 (itot 0 xs).2 w) := by
  have HP : Hid (Rw 9 its w a xs) := hp
  have HCC : Hid (∀ x ∈ xs, Rng x.c) := hcc
  have hlz : (xs.length : Int) ≤ 1000000 := by omega
  obtain ⟨T1, hT1⟩ : ∃ T, T = (itot 0 xs).1 := ⟨_, rfl⟩
  obtain ⟨T2, hT2⟩ : ∃ T, T = (itot 0 xs).2 := ⟨_, rfl⟩
  have HT : Hid (itot 0 xs = (T1, T2)) := by rw [hT1, hT2]; rfl
  rw [← hT1, ← hT2]
  clear hp hT1 hT2 hcc
  go_enter Tryz.func25, Tryz.ntmps25
  go_wp2_with fail
  go_loopw [4, 11] (fun t i wr => ∃ (k : Nat) (s : Int), k ≤ xs.length ∧ t = .int .i64 s ∧ i = .int .i64 k ∧ Hid (Rng s ∧ itot s (xs.drop k) = (T1, T2) ∧ Below w.heap.size w wr))
    (fun _ i _ => xs.length - (intOf i).toNat)
  case atStart => exact ⟨0, 0, Nat.zero_le _, rfl, rfl, by constructor <;> omega, HT.out, Below.refl _ _⟩
  case round =>
    obtain ⟨k, s, hk, rfl, rfl, HZ⟩ := hrel
    by_cases hkn : k < xs.length
    · have hkz : (k : Int) < (xs.length : Int) := by omega
      obtain ⟨blk, off, rfl, hbl, hcs⟩ := HP.out (by omega)
      have hc9 := hcs k hkn
      have HB : Hid (Below w.heap.size w wr) := HZ.out.2.2
      have hv := It.co_rng xs[k]
      have HT2 : Hid (N1.fitE (s + xs[k].co) ≠ 0 → (0, N1.fitE (s + xs[k].co)) = (T1, T2)) := fun e2 => (itot_over hkn e2).symm.trans HZ.out.2.1
      have HT3 : Hid (N1.fitE (s + xs[k].co) = 0 → itot (s + xs[k].co) (xs.drop (k + 1)) = (T1, T2)) := fun e2 => (itot_next hkn e2).symm.trans HZ.out.2.1
      have hs := HZ.out.1
      have HV : Hid (Calls Tryz.prog 16 #[.agg (its xs[k]).toArray] (wr.alloc (.cells (its xs[k]).toArray 55)) fun e w' => e = .returned (.int .i64 xs[k].co) ∧ Hid (Below w.heap.size w w')) := (xicov xs[k] (HCC.out _ (List.getElem_mem hkn)) _).mono fun e w' hh => ⟨hh.1, (HB.out.alloc HB.out.size _).trans (hh.2.mono (HB.out.alloc HB.out.size _).size)⟩
      generalize xs[k].co = S at *
      have HPl : Hid (∀ w, Calls Tryz.prog 45 #[.int .i64 s, .int .i64 S] w fun e w' => e = .returned (.tuple #[.int .i64 (N1.fitS (s + S)), .int .i64 (N1.fitE (s + S))]) ∧ w = w') := fun w => N1.xplus s S hs (by omega) w
      generalize xs[k] = x at *
      obtain ⟨l, q, ⟨ai, a1, a2, a3, ac⟩, p, c⟩ := x
      simp only [its] at *
      have c0 : wr.cell? ⟨blk, off + k * 9, none⟩ = some (.string l) := (HB.out.cell (p := ⟨blk, off + k * 9 + 0, none⟩) hbl).trans (hc9 0 (by omega))
      have c1 : wr.cell? ⟨blk, off + k * 9 + 1, none⟩ = some (.int .i64 q) := (HB.out.cell (p := ⟨blk, off + k * 9 + 1, none⟩) hbl).trans (hc9 1 (by omega))
      have c2 : wr.cell? ⟨blk, off + k * 9 + 2, none⟩ = some (.string ai) := (HB.out.cell (p := ⟨blk, off + k * 9 + 2, none⟩) hbl).trans (hc9 2 (by omega))
      have c3 : wr.cell? ⟨blk, off + k * 9 + 3, none⟩ = some (.int .i64 a1) := (HB.out.cell (p := ⟨blk, off + k * 9 + 3, none⟩) hbl).trans (hc9 3 (by omega))
      have c4 : wr.cell? ⟨blk, off + k * 9 + 4, none⟩ = some (.int .i64 a2) := (HB.out.cell (p := ⟨blk, off + k * 9 + 4, none⟩) hbl).trans (hc9 4 (by omega))
      have c5 : wr.cell? ⟨blk, off + k * 9 + 5, none⟩ = some (.int .i64 a3) := (HB.out.cell (p := ⟨blk, off + k * 9 + 5, none⟩) hbl).trans (hc9 5 (by omega))
      have c6 : wr.cell? ⟨blk, off + k * 9 + 6, none⟩ = some (.string ac) := (HB.out.cell (p := ⟨blk, off + k * 9 + 6, none⟩) hbl).trans (hc9 6 (by omega))
      have c7 : wr.cell? ⟨blk, off + k * 9 + 7, none⟩ = some (.int .i64 p) := (HB.out.cell (p := ⟨blk, off + k * 9 + 7, none⟩) hbl).trans (hc9 7 (by omega))
      have c8 : wr.cell? ⟨blk, off + k * 9 + 8, none⟩ = some (.int .i64 c) := (HB.out.cell (p := ⟨blk, off + k * 9 + 8, none⟩) hbl).trans (hc9 8 (by omega))
      by_cases hF : N1.fitE (s + S) = 0
      · have hFz : (N1.fitE (s + S) != 0) = false := by simp [hF]
        have HY : Hid (N1.fitS (s + S) = s + S ∧ Rng (s + S) ∧ itot (s + S) (xs.drop (k + 1)) = (T1, T2)) := ⟨(ifit_ok hF).1, (ifit_ok hF).2, HT3.out hF⟩
        generalize N1.fitE (s + S) = E at *
        generalize N1.fitS (s + S) = FS at *
        clear hF hs hv HT2 HT3 HZ hc9 hcs
        go_wp2_with (first | (go_at_call 16; refine HV.out.mono ?_; clear HV; rintro e w3 ⟨rfl, HB3⟩) | (go_at_call 45; refine (HPl.out _).mono ?_; clear HPl; rintro e w4 ⟨rfl, rfl⟩))
        go_roundw
        case rel => exact ⟨k + 1, s + S, by omega, by rw [HY.out.1], by simp, HY.out.2.1, HY.out.2.2, HB3.out⟩
        case measure => simp [intOf]; omega
      · have hFz : (N1.fitE (s + S) != 0) = true := by simp [hF]
        have HY : Hid ((0, N1.fitE (s + S)) = (T1, T2)) := HT2.out hF
        generalize N1.fitE (s + S) = E at *
        generalize N1.fitS (s + S) = FS at *
        clear hF hs hv HT2 HT3 HZ hc9 hcs
        go_wp2_with (first | (go_at_call 16; refine HV.out.mono ?_; clear HV; rintro e w3 ⟨rfl, HB3⟩) | (go_at_call 45; refine (HPl.out _).mono ?_; clear HPl; rintro e w4 ⟨rfl, rfl⟩))
        go_ret2
        have h9 := HY.out
        injection h9 with h9 h8
        rw [← h9, ← h8]
        exact ⟨rfl, HB3.out⟩
    · have hkz : ¬ (k : Int) < (xs.length : Int) := by omega
      have HF : Hid (WoP T1 T2 w (.returned (.tuple #[.int .i64 s, .int .i64 0])) wr) := by
        have hr := HZ.out
        rw [show k = xs.length by omega, itot_nil] at hr
        obtain ⟨_, h2, h3⟩ := hr
        injection h2 with h4 h5
        rw [← h4, ← h5]
        exact ⟨rfl, h3⟩
      clear HZ
      go_wp2_with fail
      go_ret2
      exact HF.out
set_option maxHeartbeats 8000000 in
theorem ritotal (xs : List It) (hl : xs.length ≤ 1000000) (hcc : ∀ x ∈ xs, Rng x.c) (a : Option Addr) (cap : Nat) (w : World) (hp : Rw 9 its w a xs) : Calls Tryz.prog 29 #[.slice a xs.length cap] w (WoP (itot 0 xs).1 (itot 0 xs).2 w) := by
  have HP : Hid (Rw 9 its w a xs) := hp
  have HCC : Hid (∀ x ∈ xs, Rng x.c) := hcc
  have hlz : (xs.length : Int) ≤ 1000000 := by omega
  obtain ⟨T1, hT1⟩ : ∃ T, T = (itot 0 xs).1 := ⟨_, rfl⟩
  obtain ⟨T2, hT2⟩ : ∃ T, T = (itot 0 xs).2 := ⟨_, rfl⟩
  have HT : Hid (itot 0 xs = (T1, T2)) := by rw [hT1, hT2]; rfl
  rw [← hT1, ← hT2]
  clear hp hT1 hT2 hcc
  go_enter Tryz.func29, Tryz.ntmps29
  go_wp2_with fail
  go_loopw [4, 5] (fun t i wr => ∃ (k : Nat) (s : Int), k ≤ xs.length ∧ t = .int .i64 s ∧ i = .int .i64 k ∧ Hid (Rng s ∧ itot s (xs.drop k) = (T1, T2) ∧ Below w.heap.size w wr))
    (fun _ i _ => xs.length - (intOf i).toNat)
  case atStart => exact ⟨0, 0, Nat.zero_le _, rfl, rfl, by constructor <;> omega, HT.out, Below.refl _ _⟩
  case round =>
    obtain ⟨k, s, hk, rfl, rfl, HZ⟩ := hrel
    by_cases hkn : k < xs.length
    · have hkz : (k : Int) < (xs.length : Int) := by omega
      obtain ⟨blk, off, rfl, hbl, hcs⟩ := HP.out (by omega)
      have hc9 := hcs k hkn
      have HB : Hid (Below w.heap.size w wr) := HZ.out.2.2
      have hv := It.co_rng xs[k]
      have HT2 : Hid (N1.fitE (s + xs[k].co) ≠ 0 → (0, N1.fitE (s + xs[k].co)) = (T1, T2)) := fun e2 => (itot_over hkn e2).symm.trans HZ.out.2.1
      have HT3 : Hid (N1.fitE (s + xs[k].co) = 0 → itot (s + xs[k].co) (xs.drop (k + 1)) = (T1, T2)) := fun e2 => (itot_next hkn e2).symm.trans HZ.out.2.1
      have hs := HZ.out.1
      have HV : Hid (Calls Tryz.prog 22 #[.agg (its xs[k]).toArray] wr fun e w' => e = .returned (.int .i64 xs[k].co) ∧ Hid (Below w.heap.size w w')) := (ricov xs[k] (HCC.out _ (List.getElem_mem hkn)) _).mono fun e w' hh => ⟨hh.1, HB.out.trans (hh.2.mono HB.out.size)⟩
      generalize xs[k].co = S at *
      have HPl : Hid (∀ w, Calls Tryz.prog 55 #[.int .i64 s, .int .i64 S] w fun e w' => e = .returned (.tuple #[.int .i64 (N1.fitS (s + S)), .int .i64 (N1.fitE (s + S))]) ∧ w = w') := fun w => N1.rplus s S hs (by omega) w
      generalize xs[k] = x at *
      obtain ⟨l, q, ⟨ai, a1, a2, a3, ac⟩, p, c⟩ := x
      simp only [its] at *
      have c0 : wr.cell? ⟨blk, off + k * 9, none⟩ = some (.string l) := (HB.out.cell (p := ⟨blk, off + k * 9 + 0, none⟩) hbl).trans (hc9 0 (by omega))
      have c1 : wr.cell? ⟨blk, off + k * 9 + 1, none⟩ = some (.int .i64 q) := (HB.out.cell (p := ⟨blk, off + k * 9 + 1, none⟩) hbl).trans (hc9 1 (by omega))
      have c2 : wr.cell? ⟨blk, off + k * 9 + 2, none⟩ = some (.string ai) := (HB.out.cell (p := ⟨blk, off + k * 9 + 2, none⟩) hbl).trans (hc9 2 (by omega))
      have c3 : wr.cell? ⟨blk, off + k * 9 + 3, none⟩ = some (.int .i64 a1) := (HB.out.cell (p := ⟨blk, off + k * 9 + 3, none⟩) hbl).trans (hc9 3 (by omega))
      have c4 : wr.cell? ⟨blk, off + k * 9 + 4, none⟩ = some (.int .i64 a2) := (HB.out.cell (p := ⟨blk, off + k * 9 + 4, none⟩) hbl).trans (hc9 4 (by omega))
      have c5 : wr.cell? ⟨blk, off + k * 9 + 5, none⟩ = some (.int .i64 a3) := (HB.out.cell (p := ⟨blk, off + k * 9 + 5, none⟩) hbl).trans (hc9 5 (by omega))
      have c6 : wr.cell? ⟨blk, off + k * 9 + 6, none⟩ = some (.string ac) := (HB.out.cell (p := ⟨blk, off + k * 9 + 6, none⟩) hbl).trans (hc9 6 (by omega))
      have c7 : wr.cell? ⟨blk, off + k * 9 + 7, none⟩ = some (.int .i64 p) := (HB.out.cell (p := ⟨blk, off + k * 9 + 7, none⟩) hbl).trans (hc9 7 (by omega))
      have c8 : wr.cell? ⟨blk, off + k * 9 + 8, none⟩ = some (.int .i64 c) := (HB.out.cell (p := ⟨blk, off + k * 9 + 8, none⟩) hbl).trans (hc9 8 (by omega))
      by_cases hF : N1.fitE (s + S) = 0
      · have hFz : (N1.fitE (s + S) != 0) = false := by simp [hF]
        have HY : Hid (N1.fitS (s + S) = s + S ∧ Rng (s + S) ∧ itot (s + S) (xs.drop (k + 1)) = (T1, T2)) := ⟨(ifit_ok hF).1, (ifit_ok hF).2, HT3.out hF⟩
        generalize N1.fitE (s + S) = E at *
        generalize N1.fitS (s + S) = FS at *
        clear hF hs hv HT2 HT3 HZ hc9 hcs
        go_wp2_with (first | (go_at_call 22; refine HV.out.mono ?_; clear HV; rintro e w3 ⟨rfl, HB3⟩) | (go_at_call 55; refine (HPl.out _).mono ?_; clear HPl; rintro e w4 ⟨rfl, rfl⟩))
        go_roundw
        case rel => exact ⟨k + 1, s + S, by omega, by rw [HY.out.1], by simp, HY.out.2.1, HY.out.2.2, HB3.out⟩
        case measure => simp [intOf]; omega
      · have hFz : (N1.fitE (s + S) != 0) = true := by simp [hF]
        have HY : Hid ((0, N1.fitE (s + S)) = (T1, T2)) := HT2.out hF
        generalize N1.fitE (s + S) = E at *
        generalize N1.fitS (s + S) = FS at *
        clear hF hs hv HT2 HT3 HZ hc9 hcs
        go_wp2_with (first | (go_at_call 22; refine HV.out.mono ?_; clear HV; rintro e w3 ⟨rfl, HB3⟩) | (go_at_call 55; refine (HPl.out _).mono ?_; clear HPl; rintro e w4 ⟨rfl, rfl⟩))
        go_ret2
        have h9 := HY.out
        injection h9 with h9 h8
        rw [← h9, ← h8]
        exact ⟨rfl, HB3.out⟩
    · have hkz : ¬ (k : Int) < (xs.length : Int) := by omega
      have HF : Hid (WoP T1 T2 w (.returned (.tuple #[.int .i64 s, .int .i64 0])) wr) := by
        have hr := HZ.out
        rw [show k = xs.length by omega, itot_nil] at hr
        obtain ⟨_, h2, h3⟩ := hr
        injection h2 with h4 h5
        rw [← h4, ← h5]
        exact ⟨rfl, h3⟩
      clear HZ
      go_wp2_with fail
      go_ret2
      exact HF.out
end Go.Proofs.YtdfadcbchiogjaaGreat.H5
