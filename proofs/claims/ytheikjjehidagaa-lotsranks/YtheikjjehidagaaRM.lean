/- layer 17: the law's items -/
import Derived.Test.YtheikjjehidagaaRI
import Derived.WalkKit
import Derived.ProofKit
import Derived.Handy
import Derived.WalkLawsBesides
import Derived.WalkSpells
import Derived.BigQuiet
import Derived.BigCall
import Derived.Deep.QuietTactic
import Derived.Deep.Light
import Derived.Deep.OwnRows
import Derived.Laws.AppendOwnNone
import Derived.Laws.Strings3
import Derived.Laws.RangeAny
import Derived.Deep.RegionWith
import Derived.Lib.BitFns
import Derived.Lib.Walk
import Derived.Lib.Strings
import Derived.Lib.OthersKept
import Derived.Deep.CutBlock
import Derived.Deep.DeepCutAuto
import Derived.Deep.LoopGhost
import Derived.Deep.RegionHeld3
import Derived.Lib.SmallJoins
import Derived.Maps.AppendAt
import Derived.Laws.IdiomStrings
import Derived.Lib.AppendZeros
import Derived.Deep.WholeRow
import Derived.Laws.BitsAllLaws
import Derived.Lib.ConvBytes
import Derived.Deep.RegionLaw
import Derived.Maps.OwnSet
import Derived.Maps.OwnOps
import Derived.Maps.RangeWalk
import Derived.Maps.Ext
import Derived.DeepKeys4
import Derived.Laws.StructEq
import Derived.Deep.MidRow
import Derived.Lib.Bytealg
import Derived.Lib.AppendZerosOnto
import Derived.Laws.MakeOwn
import Derived.Deep.Upon
import Derived.Sort.KeysCollected
import Derived.Shelf.SlSortCmp.KitK
namespace Go.Proofs.Ytheikjjehidagaa
open Go.RowKit
set_option linter.unusedVariables false
set_option linter.unusedSimpArgs false
open H5 (It its its_len its_one load46 load27)
set_option maxRecDepth 20000
def ItsP (xs : List It) (w : World) (e : Ending) (w' : World) : Prop := ∃ v, e = .returned v ∧ w'.ownsRow w.heap.size 47 9 v xs.length (rcs its xs) ∧ Below w.heap.size w w'
set_option maxHeartbeats 8000000 in
theorem xitems (xs : List It) (a : Option Addr) (cap : Nat) (w : World) (he : Rw 9 its w a xs) (hn : xs.length ≤ 1000000) : Calls Try.prog 26 #[.slice a xs.length cap] w (ItsP xs w) := by
  have HE : Hid (Rw 9 its w a xs) := he
  clear he
  go_enter Try.func26, Try.ntmps26
  go_wp2_with fail
  go_loopw [3, 4] (fun v i wr => ∃ k : Nat, k ≤ xs.length ∧ i = .int .i64 k ∧ Hid (wr.ownsRow w.heap.size 47 9 v k (rcs its (xs.take k)) ∧ Below w.heap.size w wr))
    (fun _ i _ => xs.length - (intOf i).toNat)
  case atStart => exact ⟨0, Nat.zero_le _, rfl, World.ownsRow_nil _ _ _ _, Below.refl _ _⟩
  case round =>
    obtain ⟨k, hk, rfl, HR⟩ := hrel
    by_cases hkn : k < xs.length
    · have hkz : (k : Int) < (xs.length : Int) := by omega
      obtain ⟨blk, off, rfl, hbl, hcs⟩ := HE.out (by omega)
      have hc9 := hcs k hkn
      have HT : Hid (rcs its (xs.take k) ++ its xs[k] = rcs its (xs.take (k + 1))) := rcs_take its xs hkn
      generalize xs[k] = x at *
      obtain ⟨l, q, ⟨ai, a1, a2, a3, ac⟩, p, c⟩ := x
      have c0 : w.cell? ⟨blk, off + k * 9, none⟩ = some (.string l) := hc9 0 (by omega)
      have c1 : w.cell? ⟨blk, off + k * 9 + 1, none⟩ = some (.int .i64 q) := hc9 1 (by omega)
      have c2 : w.cell? ⟨blk, off + k * 9 + 2, none⟩ = some (.string ai) := hc9 2 (by omega)
      have c3 : w.cell? ⟨blk, off + k * 9 + 3, none⟩ = some (.int .i64 a1) := hc9 3 (by omega)
      have c4 : w.cell? ⟨blk, off + k * 9 + 4, none⟩ = some (.int .i64 a2) := hc9 4 (by omega)
      have c5 : w.cell? ⟨blk, off + k * 9 + 5, none⟩ = some (.int .i64 a3) := hc9 5 (by omega)
      have c6 : w.cell? ⟨blk, off + k * 9 + 6, none⟩ = some (.string ac) := hc9 6 (by omega)
      have c7 : w.cell? ⟨blk, off + k * 9 + 7, none⟩ = some (.int .i64 p) := hc9 7 (by omega)
      have c8 : w.cell? ⟨blk, off + k * 9 + 8, none⟩ = some (.int .i64 c) := hc9 8 (by omega)
      clear hc9 hcs
      obtain ⟨N, hN⟩ : ∃ N, N = xs.length := ⟨_, rfl⟩
      have hkz' : (k : Int) < (N : Int) := by omega
      go_upto_region 5 with fail
      refine wp_region_held (S := fun W => Below w.heap.size w W) (by kernel_rfl) ?_
      change wpAnyH _ _ _ _ _ 25 #[false, false, false, false, false, false, false, false, false, false, false, false, false, false, false, false, false, false, false, false, false, false, false, false, false] _ wr.drew
      have hT0 : Below wr.heap.size wr wr.drew := ⟨rfl, rfl, rfl, Nat.le_refl _, fun _ _ => rfl⟩
      have hS0 : Below w.heap.size w wr.drew := HR.out.2.trans (hT0.mono HR.out.2.size)
      obtain ⟨v0, hv0⟩ : ∃ v, v = wr.drew := ⟨_, rfl⟩
      rw [← hv0] at hS0 hT0 ⊢
      clear hv0
      refine takeR (fuel := 24) (i := 0) (v := u3) rfl (by kernel_rfl) (by kernel_rfl) (by kernel_rfl) (fun _ _ _ h => h) (Or.inl ⟨rfl, fun W hW => by go_simp⟩) hS0 ?_
      simp only [Act.put, List.setIfInBounds_toArray, List.set_cons_zero, List.set_cons_succ]
      refine takeR (fuel := 23) (i := 1) (v := .slice (some ⟨blk, off, none⟩) xs.length cap) rfl (by kernel_rfl) (by kernel_rfl) (by kernel_rfl) (fun _ _ _ h => h) (Or.inl ⟨rfl, fun W hW => by go_simp⟩) hS0 ?_
      simp only [Act.put, List.setIfInBounds_toArray, List.set_cons_zero, List.set_cons_succ]
      refine takeR (fuel := 22) (i := 2) (v := .int .i64 k) rfl (by kernel_rfl) (by kernel_rfl) (by kernel_rfl) (fun _ _ _ h => h) (Or.inl ⟨rfl, fun W hW => by go_simp⟩) hS0 ?_
      simp only [Act.put, List.setIfInBounds_toArray, List.set_cons_zero, List.set_cons_succ]
      refine takeR (fuel := 21) (i := 3) (v := .pointer (some ⟨blk, off + k * 9, none⟩)) rfl (by kernel_rfl) (by kernel_rfl) (by kernel_rfl) (fun _ _ _ h => h) (Or.inl ⟨rfl, fun W hW => by go_simp⟩) hS0 ?_
      simp only [Act.put, List.setIfInBounds_toArray, List.set_cons_zero, List.set_cons_succ]
      refine takeR (fuel := 20) (i := 4) (v := .pointer (some ⟨blk, off + k * 9, none⟩)) rfl (by kernel_rfl) (by kernel_rfl) (by kernel_rfl) (fun _ _ _ h => h) (Or.inl ⟨rfl, fun W hW => by go_simp⟩) hS0 ?_
      simp only [Act.put, List.setIfInBounds_toArray, List.set_cons_zero, List.set_cons_succ]
      refine takeR (fuel := 19) (i := 5) (v := .agg #[.string l, .int .i64 q]) rfl (by kernel_rfl) (by kernel_rfl) (by kernel_rfl) (fun _ _ _ h => h) (Or.inl ⟨rfl, fun W hW => exl _ _ _ _ rfl (.pointer (some ⟨blk, off + k * 9, none⟩)) _ rfl (load46 W blk (off + k * 9) _ _ _ rfl ((hW.cell (p := ⟨blk, _, none⟩) hbl).trans c0) ((hW.cell (p := ⟨blk, _, none⟩) hbl).trans c1))⟩) hS0 ?_
      simp only [Act.put, List.setIfInBounds_toArray, List.set_cons_zero, List.set_cons_succ]
      refine takeR (fuel := 18) (i := 6) (v := .slice (some ⟨blk, off, none⟩) xs.length cap) rfl (by kernel_rfl) (by kernel_rfl) (by kernel_rfl) (fun _ _ _ h => h) (Or.inl ⟨rfl, fun W hW => by go_simp⟩) hS0 ?_
      simp only [Act.put, List.setIfInBounds_toArray, List.set_cons_zero, List.set_cons_succ]
      refine takeR (fuel := 17) (i := 7) (v := .int .i64 k) rfl (by kernel_rfl) (by kernel_rfl) (by kernel_rfl) (fun _ _ _ h => h) (Or.inl ⟨rfl, fun W hW => by go_simp⟩) hS0 ?_
      simp only [Act.put, List.setIfInBounds_toArray, List.set_cons_zero, List.set_cons_succ]
      refine takeR (fuel := 16) (i := 8) (v := .pointer (some ⟨blk, off + k * 9, none⟩)) rfl (by kernel_rfl) (by kernel_rfl) (by kernel_rfl) (fun _ _ _ h => h) (Or.inl ⟨rfl, fun W hW => by go_simp⟩) hS0 ?_
      simp only [Act.put, List.setIfInBounds_toArray, List.set_cons_zero, List.set_cons_succ]
      refine takeR (fuel := 15) (i := 9) (v := .pointer (some ⟨blk, off + k * 9 + 2, none⟩)) rfl (by kernel_rfl) (by kernel_rfl) (by kernel_rfl) (fun _ _ _ h => h) (Or.inl ⟨rfl, fun W hW => by go_simp⟩) hS0 ?_
      simp only [Act.put, List.setIfInBounds_toArray, List.set_cons_zero, List.set_cons_succ]
      refine takeR (fuel := 14) (i := 10) (v := .agg #[.string ai, .int .i64 a1, .int .i64 a2, .int .i64 a3, .string ac]) rfl (by kernel_rfl) (by kernel_rfl) (by kernel_rfl) (fun _ _ _ h => h) (Or.inl ⟨rfl, fun W hW => exl _ _ _ _ rfl (.pointer (some ⟨blk, off + k * 9 + 2, none⟩)) _ rfl (load27 W blk (off + k * 9 + 2) _ _ _ _ _ _ _ _ _ rfl rfl rfl rfl ((hW.cell (p := ⟨blk, _, none⟩) hbl).trans c2) ((hW.cell (p := ⟨blk, _, none⟩) hbl).trans c3) ((hW.cell (p := ⟨blk, _, none⟩) hbl).trans c4) ((hW.cell (p := ⟨blk, _, none⟩) hbl).trans c5) ((hW.cell (p := ⟨blk, _, none⟩) hbl).trans c6))⟩) hS0 ?_
      simp only [Act.put, List.setIfInBounds_toArray, List.set_cons_zero, List.set_cons_succ]
      refine takeR (fuel := 13) (i := 11) (v := .slice (some ⟨blk, off, none⟩) xs.length cap) rfl (by kernel_rfl) (by kernel_rfl) (by kernel_rfl) (fun _ _ _ h => h) (Or.inl ⟨rfl, fun W hW => by go_simp⟩) hS0 ?_
      simp only [Act.put, List.setIfInBounds_toArray, List.set_cons_zero, List.set_cons_succ]
      refine takeR (fuel := 12) (i := 12) (v := .int .i64 k) rfl (by kernel_rfl) (by kernel_rfl) (by kernel_rfl) (fun _ _ _ h => h) (Or.inl ⟨rfl, fun W hW => by go_simp⟩) hS0 ?_
      simp only [Act.put, List.setIfInBounds_toArray, List.set_cons_zero, List.set_cons_succ]
      refine takeR (fuel := 11) (i := 13) (v := .pointer (some ⟨blk, off + k * 9, none⟩)) rfl (by kernel_rfl) (by kernel_rfl) (by kernel_rfl) (fun _ _ _ h => h) (Or.inl ⟨rfl, fun W hW => by go_simp⟩) hS0 ?_
      simp only [Act.put, List.setIfInBounds_toArray, List.set_cons_zero, List.set_cons_succ]
      refine takeR (fuel := 10) (i := 14) (v := .pointer (some ⟨blk, off + k * 9 + 7, none⟩)) rfl (by kernel_rfl) (by kernel_rfl) (by kernel_rfl) (fun _ _ _ h => h) (Or.inl ⟨rfl, fun W hW => by go_simp⟩) hS0 ?_
      simp only [Act.put, List.setIfInBounds_toArray, List.set_cons_zero, List.set_cons_succ]
      refine takeR (fuel := 9) (i := 15) (v := .int .i64 p) rfl (by kernel_rfl) (by kernel_rfl) (by kernel_rfl) (fun _ _ _ h => h) (Or.inl ⟨rfl, fun W hW => by have cj : W.cell? ⟨blk, off + k * 9 + 7, none⟩ = some (.int .i64 p) := ((hW.cell (p := ⟨blk, _, none⟩) hbl).trans c7); go_simp⟩) hS0 ?_
      simp only [Act.put, List.setIfInBounds_toArray, List.set_cons_zero, List.set_cons_succ]
      refine takeR (fuel := 8) (i := 16) (v := .slice (some ⟨blk, off, none⟩) xs.length cap) rfl (by kernel_rfl) (by kernel_rfl) (by kernel_rfl) (fun _ _ _ h => h) (Or.inl ⟨rfl, fun W hW => by go_simp⟩) hS0 ?_
      simp only [Act.put, List.setIfInBounds_toArray, List.set_cons_zero, List.set_cons_succ]
      refine takeR (fuel := 7) (i := 17) (v := .int .i64 k) rfl (by kernel_rfl) (by kernel_rfl) (by kernel_rfl) (fun _ _ _ h => h) (Or.inl ⟨rfl, fun W hW => by go_simp⟩) hS0 ?_
      simp only [Act.put, List.setIfInBounds_toArray, List.set_cons_zero, List.set_cons_succ]
      refine takeR (fuel := 6) (i := 18) (v := .pointer (some ⟨blk, off + k * 9, none⟩)) rfl (by kernel_rfl) (by kernel_rfl) (by kernel_rfl) (fun _ _ _ h => h) (Or.inl ⟨rfl, fun W hW => by go_simp⟩) hS0 ?_
      simp only [Act.put, List.setIfInBounds_toArray, List.set_cons_zero, List.set_cons_succ]
      refine takeR (fuel := 5) (i := 19) (v := .pointer (some ⟨blk, off + k * 9 + 8, none⟩)) rfl (by kernel_rfl) (by kernel_rfl) (by kernel_rfl) (fun _ _ _ h => h) (Or.inl ⟨rfl, fun W hW => by go_simp⟩) hS0 ?_
      simp only [Act.put, List.setIfInBounds_toArray, List.set_cons_zero, List.set_cons_succ]
      refine takeR (fuel := 4) (i := 20) (v := .int .i64 c) rfl (by kernel_rfl) (by kernel_rfl) (by kernel_rfl) (fun _ _ _ h => h) (Or.inl ⟨rfl, fun W hW => by have cj : W.cell? ⟨blk, off + k * 9 + 8, none⟩ = some (.int .i64 c) := ((hW.cell (p := ⟨blk, _, none⟩) hbl).trans c8); go_simp⟩) hS0 ?_
      simp only [Act.put, List.setIfInBounds_toArray, List.set_cons_zero, List.set_cons_succ]
      refine takeR (fuel := 3) (i := 21) (v := .agg #[.string l, .int .i64 q, .string ai, .int .i64 a1, .int .i64 a2, .int .i64 a3, .string ac, .int .i64 p, .int .i64 c]) rfl (by kernel_rfl) (by kernel_rfl) (by kernel_rfl) (fun _ _ _ h => h) (Or.inl ⟨rfl, fun W hW => by go_simp⟩) hS0 ?_
      simp only [Act.put, List.setIfInBounds_toArray, List.set_cons_zero, List.set_cons_succ]
      have hO2 : v0.ownsRow w.heap.size 47 9 u3 k (rcs its (xs.take k)) := own_below HR.out.1 hT0
      have hsz2 : w.heap.size ≤ v0.heap.size := hS0.size
      obtain ⟨v', w4, hr4, ho4, hg4⟩ := app_gen (T := 47) (Sl := 50) (k := 9) (bytes := 96) Try.underlying50 info47 rfl (by omega) [.string l, .int .i64 q, .string ai, .int .i64 a1, .int .i64 a2, .int .i64 a3, .string ac, .int .i64 p, .int .i64 c] rfl (its_one ⟨l, q, ⟨ai, a1, a2, a3, ac⟩, p, c⟩) hO2 hsz2 (by omega) (by unfold maxLen; omega)
      have hB4 : Below w.heap.size w w4 := ((hS0.alloc hsz2 _).grown hg4 (by simp; omega) (fun j hj => (hO2.lt j hj).1))
      have HO4 : Hid (w4.ownsRow w.heap.size 47 9 v' (k + 1) (rcs its (xs.take (k + 1))) ∧ Below w.heap.size w w4) := ⟨by rw [← HT.out]; exact ho4, hB4⟩
      refine consR (fuel := 2) (i := 22) rfl (by kernel_rfl) (fun K hK => ?_)
      rw [if_pos (by rfl)]
      go_simp
      refine hK.out _ _ (hS0.alloc hS0.size _) (fun hS3 => ?_)
      clear hK
      try simp only [Act.put, List.setIfInBounds_toArray, List.set_cons_zero, List.set_cons_succ]
      refine consR (fuel := 1) (i := 23) rfl (by kernel_rfl) (fun K hK => ?_)
      rw [if_pos (by rfl)]
      refine Lib.wp_append_run _ _ _ 50 50 rfl _ _ rfl rfl _ w4 hr4 ?_
      refine hK.out _ _ hB4 (fun hS4 => ?_)
      clear hK
      try simp only [Act.put, List.setIfInBounds_toArray, List.set_cons_zero, List.set_cons_succ]
      refine takeR (fuel := 0) (i := 24) (v := v') rfl (by kernel_rfl) (by kernel_rfl) (by kernel_rfl) (fun _ _ _ h => h) (Or.inl ⟨rfl, fun W hW => by go_simp⟩) hS4 ?_
      simp only [Act.put, List.setIfInBounds_toArray, List.set_cons_zero, List.set_cons_succ]
      refine wpAnyH_done (by kernel_rfl) ?_ _
      go_wp2_with fail
      go_roundw
      case rel => exact ⟨k + 1, by omega, by simp, HO4⟩
      case measure => simp [intOf]; omega
    · have hkz : ¬ (k : Int) < (xs.length : Int) := by omega
      have HF : Hid (ItsP xs w (.returned u3) wr) := by
        have hr := HR.out
        have e : k = xs.length := by omega
        rw [e, List.take_length] at hr
        exact ⟨u3, rfl, hr.1, hr.2⟩
      go_wp2_with fail
      go_ret
      exact HF.out
end Go.Proofs.Ytheikjjehidagaa
