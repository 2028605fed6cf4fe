/- layer 12: the document's Shift, Trade, Bring -/
import Derived.Test.YtbfnfebmmhhegaaCI
import Derived.WalkKit
import Derived.ProofKit
import Derived.Handy
import Derived.WalkLawsBesides
import Derived.WalkSpells
import Derived.BigQuiet
import Derived.BigCall
import Derived.Deep.QuietTactic
import Derived.Deep.Light
import Derived.Deep.OwnRows
import Derived.Laws.AppendOwnNone
import Derived.Laws.Strings3
import Derived.Laws.RangeAny
import Derived.Deep.RegionWith
import Derived.Lib.BitFns
import Derived.Lib.Walk
import Derived.Lib.Strings
import Derived.Lib.OthersKept
import Derived.Deep.CutBlock
import Derived.Deep.DeepCutAuto
import Derived.Deep.LoopGhost
import Derived.Deep.RegionHeld3
import Derived.Lib.SmallJoins
import Derived.Maps.AppendAt
import Derived.Laws.IdiomStrings
import Derived.Lib.AppendZeros
import Derived.Deep.WholeRow
import Derived.Laws.BitsAllLaws
import Derived.Lib.ConvBytes
import Derived.Deep.RegionLaw
import Derived.Maps.OwnSet
import Derived.Maps.OwnOps
import Derived.Maps.RangeWalk
import Derived.Maps.Ext
import Derived.DeepKeys4
import Derived.Laws.StructEq
import Derived.Shelf.SlSortCmp.NoneTotal
import Derived.Deep.MidRow
import Derived.Laws.MakeOwn
namespace Go.Proofs.Ytbfnfebmmhhegaa
open Go.RowKit
set_option linter.unusedVariables false
set_option linter.unusedSimpArgs false
set_option maxRecDepth 20000
theorem rmp_tuple {L' : List Num.Bal} {n s : Int} {w w1 : World} {x : Ending} {w' : World} (hb : Below w.heap.size w w1) (h : RmP L' n s w1 x w') : ∃ v1 n1 s1, x = .returned (.tuple #[v1, .int .i64 n1, .int .i64 s1]) ∧ Hid (RmP L' n s w (.returned (.tuple #[v1, .int .i64 n1, .int .i64 s1])) w') := by
  obtain ⟨a', c', rfl, h1, h2, h3⟩ := h
  exact ⟨_, _, _, rfl, a', c', rfl, h1, h2, hb.trans (h3.mono hb.size)⟩
theorem lnp_rw' {xs : List Ln} {w : World} {v : Value} {w' : World} (h : w'.ownsRow w.heap.size 101 6 v xs.length (lcs xs)) : ∃ a cap, v = .slice a xs.length cap ∧ xs.length ≤ cap ∧ Ls w' a xs := own_rw Ln.len h rfl
set_option maxHeartbeats 8000000 in
theorem rshift (L : List Num.Bal) (g : Num.Good L) (hl : L.length ≤ 50000) (a : Option Addr) (cap : Nat) (hcap : L.length ≤ cap) (mem f t : Int) (xs : List Lot) (hx : xs.length ≤ 100) (ae : Option Addr) (ce : Nat) (w : World) (h : Bs w a L) (he : Lts w ae xs) :
    Calls Try.prog 38 #[.slice a L.length cap, .int .i64 mem, .int .i64 f, .int .i64 t, .slice ae xs.length ce] w (RmP (mvL L (xs.map (way mem f mem t))) (mvN L (xs.map (way mem f mem t))) (mvE L (xs.map (way mem f mem t))) w) := by
  have HE : Hid (Lts w ae xs) := he
  have hx' : (xs.length : Int) ≤ 100 := by omega
  have HFIN : Hid (∀ (v : Value) W, W.ownsRow w.heap.size 101 6 v xs.length (lcs (xs.map (way mem f mem t))) ∧ Below w.heap.size w W → Calls Try.prog 37 #[.slice a L.length cap, v] W fun e w2 => ∃ v1 n1 s1, e = .returned (.tuple #[v1, .int .i64 n1, .int .i64 s1]) ∧ Hid (RmP (mvL L (xs.map (way mem f mem t))) (mvN L (xs.map (way mem f mem t))) (mvE L (xs.map (way mem f mem t))) w (.returned (.tuple #[v1, .int .i64 n1, .int .i64 s1])) w2)) := fun v W hh => by
    have ho : W.ownsRow w.heap.size 101 6 v (xs.map (way mem f mem t)).length (lcs (xs.map (way mem f mem t))) := by rw [List.length_map]; exact hh.1
    obtain ⟨a1, k1, rfl, _, hls⟩ := lnp_rw' ho
    refine (rmv L g hl (xs.map (way mem f mem t)) (by simp; omega) a cap hcap a1 k1 W (h.below hh.2) hls).mono fun e w2 kk => ?_
    exact rmp_tuple hh.2 kk
  clear h he g hl hcap
  go_enter Try.func38, Try.ntmps38
  go_wp2_with fail
  go_loopw [13, 14] (fun v i9 wr => ∃ k : Nat, k ≤ xs.length ∧ i9 = .int .i64 k ∧ Hid (wr.ownsRow w.heap.size 101 6 v k (lcs ((xs.map (way mem f mem t)).take k)) ∧ Below w.heap.size w wr))
    (fun _ i9 _ => xs.length - (intOf i9).toNat)
  case atStart => exact ⟨0, Nat.zero_le _, rfl, World.ownsRow_nil _ _ _ _, Below.refl _ _⟩
  case round =>
    obtain ⟨k, hk, rfl, HR⟩ := hrel
    by_cases hkn : k < xs.length
    · have hkz : (k : Int) < (xs.length : Int) := by omega
      obtain ⟨blk, off, rfl, hbl, hcs⟩ := HE.out (by omega)
      have hc2 := hcs k hkn
      have HT : Hid (lcs ((xs.map (way mem f mem t)).take k) ++ (way mem f mem t xs[k]).cs.toList = lcs ((xs.map (way mem f mem t)).take (k + 1))) := by
        have h1 := rcs_take (fun x : Ln => x.cs.toList) (xs.map (way mem f mem t)) (k := k) (by simpa using hkn)
        rw [List.getElem_map] at h1
        exact h1
      generalize xs[k] = x at *
      obtain ⟨ls, lq⟩ := x
      have c0 : w.cell? ⟨blk, off + k * 2, none⟩ = some (.string ls) := hc2 0 (by omega)
      have c1 : w.cell? ⟨blk, off + k * 2 + 1, none⟩ = some (.int .i64 lq) := hc2 1 (by omega)
      clear hc2 hcs HFIN
      go_upto_region 5 with fail
      refine wp_region_held (S := fun W => Below w.heap.size w W) (by kernel_rfl) ?_
      change wpAnyH _ _ _ _ _ 19 #[false, false, false, false, false, false, false, false, false, false, false, false, false, false, false, false, false, false, false] _ wr.drew
      have hT0 : Below wr.heap.size wr wr.drew := ⟨rfl, rfl, rfl, Nat.le_refl _, fun _ _ => rfl⟩
      have hS0 : Below w.heap.size w wr.drew := HR.out.2.trans (hT0.mono HR.out.2.size)
      obtain ⟨v0, hv0⟩ : ∃ v, v = wr.drew := ⟨_, rfl⟩
      rw [← hv0] at hS0 hT0 ⊢
      clear hv0
      refine takeR (fuel := 18) (i := 0) (v := u13) rfl (by kernel_rfl) (by kernel_rfl) (by kernel_rfl) (fun _ _ _ h => h) (Or.inl ⟨rfl, fun W hW => by go_simp⟩) hS0 ?_
      simp only [Act.put, List.setIfInBounds_toArray, List.set_cons_zero, List.set_cons_succ]
      refine takeR (fuel := 17) (i := 1) (v := .int .i64 mem) rfl (by kernel_rfl) (by kernel_rfl) (by kernel_rfl) (fun _ _ _ h => h) (Or.inl ⟨rfl, fun W hW => by go_simp⟩) hS0 ?_
      simp only [Act.put, List.setIfInBounds_toArray, List.set_cons_zero, List.set_cons_succ]
      refine takeR (fuel := 16) (i := 2) (v := .int .i64 f) rfl (by kernel_rfl) (by kernel_rfl) (by kernel_rfl) (fun _ _ _ h => h) (Or.inl ⟨rfl, fun W hW => by go_simp⟩) hS0 ?_
      simp only [Act.put, List.setIfInBounds_toArray, List.set_cons_zero, List.set_cons_succ]
      refine takeR (fuel := 15) (i := 3) (v := .int .i64 mem) rfl (by kernel_rfl) (by kernel_rfl) (by kernel_rfl) (fun _ _ _ h => h) (Or.inl ⟨rfl, fun W hW => by go_simp⟩) hS0 ?_
      simp only [Act.put, List.setIfInBounds_toArray, List.set_cons_zero, List.set_cons_succ]
      refine takeR (fuel := 14) (i := 4) (v := .int .i64 t) rfl (by kernel_rfl) (by kernel_rfl) (by kernel_rfl) (fun _ _ _ h => h) (Or.inl ⟨rfl, fun W hW => by go_simp⟩) hS0 ?_
      simp only [Act.put, List.setIfInBounds_toArray, List.set_cons_zero, List.set_cons_succ]
      refine takeR (fuel := 13) (i := 5) (v := .slice (some ⟨blk, off, none⟩) xs.length ce) rfl (by kernel_rfl) (by kernel_rfl) (by kernel_rfl) (fun _ _ _ h => h) (Or.inl ⟨rfl, fun W hW => by go_simp⟩) hS0 ?_
      simp only [Act.put, List.setIfInBounds_toArray, List.set_cons_zero, List.set_cons_succ]
      refine takeR (fuel := 12) (i := 6) (v := .int .i64 k) rfl (by kernel_rfl) (by kernel_rfl) (by kernel_rfl) (fun _ _ _ h => h) (Or.inl ⟨rfl, fun W hW => by go_simp⟩) hS0 ?_
      simp only [Act.put, List.setIfInBounds_toArray, List.set_cons_zero, List.set_cons_succ]
      refine takeR (fuel := 11) (i := 7) (v := .pointer (some ⟨blk, off + k * 2, none⟩)) rfl (by kernel_rfl) (by kernel_rfl) (by kernel_rfl) (fun _ _ _ h => h) (Or.inl ⟨rfl, fun W hW => by go_simp⟩) hS0 ?_
      simp only [Act.put, List.setIfInBounds_toArray, List.set_cons_zero, List.set_cons_succ]
      refine takeR (fuel := 10) (i := 8) (v := .pointer (some ⟨blk, off + k * 2, none⟩)) rfl (by kernel_rfl) (by kernel_rfl) (by kernel_rfl) (fun _ _ _ h => h) (Or.inl ⟨rfl, fun W hW => by go_simp⟩) hS0 ?_
      simp only [Act.put, List.setIfInBounds_toArray, List.set_cons_zero, List.set_cons_succ]
      refine takeR (fuel := 9) (i := 9) (v := .string ls) rfl (by kernel_rfl) (by kernel_rfl) (by kernel_rfl) (fun _ _ _ h => h) (Or.inl ⟨rfl, fun W hW => by have cj : W.cell? ⟨blk, off + k * 2, none⟩ = some (.string ls) := (hW.cell (p := ⟨blk, _, none⟩) hbl).trans c0; go_simp⟩) hS0 ?_
      simp only [Act.put, List.setIfInBounds_toArray, List.set_cons_zero, List.set_cons_succ]
      refine takeR (fuel := 8) (i := 10) (v := .slice (some ⟨blk, off, none⟩) xs.length ce) rfl (by kernel_rfl) (by kernel_rfl) (by kernel_rfl) (fun _ _ _ h => h) (Or.inl ⟨rfl, fun W hW => by go_simp⟩) hS0 ?_
      simp only [Act.put, List.setIfInBounds_toArray, List.set_cons_zero, List.set_cons_succ]
      refine takeR (fuel := 7) (i := 11) (v := .int .i64 k) rfl (by kernel_rfl) (by kernel_rfl) (by kernel_rfl) (fun _ _ _ h => h) (Or.inl ⟨rfl, fun W hW => by go_simp⟩) hS0 ?_
      simp only [Act.put, List.setIfInBounds_toArray, List.set_cons_zero, List.set_cons_succ]
      refine takeR (fuel := 6) (i := 12) (v := .pointer (some ⟨blk, off + k * 2, none⟩)) rfl (by kernel_rfl) (by kernel_rfl) (by kernel_rfl) (fun _ _ _ h => h) (Or.inl ⟨rfl, fun W hW => by go_simp⟩) hS0 ?_
      simp only [Act.put, List.setIfInBounds_toArray, List.set_cons_zero, List.set_cons_succ]
      refine takeR (fuel := 5) (i := 13) (v := .pointer (some ⟨blk, off + k * 2 + 1, none⟩)) rfl (by kernel_rfl) (by kernel_rfl) (by kernel_rfl) (fun _ _ _ h => h) (Or.inl ⟨rfl, fun W hW => by go_simp⟩) hS0 ?_
      simp only [Act.put, List.setIfInBounds_toArray, List.set_cons_zero, List.set_cons_succ]
      refine takeR (fuel := 4) (i := 14) (v := .int .i64 lq) rfl (by kernel_rfl) (by kernel_rfl) (by kernel_rfl) (fun _ _ _ h => h) (Or.inl ⟨rfl, fun W hW => by have cj : W.cell? ⟨blk, off + k * 2 + 1, none⟩ = some (.int .i64 lq) := (hW.cell (p := ⟨blk, _, none⟩) hbl).trans c1; go_simp⟩) hS0 ?_
      simp only [Act.put, List.setIfInBounds_toArray, List.set_cons_zero, List.set_cons_succ]
      refine takeR (fuel := 3) (i := 15) (v := .agg #[.int .i64 mem, .int .i64 f, .int .i64 mem, .int .i64 t, .string ls, .int .i64 lq]) rfl (by kernel_rfl) (by kernel_rfl) (by kernel_rfl) (fun _ _ _ h => h) (Or.inl ⟨rfl, fun W hW => by go_simp⟩) hS0 ?_
      simp only [Act.put, List.setIfInBounds_toArray, List.set_cons_zero, List.set_cons_succ]
      have hO2 : v0.ownsRow w.heap.size 101 6 u13 k (lcs ((xs.map (way mem f mem t)).take k)) := own_below HR.out.1 hT0
      have hsz2 : w.heap.size ≤ v0.heap.size := hS0.size
      obtain ⟨v', w4, hr4, ho4, hg4⟩ := app_gen (T := 101) (Sl := 27) (k := 6) (bytes := 56) Try.underlying27 info101 rfl (by omega) [.int .i64 mem, .int .i64 f, .int .i64 mem, .int .i64 t, .string ls, .int .i64 lq] rfl (by intro u hu; simp at hu; rcases hu with rfl | rfl | rfl | rfl | rfl | rfl <;> rfl) hO2 hsz2 (by omega) (by unfold maxLen; omega)
      have hB4 : Below w.heap.size w w4 := ((hS0.alloc hsz2 _).grown hg4 (by simp; omega) (fun j hj => (hO2.lt j hj).1))
      have HO4 : Hid (w4.ownsRow w.heap.size 101 6 v' (k + 1) (lcs ((xs.map (way mem f mem t)).take (k + 1))) ∧ Below w.heap.size w w4) := ⟨by rw [← HT.out]; exact ho4, hB4⟩
      refine consR (fuel := 2) (i := 16) rfl (by kernel_rfl) (fun K hK => ?_)
      rw [if_pos (by rfl)]
      go_simp
      refine hK.out _ _ (hS0.alloc hS0.size _) (fun hS3 => ?_)
      clear hK
      try simp only [Act.put, List.setIfInBounds_toArray, List.set_cons_zero, List.set_cons_succ]
      refine consR (fuel := 1) (i := 17) rfl (by kernel_rfl) (fun K hK => ?_)
      rw [if_pos (by rfl)]
      refine Lib.wp_append_run _ _ _ 27 27 rfl _ _ rfl rfl _ w4 hr4 ?_
      refine hK.out _ _ hB4 (fun hS4 => ?_)
      clear hK
      try simp only [Act.put, List.setIfInBounds_toArray, List.set_cons_zero, List.set_cons_succ]
      refine takeR (fuel := 0) (i := 18) (v := v') rfl (by kernel_rfl) (by kernel_rfl) (by kernel_rfl) (fun _ _ _ h => h) (Or.inl ⟨rfl, fun W hW => by go_simp⟩) hS4 ?_
      simp only [Act.put, List.setIfInBounds_toArray, List.set_cons_zero, List.set_cons_succ]
      refine wpAnyH_done (by kernel_rfl) ?_ _
      go_wp2_with fail
      go_roundw
      case rel => exact ⟨k + 1, by omega, by simp, HO4⟩
      case measure => simp [intOf]; omega
    · have hkz : ¬ (k : Int) < (xs.length : Int) := by omega
      have HO : Hid (wr.ownsRow w.heap.size 101 6 u13 xs.length (lcs (xs.map (way mem f mem t))) ∧ Below w.heap.size w wr) := by
        have hr := HR.out
        have e : k = (xs.map (way mem f mem t)).length := by simp; omega
        rw [e, List.take_length, List.length_map] at hr
        exact hr
      have HZ := HFIN.out _ wr HO.out
      have HZ' : Hid (Calls Try.prog 37 #[.slice a L.length cap, u13] wr fun e w2 => ∃ v1 n1 s1, e = .returned (.tuple #[v1, .int .i64 n1, .int .i64 s1]) ∧ Hid (RmP (mvL L (xs.map (way mem f mem t))) (mvN L (xs.map (way mem f mem t))) (mvE L (xs.map (way mem f mem t))) w (.returned (.tuple #[v1, .int .i64 n1, .int .i64 s1])) w2)) := HZ
      clear HZ HFIN HO HR HE
      go_wp2_with (go_at_call 37; refine HZ'.out.mono ?_; rintro e w5 ⟨v1, n1, s1, rfl, HF⟩)
      go_returns
      exact HF.out
set_option maxHeartbeats 8000000 in
theorem rtrade (L : List Num.Bal) (g : Num.Good L) (hl : L.length ≤ 50000) (a : Option Addr) (cap : Nat) (hcap : L.length ≤ cap) (sel buy : Int) (cur : ByteArray) (cash : Int) (xs : List Lot) (hx : xs.length ≤ 100) (ae : Option Addr) (ce : Nat) (w : World) (h : Bs w a L) (he : Lts w ae xs) :
    Calls Try.prog 39 #[.slice a L.length cap, .int .i64 sel, .int .i64 buy, .slice ae xs.length ce, .string cur, .int .i64 cash] w (RmP (mvL L (trl sel buy xs cur cash)) (mvN L (trl sel buy xs cur cash)) (mvE L (trl sel buy xs cur cash)) w) := by
  have HE : Hid (Lts w ae xs) := he
  have hx' : (xs.length : Int) ≤ 100 := by omega
  have HFIN : Hid (∀ (v : Value) W, W.ownsRow w.heap.size 101 6 v xs.length (lcs (xs.map (way sel 1 buy 1))) ∧ Below w.heap.size w W → ∃ v' w3, (Builtin.append_ #[27, 27] 27 #[v, .slice (some ⟨W.heap.size, 0, none⟩) 1 1]).run Try.prog (W.alloc (.cells #[.int .i64 buy, .int .i64 1, .int .i64 sel, .int .i64 1, .string cur, .int .i64 cash] 101)) = .ok v' w3 ∧ Hid (Calls Try.prog 37 #[.slice a L.length cap, v'] w3 fun e w2 => ∃ v1 n1 s1, e = .returned (.tuple #[v1, .int .i64 n1, .int .i64 s1]) ∧ Hid (RmP (mvL L (trl sel buy xs cur cash)) (mvN L (trl sel buy xs cur cash)) (mvE L (trl sel buy xs cur cash)) w (.returned (.tuple #[v1, .int .i64 n1, .int .i64 s1])) w2))) := fun v W hh => by
    obtain ⟨v', w3, hr3, ho3, hg3⟩ := app_gen (T := 101) (Sl := 27) (k := 6) (bytes := 56) Try.underlying27 info101 rfl (by omega) [.int .i64 buy, .int .i64 1, .int .i64 sel, .int .i64 1, .string cur, .int .i64 cash] rfl (by intro u hu; simp at hu; rcases hu with rfl | rfl | rfl | rfl | rfl | rfl <;> rfl) hh.1 hh.2.size (by omega) (by unfold maxLen; omega)
    have hB3 : Below w.heap.size w w3 := (hh.2.alloc hh.2.size _).grown hg3 (by have := hh.2.size; simp; omega) (fun j hj => (hh.1.lt j hj).1)
    have ho4 : w3.ownsRow w.heap.size 101 6 v' (trl sel buy xs cur cash).length (lcs (trl sel buy xs cur cash)) := by
      unfold trl lcs
      rw [rcs_snoc, List.length_append, List.length_map]
      exact ho3
    obtain ⟨a1, k1, rfl, _, hls⟩ := lnp_rw' ho4
    refine ⟨_, w3, hr3, (rmv L g hl (trl sel buy xs cur cash) (by unfold trl; simp; omega) a cap hcap a1 k1 w3 (h.below hB3) hls).mono fun e w2 kk => ?_⟩
    exact rmp_tuple hB3 kk
  clear h he g hl hcap
  go_enter Try.func39, Try.ntmps39
  go_wp2_with fail
  go_loopw [15, 16] (fun v i9 wr => ∃ k : Nat, k ≤ xs.length ∧ i9 = .int .i64 k ∧ Hid (wr.ownsRow w.heap.size 101 6 v k (lcs ((xs.map (way sel 1 buy 1)).take k)) ∧ Below w.heap.size w wr))
    (fun _ i9 _ => xs.length - (intOf i9).toNat)
  case atStart => exact ⟨0, Nat.zero_le _, rfl, World.ownsRow_nil _ _ _ _, Below.refl _ _⟩
  case round =>
    obtain ⟨k, hk, rfl, HR⟩ := hrel
    by_cases hkn : k < xs.length
    · have hkz : (k : Int) < (xs.length : Int) := by omega
      obtain ⟨blk, off, rfl, hbl, hcs⟩ := HE.out (by omega)
      have hc2 := hcs k hkn
      have HT : Hid (lcs ((xs.map (way sel 1 buy 1)).take k) ++ (way sel 1 buy 1 xs[k]).cs.toList = lcs ((xs.map (way sel 1 buy 1)).take (k + 1))) := by
        have h1 := rcs_take (fun x : Ln => x.cs.toList) (xs.map (way sel 1 buy 1)) (k := k) (by simpa using hkn)
        rw [List.getElem_map] at h1
        exact h1
      generalize xs[k] = x at *
      obtain ⟨ls, lq⟩ := x
      have c0 : w.cell? ⟨blk, off + k * 2, none⟩ = some (.string ls) := hc2 0 (by omega)
      have c1 : w.cell? ⟨blk, off + k * 2 + 1, none⟩ = some (.int .i64 lq) := hc2 1 (by omega)
      clear hc2 hcs HFIN
      go_upto_region 5 with fail
      refine wp_region_held (S := fun W => Below w.heap.size w W) (by kernel_rfl) ?_
      change wpAnyH _ _ _ _ _ 17 #[false, false, false, false, false, false, false, false, false, false, false, false, false, false, false, false, false] _ wr.drew
      have hT0 : Below wr.heap.size wr wr.drew := ⟨rfl, rfl, rfl, Nat.le_refl _, fun _ _ => rfl⟩
      have hS0 : Below w.heap.size w wr.drew := HR.out.2.trans (hT0.mono HR.out.2.size)
      obtain ⟨v0, hv0⟩ : ∃ v, v = wr.drew := ⟨_, rfl⟩
      rw [← hv0] at hS0 hT0 ⊢
      clear hv0
      refine takeR (fuel := 16) (i := 0) (v := u15) rfl (by kernel_rfl) (by kernel_rfl) (by kernel_rfl) (fun _ _ _ h => h) (Or.inl ⟨rfl, fun W hW => by go_simp⟩) hS0 ?_
      simp only [Act.put, List.setIfInBounds_toArray, List.set_cons_zero, List.set_cons_succ]
      refine takeR (fuel := 15) (i := 1) (v := .int .i64 sel) rfl (by kernel_rfl) (by kernel_rfl) (by kernel_rfl) (fun _ _ _ h => h) (Or.inl ⟨rfl, fun W hW => by go_simp⟩) hS0 ?_
      simp only [Act.put, List.setIfInBounds_toArray, List.set_cons_zero, List.set_cons_succ]
      refine takeR (fuel := 14) (i := 2) (v := .int .i64 buy) rfl (by kernel_rfl) (by kernel_rfl) (by kernel_rfl) (fun _ _ _ h => h) (Or.inl ⟨rfl, fun W hW => by go_simp⟩) hS0 ?_
      simp only [Act.put, List.setIfInBounds_toArray, List.set_cons_zero, List.set_cons_succ]
      refine takeR (fuel := 13) (i := 3) (v := .slice (some ⟨blk, off, none⟩) xs.length ce) rfl (by kernel_rfl) (by kernel_rfl) (by kernel_rfl) (fun _ _ _ h => h) (Or.inl ⟨rfl, fun W hW => by go_simp⟩) hS0 ?_
      simp only [Act.put, List.setIfInBounds_toArray, List.set_cons_zero, List.set_cons_succ]
      refine takeR (fuel := 12) (i := 4) (v := .int .i64 k) rfl (by kernel_rfl) (by kernel_rfl) (by kernel_rfl) (fun _ _ _ h => h) (Or.inl ⟨rfl, fun W hW => by go_simp⟩) hS0 ?_
      simp only [Act.put, List.setIfInBounds_toArray, List.set_cons_zero, List.set_cons_succ]
      refine takeR (fuel := 11) (i := 5) (v := .pointer (some ⟨blk, off + k * 2, none⟩)) rfl (by kernel_rfl) (by kernel_rfl) (by kernel_rfl) (fun _ _ _ h => h) (Or.inl ⟨rfl, fun W hW => by go_simp⟩) hS0 ?_
      simp only [Act.put, List.setIfInBounds_toArray, List.set_cons_zero, List.set_cons_succ]
      refine takeR (fuel := 10) (i := 6) (v := .pointer (some ⟨blk, off + k * 2, none⟩)) rfl (by kernel_rfl) (by kernel_rfl) (by kernel_rfl) (fun _ _ _ h => h) (Or.inl ⟨rfl, fun W hW => by go_simp⟩) hS0 ?_
      simp only [Act.put, List.setIfInBounds_toArray, List.set_cons_zero, List.set_cons_succ]
      refine takeR (fuel := 9) (i := 7) (v := .string ls) rfl (by kernel_rfl) (by kernel_rfl) (by kernel_rfl) (fun _ _ _ h => h) (Or.inl ⟨rfl, fun W hW => by have cj : W.cell? ⟨blk, off + k * 2, none⟩ = some (.string ls) := (hW.cell (p := ⟨blk, _, none⟩) hbl).trans c0; go_simp⟩) hS0 ?_
      simp only [Act.put, List.setIfInBounds_toArray, List.set_cons_zero, List.set_cons_succ]
      refine takeR (fuel := 8) (i := 8) (v := .slice (some ⟨blk, off, none⟩) xs.length ce) rfl (by kernel_rfl) (by kernel_rfl) (by kernel_rfl) (fun _ _ _ h => h) (Or.inl ⟨rfl, fun W hW => by go_simp⟩) hS0 ?_
      simp only [Act.put, List.setIfInBounds_toArray, List.set_cons_zero, List.set_cons_succ]
      refine takeR (fuel := 7) (i := 9) (v := .int .i64 k) rfl (by kernel_rfl) (by kernel_rfl) (by kernel_rfl) (fun _ _ _ h => h) (Or.inl ⟨rfl, fun W hW => by go_simp⟩) hS0 ?_
      simp only [Act.put, List.setIfInBounds_toArray, List.set_cons_zero, List.set_cons_succ]
      refine takeR (fuel := 6) (i := 10) (v := .pointer (some ⟨blk, off + k * 2, none⟩)) rfl (by kernel_rfl) (by kernel_rfl) (by kernel_rfl) (fun _ _ _ h => h) (Or.inl ⟨rfl, fun W hW => by go_simp⟩) hS0 ?_
      simp only [Act.put, List.setIfInBounds_toArray, List.set_cons_zero, List.set_cons_succ]
      refine takeR (fuel := 5) (i := 11) (v := .pointer (some ⟨blk, off + k * 2 + 1, none⟩)) rfl (by kernel_rfl) (by kernel_rfl) (by kernel_rfl) (fun _ _ _ h => h) (Or.inl ⟨rfl, fun W hW => by go_simp⟩) hS0 ?_
      simp only [Act.put, List.setIfInBounds_toArray, List.set_cons_zero, List.set_cons_succ]
      refine takeR (fuel := 4) (i := 12) (v := .int .i64 lq) rfl (by kernel_rfl) (by kernel_rfl) (by kernel_rfl) (fun _ _ _ h => h) (Or.inl ⟨rfl, fun W hW => by have cj : W.cell? ⟨blk, off + k * 2 + 1, none⟩ = some (.int .i64 lq) := (hW.cell (p := ⟨blk, _, none⟩) hbl).trans c1; go_simp⟩) hS0 ?_
      simp only [Act.put, List.setIfInBounds_toArray, List.set_cons_zero, List.set_cons_succ]
      refine takeR (fuel := 3) (i := 13) (v := .agg #[.int .i64 sel, .int .i64 1, .int .i64 buy, .int .i64 1, .string ls, .int .i64 lq]) rfl (by kernel_rfl) (by kernel_rfl) (by kernel_rfl) (fun _ _ _ h => h) (Or.inl ⟨rfl, fun W hW => by go_simp⟩) hS0 ?_
      simp only [Act.put, List.setIfInBounds_toArray, List.set_cons_zero, List.set_cons_succ]
      have hO2 : v0.ownsRow w.heap.size 101 6 u15 k (lcs ((xs.map (way sel 1 buy 1)).take k)) := own_below HR.out.1 hT0
      have hsz2 : w.heap.size ≤ v0.heap.size := hS0.size
      obtain ⟨v', w4, hr4, ho4, hg4⟩ := app_gen (T := 101) (Sl := 27) (k := 6) (bytes := 56) Try.underlying27 info101 rfl (by omega) [.int .i64 sel, .int .i64 1, .int .i64 buy, .int .i64 1, .string ls, .int .i64 lq] rfl (by intro u hu; simp at hu; rcases hu with rfl | rfl | rfl | rfl | rfl | rfl <;> rfl) hO2 hsz2 (by omega) (by unfold maxLen; omega)
      have hB4 : Below w.heap.size w w4 := ((hS0.alloc hsz2 _).grown hg4 (by simp; omega) (fun j hj => (hO2.lt j hj).1))
      have HO4 : Hid (w4.ownsRow w.heap.size 101 6 v' (k + 1) (lcs ((xs.map (way sel 1 buy 1)).take (k + 1))) ∧ Below w.heap.size w w4) := ⟨by rw [← HT.out]; exact ho4, hB4⟩
      refine consR (fuel := 2) (i := 14) rfl (by kernel_rfl) (fun K hK => ?_)
      rw [if_pos (by rfl)]
      go_simp
      refine hK.out _ _ (hS0.alloc hS0.size _) (fun hS3 => ?_)
      clear hK
      try simp only [Act.put, List.setIfInBounds_toArray, List.set_cons_zero, List.set_cons_succ]
      refine consR (fuel := 1) (i := 15) rfl (by kernel_rfl) (fun K hK => ?_)
      rw [if_pos (by rfl)]
      refine Lib.wp_append_run _ _ _ 27 27 rfl _ _ rfl rfl _ w4 hr4 ?_
      refine hK.out _ _ hB4 (fun hS4 => ?_)
      clear hK
      try simp only [Act.put, List.setIfInBounds_toArray, List.set_cons_zero, List.set_cons_succ]
      refine takeR (fuel := 0) (i := 16) (v := v') rfl (by kernel_rfl) (by kernel_rfl) (by kernel_rfl) (fun _ _ _ h => h) (Or.inl ⟨rfl, fun W hW => by go_simp⟩) hS4 ?_
      simp only [Act.put, List.setIfInBounds_toArray, List.set_cons_zero, List.set_cons_succ]
      refine wpAnyH_done (by kernel_rfl) ?_ _
      go_wp2_with fail
      go_roundw
      case rel => exact ⟨k + 1, by omega, by simp, HO4⟩
      case measure => simp [intOf]; omega
    · have hkz : ¬ (k : Int) < (xs.length : Int) := by omega
      have HO : Hid (wr.ownsRow w.heap.size 101 6 u15 xs.length (lcs (xs.map (way sel 1 buy 1))) ∧ Below w.heap.size w wr) := by
        have hr := HR.out
        have e : k = (xs.map (way sel 1 buy 1)).length := by simp; omega
        rw [e, List.take_length, List.length_map] at hr
        exact hr
      obtain ⟨v3, w3, hr3, HZ⟩ := HFIN.out _ wr HO.out
      clear HFIN HO HR HE
      go_wp2_with (first | (at_builtin; refine Lib.wpList_append_run _ rfl _ _ 27 27 rfl _ _ rfl rfl _ w3 hr3 ?_) | (go_at_call 37; refine HZ.out.mono ?_; rintro e w5 ⟨v1, n1, s1, rfl, HF⟩))
      go_returns
      exact HF.out
end Go.Proofs.Ytbfnfebmmhhegaa
