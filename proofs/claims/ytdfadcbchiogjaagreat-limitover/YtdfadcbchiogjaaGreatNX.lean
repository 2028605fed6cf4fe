/- layer 16: the document's with -/
import Derived.Test.YtdfadcbchiogjaaGreatNW
import Derived.WalkKit
import Derived.ProofKit
import Derived.Handy
import Derived.WalkLawsBesides
import Derived.WalkSpells
import Derived.BigQuiet
import Derived.BigCall
import Derived.Deep.QuietTactic
import Derived.Deep.Light
import Derived.Deep.OwnRows
import Derived.Laws.AppendOwnNone
import Derived.Laws.Strings3
import Derived.Laws.RangeAny
import Derived.Deep.RegionWith
import Derived.Lib.BitFns
import Derived.Lib.Walk
import Derived.Lib.Strings
import Derived.Lib.OthersKept
import Derived.Deep.CutBlock
import Derived.Deep.DeepCutAuto
import Derived.Deep.LoopGhost
import Derived.Deep.RegionHeld3
import Derived.Lib.SmallJoins
import Derived.Maps.AppendAt
import Derived.Laws.IdiomStrings
import Derived.Lib.AppendZeros
import Derived.Deep.WholeRow
import Derived.Laws.BitsAllLaws
import Derived.Lib.ConvBytes
import Derived.Deep.RegionLaw
import Derived.Maps.OwnSet
import Derived.Maps.OwnOps
import Derived.Maps.RangeWalk
import Derived.Maps.Ext
import Derived.DeepKeys4
import Derived.Laws.StructEq
import Derived.Deep.MidRow
import Derived.Lib.Bytealg
import Derived.Lib.AppendZerosOnto
import Derived.Laws.MakeOwn
import Derived.Deep.Upon
import Derived.Sort.KeysCollected
namespace Go.Proofs.YtdfadcbchiogjaaGreat
open Go.RowKit
set_option linter.unusedVariables false
set_option linter.unusedSimpArgs false
set_option maxRecDepth 20000
theorem grown_of_b {a b : World} {r : Option Nat} (h : Below a.heap.size a b) : a.grownBy b r := ⟨h.os, h.tape, h.output, h.size, fun k hk _ => h.block k hk⟩
set_option maxRecDepth 20000
def WiP (c1 c2 c3 : Int) (L : List Pt) (w : World) (e : Ending) (w' : World) : Prop := ∃ v', e = .returned (.agg #[.int .i64 c1, .int .i64 c2, .int .i64 c3, v']) ∧ Hid (Lo w' v' L ∧ Below w.heap.size w w')
theorem pcs_of (iss : Int) (i : ByteArray) (c : Int) : pcs ⟨iss, i.data.toList, c⟩ = [.int .i64 iss, .string i, .int .i64 c] := by
  unfold pcs
  simp
/-- a list under way: the world, the empty list, all of the old, the new one -/
structure Wg (w1 z : World) (v : Value) (L : List Pt) (q : Pt) (n0 : Option Nat) (v1 : Option Value) (n1 : Option Nat) : Prop where
  b : Below w1.heap.size w1 z
  e : ∀ n, n0 = some n → z.ownsRow w1.heap.size 100 3 (.slice (some ⟨n, 0, none⟩) 0 0) 0 []
  a : ∀ u, v1 = some u → z.ownsRow w1.heap.size 100 3 u L.length (rcs pcs L)
  p : ∀ n, n1 = some n → Bx z n (pcs q).toArray 100
  d : ∀ n m, n0 = some n → n1 = some m → n ≠ m
  f : ∀ u m, v1 = some u → n1 = some m → u.ownBlock ≠ some m
theorem Wg.empty {w1 z : World} {v : Value} {L : List Pt} {q : Pt} {n1 : Option Nat} (h : Wg w1 z v L q none none n1) : Wg w1 (z.alloc (.cells #[] 100)) v L q (some z.heap.size) none n1 := by
  refine ⟨h.b.alloc h.b.size _, fun n e => ?_, fun u e => (by cases e), fun n e => (h.p n e).below (below_a _ _) (h.p n e).lt, fun n m e e2 => ?_, fun u m e => (by cases e)⟩
  · cases e
    exact own_of (Bx.new z [].toArray 100) h.b.size rfl (Nat.zero_le _)
  · cases e
    have := (h.p m e2).lt
    omega
theorem Wg.part {w1 z : World} {v : Value} {L : List Pt} {q : Pt} {n0 : Option Nat} {v1 : Option Value} (h : Wg w1 z v L q n0 v1 none) : Wg w1 (z.alloc (.cells (pcs q).toArray 100)) v L q n0 v1 (some z.heap.size) := by
  refine ⟨h.b.alloc h.b.size _, fun n e => (h.e n e).alloc _, fun u e => (h.a u e).alloc _, fun n e => ?_, fun n m e e2 => ?_, fun u m e e2 => ?_⟩
  · cases e
    exact Bx.new z _ _
  · cases e2
    have h2 := (h.e n e).2
    rcases h2 with ⟨h3, _⟩ | ⟨g, cap, cur, h3, _, h4, _⟩
    · cases h3
    · injection h3 with h5 _ _
      injection h5 with h5
      injection h5 with h6 _ _
      subst h6
      have := (Array.getElem?_eq_some_iff.1 h4).1
      omega
  · cases e2
    intro k
    rcases (h.a u e).2 with ⟨rfl, _⟩ | ⟨g, cap, cur, rfl, _, h4, _⟩
    · cases k
    · have := (Array.getElem?_eq_some_iff.1 h4).1
      simp [Value.ownBlock] at k
      omega
theorem Wg.all {w1 z : World} {v : Value} {L : List Pt} {q : Pt} {n : Nat} {n1 : Option Nat} (h : Wg w1 z v L q (some n) none n1) (h0 : Lo w1 v L) (hl : L.length ≤ 100000) :
    ∃ u z', (Builtin.append_ #[63, 63] 63 #[.slice (some ⟨n, 0, none⟩) 0 0, v]).run Tryz.prog z = .ok u z' ∧ Wg w1 z' v L q none (some u) n1 := by
  obtain ⟨u, z', hr, ho, hg, hob⟩ := app_rows (T := 100) (Sl := 63) (k := 3) (bytes := 32) Tryz.underlying63 info70 rfl (by omega) (h.e n rfl) (h0.below h.b) (rcs_one pcs_one L) h.b.size (by unfold maxLen; omega) (by omega)
  rw [Nat.zero_add, List.nil_append] at ho
  refine ⟨u, z', hr, h.b.grown hg h.b.size (fun j hj => ((h.e n rfl).lt j hj).1), fun m e => (by cases e), fun u2 e => (by cases e; exact ho), fun m e => ?_, fun m m2 e => (by cases e), fun u2 m e e2 k => ?_⟩
  · refine (h.p m e).kept hg (fun k => h.d n m rfl e ?_)
    simp [Value.ownBlock] at k
    exact k.symm
  · cases e
    have h1 := (h.p m e2).lt
    have h2 := h.d n m rfl e2
    rcases hob with k2 | k2
    · rw [k2] at k
      simp [Value.ownBlock] at k
      exact h2 k
    · rw [k2] at k
      injection k with k
      omega
theorem Wg.fin {w1 z : World} {v u : Value} {L : List Pt} {q : Pt} {n : Nat} (h : Wg w1 z v L q none (some u) (some n)) (hl : L.length ≤ 100000) :
    ∃ v' z', (Builtin.append_ #[63, 63] 63 #[u, .slice (some ⟨n, 0, none⟩) 1 1]).run Tryz.prog z = .ok v' z' ∧ Below w1.heap.size w1 z' ∧ z'.ownsRow w1.heap.size 100 3 v' (L ++ [q]).length (rcs pcs (L ++ [q])) := by
  have hp : z.ownsRow 0 100 3 (.slice (some ⟨n, 0, none⟩) 1 1) 1 (pcs q) := own_of (h.p n rfl) (Nat.zero_le _) rfl (by unfold maxLen; omega)
  obtain ⟨v', z', hr, ho, hg, _⟩ := app_rows (T := 100) (Sl := 63) (k := 3) (bytes := 32) Tryz.underlying63 info70 rfl (by omega) (h.a u rfl) hp (pcs_one q) h.b.size (by unfold maxLen; omega) (by omega)
  refine ⟨v', z', hr, h.b.grown hg h.b.size (fun j hj => ((h.a u rfl).lt j hj).1), ?_⟩
  rw [rcs_snoc, List.length_append]
  exact ho
set_option maxHeartbeats 16000000 in
theorem rwith {w : World} {v : Value} {L : List Pt} (h : Lo w v L) (hl : L.length ≤ 100000) (a : As) (c c1 c2 c3 : Int) : Calls Tryz.prog 23 #[.agg #[.int .i64 c1, .int .i64 c2, .int .i64 c3, v], .agg (acs a).toArray, .int .i64 c] w (WiP c1 c2 c3 (L ++ [(⟨a.iss, a.i.data.toList, c⟩ : Pt)]) w) := by
  obtain ⟨sa, sc, rfl, -⟩ := h.read
  obtain ⟨w1, hw1⟩ : ∃ w1, ((w.alloc (.cells #[.int .i64 c1, .int .i64 c2, .int .i64 c3, .slice sa L.length sc] 65)).alloc (.cells (acs a).toArray 48)).alloc (.cells #[.int .i64 0, .int .i64 0, .int .i64 0, .slice none 0 0] 65) = w1 := ⟨_, rfl⟩
  have hB : Below w.heap.size w w1 := by rw [← hw1]; exact ((below_a w _).alloc (by simp) _).alloc (by simp; omega) _
  have hX : Bx w1 w.heap.size #[.int .i64 c1, .int .i64 c2, .int .i64 c3, .slice sa L.length sc] 65 := by rw [← hw1]; exact ((Bx.new w _ _).below (below_a _ _) (by simp)).below (below_a _ _) (by simp; omega)
  have hY : Bx w1 (w.heap.size + 1) (acs a).toArray 48 := by rw [← hw1]; have := Bx.new (w.alloc (.cells #[.int .i64 c1, .int .i64 c2, .int .i64 c3, .slice sa L.length sc] 65)) (acs a).toArray 48; rw [World.size_alloc] at this; exact this.below (below_a _ _) (by simp)
  have hZ : Bx w1 (w.heap.size + 2) #[.int .i64 0, .int .i64 0, .int .i64 0, .slice none 0 0] 65 := by rw [← hw1]; have := Bx.new ((w.alloc (.cells #[.int .i64 c1, .int .i64 c2, .int .i64 c3, .slice sa L.length sc] 65)).alloc (.cells (acs a).toArray 48)) #[.int .i64 0, .int .i64 0, .int .i64 0, .slice none 0 0] 65; rw [World.size_alloc, World.size_alloc] at this; exact this
  have h1 : Lo w1 (.slice sa L.length sc) L := h.below hB
  have HL1 : Hid (Lo w1 (.slice sa L.length sc) L) := h1
  have HG : Hid (∀ W, w1.grownBy W (some w.heap.size) → W.cell? ⟨w.heap.size + 1, 0, none⟩ = some (.string a.i) ∧ W.cell? ⟨w.heap.size + 1, 1, none⟩ = some (.int .i64 a.iss)) := fun W hg => by
    have k2 := hY.kept hg (by simp)
    exact ⟨k2.cell 0, k2.cell 1⟩
  have HQ : Hid (∀ W, Below w1.heap.size w1 W → W.cell? ⟨w.heap.size, 3, none⟩ = some (.slice sa L.length sc) ∧ W.frozen? ⟨w.heap.size, 3, none⟩ = false) := fun W hb => by
    have k1 := hX.below hb hX.lt
    exact ⟨k1.cell 3, k1.froz 3⟩
  have HE : Hid (∀ W v', Below w1.heap.size w1 W → W.ownsRow w1.heap.size 100 3 v' (L ++ [(⟨a.iss, a.i.data.toList, c⟩ : Pt)]).length (rcs pcs (L ++ [(⟨a.iss, a.i.data.toList, c⟩ : Pt)])) →
      Hid (Bx (W.setCell ⟨w.heap.size, 3, none⟩ v') w.heap.size #[.int .i64 c1, .int .i64 c2, .int .i64 c3, v'] 65 ∧ Bx (W.setCell ⟨w.heap.size, 3, none⟩ v') (w.heap.size + 2) #[.int .i64 0, .int .i64 0, .int .i64 0, .slice none 0 0] 65 ∧
      Below w.heap.size w (W.setCell ⟨w.heap.size, 3, none⟩ v') ∧ (W.setCell ⟨w.heap.size, 3, none⟩ v').ownsRow w1.heap.size 100 3 v' (L ++ [(⟨a.iss, a.i.data.toList, c⟩ : Pt)]).length (rcs pcs (L ++ [(⟨a.iss, a.i.data.toList, c⟩ : Pt)]))) ∧
      w1.grownBy (W.setCell ⟨w.heap.size, 3, none⟩ v') (some w.heap.size)) := fun W v' hb ho => by
    have k1 := hX.below hb hX.lt
    have k3 := hZ.below hb hZ.lt
    refine ⟨⟨?_, k3.oset (by omega) 3 v', (hB.trans (hb.mono hB.size)).setCell (p := ⟨w.heap.size, 3, none⟩) (Nat.le_refl _) v', ownsRow_setCell_below ho (by have := hX.lt; simpa using this) v'⟩, ?_⟩
    · have := k1.setc 3 v'
      simpa using this
    · exact grown_trans (c := W.setCell ⟨w.heap.size, 3, none⟩ v') ⟨hb.os, hb.tape, hb.output, hb.size, fun k hk _ => hb.block k hk⟩ (grown_set W w.heap.size 3 v')
  have HPC : Hid ((pcs ⟨a.iss, a.i.data.toList, c⟩).toArray = #[.int .i64 a.iss, .string a.i, .int .i64 c]) := by unfold Hid; rw [pcs_of]
  have U0 : Hid (Wg w1 w1.drew (.slice sa L.length sc) L ⟨a.iss, a.i.data.toList, c⟩ none none none) := ⟨below_drew1 w1, fun n e => (by cases e), fun n e => (by cases e), fun n e => (by cases e), fun n m e => (by cases e), fun n m e => (by cases e)⟩
  have HLT : Hid (w.heap.size + 1 + 1 < w1.heap.size) := hZ.lt
  obtain ⟨i, iss, rat, mat, cc⟩ := a
  simp only [acs] at *
  generalize hqq : (⟨iss, i.data.toList, c⟩ : Pt) = q at *
  obtain ⟨M, hM⟩ : ∃ M : List Pt, L ++ [q] = M := ⟨_, rfl⟩
  rw [hM] at HE
  rw [hM]
  have HM : Hid (L ++ [q] = M) := hM
  clear hqq h h1 hX hY hZ hM
  go_enter Tryz.func23, Tryz.ntmps23
  go_upto_region 1 with fail
  go_cut [] (fun wx => ∃ v', Hid (Bx wx w.heap.size #[.int .i64 c1, .int .i64 c2, .int .i64 c3, v'] 65 ∧ Bx wx (w.heap.size + 2) #[.int .i64 0, .int .i64 0, .int .i64 0, .slice none 0 0] 65 ∧ Below w.heap.size w wx ∧ wx.ownsRow w1.heap.size 100 3 v' M.length (rcs pcs M)))
  case rest =>
    obtain ⟨v', HW⟩ := hcut
    obtain ⟨ya, yc, rfl, -⟩ := own_read HW.out.2.2.2 HW.out.2.2.2.1
    have e0 : wc.cell? ⟨w.heap.size, 0, none⟩ = some (.int .i64 c1) := HW.out.1.cell 0
    have e1 : wc.cell? ⟨w.heap.size, 1, none⟩ = some (.int .i64 c2) := HW.out.1.cell 1
    have e2 : wc.cell? ⟨w.heap.size, 2, none⟩ = some (.int .i64 c3) := HW.out.1.cell 2
    have e3 : wc.cell? ⟨w.heap.size, 3, none⟩ = some (.slice ya M.length yc) := HW.out.1.cell 3
    have f0 : wc.cell? ⟨w.heap.size + 1 + 1, 0, none⟩ = some (.int .i64 0) := HW.out.2.1.cell 0
    have f1 : wc.cell? ⟨w.heap.size + 1 + 1, 1, none⟩ = some (.int .i64 0) := HW.out.2.1.cell 1
    have f2 : wc.cell? ⟨w.heap.size + 1 + 1, 2, none⟩ = some (.int .i64 0) := HW.out.2.1.cell 2
    have f3 : wc.cell? ⟨w.heap.size + 1 + 1, 3, none⟩ = some (.slice none 0 0) := HW.out.2.1.cell 3
    have p0 : wc.frozen? ⟨w.heap.size + 1 + 1, 0, none⟩ = false := HW.out.2.1.froz 0
    have p1 : wc.frozen? ⟨w.heap.size + 1 + 1, 1, none⟩ = false := HW.out.2.1.froz 1
    have p2 : wc.frozen? ⟨w.heap.size + 1 + 1, 2, none⟩ = false := HW.out.2.1.froz 2
    have p3 : wc.frozen? ⟨w.heap.size + 1 + 1, 3, none⟩ = false := HW.out.2.1.froz 3
    have HX : Hid (Bx wc (w.heap.size + 1 + 1) #[.int .i64 0, .int .i64 0, .int .i64 0, .slice none 0 0] 65) := HW.out.2.1
    clear HM
    go_wp2_with fail
    have hfin : ∀ W4, W4 = (((wc.setCell ⟨w.heap.size + 1 + 1, 0, none⟩ (.int .i64 c1)).setCell ⟨w.heap.size + 1 + 1, 1, none⟩ (.int .i64 c2)).setCell ⟨w.heap.size + 1 + 1, 2, none⟩ (.int .i64 c3)).setCell ⟨w.heap.size + 1 + 1, 3, none⟩ (.slice ya M.length yc) →
        Bx W4 (w.heap.size + 1 + 1) #[.int .i64 c1, .int .i64 c2, .int .i64 c3, .slice ya M.length yc] 65 ∧ WiP c1 c2 c3 M w (.returned (.agg #[.int .i64 c1, .int .i64 c2, .int .i64 c3, .slice ya M.length yc])) W4 := fun W4 e4 => by
      have k4 := (((HX.out.setc 0 (.int .i64 c1)).setc 1 (.int .i64 c2)).setc 2 (.int .i64 c3)).setc 3 (.slice ya M.length yc)
      rw [← e4] at k4
      refine ⟨by simpa using k4, _, rfl, ?_, ?_⟩
      · rw [e4]
        have lt := HLT.out
        exact own_mono (ownsRow_setCell_below (ownsRow_setCell_below (ownsRow_setCell_below (ownsRow_setCell_below HW.out.2.2.2 lt _) lt _) lt _) lt _) (Nat.zero_le _)
      · rw [e4]
        have le : w.heap.size ≤ w.heap.size + 1 + 1 := by omega
        exact (((HW.out.2.2.1.setCell (p := ⟨w.heap.size + 1 + 1, 0, none⟩) le _).setCell (p := ⟨w.heap.size + 1 + 1, 1, none⟩) le _).setCell (p := ⟨w.heap.size + 1 + 1, 2, none⟩) le _).setCell (p := ⟨w.heap.size + 1 + 1, 3, none⟩) le _
    generalize hW4 : (((wc.setCell ⟨w.heap.size + 1 + 1, 0, none⟩ (.int .i64 c1)).setCell ⟨w.heap.size + 1 + 1, 1, none⟩ (.int .i64 c2)).setCell ⟨w.heap.size + 1 + 1, 2, none⟩ (.int .i64 c3)).setCell ⟨w.heap.size + 1 + 1, 3, none⟩ (.slice ya M.length yc) = W4 at *
    obtain ⟨k4, kf⟩ := hfin W4 rfl
    have r0 : W4.cell? ⟨w.heap.size + 1 + 1, 0, none⟩ = some (.int .i64 c1) := k4.cell 0
    have r1 : W4.cell? ⟨w.heap.size + 1 + 1, 1, none⟩ = some (.int .i64 c2) := k4.cell 1
    have r2 : W4.cell? ⟨w.heap.size + 1 + 1, 2, none⟩ = some (.int .i64 c3) := k4.cell 2
    have r3 : W4.cell? ⟨w.heap.size + 1 + 1, 3, none⟩ = some (.slice ya M.length yc) := k4.cell 3
    have hlv : (loadVar 65 ⟨w.heap.size + 1 + 1, 0, none⟩).run Tryz.prog W4 = .ok (.agg #[.int .i64 c1, .int .i64 c2, .int .i64 c3, .slice ya M.length yc]) W4 := by go_simp
    refine bodyPost_ret (res_cell _ _ 6 65 ⟨w.heap.size + 1 + 1, 0, none⟩ _ W4 rfl rfl hlv) rfl ?_
    exact kf
  refine wp_region_held (S := fun W => w1.grownBy W (some w.heap.size)) (by kernel_rfl) ?_
  change wpAnyH _ _ _ _ _ 14 #[false, false, false, false, false, false, false, false, false, false, false, false, false, false] _ w1.drew
  have hS0 : w1.grownBy w1.drew (some w.heap.size) := grown_drew _ _
  generalize w1.drew = z0 at *
  refine takeR (fuel := 13) (i := 1) (v := .pointer (some ⟨w.heap.size, 3, none⟩)) rfl (by kernel_rfl) (by kernel_rfl) (by kernel_rfl) (fun _ _ _ h => h) (Or.inl ⟨rfl, fun W hW => by go_simp⟩) hS0 ?_
  simp only [Act.put, List.setIfInBounds_toArray, List.set_cons_zero, List.set_cons_succ]
  refine takeR (fuel := 12) (i := 4) (v := .pointer (some ⟨w.heap.size + 1, 1, none⟩)) rfl (by kernel_rfl) (by kernel_rfl) (by kernel_rfl) (fun _ _ _ h => h) (Or.inl ⟨rfl, fun W hW => by go_simp⟩) hS0 ?_
  simp only [Act.put, List.setIfInBounds_toArray, List.set_cons_zero, List.set_cons_succ]
  refine takeR (fuel := 11) (i := 5) (v := .int .i64 iss) rfl (by kernel_rfl) (by kernel_rfl) (by kernel_rfl) (fun _ _ _ h => h) (Or.inl ⟨rfl, fun W hW => by have c := (HG.out W hW).2; go_simp⟩) hS0 ?_
  simp only [Act.put, List.setIfInBounds_toArray, List.set_cons_zero, List.set_cons_succ]
  refine takeR (fuel := 10) (i := 6) (v := .pointer (some ⟨w.heap.size + 1, 0, none⟩)) rfl (by kernel_rfl) (by kernel_rfl) (by kernel_rfl) (fun _ _ _ h => h) (Or.inl ⟨rfl, fun W hW => by go_simp⟩) hS0 ?_
  simp only [Act.put, List.setIfInBounds_toArray, List.set_cons_zero, List.set_cons_succ]
  refine takeR (fuel := 9) (i := 7) (v := .string i) rfl (by kernel_rfl) (by kernel_rfl) (by kernel_rfl) (fun _ _ _ h => h) (Or.inl ⟨rfl, fun W hW => by have c := (HG.out W hW).1; go_simp⟩) hS0 ?_
  simp only [Act.put, List.setIfInBounds_toArray, List.set_cons_zero, List.set_cons_succ]
  refine takeR (fuel := 8) (i := 8) (v := .int .i64 c) rfl (by kernel_rfl) (by kernel_rfl) (by kernel_rfl) (fun _ _ _ h => h) (Or.inl ⟨rfl, fun W hW => by go_simp⟩) hS0 ?_
  simp only [Act.put, List.setIfInBounds_toArray, List.set_cons_zero, List.set_cons_succ]
  refine takeR (fuel := 7) (i := 9) (v := .agg #[.int .i64 iss, .string i, .int .i64 c]) rfl (by kernel_rfl) (by kernel_rfl) (by kernel_rfl) (fun _ _ _ h => h) (Or.inl ⟨rfl, fun W hW => by go_simp⟩) hS0 ?_
  simp only [Act.put, List.setIfInBounds_toArray, List.set_cons_zero, List.set_cons_succ]
  refine consR3 (fuel := 6) (i := 0) (j := 2) (k := 10) rfl rfl rfl (by kernel_rfl) (fun K hK => ?_) (fun K hK => ?_) (fun K hK => ?_)
  · rw [if_pos (by rfl)]
    go_simp
    have V1 := U0.out.empty
    refine hK.out _ _ (grown_of_b V1.b) (fun hS1 => ?_)
    clear hK
    obtain ⟨n1, hn1⟩ : ∃ n, n = z0.heap.size := ⟨_, rfl⟩
    obtain ⟨z1, hz1⟩ : ∃ z, z = z0.alloc (.cells #[] 100) := ⟨_, rfl⟩
    try simp only [Act.put, List.setIfInBounds_toArray, List.set_cons_zero, List.set_cons_succ]
    rw [← hn1, ← hz1] at V1
    rw [← hz1] at hS1
    rw [← hn1, ← hz1]
    replace V1 := hid_in V1
    clear hn1 hz1
    refine consR2 (fuel := 5) (i := 2) (j := 10) rfl rfl (by kernel_rfl) (fun K hK => ?_) (fun K hK => ?_)
    · rw [if_pos (by rfl)]
      have q2 := (HQ.out _ V1.out.b).1
      go_simp
      refine hK.out _ _ hS1 (fun hS2 => ?_)
      clear hK
      try simp only [Act.put, List.setIfInBounds_toArray, List.set_cons_zero, List.set_cons_succ]
      refine consR2 (fuel := 4) (i := 3) (j := 10) rfl rfl (by kernel_rfl) (fun K hK => ?_) (fun K hK => ?_)
      · rw [if_pos (by rfl)]
        obtain ⟨v3, z3, hr3, V3⟩ := V1.out.all HL1.out hl
        refine Lib.wp_append_run _ _ _ 63 63 rfl _ _ rfl rfl _ z3 hr3 ?_
        refine hK.out _ _ (grown_of_b V3.b) (fun hS3 => ?_)
        clear hK
        try simp only [Act.put, List.setIfInBounds_toArray, List.set_cons_zero, List.set_cons_succ]
        replace V3 := hid_in V3
        clear hr3
        refine consR (fuel := 3) (i := 10) rfl (by kernel_rfl) (fun K hK => ?_)
        rw [if_pos (by rfl)]
        go_simp
        have V4 := V3.out.part
        rw [HPC.out] at V4
        refine hK.out _ _ (grown_of_b V4.b) (fun hS4 => ?_)
        clear hK
        obtain ⟨n4, hn4⟩ : ∃ n, n = z3.heap.size := ⟨_, rfl⟩
        obtain ⟨z4, hz4⟩ : ∃ z, z = z3.alloc (.cells #[.int .i64 iss, .string i, .int .i64 c] 100) := ⟨_, rfl⟩
        try simp only [Act.put, List.setIfInBounds_toArray, List.set_cons_zero, List.set_cons_succ]
        rw [← hn4, ← hz4] at V4
        rw [← hz4] at hS4
        rw [← hn4, ← hz4]
        replace V4 := hid_in V4
        clear hn4 hz4
        refine consR (fuel := 2) (i := 11) rfl (by kernel_rfl) (fun K hK => ?_)
        rw [if_pos (by rfl)]
        obtain ⟨v5, z5, hr5, hb5, ho5⟩ := V4.out.fin hl
        rw [HM.out] at ho5
        obtain ⟨ya5, yc5, rfl, -⟩ := own_read ho5 ho5.1
        refine Lib.wp_append_run _ _ _ 63 63 rfl _ _ rfl rfl _ z5 hr5 ?_
        refine hK.out _ _ (grown_of_b hb5) (fun hS5 => ?_)
        clear hK
        try simp only [Act.put, List.setIfInBounds_toArray, List.set_cons_zero, List.set_cons_succ]
        refine takeR (fuel := 1) (i := 12) (v := .pointer (some ⟨w.heap.size, 3, none⟩)) rfl (by kernel_rfl) (by kernel_rfl) (by kernel_rfl) (fun _ _ _ h => h) (Or.inl ⟨rfl, fun W hW => by go_simp⟩) hS5 ?_
        simp only [Act.put, List.setIfInBounds_toArray, List.set_cons_zero, List.set_cons_succ]
        have HB5 := hid_in hb5
        have HO5 := hid_in ho5
        refine consR (fuel := 0) (i := 13) rfl (by kernel_rfl) (fun K hK => ?_)
        rw [if_pos (by rfl)]
        obtain ⟨q5, p5⟩ := HQ.out _ HB5.out
        obtain ⟨e5, g5⟩ := HE.out _ _ HB5.out HO5.out
        go_simp
        refine hK.out _ _ g5 (fun hS => ?_)
        clear hK
        try simp only [Act.put, List.setIfInBounds_toArray, List.set_cons_zero, List.set_cons_succ]
        refine wpAnyH_done (by kernel_rfl) ?_ _
        go_wp2_with fail
        go_meet
        exact ⟨_, e5⟩
      · rw [if_pos (by rfl)]
        go_simp
        have V6 := V1.out.part
        rw [HPC.out] at V6
        refine hK.out _ _ (grown_of_b V6.b) (fun hS6 => ?_)
        clear hK
        obtain ⟨n6, hn6⟩ : ∃ n, n = z1.heap.size := ⟨_, rfl⟩
        obtain ⟨z6, hz6⟩ : ∃ z, z = z1.alloc (.cells #[.int .i64 iss, .string i, .int .i64 c] 100) := ⟨_, rfl⟩
        try simp only [Act.put, List.setIfInBounds_toArray, List.set_cons_zero, List.set_cons_succ]
        rw [← hn6, ← hz6] at V6
        rw [← hz6] at hS6
        rw [← hn6, ← hz6]
        replace V6 := hid_in V6
        clear hn6 hz6
        refine consR (fuel := 3) (i := 3) rfl (by kernel_rfl) (fun K hK => ?_)
        rw [if_pos (by rfl)]
        obtain ⟨v7, z7, hr7, V7⟩ := V6.out.all HL1.out hl
        refine Lib.wp_append_run _ _ _ 63 63 rfl _ _ rfl rfl _ z7 hr7 ?_
        refine hK.out _ _ (grown_of_b V7.b) (fun hS7 => ?_)
        clear hK
        try simp only [Act.put, List.setIfInBounds_toArray, List.set_cons_zero, List.set_cons_succ]
        replace V7 := hid_in V7
        clear hr7
        refine consR (fuel := 2) (i := 11) rfl (by kernel_rfl) (fun K hK => ?_)
        rw [if_pos (by rfl)]
        obtain ⟨v8, z8, hr8, hb8, ho8⟩ := V7.out.fin hl
        rw [HM.out] at ho8
        obtain ⟨ya8, yc8, rfl, -⟩ := own_read ho8 ho8.1
        refine Lib.wp_append_run _ _ _ 63 63 rfl _ _ rfl rfl _ z8 hr8 ?_
        refine hK.out _ _ (grown_of_b hb8) (fun hS8 => ?_)
        clear hK
        try simp only [Act.put, List.setIfInBounds_toArray, List.set_cons_zero, List.set_cons_succ]
        refine takeR (fuel := 1) (i := 12) (v := .pointer (some ⟨w.heap.size, 3, none⟩)) rfl (by kernel_rfl) (by kernel_rfl) (by kernel_rfl) (fun _ _ _ h => h) (Or.inl ⟨rfl, fun W hW => by go_simp⟩) hS8 ?_
        simp only [Act.put, List.setIfInBounds_toArray, List.set_cons_zero, List.set_cons_succ]
        have HB8 := hid_in hb8
        have HO8 := hid_in ho8
        refine consR (fuel := 0) (i := 13) rfl (by kernel_rfl) (fun K hK => ?_)
        rw [if_pos (by rfl)]
        obtain ⟨q8, p8⟩ := HQ.out _ HB8.out
        obtain ⟨e8, g8⟩ := HE.out _ _ HB8.out HO8.out
        go_simp
        refine hK.out _ _ g8 (fun hS => ?_)
        clear hK
        try simp only [Act.put, List.setIfInBounds_toArray, List.set_cons_zero, List.set_cons_succ]
        refine wpAnyH_done (by kernel_rfl) ?_ _
        go_wp2_with fail
        go_meet
        exact ⟨_, e8⟩
    · rw [if_pos (by rfl)]
      go_simp
      have V9 := V1.out.part
      rw [HPC.out] at V9
      refine hK.out _ _ (grown_of_b V9.b) (fun hS9 => ?_)
      clear hK
      obtain ⟨n9, hn9⟩ : ∃ n, n = z1.heap.size := ⟨_, rfl⟩
      obtain ⟨z9, hz9⟩ : ∃ z, z = z1.alloc (.cells #[.int .i64 iss, .string i, .int .i64 c] 100) := ⟨_, rfl⟩
      try simp only [Act.put, List.setIfInBounds_toArray, List.set_cons_zero, List.set_cons_succ]
      rw [← hn9, ← hz9] at V9
      rw [← hz9] at hS9
      rw [← hn9, ← hz9]
      replace V9 := hid_in V9
      clear hn9 hz9
      refine consR (fuel := 4) (i := 2) rfl (by kernel_rfl) (fun K hK => ?_)
      rw [if_pos (by rfl)]
      have q10 := (HQ.out _ V9.out.b).1
      go_simp
      refine hK.out _ _ hS9 (fun hS10 => ?_)
      clear hK
      try simp only [Act.put, List.setIfInBounds_toArray, List.set_cons_zero, List.set_cons_succ]
      refine consR (fuel := 3) (i := 3) rfl (by kernel_rfl) (fun K hK => ?_)
      rw [if_pos (by rfl)]
      obtain ⟨v11, z11, hr11, V11⟩ := V9.out.all HL1.out hl
      refine Lib.wp_append_run _ _ _ 63 63 rfl _ _ rfl rfl _ z11 hr11 ?_
      refine hK.out _ _ (grown_of_b V11.b) (fun hS11 => ?_)
      clear hK
      try simp only [Act.put, List.setIfInBounds_toArray, List.set_cons_zero, List.set_cons_succ]
      replace V11 := hid_in V11
      clear hr11
      refine consR (fuel := 2) (i := 11) rfl (by kernel_rfl) (fun K hK => ?_)
      rw [if_pos (by rfl)]
      obtain ⟨v12, z12, hr12, hb12, ho12⟩ := V11.out.fin hl
      rw [HM.out] at ho12
      obtain ⟨ya12, yc12, rfl, -⟩ := own_read ho12 ho12.1
      refine Lib.wp_append_run _ _ _ 63 63 rfl _ _ rfl rfl _ z12 hr12 ?_
      refine hK.out _ _ (grown_of_b hb12) (fun hS12 => ?_)
      clear hK
      try simp only [Act.put, List.setIfInBounds_toArray, List.set_cons_zero, List.set_cons_succ]
      refine takeR (fuel := 1) (i := 12) (v := .pointer (some ⟨w.heap.size, 3, none⟩)) rfl (by kernel_rfl) (by kernel_rfl) (by kernel_rfl) (fun _ _ _ h => h) (Or.inl ⟨rfl, fun W hW => by go_simp⟩) hS12 ?_
      simp only [Act.put, List.setIfInBounds_toArray, List.set_cons_zero, List.set_cons_succ]
      have HB12 := hid_in hb12
      have HO12 := hid_in ho12
      refine consR (fuel := 0) (i := 13) rfl (by kernel_rfl) (fun K hK => ?_)
      rw [if_pos (by rfl)]
      obtain ⟨q12, p12⟩ := HQ.out _ HB12.out
      obtain ⟨e12, g12⟩ := HE.out _ _ HB12.out HO12.out
      go_simp
      refine hK.out _ _ g12 (fun hS => ?_)
      clear hK
      try simp only [Act.put, List.setIfInBounds_toArray, List.set_cons_zero, List.set_cons_succ]
      refine wpAnyH_done (by kernel_rfl) ?_ _
      go_wp2_with fail
      go_meet
      exact ⟨_, e12⟩
  · rw [if_pos (by rfl)]
    have q13 := (HQ.out _ U0.out.b).1
    go_simp
    refine hK.out _ _ hS0 (fun hS13 => ?_)
    clear hK
    try simp only [Act.put, List.setIfInBounds_toArray, List.set_cons_zero, List.set_cons_succ]
    refine consR2 (fuel := 5) (i := 0) (j := 10) rfl rfl (by kernel_rfl) (fun K hK => ?_) (fun K hK => ?_)
    · rw [if_pos (by rfl)]
      go_simp
      have V14 := U0.out.empty
      refine hK.out _ _ (grown_of_b V14.b) (fun hS14 => ?_)
      clear hK
      obtain ⟨n14, hn14⟩ : ∃ n, n = z0.heap.size := ⟨_, rfl⟩
      obtain ⟨z14, hz14⟩ : ∃ z, z = z0.alloc (.cells #[] 100) := ⟨_, rfl⟩
      try simp only [Act.put, List.setIfInBounds_toArray, List.set_cons_zero, List.set_cons_succ]
      rw [← hn14, ← hz14] at V14
      rw [← hz14] at hS14
      rw [← hn14, ← hz14]
      replace V14 := hid_in V14
      clear hn14 hz14
      refine consR2 (fuel := 4) (i := 3) (j := 10) rfl rfl (by kernel_rfl) (fun K hK => ?_) (fun K hK => ?_)
      · rw [if_pos (by rfl)]
        obtain ⟨v15, z15, hr15, V15⟩ := V14.out.all HL1.out hl
        refine Lib.wp_append_run _ _ _ 63 63 rfl _ _ rfl rfl _ z15 hr15 ?_
        refine hK.out _ _ (grown_of_b V15.b) (fun hS15 => ?_)
        clear hK
        try simp only [Act.put, List.setIfInBounds_toArray, List.set_cons_zero, List.set_cons_succ]
        replace V15 := hid_in V15
        clear hr15
        refine consR (fuel := 3) (i := 10) rfl (by kernel_rfl) (fun K hK => ?_)
        rw [if_pos (by rfl)]
        go_simp
        have V16 := V15.out.part
        rw [HPC.out] at V16
        refine hK.out _ _ (grown_of_b V16.b) (fun hS16 => ?_)
        clear hK
        obtain ⟨n16, hn16⟩ : ∃ n, n = z15.heap.size := ⟨_, rfl⟩
        obtain ⟨z16, hz16⟩ : ∃ z, z = z15.alloc (.cells #[.int .i64 iss, .string i, .int .i64 c] 100) := ⟨_, rfl⟩
        try simp only [Act.put, List.setIfInBounds_toArray, List.set_cons_zero, List.set_cons_succ]
        rw [← hn16, ← hz16] at V16
        rw [← hz16] at hS16
        rw [← hn16, ← hz16]
        replace V16 := hid_in V16
        clear hn16 hz16
        refine consR (fuel := 2) (i := 11) rfl (by kernel_rfl) (fun K hK => ?_)
        rw [if_pos (by rfl)]
        obtain ⟨v17, z17, hr17, hb17, ho17⟩ := V16.out.fin hl
        rw [HM.out] at ho17
        obtain ⟨ya17, yc17, rfl, -⟩ := own_read ho17 ho17.1
        refine Lib.wp_append_run _ _ _ 63 63 rfl _ _ rfl rfl _ z17 hr17 ?_
        refine hK.out _ _ (grown_of_b hb17) (fun hS17 => ?_)
        clear hK
        try simp only [Act.put, List.setIfInBounds_toArray, List.set_cons_zero, List.set_cons_succ]
        refine takeR (fuel := 1) (i := 12) (v := .pointer (some ⟨w.heap.size, 3, none⟩)) rfl (by kernel_rfl) (by kernel_rfl) (by kernel_rfl) (fun _ _ _ h => h) (Or.inl ⟨rfl, fun W hW => by go_simp⟩) hS17 ?_
        simp only [Act.put, List.setIfInBounds_toArray, List.set_cons_zero, List.set_cons_succ]
        have HB17 := hid_in hb17
        have HO17 := hid_in ho17
        refine consR (fuel := 0) (i := 13) rfl (by kernel_rfl) (fun K hK => ?_)
        rw [if_pos (by rfl)]
        obtain ⟨q17, p17⟩ := HQ.out _ HB17.out
        obtain ⟨e17, g17⟩ := HE.out _ _ HB17.out HO17.out
        go_simp
        refine hK.out _ _ g17 (fun hS => ?_)
        clear hK
        try simp only [Act.put, List.setIfInBounds_toArray, List.set_cons_zero, List.set_cons_succ]
        refine wpAnyH_done (by kernel_rfl) ?_ _
        go_wp2_with fail
        go_meet
        exact ⟨_, e17⟩
      · rw [if_pos (by rfl)]
        go_simp
        have V18 := V14.out.part
        rw [HPC.out] at V18
        refine hK.out _ _ (grown_of_b V18.b) (fun hS18 => ?_)
        clear hK
        obtain ⟨n18, hn18⟩ : ∃ n, n = z14.heap.size := ⟨_, rfl⟩
        obtain ⟨z18, hz18⟩ : ∃ z, z = z14.alloc (.cells #[.int .i64 iss, .string i, .int .i64 c] 100) := ⟨_, rfl⟩
        try simp only [Act.put, List.setIfInBounds_toArray, List.set_cons_zero, List.set_cons_succ]
        rw [← hn18, ← hz18] at V18
        rw [← hz18] at hS18
        rw [← hn18, ← hz18]
        replace V18 := hid_in V18
        clear hn18 hz18
        refine consR (fuel := 3) (i := 3) rfl (by kernel_rfl) (fun K hK => ?_)
        rw [if_pos (by rfl)]
        obtain ⟨v19, z19, hr19, V19⟩ := V18.out.all HL1.out hl
        refine Lib.wp_append_run _ _ _ 63 63 rfl _ _ rfl rfl _ z19 hr19 ?_
        refine hK.out _ _ (grown_of_b V19.b) (fun hS19 => ?_)
        clear hK
        try simp only [Act.put, List.setIfInBounds_toArray, List.set_cons_zero, List.set_cons_succ]
        replace V19 := hid_in V19
        clear hr19
        refine consR (fuel := 2) (i := 11) rfl (by kernel_rfl) (fun K hK => ?_)
        rw [if_pos (by rfl)]
        obtain ⟨v20, z20, hr20, hb20, ho20⟩ := V19.out.fin hl
        rw [HM.out] at ho20
        obtain ⟨ya20, yc20, rfl, -⟩ := own_read ho20 ho20.1
        refine Lib.wp_append_run _ _ _ 63 63 rfl _ _ rfl rfl _ z20 hr20 ?_
        refine hK.out _ _ (grown_of_b hb20) (fun hS20 => ?_)
        clear hK
        try simp only [Act.put, List.setIfInBounds_toArray, List.set_cons_zero, List.set_cons_succ]
        refine takeR (fuel := 1) (i := 12) (v := .pointer (some ⟨w.heap.size, 3, none⟩)) rfl (by kernel_rfl) (by kernel_rfl) (by kernel_rfl) (fun _ _ _ h => h) (Or.inl ⟨rfl, fun W hW => by go_simp⟩) hS20 ?_
        simp only [Act.put, List.setIfInBounds_toArray, List.set_cons_zero, List.set_cons_succ]
        have HB20 := hid_in hb20
        have HO20 := hid_in ho20
        refine consR (fuel := 0) (i := 13) rfl (by kernel_rfl) (fun K hK => ?_)
        rw [if_pos (by rfl)]
        obtain ⟨q20, p20⟩ := HQ.out _ HB20.out
        obtain ⟨e20, g20⟩ := HE.out _ _ HB20.out HO20.out
        go_simp
        refine hK.out _ _ g20 (fun hS => ?_)
        clear hK
        try simp only [Act.put, List.setIfInBounds_toArray, List.set_cons_zero, List.set_cons_succ]
        refine wpAnyH_done (by kernel_rfl) ?_ _
        go_wp2_with fail
        go_meet
        exact ⟨_, e20⟩
    · rw [if_pos (by rfl)]
      go_simp
      have V21 := U0.out.part
      rw [HPC.out] at V21
      refine hK.out _ _ (grown_of_b V21.b) (fun hS21 => ?_)
      clear hK
      obtain ⟨n21, hn21⟩ : ∃ n, n = z0.heap.size := ⟨_, rfl⟩
      obtain ⟨z21, hz21⟩ : ∃ z, z = z0.alloc (.cells #[.int .i64 iss, .string i, .int .i64 c] 100) := ⟨_, rfl⟩
      try simp only [Act.put, List.setIfInBounds_toArray, List.set_cons_zero, List.set_cons_succ]
      rw [← hn21, ← hz21] at V21
      rw [← hz21] at hS21
      rw [← hn21, ← hz21]
      replace V21 := hid_in V21
      clear hn21 hz21
      refine consR (fuel := 4) (i := 0) rfl (by kernel_rfl) (fun K hK => ?_)
      rw [if_pos (by rfl)]
      go_simp
      have V22 := V21.out.empty
      refine hK.out _ _ (grown_of_b V22.b) (fun hS22 => ?_)
      clear hK
      obtain ⟨n22, hn22⟩ : ∃ n, n = z21.heap.size := ⟨_, rfl⟩
      obtain ⟨z22, hz22⟩ : ∃ z, z = z21.alloc (.cells #[] 100) := ⟨_, rfl⟩
      try simp only [Act.put, List.setIfInBounds_toArray, List.set_cons_zero, List.set_cons_succ]
      rw [← hn22, ← hz22] at V22
      rw [← hz22] at hS22
      rw [← hn22, ← hz22]
      replace V22 := hid_in V22
      clear hn22 hz22
      refine consR (fuel := 3) (i := 3) rfl (by kernel_rfl) (fun K hK => ?_)
      rw [if_pos (by rfl)]
      obtain ⟨v23, z23, hr23, V23⟩ := V22.out.all HL1.out hl
      refine Lib.wp_append_run _ _ _ 63 63 rfl _ _ rfl rfl _ z23 hr23 ?_
      refine hK.out _ _ (grown_of_b V23.b) (fun hS23 => ?_)
      clear hK
      try simp only [Act.put, List.setIfInBounds_toArray, List.set_cons_zero, List.set_cons_succ]
      replace V23 := hid_in V23
      clear hr23
      refine consR (fuel := 2) (i := 11) rfl (by kernel_rfl) (fun K hK => ?_)
      rw [if_pos (by rfl)]
      obtain ⟨v24, z24, hr24, hb24, ho24⟩ := V23.out.fin hl
      rw [HM.out] at ho24
      obtain ⟨ya24, yc24, rfl, -⟩ := own_read ho24 ho24.1
      refine Lib.wp_append_run _ _ _ 63 63 rfl _ _ rfl rfl _ z24 hr24 ?_
      refine hK.out _ _ (grown_of_b hb24) (fun hS24 => ?_)
      clear hK
      try simp only [Act.put, List.setIfInBounds_toArray, List.set_cons_zero, List.set_cons_succ]
      refine takeR (fuel := 1) (i := 12) (v := .pointer (some ⟨w.heap.size, 3, none⟩)) rfl (by kernel_rfl) (by kernel_rfl) (by kernel_rfl) (fun _ _ _ h => h) (Or.inl ⟨rfl, fun W hW => by go_simp⟩) hS24 ?_
      simp only [Act.put, List.setIfInBounds_toArray, List.set_cons_zero, List.set_cons_succ]
      have HB24 := hid_in hb24
      have HO24 := hid_in ho24
      refine consR (fuel := 0) (i := 13) rfl (by kernel_rfl) (fun K hK => ?_)
      rw [if_pos (by rfl)]
      obtain ⟨q24, p24⟩ := HQ.out _ HB24.out
      obtain ⟨e24, g24⟩ := HE.out _ _ HB24.out HO24.out
      go_simp
      refine hK.out _ _ g24 (fun hS => ?_)
      clear hK
      try simp only [Act.put, List.setIfInBounds_toArray, List.set_cons_zero, List.set_cons_succ]
      refine wpAnyH_done (by kernel_rfl) ?_ _
      go_wp2_with fail
      go_meet
      exact ⟨_, e24⟩
  · rw [if_pos (by rfl)]
    go_simp
    have V25 := U0.out.part
    rw [HPC.out] at V25
    refine hK.out _ _ (grown_of_b V25.b) (fun hS25 => ?_)
    clear hK
    obtain ⟨n25, hn25⟩ : ∃ n, n = z0.heap.size := ⟨_, rfl⟩
    obtain ⟨z25, hz25⟩ : ∃ z, z = z0.alloc (.cells #[.int .i64 iss, .string i, .int .i64 c] 100) := ⟨_, rfl⟩
    try simp only [Act.put, List.setIfInBounds_toArray, List.set_cons_zero, List.set_cons_succ]
    rw [← hn25, ← hz25] at V25
    rw [← hz25] at hS25
    rw [← hn25, ← hz25]
    replace V25 := hid_in V25
    clear hn25 hz25
    refine consR2 (fuel := 5) (i := 0) (j := 2) rfl rfl (by kernel_rfl) (fun K hK => ?_) (fun K hK => ?_)
    · rw [if_pos (by rfl)]
      go_simp
      have V26 := V25.out.empty
      refine hK.out _ _ (grown_of_b V26.b) (fun hS26 => ?_)
      clear hK
      obtain ⟨n26, hn26⟩ : ∃ n, n = z25.heap.size := ⟨_, rfl⟩
      obtain ⟨z26, hz26⟩ : ∃ z, z = z25.alloc (.cells #[] 100) := ⟨_, rfl⟩
      try simp only [Act.put, List.setIfInBounds_toArray, List.set_cons_zero, List.set_cons_succ]
      rw [← hn26, ← hz26] at V26
      rw [← hz26] at hS26
      rw [← hn26, ← hz26]
      replace V26 := hid_in V26
      clear hn26 hz26
      refine consR (fuel := 4) (i := 2) rfl (by kernel_rfl) (fun K hK => ?_)
      rw [if_pos (by rfl)]
      have q27 := (HQ.out _ V26.out.b).1
      go_simp
      refine hK.out _ _ hS26 (fun hS27 => ?_)
      clear hK
      try simp only [Act.put, List.setIfInBounds_toArray, List.set_cons_zero, List.set_cons_succ]
      refine consR (fuel := 3) (i := 3) rfl (by kernel_rfl) (fun K hK => ?_)
      rw [if_pos (by rfl)]
      obtain ⟨v28, z28, hr28, V28⟩ := V26.out.all HL1.out hl
      refine Lib.wp_append_run _ _ _ 63 63 rfl _ _ rfl rfl _ z28 hr28 ?_
      refine hK.out _ _ (grown_of_b V28.b) (fun hS28 => ?_)
      clear hK
      try simp only [Act.put, List.setIfInBounds_toArray, List.set_cons_zero, List.set_cons_succ]
      replace V28 := hid_in V28
      clear hr28
      refine consR (fuel := 2) (i := 11) rfl (by kernel_rfl) (fun K hK => ?_)
      rw [if_pos (by rfl)]
      obtain ⟨v29, z29, hr29, hb29, ho29⟩ := V28.out.fin hl
      rw [HM.out] at ho29
      obtain ⟨ya29, yc29, rfl, -⟩ := own_read ho29 ho29.1
      refine Lib.wp_append_run _ _ _ 63 63 rfl _ _ rfl rfl _ z29 hr29 ?_
      refine hK.out _ _ (grown_of_b hb29) (fun hS29 => ?_)
      clear hK
      try simp only [Act.put, List.setIfInBounds_toArray, List.set_cons_zero, List.set_cons_succ]
      refine takeR (fuel := 1) (i := 12) (v := .pointer (some ⟨w.heap.size, 3, none⟩)) rfl (by kernel_rfl) (by kernel_rfl) (by kernel_rfl) (fun _ _ _ h => h) (Or.inl ⟨rfl, fun W hW => by go_simp⟩) hS29 ?_
      simp only [Act.put, List.setIfInBounds_toArray, List.set_cons_zero, List.set_cons_succ]
      have HB29 := hid_in hb29
      have HO29 := hid_in ho29
      refine consR (fuel := 0) (i := 13) rfl (by kernel_rfl) (fun K hK => ?_)
      rw [if_pos (by rfl)]
      obtain ⟨q29, p29⟩ := HQ.out _ HB29.out
      obtain ⟨e29, g29⟩ := HE.out _ _ HB29.out HO29.out
      go_simp
      refine hK.out _ _ g29 (fun hS => ?_)
      clear hK
      try simp only [Act.put, List.setIfInBounds_toArray, List.set_cons_zero, List.set_cons_succ]
      refine wpAnyH_done (by kernel_rfl) ?_ _
      go_wp2_with fail
      go_meet
      exact ⟨_, e29⟩
    · rw [if_pos (by rfl)]
      have q30 := (HQ.out _ V25.out.b).1
      go_simp
      refine hK.out _ _ hS25 (fun hS30 => ?_)
      clear hK
      try simp only [Act.put, List.setIfInBounds_toArray, List.set_cons_zero, List.set_cons_succ]
      refine consR (fuel := 4) (i := 0) rfl (by kernel_rfl) (fun K hK => ?_)
      rw [if_pos (by rfl)]
      go_simp
      have V31 := V25.out.empty
      refine hK.out _ _ (grown_of_b V31.b) (fun hS31 => ?_)
      clear hK
      obtain ⟨n31, hn31⟩ : ∃ n, n = z25.heap.size := ⟨_, rfl⟩
      obtain ⟨z31, hz31⟩ : ∃ z, z = z25.alloc (.cells #[] 100) := ⟨_, rfl⟩
      try simp only [Act.put, List.setIfInBounds_toArray, List.set_cons_zero, List.set_cons_succ]
      rw [← hn31, ← hz31] at V31
      rw [← hz31] at hS31
      rw [← hn31, ← hz31]
      replace V31 := hid_in V31
      clear hn31 hz31
      refine consR (fuel := 3) (i := 3) rfl (by kernel_rfl) (fun K hK => ?_)
      rw [if_pos (by rfl)]
      obtain ⟨v32, z32, hr32, V32⟩ := V31.out.all HL1.out hl
      refine Lib.wp_append_run _ _ _ 63 63 rfl _ _ rfl rfl _ z32 hr32 ?_
      refine hK.out _ _ (grown_of_b V32.b) (fun hS32 => ?_)
      clear hK
      try simp only [Act.put, List.setIfInBounds_toArray, List.set_cons_zero, List.set_cons_succ]
      replace V32 := hid_in V32
      clear hr32
      refine consR (fuel := 2) (i := 11) rfl (by kernel_rfl) (fun K hK => ?_)
      rw [if_pos (by rfl)]
      obtain ⟨v33, z33, hr33, hb33, ho33⟩ := V32.out.fin hl
      rw [HM.out] at ho33
      obtain ⟨ya33, yc33, rfl, -⟩ := own_read ho33 ho33.1
      refine Lib.wp_append_run _ _ _ 63 63 rfl _ _ rfl rfl _ z33 hr33 ?_
      refine hK.out _ _ (grown_of_b hb33) (fun hS33 => ?_)
      clear hK
      try simp only [Act.put, List.setIfInBounds_toArray, List.set_cons_zero, List.set_cons_succ]
      refine takeR (fuel := 1) (i := 12) (v := .pointer (some ⟨w.heap.size, 3, none⟩)) rfl (by kernel_rfl) (by kernel_rfl) (by kernel_rfl) (fun _ _ _ h => h) (Or.inl ⟨rfl, fun W hW => by go_simp⟩) hS33 ?_
      simp only [Act.put, List.setIfInBounds_toArray, List.set_cons_zero, List.set_cons_succ]
      have HB33 := hid_in hb33
      have HO33 := hid_in ho33
      refine consR (fuel := 0) (i := 13) rfl (by kernel_rfl) (fun K hK => ?_)
      rw [if_pos (by rfl)]
      obtain ⟨q33, p33⟩ := HQ.out _ HB33.out
      obtain ⟨e33, g33⟩ := HE.out _ _ HB33.out HO33.out
      go_simp
      refine hK.out _ _ g33 (fun hS => ?_)
      clear hK
      try simp only [Act.put, List.setIfInBounds_toArray, List.set_cons_zero, List.set_cons_succ]
      refine wpAnyH_done (by kernel_rfl) ?_ _
      go_wp2_with fail
      go_meet
      exact ⟨_, e33⟩
end Go.Proofs.YtdfadcbchiogjaaGreat
