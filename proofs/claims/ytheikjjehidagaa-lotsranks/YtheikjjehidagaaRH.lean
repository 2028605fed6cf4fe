/- layer 17: an item with texts of its own; items ranked, by the program -/
import Derived.Test.YtheikjjehidagaaRG
import Derived.WalkKit
import Derived.ProofKit
import Derived.Handy
import Derived.WalkLawsBesides
import Derived.WalkSpells
import Derived.BigQuiet
import Derived.BigCall
import Derived.Deep.QuietTactic
import Derived.Deep.Light
import Derived.Deep.OwnRows
import Derived.Laws.AppendOwnNone
import Derived.Laws.Strings3
import Derived.Laws.RangeAny
import Derived.Deep.RegionWith
import Derived.Lib.BitFns
import Derived.Lib.Walk
import Derived.Lib.Strings
import Derived.Lib.OthersKept
import Derived.Deep.CutBlock
import Derived.Deep.DeepCutAuto
import Derived.Deep.LoopGhost
import Derived.Deep.RegionHeld3
import Derived.Lib.SmallJoins
import Derived.Maps.AppendAt
import Derived.Laws.IdiomStrings
import Derived.Lib.AppendZeros
import Derived.Deep.WholeRow
import Derived.Laws.BitsAllLaws
import Derived.Lib.ConvBytes
import Derived.Deep.RegionLaw
import Derived.Maps.OwnSet
import Derived.Maps.OwnOps
import Derived.Maps.RangeWalk
import Derived.Maps.Ext
import Derived.DeepKeys4
import Derived.Laws.StructEq
import Derived.Deep.MidRow
import Derived.Lib.Bytealg
import Derived.Lib.AppendZerosOnto
import Derived.Laws.MakeOwn
import Derived.Deep.Upon
import Derived.Sort.KeysCollected
import Derived.Shelf.SlSortCmp.KitK
namespace Go.Proofs.Ytheikjjehidagaa
open Go.RowKit
set_option linter.unusedVariables false
set_option linter.unusedSimpArgs false
open Go.Sort (grow SWO PermIn SortedIn HoldsK swp putRowK)
open H5 (It its its_len its_one)
set_option maxRecDepth 20000
set_option linter.unusedSectionVars false
def smI (x : It) : Prop := x.l.size ≤ 281474976710656 ∧ x.a.i.size ≤ 281474976710656 ∧ x.a.c.size ≤ 281474976710656
theorem res47 {w : World} {g : Nat} {v0 v1 v2 v3 v4 v5 v6 v7 v8 : Value} (h : Bx w g #[v0, v1, v2, v3, v4, v5, v6, v7, v8] 47) : (loadVar 47 ⟨g, 0, none⟩).run Try.prog w = .ok (.agg #[v0, v1, v2, v3, v4, v5, v6, v7, v8]) w :=
  run_loadVar_row w g 47 47 _ (0, 0) _ h Try.underlying47 rfl (by kernel_rfl)
/-- the box of an item behind a store of what it holds -/
theorem it_set {w w2 : World} {b j : Nat} {cs : Array Value} {v : Value} (h : Bx w2 b cs 47) (hb : Below w.heap.size w w2) (hbw : w.heap.size ≤ b) (hj : cs[j]? = some v) (hv : cs.setIfInBounds j v = cs) : Bx (w2.setCell ⟨b, j, none⟩ v) b cs 47 ∧ Below w.heap.size w (w2.setCell ⟨b, j, none⟩ v) := by
  have := h.setc j v
  rw [hv] at this
  exact ⟨this, hb.setCell (p := ⟨b, j, none⟩) hbw v⟩
def ItP (x : It) (w : World) (e : Ending) (w' : World) : Prop := e = .returned (.agg (its x).toArray) ∧ Below w.heap.size w w'
set_option maxHeartbeats 16000000 in
theorem xitem (x : It) (hx : smI x) (w : World) : Calls Try.prog 47 #[.agg (its x).toArray] w (ItP x w) := by
  obtain ⟨l, q, ⟨ai, a1, a2, am, ac⟩, p, c⟩ := x
  obtain ⟨hx1, hx2, hx3⟩ := hx
  simp only [its] at *
  unfold ItP
  simp only [its]
  have H1 : Hid (∀ w, Calls Try.prog 63 #[.agg #[.string l, .int .i64 q]] w fun e w' => e = .returned (.agg #[.string l, .int .i64 q]) ∧ Below w.heap.size w w') := fun w => xapart ⟨l, q⟩ hx1 w
  have H2 : Hid (∀ w, Calls Try.prog 70 #[.string ai] w fun e w' => e = .returned (.string ai) ∧ Below w.heap.size w w') := fun w => xclone ai hx2 w
  have H3 : Hid (∀ w, Calls Try.prog 70 #[.string ac] w fun e w' => e = .returned (.string ac) ∧ Below w.heap.size w w') := fun w => xclone ac hx3 w
  obtain ⟨w1, hw1⟩ : ∃ w1, w1 = (w.alloc (.cells #[.string l, .int .i64 q, .string ai, .int .i64 a1, .int .i64 a2, .int .i64 am, .string ac, .int .i64 p, .int .i64 c] 47)).alloc (.cells #[.string ⟨#[]⟩, .int .i64 0, .string ⟨#[]⟩, .int .i64 0, .int .i64 0, .int .i64 0, .string ⟨#[]⟩, .int .i64 0, .int .i64 0] 47) := ⟨_, rfl⟩
  have HW : Hid ((w.alloc (.cells #[.string l, .int .i64 q, .string ai, .int .i64 a1, .int .i64 a2, .int .i64 am, .string ac, .int .i64 p, .int .i64 c] 47)).alloc (.cells #[.string ⟨#[]⟩, .int .i64 0, .string ⟨#[]⟩, .int .i64 0, .int .i64 0, .int .i64 0, .string ⟨#[]⟩, .int .i64 0, .int .i64 0] 47) = w1) := hw1.symm
  have hX0 : Bx w1 w.heap.size #[.string l, .int .i64 q, .string ai, .int .i64 a1, .int .i64 a2, .int .i64 am, .string ac, .int .i64 p, .int .i64 c] 47 := by rw [hw1]; exact (Bx.new w _ _).kept (World.grownBy_alloc _ _ none) (by simp)
  have hX1 : Bx w1 (w.heap.size + 1) #[.string ⟨#[]⟩, .int .i64 0, .string ⟨#[]⟩, .int .i64 0, .int .i64 0, .int .i64 0, .string ⟨#[]⟩, .int .i64 0, .int .i64 0] 47 := by
    rw [hw1]
    have := Bx.new (w.alloc (.cells #[.string l, .int .i64 q, .string ai, .int .i64 a1, .int .i64 a2, .int .i64 am, .string ac, .int .i64 p, .int .i64 c] 47)) #[.string ⟨#[]⟩, .int .i64 0, .string ⟨#[]⟩, .int .i64 0, .int .i64 0, .int .i64 0, .string ⟨#[]⟩, .int .i64 0, .int .i64 0] 47
    rw [World.size_alloc] at this
    exact this
  have hB : Below w.heap.size w w1 := by rw [hw1]; exact ((Below.refl _ w).alloc (Nat.le_refl _) _).alloc (by simp) _
  -- what is kept along the way
  have HS : Hid (∀ W, (Bx W w.heap.size #[.string l, .int .i64 q, .string ai, .int .i64 a1, .int .i64 a2, .int .i64 am, .string ac, .int .i64 p, .int .i64 c] 47 ∧ Bx W (w.heap.size + 1) #[.string ⟨#[]⟩, .int .i64 0, .string ⟨#[]⟩, .int .i64 0, .int .i64 0, .int .i64 0, .string ⟨#[]⟩, .int .i64 0, .int .i64 0] 47 ∧ Below w.heap.size w W) → ∀ W', Below W.heap.size W W' → ∀ j v, (#[.string l, .int .i64 q, .string ai, .int .i64 a1, .int .i64 a2, .int .i64 am, .string ac, .int .i64 p, .int .i64 c] : Array Value)[j]? = some v → (#[.string l, .int .i64 q, .string ai, .int .i64 a1, .int .i64 a2, .int .i64 am, .string ac, .int .i64 p, .int .i64 c] : Array Value).setIfInBounds j v = #[.string l, .int .i64 q, .string ai, .int .i64 a1, .int .i64 a2, .int .i64 am, .string ac, .int .i64 p, .int .i64 c] →
      (Bx (W'.setCell ⟨w.heap.size, j, none⟩ v) w.heap.size #[.string l, .int .i64 q, .string ai, .int .i64 a1, .int .i64 a2, .int .i64 am, .string ac, .int .i64 p, .int .i64 c] 47 ∧ Bx (W'.setCell ⟨w.heap.size, j, none⟩ v) (w.heap.size + 1) #[.string ⟨#[]⟩, .int .i64 0, .string ⟨#[]⟩, .int .i64 0, .int .i64 0, .int .i64 0, .string ⟨#[]⟩, .int .i64 0, .int .i64 0] 47 ∧ Below w.heap.size w (W'.setCell ⟨w.heap.size, j, none⟩ v))) := fun W h W' hb j v hj hv => by
    have h0 := h.1.below hb h.1.lt
    have h1 := h.2.1.below hb h.2.1.lt
    have h2 := it_set h0 (h.2.2.trans (hb.mono h.2.2.size)) (Nat.le_refl _) hj hv
    exact ⟨h2.1, h1.oset (by omega) _ _, h2.2⟩
  have HS1 : Hid (Bx w1 w.heap.size #[.string l, .int .i64 q, .string ai, .int .i64 a1, .int .i64 a2, .int .i64 am, .string ac, .int .i64 p, .int .i64 c] 47 ∧ Bx w1 (w.heap.size + 1) #[.string ⟨#[]⟩, .int .i64 0, .string ⟨#[]⟩, .int .i64 0, .int .i64 0, .int .i64 0, .string ⟨#[]⟩, .int .i64 0, .int .i64 0] 47 ∧ Below w.heap.size w w1) := ⟨hX0, hX1, hB⟩
  have c0 : w1.cell? ⟨w.heap.size, 0, none⟩ = some (.string l) := hX0.cell 0
  have c1 : w1.cell? ⟨w.heap.size, 1, none⟩ = some (.int .i64 q) := hX0.cell 1
  clear hw1 hX0 hX1 hB hx1 hx2 hx3
  go_enter Try.func47, Try.ntmps47
  go_upto_region 1 with fail
  rw [HW.out]
  clear HW
  go_upto_region 2 with (go_at_call 63; refine (H1.out _).mono ?_; clear H1; rintro e w2 ⟨rfl, hb⟩; have HB2 := hid_in hb; have k0 := (HS1.out.1.below hb HS1.out.1.lt).cell 0; have k1 := (HS1.out.1.below hb HS1.out.1.lt).cell 1; have f0 := (HS1.out.1.below hb HS1.out.1.lt).froz 0; have f1 := (HS1.out.1.below hb HS1.out.1.lt).froz 1; simp at k0 k1; clear hb c0 c1)
  have HSa := hid_in (HS.out w1 HS1.out w2 HB2.out 0 (.string l) rfl rfl)
  have HS2 := hid_in (HS.out _ HSa.out _ (Below.refl _ _) 1 (.int .i64 q) rfl rfl)
  clear HSa HB2 HS1 k0 k1 f0 f1
  generalize (w2.setCell ⟨w.heap.size, 0, none⟩ (.string l)).setCell ⟨w.heap.size, 1, none⟩ (.int .i64 q) = w3 at *
  have c2 : w3.cell? ⟨w.heap.size, 2, none⟩ = some (.string ai) := HS2.out.1.cell 2
  go_upto_region 3 with (go_at_call 70; refine (H2.out _).mono ?_; clear H2; rintro e w4 ⟨rfl, hb⟩; have HB4 := hid_in hb; have k2 := (HS2.out.1.below hb HS2.out.1.lt).cell 2; have f2 := (HS2.out.1.below hb HS2.out.1.lt).froz 2; simp at k2; clear hb c2)
  have HS3 := hid_in (HS.out w3 HS2.out w4 HB4.out 2 (.string ai) rfl rfl)
  clear HS2 HB4 k2 f2
  generalize w4.setCell ⟨w.heap.size, 2, none⟩ (.string ai) = w5 at *
  have c6 : w5.cell? ⟨w.heap.size, 6, none⟩ = some (.string ac) := HS3.out.1.cell 6
  go_upto_region 4 with (go_at_call 70; refine (H3.out _).mono ?_; clear H3; rintro e w6 ⟨rfl, hb⟩; have HB6 := hid_in hb; have k6 := (HS3.out.1.below hb HS3.out.1.lt).cell 6; have f6 := (HS3.out.1.below hb HS3.out.1.lt).froz 6; simp at k6; clear hb c6)
  have HS4 := hid_in (HS.out w5 HS3.out w6 HB6.out 6 (.string ac) rfl rfl)
  clear HS3 HB6 k6 f6 HS
  generalize w6.setCell ⟨w.heap.size, 6, none⟩ (.string ac) = w7 at *
  have d0 : w7.cell? ⟨w.heap.size, 0, none⟩ = some (.string l) := HS4.out.1.cell 0
  have d1 : w7.cell? ⟨w.heap.size, 1, none⟩ = some (.int .i64 q) := HS4.out.1.cell 1
  have d2 : w7.cell? ⟨w.heap.size, 2, none⟩ = some (.string ai) := HS4.out.1.cell 2
  have d3 : w7.cell? ⟨w.heap.size, 3, none⟩ = some (.int .i64 a1) := HS4.out.1.cell 3
  have d4 : w7.cell? ⟨w.heap.size, 4, none⟩ = some (.int .i64 a2) := HS4.out.1.cell 4
  have d5 : w7.cell? ⟨w.heap.size, 5, none⟩ = some (.int .i64 am) := HS4.out.1.cell 5
  have d6 : w7.cell? ⟨w.heap.size, 6, none⟩ = some (.string ac) := HS4.out.1.cell 6
  have d7 : w7.cell? ⟨w.heap.size, 7, none⟩ = some (.int .i64 p) := HS4.out.1.cell 7
  have d8 : w7.cell? ⟨w.heap.size, 8, none⟩ = some (.int .i64 c) := HS4.out.1.cell 8
  have e0 : w7.cell? ⟨w.heap.size + 1, 0, none⟩ = some (.string ⟨#[]⟩) := HS4.out.2.1.cell 0
  have f0 : w7.frozen? ⟨w.heap.size + 1, 0, none⟩ = false := HS4.out.2.1.froz 0
  have e1 : w7.cell? ⟨w.heap.size + 1, 1, none⟩ = some (.int .i64 0) := HS4.out.2.1.cell 1
  have f1 : w7.frozen? ⟨w.heap.size + 1, 1, none⟩ = false := HS4.out.2.1.froz 1
  have e2 : w7.cell? ⟨w.heap.size + 1, 2, none⟩ = some (.string ⟨#[]⟩) := HS4.out.2.1.cell 2
  have f2 : w7.frozen? ⟨w.heap.size + 1, 2, none⟩ = false := HS4.out.2.1.froz 2
  have e3 : w7.cell? ⟨w.heap.size + 1, 3, none⟩ = some (.int .i64 0) := HS4.out.2.1.cell 3
  have f3 : w7.frozen? ⟨w.heap.size + 1, 3, none⟩ = false := HS4.out.2.1.froz 3
  have e4 : w7.cell? ⟨w.heap.size + 1, 4, none⟩ = some (.int .i64 0) := HS4.out.2.1.cell 4
  have f4 : w7.frozen? ⟨w.heap.size + 1, 4, none⟩ = false := HS4.out.2.1.froz 4
  have e5 : w7.cell? ⟨w.heap.size + 1, 5, none⟩ = some (.int .i64 0) := HS4.out.2.1.cell 5
  have f5 : w7.frozen? ⟨w.heap.size + 1, 5, none⟩ = false := HS4.out.2.1.froz 5
  have e6 : w7.cell? ⟨w.heap.size + 1, 6, none⟩ = some (.string ⟨#[]⟩) := HS4.out.2.1.cell 6
  have f6 : w7.frozen? ⟨w.heap.size + 1, 6, none⟩ = false := HS4.out.2.1.froz 6
  have e7 : w7.cell? ⟨w.heap.size + 1, 7, none⟩ = some (.int .i64 0) := HS4.out.2.1.cell 7
  have f7 : w7.frozen? ⟨w.heap.size + 1, 7, none⟩ = false := HS4.out.2.1.froz 7
  have e8 : w7.cell? ⟨w.heap.size + 1, 8, none⟩ = some (.int .i64 0) := HS4.out.2.1.cell 8
  have f8 : w7.frozen? ⟨w.heap.size + 1, 8, none⟩ = false := HS4.out.2.1.froz 8
  go_wp2_with fail
  have HZ : Bx _ (w.heap.size + 1) #[.string l, .int .i64 q, .string ai, .int .i64 a1, .int .i64 a2, .int .i64 am, .string ac, .int .i64 p, .int .i64 c] 47 := (((((((((HS4.out.2.1.setc 0 (.string l)).setc 1 (.int .i64 q)).setc 2 (.string ai)).setc 3 (.int .i64 a1)).setc 4 (.int .i64 a2)).setc 5 (.int .i64 am)).setc 6 (.string ac)).setc 7 (.int .i64 p)).setc 8 (.int .i64 c))
  have HBz := (((((((((HS4.out.2.2.setCell (p := ⟨w.heap.size + 1, 0, none⟩) (by simp) (.string l)).setCell (p := ⟨w.heap.size + 1, 1, none⟩) (by simp) (.int .i64 q)).setCell (p := ⟨w.heap.size + 1, 2, none⟩) (by simp) (.string ai)).setCell (p := ⟨w.heap.size + 1, 3, none⟩) (by simp) (.int .i64 a1)).setCell (p := ⟨w.heap.size + 1, 4, none⟩) (by simp) (.int .i64 a2)).setCell (p := ⟨w.heap.size + 1, 5, none⟩) (by simp) (.int .i64 am)).setCell (p := ⟨w.heap.size + 1, 6, none⟩) (by simp) (.string ac)).setCell (p := ⟨w.heap.size + 1, 7, none⟩) (by simp) (.int .i64 p)).setCell (p := ⟨w.heap.size + 1, 8, none⟩) (by simp) (.int .i64 c))
  refine bodyPost_ret (res_cell _ _ 2 47 _ _ _ rfl rfl (res47 HZ)) rfl ?_
  exact ⟨rfl, HBz⟩
end Go.Proofs.Ytheikjjehidagaa
