/- layer 12: what a member has -/
import Derived.Test.YtbfnfebmmhhegaaCL
import Derived.WalkKit
import Derived.ProofKit
import Derived.Handy
import Derived.WalkLawsBesides
import Derived.WalkSpells
import Derived.BigQuiet
import Derived.BigCall
import Derived.Deep.QuietTactic
import Derived.Deep.Light
import Derived.Deep.OwnRows
import Derived.Laws.AppendOwnNone
import Derived.Laws.Strings3
import Derived.Laws.RangeAny
import Derived.Deep.RegionWith
import Derived.Lib.BitFns
import Derived.Lib.Walk
import Derived.Lib.Strings
import Derived.Lib.OthersKept
import Derived.Deep.CutBlock
import Derived.Deep.DeepCutAuto
import Derived.Deep.LoopGhost
import Derived.Deep.RegionHeld3
import Derived.Lib.SmallJoins
import Derived.Maps.AppendAt
import Derived.Laws.IdiomStrings
import Derived.Lib.AppendZeros
import Derived.Deep.WholeRow
import Derived.Laws.BitsAllLaws
import Derived.Lib.ConvBytes
import Derived.Deep.RegionLaw
import Derived.Maps.OwnSet
import Derived.Maps.OwnOps
import Derived.Maps.RangeWalk
import Derived.Maps.Ext
import Derived.DeepKeys4
import Derived.Laws.StructEq
import Derived.Shelf.SlSortCmp.NoneTotal
import Derived.Deep.MidRow
import Derived.Laws.MakeOwn
namespace Go.Proofs.Ytbfnfebmmhhegaa
open Go.RowKit
set_option linter.unusedVariables false
set_option linter.unusedSimpArgs false
set_option maxRecDepth 20000
set_option maxHeartbeats 4000000 in
theorem xhas (c q m : Nat) (L : List Num.Bal) (p3 p4 p5 : Nat) (mem book : Int) (s : ByteArray) (ha : Wa (mem, book, s.toList)) (w : World) (h : Cu w c q m L) (h3 : Bx w p3 #[.pointer (some ⟨c, 0, none⟩)] 23) (h4 : Bx w p4 #[.int .i64 mem] 3) (h5 : Bx w p5 #[.string s] 9) :
    Calls Try.prog 40 #[.int .i64 book, .pointer (some ⟨p3, 0, none⟩), .pointer (some ⟨p4, 0, none⟩), .pointer (some ⟨p5, 0, none⟩)] w fun e w' => e = .returned (.int .i64 (Num.get L (mem, book, s.toList))) ∧ Below w.heap.size w w' := by
  have HK : Hid (∀ V, Below w.heap.size w V → Calls Try.prog 41 #[.pointer (some ⟨c, 0, none⟩)] V fun e w' => e = .returned (.pointer (some ⟨q, 0, none⟩)) ∧ w' = V) := fun V hb => (xkept c q m L V (h.below hb)).mono fun _ _ k => ⟨k.1, k.2.symm⟩
  have HB : Hid (∀ V, Below w.heap.size w V → Calls Try.prog 42 #[.pointer (some ⟨q, 0, none⟩), .agg #[.int .i64 mem, .int .i64 book, .string s]] V fun e w' => e = .returned (.int .i64 (Num.get L (mem, book, s.toList))) ∧ Below w.heap.size w w') := fun V hb => (xbal q m L mem book s ha V (h.below hb).l).mono fun _ _ k => ⟨k.1, hb.trans (k.2.mono hb.size)⟩
  have l3 := h3.lt
  have l4 := h4.lt
  have l5 := h5.lt
  generalize Num.get L (mem, book, s.toList) = G at *
  clear h ha
  go_enter Try.func40, Try.ntmps40
  go_upto_region 1 with fail
  refine wp_region_held (S := fun W => Below w.heap.size w W) (by kernel_rfl) ?_
  change wpAnyH _ _ _ _ _ 8 #[false, false, false, false, false, false, false, false] _ w.drew
  have hS0 : Below w.heap.size w w.drew := ⟨rfl, rfl, rfl, Nat.le_refl _, fun _ _ => rfl⟩
  obtain ⟨v0, hv0⟩ : ∃ v, v = w.drew := ⟨_, rfl⟩
  rw [← hv0] at hS0 ⊢
  clear hv0
  refine takeR (fuel := 7) (i := 0) (v := .pointer (some ⟨c, 0, none⟩)) rfl (by kernel_rfl) (by kernel_rfl) (by kernel_rfl) (fun _ _ _ h => h) (Or.inl ⟨rfl, fun W hW => by have cj : W.cell? ⟨p3, 0, none⟩ = some (.pointer (some ⟨c, 0, none⟩)) := (h3.below hW l3).cell 0; go_simp⟩) hS0 ?_
  simp only [Act.put, List.setIfInBounds_toArray, List.set_cons_zero, List.set_cons_succ]
  refine takeR (fuel := 6) (i := 2) (v := .int .i64 mem) rfl (by kernel_rfl) (by kernel_rfl) (by kernel_rfl) (fun _ _ _ h => h) (Or.inl ⟨rfl, fun W hW => by have cj : W.cell? ⟨p4, 0, none⟩ = some (.int .i64 mem) := (h4.below hW l4).cell 0; go_simp⟩) hS0 ?_
  simp only [Act.put, List.setIfInBounds_toArray, List.set_cons_zero, List.set_cons_succ]
  refine takeR (fuel := 5) (i := 3) (v := .int .i64 book) rfl (by kernel_rfl) (by kernel_rfl) (by kernel_rfl) (fun _ _ _ h => h) (Or.inl ⟨rfl, fun W hW => by go_simp⟩) hS0 ?_
  simp only [Act.put, List.setIfInBounds_toArray, List.set_cons_zero, List.set_cons_succ]
  refine takeR (fuel := 4) (i := 4) (v := .string s) rfl (by kernel_rfl) (by kernel_rfl) (by kernel_rfl) (fun _ _ _ h => h) (Or.inl ⟨rfl, fun W hW => by have cj : W.cell? ⟨p5, 0, none⟩ = some (.string s) := (h5.below hW l5).cell 0; go_simp⟩) hS0 ?_
  simp only [Act.put, List.setIfInBounds_toArray, List.set_cons_zero, List.set_cons_succ]
  refine takeR (fuel := 3) (i := 5) (v := .agg #[.int .i64 mem, .int .i64 book, .string s]) rfl (by kernel_rfl) (by kernel_rfl) (by kernel_rfl) (fun _ _ _ h => h) (Or.inl ⟨rfl, fun W hW => by go_simp⟩) hS0 ?_
  simp only [Act.put, List.setIfInBounds_toArray, List.set_cons_zero, List.set_cons_succ]
  refine consR (fuel := 2) (i := 1) rfl (by kernel_rfl) (fun K hK => ?_)
  rw [if_pos (by rfl)]
  go_simp
  refine (HK.out v0 hS0).mono ?_
  rintro e v1 ⟨rfl, hv1⟩
  refine hK.out _ _ (by rw [hv1]; exact hS0) (fun hS1 => ?_)
  clear hK hv1
  try simp only [Act.put, List.setIfInBounds_toArray, List.set_cons_zero, List.set_cons_succ]
  refine consR (fuel := 1) (i := 6) rfl (by kernel_rfl) (fun K hK => ?_)
  rw [if_pos (by rfl)]
  go_simp
  refine (HB.out v1 hS1).mono ?_
  rintro e v2 ⟨rfl, hS2'⟩
  refine hK.out _ _ hS2' (fun hS2 => ?_)
  clear hK
  try simp only [Act.put, List.setIfInBounds_toArray, List.set_cons_zero, List.set_cons_succ]
  refine takeR (fuel := 0) (i := 7) (v := .int .i64 G) rfl (by kernel_rfl) (by kernel_rfl) (by kernel_rfl) (fun _ _ _ h => h) (Or.inl ⟨rfl, fun W hW => by go_simp⟩) hS2 ?_
  simp only [Act.put, List.setIfInBounds_toArray, List.set_cons_zero, List.set_cons_succ]
  refine wpAnyH_done (by kernel_rfl) ?_ _
  go_wp2_with fail
  go_ret
  exact ⟨rfl, hS2⟩
theorem res42 {w : World} {g : Nat} {v0 v1 v2 v3 : Value} (h : Bx w g #[v0, v1, v2, v3] 42) : (loadVar 42 ⟨g, 0, none⟩).run Try.prog w = .ok (.agg #[v0, v1, v2, v3]) w :=
  run_loadVar_row w g 42 42 _ (0, 0) _ h Try.underlying42 rfl (by kernel_rfl)
def PsP (L : List Num.Bal) (mem : Int) (t : List UInt8) (w : World) (e : Ending) (w' : World) : Prop := e = .returned (.agg #[.int .i64 (Num.get L (mem, 1, t)), .int .i64 (Num.get L (mem, 2, t)), .int .i64 (Num.get L (mem, 3, t)), .int .i64 (Num.get L (mem, 4, t))]) ∧ Below w.heap.size w w'
set_option maxHeartbeats 8000000 in
theorem xpos (c q m : Nat) (L : List Num.Bal) (mem : Int) (s : ByteArray) (ha : ∀ b : Int, 1 ≤ b → b ≤ 4 → Wa (mem, b, s.toList)) (w : World) (h : Cu w c q m L) : Calls Try.prog 16 #[.pointer (some ⟨c, 0, none⟩), .int .i64 mem, .string s] w (PsP L mem s.toList w) := by
  obtain ⟨w1, hw1⟩ : ∃ w1, w1 = (((w.alloc (.cells #[.pointer (some ⟨c, 0, none⟩)] 23)).alloc (.cells #[.int .i64 mem] 3)).alloc (.cells #[.string s] 9)).alloc (.cells #[.int .i64 0, .int .i64 0, .int .i64 0, .int .i64 0] 42) := ⟨_, rfl⟩
  have HW : Hid ((((w.alloc (.cells #[.pointer (some ⟨c, 0, none⟩)] 23)).alloc (.cells #[.int .i64 mem] 3)).alloc (.cells #[.string s] 9)).alloc (.cells #[.int .i64 0, .int .i64 0, .int .i64 0, .int .i64 0] 42) = w1) := hw1.symm
  have hX3 : Bx w1 w.heap.size #[.pointer (some ⟨c, 0, none⟩)] 23 := by rw [hw1]; exact (((Bx.new w _ _).kept (grown_alloc _ _ none) (by simp)).kept (grown_alloc _ _ none) (by simp)).kept (grown_alloc _ _ none) (by simp)
  have hX4 : Bx w1 (w.heap.size + 1) #[.int .i64 mem] 3 := by
    rw [hw1]
    have := Bx.new (w.alloc (.cells #[.pointer (some ⟨c, 0, none⟩)] 23)) #[.int .i64 mem] 3
    rw [World.size_alloc] at this
    exact (this.kept (grown_alloc _ _ none) (by simp)).kept (grown_alloc _ _ none) (by simp)
  have hX5 : Bx w1 (w.heap.size + 2) #[.string s] 9 := by
    rw [hw1]
    have := Bx.new ((w.alloc (.cells #[.pointer (some ⟨c, 0, none⟩)] 23)).alloc (.cells #[.int .i64 mem] 3)) #[.string s] 9
    rw [World.size_alloc, World.size_alloc] at this
    exact this.kept (grown_alloc _ _ none) (by simp)
  have hX6 : Bx w1 (w.heap.size + 3) #[.int .i64 0, .int .i64 0, .int .i64 0, .int .i64 0] 42 := by
    rw [hw1]
    have := Bx.new (((w.alloc (.cells #[.pointer (some ⟨c, 0, none⟩)] 23)).alloc (.cells #[.int .i64 mem] 3)).alloc (.cells #[.string s] 9)) #[.int .i64 0, .int .i64 0, .int .i64 0, .int .i64 0] 42
    rw [World.size_alloc, World.size_alloc, World.size_alloc] at this
    exact this
  have hB1 : Below w.heap.size w w1 := by rw [hw1]; exact ((((Below.refl _ w).alloc (Nat.le_refl _) _).alloc (by simp) _).alloc (by simp; omega) _).alloc (by simp; omega) _
  have HC : Hid (∀ (b : Int) V, 1 ≤ b → b ≤ 4 → Below w1.heap.size w1 V → Calls Try.prog 40 #[.int .i64 b, .pointer (some ⟨w.heap.size, 0, none⟩), .pointer (some ⟨w.heap.size + 1, 0, none⟩), .pointer (some ⟨w.heap.size + 2, 0, none⟩)] V fun e w' => e = .returned (.int .i64 (Num.get L (mem, b, s.toList))) ∧ Hid (Below w1.heap.size w1 w')) := fun b V h1 h2 hb => (xhas c q m L _ _ _ mem b s (ha b h1 h2) V ((h.below hB1).below hb) (hX3.below hb hX3.lt) (hX4.below hb hX4.lt) (hX5.below hb hX5.lt)).mono fun _ _ k => ⟨k.1, hb.trans (k.2.mono hb.size)⟩
  have HC1 := HC.out 1 w1 (by omega) (by omega) (Below.refl _ _)
  have HC2 : Hid (∀ V, Below w1.heap.size w1 V → _) := fun V hb => HC.out 2 V (by omega) (by omega) hb
  have HC3 : Hid (∀ V, Below w1.heap.size w1 V → _) := fun V hb => HC.out 3 V (by omega) (by omega) hb
  have HC4 : Hid (∀ V, Below w1.heap.size w1 V → _) := fun V hb => HC.out 4 V (by omega) (by omega) hb
  have HC1' : Hid (Calls Try.prog 40 #[.int .i64 1, .pointer (some ⟨w.heap.size, 0, none⟩), .pointer (some ⟨w.heap.size + 1, 0, none⟩), .pointer (some ⟨w.heap.size + 2, 0, none⟩)] w1 fun e w' => e = .returned (.int .i64 (Num.get L (mem, 1, s.toList))) ∧ Hid (Below w1.heap.size w1 w')) := HC1
  have HFI : Hid (∀ V, Below w1.heap.size w1 V → V.cell? ⟨w.heap.size + 3, 0, none⟩ = some (.int .i64 0) ∧ V.cell? ⟨w.heap.size + 3, 1, none⟩ = some (.int .i64 0) ∧ V.cell? ⟨w.heap.size + 3, 2, none⟩ = some (.int .i64 0) ∧ V.cell? ⟨w.heap.size + 3, 3, none⟩ = some (.int .i64 0) ∧ V.frozen? ⟨w.heap.size + 3, 0, none⟩ = false ∧ V.frozen? ⟨w.heap.size + 3, 1, none⟩ = false ∧ V.frozen? ⟨w.heap.size + 3, 2, none⟩ = false ∧ V.frozen? ⟨w.heap.size + 3, 3, none⟩ = false ∧ Hid (∀ a b c d : Int, Bx ((((V.setCell ⟨w.heap.size + 3, 0, none⟩ (.int .i64 a)).setCell ⟨w.heap.size + 3, 1, none⟩ (.int .i64 b)).setCell ⟨w.heap.size + 3, 2, none⟩ (.int .i64 c)).setCell ⟨w.heap.size + 3, 3, none⟩ (.int .i64 d)) (w.heap.size + 3) #[.int .i64 a, .int .i64 b, .int .i64 c, .int .i64 d] 42 ∧ Below w.heap.size w ((((V.setCell ⟨w.heap.size + 3, 0, none⟩ (.int .i64 a)).setCell ⟨w.heap.size + 3, 1, none⟩ (.int .i64 b)).setCell ⟨w.heap.size + 3, 2, none⟩ (.int .i64 c)).setCell ⟨w.heap.size + 3, 3, none⟩ (.int .i64 d)))) := fun V hb => by
    have hx := hX6.below hb hX6.lt
    have hbb : Below w.heap.size w V := hB1.trans (hb.mono hB1.size)
    exact ⟨hx.cell 0, hx.cell 1, hx.cell 2, hx.cell 3, hx.froz 0, hx.froz 1, hx.froz 2, hx.froz 3, fun a b c d => ⟨(((hx.setc 0 _).setc 1 _).setc 2 _).setc 3 _, (((hbb.setCell (p := ⟨w.heap.size + 3, 0, none⟩) (by simp) _).setCell (p := ⟨w.heap.size + 3, 1, none⟩) (by simp) _).setCell (p := ⟨w.heap.size + 3, 2, none⟩) (by simp) _).setCell (p := ⟨w.heap.size + 3, 3, none⟩) (by simp) _⟩⟩
  clear HC HC1 h ha hX3 hX4 hX5 hX6 hB1 hw1
  unfold PsP
  generalize Num.get L (mem, 1, s.toList) = G1 at *
  generalize Num.get L (mem, 2, s.toList) = G2 at *
  generalize Num.get L (mem, 3, s.toList) = G3 at *
  generalize Num.get L (mem, 4, s.toList) = G4 at *
  go_enter Try.func16, Try.ntmps16
  go_upto_region 1 with fail
  rw [HW.out]
  clear HW
  go_wp2_with (first | (go_at_call 40; refine HC1'.out.mono ?_; rintro e w2 ⟨rfl, hb2⟩; clear HC1') | (go_at_call 40; refine (HC2.out _ hb2.out).mono ?_; rintro e w3 ⟨rfl, hb3⟩; clear HC2) | (go_at_call 40; refine (HC3.out _ hb3.out).mono ?_; rintro e w4 ⟨rfl, hb4⟩; clear HC3) | (go_at_call 40; refine (HC4.out _ hb4.out).mono ?_; rintro e w5 ⟨rfl, hb5⟩; clear HC4; obtain ⟨d0, d1, d2, d3, e0, e1, e2, e3, HFF⟩ := HFI.out _ hb5.out; clear HFI))
  refine bodyPost_ret (res_cell _ _ 6 42 _ _ _ rfl rfl (res42 (HFF.out _ _ _ _).1)) rfl ?_
  exact ⟨rfl, (HFF.out _ _ _ _).2⟩
theorem xpall (a b c d : Int) (w : World) : Calls Try.prog 17 #[.agg #[.int .i64 a, .int .i64 b, .int .i64 c, .int .i64 d]] w fun e w' => e = .returned (.int .i64 (wrap64 (wrap64 (wrap64 (a + b) + c) + d))) ∧ Below w.heap.size w w' := by
  have HB : Hid (∀ y, Below w.heap.size w (w.alloc y)) := fun y => (Below.refl _ w).alloc (Nat.le_refl _) _
  go_enter Try.func17, Try.ntmps17
  go_wp2
  go_ret
  exact ⟨rfl, HB.out _⟩
end Go.Proofs.Ytbfnfebmmhhegaa
