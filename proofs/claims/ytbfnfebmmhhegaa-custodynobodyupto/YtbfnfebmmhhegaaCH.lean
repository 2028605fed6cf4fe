/- layer 12: Bring -/
import Derived.Test.YtbfnfebmmhhegaaCG
import Derived.WalkKit
import Derived.ProofKit
import Derived.Handy
import Derived.WalkLawsBesides
import Derived.WalkSpells
import Derived.BigQuiet
import Derived.BigCall
import Derived.Deep.QuietTactic
import Derived.Deep.Light
import Derived.Deep.OwnRows
import Derived.Laws.AppendOwnNone
import Derived.Laws.Strings3
import Derived.Laws.RangeAny
import Derived.Deep.RegionWith
import Derived.Lib.BitFns
import Derived.Lib.Walk
import Derived.Lib.Strings
import Derived.Lib.OthersKept
import Derived.Deep.CutBlock
import Derived.Deep.DeepCutAuto
import Derived.Deep.LoopGhost
import Derived.Deep.RegionHeld3
import Derived.Lib.SmallJoins
import Derived.Maps.AppendAt
import Derived.Laws.IdiomStrings
import Derived.Lib.AppendZeros
import Derived.Deep.WholeRow
import Derived.Laws.BitsAllLaws
import Derived.Lib.ConvBytes
import Derived.Deep.RegionLaw
import Derived.Maps.OwnSet
import Derived.Maps.OwnOps
import Derived.Maps.RangeWalk
import Derived.Maps.Ext
import Derived.DeepKeys4
import Derived.Laws.StructEq
import Derived.Shelf.SlSortCmp.NoneTotal
import Derived.Deep.MidRow
import Derived.Laws.MakeOwn
namespace Go.Proofs.Ytbfnfebmmhhegaa
open Go.RowKit
set_option linter.unusedVariables false
set_option linter.unusedSimpArgs false
set_option maxRecDepth 20000
/-- what is brought, as an entry -/
def brEnt (mem : Int) (s : List UInt8) (qty : Int) : Num.Ent := if qty < 0 then ((mem, 1, s), (0, 0, s), wrap64 (-qty)) else ((0, 0, s), (mem, 1, s), qty)
def brL (L : List Num.Bal) (mem : Int) (s : List UInt8) (qty : Int) : List Num.Bal := if wrm mem 1 = true then L else Num.post L [brEnt mem s qty]
def brE (L : List Num.Bal) (mem : Int) (s : List UInt8) (qty : Int) : Int := if wrm mem 1 = true then 22 else Num.whyf L [brEnt mem s qty]
def BrP (c q m : Nat) (L : List Num.Bal) (e : Int) (w : World) (x : Ending) (w' : World) : Prop := x = .returned (.int .i64 e) ∧ Cu w' c q m L ∧ w.grownBy w' (some m)
theorem info69 : (Try.prog.info? 69).map (fun i => (i.zero, i.size, i.bytes)) = some (some (.agg #[.int .i64 0, .int .i64 0, .string ⟨#[]⟩]), 3, 32) := by kernel_rfl
theorem load69 (W : World) (b p p1 p2 : Nat) (v0 v1 v2 : Value) (h1 : p1 = p + 1) (h2 : p2 = p + 2) (c0 : W.cell? ⟨b, p, none⟩ = some v0) (c1 : W.cell? ⟨b, p1, none⟩ = some v1) (c2 : W.cell? ⟨b, p2, none⟩ = some v2) : (Instr.loadAt 69 (.pointer (some ⟨b, p, none⟩))).run Try.prog W = .ok (.agg #[v0, v1, v2]) W := by
  subst h1 h2
  go_simp
theorem Kb.drew {B m : Nat} {a b : World} (h : Kb B m a b) : Kb B m a b.drew := ⟨h.os, h.tape, h.output, h.size, h.block⟩
/-- one entry, posted -/
theorem post_one (c q m : Nat) (L : List Num.Bal) (g : Num.Good L) (hl : L.length ≤ 100000) (x : Ex) (w0 W : World) (h : Cu w0 c q m L) (hb : Below w0.heap.size w0 W) :
    Calls Try.prog 48 #[.pointer (some ⟨q, 0, none⟩), .slice (some ⟨W.heap.size, 0, none⟩) 1 1] (W.alloc (.cells x.cs 94)) fun e w' => ∃ n : Int, e = .returned (.tuple #[.int .i64 n, .int .i64 (Num.whyf L [x.ent])]) ∧ Hid (Cu w' c q m (Num.post L [x.ent]) ∧ w0.grownBy w' (some m) ∧ (W.alloc (.cells x.cs 94)).grownBy w' (some m)) := by
  have hX := Bx.new W x.cs 94
  have hC : Cu (W.alloc (.cells x.cs 94)) c q m L := h.below (hb.alloc hb.size _)
  have hes : Es (W.alloc (.cells x.cs 94)).heap.size m (W.alloc (.cells x.cs 94)) (.slice (some ⟨W.heap.size, 0, none⟩) 1 1) [x] :=
    ⟨_, _, rfl, fun _ => ⟨W.heap.size, 0, rfl, by simp, by have := h.l.m.lt; have := hb.size; omega, fun i hi k hk => by
      obtain rfl : i = 0 := by simpa using hi
      rw [Nat.zero_mul, Nat.add_zero, Nat.zero_add]
      exact hX.cell k⟩⟩
  refine (xpost q m L g hl [x] (by simp) _ 1 1 (Nat.le_refl _) _ hC.l hes).mono ?_
  rintro e w' ⟨rfl, k1, k2⟩
  exact ⟨_, rfl, hC.post k1 k2, grown_trans (grown_trans (grown_of_below hb _) (grown_alloc _ _ _)) k2, k2⟩
set_option maxHeartbeats 8000000 in
theorem xbring (c q m : Nat) (L : List Num.Bal) (g : Num.Good L) (hl : L.length ≤ 100000) (mem : Int) (s : ByteArray) (qty : Int) (w : World) (h : Cu w c q m L) :
    Calls Try.prog 26 #[.pointer (some ⟨c, 0, none⟩), .int .i64 mem, .string s, .int .i64 qty] w (BrP c q m (brL L mem s.toList qty) (brE L mem s.toList qty) w) := by
  have HK : Hid (Calls Try.prog 41 #[.pointer (some ⟨c, 0, none⟩)] w fun e w' => e = .returned (.pointer (some ⟨q, 0, none⟩)) ∧ w = w') := xkept c q m L w h
  have HM : Hid (Calls Try.prog 47 #[.int .i64 mem] w fun e w' => e = .returned (.bool (!(wrm mem 1))) ∧ w = w') := xmem mem w
  by_cases hw : wrm mem 1 = true
  · have HF : Hid (BrP c q m (brL L mem s.toList qty) (brE L mem s.toList qty) w (.returned (.int .i64 22)) w) := by
      unfold brL brE
      rw [if_pos hw, if_pos hw]
      exact ⟨rfl, h, grown_of_below (Below.refl _ _) _⟩
    have HM' : Hid (Calls Try.prog 47 #[.int .i64 mem] w fun e w' => e = .returned (.bool false) ∧ w = w') := by rw [hw] at HM; exact HM
    clear h HM hw
    go_enter Try.func26, Try.ntmps26
    go_wp2_with (first | (go_at_call 41; refine HK.out.mono ?_; rintro e w1 ⟨rfl, rfl⟩; clear HK) | (go_at_call 47; refine HM'.out.mono ?_; rintro e w1 ⟨rfl, rfl⟩))
    go_ret
    exact HF.out
  · have hw' : wrm mem 1 = false := by simpa using hw
    have HM' : Hid (Calls Try.prog 47 #[.int .i64 mem] w fun e w' => e = .returned (.bool true) ∧ w = w') := by rw [hw'] at HM; exact HM
    have hcw : w.cell? ⟨c, 0, none⟩ = some (.pointer (some ⟨q, 0, none⟩)) := h.b.cell 0
    have hcl : c < w.heap.size := h.b.lt
    have hcm : c ≠ m := h.ne
    have hml : m < w.heap.size := h.l.m.lt
    by_cases hq : qty < 0
    · have hqn : qty < 0 := hq
      have hbe : Ex.ent ⟨mem, 1, s, 0, 0, s, wrap64 (-qty)⟩ = brEnt mem s.toList qty := by unfold brEnt; rw [if_pos hq]; rfl
      have HF : Hid (∀ w', Cu w' c q m (Num.post L [Ex.ent ⟨mem, 1, s, 0, 0, s, wrap64 (-qty)⟩]) ∧ w.grownBy w' (some m) → BrP c q m (brL L mem s.toList qty) (brE L mem s.toList qty) w (.returned (.int .i64 (Num.whyf L [Ex.ent ⟨mem, 1, s, 0, 0, s, wrap64 (-qty)⟩]))) w') := fun w' hh => by
        unfold brL brE
        rw [hbe] at hh ⊢
        rw [if_neg hw, if_neg hw]
        exact ⟨rfl, hh.1, hh.2⟩
      have HP : Hid (∀ W, Below w.heap.size w W → Calls Try.prog 48 #[.pointer (some ⟨q, 0, none⟩), .slice (some ⟨W.heap.size, 0, none⟩) 1 1] (W.alloc (.cells #[.int .i64 mem, .int .i64 1, .string s, .int .i64 0, .int .i64 0, .string s, .int .i64 (wrap64 (-qty))] 94)) fun e w' => ∃ n : Int, e = .returned (.tuple #[.int .i64 n, .int .i64 (Num.whyf L [Ex.ent ⟨mem, 1, s, 0, 0, s, wrap64 (-qty)⟩])]) ∧ Hid (Cu w' c q m (Num.post L [Ex.ent ⟨mem, 1, s, 0, 0, s, wrap64 (-qty)⟩]) ∧ w.grownBy w' (some m) ∧ (W.alloc (.cells #[.int .i64 mem, .int .i64 1, .string s, .int .i64 0, .int .i64 0, .string s, .int .i64 (wrap64 (-qty))] 94)).grownBy w' (some m))) := fun W hb => post_one c q m L g hl ⟨mem, 1, s, 0, 0, s, wrap64 (-qty)⟩ w W h hb
      generalize Num.whyf L [Ex.ent ⟨mem, 1, s, 0, 0, s, wrap64 (-qty)⟩] = FE at *
      generalize Num.post L [Ex.ent ⟨mem, 1, s, 0, 0, s, wrap64 (-qty)⟩] = FL at *
      generalize hAM : wrap64 (-qty) = AM at *
      obtain ⟨w1, hw1⟩ : ∃ w1, w1 = (w.alloc (.cells #[.int .i64 mem, .int .i64 1, .string s] 69)).alloc (.cells #[.int .i64 0, .int .i64 0, .string s] 69) := ⟨_, rfl⟩
      have HW : Hid ((w.alloc (.cells #[.int .i64 mem, .int .i64 1, .string s] 69)).alloc (.cells #[.int .i64 0, .int .i64 0, .string s] 69) = w1) := hw1.symm
      have hX1 : Bx w1 w.heap.size #[.int .i64 mem, .int .i64 1, .string s] 69 := by rw [hw1]; exact (Bx.new w _ _).kept (grown_alloc _ _ none) (by simp)
      have hX2 : Bx w1 (w.heap.size + 1) #[.int .i64 0, .int .i64 0, .string s] 69 := by
        rw [hw1]
        have := Bx.new (w.alloc (.cells #[.int .i64 mem, .int .i64 1, .string s] 69)) #[.int .i64 0, .int .i64 0, .string s] 69
        rw [World.size_alloc] at this
        exact this
      have hB1 : Below w.heap.size w w1 := by rw [hw1]; exact ((Below.refl _ w).alloc (Nat.le_refl _) _).alloc (by simp) _
      have hl1 : w.heap.size + 1 < w1.heap.size := hX2.lt
      have z0 : w1.cell? ⟨c, 0, none⟩ = some (.pointer (some ⟨q, 0, none⟩)) := (hB1.cell (p := ⟨c, 0, none⟩) hcl).trans hcw
      clear hw1 h HM hw hw' hbe hcw 
      go_enter Try.func26, Try.ntmps26
      go_upto_region 9 with (first | (go_at_call 41; refine HK.out.mono ?_; rintro e w1 ⟨rfl, rfl⟩; clear HK) | (go_at_call 47; refine HM'.out.mono ?_; rintro e w1 ⟨rfl, rfl⟩; clear HM'))
      try rw [hAM]
      rw [HW.out]
      refine wp_region_held (S := fun W => Kb w1.heap.size m w1 W) (by kernel_rfl) ?_
      change wpAnyH _ _ _ _ _ 15 #[false, false, false, false, false, false, false, false, false, false, false, false, false, false, false] _ w1.drew
      have hT0 : Below w.heap.size w w1.drew := hB1.trans ⟨rfl, rfl, rfl, Nat.le_refl _, fun _ _ => rfl⟩
      have hS0 : Kb w1.heap.size m w1 w1.drew := (Kb.refl _ _ _).drew
      obtain ⟨v0, hv0⟩ : ∃ v, v = w1.drew := ⟨_, rfl⟩
      rw [← hv0] at hS0 hT0 ⊢
      clear hv0
      refine takeR (fuel := 14) (i := 0) (v := .pointer (some ⟨c, 0, none⟩)) rfl (by kernel_rfl) (by kernel_rfl) (by kernel_rfl) (fun _ _ _ h => h) (Or.inl ⟨rfl, fun W hW => by go_simp⟩) hS0 ?_
      simp only [Act.put, List.setIfInBounds_toArray, List.set_cons_zero, List.set_cons_succ]
      refine takeR (fuel := 13) (i := 1) (v := .pointer (some ⟨c, 0, none⟩)) rfl (by kernel_rfl) (by kernel_rfl) (by kernel_rfl) (fun _ _ _ h => h) (Or.inl ⟨rfl, fun W hW => by go_simp⟩) hS0 ?_
      simp only [Act.put, List.setIfInBounds_toArray, List.set_cons_zero, List.set_cons_succ]
      refine takeR (fuel := 12) (i := 2) (v := .pointer (some ⟨c, 0, none⟩)) rfl (by kernel_rfl) (by kernel_rfl) (by kernel_rfl) (fun _ _ _ h => h) (Or.inl ⟨rfl, fun W hW => by go_simp⟩) hS0 ?_
      simp only [Act.put, List.setIfInBounds_toArray, List.set_cons_zero, List.set_cons_succ]
      refine takeR (fuel := 11) (i := 3) (v := .pointer (some ⟨q, 0, none⟩)) rfl (by kernel_rfl) (by kernel_rfl) (by kernel_rfl) (fun _ _ _ h => h) (Or.inl ⟨rfl, fun W hW => by have cj : W.cell? ⟨c, 0, none⟩ = some (.pointer (some ⟨q, 0, none⟩)) := (hW.cell (p := ⟨c, 0, none⟩) (by show c < _; omega) hcm).trans z0; go_simp⟩) hS0 ?_
      simp only [Act.put, List.setIfInBounds_toArray, List.set_cons_zero, List.set_cons_succ]
      refine takeR (fuel := 10) (i := 4) (v := .agg #[.int .i64 mem, .int .i64 1, .string s]) rfl (by kernel_rfl) (by kernel_rfl) (by kernel_rfl) (fun _ _ _ h => h) (Or.inl ⟨rfl, fun W hW => exl _ _ _ _ rfl _ _ rfl (load69 W w.heap.size 0 1 2 _ _ _ rfl rfl ((hW.bx hX1 (by omega) (by omega)).cell 0) ((hW.bx hX1 (by omega) (by omega)).cell 1) ((hW.bx hX1 (by omega) (by omega)).cell 2))⟩) hS0 ?_
      simp only [Act.put, List.setIfInBounds_toArray, List.set_cons_zero, List.set_cons_succ]
      refine takeR (fuel := 9) (i := 5) (v := .agg #[.int .i64 0, .int .i64 0, .string s]) rfl (by kernel_rfl) (by kernel_rfl) (by kernel_rfl) (fun _ _ _ h => h) (Or.inl ⟨rfl, fun W hW => exl _ _ _ _ rfl _ _ rfl (load69 W (w.heap.size + 1) 0 1 2 _ _ _ rfl rfl ((hW.bx hX2 (by omega) (by omega)).cell 0) ((hW.bx hX2 (by omega) (by omega)).cell 1) ((hW.bx hX2 (by omega) (by omega)).cell 2))⟩) hS0 ?_
      simp only [Act.put, List.setIfInBounds_toArray, List.set_cons_zero, List.set_cons_succ]
      refine takeR (fuel := 8) (i := 6) (v := .int .i64 AM) rfl (by kernel_rfl) (by kernel_rfl) (by kernel_rfl) (fun _ _ _ h => h) (Or.inl ⟨rfl, fun W hW => by go_simp⟩) hS0 ?_
      simp only [Act.put, List.setIfInBounds_toArray, List.set_cons_zero, List.set_cons_succ]
      refine takeR (fuel := 7) (i := 7) (v := .agg #[.int .i64 mem, .int .i64 1, .string s, .int .i64 0, .int .i64 0, .string s, .int .i64 AM]) rfl (by kernel_rfl) (by kernel_rfl) (by kernel_rfl) (fun _ _ _ h => h) (Or.inl ⟨rfl, fun W hW => by go_simp⟩) hS0 ?_
      simp only [Act.put, List.setIfInBounds_toArray, List.set_cons_zero, List.set_cons_succ]
      refine consR (fuel := 6) (i := 8) rfl (by kernel_rfl) (fun K hK => ?_)
      rw [if_pos (by rfl)]
      go_simp
      refine hK.out _ _ (hS0.trans (Kb.of_grown (grown_alloc _ _ none) hS0.size (fun r e => by cases e))) (fun hS1 => ?_)
      clear hK
      try simp only [Act.put, List.setIfInBounds_toArray, List.set_cons_zero, List.set_cons_succ]
      refine consR (fuel := 5) (i := 9) rfl (by kernel_rfl) (fun K hK => ?_)
      rw [if_pos (by rfl)]
      go_simp
      refine (HP.out v0 hT0).mono ?_
      rintro e v2 ⟨n2, rfl, HZ⟩
      refine hK.out _ _ (hS1.trans (Kb.of_grown HZ.out.2.2 (by have := hS0.size; simp; omega) (fun r e => by cases e; exact .inr rfl))) (fun hS2 => ?_)
      clear hK
      try simp only [Act.put, List.setIfInBounds_toArray, List.set_cons_zero, List.set_cons_succ]
      refine takeR (fuel := 4) (i := 10) (v := .tuple #[.int .i64 n2, .int .i64 FE]) rfl (by kernel_rfl) (by kernel_rfl) (by kernel_rfl) (fun _ _ _ h => h) (Or.inl ⟨rfl, fun W hW => by go_simp⟩) hS2 ?_
      simp only [Act.put, List.setIfInBounds_toArray, List.set_cons_zero, List.set_cons_succ]
      refine takeR (fuel := 3) (i := 11) (v := .int .i64 n2) rfl (by kernel_rfl) (by kernel_rfl) (by kernel_rfl) (fun _ _ _ h => h) (Or.inl ⟨rfl, fun W hW => by go_simp⟩) hS2 ?_
      simp only [Act.put, List.setIfInBounds_toArray, List.set_cons_zero, List.set_cons_succ]
      refine takeR (fuel := 2) (i := 12) (v := .int .i64 FE) rfl (by kernel_rfl) (by kernel_rfl) (by kernel_rfl) (fun _ _ _ h => h) (Or.inl ⟨rfl, fun W hW => by go_simp⟩) hS2 ?_
      simp only [Act.put, List.setIfInBounds_toArray, List.set_cons_zero, List.set_cons_succ]
      refine takeR (fuel := 1) (i := 13) (v := .int .i64 n2) rfl (by kernel_rfl) (by kernel_rfl) (by kernel_rfl) (fun _ _ _ h => h) (Or.inl ⟨rfl, fun W hW => by go_simp⟩) hS2 ?_
      simp only [Act.put, List.setIfInBounds_toArray, List.set_cons_zero, List.set_cons_succ]
      refine takeR (fuel := 0) (i := 14) (v := .int .i64 FE) rfl (by kernel_rfl) (by kernel_rfl) (by kernel_rfl) (fun _ _ _ h => h) (Or.inl ⟨rfl, fun W hW => by go_simp⟩) hS2 ?_
      simp only [Act.put, List.setIfInBounds_toArray, List.set_cons_zero, List.set_cons_succ]
      refine wpAnyH_done (by kernel_rfl) ?_ _
      go_wp2_with fail
      go_ret
      exact HF.out _ ⟨HZ.out.1, HZ.out.2.1⟩
    · have hqn : ¬ qty < 0 := hq
      have hbe : Ex.ent ⟨0, 0, s, mem, 1, s, qty⟩ = brEnt mem s.toList qty := by unfold brEnt; rw [if_neg hq]; rfl
      have HF : Hid (∀ w', Cu w' c q m (Num.post L [Ex.ent ⟨0, 0, s, mem, 1, s, qty⟩]) ∧ w.grownBy w' (some m) → BrP c q m (brL L mem s.toList qty) (brE L mem s.toList qty) w (.returned (.int .i64 (Num.whyf L [Ex.ent ⟨0, 0, s, mem, 1, s, qty⟩]))) w') := fun w' hh => by
        unfold brL brE
        rw [hbe] at hh ⊢
        rw [if_neg hw, if_neg hw]
        exact ⟨rfl, hh.1, hh.2⟩
      have HP : Hid (∀ W, Below w.heap.size w W → Calls Try.prog 48 #[.pointer (some ⟨q, 0, none⟩), .slice (some ⟨W.heap.size, 0, none⟩) 1 1] (W.alloc (.cells #[.int .i64 0, .int .i64 0, .string s, .int .i64 mem, .int .i64 1, .string s, .int .i64 qty] 94)) fun e w' => ∃ n : Int, e = .returned (.tuple #[.int .i64 n, .int .i64 (Num.whyf L [Ex.ent ⟨0, 0, s, mem, 1, s, qty⟩])]) ∧ Hid (Cu w' c q m (Num.post L [Ex.ent ⟨0, 0, s, mem, 1, s, qty⟩]) ∧ w.grownBy w' (some m) ∧ (W.alloc (.cells #[.int .i64 0, .int .i64 0, .string s, .int .i64 mem, .int .i64 1, .string s, .int .i64 qty] 94)).grownBy w' (some m))) := fun W hb => post_one c q m L g hl ⟨0, 0, s, mem, 1, s, qty⟩ w W h hb
      generalize Num.whyf L [Ex.ent ⟨0, 0, s, mem, 1, s, qty⟩] = FE at *
      generalize Num.post L [Ex.ent ⟨0, 0, s, mem, 1, s, qty⟩] = FL at *
      skip
      obtain ⟨w1, hw1⟩ : ∃ w1, w1 = (w.alloc (.cells #[.int .i64 0, .int .i64 0, .string s] 69)).alloc (.cells #[.int .i64 mem, .int .i64 1, .string s] 69) := ⟨_, rfl⟩
      have HW : Hid ((w.alloc (.cells #[.int .i64 0, .int .i64 0, .string s] 69)).alloc (.cells #[.int .i64 mem, .int .i64 1, .string s] 69) = w1) := hw1.symm
      have hX1 : Bx w1 w.heap.size #[.int .i64 0, .int .i64 0, .string s] 69 := by rw [hw1]; exact (Bx.new w _ _).kept (grown_alloc _ _ none) (by simp)
      have hX2 : Bx w1 (w.heap.size + 1) #[.int .i64 mem, .int .i64 1, .string s] 69 := by
        rw [hw1]
        have := Bx.new (w.alloc (.cells #[.int .i64 0, .int .i64 0, .string s] 69)) #[.int .i64 mem, .int .i64 1, .string s] 69
        rw [World.size_alloc] at this
        exact this
      have hB1 : Below w.heap.size w w1 := by rw [hw1]; exact ((Below.refl _ w).alloc (Nat.le_refl _) _).alloc (by simp) _
      have hl1 : w.heap.size + 1 < w1.heap.size := hX2.lt
      have z0 : w1.cell? ⟨c, 0, none⟩ = some (.pointer (some ⟨q, 0, none⟩)) := (hB1.cell (p := ⟨c, 0, none⟩) hcl).trans hcw
      clear hw1 h HM hw hw' hbe hcw hq
      go_enter Try.func26, Try.ntmps26
      go_upto_region 9 with (first | (go_at_call 41; refine HK.out.mono ?_; rintro e w1 ⟨rfl, rfl⟩; clear HK) | (go_at_call 47; refine HM'.out.mono ?_; rintro e w1 ⟨rfl, rfl⟩; clear HM'))
      skip
      rw [HW.out]
      refine wp_region_held (S := fun W => Kb w1.heap.size m w1 W) (by kernel_rfl) ?_
      change wpAnyH _ _ _ _ _ 15 #[false, false, false, false, false, false, false, false, false, false, false, false, false, false, false] _ w1.drew
      have hT0 : Below w.heap.size w w1.drew := hB1.trans ⟨rfl, rfl, rfl, Nat.le_refl _, fun _ _ => rfl⟩
      have hS0 : Kb w1.heap.size m w1 w1.drew := (Kb.refl _ _ _).drew
      obtain ⟨v0, hv0⟩ : ∃ v, v = w1.drew := ⟨_, rfl⟩
      rw [← hv0] at hS0 hT0 ⊢
      clear hv0
      refine takeR (fuel := 14) (i := 0) (v := .pointer (some ⟨c, 0, none⟩)) rfl (by kernel_rfl) (by kernel_rfl) (by kernel_rfl) (fun _ _ _ h => h) (Or.inl ⟨rfl, fun W hW => by go_simp⟩) hS0 ?_
      simp only [Act.put, List.setIfInBounds_toArray, List.set_cons_zero, List.set_cons_succ]
      refine takeR (fuel := 13) (i := 1) (v := .pointer (some ⟨c, 0, none⟩)) rfl (by kernel_rfl) (by kernel_rfl) (by kernel_rfl) (fun _ _ _ h => h) (Or.inl ⟨rfl, fun W hW => by go_simp⟩) hS0 ?_
      simp only [Act.put, List.setIfInBounds_toArray, List.set_cons_zero, List.set_cons_succ]
      refine takeR (fuel := 12) (i := 2) (v := .pointer (some ⟨c, 0, none⟩)) rfl (by kernel_rfl) (by kernel_rfl) (by kernel_rfl) (fun _ _ _ h => h) (Or.inl ⟨rfl, fun W hW => by go_simp⟩) hS0 ?_
      simp only [Act.put, List.setIfInBounds_toArray, List.set_cons_zero, List.set_cons_succ]
      refine takeR (fuel := 11) (i := 3) (v := .pointer (some ⟨q, 0, none⟩)) rfl (by kernel_rfl) (by kernel_rfl) (by kernel_rfl) (fun _ _ _ h => h) (Or.inl ⟨rfl, fun W hW => by have cj : W.cell? ⟨c, 0, none⟩ = some (.pointer (some ⟨q, 0, none⟩)) := (hW.cell (p := ⟨c, 0, none⟩) (by show c < _; omega) hcm).trans z0; go_simp⟩) hS0 ?_
      simp only [Act.put, List.setIfInBounds_toArray, List.set_cons_zero, List.set_cons_succ]
      refine takeR (fuel := 10) (i := 4) (v := .agg #[.int .i64 0, .int .i64 0, .string s]) rfl (by kernel_rfl) (by kernel_rfl) (by kernel_rfl) (fun _ _ _ h => h) (Or.inl ⟨rfl, fun W hW => exl _ _ _ _ rfl _ _ rfl (load69 W w.heap.size 0 1 2 _ _ _ rfl rfl ((hW.bx hX1 (by omega) (by omega)).cell 0) ((hW.bx hX1 (by omega) (by omega)).cell 1) ((hW.bx hX1 (by omega) (by omega)).cell 2))⟩) hS0 ?_
      simp only [Act.put, List.setIfInBounds_toArray, List.set_cons_zero, List.set_cons_succ]
      refine takeR (fuel := 9) (i := 5) (v := .agg #[.int .i64 mem, .int .i64 1, .string s]) rfl (by kernel_rfl) (by kernel_rfl) (by kernel_rfl) (fun _ _ _ h => h) (Or.inl ⟨rfl, fun W hW => exl _ _ _ _ rfl _ _ rfl (load69 W (w.heap.size + 1) 0 1 2 _ _ _ rfl rfl ((hW.bx hX2 (by omega) (by omega)).cell 0) ((hW.bx hX2 (by omega) (by omega)).cell 1) ((hW.bx hX2 (by omega) (by omega)).cell 2))⟩) hS0 ?_
      simp only [Act.put, List.setIfInBounds_toArray, List.set_cons_zero, List.set_cons_succ]
      refine takeR (fuel := 8) (i := 6) (v := .int .i64 qty) rfl (by kernel_rfl) (by kernel_rfl) (by kernel_rfl) (fun _ _ _ h => h) (Or.inl ⟨rfl, fun W hW => by go_simp⟩) hS0 ?_
      simp only [Act.put, List.setIfInBounds_toArray, List.set_cons_zero, List.set_cons_succ]
      refine takeR (fuel := 7) (i := 7) (v := .agg #[.int .i64 0, .int .i64 0, .string s, .int .i64 mem, .int .i64 1, .string s, .int .i64 qty]) rfl (by kernel_rfl) (by kernel_rfl) (by kernel_rfl) (fun _ _ _ h => h) (Or.inl ⟨rfl, fun W hW => by go_simp⟩) hS0 ?_
      simp only [Act.put, List.setIfInBounds_toArray, List.set_cons_zero, List.set_cons_succ]
      refine consR (fuel := 6) (i := 8) rfl (by kernel_rfl) (fun K hK => ?_)
      rw [if_pos (by rfl)]
      go_simp
      refine hK.out _ _ (hS0.trans (Kb.of_grown (grown_alloc _ _ none) hS0.size (fun r e => by cases e))) (fun hS1 => ?_)
      clear hK
      try simp only [Act.put, List.setIfInBounds_toArray, List.set_cons_zero, List.set_cons_succ]
      refine consR (fuel := 5) (i := 9) rfl (by kernel_rfl) (fun K hK => ?_)
      rw [if_pos (by rfl)]
      go_simp
      refine (HP.out v0 hT0).mono ?_
      rintro e v2 ⟨n2, rfl, HZ⟩
      refine hK.out _ _ (hS1.trans (Kb.of_grown HZ.out.2.2 (by have := hS0.size; simp; omega) (fun r e => by cases e; exact .inr rfl))) (fun hS2 => ?_)
      clear hK
      try simp only [Act.put, List.setIfInBounds_toArray, List.set_cons_zero, List.set_cons_succ]
      refine takeR (fuel := 4) (i := 10) (v := .tuple #[.int .i64 n2, .int .i64 FE]) rfl (by kernel_rfl) (by kernel_rfl) (by kernel_rfl) (fun _ _ _ h => h) (Or.inl ⟨rfl, fun W hW => by go_simp⟩) hS2 ?_
      simp only [Act.put, List.setIfInBounds_toArray, List.set_cons_zero, List.set_cons_succ]
      refine takeR (fuel := 3) (i := 11) (v := .int .i64 n2) rfl (by kernel_rfl) (by kernel_rfl) (by kernel_rfl) (fun _ _ _ h => h) (Or.inl ⟨rfl, fun W hW => by go_simp⟩) hS2 ?_
      simp only [Act.put, List.setIfInBounds_toArray, List.set_cons_zero, List.set_cons_succ]
      refine takeR (fuel := 2) (i := 12) (v := .int .i64 FE) rfl (by kernel_rfl) (by kernel_rfl) (by kernel_rfl) (fun _ _ _ h => h) (Or.inl ⟨rfl, fun W hW => by go_simp⟩) hS2 ?_
      simp only [Act.put, List.setIfInBounds_toArray, List.set_cons_zero, List.set_cons_succ]
      refine takeR (fuel := 1) (i := 13) (v := .int .i64 n2) rfl (by kernel_rfl) (by kernel_rfl) (by kernel_rfl) (fun _ _ _ h => h) (Or.inl ⟨rfl, fun W hW => by go_simp⟩) hS2 ?_
      simp only [Act.put, List.setIfInBounds_toArray, List.set_cons_zero, List.set_cons_succ]
      refine takeR (fuel := 0) (i := 14) (v := .int .i64 FE) rfl (by kernel_rfl) (by kernel_rfl) (by kernel_rfl) (fun _ _ _ h => h) (Or.inl ⟨rfl, fun W hW => by go_simp⟩) hS2 ?_
      simp only [Act.put, List.setIfInBounds_toArray, List.set_cons_zero, List.set_cons_succ]
      refine wpAnyH_done (by kernel_rfl) ?_ _
      go_wp2_with fail
      go_ret
      exact HF.out _ ⟨HZ.out.1, HZ.out.2.1⟩
end Go.Proofs.Ytbfnfebmmhhegaa
