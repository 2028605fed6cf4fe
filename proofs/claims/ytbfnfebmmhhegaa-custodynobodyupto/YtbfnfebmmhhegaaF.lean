/- layer 11: a move; what is wrong with an entry -/
import Derived.Test.YtbfnfebmmhhegaaE
import Derived.WalkKit
import Derived.ProofKit
import Derived.Handy
import Derived.WalkLawsBesides
import Derived.WalkSpells
import Derived.BigQuiet
import Derived.BigCall
import Derived.Deep.QuietTactic
import Derived.Deep.Light
import Derived.Deep.OwnRows
import Derived.Laws.AppendOwnNone
import Derived.Laws.Strings3
import Derived.Laws.RangeAny
import Derived.Deep.RegionWith
import Derived.Lib.BitFns
import Derived.Lib.Walk
import Derived.Lib.Strings
import Derived.Lib.OthersKept
import Derived.Deep.CutBlock
import Derived.Deep.DeepCutAuto
import Derived.Deep.LoopGhost
import Derived.Deep.RegionHeld3
import Derived.Lib.SmallJoins
import Derived.Maps.AppendAt
import Derived.Laws.IdiomStrings
import Derived.Lib.AppendZeros
import Derived.Deep.WholeRow
import Derived.Laws.BitsAllLaws
import Derived.Lib.ConvBytes
import Derived.Deep.RegionLaw
import Derived.Maps.OwnSet
import Derived.Maps.OwnOps
import Derived.Maps.RangeWalk
import Derived.Maps.Ext
import Derived.DeepKeys4
import Derived.Laws.StructEq
namespace Go.Proofs.Ytbfnfebmmhhegaa
open Go.RowKit
set_option linter.unusedVariables false
set_option linter.unusedSimpArgs false
theorem wrap_in {x : Int} (h : -9223372036854775808 ≤ x ∧ x ≤ 9223372036854775807) : wrap64 x = x := by unfold wrap64; omega
def Rng (x : Int) : Prop := -9223372036854775808 ≤ x ∧ x ≤ 9223372036854775807
theorem Rng.wf {x : Int} (h : Rng x) : (Lit.int .i64 x).wf = true := WalkArith.wf_i64 h
theorem Rng.w {x : Int} (h : Rng x) : IntKind.i64.wrap x = x := IntWalk.i64_in x h
theorem Rng.w64 {x : Int} (h : Rng x) : wrap64 x = x := wrap_in h
set_option maxRecDepth 20000 in
set_option maxHeartbeats 2000000 in
theorem xmove (q m : Nat) (L : List Num.Bal) (o b o' b' n : Int) (s s' : ByteArray) (w : World) (h : Lg w q m L) (ha : Wa (o, b, s.toList)) (ha' : Wa (o', b', s'.toList)) (hs : s.size ≤ 281474976710656) (hs' : s'.size ≤ 281474976710656)
    (hr1 : Rng (Num.get L (o, b, s.toList) - n)) (hr2 : Rng (Num.get (Num.set L (o, b, s.toList) (Num.get L (o, b, s.toList) - n)) (o', b', s'.toList) + n)) (hl : L.length + 2 < maxLen) :
    Calls Try.prog 65 #[.pointer (some ⟨q, 0, none⟩), .agg #[.int .i64 o, .int .i64 b, .string s], .agg #[.int .i64 o', .int .i64 b', .string s'], .int .i64 n] w (PutP q m (Num.mv L (o, b, s.toList) (o', b', s'.toList) n) w) := by
  obtain ⟨w1, hw1⟩ : ∃ w1, w1 = (w.alloc (.cells #[.int .i64 o, .int .i64 b, .string s] 69)).alloc (.cells #[.int .i64 o', .int .i64 b', .string s'] 69) := ⟨_, rfl⟩
  have HW : Hid ((w.alloc (.cells #[.int .i64 o, .int .i64 b, .string s] 69)).alloc (.cells #[.int .i64 o', .int .i64 b', .string s'] 69) = w1) := hw1.symm
  have hX : Bx w1.drew w.heap.size #[.int .i64 o, .int .i64 b, .string s] 69 := by rw [hw1]; exact (Bx.new w _ _).kept (grown_trans (grown_alloc _ _ none) (grown_drew _ _)) (by simp)
  have hY : Bx w1.drew (w.heap.size + 1) #[.int .i64 o', .int .i64 b', .string s'] 69 := by
    rw [hw1]
    have := Bx.new (w.alloc (.cells #[.int .i64 o, .int .i64 b, .string s] 69)) #[.int .i64 o', .int .i64 b', .string s'] 69
    rw [World.size_alloc] at this
    exact this
  have hL1 : Lg w1.drew q m L := by rw [hw1]; exact ((h.alloc _).alloc _).drew
  have HG1 : Hid (w.grownBy w1.drew (some m)) := by unfold Hid; rw [hw1]; exact grown_trans (grown_trans (grown_alloc w _ _) (grown_alloc _ _ _)) (grown_drew _ _)
  have hne := h.ne
  have hmlt : m < w.heap.size := h.m.lt
  have hqlt := h.b.lt
  clear hw1
  have HP : Hid (Num.mv L (o, b, s.toList) (o', b', s'.toList) n = Num.set (Num.set L (o, b, s.toList) (Num.get L (o, b, s.toList) - n)) (o', b', s'.toList) (Num.get (Num.set L (o, b, s.toList) (Num.get L (o, b, s.toList) - n)) (o', b', s'.toList) + n)) := rfl
  obtain ⟨G, hG⟩ : ∃ G, G = Num.get L (o, b, s.toList) := ⟨_, rfl⟩
  rw [← hG] at hr1 hr2 HP
  have hk1 : (Instr.lookup 107 (.map (some m)) (.agg #[.int .i64 o, .int .i64 b, .string s]) false).run Try.prog w1.drew = .ok (.int .i64 G) w1.drew := by rw [hG]; exact hL1.m.look' ha
  have g1 : IntKind.i64.wrap (G - n) = G - n := hr1.w
  have g2 : wrap64 (G - n) = G - n := hr1.w64
  obtain ⟨L1, hL1e⟩ : ∃ L1, L1 = Num.set L (o, b, s.toList) (G - n) := ⟨_, rfl⟩
  have hl1 : L1.length < maxLen := by rw [hL1e]; have := Num.length_set L (o, b, s.toList) (G - n); omega
  rw [← hL1e] at hr2 HP
  have HC1 : Hid (Calls Try.prog 69 #[.pointer (some ⟨q, 0, none⟩), .agg #[.int .i64 o, .int .i64 b, .string s], .int .i64 (G - n)] w1.drew fun e w' => ∃ v, e = .returned v ∧ (v = .tuple #[] ∧ Lg w' q m L1 ∧ w1.drew.grownBy w' (some m))) := by
    refine (xput q m L o b (G - n) s w1.drew hL1 ha hs hr1.wf (by omega)).mono ?_
    rintro e w' ⟨rfl, h1, h2⟩
    exact ⟨_, rfl, rfl, by rw [hL1e]; exact h1, h2⟩
  have HS2 : Hid (∀ w2, Lg w2 q m L1 → w1.drew.grownBy w2 (some m) → ∃ G2, Hid (G2 = Num.get L1 (o', b', s'.toList)) ∧ w2.drew.cell? ⟨q, 0, none⟩ = some (.map (some m)) ∧ w2.drew.cell? ⟨w.heap.size + 1, 0, none⟩ = some (.int .i64 o') ∧ w2.drew.cell? ⟨w.heap.size + 1, 1, none⟩ = some (.int .i64 b') ∧ w2.drew.cell? ⟨w.heap.size + 1, 2, none⟩ = some (.string s') ∧
      (Instr.lookup 107 (.map (some m)) (.agg #[.int .i64 o', .int .i64 b', .string s']) false).run Try.prog w2.drew = .ok (.int .i64 G2) w2.drew ∧ IntKind.i64.wrap (G2 + n) = G2 + n ∧ wrap64 (G2 + n) = G2 + n ∧
      Hid (Calls Try.prog 69 #[.pointer (some ⟨q, 0, none⟩), .agg #[.int .i64 o', .int .i64 b', .string s'], .int .i64 (G2 + n)] w2.drew fun e w' => ∃ v, e = .returned v ∧ Hid (v = .tuple #[] ∧ Lg w' q m (Num.mv L (o, b, s.toList) (o', b', s'.toList) n) ∧ w.grownBy w' (some m)))) := by
    intro w2 h2 g
    have hY2 : Bx w2.drew (w.heap.size + 1) #[.int .i64 o', .int .i64 b', .string s'] 69 := hY.kept (grown_trans g (grown_drew _ _)) (by simp; omega)
    refine ⟨_, rfl, h2.drew.b.cell 0, hY2.cell 0, hY2.cell 1, hY2.cell 2, h2.drew.m.look' ha', hr2.w, hr2.w64, ?_⟩
    refine (xput q m L1 o' b' _ s' w2.drew h2.drew ha' hs' hr2.wf hl1).mono ?_
    rintro e w' ⟨rfl, k1, k2⟩
    exact ⟨_, rfl, rfl, by rw [HP.out]; exact k1, grown_trans HG1.out (grown_trans (grown_trans g (grown_drew _ _)) k2)⟩
  have cq : w1.drew.cell? ⟨q, 0, none⟩ = some (.map (some m)) := hL1.b.cell 0
  have c0 : w1.drew.cell? ⟨w.heap.size, 0, none⟩ = some (.int .i64 o) := hX.cell 0
  have c1 : w1.drew.cell? ⟨w.heap.size, 1, none⟩ = some (.int .i64 b) := hX.cell 1
  have c2 : w1.drew.cell? ⟨w.heap.size, 2, none⟩ = some (.string s) := hX.cell 2
  clear hX hY hL1 HG1 hne hmlt hqlt HP hr1 hr2 hl1 hL1e hG h ha ha' hs hs' hl
  go_enter Try.func65, Try.ntmps65
  go_upto_region 1 with fail
  rw [HW.out]
  clear HW
  go_region_law (refine step_call _ (by rfl) 69 #[.pointer (some ⟨q, 0, none⟩), .agg #[.int .i64 o, .int .i64 b, .string s], .int .i64 (G - n)] (by go_simp) _ HC1.out ?_; rintro v9 w2 ⟨rfl, k1, k2⟩; obtain ⟨G2, HG2, d, d0, d1, d2, hk2, i1, i2, HC2⟩ := HS2.out _ k1 k2)
  all_goals
    clear HC1 hk1 g1 g2 cq c0 c1 c2 HS2 k1 k2 HG2
    go_wp2_with fail
    go_region_law (refine step_call _ (by rfl) 69 #[.pointer (some ⟨q, 0, none⟩), .agg #[.int .i64 o', .int .i64 b', .string s'], .int .i64 (G2 + n)] (by go_simp) _ HC2.out ?_; rintro v9 w4 HZ)
  all_goals
    go_end0
    exact ⟨rfl, HZ.out.2.1, HZ.out.2.2⟩
end Go.Proofs.Ytbfnfebmmhhegaa
