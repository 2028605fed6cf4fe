/- layer 11: no ledger -/
import Derived.Test.YteoibfegekipjaaN
import Derived.WalkKit
import Derived.ProofKit
import Derived.Handy
import Derived.WalkLawsBesides
import Derived.WalkSpells
import Derived.BigQuiet
import Derived.BigCall
import Derived.Deep.QuietTactic
import Derived.Deep.Light
import Derived.Deep.OwnRows
import Derived.Laws.AppendOwnNone
import Derived.Laws.Strings3
import Derived.Laws.RangeAny
import Derived.Deep.RegionWith
import Derived.Lib.BitFns
import Derived.Lib.Walk
import Derived.Lib.Strings
import Derived.Lib.OthersKept
import Derived.Deep.CutBlock
import Derived.Deep.DeepCutAuto
import Derived.Deep.LoopGhost
import Derived.Deep.RegionHeld3
import Derived.Lib.SmallJoins
import Derived.Maps.AppendAt
import Derived.Laws.IdiomStrings
import Derived.Lib.AppendZeros
import Derived.Deep.WholeRow
import Derived.Laws.BitsAllLaws
import Derived.Lib.ConvBytes
import Derived.Deep.RegionLaw
import Derived.Maps.OwnSet
import Derived.Maps.OwnOps
import Derived.Maps.RangeWalk
import Derived.Maps.Ext
import Derived.DeepKeys4
import Derived.Laws.StructEq
namespace Go.Proofs.Yteoibfegekipjaa
open Go.RowKit
set_option linter.unusedVariables false
set_option linter.unusedSimpArgs false
def LackC (p : Value) (w : World) : Prop := Calls Try.prog 31 #[p] w fun e w' => e = .returned (.bool true) ∧ w = w'
theorem lack_nil (w : World) : LackC (.pointer none) w := (ylack w).mono fun _ _ h => ⟨h.1, h.2.symm⟩
theorem lack_zero (q : Nat) (w : World) (h : Bx w q #[.map none] 68) : LackC (.pointer (some ⟨q, 0, none⟩)) w := (zlack q w h).mono fun _ _ h => ⟨h.1, h.2.symm⟩
theorem nPost (p v : Value) (w : World) (h : LackC p w) : Calls Try.prog 13 #[p, v] w fun e w' => e = .returned (.tuple #[.int .i64 0, .int .i64 3]) ∧ w = w' := by
  have HC : Hid (Calls Try.prog 31 #[p] w fun e w' => e = .returned (.bool true) ∧ w = w') := h
  clear h
  go_enter Try.func13, Try.ntmps13
  go_wp2_with (go_at_call 31; refine HC.out.mono ?_; rintro e w1 ⟨rfl, rfl⟩)
  go_returns
  exact ⟨rfl, rfl⟩
theorem nBal (p : Value) (o b : Int) (s : ByteArray) (w : World) (h : ∀ W, Below w.heap.size w W → LackC p W) : Calls Try.prog 20 #[p, .agg #[.int .i64 o, .int .i64 b, .string s]] w fun e w' => e = .returned (.int .i64 0) ∧ Below w.heap.size w w' := by
  have HB : Hid (Below w.heap.size w (w.alloc (.cells #[.int .i64 o, .int .i64 b, .string s] 40))) := (Below.refl _ w).alloc (Nat.le_refl _) _
  have HC : Hid (Calls Try.prog 31 #[p] (w.alloc (.cells #[.int .i64 o, .int .i64 b, .string s] 40)) fun e w' => e = .returned (.bool true) ∧ (w.alloc (.cells #[.int .i64 o, .int .i64 b, .string s] 40)) = w') := h _ HB.out
  clear h
  go_enter Try.func20, Try.ntmps20
  go_wp2_with (go_at_call 31; refine HC.out.mono ?_; rintro e w1 ⟨rfl, rfl⟩)
  go_ret
  exact ⟨rfl, HB.out⟩
theorem nAll (p : Value) (w : World) (h : LackC p w) : Calls Try.prog 28 #[p] w fun e w' => e = .returned (.slice none 0 0) ∧ w = w' := by
  have HC : Hid (Calls Try.prog 31 #[p] w fun e w' => e = .returned (.bool true) ∧ w = w') := h
  clear h
  go_enter Try.func28, Try.ntmps28
  go_wp2_with (go_at_call 31; refine HC.out.mono ?_; rintro e w1 ⟨rfl, rfl⟩)
  go_ret
  exact ⟨rfl, rfl⟩
theorem nHeld (p : Value) (o : Int) (s : ByteArray) (w : World) (h : LackC p w) : Calls Try.prog 22 #[p, .int .i64 o, .string s] w fun e w' => e = .returned (.int .i64 0) ∧ w = w' := by
  have HC : Hid (Calls Try.prog 31 #[p] w fun e w' => e = .returned (.bool true) ∧ w = w') := h
  clear h
  go_enter Try.func22, Try.ntmps22
  go_wp2_with (go_at_call 31; refine HC.out.mono ?_; rintro e w1 ⟨rfl, rfl⟩)
  go_ret
  exact ⟨rfl, rfl⟩
theorem nOut (p : Value) (s : ByteArray) (w : World) (h : LackC p w) : Calls Try.prog 24 #[p, .string s] w fun e w' => e = .returned (.int .i64 0) ∧ w = w' := by
  have HC : Hid (Calls Try.prog 22 #[p, .int .i64 0, .string s] w fun e w' => e = .returned (.int .i64 0) ∧ w = w') := nHeld p 0 s w h
  clear h
  go_enter Try.func24, Try.ntmps24
  go_wp2_with (go_at_call 22; refine HC.out.mono ?_; rintro e w1 ⟨rfl, rfl⟩)
  go_ret
  exact ⟨rfl, rfl⟩
theorem nClone (p : Value) (w : World) (h : LackC p w) : Calls Try.prog 29 #[p] w fun e w' => e = .returned (.pointer none) ∧ w = w' := by
  have HC : Hid (Calls Try.prog 31 #[p] w fun e w' => e = .returned (.bool true) ∧ w = w') := h
  clear h
  go_enter Try.func29, Try.ntmps29
  go_wp2_with (go_at_call 31; refine HC.out.mono ?_; rintro e w1 ⟨rfl, rfl⟩)
  go_ret
  exact ⟨rfl, rfl⟩
theorem compact0 (w : World) : Calls Try.prog 41 #[.slice none 0 0] w fun e w' => e = .returned (.slice none 0 0) ∧ w = w' := by
  go_enter Try.func41, Try.ntmps41
  go_wp2
  go_ret
  exact ⟨rfl, rfl⟩
theorem nThings (p : Value) (w : World) (h : LackC p w) : Calls Try.prog 26 #[p] w fun e w' => e = .returned (.slice none 0 0) ∧ w = w' := by
  have HC : Hid (Calls Try.prog 28 #[p] w fun e w' => e = .returned (.slice none 0 0) ∧ w = w') := nAll p w h
  have HD : Hid (Calls Try.prog 41 #[.slice none 0 0] w fun e w' => e = .returned (.slice none 0 0) ∧ w = w') := compact0 w
  clear h
  go_enter Try.func26, Try.ntmps26
  go_wp2_with (go_at_call 28; refine HC.out.mono ?_; rintro e w1 ⟨rfl, rfl⟩)
  refine wp_loop_rounds 1 ?_
  rw [rounds_succ]
  go_wp2_with (go_at_call 41; refine HD.out.mono ?_; rintro e w1 ⟨rfl, rfl⟩)
  go_ret
  exact ⟨rfl, rfl⟩
/-- all of no ledger -/
structure Nob (W0 : World) (p : Value) (xs : List Ex) (o b : Int) (s : ByteArray) (lv : Value) : Prop where
  ents : ∀ W, Below W0.heap.size W0 W → Calls Try.prog 14 #[lv] W fun e w' => ∃ v, e = .returned v ∧ Below W0.heap.size W0 w'
  post : ∀ W v, Below W0.heap.size W0 W → Calls Try.prog 13 #[p, v] W fun e w' => e = .returned (.tuple #[.int .i64 0, .int .i64 3]) ∧ W = w'
  of : ∀ W, Below W0.heap.size W0 W → Calls Try.prog 17 #[.agg #[.int .i64 o, .int .i64 b, .string s]] W fun e w' => e = .returned (.agg #[.int .i64 o, .int .i64 b, .string s]) ∧ Below W0.heap.size W0 w'
  bal : ∀ W, Below W0.heap.size W0 W → Calls Try.prog 20 #[p, .agg #[.int .i64 o, .int .i64 b, .string s]] W fun e w' => e = .returned (.int .i64 0) ∧ Below W0.heap.size W0 w'
  all : ∀ W, Below W0.heap.size W0 W → Calls Try.prog 28 #[p] W fun e w' => e = .returned (.slice none 0 0) ∧ W = w'
  things : ∀ W, Below W0.heap.size W0 W → Calls Try.prog 26 #[p] W fun e w' => e = .returned (.slice none 0 0) ∧ W = w'
  held : ∀ W, Below W0.heap.size W0 W → Calls Try.prog 22 #[p, .int .i64 o, .string s] W fun e w' => e = .returned (.int .i64 0) ∧ W = w'
  out : ∀ W, Below W0.heap.size W0 W → Calls Try.prog 24 #[p, .string s] W fun e w' => e = .returned (.int .i64 0) ∧ W = w'
  clone : ∀ W, Below W0.heap.size W0 W → Calls Try.prog 29 #[p] W fun e w' => e = .returned (.pointer none) ∧ W = w'
theorem Nob.mk' {W0 : World} {p : Value} {xs : List Ex} {o b : Int} {s : ByteArray} {a : Option Addr} {cap : Nat} (hl : ∀ W, Below W0.heap.size W0 W → LackC p W) (he : Es W0.heap.size W0.heap.size W0 (.slice a xs.length cap) xs) (hn : xs.length * 72 ≤ 140737488355328) : Nob W0 p xs o b s (.slice a xs.length cap) where
  ents W h := by
    refine (xents xs a cap W ?_ hn).mono ?_
    · obtain ⟨a', c', e0, h1⟩ := he
      injection e0 with e1 e2 e3
      subst e1 e3
      refine ⟨a, cap, rfl, fun h2 => ?_⟩
      obtain ⟨blk, off, h3, h4, h5, h6⟩ := h1 h2
      have := h.size
      exact ⟨blk, off, h3, by omega, by omega, fun i hi k hk => (h.cell (p := ⟨blk, off + i * 7 + k, none⟩) h4).trans (h6 i hi k hk)⟩
    · rintro e w' ⟨v, rfl, _, hb⟩
      exact ⟨v, rfl, h.trans (hb.mono h.size)⟩
  post W v h := nPost p v W (hl W h)
  of W h := (xof o b s W).mono fun _ _ k => ⟨k.1, h.trans (k.2.mono h.size)⟩
  bal W h := (nBal p o b s W (fun W' h' => hl W' (h.trans (h'.mono h.size)))).mono fun _ _ k => ⟨k.1, h.trans (k.2.mono h.size)⟩
  all W h := nAll p W (hl W h)
  things W h := nThings p W (hl W h)
  held W h := nHeld p o s W (hl W h)
  out W h := nOut p s W (hl W h)
  clone W h := nClone p W (hl W h)
def TrueP (w : World) (e : Ending) (w' : World) : Prop := e = .returned (.bool true) ∧ Below w.heap.size w w'
set_option maxRecDepth 20000 in
set_option maxHeartbeats 4000000 in
theorem lnobody (xs : List Ex) (la : Option Addr) (lcap : Nat) (o b : Int) (s : ByteArray) (w : World) (he : Es w.heap.size w.heap.size w (.slice la xs.length lcap) xs) (hn : xs.length * 72 ≤ 140737488355328) :
    Calls Try.prog 8 #[.slice la xs.length lcap, .agg #[.int .i64 o, .int .i64 b, .string s]] w (TrueP w) := by
  obtain ⟨W0, hW0⟩ : ∃ W0, W0 = ((w.alloc (.cells #[.int .i64 o, .int .i64 b, .string s] 42)).alloc (.cells #[.map none] 68)).alloc (.cells #[.pointer none, .pointer (some ⟨w.heap.size + 1, 0, none⟩)] 25) := ⟨_, rfl⟩
  have HW : Hid (((w.alloc (.cells #[.int .i64 o, .int .i64 b, .string s] 42)).alloc (.cells #[.map none] 68)).alloc (.cells #[.pointer none, .pointer (some ⟨w.heap.size + 1, 0, none⟩)] 25) = W0) := hW0.symm
  have hA : Bx W0 w.heap.size #[.int .i64 o, .int .i64 b, .string s] 42 := by
    rw [hW0]; exact ((Bx.new w _ _).kept (grown_alloc _ _ none) (by simp)).kept (grown_alloc _ _ none) (by simp)
  have hZ : Bx W0 (w.heap.size + 1) #[.map none] 68 := by
    have := Bx.new (w.alloc (.cells #[.int .i64 o, .int .i64 b, .string s] 42)) #[.map none] 68
    rw [World.size_alloc] at this
    rw [hW0]; exact this.kept (grown_alloc _ _ none) (by simp)
  have hP : Bx W0 (w.heap.size + 2) #[.pointer none, .pointer (some ⟨w.heap.size + 1, 0, none⟩)] 25 := by
    have := Bx.new ((w.alloc (.cells #[.int .i64 o, .int .i64 b, .string s] 42)).alloc (.cells #[.map none] 68)) #[.pointer none, .pointer (some ⟨w.heap.size + 1, 0, none⟩)] 25
    rw [World.size_alloc, World.size_alloc] at this
    rw [hW0]; exact this
  have hB0 : Below w.heap.size w W0 := by rw [hW0]; exact (((Below.refl _ w).alloc (Nat.le_refl _) _).alloc (by simp) _).alloc (by simp; omega) _
  have hE0 : Es W0.heap.size W0.heap.size W0 (.slice la xs.length lcap) xs := by
    obtain ⟨a', c', e0, h1⟩ := he
    injection e0 with e1 e2 e3
    subst e1 e3
    refine ⟨la, lcap, rfl, fun h2 => ?_⟩
    obtain ⟨blk, off, h3, h4, h5, h6⟩ := h1 h2
    have := hB0.size
    exact ⟨blk, off, h3, by omega, by omega, fun i hi k hk => (hB0.cell (p := ⟨blk, off + i * 7 + k, none⟩) h4).trans (h6 i hi k hk)⟩
  have HN1 : Hid (Nob W0 (.pointer none) xs o b s (.slice la xs.length lcap)) := Nob.mk' (fun W _ => lack_nil W) hE0 hn
  have HN2 : Hid (Nob W0 (.pointer (some ⟨w.heap.size + 1, 0, none⟩)) xs o b s (.slice la xs.length lcap)) := Nob.mk' (fun W h => lack_zero _ W (hZ.below h hZ.lt)) hE0 hn
  have HA : Hid (Bx W0 w.heap.size #[.int .i64 o, .int .i64 b, .string s] 42) := hA
  have HP : Hid (Bx W0 (w.heap.size + 2) #[.pointer none, .pointer (some ⟨w.heap.size + 1, 0, none⟩)] 25) := hP
  have HB0 : Hid (Below w.heap.size w W0) := hB0
  have HAW : Hid (∀ W, Below W0.heap.size W0 W → Calls Try.prog 10 #[] W fun e w' => e = .returned (.bool true) ∧ Below w.heap.size w w') := fun W h => (xawake W).mono fun _ _ k => ⟨k.1, hB0.trans ((h.trans (k.2.mono h.size)).mono hB0.size)⟩
  clear hA hZ hP hB0 hE0 hW0 he hn
  generalize (Value.slice la xs.length lcap) = lv at *
  go_enter Try.func8, Try.ntmps8
  go_wp2_with fail
  rw [HW.out]
  go_loopw [13] (fun i wr => ∃ k : Nat, k ≤ 2 ∧ i = .int .i64 k ∧ Hid (Below W0.heap.size W0 wr)) (fun i _ => 2 - (intOf i).toNat)
  case atStart => exact ⟨0, by omega, rfl, Below.refl _ _⟩
  case round =>
    obtain ⟨k, hk, rfl, HR⟩ := hrel
    rcases k with _ | _ | _ | k
    · have p0 : wr.cell? ⟨w.heap.size + 1 + 1, 0, none⟩ = some (.pointer none) := (HP.out.below HR.out HP.out.lt).cell 0
      have c0 : wr.cell? ⟨w.heap.size, 0, none⟩ = some (.int .i64 o) := (HA.out.below HR.out HA.out.lt).cell 0
      have c1 : wr.cell? ⟨w.heap.size, 1, none⟩ = some (.int .i64 b) := (HA.out.below HR.out HA.out.lt).cell 1
      have c2 : wr.cell? ⟨w.heap.size, 2, none⟩ = some (.string s) := (HA.out.below HR.out HA.out.lt).cell 2
      have HCe : Hid (∀ W, Below W0.heap.size W0 W → W.cell? ⟨w.heap.size, 0, none⟩ = some (.int .i64 o) ∧ W.cell? ⟨w.heap.size, 1, none⟩ = some (.int .i64 b) ∧ W.cell? ⟨w.heap.size, 2, none⟩ = some (.string s)) := fun W h => ⟨(HA.out.below h HA.out.lt).cell 0, (HA.out.below h HA.out.lt).cell 1, (HA.out.below h HA.out.lt).cell 2⟩
      go_wp2_with (first | (go_at_call 14; refine (HN1.out.ents _ HR.out).mono ?_; rintro e w1 ⟨v, rfl, hb1⟩; have HB1 : Hid (Below W0.heap.size W0 w1) := hb1; obtain ⟨x0, x1, x2⟩ := HCe.out w1 hb1; clear hb1) | (go_at_call 13; refine (HN1.out.post _ _ HB1.out).mono ?_; rintro e w2 ⟨rfl, rfl⟩) | (go_at_call 17; refine (HN1.out.of _ HB1.out).mono ?_; rintro e w3 ⟨rfl, hb3⟩; have HB3 : Hid (Below W0.heap.size W0 w3) := hb3; clear hb3) | (go_at_call 20; refine (HN1.out.bal _ HB3.out).mono ?_; rintro e w4 ⟨rfl, hb4⟩; have HB4 : Hid (Below W0.heap.size W0 w4) := hb4; obtain ⟨y0, y1, y2⟩ := HCe.out w4 hb4; clear hb4) | (go_at_call 28; refine (HN1.out.all _ HB4.out).mono ?_; rintro e w5 ⟨rfl, rfl⟩) | (go_at_call 26; refine (HN1.out.things _ HB4.out).mono ?_; rintro e w6 ⟨rfl, rfl⟩) | (go_at_call 22; refine (HN1.out.held _ HB4.out).mono ?_; rintro e w7 ⟨rfl, rfl⟩) | (go_at_call 24; refine (HN1.out.out _ HB4.out).mono ?_; rintro e w8 ⟨rfl, rfl⟩) | (go_at_call 29; refine (HN1.out.clone _ HB4.out).mono ?_; rintro e w9 ⟨rfl, rfl⟩))
      exact ⟨⟨1, by omega, rfl, HB4⟩, by simp [intOf]⟩
    · have p0 : wr.cell? ⟨w.heap.size + 1 + 1, 1, none⟩ = some (.pointer (some ⟨w.heap.size + 1, 0, none⟩)) := (HP.out.below HR.out HP.out.lt).cell 1
      have c0 : wr.cell? ⟨w.heap.size, 0, none⟩ = some (.int .i64 o) := (HA.out.below HR.out HA.out.lt).cell 0
      have c1 : wr.cell? ⟨w.heap.size, 1, none⟩ = some (.int .i64 b) := (HA.out.below HR.out HA.out.lt).cell 1
      have c2 : wr.cell? ⟨w.heap.size, 2, none⟩ = some (.string s) := (HA.out.below HR.out HA.out.lt).cell 2
      have HCe : Hid (∀ W, Below W0.heap.size W0 W → W.cell? ⟨w.heap.size, 0, none⟩ = some (.int .i64 o) ∧ W.cell? ⟨w.heap.size, 1, none⟩ = some (.int .i64 b) ∧ W.cell? ⟨w.heap.size, 2, none⟩ = some (.string s)) := fun W h => ⟨(HA.out.below h HA.out.lt).cell 0, (HA.out.below h HA.out.lt).cell 1, (HA.out.below h HA.out.lt).cell 2⟩
      go_wp2_with (first | (go_at_call 14; refine (HN2.out.ents _ HR.out).mono ?_; rintro e w1 ⟨v, rfl, hb1⟩; have HB1 : Hid (Below W0.heap.size W0 w1) := hb1; obtain ⟨x0, x1, x2⟩ := HCe.out w1 hb1; clear hb1) | (go_at_call 13; refine (HN2.out.post _ _ HB1.out).mono ?_; rintro e w2 ⟨rfl, rfl⟩) | (go_at_call 17; refine (HN2.out.of _ HB1.out).mono ?_; rintro e w3 ⟨rfl, hb3⟩; have HB3 : Hid (Below W0.heap.size W0 w3) := hb3; clear hb3) | (go_at_call 20; refine (HN2.out.bal _ HB3.out).mono ?_; rintro e w4 ⟨rfl, hb4⟩; have HB4 : Hid (Below W0.heap.size W0 w4) := hb4; obtain ⟨y0, y1, y2⟩ := HCe.out w4 hb4; clear hb4) | (go_at_call 28; refine (HN2.out.all _ HB4.out).mono ?_; rintro e w5 ⟨rfl, rfl⟩) | (go_at_call 26; refine (HN2.out.things _ HB4.out).mono ?_; rintro e w6 ⟨rfl, rfl⟩) | (go_at_call 22; refine (HN2.out.held _ HB4.out).mono ?_; rintro e w7 ⟨rfl, rfl⟩) | (go_at_call 24; refine (HN2.out.out _ HB4.out).mono ?_; rintro e w8 ⟨rfl, rfl⟩) | (go_at_call 29; refine (HN2.out.clone _ HB4.out).mono ?_; rintro e w9 ⟨rfl, rfl⟩))
      exact ⟨⟨2, by omega, rfl, HB4⟩, by simp [intOf]⟩
    · go_wp2_with (go_at_call 10; refine (HAW.out _ HR.out).mono ?_; rintro e w1 ⟨rfl, hb1⟩)
      go_ret
      exact ⟨rfl, hb1⟩
    · omega
end Go.Proofs.Yteoibfegekipjaa
