/- layer 17: the chapter's example -/
import Derived.Test.YtheikjjehidagaaNO
import Derived.WalkKit
import Derived.ProofKit
import Derived.Handy
import Derived.WalkLawsBesides
import Derived.WalkSpells
import Derived.BigQuiet
import Derived.BigCall
import Derived.Deep.QuietTactic
import Derived.Deep.Light
import Derived.Deep.OwnRows
import Derived.Laws.AppendOwnNone
import Derived.Laws.Strings3
import Derived.Laws.RangeAny
import Derived.Deep.RegionWith
import Derived.Lib.BitFns
import Derived.Lib.Walk
import Derived.Lib.Strings
import Derived.Lib.OthersKept
import Derived.Deep.CutBlock
import Derived.Deep.DeepCutAuto
import Derived.Deep.LoopGhost
import Derived.Deep.RegionHeld3
import Derived.Lib.SmallJoins
import Derived.Maps.AppendAt
import Derived.Laws.IdiomStrings
import Derived.Lib.AppendZeros
import Derived.Deep.WholeRow
import Derived.Laws.BitsAllLaws
import Derived.Lib.ConvBytes
import Derived.Deep.RegionLaw
import Derived.Maps.OwnSet
import Derived.Maps.OwnOps
import Derived.Maps.RangeWalk
import Derived.Maps.Ext
import Derived.DeepKeys4
import Derived.Laws.StructEq
import Derived.Deep.MidRow
import Derived.Lib.Bytealg
import Derived.Lib.AppendZerosOnto
import Derived.Laws.MakeOwn
import Derived.Deep.Upon
import Derived.Sort.KeysCollected
namespace Go.Proofs.Ytheikjjehidagaa
open Go.RowKit
set_option linter.unusedVariables false
set_option linter.unusedSimpArgs false
set_option maxRecDepth 20000
theorem Rw.new {w : World} {P : List Lt} {cs : Array Value} (h : cs = (rcs lcs P).toArray) : Rw 2 lcs (w.alloc (.cells cs 43)) (some ⟨w.heap.size, 0, none⟩) P := by
  intro _
  subst h
  refine ⟨w.heap.size, 0, rfl, by simp, fun i hi j hj => ?_⟩
  have h1 := flat_at lcs 2 lcs_len P i hi j hj
  rw [(Bx.new w (rcs lcs P).toArray 43).cell, Nat.zero_add, List.getElem?_toArray]
  exact h1
def sA : ByteArray := ⟨#[65]⟩
def sB : ByteArray := ⟨#[66]⟩
def sC : ByteArray := ⟨#[67]⟩
theorem tA : sA.toList = [65] := by rw [tl]; rfl
theorem tB : sB.toList = [66] := by rw [tl]; rfl
theorem tC : sC.toList = [67] := by rw [tl]; rfl
def ex1 : List Lt := [⟨sA, 5⟩, ⟨sB, 2⟩]
def ex2 : List Lt := [⟨sA, 1⟩, ⟨sC, 4⟩]
def ex3 : List Lt := [⟨sA, 6⟩, ⟨sB, 2⟩, ⟨sC, 4⟩]
def ex4 : List Lt := [⟨sB, 2⟩]
def ex5 : List Lt := [⟨sA, 6⟩, ⟨sC, 4⟩]
theorem g1 : Good ex1 := ⟨by unfold Srt ex1; simp [key, tA, tB]; decide, by decide, by unfold ex1 okq; simp⟩
theorem g2 : Good ex2 := ⟨by unfold Srt ex2; simp [key, tA, tC]; decide, by decide, by unfold ex2 okq; simp⟩
theorem g4 : Good ex4 := ⟨by unfold Srt ex4; simp, by decide, by unfold ex4 okq; simp⟩
theorem kA (n : Int) : key ⟨sA, n⟩ = [65] := tA
theorem kB (n : Int) : key ⟨sB, n⟩ = [66] := tB
theorem kC (n : Int) : key ⟨sC, n⟩ = [67] := tC
theorem m3 : mrg ex1 ex2 = (ex3, 0) := by
  unfold ex1 ex2 ex3
  simp [mrg, addE, addL, setR, qty, kA, kB, kC, okq, List.cons_lt_cons_iff]
theorem g3 : Good ex3 := by
  have := mrg_good (b := ex2) g1 (by rw [m3])
  rwa [m3] at this
theorem m5 : mnL ex3 ex4 = ex5 ∧ mnE ex3 ex4 = 0 := by
  have : mnOk ex3 ex4 := by
    unfold mnOk ex3 ex4
    simp [qty, kA, kB, kC]
  unfold mnL mnE
  rw [if_pos this, if_pos this]
  refine ⟨?_, rfl⟩
  unfold ex3 ex4 ex5 pick
  simp [qty, kA, kB, kC]
theorem ex_small : ∀ x ∈ ex1 ++ ex2, x.i.size ≤ 281474976710656 := by
  have h : ∀ x ∈ ex1 ++ ex2, x.i.size = 1 := by
    intro x hx
    unfold ex1 ex2 at hx
    simp only [List.mem_append, List.mem_cons, List.not_mem_nil, or_false] at hx
    rcases hx with (rfl | rfl) | (rfl | rfl) <;> rfl
  intro x hx
  rw [h x hx]
  omega
theorem ex_small2 : ∀ x ∈ ex3 ++ ex4, x.i.size ≤ 281474976710656 := by
  have h : ∀ x ∈ ex3 ++ ex4, x.i.size = 1 := by
    intro x hx
    unfold ex3 ex4 at hx
    simp only [List.mem_append, List.mem_cons, List.not_mem_nil, or_false] at hx
    rcases hx with (rfl | rfl | rfl) | rfl <;> rfl
  intro x hx
  rw [h x hx]
  omega
set_option maxHeartbeats 8000000 in
theorem xawake (w : World) : Calls Try.prog 8 #[] w (BbP true w) := by
  obtain ⟨w1, hw1⟩ : ∃ w1, w1 = w.alloc (.cells #[.string ⟨#[65]⟩, .int .i64 5, .string ⟨#[66]⟩, .int .i64 2] 43) := ⟨_, rfl⟩
  obtain ⟨w2, hw2⟩ : ∃ w2, w2 = w1.alloc (.cells #[.string ⟨#[65]⟩, .int .i64 1, .string ⟨#[67]⟩, .int .i64 4] 43) := ⟨_, rfl⟩
  have HW : Hid ((w.alloc (.cells #[.string ⟨#[65]⟩, .int .i64 5, .string ⟨#[66]⟩, .int .i64 2] 43)).alloc (.cells #[.string ⟨#[65]⟩, .int .i64 1, .string ⟨#[67]⟩, .int .i64 4] 43) = w2) := by rw [hw2, hw1]; exact rfl
  have hs1 : w1.heap.size = w.heap.size + 1 := by rw [hw1]; simp
  have hb1 : Below w.heap.size w w1 := by rw [hw1]; exact below_a _ _
  have hb2 : Below w1.heap.size w1 w2 := by rw [hw2]; exact below_a _ _
  have r1 : Rw 2 lcs w1 (some ⟨w.heap.size, 0, none⟩) ex1 := by rw [hw1]; exact Rw.new rfl
  have r2 : Rw 2 lcs w2 (some ⟨w.heap.size + 1, 0, none⟩) ex2 := by rw [hw2, ← hs1]; exact Rw.new rfl
  have hbw : Below w.heap.size w w2 := hb1.trans (hb2.mono hb1.size)
  have HC : Hid (Calls Try.prog 15 #[.slice (some ⟨w.heap.size, 0, none⟩) 2 2, .slice (some ⟨w.heap.size + 1, 0, none⟩) 2 2] w2 fun e w3 => ∃ a3 c3, e = .returned (.tuple #[.slice a3 3 c3, .int .i64 0]) ∧ Hid (Rw 2 lcs w3 a3 ex3 ∧ Below w.heap.size w w3)) := by
    refine (xplus ex1 ex2 g1 (by decide) ex_small _ 2 _ 2 w2 (r1.below hb2) r2).mono ?_
    rintro e w3 ⟨a3, c3, rfl, HZ⟩
    rw [m3] at HZ ⊢
    exact ⟨a3, c3, rfl, HZ.out.1, hbw.trans (HZ.out.2.mono hbw.size)⟩
  have HC2 : Hid (∀ w3 a3 c3, Rw 2 lcs w3 a3 ex3 → Below w.heap.size w w3 → Calls Try.prog 17 #[.slice a3 3 c3, .slice (some ⟨w3.heap.size, 0, none⟩) 1 1] (w3.alloc (.cells #[.string ⟨#[66]⟩, .int .i64 2] 43)) fun e w4 => ∃ a4 c4, e = .returned (.tuple #[.slice a4 2 c4, .int .i64 0]) ∧ Hid (Rw 2 lcs w4 a3 ex3 ∧ Rw 2 lcs w4 a4 ex5 ∧ Below w.heap.size w w4)) := fun w3 a3 c3 h3 hb3 => by
    have hba := below_a w3 (.cells #[.string ⟨#[66]⟩, .int .i64 2] 43)
    refine (xminus ex3 ex4 g3 g4 ex_small2 a3 c3 _ 1 _ (h3.below hba) (Rw.new rfl)).mono ?_
    rintro e w4 ⟨a4, c4, rfl, HZ⟩
    rw [m5.1] at HZ ⊢
    rw [m5.2]
    have hb4 := hb3.trans (hba.mono hb3.size)
    exact ⟨a4, c4, rfl, (h3.below hba).below HZ.out.2, HZ.out.1, hb4.trans (HZ.out.2.mono hb4.size)⟩
  have HC3 : Hid (∀ w4 a3 c3 a4, Rw 2 lcs w4 a3 ex3 → Rw 2 lcs w4 a4 ex5 → Below w.heap.size w w4 → Calls Try.prog 13 #[.slice a3 3 c3, .slice (some ⟨w4.heap.size, 0, none⟩) 3 3] (w4.alloc (.cells #[.string ⟨#[65]⟩, .int .i64 6, .string ⟨#[66]⟩, .int .i64 2, .string ⟨#[67]⟩, .int .i64 4] 43)) fun e w5 => e = .returned (.bool true) ∧ Hid (Rw 2 lcs w5 a4 ex5 ∧ Below w.heap.size w w5)) := fun w4 a3 c3 a4 h3 h4 hb4 => by
    have hba := below_a w4 (.cells #[.string ⟨#[65]⟩, .int .i64 6, .string ⟨#[66]⟩, .int .i64 2, .string ⟨#[67]⟩, .int .i64 4] 43)
    refine (rlots ex3 (by decide) a3 c3 _ 3 _ (h3.below hba) (Rw.new rfl)).mono ?_
    rintro e w5 ⟨rfl, hb5⟩
    have hb5' := hb4.trans (hba.mono hb4.size)
    exact ⟨rfl, (h4.below hba).below hb5, hb5'.trans (hb5.mono hb5'.size)⟩
  have HC4 : Hid (∀ w5 a4 c4, Rw 2 lcs w5 a4 ex5 → Below w.heap.size w w5 → Calls Try.prog 13 #[.slice a4 2 c4, .slice (some ⟨w5.heap.size, 0, none⟩) 2 2] (w5.alloc (.cells #[.string ⟨#[65]⟩, .int .i64 6, .string ⟨#[67]⟩, .int .i64 4] 43)) fun e w6 => e = .returned (.bool true) ∧ Hid (Below w.heap.size w w6)) := fun w5 a4 c4 h4 hb4 => by
    have hba := below_a w5 (.cells #[.string ⟨#[65]⟩, .int .i64 6, .string ⟨#[67]⟩, .int .i64 4] 43)
    refine (rlots ex5 (by decide) a4 c4 _ 2 _ (h4.below hba) (Rw.new rfl)).mono ?_
    rintro e w6 ⟨rfl, hb6⟩
    have hb6' := hb4.trans (hba.mono hb4.size)
    exact ⟨rfl, hb6'.trans (hb6.mono hb6'.size)⟩
  clear hw1 hw2 hs1 hb1 hb2 r1 r2 hbw
  go_enter Try.func8, Try.ntmps8
  go_wp2_with (first | (go_at_call 15; rw [HW.out]; refine HC.out.mono ?_; clear HC; rintro e w3 ⟨a3, c3, rfl, HZ3⟩) | (go_at_call 17; refine (HC2.out _ _ _ HZ3.out.1 HZ3.out.2).mono ?_; clear HC2 HZ3; rintro e w4 ⟨a4, c4, rfl, HZ4⟩) | (go_at_call 13; refine (HC3.out _ _ _ _ HZ4.out.1 HZ4.out.2.1 HZ4.out.2.2).mono ?_; clear HC3 HZ4; rintro e w5 ⟨rfl, HZ5⟩) | (go_at_call 13; refine (HC4.out _ _ _ HZ5.out.1 HZ5.out.2).mono ?_; clear HC4 HZ5; rintro e w6 ⟨rfl, HZ6⟩))
  go_ret
  exact ⟨rfl, HZ6.out⟩
end Go.Proofs.Ytheikjjehidagaa
