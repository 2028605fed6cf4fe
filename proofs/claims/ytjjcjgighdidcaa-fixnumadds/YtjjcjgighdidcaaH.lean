/- The walk of awake: the chapter's examples hold. No condition. -/
import Derived.Test.YtjjcjgighdidcaaG
import Derived.WalkKit
import Derived.ProofKit
import Derived.Handy
import Derived.WalkLawsBesides
import Derived.WalkSpells
import Derived.BigQuiet
import Derived.Deep.QuietTactic
import Derived.Deep.Light
import Derived.Deep.OwnRows
namespace Go.Proofs.Ytjjcjgighdidcaa
open Go.RowKit
set_option linter.unusedVariables false
set_option linter.unusedSimpArgs false
theorem md_vals : mdS 7 3 2 1 = 10 ∧ mdE 7 3 2 1 = 0 ∧ mdS 7 3 2 4 = 10 ∧ mdE 7 3 2 4 = 0 ∧ mdS (-7) 3 2 1 = -11 ∧ mdE (-7) 3 2 1 = 0 := by decide
theorem share_vals : shareE 10 [1, 1, 1] = 0 ∧ shareL 10 [1, 1, 1] = [4, 3, 3] := by decide

def TruePost (w : World) (e : Ending) (w' : World) : Prop := e = .returned (.bool true) ∧ Below w.heap.size w w'

theorem awake_true (w : World) : Calls Try.prog 13 #[] w (TruePost w) := by
  go_enter Try.func13, Try.ntmps13
  go_wp2_with fail
  refine (xmuldiv 7 3 2 1 (by decide) (by decide) (by decide) _ (Or.inl (by decide))).mono ?_
  rintro e w1 ⟨rfl, hb1⟩
  rw [md_vals.1, md_vals.2.1]
  have Hb1 : Hid _ := hb1
  clear hb1
  go_wp2_with fail
  refine (xmuldiv 7 3 2 4 (by decide) (by decide) (by decide) _ (Or.inl (by decide))).mono ?_
  rintro e w2 ⟨rfl, hb2⟩
  rw [md_vals.2.2.1, md_vals.2.2.2.1]
  have Hb2 : Hid _ := hb2
  clear hb2
  go_wp2_with fail
  refine (xmuldiv (-7) 3 2 1 (by decide) (by decide) (by decide) _ (Or.inl (by decide))).mono ?_
  rintro e w3 ⟨rfl, hb3⟩
  rw [md_vals.2.2.2.2.1, md_vals.2.2.2.2.2]
  have Hb3 : Hid _ := hb3
  clear hb3
  go_wp2_with fail
  refine (xshare 10 [1, 1, 1] (.slice (some ⟨w3.heap.size, 0, none⟩) 3 3) _ (by decide) ⟨?_, by decide⟩ ((Row.new w3 [1, 1, 1] .i64 3).seg 3) (Or.inl (by decide))).mono ?_
  · intro j
    match j with
    | 0 => decide
    | 1 => decide
    | 2 => decide
    | n + 3 => simp
  rintro e w4 ⟨v, rfl, hseg, hb4⟩
  rw [share_vals.1]
  rw [share_vals.2] at hseg
  have Hb4 : Hid _ := hb4
  have Hseg : Hid _ := hseg
  clear hb4 hseg
  go_wp2_with fail
  refine (rints [4, 3, 3] [4, 3, 3] v (.slice (some ⟨w4.heap.size, 0, none⟩) 3 3) _ (by decide) (Seg.below Hseg.out (Below.alloc (Below.refl _ _) (Nat.le_refl _) _)) ((Row.new w4 [4, 3, 3] .i64 3).seg 3)).mono ?_
  rintro e w5 ⟨rfl, n, rfl⟩
  rw [decide_eq_true rfl]
  go_wp2
  go_ret
  refine ⟨rfl, ?_⟩
  have h1 := Hb1.out
  have h2 := h1.trans (Hb2.out.mono h1.size)
  have h3 := h2.trans (Hb3.out.mono h2.size)
  have h4 := Hb4.out
  have h5 : Below w.heap.size w w4 := (h3.alloc h3.size _).trans (h4.mono (by simp; have := h3.size; omega))
  exact below_drewN (h5.alloc h5.size _)
end Go.Proofs.Ytjjcjgighdidcaa
