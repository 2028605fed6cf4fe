/- Four numbers, and blows, as they are handed in. -/
import Derived.Test.YteiilifljfagdaaC
import Derived.WalkKit
import Derived.ProofKit
import Derived.OpenShut
import Derived.ChangeOld
import Derived.Below
import Derived.SizedLaws
import Derived.SliceStrings
namespace Go.Proofs.Yteiilifljfagdaa
open Go.RowKit
set_option linter.unusedVariables false
set_option linter.unusedSimpArgs false
open Go.ChangeShapes Go.WideShapes
def kOf (a b c d : Int) : Nat → Int := fun j => if j = 0 then a else if j = 1 then b else if j = 2 then c else if j = 3 then d else 0
theorem wf_i64 {a : Int} (h : (Lit.int .i64 a).wf = true) : -9223372036854775808 ≤ a ∧ a ≤ 9223372036854775807 := by
  simpa [Lit.wf, IntKind.min, IntKind.max, IntKind.signed, IntKind.bits] using h
theorem kOf_good {a b c d : Int} (ha : (Lit.int .i64 a).wf = true) (hb : (Lit.int .i64 b).wf = true) (hc : (Lit.int .i64 c).wf = true) (hd : (Lit.int .i64 d).wf = true) : ∀ j, -9223372036854775808 ≤ kOf a b c d j ∧ kOf a b c d j ≤ 9223372036854775807 := by
  intro j
  unfold kOf
  repeat' split
  · exact wf_i64 ha
  · exact wf_i64 hb
  · exact wf_i64 hc
  · exact wf_i64 hd
  · omega
theorem Try.cells3 : Try.prog.cellsOf 3 = 1 := by kernel_rfl
theorem Try.cells41 : Try.prog.cellsOf 41 = 4 := by kernel_rfl
set_option maxRecDepth 100000 in
/-- four numbers by value -/
theorem okArr {w : World} {r : Reach} {base : Nat} {v : Value} (h : Value.okWide Try.prog w r base 41 v) : ∃ cs, v = .agg cs := by
  simp only [Value.okWide, Try.underlying41] at h
  obtain ⟨cs, h1, _⟩ := h
  exact ⟨cs, h1⟩
section
variable {H : Type} {enc : TypeId × Value → H} {w : World} {base : Nat} {spare : Nat → Bool} {held : Bool}
theorem open_four {fuel : Nat} {cs : List Value} {x : DataW H × List MemPlace} (h : DataW.trod enc Try.prog w base spare held fuel 41 cs = some x) :
    ∃ a b c d : Int, cs = [.int .i64 a, .int .i64 b, .int .i64 c, .int .i64 d] ∧ ∀ j, -9223372036854775808 ≤ kOf a b c d j ∧ kOf a b c d j ≤ 9223372036854775807 := by
  obtain ⟨xs, m, -, -, hl, hxl, hx⟩ := DataW.trod_array (P := Try.prog) Try.underlying41 h
  rw [Try.cells41] at hl
  rw [Try.cells3] at hx
  match cs, hl with
  | [c0, c1, c2, c3], _ =>
    match xs, hxl with
    | [y0, y1, y2, y3], _ =>
      obtain ⟨a, e0, -, w0⟩ := DataW.trod_int Try.underlying3 (hx 0 (by omega))
      obtain ⟨b, e1, -, w1⟩ := DataW.trod_int Try.underlying3 (hx 1 (by omega))
      obtain ⟨c, e2, -, w2⟩ := DataW.trod_int Try.underlying3 (hx 2 (by omega))
      obtain ⟨d, e3, -, w3⟩ := DataW.trod_int Try.underlying3 (hx 3 (by omega))
      simp at e0 e1 e2 e3
      subst e0 e1 e2 e3
      exact ⟨a, b, c, d, rfl, kOf_good w0 w1 w2 w3⟩
end
end Go.Proofs.Yteiilifljfagdaa
