/- Bytes, as they are handed in. -/
import Derived.Test.YtgdoeflnfcjefaaX
import Derived.Test.YtgdoeflnfcjefaaU
import Derived.WalkKit
import Derived.ProofKit
import Derived.OpenShut
import Derived.ChangeOld
import Derived.Below
import Derived.SizedLaws
import Derived.SliceStrings
namespace Go.Proofs.Ytgdoeflnfcjefaa
open Go.RowKit
set_option linter.unusedVariables false
set_option linter.unusedSimpArgs false
open Go.ChangeShapes Go.WideShapes
theorem Try.cells5 : Try.prog.cellsOf 5 = 1 := by kernel_rfl
theorem Try.bytes5 : Try.prog.bytesOf 5 = 1 := by kernel_rfl
section
variable {H : Type} {enc : TypeId × Value → H} {w : World} {base : Nat} {spare : Nat → Bool} {held : Bool}
theorem open_byts {fuel : Nat} {a : Option Addr} {len cap : Nat} {x : DataW H × List MemPlace} (h : DataW.trod enc Try.prog w base spare held fuel 35 [.slice a len cap] = some x) (hz : ∀ es rs, x.1 = .slice es rs → (es.length + rs.length) * 1 ≤ 140737488351232) : Byts w a len := by
  rcases DataW.trod_slice Try.underlying35 h with ⟨h0, -⟩ | ⟨ad, len', cap', elems, rest, n, -, hcs, hx, hb, hl, hm, hlen, hel, -, -⟩
  · simp only [List.cons.injEq, Value.slice.injEq, and_true] at h0
    obtain ⟨rfl, rfl, rfl⟩ := h0
    exact ⟨fun h => absurd h (by omega), by omega⟩
  · simp only [List.cons.injEq, Value.slice.injEq, and_true] at hcs
    obtain ⟨rfl, rfl, rfl⟩ := hcs
    have each : ∀ i, i < len → ∃ x : Nat, x < 256 ∧ w.cell? (ad.add i) = some (.int .u8 x) := by
      intro i hi
      have h3 := hel i hi
      rw [List.getElem?_eq_getElem (by omega), Try.cells5, Option.bind_eq_some_iff] at h3
      obtain ⟨cs, hcs, hy⟩ := h3
      obtain ⟨-, hl2, hcell⟩ := World.cells?_some hcs
      obtain ⟨y, e0, -, w0⟩ := DataW.trod_int Try.underlying5 hy
      subst e0
      have h5 : 0 ≤ y ∧ y ≤ 255 := by simpa [Lit.wf, IntKind.min, IntKind.max, IntKind.signed, IntKind.bits] using w0
      obtain ⟨m, rfl⟩ := Int.eq_ofNat_of_zero_le h5.1
      have := hcell 0 (by simp)
      rw [Nat.mul_one] at this
      refine ⟨m, by omega, ?_⟩
      simpa [Addr.add] using this
    have hzz := hz _ _ (by rw [hx])
    simp only [List.length_map] at hzz
    refine ⟨fun h0 => ?_, by omega⟩
    obtain ⟨x0, _, hs⟩ := each 0 h0
    obtain ⟨b, off, spot⟩ := ad
    have hspot : spot = none := by simpa [Addr.add] using World.cell?_spot hs
    subst hspot
    refine ⟨b, off, rfl, World.block_lt_of_cell? w _ hs, fun j hj => ?_⟩
    obtain ⟨x1, hx1, e1⟩ := each j hj
    rw [add_flat _ rfl] at e1
    exact ⟨x1, hx1, e1⟩
end
end Go.Proofs.Ytgdoeflnfcjefaa
