/- Blows, and bytes, as they are handed in. -/
import Derived.Test.YteiilifljfagdaaX2
import Derived.Test.YteiilifljfagdaaZ3
import Derived.WalkKit
import Derived.ProofKit
import Derived.OpenShut
import Derived.ChangeOld
import Derived.Below
import Derived.SizedLaws
import Derived.SliceStrings
namespace Go.Proofs.Yteiilifljfagdaa
open Go.RowKit
set_option linter.unusedVariables false
set_option linter.unusedSimpArgs false
open Go.ChangeShapes Go.WideShapes
theorem Try.cells60 : Try.prog.cellsOf 60 = 5 := by kernel_rfl
theorem Try.bytes60 : Try.prog.bytesOf 60 = 40 := by kernel_rfl
theorem Try.cells5 : Try.prog.cellsOf 5 = 1 := by kernel_rfl
theorem Try.bytes5 : Try.prog.bytesOf 5 = 1 := by kernel_rfl
theorem add_flat (a : Addr) (h : a.spot = none) (i : Nat) : a.add i = ⟨a.block, a.off + i, none⟩ := by
  obtain ⟨b, off, spot⟩ := a
  subst h
  cases i <;> simp [Addr.add]
section
variable {H : Type} {enc : TypeId × Value → H} {w : World} {base : Nat} {spare : Nat → Bool} {held : Bool}
set_option maxRecDepth 100000 in
theorem open_blow {fuel : Nat} {cs : List Value} {x : DataW H × List MemPlace} (h : DataW.trod enc Try.prog w base spare held fuel 60 cs = some x) :
    ∃ (l : Int) (K : Nat → Int), cs = [.int .i64 l, .int .i64 (K 0), .int .i64 (K 1), .int .i64 (K 2), .int .i64 (K 3)] ∧ (-9223372036854775808 ≤ l ∧ l ≤ 9223372036854775807) ∧ ∀ j, -9223372036854775808 ≤ K j ∧ K j ≤ 9223372036854775807 := by
  obtain ⟨xs, m, -, -, hl, hxl, hx⟩ := DataW.trod_struct (P := Try.prog) Try.underlying60 h
  rw [Try.cells60] at hl
  match cs, hl with
  | [c0, c1, c2, c3, c4], _ =>
    match xs, hxl with
    | [y0, y1], _ =>
      have h0 : DataW.trod enc Try.prog w base spare held m 3 (([c0, c1, c2, c3, c4].drop 0).take (Try.prog.cellsOf 3)) = some y0 := hx 0 _ rfl
      rw [Try.cells3] at h0
      have h1 : DataW.trod enc Try.prog w base spare held m 41 (([c0, c1, c2, c3, c4].drop 1).take (Try.prog.cellsOf 41)) = some y1 := hx 1 _ rfl
      rw [Try.cells41] at h1
      obtain ⟨a, e0, -, w0⟩ := DataW.trod_int Try.underlying3 h0
      obtain ⟨p, q, r, s, e4, w4⟩ := open_four h1
      simp at e0 e4
      obtain ⟨f0, f1, f2, f3⟩ := e4
      subst e0 f0 f1 f2 f3
      exact ⟨a, kOf p q r s, rfl, wf_i64 w0, w4⟩
theorem collectB {Q : Nat → Int × (Nat → Int) → Prop} (n : Nat) : (∀ i, i < n → ∃ p, Q i p) → ∃ f : Nat → Int × (Nat → Int), ∀ i, i < n → Q i (f i) := by
  intro h
  refine ⟨fun i => if hi : i < n then Classical.choose (h i hi) else (0, fun _ => 0), fun i hi => ?_⟩
  simp only [hi, dite_true]
  exact Classical.choose_spec (h i hi)
theorem open_blows {fuel : Nat} {a : Option Addr} {len cap : Nat} {x : DataW H × List MemPlace} (h : DataW.trod enc Try.prog w base spare held fuel 56 [.slice a len cap] = some x) (hz : ∀ es rs, x.1 = .slice es rs → (es.length + rs.length) * 40 ≤ 140737488351232) :
    ∃ (L : Nat → Int) (K : Nat → Nat → Int), Blws w a len L K := by
  rcases DataW.trod_slice Try.underlying56 h with ⟨h0, -⟩ | ⟨ad, len', cap', elems, rest, n, -, hcs, hx, hb, hl, hm, hlen, hel, -, -⟩
  · simp only [List.cons.injEq, Value.slice.injEq, and_true] at h0
    obtain ⟨rfl, rfl, rfl⟩ := h0
    exact ⟨fun _ => 0, fun _ _ => 0, fun h => absurd h (by omega), fun _ => ⟨by omega, fun _ => by omega⟩, by omega⟩
  · simp only [List.cons.injEq, Value.slice.injEq, and_true] at hcs
    obtain ⟨rfl, rfl, rfl⟩ := hcs
    have each : ∀ i, i < len → ∃ p : Int × (Nat → Int), (w.cell? ((ad.add (i * 5)).add 0) = some (.int .i64 p.1) ∧ ∀ o, o < 4 → w.cell? ((ad.add (i * 5)).add (1 + o)) = some (.int .i64 (p.2 o))) ∧ ((-9223372036854775808 ≤ p.1 ∧ p.1 ≤ 9223372036854775807) ∧ ∀ j, -9223372036854775808 ≤ p.2 j ∧ p.2 j ≤ 9223372036854775807) := by
      intro i hi
      have h3 := hel i hi
      rw [List.getElem?_eq_getElem (by omega), Try.cells60, Option.bind_eq_some_iff] at h3
      obtain ⟨cs, hcs, hy⟩ := h3
      obtain ⟨-, hl2, hcell⟩ := World.cells?_some hcs
      obtain ⟨l, K, rfl, g1, g2⟩ := open_blow hy
      refine ⟨(l, K), ⟨?_, fun o ho => ?_⟩, g1, g2⟩
      · have := hcell 0 (by simp)
        simpa using this
      · have ho4 : o = 0 ∨ o = 1 ∨ o = 2 ∨ o = 3 := by omega
        rcases ho4 with rfl | rfl | rfl | rfl
        · have := hcell 1 (by simp); simpa using this
        · have := hcell 2 (by simp); simpa using this
        · have := hcell 3 (by simp); simpa using this
        · have := hcell 4 (by simp); simpa using this
    obtain ⟨f, hf⟩ := collectB (Q := fun i p => (w.cell? ((ad.add (i * 5)).add 0) = some (.int .i64 p.1) ∧ ∀ o, o < 4 → w.cell? ((ad.add (i * 5)).add (1 + o)) = some (.int .i64 (p.2 o))) ∧ ((-9223372036854775808 ≤ p.1 ∧ p.1 ≤ 9223372036854775807) ∧ ∀ j, -9223372036854775808 ≤ p.2 j ∧ p.2 j ≤ 9223372036854775807)) len each
    have hzz := hz _ _ (by rw [hx])
    simp only [List.length_map] at hzz
    refine ⟨fun j => if j < len then (f j).1 else 0, fun j => if j < len then (f j).2 else fun _ => 0, fun h0 => ?_, fun j => ?_, by omega⟩
    · have hs := (hf 0 h0).1.1
      obtain ⟨b, off, spot⟩ := ad
      have hspot : spot = none := by simpa [Addr.add] using World.cell?_spot hs
      subst hspot
      refine ⟨b, off, rfl, World.block_lt_of_cell? w _ hs, fun j hj => ?_⟩
      obtain ⟨e1, e2⟩ := (hf j hj).1
      have hadd : ∀ i o, ((⟨b, off, none⟩ : Addr).add i).add o = ⟨b, off + i + o, none⟩ := fun i o => by rw [add_flat ⟨b, off, none⟩ rfl, add_flat ⟨b, off + i, none⟩ rfl]
      rw [hadd] at e1
      simp only [hj, if_true]
      refine ⟨e1, fun o ho => ?_⟩
      have e3 := e2 o ho
      rw [hadd] at e3
      rw [show off + j * 5 + 1 + o = off + j * 5 + (1 + o) by omega]
      exact e3
    · by_cases hj : j < len
      · simp only [hj, if_true]
        exact (hf j hj).2
      · simp only [hj, if_false]
        exact ⟨by omega, fun _ => by omega⟩
theorem open_byts {fuel : Nat} {a : Option Addr} {len cap : Nat} {x : DataW H × List MemPlace} (h : DataW.trod enc Try.prog w base spare held fuel 55 [.slice a len cap] = some x) (hz : ∀ es rs, x.1 = .slice es rs → (es.length + rs.length) * 1 ≤ 140737488351232) : Byts w a len := by
  rcases DataW.trod_slice Try.underlying55 h with ⟨h0, -⟩ | ⟨ad, len', cap', elems, rest, n, -, hcs, hx, hb, hl, hm, hlen, hel, -, -⟩
  · simp only [List.cons.injEq, Value.slice.injEq, and_true] at h0
    obtain ⟨rfl, rfl, rfl⟩ := h0
    exact ⟨fun h => absurd h (by omega), by omega⟩
  · simp only [List.cons.injEq, Value.slice.injEq, and_true] at hcs
    obtain ⟨rfl, rfl, rfl⟩ := hcs
    have each : ∀ i, i < len → ∃ x : Nat, x < 256 ∧ w.cell? (ad.add i) = some (.int .u8 x) := by
      intro i hi
      have h3 := hel i hi
      rw [List.getElem?_eq_getElem (by omega), Try.cells5, Option.bind_eq_some_iff] at h3
      obtain ⟨cs, hcs, hy⟩ := h3
      obtain ⟨-, hl2, hcell⟩ := World.cells?_some hcs
      obtain ⟨y, e0, -, w0⟩ := DataW.trod_int Try.underlying5 hy
      subst e0
      have h5 : 0 ≤ y ∧ y ≤ 255 := by simpa [Lit.wf, IntKind.min, IntKind.max, IntKind.signed, IntKind.bits] using w0
      obtain ⟨m, rfl⟩ := Int.eq_ofNat_of_zero_le h5.1
      have := hcell 0 (by simp)
      rw [Nat.mul_one] at this
      refine ⟨m, by omega, ?_⟩
      simpa [Addr.add] using this
    have hzz := hz _ _ (by rw [hx])
    simp only [List.length_map] at hzz
    refine ⟨fun h0 => ?_, by omega⟩
    obtain ⟨x0, _, hs⟩ := each 0 h0
    obtain ⟨b, off, spot⟩ := ad
    have hspot : spot = none := by simpa [Addr.add] using World.cell?_spot hs
    subst hspot
    refine ⟨b, off, rfl, World.block_lt_of_cell? w _ hs, fun j hj => ?_⟩
    obtain ⟨x1, hx1, e1⟩ := each j hj
    rw [add_flat _ rfl] at e1
    exact ⟨x1, hx1, e1⟩
end
end Go.Proofs.Yteiilifljfagdaa
