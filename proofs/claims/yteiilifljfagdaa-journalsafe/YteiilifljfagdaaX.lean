/- Texts in a row, as they are handed in. -/
import Derived.Test.YteiilifljfagdaaD
import Derived.WalkKit
import Derived.ProofKit
import Derived.OpenShut
import Derived.ChangeOld
import Derived.Below
import Derived.SizedLaws
import Derived.SliceStrings
namespace Go.Proofs.Yteiilifljfagdaa
open Go.RowKit
set_option linter.unusedVariables false
set_option linter.unusedSimpArgs false
open Go.ChangeShapes Go.WideShapes
theorem weightsAll_mem {H : Type} {P : Program} {e : TypeId} {d : DataW H} {n : Nat} : ∀ {es : List (DataW H)}, d ∈ es → n ∈ d.weights P e → n ∈ DataW.weightsAll P e es
  | [], h, _ => by cases h
  | y :: es, h, hn => by
    simp only [DataW.weightsAll, List.mem_append]
    rcases List.mem_cons.1 h with rfl | h
    · exact .inl hn
    · exact .inr (weightsAll_mem h hn)
theorem sized_texts {H : Type} {P : Program} {ts : List TypeId} {ds : List (DataW H)} (h : (DataW.weightsEach P ts ds).all (· ≤ reachBytes) = true) {j : Nat} {t e : TypeId} {elems spare : List (DataW H)} (ht : ts[j]? = some t) (hd : ds[j]? = some (.slice elems spare)) (hu : P.underlying t = some (.slice e)) {bs : List UInt8} (hm : DataW.lit (.string bs) ∈ elems) : bs.length ≤ reachBytes := by
  have := List.all_eq_true.1 h _ (DataW.weights_mem_each ht hd bs.length (by
    simp only [DataW.weights, hu, List.mem_cons, List.mem_append]
    exact .inr (.inl (weightsAll_mem hm (by simp [DataW.weights])))))
  simpa using this
section
variable {H : Type} {enc : TypeId × Value → H} {w : World} {base : Nat} {spare : Nat → Bool} {held : Bool}
theorem add_off (a : Addr) (h : a.spot = none) (i : Nat) : a.add i = ⟨a.block, a.off + i, none⟩ := by
  obtain ⟨b, off, spot⟩ := a
  subst h
  cases i <;> simp [Addr.add]
theorem open_texts {fuel : Nat} {a : Option Addr} {len cap : Nat} {x : DataW H × List MemPlace} (h : DataW.trod enc Try.prog w base spare held fuel 35 [.slice a len cap] = some x)
    (hz : ∀ es rs, x.1 = .slice es rs → (es.length + rs.length) * 16 ≤ 140737488351232) (hz2 : ∀ es rs, x.1 = .slice es rs → ∀ bs, DataW.lit (.string bs) ∈ es → bs.length ≤ 140737488351232) :
    ∃ l : List ByteArray, l.length = len ∧ Strs w a l ∧ len ≤ cap ∧ cap ≤ 9223372036854775807 := by
  rcases open_strings Try.underlying35 Try.underlying9 (by kernel_rfl) h with ⟨h0, -⟩ | ⟨ad, len', cap', ss, hcs, -, hl, hm, hss, hx, hcell, -⟩
  · simp only [List.cons.injEq, Value.slice.injEq, and_true] at h0
    obtain ⟨rfl, rfl, rfl⟩ := h0
    exact ⟨[], rfl, ⟨fun h => absurd h (by simp), by simp, fun x hx => absurd hx (by simp)⟩, Nat.le_refl _, by omega⟩
  · simp only [List.cons.injEq, Value.slice.injEq, and_true] at hcs
    obtain ⟨rfl, rfl, rfl⟩ := hcs
    have hge : len ≤ ss.length := by rw [hss]; split <;> omega
    have hlen : (ss.take len).length = len := by rw [List.length_take]; omega
    have e1 : (strs (H := H) (ss.take len)).length = len := by unfold strs; rw [List.length_map, hlen]
    have hzz := hz _ _ (by rw [hx])
    rw [e1] at hzz
    refine ⟨ss.take len, hlen, ⟨fun h0 => ?_, by rw [hlen]; omega, fun s hs => ?_⟩, hl, hm⟩
    · rw [hlen] at h0
      have h1 := hcell 0 (by omega)
      have hspot : ad.spot = none := by
        have := World.cell?_spot h1
        obtain ⟨b, off, spot⟩ := ad
        simpa [Addr.add] using this
      obtain ⟨b, off, spot⟩ := ad
      simp only at hspot
      subst hspot
      refine ⟨b, off, rfl, World.block_lt_of_cell? w _ h1, fun j hj => ?_⟩
      rw [hlen] at hj
      have h2 := hcell j (by omega)
      rw [add_off _ rfl] at h2
      rw [h2, List.getElem_take, List.getD_eq_getElem?_getD, List.getElem?_eq_getElem (by omega)]
      rfl
    · have hmem : DataW.lit (.string s.data.toList) ∈ strs (H := H) (ss.take len) := List.mem_map.2 ⟨s, hs, rfl⟩
      have := hz2 _ _ (by rw [hx]) s.data.toList hmem
      have e : s.data.toList.length = s.size := rfl
      omega
end
end Go.Proofs.Yteiilifljfagdaa
