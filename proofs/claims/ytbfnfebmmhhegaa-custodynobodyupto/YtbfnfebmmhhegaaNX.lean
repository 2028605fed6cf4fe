/- layer 12: how many lots a handed call of a given bulk has at the most -/
import Derived.Test.YtbfnfebmmhhegaaCX
import Derived.WalkKit
import Derived.ProofKit
import Derived.OpenShut
import Derived.ChangeOld
import Derived.Below
import Derived.SizedLaws
import Derived.ChangeMaps5
import Derived.Lib.SmallJoins
namespace Go.Proofs.Ytbfnfebmmhhegaa
open Go.RowKit
set_option linter.unusedVariables false
set_option linter.unusedSimpArgs false
section
variable {H : Type} {enc : TypeId × Value → H} {w : World} {base : Nat} {spare : Nat → Bool} {held : Bool}
theorem bulk_one (d : DataW H) : 1 ≤ Rows.uptoBulk d := by
  cases d with
  | lit l => cases l <;> simp [Rows.uptoBulk]
  | _ => simp [Rows.uptoBulk]
theorem bulk_len (l : List (DataW H)) : l.length ≤ Rows.uptoBulkAll l := by
  induction l with
  | nil => exact Nat.zero_le _
  | cons x r ih => have := bulk_one x; simp only [Rows.uptoBulkAll, List.length_cons]; omega
theorem bulk_len2 (l : List (DataW H)) (h : ∀ d ∈ l, 2 ≤ Rows.uptoBulk d) : 2 * l.length ≤ Rows.uptoBulkAll l := by
  induction l with
  | nil => exact Nat.zero_le _
  | cons x r ih =>
    have h1 := h x (List.mem_cons_self ..)
    have h2 := ih (fun d hd => h d (List.mem_cons_of_mem _ hd))
    simp only [Rows.uptoBulkAll, List.length_cons]
    omega
theorem act_bulk {fuel : Nat} {y : Ac} {x : DataW H × List MemPlace} (h : DataW.trod enc Try.prog w base spare held fuel 30 y.cs.toList = some x) : 2 * y.t.length ≤ Rows.uptoBulk x.1 := by
  obtain ⟨xs, m, -, hxx, hl, hxl, hx⟩ := DataW.trod_struct (P := Try.prog) Try.underlying30 h
  match xs, hxl with
  | [y0, y1, y2, y3, y4, y5, y6, y7], _ =>
    have h7 : DataW.trod enc Try.prog w base spare held m 28 ((y.cs.toList.drop 7).take (Try.prog.cellsOf 28)) = some y7 := hx 7 _ rfl
    rw [Try.cells28] at h7
    have h8 : DataW.trod enc Try.prog w base spare held m 28 [.slice y.ta y.t.length y.tc] = some y7 := h7
    have hb : 2 * y.t.length ≤ Rows.uptoBulk y7.1 := by
      rcases DataW.trod_slice Try.underlying28 h8 with ⟨e, -⟩ | ⟨ad, len, cap, elems, rest, n, -, e, hx2, hb, hl, hm, hlen, hel, -, -⟩
      · simp only [List.cons.injEq, Value.slice.injEq, and_true] at e
        omega
      · simp only [List.cons.injEq, Value.slice.injEq, and_true] at e
        obtain ⟨_, e2, _⟩ := e
        rw [hx2]
        simp only [Rows.uptoBulk]
        have h1 := bulk_len2 (elems.map fun x => x.1) (fun d hd => by
          obtain ⟨q, hq, rfl⟩ := List.mem_map.1 hd
          obtain ⟨i, hi, rfl⟩ := List.getElem_of_mem hq
          have h3 := hel i (by omega)
          rw [List.getElem?_eq_getElem hi, Try.cells64, Option.bind_eq_some_iff] at h3
          obtain ⟨cs, hcs, hy⟩ := h3
          obtain ⟨zs, m2, -, hzz, -, hzl, -⟩ := DataW.trod_struct (P := Try.prog) Try.underlying64 hy
          match zs, hzl with
          | [z0, z1], _ =>
            have b0 := bulk_one z0.1
            rw [hzz]
            simp only [Rows.uptoBulk, Rows.uptoBulkAll, List.map]
            omega)
        simp only [List.length_map] at h1
        omega
    rw [hxx]
    simp only [Rows.uptoBulk, Rows.uptoBulkAll, List.map]
    omega
end
end Go.Proofs.Ytbfnfebmmhhegaa
