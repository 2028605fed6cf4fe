/- Items, as they are handed in. -/
import Derived.Test.YtgdoeflnfcjefaaK
import Derived.WalkKit
import Derived.ProofKit
import Derived.OpenShut
import Derived.ChangeOld
import Derived.Below
import Derived.SizedLaws
import Derived.SliceStrings
namespace Go.Proofs.Ytgdoeflnfcjefaa
open Go.RowKit
set_option linter.unusedVariables false
set_option linter.unusedSimpArgs false
open Go.ChangeShapes Go.WideShapes
theorem Try.cells28 : Try.prog.cellsOf 28 = 6 := by kernel_rfl
theorem Try.cells3 : Try.prog.cellsOf 3 = 1 := by kernel_rfl
theorem Try.cells25 : Try.prog.cellsOf 25 = 1 := by kernel_rfl
theorem Try.cells9 : Try.prog.cellsOf 9 = 1 := by kernel_rfl
theorem Try.cells4 : Try.prog.cellsOf 4 = 1 := by kernel_rfl
theorem Try.cells26 : Try.prog.cellsOf 26 = 1 := by kernel_rfl
theorem Try.bytes3 : Try.prog.bytesOf 3 = 8 := by kernel_rfl
theorem weightsAll_mem {H : Type} {P : Program} {e : TypeId} {d : DataW H} {n : Nat} : ∀ {es : List (DataW H)}, d ∈ es → n ∈ d.weights P e → n ∈ DataW.weightsAll P e es
  | [], h, _ => by cases h
  | y :: es, h, hn => by
    simp only [DataW.weightsAll, List.mem_append]
    rcases List.mem_cons.1 h with rfl | h
    · exact .inl hn
    · exact .inr (weightsAll_mem h hn)
theorem wf_i64 {n : Int} (h : (Lit.int .i64 n).wf = true) : I64 n := by
  simpa [Lit.wf, IntKind.min, IntKind.max, IntKind.signed, IntKind.bits, I64] using h
theorem wf_u64 {n : Int} (h : (Lit.int .u64 n).wf = true) : 0 ≤ n ∧ n ≤ 18446744073709551615 := by
  simpa [Lit.wf, IntKind.min, IntKind.max, IntKind.signed, IntKind.bits] using h
theorem add_flat (a : Addr) (h : a.spot = none) (i : Nat) : a.add i = ⟨a.block, a.off + i, none⟩ := by
  obtain ⟨b, off, spot⟩ := a
  subst h
  cases i <;> simp [Addr.add]
section
variable {H : Type} {enc : TypeId × Value → H} {w : World} {base : Nat} {spare : Nat → Bool} {held : Bool}
/-- numbers in a row -/
theorem open_nums {fuel : Nat} {cs : List Value} {x : DataW H × List MemPlace} (h : DataW.trod enc Try.prog w base spare held fuel 26 cs = some x) :
    ∃ (l : List Int) (a : Option Addr) (cap : Nat), cs = [.slice a l.length cap] ∧ Ins w.heap.size w a l ∧ (∀ n ∈ l, I64 n) ∧ (l.length = 0 ∨ ∃ m, m ∈ x.1.weights Try.prog 26 ∧ l.length ≤ m) := by
  rcases open_ints Try.underlying26 Try.underlying3 Try.cells3 h with ⟨rfl, -⟩ | ⟨ad, len, cap, zs, rfl, -, hl, hm, hzs, hx, hcell, hwf⟩
  · exact ⟨[], none, 0, rfl, fun h => absurd h (Nat.lt_irrefl 0), fun n hn => (List.not_mem_nil hn).elim, .inl rfl⟩
  · have hge : len ≤ zs.length := by rw [hzs]; split <;> omega
    have hlen : (zs.take len).length = len := by rw [List.length_take]; omega
    refine ⟨zs.take len, some ad, cap, by rw [hlen], fun h0 => ?_, fun n hn => wf_i64 (hwf n (List.mem_of_mem_take hn)), ?_⟩
    · rw [hlen] at h0
      have h1 := hcell 0 (by omega)
      obtain ⟨b, off, spot⟩ := ad
      have hspot : spot = none := by simpa [Addr.add] using World.cell?_spot h1
      subst hspot
      refine ⟨b, off, rfl, World.block_lt_of_cell? w _ h1, fun j hj => ?_⟩
      rw [hlen] at hj
      have h2 := hcell j (by omega)
      rw [add_flat _ rfl] at h2
      rw [h2, List.getElem_take, List.getD_eq_getElem?_getD, List.getElem?_eq_getElem (by omega)]
      rfl
    · refine .inr ⟨((lits (H := H) .i64 (zs.take len)).length + (lits (H := H) .i64 (zs.drop len)).length) * 8, ?_, ?_⟩
      · rw [hx]
        simp only [DataW.weights, Try.underlying26, Try.bytes3]
        exact List.mem_cons_self ..
      · have : (lits (H := H) .i64 (zs.take len)).length = (zs.take len).length := by unfold lits; rw [List.length_map]
        rw [this]
        omega
set_option maxRecDepth 100000 in
theorem open_item {fuel : Nat} {cs : List Value} {x : DataW H × List MemPlace} (h : DataW.trod enc Try.prog w base spare held fuel 28 cs = some x) :
    ∃ (y : It) (a : Option Addr) (cap : Nat), cs = [.int .i64 y.k, .int .u64 y.u, .int .i64 y.n, .string ⟨y.t.toArray⟩, .bool y.b, .slice a y.l.length cap] ∧ y.Wf ∧ Ins w.heap.size w a y.l ∧ y.t.length ∈ x.1.weights Try.prog 28 ∧ (y.l.length = 0 ∨ ∃ m, m ∈ x.1.weights Try.prog 28 ∧ y.l.length ≤ m) := by
  obtain ⟨xs, m, -, hxx, hl, hxl, hx⟩ := DataW.trod_struct (P := Try.prog) Try.underlying28 h
  rw [Try.cells28] at hl
  match cs, hl with
  | [c0, c1, c2, c3, c4, c5], _ =>
    match xs, hxl with
    | [y0, y1, y2, y3, y4, y5], _ =>
      have h0 : DataW.trod enc Try.prog w base spare held m 3 (([c0, c1, c2, c3, c4, c5].drop 0).take (Try.prog.cellsOf 3)) = some y0 := hx 0 _ rfl
      rw [Try.cells3] at h0
      have h1 : DataW.trod enc Try.prog w base spare held m 25 (([c0, c1, c2, c3, c4, c5].drop 1).take (Try.prog.cellsOf 25)) = some y1 := hx 1 _ rfl
      rw [Try.cells25] at h1
      have h2 : DataW.trod enc Try.prog w base spare held m 3 (([c0, c1, c2, c3, c4, c5].drop 2).take (Try.prog.cellsOf 3)) = some y2 := hx 2 _ rfl
      rw [Try.cells3] at h2
      have h3 : DataW.trod enc Try.prog w base spare held m 9 (([c0, c1, c2, c3, c4, c5].drop 3).take (Try.prog.cellsOf 9)) = some y3 := hx 3 _ rfl
      rw [Try.cells9] at h3
      have h4 : DataW.trod enc Try.prog w base spare held m 4 (([c0, c1, c2, c3, c4, c5].drop 4).take (Try.prog.cellsOf 4)) = some y4 := hx 4 _ rfl
      rw [Try.cells4] at h4
      have h5 : DataW.trod enc Try.prog w base spare held m 26 (([c0, c1, c2, c3, c4, c5].drop 5).take (Try.prog.cellsOf 26)) = some y5 := hx 5 _ rfl
      rw [Try.cells26] at h5
      obtain ⟨k, e0, -, w0⟩ := DataW.trod_int Try.underlying3 h0
      obtain ⟨u, e1, -, w1⟩ := DataW.trod_int Try.underlying25 h1
      obtain ⟨n, e2, -, w2⟩ := DataW.trod_int Try.underlying3 h2
      obtain ⟨s, e3, d3, -⟩ := DataW.trod_string Try.underlying9 h3
      obtain ⟨b, e4, -⟩ := DataW.trod_bool Try.underlying4 h4
      obtain ⟨l, a, cap, e5, hin, hwl, hlw⟩ := open_nums h5
      simp at e0 e1 e2 e3 e4 e5
      subst e0 e1 e2 e3 e4 e5
      have hu := wf_u64 w1
      obtain ⟨U, rfl⟩ := Int.eq_ofNat_of_zero_le hu.1
      have hW : ∀ (j : Nat) (t : TypeId) (d : DataW H) (n : Nat), [(3 : TypeId), 25, 3, 9, 4, 26][j]? = some t → [y0.1, y1.1, y2.1, y3.1, y4.1, y5.1][j]? = some d → n ∈ d.weights Try.prog t → n ∈ x.1.weights Try.prog 28 := by
        intro j t d n ht hd hn
        rw [hxx]
        simp only [DataW.weights, Try.underlying28]
        exact DataW.weights_mem_each (P := Try.prog) (ts := [3, 25, 3, 9, 4, 26]) (ds := [y0.1, y1.1, y2.1, y3.1, y4.1, y5.1]) ht hd n hn
      refine ⟨⟨k, U, n, s.data.toList, b, l⟩, a, cap, rfl, ⟨by show U < _; omega, wf_i64 w2, hwl⟩, hin, ?_, ?_⟩
      · exact hW 3 9 y3.1 _ rfl rfl (by rw [d3]; simp [DataW.weights])
      · rcases hlw with e | ⟨m2, hm2, hle⟩
        · exact .inl e
        · exact .inr ⟨m2, hW 5 26 y5.1 _ rfl rfl hm2, hle⟩
/-- one for each, in a row -/
theorem collectI {Q : Nat → It → Prop} (n : Nat) : (∀ i, i < n → ∃ p, Q i p) → ∃ l : List It, l.length = n ∧ ∀ i (h : i < l.length), Q i l[i] := by
  induction n with
  | zero => intro _; exact ⟨[], rfl, fun i hi => absurd hi (Nat.not_lt_zero i)⟩
  | succ n ih =>
    intro h
    obtain ⟨l, hl, hq⟩ := ih (fun i hi => h i (by omega))
    obtain ⟨p, hp⟩ := h n (by omega)
    refine ⟨l ++ [p], by simp [hl], fun i hi => ?_⟩
    by_cases e : i < l.length
    · rw [List.getElem_append_left e]
      exact hq i e
    · have : i = n := by rw [List.length_append, List.length_singleton] at hi; omega
      subst this
      have e2 : (l ++ [p])[i] = p := by
        rw [List.getElem_append_right (by omega)]
        simp
      rw [e2]
      exact hp
theorem open_items {fuel : Nat} {a : Option Addr} {len cap : Nat} {x : DataW H × List MemPlace} (h : DataW.trod enc Try.prog w base spare held fuel 22 [.slice a len cap] = some x) (hz : ∀ n, n ∈ x.1.weights Try.prog 22 → n ≤ 140737488351232) :
    ∃ xs : List It, xs.length = len ∧ Its w.heap.size w a xs ∧ (∀ y ∈ xs, y.Wf) ∧ (∀ y ∈ xs, y.t.length ≤ 140737488355328 ∧ y.l.length ≤ 140737488355328) ∧ len ≤ 9223372036854775807 := by
  rcases DataW.trod_slice Try.underlying22 h with ⟨h0, -⟩ | ⟨ad, len', cap', elems, rest, n, -, hcs, hx, hb, hl, hm, hlen, hel, -, -⟩
  · simp only [List.cons.injEq, Value.slice.injEq, and_true] at h0
    obtain ⟨rfl, rfl, rfl⟩ := h0
    exact ⟨[], rfl, fun h => absurd h (Nat.lt_irrefl 0), fun y hy => (List.not_mem_nil hy).elim, fun y hy => (List.not_mem_nil hy).elim, by omega⟩
  · simp only [List.cons.injEq, Value.slice.injEq, and_true] at hcs
    obtain ⟨rfl, rfl, rfl⟩ := hcs
    have each : ∀ i, i < len → ∃ y : It, (∃ la lc, w.cell? ((ad.add (i * 6)).add 0) = some (.int .i64 y.k) ∧ w.cell? ((ad.add (i * 6)).add 1) = some (.int .u64 y.u) ∧ w.cell? ((ad.add (i * 6)).add 2) = some (.int .i64 y.n) ∧ w.cell? ((ad.add (i * 6)).add 3) = some (.string ⟨y.t.toArray⟩) ∧ w.cell? ((ad.add (i * 6)).add 4) = some (.bool y.b) ∧ w.cell? ((ad.add (i * 6)).add 5) = some (.slice la y.l.length lc) ∧ Ins w.heap.size w la y.l) ∧ y.Wf ∧ (y.t.length ≤ 140737488355328 ∧ y.l.length ≤ 140737488355328) := by
      intro i hi
      have h3 := hel i hi
      rw [List.getElem?_eq_getElem (by omega), Try.cells28, Option.bind_eq_some_iff] at h3
      obtain ⟨cs, hcs, hy⟩ := h3
      obtain ⟨-, hl2, hcell⟩ := World.cells?_some hcs
      obtain ⟨y, la, lc, rfl, hwf, hin, ht, hll⟩ := open_item hy
      have hW : ∀ n, n ∈ (elems[i].1).weights Try.prog 28 → n ≤ 140737488351232 := by
        intro n hn
        refine hz n ?_
        rw [hx]
        simp only [DataW.weights, Try.underlying22, List.mem_cons, List.mem_append]
        exact .inr (.inl (weightsAll_mem (List.mem_map.2 ⟨elems[i], List.getElem_mem _, rfl⟩) hn))
      refine ⟨y, ⟨la, lc, ?_, ?_, ?_, ?_, ?_, ?_, hin⟩, hwf, ?_, ?_⟩
      · have := hcell 0 (by simp); simpa using this
      · have := hcell 1 (by simp); simpa using this
      · have := hcell 2 (by simp); simpa using this
      · have := hcell 3 (by simp); simpa using this
      · have := hcell 4 (by simp); simpa using this
      · have := hcell 5 (by simp); simpa using this
      · have := hW _ ht; omega
      · rcases hll with e | ⟨m2, hm2, hle⟩
        · omega
        · have := hW _ hm2; omega
    obtain ⟨xs, hxl, hq⟩ := collectI len each
    refine ⟨xs, hxl, fun h0 => ?_, fun y hy => ?_, fun y hy => ?_, by unfold maxLen at hm; omega⟩
    · rw [hxl] at h0
      obtain ⟨la, lc, hs, -⟩ := (hq 0 (by omega)).1
      obtain ⟨b, off, spot⟩ := ad
      have hspot : spot = none := by simpa [Addr.add] using World.cell?_spot hs
      subst hspot
      refine ⟨b, off, rfl, World.block_lt_of_cell? w _ hs, fun j hj => ?_⟩
      obtain ⟨la, lc, e0, e1, e2, e3, e4, e5, hin⟩ := (hq j hj).1
      have hadd : ∀ i o, ((⟨b, off, none⟩ : Addr).add i).add o = ⟨b, off + i + o, none⟩ := fun i o => by rw [add_flat ⟨b, off, none⟩ rfl, add_flat ⟨b, off + i, none⟩ rfl]
      rw [hadd] at e0 e1 e2 e3 e4 e5
      exact ⟨la, lc, e0, e1, e2, e3, e4, e5, hin⟩
    · obtain ⟨i, hi, rfl⟩ := List.getElem_of_mem hy
      exact (hq i hi).2.1
    · obtain ⟨i, hi, rfl⟩ := List.getElem_of_mem hy
      exact (hq i hi).2.2
end
end Go.Proofs.Ytgdoeflnfcjefaa
