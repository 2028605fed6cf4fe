/- Messages, as they are handed in. -/
import Derived.Test.YtdmlgheajblcdaaGreatK10
import Derived.WalkKit
import Derived.ProofKit
import Derived.OpenShut
import Derived.ChangeOld
import Derived.Below
import Derived.SizedLaws
import Derived.SliceStrings
namespace Go.Proofs.YtdmlgheajblcdaaGreat
open Go.RowKit
set_option linter.unusedVariables false
set_option linter.unusedSimpArgs false
open Go.ChangeShapes Go.WideShapes
set_option maxRecDepth 20000
theorem Tryz.cells3 : Tryz.prog.cellsOf 3 = 1 := by kernel_rfl
theorem Tryz.cells4 : Tryz.prog.cellsOf 4 = 1 := by kernel_rfl
theorem Tryz.cells9 : Tryz.prog.cellsOf 9 = 1 := by kernel_rfl
theorem Tryz.cells24 : Tryz.prog.cellsOf 24 = 1 := by kernel_rfl
theorem Tryz.cells25 : Tryz.prog.cellsOf 25 = 1 := by kernel_rfl
theorem Tryz.cells28 : Tryz.prog.cellsOf 28 = 1 := by kernel_rfl
theorem Tryz.cells33 : Tryz.prog.cellsOf 33 = 1 := by kernel_rfl
theorem Tryz.cells112 : Tryz.prog.cellsOf 112 = 3 := by kernel_rfl
theorem Tryz.cells128 : Tryz.prog.cellsOf 128 = 2 := by kernel_rfl
theorem Tryz.cells32 : Tryz.prog.cellsOf 32 = 2 := by kernel_rfl
theorem Tryz.cells23 : Tryz.prog.cellsOf 23 = 5 := by kernel_rfl
theorem Tryz.cells27 : Tryz.prog.cellsOf 27 = 10 := by kernel_rfl
theorem Tryz.cells30 : Tryz.prog.cellsOf 30 = 8 := by kernel_rfl
theorem Tryz.cells35 : Tryz.prog.cellsOf 35 = 36 := by kernel_rfl
theorem Tryz.bytes3 : Tryz.prog.bytesOf 3 = 8 := by kernel_rfl
theorem weightsAll_mem {H : Type} {P : Program} {e : TypeId} {d : DataW H} {n : Nat} : ∀ {es : List (DataW H)}, d ∈ es → n ∈ d.weights P e → n ∈ DataW.weightsAll P e es
  | [], h, _ => by cases h
  | y :: es, h, hn => by
    simp only [DataW.weightsAll, List.mem_append]
    rcases List.mem_cons.1 h with rfl | h
    · exact .inl hn
    · exact .inr (weightsAll_mem h hn)
theorem wf_i64 {n : Int} (h : (Lit.int .i64 n).wf = true) : I64 n := by
  simpa [Lit.wf, IntKind.min, IntKind.max, IntKind.signed, IntKind.bits, I64] using h
theorem add_flat (a : Addr) (h : a.spot = none) (i : Nat) : a.add i = ⟨a.block, a.off + i, none⟩ := by
  obtain ⟨b, off, spot⟩ := a
  subst h
  cases i <;> simp [Addr.add]
/-- what comes in is not too great -/
structure Szd (m : Mg) : Prop where
  name : m.name.length ≤ 140737488351232
  ai : m.a.i.length ≤ 140737488351232
  ac : m.a.cur.length ≤ 140737488351232
  bc : m.b.cur.length ≤ 140737488351232
  t : m.t.length ≤ 140737488351232
  oi : m.out.i.length ≤ 140737488351232
  ps : ∀ y ∈ m.ps, y.i.length ≤ 140737488351232
  ins : ∀ y ∈ m.ins, y.i.length ≤ 140737488351232
  lc : m.b.cuts.length ≤ 9223372036854775807
  lb : m.b.bar.length ≤ 9223372036854775807
  lp : m.ps.length ≤ 9223372036854775807
  li : m.ins.length ≤ 9223372036854775807
/-- a message's lists in memory -/
structure Hld (B : Nat) (w : World) (m : Mg) (pa ia ca ba : Option Addr) : Prop where
  ps : Lts B w pa m.ps
  ins : Lts B w ia m.ins
  cuts : Cts B w ca m.b.cuts
  bar : Ins B w ba m.b.bar
section
variable {H : Type} {enc : TypeId × Value → H} {w : World} {base : Nat} {spare : Nat → Bool} {held : Bool}
/-- numbers in a row -/
theorem open_nums {fuel : Nat} {cs : List Value} {x : DataW H × List MemPlace} (h : DataW.trod enc Tryz.prog w base spare held fuel 25 cs = some x) :
    ∃ (l : List Int) (a : Option Addr) (cap : Nat), cs = [.slice a l.length cap] ∧ Ins w.heap.size w a l ∧ (∀ n ∈ l, I64 n) ∧ (l.length = 0 ∨ ∃ m, m ∈ x.1.weights Tryz.prog 25 ∧ l.length ≤ m) := by
  rcases open_ints Tryz.underlying25 Tryz.underlying3 Tryz.cells3 h with ⟨rfl, -⟩ | ⟨ad, len, cap, zs, rfl, -, hl, hm, hzs, hx, hcell, hwf⟩
  · exact ⟨[], none, 0, rfl, fun h => absurd h (Nat.lt_irrefl 0), fun n hn => (List.not_mem_nil hn).elim, .inl rfl⟩
  · have hge : len ≤ zs.length := by rw [hzs]; split <;> omega
    have hlen : (zs.take len).length = len := by rw [List.length_take]; omega
    refine ⟨zs.take len, some ad, cap, by rw [hlen], fun h0 => ?_, fun n hn => wf_i64 (hwf n (List.mem_of_mem_take hn)), ?_⟩
    · rw [hlen] at h0
      have h1 := hcell 0 (by omega)
      obtain ⟨b, off, spot⟩ := ad
      have hspot : spot = none := by simpa [Addr.add] using World.cell?_spot h1
      subst hspot
      refine ⟨b, off, rfl, World.block_lt_of_cell? w _ h1, fun j hj => ?_⟩
      rw [hlen] at hj
      have h2 := hcell j (by omega)
      rw [add_flat _ rfl] at h2
      rw [h2, List.getElem_take, List.getD_eq_getElem?_getD, List.getElem?_eq_getElem (by omega)]
      rfl
    · refine .inr ⟨((lits (H := H) .i64 (zs.take len)).length + (lits (H := H) .i64 (zs.drop len)).length) * 8, ?_, ?_⟩
      · rw [hx]
        simp only [DataW.weights, Tryz.underlying25, Tryz.bytes3]
        exact List.mem_cons_self ..
      · have : (lits (H := H) .i64 (zs.take len)).length = (zs.take len).length := by unfold lits; rw [List.length_map]
        rw [this]
        omega
theorem collectX {α : Type} {Q : Nat → α → Prop} (n : Nat) : (∀ i, i < n → ∃ p, Q i p) → ∃ l : List α, l.length = n ∧ ∀ i (h : i < l.length), Q i l[i] := by
  induction n with
  | zero => intro _; exact ⟨[], rfl, fun i hi => absurd hi (Nat.not_lt_zero i)⟩
  | succ n ih =>
    intro h
    obtain ⟨l, hl, hq⟩ := ih (fun i hi => h i (by omega))
    obtain ⟨p, hp⟩ := h n (by omega)
    refine ⟨l ++ [p], by simp [hl], fun i hi => ?_⟩
    by_cases e : i < l.length
    · rw [List.getElem_append_left e]
      exact hq i e
    · have : i = n := by rw [List.length_append, List.length_singleton] at hi; omega
      subst this
      have e2 : (l ++ [p])[i] = p := by
        rw [List.getElem_append_right (by omega)]
        simp
      rw [e2]
      exact hp
set_option maxHeartbeats 4000000 in
theorem open_lot {fuel : Nat} {cs : List Value} {x : DataW H × List MemPlace} (h : DataW.trod enc Tryz.prog w base spare held fuel 32 cs = some x) (hz : ∀ n, n ∈ x.1.weights Tryz.prog 32 → n ≤ 140737488351232) :
    ∃ y : Lt, cs = [.string ⟨y.i.toArray⟩, .int .i64 y.q] ∧ I64 y.q ∧ y.i.length ≤ 140737488351232 := by
  obtain ⟨xs, m, -, hxx, hl, hxl, hx⟩ := DataW.trod_struct (P := Tryz.prog) Tryz.underlying32 h
  rw [Tryz.cells32] at hl
  match cs, hl with
  | [c0, c1], _ =>
    match xs, hxl with
    | [y0, y1], _ =>
      have hW : ∀ (j : Nat) (t : TypeId) (d : DataW H) (n : Nat), [(9 : TypeId), 3][j]? = some t → [y0.1, y1.1][j]? = some d → n ∈ d.weights Tryz.prog t → n ≤ 140737488351232 := by
        intro j t d n ht hd hn
        refine hz n ?_
        rw [hxx]
        simp only [DataW.weights, Tryz.underlying32]
        exact DataW.weights_mem_each (P := Tryz.prog) (ts := [9, 3]) (ds := [y0.1, y1.1]) ht hd n hn
      have h0 : DataW.trod enc Tryz.prog w base spare held m 9 (([c0, c1].drop 0).take (Tryz.prog.cellsOf 9)) = some y0 := hx 0 _ rfl
      rw [Tryz.cells9] at h0
      have h1 : DataW.trod enc Tryz.prog w base spare held m 3 (([c0, c1].drop 1).take (Tryz.prog.cellsOf 3)) = some y1 := hx 1 _ rfl
      rw [Tryz.cells3] at h1
      obtain ⟨s0, e0, d0, -⟩ := DataW.trod_string Tryz.underlying9 h0
      simp at e0
      subst e0
      have l0 : s0.data.toList.length ≤ 140737488351232 := hW 0 9 y0.1 _ rfl rfl (by rw [d0]; simp [DataW.weights])
      obtain ⟨n1, e1, -, w1⟩ := DataW.trod_int Tryz.underlying3 h1
      simp at e1
      subst e1
      have i1 := wf_i64 w1
      exact ⟨⟨s0.data.toList, n1⟩, rfl, i1, l0⟩
set_option maxHeartbeats 4000000 in
theorem open_price {fuel : Nat} {cs : List Value} {x : DataW H × List MemPlace} (h : DataW.trod enc Tryz.prog w base spare held fuel 128 cs = some x) (hz : ∀ n, n ∈ x.1.weights Tryz.prog 128 → n ≤ 140737488351232) :
    ∃ y : Lt, cs = [.string ⟨y.i.toArray⟩, .int .i64 y.q] ∧ I64 y.q ∧ y.i.length ≤ 140737488351232 := by
  obtain ⟨xs, m, -, hxx, hl, hxl, hx⟩ := DataW.trod_struct (P := Tryz.prog) Tryz.underlying128 h
  rw [Tryz.cells128] at hl
  match cs, hl with
  | [c0, c1], _ =>
    match xs, hxl with
    | [y0, y1], _ =>
      have hW : ∀ (j : Nat) (t : TypeId) (d : DataW H) (n : Nat), [(9 : TypeId), 3][j]? = some t → [y0.1, y1.1][j]? = some d → n ∈ d.weights Tryz.prog t → n ≤ 140737488351232 := by
        intro j t d n ht hd hn
        refine hz n ?_
        rw [hxx]
        simp only [DataW.weights, Tryz.underlying128]
        exact DataW.weights_mem_each (P := Tryz.prog) (ts := [9, 3]) (ds := [y0.1, y1.1]) ht hd n hn
      have h0 : DataW.trod enc Tryz.prog w base spare held m 9 (([c0, c1].drop 0).take (Tryz.prog.cellsOf 9)) = some y0 := hx 0 _ rfl
      rw [Tryz.cells9] at h0
      have h1 : DataW.trod enc Tryz.prog w base spare held m 3 (([c0, c1].drop 1).take (Tryz.prog.cellsOf 3)) = some y1 := hx 1 _ rfl
      rw [Tryz.cells3] at h1
      obtain ⟨s0, e0, d0, -⟩ := DataW.trod_string Tryz.underlying9 h0
      simp at e0
      subst e0
      have l0 : s0.data.toList.length ≤ 140737488351232 := hW 0 9 y0.1 _ rfl rfl (by rw [d0]; simp [DataW.weights])
      obtain ⟨n1, e1, -, w1⟩ := DataW.trod_int Tryz.underlying3 h1
      simp at e1
      subst e1
      have i1 := wf_i64 w1
      exact ⟨⟨s0.data.toList, n1⟩, rfl, i1, l0⟩
set_option maxHeartbeats 4000000 in
theorem open_cut {fuel : Nat} {cs : List Value} {x : DataW H × List MemPlace} (h : DataW.trod enc Tryz.prog w base spare held fuel 112 cs = some x) (hz : ∀ n, n ∈ x.1.weights Tryz.prog 112 → n ≤ 140737488351232) :
    ∃ y : Ct, cs = [.int .i64 y.d, .int .i64 y.r, .int .i64 y.c] ∧ (I64 y.d ∧ I64 y.r ∧ I64 y.c) := by
  obtain ⟨xs, m, -, hxx, hl, hxl, hx⟩ := DataW.trod_struct (P := Tryz.prog) Tryz.underlying112 h
  rw [Tryz.cells112] at hl
  match cs, hl with
  | [c0, c1, c2], _ =>
    match xs, hxl with
    | [y0, y1, y2], _ =>
      have hW : ∀ (j : Nat) (t : TypeId) (d : DataW H) (n : Nat), [(3 : TypeId), 3, 3][j]? = some t → [y0.1, y1.1, y2.1][j]? = some d → n ∈ d.weights Tryz.prog t → n ≤ 140737488351232 := by
        intro j t d n ht hd hn
        refine hz n ?_
        rw [hxx]
        simp only [DataW.weights, Tryz.underlying112]
        exact DataW.weights_mem_each (P := Tryz.prog) (ts := [3, 3, 3]) (ds := [y0.1, y1.1, y2.1]) ht hd n hn
      have h0 : DataW.trod enc Tryz.prog w base spare held m 3 (([c0, c1, c2].drop 0).take (Tryz.prog.cellsOf 3)) = some y0 := hx 0 _ rfl
      rw [Tryz.cells3] at h0
      have h1 : DataW.trod enc Tryz.prog w base spare held m 3 (([c0, c1, c2].drop 1).take (Tryz.prog.cellsOf 3)) = some y1 := hx 1 _ rfl
      rw [Tryz.cells3] at h1
      have h2 : DataW.trod enc Tryz.prog w base spare held m 3 (([c0, c1, c2].drop 2).take (Tryz.prog.cellsOf 3)) = some y2 := hx 2 _ rfl
      rw [Tryz.cells3] at h2
      obtain ⟨n0, e0, -, w0⟩ := DataW.trod_int Tryz.underlying3 h0
      simp at e0
      subst e0
      have i0 := wf_i64 w0
      obtain ⟨n1, e1, -, w1⟩ := DataW.trod_int Tryz.underlying3 h1
      simp at e1
      subst e1
      have i1 := wf_i64 w1
      obtain ⟨n2, e2, -, w2⟩ := DataW.trod_int Tryz.underlying3 h2
      simp at e2
      subst e2
      have i2 := wf_i64 w2
      exact ⟨⟨n0, n1, n2⟩, rfl, i0, i1, i2⟩
set_option maxHeartbeats 4000000 in
theorem open_lots {fuel : Nat} {cs : List Value} {x : DataW H × List MemPlace} (h : DataW.trod enc Tryz.prog w base spare held fuel 33 cs = some x) (hz : ∀ n, n ∈ x.1.weights Tryz.prog 33 → n ≤ 140737488351232) :
    ∃ (xs : List Lt) (a : Option Addr) (cap : Nat), cs = [.slice a xs.length cap] ∧ Lts w.heap.size w a xs ∧ (∀ y ∈ xs, I64 y.q ∧ y.i.length ≤ 140737488351232) ∧ xs.length ≤ 9223372036854775807 := by
  rcases DataW.trod_slice Tryz.underlying33 h with ⟨h0, -⟩ | ⟨ad, len, cap, elems, rest, n, -, hcs, hx, hb, hl, hm, hlen, hel, -, -⟩
  · exact ⟨[], none, 0, h0, fun h => absurd h (Nat.lt_irrefl 0), fun y hy => (List.not_mem_nil hy).elim, by decide⟩
  · have each : ∀ i, i < len → ∃ y : Lt, (w.cell? ((ad.add (i * 2)).add 0) = some (.string ⟨y.i.toArray⟩) ∧ w.cell? ((ad.add (i * 2)).add 1) = some (.int .i64 y.q)) ∧ (I64 y.q ∧ y.i.length ≤ 140737488351232) := by
      intro i hi
      have h3 := hel i hi
      rw [List.getElem?_eq_getElem (by omega), Tryz.cells32, Option.bind_eq_some_iff] at h3
      obtain ⟨cs2, hcs2, hy⟩ := h3
      obtain ⟨-, hl2, hcell⟩ := World.cells?_some hcs2
      obtain ⟨y, rfl, hg⟩ := open_lot hy (fun n hn => by
        refine hz n ?_
        rw [hx]
        simp only [DataW.weights, Tryz.underlying33, List.mem_cons, List.mem_append]
        exact .inr (.inl (weightsAll_mem (List.mem_map.2 ⟨elems[i], List.getElem_mem _, rfl⟩) hn)))
      refine ⟨y, ⟨?_, ?_⟩, hg⟩
      · have := hcell 0 (by simp); simpa using this
      · have := hcell 1 (by simp); simpa using this
    obtain ⟨xs, hxl, hq⟩ := collectX len each
    refine ⟨xs, some ad, cap, by rw [hxl]; exact hcs, fun h0 => ?_, fun y hy => ?_, by rw [hxl]; unfold maxLen at hm; omega⟩
    · rw [hxl] at h0
      have hs := (hq 0 (by omega)).1.1
      obtain ⟨b, off, spot⟩ := ad
      have hspot : spot = none := by simpa [Addr.add] using World.cell?_spot hs
      subst hspot
      refine ⟨b, off, rfl, World.block_lt_of_cell? w _ hs, fun j hj => ?_⟩
      obtain ⟨e0, e1⟩ := (hq j hj).1
      have hadd : ∀ i o, ((⟨b, off, none⟩ : Addr).add i).add o = ⟨b, off + i + o, none⟩ := fun i o => by rw [add_flat ⟨b, off, none⟩ rfl, add_flat ⟨b, off + i, none⟩ rfl]
      rw [hadd] at e0 e1
      exact ⟨e0, e1⟩
    · obtain ⟨i, hi, rfl⟩ := List.getElem_of_mem hy
      exact (hq i hi).2
set_option maxHeartbeats 4000000 in
theorem open_prices {fuel : Nat} {cs : List Value} {x : DataW H × List MemPlace} (h : DataW.trod enc Tryz.prog w base spare held fuel 28 cs = some x) (hz : ∀ n, n ∈ x.1.weights Tryz.prog 28 → n ≤ 140737488351232) :
    ∃ (xs : List Lt) (a : Option Addr) (cap : Nat), cs = [.slice a xs.length cap] ∧ Lts w.heap.size w a xs ∧ (∀ y ∈ xs, I64 y.q ∧ y.i.length ≤ 140737488351232) ∧ xs.length ≤ 9223372036854775807 := by
  rcases DataW.trod_slice Tryz.underlying28 h with ⟨h0, -⟩ | ⟨ad, len, cap, elems, rest, n, -, hcs, hx, hb, hl, hm, hlen, hel, -, -⟩
  · exact ⟨[], none, 0, h0, fun h => absurd h (Nat.lt_irrefl 0), fun y hy => (List.not_mem_nil hy).elim, by decide⟩
  · have each : ∀ i, i < len → ∃ y : Lt, (w.cell? ((ad.add (i * 2)).add 0) = some (.string ⟨y.i.toArray⟩) ∧ w.cell? ((ad.add (i * 2)).add 1) = some (.int .i64 y.q)) ∧ (I64 y.q ∧ y.i.length ≤ 140737488351232) := by
      intro i hi
      have h3 := hel i hi
      rw [List.getElem?_eq_getElem (by omega), Tryz.cells128, Option.bind_eq_some_iff] at h3
      obtain ⟨cs2, hcs2, hy⟩ := h3
      obtain ⟨-, hl2, hcell⟩ := World.cells?_some hcs2
      obtain ⟨y, rfl, hg⟩ := open_price hy (fun n hn => by
        refine hz n ?_
        rw [hx]
        simp only [DataW.weights, Tryz.underlying28, List.mem_cons, List.mem_append]
        exact .inr (.inl (weightsAll_mem (List.mem_map.2 ⟨elems[i], List.getElem_mem _, rfl⟩) hn)))
      refine ⟨y, ⟨?_, ?_⟩, hg⟩
      · have := hcell 0 (by simp); simpa using this
      · have := hcell 1 (by simp); simpa using this
    obtain ⟨xs, hxl, hq⟩ := collectX len each
    refine ⟨xs, some ad, cap, by rw [hxl]; exact hcs, fun h0 => ?_, fun y hy => ?_, by rw [hxl]; unfold maxLen at hm; omega⟩
    · rw [hxl] at h0
      have hs := (hq 0 (by omega)).1.1
      obtain ⟨b, off, spot⟩ := ad
      have hspot : spot = none := by simpa [Addr.add] using World.cell?_spot hs
      subst hspot
      refine ⟨b, off, rfl, World.block_lt_of_cell? w _ hs, fun j hj => ?_⟩
      obtain ⟨e0, e1⟩ := (hq j hj).1
      have hadd : ∀ i o, ((⟨b, off, none⟩ : Addr).add i).add o = ⟨b, off + i + o, none⟩ := fun i o => by rw [add_flat ⟨b, off, none⟩ rfl, add_flat ⟨b, off + i, none⟩ rfl]
      rw [hadd] at e0 e1
      exact ⟨e0, e1⟩
    · obtain ⟨i, hi, rfl⟩ := List.getElem_of_mem hy
      exact (hq i hi).2
set_option maxHeartbeats 4000000 in
theorem open_cuts {fuel : Nat} {cs : List Value} {x : DataW H × List MemPlace} (h : DataW.trod enc Tryz.prog w base spare held fuel 24 cs = some x) (hz : ∀ n, n ∈ x.1.weights Tryz.prog 24 → n ≤ 140737488351232) :
    ∃ (xs : List Ct) (a : Option Addr) (cap : Nat), cs = [.slice a xs.length cap] ∧ Cts w.heap.size w a xs ∧ (∀ y ∈ xs, I64 y.d ∧ I64 y.r ∧ I64 y.c) ∧ xs.length ≤ 9223372036854775807 := by
  rcases DataW.trod_slice Tryz.underlying24 h with ⟨h0, -⟩ | ⟨ad, len, cap, elems, rest, n, -, hcs, hx, hb, hl, hm, hlen, hel, -, -⟩
  · exact ⟨[], none, 0, h0, fun h => absurd h (Nat.lt_irrefl 0), fun y hy => (List.not_mem_nil hy).elim, by decide⟩
  · have each : ∀ i, i < len → ∃ y : Ct, (w.cell? ((ad.add (i * 3)).add 0) = some (.int .i64 y.d) ∧ w.cell? ((ad.add (i * 3)).add 1) = some (.int .i64 y.r) ∧ w.cell? ((ad.add (i * 3)).add 2) = some (.int .i64 y.c)) ∧ (I64 y.d ∧ I64 y.r ∧ I64 y.c) := by
      intro i hi
      have h3 := hel i hi
      rw [List.getElem?_eq_getElem (by omega), Tryz.cells112, Option.bind_eq_some_iff] at h3
      obtain ⟨cs2, hcs2, hy⟩ := h3
      obtain ⟨-, hl2, hcell⟩ := World.cells?_some hcs2
      obtain ⟨y, rfl, hg⟩ := open_cut hy (fun n hn => by
        refine hz n ?_
        rw [hx]
        simp only [DataW.weights, Tryz.underlying24, List.mem_cons, List.mem_append]
        exact .inr (.inl (weightsAll_mem (List.mem_map.2 ⟨elems[i], List.getElem_mem _, rfl⟩) hn)))
      refine ⟨y, ⟨?_, ?_, ?_⟩, hg⟩
      · have := hcell 0 (by simp); simpa using this
      · have := hcell 1 (by simp); simpa using this
      · have := hcell 2 (by simp); simpa using this
    obtain ⟨xs, hxl, hq⟩ := collectX len each
    refine ⟨xs, some ad, cap, by rw [hxl]; exact hcs, fun h0 => ?_, fun y hy => ?_, by rw [hxl]; unfold maxLen at hm; omega⟩
    · rw [hxl] at h0
      have hs := (hq 0 (by omega)).1.1
      obtain ⟨b, off, spot⟩ := ad
      have hspot : spot = none := by simpa [Addr.add] using World.cell?_spot hs
      subst hspot
      refine ⟨b, off, rfl, World.block_lt_of_cell? w _ hs, fun j hj => ?_⟩
      obtain ⟨e0, e1, e2⟩ := (hq j hj).1
      have hadd : ∀ i o, ((⟨b, off, none⟩ : Addr).add i).add o = ⟨b, off + i + o, none⟩ := fun i o => by rw [add_flat ⟨b, off, none⟩ rfl, add_flat ⟨b, off + i, none⟩ rfl]
      rw [hadd] at e0 e1 e2
      exact ⟨e0, e1, e2⟩
    · obtain ⟨i, hi, rfl⟩ := List.getElem_of_mem hy
      exact (hq i hi).2
theorem open_bars {fuel : Nat} {cs : List Value} {x : DataW H × List MemPlace} (h : DataW.trod enc Tryz.prog w base spare held fuel 25 cs = some x) (hz : ∀ n, n ∈ x.1.weights Tryz.prog 25 → n ≤ 140737488351232) :
    ∃ (xs : List Int) (a : Option Addr) (cap : Nat), cs = [.slice a xs.length cap] ∧ Ins w.heap.size w a xs ∧ (∀ n ∈ xs, I64 n) ∧ xs.length ≤ 9223372036854775807 := by
  obtain ⟨l, a, cap, e, h1, h2, h3⟩ := open_nums h
  refine ⟨l, a, cap, e, h1, h2, ?_⟩
  rcases h3 with h3 | ⟨m, hm, hle⟩
  · omega
  · have := hz m hm; omega
set_option maxHeartbeats 4000000 in
theorem open_ast {fuel : Nat} {cs : List Value} {x : DataW H × List MemPlace} (h : DataW.trod enc Tryz.prog w base spare held fuel 23 cs = some x) (hz : ∀ n, n ∈ x.1.weights Tryz.prog 23 → n ≤ 140737488351232) :
    ∃ y : Ast, cs = [.string ⟨y.i.toArray⟩, .int .i64 y.iss, .int .i64 y.rat, .int .i64 y.mat, .string ⟨y.cur.toArray⟩] ∧ (I64 y.iss ∧ I64 y.rat ∧ I64 y.mat) ∧ (y.i.length ≤ 140737488351232 ∧ y.cur.length ≤ 140737488351232) := by
  obtain ⟨xs, m, -, hxx, hl, hxl, hx⟩ := DataW.trod_struct (P := Tryz.prog) Tryz.underlying23 h
  rw [Tryz.cells23] at hl
  match cs, hl with
  | [c0, c1, c2, c3, c4], _ =>
    match xs, hxl with
    | [y0, y1, y2, y3, y4], _ =>
      have hW : ∀ (j : Nat) (t : TypeId) (d : DataW H) (n : Nat), [(9 : TypeId), 3, 3, 3, 9][j]? = some t → [y0.1, y1.1, y2.1, y3.1, y4.1][j]? = some d → n ∈ d.weights Tryz.prog t → n ≤ 140737488351232 := by
        intro j t d n ht hd hn
        refine hz n ?_
        rw [hxx]
        simp only [DataW.weights, Tryz.underlying23]
        exact DataW.weights_mem_each (P := Tryz.prog) (ts := [9, 3, 3, 3, 9]) (ds := [y0.1, y1.1, y2.1, y3.1, y4.1]) ht hd n hn
      have h0 : DataW.trod enc Tryz.prog w base spare held m 9 (([c0, c1, c2, c3, c4].drop 0).take (Tryz.prog.cellsOf 9)) = some y0 := hx 0 _ rfl
      rw [Tryz.cells9] at h0
      have h1 : DataW.trod enc Tryz.prog w base spare held m 3 (([c0, c1, c2, c3, c4].drop 1).take (Tryz.prog.cellsOf 3)) = some y1 := hx 1 _ rfl
      rw [Tryz.cells3] at h1
      have h2 : DataW.trod enc Tryz.prog w base spare held m 3 (([c0, c1, c2, c3, c4].drop 2).take (Tryz.prog.cellsOf 3)) = some y2 := hx 2 _ rfl
      rw [Tryz.cells3] at h2
      have h3 : DataW.trod enc Tryz.prog w base spare held m 3 (([c0, c1, c2, c3, c4].drop 3).take (Tryz.prog.cellsOf 3)) = some y3 := hx 3 _ rfl
      rw [Tryz.cells3] at h3
      have h4 : DataW.trod enc Tryz.prog w base spare held m 9 (([c0, c1, c2, c3, c4].drop 4).take (Tryz.prog.cellsOf 9)) = some y4 := hx 4 _ rfl
      rw [Tryz.cells9] at h4
      obtain ⟨s0, e0, d0, -⟩ := DataW.trod_string Tryz.underlying9 h0
      simp at e0
      subst e0
      have l0 : s0.data.toList.length ≤ 140737488351232 := hW 0 9 y0.1 _ rfl rfl (by rw [d0]; simp [DataW.weights])
      obtain ⟨n1, e1, -, w1⟩ := DataW.trod_int Tryz.underlying3 h1
      simp at e1
      subst e1
      have i1 := wf_i64 w1
      obtain ⟨n2, e2, -, w2⟩ := DataW.trod_int Tryz.underlying3 h2
      simp at e2
      subst e2
      have i2 := wf_i64 w2
      obtain ⟨n3, e3, -, w3⟩ := DataW.trod_int Tryz.underlying3 h3
      simp at e3
      subst e3
      have i3 := wf_i64 w3
      obtain ⟨s4, e4, d4, -⟩ := DataW.trod_string Tryz.underlying9 h4
      simp at e4
      subst e4
      have l4 : s4.data.toList.length ≤ 140737488351232 := hW 4 9 y4.1 _ rfl rfl (by rw [d4]; simp [DataW.weights])
      exact ⟨⟨s0.data.toList, n1, n2, n3, s4.data.toList⟩, rfl, ⟨i1, i2, i3⟩, l0, l4⟩
set_option maxHeartbeats 4000000 in
theorem open_qu {fuel : Nat} {cs : List Value} {x : DataW H × List MemPlace} (h : DataW.trod enc Tryz.prog w base spare held fuel 30 cs = some x) (hz : ∀ n, n ∈ x.1.weights Tryz.prog 30 → n ≤ 140737488351232) :
    ∃ y : Qu, cs = [.int .i64 y.id, .int .i64 y.mem, .int .i64 y.side, .int .i64 y.bas, .int .i64 y.am, .int .i64 y.rate, .int .i64 y.st, .int .i64 y.en] ∧ (I64 y.id ∧ I64 y.mem ∧ I64 y.side ∧ I64 y.bas ∧ I64 y.am ∧ I64 y.rate ∧ I64 y.st ∧ I64 y.en) := by
  obtain ⟨xs, m, -, hxx, hl, hxl, hx⟩ := DataW.trod_struct (P := Tryz.prog) Tryz.underlying30 h
  rw [Tryz.cells30] at hl
  match cs, hl with
  | [c0, c1, c2, c3, c4, c5, c6, c7], _ =>
    match xs, hxl with
    | [y0, y1, y2, y3, y4, y5, y6, y7], _ =>
      have hW : ∀ (j : Nat) (t : TypeId) (d : DataW H) (n : Nat), [(3 : TypeId), 3, 3, 3, 3, 3, 3, 3][j]? = some t → [y0.1, y1.1, y2.1, y3.1, y4.1, y5.1, y6.1, y7.1][j]? = some d → n ∈ d.weights Tryz.prog t → n ≤ 140737488351232 := by
        intro j t d n ht hd hn
        refine hz n ?_
        rw [hxx]
        simp only [DataW.weights, Tryz.underlying30]
        exact DataW.weights_mem_each (P := Tryz.prog) (ts := [3, 3, 3, 3, 3, 3, 3, 3]) (ds := [y0.1, y1.1, y2.1, y3.1, y4.1, y5.1, y6.1, y7.1]) ht hd n hn
      have h0 : DataW.trod enc Tryz.prog w base spare held m 3 (([c0, c1, c2, c3, c4, c5, c6, c7].drop 0).take (Tryz.prog.cellsOf 3)) = some y0 := hx 0 _ rfl
      rw [Tryz.cells3] at h0
      have h1 : DataW.trod enc Tryz.prog w base spare held m 3 (([c0, c1, c2, c3, c4, c5, c6, c7].drop 1).take (Tryz.prog.cellsOf 3)) = some y1 := hx 1 _ rfl
      rw [Tryz.cells3] at h1
      have h2 : DataW.trod enc Tryz.prog w base spare held m 3 (([c0, c1, c2, c3, c4, c5, c6, c7].drop 2).take (Tryz.prog.cellsOf 3)) = some y2 := hx 2 _ rfl
      rw [Tryz.cells3] at h2
      have h3 : DataW.trod enc Tryz.prog w base spare held m 3 (([c0, c1, c2, c3, c4, c5, c6, c7].drop 3).take (Tryz.prog.cellsOf 3)) = some y3 := hx 3 _ rfl
      rw [Tryz.cells3] at h3
      have h4 : DataW.trod enc Tryz.prog w base spare held m 3 (([c0, c1, c2, c3, c4, c5, c6, c7].drop 4).take (Tryz.prog.cellsOf 3)) = some y4 := hx 4 _ rfl
      rw [Tryz.cells3] at h4
      have h5 : DataW.trod enc Tryz.prog w base spare held m 3 (([c0, c1, c2, c3, c4, c5, c6, c7].drop 5).take (Tryz.prog.cellsOf 3)) = some y5 := hx 5 _ rfl
      rw [Tryz.cells3] at h5
      have h6 : DataW.trod enc Tryz.prog w base spare held m 3 (([c0, c1, c2, c3, c4, c5, c6, c7].drop 6).take (Tryz.prog.cellsOf 3)) = some y6 := hx 6 _ rfl
      rw [Tryz.cells3] at h6
      have h7 : DataW.trod enc Tryz.prog w base spare held m 3 (([c0, c1, c2, c3, c4, c5, c6, c7].drop 7).take (Tryz.prog.cellsOf 3)) = some y7 := hx 7 _ rfl
      rw [Tryz.cells3] at h7
      obtain ⟨n0, e0, -, w0⟩ := DataW.trod_int Tryz.underlying3 h0
      simp at e0
      subst e0
      have i0 := wf_i64 w0
      obtain ⟨n1, e1, -, w1⟩ := DataW.trod_int Tryz.underlying3 h1
      simp at e1
      subst e1
      have i1 := wf_i64 w1
      obtain ⟨n2, e2, -, w2⟩ := DataW.trod_int Tryz.underlying3 h2
      simp at e2
      subst e2
      have i2 := wf_i64 w2
      obtain ⟨n3, e3, -, w3⟩ := DataW.trod_int Tryz.underlying3 h3
      simp at e3
      subst e3
      have i3 := wf_i64 w3
      obtain ⟨n4, e4, -, w4⟩ := DataW.trod_int Tryz.underlying3 h4
      simp at e4
      subst e4
      have i4 := wf_i64 w4
      obtain ⟨n5, e5, -, w5⟩ := DataW.trod_int Tryz.underlying3 h5
      simp at e5
      subst e5
      have i5 := wf_i64 w5
      obtain ⟨n6, e6, -, w6⟩ := DataW.trod_int Tryz.underlying3 h6
      simp at e6
      subst e6
      have i6 := wf_i64 w6
      obtain ⟨n7, e7, -, w7⟩ := DataW.trod_int Tryz.underlying3 h7
      simp at e7
      subst e7
      have i7 := wf_i64 w7
      exact ⟨⟨n0, n1, n2, n3, n4, n5, n6, n7⟩, rfl, i0, i1, i2, i3, i4, i5, i6, i7⟩
set_option maxHeartbeats 4000000 in
theorem open_bk {fuel : Nat} {cs : List Value} {x : DataW H × List MemPlace} (h : DataW.trod enc Tryz.prog w base spare held fuel 27 cs = some x) (hz : ∀ n, n ∈ x.1.weights Tryz.prog 27 → n ≤ 140737488351232) :
    ∃ (y : Bk) (ca ba : Option Addr) (cc bc : Nat), cs = [.int .i64 y.id, .int .i64 y.ver, .string ⟨y.cur.toArray⟩, .int .i64 y.rat, .int .i64 y.least, .int .i64 y.most, .slice ca y.cuts.length cc, .int .i64 y.iss, .int .i64 y.ass, .slice ba y.bar.length bc] ∧ (Cts w.heap.size w ca y.cuts ∧ Ins w.heap.size w ba y.bar) ∧ (I64 y.id ∧ I64 y.ver ∧ I64 y.rat ∧ I64 y.least ∧ I64 y.most ∧ I64 y.iss ∧ I64 y.ass ∧ (∀ c ∈ y.cuts, I64 c.d ∧ I64 c.r ∧ I64 c.c) ∧ ∀ n ∈ y.bar, I64 n) ∧ (y.cur.length ≤ 140737488351232 ∧ y.cuts.length ≤ 9223372036854775807 ∧ y.bar.length ≤ 9223372036854775807) := by
  obtain ⟨xs, m, -, hxx, hl, hxl, hx⟩ := DataW.trod_struct (P := Tryz.prog) Tryz.underlying27 h
  rw [Tryz.cells27] at hl
  match cs, hl with
  | [c0, c1, c2, c3, c4, c5, c6, c7, c8, c9], _ =>
    match xs, hxl with
    | [y0, y1, y2, y3, y4, y5, y6, y7, y8, y9], _ =>
      have hW : ∀ (j : Nat) (t : TypeId) (d : DataW H) (n : Nat), [(3 : TypeId), 3, 9, 3, 3, 3, 24, 3, 3, 25][j]? = some t → [y0.1, y1.1, y2.1, y3.1, y4.1, y5.1, y6.1, y7.1, y8.1, y9.1][j]? = some d → n ∈ d.weights Tryz.prog t → n ≤ 140737488351232 := by
        intro j t d n ht hd hn
        refine hz n ?_
        rw [hxx]
        simp only [DataW.weights, Tryz.underlying27]
        exact DataW.weights_mem_each (P := Tryz.prog) (ts := [3, 3, 9, 3, 3, 3, 24, 3, 3, 25]) (ds := [y0.1, y1.1, y2.1, y3.1, y4.1, y5.1, y6.1, y7.1, y8.1, y9.1]) ht hd n hn
      have h0 : DataW.trod enc Tryz.prog w base spare held m 3 (([c0, c1, c2, c3, c4, c5, c6, c7, c8, c9].drop 0).take (Tryz.prog.cellsOf 3)) = some y0 := hx 0 _ rfl
      rw [Tryz.cells3] at h0
      have h1 : DataW.trod enc Tryz.prog w base spare held m 3 (([c0, c1, c2, c3, c4, c5, c6, c7, c8, c9].drop 1).take (Tryz.prog.cellsOf 3)) = some y1 := hx 1 _ rfl
      rw [Tryz.cells3] at h1
      have h2 : DataW.trod enc Tryz.prog w base spare held m 9 (([c0, c1, c2, c3, c4, c5, c6, c7, c8, c9].drop 2).take (Tryz.prog.cellsOf 9)) = some y2 := hx 2 _ rfl
      rw [Tryz.cells9] at h2
      have h3 : DataW.trod enc Tryz.prog w base spare held m 3 (([c0, c1, c2, c3, c4, c5, c6, c7, c8, c9].drop 3).take (Tryz.prog.cellsOf 3)) = some y3 := hx 3 _ rfl
      rw [Tryz.cells3] at h3
      have h4 : DataW.trod enc Tryz.prog w base spare held m 3 (([c0, c1, c2, c3, c4, c5, c6, c7, c8, c9].drop 4).take (Tryz.prog.cellsOf 3)) = some y4 := hx 4 _ rfl
      rw [Tryz.cells3] at h4
      have h5 : DataW.trod enc Tryz.prog w base spare held m 3 (([c0, c1, c2, c3, c4, c5, c6, c7, c8, c9].drop 5).take (Tryz.prog.cellsOf 3)) = some y5 := hx 5 _ rfl
      rw [Tryz.cells3] at h5
      have h6 : DataW.trod enc Tryz.prog w base spare held m 24 (([c0, c1, c2, c3, c4, c5, c6, c7, c8, c9].drop 6).take (Tryz.prog.cellsOf 24)) = some y6 := hx 6 _ rfl
      rw [Tryz.cells24] at h6
      have h7 : DataW.trod enc Tryz.prog w base spare held m 3 (([c0, c1, c2, c3, c4, c5, c6, c7, c8, c9].drop 7).take (Tryz.prog.cellsOf 3)) = some y7 := hx 7 _ rfl
      rw [Tryz.cells3] at h7
      have h8 : DataW.trod enc Tryz.prog w base spare held m 3 (([c0, c1, c2, c3, c4, c5, c6, c7, c8, c9].drop 8).take (Tryz.prog.cellsOf 3)) = some y8 := hx 8 _ rfl
      rw [Tryz.cells3] at h8
      have h9 : DataW.trod enc Tryz.prog w base spare held m 25 (([c0, c1, c2, c3, c4, c5, c6, c7, c8, c9].drop 9).take (Tryz.prog.cellsOf 25)) = some y9 := hx 9 _ rfl
      rw [Tryz.cells25] at h9
      obtain ⟨n0, e0, -, w0⟩ := DataW.trod_int Tryz.underlying3 h0
      simp at e0
      subst e0
      have i0 := wf_i64 w0
      obtain ⟨n1, e1, -, w1⟩ := DataW.trod_int Tryz.underlying3 h1
      simp at e1
      subst e1
      have i1 := wf_i64 w1
      obtain ⟨s2, e2, d2, -⟩ := DataW.trod_string Tryz.underlying9 h2
      simp at e2
      subst e2
      have l2 : s2.data.toList.length ≤ 140737488351232 := hW 2 9 y2.1 _ rfl rfl (by rw [d2]; simp [DataW.weights])
      obtain ⟨n3, e3, -, w3⟩ := DataW.trod_int Tryz.underlying3 h3
      simp at e3
      subst e3
      have i3 := wf_i64 w3
      obtain ⟨n4, e4, -, w4⟩ := DataW.trod_int Tryz.underlying3 h4
      simp at e4
      subst e4
      have i4 := wf_i64 w4
      obtain ⟨n5, e5, -, w5⟩ := DataW.trod_int Tryz.underlying3 h5
      simp at e5
      subst e5
      have i5 := wf_i64 w5
      obtain ⟨c6, a6, p6, e6, r6, g6, z6⟩ := open_cuts h6 (fun n hn => hW 6 24 y6.1 n rfl rfl hn)
      simp at e6
      subst e6
      obtain ⟨n7, e7, -, w7⟩ := DataW.trod_int Tryz.underlying3 h7
      simp at e7
      subst e7
      have i7 := wf_i64 w7
      obtain ⟨n8, e8, -, w8⟩ := DataW.trod_int Tryz.underlying3 h8
      simp at e8
      subst e8
      have i8 := wf_i64 w8
      obtain ⟨c9, a9, p9, e9, r9, g9, z9⟩ := open_bars h9 (fun n hn => hW 9 25 y9.1 n rfl rfl hn)
      simp at e9
      subst e9
      exact ⟨⟨n0, n1, s2.data.toList, n3, n4, n5, c6, n7, n8, c9⟩, a6, a9, p6, p9, rfl, ⟨r6, r9⟩, ⟨i0, i1, i3, i4, i5, i7, i8, g6, g9⟩, l2, z6, z9⟩
set_option maxHeartbeats 4000000 in
theorem open_mg {fuel : Nat} {cs : List Value} {x : DataW H × List MemPlace} (h : DataW.trod enc Tryz.prog w base spare held fuel 35 cs = some x) (hz : ∀ n, n ∈ x.1.weights Tryz.prog 35 → n ≤ 140737488351232) :
    ∃ (y : Mg) (pa ia ca ba : Option Addr) (pc ic cc bc : Nat), cs = [.int .i64 y.k, .int .i64 y.mem, .string ⟨y.name.toArray⟩, .string ⟨y.a.i.toArray⟩, .int .i64 y.a.iss, .int .i64 y.a.rat, .int .i64 y.a.mat, .string ⟨y.a.cur.toArray⟩, .int .i64 y.b.id, .int .i64 y.b.ver, .string ⟨y.b.cur.toArray⟩, .int .i64 y.b.rat, .int .i64 y.b.least, .int .i64 y.b.most, .slice ca y.b.cuts.length cc, .int .i64 y.b.iss, .int .i64 y.b.ass, .slice ba y.b.bar.length bc, .slice pa y.ps.length pc, .int .i64 y.day, .string ⟨y.t.toArray⟩, .int .i64 y.n, .int .i64 y.q.id, .int .i64 y.q.mem, .int .i64 y.q.side, .int .i64 y.q.bas, .int .i64 y.q.am, .int .i64 y.q.rate, .int .i64 y.q.st, .int .i64 y.q.en, .string ⟨y.out.i.toArray⟩, .int .i64 y.out.q, .slice ia y.ins.length ic, .int .i64 y.tr, .bool y.done, .int .i64 y.rate] ∧ Hld w.heap.size w y pa ia ca ba ∧ y.Wf ∧ Szd y := by
  obtain ⟨xs, m, -, hxx, hl, hxl, hx⟩ := DataW.trod_struct (P := Tryz.prog) Tryz.underlying35 h
  rw [Tryz.cells35] at hl
  match cs, hl with
  | c0 :: c1 :: c2 :: c3 :: c4 :: c5 :: c6 :: c7 :: c8 :: c9 :: c10 :: c11 :: c12 :: c13 :: c14 :: c15 :: c16 :: c17 :: c18 :: c19 :: c20 :: c21 :: c22 :: c23 :: c24 :: c25 :: c26 :: c27 :: c28 :: c29 :: c30 :: c31 :: c32 :: c33 :: c34 :: c35 :: [], _ =>
    match xs, hxl with
    | [y0, y1, y2, y3, y4, y5, y6, y7, y8, y9, y10, y11, y12, y13, y14], _ =>
      have hW : ∀ (j : Nat) (t : TypeId) (d : DataW H) (n : Nat), [(3 : TypeId), 3, 9, 23, 27, 28, 3, 9, 3, 30, 32, 33, 3, 4, 3][j]? = some t → [y0.1, y1.1, y2.1, y3.1, y4.1, y5.1, y6.1, y7.1, y8.1, y9.1, y10.1, y11.1, y12.1, y13.1, y14.1][j]? = some d → n ∈ d.weights Tryz.prog t → n ≤ 140737488351232 := by
        intro j t d n ht hd hn
        refine hz n ?_
        rw [hxx]
        simp only [DataW.weights, Tryz.underlying35]
        exact DataW.weights_mem_each (P := Tryz.prog) (ts := [3, 3, 9, 23, 27, 28, 3, 9, 3, 30, 32, 33, 3, 4, 3]) (ds := [y0.1, y1.1, y2.1, y3.1, y4.1, y5.1, y6.1, y7.1, y8.1, y9.1, y10.1, y11.1, y12.1, y13.1, y14.1]) ht hd n hn
      have h0 : DataW.trod enc Tryz.prog w base spare held m 3 (([c0, c1, c2, c3, c4, c5, c6, c7, c8, c9, c10, c11, c12, c13, c14, c15, c16, c17, c18, c19, c20, c21, c22, c23, c24, c25, c26, c27, c28, c29, c30, c31, c32, c33, c34, c35].drop 0).take (Tryz.prog.cellsOf 3)) = some y0 := hx 0 _ rfl
      rw [Tryz.cells3] at h0
      have h1 : DataW.trod enc Tryz.prog w base spare held m 3 (([c0, c1, c2, c3, c4, c5, c6, c7, c8, c9, c10, c11, c12, c13, c14, c15, c16, c17, c18, c19, c20, c21, c22, c23, c24, c25, c26, c27, c28, c29, c30, c31, c32, c33, c34, c35].drop 1).take (Tryz.prog.cellsOf 3)) = some y1 := hx 1 _ rfl
      rw [Tryz.cells3] at h1
      have h2 : DataW.trod enc Tryz.prog w base spare held m 9 (([c0, c1, c2, c3, c4, c5, c6, c7, c8, c9, c10, c11, c12, c13, c14, c15, c16, c17, c18, c19, c20, c21, c22, c23, c24, c25, c26, c27, c28, c29, c30, c31, c32, c33, c34, c35].drop 2).take (Tryz.prog.cellsOf 9)) = some y2 := hx 2 _ rfl
      rw [Tryz.cells9] at h2
      have h3 : DataW.trod enc Tryz.prog w base spare held m 23 (([c0, c1, c2, c3, c4, c5, c6, c7, c8, c9, c10, c11, c12, c13, c14, c15, c16, c17, c18, c19, c20, c21, c22, c23, c24, c25, c26, c27, c28, c29, c30, c31, c32, c33, c34, c35].drop 3).take (Tryz.prog.cellsOf 23)) = some y3 := hx 3 _ rfl
      rw [Tryz.cells23] at h3
      have h4 : DataW.trod enc Tryz.prog w base spare held m 27 (([c0, c1, c2, c3, c4, c5, c6, c7, c8, c9, c10, c11, c12, c13, c14, c15, c16, c17, c18, c19, c20, c21, c22, c23, c24, c25, c26, c27, c28, c29, c30, c31, c32, c33, c34, c35].drop 8).take (Tryz.prog.cellsOf 27)) = some y4 := hx 4 _ rfl
      rw [Tryz.cells27] at h4
      have h5 : DataW.trod enc Tryz.prog w base spare held m 28 (([c0, c1, c2, c3, c4, c5, c6, c7, c8, c9, c10, c11, c12, c13, c14, c15, c16, c17, c18, c19, c20, c21, c22, c23, c24, c25, c26, c27, c28, c29, c30, c31, c32, c33, c34, c35].drop 18).take (Tryz.prog.cellsOf 28)) = some y5 := hx 5 _ rfl
      rw [Tryz.cells28] at h5
      have h6 : DataW.trod enc Tryz.prog w base spare held m 3 (([c0, c1, c2, c3, c4, c5, c6, c7, c8, c9, c10, c11, c12, c13, c14, c15, c16, c17, c18, c19, c20, c21, c22, c23, c24, c25, c26, c27, c28, c29, c30, c31, c32, c33, c34, c35].drop 19).take (Tryz.prog.cellsOf 3)) = some y6 := hx 6 _ rfl
      rw [Tryz.cells3] at h6
      have h7 : DataW.trod enc Tryz.prog w base spare held m 9 (([c0, c1, c2, c3, c4, c5, c6, c7, c8, c9, c10, c11, c12, c13, c14, c15, c16, c17, c18, c19, c20, c21, c22, c23, c24, c25, c26, c27, c28, c29, c30, c31, c32, c33, c34, c35].drop 20).take (Tryz.prog.cellsOf 9)) = some y7 := hx 7 _ rfl
      rw [Tryz.cells9] at h7
      have h8 : DataW.trod enc Tryz.prog w base spare held m 3 (([c0, c1, c2, c3, c4, c5, c6, c7, c8, c9, c10, c11, c12, c13, c14, c15, c16, c17, c18, c19, c20, c21, c22, c23, c24, c25, c26, c27, c28, c29, c30, c31, c32, c33, c34, c35].drop 21).take (Tryz.prog.cellsOf 3)) = some y8 := hx 8 _ rfl
      rw [Tryz.cells3] at h8
      have h9 : DataW.trod enc Tryz.prog w base spare held m 30 (([c0, c1, c2, c3, c4, c5, c6, c7, c8, c9, c10, c11, c12, c13, c14, c15, c16, c17, c18, c19, c20, c21, c22, c23, c24, c25, c26, c27, c28, c29, c30, c31, c32, c33, c34, c35].drop 22).take (Tryz.prog.cellsOf 30)) = some y9 := hx 9 _ rfl
      rw [Tryz.cells30] at h9
      have h10 : DataW.trod enc Tryz.prog w base spare held m 32 (([c0, c1, c2, c3, c4, c5, c6, c7, c8, c9, c10, c11, c12, c13, c14, c15, c16, c17, c18, c19, c20, c21, c22, c23, c24, c25, c26, c27, c28, c29, c30, c31, c32, c33, c34, c35].drop 30).take (Tryz.prog.cellsOf 32)) = some y10 := hx 10 _ rfl
      rw [Tryz.cells32] at h10
      have h11 : DataW.trod enc Tryz.prog w base spare held m 33 (([c0, c1, c2, c3, c4, c5, c6, c7, c8, c9, c10, c11, c12, c13, c14, c15, c16, c17, c18, c19, c20, c21, c22, c23, c24, c25, c26, c27, c28, c29, c30, c31, c32, c33, c34, c35].drop 32).take (Tryz.prog.cellsOf 33)) = some y11 := hx 11 _ rfl
      rw [Tryz.cells33] at h11
      have h12 : DataW.trod enc Tryz.prog w base spare held m 3 (([c0, c1, c2, c3, c4, c5, c6, c7, c8, c9, c10, c11, c12, c13, c14, c15, c16, c17, c18, c19, c20, c21, c22, c23, c24, c25, c26, c27, c28, c29, c30, c31, c32, c33, c34, c35].drop 33).take (Tryz.prog.cellsOf 3)) = some y12 := hx 12 _ rfl
      rw [Tryz.cells3] at h12
      have h13 : DataW.trod enc Tryz.prog w base spare held m 4 (([c0, c1, c2, c3, c4, c5, c6, c7, c8, c9, c10, c11, c12, c13, c14, c15, c16, c17, c18, c19, c20, c21, c22, c23, c24, c25, c26, c27, c28, c29, c30, c31, c32, c33, c34, c35].drop 34).take (Tryz.prog.cellsOf 4)) = some y13 := hx 13 _ rfl
      rw [Tryz.cells4] at h13
      have h14 : DataW.trod enc Tryz.prog w base spare held m 3 (([c0, c1, c2, c3, c4, c5, c6, c7, c8, c9, c10, c11, c12, c13, c14, c15, c16, c17, c18, c19, c20, c21, c22, c23, c24, c25, c26, c27, c28, c29, c30, c31, c32, c33, c34, c35].drop 35).take (Tryz.prog.cellsOf 3)) = some y14 := hx 14 _ rfl
      rw [Tryz.cells3] at h14
      obtain ⟨n0, e0, -, w0⟩ := DataW.trod_int Tryz.underlying3 h0
      simp at e0
      subst e0
      have i0 := wf_i64 w0
      obtain ⟨n1, e1, -, w1⟩ := DataW.trod_int Tryz.underlying3 h1
      simp at e1
      subst e1
      have i1 := wf_i64 w1
      obtain ⟨s2, e2, d2, -⟩ := DataW.trod_string Tryz.underlying9 h2
      simp at e2
      subst e2
      have l2 : s2.data.toList.length ≤ 140737488351232 := hW 2 9 y2.1 _ rfl rfl (by rw [d2]; simp [DataW.weights])
      obtain ⟨c3, e3, g3, z3⟩ := open_ast h3 (fun n hn => hW 3 23 y3.1 n rfl rfl hn)
      simp at e3
      obtain ⟨rfl, rfl, rfl, rfl, rfl⟩ := e3
      obtain ⟨c4, ca, ba, cc, bc, e4, r4, g4, z4⟩ := open_bk h4 (fun n hn => hW 4 27 y4.1 n rfl rfl hn)
      simp at e4
      obtain ⟨rfl, rfl, rfl, rfl, rfl, rfl, rfl, rfl, rfl, rfl⟩ := e4
      obtain ⟨c5, a5, p5, e5, r5, g5, z5⟩ := open_prices h5 (fun n hn => hW 5 28 y5.1 n rfl rfl hn)
      simp at e5
      subst e5
      obtain ⟨n6, e6, -, w6⟩ := DataW.trod_int Tryz.underlying3 h6
      simp at e6
      subst e6
      have i6 := wf_i64 w6
      obtain ⟨s7, e7, d7, -⟩ := DataW.trod_string Tryz.underlying9 h7
      simp at e7
      subst e7
      have l7 : s7.data.toList.length ≤ 140737488351232 := hW 7 9 y7.1 _ rfl rfl (by rw [d7]; simp [DataW.weights])
      obtain ⟨n8, e8, -, w8⟩ := DataW.trod_int Tryz.underlying3 h8
      simp at e8
      subst e8
      have i8 := wf_i64 w8
      obtain ⟨c9, e9, g9⟩ := open_qu h9 (fun n hn => hW 9 30 y9.1 n rfl rfl hn)
      simp at e9
      obtain ⟨rfl, rfl, rfl, rfl, rfl, rfl, rfl, rfl⟩ := e9
      obtain ⟨c10, e10, g10⟩ := open_lot h10 (fun n hn => hW 10 32 y10.1 n rfl rfl hn)
      simp at e10
      obtain ⟨rfl, rfl⟩ := e10
      obtain ⟨c11, a11, p11, e11, r11, g11, z11⟩ := open_lots h11 (fun n hn => hW 11 33 y11.1 n rfl rfl hn)
      simp at e11
      subst e11
      obtain ⟨n12, e12, -, w12⟩ := DataW.trod_int Tryz.underlying3 h12
      simp at e12
      subst e12
      have i12 := wf_i64 w12
      obtain ⟨b13, e13, -⟩ := DataW.trod_bool Tryz.underlying4 h13
      simp at e13
      subst e13
      obtain ⟨n14, e14, -, w14⟩ := DataW.trod_int Tryz.underlying3 h14
      simp at e14
      subst e14
      have i14 := wf_i64 w14
      exact ⟨⟨n0, n1, s2.data.toList, c3, c4, c5, n6, s7.data.toList, n8, c9, c10, c11, n12, b13, n14⟩, a5, a11, ca, ba, p5, p11, cc, bc, rfl, ⟨r5, r11, r4.1, r4.2⟩, ⟨i0, i1, g3, g4, fun l hl => (g5 l hl).1, i6, i8, g9, g10.1, fun l hl => (g11 l hl).1, i12, i14⟩, ⟨l2, z3.1, z3.2, z4.1, l7, g10.2, fun l hl => (g5 l hl).2, fun l hl => (g11 l hl).2, z4.2.1, z4.2.2, z5, z11⟩⟩
end
end Go.Proofs.YtdmlgheajblcdaaGreat
