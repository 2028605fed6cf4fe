/- layer 12: calls, as they are handed in -/
import Derived.Test.YtbfnfebmmhhegaaX
import Derived.Test.YtbfnfebmmhhegaaCQ
import Derived.WalkKit
import Derived.ProofKit
import Derived.OpenShut
import Derived.ChangeOld
import Derived.Below
import Derived.SizedLaws
import Derived.ChangeMaps5
import Derived.Lib.SmallJoins
namespace Go.Proofs.Ytbfnfebmmhhegaa
open Go.RowKit
set_option linter.unusedVariables false
set_option linter.unusedSimpArgs false
open Go.ChangeShapes Go.WideShapes
set_option maxRecDepth 100000
theorem Try.cells101 : Try.prog.cellsOf 101 = 6 := by kernel_rfl
theorem Try.bytes101 : Try.prog.bytesOf 101 = 56 := by kernel_rfl
theorem Try.cells64 : Try.prog.cellsOf 64 = 2 := by kernel_rfl
theorem Try.bytes64 : Try.prog.bytesOf 64 = 24 := by kernel_rfl
theorem Try.cells30 : Try.prog.cellsOf 30 = 8 := by kernel_rfl
theorem Try.bytes30 : Try.prog.bytesOf 30 = 104 := by kernel_rfl
theorem Try.cells27 : Try.prog.cellsOf 27 = 1 := by kernel_rfl
theorem Try.cells28 : Try.prog.cellsOf 28 = 1 := by kernel_rfl
theorem Try.cells22 : Try.prog.cellsOf 22 = 1 := by kernel_rfl
structure Wl (x : Ln) : Prop where
  f : Rng x.f
  b : Rng x.b
  t : Rng x.t
  i : Rng x.i
  s : x.s.size ≤ 140737488351232
  q : Rng x.q
structure Wt (x : Lot) : Prop where
  s : x.1.size ≤ 140737488351232
  q : Rng x.2
/-- all that is known of a handed call -/
structure Ah (w : World) (x : Ac) : Prop where
  w : Aw w x
  k : Rng x.k
  a : Rng x.a
  b : Rng x.b
  c : Rng x.c
  s : x.s.size ≤ 140737488351232
  l : x.l.length * 56 ≤ 140737488351232
  t : x.t.length * 24 ≤ 140737488351232
  lc : x.l.length ≤ x.lc
  tc : x.t.length ≤ x.tc
  lw : ∀ y ∈ x.l, Wl y
  tw : ∀ y ∈ x.t, Wt y
section
variable {H : Type} {enc : TypeId × Value → H} {w : World} {base : Nat} {spare : Nat → Bool} {held : Bool}
theorem open_ln {fuel : Nat} {cs : List Value} {x : DataW H × List MemPlace} (h : DataW.trod enc Try.prog w base spare held fuel 101 cs = some x) :
    ∃ y : Ln, cs = y.cs.toList ∧ Rng y.f ∧ Rng y.b ∧ Rng y.t ∧ Rng y.i ∧ Rng y.q ∧ y.s.size ∈ x.1.weights Try.prog 101 := by
  obtain ⟨xs, m, -, hxx, hl, hxl, hx⟩ := DataW.trod_struct (P := Try.prog) Try.underlying101 h
  rw [Try.cells101] at hl
  match cs, hl with
  | [c0, c1, c2, c3, c4, c5], _ =>
    match xs, hxl with
    | [y0, y1, y2, y3, y4, y5], _ =>
      have h0 : DataW.trod enc Try.prog w base spare held m 3 (([c0, c1, c2, c3, c4, c5].drop 0).take (Try.prog.cellsOf 3)) = some y0 := hx 0 _ rfl
      rw [Try.cells3] at h0
      have h1 : DataW.trod enc Try.prog w base spare held m 3 (([c0, c1, c2, c3, c4, c5].drop 1).take (Try.prog.cellsOf 3)) = some y1 := hx 1 _ rfl
      rw [Try.cells3] at h1
      have h2 : DataW.trod enc Try.prog w base spare held m 3 (([c0, c1, c2, c3, c4, c5].drop 2).take (Try.prog.cellsOf 3)) = some y2 := hx 2 _ rfl
      rw [Try.cells3] at h2
      have h3 : DataW.trod enc Try.prog w base spare held m 3 (([c0, c1, c2, c3, c4, c5].drop 3).take (Try.prog.cellsOf 3)) = some y3 := hx 3 _ rfl
      rw [Try.cells3] at h3
      have h4 : DataW.trod enc Try.prog w base spare held m 9 (([c0, c1, c2, c3, c4, c5].drop 4).take (Try.prog.cellsOf 9)) = some y4 := hx 4 _ rfl
      rw [Try.cells9] at h4
      have h5 : DataW.trod enc Try.prog w base spare held m 3 (([c0, c1, c2, c3, c4, c5].drop 5).take (Try.prog.cellsOf 3)) = some y5 := hx 5 _ rfl
      rw [Try.cells3] at h5
      have hW : ∀ (j : Nat) (t : TypeId) (d : DataW H) (n : Nat), [(3 : TypeId), 3, 3, 3, 9, 3][j]? = some t → [y0.1, y1.1, y2.1, y3.1, y4.1, y5.1][j]? = some d → n ∈ d.weights Try.prog t → n ∈ x.1.weights Try.prog 101 := by
        intro j t d n ht hd hn
        rw [hxx]
        simp only [DataW.weights, Try.underlying101]
        exact DataW.weights_mem_each (P := Try.prog) (ts := [3, 3, 3, 3, 9, 3]) (ds := [y0.1, y1.1, y2.1, y3.1, y4.1, y5.1]) ht hd n hn
      obtain ⟨a0, e0, -, w0⟩ := DataW.trod_int Try.underlying3 h0
      obtain ⟨a1, e1, -, w1⟩ := DataW.trod_int Try.underlying3 h1
      obtain ⟨a2, e2, -, w2⟩ := DataW.trod_int Try.underlying3 h2
      obtain ⟨a3, e3, -, w3⟩ := DataW.trod_int Try.underlying3 h3
      obtain ⟨s4, e4, d4, -⟩ := DataW.trod_string Try.underlying9 h4
      obtain ⟨a5, e5, -, w5⟩ := DataW.trod_int Try.underlying3 h5
      simp at e0 e1 e2 e3 e4 e5
      subst e0 e1 e2 e3 e4 e5
      exact ⟨⟨a0, a1, a2, a3, s4, a5⟩, rfl, wf_rng w0, wf_rng w1, wf_rng w2, wf_rng w3, wf_rng w5, hW 4 9 y4.1 _ rfl rfl (by rw [d4]; simp [DataW.weights])⟩
theorem open_lot {fuel : Nat} {cs : List Value} {x : DataW H × List MemPlace} (h : DataW.trod enc Try.prog w base spare held fuel 64 cs = some x) :
    ∃ y : Lot, cs = lotc y ∧ Rng y.2 ∧ y.1.size ∈ x.1.weights Try.prog 64 := by
  obtain ⟨xs, m, -, hxx, hl, hxl, hx⟩ := DataW.trod_struct (P := Try.prog) Try.underlying64 h
  rw [Try.cells64] at hl
  match cs, hl with
  | [c0, c1], _ =>
    match xs, hxl with
    | [y0, y1], _ =>
      have h0 : DataW.trod enc Try.prog w base spare held m 9 (([c0, c1].drop 0).take (Try.prog.cellsOf 9)) = some y0 := hx 0 _ rfl
      rw [Try.cells9] at h0
      have h1 : DataW.trod enc Try.prog w base spare held m 3 (([c0, c1].drop 1).take (Try.prog.cellsOf 3)) = some y1 := hx 1 _ rfl
      rw [Try.cells3] at h1
      have hW : ∀ (j : Nat) (t : TypeId) (d : DataW H) (n : Nat), [(9 : TypeId), 3][j]? = some t → [y0.1, y1.1][j]? = some d → n ∈ d.weights Try.prog t → n ∈ x.1.weights Try.prog 64 := by
        intro j t d n ht hd hn
        rw [hxx]
        simp only [DataW.weights, Try.underlying64]
        exact DataW.weights_mem_each (P := Try.prog) (ts := [9, 3]) (ds := [y0.1, y1.1]) ht hd n hn
      obtain ⟨s0, e0, d0, -⟩ := DataW.trod_string Try.underlying9 h0
      obtain ⟨a1, e1, -, w1⟩ := DataW.trod_int Try.underlying3 h1
      simp at e0 e1
      subst e0 e1
      exact ⟨(s0, a1), rfl, wf_rng w1, hW 0 9 y0.1 _ rfl rfl (by rw [d0]; simp [DataW.weights])⟩
theorem open_lines {fuel : Nat} {cs : List Value} {x : DataW H × List MemPlace} (h : DataW.trod enc Try.prog w base spare held fuel 27 cs = some x) (hz : ∀ n, n ∈ x.1.weights Try.prog 27 → n ≤ 140737488351232) :
    ∃ (xs : List Ln) (a : Option Addr) (cap : Nat), cs = [.slice a xs.length cap] ∧ xs.length ≤ cap ∧ Rw 6 (fun x : Ln => x.cs.toList) w a xs ∧ (∀ y ∈ xs, Wl y) ∧ xs.length * 56 ≤ 140737488351232 := by
  rcases DataW.trod_slice Try.underlying27 h with ⟨rfl, -⟩ | ⟨ad, len, cap, elems, rest, n, -, rfl, hx, hb, hl, hm, hlen, hel, -, -⟩
  · exact ⟨[], none, 0, rfl, Nat.le_refl _, Rw.nil, fun y hy => (List.not_mem_nil hy).elim, by simp⟩
  · have each : ∀ i, i < len → ∃ y : Ln, (∀ j, j < 6 → w.cell? ((ad.add (i * 6)).add j) = ((fun x : Ln => x.cs.toList) y)[j]?) ∧ Wl y := by
      intro i hi
      have h3 := hel i hi
      rw [List.getElem?_eq_getElem (by omega), Try.cells101, Option.bind_eq_some_iff] at h3
      obtain ⟨cs, hcs, hy⟩ := h3
      obtain ⟨-, hl2, hcell⟩ := World.cells?_some hcs
      have hW : ∀ n, n ∈ (elems[i].1).weights Try.prog 101 → n ≤ 140737488351232 := by
        intro n hn
        refine hz n ?_
        rw [hx]
        simp only [DataW.weights, Try.underlying27, List.mem_cons, List.mem_append]
        exact .inr (.inl (weightsAll_mem (List.mem_map.2 ⟨elems[i], List.getElem_mem _, rfl⟩) hn))
      obtain ⟨y, rfl, k1, k2, k3, k4, k5, z1⟩ := open_ln hy
      exact ⟨y, fun j hj => hcell j hj, k1, k2, k3, k4, hW _ z1, k5⟩
    obtain ⟨xs, hxl, hq⟩ := collectG len each
    have hwt : xs.length * 56 ≤ 140737488351232 := by
      have := hz ((elems.length + rest.length) * 56) (by
        rw [hx]
        simp only [DataW.weights, Try.underlying27, Try.bytes101, List.length_map]
        exact List.mem_cons_self ..)
      rw [hxl]
      have e : len ≤ elems.length + rest.length := by omega
      have := Nat.mul_le_mul_right 56 e
      omega
    refine ⟨xs, some ad, cap, by rw [hxl], by omega, fun h0 => ?_, fun y hy => ?_, hwt⟩
    · obtain ⟨b, off, spot⟩ := ad
      have hs := (hq 0 (by omega)).1 0 (by omega)
      have hs' : w.cell? (((⟨b, off, spot⟩ : Addr).add (0 * 6)).add 0) = some (.int .i64 (xs[0]'h0).f) := hs
      have hspot : spot = none := by simpa [Addr.add] using World.cell?_spot hs'
      subst hspot
      have hblk := World.block_lt_of_cell? w _ hs'
      have hbl : b < w.heap.size := by simpa [Addr.add] using hblk
      refine ⟨b, off, rfl, hbl, fun i hi j hj => ?_⟩
      have := (hq i hi).1 j hj
      rw [add_flat ⟨b, off, none⟩ rfl, add_flat ⟨b, off + i * 6, none⟩ rfl] at this
      exact this
    · obtain ⟨i, hi, rfl⟩ := List.getElem_of_mem hy
      exact (hq i hi).2
theorem open_lots {fuel : Nat} {cs : List Value} {x : DataW H × List MemPlace} (h : DataW.trod enc Try.prog w base spare held fuel 28 cs = some x) (hz : ∀ n, n ∈ x.1.weights Try.prog 28 → n ≤ 140737488351232) :
    ∃ (xs : List Lot) (a : Option Addr) (cap : Nat), cs = [.slice a xs.length cap] ∧ xs.length ≤ cap ∧ Rw 2 lotc w a xs ∧ (∀ y ∈ xs, Wt y) ∧ xs.length * 24 ≤ 140737488351232 := by
  rcases DataW.trod_slice Try.underlying28 h with ⟨rfl, -⟩ | ⟨ad, len, cap, elems, rest, n, -, rfl, hx, hb, hl, hm, hlen, hel, -, -⟩
  · exact ⟨[], none, 0, rfl, Nat.le_refl _, Rw.nil, fun y hy => (List.not_mem_nil hy).elim, by simp⟩
  · have each : ∀ i, i < len → ∃ y : Lot, (∀ j, j < 2 → w.cell? ((ad.add (i * 2)).add j) = (lotc y)[j]?) ∧ Wt y := by
      intro i hi
      have h3 := hel i hi
      rw [List.getElem?_eq_getElem (by omega), Try.cells64, Option.bind_eq_some_iff] at h3
      obtain ⟨cs, hcs, hy⟩ := h3
      obtain ⟨-, hl2, hcell⟩ := World.cells?_some hcs
      have hW : ∀ n, n ∈ (elems[i].1).weights Try.prog 64 → n ≤ 140737488351232 := by
        intro n hn
        refine hz n ?_
        rw [hx]
        simp only [DataW.weights, Try.underlying28, List.mem_cons, List.mem_append]
        exact .inr (.inl (weightsAll_mem (List.mem_map.2 ⟨elems[i], List.getElem_mem _, rfl⟩) hn))
      obtain ⟨y, rfl, k1, z1⟩ := open_lot hy
      exact ⟨y, fun j hj => hcell j hj, hW _ z1, k1⟩
    obtain ⟨xs, hxl, hq⟩ := collectG len each
    have hwt : xs.length * 24 ≤ 140737488351232 := by
      have := hz ((elems.length + rest.length) * 24) (by
        rw [hx]
        simp only [DataW.weights, Try.underlying28, Try.bytes64, List.length_map]
        exact List.mem_cons_self ..)
      rw [hxl]
      have e : len ≤ elems.length + rest.length := by omega
      have := Nat.mul_le_mul_right 24 e
      omega
    refine ⟨xs, some ad, cap, by rw [hxl], by omega, fun h0 => ?_, fun y hy => ?_, hwt⟩
    · obtain ⟨b, off, spot⟩ := ad
      have hs := (hq 0 (by omega)).1 0 (by omega)
      have hs' : w.cell? (((⟨b, off, spot⟩ : Addr).add (0 * 2)).add 0) = some (.string (xs[0]'h0).1) := hs
      have hspot : spot = none := by simpa [Addr.add] using World.cell?_spot hs'
      subst hspot
      have hblk := World.block_lt_of_cell? w _ hs'
      have hbl : b < w.heap.size := by simpa [Addr.add] using hblk
      refine ⟨b, off, rfl, hbl, fun i hi j hj => ?_⟩
      have := (hq i hi).1 j hj
      rw [add_flat ⟨b, off, none⟩ rfl, add_flat ⟨b, off + i * 2, none⟩ rfl] at this
      exact this
    · obtain ⟨i, hi, rfl⟩ := List.getElem_of_mem hy
      exact (hq i hi).2
theorem open_act {fuel : Nat} {cs : List Value} {x : DataW H × List MemPlace} (h : DataW.trod enc Try.prog w base spare held fuel 30 cs = some x) (hz : ∀ n, n ∈ x.1.weights Try.prog 30 → n ≤ 140737488351232) :
    ∃ y : Ac, cs = y.cs.toList ∧ Ah w y := by
  obtain ⟨xs, m, -, hxx, hl, hxl, hx⟩ := DataW.trod_struct (P := Try.prog) Try.underlying30 h
  rw [Try.cells30] at hl
  match cs, hl with
  | [c0, c1, c2, c3, c4, c5, c6, c7], _ =>
    match xs, hxl with
    | [y0, y1, y2, y3, y4, y5, y6, y7], _ =>
      have h0 : DataW.trod enc Try.prog w base spare held m 3 (([c0, c1, c2, c3, c4, c5, c6, c7].drop 0).take (Try.prog.cellsOf 3)) = some y0 := hx 0 _ rfl
      rw [Try.cells3] at h0
      have h1 : DataW.trod enc Try.prog w base spare held m 3 (([c0, c1, c2, c3, c4, c5, c6, c7].drop 1).take (Try.prog.cellsOf 3)) = some y1 := hx 1 _ rfl
      rw [Try.cells3] at h1
      have h2 : DataW.trod enc Try.prog w base spare held m 3 (([c0, c1, c2, c3, c4, c5, c6, c7].drop 2).take (Try.prog.cellsOf 3)) = some y2 := hx 2 _ rfl
      rw [Try.cells3] at h2
      have h3 : DataW.trod enc Try.prog w base spare held m 3 (([c0, c1, c2, c3, c4, c5, c6, c7].drop 3).take (Try.prog.cellsOf 3)) = some y3 := hx 3 _ rfl
      rw [Try.cells3] at h3
      have h4 : DataW.trod enc Try.prog w base spare held m 9 (([c0, c1, c2, c3, c4, c5, c6, c7].drop 4).take (Try.prog.cellsOf 9)) = some y4 := hx 4 _ rfl
      rw [Try.cells9] at h4
      have h5 : DataW.trod enc Try.prog w base spare held m 3 (([c0, c1, c2, c3, c4, c5, c6, c7].drop 5).take (Try.prog.cellsOf 3)) = some y5 := hx 5 _ rfl
      rw [Try.cells3] at h5
      have h6 : DataW.trod enc Try.prog w base spare held m 27 (([c0, c1, c2, c3, c4, c5, c6, c7].drop 6).take (Try.prog.cellsOf 27)) = some y6 := hx 6 _ rfl
      rw [Try.cells27] at h6
      have h7 : DataW.trod enc Try.prog w base spare held m 28 (([c0, c1, c2, c3, c4, c5, c6, c7].drop 7).take (Try.prog.cellsOf 28)) = some y7 := hx 7 _ rfl
      rw [Try.cells28] at h7
      have hW : ∀ (j : Nat) (t : TypeId) (d : DataW H) (n : Nat), [(3 : TypeId), 3, 3, 3, 9, 3, 27, 28][j]? = some t → [y0.1, y1.1, y2.1, y3.1, y4.1, y5.1, y6.1, y7.1][j]? = some d → n ∈ d.weights Try.prog t → n ∈ x.1.weights Try.prog 30 := by
        intro j t d n ht hd hn
        rw [hxx]
        simp only [DataW.weights, Try.underlying30]
        exact DataW.weights_mem_each (P := Try.prog) (ts := [3, 3, 3, 3, 9, 3, 27, 28]) (ds := [y0.1, y1.1, y2.1, y3.1, y4.1, y5.1, y6.1, y7.1]) ht hd n hn
      obtain ⟨a0, e0, -, w0⟩ := DataW.trod_int Try.underlying3 h0
      obtain ⟨a1, e1, -, w1⟩ := DataW.trod_int Try.underlying3 h1
      obtain ⟨a2, e2, -, w2⟩ := DataW.trod_int Try.underlying3 h2
      obtain ⟨a3, e3, -, w3⟩ := DataW.trod_int Try.underlying3 h3
      obtain ⟨s4, e4, d4, -⟩ := DataW.trod_string Try.underlying9 h4
      obtain ⟨a5, e5, -, w5⟩ := DataW.trod_int Try.underlying3 h5
      obtain ⟨ls, la, lc, e6, l1, l2, l3, l4⟩ := open_lines h6 (fun n hn => hz n (hW 6 27 y6.1 n rfl rfl hn))
      obtain ⟨ts, ta, tc, e7, t1, t2, t3, t4⟩ := open_lots h7 (fun n hn => hz n (hW 7 28 y7.1 n rfl rfl hn))
      simp at e0 e1 e2 e3 e4 e5 e6 e7
      subst e0 e1 e2 e3 e4 e5 e6 e7
      exact ⟨⟨a0, a1, a2, a3, s4, a5, ls, la, lc, ts, ta, tc⟩, rfl, ⟨l2, t2, wf_rng w5⟩, wf_rng w0, wf_rng w1, wf_rng w2, wf_rng w3, hz _ (hW 4 9 y4.1 _ rfl rfl (by rw [d4]; simp [DataW.weights])), l4, t4, l1, t1, l3, t3⟩
theorem open_acts {fuel : Nat} {cs : List Value} {x : DataW H × List MemPlace} (h : DataW.trod enc Try.prog w base spare held fuel 22 cs = some x) (hz : ∀ n, n ∈ x.1.weights Try.prog 22 → n ≤ 140737488351232) :
    ∃ (xs : List Ac) (a : Option Addr) (cap : Nat), cs = [.slice a xs.length cap] ∧ xs.length ≤ cap ∧ Rw 8 (fun x : Ac => x.cs.toList) w a xs ∧ (∀ y ∈ xs, Ah w y) ∧ xs.length * 104 ≤ 140737488351232 := by
  rcases DataW.trod_slice Try.underlying22 h with ⟨rfl, -⟩ | ⟨ad, len, cap, elems, rest, n, -, rfl, hx, hb, hl, hm, hlen, hel, -, -⟩
  · exact ⟨[], none, 0, rfl, Nat.le_refl _, Rw.nil, fun y hy => (List.not_mem_nil hy).elim, by simp⟩
  · have each : ∀ i, i < len → ∃ y : Ac, (∀ j, j < 8 → w.cell? ((ad.add (i * 8)).add j) = ((fun x : Ac => x.cs.toList) y)[j]?) ∧ Ah w y := by
      intro i hi
      have h3 := hel i hi
      rw [List.getElem?_eq_getElem (by omega), Try.cells30, Option.bind_eq_some_iff] at h3
      obtain ⟨cs, hcs, hy⟩ := h3
      obtain ⟨-, hl2, hcell⟩ := World.cells?_some hcs
      have hW : ∀ n, n ∈ (elems[i].1).weights Try.prog 30 → n ≤ 140737488351232 := by
        intro n hn
        refine hz n ?_
        rw [hx]
        simp only [DataW.weights, Try.underlying22, List.mem_cons, List.mem_append]
        exact .inr (.inl (weightsAll_mem (List.mem_map.2 ⟨elems[i], List.getElem_mem _, rfl⟩) hn))
      obtain ⟨y, rfl, k1⟩ := open_act hy hW
      exact ⟨y, fun j hj => hcell j hj, k1⟩
    obtain ⟨xs, hxl, hq⟩ := collectG len each
    have hwt : xs.length * 104 ≤ 140737488351232 := by
      have := hz ((elems.length + rest.length) * 104) (by
        rw [hx]
        simp only [DataW.weights, Try.underlying22, Try.bytes30, List.length_map]
        exact List.mem_cons_self ..)
      rw [hxl]
      have e : len ≤ elems.length + rest.length := by omega
      have := Nat.mul_le_mul_right 104 e
      omega
    refine ⟨xs, some ad, cap, by rw [hxl], by omega, fun h0 => ?_, fun y hy => ?_, hwt⟩
    · obtain ⟨b, off, spot⟩ := ad
      have hs := (hq 0 (by omega)).1 0 (by omega)
      have hs' : w.cell? (((⟨b, off, spot⟩ : Addr).add (0 * 8)).add 0) = some (.int .i64 (xs[0]'h0).k) := hs
      have hspot : spot = none := by simpa [Addr.add] using World.cell?_spot hs'
      subst hspot
      have hblk := World.block_lt_of_cell? w _ hs'
      have hbl : b < w.heap.size := by simpa [Addr.add] using hblk
      refine ⟨b, off, rfl, hbl, fun i hi j hj => ?_⟩
      have := (hq i hi).1 j hj
      rw [add_flat ⟨b, off, none⟩ rfl, add_flat ⟨b, off + i * 8, none⟩ rfl] at this
      exact this
    · obtain ⟨i, hi, rfl⟩ := List.getElem_of_mem hy
      exact (hq i hi).2
end
theorem acs_of {w : World} {a : Option Addr} {xs : List Ac} (h1 : Rw 8 (fun x : Ac => x.cs.toList) w a xs) (h2 : ∀ y ∈ xs, Ah w y) (h3 : xs.length * 104 ≤ 140737488351232) : Acs w a xs := ⟨h1, fun x hx => (h2 x hx).w, by omega⟩
end Go.Proofs.Ytbfnfebmmhhegaa
