/- layer 14: baskets and a security, as they are handed in -/
import Derived.Test.YtmjaijpikbdfkaaN
import Derived.WalkKit
import Derived.ProofKit
import Derived.OpenShut
import Derived.ChangeOld
import Derived.Below
import Derived.SizedLaws
import Derived.ChangeMaps5
import Derived.Lib.SmallJoins
namespace Go.Proofs.Ytmjaijpikbdfkaa
open Go.RowKit
set_option linter.unusedVariables false
set_option linter.unusedSimpArgs false
open Go.ChangeShapes Go.WideShapes
set_option maxRecDepth 100000
abbrev Rng (n : Int) : Prop := -9223372036854775808 ≤ n ∧ n ≤ 9223372036854775807
theorem wf_rng {n : Int} (h : (Lit.int .i64 n).wf = true) : Rng n := by
  simpa [Lit.wf, IntKind.min, IntKind.max, IntKind.signed, IntKind.bits, Rng] using h
theorem Try.cells3 : Try.prog.cellsOf 3 = 1 := by kernel_rfl
theorem Try.cells9 : Try.prog.cellsOf 9 = 1 := by kernel_rfl
theorem Try.cells27 : Try.prog.cellsOf 27 = 5 := by kernel_rfl
theorem Try.cells53 : Try.prog.cellsOf 53 = 3 := by kernel_rfl
theorem Try.cells22 : Try.prog.cellsOf 22 = 1 := by kernel_rfl
theorem Try.cells23 : Try.prog.cellsOf 23 = 1 := by kernel_rfl
theorem Try.cells25 : Try.prog.cellsOf 25 = 10 := by kernel_rfl
theorem Try.bytes53 : Try.prog.bytesOf 53 = 24 := by kernel_rfl
theorem Try.bytes3 : Try.prog.bytesOf 3 = 8 := by kernel_rfl
theorem Try.bytes25 : Try.prog.bytesOf 25 = 120 := by kernel_rfl
theorem weightsAll_mem {H : Type} {P : Program} {e : TypeId} {d : DataW H} {n : Nat} : ∀ {es : List (DataW H)}, d ∈ es → n ∈ d.weights P e → n ∈ DataW.weightsAll P e es
  | [], h, _ => by cases h
  | y :: es, h, hn => by
    simp only [DataW.weightsAll, List.mem_append]
    rcases List.mem_cons.1 h with rfl | h
    · exact .inl hn
    · exact .inr (weightsAll_mem h hn)
theorem add_flat (a : Addr) (h : a.spot = none) (i : Nat) : a.add i = ⟨a.block, a.off + i, none⟩ := by
  obtain ⟨b, off, spot⟩ := a
  subst h
  cases i <;> simp [Addr.add]
/-- one for each, in a row -/
theorem collectG {α : Type} {Q : Nat → α → Prop} (n : Nat) : (∀ i, i < n → ∃ p, Q i p) → ∃ l : List α, l.length = n ∧ ∀ i (h : i < l.length), Q i l[i] := by
  induction n with
  | zero => intro _; exact ⟨[], rfl, fun i hi => absurd hi (Nat.not_lt_zero i)⟩
  | succ n ih =>
    intro h
    obtain ⟨l, hl, hq⟩ := ih (fun i hi => h i (by omega))
    obtain ⟨p, hp⟩ := h n (by omega)
    refine ⟨l ++ [p], by simp [hl], fun i hi => ?_⟩
    by_cases e : i < l.length
    · rw [List.getElem_append_left e]
      exact hq i e
    · have : i = n := by rw [List.length_append, List.length_singleton] at hi; omega
      subst this
      have e2 : (l ++ [p])[i] = p := by
        rw [List.getElem_append_right (by omega)]
        simp
      rw [e2]
      exact hp
def acl (a : As) : List Value := [.string a.i, .int .i64 a.iss, .int .i64 a.rat, .int .i64 a.mat, .string a.c]
structure Wa (x : As) : Prop where
  i : x.i.size ≤ 140737488351232
  c : x.c.size ≤ 140737488351232
structure Wq (w : World) (x : Bm) : Prop where
  h : Ha w.heap.size w x
  lc : x.b.cuts.length * 24 ≤ 140737488351232
  lb : x.b.bar.length * 8 ≤ 140737488351232
  s : x.b.cur.length ≤ 140737488351232
def Wz {α : Type} (x : α) : Prop := True
section
variable {H : Type} {enc : TypeId × Value → H} {w : World} {base : Nat} {spare : Nat → Bool} {held : Bool}
theorem open_asset {fuel : Nat} {cs : List Value} {x : DataW H × List MemPlace} (h : DataW.trod enc Try.prog w base spare held fuel 27 cs = some x) (hz : ∀ n, n ∈ x.1.weights Try.prog 27 → n ≤ 140737488351232) :
    ∃ y : As, cs = acl y ∧ Wa y := by
  obtain ⟨xs, m, -, hxx, hl, hxl, hx⟩ := DataW.trod_struct (P := Try.prog) Try.underlying27 h
  rw [Try.cells27] at hl
  match cs, hl with
  | [c0, c1, c2, c3, c4], _ =>
    match xs, hxl with
    | [y0, y1, y2, y3, y4], _ =>
      have h0 : DataW.trod enc Try.prog w base spare held m 9 (([c0, c1, c2, c3, c4].drop 0).take (Try.prog.cellsOf 9)) = some y0 := hx 0 _ rfl
      rw [Try.cells9] at h0
      have h1 : DataW.trod enc Try.prog w base spare held m 3 (([c0, c1, c2, c3, c4].drop 1).take (Try.prog.cellsOf 3)) = some y1 := hx 1 _ rfl
      rw [Try.cells3] at h1
      have h2 : DataW.trod enc Try.prog w base spare held m 3 (([c0, c1, c2, c3, c4].drop 2).take (Try.prog.cellsOf 3)) = some y2 := hx 2 _ rfl
      rw [Try.cells3] at h2
      have h3 : DataW.trod enc Try.prog w base spare held m 3 (([c0, c1, c2, c3, c4].drop 3).take (Try.prog.cellsOf 3)) = some y3 := hx 3 _ rfl
      rw [Try.cells3] at h3
      have h4 : DataW.trod enc Try.prog w base spare held m 9 (([c0, c1, c2, c3, c4].drop 4).take (Try.prog.cellsOf 9)) = some y4 := hx 4 _ rfl
      rw [Try.cells9] at h4
      have hW : ∀ (j : Nat) (t : TypeId) (d : DataW H) (n : Nat), [(9 : TypeId), 3, 3, 3, 9][j]? = some t → [y0.1, y1.1, y2.1, y3.1, y4.1][j]? = some d → n ∈ d.weights Try.prog t → n ∈ x.1.weights Try.prog 27 := by
        intro j t d n ht hd hn
        rw [hxx]
        simp only [DataW.weights, Try.underlying27]
        exact DataW.weights_mem_each (P := Try.prog) (ts := [9, 3, 3, 3, 9]) (ds := [y0.1, y1.1, y2.1, y3.1, y4.1]) ht hd n hn
      obtain ⟨s0, e0, d0, -⟩ := DataW.trod_string Try.underlying9 h0
      have z0 : s0.size ≤ 140737488351232 := hz _ (hW 0 9 y0.1 _ rfl rfl (by rw [d0]; simp [DataW.weights]))
      obtain ⟨a1, e1, -, w1⟩ := DataW.trod_int Try.underlying3 h1
      obtain ⟨a2, e2, -, w2⟩ := DataW.trod_int Try.underlying3 h2
      obtain ⟨a3, e3, -, w3⟩ := DataW.trod_int Try.underlying3 h3
      obtain ⟨s4, e4, d4, -⟩ := DataW.trod_string Try.underlying9 h4
      have z4 : s4.size ≤ 140737488351232 := hz _ (hW 4 9 y4.1 _ rfl rfl (by rw [d4]; simp [DataW.weights]))
      simp at e0 e1 e2 e3 e4
      subst e0 e1 e2 e3 e4
      exact ⟨⟨s0, a1, a2, a3, s4⟩, rfl, z0, z4⟩
theorem open_cut {fuel : Nat} {cs : List Value} {x : DataW H × List MemPlace} (h : DataW.trod enc Try.prog w base spare held fuel 53 cs = some x) (hz : ∀ n, n ∈ x.1.weights Try.prog 53 → n ≤ 140737488351232) :
    ∃ y : Ct, cs = ccs y ∧ Wz y := by
  obtain ⟨xs, m, -, hxx, hl, hxl, hx⟩ := DataW.trod_struct (P := Try.prog) Try.underlying53 h
  rw [Try.cells53] at hl
  match cs, hl with
  | [c0, c1, c2], _ =>
    match xs, hxl with
    | [y0, y1, y2], _ =>
      have h0 : DataW.trod enc Try.prog w base spare held m 3 (([c0, c1, c2].drop 0).take (Try.prog.cellsOf 3)) = some y0 := hx 0 _ rfl
      rw [Try.cells3] at h0
      have h1 : DataW.trod enc Try.prog w base spare held m 3 (([c0, c1, c2].drop 1).take (Try.prog.cellsOf 3)) = some y1 := hx 1 _ rfl
      rw [Try.cells3] at h1
      have h2 : DataW.trod enc Try.prog w base spare held m 3 (([c0, c1, c2].drop 2).take (Try.prog.cellsOf 3)) = some y2 := hx 2 _ rfl
      rw [Try.cells3] at h2
      have hW : ∀ (j : Nat) (t : TypeId) (d : DataW H) (n : Nat), [(3 : TypeId), 3, 3][j]? = some t → [y0.1, y1.1, y2.1][j]? = some d → n ∈ d.weights Try.prog t → n ∈ x.1.weights Try.prog 53 := by
        intro j t d n ht hd hn
        rw [hxx]
        simp only [DataW.weights, Try.underlying53]
        exact DataW.weights_mem_each (P := Try.prog) (ts := [3, 3, 3]) (ds := [y0.1, y1.1, y2.1]) ht hd n hn
      obtain ⟨a0, e0, -, w0⟩ := DataW.trod_int Try.underlying3 h0
      obtain ⟨a1, e1, -, w1⟩ := DataW.trod_int Try.underlying3 h1
      obtain ⟨a2, e2, -, w2⟩ := DataW.trod_int Try.underlying3 h2
      simp at e0 e1 e2
      subst e0 e1 e2
      exact ⟨⟨a0, a1, a2⟩, rfl, trivial⟩
theorem open_cuts {fuel : Nat} {cs : List Value} {x : DataW H × List MemPlace} (h : DataW.trod enc Try.prog w base spare held fuel 22 cs = some x) (hz : ∀ n, n ∈ x.1.weights Try.prog 22 → n ≤ 140737488351232) :
    ∃ (xs : List Ct) (a : Option Addr) (cap : Nat), cs = [.slice a xs.length cap] ∧ xs.length ≤ cap ∧ Rw 3 ccs w a xs ∧ (∀ y ∈ xs, Wz y) ∧ xs.length * 24 ≤ 140737488351232 := by
  rcases DataW.trod_slice Try.underlying22 h with ⟨rfl, -⟩ | ⟨ad, len, cap, elems, rest, n, -, rfl, hx, hb, hl, hm, hlen, hel, -, -⟩
  · exact ⟨[], none, 0, rfl, Nat.le_refl _, Rw.nil, fun y hy => (List.not_mem_nil hy).elim, by simp⟩
  · have each : ∀ i, i < len → ∃ y : Ct, (∀ j, j < 3 → w.cell? ((ad.add (i * 3)).add j) = (ccs y)[j]?) ∧ Wz y := by
      intro i hi
      have h3 := hel i hi
      rw [List.getElem?_eq_getElem (by omega), Try.cells53, Option.bind_eq_some_iff] at h3
      obtain ⟨cs, hcs, hy⟩ := h3
      obtain ⟨-, hl2, hcell⟩ := World.cells?_some hcs
      have hW : ∀ n, n ∈ (elems[i].1).weights Try.prog 53 → n ≤ 140737488351232 := by
        intro n hn
        refine hz n ?_
        rw [hx]
        simp only [DataW.weights, Try.underlying22, List.mem_cons, List.mem_append]
        exact .inr (.inl (weightsAll_mem (List.mem_map.2 ⟨elems[i], List.getElem_mem _, rfl⟩) hn))
      obtain ⟨y, rfl, k1⟩ := open_cut hy hW
      exact ⟨y, fun j hj => hcell j hj, k1⟩
    obtain ⟨xs, hxl, hq⟩ := collectG len each
    have hwt : xs.length * 24 ≤ 140737488351232 := by
      have := hz ((elems.length + rest.length) * 24) (by
        rw [hx]
        simp only [DataW.weights, Try.underlying22, Try.bytes53, List.length_map]
        exact List.mem_cons_self ..)
      rw [hxl]
      have e : len ≤ elems.length + rest.length := by omega
      have := Nat.mul_le_mul_right 24 e
      omega
    refine ⟨xs, some ad, cap, by rw [hxl], by omega, fun h0 => ?_, fun y hy => ?_, hwt⟩
    · obtain ⟨b, off, spot⟩ := ad
      have hs := (hq 0 (by omega)).1 0 (by omega)
      have hs' : w.cell? (((⟨b, off, spot⟩ : Addr).add (0 * 3)).add 0) = some (Value.int .i64 (xs[0]'h0).d) := hs
      have hspot : spot = none := by simpa [Addr.add] using World.cell?_spot hs'
      subst hspot
      have hblk := World.block_lt_of_cell? w _ hs'
      have hbl : b < w.heap.size := by simpa [Addr.add] using hblk
      refine ⟨b, off, rfl, hbl, fun i hi j hj => ?_⟩
      have := (hq i hi).1 j hj
      rw [add_flat ⟨b, off, none⟩ rfl, add_flat ⟨b, off + i * 3, none⟩ rfl] at this
      exact this
    · obtain ⟨i, hi, rfl⟩ := List.getElem_of_mem hy
      exact (hq i hi).2
theorem open_one {fuel : Nat} {cs : List Value} {x : DataW H × List MemPlace} (h : DataW.trod enc Try.prog w base spare held fuel 3 cs = some x) (hz : ∀ n, n ∈ x.1.weights Try.prog 3 → n ≤ 140737488351232) : ∃ y : Int, cs = ics y ∧ Wz y := by
  obtain ⟨a, e, -, -⟩ := DataW.trod_int Try.underlying3 h
  exact ⟨a, e, trivial⟩
theorem open_bars {fuel : Nat} {cs : List Value} {x : DataW H × List MemPlace} (h : DataW.trod enc Try.prog w base spare held fuel 23 cs = some x) (hz : ∀ n, n ∈ x.1.weights Try.prog 23 → n ≤ 140737488351232) :
    ∃ (xs : List Int) (a : Option Addr) (cap : Nat), cs = [.slice a xs.length cap] ∧ xs.length ≤ cap ∧ Rw 1 ics w a xs ∧ (∀ y ∈ xs, Wz y) ∧ xs.length * 8 ≤ 140737488351232 := by
  rcases DataW.trod_slice Try.underlying23 h with ⟨rfl, -⟩ | ⟨ad, len, cap, elems, rest, n, -, rfl, hx, hb, hl, hm, hlen, hel, -, -⟩
  · exact ⟨[], none, 0, rfl, Nat.le_refl _, Rw.nil, fun y hy => (List.not_mem_nil hy).elim, by simp⟩
  · have each : ∀ i, i < len → ∃ y : Int, (∀ j, j < 1 → w.cell? ((ad.add (i * 1)).add j) = (ics y)[j]?) ∧ Wz y := by
      intro i hi
      have h3 := hel i hi
      rw [List.getElem?_eq_getElem (by omega), Try.cells3, Option.bind_eq_some_iff] at h3
      obtain ⟨cs, hcs, hy⟩ := h3
      obtain ⟨-, hl2, hcell⟩ := World.cells?_some hcs
      have hW : ∀ n, n ∈ (elems[i].1).weights Try.prog 3 → n ≤ 140737488351232 := by
        intro n hn
        refine hz n ?_
        rw [hx]
        simp only [DataW.weights, Try.underlying23, List.mem_cons, List.mem_append]
        exact .inr (.inl (weightsAll_mem (List.mem_map.2 ⟨elems[i], List.getElem_mem _, rfl⟩) hn))
      obtain ⟨y, rfl, k1⟩ := open_one hy hW
      exact ⟨y, fun j hj => hcell j hj, k1⟩
    obtain ⟨xs, hxl, hq⟩ := collectG len each
    have hwt : xs.length * 8 ≤ 140737488351232 := by
      have := hz ((elems.length + rest.length) * 8) (by
        rw [hx]
        simp only [DataW.weights, Try.underlying23, Try.bytes3, List.length_map]
        exact List.mem_cons_self ..)
      rw [hxl]
      have e : len ≤ elems.length + rest.length := by omega
      have := Nat.mul_le_mul_right 8 e
      omega
    refine ⟨xs, some ad, cap, by rw [hxl], by omega, fun h0 => ?_, fun y hy => ?_, hwt⟩
    · obtain ⟨b, off, spot⟩ := ad
      have hs := (hq 0 (by omega)).1 0 (by omega)
      have hs' : w.cell? (((⟨b, off, spot⟩ : Addr).add (0 * 1)).add 0) = some (Value.int .i64 (xs[0]'h0)) := hs
      have hspot : spot = none := by simpa [Addr.add] using World.cell?_spot hs'
      subst hspot
      have hblk := World.block_lt_of_cell? w _ hs'
      have hbl : b < w.heap.size := by simpa [Addr.add] using hblk
      refine ⟨b, off, rfl, hbl, fun i hi j hj => ?_⟩
      have := (hq i hi).1 j hj
      rw [add_flat ⟨b, off, none⟩ rfl, add_flat ⟨b, off + i * 1, none⟩ rfl] at this
      exact this
    · obtain ⟨i, hi, rfl⟩ := List.getElem_of_mem hy
      exact (hq i hi).2
theorem open_basket {fuel : Nat} {cs : List Value} {x : DataW H × List MemPlace} (h : DataW.trod enc Try.prog w base spare held fuel 25 cs = some x) (hz : ∀ n, n ∈ x.1.weights Try.prog 25 → n ≤ 140737488351232) :
    ∃ y : Bm, cs = bcs y ∧ Wq w y := by
  obtain ⟨xs, m, -, hxx, hl, hxl, hx⟩ := DataW.trod_struct (P := Try.prog) Try.underlying25 h
  rw [Try.cells25] at hl
  match cs, hl with
  | [c0, c1, c2, c3, c4, c5, c6, c7, c8, c9], _ =>
    match xs, hxl with
    | [y0, y1, y2, y3, y4, y5, y6, y7, y8, y9], _ =>
      have h0 : DataW.trod enc Try.prog w base spare held m 3 (([c0, c1, c2, c3, c4, c5, c6, c7, c8, c9].drop 0).take (Try.prog.cellsOf 3)) = some y0 := hx 0 _ rfl
      rw [Try.cells3] at h0
      have h1 : DataW.trod enc Try.prog w base spare held m 3 (([c0, c1, c2, c3, c4, c5, c6, c7, c8, c9].drop 1).take (Try.prog.cellsOf 3)) = some y1 := hx 1 _ rfl
      rw [Try.cells3] at h1
      have h2 : DataW.trod enc Try.prog w base spare held m 9 (([c0, c1, c2, c3, c4, c5, c6, c7, c8, c9].drop 2).take (Try.prog.cellsOf 9)) = some y2 := hx 2 _ rfl
      rw [Try.cells9] at h2
      have h3 : DataW.trod enc Try.prog w base spare held m 3 (([c0, c1, c2, c3, c4, c5, c6, c7, c8, c9].drop 3).take (Try.prog.cellsOf 3)) = some y3 := hx 3 _ rfl
      rw [Try.cells3] at h3
      have h4 : DataW.trod enc Try.prog w base spare held m 3 (([c0, c1, c2, c3, c4, c5, c6, c7, c8, c9].drop 4).take (Try.prog.cellsOf 3)) = some y4 := hx 4 _ rfl
      rw [Try.cells3] at h4
      have h5 : DataW.trod enc Try.prog w base spare held m 3 (([c0, c1, c2, c3, c4, c5, c6, c7, c8, c9].drop 5).take (Try.prog.cellsOf 3)) = some y5 := hx 5 _ rfl
      rw [Try.cells3] at h5
      have h6 : DataW.trod enc Try.prog w base spare held m 22 (([c0, c1, c2, c3, c4, c5, c6, c7, c8, c9].drop 6).take (Try.prog.cellsOf 22)) = some y6 := hx 6 _ rfl
      rw [Try.cells22] at h6
      have h7 : DataW.trod enc Try.prog w base spare held m 3 (([c0, c1, c2, c3, c4, c5, c6, c7, c8, c9].drop 7).take (Try.prog.cellsOf 3)) = some y7 := hx 7 _ rfl
      rw [Try.cells3] at h7
      have h8 : DataW.trod enc Try.prog w base spare held m 3 (([c0, c1, c2, c3, c4, c5, c6, c7, c8, c9].drop 8).take (Try.prog.cellsOf 3)) = some y8 := hx 8 _ rfl
      rw [Try.cells3] at h8
      have h9 : DataW.trod enc Try.prog w base spare held m 23 (([c0, c1, c2, c3, c4, c5, c6, c7, c8, c9].drop 9).take (Try.prog.cellsOf 23)) = some y9 := hx 9 _ rfl
      rw [Try.cells23] at h9
      have hW : ∀ (j : Nat) (t : TypeId) (d : DataW H) (n : Nat), [(3 : TypeId), 3, 9, 3, 3, 3, 22, 3, 3, 23][j]? = some t → [y0.1, y1.1, y2.1, y3.1, y4.1, y5.1, y6.1, y7.1, y8.1, y9.1][j]? = some d → n ∈ d.weights Try.prog t → n ∈ x.1.weights Try.prog 25 := by
        intro j t d n ht hd hn
        rw [hxx]
        simp only [DataW.weights, Try.underlying25]
        exact DataW.weights_mem_each (P := Try.prog) (ts := [3, 3, 9, 3, 3, 3, 22, 3, 3, 23]) (ds := [y0.1, y1.1, y2.1, y3.1, y4.1, y5.1, y6.1, y7.1, y8.1, y9.1]) ht hd n hn
      obtain ⟨a0, e0, -, w0⟩ := DataW.trod_int Try.underlying3 h0
      obtain ⟨a1, e1, -, w1⟩ := DataW.trod_int Try.underlying3 h1
      obtain ⟨s2, e2, d2, -⟩ := DataW.trod_string Try.underlying9 h2
      have z2 : s2.size ≤ 140737488351232 := hz _ (hW 2 9 y2.1 _ rfl rfl (by rw [d2]; simp [DataW.weights]))
      obtain ⟨a3, e3, -, w3⟩ := DataW.trod_int Try.underlying3 h3
      obtain ⟨a4, e4, -, w4⟩ := DataW.trod_int Try.underlying3 h4
      obtain ⟨a5, e5, -, w5⟩ := DataW.trod_int Try.underlying3 h5
      obtain ⟨xs6, ad6, cap6, e6, le6, t6, q6, n6⟩ := open_cuts (show DataW.trod enc Try.prog w base spare held m 22 [c6] = some y6 from h6) (fun n hn => hz n (hW 6 22 y6.1 n rfl rfl hn))
      simp only [List.cons.injEq, and_true] at e6
      obtain rfl := e6
      obtain ⟨a7, e7, -, w7⟩ := DataW.trod_int Try.underlying3 h7
      obtain ⟨a8, e8, -, w8⟩ := DataW.trod_int Try.underlying3 h8
      obtain ⟨xs9, ad9, cap9, e9, le9, t9, q9, n9⟩ := open_bars (show DataW.trod enc Try.prog w base spare held m 23 [c9] = some y9 from h9) (fun n hn => hz n (hW 9 23 y9.1 n rfl rfl hn))
      simp only [List.cons.injEq, and_true] at e9
      obtain rfl := e9
      simp at e0 e1 e2 e3 e4 e5 e7 e8
      subst e0 e1 e2 e3 e4 e5 e7 e8
      exact ⟨⟨⟨a0, a1, s2.data.toList, a3, a4, a5, xs6, a7, a8, xs9⟩, ad6, cap6, ad9, cap9⟩, rfl, ⟨t6.cts, t9.ins⟩, n6, n9, by show s2.data.toList.length ≤ 140737488351232; rw [Array.length_toList]; exact z2⟩
theorem open_bks {fuel : Nat} {cs : List Value} {x : DataW H × List MemPlace} (h : DataW.trod enc Try.prog w base spare held fuel 34 cs = some x) (hz : ∀ n, n ∈ x.1.weights Try.prog 34 → n ≤ 140737488351232) :
    ∃ (xs : List Bm) (a : Option Addr) (cap : Nat), cs = [.slice a xs.length cap] ∧ xs.length ≤ cap ∧ Rw 10 bcs w a xs ∧ (∀ y ∈ xs, Wq w y) ∧ xs.length * 120 ≤ 140737488351232 := by
  rcases DataW.trod_slice Try.underlying34 h with ⟨rfl, -⟩ | ⟨ad, len, cap, elems, rest, n, -, rfl, hx, hb, hl, hm, hlen, hel, -, -⟩
  · exact ⟨[], none, 0, rfl, Nat.le_refl _, Rw.nil, fun y hy => (List.not_mem_nil hy).elim, by simp⟩
  · have each : ∀ i, i < len → ∃ y : Bm, (∀ j, j < 10 → w.cell? ((ad.add (i * 10)).add j) = (bcs y)[j]?) ∧ Wq w y := by
      intro i hi
      have h3 := hel i hi
      rw [List.getElem?_eq_getElem (by omega), Try.cells25, Option.bind_eq_some_iff] at h3
      obtain ⟨cs, hcs, hy⟩ := h3
      obtain ⟨-, hl2, hcell⟩ := World.cells?_some hcs
      have hW : ∀ n, n ∈ (elems[i].1).weights Try.prog 25 → n ≤ 140737488351232 := by
        intro n hn
        refine hz n ?_
        rw [hx]
        simp only [DataW.weights, Try.underlying34, List.mem_cons, List.mem_append]
        exact .inr (.inl (weightsAll_mem (List.mem_map.2 ⟨elems[i], List.getElem_mem _, rfl⟩) hn))
      obtain ⟨y, rfl, k1⟩ := open_basket hy hW
      exact ⟨y, fun j hj => hcell j hj, k1⟩
    obtain ⟨xs, hxl, hq⟩ := collectG len each
    have hwt : xs.length * 120 ≤ 140737488351232 := by
      have := hz ((elems.length + rest.length) * 120) (by
        rw [hx]
        simp only [DataW.weights, Try.underlying34, Try.bytes25, List.length_map]
        exact List.mem_cons_self ..)
      rw [hxl]
      have e : len ≤ elems.length + rest.length := by omega
      have := Nat.mul_le_mul_right 120 e
      omega
    refine ⟨xs, some ad, cap, by rw [hxl], by omega, fun h0 => ?_, fun y hy => ?_, hwt⟩
    · obtain ⟨b, off, spot⟩ := ad
      have hs := (hq 0 (by omega)).1 0 (by omega)
      have hs' : w.cell? (((⟨b, off, spot⟩ : Addr).add (0 * 10)).add 0) = some (Value.int .i64 (xs[0]'h0).b.id) := hs
      have hspot : spot = none := by simpa [Addr.add] using World.cell?_spot hs'
      subst hspot
      have hblk := World.block_lt_of_cell? w _ hs'
      have hbl : b < w.heap.size := by simpa [Addr.add] using hblk
      refine ⟨b, off, rfl, hbl, fun i hi j hj => ?_⟩
      have := (hq i hi).1 j hj
      rw [add_flat ⟨b, off, none⟩ rfl, add_flat ⟨b, off + i * 10, none⟩ rfl] at this
      exact this
    · obtain ⟨i, hi, rfl⟩ := List.getElem_of_mem hy
      exact (hq i hi).2
end
end Go.Proofs.Ytmjaijpikbdfkaa
