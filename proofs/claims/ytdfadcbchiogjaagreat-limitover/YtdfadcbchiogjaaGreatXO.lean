/- layer 16: a basket, a security, calls, as they are handed in -/
import Derived.Test.YtdfadcbchiogjaaGreatPG
import Derived.WalkKit
import Derived.ProofKit
import Derived.OpenShut
import Derived.ChangeOld
import Derived.Below
import Derived.SizedLaws
import Derived.ChangeMaps5
import Derived.Lib.SmallJoins
namespace Go.Proofs.YtdfadcbchiogjaaGreat
open Go.RowKit
set_option linter.unusedVariables false
set_option linter.unusedSimpArgs false
open Go.ChangeShapes Go.WideShapes
set_option maxRecDepth 100000
theorem Tryz.cells3 : Tryz.prog.cellsOf 3 = 1 := by kernel_rfl
theorem Tryz.cells9 : Tryz.prog.cellsOf 9 = 1 := by kernel_rfl
theorem Tryz.cells22 : Tryz.prog.cellsOf 22 = 1 := by kernel_rfl
theorem Tryz.cells23 : Tryz.prog.cellsOf 23 = 1 := by kernel_rfl
theorem Tryz.cells25 : Tryz.prog.cellsOf 25 = 10 := by kernel_rfl
theorem Tryz.cells48 : Tryz.prog.cellsOf 48 = 5 := by kernel_rfl

theorem rng_of {n : Int} (h : (Lit.int .i64 n).wf = true) : Rng n := by
  simpa [Lit.wf, IntKind.min, IntKind.max, IntKind.signed, IntKind.bits, Rng] using h
theorem weightsAll_mem {H : Type} {P : Program} {e : TypeId} {d : DataW H} {n : Nat} : ∀ {es : List (DataW H)}, d ∈ es → n ∈ d.weights P e → n ∈ DataW.weightsAll P e es
  | [], h, _ => by cases h
  | y :: es, h, hn => by
    simp only [DataW.weightsAll, List.mem_append]
    rcases List.mem_cons.1 h with rfl | h
    · exact .inl hn
    · exact .inr (weightsAll_mem h hn)
theorem add_flat (a : Addr) (h : a.spot = none) (i : Nat) : a.add i = ⟨a.block, a.off + i, none⟩ := by
  obtain ⟨b, off, spot⟩ := a
  subst h
  cases i <;> simp [Addr.add]
/-- one for each, in a row -/
theorem collectG {α : Type} {Q : Nat → α → Prop} (n : Nat) : (∀ i, i < n → ∃ p, Q i p) → ∃ l : List α, l.length = n ∧ ∀ i (h : i < l.length), Q i l[i] := by
  induction n with
  | zero => intro _; exact ⟨[], rfl, fun i hi => absurd hi (Nat.not_lt_zero i)⟩
  | succ n ih =>
    intro h
    obtain ⟨l, hl, hq⟩ := ih (fun i hi => h i (by omega))
    obtain ⟨p, hp⟩ := h n (by omega)
    refine ⟨l ++ [p], by simp [hl], fun i hi => ?_⟩
    by_cases e : i < l.length
    · rw [List.getElem_append_left e]
      exact hq i e
    · have : i = n := by rw [List.length_append, List.length_singleton] at hi; omega
      subst this
      have e2 : (l ++ [p])[i] = p := by
        rw [List.getElem_append_right (by omega)]
        simp
      rw [e2]
      exact hp
theorem Tryz.cells53 : Tryz.prog.cellsOf 53 = 2 := by kernel_rfl
theorem Tryz.cells62 : Tryz.prog.cellsOf 62 = 9 := by kernel_rfl
theorem Tryz.bytes62 : Tryz.prog.bytesOf 62 = 96 := by kernel_rfl
def lcz (x : ByteArray × Int) : List Value := [.string x.1, .int .i64 x.2]
structure Wq (x : Bq) : Prop where
  i : Rng x.iss
  a : Rng x.ast
section
variable {H : Type} {enc : TypeId × Value → H} {w : World} {base : Nat} {spare : Nat → Bool} {held : Bool}
theorem any_slice {T E : TypeId} (hu : Tryz.prog.underlying T = some (.slice E)) {fuel : Nat} {c : Value} {x : DataW H × List MemPlace} (h : DataW.trod enc Tryz.prog w base spare held fuel T [c] = some x) : ∃ a n cap, c = .slice a n cap := by
  rcases DataW.trod_slice hu h with ⟨h1, -⟩ | ⟨ad, len, cap, elems, rest, n, -, h1, hx, hb, hl, hm, hlen, hel, -, -⟩
  · simp at h1
    exact ⟨_, _, _, h1⟩
  · simp at h1
    exact ⟨_, _, _, h1⟩
theorem open_basket {fuel : Nat} {cs : List Value} {x : DataW H × List MemPlace} (h : DataW.trod enc Tryz.prog w base spare held fuel 25 cs = some x) (hz : ∀ n, n ∈ x.1.weights Tryz.prog 25 → n ≤ 140737488351232) :
    ∃ y : Bq, cs = bqs y ∧ Wq y := by
  obtain ⟨xs, m, -, hxx, hl, hxl, hx⟩ := DataW.trod_struct (P := Tryz.prog) Tryz.underlying25 h
  rw [Tryz.cells25] at hl
  match cs, hl with
  | [c0, c1, c2, c3, c4, c5, c6, c7, c8, c9], _ =>
    match xs, hxl with
    | [y0, y1, y2, y3, y4, y5, y6, y7, y8, y9], _ =>
      have h0 : DataW.trod enc Tryz.prog w base spare held m 3 (([c0, c1, c2, c3, c4, c5, c6, c7, c8, c9].drop 0).take (Tryz.prog.cellsOf 3)) = some y0 := hx 0 _ rfl
      rw [Tryz.cells3] at h0
      have h1 : DataW.trod enc Tryz.prog w base spare held m 3 (([c0, c1, c2, c3, c4, c5, c6, c7, c8, c9].drop 1).take (Tryz.prog.cellsOf 3)) = some y1 := hx 1 _ rfl
      rw [Tryz.cells3] at h1
      have h2 : DataW.trod enc Tryz.prog w base spare held m 9 (([c0, c1, c2, c3, c4, c5, c6, c7, c8, c9].drop 2).take (Tryz.prog.cellsOf 9)) = some y2 := hx 2 _ rfl
      rw [Tryz.cells9] at h2
      have h3 : DataW.trod enc Tryz.prog w base spare held m 3 (([c0, c1, c2, c3, c4, c5, c6, c7, c8, c9].drop 3).take (Tryz.prog.cellsOf 3)) = some y3 := hx 3 _ rfl
      rw [Tryz.cells3] at h3
      have h4 : DataW.trod enc Tryz.prog w base spare held m 3 (([c0, c1, c2, c3, c4, c5, c6, c7, c8, c9].drop 4).take (Tryz.prog.cellsOf 3)) = some y4 := hx 4 _ rfl
      rw [Tryz.cells3] at h4
      have h5 : DataW.trod enc Tryz.prog w base spare held m 3 (([c0, c1, c2, c3, c4, c5, c6, c7, c8, c9].drop 5).take (Tryz.prog.cellsOf 3)) = some y5 := hx 5 _ rfl
      rw [Tryz.cells3] at h5
      have h6 : DataW.trod enc Tryz.prog w base spare held m 22 (([c0, c1, c2, c3, c4, c5, c6, c7, c8, c9].drop 6).take (Tryz.prog.cellsOf 22)) = some y6 := hx 6 _ rfl
      rw [Tryz.cells22] at h6
      have h7 : DataW.trod enc Tryz.prog w base spare held m 3 (([c0, c1, c2, c3, c4, c5, c6, c7, c8, c9].drop 7).take (Tryz.prog.cellsOf 3)) = some y7 := hx 7 _ rfl
      rw [Tryz.cells3] at h7
      have h8 : DataW.trod enc Tryz.prog w base spare held m 3 (([c0, c1, c2, c3, c4, c5, c6, c7, c8, c9].drop 8).take (Tryz.prog.cellsOf 3)) = some y8 := hx 8 _ rfl
      rw [Tryz.cells3] at h8
      have h9 : DataW.trod enc Tryz.prog w base spare held m 23 (([c0, c1, c2, c3, c4, c5, c6, c7, c8, c9].drop 9).take (Tryz.prog.cellsOf 23)) = some y9 := hx 9 _ rfl
      rw [Tryz.cells23] at h9
      have hW : ∀ (j : Nat) (t : TypeId) (d : DataW H) (n : Nat), [(3 : TypeId), 3, 9, 3, 3, 3, 22, 3, 3, 23][j]? = some t → [y0.1, y1.1, y2.1, y3.1, y4.1, y5.1, y6.1, y7.1, y8.1, y9.1][j]? = some d → n ∈ d.weights Tryz.prog t → n ∈ x.1.weights Tryz.prog 25 := by
        intro j t d n ht hd hn
        rw [hxx]
        simp only [DataW.weights, Tryz.underlying25]
        exact DataW.weights_mem_each (P := Tryz.prog) (ts := [3, 3, 9, 3, 3, 3, 22, 3, 3, 23]) (ds := [y0.1, y1.1, y2.1, y3.1, y4.1, y5.1, y6.1, y7.1, y8.1, y9.1]) ht hd n hn
      obtain ⟨a0, e0, -, w0⟩ := DataW.trod_int Tryz.underlying3 h0
      obtain ⟨a1, e1, -, w1⟩ := DataW.trod_int Tryz.underlying3 h1
      obtain ⟨s2, e2, d2, -⟩ := DataW.trod_string Tryz.underlying9 h2
      have z2 : s2.size ≤ 140737488351232 := hz _ (hW 2 9 y2.1 _ rfl rfl (by rw [d2]; simp [DataW.weights]))
      obtain ⟨a3, e3, -, w3⟩ := DataW.trod_int Tryz.underlying3 h3
      obtain ⟨a4, e4, -, w4⟩ := DataW.trod_int Tryz.underlying3 h4
      obtain ⟨a5, e5, -, w5⟩ := DataW.trod_int Tryz.underlying3 h5
      obtain ⟨ad6, n6, cap6, e6⟩ := any_slice Tryz.underlying22 h6
      obtain ⟨a7, e7, -, w7⟩ := DataW.trod_int Tryz.underlying3 h7
      obtain ⟨a8, e8, -, w8⟩ := DataW.trod_int Tryz.underlying3 h8
      obtain ⟨ad9, n9, cap9, e9⟩ := any_slice Tryz.underlying23 h9
      simp at e0 e1 e2 e3 e4 e5 e6 e7 e8 e9
      subst e0 e1 e2 e3 e4 e5 e6 e7 e8 e9
      exact ⟨⟨a0, a1, s2, a3, a4, a5, ad6, n6, cap6, a7, a8, ad9, n9, cap9⟩, rfl, rng_of w7, rng_of w8⟩
theorem open_asset {fuel : Nat} {cs : List Value} {x : DataW H × List MemPlace} (h : DataW.trod enc Tryz.prog w base spare held fuel 48 cs = some x) (hz : ∀ n, n ∈ x.1.weights Tryz.prog 48 → n ≤ 140737488351232) :
    ∃ y : As, cs = acs y ∧ Wa y := by
  obtain ⟨xs, m, -, hxx, hl, hxl, hx⟩ := DataW.trod_struct (P := Tryz.prog) Tryz.underlying48 h
  rw [Tryz.cells48] at hl
  match cs, hl with
  | [c0, c1, c2, c3, c4], _ =>
    match xs, hxl with
    | [y0, y1, y2, y3, y4], _ =>
      have h0 : DataW.trod enc Tryz.prog w base spare held m 9 (([c0, c1, c2, c3, c4].drop 0).take (Tryz.prog.cellsOf 9)) = some y0 := hx 0 _ rfl
      rw [Tryz.cells9] at h0
      have h1 : DataW.trod enc Tryz.prog w base spare held m 3 (([c0, c1, c2, c3, c4].drop 1).take (Tryz.prog.cellsOf 3)) = some y1 := hx 1 _ rfl
      rw [Tryz.cells3] at h1
      have h2 : DataW.trod enc Tryz.prog w base spare held m 3 (([c0, c1, c2, c3, c4].drop 2).take (Tryz.prog.cellsOf 3)) = some y2 := hx 2 _ rfl
      rw [Tryz.cells3] at h2
      have h3 : DataW.trod enc Tryz.prog w base spare held m 3 (([c0, c1, c2, c3, c4].drop 3).take (Tryz.prog.cellsOf 3)) = some y3 := hx 3 _ rfl
      rw [Tryz.cells3] at h3
      have h4 : DataW.trod enc Tryz.prog w base spare held m 9 (([c0, c1, c2, c3, c4].drop 4).take (Tryz.prog.cellsOf 9)) = some y4 := hx 4 _ rfl
      rw [Tryz.cells9] at h4
      have hW : ∀ (j : Nat) (t : TypeId) (d : DataW H) (n : Nat), [(9 : TypeId), 3, 3, 3, 9][j]? = some t → [y0.1, y1.1, y2.1, y3.1, y4.1][j]? = some d → n ∈ d.weights Tryz.prog t → n ∈ x.1.weights Tryz.prog 48 := by
        intro j t d n ht hd hn
        rw [hxx]
        simp only [DataW.weights, Tryz.underlying48]
        exact DataW.weights_mem_each (P := Tryz.prog) (ts := [9, 3, 3, 3, 9]) (ds := [y0.1, y1.1, y2.1, y3.1, y4.1]) ht hd n hn
      obtain ⟨s0, e0, d0, -⟩ := DataW.trod_string Tryz.underlying9 h0
      have z0 : s0.size ≤ 140737488351232 := hz _ (hW 0 9 y0.1 _ rfl rfl (by rw [d0]; simp [DataW.weights]))
      obtain ⟨a1, e1, -, w1⟩ := DataW.trod_int Tryz.underlying3 h1
      obtain ⟨a2, e2, -, w2⟩ := DataW.trod_int Tryz.underlying3 h2
      obtain ⟨a3, e3, -, w3⟩ := DataW.trod_int Tryz.underlying3 h3
      obtain ⟨s4, e4, d4, -⟩ := DataW.trod_string Tryz.underlying9 h4
      have z4 : s4.size ≤ 140737488351232 := hz _ (hW 4 9 y4.1 _ rfl rfl (by rw [d4]; simp [DataW.weights]))
      simp at e0 e1 e2 e3 e4
      subst e0 e1 e2 e3 e4
      exact ⟨⟨s0, a1, a2, a3, s4⟩, rfl, z0, rng_of w1⟩
theorem open_lot {fuel : Nat} {cs : List Value} {x : DataW H × List MemPlace} (h : DataW.trod enc Tryz.prog w base spare held fuel 53 cs = some x) :
    ∃ y : ByteArray × Int, cs = lcz y ∧ Rng y.2 ∧ y.1.size ∈ x.1.weights Tryz.prog 53 := by
  obtain ⟨xs, m, -, hxx, hl, hxl, hx⟩ := DataW.trod_struct (P := Tryz.prog) Tryz.underlying53 h
  rw [Tryz.cells53] at hl
  match cs, hl with
  | [c0, c1], _ =>
    match xs, hxl with
    | [y0, y1], _ =>
      have h0 : DataW.trod enc Tryz.prog w base spare held m 9 (([c0, c1].drop 0).take (Tryz.prog.cellsOf 9)) = some y0 := hx 0 _ rfl
      rw [Tryz.cells9] at h0
      have h1 : DataW.trod enc Tryz.prog w base spare held m 3 (([c0, c1].drop 1).take (Tryz.prog.cellsOf 3)) = some y1 := hx 1 _ rfl
      rw [Tryz.cells3] at h1
      have hW : ∀ (j : Nat) (t : TypeId) (d : DataW H) (n : Nat), [(9 : TypeId), 3][j]? = some t → [y0.1, y1.1][j]? = some d → n ∈ d.weights Tryz.prog t → n ∈ x.1.weights Tryz.prog 53 := by
        intro j t d n ht hd hn
        rw [hxx]
        simp only [DataW.weights, Tryz.underlying53]
        exact DataW.weights_mem_each (P := Tryz.prog) (ts := [9, 3]) (ds := [y0.1, y1.1]) ht hd n hn
      obtain ⟨s0, e0, d0, -⟩ := DataW.trod_string Tryz.underlying9 h0
      obtain ⟨a1, e1, -, w1⟩ := DataW.trod_int Tryz.underlying3 h1
      simp at e0 e1
      subst e0 e1
      exact ⟨(s0, a1), rfl, wf_rng w1, hW 0 9 y0.1 _ rfl rfl (by rw [d0]; simp [DataW.weights])⟩
theorem open_item {fuel : Nat} {cs : List Value} {x : DataW H × List MemPlace} (h : DataW.trod enc Tryz.prog w base spare held fuel 62 cs = some x) (hz : ∀ n, n ∈ x.1.weights Tryz.prog 62 → n ≤ 140737488351232) :
    ∃ y : H5.It, cs = H5.its y ∧ WI y := by
  obtain ⟨xs, m, -, hxx, hl, hxl, hx⟩ := DataW.trod_struct (P := Tryz.prog) Tryz.underlying62 h
  rw [Tryz.cells62] at hl
  match cs, hl with
  | [c0, c1, c2, c3, c4, c5, c6, c7, c8], _ =>
    match xs, hxl with
    | [y0, y1, y2, y3], _ =>
      have h0 : DataW.trod enc Tryz.prog w base spare held m 53 (([c0, c1, c2, c3, c4, c5, c6, c7, c8].drop 0).take (Tryz.prog.cellsOf 53)) = some y0 := hx 0 _ rfl
      rw [Tryz.cells53] at h0
      have h1 : DataW.trod enc Tryz.prog w base spare held m 48 (([c0, c1, c2, c3, c4, c5, c6, c7, c8].drop 2).take (Tryz.prog.cellsOf 48)) = some y1 := hx 1 _ rfl
      rw [Tryz.cells48] at h1
      have h2 : DataW.trod enc Tryz.prog w base spare held m 3 (([c0, c1, c2, c3, c4, c5, c6, c7, c8].drop 7).take (Tryz.prog.cellsOf 3)) = some y2 := hx 2 _ rfl
      rw [Tryz.cells3] at h2
      have h3 : DataW.trod enc Tryz.prog w base spare held m 3 (([c0, c1, c2, c3, c4, c5, c6, c7, c8].drop 8).take (Tryz.prog.cellsOf 3)) = some y3 := hx 3 _ rfl
      rw [Tryz.cells3] at h3
      have hW : ∀ (j : Nat) (t : TypeId) (d : DataW H) (n : Nat), [(53 : TypeId), 48, 3, 3][j]? = some t → [y0.1, y1.1, y2.1, y3.1][j]? = some d → n ∈ d.weights Tryz.prog t → n ∈ x.1.weights Tryz.prog 62 := by
        intro j t d n ht hd hn
        rw [hxx]
        simp only [DataW.weights, Tryz.underlying62]
        exact DataW.weights_mem_each (P := Tryz.prog) (ts := [53, 48, 3, 3]) (ds := [y0.1, y1.1, y2.1, y3.1]) ht hd n hn
      obtain ⟨r0, e0, q0, s0⟩ := open_lot (show DataW.trod enc Tryz.prog w base spare held m 53 [c0, c1] = some y0 from h0)
      simp only [lcz, List.cons.injEq, and_true] at e0
      obtain ⟨rfl, rfl⟩ := e0
      obtain ⟨r1, e1, q1⟩ := open_asset (show DataW.trod enc Tryz.prog w base spare held m 48 [c2, c3, c4, c5, c6] = some y1 from h1) (fun n hn => hz n (hW 1 48 y1.1 n rfl rfl hn))
      simp only [acs, List.cons.injEq, and_true] at e1
      obtain ⟨rfl, rfl, rfl, rfl, rfl⟩ := e1
      obtain ⟨a2, e2, -, w2⟩ := DataW.trod_int Tryz.underlying3 h2
      obtain ⟨a3, e3, -, w3⟩ := DataW.trod_int Tryz.underlying3 h3
      simp at e2 e3
      subst e2 e3
      exact ⟨⟨r0.1, r0.2, ⟨r1.i, r1.iss, r1.rat, r1.mat, r1.c⟩, a2, a3⟩, rfl, ⟨q1.i, q1.n, wf_rng w3⟩⟩
theorem open_items {fuel : Nat} {cs : List Value} {x : DataW H × List MemPlace} (h : DataW.trod enc Tryz.prog w base spare held fuel 26 cs = some x) (hz : ∀ n, n ∈ x.1.weights Tryz.prog 26 → n ≤ 140737488351232) :
    ∃ (xs : List H5.It) (a : Option Addr) (cap : Nat), cs = [.slice a xs.length cap] ∧ xs.length ≤ cap ∧ Rw 9 H5.its w a xs ∧ (∀ y ∈ xs, WI y) ∧ xs.length * 96 ≤ 140737488351232 := by
  rcases DataW.trod_slice Tryz.underlying26 h with ⟨rfl, -⟩ | ⟨ad, len, cap, elems, rest, n, -, rfl, hx, hb, hl, hm, hlen, hel, -, -⟩
  · exact ⟨[], none, 0, rfl, Nat.le_refl _, Rw.nil, fun y hy => (List.not_mem_nil hy).elim, by simp⟩
  · have each : ∀ i, i < len → ∃ y : H5.It, (∀ j, j < 9 → w.cell? ((ad.add (i * 9)).add j) = (H5.its y)[j]?) ∧ WI y := by
      intro i hi
      have h3 := hel i hi
      rw [List.getElem?_eq_getElem (by omega), Tryz.cells62, Option.bind_eq_some_iff] at h3
      obtain ⟨cs, hcs, hy⟩ := h3
      obtain ⟨-, hl2, hcell⟩ := World.cells?_some hcs
      have hW : ∀ n, n ∈ (elems[i].1).weights Tryz.prog 62 → n ≤ 140737488351232 := by
        intro n hn
        refine hz n ?_
        rw [hx]
        simp only [DataW.weights, Tryz.underlying26, List.mem_cons, List.mem_append]
        exact .inr (.inl (weightsAll_mem (List.mem_map.2 ⟨elems[i], List.getElem_mem _, rfl⟩) hn))
      obtain ⟨y, rfl, k1⟩ := open_item hy hW
      exact ⟨y, fun j hj => hcell j hj, k1⟩
    obtain ⟨xs, hxl, hq⟩ := collectG len each
    have hwt : xs.length * 96 ≤ 140737488351232 := by
      have := hz ((elems.length + rest.length) * 96) (by
        rw [hx]
        simp only [DataW.weights, Tryz.underlying26, Tryz.bytes62, List.length_map]
        exact List.mem_cons_self ..)
      rw [hxl]
      have e : len ≤ elems.length + rest.length := by omega
      have := Nat.mul_le_mul_right 96 e
      omega
    refine ⟨xs, some ad, cap, by rw [hxl], by omega, fun h0 => ?_, fun y hy => ?_, hwt⟩
    · obtain ⟨b, off, spot⟩ := ad
      have hs := (hq 0 (by omega)).1 0 (by omega)
      have hs' : w.cell? (((⟨b, off, spot⟩ : Addr).add (0 * 9)).add 0) = some (Value.string (xs[0]'h0).l) := hs
      have hspot : spot = none := by simpa [Addr.add] using World.cell?_spot hs'
      subst hspot
      have hblk := World.block_lt_of_cell? w _ hs'
      have hbl : b < w.heap.size := by simpa [Addr.add] using hblk
      refine ⟨b, off, rfl, hbl, fun i hi j hj => ?_⟩
      have := (hq i hi).1 j hj
      rw [add_flat ⟨b, off, none⟩ rfl, add_flat ⟨b, off + i * 9, none⟩ rfl] at this
      exact this
    · obtain ⟨i, hi, rfl⟩ := List.getElem_of_mem hy
      exact (hq i hi).2
end
end Go.Proofs.YtdfadcbchiogjaaGreat
