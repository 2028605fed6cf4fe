/- layer 17: slices.Insert of one row, ahead of others -/
import Derived.Test.YtheikjjehidagaaNF
import Derived.WalkKit
import Derived.ProofKit
import Derived.Handy
import Derived.WalkLawsBesides
import Derived.WalkSpells
import Derived.BigQuiet
import Derived.BigCall
import Derived.Deep.QuietTactic
import Derived.Deep.Light
import Derived.Deep.OwnRows
import Derived.Laws.AppendOwnNone
import Derived.Laws.Strings3
import Derived.Laws.RangeAny
import Derived.Deep.RegionWith
import Derived.Lib.BitFns
import Derived.Lib.Walk
import Derived.Lib.Strings
import Derived.Lib.OthersKept
import Derived.Deep.CutBlock
import Derived.Deep.DeepCutAuto
import Derived.Deep.LoopGhost
import Derived.Deep.RegionHeld3
import Derived.Lib.SmallJoins
import Derived.Maps.AppendAt
import Derived.Laws.IdiomStrings
import Derived.Lib.AppendZeros
import Derived.Deep.WholeRow
import Derived.Laws.BitsAllLaws
import Derived.Lib.ConvBytes
import Derived.Deep.RegionLaw
import Derived.Maps.OwnSet
import Derived.Maps.OwnOps
import Derived.Maps.RangeWalk
import Derived.Maps.Ext
import Derived.DeepKeys4
import Derived.Laws.StructEq
import Derived.Deep.MidRow
import Derived.Lib.Bytealg
import Derived.Lib.Overlaps
import Derived.Lib.AppendZerosOnto
import Derived.Laws.MakeOwn
import Derived.Shelf.Spec.SlicesInsert
namespace Go.Proofs.Ytheikjjehidagaa
open Go.RowKit
set_option linter.unusedVariables false
set_option linter.unusedSimpArgs false
set_option maxRecDepth 20000
theorem row_room {cur cs f : List Value} {N I : Nat} (hi : I + 2 ≤ N) (hl : N + 2 ≤ cur.length) (ht : cur.take N = cs) (hf : f.length = 2) {r1 : List Value} (h1 : r1 = cur.take (I + 2) ++ cs.drop I ++ cur.drop (I + 2 + (cs.drop I).length)) :
    (r1.take I ++ f ++ r1.drop (I + f.length)).length = cur.length ∧ (r1.take I ++ f ++ r1.drop (I + f.length)).take (N + 2) = cs.take I ++ f ++ cs.drop I := by
  have hcs : cs.length = N := by rw [← ht, List.length_take]; omega
  have e1 : r1.take I = cs.take I := by
    rw [h1, ← ht, List.append_assoc, List.take_append_of_le_length (by rw [List.length_take]; omega), List.take_take, List.take_take]
    congr 1
    omega
  have e2 : r1.drop (I + f.length) = cs.drop I ++ cur.drop (N + 2) := by
    rw [h1, hf, List.append_assoc]
    have h3 : (cur.take (I + 2)).length = I + 2 := by rw [List.length_take]; omega
    rw [List.drop_append_of_le_length (by omega), List.drop_eq_nil_of_le (by omega), List.nil_append, List.length_drop, hcs, show I + 2 + (N - I) = N + 2 by omega]
  rw [e1, e2]
  constructor
  · simp only [List.length_append, List.length_take, List.length_drop, hcs, hf]
    omega
  · rw [← List.append_assoc]
    refine List.take_left' ?_
    simp only [List.length_append, List.length_take, List.length_drop, hcs, hf]
    omega
theorem row_grow {cs f Z : List Value} {N I : Nat} (hcs : cs.length = N) (hi : I + 2 ≤ N) (hl : N + 2 ≤ I + Z.length) (hf : f.length = 2) {r0 r1 : List Value} (h0 : r0 = cs.take I ++ Z) (h1 : r1 = r0.take I ++ f ++ r0.drop (I + f.length)) :
    r1.length = r0.length ∧ (r1.take (I + 2) ++ cs.drop I ++ r1.drop (I + 2 + (cs.drop I).length)).length = r0.length ∧ (r1.take (I + 2) ++ cs.drop I ++ r1.drop (I + 2 + (cs.drop I).length)).take (N + 2) = cs.take I ++ f ++ cs.drop I := by
  have hti : (cs.take I).length = I := by rw [List.length_take]; omega
  have e0 : r0.take I = cs.take I := by rw [h0]; exact List.take_left' hti
  have hr0 : r0.length = I + Z.length := by rw [h0, List.length_append, hti]
  have hr1 : r1.length = r0.length := by
    rw [h1, e0]
    simp only [List.length_append, List.length_drop, hti, hf]
    omega
  have e1 : r1.take (I + 2) = cs.take I ++ f := by
    rw [h1, e0]
    refine List.take_left' ?_
    rw [List.length_append, hti, hf]
  refine ⟨hr1, ?_, ?_⟩
  · rw [e1]
    simp only [List.length_append, List.length_drop, hti, hf, hr1]
    omega
  · rw [e1]
    refine List.take_left' ?_
    simp only [List.length_append, List.length_drop, hti, hf]
    omega
theorem below_row {B g : Nat} {w0 w : World} (hb : Below B w0 w) (hBg : B ≤ g) (cs : Array Value) : Below B w0 (w.setRow g cs) :=
  hb.trans ⟨rfl, rfl, rfl, by simp [World.setRow], fun k hk => setRow_other w g k cs (by omega)⟩
theorem shape_bx {w : World} {g : Nat} {cs : Array Value} {T : Nat} (h : Bx w g cs T) : w.shape? g = some (T, cs.size) := by
  unfold Bx at h
  simp [World.shape?, h]
set_option maxHeartbeats 8000000 in
theorem xins_room {B n i g cap vb : Nat} {cs f : List Value} {w : World} (h : w.ownsRow B 43 2 (.slice (some ⟨g, 0, none⟩) n cap) n cs) (hi : i < n) (hcap : n < cap) (hf : f.length = 2) (h1 : ∀ u ∈ f, u.oneCell' = true) (hc1 : ∀ u ∈ cs, u.oneCell' = true) (hv : Bx w vb f.toArray 43) (hvb : vb ≠ g) (hn : n ≤ 1000000) :
    Calls Try.prog 68 #[.slice (some ⟨g, 0, none⟩) n cap, .int .i64 i, .slice (some ⟨vb, 0, none⟩) 1 1] w (InP B n (.slice (some ⟨g, 0, none⟩) n cap) (cs.take (i * 2) ++ f ++ cs.drop (i * 2)) w) := by
  obtain ⟨hlen, h2⟩ := h
  rcases h2 with ⟨hbad, _⟩ | ⟨g', cap', cur, hv', hB, hg, _, hcm, hcs, ht⟩
  · cases hbad
  injection hv' with e1 e2 e3
  injection e1 with e1
  injection e1 with e1
  subst e1 e3
  clear e2
  have hov : ∀ lb cb, (callFunc 93 #[.slice (some ⟨vb, 0, none⟩) 1 1, .slice (some ⟨g, (i + 1) * 2, none⟩) lb cb]).run Try.prog w = .ok (.value (.bool false)) w := fun lb cb => by
    rw [run_callFunc_extern Try.func93 (by kernel_rfl) (by kernel_rfl) (by kernel_rfl) (e := Extern.SlicesOverlaps.overlaps #[22, 22] #[4]) (by kernel_rfl),
      Lib.run_overlaps_apart w 22 4 43 Try.underlying22 2 Try.sizeOf43 ⟨vb, 0, none⟩ ⟨g, (i + 1) * 2, none⟩ 1 1 lb cb hvb 43 43 2 cur.size (by rw [shape_bx hv]; simp [hf]) (shape_bx hg) (by rw [hcs]; omega) (hv.froz 0) (hv.froz 2)]
    rfl
  obtain ⟨r1, hr1⟩ : ∃ r1, r1 = cur.toList.take (i * 2 + 2) ++ cs.drop (i * 2) ++ cur.toList.drop (i * 2 + 2 + (cs.drop (i * 2)).length) := ⟨_, rfl⟩
  have hrow := row_room (N := n * 2) (I := i * 2) (by omega) (by rw [Array.length_toList, hcs]; omega) ht hf hr1
  have hw0 : w.drew.heap[g]? = some (.cells cur 43 (0, 0)) := hg
  have hcell : ∀ j u, (cs.drop (i * 2))[j]? = some u → w.drew.cell? ((⟨g, i * 2, none⟩ : Addr).add j) = some u := fun j u hj => by
    rw [Addr.add_lit]
    show w.cell? ⟨g, i * 2 + j, none⟩ = some u
    rw [List.getElem?_drop, ← ht, List.getElem?_take] at hj
    rw [cell_of_row w g _ cur 43 (0, 0) hg, ← Array.getElem?_toList]
    split at hj
    · exact hj
    · cases hj
  have hdl : (cs.drop (i * 2)).length = (n - i) * 2 := by rw [List.length_drop, hlen]; omega
  have hcp1 : ∀ ty dc sc, (Builtin.copy_ #[22, 22] ty #[.slice (some ⟨g, (i + 1) * 2, none⟩) (n - i) dc, .slice (some ⟨g, i * 2, none⟩) (n + 1 - i) sc]).run Try.prog w.drew = .ok (goInt ((n - i : Nat) : Int)) (w.drew.setRow g r1.toArray) := fun ty dc sc => by
    have := copyK (P := Try.prog) w.drew 22 22 ty 43 g ((i + 1) * 2) (n - i) dc ⟨g, i * 2, none⟩ (n + 1 - i) sc cur 43 (cs.drop (i * 2)) 2 (n - i) Try.underlying22 size43 hw0 (by simp only [Nat.min_def]; split <;> omega) hdl hcell (by rw [hdl, hcs]; omega) (fun u hu => hc1 u (List.mem_of_mem_drop hu))
    rw [this, hr1, show (i + 1) * 2 = i * 2 + 2 by omega]
  obtain ⟨W1, hW1⟩ : ∃ W1, W1 = w.drew.setRow g r1.toArray := ⟨_, rfl⟩
  rw [← hW1] at hcp1
  have hg1 : W1.heap[g]? = some (.cells r1.toArray 43 (0, 0)) := by rw [hW1]; exact setRow_heap w.drew g cur _ 43 _ hg
  have hv1 : Bx W1 vb f.toArray 43 := by
    rw [hW1]
    exact (setRow_other w.drew g vb _ hvb).trans hv
  have hgr1 : w.grownBy W1 (some g) := by
    rw [hW1]
    exact ⟨rfl, rfl, rfl, by simp, fun k _ hk => setRow_other w.drew g k _ (fun e => hk (by rw [e]))⟩
  have hr1l : r1.length = cap * 2 := by
    rw [hr1]
    simp only [List.length_append, List.length_take, List.length_drop, Array.length_toList, hcs, hlen]
    omega
  have hcp2 : ∀ ty dc, (Builtin.copy_ #[22, 22] ty #[.slice (some ⟨g, i * 2, none⟩) (n + 1 - i) dc, .slice (some ⟨vb, 0, none⟩) 1 1]).run Try.prog W1 = .ok (goInt 1) (W1.setRow g (r1.take (i * 2) ++ f ++ r1.drop (i * 2 + f.length)).toArray) := fun ty dc => by
    have := copyK (P := Try.prog) W1 22 22 ty 43 g (i * 2) (n + 1 - i) dc ⟨vb, 0, none⟩ 1 1 r1.toArray 43 f 2 1 Try.underlying22 size43 hg1 (by simp only [Nat.min_def]; split <;> omega) (by rw [hf]) (cell_bx hv1) (by rw [hf]; simp only [List.size_toArray, hr1l]; omega) h1
    exact this
  obtain ⟨W2, hW2⟩ : ∃ W2, W2 = W1.setRow g (r1.take (i * 2) ++ f ++ r1.drop (i * 2 + f.length)).toArray := ⟨_, rfl⟩
  rw [← hW2] at hcp2
  have HF : Hid (InP B n (.slice (some ⟨g, 0, none⟩) n cap) (cs.take (i * 2) ++ f ++ cs.drop (i * 2)) w (.returned (.slice (some ⟨g, 0, none⟩) (n + 1) cap)) W2) := by
    refine ⟨_, rfl, ⟨?_, .inr ⟨g, cap, _, rfl, hB, by rw [hW2]; exact setRow_heap W1 g _ _ 43 _ hg1, by omega, hcm, ?_, ?_⟩⟩, ?_, .inl rfl⟩
    · simp only [List.length_append, List.length_take, List.length_drop, hlen, hf]
      omega
    · simp only [List.size_toArray]
      rw [hrow.1, Array.length_toList, hcs]
    · rw [show (n + 1) * 2 = n * 2 + 2 by omega]
      exact hrow.2
    · rw [hW2]
      refine ⟨hgr1.os, hgr1.tape, hgr1.output, ?_, fun k hk hne => ?_⟩
      · have := hgr1.size; simpa using this
      · exact (setRow_other W1 g k _ (fun e => hne (by rw [e]; rfl))).trans (hgr1.block k hk (fun e => hne (by rw [e]; rfl)))
  have z1 : (i : Int) ≤ (n : Int) := by omega
  have z2 : ¬ (i : Int) = (n : Int) := by omega
  have z3 : ¬ (cap : Int) < (n : Int) + 1 := by omega
  have z4 : (n : Int) + 1 ≤ (cap : Int) := by omega
  have z5 : (i : Int) + 1 ≤ (n : Int) := by omega
  have z6 : (n : Int) ≤ 1000000 := by omega
  have z7 : ¬ cap = i := by omega
  have z8 : ¬ cap = i + 1 := by omega
  have z9 : ((i : Int) + 1).toNat = i + 1 := by omega
  have z10 : ((n : Int) + 1).toNat = n + 1 := by omega
  have z11 : (i : Int) ≤ (n : Int) + 1 := by omega
  have z12 : IntKind.i64.wrap ((i : Int) + 1) = (i : Int) + 1 := by rw [IntKind.wrap_i64]; omega
  have z13 : (0 : Int) ≤ (i : Int) + 1 := by omega
  clear hW1 hW2 hg1 hv1 hgr1 hr1l hrow hr1 hdl hcell hw0 hg hcs ht hv hf h1 hc1 hlen hcm
  go_enter Try.func68, Try.ntmps68
  go_wp2_with (simp only [hov])
  go_region_law (refine step_copy_runI rfl _ _ 22 22 rfl _ _ (by simp [Act.eval, Act.put]) (by simp [Act.eval, Act.put]) (hcp1 _ _ _) ?_)
  go_wp2_with (at_builtin; refine wpList_copy_runI _ rfl _ _ 22 22 rfl _ _ rfl rfl (hcp2 _ _) ?_)
  go_ret
  exact HF.out
set_option maxHeartbeats 8000000 in
theorem xins_grow {B n i g cap vb : Nat} {cs f : List Value} {w : World} (h : w.ownsRow B 43 2 (.slice (some ⟨g, 0, none⟩) n cap) n cs) (hi : i < n) (hcap : cap < n + 1) (hf : f.length = 2) (h1 : ∀ u ∈ f, u.oneCell' = true) (hc1 : ∀ u ∈ cs, u.oneCell' = true) (hv : Bx w vb f.toArray 43) (hn : n ≤ 1000000) (hBw : B ≤ w.heap.size) :
    Calls Try.prog 68 #[.slice (some ⟨g, 0, none⟩) n cap, .int .i64 i, .slice (some ⟨vb, 0, none⟩) 1 1] w (InP B n (.slice (some ⟨g, 0, none⟩) n cap) (cs.take (i * 2) ++ f ++ cs.drop (i * 2)) w) := by
  obtain ⟨hlen, h2⟩ := h
  rcases h2 with ⟨hbad, _⟩ | ⟨g', cap', cur, hv', hB, hg, hnc, hcm, hcs, ht⟩
  · cases hbad
  injection hv' with e1 e2 e3
  injection e1 with e1
  injection e1 with e1
  subst e1 e3
  clear e2
  obtain rfl : cap = n := by omega
  have hgl : g < w.heap.size := (Array.getElem?_eq_some_iff.1 hg).1
  obtain ⟨i0, hi0, hz0, hz1, hz2⟩ := info_parts info43
  have hcw : ∀ (W : World), W.heap = w.heap → ∀ o j u, (cs.drop o)[j]? = some u → W.cell? ⟨g, o + j, none⟩ = some u := fun W hW o j u hj => by
    rw [List.getElem?_drop, ← ht, List.getElem?_take] at hj
    rw [cell_of_row W g _ cur 43 (0, 0) (by rw [hW]; exact hg), ← Array.getElem?_toList]
    split at hj
    · exact hj
    · cases hj
  have hold : (Builtin.firstCells i0.size i (.slice (some ⟨g, 0, none⟩) i cap)).run Try.prog w.drew = .ok (cs.take (i * 2)).toArray w.drew := by
    rw [hz1]
    exact run_firstCells_some w.drew 2 i ⟨g, 0, none⟩ i cap (cs.take (i * 2)) (by rw [List.length_take, hlen]; omega) (fun j v hj => by
      rw [Addr.add_lit]
      rw [List.getElem?_take] at hj
      split at hj
      · exact hcw w.drew rfl 0 j v (by rw [List.drop_zero]; exact hj)
      · cases hj)
  have hik : i + (cap + 1 - i) = cap + 1 := by omega
  have hkk : (cap : Int) + 1 - (i : Int) = ((cap + 1 - i : Nat) : Int) := by omega
  obtain ⟨G, hG⟩ : ∃ G, G = grownCap w (cap + 1) cap 43 := ⟨_, rfl⟩
  have hGge : cap + 1 ≤ G := by rw [hG]; exact grownCap_ge w _ _ _
  have hGle : G ≤ maxLen := by rw [hG]; exact grownCap_le_maxLen w _ _ _ (by unfold maxLen; omega)
  obtain ⟨Z, hZ⟩ : ∃ Z : List Value, Z = (Builtin.zeroCells (Value.agg #[.string ⟨#[]⟩, .int .i64 0]).cells (cap + 1 - i)).toList ++ (Builtin.zeroCells (Value.agg #[.string ⟨#[]⟩, .int .i64 0]).cells (G - (cap + 1))).toList := ⟨_, rfl⟩
  have hZl : Z.length = (cap + 1 - i) * 2 + (G - (cap + 1)) * 2 := by
    rw [hZ, List.length_append, Array.length_toList, Array.length_toList, size_zeroCells, size_zeroCells]
    rfl
  obtain ⟨r0, hr0⟩ : ∃ r0, r0 = cs.take (i * 2) ++ Z := ⟨_, rfl⟩
  have hrz : ∀ ty, (Builtin.append_ #[22, 3] ty #[.slice (some ⟨g, 0, none⟩) i cap, .int .i64 ((cap : Int) + 1 - (i : Int))]).run Try.prog w = .ok (.slice (some ⟨w.heap.size, 0, none⟩) (cap + 1) G) (w.drew.alloc (.cells r0.toArray 43)) := fun ty => by
    have h := Lib.run_append_grow_zeros w 22 3 ty 43 i0 _ .i64 .i64 Try.underlying22 Try.underlying3 hi0 hz0 (some ⟨g, 0, none⟩) i cap (cs.take (i * 2)) hold (cap + 1 - i) (by omega) (by omega) (by omega) (by omega) (by rw [hz2]; omega) (by rw [hz2, hik]; exact growslice_fits (by omega) (by omega))
    rw [hik, ← hG] at h
    rw [hkk, h, hr0, hZ]
    congr 3
    apply Array.ext'
    simp
  have hlt : (cs.take (i * 2)).length = i * 2 := by rw [List.length_take, hlen]; omega
  have hr0l : r0.length = G * 2 := by rw [hr0, List.length_append, hlt, hZl]; omega
  obtain ⟨r1, hr1⟩ : ∃ r1, r1 = r0.take (i * 2) ++ f ++ r0.drop (i * 2 + f.length) := ⟨_, rfl⟩
  have hrow := row_grow (N := cap * 2) (I := i * 2) hlen (by omega) (by rw [hZl]; omega) hf hr0 hr1
  obtain ⟨W1, hW1⟩ : ∃ W1, W1 = w.drew.alloc (.cells r0.toArray 43) := ⟨_, rfl⟩
  rw [← hW1] at hrz
  have hg1 : Bx W1 w.heap.size r0.toArray 43 := by rw [hW1]; exact Bx.new w.drew _ _
  have hb1 : Below w.heap.size w W1 := by rw [hW1]; exact ((Below.refl w.heap.size w).drew).alloc (Nat.le_refl _) _
  have hv1 : Bx W1 vb f.toArray 43 := hv.below hb1 hv.lt
  have hvl : vb < w.heap.size := hv.lt
  have hcp1 : ∀ ty dc, (Builtin.copy_ #[22, 22] ty #[.slice (some ⟨w.heap.size, i * 2, none⟩) (cap + 1 - i) dc, .slice (some ⟨vb, 0, none⟩) 1 1]).run Try.prog W1 = .ok (goInt ((1 : Nat) : Int)) (W1.setRow w.heap.size r1.toArray) := fun ty dc => by
    have := copyK (P := Try.prog) W1 22 22 ty 43 w.heap.size (i * 2) (cap + 1 - i) dc ⟨vb, 0, none⟩ 1 1 r0.toArray 43 f 2 1 Try.underlying22 size43 hg1 (by simp only [Nat.min_def]; split <;> omega) (by rw [hf]) (cell_bx hv1) (by rw [hf]; simp only [List.size_toArray, hr0l]; omega) h1
    rw [this, hr1]
  obtain ⟨W2, hW2⟩ : ∃ W2, W2 = W1.setRow w.heap.size r1.toArray := ⟨_, rfl⟩
  rw [← hW2] at hcp1
  have hg2 : Bx W2 w.heap.size r1.toArray 43 := by rw [hW2]; exact setRow_heap W1 _ _ _ 43 _ hg1
  have hb2 : Below w.heap.size w W2 := by rw [hW2]; exact below_row hb1 (Nat.le_refl _) _
  have hdl : (cs.drop (i * 2)).length = (cap - i) * 2 := by rw [List.length_drop, hlen]; omega
  have hg3 : W2.drew.heap[w.heap.size]? = some (.cells r1.toArray 43 (0, 0)) := hg2
  have hcell : ∀ j u, (cs.drop (i * 2))[j]? = some u → W2.drew.cell? ((⟨g, i * 2, none⟩ : Addr).add j) = some u := fun j u hj => by
    rw [Addr.add_lit]
    exact (hb2.cell (p := ⟨g, i * 2 + j, none⟩) hgl).trans (hcw w rfl _ j u hj)
  have hcp2 : ∀ ty dc sc, (Builtin.copy_ #[22, 22] ty #[.slice (some ⟨w.heap.size, (i + 1) * 2, none⟩) (cap - i) dc, .slice (some ⟨g, i * 2, none⟩) (cap - i) sc]).run Try.prog W2.drew = .ok (goInt ((cap - i : Nat) : Int)) (W2.drew.setRow w.heap.size (r1.take (i * 2 + 2) ++ cs.drop (i * 2) ++ r1.drop (i * 2 + 2 + (cs.drop (i * 2)).length)).toArray) := fun ty dc sc => by
    have := copyK (P := Try.prog) W2.drew 22 22 ty 43 w.heap.size ((i + 1) * 2) (cap - i) dc ⟨g, i * 2, none⟩ (cap - i) sc r1.toArray 43 (cs.drop (i * 2)) 2 (cap - i) Try.underlying22 size43 hg3 (Nat.min_self _) hdl hcell (by rw [hdl]; simp only [List.size_toArray, hrow.1, hr0l]; omega) (fun u hu => hc1 u (List.mem_of_mem_drop hu))
    rw [this, show (i + 1) * 2 = i * 2 + 2 by omega]
  obtain ⟨W3, hW3⟩ : ∃ W3, W3 = W2.drew.setRow w.heap.size (r1.take (i * 2 + 2) ++ cs.drop (i * 2) ++ r1.drop (i * 2 + 2 + (cs.drop (i * 2)).length)).toArray := ⟨_, rfl⟩
  rw [← hW3] at hcp2
  have hb3 : Below w.heap.size w W3 := by rw [hW3]; exact below_row hb2.drew (Nat.le_refl _) _
  have HF : Hid (InP B cap (.slice (some ⟨g, 0, none⟩) cap cap) (cs.take (i * 2) ++ f ++ cs.drop (i * 2)) w (.returned (.slice (some ⟨w.heap.size, 0, none⟩) (cap + 1) G)) W3) := by
    refine ⟨_, rfl, ⟨?_, .inr ⟨w.heap.size, G, _, rfl, hBw, by rw [hW3]; exact setRow_heap W2.drew _ _ _ 43 _ hg3, hGge, hGle, ?_, ?_⟩⟩, ?_, .inr rfl⟩
    · simp only [List.length_append, List.length_take, List.length_drop, hlen, hf]
      omega
    · simp only [List.size_toArray]
      rw [hrow.2.1, hr0l]
    · rw [show (cap + 1) * 2 = cap * 2 + 2 by omega]
      exact hrow.2.2
    · exact ⟨hb3.os, hb3.tape, hb3.output, hb3.size, fun k hk _ => hb3.block k hk⟩
  have z1 : (i : Int) ≤ (cap : Int) := by omega
  have z2 : ¬ (i : Int) = (cap : Int) := by omega
  have z3 : (cap : Int) < (cap : Int) + 1 := by omega
  have z5 : (i : Int) + 1 ≤ (cap : Int) := by omega
  have z6 : (cap : Int) ≤ 1000000 := by omega
  have z7 : ¬ cap = i := by omega
  have z8 : ¬ G = i + 1 := by omega
  have z14 : ¬ G = i := by omega
  have z9 : ((i : Int) + 1).toNat = i + 1 := by omega
  have z11 : (i : Int) ≤ (cap : Int) + 1 := by omega
  have z12 : IntKind.i64.wrap ((i : Int) + 1) = (i : Int) + 1 := by rw [IntKind.wrap_i64]; omega
  have z13 : (0 : Int) ≤ (i : Int) + 1 := by omega
  generalize w.heap.size = S at *
  clear hW1 hW2 hW3 hg1 hg2 hg3 hv1 hb1 hb2 hb3 hrow hr1 hr0 hr0l hdl hcell hg hcs ht hv hf h1 hc1 hlen hcm hold hi0 hz0 hz1 hz2 hik hkk hG hGge hGle hZ hZl hlt hcw hvl hgl hB hBw
  go_enter Try.func68, Try.ntmps68
  go_wp2_with (first | (at_builtin; refine Lib.wpList_append_run _ rfl _ _ 22 3 rfl _ _ rfl rfl _ W1 (hrz _) ?_) | (at_builtin; refine wpList_copy_runI _ rfl _ _ 22 22 rfl _ _ rfl rfl (hcp1 _ _) ?_))
  go_region_law (refine step_copy_runI rfl _ _ 22 22 rfl _ _ (by simp [Act.eval, Act.put]) (by simp [Act.eval, Act.put]) (hcp2 _ _ _) ?_)
  go_wp2_with fail
  go_ret
  exact HF.out
end Go.Proofs.Ytheikjjehidagaa
