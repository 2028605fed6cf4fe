/- layer 17: which of two items is ahead, items ranked, by the document -/
import Derived.Test.YtheikjjehidagaaK2
import Derived.Test.YtheikjjehidagaaSB
import Derived.WalkKit
import Derived.ProofKit
import Derived.Handy
import Derived.WalkLawsBesides
import Derived.WalkSpells
import Derived.BigQuiet
import Derived.BigCall
import Derived.Deep.QuietTactic
import Derived.Deep.Light
import Derived.Deep.OwnRows
import Derived.Laws.AppendOwnNone
import Derived.Laws.Strings3
import Derived.Laws.RangeAny
import Derived.Deep.RegionWith
import Derived.Lib.BitFns
import Derived.Lib.Walk
import Derived.Lib.Strings
import Derived.Lib.OthersKept
import Derived.Deep.CutBlock
import Derived.Deep.DeepCutAuto
import Derived.Deep.LoopGhost
import Derived.Deep.RegionHeld3
import Derived.Lib.SmallJoins
import Derived.Maps.AppendAt
import Derived.Laws.IdiomStrings
import Derived.Lib.AppendZeros
import Derived.Deep.WholeRow
import Derived.Laws.BitsAllLaws
import Derived.Lib.ConvBytes
import Derived.Deep.RegionLaw
import Derived.Maps.OwnSet
import Derived.Maps.OwnOps
import Derived.Maps.RangeWalk
import Derived.Maps.Ext
import Derived.DeepKeys4
import Derived.Laws.StructEq
import Derived.Deep.MidRow
import Derived.Lib.Bytealg
import Derived.Lib.AppendZerosOnto
import Derived.Laws.MakeOwn
import Derived.Deep.Upon
import Derived.Sort.KeysCollected
import Derived.Shelf.SlSortCmp.KitK
namespace Go.Proofs.Ytheikjjehidagaa
open Go.RowKit
set_option linter.unusedVariables false
set_option linter.unusedSimpArgs false
open Go.Sort (grow SWO)
open H5 (It its its_len its_one)
set_option maxRecDepth 20000
set_option linter.unusedSectionVars false
theorem load87 (W : World) (b p : Nat) (v0 v1 v2 v3 v4 v5 v6 v7 v8 : Value) (c0 : W.cell? ⟨b, p, none⟩ = some v0) (c1 : W.cell? ⟨b, p + 1, none⟩ = some v1) (c2 : W.cell? ⟨b, p + 2, none⟩ = some v2) (c3 : W.cell? ⟨b, p + 3, none⟩ = some v3) (c4 : W.cell? ⟨b, p + 4, none⟩ = some v4) (c5 : W.cell? ⟨b, p + 5, none⟩ = some v5) (c6 : W.cell? ⟨b, p + 6, none⟩ = some v6) (c7 : W.cell? ⟨b, p + 7, none⟩ = some v7) (c8 : W.cell? ⟨b, p + 8, none⟩ = some v8) : (Instr.loadAt 87 (.pointer (some ⟨b, p, none⟩))).run Try.prog W = .ok (.agg #[v0, v1, v2, v3, v4, v5, v6, v7, v8]) W := by
  go_simp
theorem row87 {W : World} {blk q : Nat} {x : It} (h : ∀ j, j < 9 → W.cell? ⟨blk, q + j, none⟩ = (its x)[j]?) : (Instr.loadAt 87 (.pointer (some ⟨blk, q, none⟩))).run Try.prog W = .ok (.agg (its x).toArray) W :=
  load87 W blk q _ _ _ _ _ _ _ _ _ (h 0 (by omega)) (h 1 (by omega)) (h 2 (by omega)) (h 3 (by omega)) (h 4 (by omega)) (h 5 (by omega)) (h 6 (by omega)) (h 7 (by omega)) (h 8 (by omega))
theorem info87 : (Try.prog.info? 87).map (fun i => (i.zero, i.size, i.bytes)) = some (some (.agg #[.string ⟨#[]⟩, .int .i64 0, .string ⟨#[]⟩, .int .i64 0, .int .i64 0, .int .i64 0, .string ⟨#[]⟩, .int .i64 0, .int .i64 0]), 9, 96) := by kernel_rfl
abbrev Or (B : Nat) (w : World) (v : Value) (L : List It) : Prop := w.ownsRow B 87 9 v L.length (rcs its L)
theorem its_cells_one (L : List It) : ∀ u ∈ rcs its L, u.oneCell' = true := by
  intro u hu
  unfold rcs at hu
  rw [List.mem_flatten] at hu
  obtain ⟨l, hl, hu⟩ := hu
  obtain ⟨k, _, rfl⟩ := List.mem_map.1 hl
  exact its_one k u hu
theorem rcs_its_len : ∀ M : List It, (rcs its M).length = M.length * 9
  | [] => rfl
  | x :: r => by
    have e : rcs its (x :: r) = its x ++ rcs its r := rfl
    rw [e, List.length_append, rcs_its_len r, its_len, List.length_cons]
    omega
theorem below_own {B : Nat} {w w' : World} {v : Value} {e k n : Nat} {cs : List Value} (g : w.grownBy w' v.ownBlock) (h : w.ownsRow B e k v n cs) (hB : B ≤ w.heap.size) : Below B w w' :=
  ⟨g.os, g.tape, g.output, g.size, fun k hk => g.block k (by omega) (fun e => by have := (h.lt _ e.symm).1; omega)⟩
/-- append of a row of the document's items -/
theorem ap_its {B : Nat} {w : World} {v : Value} {L xs : List It} (h : Or B w v L) (hB : B ≤ w.heap.size) {a : Option Addr} (cap : Nat) (h2 : Rw 9 its w a xs) (hl : L.length + xs.length ≤ 1000000) :
    ∃ v' w', (Builtin.append_ #[40, 40] 40 #[v, .slice a xs.length cap]).run Try.prog w = .ok v' w' ∧ Or B w' v' (L ++ xs) ∧ Below B w w' := by
  obtain ⟨i0, hi, hz0, hz1, hz2⟩ := info_parts info87
  cases a with
  | none =>
    have : xs = [] := by
      apply Classical.byContradiction
      intro hn
      obtain ⟨_, _, e, _⟩ := h2 (List.length_pos_iff.2 hn)
      cases e
    subst this
    refine ⟨v, w, ap_none Try.underlying40 hi v _ cap _ h, ?_, Below.refl _ _⟩
    rw [List.append_nil]
    exact h
  | some ad =>
    obtain ⟨v', w', hr, ho, hgr, _, hat⟩ := run_append_own_at (P := Try.prog) (w := w) B 40 40 87 i0 _ 9 96 Try.underlying40 hi hz0 hz1 hz2 rfl (by omega) v _ _ h ad xs.length cap (rcs its xs) (rcs_its_len xs) (fun j u hj => by
      have h0 : 0 < xs.length := by
        rcases Nat.eq_zero_or_pos xs.length with e | e
        · rw [List.length_eq_zero_iff.1 e] at hj; simp [rcs] at hj
        · exact e
      obtain ⟨blk, off, e1, _, hc⟩ := h2 h0
      injection e1 with e1
      subst e1
      have hjl : j < xs.length * 9 := by
        rw [← rcs_its_len]
        exact (List.getElem?_eq_some_iff.1 hj).1
      have h1 := flat_at its 9 its_len xs (j / 9) (by omega) (j % 9) (by omega)
      have h3 := hc (j / 9) (by omega) (j % 9) (by omega)
      rw [show j / 9 * 9 + j % 9 = j by omega] at h1
      rw [show off + j / 9 * 9 + j % 9 = off + j by omega] at h3
      have e : (⟨blk, off, none⟩ : Addr).add j = ⟨blk, off + j, none⟩ := Addr.add_lit ..
      rw [e, h3, ← h1]
      exact hj) (its_cells_one xs) (by unfold maxLen; omega) (by omega) hB
    refine ⟨v', w', hr, ?_, below_own hgr h hB⟩
    show w'.ownsRow B 87 9 v' (L ++ xs).length _
    rw [rcs_app, List.length_append]
    exact ho
/-- an append of one -/
theorem ap_it1 {B : Nat} {w : World} {v : Value} {L : List It} (h : Or B w v L) (hB : B ≤ w.heap.size) (hl : L.length ≤ 1000000) (x : It) :
    ∃ v' w6, (Builtin.append_ #[40, 40] 40 #[v, .slice (some ⟨w.heap.size, 0, none⟩) 1 1]).run Try.prog (w.alloc (.cells (its x).toArray 87)) = .ok v' w6 ∧ Or B w6 v' (L ++ [x]) ∧ Below B w w6 := by
  obtain ⟨i0, hi, hz0, hz1, hz2⟩ := info_parts info87
  obtain ⟨v', w', hr, ho, hgr, _, hat⟩ := run_append_own_at (P := Try.prog) (w := w.alloc (.cells (its x).toArray 87)) B 40 40 87 i0 _ 9 96 Try.underlying40 hi hz0 hz1 hz2 rfl (by omega) v _ _ (h.alloc _) ⟨w.heap.size, 0, none⟩ 1 1 (its x) rfl (cell_new (cs := its x)) (its_one x) (by unfold maxLen; omega) (by omega) (by simp; omega)
  refine ⟨v', w', hr, ?_, ((Below.refl B w).alloc hB _).trans (below_own hgr (h.alloc _) (by simp; omega))⟩
  show w'.ownsRow B 87 9 v' (L ++ [x]).length _
  rw [rcs_snoc, List.length_append]
  exact ho
set_option maxHeartbeats 8000000 in
theorem rahead (x y : It) (w : World) : Calls Try.prog 46 #[.agg (its x).toArray, .agg (its y).toArray] w (BbP (ltI x y) w) := by
  have HB : Hid (∀ o o2, Below w.heap.size w ((w.alloc o).alloc o2)) := fun o o2 => ((Below.refl _ w).alloc (Nat.le_refl _) _).alloc (by simp) _
  unfold ltI
  obtain ⟨l, q, ⟨ai, a1, a2, am, ac⟩, p, c⟩ := x
  obtain ⟨l2, q2, ⟨bi, b1, b2, bm, bc⟩, p2, c2⟩ := y
  simp only [its]
  by_cases h1 : c = c2
  · have h1n : (c != c2) = false := by simp [h1]
    rw [if_pos h1]
    replace h1 := hid_in h1
    by_cases h2 : am = bm
    · have h2n : (am != bm) = false := by simp [h2]
      rw [if_pos h2]
      replace h2 := hid_in h2
      have hb : Op.bytesLess l.toList l2.toList = decide (l.toList < l2.toList) := bl_eq _ _
      generalize decide (l.toList < l2.toList) = t at *
      go_enter Try.func46, Try.ntmps46
      go_wp2_with fail
      go_ret
      exact ⟨rfl, HB.out _ _⟩
    · have h2n : (am != bm) = true := by simp [h2]
      rw [if_neg h2]
      replace h2 := hid_in h2
      obtain ⟨t, ht⟩ : ∃ t, t = decide (am < bm) := ⟨_, rfl⟩
      rw [← ht]
      replace ht := hid_in ht
      go_enter Try.func46, Try.ntmps46
      go_wp2_with fail
      go_ret
      exact ⟨by rw [ht.out]; rfl, HB.out _ _⟩
  · have h1n : (c != c2) = true := by simp [h1]
    rw [if_neg h1]
    replace h1 := hid_in h1
    obtain ⟨t, ht⟩ : ∃ t, t = decide (c < c2) := ⟨_, rfl⟩
    rw [← ht]
    replace ht := hid_in ht
    go_enter Try.func46, Try.ntmps46
    go_wp2_with fail
    go_ret
    exact ⟨by rw [ht.out]; rfl, HB.out _ _⟩
theorem num_q1 {n : Nat} (h : ¬ n = 0) : n = n - 1 + 1 := by omega
theorem num_q3 {k N : Nat} (h : k < N) (h2 : N ≤ 1000) : wrap64 ((k : Int) + 1) = (k : Int) + 1 := by unfold wrap64; omega
theorem num_q5 {k N : Nat} (h : k < N) (h2 : N ≤ 1000) : N - (intOf (.int .i64 (wrap64 ((k : Int) + 1)))).toNat < N - (intOf (.int .i64 (k : Int))).toNat := by rw [num_q3 h h2]; show N - ((k : Int) + 1).toNat < N - (k : Int).toNat; omega
theorem num_q2 {n m N : Nat} (h : n = m + 1) (hn : n ≤ N) (hN : N ≤ 1000) : (0 : Int) < (n : Int) ∧ (n : Int) - 1 = (m : Int) ∧ m < N ∧ wrap64 (m : Int) = (m : Int) ∧ IntKind.i64.wrap (m : Int) = (m : Int) := ⟨by omega, by omega, by omega, wN (by omega), wK (by omega)⟩
section
variable [Inhabited It]
theorem below_dr (w : World) : Below w.heap.size w w.drew := ⟨rfl, rfl, rfl, Nat.le_refl _, fun _ _ => rfl⟩
theorem nn_step (x : It) (M : List It) (n : Nat) : SS.nn ltI x M (n + 1) = if ltI x M[n]! = true then SS.nn ltI x M n else n + 1 := rfl
theorem lget (M : List It) (n : Nat) (h : n < M.length) : M[n]! = M[n] := getElem!_pos M n h
theorem Rw.take {w : World} {g : Nat} {M : List It} (h : Rw 9 its w (some ⟨g, 0, none⟩) M) {n : Nat} : Rw 9 its w (some ⟨g, 0, none⟩) (M.take n) := by
  intro h0
  rw [List.length_take] at h0
  obtain ⟨blk, off, e, hl, hc⟩ := h (by omega)
  injection e with e
  injection e with e1 e2 e3
  subst e1 e2
  refine ⟨g, 0, rfl, hl, fun i hi j hj => ?_⟩
  rw [List.length_take] at hi
  rw [hc i (by omega) j hj, List.getElem_take]
theorem Rw.drop {w : World} {g : Nat} {M : List It} (h : Rw 9 its w (some ⟨g, 0, none⟩) M) {n : Nat} : Rw 9 its w (some ⟨g, 0 + n * 9, none⟩) (M.drop n) := by
  intro h0
  rw [List.length_drop] at h0
  obtain ⟨blk, off, e, hl, hc⟩ := h (by omega)
  injection e with e
  injection e with e1 e2 e3
  subst e1 e2
  refine ⟨g, 0 + n * 9, rfl, hl, fun i hi j hj => ?_⟩
  rw [List.length_drop] at hi
  have := hc (n + i) (by omega) j hj
  rw [show 0 + (n + i) * 9 + j = 0 + n * 9 + i * 9 + j by omega] at this
  rw [this, List.getElem_drop]
/-- three appends: one item put in its place -/
theorem rk_put {wx : World} {M : List It} (hl : M.length ≤ 1000) (x : It) (n : Nat) {a : Option Addr} (cap : Nat) (hr : ∀ W, Below wx.heap.size wx W → Rw 9 its W a (M.take n)) (hn : n ≤ M.length) :
    ∃ v1 w1 v2 w2, (Builtin.append_ #[40, 40] 40 #[.slice (some ⟨wx.heap.size, 0, none⟩) 0 0, .slice a n cap]).run Try.prog (wx.alloc (.cells #[] 87)) = .ok v1 w1 ∧ Below wx.heap.size wx w1 ∧
      (Builtin.append_ #[40, 40] 40 #[v1, .slice (some ⟨w1.heap.size, 0, none⟩) 1 1]).run Try.prog (w1.alloc (.cells (its x).toArray 87)) = .ok v2 w2 ∧
      (∀ a' cap', (∀ W, Below wx.heap.size wx W → Rw 9 its W a' (M.drop n)) → ∃ v3 w3, (Builtin.append_ #[40, 40] 40 #[v2, .slice a' (M.length - n) cap']).run Try.prog w2 = .ok v3 w3 ∧ Hid (Or wx.heap.size w3 v3 (M.take n ++ x :: M.drop n) ∧ Below wx.heap.size wx w3)) := by
  have hb0 : Below wx.heap.size wx (wx.alloc (.cells #[] 87)) := below_a _ _
  have h0 : Or wx.heap.size (wx.alloc (.cells #[] 87)) (.slice (some ⟨wx.heap.size, 0, none⟩) 0 0) [] := ⟨rfl, .inr ⟨wx.heap.size, 0, #[], rfl, Nat.le_refl _, Bx.new wx #[] 87, Nat.le_refl _, Nat.zero_le _, rfl, rfl⟩⟩
  have htl : (M.take n).length = n := by rw [List.length_take]; omega
  obtain ⟨v1, w1, r1, o1, b1⟩ := ap_its h0 (by simp) cap (hr _ hb0) (by rw [htl]; simp; omega)
  rw [htl] at r1
  have hb1 : Below wx.heap.size wx w1 := hb0.trans b1
  rw [List.nil_append] at o1
  obtain ⟨v2, w2, r2, o2, b2⟩ := ap_it1 o1 hb1.size (by rw [htl]; omega) x
  have hb2 := hb1.trans b2
  refine ⟨v1, w1, v2, w2, r1, hb1, r2, fun a' cap' hr2 => ?_⟩
  have hdl : (M.drop n).length = M.length - n := List.length_drop
  obtain ⟨v3, w3, r3, o3, b3⟩ := ap_its o2 hb2.size cap' (hr2 _ hb2) (by rw [hdl, List.length_append, htl]; simp; omega)
  rw [hdl] at r3
  refine ⟨v3, w3, r3, ?_, hb2.trans b3⟩
  rw [List.append_assoc] at o3
  exact o3
/-- a rank, with room for it -/
def RkC (L : List It) (n : Nat) (w : World) (e : Ending) (w' : World) : Prop := ∃ a cap, e = .returned (.slice a n cap) ∧ Hid (n ≤ cap ∧ Rw 9 its w' a L ∧ Below w.heap.size w w')
/-- the document's Rank under way -/
structure RkR (L : List It) (w wr : World) (k : Nat) (v : Value) (M : List It) : Prop where
  o : Or w.heap.size wr v M
  m : M = SS.rnk ltI (L.take k)
  b : Below w.heap.size w wr
theorem RkR.len {L : List It} {w wr : World} {k : Nat} {v : Value} {M : List It} (h : RkR L w wr k v M) : M.length ≤ k := by
  rw [h.m, SS.rnk_len, List.length_take]
  omega
theorem RkR.next {L : List It} {w wr wx w3 : World} {k : Nat} {v v3 : Value} {M : List It} (h : RkR L w wr k v M) (hk : k < L.length) (hb : Below wr.heap.size wr wx) {n : Nat} (hn : n = SS.nn ltI L[k] M M.length) (o3 : Or wx.heap.size w3 v3 (M.take n ++ L[k] :: M.drop n)) (b3 : Below wx.heap.size wx w3) : RkR L w w3 (k + 1) v3 (M.take n ++ L[k] :: M.drop n) := by
  have hbx := h.b.trans (hb.mono h.b.size)
  refine ⟨own_mono o3 hbx.size, ?_, hbx.trans (b3.mono hbx.size)⟩
  rw [List.take_succ_eq_append_getElem hk, SS.rnk_snoc, ← h.m, hn]
  rfl
set_option maxHeartbeats 32000000 in
theorem rrankc (L : List It) (hl : L.length ≤ 1000) (a : Option Addr) (cap : Nat) (w : World) (h : Rw 9 its w a L) : Calls Try.prog 24 #[.slice a L.length cap] w (RkC (SS.rnk ltI L) L.length w) := by
  have HE : Hid (Rw 9 its w a L) := h
  have HL : Hid (L.length ≤ 1000) := hl
  have hlz : (L.length : Int) ≤ 1000 := by omega
  clear h hl
  go_enter Try.func24, Try.ntmps24
  go_wp2_with fail
  go_loopw [3, 4] (fun s i wr => ∃ (k : Nat) (v : Value) (M : List It), k ≤ L.length ∧ v = s ∧ i = .int .i64 k ∧ Hid (RkR L w wr k v M))
    (fun _ i _ => L.length - (intOf i).toNat)
  case atStart => exact ⟨0, _, [], Nat.zero_le _, rfl, rfl, World.ownsRow_nil _ _ _ _, rfl, Below.refl _ _⟩
  case round =>
    obtain ⟨k, v, M, hk, rfl, rfl, HR⟩ := hrel
    by_cases hkn : k < L.length
    · have hkz : (k : Int) < (L.length : Int) := by omega
      obtain ⟨blk, off, rfl, hbl, hcs⟩ := HE.out (by omega)
      have HX9 : Hid (∀ W, Below wr.heap.size wr W → ∀ j, j < 9 → W.cell? ⟨blk, off + k * 9 + j, none⟩ = (its L[k])[j]?) := fun W hb => its_at hcs (HR.out.b.trans (hb.mono HR.out.b.size)) hbl hkn
      have LX : Hid (∀ W, Below wr.heap.size wr W → (Instr.loadAt 87 (.pointer (some ⟨blk, off + k * 9, none⟩))).run Try.prog W = .ok (.agg (its L[k]).toArray) W) := fun W hb => row87 (HX9.out W hb)
      have hMl : M.length ≤ 1000 := Nat.le_trans HR.out.len (Nat.le_trans hk HL.out)
      have HNX : Hid (∀ wx w3 v3 n, Below wr.heap.size wr wx → n = SS.nn ltI L[k] M M.length → Hid (Or wx.heap.size w3 v3 (M.take n ++ L[k] :: M.drop n) ∧ Below wx.heap.size wx w3) → ∃ M', Hid (RkR L w w3 (k + 1) v3 M')) := fun wx w3 v3 n hb hn hz => ⟨_, HR.out.next hkn hb hn hz.out.1 hz.out.2⟩
      rcases HR.out.o.2 with ⟨hv, hM0⟩ | ⟨g, c2, cur, hv, hBg, hgc, hNc, hmx, hsz, htk⟩
      · subst hv
        have hM : M = [] := List.length_eq_zero_iff.1 hM0
        obtain ⟨wx, hwx⟩ : ∃ wx, wr.drew = wx := ⟨_, rfl⟩
        have hbx : Below wr.heap.size wr wx := by rw [← hwx]; exact below_dr wr
        have HWE := hid_in hwx
        obtain ⟨v1, w1, v2, w2, r1, b1, r2, r3⟩ := rk_put (wx := wx) (M := M) hMl L[k] 0 (a := none) 0 (fun W _ => by rw [hM]; exact Rw.nil) (Nat.zero_le _)
        obtain ⟨v3, w3, r4, HZ3⟩ := r3 none 0 (fun W _ => by rw [hM]; exact Rw.nil)
        rw [hM0, Nat.sub_zero] at r4
        obtain ⟨M', HZ⟩ := HNX.out wx w3 v3 0 hbx (by rw [hM]; rfl) HZ3
        have hx9 := HX9.out w1 (hbx.trans (b1.mono hbx.size))
        have HWX : Hid (Below wr.heap.size wr wr) := Below.refl _ _
        clear r3 HR HNX hcs hM hM0 HZ3 hMl b1 HX9 LX hwx hbx
        generalize L[k] = x at *
        obtain ⟨l, q, ⟨ai, a1, a2, am, ac⟩, p, c⟩ := x
        simp only [its] at *
        have e0 : w1.cell? ⟨blk, off + k * 9, none⟩ = some (.string l) := hx9 0 (by omega)
        have e1 : w1.cell? ⟨blk, off + k * 9 + 1, none⟩ = some (.int .i64 q) := hx9 1 (by omega)
        have e2 : w1.cell? ⟨blk, off + k * 9 + 2, none⟩ = some (.string ai) := hx9 2 (by omega)
        have e3 : w1.cell? ⟨blk, off + k * 9 + 3, none⟩ = some (.int .i64 a1) := hx9 3 (by omega)
        have e4 : w1.cell? ⟨blk, off + k * 9 + 4, none⟩ = some (.int .i64 a2) := hx9 4 (by omega)
        have e5 : w1.cell? ⟨blk, off + k * 9 + 5, none⟩ = some (.int .i64 am) := hx9 5 (by omega)
        have e6 : w1.cell? ⟨blk, off + k * 9 + 6, none⟩ = some (.string ac) := hx9 6 (by omega)
        have e7 : w1.cell? ⟨blk, off + k * 9 + 7, none⟩ = some (.int .i64 p) := hx9 7 (by omega)
        have e8 : w1.cell? ⟨blk, off + k * 9 + 8, none⟩ = some (.int .i64 c) := hx9 8 (by omega)
        clear hx9
        go_wp2_with fail
        go_loopw [5] (fun s wy => s = .int .i64 0 ∧ wr = wy) (fun _ _ => 0)
        case atStart => exact ⟨rfl, rfl⟩
        case round =>
          obtain ⟨rfl, rfl⟩ := hrel
          go_upto_region 6 with fail
          refine wp_region_held (S := fun W => Below wr.heap.size wr W) (by kernel_rfl) ?_
          change wpAnyH _ _ _ _ _ 14 #[false, false, false, false, false, false, false, false, false, false, false, false, false, false] _ wr.drew
          have hS0 : Below wr.heap.size wr wr.drew := HWX.out.drew
          refine takeR (fuel := 13) (i := 0) (v := .int .i64 0) rfl (by kernel_rfl) (by kernel_rfl) (by kernel_rfl) (fun _ _ _ h => h) (Or.inl ⟨rfl, fun W hW => by go_simp⟩) hS0 ?_
          simp only [Act.put, List.setIfInBounds_toArray, List.set_cons_zero, List.set_cons_succ]
          refine takeR (fuel := 12) (i := 1) (v := .bool false) rfl (by kernel_rfl) (by kernel_rfl) (by kernel_rfl) (fun _ _ _ h => h) (Or.inl ⟨rfl, fun W hW => by go_simp⟩) hS0 ?_
          simp only [Act.put, List.setIfInBounds_toArray, List.set_cons_zero, List.set_cons_succ]
          refine takeR (fuel := 11) (i := 2) (v := .bool false) rfl (by kernel_rfl) (by kernel_rfl) (by kernel_rfl) (fun _ _ _ h => h) (Or.inl ⟨rfl, fun W hW => by go_simp⟩) hS0 ?_
          simp only [Act.put, List.setIfInBounds_toArray, List.set_cons_zero, List.set_cons_succ]
          refine takeR (fuel := 10) (i := 3) (v := undef) rfl (by kernel_rfl) (by kernel_rfl) (by kernel_rfl) (fun _ _ _ h => h) (Or.inr ⟨rfl, rfl⟩) hS0 ?_
          simp only [Act.put, List.setIfInBounds_toArray, List.set_cons_zero, List.set_cons_succ]
          refine takeR (fuel := 9) (i := 4) (v := undef) rfl (by kernel_rfl) (by kernel_rfl) (by kernel_rfl) (fun _ _ _ h => h) (Or.inr ⟨rfl, rfl⟩) hS0 ?_
          simp only [Act.put, List.setIfInBounds_toArray, List.set_cons_zero, List.set_cons_succ]
          refine takeR (fuel := 8) (i := 5) (v := undef) rfl (by kernel_rfl) (by kernel_rfl) (by kernel_rfl) (fun _ _ _ h => h) (Or.inr ⟨rfl, rfl⟩) hS0 ?_
          simp only [Act.put, List.setIfInBounds_toArray, List.set_cons_zero, List.set_cons_succ]
          refine takeR (fuel := 7) (i := 6) (v := undef) rfl (by kernel_rfl) (by kernel_rfl) (by kernel_rfl) (fun _ _ _ h => h) (Or.inr ⟨rfl, rfl⟩) hS0 ?_
          simp only [Act.put, List.setIfInBounds_toArray, List.set_cons_zero, List.set_cons_succ]
          refine takeR (fuel := 6) (i := 7) (v := undef) rfl (by kernel_rfl) (by kernel_rfl) (by kernel_rfl) (fun _ _ _ h => h) (Or.inr ⟨rfl, rfl⟩) hS0 ?_
          simp only [Act.put, List.setIfInBounds_toArray, List.set_cons_zero, List.set_cons_succ]
          refine takeR (fuel := 5) (i := 8) (v := undef) rfl (by kernel_rfl) (by kernel_rfl) (by kernel_rfl) (fun _ _ _ h => h) (Or.inr ⟨rfl, rfl⟩) hS0 ?_
          simp only [Act.put, List.setIfInBounds_toArray, List.set_cons_zero, List.set_cons_succ]
          refine takeR (fuel := 4) (i := 9) (v := undef) rfl (by kernel_rfl) (by kernel_rfl) (by kernel_rfl) (fun _ _ _ h => h) (Or.inr ⟨rfl, rfl⟩) hS0 ?_
          simp only [Act.put, List.setIfInBounds_toArray, List.set_cons_zero, List.set_cons_succ]
          refine takeR (fuel := 3) (i := 10) (v := undef) rfl (by kernel_rfl) (by kernel_rfl) (by kernel_rfl) (fun _ _ _ h => h) (Or.inr ⟨rfl, rfl⟩) hS0 ?_
          simp only [Act.put, List.setIfInBounds_toArray, List.set_cons_zero, List.set_cons_succ]
          refine takeR (fuel := 2) (i := 11) (v := undef) rfl (by kernel_rfl) (by kernel_rfl) (by kernel_rfl) (fun _ _ _ h => h) (Or.inr ⟨rfl, rfl⟩) hS0 ?_
          simp only [Act.put, List.setIfInBounds_toArray, List.set_cons_zero, List.set_cons_succ]
          refine takeR (fuel := 1) (i := 12) (v := undef) rfl (by kernel_rfl) (by kernel_rfl) (by kernel_rfl) (fun _ _ _ h => h) (Or.inr ⟨rfl, rfl⟩) hS0 ?_
          simp only [Act.put, List.setIfInBounds_toArray, List.set_cons_zero, List.set_cons_succ]
          refine takeR (fuel := 0) (i := 13) (v := .bool false) rfl (by kernel_rfl) (by kernel_rfl) (by kernel_rfl) (fun _ _ _ h => h) (Or.inl ⟨rfl, fun W hW => by go_simp⟩) hS0 ?_
          simp only [Act.put, List.setIfInBounds_toArray, List.set_cons_zero, List.set_cons_succ]
          refine wpAnyH_done (by kernel_rfl) ?_ _
          rw [HWE.out]
          go_wp2_with (first | (at_builtin; refine Lib.wpList_append_run _ rfl _ _ 40 40 rfl _ _ rfl rfl _ w1 r1 ?_; clear r1) | (at_builtin; refine Lib.wpList_append_run _ rfl _ _ 40 40 rfl _ _ rfl rfl _ w2 r2 ?_; clear r2) | (at_builtin; refine Lib.wpList_append_run _ rfl _ _ 40 40 rfl _ _ rfl rfl _ w3 r4 ?_; clear r4))
          go_roundw
          case rel => exact ⟨k + 1, v3, M', Nat.succ_le_of_lt hkn, rfl, by first | (simp; done) | (simp; exact num_q3 hkn HL.out), HZ.out⟩
          case measure => first | exact num_q5 hkn HL.out | (simp [intOf]; omega)
      · subst hv
        have hrM : ∀ W, Below wr.heap.size wr W → Rw 9 its W (some ⟨g, 0, none⟩) M := fun W hb => by
          obtain ⟨a', cap', e, _, hr⟩ := own_rw its_len (own_below HR.out.o hb) rfl
          injection e with e1 e2 e3
          rw [e1]
          exact hr
        have HRM := hid_in hrM
        have HPUT : Hid (∀ wx n, n ≤ M.length → n = SS.nn ltI L[k] M M.length → Below wr.heap.size wr wx → ∃ v1 w1 v2 w2, (Builtin.append_ #[40, 40] 40 #[.slice (some ⟨wx.heap.size, 0, none⟩) 0 0, .slice (some ⟨g, 0, none⟩) n c2]).run Try.prog (wx.alloc (.cells #[] 87)) = .ok v1 w1 ∧
            (∀ j, j < 9 → w1.cell? ⟨blk, off + k * 9 + j, none⟩ = (its L[k])[j]?) ∧
            (Builtin.append_ #[40, 40] 40 #[v1, .slice (some ⟨w1.heap.size, 0, none⟩) 1 1]).run Try.prog (w1.alloc (.cells (its L[k]).toArray 87)) = .ok v2 w2 ∧
            (∀ a' cap', (a' = some ⟨g, 0 + n * 9, none⟩ ∨ n = M.length) → ∃ v3 w3, (Builtin.append_ #[40, 40] 40 #[v2, .slice a' (M.length - n) cap']).run Try.prog w2 = .ok v3 w3 ∧ ∃ M', Hid (RkR L w w3 (k + 1) v3 M'))) := fun wx n hn hnn hb => by
          obtain ⟨v1, w1, v2, w2, r1, b1, r2, r3⟩ := rk_put (wx := wx) hMl L[k] n c2 (fun W hbW => (hrM W (hb.trans (hbW.mono hb.size))).take) hn
          refine ⟨v1, w1, v2, w2, r1, HX9.out w1 (hb.trans (b1.mono hb.size)), r2, fun a' cap' ha => ?_⟩
          obtain ⟨v3, w3, r4, HZ3⟩ := r3 a' cap' (fun W hbW => by
            rcases ha with rfl | rfl
            · exact (hrM W (hb.trans (hbW.mono hb.size))).drop
            · rw [List.drop_eq_nil_of_le (Nat.le_refl _)]; exact Rw.nil)
          obtain ⟨M', HZ⟩ := HNX.out wx w3 v3 n hb hnn HZ3
          exact ⟨v3, w3, r4, M', HZ⟩
        have LY : Hid (∀ m, m < M.length → ∀ W, Below wr.heap.size wr W → (Instr.loadAt 87 (.pointer (some ⟨g, 0 + m * 9, none⟩))).run Try.prog W = .ok (.agg (its M[m]!).toArray) W) := fun m hm W hb => by
          obtain ⟨b2, o2, e, hl2, hc⟩ := hrM W hb (by omega)
          injection e with e
          injection e with e1 e2 e3
          subst e1 e2
          rw [lget M m hm]
          exact row87 (hc m hm)
        have HCMP0 : Hid (∀ y W, Below wr.heap.size wr W → Calls Try.prog 46 #[.agg (its L[k]).toArray, .agg (its y).toArray] W fun e w' => e = .returned (.bool (ltI L[k] y)) ∧ Hid (Below wr.heap.size wr w')) := fun y W hb => (rahead L[k] y W).mono fun e w' hh => ⟨hh.1, hb.trans (hh.2.mono hb.size)⟩
        have HNN : Hid (∀ n, SS.nn ltI L[k] M n = SS.nn ltI L[k] M M.length → (n = 0 → n = SS.nn ltI L[k] M M.length) ∧ (∀ m, n = m + 1 → (ltI L[k] M[m]! = true → SS.nn ltI L[k] M m = SS.nn ltI L[k] M M.length) ∧ (ltI L[k] M[m]! = false → n = SS.nn ltI L[k] M M.length))) := fun n hn => by
          refine ⟨fun e => by rw [← hn, e]; rfl, fun m e => ⟨fun ht => ?_, fun hf => ?_⟩⟩
          · rw [← hn, e, nn_step, if_pos ht]
          · rw [← hn, e, nn_step, if_neg (by rw [hf]; decide)]
        have HNc2 : Hid (M.length ≤ c2) := hNc
        clear hlz
        have HML := hid_in hMl
        clear HR HNX hcs hMl hrM HX9 hgc hmx hsz htk hBg hNc HRM
        obtain ⟨x, hx⟩ : ∃ x, L[k] = x := ⟨_, rfl⟩
        simp only [hx] at *
        clear hx
        obtain ⟨l, q, ⟨ai, a1, a2, am, ac⟩, p, c⟩ := x
        generalize hxx : (⟨l, q, ⟨ai, a1, a2, am, ac⟩, p, c⟩ : It) = xx at HNN HCMP0 HPUT LX
        go_upto_region 5 with fail
        go_wp2_with fail
        obtain ⟨wo, hwo⟩ : ∃ wo, wo = wr := ⟨wr, rfl⟩
        subst hwo
        go_loopw [5] (fun s wx => ∃ n : Nat, s = .int .i64 n ∧ Hid (n ≤ M.length ∧ SS.nn ltI xx M n = SS.nn ltI xx M M.length ∧ Below wo.heap.size wo wx)) (fun s _ => (Lib.intOf s).toNat)
        case atStart => exact ⟨M.length, rfl, Nat.le_refl _, rfl, Below.refl _ _⟩
        case round =>
          obtain ⟨n, rfl, HS⟩ := hrel
          by_cases hn0 : n = 0
          · subst hn0
            have HNZ := hid_in ((HNN.out 0 HS.out.2.1).1 rfl)
            have HWX := hid_in HS.out.2.2
            clear HS HNN
            go_upto_region 6 with fail
            refine wp_region_held (S := fun W => Below wo.heap.size wo W) (by kernel_rfl) ?_
            change wpAnyH _ _ _ _ _ 14 #[false, false, false, false, false, false, false, false, false, false, false, false, false, false] _ wr.drew
            have hS0 : Below wo.heap.size wo wr.drew := HWX.out.drew
            refine takeR (fuel := 13) (i := 0) (v := .int .i64 0) rfl (by kernel_rfl) (by kernel_rfl) (by kernel_rfl) (fun _ _ _ h => h) (Or.inl ⟨rfl, fun W hW => by go_simp⟩) hS0 ?_
            simp only [Act.put, List.setIfInBounds_toArray, List.set_cons_zero, List.set_cons_succ]
            refine takeR (fuel := 12) (i := 1) (v := .bool false) rfl (by kernel_rfl) (by kernel_rfl) (by kernel_rfl) (fun _ _ _ h => h) (Or.inl ⟨rfl, fun W hW => by go_simp⟩) hS0 ?_
            simp only [Act.put, List.setIfInBounds_toArray, List.set_cons_zero, List.set_cons_succ]
            refine takeR (fuel := 11) (i := 2) (v := .bool false) rfl (by kernel_rfl) (by kernel_rfl) (by kernel_rfl) (fun _ _ _ h => h) (Or.inl ⟨rfl, fun W hW => by go_simp⟩) hS0 ?_
            simp only [Act.put, List.setIfInBounds_toArray, List.set_cons_zero, List.set_cons_succ]
            refine takeR (fuel := 10) (i := 3) (v := undef) rfl (by kernel_rfl) (by kernel_rfl) (by kernel_rfl) (fun _ _ _ h => h) (Or.inr ⟨rfl, rfl⟩) hS0 ?_
            simp only [Act.put, List.setIfInBounds_toArray, List.set_cons_zero, List.set_cons_succ]
            refine takeR (fuel := 9) (i := 4) (v := undef) rfl (by kernel_rfl) (by kernel_rfl) (by kernel_rfl) (fun _ _ _ h => h) (Or.inr ⟨rfl, rfl⟩) hS0 ?_
            simp only [Act.put, List.setIfInBounds_toArray, List.set_cons_zero, List.set_cons_succ]
            refine takeR (fuel := 8) (i := 5) (v := undef) rfl (by kernel_rfl) (by kernel_rfl) (by kernel_rfl) (fun _ _ _ h => h) (Or.inr ⟨rfl, rfl⟩) hS0 ?_
            simp only [Act.put, List.setIfInBounds_toArray, List.set_cons_zero, List.set_cons_succ]
            refine takeR (fuel := 7) (i := 6) (v := undef) rfl (by kernel_rfl) (by kernel_rfl) (by kernel_rfl) (fun _ _ _ h => h) (Or.inr ⟨rfl, rfl⟩) hS0 ?_
            simp only [Act.put, List.setIfInBounds_toArray, List.set_cons_zero, List.set_cons_succ]
            refine takeR (fuel := 6) (i := 7) (v := undef) rfl (by kernel_rfl) (by kernel_rfl) (by kernel_rfl) (fun _ _ _ h => h) (Or.inr ⟨rfl, rfl⟩) hS0 ?_
            simp only [Act.put, List.setIfInBounds_toArray, List.set_cons_zero, List.set_cons_succ]
            refine takeR (fuel := 5) (i := 8) (v := undef) rfl (by kernel_rfl) (by kernel_rfl) (by kernel_rfl) (fun _ _ _ h => h) (Or.inr ⟨rfl, rfl⟩) hS0 ?_
            simp only [Act.put, List.setIfInBounds_toArray, List.set_cons_zero, List.set_cons_succ]
            refine takeR (fuel := 4) (i := 9) (v := undef) rfl (by kernel_rfl) (by kernel_rfl) (by kernel_rfl) (fun _ _ _ h => h) (Or.inr ⟨rfl, rfl⟩) hS0 ?_
            simp only [Act.put, List.setIfInBounds_toArray, List.set_cons_zero, List.set_cons_succ]
            refine takeR (fuel := 3) (i := 10) (v := undef) rfl (by kernel_rfl) (by kernel_rfl) (by kernel_rfl) (fun _ _ _ h => h) (Or.inr ⟨rfl, rfl⟩) hS0 ?_
            simp only [Act.put, List.setIfInBounds_toArray, List.set_cons_zero, List.set_cons_succ]
            refine takeR (fuel := 2) (i := 11) (v := undef) rfl (by kernel_rfl) (by kernel_rfl) (by kernel_rfl) (fun _ _ _ h => h) (Or.inr ⟨rfl, rfl⟩) hS0 ?_
            simp only [Act.put, List.setIfInBounds_toArray, List.set_cons_zero, List.set_cons_succ]
            refine takeR (fuel := 1) (i := 12) (v := undef) rfl (by kernel_rfl) (by kernel_rfl) (by kernel_rfl) (fun _ _ _ h => h) (Or.inr ⟨rfl, rfl⟩) hS0 ?_
            simp only [Act.put, List.setIfInBounds_toArray, List.set_cons_zero, List.set_cons_succ]
            refine takeR (fuel := 0) (i := 13) (v := .bool false) rfl (by kernel_rfl) (by kernel_rfl) (by kernel_rfl) (fun _ _ _ h => h) (Or.inl ⟨rfl, fun W hW => by go_simp⟩) hS0 ?_
            simp only [Act.put, List.setIfInBounds_toArray, List.set_cons_zero, List.set_cons_succ]
            refine wpAnyH_done (by kernel_rfl) ?_ _
            obtain ⟨wz, hwz⟩ : ∃ wz, wr.drew = wz := ⟨_, rfl⟩
            have HWZ : Hid (Below wo.heap.size wo wz) := by rw [← hwz]; exact HWX.out.drew
            rw [hwz]
            clear hwz HWX
            by_cases hc : 0 < c2
            · have hcz : (0 : Int) < (c2 : Int) := Int.ofNat_lt.2 hc
              obtain ⟨v1, w1, v2, w2, r1, hx9, r2, r3⟩ := HPUT.out wz 0 (Nat.zero_le _) HNZ.out HWZ.out
              obtain ⟨v3, w3, r4, M', HZ⟩ := r3 (some ⟨g, 0 + 0 * 9, none⟩) c2 (.inl rfl)
              rw [← hxx] at hx9 r2
              simp only [its] at hx9 r2
              have e0 : w1.cell? ⟨blk, off + k * 9, none⟩ = some (.string l) := hx9 0 (by omega)
              have e1 : w1.cell? ⟨blk, off + k * 9 + 1, none⟩ = some (.int .i64 q) := hx9 1 (by omega)
              have e2 : w1.cell? ⟨blk, off + k * 9 + 2, none⟩ = some (.string ai) := hx9 2 (by omega)
              have e3 : w1.cell? ⟨blk, off + k * 9 + 3, none⟩ = some (.int .i64 a1) := hx9 3 (by omega)
              have e4 : w1.cell? ⟨blk, off + k * 9 + 4, none⟩ = some (.int .i64 a2) := hx9 4 (by omega)
              have e5 : w1.cell? ⟨blk, off + k * 9 + 5, none⟩ = some (.int .i64 am) := hx9 5 (by omega)
              have e6 : w1.cell? ⟨blk, off + k * 9 + 6, none⟩ = some (.string ac) := hx9 6 (by omega)
              have e7 : w1.cell? ⟨blk, off + k * 9 + 7, none⟩ = some (.int .i64 p) := hx9 7 (by omega)
              have e8 : w1.cell? ⟨blk, off + k * 9 + 8, none⟩ = some (.int .i64 c) := hx9 8 (by omega)
              simp only [Nat.zero_mul, Nat.add_zero, Nat.sub_zero] at r4
              clear r3 hx9 HPUT hxx LX
              go_wp2_with (first | (at_builtin; refine Lib.wpList_append_run _ rfl _ _ 40 40 rfl _ _ rfl rfl _ w1 r1 ?_; clear r1) | (at_builtin; refine Lib.wpList_append_run _ rfl _ _ 40 40 rfl _ _ rfl rfl _ w2 r2 ?_; clear r2) | (at_builtin; refine Lib.wpList_append_run _ rfl _ _ 40 40 rfl _ _ rfl rfl _ w3 r4 ?_; clear r4))
              go_roundw
              case rel => exact ⟨k + 1, v3, M', Nat.succ_le_of_lt hkn, rfl, by first | (simp; done) | (simp; exact num_q3 hkn HL.out), HZ.out⟩
              case measure => first | exact num_q5 hkn HL.out | (simp [intOf]; omega)
            · have hcz : ¬ (0 : Int) < (c2 : Int) := fun h => hc (Int.ofNat_lt.1 h)
              have hc0 : c2 = 0 := by omega
              have hM0 : 0 = M.length := by have := HNc2.out; omega
              have HM0 := hid_in hM0
              clear hM0
              clear hc hcz
              subst hc0
              obtain ⟨v1, w1, v2, w2, r1, hx9, r2, r3⟩ := HPUT.out wz 0 (Nat.zero_le _) HNZ.out HWZ.out
              obtain ⟨v3, w3, r4, M', HZ⟩ := r3 (some ⟨g, 0, none⟩) 0 (.inr HM0.out)
              rw [← hxx] at hx9 r2
              simp only [its] at hx9 r2
              have e0 : w1.cell? ⟨blk, off + k * 9, none⟩ = some (.string l) := hx9 0 (by omega)
              have e1 : w1.cell? ⟨blk, off + k * 9 + 1, none⟩ = some (.int .i64 q) := hx9 1 (by omega)
              have e2 : w1.cell? ⟨blk, off + k * 9 + 2, none⟩ = some (.string ai) := hx9 2 (by omega)
              have e3 : w1.cell? ⟨blk, off + k * 9 + 3, none⟩ = some (.int .i64 a1) := hx9 3 (by omega)
              have e4 : w1.cell? ⟨blk, off + k * 9 + 4, none⟩ = some (.int .i64 a2) := hx9 4 (by omega)
              have e5 : w1.cell? ⟨blk, off + k * 9 + 5, none⟩ = some (.int .i64 am) := hx9 5 (by omega)
              have e6 : w1.cell? ⟨blk, off + k * 9 + 6, none⟩ = some (.string ac) := hx9 6 (by omega)
              have e7 : w1.cell? ⟨blk, off + k * 9 + 7, none⟩ = some (.int .i64 p) := hx9 7 (by omega)
              have e8 : w1.cell? ⟨blk, off + k * 9 + 8, none⟩ = some (.int .i64 c) := hx9 8 (by omega)
              simp only [Nat.zero_mul, Nat.add_zero, Nat.sub_zero] at r4
              clear r3 hx9 HPUT hxx LX
              go_wp2_with (first | (at_builtin; refine Lib.wpList_append_run _ rfl _ _ 40 40 rfl _ _ rfl rfl _ w1 r1 ?_; clear r1) | (at_builtin; refine Lib.wpList_append_run _ rfl _ _ 40 40 rfl _ _ rfl rfl _ w2 r2 ?_; clear r2) | (at_builtin; refine Lib.wpList_append_run _ rfl _ _ 40 40 rfl _ _ rfl rfl _ w3 r4 ?_; clear r4))
              go_roundw
              case rel => exact ⟨k + 1, v3, M', Nat.succ_le_of_lt hkn, rfl, by first | (simp; done) | (simp; exact num_q3 hkn HL.out), HZ.out⟩
              case measure => first | exact num_q5 hkn HL.out | (simp [intOf]; omega)
          · obtain ⟨m, hn⟩ : ∃ m, n = m + 1 := ⟨n - 1, num_q1 hn0⟩
            obtain ⟨hnz, hnm, hmM, hmw, hmv⟩ := num_q2 hn HS.out.1 HML.out
            have HWX := hid_in HS.out.2.2
            have HCMP := hid_in (HCMP0.out M[m]!)
            obtain ⟨hN0, hN1⟩ := (HNN.out n HS.out.2.1).2 m hn
            have hnle : n ≤ M.length := HS.out.1
            have hmMz : (m : Int) < (M.length : Int) := Int.ofNat_lt.2 hmM
            have HmM := hid_in hmM
            have hnp : 0 < n := Nat.pos_of_ne_zero hn0
            have HWn : Hid (n ≤ M.length) := hnle
            have LYm := hid_in (LY.out m hmM)
            clear LY HCMP0
            generalize M[m]! = y at *
            cases ht : ltI xx y with
            | true =>
              rw [ht] at HCMP
              have HZ : Hid (m ≤ M.length ∧ SS.nn ltI xx M m = SS.nn ltI xx M M.length) := ⟨Nat.le_of_lt hmM, hN0 ht⟩
              have HMs : Hid (m < n) := by rw [hn]; exact Nat.lt_succ_self m
              clear HS HNN hN0 hN1 ht hnle hn hn0 hmM
              go_upto_region 6 with fail
              refine wp_region_held (S := fun W => Below wo.heap.size wo W) (by kernel_rfl) ?_
              change wpAnyH _ _ _ _ _ 14 #[false, false, false, false, false, false, false, false, false, false, false, false, false, false] _ wr.drew
              have hS0 : Below wo.heap.size wo wr.drew := HWX.out.drew
              refine takeR (fuel := 13) (i := 0) (v := .int .i64 n) rfl (by kernel_rfl) (by kernel_rfl) (by kernel_rfl) (fun _ _ _ h => h) (Or.inl ⟨rfl, fun W hW => by go_simp⟩) hS0 ?_
              simp only [Act.put, List.setIfInBounds_toArray, List.set_cons_zero, List.set_cons_succ]
              refine takeR (fuel := 12) (i := 1) (v := .bool true) rfl (by kernel_rfl) (by kernel_rfl) (by kernel_rfl) (fun _ _ _ h => h) (Or.inl ⟨rfl, fun W hW => by go_simp⟩) hS0 ?_
              simp only [Act.put, List.setIfInBounds_toArray, List.set_cons_zero, List.set_cons_succ]
              refine takeR (fuel := 11) (i := 2) (v := .bool true) rfl (by kernel_rfl) (by kernel_rfl) (by kernel_rfl) (fun _ _ _ h => h) (Or.inl ⟨rfl, fun W hW => by go_simp⟩) hS0 ?_
              simp only [Act.put, List.setIfInBounds_toArray, List.set_cons_zero, List.set_cons_succ]
              refine takeR (fuel := 10) (i := 3) (v := .slice (some ⟨blk, off, none⟩) L.length cap) rfl (by kernel_rfl) (by kernel_rfl) (by kernel_rfl) (fun _ _ _ h => h) (Or.inl ⟨rfl, fun W hW => by go_simp⟩) hS0 ?_
              simp only [Act.put, List.setIfInBounds_toArray, List.set_cons_zero, List.set_cons_succ]
              refine takeR (fuel := 9) (i := 4) (v := .int .i64 k) rfl (by kernel_rfl) (by kernel_rfl) (by kernel_rfl) (fun _ _ _ h => h) (Or.inl ⟨rfl, fun W hW => by go_simp⟩) hS0 ?_
              simp only [Act.put, List.setIfInBounds_toArray, List.set_cons_zero, List.set_cons_succ]
              refine takeR (fuel := 8) (i := 5) (v := .pointer (some ⟨blk, off + k * 9, none⟩)) rfl (by kernel_rfl) (by kernel_rfl) (by kernel_rfl) (fun _ _ _ h => h) (Or.inl ⟨rfl, fun W hW => by go_simp⟩) hS0 ?_
              simp only [Act.put, List.setIfInBounds_toArray, List.set_cons_zero, List.set_cons_succ]
              refine takeR (fuel := 7) (i := 6) (v := .agg (its xx).toArray) rfl (by kernel_rfl) (by kernel_rfl) (by kernel_rfl) (fun _ _ _ h => h) (Or.inl ⟨rfl, fun W hW => exl _ _ _ _ rfl (.pointer (some ⟨blk, off + k * 9, none⟩)) _ rfl (LX.out W hW)⟩) hS0 ?_
              simp only [Act.put, List.setIfInBounds_toArray, List.set_cons_zero, List.set_cons_succ]
              refine takeR (fuel := 6) (i := 7) (v := .slice (some ⟨g, 0, none⟩) M.length c2) rfl (by kernel_rfl) (by kernel_rfl) (by kernel_rfl) (fun _ _ _ h => h) (Or.inl ⟨rfl, fun W hW => by go_simp⟩) hS0 ?_
              simp only [Act.put, List.setIfInBounds_toArray, List.set_cons_zero, List.set_cons_succ]
              refine takeR (fuel := 5) (i := 8) (v := .int .i64 n) rfl (by kernel_rfl) (by kernel_rfl) (by kernel_rfl) (fun _ _ _ h => h) (Or.inl ⟨rfl, fun W hW => by go_simp⟩) hS0 ?_
              simp only [Act.put, List.setIfInBounds_toArray, List.set_cons_zero, List.set_cons_succ]
              refine takeR (fuel := 4) (i := 9) (v := .int .i64 m) rfl (by kernel_rfl) (by kernel_rfl) (by kernel_rfl) (fun _ _ _ h => h) (Or.inl ⟨rfl, fun W hW => by go_simp⟩) hS0 ?_
              simp only [Act.put, List.setIfInBounds_toArray, List.set_cons_zero, List.set_cons_succ]
              refine takeR (fuel := 3) (i := 10) (v := .pointer (some ⟨g, 0 + m * 9, none⟩)) rfl (by kernel_rfl) (by kernel_rfl) (by kernel_rfl) (fun _ _ _ h => h) (Or.inl ⟨rfl, fun W hW => by go_simp⟩) hS0 ?_
              simp only [Act.put, List.setIfInBounds_toArray, List.set_cons_zero, List.set_cons_succ]
              refine takeR (fuel := 2) (i := 11) (v := .agg (its y).toArray) rfl (by kernel_rfl) (by kernel_rfl) (by kernel_rfl) (fun _ _ _ h => h) (Or.inl ⟨rfl, fun W hW => exl _ _ _ _ rfl (.pointer (some ⟨g, 0 + m * 9, none⟩)) _ rfl (LYm.out W hW)⟩) hS0 ?_
              simp only [Act.put, List.setIfInBounds_toArray, List.set_cons_zero, List.set_cons_succ]
              refine consR (fuel := 1) (i := 12) rfl (by kernel_rfl) (fun K hK => ?_)
              rw [if_pos (by rfl)]
              go_simp
              refine (HCMP.out _ hS0).mono ?_
              rintro x v1 ⟨rfl, HV1⟩
              refine hK.out _ _ HV1.out (fun hS1 => ?_)
              clear hK
              try simp only [Act.put, List.setIfInBounds_toArray, List.set_cons_zero, List.set_cons_succ]
              refine takeR (fuel := 0) (i := 13) (v := .bool true) rfl (by kernel_rfl) (by kernel_rfl) (by kernel_rfl) (fun _ _ _ h => h) (Or.inl ⟨rfl, fun W hW => by go_simp⟩) hS1 ?_
              simp only [Act.put, List.setIfInBounds_toArray, List.set_cons_zero, List.set_cons_succ]
              refine wpAnyH_done (by kernel_rfl) ?_ _
              go_wp2_with fail
              go_roundw
              case rel => exact ⟨m, by first | rfl | exact congrArg _ hmw, HZ.out.1, HZ.out.2, HV1.out⟩
              case measure => first | exact HMs.out | (rw [hmw]; exact HMs.out)
            | false =>
              rw [ht] at HCMP
              have HNZ := hid_in (hN1 ht)
              have HNL := hid_in hnle
              clear HS HNN hN0 hN1 ht hn hn0 hmM hnle
              go_upto_region 6 with fail
              refine wp_region_held (S := fun W => Below wo.heap.size wo W) (by kernel_rfl) ?_
              change wpAnyH _ _ _ _ _ 14 #[false, false, false, false, false, false, false, false, false, false, false, false, false, false] _ wr.drew
              have hS0 : Below wo.heap.size wo wr.drew := HWX.out.drew
              refine takeR (fuel := 13) (i := 0) (v := .int .i64 n) rfl (by kernel_rfl) (by kernel_rfl) (by kernel_rfl) (fun _ _ _ h => h) (Or.inl ⟨rfl, fun W hW => by go_simp⟩) hS0 ?_
              simp only [Act.put, List.setIfInBounds_toArray, List.set_cons_zero, List.set_cons_succ]
              refine takeR (fuel := 12) (i := 1) (v := .bool true) rfl (by kernel_rfl) (by kernel_rfl) (by kernel_rfl) (fun _ _ _ h => h) (Or.inl ⟨rfl, fun W hW => by go_simp⟩) hS0 ?_
              simp only [Act.put, List.setIfInBounds_toArray, List.set_cons_zero, List.set_cons_succ]
              refine takeR (fuel := 11) (i := 2) (v := .bool true) rfl (by kernel_rfl) (by kernel_rfl) (by kernel_rfl) (fun _ _ _ h => h) (Or.inl ⟨rfl, fun W hW => by go_simp⟩) hS0 ?_
              simp only [Act.put, List.setIfInBounds_toArray, List.set_cons_zero, List.set_cons_succ]
              refine takeR (fuel := 10) (i := 3) (v := .slice (some ⟨blk, off, none⟩) L.length cap) rfl (by kernel_rfl) (by kernel_rfl) (by kernel_rfl) (fun _ _ _ h => h) (Or.inl ⟨rfl, fun W hW => by go_simp⟩) hS0 ?_
              simp only [Act.put, List.setIfInBounds_toArray, List.set_cons_zero, List.set_cons_succ]
              refine takeR (fuel := 9) (i := 4) (v := .int .i64 k) rfl (by kernel_rfl) (by kernel_rfl) (by kernel_rfl) (fun _ _ _ h => h) (Or.inl ⟨rfl, fun W hW => by go_simp⟩) hS0 ?_
              simp only [Act.put, List.setIfInBounds_toArray, List.set_cons_zero, List.set_cons_succ]
              refine takeR (fuel := 8) (i := 5) (v := .pointer (some ⟨blk, off + k * 9, none⟩)) rfl (by kernel_rfl) (by kernel_rfl) (by kernel_rfl) (fun _ _ _ h => h) (Or.inl ⟨rfl, fun W hW => by go_simp⟩) hS0 ?_
              simp only [Act.put, List.setIfInBounds_toArray, List.set_cons_zero, List.set_cons_succ]
              refine takeR (fuel := 7) (i := 6) (v := .agg (its xx).toArray) rfl (by kernel_rfl) (by kernel_rfl) (by kernel_rfl) (fun _ _ _ h => h) (Or.inl ⟨rfl, fun W hW => exl _ _ _ _ rfl (.pointer (some ⟨blk, off + k * 9, none⟩)) _ rfl (LX.out W hW)⟩) hS0 ?_
              simp only [Act.put, List.setIfInBounds_toArray, List.set_cons_zero, List.set_cons_succ]
              refine takeR (fuel := 6) (i := 7) (v := .slice (some ⟨g, 0, none⟩) M.length c2) rfl (by kernel_rfl) (by kernel_rfl) (by kernel_rfl) (fun _ _ _ h => h) (Or.inl ⟨rfl, fun W hW => by go_simp⟩) hS0 ?_
              simp only [Act.put, List.setIfInBounds_toArray, List.set_cons_zero, List.set_cons_succ]
              refine takeR (fuel := 5) (i := 8) (v := .int .i64 n) rfl (by kernel_rfl) (by kernel_rfl) (by kernel_rfl) (fun _ _ _ h => h) (Or.inl ⟨rfl, fun W hW => by go_simp⟩) hS0 ?_
              simp only [Act.put, List.setIfInBounds_toArray, List.set_cons_zero, List.set_cons_succ]
              refine takeR (fuel := 4) (i := 9) (v := .int .i64 m) rfl (by kernel_rfl) (by kernel_rfl) (by kernel_rfl) (fun _ _ _ h => h) (Or.inl ⟨rfl, fun W hW => by go_simp⟩) hS0 ?_
              simp only [Act.put, List.setIfInBounds_toArray, List.set_cons_zero, List.set_cons_succ]
              refine takeR (fuel := 3) (i := 10) (v := .pointer (some ⟨g, 0 + m * 9, none⟩)) rfl (by kernel_rfl) (by kernel_rfl) (by kernel_rfl) (fun _ _ _ h => h) (Or.inl ⟨rfl, fun W hW => by go_simp⟩) hS0 ?_
              simp only [Act.put, List.setIfInBounds_toArray, List.set_cons_zero, List.set_cons_succ]
              refine takeR (fuel := 2) (i := 11) (v := .agg (its y).toArray) rfl (by kernel_rfl) (by kernel_rfl) (by kernel_rfl) (fun _ _ _ h => h) (Or.inl ⟨rfl, fun W hW => exl _ _ _ _ rfl (.pointer (some ⟨g, 0 + m * 9, none⟩)) _ rfl (LYm.out W hW)⟩) hS0 ?_
              simp only [Act.put, List.setIfInBounds_toArray, List.set_cons_zero, List.set_cons_succ]
              refine consR (fuel := 1) (i := 12) rfl (by kernel_rfl) (fun K hK => ?_)
              rw [if_pos (by rfl)]
              go_simp
              refine (HCMP.out _ hS0).mono ?_
              rintro x v1 ⟨rfl, HV1⟩
              refine hK.out _ _ HV1.out (fun hS1 => ?_)
              clear hK
              try simp only [Act.put, List.setIfInBounds_toArray, List.set_cons_zero, List.set_cons_succ]
              refine takeR (fuel := 0) (i := 13) (v := .bool false) rfl (by kernel_rfl) (by kernel_rfl) (by kernel_rfl) (fun _ _ _ h => h) (Or.inl ⟨rfl, fun W hW => by go_simp⟩) hS1 ?_
              simp only [Act.put, List.setIfInBounds_toArray, List.set_cons_zero, List.set_cons_succ]
              refine wpAnyH_done (by kernel_rfl) ?_ _
              obtain ⟨wz, hwz⟩ : ∃ wz, v1 = wz := ⟨_, rfl⟩
              have HWZ : Hid (Below wo.heap.size wo wz) := by rw [← hwz]; exact HV1.out
              rw [hwz]
              clear hwz HWX HV1 hS1 hS0 HCMP hmMz hmw hmv hnm
              have hnc : n ≤ c2 := Nat.le_trans HNL.out HNc2.out
              have hncz : (n : Int) ≤ (c2 : Int) := Int.ofNat_le.2 hnc
              have hnlz : (n : Int) ≤ (M.length : Int) := Int.ofNat_le.2 HNL.out
              by_cases hc : n < c2
              · have hcz : (n : Int) < (c2 : Int) := Int.ofNat_lt.2 hc
                obtain ⟨v1, w1, v2, w2, r1, hx9, r2, r3⟩ := HPUT.out wz n HNL.out HNZ.out HWZ.out
                obtain ⟨v3, w3, r4, M', HZ⟩ := r3 (some ⟨g, 0 + n * 9, none⟩) (c2 - n) (.inl rfl)
                simp only [Nat.zero_add] at r4
                rw [← hxx] at hx9 r2
                simp only [its] at hx9 r2
                have e0 : w1.cell? ⟨blk, off + k * 9, none⟩ = some (.string l) := hx9 0 (by decide)
                have e1 : w1.cell? ⟨blk, off + k * 9 + 1, none⟩ = some (.int .i64 q) := hx9 1 (by decide)
                have e2 : w1.cell? ⟨blk, off + k * 9 + 2, none⟩ = some (.string ai) := hx9 2 (by decide)
                have e3 : w1.cell? ⟨blk, off + k * 9 + 3, none⟩ = some (.int .i64 a1) := hx9 3 (by decide)
                have e4 : w1.cell? ⟨blk, off + k * 9 + 4, none⟩ = some (.int .i64 a2) := hx9 4 (by decide)
                have e5 : w1.cell? ⟨blk, off + k * 9 + 5, none⟩ = some (.int .i64 am) := hx9 5 (by decide)
                have e6 : w1.cell? ⟨blk, off + k * 9 + 6, none⟩ = some (.string ac) := hx9 6 (by decide)
                have e7 : w1.cell? ⟨blk, off + k * 9 + 7, none⟩ = some (.int .i64 p) := hx9 7 (by decide)
                have e8 : w1.cell? ⟨blk, off + k * 9 + 8, none⟩ = some (.int .i64 c) := hx9 8 (by decide)
                clear r3 hx9 HPUT hxx LX HNL HNZ HWZ
                go_wp2_with (first | (at_builtin; refine Lib.wpList_append_run _ rfl _ _ 40 40 rfl _ _ rfl rfl _ w1 r1 ?_; clear r1) | (at_builtin; refine Lib.wpList_append_run _ rfl _ _ 40 40 rfl _ _ rfl rfl _ w2 r2 ?_; clear r2) | (at_builtin; refine Lib.wpList_append_run _ rfl _ _ 40 40 rfl _ _ rfl rfl _ w3 r4 ?_; clear r4))
                go_roundw
                case rel => exact ⟨k + 1, v3, M', Nat.succ_le_of_lt hkn, rfl, by first | (simp; done) | (simp; exact num_q3 hkn HL.out), HZ.out⟩
                case measure => first | exact num_q5 hkn HL.out | (simp [intOf]; omega)
              · have hcz : ¬ (n : Int) < (c2 : Int) := fun h => hc (Int.ofNat_lt.1 h)
                have hcn : n = c2 := Nat.le_antisymm hnc (Nat.le_of_not_lt hc)
                have hnM : n = M.length := Nat.le_antisymm HNL.out (hcn ▸ HNc2.out)
                have HnM := hid_in hnM
                clear hnM hc hnc hnlz hcz hncz
                subst hcn
                obtain ⟨v1, w1, v2, w2, r1, hx9, r2, r3⟩ := HPUT.out wz n HNL.out HNZ.out HWZ.out
                obtain ⟨v3, w3, r4, M', HZ⟩ := r3 (some ⟨g, 0, none⟩) 0 (.inr HnM.out)
                rw [← hxx] at hx9 r2
                simp only [its] at hx9 r2
                have e0 : w1.cell? ⟨blk, off + k * 9, none⟩ = some (.string l) := hx9 0 (by decide)
                have e1 : w1.cell? ⟨blk, off + k * 9 + 1, none⟩ = some (.int .i64 q) := hx9 1 (by decide)
                have e2 : w1.cell? ⟨blk, off + k * 9 + 2, none⟩ = some (.string ai) := hx9 2 (by decide)
                have e3 : w1.cell? ⟨blk, off + k * 9 + 3, none⟩ = some (.int .i64 a1) := hx9 3 (by decide)
                have e4 : w1.cell? ⟨blk, off + k * 9 + 4, none⟩ = some (.int .i64 a2) := hx9 4 (by decide)
                have e5 : w1.cell? ⟨blk, off + k * 9 + 5, none⟩ = some (.int .i64 am) := hx9 5 (by decide)
                have e6 : w1.cell? ⟨blk, off + k * 9 + 6, none⟩ = some (.string ac) := hx9 6 (by decide)
                have e7 : w1.cell? ⟨blk, off + k * 9 + 7, none⟩ = some (.int .i64 p) := hx9 7 (by decide)
                have e8 : w1.cell? ⟨blk, off + k * 9 + 8, none⟩ = some (.int .i64 c) := hx9 8 (by decide)
                clear r3 hx9 HPUT hxx LX HNL HNZ HWZ
                go_wp2_with (first | (at_builtin; refine Lib.wpList_append_run _ rfl _ _ 40 40 rfl _ _ rfl rfl _ w1 r1 ?_; clear r1) | (at_builtin; refine Lib.wpList_append_run _ rfl _ _ 40 40 rfl _ _ rfl rfl _ w2 r2 ?_; clear r2) | (at_builtin; refine Lib.wpList_append_run _ rfl _ _ 40 40 rfl _ _ rfl rfl _ w3 r4 ?_; clear r4))
                go_roundw
                case rel => exact ⟨k + 1, v3, M', Nat.succ_le_of_lt hkn, rfl, by first | (simp; done) | (simp; exact num_q3 hkn HL.out), HZ.out⟩
                case measure => first | exact num_q5 hkn HL.out | (simp [intOf]; omega)
    · have hkz : ¬ (k : Int) < (L.length : Int) := by omega
      have hMl : M.length = L.length := by rw [HR.out.m, SS.rnk_len, List.length_take]; omega
      have hM : M = SS.rnk ltI L := by rw [HR.out.m, List.take_of_length_le (by omega)]
      obtain ⟨a', cap', rfl, hcp, hr⟩ := own_rw its_len HR.out.o rfl
      have HF : Hid (RkC (SS.rnk ltI L) L.length w (.returned (.slice a' M.length cap')) wr) := ⟨a', cap', by rw [hMl], by rw [← hMl]; exact hcp, by rw [← hM]; exact hr, HR.out.b⟩
      clear HR hr hM hMl hcp
      go_wp2_with fail
      go_ret
      exact HF.out
theorem rrank (L : List It) (hl : L.length ≤ 1000) (a : Option Addr) (cap : Nat) (w : World) (h : Rw 9 its w a L) : Calls Try.prog 24 #[.slice a L.length cap] w (RkP (SS.rnk ltI L) L.length w) := (rrankc L hl a cap w h).mono fun e w' hh => by
  obtain ⟨a1, c1, rfl, HZ⟩ := hh
  exact ⟨a1, c1, rfl, HZ.out.2⟩
end
end Go.Proofs.Ytheikjjehidagaa

/- layer 17: the law's same of two equal lists of items -/
namespace Go.Proofs.Ytheikjjehidagaa
open Go.RowKit
set_option linter.unusedVariables false
set_option linter.unusedSimpArgs false
open H5 (It its its_len its_one load46 load27)
set_option maxRecDepth 20000
def SmP (w : World) (e : Ending) (w' : World) : Prop := e = .returned (.bool true) ∧ Below w.heap.size w w'
set_option maxHeartbeats 16000000 in
theorem lsame (L : List It) (hl : L.length ≤ 1000000) (a b : Option Addr) (cap cap2 : Nat) (w : World) (h1 : Rw 9 its w a L) (h2 : Rw 9 its w b L) : Calls Try.prog 29 #[.slice a L.length cap, .slice b L.length cap2] w (SmP w) := by
  have HE : Hid (Rw 9 its w a L) := h1
  have HE2 : Hid (Rw 9 its w b L) := h2
  have HL : Hid (L.length ≤ 1000000) := hl
  have hlz : (L.length : Int) ≤ 1000000 := by omega
  clear h1 h2 hl
  go_enter Try.func29, Try.ntmps29
  go_wp2_with fail
  go_loopw [5] (fun i wr => ∃ k : Nat, k ≤ L.length ∧ i = .int .i64 k ∧ Hid (Below w.heap.size w wr))
    (fun i _ => L.length - (intOf i).toNat)
  case atStart => exact ⟨0, Nat.zero_le _, rfl, Below.refl _ _⟩
  case round =>
    obtain ⟨k, hk, rfl, HR⟩ := hrel
    by_cases hkn : k < L.length
    · have hkz : (k : Int) < (L.length : Int) := by omega
      obtain ⟨blk, off, rfl, hbl, hcs⟩ := HE.out (by omega)
      obtain ⟨blk2, off2, rfl, hbl2, hcs2⟩ := HE2.out (by omega)
      have hc9 := hcs k hkn
      have hd9 := hcs2 k hkn
      generalize L[k] = x at *
      obtain ⟨l, q, ⟨ai, a1, a2, a3, ac⟩, p, c⟩ := x
      have c0 : w.cell? ⟨blk, off + k * 9, none⟩ = some (.string l) := hc9 0 (by decide)
      have c1 : w.cell? ⟨blk, off + k * 9 + 1, none⟩ = some (.int .i64 q) := hc9 1 (by decide)
      have c2 : w.cell? ⟨blk, off + k * 9 + 2, none⟩ = some (.string ai) := hc9 2 (by decide)
      have c3 : w.cell? ⟨blk, off + k * 9 + 3, none⟩ = some (.int .i64 a1) := hc9 3 (by decide)
      have c4 : w.cell? ⟨blk, off + k * 9 + 4, none⟩ = some (.int .i64 a2) := hc9 4 (by decide)
      have c5 : w.cell? ⟨blk, off + k * 9 + 5, none⟩ = some (.int .i64 a3) := hc9 5 (by decide)
      have c6 : w.cell? ⟨blk, off + k * 9 + 6, none⟩ = some (.string ac) := hc9 6 (by decide)
      have c7 : w.cell? ⟨blk, off + k * 9 + 7, none⟩ = some (.int .i64 p) := hc9 7 (by decide)
      have c8 : w.cell? ⟨blk, off + k * 9 + 8, none⟩ = some (.int .i64 c) := hc9 8 (by decide)
      have d0 : w.cell? ⟨blk2, off2 + k * 9, none⟩ = some (.string l) := hd9 0 (by decide)
      have d1 : w.cell? ⟨blk2, off2 + k * 9 + 1, none⟩ = some (.int .i64 q) := hd9 1 (by decide)
      have d2 : w.cell? ⟨blk2, off2 + k * 9 + 2, none⟩ = some (.string ai) := hd9 2 (by decide)
      have d3 : w.cell? ⟨blk2, off2 + k * 9 + 3, none⟩ = some (.int .i64 a1) := hd9 3 (by decide)
      have d4 : w.cell? ⟨blk2, off2 + k * 9 + 4, none⟩ = some (.int .i64 a2) := hd9 4 (by decide)
      have d5 : w.cell? ⟨blk2, off2 + k * 9 + 5, none⟩ = some (.int .i64 a3) := hd9 5 (by decide)
      have d6 : w.cell? ⟨blk2, off2 + k * 9 + 6, none⟩ = some (.string ac) := hd9 6 (by decide)
      have d7 : w.cell? ⟨blk2, off2 + k * 9 + 7, none⟩ = some (.int .i64 p) := hd9 7 (by decide)
      have d8 : w.cell? ⟨blk2, off2 + k * 9 + 8, none⟩ = some (.int .i64 c) := hd9 8 (by decide)
      clear hc9 hcs hd9 hcs2
      go_upto_region 6 with fail
      refine wp_region_held (S := fun W => Below w.heap.size w W) (by kernel_rfl) ?_
      change wpAnyH _ _ _ _ _ 50 #[false, false, false, false, false, false, false, false, false, false, false, false, false, false, false, false, false, false, false, false, false, false, false, false, false, false, false, false, false, false, false, false, false, false, false, false, false, false, false, false, false, false, false, false, false, false, false, false, false, false] _ wr.drew
      have hS0 : Below w.heap.size w wr.drew := HR.out.trans (Below.mono (⟨rfl, rfl, rfl, Nat.le_refl _, fun _ _ => rfl⟩ : Below wr.heap.size wr wr.drew) HR.out.size)
      refine takeR (fuel := 49) (i := 0) (v := .slice (some ⟨blk, off, none⟩) L.length cap) rfl (by kernel_rfl) (by kernel_rfl) (by kernel_rfl) (fun _ _ _ h => h) (Or.inl ⟨rfl, fun W hW => by go_simp⟩) hS0 ?_
      simp only [Act.put, List.setIfInBounds_toArray, List.set_cons_zero, List.set_cons_succ]
      refine takeR (fuel := 48) (i := 1) (v := .int .i64 k) rfl (by kernel_rfl) (by kernel_rfl) (by kernel_rfl) (fun _ _ _ h => h) (Or.inl ⟨rfl, fun W hW => by go_simp⟩) hS0 ?_
      simp only [Act.put, List.setIfInBounds_toArray, List.set_cons_zero, List.set_cons_succ]
      refine takeR (fuel := 47) (i := 2) (v := .pointer (some ⟨blk, off + k * 9, none⟩)) rfl (by kernel_rfl) (by kernel_rfl) (by kernel_rfl) (fun _ _ _ h => h) (Or.inl ⟨rfl, fun W hW => by go_simp⟩) hS0 ?_
      simp only [Act.put, List.setIfInBounds_toArray, List.set_cons_zero, List.set_cons_succ]
      refine takeR (fuel := 46) (i := 3) (v := .pointer (some ⟨blk, off + k * 9, none⟩)) rfl (by kernel_rfl) (by kernel_rfl) (by kernel_rfl) (fun _ _ _ h => h) (Or.inl ⟨rfl, fun W hW => by go_simp⟩) hS0 ?_
      simp only [Act.put, List.setIfInBounds_toArray, List.set_cons_zero, List.set_cons_succ]
      refine takeR (fuel := 45) (i := 4) (v := .agg #[.string l, .int .i64 q]) rfl (by kernel_rfl) (by kernel_rfl) (by kernel_rfl) (fun _ _ _ h => h) (Or.inl ⟨rfl, fun W hW => exl _ _ _ _ rfl (.pointer (some ⟨blk, off + k * 9, none⟩)) _ rfl (load46 W blk (off + k * 9) _ _ _ rfl ((hW.cell (p := ⟨blk, _, none⟩) hbl).trans c0) ((hW.cell (p := ⟨blk, _, none⟩) hbl).trans c1))⟩) hS0 ?_
      simp only [Act.put, List.setIfInBounds_toArray, List.set_cons_zero, List.set_cons_succ]
      refine takeR (fuel := 44) (i := 5) (v := .slice (some ⟨blk2, off2, none⟩) L.length cap2) rfl (by kernel_rfl) (by kernel_rfl) (by kernel_rfl) (fun _ _ _ h => h) (Or.inl ⟨rfl, fun W hW => by go_simp⟩) hS0 ?_
      simp only [Act.put, List.setIfInBounds_toArray, List.set_cons_zero, List.set_cons_succ]
      refine takeR (fuel := 43) (i := 6) (v := .int .i64 k) rfl (by kernel_rfl) (by kernel_rfl) (by kernel_rfl) (fun _ _ _ h => h) (Or.inl ⟨rfl, fun W hW => by go_simp⟩) hS0 ?_
      simp only [Act.put, List.setIfInBounds_toArray, List.set_cons_zero, List.set_cons_succ]
      refine takeR (fuel := 42) (i := 7) (v := .pointer (some ⟨blk2, off2 + k * 9, none⟩)) rfl (by kernel_rfl) (by kernel_rfl) (by kernel_rfl) (fun _ _ _ h => h) (Or.inl ⟨rfl, fun W hW => by go_simp⟩) hS0 ?_
      simp only [Act.put, List.setIfInBounds_toArray, List.set_cons_zero, List.set_cons_succ]
      refine takeR (fuel := 41) (i := 8) (v := .pointer (some ⟨blk2, off2 + k * 9, none⟩)) rfl (by kernel_rfl) (by kernel_rfl) (by kernel_rfl) (fun _ _ _ h => h) (Or.inl ⟨rfl, fun W hW => by go_simp⟩) hS0 ?_
      simp only [Act.put, List.setIfInBounds_toArray, List.set_cons_zero, List.set_cons_succ]
      refine takeR (fuel := 40) (i := 9) (v := .agg #[.string l, .int .i64 q]) rfl (by kernel_rfl) (by kernel_rfl) (by kernel_rfl) (fun _ _ _ h => h) (Or.inl ⟨rfl, fun W hW => exl _ _ _ _ rfl (.pointer (some ⟨blk2, off2 + k * 9, none⟩)) _ rfl (load46 W blk2 (off2 + k * 9) _ _ _ rfl ((hW.cell (p := ⟨blk2, _, none⟩) hbl2).trans d0) ((hW.cell (p := ⟨blk2, _, none⟩) hbl2).trans d1))⟩) hS0 ?_
      simp only [Act.put, List.setIfInBounds_toArray, List.set_cons_zero, List.set_cons_succ]
      refine takeR (fuel := 39) (i := 10) (v := .bool false) rfl (by kernel_rfl) (by kernel_rfl) (by kernel_rfl) (fun _ _ _ h => h) (Or.inl ⟨rfl, fun W hW => by go_simp⟩) hS0 ?_
      simp only [Act.put, List.setIfInBounds_toArray, List.set_cons_zero, List.set_cons_succ]
      refine takeR (fuel := 38) (i := 11) (v := .bool false) rfl (by kernel_rfl) (by kernel_rfl) (by kernel_rfl) (fun _ _ _ h => h) (Or.inl ⟨rfl, fun W hW => by go_simp⟩) hS0 ?_
      simp only [Act.put, List.setIfInBounds_toArray, List.set_cons_zero, List.set_cons_succ]
      refine takeR (fuel := 37) (i := 12) (v := .slice (some ⟨blk, off, none⟩) L.length cap) rfl (by kernel_rfl) (by kernel_rfl) (by kernel_rfl) (fun _ _ _ h => h) (Or.inl ⟨rfl, fun W hW => by go_simp⟩) hS0 ?_
      simp only [Act.put, List.setIfInBounds_toArray, List.set_cons_zero, List.set_cons_succ]
      refine takeR (fuel := 36) (i := 13) (v := .int .i64 k) rfl (by kernel_rfl) (by kernel_rfl) (by kernel_rfl) (fun _ _ _ h => h) (Or.inl ⟨rfl, fun W hW => by go_simp⟩) hS0 ?_
      simp only [Act.put, List.setIfInBounds_toArray, List.set_cons_zero, List.set_cons_succ]
      refine takeR (fuel := 35) (i := 14) (v := .pointer (some ⟨blk, off + k * 9, none⟩)) rfl (by kernel_rfl) (by kernel_rfl) (by kernel_rfl) (fun _ _ _ h => h) (Or.inl ⟨rfl, fun W hW => by go_simp⟩) hS0 ?_
      simp only [Act.put, List.setIfInBounds_toArray, List.set_cons_zero, List.set_cons_succ]
      refine takeR (fuel := 34) (i := 15) (v := .pointer (some ⟨blk, off + k * 9 + 2, none⟩)) rfl (by kernel_rfl) (by kernel_rfl) (by kernel_rfl) (fun _ _ _ h => h) (Or.inl ⟨rfl, fun W hW => by go_simp⟩) hS0 ?_
      simp only [Act.put, List.setIfInBounds_toArray, List.set_cons_zero, List.set_cons_succ]
      refine takeR (fuel := 33) (i := 16) (v := .agg #[.string ai, .int .i64 a1, .int .i64 a2, .int .i64 a3, .string ac]) rfl (by kernel_rfl) (by kernel_rfl) (by kernel_rfl) (fun _ _ _ h => h) (Or.inl ⟨rfl, fun W hW => exl _ _ _ _ rfl (.pointer (some ⟨blk, off + k * 9 + 2, none⟩)) _ rfl (load27 W blk (off + k * 9 + 2) _ _ _ _ _ _ _ _ _ rfl rfl rfl rfl ((hW.cell (p := ⟨blk, _, none⟩) hbl).trans c2) ((hW.cell (p := ⟨blk, _, none⟩) hbl).trans c3) ((hW.cell (p := ⟨blk, _, none⟩) hbl).trans c4) ((hW.cell (p := ⟨blk, _, none⟩) hbl).trans c5) ((hW.cell (p := ⟨blk, _, none⟩) hbl).trans c6))⟩) hS0 ?_
      simp only [Act.put, List.setIfInBounds_toArray, List.set_cons_zero, List.set_cons_succ]
      refine takeR (fuel := 32) (i := 17) (v := .slice (some ⟨blk2, off2, none⟩) L.length cap2) rfl (by kernel_rfl) (by kernel_rfl) (by kernel_rfl) (fun _ _ _ h => h) (Or.inl ⟨rfl, fun W hW => by go_simp⟩) hS0 ?_
      simp only [Act.put, List.setIfInBounds_toArray, List.set_cons_zero, List.set_cons_succ]
      refine takeR (fuel := 31) (i := 18) (v := .int .i64 k) rfl (by kernel_rfl) (by kernel_rfl) (by kernel_rfl) (fun _ _ _ h => h) (Or.inl ⟨rfl, fun W hW => by go_simp⟩) hS0 ?_
      simp only [Act.put, List.setIfInBounds_toArray, List.set_cons_zero, List.set_cons_succ]
      refine takeR (fuel := 30) (i := 19) (v := .pointer (some ⟨blk2, off2 + k * 9, none⟩)) rfl (by kernel_rfl) (by kernel_rfl) (by kernel_rfl) (fun _ _ _ h => h) (Or.inl ⟨rfl, fun W hW => by go_simp⟩) hS0 ?_
      simp only [Act.put, List.setIfInBounds_toArray, List.set_cons_zero, List.set_cons_succ]
      refine takeR (fuel := 29) (i := 20) (v := .pointer (some ⟨blk2, off2 + k * 9 + 2, none⟩)) rfl (by kernel_rfl) (by kernel_rfl) (by kernel_rfl) (fun _ _ _ h => h) (Or.inl ⟨rfl, fun W hW => by go_simp⟩) hS0 ?_
      simp only [Act.put, List.setIfInBounds_toArray, List.set_cons_zero, List.set_cons_succ]
      refine takeR (fuel := 28) (i := 21) (v := .agg #[.string ai, .int .i64 a1, .int .i64 a2, .int .i64 a3, .string ac]) rfl (by kernel_rfl) (by kernel_rfl) (by kernel_rfl) (fun _ _ _ h => h) (Or.inl ⟨rfl, fun W hW => exl _ _ _ _ rfl (.pointer (some ⟨blk2, off2 + k * 9 + 2, none⟩)) _ rfl (load27 W blk2 (off2 + k * 9 + 2) _ _ _ _ _ _ _ _ _ rfl rfl rfl rfl ((hW.cell (p := ⟨blk2, _, none⟩) hbl2).trans d2) ((hW.cell (p := ⟨blk2, _, none⟩) hbl2).trans d3) ((hW.cell (p := ⟨blk2, _, none⟩) hbl2).trans d4) ((hW.cell (p := ⟨blk2, _, none⟩) hbl2).trans d5) ((hW.cell (p := ⟨blk2, _, none⟩) hbl2).trans d6))⟩) hS0 ?_
      simp only [Act.put, List.setIfInBounds_toArray, List.set_cons_zero, List.set_cons_succ]
      refine takeR (fuel := 27) (i := 22) (v := .bool false) rfl (by kernel_rfl) (by kernel_rfl) (by kernel_rfl) (fun _ _ _ h => h) (Or.inl ⟨rfl, fun W hW => by go_simp⟩) hS0 ?_
      simp only [Act.put, List.setIfInBounds_toArray, List.set_cons_zero, List.set_cons_succ]
      refine takeR (fuel := 26) (i := 23) (v := .bool false) rfl (by kernel_rfl) (by kernel_rfl) (by kernel_rfl) (fun _ _ _ h => h) (Or.inl ⟨rfl, fun W hW => by go_simp⟩) hS0 ?_
      simp only [Act.put, List.setIfInBounds_toArray, List.set_cons_zero, List.set_cons_succ]
      refine takeR (fuel := 25) (i := 24) (v := .bool false) rfl (by kernel_rfl) (by kernel_rfl) (by kernel_rfl) (fun _ _ _ h => h) (Or.inl ⟨rfl, fun W hW => by go_simp⟩) hS0 ?_
      simp only [Act.put, List.setIfInBounds_toArray, List.set_cons_zero, List.set_cons_succ]
      refine takeR (fuel := 24) (i := 25) (v := .slice (some ⟨blk, off, none⟩) L.length cap) rfl (by kernel_rfl) (by kernel_rfl) (by kernel_rfl) (fun _ _ _ h => h) (Or.inl ⟨rfl, fun W hW => by go_simp⟩) hS0 ?_
      simp only [Act.put, List.setIfInBounds_toArray, List.set_cons_zero, List.set_cons_succ]
      refine takeR (fuel := 23) (i := 26) (v := .int .i64 k) rfl (by kernel_rfl) (by kernel_rfl) (by kernel_rfl) (fun _ _ _ h => h) (Or.inl ⟨rfl, fun W hW => by go_simp⟩) hS0 ?_
      simp only [Act.put, List.setIfInBounds_toArray, List.set_cons_zero, List.set_cons_succ]
      refine takeR (fuel := 22) (i := 27) (v := .pointer (some ⟨blk, off + k * 9, none⟩)) rfl (by kernel_rfl) (by kernel_rfl) (by kernel_rfl) (fun _ _ _ h => h) (Or.inl ⟨rfl, fun W hW => by go_simp⟩) hS0 ?_
      simp only [Act.put, List.setIfInBounds_toArray, List.set_cons_zero, List.set_cons_succ]
      refine takeR (fuel := 21) (i := 28) (v := .pointer (some ⟨blk, off + k * 9 + 7, none⟩)) rfl (by kernel_rfl) (by kernel_rfl) (by kernel_rfl) (fun _ _ _ h => h) (Or.inl ⟨rfl, fun W hW => by go_simp⟩) hS0 ?_
      simp only [Act.put, List.setIfInBounds_toArray, List.set_cons_zero, List.set_cons_succ]
      refine takeR (fuel := 20) (i := 29) (v := .int .i64 p) rfl (by kernel_rfl) (by kernel_rfl) (by kernel_rfl) (fun _ _ _ h => h) (Or.inl ⟨rfl, fun W hW => by have cj : W.cell? ⟨blk, off + k * 9 + 7, none⟩ = some (.int .i64 p) := ((hW.cell (p := ⟨blk, _, none⟩) hbl).trans c7); go_simp⟩) hS0 ?_
      simp only [Act.put, List.setIfInBounds_toArray, List.set_cons_zero, List.set_cons_succ]
      refine takeR (fuel := 19) (i := 30) (v := .slice (some ⟨blk2, off2, none⟩) L.length cap2) rfl (by kernel_rfl) (by kernel_rfl) (by kernel_rfl) (fun _ _ _ h => h) (Or.inl ⟨rfl, fun W hW => by go_simp⟩) hS0 ?_
      simp only [Act.put, List.setIfInBounds_toArray, List.set_cons_zero, List.set_cons_succ]
      refine takeR (fuel := 18) (i := 31) (v := .int .i64 k) rfl (by kernel_rfl) (by kernel_rfl) (by kernel_rfl) (fun _ _ _ h => h) (Or.inl ⟨rfl, fun W hW => by go_simp⟩) hS0 ?_
      simp only [Act.put, List.setIfInBounds_toArray, List.set_cons_zero, List.set_cons_succ]
      refine takeR (fuel := 17) (i := 32) (v := .pointer (some ⟨blk2, off2 + k * 9, none⟩)) rfl (by kernel_rfl) (by kernel_rfl) (by kernel_rfl) (fun _ _ _ h => h) (Or.inl ⟨rfl, fun W hW => by go_simp⟩) hS0 ?_
      simp only [Act.put, List.setIfInBounds_toArray, List.set_cons_zero, List.set_cons_succ]
      refine takeR (fuel := 16) (i := 33) (v := .pointer (some ⟨blk2, off2 + k * 9 + 7, none⟩)) rfl (by kernel_rfl) (by kernel_rfl) (by kernel_rfl) (fun _ _ _ h => h) (Or.inl ⟨rfl, fun W hW => by go_simp⟩) hS0 ?_
      simp only [Act.put, List.setIfInBounds_toArray, List.set_cons_zero, List.set_cons_succ]
      refine takeR (fuel := 15) (i := 34) (v := .int .i64 p) rfl (by kernel_rfl) (by kernel_rfl) (by kernel_rfl) (fun _ _ _ h => h) (Or.inl ⟨rfl, fun W hW => by have cj : W.cell? ⟨blk2, off2 + k * 9 + 7, none⟩ = some (.int .i64 p) := ((hW.cell (p := ⟨blk2, _, none⟩) hbl2).trans d7); go_simp⟩) hS0 ?_
      simp only [Act.put, List.setIfInBounds_toArray, List.set_cons_zero, List.set_cons_succ]
      refine takeR (fuel := 14) (i := 35) (v := .bool false) rfl (by kernel_rfl) (by kernel_rfl) (by kernel_rfl) (fun _ _ _ h => h) (Or.inl ⟨rfl, fun W hW => by go_simp⟩) hS0 ?_
      simp only [Act.put, List.setIfInBounds_toArray, List.set_cons_zero, List.set_cons_succ]
      refine takeR (fuel := 13) (i := 36) (v := .bool false) rfl (by kernel_rfl) (by kernel_rfl) (by kernel_rfl) (fun _ _ _ h => h) (Or.inl ⟨rfl, fun W hW => by go_simp⟩) hS0 ?_
      simp only [Act.put, List.setIfInBounds_toArray, List.set_cons_zero, List.set_cons_succ]
      refine takeR (fuel := 12) (i := 37) (v := .bool false) rfl (by kernel_rfl) (by kernel_rfl) (by kernel_rfl) (fun _ _ _ h => h) (Or.inl ⟨rfl, fun W hW => by go_simp⟩) hS0 ?_
      simp only [Act.put, List.setIfInBounds_toArray, List.set_cons_zero, List.set_cons_succ]
      refine takeR (fuel := 11) (i := 38) (v := .slice (some ⟨blk, off, none⟩) L.length cap) rfl (by kernel_rfl) (by kernel_rfl) (by kernel_rfl) (fun _ _ _ h => h) (Or.inl ⟨rfl, fun W hW => by go_simp⟩) hS0 ?_
      simp only [Act.put, List.setIfInBounds_toArray, List.set_cons_zero, List.set_cons_succ]
      refine takeR (fuel := 10) (i := 39) (v := .int .i64 k) rfl (by kernel_rfl) (by kernel_rfl) (by kernel_rfl) (fun _ _ _ h => h) (Or.inl ⟨rfl, fun W hW => by go_simp⟩) hS0 ?_
      simp only [Act.put, List.setIfInBounds_toArray, List.set_cons_zero, List.set_cons_succ]
      refine takeR (fuel := 9) (i := 40) (v := .pointer (some ⟨blk, off + k * 9, none⟩)) rfl (by kernel_rfl) (by kernel_rfl) (by kernel_rfl) (fun _ _ _ h => h) (Or.inl ⟨rfl, fun W hW => by go_simp⟩) hS0 ?_
      simp only [Act.put, List.setIfInBounds_toArray, List.set_cons_zero, List.set_cons_succ]
      refine takeR (fuel := 8) (i := 41) (v := .pointer (some ⟨blk, off + k * 9 + 8, none⟩)) rfl (by kernel_rfl) (by kernel_rfl) (by kernel_rfl) (fun _ _ _ h => h) (Or.inl ⟨rfl, fun W hW => by go_simp⟩) hS0 ?_
      simp only [Act.put, List.setIfInBounds_toArray, List.set_cons_zero, List.set_cons_succ]
      refine takeR (fuel := 7) (i := 42) (v := .int .i64 c) rfl (by kernel_rfl) (by kernel_rfl) (by kernel_rfl) (fun _ _ _ h => h) (Or.inl ⟨rfl, fun W hW => by have cj : W.cell? ⟨blk, off + k * 9 + 8, none⟩ = some (.int .i64 c) := ((hW.cell (p := ⟨blk, _, none⟩) hbl).trans c8); go_simp⟩) hS0 ?_
      simp only [Act.put, List.setIfInBounds_toArray, List.set_cons_zero, List.set_cons_succ]
      refine takeR (fuel := 6) (i := 43) (v := .slice (some ⟨blk2, off2, none⟩) L.length cap2) rfl (by kernel_rfl) (by kernel_rfl) (by kernel_rfl) (fun _ _ _ h => h) (Or.inl ⟨rfl, fun W hW => by go_simp⟩) hS0 ?_
      simp only [Act.put, List.setIfInBounds_toArray, List.set_cons_zero, List.set_cons_succ]
      refine takeR (fuel := 5) (i := 44) (v := .int .i64 k) rfl (by kernel_rfl) (by kernel_rfl) (by kernel_rfl) (fun _ _ _ h => h) (Or.inl ⟨rfl, fun W hW => by go_simp⟩) hS0 ?_
      simp only [Act.put, List.setIfInBounds_toArray, List.set_cons_zero, List.set_cons_succ]
      refine takeR (fuel := 4) (i := 45) (v := .pointer (some ⟨blk2, off2 + k * 9, none⟩)) rfl (by kernel_rfl) (by kernel_rfl) (by kernel_rfl) (fun _ _ _ h => h) (Or.inl ⟨rfl, fun W hW => by go_simp⟩) hS0 ?_
      simp only [Act.put, List.setIfInBounds_toArray, List.set_cons_zero, List.set_cons_succ]
      refine takeR (fuel := 3) (i := 46) (v := .pointer (some ⟨blk2, off2 + k * 9 + 8, none⟩)) rfl (by kernel_rfl) (by kernel_rfl) (by kernel_rfl) (fun _ _ _ h => h) (Or.inl ⟨rfl, fun W hW => by go_simp⟩) hS0 ?_
      simp only [Act.put, List.setIfInBounds_toArray, List.set_cons_zero, List.set_cons_succ]
      refine takeR (fuel := 2) (i := 47) (v := .int .i64 c) rfl (by kernel_rfl) (by kernel_rfl) (by kernel_rfl) (fun _ _ _ h => h) (Or.inl ⟨rfl, fun W hW => by have cj : W.cell? ⟨blk2, off2 + k * 9 + 8, none⟩ = some (.int .i64 c) := ((hW.cell (p := ⟨blk2, _, none⟩) hbl2).trans d8); go_simp⟩) hS0 ?_
      simp only [Act.put, List.setIfInBounds_toArray, List.set_cons_zero, List.set_cons_succ]
      refine takeR (fuel := 1) (i := 48) (v := .bool false) rfl (by kernel_rfl) (by kernel_rfl) (by kernel_rfl) (fun _ _ _ h => h) (Or.inl ⟨rfl, fun W hW => by go_simp⟩) hS0 ?_
      simp only [Act.put, List.setIfInBounds_toArray, List.set_cons_zero, List.set_cons_succ]
      refine takeR (fuel := 0) (i := 49) (v := .bool false) rfl (by kernel_rfl) (by kernel_rfl) (by kernel_rfl) (fun _ _ _ h => h) (Or.inl ⟨rfl, fun W hW => by go_simp⟩) hS0 ?_
      simp only [Act.put, List.setIfInBounds_toArray, List.set_cons_zero, List.set_cons_succ]
      refine wpAnyH_done (by kernel_rfl) ?_ _
      have HN : Hid (Below w.heap.size w wr.drew) := hS0
      clear hS0
      go_wp2_with fail
      go_roundw
      case rel => exact ⟨k + 1, by omega, by simp, HN⟩
      case measure => simp [intOf]; omega
    · have hkz : ¬ (k : Int) < (L.length : Int) := by omega
      go_wp2_with fail
      go_ret
      exact ⟨rfl, HR.out⟩
end Go.Proofs.Ytheikjjehidagaa
