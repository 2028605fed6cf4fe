/- layer 17: lists one behind the other; Plus of the program -/
import Derived.Test.YtheikjjehidagaaNK
import Derived.Test.YtheikjjehidagaaMQ
import Derived.WalkKit
import Derived.ProofKit
import Derived.Handy
import Derived.WalkLawsBesides
import Derived.WalkSpells
import Derived.BigQuiet
import Derived.BigCall
import Derived.Deep.QuietTactic
import Derived.Deep.Light
import Derived.Deep.OwnRows
import Derived.Laws.AppendOwnNone
import Derived.Laws.Strings3
import Derived.Laws.RangeAny
import Derived.Deep.RegionWith
import Derived.Lib.BitFns
import Derived.Lib.Walk
import Derived.Lib.Strings
import Derived.Lib.OthersKept
import Derived.Deep.CutBlock
import Derived.Deep.DeepCutAuto
import Derived.Deep.LoopGhost
import Derived.Deep.RegionHeld3
import Derived.Lib.SmallJoins
import Derived.Maps.AppendAt
import Derived.Laws.IdiomStrings
import Derived.Lib.AppendZeros
import Derived.Deep.WholeRow
import Derived.Laws.BitsAllLaws
import Derived.Lib.ConvBytes
import Derived.Deep.RegionLaw
import Derived.Maps.OwnSet
import Derived.Maps.OwnOps
import Derived.Maps.RangeWalk
import Derived.Maps.Ext
import Derived.DeepKeys4
import Derived.Laws.StructEq
import Derived.Deep.MidRow
import Derived.Lib.Bytealg
import Derived.Lib.AppendZerosOnto
import Derived.Laws.MakeOwn
import Derived.Deep.Upon
import Derived.Sort.KeysCollected
namespace Go.Proofs.Ytheikjjehidagaa
open Go.RowKit
set_option linter.unusedVariables false
set_option linter.unusedSimpArgs false
set_option maxRecDepth 20000
theorem rcs_app {α : Type} (f : α → List Value) (xs ys : List α) : rcs f (xs ++ ys) = rcs f xs ++ rcs f ys := by
  unfold rcs
  rw [List.map_append, List.flatten_append]
theorem ap_none {t ty e : TypeId} {i : TypeInfo} {size base : Nat} {w : World} (ht : Try.prog.underlying t = some (.slice e)) (hi : Try.prog.info? e = some i) (v : Value) (n c : Nat) (xs : List Value) (hown : w.ownsRow base e size v n xs) :
    (Builtin.append_ #[t, t] ty #[v, .slice none 0 c]).run Try.prog w = .ok v w := by
  rcases hown.2 with ⟨rfl, rfl⟩ | ⟨g, cap, cur, rfl, _, _, hnc, _⟩
  · simp [Builtin.append_, run_underlying ht, sizeOf, typeInfo, hi, Builtin.lenOf, Builtin.firstCells]
  · simp [Builtin.append_, run_underlying ht, sizeOf, typeInfo, hi, Builtin.lenOf, Builtin.firstCells, hnc, storeCells]
/-- append of a list to an own one -/
theorem ap_rows {B : Nat} {w : World} {v : Value} {L xs : List Lt} (h : Ol B w v L) (hB : B ≤ w.heap.size) {a : Option Addr} (cap : Nat) (h2 : Rw 2 lcs w a xs) (hl : L.length + xs.length ≤ 1000000) :
    ∃ v' w', (Builtin.append_ #[22, 22] 22 #[v, .slice a xs.length cap]).run Try.prog w = .ok v' w' ∧ Gw B w v w' v' (L ++ xs) := by
  obtain ⟨i0, hi, hz0, hz1, hz2⟩ := info_parts info43
  cases a with
  | none =>
    have : xs = [] := by
      apply Classical.byContradiction
      intro hn
      obtain ⟨_, _, e, _⟩ := h2 (List.length_pos_iff.2 hn)
      cases e
    subst this
    refine ⟨v, w, ap_none Try.underlying22 hi v _ cap _ h, ?_, ⟨rfl, rfl, rfl, Nat.le_refl _, fun _ _ _ => rfl⟩, .inl rfl⟩
    rw [List.append_nil]
    exact h
  | some ad =>
    obtain ⟨v', w', hr, ho, hgr, _, hat⟩ := run_append_own_at (P := Try.prog) (w := w) B 22 22 43 i0 _ 2 24 Try.underlying22 hi hz0 hz1 hz2 rfl (by omega) v _ _ h ad xs.length cap (rcs lcs xs) (rcs_lot_len xs) (fun j u hj => by
      have h0 : 0 < xs.length := by
        rcases Nat.eq_zero_or_pos xs.length with e | e
        · rw [List.length_eq_zero_iff.1 e] at hj; simp [rcs] at hj
        · exact e
      obtain ⟨blk, off, e1, _, hc⟩ := h2 h0
      injection e1 with e1
      subst e1
      have hjl : j < xs.length * 2 := by
        rw [← rcs_lot_len]
        exact (List.getElem?_eq_some_iff.1 hj).1
      have h1 := flat_at lcs 2 lcs_len xs (j / 2) (by omega) (j % 2) (by omega)
      have h3 := hc (j / 2) (by omega) (j % 2) (by omega)
      rw [show j / 2 * 2 + j % 2 = j by omega] at h1
      rw [show off + j / 2 * 2 + j % 2 = off + j by omega] at h3
      have e : (⟨blk, off, none⟩ : Addr).add j = ⟨blk, off + j, none⟩ := Addr.add_lit ..
      rw [e, h3, ← h1]
      exact hj) (lcells_one xs) (by unfold maxLen; omega) (by omega) hB
    refine ⟨v', w', hr, ?_, hgr, ?_⟩
    · show w'.ownsRow B 43 2 v' (L ++ xs).length _
      rw [rcs_app, List.length_append]
      exact ho
    · rcases hat with e | e
      · exact .inl e
      · exact .inr ⟨_, e, Nat.le_refl _⟩
def GrP (w : World) (e : Ending) (w' : World) : Prop := ∃ v, e = .returned v ∧ Hid (Ol w.heap.size w' v [] ∧ Below w.heap.size w w')
set_option maxHeartbeats 4000000 in
set_option maxRecDepth 100000 in
theorem xgrow (n : Nat) (hn2 : n ≤ 1000000) (w : World) : Calls Try.prog 69 #[.slice none 0 0, .int .i64 n] w (GrP w) := by
  by_cases hn : 0 < n
  · have h0 : ¬ (n : Int) < 0 := by omega
    have h1 : (0 : Int) < (n : Int) := by omega
    obtain ⟨i0, hi, hz0, hz1, hz2⟩ := info_parts info43
    have hr : ∀ w, _ := fun w => Lib.run_append_nil_zeros (P := Try.prog) w 22 3 22 43 i0 _ .i64 .i64 Try.underlying22 Try.underlying3 hi hz0 n hn (by rw [hz1]; omega) (by omega) (by rw [hz2]; omega)
    have hc : ∀ w, grownCap w n 0 43 ≤ maxLen := fun w => grownCap_le_maxLen w n 0 43 (by unfold maxLen; omega)
    have hge : ∀ w, n ≤ grownCap w n 0 43 := fun w => grownCap_ge w n 0 43
    have HR : Hid (∀ w, ∃ (cap : Nat) (w' : World), (Builtin.append_ #[22, 3] 22 #[.slice none 0 0, .int .i64 n]).run Try.prog w = .ok (.slice (some ⟨w.heap.size, 0, none⟩) n cap) w' ∧ n ≤ cap ∧ w'.ownsRow w.heap.size 43 2 (.slice (some ⟨w.heap.size, 0, none⟩) 0 cap) 0 [] ∧ Below w.heap.size w w') := by
      intro w
      refine ⟨_, _, hr w, hge w, ?_, ?_⟩
      · refine World.ownsRow_made w.drew _ _ (Nat.le_refl _) (hc w) ?_
        rw [Array.size_append, size_zeroCells, size_zeroCells]
        show n * 2 + (_ - n) * 2 = _ * 2
        have := hge w
        omega
      · exact (show Below w.heap.size w w.drew from ⟨rfl, rfl, rfl, Nat.le_refl _, fun _ _ => rfl⟩).alloc (Nat.le_refl _) _
    clear hi hz0 hz1 hz2 hr hc hge
    obtain ⟨cap, w', hr, hcap, ho, hb⟩ := HR.out w
    have HF : Hid (GrP w (.returned (.slice (some ⟨w.heap.size, 0, none⟩) 0 cap)) w') := ⟨_, rfl, ho, hb⟩
    clear ho hb HR
    go_enter Try.func69, Try.ntmps69
    go_wp2_with (at_builtin; refine Lib.wpList_append_run _ rfl _ _ 22 3 rfl _ _ rfl rfl _ w' hr ?_)
    go_ret
    exact HF.out
  · obtain rfl : n = 0 := by omega
    have HF : Hid (GrP w (.returned (.slice none 0 0)) w) := ⟨_, rfl, World.ownsRow_nil _ _ _ _, Below.refl _ _⟩
    go_enter Try.func69, Try.ntmps69
    go_wp2_with fail
    go_ret
    exact HF.out
def CcP (zs : List Lt) (w : World) (e : Ending) (w' : World) : Prop := ∃ v, e = .returned v ∧ Hid (Ol w.heap.size w' v zs ∧ Below w.heap.size w w')
set_option maxHeartbeats 4000000 in
set_option maxRecDepth 100000 in
theorem xconcat (p T : Nat) (a1 : Option Addr) (c1 : Nat) (a2 : Option Addr) (c2 : Nat) (xs ys : List Lt) (w : World) (hp : Bx w p #[.slice a1 xs.length c1, .slice a2 ys.length c2] T) (h1 : Rw 2 lcs w a1 xs) (h2 : Rw 2 lcs w a2 ys) (hl : xs.length + ys.length ≤ 1000000) :
    Calls Try.prog 42 #[.slice (some ⟨p, 0, none⟩) 2 2] w (CcP (xs ++ ys) w) := by
  have H1 : Hid (Rw 2 lcs w a1 xs) := h1
  have H2 : Hid (Rw 2 lcs w a2 ys) := h2
  have hpl : p < w.heap.size := hp.lt
  have k1 : w.cell? ⟨p, 0, none⟩ = some (.slice a1 xs.length c1) := hp.cell 0
  have k2 : w.cell? ⟨p, 1, none⟩ = some (.slice a2 ys.length c2) := hp.cell 1
  have HL : Hid (xs.length + ys.length ≤ 1000000) := hl
  clear h1 h2 hp
  go_enter Try.func42, Try.ntmps42
  go_wp2_with fail
  go_loopw [3, 11] (fun v i wr => ∃ (k n : Nat), i = .int .i64 k ∧ v = .int .i64 n ∧ w = wr ∧ Hid ((k = 0 ∧ n = 0) ∨ (k = 1 ∧ n = xs.length) ∨ (k = 2 ∧ n = xs.length + ys.length))) (fun _ i _ => 2 - (Lib.intOf i).toNat)
  case atStart => exact ⟨0, 0, rfl, rfl, by first | rfl | trivial, .inl ⟨rfl, rfl⟩⟩
  case round =>
    obtain ⟨k, n, rfl, rfl, rfl, hc⟩ := hrel
    rcases hc.out with ⟨rfl, rfl⟩ | ⟨rfl, rfl⟩ | ⟨rfl, rfl⟩
    · clear hc
      have q : ¬ (xs.length : Int) < 0 := by omega
      go_wp2_with fail
      exact ⟨⟨1, xs.length, rfl, by go_num, by first | rfl | trivial, .inr (.inl ⟨rfl, rfl⟩)⟩, by simp [Lib.intOf]⟩
    · clear hc
      have q : ¬ (xs.length : Int) + (ys.length : Int) < 0 := by omega
      go_wp2_with fail
      exact ⟨⟨2, xs.length + ys.length, rfl, by rw [Int.natCast_add], by first | rfl | trivial, .inr (.inr ⟨rfl, rfl⟩)⟩, by simp [Lib.intOf]⟩
    · clear hc
      go_wp2_with fail
      refine (xgrow (xs.length + ys.length) hl _).mono ?_
      rintro e w1 ⟨v1, rfl, HO1⟩
      go_wp2_with fail
      go_loopw [6, 27] (fun v i wr => ∃ (k : Nat) (zs : List Lt), i = .int .i64 k ∧ Hid (Ol w.heap.size wr v zs ∧ Below w.heap.size w wr) ∧ Hid ((k = 0 ∧ zs = []) ∨ (k = 1 ∧ zs = xs) ∨ (k = 2 ∧ zs = xs ++ ys))) (fun _ i _ => 2 - (Lib.intOf i).toNat)
      case atStart => exact ⟨0, [], rfl, HO1, .inl ⟨rfl, rfl⟩⟩
      case round =>
        clear HO1
        obtain ⟨k, zs, rfl, HO, hc⟩ := hrel
        have m1 : wr.cell? ⟨p, 0, none⟩ = some (.slice a1 xs.length c1) := (HO.out.2.cell (by exact hpl)).trans k1
        have m2 : wr.cell? ⟨p, 1, none⟩ = some (.slice a2 ys.length c2) := (HO.out.2.cell (by exact hpl)).trans k2
        have hsz := HO.out.2.size
        rcases hc.out with ⟨rfl, rfl⟩ | ⟨rfl, rfl⟩ | ⟨rfl, rfl⟩
        · clear hc
          obtain ⟨v', w2, hr, hg⟩ := ap_rows HO.out.1 hsz c1 (H1.out.below HO.out.2) (by have := HL.out; simp; omega)
          have HO2 : Hid (Ol w.heap.size w2 v' xs ∧ Below w.heap.size w w2) := ⟨hg.o, HO.out.2.trans (hg.below HO.out.1 hsz)⟩
          clear hg HO
          go_wp2_with (at_builtin; refine Lib.wpList_append_run _ rfl _ _ 22 22 rfl _ _ rfl rfl _ w2 hr ?_)
          exact ⟨⟨1, xs, rfl, HO2, .inr (.inl ⟨rfl, rfl⟩)⟩, by simp [Lib.intOf]⟩
        · clear hc
          obtain ⟨v', w2, hr, hg⟩ := ap_rows HO.out.1 hsz c2 (H2.out.below HO.out.2) (by have := HL.out; omega)
          have HO2 : Hid (Ol w.heap.size w2 v' (zs ++ ys) ∧ Below w.heap.size w w2) := ⟨hg.o, HO.out.2.trans (hg.below HO.out.1 hsz)⟩
          clear hg HO
          go_wp2_with (at_builtin; refine Lib.wpList_append_run _ rfl _ _ 22 22 rfl _ _ rfl rfl _ w2 hr ?_)
          exact ⟨⟨2, _, rfl, HO2, .inr (.inr ⟨rfl, rfl⟩)⟩, by simp [Lib.intOf]⟩
        · clear hc
          go_wp2_with fail
          go_ret
          exact ⟨_, rfl, HO⟩
set_option maxHeartbeats 4000000 in
theorem xplus (L b : List Lt) (gL : Good L) (hl : b.length ≤ 10000) (hs : ∀ x ∈ L ++ b, x.i.size ≤ 281474976710656) (a : Option Addr) (cap : Nat) (a2 : Option Addr) (cap2 : Nat) (w : World) (h : Rw 2 lcs w a L) (h2 : Rw 2 lcs w a2 b) : Calls Try.prog 15 #[.slice a L.length cap, .slice a2 b.length cap2] w (MgP L b w) := by
  have h64 := gL.len
  obtain ⟨w1, hw1⟩ : ∃ w1, w1 = w.alloc (.cells #[.slice a L.length cap, .slice a2 b.length cap2] 22) := ⟨_, rfl⟩
  have HW : Hid (w.alloc (.cells #[.slice a L.length cap, .slice a2 b.length cap2] 22) = w1) := hw1.symm
  have hb1 : Below w.heap.size w w1 := by rw [hw1]; exact (Below.refl _ w).alloc (Nat.le_refl _) _
  have hX : Bx w1 w.heap.size #[.slice a L.length cap, .slice a2 b.length cap2] 22 := by rw [hw1]; exact Bx.new w _ _
  have HC : Hid (Calls Try.prog 42 #[.slice (some ⟨w.heap.size, 0, none⟩) 2 2] w1 fun e w2 => ∃ a3 c3, e = .returned (.slice a3 (L ++ b).length c3) ∧ Hid (Calls Try.prog 11 #[.slice a3 (L ++ b).length c3] w2 fun e w3 => ∃ a4 c4, e = .returned (.tuple #[.slice a4 (mrg L b).1.length c4, .int .i64 (mrg L b).2]) ∧ Hid (MgP L b w (.returned (.tuple #[.slice a4 (mrg L b).1.length c4, .int .i64 (mrg L b).2])) w3))) := by
    refine (xconcat _ 22 a cap a2 cap2 L b w1 hX (h.below hb1) (h2.below hb1) (by omega)).mono ?_
    rintro e w2 ⟨v, rfl, HZ⟩
    obtain ⟨a3, c3, rfl, _, hr⟩ := Ol.read HZ.out.1
    refine ⟨a3, c3, rfl, (xmerge (L ++ b) (by simp; omega) hs a3 c3 w2 hr).mono ?_⟩
    rintro e w3 ⟨a4, c4, rfl, HM⟩
    rw [mrg_cat gL] at HM ⊢
    exact ⟨a4, c4, rfl, a4, c4, rfl, HM.out.1, (hb1.trans (HZ.out.2.mono hb1.size)).trans (HM.out.2.mono (by have := HZ.out.2.size; have := hb1.size; omega))⟩
  clear hw1 hX hb1 h h2 hs gL hl h64
  generalize (L ++ b).length = n at *
  go_enter Try.func15, Try.ntmps15
  go_upto_region 1 with fail
  go_wp2_with (first | (rw [HW.out]; fail) | (go_at_call 42; rw [HW.out]; refine HC.out.mono ?_; clear HC; rintro e w2 ⟨a3, c3, rfl, HC2⟩) | (go_at_call 11; refine HC2.out.mono ?_; clear HC2; rintro e w3 ⟨a4, c4, rfl, HZ⟩))
  go_ret2
  exact HZ.out
end Go.Proofs.Ytheikjjehidagaa
