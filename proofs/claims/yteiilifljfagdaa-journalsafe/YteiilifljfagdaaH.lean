/- slices.Grow and slices.Concat. -/
import Derived.Test.YteiilifljfagdaaG
import Derived.WalkKit
import Derived.ProofKit
import Derived.Handy
import Derived.WalkLawsBesides
import Derived.WalkSpells
import Derived.BigQuiet
import Derived.BigCall
import Derived.Deep.QuietTactic
import Derived.Deep.Light
import Derived.Deep.OwnRows
import Derived.Laws.AppendOwnNone
import Derived.Laws.Strings3
import Derived.Laws.RangeAny
import Derived.Deep.RegionWith
import Derived.Lib.BitFns
import Derived.Lib.Walk
import Derived.Lib.Strings
import Derived.Lib.OthersKept
import Derived.Deep.CutBlock
import Derived.Deep.DeepCutAuto
import Derived.Deep.LoopGhost
import Derived.Deep.RegionHeld3
import Derived.Lib.SmallJoins
import Derived.Maps.AppendAt
import Derived.Laws.IdiomStrings
import Derived.Lib.AppendZeros
import Derived.Deep.WholeRow
import Derived.Laws.BitsAllLaws
import Derived.Lib.ConvBytes
namespace Go.Proofs.Yteiilifljfagdaa
open Go.RowKit
set_option linter.unusedVariables false
set_option linter.unusedSimpArgs false
theorem bdrew1 {B : Nat} {w w' : World} (h : Below B w w') : Below B w w'.drew := ⟨h.os, h.tape, h.output, h.size, h.block⟩
set_option maxHeartbeats 4000000 in
set_option maxRecDepth 100000 in
theorem xgrow (n : Nat) (hn : 0 < n) (hn2 : n ≤ 1099511627776) (w : World) : Calls Try.prog 74 #[.slice none 0 0, .int .i64 n] w fun e w' => ∃ v, e = .returned v ∧ Hid (w'.ownsRow w.heap.size 9 1 v 0 []) ∧ Hid (Below w.heap.size w w') := by
  have h0 : ¬ (n : Int) < 0 := by omega
  have h1 : (0 : Int) < (n : Int) := by omega
  obtain ⟨i0, hi, hz0, hz1, hz2⟩ := info_parts Try.info9
  have hr : ∀ w, _ := fun w => Lib.run_append_nil_zeros (P := Try.prog) w 35 3 35 9 i0 (.string ⟨#[]⟩) .i64 .i64 Try.underlying35 Try.underlying3 hi hz0 n hn (by rw [hz1]; omega) (by omega) (by rw [hz2]; omega)
  have hc : ∀ w, grownCap w n 0 9 ≤ maxLen := fun w => grownCap_le_maxLen w n 0 9 (by unfold maxLen; omega)
  have hge : ∀ w, n ≤ grownCap w n 0 9 := fun w => grownCap_ge w n 0 9
  have HR : Hid (∀ w, ∃ (cap : Nat) (w' : World), (Builtin.append_ #[35, 3] 35 #[.slice none 0 0, .int .i64 n]).run Try.prog w = .ok (.slice (some ⟨w.heap.size, 0, none⟩) n cap) w' ∧ w'.ownsRow w.heap.size 9 1 (.slice (some ⟨w.heap.size, 0, none⟩) 0 cap) 0 [] ∧ Below w.heap.size w w') := by
    intro w
    refine ⟨_, _, hr w, ?_, ?_⟩
    · refine World.ownsRow_made w.drew _ _ (Nat.le_refl _) (hc w) ?_
      rw [Array.size_append, size_zeroCells, size_zeroCells]
      show n * 1 + (_ - n) * 1 = _ * 1
      have := hge w
      omega
    · exact (bdrew1 (Below.refl _ w)).alloc (Nat.le_refl _) _
  clear hi hz0 hz1 hz2 hr hc hge
  obtain ⟨cap, w', hr, ho, hb⟩ := HR.out w
  have HR2 : Hid _ := hr
  have HO : Hid (w'.ownsRow w.heap.size 9 1 (.slice (some ⟨w.heap.size, 0, none⟩) 0 cap) 0 []) := ho
  have HB : Hid (Below w.heap.size w w') := hb
  clear hr ho hb HR
  go_enter Try.func74, Try.ntmps74
  go_wp2_with (at_builtin; refine Lib.wpList_append_run _ rfl _ _ 35 3 rfl _ _ rfl rfl _ w' HR2.out ?_)
  go_ret
  exact ⟨_, rfl, HO, HB⟩
theorem own_slice {w : World} {B e n : Nat} {v : Value} {xs : List Value} (h : w.ownsRow B e 1 v n xs) : ∃ a cap, v = .slice a n cap := by
  rcases h.2 with ⟨rfl, rfl⟩ | ⟨g, cap, cur, rfl, _⟩
  · exact ⟨none, 0, rfl⟩
  · exact ⟨_, cap, rfl⟩
def CcP (zs : List ByteArray) (w : World) (e : Ending) (w' : World) : Prop := ∃ v, e = .returned v ∧ Hid (w'.ownsRow w.heap.size 9 1 v zs.length (scells zs)) ∧ Hid (Below w.heap.size w w')
set_option maxHeartbeats 4000000 in
set_option maxRecDepth 100000 in
theorem xconcat (p T B1 B2 : Nat) (u1 u2 : Value) (xs ys : List ByteArray) (w : World) (hp : w.heap[p]? = some (.cells #[u1, u2] T (0, 0))) (h1 : w.ownsRow B1 9 1 u1 xs.length (scells xs)) (h2 : w.ownsRow B2 9 1 u2 ys.length (scells ys)) (h0 : 0 < xs.length) (hl : xs.length + ys.length ≤ 1099511627776) :
    Calls Try.prog 60 #[.slice (some ⟨p, 0, none⟩) 2 2] w (CcP (xs ++ ys) w) := by
  obtain ⟨a1, c1, rfl⟩ := own_slice h1
  obtain ⟨a2, c2, rfl⟩ := own_slice h2
  have H1 : Hid (w.ownsRow B1 9 1 (.slice a1 xs.length c1) xs.length (scells xs)) := h1
  have H2 : Hid (w.ownsRow B2 9 1 (.slice a2 ys.length c2) ys.length (scells ys)) := h2
  have HP : Hid (w.heap[p]? = some (.cells #[.slice a1 xs.length c1, .slice a2 ys.length c2] T (0, 0))) := hp
  have hpl : p < w.heap.size := (Array.getElem?_eq_some_iff.1 hp).1
  have k1 : w.cell? ⟨p, 0, none⟩ = some (.slice a1 xs.length c1) := cell_of_row w p 0 _ T (0, 0) hp
  have k2 : w.cell? ⟨p, 1, none⟩ = some (.slice a2 ys.length c2) := cell_of_row w p 1 _ T (0, 0) hp
  clear h1 h2 hp
  go_enter Try.func60, Try.ntmps60
  go_wp2_with fail
  go_loopw [3, 11] (fun v i wr => ∃ (k n : Nat), i = .int .i64 k ∧ v = .int .i64 n ∧ w = wr ∧ Hid ((k = 0 ∧ n = 0) ∨ (k = 1 ∧ n = xs.length) ∨ (k = 2 ∧ n = xs.length + ys.length))) (fun _ i _ => 2 - (Lib.intOf i).toNat)
  case atStart => exact ⟨0, 0, rfl, rfl, by first | rfl | trivial, .inl ⟨rfl, rfl⟩⟩
  case round =>
    obtain ⟨k, n, rfl, rfl, rfl, hc⟩ := hrel
    rcases hc.out with ⟨rfl, rfl⟩ | ⟨rfl, rfl⟩ | ⟨rfl, rfl⟩
    · clear hc
      have q : ¬ (xs.length : Int) < 0 := by omega
      go_wp2_with fail
      exact ⟨⟨1, xs.length, rfl, by go_num, by first | rfl | trivial, .inr (.inl ⟨rfl, rfl⟩)⟩, by simp [Lib.intOf]⟩
    · clear hc
      have q : ¬ (xs.length : Int) + (ys.length : Int) < 0 := by omega
      go_wp2_with fail
      exact ⟨⟨2, xs.length + ys.length, rfl, by rw [Int.natCast_add], by first | rfl | trivial, .inr (.inr ⟨rfl, rfl⟩)⟩, by simp [Lib.intOf]⟩
    · clear hc
      go_wp2_with fail
      refine (xgrow (xs.length + ys.length) (by omega) hl _).mono ?_
      rintro e w1 ⟨v1, rfl, HO1, HB1⟩
      go_wp2_with fail
      go_loopw [6, 27] (fun v i wr => ∃ (k : Nat) (zs : List ByteArray), i = .int .i64 k ∧ Hid (wr.ownsRow w.heap.size 9 1 v zs.length (scells zs)) ∧ Hid (Below w.heap.size w wr) ∧ Hid ((k = 0 ∧ zs = []) ∨ (k = 1 ∧ zs = xs) ∨ (k = 2 ∧ zs = xs ++ ys))) (fun _ i _ => 2 - (Lib.intOf i).toNat)
      case atStart => exact ⟨0, [], rfl, HO1, HB1, .inl ⟨rfl, rfl⟩⟩
      case round =>
        clear HO1 HB1
        obtain ⟨k, zs, rfl, HO, HB, hc⟩ := hrel
        have K1 : Hid (wr.ownsRow B1 9 1 (.slice a1 xs.length c1) xs.length (scells xs)) := own_keep H1.out HB.out
        have K2 : Hid (wr.ownsRow B2 9 1 (.slice a2 ys.length c2) ys.length (scells ys)) := own_keep H2.out HB.out
        have m1 : wr.cell? ⟨p, 0, none⟩ = some (.slice a1 xs.length c1) := (HB.out.cell (by exact hpl)).trans k1
        have m2 : wr.cell? ⟨p, 1, none⟩ = some (.slice a2 ys.length c2) := (HB.out.cell (by exact hpl)).trans k2
        have hsz := HB.out.size
        rcases hc.out with ⟨rfl, rfl⟩ | ⟨rfl, rfl⟩ | ⟨rfl, rfl⟩
        · clear hc
          obtain ⟨v', w2, hr, ho, hg, _⟩ := app_txt HO.out K1.out hsz (by simp; omega)
          have HR : Hid _ := hr
          have HO2 : Hid (w2.ownsRow w.heap.size 9 1 v' xs.length (scells xs)) := ho
          have HB2 : Hid (Below w.heap.size w w2) := HB.out.grown hg hsz (fun j hj => (HO.out.lt j hj).1)
          clear hr ho hg HO HB
          go_wp2_with (at_builtin; refine Lib.wpList_append_run _ rfl _ _ 35 35 rfl _ _ rfl rfl _ w2 HR.out ?_)
          exact ⟨⟨1, xs, rfl, HO2, HB2, .inr (.inl ⟨rfl, rfl⟩)⟩, by simp [Lib.intOf]⟩
        · clear hc
          obtain ⟨v', w2, hr, ho, hg, _⟩ := app_txt HO.out K2.out hsz (by omega)
          have HR : Hid _ := hr
          have HO2 : Hid (w2.ownsRow w.heap.size 9 1 v' (zs ++ ys).length (scells (zs ++ ys))) := ho
          have HB2 : Hid (Below w.heap.size w w2) := HB.out.grown hg hsz (fun j hj => (HO.out.lt j hj).1)
          clear hr ho hg HO HB
          go_wp2_with (at_builtin; refine Lib.wpList_append_run _ rfl _ _ 35 35 rfl _ _ rfl rfl _ w2 HR.out ?_)
          exact ⟨⟨2, _, rfl, HO2, HB2, .inr (.inr ⟨rfl, rfl⟩)⟩, by simp [Lib.intOf]⟩
        · clear hc
          go_wp2_with fail
          go_ret
          exact ⟨_, rfl, HO, HB⟩
end Go.Proofs.Yteiilifljfagdaa
