/- layer 13: Clone; a book and its clone -/
import Derived.Test.YtbgdmpaghkmadaaU
import Derived.WalkKit
import Derived.ProofKit
import Derived.Handy
import Derived.WalkLawsBesides
import Derived.WalkSpells
import Derived.BigQuiet
import Derived.BigCall
import Derived.Deep.QuietTactic
import Derived.Deep.Light
import Derived.Deep.OwnRows
import Derived.Laws.AppendOwnNone
import Derived.Laws.Strings3
import Derived.Laws.RangeAny
import Derived.Deep.RegionWith
import Derived.Lib.BitFns
import Derived.Lib.Walk
import Derived.Lib.Strings
import Derived.Lib.OthersKept
import Derived.Deep.CutBlock
import Derived.Deep.DeepCutAuto
import Derived.Deep.LoopGhost
import Derived.Deep.RegionHeld3
import Derived.Lib.SmallJoins
import Derived.Maps.AppendAt
import Derived.Laws.IdiomStrings
import Derived.Lib.AppendZeros
import Derived.Deep.WholeRow
import Derived.Laws.BitsAllLaws
import Derived.Lib.ConvBytes
import Derived.Deep.RegionLaw
import Derived.Maps.OwnSet
import Derived.Maps.OwnOps
import Derived.Maps.RangeWalk
import Derived.Maps.Ext
import Derived.DeepKeys4
import Derived.Laws.StructEq
import Derived.Deep.MidRow
import Derived.Lib.Bytealg
import Derived.Lib.Overlaps
import Derived.Lib.AppendZerosOnto
import Derived.Laws.MakeOwn
namespace Go.Proofs.Ytbgdmpaghkmadaa
open Go.RowKit
set_option linter.unusedVariables false
set_option linter.unusedSimpArgs false
open Num
set_option maxRecDepth 20000
def ClP (L : List Kn) (w : World) (e : Ending) (w' : World) : Prop := ∃ v, e = .returned (.pointer (some ⟨w.heap.size, 0, none⟩)) ∧ Hid (Bk w.heap.size w' w.heap.size v L ∧ Below w.heap.size w w')
set_option maxHeartbeats 16000000 in
theorem xclo {B : Nat} {w : World} {q : Nat} {v : Value} {L : List Kn} (h : Bk B w q v L) (g : Num.Good L) : Calls Try.prog 28 #[.pointer (some ⟨q, 0, none⟩)] w (ClP L w) := by
  obtain ⟨ra, rc, rfl, _, hrw, _⟩ := h.known
  have HE : Hid (Rw 6 kcs w ra L) := hrw
  have HS : Hid (Sml L) := Num.Good.sml g
  have HL : Hid (Calls Try.prog 42 #[.pointer (some ⟨q, 0, none⟩)] w (BoP false w)) := xlackB h.b
  have HN : Hid (Calls Try.prog 9 #[] w fun e w1 => e = .returned (.pointer (some ⟨w.heap.size, 0, none⟩)) ∧ w1.cell? ⟨q, 1, none⟩ = some (.slice ra L.length rc) ∧ Hid (Bk w.heap.size w1 w.heap.size (.slice none 0 0) [] ∧ Below w.heap.size w w1)) := (xnew w).mono fun e w1 hh => by
    obtain ⟨rfl, rfl⟩ := hh
    have hb : Below w.heap.size w (w.alloc (.cells #[.bool true, .slice none 0 0] 70)) := (Below.refl _ w).alloc (Nat.le_refl _) _
    exact ⟨rfl, (h.b.below hb h.b.lt).cell 1, Bk.new w (Nat.le_refl _), hb⟩
  have hlz : (L.length : Int) ≤ 1000000 := by have := g.len; omega
  have hl : L.length ≤ 1000000 := by have := g.len; omega
  clear h g hrw
  go_enter Try.func28, Try.ntmps28
  go_wp2_with (first | (go_at_call 42; refine HL.out.mono ?_; clear HL; rintro e w1 ⟨rfl, rfl⟩) | (go_at_call 9; refine HN.out.mono ?_; clear HN; rintro e w1 ⟨rfl, c1, HZ1⟩))
  clear c1
  go_loopw [14] (fun i wr => ∃ (k : Nat) (v : Value), k ≤ L.length ∧ i = .int .i64 k ∧ Hid (Bk w.heap.size wr w.heap.size v (L.take k) ∧ Below w.heap.size w wr))
    (fun i _ => L.length - (intOf i).toNat)
  case atStart => exact ⟨0, _, Nat.zero_le _, rfl, HZ1.out⟩
  case round =>
    obtain ⟨k, v, hk, rfl, HZ⟩ := hrel
    clear HZ1
    by_cases hkn : k < L.length
    · have hkz : (k : Int) < (L.length : Int) := by omega
      obtain ⟨blk, off, rfl, hbl, hcs⟩ := HE.out (by omega)
      obtain ⟨c0, c1, c2, c3, c4, c5⟩ := Rw.at6 hcs HZ.out.2 hbl hkn
      have s1 := HS.out.i L[k] (List.getElem_mem hkn)
      have s2 := HS.out.c L[k] (List.getElem_mem hkn)
      have hlk : (L.take k).length = k := by rw [List.length_take]; omega
      have hlk1 : (L.take (k + 1)).length = k + 1 := by rw [List.length_take]; omega
      have HT : Hid (kcells (L.take k) ++ kcs L[k] = kcells (L.take (k + 1))) := rcs_take kcs L hkn
      obtain ⟨xa', xc', rfl, _, _⟩ := HZ.out.1.read
      rw [hlk] at HZ
      have q1 : wr.cell? ⟨w.heap.size, 1, none⟩ = some (.slice xa' k xc') := HZ.out.1.b.cell 1
      have hlt : w.heap.size < wr.heap.size := HZ.out.1.b.lt
      generalize L[k] = x at *
      obtain ⟨⟨xi, xa, xb, xc, xs⟩, xp⟩ := x
      simp only at *
      have HC : Hid (∀ w5, w5 = (wr.alloc (.cells #[.string xi, .int .i64 xa, .int .i64 xb, .int .i64 xc, .string xs, .int .i64 xp] 84)).drew → Calls Try.prog 36 #[.agg #[.string xi, .int .i64 xa, .int .i64 xb, .int .i64 xc, .string xs]] w5 fun e w6 => ∃ y, e = .returned y ∧ (y = .agg #[.string xi, .int .i64 xa, .int .i64 xb, .int .i64 xc, .string xs] ∧ w6.cell? ⟨w.heap.size, 1, none⟩ = some (.slice xa' k xc') ∧ w.heap.size < w6.heap.size ∧ w6.cell? ⟨wr.heap.size, 5, none⟩ = some (.int .i64 xp) ∧ wr.heap.size < w6.heap.size ∧ ∃ ya yn yc w7, (Builtin.append_ #[68, 68] 68 #[.slice xa' k xc', .slice (some ⟨w6.heap.size, 0, none⟩) 1 1]).run Try.prog (w6.alloc (.cells #[.string xi, .int .i64 xa, .int .i64 xb, .int .i64 xc, .string xs, .int .i64 xp] 84)) = .ok (.slice ya yn yc) w7 ∧ w7.cell? ⟨w.heap.size, 1, none⟩ = some (.slice xa' k xc') ∧ w7.frozen? ⟨w.heap.size, 1, none⟩ = false ∧ Hid (Bk w.heap.size (w7.setCell ⟨w.heap.size, 1, none⟩ (.slice ya yn yc)) w.heap.size (.slice ya yn yc) (L.take (k + 1)) ∧ Below w.heap.size w (w7.setCell ⟨w.heap.size, 1, none⟩ (.slice ya yn yc))))) := by
        intro w5 hw5
        have hb15 : Below wr.heap.size wr w5 := by rw [hw5]; exact ((Below.refl _ wr).alloc (Nat.le_refl _) _).drew
        have hX5 : Bx w5 wr.heap.size #[.string xi, .int .i64 xa, .int .i64 xb, .int .i64 xc, .string xs, .int .i64 xp] 84 := by rw [hw5]; exact (Bx.new wr _ _).kept (grown_drew _ none) (by simp)
        refine (xapart xi xa xb xc xs (by omega) (by omega) w5).mono ?_
        rintro e w6 ⟨rfl, hb56⟩
        have hb16 : Below wr.heap.size wr w6 := hb15.trans (hb56.mono hb15.size)
        have hX6 := hX5.below hb56 hX5.lt
        have hk6 := HZ.out.1.below hb16
        have hk6a : Bk w.heap.size (w6.alloc (.cells (kcs ⟨⟨xi, xa, xb, xc, xs⟩, xp⟩).toArray 84)) w.heap.size (.slice xa' k xc') (L.take k) := hk6.below ((Below.refl _ _).alloc (Nat.le_refl _) _)
        have hb16a : Below wr.heap.size wr (w6.alloc (.cells (kcs ⟨⟨xi, xa, xb, xc, xs⟩, xp⟩).toArray 84)) := hb16.alloc hb16.size _
        obtain ⟨v', w7, hr, v'', e7, hz⟩ := ins_app (vb := w6.heap.size) hk6a.o (kcs_len ⟨⟨xi, xa, xb, xc, xs⟩, xp⟩) (kcs_one _) (Bx.new w6 _ _) (by omega) (by have := HZ.out.2.size; have := hb16a.size; omega)
        injection e7 with e7
        subst e7
        obtain ⟨ho, hg, hat⟩ := hz.out
        rw [hlk] at ho
        rw [HT.out] at ho
        obtain ⟨ya, yc, hy, _⟩ := own_read ho ho.1
        subst hy
        have hput := Bk.put (M := L.take (k + 1)) (n := k) hlk1.symm HZ.out.1 hb16a ho hg hat
        have hqv : some w.heap.size ≠ Value.ownBlock (.slice xa' k xc') := own_nb hk6.o hk6.b (by decide)
        have hq7 := hk6a.b.kept hg hqv
        refine ⟨_, rfl, rfl, hk6.b.cell 1, hk6.b.lt, hX6.cell 5, hX6.lt, ya, k + 1, yc, w7, hr, hq7.cell 1, hq7.froz 1, hput.1, ?_⟩
        exact HZ.out.2.trans (hput.2.1.below HZ.out.2.size (Nat.le_refl _) (fun j e => (HZ.out.1.o.lt j e).1))
      clear hcs HZ HT hbl s1 s2 hlk hlk1
      go_wp2_with fail
      go_region_law (first | (refine step_call _ (by rfl) 36 #[.agg #[.string xi, .int .i64 xa, .int .i64 xb, .int .i64 xc, .string xs]] (by go_simp) _ (HC.out _ rfl) ?_; clear HC; rintro v9 w6 ⟨rfl, k1, k0, k2, k3, ya, yn, yc, w7, hr, k4, k5, HY⟩) | (refine step_append_run _ (by rfl) _ _ 68 68 (by rfl) _ _ (by rfl) (by rfl) _ w7 hr ?_))
      all_goals
        go_wp2_with fail
        go_roundw
        case rel => exact ⟨k + 1, _, by omega, by simp, HY.out⟩
        case measure => simp [intOf]; omega
    · have hkz : ¬ (k : Int) < (L.length : Int) := by omega
      have HF : Hid (ClP L w (.returned (.pointer (some ⟨w.heap.size, 0, none⟩))) wr) := by
        have hr := HZ.out
        rw [show k = L.length by omega, List.take_length] at hr
        exact ⟨v, rfl, hr.1, hr.2⟩
      clear HZ
      go_wp2_with fail
      go_ret
      exact HF.out
end Go.Proofs.Ytbgdmpaghkmadaa
