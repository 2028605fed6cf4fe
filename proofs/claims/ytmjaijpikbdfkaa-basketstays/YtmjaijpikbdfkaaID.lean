/- layer 14: rules apart; all of a book -/
import Derived.Test.YtmjaijpikbdfkaaIB
import Derived.WalkKit
import Derived.ProofKit
import Derived.Handy
import Derived.WalkLawsBesides
import Derived.WalkSpells
import Derived.BigQuiet
import Derived.BigCall
import Derived.Deep.QuietTactic
import Derived.Deep.Light
import Derived.Deep.OwnRows
import Derived.Laws.AppendOwnNone
import Derived.Laws.Strings3
import Derived.Laws.RangeAny
import Derived.Deep.RegionWith
import Derived.Lib.BitFns
import Derived.Lib.Walk
import Derived.Lib.Strings
import Derived.Lib.OthersKept
import Derived.Deep.CutBlock
import Derived.Deep.DeepCutAuto
import Derived.Deep.LoopGhost
import Derived.Deep.RegionHeld3
import Derived.Lib.SmallJoins
import Derived.Maps.AppendAt
import Derived.Laws.IdiomStrings
import Derived.Lib.AppendZeros
import Derived.Deep.WholeRow
import Derived.Laws.BitsAllLaws
import Derived.Lib.ConvBytes
import Derived.Deep.RegionLaw
import Derived.Maps.OwnSet
import Derived.Maps.OwnOps
import Derived.Maps.RangeWalk
import Derived.Maps.Ext
import Derived.DeepKeys4
import Derived.Laws.StructEq
import Derived.Deep.MidRow
import Derived.Lib.Bytealg
import Derived.Lib.Overlaps
import Derived.Lib.AppendZerosOnto
import Derived.Laws.MakeOwn
import Derived.Deep.Upon
import Derived.Sort.OwnSortedInts
namespace Go.Proofs.Ytmjaijpikbdfkaa
open Go.RowKit
set_option linter.unusedVariables false
set_option linter.unusedSimpArgs false
set_option maxRecDepth 20000
/-- small enough to be copied -/
def Sm (b : Bk) : Prop := b.cur.length ≤ 281474976710656 ∧ b.cuts.length ≤ 1000000 ∧ b.bar.length ≤ 1000000
theorem sm_of {b : Bk} (h : bkE C0 b = 0) : Sm b := by
  have := cur_len h
  exact ⟨by omega, by omega, by omega⟩
/-- a row of baskets of its own, and their lists -/
structure Nb (B : Nat) (w : World) (v : Value) (ys : List Bm) : Prop where
  o : w.ownsRow B 25 10 v ys.length (rcs bcs ys)
  h : ∀ y ∈ ys, Hx (fun k => B ≤ k) w y
theorem Nb.nil (B : Nat) (w : World) : Nb B w (.slice none 0 0) [] := ⟨World.ownsRow_nil _ _ _ _, fun y hy => (List.not_mem_nil hy).elim⟩
theorem Nb.below {B : Nat} {w w' : World} {v : Value} {ys : List Bm} (h : Nb B w v ys) (hb : Below w.heap.size w w') : Nb B w' v ys := ⟨own_below h.o hb, fun y hy => (h.h y hy).ag (.of_below hb)⟩
theorem Hx.grow {F : Nat → Prop} {w w' : World} {x : Bm} {B n : Nat} {v : Value} {cs : List Value} (h : Hx F w x) (ho : w.ownsRow B 25 10 v n cs) (hg : w.grownBy w' v.ownBlock) : Hx F w' x := by
  have hv : Ow (fun _ => True) w 25 10 v n cs := ⟨own_mono ho (Nat.zero_le _), fun _ _ => trivial⟩
  exact ⟨h.1.grown hg (fun q hq he => hv.apart h.1 (by decide) q hq he.symm), h.2.grown hg (fun q hq he => hv.apart h.2 (by decide) q hq he.symm)⟩
theorem Nb.rw {B : Nat} {w : World} {v : Value} {ys : List Bm} (h : Nb B w v ys) : ∃ a cap, v = .slice a ys.length cap ∧ ys.length ≤ cap ∧ Rw 10 bcs w a ys := own_rw bcs_len h.o rfl
def AaP (bs : List Bk) (w : World) (e : Ending) (w' : World) : Prop := ∃ v ys, e = .returned v ∧ Hid (ys.map (·.b) = bs ∧ Nb w.heap.size w' v ys ∧ Below w.heap.size w w')
theorem map_snoc {xs : List Bm} {k : Nat} (hk : k < xs.length) : (xs.take k).map (·.b) ++ [xs[k].b] = (xs.take (k + 1)).map (·.b) := by
  rw [← List.take_append_getElem hk, List.map_append]
  rfl
set_option maxHeartbeats 8000000 in
theorem xallap (xs : List Bm) (a : Option Addr) (cap : Nat) (w : World) (hr : Rw 10 bcs w a xs) (hx : ∀ x ∈ xs, Ha w.heap.size w x ∧ Sm x.b) (hl : xs.length ≤ 1000000) : Calls Try.prog 48 #[.slice a xs.length cap] w (AaP (xs.map (·.b)) w) := by
  have HR : Hid (Rw 10 bcs w a xs) := hr
  have HX : Hid (∀ x ∈ xs, Ha w.heap.size w x ∧ Sm x.b) := hx
  have hlz : (xs.length : Int) ≤ 1000000 := by omega
  clear hr hx
  go_enter Try.func48, Try.ntmps48
  go_wp2_with fail
  go_loopw [3, 8] (fun v i wr => ∃ (k : Nat) (ys : List Bm), k ≤ xs.length ∧ i = .int .i64 k ∧ Hid (ys.map (·.b) = (xs.take k).map (·.b) ∧ Nb w.heap.size wr v ys ∧ Below w.heap.size w wr))
    (fun _ i _ => xs.length - (intOf i).toNat)
  case atStart => exact ⟨0, [], Nat.zero_le _, rfl, rfl, Nb.nil _ _, Below.refl _ _⟩
  case round =>
    obtain ⟨k, ys, hk, rfl, HZ⟩ := hrel
    by_cases hkn : k < xs.length
    · have hkz : (k : Int) < (xs.length : Int) := by omega
      obtain ⟨blk, off, rfl, hbl, hcs⟩ := HR.out (by omega)
      have hc := hcs k hkn
      have hxk := HX.out xs[k] (List.getElem_mem hkn)
      have HM : Hid (ys.map (·.b) ++ [xs[k].b] = (xs.take (k + 1)).map (·.b)) := by unfold Hid; rw [HZ.out.1]; exact map_snoc hkn
      have hyl : ys.length = k := by
        have := congrArg List.length HZ.out.1
        simp at this
        omega
      have HB : Hid (Below w.heap.size w wr) := HZ.out.2.2
      have HN : Hid (Nb w.heap.size wr u3 ys) := HZ.out.2.1
      have HYL : Hid (ys.length = k) := hyl
      generalize xs[k] = x at *
      clear hcs HZ hyl
      have hb1 : Below wr.heap.size wr (wr.alloc (.cells (bcs x).toArray 25)) := below_a wr _
      have hbx : Below w.heap.size w (wr.alloc (.cells (bcs x).toArray 25)) := HB.out.trans (hb1.mono HB.out.size)
      have HC : Hid (Calls Try.prog 44 #[.agg (bcs x).toArray] (wr.alloc (.cells (bcs x).toArray 25)) fun e w' => ∃ a6 k6 a9 k9, e = .returned (.agg (bcs ⟨x.b, a6, k6, a9, k9⟩).toArray) ∧ Hid (∃ v' w4, (Builtin.append_ #[34, 34] 34 #[u3, .slice (some ⟨w'.heap.size, 0, none⟩) 1 1]).run Try.prog (w'.alloc (.cells (bcs ⟨x.b, a6, k6, a9, k9⟩).toArray 25)) = .ok v' w4 ∧ Nb w.heap.size w4 v' (ys ++ [⟨x.b, a6, k6, a9, k9⟩]) ∧ Below w.heap.size w w4)) := (xapart x hxk.2.1 _ (hxk.1.on hbx (Nat.le_refl _)) hxk.2.2.1 hxk.2.2.2).mono fun e w' hh => by
        obtain ⟨y, rfl, hy⟩ := hh
        obtain ⟨hyb, hyx, hyB⟩ := hy.out
        obtain ⟨yb, a6, k6, a9, k9⟩ := y
        obtain rfl : yb = x.b := hyb
        refine ⟨a6, k6, a9, k9, rfl, ?_⟩
        have hw : Below w.heap.size w w' := hbx.trans (hyB.mono hbx.size)
        have hn1 := (HN.out.below hb1).below hyB
        obtain ⟨v', w4, hr4, ho4, hg4, hv4⟩ := app_gen2 (T := 25) (Sl := 34) (k := 10) (bytes := 120) Try.underlying34 info25 rfl (by omega) (bcs ⟨x.b, a6, k6, a9, k9⟩) rfl (bcs_one _) hn1.o hw.size (by rw [HYL.out]; omega) (by rw [HYL.out]; unfold maxLen; omega)
        have hba := below_a w' (.cells (bcs ⟨x.b, a6, k6, a9, k9⟩).toArray 25)
        have hn2 := hn1.below hba
        refine ⟨v', w4, hr4, ⟨?_, fun z hz => ?_⟩, ?_⟩
        · rw [List.length_append, rcs_snoc]; exact ho4
        · rcases List.mem_append.1 hz with hz | hz
          · exact (hn2.h z hz).grow hn2.o hg4
          · simp at hz
            subst hz
            exact ((hyx.mono (fun j hj => Nat.le_trans hbx.size hj)).ag (.of_below hba)).grow hn2.o hg4
        · exact (hw.alloc hw.size _).grown hg4 (by simp; have := hw.size; omega) (fun j hj => (hn2.o.lt j hj).1)
      clear hxk hb1 hbx HN HX HR
      obtain ⟨⟨i0, i1, cu, i3, i4, i5, cuts, i7, i8, bar⟩, ca, cc, ba, bc⟩ := x
      simp only [bcs] at *
      have c0 : wr.cell? ⟨blk, off + k * 10, none⟩ = some (.int .i64 i0) := (HB.out.cell (p := ⟨blk, off + k * 10 + 0, none⟩) hbl).trans (hc 0 (by omega))
      have c1 : wr.cell? ⟨blk, off + k * 10 + 1, none⟩ = some (.int .i64 i1) := (HB.out.cell (p := ⟨blk, off + k * 10 + 1, none⟩) hbl).trans (hc 1 (by omega))
      have c2 : wr.cell? ⟨blk, off + k * 10 + 2, none⟩ = some (.string ⟨cu.toArray⟩) := (HB.out.cell (p := ⟨blk, off + k * 10 + 2, none⟩) hbl).trans (hc 2 (by omega))
      have c3 : wr.cell? ⟨blk, off + k * 10 + 3, none⟩ = some (.int .i64 i3) := (HB.out.cell (p := ⟨blk, off + k * 10 + 3, none⟩) hbl).trans (hc 3 (by omega))
      have c4 : wr.cell? ⟨blk, off + k * 10 + 4, none⟩ = some (.int .i64 i4) := (HB.out.cell (p := ⟨blk, off + k * 10 + 4, none⟩) hbl).trans (hc 4 (by omega))
      have c5 : wr.cell? ⟨blk, off + k * 10 + 5, none⟩ = some (.int .i64 i5) := (HB.out.cell (p := ⟨blk, off + k * 10 + 5, none⟩) hbl).trans (hc 5 (by omega))
      have c6 : wr.cell? ⟨blk, off + k * 10 + 6, none⟩ = some (.slice ca cuts.length cc) := (HB.out.cell (p := ⟨blk, off + k * 10 + 6, none⟩) hbl).trans (hc 6 (by omega))
      have c7 : wr.cell? ⟨blk, off + k * 10 + 7, none⟩ = some (.int .i64 i7) := (HB.out.cell (p := ⟨blk, off + k * 10 + 7, none⟩) hbl).trans (hc 7 (by omega))
      have c8 : wr.cell? ⟨blk, off + k * 10 + 8, none⟩ = some (.int .i64 i8) := (HB.out.cell (p := ⟨blk, off + k * 10 + 8, none⟩) hbl).trans (hc 8 (by omega))
      have c9 : wr.cell? ⟨blk, off + k * 10 + 9, none⟩ = some (.slice ba bar.length bc) := (HB.out.cell (p := ⟨blk, off + k * 10 + 9, none⟩) hbl).trans (hc 9 (by omega))
      clear hc HB
      generalize cuts.length = nc at *
      generalize bar.length = nb at *
      go_wp2_with (first | (go_at_call 44; refine HC.out.mono ?_; clear HC; rintro e w3 ⟨a6, k6, a9, k9, rfl, HF⟩; obtain ⟨v4, w4, hr4, hn4, hb4⟩ := HF.out; have HF4 : Hid (Nb w.heap.size w4 v4 (ys ++ [⟨⟨i0, i1, cu, i3, i4, i5, cuts, i7, i8, bar⟩, a6, k6, a9, k9⟩]) ∧ Below w.heap.size w w4) := ⟨hn4, hb4⟩; clear hn4 hb4 HF) | (at_builtin; refine Lib.wpList_append_run _ rfl _ _ 34 34 rfl _ _ rfl rfl _ w4 hr4 ?_))
      go_roundw
      case rel => exact ⟨k + 1, _, by omega, by simp, by rw [List.map_append]; exact HM.out, HF4.out.1, HF4.out.2⟩
      case measure => simp [intOf]; omega
    · have hkz : ¬ (k : Int) < (xs.length : Int) := by omega
      have HF : Hid (AaP (xs.map (·.b)) w (.returned u3) wr) := by
        have hz := HZ.out
        rw [show k = xs.length by omega, List.take_length] at hz
        exact ⟨u3, ys, rfl, hz.1, hz.2.1, hz.2.2⟩
      clear HZ
      go_wp2_with fail
      go_ret
      exact HF.out
end Go.Proofs.Ytmjaijpikbdfkaa
