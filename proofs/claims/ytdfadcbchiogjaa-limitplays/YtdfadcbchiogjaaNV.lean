/- layer 16: the document's Room -/
import Derived.Test.YtdfadcbchiogjaaNU
import Derived.WalkKit
import Derived.ProofKit
import Derived.Handy
import Derived.WalkLawsBesides
import Derived.WalkSpells
import Derived.BigQuiet
import Derived.BigCall
import Derived.Deep.QuietTactic
import Derived.Deep.Light
import Derived.Deep.OwnRows
import Derived.Laws.AppendOwnNone
import Derived.Laws.Strings3
import Derived.Laws.RangeAny
import Derived.Deep.RegionWith
import Derived.Lib.BitFns
import Derived.Lib.Walk
import Derived.Lib.Strings
import Derived.Lib.OthersKept
import Derived.Deep.CutBlock
import Derived.Deep.DeepCutAuto
import Derived.Deep.LoopGhost
import Derived.Deep.RegionHeld3
import Derived.Lib.SmallJoins
import Derived.Maps.AppendAt
import Derived.Laws.IdiomStrings
import Derived.Lib.AppendZeros
import Derived.Deep.WholeRow
import Derived.Laws.BitsAllLaws
import Derived.Lib.ConvBytes
import Derived.Deep.RegionLaw
import Derived.Maps.OwnSet
import Derived.Maps.OwnOps
import Derived.Maps.RangeWalk
import Derived.Maps.Ext
import Derived.DeepKeys4
import Derived.Laws.StructEq
import Derived.Deep.MidRow
import Derived.Lib.Bytealg
import Derived.Lib.AppendZerosOnto
import Derived.Laws.MakeOwn
import Derived.Deep.Upon
import Derived.Sort.KeysCollected
namespace Go.Proofs.Ytdfadcbchiogjaa
open Go.RowKit
set_option linter.unusedVariables false
set_option linter.unusedSimpArgs false
set_option maxRecDepth 20000
theorem take_bnd {L : List Pt} {M : Int} (h : ∀ p ∈ L, -M ≤ p.c ∧ p.c ≤ M) (j : Nat) : ∀ p ∈ L.take j, -M ≤ p.c ∧ p.c ≤ M := fun p hp => h p (List.mem_of_mem_take hp)
theorem Good.tkI {T : Tb} {k : Nat} (g : Good T k) (hk : k ≤ 1000) (n : Int) (j : Nat) : Rng (smI (T.L.take j) n) := by
  have h := smI_bnd (M := 1125899906842624) (by omega) (take_bnd g.c j) n
  have h1 := g.l
  have h2 : (T.L.take j).length ≤ 1000 := by rw [List.length_take]; omega
  have h3 : ((T.L.take j).length : Int) ≤ 1000 := by omega
  unfold Rng
  omega
theorem Good.tkA {T : Tb} {k : Nat} (g : Good T k) (hk : k ≤ 1000) (n : List UInt8) (j : Nat) : Rng (smA (T.L.take j) n) := by
  have h := smA_bnd (M := 1125899906842624) (by omega) (take_bnd g.c j) n
  have h1 := g.l
  have h2 : (T.L.take j).length ≤ 1000 := by rw [List.length_take]; omega
  have h3 : ((T.L.take j).length : Int) ≤ 1000 := by omega
  unfold Rng
  omega
theorem Good.tkS {T : Tb} {k : Nat} (g : Good T k) (hk : k ≤ 1000) (j : Nat) : Rng (sm (T.L.take j)) := by
  have h := sm_bnd (M := 1125899906842624) (take_bnd g.c j)
  have h1 := g.l
  have h2 : (T.L.take j).length ≤ 1000 := by rw [List.length_take]; omega
  have h3 : ((T.L.take j).length : Int) ≤ 1000 := by omega
  unfold Rng
  omega
def rtc (T : Tb) (v : Value) : List Value := [.int .i64 T.need, .int .i64 T.li, .int .i64 T.la, v]
theorem Lo.below {w w' : World} {v : Value} {L : List Pt} (h : Lo w v L) (hb : Below w.heap.size w w') : Lo w' v L := own_below h hb
set_option maxHeartbeats 8000000 in
theorem rroom {w : World} {v : Value} {T : Tb} {k : Nat} (h : Lo w v T.L) (g : Good T k) (hk : k ≤ 1000) {a : As} : Calls Try.prog 15 #[.agg (rtc T v).toArray, .agg (acs a).toArray] w (RmP (T.room a.iss a.i.data.toList) w) := by
  obtain ⟨w1, hw1⟩ : ∃ w1, (w.alloc (.cells (rtc T v).toArray 35)).alloc (.cells (acs a).toArray 28) = w1 := ⟨_, rfl⟩
  have HB : Hid (Below w.heap.size w w1) := by rw [← hw1]; exact (below_a w _).alloc (by simp) _
  have hX : Bx w1 w.heap.size (rtc T v).toArray 35 := by rw [← hw1]; exact (Bx.new w _ _).below (below_a _ _) (by simp)
  have hY : Bx w1 (w.heap.size + 1) (acs a).toArray 28 := by rw [← hw1]; have := Bx.new (w.alloc (.cells (rtc T v).toArray 35)) (acs a).toArray 28; rw [World.size_alloc] at this; exact this
  have h1 : Lo w1 v T.L := h.below HB.out
  obtain ⟨sa, sc, rfl, -⟩ := h.read
  have HX : Hid (∀ W, Below w1.heap.size w1 W → W.cell? ⟨w.heap.size, 0, none⟩ = some (.int .i64 T.need) ∧ W.cell? ⟨w.heap.size, 1, none⟩ = some (.int .i64 T.li) ∧ W.cell? ⟨w.heap.size, 2, none⟩ = some (.int .i64 T.la) ∧ W.cell? ⟨w.heap.size, 3, none⟩ = some (.slice sa T.L.length sc) ∧ W.cell? ⟨w.heap.size + 1, 0, none⟩ = some (.string a.i) ∧ W.cell? ⟨w.heap.size + 1, 1, none⟩ = some (.int .i64 a.iss)) := fun W hb => by
    have k1 := hX.below hb hX.lt
    have k2 := hY.below hb hY.lt
    exact ⟨k1.cell 0, k1.cell 1, k1.cell 2, k1.cell 3, k2.cell 0, k2.cell 1⟩
  have HI : Hid (∀ W, Below w1.heap.size w1 W → Calls Try.prog 30 #[.agg #[.int .i64 T.need, .int .i64 T.li, .int .i64 T.la, .slice sa T.L.length sc], .int .i64 a.iss] W fun e w' => ∃ u, e = .returned u ∧ (u = .int .i64 (smI T.L a.iss) ∧ Hid (Below w1.heap.size w1 w'))) := fun W hb =>
    (rissuer (h1.below hb) T.need T.li T.la a.iss (g.tkI hk a.iss) (by have := g.l; omega)).mono fun e w' hh => ⟨_, hh.1, rfl, hb.trans (hh.2.mono hb.size)⟩
  have HA : Hid (∀ W, Below w1.heap.size w1 W → Calls Try.prog 29 #[.agg #[.int .i64 T.need, .int .i64 T.li, .int .i64 T.la, .slice sa T.L.length sc], .string a.i] W fun e w' => ∃ u, e = .returned u ∧ (u = .int .i64 (smA T.L a.i.data.toList) ∧ Hid (Below w1.heap.size w1 w'))) := fun W hb =>
    (rasset (h1.below hb) T.need T.li T.la a.i (g.tkA hk a.i.data.toList) (by have := g.l; omega)).mono fun e w' hh => ⟨_, hh.1, rfl, hb.trans (hh.2.mono hb.size)⟩
  have gi := g.i a.iss
  have ga := g.a a.i.data.toList
  have gn := g.need
  have gl1 := g.li
  have gl2 := g.la
  have hw1' : wrap64 (T.li - smI T.L a.iss) = T.li - smI T.L a.iss := by unfold wrap64; omega
  have hw2' : wrap64 (T.la - smA T.L a.i.data.toList) = T.la - smA T.L a.i.data.toList := by unfold wrap64; omega
  have hv1' : IntKind.i64.wrap (T.li - smI T.L a.iss) = T.li - smI T.L a.iss := by rw [IntKind.wrap_i64]; omega
  have hv2' : IntKind.i64.wrap (T.la - smA T.L a.i.data.toList) = T.la - smA T.L a.i.data.toList := by rw [IntKind.wrap_i64]; omega
  have HF : Hid (∀ n W, n = max 0 (min (T.li - smI T.L a.iss) (T.la - smA T.L a.i.data.toList)) → Below w1.heap.size w1 W → RmP (T.room a.iss a.i.data.toList) w (.returned (.int .i64 n)) W) := fun n W hn hb => ⟨by rw [hn]; rfl, HB.out.trans (hb.mono HB.out.size)⟩
  obtain ⟨i, iss, rat, mat, c⟩ := a
  simp only [acs, rtc] at *
  obtain ⟨y0, y1, y2, y3, y4, y5⟩ := HX.out w1 (Below.refl _ _)
  generalize T.room iss i.data.toList = R at *
  generalize smI T.L iss = v1 at *
  generalize smA T.L i.data.toList = v2 at *
  have hv1n : 0 ≤ T.li - v1 := by omega
  have hv2n : 0 ≤ T.la - v2 := by omega
  clear h h1 hX hY g gi ga gn gl1 gl2
  go_enter Try.func15, Try.ntmps15
  go_upto_region 1 with fail
  go_cut [5] (fun v wx => v = .int .i64 (T.li - v1) ∧ Hid (Below w1.heap.size w1 wx))
  case first =>
    have HC1 := HI.out w1.drew (below_drew1 w1)
    go_region_law (refine step_call _ (by rfl) 30 #[.agg #[.int .i64 T.need, .int .i64 T.li, .int .i64 T.la, .slice sa T.L.length sc], .int .i64 iss] (by go_simp) _ HC1 ?_; clear HC1; rintro v9 w2 ⟨rfl, HB2⟩; obtain ⟨z0, z1, z2, z3, z4, z5⟩ := HX.out w2 HB2.out)
    all_goals
      go_wp2_with fail
      go_meet
      exact ⟨by first | rfl | rw [hv1'] | rw [hw1'], HB2.out⟩
  case rest =>
    obtain ⟨rfl, HB2⟩ := hcut
    clear y0 y1 y2 y3 y4 y5
    obtain ⟨y0, y1, y2, y3, y4, y5⟩ := HX.out wc HB2.out
    go_upto_region 2 with fail
    go_cut [21] (fun v wx => v = .bool (decide (T.la - v2 < T.li - v1)) ∧ Hid (Below w1.heap.size w1 wx))
    case first =>
      have HC2 := HA.out wc.drew HB2.out.drew
      go_region_law (refine step_call _ (by rfl) 29 #[.agg #[.int .i64 T.need, .int .i64 T.li, .int .i64 T.la, .slice sa T.L.length sc], .string i] (by go_simp) _ HC2 ?_; clear HC2; rintro v9 w3 ⟨rfl, HB3⟩; obtain ⟨z0, z1, z2, z3, z4, z5⟩ := HX.out w3 HB3.out)
      all_goals
        go_wp2_with fail
        go_meet
        exact ⟨by first | rfl | rw [hv2'] | rw [hw2'], HB3.out⟩
    case rest =>
      obtain ⟨rfl, HB3⟩ := hcut
      clear y0 y1 y2 y3 y4 y5
      obtain ⟨y0, y1, y2, y3, y4, y5⟩ := HX.out wc HB3.out
      by_cases hlt : T.la - v2 < T.li - v1
      · have hn0 : ¬ T.la - v2 < 0 := by omega
        have HE : Hid (T.la - v2 = max 0 (min (T.li - v1) (T.la - v2))) := by unfold Hid; omega
        have HC3 := HA.out wc.drew HB3.out.drew
        go_upto_region 3 with fail
        go_region_law (refine step_call _ (by rfl) 29 #[.agg #[.int .i64 T.need, .int .i64 T.li, .int .i64 T.la, .slice sa T.L.length sc], .string i] (by go_simp) _ HC3 ?_; clear HC3; rintro v9 w3 ⟨rfl, HB4⟩; obtain ⟨z0, z1, z2, z3, z4, z5⟩ := HX.out w3 HB4.out)
        all_goals
          go_wp2_with fail
          go_ret
          exact HF.out _ _ HE.out HB4.out
      · have hn0 : ¬ T.li - v1 < 0 := by omega
        have HE : Hid (T.li - v1 = max 0 (min (T.li - v1) (T.la - v2))) := by unfold Hid; omega
        go_wp2_with fail
        go_ret
        exact HF.out _ _ HE.out HB3.out
end Go.Proofs.Ytdfadcbchiogjaa
