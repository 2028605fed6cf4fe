/- layer 16: law Plays -/
import Derived.Test.YtdfadcbchiogjaaOE
import Derived.WalkKit
import Derived.ProofKit
import Derived.Handy
import Derived.WalkLawsBesides
import Derived.WalkSpells
import Derived.BigQuiet
import Derived.BigCall
import Derived.Deep.QuietTactic
import Derived.Deep.Light
import Derived.Deep.OwnRows
import Derived.Laws.AppendOwnNone
import Derived.Laws.Strings3
import Derived.Laws.RangeAny
import Derived.Deep.RegionWith
import Derived.Lib.BitFns
import Derived.Lib.Walk
import Derived.Lib.Strings
import Derived.Lib.OthersKept
import Derived.Deep.CutBlock
import Derived.Deep.DeepCutAuto
import Derived.Deep.LoopGhost
import Derived.Deep.RegionHeld3
import Derived.Lib.SmallJoins
import Derived.Maps.AppendAt
import Derived.Laws.IdiomStrings
import Derived.Lib.AppendZeros
import Derived.Deep.WholeRow
import Derived.Laws.BitsAllLaws
import Derived.Lib.ConvBytes
import Derived.Deep.RegionLaw
import Derived.Maps.OwnSet
import Derived.Maps.OwnOps
import Derived.Maps.RangeWalk
import Derived.Maps.Ext
import Derived.DeepKeys4
import Derived.Laws.StructEq
import Derived.Deep.MidRow
import Derived.Lib.Bytealg
import Derived.Lib.AppendZerosOnto
import Derived.Laws.MakeOwn
import Derived.Deep.Upon
import Derived.Sort.KeysCollected
namespace Go.Proofs.Ytdfadcbchiogjaa
open Go.RowKit
set_option linter.unusedVariables false
set_option linter.unusedSimpArgs false
set_option maxRecDepth 20000
def RlP (T : Tb) (E : Int) (w : World) (e : Ending) (w' : World) : Prop := ∃ a c, e = .returned (.tuple #[.agg #[.int .i64 T.need, .int .i64 T.li, .int .i64 T.la, .slice a T.L.length c], .int .i64 E]) ∧ Hid (Lo w' (.slice a T.L.length c) T.L ∧ Below w.heap.size w w')
theorem ra_lit {f : Nat} {xs : Array Value} {w : World} {T : Tb} {E : Int} (h : Calls Try.prog f xs w (RaP T E w)) : Calls Try.prog f xs w (RlP T E w) := h.mono fun e w' hh => by
  obtain ⟨v, rfl, hz⟩ := hh
  obtain ⟨a, c, rfl, -⟩ := own_read hz.out.1 hz.out.1.1
  exact ⟨a, c, rfl, hz⟩
set_option maxHeartbeats 32000000 in
theorem lplays (x : Bq) (need : Int) (l : List Ac) (a : Option Addr) (cap : Nat) (A : As) (w : World) (hA : Wa A) (hl : l.length ≤ cap) (hw : Rw 7 ccs w a l) (hc : ∀ y ∈ l, Wc y) (hn : l.length * 72 ≤ 140737488351232) :
    Calls Try.prog 3 #[.agg (bqs x).toArray, .int .i64 need, .slice a l.length cap, .agg (acs A).toArray] w (OkP w) := by
  have HK : Hid (∀ W, Calls Try.prog 22 #[] W (OkP W)) := fun W => xawake W
  obtain ⟨w1, hw1⟩ : ∃ w1, (w.alloc (.cells (bqs x).toArray 25)).alloc (.cells (acs A).toArray 28) = w1 := ⟨_, rfl⟩
  have HB : Hid (Below w.heap.size w w1) := by rw [← hw1]; exact (below_a w _).alloc (by simp) _
  have hX : Bx w1 w.heap.size (bqs x).toArray 25 := by rw [← hw1]; exact (Bx.new w _ _).below (below_a _ _) (by simp)
  have hY : Bx w1 (w.heap.size + 1) (acs A).toArray 28 := by rw [← hw1]; have := Bx.new (w.alloc (.cells (bqs x).toArray 25)) (acs A).toArray 28; rw [World.size_alloc] at this; exact this
  have hlz : (l.length : Int) ≤ 140737488351232 := by omega
  have HXC : Hid (∀ W, Below w1.heap.size w1 W → W.cell? ⟨w.heap.size, 0, none⟩ = some (.int .i64 x.id) ∧ W.cell? ⟨w.heap.size, 1, none⟩ = some (.int .i64 x.ver) ∧ W.cell? ⟨w.heap.size, 2, none⟩ = some (.string x.cur) ∧ W.cell? ⟨w.heap.size, 3, none⟩ = some (.int .i64 x.rat) ∧ W.cell? ⟨w.heap.size, 4, none⟩ = some (.int .i64 x.least) ∧ W.cell? ⟨w.heap.size, 5, none⟩ = some (.int .i64 x.most) ∧ W.cell? ⟨w.heap.size, 6, none⟩ = some (.slice x.ca x.cn x.cc) ∧ W.cell? ⟨w.heap.size, 7, none⟩ = some (.int .i64 x.iss) ∧ W.cell? ⟨w.heap.size, 8, none⟩ = some (.int .i64 x.ast) ∧ W.cell? ⟨w.heap.size, 9, none⟩ = some (.slice x.ba x.bn x.bc)) := fun W hb => by
    have h := hX.below hb hX.lt
    exact ⟨h.cell 0, h.cell 1, h.cell 2, h.cell 3, h.cell 4, h.cell 5, h.cell 6, h.cell 7, h.cell 8, h.cell 9⟩
  have HYC : Hid (∀ W, Below w1.heap.size w1 W → Bx W (w.heap.size + 1) (acs A).toArray 28) := fun W hb => hY.below hb hY.lt
  obtain ⟨x0, x1, x2, x3, x4, x5, x6, x7, x8, x9⟩ := HXC.out w1 (Below.refl _ _)
  by_cases hok : OkN need x.iss x.ast
  · have HN : Hid (Calls Try.prog 7 #[.agg (bqs x).toArray, .int .i64 need] w1 (NwP need x.iss x.ast w1)) := xnew x need hok w1
    have HN2 : Hid (∀ W, Calls Try.prog 8 #[.agg (bqs x).toArray, .int .i64 need] W (RnP need (prt need x.iss) (prt need x.ast) 0 W)) := fun W => (rnew x need W).mono fun e w' h => h.1 hok
    have HG : Hid (Good (newT need x.iss x.ast) 0) := newT_good hok
    have hneed : 0 ≤ need ∧ need ≤ 1125899906842624 := hok.1
    have HW : Hid (Rw 7 ccs w1 a l) := fun h0 => by
      obtain ⟨blk, off, e, hbl, hcs⟩ := hw h0
      exact ⟨blk, off, e, Nat.lt_of_lt_of_le hbl HB.out.size, fun i hi j hj => (HB.out.cell (p := ⟨blk, off + i * 7 + j, none⟩) hbl).trans (hcs i hi j hj)⟩
    have HC : Hid (∀ y ∈ l, Wc y) := hc
    have HWA : Hid (Wa A) := hA
    have HNT : Hid (newT need x.iss x.ast = ⟨need, prt need x.iss, prt need x.ast, []⟩) := rfl
    obtain ⟨id, ver, cur, rat, least, most, ca, cn, cc, iss, ast, ba, bn, bc⟩ := x
    obtain ⟨Ai, Aa, Ar, Am, Ac⟩ := A
    simp only [bqs, acs] at *
    clear hX hY hok hw hc hA
    generalize prt need iss = P1 at *
    generalize prt need ast = P2 at *
    go_enter Try.func3, Try.ntmps3
    go_upto_region 3 with (first
      | (go_at_call 7; refine HN.out.mono ?_; clear HN; rintro e w2 ⟨p, m1, m2, rfl, HZ⟩
         have HS0 : Hid (Ls w1 w2 p m1 m2 (newT need iss ast) 0) := ⟨HZ.out.1, HG.out, fun q hq => (by rw [HNT.out] at hq; exact absurd hq (by simp)), HZ.out.2.2.2.2, HZ.out.2.2.1, HZ.out.2.2.2.1⟩
         clear HZ x0 x1 x2 x3 x4 x5 x6 x7 x8 x9
         obtain ⟨x0, x1, x2, x3, x4, x5, x6, x7, x8, x9⟩ := HXC.out w2 HS0.out.b)
      | (go_at_call 8; refine (HN2.out w2).mono ?_; clear HN2; rintro e w3 ⟨rfl, HB3⟩))
    obtain ⟨W0, hW0⟩ : ∃ W0, w3.alloc (.cells #[.int .i64 need, .int .i64 P1, .int .i64 P2, .slice none 0 0] 35) = W0 := ⟨_, rfl⟩
    have HP0 : Hid (Ps w1 W0 p m1 m2 w3.heap.size (newT need iss ast) 0) := by
      have hls := HS0.out.below HB3.out
      rw [← hW0]
      refine ⟨hls.below (below_a _ _), ⟨none, 0, ?_, ?_⟩, hls.b.size⟩
      · rw [HNT.out]
        exact Bx.new w3 _ _
      · rw [HNT.out]
        exact World.ownsRow_nil _ _ _ _
    have HT0 : Hid ((newT need iss ast).need = need) := by rw [HNT.out]; rfl
    rw [hW0]
    clear hW0 HG HS0 HNT x0 x1 x2 x3 x4 x5 x6 x7 x8 x9 HXC
    generalize w3.heap.size = r at *
    clear HB3
    go_wp2_with fail
    go_loopw [13] (fun i wr => ∃ (k : Nat) (T : Tb), k ≤ l.length ∧ k ≤ 60 ∧ i = .int .i64 k ∧ Hid (Ps w1 wr p m1 m2 r T k ∧ T.need = need))
      (fun i _ => l.length - (intOf i).toNat)
    case atStart => exact ⟨0, newT need iss ast, Nat.zero_le _, by omega, rfl, HP0.out, HT0.out⟩
    case round =>
      obtain ⟨k, T, hk, hk60, rfl, HS⟩ := hrel
      clear HP0 HT0
      have hkl : (k : Int) ≤ 60 := by omega
      by_cases hkn : k < l.length ∧ k < 60
      · have hkz : (k : Int) < (l.length : Int) := by omega
        have hkz6 : (k : Int) < 60 := by omega
        obtain ⟨blk, off, rfl, hbl, hcs⟩ := HW.out (by omega)
        obtain ⟨c0, c1, c2, c3, c4, c5, c6⟩ := ccs_at hcs HS.out.1.ls.b hbl hkn.1
        have HCk : Hid (Wc l[k]) := HC.out _ (List.getElem_mem hkn.1)
        clear hcs hbl HC
        generalize l[k] = y at *
        obtain ⟨yk, ⟨yi, ya, yr, ym, ys⟩, yc⟩ := y
        simp only at *
        go_upto_region 9 with fail
        obtain ⟨wa, hwa⟩ : ∃ wa, wr.alloc (.cells #[.int .i64 yk, .string yi, .int .i64 ya, .int .i64 yr, .int .i64 ym, .string ys, .int .i64 yc] 39) = wa := ⟨_, rfl⟩
        have HPa : Hid (Ls w1 wa p m1 m2 T k) := by rw [← hwa]; exact HS.out.1.ls.below (below_a _ _)
        have hXa : Bx wa wr.heap.size #[.int .i64 yk, .string yi, .int .i64 ya, .int .i64 yr, .int .i64 ym, .string ys, .int .i64 yc] 39 := by rw [← hwa]; exact Bx.new wr _ _
        obtain ⟨ta, tc, hb0, hlo0⟩ := HS.out.1.rb
        have hRa : Bx wa r (rtc T (.slice ta T.L.length tc)).toArray 35 := by rw [← hwa]; exact hb0.below (below_a _ _) hb0.lt
        have hLa : Lo wa (.slice ta T.L.length tc) T.L := by rw [← hwa]; exact hlo0.below (below_a _ _)
        rw [hwa]
        clear hwa c0 c1 c2 c3 c4 c5 c6
        have HRL : Hid (w1.heap.size ≤ r ∧ T.need = need) := ⟨HS.out.1.rl, HS.out.2⟩
        have hgr : r ≠ wr.heap.size := bx_ne hRa hXa (by decide)
        have e0 : wa.cell? ⟨r, 0, none⟩ = some (.int .i64 T.need) := hRa.cell 0
        have e1 : wa.cell? ⟨r, 1, none⟩ = some (.int .i64 T.li) := hRa.cell 1
        have e2 : wa.cell? ⟨r, 2, none⟩ = some (.int .i64 T.la) := hRa.cell 2
        have e3 : wa.cell? ⟨r, 3, none⟩ = some (.slice ta T.L.length tc) := hRa.cell 3
        have d0 : wa.cell? ⟨wr.heap.size, 0, none⟩ = some (.int .i64 yk) := hXa.cell 0
        have d1 : wa.cell? ⟨wr.heap.size, 1, none⟩ = some (.string yi) := hXa.cell 1
        have d2 : wa.cell? ⟨wr.heap.size, 2, none⟩ = some (.int .i64 ya) := hXa.cell 2
        have d3 : wa.cell? ⟨wr.heap.size, 3, none⟩ = some (.int .i64 yr) := hXa.cell 3
        have d4 : wa.cell? ⟨wr.heap.size, 4, none⟩ = some (.int .i64 ym) := hXa.cell 4
        have d5 : wa.cell? ⟨wr.heap.size, 5, none⟩ = some (.string ys) := hXa.cell 5
        have d6 : wa.cell? ⟨wr.heap.size, 6, none⟩ = some (.int .i64 yc) := hXa.cell 6
        have HA1 : Hid (Calls Try.prog 9 #[.agg #[.int .i64 T.need, .int .i64 T.li, .int .i64 T.la, .slice ta T.L.length tc], .agg #[.string yi, .int .i64 ya, .int .i64 yr, .int .i64 ym, .string ys], .int .i64 yc] wa (RlP (T.add ya yi.data.toList yc) (addE T ya yi.data.toList yc) wa)) := ra_lit (radd hLa HPa.out.g (by omega) ⟨yi, ya, yr, ym, ys⟩ HCk.out.c)
        generalize wr.heap.size = gx at *
        have HM : Hid (Bx wa r (rtc T (.slice ta T.L.length tc)).toArray 35 ∧ Bx wa gx #[.int .i64 yk, .string yi, .int .i64 ya, .int .i64 yr, .int .i64 ym, .string ys, .int .i64 yc] 39 ∧ Lo wa (.slice ta T.L.length tc) T.L) := ⟨hRa, hXa, hLa⟩
        clear HS hRa hXa hLa hb0 hlo0
        go_upto_region 10 with (go_at_call 9; refine HA1.out.mono ?_; clear HA1; rintro e w3 ⟨sa3, sc3, rfl, HV⟩)
        clear e0 e1 e2 e3 d0 d1 d2 d3 d4 d5 d6
        obtain ⟨wb, hwb⟩ : ∃ wb, w3.alloc (.cells #[.int .i64 (T.add ya yi.data.toList yc).need, .int .i64 (T.add ya yi.data.toList yc).li, .int .i64 (T.add ya yi.data.toList yc).la, .slice sa3 (T.add ya yi.data.toList yc).L.length sc3] 35) = wb := ⟨_, rfl⟩
        have HQ : Hid (Ls w1 wb p m1 m2 T k ∧ (Bx wb r (rtc T (.slice ta T.L.length tc)).toArray 35 ∧ Bx wb gx #[.int .i64 yk, .string yi, .int .i64 ya, .int .i64 yr, .int .i64 ym, .string ys, .int .i64 yc] 39 ∧ Lo wb (.slice ta T.L.length tc) T.L) ∧ Bx wb w3.heap.size (rtc (T.add ya yi.data.toList yc) (.slice sa3 (T.add ya yi.data.toList yc).L.length sc3)).toArray 35 ∧ Lo wb (.slice sa3 (T.add ya yi.data.toList yc).L.length sc3) (T.add ya yi.data.toList yc).L ∧ r ≠ w3.heap.size ∧ w1.heap.size ≤ w3.heap.size) := by
          have hb3 := HV.out.2
          have hba := below_a w3 (.cells #[.int .i64 (T.add ya yi.data.toList yc).need, .int .i64 (T.add ya yi.data.toList yc).li, .int .i64 (T.add ya yi.data.toList yc).la, .slice sa3 (T.add ya yi.data.toList yc).L.length sc3] 35)
          rw [hwb] at hba
          have hab : Below wa.heap.size wa wb := hb3.trans (hba.mono hb3.size)
          refine ⟨HPa.out.below hab, ⟨HM.out.1.below hab HM.out.1.lt, HM.out.2.1.below hab HM.out.2.1.lt, HM.out.2.2.below hab⟩, ?_, HV.out.1.below hba, ?_, ?_⟩
          · rw [← hwb]; exact Bx.new w3 _ _
          · have := HM.out.1.lt
            have := hb3.size
            omega
          · have := HPa.out.b.size
            have := hb3.size
            omega
        rw [hwb]
        clear hwb HPa HM HV
        generalize w3.heap.size = b at *
        have hba0 := HQ.out.2.1.2.1
        have d0 : wb.cell? ⟨gx, 0, none⟩ = some (.int .i64 yk) := hba0.cell 0
        have d1 : wb.cell? ⟨gx, 1, none⟩ = some (.string yi) := hba0.cell 1
        have d2 : wb.cell? ⟨gx, 2, none⟩ = some (.int .i64 ya) := hba0.cell 2
        have d3 : wb.cell? ⟨gx, 3, none⟩ = some (.int .i64 yr) := hba0.cell 3
        have d4 : wb.cell? ⟨gx, 4, none⟩ = some (.int .i64 ym) := hba0.cell 4
        have d5 : wb.cell? ⟨gx, 5, none⟩ = some (.string ys) := hba0.cell 5
        have d6 : wb.cell? ⟨gx, 6, none⟩ = some (.int .i64 yc) := hba0.cell 6
        have e0 : wb.cell? ⟨r, 0, none⟩ = some (.int .i64 T.need) := HQ.out.2.1.1.cell 0
        have e1 : wb.cell? ⟨r, 1, none⟩ = some (.int .i64 T.li) := HQ.out.2.1.1.cell 1
        have e2 : wb.cell? ⟨r, 2, none⟩ = some (.int .i64 T.la) := HQ.out.2.1.1.cell 2
        have e3 : wb.cell? ⟨r, 3, none⟩ = some (.slice ta T.L.length tc) := HQ.out.2.1.1.cell 3
        clear hba0
        go_upto_if 70 with fail
        go_cut [16, 17] (fun e16 e17 wx => ∃ (E : Int) (T' : Tb), e16 = .int .i64 E ∧ e17 = .int .i64 E ∧ Hid (Qs w1 wx p m1 m2 r b gx T' (k + 1) ⟨yk, ⟨yi, ya, yr, ym, ys⟩, yc⟩ ∧ T'.need = need))
        case first =>
          by_cases hy : yk = 0
          · have hyz : (yk == 0) = true := by simp [hy]
            have HA : Hid (Calls Try.prog 10 #[.pointer (some ⟨p, 0, none⟩), .agg #[.string yi, .int .i64 ya, .int .i64 yr, .int .i64 ym, .string ys], .int .i64 yc] wb fun e w' => e = .returned (.int .i64 (addE T ya yi.data.toList yc : Nat)) ∧ Hid (Qs w1 w' p m1 m2 r b gx (T.add ya yi.data.toList yc) (k + 1) ⟨yk, ⟨yi, ya, yr, ym, ys⟩, yc⟩ ∧ (T.add ya yi.data.toList yc).need = need)) :=
              (ls_add HQ.out.1 (by omega) HCk.out.a HCk.out.c).mono fun e w' hh => by
                obtain ⟨rfl, hz⟩ := hh
                have hk' := hz.out.2
                have ht := HQ.out.1.t
                have hr' := HQ.out.2.1.1.kt hk' ht
                refine ⟨rfl, ⟨hz.out.1, ⟨fun j => (rtc T (.slice ta T.L.length tc)).getD j undef, hr'⟩, ⟨sa3, sc3, HQ.out.2.2.1.kt hk' ht, HQ.out.2.2.2.1.kt hk' ht⟩, HQ.out.2.1.2.1.kt hk' ht, HQ.out.2.2.2.2.1, HRL.out.1, HQ.out.2.2.2.2.2⟩, ?_⟩
                rw [Tb.add_need]
                exact HRL.out.2
            clear HCk HQ HRL hy e0 e1 e2 e3
            generalize (addE T ya yi.data.toList yc : Nat) = E at *
            generalize T.add ya yi.data.toList yc = T' at *
            go_wp2_with (go_at_call 10; refine HA.out.mono ?_; clear HA; rintro e w5 ⟨rfl, HZ⟩)
            go_meet
            exact ⟨_, T', rfl, rfl, HZ.out⟩
          · have hyz : (yk == 0) = false := by simp [hy]
            have HT1 : Hid (Calls Try.prog 11 #[.agg #[.int .i64 T.need, .int .i64 T.li, .int .i64 T.la, .slice ta T.L.length tc], .agg #[.string yi, .int .i64 ya, .int .i64 yr, .int .i64 ym, .string ys], .int .i64 yc] wb (RlP (T.take ya yi.data.toList yc) (tkE T ya yi.data.toList yc) wb)) := ra_lit (rtake HQ.out.2.1.2.2 HQ.out.1.g (by omega) ⟨yi, ya, yr, ym, ys⟩ HCk.out.c)
            generalize T.add ya yi.data.toList yc = Ta at *
            have HBc : Hid (∀ W, Below wb.heap.size wb W → (W.cell? ⟨b, 0, none⟩ = some (.int .i64 Ta.need) ∧ W.cell? ⟨b, 1, none⟩ = some (.int .i64 Ta.li) ∧ W.cell? ⟨b, 2, none⟩ = some (.int .i64 Ta.la) ∧ W.cell? ⟨b, 3, none⟩ = some (.slice sa3 Ta.L.length sc3)) ∧ W.frozen? ⟨b, 0, none⟩ = false ∧ W.frozen? ⟨b, 1, none⟩ = false ∧ W.frozen? ⟨b, 2, none⟩ = false ∧ W.frozen? ⟨b, 3, none⟩ = false ∧
                W.cell? ⟨gx, 0, none⟩ = some (.int .i64 yk)) := fun W hb => by
              have h := HQ.out.2.2.1.below hb HQ.out.2.2.1.lt
              have h2 := HQ.out.2.1.2.1.below hb HQ.out.2.1.2.1.lt
              exact ⟨⟨h.cell 0, h.cell 1, h.cell 2, h.cell 3⟩, h.froz 0, h.froz 1, h.froz 2, h.froz 3, h2.cell 0⟩
            go_upto_region 14 with (go_at_call 11; refine HT1.out.mono ?_; clear HT1; rintro e w5 ⟨sa5, sc5, rfl, HV⟩; obtain ⟨⟨b0, b1, b2, b3⟩, f0, f1, f2, f3, -⟩ := HBc.out w5 HV.out.2)
            obtain ⟨wc2, hwc2⟩ : ∃ W, s4 w5 b (.int .i64 (T.take ya yi.data.toList yc).need) (.int .i64 (T.take ya yi.data.toList yc).li) (.int .i64 (T.take ya yi.data.toList yc).la) (.slice sa5 (T.take ya yi.data.toList yc).L.length sc5) = W := ⟨_, rfl⟩
            have HQ2 : Hid (Ls w1 wc2 p m1 m2 T k ∧ Bx wc2 r (rtc T (.slice ta T.L.length tc)).toArray 35 ∧ Bx wc2 gx #[.int .i64 yk, .string yi, .int .i64 ya, .int .i64 yr, .int .i64 ym, .string ys, .int .i64 yc] 39 ∧ Bx wc2 b (rtc (T.take ya yi.data.toList yc) (.slice sa5 (T.take ya yi.data.toList yc).L.length sc5)).toArray 35 ∧ Lo wc2 (.slice sa5 (T.take ya yi.data.toList yc).L.length sc5) (T.take ya yi.data.toList yc).L) := by
              have hb5 := HV.out.2
              have hbb := HQ.out.2.2.1.below hb5 HQ.out.2.2.1.lt
              have hrr := HQ.out.2.1.1.below hb5 HQ.out.2.1.1.lt
              have hgg := HQ.out.2.1.2.1.below hb5 HQ.out.2.1.2.1.lt
              have hg := s4_grown w5 b (.int .i64 (T.take ya yi.data.toList yc).need) (.int .i64 (T.take ya yi.data.toList yc).li) (.int .i64 (T.take ya yi.data.toList yc).la) (.slice sa5 (T.take ya yi.data.toList yc).L.length sc5)
              rw [hwc2] at hg
              refine ⟨(HQ.out.1.below hb5).set hbb HQ.out.2.2.2.2.2 hg, hrr.kept hg (by have := HQ.out.2.2.2.2.1; simp [this]), hgg.kept hg (by have := bx_ne hgg hbb (by decide); simp [this]), ?_, HV.out.1.keep hbb hg⟩
              rw [← hwc2]
              exact set4 hbb
            have HNE : Hid (r ≠ b ∧ w1.heap.size ≤ b) := HQ.out.2.2.2.2
            show Code.wp _ _ _ _ (s4 w5 b (.int .i64 (T.take ya yi.data.toList yc).need) (.int .i64 (T.take ya yi.data.toList yc).li) (.int .i64 (T.take ya yi.data.toList yc).la) (.slice sa5 (T.take ya yi.data.toList yc).L.length sc5))
            rw [hwc2]
            clear hwc2 HQ HV HBc b0 b1 b2 b3 f0 f1 f2 f3 e0 e1 e2 e3 d0 d1 d2 d3 d4 d5 d6
            have hgg0 := HQ2.out.2.2.1
            have d0 : wc2.cell? ⟨gx, 0, none⟩ = some (.int .i64 yk) := hgg0.cell 0
            have d1 : wc2.cell? ⟨gx, 1, none⟩ = some (.string yi) := hgg0.cell 1
            have d2 : wc2.cell? ⟨gx, 2, none⟩ = some (.int .i64 ya) := hgg0.cell 2
            have d3 : wc2.cell? ⟨gx, 3, none⟩ = some (.int .i64 yr) := hgg0.cell 3
            have d4 : wc2.cell? ⟨gx, 4, none⟩ = some (.int .i64 ym) := hgg0.cell 4
            have d5 : wc2.cell? ⟨gx, 5, none⟩ = some (.string ys) := hgg0.cell 5
            have d6 : wc2.cell? ⟨gx, 6, none⟩ = some (.int .i64 yc) := hgg0.cell 6
            have HTk : Hid (Calls Try.prog 12 #[.pointer (some ⟨p, 0, none⟩), .agg #[.string yi, .int .i64 ya, .int .i64 yr, .int .i64 ym, .string ys], .int .i64 yc] wc2 fun e w' => e = .returned (.int .i64 (tkE T ya yi.data.toList yc : Nat)) ∧ Hid (Qs w1 w' p m1 m2 r b gx (T.take ya yi.data.toList yc) (k + 1) ⟨yk, ⟨yi, ya, yr, ym, ys⟩, yc⟩ ∧ (T.take ya yi.data.toList yc).need = need)) :=
              (ls_take HQ2.out.1 (by omega) HCk.out.a HCk.out.c).mono fun e w' hh => by
                obtain ⟨rfl, hz⟩ := hh
                have hk' := hz.out.2
                have ht := HQ2.out.1.t
                have hr' := HQ2.out.2.1.kt hk' ht
                refine ⟨rfl, ⟨hz.out.1, ⟨fun j => (rtc T (.slice ta T.L.length tc)).getD j undef, hr'⟩, ⟨sa5, sc5, HQ2.out.2.2.2.1.kt hk' ht, HQ2.out.2.2.2.2.kt hk' ht⟩, HQ2.out.2.2.1.kt hk' ht, HNE.out.1, HRL.out.1, HNE.out.2⟩, ?_⟩
                rw [Tb.take_need]
                exact HRL.out.2
            clear hgg0 HQ2 HCk HRL HNE hy
            generalize (tkE T ya yi.data.toList yc : Nat) = E at *
            generalize T.take ya yi.data.toList yc = T' at *
            go_wp2_with (go_at_call 12; refine HTk.out.mono ?_; clear HTk; rintro e w6 ⟨rfl, HZ⟩)
            go_meet
            exact ⟨_, T', rfl, rfl, HZ.out⟩
        case rest =>
          obtain ⟨E, T', rfl, rfl, HQ1⟩ := hcut
          clear d0 d1 d2 d3 d4 d5 d6 e0 e1 e2 e3 HQ HRL
          obtain ⟨ba', bc', hbb, hblo⟩ := HQ1.out.1.bb
          obtain ⟨xs, hrb⟩ := HQ1.out.1.rb
          have b0 : wc.cell? ⟨b, 0, none⟩ = some (.int .i64 T'.need) := hbb.cell 0
          have b1 : wc.cell? ⟨b, 1, none⟩ = some (.int .i64 T'.li) := hbb.cell 1
          have b2 : wc.cell? ⟨b, 2, none⟩ = some (.int .i64 T'.la) := hbb.cell 2
          have b3 : wc.cell? ⟨b, 3, none⟩ = some (.slice ba' T'.L.length bc') := hbb.cell 3
          have r0 : wc.cell? ⟨r, 0, none⟩ = some (xs 0) := hrb.cell 0
          have r1 : wc.cell? ⟨r, 1, none⟩ = some (xs 1) := hrb.cell 1
          have r2 : wc.cell? ⟨r, 2, none⟩ = some (xs 2) := hrb.cell 2
          have r3 : wc.cell? ⟨r, 3, none⟩ = some (xs 3) := hrb.cell 3
          have f0 : wc.frozen? ⟨r, 0, none⟩ = false := hrb.froz 0
          have f1 : wc.frozen? ⟨r, 1, none⟩ = false := hrb.froz 1
          have f2 : wc.frozen? ⟨r, 2, none⟩ = false := hrb.froz 2
          have f3 : wc.frozen? ⟨r, 3, none⟩ = false := hrb.froz 3
          have HZ0 : Hid (∀ W, s4 wc r (.int .i64 T'.need) (.int .i64 T'.li) (.int .i64 T'.la) (.slice ba' T'.L.length bc') = W → Ls w1 W p m1 m2 T' (k + 1) ∧ Bx W r (rtc T' (.slice ba' T'.L.length bc')).toArray 35 ∧ Bx W gx #[.int .i64 yk, .string yi, .int .i64 ya, .int .i64 yr, .int .i64 ym, .string ys, .int .i64 yc] 39 ∧ Lo W (.slice ba' T'.L.length bc') T'.L) := fun W hW => by
            have hg := s4_grown wc r (.int .i64 T'.need) (.int .i64 T'.li) (.int .i64 T'.la) (.slice ba' T'.L.length bc')
            rw [hW] at hg
            have hgb : Bx wc gx #[.int .i64 yk, .string yi, .int .i64 ya, .int .i64 yr, .int .i64 ym, .string ys, .int .i64 yc] 39 := HQ1.out.1.gb
            refine ⟨HQ1.out.1.ls.set hrb HQ1.out.1.rl hg, ?_, hgb.kept hg (by have := bx_ne hgb hrb (by decide); simp [this]), hblo.keep hrb hg⟩
            rw [← hW]
            exact set4 hrb
          have HRL : Hid (w1.heap.size ≤ r ∧ T'.need = need) := ⟨HQ1.out.1.rl, HQ1.out.2⟩
          clear hbb hrb hblo HQ1
          go_upto_region 16 with fail
          show Code.wp _ _ _ _ (s4 wc r (.int .i64 T'.need) (.int .i64 T'.li) (.int .i64 T'.la) (.slice ba' T'.L.length bc'))
          obtain ⟨wz, hwz⟩ : ∃ W, s4 wc r (.int .i64 T'.need) (.int .i64 T'.li) (.int .i64 T'.la) (.slice ba' T'.L.length bc') = W := ⟨_, rfl⟩
          have HZ := hid_in (HZ0.out wz hwz)
          rw [hwz]
          clear hwz HZ0 b0 b1 b2 b3 r0 r1 r2 r3 f0 f1 f2 f3
          have e0 : wz.cell? ⟨r, 0, none⟩ = some (.int .i64 T'.need) := HZ.out.2.1.cell 0
          have e1 : wz.cell? ⟨r, 1, none⟩ = some (.int .i64 T'.li) := HZ.out.2.1.cell 1
          have e2 : wz.cell? ⟨r, 2, none⟩ = some (.int .i64 T'.la) := HZ.out.2.1.cell 2
          have e3 : wz.cell? ⟨r, 3, none⟩ = some (.slice ba' T'.L.length bc') := HZ.out.2.1.cell 3
          have HSm : Hid (Calls Try.prog 13 #[.agg #[.int .i64 T'.need, .int .i64 T'.li, .int .i64 T'.la, .slice ba' T'.L.length bc']] wz (RmP (sm T'.L) wz)) := rsum HZ.out.2.2.2 T'.need T'.li T'.la (HZ.out.1.g.tkS (by omega)) (by have := HZ.out.1.g.l; omega)
          have hsb : -1125899906842624 * 61 ≤ sm T'.L ∧ sm T'.L ≤ 1125899906842624 * 61 := by have h1 := HZ.out.1.g.sum; have h2 := HZ.out.1.g.l; have h3 : (T'.L.length : Int) ≤ 61 := by omega
                                                                                              omega
          have hws : wrap64 (need - sm T'.L) = need - sm T'.L := by unfold wrap64; omega
          have HOp : Hid (T'.open = max 0 (need - sm T'.L)) := by unfold Hid Tb.open; rw [HRL.out.2]
          go_upto_region 17 with (go_at_call 13; refine HSm.out.mono ?_; clear HSm; rintro e w7 ⟨rfl, b7⟩)
          have HZ7 : Hid (Ls w1 w7 p m1 m2 T' (k + 1) ∧ Bx w7 r (rtc T' (.slice ba' T'.L.length bc')).toArray 35 ∧ Bx w7 gx #[.int .i64 yk, .string yi, .int .i64 ya, .int .i64 yr, .int .i64 ym, .string ys, .int .i64 yc] 39 ∧ Lo w7 (.slice ba' T'.L.length bc') T'.L) := ⟨HZ.out.1.below b7, HZ.out.2.1.below b7 HZ.out.2.1.lt, HZ.out.2.2.1.below b7 HZ.out.2.2.1.lt, HZ.out.2.2.2.below b7⟩
          clear HZ b7 e0 e1 e2 e3
          go_upto_if 98 with fail
          go_cut [18] (fun v wx => v = .int .i64 T'.open ∧ wx = w7)
          case first =>
            generalize sm T'.L = sT at *
            generalize T'.open = oT at *
            by_cases hlt : need - sT < 0
            · have ho0 : oT = 0 := by have := HOp.out; omega
              subst ho0
              clear HOp
              go_wp2_with fail
              go_meet
              exact ⟨rfl, rfl⟩
            · have ho0 : oT = need - sT := by have := HOp.out; omega
              subst ho0
              clear HOp
              go_wp2_with fail
              go_meet
              exact ⟨by first | rfl | rw [hws], rfl⟩
          case rest =>
            obtain ⟨rfl, rfl⟩ := hcut
            clear hws hsb HOp
            generalize hU : T'.uses = U at *
            have HUl : Hid (U.length ≤ 1000000) := by have := uses_len T'; have := HZ7.out.1.g.l; unfold Hid; rw [← hU]; omega
            have HSc : Hid (∀ W, Below wc.heap.size wc W → (W.cell? ⟨r, 0, none⟩ = some (.int .i64 T'.need) ∧ W.cell? ⟨r, 1, none⟩ = some (.int .i64 T'.li) ∧ W.cell? ⟨r, 2, none⟩ = some (.int .i64 T'.la) ∧ W.cell? ⟨r, 3, none⟩ = some (.slice ba' T'.L.length bc')) ∧
                (W.cell? ⟨gx, 1, none⟩ = some (.string yi) ∧ W.cell? ⟨gx, 2, none⟩ = some (.int .i64 ya) ∧ W.cell? ⟨gx, 3, none⟩ = some (.int .i64 yr) ∧ W.cell? ⟨gx, 4, none⟩ = some (.int .i64 ym) ∧ W.cell? ⟨gx, 5, none⟩ = some (.string ys)) ∧
                (W.cell? ⟨w.heap.size + 1, 0, none⟩ = some (.string Ai) ∧ W.cell? ⟨w.heap.size + 1, 1, none⟩ = some (.int .i64 Aa) ∧ W.cell? ⟨w.heap.size + 1, 2, none⟩ = some (.int .i64 Ar) ∧ W.cell? ⟨w.heap.size + 1, 3, none⟩ = some (.int .i64 Am) ∧ W.cell? ⟨w.heap.size + 1, 4, none⟩ = some (.string Ac))) := fun W hb => by
              have k1 := HZ7.out.2.1.below hb HZ7.out.2.1.lt
              have k2 := HZ7.out.2.2.1.below hb HZ7.out.2.2.1.lt
              have k3 := HYC.out W (HZ7.out.1.b.trans (hb.mono HZ7.out.1.b.size))
              exact ⟨⟨k1.cell 0, k1.cell 1, k1.cell 2, k1.cell 3⟩, ⟨k2.cell 1, k2.cell 2, k2.cell 3, k2.cell 4, k2.cell 5⟩, ⟨k3.cell 0, k3.cell 1, k3.cell 2, k3.cell 3, k3.cell 4⟩⟩
            have HR1 : Hid (∀ W, Below wc.heap.size wc W → Calls Try.prog 14 #[.pointer (some ⟨p, 0, none⟩), .agg #[.string yi, .int .i64 ya, .int .i64 yr, .int .i64 ym, .string ys]] W fun e w' => e = .returned (.int .i64 (T'.room ya yi.data.toList)) ∧ Hid (Below wc.heap.size wc w')) := fun W hb => (ls_room (HZ7.out.1.below hb) HCk.out.a).mono fun e w' hh => ⟨hh.1, hb.trans (hh.2.out.2.mono hb.size)⟩
            have HR2 : Hid (∀ W, Below wc.heap.size wc W → Calls Try.prog 15 #[.agg #[.int .i64 T'.need, .int .i64 T'.li, .int .i64 T'.la, .slice ba' T'.L.length bc'], .agg #[.string yi, .int .i64 ya, .int .i64 yr, .int .i64 ym, .string ys]] W fun e w' => e = .returned (.int .i64 (T'.room ya yi.data.toList)) ∧ Hid (Below wc.heap.size wc w')) := fun W hb => (rroom (HZ7.out.2.2.2.below hb) HZ7.out.1.g (by omega) (a := ⟨yi, ya, yr, ym, ys⟩)).mono fun e w' hh => ⟨hh.1, hb.trans (hh.2.mono hb.size)⟩
            have HR3 : Hid (∀ W, Below wc.heap.size wc W → Calls Try.prog 14 #[.pointer (some ⟨p, 0, none⟩), .agg #[.string Ai, .int .i64 Aa, .int .i64 Ar, .int .i64 Am, .string Ac]] W fun e w' => e = .returned (.int .i64 (T'.room Aa Ai.data.toList)) ∧ Hid (Below wc.heap.size wc w')) := fun W hb => (ls_room (HZ7.out.1.below hb) HWA.out).mono fun e w' hh => ⟨hh.1, hb.trans (hh.2.out.2.mono hb.size)⟩
            have HR4 : Hid (∀ W, Below wc.heap.size wc W → Calls Try.prog 15 #[.agg #[.int .i64 T'.need, .int .i64 T'.li, .int .i64 T'.la, .slice ba' T'.L.length bc'], .agg #[.string Ai, .int .i64 Aa, .int .i64 Ar, .int .i64 Am, .string Ac]] W fun e w' => e = .returned (.int .i64 (T'.room Aa Ai.data.toList)) ∧ Hid (Below wc.heap.size wc w')) := fun W hb => (rroom (HZ7.out.2.2.2.below hb) HZ7.out.1.g (by omega) (a := ⟨Ai, Aa, Ar, Am, Ac⟩)).mono fun e w' hh => ⟨hh.1, hb.trans (hh.2.mono hb.size)⟩
            have HR5 : Hid (∀ W, Below wc.heap.size wc W → Calls Try.prog 16 #[.pointer (some ⟨p, 0, none⟩)] W fun e w' => e = .returned (.int .i64 (sm T'.L)) ∧ Hid (Below wc.heap.size wc w')) := fun W hb => (ls_sum (HZ7.out.1.below hb) (by omega)).mono fun e w' hh => ⟨hh.1, hb.trans (hh.2.out.2.mono hb.size)⟩
            have HR6 : Hid (∀ W, Below wc.heap.size wc W → Calls Try.prog 13 #[.agg #[.int .i64 T'.need, .int .i64 T'.li, .int .i64 T'.la, .slice ba' T'.L.length bc']] W fun e w' => e = .returned (.int .i64 (sm T'.L)) ∧ Hid (Below wc.heap.size wc w')) := fun W hb => (rsum (HZ7.out.2.2.2.below hb) T'.need T'.li T'.la (HZ7.out.1.g.tkS (by omega)) (by have := HZ7.out.1.g.l; omega)).mono fun e w' hh => ⟨hh.1, hb.trans (hh.2.mono hb.size)⟩
            have HR7 : Hid (∀ W, Below wc.heap.size wc W → Calls Try.prog 17 #[.pointer (some ⟨p, 0, none⟩)] W fun e w' => e = .returned (.int .i64 T'.open) ∧ Hid (Below wc.heap.size wc w')) := fun W hb => (ls_open (HZ7.out.1.below hb) (by omega)).mono fun e w' hh => ⟨hh.1, hb.trans (hh.2.out.2.mono hb.size)⟩
            have HR8 : Hid (∀ W, Below wc.heap.size wc W → Calls Try.prog 20 #[.pointer (some ⟨p, 0, none⟩)] W fun e w' => ∃ ua uc, e = .returned (.slice ua U.length uc) ∧ Hid (Below wc.heap.size wc w' ∧ Rw 4 ucs w' ua U)) := fun W hb => by
              have := ls_uses (HZ7.out.1.below hb) (by omega)
              rw [hU] at this
              exact this.mono fun e w' hh => by
                obtain ⟨ua, uc, rfl, hz⟩ := hh
                exact ⟨ua, uc, rfl, hb.trans (hz.out.2.2.mono hb.size), hz.out.1⟩
            have HR9 : Hid (∀ W ua uc, Below wc.heap.size wc W → Rw 4 ucs W ua U → Calls Try.prog 19 #[.slice ua U.length uc] W fun e w' => ∃ ra rc, e = .returned (.slice ra U.length rc) ∧ Hid (Below wc.heap.size wc w' ∧ Rw 4 ucs w' ra U)) := fun W ua uc hb hr => (ls_told (HZ7.out.1.below hb) HUl.out hr).mono fun e w' hh => by
              obtain ⟨ra, rc, rfl, hz⟩ := hh
              exact ⟨ra, rc, rfl, hb.trans (hz.out.2.2.mono hb.size), own_rw' hz.out.1⟩
            have HR10 : Hid (∀ W ra, Below wc.heap.size wc W → Rw 4 ucs W ra U → Calls Try.prog 21 #[.agg #[.int .i64 T'.need, .int .i64 T'.li, .int .i64 T'.la, .slice ba' T'.L.length bc']] W fun e w' => ∃ da dc, e = .returned (.slice da U.length dc) ∧ Hid (Below wc.heap.size wc w' ∧ Rw 4 ucs w' ra U ∧ Rw 4 ucs w' da U)) := fun W ra hb hr => by
              have hp := HZ7.out.1.g.useP (by omega)
              have := ruses (HZ7.out.2.2.2.below hb) hp.1 hp.2.1 hp.2.2 HZ7.out.1.z
              rw [hU] at this
              exact this.mono fun e w' hh => by
                obtain ⟨v, rfl, hz⟩ := hh
                obtain ⟨da, dc, rfl, _, hd⟩ := own_rw ucs_len hz.out.1 rfl
                exact ⟨da, dc, rfl, hb.trans (hz.out.2.mono hb.size), hr.below hz.out.2, hd⟩
            have HR11 : Hid (∀ W ra rc da dc, Below wc.heap.size wc W → Rw 4 ucs W ra U → Rw 4 ucs W da U → Calls Try.prog 18 #[.slice ra U.length rc, .slice da U.length dc] W fun e w' => e = .returned (.bool true) ∧ Hid (Below wc.heap.size wc w')) := fun W ra rc da dc hb h1 h2 => (rsame h1 h2 HUl.out).mono fun e w' hh => ⟨hh.1, hb.trans (hh.2.mono hb.size)⟩
            have HEnd : Hid (∀ W, Below wc.heap.size wc W → Ps w1 W p m1 m2 r T' (k + 1) ∧ T'.need = need) := fun W hb => ⟨⟨HZ7.out.1.below hb, ⟨ba', bc', HZ7.out.2.1.below hb HZ7.out.2.1.lt, HZ7.out.2.2.2.below hb⟩, HRL.out.1⟩, HRL.out.2⟩
            clear HZ7 HRL HCk HUl hU
            generalize T'.room ya yi.data.toList = R1 at *
            generalize T'.room Aa Ai.data.toList = R2 at *
            generalize sm T'.L = sT at *
            generalize T'.open = oT at *
            go_upto_region 19 with fail
            refine wp_region_held (S := fun W => Below wc.heap.size wc W) (by kernel_rfl) ?_
            change wpAnyH _ _ _ _ _ 45 #[false, false, false, false, false, false, false, false, false, false, false, false, false, false, false, false, false, false, false, false, false, false, false, false, false, false, false, false, false, false, false, false, false, false, false, false, false, false, false, false, false, false, false, false, false] _ wc.drew
            have hS0 : Below wc.heap.size wc wc.drew := below_drew1 wc
            generalize wc.drew = z0 at *
            refine takeR (fuel := 44) (i := 0) (v := .int .i64 E) rfl (by kernel_rfl) (by kernel_rfl) (by kernel_rfl) (fun _ _ _ h => h) (Or.inl ⟨rfl, fun W hW => by go_simp⟩) hS0 ?_
            simp only [Act.put, List.setIfInBounds_toArray, List.set_cons_zero, List.set_cons_succ]
            refine takeR (fuel := 43) (i := 1) (v := .int .i64 E) rfl (by kernel_rfl) (by kernel_rfl) (by kernel_rfl) (fun _ _ _ h => h) (Or.inl ⟨rfl, fun W hW => by go_simp⟩) hS0 ?_
            simp only [Act.put, List.setIfInBounds_toArray, List.set_cons_zero, List.set_cons_succ]
            refine takeR (fuel := 42) (i := 2) (v := .bool false) rfl (by kernel_rfl) (by kernel_rfl) (by kernel_rfl) (fun _ _ _ h => h) (Or.inl ⟨rfl, fun W hW => by go_simp⟩) hS0 ?_
            simp only [Act.put, List.setIfInBounds_toArray, List.set_cons_zero, List.set_cons_succ]
            refine takeR (fuel := 41) (i := 3) (v := .bool false) rfl (by kernel_rfl) (by kernel_rfl) (by kernel_rfl) (fun _ _ _ h => h) (Or.inl ⟨rfl, fun W hW => by go_simp⟩) hS0 ?_
            simp only [Act.put, List.setIfInBounds_toArray, List.set_cons_zero, List.set_cons_succ]
            refine takeR (fuel := 40) (i := 4) (v := .pointer (some ⟨p, 0, none⟩)) rfl (by kernel_rfl) (by kernel_rfl) (by kernel_rfl) (fun _ _ _ h => h) (Or.inl ⟨rfl, fun W hW => by go_simp⟩) hS0 ?_
            simp only [Act.put, List.setIfInBounds_toArray, List.set_cons_zero, List.set_cons_succ]
            refine takeR (fuel := 39) (i := 5) (v := .pointer (some ⟨gx, 1, none⟩)) rfl (by kernel_rfl) (by kernel_rfl) (by kernel_rfl) (fun _ _ _ h => h) (Or.inl ⟨rfl, fun W hW => by go_simp⟩) hS0 ?_
            simp only [Act.put, List.setIfInBounds_toArray, List.set_cons_zero, List.set_cons_succ]
            refine takeR (fuel := 38) (i := 6) (v := .agg #[.string yi, .int .i64 ya, .int .i64 yr, .int .i64 ym, .string ys]) rfl (by kernel_rfl) (by kernel_rfl) (by kernel_rfl) (fun _ _ _ h => h) (Or.inl ⟨rfl, fun W hW => by obtain ⟨-, ⟨c0, c1, c2, c3, c4⟩, -⟩ := HSc.out W hW; go_simp⟩) hS0 ?_
            simp only [Act.put, List.setIfInBounds_toArray, List.set_cons_zero, List.set_cons_succ]
            refine takeR (fuel := 37) (i := 8) (v := .agg #[.int .i64 T'.need, .int .i64 T'.li, .int .i64 T'.la, .slice ba' T'.L.length bc']) rfl (by kernel_rfl) (by kernel_rfl) (by kernel_rfl) (fun _ _ _ h => h) (Or.inl ⟨rfl, fun W hW => by obtain ⟨⟨c0, c1, c2, c3⟩, -, -⟩ := HSc.out W hW; go_simp⟩) hS0 ?_
            simp only [Act.put, List.setIfInBounds_toArray, List.set_cons_zero, List.set_cons_succ]
            refine takeR (fuel := 36) (i := 9) (v := .pointer (some ⟨gx, 1, none⟩)) rfl (by kernel_rfl) (by kernel_rfl) (by kernel_rfl) (fun _ _ _ h => h) (Or.inl ⟨rfl, fun W hW => by go_simp⟩) hS0 ?_
            simp only [Act.put, List.setIfInBounds_toArray, List.set_cons_zero, List.set_cons_succ]
            refine takeR (fuel := 35) (i := 10) (v := .agg #[.string yi, .int .i64 ya, .int .i64 yr, .int .i64 ym, .string ys]) rfl (by kernel_rfl) (by kernel_rfl) (by kernel_rfl) (fun _ _ _ h => h) (Or.inl ⟨rfl, fun W hW => by obtain ⟨-, ⟨c0, c1, c2, c3, c4⟩, -⟩ := HSc.out W hW; go_simp⟩) hS0 ?_
            simp only [Act.put, List.setIfInBounds_toArray, List.set_cons_zero, List.set_cons_succ]
            refine consR (fuel := 34) (i := 7) rfl (by kernel_rfl) (fun K hK => ?_)
            rw [if_pos (by rfl)]
            go_simp
            refine (HR1.out _ hS0).mono ?_
            rintro e z1 ⟨rfl, HB1⟩
            refine hK.out _ _ HB1.out (fun hS1 => ?_)
            clear hK
            try simp only [Act.put, List.setIfInBounds_toArray, List.set_cons_zero, List.set_cons_succ]
            refine consR (fuel := 33) (i := 11) rfl (by kernel_rfl) (fun K hK => ?_)
            rw [if_pos (by rfl)]
            go_simp
            refine (HR2.out _ hS1).mono ?_
            rintro e z2 ⟨rfl, HB2⟩
            refine hK.out _ _ HB2.out (fun hS2 => ?_)
            clear hK
            try simp only [Act.put, List.setIfInBounds_toArray, List.set_cons_zero, List.set_cons_succ]
            refine takeR (fuel := 32) (i := 12) (v := .bool false) rfl (by kernel_rfl) (by kernel_rfl) (by kernel_rfl) (fun _ _ _ h => h) (Or.inl ⟨rfl, fun W hW => by go_simp⟩) hS2 ?_
            simp only [Act.put, List.setIfInBounds_toArray, List.set_cons_zero, List.set_cons_succ]
            refine takeR (fuel := 31) (i := 13) (v := .bool false) rfl (by kernel_rfl) (by kernel_rfl) (by kernel_rfl) (fun _ _ _ h => h) (Or.inl ⟨rfl, fun W hW => by go_simp⟩) hS2 ?_
            simp only [Act.put, List.setIfInBounds_toArray, List.set_cons_zero, List.set_cons_succ]
            refine takeR (fuel := 30) (i := 14) (v := .bool false) rfl (by kernel_rfl) (by kernel_rfl) (by kernel_rfl) (fun _ _ _ h => h) (Or.inl ⟨rfl, fun W hW => by go_simp⟩) hS2 ?_
            simp only [Act.put, List.setIfInBounds_toArray, List.set_cons_zero, List.set_cons_succ]
            refine takeR (fuel := 29) (i := 15) (v := .pointer (some ⟨p, 0, none⟩)) rfl (by kernel_rfl) (by kernel_rfl) (by kernel_rfl) (fun _ _ _ h => h) (Or.inl ⟨rfl, fun W hW => by go_simp⟩) hS2 ?_
            simp only [Act.put, List.setIfInBounds_toArray, List.set_cons_zero, List.set_cons_succ]
            refine takeR (fuel := 28) (i := 16) (v := .agg #[.string Ai, .int .i64 Aa, .int .i64 Ar, .int .i64 Am, .string Ac]) rfl (by kernel_rfl) (by kernel_rfl) (by kernel_rfl) (fun _ _ _ h => h) (Or.inl ⟨rfl, fun W hW => by obtain ⟨-, -, ⟨c0, c1, c2, c3, c4⟩⟩ := HSc.out W hW; go_simp⟩) hS2 ?_
            simp only [Act.put, List.setIfInBounds_toArray, List.set_cons_zero, List.set_cons_succ]
            refine takeR (fuel := 27) (i := 18) (v := .agg #[.int .i64 T'.need, .int .i64 T'.li, .int .i64 T'.la, .slice ba' T'.L.length bc']) rfl (by kernel_rfl) (by kernel_rfl) (by kernel_rfl) (fun _ _ _ h => h) (Or.inl ⟨rfl, fun W hW => by obtain ⟨⟨c0, c1, c2, c3⟩, -, -⟩ := HSc.out W hW; go_simp⟩) hS2 ?_
            simp only [Act.put, List.setIfInBounds_toArray, List.set_cons_zero, List.set_cons_succ]
            refine takeR (fuel := 26) (i := 19) (v := .agg #[.string Ai, .int .i64 Aa, .int .i64 Ar, .int .i64 Am, .string Ac]) rfl (by kernel_rfl) (by kernel_rfl) (by kernel_rfl) (fun _ _ _ h => h) (Or.inl ⟨rfl, fun W hW => by obtain ⟨-, -, ⟨c0, c1, c2, c3, c4⟩⟩ := HSc.out W hW; go_simp⟩) hS2 ?_
            simp only [Act.put, List.setIfInBounds_toArray, List.set_cons_zero, List.set_cons_succ]
            refine consR (fuel := 25) (i := 17) rfl (by kernel_rfl) (fun K hK => ?_)
            rw [if_pos (by rfl)]
            go_simp
            refine (HR3.out _ hS2).mono ?_
            rintro e z3 ⟨rfl, HB3⟩
            refine hK.out _ _ HB3.out (fun hS3 => ?_)
            clear hK
            try simp only [Act.put, List.setIfInBounds_toArray, List.set_cons_zero, List.set_cons_succ]
            refine consR (fuel := 24) (i := 20) rfl (by kernel_rfl) (fun K hK => ?_)
            rw [if_pos (by rfl)]
            go_simp
            refine (HR4.out _ hS3).mono ?_
            rintro e z4 ⟨rfl, HB4⟩
            refine hK.out _ _ HB4.out (fun hS4 => ?_)
            clear hK
            try simp only [Act.put, List.setIfInBounds_toArray, List.set_cons_zero, List.set_cons_succ]
            refine takeR (fuel := 23) (i := 21) (v := .bool false) rfl (by kernel_rfl) (by kernel_rfl) (by kernel_rfl) (fun _ _ _ h => h) (Or.inl ⟨rfl, fun W hW => by go_simp⟩) hS4 ?_
            simp only [Act.put, List.setIfInBounds_toArray, List.set_cons_zero, List.set_cons_succ]
            refine takeR (fuel := 22) (i := 22) (v := .bool false) rfl (by kernel_rfl) (by kernel_rfl) (by kernel_rfl) (fun _ _ _ h => h) (Or.inl ⟨rfl, fun W hW => by go_simp⟩) hS4 ?_
            simp only [Act.put, List.setIfInBounds_toArray, List.set_cons_zero, List.set_cons_succ]
            refine takeR (fuel := 21) (i := 23) (v := .bool false) rfl (by kernel_rfl) (by kernel_rfl) (by kernel_rfl) (fun _ _ _ h => h) (Or.inl ⟨rfl, fun W hW => by go_simp⟩) hS4 ?_
            simp only [Act.put, List.setIfInBounds_toArray, List.set_cons_zero, List.set_cons_succ]
            refine takeR (fuel := 20) (i := 24) (v := .pointer (some ⟨p, 0, none⟩)) rfl (by kernel_rfl) (by kernel_rfl) (by kernel_rfl) (fun _ _ _ h => h) (Or.inl ⟨rfl, fun W hW => by go_simp⟩) hS4 ?_
            simp only [Act.put, List.setIfInBounds_toArray, List.set_cons_zero, List.set_cons_succ]
            refine takeR (fuel := 19) (i := 26) (v := .agg #[.int .i64 T'.need, .int .i64 T'.li, .int .i64 T'.la, .slice ba' T'.L.length bc']) rfl (by kernel_rfl) (by kernel_rfl) (by kernel_rfl) (fun _ _ _ h => h) (Or.inl ⟨rfl, fun W hW => by obtain ⟨⟨c0, c1, c2, c3⟩, -, -⟩ := HSc.out W hW; go_simp⟩) hS4 ?_
            simp only [Act.put, List.setIfInBounds_toArray, List.set_cons_zero, List.set_cons_succ]
            refine consR (fuel := 18) (i := 25) rfl (by kernel_rfl) (fun K hK => ?_)
            rw [if_pos (by rfl)]
            go_simp
            refine (HR5.out _ hS4).mono ?_
            rintro e z5 ⟨rfl, HB5⟩
            refine hK.out _ _ HB5.out (fun hS5 => ?_)
            clear hK
            try simp only [Act.put, List.setIfInBounds_toArray, List.set_cons_zero, List.set_cons_succ]
            refine consR (fuel := 17) (i := 27) rfl (by kernel_rfl) (fun K hK => ?_)
            rw [if_pos (by rfl)]
            go_simp
            refine (HR6.out _ hS5).mono ?_
            rintro e z6 ⟨rfl, HB6⟩
            refine hK.out _ _ HB6.out (fun hS6 => ?_)
            clear hK
            try simp only [Act.put, List.setIfInBounds_toArray, List.set_cons_zero, List.set_cons_succ]
            refine takeR (fuel := 16) (i := 28) (v := .bool false) rfl (by kernel_rfl) (by kernel_rfl) (by kernel_rfl) (fun _ _ _ h => h) (Or.inl ⟨rfl, fun W hW => by go_simp⟩) hS6 ?_
            simp only [Act.put, List.setIfInBounds_toArray, List.set_cons_zero, List.set_cons_succ]
            refine takeR (fuel := 15) (i := 29) (v := .bool false) rfl (by kernel_rfl) (by kernel_rfl) (by kernel_rfl) (fun _ _ _ h => h) (Or.inl ⟨rfl, fun W hW => by go_simp⟩) hS6 ?_
            simp only [Act.put, List.setIfInBounds_toArray, List.set_cons_zero, List.set_cons_succ]
            refine takeR (fuel := 14) (i := 30) (v := .bool false) rfl (by kernel_rfl) (by kernel_rfl) (by kernel_rfl) (fun _ _ _ h => h) (Or.inl ⟨rfl, fun W hW => by go_simp⟩) hS6 ?_
            simp only [Act.put, List.setIfInBounds_toArray, List.set_cons_zero, List.set_cons_succ]
            refine takeR (fuel := 13) (i := 31) (v := .pointer (some ⟨p, 0, none⟩)) rfl (by kernel_rfl) (by kernel_rfl) (by kernel_rfl) (fun _ _ _ h => h) (Or.inl ⟨rfl, fun W hW => by go_simp⟩) hS6 ?_
            simp only [Act.put, List.setIfInBounds_toArray, List.set_cons_zero, List.set_cons_succ]
            refine takeR (fuel := 12) (i := 33) (v := .int .i64 oT) rfl (by kernel_rfl) (by kernel_rfl) (by kernel_rfl) (fun _ _ _ h => h) (Or.inl ⟨rfl, fun W hW => by go_simp⟩) hS6 ?_
            simp only [Act.put, List.setIfInBounds_toArray, List.set_cons_zero, List.set_cons_succ]
            refine consR (fuel := 11) (i := 32) rfl (by kernel_rfl) (fun K hK => ?_)
            rw [if_pos (by rfl)]
            go_simp
            refine (HR7.out _ hS6).mono ?_
            rintro e z7 ⟨rfl, HB7⟩
            refine hK.out _ _ HB7.out (fun hS7 => ?_)
            clear hK
            try simp only [Act.put, List.setIfInBounds_toArray, List.set_cons_zero, List.set_cons_succ]
            refine takeR (fuel := 10) (i := 34) (v := .bool false) rfl (by kernel_rfl) (by kernel_rfl) (by kernel_rfl) (fun _ _ _ h => h) (Or.inl ⟨rfl, fun W hW => by go_simp⟩) hS7 ?_
            simp only [Act.put, List.setIfInBounds_toArray, List.set_cons_zero, List.set_cons_succ]
            refine takeR (fuel := 9) (i := 35) (v := .bool false) rfl (by kernel_rfl) (by kernel_rfl) (by kernel_rfl) (fun _ _ _ h => h) (Or.inl ⟨rfl, fun W hW => by go_simp⟩) hS7 ?_
            simp only [Act.put, List.setIfInBounds_toArray, List.set_cons_zero, List.set_cons_succ]
            refine takeR (fuel := 8) (i := 36) (v := .bool false) rfl (by kernel_rfl) (by kernel_rfl) (by kernel_rfl) (fun _ _ _ h => h) (Or.inl ⟨rfl, fun W hW => by go_simp⟩) hS7 ?_
            simp only [Act.put, List.setIfInBounds_toArray, List.set_cons_zero, List.set_cons_succ]
            refine takeR (fuel := 7) (i := 37) (v := .pointer (some ⟨p, 0, none⟩)) rfl (by kernel_rfl) (by kernel_rfl) (by kernel_rfl) (fun _ _ _ h => h) (Or.inl ⟨rfl, fun W hW => by go_simp⟩) hS7 ?_
            simp only [Act.put, List.setIfInBounds_toArray, List.set_cons_zero, List.set_cons_succ]
            refine takeR (fuel := 6) (i := 40) (v := .agg #[.int .i64 T'.need, .int .i64 T'.li, .int .i64 T'.la, .slice ba' T'.L.length bc']) rfl (by kernel_rfl) (by kernel_rfl) (by kernel_rfl) (fun _ _ _ h => h) (Or.inl ⟨rfl, fun W hW => by obtain ⟨⟨c0, c1, c2, c3⟩, -, -⟩ := HSc.out W hW; go_simp⟩) hS7 ?_
            simp only [Act.put, List.setIfInBounds_toArray, List.set_cons_zero, List.set_cons_succ]
            refine consR (fuel := 5) (i := 38) rfl (by kernel_rfl) (fun K hK => ?_)
            rw [if_pos (by rfl)]
            go_simp
            refine (HR8.out _ hS7).mono ?_
            rintro e z8 ⟨ua, uc, rfl, HB8⟩
            refine hK.out _ _ HB8.out.1 (fun hS8 => ?_)
            clear hK
            try simp only [Act.put, List.setIfInBounds_toArray, List.set_cons_zero, List.set_cons_succ]
            refine consR (fuel := 4) (i := 39) rfl (by kernel_rfl) (fun K hK => ?_)
            rw [if_pos (by rfl)]
            go_simp
            refine (HR9.out _ ua uc hS8 HB8.out.2).mono ?_
            rintro e z9 ⟨ra, rc, rfl, HB9⟩
            refine hK.out _ _ HB9.out.1 (fun hS9 => ?_)
            clear hK
            try simp only [Act.put, List.setIfInBounds_toArray, List.set_cons_zero, List.set_cons_succ]
            refine consR (fuel := 3) (i := 41) rfl (by kernel_rfl) (fun K hK => ?_)
            rw [if_pos (by rfl)]
            go_simp
            refine (HR10.out _ ra hS9 HB9.out.2).mono ?_
            rintro e z10 ⟨da, dc, rfl, HB10⟩
            refine hK.out _ _ HB10.out.1 (fun hS10 => ?_)
            clear hK
            try simp only [Act.put, List.setIfInBounds_toArray, List.set_cons_zero, List.set_cons_succ]
            refine consR (fuel := 2) (i := 42) rfl (by kernel_rfl) (fun K hK => ?_)
            rw [if_pos (by rfl)]
            go_simp
            refine (HR11.out _ ra rc da dc hS10 HB10.out.2.1 HB10.out.2.2).mono ?_
            rintro e z11 ⟨rfl, HB11⟩
            refine hK.out _ _ HB11.out (fun hS11 => ?_)
            clear hK
            try simp only [Act.put, List.setIfInBounds_toArray, List.set_cons_zero, List.set_cons_succ]
            refine takeR (fuel := 1) (i := 43) (v := .bool false) rfl (by kernel_rfl) (by kernel_rfl) (by kernel_rfl) (fun _ _ _ h => h) (Or.inl ⟨rfl, fun W hW => by go_simp⟩) hS11 ?_
            simp only [Act.put, List.setIfInBounds_toArray, List.set_cons_zero, List.set_cons_succ]
            refine takeR (fuel := 0) (i := 44) (v := .bool false) rfl (by kernel_rfl) (by kernel_rfl) (by kernel_rfl) (fun _ _ _ h => h) (Or.inl ⟨rfl, fun W hW => by go_simp⟩) hS11 ?_
            simp only [Act.put, List.setIfInBounds_toArray, List.set_cons_zero, List.set_cons_succ]
            refine wpAnyH_done (by kernel_rfl) ?_ _
            go_wp2_with fail
            go_roundw
            case rel => exact ⟨k + 1, T', by omega, by omega, by simp, HEnd.out _ hS11⟩
            case measure => simp [intOf]; omega
      · have hex : ¬ (k : Int) < (l.length : Int) ∨ ((k : Int) < (l.length : Int) ∧ ¬ (k : Int) < 60) := by omega
        have HB1 : Hid (Below w.heap.size w wr) := HB.out.trans (HS.out.1.ls.b.mono HB.out.size)
        clear HS HW HC hkn
        rcases hex with hkz | ⟨hkz, hkz6⟩
        all_goals
          go_wp2_with (go_at_call 22; refine (HK.out _).mono ?_; clear HK; rintro e w5 ⟨rfl, b5⟩)
          go_ret
          exact ⟨rfl, HB1.out.trans (b5.mono HB1.out.size)⟩
  · have HN : Hid (Calls Try.prog 7 #[.agg (bqs x).toArray, .int .i64 need] w1 (NbP w1)) := xnewbad x need hok w1
    have HN2 : Hid (∀ W, Calls Try.prog 8 #[.agg (bqs x).toArray, .int .i64 need] W (RnP 0 0 0 1 W)) := fun W => (rnew x need W).mono fun e w' h => h.2 hok
    obtain ⟨id, ver, cur, rat, least, most, ca, cn, cc, iss, ast, ba, bn, bc⟩ := x
    obtain ⟨Ai, Aa, Ar, Am, Ac⟩ := A
    simp only [bqs, acs] at *
    clear hX hY hok hw hc hA
    go_enter Try.func3, Try.ntmps3
    go_upto_region 3 with (first
      | (go_at_call 7; refine HN.out.mono ?_; clear HN; rintro e w2 ⟨rfl, b2⟩
         have HB2 : Hid (Below w1.heap.size w1 w2) := b2
         clear b2 x0 x1 x2 x3 x4 x5 x6 x7 x8 x9
         obtain ⟨x0, x1, x2, x3, x4, x5, x6, x7, x8, x9⟩ := HXC.out w2 HB2.out)
      | (go_at_call 8; refine (HN2.out w2).mono ?_; clear HN2; rintro e w3 ⟨rfl, HB3⟩))
    have HB4 : Hid (Below w.heap.size w (w3.alloc (.cells #[.int .i64 0, .int .i64 0, .int .i64 0, .slice none 0 0] 35))) := by
      have h2 := HB.out.trans (HB2.out.mono HB.out.size)
      have h3 := h2.trans (HB3.out.mono h2.size)
      exact h3.alloc h3.size _
    generalize w3.alloc (.cells #[.int .i64 0, .int .i64 0, .int .i64 0, .slice none 0 0] 35) = w4 at *
    clear HB2 HB3 HXC HYC x0 x1 x2 x3 x4 x5 x6 x7 x8 x9
    go_wp2_with fail
    go_loopw [13] (fun i wr => i = .int .i64 0 ∧ wr = w4) (fun _ _ => 0)
    case atStart => exact ⟨rfl, rfl⟩
    case round =>
      obtain ⟨rfl, rfl⟩ := hrel
      have hex : ¬ (0 : Int) < (l.length : Int) ∨ (0 : Int) < (l.length : Int) := by omega
      rcases hex with hkz | hkz
      all_goals
        go_wp2_with (go_at_call 22; refine (HK.out _).mono ?_; clear HK; rintro e w5 ⟨rfl, b5⟩)
        go_ret
        exact ⟨rfl, HB4.out.trans (b5.mono HB4.out.size)⟩
end Go.Proofs.Ytdfadcbchiogjaa
