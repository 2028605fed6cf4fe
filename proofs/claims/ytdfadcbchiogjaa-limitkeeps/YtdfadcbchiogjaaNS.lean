/- layer 16: law Keeps -/
import Derived.Test.YtdfadcbchiogjaaNR
import Derived.Test.YtdfadcbchiogjaaNO
import Derived.Test.YtdfadcbchiogjaaNQ
import Derived.WalkKit
import Derived.ProofKit
import Derived.Handy
import Derived.WalkLawsBesides
import Derived.WalkSpells
import Derived.BigQuiet
import Derived.BigCall
import Derived.Deep.QuietTactic
import Derived.Deep.Light
import Derived.Deep.OwnRows
import Derived.Laws.AppendOwnNone
import Derived.Laws.Strings3
import Derived.Laws.RangeAny
import Derived.Deep.RegionWith
import Derived.Lib.BitFns
import Derived.Lib.Walk
import Derived.Lib.Strings
import Derived.Lib.OthersKept
import Derived.Deep.CutBlock
import Derived.Deep.DeepCutAuto
import Derived.Deep.LoopGhost
import Derived.Deep.RegionHeld3
import Derived.Lib.SmallJoins
import Derived.Maps.AppendAt
import Derived.Laws.IdiomStrings
import Derived.Lib.AppendZeros
import Derived.Deep.WholeRow
import Derived.Laws.BitsAllLaws
import Derived.Lib.ConvBytes
import Derived.Deep.RegionLaw
import Derived.Maps.OwnSet
import Derived.Maps.OwnOps
import Derived.Maps.RangeWalk
import Derived.Maps.Ext
import Derived.DeepKeys4
import Derived.Laws.StructEq
import Derived.Deep.MidRow
import Derived.Lib.Bytealg
import Derived.Lib.AppendZerosOnto
import Derived.Laws.MakeOwn
import Derived.Deep.Upon
import Derived.Sort.KeysCollected
namespace Go.Proofs.Ytdfadcbchiogjaa
open Go.RowKit
set_option linter.unusedVariables false
set_option linter.unusedSimpArgs false
set_option maxRecDepth 20000
theorem keep_eq {T : Tb} {i : Int} {s : List UInt8} {c : Int} : ((addE T i s c : Int) == 0) = decide (0 ≤ c ∧ c ≤ T.room i s) := by
  unfold addE
  by_cases h1 : c < 0
  · rw [if_pos h1, decide_eq_false (by omega)]; rfl
  · rw [if_neg h1]
    by_cases h2 : T.room i s < c
    · rw [if_pos h2, decide_eq_false (by omega)]; rfl
    · rw [if_neg h2, decide_eq_true (by omega)]; rfl
set_option maxHeartbeats 16000000 in
theorem lkeeps (x : Bq) (need : Int) (l : List Ac) (a : Option Addr) (cap : Nat) (w : World) (hl : l.length ≤ cap) (hw : Rw 7 ccs w a l) (hc : ∀ y ∈ l, Wc y) (hn : l.length * 72 ≤ 140737488351232) :
    Calls Try.prog 4 #[.agg (bqs x).toArray, .int .i64 need, .slice a l.length cap] w (OkP w) := by
  have HK : Hid (∀ W, Calls Try.prog 22 #[] W (OkP W)) := fun W => xawake W
  obtain ⟨w1, hw1⟩ : ∃ w1, w.alloc (.cells (bqs x).toArray 25) = w1 := ⟨_, rfl⟩
  have hX : Bx w1 w.heap.size (bqs x).toArray 25 := by rw [← hw1]; exact Bx.new w _ _
  have HB : Hid (Below w.heap.size w w1) := by rw [← hw1]; exact below_a w _
  have hlz : (l.length : Int) ≤ 140737488351232 := by omega
  have x0 : w1.cell? ⟨w.heap.size, 0, none⟩ = some (.int .i64 x.id) := hX.cell 0
  have x1 : w1.cell? ⟨w.heap.size, 1, none⟩ = some (.int .i64 x.ver) := hX.cell 1
  have x2 : w1.cell? ⟨w.heap.size, 2, none⟩ = some (.string x.cur) := hX.cell 2
  have x3 : w1.cell? ⟨w.heap.size, 3, none⟩ = some (.int .i64 x.rat) := hX.cell 3
  have x4 : w1.cell? ⟨w.heap.size, 4, none⟩ = some (.int .i64 x.least) := hX.cell 4
  have x5 : w1.cell? ⟨w.heap.size, 5, none⟩ = some (.int .i64 x.most) := hX.cell 5
  have x6 : w1.cell? ⟨w.heap.size, 6, none⟩ = some (.slice x.ca x.cn x.cc) := hX.cell 6
  have x7 : w1.cell? ⟨w.heap.size, 7, none⟩ = some (.int .i64 x.iss) := hX.cell 7
  have x8 : w1.cell? ⟨w.heap.size, 8, none⟩ = some (.int .i64 x.ast) := hX.cell 8
  have x9 : w1.cell? ⟨w.heap.size, 9, none⟩ = some (.slice x.ba x.bn x.bc) := hX.cell 9
  by_cases hok : OkN need x.iss x.ast
  · have HN : Hid (Calls Try.prog 7 #[.agg (bqs x).toArray, .int .i64 need] w1 (NwP need x.iss x.ast w1)) := xnew x need hok w1
    have HG : Hid (Good (newT need x.iss x.ast) 0) := newT_good hok
    have HW : Hid (Rw 7 ccs w a l) := hw
    have HC : Hid (∀ y ∈ l, Wc y) := hc
    obtain ⟨id, ver, cur, rat, least, most, ca, cn, cc, iss, ast, ba, bn, bc⟩ := x
    simp only [bqs] at *
    clear hX hok hw hc
    go_enter Try.func4, Try.ntmps4
    go_wp2_with (go_at_call 7; refine HN.out.mono ?_; clear HN; rintro e w2 ⟨p, m1, m2, rfl, HZ⟩)
    have HS0 : Hid (Ls w w2 p m1 m2 (newT need iss ast) 0) := ⟨HZ.out.1, HG.out, fun q hq => (by cases hq), HB.out.trans (HZ.out.2.2.2.2.mono HB.out.size), Nat.le_trans HB.out.size HZ.out.2.2.1, Nat.le_trans HB.out.size HZ.out.2.2.2.1⟩
    clear HZ HG x0 x1 x2 x3 x4 x5 x6 x7 x8 x9
    go_loopw [9] (fun i wr => ∃ (k : Nat) (T : Tb), k ≤ l.length ∧ k ≤ 60 ∧ i = .int .i64 k ∧ Hid (Ls w wr p m1 m2 T k))
      (fun i _ => l.length - (intOf i).toNat)
    case atStart => exact ⟨0, _, Nat.zero_le _, by omega, rfl, HS0.out⟩
    case round =>
      obtain ⟨k, T, hk, hk60, rfl, HS⟩ := hrel
      clear HS0
      by_cases hkn : k < l.length
      · have hkz : (k : Int) < (l.length : Int) := by omega
        by_cases hk6 : k < 60
        · have hkz6 : (k : Int) < 60 := by omega
          obtain ⟨blk, off, rfl, hbl, hcs⟩ := HW.out (by omega)
          obtain ⟨c0, c1, c2, c3, c4, c5, c6⟩ := ccs_at hcs HS.out.b hbl hkn
          have HCk : Hid (Wc l[k]) := HC.out _ (List.getElem_mem hkn)
          clear hcs hbl HC
          generalize l[k] = y at *
          obtain ⟨yk, ⟨yi, ya, yr, ym, ys⟩, yc⟩ := y
          simp only at *
          go_upto_region 8 with fail
          obtain ⟨wa, hwa⟩ : ∃ wa, wr.alloc (.cells #[.int .i64 yk, .string yi, .int .i64 ya, .int .i64 yr, .int .i64 ym, .string ys, .int .i64 yc] 39) = wa := ⟨_, rfl⟩
          have HXX : Hid (∀ W, Kt m1 m2 wa W → Bx W wr.heap.size #[.int .i64 yk, .string yi, .int .i64 ya, .int .i64 yr, .int .i64 ym, .string ys, .int .i64 yc] 39) := fun W hk => by
            have l1 := HS.out.t.i.lt
            have l2 := HS.out.t.a.lt
            rw [← hwa] at hk
            exact (hk.block _ (by simp) (by omega) (by omega)).trans (Bx.new wr _ _)
          have HXC : Hid (∀ W, Kt m1 m2 wa W → W.cell? ⟨wr.heap.size, 0, none⟩ = some (.int .i64 yk) ∧ W.cell? ⟨wr.heap.size, 1, none⟩ = some (.string yi) ∧ W.cell? ⟨wr.heap.size, 2, none⟩ = some (.int .i64 ya) ∧ W.cell? ⟨wr.heap.size, 3, none⟩ = some (.int .i64 yr) ∧ W.cell? ⟨wr.heap.size, 4, none⟩ = some (.int .i64 ym) ∧ W.cell? ⟨wr.heap.size, 5, none⟩ = some (.string ys) ∧ W.cell? ⟨wr.heap.size, 6, none⟩ = some (.int .i64 yc)) := fun W hk => by
            have h := HXX.out W hk
            exact ⟨h.cell 0, h.cell 1, h.cell 2, h.cell 3, h.cell 4, h.cell 5, h.cell 6⟩
          have HS1 : Hid (Ls w wa p m1 m2 T k) := by rw [← hwa]; exact HS.out.below (below_a _ _)
          rw [hwa]
          clear hwa HS c0 c1 c2 c3 c4 c5 c6
          have hX1 := HXX.out wa (Kt.refl _ _ _)
          have c0 : wa.cell? ⟨wr.heap.size, 0, none⟩ = some (.int .i64 yk) := hX1.cell 0
          have c1 : wa.cell? ⟨wr.heap.size, 1, none⟩ = some (.string yi) := hX1.cell 1
          have c2 : wa.cell? ⟨wr.heap.size, 2, none⟩ = some (.int .i64 ya) := hX1.cell 2
          have c3 : wa.cell? ⟨wr.heap.size, 3, none⟩ = some (.int .i64 yr) := hX1.cell 3
          have c4 : wa.cell? ⟨wr.heap.size, 4, none⟩ = some (.int .i64 ym) := hX1.cell 4
          have c5 : wa.cell? ⟨wr.heap.size, 5, none⟩ = some (.string ys) := hX1.cell 5
          have HR : Hid (Calls Try.prog 14 #[.pointer (some ⟨p, 0, none⟩), .agg #[.string yi, .int .i64 ya, .int .i64 yr, .int .i64 ym, .string ys]] wa fun e w' => e = .returned (.int .i64 (T.room ya yi.data.toList)) ∧ Hid (Ls w w' p m1 m2 T k ∧ Below wa.heap.size wa w')) := ls_room HS1.out HCk.out.a
          clear HS1 hX1
          go_upto_if 48 with (go_at_call 14; refine HR.out.mono ?_; clear HR; rintro e w3 ⟨rfl, HZ⟩; clear c0 c1 c2 c3 c4 c5; obtain ⟨c0, c1, c2, c3, c4, c5, c6⟩ := HXC.out w3 (Kt.of_below HZ.out.2))
          go_cut [] (fun wx => ∃ T', Hid (Ls w wx p m1 m2 T' (k + 1)))
          case first =>
            by_cases hy : yk = 0
            · have hyz : (yk == 0) = true := by simp [hy]
              have HA : Hid (Calls Try.prog 10 #[.pointer (some ⟨p, 0, none⟩), .agg #[.string yi, .int .i64 ya, .int .i64 yr, .int .i64 ym, .string ys], .int .i64 yc] w3 fun e w' => e = .returned (.int .i64 (addE T ya yi.data.toList yc : Nat)) ∧ Hid (Ls w w' p m1 m2 (T.add ya yi.data.toList yc) (k + 1) ∧ Kt m1 m2 w3 w')) := ls_add HZ.out.1 (by omega) HCk.out.a HCk.out.c
              have HC6 : Hid (∀ w4, Kt m1 m2 w3 w4 → w4.cell? ⟨wr.heap.size, 6, none⟩ = some (.int .i64 yc)) := fun w4 hk4 => (HXX.out w4 ((Kt.of_below HZ.out.2).trans hk4)).cell 6
              have heq := keep_eq (T := T) (i := ya) (s := yi.data.toList) (c := yc)
              by_cases h0 : yc < 0
              · have h0z : ¬ 0 ≤ yc := by omega
                rw [decide_eq_false (fun k => h0z k.1)] at heq
                generalize (addE T ya yi.data.toList yc : Nat) = E at *
                generalize T.room ya yi.data.toList = R at *
                clear HXX HXC HCk HZ
                go_wp2_with (go_at_call 10; refine HA.out.mono ?_; clear HA; rintro e w4 ⟨rfl, HZ4⟩; have d6 := HC6.out w4 HZ4.out.2)
                go_meet
                exact ⟨_, HZ4.out.1⟩
              · have h0z : 0 ≤ yc := by omega
                have heq2 : ((addE T ya yi.data.toList yc : Int) == 0) = decide (yc ≤ T.room ya yi.data.toList) := by rw [heq]; simp [h0z]
                clear heq
                generalize (addE T ya yi.data.toList yc : Nat) = E at *
                generalize T.room ya yi.data.toList = R at *
                clear HXX HXC HCk HZ
                by_cases h5 : yc ≤ R
                · rw [decide_eq_true h5] at heq2
                  go_wp2_with (go_at_call 10; refine HA.out.mono ?_; clear HA; rintro e w4 ⟨rfl, HZ4⟩; have d6 := HC6.out w4 HZ4.out.2)
                  go_meet
                  exact ⟨_, HZ4.out.1⟩
                · rw [decide_eq_false h5] at heq2
                  go_wp2_with (go_at_call 10; refine HA.out.mono ?_; clear HA; rintro e w4 ⟨rfl, HZ4⟩; have d6 := HC6.out w4 HZ4.out.2)
                  go_meet
                  exact ⟨_, HZ4.out.1⟩
            · have hyz : (yk == 0) = false := by simp [hy]
              have HF : Hid (Ls w w3 p m1 m2 T (k + 1)) := HZ.out.1.mono (by omega)
              clear HXX HXC HCk HZ
              go_wp2_with fail
              go_meet
              exact ⟨_, HF.out⟩
          case rest =>
            obtain ⟨T', HS3⟩ := hcut
            clear HXX HXC HCk HZ c0 c1 c2 c3 c4 c5 c6
            have HU : Hid (Calls Try.prog 20 #[.pointer (some ⟨p, 0, none⟩)] wc fun e w' => ∃ a cap, e = .returned (.slice a T'.uses.length cap) ∧ Hid (Rw 4 ucs w' a T'.uses ∧ Ls w w' p m1 m2 T' (k + 1) ∧ Below wc.heap.size wc w')) := ls_uses HS3.out (by omega)
            have HKp : Hid (∀ u ∈ T'.uses, 1 ≤ u.c ∧ u.c ≤ u.l) := fun u hu => uses_keep HS3.out.g hu
            have HUl : Hid (T'.uses.length ≤ 1000) := by have := uses_len T'; have := HS3.out.g.l; unfold Hid; omega
            clear HS3
            go_wp2_with (go_at_call 20; refine HU.out.mono ?_; clear HU; rintro e w4 ⟨ua, ucap, rfl, HZ⟩)
            generalize T'.uses = U at *
            have hUl : (U.length : Int) ≤ 1000 := by have := HUl.out; omega
            go_loopw [14] (fun i wr => ∃ j : Nat, j ≤ U.length ∧ i = .int .i64 j ∧ Hid (Below w4.heap.size w4 wr))
              (fun i _ => U.length - (intOf i).toNat)
            case atStart => exact ⟨0, Nat.zero_le _, rfl, Below.refl _ _⟩
            case round =>
              obtain ⟨j, hj, rfl, HB4⟩ := hrel
              by_cases hjn : j < U.length
              · have hjz : (j : Int) < (U.length : Int) := by omega
                obtain ⟨ub, uo, rfl, hub, hucs⟩ := HZ.out.1 (by omega)
                obtain ⟨u0, u1, u2, u3'⟩ := ucs_at hucs HB4.out hub hjn
                have hkp := HKp.out U[j] (List.getElem_mem hjn)
                have HB5 : Hid (∀ q, Below w4.heap.size w4 (wr.drewN q)) := fun q => below_drewN HB4.out q
                clear hucs hub HKp HUl
                generalize U[j] = u at *
                obtain ⟨ui, us, uc, ul⟩ := u
                simp only at *
                have hk1 : ¬ ul < uc := by omega
                have hk2 : ¬ uc < 1 := by omega
                clear u0 u1 hkp
                go_upto_region 17 with fail
                go_quiet (fail)
                go_wp2_with fail
                go_roundw
                case rel => exact ⟨j + 1, by omega, by simp, HB5.out _⟩
                case measure => simp [intOf]; omega
              · have hjz : ¬ (j : Int) < (U.length : Int) := by omega
                have HF : Hid (Ls w wr p m1 m2 T' (k + 1)) := HZ.out.2.1.below HB4.out
                clear HZ HKp HUl HB4
                go_wp2_with fail
                go_roundw
                case rel => exact ⟨k + 1, T', by omega, by omega, by simp, HF.out⟩
                case measure => simp [intOf]; omega
        · have hkz6 : ¬ (k : Int) < 60 := by omega
          have HB1 : Hid (Below w.heap.size w wr) := HS.out.b
          clear HS HW HC
          go_wp2_with (go_at_call 22; refine (HK.out _).mono ?_; clear HK; rintro e w5 ⟨rfl, b5⟩)
          go_ret
          exact ⟨rfl, HB1.out.trans (b5.mono HB1.out.size)⟩
      · have hkz : ¬ (k : Int) < (l.length : Int) := by omega
        have HB1 : Hid (Below w.heap.size w wr) := HS.out.b
        clear HS HW HC
        go_wp2_with (go_at_call 22; refine (HK.out _).mono ?_; clear HK; rintro e w5 ⟨rfl, b5⟩)
        go_ret
        exact ⟨rfl, HB1.out.trans (b5.mono HB1.out.size)⟩
  · have HN : Hid (Calls Try.prog 7 #[.agg (bqs x).toArray, .int .i64 need] w1 (NbP w1)) := xnewbad x need hok w1
    obtain ⟨id, ver, cur, rat, least, most, ca, cn, cc, iss, ast, ba, bn, bc⟩ := x
    simp only [bqs] at *
    clear hX hok hw hc
    go_enter Try.func4, Try.ntmps4
    go_wp2_with (first | (go_at_call 7; refine HN.out.mono ?_; clear HN; rintro e w2 ⟨rfl, b2⟩) | (go_at_call 22; refine (HK.out _).mono ?_; clear HK; rintro e w3 ⟨rfl, b3⟩))
    go_ret
    have h2 := HB.out.trans (b2.mono HB.out.size)
    exact ⟨rfl, h2.trans (b3.mono h2.size)⟩
end Go.Proofs.Ytdfadcbchiogjaa
