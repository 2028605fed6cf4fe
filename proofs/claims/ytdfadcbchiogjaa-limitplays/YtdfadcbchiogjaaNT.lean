/- layer 16: law Back -/
import Derived.Test.YtdfadcbchiogjaaNR
import Derived.Test.YtdfadcbchiogjaaNO
import Derived.Test.YtdfadcbchiogjaaNQ
import Derived.WalkKit
import Derived.ProofKit
import Derived.Handy
import Derived.WalkLawsBesides
import Derived.WalkSpells
import Derived.BigQuiet
import Derived.BigCall
import Derived.Deep.QuietTactic
import Derived.Deep.Light
import Derived.Deep.OwnRows
import Derived.Laws.AppendOwnNone
import Derived.Laws.Strings3
import Derived.Laws.RangeAny
import Derived.Deep.RegionWith
import Derived.Lib.BitFns
import Derived.Lib.Walk
import Derived.Lib.Strings
import Derived.Lib.OthersKept
import Derived.Deep.CutBlock
import Derived.Deep.DeepCutAuto
import Derived.Deep.LoopGhost
import Derived.Deep.RegionHeld3
import Derived.Lib.SmallJoins
import Derived.Maps.AppendAt
import Derived.Laws.IdiomStrings
import Derived.Lib.AppendZeros
import Derived.Deep.WholeRow
import Derived.Laws.BitsAllLaws
import Derived.Lib.ConvBytes
import Derived.Deep.RegionLaw
import Derived.Maps.OwnSet
import Derived.Maps.OwnOps
import Derived.Maps.RangeWalk
import Derived.Maps.Ext
import Derived.DeepKeys4
import Derived.Laws.StructEq
import Derived.Deep.MidRow
import Derived.Lib.Bytealg
import Derived.Lib.AppendZerosOnto
import Derived.Laws.MakeOwn
import Derived.Deep.Upon
import Derived.Sort.KeysCollected
namespace Go.Proofs.Ytdfadcbchiogjaa
open Go.RowKit
set_option linter.unusedVariables false
set_option linter.unusedSimpArgs false
set_option maxRecDepth 20000
theorem own_kt {w w' : World} {m1 m2 B e k n : Nat} {v : Value} {cs : List Value} {f : Int → Int} {g : List UInt8 → Int} (h : w.ownsRow B e k v n cs) (hk : Kt m1 m2 w w') (hi : Ti w m1 f) (ha : Ts w m2 g) : w'.ownsRow B e k v n cs := by
  refine ⟨h.1, ?_⟩
  rcases h.2 with h2 | ⟨b, cap, cur, rfl, hB, hb, hq⟩
  · exact .inl h2
  · exact .inr ⟨b, cap, cur, rfl, hB, (hk.block b (Array.getElem?_eq_some_iff.1 hb).1 (hi.nb hb) (ha.nb hb)).trans hb, hq⟩
theorem back_all {T : Tb} {k : Nat} (g : Good T k) {i : Int} {s : List UInt8} {c : Int} (h0 : addE T i s c = 0) : tkE (T.add i s c) i s c = 0 ∧ sm (T.add i s c).L = sm T.L + c ∧ ((T.add i s c).take i s c).uses = T.uses ∧ sm ((T.add i s c).take i s c).L = sm T.L := by
  have h1 := back_take g h0
  refine ⟨h1.1, h1.2, ?_, ?_⟩
  · rw [take_eq, if_pos h1.1, add_eq, if_pos h0]
    exact back_uses T i s c
  · rw [take_eq, if_pos h1.1]
    show sm ((T.add i s c).L ++ [⟨i, s, -c⟩]) = _
    rw [sm_app, h1.2]
    simp only [sm]
    omega
theorem ls_told {w wr : World} {p m1 m2 k : Nat} {T : Tb} (h : Ls w wr p m1 m2 T k) {U : List Us} (hU : U.length ≤ 1000000) {a : Option Addr} {cap : Nat} (hr : Rw 4 ucs wr a U) : Calls Try.prog 19 #[.slice a U.length cap] wr fun e w' => ∃ a' cap', e = .returned (.slice a' U.length cap') ∧ Hid (w'.ownsRow wr.heap.size 77 4 (.slice a' U.length cap') U.length (rcs ucs U) ∧ Ls w w' p m1 m2 T k ∧ Below wr.heap.size wr w') :=
  (xtold hr hU).mono fun e w' hh => by
    obtain ⟨v, rfl, hz⟩ := hh
    obtain ⟨a', cap', rfl, hc, -⟩ := own_rw ucs_len hz.out.1 rfl
    exact ⟨a', cap', rfl, hz.out.1, h.below hz.out.2, hz.out.2⟩
theorem own_rw' {B e : Nat} {w : World} {a : Option Addr} {cap : Nat} {U : List Us} (h : w.ownsRow B e 4 (.slice a U.length cap) U.length (rcs ucs U)) : Rw 4 ucs w a U := by
  obtain ⟨a', cap', he, hc, hr⟩ := own_rw ucs_len h rfl
  injection he with e1 e2 e3
  rw [e1]
  exact hr
set_option maxHeartbeats 16000000 in
theorem lback (x : Bq) (need : Int) (l : List Ac) (a : Option Addr) (cap : Nat) (A : As) (c : Int) (w : World) (hA : Wa A) (hcv : Rng c) (hl : l.length ≤ cap) (hw : Rw 7 ccs w a l) (hc : ∀ y ∈ l, Wc y) (hn : l.length * 72 ≤ 140737488351232) :
    Calls Try.prog 5 #[.agg (bqs x).toArray, .int .i64 need, .slice a l.length cap, .agg (acs A).toArray, .int .i64 c] w (OkP w) := by
  obtain ⟨w1, hw1⟩ : ∃ w1, (w.alloc (.cells (bqs x).toArray 25)).alloc (.cells (acs A).toArray 28) = w1 := ⟨_, rfl⟩
  have HB : Hid (Below w.heap.size w w1) := by rw [← hw1]; exact (below_a w _).alloc (by simp) _
  have hX : Bx w1 w.heap.size (bqs x).toArray 25 := by rw [← hw1]; exact (Bx.new w _ _).below (below_a _ _) (by simp)
  have hY : Bx w1 (w.heap.size + 1) (acs A).toArray 28 := by rw [← hw1]; have := Bx.new (w.alloc (.cells (bqs x).toArray 25)) (acs A).toArray 28; rw [World.size_alloc] at this; exact this
  have hlz : (l.length : Int) ≤ 140737488351232 := by omega
  have x0 : w1.cell? ⟨w.heap.size, 0, none⟩ = some (.int .i64 x.id) := hX.cell 0
  have x1 : w1.cell? ⟨w.heap.size, 1, none⟩ = some (.int .i64 x.ver) := hX.cell 1
  have x2 : w1.cell? ⟨w.heap.size, 2, none⟩ = some (.string x.cur) := hX.cell 2
  have x3 : w1.cell? ⟨w.heap.size, 3, none⟩ = some (.int .i64 x.rat) := hX.cell 3
  have x4 : w1.cell? ⟨w.heap.size, 4, none⟩ = some (.int .i64 x.least) := hX.cell 4
  have x5 : w1.cell? ⟨w.heap.size, 5, none⟩ = some (.int .i64 x.most) := hX.cell 5
  have x6 : w1.cell? ⟨w.heap.size, 6, none⟩ = some (.slice x.ca x.cn x.cc) := hX.cell 6
  have x7 : w1.cell? ⟨w.heap.size, 7, none⟩ = some (.int .i64 x.iss) := hX.cell 7
  have x8 : w1.cell? ⟨w.heap.size, 8, none⟩ = some (.int .i64 x.ast) := hX.cell 8
  have x9 : w1.cell? ⟨w.heap.size, 9, none⟩ = some (.slice x.ba x.bn x.bc) := hX.cell 9
  by_cases hok : OkN need x.iss x.ast
  · have HN : Hid (Calls Try.prog 7 #[.agg (bqs x).toArray, .int .i64 need] w1 (NwP need x.iss x.ast w1)) := xnew x need hok w1
    have HG : Hid (Good (newT need x.iss x.ast) 0) := newT_good hok
    have HW : Hid (Rw 7 ccs w1 a l) := fun h0 => by
      obtain ⟨blk, off, e, hbl, hcs⟩ := hw h0
      exact ⟨blk, off, e, Nat.lt_of_lt_of_le hbl HB.out.size, fun i hi j hj => (HB.out.cell (p := ⟨blk, off + i * 7 + j, none⟩) hbl).trans (hcs i hi j hj)⟩
    have HC : Hid (∀ y ∈ l, Wc y) := hc
    have HWA : Hid (Wa A) := hA
    have HYC : Hid (∀ W, Below w1.heap.size w1 W → W.cell? ⟨w.heap.size + 1, 0, none⟩ = some (.string A.i) ∧ W.cell? ⟨w.heap.size + 1, 1, none⟩ = some (.int .i64 A.iss) ∧ W.cell? ⟨w.heap.size + 1, 2, none⟩ = some (.int .i64 A.rat) ∧ W.cell? ⟨w.heap.size + 1, 3, none⟩ = some (.int .i64 A.mat) ∧ W.cell? ⟨w.heap.size + 1, 4, none⟩ = some (.string A.c)) := fun W hb => by
      have h := hY.below hb hY.lt
      exact ⟨h.cell 0, h.cell 1, h.cell 2, h.cell 3, h.cell 4⟩
    obtain ⟨id, ver, cur, rat, least, most, ca, cn, cc, iss, ast, ba, bn, bc⟩ := x
    obtain ⟨Ai, Aa, Ar, Am, Ac⟩ := A
    simp only [bqs, acs] at *
    clear hX hY hok hw hc hA
    go_enter Try.func5, Try.ntmps5
    go_wp2_with (go_at_call 7; refine HN.out.mono ?_; clear HN; rintro e w2 ⟨p, m1, m2, rfl, HZ⟩)
    have HS0 : Hid (Ls w1 w2 p m1 m2 (newT need iss ast) 0) := ⟨HZ.out.1, HG.out, fun q hq => (by cases hq), HZ.out.2.2.2.2, HZ.out.2.2.1, HZ.out.2.2.2.1⟩
    clear HZ HG x0 x1 x2 x3 x4 x5 x6 x7 x8 x9
    go_loopw [13] (fun i wr => ∃ (k : Nat) (T : Tb), k ≤ l.length ∧ k ≤ 60 ∧ i = .int .i64 k ∧ Hid (Ls w1 wr p m1 m2 T k))
      (fun i _ => l.length - (intOf i).toNat)
    case atStart => exact ⟨0, _, Nat.zero_le _, by omega, rfl, HS0.out⟩
    case round =>
      obtain ⟨k, T, hk, hk60, rfl, HS⟩ := hrel
      clear HS0
      have hkl : (k : Int) ≤ 60 := by omega
      by_cases hkn : k < l.length ∧ k < 60
      · have hkz : (k : Int) < (l.length : Int) := by omega
        have hkz6 : (k : Int) < 60 := by omega
        obtain ⟨blk, off, rfl, hbl, hcs⟩ := HW.out (by omega)
        obtain ⟨c0, c1, c2, c3, c4, c5, c6⟩ := ccs_at hcs HS.out.b hbl hkn.1
        have HCk : Hid (Wc l[k]) := HC.out _ (List.getElem_mem hkn.1)
        have HSd : Hid (Ls w1 wr.drew p m1 m2 T k) := HS.out.below (below_drew1 wr)
        clear hcs hbl HC HYC HWA
        generalize l[k] = y at *
        obtain ⟨yk, ⟨yi, ya, yr, ym, ys⟩, yc⟩ := y
        simp only at *
        by_cases hy : yk = 0
        · have hyz : (yk == 0) = true := by simp [hy]
          have HA : Hid (Calls Try.prog 10 #[.pointer (some ⟨p, 0, none⟩), .agg #[.string yi, .int .i64 ya, .int .i64 yr, .int .i64 ym, .string ys], .int .i64 yc] wr.drew fun e w' => ∃ u, e = .returned u ∧ Hid (Ls w1 w' p m1 m2 (T.add ya yi.data.toList yc) (k + 1))) := (ls_add HSd.out (by omega) HCk.out.a HCk.out.c).mono fun e w' hh => ⟨_, hh.1, hh.2.out.1⟩
          clear HCk HSd HS hy
          generalize T.add ya yi.data.toList yc = T' at *
          go_wp2_with fail
          go_region_law (refine step_call _ (by rfl) 10 #[.pointer (some ⟨p, 0, none⟩), .agg #[.string yi, .int .i64 ya, .int .i64 yr, .int .i64 ym, .string ys], .int .i64 yc] (by go_simp) _ HA.out ?_; clear HA; rintro v9 w4 HF)
          all_goals
            go_wp2_with fail
            go_roundw
            case rel => exact ⟨k + 1, T', by omega, by omega, by simp, HF.out⟩
            case measure => simp [intOf]; omega
        · have hyz : (yk == 0) = false := by simp [hy]
          have HF : Hid (Ls w1 wr p m1 m2 T (k + 1)) := HS.out.mono (by omega)
          clear HCk HSd HS hy
          go_wp2_with fail
          go_roundw
          case rel => exact ⟨k + 1, T, by omega, by omega, by simp, HF.out⟩
          case measure => simp [intOf]; omega
      · have HK : Hid (∀ W, Calls Try.prog 22 #[] W (OkP W)) := fun W => xawake W
        have HUl : Hid (T.uses.length ≤ 1000000) := by have := uses_len T; have := HS.out.g.l; unfold Hid; omega
        have hsm : -1125899906842624 * 61 ≤ sm T.L ∧ sm T.L ≤ 1125899906842624 * 61 := by have h1 := HS.out.g.sum; have h2 := HS.out.g.l; have h3 : (T.L.length : Int) ≤ 61 := by omega
                                                                                          omega
        have hgd := HS.out.g
        have hex : ¬ (k : Int) < (l.length : Int) ∨ ((k : Int) < (l.length : Int) ∧ ¬ (k : Int) < 60) := by omega
        clear HW HC hkn
        rcases hex with hkz | ⟨hkz, hkz6⟩
        all_goals
          go_upto_region 10 with (first
            | (go_at_call 20; refine (ls_uses HS.out (by omega)).mono ?_; clear HS; rintro e w3 ⟨ua, ucap, rfl, HZ3⟩)
            | (go_at_call 19; refine (ls_told HZ3.out.2.1 HUl.out HZ3.out.1).mono ?_; clear HZ3; rintro e w4 ⟨ra, rcap, rfl, HZ4⟩)
            | (go_at_call 16; refine (ls_sum HZ4.out.2.1 (by omega)).mono ?_; rintro e w5 ⟨rfl, HZ5⟩
               have HS5 : Hid (w5.ownsRow w3.heap.size 77 4 (.slice ra T.uses.length rcap) T.uses.length (rcs ucs T.uses) ∧ Ls w1 w5 p m1 m2 T k) := ⟨own_below HZ4.out.1 HZ5.out.2, HZ5.out.1⟩
               clear HZ4 HZ5))
          obtain ⟨y0, y1, y2, y3, y4⟩ := HYC.out w5 HS5.out.2.b
          have HAd : Hid (Calls Try.prog 10 #[.pointer (some ⟨p, 0, none⟩), .agg #[.string Ai, .int .i64 Aa, .int .i64 Ar, .int .i64 Am, .string Ac], .int .i64 c] w5 fun e w' => e = .returned (.int .i64 (addE T Aa Ai.data.toList c : Nat)) ∧ Hid (Ls w1 w' p m1 m2 (T.add Aa Ai.data.toList c) (k + 1) ∧ w'.ownsRow w3.heap.size 77 4 (.slice ra T.uses.length rcap) T.uses.length (rcs ucs T.uses))) := (ls_add HS5.out.2 (by omega) HWA.out hcv).mono fun e w' hh => ⟨hh.1, hh.2.out.1, own_kt HS5.out.1 hh.2.out.2 HS5.out.2.t.i HS5.out.2.t.a⟩
          have hU' : (T.uses.length : Int) ≤ 1000000 := by have := HUl.out; omega
          clear HS5
          by_cases he : addE T Aa Ai.data.toList c = 0
          · obtain ⟨b1, b2, b3, b4⟩ := back_all hgd he
            rw [he] at HAd
            have hcb : 0 ≤ c ∧ c ≤ 1125899906842624 := by
              have hr := hgd.room Aa Ai.data.toList
              have hi := hgd.i Aa
              have hli := hgd.li
              have hne := hgd.need
              unfold addE at he
              by_cases h1 : c < 0
              · rw [if_pos h1] at he; cases he
              · rw [if_neg h1] at he
                by_cases h2 : T.room Aa Ai.data.toList < c
                · rw [if_pos h2] at he; cases he
                · omega
            have hwr : wrap64 (sm T.L + c) = sm T.L + c := by unfold wrap64; omega
            have HTk : Hid (∀ W, Ls w1 W p m1 m2 (T.add Aa Ai.data.toList c) (k + 1) → Calls Try.prog 12 #[.pointer (some ⟨p, 0, none⟩), .agg #[.string Ai, .int .i64 Aa, .int .i64 Ar, .int .i64 Am, .string Ac], .int .i64 c] W fun e w' => e = .returned (.int .i64 (0 : Nat)) ∧ Hid (Ls w1 w' p m1 m2 ((T.add Aa Ai.data.toList c).take Aa Ai.data.toList c) (k + 2) ∧ Kt m1 m2 W w')) := fun W h => by
              have := ls_take h (by omega) HWA.out hcv
              rwa [show tkE (T.add Aa Ai.data.toList c) Aa Ai.data.toList c = 0 from b1] at this
            generalize (T.add Aa Ai.data.toList c).take Aa Ai.data.toList c = T2 at *
            generalize T.add Aa Ai.data.toList c = T1 at *
            clear he b1 hgd
            rw [← b3] at hU' HUl HAd
            have HE2 : Hid (sm T2.L = sm T.L ∧ T2.uses = T.uses ∧ sm T1.L = sm T.L + c) := ⟨b4, b3, b2⟩
            rw [← b3]
            clear b2 b3 b4
            go_wp2_with (first
              | (go_at_call 10; refine HAd.out.mono ?_; clear HAd; rintro e w6 ⟨rfl, HZ6⟩)
              | (go_at_call 16; refine (ls_sum HZ6.out.1 (by omega)).mono ?_; rintro e w7 ⟨rfl, HZ7⟩
                 have HS7 : Hid (Ls w1 w7 p m1 m2 T1 (k + 1) ∧ w7.ownsRow w3.heap.size 77 4 (.slice ra T2.uses.length rcap) T2.uses.length (rcs ucs T2.uses)) := ⟨HZ7.out.1, own_below HZ6.out.2 HZ7.out.2⟩
                 have hs7 : sm T1.L = sm T.L + c := HE2.out.2.2
                 clear HZ6 HZ7 y0 y1 y2 y3 y4
                 obtain ⟨y0, y1, y2, y3, y4⟩ := HYC.out w7 HS7.out.1.b)
              | (go_at_call 12; refine (HTk.out _ HS7.out.1).mono ?_; rintro e w8 ⟨rfl, HZ8⟩
                 have HS8 : Hid (Ls w1 w8 p m1 m2 T2 (k + 2) ∧ w8.ownsRow w3.heap.size 77 4 (.slice ra T2.uses.length rcap) T2.uses.length (rcs ucs T2.uses)) := ⟨HZ8.out.1, own_kt HS7.out.2 HZ8.out.2 HS7.out.1.t.i HS7.out.1.t.a⟩
                 clear HZ8 HS7 HTk)
              | (go_at_call 20; refine (ls_uses HS8.out.1 (by omega)).mono ?_; rintro e w9 ⟨ua9, ucap9, rfl, HZ9⟩
                 have HS9 : Hid (Ls w1 w9 p m1 m2 T2 (k + 2) ∧ w9.ownsRow w3.heap.size 77 4 (.slice ra T2.uses.length rcap) T2.uses.length (rcs ucs T2.uses) ∧ Rw 4 ucs w9 ua9 T2.uses) := ⟨HZ9.out.2.1, own_below HS8.out.2 HZ9.out.2.2, HZ9.out.1⟩
                 clear HZ9 HS8)
              | (go_at_call 19; refine (ls_told HS9.out.1 HUl.out HS9.out.2.2).mono ?_; rintro e w10 ⟨ra10, rcap10, rfl, HZ10⟩
                 have HS10 : Hid (Ls w1 w10 p m1 m2 T2 (k + 2) ∧ Rw 4 ucs w10 ra T2.uses ∧ Rw 4 ucs w10 ra10 T2.uses) := ⟨HZ10.out.2.1, own_rw' (own_below HS9.out.2.1 HZ10.out.2.2), own_rw' HZ10.out.1⟩
                 clear HZ10 HS9)
              | (go_at_call 18; refine (rsame HS10.out.2.2 HS10.out.2.1 HUl.out).mono ?_; rintro e w11 ⟨rfl, b11⟩
                 have HS11 : Hid (Ls w1 w11 p m1 m2 T2 (k + 2)) := HS10.out.1.below b11
                 clear b11 HS10)
              | (go_at_call 16; refine (ls_sum HS11.out (by omega)).mono ?_; rintro e w12 ⟨rfl, HZ12⟩
                 have hs12 : sm T2.L = sm T.L := HE2.out.1
                 have HS12 : Hid (Below w.heap.size w w12) := HB.out.trans (HZ12.out.1.b.mono HB.out.size)
                 clear HZ12 HS11)
              | (go_at_call 22; refine (HK.out _).mono ?_; clear HK; rintro e w13 ⟨rfl, b13⟩))
            go_ret
            exact ⟨rfl, HS12.out.trans (b13.mono HS12.out.size)⟩
          · have hadd : T.add Aa Ai.data.toList c = T := by rw [add_eq, if_neg he]
            rw [hadd] at HAd
            have hne : ((addE T Aa Ai.data.toList c : Int) != 0) = true := by simp [he]
            generalize addE T Aa Ai.data.toList c = E at *
            clear hadd hgd he
            go_wp2_with (first
              | (go_at_call 10; refine HAd.out.mono ?_; clear HAd; rintro e w8 ⟨rfl, HZ8⟩)
              | (go_at_call 20; refine (ls_uses HZ8.out.1 (by omega)).mono ?_; rintro e w9 ⟨ua9, ucap9, rfl, HZ9⟩
                 have HS9 : Hid (Ls w1 w9 p m1 m2 T (k + 1) ∧ w9.ownsRow w3.heap.size 77 4 (.slice ra T.uses.length rcap) T.uses.length (rcs ucs T.uses) ∧ Rw 4 ucs w9 ua9 T.uses) := ⟨HZ9.out.2.1, own_below HZ8.out.2 HZ9.out.2.2, HZ9.out.1⟩
                 clear HZ9 HZ8)
              | (go_at_call 19; refine (ls_told HS9.out.1 HUl.out HS9.out.2.2).mono ?_; rintro e w10 ⟨ra10, rcap10, rfl, HZ10⟩
                 have HS10 : Hid (Ls w1 w10 p m1 m2 T (k + 1) ∧ Rw 4 ucs w10 ra T.uses ∧ Rw 4 ucs w10 ra10 T.uses) := ⟨HZ10.out.2.1, own_rw' (own_below HS9.out.2.1 HZ10.out.2.2), own_rw' HZ10.out.1⟩
                 clear HZ10 HS9)
              | (go_at_call 18; refine (rsame HS10.out.2.2 HS10.out.2.1 HUl.out).mono ?_; rintro e w11 ⟨rfl, b11⟩
                 have HS11 : Hid (Ls w1 w11 p m1 m2 T (k + 1)) := HS10.out.1.below b11
                 clear b11 HS10)
              | (go_at_call 16; refine (ls_sum HS11.out (by omega)).mono ?_; rintro e w12 ⟨rfl, HZ12⟩
                 have HS12 : Hid (Below w.heap.size w w12) := HB.out.trans (HZ12.out.1.b.mono HB.out.size)
                 clear HZ12 HS11)
              | (go_at_call 22; refine (HK.out _).mono ?_; clear HK; rintro e w13 ⟨rfl, b13⟩))
            go_ret
            exact ⟨rfl, HS12.out.trans (b13.mono HS12.out.size)⟩
  · have HN : Hid (Calls Try.prog 7 #[.agg (bqs x).toArray, .int .i64 need] w1 (NbP w1)) := xnewbad x need hok w1
    have HK : Hid (∀ W, Calls Try.prog 22 #[] W (OkP W)) := fun W => xawake W
    obtain ⟨id, ver, cur, rat, least, most, ca, cn, cc, iss, ast, ba, bn, bc⟩ := x
    obtain ⟨Ai, Aa, Ar, Am, Ac⟩ := A
    simp only [bqs, acs] at *
    clear hX hY hok hw hc hA
    go_enter Try.func5, Try.ntmps5
    go_wp2_with (first | (go_at_call 7; refine HN.out.mono ?_; clear HN; rintro e w2 ⟨rfl, b2⟩) | (go_at_call 22; refine (HK.out _).mono ?_; clear HK; rintro e w3 ⟨rfl, b3⟩))
    go_ret
    have h2 := HB.out.trans (b2.mono HB.out.size)
    exact ⟨rfl, h2.trans (b3.mono h2.size)⟩
end Go.Proofs.Ytdfadcbchiogjaa
