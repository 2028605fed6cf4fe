/- layer 12: law Once -/
import Derived.Test.YtbfnfebmmhhegaaCS
import Derived.Test.YtbfnfebmmhhegaaCR
import Derived.WalkKit
import Derived.ProofKit
import Derived.Handy
import Derived.WalkLawsBesides
import Derived.WalkSpells
import Derived.BigQuiet
import Derived.BigCall
import Derived.Deep.QuietTactic
import Derived.Deep.Light
import Derived.Deep.OwnRows
import Derived.Laws.AppendOwnNone
import Derived.Laws.Strings3
import Derived.Laws.RangeAny
import Derived.Deep.RegionWith
import Derived.Lib.BitFns
import Derived.Lib.Walk
import Derived.Lib.Strings
import Derived.Lib.OthersKept
import Derived.Deep.CutBlock
import Derived.Deep.DeepCutAuto
import Derived.Deep.LoopGhost
import Derived.Deep.RegionHeld3
import Derived.Lib.SmallJoins
import Derived.Maps.AppendAt
import Derived.Laws.IdiomStrings
import Derived.Lib.AppendZeros
import Derived.Deep.WholeRow
import Derived.Laws.BitsAllLaws
import Derived.Lib.ConvBytes
import Derived.Deep.RegionLaw
import Derived.Maps.OwnSet
import Derived.Maps.OwnOps
import Derived.Maps.RangeWalk
import Derived.Maps.Ext
import Derived.DeepKeys4
import Derived.Laws.StructEq
import Derived.Shelf.SlSortCmp.NoneTotal
import Derived.Deep.MidRow
import Derived.Laws.MakeOwn
namespace Go.Proofs.Ytbfnfebmmhhegaa
open Go.RowKit
set_option linter.unusedVariables false
set_option linter.unusedSimpArgs false
set_option maxRecDepth 20000
theorem dc_trade {w0 W : World} {c q m : Nat} {L : List Num.Bal} {rows : List (Option Addr × List Num.Bal)} (h : Dc w0 W c q m L rows) (g : Num.Good L) (hl : L.length ≤ 50000) (sel buy cash : Int) (ys : List Lot) (hy : ys.length ≤ 40) (ay : Option Addr) (cy : Nat) (hL : Lts w0 ay ys) :
    Calls Try.prog 30 #[.pointer (some ⟨c, 0, none⟩), .int .i64 sel, .int .i64 buy, .slice ay ys.length cy, .string EB, .int .i64 cash] W fun e W1 => e = .returned (.tuple #[.int .i64 (mvN L (trl sel buy ys EB cash)), .int .i64 (mvE L (trl sel buy ys EB cash))]) ∧ Hid (Dc w0 W1 c q m (mvL L (trl sel buy ys EB cash)) rows) :=
  (xtrade c q m L g (by omega) sel buy ys (by omega) EB cash ay cy W h.x (hL.below h.b)).mono fun e W1 k => ⟨k.1, h.post k.2.1 k.2.2⟩
theorem trade_rng {L : List Num.Bal} (g : Num.Good L) {sel buy cash : Int} {xs : List Lot} {cur : ByteArray} (h : mvE L (trl sel buy xs cur cash) = 0) : 1 ≤ cash ∧ cash ≤ 1125899906842624 := by
  obtain ⟨h1, h2⟩ := mvE_none h
  unfold trl at h2
  rw [List.map_append, List.map_cons, List.map_nil] at h2
  have h3 := Num.why_left L _ _ h2
  rw [Num.whyf_app L _ _ h3] at h2
  generalize Num.run L ((xs.map (way sel 1 buy 1)).map Ln.ent) = M at *
  have hf : Num.flt M (Ln.ent ⟨buy, 1, sel, 1, cur, cash⟩) = 0 := by
    by_cases c : Num.flt M (Ln.ent ⟨buy, 1, sel, 1, cur, cash⟩) = 0
    · exact c
    · simp only [Num.whyf, if_neg c] at h2; exact absurd h2 c
  have f := Num.flt_ok hf
  exact ⟨f.a1, f.a2⟩
theorem dc_told2 {w0 W : World} {c q m : Nat} {L : List Num.Bal} {rows : List (Option Addr × List Num.Bal)} (h : Dc w0 W c q m L rows) (g : Num.Good L) (hl : L.length ≤ 1000000) : Calls Try.prog 13 #[.pointer (some ⟨c, 0, none⟩)] W fun e W1 => ∃ a1 c1, e = .returned (.slice a1 L.length c1) ∧ Hid (Dc w0 W1 c q m L ((a1, L) :: rows)) ∧ Hid (Below W.heap.size W W1) := by
  refine (xtold c q m L hl (good_len g) W h.x).mono ?_
  rintro e W1 ⟨v, rfl, ho, hb⟩
  obtain ⟨a1, c1, rfl, _, hB⟩ := own_bs ho rfl
  have h1 := h.below hb
  exact ⟨a1, c1, rfl, ⟨h1.b, h1.x, h1.m0, fun y hy => by rcases List.mem_cons.1 hy with rfl | hy; exact hB; exact h1.r y hy⟩, hb⟩
set_option maxHeartbeats 16000000 in
theorem lonce (xs : List Ac) (a0 : Option Addr) (cap : Nat) (sel buy : Int) (ys : List Lot) (ay : Option Addr) (cy : Nat) (cash : Int) (w : World) (h : Acs w a0 xs) (hL : Lts w ay ys) : Calls Try.prog 6 #[.slice a0 xs.length cap, .int .i64 sel, .int .i64 buy, .slice ay ys.length cy, .int .i64 cash] w (OkP w) := by
  have HA : Hid (Acs w a0 xs) := h
  have HY : Hid (Lts w ay ys) := hL
  have HN' : Hid (Calls Try.prog 9 #[] w fun e w1 => ∃ c q m, e = .returned (.pointer (some ⟨c, 0, none⟩)) ∧ Hid (w.heap.size ≤ w1.heap.size ∧ Ds w (w1.alloc (.cells #[.slice none 0 0] 25)) c q m w1.heap.size [] none 0)) := ds_new w
  clear h hL
  go_enter Try.func6, Try.ntmps6
  go_wp2_with (go_at_call 9; refine HN'.out.mono ?_; rintro e w1 ⟨c, q, m, rfl, HD1⟩)
  have HD2 : Hid (Ds w (w1.alloc (.cells #[.slice none 0 0] 25)) c q m w1.heap.size [] none 0) := HD1.out.2
  generalize w1.heap.size = lp at *
  clear HN' HD1
  go_loopw [13] (fun i wr => ∃ (k : Nat) (L : List Num.Bal) (al : Option Addr) (cl : Nat), k ≤ xs.length ∧ k ≤ 40 ∧ i = .int .i64 k ∧ Hid (Num.Good L ∧ L.length ≤ 82 * k ∧ Ds w wr c q m lp L al cl))
    (fun i _ => xs.length - (intOf i).toNat)
  case atStart => exact ⟨0, [], none, 0, Nat.zero_le _, by omega, rfl, Num.Good.nil, by simp, HD2.out⟩
  case round =>
    obtain ⟨k, L, al, cl, hk, hk40, rfl, HR⟩ := hrel
    clear HD2
    by_cases hkn : k < xs.length ∧ k < 40
    · have hkz : (k : Int) < (xs.length : Int) := by omega
      have hk4' : (k : Int) < 40 := by omega
      obtain ⟨blk, off, rfl, hbl, hcs⟩ := HA.out.r (by omega)
      have hc8 := hcs k hkn.1
      have hw8 := HA.out.w xs[k] (List.getElem_mem hkn.1)
      generalize xs[k] = x at *
      obtain ⟨k9, a, b, c9, s9, n9, l, la, lc, t, ta, tc⟩ := x
      have hDB := HR.out.2.2.b
      have HCW : Hid (∀ W, Below w.heap.size w W → W.cell? ⟨blk, off + k * 8, none⟩ = some (.int .i64 k9) ∧ W.cell? ⟨blk, off + k * 8 + 1, none⟩ = some (.int .i64 a) ∧ W.cell? ⟨blk, off + k * 8 + 2, none⟩ = some (.int .i64 b) ∧ W.cell? ⟨blk, off + k * 8 + 3, none⟩ = some (.int .i64 c9) ∧ W.cell? ⟨blk, off + k * 8 + 4, none⟩ = some (.string s9) ∧ W.cell? ⟨blk, off + k * 8 + 5, none⟩ = some (.int .i64 n9) ∧ W.cell? ⟨blk, off + k * 8 + 6, none⟩ = some (.slice la l.length lc) ∧ W.cell? ⟨blk, off + k * 8 + 7, none⟩ = some (.slice ta t.length tc)) := fun W hW => ⟨(hW.cell (p := ⟨blk, _, none⟩) hbl).trans (hc8 0 (by omega)), (hW.cell (p := ⟨blk, _, none⟩) hbl).trans (hc8 1 (by omega)), (hW.cell (p := ⟨blk, _, none⟩) hbl).trans (hc8 2 (by omega)), (hW.cell (p := ⟨blk, _, none⟩) hbl).trans (hc8 3 (by omega)), (hW.cell (p := ⟨blk, _, none⟩) hbl).trans (hc8 4 (by omega)), (hW.cell (p := ⟨blk, _, none⟩) hbl).trans (hc8 5 (by omega)), (hW.cell (p := ⟨blk, _, none⟩) hbl).trans (hc8 6 (by omega)), (hW.cell (p := ⟨blk, _, none⟩) hbl).trans (hc8 7 (by omega))⟩
      obtain ⟨c0, c1, c2, c3, c4, c5, c6, c7⟩ := HCW.out wr hDB
      have HSH : Hid (Calls Try.prog 10 #[.agg #[.int .i64 k9, .int .i64 a, .int .i64 b, .int .i64 c9, .string s9, .int .i64 n9, .slice la l.length lc, .slice ta t.length tc]] wr fun e w' => e = .returned (.bool (Ac.sh ⟨k9, a, b, c9, s9, n9, l, la, lc, t, ta, tc⟩)) ∧ Below wr.heap.size wr w') := xsh ⟨k9, a, b, c9, s9, n9, l, la, lc, t, ta, tc⟩ wr
      clear hc8 hcs
      cases hsh : Ac.sh ⟨k9, a, b, c9, s9, n9, l, la, lc, t, ta, tc⟩
      · rw [hsh] at HSH
        have HD3 : Hid (∀ W, Below wr.heap.size wr W → Ds w W c q m lp L al cl) := fun W hW => HR.out.2.2.below hW
        go_wp2_with (go_at_call 10; refine HSH.out.mono ?_; rintro e w2 ⟨rfl, hb2⟩)
        go_roundw
        case rel => exact ⟨k + 1, L, al, cl, by omega, by omega, by simp, HR.out.1, by have := HR.out.2.1; omega, HD3.out _ hb2⟩
        case measure => simp [intOf]; omega
      · rw [hsh] at HSH
        have hLn : L.length ≤ 3280 := by have := HR.out.2.1; omega
        have HDO : Hid (∀ V, Below wr.heap.size wr V → Calls Try.prog 11 #[.pointer (some ⟨c, 0, none⟩), .pointer (some ⟨lp, 0, none⟩), .agg #[.int .i64 k9, .int .i64 a, .int .i64 b, .int .i64 c9, .string s9, .int .i64 n9, .slice la l.length lc, .slice ta t.length tc]] V fun e V' => ∃ al cl, e = .returned (.bool true) ∧ Hid (Ds w V' c q m lp (Ac.L L ⟨k9, a, b, c9, s9, n9, l, la, lc, t, ta, tc⟩) al cl)) := fun V hb => (xdoes w c q m lp L HR.out.1 (by omega) al cl ⟨k9, a, b, c9, s9, n9, l, la, lc, t, ta, tc⟩ hsh V (HR.out.2.2.below hb) ((hw8.below hDB).below hb)).mono fun e V' hh => dop_ds hh
        have HL2 : Hid (Num.Good (Ac.L L ⟨k9, a, b, c9, s9, n9, l, la, lc, t, ta, tc⟩) ∧ (Ac.L L ⟨k9, a, b, c9, s9, n9, l, la, lc, t, ta, tc⟩).length ≤ 82 * (k + 1)) := by
          have := Ac.len L ⟨k9, a, b, c9, s9, n9, l, la, lc, t, ta, tc⟩ hsh
          have := HR.out.2.1
          exact ⟨Ac.good HR.out.1 _, by omega⟩
        have HSH2 : Hid (Calls Try.prog 10 #[.agg #[.int .i64 k9, .int .i64 a, .int .i64 b, .int .i64 c9, .string s9, .int .i64 n9, .slice la l.length lc, .slice ta t.length tc]] wr fun e w2 => e = .returned (.bool true) ∧ (w2.cell? ⟨blk, off + k * 8, none⟩ = some (.int .i64 k9) ∧ w2.cell? ⟨blk, off + k * 8 + 1, none⟩ = some (.int .i64 a) ∧ w2.cell? ⟨blk, off + k * 8 + 2, none⟩ = some (.int .i64 b) ∧ w2.cell? ⟨blk, off + k * 8 + 3, none⟩ = some (.int .i64 c9) ∧ w2.cell? ⟨blk, off + k * 8 + 4, none⟩ = some (.string s9) ∧ w2.cell? ⟨blk, off + k * 8 + 5, none⟩ = some (.int .i64 n9) ∧ w2.cell? ⟨blk, off + k * 8 + 6, none⟩ = some (.slice la l.length lc) ∧ w2.cell? ⟨blk, off + k * 8 + 7, none⟩ = some (.slice ta t.length tc)) ∧ Hid (Below wr.heap.size wr w2)) := HSH.out.mono fun e w2 hh => ⟨hh.1, HCW.out w2 (hDB.trans (hh.2.mono hDB.size)), hh.2⟩
        generalize Ac.L L ⟨k9, a, b, c9, s9, n9, l, la, lc, t, ta, tc⟩ = L2 at *
        clear hsh hw8 HR HSH HCW
        go_wp2_with (first | (go_at_call 10; refine HSH2.out.mono ?_; rintro e w2 ⟨rfl, ⟨d0, d1, d2, d3, d4, d5, d6, d7⟩, hb2⟩; clear HSH2) | (go_at_call 11; refine (HDO.out _ hb2.out).mono ?_; rintro e w3 ⟨al3, cl3, rfl, HD4⟩; clear HDO))
        go_roundw
        case rel => exact ⟨k + 1, L2, al3, cl3, by omega, by omega, by simp, HL2.out.1, HL2.out.2, HD4.out⟩
        case measure => simp [intOf]; omega
    · by_cases hkl : k < xs.length
      · have hkz : (k : Int) < (xs.length : Int) := by omega
        have hk4' : ¬ (k : Int) < 40 := by omega
        have HG : Hid (Num.Good L) := HR.out.1
        have hLn : L.length ≤ 3280 := by have := HR.out.2.1; omega
        have HC0 : Hid (Dc w wr c q m L []) := dc_of HR.out.2.2
        clear HR HA
        by_cases hyl : 40 < ys.length
        · have hyl' : (40 : Int) < (ys.length : Int) := by omega
          go_wp2_with (go_at_call 14; refine (dc_awake HC0.out).mono ?_; rintro e w5 ⟨rfl, HF⟩)
          go_ret
          exact HF.out
        have hyl' : ¬ (40 : Int) < (ys.length : Int) := by omega
        have HTR : Hid (∀ W rows, Dc w W c q m L rows → Calls Try.prog 30 #[.pointer (some ⟨c, 0, none⟩), .int .i64 sel, .int .i64 buy, .slice ay ys.length cy, .string EB, .int .i64 cash] W fun e W1 => e = .returned (.tuple #[.int .i64 (mvN L (trl sel buy ys EB cash)), .int .i64 (mvE L (trl sel buy ys EB cash))]) ∧ Hid (Dc w W1 c q m (mvL L (trl sel buy ys EB cash)) rows)) := fun W rows hW => dc_trade hW HG.out (by omega) sel buy cash ys (by omega) ay cy HY.out
        by_cases hE : mvE L (trl sel buy ys EB cash) = 0
        · by_cases hsb : sel = buy
          · have hsb' : (sel == buy) = true := by simp [hsb]
            have hML : mvL L (trl sel buy ys EB cash) = L := by rw [hsb] at hE ⊢; exact trade_same HG.out hE
            rw [hE, hML] at HTR
            generalize mvN L (trl sel buy ys EB cash) = N at *
            clear hE hML hsb
            go_wp2_with (first | (go_at_call 13; refine (dc_told HC0.out HG.out (by omega)).mono ?_; rintro e w5 ⟨a5, c5, rfl, HC5⟩; clear HC0) | (go_at_call 30; refine (HTR.out _ _ HC5.out).mono ?_; rintro e w6 ⟨rfl, HC6⟩; clear HTR HC5) | (go_at_call 13; refine (dc_told HC6.out HG.out (by omega)).mono ?_; rintro e w7 ⟨a7, c7, rfl, HC7⟩; clear HC6) | (go_at_call 12; refine (dc_same HC7.out (by omega) (by simp) (by simp)).mono ?_; rintro e w8 ⟨rfl, HC8⟩; clear HC7) | (go_at_call 14; refine (dc_awake HC8.out).mono ?_; rintro e w9 ⟨rfl, HF⟩))
            go_ret
            exact HF.out
          · have hsb' : (sel == buy) = false := by simp [hsb]
            have hNN := (trade_done hE).1
            have HCS : Hid ((∀ x ∈ ys, x.1.toList ≠ EB.toList) → Num.get (mvL L (trl sel buy ys EB cash)) (sel, 1, EB.toList) = Num.get L (sel, 1, EB.toList) + cash ∧ Num.get (mvL L (trl sel buy ys EB cash)) (buy, 1, EB.toList) = Num.get L (buy, 1, EB.toList) - cash) := fun hx => trade_cash hE hsb hx
            have HCR : Hid (1 ≤ cash ∧ cash ≤ 1125899906842624) := trade_rng HG.out hE
            have HG2 : Hid (Num.Good (mvL L (trl sel buy ys EB cash)) ∧ (mvL L (trl sel buy ys EB cash)).length ≤ 1000000) := by
              have := mvL_len L (trl sel buy ys EB cash)
              rw [trl_len] at this
              exact ⟨mvL_good HG.out _, by omega⟩
            rw [hE, hNN] at HTR
            generalize mvL L (trl sel buy ys EB cash) = L2 at *
            clear hE hNN hsb
            go_upto_region 17 with (first | (go_at_call 13; refine (dc_told HC0.out HG.out (by omega)).mono ?_; rintro e w5 ⟨a5, c5, rfl, HC5⟩; clear HC0) | (go_at_call 30; refine (HTR.out _ _ HC5.out).mono ?_; rintro e w6 ⟨rfl, HC6⟩; clear HTR HC5))
            obtain ⟨w7, hw7⟩ : ∃ w7, w7 = (w6.alloc (.cells #[.int .i64 sel, .int .i64 1, .string EB] 40)).alloc (.cells #[.int .i64 buy, .int .i64 1, .string EB] 40) := ⟨_, rfl⟩
            have HW7 : Hid ((w6.alloc (.cells #[.int .i64 sel, .int .i64 1, .string EB] 40)).alloc (.cells #[.int .i64 buy, .int .i64 1, .string EB] 40) = w7) := hw7.symm
            have HX : Hid (Bx w7 w6.heap.size #[.int .i64 sel, .int .i64 1, .string EB] 40 ∧ Bx w7 (w6.heap.size + 1) #[.int .i64 buy, .int .i64 1, .string EB] 40 ∧ Dc w w7 c q m L2 [(a5, L)]) := by
              have hb : Below w6.heap.size w6 w7 := by rw [hw7]; exact ((Below.refl _ w6).alloc (Nat.le_refl _) _).alloc (by simp) _
              refine ⟨?_, ?_, HC6.out.below hb⟩
              · rw [hw7]; exact (Bx.new w6 _ _).kept (grown_alloc _ _ none) (by simp)
              · rw [hw7]
                have := Bx.new (w6.alloc (.cells #[.int .i64 sel, .int .i64 1, .string EB] 40)) #[.int .i64 buy, .int .i64 1, .string EB] 40
                rw [World.size_alloc] at this
                exact this
            clear hw7
            rw [HW7.out]
            clear HW7 HC6
            obtain ⟨g2, hg2⟩ : ∃ g2, g2 = w6.heap.size + 1 := ⟨_, rfl⟩
            rw [← hg2] at HX ⊢
            generalize w6.heap.size = g1 at *
            clear hg2
            go_wp2_with fail
            go_loopw [19] (fun i w8 => ∃ k2 : Nat, k2 ≤ ys.length ∧ i = .int .i64 k2 ∧ Hid (∀ j (h : j < ys.length), j < k2 → ys[j].1.toList ≠ EB.toList) ∧ w8 = w7)
              (fun i _ => ys.length - (intOf i).toNat)
            case atStart => exact ⟨0, Nat.zero_le _, rfl, fun j _ h => absurd h (Nat.not_lt_zero j), rfl⟩
            case round =>
              obtain ⟨k2, hk2, rfl, HJ, rfl⟩ := hrel
              by_cases hkn2 : k2 < ys.length
              · have hkz2 : (k2 : Int) < (ys.length : Int) := by omega
                obtain ⟨blk2, off2, rfl, hbl2, hcs2⟩ := HY.out (by omega)
                have hc2 := hcs2 k2 hkn2
                have HJ2 : Hid (ys[k2].1.toList ≠ EB.toList → ∀ j (h : j < ys.length), j < k2 + 1 → ys[j].1.toList ≠ EB.toList) := fun hs j hj hk1 => by
                  rcases Nat.lt_or_ge j k2 with h1 | h1
                  · exact HJ.out j hj h1
                  · obtain rfl : j = k2 := by omega
                    exact hs
                generalize ys[k2] = y at *
                obtain ⟨ls, lq⟩ := y
                have e0 : wr.cell? ⟨blk2, off2 + k2 * 2, none⟩ = some (.string ls) := (HX.out.2.2.b.cell (p := ⟨blk2, off2 + k2 * 2 + 0, none⟩) hbl2).trans (hc2 0 (by omega))
                have e1 : wr.cell? ⟨blk2, off2 + k2 * 2 + 1, none⟩ = some (.int .i64 lq) := (HX.out.2.2.b.cell (p := ⟨blk2, off2 + k2 * 2 + 1, none⟩) hbl2).trans (hc2 1 (by omega))
                clear hc2 hcs2
                by_cases hls : ls.toList = EB.toList
                · have hls' : (ls.toList == EB.toList) = true := by simp [hls]
                  have hls2 : ls = EB := by rw [← toList_S ls, hls, toList_S]
                  subst hls2
                  clear hls hls'
                  go_wp2_with (go_at_call 14; refine (dc_awake HX.out.2.2).mono ?_; rintro e w9 ⟨rfl, HF⟩)
                  go_ret
                  exact HF.out
                · have HJ3 : Hid (∀ j (h : j < ys.length), j < k2 + 1 → ys[j].1.toList ≠ EB.toList) := HJ2.out hls
                  have hls' : (ls.toList == EB.toList) = false := beq_eq_false_iff_ne.2 hls
                  have hls3 : (ls.toList == [69, 85, 82]) = false := by rw [← tE]; exact hls'
                  clear HJ2 hls
                  go_wp2_with fail
                  go_roundw
                  case rel => exact ⟨k2 + 1, by omega, by simp, HJ3, trivial⟩
                  case measure => simp [intOf]; omega
              · have hkz2 : ¬ (k2 : Int) < (ys.length : Int) := by omega
                have hall : ∀ x ∈ ys, x.1.toList ≠ EB.toList := fun x hx => by
                  obtain ⟨i, hi, rfl⟩ := List.getElem_of_mem hx
                  exact HJ.out i hi (by omega)
                obtain ⟨hA, hB⟩ := HCS.out hall
                have hGA := HG.out.get (sel, 1, EB.toList)
                have hGB := HG.out.get (buy, 1, EB.toList)
                have hcr := HCR.out
                obtain ⟨hX1, hX2, hDc⟩ := HX.out
                have HG1 : Hid (∀ W rows, Dc w W c q m L2 rows → ∀ a1 c1, (a1, L2) ∈ rows → Calls Try.prog 15 #[.slice a1 L2.length c1, .agg #[.int .i64 sel, .int .i64 1, .string EB]] W fun e W1 => e = .returned (.int .i64 (Num.get L2 (sel, 1, EB.toList))) ∧ Below W.heap.size W W1) := fun W rows hW a1 c1 hm => dc_get hW HG2.out.2 hm sel 1 EB
                have HG3 : Hid (∀ W rows, Dc w W c q m L2 rows → ∀ a1 c1, (a1, L) ∈ rows → Calls Try.prog 15 #[.slice a1 L.length c1, .agg #[.int .i64 sel, .int .i64 1, .string EB]] W fun e W1 => e = .returned (.int .i64 (Num.get L (sel, 1, EB.toList))) ∧ Below W.heap.size W W1) := fun W rows hW a1 c1 hm => dc_get hW (by omega) hm sel 1 EB
                have HG4 : Hid (∀ W rows, Dc w W c q m L2 rows → ∀ a1 c1, (a1, L2) ∈ rows → Calls Try.prog 15 #[.slice a1 L2.length c1, .agg #[.int .i64 buy, .int .i64 1, .string EB]] W fun e W1 => e = .returned (.int .i64 (Num.get L2 (buy, 1, EB.toList))) ∧ Below W.heap.size W W1) := fun W rows hW a1 c1 hm => dc_get hW HG2.out.2 hm buy 1 EB
                have HG5 : Hid (∀ W rows, Dc w W c q m L2 rows → ∀ a1 c1, (a1, L) ∈ rows → Calls Try.prog 15 #[.slice a1 L.length c1, .agg #[.int .i64 buy, .int .i64 1, .string EB]] W fun e W1 => e = .returned (.int .i64 (Num.get L (buy, 1, EB.toList))) ∧ Below W.heap.size W W1) := fun W rows hW a1 c1 hm => dc_get hW (by omega) hm buy 1 EB
                generalize Num.get L2 (sel, 1, EB.toList) = NA at *
                generalize Num.get L2 (buy, 1, EB.toList) = NB at *
                generalize Num.get L (sel, 1, EB.toList) = GA at *
                generalize Num.get L (buy, 1, EB.toList) = GB at *
                have hwA : IntKind.i64.wrap (GA + cash) = NA := (Rng.w (x := GA + cash) (by unfold Rng; omega)).trans hA.symm
                have hwY : IntKind.i64.wrap ((ys.length : Int) + 1) = (ys.length : Int) + 1 := Rng.w (by unfold Rng; omega)
                have hwB : IntKind.i64.wrap (GB - cash) = NB := (Rng.w (x := GB - cash) (by unfold Rng; omega)).trans hB.symm
                clear HCS HCR hA hB hGA hGB hcr HJ hall HX
                go_upto_region 23 with (go_at_call 13; refine (dc_told2 hDc HG2.out.1 HG2.out.2).mono ?_; rintro e w9 ⟨a9, c9', rfl, HC9, HB9⟩)
                have hY1 : Bx w9 g1 #[.int .i64 sel, .int .i64 1, .string EB] 40 := hX1.below HB9.out hX1.lt
                have hY2 : Bx w9 g2 #[.int .i64 buy, .int .i64 1, .string EB] 40 := hX2.below HB9.out hX2.lt
                have hgl1 := hY1.lt
                have hgl2 := hY2.lt
                have hR9 := HC9.out.r
                refine wp_region_held (S := fun W => Below w9.heap.size w9 W) (by kernel_rfl) ?_
                change wpAnyH _ _ _ _ _ 31 #[false, false, false, false, false, false, false, false, false, false, false, false, false, false, false, false, false, false, false, false, false, false, false, false, false, false, false, false, false, false, false] _ w9.drew
                have hS0 : Below w9.heap.size w9 w9.drew := ⟨rfl, rfl, rfl, Nat.le_refl _, fun _ _ => rfl⟩
                obtain ⟨v0, hv0⟩ : ∃ v, v = w9.drew := ⟨_, rfl⟩
                rw [← hv0] at hS0 ⊢
                clear hv0 hR9
                refine takeR (fuel := 30) (i := 0) (v := .int .i64 ((ys.length : Int) + 1)) rfl (by kernel_rfl) (by kernel_rfl) (by kernel_rfl) (fun _ _ _ h => h) (Or.inl ⟨rfl, fun W hW => by go_simp⟩) hS0 ?_
                simp only [Act.put, List.setIfInBounds_toArray, List.set_cons_zero, List.set_cons_succ]
                refine takeR (fuel := 29) (i := 1) (v := .slice ay ys.length cy) rfl (by kernel_rfl) (by kernel_rfl) (by kernel_rfl) (fun _ _ _ h => h) (Or.inl ⟨rfl, fun W hW => by go_simp⟩) hS0 ?_
                simp only [Act.put, List.setIfInBounds_toArray, List.set_cons_zero, List.set_cons_succ]
                refine takeR (fuel := 28) (i := 2) (v := .int .i64 (ys.length : Int)) rfl (by kernel_rfl) (by kernel_rfl) (by kernel_rfl) (fun _ _ _ h => h) (Or.inl ⟨rfl, fun W hW => by go_simp⟩) hS0 ?_
                simp only [Act.put, List.setIfInBounds_toArray, List.set_cons_zero, List.set_cons_succ]
                refine takeR (fuel := 27) (i := 3) (v := .int .i64 ((ys.length : Int) + 1)) rfl (by kernel_rfl) (by kernel_rfl) (by kernel_rfl) (fun _ _ _ h => h) (Or.inl ⟨rfl, fun W hW => by go_simp⟩) hS0 ?_
                simp only [Act.put, List.setIfInBounds_toArray, List.set_cons_zero, List.set_cons_succ]
                refine takeR (fuel := 26) (i := 4) (v := .bool true) rfl (by kernel_rfl) (by kernel_rfl) (by kernel_rfl) (fun _ _ _ h => h) (Or.inl ⟨rfl, fun W hW => by go_simp⟩) hS0 ?_
                simp only [Act.put, List.setIfInBounds_toArray, List.set_cons_zero, List.set_cons_succ]
                refine takeR (fuel := 25) (i := 5) (v := .bool true) rfl (by kernel_rfl) (by kernel_rfl) (by kernel_rfl) (fun _ _ _ h => h) (Or.inl ⟨rfl, fun W hW => by go_simp⟩) hS0 ?_
                simp only [Act.put, List.setIfInBounds_toArray, List.set_cons_zero, List.set_cons_succ]
                refine takeR (fuel := 24) (i := 6) (v := .slice a9 L2.length c9') rfl (by kernel_rfl) (by kernel_rfl) (by kernel_rfl) (fun _ _ _ h => h) (Or.inl ⟨rfl, fun W hW => by go_simp⟩) hS0 ?_
                simp only [Act.put, List.setIfInBounds_toArray, List.set_cons_zero, List.set_cons_succ]
                refine takeR (fuel := 23) (i := 7) (v := .agg #[.int .i64 sel, .int .i64 1, .string EB]) rfl (by kernel_rfl) (by kernel_rfl) (by kernel_rfl) (fun _ _ _ h => h) (Or.inl ⟨rfl, fun W hW => exl _ _ _ _ rfl _ _ rfl (load40 W g1 0 1 2 _ _ _ rfl rfl ((hY1.below hW (by omega)).cell 0) ((hY1.below hW (by omega)).cell 1) ((hY1.below hW (by omega)).cell 2))⟩) hS0 ?_
                simp only [Act.put, List.setIfInBounds_toArray, List.set_cons_zero, List.set_cons_succ]
                refine takeR (fuel := 22) (i := 9) (v := .slice a5 L.length c5) rfl (by kernel_rfl) (by kernel_rfl) (by kernel_rfl) (fun _ _ _ h => h) (Or.inl ⟨rfl, fun W hW => by go_simp⟩) hS0 ?_
                simp only [Act.put, List.setIfInBounds_toArray, List.set_cons_zero, List.set_cons_succ]
                refine takeR (fuel := 21) (i := 10) (v := .agg #[.int .i64 sel, .int .i64 1, .string EB]) rfl (by kernel_rfl) (by kernel_rfl) (by kernel_rfl) (fun _ _ _ h => h) (Or.inl ⟨rfl, fun W hW => exl _ _ _ _ rfl _ _ rfl (load40 W g1 0 1 2 _ _ _ rfl rfl ((hY1.below hW (by omega)).cell 0) ((hY1.below hW (by omega)).cell 1) ((hY1.below hW (by omega)).cell 2))⟩) hS0 ?_
                simp only [Act.put, List.setIfInBounds_toArray, List.set_cons_zero, List.set_cons_succ]
                refine takeR (fuel := 20) (i := 12) (v := .int .i64 cash) rfl (by kernel_rfl) (by kernel_rfl) (by kernel_rfl) (fun _ _ _ h => h) (Or.inl ⟨rfl, fun W hW => by go_simp⟩) hS0 ?_
                simp only [Act.put, List.setIfInBounds_toArray, List.set_cons_zero, List.set_cons_succ]
                refine consR (fuel := 19) (i := 8) rfl (by kernel_rfl) (fun K hK => ?_)
                rw [if_pos (by rfl)]
                go_simp
                refine (HG1.out v0 _ (HC9.out.below hS0) _ _ (by simp)).mono ?_
                rintro e v1 ⟨rfl, hC⟩
                refine hK.out _ _ (hS0.trans (hC.mono hS0.size)) (fun hS1 => ?_)
                clear hK hC
                try simp only [Act.put, List.setIfInBounds_toArray, List.set_cons_zero, List.set_cons_succ]
                refine consR (fuel := 18) (i := 11) rfl (by kernel_rfl) (fun K hK => ?_)
                rw [if_pos (by rfl)]
                go_simp
                refine (HG3.out v1 _ (HC9.out.below hS1) _ _ (by simp)).mono ?_
                rintro e v2 ⟨rfl, hC⟩
                refine hK.out _ _ (hS1.trans (hC.mono hS1.size)) (fun hS2 => ?_)
                clear hK hC
                try simp only [Act.put, List.setIfInBounds_toArray, List.set_cons_zero, List.set_cons_succ]
                refine takeR (fuel := 17) (i := 13) (v := .int .i64 NA) rfl (by kernel_rfl) (by kernel_rfl) (by kernel_rfl) (fun _ _ _ h => h) (Or.inl ⟨rfl, fun W hW => by go_simp⟩) hS2 ?_
                simp only [Act.put, List.setIfInBounds_toArray, List.set_cons_zero, List.set_cons_succ]
                refine takeR (fuel := 16) (i := 14) (v := .bool true) rfl (by kernel_rfl) (by kernel_rfl) (by kernel_rfl) (fun _ _ _ h => h) (Or.inl ⟨rfl, fun W hW => by go_simp⟩) hS2 ?_
                simp only [Act.put, List.setIfInBounds_toArray, List.set_cons_zero, List.set_cons_succ]
                refine takeR (fuel := 15) (i := 15) (v := .bool true) rfl (by kernel_rfl) (by kernel_rfl) (by kernel_rfl) (fun _ _ _ h => h) (Or.inl ⟨rfl, fun W hW => by go_simp⟩) hS2 ?_
                simp only [Act.put, List.setIfInBounds_toArray, List.set_cons_zero, List.set_cons_succ]
                refine takeR (fuel := 14) (i := 16) (v := .bool true) rfl (by kernel_rfl) (by kernel_rfl) (by kernel_rfl) (fun _ _ _ h => h) (Or.inl ⟨rfl, fun W hW => by go_simp⟩) hS2 ?_
                simp only [Act.put, List.setIfInBounds_toArray, List.set_cons_zero, List.set_cons_succ]
                refine takeR (fuel := 13) (i := 17) (v := .slice a9 L2.length c9') rfl (by kernel_rfl) (by kernel_rfl) (by kernel_rfl) (fun _ _ _ h => h) (Or.inl ⟨rfl, fun W hW => by go_simp⟩) hS2 ?_
                simp only [Act.put, List.setIfInBounds_toArray, List.set_cons_zero, List.set_cons_succ]
                refine takeR (fuel := 12) (i := 18) (v := .agg #[.int .i64 buy, .int .i64 1, .string EB]) rfl (by kernel_rfl) (by kernel_rfl) (by kernel_rfl) (fun _ _ _ h => h) (Or.inl ⟨rfl, fun W hW => exl _ _ _ _ rfl _ _ rfl (load40 W g2 0 1 2 _ _ _ rfl rfl ((hY2.below hW (by omega)).cell 0) ((hY2.below hW (by omega)).cell 1) ((hY2.below hW (by omega)).cell 2))⟩) hS2 ?_
                simp only [Act.put, List.setIfInBounds_toArray, List.set_cons_zero, List.set_cons_succ]
                refine takeR (fuel := 11) (i := 20) (v := .slice a5 L.length c5) rfl (by kernel_rfl) (by kernel_rfl) (by kernel_rfl) (fun _ _ _ h => h) (Or.inl ⟨rfl, fun W hW => by go_simp⟩) hS2 ?_
                simp only [Act.put, List.setIfInBounds_toArray, List.set_cons_zero, List.set_cons_succ]
                refine takeR (fuel := 10) (i := 21) (v := .agg #[.int .i64 buy, .int .i64 1, .string EB]) rfl (by kernel_rfl) (by kernel_rfl) (by kernel_rfl) (fun _ _ _ h => h) (Or.inl ⟨rfl, fun W hW => exl _ _ _ _ rfl _ _ rfl (load40 W g2 0 1 2 _ _ _ rfl rfl ((hY2.below hW (by omega)).cell 0) ((hY2.below hW (by omega)).cell 1) ((hY2.below hW (by omega)).cell 2))⟩) hS2 ?_
                simp only [Act.put, List.setIfInBounds_toArray, List.set_cons_zero, List.set_cons_succ]
                refine takeR (fuel := 9) (i := 23) (v := .int .i64 cash) rfl (by kernel_rfl) (by kernel_rfl) (by kernel_rfl) (fun _ _ _ h => h) (Or.inl ⟨rfl, fun W hW => by go_simp⟩) hS2 ?_
                simp only [Act.put, List.setIfInBounds_toArray, List.set_cons_zero, List.set_cons_succ]
                refine consR (fuel := 8) (i := 19) rfl (by kernel_rfl) (fun K hK => ?_)
                rw [if_pos (by rfl)]
                go_simp
                refine (HG4.out v2 _ (HC9.out.below hS2) _ _ (by simp)).mono ?_
                rintro e v3 ⟨rfl, hC⟩
                refine hK.out _ _ (hS2.trans (hC.mono hS2.size)) (fun hS3 => ?_)
                clear hK hC
                try simp only [Act.put, List.setIfInBounds_toArray, List.set_cons_zero, List.set_cons_succ]
                refine consR (fuel := 7) (i := 22) rfl (by kernel_rfl) (fun K hK => ?_)
                rw [if_pos (by rfl)]
                go_simp
                refine (HG5.out v3 _ (HC9.out.below hS3) _ _ (by simp)).mono ?_
                rintro e v4 ⟨rfl, hC⟩
                refine hK.out _ _ (hS3.trans (hC.mono hS3.size)) (fun hS4 => ?_)
                clear hK hC
                try simp only [Act.put, List.setIfInBounds_toArray, List.set_cons_zero, List.set_cons_succ]
                refine takeR (fuel := 6) (i := 24) (v := .int .i64 NB) rfl (by kernel_rfl) (by kernel_rfl) (by kernel_rfl) (fun _ _ _ h => h) (Or.inl ⟨rfl, fun W hW => by go_simp⟩) hS4 ?_
                simp only [Act.put, List.setIfInBounds_toArray, List.set_cons_zero, List.set_cons_succ]
                refine takeR (fuel := 5) (i := 25) (v := .bool true) rfl (by kernel_rfl) (by kernel_rfl) (by kernel_rfl) (fun _ _ _ h => h) (Or.inl ⟨rfl, fun W hW => by go_simp⟩) hS4 ?_
                simp only [Act.put, List.setIfInBounds_toArray, List.set_cons_zero, List.set_cons_succ]
                refine takeR (fuel := 4) (i := 26) (v := .bool true) rfl (by kernel_rfl) (by kernel_rfl) (by kernel_rfl) (fun _ _ _ h => h) (Or.inl ⟨rfl, fun W hW => by go_simp⟩) hS4 ?_
                simp only [Act.put, List.setIfInBounds_toArray, List.set_cons_zero, List.set_cons_succ]
                refine takeR (fuel := 3) (i := 27) (v := .bool true) rfl (by kernel_rfl) (by kernel_rfl) (by kernel_rfl) (fun _ _ _ h => h) (Or.inl ⟨rfl, fun W hW => by go_simp⟩) hS4 ?_
                simp only [Act.put, List.setIfInBounds_toArray, List.set_cons_zero, List.set_cons_succ]
                refine consR (fuel := 2) (i := 28) rfl (by kernel_rfl) (fun K hK => ?_)
                rw [if_pos (by rfl)]
                go_simp
                refine (xcawake v4).mono ?_
                rintro e v5 ⟨rfl, hC⟩
                have hS5' : Below w9.heap.size w9 v5 := hS4.trans (hC.mono hS4.size)
                refine hK.out _ _ hS5' (fun hS5 => ?_)
                clear hK
                try simp only [Act.put, List.setIfInBounds_toArray, List.set_cons_zero, List.set_cons_succ]
                refine takeR (fuel := 1) (i := 29) (v := .bool true) rfl (by kernel_rfl) (by kernel_rfl) (by kernel_rfl) (fun _ _ _ h => h) (Or.inl ⟨rfl, fun W hW => by go_simp⟩) hS5 ?_
                simp only [Act.put, List.setIfInBounds_toArray, List.set_cons_zero, List.set_cons_succ]
                refine takeR (fuel := 0) (i := 30) (v := .bool true) rfl (by kernel_rfl) (by kernel_rfl) (by kernel_rfl) (fun _ _ _ h => h) (Or.inl ⟨rfl, fun W hW => by go_simp⟩) hS5 ?_
                simp only [Act.put, List.setIfInBounds_toArray, List.set_cons_zero, List.set_cons_succ]
                refine wpAnyH_done (by kernel_rfl) ?_ _
                go_wp2_with fail
                go_ret
                exact ⟨rfl, HC9.out.b.trans (hS5.mono HC9.out.b.size)⟩
        · have hE' : (mvE L (trl sel buy ys EB cash) != 0) = true := by simp [hE]
          have hML : mvL L (trl sel buy ys EB cash) = L := mvE_keep hE
          have hN := mvN_low hE
          rw [trl_len] at hN
          have hN' : mvN L (trl sel buy ys EB cash) ≤ (ys.length : Int) := by omega
          rw [hML] at HTR
          generalize mvN L (trl sel buy ys EB cash) = N at *
          generalize mvE L (trl sel buy ys EB cash) = E at *
          clear hE hML hN
          go_wp2_with (first | (go_at_call 13; refine (dc_told HC0.out HG.out (by omega)).mono ?_; rintro e w5 ⟨a5, c5, rfl, HC5⟩; clear HC0) | (go_at_call 30; refine (HTR.out _ _ HC5.out).mono ?_; rintro e w6 ⟨rfl, HC6⟩; clear HTR HC5) | (go_at_call 13; refine (dc_told HC6.out HG.out (by omega)).mono ?_; rintro e w7 ⟨a7, c7, rfl, HC7⟩; clear HC6) | (go_at_call 12; refine (dc_same HC7.out (by omega) (by simp) (by simp)).mono ?_; rintro e w8 ⟨rfl, HC8⟩; clear HC7) | (go_at_call 14; refine (dc_awake HC8.out).mono ?_; rintro e w9 ⟨rfl, HF⟩))
          go_ret
          exact HF.out
      · have hkz : ¬ (k : Int) < (xs.length : Int) := by omega
        have HG : Hid (Num.Good L) := HR.out.1
        have hLn : L.length ≤ 3280 := by have := HR.out.2.1; omega
        have HC0 : Hid (Dc w wr c q m L []) := dc_of HR.out.2.2
        clear HR HA
        by_cases hyl : 40 < ys.length
        · have hyl' : (40 : Int) < (ys.length : Int) := by omega
          go_wp2_with (go_at_call 14; refine (dc_awake HC0.out).mono ?_; rintro e w5 ⟨rfl, HF⟩)
          go_ret
          exact HF.out
        have hyl' : ¬ (40 : Int) < (ys.length : Int) := by omega
        have HTR : Hid (∀ W rows, Dc w W c q m L rows → Calls Try.prog 30 #[.pointer (some ⟨c, 0, none⟩), .int .i64 sel, .int .i64 buy, .slice ay ys.length cy, .string EB, .int .i64 cash] W fun e W1 => e = .returned (.tuple #[.int .i64 (mvN L (trl sel buy ys EB cash)), .int .i64 (mvE L (trl sel buy ys EB cash))]) ∧ Hid (Dc w W1 c q m (mvL L (trl sel buy ys EB cash)) rows)) := fun W rows hW => dc_trade hW HG.out (by omega) sel buy cash ys (by omega) ay cy HY.out
        by_cases hE : mvE L (trl sel buy ys EB cash) = 0
        · by_cases hsb : sel = buy
          · have hsb' : (sel == buy) = true := by simp [hsb]
            have hML : mvL L (trl sel buy ys EB cash) = L := by rw [hsb] at hE ⊢; exact trade_same HG.out hE
            rw [hE, hML] at HTR
            generalize mvN L (trl sel buy ys EB cash) = N at *
            clear hE hML hsb
            go_wp2_with (first | (go_at_call 13; refine (dc_told HC0.out HG.out (by omega)).mono ?_; rintro e w5 ⟨a5, c5, rfl, HC5⟩; clear HC0) | (go_at_call 30; refine (HTR.out _ _ HC5.out).mono ?_; rintro e w6 ⟨rfl, HC6⟩; clear HTR HC5) | (go_at_call 13; refine (dc_told HC6.out HG.out (by omega)).mono ?_; rintro e w7 ⟨a7, c7, rfl, HC7⟩; clear HC6) | (go_at_call 12; refine (dc_same HC7.out (by omega) (by simp) (by simp)).mono ?_; rintro e w8 ⟨rfl, HC8⟩; clear HC7) | (go_at_call 14; refine (dc_awake HC8.out).mono ?_; rintro e w9 ⟨rfl, HF⟩))
            go_ret
            exact HF.out
          · have hsb' : (sel == buy) = false := by simp [hsb]
            have hNN := (trade_done hE).1
            have HCS : Hid ((∀ x ∈ ys, x.1.toList ≠ EB.toList) → Num.get (mvL L (trl sel buy ys EB cash)) (sel, 1, EB.toList) = Num.get L (sel, 1, EB.toList) + cash ∧ Num.get (mvL L (trl sel buy ys EB cash)) (buy, 1, EB.toList) = Num.get L (buy, 1, EB.toList) - cash) := fun hx => trade_cash hE hsb hx
            have HCR : Hid (1 ≤ cash ∧ cash ≤ 1125899906842624) := trade_rng HG.out hE
            have HG2 : Hid (Num.Good (mvL L (trl sel buy ys EB cash)) ∧ (mvL L (trl sel buy ys EB cash)).length ≤ 1000000) := by
              have := mvL_len L (trl sel buy ys EB cash)
              rw [trl_len] at this
              exact ⟨mvL_good HG.out _, by omega⟩
            rw [hE, hNN] at HTR
            generalize mvL L (trl sel buy ys EB cash) = L2 at *
            clear hE hNN hsb
            go_upto_region 17 with (first | (go_at_call 13; refine (dc_told HC0.out HG.out (by omega)).mono ?_; rintro e w5 ⟨a5, c5, rfl, HC5⟩; clear HC0) | (go_at_call 30; refine (HTR.out _ _ HC5.out).mono ?_; rintro e w6 ⟨rfl, HC6⟩; clear HTR HC5))
            obtain ⟨w7, hw7⟩ : ∃ w7, w7 = (w6.alloc (.cells #[.int .i64 sel, .int .i64 1, .string EB] 40)).alloc (.cells #[.int .i64 buy, .int .i64 1, .string EB] 40) := ⟨_, rfl⟩
            have HW7 : Hid ((w6.alloc (.cells #[.int .i64 sel, .int .i64 1, .string EB] 40)).alloc (.cells #[.int .i64 buy, .int .i64 1, .string EB] 40) = w7) := hw7.symm
            have HX : Hid (Bx w7 w6.heap.size #[.int .i64 sel, .int .i64 1, .string EB] 40 ∧ Bx w7 (w6.heap.size + 1) #[.int .i64 buy, .int .i64 1, .string EB] 40 ∧ Dc w w7 c q m L2 [(a5, L)]) := by
              have hb : Below w6.heap.size w6 w7 := by rw [hw7]; exact ((Below.refl _ w6).alloc (Nat.le_refl _) _).alloc (by simp) _
              refine ⟨?_, ?_, HC6.out.below hb⟩
              · rw [hw7]; exact (Bx.new w6 _ _).kept (grown_alloc _ _ none) (by simp)
              · rw [hw7]
                have := Bx.new (w6.alloc (.cells #[.int .i64 sel, .int .i64 1, .string EB] 40)) #[.int .i64 buy, .int .i64 1, .string EB] 40
                rw [World.size_alloc] at this
                exact this
            clear hw7
            rw [HW7.out]
            clear HW7 HC6
            obtain ⟨g2, hg2⟩ : ∃ g2, g2 = w6.heap.size + 1 := ⟨_, rfl⟩
            rw [← hg2] at HX ⊢
            generalize w6.heap.size = g1 at *
            clear hg2
            go_wp2_with fail
            go_loopw [19] (fun i w8 => ∃ k2 : Nat, k2 ≤ ys.length ∧ i = .int .i64 k2 ∧ Hid (∀ j (h : j < ys.length), j < k2 → ys[j].1.toList ≠ EB.toList) ∧ w8 = w7)
              (fun i _ => ys.length - (intOf i).toNat)
            case atStart => exact ⟨0, Nat.zero_le _, rfl, fun j _ h => absurd h (Nat.not_lt_zero j), rfl⟩
            case round =>
              obtain ⟨k2, hk2, rfl, HJ, rfl⟩ := hrel
              by_cases hkn2 : k2 < ys.length
              · have hkz2 : (k2 : Int) < (ys.length : Int) := by omega
                obtain ⟨blk2, off2, rfl, hbl2, hcs2⟩ := HY.out (by omega)
                have hc2 := hcs2 k2 hkn2
                have HJ2 : Hid (ys[k2].1.toList ≠ EB.toList → ∀ j (h : j < ys.length), j < k2 + 1 → ys[j].1.toList ≠ EB.toList) := fun hs j hj hk1 => by
                  rcases Nat.lt_or_ge j k2 with h1 | h1
                  · exact HJ.out j hj h1
                  · obtain rfl : j = k2 := by omega
                    exact hs
                generalize ys[k2] = y at *
                obtain ⟨ls, lq⟩ := y
                have e0 : wr.cell? ⟨blk2, off2 + k2 * 2, none⟩ = some (.string ls) := (HX.out.2.2.b.cell (p := ⟨blk2, off2 + k2 * 2 + 0, none⟩) hbl2).trans (hc2 0 (by omega))
                have e1 : wr.cell? ⟨blk2, off2 + k2 * 2 + 1, none⟩ = some (.int .i64 lq) := (HX.out.2.2.b.cell (p := ⟨blk2, off2 + k2 * 2 + 1, none⟩) hbl2).trans (hc2 1 (by omega))
                clear hc2 hcs2
                by_cases hls : ls.toList = EB.toList
                · have hls' : (ls.toList == EB.toList) = true := by simp [hls]
                  have hls2 : ls = EB := by rw [← toList_S ls, hls, toList_S]
                  subst hls2
                  clear hls hls'
                  go_wp2_with (go_at_call 14; refine (dc_awake HX.out.2.2).mono ?_; rintro e w9 ⟨rfl, HF⟩)
                  go_ret
                  exact HF.out
                · have HJ3 : Hid (∀ j (h : j < ys.length), j < k2 + 1 → ys[j].1.toList ≠ EB.toList) := HJ2.out hls
                  have hls' : (ls.toList == EB.toList) = false := beq_eq_false_iff_ne.2 hls
                  have hls3 : (ls.toList == [69, 85, 82]) = false := by rw [← tE]; exact hls'
                  clear HJ2 hls
                  go_wp2_with fail
                  go_roundw
                  case rel => exact ⟨k2 + 1, by omega, by simp, HJ3, trivial⟩
                  case measure => simp [intOf]; omega
              · have hkz2 : ¬ (k2 : Int) < (ys.length : Int) := by omega
                have hall : ∀ x ∈ ys, x.1.toList ≠ EB.toList := fun x hx => by
                  obtain ⟨i, hi, rfl⟩ := List.getElem_of_mem hx
                  exact HJ.out i hi (by omega)
                obtain ⟨hA, hB⟩ := HCS.out hall
                have hGA := HG.out.get (sel, 1, EB.toList)
                have hGB := HG.out.get (buy, 1, EB.toList)
                have hcr := HCR.out
                obtain ⟨hX1, hX2, hDc⟩ := HX.out
                have HG1 : Hid (∀ W rows, Dc w W c q m L2 rows → ∀ a1 c1, (a1, L2) ∈ rows → Calls Try.prog 15 #[.slice a1 L2.length c1, .agg #[.int .i64 sel, .int .i64 1, .string EB]] W fun e W1 => e = .returned (.int .i64 (Num.get L2 (sel, 1, EB.toList))) ∧ Below W.heap.size W W1) := fun W rows hW a1 c1 hm => dc_get hW HG2.out.2 hm sel 1 EB
                have HG3 : Hid (∀ W rows, Dc w W c q m L2 rows → ∀ a1 c1, (a1, L) ∈ rows → Calls Try.prog 15 #[.slice a1 L.length c1, .agg #[.int .i64 sel, .int .i64 1, .string EB]] W fun e W1 => e = .returned (.int .i64 (Num.get L (sel, 1, EB.toList))) ∧ Below W.heap.size W W1) := fun W rows hW a1 c1 hm => dc_get hW (by omega) hm sel 1 EB
                have HG4 : Hid (∀ W rows, Dc w W c q m L2 rows → ∀ a1 c1, (a1, L2) ∈ rows → Calls Try.prog 15 #[.slice a1 L2.length c1, .agg #[.int .i64 buy, .int .i64 1, .string EB]] W fun e W1 => e = .returned (.int .i64 (Num.get L2 (buy, 1, EB.toList))) ∧ Below W.heap.size W W1) := fun W rows hW a1 c1 hm => dc_get hW HG2.out.2 hm buy 1 EB
                have HG5 : Hid (∀ W rows, Dc w W c q m L2 rows → ∀ a1 c1, (a1, L) ∈ rows → Calls Try.prog 15 #[.slice a1 L.length c1, .agg #[.int .i64 buy, .int .i64 1, .string EB]] W fun e W1 => e = .returned (.int .i64 (Num.get L (buy, 1, EB.toList))) ∧ Below W.heap.size W W1) := fun W rows hW a1 c1 hm => dc_get hW (by omega) hm buy 1 EB
                generalize Num.get L2 (sel, 1, EB.toList) = NA at *
                generalize Num.get L2 (buy, 1, EB.toList) = NB at *
                generalize Num.get L (sel, 1, EB.toList) = GA at *
                generalize Num.get L (buy, 1, EB.toList) = GB at *
                have hwA : IntKind.i64.wrap (GA + cash) = NA := (Rng.w (x := GA + cash) (by unfold Rng; omega)).trans hA.symm
                have hwY : IntKind.i64.wrap ((ys.length : Int) + 1) = (ys.length : Int) + 1 := Rng.w (by unfold Rng; omega)
                have hwB : IntKind.i64.wrap (GB - cash) = NB := (Rng.w (x := GB - cash) (by unfold Rng; omega)).trans hB.symm
                clear HCS HCR hA hB hGA hGB hcr HJ hall HX
                go_upto_region 23 with (go_at_call 13; refine (dc_told2 hDc HG2.out.1 HG2.out.2).mono ?_; rintro e w9 ⟨a9, c9', rfl, HC9, HB9⟩)
                have hY1 : Bx w9 g1 #[.int .i64 sel, .int .i64 1, .string EB] 40 := hX1.below HB9.out hX1.lt
                have hY2 : Bx w9 g2 #[.int .i64 buy, .int .i64 1, .string EB] 40 := hX2.below HB9.out hX2.lt
                have hgl1 := hY1.lt
                have hgl2 := hY2.lt
                have hR9 := HC9.out.r
                refine wp_region_held (S := fun W => Below w9.heap.size w9 W) (by kernel_rfl) ?_
                change wpAnyH _ _ _ _ _ 31 #[false, false, false, false, false, false, false, false, false, false, false, false, false, false, false, false, false, false, false, false, false, false, false, false, false, false, false, false, false, false, false] _ w9.drew
                have hS0 : Below w9.heap.size w9 w9.drew := ⟨rfl, rfl, rfl, Nat.le_refl _, fun _ _ => rfl⟩
                obtain ⟨v0, hv0⟩ : ∃ v, v = w9.drew := ⟨_, rfl⟩
                rw [← hv0] at hS0 ⊢
                clear hv0 hR9
                refine takeR (fuel := 30) (i := 0) (v := .int .i64 ((ys.length : Int) + 1)) rfl (by kernel_rfl) (by kernel_rfl) (by kernel_rfl) (fun _ _ _ h => h) (Or.inl ⟨rfl, fun W hW => by go_simp⟩) hS0 ?_
                simp only [Act.put, List.setIfInBounds_toArray, List.set_cons_zero, List.set_cons_succ]
                refine takeR (fuel := 29) (i := 1) (v := .slice ay ys.length cy) rfl (by kernel_rfl) (by kernel_rfl) (by kernel_rfl) (fun _ _ _ h => h) (Or.inl ⟨rfl, fun W hW => by go_simp⟩) hS0 ?_
                simp only [Act.put, List.setIfInBounds_toArray, List.set_cons_zero, List.set_cons_succ]
                refine takeR (fuel := 28) (i := 2) (v := .int .i64 (ys.length : Int)) rfl (by kernel_rfl) (by kernel_rfl) (by kernel_rfl) (fun _ _ _ h => h) (Or.inl ⟨rfl, fun W hW => by go_simp⟩) hS0 ?_
                simp only [Act.put, List.setIfInBounds_toArray, List.set_cons_zero, List.set_cons_succ]
                refine takeR (fuel := 27) (i := 3) (v := .int .i64 ((ys.length : Int) + 1)) rfl (by kernel_rfl) (by kernel_rfl) (by kernel_rfl) (fun _ _ _ h => h) (Or.inl ⟨rfl, fun W hW => by go_simp⟩) hS0 ?_
                simp only [Act.put, List.setIfInBounds_toArray, List.set_cons_zero, List.set_cons_succ]
                refine takeR (fuel := 26) (i := 4) (v := .bool true) rfl (by kernel_rfl) (by kernel_rfl) (by kernel_rfl) (fun _ _ _ h => h) (Or.inl ⟨rfl, fun W hW => by go_simp⟩) hS0 ?_
                simp only [Act.put, List.setIfInBounds_toArray, List.set_cons_zero, List.set_cons_succ]
                refine takeR (fuel := 25) (i := 5) (v := .bool true) rfl (by kernel_rfl) (by kernel_rfl) (by kernel_rfl) (fun _ _ _ h => h) (Or.inl ⟨rfl, fun W hW => by go_simp⟩) hS0 ?_
                simp only [Act.put, List.setIfInBounds_toArray, List.set_cons_zero, List.set_cons_succ]
                refine takeR (fuel := 24) (i := 6) (v := .slice a9 L2.length c9') rfl (by kernel_rfl) (by kernel_rfl) (by kernel_rfl) (fun _ _ _ h => h) (Or.inl ⟨rfl, fun W hW => by go_simp⟩) hS0 ?_
                simp only [Act.put, List.setIfInBounds_toArray, List.set_cons_zero, List.set_cons_succ]
                refine takeR (fuel := 23) (i := 7) (v := .agg #[.int .i64 sel, .int .i64 1, .string EB]) rfl (by kernel_rfl) (by kernel_rfl) (by kernel_rfl) (fun _ _ _ h => h) (Or.inl ⟨rfl, fun W hW => exl _ _ _ _ rfl _ _ rfl (load40 W g1 0 1 2 _ _ _ rfl rfl ((hY1.below hW (by omega)).cell 0) ((hY1.below hW (by omega)).cell 1) ((hY1.below hW (by omega)).cell 2))⟩) hS0 ?_
                simp only [Act.put, List.setIfInBounds_toArray, List.set_cons_zero, List.set_cons_succ]
                refine takeR (fuel := 22) (i := 9) (v := .slice a5 L.length c5) rfl (by kernel_rfl) (by kernel_rfl) (by kernel_rfl) (fun _ _ _ h => h) (Or.inl ⟨rfl, fun W hW => by go_simp⟩) hS0 ?_
                simp only [Act.put, List.setIfInBounds_toArray, List.set_cons_zero, List.set_cons_succ]
                refine takeR (fuel := 21) (i := 10) (v := .agg #[.int .i64 sel, .int .i64 1, .string EB]) rfl (by kernel_rfl) (by kernel_rfl) (by kernel_rfl) (fun _ _ _ h => h) (Or.inl ⟨rfl, fun W hW => exl _ _ _ _ rfl _ _ rfl (load40 W g1 0 1 2 _ _ _ rfl rfl ((hY1.below hW (by omega)).cell 0) ((hY1.below hW (by omega)).cell 1) ((hY1.below hW (by omega)).cell 2))⟩) hS0 ?_
                simp only [Act.put, List.setIfInBounds_toArray, List.set_cons_zero, List.set_cons_succ]
                refine takeR (fuel := 20) (i := 12) (v := .int .i64 cash) rfl (by kernel_rfl) (by kernel_rfl) (by kernel_rfl) (fun _ _ _ h => h) (Or.inl ⟨rfl, fun W hW => by go_simp⟩) hS0 ?_
                simp only [Act.put, List.setIfInBounds_toArray, List.set_cons_zero, List.set_cons_succ]
                refine consR (fuel := 19) (i := 8) rfl (by kernel_rfl) (fun K hK => ?_)
                rw [if_pos (by rfl)]
                go_simp
                refine (HG1.out v0 _ (HC9.out.below hS0) _ _ (by simp)).mono ?_
                rintro e v1 ⟨rfl, hC⟩
                refine hK.out _ _ (hS0.trans (hC.mono hS0.size)) (fun hS1 => ?_)
                clear hK hC
                try simp only [Act.put, List.setIfInBounds_toArray, List.set_cons_zero, List.set_cons_succ]
                refine consR (fuel := 18) (i := 11) rfl (by kernel_rfl) (fun K hK => ?_)
                rw [if_pos (by rfl)]
                go_simp
                refine (HG3.out v1 _ (HC9.out.below hS1) _ _ (by simp)).mono ?_
                rintro e v2 ⟨rfl, hC⟩
                refine hK.out _ _ (hS1.trans (hC.mono hS1.size)) (fun hS2 => ?_)
                clear hK hC
                try simp only [Act.put, List.setIfInBounds_toArray, List.set_cons_zero, List.set_cons_succ]
                refine takeR (fuel := 17) (i := 13) (v := .int .i64 NA) rfl (by kernel_rfl) (by kernel_rfl) (by kernel_rfl) (fun _ _ _ h => h) (Or.inl ⟨rfl, fun W hW => by go_simp⟩) hS2 ?_
                simp only [Act.put, List.setIfInBounds_toArray, List.set_cons_zero, List.set_cons_succ]
                refine takeR (fuel := 16) (i := 14) (v := .bool true) rfl (by kernel_rfl) (by kernel_rfl) (by kernel_rfl) (fun _ _ _ h => h) (Or.inl ⟨rfl, fun W hW => by go_simp⟩) hS2 ?_
                simp only [Act.put, List.setIfInBounds_toArray, List.set_cons_zero, List.set_cons_succ]
                refine takeR (fuel := 15) (i := 15) (v := .bool true) rfl (by kernel_rfl) (by kernel_rfl) (by kernel_rfl) (fun _ _ _ h => h) (Or.inl ⟨rfl, fun W hW => by go_simp⟩) hS2 ?_
                simp only [Act.put, List.setIfInBounds_toArray, List.set_cons_zero, List.set_cons_succ]
                refine takeR (fuel := 14) (i := 16) (v := .bool true) rfl (by kernel_rfl) (by kernel_rfl) (by kernel_rfl) (fun _ _ _ h => h) (Or.inl ⟨rfl, fun W hW => by go_simp⟩) hS2 ?_
                simp only [Act.put, List.setIfInBounds_toArray, List.set_cons_zero, List.set_cons_succ]
                refine takeR (fuel := 13) (i := 17) (v := .slice a9 L2.length c9') rfl (by kernel_rfl) (by kernel_rfl) (by kernel_rfl) (fun _ _ _ h => h) (Or.inl ⟨rfl, fun W hW => by go_simp⟩) hS2 ?_
                simp only [Act.put, List.setIfInBounds_toArray, List.set_cons_zero, List.set_cons_succ]
                refine takeR (fuel := 12) (i := 18) (v := .agg #[.int .i64 buy, .int .i64 1, .string EB]) rfl (by kernel_rfl) (by kernel_rfl) (by kernel_rfl) (fun _ _ _ h => h) (Or.inl ⟨rfl, fun W hW => exl _ _ _ _ rfl _ _ rfl (load40 W g2 0 1 2 _ _ _ rfl rfl ((hY2.below hW (by omega)).cell 0) ((hY2.below hW (by omega)).cell 1) ((hY2.below hW (by omega)).cell 2))⟩) hS2 ?_
                simp only [Act.put, List.setIfInBounds_toArray, List.set_cons_zero, List.set_cons_succ]
                refine takeR (fuel := 11) (i := 20) (v := .slice a5 L.length c5) rfl (by kernel_rfl) (by kernel_rfl) (by kernel_rfl) (fun _ _ _ h => h) (Or.inl ⟨rfl, fun W hW => by go_simp⟩) hS2 ?_
                simp only [Act.put, List.setIfInBounds_toArray, List.set_cons_zero, List.set_cons_succ]
                refine takeR (fuel := 10) (i := 21) (v := .agg #[.int .i64 buy, .int .i64 1, .string EB]) rfl (by kernel_rfl) (by kernel_rfl) (by kernel_rfl) (fun _ _ _ h => h) (Or.inl ⟨rfl, fun W hW => exl _ _ _ _ rfl _ _ rfl (load40 W g2 0 1 2 _ _ _ rfl rfl ((hY2.below hW (by omega)).cell 0) ((hY2.below hW (by omega)).cell 1) ((hY2.below hW (by omega)).cell 2))⟩) hS2 ?_
                simp only [Act.put, List.setIfInBounds_toArray, List.set_cons_zero, List.set_cons_succ]
                refine takeR (fuel := 9) (i := 23) (v := .int .i64 cash) rfl (by kernel_rfl) (by kernel_rfl) (by kernel_rfl) (fun _ _ _ h => h) (Or.inl ⟨rfl, fun W hW => by go_simp⟩) hS2 ?_
                simp only [Act.put, List.setIfInBounds_toArray, List.set_cons_zero, List.set_cons_succ]
                refine consR (fuel := 8) (i := 19) rfl (by kernel_rfl) (fun K hK => ?_)
                rw [if_pos (by rfl)]
                go_simp
                refine (HG4.out v2 _ (HC9.out.below hS2) _ _ (by simp)).mono ?_
                rintro e v3 ⟨rfl, hC⟩
                refine hK.out _ _ (hS2.trans (hC.mono hS2.size)) (fun hS3 => ?_)
                clear hK hC
                try simp only [Act.put, List.setIfInBounds_toArray, List.set_cons_zero, List.set_cons_succ]
                refine consR (fuel := 7) (i := 22) rfl (by kernel_rfl) (fun K hK => ?_)
                rw [if_pos (by rfl)]
                go_simp
                refine (HG5.out v3 _ (HC9.out.below hS3) _ _ (by simp)).mono ?_
                rintro e v4 ⟨rfl, hC⟩
                refine hK.out _ _ (hS3.trans (hC.mono hS3.size)) (fun hS4 => ?_)
                clear hK hC
                try simp only [Act.put, List.setIfInBounds_toArray, List.set_cons_zero, List.set_cons_succ]
                refine takeR (fuel := 6) (i := 24) (v := .int .i64 NB) rfl (by kernel_rfl) (by kernel_rfl) (by kernel_rfl) (fun _ _ _ h => h) (Or.inl ⟨rfl, fun W hW => by go_simp⟩) hS4 ?_
                simp only [Act.put, List.setIfInBounds_toArray, List.set_cons_zero, List.set_cons_succ]
                refine takeR (fuel := 5) (i := 25) (v := .bool true) rfl (by kernel_rfl) (by kernel_rfl) (by kernel_rfl) (fun _ _ _ h => h) (Or.inl ⟨rfl, fun W hW => by go_simp⟩) hS4 ?_
                simp only [Act.put, List.setIfInBounds_toArray, List.set_cons_zero, List.set_cons_succ]
                refine takeR (fuel := 4) (i := 26) (v := .bool true) rfl (by kernel_rfl) (by kernel_rfl) (by kernel_rfl) (fun _ _ _ h => h) (Or.inl ⟨rfl, fun W hW => by go_simp⟩) hS4 ?_
                simp only [Act.put, List.setIfInBounds_toArray, List.set_cons_zero, List.set_cons_succ]
                refine takeR (fuel := 3) (i := 27) (v := .bool true) rfl (by kernel_rfl) (by kernel_rfl) (by kernel_rfl) (fun _ _ _ h => h) (Or.inl ⟨rfl, fun W hW => by go_simp⟩) hS4 ?_
                simp only [Act.put, List.setIfInBounds_toArray, List.set_cons_zero, List.set_cons_succ]
                refine consR (fuel := 2) (i := 28) rfl (by kernel_rfl) (fun K hK => ?_)
                rw [if_pos (by rfl)]
                go_simp
                refine (xcawake v4).mono ?_
                rintro e v5 ⟨rfl, hC⟩
                have hS5' : Below w9.heap.size w9 v5 := hS4.trans (hC.mono hS4.size)
                refine hK.out _ _ hS5' (fun hS5 => ?_)
                clear hK
                try simp only [Act.put, List.setIfInBounds_toArray, List.set_cons_zero, List.set_cons_succ]
                refine takeR (fuel := 1) (i := 29) (v := .bool true) rfl (by kernel_rfl) (by kernel_rfl) (by kernel_rfl) (fun _ _ _ h => h) (Or.inl ⟨rfl, fun W hW => by go_simp⟩) hS5 ?_
                simp only [Act.put, List.setIfInBounds_toArray, List.set_cons_zero, List.set_cons_succ]
                refine takeR (fuel := 0) (i := 30) (v := .bool true) rfl (by kernel_rfl) (by kernel_rfl) (by kernel_rfl) (fun _ _ _ h => h) (Or.inl ⟨rfl, fun W hW => by go_simp⟩) hS5 ?_
                simp only [Act.put, List.setIfInBounds_toArray, List.set_cons_zero, List.set_cons_succ]
                refine wpAnyH_done (by kernel_rfl) ?_ _
                go_wp2_with fail
                go_ret
                exact ⟨rfl, HC9.out.b.trans (hS5.mono HC9.out.b.size)⟩
        · have hE' : (mvE L (trl sel buy ys EB cash) != 0) = true := by simp [hE]
          have hML : mvL L (trl sel buy ys EB cash) = L := mvE_keep hE
          have hN := mvN_low hE
          rw [trl_len] at hN
          have hN' : mvN L (trl sel buy ys EB cash) ≤ (ys.length : Int) := by omega
          rw [hML] at HTR
          generalize mvN L (trl sel buy ys EB cash) = N at *
          generalize mvE L (trl sel buy ys EB cash) = E at *
          clear hE hML hN
          go_wp2_with (first | (go_at_call 13; refine (dc_told HC0.out HG.out (by omega)).mono ?_; rintro e w5 ⟨a5, c5, rfl, HC5⟩; clear HC0) | (go_at_call 30; refine (HTR.out _ _ HC5.out).mono ?_; rintro e w6 ⟨rfl, HC6⟩; clear HTR HC5) | (go_at_call 13; refine (dc_told HC6.out HG.out (by omega)).mono ?_; rintro e w7 ⟨a7, c7, rfl, HC7⟩; clear HC6) | (go_at_call 12; refine (dc_same HC7.out (by omega) (by simp) (by simp)).mono ?_; rintro e w8 ⟨rfl, HC8⟩; clear HC7) | (go_at_call 14; refine (dc_awake HC8.out).mono ?_; rintro e w9 ⟨rfl, HF⟩))
          go_ret
          exact HF.out
end Go.Proofs.Ytbfnfebmmhhegaa
