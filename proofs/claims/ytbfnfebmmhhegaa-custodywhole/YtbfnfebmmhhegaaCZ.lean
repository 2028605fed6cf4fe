/- layer 12: law Whole -/
import Derived.Test.YtbfnfebmmhhegaaCY
import Derived.Test.YtbfnfebmmhhegaaCW
import Derived.Test.YtbfnfebmmhhegaaCS
import Derived.WalkKit
import Derived.ProofKit
import Derived.Handy
import Derived.WalkLawsBesides
import Derived.WalkSpells
import Derived.BigQuiet
import Derived.BigCall
import Derived.Deep.QuietTactic
import Derived.Deep.Light
import Derived.Deep.OwnRows
import Derived.Laws.AppendOwnNone
import Derived.Laws.Strings3
import Derived.Laws.RangeAny
import Derived.Deep.RegionWith
import Derived.Lib.BitFns
import Derived.Lib.Walk
import Derived.Lib.Strings
import Derived.Lib.OthersKept
import Derived.Deep.CutBlock
import Derived.Deep.DeepCutAuto
import Derived.Deep.LoopGhost
import Derived.Deep.RegionHeld3
import Derived.Lib.SmallJoins
import Derived.Maps.AppendAt
import Derived.Laws.IdiomStrings
import Derived.Lib.AppendZeros
import Derived.Deep.WholeRow
import Derived.Laws.BitsAllLaws
import Derived.Lib.ConvBytes
import Derived.Deep.RegionLaw
import Derived.Maps.OwnSet
import Derived.Maps.OwnOps
import Derived.Maps.RangeWalk
import Derived.Maps.Ext
import Derived.DeepKeys4
import Derived.Laws.StructEq
import Derived.Shelf.SlSortCmp.NoneTotal
import Derived.Deep.MidRow
import Derived.Laws.MakeOwn
import Derived.Sort.OwnSorted
import Derived.Lib.SlicesCompact
import Derived.Lib.RowBridge
namespace Go.Proofs.Ytbfnfebmmhhegaa
open Go.RowKit
set_option linter.unusedVariables false
set_option linter.unusedSimpArgs false
set_option maxRecDepth 20000
structure Wh (L : List Num.Bal) (k : Nat) : Prop where
  g : Num.Good L
  m : Mem L
  t : ∀ t, Num.tot t L = 0
  l : L.length ≤ 82 * k
theorem wa_thing {L : List Num.Bal} (g : Num.Good L) {t : List UInt8} (h : t ∈ cmp L) {m b : Int} (h1 : 1 ≤ m) (h2 : m ≤ 32) (h3 : 1 ≤ b) (h4 : b ≤ 4) : Wa (m, b, t) := by
  obtain ⟨p, hp, rfl⟩ := cmp_mem h
  have := (Num.wr_ok.1 (g.wr p hp)).2.2.2.2.2
  exact ⟨(show Rng m by unfold Rng; omega).wf, (show Rng b by unfold Rng; omega).wf, by unfold maxLen; simp only; omega⟩
theorem pos_nn {L : List Num.Bal} (g : Num.Good L) {m b : Int} (t : List UInt8) (h1 : 1 ≤ m) : ¬ Num.get L (m, b, t) < 0 := by
  have := (g.get (m, b, t)).2.2 (by simp only; omega)
  omega
set_option maxHeartbeats 32000000 in
theorem lwhole (xs : List Ac) (a0 : Option Addr) (cap : Nat) (w : World) (h : Acs w a0 xs) : Calls Try.prog 5 #[.slice a0 xs.length cap] w (OkP w) := by
  have HA : Hid (Acs w a0 xs) := h
  have HN' : Hid (Calls Try.prog 9 #[] w fun e w1 => ∃ c q m, e = .returned (.pointer (some ⟨c, 0, none⟩)) ∧ Hid (Dc w w1 c q m [] [])) := (xcnew w).mono fun e w1 hh => by
    obtain ⟨c, q, m, rfl, _, _, hm, hz⟩ := hh
    exact ⟨c, q, m, rfl, hz.out.2, hz.out.1, hm, fun y hy => (List.not_mem_nil hy).elim⟩
  clear h
  go_enter Try.func5, Try.ntmps5
  go_wp2_with (go_at_call 9; refine HN'.out.mono ?_; rintro e w1 ⟨c, q, m, rfl, HD1⟩)
  clear HN'
  go_loopw [4] (fun i wr => ∃ (k : Nat) (L : List Num.Bal), k ≤ xs.length ∧ k ≤ 40 ∧ i = .int .i64 k ∧ Hid (Wh L k ∧ Dc w wr c q m L []))
    (fun i _ => xs.length - (intOf i).toNat)
  case atStart => exact ⟨0, [], Nat.zero_le _, by omega, rfl, ⟨Num.Good.nil, Mem.nil, fun t => rfl, by simp⟩, HD1.out⟩
  case round =>
    obtain ⟨k, L, hk, hk40, rfl, HR⟩ := hrel
    clear HD1
    by_cases hkn : k < xs.length ∧ k < 40
    · have hkz : (k : Int) < (xs.length : Int) := by omega
      have hk4' : (k : Int) < 40 := by omega
      obtain ⟨blk, off, rfl, hbl, hcs⟩ := HA.out.r (by omega)
      have hc8 := hcs k hkn.1
      have hw8 := HA.out.w xs[k] (List.getElem_mem hkn.1)
      generalize xs[k] = x at *
      obtain ⟨k9, a, b, c9, s9, n9, l, la, lc, t, ta, tc⟩ := x
      have hDB := HR.out.2.b
      have c0 : wr.cell? ⟨blk, off + k * 8, none⟩ = some (.int .i64 k9) := (hDB.cell (p := ⟨blk, off + k * 8 + 0, none⟩) hbl).trans (hc8 0 (by omega))
      have c1 : wr.cell? ⟨blk, off + k * 8 + 1, none⟩ = some (.int .i64 a) := (hDB.cell (p := ⟨blk, off + k * 8 + 1, none⟩) hbl).trans (hc8 1 (by omega))
      have c2 : wr.cell? ⟨blk, off + k * 8 + 2, none⟩ = some (.int .i64 b) := (hDB.cell (p := ⟨blk, off + k * 8 + 2, none⟩) hbl).trans (hc8 2 (by omega))
      have c3 : wr.cell? ⟨blk, off + k * 8 + 3, none⟩ = some (.int .i64 c9) := (hDB.cell (p := ⟨blk, off + k * 8 + 3, none⟩) hbl).trans (hc8 3 (by omega))
      have c4 : wr.cell? ⟨blk, off + k * 8 + 4, none⟩ = some (.string s9) := (hDB.cell (p := ⟨blk, off + k * 8 + 4, none⟩) hbl).trans (hc8 4 (by omega))
      have c5 : wr.cell? ⟨blk, off + k * 8 + 5, none⟩ = some (.int .i64 n9) := (hDB.cell (p := ⟨blk, off + k * 8 + 5, none⟩) hbl).trans (hc8 5 (by omega))
      have c6 : wr.cell? ⟨blk, off + k * 8 + 6, none⟩ = some (.slice la l.length lc) := (hDB.cell (p := ⟨blk, off + k * 8 + 6, none⟩) hbl).trans (hc8 6 (by omega))
      have c7 : wr.cell? ⟨blk, off + k * 8 + 7, none⟩ = some (.slice ta t.length tc) := (hDB.cell (p := ⟨blk, off + k * 8 + 7, none⟩) hbl).trans (hc8 7 (by omega))
      obtain ⟨w2, hw2⟩ : ∃ w2, w2 = wr.alloc (.cells #[.int .i64 k9, .int .i64 a, .int .i64 b, .int .i64 c9, .string s9, .int .i64 n9, .slice la l.length lc, .slice ta t.length tc] 30) := ⟨_, rfl⟩
      have HW2 : Hid (wr.alloc (.cells #[.int .i64 k9, .int .i64 a, .int .i64 b, .int .i64 c9, .string s9, .int .i64 n9, .slice la l.length lc, .slice ta t.length tc] 30) = w2) := hw2.symm
      have hB2 : Below wr.heap.size wr w2 := by rw [hw2]; exact (Below.refl _ wr).alloc (Nat.le_refl _) _
      have hX2 : Bx w2 wr.heap.size #[.int .i64 k9, .int .i64 a, .int .i64 b, .int .i64 c9, .string s9, .int .i64 n9, .slice la l.length lc, .slice ta t.length tc] 30 := by rw [hw2]; exact Bx.new wr _ _
      have d0 : w2.cell? ⟨wr.heap.size, 0, none⟩ = some (.int .i64 k9) := hX2.cell 0
      have d1 : w2.cell? ⟨wr.heap.size, 1, none⟩ = some (.int .i64 a) := hX2.cell 1
      have d2 : w2.cell? ⟨wr.heap.size, 2, none⟩ = some (.int .i64 b) := hX2.cell 2
      have d3 : w2.cell? ⟨wr.heap.size, 3, none⟩ = some (.int .i64 c9) := hX2.cell 3
      have d4 : w2.cell? ⟨wr.heap.size, 4, none⟩ = some (.string s9) := hX2.cell 4
      have d5 : w2.cell? ⟨wr.heap.size, 5, none⟩ = some (.int .i64 n9) := hX2.cell 5
      have d6 : w2.cell? ⟨wr.heap.size, 6, none⟩ = some (.slice la l.length lc) := hX2.cell 6
      have d7 : w2.cell? ⟨wr.heap.size, 7, none⟩ = some (.slice ta t.length tc) := hX2.cell 7
      have HSH0 : Hid (Calls Try.prog 10 #[.agg #[.int .i64 k9, .int .i64 a, .int .i64 b, .int .i64 c9, .string s9, .int .i64 n9, .slice la l.length lc, .slice ta t.length tc]] w2 fun e w' => e = .returned (.bool (Ac.sh ⟨k9, a, b, c9, s9, n9, l, la, lc, t, ta, tc⟩)) ∧ Below w2.heap.size w2 w') := xsh ⟨k9, a, b, c9, s9, n9, l, la, lc, t, ta, tc⟩ w2
      clear hc8 hcs hw2
      cases hsh : Ac.sh ⟨k9, a, b, c9, s9, n9, l, la, lc, t, ta, tc⟩
      · rw [hsh] at HSH0
        have HD3 : Hid (∀ W, Below w2.heap.size w2 W → Wh L (k + 1) ∧ Dc w W c q m L []) := fun W hW => by
          obtain ⟨⟨h1, h2, h3, h4⟩, h5⟩ := HR.out
          exact ⟨⟨h1, h2, h3, by omega⟩, (h5.below hB2).below hW⟩
        clear HR
        go_upto_region 6 with fail
        rw [HW2.out]
        clear HW2
        go_wp2_with (go_at_call 10; refine HSH0.out.mono ?_; rintro e w3 ⟨rfl, hb3⟩)
        go_roundw
        case rel => exact ⟨k + 1, L, by omega, by omega, by simp, HD3.out _ hb3⟩
        case measure => simp [intOf]; omega
      · rw [hsh] at HSH0
        have hLn : L.length ≤ 3280 := by have := HR.out.1.l; omega
        have hss : l.length ≤ 40 ∧ t.length ≤ 40 := by unfold Ac.sh at hsh; simpa using hsh
        have HWh : Hid (Wh (Ac.L L ⟨k9, a, b, c9, s9, n9, l, la, lc, t, ta, tc⟩) (k + 1)) := by
          obtain ⟨⟨h1, h2, h3, h4⟩, h5⟩ := HR.out
          have := Ac.len L ⟨k9, a, b, c9, s9, n9, l, la, lc, t, ta, tc⟩ hsh
          exact ⟨Ac.good h1 _, h2.ac _, fun t => by rw [tot_ac h1, h3], by omega⟩
        have HDW : Hid (∀ W, Below w2.heap.size w2 W → Dc w W c q m L [] ∧ Aw W ⟨k9, a, b, c9, s9, n9, l, la, lc, t, ta, tc⟩) := fun W hW => ⟨(HR.out.2.below hB2).below hW, (((hw8.below hDB).below hB2).below hW)⟩
        have HG : Hid (Num.Good L) := HR.out.1.g
        have HSH : Hid (Calls Try.prog 10 #[.agg #[.int .i64 k9, .int .i64 a, .int .i64 b, .int .i64 c9, .string s9, .int .i64 n9, .slice la l.length lc, .slice ta t.length tc]] w2 fun e w3 => e = .returned (.bool true) ∧ (w3.cell? ⟨wr.heap.size, 0, none⟩ = some (.int .i64 k9) ∧ w3.cell? ⟨wr.heap.size, 1, none⟩ = some (.int .i64 a) ∧ w3.cell? ⟨wr.heap.size, 2, none⟩ = some (.int .i64 b) ∧ w3.cell? ⟨wr.heap.size, 3, none⟩ = some (.int .i64 c9) ∧ w3.cell? ⟨wr.heap.size, 4, none⟩ = some (.string s9) ∧ w3.cell? ⟨wr.heap.size, 5, none⟩ = some (.int .i64 n9) ∧ w3.cell? ⟨wr.heap.size, 6, none⟩ = some (.slice la l.length lc) ∧ w3.cell? ⟨wr.heap.size, 7, none⟩ = some (.slice ta t.length tc)) ∧ Hid (Below w2.heap.size w2 w3)) := HSH0.out.mono fun e w3 hh => by
          have hX3 := hX2.below hh.2 hX2.lt
          exact ⟨hh.1, ⟨hX3.cell 0, hX3.cell 1, hX3.cell 2, hX3.cell 3, hX3.cell 4, hX3.cell 5, hX3.cell 6, hX3.cell 7⟩, hh.2⟩
        clear HR hw8 hX2 hB2 hDB HSH0 hsh
        by_cases hk0 : k9 = 0
        · have hk := hk0
          have hk0' : (k9 == 0) = true := by simp [hk0]
          have HWL2 : Hid (Ac.L L ⟨k9, a, b, c9, s9, n9, l, la, lc, t, ta, tc⟩ = brL L a s9.toList n9) := by unfold Ac.L; exact if_pos hk
          rw [HWL2.out] at HWh
          have HCa : Hid (∀ W, Below w2.heap.size w2 W → Calls Try.prog 26 #[.pointer (some ⟨c, 0, none⟩), .int .i64 a, .string s9, .int .i64 n9] W fun e V2 => ∃ v2, e = .returned v2 ∧ Hid (Dc w V2 c q m (brL L a s9.toList n9) [])) := fun W hW => (xbring c q m L HG.out (by omega) a s9 n9 W (HDW.out W hW).1.x).mono fun e V2 kk => ⟨_, kk.1, (HDW.out W hW).1.post kk.2.1 kk.2.2⟩
          have HTh : Hid (∀ W, Dc w W c q m (brL L a s9.toList n9) [] → Calls Try.prog 22 #[.pointer (some ⟨c, 0, none⟩)] W fun e w5 => ∃ a5 c5, e = .returned (.slice a5 (cmp (brL L a s9.toList n9)).length c5) ∧ Hid (Tx w5 a5 (cmp (brL L a s9.toList n9)) ∧ Dc w w5 c q m (brL L a s9.toList n9) [])) := fun W hW => (xcthings c q m (brL L a s9.toList n9) (by have := HWh.out.l; omega) (good_len HWh.out.g) W hW.x).mono fun e w5 hh => by
            obtain ⟨a5, c5, rfl, hz⟩ := hh
            exact ⟨a5, c5, rfl, hz.out.1, hW.below hz.out.2⟩
          generalize brL L a s9.toList n9 = L2 at *
          clear HDW HG hk hk0
          go_upto_region 6 with fail
          rw [HW2.out]
          clear HW2
          go_wp2_with (first | (go_at_call 10; refine HSH.out.mono ?_; rintro e w3 ⟨rfl, ⟨e0, e1, e2, e3, e4, e5, e6, e7⟩, hb3⟩; clear HSH) | (go_at_call 26; refine (HCa.out _ hb3.out).mono ?_; rintro e w4 ⟨v4, rfl, HC4⟩; clear HCa) | (go_at_call 22; refine (HTh.out _ HC4.out).mono ?_; rintro e w5 ⟨a5, c5, rfl, HT5⟩; clear HTh HC4))
          clear HWL2
          obtain ⟨ts, hts⟩ : ∃ ts, ts = cmp L2 := ⟨_, rfl⟩
          rw [← hts] at HT5 ⊢
          have HTL : Hid (∀ j (h : j < ts.length), ts[j] ∈ cmp L2) := fun j h => by rw [← hts]; exact List.getElem_mem h
          have htl : (ts.length : Int) ≤ 1000000 := by have h1 := cmp_len L2; have h2 := HWh.out.l; rw [← hts] at h1; omega
          clear hts
          go_loopw [7] (fun i wr => ∃ j : Nat, j ≤ ts.length ∧ i = .int .i64 j ∧ Hid (Below w5.heap.size w5 wr))
            (fun i _ => ts.length - (intOf i).toNat)
          case atStart => exact ⟨0, Nat.zero_le _, rfl, Below.refl _ _⟩
          case round =>
            obtain ⟨j, hj, rfl, HRj⟩ := hrel
            by_cases hjn : j < ts.length
            · have hjz : (j : Int) < (ts.length : Int) := by omega
              obtain ⟨blk5, off5, rfl, hbl5, hcs5⟩ := HT5.out.1 (by omega)
              have hc5 := hcs5 j hjn 0 (by omega)
              rw [Nat.mul_one, Nat.add_zero] at hc5
              have htm := HTL.out j hjn
              obtain ⟨s5, hs5⟩ : ∃ s5, s5 = S ts[j] := ⟨_, rfl⟩
              have hc5' : w5.cell? ⟨blk5, off5 + j, none⟩ = some (.string s5) := by rw [hs5]; exact hc5
              have hst5 : s5.toList = ts[j] := by rw [hs5, S_toList]
              have HWa : Hid (∀ (m b : Int), 1 ≤ m → m ≤ 32 → 1 ≤ b → b ≤ 4 → Wa (m, b, s5.toList)) := fun m b h1 h2 h3 h4 => by rw [hst5]; exact wa_thing HWh.out.g htm h1 h2 h3 h4
              clear hc5 hcs5 hs5 hst5 htm
              go_wp2_with fail
              go_loopw [8, 9] (fun v i w9 => ∃ mm : Nat, mm ≤ 32 ∧ i = .int .i64 ((mm : Int) + 1) ∧ v = .int .i64 (wrap64 (psum L2 s5.toList mm)) ∧ Hid (Below w5.heap.size w5 w9))
                (fun _ i _ => 33 - (intOf i).toNat)
              case atStart => exact ⟨0, by omega, rfl, by simp [psum, wrap64], HRj.out⟩
              case round =>
                obtain ⟨mm, hmm, rfl, rfl, HRm⟩ := hrel
                have z5 : wr.cell? ⟨blk5, off5 + j, none⟩ = some (.string s5) := (HRm.out.cell (p := ⟨blk5, _, none⟩) hbl5).trans hc5'
                by_cases hm32 : mm < 32
                · have hm1 : (mm : Int) + 1 ≤ 32 := by omega
                  have HPo : Hid (Calls Try.prog 16 #[.pointer (some ⟨c, 0, none⟩), .int .i64 ((mm : Int) + 1), .string s5] wr fun e w' => e = .returned (.agg #[.int .i64 (Num.get L2 ((mm : Int) + 1, 1, s5.toList)), .int .i64 (Num.get L2 ((mm : Int) + 1, 2, s5.toList)), .int .i64 (Num.get L2 ((mm : Int) + 1, 3, s5.toList)), .int .i64 (Num.get L2 ((mm : Int) + 1, 4, s5.toList))]) ∧ Hid (∀ x, Below w5.heap.size w5 (w'.alloc x))) := (xpos c q m L2 ((mm : Int) + 1) s5 (fun b h1 h2 => HWa.out _ b (by omega) (by omega) h1 h2) wr (HT5.out.2.x.below HRm.out)).mono fun e w' kk => ⟨kk.1, fun x => by
                    have h1 := HRm.out.trans (kk.2.mono HRm.out.size)
                    exact h1.alloc h1.size x⟩
                  have HAl : Hid (∀ W, Calls Try.prog 17 #[.agg #[.int .i64 (Num.get L2 ((mm : Int) + 1, 1, s5.toList)), .int .i64 (Num.get L2 ((mm : Int) + 1, 2, s5.toList)), .int .i64 (Num.get L2 ((mm : Int) + 1, 3, s5.toList)), .int .i64 (Num.get L2 ((mm : Int) + 1, 4, s5.toList))]] W fun e w' => e = .returned (.int .i64 (wrap64 (pos L2 s5.toList ((mm : Int) + 1)))) ∧ Below W.heap.size W w') := fun W => (xpall _ _ _ _ W).mono fun e w' kk => ⟨by rw [kk.1, wrap_pos]; rfl, kk.2⟩
                  have HSM : Hid (wrap64 (wrap64 (psum L2 s5.toList mm) + wrap64 (pos L2 s5.toList ((mm : Int) + 1))) = wrap64 (psum L2 s5.toList (mm + 1))) := wrap_sum _ _
                  have n1 := pos_nn HWh.out.g (m := (mm : Int) + 1) (b := 1) s5.toList (by omega)
                  have n2 := pos_nn HWh.out.g (m := (mm : Int) + 1) (b := 2) s5.toList (by omega)
                  have n3 := pos_nn HWh.out.g (m := (mm : Int) + 1) (b := 3) s5.toList (by omega)
                  have n4 := pos_nn HWh.out.g (m := (mm : Int) + 1) (b := 4) s5.toList (by omega)
                  have HBx : Hid (∀ (W W' : World), (∀ x, Below w5.heap.size w5 (W.alloc x)) → ∀ x, Below (W.alloc x).heap.size (W.alloc x) W' → Below w5.heap.size w5 W') := fun W W' h1 x h2 => (h1 x).trans (h2.mono (h1 x).size)
                  generalize Num.get L2 ((mm : Int) + 1, 1, s5.toList) = G1 at *
                  generalize Num.get L2 ((mm : Int) + 1, 2, s5.toList) = G2 at *
                  generalize Num.get L2 ((mm : Int) + 1, 3, s5.toList) = G3 at *
                  generalize Num.get L2 ((mm : Int) + 1, 4, s5.toList) = G4 at *
                  generalize wrap64 (pos L2 s5.toList ((mm : Int) + 1)) = PP at *
                  generalize hS2 : wrap64 (psum L2 s5.toList (mm + 1)) = S2 at *
                  generalize wrap64 (psum L2 s5.toList mm) = S1 at *
                  clear HRm HT5 HWa
                  go_wp2_with (first | (go_at_call 16; refine HPo.out.mono ?_; rintro e w6 ⟨rfl, HB6⟩; clear HPo) | (go_at_call 17; refine (HAl.out _).mono ?_; rintro e w7 ⟨rfl, hb7⟩; clear HAl))
                  rw [HSM.out]
                  go_roundw
                  case rel => exact ⟨mm + 1, by omega, by simp, by rw [hS2], HBx.out _ _ HB6.out _ hb7⟩
                  case measure => simp [intOf]; omega
                · obtain rfl : mm = 32 := by omega
                  have HOu : Hid (Calls Try.prog 24 #[.pointer (some ⟨c, 0, none⟩), .string s5] wr fun e w' => e = .returned (.int .i64 (wrap64 (psum L2 s5.toList 32))) ∧ Hid (Below w5.heap.size w5 w')) := (xcout c q m L2 s5 wr (HT5.out.2.x.below HRm.out)).mono fun e w' kk => ⟨by rw [kk.1, out_sum HWh.out.g HWh.out.m (HWh.out.t _)], HRm.out.trans (kk.2.mono HRm.out.size)⟩
                  generalize wrap64 (psum L2 s5.toList 32) = S1 at *
                  clear HRm HT5 HWa
                  go_wp2_with (go_at_call 24; refine HOu.out.mono ?_; rintro e w6 ⟨rfl, HB6⟩)
                  go_roundw
                  case rel => exact ⟨j + 1, by omega, by simp, HB6.out⟩
                  case measure => simp [intOf]; omega
            · have hjz : ¬ (j : Int) < (ts.length : Int) := by omega
              have HDF : Hid (Dc w wr c q m L2 []) := HT5.out.2.below HRj.out
              clear HT5 HRj
              go_wp2_with fail
              go_roundw
              case rel => exact ⟨k + 1, L2, by omega, by omega, by simp, HWh.out, HDF.out⟩
              case measure => simp [intOf]; omega
        have hk0' : (k9 == 0) = false := by simp [hk0]
        by_cases hk1 : k9 = 1
        · have hk := hk1
          have hk1' : (k9 == 1) = true := by simp [hk1]
          have HWL2 : Hid (Ac.L L ⟨k9, a, b, c9, s9, n9, l, la, lc, t, ta, tc⟩ = mvL L l) := by unfold Ac.L; rw [if_neg hk0]; exact if_pos hk
          rw [HWL2.out] at HWh
          have HLN : Hid (∀ W, Below w2.heap.size w2 W → Calls Try.prog 28 #[.slice la l.length lc] W fun e V1 => ∃ v, e = .returned v ∧ Hid (Calls Try.prog 27 #[.pointer (some ⟨c, 0, none⟩), v] V1 fun e V2 => ∃ v2, e = .returned v2 ∧ Hid (Dc w V2 c q m (mvL L l) []))) := fun W hW => (xlinesL l la lc W (HDW.out W hW).2.ls (by omega)).mono fun e V1 hh => by
            obtain ⟨v, rfl, ho, hb1⟩ := hh
            obtain ⟨a2, k2, rfl, _, hls⟩ := lnp_rw ho
            have hD1 := (HDW.out W hW).1.below hb1
            exact ⟨_, rfl, (xmv c q m L HG.out (by omega) l (by omega) a2 k2 V1 hD1.x hls).mono fun e V2 kk => ⟨_, kk.1, hD1.post kk.2.1 kk.2.2⟩⟩
          have HTh : Hid (∀ W, Dc w W c q m (mvL L l) [] → Calls Try.prog 22 #[.pointer (some ⟨c, 0, none⟩)] W fun e w5 => ∃ a5 c5, e = .returned (.slice a5 (cmp (mvL L l)).length c5) ∧ Hid (Tx w5 a5 (cmp (mvL L l)) ∧ Dc w w5 c q m (mvL L l) [])) := fun W hW => (xcthings c q m (mvL L l) (by have := HWh.out.l; omega) (good_len HWh.out.g) W hW.x).mono fun e w5 hh => by
            obtain ⟨a5, c5, rfl, hz⟩ := hh
            exact ⟨a5, c5, rfl, hz.out.1, hW.below hz.out.2⟩
          generalize mvL L l = L2 at *
          clear HDW HG hk hk1 hk0
          go_upto_region 6 with fail
          rw [HW2.out]
          clear HW2
          go_wp2_with (first | (go_at_call 10; refine HSH.out.mono ?_; rintro e w3 ⟨rfl, ⟨e0, e1, e2, e3, e4, e5, e6, e7⟩, hb3⟩; clear HSH) | (go_at_call 28; refine (HLN.out _ hb3.out).mono ?_; rintro e w31 ⟨v31, rfl, H27⟩; clear HLN) | (go_at_call 27; refine H27.out.mono ?_; rintro e w4 ⟨v4, rfl, HC4⟩; clear H27) | (go_at_call 22; refine (HTh.out _ HC4.out).mono ?_; rintro e w5 ⟨a5, c5, rfl, HT5⟩; clear HTh HC4))
          clear HWL2
          obtain ⟨ts, hts⟩ : ∃ ts, ts = cmp L2 := ⟨_, rfl⟩
          rw [← hts] at HT5 ⊢
          have HTL : Hid (∀ j (h : j < ts.length), ts[j] ∈ cmp L2) := fun j h => by rw [← hts]; exact List.getElem_mem h
          have htl : (ts.length : Int) ≤ 1000000 := by have h1 := cmp_len L2; have h2 := HWh.out.l; rw [← hts] at h1; omega
          clear hts
          go_loopw [7] (fun i wr => ∃ j : Nat, j ≤ ts.length ∧ i = .int .i64 j ∧ Hid (Below w5.heap.size w5 wr))
            (fun i _ => ts.length - (intOf i).toNat)
          case atStart => exact ⟨0, Nat.zero_le _, rfl, Below.refl _ _⟩
          case round =>
            obtain ⟨j, hj, rfl, HRj⟩ := hrel
            by_cases hjn : j < ts.length
            · have hjz : (j : Int) < (ts.length : Int) := by omega
              obtain ⟨blk5, off5, rfl, hbl5, hcs5⟩ := HT5.out.1 (by omega)
              have hc5 := hcs5 j hjn 0 (by omega)
              rw [Nat.mul_one, Nat.add_zero] at hc5
              have htm := HTL.out j hjn
              obtain ⟨s5, hs5⟩ : ∃ s5, s5 = S ts[j] := ⟨_, rfl⟩
              have hc5' : w5.cell? ⟨blk5, off5 + j, none⟩ = some (.string s5) := by rw [hs5]; exact hc5
              have hst5 : s5.toList = ts[j] := by rw [hs5, S_toList]
              have HWa : Hid (∀ (m b : Int), 1 ≤ m → m ≤ 32 → 1 ≤ b → b ≤ 4 → Wa (m, b, s5.toList)) := fun m b h1 h2 h3 h4 => by rw [hst5]; exact wa_thing HWh.out.g htm h1 h2 h3 h4
              clear hc5 hcs5 hs5 hst5 htm
              go_wp2_with fail
              go_loopw [8, 9] (fun v i w9 => ∃ mm : Nat, mm ≤ 32 ∧ i = .int .i64 ((mm : Int) + 1) ∧ v = .int .i64 (wrap64 (psum L2 s5.toList mm)) ∧ Hid (Below w5.heap.size w5 w9))
                (fun _ i _ => 33 - (intOf i).toNat)
              case atStart => exact ⟨0, by omega, rfl, by simp [psum, wrap64], HRj.out⟩
              case round =>
                obtain ⟨mm, hmm, rfl, rfl, HRm⟩ := hrel
                have z5 : wr.cell? ⟨blk5, off5 + j, none⟩ = some (.string s5) := (HRm.out.cell (p := ⟨blk5, _, none⟩) hbl5).trans hc5'
                by_cases hm32 : mm < 32
                · have hm1 : (mm : Int) + 1 ≤ 32 := by omega
                  have HPo : Hid (Calls Try.prog 16 #[.pointer (some ⟨c, 0, none⟩), .int .i64 ((mm : Int) + 1), .string s5] wr fun e w' => e = .returned (.agg #[.int .i64 (Num.get L2 ((mm : Int) + 1, 1, s5.toList)), .int .i64 (Num.get L2 ((mm : Int) + 1, 2, s5.toList)), .int .i64 (Num.get L2 ((mm : Int) + 1, 3, s5.toList)), .int .i64 (Num.get L2 ((mm : Int) + 1, 4, s5.toList))]) ∧ Hid (∀ x, Below w5.heap.size w5 (w'.alloc x))) := (xpos c q m L2 ((mm : Int) + 1) s5 (fun b h1 h2 => HWa.out _ b (by omega) (by omega) h1 h2) wr (HT5.out.2.x.below HRm.out)).mono fun e w' kk => ⟨kk.1, fun x => by
                    have h1 := HRm.out.trans (kk.2.mono HRm.out.size)
                    exact h1.alloc h1.size x⟩
                  have HAl : Hid (∀ W, Calls Try.prog 17 #[.agg #[.int .i64 (Num.get L2 ((mm : Int) + 1, 1, s5.toList)), .int .i64 (Num.get L2 ((mm : Int) + 1, 2, s5.toList)), .int .i64 (Num.get L2 ((mm : Int) + 1, 3, s5.toList)), .int .i64 (Num.get L2 ((mm : Int) + 1, 4, s5.toList))]] W fun e w' => e = .returned (.int .i64 (wrap64 (pos L2 s5.toList ((mm : Int) + 1)))) ∧ Below W.heap.size W w') := fun W => (xpall _ _ _ _ W).mono fun e w' kk => ⟨by rw [kk.1, wrap_pos]; rfl, kk.2⟩
                  have HSM : Hid (wrap64 (wrap64 (psum L2 s5.toList mm) + wrap64 (pos L2 s5.toList ((mm : Int) + 1))) = wrap64 (psum L2 s5.toList (mm + 1))) := wrap_sum _ _
                  have n1 := pos_nn HWh.out.g (m := (mm : Int) + 1) (b := 1) s5.toList (by omega)
                  have n2 := pos_nn HWh.out.g (m := (mm : Int) + 1) (b := 2) s5.toList (by omega)
                  have n3 := pos_nn HWh.out.g (m := (mm : Int) + 1) (b := 3) s5.toList (by omega)
                  have n4 := pos_nn HWh.out.g (m := (mm : Int) + 1) (b := 4) s5.toList (by omega)
                  have HBx : Hid (∀ (W W' : World), (∀ x, Below w5.heap.size w5 (W.alloc x)) → ∀ x, Below (W.alloc x).heap.size (W.alloc x) W' → Below w5.heap.size w5 W') := fun W W' h1 x h2 => (h1 x).trans (h2.mono (h1 x).size)
                  generalize Num.get L2 ((mm : Int) + 1, 1, s5.toList) = G1 at *
                  generalize Num.get L2 ((mm : Int) + 1, 2, s5.toList) = G2 at *
                  generalize Num.get L2 ((mm : Int) + 1, 3, s5.toList) = G3 at *
                  generalize Num.get L2 ((mm : Int) + 1, 4, s5.toList) = G4 at *
                  generalize wrap64 (pos L2 s5.toList ((mm : Int) + 1)) = PP at *
                  generalize hS2 : wrap64 (psum L2 s5.toList (mm + 1)) = S2 at *
                  generalize wrap64 (psum L2 s5.toList mm) = S1 at *
                  clear HRm HT5 HWa
                  go_wp2_with (first | (go_at_call 16; refine HPo.out.mono ?_; rintro e w6 ⟨rfl, HB6⟩; clear HPo) | (go_at_call 17; refine (HAl.out _).mono ?_; rintro e w7 ⟨rfl, hb7⟩; clear HAl))
                  rw [HSM.out]
                  go_roundw
                  case rel => exact ⟨mm + 1, by omega, by simp, by rw [hS2], HBx.out _ _ HB6.out _ hb7⟩
                  case measure => simp [intOf]; omega
                · obtain rfl : mm = 32 := by omega
                  have HOu : Hid (Calls Try.prog 24 #[.pointer (some ⟨c, 0, none⟩), .string s5] wr fun e w' => e = .returned (.int .i64 (wrap64 (psum L2 s5.toList 32))) ∧ Hid (Below w5.heap.size w5 w')) := (xcout c q m L2 s5 wr (HT5.out.2.x.below HRm.out)).mono fun e w' kk => ⟨by rw [kk.1, out_sum HWh.out.g HWh.out.m (HWh.out.t _)], HRm.out.trans (kk.2.mono HRm.out.size)⟩
                  generalize wrap64 (psum L2 s5.toList 32) = S1 at *
                  clear HRm HT5 HWa
                  go_wp2_with (go_at_call 24; refine HOu.out.mono ?_; rintro e w6 ⟨rfl, HB6⟩)
                  go_roundw
                  case rel => exact ⟨j + 1, by omega, by simp, HB6.out⟩
                  case measure => simp [intOf]; omega
            · have hjz : ¬ (j : Int) < (ts.length : Int) := by omega
              have HDF : Hid (Dc w wr c q m L2 []) := HT5.out.2.below HRj.out
              clear HT5 HRj
              go_wp2_with fail
              go_roundw
              case rel => exact ⟨k + 1, L2, by omega, by omega, by simp, HWh.out, HDF.out⟩
              case measure => simp [intOf]; omega
        have hk1' : (k9 == 1) = false := by simp [hk1]
        by_cases hk2 : k9 = 2
        · have hk := hk2
          have hk2' : (k9 == 2) = true := by simp [hk2]
          have HWL2 : Hid (Ac.L L ⟨k9, a, b, c9, s9, n9, l, la, lc, t, ta, tc⟩ = mvL L (t.map (way a b a c9))) := by unfold Ac.L; rw [if_neg hk0, if_neg hk1]; exact if_pos hk
          rw [HWL2.out] at HWh
          have HCa : Hid (∀ W, Below w2.heap.size w2 W → Calls Try.prog 29 #[.pointer (some ⟨c, 0, none⟩), .int .i64 a, .int .i64 b, .int .i64 c9, .slice ta t.length tc] W fun e V2 => ∃ v2, e = .returned v2 ∧ Hid (Dc w V2 c q m (mvL L (t.map (way a b a c9))) [])) := fun W hW => (xshift c q m L HG.out (by omega) a b c9 t (by omega) ta tc W (HDW.out W hW).1.x (HDW.out W hW).2.ts).mono fun e V2 kk => ⟨_, kk.1, (HDW.out W hW).1.post kk.2.1 kk.2.2⟩
          have HTh : Hid (∀ W, Dc w W c q m (mvL L (t.map (way a b a c9))) [] → Calls Try.prog 22 #[.pointer (some ⟨c, 0, none⟩)] W fun e w5 => ∃ a5 c5, e = .returned (.slice a5 (cmp (mvL L (t.map (way a b a c9)))).length c5) ∧ Hid (Tx w5 a5 (cmp (mvL L (t.map (way a b a c9)))) ∧ Dc w w5 c q m (mvL L (t.map (way a b a c9))) [])) := fun W hW => (xcthings c q m (mvL L (t.map (way a b a c9))) (by have := HWh.out.l; omega) (good_len HWh.out.g) W hW.x).mono fun e w5 hh => by
            obtain ⟨a5, c5, rfl, hz⟩ := hh
            exact ⟨a5, c5, rfl, hz.out.1, hW.below hz.out.2⟩
          generalize mvL L (t.map (way a b a c9)) = L2 at *
          clear HDW HG hk hk2 hk1 hk0
          go_upto_region 6 with fail
          rw [HW2.out]
          clear HW2
          go_wp2_with (first | (go_at_call 10; refine HSH.out.mono ?_; rintro e w3 ⟨rfl, ⟨e0, e1, e2, e3, e4, e5, e6, e7⟩, hb3⟩; clear HSH) | (go_at_call 29; refine (HCa.out _ hb3.out).mono ?_; rintro e w4 ⟨v4, rfl, HC4⟩; clear HCa) | (go_at_call 22; refine (HTh.out _ HC4.out).mono ?_; rintro e w5 ⟨a5, c5, rfl, HT5⟩; clear HTh HC4))
          clear HWL2
          obtain ⟨ts, hts⟩ : ∃ ts, ts = cmp L2 := ⟨_, rfl⟩
          rw [← hts] at HT5 ⊢
          have HTL : Hid (∀ j (h : j < ts.length), ts[j] ∈ cmp L2) := fun j h => by rw [← hts]; exact List.getElem_mem h
          have htl : (ts.length : Int) ≤ 1000000 := by have h1 := cmp_len L2; have h2 := HWh.out.l; rw [← hts] at h1; omega
          clear hts
          go_loopw [7] (fun i wr => ∃ j : Nat, j ≤ ts.length ∧ i = .int .i64 j ∧ Hid (Below w5.heap.size w5 wr))
            (fun i _ => ts.length - (intOf i).toNat)
          case atStart => exact ⟨0, Nat.zero_le _, rfl, Below.refl _ _⟩
          case round =>
            obtain ⟨j, hj, rfl, HRj⟩ := hrel
            by_cases hjn : j < ts.length
            · have hjz : (j : Int) < (ts.length : Int) := by omega
              obtain ⟨blk5, off5, rfl, hbl5, hcs5⟩ := HT5.out.1 (by omega)
              have hc5 := hcs5 j hjn 0 (by omega)
              rw [Nat.mul_one, Nat.add_zero] at hc5
              have htm := HTL.out j hjn
              obtain ⟨s5, hs5⟩ : ∃ s5, s5 = S ts[j] := ⟨_, rfl⟩
              have hc5' : w5.cell? ⟨blk5, off5 + j, none⟩ = some (.string s5) := by rw [hs5]; exact hc5
              have hst5 : s5.toList = ts[j] := by rw [hs5, S_toList]
              have HWa : Hid (∀ (m b : Int), 1 ≤ m → m ≤ 32 → 1 ≤ b → b ≤ 4 → Wa (m, b, s5.toList)) := fun m b h1 h2 h3 h4 => by rw [hst5]; exact wa_thing HWh.out.g htm h1 h2 h3 h4
              clear hc5 hcs5 hs5 hst5 htm
              go_wp2_with fail
              go_loopw [8, 9] (fun v i w9 => ∃ mm : Nat, mm ≤ 32 ∧ i = .int .i64 ((mm : Int) + 1) ∧ v = .int .i64 (wrap64 (psum L2 s5.toList mm)) ∧ Hid (Below w5.heap.size w5 w9))
                (fun _ i _ => 33 - (intOf i).toNat)
              case atStart => exact ⟨0, by omega, rfl, by simp [psum, wrap64], HRj.out⟩
              case round =>
                obtain ⟨mm, hmm, rfl, rfl, HRm⟩ := hrel
                have z5 : wr.cell? ⟨blk5, off5 + j, none⟩ = some (.string s5) := (HRm.out.cell (p := ⟨blk5, _, none⟩) hbl5).trans hc5'
                by_cases hm32 : mm < 32
                · have hm1 : (mm : Int) + 1 ≤ 32 := by omega
                  have HPo : Hid (Calls Try.prog 16 #[.pointer (some ⟨c, 0, none⟩), .int .i64 ((mm : Int) + 1), .string s5] wr fun e w' => e = .returned (.agg #[.int .i64 (Num.get L2 ((mm : Int) + 1, 1, s5.toList)), .int .i64 (Num.get L2 ((mm : Int) + 1, 2, s5.toList)), .int .i64 (Num.get L2 ((mm : Int) + 1, 3, s5.toList)), .int .i64 (Num.get L2 ((mm : Int) + 1, 4, s5.toList))]) ∧ Hid (∀ x, Below w5.heap.size w5 (w'.alloc x))) := (xpos c q m L2 ((mm : Int) + 1) s5 (fun b h1 h2 => HWa.out _ b (by omega) (by omega) h1 h2) wr (HT5.out.2.x.below HRm.out)).mono fun e w' kk => ⟨kk.1, fun x => by
                    have h1 := HRm.out.trans (kk.2.mono HRm.out.size)
                    exact h1.alloc h1.size x⟩
                  have HAl : Hid (∀ W, Calls Try.prog 17 #[.agg #[.int .i64 (Num.get L2 ((mm : Int) + 1, 1, s5.toList)), .int .i64 (Num.get L2 ((mm : Int) + 1, 2, s5.toList)), .int .i64 (Num.get L2 ((mm : Int) + 1, 3, s5.toList)), .int .i64 (Num.get L2 ((mm : Int) + 1, 4, s5.toList))]] W fun e w' => e = .returned (.int .i64 (wrap64 (pos L2 s5.toList ((mm : Int) + 1)))) ∧ Below W.heap.size W w') := fun W => (xpall _ _ _ _ W).mono fun e w' kk => ⟨by rw [kk.1, wrap_pos]; rfl, kk.2⟩
                  have HSM : Hid (wrap64 (wrap64 (psum L2 s5.toList mm) + wrap64 (pos L2 s5.toList ((mm : Int) + 1))) = wrap64 (psum L2 s5.toList (mm + 1))) := wrap_sum _ _
                  have n1 := pos_nn HWh.out.g (m := (mm : Int) + 1) (b := 1) s5.toList (by omega)
                  have n2 := pos_nn HWh.out.g (m := (mm : Int) + 1) (b := 2) s5.toList (by omega)
                  have n3 := pos_nn HWh.out.g (m := (mm : Int) + 1) (b := 3) s5.toList (by omega)
                  have n4 := pos_nn HWh.out.g (m := (mm : Int) + 1) (b := 4) s5.toList (by omega)
                  have HBx : Hid (∀ (W W' : World), (∀ x, Below w5.heap.size w5 (W.alloc x)) → ∀ x, Below (W.alloc x).heap.size (W.alloc x) W' → Below w5.heap.size w5 W') := fun W W' h1 x h2 => (h1 x).trans (h2.mono (h1 x).size)
                  generalize Num.get L2 ((mm : Int) + 1, 1, s5.toList) = G1 at *
                  generalize Num.get L2 ((mm : Int) + 1, 2, s5.toList) = G2 at *
                  generalize Num.get L2 ((mm : Int) + 1, 3, s5.toList) = G3 at *
                  generalize Num.get L2 ((mm : Int) + 1, 4, s5.toList) = G4 at *
                  generalize wrap64 (pos L2 s5.toList ((mm : Int) + 1)) = PP at *
                  generalize hS2 : wrap64 (psum L2 s5.toList (mm + 1)) = S2 at *
                  generalize wrap64 (psum L2 s5.toList mm) = S1 at *
                  clear HRm HT5 HWa
                  go_wp2_with (first | (go_at_call 16; refine HPo.out.mono ?_; rintro e w6 ⟨rfl, HB6⟩; clear HPo) | (go_at_call 17; refine (HAl.out _).mono ?_; rintro e w7 ⟨rfl, hb7⟩; clear HAl))
                  rw [HSM.out]
                  go_roundw
                  case rel => exact ⟨mm + 1, by omega, by simp, by rw [hS2], HBx.out _ _ HB6.out _ hb7⟩
                  case measure => simp [intOf]; omega
                · obtain rfl : mm = 32 := by omega
                  have HOu : Hid (Calls Try.prog 24 #[.pointer (some ⟨c, 0, none⟩), .string s5] wr fun e w' => e = .returned (.int .i64 (wrap64 (psum L2 s5.toList 32))) ∧ Hid (Below w5.heap.size w5 w')) := (xcout c q m L2 s5 wr (HT5.out.2.x.below HRm.out)).mono fun e w' kk => ⟨by rw [kk.1, out_sum HWh.out.g HWh.out.m (HWh.out.t _)], HRm.out.trans (kk.2.mono HRm.out.size)⟩
                  generalize wrap64 (psum L2 s5.toList 32) = S1 at *
                  clear HRm HT5 HWa
                  go_wp2_with (go_at_call 24; refine HOu.out.mono ?_; rintro e w6 ⟨rfl, HB6⟩)
                  go_roundw
                  case rel => exact ⟨j + 1, by omega, by simp, HB6.out⟩
                  case measure => simp [intOf]; omega
            · have hjz : ¬ (j : Int) < (ts.length : Int) := by omega
              have HDF : Hid (Dc w wr c q m L2 []) := HT5.out.2.below HRj.out
              clear HT5 HRj
              go_wp2_with fail
              go_roundw
              case rel => exact ⟨k + 1, L2, by omega, by omega, by simp, HWh.out, HDF.out⟩
              case measure => simp [intOf]; omega
        · have hk2' : (k9 == 2) = false := by simp [hk2]
          have HWL2 : Hid (Ac.L L ⟨k9, a, b, c9, s9, n9, l, la, lc, t, ta, tc⟩ = mvL L (trl a b t s9 n9)) := by unfold Ac.L; rw [if_neg hk0, if_neg hk1]; exact if_neg hk2
          rw [HWL2.out] at HWh
          have HCa : Hid (∀ W, Below w2.heap.size w2 W → Calls Try.prog 30 #[.pointer (some ⟨c, 0, none⟩), .int .i64 a, .int .i64 b, .slice ta t.length tc, .string s9, .int .i64 n9] W fun e V2 => ∃ v2, e = .returned v2 ∧ Hid (Dc w V2 c q m (mvL L (trl a b t s9 n9)) [])) := fun W hW => (xtrade c q m L HG.out (by omega) a b t (by omega) s9 n9 ta tc W (HDW.out W hW).1.x (HDW.out W hW).2.ts).mono fun e V2 kk => ⟨_, kk.1, (HDW.out W hW).1.post kk.2.1 kk.2.2⟩
          have HTh : Hid (∀ W, Dc w W c q m (mvL L (trl a b t s9 n9)) [] → Calls Try.prog 22 #[.pointer (some ⟨c, 0, none⟩)] W fun e w5 => ∃ a5 c5, e = .returned (.slice a5 (cmp (mvL L (trl a b t s9 n9))).length c5) ∧ Hid (Tx w5 a5 (cmp (mvL L (trl a b t s9 n9))) ∧ Dc w w5 c q m (mvL L (trl a b t s9 n9)) [])) := fun W hW => (xcthings c q m (mvL L (trl a b t s9 n9)) (by have := HWh.out.l; omega) (good_len HWh.out.g) W hW.x).mono fun e w5 hh => by
            obtain ⟨a5, c5, rfl, hz⟩ := hh
            exact ⟨a5, c5, rfl, hz.out.1, hW.below hz.out.2⟩
          generalize mvL L (trl a b t s9 n9) = L2 at *
          clear HDW HG hk2 hk1 hk0
          go_upto_region 6 with fail
          rw [HW2.out]
          clear HW2
          go_wp2_with (first | (go_at_call 10; refine HSH.out.mono ?_; rintro e w3 ⟨rfl, ⟨e0, e1, e2, e3, e4, e5, e6, e7⟩, hb3⟩; clear HSH) | (go_at_call 30; refine (HCa.out _ hb3.out).mono ?_; rintro e w4 ⟨v4, rfl, HC4⟩; clear HCa) | (go_at_call 22; refine (HTh.out _ HC4.out).mono ?_; rintro e w5 ⟨a5, c5, rfl, HT5⟩; clear HTh HC4))
          clear HWL2
          obtain ⟨ts, hts⟩ : ∃ ts, ts = cmp L2 := ⟨_, rfl⟩
          rw [← hts] at HT5 ⊢
          have HTL : Hid (∀ j (h : j < ts.length), ts[j] ∈ cmp L2) := fun j h => by rw [← hts]; exact List.getElem_mem h
          have htl : (ts.length : Int) ≤ 1000000 := by have h1 := cmp_len L2; have h2 := HWh.out.l; rw [← hts] at h1; omega
          clear hts
          go_loopw [7] (fun i wr => ∃ j : Nat, j ≤ ts.length ∧ i = .int .i64 j ∧ Hid (Below w5.heap.size w5 wr))
            (fun i _ => ts.length - (intOf i).toNat)
          case atStart => exact ⟨0, Nat.zero_le _, rfl, Below.refl _ _⟩
          case round =>
            obtain ⟨j, hj, rfl, HRj⟩ := hrel
            by_cases hjn : j < ts.length
            · have hjz : (j : Int) < (ts.length : Int) := by omega
              obtain ⟨blk5, off5, rfl, hbl5, hcs5⟩ := HT5.out.1 (by omega)
              have hc5 := hcs5 j hjn 0 (by omega)
              rw [Nat.mul_one, Nat.add_zero] at hc5
              have htm := HTL.out j hjn
              obtain ⟨s5, hs5⟩ : ∃ s5, s5 = S ts[j] := ⟨_, rfl⟩
              have hc5' : w5.cell? ⟨blk5, off5 + j, none⟩ = some (.string s5) := by rw [hs5]; exact hc5
              have hst5 : s5.toList = ts[j] := by rw [hs5, S_toList]
              have HWa : Hid (∀ (m b : Int), 1 ≤ m → m ≤ 32 → 1 ≤ b → b ≤ 4 → Wa (m, b, s5.toList)) := fun m b h1 h2 h3 h4 => by rw [hst5]; exact wa_thing HWh.out.g htm h1 h2 h3 h4
              clear hc5 hcs5 hs5 hst5 htm
              go_wp2_with fail
              go_loopw [8, 9] (fun v i w9 => ∃ mm : Nat, mm ≤ 32 ∧ i = .int .i64 ((mm : Int) + 1) ∧ v = .int .i64 (wrap64 (psum L2 s5.toList mm)) ∧ Hid (Below w5.heap.size w5 w9))
                (fun _ i _ => 33 - (intOf i).toNat)
              case atStart => exact ⟨0, by omega, rfl, by simp [psum, wrap64], HRj.out⟩
              case round =>
                obtain ⟨mm, hmm, rfl, rfl, HRm⟩ := hrel
                have z5 : wr.cell? ⟨blk5, off5 + j, none⟩ = some (.string s5) := (HRm.out.cell (p := ⟨blk5, _, none⟩) hbl5).trans hc5'
                by_cases hm32 : mm < 32
                · have hm1 : (mm : Int) + 1 ≤ 32 := by omega
                  have HPo : Hid (Calls Try.prog 16 #[.pointer (some ⟨c, 0, none⟩), .int .i64 ((mm : Int) + 1), .string s5] wr fun e w' => e = .returned (.agg #[.int .i64 (Num.get L2 ((mm : Int) + 1, 1, s5.toList)), .int .i64 (Num.get L2 ((mm : Int) + 1, 2, s5.toList)), .int .i64 (Num.get L2 ((mm : Int) + 1, 3, s5.toList)), .int .i64 (Num.get L2 ((mm : Int) + 1, 4, s5.toList))]) ∧ Hid (∀ x, Below w5.heap.size w5 (w'.alloc x))) := (xpos c q m L2 ((mm : Int) + 1) s5 (fun b h1 h2 => HWa.out _ b (by omega) (by omega) h1 h2) wr (HT5.out.2.x.below HRm.out)).mono fun e w' kk => ⟨kk.1, fun x => by
                    have h1 := HRm.out.trans (kk.2.mono HRm.out.size)
                    exact h1.alloc h1.size x⟩
                  have HAl : Hid (∀ W, Calls Try.prog 17 #[.agg #[.int .i64 (Num.get L2 ((mm : Int) + 1, 1, s5.toList)), .int .i64 (Num.get L2 ((mm : Int) + 1, 2, s5.toList)), .int .i64 (Num.get L2 ((mm : Int) + 1, 3, s5.toList)), .int .i64 (Num.get L2 ((mm : Int) + 1, 4, s5.toList))]] W fun e w' => e = .returned (.int .i64 (wrap64 (pos L2 s5.toList ((mm : Int) + 1)))) ∧ Below W.heap.size W w') := fun W => (xpall _ _ _ _ W).mono fun e w' kk => ⟨by rw [kk.1, wrap_pos]; rfl, kk.2⟩
                  have HSM : Hid (wrap64 (wrap64 (psum L2 s5.toList mm) + wrap64 (pos L2 s5.toList ((mm : Int) + 1))) = wrap64 (psum L2 s5.toList (mm + 1))) := wrap_sum _ _
                  have n1 := pos_nn HWh.out.g (m := (mm : Int) + 1) (b := 1) s5.toList (by omega)
                  have n2 := pos_nn HWh.out.g (m := (mm : Int) + 1) (b := 2) s5.toList (by omega)
                  have n3 := pos_nn HWh.out.g (m := (mm : Int) + 1) (b := 3) s5.toList (by omega)
                  have n4 := pos_nn HWh.out.g (m := (mm : Int) + 1) (b := 4) s5.toList (by omega)
                  have HBx : Hid (∀ (W W' : World), (∀ x, Below w5.heap.size w5 (W.alloc x)) → ∀ x, Below (W.alloc x).heap.size (W.alloc x) W' → Below w5.heap.size w5 W') := fun W W' h1 x h2 => (h1 x).trans (h2.mono (h1 x).size)
                  generalize Num.get L2 ((mm : Int) + 1, 1, s5.toList) = G1 at *
                  generalize Num.get L2 ((mm : Int) + 1, 2, s5.toList) = G2 at *
                  generalize Num.get L2 ((mm : Int) + 1, 3, s5.toList) = G3 at *
                  generalize Num.get L2 ((mm : Int) + 1, 4, s5.toList) = G4 at *
                  generalize wrap64 (pos L2 s5.toList ((mm : Int) + 1)) = PP at *
                  generalize hS2 : wrap64 (psum L2 s5.toList (mm + 1)) = S2 at *
                  generalize wrap64 (psum L2 s5.toList mm) = S1 at *
                  clear HRm HT5 HWa
                  go_wp2_with (first | (go_at_call 16; refine HPo.out.mono ?_; rintro e w6 ⟨rfl, HB6⟩; clear HPo) | (go_at_call 17; refine (HAl.out _).mono ?_; rintro e w7 ⟨rfl, hb7⟩; clear HAl))
                  rw [HSM.out]
                  go_roundw
                  case rel => exact ⟨mm + 1, by omega, by simp, by rw [hS2], HBx.out _ _ HB6.out _ hb7⟩
                  case measure => simp [intOf]; omega
                · obtain rfl : mm = 32 := by omega
                  have HOu : Hid (Calls Try.prog 24 #[.pointer (some ⟨c, 0, none⟩), .string s5] wr fun e w' => e = .returned (.int .i64 (wrap64 (psum L2 s5.toList 32))) ∧ Hid (Below w5.heap.size w5 w')) := (xcout c q m L2 s5 wr (HT5.out.2.x.below HRm.out)).mono fun e w' kk => ⟨by rw [kk.1, out_sum HWh.out.g HWh.out.m (HWh.out.t _)], HRm.out.trans (kk.2.mono HRm.out.size)⟩
                  generalize wrap64 (psum L2 s5.toList 32) = S1 at *
                  clear HRm HT5 HWa
                  go_wp2_with (go_at_call 24; refine HOu.out.mono ?_; rintro e w6 ⟨rfl, HB6⟩)
                  go_roundw
                  case rel => exact ⟨j + 1, by omega, by simp, HB6.out⟩
                  case measure => simp [intOf]; omega
            · have hjz : ¬ (j : Int) < (ts.length : Int) := by omega
              have HDF : Hid (Dc w wr c q m L2 []) := HT5.out.2.below HRj.out
              clear HT5 HRj
              go_wp2_with fail
              go_roundw
              case rel => exact ⟨k + 1, L2, by omega, by omega, by simp, HWh.out, HDF.out⟩
              case measure => simp [intOf]; omega
    · have HAK : Hid (Calls Try.prog 14 #[] wr fun e w' => e = .returned (.bool true) ∧ Hid (OkP w (.returned (.bool true)) w')) := dc_awake HR.out.2
      clear HR HA
      by_cases hkl : k < xs.length
      · have hkz : (k : Int) < (xs.length : Int) := by omega
        have hk4' : ¬ (k : Int) < 40 := by omega
        go_wp2_with (go_at_call 14; refine HAK.out.mono ?_; rintro e w5 ⟨rfl, HF⟩)
        go_ret
        exact HF.out
      · have hkz : ¬ (k : Int) < (xs.length : Int) := by omega
        go_wp2_with (go_at_call 14; refine HAK.out.mono ?_; rintro e w5 ⟨rfl, HF⟩)
        go_ret
        exact HF.out
end Go.Proofs.Ytbfnfebmmhhegaa
