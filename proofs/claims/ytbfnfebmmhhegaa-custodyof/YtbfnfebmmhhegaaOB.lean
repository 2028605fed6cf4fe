/- layer 11: of each thing nothing -/
import Derived.Test.YtbfnfebmmhhegaaOA
import Derived.Test.YtbfnfebmmhhegaaR
import Derived.WalkKit
import Derived.ProofKit
import Derived.Handy
import Derived.WalkLawsBesides
import Derived.WalkSpells
import Derived.BigQuiet
import Derived.BigCall
import Derived.Deep.QuietTactic
import Derived.Deep.Light
import Derived.Deep.OwnRows
import Derived.Laws.AppendOwnNone
import Derived.Laws.Strings3
import Derived.Laws.RangeAny
import Derived.Deep.RegionWith
import Derived.Lib.BitFns
import Derived.Lib.Walk
import Derived.Lib.Strings
import Derived.Lib.OthersKept
import Derived.Deep.CutBlock
import Derived.Deep.DeepCutAuto
import Derived.Deep.LoopGhost
import Derived.Deep.RegionHeld3
import Derived.Lib.SmallJoins
import Derived.Maps.AppendAt
import Derived.Laws.IdiomStrings
import Derived.Lib.AppendZeros
import Derived.Deep.WholeRow
import Derived.Laws.BitsAllLaws
import Derived.Lib.ConvBytes
import Derived.Deep.RegionLaw
import Derived.Maps.OwnSet
import Derived.Maps.OwnOps
import Derived.Maps.RangeWalk
import Derived.Maps.Ext
import Derived.DeepKeys4
import Derived.Laws.StructEq
import Derived.Shelf.SlSortCmp.NoneTotal
import Derived.Deep.MidRow
import Derived.Laws.MakeOwn
import Derived.Sort.OwnSorted
import Derived.Lib.SlicesCompact
import Derived.Lib.RowBridge
namespace Go.Proofs.Ytbfnfebmmhhegaa
open Go.RowKit
set_option linter.unusedVariables false
set_option linter.unusedSimpArgs false
set_option maxRecDepth 20000
def EvP (b : Bool) (w : World) (e : Ending) (w' : World) : Prop := e = .returned (.bool b) ∧ Below w.heap.size w w'
theorem amt_take {L : List Num.Bal} {k : Nat} (h : k < L.length) : Num.amt (L.take (k + 1)) = Num.amt (L.take k) + L[k].2 := by
  rw [← List.take_append_getElem h, Num.amt_snoc]
set_option maxHeartbeats 16000000 in
theorem xeven (L : List Num.Bal) (g : Num.Good L) (hl : L.length ≤ 100) (a : Option Addr) (cap : Nat) (w : World) (h : Bs w a L) : Calls Try.prog 70 #[.slice a L.length cap] w (EvP (Num.evB L) w) := by
  have HBs : Hid (Bs w a L) := h
  have HG : Hid (Num.Good L) := g
  have hl' : (L.length : Int) ≤ 100 := by omega
  have HAM : Hid (∀ k, -7205759403792793600 ≤ Num.amt (L.take k) ∧ Num.amt (L.take k) ≤ 7205759403792793600) := fun k => by
    have := Num.amt_bound (C := L.take k) (fun p hp => ⟨g.lo p (List.mem_of_mem_take hp), g.hi p (List.mem_of_mem_take hp)⟩)
    have hle : (L.take k).length ≤ 100 := by rw [List.length_take]; omega
    omega
  have hnq := neq137
  have heq := eql137
  clear h g
  go_enter Try.func70, Try.ntmps70
  go_wp2_with fail
  obtain ⟨w1, hw1⟩ : ∃ w1, w1 = w.alloc (.cells #[.int .i64 0, .int .i64 0] 137) := ⟨_, rfl⟩
  have HX1 : Hid (Bx w1 w.heap.size #[.int .i64 (Num.amt (L.take 0) / 4294967296), .int .i64 (Num.amt (L.take 0) % 4294967296)] 137 ∧ Below w.heap.size w w1 ∧ Num.EvI L 0) := by
    refine ⟨?_, ?_, .inl rfl⟩
    · rw [hw1]; exact Bx.new w _ _
    · rw [hw1]; exact (Below.refl _ w).alloc (Nat.le_refl _) _
  rw [← hw1]
  clear hw1
  obtain ⟨gb, hgb⟩ : ∃ gb, gb = w.heap.size := ⟨_, rfl⟩
  rw [← hgb]
  rw [← hgb] at HX1
  have HGB : Hid (gb = w.heap.size) := hgb
  clear hgb
  go_loopw [8] (fun i wr => ∃ k : Nat, k ≤ L.length ∧ i = .int .i64 k ∧ Hid (Bx wr gb #[.int .i64 (Num.amt (L.take k) / 4294967296), .int .i64 (Num.amt (L.take k) % 4294967296)] 137 ∧ Below gb w wr ∧ Num.EvI L k))
    (fun i _ => L.length - (intOf i).toNat)
  case atStart => exact ⟨0, Nat.zero_le _, rfl, HX1.out⟩
  case round =>
    obtain ⟨k, hk, rfl, HR⟩ := hrel
    clear HX1
    have y0 : wr.cell? ⟨gb, 0, none⟩ = some (.int .i64 (Num.amt (L.take k) / 4294967296)) := HR.out.1.cell 0
    have y1 : wr.cell? ⟨gb, 1, none⟩ = some (.int .i64 (Num.amt (L.take k) % 4294967296)) := HR.out.1.cell 1
    have hgl : gb < wr.heap.size := HR.out.1.lt
    by_cases hkn : k < L.length
    · have hkz : (k : Int) < (L.length : Int) := by omega
      obtain ⟨blk, off, rfl, hbl, hcs⟩ := HBs.out (by omega)
      have hbl' : blk < gb := by rw [HGB.out]; exact hbl
      have hc4 := hcs k hkn
      obtain ⟨s, hs⟩ : ∃ s, s = S L[k].1.2.2 := ⟨_, rfl⟩
      have hst : s.toList = L[k].1.2.2 := by rw [hs, S_toList]
      obtain ⟨o, b, n, ho, hb, hn⟩ : ∃ o b n, o = L[k].1.1 ∧ b = L[k].1.2.1 ∧ n = L[k].2 := ⟨_, _, _, rfl, rfl, rfl⟩
      have hcc (i : Nat) (h : i < 4) : wr.cell? ⟨blk, off + k * 4 + i, none⟩ = _ := (HR.out.2.1.cell (p := ⟨blk, off + k * 4 + i, none⟩) hbl').trans (hc4 i h)
      have c0 : wr.cell? ⟨blk, off + k * 4, none⟩ = some (.int .i64 o) := by rw [ho]; exact hcc 0 (by omega)
      have c1 : wr.cell? ⟨blk, off + k * 4 + 1, none⟩ = some (.int .i64 b) := by rw [hb]; exact hcc 1 (by omega)
      have c2 : wr.cell? ⟨blk, off + k * 4 + 2, none⟩ = some (.string s) := by rw [hs]; exact hcc 2 (by omega)
      have c3 : wr.cell? ⟨blk, off + k * 4 + 3, none⟩ = some (.int .i64 n) := by rw [hn]; exact hcc 3 (by omega)
      have hnb : -72057594037927936 ≤ n ∧ n ≤ 72057594037927936 := by rw [hn]; exact ⟨HG.out.lo _ (List.getElem_mem hkn), HG.out.hi _ (List.getElem_mem hkn)⟩
      have ham := HAM.out k
      have hat : Num.amt (L.take k) + n = Num.amt (L.take (k + 1)) := by rw [hn, amt_take hkn]
      obtain ⟨w5, hw5⟩ : ∃ w5, w5 = wr.alloc (.cells #[.int .i64 o, .int .i64 b, .string s, .int .i64 n] 71) := ⟨_, rfl⟩
      have HW5 : Hid (wr.alloc (.cells #[.int .i64 o, .int .i64 b, .string s, .int .i64 n] 71) = w5) := hw5.symm
      have hB5 : Below wr.heap.size wr w5 := by rw [hw5]; exact (Below.refl _ wr).alloc (Nat.le_refl _) _
      have hX5 : Bx w5 wr.heap.size #[.int .i64 o, .int .i64 b, .string s, .int .i64 n] 71 := by rw [hw5]; exact Bx.new wr _ _
      have z2 : w5.cell? ⟨wr.heap.size, 2, none⟩ = some (.string s) := hX5.cell 2
      have z3 : w5.cell? ⟨wr.heap.size, 3, none⟩ = some (.int .i64 n) := hX5.cell 3
      have hG5 := HR.out.1.below hB5 hgl
      have x0 : w5.cell? ⟨gb, 0, none⟩ = some (.int .i64 (Num.amt (L.take k) / 4294967296)) := hG5.cell 0
      have x1 : w5.cell? ⟨gb, 1, none⟩ = some (.int .i64 (Num.amt (L.take k) % 4294967296)) := hG5.cell 1
      have hBw : Below gb w w5 := HR.out.2.1.trans (hB5.mono (by omega))
      have HPL : Hid (∀ nq, Calls Try.prog 83 #[.agg #[.int .i64 (Num.amt (L.take k) / 4294967296), .int .i64 (Num.amt (L.take k) % 4294967296)], .int .i64 n] (w5.drewN nq) fun e w7 => ∃ r1 r2 : Int, e = .returned (.agg #[.int .i64 r1, .int .i64 r2]) ∧ w7.cell? ⟨gb, 0, none⟩ = some (.int .i64 (Num.amt (L.take k) / 4294967296)) ∧ w7.cell? ⟨gb, 1, none⟩ = some (.int .i64 (Num.amt (L.take k) % 4294967296)) ∧ w7.frozen? ⟨gb, 0, none⟩ = false ∧ w7.frozen? ⟨gb, 1, none⟩ = false ∧ Hid (Bx ((w7.setCell ⟨gb, 0, none⟩ (.int .i64 r1)).setCell ⟨gb, 1, none⟩ (.int .i64 r2)) gb #[.int .i64 (Num.amt (L.take (k + 1)) / 4294967296), .int .i64 (Num.amt (L.take (k + 1)) % 4294967296)] 137 ∧ Below gb w ((w7.setCell ⟨gb, 0, none⟩ (.int .i64 r1)).setCell ⟨gb, 1, none⟩ (.int .i64 r2)))) := fun nq => by
        refine (xplus (Num.amt (L.take k)) n (by omega) (by omega) hnb.1 hnb.2 (w5.drewN nq)).mono ?_
        rintro e w7 ⟨rfl, hb7⟩
        rw [hat]
        have hb57 : Below w5.heap.size w5 w7 := (⟨rfl, rfl, rfl, Nat.le_refl _, fun _ _ => rfl⟩ : Below w5.heap.size w5 (w5.drewN nq)).trans hb7
        have hG7 := hG5.below hb57 hG5.lt
        have hBw7 : Below gb w w7 := hBw.trans (hb57.mono (by have := hG5.lt; omega))
        exact ⟨_, _, rfl, hG7.cell 0, hG7.cell 1, hG7.froz 0, hG7.froz 1, (hG7.setc 0 _).setc 1 _, (hBw7.setCell (p := ⟨gb, 0, none⟩) (Nat.le_refl _) _).setCell (p := ⟨gb, 1, none⟩) (Nat.le_refl _) _⟩
      have HBF : Hid (∀ nq, Below w.heap.size w (w5.drewN nq)) := fun nq => by
        rw [← HGB.out]
        exact hBw.trans ⟨rfl, rfl, rfl, Nat.le_refl _, fun _ _ => rfl⟩
      have HEV : Hid ((∀ j, k = j + 1 → (L[j]?.map fun q => q.1.2.2) = some L[k].1.2.2 ∨ Num.amt (L.take k) = 0) → Num.EvI L (k + 1)) := fun c => HR.out.2.2.same hkn c
      by_cases hk0 : k = 0
      · have hk0' : ¬ (0 : Int) < (k : Int) := by omega
        have hk0n : ¬ 0 < k := by omega
        have HE2 : Hid (Num.EvI L (k + 1)) := HEV.out (fun j hj => by omega)
        generalize Num.amt (L.take k) / 4294967296 = V1 at *
        generalize Num.amt (L.take k) % 4294967296 = V2 at *
        clear hc4 hcs hs hst ho hb hn hcc hat hw5 hB5 hX5 hG5 hBw HEV HR ham hnb hk0
        go_upto_region 5 with fail
        rw [HW5.out]
        clear HW5
        go_quiet (fail)
        go_wp2_with (go_at_call 83; refine (HPL.out _).mono ?_; rintro e w7 ⟨q1, q2, rfl, k0, k1, k2, k3, HZ⟩)
        go_roundw
        case rel => exact ⟨k + 1, by omega, by simp, HZ.out.1, HZ.out.2, HE2.out⟩
        case measure => simp [intOf]; omega
      · obtain ⟨j, hj0⟩ : ∃ j, k = j + 1 := ⟨k - 1, by omega⟩
        have hjl : j < L.length := by omega
        have hd4 := hcs j hjl
        obtain ⟨s1, hs1⟩ : ∃ s1, s1 = S L[j].1.2.2 := ⟨_, rfl⟩
        have r1 : w5.cell? ⟨blk, off + j * 4 + 2, none⟩ = some (.string s1) := by
          rw [hs1]
          exact (hBw.cell (p := ⟨blk, off + j * 4 + 2, none⟩) hbl').trans (hd4 2 (by omega))
        have hst1 : s1.toList = L[j].1.2.2 := by rw [hs1, S_toList]
        have hjn' : (j : Int) < (L.length : Int) := by omega
        have hk1 : (k : Int) - 1 = (j : Int) := by omega
        have hk0' : (0 : Int) < (k : Int) := by omega
        have hk0n : 0 < k := by omega
        by_cases hne : s.toList = s1.toList
        · have hne' : (s.toList != s1.toList) = false := by simp [hne]
          have hne3 : (s.toList == s1.toList) = true := by simp [hne]
          have hne4 : decide (s.toList = s1.toList) = true := by simp [hne]
          have HE2 : Hid (Num.EvI L (k + 1)) := HEV.out (fun j' hj' => .inl (by
            obtain rfl : j' = j := by omega
            rw [List.getElem?_eq_getElem hjl]
            simp only [Option.map_some]
            rw [← hst1, ← hst, hne]))
          generalize Num.amt (L.take k) / 4294967296 = V1 at *
          generalize Num.amt (L.take k) % 4294967296 = V2 at *
          clear hc4 hcs hs hst ho hb hn hcc hat hw5 hB5 hX5 hG5 hBw HEV HR ham hnb hk0 hj0 hs1 hst1 hd4 hne
          go_upto_region 5 with fail
          rw [HW5.out]
          clear HW5
          go_quiet (fail)
          go_wp2_with (go_at_call 83; refine (HPL.out _).mono ?_; rintro e w7 ⟨q1, q2, rfl, k0, k1, k2, k3, HZ⟩)
          go_roundw
          case rel => exact ⟨k + 1, by omega, by simp, HZ.out.1, HZ.out.2, HE2.out⟩
          case measure => simp [intOf]; omega
        · have hne' : (s.toList != s1.toList) = true := by simp [hne]
          have hne3 : (s.toList == s1.toList) = false := by simp [hne]
          have hne4 : decide (s.toList = s1.toList) = false := by simp [hne]
          by_cases hv : Num.amt (L.take k) = 0
          · have HE2 : Hid (Num.EvI L (k + 1)) := HEV.out (fun j' hj' => .inr hv)
            have hvz := (two_zero (Num.amt (L.take k))).2 hv
            generalize Num.amt (L.take k) / 4294967296 = V1 at *
            generalize Num.amt (L.take k) % 4294967296 = V2 at *
            have hvd : decide (¬ (V1 = 0 ∧ V2 = 0)) = false := by simp [hvz]
            have HVB : Hid ((!decide (V1 = 0) || !decide (V2 = 0)) = false) := by unfold Hid; simp [hvz]
            clear hc4 hcs hs hst ho hb hn hcc hat hw5 hB5 hX5 hG5 hBw HEV HR ham hnb hk0 hj0 hs1 hst1 hd4 hv hvz hvd hne heq
            go_upto_region 5 with fail
            rw [HW5.out]
            clear HW5
            go_quiet (fail)
            rw [HVB.out]
            go_wp2_with (go_at_call 83; refine (HPL.out _).mono ?_; rintro e w7 ⟨q1, q2, rfl, k0, k1, k2, k3, HZ⟩)
            go_roundw
            case rel => exact ⟨k + 1, by omega, by simp, HZ.out.1, HZ.out.2, HE2.out⟩
            case measure => simp [intOf]; omega
          · have HOD : Hid (Num.evB L = false) := by
              subst hj0
              exact Num.EvI.odd HR.out.2.2 hkn HG.out.srt (by rw [← hst1, ← hst]; exact fun e => hne e.symm) hv
            have hvz : ¬ (Num.amt (L.take k) / 4294967296 = 0 ∧ Num.amt (L.take k) % 4294967296 = 0) := fun hh => hv ((two_zero _).1 hh)
            generalize Num.amt (L.take k) / 4294967296 = V1 at *
            generalize Num.amt (L.take k) % 4294967296 = V2 at *
            have hvd : decide (¬ (V1 = 0 ∧ V2 = 0)) = true := by simp [hvz]
            have HVB : Hid ((!decide (V1 = 0) || !decide (V2 = 0)) = true) := by
              unfold Hid
              by_cases e1 : V1 = 0
              · by_cases e2 : V2 = 0
                · exact absurd ⟨e1, e2⟩ hvz
                · simp [e2]
              · simp [e1]
            clear hc4 hcs hs hst ho hb hn hcc hat hw5 hB5 hX5 hG5 hBw HEV HR ham hnb hk0 hj0 hs1 hst1 hd4 hv hvz hvd hne heq
            go_upto_region 5 with fail
            rw [HW5.out]
            clear HW5
            go_quiet (fail)
            rw [HVB.out]
            go_wp2_with fail
            go_ret
            exact ⟨by rw [HOD.out]; rfl, HBF.out _⟩
    · have hkz : ¬ (k : Int) < (L.length : Int) := by omega
      have HF : Hid (EvP (Num.evB L) w (.returned (.bool (decide (Num.amt (L.take k) / 4294967296 = 0 ∧ Num.amt (L.take k) % 4294967296 = 0)))) wr) := by
        have e : k = L.length := by omega
        have h3 := HR.out.2.2
        rw [e] at h3
        refine ⟨?_, by rw [← HGB.out]; exact HR.out.2.1⟩
        rw [h3.fin, e, List.take_length]
        congr 2
        rw [show (Num.amt L == 0) = decide (Num.amt L = 0) from rfl]
        exact decide_eq_decide.2 (two_zero _)
      generalize Num.amt (L.take k) / 4294967296 = V1 at *
      generalize Num.amt (L.take k) % 4294967296 = V2 at *
      obtain ⟨Z, hZ⟩ : ∃ Z, Z = decide (V1 = 0 ∧ V2 = 0) := ⟨_, rfl⟩
      have heqZ : ∀ W, (binOp .eql 137 (.agg #[.int .i64 V1, .int .i64 V2]) (.agg #[.int .i64 0, .int .i64 0])).run Try.prog W = .ok (.bool Z) W := fun W => by rw [eql137, hZ]
      rw [← hZ] at HF
      clear HR HBs HAM heq hZ
      go_wp2_with fail
      go_ret
      exact HF.out
end Go.Proofs.Ytbfnfebmmhhegaa
