/- layer 12: things of the document; texts alike; lots alike -/
import Derived.Test.YtbfnfebmmhhegaaCU
import Derived.WalkKit
import Derived.ProofKit
import Derived.Handy
import Derived.WalkLawsBesides
import Derived.WalkSpells
import Derived.BigQuiet
import Derived.BigCall
import Derived.Deep.QuietTactic
import Derived.Deep.Light
import Derived.Deep.OwnRows
import Derived.Laws.AppendOwnNone
import Derived.Laws.Strings3
import Derived.Laws.RangeAny
import Derived.Deep.RegionWith
import Derived.Lib.BitFns
import Derived.Lib.Walk
import Derived.Lib.Strings
import Derived.Lib.OthersKept
import Derived.Deep.CutBlock
import Derived.Deep.DeepCutAuto
import Derived.Deep.LoopGhost
import Derived.Deep.RegionHeld3
import Derived.Lib.SmallJoins
import Derived.Maps.AppendAt
import Derived.Laws.IdiomStrings
import Derived.Lib.AppendZeros
import Derived.Deep.WholeRow
import Derived.Laws.BitsAllLaws
import Derived.Lib.ConvBytes
import Derived.Deep.RegionLaw
import Derived.Maps.OwnSet
import Derived.Maps.OwnOps
import Derived.Maps.RangeWalk
import Derived.Maps.Ext
import Derived.DeepKeys4
import Derived.Laws.StructEq
import Derived.Shelf.SlSortCmp.NoneTotal
import Derived.Deep.MidRow
import Derived.Laws.MakeOwn
import Derived.Sort.OwnSorted
import Derived.Lib.SlicesCompact
import Derived.Lib.RowBridge
namespace Go.Proofs.Ytbfnfebmmhhegaa
open Go.RowKit
set_option linter.unusedVariables false
set_option linter.unusedSimpArgs false
set_option maxRecDepth 20000
theorem cut_step (L : List Num.Bal) {k : Nat} (h : k < L.length) (c : k = 0 ∨ ∃ j, k = j + 1 ∧ ∃ hj : j < L.length, L[k].1.2.2 ≠ L[j].1.2.2) : Lib.compactUpTo (tg L).toArray (k + 1) = Lib.compactUpTo (tg L).toArray k ++ [L[k].1.2.2] := by
  rw [Lib.compactUpTo_succ]
  have hk : (tg L).toArray[k]! = L[k].1.2.2 := by rw [getElem!_pos _ _ (by simp [tg_len]; exact h)]; simp [tg]
  have : Lib.keeps (tg L).toArray k = true := by
    rcases c with rfl | ⟨j, rfl, hj, hne⟩
    · simp [Lib.keeps]
    · refine Lib.keeps_pos ?_
      rw [hk, Nat.add_sub_cancel]
      have : (tg L).toArray[j]! = L[j].1.2.2 := by rw [getElem!_pos _ _ (by simp [tg_len]; exact hj)]; simp [tg]
      rw [this]
      exact hne
  rw [this, hk]
  rfl
theorem cut_stay (L : List Num.Bal) {j : Nat} (h : j + 1 < L.length) (c : L[j + 1].1.2.2 = L[j].1.2.2) : Lib.compactUpTo (tg L).toArray (j + 1 + 1) = Lib.compactUpTo (tg L).toArray (j + 1) := by
  rw [Lib.compactUpTo_succ]
  have hk : (tg L).toArray[j + 1]! = L[j + 1].1.2.2 := by rw [getElem!_pos _ _ (by simp [tg_len]; exact h)]; simp [tg]
  have hj : (tg L).toArray[j]! = L[j].1.2.2 := by rw [getElem!_pos _ _ (by simp [tg_len]; omega)]; simp [tg]
  have : Lib.keeps (tg L).toArray (j + 1) = false := Lib.keeps_neg (by omega) (by rw [hk, Nat.add_sub_cancel, hj, c])
  rw [this]
  simp
theorem cut_len (L : List Num.Bal) (k : Nat) : (Lib.compactUpTo (tg L).toArray k).length ≤ k := by
  unfold Lib.compactUpTo
  rw [List.length_map]
  have := List.length_filter_le (Lib.keeps (tg L).toArray) (List.range k)
  simpa using this
def RtP (L : List Num.Bal) (w : World) (e : Ending) (w' : World) : Prop := ∃ v, e = .returned v ∧ w'.ownsRow w.heap.size 9 1 v (cmp L).length (rcs strc (cmp L)) ∧ Below w.heap.size w w'
set_option maxHeartbeats 8000000 in
theorem rthings (L : List Num.Bal) (hl : L.length ≤ 1000000) (a : Option Addr) (cap : Nat) (w : World) (h : Bs w a L) : Calls Try.prog 23 #[.slice a L.length cap] w (RtP L w) := by
  have HBs : Hid (Bs w a L) := h
  have hl' : (L.length : Int) ≤ 1000000 := by omega
  clear h
  go_enter Try.func23, Try.ntmps23
  go_wp2_with fail
  go_loopw [3, 4] (fun v i wr => ∃ k : Nat, k ≤ L.length ∧ i = .int .i64 k ∧ Hid (wr.ownsRow w.heap.size 9 1 v (Lib.compactUpTo (tg L).toArray k).length (rcs strc (Lib.compactUpTo (tg L).toArray k)) ∧ Below w.heap.size w wr))
    (fun _ i _ => L.length - (intOf i).toNat)
  case atStart => exact ⟨0, Nat.zero_le _, rfl, World.ownsRow_nil _ _ _ _, Below.refl _ _⟩
  case round =>
    obtain ⟨k, hk, rfl, HR⟩ := hrel
    by_cases hkn : k < L.length
    · have hkz : (k : Int) < (L.length : Int) := by omega
      obtain ⟨blk, off, rfl, hbl, hcs⟩ := HBs.out (by omega)
      have hc4 := hcs k hkn
      obtain ⟨s, hs⟩ : ∃ s, s = S L[k].1.2.2 := ⟨_, rfl⟩
      have r2 : wr.cell? ⟨blk, off + k * 4 + 2, none⟩ = some (.string s) := by
        rw [hs]
        exact (HR.out.2.cell (p := ⟨blk, off + k * 4 + 2, none⟩) hbl).trans (hc4 2 (by omega))
      have HAP : Hid (∀ W, Below wr.heap.size wr W → ∃ v' w6, (Builtin.append_ #[49, 49] 49 #[u3, .slice (some ⟨W.heap.size, 0, none⟩) 1 1]).run Try.prog (W.alloc (.cells #[.string s] 9)) = .ok v' w6 ∧ Hid (w6.ownsRow w.heap.size 9 1 v' ((Lib.compactUpTo (tg L).toArray k).length + 1) (rcs strc (Lib.compactUpTo (tg L).toArray k) ++ [.string s]) ∧ Below w.heap.size w w6)) := fun W hW => by
        have hO := own_below HR.out.1 hW
        have hB : Below w.heap.size w W := HR.out.2.trans (hW.mono HR.out.2.size)
        have hcl := cut_len L k
        obtain ⟨v', w6, hr6, ho6, hg6⟩ := app_gen (T := 9) (Sl := 49) (k := 1) (bytes := 16) Try.underlying49 info9 rfl (by omega) [.string s] rfl (by intro u hu; simp at hu; rcases hu with rfl; rfl) hO hB.size (by omega) (by unfold maxLen; omega)
        exact ⟨v', w6, hr6, ho6, (hB.alloc hB.size _).grown hg6 (by have := hB.size; simp; omega) (fun j hj => (hO.lt j hj).1)⟩
      have HBd : Hid (∀ n, Below wr.heap.size wr (wr.drewN n)) := fun n => ⟨rfl, rfl, rfl, Nat.le_refl _, fun _ _ => rfl⟩
      have HYS : Hid ((k = 0 ∨ ∃ j, k = j + 1 ∧ ∃ hj : j < L.length, L[k].1.2.2 ≠ L[j].1.2.2) → ∀ v' w6, w6.ownsRow w.heap.size 9 1 v' ((Lib.compactUpTo (tg L).toArray k).length + 1) (rcs strc (Lib.compactUpTo (tg L).toArray k) ++ [.string s]) ∧ Below w.heap.size w w6 → w6.ownsRow w.heap.size 9 1 v' (Lib.compactUpTo (tg L).toArray (k + 1)).length (rcs strc (Lib.compactUpTo (tg L).toArray (k + 1))) ∧ Below w.heap.size w w6) := fun c v' w6 hh => by
        rw [cut_step L hkn c, rcs_snoc, List.length_append]
        have e : strc L[k].1.2.2 = [.string s] := by rw [hs]; rfl
        rw [e]
        exact hh
      by_cases hk0 : k = 0
      · subst hk0
        have HY2 : Hid (∀ v' w6, w6.ownsRow w.heap.size 9 1 v' ((Lib.compactUpTo (tg L).toArray 0).length + 1) (rcs strc (Lib.compactUpTo (tg L).toArray 0) ++ [.string s]) ∧ Below w.heap.size w w6 → w6.ownsRow w.heap.size 9 1 v' (Lib.compactUpTo (tg L).toArray (0 + 1)).length (rcs strc (Lib.compactUpTo (tg L).toArray (0 + 1))) ∧ Below w.heap.size w w6) := HYS.out (.inl rfl)
        have r2' : wr.cell? ⟨blk, off + 2, none⟩ = some (.string s) := by simpa using r2
        clear hc4 hcs hs HYS HBs
        go_upto_region 5 with fail
        go_quiet (fail)
        obtain ⟨v', w6, hr6, HZ⟩ := HAP.out (wr.drewN nq) (HBd.out nq)
        have HZ3 : Hid (w6.ownsRow w.heap.size 9 1 v' (Lib.compactUpTo (tg L).toArray (0 + 1)).length (rcs strc (Lib.compactUpTo (tg L).toArray (0 + 1))) ∧ Below w.heap.size w w6) := HY2.out v' w6 HZ.out
        have r9 : (wr.drewN nq).cell? ⟨blk, off + 2, none⟩ = some (.string s) := r2'
        have hr7 : (Builtin.append_ #[49, 49] 49 #[u3, .slice (some ⟨wr.heap.size, 0, none⟩) 1 1]).run Try.prog ((wr.drewN nq).alloc (.cells #[.string s] 9)) = .ok v' w6 := hr6
        clear hr6
        clear HAP HZ HY2
        go_wp2_with (at_builtin; refine Lib.wpList_append_run _ rfl _ _ 49 49 rfl _ _ rfl rfl _ w6 hr7 ?_)
        go_roundw
        case rel => exact ⟨0 + 1, by omega, by simp, HZ3.out⟩
        case measure => simp [intOf]; omega
      · obtain ⟨j, hj0⟩ : ∃ j, k = j + 1 := ⟨k - 1, by omega⟩
        have hjl : j < L.length := by omega
        have hd4 := hcs j hjl
        obtain ⟨s1, hs1⟩ : ∃ s1, s1 = S L[j].1.2.2 := ⟨_, rfl⟩
        have r1 : wr.cell? ⟨blk, off + j * 4 + 2, none⟩ = some (.string s1) := by
          rw [hs1]
          exact (HR.out.2.cell (p := ⟨blk, off + j * 4 + 2, none⟩) hbl).trans (hd4 2 (by omega))
        have hst : s.toList = L[k].1.2.2 := by rw [hs, S_toList]
        have hst1 : s1.toList = L[j].1.2.2 := by rw [hs1, S_toList]
        have hjn' : (j : Int) < (L.length : Int) := by omega
        have hk1 : (k : Int) - 1 = (j : Int) := by omega
        have hkz0 : ((k : Int) == 0) = false := by simp; omega
        by_cases hne : s.toList = s1.toList
        · have hne' : (s.toList != s1.toList) = false := by simp [hne]
          have hne3 : (s.toList == s1.toList) = true := by simp [hne]
          have hne4 : decide (s.toList = s1.toList) = true := by simp [hne]
          have HST : Hid (∀ W, Below wr.heap.size wr W → W.ownsRow w.heap.size 9 1 u3 (Lib.compactUpTo (tg L).toArray (k + 1)).length (rcs strc (Lib.compactUpTo (tg L).toArray (k + 1))) ∧ Below w.heap.size w W) := fun W hW => by
            have e1 : Lib.compactUpTo (tg L).toArray (k + 1) = Lib.compactUpTo (tg L).toArray k := by
              subst hj0
              exact cut_stay L hkn (by rw [← hst, ← hst1]; exact hne)
            rw [e1]
            exact ⟨own_below HR.out.1 hW, HR.out.2.trans (hW.mono HR.out.2.size)⟩
          clear hc4 hcs hd4 hs hs1 hst hst1 hne HAP HYS HR hj0 hk0
          go_upto_region 5 with fail
          go_quiet (fail)
          have HZ4 := HST.out (wr.drewN nq) (HBd.out nq)
          have HZ5 : Hid (World.ownsRow (wr.drewN nq) w.heap.size 9 1 u3 (Lib.compactUpTo (tg L).toArray (k + 1)).length (rcs strc (Lib.compactUpTo (tg L).toArray (k + 1))) ∧ Below w.heap.size w (wr.drewN nq)) := HZ4
          clear HZ4 HST
          go_wp2_with fail
          go_roundw
          case rel => exact ⟨k + 1, by omega, by simp, HZ5.out⟩
          case measure => simp [intOf]; omega
        · have hne' : (s.toList != s1.toList) = true := by simp [hne]
          have hne3 : (s.toList == s1.toList) = false := by simp [hne]
          have HY2 : Hid (∀ v' w6, w6.ownsRow w.heap.size 9 1 v' ((Lib.compactUpTo (tg L).toArray k).length + 1) (rcs strc (Lib.compactUpTo (tg L).toArray k) ++ [.string s]) ∧ Below w.heap.size w w6 → w6.ownsRow w.heap.size 9 1 v' (Lib.compactUpTo (tg L).toArray (k + 1)).length (rcs strc (Lib.compactUpTo (tg L).toArray (k + 1))) ∧ Below w.heap.size w w6) := HYS.out (.inr ⟨j, hj0, hjl, by rw [← hst, ← hst1]; exact hne⟩)
          have hne2 : decide (s.toList = s1.toList) = false := by simp [hne]
          clear hc4 hcs hd4 hs hs1 hst hst1 HYS HBs hj0 hk0
          go_upto_region 5 with fail
          go_quiet (fail)
          obtain ⟨v', w6, hr6, HZ⟩ := HAP.out (wr.drewN nq) (HBd.out nq)
          have HZ3 : Hid (w6.ownsRow w.heap.size 9 1 v' (Lib.compactUpTo (tg L).toArray (k + 1)).length (rcs strc (Lib.compactUpTo (tg L).toArray (k + 1))) ∧ Below w.heap.size w w6) := HY2.out v' w6 HZ.out
          have r9 : (wr.drewN nq).cell? ⟨blk, off + k * 4 + 2, none⟩ = some (.string s) := r2
          have hr7 : (Builtin.append_ #[49, 49] 49 #[u3, .slice (some ⟨wr.heap.size, 0, none⟩) 1 1]).run Try.prog ((wr.drewN nq).alloc (.cells #[.string s] 9)) = .ok v' w6 := hr6
          clear hr6
          clear HAP HZ HY2
          go_wp2_with (at_builtin; refine Lib.wpList_append_run _ rfl _ _ 49 49 rfl _ _ rfl rfl _ w6 hr7 ?_)
          go_roundw
          case rel => exact ⟨k + 1, by omega, by simp, HZ3.out⟩
          case measure => simp [intOf]; omega
    · have hkz : ¬ (k : Int) < (L.length : Int) := by omega
      have HF : Hid (RtP L w (.returned u3) wr) := by
        have hr := HR.out
        have e : k = (tg L).length := by rw [tg_len]; omega
        rw [e] at hr
        exact ⟨u3, rfl, hr.1, hr.2⟩
      go_wp2_with fail
      go_ret
      exact HF.out
end Go.Proofs.Ytbfnfebmmhhegaa
