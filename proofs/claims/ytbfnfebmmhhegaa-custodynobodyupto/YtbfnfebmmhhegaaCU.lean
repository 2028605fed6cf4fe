/- layer 12: things -/
import Derived.Test.YtbfnfebmmhhegaaCQ
import Derived.WalkKit
import Derived.ProofKit
import Derived.Handy
import Derived.WalkLawsBesides
import Derived.WalkSpells
import Derived.BigQuiet
import Derived.BigCall
import Derived.Deep.QuietTactic
import Derived.Deep.Light
import Derived.Deep.OwnRows
import Derived.Laws.AppendOwnNone
import Derived.Laws.Strings3
import Derived.Laws.RangeAny
import Derived.Deep.RegionWith
import Derived.Lib.BitFns
import Derived.Lib.Walk
import Derived.Lib.Strings
import Derived.Lib.OthersKept
import Derived.Deep.CutBlock
import Derived.Deep.DeepCutAuto
import Derived.Deep.LoopGhost
import Derived.Deep.RegionHeld3
import Derived.Lib.SmallJoins
import Derived.Maps.AppendAt
import Derived.Laws.IdiomStrings
import Derived.Lib.AppendZeros
import Derived.Deep.WholeRow
import Derived.Laws.BitsAllLaws
import Derived.Lib.ConvBytes
import Derived.Deep.RegionLaw
import Derived.Maps.OwnSet
import Derived.Maps.OwnOps
import Derived.Maps.RangeWalk
import Derived.Maps.Ext
import Derived.DeepKeys4
import Derived.Laws.StructEq
import Derived.Shelf.SlSortCmp.NoneTotal
import Derived.Deep.MidRow
import Derived.Laws.MakeOwn
import Derived.Sort.OwnSorted
import Derived.Lib.SlicesCompact
import Derived.Lib.RowBridge
namespace Go.Proofs.Ytbfnfebmmhhegaa
open Go.RowKit
set_option linter.unusedVariables false
set_option linter.unusedSimpArgs false
set_option maxRecDepth 20000
def strc (t : List UInt8) : List Value := [.string (S t)]
abbrev Tx := Rw 1 strc
theorem strc_len (t : List UInt8) : (strc t).length = 1 := rfl
def tg (L : List Num.Bal) : List (List UInt8) := L.map (·.1.2.2)
/-- things, each once -/
def cmp (L : List Num.Bal) : List (List UInt8) := Lib.compact (tg L)
theorem info9 : (Try.prog.info? 9).map (fun i => (i.zero, i.size, i.bytes)) = some (some (.string ⟨#[]⟩), 1, 16) := by kernel_rfl
def ThP (L : List Num.Bal) (w : World) (e : Ending) (w' : World) : Prop := ∃ a cap, e = .returned (.slice a (cmp L).length cap) ∧ Hid (Tx w' a (cmp L) ∧ Below w.heap.size w w')
theorem tg_len (L : List Num.Bal) : (tg L).length = L.length := by simp [tg]
theorem cmp_len (L : List Num.Bal) : (cmp L).length ≤ L.length := by
  have := Lib.compact_length_le (tg L)
  rw [tg_len] at this
  exact this
theorem tg_at (L : List Num.Bal) {k : Nat} (h : k < L.length) : (tg L)[k]'(by rw [tg_len]; exact h) = L[k].1.2.2 := by simp [tg]
/-- Compact of an own row of texts -/
theorem xcompact (ts : List (List UInt8)) (hl : ts.length ≤ 1000000) (B : Nat) (v : Value) (w : World) (h : w.ownsRow B 9 1 v ts.length (rcs strc ts)) (hB : B ≤ w.heap.size) : Calls Try.prog 61 #[v] w fun e w' => ∃ a cap, e = .returned (.slice a (Lib.compact ts).length cap) ∧ Hid (Tx w' a (Lib.compact ts) ∧ Below B w w') := by
  rcases h.2 with ⟨hv, hn⟩ | ⟨g, cap, cur, hv, hgB, hg, hc1, hc2, hc3, ht⟩
  · obtain rfl := List.length_eq_zero_iff.1 hn
    subst hv
    refine (Try.slices_Compact_string_empty none 0 w).mono ?_
    rintro e w' ⟨rfl, rfl⟩
    exact ⟨none, 0, rfl, Rw.nil, Below.refl _ _⟩
  · subst hv
    have hX : Bx w g cur 9 := hg
    obtain ⟨a', c', hv', _, hr⟩ := own_read h h.1
    have hH : Go.Sort.Holds Go.Proofs.encStr w g 0 ts.toArray := fun j hj => by
      have hj' : j < ts.length := by simpa using hj
      injection hv' with e1 e2 e3
      obtain ⟨g', hg', _, _, hcell⟩ := hr (by omega)
      rw [← e1] at hg'
      injection hg' with hg'
      injection hg' with hg' _ _
      subst hg'
      have h1 := flat_at strc 1 strc_len ts j hj' 0 (by omega)
      rw [Nat.mul_one, Nat.add_zero] at h1
      refine ⟨?_, by rw [Nat.zero_add]; exact hX.froz j⟩
      rw [Nat.zero_add, hcell j (.string (S ts[j])) (by unfold rcs; rw [h1]; rfl)]
      simp [hj', S]
    refine (Try.slices_Compact_string g 0 cap ts w hH (by omega) hc1).mono ?_
    rintro e w' ⟨rfl, q, rfl⟩
    refine ⟨_, cap, rfl, fun h0 => ⟨g, 0, rfl, by simpa [Go.Sort.ahead] using hX.lt, fun i hi j hj => ?_⟩, ?_⟩
    · obtain rfl : j = 0 := by omega
      have hle := Lib.compact_length_le ts
      have hH2 : Go.Sort.Holds Go.Proofs.encStr (Go.Sort.ahead w q) g 0 ts.toArray := hH
      have := Go.Sort.cell?_putRow Go.Proofs.encStr (Go.Sort.ahead w q) g 0 ts.toArray (Lib.compact ts ++ List.replicate (ts.length - (Lib.compact ts).length) []).toArray hH2 (by simp; omega) i (by simp; omega)
      rw [Nat.mul_one, Nat.add_zero, this]
      have e1 : (Lib.compact ts ++ List.replicate (ts.length - (Lib.compact ts).length) []).toArray[i]! = (Lib.compact ts)[i] := by
        rw [getElem!_pos _ _ (by simp; omega)]
        simp only [List.getElem_toArray]
        rw [List.getElem_append_left hi]
      rw [e1]
      rfl
    · have hgr := Go.grownBy_sorted (w := w) (g := g) (n := q) (os := #[]) (Lib.compact ts ++ List.replicate (ts.length - (Lib.compact ts).length) []).toArray
      rw [Go.Sort.grow_empty] at hgr
      exact (Below.refl B w).grown hgr hB (fun k e => by cases e; exact hgB)
set_option maxHeartbeats 8000000 in
theorem xthings (q m : Nat) (L : List Num.Bal) (hl : L.length ≤ 1000000) (hb : ∀ p ∈ L, p.1.2.2.length ≤ 281474976710656) (w : World) (h : Lg w q m L) : Calls Try.prog 45 #[.pointer (some ⟨q, 0, none⟩)] w (ThP L w) := by
  have HC : Hid (Calls Try.prog 58 #[.pointer (some ⟨q, 0, none⟩)] w (AllP L w)) := xall q m L hl hb w h
  have HL : Hid (L.length ≤ 1000000) := hl
  have hl' : (L.length : Int) ≤ 1000000 := by omega
  clear h hb
  go_enter Try.func45, Try.ntmps45
  go_wp2_with (go_at_call 58; refine HC.out.mono ?_; rintro e w1 ⟨a, cap, rfl, hcap, HBs⟩)
  clear HC
  go_loopw [3, 9] (fun v i wr => ∃ k : Nat, k ≤ L.length ∧ i = .int .i64 k ∧ Hid (wr.ownsRow w1.heap.size 9 1 v k (rcs strc ((tg L).take k)) ∧ Below w1.heap.size w1 wr))
    (fun _ i _ => L.length - (intOf i).toNat)
  case atStart => exact ⟨0, Nat.zero_le _, rfl, World.ownsRow_nil _ _ _ _, Below.refl _ _⟩
  case round =>
    obtain ⟨k, hk, rfl, HR⟩ := hrel
    by_cases hkn : k < L.length
    · have hkz : (k : Int) < (L.length : Int) := by omega
      obtain ⟨blk, off, rfl, hbl, hcs⟩ := HBs.out.1 (by omega)
      have hc4 := hcs k hkn
      have HT : Hid (rcs strc ((tg L).take k) ++ strc L[k].1.2.2 = rcs strc ((tg L).take (k + 1))) := by
        have h1 := rcs_take strc (tg L) (k := k) (by rw [tg_len]; exact hkn)
        rw [tg_at L hkn] at h1
        exact h1
      generalize L[k] = x at *
      obtain ⟨⟨o, b, t⟩, n⟩ := x
      obtain ⟨s, hs⟩ : ∃ s, s = S t := ⟨_, rfl⟩
      have hxs : bcs ((o, b, t), n) = [.int .i64 o, .int .i64 b, .string s, .int .i64 n] := by rw [hs]; rfl
      have hxt : strc t = [.string s] := by rw [hs]; rfl
      rw [hxs] at hc4
      have HT2 : Hid (rcs strc ((tg L).take k) ++ [.string s] = rcs strc ((tg L).take (k + 1))) := by rw [← hxt]; exact HT.out
      have r0 : wr.cell? ⟨blk, off + k * 4, none⟩ = some (.int .i64 o) := (HR.out.2.cell (p := ⟨blk, off + k * 4 + 0, none⟩) hbl).trans (hc4 0 (by omega))
      have r1 : wr.cell? ⟨blk, off + k * 4 + 1, none⟩ = some (.int .i64 b) := (HR.out.2.cell (p := ⟨blk, off + k * 4 + 1, none⟩) hbl).trans (hc4 1 (by omega))
      have r2 : wr.cell? ⟨blk, off + k * 4 + 2, none⟩ = some (.string s) := (HR.out.2.cell (p := ⟨blk, off + k * 4 + 2, none⟩) hbl).trans (hc4 2 (by omega))
      have r3 : wr.cell? ⟨blk, off + k * 4 + 3, none⟩ = some (.int .i64 n) := (HR.out.2.cell (p := ⟨blk, off + k * 4 + 3, none⟩) hbl).trans (hc4 3 (by omega))
      obtain ⟨w5, hw5⟩ : ∃ w5, w5 = wr.alloc (.cells #[.int .i64 o, .int .i64 b, .string s, .int .i64 n] 71) := ⟨_, rfl⟩
      have HW5 : Hid (wr.alloc (.cells #[.int .i64 o, .int .i64 b, .string s, .int .i64 n] 71) = w5) := hw5.symm
      have hB5 : Below wr.heap.size wr w5 := by rw [hw5]; exact (Below.refl _ wr).alloc (Nat.le_refl _) _
      have hX5 : Bx w5 wr.heap.size #[.int .i64 o, .int .i64 b, .string s, .int .i64 n] 71 := by rw [hw5]; exact Bx.new wr _ _
      have z2 : w5.cell? ⟨wr.heap.size, 2, none⟩ = some (.string s) := hX5.cell 2
      have hO5 := own_below HR.out.1 hB5
      have hB15 : Below w1.heap.size w1 w5 := HR.out.2.trans (hB5.mono HR.out.2.size)
      obtain ⟨v', w6, hr6, ho6, hg6⟩ := app_gen (T := 9) (Sl := 49) (k := 1) (bytes := 16) Try.underlying49 info9 rfl (by omega) [.string s] rfl (by intro u hu; simp at hu; rcases hu with rfl; rfl) hO5 hB15.size (by omega) (by unfold maxLen; omega)
      have HZ : Hid (w6.ownsRow w1.heap.size 9 1 v' (k + 1) (rcs strc ((tg L).take (k + 1))) ∧ Below w1.heap.size w1 w6) := ⟨by rw [← HT2.out]; exact ho6, (hB15.alloc hB15.size _).grown hg6 (by have := hB15.size; simp; omega) (fun j hj => (hO5.lt j hj).1)⟩
      clear hc4 hcs hs hxs hxt HT HT2 hw5 hB5 hX5 hO5 hB15 ho6 hg6 HR
      go_upto_region 5 with fail
      rw [HW5.out]
      clear HW5
      go_wp2_with (at_builtin; refine Lib.wpList_append_run _ rfl _ _ 49 49 rfl _ _ rfl rfl _ w6 hr6 ?_)
      go_roundw
      case rel => exact ⟨k + 1, by omega, by simp, HZ.out⟩
      case measure => simp [intOf]; omega
    · have hkz : ¬ (k : Int) < (L.length : Int) := by omega
      have HF : Hid (Calls Try.prog 61 #[u3] wr fun e w' => ∃ v, e = .returned v ∧ Hid (ThP L w (.returned v) w')) := by
        have hr := HR.out
        have e : k = (tg L).length := by rw [tg_len]; omega
        rw [e, List.take_length] at hr
        refine (xcompact (tg L) (by rw [tg_len]; exact HL.out) w1.heap.size u3 wr hr.1 hr.2.size).mono ?_
        rintro e w' ⟨a2, c2, rfl, hz⟩
        refine ⟨_, rfl, a2, c2, rfl, hz.out.1, ?_⟩
        have h1 : Below w1.heap.size w1 w' := hr.2.trans hz.out.2
        exact HBs.out.2.trans (h1.mono HBs.out.2.size)
      clear HR HBs
      go_wp2_with (go_at_call 61; refine HF.out.mono ?_; rintro e w4 ⟨v4, rfl, HZ⟩)
      go_ret
      exact HZ.out
end Go.Proofs.Ytbfnfebmmhhegaa
