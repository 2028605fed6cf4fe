/- layer 17: lots put together, by the program -/
import Derived.Test.YtheikjjehidagaaNE
import Derived.WalkKit
import Derived.ProofKit
import Derived.Handy
import Derived.WalkLawsBesides
import Derived.WalkSpells
import Derived.BigQuiet
import Derived.BigCall
import Derived.Deep.QuietTactic
import Derived.Deep.Light
import Derived.Deep.OwnRows
import Derived.Laws.AppendOwnNone
import Derived.Laws.Strings3
import Derived.Laws.RangeAny
import Derived.Deep.RegionWith
import Derived.Lib.BitFns
import Derived.Lib.Walk
import Derived.Lib.Strings
import Derived.Lib.OthersKept
import Derived.Deep.CutBlock
import Derived.Deep.DeepCutAuto
import Derived.Deep.LoopGhost
import Derived.Deep.RegionHeld3
import Derived.Lib.SmallJoins
import Derived.Maps.AppendAt
import Derived.Laws.IdiomStrings
import Derived.Lib.AppendZeros
import Derived.Deep.WholeRow
import Derived.Laws.BitsAllLaws
import Derived.Lib.ConvBytes
import Derived.Deep.RegionLaw
import Derived.Maps.OwnSet
import Derived.Maps.OwnOps
import Derived.Maps.RangeWalk
import Derived.Maps.Ext
import Derived.DeepKeys4
import Derived.Laws.StructEq
import Derived.Deep.MidRow
import Derived.Lib.Bytealg
import Derived.Lib.AppendZerosOnto
import Derived.Laws.MakeOwn
import Derived.Deep.Upon
import Derived.Sort.KeysCollected
namespace Go.Proofs.Ytheikjjehidagaa
open Go.RowKit
set_option linter.unusedVariables false
set_option linter.unusedSimpArgs false
set_option maxRecDepth 20000
def MgP (L b : List Lt) (w : World) (e : Ending) (w' : World) : Prop := ∃ a cap, e = .returned (.tuple #[.slice a (mrg L b).1.length cap, .int .i64 (mrg L b).2]) ∧ Hid (Rw 2 lcs w' a (mrg L b).1 ∧ Below w.heap.size w w')
theorem mrg_cons (L : List Lt) (x : Lt) (r : List Lt) : mrg L (x :: r) = if addE L x = 0 then mrg (addL L x) r else ([], addE L x) := rfl
theorem MgP.bad {L b M : List Lt} {x : Lt} {r : List Lt} {w w' : World} (h : mrg M (x :: r) = mrg L b) (he : addE M x ≠ 0) (hb : Below w.heap.size w w') : MgP L b w (.returned (.tuple #[.slice none 0 0, .int .i64 (addE M x)])) w' := by
  rw [mrg_cons, if_neg he] at h
  refine ⟨none, 0, ?_, ?_, hb⟩
  · rw [← h]; rfl
  · rw [← h]; exact Rw.nil
theorem MgP.done {L b M : List Lt} {w w' : World} {a : Option Addr} {cap : Nat} (h : mrg M [] = mrg L b) (hr : Rw 2 lcs w' a M) (hb : Below w.heap.size w w') : MgP L b w (.returned (.tuple #[.slice a M.length cap, .int .i64 0])) w' := by
  have e : mrg L b = (M, 0) := h.symm
  refine ⟨a, cap, ?_, ?_, hb⟩
  · rw [e]; rfl
  · rw [e]; exact hr
set_option maxHeartbeats 8000000 in
theorem xmerge (l : List Lt) (hl : l.length ≤ 1000000) (hs : ∀ x ∈ l, x.i.size ≤ 281474976710656) (a : Option Addr) (cap : Nat) (w : World) (h : Rw 2 lcs w a l) : Calls Try.prog 11 #[.slice a l.length cap] w (MgP [] l w) := by
  have HE : Hid (Rw 2 lcs w a l) := h
  have HS : Hid (∀ x ∈ l, x.i.size ≤ 281474976710656) := hs
  have hlz : (l.length : Int) ≤ 1000000 := by omega
  clear h hs
  go_enter Try.func11, Try.ntmps11
  go_wp2_with fail
  go_loopw [4, 11] (fun s i wr => ∃ (k : Nat) (v : Value) (M : List Lt), k ≤ l.length ∧ v = s ∧ i = .int .i64 k ∧ Hid (Ol w.heap.size wr v M ∧ Good M ∧ mrg M (l.drop k) = mrg [] l ∧ Below w.heap.size w wr))
    (fun _ i _ => l.length - (intOf i).toNat)
  case atStart => exact ⟨0, _, [], Nat.zero_le _, rfl, rfl, World.ownsRow_nil _ _ _ _, Good.nil, rfl, Below.refl _ _⟩
  case round =>
    obtain ⟨k, v, M, hk, rfl, rfl, HR⟩ := hrel
    by_cases hkn : k < l.length
    · have hkz : (k : Int) < (l.length : Int) := by omega
      obtain ⟨blk, off, rfl, hbl, hcs⟩ := HE.out (by omega)
      obtain ⟨c0, c1⟩ := Rw.at2 hcs HR.out.2.2.2 hbl hkn
      have HA : Hid (Calls Try.prog 41 #[v, .agg #[.string l[k].i, .int .i64 l[k].n]] (wr.alloc (.cells #[.string l[k].i, .int .i64 l[k].n] 43)) (AdP w.heap.size v M l[k] (wr.alloc (.cells #[.string l[k].i, .int .i64 l[k].n] 43)))) := xadd HR.out.2.1 l[k] (HS.out _ (List.getElem_mem hkn)) _ (HR.out.1.alloc _) (by have := HR.out.2.2.2.size; simp; omega)
      have hdk : l.drop k = l[k] :: l.drop (k + 1) := List.drop_eq_getElem_cons hkn
      have HB1 : Hid (Below w.heap.size w (wr.alloc (.cells #[.string l[k].i, .int .i64 l[k].n] 43))) := HR.out.2.2.2.alloc HR.out.2.2.2.size _
      have HO : Hid (Ol w.heap.size (wr.alloc (.cells #[.string l[k].i, .int .i64 l[k].n] 43)) v M) := HR.out.1.alloc _
      by_cases he : addE M l[k] = 0
      · have HC : Hid (Calls Try.prog 41 #[v, .agg #[.string l[k].i, .int .i64 l[k].n]] (wr.alloc (.cells #[.string l[k].i, .int .i64 l[k].n] 43)) fun e w' => ∃ v', e = .returned (.tuple #[v', .int .i64 0]) ∧ Hid (Ol w.heap.size w' v' (addL M l[k]) ∧ Good (addL M l[k]) ∧ mrg (addL M l[k]) (l.drop (k + 1)) = mrg [] l ∧ Below w.heap.size w w')) := by
          refine HA.out.mono ?_
          rintro e w' (⟨_, v', rfl, HZ⟩ | ⟨h1, _⟩)
          · refine ⟨v', rfl, HZ.out.o, HR.out.2.1.add he, ?_, HB1.out.trans (HZ.out.below HO.out (by have := HR.out.2.2.2.size; simp; omega))⟩
            have := HR.out.2.2.1
            rw [hdk, mrg_cons, if_pos he] at this
            exact this
          · exact absurd he h1
        clear HA HB1 HO HR hdk hcs he
        generalize addL M l[k] = M2 at *
        generalize l[k] = x at *
        obtain ⟨xi, xn⟩ := x
        simp only at *
        go_wp2_with (go_at_call 41; refine HC.out.mono ?_; clear HC; rintro e w2 ⟨v', rfl, HZ⟩)
        go_roundw
        case rel => exact ⟨k + 1, v', M2, by omega, rfl, by simp, HZ.out⟩
        case measure => simp [intOf]; omega
      · have HC : Hid (Calls Try.prog 41 #[v, .agg #[.string l[k].i, .int .i64 l[k].n]] (wr.alloc (.cells #[.string l[k].i, .int .i64 l[k].n] 43)) fun e w' => e = .returned (.tuple #[.slice none 0 0, .int .i64 (addE M l[k])]) ∧ Hid (MgP [] l w (.returned (.tuple #[.slice none 0 0, .int .i64 (addE M l[k])])) w')) := by
          refine HA.out.mono ?_
          rintro e w' (⟨h1, _⟩ | ⟨_, rfl, hb⟩)
          · exact absurd h1 he
          · have := HR.out.2.2.1
            rw [hdk] at this
            exact ⟨rfl, MgP.bad this he (HB1.out.trans (hb.mono HB1.out.size))⟩
        have hez : ¬ ((addE M l[k] : Nat) : Int) = 0 := by omega
        clear HA HB1 HO HR hdk hcs he
        generalize addE M l[k] = E at *
        generalize l[k] = x at *
        obtain ⟨xi, xn⟩ := x
        simp only at *
        have hez2 : (((E : Int)) != 0) = true := by simpa using hez
        go_wp2_with (go_at_call 41; refine HC.out.mono ?_; clear HC; rintro e w2 ⟨rfl, HZ⟩)
        go_ret2
        exact HZ.out
    · have hkz : ¬ (k : Int) < (l.length : Int) := by omega
      obtain ⟨a', cap', rfl, _, hr⟩ := HR.out.1.read
      have HF : Hid (MgP [] l w (.returned (.tuple #[.slice a' M.length cap', .int .i64 0])) wr) := MgP.done (by have := HR.out.2.2.1; rwa [List.drop_eq_nil_of_le (by omega)] at this) hr HR.out.2.2.2
      clear HR hr
      go_wp2_with fail
      go_ret2
      exact HF.out
end Go.Proofs.Ytheikjjehidagaa
