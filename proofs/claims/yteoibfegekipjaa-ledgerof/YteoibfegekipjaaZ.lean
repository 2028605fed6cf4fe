/- layer 11: few posts; a map of sums -/
import Derived.Test.YteoibfegekipjaaU
import Derived.Test.YteoibfegekipjaaY
import Derived.WalkKit
import Derived.ProofKit
import Derived.Handy
import Derived.WalkLawsBesides
import Derived.WalkSpells
import Derived.BigQuiet
import Derived.BigCall
import Derived.Deep.QuietTactic
import Derived.Deep.Light
import Derived.Deep.OwnRows
import Derived.Laws.AppendOwnNone
import Derived.Laws.Strings3
import Derived.Laws.RangeAny
import Derived.Deep.RegionWith
import Derived.Lib.BitFns
import Derived.Lib.Walk
import Derived.Lib.Strings
import Derived.Lib.OthersKept
import Derived.Deep.CutBlock
import Derived.Deep.DeepCutAuto
import Derived.Deep.LoopGhost
import Derived.Deep.RegionHeld3
import Derived.Lib.SmallJoins
import Derived.Maps.AppendAt
import Derived.Laws.IdiomStrings
import Derived.Lib.AppendZeros
import Derived.Deep.WholeRow
import Derived.Laws.BitsAllLaws
import Derived.Lib.ConvBytes
import Derived.Deep.RegionLaw
import Derived.Maps.OwnSet
import Derived.Maps.OwnOps
import Derived.Maps.RangeWalk
import Derived.Maps.Ext
import Derived.DeepKeys4
import Derived.Laws.StructEq
import Derived.Shelf.SlSortCmp.NoneTotal
namespace Go.Proofs.Yteoibfegekipjaa
open Go.RowKit
set_option linter.unusedVariables false
set_option linter.unusedSimpArgs false
set_option maxRecDepth 20000
theorem tot_app (t : List UInt8) : ∀ (C : List Num.Bal) (p : Num.Bal), Num.tot t (C ++ [p]) = Num.tot t C + (if p.1.2.2 = t then p.2 else 0)
  | [], p => by simp [Num.tot]
  | x :: r, p => by simp only [List.cons_append, Num.tot, tot_app t r p]; omega
/-- block m is a map that holds the sums of C -/
def Ms (w : World) (m n : Nat) (C : List Num.Bal) : Prop := ∃ D : Dt, Maps.IsMap D ∧ w.ownsMap Try.prog 9 (plainElem Try.prog 3) m n D ∧ ∀ t : List UInt8, D.atKey (.string t) (.lit (.int .i64 0)) = .lit (.int .i64 (wrap64 (Num.tot t C)))
theorem K9 : Maps.Keyed Try.prog 9 := Maps.string_keyed Try.underlying9
theorem Ms.made (w : World) : Ms (w.alloc (.map #[] 0)) w.heap.size 0 [] := ⟨_, Maps.isMap_empty, World.ownsMap_made w _ _ _, fun t => by simp [DataW.atKey, Num.tot, wrap64]⟩
theorem Ms.kept {w w' : World} {m n : Nat} {C : List Num.Bal} {row : Option Nat} (h : Ms w m n C) (g : w.grownBy w' row) (hr : some m ≠ row) : Ms w' m n C :=
  let ⟨D, h1, h2, h3⟩ := h; ⟨D, h1, h2.kept g hr, h3⟩
theorem Ms.look {w : World} {m n : Nat} {C : List Num.Bal} (h : Ms w m n C) {s : ByteArray} (hs : s.size ≤ maxLen) : (Instr.lookup 62 (.map (some m)) (.string s) false).run Try.prog w = .ok (.int .i64 (wrap64 (Num.tot s.toList C))) w := by
  obtain ⟨D, h1, h2, h3⟩ := h
  obtain ⟨c, hr, hc, _⟩ := h2.lookup_int K9 Try.underlying62 Try.underlying3 (zero3 w) (Go.WideMaps.keyOf_string_mk Try.underlying9 hs)
  have e : s.toList = s.data.toList := by rw [ByteArray.toList_eq]
  rw [← e, h3] at hc
  have : c = wrap64 (Num.tot s.toList C) := by simp only [DataW.lit.injEq, Lit.int.injEq, true_and] at hc; exact hc.symm
  rw [hr, this]
theorem Ms.store {w : World} {m n : Nat} {C : List Num.Bal} (h : Ms w m n C) (hn : n < maxLen) {s : ByteArray} (hs : s.size ≤ maxLen) {p : Num.Bal} (hp : p.1.2.2 = s.toList) :
    ∃ w', (Instr.mapUpdate 62 (.map (some m)) (.string s) (.int .i64 (wrap64 (wrap64 (Num.tot s.toList C) + p.2)))).run Try.prog w = .ok () w' ∧ Ms w' m (n + 1) (C ++ [p]) ∧ w.grownBy w' (some m) := by
  obtain ⟨D, h1, h2, h3⟩ := h
  obtain ⟨w', hr, ho, ht⟩ := h2.store K9 Try.underlying62 hn (Go.WideMaps.keyOf_string_mk Try.underlying9 hs) (plainElem_int (a := wrap64 (wrap64 (Num.tot s.toList C) + p.2)) Try.underlying3 (WalkArith.wf_i64 (by unfold wrap64; omega)))
  have e : s.toList = s.data.toList := by rw [ByteArray.toList_eq]
  refine ⟨w', hr, ⟨_, ?_, ho, fun t => ?_⟩, ht.grown⟩
  · obtain ⟨es, rfl⟩ := h1
    exact ⟨_, rfl⟩
  · rw [tot_app, hp]
    by_cases c : s.toList = t
    · rw [if_pos c, ← c, e, Maps.atKey_put_same h1 (k := .string s.data.toList) trivial, ← e, wrap_add]
    · rw [if_neg c, Maps.atKey_put_other (fun k => c (by rw [e]; injection k with k; exact k.symm)), h3, Int.add_zero]
def lens (l : List (List Ex)) : Nat := (l.map List.length).sum
theorem lens_app (l : List (List Ex)) (x : List Ex) : lens (l ++ [x]) = lens l + x.length := by simp [lens]
theorem lens_mem : ∀ {l : List (List Ex)} {x : List Ex}, x ∈ l → x.length ≤ lens l
  | y :: r, x, h => by
    simp only [lens, List.map_cons, List.sum_cons]
    rcases List.mem_cons.1 h with rfl | h
    · omega
    · have := lens_mem h; unfold lens at this; omega
theorem lens_take (l : List (List Ex)) (k : Nat) : lens (l.take k) ≤ lens l := by
  have h := congrArg lens (List.take_append_drop k l)
  unfold lens at h ⊢
  rw [List.map_append, List.sum_append] at h
  omega
def ShP (l : List (List Ex)) (w : World) (e : Ending) (w' : World) : Prop := e = .returned (.bool (decide (l.length ≤ 40 ∧ lens l ≤ 300))) ∧ w = w'
set_option maxHeartbeats 4000000 in
theorem xshort (l : List (List Ex)) (a : Option Addr) (cap : Nat) (w : World) (h : Pd w (.slice a l.length cap) l) : Calls Try.prog 9 #[.slice a l.length cap] w (ShP l w) := by
  have HP : Hid (Pd w (.slice a l.length cap) l) := h
  clear h
  go_enter Try.func9, Try.ntmps9
  go_wp2_with fail
  go_loopw [3, 4] (fun v i wr => ∃ k : Nat, k ≤ l.length ∧ k ≤ 41 ∧ i = .int .i64 k ∧ v = .int .i64 (lens (l.take k) : Nat) ∧ lens (l.take k) ≤ 4398046511104 ∧ wr = w)
    (fun _ i _ => l.length - (intOf i).toNat)
  case atStart => exact ⟨0, Nat.zero_le _, by omega, rfl, rfl, by simp [lens], rfl⟩
  case round =>
    obtain ⟨k, hk, hk41, rfl, rfl, hs, rfl⟩ := hrel
    have HEND : Hid (∀ r : Bool, (r = decide (l.length ≤ 40 ∧ lens l ≤ 300)) → ShP l wr (.returned (.bool r)) wr) := fun r hr => ⟨by rw [hr], rfl⟩
    have htk : lens (l.take k) ≤ lens l := lens_take l k
    have hta : k = l.length → lens (l.take k) = lens l := fun e => by rw [e, List.take_length]
    by_cases hkn : k < l.length
    · clear hta
      by_cases hk40 : k ≤ 40
      · by_cases hn : lens (l.take k) ≤ 300
        · obtain ⟨a', cap', e0, hcc, hE0⟩ := HP.out
          injection e0 with e01 e02 e03
          subst e01 e03
          obtain ⟨blk, off, rfl, hbl, hcs⟩ := hE0 (by omega)
          obtain ⟨ak, ck, c0, hck, hdk⟩ := hcs k hkn
          have hlen := hdk.len
          have HT : Hid (lens (l.take k) + l[k].length = lens (l.take (k + 1))) := by
            unfold Hid
            rw [← List.take_append_getElem hkn, lens_app]
          generalize l[k].length = nk at *
          generalize lens (l.take k) = N at *
          have hkz : (k : Int) < (l.length : Int) := by omega
          have hk4 : (k : Int) ≤ 40 := by omega
          have hnz : (N : Int) ≤ 300 := by omega
          have hw1 : wrap64 ((N : Int) + (nk : Int)) = (N : Int) + (nk : Int) := by unfold wrap64; omega
          clear hdk hcs hE0 e02
          go_wp2_with fail
          go_roundw
          case rel => exact ⟨k + 1, by omega, by omega, by simp, by rw [← HT.out]; simp, by rw [← HT.out]; omega, trivial⟩
          case measure => simp [intOf]; omega
        · have HF : Hid (ShP l wr (.returned (.bool false)) wr) := HEND.out false (by symm; rw [decide_eq_false_iff_not]; omega)
          generalize lens (l.take k) = N at *
          have hkz : (k : Int) < (l.length : Int) := by omega
          have hk4 : (k : Int) ≤ 40 := by omega
          have hnz : ¬ (N : Int) ≤ 300 := by omega
          clear HEND
          by_cases hl : l.length ≤ 40
          · have hlz : (l.length : Int) ≤ 40 := by omega
            clear htk
            go_wp2_with fail
            go_ret
            exact HF.out
          · have hlz : ¬ (l.length : Int) ≤ 40 := by omega
            go_wp2_with fail
            go_ret
            exact HF.out
      · have HF : Hid (ShP l wr (.returned (.bool false)) wr) := HEND.out false (by symm; rw [decide_eq_false_iff_not]; omega)
        have hkz : (k : Int) < (l.length : Int) := by omega
        have hk4 : ¬ (k : Int) ≤ 40 := by omega
        have hlz : ¬ (l.length : Int) ≤ 40 := by omega
        clear HEND
        go_wp2_with fail
        go_ret
        exact HF.out
    · have hkz : ¬ (k : Int) < (l.length : Int) := by omega
      by_cases hl : l.length ≤ 40
      · have hlz : (l.length : Int) ≤ 40 := by omega
        by_cases hn : lens (l.take k) ≤ 300
        · have HF : Hid (ShP l wr (.returned (.bool true)) wr) := HEND.out true (by symm; rw [decide_eq_true_iff]; have := hta (by omega); omega)
          generalize lens (l.take k) = N at *
          have hnz : (N : Int) ≤ 300 := by omega
          clear HEND hta htk
          go_wp2_with fail
          go_ret
          exact HF.out
        · have HF : Hid (ShP l wr (.returned (.bool false)) wr) := HEND.out false (by symm; rw [decide_eq_false_iff_not]; have := hta (by omega); omega)
          generalize lens (l.take k) = N at *
          have hnz : ¬ (N : Int) ≤ 300 := by omega
          clear HEND hta htk
          go_wp2_with fail
          go_ret
          exact HF.out
      · have HF : Hid (ShP l wr (.returned (.bool false)) wr) := HEND.out false (by symm; rw [decide_eq_false_iff_not]; omega)
        have hlz : ¬ (l.length : Int) ≤ 40 := by omega
        clear HEND
        go_wp2_with fail
        go_ret
        exact HF.out
end Go.Proofs.Yteoibfegekipjaa
