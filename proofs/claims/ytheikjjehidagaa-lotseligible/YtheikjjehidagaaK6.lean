/- layer 17: lots put together, by the program -/
import Derived.Test.YtheikjjehidagaaNE
import Derived.WalkKit
import Derived.ProofKit
import Derived.Handy
import Derived.WalkLawsBesides
import Derived.WalkSpells
import Derived.BigQuiet
import Derived.BigCall
import Derived.Deep.QuietTactic
import Derived.Deep.Light
import Derived.Deep.OwnRows
import Derived.Laws.AppendOwnNone
import Derived.Laws.Strings3
import Derived.Laws.RangeAny
import Derived.Deep.RegionWith
import Derived.Lib.BitFns
import Derived.Lib.Walk
import Derived.Lib.Strings
import Derived.Lib.OthersKept
import Derived.Deep.CutBlock
import Derived.Deep.DeepCutAuto
import Derived.Deep.LoopGhost
import Derived.Deep.RegionHeld3
import Derived.Lib.SmallJoins
import Derived.Maps.AppendAt
import Derived.Laws.IdiomStrings
import Derived.Lib.AppendZeros
import Derived.Deep.WholeRow
import Derived.Laws.BitsAllLaws
import Derived.Lib.ConvBytes
import Derived.Deep.RegionLaw
import Derived.Maps.OwnSet
import Derived.Maps.OwnOps
import Derived.Maps.RangeWalk
import Derived.Maps.Ext
import Derived.DeepKeys4
import Derived.Laws.StructEq
import Derived.Deep.MidRow
import Derived.Lib.Bytealg
import Derived.Lib.AppendZerosOnto
import Derived.Laws.MakeOwn
import Derived.Deep.Upon
import Derived.Sort.KeysCollected
namespace Go.Proofs.Ytheikjjehidagaa
open Go.RowKit
set_option linter.unusedVariables false
set_option linter.unusedSimpArgs false
set_option maxRecDepth 20000
def MgP (L b : List Lt) (w : World) (e : Ending) (w' : World) : Prop := ∃ a cap, e = .returned (.tuple #[.slice a (mrg L b).1.length cap, .int .i64 (mrg L b).2]) ∧ Hid (Rw 2 lcs w' a (mrg L b).1 ∧ Below w.heap.size w w')
theorem mrg_cons (L : List Lt) (x : Lt) (r : List Lt) : mrg L (x :: r) = if addE L x = 0 then mrg (addL L x) r else ([], addE L x) := rfl
theorem MgP.bad {L b M : List Lt} {x : Lt} {r : List Lt} {w w' : World} (h : mrg M (x :: r) = mrg L b) (he : addE M x ≠ 0) (hb : Below w.heap.size w w') : MgP L b w (.returned (.tuple #[.slice none 0 0, .int .i64 (addE M x)])) w' := by
  rw [mrg_cons, if_neg he] at h
  refine ⟨none, 0, ?_, ?_, hb⟩
  · rw [← h]; rfl
  · rw [← h]; exact Rw.nil
theorem MgP.done {L b M : List Lt} {w w' : World} {a : Option Addr} {cap : Nat} (h : mrg M [] = mrg L b) (hr : Rw 2 lcs w' a M) (hb : Below w.heap.size w w') : MgP L b w (.returned (.tuple #[.slice a M.length cap, .int .i64 0])) w' := by
  have e : mrg L b = (M, 0) := h.symm
  refine ⟨a, cap, ?_, ?_, hb⟩
  · rw [e]; rfl
  · rw [e]; exact hr
set_option maxHeartbeats 8000000 in
theorem xmerge (l : List Lt) (hl : l.length ≤ 1000000) (hs : ∀ x ∈ l, x.i.size ≤ 281474976710656) (a : Option Addr) (cap : Nat) (w : World) (h : Rw 2 lcs w a l) : Calls Try.prog 11 #[.slice a l.length cap] w (MgP [] l w) := by
  have HE : Hid (Rw 2 lcs w a l) := h
  have HS : Hid (∀ x ∈ l, x.i.size ≤ 281474976710656) := hs
  have hlz : (l.length : Int) ≤ 1000000 := by omega
  clear h hs
  go_enter Try.func11, Try.ntmps11
  go_wp2_with fail
  go_loopw [4, 11] (fun s i wr => ∃ (k : Nat) (v : Value) (M : List Lt), k ≤ l.length ∧ v = s ∧ i = .int .i64 k ∧ Hid (Ol w.heap.size wr v M ∧ Good M ∧ mrg M (l.drop k) = mrg [] l ∧ Below w.heap.size w wr))
    (fun _ i _ => l.length - (intOf i).toNat)
  case atStart => exact ⟨0, _, [], Nat.zero_le _, rfl, rfl, World.ownsRow_nil _ _ _ _, Good.nil, rfl, Below.refl _ _⟩
  case round =>
    obtain ⟨k, v, M, hk, rfl, rfl, HR⟩ := hrel
    by_cases hkn : k < l.length
    · have hkz : (k : Int) < (l.length : Int) := by omega
      obtain ⟨blk, off, rfl, hbl, hcs⟩ := HE.out (by omega)
      obtain ⟨c0, c1⟩ := Rw.at2 hcs HR.out.2.2.2 hbl hkn
      have HA : Hid (Calls Try.prog 41 #[v, .agg #[.string l[k].i, .int .i64 l[k].n]] (wr.alloc (.cells #[.string l[k].i, .int .i64 l[k].n] 43)) (AdP w.heap.size v M l[k] (wr.alloc (.cells #[.string l[k].i, .int .i64 l[k].n] 43)))) := xadd HR.out.2.1 l[k] (HS.out _ (List.getElem_mem hkn)) _ (HR.out.1.alloc _) (by have := HR.out.2.2.2.size; simp; omega)
      have hdk : l.drop k = l[k] :: l.drop (k + 1) := List.drop_eq_getElem_cons hkn
      have HB1 : Hid (Below w.heap.size w (wr.alloc (.cells #[.string l[k].i, .int .i64 l[k].n] 43))) := HR.out.2.2.2.alloc HR.out.2.2.2.size _
      have HO : Hid (Ol w.heap.size (wr.alloc (.cells #[.string l[k].i, .int .i64 l[k].n] 43)) v M) := HR.out.1.alloc _
      by_cases he : addE M l[k] = 0
      · have HC : Hid (Calls Try.prog 41 #[v, .agg #[.string l[k].i, .int .i64 l[k].n]] (wr.alloc (.cells #[.string l[k].i, .int .i64 l[k].n] 43)) fun e w' => ∃ v', e = .returned (.tuple #[v', .int .i64 0]) ∧ Hid (Ol w.heap.size w' v' (addL M l[k]) ∧ Good (addL M l[k]) ∧ mrg (addL M l[k]) (l.drop (k + 1)) = mrg [] l ∧ Below w.heap.size w w')) := by
          refine HA.out.mono ?_
          rintro e w' (⟨_, v', rfl, HZ⟩ | ⟨h1, _⟩)
          · refine ⟨v', rfl, HZ.out.o, HR.out.2.1.add he, ?_, HB1.out.trans (HZ.out.below HO.out (by have := HR.out.2.2.2.size; simp; omega))⟩
            have := HR.out.2.2.1
            rw [hdk, mrg_cons, if_pos he] at this
            exact this
          · exact absurd he h1
        clear HA HB1 HO HR hdk hcs he
        generalize addL M l[k] = M2 at *
        generalize l[k] = x at *
        obtain ⟨xi, xn⟩ := x
        simp only at *
        go_wp2_with (go_at_call 41; refine HC.out.mono ?_; clear HC; rintro e w2 ⟨v', rfl, HZ⟩)
        go_roundw
        case rel => exact ⟨k + 1, v', M2, by omega, rfl, by simp, HZ.out⟩
        case measure => simp [intOf]; omega
      · have HC : Hid (Calls Try.prog 41 #[v, .agg #[.string l[k].i, .int .i64 l[k].n]] (wr.alloc (.cells #[.string l[k].i, .int .i64 l[k].n] 43)) fun e w' => e = .returned (.tuple #[.slice none 0 0, .int .i64 (addE M l[k])]) ∧ Hid (MgP [] l w (.returned (.tuple #[.slice none 0 0, .int .i64 (addE M l[k])])) w')) := by
          refine HA.out.mono ?_
          rintro e w' (⟨h1, _⟩ | ⟨_, rfl, hb⟩)
          · exact absurd h1 he
          · have := HR.out.2.2.1
            rw [hdk] at this
            exact ⟨rfl, MgP.bad this he (HB1.out.trans (hb.mono HB1.out.size))⟩
        have hez : ¬ ((addE M l[k] : Nat) : Int) = 0 := by omega
        clear HA HB1 HO HR hdk hcs he
        generalize addE M l[k] = E at *
        generalize l[k] = x at *
        obtain ⟨xi, xn⟩ := x
        simp only at *
        have hez2 : (((E : Int)) != 0) = true := by simpa using hez
        go_wp2_with (go_at_call 41; refine HC.out.mono ?_; clear HC; rintro e w2 ⟨rfl, HZ⟩)
        go_ret2
        exact HZ.out
    · have hkz : ¬ (k : Int) < (l.length : Int) := by omega
      obtain ⟨a', cap', rfl, _, hr⟩ := HR.out.1.read
      have HF : Hid (MgP [] l w (.returned (.tuple #[.slice a' M.length cap', .int .i64 0])) wr) := MgP.done (by have := HR.out.2.2.1; rwa [List.drop_eq_nil_of_le (by omega)] at this) hr HR.out.2.2.2
      clear HR hr
      go_wp2_with fail
      go_ret2
      exact HF.out
end Go.Proofs.Ytheikjjehidagaa

/- layer 17: one of a list set; lots put together, by the document -/
namespace Go.Proofs.Ytheikjjehidagaa
open Go.RowKit
set_option linter.unusedVariables false
set_option linter.unusedSimpArgs false
set_option maxRecDepth 20000
def SeP (M : List Lt) (w : World) (e : Ending) (w' : World) : Prop := ∃ a cap, e = .returned (.slice a M.length cap) ∧ Hid (Rw 2 lcs w' a M ∧ Below w.heap.size w w')
theorem bs_ge {x y : ByteArray} (h : ¬ x.toList < y.toList) : Op.bytesLess x.toList y.toList = false := by rw [bl_eq]; exact decide_eq_false h
theorem bs_ne {x y : ByteArray} (h : ¬ x.toList = y.toList) : (x.toList == y.toList) = false ∧ (x.toList != y.toList) = true := by
  have : (x.toList == y.toList) = false := by rw [beq_eq_false_iff_ne]; exact h
  exact ⟨this, by unfold bne; rw [this]; rfl⟩
theorem bs_is {x y : ByteArray} (h : x.toList = y.toList) : (x.toList == y.toList) = true ∧ (x.toList != y.toList) = false := by
  have : (x.toList == y.toList) = true := by rw [beq_iff_eq]; exact h
  exact ⟨this, by unfold bne; rw [this]; rfl⟩
/-- the round of Set -/
def SeR (L : List Lt) (m : Lt) (w wr : World) (k : Nat) (v : Value) (d : Bool) : Prop := ∃ O : List Lt, Ol w.heap.size wr v O ∧ O ++ setR m d (L.drop k) = setR m (decide (m.n = 0)) L ∧ Below w.heap.size w wr ∧ O.length ≤ 2 * k
theorem setR_cons (m : Lt) (d : Bool) (x : Lt) (r : List Lt) : setR m d (x :: r) = ((if d = false ∧ ¬ key x < key m then [m] else []) ++ if key x = key m then [] else [x]) ++ setR m (d || !decide (key x < key m)) r := rfl
/-- nothing put ahead -/
theorem SeR.same {L : List Lt} {m : Lt} {w wr : World} {k : Nat} {v : Value} {d : Bool} (h : SeR L m w wr k v d) (hk : k < L.length) (hd : d = true ∨ key L[k] < key m) (he : key L[k] = key m) : SeR L m w wr (k + 1) v d := by
  obtain ⟨O, h1, h2, h3, h4⟩ := h
  refine ⟨O, h1, ?_, h3, by omega⟩
  rw [List.drop_eq_getElem_cons hk, setR_cons, if_pos he, if_neg (by rintro ⟨e1, e2⟩; rcases hd with e | e; rw [e1] at e; cases e; exact e2 e)] at h2
  rw [← h2]
  have : (d || !decide (key L[k] < key m)) = d := by
    rcases hd with e | e
    · rw [e]; rfl
    · rw [decide_eq_true e]; simp
  rw [this]
  simp
theorem SeR.put {L : List Lt} {m : Lt} {w wr : World} {k : Nat} {v : Value} {d : Bool} (h : SeR L m w wr k v d) (hL : L.length ≤ 1000) (hk : k < L.length) (hd : d = true ∨ key L[k] < key m) (he : ¬ key L[k] = key m) :
    ∃ v' w6, (Builtin.append_ #[22, 22] 22 #[v, .slice (some ⟨wr.heap.size, 0, none⟩) 1 1]).run Try.prog (wr.alloc (.cells #[.string L[k].i, .int .i64 L[k].n] 43)) = .ok v' w6 ∧ Hid (SeR L m w w6 (k + 1) v' d) := by
  obtain ⟨O, h1, h2, h3, h4⟩ := h
  obtain ⟨v', w6, hr, HZ⟩ := ap_lot h1 h3.size (by omega) L[k] (Below.refl _ wr)
  refine ⟨v', w6, hr, O ++ [L[k]], HZ.out.o, ?_, h3.trans (HZ.out.below h1 h3.size), by simp; omega⟩
  rw [List.drop_eq_getElem_cons hk, setR_cons, if_neg he, if_neg (by rintro ⟨e1, e2⟩; rcases hd with e | e; rw [e1] at e; cases e; exact e2 e)] at h2
  rw [← h2]
  have : (d || !decide (key L[k] < key m)) = d := by
    rcases hd with e | e
    · rw [e]; rfl
    · rw [decide_eq_true e]; simp
  rw [this]
  simp
/-- put ahead -/
theorem SeR.new {L : List Lt} {m : Lt} {w wr : World} {k : Nat} {v : Value} (h : SeR L m w wr k v false) (hL : L.length ≤ 1000) (hk : k < L.length) (hd : ¬ key L[k] < key m) :
    ∃ v' w6, (Builtin.append_ #[22, 22] 22 #[v, .slice (some ⟨wr.heap.size, 0, none⟩) 1 1]).run Try.prog (wr.alloc (.cells #[.string m.i, .int .i64 m.n] 43)) = .ok v' w6 ∧ Below w.heap.size w w6 ∧ (key L[k] = key m → SeR L m w w6 (k + 1) v' true) ∧
      (¬ key L[k] = key m → ∃ v2 w7, (Builtin.append_ #[22, 22] 22 #[v', .slice (some ⟨w6.heap.size, 0, none⟩) 1 1]).run Try.prog (w6.alloc (.cells #[.string L[k].i, .int .i64 L[k].n] 43)) = .ok v2 w7 ∧ Hid (SeR L m w w7 (k + 1) v2 true)) := by
  obtain ⟨O, h1, h2, h3, h4⟩ := h
  obtain ⟨v', w6, hr, HZ⟩ := ap_lot h1 h3.size (by omega) m (Below.refl _ wr)
  have hb6 := h3.trans (HZ.out.below h1 h3.size)
  have e0 : (false || !decide (key L[k] < key m)) = true := by rw [decide_eq_false hd]; rfl
  refine ⟨v', w6, hr, hb6, fun he => ⟨O ++ [m], HZ.out.o, ?_, hb6, by simp; omega⟩, fun he => ?_⟩
  · rw [List.drop_eq_getElem_cons hk, setR_cons, if_pos he, if_pos ⟨rfl, hd⟩, e0] at h2
    rw [← h2]
    simp
  · obtain ⟨v2, w7, hr2, HZ2⟩ := ap_lot HZ.out.o hb6.size (by simp; omega) L[k] (Below.refl _ w6)
    refine ⟨v2, w7, hr2, O ++ [m] ++ [L[k]], HZ2.out.o, ?_, hb6.trans (HZ2.out.below HZ.out.o hb6.size), by simp; omega⟩
    rw [List.drop_eq_getElem_cons hk, setR_cons, if_neg he, if_pos ⟨rfl, hd⟩, e0] at h2
    rw [← h2]
    simp
theorem SeR.last {L : List Lt} {m : Lt} {w wr : World} {k : Nat} {v : Value} (h : SeR L m w wr k v false) (hL : L.length ≤ 1000) (hk : k = L.length) :
    ∃ v' w6, (Builtin.append_ #[22, 22] 22 #[v, .slice (some ⟨wr.heap.size, 0, none⟩) 1 1]).run Try.prog (wr.alloc (.cells #[.string m.i, .int .i64 m.n] 43)) = .ok v' w6 ∧ Hid (SeP (setR m (decide (m.n = 0)) L) w (.returned v') w6) := by
  obtain ⟨O, h1, h2, h3, h4⟩ := h
  obtain ⟨v', w6, hr, HZ⟩ := ap_lot h1 h3.size (by omega) m (Below.refl _ wr)
  have hb6 := h3.trans (HZ.out.below h1 h3.size)
  rw [List.drop_eq_nil_of_le (by omega)] at h2
  have e : O ++ [m] = setR m (decide (m.n = 0)) L := h2
  rw [← e]
  obtain ⟨a', cap', rfl, _, hr2⟩ := Ol.read HZ.out.o
  exact ⟨_, w6, hr, a', cap', rfl, hr2, hb6⟩
theorem SeR.end {L : List Lt} {m : Lt} {w wr : World} {k : Nat} {v : Value} (h : SeR L m w wr k v true) (hk : k = L.length) : SeP (setR m (decide (m.n = 0)) L) w (.returned v) wr := by
  obtain ⟨O, h1, h2, h3, h4⟩ := h
  rw [List.drop_eq_nil_of_le (by omega)] at h2
  have e : O = setR m (decide (m.n = 0)) L := by rw [← h2]; simp [setR]
  rw [← e]
  obtain ⟨a', cap', rfl, _, hr2⟩ := Ol.read h1
  exact ⟨a', cap', rfl, hr2, h3⟩
set_option maxHeartbeats 16000000 in
theorem rset (L : List Lt) (hl : L.length ≤ 1000) (m : Lt) (a : Option Addr) (cap : Nat) (w : World) (h : Rw 2 lcs w a L) : Calls Try.prog 43 #[.slice a L.length cap, .string m.i, .int .i64 m.n] w (SeP (setR m (decide (m.n = 0)) L) w) := by
  have HE : Hid (Rw 2 lcs w a L) := h
  have HL : Hid (L.length ≤ 1000) := hl
  have hlz : (L.length : Int) ≤ 1000000 := by omega
  obtain ⟨d0, hd0⟩ : ∃ d0, d0 = decide (m.n = 0) := ⟨_, rfl⟩
  have HS0 : Hid (SeR L m w w 0 (.slice none 0 0) d0) := ⟨[], World.ownsRow_nil _ _ _ _, by rw [hd0]; rfl, Below.refl _ _, Nat.zero_le _⟩
  have hd1 : (m.n == 0) = d0 := by rw [hd0]; rfl
  clear h hd0 hl
  obtain ⟨mi, mn⟩ := m
  simp only at *
  go_enter Try.func43, Try.ntmps43
  go_wp2_with fail
  go_loopw [7, 8, 9] (fun s d i wr => ∃ (k : Nat) (v : Value) (b : Bool), k ≤ L.length ∧ v = s ∧ d = .bool b ∧ i = .int .i64 k ∧ Hid (SeR L ⟨mi, mn⟩ w wr k v b))
    (fun _ _ i _ => L.length - (intOf i).toNat)
  case atStart => exact ⟨0, _, d0, Nat.zero_le _, rfl, rfl, rfl, HS0.out⟩
  case round =>
    clear HS0 hd1
    obtain ⟨k, v, b, hk, rfl, rfl, rfl, HR⟩ := hrel
    by_cases hkn : k < L.length
    · have hkz : (k : Int) < (L.length : Int) := by omega
      obtain ⟨blk, off, rfl, hbl, hcs⟩ := HE.out (by omega)
      have HB : Hid (Below w.heap.size w wr) := let ⟨_, _, _, h, _⟩ := HR.out; h
      obtain ⟨c0, c1⟩ := Rw.at2 hcs HB.out hbl hkn
      have HK1 : Hid (∀ W, Below w.heap.size w W → W.cell? ⟨blk, off + k * 2, none⟩ = some (.string L[k].i) ∧ W.cell? ⟨blk, off + k * 2 + 1, none⟩ = some (.int .i64 L[k].n)) := fun W hb => Rw.at2 hcs hb hbl hkn
      have hkey : key L[k] = L[k].i.toList := rfl
      have hkey2 : key ⟨mi, mn⟩ = mi.toList := rfl
      cases b with
      | true =>
        by_cases he : L[k].i.toList = mi.toList
        · have HZ := hid_in (HR.out.same hkn (.inl rfl) he)
          obtain ⟨b1, b2⟩ := bs_is he
          clear HR HB HK1 hcs he hkey hkey2
          generalize L[k] = x at *
          obtain ⟨xi, xn⟩ := x
          simp only at *
          go_wp2_with fail
          go_roundw
          case rel => exact ⟨k + 1, v, true, by omega, rfl, rfl, by simp, HZ.out⟩
          case measure => simp [intOf]; omega
        · obtain ⟨v', w6, hr6, HZ⟩ := HR.out.put HL.out hkn (.inl rfl) he
          obtain ⟨b1, b2⟩ := bs_ne he
          clear HR HB HK1 hcs he hkey hkey2
          generalize L[k] = x at *
          obtain ⟨xi, xn⟩ := x
          simp only at *
          go_wp2_with (at_builtin; refine Lib.wpList_append_run _ rfl _ _ 22 22 rfl _ _ rfl rfl _ w6 hr6 ?_)
          go_roundw
          case rel => exact ⟨k + 1, v', true, by omega, rfl, rfl, by simp, HZ.out⟩
          case measure => simp [intOf]; omega
      | false =>
        by_cases hlt : L[k].i.toList < mi.toList
        · obtain ⟨b1, b2, b3, b4⟩ := bs_lt hlt
          have he : ¬ L[k].i.toList = mi.toList := fun e => by rw [e] at hlt; exact lt_ir _ hlt
          obtain ⟨b5, b6⟩ := bs_ne he
          obtain ⟨v', w6, hr6, HZ⟩ := HR.out.put HL.out hkn (.inr hlt) he
          clear HR HB HK1 hcs he hkey hkey2 hlt
          generalize L[k] = x at *
          obtain ⟨xi, xn⟩ := x
          simp only at *
          go_wp2_with (at_builtin; refine Lib.wpList_append_run _ rfl _ _ 22 22 rfl _ _ rfl rfl _ w6 hr6 ?_)
          go_roundw
          case rel => exact ⟨k + 1, v', false, by omega, rfl, rfl, by simp, HZ.out⟩
          case measure => simp [intOf]; omega
        · have b3 := bs_ge hlt
          obtain ⟨v', w6, hr6, hb6, k1, k2⟩ := HR.out.new HL.out hkn hlt
          obtain ⟨e0, e1⟩ := HK1.out w6 hb6
          by_cases he : L[k].i.toList = mi.toList
          · have HZ := hid_in (k1 he)
            obtain ⟨b1, b2⟩ := bs_is he
            clear HR HB HK1 hcs he hkey hkey2 hlt k1 k2 hb6
            generalize L[k] = x at *
            obtain ⟨xi, xn⟩ := x
            simp only at *
            go_wp2_with (at_builtin; refine Lib.wpList_append_run _ rfl _ _ 22 22 rfl _ _ rfl rfl _ w6 hr6 ?_)
            go_roundw
            case rel => exact ⟨k + 1, v', true, by omega, rfl, rfl, by simp, HZ.out⟩
            case measure => simp [intOf]; omega
          · obtain ⟨v2, w7, hr7, HZ⟩ := k2 he
            obtain ⟨b1, b2⟩ := bs_ne he
            clear HR HB HK1 hcs he hkey hkey2 hlt k1 k2 hb6
            generalize L[k] = x at *
            obtain ⟨xi, xn⟩ := x
            simp only at *
            go_wp2_with (at_builtin; first | (refine Lib.wpList_append_run _ rfl _ _ 22 22 rfl _ _ rfl rfl _ w6 hr6 ?_; clear hr6) | (refine Lib.wpList_append_run _ rfl _ _ 22 22 rfl _ _ rfl rfl _ w7 hr7 ?_))
            go_roundw
            case rel => exact ⟨k + 1, v2, true, by omega, rfl, rfl, by simp, HZ.out⟩
            case measure => simp [intOf]; omega
    · have hkz : ¬ (k : Int) < (L.length : Int) := by omega
      have hke : k = L.length := by omega
      cases b with
      | true =>
        have HZ := hid_in (HR.out.end hke)
        clear HR hke
        go_wp2_with fail
        go_ret
        exact HZ.out
      | false =>
        obtain ⟨v', w6, hr6, HZ⟩ := HR.out.last HL.out hke
        clear HR hke
        simp only at *
        go_wp2_with (at_builtin; refine Lib.wpList_append_run _ rfl _ _ 22 22 rfl _ _ rfl rfl _ w6 hr6 ?_)
        go_ret
        exact HZ.out
end Go.Proofs.Ytheikjjehidagaa

/- layer 17: lots put together, by the document -/
namespace Go.Proofs.Ytheikjjehidagaa
open Go.RowKit
set_option linter.unusedVariables false
set_option linter.unusedSimpArgs false
set_option maxRecDepth 20000
theorem addE_le {L : List Lt} {x : Lt} : addE L x ≤ 9 := by unfold addE; split <;> (try split) <;> (try split) <;> omega
/-- the round of Plus -/
structure PlR (L b : List Lt) (w wr : World) (k : Nat) (a : Option Addr) (M : List Lt) : Prop where
  r : Rw 2 lcs wr a M
  g : Good M
  e : mrg M (b.drop k) = mrg L b
  b : Below w.heap.size w wr
theorem PlR.below {L b : List Lt} {w wr w' : World} {k : Nat} {a : Option Addr} {M : List Lt} (h : PlR L b w wr k a M) (hb : Below wr.heap.size wr w') : PlR L b w w' k a M := ⟨h.r.below hb, h.g, h.e, h.b.trans (hb.mono h.b.size)⟩
theorem PlR.bad {L b : List Lt} {w wr : World} {k : Nat} {a : Option Addr} {M : List Lt} (h : PlR L b w wr k a M) (hk : k < b.length) {E : Nat} (he : addE M b[k] = E) (hE : E ≠ 0) : MgP L b w (.returned (.tuple #[.slice none 0 0, .int .i64 E])) wr := by
  subst he
  have h2 := h.e
  rw [List.drop_eq_getElem_cons hk] at h2
  exact MgP.bad h2 hE h.b
theorem PlR.next {L b : List Lt} {w wr w' : World} {k : Nat} {a a' : Option Addr} {M : List Lt} (h : PlR L b w wr k a M) (hk : k < b.length) (he : addE M b[k] = 0) (hb : Below wr.heap.size wr w') (hr : Rw 2 lcs w' a' (addL M b[k])) : PlR L b w w' (k + 1) a' (addL M b[k]) := by
  have h2 := h.e
  rw [List.drop_eq_getElem_cons hk, mrg_cons, if_pos he] at h2
  exact ⟨hr, h.g.add he, h2, h.b.trans (hb.mono h.b.size)⟩
set_option maxHeartbeats 16000000 in
theorem rplus (L b : List Lt) (gL : Good L) (hl : b.length ≤ 1000000) (hq : ∀ x ∈ b, okq x.n) (a : Option Addr) (cap : Nat) (a2 : Option Addr) (cap2 : Nat) (w : World) (h : Rw 2 lcs w a L) (h2 : Rw 2 lcs w a2 b) : Calls Try.prog 16 #[.slice a L.length cap, .slice a2 b.length cap2] w (MgP L b w) := by
  have HE : Hid (Rw 2 lcs w a2 b) := h2
  have HQ : Hid (∀ x ∈ b, okq x.n) := hq
  have hlz : (b.length : Int) ≤ 1000000 := by omega
  have HS0 : Hid (PlR L b w w 0 a L) := ⟨h, gL, rfl, Below.refl _ _⟩
  clear h h2 hq gL
  go_enter Try.func16, Try.ntmps16
  go_wp2_with fail
  go_loopw [6, 7] (fun s i wr => ∃ (k : Nat) (a : Option Addr) (M : List Lt) (cap : Nat), k ≤ b.length ∧ Value.slice a M.length cap = s ∧ i = .int .i64 k ∧ Hid (PlR L b w wr k a M))
    (fun _ i _ => b.length - (intOf i).toNat)
  case atStart => exact ⟨0, a, L, cap, Nat.zero_le _, rfl, rfl, HS0.out⟩
  case round =>
    clear HS0
    obtain ⟨k, a1, M, cap1, hk, rfl, rfl, HR⟩ := hrel
    by_cases hkn : k < b.length
    · have hkz : (k : Int) < (b.length : Int) := by omega
      obtain ⟨blk, off, rfl, hbl, hcs⟩ := HE.out (by omega)
      obtain ⟨c0, c1⟩ := Rw.at2 hcs HR.out.b hbl hkn
      have HK1 : Hid (∀ W, Below wr.heap.size wr W → W.cell? ⟨blk, off + k * 2, none⟩ = some (.string b[k].i) ∧ W.cell? ⟨blk, off + k * 2 + 1, none⟩ = some (.int .i64 b[k].n)) := fun W hb => Rw.at2 hcs (HR.out.b.trans (hb.mono HR.out.b.size)) hbl hkn
      have hkey : key b[k] = b[k].i.toList := rfl
      have HC : Hid (Calls Try.prog 23 #[.slice a1 M.length cap1, .string b[k].i] wr (QtP M (key b[k]) wr)) := rqty M (by have := HR.out.g.len; omega) b[k].i a1 cap1 wr HR.out.r
      have hqr := qty_ok HR.out.g.ok (key b[k])
      have hxq := HQ.out _ (List.getElem_mem hkn)
      have hM64 := HR.out.g.len
      have hM64z : (M.length : Int) ≤ 64 := by omega
      have hw1 : wrap64 (1125899906842624 - qty M (key b[k])) = 1125899906842624 - qty M (key b[k]) := by unfold wrap64; omega
      have hw2 : IntKind.i64.wrap (1125899906842624 - qty M (key b[k])) = 1125899906842624 - qty M (key b[k]) := by rw [IntKind.wrap_i64]; omega
      have HSet : Hid (addE M b[k] = 0 → ∀ W, Below wr.heap.size wr W → Calls Try.prog 43 #[.slice a1 M.length cap1, .string b[k].i, .int .i64 (qty M (key b[k]) + b[k].n)] W fun e w' => ∃ a' cap', e = .returned (.slice a' (addL M b[k]).length cap') ∧ Hid (PlR L b w w' (k + 1) a' (addL M b[k]) ∧ Below wr.heap.size wr w')) := fun he W hb => by
        refine (rset M (by omega) ⟨b[k].i, qty M (key b[k]) + b[k].n⟩ a1 cap1 W (HR.out.r.below hb)).mono ?_
        rintro e w' ⟨a', cap', rfl, HZ⟩
        have e0 : decide ((⟨b[k].i, qty M (key b[k]) + b[k].n⟩ : Lt).n = 0) = false := decide_eq_false (by show ¬ (qty M (key b[k]) + b[k].n = 0); unfold okq at hxq; omega)
        rw [e0] at HZ ⊢
        exact ⟨a', cap', rfl, HR.out.next hkn he (hb.trans (HZ.out.2.mono hb.size)) HZ.out.1, hb.trans (HZ.out.2.mono hb.size)⟩
      by_cases hf : qty M (key b[k]) = 0 ∧ 64 ≤ M.length
      · have hE : addE M b[k] = 2 := addE_full hxq hf.1 hf.2
        have HF : Hid (∀ W, Below wr.heap.size wr W → MgP L b w (.returned (.tuple #[.slice none 0 0, .int .i64 2])) W) := fun W hb => (HR.out.below hb).bad hkn hE (by decide)
        have hqz := hf.1
        have hfz : (64 : Int) ≤ (M.length : Int) := by omega
        unfold QtP at HC
        rw [hqz] at HC
        clear HR HSet hcs HK1 hw1 hw2 hqr hxq hE hf hM64
        generalize key b[k] = ky at *
        generalize b[k] = x at *
        obtain ⟨xi, xn⟩ := x
        simp only at *
        go_wp2_with (go_at_call 23; refine HC.out.mono ?_; clear HC; rintro e w2 ⟨rfl, hb2⟩)
        go_ret2
        exact HF.out _ hb2
      · by_cases ho : b[k].n > 1125899906842624 - qty M (key b[k])
        · have hE : addE M b[k] = 9 := by unfold addE; rw [if_pos hxq, if_neg hf, if_pos ho]
          have HF : Hid (∀ W, Below wr.heap.size wr W → MgP L b w (.returned (.tuple #[.slice none 0 0, .int .i64 9])) W) := fun W hb => (HR.out.below hb).bad hkn hE (by decide)
          have hoz : 1125899906842624 - qty M (key b[k]) < b[k].n := ho
          by_cases hqz : qty M (key b[k]) = 0
          · have hfz : ¬ (64 : Int) ≤ (M.length : Int) := by omega
            have hq0 : (qty M (key b[k]) == 0) = true := by simpa using hqz
            replace hqz := hid_in hqz
            clear HR HSet hcs hqr hxq hE ho hM64 hf
            unfold QtP at HC
            generalize hky : key b[k] = ky at *
            clear hky hqz
            generalize qty M ky = q at *
            generalize b[k] = x at *
            obtain ⟨xi, xn⟩ := x
            simp only at *
            go_wp2_with (go_at_call 23; refine HC.out.mono ?_; clear HC; rintro e w2 ⟨rfl, hb2⟩; obtain ⟨d0, d1⟩ := HK1.out w2 hb2; clear HK1)
            go_ret2
            exact HF.out _ hb2
          · have hq0 : (qty M (key b[k]) == 0) = false := by simpa using hqz
            replace hqz := hid_in hqz
            clear HR HSet hcs hqr hxq hE ho hM64 hf
            unfold QtP at HC
            generalize hky : key b[k] = ky at *
            clear hky hqz
            generalize qty M ky = q at *
            generalize b[k] = x at *
            obtain ⟨xi, xn⟩ := x
            simp only at *
            go_wp2_with (go_at_call 23; refine HC.out.mono ?_; clear HC; rintro e w2 ⟨rfl, hb2⟩; obtain ⟨d0, d1⟩ := HK1.out w2 hb2; clear HK1)
            go_ret2
            exact HF.out _ hb2
        · have hE : addE M b[k] = 0 := addE_iff hxq hf ho
          have HT := hid_in (HSet.out hE)
          have hoz : ¬ 1125899906842624 - qty M (key b[k]) < b[k].n := ho
          have hs1 : wrap64 (qty M (key b[k]) + b[k].n) = qty M (key b[k]) + b[k].n := by unfold okq at hxq; unfold wrap64; omega
          have hs2 : IntKind.i64.wrap (qty M (key b[k]) + b[k].n) = qty M (key b[k]) + b[k].n := by unfold okq at hxq; rw [IntKind.wrap_i64]; omega
          by_cases hqz : qty M (key b[k]) = 0
          · have hfz : ¬ (64 : Int) ≤ (M.length : Int) := by omega
            have hq0 : (qty M (key b[k]) == 0) = true := by simpa using hqz
            replace hqz := hid_in hqz
            clear HR HSet hcs hqr hxq hE ho hM64 hf
            unfold QtP at HC
            generalize hmm : addL M b[k] = M2 at *
            clear hmm
            generalize hky : key b[k] = ky at *
            clear hky hqz
            generalize qty M ky = q at *
            generalize b[k] = x at *
            obtain ⟨xi, xn⟩ := x
            simp only at *
            go_upto_region 10 with (go_at_call 23; refine HC.out.mono ?_; clear HC; rintro e w2 ⟨rfl, hb2⟩; obtain ⟨d0, d1⟩ := HK1.out w2 hb2)
            have HQ2 : Hid (∀ q, Below wr.heap.size wr (w2.drewN q)) := fun q => below_q hb2 q
            have HB2 : Hid (Below wr.heap.size wr w2) := hb2
            have HKS : Hid (∀ q w', Below (w2.drewN q).heap.size (w2.drewN q) w' → w'.cell? ⟨blk, off + k * 2, none⟩ = some (.string xi) ∧ w'.cell? ⟨blk, off + k * 2 + 1, none⟩ = some (.int .i64 xn)) := fun q w' hb => HK1.out w' ((HQ2.out q).trans (hb.mono (HQ2.out q).size))
            clear hb2
            go_region_held3 (fun w' => w'.cell? ⟨blk, off + k * 2, none⟩ = some (.string xi) ∧ w'.cell? ⟨blk, off + k * 2 + 1, none⟩ = some (.int .i64 xn)) (first | go_keep | exact HKS3.out) (first | (go_at_call 43; go_must (refine (HT.out _ (HQ2.out _)).mono ?_; rintro e w3 ⟨a3, cap3, rfl, HZ3⟩; have HKS3 : Hid (w3.cell? ⟨blk, off + k * 2, none⟩ = some (.string xi) ∧ w3.cell? ⟨blk, off + k * 2 + 1, none⟩ = some (.int .i64 xn)) := HK1.out _ HZ3.out.2)))
            go_wp2_with fail
            go_roundw
            case rel => exact ⟨k + 1, a3, M2, cap3, by omega, rfl, by simp, HZ3.out.1⟩
            case measure => simp [intOf]; omega
          · have hq0 : (qty M (key b[k]) == 0) = false := by simpa using hqz
            replace hqz := hid_in hqz
            clear HR HSet hcs hqr hxq hE ho hM64 hf
            unfold QtP at HC
            generalize hmm : addL M b[k] = M2 at *
            clear hmm
            generalize hky : key b[k] = ky at *
            clear hky hqz
            generalize qty M ky = q at *
            generalize b[k] = x at *
            obtain ⟨xi, xn⟩ := x
            simp only at *
            go_upto_region 10 with (go_at_call 23; refine HC.out.mono ?_; clear HC; rintro e w2 ⟨rfl, hb2⟩; obtain ⟨d0, d1⟩ := HK1.out w2 hb2)
            have HQ2 : Hid (∀ q, Below wr.heap.size wr (w2.drewN q)) := fun q => below_q hb2 q
            have HB2 : Hid (Below wr.heap.size wr w2) := hb2
            have HKS : Hid (∀ q w', Below (w2.drewN q).heap.size (w2.drewN q) w' → w'.cell? ⟨blk, off + k * 2, none⟩ = some (.string xi) ∧ w'.cell? ⟨blk, off + k * 2 + 1, none⟩ = some (.int .i64 xn)) := fun q w' hb => HK1.out w' ((HQ2.out q).trans (hb.mono (HQ2.out q).size))
            clear hb2
            go_region_held3 (fun w' => w'.cell? ⟨blk, off + k * 2, none⟩ = some (.string xi) ∧ w'.cell? ⟨blk, off + k * 2 + 1, none⟩ = some (.int .i64 xn)) (first | go_keep | exact HKS3.out) (first | (go_at_call 43; go_must (refine (HT.out _ (HQ2.out _)).mono ?_; rintro e w3 ⟨a3, cap3, rfl, HZ3⟩; have HKS3 : Hid (w3.cell? ⟨blk, off + k * 2, none⟩ = some (.string xi) ∧ w3.cell? ⟨blk, off + k * 2 + 1, none⟩ = some (.int .i64 xn)) := HK1.out _ HZ3.out.2)))
            go_wp2_with fail
            go_roundw
            case rel => exact ⟨k + 1, a3, M2, cap3, by omega, rfl, by simp, HZ3.out.1⟩
            case measure => simp [intOf]; omega
    · have hkz : ¬ (k : Int) < (b.length : Int) := by omega
      have HF : Hid (MgP L b w (.returned (.tuple #[.slice a1 M.length cap1, .int .i64 0])) wr) := MgP.done (by have := HR.out.e; rwa [List.drop_eq_nil_of_le (by omega)] at this) HR.out.r HR.out.b
      clear HR
      go_wp2_with fail
      go_ret2
      exact HF.out
end Go.Proofs.Ytheikjjehidagaa

/- layer 17: lots put together, by the document, one by one -/
namespace Go.Proofs.Ytheikjjehidagaa
open Go.RowKit
set_option linter.unusedVariables false
set_option linter.unusedSimpArgs false
set_option maxRecDepth 20000
theorem Rw.one {w : World} {blk off : Nat} {L : List Lt} (h : ∀ i (h : i < L.length), ∀ j, j < 2 → w.cell? ⟨blk, off + i * 2 + j, none⟩ = (lcs L[i])[j]?) {k : Nat} (hk : k < L.length) (hl : blk < w.heap.size) : Rw 2 lcs w (some ⟨blk, off + k * 2, none⟩) [L[k]] := by
  intro _
  refine ⟨blk, off + k * 2, rfl, hl, fun i hi j hj => ?_⟩
  obtain rfl : i = 0 := by simp at hi; omega
  have := h k hk j hj
  simpa using this
theorem mrg_one (M : List Lt) (x : Lt) : mrg M [x] = if addE M x = 0 then (addL M x, 0) else ([], addE M x) := by
  rw [mrg_cons]
  split <;> rfl
theorem addE_bad {M : List Lt} {x : Lt} (h : ¬ okq x.n) : addE M x = 1 := by unfold addE; rw [if_neg h]
set_option maxHeartbeats 16000000 in
theorem rmerge (l : List Lt) (hl : l.length ≤ 1000000) (a : Option Addr) (cap : Nat) (hc : l.length ≤ cap) (w : World) (h : Rw 2 lcs w a l) : Calls Try.prog 12 #[.slice a l.length cap] w (MgP [] l w) := by
  have HE : Hid (Rw 2 lcs w a l) := h
  have hlz : (l.length : Int) ≤ 1000000 := by omega
  clear h
  go_enter Try.func12, Try.ntmps12
  go_wp2_with fail
  go_loopw [4, 5] (fun s i wr => ∃ (k : Nat) (a : Option Addr) (M : List Lt) (cap : Nat), k ≤ l.length ∧ Value.slice a M.length cap = s ∧ i = .int .i64 k ∧ Hid (PlR [] l w wr k a M))
    (fun _ i _ => l.length - (intOf i).toNat)
  case atStart => exact ⟨0, none, [], 0, Nat.zero_le _, rfl, rfl, Rw.nil, Good.nil, rfl, Below.refl _ _⟩
  case round =>
    obtain ⟨k, a1, M, cap1, hk, rfl, rfl, HR⟩ := hrel
    by_cases hkn : k < l.length
    · have hkz : (k : Int) < (l.length : Int) := by omega
      have hk1 : (k : Int) + 1 ≤ (cap : Int) := by omega
      have hk2 : (k : Int) + 1 ≤ 9223372036854775807 := by omega
      have hk3 : (k : Int) ≤ (cap : Int) := by omega
      have hkc : k < cap := by omega
      obtain ⟨blk, off, rfl, hbl, hcs⟩ := HE.out (by omega)
      obtain ⟨c0, c1⟩ := Rw.at2 hcs HR.out.b hbl hkn
      have HG : Hid (∀ w, Calls Try.prog 40 #[.int .i64 l[k].n] w (BoP (decide (okq l[k].n)) w)) := fun w => rgoodq _ w
      have h1 : Rw 2 lcs wr (some ⟨blk, off + k * 2, none⟩) [l[k]] := (Rw.one hcs hkn hbl).below HR.out.b
      have hM64 := HR.out.g.len
      by_cases hq : okq l[k].n
      · rw [decide_eq_true hq] at HG
        have HC : Hid (∀ c2, Calls Try.prog 16 #[.slice a1 M.length cap1, .slice (some ⟨blk, off + k * 2, none⟩) 1 c2] wr (MgP M [l[k]] wr)) := fun c2 => rplus M [l[k]] HR.out.g (by simp) (by simpa using hq) a1 cap1 _ c2 wr HR.out.r h1
        by_cases he : addE M l[k] = 0
        · have HC2 : Hid (∀ c2, Calls Try.prog 16 #[.slice a1 M.length cap1, .slice (some ⟨blk, off + k * 2, none⟩) 1 c2] wr fun e w' => ∃ a' cap', e = .returned (.tuple #[.slice a' (addL M l[k]).length cap', .int .i64 0]) ∧ Hid (PlR [] l w w' (k + 1) a' (addL M l[k]))) := fun c2 => by
            refine (HC.out c2).mono ?_
            rintro e w' ⟨a', cap', rfl, HZ⟩
            have e1 : mrg M [l[k]] = (addL M l[k], 0) := by rw [mrg_one, if_pos he]
            rw [e1] at HZ ⊢
            exact ⟨a', cap', rfl, HR.out.next hkn he HZ.out.2 HZ.out.1⟩
          clear HC HR hcs h1 hq he hM64
          generalize addL M l[k] = M2 at *
          generalize l[k] = x at *
          obtain ⟨xi, xn⟩ := x
          simp only at *
          go_wp2_with (first | (go_at_call 40; refine (HG.out _).mono ?_; rintro e w3 ⟨rfl, rfl⟩) | (go_at_call 16; refine (HC2.out _).mono ?_; clear HC2; rintro e w2 ⟨a2, cap2, rfl, HZ⟩))
          go_roundw
          case rel => exact ⟨k + 1, a2, M2, cap2, by omega, rfl, by simp, HZ.out⟩
          case measure => simp [intOf]; omega
        · have HC2 : Hid (∀ c2, Calls Try.prog 16 #[.slice a1 M.length cap1, .slice (some ⟨blk, off + k * 2, none⟩) 1 c2] wr fun e w' => ∃ a' cap', e = .returned (.tuple #[.slice a' 0 cap', .int .i64 (addE M l[k])]) ∧ Hid (MgP [] l w (.returned (.tuple #[.slice none 0 0, .int .i64 (addE M l[k])])) w')) := fun c2 => by
            refine (HC.out c2).mono ?_
            rintro e w' ⟨a', cap', rfl, HZ⟩
            have e1 : mrg M [l[k]] = ([], addE M l[k]) := by rw [mrg_one, if_neg he]
            rw [e1] at HZ ⊢
            exact ⟨a', cap', rfl, (HR.out.below HZ.out.2).bad hkn rfl he⟩
          have hez : ((addE M l[k] : Nat) : Int) ≠ 0 := by omega
          clear HC HR hcs h1 hq he hM64
          generalize addE M l[k] = E at *
          generalize l[k] = x at *
          obtain ⟨xi, xn⟩ := x
          simp only at *
          have hez2 : (((E : Int)) != 0) = true := by simpa using hez
          go_wp2_with (first | (go_at_call 40; refine (HG.out _).mono ?_; rintro e w3 ⟨rfl, rfl⟩) | (go_at_call 16; refine (HC2.out _).mono ?_; clear HC2; rintro e w2 ⟨a2, cap2, rfl, HZ⟩))
          go_ret2
          exact HZ.out
      · rw [decide_eq_false hq] at HG
        have HF : Hid (MgP [] l w (.returned (.tuple #[.slice none 0 0, .int .i64 1])) wr) := HR.out.bad hkn (addE_bad hq) (by decide)
        clear HR hcs h1 hq hM64
        generalize l[k] = x at *
        obtain ⟨xi, xn⟩ := x
        simp only at *
        go_wp2_with (go_at_call 40; refine (HG.out _).mono ?_; rintro e w3 ⟨rfl, rfl⟩)
        go_ret2
        exact HF.out
    · have hkz : ¬ (k : Int) < (l.length : Int) := by omega
      have HF : Hid (MgP [] l w (.returned (.tuple #[.slice a1 M.length cap1, .int .i64 0])) wr) := MgP.done (by have := HR.out.e; rwa [List.drop_eq_nil_of_le (by omega)] at this) HR.out.r HR.out.b
      clear HR
      go_wp2_with fail
      go_ret2
      exact HF.out
end Go.Proofs.Ytheikjjehidagaa
