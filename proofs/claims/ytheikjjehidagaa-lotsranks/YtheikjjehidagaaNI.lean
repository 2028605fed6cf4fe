/- layer 17: one of a list set; lots put together, by the document -/
import Derived.Test.YtheikjjehidagaaNE
import Derived.WalkKit
import Derived.ProofKit
import Derived.Handy
import Derived.WalkLawsBesides
import Derived.WalkSpells
import Derived.BigQuiet
import Derived.BigCall
import Derived.Deep.QuietTactic
import Derived.Deep.Light
import Derived.Deep.OwnRows
import Derived.Laws.AppendOwnNone
import Derived.Laws.Strings3
import Derived.Laws.RangeAny
import Derived.Deep.RegionWith
import Derived.Lib.BitFns
import Derived.Lib.Walk
import Derived.Lib.Strings
import Derived.Lib.OthersKept
import Derived.Deep.CutBlock
import Derived.Deep.DeepCutAuto
import Derived.Deep.LoopGhost
import Derived.Deep.RegionHeld3
import Derived.Lib.SmallJoins
import Derived.Maps.AppendAt
import Derived.Laws.IdiomStrings
import Derived.Lib.AppendZeros
import Derived.Deep.WholeRow
import Derived.Laws.BitsAllLaws
import Derived.Lib.ConvBytes
import Derived.Deep.RegionLaw
import Derived.Maps.OwnSet
import Derived.Maps.OwnOps
import Derived.Maps.RangeWalk
import Derived.Maps.Ext
import Derived.DeepKeys4
import Derived.Laws.StructEq
import Derived.Deep.MidRow
import Derived.Lib.Bytealg
import Derived.Lib.AppendZerosOnto
import Derived.Laws.MakeOwn
import Derived.Deep.Upon
import Derived.Sort.KeysCollected
namespace Go.Proofs.Ytheikjjehidagaa
open Go.RowKit
set_option linter.unusedVariables false
set_option linter.unusedSimpArgs false
set_option maxRecDepth 20000
def SeP (M : List Lt) (w : World) (e : Ending) (w' : World) : Prop := ∃ a cap, e = .returned (.slice a M.length cap) ∧ Hid (Rw 2 lcs w' a M ∧ Below w.heap.size w w')
theorem bs_ge {x y : ByteArray} (h : ¬ x.toList < y.toList) : Op.bytesLess x.toList y.toList = false := by rw [bl_eq]; exact decide_eq_false h
theorem bs_ne {x y : ByteArray} (h : ¬ x.toList = y.toList) : (x.toList == y.toList) = false ∧ (x.toList != y.toList) = true := by
  have : (x.toList == y.toList) = false := by rw [beq_eq_false_iff_ne]; exact h
  exact ⟨this, by unfold bne; rw [this]; rfl⟩
theorem bs_is {x y : ByteArray} (h : x.toList = y.toList) : (x.toList == y.toList) = true ∧ (x.toList != y.toList) = false := by
  have : (x.toList == y.toList) = true := by rw [beq_iff_eq]; exact h
  exact ⟨this, by unfold bne; rw [this]; rfl⟩
/-- the round of Set -/
def SeR (L : List Lt) (m : Lt) (w wr : World) (k : Nat) (v : Value) (d : Bool) : Prop := ∃ O : List Lt, Ol w.heap.size wr v O ∧ O ++ setR m d (L.drop k) = setR m (decide (m.n = 0)) L ∧ Below w.heap.size w wr ∧ O.length ≤ 2 * k
theorem setR_cons (m : Lt) (d : Bool) (x : Lt) (r : List Lt) : setR m d (x :: r) = ((if d = false ∧ ¬ key x < key m then [m] else []) ++ if key x = key m then [] else [x]) ++ setR m (d || !decide (key x < key m)) r := rfl
/-- nothing put ahead -/
theorem SeR.same {L : List Lt} {m : Lt} {w wr : World} {k : Nat} {v : Value} {d : Bool} (h : SeR L m w wr k v d) (hk : k < L.length) (hd : d = true ∨ key L[k] < key m) (he : key L[k] = key m) : SeR L m w wr (k + 1) v d := by
  obtain ⟨O, h1, h2, h3, h4⟩ := h
  refine ⟨O, h1, ?_, h3, by omega⟩
  rw [List.drop_eq_getElem_cons hk, setR_cons, if_pos he, if_neg (by rintro ⟨e1, e2⟩; rcases hd with e | e; rw [e1] at e; cases e; exact e2 e)] at h2
  rw [← h2]
  have : (d || !decide (key L[k] < key m)) = d := by
    rcases hd with e | e
    · rw [e]; rfl
    · rw [decide_eq_true e]; simp
  rw [this]
  simp
theorem SeR.put {L : List Lt} {m : Lt} {w wr : World} {k : Nat} {v : Value} {d : Bool} (h : SeR L m w wr k v d) (hL : L.length ≤ 1000) (hk : k < L.length) (hd : d = true ∨ key L[k] < key m) (he : ¬ key L[k] = key m) :
    ∃ v' w6, (Builtin.append_ #[22, 22] 22 #[v, .slice (some ⟨wr.heap.size, 0, none⟩) 1 1]).run Try.prog (wr.alloc (.cells #[.string L[k].i, .int .i64 L[k].n] 43)) = .ok v' w6 ∧ Hid (SeR L m w w6 (k + 1) v' d) := by
  obtain ⟨O, h1, h2, h3, h4⟩ := h
  obtain ⟨v', w6, hr, HZ⟩ := ap_lot h1 h3.size (by omega) L[k] (Below.refl _ wr)
  refine ⟨v', w6, hr, O ++ [L[k]], HZ.out.o, ?_, h3.trans (HZ.out.below h1 h3.size), by simp; omega⟩
  rw [List.drop_eq_getElem_cons hk, setR_cons, if_neg he, if_neg (by rintro ⟨e1, e2⟩; rcases hd with e | e; rw [e1] at e; cases e; exact e2 e)] at h2
  rw [← h2]
  have : (d || !decide (key L[k] < key m)) = d := by
    rcases hd with e | e
    · rw [e]; rfl
    · rw [decide_eq_true e]; simp
  rw [this]
  simp
/-- put ahead -/
theorem SeR.new {L : List Lt} {m : Lt} {w wr : World} {k : Nat} {v : Value} (h : SeR L m w wr k v false) (hL : L.length ≤ 1000) (hk : k < L.length) (hd : ¬ key L[k] < key m) :
    ∃ v' w6, (Builtin.append_ #[22, 22] 22 #[v, .slice (some ⟨wr.heap.size, 0, none⟩) 1 1]).run Try.prog (wr.alloc (.cells #[.string m.i, .int .i64 m.n] 43)) = .ok v' w6 ∧ Below w.heap.size w w6 ∧ (key L[k] = key m → SeR L m w w6 (k + 1) v' true) ∧
      (¬ key L[k] = key m → ∃ v2 w7, (Builtin.append_ #[22, 22] 22 #[v', .slice (some ⟨w6.heap.size, 0, none⟩) 1 1]).run Try.prog (w6.alloc (.cells #[.string L[k].i, .int .i64 L[k].n] 43)) = .ok v2 w7 ∧ Hid (SeR L m w w7 (k + 1) v2 true)) := by
  obtain ⟨O, h1, h2, h3, h4⟩ := h
  obtain ⟨v', w6, hr, HZ⟩ := ap_lot h1 h3.size (by omega) m (Below.refl _ wr)
  have hb6 := h3.trans (HZ.out.below h1 h3.size)
  have e0 : (false || !decide (key L[k] < key m)) = true := by rw [decide_eq_false hd]; rfl
  refine ⟨v', w6, hr, hb6, fun he => ⟨O ++ [m], HZ.out.o, ?_, hb6, by simp; omega⟩, fun he => ?_⟩
  · rw [List.drop_eq_getElem_cons hk, setR_cons, if_pos he, if_pos ⟨rfl, hd⟩, e0] at h2
    rw [← h2]
    simp
  · obtain ⟨v2, w7, hr2, HZ2⟩ := ap_lot HZ.out.o hb6.size (by simp; omega) L[k] (Below.refl _ w6)
    refine ⟨v2, w7, hr2, O ++ [m] ++ [L[k]], HZ2.out.o, ?_, hb6.trans (HZ2.out.below HZ.out.o hb6.size), by simp; omega⟩
    rw [List.drop_eq_getElem_cons hk, setR_cons, if_neg he, if_pos ⟨rfl, hd⟩, e0] at h2
    rw [← h2]
    simp
theorem SeR.last {L : List Lt} {m : Lt} {w wr : World} {k : Nat} {v : Value} (h : SeR L m w wr k v false) (hL : L.length ≤ 1000) (hk : k = L.length) :
    ∃ v' w6, (Builtin.append_ #[22, 22] 22 #[v, .slice (some ⟨wr.heap.size, 0, none⟩) 1 1]).run Try.prog (wr.alloc (.cells #[.string m.i, .int .i64 m.n] 43)) = .ok v' w6 ∧ Hid (SeP (setR m (decide (m.n = 0)) L) w (.returned v') w6) := by
  obtain ⟨O, h1, h2, h3, h4⟩ := h
  obtain ⟨v', w6, hr, HZ⟩ := ap_lot h1 h3.size (by omega) m (Below.refl _ wr)
  have hb6 := h3.trans (HZ.out.below h1 h3.size)
  rw [List.drop_eq_nil_of_le (by omega)] at h2
  have e : O ++ [m] = setR m (decide (m.n = 0)) L := h2
  rw [← e]
  obtain ⟨a', cap', rfl, _, hr2⟩ := Ol.read HZ.out.o
  exact ⟨_, w6, hr, a', cap', rfl, hr2, hb6⟩
theorem SeR.end {L : List Lt} {m : Lt} {w wr : World} {k : Nat} {v : Value} (h : SeR L m w wr k v true) (hk : k = L.length) : SeP (setR m (decide (m.n = 0)) L) w (.returned v) wr := by
  obtain ⟨O, h1, h2, h3, h4⟩ := h
  rw [List.drop_eq_nil_of_le (by omega)] at h2
  have e : O = setR m (decide (m.n = 0)) L := by rw [← h2]; simp [setR]
  rw [← e]
  obtain ⟨a', cap', rfl, _, hr2⟩ := Ol.read h1
  exact ⟨a', cap', rfl, hr2, h3⟩
set_option maxHeartbeats 16000000 in
theorem rset (L : List Lt) (hl : L.length ≤ 1000) (m : Lt) (a : Option Addr) (cap : Nat) (w : World) (h : Rw 2 lcs w a L) : Calls Try.prog 43 #[.slice a L.length cap, .string m.i, .int .i64 m.n] w (SeP (setR m (decide (m.n = 0)) L) w) := by
  have HE : Hid (Rw 2 lcs w a L) := h
  have HL : Hid (L.length ≤ 1000) := hl
  have hlz : (L.length : Int) ≤ 1000000 := by omega
  obtain ⟨d0, hd0⟩ : ∃ d0, d0 = decide (m.n = 0) := ⟨_, rfl⟩
  have HS0 : Hid (SeR L m w w 0 (.slice none 0 0) d0) := ⟨[], World.ownsRow_nil _ _ _ _, by rw [hd0]; rfl, Below.refl _ _, Nat.zero_le _⟩
  have hd1 : (m.n == 0) = d0 := by rw [hd0]; rfl
  clear h hd0 hl
  obtain ⟨mi, mn⟩ := m
  simp only at *
  go_enter Try.func43, Try.ntmps43
  go_wp2_with fail
  go_loopw [7, 8, 9] (fun s d i wr => ∃ (k : Nat) (v : Value) (b : Bool), k ≤ L.length ∧ v = s ∧ d = .bool b ∧ i = .int .i64 k ∧ Hid (SeR L ⟨mi, mn⟩ w wr k v b))
    (fun _ _ i _ => L.length - (intOf i).toNat)
  case atStart => exact ⟨0, _, d0, Nat.zero_le _, rfl, rfl, rfl, HS0.out⟩
  case round =>
    clear HS0 hd1
    obtain ⟨k, v, b, hk, rfl, rfl, rfl, HR⟩ := hrel
    by_cases hkn : k < L.length
    · have hkz : (k : Int) < (L.length : Int) := by omega
      obtain ⟨blk, off, rfl, hbl, hcs⟩ := HE.out (by omega)
      have HB : Hid (Below w.heap.size w wr) := let ⟨_, _, _, h, _⟩ := HR.out; h
      obtain ⟨c0, c1⟩ := Rw.at2 hcs HB.out hbl hkn
      have HK1 : Hid (∀ W, Below w.heap.size w W → W.cell? ⟨blk, off + k * 2, none⟩ = some (.string L[k].i) ∧ W.cell? ⟨blk, off + k * 2 + 1, none⟩ = some (.int .i64 L[k].n)) := fun W hb => Rw.at2 hcs hb hbl hkn
      have hkey : key L[k] = L[k].i.toList := rfl
      have hkey2 : key ⟨mi, mn⟩ = mi.toList := rfl
      cases b with
      | true =>
        by_cases he : L[k].i.toList = mi.toList
        · have HZ := hid_in (HR.out.same hkn (.inl rfl) he)
          obtain ⟨b1, b2⟩ := bs_is he
          clear HR HB HK1 hcs he hkey hkey2
          generalize L[k] = x at *
          obtain ⟨xi, xn⟩ := x
          simp only at *
          go_wp2_with fail
          go_roundw
          case rel => exact ⟨k + 1, v, true, by omega, rfl, rfl, by simp, HZ.out⟩
          case measure => simp [intOf]; omega
        · obtain ⟨v', w6, hr6, HZ⟩ := HR.out.put HL.out hkn (.inl rfl) he
          obtain ⟨b1, b2⟩ := bs_ne he
          clear HR HB HK1 hcs he hkey hkey2
          generalize L[k] = x at *
          obtain ⟨xi, xn⟩ := x
          simp only at *
          go_wp2_with (at_builtin; refine Lib.wpList_append_run _ rfl _ _ 22 22 rfl _ _ rfl rfl _ w6 hr6 ?_)
          go_roundw
          case rel => exact ⟨k + 1, v', true, by omega, rfl, rfl, by simp, HZ.out⟩
          case measure => simp [intOf]; omega
      | false =>
        by_cases hlt : L[k].i.toList < mi.toList
        · obtain ⟨b1, b2, b3, b4⟩ := bs_lt hlt
          have he : ¬ L[k].i.toList = mi.toList := fun e => by rw [e] at hlt; exact lt_ir _ hlt
          obtain ⟨b5, b6⟩ := bs_ne he
          obtain ⟨v', w6, hr6, HZ⟩ := HR.out.put HL.out hkn (.inr hlt) he
          clear HR HB HK1 hcs he hkey hkey2 hlt
          generalize L[k] = x at *
          obtain ⟨xi, xn⟩ := x
          simp only at *
          go_wp2_with (at_builtin; refine Lib.wpList_append_run _ rfl _ _ 22 22 rfl _ _ rfl rfl _ w6 hr6 ?_)
          go_roundw
          case rel => exact ⟨k + 1, v', false, by omega, rfl, rfl, by simp, HZ.out⟩
          case measure => simp [intOf]; omega
        · have b3 := bs_ge hlt
          obtain ⟨v', w6, hr6, hb6, k1, k2⟩ := HR.out.new HL.out hkn hlt
          obtain ⟨e0, e1⟩ := HK1.out w6 hb6
          by_cases he : L[k].i.toList = mi.toList
          · have HZ := hid_in (k1 he)
            obtain ⟨b1, b2⟩ := bs_is he
            clear HR HB HK1 hcs he hkey hkey2 hlt k1 k2 hb6
            generalize L[k] = x at *
            obtain ⟨xi, xn⟩ := x
            simp only at *
            go_wp2_with (at_builtin; refine Lib.wpList_append_run _ rfl _ _ 22 22 rfl _ _ rfl rfl _ w6 hr6 ?_)
            go_roundw
            case rel => exact ⟨k + 1, v', true, by omega, rfl, rfl, by simp, HZ.out⟩
            case measure => simp [intOf]; omega
          · obtain ⟨v2, w7, hr7, HZ⟩ := k2 he
            obtain ⟨b1, b2⟩ := bs_ne he
            clear HR HB HK1 hcs he hkey hkey2 hlt k1 k2 hb6
            generalize L[k] = x at *
            obtain ⟨xi, xn⟩ := x
            simp only at *
            go_wp2_with (at_builtin; first | (refine Lib.wpList_append_run _ rfl _ _ 22 22 rfl _ _ rfl rfl _ w6 hr6 ?_; clear hr6) | (refine Lib.wpList_append_run _ rfl _ _ 22 22 rfl _ _ rfl rfl _ w7 hr7 ?_))
            go_roundw
            case rel => exact ⟨k + 1, v2, true, by omega, rfl, rfl, by simp, HZ.out⟩
            case measure => simp [intOf]; omega
    · have hkz : ¬ (k : Int) < (L.length : Int) := by omega
      have hke : k = L.length := by omega
      cases b with
      | true =>
        have HZ := hid_in (HR.out.end hke)
        clear HR hke
        go_wp2_with fail
        go_ret
        exact HZ.out
      | false =>
        obtain ⟨v', w6, hr6, HZ⟩ := HR.out.last HL.out hke
        clear HR hke
        simp only at *
        go_wp2_with (at_builtin; refine Lib.wpList_append_run _ rfl _ _ 22 22 rfl _ _ rfl rfl _ w6 hr6 ?_)
        go_ret
        exact HZ.out
end Go.Proofs.Ytheikjjehidagaa
