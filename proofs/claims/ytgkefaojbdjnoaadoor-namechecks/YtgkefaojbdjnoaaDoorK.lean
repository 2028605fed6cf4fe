/- The walks of fill and Fit. Condition: the text has at most 2 to the 45th bytes. -/
import Derived.Test.YtgkefaojbdjnoaaDoorI
import Derived.WalkKit
import Derived.ProofKit
import Derived.Handy
import Derived.WalkLawsBesides
import Derived.WalkSpells
import Derived.BigQuiet
import Derived.BigCall
import Derived.Deep.QuietTactic
import Derived.Deep.Light
import Derived.Deep.OwnRows
import Derived.Laws.AppendOwnNone
import Derived.Laws.Strings3
import Derived.Laws.RangeAny
import Derived.Deep.RegionWith
import Derived.Lib.BitFns
import Derived.Lib.Walk
import Derived.Lib.Strings
import Derived.Lib.OthersKept
import Derived.Deep.CutBlock
import Derived.Deep.DeepCutAuto
import Derived.Deep.LoopGhost
import Derived.Deep.RegionHeld3
import Derived.Lib.SmallJoins
import Derived.Maps.AppendAt
import Derived.Laws.IdiomStrings
namespace Go.Proofs.YtgkefaojbdjnoaaDoor
open Go.RowKit
set_option linter.unusedVariables false
set_option linter.unusedSimpArgs false
set_option maxHeartbeats 4000000 in
theorem xfill (s : ByteArray) (hs : s.size ≤ 35184372088832) (n : Nat) (hn : n ≤ 4096) (w : World) : Calls Tryd.prog 39 #[.string s, .int .i64 n] w (STB (s.data.toList ++ blk n) w) := by
  have HL : Hid (s.data.toList.length = s.size) := rfl
  have hb0 : Below w.heap.size w (w.alloc (Obj.cells #[Value.pointer none, Value.slice none 0 0] 52)) := (Below.refl _ w).alloc (Nat.le_refl _) _
  have hI0 : Lib.IsBuilderF 52 5 w.heap.size w.heap.size [] (w.alloc (Obj.cells #[Value.pointer none, Value.slice none 0 0] 52)) := Lib.IsBuilderF.of (Lib.fresh_isBuilder 52 5 w)
  have HI : Hid _ := hI0
  clear hI0
  go_enter Tryd.func39, Tryd.ntmps39
  go_wp2_with fail
  refine (Tryd.Builder_WriteString_k w.heap.size w.heap.size [] s _ HI.out (by simp; omega) (by simp)).mono ?_
  rintro e W1 ⟨rfl, h1, b1, _⟩
  have hW : Below w.heap.size w W1 := hb0.trans b1
  have HI1 : Hid (Lib.IsBuilderF 52 5 w.heap.size w.heap.size (Lib.byteCells (s.data.toList ++ blk 0)) W1) := by
    unfold Hid
    have : Lib.byteCells (s.data.toList ++ blk 0) = [] ++ Lib.strCells s := by
      simp [blk, Lib.strCells, Lib.byteCells]
    rw [this]
    exact Or.inr h1
  clear h1 b1 hb0
  clear HI
  go_wp2
  go_loopw [9] (fun v wr => ∃ k : Nat, v = .int .i64 k ∧ k ≤ n ∧ Hid (Lib.IsBuilderF 52 5 w.heap.size w.heap.size (Lib.byteCells (s.data.toList ++ blk k)) wr) ∧ Hid (Below w.heap.size w wr)) (fun v _ => n - (Lib.intOf v).toNat)
  case atStart => exact ⟨0, rfl, Nat.zero_le _, HI1, hW⟩
  case round =>
    obtain ⟨k, rfl, hk, hI, hB⟩ := hrel
    clear HI1 hW
    by_cases hkn : k < n
    · have hkz : (k : Int) < (n : Int) := by omega
      have hsz : Hid (w.heap.size ≤ wr.heap.size) := hB.out.size
      go_wp2_with fail
      refine (Tryd.Builder_WriteByte_k w.heap.size w.heap.size _ 32 _ hI.out (by rw [Lib.byteCells_length, List.length_append, HL.out]; simp [blk]; omega) hsz.out).mono ?_
      rintro e W2 ⟨rfl, h2, b2, _⟩
      have H2 : Hid (Lib.IsBuilderF 52 5 w.heap.size w.heap.size (Lib.byteCells (s.data.toList ++ blk (k + 1))) W2) := by
        have : Lib.byteCells (s.data.toList ++ blk (k + 1)) = Lib.byteCells (s.data.toList ++ blk k) ++ [Value.int .u8 32] := by
          simp [blk, Lib.byteCells, List.replicate_succ']
        unfold Hid
        rw [this]
        exact Or.inr h2
      have hB2 : Hid (Below w.heap.size w W2) := hB.out.trans b2
      clear h2 b2
      go_wp2
      go_roundw
      case rel => exact ⟨k + 1, by go_num, by omega, H2, hB2⟩
      case measure =>
        simp [Lib.intOf]
        omega
    · have hkz : ¬ (k : Int) < (n : Int) := by omega
      have : k = n := by omega
      subst this
      have hsz : Hid (w.heap.size ≤ wr.heap.size) := hB.out.size
      go_wp2_with fail
      refine (Tryd.Builder_String_any_k w.heap.size w.heap.size (s.data.toList ++ blk k) _ hI.out hsz.out).mono ?_
      rintro e W2 ⟨rfl, _, b2, _⟩
      go_wp2
      go_ret
      exact ⟨rfl, hB.out.trans b2⟩
theorem fitZ_no {l : List UInt8} {n : Int} (h : n < 0 ∨ 4096 < n) : fitZ l n = [] := by
  unfold fitZ
  rw [if_pos h]
theorem fitZ_yes {l : List UInt8} (n : Nat) (h : n ≤ 4096) : fitZ l (n : Int) = fit l n := by
  unfold fitZ
  rw [if_neg (by omega), Int.toNat_natCast]
set_option maxHeartbeats 4000000 in
theorem xfit (s : ByteArray) (hs : s.size ≤ 17592186044416) (n : Int) (w : World) : Calls Tryd.prog 19 #[.string s, .int .i64 n] w (STB (fitZ s.data.toList n) w) := by
  have HL : Hid (s.data.toList.length = s.size) := rfl
  by_cases h1 : n < 0
  · have H : Hid (fitZ s.data.toList n = []) := fitZ_no (.inl h1)
    go_enter Tryd.func19, Tryd.ntmps19
    go_wp2
    go_ret
    exact STB.mk (by rw [H.out]) (Below.refl _ _)
  by_cases h2 : 4096 < n
  · have H : Hid (fitZ s.data.toList n = []) := fitZ_no (.inr h2)
    go_enter Tryd.func19, Tryd.ntmps19
    go_wp2
    go_ret
    exact STB.mk (by rw [H.out]) (Below.refl _ _)
  obtain ⟨n, rfl⟩ := Int.eq_ofNat_of_zero_le (by omega : 0 ≤ n)
  have hn : n ≤ 4096 := by omega
  rw [fitZ_yes n hn]
  by_cases h3 : width s.data.toList ≤ n
  · have H : Hid (fit s.data.toList n = s.data.toList ++ blk (n - width s.data.toList)) := by
      unfold Hid fit
      rw [if_pos h3]
    have h4 := hd_all h3
    have Hh := xhead s (by omega) n hn w
    rw [h4] at Hh
    have HH : Hid (Calls Tryd.prog 38 #[.string s, .int .i64 n] w (TB (s.data.toList.length, width s.data.toList) w)) := Hh
    have hw : width s.data.toList ≤ n := h3
    clear h3 h4 Hh
    generalize width s.data.toList = t at *
    go_enter Tryd.func19, Tryd.ntmps19
    go_wp2_with fail
    refine (HH.out).mono ?_
    rintro e w1 ⟨rfl, hb⟩
    rw [show (s.data.toList.length : Int) = (s.size : Int) from rfl]
    go_wp2_with fail
    rw [show (n : Int) - (t : Int) = ((n - t : Nat) : Int) by omega]
    refine (xfill s (by omega) (n - t) (by omega) _).mono ?_
    rintro e w2 ⟨rfl, hb2⟩
    go_wp2
    go_ret
    exact ⟨by rw [H.out]; rfl, hb.trans (hb2.mono hb.size)⟩
  have hn3 : n < width s.data.toList := by omega
  obtain ⟨z1, z2⟩ := hd_some hn3
  have Hh := xhead s (by omega) n hn w
  by_cases h0 : n = 0
  · subst h0
    have H : Hid (fit s.data.toList 0 = []) := by
      unfold Hid fit
      rw [if_neg h3, if_pos rfl]
    have HH : Hid (Calls Tryd.prog 38 #[.string s, .int .i64 (0 : Nat)] w (TB (hd s.data.toList 0) w)) := Hh
    have z1' : (hd s.data.toList 0).1 < s.size := z1
    clear h3 hn3 Hh z1 z2
    generalize hd s.data.toList 0 = x at *
    obtain ⟨p, t⟩ := x
    have g : ((p : Int) == (s.size : Int)) = false := beq_eq_false_iff_ne.2 (by simp at z1'; omega)
    clear z1'
    go_enter Tryd.func19, Tryd.ntmps19
    go_wp2_with fail
    refine (Calls.mono HH.out ?_)
    rintro e w1 ⟨rfl, hb⟩
    go_wp2_with fail
    go_ret
    exact STB.mk (by rw [H.out]) hb
  · have H : Hid (fit s.data.toList n = s.data.toList.take (hd s.data.toList (n - 1)).1 ++ [46] ++ blk (n - 1 - (hd s.data.toList (n - 1)).2)) := by
      unfold Hid fit
      rw [if_neg h3, if_neg h0]
    have hn4 : n - 1 < width s.data.toList := by omega
    obtain ⟨y1, y2⟩ := hd_some hn4
    have g0 : ((n : Int) == 0) = false := beq_eq_false_iff_ne.2 (by omega)
    have HH : Hid (Calls Tryd.prog 38 #[.string s, .int .i64 n] w (TB (hd s.data.toList n) w)) := Hh
    have HK : Hid (∀ w, Calls Tryd.prog 38 #[.string s, .int .i64 (n - 1 : Nat)] w (TB (hd s.data.toList (n - 1)) w)) := fun w => xhead s (by omega) (n - 1) (by omega) w
    have z1' : (hd s.data.toList n).1 < s.size := z1
    have y1' : (hd s.data.toList (n - 1)).1 < s.size := y1
    have hn1 : 1 ≤ n := by omega
    clear h3 hn3 Hh z1 z2 hn4 h0 y1
    generalize hd s.data.toList n = x at *
    generalize hd s.data.toList (n - 1) = y at *
    obtain ⟨p, t⟩ := x
    obtain ⟨q, r⟩ := y
    have g : ((p : Int) == (s.size : Int)) = false := beq_eq_false_iff_ne.2 (by simp at z1'; omega)
    simp only at y1' y2
    clear z1'
    go_enter Tryd.func19, Tryd.ntmps19
    go_wp2_with fail
    refine (Calls.mono HH.out ?_)
    rintro e w1 ⟨rfl, hb⟩
    go_wp2_with fail
    rw [show (n : Int) - 1 = ((n - 1 : Nat) : Int) by omega]
    refine (Calls.mono (HK.out _) ?_)
    rintro e w2 ⟨rfl, hb2⟩
    go_wp2_with fail
    rw [show (n : Int) - 1 - (r : Int) = ((n - 1 - r : Nat) : Int) by omega]
    have hz := ext_size s q
    refine (xfill (s.extract 0 q ++ ⟨#[46]⟩) (by rw [ByteArray.size_append]; show (s.extract 0 q).size + 1 ≤ _; omega) (n - 1 - r) (by omega) _).mono ?_
    rintro e w3 ⟨rfl, hb3⟩
    go_wp2
    go_ret
    refine STB.mk ?_ ((hb.trans (hb2.mono hb.size)).trans (hb3.mono (Nat.le_trans hb.size hb2.size)))
    rw [H.out]
    rw [List.append_assoc]
    rfl
end Go.Proofs.YtgkefaojbdjnoaaDoor
