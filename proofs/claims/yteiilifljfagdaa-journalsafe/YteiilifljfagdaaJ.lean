/- The journal's join. -/
import Derived.Test.YteiilifljfagdaaI
import Derived.WalkKit
import Derived.ProofKit
import Derived.Handy
import Derived.WalkLawsBesides
import Derived.WalkSpells
import Derived.BigQuiet
import Derived.BigCall
import Derived.Deep.QuietTactic
import Derived.Deep.Light
import Derived.Deep.OwnRows
import Derived.Laws.AppendOwnNone
import Derived.Laws.Strings3
import Derived.Laws.RangeAny
import Derived.Deep.RegionWith
import Derived.Lib.BitFns
import Derived.Lib.Walk
import Derived.Lib.Strings
import Derived.Lib.OthersKept
import Derived.Deep.CutBlock
import Derived.Deep.DeepCutAuto
import Derived.Deep.LoopGhost
import Derived.Deep.RegionHeld3
import Derived.Lib.SmallJoins
import Derived.Maps.AppendAt
import Derived.Laws.IdiomStrings
import Derived.Lib.AppendZeros
import Derived.Deep.WholeRow
import Derived.Laws.BitsAllLaws
import Derived.Lib.ConvBytes
namespace Go.Proofs.Yteiilifljfagdaa
open Go.RowKit
set_option linter.unusedVariables false
set_option linter.unusedSimpArgs false
theorem flatten_take (l : List (List UInt8)) : ∀ k, (l.take k).flatten.length ≤ l.flatten.length := by
  intro k
  have : l.flatten = (l.take k).flatten ++ (l.drop k).flatten := by rw [← List.flatten_append, List.take_append_drop]
  rw [this, List.length_append]
  omega
theorem tot_flatten (l : List ByteArray) : (ls l).flatten.length = tot l := by
  induction l with
  | nil => rfl
  | cons a l ih =>
    show (a.data.toList ++ (ls l).flatten).length = a.size + tot l
    rw [List.length_append, ih]
    rfl
theorem join_flatten : ∀ (l : List (List UInt8)), Lib.join l [] = l.flatten := by
  intro l
  unfold Lib.join
  induction l with
  | nil => rfl
  | cons a l ih =>
    cases l with
    | nil => simp [List.intercalate]
    | cons b l =>
      have : ([] : List UInt8).intercalate (a :: b :: l) = a ++ ([] : List UInt8).intercalate (b :: l) := by simp [List.intercalate]
      rw [this, ih]
      rfl
theorem pcs_drop {l : List ByteArray} {k : Nat} (h : k < l.length) : pcs (ls (l.drop k)) = (l[k].size != 0 && ((l.length - (k + 1) == 0) || decide (4096 ≤ l[k].size)) && pcs (ls (l.drop (k + 1)))) := by
  rw [List.drop_eq_getElem_cons h]
  show (_ && ((ls (l.drop (k + 1))).length == 0 || _) && _) = _
  rw [ls_len, List.length_drop]
  rfl
/-- what join hands back -/
def JnP (l : List (List UInt8)) (w : World) (e : Ending) (w' : World) : Prop :=
  e = .returned (.tuple #[.string ⟨(if pcs l = true then l.flatten else []).toArray⟩, .bool (pcs l)]) ∧ Below w.heap.size w w'
theorem JnP.no {l : List (List UInt8)} {w : World} (h : pcs l = false) : JnP l w (.returned (.tuple #[.string ⟨#[]⟩, .bool false])) w := by
  unfold JnP
  rw [h]
  exact ⟨rfl, Below.refl _ _⟩
theorem JnP.yes {l : List (List UInt8)} {w w' : World} {s : ByteArray} (h : pcs l = true) (hs : s.data.toList = l.flatten) (hb : Below w.heap.size w w') : JnP l w (.returned (.tuple #[.string s, .bool true])) w' := by
  unfold JnP
  rw [h, if_pos rfl, ← hs]
  exact ⟨rfl, hb⟩
set_option maxHeartbeats 4000000 in
theorem xjoin (l : List ByteArray) (a : Option Addr) (cap : Nat) (w : World) (h : Strs w a l) (hc : l.length ≤ cap) (h1 : l.length ≤ 1099511627776) (h2 : tot l ≤ 1099511627776) : Calls Try.prog 85 #[.slice a l.length cap] w (JnP (ls l) w) := by
  have HS : Hid (Strs w a l) := h
  clear h
  have hlz : (l.length : Int) ≤ 1099511627776 := by omega
  go_enter Try.func85, Try.ntmps85
  go_wp2_with fail
  go_loopw [12] (fun i wr => ∃ (k : Nat), i = .int .i64 k ∧ k ≤ l.length ∧ w = wr ∧ Hid (pcs (ls l) = pcs (ls (l.drop k)))) (fun i _ => l.length - (Lib.intOf i).toNat)
  case atStart => exact ⟨0, rfl, Nat.zero_le _, by first | rfl | trivial, by unfold Hid; rw [List.drop_zero]⟩
  case round =>
    obtain ⟨k, rfl, hk, rfl, hp⟩ := hrel
    by_cases hkn : k < l.length
    · have hkz : (k : Int) < (l.length : Int) := by omega
      obtain ⟨b, off, rfl, hbl, hce⟩ := HS.out.at_ (by omega)
      have hc : w.cell? ⟨b, off + k, none⟩ = some (.string l[k]) := hce k hkn
      have hd := pcs_drop hkn
      rw [← hp.out] at hd
      have HD : Hid _ := hd
      clear hd hce hp
      generalize l[k] = x at *
      by_cases c0 : x.size = 0
      · have c1 : ((x.size : Int) == 0) = true := by simp [c0]
        have HN : Hid (pcs (ls l) = false) := by unfold Hid; rw [HD.out, c0]; rfl
        clear HD c0
        go_wp2_with fail
        go_ret2
        exact JnP.no HN.out
      · have c1 : ((x.size : Int) == 0) = false := by simp [c0]
        by_cases c2 : k + 1 < l.length
        · have c3 : (k : Int) < (l.length : Int) - 1 := by omega
          by_cases c4 : x.size < 4096
          · have c5 : (x.size : Int) < 4096 := by omega
            have HN : Hid (pcs (ls l) = false) := by
              unfold Hid
              rw [HD.out, show (l.length - (k + 1) == 0) = false by rw [beq_eq_false_iff_ne]; omega, decide_eq_false (by omega), Bool.or_false, Bool.and_false, Bool.false_and]
            clear HD c0
            go_wp2_with fail
            go_ret2
            exact JnP.no HN.out
          · have c5 : ¬ (x.size : Int) < 4096 := by omega
            have HN : Hid (pcs (ls l) = pcs (ls (l.drop (k + 1)))) := by
              unfold Hid
              rw [HD.out, show (x.size != 0) = true by rw [bne_iff_ne]; exact c0, decide_eq_true (by omega), Bool.or_true, Bool.true_and, Bool.true_and]
            clear HD c0
            go_wp2_with fail
            exact ⟨⟨k + 1, by go_num, by omega, by first | rfl | trivial, HN.out⟩, by simp [Lib.intOf]; omega⟩
        · have c3 : ¬ (k : Int) < (l.length : Int) - 1 := by omega
          have HN : Hid (pcs (ls l) = pcs (ls (l.drop (k + 1)))) := by
            unfold Hid
            rw [HD.out, show (x.size != 0) = true by rw [bne_iff_ne]; exact c0, show (l.length - (k + 1) == 0) = true by rw [beq_iff_eq]; omega, Bool.true_or, Bool.true_and, Bool.true_and]
          clear HD c0
          go_wp2_with fail
          exact ⟨⟨k + 1, by go_num, by omega, by first | rfl | trivial, HN.out⟩, by simp [Lib.intOf]; omega⟩
    · have hkz : ¬ (k : Int) < (l.length : Int) := by omega
      have HY : Hid (pcs (ls l) = true) := by unfold Hid; rw [hp.out, List.drop_of_length_le (by omega)]; rfl
      by_cases h0 : l.length = 0
      · have : l = [] := List.length_eq_zero_iff.1 h0
        subst this
        go_wp2_with fail
        refine (Try.strings_Join_none _ _ _ _).mono ?_
        rintro e w1 ⟨rfl, rfl⟩
        go_wp2_with fail
        go_ret2
        exact JnP.yes HY.out rfl (Below.refl _ _)
      · obtain ⟨b, off, rfl, hbl, hce⟩ := HS.out.at_ (by omega)
        have HJ : Hid (Calls Try.prog 91 #[.slice (some ⟨b, off, none⟩) l.length cap, .string ⟨#[]⟩] w fun e w' => e = .returned (.string ⟨(ls l).flatten.toArray⟩) ∧ Below w.heap.size w w') := by
          have e1 : Lib.join (l.map (·.data.toList)) (⟨#[]⟩ : ByteArray).data.toList = (ls l).flatten := join_flatten (ls l)
          have := Try.strings_Join b off cap l ⟨#[]⟩ w (fun j x hx => by
            obtain ⟨hj, rfl⟩ := List.getElem?_eq_some_iff.1 hx
            exact hce j hj) hbl (by omega) hc (by rw [e1, tot_flatten]; omega)
          rw [e1] at this
          exact this
        have HZ : Hid ((⟨(ls l).flatten.toArray⟩ : ByteArray).data.toList = (ls l).flatten) := rfl
        generalize (⟨(ls l).flatten.toArray⟩ : ByteArray) = Z at *
        clear hce
        go_wp2_with fail
        refine HJ.out.mono ?_
        rintro e w1 ⟨rfl, hb⟩
        have HB : Hid (Below w.heap.size w w1) := hb
        clear hb
        go_wp2_with fail
        go_ret2
        exact JnP.yes HY.out HZ.out HB.out
end Go.Proofs.Yteiilifljfagdaa
