/- Texts in a row in memory; the reference's Small, Texts and All. -/
import Derived.Test.YtpddddnjmklfdaaF
import Derived.WalkKit
import Derived.ProofKit
import Derived.Handy
import Derived.WalkLawsBesides
import Derived.WalkSpells
import Derived.BigQuiet
import Derived.BigCall
import Derived.Deep.QuietTactic
import Derived.Deep.Light
import Derived.Deep.OwnRows
import Derived.Laws.AppendOwnNone
import Derived.Laws.Strings3
import Derived.Laws.RangeAny
import Derived.Deep.RegionWith
import Derived.Lib.BitFns
import Derived.Lib.Walk
import Derived.Lib.Strings
import Derived.Lib.OthersKept
import Derived.Deep.CutBlock
import Derived.Deep.DeepCutAuto
import Derived.Deep.LoopGhost
import Derived.Deep.RegionHeld3
import Derived.Lib.SmallJoins
import Derived.Maps.AppendAt
import Derived.Laws.IdiomStrings
import Derived.Lib.AppendZeros
import Derived.Deep.WholeRow
import Derived.Laws.BitsAllLaws
namespace Go.Proofs.Ytpddddnjmklfdaa
open Go.RowKit
set_option linter.unusedVariables false
set_option linter.unusedSimpArgs false
/-- a slice of texts -/
structure Strs (w : World) (a : Option Addr) (l : List ByteArray) : Prop where
  at_ : 0 < l.length → ∃ b off, a = some ⟨b, off, none⟩ ∧ b < w.heap.size ∧ ∀ j (hj : j < l.length), w.cell? ⟨b, off + j, none⟩ = some (.string l[j])
  len : l.length ≤ 140737488355328
  size : ∀ s ∈ l, s.size ≤ 140737488355328
theorem Strs.below {w w' : World} {a : Option Addr} {l : List ByteArray} (h : Strs w a l) (hb : Below w.heap.size w w') : Strs w' a l := by
  refine ⟨fun h0 => ?_, h.len, h.size⟩
  obtain ⟨b, off, e, hl, hc⟩ := h.at_ h0
  exact ⟨b, off, e, Nat.lt_of_lt_of_le hl hb.size, fun j hj => (hb.cell (by exact hl)).trans (hc j hj)⟩
theorem Strs.belowB {B : Nat} {w0 w w' : World} {a : Option Addr} {l : List ByteArray} (h : Strs w0 a l) (hB : w0.heap.size ≤ B) (h0 : Strs w a l) (hb : Below B w w') (hw : Below w0.heap.size w0 w) : Strs w' a l := by
  exact h.below (hw.trans (hb.mono hB))
/-- how many bytes texts have together -/
def tot : List ByteArray → Nat
  | [] => 0
  | s :: l => s.size + tot l
theorem tot_app (l m : List ByteArray) : tot (l ++ m) = tot l + tot m := by
  induction l with
  | nil => show tot m = 0 + tot m; omega
  | cons s l ih => show s.size + tot (l ++ m) = s.size + tot l + tot m; omega
theorem take_get {l : List ByteArray} {k : Nat} (h : k < l.length) : l.take (k + 1) = l.take k ++ [l[k]] := List.take_succ_eq_append_getElem h
theorem tot_take {l : List ByteArray} {k : Nat} (h : k < l.length) : tot (l.take (k + 1)) = tot (l.take k) + l[k].size := by
  rw [take_get h, tot_app]
  rfl
theorem tot_le (l : List ByteArray) (k : Nat) : tot (l.take k) ≤ tot l := by
  have := tot_app (l.take k) (l.drop k)
  rw [List.take_append_drop] at this
  omega
def SmP (l : List ByteArray) (w : World) (e : Ending) (w' : World) : Prop := ∃ g : Bool, e = .returned (.bool g) ∧ w = w' ∧ (g = true → l.length ≤ 100 ∧ tot l ≤ 20000)
theorem SmP.f {l : List ByteArray} {w : World} : SmP l w (.returned (.bool false)) w := ⟨false, rfl, rfl, fun h => by cases h⟩
theorem SmP.t {l : List ByteArray} {w : World} (h1 : l.length ≤ 100) (h2 : tot l ≤ 20000) : SmP l w (.returned (.bool true)) w := ⟨true, rfl, rfl, fun _ => ⟨h1, h2⟩⟩
set_option maxHeartbeats 4000000 in
theorem rsmall (l : List ByteArray) (a : Option Addr) (cap : Nat) (w : World) (h : Strs w a l) : Calls Try.prog 8 #[.slice a l.length cap] w (SmP l w) := by
  have HS : Hid (Strs w a l) := h
  have hlen := h.len
  have hlenz : (l.length : Int) ≤ 140737488355328 := by omega
  clear h
  go_enter Try.func8, Try.ntmps8
  go_wp2_with fail
  go_loopw [3, 4] (fun v i wr => ∃ (k n : Nat), v = .int .i64 n ∧ i = .int .i64 k ∧ k ≤ l.length ∧ k ≤ 101 ∧ n ≤ 140737488375328 ∧ w = wr ∧ Hid (n = tot (l.take k))) (fun _ i _ => 101 - (Lib.intOf i).toNat)
  case atStart => exact ⟨0, 0, rfl, rfl, Nat.zero_le _, by omega, by omega, by first | rfl | trivial, rfl⟩
  case round =>
    obtain ⟨k, n, rfl, rfl, hk, hk1, hn, rfl, hcr⟩ := hrel
    by_cases hkn : k < l.length
    · have hkz : (k : Int) < (l.length : Int) := by omega
      by_cases h100 : k ≤ 100
      · have h100z : (k : Int) ≤ 100 := by omega
        by_cases h2 : n ≤ 20000
        · have h2z : (n : Int) ≤ 20000 := by omega
          obtain ⟨b, off, rfl, hbl, hce⟩ := HS.out.at_ (by omega)
          have hc := hce k hkn
          have hsz := HS.out.size _ (List.getElem_mem hkn)
          have ht := tot_take hkn
          rw [← hcr.out] at ht
          generalize l[k] = x at *
          have HT : Hid (tot (l.take (k + 1)) = n + x.size) := ht
          clear ht hce hcr
          go_wp2_with fail
          exact ⟨⟨k + 1, n + x.size, by go_num, by go_num, by omega, by omega, by omega, by first | rfl | trivial, HT.out.symm⟩, by simp [Lib.intOf]; omega⟩
        · have h2z : ¬ (n : Int) ≤ 20000 := by omega
          by_cases h3 : l.length ≤ 100
          · have h3z : (l.length : Int) ≤ 100 := by omega
            go_wp2_with fail
            go_ret
            exact SmP.f
          · have h3z : ¬ (l.length : Int) ≤ 100 := by omega
            go_wp2_with fail
            go_ret
            exact SmP.f
      · have h100z : ¬ (k : Int) ≤ 100 := by omega
        have hl100 : ¬ (l.length : Int) ≤ 100 := by omega
        go_wp2_with fail
        go_ret
        exact SmP.f
    · have hkz : ¬ (k : Int) < (l.length : Int) := by omega
      have HT : Hid (n = tot l) := by
        have h1 := hcr.out
        rw [List.take_of_length_le (by omega)] at h1
        exact h1
      clear hcr
      by_cases h3 : l.length ≤ 100
      · have h3z : (l.length : Int) ≤ 100 := by omega
        by_cases h2 : n ≤ 20000
        · have h2z : (n : Int) ≤ 20000 := by omega
          go_wp2_with fail
          go_ret
          exact SmP.t h3 (by rw [← HT.out]; exact h2)
        · have h2z : ¬ (n : Int) ≤ 20000 := by omega
          go_wp2_with fail
          go_ret
          exact SmP.f
      · have h3z : ¬ (l.length : Int) ≤ 100 := by omega
        go_wp2_with fail
        go_ret
        exact SmP.f
/-- A call answers a bool, and leaves the world alone. -/
def BP (b : Bool) (w : World) (e : Ending) (w' : World) : Prop := e = .returned (.bool b) ∧ w = w'
theorem BP.mk {b c : Bool} {w : World} (h : c = b) : BP b w (.returned (.bool c)) w := ⟨by rw [h], rfl⟩
/-- A call answers a bool, and changes nothing that was there. -/
def BB (b : Bool) (w : World) (e : Ending) (w' : World) : Prop := e = .returned (.bool b) ∧ Below w.heap.size w w'
theorem BB.mk {b c : Bool} {w w' : World} (h : c = b) (hb : Below w.heap.size w w') : BB b w (.returned (.bool c)) w' := ⟨by rw [h], hb⟩
theorem bdrew {B : Nat} {w w' : World} (h : Below B w w') (n : Nat) : Below B w (w'.drewN n) := ⟨h.os, h.tape, h.output, h.size, h.block⟩
set_option maxHeartbeats 4000000 in
theorem rtexts (l : List ByteArray) (a b : Option Addr) (cap cbp : Nat) (w : World) (h : Strs w a l) (h2 : Strs w b l) : Calls Try.prog 21 #[.slice a l.length cap, .slice b l.length cbp] w (BB true w) := by
  have HS : Hid (Strs w a l) := h
  have HT : Hid (Strs w b l) := h2
  have hlen := h.len
  have hlenz : (l.length : Int) ≤ 140737488355328 := by omega
  have hne : (((l.length : Nat) : Int) != ((l.length : Nat) : Int)) = false := by simp
  clear h h2
  go_enter Try.func21, Try.ntmps21
  go_wp2_with fail
  go_loopw [5] (fun i wr => ∃ (k : Nat), i = .int .i64 k ∧ k ≤ l.length ∧ Hid (Below w.heap.size w wr)) (fun i _ => l.length - (Lib.intOf i).toNat)
  case atStart => exact ⟨0, rfl, Nat.zero_le _, Below.refl _ _⟩
  case round =>
    obtain ⟨k, rfl, hk, HB⟩ := hrel
    by_cases hkn : k < l.length
    · have hkz : (k : Int) < (l.length : Int) := by omega
      obtain ⟨b1, off1, rfl, hbl1, hce1⟩ := HS.out.at_ (by omega)
      obtain ⟨b2, off2, rfl, hbl2, hce2⟩ := HT.out.at_ (by omega)
      have hc1 : wr.cell? ⟨b1, off1 + k, none⟩ = some (.string l[k]) := (HB.out.cell (by exact hbl1)).trans (hce1 k hkn)
      have hc2 : wr.cell? ⟨b2, off2 + k, none⟩ = some (.string l[k]) := (HB.out.cell (by exact hbl2)).trans (hce2 k hkn)
      generalize l[k] = x at *
      have hxx : (x.toList != x.toList) = false := by simp
      clear hce1 hce2
      go_wp2_with fail
      go_quiet (fail)
      go_wp2_with fail
      exact ⟨⟨k + 1, by go_num, by omega, bdrew HB.out _⟩, by simp [Lib.intOf]; omega⟩
    · have hkz : ¬ (k : Int) < (l.length : Int) := by omega
      go_wp2_with fail
      go_ret
      exact BB.mk rfl HB.out
/-- texts as lists -/
def ls (l : List ByteArray) : List (List UInt8) := l.map fun s => s.data.toList
theorem flat_app (l m : List (List UInt8)) : flat (l ++ m) = flat l ++ flat m := List.flatMap_append ..
theorem flat_snoc (l : List (List UInt8)) (a : List UInt8) : flat (l ++ [a]) = flat l ++ putL a := by
  rw [flat_app, flat_cons]
  show flat l ++ (putL a ++ []) = _
  rw [List.append_nil]
theorem ls_take {l : List ByteArray} {k : Nat} (h : k < l.length) : ls (l.take (k + 1)) = ls (l.take k) ++ [l[k].data.toList] := by
  rw [take_get h]
  exact List.map_append ..
theorem flat_len (l : List ByteArray) : (flat (ls l)).length = tot l + 12 * l.length := by
  induction l with
  | nil => rfl
  | cons s l ih =>
    show (putL s.data.toList ++ flat (ls l)).length = s.size + tot l + 12 * (l.length + 1)
    rw [List.length_append, putL_len, ih]
    show s.size + 12 + _ = _
    omega
theorem allOk_app (l m : List (List UInt8)) : allOk (l ++ m) = (allOk l && allOk m) := List.all_append ..
theorem allOk_bad {l : List ByteArray} {k : Nat} (h : k < l.length) (hb : ¬ l[k].size ≤ 4096) : allOk (ls l) = false := by
  refine Bool.eq_false_iff.2 fun hx => hb ?_
  unfold allOk at hx
  rw [List.all_eq_true] at hx
  have := hx l[k].data.toList (List.mem_map.2 ⟨l[k], List.getElem_mem h, rfl⟩)
  rw [decide_eq_true_eq] at this
  exact this
theorem allOk_step {l : List ByteArray} {k : Nat} (h : k < l.length) (ha : allOk (ls (l.take k)) = true) (hb : l[k].size ≤ 4096) : allOk (ls (l.take (k + 1))) = true := by
  rw [ls_take h, allOk_app, ha, Bool.true_and]
  unfold allOk
  rw [List.all_cons, List.all_nil, Bool.and_true, decide_eq_true_eq]
  exact hb
theorem allL_yes {l : List (List UInt8)} (h : allOk l = true) : allL l = flat l := if_pos h
theorem allE_yes {l : List (List UInt8)} (h : allOk l = true) : allE l = 0 := if_pos h
theorem allL_no {l : List (List UInt8)} (h : allOk l = false) : allL l = [] := if_neg (by rw [h]; exact Bool.false_ne_true)
theorem allE_no {l : List (List UInt8)} (h : allOk l = false) : allE l = 2 := if_neg (by rw [h]; exact Bool.false_ne_true)
theorem ba_size (l : List UInt8) : (⟨l.toArray⟩ : ByteArray).size = l.length := by show l.toArray.size = _; simp
set_option maxHeartbeats 4000000 in
theorem rall (l : List ByteArray) (a : Option Addr) (cap : Nat) (w : World) (h : Strs w a l) (h100 : l.length ≤ 100) (h20 : tot l ≤ 20000) : Calls Try.prog 13 #[.slice a l.length cap] w (MB (allL (ls l)) (allE (ls l)) w) := by
  have HS : Hid (Strs w a l) := h
  have hlenz : (l.length : Int) ≤ 100 := by omega
  clear h
  go_enter Try.func13, Try.ntmps13
  go_wp2_with fail
  go_loopw [4, 5] (fun v i wr => ∃ (k : Nat) (O : ByteArray), v = .string O ∧ i = .int .i64 k ∧ k ≤ l.length ∧ O.size ≤ 22000 ∧ Hid (Below w.heap.size w wr) ∧ Hid (O.data.toList = flat (ls (l.take k))) ∧ Hid (allOk (ls (l.take k)) = true)) (fun _ i _ => l.length - (Lib.intOf i).toNat)
  case atStart => exact ⟨0, ⟨#[]⟩, rfl, rfl, Nat.zero_le _, by decide, Below.refl _ _, rfl, rfl⟩
  case round =>
    obtain ⟨k, O, rfl, rfl, hk, hO, HB, HF, HA⟩ := hrel
    by_cases hkn : k < l.length
    · have hkz : (k : Int) < (l.length : Int) := by omega
      obtain ⟨b, off, rfl, hbl, hce⟩ := HS.out.at_ (by omega)
      have hc : wr.cell? ⟨b, off + k, none⟩ = some (.string l[k]) := (HB.out.cell (by exact hbl)).trans (hce k hkn)
      have hlt := ls_take hkn
      by_cases h4 : l[k].size ≤ 4096
      · have ha := allOk_step hkn HA.out h4
        have hsz : O.size + (l[k].size + 12) ≤ 22000 := by
          have e1 : O.size = (flat (ls (l.take k))).length := by rw [← HF.out]; rfl
          rw [e1, flat_len]
          have e2 := tot_take hkn
          have e3 := tot_le l (k + 1)
          rw [List.length_take]
          omega
        have HP : Hid (∀ w, Calls Try.prog 11 #[.string l[k]] w (MB (putL l[k].data.toList) 0 w)) := fun w => by
          have := rput l[k] w
          rw [put_yes (l := l[k].data.toList) h4, putE_yes (l := l[k].data.toList) h4] at this
          exact this
        have HF2 : Hid (flat (ls (l.take (k + 1))) = (O ++ ⟨(putL l[k].data.toList).toArray⟩).data.toList) := by
          unfold Hid
          rw [hlt, flat_snoc, ← HF.out, app_l]
        have hps : (⟨(putL l[k].data.toList).toArray⟩ : ByteArray).size = l[k].size + 12 := by rw [ba_size, putL_len]; rfl
        have HA2 : Hid (allOk (ls (l.take (k + 1))) = true) := ha
        unfold MB at HP
        have hcc : Hid (((0 : Nat) : Int) = 0) := rfl
        rw [hcc.out] at HP
        generalize (⟨(putL l[k].data.toList).toArray⟩ : ByteArray) = P at *
        generalize l[k] = x at *
        clear hlt ha hce HF HA hcc
        go_wp2_with fail
        refine (HP.out _).mono ?_
        rintro e w1 ⟨rfl, hb1⟩
        have HB1 : Hid (Below w.heap.size w w1) := HB.out.trans (hb1.mono HB.out.size)
        clear hb1
        go_wp2_with fail
        exact ⟨⟨k + 1, O ++ P, by first | rfl | trivial, by go_num, by omega, by rw [ByteArray.size_append]; omega, HB1.out, HF2.out.symm, HA2.out⟩, by simp [Lib.intOf]; omega⟩
      · have hbad := allOk_bad hkn h4
        have HL : Hid (allL (ls l) = []) := allL_no hbad
        have HE : Hid (allE (ls l) = 2) := allE_no hbad
        have HP : Hid (∀ w, Calls Try.prog 11 #[.string l[k]] w (MB [] 2 w)) := fun w => by
          have := rput l[k] w
          rw [put_no (l := l[k].data.toList) h4, putE_no (l := l[k].data.toList) h4] at this
          exact this
        generalize l[k] = x at *
        clear hlt hbad hce HF HA
        go_wp2_with fail
        refine (HP.out _).mono ?_
        rintro e w1 ⟨rfl, hb1⟩
        have HB1 : Hid (Below w.heap.size w w1) := HB.out.trans (hb1.mono HB.out.size)
        clear hb1
        go_wp2_with fail
        go_ret2
        exact MB.mk (by rw [HL.out]) (by rw [HE.out]; rfl) HB1.out
    · have hkz : ¬ (k : Int) < (l.length : Int) := by omega
      have ht : l.take k = l := List.take_of_length_le (by omega)
      have HL : Hid (allL (ls l) = O.data.toList) := by
        have h1 := HF.out
        have h2 := HA.out
        rw [ht] at h1 h2
        unfold Hid
        rw [allL_yes h2, h1]
      have HE : Hid (allE (ls l) = 0) := by
        have h2 := HA.out
        rw [ht] at h2
        exact allE_yes h2
      clear ht HF HA
      go_wp2_with fail
      go_ret2
      exact MB.mk HL.out.symm (by rw [HE.out]; rfl) HB.out
end Go.Proofs.Ytpddddnjmklfdaa
