/- layer 13: a number among the rows: order, BinarySearchFunc, find; apart -/
import Derived.Test.YtheikjjehidagaaEB
import Derived.WalkKit
import Derived.ProofKit
import Derived.Handy
import Derived.WalkLawsBesides
import Derived.WalkSpells
import Derived.BigQuiet
import Derived.BigCall
import Derived.Deep.QuietTactic
import Derived.Deep.Light
import Derived.Deep.OwnRows
import Derived.Laws.AppendOwnNone
import Derived.Laws.Strings3
import Derived.Laws.RangeAny
import Derived.Deep.RegionWith
import Derived.Lib.BitFns
import Derived.Lib.Walk
import Derived.Lib.Strings
import Derived.Lib.OthersKept
import Derived.Deep.CutBlock
import Derived.Deep.DeepCutAuto
import Derived.Deep.LoopGhost
import Derived.Deep.RegionHeld3
import Derived.Lib.SmallJoins
import Derived.Maps.AppendAt
import Derived.Laws.IdiomStrings
import Derived.Lib.AppendZeros
import Derived.Deep.WholeRow
import Derived.Laws.BitsAllLaws
import Derived.Lib.ConvBytes
import Derived.Deep.RegionLaw
import Derived.Maps.OwnSet
import Derived.Maps.OwnOps
import Derived.Maps.RangeWalk
import Derived.Maps.Ext
import Derived.DeepKeys4
import Derived.Laws.StructEq
import Derived.Deep.MidRow
import Derived.Lib.Bytealg
import Derived.Lib.Overlaps
import Derived.Lib.AppendZerosOnto
import Derived.Laws.MakeOwn
namespace Go.Proofs.Ytheikjjehidagaa.H5
open Go.RowKit
set_option linter.unusedVariables false
set_option linter.unusedSimpArgs false
open Num
set_option maxRecDepth 20000
def cmpS (x y : List UInt8) : Int := if x < y then -1 else if y < x then 1 else 0
theorem cmpB_eq : ∀ (x y : List UInt8), Lib.compareBytes x y = cmpS x y
  | [], [] => by simp [Lib.compareBytes, cmpS]
  | [], _ :: _ => by simp [Lib.compareBytes, cmpS]
  | _ :: _, [] => by simp [Lib.compareBytes, cmpS]
  | a :: x, b :: y => by
    have ih := cmpB_eq x y
    unfold Lib.compareBytes
    rw [ih]
    unfold cmpS
    simp only [List.cons_lt_cons_iff]
    by_cases h1 : a < b
    · simp [h1]
    · by_cases h2 : b < a
      · have h3 : ¬ a = b := fun e => by subst e; exact h1 h2
        simp [h1, h2, h3]
      · have h3 : a = b := by
          rcases Nat.lt_trichotomy a.toNat b.toNat with h | h | h
          · exact absurd (UInt8.lt_iff_toNat_lt.2 h) h1
          · exact UInt8.toNat_inj.1 h
          · exact absurd (UInt8.lt_iff_toNat_lt.2 h) h2
        subst h3
        simp [h1]
theorem cmp_neg {x y : List UInt8} : cmpS x y < 0 ↔ x < y := by
  unfold cmpS
  constructor
  · intro h
    split at h
    · assumption
    · split at h <;> omega
  · intro h
    rw [if_pos h]
    omega
theorem cmp_zero {x y : List UInt8} : cmpS x y = 0 ↔ x = y := by
  unfold cmpS
  constructor
  · intro h
    split at h
    · omega
    · split at h
      · omega
      · rename_i h1 h2
        exact nlt_eq h1 h2
  · rintro rfl
    rw [if_neg (lt_ir x), if_neg (lt_ir x)]
set_option maxHeartbeats 1000000 in
set_option maxRecDepth 100000 in
theorem xcmp82 (a b : ByteArray) (w : World) : Calls Try.prog 99 #[.string a, .string b] w fun e w' => e = .returned (.int .i64 (cmpS a.toList b.toList)) ∧ w = w' := by
  rw [← cmpB_eq, tl, tl]
  go_enter Try.func99, Try.ntmps99
  go_wp2
  rw [run_callFunc_extern Try.func110 (by kernel_rfl) (by kernel_rfl) (by kernel_rfl) (e := Extern.BytealgCompare.compare) (by kernel_rfl), Lib.run_compareString]
  simp only [Result.andThen]
  rw [Oper.upon_value]
  go_wp2
  go_ret
  exact ⟨rfl, rfl⟩
theorem xcmp (a b : ByteArray) (w : World) : Calls Try.prog 74 #[.string a, .string b] w fun e w' => e = .returned (.int .i64 (cmpS a.toList b.toList)) ∧ w = w' := by
  have H : Hid (Calls Try.prog 99 #[.string a, .string b] w fun e w' => e = .returned (.int .i64 (cmpS a.toList b.toList)) ∧ w = w') := xcmp82 a b w
  generalize cmpS a.toList b.toList = r at *
  go_enter Try.func74, Try.ntmps74
  go_wp2_with (go_at_call 99; refine H.out.mono ?_; rintro e w' ⟨rfl, rfl⟩)
  go_ret
  exact ⟨rfl, rfl⟩
theorem xorder (i : ByteArray) (a b c : Int) (s : ByteArray) (p : Int) (n : ByteArray) (w : World) : Calls Try.prog 80 #[.agg #[.string i, .int .i64 a, .int .i64 b, .int .i64 c, .string s, .int .i64 p], .string n] w fun e w' => e = .returned (.int .i64 (cmpS i.toList n.toList)) ∧ w' = w.alloc (.cells #[.string i, .int .i64 a, .int .i64 b, .int .i64 c, .string s, .int .i64 p] 101) := by
  have H : Hid (∀ w, Calls Try.prog 74 #[.string i, .string n] w fun e w' => e = .returned (.int .i64 (cmpS i.toList n.toList)) ∧ w = w') := fun w => xcmp i n w
  generalize cmpS i.toList n.toList = r at *
  go_enter Try.func80, Try.ntmps80
  go_wp2_with (go_at_call 74; refine (H.out _).mono ?_; rintro e w' ⟨rfl, rfl⟩)
  go_ret
  exact ⟨rfl, rfl⟩
def FdP (k : Nat) (b : Bool) (w : World) (e : Ending) (w' : World) : Prop := e = .returned (.tuple #[.int .i64 k, .bool b]) ∧ Below w.heap.size w w'
theorem load84 (W : World) (b p : Nat) (v0 v1 v2 v3 v4 v5 : Value) (c0 : W.cell? ⟨b, p, none⟩ = some v0) (c1 : W.cell? ⟨b, p + 1, none⟩ = some v1) (c2 : W.cell? ⟨b, p + 2, none⟩ = some v2) (c3 : W.cell? ⟨b, p + 3, none⟩ = some v3) (c4 : W.cell? ⟨b, p + 4, none⟩ = some v4) (c5 : W.cell? ⟨b, p + 5, none⟩ = some v5) : (Instr.loadAt 101 (.pointer (some ⟨b, p, none⟩))).run Try.prog W = .ok (.agg #[v0, v1, v2, v3, v4, v5]) W := by
  go_simp
/-- the cells of a row that is read -/
theorem Rw.at6 {w wr : World} {blk off : Nat} {L : List Kn} (h : ∀ i (h : i < L.length), ∀ j, j < 6 → w.cell? ⟨blk, off + i * 6 + j, none⟩ = (kcs L[i])[j]?) (hb : Below w.heap.size w wr) (hl : blk < w.heap.size) {k : Nat} (hk : k < L.length) :
    wr.cell? ⟨blk, off + k * 6, none⟩ = some (.string L[k].a.i) ∧ wr.cell? ⟨blk, off + k * 6 + 1, none⟩ = some (.int .i64 L[k].a.iss) ∧ wr.cell? ⟨blk, off + k * 6 + 2, none⟩ = some (.int .i64 L[k].a.rat) ∧ wr.cell? ⟨blk, off + k * 6 + 3, none⟩ = some (.int .i64 L[k].a.mat) ∧ wr.cell? ⟨blk, off + k * 6 + 4, none⟩ = some (.string L[k].a.c) ∧ wr.cell? ⟨blk, off + k * 6 + 5, none⟩ = some (.int .i64 L[k].p) := by
  have hcc (i : Nat) (hi : i < 6) : wr.cell? ⟨blk, off + k * 6 + i, none⟩ = (kcs L[k])[i]? := (hb.cell (p := ⟨blk, off + k * 6 + i, none⟩) hl).trans (h k hk i hi)
  exact ⟨hcc 0 (by omega), hcc 1 (by omega), hcc 2 (by omega), hcc 3 (by omega), hcc 4 (by omega), hcc 5 (by omega)⟩
set_option maxHeartbeats 8000000 in
theorem xbs (L : List Kn) (hs : Srt L) (hl : L.length ≤ 1000000) (n : ByteArray) (a : Option Addr) (cap : Nat) (w : World) (h : Rw 6 kcs w a L) : Calls Try.prog 78 #[.slice a L.length cap, .string n, .func (.func 80) #[] #[]] w (FdP (pos L n.toList) (has L n.toList) w) := by
  have HE : Hid (Rw 6 kcs w a L) := h
  have HS : Hid (Srt L) := hs
  have HP : Hid (pos L n.toList ≤ L.length) := pos_le L n.toList
  clear h hs
  go_enter Try.func78, Try.ntmps78
  go_wp2_with fail
  go_loopw [9, 10] (fun s9 s10 wr => ∃ lo hi : Nat, s9 = .int .i64 lo ∧ s10 = .int .i64 hi ∧ lo ≤ hi ∧ hi ≤ L.length ∧ Hid (lo ≤ pos L n.toList ∧ pos L n.toList ≤ hi ∧ Below w.heap.size w wr))
    (fun s9 s10 _ => (intOf s10).toNat - (intOf s9).toNat)
  case atStart => exact ⟨0, L.length, rfl, rfl, Nat.zero_le _, Nat.le_refl _, Nat.zero_le _, HP.out, Below.refl _ _⟩
  case round =>
    obtain ⟨lo, hi, rfl, rfl, hlh, hin, HR⟩ := hrel
    by_cases hlt : lo < hi
    · have hltz : (lo : Int) < (hi : Int) := by omega
      obtain ⟨m, hm⟩ : ∃ m, m = (lo + hi) / 2 := ⟨_, rfl⟩
      have hmz : ((lo : Int) + (hi : Int)) / 2 = (m : Int) := by omega
      have hml : m < L.length := by omega
      have hmlz : (m : Int) < (L.length : Int) := by omega
      obtain ⟨blk, off, rfl, hbl, hcs⟩ := HE.out (by omega)
      obtain ⟨c0, c1, c2, c3, c4, c5⟩ := Rw.at6 hcs HR.out.2.2 hbl hml
      have HK : Hid (m < pos L n.toList ↔ key L[m] < n.toList) := pos_iff HS.out m hml
      have HL : Hid (lo ≤ m ∧ m < hi) := by constructor <;> omega
      clear hcs hm
      have HC : Hid (Calls Try.prog 80 #[.agg #[.string L[m].a.i, .int .i64 L[m].a.iss, .int .i64 L[m].a.rat, .int .i64 L[m].a.mat, .string L[m].a.c, .int .i64 L[m].p], .string n] wr fun e w' => e = .returned (.int .i64 (cmpS L[m].a.i.toList n.toList)) ∧ Hid (Below w.heap.size w w')) := (xorder _ _ _ _ _ _ n wr).mono fun _ _ h => ⟨h.1, by rw [h.2]; exact HR.out.2.2.alloc HR.out.2.2.size _⟩
      by_cases hc : cmpS L[m].a.i.toList n.toList < 0
      · have HQ : Hid (m + 1 ≤ pos L n.toList ∧ pos L n.toList ≤ hi) := ⟨HK.out.2 (cmp_neg.1 hc), HR.out.2.1⟩
        clear HK HR
        generalize L[m] = x at *
        obtain ⟨⟨xi, xa, xb, xc, xs⟩, xp⟩ := x
        simp only at *
        generalize cmpS xi.toList n.toList = r at *
        go_wp2_with (go_at_call 80; refine HC.out.mono ?_; clear HC; rintro e w1 ⟨rfl, HB1⟩)
        go_roundw
        case rel => exact ⟨m + 1, hi, by simp, rfl, by have := HL.out; omega, hin, HQ.out.1, HQ.out.2, HB1.out⟩
        case measure => have := HL.out; simp [intOf]; omega
      · have HQ : Hid (lo ≤ pos L n.toList ∧ pos L n.toList ≤ m) := ⟨HR.out.1, Nat.le_of_not_lt fun h => hc (cmp_neg.2 (HK.out.1 h))⟩
        clear HK HR
        generalize L[m] = x at *
        obtain ⟨⟨xi, xa, xb, xc, xs⟩, xp⟩ := x
        simp only at *
        generalize cmpS xi.toList n.toList = r at *
        go_wp2_with (go_at_call 80; refine HC.out.mono ?_; clear HC; rintro e w1 ⟨rfl, HB1⟩)
        go_roundw
        case rel => exact ⟨lo, m, rfl, by simp, by have := HL.out; omega, by omega, HQ.out.1, HQ.out.2, HB1.out⟩
        case measure => have := HL.out; simp [intOf]; omega
    · have hltz : ¬ (lo : Int) < (hi : Int) := by omega
      have hlp : lo = pos L n.toList := by have := HR.out; omega
      have HB : Hid (Below w.heap.size w wr) := HR.out.2.2
      by_cases hpl : lo < L.length
      · have hplz : (lo : Int) < (L.length : Int) := by omega
        obtain ⟨blk, off, rfl, hbl, hcs⟩ := HE.out (by omega)
        obtain ⟨c0, c1, c2, c3, c4, c5⟩ := Rw.at6 hcs HB.out hbl hpl
        have HC : Hid (Calls Try.prog 80 #[.agg #[.string L[lo].a.i, .int .i64 L[lo].a.iss, .int .i64 L[lo].a.rat, .int .i64 L[lo].a.mat, .string L[lo].a.c, .int .i64 L[lo].p], .string n] wr fun e w' => e = .returned (.int .i64 (cmpS L[lo].a.i.toList n.toList)) ∧ Hid (Below w.heap.size w w')) := (xorder _ _ _ _ _ _ n wr).mono fun _ _ h => ⟨h.1, by rw [h.2]; exact HB.out.alloc HB.out.size _⟩
        have HH : Hid ((cmpS L[lo].a.i.toList n.toList == 0) = has L n.toList) := by
          unfold Hid
          rw [Bool.eq_iff_iff, beq_iff_eq, cmp_zero]
          constructor
          · intro e; exact (at_pos HS.out hpl e).1
          · intro e
            obtain ⟨h1, h2⟩ := has_pos HS.out e
            have : L[lo] = L[pos L n.toList] := by congr 1
            rw [this]
            exact h2
        have HF : Hid (∀ w', Below w.heap.size w w' → FdP (pos L n.toList) (has L n.toList) w (.returned (.tuple #[.int .i64 lo, .bool (has L n.toList)])) w') := fun w' hb => ⟨by rw [hlp], hb⟩
        clear hlp HR hcs
        generalize L[lo] = x at *
        obtain ⟨⟨xi, xa, xb, xc, xs⟩, xp⟩ := x
        simp only at *
        generalize cmpS xi.toList n.toList = r at *
        generalize has L n.toList = g at *
        generalize pos L n.toList = ps at *
        have hh := HH.out
        clear HH
        go_wp2_with (go_at_call 80; refine HC.out.mono ?_; clear HC; rintro e w1 ⟨rfl, HB1⟩)
        go_ret2
        exact HF.out _ HB1.out
      · have hplz : ¬ (lo : Int) < (L.length : Int) := by omega
        have HF : Hid (FdP (pos L n.toList) (has L n.toList) w (.returned (.tuple #[.int .i64 lo, .bool false])) wr) := by
          have : has L n.toList = false := by
            cases e : has L n.toList with
            | false => rfl
            | true => obtain ⟨h1, _⟩ := has_pos HS.out e; omega
          rw [this, ← hlp]
          exact ⟨rfl, HB.out⟩
        clear hlp HR
        go_wp2_with fail
        go_ret2
        exact HF.out
end Go.Proofs.Ytheikjjehidagaa.H5
