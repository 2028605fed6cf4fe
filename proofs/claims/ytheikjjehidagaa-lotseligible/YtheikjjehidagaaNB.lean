/- layer 17: lots in memory; small calls; a search -/
import Derived.Test.YtheikjjehidagaaCL
import Derived.Test.YtheikjjehidagaaNG
import Derived.Test.YtheikjjehidagaaNA
import Derived.WalkKit
import Derived.ProofKit
import Derived.Handy
import Derived.WalkLawsBesides
import Derived.WalkSpells
import Derived.BigQuiet
import Derived.BigCall
import Derived.Deep.QuietTactic
import Derived.Deep.Light
import Derived.Deep.OwnRows
import Derived.Laws.AppendOwnNone
import Derived.Laws.Strings3
import Derived.Laws.RangeAny
import Derived.Deep.RegionWith
import Derived.Lib.BitFns
import Derived.Lib.Walk
import Derived.Lib.Strings
import Derived.Lib.OthersKept
import Derived.Deep.CutBlock
import Derived.Deep.DeepCutAuto
import Derived.Deep.LoopGhost
import Derived.Deep.RegionHeld3
import Derived.Lib.SmallJoins
import Derived.Maps.AppendAt
import Derived.Laws.IdiomStrings
import Derived.Lib.AppendZeros
import Derived.Deep.WholeRow
import Derived.Laws.BitsAllLaws
import Derived.Lib.ConvBytes
import Derived.Deep.RegionLaw
import Derived.Maps.OwnSet
import Derived.Maps.OwnOps
import Derived.Maps.RangeWalk
import Derived.Maps.Ext
import Derived.DeepKeys4
import Derived.Laws.StructEq
import Derived.Deep.MidRow
import Derived.Lib.Bytealg
import Derived.Lib.AppendZerosOnto
import Derived.Laws.MakeOwn
import Derived.Deep.Upon
import Derived.Sort.KeysCollected
namespace Go.Proofs.Ytheikjjehidagaa
open Go.RowKit
set_option linter.unusedVariables false
set_option linter.unusedSimpArgs false
set_option maxRecDepth 20000
theorem hid_in {p : Prop} (h : p) : Hid p := h
def lcs (x : Lt) : List Value := [.string x.i, .int .i64 x.n]
theorem lcs_len (x : Lt) : (lcs x).length = 2 := rfl
theorem lcs_one (x : Lt) : ∀ u ∈ lcs x, u.oneCell' = true := by
  intro u hu
  unfold lcs at hu
  simp at hu
  rcases hu with rfl | rfl <;> rfl
theorem lcells_one (L : List Lt) : ∀ u ∈ rcs lcs L, u.oneCell' = true := by
  intro u hu
  unfold rcs at hu
  rw [List.mem_flatten] at hu
  obtain ⟨l, hl, hu⟩ := hu
  obtain ⟨k, _, rfl⟩ := List.mem_map.1 hl
  exact lcs_one k u hu
theorem Rw.at2 {w wr : World} {blk off : Nat} {L : List Lt} (h : ∀ i (h : i < L.length), ∀ j, j < 2 → w.cell? ⟨blk, off + i * 2 + j, none⟩ = (lcs L[i])[j]?) (hb : Below w.heap.size w wr) (hl : blk < w.heap.size) {k : Nat} (hk : k < L.length) :
    wr.cell? ⟨blk, off + k * 2, none⟩ = some (.string L[k].i) ∧ wr.cell? ⟨blk, off + k * 2 + 1, none⟩ = some (.int .i64 L[k].n) := by
  have hcc (i : Nat) (hi : i < 2) : wr.cell? ⟨blk, off + k * 2 + i, none⟩ = (lcs L[k])[i]? := (hb.cell (p := ⟨blk, off + k * 2 + i, none⟩) hl).trans (h k hk i hi)
  exact ⟨hcc 0 (by omega), hcc 1 (by omega)⟩
def BoP (b : Bool) (w : World) (e : Ending) (w' : World) : Prop := e = .returned (.bool b) ∧ w = w'
theorem xgoodq (n : Int) (w : World) : Calls Try.prog 39 #[.int .i64 n] w (BoP (decide (okq n)) w) := by
  by_cases h1 : 1 ≤ n
  · by_cases h2 : n ≤ 1125899906842624
    · rw [decide_eq_true (show okq n from ⟨h1, h2⟩)]
      go_enter Try.func39, Try.ntmps39
      go_wp2_with fail
      go_ret
      exact ⟨rfl, rfl⟩
    · rw [decide_eq_false (show ¬ okq n from fun h => h2 h.2)]
      go_enter Try.func39, Try.ntmps39
      go_wp2_with fail
      go_ret
      exact ⟨rfl, rfl⟩
  · rw [decide_eq_false (show ¬ okq n from fun h => h1 h.1)]
    go_enter Try.func39, Try.ntmps39
    go_wp2_with fail
    go_ret
    exact ⟨rfl, rfl⟩
theorem rgoodq (n : Int) (w : World) : Calls Try.prog 40 #[.int .i64 n] w (BoP (decide (okq n)) w) := by
  by_cases h1 : 1 ≤ n
  · by_cases h2 : n ≤ 1125899906842624
    · rw [decide_eq_true (show okq n from ⟨h1, h2⟩)]
      go_enter Try.func40, Try.ntmps40
      go_wp2_with fail
      go_ret
      exact ⟨rfl, rfl⟩
    · rw [decide_eq_false (show ¬ okq n from fun h => h2 h.2)]
      go_enter Try.func40, Try.ntmps40
      go_wp2_with fail
      go_ret
      exact ⟨rfl, rfl⟩
  · rw [decide_eq_false (show ¬ okq n from fun h => h1 h.1)]
    go_enter Try.func40, Try.ntmps40
    go_wp2_with fail
    go_ret
    exact ⟨rfl, rfl⟩
theorem res43 {w : World} {g : Nat} {v0 v1 : Value} (h : Bx w g #[v0, v1] 43) : (loadVar 43 ⟨g, 0, none⟩).run Try.prog w = .ok (.agg #[v0, v1]) w := by
  have c0 : w.cell? ⟨g, 0, none⟩ = some v0 := h.cell 0
  have c1 : w.cell? ⟨g, 1, none⟩ = some v1 := h.cell 1
  go_simp
def ApP (x : Lt) (w : World) (e : Ending) (w' : World) : Prop := e = .returned (.agg #[.string x.i, .int .i64 x.n]) ∧ Below w.heap.size w w'
set_option maxHeartbeats 8000000 in
theorem xapart (x : Lt) (hi : x.i.size ≤ 281474976710656) (w : World) : Calls Try.prog 63 #[.agg #[.string x.i, .int .i64 x.n]] w (ApP x w) := by
  obtain ⟨i, n⟩ := x
  unfold ApP
  simp only at *
  have H1 : Hid (∀ w, Calls Try.prog 70 #[.string i] w fun e w' => e = .returned (.string i) ∧ Below w.heap.size w w') := fun w => xclone i hi w
  obtain ⟨w1, hw1⟩ : ∃ w1, w1 = (w.alloc (.cells #[.string i, .int .i64 n] 43)).alloc (.cells #[.string ⟨#[]⟩, .int .i64 0] 43) := ⟨_, rfl⟩
  have HW : Hid ((w.alloc (.cells #[.string i, .int .i64 n] 43)).alloc (.cells #[.string ⟨#[]⟩, .int .i64 0] 43) = w1) := hw1.symm
  have hX0 : Bx w1 w.heap.size #[.string i, .int .i64 n] 43 := by rw [hw1]; exact (Bx.new w _ _).kept (World.grownBy_alloc _ _ none) (by simp)
  have hX1 : Bx w1 (w.heap.size + 1) #[.string ⟨#[]⟩, .int .i64 0] 43 := by
    rw [hw1]
    have := Bx.new (w.alloc (.cells #[.string i, .int .i64 n] 43)) #[.string ⟨#[]⟩, .int .i64 0] 43
    rw [World.size_alloc] at this
    exact this
  have hB : Below w.heap.size w w1 := by rw [hw1]; exact ((Below.refl _ w).alloc (Nat.le_refl _) _).alloc (by simp) _
  have HK : Hid (∀ w2, Below w1.heap.size w1 w2 → (w2.cell? ⟨w.heap.size, 0, none⟩ = some (.string i) ∧ w2.frozen? ⟨w.heap.size, 0, none⟩ = false) ∧
      (Bx (w2.setCell ⟨w.heap.size, 0, none⟩ (.string i)) w.heap.size #[.string i, .int .i64 n] 43 ∧ Bx (w2.setCell ⟨w.heap.size, 0, none⟩ (.string i)) (w.heap.size + 1) #[.string ⟨#[]⟩, .int .i64 0] 43 ∧ Below w.heap.size w (w2.setCell ⟨w.heap.size, 0, none⟩ (.string i)))) := fun w2 hb => by
    have h0 := hX0.below hb hX0.lt
    have h1 := hX1.below hb hX1.lt
    exact ⟨⟨h0.cell 0, h0.froz 0⟩, h0.setc 0 (.string i), h1.oset (by omega) 0 _, (hB.trans (hb.mono hB.size)).setCell (p := ⟨w.heap.size, 0, none⟩) (Nat.le_refl _) _⟩
  have c0 : w1.cell? ⟨w.heap.size, 0, none⟩ = some (.string i) := hX0.cell 0
  clear hw1 hi hX0 hX1 hB
  go_enter Try.func63, Try.ntmps63
  go_upto_region 1 with fail
  rw [HW.out]
  clear HW
  go_upto_region 2 with (go_at_call 70; refine (H1.out _).mono ?_; clear H1; rintro e w2 ⟨rfl, hb⟩; obtain ⟨⟨k0, k1⟩, HZ⟩ := HK.out w2 hb; replace HZ := hid_in HZ; clear HK hb c0)
  generalize hw3 : w2.setCell ⟨w.heap.size, 0, none⟩ (.string i) = w3 at *
  have HZ1 : Hid (Bx w3 (w.heap.size + 1) #[.string ⟨#[]⟩, .int .i64 0] 43 ∧ Below w.heap.size w w3) := HZ.out.2
  have d0 : w3.cell? ⟨w.heap.size, 0, none⟩ = some (.string i) := HZ.out.1.cell 0
  have d1 : w3.cell? ⟨w.heap.size, 1, none⟩ = some (.int .i64 n) := HZ.out.1.cell 1
  have e0 : w3.cell? ⟨w.heap.size + 1, 0, none⟩ = some (.string ⟨#[]⟩) := HZ1.out.1.cell 0
  have e1 : w3.cell? ⟨w.heap.size + 1, 1, none⟩ = some (.int .i64 0) := HZ1.out.1.cell 1
  have f0 : w3.frozen? ⟨w.heap.size + 1, 0, none⟩ = false := HZ1.out.1.froz 0
  have f1 : w3.frozen? ⟨w.heap.size + 1, 1, none⟩ = false := HZ1.out.1.froz 1
  clear hw3 HZ k0 k1
  go_wp2_with fail
  have HZ := (HZ1.out.1.setc 0 (.string i)).setc 1 (.int .i64 n)
  refine bodyPost_ret (res_cell _ _ 2 43 _ _ _ rfl rfl (res43 HZ)) rfl ?_
  exact ⟨rfl, ((HZ1.out.2.setCell (p := ⟨w.heap.size + 1, 0, none⟩) (by simp) _).setCell (p := ⟨w.heap.size + 1, 1, none⟩) (by simp) _)⟩
def cmpS (x y : List UInt8) : Int := if x < y then -1 else if y < x then 1 else 0
theorem cmpB_eq : ∀ (x y : List UInt8), Lib.compareBytes x y = cmpS x y
  | [], [] => by simp [Lib.compareBytes, cmpS]
  | [], _ :: _ => by simp [Lib.compareBytes, cmpS]
  | _ :: _, [] => by simp [Lib.compareBytes, cmpS]
  | a :: x, b :: y => by
    have ih := cmpB_eq x y
    unfold Lib.compareBytes
    rw [ih]
    unfold cmpS
    simp only [List.cons_lt_cons_iff]
    by_cases h1 : a < b
    · simp [h1]
    · by_cases h2 : b < a
      · have h3 : ¬ a = b := fun e => by subst e; exact h1 h2
        simp [h1, h2, h3]
      · have h3 : a = b := by
          rcases Nat.lt_trichotomy a.toNat b.toNat with h | h | h
          · exact absurd (UInt8.lt_iff_toNat_lt.2 h) h1
          · exact UInt8.toNat_inj.1 h
          · exact absurd (UInt8.lt_iff_toNat_lt.2 h) h2
        subst h3
        simp [h1]
theorem cmp_neg {x y : List UInt8} : cmpS x y < 0 ↔ x < y := by
  unfold cmpS
  constructor
  · intro h
    split at h
    · assumption
    · split at h <;> omega
  · intro h
    rw [if_pos h]
    omega
theorem cmp_zero {x y : List UInt8} : cmpS x y = 0 ↔ x = y := by
  unfold cmpS
  constructor
  · intro h
    split at h
    · omega
    · split at h
      · omega
      · rename_i h1 h2
        exact nlt_eq h1 h2
  · rintro rfl
    rw [if_neg (lt_ir x), if_neg (lt_ir x)]
set_option maxHeartbeats 1000000 in
set_option maxRecDepth 100000 in
theorem xcmp99 (a b : ByteArray) (w : World) : Calls Try.prog 99 #[.string a, .string b] w fun e w' => e = .returned (.int .i64 (cmpS a.toList b.toList)) ∧ w = w' := by
  rw [← cmpB_eq, tl, tl]
  go_enter Try.func99, Try.ntmps99
  go_wp2
  rw [run_callFunc_extern Try.func110 (by kernel_rfl) (by kernel_rfl) (by kernel_rfl) (e := Extern.BytealgCompare.compare) (by kernel_rfl), Lib.run_compareString]
  simp only [Result.andThen]
  rw [Oper.upon_value]
  go_wp2
  go_ret
  exact ⟨rfl, rfl⟩
theorem xcmp (a b : ByteArray) (w : World) : Calls Try.prog 74 #[.string a, .string b] w fun e w' => e = .returned (.int .i64 (cmpS a.toList b.toList)) ∧ w = w' := by
  have H : Hid (Calls Try.prog 99 #[.string a, .string b] w fun e w' => e = .returned (.int .i64 (cmpS a.toList b.toList)) ∧ w = w') := xcmp99 a b w
  generalize cmpS a.toList b.toList = r at *
  go_enter Try.func74, Try.ntmps74
  go_wp2_with (go_at_call 99; refine H.out.mono ?_; rintro e w' ⟨rfl, rfl⟩)
  go_ret
  exact ⟨rfl, rfl⟩
theorem xorder (i : ByteArray) (p : Int) (n : ByteArray) (w : World) : Calls Try.prog 67 #[.agg #[.string i, .int .i64 p], .string n] w fun e w' => e = .returned (.int .i64 (cmpS i.toList n.toList)) ∧ w' = w.alloc (.cells #[.string i, .int .i64 p] 43) := by
  have H : Hid (∀ w, Calls Try.prog 74 #[.string i, .string n] w fun e w' => e = .returned (.int .i64 (cmpS i.toList n.toList)) ∧ w = w') := fun w => xcmp i n w
  generalize cmpS i.toList n.toList = r at *
  go_enter Try.func67, Try.ntmps67
  go_wp2_with (go_at_call 74; refine (H.out _).mono ?_; rintro e w' ⟨rfl, rfl⟩)
  go_ret
  exact ⟨rfl, rfl⟩
def FdP (k : Nat) (b : Bool) (w : World) (e : Ending) (w' : World) : Prop := e = .returned (.tuple #[.int .i64 k, .bool b]) ∧ Below w.heap.size w w'
set_option maxHeartbeats 8000000 in
theorem xbs (L : List Lt) (hs : Srt L) (hl : L.length ≤ 1000000) (n : ByteArray) (a : Option Addr) (cap : Nat) (w : World) (h : Rw 2 lcs w a L) : Calls Try.prog 66 #[.slice a L.length cap, .string n, .func (.func 67) #[] #[]] w (FdP (pos L n.toList) (has L n.toList) w) := by
  have HE : Hid (Rw 2 lcs w a L) := h
  have HS : Hid (Srt L) := hs
  have HP : Hid (pos L n.toList ≤ L.length) := pos_le L n.toList
  clear h hs
  go_enter Try.func66, Try.ntmps66
  go_wp2_with fail
  go_loopw [9, 10] (fun s9 s10 wr => ∃ lo hi : Nat, s9 = .int .i64 lo ∧ s10 = .int .i64 hi ∧ lo ≤ hi ∧ hi ≤ L.length ∧ Hid (lo ≤ pos L n.toList ∧ pos L n.toList ≤ hi ∧ Below w.heap.size w wr))
    (fun s9 s10 _ => (intOf s10).toNat - (intOf s9).toNat)
  case atStart => exact ⟨0, L.length, rfl, rfl, Nat.zero_le _, Nat.le_refl _, Nat.zero_le _, HP.out, Below.refl _ _⟩
  case round =>
    obtain ⟨lo, hi, rfl, rfl, hlh, hin, HR⟩ := hrel
    by_cases hlt : lo < hi
    · have hltz : (lo : Int) < (hi : Int) := by omega
      obtain ⟨m, hm⟩ : ∃ m, m = (lo + hi) / 2 := ⟨_, rfl⟩
      have hmz : ((lo : Int) + (hi : Int)) / 2 = (m : Int) := by omega
      have hml : m < L.length := by omega
      have hmlz : (m : Int) < (L.length : Int) := by omega
      obtain ⟨blk, off, rfl, hbl, hcs⟩ := HE.out (by omega)
      obtain ⟨c0, c1⟩ := Rw.at2 hcs HR.out.2.2 hbl hml
      have HK : Hid (m < pos L n.toList ↔ key L[m] < n.toList) := pos_iff HS.out m hml
      have HL : Hid (lo ≤ m ∧ m < hi) := by constructor <;> omega
      clear hcs hm
      have HC : Hid (Calls Try.prog 67 #[.agg #[.string L[m].i, .int .i64 L[m].n], .string n] wr fun e w' => e = .returned (.int .i64 (cmpS L[m].i.toList n.toList)) ∧ Hid (Below w.heap.size w w')) := (xorder _ _ n wr).mono fun _ _ h => ⟨h.1, by rw [h.2]; exact HR.out.2.2.alloc HR.out.2.2.size _⟩
      by_cases hc : cmpS L[m].i.toList n.toList < 0
      · have HQ : Hid (m + 1 ≤ pos L n.toList ∧ pos L n.toList ≤ hi) := ⟨HK.out.2 (cmp_neg.1 hc), HR.out.2.1⟩
        clear HK HR
        generalize L[m] = x at *
        obtain ⟨xi, xp⟩ := x
        simp only at *
        generalize cmpS xi.toList n.toList = r at *
        go_wp2_with (go_at_call 67; refine HC.out.mono ?_; clear HC; rintro e w1 ⟨rfl, HB1⟩)
        go_roundw
        case rel => exact ⟨m + 1, hi, by simp, rfl, by have := HL.out; omega, hin, HQ.out.1, HQ.out.2, HB1.out⟩
        case measure => have := HL.out; simp [intOf]; omega
      · have HQ : Hid (lo ≤ pos L n.toList ∧ pos L n.toList ≤ m) := ⟨HR.out.1, Nat.le_of_not_lt fun h => hc (cmp_neg.2 (HK.out.1 h))⟩
        clear HK HR
        generalize L[m] = x at *
        obtain ⟨xi, xp⟩ := x
        simp only at *
        generalize cmpS xi.toList n.toList = r at *
        go_wp2_with (go_at_call 67; refine HC.out.mono ?_; clear HC; rintro e w1 ⟨rfl, HB1⟩)
        go_roundw
        case rel => exact ⟨lo, m, rfl, by simp, by have := HL.out; omega, by omega, HQ.out.1, HQ.out.2, HB1.out⟩
        case measure => have := HL.out; simp [intOf]; omega
    · have hltz : ¬ (lo : Int) < (hi : Int) := by omega
      have hlp : lo = pos L n.toList := by have := HR.out; omega
      have HB : Hid (Below w.heap.size w wr) := HR.out.2.2
      by_cases hpl : lo < L.length
      · have hplz : (lo : Int) < (L.length : Int) := by omega
        obtain ⟨blk, off, rfl, hbl, hcs⟩ := HE.out (by omega)
        obtain ⟨c0, c1⟩ := Rw.at2 hcs HB.out hbl hpl
        have HC : Hid (Calls Try.prog 67 #[.agg #[.string L[lo].i, .int .i64 L[lo].n], .string n] wr fun e w' => e = .returned (.int .i64 (cmpS L[lo].i.toList n.toList)) ∧ Hid (Below w.heap.size w w')) := (xorder _ _ n wr).mono fun _ _ h => ⟨h.1, by rw [h.2]; exact HB.out.alloc HB.out.size _⟩
        have HH : Hid ((cmpS L[lo].i.toList n.toList == 0) = has L n.toList) := by
          unfold Hid
          rw [Bool.eq_iff_iff, beq_iff_eq, cmp_zero]
          constructor
          · intro e; exact (at_pos HS.out hpl e).1
          · intro e
            obtain ⟨h1, h2⟩ := has_pos HS.out e
            have : L[lo] = L[pos L n.toList] := by congr 1
            rw [this]
            exact h2
        have HF : Hid (∀ w', Below w.heap.size w w' → FdP (pos L n.toList) (has L n.toList) w (.returned (.tuple #[.int .i64 lo, .bool (has L n.toList)])) w') := fun w' hb => ⟨by rw [hlp], hb⟩
        clear hlp HR hcs
        generalize L[lo] = x at *
        obtain ⟨xi, xp⟩ := x
        simp only at *
        generalize cmpS xi.toList n.toList = r at *
        generalize has L n.toList = g at *
        generalize pos L n.toList = ps at *
        have hh := HH.out
        clear HH
        go_wp2_with (go_at_call 67; refine HC.out.mono ?_; clear HC; rintro e w1 ⟨rfl, HB1⟩)
        go_ret2
        exact HF.out _ HB1.out
      · have hplz : ¬ (lo : Int) < (L.length : Int) := by omega
        have HF : Hid (FdP (pos L n.toList) (has L n.toList) w (.returned (.tuple #[.int .i64 lo, .bool false])) wr) := by
          have : has L n.toList = false := by
            cases e : has L n.toList with
            | false => rfl
            | true => obtain ⟨h1, _⟩ := has_pos HS.out e; omega
          rw [this, ← hlp]
          exact ⟨rfl, HB.out⟩
        clear hlp HR
        go_wp2_with fail
        go_ret2
        exact HF.out
end Go.Proofs.Ytheikjjehidagaa
