/- The reference's Uint, Fold, Int, Text, Bool, Ints. -/
import Derived.Test.YtdmlgheajblcdaaGreatNJ
import Derived.WalkKit
import Derived.ProofKit
import Derived.Handy
import Derived.WalkLawsBesides
import Derived.WalkSpells
import Derived.BigQuiet
import Derived.BigCall
import Derived.Deep.QuietTactic
import Derived.Deep.Light
import Derived.Deep.OwnRows
import Derived.Laws.AppendOwnNone
import Derived.Laws.Strings3
import Derived.Laws.RangeAny
import Derived.Deep.RegionWith
import Derived.Lib.BitFns
import Derived.Lib.Walk
import Derived.Lib.Strings
import Derived.Lib.OthersKept
import Derived.Deep.CutBlock
import Derived.Deep.DeepCutAuto
import Derived.Deep.LoopGhost
import Derived.Deep.RegionHeld3
import Derived.Lib.SmallJoins
import Derived.Maps.AppendAt
import Derived.Laws.IdiomStrings
import Derived.Lib.AppendZeros
import Derived.Deep.WholeRow
import Derived.Laws.BitsAllLaws
import Derived.Lib.ConvBytes
import Derived.Deep.RegionLaw
namespace Go.Proofs.YtdmlgheajblcdaaGreat
open Go.RowKit
set_option linter.unusedVariables false
set_option linter.unusedSimpArgs false
set_option maxRecDepth 20000
def SB (l : List UInt8) (w : World) (e : Ending) (w' : World) : Prop := e = .returned (.string ⟨l.toArray⟩) ∧ Below w.heap.size w w'
theorem SB.mk {l : List UInt8} {s : ByteArray} {w w' : World} (h : s.data.toList = l) (hb : Below w.heap.size w w') : SB l w (.returned (.string s)) w' := ⟨by rw [← h], hb⟩
def BB (b : Bool) (w : World) (e : Ending) (w' : World) : Prop := e = .returned (.bool b) ∧ Below w.heap.size w w'
theorem BB.mk {b c : Bool} {w w' : World} (h : c = b) (hb : Below w.heap.size w w') : BB b w (.returned (.bool c)) w' := ⟨by rw [h], hb⟩
theorem str_of {w : World} {l : List UInt8} {b cap : Nat} (hb : w.heap[b]? = some (.cells (Lib.byteCells l).toArray 5 (0, 0))) : (convert 113 9 (Value.slice (some ⟨b, 0, none⟩) l.length cap)).run Tryz.prog w = .ok (.string ⟨l.toArray⟩) w := by
  refine run_convert_bytes_back w 113 9 5 ⟨b, 0, none⟩ cap l Tryz.underlying113 Tryz.underlying5 Tryz.underlying9 ?_
  intro j hj
  have ha : (⟨b, 0, none⟩ : Addr).add j = ⟨b, j, none⟩ := by
    cases j <;> simp [Addr.add]
  rw [ha]
  simp [World.cell?, hb, Lib.byteCells, hj]
theorem str_one (w : World) (c : Nat) (hc : c < 256) (z : Int) (hz : z = c) : (convert 113 9 (Value.slice (some ⟨w.heap.size, 0, none⟩) 1 1)).run Tryz.prog (w.alloc (.cells #[.int .u8 z] 5)) = .ok (.string ⟨#[UInt8.ofNat c]⟩) (w.alloc (.cells #[.int .u8 z] 5)) := by
  subst hz
  have e : (Lib.byteCells [UInt8.ofNat c]).toArray = #[Value.int .u8 (c : Int)] := by simp [Lib.byteCells, UInt8.toNat_ofNat', Nat.mod_eq_of_lt hc]
  have := str_of (w := w.alloc (.cells #[.int .u8 (c : Int)] 5)) (l := [UInt8.ofNat c]) (b := w.heap.size) (cap := 1) (by rw [e]; exact heap_alloc_new w _)
  exact this
theorem hiL_ten {m : Nat} (hm : m < 18446744073709551616) (h0 : m ≠ 0) : hiL 10 m = hiL 10 (m / 128) ++ [UInt8.ofNat (128 + m % 128)] := by
  rw [hiL_at h0, hiL_more 9 (m / 128) (by omega)]
set_option maxHeartbeats 4000000 in
theorem ruint (n : Nat) (hn : n < 18446744073709551616) (w : World) : Calls Tryz.prog 52 #[.int .u64 n] w (SB (uintL n) w) := by
  have hcv := str_one w (n % 128) (by omega) ((n : Int) % 128) (by omega)
  have HB0 : Hid (Below w.heap.size w (w.alloc (.cells #[.int .u8 ((n : Int) % 128)] 5))) := below_new w _
  have HS0 : Hid (uintL n = hiL 10 (n / 128) ++ (⟨#[UInt8.ofNat (n % 128)]⟩ : ByteArray).data.toList) := rfl
  have hz1 : (⟨#[UInt8.ofNat (n % 128)]⟩ : ByteArray).size ≤ 1 := Nat.le_refl 1
  generalize (⟨#[UInt8.ofNat (n % 128)]⟩ : ByteArray) = S0 at *
  go_enter Tryz.func52, Tryz.ntmps52
  go_wp2_with fail
  go_loopw [0, 3] (fun i v wr => ∃ (m : Nat) (S : ByteArray), i = .int .u64 m ∧ v = .string S ∧ m < 18446744073709551616 ∧ Hid (uintL n = hiL 10 m ++ S.data.toList) ∧ Hid (Below w.heap.size w wr)) (fun i _ _ => (Lib.intOf i).toNat)
  case atStart => exact ⟨n / 128, S0, by rw [Int.natCast_ediv]; rfl, rfl, by omega, HS0, HB0⟩
  case round =>
    clear HS0 HB0 hcv
    obtain ⟨m, S, rfl, rfl, hm, HS, HB⟩ := hrel
    have hsz : S.size ≤ 10 := by
      have h1 := (uint_len hn).2
      have h2 := congrArg List.length HS.out
      rw [List.length_append] at h2
      have h3 : S.data.toList.length = S.size := rfl
      omega
    by_cases h0 : m = 0
    · have hz : ¬ (0 : Int) < (m : Int) := by omega
      have HE : Hid (S.data.toList = uintL n) := by unfold Hid; rw [HS.out, h0, hiL_zero, List.nil_append]
      clear h0
      go_wp2_with fail
      go_ret
      exact SB.mk HE.out HB.out
    · have hz : (0 : Int) < (m : Int) := by omega
      have hcv := str_one wr (128 + m % 128) (by omega) (128 + (m : Int) % 128) (by omega)
      have HB2 : Hid (Below w.heap.size w (wr.alloc (.cells #[.int .u8 (128 + (m : Int) % 128)] 5))) := HB.out.alloc HB.out.size _
      have HS2 : Hid (uintL n = hiL 10 (m / 128) ++ ((⟨#[UInt8.ofNat (128 + m % 128)]⟩ : ByteArray) ++ S).data.toList) := by
        unfold Hid
        rw [HS.out, hiL_ten hm h0, ByteArray.data_append, Array.toList_append, List.append_assoc]
      have hz1 : (⟨#[UInt8.ofNat (128 + m % 128)]⟩ : ByteArray).size = 1 := rfl
      generalize (⟨#[UInt8.ofNat (128 + m % 128)]⟩ : ByteArray) = C at *
      go_wp2_with fail
      exact ⟨⟨m / 128, C ++ S, by rw [Int.natCast_ediv]; rfl, rfl, by omega, HS2.out, HB2.out⟩, by simp [Lib.intOf]; omega⟩
set_option maxHeartbeats 4000000 in
theorem rfold (n : Int) (hn : I64 n) (w : World) : Calls Tryz.prog 76 #[.int .i64 n] w (NP .u64 (fo n : Nat) w) := by
  obtain ⟨h1, h2⟩ := hn
  by_cases h0 : n < 0
  · have HT : Hid (IntKind.u64.wrap (2 * (-1 - n) + 1) = ((fo n : Nat) : Int)) := by unfold Hid; rw [fo_neg h0, IntKind.wrap_u64]; omega
    have HT2 : Hid (2 * (-1 - n) + 1 = ((fo n : Nat) : Int)) := by unfold Hid; rw [fo_neg h0]; omega
    go_enter Tryz.func76, Tryz.ntmps76
    go_wp2_with fail
    go_ret
    exact NP.mk (by first | exact HT.out | exact HT2.out)
  · have HT : Hid (IntKind.u64.wrap (2 * n) = ((fo n : Nat) : Int)) := by unfold Hid; rw [fo_pos h0, IntKind.wrap_u64]; omega
    have HT2 : Hid (2 * n = ((fo n : Nat) : Int)) := by unfold Hid; rw [fo_pos h0]; omega
    go_enter Tryz.func76, Tryz.ntmps76
    go_wp2_with fail
    go_ret
    exact NP.mk (by first | exact HT.out | exact HT2.out)
set_option maxHeartbeats 4000000 in
theorem rint (n : Int) (hn : I64 n) (w : World) : Calls Tryz.prog 49 #[.int .i64 n] w (SB (intL n) w) := by
  have HF : Hid (∀ w, Calls Tryz.prog 76 #[.int .i64 n] w (NP .u64 (fo n : Nat) w)) := fun w => rfold n hn w
  have HU : Hid (∀ w, Calls Tryz.prog 52 #[.int .u64 ((fo n : Nat) : Int)] w (SB (intL n) w)) := fun w => ruint (fo n) (fo_lt hn) w
  unfold SB at HU
  have HS : Hid ((⟨(intL n).toArray⟩ : ByteArray).data.toList = intL n) := rfl
  generalize (⟨(intL n).toArray⟩ : ByteArray) = S at *
  obtain ⟨h1, h2⟩ := hn
  generalize fo n = m at *
  go_enter Tryz.func49, Tryz.ntmps49
  go_wp2_with fail
  refine (HF.out _).mono ?_
  rintro e w1 ⟨rfl, rfl⟩
  go_wp2_with fail
  refine (HU.out _).mono ?_
  rintro e w1 ⟨rfl, hb⟩
  have HB : Hid (Below w.heap.size w w1) := hb
  clear hb
  go_wp2_with fail
  go_ret
  exact SB.mk HS.out HB.out
set_option maxHeartbeats 4000000 in
theorem rtext (s : ByteArray) (hs : s.size ≤ 1000000000000) (w : World) : Calls Tryz.prog 50 #[.string s] w (SB (textL s.data.toList) w) := by
  have HU : Hid (∀ w, Calls Tryz.prog 52 #[.int .u64 (s.size : Int)] w (SB (uintL s.size) w)) := fun w => ruint s.size (by omega) w
  unfold SB at HU
  have HS : Hid ((⟨(uintL s.size).toArray⟩ : ByteArray).data.toList = uintL s.size) := rfl
  have hz : (⟨(uintL s.size).toArray⟩ : ByteArray).size ≤ 10 := (uint_len (n := s.size) (by omega)).2
  generalize (⟨(uintL s.size).toArray⟩ : ByteArray) = S at *
  have HT : Hid ((S ++ s).data.toList = textL s.data.toList) := by
    unfold Hid
    rw [ByteArray.data_append, Array.toList_append, HS.out]
    rfl
  go_enter Tryz.func50, Tryz.ntmps50
  go_wp2_with fail
  refine (HU.out _).mono ?_
  rintro e w1 ⟨rfl, hb⟩
  have HB : Hid (Below w.heap.size w w1) := hb
  clear hb
  go_wp2_with fail
  go_ret
  exact SB.mk HT.out HB.out
set_option maxHeartbeats 4000000 in
theorem rbool (b : Bool) (w : World) : Calls Tryz.prog 77 #[.bool b] w (SB (boolL b) w) := by
  cases b with
  | true =>
    go_enter Tryz.func77, Tryz.ntmps77
    go_wp2_with fail
    go_ret
    exact SB.mk rfl (Below.refl _ w)
  | false =>
    go_enter Tryz.func77, Tryz.ntmps77
    go_wp2_with fail
    go_ret
    exact SB.mk rfl (Below.refl _ w)
set_option maxHeartbeats 4000000 in
theorem rints (xs : List Int) (a : Option Addr) (cap : Nat) (w : World) (hI : Ins w.heap.size w a xs) (hx : ∀ n ∈ xs, I64 n) (hl : xs.length ≤ 1000000) : Calls Tryz.prog 53 #[.slice a xs.length cap] w (SB (intsL xs) w) := by
  have HU : Hid (∀ w, Calls Tryz.prog 52 #[.int .u64 (xs.length : Int)] w (SB (uintL xs.length) w)) := fun w => ruint xs.length (by omega) w
  unfold SB at HU
  have HS : Hid ((⟨(uintL xs.length).toArray⟩ : ByteArray).data.toList = uintL xs.length) := rfl
  have hz : (⟨(uintL xs.length).toArray⟩ : ByteArray).size ≤ 10 := (uint_len (n := xs.length) (by omega)).2
  generalize (⟨(uintL xs.length).toArray⟩ : ByteArray) = S at *
  have HI : Hid (Ins w.heap.size w a xs) := hI
  have HN : Hid (∀ n ∈ xs, I64 n) := hx
  clear hI hx
  go_enter Tryz.func53, Tryz.ntmps53
  go_wp2_with fail
  refine (HU.out _).mono ?_
  rintro e w1 ⟨rfl, hb⟩
  have HB1 : Hid (Below w.heap.size w w1) := hb
  clear hb HU
  go_wp2_with fail
  go_loopw [3, 4] (fun v i wr => ∃ (k : Nat) (T : ByteArray), i = .int .i64 k ∧ v = .string T ∧ k ≤ xs.length ∧ Hid (T.data.toList = uintL xs.length ++ flatI (xs.take k)) ∧ Hid (Below w.heap.size w wr)) (fun _ i _ => xs.length - (Lib.intOf i).toNat)
  case atStart => exact ⟨0, S, rfl, rfl, Nat.zero_le _, by unfold Hid; rw [HS.out]; show _ = _ ++ []; rw [List.append_nil], HB1⟩
  case round =>
    clear HS HB1
    obtain ⟨k, T, rfl, rfl, hk, HT, HB⟩ := hrel
    by_cases hkn : k < xs.length
    · have hkz : (k : Int) < (xs.length : Int) := by omega
      have hTs : T.size ≤ 20000000 := by
        have h0 : T.data.toList.length = T.size := rfl
        rw [HT.out, List.length_append] at h0
        have h1 := (uint_len (n := xs.length) (by omega)).2
        have h2 := flatI_len (xs.take k) (fun n hn => HN.out n (List.mem_of_mem_take hn))
        rw [List.length_take] at h2
        omega
      obtain ⟨b, off, rfl, hbl, hce⟩ := HI.out (by omega)
      have hc : wr.cell? ⟨b, off + k, none⟩ = some (.int .i64 xs[k]) := (HB.out.cell (by exact hbl)).trans (hce k hkn)
      have HC : Hid (∀ w, Calls Tryz.prog 49 #[.int .i64 xs[k]] w (SB (intL xs[k]) w)) := fun w => rint xs[k] (HN.out _ (List.getElem_mem hkn)) w
      unfold SB at HC
      have HT2 : Hid ((T ++ (⟨(intL xs[k]).toArray⟩ : ByteArray)).data.toList = uintL xs.length ++ flatI (xs.take (k + 1))) := by
        unfold Hid
        rw [ByteArray.data_append, Array.toList_append, HT.out, flatI_take hkn, List.append_assoc]
      have hz2 : (⟨(intL xs[k]).toArray⟩ : ByteArray).size ≤ 10 := (uint_len (fo_lt (HN.out _ (List.getElem_mem hkn)))).2
      generalize (⟨(intL xs[k]).toArray⟩ : ByteArray) = D at *
      generalize xs[k] = n at *
      clear hce HT
      go_wp2_with fail
      refine (HC.out _).mono ?_
      rintro e w3 ⟨rfl, hb3⟩
      have HB3 : Hid (Below w.heap.size w w3) := HB.out.trans (hb3.mono HB.out.size)
      clear hb3
      go_wp2_with fail
      exact ⟨⟨k + 1, T ++ D, by go_num, rfl, by omega, HT2.out, HB3.out⟩, by simp [Lib.intOf]; omega⟩
    · have hkz : ¬ (k : Int) < (xs.length : Int) := by omega
      have HE : Hid (T.data.toList = intsL xs) := by unfold Hid intsL; rw [HT.out, List.take_of_length_le (by omega)]
      go_wp2_with fail
      go_ret
      exact SB.mk HE.out HB.out
/- the same numbers? -/
set_option maxHeartbeats 4000000 in
theorem rsame (xs ys : List Int) (a b : Option Addr) (c d : Nat) (w : World) (B : Nat) (hB : B ≤ w.heap.size) (hx : Ins B w a xs) (hy : Ins B w b ys) (he : xs = ys) (hl : xs.length ≤ 1000000000000) : Calls Tryz.prog 98 #[.slice a xs.length c, .slice b ys.length d] w (BB true w) := by
  subst he
  have HX : Hid (Ins B w a xs) := hx
  have HY : Hid (Ins B w b xs) := hy
  clear hx hy
  go_enter Tryz.func98, Tryz.ntmps98
  go_wp2_with fail
  go_loopw [5] (fun i wr => ∃ (k : Nat), i = .int .i64 k ∧ k ≤ xs.length ∧ Hid (Below w.heap.size w wr)) (fun i _ => xs.length - (Lib.intOf i).toNat)
  case atStart => exact ⟨0, rfl, Nat.zero_le _, Below.refl _ _⟩
  case round =>
    obtain ⟨k, rfl, hk, HBw⟩ := hrel
    by_cases hkn : k < xs.length
    · have hkz : (k : Int) < (xs.length : Int) := by omega
      obtain ⟨b1, off1, rfl, hbl1, hce1⟩ := HX.out (by omega)
      obtain ⟨b2, off2, rfl, hbl2, hce2⟩ := HY.out (by omega)
      have hc1 : wr.cell? ⟨b1, off1 + k, none⟩ = some (.int .i64 xs[k]) := (HBw.out.cell (by exact Nat.lt_of_lt_of_le hbl1 hB)).trans (hce1 k hkn)
      have hc2 : wr.cell? ⟨b2, off2 + k, none⟩ = some (.int .i64 xs[k]) := (HBw.out.cell (by exact Nat.lt_of_lt_of_le hbl2 hB)).trans (hce2 k hkn)
      generalize xs[k] = n at *
      clear hce1 hce2
      go_wp2_with fail
      go_quiet (fail)
      go_wp2_with fail
      exact ⟨⟨k + 1, by go_num, by omega, bdrew HBw.out _⟩, by simp [Lib.intOf]; omega⟩
    · have hkz : ¬ (k : Int) < (xs.length : Int) := by omega
      go_wp2_with fail
      go_ret
      exact BB.mk rfl HBw.out
end Go.Proofs.YtdmlgheajblcdaaGreat
