/- The program's shiftByte and Sum. -/
import Derived.Test.YteiilifljfagdaaB
import Derived.WalkKit
import Derived.ProofKit
import Derived.Handy
import Derived.WalkLawsBesides
import Derived.WalkSpells
import Derived.BigQuiet
import Derived.BigCall
import Derived.Deep.QuietTactic
import Derived.Deep.Light
import Derived.Deep.OwnRows
import Derived.Laws.AppendOwnNone
import Derived.Laws.Strings3
import Derived.Laws.RangeAny
import Derived.Deep.RegionWith
import Derived.Lib.BitFns
import Derived.Lib.Walk
import Derived.Lib.Strings
import Derived.Lib.OthersKept
import Derived.Deep.CutBlock
import Derived.Deep.DeepCutAuto
import Derived.Deep.LoopGhost
import Derived.Deep.RegionHeld3
import Derived.Lib.SmallJoins
import Derived.Maps.AppendAt
import Derived.Laws.IdiomStrings
import Derived.Lib.AppendZeros
import Derived.Deep.WholeRow
import Derived.Laws.BitsAllLaws
import Derived.Lib.ConvBytes
namespace Go.Proofs.Yteiilifljfagdaa
open Go.RowKit
set_option linter.unusedVariables false
set_option linter.unusedSimpArgs false
theorem turn32 {r : Nat} (h : r < 4294967296) : 4294967295 - r = 4294967295 ^^^ r := by
  refine Nat.eq_of_testBit_eq fun i => ?_
  rw [Nat.testBit_xor, show 4294967295 - r = 2 ^ 32 - (r + 1) by omega, Nat.testBit_two_pow_sub_succ (by omega), show (4294967295 : Nat) = 2 ^ 32 - 1 by rfl, Nat.testBit_two_pow_sub_one]
  by_cases hi : i < 32
  · rw [decide_eq_true hi]; simp
  · have : r < 2 ^ i := Nat.lt_of_lt_of_le h (by have : 2 ^ 32 ≤ 2 ^ i := Nat.pow_le_pow_right (by omega) (by omega); omega)
    rw [decide_eq_false hi, Nat.testBit_lt_two_pow this]
    rfl
/-- A call answers a number, and leaves the world alone. -/
def NP (k : IntKind) (n : Int) (w : World) (e : Ending) (w' : World) : Prop := e = .returned (.int k n) ∧ w = w'
theorem NP.mk {k : IntKind} {n m : Int} {w : World} (h : m = n) : NP k n w (.returned (.int k m)) w := ⟨by rw [h], rfl⟩
theorem and_one (c : Nat) (hc : c < 4294967296) : bits .and .u32 (c : Int) 1 = ((c % 2 : Nat) : Int) := by
  have := u32_and_nat c 1 hc (by omega)
  rw [Nat.and_one_is_mod] at this
  exact this
theorem xor_half (c : Nat) (hc : c < 4294967296) : bits .xor .u32 ((c : Int) / 2) 3988292384 = ((c / 2 ^^^ 3988292384 : Nat) : Int) := u32_xor_nat (c / 2) 3988292384 (by omega) (by omega)
theorem stn_go {k c m : Nat} (hk : k < 8) (h : stn (8 - k) c = m) : stn (8 - (k + 1)) (st c) = m := by
  rw [show 8 - k = 8 - (k + 1) + 1 by omega] at h
  exact h
theorem st_odd {c : Nat} (h : c % 2 = 1) : st c = c / 2 ^^^ 3988292384 := if_pos h
theorem st_even {c : Nat} (h : ¬ c % 2 = 1) : st c = c / 2 := if_neg h
set_option maxHeartbeats 4000000 in
theorem xshift (r : Nat) (hr : r < 4294967296) (w : World) : Calls Try.prog 82 #[.int .u32 r] w (NP .u32 (stn 8 r) w) := by
  go_enter Try.func82, Try.ntmps82
  go_wp2_with fail
  go_loopw [0, 4] (fun v i wr => ∃ (k c : Nat), v = .int .u32 c ∧ i = .int .i64 k ∧ k ≤ 8 ∧ c < 4294967296 ∧ w = wr ∧ Hid (stn (8 - k) c = stn 8 r)) (fun _ i _ => 8 - (Lib.intOf i).toNat)
  case atStart => exact ⟨0, r, rfl, rfl, by omega, hr, by first | rfl | trivial, rfl⟩
  case round =>
    obtain ⟨k, c, rfl, rfl, hk, hc, rfl, hst⟩ := hrel
    by_cases hkn : k < 8
    · have hkz : (k : Int) < 8 := by omega
      have hgo := stn_go hkn hst.out
      have hlt := st_lt hc
      by_cases h2 : c % 2 = 1
      · have ha : bits .and .u32 (c : Int) 1 = 1 := by rw [and_one c hc, h2]; rfl
        have hx := xor_half c hc
        rw [st_odd h2] at hgo hlt
        have HG : Hid (stn (8 - (k + 1)) (c / 2 ^^^ 3988292384) = stn 8 r) := hgo
        have HX : Hid _ := hx
        have HL : Hid (c / 2 ^^^ 3988292384 < 4294967296) := hlt
        clear hgo hx hlt
        go_wp2_with fail
        exact ⟨⟨k + 1, c / 2 ^^^ 3988292384, by rw [HX.out], by go_num, by omega, HL.out, by first | rfl | trivial, HG.out⟩, by simp [Lib.intOf]; omega⟩
      · have ha : bits .and .u32 (c : Int) 1 = 0 := by rw [and_one c hc, show c % 2 = 0 by omega]; rfl
        rw [st_even h2] at hgo hlt
        have HG : Hid (stn (8 - (k + 1)) (c / 2) = stn 8 r) := hgo
        have HL : Hid (c / 2 < 4294967296) := hlt
        clear hgo hlt
        go_wp2_with fail
        exact ⟨⟨k + 1, c / 2, by go_num, by go_num, by omega, HL.out, by first | rfl | trivial, HG.out⟩, by simp [Lib.intOf]; omega⟩
    · have hkz : ¬ (k : Int) < 8 := by omega
      have : k = 8 := by omega
      subst this
      go_wp2_with fail
      go_ret
      exact NP.mk (by rw [← hst.out]; rfl)
theorem drop_at {s : ByteArray} {k : Nat} (h : k < s.size) : s.data.toList.drop k = s[k] :: s.data.toList.drop (k + 1) := by
  have h1 : k < s.data.toList.length := h
  rw [List.drop_eq_getElem_cons h1]
  rfl
theorem take_at {s : ByteArray} {k : Nat} (h : k < s.size) : s.data.toList.take (k + 1) = s.data.toList.take k ++ [s[k]] := by
  rw [List.take_succ_eq_append_getElem (by simpa using h)]
  rfl
theorem at_data {s : ByteArray} {k : Nat} (h : k < s.size) : s.data.toList.getD k 0 = s[k] := by
  have h1 : k < s.data.toList.length := h
  rw [List.getD_eq_getElem?_getD, List.getElem?_eq_getElem h1]
  rfl
theorem crcN_take {s : ByteArray} {k : Nat} (h : k < s.size) : crcN (s.data.toList.take (k + 1)) = stn 8 (crcN (s.data.toList.take k) ^^^ s[k].toNat) := by
  rw [take_at h]
  exact crcN_snoc _ _
theorem not32 (c : Nat) (hc : c < 4294967296) : bits .xor .u32 IntKind.u32.max (c : Int) = ((4294967295 - c : Nat) : Int) := by
  rw [turn32 hc]
  exact u32_xor_nat 4294967295 c (by omega) hc
set_option maxHeartbeats 4000000 in
theorem xsum (s : ByteArray) (hs : s.size ≤ 9223372036854775807) (w : World) : Calls Try.prog 71 #[.string s] w (NP .u32 (sumN s.data.toList) w) := by
  have HL : Hid (s.data.toList.length = s.size) := rfl
  go_enter Try.func71, Try.ntmps71
  go_wp2_with fail
  go_loopw [3, 7] (fun v i wr => ∃ (k c : Nat), v = .int .u32 c ∧ i = .int .i64 k ∧ k ≤ s.size ∧ c < 4294967296 ∧ w = wr ∧ Hid (c = crcN (s.data.toList.take k))) (fun _ i _ => s.size - (Lib.intOf i).toNat)
  case atStart => exact ⟨0, 4294967295, rfl, rfl, Nat.zero_le _, by omega, by first | rfl | trivial, rfl⟩
  case round =>
    obtain ⟨k, c, rfl, rfl, hk, hc, rfl, hcr⟩ := hrel
    by_cases hkn : k < s.size
    · have hkz : (k : Int) < (s.size : Int) := by omega
      have hst := crcN_take hkn
      rw [← hcr.out] at hst
      obtain ⟨x, hx⟩ : ∃ x : UInt8, s[k] = x := ⟨_, rfl⟩
      rw [hx] at hst
      have hxl := x.toNat_lt
      have hb := u32_xor_nat c x.toNat hc (by omega)
      have hlt : c ^^^ x.toNat < 4294967296 := Nat.xor_lt_two_pow (n := 32) (by omega) (by omega)
      have hl2 := stn_lt 8 hlt
      have HC : Hid (∀ w, Calls Try.prog 82 #[.int .u32 ((c ^^^ x.toNat : Nat) : Int)] w (NP .u32 (stn 8 (c ^^^ x.toNat)) w)) := fun w => xshift _ hlt w
      have HS : Hid (crcN (s.data.toList.take (k + 1)) = stn 8 (c ^^^ x.toNat)) := hst
      clear hst hlt hcr
      generalize stn 8 (c ^^^ x.toNat) = d at *
      generalize c ^^^ x.toNat = z at *
      go_wp2_with fail
      refine (HC.out _).mono ?_
      rintro e w1 ⟨rfl, rfl⟩
      go_wp2_with fail
      exact ⟨⟨k + 1, d, by first | rfl | trivial, by go_num, by omega, hl2, by first | rfl | trivial, HS.out.symm⟩, by simp [Lib.intOf]; omega⟩
    · have hkz : ¬ (k : Int) < (s.size : Int) := by omega
      have HS : Hid (sumN s.data.toList = 4294967295 - c) := by
        have h1 := hcr.out
        rw [List.take_of_length_le (by rw [HL.out]; omega)] at h1
        unfold Hid sumN
        rw [h1]
      have HN : Hid (bits .xor .u32 IntKind.u32.max (c : Int) = ((4294967295 - c : Nat) : Int)) := not32 c hc
      clear hcr
      go_wp2_with fail
      go_ret
      exact NP.mk (by rw [HS.out]; exact HN.out)
/- The reference's four and Put. -/
theorem str_of {w : World} {l : List UInt8} {b cap : Nat} (hb : w.heap[b]? = some (.cells (Lib.byteCells l).toArray 5 (0, 0))) : (convert 55 9 (Value.slice (some ⟨b, 0, none⟩) l.length cap)).run Try.prog w = .ok (.string ⟨l.toArray⟩) w := by
  refine run_convert_bytes_back w 55 9 5 ⟨b, 0, none⟩ cap l Try.underlying55 Try.underlying5 Try.underlying9 ?_
  intro j hj
  have ha : (⟨b, 0, none⟩ : Addr).add j = ⟨b, j, none⟩ := by
    cases j <;> simp [Addr.add]
  rw [ha]
  simp [World.cell?, hb, Lib.byteCells, hj]
theorem str_new (w : World) (l : List UInt8) (cap : Nat) : (convert 55 9 (Value.slice (some ⟨w.heap.size, 0, none⟩) l.length cap)).run Try.prog (w.alloc (.cells (Lib.byteCells l).toArray 5)) = .ok (.string ⟨l.toArray⟩) (w.alloc (.cells (Lib.byteCells l).toArray 5)) := str_of (heap_alloc_new w _)
theorem below_new (w : World) (o : Obj) : Below w.heap.size w (w.alloc o) := (Below.refl _ w).alloc (Nat.le_refl _) _
/-- A call answers a text, and changes nothing that was there. -/
def SB (l : List UInt8) (w : World) (e : Ending) (w' : World) : Prop := e = .returned (.string ⟨l.toArray⟩) ∧ Below w.heap.size w w'
theorem SB.mk {l : List UInt8} {s : ByteArray} {w w' : World} (h : s.data.toList = l) (hb : Below w.heap.size w w') : SB l w (.returned (.string s)) w' := ⟨by rw [← h], hb⟩
theorem four_cells (n : Nat) (h : n < 4294967296) : (Lib.byteCells (four n)).toArray = #[.int .u8 ((n : Int) % 256), .int .u8 ((n : Int) / 256 % 256), .int .u8 ((n : Int) / 65536 % 256), .int .u8 ((n : Int) / 16777216)] := by
  simp only [four, Lib.byteCells, List.map, u8n _ (show n % 256 < 256 by omega), u8n _ (show n / 256 % 256 < 256 by omega), u8n _ (show n / 65536 % 256 < 256 by omega), u8n _ (show n / 16777216 % 256 < 256 by omega)]
  rw [show ((n % 256 : Nat) : Int) = (n : Int) % 256 by omega, show ((n / 256 % 256 : Nat) : Int) = (n : Int) / 256 % 256 by omega, show ((n / 65536 % 256 : Nat) : Int) = (n : Int) / 65536 % 256 by omega, show ((n / 16777216 % 256 : Nat) : Int) = (n : Int) / 16777216 by omega]
/-- A call answers a text and a number, and changes nothing that was there. -/
def MB (l : List UInt8) (n : Nat) (w : World) (e : Ending) (w' : World) : Prop := e = .returned (.tuple #[.string ⟨l.toArray⟩, .int .i64 n]) ∧ Below w.heap.size w w'
theorem MB.mk {l : List UInt8} {n : Nat} {s : ByteArray} {y : Int} {w w' : World} (h : s.data.toList = l) (h2 : y = n) (hb : Below w.heap.size w w') : MB l n w (.returned (.tuple #[.string s, .int .i64 y])) w' := ⟨by rw [← h, h2], hb⟩
theorem put_yes {l : List UInt8} (h : l.length ≤ 4096) : lput l = putL l := if_pos h
theorem putE_yes {l : List UInt8} (h : l.length ≤ 4096) : lputE l = 0 := if_pos h
theorem put_no {l : List UInt8} (h : ¬ l.length ≤ 4096) : lput l = [] := if_neg h
theorem putE_no {l : List UInt8} (h : ¬ l.length ≤ 4096) : lputE l = 2 := if_neg h
theorem app_l (a b : ByteArray) : (a ++ b).data.toList = a.data.toList ++ b.data.toList := by rw [ByteArray.data_append, Array.toList_append]/- Texts in a row in memory; the reference's Small, Texts and All. -/
/-- a slice of texts -/
structure Strs (w : World) (a : Option Addr) (l : List ByteArray) : Prop where
  at_ : 0 < l.length → ∃ b off, a = some ⟨b, off, none⟩ ∧ b < w.heap.size ∧ ∀ j (hj : j < l.length), w.cell? ⟨b, off + j, none⟩ = some (.string l[j])
  len : l.length ≤ 140737488355328
  size : ∀ s ∈ l, s.size ≤ 140737488355328
theorem Strs.below {w w' : World} {a : Option Addr} {l : List ByteArray} (h : Strs w a l) (hb : Below w.heap.size w w') : Strs w' a l := by
  refine ⟨fun h0 => ?_, h.len, h.size⟩
  obtain ⟨b, off, e, hl, hc⟩ := h.at_ h0
  exact ⟨b, off, e, Nat.lt_of_lt_of_le hl hb.size, fun j hj => (hb.cell (by exact hl)).trans (hc j hj)⟩
theorem Strs.belowB {B : Nat} {w0 w w' : World} {a : Option Addr} {l : List ByteArray} (h : Strs w0 a l) (hB : w0.heap.size ≤ B) (h0 : Strs w a l) (hb : Below B w w') (hw : Below w0.heap.size w0 w) : Strs w' a l := by
  exact h.below (hw.trans (hb.mono hB))
/-- how many bytes texts have together -/
def tot : List ByteArray → Nat
  | [] => 0
  | s :: l => s.size + tot l
theorem tot_app (l m : List ByteArray) : tot (l ++ m) = tot l + tot m := by
  induction l with
  | nil => show tot m = 0 + tot m; omega
  | cons s l ih => show s.size + tot (l ++ m) = s.size + tot l + tot m; omega
theorem take_get {l : List ByteArray} {k : Nat} (h : k < l.length) : l.take (k + 1) = l.take k ++ [l[k]] := List.take_succ_eq_append_getElem h
theorem tot_take {l : List ByteArray} {k : Nat} (h : k < l.length) : tot (l.take (k + 1)) = tot (l.take k) + l[k].size := by
  rw [take_get h, tot_app]
  rfl
theorem tot_le (l : List ByteArray) (k : Nat) : tot (l.take k) ≤ tot l := by
  have := tot_app (l.take k) (l.drop k)
  rw [List.take_append_drop] at this
  omega
def SmP (l : List ByteArray) (w : World) (e : Ending) (w' : World) : Prop := ∃ g : Bool, e = .returned (.bool g) ∧ w = w' ∧ (g = true → l.length ≤ 100 ∧ tot l ≤ 20000)
theorem SmP.f {l : List ByteArray} {w : World} : SmP l w (.returned (.bool false)) w := ⟨false, rfl, rfl, fun h => by cases h⟩
theorem SmP.t {l : List ByteArray} {w : World} (h1 : l.length ≤ 100) (h2 : tot l ≤ 20000) : SmP l w (.returned (.bool true)) w := ⟨true, rfl, rfl, fun _ => ⟨h1, h2⟩⟩
set_option maxHeartbeats 4000000 in
theorem rsmall (l : List ByteArray) (a : Option Addr) (cap : Nat) (w : World) (h : Strs w a l) : Calls Try.prog 30 #[.slice a l.length cap] w (SmP l w) := by
  have HS : Hid (Strs w a l) := h
  have hlen := h.len
  have hlenz : (l.length : Int) ≤ 140737488355328 := by omega
  clear h
  go_enter Try.func30, Try.ntmps30
  go_wp2_with fail
  go_loopw [3, 4] (fun v i wr => ∃ (k n : Nat), v = .int .i64 n ∧ i = .int .i64 k ∧ k ≤ l.length ∧ k ≤ 101 ∧ n ≤ 140737488375328 ∧ w = wr ∧ Hid (n = tot (l.take k))) (fun _ i _ => 101 - (Lib.intOf i).toNat)
  case atStart => exact ⟨0, 0, rfl, rfl, Nat.zero_le _, by omega, by omega, by first | rfl | trivial, rfl⟩
  case round =>
    obtain ⟨k, n, rfl, rfl, hk, hk1, hn, rfl, hcr⟩ := hrel
    by_cases hkn : k < l.length
    · have hkz : (k : Int) < (l.length : Int) := by omega
      by_cases h100 : k ≤ 100
      · have h100z : (k : Int) ≤ 100 := by omega
        by_cases h2 : n ≤ 20000
        · have h2z : (n : Int) ≤ 20000 := by omega
          obtain ⟨b, off, rfl, hbl, hce⟩ := HS.out.at_ (by omega)
          have hc := hce k hkn
          have hsz := HS.out.size _ (List.getElem_mem hkn)
          have ht := tot_take hkn
          rw [← hcr.out] at ht
          generalize l[k] = x at *
          have HT : Hid (tot (l.take (k + 1)) = n + x.size) := ht
          clear ht hce hcr
          go_wp2_with fail
          exact ⟨⟨k + 1, n + x.size, by go_num, by go_num, by omega, by omega, by omega, by first | rfl | trivial, HT.out.symm⟩, by simp [Lib.intOf]; omega⟩
        · have h2z : ¬ (n : Int) ≤ 20000 := by omega
          by_cases h3 : l.length ≤ 100
          · have h3z : (l.length : Int) ≤ 100 := by omega
            go_wp2_with fail
            go_ret
            exact SmP.f
          · have h3z : ¬ (l.length : Int) ≤ 100 := by omega
            go_wp2_with fail
            go_ret
            exact SmP.f
      · have h100z : ¬ (k : Int) ≤ 100 := by omega
        have hl100 : ¬ (l.length : Int) ≤ 100 := by omega
        go_wp2_with fail
        go_ret
        exact SmP.f
    · have hkz : ¬ (k : Int) < (l.length : Int) := by omega
      have HT : Hid (n = tot l) := by
        have h1 := hcr.out
        rw [List.take_of_length_le (by omega)] at h1
        exact h1
      clear hcr
      by_cases h3 : l.length ≤ 100
      · have h3z : (l.length : Int) ≤ 100 := by omega
        by_cases h2 : n ≤ 20000
        · have h2z : (n : Int) ≤ 20000 := by omega
          go_wp2_with fail
          go_ret
          exact SmP.t h3 (by rw [← HT.out]; exact h2)
        · have h2z : ¬ (n : Int) ≤ 20000 := by omega
          go_wp2_with fail
          go_ret
          exact SmP.f
      · have h3z : ¬ (l.length : Int) ≤ 100 := by omega
        go_wp2_with fail
        go_ret
        exact SmP.f
/-- A call answers a bool, and leaves the world alone. -/
def BP (b : Bool) (w : World) (e : Ending) (w' : World) : Prop := e = .returned (.bool b) ∧ w = w'
theorem BP.mk {b c : Bool} {w : World} (h : c = b) : BP b w (.returned (.bool c)) w := ⟨by rw [h], rfl⟩
/-- A call answers a bool, and changes nothing that was there. -/
def BB (b : Bool) (w : World) (e : Ending) (w' : World) : Prop := e = .returned (.bool b) ∧ Below w.heap.size w w'
theorem BB.mk {b c : Bool} {w w' : World} (h : c = b) (hb : Below w.heap.size w w') : BB b w (.returned (.bool c)) w' := ⟨by rw [h], hb⟩
theorem bdrew {B : Nat} {w w' : World} (h : Below B w w') (n : Nat) : Below B w (w'.drewN n) := ⟨h.os, h.tape, h.output, h.size, h.block⟩
set_option maxHeartbeats 4000000 in
theorem rtexts (l : List ByteArray) (a b : Option Addr) (cap cbp : Nat) (w : World) (h : Strs w a l) (h2 : Strs w b l) : Calls Try.prog 18 #[.slice a l.length cap, .slice b l.length cbp] w (BB true w) := by
  have HS : Hid (Strs w a l) := h
  have HT : Hid (Strs w b l) := h2
  have hlen := h.len
  have hlenz : (l.length : Int) ≤ 140737488355328 := by omega
  have hne : (((l.length : Nat) : Int) != ((l.length : Nat) : Int)) = false := by simp
  clear h h2
  go_enter Try.func18, Try.ntmps18
  go_wp2_with fail
  go_loopw [5] (fun i wr => ∃ (k : Nat), i = .int .i64 k ∧ k ≤ l.length ∧ Hid (Below w.heap.size w wr)) (fun i _ => l.length - (Lib.intOf i).toNat)
  case atStart => exact ⟨0, rfl, Nat.zero_le _, Below.refl _ _⟩
  case round =>
    obtain ⟨k, rfl, hk, HB⟩ := hrel
    by_cases hkn : k < l.length
    · have hkz : (k : Int) < (l.length : Int) := by omega
      obtain ⟨b1, off1, rfl, hbl1, hce1⟩ := HS.out.at_ (by omega)
      obtain ⟨b2, off2, rfl, hbl2, hce2⟩ := HT.out.at_ (by omega)
      have hc1 : wr.cell? ⟨b1, off1 + k, none⟩ = some (.string l[k]) := (HB.out.cell (by exact hbl1)).trans (hce1 k hkn)
      have hc2 : wr.cell? ⟨b2, off2 + k, none⟩ = some (.string l[k]) := (HB.out.cell (by exact hbl2)).trans (hce2 k hkn)
      generalize l[k] = x at *
      have hxx : (x.toList != x.toList) = false := by simp
      clear hce1 hce2
      go_wp2_with fail
      go_quiet (fail)
      go_wp2_with fail
      exact ⟨⟨k + 1, by go_num, by omega, bdrew HB.out _⟩, by simp [Lib.intOf]; omega⟩
    · have hkz : ¬ (k : Int) < (l.length : Int) := by omega
      go_wp2_with fail
      go_ret
      exact BB.mk rfl HB.out
theorem ba_size2 (l : List UInt8) : (⟨l.toArray⟩ : ByteArray).size = l.length := by show l.toArray.size = _; simp
/-- texts as lists -/
def ls (l : List ByteArray) : List (List UInt8) := l.map fun s => s.data.toList
theorem ls_take {l : List ByteArray} {k : Nat} (h : k < l.length) : ls (l.take (k + 1)) = ls (l.take k) ++ [l[k].data.toList] := by
  rw [take_get h]
  exact List.map_append ..
theorem flat_len (l : List ByteArray) : (flat (ls l)).length = tot l + 12 * l.length := by
  induction l with
  | nil => rfl
  | cons s l ih =>
    show (putL s.data.toList ++ flat (ls l)).length = s.size + tot l + 12 * (l.length + 1)
    rw [List.length_append, putL_len, ih]
    show s.size + 12 + _ = _
    omega
theorem allOk_bad {l : List ByteArray} {k : Nat} (h : k < l.length) (hb : ¬ l[k].size ≤ 4096) : allOk (ls l) = false := by
  refine Bool.eq_false_iff.2 fun hx => hb ?_
  unfold allOk at hx
  rw [List.all_eq_true] at hx
  have := hx l[k].data.toList (List.mem_map.2 ⟨l[k], List.getElem_mem h, rfl⟩)
  rw [decide_eq_true_eq] at this
  exact this
theorem allOk_step {l : List ByteArray} {k : Nat} (h : k < l.length) (ha : allOk (ls (l.take k)) = true) (hb : l[k].size ≤ 4096) : allOk (ls (l.take (k + 1))) = true := by
  rw [ls_take h, allOk_app, ha, Bool.true_and]
  unfold allOk
  rw [List.all_cons, List.all_nil, Bool.and_true, decide_eq_true_eq]
  exact hb
theorem allL_yes {l : List (List UInt8)} (h : allOk l = true) : allL l = flat l := if_pos h
theorem allE_yes {l : List (List UInt8)} (h : allOk l = true) : allE l = 0 := if_pos h
theorem allL_no {l : List (List UInt8)} (h : allOk l = false) : allL l = [] := if_neg (by rw [h]; exact Bool.false_ne_true)
theorem allE_no {l : List (List UInt8)} (h : allOk l = false) : allE l = 2 := if_neg (by rw [h]; exact Bool.false_ne_true)/- The program's turned and number. -/
theorem not8 (c : Nat) (hc : c < 256) : bits .xor .u8 IntKind.u8.max (c : Int) = 255 - (c : Int) := by
  have h : 255 - c = 255 ^^^ c := by
    refine Nat.eq_of_testBit_eq fun i => ?_
    rw [Nat.testBit_xor, show 255 - c = 2 ^ 8 - (c + 1) by omega, Nat.testBit_two_pow_sub_succ (by omega), show (255 : Nat) = 2 ^ 8 - 1 by rfl, Nat.testBit_two_pow_sub_one]
    by_cases hi : i < 8
    · rw [decide_eq_true hi]; simp
    · have : c < 2 ^ i := Nat.lt_of_lt_of_le hc (by have : 2 ^ 8 ≤ 2 ^ i := Nat.pow_le_pow_right (by omega) (by omega); omega)
      rw [decide_eq_false hi, Nat.testBit_lt_two_pow this]
      rfl
  have h2 := u8_xor_nat 255 c (by omega) hc
  rw [← h] at h2
  exact h2.trans (by omega)
set_option maxHeartbeats 4000000 in
theorem xturned (s : ByteArray) (hs : s.size ≤ 9223372036854775807) (w : World) : Calls Try.prog 89 #[.string s] w (BB (trn s.data.toList) w) := by
  have HL : Hid (s.data.toList.length = s.size) := rfl
  obtain ⟨m, hm⟩ : ∃ m, m = min 8 s.size := ⟨_, rfl⟩
  go_enter Try.func89, Try.ntmps89
  go_wp2_with fail
  go_loopw [3] (fun i wr => ∃ (k : Nat), i = .int .i64 k ∧ 4 ≤ k ∧ k ≤ 8 ∧ Hid (Below w.heap.size w wr) ∧ Hid (∀ j, j < k - 4 → 4 + j < s.size → (s.data.toList.getD (4 + j) 0).toNat + (s.data.toList.getD j 0).toNat = 255)) (fun i _ => 8 - (Lib.intOf i).toNat)
  case atStart => exact ⟨4, rfl, by omega, by omega, Below.refl _ _, fun j hj => absurd hj (by omega)⟩
  case round =>
    obtain ⟨k, rfl, hk4, hk8, HB, HT⟩ := hrel
    by_cases hkn : k < 8 ∧ k < s.size
    · obtain ⟨hk, hks⟩ := hkn
      have hmin : (k : Int) < min 8 (s.size : Int) := by omega
      have hkz : (k : Int) < (s.size : Int) := by omega
      obtain ⟨j, hj⟩ : ∃ j, k = 4 + j := ⟨k - 4, by omega⟩
      have hjz : (k : Int) - 4 = (j : Int) := by omega
      have hjs : j < s.size := by omega
      have hx1 : s.data.toList.getD (4 + j) 0 = s[k] := by rw [← hj]; exact at_data hks
      have hx2 : s.data.toList.getD j 0 = s[j] := at_data hjs
      obtain ⟨x, hx⟩ : ∃ x : UInt8, s[k] = x := ⟨_, rfl⟩
      obtain ⟨y, hy⟩ : ∃ y : UInt8, s[j] = y := ⟨_, rfl⟩
      rw [hx] at hx1
      rw [hy] at hx2
      have hxl := x.toNat_lt
      have hyl := y.toNat_lt
      have HNOT : Hid (bits .xor .u8 (if IntKind.u8.signed = true then -1 else IntKind.u8.max) (y.toNat : Int) = 255 - (y.toNat : Int)) := not8 y.toNat hyl
      have HX : Hid (s.data.toList.getD (4 + j) 0 = x ∧ s.data.toList.getD j 0 = y ∧ k = 4 + j) := ⟨hx1, hx2, hj⟩
      clear hx1 hx2 hj
      by_cases ht : x.toNat + y.toNat = 255
      · have hb : ((x.toNat : Int) != bits .xor .u8 (if IntKind.u8.signed = true then -1 else IntKind.u8.max) (y.toNat : Int)) = false := by rw [HNOT.out, bne_eq_false_iff_eq]; omega
        have HN : Hid (∀ i, i < k + 1 - 4 → 4 + i < s.size → (s.data.toList.getD (4 + i) 0).toNat + (s.data.toList.getD i 0).toNat = 255) := by
          intro i hi hl
          by_cases hij : i = j
          · subst hij
            rw [HX.out.1, HX.out.2.1]
            exact ht
          · exact HT.out i (by have := HX.out.2.2; omega) hl
        clear HT ht
        go_wp2_with fail
        go_quiet (fail)
        go_wp2_with fail
        exact ⟨⟨k + 1, by go_num, by omega, by omega, bdrew HB.out _, HN.out⟩, by simp [Lib.intOf]; omega⟩
      · have hb : ((x.toNat : Int) != bits .xor .u8 (if IntKind.u8.signed = true then -1 else IntKind.u8.max) (y.toNat : Int)) = true := by rw [HNOT.out, bne_iff_ne]; omega
        have HN : Hid (false = trn s.data.toList) := by
          refine Eq.symm (Bool.eq_false_iff.2 fun h => ht ?_)
          rw [trn_iff] at h
          have := h j (by have := HX.out.2.2; omega) (by rw [HL.out]; have := HX.out.2.2; omega)
          rw [HX.out.1, HX.out.2.1] at this
          exact this
        clear HT ht
        go_wp2_with fail
        go_quiet (fail)
        go_wp2_with fail
        go_ret
        exact BB.mk HN.out (bdrew HB.out _)
    · have hmin : ¬ (k : Int) < min 8 (s.size : Int) := by omega
      have HN : Hid (true = trn s.data.toList) := by
        refine Eq.symm (trn_iff.2 fun i hi hl => HT.out i ?_ hl)
        rw [HL.out] at hl
        omega
      clear HT hkn
      go_wp2_with fail
      go_ret
      exact BB.mk HN.out HB.out
/-- the bits of four bytes don't meet -/
theorem or_add {x y : Nat} (n : Nat) (hx : x < 2 ^ n) : x ||| y * 2 ^ n = x + y * 2 ^ n := by
  have h := Nat.two_pow_add_eq_or_of_lt hx y
  rw [Nat.mul_comm y, Nat.or_comm, ← h, Nat.add_comm]
theorem or_four (a b c d : Nat) (ha : a < 256) (hb : b < 256) (hc : c < 256) (hd : d < 256) : bits .or .u32 (bits .or .u32 (bits .or .u32 (a : Int) ((b : Int) * 256)) ((c : Int) * 65536)) ((d : Int) * 16777216) = ((a + 256 * b + 65536 * c + 16777216 * d : Nat) : Int) := by
  have e1 := u32_or_nat a (b * 256) (by omega) (by omega)
  have e2 := u32_or_nat (a + b * 256) (c * 65536) (by omega) (by omega)
  have e3 := u32_or_nat (a + b * 256 + c * 65536) (d * 16777216) (by omega) (by omega)
  rw [or_add 8 (by omega : a < 2 ^ 8)] at e1
  rw [or_add 16 (by omega : a + b * 256 < 2 ^ 16)] at e2
  rw [or_add 24 (by omega : a + b * 256 + c * 65536 < 2 ^ 24)] at e3
  have f1 : (b : Int) * 256 = ((b * 256 : Nat) : Int) := by omega
  have f2 : (c : Int) * 65536 = ((c * 65536 : Nat) : Int) := by omega
  have f3 : (d : Int) * 16777216 = ((d * 16777216 : Nat) : Int) := by omega
  rw [f1, f2, f3, e1, show a + b * 2 ^ 8 = a + b * 256 by omega, e2, show a + b * 256 + c * 2 ^ 16 = a + b * 256 + c * 65536 by omega, e3]
  omega
theorem idx_at {s : ByteArray} {k : Nat} (h : k < s.size) {z : UInt8} (hz : s[k] = z) {i : Int} (hi : i = k) (w : World) : (Instr.index 9 (.string s) (.int .i64 i)).run Try.prog w = .ok (.int .u8 (z.toNat : Int)) w := by
  subst hi
  rw [run_index_string w 9 s .i64 k Try.underlying9]
  simp [h, hz]
set_option maxHeartbeats 4000000 in
theorem xnumber (s : ByteArray) (h4 : 4 ≤ s.size) (w : World) : Calls Try.prog 90 #[.string s] w fun e w' => e = .returned (.int .u32 (val4 s.data.toList)) ∧ ∃ n, w' = w.drewN n := by
  have e0 : s.data.toList.getD 0 0 = s[0] := at_data (by omega)
  have e1 : s.data.toList.getD 1 0 = s[1] := at_data (by omega)
  have e2 : s.data.toList.getD 2 0 = s[2] := at_data (by omega)
  have e3 : s.data.toList.getD 3 0 = s[3] := at_data (by omega)
  unfold val4
  rw [e0, e1, e2, e3]
  have hi0 : ∀ w : World, (Instr.index 9 (.string s) (.int .i64 0)).run Try.prog w = .ok (.int .u8 (s[0].toNat : Int)) w := fun w => idx_at (k := 0) (by omega) rfl rfl w
  have hi1 : ∀ w : World, (Instr.index 9 (.string s) (.int .i64 1)).run Try.prog w = .ok (.int .u8 (s[1].toNat : Int)) w := fun w => idx_at (k := 1) (by omega) rfl rfl w
  have hi2 : ∀ w : World, (Instr.index 9 (.string s) (.int .i64 2)).run Try.prog w = .ok (.int .u8 (s[2].toNat : Int)) w := fun w => idx_at (k := 2) (by omega) rfl rfl w
  have hi3 : ∀ w : World, (Instr.index 9 (.string s) (.int .i64 3)).run Try.prog w = .ok (.int .u8 (s[3].toNat : Int)) w := fun w => idx_at (k := 3) (by omega) rfl rfl w
  have l0 := s[0].toNat_lt
  have l1 := s[1].toNat_lt
  have l2 := s[2].toNat_lt
  have l3 := s[3].toNat_lt
  clear e0 e1 e2 e3
  generalize s[0].toNat = a at *
  generalize s[1].toNat = b at *
  generalize s[2].toNat = c at *
  generalize s[3].toNat = d at *
  have HO : Hid _ := or_four a b c d l0 l1 l2 l3
  go_enter Try.func90, Try.ntmps90
  go_wp2_with fail
  go_quiet (fail)
  go_wp2_with fail
  go_ret
  exact ⟨by rw [HO.out]; rfl, _, rfl⟩
end Go.Proofs.Yteiilifljfagdaa
