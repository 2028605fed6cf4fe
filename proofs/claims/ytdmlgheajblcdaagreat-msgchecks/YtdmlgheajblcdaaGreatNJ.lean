/- The writer's Int, Text, Bool, Ints, Bytes. -/
import Derived.Test.YtdmlgheajblcdaaGreatNI
import Derived.WalkKit
import Derived.ProofKit
import Derived.Handy
import Derived.WalkLawsBesides
import Derived.WalkSpells
import Derived.BigQuiet
import Derived.BigCall
import Derived.Deep.QuietTactic
import Derived.Deep.Light
import Derived.Deep.OwnRows
import Derived.Laws.AppendOwnNone
import Derived.Laws.Strings3
import Derived.Laws.RangeAny
import Derived.Deep.RegionWith
import Derived.Lib.BitFns
import Derived.Lib.Walk
import Derived.Lib.Strings
import Derived.Lib.OthersKept
import Derived.Deep.CutBlock
import Derived.Deep.DeepCutAuto
import Derived.Deep.LoopGhost
import Derived.Deep.RegionHeld3
import Derived.Lib.SmallJoins
import Derived.Maps.AppendAt
import Derived.Laws.IdiomStrings
import Derived.Lib.AppendZeros
import Derived.Deep.WholeRow
import Derived.Laws.BitsAllLaws
import Derived.Lib.ConvBytes
import Derived.Deep.RegionLaw
namespace Go.Proofs.YtdmlgheajblcdaaGreat
open Go.RowKit
set_option linter.unusedVariables false
set_option linter.unusedSimpArgs false
theorem fo_neg {n : Int} (h : n < 0) : fo n = (-2 * n - 1).toNat := if_pos h
theorem fo_pos {n : Int} (h : ¬ n < 0) : fo n = (2 * n).toNat := if_neg h
theorem twice_neg {n : Int} (h1 : -9223372036854775808 ≤ n) (h0 : n < 0) : bits .xor .u64 IntKind.u64.max (IntKind.u64.wrap (IntKind.u64.wrap n * 2)) = ((fo n : Nat) : Int) := by
  obtain ⟨m, hm⟩ : ∃ m : Nat, (m : Int) = 2 * n + 18446744073709551616 := ⟨(2 * n + 18446744073709551616).toNat, by omega⟩
  have e : IntKind.u64.wrap (IntKind.u64.wrap n * 2) = (m : Int) := by
    rw [IntKind.wrap_u64, IntKind.wrap_u64]
    omega
  rw [e, notu64 m (by omega), fo_neg h0]
  omega
set_option maxHeartbeats 4000000 in
theorem wint (B p : Nat) (v : Value) (l : List UInt8) (n : Int) (hn : I64 n) (w : World) (h : Wm B w p v l) (hl : l.length ≤ 1000000000000) : Calls Tryz.prog 47 #[.pointer (some ⟨p, 0, none⟩), .int .i64 n] w (WP B p (l ++ intL n) w) := by
  have HX : Hid (Calls Tryz.prog 75 #[.pointer (some ⟨p, 0, none⟩), .int .u64 ((fo n : Nat) : Int)] w (WP B p (l ++ intL n) w)) := wuint B p v l (fo n) (fo_lt hn) w h hl
  obtain ⟨h1, h2⟩ := hn
  clear h hl
  by_cases h0 : n < 0
  · have HT : Hid (bits .xor .u64 IntKind.u64.max (IntKind.u64.wrap (IntKind.u64.wrap n * 2)) = ((fo n : Nat) : Int)) := twice_neg h1 h0
    go_enter Tryz.func47, Tryz.ntmps47
    go_wp2_with fail
    rw [HT.out]
    refine HX.out.mono ?_
    rintro e w1 ⟨rfl, v1, HW1, HB1⟩
    go_wp2_with fail
    go_returns
    exact ⟨rfl, v1, HW1, HB1⟩
  · have HT : Hid (n * 2 = ((fo n : Nat) : Int)) := by unfold Hid; rw [fo_pos h0]; omega
    go_enter Tryz.func47, Tryz.ntmps47
    go_wp2_with fail
    rw [HT.out]
    refine HX.out.mono ?_
    rintro e w1 ⟨rfl, v1, HW1, HB1⟩
    go_wp2_with fail
    go_returns
    exact ⟨rfl, v1, HW1, HB1⟩
set_option maxHeartbeats 4000000 in
theorem wbool (B p : Nat) (v : Value) (l : List UInt8) (b : Bool) (w : World) (h : Wm B w p v l) (hl : l.length ≤ 1000000000000) : Calls Tryz.prog 201 #[.pointer (some ⟨p, 0, none⟩), .bool b] w (WP B p (l ++ boolL b) w) := by
  have HW : Hid (Wm B w p v l) := h
  clear h
  cases b with
  | true =>
    have HW4 : Hid (Wm B (w.alloc (.cells #[.int .u8 1] 5)) p v l) := HW.out.alloc _
    have HB4 : Hid (Bw B p w (w.alloc (.cells #[.int .u8 1] 5))) := (Bw.refl B p w).alloc HW.out.bw _
    have HS : Hid (Src (w.alloc (.cells #[.int .u8 1] 5)) (.slice (some ⟨w.heap.size, 0, none⟩) 1 1) (boolL true)) := src_one w 1 (by omega) 1
    go_enter Tryz.func201, Tryz.ntmps201
    go_wp2_with fail
    refine (xadd B p v _ l _ _ HW4.out HS.out (by simp [boolL]; omega)).mono ?_
    rintro e w3 ⟨rfl, v3, HW5, HB5⟩
    have HB6 : Hid (Bw B p w w3) := HB4.out.trans HB5.out
    clear HW4 HB4 HB5
    go_wp2_with fail
    go_returns
    exact ⟨rfl, v3, HW5, HB6⟩
  | false =>
    have HW4 : Hid (Wm B (w.alloc (.cells #[.int .u8 0] 5)) p v l) := HW.out.alloc _
    have HB4 : Hid (Bw B p w (w.alloc (.cells #[.int .u8 0] 5))) := (Bw.refl B p w).alloc HW.out.bw _
    have HS : Hid (Src (w.alloc (.cells #[.int .u8 0] 5)) (.slice (some ⟨w.heap.size, 0, none⟩) 1 1) (boolL false)) := src_one w 0 (by omega) 1
    go_enter Tryz.func201, Tryz.ntmps201
    go_wp2_with fail
    refine (xadd B p v _ l _ _ HW4.out HS.out (by simp [boolL]; omega)).mono ?_
    rintro e w3 ⟨rfl, v3, HW5, HB5⟩
    have HB6 : Hid (Bw B p w w3) := HB4.out.trans HB5.out
    clear HW4 HB4 HB5
    go_wp2_with fail
    go_returns
    exact ⟨rfl, v3, HW5, HB6⟩
theorem below_bytes (w : World) (s : ByteArray) : Below w.heap.size w (Lib.bytesWorld w 5 s) := by
  refine ⟨rfl, rfl, rfl, ?_, fun k hk => Lib.bytesWorld_at_old w 5 s k hk⟩
  rw [Lib.bytesWorld_size]
  omega
theorem src_bytes (w : World) (s : ByteArray) (cap : Nat) : Src (Lib.bytesWorld w 5 s) (.slice (some ⟨w.heap.size, 0, none⟩) s.size cap) s.data.toList := by
  refine .inr ⟨⟨w.heap.size, 0, none⟩, cap, rfl, fun j x hx => ?_⟩
  have hj : j < s.size := by
    have := (List.getElem?_eq_some_iff.1 hx).1
    rw [Lib.byteCells_length] at this
    exact this
  have ha : (⟨w.heap.size, 0, none⟩ : Addr).add j = ⟨w.heap.size, j, none⟩ := by cases j <;> simp [Addr.add]
  rw [ha, Lib.bytesWorld_cell w 5 s j hj]
  simp only [Lib.byteCells, List.getElem?_map] at hx
  have h1 : j < s.data.toList.length := hj
  rw [List.getElem?_eq_getElem h1] at hx
  rw [List.getD_eq_getElem?_getD, List.getElem?_eq_getElem h1]
  exact hx
set_option maxHeartbeats 4000000 in
theorem wtext (B p : Nat) (v : Value) (l : List UInt8) (s : ByteArray) (w : World) (h : Wm B w p v l) (hl : l.length + s.size ≤ 1000000000000) : Calls Tryz.prog 152 #[.pointer (some ⟨p, 0, none⟩), .string s] w (WP B p (l ++ textL s.data.toList) w) := by
  have HX : Hid (Calls Tryz.prog 75 #[.pointer (some ⟨p, 0, none⟩), .int .u64 (s.size : Int)] w (WP B p (l ++ uintL s.size) w)) := wuint B p v l s.size (by omega) w h (by omega)
  have HL : Hid ((l ++ uintL s.size).length + s.data.toList.length ≤ 1099511627776) := by
    have h1 := (uint_len (n := s.size) (by omega)).2
    have h2 : s.data.toList.length = s.size := rfl
    unfold Hid
    rw [List.length_append]
    omega
  have HT : Hid (l ++ uintL s.size ++ s.data.toList = l ++ textL s.data.toList) := by unfold Hid textL; rw [List.append_assoc]; rfl
  have hcv : ∀ w : World, (convert 9 113 (.string s)).run Tryz.prog w = .ok (.slice (some ⟨w.heap.size, 0, none⟩) s.size (grownCap w s.size 0 5)) (Lib.bytesWorld w 5 s) := fun w => Lib.run_convert_string_bytes w 9 113 5 s Tryz.underlying9 Tryz.underlying113 Tryz.underlying5
  clear h
  go_enter Tryz.func152, Tryz.ntmps152
  go_wp2_with fail
  refine HX.out.mono ?_
  rintro e w1 ⟨rfl, v1, HW1, HB1⟩
  have HW4 : Hid (Wm B (Lib.bytesWorld w1 5 s) p v1 (l ++ uintL s.size)) := HW1.out.keep (below_bytes w1 s)
  have HB4 : Hid (Bw B p w (Lib.bytesWorld w1 5 s)) := HB1.out.trans (Bw.of (below_bytes w1 s) HW1.out.bw)
  go_wp2_with fail
  refine (xadd B p v1 _ _ _ _ HW4.out (src_bytes w1 s _) HL.out).mono ?_
  rintro e w3 ⟨rfl, v3, HW5, HB5⟩
  rw [HT.out] at HW5
  have HB6 : Hid (Bw B p w w3) := HB4.out.trans HB5.out
  clear HW4 HB4 HB5
  go_wp2_with fail
  go_returns
  exact ⟨rfl, v3, HW5, HB6⟩
/-- numbers that a slice has, below B -/
def Ins (B : Nat) (w : World) (a : Option Addr) (xs : List Int) : Prop := 0 < xs.length → ∃ b off, a = some ⟨b, off, none⟩ ∧ b < B ∧ ∀ j (h : j < xs.length), w.cell? ⟨b, off + j, none⟩ = some (.int .i64 xs[j])
theorem Ins.keep {B : Nat} {w w' : World} {a : Option Addr} {xs : List Int} (h : Ins B w a xs) (hb : Below B w w') : Ins B w' a xs := fun h0 => by
  obtain ⟨b, off, rfl, hB, hc⟩ := h h0
  exact ⟨b, off, rfl, hB, fun j hj => (hb.cell (by exact hB)).trans (hc j hj)⟩
theorem Ins.mono {B C : Nat} {w : World} {a : Option Addr} {xs : List Int} (h : Ins B w a xs) (hb : B ≤ C) : Ins C w a xs := fun h0 => by
  obtain ⟨b, off, rfl, hB, hc⟩ := h h0
  exact ⟨b, off, rfl, Nat.lt_of_lt_of_le hB hb, hc⟩
theorem flatI_app (a b : List Int) : flatI (a ++ b) = flatI a ++ flatI b := by
  induction a with
  | nil => rfl
  | cons n a ih => show intL n ++ flatI (a ++ b) = (intL n ++ flatI a) ++ flatI b; rw [ih, List.append_assoc]
theorem flatI_take {xs : List Int} {k : Nat} (h : k < xs.length) : flatI (xs.take (k + 1)) = flatI (xs.take k) ++ intL xs[k] := by
  rw [List.take_succ_eq_append_getElem h, flatI_app]
  show _ ++ (intL xs[k] ++ []) = _
  rw [List.append_nil]
set_option maxHeartbeats 4000000 in
theorem wints (B p : Nat) (v : Value) (l : List UInt8) (xs : List Int) (a : Option Addr) (cap : Nat) (w : World) (h : Wm B w p v l) (hI : Ins B w a xs) (hx : ∀ n ∈ xs, I64 n) (hl : l.length + 10 * xs.length ≤ 999999999000) : Calls Tryz.prog 181 #[.pointer (some ⟨p, 0, none⟩), .slice a xs.length cap] w (WP B p (l ++ intsL xs) w) := by
  have HX : Hid (Calls Tryz.prog 75 #[.pointer (some ⟨p, 0, none⟩), .int .u64 (xs.length : Int)] w (WP B p (l ++ uintL xs.length) w)) := wuint B p v l xs.length (by omega) w h (by omega)
  have HI : Hid (Ins B w a xs) := hI
  have HN : Hid (∀ n ∈ xs, I64 n) := hx
  have hul := (uint_len (n := xs.length) (by omega)).2
  clear h hI hx
  go_enter Tryz.func181, Tryz.ntmps181
  go_wp2_with fail
  refine HX.out.mono ?_
  rintro e w1 ⟨rfl, v1, HW1, HB1⟩
  go_wp2_with fail
  go_loopw [13] (fun i wr => ∃ (k : Nat) (v : Value), i = .int .i64 k ∧ k ≤ xs.length ∧ Hid (Wm B wr p v (l ++ uintL xs.length ++ flatI (xs.take k))) ∧ Hid (Bw B p w wr)) (fun i _ => xs.length - (Lib.intOf i).toNat)
  case atStart => exact ⟨0, v1, rfl, Nat.zero_le _, by unfold Hid; rw [List.take_zero]; show Wm B w1 p v1 (_ ++ []); rw [List.append_nil]; exact HW1.out, HB1⟩
  case round =>
    obtain ⟨k, v2, rfl, hk, HW2, HB2⟩ := hrel
    by_cases hkn : k < xs.length
    · have hkz : (k : Int) < (xs.length : Int) := by omega
      obtain ⟨b, off, rfl, hbl, hce⟩ := HI.out (by omega)
      have hc : wr.cell? ⟨b, off + k, none⟩ = some (.int .i64 xs[k]) := (HB2.out.1.cell (by exact hbl)).trans (hce k hkn)
      have HT : Hid (l ++ uintL xs.length ++ flatI (xs.take k) ++ intL xs[k] = l ++ uintL xs.length ++ flatI (xs.take (k + 1))) := by unfold Hid; rw [flatI_take hkn, List.append_assoc]
      have HC : Hid (Calls Tryz.prog 47 #[.pointer (some ⟨p, 0, none⟩), .int .i64 xs[k]] wr (WP B p (l ++ uintL xs.length ++ flatI (xs.take k) ++ intL xs[k]) wr)) := by
        refine wint B p v2 _ xs[k] (HN.out _ (List.getElem_mem hkn)) wr HW2.out ?_
        rw [List.length_append, List.length_append]
        have := flatI_len (xs.take k) (fun n hn => HN.out n (List.mem_of_mem_take hn))
        rw [List.length_take] at this
        omega
      rw [HT.out] at HC
      generalize xs[k] = n at *
      clear hce HT
      go_wp2_with fail
      refine HC.out.mono ?_
      rintro e w3 ⟨rfl, v3, HW3, HB3⟩
      have HB4 : Hid (Bw B p w w3) := HB2.out.trans HB3.out
      clear HB3
      go_wp2_with fail
      exact ⟨⟨k + 1, v3, by go_num, by omega, HW3.out, HB4.out⟩, by simp [Lib.intOf]; omega⟩
    · have hkz : ¬ (k : Int) < (xs.length : Int) := by omega
      have HT : Hid (l ++ uintL xs.length ++ flatI (xs.take k) = l ++ intsL xs) := by unfold Hid intsL; rw [List.take_of_length_le (by omega), List.append_assoc]
      rw [HT.out] at HW2
      go_wp2_with fail
      go_returns
      exact ⟨rfl, v2, HW2, HB2⟩
theorem own_text {B : Nat} {w : World} {v : Value} {l : List UInt8} (h : w.ownsRow B 5 1 v l.length (Lib.byteCells l)) : (convert 113 9 v).run Tryz.prog w = .ok (.string ⟨l.toArray⟩) w := by
  rcases h.2 with ⟨rfl, h0⟩ | ⟨g, cap, cur, rfl, hb, hg, h1, h2, h3, h4⟩
  · have hb : l = [] := List.length_eq_zero_iff.1 h0
    rw [hb, run_convert_bytes_string w 113 9 5 none 0 0 Tryz.underlying113 Tryz.underlying5 Tryz.underlying9]
    rfl
  · refine run_convert_bytes_back (P := Tryz.prog) w 113 9 5 ⟨g, 0, none⟩ cap l Tryz.underlying113 Tryz.underlying5 Tryz.underlying9 (fun j hj => ?_)
    refine h.cells (g := g) rfl j _ ?_
    simp only [Lib.byteCells, List.getElem?_map, List.getElem?_eq_getElem hj]
    rfl
/-- A call answers a text, and leaves the world alone. -/
def TP (l : List UInt8) (w : World) (e : Ending) (w' : World) : Prop := e = .returned (.string ⟨l.toArray⟩) ∧ w = w'
set_option maxHeartbeats 4000000 in
theorem wbytes (B p : Nat) (v : Value) (l : List UInt8) (w : World) (h : Wm B w p v l) : Calls Tryz.prog 48 #[.pointer (some ⟨p, 0, none⟩)] w (TP l w) := by
  obtain ⟨xv, cv, rfl⟩ := own_slice h.own
  have c0 : w.cell? ⟨p, 0, none⟩ = some (.slice xv l.length cv) := h.cell
  have hcv := own_text h.own
  clear h
  unfold TP
  generalize (⟨l.toArray⟩ : ByteArray) = S at *
  generalize l.length = n at *
  go_enter Tryz.func48, Tryz.ntmps48
  go_wp2_with fail
  go_ret
  exact ⟨rfl, rfl⟩
end Go.Proofs.YtdmlgheajblcdaaGreat
