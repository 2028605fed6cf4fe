/- Layer 10: numbers in a row, and what stands behind, by the reference. -/
import Derived.Test.YtdmlgheajblcdaaGreatK24
import Derived.Test.YtdmlgheajblcdaaGreatK21
import Derived.Test.YtdmlgheajblcdaaGreatK15
import Derived.WalkKit
import Derived.ProofKit
import Derived.Handy
import Derived.WalkLawsBesides
import Derived.WalkSpells
import Derived.BigQuiet
import Derived.BigCall
import Derived.Deep.QuietTactic
import Derived.Deep.Light
import Derived.Deep.OwnRows
import Derived.Laws.AppendOwnNone
import Derived.Laws.Strings3
import Derived.Laws.RangeAny
import Derived.Deep.RegionWith
import Derived.Lib.BitFns
import Derived.Lib.Walk
import Derived.Lib.Strings
import Derived.Lib.OthersKept
import Derived.Deep.CutBlock
import Derived.Deep.DeepCutAuto
import Derived.Deep.LoopGhost
import Derived.Deep.RegionHeld3
import Derived.Lib.SmallJoins
import Derived.Maps.AppendAt
import Derived.Laws.IdiomStrings
import Derived.Lib.AppendZeros
import Derived.Deep.WholeRow
import Derived.Laws.BitsAllLaws
import Derived.Lib.ConvBytes
import Derived.Deep.RegionLaw
namespace Go.Proofs.YtdmlgheajblcdaaGreat
open Go.RowKit
set_option linter.unusedVariables false
set_option linter.unusedSimpArgs false
set_option maxRecDepth 20000
set_option maxHeartbeats 4000000 in
theorem rnums (xs : List Int) (b cap : Nat) (w : World) (hX : Bx w b (icells xs).toArray 3) (hx : ∀ n ∈ xs, I64 n) (hl : xs.length ≤ 1000000) : Calls Tryz.prog 51 #[.slice (some ⟨b, 0, none⟩) xs.length cap] w (SB (flatI xs) w) := by
  have HX : Hid (Bx w b (icells xs).toArray 3) := hX
  have HN : Hid (∀ n ∈ xs, I64 n) := hx
  clear hX hx
  go_enter Tryz.func51, Tryz.ntmps51
  go_wp2_with fail
  go_loopw [3, 4] (fun v i wr => ∃ (k : Nat) (T : ByteArray), i = .int .i64 k ∧ v = .string T ∧ k ≤ xs.length ∧ Hid (T.data.toList = flatI (xs.take k)) ∧ Hid (Below w.heap.size w wr)) (fun _ i _ => xs.length - (Lib.intOf i).toNat)
  case atStart => exact ⟨0, ⟨#[]⟩, rfl, rfl, Nat.zero_le _, rfl, Below.refl _ _⟩
  case round =>
    obtain ⟨k, T, rfl, rfl, hk, HT, HB⟩ := hrel
    by_cases hkn : k < xs.length
    · have hkz : (k : Int) < (xs.length : Int) := by omega
      have hTs : T.size ≤ 20000000 := by
        have h0 : T.data.toList.length = T.size := rfl
        rw [HT.out] at h0
        have h2 := flatI_len (xs.take k) (fun n hn => HN.out n (List.mem_of_mem_take hn))
        rw [List.length_take] at h2
        omega
      have hc : wr.cell? ⟨b, k, none⟩ = some (.int .i64 xs[k]) := ((HX.out.keep HB.out).cell k).trans (icell hkn)
      have hc0 : wr.cell? ⟨b, 0 + k, none⟩ = some (.int .i64 xs[k]) := by rw [Nat.zero_add]; exact hc
      have HC : Hid (∀ w, Calls Tryz.prog 49 #[.int .i64 xs[k]] w (SB (intL xs[k]) w)) := fun w => rint xs[k] (HN.out _ (List.getElem_mem hkn)) w
      unfold SB at HC
      have HT2 : Hid ((T ++ (⟨(intL xs[k]).toArray⟩ : ByteArray)).data.toList = flatI (xs.take (k + 1))) := by
        unfold Hid
        rw [ByteArray.data_append, Array.toList_append, HT.out, flatI_take hkn]
      have hz2 : (⟨(intL xs[k]).toArray⟩ : ByteArray).size ≤ 10 := (uint_len (fo_lt (HN.out _ (List.getElem_mem hkn)))).2
      generalize (⟨(intL xs[k]).toArray⟩ : ByteArray) = D at *
      generalize xs[k] = n at *
      clear HT
      go_wp2_with fail
      refine (HC.out _).mono ?_
      rintro e w3 ⟨rfl, hb3⟩
      have HB3 : Hid (Below w.heap.size w w3) := HB.out.trans (hb3.mono HB.out.size)
      clear hb3
      go_wp2_with fail
      exact ⟨⟨k + 1, T ++ D, by go_num, rfl, by omega, HT2.out, HB3.out⟩, by simp [Lib.intOf]; omega⟩
    · have hkz : ¬ (k : Int) < (xs.length : Int) := by omega
      have HE : Hid (T.data.toList = flatI xs) := by unfold Hid; rw [HT.out, List.take_of_length_le (by omega)]
      go_wp2_with fail
      go_ret
      exact SB.mk HE.out HB.out
/-- a text's size, and the world behind -/
def TB' (S : ByteArray) (w : World) (e : Ending) (w' : World) : Prop := e = .returned (.string S) ∧ Hid (Below w.heap.size w w')
theorem TB'.of {l : List UInt8} {S : ByteArray} {F : Nat} {a : Array Value} {w : World} (h : Calls Tryz.prog F a w (SB l w)) (hS : S = ⟨l.toArray⟩) : Calls Tryz.prog F a w (TB' S w) := h.mono fun _ _ ⟨h1, h2⟩ => ⟨by rw [hS]; exact h1, h2⟩
theorem ba_size (l : List UInt8) : (⟨l.toArray⟩ : ByteArray).size = l.length := rfl
theorem ba_app (a b : List UInt8) : (⟨a.toArray⟩ : ByteArray) ++ ⟨b.toArray⟩ = ⟨(a ++ b).toArray⟩ := by
  apply ByteArray.ext
  rw [ByteArray.data_append]
  simp
theorem intL_len {n : Int} (h : I64 n) : (intL n).length ≤ 10 := (uint_len (fo_lt h)).2
theorem textL_len {s : List UInt8} (h : s.length ≤ 1000) : (textL s).length ≤ 1010 := by have := lt (l := []) h; simpa using this
theorem uintL_len {n : Nat} (h : n ≤ 1000) : (uintL n).length ≤ 10 := (uint_len (by omega)).2
theorem ruintW (n : Nat) (hn : n ≤ 1000) (w : World) : Calls Tryz.prog 52 #[.int .u64 (IntKind.u64.wrap (n : Int))] w (SB (uintL n) w) := by
  rw [IntWalk.u64_in _ (by omega)]
  exact ruint n (by omega) w
def bhL (m : Mg) : List UInt8 := if inn m.k 9 15 = true then bodL m else []
set_option maxHeartbeats 4000000 in
theorem behind9 (m : Mg) (pa ia ca ba : Option Addr) (pc ic cc bc : Nat) (hk : m.k = 9) (w : World) (hW : m.Wf) : Calls Tryz.prog 54 #[.agg (mcs m pa ia ca ba pc ic cc bc)] w (SB (flatI [m.mem, m.n]) w) := by
  have HN : Hid (∀ n ∈ [m.mem, m.n], I64 n) := by unfold Hid; intro n hn; simp only [List.mem_cons, List.not_mem_nil, or_false] at hn; rcases hn with rfl | rfl; exact hW.mem; exact hW.n
  have HX0 : Hid (Bx (w.alloc (.cells (mcs m pa ia ca ba pc ic cc bc) 35)) w.heap.size (mcs m pa ia ca ba pc ic cc bc) 35) := Bx.new _ _ _
  have HB0 : Hid (Below w.heap.size w (w.alloc (.cells (mcs m pa ia ca ba pc ic cc bc) 35))) := below_a w _
  go_enter Tryz.func54, Tryz.ntmps54
  go_upto_region 1 with fail
  generalize hw1 : w.alloc (.cells (mcs m pa ia ca ba pc ic cc bc) 35) = w1 at *
  have HX : Hid (Bx w1 w.heap.size (mcs m pa ia ca ba pc ic cc bc) 35) := HX0.out
  have HB : Hid (Below w.heap.size w w1) := HB0.out
  clear HX0 HB0 hw1
  have c0 : w1.cell? ⟨w.heap.size, 0, none⟩ = some (.int .i64 9) := by have := HX.out.cell 0; rw [show (mcs m pa ia ca ba pc ic cc bc)[0]? = some (.int .i64 m.k) from rfl, hk] at this; exact this
  have c1 : w1.cell? ⟨w.heap.size, 1, none⟩ = some (.int .i64 m.mem) := HX.out.cell 1
  have c21 : w1.cell? ⟨w.heap.size, 21, none⟩ = some (.int .i64 m.n) := HX.out.cell 21
  go_wp2_with fail
  refine (rnums [m.mem, m.n] w1.heap.size _ _ (Bx.new _ _ _) HN.out (by show 2 ≤ _; omega)).mono ?_
  rintro e w2 ⟨rfl, hb2⟩
  have HB2 : Hid (Below w.heap.size w w2) := bt (bt HB.out (below_a _ _)) hb2
  generalize flatI [m.mem, m.n] = L at *
  clear hb2 HB HX
  go_wp2_with fail
  go_ret
  exact ⟨rfl, HB2.out⟩
set_option maxHeartbeats 4000000 in
theorem behind14 (m : Mg) (pa ia ca ba : Option Addr) (pc ic cc bc : Nat) (hk : m.k = 14) (w : World) (hW : m.Wf) : Calls Tryz.prog 54 #[.agg (mcs m pa ia ca ba pc ic cc bc)] w (SB (flatI [m.mem, m.n]) w) := by
  have HN : Hid (∀ n ∈ [m.mem, m.n], I64 n) := by unfold Hid; intro n hn; simp only [List.mem_cons, List.not_mem_nil, or_false] at hn; rcases hn with rfl | rfl; exact hW.mem; exact hW.n
  have HX0 : Hid (Bx (w.alloc (.cells (mcs m pa ia ca ba pc ic cc bc) 35)) w.heap.size (mcs m pa ia ca ba pc ic cc bc) 35) := Bx.new _ _ _
  have HB0 : Hid (Below w.heap.size w (w.alloc (.cells (mcs m pa ia ca ba pc ic cc bc) 35))) := below_a w _
  go_enter Tryz.func54, Tryz.ntmps54
  go_upto_region 1 with fail
  generalize hw1 : w.alloc (.cells (mcs m pa ia ca ba pc ic cc bc) 35) = w1 at *
  have HX : Hid (Bx w1 w.heap.size (mcs m pa ia ca ba pc ic cc bc) 35) := HX0.out
  have HB : Hid (Below w.heap.size w w1) := HB0.out
  clear HX0 HB0 hw1
  have c0 : w1.cell? ⟨w.heap.size, 0, none⟩ = some (.int .i64 14) := by have := HX.out.cell 0; rw [show (mcs m pa ia ca ba pc ic cc bc)[0]? = some (.int .i64 m.k) from rfl, hk] at this; exact this
  have c1 : w1.cell? ⟨w.heap.size, 1, none⟩ = some (.int .i64 m.mem) := HX.out.cell 1
  have c21 : w1.cell? ⟨w.heap.size, 21, none⟩ = some (.int .i64 m.n) := HX.out.cell 21
  go_wp2_with fail
  refine (rnums [m.mem, m.n] w1.heap.size _ _ (Bx.new _ _ _) HN.out (by show 2 ≤ _; omega)).mono ?_
  rintro e w2 ⟨rfl, hb2⟩
  have HB2 : Hid (Below w.heap.size w w2) := bt (bt HB.out (below_a _ _)) hb2
  generalize flatI [m.mem, m.n] = L at *
  clear hb2 HB HX
  go_wp2_with fail
  go_ret
  exact ⟨rfl, HB2.out⟩
set_option maxHeartbeats 4000000 in
theorem behind10 (m : Mg) (pa ia ca ba : Option Addr) (pc ic cc bc : Nat) (hk : m.k = 10) (w : World) (hW : m.Wf) : Calls Tryz.prog 54 #[.agg (mcs m pa ia ca ba pc ic cc bc)] w (SB (flatI [m.mem, m.tr, m.day]) w) := by
  have HN : Hid (∀ n ∈ [m.mem, m.tr, m.day], I64 n) := by unfold Hid; intro n hn; simp only [List.mem_cons, List.not_mem_nil, or_false] at hn; rcases hn with rfl | rfl | rfl; exact hW.mem; exact hW.tr; exact hW.day
  have HX0 : Hid (Bx (w.alloc (.cells (mcs m pa ia ca ba pc ic cc bc) 35)) w.heap.size (mcs m pa ia ca ba pc ic cc bc) 35) := Bx.new _ _ _
  have HB0 : Hid (Below w.heap.size w (w.alloc (.cells (mcs m pa ia ca ba pc ic cc bc) 35))) := below_a w _
  go_enter Tryz.func54, Tryz.ntmps54
  go_upto_region 1 with fail
  generalize hw1 : w.alloc (.cells (mcs m pa ia ca ba pc ic cc bc) 35) = w1 at *
  have HX : Hid (Bx w1 w.heap.size (mcs m pa ia ca ba pc ic cc bc) 35) := HX0.out
  have HB : Hid (Below w.heap.size w w1) := HB0.out
  clear HX0 HB0 hw1
  have c0 : w1.cell? ⟨w.heap.size, 0, none⟩ = some (.int .i64 10) := by have := HX.out.cell 0; rw [show (mcs m pa ia ca ba pc ic cc bc)[0]? = some (.int .i64 m.k) from rfl, hk] at this; exact this
  have c1 : w1.cell? ⟨w.heap.size, 1, none⟩ = some (.int .i64 m.mem) := HX.out.cell 1
  have c33 : w1.cell? ⟨w.heap.size, 33, none⟩ = some (.int .i64 m.tr) := HX.out.cell 33
  have c19 : w1.cell? ⟨w.heap.size, 19, none⟩ = some (.int .i64 m.day) := HX.out.cell 19
  go_wp2_with fail
  refine (rnums [m.mem, m.tr, m.day] w1.heap.size _ _ (Bx.new _ _ _) HN.out (by show 3 ≤ _; omega)).mono ?_
  rintro e w2 ⟨rfl, hb2⟩
  have HB2 : Hid (Below w.heap.size w w2) := bt (bt HB.out (below_a _ _)) hb2
  generalize flatI [m.mem, m.tr, m.day] = L at *
  clear hb2 HB HX
  go_wp2_with fail
  go_ret
  exact ⟨rfl, HB2.out⟩
set_option maxHeartbeats 4000000 in
theorem behind15 (m : Mg) (pa ia ca ba : Option Addr) (pc ic cc bc : Nat) (hk : m.k = 15) (w : World) (hW : m.Wf) : Calls Tryz.prog 54 #[.agg (mcs m pa ia ca ba pc ic cc bc)] w (SB (flatI [m.tr, m.day, m.rate]) w) := by
  have HN : Hid (∀ n ∈ [m.tr, m.day, m.rate], I64 n) := by unfold Hid; intro n hn; simp only [List.mem_cons, List.not_mem_nil, or_false] at hn; rcases hn with rfl | rfl | rfl; exact hW.tr; exact hW.day; exact hW.rate
  have HX0 : Hid (Bx (w.alloc (.cells (mcs m pa ia ca ba pc ic cc bc) 35)) w.heap.size (mcs m pa ia ca ba pc ic cc bc) 35) := Bx.new _ _ _
  have HB0 : Hid (Below w.heap.size w (w.alloc (.cells (mcs m pa ia ca ba pc ic cc bc) 35))) := below_a w _
  go_enter Tryz.func54, Tryz.ntmps54
  go_upto_region 1 with fail
  generalize hw1 : w.alloc (.cells (mcs m pa ia ca ba pc ic cc bc) 35) = w1 at *
  have HX : Hid (Bx w1 w.heap.size (mcs m pa ia ca ba pc ic cc bc) 35) := HX0.out
  have HB : Hid (Below w.heap.size w w1) := HB0.out
  clear HX0 HB0 hw1
  have c0 : w1.cell? ⟨w.heap.size, 0, none⟩ = some (.int .i64 15) := by have := HX.out.cell 0; rw [show (mcs m pa ia ca ba pc ic cc bc)[0]? = some (.int .i64 m.k) from rfl, hk] at this; exact this
  have c33 : w1.cell? ⟨w.heap.size, 33, none⟩ = some (.int .i64 m.tr) := HX.out.cell 33
  have c19 : w1.cell? ⟨w.heap.size, 19, none⟩ = some (.int .i64 m.day) := HX.out.cell 19
  have c35 : w1.cell? ⟨w.heap.size, 35, none⟩ = some (.int .i64 m.rate) := HX.out.cell 35
  go_wp2_with fail
  refine (rnums [m.tr, m.day, m.rate] w1.heap.size _ _ (Bx.new _ _ _) HN.out (by show 3 ≤ _; omega)).mono ?_
  rintro e w2 ⟨rfl, hb2⟩
  have HB2 : Hid (Below w.heap.size w w2) := bt (bt HB.out (below_a _ _)) hb2
  generalize flatI [m.tr, m.day, m.rate] = L at *
  clear hb2 HB HX
  go_wp2_with fail
  go_ret
  exact ⟨rfl, HB2.out⟩
set_option maxHeartbeats 4000000 in
theorem behind13 (m : Mg) (pa ia ca ba : Option Addr) (pc ic cc bc : Nat) (hk : m.k = 13) (w : World) (hW : m.Wf) : Calls Tryz.prog 54 #[.agg (mcs m pa ia ca ba pc ic cc bc)] w (SB (intL m.mem) w) := by
  have HX0 : Hid (Bx (w.alloc (.cells (mcs m pa ia ca ba pc ic cc bc) 35)) w.heap.size (mcs m pa ia ca ba pc ic cc bc) 35) := Bx.new _ _ _
  have HB0 : Hid (Below w.heap.size w (w.alloc (.cells (mcs m pa ia ca ba pc ic cc bc) 35))) := below_a w _
  go_enter Tryz.func54, Tryz.ntmps54
  go_upto_region 1 with fail
  generalize hw1 : w.alloc (.cells (mcs m pa ia ca ba pc ic cc bc) 35) = w1 at *
  have HX : Hid (Bx w1 w.heap.size (mcs m pa ia ca ba pc ic cc bc) 35) := HX0.out
  have HB : Hid (Below w.heap.size w w1) := HB0.out
  clear HX0 HB0 hw1
  have c0 : w1.cell? ⟨w.heap.size, 0, none⟩ = some (.int .i64 13) := by have := HX.out.cell 0; rw [show (mcs m pa ia ca ba pc ic cc bc)[0]? = some (.int .i64 m.k) from rfl, hk] at this; exact this
  have c1 : w1.cell? ⟨w.heap.size, 1, none⟩ = some (.int .i64 m.mem) := HX.out.cell 1
  go_wp2_with fail
  refine (rint m.mem hW.mem _).mono ?_
  rintro e w2 ⟨rfl, hb2⟩
  have HB2 : Hid (Below w.heap.size w w2) := bt HB.out hb2
  generalize intL m.mem = L at *
  clear hb2 HB HX
  go_wp2_with fail
  go_ret
  exact ⟨rfl, HB2.out⟩
set_option maxHeartbeats 4000000 in
theorem behind0 (m : Mg) (pa ia ca ba : Option Addr) (pc ic cc bc : Nat) (hk : inn m.k 9 15 = false) (w : World) : Calls Tryz.prog 54 #[.agg (mcs m pa ia ca ba pc ic cc bc)] w (SB [] w) := by
  have hk2 : ¬ (9 ≤ m.k ∧ m.k ≤ 15) := by unfold inn at hk; rw [Bool.and_eq_false_iff, decide_eq_false_iff_not, decide_eq_false_iff_not] at hk; omega
  have q9 : (m.k == 9) = false := by rw [beq_eq_false_iff_ne]; omega
  have q10 : (m.k == 10) = false := by rw [beq_eq_false_iff_ne]; omega
  have q11 : (m.k == 11) = false := by rw [beq_eq_false_iff_ne]; omega
  have q12 : (m.k == 12) = false := by rw [beq_eq_false_iff_ne]; omega
  have q13 : (m.k == 13) = false := by rw [beq_eq_false_iff_ne]; omega
  have q14 : (m.k == 14) = false := by rw [beq_eq_false_iff_ne]; omega
  have q15 : (m.k == 15) = false := by rw [beq_eq_false_iff_ne]; omega
  clear hk hk2
  have HX0 : Hid (Bx (w.alloc (.cells (mcs m pa ia ca ba pc ic cc bc) 35)) w.heap.size (mcs m pa ia ca ba pc ic cc bc) 35) := Bx.new _ _ _
  have HB0 : Hid (Below w.heap.size w (w.alloc (.cells (mcs m pa ia ca ba pc ic cc bc) 35))) := below_a w _
  go_enter Tryz.func54, Tryz.ntmps54
  go_upto_region 1 with fail
  generalize hw1 : w.alloc (.cells (mcs m pa ia ca ba pc ic cc bc) 35) = w1 at *
  have HX : Hid (Bx w1 w.heap.size (mcs m pa ia ca ba pc ic cc bc) 35) := HX0.out
  have HB : Hid (Below w.heap.size w w1) := HB0.out
  clear HX0 HB0 hw1
  have c0 : w1.cell? ⟨w.heap.size, 0, none⟩ = some (.int .i64 m.k) := HX.out.cell 0
  go_wp2_with fail
  go_ret
  exact ⟨rfl, HB.out⟩
end Go.Proofs.YtdmlgheajblcdaaGreat

/- Layer 10: Encode of the reference, up to its kinds. -/
namespace Go.Proofs.YtdmlgheajblcdaaGreat
open Go.RowKit
set_option linter.unusedVariables false
set_option linter.unusedSimpArgs false
set_option maxRecDepth 100000
theorem consR3 {P : Program} {l : List Oper} {Q : Exit → Act → World → Prop} {md : Region.Mode} {S : World → Prop} {fuel : Nat} {listed : Array Bool} {a : Act} {w : World} {i j k : Nat} {o o2 o3 : Oper} (hi : l[i]? = some o) (hj : l[j]? = some o2) (hk : l[k]? = some o3) (hr : Region.ready md l.toArray listed = [i, j, k])
    (h : ∀ K' : Act → World → Prop, Shut (∀ a w, S w → (S w → wpAnyH P md l.toArray Q S fuel (listed.setIfInBounds i true) a w) → K' a w) → if Region.wanted o (yielded l.toArray a.tmps) = true then Oper.wp P o a w K' Q else K' (a.put o.dst undef) w)
    (h2 : ∀ K' : Act → World → Prop, Shut (∀ a w, S w → (S w → wpAnyH P md l.toArray Q S fuel (listed.setIfInBounds j true) a w) → K' a w) → if Region.wanted o2 (yielded l.toArray a.tmps) = true then Oper.wp P o2 a w K' Q else K' (a.put o2.dst undef) w)
    (h3 : ∀ K' : Act → World → Prop, Shut (∀ a w, S w → (S w → wpAnyH P md l.toArray Q S fuel (listed.setIfInBounds k true) a w) → K' a w) → if Region.wanted o3 (yielded l.toArray a.tmps) = true then Oper.wp P o3 a w K' Q else K' (a.put o3.dst undef) w) :
    wpAnyH P md l.toArray Q S (fuel + 1) listed a w :=
  wpAnyH_ready hr (by simp) (AllReadyH.cons (by rw [List.getElem?_toArray]; exact hi) h (AllReadyH.cons (by rw [List.getElem?_toArray]; exact hj) h2 (AllReadyH.cons (by rw [List.getElem?_toArray]; exact hk) h3 AllReadyH.nil)))
theorem consR2 {P : Program} {l : List Oper} {Q : Exit → Act → World → Prop} {md : Region.Mode} {S : World → Prop} {fuel : Nat} {listed : Array Bool} {a : Act} {w : World} {i j : Nat} {o o2 : Oper} (hi : l[i]? = some o) (hj : l[j]? = some o2) (hr : Region.ready md l.toArray listed = [i, j])
    (h : ∀ K' : Act → World → Prop, Shut (∀ a w, S w → (S w → wpAnyH P md l.toArray Q S fuel (listed.setIfInBounds i true) a w) → K' a w) → if Region.wanted o (yielded l.toArray a.tmps) = true then Oper.wp P o a w K' Q else K' (a.put o.dst undef) w)
    (h2 : ∀ K' : Act → World → Prop, Shut (∀ a w, S w → (S w → wpAnyH P md l.toArray Q S fuel (listed.setIfInBounds j true) a w) → K' a w) → if Region.wanted o2 (yielded l.toArray a.tmps) = true then Oper.wp P o2 a w K' Q else K' (a.put o2.dst undef) w) :
    wpAnyH P md l.toArray Q S (fuel + 1) listed a w :=
  wpAnyH_ready hr (by simp) (AllReadyH.cons (by rw [List.getElem?_toArray]; exact hi) h (AllReadyH.cons (by rw [List.getElem?_toArray]; exact hj) h2 AllReadyH.nil))
theorem exl {P : Program} {w : World} (ρ : Operand → Value) (o : Oper) (t : TypeId) (x : Operand) (ho : o.op = .load t x) (p v : Value) (hx : ρ x = p) (h : (Instr.loadAt t p).run P w = .ok v w) : (execOp ρ o).run P w = .ok (.value v) w := by
  unfold execOp
  simp only [ho, hx, Sem.run_bind, Sem.run_pure, Result.andThen_ok, h]
theorem load23 (W : World) (b : Nat) (v3 v4 v5 v6 v7 : Value) (c3 : W.cell? ⟨b, 3, none⟩ = some v3) (c4 : W.cell? ⟨b, 4, none⟩ = some v4) (c5 : W.cell? ⟨b, 5, none⟩ = some v5) (c6 : W.cell? ⟨b, 6, none⟩ = some v6) (c7 : W.cell? ⟨b, 7, none⟩ = some v7) : (Instr.loadAt 23 (.pointer (some ⟨b, 3, none⟩))).run Tryz.prog W = .ok (.agg #[v3, v4, v5, v6, v7]) W := by
  go_simp
theorem load27 (W : World) (b : Nat) (v8 v9 v10 v11 v12 v13 v14 v15 v16 v17 : Value) (c8 : W.cell? ⟨b, 8, none⟩ = some v8) (c9 : W.cell? ⟨b, 9, none⟩ = some v9) (c10 : W.cell? ⟨b, 10, none⟩ = some v10) (c11 : W.cell? ⟨b, 11, none⟩ = some v11) (c12 : W.cell? ⟨b, 12, none⟩ = some v12) (c13 : W.cell? ⟨b, 13, none⟩ = some v13) (c14 : W.cell? ⟨b, 14, none⟩ = some v14) (c15 : W.cell? ⟨b, 15, none⟩ = some v15) (c16 : W.cell? ⟨b, 16, none⟩ = some v16) (c17 : W.cell? ⟨b, 17, none⟩ = some v17) : (Instr.loadAt 27 (.pointer (some ⟨b, 8, none⟩))).run Tryz.prog W = .ok (.agg #[v8, v9, v10, v11, v12, v13, v14, v15, v16, v17]) W := by
  go_simp
theorem load30 (W : World) (b : Nat) (v22 v23 v24 v25 v26 v27 v28 v29 : Value) (c22 : W.cell? ⟨b, 22, none⟩ = some v22) (c23 : W.cell? ⟨b, 23, none⟩ = some v23) (c24 : W.cell? ⟨b, 24, none⟩ = some v24) (c25 : W.cell? ⟨b, 25, none⟩ = some v25) (c26 : W.cell? ⟨b, 26, none⟩ = some v26) (c27 : W.cell? ⟨b, 27, none⟩ = some v27) (c28 : W.cell? ⟨b, 28, none⟩ = some v28) (c29 : W.cell? ⟨b, 29, none⟩ = some v29) : (Instr.loadAt 30 (.pointer (some ⟨b, 22, none⟩))).run Tryz.prog W = .ok (.agg #[v22, v23, v24, v25, v26, v27, v28, v29]) W := by
  go_simp
theorem ow_store {P : Program} {o : Oper} {a : Act} {K : Act → World → Prop} {Q : Exit → Act → World → Prop} (w w' : World) (t : TypeId) (x y : Operand) (ho : o.op = .store t x y) (vx vy : Value) (hx : a.eval x = vx) (hy : a.eval y = vy) (hr : (Instr.storeAt t vx vy).run P w = .ok () w') (h : K (a.put o.dst undef) w') : Oper.wp P o a w K Q := by
  unfold Oper.wp execOp
  simp only [ho, hx, hy, Sem.run_bind, Sem.run_pure, Result.andThen_ok, hr]
  exact h
theorem storeT {T n : Nat} (w : World) (g : Nat) (old M : Array Value) (hi : (Tryz.prog.info? T).map (·.size) = some n) (hg : Bx w g old T) (ho : old.size = n) (hs : M.size = n) (h1 : M.all (·.oneCell') = true) : (Instr.storeAt T (.pointer (some ⟨g, 0, none⟩)) (.agg M)).run Tryz.prog w = .ok () (w.setRow g M) := by
  have h := run_storeVar_row (P := Tryz.prog) w g T T old M hg (by rw [hs]; exact hi) (by rw [ho, hs]) h1
  simp only [Instr.storeAt, Instr.sureAddr, asAddr, Sem.run_bind, Sem.run_pure, Result.andThen_ok]
  exact h
theorem info23 : (Tryz.prog.info? 23).map (·.size) = some 5 := by kernel_rfl
theorem info27 : (Tryz.prog.info? 27).map (·.size) = some 10 := by kernel_rfl
theorem info30 : (Tryz.prog.info? 30).map (·.size) = some 8 := by kernel_rfl
theorem Bx.set {w : World} {b : Nat} {cs ds : Array Value} {T : Nat} (h : Bx w b cs T) : Bx (w.setRow b ds) b ds T := setRow_heap w b _ _ T (0, 0) h
theorem Bx.other {w : World} {b c : Nat} {cs ds : Array Value} {T : Nat} (h : Bx w b cs T) (hn : b ≠ c) : Bx (w.setRow c ds) b cs T := (setRow_other w c b ds hn).trans h
theorem Bx.ne {w : World} {b c : Nat} {cs ds : Array Value} {T U : Nat} (h : Bx w b cs T) (k : Bx w c ds U) (hn : T ≠ U) : b ≠ c := by
  intro e; subst e
  have h1 : w.heap[b]? = some (.cells cs T (0, 0)) := h
  rw [show w.heap[b]? = some (.cells ds U (0, 0)) from k] at h1
  injection h1 with h1; injection h1 with _ h1; exact hn h1.symm
theorem takeR {P : Program} {l : List Oper} {Q : Exit → Act → World → Prop} {md : Region.Mode} {S : World → Prop} {i : Nat} {oi : Oper} {v : Value} {fuel : Nat} {listed : Array Bool} {a : Act} {w : World} (hi : l[i]? = some oi)
    (hs : Region.noSelect l.toArray = true) (hf : Region.free md l.toArray listed i = true) (hr : (Region.ready md l.toArray listed).contains i = true)
    (hQ : ∀ c a w, Q (.panic c) (a.put oi.dst v) w → Q (.panic c) a w) (hy : YieldsIf P l.toArray S oi v a) (hS : S w)
    (h : wpAnyH P md l.toArray Q S fuel (listed.setIfInBounds i true) (a.put oi.dst v) w) : wpAnyH P md l.toArray Q S (fuel + 1) listed a w :=
  wpAnyH_take (by rw [List.getElem?_toArray]; exact hi) hs hf hr hQ hy hS h

theorem consR {P : Program} {l : List Oper} {Q : Exit → Act → World → Prop} {md : Region.Mode} {S : World → Prop} {fuel : Nat} {listed : Array Bool} {a : Act} {w : World} {i : Nat} {o : Oper} (hi : l[i]? = some o) (hr : Region.ready md l.toArray listed = [i])
    (h : ∀ K' : Act → World → Prop, Shut (∀ a w, S w → (S w → wpAnyH P md l.toArray Q S fuel (listed.setIfInBounds i true) a w) → K' a w) → if Region.wanted o (yielded l.toArray a.tmps) = true then Oper.wp P o a w K' Q else K' (a.put o.dst undef) w) :
    wpAnyH P md l.toArray Q S (fuel + 1) listed a w :=
  wpAnyH_ready hr (by simp) (AllReadyH.cons (by rw [List.getElem?_toArray]; exact hi) h AllReadyH.nil)
/-- what is right is short -/
structure Shrt (m : Mg) : Prop where
  n : m.k = 1 → m.name.length ≤ 1000
  a : m.k = 2 → m.a.i.length ≤ 1000 ∧ m.a.cur.length ≤ 1000
  b : m.k = 3 → m.b.cur.length ≤ 1000 ∧ m.b.cuts.length ≤ 64 ∧ m.b.bar.length ≤ 64
  p : m.k = 4 → m.ps.length ≤ 64 ∧ ∀ y ∈ m.ps, y.i.length ≤ 1000
  t : m.k = 6 ∨ m.k = 7 → m.t.length ≤ 1000
  l : m.k = 11 → m.out.i.length ≤ 1000 ∧ m.ins.length ≤ 64 ∧ ∀ y ∈ m.ins, y.i.length ≤ 1000
structure Tr5 (m : Mg) (pa ia ca ba : Option Addr) (pc ic cc bc : Nat) (w : World) (p5 : Nat) (xi xc : ByteArray) (W : World) : Prop where
  a : Bx W p5 #[.string xi, .int .i64 m.a.iss, .int .i64 m.a.rat, .int .i64 m.a.mat, .string xc] 23
  b : Bx W w.heap.size (mcs m pa ia ca ba pc ic cc bc) 35
  c : Below w.heap.size w W
section
variable {m : Mg} {pa ia ca ba : Option Addr} {pc ic cc bc : Nat} {w : World} {p5 : Nat} {xi xc : ByteArray} {W W2 : World}
theorem Tr5.keep (h : Tr5 m pa ia ca ba pc ic cc bc w p5 xi xc W) (hb : Below W.heap.size W W2) : Tr5 m pa ia ca ba pc ic cc bc w p5 xi xc W2 := ⟨h.a.keep hb, h.b.keep hb, bt h.c hb⟩
theorem Tr5.alloc (h : Tr5 m pa ia ca ba pc ic cc bc w p5 xi xc W) (o : Obj) : Tr5 m pa ia ca ba pc ic cc bc w p5 xi xc (W.alloc o) := h.keep (below_a _ _)
theorem Tr5.drewN (h : Tr5 m pa ia ca ba pc ic cc bc w p5 xi xc W) (n : Nat) : Tr5 m pa ia ca ba pc ic cc bc w p5 xi xc (W.drewN n) := ⟨h.a, h.b, bdrw h.c n⟩
theorem Tr5.cs (h : Tr5 m pa ia ca ba pc ic cc bc w p5 xi xc W) : W.cell? ⟨p5, 0, none⟩ = some (.string xi) ∧ W.cell? ⟨p5, 1, none⟩ = some (.int .i64 m.a.iss) ∧ W.cell? ⟨p5, 2, none⟩ = some (.int .i64 m.a.rat) ∧ W.cell? ⟨p5, 3, none⟩ = some (.int .i64 m.a.mat) ∧ W.cell? ⟨p5, 4, none⟩ = some (.string xc) := ⟨h.a.cell 0, h.a.cell 1, h.a.cell 2, h.a.cell 3, h.a.cell 4⟩
end
end Go.Proofs.YtdmlgheajblcdaaGreat

/- Layer 10: what stands behind, of swaps and settlements. -/
namespace Go.Proofs.YtdmlgheajblcdaaGreat
open Go.RowKit
set_option linter.unusedVariables false
set_option linter.unusedSimpArgs false
set_option maxRecDepth 100000
set_option maxHeartbeats 4000000 in
theorem behind12 (m : Mg) (pa ia ca ba : Option Addr) (pc ic cc bc : Nat) (hk : m.k = 12) (w : World) (hW : m.Wf) : Calls Tryz.prog 54 #[.agg (mcs m pa ia ca ba pc ic cc bc)] w (SB (flatI [m.mem, m.day] ++ boolL m.done) w) := by
  have HN : Hid (∀ n ∈ [m.mem, m.day], I64 n) := by unfold Hid; intro n hn; simp only [List.mem_cons, List.not_mem_nil, or_false] at hn; rcases hn with rfl | rfl; exact hW.mem; exact hW.day
  have HS : Hid ((⟨(flatI [m.mem, m.day]).toArray⟩ : ByteArray) ++ ⟨(boolL m.done).toArray⟩ = ⟨(flatI [m.mem, m.day] ++ boolL m.done).toArray⟩) := ba_app _ _
  have hz1 : (⟨(flatI [m.mem, m.day]).toArray⟩ : ByteArray).size ≤ 20 := by rw [ba_size]; exact flatI_len _ HN.out
  have hz2 : (⟨(boolL m.done).toArray⟩ : ByteArray).size ≤ 1 := Nat.le_refl 1
  have H51 : Hid (∀ (W : World) (b c : Nat), Bx W b (icells [m.mem, m.day]).toArray 3 → Calls Tryz.prog 51 #[.slice (some ⟨b, 0, none⟩) 2 c] W (TB' ⟨(flatI [m.mem, m.day]).toArray⟩ W)) := fun W b c h => TB'.of (rnums [m.mem, m.day] b c W h HN.out (by show 2 ≤ _; omega)) rfl
  have hz3 : ¬ (⟨(flatI [m.mem, m.day]).toArray⟩ : ByteArray).size + (⟨(boolL m.done).toArray⟩ : ByteArray).size > 9223372036854775807 := by omega
  have H77 : Hid (∀ W, Calls Tryz.prog 77 #[.bool m.done] W (TB' ⟨(boolL m.done).toArray⟩ W)) := fun W => TB'.of (rbool m.done W) rfl
  generalize (⟨(flatI [m.mem, m.day]).toArray⟩ : ByteArray) = S1 at *
  generalize (⟨(boolL m.done).toArray⟩ : ByteArray) = S2 at *
  unfold SB
  generalize (⟨(flatI [m.mem, m.day] ++ boolL m.done).toArray⟩ : ByteArray) = S3 at *
  have HX0 : Hid (Bx (w.alloc (.cells (mcs m pa ia ca ba pc ic cc bc) 35)) w.heap.size (mcs m pa ia ca ba pc ic cc bc) 35) := Bx.new _ _ _
  have HB0 : Hid (Below w.heap.size w (w.alloc (.cells (mcs m pa ia ca ba pc ic cc bc) 35))) := below_a w _
  go_enter Tryz.func54, Tryz.ntmps54
  go_upto_region 1 with fail
  generalize hw1 : w.alloc (.cells (mcs m pa ia ca ba pc ic cc bc) 35) = w1 at *
  have HX : Hid (Bx w1 w.heap.size (mcs m pa ia ca ba pc ic cc bc) 35) := HX0.out
  have HB : Hid (Below w.heap.size w w1) := HB0.out
  clear HX0 HB0 hw1
  have c0 : w1.cell? ⟨w.heap.size, 0, none⟩ = some (.int .i64 12) := by have := HX.out.cell 0; rw [show (mcs m pa ia ca ba pc ic cc bc)[0]? = some (.int .i64 m.k) from rfl, hk] at this; exact this
  have c1 : w1.cell? ⟨w.heap.size, 1, none⟩ = some (.int .i64 m.mem) := HX.out.cell 1
  have c19 : w1.cell? ⟨w.heap.size, 19, none⟩ = some (.int .i64 m.day) := HX.out.cell 19
  have c34 : w1.cell? ⟨w.heap.size, 34, none⟩ = some (.bool m.done) := HX.out.cell 34
  have HKP : Hid (∀ (W W2 : World), Bx W w.heap.size (mcs m pa ia ca ba pc ic cc bc) 35 → Below W.heap.size W W2 → (W2.cell? ⟨w.heap.size, 1, none⟩ = some (.int .i64 m.mem) ∧ W2.cell? ⟨w.heap.size, 19, none⟩ = some (.int .i64 m.day) ∧ W2.cell? ⟨w.heap.size, 34, none⟩ = some (.bool m.done))) := fun W W2 h hb => ⟨(h.keep hb).cell 1, (h.keep hb).cell 19, (h.keep hb).cell 34⟩
  have HBd : Hid (∀ n, Below w.heap.size w (w1.drewN n)) := fun n => bdrw HB.out n
  go_wp2_with fail
  go_region_held3 (fun w' => w'.cell? ⟨w.heap.size, 1, none⟩ = some (.int .i64 m.mem) ∧ w'.cell? ⟨w.heap.size, 19, none⟩ = some (.int .i64 m.day) ∧ w'.cell? ⟨w.heap.size, 34, none⟩ = some (.bool m.done)) (first | go_keep | exact HKP.out _ _ (((HX.out.keep (below_a _ _)).drewN _).keep hb2.out) hb3.out | exact HKP.out _ _ ((HX.out.keep (below_a _ _)).drewN _) hb2.out) (first | (go_at_call 51; go_must (refine (H51.out _ w1.heap.size _ (show Bx ((w1.alloc (.cells #[.int .i64 m.mem, .int .i64 m.day] 3)).drewN _) w1.heap.size (icells [m.mem, m.day]).toArray 3 from Bx.new w1 _ 3)).mono ?_; rintro e w2 ⟨rfl, hb2⟩)) | (go_at_call 77; go_must (refine (H77.out _).mono ?_; rintro e w3 ⟨rfl, hb3⟩)))
  have HB3 : Hid (Below w.heap.size w w3) := bt (bt (bdrw (bt HB.out (below_a _ _)) _) hb2.out) hb3.out
  clear hb2 hb3 HB HX HKP
  go_wp2_with fail
  go_ret
  exact ⟨by rw [HS.out]; rfl, HB3.out⟩
set_option maxHeartbeats 8000000 in
theorem behind11 (m : Mg) (pa ia ca ba : Option Addr) (pc ic cc bc : Nat) (hk : m.k = 11) (w : World) (hW : m.Wf) (hH : Hld w.heap.size w m pa ia ca ba) (hSh : Shrt m) : Calls Tryz.prog 54 #[.agg (mcs m pa ia ca ba pc ic cc bc)] w (SB (bodL m) w) := by
  have HWf : Hid m.Wf := hW
  have HH : Hid (Hld w.heap.size w m pa ia ca ba) := hH
  have HSl : Hid (m.out.i.length ≤ 1000 ∧ m.ins.length ≤ 64 ∧ ∀ y ∈ m.ins, y.i.length ≤ 1000) := hSh.l hk
  clear hW hH hSh
  have HN1 : Hid (∀ n ∈ [m.mem, m.tr], I64 n) := by unfold Hid; intro n hn; simp only [List.mem_cons, List.not_mem_nil, or_false] at hn; rcases hn with rfl | rfl; exact HWf.out.mem; exact HWf.out.tr
  have hz1 : (⟨(flatI [m.mem, m.tr]).toArray⟩ : ByteArray).size ≤ 20 := by rw [ba_size]; exact flatI_len _ HN1.out
  have HS1 : Hid ((⟨(flatI [m.mem, m.tr]).toArray⟩ : ByteArray).data.toList = flatI [m.mem, m.tr]) := rfl
  have HC1 : Hid (∀ (W : World) (b c : Nat), Bx W b (icells [m.mem, m.tr]).toArray 3 → Calls Tryz.prog 51 #[.slice (some ⟨b, 0, none⟩) 2 c] W (TB' ⟨(flatI [m.mem, m.tr]).toArray⟩ W)) := fun W b c h => TB'.of (rnums [m.mem, m.tr] b c W h HN1.out (by show 2 ≤ _; omega)) rfl
  generalize (⟨(flatI [m.mem, m.tr]).toArray⟩ : ByteArray) = S1 at *
  have hz2 : (⟨(textL m.out.i).toArray⟩ : ByteArray).size ≤ 1010 := textL_len HSl.out.1
  have HS2 : Hid ((⟨(textL m.out.i).toArray⟩ : ByteArray).data.toList = textL m.out.i) := rfl
  have HC2 : Hid (∀ W, Calls Tryz.prog 50 #[.string ⟨m.out.i.toArray⟩] W (TB' ⟨(textL m.out.i).toArray⟩ W)) := fun W => TB'.of (rtext ⟨m.out.i.toArray⟩ (by have := HSl.out.1; show m.out.i.length ≤ _; omega) W) rfl
  generalize (⟨(textL m.out.i).toArray⟩ : ByteArray) = S2 at *
  have hz3 : (⟨(intL m.out.q).toArray⟩ : ByteArray).size ≤ 10 := intL_len HWf.out.out
  have HS3 : Hid ((⟨(intL m.out.q).toArray⟩ : ByteArray).data.toList = intL m.out.q) := rfl
  have HC3 : Hid (∀ W, Calls Tryz.prog 49 #[.int .i64 m.out.q] W (TB' ⟨(intL m.out.q).toArray⟩ W)) := fun W => TB'.of (rint m.out.q HWf.out.out W) rfl
  generalize (⟨(intL m.out.q).toArray⟩ : ByteArray) = S3 at *
  have hn1 : m.ins.length ≤ 64 := HSl.out.2.1
  have hz4 : (⟨(uintL m.ins.length).toArray⟩ : ByteArray).size ≤ 10 := uintL_len (by omega)
  have HS4 : Hid ((⟨(uintL m.ins.length).toArray⟩ : ByteArray).data.toList = uintL m.ins.length) := rfl
  have HC4 : Hid (∀ W, Calls Tryz.prog 52 #[.int .u64 (IntKind.u64.wrap (m.ins.length : Int))] W (TB' ⟨(uintL m.ins.length).toArray⟩ W)) := fun W => TB'.of (ruintW m.ins.length (by omega) W) rfl
  generalize (⟨(uintL m.ins.length).toArray⟩ : ByteArray) = S4 at *
  have hq2 : ¬ S1.size + S2.size > 9223372036854775807 := by omega
  have hq3 : ¬ S1.size + S2.size + S3.size > 9223372036854775807 := by omega
  have hr3 : ¬ (S1 ++ S2).size + S3.size > 9223372036854775807 := by simp only [ByteArray.size_append]; omega
  have hq4 : ¬ S1.size + S2.size + S3.size + S4.size > 9223372036854775807 := by omega
  have hr4 : ¬ (S1 ++ S2 ++ S3).size + S4.size > 9223372036854775807 := by simp only [ByteArray.size_append]; omega
  have HX0 : Hid (Bx (w.alloc (.cells (mcs m pa ia ca ba pc ic cc bc) 35)) w.heap.size (mcs m pa ia ca ba pc ic cc bc) 35) := Bx.new _ _ _
  have HB0 : Hid (Below w.heap.size w (w.alloc (.cells (mcs m pa ia ca ba pc ic cc bc) 35))) := below_a w _
  go_enter Tryz.func54, Tryz.ntmps54
  go_upto_region 1 with fail
  generalize hw1 : w.alloc (.cells (mcs m pa ia ca ba pc ic cc bc) 35) = w1 at *
  have HX : Hid (Bx w1 w.heap.size (mcs m pa ia ca ba pc ic cc bc) 35) := HX0.out
  have HB : Hid (Below w.heap.size w w1) := HB0.out
  clear HX0 HB0 hw1
  have c0 : w1.cell? ⟨w.heap.size, 0, none⟩ = some (.int .i64 11) := by have := HX.out.cell 0; rw [show (mcs m pa ia ca ba pc ic cc bc)[0]? = some (.int .i64 m.k) from rfl, hk] at this; exact this
  have c1 : w1.cell? ⟨w.heap.size, 1, none⟩ = some (.int .i64 m.mem) := HX.out.cell 1
  have c33 : w1.cell? ⟨w.heap.size, 33, none⟩ = some (.int .i64 m.tr) := HX.out.cell 33
  have c30 : w1.cell? ⟨w.heap.size, 30, none⟩ = some (.string ⟨m.out.i.toArray⟩) := HX.out.cell 30
  have c31 : w1.cell? ⟨w.heap.size, 31, none⟩ = some (.int .i64 m.out.q) := HX.out.cell 31
  have c32 : w1.cell? ⟨w.heap.size, 32, none⟩ = some (.slice ia m.ins.length ic) := HX.out.cell 32
  have HKP : Hid (∀ (W W2 : World), Bx W w.heap.size (mcs m pa ia ca ba pc ic cc bc) 35 → Below W.heap.size W W2 → (W2.cell? ⟨w.heap.size, 1, none⟩ = some (.int .i64 m.mem) ∧ W2.cell? ⟨w.heap.size, 33, none⟩ = some (.int .i64 m.tr) ∧ W2.cell? ⟨w.heap.size, 30, none⟩ = some (.string ⟨m.out.i.toArray⟩) ∧ W2.cell? ⟨w.heap.size, 31, none⟩ = some (.int .i64 m.out.q) ∧ W2.cell? ⟨w.heap.size, 32, none⟩ = some (.slice ia m.ins.length ic))) := fun W W2 h hb => ⟨(h.keep hb).cell 1, (h.keep hb).cell 33, (h.keep hb).cell 30, (h.keep hb).cell 31, (h.keep hb).cell 32⟩
  go_wp2_with fail
  go_region_held3 (fun w' => w'.cell? ⟨w.heap.size, 1, none⟩ = some (.int .i64 m.mem) ∧ w'.cell? ⟨w.heap.size, 33, none⟩ = some (.int .i64 m.tr) ∧ w'.cell? ⟨w.heap.size, 30, none⟩ = some (.string ⟨m.out.i.toArray⟩) ∧ w'.cell? ⟨w.heap.size, 31, none⟩ = some (.int .i64 m.out.q) ∧ w'.cell? ⟨w.heap.size, 32, none⟩ = some (.slice ia m.ins.length ic)) (first | go_keep | exact HKP.out _ _ (((((HX.out.keep (below_a _ _)).drewN _).keep hb2.out).keep hb3.out).keep hb4.out) hb5.out | exact HKP.out _ _ ((((HX.out.keep (below_a _ _)).drewN _).keep hb2.out).keep hb3.out) hb4.out | exact HKP.out _ _ (((HX.out.keep (below_a _ _)).drewN _).keep hb2.out) hb3.out | exact HKP.out _ _ ((HX.out.keep (below_a _ _)).drewN _) hb2.out) (first | (go_at_call 51; go_must (refine (HC1.out _ w1.heap.size _ (show Bx ((w1.alloc (.cells #[.int .i64 m.mem, .int .i64 m.tr] 3)).drewN _) w1.heap.size (icells [m.mem, m.tr]).toArray 3 from Bx.new w1 _ 3)).mono ?_; rintro e w2 ⟨rfl, hb2⟩)) | (go_at_call 50; go_must (refine (HC2.out _).mono ?_; rintro e w3 ⟨rfl, hb3⟩)) | (go_at_call 49; go_must (refine (HC3.out _).mono ?_; rintro e w4 ⟨rfl, hb4⟩)) | (go_at_call 52; go_must (refine (HC4.out _).mono ?_; rintro e w5 ⟨rfl, hb5⟩)))
  rename_i hHeld
  have HXq : Hid (Bx w5 w.heap.size (mcs m pa ia ca ba pc ic cc bc) 35) := ((((HX.out.keep (below_a _ _)).drewN _).keep hb2.out).keep hb3.out |>.keep hb4.out).keep hb5.out
  have HBq : Hid (Below w.heap.size w w5) := bt (bt (bt (bt (bdrw (bt HB.out (below_a _ _)) _) hb2.out) hb3.out) hb4.out) hb5.out
  have HTq : Hid ((S1 ++ S2 ++ S3 ++ S4).data.toList = (flatI [m.mem, m.tr] ++ (textL m.out.i ++ (intL m.out.q ++ uintL m.ins.length)))) := by unfold Hid; simp only [ByteArray.data_append, Array.toList_append, HS1.out, HS2.out, HS3.out, HS4.out, List.append_assoc]
  have hzq : (S1 ++ S2 ++ S3 ++ S4).size ≤ 3000 := by simp only [ByteArray.size_append]; omega
  clear hHeld hb2 hb3 hb4 hb5 HX HB HC1 HC2 HC3 HC4 HKP c0 c1 c33 c30 c31 c32
  go_wp2_with fail
  have HLk : Hid (Lts w.heap.size w ia m.ins) := HH.out.ins
  have hn64 : m.ins.length ≤ 64 := HSl.out.2.1
  have HQ : Hid (∀ y ∈ m.ins, y.i.length ≤ 1000 ∧ I64 y.q) := fun y hy => ⟨HSl.out.2.2 y hy, HWf.out.ins y hy⟩
  go_loopw [3, 4] (fun v i wr => ∃ (k : Nat) (T : ByteArray), i = .int .i64 k ∧ v = .string T ∧ k ≤ m.ins.length ∧ Hid (T.data.toList = (flatI [m.mem, m.tr] ++ (textL m.out.i ++ (intL m.out.q ++ uintL m.ins.length))) ++ flatM lotL (m.ins.take k)) ∧ T.size ≤ 4000 + 1020 * k ∧ Hid (Below w.heap.size w wr) ∧ Hid (Bx wr w.heap.size (mcs m pa ia ca ba pc ic cc bc) 35)) (fun _ i _ => m.ins.length - (Lib.intOf i).toNat)
  case atStart => exact ⟨0, _, rfl, rfl, Nat.zero_le _, by unfold Hid; rw [List.take_zero]; show _ = _ ++ []; rw [List.append_nil]; exact HTq.out, by omega, HBq, HXq⟩
  case round =>
    clear HBq HXq HTq
    obtain ⟨k, T, rfl, rfl, hkk, HT, hzT, HBk, HXk⟩ := hrel
    have d0 : wr.cell? ⟨w.heap.size, 32, none⟩ = some (.slice ia m.ins.length ic) := HXk.out.cell 32
    by_cases hkn : k < m.ins.length
    · have hkz : (k : Int) < (m.ins.length : Int) := by omega
      have hk0 : (0 : Int) ≤ (k : Int) := by omega
      obtain ⟨bb, off, rfl, hbl, hce⟩ := HLk.out (by omega)
      have hc0 : wr.cell? ⟨bb, off + k * 2, none⟩ = some (.string ⟨m.ins[k].i.toArray⟩) := (HBk.out.cell (by exact hbl)).trans (hce k hkn).1
      have hc1 : wr.cell? ⟨bb, off + k * 2 + 1, none⟩ = some (.int .i64 m.ins[k].q) := (HBk.out.cell (by exact hbl)).trans (hce k hkn).2
      have hq0 := (HQ.out _ (List.getElem_mem hkn)).1
      have hq1 := (HQ.out _ (List.getElem_mem hkn)).2
      have hz1 : (⟨(textL m.ins[k].i).toArray⟩ : ByteArray).size ≤ 1010 := textL_len hq0
      have HC1 : Hid (∀ W, Calls Tryz.prog 50 #[.string ⟨m.ins[k].i.toArray⟩] W (TB' ⟨(textL m.ins[k].i).toArray⟩ W)) := fun W => TB'.of (rtext ⟨m.ins[k].i.toArray⟩ (by show m.ins[k].i.length ≤ _; omega) W) rfl
      have hz2 : (⟨(intL m.ins[k].q).toArray⟩ : ByteArray).size ≤ 10 := intL_len hq1
      have HC2 : Hid (∀ W, Calls Tryz.prog 49 #[.int .i64 m.ins[k].q] W (TB' ⟨(intL m.ins[k].q).toArray⟩ W)) := fun W => TB'.of (rint m.ins[k].q hq1 W) rfl
      have HT2 : Hid ((T ++ (⟨(textL m.ins[k].i).toArray⟩ : ByteArray) ++ (⟨(intL m.ins[k].q).toArray⟩ : ByteArray)).data.toList = (flatI [m.mem, m.tr] ++ (textL m.out.i ++ (intL m.out.q ++ uintL m.ins.length))) ++ flatM lotL (m.ins.take (k + 1))) := by
        unfold Hid
        rw [flatM_take lotL hkn]
        simp only [ByteArray.data_append, Array.toList_append, HT.out, List.append_assoc]
        rfl
      have HKP : Hid (∀ (W W2 : World), Bx W w.heap.size (mcs m pa (some ⟨bb, off, none⟩) ca ba pc ic cc bc) 35 → W.cell? ⟨bb, off + k * 2, none⟩ = some (.string ⟨m.ins[k].i.toArray⟩) → W.cell? ⟨bb, off + k * 2 + 1, none⟩ = some (.int .i64 m.ins[k].q) → bb < W.heap.size → Below W.heap.size W W2 → (W2.cell? ⟨w.heap.size, 32, none⟩ = some (.slice (some ⟨bb, off, none⟩) m.ins.length ic) ∧ W2.cell? ⟨bb, off + k * 2, none⟩ = some (.string ⟨m.ins[k].i.toArray⟩) ∧ W2.cell? ⟨bb, off + k * 2 + 1, none⟩ = some (.int .i64 m.ins[k].q))) := fun W W2 h c1 c2 hl hb => ⟨(h.keep hb).cell 32, (hb.cell (by exact hl)).trans c1, (hb.cell (by exact hl)).trans c2⟩
      have hbl2 : bb < wr.heap.size := Nat.lt_of_lt_of_le hbl HBk.out.size
      generalize (⟨(textL m.ins[k].i).toArray⟩ : ByteArray) = S1 at *
      generalize (⟨(intL m.ins[k].q).toArray⟩ : ByteArray) = S2 at *
      generalize (⟨m.ins[k].i.toArray⟩ : ByteArray) = x0 at *
      generalize m.ins[k].q = x1 at *
      have hq1 : ¬ T.size + S1.size > 9223372036854775807 := by omega
      have hq2 : ¬ T.size + S1.size + S2.size > 9223372036854775807 := by omega
      have hq3 : ¬ (T ++ S1).size + S2.size > 9223372036854775807 := by simp only [ByteArray.size_append]; omega
      clear hce hq0 HT
      go_wp2_with fail
      go_region_held3 (fun w' => w'.cell? ⟨w.heap.size, 32, none⟩ = some (.slice (some ⟨bb, off, none⟩) m.ins.length ic) ∧ w'.cell? ⟨bb, off + k * 2, none⟩ = some (.string x0) ∧ w'.cell? ⟨bb, off + k * 2 + 1, none⟩ = some (.int .i64 x1)) (first | go_keep | exact HKP.out _ _ ((HXk.out.drewN _).keep hb2.out) (HKP.out _ _ (HXk.out.drewN _) hc0 hc1 hbl2 hb2.out).2.1 (HKP.out _ _ (HXk.out.drewN _) hc0 hc1 hbl2 hb2.out).2.2 (Nat.lt_of_lt_of_le hbl2 hb2.out.size) hb3.out | exact HKP.out _ _ (HXk.out.drewN _) hc0 hc1 hbl2 hb2.out) (first | (go_at_call 50; go_must (refine (HC1.out _).mono ?_; rintro e w2 ⟨rfl, hb2⟩)) | (go_at_call 49; go_must (refine (HC2.out _).mono ?_; rintro e w3 ⟨rfl, hb3⟩)))
      rename_i hHeld
      have HX5 : Hid (Bx w3 w.heap.size (mcs m pa (some ⟨bb, off, none⟩) ca ba pc ic cc bc) 35) := ((HXk.out.drewN _).keep hb2.out).keep hb3.out
      have HB5 : Hid (Below w.heap.size w w3) := bt (bt (bdrw HBk.out _) hb2.out) hb3.out
      have hz5 : (T ++ S1 ++ S2).size ≤ 4000 + 1020 * (k + 1) := by simp only [ByteArray.size_append]; omega
      clear hHeld hb2 hb3 HXk HBk HKP
      go_wp2_with fail
      exact ⟨⟨k + 1, _, by go_num, rfl, by omega, HT2.out, hz5, HB5.out, HX5.out⟩, by simp [Lib.intOf]; omega⟩
    · have hkz : ¬ (k : Int) < (m.ins.length : Int) := by omega
      have HTe : Hid (T.data.toList = (flatI [m.mem, m.tr] ++ (textL m.out.i ++ (intL m.out.q ++ uintL m.ins.length))) ++ flatM lotL m.ins) := by unfold Hid; rw [HT.out, List.take_of_length_le (by omega)]
      have hze : T.size ≤ 100000 := by omega
      have HTf : Hid (T.data.toList = bodL m) := by unfold Hid bodL; rw [HTe.out]; simp [hk, flatI, lotL, List.append_assoc]
      go_wp2_with fail
      go_ret
      exact SB.mk HTf.out HBk.out
end Go.Proofs.YtdmlgheajblcdaaGreat
