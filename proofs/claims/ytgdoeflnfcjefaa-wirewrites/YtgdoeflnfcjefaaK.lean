/- Items in memory; what is written of them. -/
import Derived.Test.YtgdoeflnfcjefaaJ
import Derived.WalkKit
import Derived.ProofKit
import Derived.Handy
import Derived.WalkLawsBesides
import Derived.WalkSpells
import Derived.BigQuiet
import Derived.BigCall
import Derived.Deep.QuietTactic
import Derived.Deep.Light
import Derived.Deep.OwnRows
import Derived.Laws.AppendOwnNone
import Derived.Laws.Strings3
import Derived.Laws.RangeAny
import Derived.Deep.RegionWith
import Derived.Lib.BitFns
import Derived.Lib.Walk
import Derived.Lib.Strings
import Derived.Lib.OthersKept
import Derived.Deep.CutBlock
import Derived.Deep.DeepCutAuto
import Derived.Deep.LoopGhost
import Derived.Deep.RegionHeld3
import Derived.Lib.SmallJoins
import Derived.Maps.AppendAt
import Derived.Laws.IdiomStrings
import Derived.Lib.AppendZeros
import Derived.Deep.WholeRow
import Derived.Laws.BitsAllLaws
import Derived.Lib.ConvBytes
import Derived.Deep.RegionLaw
namespace Go.Proofs.Ytgdoeflnfcjefaa
open Go.RowKit
set_option linter.unusedVariables false
set_option linter.unusedSimpArgs false
/-- an item in memory -/
structure Itm (B : Nat) (w : World) (b off : Nat) (x : It) (a : Option Addr) (cap : Nat) : Prop where
  c0 : w.cell? ⟨b, off, none⟩ = some (.int .i64 x.k)
  c1 : w.cell? ⟨b, off + 1, none⟩ = some (.int .u64 x.u)
  c2 : w.cell? ⟨b, off + 2, none⟩ = some (.int .i64 x.n)
  c3 : w.cell? ⟨b, off + 3, none⟩ = some (.string ⟨x.t.toArray⟩)
  c4 : w.cell? ⟨b, off + 4, none⟩ = some (.bool x.b)
  c5 : w.cell? ⟨b, off + 5, none⟩ = some (.slice a x.l.length cap)
  ins : Ins B w a x.l
theorem Itm.keep {B : Nat} {w w' : World} {b off : Nat} {x : It} {a : Option Addr} {cap : Nat} (h : Itm B w b off x a cap) (hb : Below B w w') (hB : b < B) : Itm B w' b off x a cap :=
  ⟨(hb.cell (by exact hB)).trans h.c0, (hb.cell (by exact hB)).trans h.c1, (hb.cell (by exact hB)).trans h.c2, (hb.cell (by exact hB)).trans h.c3, (hb.cell (by exact hB)).trans h.c4, (hb.cell (by exact hB)).trans h.c5, h.ins.keep hb⟩
/-- items in memory, below B -/
def Its (B : Nat) (w : World) (a : Option Addr) (xs : List It) : Prop := 0 < xs.length → ∃ b off, a = some ⟨b, off, none⟩ ∧ b < B ∧ ∀ j (h : j < xs.length), ∃ la cap, Itm B w b (off + j * 6) xs[j] la cap
theorem Its.keep {B : Nat} {w w' : World} {a : Option Addr} {xs : List It} (h : Its B w a xs) (hb : Below B w w') : Its B w' a xs := fun h0 => by
  obtain ⟨b, off, rfl, hB, hc⟩ := h h0
  refine ⟨b, off, rfl, hB, fun j hj => ?_⟩
  obtain ⟨la, cap, hi⟩ := hc j hj
  exact ⟨la, cap, hi.keep hb hB⟩
theorem Its.mono {B C : Nat} {w : World} {a : Option Addr} {xs : List It} (h : Its B w a xs) (hb : B ≤ C) : Its C w a xs := fun h0 => by
  obtain ⟨b, off, rfl, hB, hc⟩ := h h0
  refine ⟨b, off, rfl, Nat.lt_of_lt_of_le hB hb, fun j hj => ?_⟩
  obtain ⟨la, cap, hi⟩ := hc j hj
  exact ⟨la, cap, hi.c0, hi.c1, hi.c2, hi.c3, hi.c4, hi.c5, hi.ins.mono hb⟩
theorem itw_take (xs : List It) (k : Nat) : itw (xs.take k) ≤ itw xs := by
  unfold itw
  have e := List.take_append_drop k xs
  have h : ((xs.take k ++ xs.drop k).map fun x => x.t.length + x.l.length).sum = (xs.map fun x => x.t.length + x.l.length).sum := by rw [e]
  rw [List.map_append, List.sum_append] at h
  omega
theorem itw_at {xs : List It} {k : Nat} (h : k < xs.length) : xs[k].t.length + xs[k].l.length ≤ itw xs := by
  have h1 := itw_take xs (k + 1)
  rw [List.take_succ_eq_append_getElem h] at h1
  unfold itw at h1 ⊢
  rw [List.map_append, List.sum_append] at h1
  simp at h1
  omega
theorem wrL_take {xs : List It} {k : Nat} (h : k < xs.length) : wrL (xs.take (k + 1)) = wrL (xs.take k) ++ (xs[k]).L := by
  rw [List.take_succ_eq_append_getElem h, wrL_snoc]
/-- A call answers a text, and changes nothing that was there. -/
def SB (l : List UInt8) (w : World) (e : Ending) (w' : World) : Prop := e = .returned (.string ⟨l.toArray⟩) ∧ Below w.heap.size w w'
theorem SB.mk {l : List UInt8} {s : ByteArray} {w w' : World} (h : s.data.toList = l) (hb : Below w.heap.size w w') : SB l w (.returned (.string s)) w' := ⟨by rw [← h], hb⟩
theorem L0 {x : It} (h : x.k = 0) : x.L = uintL x.u := if_pos h
theorem L1 {x : It} (h : x.k = 1) : x.L = intL x.n := by unfold It.L itL; rw [if_neg (by omega), if_pos h]
theorem L2 {x : It} (h : x.k = 2) : x.L = textL x.t := by unfold It.L itL; rw [if_neg (by omega), if_neg (by omega), if_pos h]
theorem L3 {x : It} (h : x.k = 3) : x.L = boolL x.b := by unfold It.L itL; rw [if_neg (by omega), if_neg (by omega), if_neg (by omega), if_pos h]
theorem L4 {x : It} (h0 : x.k ≠ 0) (h1 : x.k ≠ 1) (h2 : x.k ≠ 2) (h3 : x.k ≠ 3) : x.L = intsL x.l := by unfold It.L itL; rw [if_neg h0, if_neg h1, if_neg h2, if_neg h3]
set_option maxHeartbeats 4000000 in
theorem lwritten (xs : List It) (a : Option Addr) (cap : Nat) (w : World) (h : Its w.heap.size w a xs) (hw : ∀ x ∈ xs, x.Wf) (h60 : xs.length ≤ 60) (h6 : itw xs ≤ 6000) : Calls Try.prog 15 #[.slice a xs.length cap] w (SB (wrL xs) w) := by
  have HI : Hid (Its w.heap.size w a xs) := h
  have HF : Hid (∀ x ∈ xs, x.Wf) := hw
  have HW0 : Hid (Wm w.heap.size (w.alloc (.cells #[.slice none 0 0] 51)) w.heap.size (.slice none 0 0) []) := ⟨Nat.le_refl _, heap_alloc_new w _, World.ownsRow_nil _ _ _ _⟩
  have HB0 : Hid (Below w.heap.size w (w.alloc (.cells #[.slice none 0 0] 51))) := below_new w _
  clear h hw
  go_enter Try.func15, Try.ntmps15
  go_wp2_with fail
  go_loopw [4] (fun i wr => ∃ (k : Nat) (v : Value), i = .int .i64 k ∧ k ≤ xs.length ∧ Hid (Wm w.heap.size wr w.heap.size v (wrL (xs.take k))) ∧ Hid (Below w.heap.size w wr)) (fun i _ => xs.length - (Lib.intOf i).toNat)
  case atStart => exact ⟨0, _, rfl, Nat.zero_le _, HW0, HB0⟩
  case round =>
    clear HW0 HB0
    obtain ⟨k, v, rfl, hk, HW, HB⟩ := hrel
    by_cases hkn : k < xs.length
    · have hkz : (k : Int) < (xs.length : Int) := by omega
      obtain ⟨b, off, rfl, hbl, hce⟩ := HI.out (by omega)
      obtain ⟨la, lc, hit⟩ := hce k hkn
      have hit := hit.keep HB.out hbl
      have HX : Hid (wrL (xs.take (k + 1)) = wrL (xs.take k) ++ (xs[k]).L) := wrL_take hkn
      have HN : Hid ((xs[k]).Wf) := HF.out _ (List.getElem_mem hkn)
      have hsz := itw_at hkn
      have HL : Hid ((wrL (xs.take k)).length ≤ 70000) := by
        have h1 := wrL_len (xs.take k) (fun x hx => HF.out x (List.mem_of_mem_take hx)) (by have := itw_take xs k; omega)
        have h2 := itw_take xs k
        rw [List.length_take] at h1
        unfold Hid
        omega
      clear hce
      generalize xs[k] = x at *
      have d0 := hit.c0
      have d1 := hit.c1
      have d2 := hit.c2
      have d3 := hit.c3
      have d4 := hit.c4
      have d5 := hit.c5
      have HIn : Hid (Ins w.heap.size wr la x.l) := hit.ins
      clear hit
      by_cases k0 : x.k = 0
      · have kz0 : (x.k == 0) = true := by rw [k0]; rfl
        have HT : Hid (x.L = _) := L0 k0
        rw [HT.out] at HX
        have HB4 : Hid (Below w.heap.size wr (wr.alloc (.cells #[.int .i64 x.k, .int .u64 x.u, .int .i64 x.n, .string ⟨x.t.toArray⟩, .bool x.b, .slice la x.l.length lc] 28))) := (Below.refl _ wr).alloc HB.out.size _
        have HW4 : Hid (Wm w.heap.size (wr.alloc (.cells #[.int .i64 x.k, .int .u64 x.u, .int .i64 x.n, .string ⟨x.t.toArray⟩, .bool x.b, .slice la x.l.length lc] 28)) w.heap.size v (wrL (xs.take k))) := HW.out.alloc _
        have HC : Hid (Calls Try.prog _ _ _ _) := wuint w.heap.size w.heap.size v _ x.u HN.out.u _ HW4.out (by have := HL.out; omega)
        clear HT k0
        go_wp2_with fail
        refine HC.out.mono ?_
        rintro e w3 ⟨rfl, v3, HW5, HB5⟩
        have HW6 : Hid (Wm w.heap.size w3 w.heap.size v3 (wrL (xs.take (k + 1)))) := by unfold Hid; rw [HX.out]; exact HW5.out
        have HB6 : Hid (Below w.heap.size w w3) := HB.out.trans (HB4.out.trans HB5.out)
        clear HW4 HB4 HB5 HW5 HC
        go_wp2_with fail
        exact ⟨⟨k + 1, v3, by go_num, by omega, HW6.out, HB6.out⟩, by simp [Lib.intOf]; omega⟩
      by_cases k1 : x.k = 1
      · have kz1 : (x.k == 1) = true := by rw [k1]; rfl
        have kz0 : (x.k == 0) = false := by rw [beq_eq_false_iff_ne]; omega
        have HT : Hid (x.L = _) := L1 k1
        rw [HT.out] at HX
        have HB4 : Hid (Below w.heap.size wr (wr.alloc (.cells #[.int .i64 x.k, .int .u64 x.u, .int .i64 x.n, .string ⟨x.t.toArray⟩, .bool x.b, .slice la x.l.length lc] 28))) := (Below.refl _ wr).alloc HB.out.size _
        have HW4 : Hid (Wm w.heap.size (wr.alloc (.cells #[.int .i64 x.k, .int .u64 x.u, .int .i64 x.n, .string ⟨x.t.toArray⟩, .bool x.b, .slice la x.l.length lc] 28)) w.heap.size v (wrL (xs.take k))) := HW.out.alloc _
        have HC : Hid (Calls Try.prog _ _ _ _) := wint w.heap.size w.heap.size v _ x.n HN.out.n _ HW4.out (by have := HL.out; omega)
        clear HT k0 k1
        go_wp2_with fail
        refine HC.out.mono ?_
        rintro e w3 ⟨rfl, v3, HW5, HB5⟩
        have HW6 : Hid (Wm w.heap.size w3 w.heap.size v3 (wrL (xs.take (k + 1)))) := by unfold Hid; rw [HX.out]; exact HW5.out
        have HB6 : Hid (Below w.heap.size w w3) := HB.out.trans (HB4.out.trans HB5.out)
        clear HW4 HB4 HB5 HW5 HC
        go_wp2_with fail
        exact ⟨⟨k + 1, v3, by go_num, by omega, HW6.out, HB6.out⟩, by simp [Lib.intOf]; omega⟩
      by_cases k2 : x.k = 2
      · have kz2 : (x.k == 2) = true := by rw [k2]; rfl
        have kz0 : (x.k == 0) = false := by rw [beq_eq_false_iff_ne]; omega
        have kz1 : (x.k == 1) = false := by rw [beq_eq_false_iff_ne]; omega
        have HT : Hid (x.L = _) := L2 k2
        rw [HT.out] at HX
        have HB4 : Hid (Below w.heap.size wr (wr.alloc (.cells #[.int .i64 x.k, .int .u64 x.u, .int .i64 x.n, .string ⟨x.t.toArray⟩, .bool x.b, .slice la x.l.length lc] 28))) := (Below.refl _ wr).alloc HB.out.size _
        have HW4 : Hid (Wm w.heap.size (wr.alloc (.cells #[.int .i64 x.k, .int .u64 x.u, .int .i64 x.n, .string ⟨x.t.toArray⟩, .bool x.b, .slice la x.l.length lc] 28)) w.heap.size v (wrL (xs.take k))) := HW.out.alloc _
        have HC : Hid (Calls Try.prog _ _ _ _) := wtext w.heap.size w.heap.size v _ ⟨x.t.toArray⟩ _ HW4.out (by have := HL.out; have e : (⟨x.t.toArray⟩ : ByteArray).size = x.t.length := rfl; omega)
        clear HT k0 k1 k2
        go_wp2_with fail
        refine HC.out.mono ?_
        rintro e w3 ⟨rfl, v3, HW5, HB5⟩
        have HW6 : Hid (Wm w.heap.size w3 w.heap.size v3 (wrL (xs.take (k + 1)))) := by unfold Hid; rw [HX.out]; exact HW5.out
        have HB6 : Hid (Below w.heap.size w w3) := HB.out.trans (HB4.out.trans HB5.out)
        clear HW4 HB4 HB5 HW5 HC
        go_wp2_with fail
        exact ⟨⟨k + 1, v3, by go_num, by omega, HW6.out, HB6.out⟩, by simp [Lib.intOf]; omega⟩
      by_cases k3 : x.k = 3
      · have kz3 : (x.k == 3) = true := by rw [k3]; rfl
        have kz0 : (x.k == 0) = false := by rw [beq_eq_false_iff_ne]; omega
        have kz1 : (x.k == 1) = false := by rw [beq_eq_false_iff_ne]; omega
        have kz2 : (x.k == 2) = false := by rw [beq_eq_false_iff_ne]; omega
        have HT : Hid (x.L = _) := L3 k3
        rw [HT.out] at HX
        have HB4 : Hid (Below w.heap.size wr (wr.alloc (.cells #[.int .i64 x.k, .int .u64 x.u, .int .i64 x.n, .string ⟨x.t.toArray⟩, .bool x.b, .slice la x.l.length lc] 28))) := (Below.refl _ wr).alloc HB.out.size _
        have HW4 : Hid (Wm w.heap.size (wr.alloc (.cells #[.int .i64 x.k, .int .u64 x.u, .int .i64 x.n, .string ⟨x.t.toArray⟩, .bool x.b, .slice la x.l.length lc] 28)) w.heap.size v (wrL (xs.take k))) := HW.out.alloc _
        have HC : Hid (Calls Try.prog _ _ _ _) := wbool w.heap.size w.heap.size v _ x.b _ HW4.out (by have := HL.out; omega)
        clear HT k0 k1 k2 k3
        go_wp2_with fail
        refine HC.out.mono ?_
        rintro e w3 ⟨rfl, v3, HW5, HB5⟩
        have HW6 : Hid (Wm w.heap.size w3 w.heap.size v3 (wrL (xs.take (k + 1)))) := by unfold Hid; rw [HX.out]; exact HW5.out
        have HB6 : Hid (Below w.heap.size w w3) := HB.out.trans (HB4.out.trans HB5.out)
        clear HW4 HB4 HB5 HW5 HC
        go_wp2_with fail
        exact ⟨⟨k + 1, v3, by go_num, by omega, HW6.out, HB6.out⟩, by simp [Lib.intOf]; omega⟩
      have kz0 : (x.k == 0) = false := by rw [beq_eq_false_iff_ne]; omega
      have kz1 : (x.k == 1) = false := by rw [beq_eq_false_iff_ne]; omega
      have kz2 : (x.k == 2) = false := by rw [beq_eq_false_iff_ne]; omega
      have kz3 : (x.k == 3) = false := by rw [beq_eq_false_iff_ne]; omega
      have HT : Hid (x.L = _) := L4 k0 k1 k2 k3
      rw [HT.out] at HX
      have HB4 : Hid (Below w.heap.size wr (wr.alloc (.cells #[.int .i64 x.k, .int .u64 x.u, .int .i64 x.n, .string ⟨x.t.toArray⟩, .bool x.b, .slice la x.l.length lc] 28))) := (Below.refl _ wr).alloc HB.out.size _
      have HW4 : Hid (Wm w.heap.size (wr.alloc (.cells #[.int .i64 x.k, .int .u64 x.u, .int .i64 x.n, .string ⟨x.t.toArray⟩, .bool x.b, .slice la x.l.length lc] 28)) w.heap.size v (wrL (xs.take k))) := HW.out.alloc _
      have HC : Hid (Calls Try.prog _ _ _ _) := wints w.heap.size w.heap.size v _ x.l la lc _ HW4.out (HIn.out.keep HB4.out) HN.out.l (by have := HL.out; omega)
      clear HT k0 k1 k2 k3
      go_wp2_with fail
      refine HC.out.mono ?_
      rintro e w3 ⟨rfl, v3, HW5, HB5⟩
      have HW6 : Hid (Wm w.heap.size w3 w.heap.size v3 (wrL (xs.take (k + 1)))) := by unfold Hid; rw [HX.out]; exact HW5.out
      have HB6 : Hid (Below w.heap.size w w3) := HB.out.trans (HB4.out.trans HB5.out)
      clear HW4 HB4 HB5 HW5 HC
      go_wp2_with fail
      exact ⟨⟨k + 1, v3, by go_num, by omega, HW6.out, HB6.out⟩, by simp [Lib.intOf]; omega⟩
    · have hkz : ¬ (k : Int) < (xs.length : Int) := by omega
      rw [List.take_of_length_le (by omega)] at HW
      have HC : Hid (Calls Try.prog 28 #[.pointer (some ⟨w.heap.size, 0, none⟩)] wr (TP (wrL xs) wr)) := wbytes w.heap.size w.heap.size v _ wr HW.out
      unfold TP at HC
      have HS : Hid ((⟨(wrL xs).toArray⟩ : ByteArray).data.toList = wrL xs) := rfl
      generalize (⟨(wrL xs).toArray⟩ : ByteArray) = S at *
      go_wp2_with fail
      refine HC.out.mono ?_
      rintro e w3 ⟨rfl, rfl⟩
      go_wp2_with fail
      go_ret
      exact SB.mk HS.out HB.out
end Go.Proofs.Ytgdoeflnfcjefaa
