/- Law Back. -/
import Derived.Test.YtgdoeflnfcjefaaN
import Derived.WalkKit
import Derived.ProofKit
import Derived.Handy
import Derived.WalkLawsBesides
import Derived.WalkSpells
import Derived.BigQuiet
import Derived.BigCall
import Derived.Deep.QuietTactic
import Derived.Deep.Light
import Derived.Deep.OwnRows
import Derived.Laws.AppendOwnNone
import Derived.Laws.Strings3
import Derived.Laws.RangeAny
import Derived.Deep.RegionWith
import Derived.Lib.BitFns
import Derived.Lib.Walk
import Derived.Lib.Strings
import Derived.Lib.OthersKept
import Derived.Deep.CutBlock
import Derived.Deep.DeepCutAuto
import Derived.Deep.LoopGhost
import Derived.Deep.RegionHeld3
import Derived.Lib.SmallJoins
import Derived.Maps.AppendAt
import Derived.Laws.IdiomStrings
import Derived.Lib.AppendZeros
import Derived.Deep.WholeRow
import Derived.Laws.BitsAllLaws
import Derived.Lib.ConvBytes
import Derived.Deep.RegionLaw
namespace Go.Proofs.Ytgdoeflnfcjefaa
open Go.RowKit
set_option linter.unusedVariables false
set_option linter.unusedSimpArgs false
theorem own_ins {B : Nat} {w : World} {v : Value} {xs : List Int} (h : w.ownsRow B 3 1 v xs.length (icells xs)) : ∃ a cap, v = .slice a xs.length cap ∧ Ins w.heap.size w a xs := by
  obtain ⟨a, cap, rfl⟩ := own_slice h
  refine ⟨a, cap, rfl, fun h0 => ?_⟩
  rcases h.2 with ⟨hv, hn⟩ | ⟨g, c2, cur, hv, hb, hg, h1, h2, h3, h4⟩
  · omega
  · injection hv with e1 e2 e3
    subst e1
    refine ⟨g, 0, rfl, (Array.getElem?_eq_some_iff.1 hg).1, fun j hj => ?_⟩
    have hc := h.cells (g := g) rfl j (.int .i64 xs[j]) (by simp [icells, hj])
    have ha : (⟨g, 0, none⟩ : Addr).add j = ⟨g, 0 + j, none⟩ := by
      cases j <;> simp [Addr.add]
    rw [ha] at hc
    exact hc
/-- what is read of an item: it, and the reader behind it -/
theorem back_at {xs : List It} {rest : List UInt8} {k : Nat} (h : k < xs.length) : wrL xs ++ rest = wrL (xs.take k) ++ (xs[k]).L ++ (wrL (xs.drop (k + 1)) ++ rest) := by
  have e := wrL_at xs k h
  rw [e]
  simp [List.append_assoc]
/-- a reader ahead of the k-th item -/
def rk (xs : List It) (rest : List UInt8) (k : Nat) : Rd := ⟨wrL xs ++ rest, (wrL (xs.take k)).length, 0⟩
theorem rk_step {xs : List It} {rest : List UInt8} {k : Nat} (h : k < xs.length) : rk xs rest k = ⟨wrL (xs.take k) ++ (xs[k]).L ++ (wrL (xs.drop (k + 1)) ++ rest), (wrL (xs.take k)).length, 0⟩ ∧ rk xs rest (k + 1) = ⟨wrL (xs.take k) ++ (xs[k]).L ++ (wrL (xs.drop (k + 1)) ++ rest), (wrL (xs.take k) ++ (xs[k]).L).length, 0⟩ := by
  unfold rk
  rw [← back_at h, wrL_take h]
  exact ⟨rfl, rfl⟩
theorem rk_uint {xs : List It} {rest : List UInt8} {k : Nat} (h : k < xs.length) (hw : (xs[k]).Wf) (hk : (xs[k]).k = 0) : rUint (rk xs rest k) = (rk xs rest (k + 1), (xs[k]).u) := by
  rw [(rk_step h).1, (rk_step h).2, L0 hk]
  exact rUint_at _ _ _ hw.u
theorem rk_int {xs : List It} {rest : List UInt8} {k : Nat} (h : k < xs.length) (hw : (xs[k]).Wf) (hk : (xs[k]).k = 1) : rInt (rk xs rest k) = (rk xs rest (k + 1), (xs[k]).n) := by
  rw [(rk_step h).1, (rk_step h).2, L1 hk]
  exact rInt_at _ _ _ hw.n
theorem rk_text {xs : List It} {rest : List UInt8} {k : Nat} (h : k < xs.length) (hl : (xs[k]).t.length ≤ 6000) (hk : (xs[k]).k = 2) : rText (rk xs rest k) 6000 = (rk xs rest (k + 1), (xs[k]).t) := by
  rw [(rk_step h).1, (rk_step h).2, L2 hk]
  exact rText_at _ _ _ (by omega) 6000 (by omega)
theorem rk_bool {xs : List It} {rest : List UInt8} {k : Nat} (h : k < xs.length) (hk : (xs[k]).k = 3) : rBool (rk xs rest k) = (rk xs rest (k + 1), (xs[k]).b) := by
  rw [(rk_step h).1, (rk_step h).2, L3 hk]
  exact rBool_at _ _ _
theorem rk_ints {xs : List It} {rest : List UInt8} {k : Nat} (h : k < xs.length) (hw : (xs[k]).Wf) (hl : (xs[k]).l.length ≤ 6000) (h0 : (xs[k]).k ≠ 0) (h1 : (xs[k]).k ≠ 1) (h2 : (xs[k]).k ≠ 2) (h3 : (xs[k]).k ≠ 3) : rInts (rk xs rest k) 6000 = (rk xs rest (k + 1), (xs[k]).l) := by
  rw [(rk_step h).1, (rk_step h).2, L4 h0 h1 h2 h3]
  exact rInts_at _ _ _ (by omega) hw.l 6000 (by omega)
theorem rk_len (xs : List It) (rest : List UInt8) (k : Nat) : (rk xs rest k).s = wrL xs ++ rest := rfl
theorem rk_e (xs : List It) (rest : List UInt8) (k : Nat) : (rk xs rest k).e = 0 := rfl
/-- the five cells of an item's copy -/
def xob (x : It) (la : Option Addr) (lc : Nat) : Obj := .cells #[.int .i64 x.k, .int .u64 x.u, .int .i64 x.n, .string ⟨x.t.toArray⟩, .bool x.b, .slice la x.l.length lc] 28
theorem xob_cell (w : World) (x : It) (la : Option Addr) (lc : Nat) (j : Nat) : (w.alloc (xob x la lc)).cell? ⟨w.heap.size, j, none⟩ = #[Value.int .i64 x.k, .int .u64 x.u, .int .i64 x.n, .string ⟨x.t.toArray⟩, .bool x.b, .slice la x.l.length lc][j]? := cell_of_row _ _ j _ 28 (0, 0) (heap_alloc_new w _)
theorem cell_bt {q p j : Nat} {w w' : World} {v : Value} (hb : Bt q w w') (hc : w.cell? ⟨p, j, none⟩ = some v) (hn : p ≠ q) : w'.cell? ⟨p, j, none⟩ = some v :=
  World.grownBy.cell hb hc (fun e => hn (Option.some.inj e))
set_option maxHeartbeats 4000000 in
theorem lback (xs : List It) (a : Option Addr) (cap : Nat) (rest : ByteArray) (w : World) (h : Its w.heap.size w a xs) (hw : ∀ x ∈ xs, x.Wf) (hl : xs.length ≤ 9223372036854775807) (hz : ∀ x ∈ xs, x.t.length ≤ 140737488355328 ∧ x.l.length ≤ 140737488355328) : Calls Try.prog 5 #[.slice a xs.length cap, .string rest] w (BB true w) := by
  have HI : Hid (Its w.heap.size w a xs) := h
  have HF : Hid (∀ x ∈ xs, x.Wf) := hw
  have HM : Hid (Calls Try.prog 8 #[.slice a xs.length cap] w (SmP xs w)) := lsmall xs a cap w h hl hz
  have HA : Hid (∀ w, Calls Try.prog 9 #[] w (BB true w)) := fun w => lawake w
  clear h hw hz
  go_enter Try.func5, Try.ntmps5
  go_wp2_with fail
  refine HM.out.mono ?_
  rintro e w1 ⟨b, rfl, hsm, hb⟩
  have HB1 : Hid (Below w.heap.size w w1) := hb
  clear hb HM
  cases b with
  | false =>
    clear hsm
    go_wp2_with fail
    refine (HA.out _).mono ?_
    rintro e w2 ⟨rfl, hb2⟩
    have HB2 : Hid (Below w.heap.size w w2) := HB1.out.trans (hb2.mono HB1.out.size)
    clear hb2
    go_wp2_with fail
    go_ret
    exact BB.mk rfl HB2.out
  | true =>
    obtain ⟨h60, h6⟩ := hsm rfl
    clear hsm
    by_cases hr : rest.size ≤ 6000
    · have hrz : ¬ (6000 : Int) < (rest.size : Int) := by omega
      have HWr : Hid (Calls Try.prog 15 #[.slice a xs.length cap] w1 (SB (wrL xs) w1)) := lwritten xs a cap w1 ((HI.out.keep HB1.out).mono HB1.out.size) HF.out h60 h6
      unfold SB at HWr
      have HS : Hid ((⟨(wrL xs).toArray⟩ : ByteArray).data.toList = wrL xs) := rfl
      have hSs : (⟨(wrL xs).toArray⟩ : ByteArray).size ≤ 70000 := by
        have h1 := wrL_len xs HF.out h6
        show (wrL xs).length ≤ _
        omega
      generalize (⟨(wrL xs).toArray⟩ : ByteArray) = S at *
      have HL : Hid ((S ++ rest).data.toList = wrL xs ++ rest.data.toList) := by
        unfold Hid
        rw [ByteArray.data_append, Array.toList_append, HS.out]
      have hts : (S ++ rest).size ≤ 80000 := by rw [ByteArray.size_append]; omega
      have HNw : Hid (∀ w, Calls Try.prog 16 #[.string (S ++ rest)] w (NwP (wrL xs ++ rest.data.toList) w)) := fun w => by
        have := xnew (S ++ rest) (by omega) w
        rw [HL.out] at this
        exact this
      go_wp2_with fail
      refine HWr.out.mono ?_
      rintro e w2 ⟨rfl, hb2⟩
      have HB2 : Hid (Below w.heap.size w w2) := HB1.out.trans (hb2.mono HB1.out.size)
      clear hb2 HB1 HWr
      go_wp2_with fail
      refine (HNw.out _).mono ?_
      rintro e w3 ⟨q, rfl, hq, HR3, HB3⟩
      have hqw : w.heap.size ≤ q := Nat.le_trans HB2.out.size hq
      have HB4 : Hid (Below w.heap.size w w3) := HB2.out.trans (HB3.out.mono HB2.out.size)
      clear HB3 HB2 HNw hq
      go_wp2_with fail
      go_loopw [7] (fun i wr => ∃ (k : Nat), i = .int .i64 k ∧ k ≤ xs.length ∧ Hid (Rm wr q (rk xs rest.data.toList k)) ∧ Hid (Below w.heap.size w wr)) (fun i _ => xs.length - (Lib.intOf i).toNat)
      case atStart => exact ⟨0, rfl, Nat.zero_le _, HR3, HB4⟩
      case round =>
        clear HR3 HB4
        obtain ⟨k, rfl, hk, HR, HB⟩ := hrel
        by_cases hkn : k < xs.length
        · have hkz : (k : Int) < (xs.length : Int) := by omega
          obtain ⟨b, off, rfl, hbl, hce⟩ := HI.out (by omega)
          obtain ⟨la, lc, hit⟩ := hce k hkn
          have hit := hit.keep HB.out hbl
          have hsz := itw_at hkn
          have HN : Hid ((xs[k]).Wf) := HF.out _ (List.getElem_mem hkn)
          have HK0 : Hid ((xs[k]).k = 0 → rUint (rk xs rest.data.toList k) = (rk xs rest.data.toList (k + 1), (xs[k]).u)) := fun h => rk_uint hkn HN.out h
          have HK1 : Hid ((xs[k]).k = 1 → rInt (rk xs rest.data.toList k) = (rk xs rest.data.toList (k + 1), (xs[k]).n)) := fun h => rk_int hkn HN.out h
          have HK2 : Hid ((xs[k]).k = 2 → rText (rk xs rest.data.toList k) 6000 = (rk xs rest.data.toList (k + 1), (xs[k]).t)) := fun h => rk_text hkn (by omega) h
          have HK3 : Hid ((xs[k]).k = 3 → rBool (rk xs rest.data.toList k) = (rk xs rest.data.toList (k + 1), (xs[k]).b)) := fun h => rk_bool hkn h
          have HK4 : Hid ((xs[k]).k ≠ 0 → (xs[k]).k ≠ 1 → (xs[k]).k ≠ 2 → (xs[k]).k ≠ 3 → rInts (rk xs rest.data.toList k) 6000 = (rk xs rest.data.toList (k + 1), (xs[k]).l)) := fun h0 h1 h2 h3 => rk_ints hkn HN.out (by omega) h0 h1 h2 h3
          have HLn : Hid ((rk xs rest.data.toList k).s.length ≤ 80000) := by
            unfold Hid
            rw [rk_len, ← HL.out]
            exact hts
          clear hce
          generalize xs[k] = x at *
          have d0 := hit.c0
          have d1 := hit.c1
          have d2 := hit.c2
          have d3 := hit.c3
          have d4 := hit.c4
          have d5 := hit.c5
          have HIn : Hid (Ins w.heap.size wr la x.l) := hit.ins
          have hqr : q < wr.heap.size := HR.out.lt
          have HR4 : Hid (Rm (wr.alloc (.cells #[.int .i64 x.k, .int .u64 x.u, .int .i64 x.n, .string ⟨x.t.toArray⟩, .bool x.b, .slice la x.l.length lc] 28)) q (rk xs rest.data.toList k)) := HR.out.keep (below_new wr _)
          have HB4 : Hid (Below w.heap.size w (wr.alloc (.cells #[.int .i64 x.k, .int .u64 x.u, .int .i64 x.n, .string ⟨x.t.toArray⟩, .bool x.b, .slice la x.l.length lc] 28))) := HB.out.alloc HB.out.size _
          have HIn4 : Hid (Ins w.heap.size (wr.alloc (.cells #[.int .i64 x.k, .int .u64 x.u, .int .i64 x.n, .string ⟨x.t.toArray⟩, .bool x.b, .slice la x.l.length lc] 28)) la x.l) := HIn.out.keep ((Below.refl _ wr).alloc HB.out.size _)
          have HC4 : Hid (∀ j, (wr.alloc (.cells #[.int .i64 x.k, .int .u64 x.u, .int .i64 x.n, .string ⟨x.t.toArray⟩, .bool x.b, .slice la x.l.length lc] 28)).cell? ⟨wr.heap.size, j, none⟩ = #[Value.int .i64 x.k, .int .u64 x.u, .int .i64 x.n, .string ⟨x.t.toArray⟩, .bool x.b, .slice la x.l.length lc][j]?) := fun j => xob_cell wr x la lc j
          clear hit HIn
          by_cases k0 : x.k = 0
          · have kz0 : (x.k == 0) = true := by rw [k0]; rfl
            have HC : Hid (∀ n, Calls Try.prog 18 #[.pointer (some ⟨q, 0, none⟩)] ((wr.alloc (.cells #[.int .i64 x.k, .int .u64 x.u, .int .i64 x.n, .string ⟨x.t.toArray⟩, .bool x.b, .slice la x.l.length lc] 28)).drewN n) (RP q (.int .u64 x.u) (rk xs rest.data.toList (k + 1)) ((wr.alloc (.cells #[.int .i64 x.k, .int .u64 x.u, .int .i64 x.n, .string ⟨x.t.toArray⟩, .bool x.b, .slice la x.l.length lc] 28)).drewN n))) := fun n => by have := xuint q _ _ (HR4.out.drewN n); rw [HK0.out k0] at this; exact this
            clear k0 HK0 HK1 HK2 HK3 HK4
            go_upto_region 15 with fail
            have e1 : (wr.alloc (.cells #[.int .i64 x.k, .int .u64 x.u, .int .i64 x.n, .string ⟨x.t.toArray⟩, .bool x.b, .slice la x.l.length lc] 28)).cell? ⟨wr.heap.size, 1, none⟩ = some (.int .u64 x.u) := HC4.out 1
            clear HC4
            have hpq : wr.heap.size ≠ q := by omega
            generalize wr.alloc (.cells #[.int .i64 x.k, .int .u64 x.u, .int .i64 x.n, .string ⟨x.t.toArray⟩, .bool x.b, .slice la x.l.length lc] 28) = w4 at *
            have HKP : Hid (∀ (n : Nat) (w5 : World), Bt q (w4.drewN n) w5 → w5.cell? ⟨wr.heap.size, 1, none⟩ = some (.int .u64 x.u)) := fun n w5 hb => cell_bt hb e1 hpq
            generalize wr.heap.size = p at *
            go_region_held3 (fun w' => w'.cell? ⟨p, 1, none⟩ = some (.int .u64 x.u)) (first | go_keep | exact HKP.out _ _ HB5.out) (first | (go_at_call 18; go_must (refine (HC.out _).mono ?_; rintro e w5 ⟨rfl, HR5, HB5⟩)))
            have HB6 : Hid (Below w.heap.size w w5) := (bdrew HB4.out _).trans (HB5.out.below hqw HB4.out.size)
            have HE5 : Hid (Calls Try.prog 24 #[.pointer (some ⟨q, 0, none⟩)] w5 (NP .i64 ((0 : Nat) : Int) w5)) := xerr q _ w5 HR5.out
            rename_i hHeld
            clear hHeld HB5 HC HKP e1 HR4 HB4 HIn4
            go_wp2_with fail
            refine HE5.out.mono ?_
            rintro e w6 ⟨rfl, rfl⟩
            go_wp2_with fail
            exact ⟨⟨k + 1, by go_num, by omega, HR5.out, HB6.out⟩, by simp [Lib.intOf]; omega⟩
          by_cases k1 : x.k = 1
          · have kz1 : (x.k == 1) = true := by rw [k1]; rfl
            have kz0 : (x.k == 0) = false := by rw [beq_eq_false_iff_ne]; omega
            have HC : Hid (∀ n, Calls Try.prog 19 #[.pointer (some ⟨q, 0, none⟩)] ((wr.alloc (.cells #[.int .i64 x.k, .int .u64 x.u, .int .i64 x.n, .string ⟨x.t.toArray⟩, .bool x.b, .slice la x.l.length lc] 28)).drewN n) (RP q (.int .i64 x.n) (rk xs rest.data.toList (k + 1)) ((wr.alloc (.cells #[.int .i64 x.k, .int .u64 x.u, .int .i64 x.n, .string ⟨x.t.toArray⟩, .bool x.b, .slice la x.l.length lc] 28)).drewN n))) := fun n => by have := xint q _ _ (HR4.out.drewN n); rw [HK1.out k1] at this; exact this
            clear k0 k1 HK0 HK1 HK2 HK3 HK4
            go_upto_region 17 with fail
            have e1 : (wr.alloc (.cells #[.int .i64 x.k, .int .u64 x.u, .int .i64 x.n, .string ⟨x.t.toArray⟩, .bool x.b, .slice la x.l.length lc] 28)).cell? ⟨wr.heap.size, 2, none⟩ = some (.int .i64 x.n) := HC4.out 2
            clear HC4
            have hpq : wr.heap.size ≠ q := by omega
            generalize wr.alloc (.cells #[.int .i64 x.k, .int .u64 x.u, .int .i64 x.n, .string ⟨x.t.toArray⟩, .bool x.b, .slice la x.l.length lc] 28) = w4 at *
            have HKP : Hid (∀ (n : Nat) (w5 : World), Bt q (w4.drewN n) w5 → w5.cell? ⟨wr.heap.size, 2, none⟩ = some (.int .i64 x.n)) := fun n w5 hb => cell_bt hb e1 hpq
            generalize wr.heap.size = p at *
            go_region_held3 (fun w' => w'.cell? ⟨p, 2, none⟩ = some (.int .i64 x.n)) (first | go_keep | exact HKP.out _ _ HB5.out) (first | (go_at_call 19; go_must (refine (HC.out _).mono ?_; rintro e w5 ⟨rfl, HR5, HB5⟩)))
            have HB6 : Hid (Below w.heap.size w w5) := (bdrew HB4.out _).trans (HB5.out.below hqw HB4.out.size)
            have HE5 : Hid (Calls Try.prog 24 #[.pointer (some ⟨q, 0, none⟩)] w5 (NP .i64 ((0 : Nat) : Int) w5)) := xerr q _ w5 HR5.out
            rename_i hHeld
            clear hHeld HB5 HC HKP e1 HR4 HB4 HIn4
            go_wp2_with fail
            refine HE5.out.mono ?_
            rintro e w6 ⟨rfl, rfl⟩
            go_wp2_with fail
            exact ⟨⟨k + 1, by go_num, by omega, HR5.out, HB6.out⟩, by simp [Lib.intOf]; omega⟩
          by_cases k2 : x.k = 2
          · have kz2 : (x.k == 2) = true := by rw [k2]; rfl
            have kz0 : (x.k == 0) = false := by rw [beq_eq_false_iff_ne]; omega
            have kz1 : (x.k == 1) = false := by rw [beq_eq_false_iff_ne]; omega
            have HC : Hid (∀ n, Calls Try.prog 20 #[.pointer (some ⟨q, 0, none⟩), .int .i64 6000] ((wr.alloc (.cells #[.int .i64 x.k, .int .u64 x.u, .int .i64 x.n, .string ⟨x.t.toArray⟩, .bool x.b, .slice la x.l.length lc] 28)).drewN n) (RP q (.string ⟨x.t.toArray⟩) (rk xs rest.data.toList (k + 1)) ((wr.alloc (.cells #[.int .i64 x.k, .int .u64 x.u, .int .i64 x.n, .string ⟨x.t.toArray⟩, .bool x.b, .slice la x.l.length lc] 28)).drewN n))) := fun n => by have := xtext q _ 6000 ⟨by omega, by omega⟩ _ (HR4.out.drewN n) (by have := HLn.out; omega); rw [HK2.out k2] at this; exact this
            clear k0 k1 k2 HK0 HK1 HK2 HK3 HK4
            go_upto_region 19 with fail
            clear d3 d5
            have e1 : (wr.alloc (.cells #[.int .i64 x.k, .int .u64 x.u, .int .i64 x.n, .string ⟨x.t.toArray⟩, .bool x.b, .slice la x.l.length lc] 28)).cell? ⟨wr.heap.size, 3, none⟩ = some (.string ⟨x.t.toArray⟩) := HC4.out 3
            clear HC4
            have hpq : wr.heap.size ≠ q := by omega
            generalize wr.alloc (.cells #[.int .i64 x.k, .int .u64 x.u, .int .i64 x.n, .string ⟨x.t.toArray⟩, .bool x.b, .slice la x.l.length lc] 28) = w4 at *
            have HKP : Hid (∀ (n : Nat) (w5 : World), Bt q (w4.drewN n) w5 → w5.cell? ⟨wr.heap.size, 3, none⟩ = some (.string ⟨x.t.toArray⟩)) := fun n w5 hb => cell_bt hb e1 hpq
            generalize wr.heap.size = p at *
            generalize (⟨x.t.toArray⟩ : ByteArray) = T at *
            go_region_held3 (fun w' => w'.cell? ⟨p, 3, none⟩ = some (.string T)) (first | go_keep | exact HKP.out _ _ HB5.out) (first | (go_at_call 20; go_must (refine (HC.out _).mono ?_; rintro e w5 ⟨rfl, HR5, HB5⟩)))
            have HB6 : Hid (Below w.heap.size w w5) := (bdrew HB4.out _).trans (HB5.out.below hqw HB4.out.size)
            have HE5 : Hid (Calls Try.prog 24 #[.pointer (some ⟨q, 0, none⟩)] w5 (NP .i64 ((0 : Nat) : Int) w5)) := xerr q _ w5 HR5.out
            rename_i hHeld
            clear hHeld HB5 HC HKP e1 HR4 HB4 HIn4
            go_wp2_with fail
            refine HE5.out.mono ?_
            rintro e w6 ⟨rfl, rfl⟩
            go_wp2_with fail
            exact ⟨⟨k + 1, by go_num, by omega, HR5.out, HB6.out⟩, by simp [Lib.intOf]; omega⟩
          by_cases k3 : x.k = 3
          · have kz3 : (x.k == 3) = true := by rw [k3]; rfl
            have kz0 : (x.k == 0) = false := by rw [beq_eq_false_iff_ne]; omega
            have kz1 : (x.k == 1) = false := by rw [beq_eq_false_iff_ne]; omega
            have kz2 : (x.k == 2) = false := by rw [beq_eq_false_iff_ne]; omega
            have HC : Hid (∀ n, Calls Try.prog 21 #[.pointer (some ⟨q, 0, none⟩)] ((wr.alloc (.cells #[.int .i64 x.k, .int .u64 x.u, .int .i64 x.n, .string ⟨x.t.toArray⟩, .bool x.b, .slice la x.l.length lc] 28)).drewN n) (RP q (.bool x.b) (rk xs rest.data.toList (k + 1)) ((wr.alloc (.cells #[.int .i64 x.k, .int .u64 x.u, .int .i64 x.n, .string ⟨x.t.toArray⟩, .bool x.b, .slice la x.l.length lc] 28)).drewN n))) := fun n => by have := xbool q _ _ (HR4.out.drewN n); rw [HK3.out k3] at this; exact this
            clear k0 k1 k2 k3 HK0 HK1 HK2 HK3 HK4
            go_upto_region 21 with fail
            have e1 : (wr.alloc (.cells #[.int .i64 x.k, .int .u64 x.u, .int .i64 x.n, .string ⟨x.t.toArray⟩, .bool x.b, .slice la x.l.length lc] 28)).cell? ⟨wr.heap.size, 4, none⟩ = some (.bool x.b) := HC4.out 4
            clear HC4
            have hpq : wr.heap.size ≠ q := by omega
            generalize wr.alloc (.cells #[.int .i64 x.k, .int .u64 x.u, .int .i64 x.n, .string ⟨x.t.toArray⟩, .bool x.b, .slice la x.l.length lc] 28) = w4 at *
            have HKP : Hid (∀ (n : Nat) (w5 : World), Bt q (w4.drewN n) w5 → w5.cell? ⟨wr.heap.size, 4, none⟩ = some (.bool x.b)) := fun n w5 hb => cell_bt hb e1 hpq
            generalize wr.heap.size = p at *
            go_region_held3 (fun w' => w'.cell? ⟨p, 4, none⟩ = some (.bool x.b)) (first | go_keep | exact HKP.out _ _ HB5.out) (first | (go_at_call 21; go_must (refine (HC.out _).mono ?_; rintro e w5 ⟨rfl, HR5, HB5⟩)))
            have HB6 : Hid (Below w.heap.size w w5) := (bdrew HB4.out _).trans (HB5.out.below hqw HB4.out.size)
            have HE5 : Hid (Calls Try.prog 24 #[.pointer (some ⟨q, 0, none⟩)] w5 (NP .i64 ((0 : Nat) : Int) w5)) := xerr q _ w5 HR5.out
            rename_i hHeld
            clear hHeld HB5 HC HKP e1 HR4 HB4 HIn4
            go_wp2_with fail
            refine HE5.out.mono ?_
            rintro e w6 ⟨rfl, rfl⟩
            go_wp2_with fail
            exact ⟨⟨k + 1, by go_num, by omega, HR5.out, HB6.out⟩, by simp [Lib.intOf]; omega⟩
          have kz0 : (x.k == 0) = false := by rw [beq_eq_false_iff_ne]; omega
          have kz1 : (x.k == 1) = false := by rw [beq_eq_false_iff_ne]; omega
          have kz2 : (x.k == 2) = false := by rw [beq_eq_false_iff_ne]; omega
          have kz3 : (x.k == 3) = false := by rw [beq_eq_false_iff_ne]; omega
          have HC : Hid (∀ n, Calls Try.prog 23 #[.pointer (some ⟨q, 0, none⟩), .int .i64 6000] ((wr.alloc (.cells #[.int .i64 x.k, .int .u64 x.u, .int .i64 x.n, .string ⟨x.t.toArray⟩, .bool x.b, .slice la x.l.length lc] 28)).drewN n) fun e w' => ∃ ra rc, e = .returned (.slice ra x.l.length rc) ∧ Hid (Ins w'.heap.size w' ra x.l) ∧ Hid (Rm w' q (rk xs rest.data.toList (k + 1))) ∧ Hid (Bt q ((wr.alloc (.cells #[.int .i64 x.k, .int .u64 x.u, .int .i64 x.n, .string ⟨x.t.toArray⟩, .bool x.b, .slice la x.l.length lc] 28)).drewN n) w')) := fun n => by
            have := xints q _ 6000 ⟨by omega, by omega⟩ _ (HR4.out.drewN n) (by have := HLn.out; omega)
            rw [HK4.out k0 k1 k2 k3] at this
            refine this.mono ?_
            rintro e w5 ⟨v, ys, rfl, HO5, HY5, HR5, HB5⟩
            obtain ⟨ra, rc, rfl, hin⟩ := own_ins HO5.out
            have hy : ys = x.l := HY5.out
            subst hy
            exact ⟨ra, rc, rfl, hin, HR5, HB5⟩
          clear k0 k1 k2 k3 HK0 HK1 HK2 HK3 HK4
          go_upto_region 13 with fail
          have e1 : (wr.alloc (.cells #[.int .i64 x.k, .int .u64 x.u, .int .i64 x.n, .string ⟨x.t.toArray⟩, .bool x.b, .slice la x.l.length lc] 28)).cell? ⟨wr.heap.size, 5, none⟩ = some (.slice la x.l.length lc) := HC4.out 5
          clear HC4
          have hpq : wr.heap.size ≠ q := by omega
          generalize wr.alloc (.cells #[.int .i64 x.k, .int .u64 x.u, .int .i64 x.n, .string ⟨x.t.toArray⟩, .bool x.b, .slice la x.l.length lc] 28) = w4 at *
          have HKP : Hid (∀ (n : Nat) (w5 : World), Bt q (w4.drewN n) w5 → w5.cell? ⟨wr.heap.size, 5, none⟩ = some (.slice la x.l.length lc)) := fun n w5 hb => cell_bt hb e1 hpq
          have HSm : Hid (∀ (n : Nat) (w5 : World) (ra : Option Addr) (rc : Nat), Bt q (w4.drewN n) w5 → Ins w5.heap.size w5 ra x.l → Calls Try.prog 22 #[.slice ra x.l.length rc, .slice la x.l.length lc] w5 (BB true w5)) := by
            intro n w5 ra rc hb hin
            have hb2 : Below w.heap.size w4 w5 := (bdrew (Below.refl w.heap.size w4) n).trans (hb.below hqw HB4.out.size)
            exact rsame x.l x.l ra la rc lc w5 w5.heap.size (Nat.le_refl _) hin ((HIn4.out.keep hb2).mono (Nat.le_trans HB4.out.size hb2.size)) rfl (by omega)
          generalize wr.heap.size = p at *
          have HKQ : Hid (∀ (w5 w6 : World), w5.cell? ⟨p, 5, none⟩ = some (.slice la x.l.length lc) → Below w5.heap.size w5 w6 → w6.cell? ⟨p, 5, none⟩ = some (.slice la x.l.length lc)) := fun w5 w6 hc hb => (hb.cell (by exact World.block_lt_of_cell? w5 _ hc)).trans hc
          go_region_held3 (fun w' => w'.cell? ⟨p, 5, none⟩ = some (.slice la x.l.length lc)) (first | go_keep | exact HKP.out _ _ HB5.out | exact HKQ.out _ _ (HKP.out _ _ HB5.out) hb6) (first | (go_at_call 23; refine (HC.out _).mono ?_; rintro e w5 ⟨ra, rc, rfl, HI5, HR5, HB5⟩) | (go_at_call 22; refine (HSm.out _ _ _ _ HB5.out HI5.out).mono ?_; rintro e w6 ⟨rfl, hb6⟩))
          have HB6 : Hid (Below w.heap.size w w6) := ((bdrew HB4.out _).trans (HB5.out.below hqw HB4.out.size)).trans (hb6.mono ((bdrew HB4.out _).trans (HB5.out.below hqw HB4.out.size)).size)
          have HR6 : Hid (Rm w6 q (rk xs rest.data.toList (k + 1))) := HR5.out.keep hb6
          have HE6 : Hid (Calls Try.prog 24 #[.pointer (some ⟨q, 0, none⟩)] w6 (NP .i64 ((0 : Nat) : Int) w6)) := xerr q _ w6 HR6.out
          clear HB5 HC HKP e1 HR4 HB4 HIn4 hb6 HR5 HI5 HSm HKQ
          go_wp2_with fail
          refine HE6.out.mono ?_
          rintro e w7 ⟨rfl, rfl⟩
          go_wp2_with fail
          exact ⟨⟨k + 1, by go_num, by omega, HR6.out, HB6.out⟩, by simp [Lib.intOf]; omega⟩
        · have hkz : ¬ (k : Int) < (xs.length : Int) := by omega
          have hS2 : (wrL (xs.take k)).length = S.size := by
            rw [List.take_of_length_le (by omega), ← HS.out]
            rfl
          have HAt : Hid (Calls Try.prog 25 #[.pointer (some ⟨q, 0, none⟩)] wr (NP .i64 (S.size : Int) wr)) := by
            have := xat q _ wr HR.out
            rw [show (rk xs rest.data.toList k).at_ = S.size from hS2] at this
            exact this
          have HEn : Hid (Calls Try.prog 26 #[.pointer (some ⟨q, 0, none⟩)] wr (RP q (.bool (rEnd (rk xs rest.data.toList k)).2) (rEnd (rk xs rest.data.toList k)).1 wr)) := xend q _ wr HR.out
          have hln : (rk xs rest.data.toList k).s.length = S.size + rest.size := by
            rw [rk_len, List.length_append, ← HS.out]
            rfl
          by_cases h0 : rest.size = 0
          · have hrb : (rest.toList == []) = true := by
              rw [ByteArray.toList_eq, List.length_eq_zero_iff.1 (show rest.data.toList.length = 0 from h0)]
              rfl
            have hEe : rEnd (rk xs rest.data.toList k) = (rk xs rest.data.toList k, true) := rEnd_good rfl (by rw [hln]; show ¬ (wrL (xs.take k)).length < _; omega)
            rw [hEe] at HEn
            clear hEe hln hS2 h0
            go_wp2_with fail
            refine HAt.out.mono ?_
            rintro e w5 ⟨rfl, rfl⟩
            go_wp2_with fail
            refine HEn.out.mono ?_
            rintro e w5 ⟨rfl, HR5, HB5⟩
            have HB6 : Hid (Below w.heap.size w w5) := HB.out.trans (HB5.out.below hqw HB.out.size)
            clear HB5
            go_wp2_with fail
            refine (HA.out _).mono ?_
            rintro e w6 ⟨rfl, hb6⟩
            have HB7 : Hid (Below w.heap.size w w6) := HB6.out.trans (hb6.mono HB6.out.size)
            clear hb6
            go_wp2_with fail
            go_ret
            exact BB.mk rfl HB7.out
          · have hrb : (rest.toList == []) = false := by
              rw [ByteArray.toList_eq, beq_eq_false_iff_ne]
              intro e
              exact h0 (List.length_eq_zero_iff.2 e)
            have hEe : rEnd (rk xs rest.data.toList k) = ((rk xs rest.data.toList k).fl 16, false) := rEnd_bad2 rfl (by rw [hln]; show (wrL (xs.take k)).length < _; omega)
            rw [hEe] at HEn
            clear hEe hln hS2 h0
            go_wp2_with fail
            refine HAt.out.mono ?_
            rintro e w5 ⟨rfl, rfl⟩
            go_wp2_with fail
            refine HEn.out.mono ?_
            rintro e w5 ⟨rfl, HR5, HB5⟩
            have HB6 : Hid (Below w.heap.size w w5) := HB.out.trans (HB5.out.below hqw HB.out.size)
            have HE5 : Hid (Calls Try.prog 24 #[.pointer (some ⟨q, 0, none⟩)] w5 (NP .i64 ((16 : Nat) : Int) w5)) := xerr q _ w5 HR5.out
            clear HB5
            go_wp2_with fail
            refine HE5.out.mono ?_
            rintro e w6 ⟨rfl, rfl⟩
            go_wp2_with fail
            refine (HA.out _).mono ?_
            rintro e w6 ⟨rfl, hb6⟩
            have HB7 : Hid (Below w.heap.size w w6) := HB6.out.trans (hb6.mono HB6.out.size)
            clear hb6
            go_wp2_with fail
            go_ret
            exact BB.mk rfl HB7.out
    · have hrz : (6000 : Int) < (rest.size : Int) := by omega
      go_wp2_with fail
      refine (HA.out _).mono ?_
      rintro e w2 ⟨rfl, hb2⟩
      have HB2 : Hid (Below w.heap.size w w2) := HB1.out.trans (hb2.mono HB1.out.size)
      clear hb2
      go_wp2_with fail
      go_ret
      exact BB.mk rfl HB2.out
end Go.Proofs.Ytgdoeflnfcjefaa
