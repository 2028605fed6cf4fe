/- Text. -/
import Derived.Test.YtdmlgheajblcdaaGreatNF
import Derived.WalkKit
import Derived.ProofKit
import Derived.Handy
import Derived.WalkLawsBesides
import Derived.WalkSpells
import Derived.BigQuiet
import Derived.BigCall
import Derived.Deep.QuietTactic
import Derived.Deep.Light
import Derived.Deep.OwnRows
import Derived.Laws.AppendOwnNone
import Derived.Laws.Strings3
import Derived.Laws.RangeAny
import Derived.Deep.RegionWith
import Derived.Lib.BitFns
import Derived.Lib.Walk
import Derived.Lib.Strings
import Derived.Lib.OthersKept
import Derived.Deep.CutBlock
import Derived.Deep.DeepCutAuto
import Derived.Deep.LoopGhost
import Derived.Deep.RegionHeld3
import Derived.Lib.SmallJoins
import Derived.Maps.AppendAt
import Derived.Laws.IdiomStrings
import Derived.Lib.AppendZeros
import Derived.Deep.WholeRow
import Derived.Laws.BitsAllLaws
import Derived.Lib.ConvBytes
import Derived.Deep.RegionLaw
namespace Go.Proofs.YtdmlgheajblcdaaGreat
open Go.RowKit
set_option linter.unusedVariables false
set_option linter.unusedSimpArgs false
/-- the fault of a text, by what next tells -/
def tE (t : Nat × Nat × Nat) (m : Int) (n : Nat) : Nat := if t.1 ≠ 0 then t.1 else if m < (t.2.1 : Int) then 2 else if n < t.2.2 + t.2.1 then 14 else 0
theorem fl_self {r : Rd} {e : Nat} : ({ r with e := e } : Rd).s = r.s := rfl
theorem rText_nxt (r : Rd) (m : Int) : rText r m = if tE (nxt r) m r.s.length = 0 then ({ r with at_ := (nxt r).2.2 + (nxt r).2.1 }, (r.s.drop (nxt r).2.2).take (nxt r).2.1) else (r.fl (tE (nxt r) m r.s.length), []) := by
  by_cases h : r.e ≠ 0
  · rw [rText_bad h, nxt_bad h]
    unfold tE
    simp only [h, ne_eq, not_false_eq_true, if_true, if_false]
    rw [fl_bad h]
  · have h0 : r.e = 0 := by simpa using h
    unfold rText
    rw [rCount_nxt]
    unfold cE tE
    by_cases h1 : (nxt r).1 = 0
    · simp only [h1, ne_eq, not_true_eq_false, if_false]
      by_cases h2 : m < ((nxt r).2.1 : Int)
      · simp [h2, Rd.fl, h0]
      · simp only [h2, if_false, if_true, h0]
        simp only [not_true_eq_false, if_false]
        split <;> simp_all
    · simp [h1, Rd.fl, h0]
set_option maxHeartbeats 4000000 in
theorem xtext (q : Nat) (r : Rd) (m : Int) (hm : I64 m) (w : World) (h : Rm w q r) (hs : r.s.length ≤ 281474976710656) : Calls Tryz.prog 79 #[.pointer (some ⟨q, 0, none⟩), .int .i64 m] w (RP q (.string ⟨(rText r m).2.toArray⟩) (rText r m).1 w) := by
  have HX : Hid (Calls Tryz.prog 108 #[.pointer (some ⟨q, 0, none⟩)] w (N3 (nxt r) w)) := xnext q r w h
  have HF : Hid (∀ (e : Nat) (w1 : World), Rm w1 q r → Calls Tryz.prog 89 #[.pointer (some ⟨q, 0, none⟩), .int .i64 e] w1 (RP q (.tuple #[]) (r.fl e) w1)) := fun e w1 h => xfl q r e w1 h
  have hsm := nxt_small h.le
  have HU : Hid (rText r m = if tE (nxt r) m r.s.length = 0 then ({ r with at_ := (nxt r).2.2 + (nxt r).2.1 }, (r.s.drop (nxt r).2.2).take (nxt r).2.1) else (r.fl (tE (nxt r) m r.s.length), [])) := rText_nxt r m
  have HR : Hid (Rm w q r) := h
  have hlen := h.len
  have HA : Hid (∀ (k : Int), I64 k → ∀ w, Calls Tryz.prog 109 #[.int .u64 (nxt r).2.1, .int .i64 k] w (BP (decide (k < ((nxt r).2.1 : Int))) w)) := fun k hk w => xabove _ hsm.1 k hk w
  have HM : Hid (I64 m) := hm
  clear h hm
  unfold N3 at HX
  generalize nxt r = t at *
  obtain ⟨t0, t1, t2⟩ := t
  simp only at HX hsm HA
  obtain ⟨S, hS⟩ : ∃ S : ByteArray, Hid (S = ⟨r.s.toArray⟩) := ⟨_, rfl⟩
  have hsz : S.size = r.s.length := by rw [hS.out]; rfl
  have hds : r.s = S.data.toList := by rw [hS.out]
  have hsS : S.size ≤ 281474976710656 := by omega
  have ht2 : t2 ≤ S.size := by have := hsm.2; omega
  have hm1 := HM.out.1
  have hm2 := HM.out.2
  have HD1 : Hid (∀ w, Calls Tryz.prog 109 #[.int .u64 t1, .int .i64 m] w (BP (decide (m < (t1 : Int))) w)) := fun w => HA.out m HM.out w
  have HD2 : Hid (∀ w, Calls Tryz.prog 109 #[.int .u64 t1, .int .i64 ((S.size : Int) - t2)] w (BP (decide ((S.size : Int) - t2 < (t1 : Int))) w)) := fun w => HA.out ((S.size : Int) - t2) ⟨by omega, by omega⟩ w
  clear HA
  by_cases h0 : t0 = 0
  · subst h0
    by_cases h1 : m < (t1 : Int)
    · have HC : Hid (tE (0, t1, t2) m r.s.length = 2) := by unfold Hid tE; simp [h1]
      rw [if_neg (by rw [HC.out]; omega), HC.out] at HU
      rw [decide_eq_true h1] at HD1
      clear HC hS hds h1 hsz
      go_enter Tryz.func79, Tryz.ntmps79
      go_wp2_with fail
      refine HX.out.mono ?_
      rintro e w1 ⟨rfl, n, hn⟩
      have HR1 : Hid (Rm w1 q r) := by unfold Hid; rw [hn]; exact HR.out.drewN n
      have HB1 : Hid (Bt q w w1) := by unfold Hid; rw [hn]; exact (Bt.refl q w).drewN n
      clear hn
      go_wp2_with fail
      refine (HD1.out _).mono ?_
      rintro e w2 ⟨rfl, rfl⟩
      go_wp2_with fail
      refine (HF.out 2 _ HR1.out).mono ?_
      rintro e w2 ⟨rfl, HR2, HB2⟩
      have HB3 : Hid (Bt q w w2) := HB1.out.trans HB2.out
      clear HB2
      go_wp2_with fail
      go_ret
      exact RP.mk (by rw [HU.out]; rfl) (by rw [HU.out]; exact HR2.out) HB3.out
    · rw [decide_eq_false h1] at HD1
      by_cases h2 : (S.size : Int) - t2 < (t1 : Int)
      · have HC : Hid (tE (0, t1, t2) m r.s.length = 14) := by unfold Hid tE; simp [h1]; omega
        rw [if_neg (by rw [HC.out]; omega), HC.out] at HU
        rw [decide_eq_true h2] at HD2
        clear HC hds h1 h2 hsz
        go_enter Tryz.func79, Tryz.ntmps79
        go_wp2_with fail
        refine HX.out.mono ?_
        rintro e w1 ⟨rfl, n, hn⟩
        have HR1 : Hid (Rm w1 q r) := by unfold Hid; rw [hn]; exact HR.out.drewN n
        have HB1 : Hid (Bt q w w1) := by unfold Hid; rw [hn]; exact (Bt.refl q w).drewN n
        have c1 : w1.cell? ⟨q, 1, none⟩ = some (.string S) := by rw [hS.out]; exact HR1.out.cell 1
        clear hn hS
        go_wp2_with fail
        refine (HD1.out _).mono ?_
        rintro e w2 ⟨rfl, rfl⟩
        go_wp2_with fail
        refine (HD2.out _).mono ?_
        rintro e w2 ⟨rfl, rfl⟩
        go_wp2_with fail
        refine (HF.out 14 _ HR1.out).mono ?_
        rintro e w2 ⟨rfl, HR2, HB2⟩
        have HB3 : Hid (Bt q w w2) := HB1.out.trans HB2.out
        clear HB2
        go_wp2_with fail
        go_ret
        exact RP.mk (by rw [HU.out]; rfl) (by rw [HU.out]; exact HR2.out) HB3.out
      · have HC : Hid (tE (0, t1, t2) m r.s.length = 0) := by unfold Hid tE; simp [h1]; omega
        rw [if_pos HC.out] at HU
        rw [decide_eq_false h2] at HD2
        have hle : t2 + t1 ≤ S.size := by omega
        have HT : Hid ((S.extract t2 (t2 + t1)).data.toList = (r.s.drop t2).take t1) := by
          unfold Hid
          rw [ext_list, ← hds]
          congr 1
          omega
        have hx := ext_len S t2 (t2 + t1) hle
        have HK : Hid (∀ w, Calls Tryz.prog 78 #[.string (S.extract t2 (t2 + t1))] w fun e w' => e = .returned (.string (S.extract t2 (t2 + t1))) ∧ Below w.heap.size w w') := fun w => xclone _ (by omega) w
        have hle2 : t2 + t1 ≤ r.s.length := by omega
        have hb1 : (0 : Int) ≤ (t2 : Int) := by omega
        have hb2 : (t2 : Int) ≤ (t2 : Int) + t1 := by omega
        have hb3 : (t2 : Int) + t1 ≤ (S.size : Int) := by omega
        have hb4 : (0 : Int) ≤ (t2 : Int) + t1 := by omega
        clear HC hds h1 h2 hsz
        go_enter Tryz.func79, Tryz.ntmps79
        go_wp2_with fail
        refine HX.out.mono ?_
        rintro e w1 ⟨rfl, n, hn⟩
        have HR1 : Hid (Rm w1 q r) := by unfold Hid; rw [hn]; exact HR.out.drewN n
        have HB1 : Hid (Bt q w w1) := by unfold Hid; rw [hn]; exact (Bt.refl q w).drewN n
        have c1 : w1.cell? ⟨q, 1, none⟩ = some (.string S) := by rw [hS.out]; exact HR1.out.cell 1
        have c2 : w1.cell? ⟨q, 2, none⟩ = some (.int .i64 r.at_) := HR1.out.cell 2
        have f2 := HR1.out.froz 2
        clear hn
        go_wp2_with fail
        refine (HD1.out _).mono ?_
        rintro e w2 ⟨rfl, rfl⟩
        go_wp2_with fail
        refine (HD2.out _).mono ?_
        rintro e w2 ⟨rfl, rfl⟩
        have HR2 : Hid (Rm (w1.setCell ⟨q, 2, none⟩ (.int .i64 ((t2 : Int) + t1))) q { r with at_ := t2 + t1 }) := HR1.out.setAt (t2 + t1) hle2
        have HB2 : Hid (Bt q w (w1.setCell ⟨q, 2, none⟩ (.int .i64 ((t2 : Int) + t1)))) := HB1.out.trans (Bt.set q w1 2 _)
        go_upto_region 10 with fail
        generalize w1.setCell ⟨q, 2, none⟩ (.int .i64 ((t2 : Int) + t1)) = w2 at *
        clear c1 c2 f2
        have d1 : w2.cell? ⟨q, 1, none⟩ = some (.string S) := by rw [hS.out]; exact HR2.out.cell 1
        have d2 : w2.cell? ⟨q, 2, none⟩ = some (.int .i64 ((t2 : Int) + t1)) := HR2.out.cell 2
        have HKP : Hid (∀ (n : Nat) (w3 : World), Below (w2.drewN n).heap.size (w2.drewN n) w3 → w3.cell? ⟨q, 1, none⟩ = some (.string S) ∧ w3.cell? ⟨q, 2, none⟩ = some (.int .i64 ((t2 : Int) + t1))) := fun n w3 hb => ⟨(hb.cell (by exact HR2.out.lt)).trans d1, (hb.cell (by exact HR2.out.lt)).trans d2⟩
        clear hS
        go_region_held3 (fun w' => w'.cell? ⟨q, 1, none⟩ = some (.string S) ∧ w'.cell? ⟨q, 2, none⟩ = some (.int .i64 ((t2 : Int) + t1))) (first | go_keep | exact HKP.out _ _ hb3) (first | (go_at_call 78; go_must (refine (HK.out _).mono ?_; rintro e w3 ⟨rfl, hb3⟩)))
        have HR3 : Hid (Rm w3 q { r with at_ := t2 + t1 }) := (HR2.out.drewN _).keep hb3
        have HB3 : Hid (Bt q w w3) := (HB2.out.drewN _).trans (Bt.of_below hb3)
        clear hb3
        go_wp2_with fail
        go_ret
        exact RP.mk (by rw [HU.out, ← HT.out]; rfl) (by rw [HU.out]; exact HR3.out) HB3.out
  · have hz : ((t0 : Int) == 0) = false := by rw [beq_eq_false_iff_ne]; omega
    have hz2 : ((t0 : Int) != 0) = true := by rw [bne_iff_ne]; omega
    have HC : Hid (tE (t0, t1, t2) m r.s.length = t0) := by unfold Hid tE; simp [h0]
    rw [if_neg (by rw [HC.out]; exact h0), HC.out] at HU
    clear HC hS hds hsz
    go_enter Tryz.func79, Tryz.ntmps79
    go_wp2_with fail
    refine HX.out.mono ?_
    rintro e w1 ⟨rfl, n, hn⟩
    have HR1 : Hid (Rm w1 q r) := by unfold Hid; rw [hn]; exact HR.out.drewN n
    have HB1 : Hid (Bt q w w1) := by unfold Hid; rw [hn]; exact (Bt.refl q w).drewN n
    clear hn
    go_wp2_with fail
    refine (HF.out t0 _ HR1.out).mono ?_
    rintro e w2 ⟨rfl, HR2, HB2⟩
    have HB3 : Hid (Bt q w w2) := HB1.out.trans HB2.out
    clear HB2
    go_wp2_with fail
    go_ret
    exact RP.mk (by rw [HU.out]; rfl) (by rw [HU.out]; exact HR2.out) HB3.out
end Go.Proofs.YtdmlgheajblcdaaGreat
