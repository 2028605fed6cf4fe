/- layer 11: what is wrong with an entry, why it can't be done; a ledger asked -/
import Derived.Test.YtbfnfebmmhhegaaF
import Derived.WalkKit
import Derived.ProofKit
import Derived.Handy
import Derived.WalkLawsBesides
import Derived.WalkSpells
import Derived.BigQuiet
import Derived.BigCall
import Derived.Deep.QuietTactic
import Derived.Deep.Light
import Derived.Deep.OwnRows
import Derived.Laws.AppendOwnNone
import Derived.Laws.Strings3
import Derived.Laws.RangeAny
import Derived.Deep.RegionWith
import Derived.Lib.BitFns
import Derived.Lib.Walk
import Derived.Lib.Strings
import Derived.Lib.OthersKept
import Derived.Deep.CutBlock
import Derived.Deep.DeepCutAuto
import Derived.Deep.LoopGhost
import Derived.Deep.RegionHeld3
import Derived.Lib.SmallJoins
import Derived.Maps.AppendAt
import Derived.Laws.IdiomStrings
import Derived.Lib.AppendZeros
import Derived.Deep.WholeRow
import Derived.Laws.BitsAllLaws
import Derived.Lib.ConvBytes
import Derived.Deep.RegionLaw
import Derived.Maps.OwnSet
import Derived.Maps.OwnOps
import Derived.Maps.RangeWalk
import Derived.Maps.Ext
import Derived.DeepKeys4
import Derived.Laws.StructEq
namespace Go.Proofs.Ytbfnfebmmhhegaa
open Go.RowKit
set_option linter.unusedVariables false
set_option linter.unusedSimpArgs false
theorem Lg.drewN {w : World} {q m : Nat} {L : List Num.Bal} (h : Lg w q m L) (k : Nat) : Lg (w.drewN k) q m L := ⟨h.b, h.m.same rfl⟩
set_option maxRecDepth 20000 in
theorem xlack (q m : Nat) (L : List Num.Bal) (w : World) (h : Lg w q m L) : Calls Try.prog 60 #[.pointer (some ⟨q, 0, none⟩)] w fun e w' => e = .returned (.bool false) ∧ w' = w := by
  have cq : w.cell? ⟨q, 0, none⟩ = some (.map (some m)) := h.b.cell 0
  clear h
  have qm := run_eql_map_nil (P := Try.prog) w 107 69 3 (some m) Try.underlying107
  go_enter Try.func60, Try.ntmps60
  go_wp2
  go_ret
  exact ⟨rfl, rfl⟩
set_option maxRecDepth 20000 in
theorem ylack (w : World) : Calls Try.prog 60 #[.pointer none] w fun e w' => e = .returned (.bool true) ∧ w' = w := by
  go_enter Try.func60, Try.ntmps60
  go_wp2
  go_ret
  exact ⟨rfl, rfl⟩
set_option maxRecDepth 20000 in
theorem zlack (q : Nat) (w : World) (h : Bx w q #[.map none] 109) : Calls Try.prog 60 #[.pointer (some ⟨q, 0, none⟩)] w fun e w' => e = .returned (.bool true) ∧ w' = w := by
  have cq : w.cell? ⟨q, 0, none⟩ = some (.map none) := h.cell 0
  clear h
  have qm := run_eql_map_nil (P := Try.prog) w 107 69 3 none Try.underlying107
  go_enter Try.func60, Try.ntmps60
  go_wp2
  go_ret
  exact ⟨rfl, rfl⟩
def ewr (e : Num.Ent) : Int := if e.2.2 < 1 ∨ 1125899906842624 < e.2.2 then 1 else if Num.wr e.1 ≠ 0 then Num.wr e.1 else if Num.wr e.2.1 ≠ 0 then Num.wr e.2.1 else if e.1.2.2 ≠ e.2.1.2.2 then 21 else 0
def EwP (e : Num.Ent) (w : World) (x : Ending) (w' : World) : Prop := x = .returned (.int .i64 (ewr e)) ∧ Below w.heap.size w w'
set_option maxRecDepth 20000 in
set_option maxHeartbeats 1000000 in
theorem xewr (o b o' b' n : Int) (s s' : ByteArray) (w : World) : Calls Try.prog 77 #[.agg #[.int .i64 o, .int .i64 b, .string s, .int .i64 o', .int .i64 b', .string s', .int .i64 n]] w (EwP ((o, b, s.toList), (o', b', s'.toList), n) w) := by
  have HB0 : Hid (Below w.heap.size w (w.alloc (.cells #[.int .i64 o, .int .i64 b, .string s, .int .i64 o', .int .i64 b', .string s', .int .i64 n] 94))) := (Below.refl _ w).alloc (Nat.le_refl _) _
  have HB1 : Hid (∀ x, Below w.heap.size w ((w.alloc (.cells #[.int .i64 o, .int .i64 b, .string s, .int .i64 o', .int .i64 b', .string s', .int .i64 n] 94)).alloc x)) := fun x => HB0.out.alloc (by simp) x
  have HB2 : Hid (∀ x y, Below w.heap.size w (((w.alloc (.cells #[.int .i64 o, .int .i64 b, .string s, .int .i64 o', .int .i64 b', .string s', .int .i64 n] 94)).alloc x).alloc y)) := fun x y => (HB1.out x).alloc (by simp; omega) y
  have HE : ∀ x, ewr ((o, b, s.toList), (o', b', s'.toList), n) = x → (∀ w', Below w.heap.size w w' → EwP ((o, b, s.toList), (o', b', s'.toList), n) w (.returned (.int .i64 x)) w') := fun x hx w' hb => ⟨by rw [hx], hb⟩
  unfold ewr at HE
  have hc1 := fun w => xwrong o b s w
  have hc2 := fun w => xwrong o' b' s' w
  simp only at HE
  generalize Num.wr (o, b, s.toList) = E1 at *
  generalize Num.wr (o', b', s'.toList) = E2 at *
  have HC1 : Hid (∀ w, Calls Try.prog 79 #[.agg #[.int .i64 o, .int .i64 b, .string s]] w fun e w' => e = .returned (.int .i64 E1) ∧ w' = w.alloc (.cells #[.int .i64 o, .int .i64 b, .string s] 69)) := hc1
  have HC2 : Hid (∀ w, Calls Try.prog 79 #[.agg #[.int .i64 o', .int .i64 b', .string s']] w fun e w' => e = .returned (.int .i64 E2) ∧ w' = w.alloc (.cells #[.int .i64 o', .int .i64 b', .string s'] 69)) := hc2
  clear hc1 hc2
  by_cases h1 : n < 1
  · have HF : Hid (∀ w', Below w.heap.size w w' → EwP ((o, b, s.toList), (o', b', s'.toList), n) w (.returned (.int .i64 1)) w') := HE 1 (if_pos (.inl h1))
    clear HE HC1 HC2
    go_enter Try.func77, Try.ntmps77
    go_wp2
    go_ret
    exact HF.out _ HB0.out
  by_cases h2 : 1125899906842624 < n
  · have HF : Hid (∀ w', Below w.heap.size w w' → EwP ((o, b, s.toList), (o', b', s'.toList), n) w (.returned (.int .i64 1)) w') := HE 1 (if_pos (.inr h2))
    clear HE HC1 HC2
    go_enter Try.func77, Try.ntmps77
    go_wp2
    go_ret
    exact HF.out _ HB0.out
  rw [if_neg (by omega)] at HE
  by_cases h3 : E1 = 0
  · rw [if_neg (by simp [h3])] at HE
    have h3' : (E1 != 0) = false := by simp [h3]
    clear h3
    by_cases h4 : E2 = 0
    · rw [if_neg (by simp [h4])] at HE
      have h4' : (E2 != 0) = false := by simp [h4]
      clear h4
      by_cases h5 : s.toList = s'.toList
      · have HF : Hid (∀ w', Below w.heap.size w w' → EwP ((o, b, s.toList), (o', b', s'.toList), n) w (.returned (.int .i64 0)) w') := HE 0 (if_neg (by simp [h5]))
        have h5' : (s.toList == s'.toList) = true := by simp [h5]
        clear h5 HE
        go_enter Try.func77, Try.ntmps77
        go_wp2_with (first | (go_at_call 79; refine (HC1.out _).mono ?_; clear HC1; rintro e w1 ⟨rfl, rfl⟩) | (go_at_call 79; refine (HC2.out _).mono ?_; clear HC2; rintro e w1 ⟨rfl, rfl⟩))
        go_ret
        exact HF.out _ (HB2.out _ _)
      · have HF : Hid (∀ w', Below w.heap.size w w' → EwP ((o, b, s.toList), (o', b', s'.toList), n) w (.returned (.int .i64 21)) w') := HE 21 (if_pos h5)
        have h5' : (s.toList == s'.toList) = false := by simp [h5]
        clear h5 HE
        go_enter Try.func77, Try.ntmps77
        go_wp2_with (first | (go_at_call 79; refine (HC1.out _).mono ?_; clear HC1; rintro e w1 ⟨rfl, rfl⟩) | (go_at_call 79; refine (HC2.out _).mono ?_; clear HC2; rintro e w1 ⟨rfl, rfl⟩))
        go_ret
        exact HF.out _ (HB2.out _ _)
    · have HF : Hid (∀ w', Below w.heap.size w w' → EwP ((o, b, s.toList), (o', b', s'.toList), n) w (.returned (.int .i64 E2)) w') := HE E2 (if_pos h4)
      have h4' : (E2 != 0) = true := by simp [h4]
      clear h4 HE
      go_enter Try.func77, Try.ntmps77
      go_wp2_with (first | (go_at_call 79; refine (HC1.out _).mono ?_; clear HC1; rintro e w1 ⟨rfl, rfl⟩) | (go_at_call 79; refine (HC2.out _).mono ?_; clear HC2; rintro e w1 ⟨rfl, rfl⟩))
      go_ret
      exact HF.out _ (HB2.out _ _)
  · have HF : Hid (∀ w', Below w.heap.size w w' → EwP ((o, b, s.toList), (o', b', s'.toList), n) w (.returned (.int .i64 E1)) w') := HE E1 (if_pos h3)
    have h3' : (E1 != 0) = true := by simp [h3]
    clear h3 HE HC2
    go_enter Try.func77, Try.ntmps77
    go_wp2_with (go_at_call 79; refine (HC1.out _).mono ?_; rintro e w1 ⟨rfl, rfl⟩)
    go_ret
    exact HF.out _ (HB1.out _)
theorem neq40 (o b o' b' : Int) (s s' : ByteArray) (w : World) : (binOp .neq 69 (.agg #[.int .i64 o, .int .i64 b, .string s]) (.agg #[.int .i64 o', .int .i64 b', .string s'])).run Try.prog w = .ok (.bool (decide ((o, b, s.toList) ≠ (o', b', s'.toList)))) w := by
  by_cases h1 : o = o'
  · by_cases h2 : b = b'
    · by_cases h3 : s.toList = s'.toList
      · go_simp
      · go_simp
    · go_simp
  · go_simp
theorem wa_of {a : Num.Acc} (h : Num.wr a = 0) : Wa a := by
  have := Num.wr_ok.1 h
  exact ⟨WalkArith.wf_i64 (by omega), WalkArith.wf_i64 (by omega), by have e : maxLen = 9223372036854775807 := rfl; omega⟩
theorem flt_first {L : List Num.Bal} {e : Num.Ent} (h : ewr e ≠ 0) : Num.flt L e = ewr e := by
  unfold ewr at h ⊢
  unfold Num.flt
  split
  · rfl
  split
  · rfl
  split
  · rfl
  split
  · rfl
  · rename_i h1 h2 h3 h4
    rw [if_neg h1, if_neg h2, if_neg h3, if_neg h4] at h
    exact absurd rfl h
theorem ewr_ok {e : Num.Ent} (h : ewr e = 0) : 1 ≤ e.2.2 ∧ e.2.2 ≤ 1125899906842624 ∧ Num.wr e.1 = 0 ∧ Num.wr e.2.1 = 0 ∧ e.1.2.2 = e.2.1.2.2 := by
  unfold ewr at h
  split at h
  · cases h
  split at h
  · rename_i h1 h2; exact absurd h h2
  split at h
  · rename_i h1 h2 h3; exact absurd h h3
  split at h
  · cases h
  rename_i h1 h2 h3 h4
  exact ⟨by omega, by omega, Decidable.of_not_not h2, Decidable.of_not_not h3, Decidable.of_not_not h4⟩
theorem flt_rest {L : List Num.Bal} {e : Num.Ent} (g : Num.Good L) (h : ewr e = 0) : Num.flt L e = if Num.get L e.1 - e.2.2 < 0 ∧ e.1.1 ≠ 0 then 20 else if Num.get L e.1 - e.2.2 < -72057594037927936 then 9 else if 72057594037927936 < Num.get L e.2.1 + e.2.2 ∧ e.1 ≠ e.2.1 then 9 else 0 := by
  obtain ⟨a1, a2, wf, wt, th⟩ := ewr_ok h
  have g1 := g.get e.1
  have o1 := (Num.wr_ok.1 wf).1
  unfold Num.flt
  rw [if_neg (by omega), if_neg (by simp [wf]), if_neg (by simp [wt]), if_neg (by simp [th])]
  by_cases c1 : Num.get L e.1 - e.2.2 < 0 ∧ e.1.1 ≠ 0
  · rw [if_pos c1, if_pos (by omega)]
  · rw [if_neg c1, if_neg (by omega)]
    by_cases c2 : Num.get L e.1 - e.2.2 < -72057594037927936
    · rw [if_pos c2, if_pos (.inl c2)]
    · rw [if_neg c2, Num.get_set]
      by_cases c3 : e.1 = e.2.1
      · rw [if_pos c3, if_neg (by omega), if_neg (by simp [c3])]
      · rw [if_neg c3]
        by_cases c4 : 72057594037927936 < Num.get L e.2.1 + e.2.2
        · rw [if_pos (.inr c4), if_pos ⟨c4, c3⟩]
        · rw [if_neg (by omega), if_neg (by omega)]
def FlP (L : List Num.Bal) (e : Num.Ent) (w : World) (x : Ending) (w' : World) : Prop := x = .returned (.int .i64 (Num.flt L e)) ∧ Below w.heap.size w w'
set_option maxRecDepth 20000 in
set_option maxHeartbeats 2000000 in
theorem xflt (q m : Nat) (L : List Num.Bal) (g : Num.Good L) (o b o' b' n : Int) (s s' : ByteArray) (w : World) (h : Lg w q m L) : Calls Try.prog 63 #[.pointer (some ⟨q, 0, none⟩), .agg #[.int .i64 o, .int .i64 b, .string s, .int .i64 o', .int .i64 b', .string s', .int .i64 n]] w (FlP L ((o, b, s.toList), (o', b', s'.toList), n) w) := by
  obtain ⟨w1, hw1⟩ : ∃ w1, w1 = w.alloc (.cells #[.int .i64 o, .int .i64 b, .string s, .int .i64 o', .int .i64 b', .string s', .int .i64 n] 94) := ⟨_, rfl⟩
  have HW : Hid (w.alloc (.cells #[.int .i64 o, .int .i64 b, .string s, .int .i64 o', .int .i64 b', .string s', .int .i64 n] 94) = w1) := hw1.symm
  have HX : Hid (Bx w1 w.heap.size #[.int .i64 o, .int .i64 b, .string s, .int .i64 o', .int .i64 b', .string s', .int .i64 n] 94) := by unfold Hid; rw [hw1]; exact Bx.new w _ _
  have HL1 : Hid (Lg w1 q m L) := by unfold Hid; rw [hw1]; exact h.alloc _
  have HB1 : Hid (Below w.heap.size w w1) := by unfold Hid; rw [hw1]; exact (Below.refl _ w).alloc (Nat.le_refl _) _
  have HM : Hid (w.heap.size ≤ w1.heap.size) := HB1.out.size
  have HC : Hid (Calls Try.prog 77 #[.agg #[.int .i64 o, .int .i64 b, .string s, .int .i64 o', .int .i64 b', .string s', .int .i64 n]] w1 (EwP ((o, b, s.toList), (o', b', s'.toList), n) w1)) := xewr o b o' b' n s s' w1
  have HF1 : Hid (ewr ((o, b, s.toList), (o', b', s'.toList), n) ≠ 0 → Num.flt L ((o, b, s.toList), (o', b', s'.toList), n) = ewr ((o, b, s.toList), (o', b', s'.toList), n)) := flt_first
  have HF2 : Hid (ewr ((o, b, s.toList), (o', b', s'.toList), n) = 0 → _) := fun hh => flt_rest g hh
  have HOK : Hid (ewr ((o, b, s.toList), (o', b', s'.toList), n) = 0 → _) := fun hh => ewr_ok hh
  have HGF : Hid (-72057594037927936 ≤ Num.get L (o, b, s.toList) ∧ Num.get L (o, b, s.toList) ≤ 72057594037927936 ∧ -72057594037927936 ≤ Num.get L (o', b', s'.toList) ∧ Num.get L (o', b', s'.toList) ≤ 72057594037927936) := by
    have k1 := g.get (o, b, s.toList)
    have k2 := g.get (o', b', s'.toList)
    exact ⟨k1.1, k1.2.1, k2.1, k2.2.1⟩
  clear g h hw1
  simp only at HF2 HOK
  by_cases he : ewr ((o, b, s.toList), (o', b', s'.toList), n) = 0
  · have hf2 := HF2.out he
    obtain ⟨a1, a2, wf, wt, hth⟩ := HOK.out he
    clear hth
    have ha : Wa (o, b, s.toList) := wa_of wf
    have ha' : Wa (o', b', s'.toList) := wa_of wt
    have HC' : Hid (Calls Try.prog 77 #[.agg #[.int .i64 o, .int .i64 b, .string s, .int .i64 o', .int .i64 b', .string s', .int .i64 n]] w1 fun e w' => e = .returned (.int .i64 0) ∧ Below w1.heap.size w1 w') := by
      refine HC.out.mono ?_
      rintro e w' ⟨rfl, hb⟩
      exact ⟨by rw [he], hb⟩
    have HS : Hid (∀ w2, Below w1.heap.size w1 w2 → Hid (Bx w2 w.heap.size #[.int .i64 o, .int .i64 b, .string s, .int .i64 o', .int .i64 b', .string s', .int .i64 n] 94) ∧ w2.cell? ⟨q, 0, none⟩ = some (.map (some m)) ∧
        (∀ k, (Instr.lookup 107 (.map (some m)) (.agg #[.int .i64 o, .int .i64 b, .string s]) false).run Try.prog (w2.drewN k) = .ok (.int .i64 (Num.get L (o, b, s.toList))) (w2.drewN k)) ∧
        (∀ k, (Instr.lookup 107 (.map (some m)) (.agg #[.int .i64 o', .int .i64 b', .string s']) false).run Try.prog (w2.drewN k) = .ok (.int .i64 (Num.get L (o', b', s'.toList))) (w2.drewN k)) ∧ Hid (∀ k, Below w.heap.size w (w2.drewN k))) := by
      intro w2 hb
      have hl := HL1.out.below hb
      exact ⟨HX.out.below hb HX.out.lt, hl.b.cell 0, fun k => (hl.drewN k).m.look' ha, fun k => (hl.drewN k).m.look' ha', fun k => HB1.out.trans ((hb.mono HM.out).trans ⟨rfl, rfl, rfl, Nat.le_refl _, fun _ _ => rfl⟩)⟩
    have HN : Hid ((o, b, s.toList) = (o', b', s'.toList) ∨ ¬ (o, b, s.toList) = (o', b', s'.toList)) := Decidable.em _
    have HNE : Hid (∀ w, _) := fun w => neq40 o b o' b' s s' w
    have HPO : Hid (∀ x w', Num.flt L ((o, b, s.toList), (o', b', s'.toList), n) = x → Below w.heap.size w w' → FlP L ((o, b, s.toList), (o', b', s'.toList), n) w (.returned (.int .i64 x)) w') := fun x w' hx hb => ⟨by rw [hx], hb⟩
    generalize Num.flt L ((o, b, s.toList), (o', b', s'.toList), n) = F at *
    generalize Num.get L (o, b, s.toList) = G at *
    generalize Num.get L (o', b', s'.toList) = G' at *
    have r1 : Rng (G - n) := by have := HGF.out; unfold Rng; omega
    have r2 : Rng (G' + n) := by have := HGF.out; unfold Rng; omega
    have i1 := r1.w
    have i2 := r1.w64
    have i3 := r2.w
    have i4 := r2.w64
    have HQ : Hid ((decide ((o, b, s.toList) ≠ (o', b', s'.toList)) = true) ↔ ¬ (o, b, s.toList) = (o', b', s'.toList)) := decide_eq_true_iff
    generalize decide ((o, b, s.toList) ≠ (o', b', s'.toList)) = dq at *
    have c0 : w1.cell? ⟨w.heap.size, 0, none⟩ = some (.int .i64 o) := HX.out.cell 0
    have c1 : w1.cell? ⟨w.heap.size, 1, none⟩ = some (.int .i64 b) := HX.out.cell 1
    have c2 : w1.cell? ⟨w.heap.size, 2, none⟩ = some (.string s) := HX.out.cell 2
    have c3 : w1.cell? ⟨w.heap.size, 3, none⟩ = some (.int .i64 o') := HX.out.cell 3
    have c4 : w1.cell? ⟨w.heap.size, 4, none⟩ = some (.int .i64 b') := HX.out.cell 4
    have c5 : w1.cell? ⟨w.heap.size, 5, none⟩ = some (.string s') := HX.out.cell 5
    have c6 : w1.cell? ⟨w.heap.size, 6, none⟩ = some (.int .i64 n) := HX.out.cell 6
    have HNE2 : ∀ w, (binOp .neq 69 (.agg #[.int .i64 o, .int .i64 b, .string s]) (.agg #[.int .i64 o', .int .i64 b', .string s'])).run Try.prog w = .ok (.bool dq) w := HNE.out
    clear HNE
    clear HN HF1 HF2 HOK ha ha' wf wt he HC HX
    by_cases t1 : G - n < 0
    · by_cases t2 : o = 0
      · have t2' : (o != 0) = false := by simp [t2]
        rw [if_neg (by simp [t2])] at hf2
        clear t2
        by_cases t3 : G - n < -72057594037927936
        · rw [if_pos t3] at hf2
          have HF : Hid (F = 9) := hf2
          clear hf2
          go_enter Try.func63, Try.ntmps63
          go_upto_region 1 with fail
          rw [HW.out]
          go_wp2_with (go_at_call 77; refine HC'.out.mono ?_; rintro e w2 ⟨rfl, hb⟩; obtain ⟨HX2, k1, k2, k3, HB2⟩ := HS.out _ hb; have d0 : w2.cell? ⟨w.heap.size, 0, none⟩ = some (.int .i64 o) := HX2.out.cell 0; have d1 : w2.cell? ⟨w.heap.size, 1, none⟩ = some (.int .i64 b) := HX2.out.cell 1; have d2 : w2.cell? ⟨w.heap.size, 2, none⟩ = some (.string s) := HX2.out.cell 2; have d3 : w2.cell? ⟨w.heap.size, 3, none⟩ = some (.int .i64 o') := HX2.out.cell 3; have d4 : w2.cell? ⟨w.heap.size, 4, none⟩ = some (.int .i64 b') := HX2.out.cell 4; have d5 : w2.cell? ⟨w.heap.size, 5, none⟩ = some (.string s') := HX2.out.cell 5; have d6 : w2.cell? ⟨w.heap.size, 6, none⟩ = some (.int .i64 n) := HX2.out.cell 6)
          clear c0 c1 c2 c3 c4 c5 c6 hb
          go_quiet (fail)
          all_goals
            go_wp2_with fail
            go_ret
            exact HPO.out _ _ HF.out (HB2.out _)
        · rw [if_neg t3] at hf2
          by_cases t4 : 72057594037927936 < G' + n
          · by_cases t5 : dq = true
            · rw [if_pos ⟨t4, HQ.out.1 t5⟩] at hf2
              subst t5
              have HF : Hid (F = 9) := hf2
              clear hf2
              go_enter Try.func63, Try.ntmps63
              go_upto_region 1 with fail
              rw [HW.out]
              go_wp2_with (go_at_call 77; refine HC'.out.mono ?_; rintro e w2 ⟨rfl, hb⟩; obtain ⟨HX2, k1, k2, k3, HB2⟩ := HS.out _ hb; have d0 : w2.cell? ⟨w.heap.size, 0, none⟩ = some (.int .i64 o) := HX2.out.cell 0; have d1 : w2.cell? ⟨w.heap.size, 1, none⟩ = some (.int .i64 b) := HX2.out.cell 1; have d2 : w2.cell? ⟨w.heap.size, 2, none⟩ = some (.string s) := HX2.out.cell 2; have d3 : w2.cell? ⟨w.heap.size, 3, none⟩ = some (.int .i64 o') := HX2.out.cell 3; have d4 : w2.cell? ⟨w.heap.size, 4, none⟩ = some (.int .i64 b') := HX2.out.cell 4; have d5 : w2.cell? ⟨w.heap.size, 5, none⟩ = some (.string s') := HX2.out.cell 5; have d6 : w2.cell? ⟨w.heap.size, 6, none⟩ = some (.int .i64 n) := HX2.out.cell 6)
              clear c0 c1 c2 c3 c4 c5 c6 hb
              go_quiet (fail)
              all_goals
                go_wp2_with fail
                go_ret
                exact HPO.out _ _ HF.out (HB2.out _)
            · rw [if_neg (fun hh => t5 (HQ.out.2 hh.2))] at hf2
              have t5' : dq = false := by simpa using t5
              subst t5'
              clear t5
              have HF : Hid (F = 0) := hf2
              clear hf2
              go_enter Try.func63, Try.ntmps63
              go_upto_region 1 with fail
              rw [HW.out]
              go_wp2_with (go_at_call 77; refine HC'.out.mono ?_; rintro e w2 ⟨rfl, hb⟩; obtain ⟨HX2, k1, k2, k3, HB2⟩ := HS.out _ hb; have d0 : w2.cell? ⟨w.heap.size, 0, none⟩ = some (.int .i64 o) := HX2.out.cell 0; have d1 : w2.cell? ⟨w.heap.size, 1, none⟩ = some (.int .i64 b) := HX2.out.cell 1; have d2 : w2.cell? ⟨w.heap.size, 2, none⟩ = some (.string s) := HX2.out.cell 2; have d3 : w2.cell? ⟨w.heap.size, 3, none⟩ = some (.int .i64 o') := HX2.out.cell 3; have d4 : w2.cell? ⟨w.heap.size, 4, none⟩ = some (.int .i64 b') := HX2.out.cell 4; have d5 : w2.cell? ⟨w.heap.size, 5, none⟩ = some (.string s') := HX2.out.cell 5; have d6 : w2.cell? ⟨w.heap.size, 6, none⟩ = some (.int .i64 n) := HX2.out.cell 6)
              clear c0 c1 c2 c3 c4 c5 c6 hb
              go_quiet (fail)
              all_goals
                go_wp2_with fail
                go_ret
                exact HPO.out _ _ HF.out (HB2.out _)
          · rw [if_neg (fun hh => t4 hh.1)] at hf2
            have HF : Hid (F = 0) := hf2
            clear hf2
            go_enter Try.func63, Try.ntmps63
            go_upto_region 1 with fail
            rw [HW.out]
            go_wp2_with (go_at_call 77; refine HC'.out.mono ?_; rintro e w2 ⟨rfl, hb⟩; obtain ⟨HX2, k1, k2, k3, HB2⟩ := HS.out _ hb; have d0 : w2.cell? ⟨w.heap.size, 0, none⟩ = some (.int .i64 o) := HX2.out.cell 0; have d1 : w2.cell? ⟨w.heap.size, 1, none⟩ = some (.int .i64 b) := HX2.out.cell 1; have d2 : w2.cell? ⟨w.heap.size, 2, none⟩ = some (.string s) := HX2.out.cell 2; have d3 : w2.cell? ⟨w.heap.size, 3, none⟩ = some (.int .i64 o') := HX2.out.cell 3; have d4 : w2.cell? ⟨w.heap.size, 4, none⟩ = some (.int .i64 b') := HX2.out.cell 4; have d5 : w2.cell? ⟨w.heap.size, 5, none⟩ = some (.string s') := HX2.out.cell 5; have d6 : w2.cell? ⟨w.heap.size, 6, none⟩ = some (.int .i64 n) := HX2.out.cell 6)
            clear c0 c1 c2 c3 c4 c5 c6 hb
            go_quiet (fail)
            all_goals
              go_wp2_with fail
              go_ret
              exact HPO.out _ _ HF.out (HB2.out _)
      · have t2' : (o != 0) = true := by simp [t2]
        rw [if_pos ⟨t1, t2⟩] at hf2
        clear t2
        have HF : Hid (F = 20) := hf2
        clear hf2
        go_enter Try.func63, Try.ntmps63
        go_upto_region 1 with fail
        rw [HW.out]
        go_wp2_with (go_at_call 77; refine HC'.out.mono ?_; rintro e w2 ⟨rfl, hb⟩; obtain ⟨HX2, k1, k2, k3, HB2⟩ := HS.out _ hb; have d0 : w2.cell? ⟨w.heap.size, 0, none⟩ = some (.int .i64 o) := HX2.out.cell 0; have d1 : w2.cell? ⟨w.heap.size, 1, none⟩ = some (.int .i64 b) := HX2.out.cell 1; have d2 : w2.cell? ⟨w.heap.size, 2, none⟩ = some (.string s) := HX2.out.cell 2; have d3 : w2.cell? ⟨w.heap.size, 3, none⟩ = some (.int .i64 o') := HX2.out.cell 3; have d4 : w2.cell? ⟨w.heap.size, 4, none⟩ = some (.int .i64 b') := HX2.out.cell 4; have d5 : w2.cell? ⟨w.heap.size, 5, none⟩ = some (.string s') := HX2.out.cell 5; have d6 : w2.cell? ⟨w.heap.size, 6, none⟩ = some (.int .i64 n) := HX2.out.cell 6)
        clear c0 c1 c2 c3 c4 c5 c6 hb
        go_quiet (fail)
        all_goals
          go_wp2_with fail
          go_ret
          exact HPO.out _ _ HF.out (HB2.out _)
    · rw [if_neg (fun hh => t1 hh.1)] at hf2
      have t3 : ¬ G - n < -72057594037927936 := by omega
      rw [if_neg t3] at hf2
      by_cases t4 : 72057594037927936 < G' + n
      · by_cases t5 : dq = true
        · rw [if_pos ⟨t4, HQ.out.1 t5⟩] at hf2
          subst t5
          have HF : Hid (F = 9) := hf2
          clear hf2
          go_enter Try.func63, Try.ntmps63
          go_upto_region 1 with fail
          rw [HW.out]
          go_wp2_with (go_at_call 77; refine HC'.out.mono ?_; rintro e w2 ⟨rfl, hb⟩; obtain ⟨HX2, k1, k2, k3, HB2⟩ := HS.out _ hb; have d0 : w2.cell? ⟨w.heap.size, 0, none⟩ = some (.int .i64 o) := HX2.out.cell 0; have d1 : w2.cell? ⟨w.heap.size, 1, none⟩ = some (.int .i64 b) := HX2.out.cell 1; have d2 : w2.cell? ⟨w.heap.size, 2, none⟩ = some (.string s) := HX2.out.cell 2; have d3 : w2.cell? ⟨w.heap.size, 3, none⟩ = some (.int .i64 o') := HX2.out.cell 3; have d4 : w2.cell? ⟨w.heap.size, 4, none⟩ = some (.int .i64 b') := HX2.out.cell 4; have d5 : w2.cell? ⟨w.heap.size, 5, none⟩ = some (.string s') := HX2.out.cell 5; have d6 : w2.cell? ⟨w.heap.size, 6, none⟩ = some (.int .i64 n) := HX2.out.cell 6)
          clear c0 c1 c2 c3 c4 c5 c6 hb
          go_quiet (fail)
          all_goals
            go_wp2_with fail
            go_ret
            exact HPO.out _ _ HF.out (HB2.out _)
        · rw [if_neg (fun hh => t5 (HQ.out.2 hh.2))] at hf2
          have t5' : dq = false := by simpa using t5
          subst t5'
          clear t5
          have HF : Hid (F = 0) := hf2
          clear hf2
          go_enter Try.func63, Try.ntmps63
          go_upto_region 1 with fail
          rw [HW.out]
          go_wp2_with (go_at_call 77; refine HC'.out.mono ?_; rintro e w2 ⟨rfl, hb⟩; obtain ⟨HX2, k1, k2, k3, HB2⟩ := HS.out _ hb; have d0 : w2.cell? ⟨w.heap.size, 0, none⟩ = some (.int .i64 o) := HX2.out.cell 0; have d1 : w2.cell? ⟨w.heap.size, 1, none⟩ = some (.int .i64 b) := HX2.out.cell 1; have d2 : w2.cell? ⟨w.heap.size, 2, none⟩ = some (.string s) := HX2.out.cell 2; have d3 : w2.cell? ⟨w.heap.size, 3, none⟩ = some (.int .i64 o') := HX2.out.cell 3; have d4 : w2.cell? ⟨w.heap.size, 4, none⟩ = some (.int .i64 b') := HX2.out.cell 4; have d5 : w2.cell? ⟨w.heap.size, 5, none⟩ = some (.string s') := HX2.out.cell 5; have d6 : w2.cell? ⟨w.heap.size, 6, none⟩ = some (.int .i64 n) := HX2.out.cell 6)
          clear c0 c1 c2 c3 c4 c5 c6 hb
          go_quiet (fail)
          all_goals
            go_wp2_with fail
            go_ret
            exact HPO.out _ _ HF.out (HB2.out _)
      · rw [if_neg (fun hh => t4 hh.1)] at hf2
        have HF : Hid (F = 0) := hf2
        clear hf2
        go_enter Try.func63, Try.ntmps63
        go_upto_region 1 with fail
        rw [HW.out]
        go_wp2_with (go_at_call 77; refine HC'.out.mono ?_; rintro e w2 ⟨rfl, hb⟩; obtain ⟨HX2, k1, k2, k3, HB2⟩ := HS.out _ hb; have d0 : w2.cell? ⟨w.heap.size, 0, none⟩ = some (.int .i64 o) := HX2.out.cell 0; have d1 : w2.cell? ⟨w.heap.size, 1, none⟩ = some (.int .i64 b) := HX2.out.cell 1; have d2 : w2.cell? ⟨w.heap.size, 2, none⟩ = some (.string s) := HX2.out.cell 2; have d3 : w2.cell? ⟨w.heap.size, 3, none⟩ = some (.int .i64 o') := HX2.out.cell 3; have d4 : w2.cell? ⟨w.heap.size, 4, none⟩ = some (.int .i64 b') := HX2.out.cell 4; have d5 : w2.cell? ⟨w.heap.size, 5, none⟩ = some (.string s') := HX2.out.cell 5; have d6 : w2.cell? ⟨w.heap.size, 6, none⟩ = some (.int .i64 n) := HX2.out.cell 6)
        clear c0 c1 c2 c3 c4 c5 c6 hb
        go_quiet (fail)
        all_goals
          go_wp2_with fail
          go_ret
          exact HPO.out _ _ HF.out (HB2.out _)
  · have HPO : Hid (∀ w', Below w.heap.size w w' → FlP L ((o, b, s.toList), (o', b', s'.toList), n) w (.returned (.int .i64 (ewr ((o, b, s.toList), (o', b', s'.toList), n)))) w') := fun w' hb => ⟨by rw [HF1.out he], hb⟩
    have HBB : Hid (∀ w2, Below w1.heap.size w1 w2 → Below w.heap.size w w2) := fun w2 hb => HB1.out.trans (hb.mono HM.out)
    have HC' : Hid (Calls Try.prog 77 #[.agg #[.int .i64 o, .int .i64 b, .string s, .int .i64 o', .int .i64 b', .string s', .int .i64 n]] w1 fun e w' => e = .returned (.int .i64 (ewr ((o, b, s.toList), (o', b', s'.toList), n))) ∧ Below w1.heap.size w1 w') := HC.out
    have c0 : w1.cell? ⟨w.heap.size, 0, none⟩ = some (.int .i64 o) := HX.out.cell 0
    have c1 : w1.cell? ⟨w.heap.size, 1, none⟩ = some (.int .i64 b) := HX.out.cell 1
    have c2 : w1.cell? ⟨w.heap.size, 2, none⟩ = some (.string s) := HX.out.cell 2
    have c3 : w1.cell? ⟨w.heap.size, 3, none⟩ = some (.int .i64 o') := HX.out.cell 3
    have c4 : w1.cell? ⟨w.heap.size, 4, none⟩ = some (.int .i64 b') := HX.out.cell 4
    have c5 : w1.cell? ⟨w.heap.size, 5, none⟩ = some (.string s') := HX.out.cell 5
    have c6 : w1.cell? ⟨w.heap.size, 6, none⟩ = some (.int .i64 n) := HX.out.cell 6
    clear HF1 HF2 HOK HX HC HL1 HGF
    generalize ewr ((o, b, s.toList), (o', b', s'.toList), n) = E at *
    have he' : (E != 0) = true := by simpa using he
    clear he
    go_enter Try.func63, Try.ntmps63
    go_upto_region 1 with fail
    rw [HW.out]
    go_wp2_with (go_at_call 77; refine HC'.out.mono ?_; rintro e w2 ⟨rfl, hb⟩)
    go_ret
    exact HPO.out _ (HBB.out _ hb)
end Go.Proofs.Ytbfnfebmmhhegaa
