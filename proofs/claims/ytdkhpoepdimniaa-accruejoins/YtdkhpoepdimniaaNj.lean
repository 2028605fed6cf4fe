/- Walks of Check, of the program and of the reference. Conditions: the rates are ints. -/
import Derived.Test.YtdkhpoepdimniaaNi
import Derived.WalkKit
import Derived.ProofKit
import Derived.Handy
import Derived.WalkLawsBesides
import Derived.WalkSpells
import Derived.BigQuiet
import Derived.Deep.QuietTactic
import Derived.Deep.Light
import Derived.Deep.OwnRows
import Derived.Laws.AppendOwnNone
import Derived.Deep.RegionWith
import Derived.Lib.BitFns
import Derived.Lib.Walk
import Derived.Deep.CutBlock
import Derived.Deep.DeepCutAuto
import Derived.Deep.LoopGhost
import Derived.Deep.RegionHeld3
import Derived.Lib.SmallJoins
namespace Go.Proofs.Ytdkhpoepdimniaa
open Go.RowKit
set_option linter.unusedVariables false
set_option linter.unusedSimpArgs false
def ChkPost (l : Pairs) (w : World) (e : Ending) (w' : World) : Prop := e = .returned (.int .i64 (chk l)) ∧ Below w.heap.size w w'
theorem chk_empty {l : Pairs} (h : l.length = 0) : chk l = 6 := if_pos h
theorem chk_many {l : Pairs} (h : 64 < l.length) : chk l = 2 := by rw [chk, if_neg (by omega), if_pos h]
theorem chk_some {l : Pairs} (h : 0 < l.length) (h2 : l.length ≤ 64) : chk l = chkG l 0 := by rw [chk, if_neg (by omega), if_neg (by omega)]
theorem xgd' (a : Int) (w : World) : Calls Try.prog 34 #[.int .i64 a] w (fun e w' => e = .returned (.bool (dyB a)) ∧ w' = w) := (xgd a w).mono fun e w' h => ⟨h.1, h.2.symm⟩
theorem rgd' (a : Int) (w : World) : Calls Try.prog 35 #[.int .i64 a] w (fun e w' => e = .returned (.bool (dyB a)) ∧ w' = w) := (rgd a w).mono fun e w' h => ⟨h.1, h.2.symm⟩

set_option maxHeartbeats 4000000 in
set_option maxRecDepth 100000 in
theorem xcheck_row (l : Pairs) (b off cap : Nat) (w : World) (hl : PInts l) (h0 : 0 < l.length) (h64 : l.length ≤ 64) (hbw : b < w.heap.size) (hc : ∀ j, j < l.length → w.cell? ⟨b, off + j * 2, none⟩ = some (.int .i64 (l.at j).1) ∧ w.cell? ⟨b, off + j * 2 + 1, none⟩ = some (.int .i64 (l.at j).2)) :
    Calls Try.prog 16 #[.slice (some ⟨b, off, none⟩) l.length cap] w (ChkPost l w) := by
  have HC : Hid _ := hc
  have HL : Hid _ := hl
  have HS : Hid _ := chk_some h0 h64
  have hl0 : ((l.length : Int) == 0) = false := beq_eq_false_iff_ne.2 (by omega)
  clear hc hl
  go_enter Try.func16, Try.ntmps16
  go_wp2_with fail
  go_loopw [13] (fun i wr => ∃ (k : Nat), i = .int .i64 k ∧ k ≤ l.length ∧ Hid (chkG l 0 = chkG l k) ∧ Hid (Below w.heap.size w wr)) (fun i _ => l.length - (intOf i).toNat)
  case atStart => exact ⟨0, rfl, by omega, rfl, Below.refl _ _⟩
  case round =>
    obtain ⟨k, rfl, hk, hg, hb⟩ := hrel
    by_cases hlt : k < l.length
    · have f0 := (hb.out.cell (p := ⟨b, off + k * 2, none⟩) hbw).trans (HC.out k hlt).1
      have f1 := (hb.out.cell (p := ⟨b, off + k * 2 + 1, none⟩) hbw).trans (HC.out k hlt).2
      have b0 := (HL.out.1 k)
      have hday := chkG_day l k hlt
      have hrate := chkG_rate l k hlt
      have hnext := chkG_next l k hlt
      have Hday : Hid _ := hday
      have Hrate : Hid _ := hrate
      have Hnext : Hid _ := hnext
      clear hday hrate hnext
      have HT : Hid (rtdB (l.at k).2 = decide (Rtd (l.at k).2)) := rfl
      generalize (l.at k).1 = x at *
      generalize (l.at k).2 = y at *
      have W1 : Hid (Below w.heap.size w (wr.alloc (.cells #[.int .i64 x, .int .i64 y] 51))) := hb.out.alloc hb.out.size _
      have B1 : Hid (Blk (wr.alloc (.cells #[.int .i64 x, .int .i64 y] 51)) wr.heap.size 51 x y) := Blk.new _ _ _ _
      go_upto_region 8 with fail
      generalize wr.alloc (.cells #[.int .i64 x, .int .i64 y] 51) = w1 at *
      clear f0 f1
      have f0 := B1.out.c0
      have f1 := B1.out.c1
      by_cases hd : dyB x = false
      · have H : Hid (chk l = 10) := by
          show _ = _
          rw [HS.out, hg.out, Hday.out (Or.inl (dyB_f hd))]
        go_quiet ((go_at_call 34; refine Calls.quiet_of_same (xgd' _ _)))
        go_wp2
        go_ret
        exact ⟨ret_int H.out.symm, below_drewN W1.out⟩
      have hd : dyB x = true := by simpa using hd
      have HD : Hid _ := dyB_t hd
      by_cases hk0 : k = 0
      · subst hk0
        have HN : Hid (¬ (¬ (0 ≤ x ∧ x ≤ 200000) ∨ 0 < 0 ∧ x ≤ (l.at (0 - 1)).1)) := fun h => by
          rcases h with h | h
          · exact h HD.out
          · omega
        have HR1 : Hid (¬ Rtd y → chk l = 1) := fun h => by rw [HS.out, Hrate.out HN.out h]
        have HR2 : Hid (Rtd y → chkG l 0 = chkG l (0 + 1)) := Hnext.out HN.out
        clear HN Hrate Hnext Hday
        go_quiet ((go_at_call 34; refine Calls.quiet_of_same (xgd' _ _)))
        go_wp2_with fail
        refine (xgr y _).mono ?_
        rintro e w2 ⟨rfl, rfl⟩
        cases hr : rtdB y
        · have H : Hid _ := HR1.out (rtdB_f hr)
          clear hr
          go_wp2
          go_ret
          exact ⟨ret_int H.out.symm, below_drewN W1.out⟩
        · have H : Hid _ := HR2.out (rtdB_t hr)
          clear hr
          go_wp2
          exact ⟨⟨0 + 1, by go_num, by omega, H, below_drewN W1.out⟩, by simp [intOf]; omega⟩
      · obtain ⟨m, rfl⟩ : ∃ m, k = m + 1 := ⟨k - 1, by omega⟩
        have f2 := (W1.out.cell (p := ⟨b, off + m * 2, none⟩) hbw).trans (HC.out m (by omega)).1
        have b1 := (HL.out.1 m).1
        rw [Nat.add_sub_cancel] at Hday Hrate Hnext
        generalize (l.at m).1 = p at *
        by_cases hp : x ≤ p
        · have H : Hid (chk l = 10) := by
            show _ = _
            rw [HS.out, hg.out, Hday.out (Or.inr ⟨by omega, hp⟩)]
          go_quiet ((go_at_call 34; refine Calls.quiet_of_same (xgd' _ _)))
          go_wp2
          go_ret
          exact ⟨ret_int H.out.symm, below_drewN W1.out⟩
        · have HN : Hid (¬ (¬ (0 ≤ x ∧ x ≤ 200000) ∨ 0 < m + 1 ∧ x ≤ p)) := fun h => by
            rcases h with h | h
            · exact h HD.out
            · omega
          have HR1 : Hid (¬ Rtd y → chk l = 1) := fun h => by rw [HS.out, hg.out, Hrate.out HN.out h]
          have HR2 : Hid (Rtd y → chkG l 0 = chkG l (m + 1 + 1)) := fun h => by rw [hg.out, Hnext.out HN.out h]
          clear HN Hrate Hnext Hday
          have hpd : decide (x ≤ p) = false := decide_eq_false hp
          go_quiet ((go_at_call 34; refine Calls.quiet_of_same (xgd' _ _)))
          go_wp2_with fail
          refine (xgr y _).mono ?_
          rintro e w2 ⟨rfl, rfl⟩
          cases hr : rtdB y
          · have H : Hid _ := HR1.out (rtdB_f hr)
            clear hr
            go_wp2
            go_ret
            exact ⟨ret_int H.out.symm, below_drewN W1.out⟩
          · have H : Hid _ := HR2.out (rtdB_t hr)
            clear hr
            go_wp2
            exact ⟨⟨m + 1 + 1, by go_num, by omega, H, below_drewN W1.out⟩, by simp [intOf]; omega⟩
    · obtain rfl : k = l.length := by omega
      have H : Hid (chk l = 0) := by
        show _ = _
        rw [HS.out, hg.out, chkG_end l _ (by omega)]
      go_wp2
      go_ret
      exact ⟨ret_int H.out.symm, hb.out⟩

set_option maxRecDepth 100000 in
theorem xcheck (l : Pairs) (v : Value) (w : World) (hl : PInts l) (hv : PSeg w v l) : Calls Try.prog 16 #[v] w (ChkPost l w) := by
  obtain ⟨a, cap, rfl, h⟩ := hv
  have hlen := hl.2
  by_cases h0 : l.length = 0
  · have H : Hid _ := chk_empty h0
    have h0' : ((l.length : Int) == 0) = true := beq_iff_eq.2 (by omega)
    go_enter Try.func16, Try.ntmps16
    go_wp2
    go_ret
    exact ⟨ret_int H.out.symm, Below.refl _ _⟩
  by_cases h1 : 64 < l.length
  · have H : Hid _ := chk_many h1
    have h0' : ((l.length : Int) == 0) = false := beq_eq_false_iff_ne.2 (by omega)
    go_enter Try.func16, Try.ntmps16
    go_wp2
    go_ret
    exact ⟨ret_int H.out.symm, Below.refl _ _⟩
  · obtain ⟨b, off, rfl, hb, hc⟩ := h (fun e => h0 (by rw [e]; rfl))
    exact xcheck_row l b off cap w hl (by omega) (by omega) hb hc

set_option maxHeartbeats 4000000 in
set_option maxRecDepth 100000 in
theorem rcheck_row (l : Pairs) (b off cap : Nat) (w : World) (hl : PInts l) (h0 : 0 < l.length) (h64 : l.length ≤ 64) (hbw : b < w.heap.size) (hc : ∀ j, j < l.length → w.cell? ⟨b, off + j * 2, none⟩ = some (.int .i64 (l.at j).1) ∧ w.cell? ⟨b, off + j * 2 + 1, none⟩ = some (.int .i64 (l.at j).2)) :
    Calls Try.prog 17 #[.slice (some ⟨b, off, none⟩) l.length cap] w (ChkPost l w) := by
  have HC : Hid _ := hc
  have HL : Hid _ := hl
  have HS : Hid _ := chk_some h0 h64
  have hl0 : ((l.length : Int) == 0) = false := beq_eq_false_iff_ne.2 (by omega)
  clear hc hl
  go_enter Try.func17, Try.ntmps17
  go_wp2_with fail
  go_loopw [3] (fun i wr => ∃ (k : Nat), i = .int .i64 k ∧ k ≤ l.length ∧ Hid (chkG l 0 = chkG l k) ∧ Hid (Below w.heap.size w wr)) (fun i _ => l.length - (intOf i).toNat)
  case atStart => exact ⟨0, rfl, by omega, rfl, Below.refl _ _⟩
  case round =>
    obtain ⟨k, rfl, hk, hg, hb⟩ := hrel
    by_cases hlt : k < l.length
    · have f0 := (hb.out.cell (p := ⟨b, off + k * 2, none⟩) hbw).trans (HC.out k hlt).1
      have f1 := (hb.out.cell (p := ⟨b, off + k * 2 + 1, none⟩) hbw).trans (HC.out k hlt).2
      have b0 := (HL.out.1 k)
      have hday := chkG_day l k hlt
      have hrate := chkG_rate l k hlt
      have hnext := chkG_next l k hlt
      have Hday : Hid _ := hday
      have Hrate : Hid _ := hrate
      have Hnext : Hid _ := hnext
      clear hday hrate hnext
      generalize (l.at k).1 = x at *
      generalize (l.at k).2 = y at *
      go_upto_region 8 with fail
      by_cases hd : dyB x = false
      · have H : Hid (chk l = 10) := by
          show _ = _
          rw [HS.out, hg.out, Hday.out (Or.inl (dyB_f hd))]
        go_quiet ((go_at_call 35; refine Calls.quiet_of_same (rgd' _ _)))
        go_wp2
        go_ret
        exact ⟨ret_int H.out.symm, below_drewN hb.out⟩
      have hd : dyB x = true := by simpa using hd
      have HD : Hid _ := dyB_t hd
      by_cases hk0 : k = 0
      · subst hk0
        have f0' : wr.cell? ⟨b, off, none⟩ = some (.int .i64 x) := by simpa using f0
        have f1' : wr.cell? ⟨b, off + 1, none⟩ = some (.int .i64 y) := by simpa using f1
        have HN : Hid (¬ (¬ (0 ≤ x ∧ x ≤ 200000) ∨ 0 < 0 ∧ x ≤ (l.at (0 - 1)).1)) := fun h => by
          rcases h with h | h
          · exact h HD.out
          · omega
        have HR1 : Hid (¬ Rtd y → chk l = 1) := fun h => by rw [HS.out, Hrate.out HN.out h]
        have HR2 : Hid (Rtd y → chkG l 0 = chkG l (0 + 1)) := Hnext.out HN.out
        clear HN Hrate Hnext Hday
        go_quiet ((go_at_call 35; refine Calls.quiet_of_same (rgd' _ _)))
        go_wp2_with fail
        refine (rgr y _).mono ?_
        rintro e w2 ⟨rfl, rfl⟩
        cases hr : rtdB y
        · have H : Hid _ := HR1.out (rtdB_f hr)
          clear hr
          go_wp2
          go_ret
          exact ⟨ret_int H.out.symm, below_drewN hb.out⟩
        · have H : Hid _ := HR2.out (rtdB_t hr)
          clear hr
          go_wp2
          exact ⟨⟨0 + 1, by go_num, by omega, H, below_drewN hb.out⟩, by simp [intOf]; omega⟩
      · obtain ⟨m, rfl⟩ : ∃ m, k = m + 1 := ⟨k - 1, by omega⟩
        have f2 := (hb.out.cell (p := ⟨b, off + m * 2, none⟩) hbw).trans (HC.out m (by omega)).1
        have b1 := (HL.out.1 m).1
        rw [Nat.add_sub_cancel] at Hday Hrate Hnext
        generalize (l.at m).1 = p at *
        by_cases hp : x ≤ p
        · have H : Hid (chk l = 10) := by
            show _ = _
            rw [HS.out, hg.out, Hday.out (Or.inr ⟨by omega, hp⟩)]
          go_quiet ((go_at_call 35; refine Calls.quiet_of_same (rgd' _ _)))
          go_wp2
          go_ret
          exact ⟨ret_int H.out.symm, below_drewN hb.out⟩
        · have HN : Hid (¬ (¬ (0 ≤ x ∧ x ≤ 200000) ∨ 0 < m + 1 ∧ x ≤ p)) := fun h => by
            rcases h with h | h
            · exact h HD.out
            · omega
          have HR1 : Hid (¬ Rtd y → chk l = 1) := fun h => by rw [HS.out, hg.out, Hrate.out HN.out h]
          have HR2 : Hid (Rtd y → chkG l 0 = chkG l (m + 1 + 1)) := fun h => by rw [hg.out, Hnext.out HN.out h]
          clear HN Hrate Hnext Hday
          have hpd : decide (x ≤ p) = false := decide_eq_false hp
          go_quiet ((go_at_call 35; refine Calls.quiet_of_same (rgd' _ _)))
          go_wp2_with fail
          refine (rgr y _).mono ?_
          rintro e w2 ⟨rfl, rfl⟩
          cases hr : rtdB y
          · have H : Hid _ := HR1.out (rtdB_f hr)
            clear hr
            go_wp2
            go_ret
            exact ⟨ret_int H.out.symm, below_drewN hb.out⟩
          · have H : Hid _ := HR2.out (rtdB_t hr)
            clear hr
            go_wp2
            exact ⟨⟨m + 1 + 1, by go_num, by omega, H, below_drewN hb.out⟩, by simp [intOf]; omega⟩
    · obtain rfl : k = l.length := by omega
      have H : Hid (chk l = 0) := by
        show _ = _
        rw [HS.out, hg.out, chkG_end l _ (by omega)]
      go_wp2
      go_ret
      exact ⟨ret_int H.out.symm, hb.out⟩

set_option maxRecDepth 100000 in
theorem rcheck (l : Pairs) (v : Value) (w : World) (hl : PInts l) (hv : PSeg w v l) : Calls Try.prog 17 #[v] w (ChkPost l w) := by
  obtain ⟨a, cap, rfl, h⟩ := hv
  have hlen := hl.2
  by_cases h0 : l.length = 0
  · have H : Hid _ := chk_empty h0
    have h0' : ((l.length : Int) == 0) = true := beq_iff_eq.2 (by omega)
    go_enter Try.func17, Try.ntmps17
    go_wp2
    go_ret
    exact ⟨ret_int H.out.symm, Below.refl _ _⟩
  by_cases h1 : 64 < l.length
  · have H : Hid _ := chk_many h1
    have h0' : ((l.length : Int) == 0) = false := beq_eq_false_iff_ne.2 (by omega)
    go_enter Try.func17, Try.ntmps17
    go_wp2
    go_ret
    exact ⟨ret_int H.out.symm, Below.refl _ _⟩
  · obtain ⟨b, off, rfl, hb, hc⟩ := h (fun e => h0 (by rw [e]; rfl))
    exact rcheck_row l b off cap w hl (by omega) (by omega) hb hc
end Go.Proofs.Ytdkhpoepdimniaa
