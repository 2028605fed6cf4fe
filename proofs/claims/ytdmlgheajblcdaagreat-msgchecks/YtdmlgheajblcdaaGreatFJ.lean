/- The walk of Check. -/
import Derived.Test.YtdmlgheajblcdaaGreatFI
import Derived.WalkKit
import Derived.ProofKit
import Derived.Handy
import Derived.WalkLawsBesides
import Derived.WalkSpells
import Derived.BigQuiet
import Derived.BigCall
import Derived.Deep.QuietTactic
import Derived.Deep.Light
import Derived.Deep.OwnRows
import Derived.Laws.AppendOwnNone
import Derived.Laws.Strings3
import Derived.Laws.RangeAny
import Derived.Deep.RegionWith
import Derived.Lib.BitFns
import Derived.Lib.Walk
import Derived.Lib.Strings
import Derived.Lib.OthersKept
import Derived.Deep.CutBlock
import Derived.Deep.DeepCutAuto
import Derived.Deep.LoopGhost
import Derived.Deep.RegionHeld3
import Derived.Lib.SmallJoins
import Derived.Maps.AppendAt
import Derived.Laws.IdiomStrings
import Derived.Lib.AppendZeros
import Derived.Deep.WholeRow
import Derived.Laws.BitsAllLaws
import Derived.Lib.ConvBytes
import Derived.Deep.RegionLaw
import Derived.Lib.IndexBytes
namespace Go.Proofs.YtdmlgheajblcdaaGreat.N4
open Go.RowKit
set_option linter.unusedVariables false
set_option linter.unusedSimpArgs false
theorem bad_may {k a c : Nat} (h0 : k = 0 → a = 0) : Bad k a c ↔ (k = 0 ∧ ¬ Let c) ∨ ¬ May a c := by
  by_cases hk : k = 0
  · have := h0 hk
    subst hk this
    by_cases h : c = 32
    · subst h; exact ⟨fun _ => .inl ⟨rfl, by decide⟩, fun _ => .inl ⟨by decide, .inl rfl⟩⟩
    · by_cases h1 : Let c
      · simp only [Bad, May]
        constructor
        · rintro (⟨h2, _⟩ | ⟨h2, _⟩)
          · exact absurd h1 h2
          · omega
        · rintro (⟨_, h2⟩ | h2)
          · exact absurd h1 h2
          · exact absurd (Or.inr ⟨h, Or.inl h1⟩) h2
      · exact ⟨fun _ => .inl ⟨rfl, h1⟩, fun _ => .inl ⟨h1, .inl rfl⟩⟩
  · by_cases h : c = 32
    · subst h
      constructor
      · rintro (⟨h1, h2 | h2⟩ | ⟨_, _, h1, h2, h3⟩)
        · exact absurd h2 hk
        · exact absurd (.inl rfl) h2.2
        · refine .inr ?_
          rintro (⟨_, h4 | h4 | h4⟩ | ⟨h4, _⟩)
          · exact h2 h4
          · exact h3 h4
          · exact h4 h1
          · exact h4 rfl
      · rintro (⟨h1, _⟩ | h1)
        · exact absurd h1 hk
        · refine .inr ⟨by omega, rfl, ?_, fun h2 => h1 (.inl ⟨rfl, .inl h2⟩), fun h2 => h1 (.inl ⟨rfl, .inr (.inl h2)⟩)⟩
          by_cases h2 : Jnt a
          · exact h2
          · exact absurd (.inl ⟨rfl, .inr (.inr h2)⟩) h1
    · constructor
      · rintro (⟨h1, h2 | ⟨h2, h3⟩⟩ | ⟨_, h1, _⟩)
        · exact absurd h2 hk
        · refine .inr ?_
          rintro (⟨h4, _⟩ | ⟨_, h4 | h4 | h4⟩)
          · exact h h4
          · exact h1 h4
          · exact h2 h4
          · exact h3 h4
        · exact absurd h1 h
      · rintro (⟨h1, _⟩ | h1)
        · exact absurd h1 hk
        · exact .inl ⟨fun h2 => h1 (.inr ⟨h, .inl h2⟩), .inr ⟨fun h2 => h1 (.inr ⟨h, .inr (.inl h2)⟩), fun h2 => h1 (.inr ⟨h, .inr (.inr h2)⟩)⟩⟩

def chk (l : List UInt8) : Nat × Nat := if 160 < l.length then (0, 2) else chkG l.length (sg l 0) 0 0
set_option maxHeartbeats 4000000 in
theorem xcheck (s : ByteArray) (hs : s.size ≤ 9223372036854775807) (w : World) : Calls Tryz.prog 167 #[.string s] w (TB (chk s.data.toList) w) := by
  have HL : Hid (s.data.toList.length = s.size) := rfl
  by_cases hz : 160 < s.size
  · have hz' : 160 < (s.size : Int) := by omega
    have H : Hid (chk s.data.toList = (0, 2)) := by
      unfold Hid chk
      rw [if_pos (by rw [HL.out]; exact hz)]
    clear hz
    go_enter Tryz.func167, Tryz.ntmps167
    go_wp2
    go_ret2
    exact TB.mk (by rw [H.out]; rfl) (by rw [H.out]; rfl) (Below.refl _ _)
  have hz' : ¬ 160 < (s.size : Int) := by omega
  have H : Hid (chk s.data.toList = chkG s.data.toList.length (sg s.data.toList 0) 0 0) := by
    unfold Hid chk
    rw [if_neg (by rw [HL.out]; exact hz)]
  clear hz
  go_enter Tryz.func167, Tryz.ntmps167
  go_wp2
  go_loopw [4, 5] (fun n v w' => ∃ (pos k a : Nat), w' = w.iter s pos ∧ n = .int .i64 k ∧ v = .int .i32 a ∧ Hid (chkG s.data.toList.length (sg s.data.toList pos) k a = chk s.data.toList) ∧ k ≤ 40 ∧ a < 1114112 ∧ (k = 0 → a = 0)) (fun _ _ w' => s.size - w'.iterPos w.heap.size)
  case atStart => exact ⟨0, 0, 0, rfl, rfl, rfl, H.out.symm, by omega, by omega, fun _ => rfl⟩
  case round =>
    obtain ⟨pos, k, a, rfl, rfl, rfl, hc, hk, ha, hka⟩ := hrel
    have HKA : Hid (k = 0 → a = 0) := hka
    clear hka
    by_cases hp : pos < s.size
    · have hnx : ∀ ty, (Instr.next (.pointer (some ⟨w.heap.size, 0, none⟩)) true ty).run Tryz.prog (w.iter s pos) = _ := fun ty => next_D w s pos ty hp
      have hwd := D_pos s.data.toList pos
      have hv := (D_V s.data.toList pos).le
      have Hst : Hid (sg s.data.toList pos = (pos, (D s.data.toList pos).1, (D s.data.toList pos).2.2) :: sg s.data.toList (pos + (D s.data.toList pos).2.1)) := sg_step (by rw [HL.out]; exact hp)
      generalize (D s.data.toList pos).2.1 = wdt at *
      generalize (D s.data.toList pos).1 = c at *
      by_cases hk40 : k = 40
      · subst hk40
        go_wp2
        go_ret2
        have h1 := hc.out
        rw [Hst.out, chkG, if_pos rfl] at h1
        exact TB.mk (by rw [← h1]) (by rw [← h1]; rfl) (below_iter w s _)
      have g40 : ((k : Int) == 40) = false := beq_eq_false_iff_ne.2 (by omega)
      have HK : Hid (¬ k = 40) := hk40
      clear hk40
      by_cases hbad : Bad k a c
      · have HB : Hid (Bad k a c) := hbad
        have HM := (bad_may HKA.out).1 hbad
        clear hbad
        have hfin : Hid (chk s.data.toList = (pos, 11)) := by
          have h1 := hc.out
          rw [Hst.out, chkG, if_neg HK.out, if_pos HB.out] at h1
          exact h1.symm
        by_cases hk0 : k = 0
        · subst hk0
          by_cases hle : Let c
          · have HLe : Hid (Let c) := hle
            have HMy : Hid (¬ May a c) := HM.elim (fun h => absurd hle h.2) id
            clear hle HM
            go_wp2_with (first | (go_at_call 168; refine (calls_t (xletter c hv _) HLe.out).mono ?_; rintro e w1 ⟨rfl, rfl⟩) | (go_at_call 169; refine (calls_f (xmay a c ha hv _) HMy.out).mono ?_; rintro e w1 ⟨rfl, rfl⟩))
            go_ret2
            exact TB.mk (by rw [hfin.out]) (by rw [hfin.out]; rfl) (below_iter w s _)
          · have HLe : Hid (¬ Let c) := hle
            clear hle HM
            go_wp2_with (go_at_call 168; refine (calls_f (xletter c hv _) HLe.out).mono ?_; rintro e w1 ⟨rfl, rfl⟩)
            go_ret2
            exact TB.mk (by rw [hfin.out]) (by rw [hfin.out]; rfl) (below_iter w s _)
        · have g0 : ((k : Int) == 0) = false := beq_eq_false_iff_ne.2 (by omega)
          have HMy : Hid (¬ May a c) := HM.elim (fun h => absurd h.1 hk0) id
          clear hk0 HM
          go_wp2_with (go_at_call 169; refine (calls_f (xmay a c ha hv _) HMy.out).mono ?_; rintro e w1 ⟨rfl, rfl⟩)
          go_ret2
          exact TB.mk (by rw [hfin.out]) (by rw [hfin.out]; rfl) (below_iter w s _)
      · have HB : Hid (¬ Bad k a c) := hbad
        have HM := fun h => hbad ((bad_may HKA.out).2 h)
        have HMy : Hid (May a c) := by
          by_cases h : May a c
          · exact h
          · exact absurd (.inr h) HM
        by_cases hk0 : k = 0
        · have HLe : Hid (Let c) := by
            by_cases h : Let c
            · exact h
            · exact absurd (.inl ⟨hk0, h⟩) HM
          clear hbad HM
          subst hk0
          go_wp2_with (first | (go_at_call 168; refine (calls_t (xletter c hv _) HLe.out).mono ?_; rintro e w1 ⟨rfl, rfl⟩) | (go_at_call 169; refine (calls_t (xmay a c ha hv _) HMy.out).mono ?_; rintro e w1 ⟨rfl, rfl⟩))
          go_roundw
          case rel =>
            refine ⟨pos + wdt, 1, c, rfl, by go_num, rfl, ?_, by omega, hv, by omega⟩
            have h1 := hc.out
            rw [Hst.out, chkG, if_neg HK.out, if_neg HB.out] at h1
            exact h1
          case measure =>
            simp
            omega
        · have g0 : ((k : Int) == 0) = false := beq_eq_false_iff_ne.2 (by omega)
          have hk2 : k < 40 := by have := HK.out; omega
          clear hk0 hbad HM
          go_wp2_with (go_at_call 169; refine (calls_t (xmay a c ha hv _) HMy.out).mono ?_; rintro e w1 ⟨rfl, rfl⟩)
          go_roundw
          case rel =>
            refine ⟨pos + wdt, k + 1, c, rfl, by go_num, rfl, ?_, by omega, hv, by omega⟩
            have h1 := hc.out
            rw [Hst.out, chkG, if_neg HK.out, if_neg HB.out] at h1
            exact h1
          case measure =>
            simp
            omega
    · have hnx : ∀ ty, (Instr.next (.pointer (some ⟨w.heap.size, 0, none⟩)) true ty).run Tryz.prog (w.iter s pos) = _ := fun ty => run_next_end w s pos ty hp
      have h1 := hc.out
      rw [sg_end (by rw [HL.out]; omega), chkG] at h1
      have hfin : Hid (chk s.data.toList = (s.size, if k = 0 ∨ a = 32 then 11 else 0)) := h1.symm
      clear h1
      by_cases hk0 : k = 0
      · subst hk0
        go_wp2
        go_ret2
        exact TB.mk (by rw [hfin.out]) (by rw [hfin.out, if_pos (by simp)]; rfl) (below_iter w s _)
      have g0 : ((k : Int) == 0) = false := beq_eq_false_iff_ne.2 (by omega)
      by_cases ha0 : a = 32
      · subst ha0
        go_wp2
        go_ret2
        exact TB.mk (by rw [hfin.out]) (by rw [hfin.out, if_pos (by simp)]; rfl) (below_iter w s _)
      have g1 : ((a : Int) == 32) = false := beq_eq_false_iff_ne.2 (by omega)
      have HN : Hid (¬ (k = 0 ∨ a = 32)) := by rintro (h | h); exact hk0 h; exact ha0 h
      clear hk0 ha0
      go_wp2
      go_ret2
      exact TB.mk (by rw [hfin.out]) (by rw [hfin.out, if_neg HN.out]; rfl) (below_iter w s _)
end Go.Proofs.YtdmlgheajblcdaaGreat.N4
