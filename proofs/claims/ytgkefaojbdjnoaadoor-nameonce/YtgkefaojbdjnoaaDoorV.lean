/- The reference's wide. -/
import Derived.Test.YtgkefaojbdjnoaaDoorU
import Derived.WalkKit
import Derived.ProofKit
import Derived.Handy
import Derived.WalkLawsBesides
import Derived.WalkSpells
import Derived.BigQuiet
import Derived.BigCall
import Derived.Deep.QuietTactic
import Derived.Deep.Light
import Derived.Deep.OwnRows
import Derived.Laws.AppendOwnNone
import Derived.Laws.Strings3
import Derived.Laws.RangeAny
import Derived.Deep.RegionWith
import Derived.Lib.BitFns
import Derived.Lib.Walk
import Derived.Lib.Strings
import Derived.Lib.OthersKept
import Derived.Deep.CutBlock
import Derived.Deep.DeepCutAuto
import Derived.Deep.LoopGhost
import Derived.Deep.RegionHeld3
import Derived.Lib.SmallJoins
import Derived.Maps.AppendAt
import Derived.Laws.IdiomStrings
namespace Go.Proofs.YtgkefaojbdjnoaaDoor
open Go.RowKit
set_option linter.unusedVariables false
set_option linter.unusedSimpArgs false
def frm : List Nat := [4352, 11904, 44032, 63744, 65281, 127744]
def tos : List Nat := [4447, 42191, 55203, 64255, 65376, 128591]
theorem wd_two {c k : Nat} (hk : k < 6) (h1 : frm.getD k 0 ≤ c) (h2 : c ≤ tos.getD k 0) : wd c = 2 := by
  have : k = 0 ∨ k = 1 ∨ k = 2 ∨ k = 3 ∨ k = 4 ∨ k = 5 := by omega
  rcases this with rfl | rfl | rfl | rfl | rfl | rfl
  all_goals
    simp only [frm, tos, List.getD_cons_zero, List.getD_cons_succ] at h1 h2
    unfold wd
    rw [if_neg (by omega), if_pos (by omega)]
theorem wd_one {c : Nat} (h0 : ¬ (c < 32 ∨ 127 ≤ c ∧ c ≤ 159 ∨ 768 ≤ c ∧ c ≤ 879)) (h : ∀ j, j < 6 → ¬ (frm.getD j 0 ≤ c ∧ c ≤ tos.getD j 0)) : wd c = 1 := by
  have e0 := h 0 (by omega); have e1 := h 1 (by omega); have e2 := h 2 (by omega); have e3 := h 3 (by omega); have e4 := h 4 (by omega); have e5 := h 5 (by omega)
  simp only [frm, tos, List.getD_cons_zero, List.getD_cons_succ] at e0 e1 e2 e3 e4 e5
  unfold wd
  rw [if_neg h0, if_neg (by omega)]
def AFrm : Array Value := #[.int .i64 4352, .int .i64 11904, .int .i64 44032, .int .i64 63744, .int .i64 65281, .int .i64 127744]
def ATos : Array Value := #[.int .i64 4447, .int .i64 42191, .int .i64 55203, .int .i64 64255, .int .i64 65376, .int .i64 128591]
theorem frm_cell {k : Nat} (hk : k < 6) : AFrm[k]? = some (.int .i64 ((frm.getD k 0 : Nat) : Int)) := by
  have : k = 0 ∨ k = 1 ∨ k = 2 ∨ k = 3 ∨ k = 4 ∨ k = 5 := by omega
  rcases this with rfl | rfl | rfl | rfl | rfl | rfl
  all_goals rfl
theorem tos_cell {k : Nat} (hk : k < 6) : ATos[k]? = some (.int .i64 ((tos.getD k 0 : Nat) : Int)) := by
  have : k = 0 ∨ k = 1 ∨ k = 2 ∨ k = 3 ∨ k = 4 ∨ k = 5 := by omega
  rcases this with rfl | rfl | rfl | rfl | rfl | rfl
  all_goals rfl
theorem frm_at (w : World) (o : Obj) {k : Nat} (hk : k < 6) : ((w.alloc (.cells AFrm 3)).alloc o).cell? ⟨w.heap.size, k, none⟩ = some (.int .i64 ((frm.getD k 0 : Nat) : Int)) := by
  have h1 : ((w.alloc (.cells AFrm 3)).alloc o).heap[w.heap.size]? = some (.cells AFrm 3 (0, 0)) := (Lib.alloc_old _ _ _ (by simp)).trans (heap_alloc_new w _)
  simp only [World.cell?, h1, frm_cell hk]
  rfl
theorem tos_at (w : World) {k : Nat} (hk : k < 6) : (w.alloc (.cells ATos 3)).cell? ⟨w.heap.size, k, none⟩ = some (.int .i64 ((tos.getD k 0 : Nat) : Int)) := by
  have h1 : (w.alloc (.cells ATos 3)).heap[w.heap.size]? = some (.cells ATos 3 (0, 0)) := heap_alloc_new w _
  simp only [World.cell?, h1, tos_cell hk]
  rfl
set_option maxHeartbeats 8000000 in
theorem rwide (c : Nat) (hc : c < 1114112) (w : World) : Calls Tryd.prog 36 #[.int .i64 c] w (NB (wd c) w) := by
  by_cases h0 : c < 32 ∨ 127 ≤ c ∧ c ≤ 159 ∨ 768 ≤ c ∧ c ≤ 879
  · have H : Hid (wd c = 0) := by unfold Hid wd; rw [if_pos h0]
    rcases h0 with h0 | ⟨h0, h1⟩ | ⟨h0, h1⟩
    · have q1 : (c : Int) < 32 := by omega
      go_enter Tryd.func36, Tryd.ntmps36
      go_wp2_with fail
      go_ret
      exact NB.mk (by rw [H.out]; rfl) (Below.refl _ _)
    · have q1 : ¬ (c : Int) < 32 := by omega
      have q2 : (127 : Int) ≤ c := by omega
      have q3 : (c : Int) ≤ 159 := by omega
      go_enter Tryd.func36, Tryd.ntmps36
      go_wp2_with fail
      go_ret
      exact NB.mk (by rw [H.out]; rfl) (Below.refl _ _)
    · have q1 : ¬ (c : Int) < 32 := by omega
      have q2 : (127 : Int) ≤ c := by omega
      have q3 : ¬ (c : Int) ≤ 159 := by omega
      have q4 : (768 : Int) ≤ c := by omega
      have q5 : (c : Int) ≤ 879 := by omega
      go_enter Tryd.func36, Tryd.ntmps36
      go_wp2_with fail
      go_ret
      exact NB.mk (by rw [H.out]; rfl) (Below.refl _ _)
  have H1 : Hid (∀ k, k < 6 → frm.getD k 0 ≤ c → c ≤ tos.getD k 0 → wd c = 2) := fun k hk h1 h2 => wd_two hk h1 h2
  have H2 : Hid ((∀ j, j < 6 → ¬ (frm.getD j 0 ≤ c ∧ c ≤ tos.getD j 0)) → wd c = 1) := wd_one h0
  have hF : Hid (∀ k : Nat, k < 6 → ((w.alloc (.cells AFrm 3)).alloc (.cells ATos 3)).cell? ⟨w.heap.size, k, none⟩ = some (.int .i64 ((frm.getD k 0 : Nat) : Int))) := fun k hk => frm_at w _ hk
  have hT : Hid (∀ k : Nat, k < 6 → ((w.alloc (.cells AFrm 3)).alloc (.cells ATos 3)).cell? ⟨w.heap.size + 1, k, none⟩ = some (.int .i64 ((tos.getD k 0 : Nat) : Int))) := fun k hk => by
    have := tos_at (w.alloc (.cells AFrm 3)) hk
    rw [show (w.alloc (.cells AFrm 3)).heap.size = w.heap.size + 1 by simp] at this
    exact this
  have hB : Hid (Below w.heap.size w ((w.alloc (.cells AFrm 3)).alloc (.cells ATos 3))) := ((Below.refl _ w).alloc (Nat.le_refl _) _).alloc (by simp) _
  have hcase : (32 ≤ c ∧ c < 127) ∨ (160 ≤ c ∧ c < 768) ∨ 880 ≤ c := by omega
  clear h0
  rcases hcase with ⟨k1, k2⟩ | ⟨k1, k2⟩ | k1
  · have q1 : ¬ (c : Int) < 32 := by omega
    have q2 : ¬ (127 : Int) ≤ c := by omega
    have q3 : ¬ (768 : Int) ≤ c := by omega
    go_enter Tryd.func36, Tryd.ntmps36
    go_wp2_with fail
    show Code.wp _ _ _ _ ((w.alloc (.cells AFrm 3)).alloc (.cells ATos 3))
    generalize (w.alloc (.cells AFrm 3)).alloc (.cells ATos 3) = w2 at *
    go_loop [5] (fun i => ∃ k : Nat, i = .int .i64 k ∧ k ≤ 6 ∧ Hid (∀ j, j < k → ¬ (frm.getD j 0 ≤ c ∧ c ≤ tos.getD j 0))) (fun i => 6 - (Lib.intOf i).toNat)
    case atStart => exact ⟨0, rfl, by omega, fun j hj => absurd hj (by omega)⟩
    case round =>
      obtain ⟨k, rfl, hk, hno⟩ := hrel
      by_cases hk6 : k < 6
      · have hkz : (k : Int) < 6 := by omega
        have hf := hF.out k hk6
        have ht := hT.out k hk6
        have h2 : Hid _ := H1.out k hk6
        have hstep : Hid (¬ (frm.getD k 0 ≤ c ∧ c ≤ tos.getD k 0) → ∀ j, j < k + 1 → ¬ (frm.getD j 0 ≤ c ∧ c ≤ tos.getD j 0)) := by
          intro hn j hj
          by_cases hjk : j = k
          · subst hjk; exact hn
          · exact hno.out j (by omega)
        generalize frm.getD k 0 = f at *
        generalize tos.getD k 0 = t at *
        by_cases hit : f ≤ c ∧ c ≤ t
        · have H : Hid (wd c = 2) := h2.out hit.1 hit.2
          obtain ⟨hi1, hi2⟩ := hit
          have hi1' : (f : Int) ≤ c := by omega
          have hi2' : (c : Int) ≤ t := by omega
          clear hi1 hi2
          go_wp2_with fail
          go_ret
          exact NB.mk (by rw [H.out]; rfl) hB.out
        · have HS : Hid _ := hstep.out hit
          clear hstep
          by_cases hi1 : f ≤ c
          · have hi1' : (f : Int) ≤ c := by omega
            have hi2' : ¬ (c : Int) ≤ t := by omega
            clear hit hi1
            go_wp2_with fail
            exact ⟨⟨k + 1, by go_num, by omega, HS⟩, by simp [Lib.intOf]; omega⟩
          · have hi1' : ¬ (f : Int) ≤ c := by omega
            clear hit hi1
            go_wp2_with fail
            exact ⟨⟨k + 1, by go_num, by omega, HS⟩, by simp [Lib.intOf]; omega⟩
      · have hkz : ¬ (k : Int) < 6 := by omega
        have : k = 6 := by omega
        subst this
        go_wp2_with fail
        go_ret
        exact NB.mk (by rw [H2.out hno.out]; rfl) hB.out
  · have q1 : ¬ (c : Int) < 32 := by omega
    have q2 : (127 : Int) ≤ c := by omega
    have q3 : ¬ (c : Int) ≤ 159 := by omega
    have q4 : ¬ (768 : Int) ≤ c := by omega
    go_enter Tryd.func36, Tryd.ntmps36
    go_wp2_with fail
    show Code.wp _ _ _ _ ((w.alloc (.cells AFrm 3)).alloc (.cells ATos 3))
    generalize (w.alloc (.cells AFrm 3)).alloc (.cells ATos 3) = w2 at *
    go_loop [5] (fun i => ∃ k : Nat, i = .int .i64 k ∧ k ≤ 6 ∧ Hid (∀ j, j < k → ¬ (frm.getD j 0 ≤ c ∧ c ≤ tos.getD j 0))) (fun i => 6 - (Lib.intOf i).toNat)
    case atStart => exact ⟨0, rfl, by omega, fun j hj => absurd hj (by omega)⟩
    case round =>
      obtain ⟨k, rfl, hk, hno⟩ := hrel
      by_cases hk6 : k < 6
      · have hkz : (k : Int) < 6 := by omega
        have hf := hF.out k hk6
        have ht := hT.out k hk6
        have h2 : Hid _ := H1.out k hk6
        have hstep : Hid (¬ (frm.getD k 0 ≤ c ∧ c ≤ tos.getD k 0) → ∀ j, j < k + 1 → ¬ (frm.getD j 0 ≤ c ∧ c ≤ tos.getD j 0)) := by
          intro hn j hj
          by_cases hjk : j = k
          · subst hjk; exact hn
          · exact hno.out j (by omega)
        generalize frm.getD k 0 = f at *
        generalize tos.getD k 0 = t at *
        by_cases hit : f ≤ c ∧ c ≤ t
        · have H : Hid (wd c = 2) := h2.out hit.1 hit.2
          obtain ⟨hi1, hi2⟩ := hit
          have hi1' : (f : Int) ≤ c := by omega
          have hi2' : (c : Int) ≤ t := by omega
          clear hi1 hi2
          go_wp2_with fail
          go_ret
          exact NB.mk (by rw [H.out]; rfl) hB.out
        · have HS : Hid _ := hstep.out hit
          clear hstep
          by_cases hi1 : f ≤ c
          · have hi1' : (f : Int) ≤ c := by omega
            have hi2' : ¬ (c : Int) ≤ t := by omega
            clear hit hi1
            go_wp2_with fail
            exact ⟨⟨k + 1, by go_num, by omega, HS⟩, by simp [Lib.intOf]; omega⟩
          · have hi1' : ¬ (f : Int) ≤ c := by omega
            clear hit hi1
            go_wp2_with fail
            exact ⟨⟨k + 1, by go_num, by omega, HS⟩, by simp [Lib.intOf]; omega⟩
      · have hkz : ¬ (k : Int) < 6 := by omega
        have : k = 6 := by omega
        subst this
        go_wp2_with fail
        go_ret
        exact NB.mk (by rw [H2.out hno.out]; rfl) hB.out
  · have q1 : ¬ (c : Int) < 32 := by omega
    have q2 : (127 : Int) ≤ c := by omega
    have q3 : ¬ (c : Int) ≤ 159 := by omega
    have q4 : (768 : Int) ≤ c := by omega
    have q5 : ¬ (c : Int) ≤ 879 := by omega
    go_enter Tryd.func36, Tryd.ntmps36
    go_wp2_with fail
    show Code.wp _ _ _ _ ((w.alloc (.cells AFrm 3)).alloc (.cells ATos 3))
    generalize (w.alloc (.cells AFrm 3)).alloc (.cells ATos 3) = w2 at *
    go_loop [5] (fun i => ∃ k : Nat, i = .int .i64 k ∧ k ≤ 6 ∧ Hid (∀ j, j < k → ¬ (frm.getD j 0 ≤ c ∧ c ≤ tos.getD j 0))) (fun i => 6 - (Lib.intOf i).toNat)
    case atStart => exact ⟨0, rfl, by omega, fun j hj => absurd hj (by omega)⟩
    case round =>
      obtain ⟨k, rfl, hk, hno⟩ := hrel
      by_cases hk6 : k < 6
      · have hkz : (k : Int) < 6 := by omega
        have hf := hF.out k hk6
        have ht := hT.out k hk6
        have h2 : Hid _ := H1.out k hk6
        have hstep : Hid (¬ (frm.getD k 0 ≤ c ∧ c ≤ tos.getD k 0) → ∀ j, j < k + 1 → ¬ (frm.getD j 0 ≤ c ∧ c ≤ tos.getD j 0)) := by
          intro hn j hj
          by_cases hjk : j = k
          · subst hjk; exact hn
          · exact hno.out j (by omega)
        generalize frm.getD k 0 = f at *
        generalize tos.getD k 0 = t at *
        by_cases hit : f ≤ c ∧ c ≤ t
        · have H : Hid (wd c = 2) := h2.out hit.1 hit.2
          obtain ⟨hi1, hi2⟩ := hit
          have hi1' : (f : Int) ≤ c := by omega
          have hi2' : (c : Int) ≤ t := by omega
          clear hi1 hi2
          go_wp2_with fail
          go_ret
          exact NB.mk (by rw [H.out]; rfl) hB.out
        · have HS : Hid _ := hstep.out hit
          clear hstep
          by_cases hi1 : f ≤ c
          · have hi1' : (f : Int) ≤ c := by omega
            have hi2' : ¬ (c : Int) ≤ t := by omega
            clear hit hi1
            go_wp2_with fail
            exact ⟨⟨k + 1, by go_num, by omega, HS⟩, by simp [Lib.intOf]; omega⟩
          · have hi1' : ¬ (f : Int) ≤ c := by omega
            clear hit hi1
            go_wp2_with fail
            exact ⟨⟨k + 1, by go_num, by omega, HS⟩, by simp [Lib.intOf]; omega⟩
      · have hkz : ¬ (k : Int) < 6 := by omega
        have : k = 6 := by omega
        subst this
        go_wp2_with fail
        go_ret
        exact NB.mk (by rw [H2.out hno.out]; rfl) hB.out
end Go.Proofs.YtgkefaojbdjnoaaDoor
