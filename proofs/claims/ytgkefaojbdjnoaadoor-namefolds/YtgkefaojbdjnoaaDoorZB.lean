/- The reference's plain. -/
import Derived.Test.YtgkefaojbdjnoaaDoorZA
import Derived.WalkKit
import Derived.ProofKit
import Derived.Handy
import Derived.WalkLawsBesides
import Derived.WalkSpells
import Derived.BigQuiet
import Derived.BigCall
import Derived.Deep.QuietTactic
import Derived.Deep.Light
import Derived.Deep.OwnRows
import Derived.Laws.AppendOwnNone
import Derived.Laws.Strings3
import Derived.Laws.RangeAny
import Derived.Deep.RegionWith
import Derived.Lib.BitFns
import Derived.Lib.Walk
import Derived.Lib.Strings
import Derived.Lib.OthersKept
import Derived.Deep.CutBlock
import Derived.Deep.DeepCutAuto
import Derived.Deep.LoopGhost
import Derived.Deep.RegionHeld3
import Derived.Lib.SmallJoins
import Derived.Maps.AppendAt
import Derived.Laws.IdiomStrings
namespace Go.Proofs.YtgkefaojbdjnoaaDoor
open Go.RowKit
set_option linter.unusedVariables false
set_option linter.unusedSimpArgs false
theorem str_one (w : World) (y : UInt8) : (convert 50 9 (Value.slice (some ⟨w.heap.size, 0, none⟩) 1 1)).run Tryd.prog (w.alloc (.cells #[.int .u8 (y.toNat : Int)] 5)) = .ok (.string ⟨#[y]⟩) (w.alloc (.cells #[.int .u8 (y.toNat : Int)] 5)) := str_new w [y] 1
theorem rws_get {i : Nat} (h : i < 32) : [rws.getD i 0] = [(⟨rws.toArray⟩ : ByteArray)[i]'h] := by
  rw [List.getD_eq_getElem?_getD, List.getElem?_eq_getElem (show i < rws.length from h)]
  rfl
theorem mor_get {i : Nat} (h : i < 128) : [mor.getD i 0] = [(⟨mor.toArray⟩ : ByteArray)[i]'h] := by
  rw [List.getD_eq_getElem?_getD, List.getElem?_eq_getElem (show i < mor.length from h)]
  rfl
set_option maxHeartbeats 8000000 in
theorem rplain1 (c : Nat) (hc : c < 1114112) (w : World) : Calls Tryd.prog 49 #[.int .i64 c] w (STB (pll c) w) := by
  have H1 : Hid (∀ k, k < 9 → prs.getD k 0 = c → pll c = txs.getD k []) := fun k hk h => pll_hit hk h
  have H2 : Hid ((∀ j, j < 9 → prs.getD j 0 ≠ c) → pll c = tbl c) := pll_miss
  have hF : Hid (∀ k : Nat, k < 9 → ((w.alloc (.cells APrs 3)).alloc (.cells ATxs 9)).cell? ⟨w.heap.size, k, none⟩ = some (.int .i64 ((prs.getD k 0 : Nat) : Int))) := fun k hk => prs_at w _ hk
  have hT : Hid (∀ k : Nat, k < 9 → ((w.alloc (.cells APrs 3)).alloc (.cells ATxs 9)).cell? ⟨w.heap.size + 1, k, none⟩ = some (.string ⟨(txs.getD k []).toArray⟩)) := fun k hk => by
    have := txs_at (w.alloc (.cells APrs 3)) hk
    rw [show (w.alloc (.cells APrs 3)).heap.size = w.heap.size + 1 by simp] at this
    exact this
  have hB : Hid (Below w.heap.size w ((w.alloc (.cells APrs 3)).alloc (.cells ATxs 9))) := ((Below.refl _ w).alloc (Nat.le_refl _) _).alloc (by simp) _
  go_enter Tryd.func49, Tryd.ntmps49
  go_wp2_with fail
  show Code.wp _ _ _ _ ((w.alloc (.cells APrs 3)).alloc (.cells ATxs 9))
  generalize (w.alloc (.cells APrs 3)).alloc (.cells ATxs 9) = w2 at *
  go_loop [5] (fun i => ∃ k : Nat, i = .int .i64 k ∧ k ≤ 9 ∧ Hid (∀ j, j < k → prs.getD j 0 ≠ c)) (fun i => 9 - (Lib.intOf i).toNat)
  case atStart => exact ⟨0, rfl, by omega, fun j hj => absurd hj (by omega)⟩
  case round =>
    obtain ⟨k, rfl, hk, hno⟩ := hrel
    by_cases hk6 : k < 9
    · have hkz : (k : Int) < 9 := by omega
      have hf := hF.out k hk6
      have ht := hT.out k hk6
      have h2 : Hid _ := H1.out k hk6
      have hstep : Hid (¬ prs.getD k 0 = c → ∀ j, j < k + 1 → prs.getD j 0 ≠ c) := by
        intro hn j hj
        by_cases hjk : j = k
        · subst hjk; exact hn
        · exact hno.out j (by omega)
      generalize prs.getD k 0 = f at *
      obtain ⟨t, ht2⟩ : ∃ t, txs.getD k [] = t := ⟨_, rfl⟩
      rw [ht2] at ht h2
      clear ht2
      by_cases hit : f = c
      · have H : Hid (pll c = t) := h2.out hit
        subst hit
        have g : ((f : Int) == (f : Int)) = true := beq_iff_eq.2 rfl
        go_wp2_with fail
        go_ret
        exact STB.mk (s := ⟨t.toArray⟩) (by rw [H.out]) hB.out
      · have HS : Hid _ := hstep.out hit
        have g : ((f : Int) == (c : Int)) = false := beq_eq_false_iff_ne.2 (by omega)
        clear hstep hit
        go_wp2_with fail
        exact ⟨⟨k + 1, by go_num, by omega, HS⟩, by simp [Lib.intOf]; omega⟩
    · have hkz : ¬ (k : Int) < 9 := by omega
      have : k = 9 := by omega
      subst this
      have H : Hid (pll c = tbl c) := H2.out hno.out
      by_cases h224 : 224 ≤ c ∧ c ≤ 255
      · obtain ⟨k1, k2⟩ := h224
        have k1' : (224 : Int) ≤ c := by omega
        have k2' : (c : Int) ≤ 255 := by omega
        have hcv := str_one w2
        have HT : Hid (tbl c = [(⟨rws.toArray⟩ : ByteArray)[c - 224]'(by show c - 224 < 32; omega)]) := by
          unfold Hid tbl
          rw [if_pos ⟨k1, k2⟩]
          exact rws_get (by omega)
        have hB3 : Hid (∀ o, Below w.heap.size w (w2.alloc o)) := fun o => hB.out.alloc hB.out.size o
        go_wp2_with fail
        go_ret
        refine STB.mk ?_ (hB3.out _)
        rw [H.out, HT.out]
        rfl
      by_cases h256 : 256 ≤ c ∧ c ≤ 383
      · have HT0 : Hid (tbl c = [mor.getD (c - 256) 0]) := by
          unfold Hid tbl
          rw [if_neg h224, if_pos h256]
        obtain ⟨k1, k2⟩ := h256
        have k1' : (256 : Int) ≤ c := by omega
        have k2' : (c : Int) ≤ 383 := by omega
        have k3' : (224 : Int) ≤ c := by omega
        have k4' : ¬ (c : Int) ≤ 255 := by omega
        have hcv := str_one w2
        have HT : Hid (tbl c = [(⟨mor.toArray⟩ : ByteArray)[c - 256]'(by show c - 256 < 128; omega)]) := by
          unfold Hid
          rw [HT0.out]
          exact mor_get (by omega)
        have hB3 : Hid (∀ o, Below w.heap.size w (w2.alloc o)) := fun o => hB.out.alloc hB.out.size o
        clear h224
        go_wp2_with fail
        go_ret
        refine STB.mk ?_ (hB3.out _)
        rw [H.out, HT.out]
        rfl
      have HT : Hid (tbl c = []) := by
        unfold Hid tbl
        rw [if_neg h224, if_neg h256]
      have hcase : c < 224 ∨ 383 < c := by omega
      clear h224 h256
      rcases hcase with hlo | hhi
      · have q1 : ¬ (224 : Int) ≤ c := by omega
        have q2 : ¬ (256 : Int) ≤ c := by omega
        go_wp2_with fail
        go_ret
        exact STB.mk (by rw [H.out, HT.out]) hB.out
      · have q1 : (224 : Int) ≤ c := by omega
        have q2 : ¬ (c : Int) ≤ 255 := by omega
        have q3 : (256 : Int) ≤ c := by omega
        have q4 : ¬ (c : Int) ≤ 383 := by omega
        go_wp2_with fail
        go_ret
        exact STB.mk (by rw [H.out, HT.out]) hB.out
end Go.Proofs.YtgkefaojbdjnoaaDoor
