/- Has the disk just what the reference has? -/
import Derived.Test.YtfdebooimbbdbaaP
import Derived.WalkKit
import Derived.ProofKit
import Derived.Handy
import Derived.WalkLawsBesides
import Derived.WalkSpells
import Derived.BigQuiet
import Derived.BigCall
import Derived.Deep.QuietTactic
import Derived.Deep.Light
import Derived.Deep.OwnRows
import Derived.Laws.AppendOwnNone
import Derived.Laws.Strings3
import Derived.Laws.RangeAny
import Derived.Deep.RegionWith
import Derived.Lib.BitFns
import Derived.Lib.Walk
import Derived.Lib.Strings
import Derived.Lib.OthersKept
import Derived.Deep.CutBlock
import Derived.Deep.DeepCutAuto
import Derived.Deep.LoopGhost
import Derived.Deep.RegionHeld3
import Derived.Lib.SmallJoins
import Derived.Maps.AppendAt
import Derived.Laws.IdiomStrings
import Derived.Lib.AppendZeros
import Derived.Deep.WholeRow
namespace Go.Proofs.Ytfdebooimbbdbaa
open Go.RowKit
set_option linter.unusedVariables false
set_option linter.unusedSimpArgs false
theorem rd_ok {S : St} {n : Nat} (h : chk S n = 0) : rd S n = S.f n := by unfold rd; rw [if_pos h]; rfl
theorem ln_ok {S : St} {n : Nat} (h : chk S n = 0) : ln S n = (S.f n).size := by unfold ln; rw [if_pos h]; rfl
theorem lt_ok {S : St} {n : Nat} (h : chk S n = 0) (ok : Ok S) : lt S n = ((S.f n).size : Int) - S.s n := by
  unfold lt
  rw [if_pos h]
  have := ok.safe n
  show (((S.f n).size - S.s n : Nat) : Int) = _
  omega
theorem rd_no {S : St} {i : Int} (h : ¬ chk S i = 0) : rd S i = ⟨#[]⟩ := by unfold rd; rw [if_neg h]
theorem ln_no {S : St} {i : Int} (h : ¬ chk S i = 0) : ln S i = 0 := by unfold ln; rw [if_neg h]
theorem lt_no {S : St} {i : Int} (h : ¬ chk S i = 0) : lt S i = 0 := by unfold lt; rw [if_neg h]
/-- while it is held against the reference's box at z -/
structure Sh (B p z : Nat) (S : St) (w wr : World) : Prop where
  dk : ∃ V, Dk B wr p S V
  bz : wr.heap[z]? = some (.cells (rcells S) 29 (0, 0))
  bel : Below w.heap.size w wr
theorem Sh.below {B p z : Nat} {S : St} {w wr w' : World} (h : Sh B p z S w wr) (hb : Below wr.heap.size wr w') : Sh B p z S w w' := by
  obtain ⟨V, hd⟩ := h.dk
  exact ⟨⟨V, hd.below hb⟩, (hb.block _ (lt_of_blk h.bz)).trans h.bz, h.bel.trans (hb.mono h.bel.size)⟩
theorem Sh.drewN {B p z : Nat} {S : St} {w wr : World} (h : Sh B p z S w wr) (n : Nat) : Sh B p z S w (wr.drewN n) := h.below (bdrew (Below.refl _ _))
theorem Sh.cells {B p z : Nat} {S : St} {w wr : World} (h : Sh B p z S w wr) {n : Nat} (hn : n < 4) : wr.cell? ⟨z, n * 2, none⟩ = some (.string (S.f n)) ∧ wr.cell? ⟨z, n * 2 + 1, none⟩ = some (.int .i64 (S.s n)) := by
  rw [cell_of_row wr _ _ _ _ _ h.bz, cell_of_row wr _ _ _ _ _ h.bz]
  rcases four hn with rfl | rfl | rfl | rfl <;> exact ⟨rfl, rfl⟩
set_option maxRecDepth 100000 in
set_option maxHeartbeats 2000000 in
theorem lshows (B p : Nat) (S : St) (w : World) (V : Nat → Value) (h : Dk B w p S V) (ok : Ok S) : Calls Try.prog 11 #[.pointer (some ⟨p, 0, none⟩), .agg (rcells S)] w fun e w' => e = .returned (.bool true) ∧ Below w.heap.size w w' := by
  have HO : Hid (Ok S) := ok
  have H0 : Hid (Sh B p w.heap.size S w (w.alloc (.cells (rcells S) 29))) := ⟨⟨V, h.alloc _⟩, heap_alloc_new w _, (Below.refl _ _).alloc (Nat.le_refl _) _⟩
  have HR : Hid (∀ wr i, Sh B p w.heap.size S w wr → Calls Try.prog 13 #[.pointer (some ⟨p, 0, none⟩), .int .i64 i] wr fun e w' => e = .returned (.tuple #[.string (rd S i), .int .i64 (chk S i)]) ∧ wr = w') := by
    intro wr i hs
    obtain ⟨V, hd⟩ := hs.dk
    exact xread B p S V wr hd i
  have HL : Hid (∀ wr i, Sh B p w.heap.size S w wr → Calls Try.prog 19 #[.pointer (some ⟨p, 0, none⟩), .int .i64 i] wr fun e w' => e = .returned (.tuple #[.int .i64 (ln S i), .int .i64 (chk S i)]) ∧ wr = w') := by
    intro wr i hs
    obtain ⟨V, hd⟩ := hs.dk
    exact xlen B p S V wr hd i
  have HT : Hid (∀ wr i, Sh B p w.heap.size S w wr → ∀ m, Calls Try.prog 14 #[.pointer (some ⟨p, 0, none⟩), .int .i64 i] (wr.drewN m) fun e w' => e = .returned (.int .i64 (lt S i)) ∧ ∃ m', w' = (wr.drewN m).drewN m') := by
    intro wr i hs m
    obtain ⟨V, hd⟩ := hs.dk
    exact xlateD B p S V _ (hd.drewN m) ok i
  have HC : Hid (∀ wr i, Calls Try.prog 25 #[.agg (rcells S), .int .i64 i] wr fun e w' => e = .returned (.int .i64 (chk S i)) ∧ Below wr.heap.size wr w') := by
    intro wr i
    refine (rcheck S i wr).mono ?_
    rintro e w' ⟨rfl, rfl⟩
    exact ⟨rfl, (Below.refl _ _).alloc (Nat.le_refl _) _⟩
  clear h ok
  unfold rcells
  go_enter Try.func11, Try.ntmps11
  go_wp2_with fail
  show Code.wp _ _ _ _ (w.alloc (.cells (rcells S) 29))
  go_loopw [5] (fun i wr => ∃ k : Nat, k ≤ 6 ∧ i = .int .i64 ((k : Int) - 1) ∧ Hid (Sh B p w.heap.size S w wr)) (fun i _ => (5 - intOf i).toNat)
  case atStart => exact ⟨0, by omega, rfl, H0.out⟩
  case round =>
    clear H0
    obtain ⟨k, hk, rfl, HS⟩ := hrel
    generalize hi : (k : Int) - 1 = i at *
    have HI : Hid ((k : Int) - 1 = i) := hi
    have hi1 : -1 ≤ i := by omega
    have hi2 : i ≤ 5 := by omega
    by_cases hlt : i ≤ 4
    · obtain ⟨a0, a1, a2, a3, a4, a5, a6, a7, a8, a9⟩ := ten_of HS.out.bz
      have HCx := HC.out wr i
      by_cases h0 : chk S i = 0
      · obtain ⟨hg, n, hn, rfl⟩ := chk_zero h0
        have R := HR.out wr n HS.out
        have L := HL.out wr n HS.out
        rw [rd_ok h0, h0] at R
        rw [ln_ok h0, h0] at L
        rw [h0] at HCx
        have Tt : Hid (∀ wr, Sh B p w.heap.size S w wr → ∀ m, Calls Try.prog 14 #[.pointer (some ⟨p, 0, none⟩), .int .i64 n] (wr.drewN m) fun e w' => e = .returned (.int .i64 (((S.f n).size : Int) - S.s n)) ∧ ∃ m', w' = (wr.drewN m).drewN m') := by
          intro wr hs m
          have := HT.out wr n hs m
          rw [lt_ok h0 HO.out] at this
          exact this
        have R1 : Hid (Calls Try.prog 13 _ wr _) := R
        have L1 : Hid (Calls Try.prog 19 _ wr _) := L
        have C1 : Hid (Calls Try.prog 25 _ wr _) := HCx
        have hb1 : (S.s n : Int) ≤ (S.f n).size := by have := HO.out.safe n; omega
        have hb2 : ((S.f n).size : Int) ≤ 1048576 := by have := HO.out.small n; omega
        have hn4 : (n : Int) < 4 := by omega
        clear R L HCx HR HL HT HC h0 hi hk hg
        go_wp2_with fail
        refine R1.out.mono ?_
        rintro e w1 ⟨rfl, rfl⟩
        go_wp2_with fail
        refine L1.out.mono ?_
        rintro e w1 ⟨rfl, rfl⟩
        go_wp2_with fail
        refine C1.out.mono ?_
        rintro e w1 ⟨rfl, hb⟩
        have HS1 : Hid (Sh B p w.heap.size S w w1) := HS.out.below hb
        obtain ⟨x0, x1⟩ := HS1.out.cells hn
        clear hb R1 L1 C1 a0 a1 a2 a3 a4 a5 a6 a7 a8 a9
        go_wp2_with fail
        go_quiet ((go_at_call 14; exact Calls.quiet_of (Tt.out _ HS1.out _)))
        go_wp2_with fail
        exact ⟨⟨k + 1, by have := HI.out; omega, by have := HI.out; go_num, HS1.out.drewN _⟩, by simp [intOf]; omega⟩
      · have R := HR.out wr i HS.out
        have L := HL.out wr i HS.out
        rw [rd_no h0] at R
        rw [ln_no h0] at L
        have Tt : Hid (∀ wr, Sh B p w.heap.size S w wr → Calls Try.prog 14 #[.pointer (some ⟨p, 0, none⟩), .int .i64 i] wr fun e w' => e = .returned (.int .i64 0) ∧ ∃ m', w' = wr.drewN m') := by
          intro wr hs
          have := HT.out wr i hs 0
          rw [lt_no h0] at this
          exact this
        generalize chk S i = c at *
        have R1 : Hid (Calls Try.prog 13 _ wr _) := R
        have L1 : Hid (Calls Try.prog 19 _ wr _) := L
        have C1 : Hid (Calls Try.prog 25 _ wr _) := HCx
        have hc0 : (c == 0) = false := by simpa using h0
        have hc1 : ¬ c = 0 := h0
        clear R L HCx HR HL HT HC h0 hi hk
        go_wp2_with fail
        refine R1.out.mono ?_
        rintro e w1 ⟨rfl, rfl⟩
        go_wp2_with fail
        refine L1.out.mono ?_
        rintro e w1 ⟨rfl, rfl⟩
        go_wp2_with fail
        refine C1.out.mono ?_
        rintro e w1 ⟨rfl, hb⟩
        have HS1 : Hid (Sh B p w.heap.size S w w1) := HS.out.below hb
        clear hb R1 L1 C1 a0 a1 a2 a3 a4 a5 a6 a7 a8 a9
        go_wp2_with fail
        go_quiet (fail)
        go_wp2_with fail
        refine (Tt.out _ (HS1.out.drewN _)).mono ?_
        rintro e w2 ⟨rfl, m', rfl⟩
        go_wp2_with fail
        exact ⟨⟨k + 1, by have := HI.out; omega, by have := HI.out; go_num, HS1.out.drewN _⟩, by simp [intOf]; omega⟩
    · obtain rfl : i = 5 := by omega
      clear hi hlt
      go_wp2_with fail
      go_ret
      exact ⟨rfl, HS.out.bel⟩
end Go.Proofs.Ytfdebooimbbdbaa
