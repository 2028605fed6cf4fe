/- The reference's Sync. -/
import Derived.Test.YtfdebooimbbdbaaI
import Derived.WalkKit
import Derived.ProofKit
import Derived.Handy
import Derived.WalkLawsBesides
import Derived.WalkSpells
import Derived.BigQuiet
import Derived.BigCall
import Derived.Deep.QuietTactic
import Derived.Deep.Light
import Derived.Deep.OwnRows
import Derived.Laws.AppendOwnNone
import Derived.Laws.Strings3
import Derived.Laws.RangeAny
import Derived.Deep.RegionWith
import Derived.Lib.BitFns
import Derived.Lib.Walk
import Derived.Lib.Strings
import Derived.Lib.OthersKept
import Derived.Deep.CutBlock
import Derived.Deep.DeepCutAuto
import Derived.Deep.LoopGhost
import Derived.Deep.RegionHeld3
import Derived.Lib.SmallJoins
import Derived.Maps.AppendAt
import Derived.Laws.IdiomStrings
import Derived.Lib.AppendZeros
namespace Go.Proofs.Ytfdebooimbbdbaa
open Go.RowKit
set_option linter.unusedVariables false
set_option linter.unusedSimpArgs false
theorem spt_f (S : St) (e : Int) : (spt S e).1.f = S.f ∧ (spt S e).1.s = S.s := by
  unfold spt
  split
  · exact ⟨rfl, rfl⟩
  · exact spd_f S
theorem chg_spt (S : St) (e : Int) (g : St → St) : chg S e g = if (spt S e).2 = 0 then (g (spt S e).1, 0) else spt S e := by
  unfold chg spt
  by_cases h : e ≠ 0
  · rw [if_pos h, if_pos h, if_neg h]
  · rw [if_neg h, if_neg h]
    by_cases k : (spd S).2 = 0
    · rw [if_neg (by simp [k]), if_pos k]
    · rw [if_pos k, if_neg k]
theorem spt_zero {S : St} {e : Int} (h : (spt S e).2 = 0) : e = 0 := by
  unfold spt at h
  by_cases c : e ≠ 0
  · rw [if_pos c] at h; exact h
  · omega
set_option maxHeartbeats 4000000 in
theorem rsync (S : St) (ok : Ok S) (i : Int) (w : World) : Calls Try.prog 22 #[.agg (rcells S), .int .i64 i] w fun e w' => e = .returned (.tuple #[.agg (rcells (syn S i).1), .int .i64 (syn S i).2]) ∧ Below w.heap.size w w' := by
  unfold syn
  rw [chg_spt]
  have HZ : Hid ((spt S (chk S i)).2 = 0 → ∃ n : Nat, n < 4 ∧ i = n) := fun h => (chk_zero (spt_zero h)).2
  have hff : (spt S (chk S i)).1.f = S.f := (spt_f S _).1
  have hss : (spt S (chk S i)).1.s = S.s := (spt_f S _).2
  generalize hc : chk S i = c at *
  have HC : Hid (∀ w, Calls Try.prog 25 #[.agg (rcells S), .int .i64 i] w fun e w' => e = .returned (.int .i64 c) ∧ w' = w.alloc (.cells (rcells S) 29)) := by
    intro w; have := rcheck S i w; rw [hc] at this; exact this
  have HS : Hid (∀ w, Calls Try.prog 32 #[.agg (rcells S), .int .i64 c] w fun e w' => e = .returned (.tuple #[.agg (rcells (spt S c).1), .int .i64 (spt S c).2]) ∧ w' = (w.alloc (.cells (rcells (spt S c).1) 29)).alloc (.cells (rcells (spt S c).1) 29)) := by
    intro w; exact rspent S ok c w
  have hp : spt S c = ((spt S c).1, (spt S c).2) := rfl
  rw [hp]
  clear hp
  generalize (spt S c).1 = T at *
  generalize (spt S c).2 = d at *
  clear ok hc
  have HP : Hid ((d = 0 → (if d = 0 then (({ T with s := put T.s i.toNat (T.f i.toNat).size }, 0) : St × Int) else (T, d)) = ({ T with s := put T.s i.toNat (T.f i.toNat).size }, 0)) ∧ (¬ d = 0 → (if d = 0 then (({ T with s := put T.s i.toNat (T.f i.toNat).size }, 0) : St × Int) else (T, d)) = (({ T with f := S.f, s := S.s } : St), d))) := ⟨fun k => if_pos k, fun k => by rw [if_neg k, ← hff, ← hss]⟩
  generalize (if d = 0 then (({ T with s := put T.s i.toNat (T.f i.toNat).size }, 0) : St × Int) else (T, d)) = X at *
  unfold rcells at *
  rw [hff, hss] at *
  go_enter Try.func22, Try.ntmps22
  go_wp2_with fail
  go_region_with (first | (go_at_call 25; refine (HC.out _).mono ?_; rintro e w1 ⟨rfl, rfl⟩) | (go_at_call 32; refine (HS.out _).mono ?_; rintro e w1 ⟨rfl, rfl⟩))
  all_goals clear HC HS
  all_goals by_cases hd : d = 0
  all_goals first
    | (obtain ⟨n, hn, rfl⟩ := HZ.out hd
       have hX := HP.out.1 hd
       subst hd
       subst hX
       clear HP HZ
       rcases four hn with rfl | rfl | rfl | rfl
       all_goals clear hn
       all_goals go_wp2_with fail
       all_goals go_returns
       all_goals exact ⟨rfl, by go_grown⟩)
    | (have hX := HP.out.2 hd
       have hd2 : (d == 0) = false := by simpa using hd
       subst hX
       clear HP HZ
       go_wp2_with fail
       go_returns
       exact ⟨rfl, by go_grown⟩)
end Go.Proofs.Ytfdebooimbbdbaa
