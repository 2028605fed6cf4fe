/- The reference's disk, by value. -/
import Derived.Test.YtfdebooimbbdbaaG
import Derived.WalkKit
import Derived.ProofKit
import Derived.Handy
import Derived.WalkLawsBesides
import Derived.WalkSpells
import Derived.BigQuiet
import Derived.BigCall
import Derived.Deep.QuietTactic
import Derived.Deep.Light
import Derived.Deep.OwnRows
import Derived.Laws.AppendOwnNone
import Derived.Laws.Strings3
import Derived.Laws.RangeAny
import Derived.Deep.RegionWith
import Derived.Lib.BitFns
import Derived.Lib.Walk
import Derived.Lib.Strings
import Derived.Lib.OthersKept
import Derived.Deep.CutBlock
import Derived.Deep.DeepCutAuto
import Derived.Deep.LoopGhost
import Derived.Deep.RegionHeld3
import Derived.Lib.SmallJoins
import Derived.Maps.AppendAt
import Derived.Laws.IdiomStrings
import Derived.Lib.AppendZeros
namespace Go.Proofs.Ytfdebooimbbdbaa
open Go.RowKit
set_option linter.unusedVariables false
set_option linter.unusedSimpArgs false
def rcells (S : St) : Array Value := #[.string (S.f 0), .int .i64 (S.s 0), .string (S.f 1), .int .i64 (S.s 1), .string (S.f 2), .int .i64 (S.s 2), .string (S.f 3), .int .i64 (S.s 3), .int .i64 S.lim, .bool S.gone]
set_option maxHeartbeats 400000 in
theorem rnew (w : World) : Calls Try.prog 9 #[] w fun e w' => e = .returned (.agg (rcells new)) ∧ Below w.heap.size w w' := by
  go_enter Try.func9, Try.ntmps9
  go_wp2
  go_returns
  exact ⟨rfl, (Below.refl _ _).alloc (Nat.le_refl _) _⟩
set_option maxHeartbeats 400000 in
theorem rcheck (S : St) (i : Int) (w : World) : Calls Try.prog 25 #[.agg (rcells S), .int .i64 i] w fun e w' => e = .returned (.int .i64 (chk S i)) ∧ w' = w.alloc (.cells (rcells S) 29) := by
  rcases chk_cases S i with ⟨g, e⟩ | ⟨g, hi, e⟩ | ⟨g, n, h1, rfl, e⟩ <;> rw [e] <;> unfold rcells <;> rw [g] <;> clear e g
  · go_enter Try.func25, Try.ntmps25
    go_wp2
    go_ret
    exact ⟨rfl, rfl⟩
  · by_cases h : i < 0
    · clear hi
      go_enter Try.func25, Try.ntmps25
      go_wp2
      go_ret
      exact ⟨rfl, rfl⟩
    · have h2 : 3 < i := by omega
      clear hi
      go_enter Try.func25, Try.ntmps25
      go_wp2
      go_ret
      exact ⟨rfl, rfl⟩
  · have h2 : ¬ (n : Int) < 0 := by omega
    have h3 : ¬ (3 : Int) < n := by omega
    go_enter Try.func25, Try.ntmps25
    go_wp2
    go_ret
    exact ⟨rfl, rfl⟩
def spt (S : St) (e : Int) : St × Int := if e ≠ 0 then (S, e) else spd S
set_option maxHeartbeats 400000 in
theorem rspent (S : St) (ok : Ok S) (e0 : Int) (w : World) : Calls Try.prog 32 #[.agg (rcells S), .int .i64 e0] w fun e w' => e = .returned (.tuple #[.agg (rcells (spt S e0).1), .int .i64 (spt S e0).2]) ∧ w' = (w.alloc (.cells (rcells (spt S e0).1) 29)).alloc (.cells (rcells (spt S e0).1) 29) := by
  by_cases h0 : e0 = 0
  · have hs : spt S e0 = spd S := by unfold spt; rw [if_neg (by simp [h0])]
    rw [hs]
    subst h0
    clear hs
    have h1 := ok.lo
    have h2 := ok.hi
    rcases spd_cases S with ⟨c, e⟩ | ⟨c, e⟩ | ⟨c, e⟩ <;> rw [e] <;> clear e <;> unfold rcells <;> clear ok
    · rw [c]
      clear c h1 h2
      go_enter Try.func32, Try.ntmps32
      go_wp2
      go_returns
      exact ⟨rfl, rfl⟩
    · generalize S.lim = l at *
      have hl : ¬ l = 0 := by omega
      have hl2 : (l == 0) = false := by simpa using hl
      go_enter Try.func32, Try.ntmps32
      go_wp2
      go_returns
      exact ⟨rfl, rfl⟩
    · generalize S.lim = l at *
      have hl : ¬ l = 0 := by omega
      have hl2 : (l == 0) = false := by simpa using hl
      have hl3 : ¬ 0 < l := by omega
      go_enter Try.func32, Try.ntmps32
      go_wp2
      go_returns
      exact ⟨rfl, rfl⟩
  · have hs : spt S e0 = (S, e0) := by unfold spt; rw [if_pos h0]
    rw [hs]
    have hl2 : (e0 == 0) = false := by simpa using h0
    clear hs ok
    unfold rcells
    go_enter Try.func32, Try.ntmps32
    go_wp2
    go_returns
    exact ⟨rfl, rfl⟩
end Go.Proofs.Ytfdebooimbbdbaa
