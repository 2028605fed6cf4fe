/- A call of both, the last kind; and every kind. -/
import Derived.Test.YtfdebooimbbdbaaO
import Derived.WalkKit
import Derived.ProofKit
import Derived.Handy
import Derived.WalkLawsBesides
import Derived.WalkSpells
import Derived.BigQuiet
import Derived.BigCall
import Derived.Deep.QuietTactic
import Derived.Deep.Light
import Derived.Deep.OwnRows
import Derived.Laws.AppendOwnNone
import Derived.Laws.Strings3
import Derived.Laws.RangeAny
import Derived.Deep.RegionWith
import Derived.Lib.BitFns
import Derived.Lib.Walk
import Derived.Lib.Strings
import Derived.Lib.OthersKept
import Derived.Deep.CutBlock
import Derived.Deep.DeepCutAuto
import Derived.Deep.LoopGhost
import Derived.Deep.RegionHeld3
import Derived.Lib.SmallJoins
import Derived.Maps.AppendAt
import Derived.Laws.IdiomStrings
import Derived.Lib.AppendZeros
import Derived.Deep.WholeRow
namespace Go.Proofs.Ytfdebooimbbdbaa
open Go.RowKit
set_option linter.unusedVariables false
set_option linter.unusedSimpArgs false
set_option maxHeartbeats 2000000 in
theorem ldoes3 (B p q : Nat) (S : St) (w : World) (h : Both B p q S w) (i : Int) (t : ByteArray) (n : Int) (K : Nat → Int) (hn : -9223372036854775808 ≤ n ∧ n ≤ 9223372036854775807) : Calls Try.prog 10 #[.pointer (some ⟨p, 0, none⟩), .pointer (some ⟨q, 0, none⟩), .agg (acells 3 i t n K)] w fun e w' => e = .returned (.bool true) ∧ Both B p q { S with lim := n } w' ∧ Below B w w' := by
  have HS := Mid.start h (acells 3 i t n K)
  have HP : Hid (∀ (w' : World) (X : St), Mid B p q w.heap.size S S X (acells 3 i t n K) w w' → Calls Try.prog 16 #[.pointer (some ⟨p, 0, none⟩), .int .i64 n] w' fun e w2 => e = .returned (.tuple #[]) ∧ Mid B p q w.heap.size { S with lim := n } S X (acells 3 i t n K) w w2) := by
    intro w' X hm
    obtain ⟨V, hd⟩ := hm.dk
    refine (xlimit B p S V w' hd n).mono ?_
    rintro e w2 ⟨rfl, hc⟩
    exact ⟨rfl, hm.prog hc (lim_ok hm.ok n hn.1 hn.2)⟩
  obtain ⟨a0, a1, a2, a3, a4, a5, a6, a7, a8, a9⟩ := ten_of h.bq
  have hql := lt_of_blk h.bq
  have HX : Hid (Mid B p q w.heap.size S S { S with lim := n } (acells 3 i t n K) w ((w.alloc (.cells (acells 3 i t n K) 33)).alloc (.cells (rcells { S with lim := n }) 29))) := by
    have h2 := HS.setX { S with lim := n }
    have e : (w.alloc (.cells (acells 3 i t n K) 33)).heap.size = w.heap.size + 1 := by simp
    have e2 : ((w.alloc (.cells (acells 3 i t n K) 33)).alloc (.cells (rcells S) 29)).setRow (w.heap.size + 1) (rcells { S with lim := n }) = (w.alloc (.cells (acells 3 i t n K) 33)).alloc (.cells (rcells { S with lim := n }) 29) := by
      rw [← e]
      exact World.setRow_alloc_new _ _ _ _
    rw [e2] at h2
    exact h2
  clear h HS hn
  unfold acells
  go_enter Try.func10, Try.ntmps10
  go_upto_region 17 with fail
  clear a0 a1 a2 a3 a4 a5 a6 a7 a8 a9
  show Code.wp _ _ _ _ ((w.alloc (.cells (acells 3 i t n K) 33)).alloc (.cells (rcells { S with lim := n }) 29))
  generalize (w.alloc (.cells (acells 3 i t n K) 33)).alloc (.cells (rcells { S with lim := n }) 29) = w4 at *
  generalize w.heap.size = z at *
  have y3 : w4.cell? ⟨z, 3, none⟩ = some (.int .i64 n) := HX.out.ac 3
  go_wp2_with fail
  refine (HP.out _ _ HX.out).mono ?_
  rintro e w5 ⟨rfl, hm5⟩
  have HM5 : Hid (Mid B p q z { S with lim := n } S { S with lim := n } (acells 3 i t n K) w w5) := hm5
  generalize hT : ({ S with lim := n } : St) = T at *
  have HQ : Hid (({ S with lim := n } : St) = T) := hT
  obtain ⟨c0, c1, c2, c3, c4, c5, c6, c7, c8, c9⟩ := ten_of hm5.nxt
  obtain ⟨b0, b1, b2, b3, b4, b5, b6, b7, b8, b9⟩ := ten_of hm5.bq
  have hfr := froz_of_blk hm5.bq
  have f0 := hfr 0
  have f1 := hfr 1
  have f2 := hfr 2
  have f3 := hfr 3
  have f4 := hfr 4
  have f5 := hfr 5
  have f6 := hfr 6
  have f7 := hfr 7
  have f8 := hfr 8
  have f9 := hfr 9
  clear hfr
  have HT : Hid _ := ten_set T hm5.bq
  clear hm5 HP HX y3 hT
  go_wp2_with fail
  go_ret
  rw [HT.out, HQ.out]
  exact ⟨rfl, HM5.out.fin⟩
theorem ldoes (B p q : Nat) (S : St) (w : World) (h : Both B p q S w) (c i : Int) (t : ByteArray) (n : Int) (K : Nat → Int) (hM : t.size ≤ maxLen) (hn : -9223372036854775808 ≤ n ∧ n ≤ 9223372036854775807) (hK : ∀ j, -9223372036854775808 ≤ K j ∧ K j ≤ 9223372036854775807) : Calls Try.prog 10 #[.pointer (some ⟨p, 0, none⟩), .pointer (some ⟨q, 0, none⟩), .agg (acells c i t n K)] w fun e w' => e = .returned (.bool true) ∧ Both B p q (step S c i t n K) w' ∧ Below B w w' := by
  unfold step
  by_cases h0 : c = 0
  · rw [if_pos h0]; subst h0; exact ldoes0 B p q S w h 0 i t n K hM
  rw [if_neg h0]
  by_cases h1 : c = 1
  · rw [if_pos h1]; subst h1; exact ldoes1 B p q S w h 0 i t n K
  rw [if_neg h1]
  by_cases h2 : c = 2
  · rw [if_pos h2]; subst h2; exact ldoes2 B p q S w h 0 i t n K
  rw [if_neg h2]
  by_cases h3 : c = 3
  · rw [if_pos h3]; subst h3; exact ldoes3 B p q S w h i t n K hn
  rw [if_neg h3]
  exact ldoes4 B p q S w h c i t n K hK (by simpa using h0) (by simpa using h1) (by simpa using h2) (by simpa using h3)
end Go.Proofs.Ytfdebooimbbdbaa
