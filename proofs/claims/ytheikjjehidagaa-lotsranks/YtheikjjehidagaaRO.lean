/- layer 17: law Ranks -/
import Derived.Test.YtheikjjehidagaaRJ
import Derived.Test.YtheikjjehidagaaRK
import Derived.Test.YtheikjjehidagaaRL
import Derived.Test.YtheikjjehidagaaRM
import Derived.Test.YtheikjjehidagaaRN
import Derived.WalkKit
import Derived.ProofKit
import Derived.Handy
import Derived.WalkLawsBesides
import Derived.WalkSpells
import Derived.BigQuiet
import Derived.BigCall
import Derived.Deep.QuietTactic
import Derived.Deep.Light
import Derived.Deep.OwnRows
import Derived.Laws.AppendOwnNone
import Derived.Laws.Strings3
import Derived.Laws.RangeAny
import Derived.Deep.RegionWith
import Derived.Lib.BitFns
import Derived.Lib.Walk
import Derived.Lib.Strings
import Derived.Lib.OthersKept
import Derived.Deep.CutBlock
import Derived.Deep.DeepCutAuto
import Derived.Deep.LoopGhost
import Derived.Deep.RegionHeld3
import Derived.Lib.SmallJoins
import Derived.Maps.AppendAt
import Derived.Laws.IdiomStrings
import Derived.Lib.AppendZeros
import Derived.Deep.WholeRow
import Derived.Laws.BitsAllLaws
import Derived.Lib.ConvBytes
import Derived.Deep.RegionLaw
import Derived.Maps.OwnSet
import Derived.Maps.OwnOps
import Derived.Maps.RangeWalk
import Derived.Maps.Ext
import Derived.DeepKeys4
import Derived.Laws.StructEq
import Derived.Deep.MidRow
import Derived.Lib.Bytealg
import Derived.Lib.AppendZerosOnto
import Derived.Laws.MakeOwn
import Derived.Deep.Upon
import Derived.Sort.KeysCollected
import Derived.Shelf.SlSortCmp.KitK
namespace Go.Proofs.Ytheikjjehidagaa
open Go.RowKit
set_option linter.unusedVariables false
set_option linter.unusedSimpArgs false
open H5 (It its its_len its_one)
set_option maxRecDepth 100000
theorem load47 (W : World) (g : Nat) {v0 v1 v2 v3 v4 v5 v6 v7 v8 : Value} (h : Bx W g #[v0, v1, v2, v3, v4, v5, v6, v7, v8] 47) : (Instr.loadAt 47 (.pointer (some ⟨g, 0, none⟩))).run Try.prog W = .ok (.agg #[v0, v1, v2, v3, v4, v5, v6, v7, v8]) W := by
  have d0 : W.cell? ⟨g, 0, none⟩ = some v0 := h.cell 0
  have d1 : W.cell? ⟨g, 1, none⟩ = some v1 := h.cell 1
  have d2 : W.cell? ⟨g, 2, none⟩ = some v2 := h.cell 2
  have d3 : W.cell? ⟨g, 3, none⟩ = some v3 := h.cell 3
  have d4 : W.cell? ⟨g, 4, none⟩ = some v4 := h.cell 4
  have d5 : W.cell? ⟨g, 5, none⟩ = some v5 := h.cell 5
  have d6 : W.cell? ⟨g, 6, none⟩ = some v6 := h.cell 6
  have d7 : W.cell? ⟨g, 7, none⟩ = some v7 := h.cell 7
  have d8 : W.cell? ⟨g, 8, none⟩ = some v8 := h.cell 8
  go_simp
set_option linter.unusedSectionVars false
section
variable [Inhabited It]
set_option maxHeartbeats 16000000 in
theorem lranks_many (L : List It) (a : Option Addr) (cap : Nat) (w : World) (hb : 100 < L.length) : Calls Try.prog 6 #[.slice a L.length cap] w (BbP true w) := by
  have HAw : Hid (Calls Try.prog 8 #[] w fun e w' => e = .returned (.bool true) ∧ Hid (Below w.heap.size w w')) := (xawake w).mono fun e w' hh => ⟨hh.1, hh.2⟩
  have hz : (100 : Int) < (L.length : Int) := by omega
  clear hb
  go_enter Try.func6, Try.ntmps6
  go_wp2_with (go_at_call 8; refine HAw.out.mono ?_; clear HAw; rintro e w2 ⟨rfl, HB⟩)
  go_ret
  exact ⟨rfl, HB.out⟩
theorem ri_calls (L : List It) (hn : L.length ≤ 1000) (a : Option Addr) (cap : Nat) (w : World) (h : Rw 9 its w a L) : ∀ W, Below w.heap.size w W → Calls Try.prog 26 #[.slice a L.length cap] W fun e w' => ∃ a2 c2, e = .returned (.slice a2 L.length c2) ∧ Hid (Rw 9 its w' a2 L ∧ Below w.heap.size w w' ∧ Below W.heap.size W w') := fun W hb =>
  (xitems L a cap W (h.below hb) (by omega)).mono fun e w' hh => by
    obtain ⟨v, rfl, ho, hB⟩ := hh
    obtain ⟨a', cap', rfl, _, hr⟩ := own_rw its_len ho rfl
    exact ⟨a', cap', rfl, hr, hb.trans (hB.mono hb.size), hB⟩
theorem rw_calls (L : List It) (hn : L.length ≤ 1000) (hs : ∀ x ∈ L, smI x) (w : World) : ∀ W a2 c2, Rw 9 its W a2 L ∧ Below w.heap.size w W → Calls Try.prog 25 #[.slice a2 L.length c2] W fun e w' => e = .returned (.tuple #[.agg (its (lastI (SS.rnk ltI L)).1).toArray, .bool (lastI (SS.rnk ltI L)).2]) ∧ Hid (Below w.heap.size w w') := fun W a2 c2 hb =>
  (xworst L (by omega) hs a2 c2 W hb.1).mono fun e w' hh => ⟨hh.1, hb.2.trans (hh.2.mono hb.2.size)⟩
theorem ro_calls (L : List It) (hn : L.length ≤ 1000) (hs : ∀ x ∈ L, smI x) (w : World) : ∀ W a2 c2, Rw 9 its W a2 L ∧ Below w.heap.size w W → Calls Try.prog 27 #[.slice a2 L.length c2] W fun e w' => ∃ a3 c3, e = .returned (.tuple #[.slice a3 (mrg [] (lotsOf L)).1.length c3, .int .i64 (mrg [] (lotsOf L)).2]) ∧ Hid (Rw 2 lcs w' a3 (mrg [] (lotsOf L)).1 ∧ Below w.heap.size w w' ∧ Below W.heap.size W w') := fun W a2 c2 hb =>
  (xof L (by omega) hs a2 c2 W hb.1).mono fun e w' hh => by
    obtain ⟨a3, c3, rfl, HZ⟩ := hh
    exact ⟨a3, c3, rfl, HZ.out.1, hb.2.trans (HZ.out.2.mono hb.2.size), HZ.out.2⟩
theorem rp_calls (L : List It) (hn : L.length ≤ 1000) (a : Option Addr) (cap : Nat) (w : World) (h : Rw 9 its w a L) : ∀ W, Below w.heap.size w W → Calls Try.prog 28 #[.slice a L.length cap] W fun e w' => ∃ a3 c3, e = .returned (.tuple #[.slice a3 (mrg [] (lotsOf L)).1.length c3, .int .i64 (mrg [] (lotsOf L)).2]) ∧ Hid (Rw 2 lcs w' a3 (mrg [] (lotsOf L)).1 ∧ Below w.heap.size w w' ∧ Below W.heap.size W w') := fun W hb =>
  (rof L (by omega) a cap W (h.below hb)).mono fun e w' hh => by
    obtain ⟨a3, c3, rfl, HZ⟩ := hh
    exact ⟨a3, c3, rfl, HZ.out.1, hb.trans (HZ.out.2.mono hb.size), HZ.out.2⟩
theorem rk_calls (L : List It) (hn : L.length ≤ 1000) (hs : ∀ x ∈ L, smI x) (w : World) : ∀ W a2 c2, Rw 9 its W a2 L ∧ Below w.heap.size w W → Calls Try.prog 30 #[.slice a2 L.length c2] W fun e w' => ∃ a3 c3, e = .returned (.slice a3 L.length c3) ∧ Hid (Rw 9 its w' a3 (SS.rnk ltI L) ∧ Below w.heap.size w w') := fun W a2 c2 hb =>
  (xrankl L (by omega) hs a2 c2 W hb.1).mono fun e w' hh => by
    obtain ⟨a3, c3, rfl, HZ⟩ := hh
    exact ⟨a3, c3, rfl, HZ.out.1, hb.2.trans (HZ.out.2.mono hb.2.size)⟩
theorem rs_calls (M : List It) (hn : M.length ≤ 1000) (w : World) : ∀ W a2 c2 a3 c3, (Rw 9 its W a2 M ∧ Rw 9 its W a3 M) ∧ Below w.heap.size w W → Calls Try.prog 29 #[.slice a2 M.length c2, .slice a3 M.length c3] W fun e w' => e = .returned (.bool true) ∧ Hid (Below w.heap.size w w') := fun W a2 c2 a3 c3 hb =>
  (lsame M (by omega) a2 a3 c2 c3 W hb.1.1 hb.1.2).mono fun e w' hh => ⟨hh.1, hb.2.trans (hh.2.mono hb.2.size)⟩
theorem rl_calls (P : List Lt) (hn : P.length ≤ 1000000) (w : World) : ∀ W a2 c2 a3 c3, (Rw 2 lcs W a2 P ∧ Rw 2 lcs W a3 P) ∧ Below w.heap.size w W → Calls Try.prog 13 #[.slice a2 P.length c2, .slice a3 P.length c3] W fun e w' => e = .returned (.bool true) ∧ Hid (Below w.heap.size w w') := fun W a2 c2 a3 c3 hb =>
  (rlots P hn a2 c2 a3 c3 W hb.1.1 hb.1.2).mono fun e w' hh => ⟨hh.1, hb.2.trans (hh.2.mono hb.2.size)⟩
end
end Go.Proofs.Ytheikjjehidagaa
