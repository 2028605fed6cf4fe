/- layer 16: the document's Room -/
import Derived.Test.YtdfadcbchiogjaaGreatNU
import Derived.WalkKit
import Derived.ProofKit
import Derived.Handy
import Derived.WalkLawsBesides
import Derived.WalkSpells
import Derived.BigQuiet
import Derived.BigCall
import Derived.Deep.QuietTactic
import Derived.Deep.Light
import Derived.Deep.OwnRows
import Derived.Laws.AppendOwnNone
import Derived.Laws.Strings3
import Derived.Laws.RangeAny
import Derived.Deep.RegionWith
import Derived.Lib.BitFns
import Derived.Lib.Walk
import Derived.Lib.Strings
import Derived.Lib.OthersKept
import Derived.Deep.CutBlock
import Derived.Deep.DeepCutAuto
import Derived.Deep.LoopGhost
import Derived.Deep.RegionHeld3
import Derived.Lib.SmallJoins
import Derived.Maps.AppendAt
import Derived.Laws.IdiomStrings
import Derived.Lib.AppendZeros
import Derived.Deep.WholeRow
import Derived.Laws.BitsAllLaws
import Derived.Lib.ConvBytes
import Derived.Deep.RegionLaw
import Derived.Maps.OwnSet
import Derived.Maps.OwnOps
import Derived.Maps.RangeWalk
import Derived.Maps.Ext
import Derived.DeepKeys4
import Derived.Laws.StructEq
import Derived.Deep.MidRow
import Derived.Lib.Bytealg
import Derived.Lib.AppendZerosOnto
import Derived.Laws.MakeOwn
import Derived.Deep.Upon
import Derived.Sort.KeysCollected
namespace Go.Proofs.YtdfadcbchiogjaaGreat
open Go.RowKit
set_option linter.unusedVariables false
set_option linter.unusedSimpArgs false
set_option maxRecDepth 20000
theorem take_bnd {L : List Pt} {M : Int} (h : ∀ p ∈ L, -M ≤ p.c ∧ p.c ≤ M) (j : Nat) : ∀ p ∈ L.take j, -M ≤ p.c ∧ p.c ≤ M := fun p hp => h p (List.mem_of_mem_take hp)
theorem Good.tkI {T : Tb} {k : Nat} (g : Good T k) (hk : k ≤ 1000) (n : Int) (j : Nat) : Rng (smI (T.L.take j) n) := by
  have h := smI_bnd (M := 1125899906842624) (by omega) (take_bnd g.c j) n
  have h1 := g.l
  have h2 : (T.L.take j).length ≤ 1000 := by rw [List.length_take]; omega
  have h3 : ((T.L.take j).length : Int) ≤ 1000 := by omega
  unfold Rng
  omega
theorem Good.tkA {T : Tb} {k : Nat} (g : Good T k) (hk : k ≤ 1000) (n : List UInt8) (j : Nat) : Rng (smA (T.L.take j) n) := by
  have h := smA_bnd (M := 1125899906842624) (by omega) (take_bnd g.c j) n
  have h1 := g.l
  have h2 : (T.L.take j).length ≤ 1000 := by rw [List.length_take]; omega
  have h3 : ((T.L.take j).length : Int) ≤ 1000 := by omega
  unfold Rng
  omega
theorem Good.tkS {T : Tb} {k : Nat} (g : Good T k) (hk : k ≤ 1000) (j : Nat) : Rng (sm (T.L.take j)) := by
  have h := sm_bnd (M := 1125899906842624) (take_bnd g.c j)
  have h1 := g.l
  have h2 : (T.L.take j).length ≤ 1000 := by rw [List.length_take]; omega
  have h3 : ((T.L.take j).length : Int) ≤ 1000 := by omega
  unfold Rng
  omega
def rtc (T : Tb) (v : Value) : List Value := [.int .i64 T.need, .int .i64 T.li, .int .i64 T.la, v]
theorem Lo.below {w w' : World} {v : Value} {L : List Pt} (h : Lo w v L) (hb : Below w.heap.size w w') : Lo w' v L := own_below h hb
end Go.Proofs.YtdfadcbchiogjaaGreat
