/- layer 10: what is wrong with a basket, by the program -/
import Derived.Test.YtheikjjehidagaaQD
import Derived.WalkKit
import Derived.ProofKit
import Derived.Handy
import Derived.WalkLawsBesides
import Derived.WalkSpells
import Derived.BigQuiet
import Derived.BigCall
import Derived.Deep.QuietTactic
import Derived.Deep.Light
import Derived.Deep.OwnRows
import Derived.Laws.AppendOwnNone
import Derived.Laws.Strings3
import Derived.Laws.RangeAny
import Derived.Deep.RegionWith
import Derived.Lib.BitFns
import Derived.Lib.Walk
import Derived.Lib.Strings
import Derived.Lib.OthersKept
import Derived.Deep.CutBlock
import Derived.Deep.DeepCutAuto
import Derived.Deep.LoopGhost
import Derived.Deep.RegionHeld3
import Derived.Lib.SmallJoins
import Derived.Maps.AppendAt
import Derived.Laws.IdiomStrings
import Derived.Lib.AppendZeros
import Derived.Deep.WholeRow
import Derived.Laws.BitsAllLaws
import Derived.Lib.ConvBytes
import Derived.Deep.RegionLaw
import Derived.Maps.OwnSet
import Derived.Maps.OwnOps
import Derived.Maps.RangeWalk
import Derived.Maps.Ext
import Derived.DeepKeys4
import Derived.Laws.StructEq
import Derived.Deep.MidRow
import Derived.Lib.Bytealg
import Derived.Lib.Overlaps
import Derived.Lib.AppendZerosOnto
import Derived.Laws.MakeOwn
namespace Go.Proofs.Ytheikjjehidagaa.H5.N14
open Go.RowKit
set_option linter.unusedVariables false
set_option linter.unusedSimpArgs false
set_option maxRecDepth 20000
def bkE (C : Cks) (b : Bk) : Nat :=
  if !(inn b.id 1 64 && (amt b.ver && (inn b.rat 0 20 && (inn b.iss 0 1000000 && (inn b.ass 0 1000000 && (decide (1 ≤ b.cuts.length) && (decide (b.cuts.length ≤ 64) && decide (b.bar.length ≤ 64)))))))) then 1
  else if !(decide (0 ≤ b.least) && inn b.most b.least 200000) then 10
  else if !C.cu b.cur then 11
  else if !(b.cuts.all cutB) then 1
  else if !(barB none b.bar) then 1 else 0
theorem len_inn (n : Nat) : inn (n : Int) 1 64 = (decide (1 ≤ n) && decide (n ≤ 64)) := by
  unfold inn
  rw [decide_eq_decide.2 (show (1 : Int) ≤ n ↔ 1 ≤ n by omega), decide_eq_decide.2 (show (n : Int) ≤ 64 ↔ n ≤ 64 by omega)]
theorem ff {b : Bool} (h : b = false) : ¬ b = true := by rw [h]; exact Bool.false_ne_true
theorem bkE_seq (b : Bk) : bkE C0 b = if inn b.id 1 64 = true then if amt b.ver = true then if inn b.rat 0 20 = true then if inn b.iss 0 1000000 = true then if inn b.ass 0 1000000 = true then if inn (b.cuts.length : Int) 1 64 = true then if decide (b.bar.length ≤ 64) = true then if decide (0 ≤ b.least) = true then if inn b.most b.least 200000 = true then if C0.cu b.cur = true then if b.cuts.all cutB = true then if barB none b.bar = true then 0 else 1 else 1 else 11 else 10 else 10 else 1 else 1 else 1 else 1 else 1 else 1 else 1 := by
  rw [len_inn]
  unfold bkE
  cases inn b.id 1 64 with
  | false => rfl
  | true =>
    cases amt b.ver with
    | false => rfl
    | true =>
      cases inn b.rat 0 20 with
      | false => rfl
      | true =>
        cases inn b.iss 0 1000000 with
        | false => rfl
        | true =>
          cases inn b.ass 0 1000000 with
          | false => rfl
          | true =>
            cases decide (1 ≤ b.cuts.length) with
            | false => rfl
            | true =>
              cases decide (b.cuts.length ≤ 64) with
              | false => rfl
              | true =>
                cases decide (b.bar.length ≤ 64) with
                | false => rfl
                | true =>
                  cases decide (0 ≤ b.least) with
                  | false => rfl
                  | true =>
                    cases inn b.most b.least 200000 with
                    | false => rfl
                    | true =>
                      cases C0.cu b.cur with
                      | false => rfl
                      | true =>
                        cases b.cuts.all cutB with
                        | false => rfl
                        | true =>
                          cases barB none b.bar with
                          | false => rfl
                          | true =>
                            rfl
end Go.Proofs.Ytheikjjehidagaa.H5.N14
