/- Layer 4, numbers alone: small letters, plain letters, columns, cuts, fits, and the test of a name, sign by sign. -/
import Derived.Test.YtdmlgheajblcdaaGreatFB
import Derived.WalkKit
namespace Go.Proofs.YtdmlgheajblcdaaGreat.N4
open Go.RowKit
set_option linter.unusedVariables false
set_option linter.unusedSimpArgs false
def wd (c : Nat) : Nat :=
  if c < 32 ∨ 127 ≤ c ∧ c ≤ 159 ∨ 768 ≤ c ∧ c ≤ 879 then 0
  else if 4352 ≤ c ∧ c ≤ 4447 ∨ 11904 ≤ c ∧ c ≤ 42191 ∨ 44032 ≤ c ∧ c ≤ 55203 ∨ 63744 ≤ c ∧ c ≤ 64255 ∨ 65281 ≤ c ∧ c ≤ 65376 ∨ 127744 ≤ c ∧ c ≤ 128591 then 2
  else 1
abbrev Let (c : Nat) : Prop := 97 ≤ c ∧ c ≤ 122 ∨ 65 ≤ c ∧ c ≤ 90 ∨ 192 ≤ c ∧ c ≤ 383 ∧ c ≠ 215 ∧ c ≠ 247
abbrev Dig (c : Nat) : Prop := 48 ≤ c ∧ c ≤ 57
abbrev Jnt (c : Nat) : Prop := c = 32 ∨ c = 45 ∨ c = 46 ∨ c = 38 ∨ c = 39
abbrev Bad (k last c : Nat) : Prop := ¬ Let c ∧ (k = 0 ∨ ¬ Dig c ∧ ¬ Jnt c) ∨ 0 < k ∧ c = 32 ∧ Jnt last ∧ last ≠ 46 ∧ last ≠ 38
def chkG (z : Nat) : List (Nat × Nat × Bool) → Nat → Nat → Nat × Nat
  | [], k, last => (z, if k = 0 ∨ last = 32 then 11 else 0)
  | x :: L, k, last => if k = 40 then (x.1, 2) else if Bad k last x.2.1 then (x.1, 11) else chkG z L (k + 1) x.2.1
end Go.Proofs.YtdmlgheajblcdaaGreat.N4
