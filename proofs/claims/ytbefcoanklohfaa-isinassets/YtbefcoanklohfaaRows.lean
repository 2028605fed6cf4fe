/-
  No cell of these rows narrows 'for every input' (looked for: loops, veiled, ifaces, maps, wideKeys, modest, calm, conditions, laid).
  DERIVED. THE GIVEN ROWS OF THIS SEAT. 3 by the template 'for every input the law returns true; each argument reads behind the call as it read before'; 0 by the template 'total and deterministic' (their statements: YtbefcoanklohfaaTotals.lean).
  GIVEN WITH THE SEED: the statements are not yours to turn. If you find one false, say at which input.
  Laid BY PROGRAM, IN A SANDBOX (cutbox-rows.mjs): the forced cells as the released guide's own fill.sh prints them over the translation 484be336b644370c… (all of the seat's roots in one cut). By AI agents, Wed Nov 11 2026. No macro, syntax, notation, axiom, sorry.
-/
import Derived.Test.YtbefcoanklohfaaChecked
import GoSem.Claim
import GoSem.ClaimJoined
import GoSem.ClaimMapViews
import Derived.JoinedTies
import Derived.KernelRfl
namespace Go.Proofs.Ytbefcoanklohfaa
/- THE CELL 'sum', in the pinned program and in every row, IS THE sha256 OF THE DUMP (.gsa) THAT YtbefcoanklohfaaProg.lean LOADS. Nothing in Lean hashes anything: it is a label: what it is worth is what the hold of that sum in a sandbox is worth. -/
noncomputable def Try.pinned : Pinned := { name := "ytbefcoanklohfaa", sum := "484be336b644370c1aef47d64ae09d2493ada63712c1a104a9af1980cadf14e4", checked := Try.checked }
namespace Rows
def none {H : Type} : Left H := { results := [], args := [] }

/-- 'lombardlaw05.IsinDigits': WHATEVER THE INPUT: true; the input reads as it did. -/
def isinDigitsSpec : ChangeSpec := { name := "isinDigits", fn := fun _ => fun
  | [d1, d2] => { results := [.lit (.bool true)], args := [d1, d2] }
  | _ => none }
def isinDigitsRow : OpenClaim := { program := "ytbefcoanklohfaa", sum := "484be336b644370c1aef47d64ae09d2493ada63712c1a104a9af1980cadf14e4", func := "lombard/lombardlaw05.IsinDigits", spec := "isinDigits", inPlace := ["internal/abi.NoEscape", "internal/bytealg.MakeNoZero"], apart := false }
def IsinDigitsSaid : Prop := isinDigitsRow.holds Try.pinned (OpenSpec.ofChange isinDigitsSpec)

/-- ITS FALSE NEIGHBOUR: 'it returns false'. Refute it at one input. -/
def isinDigitsWrong : ChangeSpec := { name := "isinDigits", fn := fun _ => fun
  | [d1, d2] => { results := [.lit (.bool false)], args := [d1, d2] }
  | _ => none }
def IsinDigitsWrongFalsely : Prop := isinDigitsRow.holds Try.pinned (OpenSpec.ofChange isinDigitsWrong)

/-- 'lombardlaw05.IsinAssets': WHATEVER THE INPUT: true; the input reads as it did. -/
def isinAssetsSpec : ChangeSpec := { name := "isinAssets", fn := fun _ => fun
  | [d1, d2] => { results := [.lit (.bool true)], args := [d1, d2] }
  | _ => none }
def isinAssetsRow : OpenClaim := { program := "ytbefcoanklohfaa", sum := "484be336b644370c1aef47d64ae09d2493ada63712c1a104a9af1980cadf14e4", func := "lombard/lombardlaw05.IsinAssets", spec := "isinAssets", inPlace := ["internal/abi.NoEscape", "internal/bytealg.MakeNoZero"], apart := false }
def IsinAssetsSaid : Prop := isinAssetsRow.holds Try.pinned (OpenSpec.ofChange isinAssetsSpec)

/-- ITS FALSE NEIGHBOUR: 'it returns false'. Refute it at one input. -/
def isinAssetsWrong : ChangeSpec := { name := "isinAssets", fn := fun _ => fun
  | [d1, d2] => { results := [.lit (.bool false)], args := [d1, d2] }
  | _ => none }
def IsinAssetsWrongFalsely : Prop := isinAssetsRow.holds Try.pinned (OpenSpec.ofChange isinAssetsWrong)

/-- 'lombardlaw05.IsinSlips': WHATEVER THE INPUT: true; the input reads as it did. -/
def isinSlipsSpec : ChangeSpec := { name := "isinSlips", fn := fun _ => fun
  | [d1, d2, d3] => { results := [.lit (.bool true)], args := [d1, d2, d3] }
  | _ => none }
def isinSlipsRow : OpenClaim := { program := "ytbefcoanklohfaa", sum := "484be336b644370c1aef47d64ae09d2493ada63712c1a104a9af1980cadf14e4", func := "lombard/lombardlaw05.IsinSlips", spec := "isinSlips", inPlace := ["internal/abi.NoEscape", "internal/bytealg.MakeNoZero"], apart := false }
def IsinSlipsSaid : Prop := isinSlipsRow.holds Try.pinned (OpenSpec.ofChange isinSlipsSpec)

/-- ITS FALSE NEIGHBOUR: 'it returns false'. Refute it at one input. -/
def isinSlipsWrong : ChangeSpec := { name := "isinSlips", fn := fun _ => fun
  | [d1, d2, d3] => { results := [.lit (.bool false)], args := [d1, d2, d3] }
  | _ => none }
def IsinSlipsWrongFalsely : Prop := isinSlipsRow.holds Try.pinned (OpenSpec.ofChange isinSlipsWrong)

/- THE SECOND FORM. 'bulk': how many values and letters a reading holds, each counted each time it is reached (what is shared counts as often as it is met; a slice's spare places count too). A statement '..UptoSaid' is the law's where the arguments, and the package variables that the reading takes, are together of bulk at most 1048576: NARROWER than '..Said'. Prove '..Said' where nothing that the law and all that it calls make is longer than what came in: it says more and counts as full. Else prove '..UptoSaid'. A law counts once. -/
mutual
def uptoBulk {H : Type} : DataW H → Nat
  | .lit (.string bytes) => bytes.length + 1
  | .lit _ => 1
  | .nil => 1
  | .ptr d => uptoBulk d + 1
  | .slice elems spare => uptoBulkAll elems + uptoBulkAll spare + 1
  | .agg parts => uptoBulkAll parts + 1
  | .iface _ d => uptoBulk d + 1
  | .map entries => uptoBulkEntries entries + 1
  | .held _ => 1
def uptoBulkAll {H : Type} : List (DataW H) → Nat
  | [] => 0
  | d :: r => uptoBulk d + uptoBulkAll r
def uptoBulkEntries {H : Type} : List (Lit × DataW H) → Nat
  | [] => 0
  | x :: r => uptoBulkEntry x + uptoBulkEntries r
def uptoBulkEntry {H : Type} : Lit × DataW H → Nat
  | (.string bytes, d) => bytes.length + uptoBulk d + 1
  | (_, d) => uptoBulk d + 1
 end
def uptoSmall : (H : Type) → List (DataW H) → Bool := fun _ ds => decide (uptoBulkAll ds ≤ 1048576)
def OpenSpec.upto (s : _root_.Go.ChangeSpec) : _root_.Go.OpenSpec := { _root_.Go.OpenSpec.ofChange s with cond := some uptoSmall }

/-- 'lombardlaw05.IsinDigits', WHERE WHAT IT READS IS OF BULK AT MOST 1048576: true; the input reads as it did. -/
def isinDigitsUptoRow : OpenClaim := { program := "ytbefcoanklohfaa", sum := "484be336b644370c1aef47d64ae09d2493ada63712c1a104a9af1980cadf14e4", func := "lombard/lombardlaw05.IsinDigits", spec := "isinDigits", inPlace := ["internal/abi.NoEscape", "internal/bytealg.MakeNoZero"], apart := false, narrowed := true }
def IsinDigitsUptoSaid : Prop := isinDigitsUptoRow.holds Try.pinned (OpenSpec.upto isinDigitsSpec)

/-- 'lombardlaw05.IsinAssets', WHERE WHAT IT READS IS OF BULK AT MOST 1048576: true; the input reads as it did. -/
def isinAssetsUptoRow : OpenClaim := { program := "ytbefcoanklohfaa", sum := "484be336b644370c1aef47d64ae09d2493ada63712c1a104a9af1980cadf14e4", func := "lombard/lombardlaw05.IsinAssets", spec := "isinAssets", inPlace := ["internal/abi.NoEscape", "internal/bytealg.MakeNoZero"], apart := false, narrowed := true }
def IsinAssetsUptoSaid : Prop := isinAssetsUptoRow.holds Try.pinned (OpenSpec.upto isinAssetsSpec)

/-- 'lombardlaw05.IsinSlips', WHERE WHAT IT READS IS OF BULK AT MOST 1048576: true; the input reads as it did. -/
def isinSlipsUptoRow : OpenClaim := { program := "ytbefcoanklohfaa", sum := "484be336b644370c1aef47d64ae09d2493ada63712c1a104a9af1980cadf14e4", func := "lombard/lombardlaw05.IsinSlips", spec := "isinSlips", inPlace := ["internal/abi.NoEscape", "internal/bytealg.MakeNoZero"], apart := false, narrowed := true }
def IsinSlipsUptoSaid : Prop := isinSlipsUptoRow.holds Try.pinned (OpenSpec.upto isinSlipsSpec)

end Rows
end Go.Proofs.Ytbefcoanklohfaa
