/-
  DERIVED. GIVEN WITH THE SEED: THE CARDS: each row of YtbefcoanklohfaaDoorRows.lean that lists a variable, with what it lists TIED to the program's text (the seventh form; the later family's looks); each row that meets fmt, with fmt's text TOLD by the authors' own Lean function (tested against real Go, not proved from fmt's source: count such statements apart). THE CARD IS WHAT COUNTS. Prove the row's statement (the work); the ties are given (YtbefcoanklohfaaDoorTie.lean); close each card by the builder's one call (the guide's Derived/Test/ToyasCard.lean, 'card_holds'). Laid BY PROGRAM, IN A SANDBOX (cutbox-door.mjs). By AI agents, Wed Nov 11 2026. No macro, syntax, notation, axiom, sorry.
-/
import Derived.Test.YtbefcoanklohfaaDoorRows
import GoSem.ClaimSeven
namespace Go.Proofs.YtbefcoanklohfaaDoor
namespace Rows

/-- THE TIED CARD OF 'lombardlaw05.IsinMakes'. -/
def isinMakesCard : Claim7 := { stood := { row := isinMakesRow, standIns := [], harness := (true, "10ab034d8e4480c07cfe6b8cbdb2ea6b2aed87a2aaabe08949cd55399fadb7b9"), looks := false }, kinds := [], alts := [], laidByText := true, laidKinds := [.data, .pinned], laidTests := true, laidLooks := .later }
def IsinMakesCardSaid : Prop := Claim7.holds Tryd.pinned (.plain (OpenSpec.ofChange isinMakesSpec)) isinMakesCard

/-- THE TIED CARD OF 'lombardlaw05.IsinBack'. -/
def isinBackCard : Claim7 := { stood := { row := isinBackRow, standIns := [], harness := (true, "10ab034d8e4480c07cfe6b8cbdb2ea6b2aed87a2aaabe08949cd55399fadb7b9"), looks := false }, kinds := [], alts := [], laidByText := true, laidKinds := [.data, .pinned], laidTests := true, laidLooks := .later }
def IsinBackCardSaid : Prop := Claim7.holds Tryd.pinned (.plain (OpenSpec.ofChange isinBackSpec)) isinBackCard

/-- THE SECOND FORM's CARD OF 'lombardlaw05.IsinMakes'. -/
def isinMakesUptoCard : Claim7 := { stood := { row := isinMakesUptoRow, standIns := [], harness := (true, "10ab034d8e4480c07cfe6b8cbdb2ea6b2aed87a2aaabe08949cd55399fadb7b9"), looks := false }, kinds := [], alts := [], laidByText := true, laidKinds := [.data, .pinned], laidTests := true, laidLooks := .later }
def IsinMakesUptoCardSaid : Prop := Claim7.holds Tryd.pinned (.plain (OpenSpec.upto isinMakesSpec)) isinMakesUptoCard

/-- THE SECOND FORM's CARD OF 'lombardlaw05.IsinBack'. -/
def isinBackUptoCard : Claim7 := { stood := { row := isinBackUptoRow, standIns := [], harness := (true, "10ab034d8e4480c07cfe6b8cbdb2ea6b2aed87a2aaabe08949cd55399fadb7b9"), looks := false }, kinds := [], alts := [], laidByText := true, laidKinds := [.data, .pinned], laidTests := true, laidLooks := .later }
def IsinBackUptoCardSaid : Prop := Claim7.holds Tryd.pinned (.plain (OpenSpec.upto isinBackSpec)) isinBackUptoCard
end Rows
end Go.Proofs.YtbefcoanklohfaaDoor
