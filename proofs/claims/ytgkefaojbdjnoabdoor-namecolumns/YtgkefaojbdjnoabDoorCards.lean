/-
  DERIVED. GIVEN WITH THE SEED: THE CARDS: each row of YtgkefaojbdjnoabDoorRows.lean that lists a variable, with what it lists TIED to the program's text (the seventh form; the later family's looks); each row that meets fmt, with fmt's text TOLD by the authors' own Lean function (tested against real Go, not proved from fmt's source: count such statements apart). THE CARD IS WHAT COUNTS. Prove the row's statement (the work); the ties are given (YtgkefaojbdjnoabDoorTie.lean); close each card by the builder's one call (the guide's Derived/Test/ToyasCard.lean, 'card_holds'). Laid BY PROGRAM, IN A SANDBOX (cutbox-door.mjs). By AI agents, Wed Nov 11 2026. No macro, syntax, notation, axiom, sorry.
-/
import Derived.Test.YtgkefaojbdjnoabDoorRows
import GoSem.ClaimSeven
namespace Go.Proofs.YtgkefaojbdjnoabDoor
namespace Rows

/-- THE TIED CARD OF 'lombardlaw04.NameColumns'. -/
def nameColumnsCard : Claim7 := { stood := { row := nameColumnsRow, standIns := [], harness := (true, "80efb0bf7df636fb7df56309bbe0d2e2107e6f7159b7992f43be1289ddbc9331"), looks := false }, kinds := [], alts := [], laidByText := true, laidKinds := [.listed, .data], laidTests := true, laidLooks := .later }
def NameColumnsCardSaid : Prop := Claim7.holds Tryd.pinned (.plain (OpenSpec.ofChange nameColumnsSpec)) nameColumnsCard

/-- THE SECOND FORM's CARD OF 'lombardlaw04.NameColumns'. -/
def nameColumnsUptoCard : Claim7 := { stood := { row := nameColumnsUptoRow, standIns := [], harness := (true, "80efb0bf7df636fb7df56309bbe0d2e2107e6f7159b7992f43be1289ddbc9331"), looks := false }, kinds := [], alts := [], laidByText := true, laidKinds := [.listed, .data], laidTests := true, laidLooks := .later }
def NameColumnsUptoCardSaid : Prop := Claim7.holds Tryd.pinned (.plain (OpenSpec.upto nameColumnsSpec)) nameColumnsUptoCard
end Rows
end Go.Proofs.YtgkefaojbdjnoabDoor
