/-
  DERIVED. GIVEN WITH THE SEED: THE CARDS: each row of YtlbggedahpnjgaaDoorRows.lean that lists a variable, with what it lists TIED to the program's text (the seventh form; the later family's looks); each row that meets fmt, with fmt's text TOLD by the authors' own Lean function (tested against real Go, not proved from fmt's source: count such statements apart). THE CARD IS WHAT COUNTS. Prove the row's statement (the work); the ties are given (YtlbggedahpnjgaaDoorTie.lean); close each card by the builder's one call (the guide's Derived/Test/ToyasCard.lean, 'card_holds'). Laid BY PROGRAM, IN A SANDBOX (cutbox-door.mjs). By AI agents, Wed Nov 11 2026. No macro, syntax, notation, axiom, sorry.
-/
import Derived.Test.YtlbggedahpnjgaaDoorRows
import GoSem.ClaimSeven
namespace Go.Proofs.YtlbggedahpnjgaaDoor
namespace Rows

/-- THE TIED CARD OF 'dioptralaw09.VectorDots'. -/
def vectorDotsCard : Claim7 := { stood := { row := vectorDotsRow, standIns := [], harness := (true, "9d91ca5591657ea2d2f68e17ae47b147b68342f43d43078adb6e96c2fed3b7ff"), looks := false }, kinds := [], alts := [], laidByText := true, laidKinds := [.data], laidTests := true, laidLooks := .later }
def VectorDotsCardSaid : Prop := Claim7.holds Tryd.pinned (.plain (OpenSpec.ofChange vectorDotsSpec)) vectorDotsCard

/-- THE SECOND FORM's CARD OF 'dioptralaw09.VectorDots'. -/
def vectorDotsUptoCard : Claim7 := { stood := { row := vectorDotsUptoRow, standIns := [], harness := (true, "9d91ca5591657ea2d2f68e17ae47b147b68342f43d43078adb6e96c2fed3b7ff"), looks := false }, kinds := [], alts := [], laidByText := true, laidKinds := [.data], laidTests := true, laidLooks := .later }
def VectorDotsUptoCardSaid : Prop := Claim7.holds Tryd.pinned (.plain (OpenSpec.upto vectorDotsSpec)) vectorDotsUptoCard
end Rows
end Go.Proofs.YtlbggedahpnjgaaDoor
