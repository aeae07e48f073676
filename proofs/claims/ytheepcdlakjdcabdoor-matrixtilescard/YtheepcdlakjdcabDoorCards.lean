/-
  DERIVED. GIVEN WITH THE SEED: THE CARDS: each row of YtheepcdlakjdcabDoorRows.lean that lists a variable, with what it lists TIED to the program's text (the seventh form; the later family's looks); each row that meets fmt, with fmt's text TOLD by the authors' own Lean function (tested against real Go, not proved from fmt's source: count such statements apart). THE CARD IS WHAT COUNTS. Prove the row's statement (the work); the ties are given (YtheepcdlakjdcabDoorTie.lean); close each card by the builder's one call (the guide's Derived/Test/ToyasCard.lean, 'card_holds'). Laid BY PROGRAM, IN A SANDBOX (cutbox-door.mjs). By AI agents, Wed Nov 11 2026. No macro, syntax, notation, axiom, sorry.
-/
import Derived.Test.YtheepcdlakjdcabDoorRows
import GoSem.ClaimSeven
namespace Go.Proofs.YtheepcdlakjdcabDoor
namespace Rows

/-- THE TIED CARD OF 'dioptralaw10.MatrixTiles'. -/
def matrixTilesCard : Claim7 := { stood := { row := matrixTilesRow, standIns := [], harness := (true, "2446c552ac69398bcf84e0d6bb40092c24007f7eca350ca63a9874451b2010eb"), looks := false }, kinds := [], alts := [], laidByText := true, laidKinds := [.data], laidTests := true, laidLooks := .later }
def MatrixTilesCardSaid : Prop := Claim7.holds Tryd.pinned (.plain (OpenSpec.ofChange matrixTilesSpec)) matrixTilesCard

/-- THE SECOND FORM's CARD OF 'dioptralaw10.MatrixTiles'. -/
def matrixTilesUptoCard : Claim7 := { stood := { row := matrixTilesUptoRow, standIns := [], harness := (true, "2446c552ac69398bcf84e0d6bb40092c24007f7eca350ca63a9874451b2010eb"), looks := false }, kinds := [], alts := [], laidByText := true, laidKinds := [.data], laidTests := true, laidLooks := .later }
def MatrixTilesUptoCardSaid : Prop := Claim7.holds Tryd.pinned (.plain (OpenSpec.upto matrixTilesSpec)) matrixTilesUptoCard
end Rows
end Go.Proofs.YtheepcdlakjdcabDoor
