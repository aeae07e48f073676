/-
  DERIVED. GIVEN WITH THE SEED: THE CARDS: each row of YtheepcdlakjdcaaGreatDoorRows.lean that lists a variable, with what it lists TIED to the program's text (the seventh form; the later family's looks); each row that meets fmt, with fmt's text TOLD by the authors' own Lean function (tested against real Go, not proved from fmt's source: count such statements apart). THE CARD IS WHAT COUNTS. Prove the row's statement (the work); the ties are given (YtheepcdlakjdcaaGreatDoorTie.lean); close each card by the builder's one call (the guide's Derived/Test/ToyasCard.lean, 'card_holds'). Laid BY PROGRAM, IN A SANDBOX (cutbox-door.mjs). By AI agents, Wed Nov 11 2026. No macro, syntax, notation, axiom, sorry.
-/
import Derived.Test.YtheepcdlakjdcaaGreatDoorRows
import GoSem.ClaimSeven
namespace Go.Proofs.YtheepcdlakjdcaaGreatDoor
namespace Rows

/-- THE TIED CARD OF 'dioptralaw10.MatrixMuls'. -/
def matrixMulsCard : Claim7 := { stood := { row := matrixMulsRow, standIns := [], harness := (true, "37c88460108b016de9254e399add3b0c4b4b4818da0c3d779de787025c68a0d6"), looks := false }, kinds := [], alts := [], laidByText := true, laidKinds := [.data], laidTests := true, laidLooks := .later }
def MatrixMulsCardSaid : Prop := Claim7.holds Tryz.pinned (.plain (OpenSpec.ofChange matrixMulsSpec)) matrixMulsCard

/-- THE SECOND FORM's CARD OF 'dioptralaw10.MatrixMuls'. -/
def matrixMulsUptoCard : Claim7 := { stood := { row := matrixMulsUptoRow, standIns := [], harness := (true, "37c88460108b016de9254e399add3b0c4b4b4818da0c3d779de787025c68a0d6"), looks := false }, kinds := [], alts := [], laidByText := true, laidKinds := [.data], laidTests := true, laidLooks := .later }
def MatrixMulsUptoCardSaid : Prop := Claim7.holds Tryz.pinned (.plain (OpenSpec.upto matrixMulsSpec)) matrixMulsUptoCard
end Rows
end Go.Proofs.YtheepcdlakjdcaaGreatDoor
