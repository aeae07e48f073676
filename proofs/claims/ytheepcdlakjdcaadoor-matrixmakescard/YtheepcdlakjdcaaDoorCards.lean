/-
  DERIVED. GIVEN WITH THE SEED: THE CARDS: each row of YtheepcdlakjdcaaDoorRows.lean that lists a variable, with what it lists TIED to the program's text (the seventh form; the later family's looks); each row that meets fmt, with fmt's text TOLD by the authors' own Lean function (tested against real Go, not proved from fmt's source: count such statements apart). THE CARD IS WHAT COUNTS. Prove the row's statement (the work); the ties are given (YtheepcdlakjdcaaDoorTie.lean); close each card by the builder's one call (the guide's Derived/Test/ToyasCard.lean, 'card_holds'). Laid BY PROGRAM, IN A SANDBOX (cutbox-door.mjs). By AI agents, Wed Nov 11 2026. No macro, syntax, notation, axiom, sorry.
-/
import Derived.Test.YtheepcdlakjdcaaDoorRows
import GoSem.ClaimSeven
namespace Go.Proofs.YtheepcdlakjdcaaDoor
namespace Rows

/-- THE TIED CARD OF 'dioptralaw10.MatrixChecks'. -/
def matrixChecksCard : Claim7 := { stood := { row := matrixChecksRow, standIns := [], harness := (true, "f7950626797f4a4c1e75b5ef4e9287aa01837a9f883daa5a144737d941460d1d"), looks := false }, kinds := [], alts := [], laidByText := true, laidKinds := [.data], laidTests := true, laidLooks := .later }
def MatrixChecksCardSaid : Prop := Claim7.holds Tryd.pinned (.plain (OpenSpec.ofChange matrixChecksSpec)) matrixChecksCard

/-- THE TIED CARD OF 'dioptralaw10.MatrixMakes'. -/
def matrixMakesCard : Claim7 := { stood := { row := matrixMakesRow, standIns := [], harness := (true, "f7950626797f4a4c1e75b5ef4e9287aa01837a9f883daa5a144737d941460d1d"), looks := false }, kinds := [], alts := [], laidByText := true, laidKinds := [.data], laidTests := true, laidLooks := .later }
def MatrixMakesCardSaid : Prop := Claim7.holds Tryd.pinned (.plain (OpenSpec.ofChange matrixMakesSpec)) matrixMakesCard

/-- THE TIED CARD OF 'dioptralaw10.MatrixParts'. -/
def matrixPartsCard : Claim7 := { stood := { row := matrixPartsRow, standIns := [], harness := (true, "f7950626797f4a4c1e75b5ef4e9287aa01837a9f883daa5a144737d941460d1d"), looks := false }, kinds := [], alts := [], laidByText := true, laidKinds := [.data], laidTests := true, laidLooks := .later }
def MatrixPartsCardSaid : Prop := Claim7.holds Tryd.pinned (.plain (OpenSpec.ofChange matrixPartsSpec)) matrixPartsCard

/-- THE TIED CARD OF 'dioptralaw10.MatrixStacks'. -/
def matrixStacksCard : Claim7 := { stood := { row := matrixStacksRow, standIns := [], harness := (true, "f7950626797f4a4c1e75b5ef4e9287aa01837a9f883daa5a144737d941460d1d"), looks := false }, kinds := [], alts := [], laidByText := true, laidKinds := [.data], laidTests := true, laidLooks := .later }
def MatrixStacksCardSaid : Prop := Claim7.holds Tryd.pinned (.plain (OpenSpec.ofChange matrixStacksSpec)) matrixStacksCard

/-- THE TIED CARD OF 'dioptralaw10.MatrixTurns'. -/
def matrixTurnsCard : Claim7 := { stood := { row := matrixTurnsRow, standIns := [], harness := (true, "f7950626797f4a4c1e75b5ef4e9287aa01837a9f883daa5a144737d941460d1d"), looks := false }, kinds := [], alts := [], laidByText := true, laidKinds := [.data], laidTests := true, laidLooks := .later }
def MatrixTurnsCardSaid : Prop := Claim7.holds Tryd.pinned (.plain (OpenSpec.ofChange matrixTurnsSpec)) matrixTurnsCard

/-- THE SECOND FORM's CARD OF 'dioptralaw10.MatrixChecks'. -/
def matrixChecksUptoCard : Claim7 := { stood := { row := matrixChecksUptoRow, standIns := [], harness := (true, "f7950626797f4a4c1e75b5ef4e9287aa01837a9f883daa5a144737d941460d1d"), looks := false }, kinds := [], alts := [], laidByText := true, laidKinds := [.data], laidTests := true, laidLooks := .later }
def MatrixChecksUptoCardSaid : Prop := Claim7.holds Tryd.pinned (.plain (OpenSpec.upto matrixChecksSpec)) matrixChecksUptoCard

/-- THE SECOND FORM's CARD OF 'dioptralaw10.MatrixMakes'. -/
def matrixMakesUptoCard : Claim7 := { stood := { row := matrixMakesUptoRow, standIns := [], harness := (true, "f7950626797f4a4c1e75b5ef4e9287aa01837a9f883daa5a144737d941460d1d"), looks := false }, kinds := [], alts := [], laidByText := true, laidKinds := [.data], laidTests := true, laidLooks := .later }
def MatrixMakesUptoCardSaid : Prop := Claim7.holds Tryd.pinned (.plain (OpenSpec.upto matrixMakesSpec)) matrixMakesUptoCard

/-- THE SECOND FORM's CARD OF 'dioptralaw10.MatrixParts'. -/
def matrixPartsUptoCard : Claim7 := { stood := { row := matrixPartsUptoRow, standIns := [], harness := (true, "f7950626797f4a4c1e75b5ef4e9287aa01837a9f883daa5a144737d941460d1d"), looks := false }, kinds := [], alts := [], laidByText := true, laidKinds := [.data], laidTests := true, laidLooks := .later }
def MatrixPartsUptoCardSaid : Prop := Claim7.holds Tryd.pinned (.plain (OpenSpec.upto matrixPartsSpec)) matrixPartsUptoCard

/-- THE SECOND FORM's CARD OF 'dioptralaw10.MatrixStacks'. -/
def matrixStacksUptoCard : Claim7 := { stood := { row := matrixStacksUptoRow, standIns := [], harness := (true, "f7950626797f4a4c1e75b5ef4e9287aa01837a9f883daa5a144737d941460d1d"), looks := false }, kinds := [], alts := [], laidByText := true, laidKinds := [.data], laidTests := true, laidLooks := .later }
def MatrixStacksUptoCardSaid : Prop := Claim7.holds Tryd.pinned (.plain (OpenSpec.upto matrixStacksSpec)) matrixStacksUptoCard

/-- THE SECOND FORM's CARD OF 'dioptralaw10.MatrixTurns'. -/
def matrixTurnsUptoCard : Claim7 := { stood := { row := matrixTurnsUptoRow, standIns := [], harness := (true, "f7950626797f4a4c1e75b5ef4e9287aa01837a9f883daa5a144737d941460d1d"), looks := false }, kinds := [], alts := [], laidByText := true, laidKinds := [.data], laidTests := true, laidLooks := .later }
def MatrixTurnsUptoCardSaid : Prop := Claim7.holds Tryd.pinned (.plain (OpenSpec.upto matrixTurnsSpec)) matrixTurnsUptoCard
end Rows
end Go.Proofs.YtheepcdlakjdcaaDoor
