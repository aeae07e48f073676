/-
  DERIVED. GIVEN WITH THE SEED: THE CARDS: each row of YtlbggedahpnjgaaGreatDoorRows.lean that lists a variable, with what it lists TIED to the program's text (the seventh form; the later family's looks); each row that meets fmt, with fmt's text TOLD by the authors' own Lean function (tested against real Go, not proved from fmt's source: count such statements apart). THE CARD IS WHAT COUNTS. Prove the row's statement (the work); the ties are given (YtlbggedahpnjgaaGreatDoorTie.lean); close each card by the builder's one call (the guide's Derived/Test/ToyasCard.lean, 'card_holds'). Laid BY PROGRAM, IN A SANDBOX (cutbox-door.mjs). By AI agents, Wed Nov 11 2026. No macro, syntax, notation, axiom, sorry.
-/
import Derived.Test.YtlbggedahpnjgaaGreatDoorRows
import GoSem.ClaimSeven
namespace Go.Proofs.YtlbggedahpnjgaaGreatDoor
namespace Rows

/-- THE TIED CARD OF 'dioptralaw09.VectorAxpys'. -/
def vectorAxpysCard : Claim7 := { stood := { row := vectorAxpysRow, standIns := [], harness := (true, "4f053c8570fb98c3a3adb2967ee4b11a8c2ebe40fef7564d6c6eee1260e49347"), looks := false }, kinds := [], alts := [], laidByText := true, laidKinds := [.data], laidTests := true, laidLooks := .later }
def VectorAxpysCardSaid : Prop := Claim7.holds Tryz.pinned (.plain (OpenSpec.ofChange vectorAxpysSpec)) vectorAxpysCard

/-- THE TIED CARD OF 'dioptralaw09.VectorNorms'. -/
def vectorNormsCard : Claim7 := { stood := { row := vectorNormsRow, standIns := [], harness := (true, "4f053c8570fb98c3a3adb2967ee4b11a8c2ebe40fef7564d6c6eee1260e49347"), looks := false }, kinds := [], alts := [], laidByText := true, laidKinds := [.data], laidTests := true, laidLooks := .later }
def VectorNormsCardSaid : Prop := Claim7.holds Tryz.pinned (.plain (OpenSpec.ofChange vectorNormsSpec)) vectorNormsCard

/-- THE TIED CARD OF 'dioptralaw09.VectorRight'. -/
def vectorRightCard : Claim7 := { stood := { row := vectorRightRow, standIns := [], harness := (true, "4f053c8570fb98c3a3adb2967ee4b11a8c2ebe40fef7564d6c6eee1260e49347"), looks := false }, kinds := [], alts := [], laidByText := true, laidKinds := [.data], laidTests := true, laidLooks := .later }
def VectorRightCardSaid : Prop := Claim7.holds Tryz.pinned (.plain (OpenSpec.ofChange vectorRightSpec)) vectorRightCard

/-- THE TIED CARD OF 'dioptralaw09.VectorSigns'. -/
def vectorSignsCard : Claim7 := { stood := { row := vectorSignsRow, standIns := [], harness := (true, "4f053c8570fb98c3a3adb2967ee4b11a8c2ebe40fef7564d6c6eee1260e49347"), looks := false }, kinds := [], alts := [], laidByText := true, laidKinds := [.data], laidTests := true, laidLooks := .later }
def VectorSignsCardSaid : Prop := Claim7.holds Tryz.pinned (.plain (OpenSpec.ofChange vectorSignsSpec)) vectorSignsCard

/-- THE TIED CARD OF 'dioptralaw09.VectorOrder'. -/
def vectorOrderCard : Claim7 := { stood := { row := vectorOrderRow, standIns := [], harness := (true, "4f053c8570fb98c3a3adb2967ee4b11a8c2ebe40fef7564d6c6eee1260e49347"), looks := false }, kinds := [], alts := [], laidByText := true, laidKinds := [.data], laidTests := true, laidLooks := .later }
def VectorOrderCardSaid : Prop := Claim7.holds Tryz.pinned (.plain (OpenSpec.ofChange vectorOrderSpec)) vectorOrderCard

/-- THE SECOND FORM's CARD OF 'dioptralaw09.VectorAxpys'. -/
def vectorAxpysUptoCard : Claim7 := { stood := { row := vectorAxpysUptoRow, standIns := [], harness := (true, "4f053c8570fb98c3a3adb2967ee4b11a8c2ebe40fef7564d6c6eee1260e49347"), looks := false }, kinds := [], alts := [], laidByText := true, laidKinds := [.data], laidTests := true, laidLooks := .later }
def VectorAxpysUptoCardSaid : Prop := Claim7.holds Tryz.pinned (.plain (OpenSpec.upto vectorAxpysSpec)) vectorAxpysUptoCard

/-- THE SECOND FORM's CARD OF 'dioptralaw09.VectorNorms'. -/
def vectorNormsUptoCard : Claim7 := { stood := { row := vectorNormsUptoRow, standIns := [], harness := (true, "4f053c8570fb98c3a3adb2967ee4b11a8c2ebe40fef7564d6c6eee1260e49347"), looks := false }, kinds := [], alts := [], laidByText := true, laidKinds := [.data], laidTests := true, laidLooks := .later }
def VectorNormsUptoCardSaid : Prop := Claim7.holds Tryz.pinned (.plain (OpenSpec.upto vectorNormsSpec)) vectorNormsUptoCard

/-- THE SECOND FORM's CARD OF 'dioptralaw09.VectorRight'. -/
def vectorRightUptoCard : Claim7 := { stood := { row := vectorRightUptoRow, standIns := [], harness := (true, "4f053c8570fb98c3a3adb2967ee4b11a8c2ebe40fef7564d6c6eee1260e49347"), looks := false }, kinds := [], alts := [], laidByText := true, laidKinds := [.data], laidTests := true, laidLooks := .later }
def VectorRightUptoCardSaid : Prop := Claim7.holds Tryz.pinned (.plain (OpenSpec.upto vectorRightSpec)) vectorRightUptoCard

/-- THE SECOND FORM's CARD OF 'dioptralaw09.VectorSigns'. -/
def vectorSignsUptoCard : Claim7 := { stood := { row := vectorSignsUptoRow, standIns := [], harness := (true, "4f053c8570fb98c3a3adb2967ee4b11a8c2ebe40fef7564d6c6eee1260e49347"), looks := false }, kinds := [], alts := [], laidByText := true, laidKinds := [.data], laidTests := true, laidLooks := .later }
def VectorSignsUptoCardSaid : Prop := Claim7.holds Tryz.pinned (.plain (OpenSpec.upto vectorSignsSpec)) vectorSignsUptoCard

/-- THE SECOND FORM's CARD OF 'dioptralaw09.VectorOrder'. -/
def vectorOrderUptoCard : Claim7 := { stood := { row := vectorOrderUptoRow, standIns := [], harness := (true, "4f053c8570fb98c3a3adb2967ee4b11a8c2ebe40fef7564d6c6eee1260e49347"), looks := false }, kinds := [], alts := [], laidByText := true, laidKinds := [.data], laidTests := true, laidLooks := .later }
def VectorOrderUptoCardSaid : Prop := Claim7.holds Tryz.pinned (.plain (OpenSpec.upto vectorOrderSpec)) vectorOrderUptoCard
end Rows
end Go.Proofs.YtlbggedahpnjgaaGreatDoor
