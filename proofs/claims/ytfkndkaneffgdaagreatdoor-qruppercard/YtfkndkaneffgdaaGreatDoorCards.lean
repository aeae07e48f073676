/-
  DERIVED. GIVEN WITH THE SEED: THE CARDS: each row of YtfkndkaneffgdaaGreatDoorRows.lean that lists a variable, with what it lists TIED to the program's text (the seventh form; the later family's looks); each row that meets fmt, with fmt's text TOLD by the authors' own Lean function (tested against real Go, not proved from fmt's source: count such statements apart). THE CARD IS WHAT COUNTS. Prove the row's statement (the work); the ties are given (YtfkndkaneffgdaaGreatDoorTie.lean); close each card by the builder's one call (the guide's Derived/Test/ToyasCard.lean, 'card_holds'). Laid BY PROGRAM, IN A SANDBOX (cutbox-door.mjs). By AI agents, Wed Nov 11 2026. No macro, syntax, notation, axiom, sorry.
-/
import Derived.Test.YtfkndkaneffgdaaGreatDoorRows
import GoSem.ClaimSeven
namespace Go.Proofs.YtfkndkaneffgdaaGreatDoor
namespace Rows

/-- THE TIED CARD OF 'dioptralaw14.QrFactors'. -/
def qrFactorsCard : Claim7 := { stood := { row := qrFactorsRow, standIns := [], harness := (true, "c05c575d2f38c853334f57ec6beb6389296f61935ce81be6e310540be1167bab"), looks := false }, kinds := [], alts := [], laidByText := true, laidKinds := [.data], laidTests := true, laidLooks := .later }
def QrFactorsCardSaid : Prop := Claim7.holds Tryz.pinned (.plain (OpenSpec.ofChange qrFactorsSpec)) qrFactorsCard

/-- THE TIED CARD OF 'dioptralaw14.QrThins'. -/
def qrThinsCard : Claim7 := { stood := { row := qrThinsRow, standIns := [], harness := (true, "c05c575d2f38c853334f57ec6beb6389296f61935ce81be6e310540be1167bab"), looks := false }, kinds := [], alts := [], laidByText := true, laidKinds := [.data], laidTests := true, laidLooks := .later }
def QrThinsCardSaid : Prop := Claim7.holds Tryz.pinned (.plain (OpenSpec.ofChange qrThinsSpec)) qrThinsCard

/-- THE TIED CARD OF 'dioptralaw14.QrUpper'. -/
def qrUpperCard : Claim7 := { stood := { row := qrUpperRow, standIns := [], harness := (true, "c05c575d2f38c853334f57ec6beb6389296f61935ce81be6e310540be1167bab"), looks := false }, kinds := [], alts := [], laidByText := true, laidKinds := [.data], laidTests := true, laidLooks := .later }
def QrUpperCardSaid : Prop := Claim7.holds Tryz.pinned (.plain (OpenSpec.ofChange qrUpperSpec)) qrUpperCard

/-- THE TIED CARD OF 'dioptralaw14.QrTurned'. -/
def qrTurnedCard : Claim7 := { stood := { row := qrTurnedRow, standIns := [], harness := (true, "c05c575d2f38c853334f57ec6beb6389296f61935ce81be6e310540be1167bab"), looks := false }, kinds := [], alts := [], laidByText := true, laidKinds := [.data], laidTests := true, laidLooks := .later }
def QrTurnedCardSaid : Prop := Claim7.holds Tryz.pinned (.plain (OpenSpec.ofChange qrTurnedSpec)) qrTurnedCard

/-- THE SECOND FORM's CARD OF 'dioptralaw14.QrFactors'. -/
def qrFactorsUptoCard : Claim7 := { stood := { row := qrFactorsUptoRow, standIns := [], harness := (true, "c05c575d2f38c853334f57ec6beb6389296f61935ce81be6e310540be1167bab"), looks := false }, kinds := [], alts := [], laidByText := true, laidKinds := [.data], laidTests := true, laidLooks := .later }
def QrFactorsUptoCardSaid : Prop := Claim7.holds Tryz.pinned (.plain (OpenSpec.upto qrFactorsSpec)) qrFactorsUptoCard

/-- THE SECOND FORM's CARD OF 'dioptralaw14.QrThins'. -/
def qrThinsUptoCard : Claim7 := { stood := { row := qrThinsUptoRow, standIns := [], harness := (true, "c05c575d2f38c853334f57ec6beb6389296f61935ce81be6e310540be1167bab"), looks := false }, kinds := [], alts := [], laidByText := true, laidKinds := [.data], laidTests := true, laidLooks := .later }
def QrThinsUptoCardSaid : Prop := Claim7.holds Tryz.pinned (.plain (OpenSpec.upto qrThinsSpec)) qrThinsUptoCard

/-- THE SECOND FORM's CARD OF 'dioptralaw14.QrUpper'. -/
def qrUpperUptoCard : Claim7 := { stood := { row := qrUpperUptoRow, standIns := [], harness := (true, "c05c575d2f38c853334f57ec6beb6389296f61935ce81be6e310540be1167bab"), looks := false }, kinds := [], alts := [], laidByText := true, laidKinds := [.data], laidTests := true, laidLooks := .later }
def QrUpperUptoCardSaid : Prop := Claim7.holds Tryz.pinned (.plain (OpenSpec.upto qrUpperSpec)) qrUpperUptoCard

/-- THE SECOND FORM's CARD OF 'dioptralaw14.QrTurned'. -/
def qrTurnedUptoCard : Claim7 := { stood := { row := qrTurnedUptoRow, standIns := [], harness := (true, "c05c575d2f38c853334f57ec6beb6389296f61935ce81be6e310540be1167bab"), looks := false }, kinds := [], alts := [], laidByText := true, laidKinds := [.data], laidTests := true, laidLooks := .later }
def QrTurnedUptoCardSaid : Prop := Claim7.holds Tryz.pinned (.plain (OpenSpec.upto qrTurnedSpec)) qrTurnedUptoCard
end Rows
end Go.Proofs.YtfkndkaneffgdaaGreatDoor
