/-
  DERIVED. GIVEN WITH THE SEED: THE CARDS: each row of YtceofkjefmilfaaGreatDoorRows.lean that lists a variable, with what it lists TIED to the program's text (the seventh form; the later family's looks); each row that meets fmt, with fmt's text TOLD by the authors' own Lean function (tested against real Go, not proved from fmt's source: count such statements apart). THE CARD IS WHAT COUNTS. Prove the row's statement (the work); the ties are given (YtceofkjefmilfaaGreatDoorTie.lean); close each card by the builder's one call (the guide's Derived/Test/ToyasCard.lean, 'card_holds'). Laid BY PROGRAM, IN A SANDBOX (cutbox-door.mjs). By AI agents, Wed Nov 11 2026. No macro, syntax, notation, axiom, sorry.
-/
import Derived.Test.YtceofkjefmilfaaGreatDoorRows
import GoSem.ClaimSeven
namespace Go.Proofs.YtceofkjefmilfaaGreatDoor
namespace Rows

/-- THE TIED CARD OF 'dioptralaw12.GivensTurns'. -/
def givensTurnsCard : Claim7 := { stood := { row := givensTurnsRow, standIns := [], harness := (true, "2a1c9d47ec152c6d51877dd79dd917927f85580602566abfbcea05e7779915ea"), looks := false }, kinds := [], alts := [], laidByText := true, laidKinds := [.data], laidTests := true, laidLooks := .later }
def GivensTurnsCardSaid : Prop := Claim7.holds Tryz.pinned (.plain (OpenSpec.ofChange givensTurnsSpec)) givensTurnsCard

/-- THE TIED CARD OF 'dioptralaw12.GivensRows'. -/
def givensRowsCard : Claim7 := { stood := { row := givensRowsRow, standIns := [], harness := (true, "2a1c9d47ec152c6d51877dd79dd917927f85580602566abfbcea05e7779915ea"), looks := false }, kinds := [], alts := [], laidByText := true, laidKinds := [.data], laidTests := true, laidLooks := .later }
def GivensRowsCardSaid : Prop := Claim7.holds Tryz.pinned (.plain (OpenSpec.ofChange givensRowsSpec)) givensRowsCard

/-- THE TIED CARD OF 'dioptralaw12.GivensOne'. -/
def givensOneCard : Claim7 := { stood := { row := givensOneRow, standIns := [], harness := (true, "2a1c9d47ec152c6d51877dd79dd917927f85580602566abfbcea05e7779915ea"), looks := false }, kinds := [], alts := [], laidByText := true, laidKinds := [.data], laidTests := true, laidLooks := .later }
def GivensOneCardSaid : Prop := Claim7.holds Tryz.pinned (.plain (OpenSpec.ofChange givensOneSpec)) givensOneCard

/-- THE TIED CARD OF 'dioptralaw12.GivensRight'. -/
def givensRightCard : Claim7 := { stood := { row := givensRightRow, standIns := [], harness := (true, "2a1c9d47ec152c6d51877dd79dd917927f85580602566abfbcea05e7779915ea"), looks := false }, kinds := [], alts := [], laidByText := true, laidKinds := [.data], laidTests := true, laidLooks := .later }
def GivensRightCardSaid : Prop := Claim7.holds Tryz.pinned (.plain (OpenSpec.ofChange givensRightSpec)) givensRightCard

/-- THE TIED CARD OF 'dioptralaw12.GivensKeeps'. -/
def givensKeepsCard : Claim7 := { stood := { row := givensKeepsRow, standIns := [], harness := (true, "2a1c9d47ec152c6d51877dd79dd917927f85580602566abfbcea05e7779915ea"), looks := false }, kinds := [], alts := [], laidByText := true, laidKinds := [.data], laidTests := true, laidLooks := .later }
def GivensKeepsCardSaid : Prop := Claim7.holds Tryz.pinned (.plain (OpenSpec.ofChange givensKeepsSpec)) givensKeepsCard

/-- THE SECOND FORM's CARD OF 'dioptralaw12.GivensTurns'. -/
def givensTurnsUptoCard : Claim7 := { stood := { row := givensTurnsUptoRow, standIns := [], harness := (true, "2a1c9d47ec152c6d51877dd79dd917927f85580602566abfbcea05e7779915ea"), looks := false }, kinds := [], alts := [], laidByText := true, laidKinds := [.data], laidTests := true, laidLooks := .later }
def GivensTurnsUptoCardSaid : Prop := Claim7.holds Tryz.pinned (.plain (OpenSpec.upto givensTurnsSpec)) givensTurnsUptoCard

/-- THE SECOND FORM's CARD OF 'dioptralaw12.GivensRows'. -/
def givensRowsUptoCard : Claim7 := { stood := { row := givensRowsUptoRow, standIns := [], harness := (true, "2a1c9d47ec152c6d51877dd79dd917927f85580602566abfbcea05e7779915ea"), looks := false }, kinds := [], alts := [], laidByText := true, laidKinds := [.data], laidTests := true, laidLooks := .later }
def GivensRowsUptoCardSaid : Prop := Claim7.holds Tryz.pinned (.plain (OpenSpec.upto givensRowsSpec)) givensRowsUptoCard

/-- THE SECOND FORM's CARD OF 'dioptralaw12.GivensOne'. -/
def givensOneUptoCard : Claim7 := { stood := { row := givensOneUptoRow, standIns := [], harness := (true, "2a1c9d47ec152c6d51877dd79dd917927f85580602566abfbcea05e7779915ea"), looks := false }, kinds := [], alts := [], laidByText := true, laidKinds := [.data], laidTests := true, laidLooks := .later }
def GivensOneUptoCardSaid : Prop := Claim7.holds Tryz.pinned (.plain (OpenSpec.upto givensOneSpec)) givensOneUptoCard

/-- THE SECOND FORM's CARD OF 'dioptralaw12.GivensRight'. -/
def givensRightUptoCard : Claim7 := { stood := { row := givensRightUptoRow, standIns := [], harness := (true, "2a1c9d47ec152c6d51877dd79dd917927f85580602566abfbcea05e7779915ea"), looks := false }, kinds := [], alts := [], laidByText := true, laidKinds := [.data], laidTests := true, laidLooks := .later }
def GivensRightUptoCardSaid : Prop := Claim7.holds Tryz.pinned (.plain (OpenSpec.upto givensRightSpec)) givensRightUptoCard

/-- THE SECOND FORM's CARD OF 'dioptralaw12.GivensKeeps'. -/
def givensKeepsUptoCard : Claim7 := { stood := { row := givensKeepsUptoRow, standIns := [], harness := (true, "2a1c9d47ec152c6d51877dd79dd917927f85580602566abfbcea05e7779915ea"), looks := false }, kinds := [], alts := [], laidByText := true, laidKinds := [.data], laidTests := true, laidLooks := .later }
def GivensKeepsUptoCardSaid : Prop := Claim7.holds Tryz.pinned (.plain (OpenSpec.upto givensKeepsSpec)) givensKeepsUptoCard
end Rows
end Go.Proofs.YtceofkjefmilfaaGreatDoor
