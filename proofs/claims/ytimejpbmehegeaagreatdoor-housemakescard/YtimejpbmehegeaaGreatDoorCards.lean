/-
  DERIVED. GIVEN WITH THE SEED: THE CARDS: each row of YtimejpbmehegeaaGreatDoorRows.lean that lists a variable, with what it lists TIED to the program's text (the seventh form; the later family's looks); each row that meets fmt, with fmt's text TOLD by the authors' own Lean function (tested against real Go, not proved from fmt's source: count such statements apart). THE CARD IS WHAT COUNTS. Prove the row's statement (the work); the ties are given (YtimejpbmehegeaaGreatDoorTie.lean); close each card by the builder's one call (the guide's Derived/Test/ToyasCard.lean, 'card_holds'). Laid BY PROGRAM, IN A SANDBOX (cutbox-door.mjs). By AI agents, Wed Nov 11 2026. No macro, syntax, notation, axiom, sorry.
-/
import Derived.Test.YtimejpbmehegeaaGreatDoorRows
import GoSem.ClaimSeven
namespace Go.Proofs.YtimejpbmehegeaaGreatDoor
namespace Rows

/-- THE TIED CARD OF 'dioptralaw13.HouseMakes'. -/
def houseMakesCard : Claim7 := { stood := { row := houseMakesRow, standIns := [], harness := (true, "72314ac0c2c03e5c18c2fae9bbb04e21b0ae63af147008d5fefad77b5234125d"), looks := false }, kinds := [], alts := [], laidByText := true, laidKinds := [.data], laidTests := true, laidLooks := .later }
def HouseMakesCardSaid : Prop := Claim7.holds Tryz.pinned (.plain (OpenSpec.ofChange houseMakesSpec)) houseMakesCard

/-- THE TIED CARD OF 'dioptralaw13.HouseApplies'. -/
def houseAppliesCard : Claim7 := { stood := { row := houseAppliesRow, standIns := [], harness := (true, "72314ac0c2c03e5c18c2fae9bbb04e21b0ae63af147008d5fefad77b5234125d"), looks := false }, kinds := [], alts := [], laidByText := true, laidKinds := [.data], laidTests := true, laidLooks := .later }
def HouseAppliesCardSaid : Prop := Claim7.holds Tryz.pinned (.plain (OpenSpec.ofChange houseAppliesSpec)) houseAppliesCard

/-- THE TIED CARD OF 'dioptralaw13.HouseRight'. -/
def houseRightCard : Claim7 := { stood := { row := houseRightRow, standIns := [], harness := (true, "72314ac0c2c03e5c18c2fae9bbb04e21b0ae63af147008d5fefad77b5234125d"), looks := false }, kinds := [], alts := [], laidByText := true, laidKinds := [.data], laidTests := true, laidLooks := .later }
def HouseRightCardSaid : Prop := Claim7.holds Tryz.pinned (.plain (OpenSpec.ofChange houseRightSpec)) houseRightCard

/-- THE TIED CARD OF 'dioptralaw13.HouseMirrors'. -/
def houseMirrorsCard : Claim7 := { stood := { row := houseMirrorsRow, standIns := [], harness := (true, "72314ac0c2c03e5c18c2fae9bbb04e21b0ae63af147008d5fefad77b5234125d"), looks := false }, kinds := [], alts := [], laidByText := true, laidKinds := [.data], laidTests := true, laidLooks := .later }
def HouseMirrorsCardSaid : Prop := Claim7.holds Tryz.pinned (.plain (OpenSpec.ofChange houseMirrorsSpec)) houseMirrorsCard

/-- THE TIED CARD OF 'dioptralaw13.HouseKeeps'. -/
def houseKeepsCard : Claim7 := { stood := { row := houseKeepsRow, standIns := [], harness := (true, "72314ac0c2c03e5c18c2fae9bbb04e21b0ae63af147008d5fefad77b5234125d"), looks := false }, kinds := [], alts := [], laidByText := true, laidKinds := [.data], laidTests := true, laidLooks := .later }
def HouseKeepsCardSaid : Prop := Claim7.holds Tryz.pinned (.plain (OpenSpec.ofChange houseKeepsSpec)) houseKeepsCard

/-- THE SECOND FORM's CARD OF 'dioptralaw13.HouseMakes'. -/
def houseMakesUptoCard : Claim7 := { stood := { row := houseMakesUptoRow, standIns := [], harness := (true, "72314ac0c2c03e5c18c2fae9bbb04e21b0ae63af147008d5fefad77b5234125d"), looks := false }, kinds := [], alts := [], laidByText := true, laidKinds := [.data], laidTests := true, laidLooks := .later }
def HouseMakesUptoCardSaid : Prop := Claim7.holds Tryz.pinned (.plain (OpenSpec.upto houseMakesSpec)) houseMakesUptoCard

/-- THE SECOND FORM's CARD OF 'dioptralaw13.HouseApplies'. -/
def houseAppliesUptoCard : Claim7 := { stood := { row := houseAppliesUptoRow, standIns := [], harness := (true, "72314ac0c2c03e5c18c2fae9bbb04e21b0ae63af147008d5fefad77b5234125d"), looks := false }, kinds := [], alts := [], laidByText := true, laidKinds := [.data], laidTests := true, laidLooks := .later }
def HouseAppliesUptoCardSaid : Prop := Claim7.holds Tryz.pinned (.plain (OpenSpec.upto houseAppliesSpec)) houseAppliesUptoCard

/-- THE SECOND FORM's CARD OF 'dioptralaw13.HouseRight'. -/
def houseRightUptoCard : Claim7 := { stood := { row := houseRightUptoRow, standIns := [], harness := (true, "72314ac0c2c03e5c18c2fae9bbb04e21b0ae63af147008d5fefad77b5234125d"), looks := false }, kinds := [], alts := [], laidByText := true, laidKinds := [.data], laidTests := true, laidLooks := .later }
def HouseRightUptoCardSaid : Prop := Claim7.holds Tryz.pinned (.plain (OpenSpec.upto houseRightSpec)) houseRightUptoCard

/-- THE SECOND FORM's CARD OF 'dioptralaw13.HouseMirrors'. -/
def houseMirrorsUptoCard : Claim7 := { stood := { row := houseMirrorsUptoRow, standIns := [], harness := (true, "72314ac0c2c03e5c18c2fae9bbb04e21b0ae63af147008d5fefad77b5234125d"), looks := false }, kinds := [], alts := [], laidByText := true, laidKinds := [.data], laidTests := true, laidLooks := .later }
def HouseMirrorsUptoCardSaid : Prop := Claim7.holds Tryz.pinned (.plain (OpenSpec.upto houseMirrorsSpec)) houseMirrorsUptoCard

/-- THE SECOND FORM's CARD OF 'dioptralaw13.HouseKeeps'. -/
def houseKeepsUptoCard : Claim7 := { stood := { row := houseKeepsUptoRow, standIns := [], harness := (true, "72314ac0c2c03e5c18c2fae9bbb04e21b0ae63af147008d5fefad77b5234125d"), looks := false }, kinds := [], alts := [], laidByText := true, laidKinds := [.data], laidTests := true, laidLooks := .later }
def HouseKeepsUptoCardSaid : Prop := Claim7.holds Tryz.pinned (.plain (OpenSpec.upto houseKeepsSpec)) houseKeepsUptoCard
end Rows
end Go.Proofs.YtimejpbmehegeaaGreatDoor
