/-
  DERIVED. GIVEN WITH THE SEED: THE CARDS: each row of YtibolacikaanpaaDoorRows.lean that lists a variable, with what it lists TIED to the program's text (the seventh form; the later family's looks); each row that meets fmt, with fmt's text TOLD by the authors' own Lean function (tested against real Go, not proved from fmt's source: count such statements apart). THE CARD IS WHAT COUNTS. Prove the row's statement (the work); the ties are given (YtibolacikaanpaaDoorTie.lean); close each card by the builder's one call (the guide's Derived/Test/ToyasCard.lean, 'card_holds'). Laid BY PROGRAM, IN A SANDBOX (cutbox-door.mjs). By AI agents, Wed Nov 11 2026. No macro, syntax, notation, axiom, sorry.
-/
import Derived.Test.YtibolacikaanpaaDoorRows
import GoSem.ClaimSeven
namespace Go.Proofs.YtibolacikaanpaaDoor
namespace Rows

/-- THE TIED CARD OF 'dioptralaw06.TimesMuls'. -/
def timesMulsCard : Claim7 := { stood := { row := timesMulsRow, standIns := [], harness := (true, "fc11f19c2d6788a5f34379a22e05d807007669646060bae49ec8e7c74717e5b1"), looks := false }, kinds := [], alts := [], laidByText := true, laidKinds := [.data], laidTests := true, laidLooks := .later }
def TimesMulsCardSaid : Prop := Claim7.holds Tryd.pinned (.plain (OpenSpec.ofChange timesMulsSpec)) timesMulsCard

/-- THE TIED CARD OF 'dioptralaw06.TimesDivs'. -/
def timesDivsCard : Claim7 := { stood := { row := timesDivsRow, standIns := [], harness := (true, "fc11f19c2d6788a5f34379a22e05d807007669646060bae49ec8e7c74717e5b1"), looks := false }, kinds := [], alts := [], laidByText := true, laidKinds := [.data], laidTests := true, laidLooks := .later }
def TimesDivsCardSaid : Prop := Claim7.holds Tryd.pinned (.plain (OpenSpec.ofChange timesDivsSpec)) timesDivsCard

/-- THE TIED CARD OF 'dioptralaw06.TimesFloats'. -/
def timesFloatsCard : Claim7 := { stood := { row := timesFloatsRow, standIns := [], harness := (true, "fc11f19c2d6788a5f34379a22e05d807007669646060bae49ec8e7c74717e5b1"), looks := false }, kinds := [], alts := [], laidByText := true, laidKinds := [.data], laidTests := true, laidLooks := .later }
def TimesFloatsCardSaid : Prop := Claim7.holds Tryd.pinned (.plain (OpenSpec.ofChange timesFloatsSpec)) timesFloatsCard

/-- THE TIED CARD OF 'dioptralaw06.TimesOrder'. -/
def timesOrderCard : Claim7 := { stood := { row := timesOrderRow, standIns := [], harness := (true, "fc11f19c2d6788a5f34379a22e05d807007669646060bae49ec8e7c74717e5b1"), looks := false }, kinds := [], alts := [], laidByText := true, laidKinds := [.data], laidTests := true, laidLooks := .later }
def TimesOrderCardSaid : Prop := Claim7.holds Tryd.pinned (.plain (OpenSpec.ofChange timesOrderSpec)) timesOrderCard

/-- THE TIED CARD OF 'dioptralaw06.TimesPowers'. -/
def timesPowersCard : Claim7 := { stood := { row := timesPowersRow, standIns := [], harness := (true, "fc11f19c2d6788a5f34379a22e05d807007669646060bae49ec8e7c74717e5b1"), looks := false }, kinds := [], alts := [], laidByText := true, laidKinds := [.data], laidTests := true, laidLooks := .later }
def TimesPowersCardSaid : Prop := Claim7.holds Tryd.pinned (.plain (OpenSpec.ofChange timesPowersSpec)) timesPowersCard

/-- THE TIED CARD OF 'dioptralaw06.TimesSelf'. -/
def timesSelfCard : Claim7 := { stood := { row := timesSelfRow, standIns := [], harness := (true, "fc11f19c2d6788a5f34379a22e05d807007669646060bae49ec8e7c74717e5b1"), looks := false }, kinds := [], alts := [], laidByText := true, laidKinds := [.data], laidTests := true, laidLooks := .later }
def TimesSelfCardSaid : Prop := Claim7.holds Tryd.pinned (.plain (OpenSpec.ofChange timesSelfSpec)) timesSelfCard

/-- THE SECOND FORM's CARD OF 'dioptralaw06.TimesMuls'. -/
def timesMulsUptoCard : Claim7 := { stood := { row := timesMulsUptoRow, standIns := [], harness := (true, "fc11f19c2d6788a5f34379a22e05d807007669646060bae49ec8e7c74717e5b1"), looks := false }, kinds := [], alts := [], laidByText := true, laidKinds := [.data], laidTests := true, laidLooks := .later }
def TimesMulsUptoCardSaid : Prop := Claim7.holds Tryd.pinned (.plain (OpenSpec.upto timesMulsSpec)) timesMulsUptoCard

/-- THE SECOND FORM's CARD OF 'dioptralaw06.TimesDivs'. -/
def timesDivsUptoCard : Claim7 := { stood := { row := timesDivsUptoRow, standIns := [], harness := (true, "fc11f19c2d6788a5f34379a22e05d807007669646060bae49ec8e7c74717e5b1"), looks := false }, kinds := [], alts := [], laidByText := true, laidKinds := [.data], laidTests := true, laidLooks := .later }
def TimesDivsUptoCardSaid : Prop := Claim7.holds Tryd.pinned (.plain (OpenSpec.upto timesDivsSpec)) timesDivsUptoCard

/-- THE SECOND FORM's CARD OF 'dioptralaw06.TimesFloats'. -/
def timesFloatsUptoCard : Claim7 := { stood := { row := timesFloatsUptoRow, standIns := [], harness := (true, "fc11f19c2d6788a5f34379a22e05d807007669646060bae49ec8e7c74717e5b1"), looks := false }, kinds := [], alts := [], laidByText := true, laidKinds := [.data], laidTests := true, laidLooks := .later }
def TimesFloatsUptoCardSaid : Prop := Claim7.holds Tryd.pinned (.plain (OpenSpec.upto timesFloatsSpec)) timesFloatsUptoCard

/-- THE SECOND FORM's CARD OF 'dioptralaw06.TimesOrder'. -/
def timesOrderUptoCard : Claim7 := { stood := { row := timesOrderUptoRow, standIns := [], harness := (true, "fc11f19c2d6788a5f34379a22e05d807007669646060bae49ec8e7c74717e5b1"), looks := false }, kinds := [], alts := [], laidByText := true, laidKinds := [.data], laidTests := true, laidLooks := .later }
def TimesOrderUptoCardSaid : Prop := Claim7.holds Tryd.pinned (.plain (OpenSpec.upto timesOrderSpec)) timesOrderUptoCard

/-- THE SECOND FORM's CARD OF 'dioptralaw06.TimesPowers'. -/
def timesPowersUptoCard : Claim7 := { stood := { row := timesPowersUptoRow, standIns := [], harness := (true, "fc11f19c2d6788a5f34379a22e05d807007669646060bae49ec8e7c74717e5b1"), looks := false }, kinds := [], alts := [], laidByText := true, laidKinds := [.data], laidTests := true, laidLooks := .later }
def TimesPowersUptoCardSaid : Prop := Claim7.holds Tryd.pinned (.plain (OpenSpec.upto timesPowersSpec)) timesPowersUptoCard

/-- THE SECOND FORM's CARD OF 'dioptralaw06.TimesSelf'. -/
def timesSelfUptoCard : Claim7 := { stood := { row := timesSelfUptoRow, standIns := [], harness := (true, "fc11f19c2d6788a5f34379a22e05d807007669646060bae49ec8e7c74717e5b1"), looks := false }, kinds := [], alts := [], laidByText := true, laidKinds := [.data], laidTests := true, laidLooks := .later }
def TimesSelfUptoCardSaid : Prop := Claim7.holds Tryd.pinned (.plain (OpenSpec.upto timesSelfSpec)) timesSelfUptoCard
end Rows
end Go.Proofs.YtibolacikaanpaaDoor
