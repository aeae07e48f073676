/-
  DERIVED. GIVEN WITH THE SEED: THE CARDS: each row of YtpaikdlhkdgkpaaDoorRows.lean that lists a variable, with what it lists TIED to the program's text (the seventh form; the later family's looks); each row that meets fmt, with fmt's text TOLD by the authors' own Lean function (tested against real Go, not proved from fmt's source: count such statements apart). THE CARD IS WHAT COUNTS. Prove the row's statement (the work); the ties are given (YtpaikdlhkdgkpaaDoorTie.lean); close each card by the builder's one call (the guide's Derived/Test/ToyasCard.lean, 'card_holds'). Laid BY PROGRAM, IN A SANDBOX (cutbox-door.mjs). By AI agents, Wed Nov 11 2026. No macro, syntax, notation, axiom, sorry.
-/
import Derived.Test.YtpaikdlhkdgkpaaDoorRows
import GoSem.ClaimSeven
namespace Go.Proofs.YtpaikdlhkdgkpaaDoor
namespace Rows

/-- THE TIED CARD OF 'dioptralaw08.CompareOrders'. -/
def compareOrdersCard : Claim7 := { stood := { row := compareOrdersRow, standIns := [], harness := (true, "8ffce8a3502cc43021270e4f20d8de1b14328f226fe7b51e3e76d5c9000d9b76"), looks := false }, kinds := [], alts := [], laidByText := true, laidKinds := [.data], laidTests := true, laidLooks := .later }
def CompareOrdersCardSaid : Prop := Claim7.holds Tryd.pinned (.plain (OpenSpec.ofChange compareOrdersSpec)) compareOrdersCard

/-- THE TIED CARD OF 'dioptralaw08.CompareScales'. -/
def compareScalesCard : Claim7 := { stood := { row := compareScalesRow, standIns := [], harness := (true, "8ffce8a3502cc43021270e4f20d8de1b14328f226fe7b51e3e76d5c9000d9b76"), looks := false }, kinds := [], alts := [], laidByText := true, laidKinds := [.data], laidTests := true, laidLooks := .later }
def CompareScalesCardSaid : Prop := Claim7.holds Tryd.pinned (.plain (OpenSpec.ofChange compareScalesSpec)) compareScalesCard

/-- THE TIED CARD OF 'dioptralaw08.CompareInts'. -/
def compareIntsCard : Claim7 := { stood := { row := compareIntsRow, standIns := [], harness := (true, "8ffce8a3502cc43021270e4f20d8de1b14328f226fe7b51e3e76d5c9000d9b76"), looks := false }, kinds := [], alts := [], laidByText := true, laidKinds := [.data], laidTests := true, laidLooks := .later }
def CompareIntsCardSaid : Prop := Claim7.holds Tryd.pinned (.plain (OpenSpec.ofChange compareIntsSpec)) compareIntsCard

/-- THE TIED CARD OF 'dioptralaw08.CompareTruncs'. -/
def compareTruncsCard : Claim7 := { stood := { row := compareTruncsRow, standIns := [], harness := (true, "8ffce8a3502cc43021270e4f20d8de1b14328f226fe7b51e3e76d5c9000d9b76"), looks := false }, kinds := [], alts := [], laidByText := true, laidKinds := [.data], laidTests := true, laidLooks := .later }
def CompareTruncsCardSaid : Prop := Claim7.holds Tryd.pinned (.plain (OpenSpec.ofChange compareTruncsSpec)) compareTruncsCard

/-- THE TIED CARD OF 'dioptralaw08.CompareExps'. -/
def compareExpsCard : Claim7 := { stood := { row := compareExpsRow, standIns := [], harness := (true, "8ffce8a3502cc43021270e4f20d8de1b14328f226fe7b51e3e76d5c9000d9b76"), looks := false }, kinds := [], alts := [], laidByText := true, laidKinds := [.data], laidTests := true, laidLooks := .later }
def CompareExpsCardSaid : Prop := Claim7.holds Tryd.pinned (.plain (OpenSpec.ofChange compareExpsSpec)) compareExpsCard

/-- THE TIED CARD OF 'dioptralaw08.CompareBack'. -/
def compareBackCard : Claim7 := { stood := { row := compareBackRow, standIns := [], harness := (true, "8ffce8a3502cc43021270e4f20d8de1b14328f226fe7b51e3e76d5c9000d9b76"), looks := false }, kinds := [], alts := [], laidByText := true, laidKinds := [.data], laidTests := true, laidLooks := .later }
def CompareBackCardSaid : Prop := Claim7.holds Tryd.pinned (.plain (OpenSpec.ofChange compareBackSpec)) compareBackCard

/-- THE SECOND FORM's CARD OF 'dioptralaw08.CompareOrders'. -/
def compareOrdersUptoCard : Claim7 := { stood := { row := compareOrdersUptoRow, standIns := [], harness := (true, "8ffce8a3502cc43021270e4f20d8de1b14328f226fe7b51e3e76d5c9000d9b76"), looks := false }, kinds := [], alts := [], laidByText := true, laidKinds := [.data], laidTests := true, laidLooks := .later }
def CompareOrdersUptoCardSaid : Prop := Claim7.holds Tryd.pinned (.plain (OpenSpec.upto compareOrdersSpec)) compareOrdersUptoCard

/-- THE SECOND FORM's CARD OF 'dioptralaw08.CompareScales'. -/
def compareScalesUptoCard : Claim7 := { stood := { row := compareScalesUptoRow, standIns := [], harness := (true, "8ffce8a3502cc43021270e4f20d8de1b14328f226fe7b51e3e76d5c9000d9b76"), looks := false }, kinds := [], alts := [], laidByText := true, laidKinds := [.data], laidTests := true, laidLooks := .later }
def CompareScalesUptoCardSaid : Prop := Claim7.holds Tryd.pinned (.plain (OpenSpec.upto compareScalesSpec)) compareScalesUptoCard

/-- THE SECOND FORM's CARD OF 'dioptralaw08.CompareInts'. -/
def compareIntsUptoCard : Claim7 := { stood := { row := compareIntsUptoRow, standIns := [], harness := (true, "8ffce8a3502cc43021270e4f20d8de1b14328f226fe7b51e3e76d5c9000d9b76"), looks := false }, kinds := [], alts := [], laidByText := true, laidKinds := [.data], laidTests := true, laidLooks := .later }
def CompareIntsUptoCardSaid : Prop := Claim7.holds Tryd.pinned (.plain (OpenSpec.upto compareIntsSpec)) compareIntsUptoCard

/-- THE SECOND FORM's CARD OF 'dioptralaw08.CompareTruncs'. -/
def compareTruncsUptoCard : Claim7 := { stood := { row := compareTruncsUptoRow, standIns := [], harness := (true, "8ffce8a3502cc43021270e4f20d8de1b14328f226fe7b51e3e76d5c9000d9b76"), looks := false }, kinds := [], alts := [], laidByText := true, laidKinds := [.data], laidTests := true, laidLooks := .later }
def CompareTruncsUptoCardSaid : Prop := Claim7.holds Tryd.pinned (.plain (OpenSpec.upto compareTruncsSpec)) compareTruncsUptoCard

/-- THE SECOND FORM's CARD OF 'dioptralaw08.CompareExps'. -/
def compareExpsUptoCard : Claim7 := { stood := { row := compareExpsUptoRow, standIns := [], harness := (true, "8ffce8a3502cc43021270e4f20d8de1b14328f226fe7b51e3e76d5c9000d9b76"), looks := false }, kinds := [], alts := [], laidByText := true, laidKinds := [.data], laidTests := true, laidLooks := .later }
def CompareExpsUptoCardSaid : Prop := Claim7.holds Tryd.pinned (.plain (OpenSpec.upto compareExpsSpec)) compareExpsUptoCard

/-- THE SECOND FORM's CARD OF 'dioptralaw08.CompareBack'. -/
def compareBackUptoCard : Claim7 := { stood := { row := compareBackUptoRow, standIns := [], harness := (true, "8ffce8a3502cc43021270e4f20d8de1b14328f226fe7b51e3e76d5c9000d9b76"), looks := false }, kinds := [], alts := [], laidByText := true, laidKinds := [.data], laidTests := true, laidLooks := .later }
def CompareBackUptoCardSaid : Prop := Claim7.holds Tryd.pinned (.plain (OpenSpec.upto compareBackSpec)) compareBackUptoCard
end Rows
end Go.Proofs.YtpaikdlhkdgkpaaDoor
