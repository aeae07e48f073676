/-
  DERIVED. GIVEN WITH THE SEED: THE CARDS: each row of YtgegjhkiiejhlaaDoorRows.lean that lists a variable, with what it lists TIED to the program's text (the seventh form; the later family's looks); each row that meets fmt, with fmt's text TOLD by the authors' own Lean function (tested against real Go, not proved from fmt's source: count such statements apart). THE CARD IS WHAT COUNTS. Prove the row's statement (the work); the ties are given (YtgegjhkiiejhlaaDoorTie.lean); close each card by the builder's one call (the guide's Derived/Test/ToyasCard.lean, 'card_holds'). Laid BY PROGRAM, IN A SANDBOX (cutbox-door.mjs). By AI agents, Wed Nov 11 2026. No macro, syntax, notation, axiom, sorry.
-/
import Derived.Test.YtgegjhkiiejhlaaDoorRows
import GoSem.ClaimSeven
namespace Go.Proofs.YtgegjhkiiejhlaaDoor
namespace Rows

/-- THE TIED CARD OF 'dioptralaw07.RootWholes'. -/
def rootWholesCard : Claim7 := { stood := { row := rootWholesRow, standIns := [], harness := (true, "e6398df5e8d1ed8fc830c9f98b9fd0b7fce3c6c60f251c082db3f42870055aac"), looks := false }, kinds := [], alts := [], laidByText := true, laidKinds := [.data], laidTests := true, laidLooks := .later }
def RootWholesCardSaid : Prop := Claim7.holds Tryd.pinned (.plain (OpenSpec.ofChange rootWholesSpec)) rootWholesCard

/-- THE TIED CARD OF 'dioptralaw07.RootRoots'. -/
def rootRootsCard : Claim7 := { stood := { row := rootRootsRow, standIns := [], harness := (true, "e6398df5e8d1ed8fc830c9f98b9fd0b7fce3c6c60f251c082db3f42870055aac"), looks := false }, kinds := [], alts := [], laidByText := true, laidKinds := [.data], laidTests := true, laidLooks := .later }
def RootRootsCardSaid : Prop := Claim7.holds Tryd.pinned (.plain (OpenSpec.ofChange rootRootsSpec)) rootRootsCard

/-- THE TIED CARD OF 'dioptralaw07.RootFloats'. -/
def rootFloatsCard : Claim7 := { stood := { row := rootFloatsRow, standIns := [], harness := (true, "e6398df5e8d1ed8fc830c9f98b9fd0b7fce3c6c60f251c082db3f42870055aac"), looks := false }, kinds := [], alts := [], laidByText := true, laidKinds := [.data], laidTests := true, laidLooks := .later }
def RootFloatsCardSaid : Prop := Claim7.holds Tryd.pinned (.plain (OpenSpec.ofChange rootFloatsSpec)) rootFloatsCard

/-- THE TIED CARD OF 'dioptralaw07.RootSquares'. -/
def rootSquaresCard : Claim7 := { stood := { row := rootSquaresRow, standIns := [], harness := (true, "e6398df5e8d1ed8fc830c9f98b9fd0b7fce3c6c60f251c082db3f42870055aac"), looks := false }, kinds := [], alts := [], laidByText := true, laidKinds := [.data], laidTests := true, laidLooks := .later }
def RootSquaresCardSaid : Prop := Claim7.holds Tryd.pinned (.plain (OpenSpec.ofChange rootSquaresSpec)) rootSquaresCard

/-- THE TIED CARD OF 'dioptralaw07.RootRises'. -/
def rootRisesCard : Claim7 := { stood := { row := rootRisesRow, standIns := [], harness := (true, "e6398df5e8d1ed8fc830c9f98b9fd0b7fce3c6c60f251c082db3f42870055aac"), looks := false }, kinds := [], alts := [], laidByText := true, laidKinds := [.data], laidTests := true, laidLooks := .later }
def RootRisesCardSaid : Prop := Claim7.holds Tryd.pinned (.plain (OpenSpec.ofChange rootRisesSpec)) rootRisesCard

/-- THE TIED CARD OF 'dioptralaw07.RootBetween'. -/
def rootBetweenCard : Claim7 := { stood := { row := rootBetweenRow, standIns := [], harness := (true, "e6398df5e8d1ed8fc830c9f98b9fd0b7fce3c6c60f251c082db3f42870055aac"), looks := false }, kinds := [], alts := [], laidByText := true, laidKinds := [.data], laidTests := true, laidLooks := .later }
def RootBetweenCardSaid : Prop := Claim7.holds Tryd.pinned (.plain (OpenSpec.ofChange rootBetweenSpec)) rootBetweenCard

/-- THE SECOND FORM's CARD OF 'dioptralaw07.RootWholes'. -/
def rootWholesUptoCard : Claim7 := { stood := { row := rootWholesUptoRow, standIns := [], harness := (true, "e6398df5e8d1ed8fc830c9f98b9fd0b7fce3c6c60f251c082db3f42870055aac"), looks := false }, kinds := [], alts := [], laidByText := true, laidKinds := [.data], laidTests := true, laidLooks := .later }
def RootWholesUptoCardSaid : Prop := Claim7.holds Tryd.pinned (.plain (OpenSpec.upto rootWholesSpec)) rootWholesUptoCard

/-- THE SECOND FORM's CARD OF 'dioptralaw07.RootRoots'. -/
def rootRootsUptoCard : Claim7 := { stood := { row := rootRootsUptoRow, standIns := [], harness := (true, "e6398df5e8d1ed8fc830c9f98b9fd0b7fce3c6c60f251c082db3f42870055aac"), looks := false }, kinds := [], alts := [], laidByText := true, laidKinds := [.data], laidTests := true, laidLooks := .later }
def RootRootsUptoCardSaid : Prop := Claim7.holds Tryd.pinned (.plain (OpenSpec.upto rootRootsSpec)) rootRootsUptoCard

/-- THE SECOND FORM's CARD OF 'dioptralaw07.RootFloats'. -/
def rootFloatsUptoCard : Claim7 := { stood := { row := rootFloatsUptoRow, standIns := [], harness := (true, "e6398df5e8d1ed8fc830c9f98b9fd0b7fce3c6c60f251c082db3f42870055aac"), looks := false }, kinds := [], alts := [], laidByText := true, laidKinds := [.data], laidTests := true, laidLooks := .later }
def RootFloatsUptoCardSaid : Prop := Claim7.holds Tryd.pinned (.plain (OpenSpec.upto rootFloatsSpec)) rootFloatsUptoCard

/-- THE SECOND FORM's CARD OF 'dioptralaw07.RootSquares'. -/
def rootSquaresUptoCard : Claim7 := { stood := { row := rootSquaresUptoRow, standIns := [], harness := (true, "e6398df5e8d1ed8fc830c9f98b9fd0b7fce3c6c60f251c082db3f42870055aac"), looks := false }, kinds := [], alts := [], laidByText := true, laidKinds := [.data], laidTests := true, laidLooks := .later }
def RootSquaresUptoCardSaid : Prop := Claim7.holds Tryd.pinned (.plain (OpenSpec.upto rootSquaresSpec)) rootSquaresUptoCard

/-- THE SECOND FORM's CARD OF 'dioptralaw07.RootRises'. -/
def rootRisesUptoCard : Claim7 := { stood := { row := rootRisesUptoRow, standIns := [], harness := (true, "e6398df5e8d1ed8fc830c9f98b9fd0b7fce3c6c60f251c082db3f42870055aac"), looks := false }, kinds := [], alts := [], laidByText := true, laidKinds := [.data], laidTests := true, laidLooks := .later }
def RootRisesUptoCardSaid : Prop := Claim7.holds Tryd.pinned (.plain (OpenSpec.upto rootRisesSpec)) rootRisesUptoCard

/-- THE SECOND FORM's CARD OF 'dioptralaw07.RootBetween'. -/
def rootBetweenUptoCard : Claim7 := { stood := { row := rootBetweenUptoRow, standIns := [], harness := (true, "e6398df5e8d1ed8fc830c9f98b9fd0b7fce3c6c60f251c082db3f42870055aac"), looks := false }, kinds := [], alts := [], laidByText := true, laidKinds := [.data], laidTests := true, laidLooks := .later }
def RootBetweenUptoCardSaid : Prop := Claim7.holds Tryd.pinned (.plain (OpenSpec.upto rootBetweenSpec)) rootBetweenUptoCard
end Rows
end Go.Proofs.YtgegjhkiiejhlaaDoor
