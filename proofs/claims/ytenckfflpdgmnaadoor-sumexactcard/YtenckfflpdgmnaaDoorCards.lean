/-
  DERIVED. GIVEN WITH THE SEED: THE CARDS: each row of YtenckfflpdgmnaaDoorRows.lean that lists a variable, with what it lists TIED to the program's text (the seventh form; the later family's looks); each row that meets fmt, with fmt's text TOLD by the authors' own Lean function (tested against real Go, not proved from fmt's source: count such statements apart). THE CARD IS WHAT COUNTS. Prove the row's statement (the work); the ties are given (YtenckfflpdgmnaaDoorTie.lean); close each card by the builder's one call (the guide's Derived/Test/ToyasCard.lean, 'card_holds'). Laid BY PROGRAM, IN A SANDBOX (cutbox-door.mjs). By AI agents, Wed Nov 11 2026. No macro, syntax, notation, axiom, sorry.
-/
import Derived.Test.YtenckfflpdgmnaaDoorRows
import GoSem.ClaimSeven
namespace Go.Proofs.YtenckfflpdgmnaaDoor
namespace Rows

/-- THE TIED CARD OF 'dioptralaw05.SumAdds'. -/
def sumAddsCard : Claim7 := { stood := { row := sumAddsRow, standIns := [], harness := (true, "d7b58206af3e360faae5bcb6bef9f9bb7ddedee90c9b0bb15eb6d9960a866d50"), looks := false }, kinds := [], alts := [], laidByText := true, laidKinds := [.data], laidTests := true, laidLooks := .later }
def SumAddsCardSaid : Prop := Claim7.holds Tryd.pinned (.plain (OpenSpec.ofChange sumAddsSpec)) sumAddsCard

/-- THE TIED CARD OF 'dioptralaw05.SumSubs'. -/
def sumSubsCard : Claim7 := { stood := { row := sumSubsRow, standIns := [], harness := (true, "d7b58206af3e360faae5bcb6bef9f9bb7ddedee90c9b0bb15eb6d9960a866d50"), looks := false }, kinds := [], alts := [], laidByText := true, laidKinds := [.data], laidTests := true, laidLooks := .later }
def SumSubsCardSaid : Prop := Claim7.holds Tryd.pinned (.plain (OpenSpec.ofChange sumSubsSpec)) sumSubsCard

/-- THE TIED CARD OF 'dioptralaw05.SumFloats'. -/
def sumFloatsCard : Claim7 := { stood := { row := sumFloatsRow, standIns := [], harness := (true, "d7b58206af3e360faae5bcb6bef9f9bb7ddedee90c9b0bb15eb6d9960a866d50"), looks := false }, kinds := [], alts := [], laidByText := true, laidKinds := [.data], laidTests := true, laidLooks := .later }
def SumFloatsCardSaid : Prop := Claim7.holds Tryd.pinned (.plain (OpenSpec.ofChange sumFloatsSpec)) sumFloatsCard

/-- THE TIED CARD OF 'dioptralaw05.SumOrder'. -/
def sumOrderCard : Claim7 := { stood := { row := sumOrderRow, standIns := [], harness := (true, "d7b58206af3e360faae5bcb6bef9f9bb7ddedee90c9b0bb15eb6d9960a866d50"), looks := false }, kinds := [], alts := [], laidByText := true, laidKinds := [.data], laidTests := true, laidLooks := .later }
def SumOrderCardSaid : Prop := Claim7.holds Tryd.pinned (.plain (OpenSpec.ofChange sumOrderSpec)) sumOrderCard

/-- THE TIED CARD OF 'dioptralaw05.SumExact'. -/
def sumExactCard : Claim7 := { stood := { row := sumExactRow, standIns := [], harness := (true, "d7b58206af3e360faae5bcb6bef9f9bb7ddedee90c9b0bb15eb6d9960a866d50"), looks := false }, kinds := [], alts := [], laidByText := true, laidKinds := [.data], laidTests := true, laidLooks := .later }
def SumExactCardSaid : Prop := Claim7.holds Tryd.pinned (.plain (OpenSpec.ofChange sumExactSpec)) sumExactCard

/-- THE TIED CARD OF 'dioptralaw05.SumRises'. -/
def sumRisesCard : Claim7 := { stood := { row := sumRisesRow, standIns := [], harness := (true, "d7b58206af3e360faae5bcb6bef9f9bb7ddedee90c9b0bb15eb6d9960a866d50"), looks := false }, kinds := [], alts := [], laidByText := true, laidKinds := [.data], laidTests := true, laidLooks := .later }
def SumRisesCardSaid : Prop := Claim7.holds Tryd.pinned (.plain (OpenSpec.ofChange sumRisesSpec)) sumRisesCard

/-- THE SECOND FORM's CARD OF 'dioptralaw05.SumAdds'. -/
def sumAddsUptoCard : Claim7 := { stood := { row := sumAddsUptoRow, standIns := [], harness := (true, "d7b58206af3e360faae5bcb6bef9f9bb7ddedee90c9b0bb15eb6d9960a866d50"), looks := false }, kinds := [], alts := [], laidByText := true, laidKinds := [.data], laidTests := true, laidLooks := .later }
def SumAddsUptoCardSaid : Prop := Claim7.holds Tryd.pinned (.plain (OpenSpec.upto sumAddsSpec)) sumAddsUptoCard

/-- THE SECOND FORM's CARD OF 'dioptralaw05.SumSubs'. -/
def sumSubsUptoCard : Claim7 := { stood := { row := sumSubsUptoRow, standIns := [], harness := (true, "d7b58206af3e360faae5bcb6bef9f9bb7ddedee90c9b0bb15eb6d9960a866d50"), looks := false }, kinds := [], alts := [], laidByText := true, laidKinds := [.data], laidTests := true, laidLooks := .later }
def SumSubsUptoCardSaid : Prop := Claim7.holds Tryd.pinned (.plain (OpenSpec.upto sumSubsSpec)) sumSubsUptoCard

/-- THE SECOND FORM's CARD OF 'dioptralaw05.SumFloats'. -/
def sumFloatsUptoCard : Claim7 := { stood := { row := sumFloatsUptoRow, standIns := [], harness := (true, "d7b58206af3e360faae5bcb6bef9f9bb7ddedee90c9b0bb15eb6d9960a866d50"), looks := false }, kinds := [], alts := [], laidByText := true, laidKinds := [.data], laidTests := true, laidLooks := .later }
def SumFloatsUptoCardSaid : Prop := Claim7.holds Tryd.pinned (.plain (OpenSpec.upto sumFloatsSpec)) sumFloatsUptoCard

/-- THE SECOND FORM's CARD OF 'dioptralaw05.SumOrder'. -/
def sumOrderUptoCard : Claim7 := { stood := { row := sumOrderUptoRow, standIns := [], harness := (true, "d7b58206af3e360faae5bcb6bef9f9bb7ddedee90c9b0bb15eb6d9960a866d50"), looks := false }, kinds := [], alts := [], laidByText := true, laidKinds := [.data], laidTests := true, laidLooks := .later }
def SumOrderUptoCardSaid : Prop := Claim7.holds Tryd.pinned (.plain (OpenSpec.upto sumOrderSpec)) sumOrderUptoCard

/-- THE SECOND FORM's CARD OF 'dioptralaw05.SumExact'. -/
def sumExactUptoCard : Claim7 := { stood := { row := sumExactUptoRow, standIns := [], harness := (true, "d7b58206af3e360faae5bcb6bef9f9bb7ddedee90c9b0bb15eb6d9960a866d50"), looks := false }, kinds := [], alts := [], laidByText := true, laidKinds := [.data], laidTests := true, laidLooks := .later }
def SumExactUptoCardSaid : Prop := Claim7.holds Tryd.pinned (.plain (OpenSpec.upto sumExactSpec)) sumExactUptoCard

/-- THE SECOND FORM's CARD OF 'dioptralaw05.SumRises'. -/
def sumRisesUptoCard : Claim7 := { stood := { row := sumRisesUptoRow, standIns := [], harness := (true, "d7b58206af3e360faae5bcb6bef9f9bb7ddedee90c9b0bb15eb6d9960a866d50"), looks := false }, kinds := [], alts := [], laidByText := true, laidKinds := [.data], laidTests := true, laidLooks := .later }
def SumRisesUptoCardSaid : Prop := Claim7.holds Tryd.pinned (.plain (OpenSpec.upto sumRisesSpec)) sumRisesUptoCard
end Rows
end Go.Proofs.YtenckfflpdgmnaaDoor
