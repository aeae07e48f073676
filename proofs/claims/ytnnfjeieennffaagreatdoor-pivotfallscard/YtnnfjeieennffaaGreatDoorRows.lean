/-
  NARROWER THAN 'FOR EVERY INPUT', by the rows' own cells (each row's printed sentence says how): PivotFactors: laid · PivotTolds: laid · PivotPlaces: laid · PivotFalls: laid · PivotWhole: laid.
  DERIVED. THE GIVEN ROWS OF THIS SEAT. 5 by the template 'for every input the law returns true; each argument reads behind the call as it read before'; 0 by the template 'total and deterministic' (their statements: YtnnfjeieennffaaGreatDoorTotals.lean).
  GIVEN WITH THE SEED: the statements are not yours to turn. If you find one false, say at which input.
  Laid BY PROGRAM, IN A SANDBOX (cutbox-rows.mjs): the forced cells as the released guide's own fill.sh prints them over the translation a7829c1de0d866be… (all of the seat's roots in one cut). By AI agents, Wed Nov 11 2026. No macro, syntax, notation, axiom, sorry.
-/
import Derived.Test.YtnnfjeieennffaaGreatDoorChecked
import GoSem.Claim
import GoSem.ClaimJoined
import GoSem.ClaimMapViews
import Derived.JoinedTies
import Derived.KernelRfl
namespace Go.Proofs.YtnnfjeieennffaaGreatDoor
/- THE CELL 'sum', in the pinned program and in every row, IS THE sha256 OF THE DUMP (.gsa) THAT YtnnfjeieennffaaGreatDoorProg.lean LOADS. Nothing in Lean hashes anything: it is a label: what it is worth is what the hold of that sum in a sandbox is worth. -/
noncomputable def Tryz.pinned : Pinned := { name := "ytnnfjeieennffaagreatdoor", sum := "a7829c1de0d866becc7a38965a6aa93c98745c19a7e99837c69888f7212979a2", checked := Tryz.checked }
namespace Rows
def none {H : Type} : Left H := { results := [], args := [] }

/- WHAT THE LISTED PACKAGE-LEVEL VARIABLES READ AS WHEN THE CALL BEGINS. Each datum BY PROGRAM (the guide's laid-datum.mjs) off the statement by which the dump's own 'gosem.cut.vars' lays the variable. In a bare row this is a premise. The card (YtnnfjeieennffaaGreatDoorCards.lean) ties it to the program's text. -/
def laid_math_bits_deBruijn32tab {H : Type} : DataW H := .agg [.lit (.int .u8 0), .lit (.int .u8 1), .lit (.int .u8 28), .lit (.int .u8 2), .lit (.int .u8 29), .lit (.int .u8 14), .lit (.int .u8 24), .lit (.int .u8 3), .lit (.int .u8 30), .lit (.int .u8 22), .lit (.int .u8 20), .lit (.int .u8 15), .lit (.int .u8 25), .lit (.int .u8 17), .lit (.int .u8 4), .lit (.int .u8 8), .lit (.int .u8 31), .lit (.int .u8 27), .lit (.int .u8 13), .lit (.int .u8 23), .lit (.int .u8 21), .lit (.int .u8 19), .lit (.int .u8 16), .lit (.int .u8 7), .lit (.int .u8 26), .lit (.int .u8 12), .lit (.int .u8 18), .lit (.int .u8 6), .lit (.int .u8 11), .lit (.int .u8 5), .lit (.int .u8 10), .lit (.int .u8 9)]

/-- 'dioptralaw16.PivotFactors': WHATEVER THE INPUT: true; the input reads as it did. -/
def pivotFactorsSpec : ChangeSpec := { name := "pivotFactors", fn := fun _ => fun
  | [d] => { results := [.lit (.bool true)], args := [d] }
  | _ => none }
def pivotFactorsRow : OpenClaim := { program := "ytnnfjeieennffaagreatdoor", sum := "a7829c1de0d866becc7a38965a6aa93c98745c19a7e99837c69888f7212979a2", func := "dioptra/dioptralaw16.PivotFactors", spec := "pivotFactors", inPlace := ["math.Float64frombits", "math.Float64bits", "math.sqrt"], unfollowed := true, recurses := true, named := ["math/bits.deBruijn32tab"], apart := false, laid := [("math/bits.deBruijn32tab", laid_math_bits_deBruijn32tab)] }
def PivotFactorsSaid : Prop := pivotFactorsRow.holds Tryz.pinned (OpenSpec.ofChange pivotFactorsSpec)

/-- ITS FALSE NEIGHBOUR: 'it returns false'. Refute it at one input. -/
def pivotFactorsWrong : ChangeSpec := { name := "pivotFactors", fn := fun _ => fun
  | [d] => { results := [.lit (.bool false)], args := [d] }
  | _ => none }
def PivotFactorsWrongFalsely : Prop := pivotFactorsRow.holds Tryz.pinned (OpenSpec.ofChange pivotFactorsWrong)

/-- 'dioptralaw16.PivotTolds': WHATEVER THE INPUT: true; the input reads as it did. -/
def pivotToldsSpec : ChangeSpec := { name := "pivotTolds", fn := fun _ => fun
  | [d1, d2] => { results := [.lit (.bool true)], args := [d1, d2] }
  | _ => none }
def pivotToldsRow : OpenClaim := { program := "ytnnfjeieennffaagreatdoor", sum := "a7829c1de0d866becc7a38965a6aa93c98745c19a7e99837c69888f7212979a2", func := "dioptra/dioptralaw16.PivotTolds", spec := "pivotTolds", inPlace := ["math.Float64frombits", "math.Float64bits"], unfollowed := true, recurses := true, named := ["math/bits.deBruijn32tab"], apart := false, laid := [("math/bits.deBruijn32tab", laid_math_bits_deBruijn32tab)] }
def PivotToldsSaid : Prop := pivotToldsRow.holds Tryz.pinned (OpenSpec.ofChange pivotToldsSpec)

/-- ITS FALSE NEIGHBOUR: 'it returns false'. Refute it at one input. -/
def pivotToldsWrong : ChangeSpec := { name := "pivotTolds", fn := fun _ => fun
  | [d1, d2] => { results := [.lit (.bool false)], args := [d1, d2] }
  | _ => none }
def PivotToldsWrongFalsely : Prop := pivotToldsRow.holds Tryz.pinned (OpenSpec.ofChange pivotToldsWrong)

/-- 'dioptralaw16.PivotPlaces': WHATEVER THE INPUT: true; the input reads as it did. -/
def pivotPlacesSpec : ChangeSpec := { name := "pivotPlaces", fn := fun _ => fun
  | [d] => { results := [.lit (.bool true)], args := [d] }
  | _ => none }
def pivotPlacesRow : OpenClaim := { program := "ytnnfjeieennffaagreatdoor", sum := "a7829c1de0d866becc7a38965a6aa93c98745c19a7e99837c69888f7212979a2", func := "dioptra/dioptralaw16.PivotPlaces", spec := "pivotPlaces", unfollowed := true, recurses := true, named := ["math/bits.deBruijn32tab"], apart := false, laid := [("math/bits.deBruijn32tab", laid_math_bits_deBruijn32tab)] }
def PivotPlacesSaid : Prop := pivotPlacesRow.holds Tryz.pinned (OpenSpec.ofChange pivotPlacesSpec)

/-- ITS FALSE NEIGHBOUR: 'it returns false'. Refute it at one input. -/
def pivotPlacesWrong : ChangeSpec := { name := "pivotPlaces", fn := fun _ => fun
  | [d] => { results := [.lit (.bool false)], args := [d] }
  | _ => none }
def PivotPlacesWrongFalsely : Prop := pivotPlacesRow.holds Tryz.pinned (OpenSpec.ofChange pivotPlacesWrong)

/-- 'dioptralaw16.PivotFalls': WHATEVER THE INPUT: true; the input reads as it did. -/
def pivotFallsSpec : ChangeSpec := { name := "pivotFalls", fn := fun _ => fun
  | [d] => { results := [.lit (.bool true)], args := [d] }
  | _ => none }
def pivotFallsRow : OpenClaim := { program := "ytnnfjeieennffaagreatdoor", sum := "a7829c1de0d866becc7a38965a6aa93c98745c19a7e99837c69888f7212979a2", func := "dioptra/dioptralaw16.PivotFalls", spec := "pivotFalls", unfollowed := true, recurses := true, named := ["math/bits.deBruijn32tab"], apart := false, laid := [("math/bits.deBruijn32tab", laid_math_bits_deBruijn32tab)] }
def PivotFallsSaid : Prop := pivotFallsRow.holds Tryz.pinned (OpenSpec.ofChange pivotFallsSpec)

/-- ITS FALSE NEIGHBOUR: 'it returns false'. Refute it at one input. -/
def pivotFallsWrong : ChangeSpec := { name := "pivotFalls", fn := fun _ => fun
  | [d] => { results := [.lit (.bool false)], args := [d] }
  | _ => none }
def PivotFallsWrongFalsely : Prop := pivotFallsRow.holds Tryz.pinned (OpenSpec.ofChange pivotFallsWrong)

/-- 'dioptralaw16.PivotWhole': WHATEVER THE INPUT: true; the input reads as it did. -/
def pivotWholeSpec : ChangeSpec := { name := "pivotWhole", fn := fun _ => fun
  | [d1, d2, d3] => { results := [.lit (.bool true)], args := [d1, d2, d3] }
  | _ => none }
def pivotWholeRow : OpenClaim := { program := "ytnnfjeieennffaagreatdoor", sum := "a7829c1de0d866becc7a38965a6aa93c98745c19a7e99837c69888f7212979a2", func := "dioptra/dioptralaw16.PivotWhole", spec := "pivotWhole", inPlace := ["math.Float64bits"], unfollowed := true, recurses := true, named := ["math/bits.deBruijn32tab"], apart := false, laid := [("math/bits.deBruijn32tab", laid_math_bits_deBruijn32tab)] }
def PivotWholeSaid : Prop := pivotWholeRow.holds Tryz.pinned (OpenSpec.ofChange pivotWholeSpec)

/-- ITS FALSE NEIGHBOUR: 'it returns false'. Refute it at one input. -/
def pivotWholeWrong : ChangeSpec := { name := "pivotWhole", fn := fun _ => fun
  | [d1, d2, d3] => { results := [.lit (.bool false)], args := [d1, d2, d3] }
  | _ => none }
def PivotWholeWrongFalsely : Prop := pivotWholeRow.holds Tryz.pinned (OpenSpec.ofChange pivotWholeWrong)

/- THE SECOND FORM. 'bulk': how many values and letters a reading holds, each counted each time it is reached (what is shared counts as often as it is met; a slice's spare places count too). A statement '..UptoSaid' is the law's where the arguments, and the package variables that the reading takes, are together of bulk at most 1048576: NARROWER than '..Said'. Prove '..Said' where nothing that the law and all that it calls make is longer than what came in: it says more and counts as full. Else prove '..UptoSaid'. A law counts once. -/
mutual
def uptoBulk {H : Type} : DataW H → Nat
  | .lit (.string bytes) => bytes.length + 1
  | .lit _ => 1
  | .nil => 1
  | .ptr d => uptoBulk d + 1
  | .slice elems spare => uptoBulkAll elems + uptoBulkAll spare + 1
  | .agg parts => uptoBulkAll parts + 1
  | .iface _ d => uptoBulk d + 1
  | .map entries => uptoBulkEntries entries + 1
  | .held _ => 1
def uptoBulkAll {H : Type} : List (DataW H) → Nat
  | [] => 0
  | d :: r => uptoBulk d + uptoBulkAll r
def uptoBulkEntries {H : Type} : List (Lit × DataW H) → Nat
  | [] => 0
  | x :: r => uptoBulkEntry x + uptoBulkEntries r
def uptoBulkEntry {H : Type} : Lit × DataW H → Nat
  | (.string bytes, d) => bytes.length + uptoBulk d + 1
  | (_, d) => uptoBulk d + 1
 end
def uptoSmall : (H : Type) → List (DataW H) → Bool := fun _ ds => decide (uptoBulkAll ds ≤ 1048576)
def OpenSpec.upto (s : _root_.Go.ChangeSpec) : _root_.Go.OpenSpec := { _root_.Go.OpenSpec.ofChange s with cond := some uptoSmall }

/-- 'dioptralaw16.PivotFactors', WHERE WHAT IT READS IS OF BULK AT MOST 1048576: true; the input reads as it did. -/
def pivotFactorsUptoRow : OpenClaim := { program := "ytnnfjeieennffaagreatdoor", sum := "a7829c1de0d866becc7a38965a6aa93c98745c19a7e99837c69888f7212979a2", func := "dioptra/dioptralaw16.PivotFactors", spec := "pivotFactors", inPlace := ["math.Float64frombits", "math.Float64bits", "math.sqrt"], unfollowed := true, recurses := true, named := ["math/bits.deBruijn32tab"], apart := false, laid := [("math/bits.deBruijn32tab", laid_math_bits_deBruijn32tab)], narrowed := true }
def PivotFactorsUptoSaid : Prop := pivotFactorsUptoRow.holds Tryz.pinned (OpenSpec.upto pivotFactorsSpec)

/-- 'dioptralaw16.PivotTolds', WHERE WHAT IT READS IS OF BULK AT MOST 1048576: true; the input reads as it did. -/
def pivotToldsUptoRow : OpenClaim := { program := "ytnnfjeieennffaagreatdoor", sum := "a7829c1de0d866becc7a38965a6aa93c98745c19a7e99837c69888f7212979a2", func := "dioptra/dioptralaw16.PivotTolds", spec := "pivotTolds", inPlace := ["math.Float64frombits", "math.Float64bits"], unfollowed := true, recurses := true, named := ["math/bits.deBruijn32tab"], apart := false, laid := [("math/bits.deBruijn32tab", laid_math_bits_deBruijn32tab)], narrowed := true }
def PivotToldsUptoSaid : Prop := pivotToldsUptoRow.holds Tryz.pinned (OpenSpec.upto pivotToldsSpec)

/-- 'dioptralaw16.PivotPlaces', WHERE WHAT IT READS IS OF BULK AT MOST 1048576: true; the input reads as it did. -/
def pivotPlacesUptoRow : OpenClaim := { program := "ytnnfjeieennffaagreatdoor", sum := "a7829c1de0d866becc7a38965a6aa93c98745c19a7e99837c69888f7212979a2", func := "dioptra/dioptralaw16.PivotPlaces", spec := "pivotPlaces", unfollowed := true, recurses := true, named := ["math/bits.deBruijn32tab"], apart := false, laid := [("math/bits.deBruijn32tab", laid_math_bits_deBruijn32tab)], narrowed := true }
def PivotPlacesUptoSaid : Prop := pivotPlacesUptoRow.holds Tryz.pinned (OpenSpec.upto pivotPlacesSpec)

/-- 'dioptralaw16.PivotFalls', WHERE WHAT IT READS IS OF BULK AT MOST 1048576: true; the input reads as it did. -/
def pivotFallsUptoRow : OpenClaim := { program := "ytnnfjeieennffaagreatdoor", sum := "a7829c1de0d866becc7a38965a6aa93c98745c19a7e99837c69888f7212979a2", func := "dioptra/dioptralaw16.PivotFalls", spec := "pivotFalls", unfollowed := true, recurses := true, named := ["math/bits.deBruijn32tab"], apart := false, laid := [("math/bits.deBruijn32tab", laid_math_bits_deBruijn32tab)], narrowed := true }
def PivotFallsUptoSaid : Prop := pivotFallsUptoRow.holds Tryz.pinned (OpenSpec.upto pivotFallsSpec)

/-- 'dioptralaw16.PivotWhole', WHERE WHAT IT READS IS OF BULK AT MOST 1048576: true; the input reads as it did. -/
def pivotWholeUptoRow : OpenClaim := { program := "ytnnfjeieennffaagreatdoor", sum := "a7829c1de0d866becc7a38965a6aa93c98745c19a7e99837c69888f7212979a2", func := "dioptra/dioptralaw16.PivotWhole", spec := "pivotWhole", inPlace := ["math.Float64bits"], unfollowed := true, recurses := true, named := ["math/bits.deBruijn32tab"], apart := false, laid := [("math/bits.deBruijn32tab", laid_math_bits_deBruijn32tab)], narrowed := true }
def PivotWholeUptoSaid : Prop := pivotWholeUptoRow.holds Tryz.pinned (OpenSpec.upto pivotWholeSpec)

end Rows
end Go.Proofs.YtnnfjeieennffaaGreatDoor
