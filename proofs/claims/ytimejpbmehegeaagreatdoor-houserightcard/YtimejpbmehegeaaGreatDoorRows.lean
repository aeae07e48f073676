/-
  NARROWER THAN 'FOR EVERY INPUT', by the rows' own cells (each row's printed sentence says how): HouseMakes: laid · HouseApplies: laid · HouseRight: laid · HouseMirrors: laid · HouseKeeps: laid.
  DERIVED. THE GIVEN ROWS OF THIS SEAT. 5 by the template 'for every input the law returns true; each argument reads behind the call as it read before'; 0 by the template 'total and deterministic' (their statements: YtimejpbmehegeaaGreatDoorTotals.lean).
  GIVEN WITH THE SEED: the statements are not yours to turn. If you find one false, say at which input.
  Laid BY PROGRAM, IN A SANDBOX (cutbox-rows.mjs): the forced cells as the released guide's own fill.sh prints them over the translation 43a17576c1a6b083… (all of the seat's roots in one cut). By AI agents, Wed Nov 11 2026. No macro, syntax, notation, axiom, sorry.
-/
import Derived.Test.YtimejpbmehegeaaGreatDoorChecked
import GoSem.Claim
import GoSem.ClaimJoined
import GoSem.ClaimMapViews
import Derived.JoinedTies
import Derived.KernelRfl
namespace Go.Proofs.YtimejpbmehegeaaGreatDoor
/- THE CELL 'sum', in the pinned program and in every row, IS THE sha256 OF THE DUMP (.gsa) THAT YtimejpbmehegeaaGreatDoorProg.lean LOADS. Nothing in Lean hashes anything: it is a label: what it is worth is what the hold of that sum in a sandbox is worth. -/
noncomputable def Tryz.pinned : Pinned := { name := "ytimejpbmehegeaagreatdoor", sum := "43a17576c1a6b083f8e9cd5236448f32b27674331f857102892c18f263637b00", checked := Tryz.checked }
namespace Rows
def none {H : Type} : Left H := { results := [], args := [] }

/- WHAT THE LISTED PACKAGE-LEVEL VARIABLES READ AS WHEN THE CALL BEGINS. Each datum BY PROGRAM (the guide's laid-datum.mjs) off the statement by which the dump's own 'gosem.cut.vars' lays the variable. In a bare row this is a premise. The card (YtimejpbmehegeaaGreatDoorCards.lean) ties it to the program's text. -/
def laid_math_bits_deBruijn32tab {H : Type} : DataW H := .agg [.lit (.int .u8 0), .lit (.int .u8 1), .lit (.int .u8 28), .lit (.int .u8 2), .lit (.int .u8 29), .lit (.int .u8 14), .lit (.int .u8 24), .lit (.int .u8 3), .lit (.int .u8 30), .lit (.int .u8 22), .lit (.int .u8 20), .lit (.int .u8 15), .lit (.int .u8 25), .lit (.int .u8 17), .lit (.int .u8 4), .lit (.int .u8 8), .lit (.int .u8 31), .lit (.int .u8 27), .lit (.int .u8 13), .lit (.int .u8 23), .lit (.int .u8 21), .lit (.int .u8 19), .lit (.int .u8 16), .lit (.int .u8 7), .lit (.int .u8 26), .lit (.int .u8 12), .lit (.int .u8 18), .lit (.int .u8 6), .lit (.int .u8 11), .lit (.int .u8 5), .lit (.int .u8 10), .lit (.int .u8 9)]

/-- 'dioptralaw13.HouseMakes': WHATEVER THE INPUT: true; the input reads as it did. -/
def houseMakesSpec : ChangeSpec := { name := "houseMakes", fn := fun _ => fun
  | [d] => { results := [.lit (.bool true)], args := [d] }
  | _ => none }
def houseMakesRow : OpenClaim := { program := "ytimejpbmehegeaagreatdoor", sum := "43a17576c1a6b083f8e9cd5236448f32b27674331f857102892c18f263637b00", func := "dioptra/dioptralaw13.HouseMakes", spec := "houseMakes", inPlace := ["math.Float64frombits", "math.Float64bits", "math.sqrt"], unfollowed := true, recurses := true, named := ["math/bits.deBruijn32tab"], apart := false, laid := [("math/bits.deBruijn32tab", laid_math_bits_deBruijn32tab)] }
def HouseMakesSaid : Prop := houseMakesRow.holds Tryz.pinned (OpenSpec.ofChange houseMakesSpec)

/-- ITS FALSE NEIGHBOUR: 'it returns false'. Refute it at one input. -/
def houseMakesWrong : ChangeSpec := { name := "houseMakes", fn := fun _ => fun
  | [d] => { results := [.lit (.bool false)], args := [d] }
  | _ => none }
def HouseMakesWrongFalsely : Prop := houseMakesRow.holds Tryz.pinned (OpenSpec.ofChange houseMakesWrong)

/-- 'dioptralaw13.HouseApplies': WHATEVER THE INPUT: true; the input reads as it did. -/
def houseAppliesSpec : ChangeSpec := { name := "houseApplies", fn := fun _ => fun
  | [d1, d2, d3] => { results := [.lit (.bool true)], args := [d1, d2, d3] }
  | _ => none }
def houseAppliesRow : OpenClaim := { program := "ytimejpbmehegeaagreatdoor", sum := "43a17576c1a6b083f8e9cd5236448f32b27674331f857102892c18f263637b00", func := "dioptra/dioptralaw13.HouseApplies", spec := "houseApplies", inPlace := ["math.Float64frombits", "math.Float64bits"], unfollowed := true, recurses := true, named := ["math/bits.deBruijn32tab"], apart := false, laid := [("math/bits.deBruijn32tab", laid_math_bits_deBruijn32tab)] }
def HouseAppliesSaid : Prop := houseAppliesRow.holds Tryz.pinned (OpenSpec.ofChange houseAppliesSpec)

/-- ITS FALSE NEIGHBOUR: 'it returns false'. Refute it at one input. -/
def houseAppliesWrong : ChangeSpec := { name := "houseApplies", fn := fun _ => fun
  | [d1, d2, d3] => { results := [.lit (.bool false)], args := [d1, d2, d3] }
  | _ => none }
def HouseAppliesWrongFalsely : Prop := houseAppliesRow.holds Tryz.pinned (OpenSpec.ofChange houseAppliesWrong)

/-- 'dioptralaw13.HouseRight': WHATEVER THE INPUT: true; the input reads as it did. -/
def houseRightSpec : ChangeSpec := { name := "houseRight", fn := fun _ => fun
  | [d] => { results := [.lit (.bool true)], args := [d] }
  | _ => none }
def houseRightRow : OpenClaim := { program := "ytimejpbmehegeaagreatdoor", sum := "43a17576c1a6b083f8e9cd5236448f32b27674331f857102892c18f263637b00", func := "dioptra/dioptralaw13.HouseRight", spec := "houseRight", inPlace := ["math.Float64frombits", "math.Float64bits", "math.sqrt"], unfollowed := true, recurses := true, named := ["math/bits.deBruijn32tab"], apart := false, laid := [("math/bits.deBruijn32tab", laid_math_bits_deBruijn32tab)] }
def HouseRightSaid : Prop := houseRightRow.holds Tryz.pinned (OpenSpec.ofChange houseRightSpec)

/-- ITS FALSE NEIGHBOUR: 'it returns false'. Refute it at one input. -/
def houseRightWrong : ChangeSpec := { name := "houseRight", fn := fun _ => fun
  | [d] => { results := [.lit (.bool false)], args := [d] }
  | _ => none }
def HouseRightWrongFalsely : Prop := houseRightRow.holds Tryz.pinned (OpenSpec.ofChange houseRightWrong)

/-- 'dioptralaw13.HouseMirrors': WHATEVER THE INPUT: true; the input reads as it did. -/
def houseMirrorsSpec : ChangeSpec := { name := "houseMirrors", fn := fun _ => fun
  | [d] => { results := [.lit (.bool true)], args := [d] }
  | _ => none }
def houseMirrorsRow : OpenClaim := { program := "ytimejpbmehegeaagreatdoor", sum := "43a17576c1a6b083f8e9cd5236448f32b27674331f857102892c18f263637b00", func := "dioptra/dioptralaw13.HouseMirrors", spec := "houseMirrors", unfollowed := true, recurses := true, named := ["math/bits.deBruijn32tab"], apart := false, laid := [("math/bits.deBruijn32tab", laid_math_bits_deBruijn32tab)] }
def HouseMirrorsSaid : Prop := houseMirrorsRow.holds Tryz.pinned (OpenSpec.ofChange houseMirrorsSpec)

/-- ITS FALSE NEIGHBOUR: 'it returns false'. Refute it at one input. -/
def houseMirrorsWrong : ChangeSpec := { name := "houseMirrors", fn := fun _ => fun
  | [d] => { results := [.lit (.bool false)], args := [d] }
  | _ => none }
def HouseMirrorsWrongFalsely : Prop := houseMirrorsRow.holds Tryz.pinned (OpenSpec.ofChange houseMirrorsWrong)

/-- 'dioptralaw13.HouseKeeps': WHATEVER THE INPUT: true; the input reads as it did. -/
def houseKeepsSpec : ChangeSpec := { name := "houseKeeps", fn := fun _ => fun
  | [d1, d2] => { results := [.lit (.bool true)], args := [d1, d2] }
  | _ => none }
def houseKeepsRow : OpenClaim := { program := "ytimejpbmehegeaagreatdoor", sum := "43a17576c1a6b083f8e9cd5236448f32b27674331f857102892c18f263637b00", func := "dioptra/dioptralaw13.HouseKeeps", spec := "houseKeeps", unfollowed := true, recurses := true, named := ["math/bits.deBruijn32tab"], apart := false, laid := [("math/bits.deBruijn32tab", laid_math_bits_deBruijn32tab)] }
def HouseKeepsSaid : Prop := houseKeepsRow.holds Tryz.pinned (OpenSpec.ofChange houseKeepsSpec)

/-- ITS FALSE NEIGHBOUR: 'it returns false'. Refute it at one input. -/
def houseKeepsWrong : ChangeSpec := { name := "houseKeeps", fn := fun _ => fun
  | [d1, d2] => { results := [.lit (.bool false)], args := [d1, d2] }
  | _ => none }
def HouseKeepsWrongFalsely : Prop := houseKeepsRow.holds Tryz.pinned (OpenSpec.ofChange houseKeepsWrong)

/- THE SECOND FORM. 'bulk': how many values and letters a reading holds, each counted each time it is reached (what is shared counts as often as it is met; a slice's spare places count too). A statement '..UptoSaid' is the law's where the arguments, and the package variables that the reading takes, are together of bulk at most 1048576: NARROWER than '..Said'. Prove '..Said' where nothing that the law and all that it calls make is longer than what came in: it says more and counts as full. Else prove '..UptoSaid'. A law counts once. -/
mutual
def uptoBulk {H : Type} : DataW H → Nat
  | .lit (.string bytes) => bytes.length + 1
  | .lit _ => 1
  | .nil => 1
  | .ptr d => uptoBulk d + 1
  | .slice elems spare => uptoBulkAll elems + uptoBulkAll spare + 1
  | .agg parts => uptoBulkAll parts + 1
  | .iface _ d => uptoBulk d + 1
  | .map entries => uptoBulkEntries entries + 1
  | .held _ => 1
def uptoBulkAll {H : Type} : List (DataW H) → Nat
  | [] => 0
  | d :: r => uptoBulk d + uptoBulkAll r
def uptoBulkEntries {H : Type} : List (Lit × DataW H) → Nat
  | [] => 0
  | x :: r => uptoBulkEntry x + uptoBulkEntries r
def uptoBulkEntry {H : Type} : Lit × DataW H → Nat
  | (.string bytes, d) => bytes.length + uptoBulk d + 1
  | (_, d) => uptoBulk d + 1
 end
def uptoSmall : (H : Type) → List (DataW H) → Bool := fun _ ds => decide (uptoBulkAll ds ≤ 1048576)
def OpenSpec.upto (s : _root_.Go.ChangeSpec) : _root_.Go.OpenSpec := { _root_.Go.OpenSpec.ofChange s with cond := some uptoSmall }

/-- 'dioptralaw13.HouseMakes', WHERE WHAT IT READS IS OF BULK AT MOST 1048576: true; the input reads as it did. -/
def houseMakesUptoRow : OpenClaim := { program := "ytimejpbmehegeaagreatdoor", sum := "43a17576c1a6b083f8e9cd5236448f32b27674331f857102892c18f263637b00", func := "dioptra/dioptralaw13.HouseMakes", spec := "houseMakes", inPlace := ["math.Float64frombits", "math.Float64bits", "math.sqrt"], unfollowed := true, recurses := true, named := ["math/bits.deBruijn32tab"], apart := false, laid := [("math/bits.deBruijn32tab", laid_math_bits_deBruijn32tab)], narrowed := true }
def HouseMakesUptoSaid : Prop := houseMakesUptoRow.holds Tryz.pinned (OpenSpec.upto houseMakesSpec)

/-- 'dioptralaw13.HouseApplies', WHERE WHAT IT READS IS OF BULK AT MOST 1048576: true; the input reads as it did. -/
def houseAppliesUptoRow : OpenClaim := { program := "ytimejpbmehegeaagreatdoor", sum := "43a17576c1a6b083f8e9cd5236448f32b27674331f857102892c18f263637b00", func := "dioptra/dioptralaw13.HouseApplies", spec := "houseApplies", inPlace := ["math.Float64frombits", "math.Float64bits"], unfollowed := true, recurses := true, named := ["math/bits.deBruijn32tab"], apart := false, laid := [("math/bits.deBruijn32tab", laid_math_bits_deBruijn32tab)], narrowed := true }
def HouseAppliesUptoSaid : Prop := houseAppliesUptoRow.holds Tryz.pinned (OpenSpec.upto houseAppliesSpec)

/-- 'dioptralaw13.HouseRight', WHERE WHAT IT READS IS OF BULK AT MOST 1048576: true; the input reads as it did. -/
def houseRightUptoRow : OpenClaim := { program := "ytimejpbmehegeaagreatdoor", sum := "43a17576c1a6b083f8e9cd5236448f32b27674331f857102892c18f263637b00", func := "dioptra/dioptralaw13.HouseRight", spec := "houseRight", inPlace := ["math.Float64frombits", "math.Float64bits", "math.sqrt"], unfollowed := true, recurses := true, named := ["math/bits.deBruijn32tab"], apart := false, laid := [("math/bits.deBruijn32tab", laid_math_bits_deBruijn32tab)], narrowed := true }
def HouseRightUptoSaid : Prop := houseRightUptoRow.holds Tryz.pinned (OpenSpec.upto houseRightSpec)

/-- 'dioptralaw13.HouseMirrors', WHERE WHAT IT READS IS OF BULK AT MOST 1048576: true; the input reads as it did. -/
def houseMirrorsUptoRow : OpenClaim := { program := "ytimejpbmehegeaagreatdoor", sum := "43a17576c1a6b083f8e9cd5236448f32b27674331f857102892c18f263637b00", func := "dioptra/dioptralaw13.HouseMirrors", spec := "houseMirrors", unfollowed := true, recurses := true, named := ["math/bits.deBruijn32tab"], apart := false, laid := [("math/bits.deBruijn32tab", laid_math_bits_deBruijn32tab)], narrowed := true }
def HouseMirrorsUptoSaid : Prop := houseMirrorsUptoRow.holds Tryz.pinned (OpenSpec.upto houseMirrorsSpec)

/-- 'dioptralaw13.HouseKeeps', WHERE WHAT IT READS IS OF BULK AT MOST 1048576: true; the input reads as it did. -/
def houseKeepsUptoRow : OpenClaim := { program := "ytimejpbmehegeaagreatdoor", sum := "43a17576c1a6b083f8e9cd5236448f32b27674331f857102892c18f263637b00", func := "dioptra/dioptralaw13.HouseKeeps", spec := "houseKeeps", unfollowed := true, recurses := true, named := ["math/bits.deBruijn32tab"], apart := false, laid := [("math/bits.deBruijn32tab", laid_math_bits_deBruijn32tab)], narrowed := true }
def HouseKeepsUptoSaid : Prop := houseKeepsUptoRow.holds Tryz.pinned (OpenSpec.upto houseKeepsSpec)

end Rows
end Go.Proofs.YtimejpbmehegeaaGreatDoor
