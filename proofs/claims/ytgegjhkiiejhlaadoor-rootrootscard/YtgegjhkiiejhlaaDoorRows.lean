/-
  NARROWER THAN 'FOR EVERY INPUT', by the rows' own cells (each row's printed sentence says how): RootWholes: laid · RootRoots: laid · RootFloats: laid · RootSquares: laid · RootRises: laid · RootBetween: laid.
  DERIVED. THE GIVEN ROWS OF THIS SEAT. 6 by the template 'for every input the law returns true; each argument reads behind the call as it read before'; 0 by the template 'total and deterministic' (their statements: YtgegjhkiiejhlaaDoorTotals.lean).
  GIVEN WITH THE SEED: the statements are not yours to turn. If you find one false, say at which input.
  Laid BY PROGRAM, IN A SANDBOX (cutbox-rows.mjs): the forced cells as the released guide's own fill.sh prints them over the translation 80a19e91e6ec0f32… (all of the seat's roots in one cut). By AI agents, Wed Nov 11 2026. No macro, syntax, notation, axiom, sorry.
-/
import Derived.Test.YtgegjhkiiejhlaaDoorChecked
import GoSem.Claim
import GoSem.ClaimJoined
import GoSem.ClaimMapViews
import Derived.JoinedTies
import Derived.KernelRfl
namespace Go.Proofs.YtgegjhkiiejhlaaDoor
/- THE CELL 'sum', in the pinned program and in every row, IS THE sha256 OF THE DUMP (.gsa) THAT YtgegjhkiiejhlaaDoorProg.lean LOADS. Nothing in Lean hashes anything: it is a label: what it is worth is what the hold of that sum in a sandbox is worth. -/
noncomputable def Tryd.pinned : Pinned := { name := "ytgegjhkiiejhlaadoor", sum := "80a19e91e6ec0f32c79a1ee74e107341299cca084a9c67b7750fdc136792f2fc", checked := Tryd.checked }
namespace Rows
def none {H : Type} : Left H := { results := [], args := [] }

/- WHAT THE LISTED PACKAGE-LEVEL VARIABLES READ AS WHEN THE CALL BEGINS. Each datum BY PROGRAM (the guide's laid-datum.mjs) off the statement by which the dump's own 'gosem.cut.vars' lays the variable. In a bare row this is a premise. The card (YtgegjhkiiejhlaaDoorCards.lean) ties it to the program's text. -/
def laid_math_bits_deBruijn32tab {H : Type} : DataW H := .agg [.lit (.int .u8 0), .lit (.int .u8 1), .lit (.int .u8 28), .lit (.int .u8 2), .lit (.int .u8 29), .lit (.int .u8 14), .lit (.int .u8 24), .lit (.int .u8 3), .lit (.int .u8 30), .lit (.int .u8 22), .lit (.int .u8 20), .lit (.int .u8 15), .lit (.int .u8 25), .lit (.int .u8 17), .lit (.int .u8 4), .lit (.int .u8 8), .lit (.int .u8 31), .lit (.int .u8 27), .lit (.int .u8 13), .lit (.int .u8 23), .lit (.int .u8 21), .lit (.int .u8 19), .lit (.int .u8 16), .lit (.int .u8 7), .lit (.int .u8 26), .lit (.int .u8 12), .lit (.int .u8 18), .lit (.int .u8 6), .lit (.int .u8 11), .lit (.int .u8 5), .lit (.int .u8 10), .lit (.int .u8 9)]

/-- 'dioptralaw07.RootWholes': WHATEVER THE INPUT: true; the input reads as it did. -/
def rootWholesSpec : ChangeSpec := { name := "rootWholes", fn := fun _ => fun
  | [d] => { results := [.lit (.bool true)], args := [d] }
  | _ => none }
def rootWholesRow : OpenClaim := { program := "ytgegjhkiiejhlaadoor", sum := "80a19e91e6ec0f32c79a1ee74e107341299cca084a9c67b7750fdc136792f2fc", func := "dioptra/dioptralaw07.RootWholes", spec := "rootWholes", named := ["math/bits.deBruijn32tab"], apart := false, laid := [("math/bits.deBruijn32tab", laid_math_bits_deBruijn32tab)] }
def RootWholesSaid : Prop := rootWholesRow.holds Tryd.pinned (OpenSpec.ofChange rootWholesSpec)

/-- ITS FALSE NEIGHBOUR: 'it returns false'. Refute it at one input. -/
def rootWholesWrong : ChangeSpec := { name := "rootWholes", fn := fun _ => fun
  | [d] => { results := [.lit (.bool false)], args := [d] }
  | _ => none }
def RootWholesWrongFalsely : Prop := rootWholesRow.holds Tryd.pinned (OpenSpec.ofChange rootWholesWrong)

/-- 'dioptralaw07.RootRoots': WHATEVER THE INPUT: true; the input reads as it did. -/
def rootRootsSpec : ChangeSpec := { name := "rootRoots", fn := fun _ => fun
  | [d] => { results := [.lit (.bool true)], args := [d] }
  | _ => none }
def rootRootsRow : OpenClaim := { program := "ytgegjhkiiejhlaadoor", sum := "80a19e91e6ec0f32c79a1ee74e107341299cca084a9c67b7750fdc136792f2fc", func := "dioptra/dioptralaw07.RootRoots", spec := "rootRoots", named := ["math/bits.deBruijn32tab"], apart := false, laid := [("math/bits.deBruijn32tab", laid_math_bits_deBruijn32tab)] }
def RootRootsSaid : Prop := rootRootsRow.holds Tryd.pinned (OpenSpec.ofChange rootRootsSpec)

/-- ITS FALSE NEIGHBOUR: 'it returns false'. Refute it at one input. -/
def rootRootsWrong : ChangeSpec := { name := "rootRoots", fn := fun _ => fun
  | [d] => { results := [.lit (.bool false)], args := [d] }
  | _ => none }
def RootRootsWrongFalsely : Prop := rootRootsRow.holds Tryd.pinned (OpenSpec.ofChange rootRootsWrong)

/-- 'dioptralaw07.RootFloats': WHATEVER THE INPUT: true; the input reads as it did. -/
def rootFloatsSpec : ChangeSpec := { name := "rootFloats", fn := fun _ => fun
  | [d] => { results := [.lit (.bool true)], args := [d] }
  | _ => none }
def rootFloatsRow : OpenClaim := { program := "ytgegjhkiiejhlaadoor", sum := "80a19e91e6ec0f32c79a1ee74e107341299cca084a9c67b7750fdc136792f2fc", func := "dioptra/dioptralaw07.RootFloats", spec := "rootFloats", inPlace := ["math.Float64frombits", "math.sqrt", "math.Float64bits"], named := ["math/bits.deBruijn32tab"], apart := false, laid := [("math/bits.deBruijn32tab", laid_math_bits_deBruijn32tab)] }
def RootFloatsSaid : Prop := rootFloatsRow.holds Tryd.pinned (OpenSpec.ofChange rootFloatsSpec)

/-- ITS FALSE NEIGHBOUR: 'it returns false'. Refute it at one input. -/
def rootFloatsWrong : ChangeSpec := { name := "rootFloats", fn := fun _ => fun
  | [d] => { results := [.lit (.bool false)], args := [d] }
  | _ => none }
def RootFloatsWrongFalsely : Prop := rootFloatsRow.holds Tryd.pinned (OpenSpec.ofChange rootFloatsWrong)

/-- 'dioptralaw07.RootSquares': WHATEVER THE INPUT: true; the input reads as it did. -/
def rootSquaresSpec : ChangeSpec := { name := "rootSquares", fn := fun _ => fun
  | [d] => { results := [.lit (.bool true)], args := [d] }
  | _ => none }
def rootSquaresRow : OpenClaim := { program := "ytgegjhkiiejhlaadoor", sum := "80a19e91e6ec0f32c79a1ee74e107341299cca084a9c67b7750fdc136792f2fc", func := "dioptra/dioptralaw07.RootSquares", spec := "rootSquares", named := ["math/bits.deBruijn32tab"], apart := false, laid := [("math/bits.deBruijn32tab", laid_math_bits_deBruijn32tab)] }
def RootSquaresSaid : Prop := rootSquaresRow.holds Tryd.pinned (OpenSpec.ofChange rootSquaresSpec)

/-- ITS FALSE NEIGHBOUR: 'it returns false'. Refute it at one input. -/
def rootSquaresWrong : ChangeSpec := { name := "rootSquares", fn := fun _ => fun
  | [d] => { results := [.lit (.bool false)], args := [d] }
  | _ => none }
def RootSquaresWrongFalsely : Prop := rootSquaresRow.holds Tryd.pinned (OpenSpec.ofChange rootSquaresWrong)

/-- 'dioptralaw07.RootRises': WHATEVER THE INPUT: true; the input reads as it did. -/
def rootRisesSpec : ChangeSpec := { name := "rootRises", fn := fun _ => fun
  | [d1, d2] => { results := [.lit (.bool true)], args := [d1, d2] }
  | _ => none }
def rootRisesRow : OpenClaim := { program := "ytgegjhkiiejhlaadoor", sum := "80a19e91e6ec0f32c79a1ee74e107341299cca084a9c67b7750fdc136792f2fc", func := "dioptra/dioptralaw07.RootRises", spec := "rootRises", inPlace := ["math.Float64frombits"], named := ["math/bits.deBruijn32tab"], apart := false, laid := [("math/bits.deBruijn32tab", laid_math_bits_deBruijn32tab)] }
def RootRisesSaid : Prop := rootRisesRow.holds Tryd.pinned (OpenSpec.ofChange rootRisesSpec)

/-- ITS FALSE NEIGHBOUR: 'it returns false'. Refute it at one input. -/
def rootRisesWrong : ChangeSpec := { name := "rootRises", fn := fun _ => fun
  | [d1, d2] => { results := [.lit (.bool false)], args := [d1, d2] }
  | _ => none }
def RootRisesWrongFalsely : Prop := rootRisesRow.holds Tryd.pinned (OpenSpec.ofChange rootRisesWrong)

/-- 'dioptralaw07.RootBetween': WHATEVER THE INPUT: true; the input reads as it did. -/
def rootBetweenSpec : ChangeSpec := { name := "rootBetween", fn := fun _ => fun
  | [d] => { results := [.lit (.bool true)], args := [d] }
  | _ => none }
def rootBetweenRow : OpenClaim := { program := "ytgegjhkiiejhlaadoor", sum := "80a19e91e6ec0f32c79a1ee74e107341299cca084a9c67b7750fdc136792f2fc", func := "dioptra/dioptralaw07.RootBetween", spec := "rootBetween", named := ["math/bits.deBruijn32tab"], apart := false, laid := [("math/bits.deBruijn32tab", laid_math_bits_deBruijn32tab)] }
def RootBetweenSaid : Prop := rootBetweenRow.holds Tryd.pinned (OpenSpec.ofChange rootBetweenSpec)

/-- ITS FALSE NEIGHBOUR: 'it returns false'. Refute it at one input. -/
def rootBetweenWrong : ChangeSpec := { name := "rootBetween", fn := fun _ => fun
  | [d] => { results := [.lit (.bool false)], args := [d] }
  | _ => none }
def RootBetweenWrongFalsely : Prop := rootBetweenRow.holds Tryd.pinned (OpenSpec.ofChange rootBetweenWrong)

/- THE SECOND FORM. 'bulk': how many values and letters a reading holds, each counted each time it is reached (what is shared counts as often as it is met; a slice's spare places count too). A statement '..UptoSaid' is the law's where the arguments, and the package variables that the reading takes, are together of bulk at most 1048576: NARROWER than '..Said'. Prove '..Said' where nothing that the law and all that it calls make is longer than what came in: it says more and counts as full. Else prove '..UptoSaid'. A law counts once. -/
mutual
def uptoBulk {H : Type} : DataW H → Nat
  | .lit (.string bytes) => bytes.length + 1
  | .lit _ => 1
  | .nil => 1
  | .ptr d => uptoBulk d + 1
  | .slice elems spare => uptoBulkAll elems + uptoBulkAll spare + 1
  | .agg parts => uptoBulkAll parts + 1
  | .iface _ d => uptoBulk d + 1
  | .map entries => uptoBulkEntries entries + 1
  | .held _ => 1
def uptoBulkAll {H : Type} : List (DataW H) → Nat
  | [] => 0
  | d :: r => uptoBulk d + uptoBulkAll r
def uptoBulkEntries {H : Type} : List (Lit × DataW H) → Nat
  | [] => 0
  | x :: r => uptoBulkEntry x + uptoBulkEntries r
def uptoBulkEntry {H : Type} : Lit × DataW H → Nat
  | (.string bytes, d) => bytes.length + uptoBulk d + 1
  | (_, d) => uptoBulk d + 1
 end
def uptoSmall : (H : Type) → List (DataW H) → Bool := fun _ ds => decide (uptoBulkAll ds ≤ 1048576)
def OpenSpec.upto (s : _root_.Go.ChangeSpec) : _root_.Go.OpenSpec := { _root_.Go.OpenSpec.ofChange s with cond := some uptoSmall }

/-- 'dioptralaw07.RootWholes', WHERE WHAT IT READS IS OF BULK AT MOST 1048576: true; the input reads as it did. -/
def rootWholesUptoRow : OpenClaim := { program := "ytgegjhkiiejhlaadoor", sum := "80a19e91e6ec0f32c79a1ee74e107341299cca084a9c67b7750fdc136792f2fc", func := "dioptra/dioptralaw07.RootWholes", spec := "rootWholes", named := ["math/bits.deBruijn32tab"], apart := false, laid := [("math/bits.deBruijn32tab", laid_math_bits_deBruijn32tab)], narrowed := true }
def RootWholesUptoSaid : Prop := rootWholesUptoRow.holds Tryd.pinned (OpenSpec.upto rootWholesSpec)

/-- 'dioptralaw07.RootRoots', WHERE WHAT IT READS IS OF BULK AT MOST 1048576: true; the input reads as it did. -/
def rootRootsUptoRow : OpenClaim := { program := "ytgegjhkiiejhlaadoor", sum := "80a19e91e6ec0f32c79a1ee74e107341299cca084a9c67b7750fdc136792f2fc", func := "dioptra/dioptralaw07.RootRoots", spec := "rootRoots", named := ["math/bits.deBruijn32tab"], apart := false, laid := [("math/bits.deBruijn32tab", laid_math_bits_deBruijn32tab)], narrowed := true }
def RootRootsUptoSaid : Prop := rootRootsUptoRow.holds Tryd.pinned (OpenSpec.upto rootRootsSpec)

/-- 'dioptralaw07.RootFloats', WHERE WHAT IT READS IS OF BULK AT MOST 1048576: true; the input reads as it did. -/
def rootFloatsUptoRow : OpenClaim := { program := "ytgegjhkiiejhlaadoor", sum := "80a19e91e6ec0f32c79a1ee74e107341299cca084a9c67b7750fdc136792f2fc", func := "dioptra/dioptralaw07.RootFloats", spec := "rootFloats", inPlace := ["math.Float64frombits", "math.sqrt", "math.Float64bits"], named := ["math/bits.deBruijn32tab"], apart := false, laid := [("math/bits.deBruijn32tab", laid_math_bits_deBruijn32tab)], narrowed := true }
def RootFloatsUptoSaid : Prop := rootFloatsUptoRow.holds Tryd.pinned (OpenSpec.upto rootFloatsSpec)

/-- 'dioptralaw07.RootSquares', WHERE WHAT IT READS IS OF BULK AT MOST 1048576: true; the input reads as it did. -/
def rootSquaresUptoRow : OpenClaim := { program := "ytgegjhkiiejhlaadoor", sum := "80a19e91e6ec0f32c79a1ee74e107341299cca084a9c67b7750fdc136792f2fc", func := "dioptra/dioptralaw07.RootSquares", spec := "rootSquares", named := ["math/bits.deBruijn32tab"], apart := false, laid := [("math/bits.deBruijn32tab", laid_math_bits_deBruijn32tab)], narrowed := true }
def RootSquaresUptoSaid : Prop := rootSquaresUptoRow.holds Tryd.pinned (OpenSpec.upto rootSquaresSpec)

/-- 'dioptralaw07.RootRises', WHERE WHAT IT READS IS OF BULK AT MOST 1048576: true; the input reads as it did. -/
def rootRisesUptoRow : OpenClaim := { program := "ytgegjhkiiejhlaadoor", sum := "80a19e91e6ec0f32c79a1ee74e107341299cca084a9c67b7750fdc136792f2fc", func := "dioptra/dioptralaw07.RootRises", spec := "rootRises", inPlace := ["math.Float64frombits"], named := ["math/bits.deBruijn32tab"], apart := false, laid := [("math/bits.deBruijn32tab", laid_math_bits_deBruijn32tab)], narrowed := true }
def RootRisesUptoSaid : Prop := rootRisesUptoRow.holds Tryd.pinned (OpenSpec.upto rootRisesSpec)

/-- 'dioptralaw07.RootBetween', WHERE WHAT IT READS IS OF BULK AT MOST 1048576: true; the input reads as it did. -/
def rootBetweenUptoRow : OpenClaim := { program := "ytgegjhkiiejhlaadoor", sum := "80a19e91e6ec0f32c79a1ee74e107341299cca084a9c67b7750fdc136792f2fc", func := "dioptra/dioptralaw07.RootBetween", spec := "rootBetween", named := ["math/bits.deBruijn32tab"], apart := false, laid := [("math/bits.deBruijn32tab", laid_math_bits_deBruijn32tab)], narrowed := true }
def RootBetweenUptoSaid : Prop := rootBetweenUptoRow.holds Tryd.pinned (OpenSpec.upto rootBetweenSpec)

end Rows
end Go.Proofs.YtgegjhkiiejhlaaDoor
