/-
  NARROWER THAN 'FOR EVERY INPUT', by the rows' own cells (each row's printed sentence says how): TimesMuls: laid · TimesDivs: laid · TimesFloats: laid · TimesOrder: laid · TimesPowers: laid · TimesSelf: laid.
  DERIVED. THE GIVEN ROWS OF THIS SEAT. 6 by the template 'for every input the law returns true; each argument reads behind the call as it read before'; 0 by the template 'total and deterministic' (their statements: YtibolacikaanpaaDoorTotals.lean).
  GIVEN WITH THE SEED: the statements are not yours to turn. If you find one false, say at which input.
  Laid BY PROGRAM, IN A SANDBOX (cutbox-rows.mjs): the forced cells as the released guide's own fill.sh prints them over the translation 91612d52b6d0fa50… (all of the seat's roots in one cut). By AI agents, Wed Nov 11 2026. No macro, syntax, notation, axiom, sorry.
-/
import Derived.Test.YtibolacikaanpaaDoorChecked
import GoSem.Claim
import GoSem.ClaimJoined
import GoSem.ClaimMapViews
import Derived.JoinedTies
import Derived.KernelRfl
namespace Go.Proofs.YtibolacikaanpaaDoor
/- THE CELL 'sum', in the pinned program and in every row, IS THE sha256 OF THE DUMP (.gsa) THAT YtibolacikaanpaaDoorProg.lean LOADS. Nothing in Lean hashes anything: it is a label: what it is worth is what the hold of that sum in a sandbox is worth. -/
noncomputable def Tryd.pinned : Pinned := { name := "ytibolacikaanpaadoor", sum := "91612d52b6d0fa5091e51bcea251c3607d3064765d0bfa943ba54771ca32f011", checked := Tryd.checked }
namespace Rows
def none {H : Type} : Left H := { results := [], args := [] }

/- WHAT THE LISTED PACKAGE-LEVEL VARIABLES READ AS WHEN THE CALL BEGINS. Each datum BY PROGRAM (the guide's laid-datum.mjs) off the statement by which the dump's own 'gosem.cut.vars' lays the variable. In a bare row this is a premise. The card (YtibolacikaanpaaDoorCards.lean) ties it to the program's text. -/
def laid_math_bits_deBruijn32tab {H : Type} : DataW H := .agg [.lit (.int .u8 0), .lit (.int .u8 1), .lit (.int .u8 28), .lit (.int .u8 2), .lit (.int .u8 29), .lit (.int .u8 14), .lit (.int .u8 24), .lit (.int .u8 3), .lit (.int .u8 30), .lit (.int .u8 22), .lit (.int .u8 20), .lit (.int .u8 15), .lit (.int .u8 25), .lit (.int .u8 17), .lit (.int .u8 4), .lit (.int .u8 8), .lit (.int .u8 31), .lit (.int .u8 27), .lit (.int .u8 13), .lit (.int .u8 23), .lit (.int .u8 21), .lit (.int .u8 19), .lit (.int .u8 16), .lit (.int .u8 7), .lit (.int .u8 26), .lit (.int .u8 12), .lit (.int .u8 18), .lit (.int .u8 6), .lit (.int .u8 11), .lit (.int .u8 5), .lit (.int .u8 10), .lit (.int .u8 9)]

/-- 'dioptralaw06.TimesMuls': WHATEVER THE INPUT: true; the input reads as it did. -/
def timesMulsSpec : ChangeSpec := { name := "timesMuls", fn := fun _ => fun
  | [d1, d2] => { results := [.lit (.bool true)], args := [d1, d2] }
  | _ => none }
def timesMulsRow : OpenClaim := { program := "ytibolacikaanpaadoor", sum := "91612d52b6d0fa5091e51bcea251c3607d3064765d0bfa943ba54771ca32f011", func := "dioptra/dioptralaw06.TimesMuls", spec := "timesMuls", named := ["math/bits.deBruijn32tab"], apart := false, laid := [("math/bits.deBruijn32tab", laid_math_bits_deBruijn32tab)] }
def TimesMulsSaid : Prop := timesMulsRow.holds Tryd.pinned (OpenSpec.ofChange timesMulsSpec)

/-- ITS FALSE NEIGHBOUR: 'it returns false'. Refute it at one input. -/
def timesMulsWrong : ChangeSpec := { name := "timesMuls", fn := fun _ => fun
  | [d1, d2] => { results := [.lit (.bool false)], args := [d1, d2] }
  | _ => none }
def TimesMulsWrongFalsely : Prop := timesMulsRow.holds Tryd.pinned (OpenSpec.ofChange timesMulsWrong)

/-- 'dioptralaw06.TimesDivs': WHATEVER THE INPUT: true; the input reads as it did. -/
def timesDivsSpec : ChangeSpec := { name := "timesDivs", fn := fun _ => fun
  | [d1, d2] => { results := [.lit (.bool true)], args := [d1, d2] }
  | _ => none }
def timesDivsRow : OpenClaim := { program := "ytibolacikaanpaadoor", sum := "91612d52b6d0fa5091e51bcea251c3607d3064765d0bfa943ba54771ca32f011", func := "dioptra/dioptralaw06.TimesDivs", spec := "timesDivs", named := ["math/bits.deBruijn32tab"], apart := false, laid := [("math/bits.deBruijn32tab", laid_math_bits_deBruijn32tab)] }
def TimesDivsSaid : Prop := timesDivsRow.holds Tryd.pinned (OpenSpec.ofChange timesDivsSpec)

/-- ITS FALSE NEIGHBOUR: 'it returns false'. Refute it at one input. -/
def timesDivsWrong : ChangeSpec := { name := "timesDivs", fn := fun _ => fun
  | [d1, d2] => { results := [.lit (.bool false)], args := [d1, d2] }
  | _ => none }
def TimesDivsWrongFalsely : Prop := timesDivsRow.holds Tryd.pinned (OpenSpec.ofChange timesDivsWrong)

/-- 'dioptralaw06.TimesFloats': WHATEVER THE INPUT: true; the input reads as it did. -/
def timesFloatsSpec : ChangeSpec := { name := "timesFloats", fn := fun _ => fun
  | [d1, d2] => { results := [.lit (.bool true)], args := [d1, d2] }
  | _ => none }
def timesFloatsRow : OpenClaim := { program := "ytibolacikaanpaadoor", sum := "91612d52b6d0fa5091e51bcea251c3607d3064765d0bfa943ba54771ca32f011", func := "dioptra/dioptralaw06.TimesFloats", spec := "timesFloats", inPlace := ["math.Float64frombits", "math.Float64bits"], named := ["math/bits.deBruijn32tab"], apart := false, laid := [("math/bits.deBruijn32tab", laid_math_bits_deBruijn32tab)] }
def TimesFloatsSaid : Prop := timesFloatsRow.holds Tryd.pinned (OpenSpec.ofChange timesFloatsSpec)

/-- ITS FALSE NEIGHBOUR: 'it returns false'. Refute it at one input. -/
def timesFloatsWrong : ChangeSpec := { name := "timesFloats", fn := fun _ => fun
  | [d1, d2] => { results := [.lit (.bool false)], args := [d1, d2] }
  | _ => none }
def TimesFloatsWrongFalsely : Prop := timesFloatsRow.holds Tryd.pinned (OpenSpec.ofChange timesFloatsWrong)

/-- 'dioptralaw06.TimesOrder': WHATEVER THE INPUT: true; the input reads as it did. -/
def timesOrderSpec : ChangeSpec := { name := "timesOrder", fn := fun _ => fun
  | [d1, d2] => { results := [.lit (.bool true)], args := [d1, d2] }
  | _ => none }
def timesOrderRow : OpenClaim := { program := "ytibolacikaanpaadoor", sum := "91612d52b6d0fa5091e51bcea251c3607d3064765d0bfa943ba54771ca32f011", func := "dioptra/dioptralaw06.TimesOrder", spec := "timesOrder", named := ["math/bits.deBruijn32tab"], apart := false, laid := [("math/bits.deBruijn32tab", laid_math_bits_deBruijn32tab)] }
def TimesOrderSaid : Prop := timesOrderRow.holds Tryd.pinned (OpenSpec.ofChange timesOrderSpec)

/-- ITS FALSE NEIGHBOUR: 'it returns false'. Refute it at one input. -/
def timesOrderWrong : ChangeSpec := { name := "timesOrder", fn := fun _ => fun
  | [d1, d2] => { results := [.lit (.bool false)], args := [d1, d2] }
  | _ => none }
def TimesOrderWrongFalsely : Prop := timesOrderRow.holds Tryd.pinned (OpenSpec.ofChange timesOrderWrong)

/-- 'dioptralaw06.TimesPowers': WHATEVER THE INPUT: true; the input reads as it did. -/
def timesPowersSpec : ChangeSpec := { name := "timesPowers", fn := fun _ => fun
  | [d1, d2] => { results := [.lit (.bool true)], args := [d1, d2] }
  | _ => none }
def timesPowersRow : OpenClaim := { program := "ytibolacikaanpaadoor", sum := "91612d52b6d0fa5091e51bcea251c3607d3064765d0bfa943ba54771ca32f011", func := "dioptra/dioptralaw06.TimesPowers", spec := "timesPowers", named := ["math/bits.deBruijn32tab"], apart := false, laid := [("math/bits.deBruijn32tab", laid_math_bits_deBruijn32tab)] }
def TimesPowersSaid : Prop := timesPowersRow.holds Tryd.pinned (OpenSpec.ofChange timesPowersSpec)

/-- ITS FALSE NEIGHBOUR: 'it returns false'. Refute it at one input. -/
def timesPowersWrong : ChangeSpec := { name := "timesPowers", fn := fun _ => fun
  | [d1, d2] => { results := [.lit (.bool false)], args := [d1, d2] }
  | _ => none }
def TimesPowersWrongFalsely : Prop := timesPowersRow.holds Tryd.pinned (OpenSpec.ofChange timesPowersWrong)

/-- 'dioptralaw06.TimesSelf': WHATEVER THE INPUT: true; the input reads as it did. -/
def timesSelfSpec : ChangeSpec := { name := "timesSelf", fn := fun _ => fun
  | [d] => { results := [.lit (.bool true)], args := [d] }
  | _ => none }
def timesSelfRow : OpenClaim := { program := "ytibolacikaanpaadoor", sum := "91612d52b6d0fa5091e51bcea251c3607d3064765d0bfa943ba54771ca32f011", func := "dioptra/dioptralaw06.TimesSelf", spec := "timesSelf", named := ["math/bits.deBruijn32tab"], apart := false, laid := [("math/bits.deBruijn32tab", laid_math_bits_deBruijn32tab)] }
def TimesSelfSaid : Prop := timesSelfRow.holds Tryd.pinned (OpenSpec.ofChange timesSelfSpec)

/-- ITS FALSE NEIGHBOUR: 'it returns false'. Refute it at one input. -/
def timesSelfWrong : ChangeSpec := { name := "timesSelf", fn := fun _ => fun
  | [d] => { results := [.lit (.bool false)], args := [d] }
  | _ => none }
def TimesSelfWrongFalsely : Prop := timesSelfRow.holds Tryd.pinned (OpenSpec.ofChange timesSelfWrong)

/- THE SECOND FORM. 'bulk': how many values and letters a reading holds, each counted each time it is reached (what is shared counts as often as it is met; a slice's spare places count too). A statement '..UptoSaid' is the law's where the arguments, and the package variables that the reading takes, are together of bulk at most 1048576: NARROWER than '..Said'. Prove '..Said' where nothing that the law and all that it calls make is longer than what came in: it says more and counts as full. Else prove '..UptoSaid'. A law counts once. -/
mutual
def uptoBulk {H : Type} : DataW H → Nat
  | .lit (.string bytes) => bytes.length + 1
  | .lit _ => 1
  | .nil => 1
  | .ptr d => uptoBulk d + 1
  | .slice elems spare => uptoBulkAll elems + uptoBulkAll spare + 1
  | .agg parts => uptoBulkAll parts + 1
  | .iface _ d => uptoBulk d + 1
  | .map entries => uptoBulkEntries entries + 1
  | .held _ => 1
def uptoBulkAll {H : Type} : List (DataW H) → Nat
  | [] => 0
  | d :: r => uptoBulk d + uptoBulkAll r
def uptoBulkEntries {H : Type} : List (Lit × DataW H) → Nat
  | [] => 0
  | x :: r => uptoBulkEntry x + uptoBulkEntries r
def uptoBulkEntry {H : Type} : Lit × DataW H → Nat
  | (.string bytes, d) => bytes.length + uptoBulk d + 1
  | (_, d) => uptoBulk d + 1
 end
def uptoSmall : (H : Type) → List (DataW H) → Bool := fun _ ds => decide (uptoBulkAll ds ≤ 1048576)
def OpenSpec.upto (s : _root_.Go.ChangeSpec) : _root_.Go.OpenSpec := { _root_.Go.OpenSpec.ofChange s with cond := some uptoSmall }

/-- 'dioptralaw06.TimesMuls', WHERE WHAT IT READS IS OF BULK AT MOST 1048576: true; the input reads as it did. -/
def timesMulsUptoRow : OpenClaim := { program := "ytibolacikaanpaadoor", sum := "91612d52b6d0fa5091e51bcea251c3607d3064765d0bfa943ba54771ca32f011", func := "dioptra/dioptralaw06.TimesMuls", spec := "timesMuls", named := ["math/bits.deBruijn32tab"], apart := false, laid := [("math/bits.deBruijn32tab", laid_math_bits_deBruijn32tab)], narrowed := true }
def TimesMulsUptoSaid : Prop := timesMulsUptoRow.holds Tryd.pinned (OpenSpec.upto timesMulsSpec)

/-- 'dioptralaw06.TimesDivs', WHERE WHAT IT READS IS OF BULK AT MOST 1048576: true; the input reads as it did. -/
def timesDivsUptoRow : OpenClaim := { program := "ytibolacikaanpaadoor", sum := "91612d52b6d0fa5091e51bcea251c3607d3064765d0bfa943ba54771ca32f011", func := "dioptra/dioptralaw06.TimesDivs", spec := "timesDivs", named := ["math/bits.deBruijn32tab"], apart := false, laid := [("math/bits.deBruijn32tab", laid_math_bits_deBruijn32tab)], narrowed := true }
def TimesDivsUptoSaid : Prop := timesDivsUptoRow.holds Tryd.pinned (OpenSpec.upto timesDivsSpec)

/-- 'dioptralaw06.TimesFloats', WHERE WHAT IT READS IS OF BULK AT MOST 1048576: true; the input reads as it did. -/
def timesFloatsUptoRow : OpenClaim := { program := "ytibolacikaanpaadoor", sum := "91612d52b6d0fa5091e51bcea251c3607d3064765d0bfa943ba54771ca32f011", func := "dioptra/dioptralaw06.TimesFloats", spec := "timesFloats", inPlace := ["math.Float64frombits", "math.Float64bits"], named := ["math/bits.deBruijn32tab"], apart := false, laid := [("math/bits.deBruijn32tab", laid_math_bits_deBruijn32tab)], narrowed := true }
def TimesFloatsUptoSaid : Prop := timesFloatsUptoRow.holds Tryd.pinned (OpenSpec.upto timesFloatsSpec)

/-- 'dioptralaw06.TimesOrder', WHERE WHAT IT READS IS OF BULK AT MOST 1048576: true; the input reads as it did. -/
def timesOrderUptoRow : OpenClaim := { program := "ytibolacikaanpaadoor", sum := "91612d52b6d0fa5091e51bcea251c3607d3064765d0bfa943ba54771ca32f011", func := "dioptra/dioptralaw06.TimesOrder", spec := "timesOrder", named := ["math/bits.deBruijn32tab"], apart := false, laid := [("math/bits.deBruijn32tab", laid_math_bits_deBruijn32tab)], narrowed := true }
def TimesOrderUptoSaid : Prop := timesOrderUptoRow.holds Tryd.pinned (OpenSpec.upto timesOrderSpec)

/-- 'dioptralaw06.TimesPowers', WHERE WHAT IT READS IS OF BULK AT MOST 1048576: true; the input reads as it did. -/
def timesPowersUptoRow : OpenClaim := { program := "ytibolacikaanpaadoor", sum := "91612d52b6d0fa5091e51bcea251c3607d3064765d0bfa943ba54771ca32f011", func := "dioptra/dioptralaw06.TimesPowers", spec := "timesPowers", named := ["math/bits.deBruijn32tab"], apart := false, laid := [("math/bits.deBruijn32tab", laid_math_bits_deBruijn32tab)], narrowed := true }
def TimesPowersUptoSaid : Prop := timesPowersUptoRow.holds Tryd.pinned (OpenSpec.upto timesPowersSpec)

/-- 'dioptralaw06.TimesSelf', WHERE WHAT IT READS IS OF BULK AT MOST 1048576: true; the input reads as it did. -/
def timesSelfUptoRow : OpenClaim := { program := "ytibolacikaanpaadoor", sum := "91612d52b6d0fa5091e51bcea251c3607d3064765d0bfa943ba54771ca32f011", func := "dioptra/dioptralaw06.TimesSelf", spec := "timesSelf", named := ["math/bits.deBruijn32tab"], apart := false, laid := [("math/bits.deBruijn32tab", laid_math_bits_deBruijn32tab)], narrowed := true }
def TimesSelfUptoSaid : Prop := timesSelfUptoRow.holds Tryd.pinned (OpenSpec.upto timesSelfSpec)

end Rows
end Go.Proofs.YtibolacikaanpaaDoor
