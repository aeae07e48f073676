/-
  NARROWER THAN 'FOR EVERY INPUT', by the rows' own cells (each row's printed sentence says how): VectorAxpys: laid · VectorNorms: laid · VectorRight: laid · VectorSigns: laid · VectorOrder: laid.
  DERIVED. THE GIVEN ROWS OF THIS SEAT. 5 by the template 'for every input the law returns true; each argument reads behind the call as it read before'; 0 by the template 'total and deterministic' (their statements: YtlbggedahpnjgaaGreatDoorTotals.lean).
  GIVEN WITH THE SEED: the statements are not yours to turn. If you find one false, say at which input.
  Laid BY PROGRAM, IN A SANDBOX (cutbox-rows.mjs): the forced cells as the released guide's own fill.sh prints them over the translation 9562bd207be88514… (all of the seat's roots in one cut). By AI agents, Wed Nov 11 2026. No macro, syntax, notation, axiom, sorry.
-/
import Derived.Test.YtlbggedahpnjgaaGreatDoorChecked
import GoSem.Claim
import GoSem.ClaimJoined
import GoSem.ClaimMapViews
import Derived.JoinedTies
import Derived.KernelRfl
namespace Go.Proofs.YtlbggedahpnjgaaGreatDoor
/- THE CELL 'sum', in the pinned program and in every row, IS THE sha256 OF THE DUMP (.gsa) THAT YtlbggedahpnjgaaGreatDoorProg.lean LOADS. Nothing in Lean hashes anything: it is a label: what it is worth is what the hold of that sum in a sandbox is worth. -/
noncomputable def Tryz.pinned : Pinned := { name := "ytlbggedahpnjgaagreatdoor", sum := "9562bd207be885144239e1ede9910864f104f5fa2b352db6119f95242a339192", checked := Tryz.checked }
namespace Rows
def none {H : Type} : Left H := { results := [], args := [] }

/- WHAT THE LISTED PACKAGE-LEVEL VARIABLES READ AS WHEN THE CALL BEGINS. Each datum BY PROGRAM (the guide's laid-datum.mjs) off the statement by which the dump's own 'gosem.cut.vars' lays the variable. In a bare row this is a premise. The card (YtlbggedahpnjgaaGreatDoorCards.lean) ties it to the program's text. -/
def laid_math_bits_deBruijn32tab {H : Type} : DataW H := .agg [.lit (.int .u8 0), .lit (.int .u8 1), .lit (.int .u8 28), .lit (.int .u8 2), .lit (.int .u8 29), .lit (.int .u8 14), .lit (.int .u8 24), .lit (.int .u8 3), .lit (.int .u8 30), .lit (.int .u8 22), .lit (.int .u8 20), .lit (.int .u8 15), .lit (.int .u8 25), .lit (.int .u8 17), .lit (.int .u8 4), .lit (.int .u8 8), .lit (.int .u8 31), .lit (.int .u8 27), .lit (.int .u8 13), .lit (.int .u8 23), .lit (.int .u8 21), .lit (.int .u8 19), .lit (.int .u8 16), .lit (.int .u8 7), .lit (.int .u8 26), .lit (.int .u8 12), .lit (.int .u8 18), .lit (.int .u8 6), .lit (.int .u8 11), .lit (.int .u8 5), .lit (.int .u8 10), .lit (.int .u8 9)]

/-- 'dioptralaw09.VectorAxpys': WHATEVER THE INPUT: true; the input reads as it did. -/
def vectorAxpysSpec : ChangeSpec := { name := "vectorAxpys", fn := fun _ => fun
  | [d1, d2, d3] => { results := [.lit (.bool true)], args := [d1, d2, d3] }
  | _ => none }
def vectorAxpysRow : OpenClaim := { program := "ytlbggedahpnjgaagreatdoor", sum := "9562bd207be885144239e1ede9910864f104f5fa2b352db6119f95242a339192", func := "dioptra/dioptralaw09.VectorAxpys", spec := "vectorAxpys", inPlace := ["math.Float64frombits", "math.Float64bits"], unfollowed := true, recurses := true, named := ["math/bits.deBruijn32tab"], apart := false, laid := [("math/bits.deBruijn32tab", laid_math_bits_deBruijn32tab)] }
def VectorAxpysSaid : Prop := vectorAxpysRow.holds Tryz.pinned (OpenSpec.ofChange vectorAxpysSpec)

/-- ITS FALSE NEIGHBOUR: 'it returns false'. Refute it at one input. -/
def vectorAxpysWrong : ChangeSpec := { name := "vectorAxpys", fn := fun _ => fun
  | [d1, d2, d3] => { results := [.lit (.bool false)], args := [d1, d2, d3] }
  | _ => none }
def VectorAxpysWrongFalsely : Prop := vectorAxpysRow.holds Tryz.pinned (OpenSpec.ofChange vectorAxpysWrong)

/-- 'dioptralaw09.VectorNorms': WHATEVER THE INPUT: true; the input reads as it did. -/
def vectorNormsSpec : ChangeSpec := { name := "vectorNorms", fn := fun _ => fun
  | [d] => { results := [.lit (.bool true)], args := [d] }
  | _ => none }
def vectorNormsRow : OpenClaim := { program := "ytlbggedahpnjgaagreatdoor", sum := "9562bd207be885144239e1ede9910864f104f5fa2b352db6119f95242a339192", func := "dioptra/dioptralaw09.VectorNorms", spec := "vectorNorms", inPlace := ["math.Float64frombits", "math.Float64bits", "math.sqrt"], unfollowed := true, recurses := true, named := ["math/bits.deBruijn32tab"], apart := false, laid := [("math/bits.deBruijn32tab", laid_math_bits_deBruijn32tab)] }
def VectorNormsSaid : Prop := vectorNormsRow.holds Tryz.pinned (OpenSpec.ofChange vectorNormsSpec)

/-- ITS FALSE NEIGHBOUR: 'it returns false'. Refute it at one input. -/
def vectorNormsWrong : ChangeSpec := { name := "vectorNorms", fn := fun _ => fun
  | [d] => { results := [.lit (.bool false)], args := [d] }
  | _ => none }
def VectorNormsWrongFalsely : Prop := vectorNormsRow.holds Tryz.pinned (OpenSpec.ofChange vectorNormsWrong)

/-- 'dioptralaw09.VectorRight': WHATEVER THE INPUT: true; the input reads as it did. -/
def vectorRightSpec : ChangeSpec := { name := "vectorRight", fn := fun _ => fun
  | [d] => { results := [.lit (.bool true)], args := [d] }
  | _ => none }
def vectorRightRow : OpenClaim := { program := "ytlbggedahpnjgaagreatdoor", sum := "9562bd207be885144239e1ede9910864f104f5fa2b352db6119f95242a339192", func := "dioptra/dioptralaw09.VectorRight", spec := "vectorRight", unfollowed := true, recurses := true, named := ["math/bits.deBruijn32tab"], apart := false, laid := [("math/bits.deBruijn32tab", laid_math_bits_deBruijn32tab)] }
def VectorRightSaid : Prop := vectorRightRow.holds Tryz.pinned (OpenSpec.ofChange vectorRightSpec)

/-- ITS FALSE NEIGHBOUR: 'it returns false'. Refute it at one input. -/
def vectorRightWrong : ChangeSpec := { name := "vectorRight", fn := fun _ => fun
  | [d] => { results := [.lit (.bool false)], args := [d] }
  | _ => none }
def VectorRightWrongFalsely : Prop := vectorRightRow.holds Tryz.pinned (OpenSpec.ofChange vectorRightWrong)

/-- 'dioptralaw09.VectorSigns': WHATEVER THE INPUT: true; the input reads as it did. -/
def vectorSignsSpec : ChangeSpec := { name := "vectorSigns", fn := fun _ => fun
  | [d1, d2, d3] => { results := [.lit (.bool true)], args := [d1, d2, d3] }
  | _ => none }
def vectorSignsRow : OpenClaim := { program := "ytlbggedahpnjgaagreatdoor", sum := "9562bd207be885144239e1ede9910864f104f5fa2b352db6119f95242a339192", func := "dioptra/dioptralaw09.VectorSigns", spec := "vectorSigns", inPlace := ["math.Float64frombits", "math.Float64bits"], unfollowed := true, recurses := true, named := ["math/bits.deBruijn32tab"], apart := false, laid := [("math/bits.deBruijn32tab", laid_math_bits_deBruijn32tab)] }
def VectorSignsSaid : Prop := vectorSignsRow.holds Tryz.pinned (OpenSpec.ofChange vectorSignsSpec)

/-- ITS FALSE NEIGHBOUR: 'it returns false'. Refute it at one input. -/
def vectorSignsWrong : ChangeSpec := { name := "vectorSigns", fn := fun _ => fun
  | [d1, d2, d3] => { results := [.lit (.bool false)], args := [d1, d2, d3] }
  | _ => none }
def VectorSignsWrongFalsely : Prop := vectorSignsRow.holds Tryz.pinned (OpenSpec.ofChange vectorSignsWrong)

/-- 'dioptralaw09.VectorOrder': WHATEVER THE INPUT: true; the input reads as it did. -/
def vectorOrderSpec : ChangeSpec := { name := "vectorOrder", fn := fun _ => fun
  | [d1, d2] => { results := [.lit (.bool true)], args := [d1, d2] }
  | _ => none }
def vectorOrderRow : OpenClaim := { program := "ytlbggedahpnjgaagreatdoor", sum := "9562bd207be885144239e1ede9910864f104f5fa2b352db6119f95242a339192", func := "dioptra/dioptralaw09.VectorOrder", spec := "vectorOrder", unfollowed := true, recurses := true, named := ["math/bits.deBruijn32tab"], apart := false, laid := [("math/bits.deBruijn32tab", laid_math_bits_deBruijn32tab)] }
def VectorOrderSaid : Prop := vectorOrderRow.holds Tryz.pinned (OpenSpec.ofChange vectorOrderSpec)

/-- ITS FALSE NEIGHBOUR: 'it returns false'. Refute it at one input. -/
def vectorOrderWrong : ChangeSpec := { name := "vectorOrder", fn := fun _ => fun
  | [d1, d2] => { results := [.lit (.bool false)], args := [d1, d2] }
  | _ => none }
def VectorOrderWrongFalsely : Prop := vectorOrderRow.holds Tryz.pinned (OpenSpec.ofChange vectorOrderWrong)

/- THE SECOND FORM. 'bulk': how many values and letters a reading holds, each counted each time it is reached (what is shared counts as often as it is met; a slice's spare places count too). A statement '..UptoSaid' is the law's where the arguments, and the package variables that the reading takes, are together of bulk at most 1048576: NARROWER than '..Said'. Prove '..Said' where nothing that the law and all that it calls make is longer than what came in: it says more and counts as full. Else prove '..UptoSaid'. A law counts once. -/
mutual
def uptoBulk {H : Type} : DataW H → Nat
  | .lit (.string bytes) => bytes.length + 1
  | .lit _ => 1
  | .nil => 1
  | .ptr d => uptoBulk d + 1
  | .slice elems spare => uptoBulkAll elems + uptoBulkAll spare + 1
  | .agg parts => uptoBulkAll parts + 1
  | .iface _ d => uptoBulk d + 1
  | .map entries => uptoBulkEntries entries + 1
  | .held _ => 1
def uptoBulkAll {H : Type} : List (DataW H) → Nat
  | [] => 0
  | d :: r => uptoBulk d + uptoBulkAll r
def uptoBulkEntries {H : Type} : List (Lit × DataW H) → Nat
  | [] => 0
  | x :: r => uptoBulkEntry x + uptoBulkEntries r
def uptoBulkEntry {H : Type} : Lit × DataW H → Nat
  | (.string bytes, d) => bytes.length + uptoBulk d + 1
  | (_, d) => uptoBulk d + 1
 end
def uptoSmall : (H : Type) → List (DataW H) → Bool := fun _ ds => decide (uptoBulkAll ds ≤ 1048576)
def OpenSpec.upto (s : _root_.Go.ChangeSpec) : _root_.Go.OpenSpec := { _root_.Go.OpenSpec.ofChange s with cond := some uptoSmall }

/-- 'dioptralaw09.VectorAxpys', WHERE WHAT IT READS IS OF BULK AT MOST 1048576: true; the input reads as it did. -/
def vectorAxpysUptoRow : OpenClaim := { program := "ytlbggedahpnjgaagreatdoor", sum := "9562bd207be885144239e1ede9910864f104f5fa2b352db6119f95242a339192", func := "dioptra/dioptralaw09.VectorAxpys", spec := "vectorAxpys", inPlace := ["math.Float64frombits", "math.Float64bits"], unfollowed := true, recurses := true, named := ["math/bits.deBruijn32tab"], apart := false, laid := [("math/bits.deBruijn32tab", laid_math_bits_deBruijn32tab)], narrowed := true }
def VectorAxpysUptoSaid : Prop := vectorAxpysUptoRow.holds Tryz.pinned (OpenSpec.upto vectorAxpysSpec)

/-- 'dioptralaw09.VectorNorms', WHERE WHAT IT READS IS OF BULK AT MOST 1048576: true; the input reads as it did. -/
def vectorNormsUptoRow : OpenClaim := { program := "ytlbggedahpnjgaagreatdoor", sum := "9562bd207be885144239e1ede9910864f104f5fa2b352db6119f95242a339192", func := "dioptra/dioptralaw09.VectorNorms", spec := "vectorNorms", inPlace := ["math.Float64frombits", "math.Float64bits", "math.sqrt"], unfollowed := true, recurses := true, named := ["math/bits.deBruijn32tab"], apart := false, laid := [("math/bits.deBruijn32tab", laid_math_bits_deBruijn32tab)], narrowed := true }
def VectorNormsUptoSaid : Prop := vectorNormsUptoRow.holds Tryz.pinned (OpenSpec.upto vectorNormsSpec)

/-- 'dioptralaw09.VectorRight', WHERE WHAT IT READS IS OF BULK AT MOST 1048576: true; the input reads as it did. -/
def vectorRightUptoRow : OpenClaim := { program := "ytlbggedahpnjgaagreatdoor", sum := "9562bd207be885144239e1ede9910864f104f5fa2b352db6119f95242a339192", func := "dioptra/dioptralaw09.VectorRight", spec := "vectorRight", unfollowed := true, recurses := true, named := ["math/bits.deBruijn32tab"], apart := false, laid := [("math/bits.deBruijn32tab", laid_math_bits_deBruijn32tab)], narrowed := true }
def VectorRightUptoSaid : Prop := vectorRightUptoRow.holds Tryz.pinned (OpenSpec.upto vectorRightSpec)

/-- 'dioptralaw09.VectorSigns', WHERE WHAT IT READS IS OF BULK AT MOST 1048576: true; the input reads as it did. -/
def vectorSignsUptoRow : OpenClaim := { program := "ytlbggedahpnjgaagreatdoor", sum := "9562bd207be885144239e1ede9910864f104f5fa2b352db6119f95242a339192", func := "dioptra/dioptralaw09.VectorSigns", spec := "vectorSigns", inPlace := ["math.Float64frombits", "math.Float64bits"], unfollowed := true, recurses := true, named := ["math/bits.deBruijn32tab"], apart := false, laid := [("math/bits.deBruijn32tab", laid_math_bits_deBruijn32tab)], narrowed := true }
def VectorSignsUptoSaid : Prop := vectorSignsUptoRow.holds Tryz.pinned (OpenSpec.upto vectorSignsSpec)

/-- 'dioptralaw09.VectorOrder', WHERE WHAT IT READS IS OF BULK AT MOST 1048576: true; the input reads as it did. -/
def vectorOrderUptoRow : OpenClaim := { program := "ytlbggedahpnjgaagreatdoor", sum := "9562bd207be885144239e1ede9910864f104f5fa2b352db6119f95242a339192", func := "dioptra/dioptralaw09.VectorOrder", spec := "vectorOrder", unfollowed := true, recurses := true, named := ["math/bits.deBruijn32tab"], apart := false, laid := [("math/bits.deBruijn32tab", laid_math_bits_deBruijn32tab)], narrowed := true }
def VectorOrderUptoSaid : Prop := vectorOrderUptoRow.holds Tryz.pinned (OpenSpec.upto vectorOrderSpec)

end Rows
end Go.Proofs.YtlbggedahpnjgaaGreatDoor
