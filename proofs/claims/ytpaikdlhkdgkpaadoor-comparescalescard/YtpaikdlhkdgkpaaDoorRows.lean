/-
  NARROWER THAN 'FOR EVERY INPUT', by the rows' own cells (each row's printed sentence says how): CompareOrders: laid · CompareScales: laid · CompareInts: laid · CompareTruncs: laid · CompareExps: laid · CompareBack: laid.
  DERIVED. THE GIVEN ROWS OF THIS SEAT. 6 by the template 'for every input the law returns true; each argument reads behind the call as it read before'; 0 by the template 'total and deterministic' (their statements: YtpaikdlhkdgkpaaDoorTotals.lean).
  GIVEN WITH THE SEED: the statements are not yours to turn. If you find one false, say at which input.
  Laid BY PROGRAM, IN A SANDBOX (cutbox-rows.mjs): the forced cells as the released guide's own fill.sh prints them over the translation 73a78fd47fc241ea… (all of the seat's roots in one cut). By AI agents, Wed Nov 11 2026. No macro, syntax, notation, axiom, sorry.
-/
import Derived.Test.YtpaikdlhkdgkpaaDoorChecked
import GoSem.Claim
import GoSem.ClaimJoined
import GoSem.ClaimMapViews
import Derived.JoinedTies
import Derived.KernelRfl
namespace Go.Proofs.YtpaikdlhkdgkpaaDoor
/- THE CELL 'sum', in the pinned program and in every row, IS THE sha256 OF THE DUMP (.gsa) THAT YtpaikdlhkdgkpaaDoorProg.lean LOADS. Nothing in Lean hashes anything: it is a label: what it is worth is what the hold of that sum in a sandbox is worth. -/
noncomputable def Tryd.pinned : Pinned := { name := "ytpaikdlhkdgkpaadoor", sum := "73a78fd47fc241ea24bb2d5e9e3763bbd1ad69d09ec0e4a9161c8f11b2345029", checked := Tryd.checked }
namespace Rows
def none {H : Type} : Left H := { results := [], args := [] }

/- WHAT THE LISTED PACKAGE-LEVEL VARIABLES READ AS WHEN THE CALL BEGINS. Each datum BY PROGRAM (the guide's laid-datum.mjs) off the statement by which the dump's own 'gosem.cut.vars' lays the variable. In a bare row this is a premise. The card (YtpaikdlhkdgkpaaDoorCards.lean) ties it to the program's text. -/
def laid_math_bits_deBruijn32tab {H : Type} : DataW H := .agg [.lit (.int .u8 0), .lit (.int .u8 1), .lit (.int .u8 28), .lit (.int .u8 2), .lit (.int .u8 29), .lit (.int .u8 14), .lit (.int .u8 24), .lit (.int .u8 3), .lit (.int .u8 30), .lit (.int .u8 22), .lit (.int .u8 20), .lit (.int .u8 15), .lit (.int .u8 25), .lit (.int .u8 17), .lit (.int .u8 4), .lit (.int .u8 8), .lit (.int .u8 31), .lit (.int .u8 27), .lit (.int .u8 13), .lit (.int .u8 23), .lit (.int .u8 21), .lit (.int .u8 19), .lit (.int .u8 16), .lit (.int .u8 7), .lit (.int .u8 26), .lit (.int .u8 12), .lit (.int .u8 18), .lit (.int .u8 6), .lit (.int .u8 11), .lit (.int .u8 5), .lit (.int .u8 10), .lit (.int .u8 9)]

/-- 'dioptralaw08.CompareOrders': WHATEVER THE INPUT: true; the input reads as it did. -/
def compareOrdersSpec : ChangeSpec := { name := "compareOrders", fn := fun _ => fun
  | [d1, d2] => { results := [.lit (.bool true)], args := [d1, d2] }
  | _ => none }
def compareOrdersRow : OpenClaim := { program := "ytpaikdlhkdgkpaadoor", sum := "73a78fd47fc241ea24bb2d5e9e3763bbd1ad69d09ec0e4a9161c8f11b2345029", func := "dioptra/dioptralaw08.CompareOrders", spec := "compareOrders", inPlace := ["math.Float64frombits"], named := ["math/bits.deBruijn32tab"], apart := false, laid := [("math/bits.deBruijn32tab", laid_math_bits_deBruijn32tab)] }
def CompareOrdersSaid : Prop := compareOrdersRow.holds Tryd.pinned (OpenSpec.ofChange compareOrdersSpec)

/-- ITS FALSE NEIGHBOUR: 'it returns false'. Refute it at one input. -/
def compareOrdersWrong : ChangeSpec := { name := "compareOrders", fn := fun _ => fun
  | [d1, d2] => { results := [.lit (.bool false)], args := [d1, d2] }
  | _ => none }
def CompareOrdersWrongFalsely : Prop := compareOrdersRow.holds Tryd.pinned (OpenSpec.ofChange compareOrdersWrong)

/-- 'dioptralaw08.CompareScales': WHATEVER THE INPUT: true; the input reads as it did. -/
def compareScalesSpec : ChangeSpec := { name := "compareScales", fn := fun _ => fun
  | [d1, d2] => { results := [.lit (.bool true)], args := [d1, d2] }
  | _ => none }
def compareScalesRow : OpenClaim := { program := "ytpaikdlhkdgkpaadoor", sum := "73a78fd47fc241ea24bb2d5e9e3763bbd1ad69d09ec0e4a9161c8f11b2345029", func := "dioptra/dioptralaw08.CompareScales", spec := "compareScales", inPlace := ["math.Float64frombits", "math.Float64bits"], named := ["math/bits.deBruijn32tab"], apart := false, laid := [("math/bits.deBruijn32tab", laid_math_bits_deBruijn32tab)] }
def CompareScalesSaid : Prop := compareScalesRow.holds Tryd.pinned (OpenSpec.ofChange compareScalesSpec)

/-- ITS FALSE NEIGHBOUR: 'it returns false'. Refute it at one input. -/
def compareScalesWrong : ChangeSpec := { name := "compareScales", fn := fun _ => fun
  | [d1, d2] => { results := [.lit (.bool false)], args := [d1, d2] }
  | _ => none }
def CompareScalesWrongFalsely : Prop := compareScalesRow.holds Tryd.pinned (OpenSpec.ofChange compareScalesWrong)

/-- 'dioptralaw08.CompareInts': WHATEVER THE INPUT: true; the input reads as it did. -/
def compareIntsSpec : ChangeSpec := { name := "compareInts", fn := fun _ => fun
  | [d] => { results := [.lit (.bool true)], args := [d] }
  | _ => none }
def compareIntsRow : OpenClaim := { program := "ytpaikdlhkdgkpaadoor", sum := "73a78fd47fc241ea24bb2d5e9e3763bbd1ad69d09ec0e4a9161c8f11b2345029", func := "dioptra/dioptralaw08.CompareInts", spec := "compareInts", inPlace := ["math.Float64bits"], named := ["math/bits.deBruijn32tab"], apart := false, laid := [("math/bits.deBruijn32tab", laid_math_bits_deBruijn32tab)] }
def CompareIntsSaid : Prop := compareIntsRow.holds Tryd.pinned (OpenSpec.ofChange compareIntsSpec)

/-- ITS FALSE NEIGHBOUR: 'it returns false'. Refute it at one input. -/
def compareIntsWrong : ChangeSpec := { name := "compareInts", fn := fun _ => fun
  | [d] => { results := [.lit (.bool false)], args := [d] }
  | _ => none }
def CompareIntsWrongFalsely : Prop := compareIntsRow.holds Tryd.pinned (OpenSpec.ofChange compareIntsWrong)

/-- 'dioptralaw08.CompareTruncs': WHATEVER THE INPUT: true; the input reads as it did. -/
def compareTruncsSpec : ChangeSpec := { name := "compareTruncs", fn := fun _ => fun
  | [d] => { results := [.lit (.bool true)], args := [d] }
  | _ => none }
def compareTruncsRow : OpenClaim := { program := "ytpaikdlhkdgkpaadoor", sum := "73a78fd47fc241ea24bb2d5e9e3763bbd1ad69d09ec0e4a9161c8f11b2345029", func := "dioptra/dioptralaw08.CompareTruncs", spec := "compareTruncs", named := ["math/bits.deBruijn32tab"], apart := false, laid := [("math/bits.deBruijn32tab", laid_math_bits_deBruijn32tab)] }
def CompareTruncsSaid : Prop := compareTruncsRow.holds Tryd.pinned (OpenSpec.ofChange compareTruncsSpec)

/-- ITS FALSE NEIGHBOUR: 'it returns false'. Refute it at one input. -/
def compareTruncsWrong : ChangeSpec := { name := "compareTruncs", fn := fun _ => fun
  | [d] => { results := [.lit (.bool false)], args := [d] }
  | _ => none }
def CompareTruncsWrongFalsely : Prop := compareTruncsRow.holds Tryd.pinned (OpenSpec.ofChange compareTruncsWrong)

/-- 'dioptralaw08.CompareExps': WHATEVER THE INPUT: true; the input reads as it did. -/
def compareExpsSpec : ChangeSpec := { name := "compareExps", fn := fun _ => fun
  | [d] => { results := [.lit (.bool true)], args := [d] }
  | _ => none }
def compareExpsRow : OpenClaim := { program := "ytpaikdlhkdgkpaadoor", sum := "73a78fd47fc241ea24bb2d5e9e3763bbd1ad69d09ec0e4a9161c8f11b2345029", func := "dioptra/dioptralaw08.CompareExps", spec := "compareExps", named := ["math/bits.deBruijn32tab"], apart := false, laid := [("math/bits.deBruijn32tab", laid_math_bits_deBruijn32tab)] }
def CompareExpsSaid : Prop := compareExpsRow.holds Tryd.pinned (OpenSpec.ofChange compareExpsSpec)

/-- ITS FALSE NEIGHBOUR: 'it returns false'. Refute it at one input. -/
def compareExpsWrong : ChangeSpec := { name := "compareExps", fn := fun _ => fun
  | [d] => { results := [.lit (.bool false)], args := [d] }
  | _ => none }
def CompareExpsWrongFalsely : Prop := compareExpsRow.holds Tryd.pinned (OpenSpec.ofChange compareExpsWrong)

/-- 'dioptralaw08.CompareBack': WHATEVER THE INPUT: true; the input reads as it did. -/
def compareBackSpec : ChangeSpec := { name := "compareBack", fn := fun _ => fun
  | [d1, d2] => { results := [.lit (.bool true)], args := [d1, d2] }
  | _ => none }
def compareBackRow : OpenClaim := { program := "ytpaikdlhkdgkpaadoor", sum := "73a78fd47fc241ea24bb2d5e9e3763bbd1ad69d09ec0e4a9161c8f11b2345029", func := "dioptra/dioptralaw08.CompareBack", spec := "compareBack", named := ["math/bits.deBruijn32tab"], apart := false, laid := [("math/bits.deBruijn32tab", laid_math_bits_deBruijn32tab)] }
def CompareBackSaid : Prop := compareBackRow.holds Tryd.pinned (OpenSpec.ofChange compareBackSpec)

/-- ITS FALSE NEIGHBOUR: 'it returns false'. Refute it at one input. -/
def compareBackWrong : ChangeSpec := { name := "compareBack", fn := fun _ => fun
  | [d1, d2] => { results := [.lit (.bool false)], args := [d1, d2] }
  | _ => none }
def CompareBackWrongFalsely : Prop := compareBackRow.holds Tryd.pinned (OpenSpec.ofChange compareBackWrong)

/- THE SECOND FORM. 'bulk': how many values and letters a reading holds, each counted each time it is reached (what is shared counts as often as it is met; a slice's spare places count too). A statement '..UptoSaid' is the law's where the arguments, and the package variables that the reading takes, are together of bulk at most 1048576: NARROWER than '..Said'. Prove '..Said' where nothing that the law and all that it calls make is longer than what came in: it says more and counts as full. Else prove '..UptoSaid'. A law counts once. -/
mutual
def uptoBulk {H : Type} : DataW H → Nat
  | .lit (.string bytes) => bytes.length + 1
  | .lit _ => 1
  | .nil => 1
  | .ptr d => uptoBulk d + 1
  | .slice elems spare => uptoBulkAll elems + uptoBulkAll spare + 1
  | .agg parts => uptoBulkAll parts + 1
  | .iface _ d => uptoBulk d + 1
  | .map entries => uptoBulkEntries entries + 1
  | .held _ => 1
def uptoBulkAll {H : Type} : List (DataW H) → Nat
  | [] => 0
  | d :: r => uptoBulk d + uptoBulkAll r
def uptoBulkEntries {H : Type} : List (Lit × DataW H) → Nat
  | [] => 0
  | x :: r => uptoBulkEntry x + uptoBulkEntries r
def uptoBulkEntry {H : Type} : Lit × DataW H → Nat
  | (.string bytes, d) => bytes.length + uptoBulk d + 1
  | (_, d) => uptoBulk d + 1
 end
def uptoSmall : (H : Type) → List (DataW H) → Bool := fun _ ds => decide (uptoBulkAll ds ≤ 1048576)
def OpenSpec.upto (s : _root_.Go.ChangeSpec) : _root_.Go.OpenSpec := { _root_.Go.OpenSpec.ofChange s with cond := some uptoSmall }

/-- 'dioptralaw08.CompareOrders', WHERE WHAT IT READS IS OF BULK AT MOST 1048576: true; the input reads as it did. -/
def compareOrdersUptoRow : OpenClaim := { program := "ytpaikdlhkdgkpaadoor", sum := "73a78fd47fc241ea24bb2d5e9e3763bbd1ad69d09ec0e4a9161c8f11b2345029", func := "dioptra/dioptralaw08.CompareOrders", spec := "compareOrders", inPlace := ["math.Float64frombits"], named := ["math/bits.deBruijn32tab"], apart := false, laid := [("math/bits.deBruijn32tab", laid_math_bits_deBruijn32tab)], narrowed := true }
def CompareOrdersUptoSaid : Prop := compareOrdersUptoRow.holds Tryd.pinned (OpenSpec.upto compareOrdersSpec)

/-- 'dioptralaw08.CompareScales', WHERE WHAT IT READS IS OF BULK AT MOST 1048576: true; the input reads as it did. -/
def compareScalesUptoRow : OpenClaim := { program := "ytpaikdlhkdgkpaadoor", sum := "73a78fd47fc241ea24bb2d5e9e3763bbd1ad69d09ec0e4a9161c8f11b2345029", func := "dioptra/dioptralaw08.CompareScales", spec := "compareScales", inPlace := ["math.Float64frombits", "math.Float64bits"], named := ["math/bits.deBruijn32tab"], apart := false, laid := [("math/bits.deBruijn32tab", laid_math_bits_deBruijn32tab)], narrowed := true }
def CompareScalesUptoSaid : Prop := compareScalesUptoRow.holds Tryd.pinned (OpenSpec.upto compareScalesSpec)

/-- 'dioptralaw08.CompareInts', WHERE WHAT IT READS IS OF BULK AT MOST 1048576: true; the input reads as it did. -/
def compareIntsUptoRow : OpenClaim := { program := "ytpaikdlhkdgkpaadoor", sum := "73a78fd47fc241ea24bb2d5e9e3763bbd1ad69d09ec0e4a9161c8f11b2345029", func := "dioptra/dioptralaw08.CompareInts", spec := "compareInts", inPlace := ["math.Float64bits"], named := ["math/bits.deBruijn32tab"], apart := false, laid := [("math/bits.deBruijn32tab", laid_math_bits_deBruijn32tab)], narrowed := true }
def CompareIntsUptoSaid : Prop := compareIntsUptoRow.holds Tryd.pinned (OpenSpec.upto compareIntsSpec)

/-- 'dioptralaw08.CompareTruncs', WHERE WHAT IT READS IS OF BULK AT MOST 1048576: true; the input reads as it did. -/
def compareTruncsUptoRow : OpenClaim := { program := "ytpaikdlhkdgkpaadoor", sum := "73a78fd47fc241ea24bb2d5e9e3763bbd1ad69d09ec0e4a9161c8f11b2345029", func := "dioptra/dioptralaw08.CompareTruncs", spec := "compareTruncs", named := ["math/bits.deBruijn32tab"], apart := false, laid := [("math/bits.deBruijn32tab", laid_math_bits_deBruijn32tab)], narrowed := true }
def CompareTruncsUptoSaid : Prop := compareTruncsUptoRow.holds Tryd.pinned (OpenSpec.upto compareTruncsSpec)

/-- 'dioptralaw08.CompareExps', WHERE WHAT IT READS IS OF BULK AT MOST 1048576: true; the input reads as it did. -/
def compareExpsUptoRow : OpenClaim := { program := "ytpaikdlhkdgkpaadoor", sum := "73a78fd47fc241ea24bb2d5e9e3763bbd1ad69d09ec0e4a9161c8f11b2345029", func := "dioptra/dioptralaw08.CompareExps", spec := "compareExps", named := ["math/bits.deBruijn32tab"], apart := false, laid := [("math/bits.deBruijn32tab", laid_math_bits_deBruijn32tab)], narrowed := true }
def CompareExpsUptoSaid : Prop := compareExpsUptoRow.holds Tryd.pinned (OpenSpec.upto compareExpsSpec)

/-- 'dioptralaw08.CompareBack', WHERE WHAT IT READS IS OF BULK AT MOST 1048576: true; the input reads as it did. -/
def compareBackUptoRow : OpenClaim := { program := "ytpaikdlhkdgkpaadoor", sum := "73a78fd47fc241ea24bb2d5e9e3763bbd1ad69d09ec0e4a9161c8f11b2345029", func := "dioptra/dioptralaw08.CompareBack", spec := "compareBack", named := ["math/bits.deBruijn32tab"], apart := false, laid := [("math/bits.deBruijn32tab", laid_math_bits_deBruijn32tab)], narrowed := true }
def CompareBackUptoSaid : Prop := compareBackUptoRow.holds Tryd.pinned (OpenSpec.upto compareBackSpec)

end Rows
end Go.Proofs.YtpaikdlhkdgkpaaDoor
