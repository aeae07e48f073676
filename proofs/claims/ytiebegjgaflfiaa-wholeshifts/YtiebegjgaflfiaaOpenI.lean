/- The bounds of an int or int64 that came in. -/
import Derived.Test.YtiebegjgaflfiaaOpen
namespace Go.Proofs.Ytiebegjgaflfiaa

theorem bounds_of_i64 {x : Int} (h : (Lit.int .i64 x).wf = true) : -9223372036854775808 ≤ x ∧ x ≤ 9223372036854775807 := by
  simp [Lit.wf, IntKind.min, IntKind.max, IntKind.signed, IntKind.bits] at h
  omega

end Go.Proofs.Ytiebegjgaflfiaa
