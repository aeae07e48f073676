/- A right number that came in. -/
import Derived.Test.YtiebegjgaflfiaaWB
namespace Go.Proofs.Ytiebegjgaflfiaa
open Go.RowKit

/-- A right number that came in, as a number. -/
theorem right_num {B : Nat} {w : World} {neg : Bool} {ao : Option Addr} {cap : Nat} {L : List Nat} (h : LimbsAt w ao cap L) (hr : rightB neg L = true) (hn : NewAt B ao L) : IsNum B w (.agg #[.bool neg, .slice ao L.length cap]) (sval neg L) := by
  have hc := right_canon hr
  by_cases h0 : L = []
  · subst h0
    have : neg = false := by cases neg <;> simp_all
    subst this
    exact IsNum.zero _ _ _ _
  · exact IsNum.mk h hn hc.2.1 h0 (by omega)

end Go.Proofs.Ytiebegjgaflfiaa
