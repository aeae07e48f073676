/- Contract of the reference's limb. -/
import Derived.Test.YtiebegjgaflfiaaW1
namespace Go.Proofs.Ytiebegjgaflfiaa
open Go.RowKit

set_option maxHeartbeats 400000 in
theorem limb_any (ao : Option Addr) (cap : Nat) (L : List Nat) (i : Int) (k : Nat) (w : World) (h : LimbsAt w ao cap L) (hl : L.length ≤ 35184372088830) (hk : i = (k : Int)) :
    Calls Try.prog 52 #[.slice ao L.length cap, .int .i64 i] w fun e w' => e = .returned (.int .u64 ((L[k]?.getD 0 : Nat) : Int)) ∧ w = w' := by
  subst hk
  by_cases hlt : k < L.length
  · rcases h.2.2 with h0 | ⟨b, off, rfl, hb, hc⟩
    · subst h0; simp at hlt
    · have hc1 := hc k hlt
      have hx : L[k]?.getD 0 < 4294967296 := by rw [List.getElem?_eq_getElem hlt]; exact h.2.1 _ (List.getElem_mem hlt)
      clear h hc
      generalize L[k]?.getD 0 = x at *
      generalize L.length = n at *
      go_enter Try.func52, Try.ntmps52
      go_wp2
      go_ret
      exact ⟨rfl, rfl⟩
  · have hx : L[k]?.getD 0 = 0 := by rw [List.getElem?_eq_none (by omega)]; rfl
    rw [hx]
    clear h hx
    generalize L.length = n at *
    go_enter Try.func52, Try.ntmps52
    go_wp2
    go_ret
    exact ⟨rfl, rfl⟩

end Go.Proofs.Ytiebegjgaflfiaa
