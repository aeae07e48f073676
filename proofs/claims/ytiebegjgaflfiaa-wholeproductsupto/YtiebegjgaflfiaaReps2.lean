/- Numbers and stores elsewhere. -/
import Derived.Test.YtiebegjgaflfiaaReps
import Derived.Test.YtiebegjgaflfiaaReg
namespace Go.Proofs.Ytiebegjgaflfiaa
open Go.RowKit

theorem cell_setCell_other (w : World) (a p : Addr) (u : Value) (h : a.block ≠ p.block) : (w.setCell p u).cell? a = w.cell? a :=
  World.cell?_of_block (Below.heap_setCell w p u a.block h)

theorem LimbsAt.store {w : World} {ao : Option Addr} {cap B : Nat} {L : List Nat} (h : LimbsAt w ao cap L) (hn : NewAt B ao L) {p : Addr} (hp : p.block < B) (u : Value) : LimbsAt (w.setCell p u) ao cap L := by
  refine ⟨h.1, h.2.1, ?_⟩
  rcases h.2.2 with h0 | ⟨b, off, h1, h2, h3⟩
  · exact .inl h0
  · rcases hn with h0 | ⟨b', off', h1', h2'⟩
    · exact .inl h0
    · rw [h1] at h1'
      simp only [Option.some.injEq, Addr.mk.injEq] at h1'
      obtain ⟨rfl, rfl, _⟩ := h1'
      refine .inr ⟨b, off, h1, by simpa [World.setCell] using h2, fun i hi => ?_⟩
      rw [cell_setCell_other w _ p u (by simp; omega)]
      exact h3 i hi

/-- What a function of one number answers through its result's box: the number, in the world behind the two stores. -/
theorem IsNum.stored {B B' : Nat} {w : World} {n : Bool} {ao : Option Addr} {cap : Nat} {L : List Nat} {x : Int} (h : LimbsAt w ao cap L ∧ NewAt B ao L ∧ Canon L ∧ n = decide (x < 0) ∧ val L = x.natAbs ∧ L.length ≤ 35184372088832) {p q : Addr} (hp : p.block < B) (hq : q.block < B) (hB : B' ≤ B) (u u' : Value) :
    IsNum B' ((w.setCell p u).setCell q u') (.agg #[.bool n, .slice ao L.length cap]) x :=
  ⟨n, ao, cap, L, rfl, (h.1.store h.2.1 hp u).store h.2.1 hq u', h.2.1.mono hB, h.2.2⟩

end Go.Proofs.Ytiebegjgaflfiaa
