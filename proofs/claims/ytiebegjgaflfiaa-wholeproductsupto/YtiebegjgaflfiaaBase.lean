/- Plain notions for walks over rows of uint32 limbs: where a list of limbs lies, what a struct of a sign and limbs is. -/
import Derived.WalkKit
import Derived.WalkSpells
import Derived.WalkLawsBesides
namespace Go.Proofs.Ytiebegjgaflfiaa
open Go.RowKit

/-- The limbs L lie at ao in w (of none nothing is asked but the room). -/
def LimbsAt (w : World) (ao : Option Addr) (cap : Nat) (L : List Nat) : Prop :=
  L.length ≤ cap ∧ (∀ x ∈ L, x < 4294967296) ∧ (L = [] ∨ ∃ b off, ao = some ⟨b, off, none⟩ ∧ b < w.heap.size ∧ ∀ i, i < L.length → w.cell? ⟨b, off + i, none⟩ = some (.int .u32 ((L[i]?.getD 0 : Nat) : Int)))

/-- What is not empty lies in a block from B on. -/
def NewAt (B : Nat) (ao : Option Addr) (L : List Nat) : Prop := L = [] ∨ ∃ b off, ao = some ⟨b, off, none⟩ ∧ B ≤ b

theorem LimbsAt.below {w w' : World} {ao : Option Addr} {cap : Nat} {L : List Nat} (h : LimbsAt w ao cap L) (hb : Below w.heap.size w w') : LimbsAt w' ao cap L := by
  refine ⟨h.1, h.2.1, ?_⟩
  rcases h.2.2 with h | ⟨b, off, h1, h2, h3⟩
  · exact .inl h
  · refine .inr ⟨b, off, h1, Nat.lt_of_lt_of_le h2 hb.size, fun i hi => ?_⟩
    rw [hb.cell (p := ⟨b, off + i, none⟩) h2]
    exact h3 i hi

theorem LimbsAt.nil (w : World) (ao : Option Addr) (cap : Nat) : LimbsAt w ao cap [] := ⟨Nat.zero_le _, by simp, .inl rfl⟩

theorem LimbsAt.take {w : World} {ao : Option Addr} {cap : Nat} {L : List Nat} (h : LimbsAt w ao cap L) (n : Nat) : LimbsAt w ao cap (L.take n) := by
  refine ⟨Nat.le_trans (List.length_take_le' n L) h.1, fun x hx => h.2.1 x (List.mem_of_mem_take hx), ?_⟩
  rcases h.2.2 with h0 | ⟨b, off, h1, h2, h3⟩
  · left; simp [h0]
  · refine .inr ⟨b, off, h1, h2, fun i hi => ?_⟩
    have hi' := hi
    rw [List.length_take] at hi'
    rw [h3 i (by omega), List.getElem?_take, if_pos (by omega)]

theorem LimbsAt.lt {w : World} {ao : Option Addr} {cap : Nat} {L : List Nat} (h : LimbsAt w ao cap L) (i : Nat) : L[i]?.getD 0 < 4294967296 := by
  by_cases hi : i < L.length
  · rw [List.getElem?_eq_getElem hi]; exact h.2.1 _ (List.getElem_mem hi)
  · rw [List.getElem?_eq_none (by omega)]; decide

theorem ret_int {k : IntKind} {a b : Int} (h : a = b) : Ending.returned (.int k a) = .returned (.int k b) := by rw [h]
theorem ret_bool {a b : Bool} (h : a = b) : Ending.returned (.bool a) = .returned (.bool b) := by rw [h]

theorem hide {p : Prop} (h : p) : Hid p := h
theorem unhide {p : Prop} (h : Hid p) : p := h

end Go.Proofs.Ytiebegjgaflfiaa
