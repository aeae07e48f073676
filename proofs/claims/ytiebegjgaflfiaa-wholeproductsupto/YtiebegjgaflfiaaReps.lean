/- What number a struct of a sign and limbs is. -/
import Derived.Test.YtiebegjgaflfiaaMem
namespace Go.Proofs.Ytiebegjgaflfiaa
open Go.RowKit

/-- The value of a sign and limbs. -/
def sval (neg : Bool) (L : List Nat) : Int := if neg then -(val L : Int) else (val L : Int)

/-- v is the number x in w: with no 0 on top, a sign only below 0; its limbs lie in blocks from B on. -/
def IsNum (B : Nat) (w : World) (v : Value) (x : Int) : Prop :=
  ∃ neg ao cap L, v = .agg #[.bool neg, .slice ao L.length cap] ∧ LimbsAt w ao cap L ∧ NewAt B ao L ∧ Canon L ∧ neg = decide (x < 0) ∧ val L = x.natAbs ∧ L.length ≤ 35184372088832

/-- 2^16384: as great as no number of 512 limbs is. -/
def TOPN : Nat := 512
def TOP : Nat := 4294967296 ^ TOPN
/-- What a number that is made answers: none, if it is too great. -/
def errOf (x : Int) : Int := if x.natAbs < TOP then 0 else 2
def numOf (x : Int) : Int := if x.natAbs < TOP then x else 0

theorem NewAt.nil (B : Nat) (ao : Option Addr) : NewAt B ao [] := .inl rfl
theorem NewAt.mono {B B' : Nat} {ao : Option Addr} {L : List Nat} (h : NewAt B ao L) (hb : B' ≤ B) : NewAt B' ao L := by
  rcases h with h | ⟨b, off, h1, h2⟩
  · exact .inl h
  · exact .inr ⟨b, off, h1, Nat.le_trans hb h2⟩
theorem NewAt.zero {w : World} {ao : Option Addr} {cap : Nat} {L : List Nat} (h : LimbsAt w ao cap L) : NewAt 0 ao L := by
  rcases h.2.2 with h | ⟨b, off, h1, _⟩
  · exact .inl h
  · exact .inr ⟨b, off, h1, Nat.zero_le _⟩

theorem IsNum.below {B : Nat} {w w' : World} {v : Value} {x : Int} (h : IsNum B w v x) (hb : Below w.heap.size w w') : IsNum B w' v x := by
  obtain ⟨neg, ao, cap, L, h1, h2, h3⟩ := h
  exact ⟨neg, ao, cap, L, h1, h2.below hb, h3⟩
theorem IsNum.mono {B B' : Nat} {w : World} {v : Value} {x : Int} (h : IsNum B w v x) (hb : B' ≤ B) : IsNum B' w v x := by
  obtain ⟨neg, ao, cap, L, h1, h2, h3, h4⟩ := h
  exact ⟨neg, ao, cap, L, h1, h2, h3.mono hb, h4⟩
theorem IsNum.zero (B : Nat) (w : World) (ao : Option Addr) (cap : Nat) : IsNum B w (.agg #[.bool false, .slice ao 0 cap]) 0 :=
  ⟨false, ao, cap, [], rfl, LimbsAt.nil _ _ _, .inl rfl, .inl rfl, rfl, rfl, by simp⟩

theorem natAbs_sval (neg : Bool) (L : List Nat) : (sval neg L).natAbs = val L := by
  unfold sval; cases neg <;> simp

/-- Limbs without a 0 on top, not none, with a sign. -/
theorem IsNum.mk {B : Nat} {w : World} {neg : Bool} {ao : Option Addr} {cap : Nat} {L : List Nat} (h : LimbsAt w ao cap L) (hn : NewAt B ao L) (c : Canon L) (h0 : L ≠ []) (hl : L.length ≤ 35184372088832) : IsNum B w (.agg #[.bool neg, .slice ao L.length cap]) (sval neg L) := by
  refine ⟨neg, ao, cap, L, rfl, h, hn, c, ?_, (natAbs_sval neg L).symm, hl⟩
  have hv : val L ≠ 0 := fun e => h0 ((val_zero_of_canon L c).1 e)
  unfold sval; cases neg <;> simp <;> omega

theorem sval_congr {neg : Bool} {L L' : List Nat} (h : val L = val L') : sval neg L = sval neg L' := by unfold sval; rw [h]
theorem sval_nil (neg : Bool) : sval neg [] = 0 := by unfold sval; cases neg <;> simp [val]

theorem val_lt_TOP (L : List Nat) (h : Fits L) (c : Canon L) : val L < TOP ↔ L.length ≤ 512 := (length_le_iff L h c TOPN).symm

end Go.Proofs.Ytiebegjgaflfiaa
