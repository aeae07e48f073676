/- Part 33 of the texts. -/
import Derived.Test.YtimejpbmehegeaaGreatDoorPartc01
import Derived.Test.YtimejpbmehegeaaGreatDoorPartc30
import Derived.Test.YtimejpbmehegeaaGreatDoorPartc28
import Derived.Test.YtimejpbmehegeaaGreatDoorPartc32
import Derived.Maps.AppendAt
/- Sums of whole numbers: put in order by rows or by columns, none of them below 0, bounded; what stage 11 tells, in units of powers of two; rows scaled keep the rank; no program. Ahead of stage 11. -/
namespace Go.Proofs.YtimejpbmehegeaaGreatDoor
open Go.RowKit
theorem sq_ge (x : Int) : 0 ≤ x * x := by
  rcases Int.le_total 0 x with h | h
  · exact Int.mul_nonneg h h
  · exact Int.mul_nonneg_of_nonpos_of_nonpos h h

theorem fZ_one11 : fZ 4607182418800017408 = 2 ^ 1074 := by decide +kernel
theorem fZ_zero11 : fZ 0 = 0 := by decide +kernel

end Go.Proofs.YtimejpbmehegeaaGreatDoor

/- How wide the sums of stage 11 are; sums over places one after another; no program. Ahead of stage 11. -/
namespace Go.Proofs.YtimejpbmehegeaaGreatDoor
open Go.RowKit
theorem up_ltV {x : Int} {j k V : Nat} (hV : j + k ≤ V) (hx : x.natAbs < 2 ^ j) : (x * 2 ^ k).natAbs < 2 ^ V := by
  rw [Int.natAbs_mul, Int.natAbs_pow]
  refine Nat.lt_of_lt_of_le ((Nat.mul_lt_mul_right (Nat.two_pow_pos k)).2 hx) ?_
  rw [← Nat.pow_add]
  exact Nat.pow_le_pow_right (by decide) hV
end Go.Proofs.YtimejpbmehegeaaGreatDoor

/- The law VectorAxpys, walked. -/
namespace Go.Proofs.YtimejpbmehegeaaGreatDoor
open Go.RowKit
attribute [local go_sem ↓] Go.wp_at_zero Go.wp_at_succ

/-- Where a list lies: from block H on. -/
def NewB (H : Nat) (ao : Option Addr) (I : List Int) : Prop := I = [] ∨ ∃ b off, ao = some ⟨b, off, none⟩ ∧ H ≤ b
end Go.Proofs.YtimejpbmehegeaaGreatDoor

/- A matrix in memory; stores into boxes keep it. -/
namespace Go.Proofs.YtimejpbmehegeaaGreatDoor
open Go.RowKit

/-- A matrix's numbers as they lie. -/
def mxL (S : List Nat) : List Int := S.map (fun x : Nat => (x : Int))
theorem mxL_len (S : List Nat) : (mxL S).length = S.length := by simp [mxL]
theorem mxL_at (S : List Nat) (j : Nat) : atB (mxL S) j = S.getD j 0 := by
  unfold mxL atB
  rw [List.getElem?_map, List.getD_eq_getElem?_getD]
  cases S[j]? <;> simp
theorem BitsAt.none (w : World) (c : Nat) : BitsAt w .none c (mxL []) := ⟨by simp [mxL], by simp [mxL], .inl rfl⟩
theorem BitsAt.nilAt (w : World) (ao : Option Addr) (c : Nat) : BitsAt w ao c (mxL []) := ⟨by simp [mxL], by simp [mxL], .inl rfl⟩

end Go.Proofs.YtimejpbmehegeaaGreatDoor

/- Package matrix: at, row, build. -/
namespace Go.Proofs.YtimejpbmehegeaaGreatDoor
open Go.RowKit
attribute [local go_sem ↓] Go.wp_at_zero Go.wp_at_succ
theorem NewB.least {H H' : Nat} {ao : Option Addr} {I : List Int} (h : NewB H ao I) (hh : H' ≤ H) : NewB H' ao I := by
  rcases h with e | ⟨b, off, e1, e2⟩
  · exact .inl e
  · exact .inr ⟨b, off, e1, Nat.le_trans hh e2⟩
theorem OwnB.newB {base : Nat} {w : World} {ao : Option Addr} {n cap : Nat} {S : List Nat} (h : OwnB base w (.slice ao n cap) S) : NewB base ao (mxL S) := by
  rcases h.1.2 with ⟨_, h0⟩ | ⟨g, cap', cur, hv, hg, _⟩
  · exact .inl (by rw [List.length_eq_zero_iff.1 h0]; rfl)
  · simp only [Value.slice.injEq] at hv
    exact .inr ⟨g, 0, hv.1, hg⟩

end Go.Proofs.YtimejpbmehegeaaGreatDoor

