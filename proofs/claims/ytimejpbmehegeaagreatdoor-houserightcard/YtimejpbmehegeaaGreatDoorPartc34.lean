/- Part 34 of the texts. -/
import Derived.Test.YtimejpbmehegeaaGreatDoorPartc33
import Derived.Test.YtimejpbmehegeaaGreatDoorPartc05
import Derived.Test.YtimejpbmehegeaaGreatDoorPartc32
import Derived.Deep.RegionLaw
import Derived.Test.YtimejpbmehegeaaGreatDoorPartc16
import Derived.Test.YtimejpbmehegeaaGreatDoorPartc18
import Derived.Test.YtimejpbmehegeaaGreatDoorPartc19
import Derived.Deep.Cut
import Derived.BigQuiet
import Derived.Maps.AppendAt
import Derived.Test.YtimejpbmehegeaaGreatDoorPartc09
import Derived.Lib.BitFns
import Derived.Test.YtimejpbmehegeaaGreatDoorPartc08
import Derived.Test.YtimejpbmehegeaaGreatDoorPartc07
import Derived.Test.YtimejpbmehegeaaGreatDoorPartc10
import Derived.Test.YtimejpbmehegeaaGreatDoorPartc01
import Derived.Test.YtimejpbmehegeaaGreatDoorPartc31
import Derived.Maps.Own
import Derived.Maps.OwnOps
import Derived.Maps.OwnSet
import Derived.DeepKeys4
import Derived.Test.YtimejpbmehegeaaGreatDoorPartc11
import Derived.WalkSmall
import Derived.OwnWalk
import Derived.Test.YtimejpbmehegeaaGreatDoorPartc23
/- The reference of layer 10: With, Copy, Same. -/
namespace Go.Proofs.YtimejpbmehegeaaGreatDoor
open Go.RowKit
attribute [local go_sem ↓] Go.wp_at_zero Go.wp_at_succ

/-- A number of a list of one's own written over. -/
theorem OwnB.at {base : Nat} {w : World} {ao : Option Addr} {n cap : Nat} {S : List Nat} (h : OwnB base w (.slice ao n cap) S) {j : Nat} (hj : j < S.length) :
    ∃ g, ao = some ⟨g, 0, none⟩ ∧ base ≤ g ∧ g < w.heap.size ∧ w.cell? ⟨g, j, none⟩ = some (.int .u64 (S.getD j 0 : Nat)) ∧ w.frozen? ⟨g, j, none⟩ = false ∧
      ∀ x, x < 18446744073709551616 → OwnB base (w.setCell ⟨g, j, none⟩ (.int .u64 (x : Nat))) (.slice ao n cap) (S.set j x) := by
  obtain ⟨⟨h1, h2⟩, h3⟩ := h
  rcases h2 with ⟨_, h0⟩ | ⟨g, cap', cur, hv, hg, hh, hc, hm, hs, ht⟩
  · omega
  · simp only [Value.slice.injEq] at hv
    obtain ⟨rfl, rfl, rfl⟩ := hv
    have q : (S.map bitV)[j]? = some (.int .u64 ((S[j] : Nat) : Int)) := by
      rw [List.getElem?_map, List.getElem?_eq_getElem hj]; rfl
    rw [← ht, List.getElem?_take, if_pos (by omega)] at q
    refine ⟨g, rfl, hg, (Array.getElem?_eq_some_iff.1 hh).1, ?_, frozen_of_row w g j _ _ hh, fun x hx => ⟨⟨by simp, .inr ⟨g, cap, cur.setIfInBounds j (.int .u64 (x : Nat)), ?_, hg, heap_setCell_same w g j _ _ _ hh, by simpa using hc, hm, by simpa using hs, ?_⟩⟩, ?_⟩⟩
    · rw [cell_of_row w g j _ _ _ hh]
      have e : S.getD j 0 = S[j] := by rw [List.getD_eq_getElem?_getD, List.getElem?_eq_getElem hj]; rfl
      rw [e]
      simpa using q
    · simp
    · rw [Array.toList_setIfInBounds, List.take_set, List.length_set, ht, List.map_set]
      rfl
    · intro y hy
      rcases List.mem_or_eq_of_mem_set hy with e | e
      · exact h3 y e
      · rw [e]; exact hx

end Go.Proofs.YtimejpbmehegeaaGreatDoor

/- Rows of numbers, as they lie in memory. -/
namespace Go.Proofs.YtimejpbmehegeaaGreatDoor
open Go.RowKit

/-- A number in memory: its sign, where its limbs lie, the limbs. -/
structure Nm where
  neg : Bool
  ao : Option Addr
  cap : Nat
  L : List Nat

/-- A row in memory: where its numbers lie, the numbers. -/
structure Rw where
  ao : Option Addr
  cap : Nat
  R : List Nm

def Nm.nil : Nm := ⟨false, none, 0, []⟩
def Rw.nil : Rw := ⟨none, 0, []⟩
def nmAt (R : List Nm) (k : Nat) : Nm := R[k]?.getD Nm.nil
def rwAt (M : List Rw) (i : Nat) : Rw := M[i]?.getD Rw.nil
def Nm.v (x : Nm) : Value := .agg #[.bool x.neg, .slice x.ao x.L.length x.cap]
def Rw.v (r : Rw) : Value := .slice r.ao r.R.length r.cap

end Go.Proofs.YtimejpbmehegeaaGreatDoor

/- The mathematics of a row times a power of two, and of a turned matrix (ahead of CertifyRanks, CertifyScales). -/
namespace Go.Proofs.YtimejpbmehegeaaGreatDoor
theorem p2_int (n : Nat) : p2 (n : Int) = ((2 ^ n : Int) : Rat) := by
  unfold p2
  rw [Rat.zpow_natCast]
  simp
end Go.Proofs.YtimejpbmehegeaaGreatDoor

/- The turn of two numbers in the document's order; what it leaves, in exact numbers. Ahead of stage 12 (GivensOne, GivensRight, GivensKeeps). -/
namespace Go.Proofs.YtimejpbmehegeaaGreatDoor
theorem fQ_one12 : fQ 4607182418800017408 = 1 := by
  unfold fQ
  rw [fZ_one11, show ((2 ^ 1074 : Int) : Rat) = p2 (1074 : Nat) from (p2_int 1074).symm, ← p2_add]
  exact p2_0
theorem fQ_zero12 : fQ 0 = 0 := by
  unfold fQ
  rw [fZ_zero11]
  exact Rat.zero_mul _
theorem fin_one12 : fFin 4607182418800017408 = true := by decide +kernel
theorem fin_zero12 : fFin 0 = true := by decide +kernel
theorem ab_zero12 : ab 0 = 0 := by unfold ab; grind

end Go.Proofs.YtimejpbmehegeaaGreatDoor

/- What the turn of two numbers leaves, in whole numbers (GivensOne, GivensRight); rows turned keep the square (GivensKeeps). Ahead of stage 12. -/
namespace Go.Proofs.YtimejpbmehegeaaGreatDoor
theorem p2_split : p2 (-2148) = p2 (-1074) * p2 (-1074) := by rw [← p2_add]; rfl
end Go.Proofs.YtimejpbmehegeaaGreatDoor

