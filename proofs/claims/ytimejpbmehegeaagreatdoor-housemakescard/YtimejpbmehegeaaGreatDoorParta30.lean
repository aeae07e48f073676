/- Part 30 of the texts. -/
import Derived.Test.YtimejpbmehegeaaGreatDoorParta29
import Derived.Test.YtimejpbmehegeaaGreatDoorParta05
import Derived.Test.YtimejpbmehegeaaGreatDoorParta21
import Derived.Test.YtimejpbmehegeaaGreatDoorParta19
import Derived.Test.YtimejpbmehegeaaGreatDoorParta20
import Derived.Test.YtimejpbmehegeaaGreatDoorParta28
import Derived.Deep.RegionLaw
import Derived.Test.YtimejpbmehegeaaGreatDoorParta16
import Derived.Test.YtimejpbmehegeaaGreatDoorParta17
import Derived.Test.YtimejpbmehegeaaGreatDoorParta18
import Derived.Deep.Cut
import Derived.BigQuiet
import Derived.Maps.AppendAt
import Derived.Test.YtimejpbmehegeaaGreatDoorParta09
import Derived.Lib.BitFns
import Derived.Test.YtimejpbmehegeaaGreatDoorParta08
import Derived.Test.YtimejpbmehegeaaGreatDoorParta07
import Derived.Test.YtimejpbmehegeaaGreatDoorParta10
import Derived.Test.YtimejpbmehegeaaGreatDoorParta01
import Derived.Test.YtimejpbmehegeaaGreatDoorParta27
import Derived.Maps.Own
import Derived.Maps.OwnOps
import Derived.Maps.OwnSet
import Derived.DeepKeys4
import Derived.WalkSmall
import Derived.OwnWalk
import Derived.Test.YtimejpbmehegeaaGreatDoorParta02
import Derived.Test.YtimejpbmehegeaaGreatDoorParta24
import Derived.Deep.RegionWith
/- The reference of layer 10: With, Copy, Same. -/
namespace Go.Proofs.YtimejpbmehegeaaGreatDoor
open Go.RowKit
attribute [local go_sem ↓] Go.wp_at_zero Go.wp_at_succ

/-- A number of a list of one's own written over. -/
theorem OwnB.at {base : Nat} {w : World} {ao : Option Addr} {n cap : Nat} {S : List Nat} (h : OwnB base w (.slice ao n cap) S) {j : Nat} (hj : j < S.length) :
    ∃ g, ao = some ⟨g, 0, none⟩ ∧ base ≤ g ∧ g < w.heap.size ∧ w.cell? ⟨g, j, none⟩ = some (.int .u64 (S.getD j 0 : Nat)) ∧ w.frozen? ⟨g, j, none⟩ = false ∧
      ∀ x, x < 18446744073709551616 → OwnB base (w.setCell ⟨g, j, none⟩ (.int .u64 (x : Nat))) (.slice ao n cap) (S.set j x) := by
  obtain ⟨⟨h1, h2⟩, h3⟩ := h
  rcases h2 with ⟨_, h0⟩ | ⟨g, cap', cur, hv, hg, hh, hc, hm, hs, ht⟩
  · omega
  · simp only [Value.slice.injEq] at hv
    obtain ⟨rfl, rfl, rfl⟩ := hv
    have q : (S.map bitV)[j]? = some (.int .u64 ((S[j] : Nat) : Int)) := by
      rw [List.getElem?_map, List.getElem?_eq_getElem hj]; rfl
    rw [← ht, List.getElem?_take, if_pos (by omega)] at q
    refine ⟨g, rfl, hg, (Array.getElem?_eq_some_iff.1 hh).1, ?_, frozen_of_row w g j _ _ hh, fun x hx => ⟨⟨by simp, .inr ⟨g, cap, cur.setIfInBounds j (.int .u64 (x : Nat)), ?_, hg, heap_setCell_same w g j _ _ _ hh, by simpa using hc, hm, by simpa using hs, ?_⟩⟩, ?_⟩⟩
    · rw [cell_of_row w g j _ _ _ hh]
      have e : S.getD j 0 = S[j] := by rw [List.getD_eq_getElem?_getD, List.getElem?_eq_getElem hj]; rfl
      rw [e]
      simpa using q
    · simp
    · rw [Array.toList_setIfInBounds, List.take_set, List.length_set, ht, List.map_set]
      rfl
    · intro y hy
      rcases List.mem_or_eq_of_mem_set hy with e | e
      · exact h3 y e
      · rw [e]; exact hx

end Go.Proofs.YtimejpbmehegeaaGreatDoor

/- Rows of numbers, as they lie in memory. -/
namespace Go.Proofs.YtimejpbmehegeaaGreatDoor
open Go.RowKit

/-- A number in memory: its sign, where its limbs lie, the limbs. -/
structure Nm where
  neg : Bool
  ao : Option Addr
  cap : Nat
  L : List Nat

/-- A row in memory: where its numbers lie, the numbers. -/
structure Rw where
  ao : Option Addr
  cap : Nat
  R : List Nm

def Nm.nil : Nm := ⟨false, none, 0, []⟩
def Rw.nil : Rw := ⟨none, 0, []⟩
def nmAt (R : List Nm) (k : Nat) : Nm := R[k]?.getD Nm.nil
def rwAt (M : List Rw) (i : Nat) : Rw := M[i]?.getD Rw.nil
def Nm.v (x : Nm) : Value := .agg #[.bool x.neg, .slice x.ao x.L.length x.cap]
def Rw.v (r : Rw) : Value := .slice r.ao r.R.length r.cap

end Go.Proofs.YtimejpbmehegeaaGreatDoor

/- The mirror of a vector in the document's order; what it leaves. Ahead of stage 13. -/
namespace Go.Proofs.YtimejpbmehegeaaGreatDoor

/-- Are all noughts? -/
def ngt (xs : List Nat) : Bool := xs.all (fun x => decide (fK x = 0))
/-- The sign of the first number that is no nought. -/
def ldS : List Nat → Bool
  | [] => false
  | x :: xs => if fK x = 0 then ldS xs else fS x
def hmB (a : Nat) (xs : List Nat) : Nat := if ldS (a :: xs) = true then nrV (a :: xs) else fN (nrV (a :: xs))
def hmD (a : Nat) (xs : List Nat) : Nat := aV a (fN (hmB a xs))
/-- The mirror's beta, tau and v; is there one? -/
def mrB : List Nat → Nat
  | [] => 0
  | a :: xs => if ngt xs = true then a else hmB a xs
def mrT : List Nat → Nat
  | [] => 0
  | a :: xs => if ngt xs = true then 0 else dV (aV (hmB a xs) (fN a)) (hmB a xs)
def mrV : List Nat → List Nat
  | [] => []
  | a :: xs => 4607182418800017408 :: xs.map (fun x => if ngt xs = true then 0 else dV x (hmD a xs))
def mrK : List Nat → Bool
  | [] => true
  | a :: xs => ngt xs || (fFin (hmB a xs) && fFin (hmD a xs))

theorem toN_mxL (xs : List Nat) : toN (mxL xs) = xs := by
  unfold toN mxL
  rw [List.map_map]
  exact List.map_id'' (fun x => by simp) xs
theorem nrV_lt (xs : List Nat) : nrV xs < 18446744073709551616 := by
  have := nmV_lt (mxL xs)
  rwa [nmV_nrV, toN_mxL] at this
theorem hmB_lt (a : Nat) (xs : List Nat) : hmB a xs < 18446744073709551616 := by
  unfold hmB
  split
  · exact nrV_lt _
  · exact fN_lt _ (nrV_lt _)
theorem hmD_lt (a : Nat) (xs : List Nat) (ha : a < 18446744073709551616) : hmD a xs < 18446744073709551616 := aV_lt _ _ ha (fN_lt _ (hmB_lt _ _))
theorem mrV_len (xs : List Nat) : (mrV xs).length = xs.length := by
  match xs with
  | [] => rfl
  | a :: xs => simp [mrV]
theorem ngt_true {xs : List Nat} (h : ngt xs = true) : ∀ x ∈ xs, fK x = 0 := fun x hx => of_decide_eq_true (List.all_eq_true.1 h x hx)
end Go.Proofs.YtimejpbmehegeaaGreatDoor

/- A matrix mirrored, column by column; its square. Ahead of stage 13. -/
namespace Go.Proofs.YtimejpbmehegeaaGreatDoor
theorem list_range (L : List Nat) : L = (List.range L.length).map (fun j => L.getD j 0) := by
  refine List.ext_getElem (by simp) (fun j h1 h2 => ?_)
  simp [List.getD_eq_getElem?_getD, h1]
end Go.Proofs.YtimejpbmehegeaaGreatDoor

/- The reference of layer 10: In, Copy, Stack, Beside. -/
namespace Go.Proofs.YtimejpbmehegeaaGreatDoor
open Go.RowKit
attribute [local go_sem ↓] Go.wp_at_zero Go.wp_at_succ
theorem OwnB.least {base base' : Nat} {w : World} {v : Value} {S : List Nat} (h : OwnB base w v S) (hb : base' ≤ base) : OwnB base' w v S := by
  refine ⟨⟨h.1.1, ?_⟩, h.2⟩
  rcases h.1.2 with e | ⟨g, cap, cur, hv, hg, rest⟩
  · exact .inl e
  · exact .inr ⟨g, cap, cur, hv, Nat.le_trans hb hg, rest⟩
end Go.Proofs.YtimejpbmehegeaaGreatDoor

