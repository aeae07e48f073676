/- Part 34 of the texts. -/
import Derived.Test.YtceofkjefmilfaaGreatDoorPartc33
import Derived.Test.YtceofkjefmilfaaGreatDoorPartc09
import Derived.Test.YtceofkjefmilfaaGreatDoorPartc08
import Derived.Test.YtceofkjefmilfaaGreatDoorPartc07
import Derived.Test.YtceofkjefmilfaaGreatDoorPartc10
import Derived.Test.YtceofkjefmilfaaGreatDoorPartc31
/- Contracts of exact's rising, setOf. -/
namespace Go.Proofs.YtceofkjefmilfaaGreatDoor
open Go.RowKit

/-- The whole numbers I lie at ao. -/
def IntsAt (w : World) (ao : Option Addr) (cap : Nat) (I : List Int) : Prop :=
  I.length ≤ cap ∧ (∀ x ∈ I, -9223372036854775808 ≤ x ∧ x ≤ 9223372036854775807) ∧ (I = [] ∨ ∃ b off, ao = some ⟨b, off, none⟩ ∧ b < w.heap.size ∧ ∀ i, i < I.length → w.cell? ⟨b, off + i, none⟩ = some (.int .i64 (I[i]?.getD 0)))

theorem IntsAt.below {w w' : World} {ao : Option Addr} {cap : Nat} {I : List Int} (h : IntsAt w ao cap I) (hb : Below w.heap.size w w') : IntsAt w' ao cap I := by
  refine ⟨h.1, h.2.1, ?_⟩
  rcases h.2.2 with h | ⟨b, off, h1, h2, h3⟩
  · exact .inl h
  · refine .inr ⟨b, off, h1, Nat.lt_of_lt_of_le h2 hb.size, fun i hi => ?_⟩
    rw [hb.cell (p := ⟨b, off + i, none⟩) h2]
    exact h3 i hi
theorem IntsAt.ne {w : World} {ao : Option Addr} {cap : Nat} {I : List Int} (h : IntsAt w ao cap I) (h0 : 0 < I.length) : ∃ b off, ao = some ⟨b, off, none⟩ ∧ b < w.heap.size ∧ ∀ i, i < I.length → w.cell? ⟨b, off + i, none⟩ = some (.int .i64 (I[i]?.getD 0)) := by
  rcases h.2.2 with e | e
  · rw [e] at h0; simp at h0
  · exact e

def atI (I : List Int) (j : Nat) : Int := I[j]?.getD 0
theorem IntsAt.wf {w : World} {ao : Option Addr} {cap : Nat} {I : List Int} (h : IntsAt w ao cap I) (j : Nat) : -9223372036854775808 ≤ atI I j ∧ atI I j ≤ 9223372036854775807 := by
  unfold atI
  by_cases hi : j < I.length
  · rw [List.getElem?_eq_getElem hi]; exact h.2.1 _ (List.getElem_mem hi)
  · rw [List.getElem?_eq_none (by omega)]; simp

/-- The places as numbers from 0 on. -/
def natI (I : List Int) : List Nat := I.map Int.toNat

end Go.Proofs.YtceofkjefmilfaaGreatDoor

/- Frames: what a call leaves alone, but for one block; what a number's box is to others. -/
namespace Go.Proofs.YtceofkjefmilfaaGreatDoor
open Go.RowKit

/-- Below B nothing has turned but block b. -/
structure Fr (B : Nat) (b : Option Nat) (w w' : World) : Prop where
  os : w'.os = w.os
  tape : w'.tape = w.tape
  output : w'.output = w.output
  size : w.heap.size ≤ w'.heap.size
  block : ∀ k, k < B → some k ≠ b → w'.heap[k]? = w.heap[k]?

theorem Fr.refl (B : Nat) (b : Option Nat) (w : World) : Fr B b w w := ⟨rfl, rfl, rfl, Nat.le_refl _, fun _ _ _ => rfl⟩
theorem Fr.trans {B : Nat} {b : Option Nat} {a c d : World} (h : Fr B b a c) (k : Fr B b c d) : Fr B b a d :=
  ⟨k.os.trans h.os, k.tape.trans h.tape, k.output.trans h.output, Nat.le_trans h.size k.size, fun i hi hb => (k.block i hi hb).trans (h.block i hi hb)⟩
theorem Fr.mono {B B' : Nat} {b : Option Nat} {w w' : World} (h : Fr B b w w') (hB : B' ≤ B) : Fr B' b w w' := ⟨h.os, h.tape, h.output, h.size, fun k hk hb => h.block k (Nat.lt_of_lt_of_le hk hB) hb⟩
theorem Fr.of {B : Nat} {w w' : World} (h : Below B w w') (b : Option Nat) : Fr B b w w' := ⟨h.os, h.tape, h.output, h.size, fun k hk _ => h.block k hk⟩
theorem Fr.drew {B : Nat} {b : Option Nat} {w w' : World} (h : Fr B b w w') : Fr B b w w'.drew := ⟨h.os, h.tape, h.output, h.size, h.block⟩
theorem Fr.alloc {B : Nat} {b : Option Nat} {w w' : World} (h : Fr B b w w') (hB : B ≤ w'.heap.size) (o : Obj) : Fr B b w (w'.alloc o) :=
  h.trans (.of ((Below.refl _ _).alloc hB o) b)
theorem Fr.setCell {B : Nat} {b : Option Nat} {w w' : World} (h : Fr B b w w') {p : Addr} (hp : B ≤ p.block) (u : Value) : Fr B b w (w'.setCell p u) :=
  h.trans (.of ((Below.refl _ _).setCell hp u) b)
/-- One call behind another. -/
theorem Fr.then {B : Nat} {b : Option Nat} {w w1 w2 : World} (h : Fr B b w w1) (hB : B ≤ w.heap.size) (k : Fr w1.heap.size b w1 w2) : Fr B b w w2 := h.trans (k.mono (Nat.le_trans hB h.size))
theorem Fr.below {B : Nat} {b : Option Nat} {w w' : World} (h : Fr B b w w') {C : Nat} (hC : C ≤ B) (hb : ∀ m, b = some m → C ≤ m) : Below C w w' :=
  ⟨h.os, h.tape, h.output, h.size, fun k hk => h.block k (by omega) (fun e => by have := hb k e.symm; omega)⟩
theorem Fr.box {B : Nat} {b : Option Nat} {w w' : World} (h : Fr B b w w') {g : Nat} {x y : Value} (hx : Box2 w g x y) (hg : g < B) (hb : ∀ m, b = some m → m < g) : Box2 w' g x y :=
  (h.block g hg (fun e => by have := hb g e.symm; omega)).trans hx
/-- Block k is a number's box. -/
def IsBox (w : World) (k : Nat) : Prop := ∃ x a n c, w.heap[k]? = some (.cells #[.bool x, .slice a n c] 50 (0, 0))
/-- Nothing but numbers' boxes from Base on has turned. -/
structure Stb (Base : Nat) (w w' : World) : Prop where
  os : w'.os = w.os
  tape : w'.tape = w.tape
  output : w'.output = w.output
  size : w.heap.size ≤ w'.heap.size
  block : ∀ k, k < w.heap.size → w'.heap[k]? = w.heap[k]? ∨ (Base ≤ k ∧ IsBox w k)

theorem Stb.of {Base : Nat} {w w' : World} (h : Below w.heap.size w w') : Stb Base w w' := ⟨h.os, h.tape, h.output, h.size, fun k hk => .inl (h.block k hk)⟩
theorem Stb.below {Base : Nat} {w w' : World} (h : Stb Base w w') (hB : Base ≤ w.heap.size) : Below Base w w' :=
  ⟨h.os, h.tape, h.output, h.size, fun k hk => (h.block k (by omega)).resolve_right (fun e => by omega)⟩
theorem Box2.otherx {w : World} {b g : Nat} {x y : Value} (h : Box2 w b x y) (hne : b ≠ g) (u u' : Value) : Box2 ((w.setCell ⟨g, 0, none⟩ u).setCell ⟨g, 1, none⟩ u') b x y := by
  unfold Box2
  rw [Below.heap_setCell _ _ _ _ (show b ≠ (⟨g, 1, none⟩ : Addr).block from hne), Below.heap_setCell _ _ _ _ (show b ≠ (⟨g, 0, none⟩ : Addr).block from hne)]
  exact h

end Go.Proofs.YtceofkjefmilfaaGreatDoor

/- Contract of exact's expand. -/
namespace Go.Proofs.YtceofkjefmilfaaGreatDoor
open Go.RowKit
attribute [local go_sem ↓] Go.wp_at_zero Go.wp_at_succ
theorem NumsAt.cells {w : World} {b off cap : Nat} {R : List Nm} (h : NumsAt w (some ⟨b, off, none⟩) cap R) {k : Nat} (hk : k < R.length) : w.cell? ⟨b, off + k * 2, none⟩ = some (.bool (nmAt R k).neg) ∧ w.cell? ⟨b, off + k * 2 + 1, none⟩ = some (.slice (nmAt R k).ao (nmAt R k).L.length (nmAt R k).cap) := by
  obtain ⟨b', off', e, _, hc⟩ := h.ne (by omega)
  simp only [Option.some.injEq, Addr.mk.injEq, and_true] at e
  obtain ⟨rfl, rfl⟩ := e
  exact hc k hk

end Go.Proofs.YtceofkjefmilfaaGreatDoor

/- Contract of exact's determinant. -/
namespace Go.Proofs.YtceofkjefmilfaaGreatDoor
open Go.RowKit
attribute [local go_sem ↓] Go.wp_at_zero Go.wp_at_succ

/-- A bool or a slice. -/
def isBS : Value → Bool
  | .bool _ => true
  | .slice _ _ _ => true
  | _ => false

/-- What rows say. -/
def valM (M : List Rw) (i j : Nat) : Int := sval (entry M i j).neg (entry M i j).L
end Go.Proofs.YtceofkjefmilfaaGreatDoor

/- A row of numbers in a block of the call's own, number by number overwritten (for ExactSums). -/
namespace Go.Proofs.YtceofkjefmilfaaGreatDoor
open Go.RowKit

theorem numCells_set : ∀ (S : List Nm) (k : Nat) (x : Nm), numCells (S.set k x) = ((numCells S).set (k * 2) (.bool x.neg)).set (k * 2 + 1) (.slice x.ao x.L.length x.cap)
  | [], k, x => by simp [numCells]
  | y :: S, 0, x => rfl
  | y :: S, k + 1, x => by
    have ih := numCells_set S k x
    have e : ∀ z T, numCells (z :: T) = .bool z.neg :: .slice z.ao z.L.length z.cap :: numCells T := fun _ _ => rfl
    rw [List.set_cons_succ, e, e, ih, show (k + 1) * 2 = k * 2 + 1 + 1 by omega]
    rfl

theorem numCells_isBS (S : List Nm) : ∀ (j : Nat) (v : Value), (numCells S)[j]? = some v → isBS v = true := by
  intro j v h
  have hm := List.mem_of_getElem? h
  unfold numCells at hm
  obtain ⟨x, _, hx⟩ := List.mem_flatMap.1 hm
  simp at hx
  rcases hx with rfl | rfl <;> rfl

/-- Block g holds just the numbers S. -/
def SumAt (w : World) (g : Nat) (S : List Nm) : Prop := w.heap[g]? = some (.cells (numCells S).toArray 50 (0, 0))

theorem SumAt.free {w : World} {g : Nat} {S : List Nm} (h : SumAt w g S) (j : Nat) : w.frozen? ⟨g, j, none⟩ = false := frozen_of_row w g j _ _ h
theorem SumAt.lt {w : World} {g : Nat} {S : List Nm} (h : SumAt w g S) : g < w.heap.size := (Array.getElem?_eq_some_iff.1 h).1
theorem SumAt.below {w w' : World} {g B : Nat} {S : List Nm} (h : SumAt w g S) (hb : Below B w w') (hg : g < B) : SumAt w' g S := (hb.block g hg).trans h
theorem SumAt.cells {w : World} {g : Nat} {S : List Nm} (h : SumAt w g S) {k : Nat} (hk : k < S.length) :
    w.cell? ⟨g, k * 2, none⟩ = some (.bool (nmAt S k).neg) ∧ w.cell? ⟨g, k * 2 + 1, none⟩ = some (.slice (nmAt S k).ao (nmAt S k).L.length (nmAt S k).cap) := by
  rw [cell_of_row w g _ _ _ _ h, cell_of_row w g _ _ _ _ h]
  simpa using numCells_get S k hk
theorem SumAt.set {w : World} {g : Nat} {S : List Nm} (h : SumAt w g S) (k : Nat) (x : Nm) : SumAt ((w.setCell ⟨g, k * 2, none⟩ (.bool x.neg)).setCell ⟨g, k * 2 + 1, none⟩ (.slice x.ao x.L.length x.cap)) g (S.set k x) := by
  unfold SumAt
  rw [heap_setCell_same _ g _ _ _ _ (heap_setCell_same w g _ _ _ _ h), numCells_set]
  simp
/-- Numbers stay: their limbs are no bools and no slices. -/
theorem LimbsAt.sum {w : World} {ao : Option Addr} {cap g : Nat} {L : List Nat} {S : List Nm} (h : LimbsAt w ao cap L) (ha : SumAt w g S) (i j : Nat) (u u' : Value) : LimbsAt ((w.setCell ⟨g, i, none⟩ u).setCell ⟨g, j, none⟩ u') ao cap L := by
  refine ⟨h.1, h.2.1, ?_⟩
  rcases h.2.2 with h0 | ⟨c, off, h1, h2, h3⟩
  · exact .inl h0
  · by_cases hL : L = []
    · exact .inl hL
    have hc : c ≠ g := by
      rintro rfl
      have h4 := h3 0 (List.length_pos_iff.2 hL)
      rw [cell_of_row w c _ _ _ _ ha] at h4
      have := numCells_isBS S (off + 0) _ (by simpa using h4)
      simp [isBS] at this
    refine .inr ⟨c, off, h1, by simpa [World.setCell] using h2, fun i' hi' => ?_⟩
    rw [cell_setCell_other _ _ _ _ (show c ≠ g from hc), cell_setCell_other _ _ _ _ (show c ≠ g from hc)]
    exact h3 i' hi'

/-- The number x, as it lies there, is z. -/
def IsNm (w : World) (x : Nm) (z : Int) : Prop := LimbsAt w x.ao x.cap x.L ∧ Canon x.L ∧ x.neg = decide (z < 0) ∧ val x.L = z.natAbs ∧ x.L.length ≤ 35184372088832
theorem IsNum.nm {B : Nat} {w : World} {v : Value} {z : Int} (h : IsNum B w v z) : ∃ x : Nm, v = .agg #[.bool x.neg, .slice x.ao x.L.length x.cap] ∧ IsNm w x z := by
  obtain ⟨neg, ao, cap, L, rfl, h2, _, h4, h5, h6, h7⟩ := h
  exact ⟨⟨neg, ao, cap, L⟩, rfl, h2, h4, h5, h6, h7⟩
theorem IsNm.below {w w' : World} {x : Nm} {z : Int} (h : IsNm w x z) (hb : Below w.heap.size w w') : IsNm w' x z := ⟨h.1.below hb, h.2⟩
theorem IsNm.sum {w : World} {x : Nm} {z : Int} {g : Nat} {S : List Nm} (h : IsNm w x z) (ha : SumAt w g S) (i j : Nat) (u u' : Value) : IsNm ((w.setCell ⟨g, i, none⟩ u).setCell ⟨g, j, none⟩ u') x z := ⟨h.1.sum ha i j u u', h.2⟩

/-- The numbers there are f's. -/
def SumI (w w' : World) (g n : Nat) (f : Nat → Int) (S : List Nm) : Prop :=
  S.length = n ∧ SumAt w' g S ∧ (∀ k, k < n → IsNm w' (nmAt S k) (f k)) ∧ w.heap.size ≤ g ∧ Below w.heap.size w w'
theorem SumI.below {w w' w2 : World} {g n : Nat} {f : Nat → Int} {S : List Nm} (h : SumI w w' g n f S) (hb : Below w'.heap.size w' w2) : SumI w w2 g n f S :=
  ⟨h.1, h.2.1.below hb h.2.1.lt, fun k hk => (h.2.2.1 k hk).below hb, h.2.2.2.1, h.2.2.2.2.trans (hb.mono h.2.2.2.2.size)⟩
theorem SumI.set {w w' : World} {g n : Nat} {f : Nat → Int} {S : List Nm} (h : SumI w w' g n f S) {k : Nat} (x : Nm) {z : Int} (hx : IsNm w' x z) :
    SumI w ((w'.setCell ⟨g, k * 2, none⟩ (.bool x.neg)).setCell ⟨g, k * 2 + 1, none⟩ (.slice x.ao x.L.length x.cap)) g n (fun q => if q = k then z else f q) (S.set k x) := by
  obtain ⟨h1, h2, h3, h4, h5⟩ := h
  refine ⟨by simpa using h1, h2.set k x, fun q hq => ?_, h4, (h5.setCell (p := ⟨g, k * 2, none⟩) h4 _).setCell (p := ⟨g, k * 2 + 1, none⟩) h4 _⟩
  show IsNm _ _ (if q = k then z else f q)
  by_cases e : q = k
  · subst e
    have e2 : nmAt (S.set q x) q = x := by unfold nmAt; rw [List.getElem?_set_self (by omega)]; rfl
    rw [if_pos rfl, e2]
    exact hx.sum h2 _ _ _ _
  · have e2 : nmAt (S.set k x) q = nmAt S q := by unfold nmAt; rw [List.getElem?_set_ne (fun h => e h.symm)]
    rw [if_neg e, e2]
    exact (h3 q hq).sum h2 _ _ _ _

end Go.Proofs.YtceofkjefmilfaaGreatDoor

