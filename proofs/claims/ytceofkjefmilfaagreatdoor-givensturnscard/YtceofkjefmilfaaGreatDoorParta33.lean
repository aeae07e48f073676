/- Part 33 of the texts. -/
import Derived.Test.YtceofkjefmilfaaGreatDoorParta32
import Derived.Test.YtceofkjefmilfaaGreatDoorParta09
import Derived.Test.YtceofkjefmilfaaGreatDoorParta08
import Derived.Test.YtceofkjefmilfaaGreatDoorParta07
import Derived.Test.YtceofkjefmilfaaGreatDoorParta10
import Derived.Test.YtceofkjefmilfaaGreatDoorParta30
/- Contracts of exact's width, wellShaped. -/
namespace Go.Proofs.YtceofkjefmilfaaGreatDoor
open Go.RowKit

/-- Lengths that no wrap touches. -/
def SmallM (M : List Rw) : Prop := M.length ≤ 35184372088830 ∧ ∀ r ∈ M, r.R.length ≤ 35184372088830 ∧ ∀ x ∈ r.R, x.L.length ≤ 35184372088830

theorem SmallM.row {M : List Rw} (h : SmallM M) (i : Nat) : (rwAt M i).R.length ≤ 35184372088830 := by
  by_cases hi : i < M.length
  · exact (h.2 _ (rwAt_mem hi)).1
  · unfold rwAt; rw [List.getElem?_eq_none (by omega)]; simp [Rw.nil]

end Go.Proofs.YtceofkjefmilfaaGreatDoor

/- Contracts of exact's rising, setOf. -/
namespace Go.Proofs.YtceofkjefmilfaaGreatDoor
open Go.RowKit

/-- The whole numbers I lie at ao. -/
def IntsAt (w : World) (ao : Option Addr) (cap : Nat) (I : List Int) : Prop :=
  I.length ≤ cap ∧ (∀ x ∈ I, -9223372036854775808 ≤ x ∧ x ≤ 9223372036854775807) ∧ (I = [] ∨ ∃ b off, ao = some ⟨b, off, none⟩ ∧ b < w.heap.size ∧ ∀ i, i < I.length → w.cell? ⟨b, off + i, none⟩ = some (.int .i64 (I[i]?.getD 0)))

theorem IntsAt.below {w w' : World} {ao : Option Addr} {cap : Nat} {I : List Int} (h : IntsAt w ao cap I) (hb : Below w.heap.size w w') : IntsAt w' ao cap I := by
  refine ⟨h.1, h.2.1, ?_⟩
  rcases h.2.2 with h | ⟨b, off, h1, h2, h3⟩
  · exact .inl h
  · refine .inr ⟨b, off, h1, Nat.lt_of_lt_of_le h2 hb.size, fun i hi => ?_⟩
    rw [hb.cell (p := ⟨b, off + i, none⟩) h2]
    exact h3 i hi
theorem IntsAt.ne {w : World} {ao : Option Addr} {cap : Nat} {I : List Int} (h : IntsAt w ao cap I) (h0 : 0 < I.length) : ∃ b off, ao = some ⟨b, off, none⟩ ∧ b < w.heap.size ∧ ∀ i, i < I.length → w.cell? ⟨b, off + i, none⟩ = some (.int .i64 (I[i]?.getD 0)) := by
  rcases h.2.2 with e | e
  · rw [e] at h0; simp at h0
  · exact e

def atI (I : List Int) (j : Nat) : Int := I[j]?.getD 0
theorem IntsAt.wf {w : World} {ao : Option Addr} {cap : Nat} {I : List Int} (h : IntsAt w ao cap I) (j : Nat) : -9223372036854775808 ≤ atI I j ∧ atI I j ≤ 9223372036854775807 := by
  unfold atI
  by_cases hi : j < I.length
  · rw [List.getElem?_eq_getElem hi]; exact h.2.1 _ (List.getElem_mem hi)
  · rw [List.getElem?_eq_none (by omega)]; simp

/-- The places as numbers from 0 on. -/
def natI (I : List Int) : List Nat := I.map Int.toNat

end Go.Proofs.YtceofkjefmilfaaGreatDoor

/- Frames: what a call leaves alone, but for one block; what a number's box is to others. -/
namespace Go.Proofs.YtceofkjefmilfaaGreatDoor
open Go.RowKit

/-- Below B nothing has turned but block b. -/
structure Fr (B : Nat) (b : Option Nat) (w w' : World) : Prop where
  os : w'.os = w.os
  tape : w'.tape = w.tape
  output : w'.output = w.output
  size : w.heap.size ≤ w'.heap.size
  block : ∀ k, k < B → some k ≠ b → w'.heap[k]? = w.heap[k]?

theorem Fr.refl (B : Nat) (b : Option Nat) (w : World) : Fr B b w w := ⟨rfl, rfl, rfl, Nat.le_refl _, fun _ _ _ => rfl⟩
theorem Fr.trans {B : Nat} {b : Option Nat} {a c d : World} (h : Fr B b a c) (k : Fr B b c d) : Fr B b a d :=
  ⟨k.os.trans h.os, k.tape.trans h.tape, k.output.trans h.output, Nat.le_trans h.size k.size, fun i hi hb => (k.block i hi hb).trans (h.block i hi hb)⟩
theorem Fr.mono {B B' : Nat} {b : Option Nat} {w w' : World} (h : Fr B b w w') (hB : B' ≤ B) : Fr B' b w w' := ⟨h.os, h.tape, h.output, h.size, fun k hk hb => h.block k (Nat.lt_of_lt_of_le hk hB) hb⟩
theorem Fr.of {B : Nat} {w w' : World} (h : Below B w w') (b : Option Nat) : Fr B b w w' := ⟨h.os, h.tape, h.output, h.size, fun k hk _ => h.block k hk⟩
theorem Fr.alloc {B : Nat} {b : Option Nat} {w w' : World} (h : Fr B b w w') (hB : B ≤ w'.heap.size) (o : Obj) : Fr B b w (w'.alloc o) :=
  h.trans (.of ((Below.refl _ _).alloc hB o) b)
theorem Fr.setCell {B : Nat} {b : Option Nat} {w w' : World} (h : Fr B b w w') {p : Addr} (hp : B ≤ p.block) (u : Value) : Fr B b w (w'.setCell p u) :=
  h.trans (.of ((Below.refl _ _).setCell hp u) b)
/-- One call behind another. -/
theorem Fr.then {B : Nat} {b : Option Nat} {w w1 w2 : World} (h : Fr B b w w1) (hB : B ≤ w.heap.size) (k : Fr w1.heap.size b w1 w2) : Fr B b w w2 := h.trans (k.mono (Nat.le_trans hB h.size))
theorem Fr.below {B : Nat} {b : Option Nat} {w w' : World} (h : Fr B b w w') {C : Nat} (hC : C ≤ B) (hb : ∀ m, b = some m → C ≤ m) : Below C w w' :=
  ⟨h.os, h.tape, h.output, h.size, fun k hk => h.block k (by omega) (fun e => by have := hb k e.symm; omega)⟩
theorem Fr.box {B : Nat} {b : Option Nat} {w w' : World} (h : Fr B b w w') {g : Nat} {x y : Value} (hx : Box2 w g x y) (hg : g < B) (hb : ∀ m, b = some m → m < g) : Box2 w' g x y :=
  (h.block g hg (fun e => by have := hb g e.symm; omega)).trans hx
/-- Block k is a number's box. -/
def IsBox (w : World) (k : Nat) : Prop := ∃ x a n c, w.heap[k]? = some (.cells #[.bool x, .slice a n c] 50 (0, 0))
/-- Nothing but numbers' boxes from Base on has turned. -/
structure Stb (Base : Nat) (w w' : World) : Prop where
  os : w'.os = w.os
  tape : w'.tape = w.tape
  output : w'.output = w.output
  size : w.heap.size ≤ w'.heap.size
  block : ∀ k, k < w.heap.size → w'.heap[k]? = w.heap[k]? ∨ (Base ≤ k ∧ IsBox w k)

theorem Stb.of {Base : Nat} {w w' : World} (h : Below w.heap.size w w') : Stb Base w w' := ⟨h.os, h.tape, h.output, h.size, fun k hk => .inl (h.block k hk)⟩
theorem Stb.below {Base : Nat} {w w' : World} (h : Stb Base w w') (hB : Base ≤ w.heap.size) : Below Base w w' :=
  ⟨h.os, h.tape, h.output, h.size, fun k hk => (h.block k (by omega)).resolve_right (fun e => by omega)⟩
end Go.Proofs.YtceofkjefmilfaaGreatDoor

/- Contract of exact's expand. -/
namespace Go.Proofs.YtceofkjefmilfaaGreatDoor
open Go.RowKit
attribute [local go_sem ↓] Go.wp_at_zero Go.wp_at_succ
theorem NumsAt.cells {w : World} {b off cap : Nat} {R : List Nm} (h : NumsAt w (some ⟨b, off, none⟩) cap R) {k : Nat} (hk : k < R.length) : w.cell? ⟨b, off + k * 2, none⟩ = some (.bool (nmAt R k).neg) ∧ w.cell? ⟨b, off + k * 2 + 1, none⟩ = some (.slice (nmAt R k).ao (nmAt R k).L.length (nmAt R k).cap) := by
  obtain ⟨b', off', e, _, hc⟩ := h.ne (by omega)
  simp only [Option.some.injEq, Addr.mk.injEq, and_true] at e
  obtain ⟨rfl, rfl⟩ := e
  exact hc k hk

end Go.Proofs.YtceofkjefmilfaaGreatDoor

/- Contract of exact's determinant. -/
namespace Go.Proofs.YtceofkjefmilfaaGreatDoor
open Go.RowKit
attribute [local go_sem ↓] Go.wp_at_zero Go.wp_at_succ

/-- A bool or a slice. -/
def isBS : Value → Bool
  | .bool _ => true
  | .slice _ _ _ => true
  | _ => false

/-- What rows say. -/
def valM (M : List Rw) (i j : Nat) : Int := sval (entry M i j).neg (entry M i j).L
end Go.Proofs.YtceofkjefmilfaaGreatDoor

