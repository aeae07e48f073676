/- Part 32 of the texts. -/
import Derived.Test.YtceofkjefmilfaaGreatDoorParta31
import Derived.Deep.RegionLaw
import Derived.Test.YtceofkjefmilfaaGreatDoorParta16
import Derived.Test.YtceofkjefmilfaaGreatDoorParta05
import Derived.Maps.AppendAt
import Derived.Test.YtceofkjefmilfaaGreatDoorParta09
import Derived.Lib.BitFns
/- Package certify: a sum that is gathered by closures; square. -/
namespace Go.Proofs.YtceofkjefmilfaaGreatDoor
open Go.RowKit
attribute [local go_sem ↓] Go.wp_at_zero Go.wp_at_succ

/-- The kept sum: its box, what it is worth. -/
def Kept (w : World) (g : Nat) (lo s : Int) : Prop := ∃ n a l c X, Box3 w g (.bool n) (.slice a l c) (.int .i64 X) ∧ IsLv w (.agg #[.bool n, .slice a l c, .int .i64 X]) lo s
theorem Kept.all {w w' : World} {g : Nat} {lo s : Int} (h : Kept w g lo s) (hb : Below w.heap.size w w') : Kept w' g lo s := by
  obtain ⟨n, a, l, c, X, h1, h2⟩ := h
  exact ⟨n, a, l, c, X, h1.all hb, h2.below hb⟩
theorem Kept.lt {w : World} {g : Nat} {lo s : Int} (h : Kept w g lo s) : g < w.heap.size := by
  obtain ⟨n, a, l, c, X, h1, h2⟩ := h
  exact h1.lt
theorem Kept.new (w : World) (lo : Int) : Kept (w.alloc (.cells #[.bool false, .slice none 0 0, .int .i64 0] 52)) w.heap.size lo 0 :=
  ⟨false, none, 0, 0, 0, Box3.new w _ _ _, IsLv.zero _ _⟩

end Go.Proofs.YtceofkjefmilfaaGreatDoor

/- Package certify: times. -/
namespace Go.Proofs.YtceofkjefmilfaaGreatDoor
open Go.RowKit
attribute [local go_sem ↓] Go.wp_at_zero Go.wp_at_succ

/-- What holds in times's closure: the answer's box, the sum. -/
def TmSt (w wr : World) (g : Nat) (lo s : Int) : Prop :=
  Box3 wr w.heap.size (.bool false) (.slice none 0 0) (.int .i64 0) ∧ Kept wr g lo s ∧ Below w.heap.size w wr ∧ w.heap.size < g
theorem TmSt.all {w wr w' : World} {g : Nat} {lo s : Int} (h : TmSt w wr g lo s) (hb : Below wr.heap.size wr w') : TmSt w w' g lo s :=
  ⟨h.1.all hb, h.2.1.all hb, h.2.2.1.trans (hb.mono h.2.2.1.size), h.2.2.2⟩
end Go.Proofs.YtceofkjefmilfaaGreatDoor

/- Rows of numbers, as they lie in memory. -/
namespace Go.Proofs.YtceofkjefmilfaaGreatDoor
open Go.RowKit

/-- A number in memory: its sign, where its limbs lie, the limbs. -/
structure Nm where
  neg : Bool
  ao : Option Addr
  cap : Nat
  L : List Nat

/-- A row in memory: where its numbers lie, the numbers. -/
structure Rw where
  ao : Option Addr
  cap : Nat
  R : List Nm

def Nm.nil : Nm := ⟨false, none, 0, []⟩
def Rw.nil : Rw := ⟨none, 0, []⟩
def nmAt (R : List Nm) (k : Nat) : Nm := R[k]?.getD Nm.nil
def rwAt (M : List Rw) (i : Nat) : Rw := M[i]?.getD Rw.nil
def Nm.v (x : Nm) : Value := .agg #[.bool x.neg, .slice x.ao x.L.length x.cap]
def Rw.v (r : Rw) : Value := .slice r.ao r.R.length r.cap

/-- The numbers R lie at ao. -/
def NumsAt (w : World) (ao : Option Addr) (cap : Nat) (R : List Nm) : Prop :=
  R.length ≤ cap ∧ (∀ x ∈ R, LimbsAt w x.ao x.cap x.L) ∧ (R = [] ∨ ∃ b off, ao = some ⟨b, off, none⟩ ∧ b < w.heap.size ∧ ∀ k, k < R.length → w.cell? ⟨b, off + k * 2, none⟩ = some (.bool (nmAt R k).neg) ∧ w.cell? ⟨b, off + k * 2 + 1, none⟩ = some (.slice (nmAt R k).ao (nmAt R k).L.length (nmAt R k).cap))

/-- The rows M lie at ao. -/
def MatAt (w : World) (ao : Option Addr) (cap : Nat) (M : List Rw) : Prop :=
  M.length ≤ cap ∧ (∀ r ∈ M, NumsAt w r.ao r.cap r.R) ∧ (M = [] ∨ ∃ b off, ao = some ⟨b, off, none⟩ ∧ b < w.heap.size ∧ ∀ i, i < M.length → w.cell? ⟨b, off + i, none⟩ = some (rwAt M i).v)

theorem nmAt_mem {R : List Nm} {k : Nat} (h : k < R.length) : nmAt R k ∈ R := by
  unfold nmAt; rw [List.getElem?_eq_getElem h]; exact List.getElem_mem h
theorem rwAt_mem {M : List Rw} {i : Nat} (h : i < M.length) : rwAt M i ∈ M := by
  unfold rwAt; rw [List.getElem?_eq_getElem h]; exact List.getElem_mem h

theorem NumsAt.below {w w' : World} {ao : Option Addr} {cap : Nat} {R : List Nm} (h : NumsAt w ao cap R) (hb : Below w.heap.size w w') : NumsAt w' ao cap R := by
  refine ⟨h.1, fun x hx => (h.2.1 x hx).below hb, ?_⟩
  rcases h.2.2 with e | ⟨b, off, h1, h2, h3⟩
  · exact .inl e
  · refine .inr ⟨b, off, h1, Nat.lt_of_lt_of_le h2 hb.size, fun k hk => ?_⟩
    rw [hb.cell (p := ⟨b, off + k * 2, none⟩) h2, hb.cell (p := ⟨b, off + k * 2 + 1, none⟩) h2]
    exact h3 k hk

theorem MatAt.below {w w' : World} {ao : Option Addr} {cap : Nat} {M : List Rw} (h : MatAt w ao cap M) (hb : Below w.heap.size w w') : MatAt w' ao cap M := by
  refine ⟨h.1, fun r hr => (h.2.1 r hr).below hb, ?_⟩
  rcases h.2.2 with e | ⟨b, off, h1, h2, h3⟩
  · exact .inl e
  · refine .inr ⟨b, off, h1, Nat.lt_of_lt_of_le h2 hb.size, fun i hi => ?_⟩
    rw [hb.cell (p := ⟨b, off + i, none⟩) h2]
    exact h3 i hi

theorem NumsAt.limbs {w : World} {ao : Option Addr} {cap : Nat} {R : List Nm} (h : NumsAt w ao cap R) {k : Nat} (hk : k < R.length) : LimbsAt w (nmAt R k).ao (nmAt R k).cap (nmAt R k).L := h.2.1 _ (nmAt_mem hk)
theorem NumsAt.ne {w : World} {ao : Option Addr} {cap : Nat} {R : List Nm} (h : NumsAt w ao cap R) (h0 : 0 < R.length) : ∃ b off, ao = some ⟨b, off, none⟩ ∧ b < w.heap.size ∧ ∀ k, k < R.length → w.cell? ⟨b, off + k * 2, none⟩ = some (.bool (nmAt R k).neg) ∧ w.cell? ⟨b, off + k * 2 + 1, none⟩ = some (.slice (nmAt R k).ao (nmAt R k).L.length (nmAt R k).cap) := by
  rcases h.2.2 with e | e
  · rw [e] at h0; simp at h0
  · exact e
theorem MatAt.ne {w : World} {ao : Option Addr} {cap : Nat} {M : List Rw} (h : MatAt w ao cap M) (h0 : 0 < M.length) : ∃ b off, ao = some ⟨b, off, none⟩ ∧ b < w.heap.size ∧ ∀ i, i < M.length → w.cell? ⟨b, off + i, none⟩ = some (.slice (rwAt M i).ao (rwAt M i).R.length (rwAt M i).cap) := by
  rcases h.2.2 with e | e
  · rw [e] at h0; simp at h0
  · exact e

/-- What the rows say. -/
def entry (M : List Rw) (i k : Nat) : Nm := nmAt (rwAt M i).R k
end Go.Proofs.YtceofkjefmilfaaGreatDoor

/- Rows of numbers, and rows of rows, that a call itself makes by appending. -/
namespace Go.Proofs.YtceofkjefmilfaaGreatDoor
open Go.RowKit

/-- The number's limbs don't lie in block g. -/
def Av (g : Option Nat) (x : Nm) : Prop := x.L = [] ∨ ∃ b off, x.ao = some ⟨b, off, none⟩ ∧ some b ≠ g
/-- Nothing of the row lies in block g. -/
def AvR (g : Option Nat) (r : Rw) : Prop := (r.R = [] ∨ ∃ b off, r.ao = some ⟨b, off, none⟩ ∧ some b ≠ g) ∧ ∀ x ∈ r.R, Av g x
def numCells (R : List Nm) : List Value := R.flatMap (fun x => [.bool x.neg, .slice x.ao x.L.length x.cap])

theorem Av.none (w : World) (x : Nm) (h : LimbsAt w x.ao x.cap x.L) : Av none x := by
  rcases h.2.2 with e | ⟨b, off, e, _⟩
  · exact .inl e
  · exact .inr ⟨b, off, e, by simp⟩
theorem Av.new {w : World} {x : Nm} (h : LimbsAt w x.ao x.cap x.L) {g : Nat} (hg : w.heap.size ≤ g) : Av (some g) x := by
  rcases h.2.2 with e | ⟨b, off, e, hb, _⟩
  · exact .inl e
  · exact .inr ⟨b, off, e, by intro e; cases e; omega⟩
theorem AvR.new {w : World} {r : Rw} (h : NumsAt w r.ao r.cap r.R) {g : Nat} (hg : w.heap.size ≤ g) : AvR (some g) r := by
  refine ⟨?_, fun x hx => Av.new (h.2.1 x hx) hg⟩
  rcases h.2.2 with e | ⟨b, off, e, hb, _⟩
  · exact .inl e
  · exact .inr ⟨b, off, e, by intro e; cases e; omega⟩
theorem AvR.none {w : World} {r : Rw} (h : NumsAt w r.ao r.cap r.R) : AvR none r := by
  refine ⟨?_, fun x hx => Av.none w x (h.2.1 x hx)⟩
  rcases h.2.2 with e | ⟨b, off, e, hb, _⟩
  · exact .inl e
  · exact .inr ⟨b, off, e, by simp⟩

theorem numCells_get : ∀ (R : List Nm) (k : Nat), k < R.length → (numCells R)[k * 2]? = some (.bool (nmAt R k).neg) ∧ (numCells R)[k * 2 + 1]? = some (.slice (nmAt R k).ao (nmAt R k).L.length (nmAt R k).cap)
  | x :: R, 0, _ => by simp [numCells, nmAt]
  | x :: R, k + 1, h => by
    have := numCells_get R k (by simpa using h)
    have e : numCells (x :: R) = .bool x.neg :: .slice x.ao x.L.length x.cap :: numCells R := rfl
    rw [e, show (k + 1) * 2 = k * 2 + 1 + 1 by omega]
    simpa [nmAt] using this

end Go.Proofs.YtceofkjefmilfaaGreatDoor

/- Contracts of package exact's sets. -/
namespace Go.Proofs.YtceofkjefmilfaaGreatDoor
open Go.RowKit

/-- The places of a set of bits, rising. -/
def elems (s : Nat) : List Nat := (List.range 6).filter (fun c => s.testBit c)
end Go.Proofs.YtceofkjefmilfaaGreatDoor

