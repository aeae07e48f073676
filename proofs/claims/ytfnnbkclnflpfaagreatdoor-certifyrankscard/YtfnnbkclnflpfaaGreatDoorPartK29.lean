/- Part 29 of the texts. -/
import Derived.Test.YtfnnbkclnflpfaaGreatDoorPartK05
import Derived.Test.YtfnnbkclnflpfaaGreatDoorPartK06
import Derived.Maps.AppendAt
import Derived.Test.YtfnnbkclnflpfaaGreatDoorPartK09
import Derived.Lib.BitFns
/- Rows of numbers, as they lie in memory. -/
namespace Go.Proofs.YtfnnbkclnflpfaaGreatDoor
open Go.RowKit

/-- A number in memory: its sign, where its limbs lie, the limbs. -/
structure Nm where
  neg : Bool
  ao : Option Addr
  cap : Nat
  L : List Nat

/-- A row in memory: where its numbers lie, the numbers. -/
structure Rw where
  ao : Option Addr
  cap : Nat
  R : List Nm

def Nm.nil : Nm := ⟨false, none, 0, []⟩
def Rw.nil : Rw := ⟨none, 0, []⟩
def nmAt (R : List Nm) (k : Nat) : Nm := R[k]?.getD Nm.nil
def rwAt (M : List Rw) (i : Nat) : Rw := M[i]?.getD Rw.nil
def Nm.v (x : Nm) : Value := .agg #[.bool x.neg, .slice x.ao x.L.length x.cap]
def Rw.v (r : Rw) : Value := .slice r.ao r.R.length r.cap

/-- The numbers R lie at ao. -/
def NumsAt (w : World) (ao : Option Addr) (cap : Nat) (R : List Nm) : Prop :=
  R.length ≤ cap ∧ (∀ x ∈ R, LimbsAt w x.ao x.cap x.L) ∧ (R = [] ∨ ∃ b off, ao = some ⟨b, off, none⟩ ∧ b < w.heap.size ∧ ∀ k, k < R.length → w.cell? ⟨b, off + k * 2, none⟩ = some (.bool (nmAt R k).neg) ∧ w.cell? ⟨b, off + k * 2 + 1, none⟩ = some (.slice (nmAt R k).ao (nmAt R k).L.length (nmAt R k).cap))

/-- The rows M lie at ao. -/
def MatAt (w : World) (ao : Option Addr) (cap : Nat) (M : List Rw) : Prop :=
  M.length ≤ cap ∧ (∀ r ∈ M, NumsAt w r.ao r.cap r.R) ∧ (M = [] ∨ ∃ b off, ao = some ⟨b, off, none⟩ ∧ b < w.heap.size ∧ ∀ i, i < M.length → w.cell? ⟨b, off + i, none⟩ = some (rwAt M i).v)

theorem nmAt_mem {R : List Nm} {k : Nat} (h : k < R.length) : nmAt R k ∈ R := by
  unfold nmAt; rw [List.getElem?_eq_getElem h]; exact List.getElem_mem h
theorem rwAt_mem {M : List Rw} {i : Nat} (h : i < M.length) : rwAt M i ∈ M := by
  unfold rwAt; rw [List.getElem?_eq_getElem h]; exact List.getElem_mem h

theorem NumsAt.below {w w' : World} {ao : Option Addr} {cap : Nat} {R : List Nm} (h : NumsAt w ao cap R) (hb : Below w.heap.size w w') : NumsAt w' ao cap R := by
  refine ⟨h.1, fun x hx => (h.2.1 x hx).below hb, ?_⟩
  rcases h.2.2 with e | ⟨b, off, h1, h2, h3⟩
  · exact .inl e
  · refine .inr ⟨b, off, h1, Nat.lt_of_lt_of_le h2 hb.size, fun k hk => ?_⟩
    rw [hb.cell (p := ⟨b, off + k * 2, none⟩) h2, hb.cell (p := ⟨b, off + k * 2 + 1, none⟩) h2]
    exact h3 k hk

theorem MatAt.below {w w' : World} {ao : Option Addr} {cap : Nat} {M : List Rw} (h : MatAt w ao cap M) (hb : Below w.heap.size w w') : MatAt w' ao cap M := by
  refine ⟨h.1, fun r hr => (h.2.1 r hr).below hb, ?_⟩
  rcases h.2.2 with e | ⟨b, off, h1, h2, h3⟩
  · exact .inl e
  · refine .inr ⟨b, off, h1, Nat.lt_of_lt_of_le h2 hb.size, fun i hi => ?_⟩
    rw [hb.cell (p := ⟨b, off + i, none⟩) h2]
    exact h3 i hi

theorem NumsAt.limbs {w : World} {ao : Option Addr} {cap : Nat} {R : List Nm} (h : NumsAt w ao cap R) {k : Nat} (hk : k < R.length) : LimbsAt w (nmAt R k).ao (nmAt R k).cap (nmAt R k).L := h.2.1 _ (nmAt_mem hk)
theorem MatAt.nums {w : World} {ao : Option Addr} {cap : Nat} {M : List Rw} (h : MatAt w ao cap M) {i : Nat} (hi : i < M.length) : NumsAt w (rwAt M i).ao (rwAt M i).cap (rwAt M i).R := h.2.1 _ (rwAt_mem hi)

theorem NumsAt.ne {w : World} {ao : Option Addr} {cap : Nat} {R : List Nm} (h : NumsAt w ao cap R) (h0 : 0 < R.length) : ∃ b off, ao = some ⟨b, off, none⟩ ∧ b < w.heap.size ∧ ∀ k, k < R.length → w.cell? ⟨b, off + k * 2, none⟩ = some (.bool (nmAt R k).neg) ∧ w.cell? ⟨b, off + k * 2 + 1, none⟩ = some (.slice (nmAt R k).ao (nmAt R k).L.length (nmAt R k).cap) := by
  rcases h.2.2 with e | e
  · rw [e] at h0; simp at h0
  · exact e
theorem MatAt.ne {w : World} {ao : Option Addr} {cap : Nat} {M : List Rw} (h : MatAt w ao cap M) (h0 : 0 < M.length) : ∃ b off, ao = some ⟨b, off, none⟩ ∧ b < w.heap.size ∧ ∀ i, i < M.length → w.cell? ⟨b, off + i, none⟩ = some (.slice (rwAt M i).ao (rwAt M i).R.length (rwAt M i).cap) := by
  rcases h.2.2 with e | e
  · rw [e] at h0; simp at h0
  · exact e

/-- What the rows say. -/
def entry (M : List Rw) (i k : Nat) : Nm := nmAt (rwAt M i).R k
def width (M : List Rw) : Nat := (rwAt M 0).R.length

end Go.Proofs.YtfnnbkclnflpfaaGreatDoor

/- Rows of numbers, and rows of rows, that a call itself makes by appending. -/
namespace Go.Proofs.YtfnnbkclnflpfaaGreatDoor
open Go.RowKit

/-- The number's limbs don't lie in block g. -/
def Av (g : Option Nat) (x : Nm) : Prop := x.L = [] ∨ ∃ b off, x.ao = some ⟨b, off, none⟩ ∧ some b ≠ g
/-- Nothing of the row lies in block g. -/
def AvR (g : Option Nat) (r : Rw) : Prop := (r.R = [] ∨ ∃ b off, r.ao = some ⟨b, off, none⟩ ∧ some b ≠ g) ∧ ∀ x ∈ r.R, Av g x
def numCells (R : List Nm) : List Value := R.flatMap (fun x => [.bool x.neg, .slice x.ao x.L.length x.cap])

theorem Av.none (w : World) (x : Nm) (h : LimbsAt w x.ao x.cap x.L) : Av none x := by
  rcases h.2.2 with e | ⟨b, off, e, _⟩
  · exact .inl e
  · exact .inr ⟨b, off, e, by simp⟩
theorem Av.new {w : World} {x : Nm} (h : LimbsAt w x.ao x.cap x.L) {g : Nat} (hg : w.heap.size ≤ g) : Av (some g) x := by
  rcases h.2.2 with e | ⟨b, off, e, hb, _⟩
  · exact .inl e
  · exact .inr ⟨b, off, e, by intro e; cases e; omega⟩
theorem Av.old {B : Nat} {x : Nm} (h : NewAt B x.ao x.L) {g : Option Nat} (hg : ∀ m, g = some m → m < B) : Av g x := by
  rcases h with e | ⟨b, off, e, hb⟩
  · exact .inl e
  · exact .inr ⟨b, off, e, fun e => by have := hg b e.symm; omega⟩
theorem AvR.new {w : World} {r : Rw} (h : NumsAt w r.ao r.cap r.R) {g : Nat} (hg : w.heap.size ≤ g) : AvR (some g) r := by
  refine ⟨?_, fun x hx => Av.new (h.2.1 x hx) hg⟩
  rcases h.2.2 with e | ⟨b, off, e, hb, _⟩
  · exact .inl e
  · exact .inr ⟨b, off, e, by intro e; cases e; omega⟩
theorem AvR.none {w : World} {r : Rw} (h : NumsAt w r.ao r.cap r.R) : AvR none r := by
  refine ⟨?_, fun x hx => Av.none w x (h.2.1 x hx)⟩
  rcases h.2.2 with e | ⟨b, off, e, hb, _⟩
  · exact .inl e
  · exact .inr ⟨b, off, e, by simp⟩

theorem LimbsAt.grownAv {w w' : World} {x : Nm} {g : Option Nat} (h : LimbsAt w x.ao x.cap x.L) (ha : Av g x) (hg : w.grownBy w' g) : LimbsAt w' x.ao x.cap x.L := by
  refine ⟨h.1, h.2.1, ?_⟩
  rcases h.2.2 with e | ⟨b, off, e, hb, hc⟩
  · exact .inl e
  · rcases ha with e' | ⟨b', off', e', hne⟩
    · exact .inl e'
    · rw [e] at e'
      simp only [Option.some.injEq, Addr.mk.injEq] at e'
      obtain ⟨rfl, rfl, _⟩ := e'
      refine .inr ⟨b, off, e, Nat.lt_of_lt_of_le hb hg.size, fun i hi => ?_⟩
      rw [World.cell?_of_block (a := ⟨b, off + i, none⟩) (hg.block b hb hne)]
      exact hc i hi
theorem NumsAt.grownAv {w w' : World} {r : Rw} {g : Option Nat} (h : NumsAt w r.ao r.cap r.R) (ha : AvR g r) (hg : w.grownBy w' g) : NumsAt w' r.ao r.cap r.R := by
  refine ⟨h.1, fun x hx => (h.2.1 x hx).grownAv (ha.2 x hx) hg, ?_⟩
  rcases h.2.2 with e | ⟨b, off, e, hb, hc⟩
  · exact .inl e
  · rcases ha.1 with e' | ⟨b', off', e', hne⟩
    · exact .inl e'
    · rw [e] at e'
      simp only [Option.some.injEq, Addr.mk.injEq] at e'
      obtain ⟨rfl, rfl, _⟩ := e'
      refine .inr ⟨b, off, e, Nat.lt_of_lt_of_le hb hg.size, fun k hk => ?_⟩
      rw [World.cell?_of_block (a := ⟨b, off + k * 2, none⟩) (hg.block b hb hne), World.cell?_of_block (a := ⟨b, off + k * 2 + 1, none⟩) (hg.block b hb hne)]
      exact hc k hk

/-- v is a row of the call's own, of the numbers R. -/
def OwnNums (base : Nat) (w : World) (v : Value) (R : List Nm) : Prop := w.ownsRow base 27 2 v R.length (numCells R) ∧ ∀ x ∈ R, LimbsAt w x.ao x.cap x.L ∧ Av v.ownBlock x
/-- v is a row of the call's own, of the rows M. -/
def OwnRows (base : Nat) (w : World) (v : Value) (M : List Rw) : Prop := w.ownsRow base 87 1 v M.length (M.map Rw.v) ∧ ∀ r ∈ M, NumsAt w r.ao r.cap r.R ∧ AvR v.ownBlock r

theorem length_numCells (R : List Nm) : (numCells R).length = R.length * 2 := by
  induction R with
  | nil => rfl
  | cons x R ih => simp only [numCells, List.flatMap_cons, List.length_append, List.length_cons, List.length_nil] at ih ⊢; rw [show (List.flatMap (fun x => [Value.bool x.neg, Value.slice x.ao x.L.length x.cap]) R).length = R.length * 2 from ih]; omega
theorem numCells_get : ∀ (R : List Nm) (k : Nat), k < R.length → (numCells R)[k * 2]? = some (.bool (nmAt R k).neg) ∧ (numCells R)[k * 2 + 1]? = some (.slice (nmAt R k).ao (nmAt R k).L.length (nmAt R k).cap)
  | x :: R, 0, _ => by simp [numCells, nmAt]
  | x :: R, k + 1, h => by
    have := numCells_get R k (by simpa using h)
    have e : numCells (x :: R) = .bool x.neg :: .slice x.ao x.L.length x.cap :: numCells R := rfl
    rw [e, show (k + 1) * 2 = k * 2 + 1 + 1 by omega]
    simpa [nmAt] using this

theorem OwnNums.start (w : World) (base : Nat) (hb : base ≤ w.heap.size) : OwnNums base (w.alloc (.cells #[] 27)) (.slice (some ⟨w.heap.size, 0, none⟩) 0 0) [] :=
  ⟨World.ownsRow_made w #[] 0 hb (by simp [maxLen]) (by simp), by simp⟩
theorem OwnRows.start (w : World) (base : Nat) (hb : base ≤ w.heap.size) : OwnRows base (w.alloc (.cells #[] 87)) (.slice (some ⟨w.heap.size, 0, none⟩) 0 0) [] :=
  ⟨World.ownsRow_made w #[] 0 hb (by simp [maxLen]) (by simp), by simp⟩

theorem OwnNums.lt {base : Nat} {w : World} {v : Value} {R : List Nm} (h : OwnNums base w v R) : ∀ k, v.ownBlock = some k → base ≤ k ∧ k < w.heap.size := h.1.lt
theorem OwnRows.lt {base : Nat} {w : World} {v : Value} {M : List Rw} (h : OwnRows base w v M) : ∀ k, v.ownBlock = some k → base ≤ k ∧ k < w.heap.size := h.1.lt

/-- What grows leaves a row alone that lies elsewhere. -/
theorem ownsRow_grown {w w' : World} {base e size n : Nat} {v : Value} {xs : List Value} {g : Option Nat} (h : w.ownsRow base e size v n xs) (hg : w.grownBy w' g) (hne : ∀ k, v.ownBlock = some k → some k ≠ g) : w'.ownsRow base e size v n xs := by
  refine ⟨h.1, ?_⟩
  rcases h.2 with h | ⟨k, cap, cur, hv, hb, hh, hr⟩
  · exact .inl h
  · have hk : k < w.heap.size := (Array.getElem?_eq_some_iff.1 hh).1
    exact .inr ⟨k, cap, cur, hv, hb, (hg.block k hk (hne k (by rw [hv]; rfl))).trans hh, hr⟩
theorem OwnNums.below {base : Nat} {w w' : World} {v : Value} {R : List Nm} (h : OwnNums base w v R) (hb : Below w.heap.size w w') : OwnNums base w' v R :=
  ⟨ownsRow_grown h.1 ⟨hb.os, hb.tape, hb.output, hb.size, fun k hk _ => hb.block k hk⟩ (fun k _ => by simp : ∀ k, v.ownBlock = some k → some k ≠ none), fun x hx => ⟨((h.2 x hx).1).below hb, (h.2 x hx).2⟩⟩
theorem OwnRows.below {base : Nat} {w w' : World} {v : Value} {M : List Rw} (h : OwnRows base w v M) (hb : Below w.heap.size w w') : OwnRows base w' v M :=
  ⟨ownsRow_grown h.1 ⟨hb.os, hb.tape, hb.output, hb.size, fun k hk _ => hb.block k hk⟩ (fun k _ => by simp : ∀ k, v.ownBlock = some k → some k ≠ none), fun x hx => ⟨((h.2 x hx).1).below hb, (h.2 x hx).2⟩⟩
/-- .. and a row of rows, where another row grows that it does not use. -/
theorem OwnRows.grown {base : Nat} {w w' : World} {v : Value} {M : List Rw} {g : Option Nat} (h : OwnRows base w v M) (hg : w.grownBy w' g) (hne : ∀ k, v.ownBlock = some k → some k ≠ g) (hav : ∀ r ∈ M, AvR g r) : OwnRows base w' v M :=
  ⟨ownsRow_grown h.1 hg hne, fun r hr => ⟨((h.2 r hr).1).grownAv (hav r hr) hg, (h.2 r hr).2⟩⟩

/-- One number more. -/
theorem OwnNums.snoc {base : Nat} {w w' : World} {v v' : Value} {R : List Nm} {x : Nm} (h : OwnNums base w v R) (hx : LimbsAt w x.ao x.cap x.L) (ha : Av v.ownBlock x) (ho : w'.ownsRow base 27 2 v' (R.length + 1) (numCells R ++ [.bool x.neg, .slice x.ao x.L.length x.cap])) (hg : w.grownBy w' v.ownBlock) (hl : v'.ownBlock = v.ownBlock ∨ v'.ownBlock = some w.heap.size) : OwnNums base w' v' (R ++ [x]) := by
  refine ⟨?_, fun y hy => ?_⟩
  · rw [List.length_append, show numCells (R ++ [x]) = numCells R ++ [.bool x.neg, .slice x.ao x.L.length x.cap] by simp [numCells]]
    exact ho
  · have hy' : LimbsAt w y.ao y.cap y.L ∧ Av v.ownBlock y := by
      rcases List.mem_append.1 hy with hy | hy
      · exact h.2 y hy
      · simp at hy; subst hy; exact ⟨hx, ha⟩
    refine ⟨hy'.1.grownAv hy'.2 hg, ?_⟩
    rcases hl with e | e
    · rw [e]; exact hy'.2
    · rw [e]; exact Av.new hy'.1 (Nat.le_refl _)
/-- One row more. -/
theorem OwnRows.snoc {base : Nat} {w w' : World} {v v' : Value} {M : List Rw} {r : Rw} (h : OwnRows base w v M) (hr : NumsAt w r.ao r.cap r.R) (ha : AvR v.ownBlock r) (ho : w'.ownsRow base 87 1 v' (M.length + 1) (M.map Rw.v ++ [r.v])) (hg : w.grownBy w' v.ownBlock) (hl : v'.ownBlock = v.ownBlock ∨ v'.ownBlock = some w.heap.size) : OwnRows base w' v' (M ++ [r]) := by
  refine ⟨?_, fun y hy => ?_⟩
  · rw [List.length_append, List.map_append]
    exact ho
  · have hy' : NumsAt w y.ao y.cap y.R ∧ AvR v.ownBlock y := by
      rcases List.mem_append.1 hy with hy | hy
      · exact h.2 y hy
      · simp at hy; subst hy; exact ⟨hr, ha⟩
    refine ⟨hy'.1.grownAv hy'.2 hg, ?_⟩
    rcases hl with e | e
    · rw [e]; exact hy'.2
    · rw [e]; exact AvR.new hy'.1 (Nat.le_refl _)

/-- What is read there. -/
theorem OwnNums.nums {base : Nat} {w : World} {v : Value} {R : List Nm} (h : OwnNums base w v R) : ∃ ao cap, v = .slice ao R.length cap ∧ NumsAt w ao cap R ∧ NewAt base ao (R.map (fun _ => 0)) := by
  rcases h.1.2 with ⟨hv, h0⟩ | ⟨g, cap, cur, hv, hg, hh, hc, hm, hs, ht⟩
  · have : R = [] := List.length_eq_zero_iff.1 h0
    subst this
    exact ⟨none, 0, hv, ⟨by simp, by simp, .inl rfl⟩, .inl rfl⟩
  · refine ⟨some ⟨g, 0, none⟩, cap, hv, ⟨hc, fun x hx => (h.2 x hx).1, .inr ⟨g, 0, rfl, (Array.getElem?_eq_some_iff.1 hh).1, fun k hk => ?_⟩⟩, .inr ⟨g, 0, rfl, hg⟩⟩
    obtain ⟨q1, q2⟩ := numCells_get R k hk
    rw [← ht, List.getElem?_take] at q1 q2
    rw [if_pos (by omega)] at q1 q2
    rw [cell_of_row w g _ _ _ _ hh, cell_of_row w g _ _ _ _ hh, Nat.zero_add]
    simp only [Array.getElem?_toList] at q1 q2
    exact ⟨q1, q2⟩
theorem OwnRows.mat {base : Nat} {w : World} {v : Value} {M : List Rw} (h : OwnRows base w v M) : ∃ ao cap, v = .slice ao M.length cap ∧ MatAt w ao cap M ∧ NewAt base ao (M.map (fun _ => 0)) := by
  rcases h.1.2 with ⟨hv, h0⟩ | ⟨g, cap, cur, hv, hg, hh, hc, hm, hs, ht⟩
  · have : M = [] := List.length_eq_zero_iff.1 h0
    subst this
    exact ⟨none, 0, hv, ⟨by simp, by simp, .inl rfl⟩, .inl rfl⟩
  · refine ⟨some ⟨g, 0, none⟩, cap, hv, ⟨hc, fun x hx => (h.2 x hx).1, .inr ⟨g, 0, rfl, (Array.getElem?_eq_some_iff.1 hh).1, fun i hi => ?_⟩⟩, .inr ⟨g, 0, rfl, hg⟩⟩
    have q1 : (M.map Rw.v)[i]? = some (rwAt M i).v := by
      rw [List.getElem?_map]
      unfold rwAt
      rw [List.getElem?_eq_getElem hi]; rfl
    rw [← ht, List.getElem?_take, if_pos (by omega)] at q1
    rw [cell_of_row w g _ _ _ _ hh, Nat.zero_add]
    simpa using q1

theorem below_of_grown {B : Nat} {a w w' : World} {g : Option Nat} (h : Below B a w) (hg : w.grownBy w' g) (hB : B ≤ w.heap.size) (hm : ∀ m, g = some m → B ≤ m) : Below B a w' :=
  h.trans ⟨hg.os, hg.tape, hg.output, hg.size, fun k hk => hg.block k (by omega) (fun e => by have := hm k e.symm; omega)⟩

end Go.Proofs.YtfnnbkclnflpfaaGreatDoor

/- Contracts of package exact's sets. -/
namespace Go.Proofs.YtfnnbkclnflpfaaGreatDoor
open Go.RowKit

/-- The places of a set of bits, rising. -/
def elems (s : Nat) : List Nat := (List.range 6).filter (fun c => s.testBit c)
def sz (s : Nat) : Nat := (elems s).length
def del (s c : Nat) : Nat := if s.testBit c then s - 2 ^ c else s
def ins (s c : Nat) : Nat := if s.testBit c then s else s + 2 ^ c
def abv (s c : Nat) : Nat := ((elems s).filter (fun d => decide (c < d))).length
def top (s : Nat) : Nat := (elems s).getLast?.getD 0

set_option maxHeartbeats 4000000 in
set_option maxRecDepth 100000 in
theorem onesCount64_any (s : Nat) (w : World) (h : s < 64) :
    Calls Tryz.prog 175 #[.int .u64 s] w fun e w' => e = .returned (.int .i64 (sz s)) ∧ w = w' := by
  go_enter Tryz.func175, Tryz.ntmps175
  go_wp2
  go_ret
  refine ⟨ret_int ?_, rfl⟩
  clear w
  revert h; revert s
  decide +kernel

set_option maxHeartbeats 4000000 in
theorem onesCount_any (s : Nat) (w : World) (h : s < 64) :
    Calls Tryz.prog 152 #[.int .u64 s] w fun e w' => e = .returned (.int .i64 (sz s)) ∧ w = w' := by
  go_enter Tryz.func152, Tryz.ntmps152
  go_wp2_with (go_at_call 175; refine (onesCount64_any s _ h).mono ?_; rintro e w' ⟨rfl, rfl⟩)
  go_ret
  exact ⟨rfl, rfl⟩

set_option maxHeartbeats 4000000 in
theorem size_any (s : Nat) (w : World) (h : s < 64) :
    Calls Tryz.prog 107 #[.int .u64 s] w fun e w' => e = .returned (.int .i64 (sz s)) ∧ w = w' := by
  go_enter Tryz.func107, Tryz.ntmps107
  go_wp2_with (go_at_call 152; refine (onesCount_any s _ h).mono ?_; rintro e w' ⟨rfl, rfl⟩)
  go_ret
  exact ⟨rfl, rfl⟩

set_option maxHeartbeats 4000000 in
theorem has_any (s c : Nat) (w : World) (h : s < 64) (hc : c < 6) :
    Calls Tryz.prog 150 #[.int .u64 s, .int .i64 c] w fun e w' => e = .returned (.bool (s.testBit c)) ∧ w = w' := by
  go_enter Tryz.func150, Tryz.ntmps150
  go_wp2
  go_ret
  refine ⟨ret_bool ?_, rfl⟩
  clear w
  revert hc; revert c; revert h; revert s
  decide +kernel

set_option maxHeartbeats 4000000 in
theorem with_any (s c : Nat) (w : World) (h : s < 64) (hc : c < 6) :
    Calls Tryz.prog 149 #[.int .u64 s, .int .i64 c] w fun e w' => e = .returned (.int .u64 (ins s c)) ∧ w = w' := by
  go_enter Tryz.func149, Tryz.ntmps149
  go_wp2
  go_ret
  refine ⟨ret_int ?_, rfl⟩
  clear w
  revert hc; revert c; revert h; revert s
  decide +kernel

set_option maxHeartbeats 4000000 in
theorem without_any (s c : Nat) (w : World) (h : s < 64) (hc : c < 6) :
    Calls Tryz.prog 173 #[.int .u64 s, .int .i64 c] w fun e w' => e = .returned (.int .u64 (del s c)) ∧ w = w' := by
  go_enter Tryz.func173, Tryz.ntmps173
  go_wp2
  go_ret
  refine ⟨ret_int ?_, rfl⟩
  clear w
  revert hc; revert c; revert h; revert s
  decide +kernel

theorem size_x (x : Int) (s : Nat) (w : World) (hx : x = (s : Int)) (h : s < 64) :
    Calls Tryz.prog 107 #[.int .u64 x] w fun e w' => e = .returned (.int .i64 (sz s)) ∧ w = w' := by
  subst hx; exact size_any s w h

theorem abv_eq : ∀ s, s < 64 → ∀ c, c < 6 → sz (s / 2 ^ (c + 1)) = abv s c ∧ s / 2 ^ (c + 1) < 64 := by decide +kernel

set_option maxHeartbeats 4000000 in
theorem above_any (s c : Nat) (w : World) (h : s < 64) (hc : c < 6) :
    Calls Tryz.prog 182 #[.int .u64 s, .int .i64 c] w fun e w' => e = .returned (.int .i64 (abv s c)) ∧ w = w' := by
  obtain ⟨a1, a2⟩ := abv_eq s h c hc
  rw [← a1]
  clear a1
  have C := hide (fun w => size_x ((s : Int) / 2 ^ (c + 1)) (s / 2 ^ (c + 1)) w (by rw [Int.natCast_ediv]; simp [Int.natCast_pow]) a2)
  clear a2
  generalize sz (s / 2 ^ (c + 1)) = n at *
  go_enter Tryz.func182, Tryz.ntmps182
  go_wp2_with fail
  refine (unhide C _).mono ?_
  rintro e w' ⟨rfl, rfl⟩
  go_wp2
  go_ret
  exact ⟨rfl, rfl⟩

theorem bitLen_top : ∀ s, s < 64 → 0 < s → Lib.bitLen s = top s + 1 ∧ top s < 6 := by decide +kernel

set_option maxHeartbeats 4000000 in
set_option maxRecDepth 100000 in
theorem len64_x (x : Int) (w : World) (h0 : 0 ≤ x) (h1 : x < 64) :
    Calls Tryz.prog 187 #[.int .u64 x] w fun e w' => e = .returned (.int .i64 (Lib.bitLen x.toNat)) ∧ w = w' := by
  have hi := fun w => Lib.run_index_len8tab (P := Tryz.prog) w 9 .u8 (x) Tryz.underlying9 (by omega) (by omega)
  have l1 := Lib.len8_eq ⟨(x).toNat, by omega⟩
  have l2 := Lib.bitLen_le8 ⟨(x).toNat, by omega⟩
  have hl0 : 0 ≤ Lib.len8 (x) := by simp only [Int.toNat_of_nonneg (show 0 ≤ x by omega)] at l1; rw [l1]; omega
  have hl8 : Lib.len8 (x) ≤ 8 := by simp only [Int.toNat_of_nonneg (show 0 ≤ x by omega)] at l1; rw [l1]; simp only at l2; omega
  have HE : Hid (Lib.len8 (x) = (Lib.bitLen (x).toNat : Int)) := by unfold Hid; simp only [Int.toNat_of_nonneg (show 0 ≤ x by omega)] at l1; exact l1
  clear l1 l2
  go_enter Tryz.func187, Tryz.ntmps187
  go_wp2
  go_ret
  refine ⟨ret_int ?_, rfl⟩
  rw [HE.out]
theorem len64_any (s : Nat) (w : World) (h : s < 64) :
    Calls Tryz.prog 187 #[.int .u64 s] w fun e w' => e = .returned (.int .i64 (Lib.bitLen s)) ∧ w = w' := by
  have := len64_x s w (by omega) (by omega)
  rwa [Int.toNat_natCast] at this

set_option maxHeartbeats 4000000 in
theorem slen_any (s : Nat) (w : World) (h : s < 64) :
    Calls Tryz.prog 181 #[.int .u64 s] w fun e w' => e = .returned (.int .i64 (Lib.bitLen s)) ∧ w = w' := by
  go_enter Tryz.func181, Tryz.ntmps181
  go_wp2_with (go_at_call 187; refine (len64_any s _ h).mono ?_; rintro e w' ⟨rfl, rfl⟩)
  go_ret
  exact ⟨rfl, rfl⟩

set_option maxHeartbeats 4000000 in
theorem last_any (s : Nat) (w : World) (h : s < 64) (h0 : 0 < s) :
    Calls Tryz.prog 170 #[.int .u64 s] w fun e w' => e = .returned (.int .i64 (top s)) ∧ w = w' := by
  obtain ⟨b1, b2⟩ := bitLen_top s h h0
  have C := hide (fun w => slen_any s w h)
  rw [b1] at C
  clear b1
  generalize top s = t at *
  go_enter Tryz.func170, Tryz.ntmps170
  go_wp2_with fail
  refine (unhide C _).mono ?_
  rintro e w' ⟨rfl, rfl⟩
  go_wp2
  go_ret
  refine ⟨ret_int ?_, rfl⟩
  simp

end Go.Proofs.YtfnnbkclnflpfaaGreatDoor

/- Contracts of exact's width, wellShaped. -/
namespace Go.Proofs.YtfnnbkclnflpfaaGreatDoor
open Go.RowKit

/-- Lengths that no wrap touches. -/
def SmallM (M : List Rw) : Prop := M.length ≤ 35184372088830 ∧ ∀ r ∈ M, r.R.length ≤ 35184372088830 ∧ ∀ x ∈ r.R, x.L.length ≤ 35184372088830

theorem SmallM.row {M : List Rw} (h : SmallM M) (i : Nat) : (rwAt M i).R.length ≤ 35184372088830 := by
  by_cases hi : i < M.length
  · exact (h.2 _ (rwAt_mem hi)).1
  · unfold rwAt; rw [List.getElem?_eq_none (by omega)]; simp [Rw.nil]

set_option maxHeartbeats 4000000 in
theorem width_any (ao : Option Addr) (cap : Nat) (M : List Rw) (w : World) (h : MatAt w ao cap M) (hs : SmallM M) :
    Calls Tryz.prog 169 #[.slice ao M.length cap] w fun e w' => e = .returned (.int .i64 (width M)) ∧ w = w' := by
  by_cases h0 : M = []
  · subst h0
    go_enter Tryz.func169, Tryz.ntmps169
    go_wp2
    go_ret
    exact ⟨rfl, rfl⟩
  · have hp : 0 < M.length := List.length_pos_iff.2 h0
    obtain ⟨b, off, rfl, hb, hc⟩ := h.ne hp
    have hc0 := hc 0 hp
    rw [Nat.add_zero] at hc0
    have hne : ((M.length : Int) == 0) = false := by simp; exact h0
    have hr := hs.row 0
    clear h hc hs h0
    unfold width
    generalize (rwAt M 0).R.length = n at *
    generalize (rwAt M 0).ao = a0 at *
    generalize (rwAt M 0).cap = c0 at *
    generalize M.length = m at *
    have hmI : (0 : Int) < (m : Int) := by omega
    go_enter Tryz.func169, Tryz.ntmps169
    go_wp2
    go_ret
    exact ⟨rfl, rfl⟩

/-- Are there not too many rows, nor columns, as many in each? -/
def shapeB (M : List Rw) : Bool := decide (M.length ≤ 6) && decide (width M ≤ 6) && M.all (fun r => decide (r.R.length = width M))

set_option maxHeartbeats 4000000 in
theorem wellShaped_any (ao : Option Addr) (cap : Nat) (M : List Rw) (w : World) (h : MatAt w ao cap M) (hs : SmallM M) :
    Calls Tryz.prog 145 #[.slice ao M.length cap] w fun e w' => e = .returned (.bool (shapeB M)) ∧ w = w' := by
  have CW := hide (fun w' (h : MatAt w' ao cap M) => width_any ao cap M w' h hs)
  have hw : width M ≤ 35184372088830 := hs.row 0
  have HS := hide hs
  by_cases h6 : M.length ≤ 6
  · by_cases w6 : width M ≤ 6
    · obtain ⟨n, hn⟩ : ∃ n, width M = n := ⟨_, rfl⟩
      have HE : Hid (shapeB M = M.all (fun r => decide (r.R.length = n))) := by unfold Hid; rw [hn] at w6; simp only [shapeB, hn, decide_eq_true h6, decide_eq_true w6, Bool.true_and]
      rw [hn] at CW w6
      generalize shapeB M = sb at *
      clear hs hw hn
      have h6' : ¬ (6 : Int) < (M.length : Int) := by omega
      have w6' : ¬ (6 : Int) < (n : Int) := by omega
      go_enter Tryz.func145, Tryz.ntmps145
      go_wp2_with (go_at_call 169; refine (unhide CW _ h).mono ?_; rintro e w' ⟨rfl, rfl⟩)
      go_loop [15] (fun i => ∃ k : Nat, k ≤ M.length ∧ i = .int .i64 k ∧ Hid (∀ j, j < k → (rwAt M j).R.length = n)) (fun i => M.length - (intOf i).toNat)
      case atStart => exact ⟨0, Nat.zero_le _, rfl, by unfold Hid; intro j hj; omega⟩
      case round =>
        obtain ⟨k, hk, rfl, hq⟩ := hrel
        by_cases hlt : k < M.length
        · obtain ⟨b, off, hao, hb, hc⟩ := h.ne (by omega)
          have hck := hc k hlt
          have hr := (unhide HS).row k
          have hkI : (k : Int) < (M.length : Int) := by omega
          obtain ⟨m, hm⟩ : ∃ m, (rwAt M k).R.length = m := ⟨_, rfl⟩
          rw [hm] at hck hr
          generalize (rwAt M k).ao = a0 at *
          generalize (rwAt M k).cap = c0 at *
          clear hc
          by_cases e : m = n
          · subst e
            have hee : ((m : Int) == (m : Int)) = true := by simp
            subst hao
            have HQ : Hid (∀ j, j < k + 1 → (rwAt M j).R.length = m) := by
              unfold Hid; intro j hj
              rcases Nat.lt_succ_iff_lt_or_eq.1 hj with h | rfl
              · exact hq.out j h
              · exact hm
            clear hq hm
            go_wp2_with (go_at_call 169; refine (unhide CW _ h).mono ?_; rintro e w' ⟨rfl, rfl⟩)
            go_round
            case rel => exact ⟨k + 1, by omega, by go_num, HQ⟩
            case measure => simp [intOf]; omega
          · have hee : ((m : Int) == (n : Int)) = false := by simp; omega
            subst hao
            have HF : Hid (sb = false) := by
              unfold Hid; rw [HE.out, List.all_eq_false]
              exact ⟨rwAt M k, rwAt_mem hlt, by simp; omega⟩
            clear hq hm
            go_wp2_with (go_at_call 169; refine (unhide CW _ h).mono ?_; rintro e w' ⟨rfl, rfl⟩)
            go_ret
            exact ⟨ret_bool HF.out.symm, rfl⟩
        · have HT : Hid (sb = true) := by
            unfold Hid; rw [HE.out, List.all_eq_true]
            intro r hr
            obtain ⟨j, hj, rfl⟩ := List.getElem_of_mem hr
            have := hq.out j (by omega)
            unfold rwAt at this
            rw [List.getElem?_eq_getElem hj] at this
            simpa using this
          have hkk : k = M.length := by omega
          subst hkk
          clear hq
          go_wp2
          go_ret
          exact ⟨ret_bool HT.out.symm, rfl⟩
    · have HF : Hid (shapeB M = false) := by unfold Hid; simp [shapeB, w6]
      generalize shapeB M = sb at *
      generalize width M = n at *
      have h6' : ¬ (6 : Int) < (M.length : Int) := by omega
      have w6' : (6 : Int) < (n : Int) := by omega
      clear hs
      go_enter Tryz.func145, Tryz.ntmps145
      go_wp2_with (go_at_call 169; refine (unhide CW _ h).mono ?_; rintro e w' ⟨rfl, rfl⟩)
      go_ret
      exact ⟨ret_bool HF.out.symm, rfl⟩
  · have HF : Hid (shapeB M = false) := by unfold Hid; simp [shapeB, h6]
    generalize shapeB M = sb at *
    have h6' : (6 : Int) < (M.length : Int) := by omega
    have hl := hs.1
    clear hs
    go_enter Tryz.func145, Tryz.ntmps145
    go_wp2_with fail
    go_ret
    exact ⟨ret_bool HF.out.symm, rfl⟩

end Go.Proofs.YtfnnbkclnflpfaaGreatDoor

/- Contracts of exact's all, Check. -/
namespace Go.Proofs.YtfnnbkclnflpfaaGreatDoor
open Go.RowKit

/-- Calls of a function on a number tell p. -/
def Tells (fn : Nat) (p : Nm → Bool) : Prop := ∀ (w : World) (x : Nm), LimbsAt w x.ao x.cap x.L → x.L.length ≤ 35184372088830 →
  Calls Tryz.prog fn #[.agg #[.bool x.neg, .slice x.ao x.L.length x.cap]] w fun e w' => e = .returned (.bool (p x)) ∧ Below w.heap.size w w'

set_option maxHeartbeats 4000000 in
theorem all_any (fn : Nat) (p : Nm → Bool) (hcf : ∀ args w, (callFunc fn args).run Tryz.prog w = .ok (.enter fn args) w) (hp : Tells fn p) (ao : Option Addr) (cap : Nat) (M : List Rw) (w : World) (h : MatAt w ao cap M) (hs : SmallM M) :
    Calls Tryz.prog 146 #[.slice ao M.length cap, .func (.func fn) #[] #[]] w fun e w' => e = .returned (.bool (M.all (fun r => r.R.all p))) ∧ Below w.heap.size w w' := by
  have HP := hide hp
  have HS := hide hs
  have HM := hide h
  have hl := hs.1
  obtain ⟨sb, hsb⟩ : ∃ sb, M.all (fun r => r.R.all p) = sb := ⟨_, rfl⟩
  rw [hsb]
  have HE := hide hsb
  clear hp hs h hsb
  go_enter Tryz.func146, Tryz.ntmps146
  go_wp2_with fail
  go_loopw [11] (fun i wr => ∃ k : Nat, k ≤ M.length ∧ i = .int .i64 k ∧ Hid (∀ j, j < k → (rwAt M j).R.all p = true) ∧ Below w.heap.size w wr) (fun i _ => M.length - (intOf i).toNat)
  case atStart => exact ⟨0, Nat.zero_le _, rfl, by unfold Hid; intro j hj; omega, Below.refl _ _⟩
  case round =>
    obtain ⟨k, hk, rfl, hq, hb⟩ := hrel
    by_cases hlt : k < M.length
    · obtain ⟨b, off, hao, hbb, hc⟩ := ((unhide HM).below hb).ne (by omega)
      have hck := hc k hlt
      have hr := (unhide HS).row k
      have hkI : (k : Int) < (M.length : Int) := by omega
      have hn0 := (unhide HM).nums hlt
      have hxs := ((unhide HS).2 _ (rwAt_mem hlt)).2
      obtain ⟨R, hR⟩ : ∃ R, (rwAt M k).R = R := ⟨_, rfl⟩
      rw [hR] at hck hr hn0 hxs
      generalize (rwAt M k).ao = a0 at *
      generalize (rwAt M k).cap = c0 at *
      have HN := hide hn0
      have HX := hide hxs
      clear hc hn0 hxs
      subst hao
      go_wp2_with fail
      go_loopw [17] (fun i wq => ∃ c : Nat, c ≤ R.length ∧ i = .int .i64 c ∧ Hid (∀ j, j < c → p (nmAt R j) = true) ∧ Below w.heap.size w wq) (fun i _ => R.length - (intOf i).toNat)
      case atStart => exact ⟨0, Nat.zero_le _, rfl, by unfold Hid; intro j hj; omega, hb⟩
      case round =>
        obtain ⟨c, hc, rfl, hqc, hbq⟩ := hrel
        by_cases hcl : c < R.length
        · have hbw := hbq
          obtain ⟨b1, o1, hao1, hb1, hc1⟩ := ((unhide HN).below hbw).ne (by omega)
          obtain ⟨c1, c2⟩ := hc1 c hcl
          have hlx := ((unhide HN).below hbw).limbs hcl
          have hxl := unhide HX _ (nmAt_mem hcl)
          obtain ⟨x, hx⟩ : ∃ x, nmAt R c = x := ⟨_, rfl⟩
          rw [hx] at c1 c2 hlx hxl
          have hcI : (c : Int) < (R.length : Int) := by omega
          obtain ⟨nx, ax, cx, Lx⟩ := x
          simp only at c1 c2 hlx hxl
          have HLX := hide hlx
          have HXE := hide hx
          clear hc1 hlx hx
          subst hao1
          go_wp2_with fail
          refine ((unhide HP) _ ⟨nx, ax, cx, Lx⟩ ((unhide HLX).below ((Below.refl _ _).alloc (Nat.le_refl _) _)) hxl).mono ?_
          rintro e w2 ⟨rfl, hb2⟩
          have hb3 : Below w.heap.size w w2 := hbq.trans ((((Below.refl wr.heap.size wr).alloc (Nat.le_refl _) _).trans (hb2.mono (by simp))).mono hbq.size)
          by_cases hpx : p ⟨nx, ax, cx, Lx⟩ = true
          · rw [hpx]
            have HQ : Hid (∀ j, j < c + 1 → p (nmAt R j) = true) := by
              unfold Hid; intro j hj
              rcases Nat.lt_succ_iff_lt_or_eq.1 hj with h | rfl
              · exact hqc.out j h
              · rw [unhide HXE]; exact hpx
            clear hqc hb2 hbq hbw c1 c2
            go_wp2_with fail
            go_roundw
            case rel => exact ⟨c + 1, by omega, by go_num, HQ, hb3⟩
            case measure => simp [intOf]; omega
          · have hpf : p ⟨nx, ax, cx, Lx⟩ = false := by simpa using hpx
            rw [hpf]
            have HF : Hid (sb = false) := by
              unfold Hid; rw [← unhide HE, List.all_eq_false]
              refine ⟨rwAt M k, rwAt_mem hlt, ?_⟩
              rw [hR, Bool.not_eq_true, List.all_eq_false]
              exact ⟨nmAt R c, nmAt_mem hcl, by rw [unhide HXE, hpf]; decide⟩
            clear hqc hb2 hbq hbw c1 c2
            go_wp2_with fail
            go_ret
            exact ⟨ret_bool HF.out.symm, hb3⟩
        · have hcc : c = R.length := by omega
          have HQ : Hid (∀ j, j < k + 1 → (rwAt M j).R.all p = true) := by
            unfold Hid; intro j hj
            rcases Nat.lt_succ_iff_lt_or_eq.1 hj with h | rfl
            · exact hq.out j h
            · rw [hR, List.all_eq_true]
              intro x hx
              obtain ⟨i, hi, rfl⟩ := List.getElem_of_mem hx
              have := hqc.out i (by omega)
              unfold nmAt at this
              rwa [List.getElem?_eq_getElem hi] at this
          subst hcc
          have hb4 := hbq
          clear hqc hq hbq hb
          go_wp2_with fail
          go_roundw
          case rel => exact ⟨k + 1, by omega, by go_num, HQ, hb4⟩
          case measure => simp [intOf]; omega
    · have HT : Hid (sb = true) := by
        unfold Hid; rw [← unhide HE, List.all_eq_true]
        intro r hr
        obtain ⟨j, hj, rfl⟩ := List.getElem_of_mem hr
        have := hq.out j (by omega)
        unfold rwAt at this
        rwa [List.getElem?_eq_getElem hj] at this
      have hkk : k = M.length := by omega
      subst hkk
      clear hq
      go_wp2
      go_ret
      exact ⟨ret_bool HT.out.symm, hb⟩

set_option maxRecDepth 20000 in
theorem cf29 (args : Array Value) (w : World) : (callFunc 147 args).run Tryz.prog w = .ok (.enter 147 args) w := by
  simp only [callFunc, go_sem]
  rfl
set_option maxRecDepth 20000 in
theorem cf31 (args : Array Value) (w : World) : (callFunc 148 args).run Tryz.prog w = .ok (.enter 148 args) w := by
  simp only [callFunc, go_sem]
  rfl

/-- Is a number right, is it short? -/
def rightN (x : Nm) : Bool := rightB x.neg x.L
def shortN (x : Nm) : Bool := decide (x.L.length ≤ 80)

set_option maxHeartbeats 4000000 in
theorem check1_tells : Tells 147 rightN := by
  rintro w ⟨nx, ax, cx, Lx⟩ h hl
  have HC := hide (fun w' h' => check_any nx ax cx Lx w' h' hl)
  have H := hide h
  simp only at *
  unfold rightN
  simp only
  have HE : Hid (chkE nx Lx = if rightB nx Lx then 0 else 1) := rfl
  generalize chkE nx Lx = e at *
  generalize rightB nx Lx = r at *
  clear h
  go_enter Tryz.func147, Tryz.ntmps147
  go_wp2_with fail
  refine (unhide HC _ ((unhide H).below ((Below.refl _ _).alloc (Nat.le_refl _) _))).mono ?_
  rintro e w2 ⟨rfl, hb2⟩
  rw [HE.out]
  have hb3 : Below w.heap.size w w2 := ((Below.refl w.heap.size w).alloc (Nat.le_refl _) _).trans (hb2.mono (by simp))
  clear hb2
  cases r
  · go_wp2
    go_ret
    exact ⟨rfl, hb3⟩
  · go_wp2
    go_ret
    exact ⟨rfl, hb3⟩

set_option maxHeartbeats 4000000 in
theorem check2_tells : Tells 148 shortN := by
  rintro w ⟨nx, ax, cx, Lx⟩ h hl
  simp only at *
  unfold shortN
  simp only
  generalize Lx.length = n at *
  clear h
  by_cases h8 : n ≤ 80
  · go_enter Tryz.func148, Tryz.ntmps148
    go_wp2
    go_ret
    exact ⟨ret_bool (by simp; omega), (Below.refl _ _).alloc (Nat.le_refl _) _⟩
  · go_enter Tryz.func148, Tryz.ntmps148
    go_wp2
    go_ret
    exact ⟨ret_bool (by simp; omega), (Below.refl _ _).alloc (Nat.le_refl _) _⟩

/-- What Check says. -/
def mChk (M : List Rw) : Int := if shapeB M then (if M.all (fun r => r.R.all rightN) then (if M.all (fun r => r.R.all shortN) then 0 else 2) else 1) else 3

set_option maxHeartbeats 4000000 in
theorem xcheck_any (ao : Option Addr) (cap : Nat) (M : List Rw) (w : World) (h : MatAt w ao cap M) (hs : SmallM M) :
    Calls Tryz.prog 104 #[.slice ao M.length cap] w fun e w' => e = .returned (.int .i64 (mChk M)) ∧ Below w.heap.size w w' := by
  have C1 := hide (fun w' h' => wellShaped_any ao cap M w' h' hs)
  have C2 := hide (fun w' h' => all_any _ _ cf29 check1_tells ao cap M w' h' hs)
  have C3 := hide (fun w' h' => all_any _ _ cf31 check2_tells ao cap M w' h' hs)
  have HM := hide h
  have HE : Hid (mChk M = if shapeB M then (if M.all (fun r => r.R.all rightN) then (if M.all (fun r => r.R.all shortN) then 0 else 2) else 1) else 3) := rfl
  generalize mChk M = e at *
  generalize shapeB M = b1 at *
  generalize M.all (fun r => r.R.all rightN) = b2 at *
  generalize M.all (fun r => r.R.all shortN) = b3 at *
  clear h
  go_enter Tryz.func104, Tryz.ntmps104
  go_wp2_with fail
  refine (unhide C1 _ (unhide HM)).mono ?_
  rintro r w1 ⟨rfl, rfl⟩
  cases b1
  · go_wp2
    go_ret
    exact ⟨ret_int (by rw [HE.out]; rfl), Below.refl _ _⟩
  · go_wp2_with fail
    refine (unhide C2 _ (unhide HM)).mono ?_
    rintro r w1 ⟨rfl, hb1⟩
    cases b2
    · go_wp2
      go_ret
      exact ⟨ret_int (by rw [HE.out]; rfl), hb1⟩
    · go_wp2_with fail
      refine (unhide C3 _ ((unhide HM).below hb1)).mono ?_
      rintro r w2 ⟨rfl, hb2⟩
      have hb3 := hb1.trans (hb2.mono hb1.size)
      clear hb1 hb2
      cases b3
      · go_wp2
        go_ret
        exact ⟨ret_int (by rw [HE.out]; rfl), hb3⟩
      · go_wp2
        go_ret
        exact ⟨ret_int (by rw [HE.out]; rfl), hb3⟩

end Go.Proofs.YtfnnbkclnflpfaaGreatDoor

