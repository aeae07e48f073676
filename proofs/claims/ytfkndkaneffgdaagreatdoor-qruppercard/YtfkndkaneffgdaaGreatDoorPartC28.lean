/- Part 28 of the texts. -/
import Derived.Test.YtfkndkaneffgdaaGreatDoorPartC27
import Derived.Test.YtfkndkaneffgdaaGreatDoorPartC04
import Derived.Test.YtfkndkaneffgdaaGreatDoorPartC05
import Derived.Test.YtfkndkaneffgdaaGreatDoorPartC02
import Derived.Maps.AppendAt
import Derived.Test.YtfkndkaneffgdaaGreatDoorPartC08
import Derived.Lib.BitFns
import Derived.Test.YtfkndkaneffgdaaGreatDoorPartC06
import Derived.Test.YtfkndkaneffgdaaGreatDoorPartC09
/- The reference of layer 10: Right, At, Zeros, Row, With. -/
namespace Go.Proofs.YtfkndkaneffgdaaGreatDoor
open Go.RowKit
attribute [local go_sem ↓] Go.wp_at_zero Go.wp_at_succ
set_option maxRecDepth 20000 in
set_option maxHeartbeats 2000000 in
theorem rat_of (r c n cap b off i k q x : Nat) (w : World) (hq : (i : Int) * (c : Int) = (q : Int)) (hlt : q + k < n) (hn : n ≤ 36)
    (hx : w.cell? ⟨b, off + (q + k), none⟩ = some (.int .u64 (x : Nat))) :
    Calls Tryz.prog 15 #[.agg #[.int .i64 r, .int .i64 c, .slice (some ⟨b, off, none⟩) n cap], .int .i64 i, .int .i64 k] w fun e w' => e = .returned (.int .u64 (x : Nat)) ∧ Below w.heap.size w w' := by
  have hb0 := hide (below_alloc9 w (.cells #[.int .i64 r, .int .i64 c, .slice (some ⟨b, off, none⟩) n cap] 24))
  have cx := cell_keep hx (unhide hb0)
  clear hx
  have hkI : (q : Int) + (k : Int) < (n : Int) := by omega
  go_enter Tryz.func15, Tryz.ntmps15
  go_wp2
  go_ret
  exact ⟨rfl, unhide hb0⟩

theorem rat_any (r c cap i k : Nat) (ao : Option Addr) (S : List Nat) (w : World) (h : Mx w ao cap r c S) (hi : i < r) (hk : k < c) :
    Calls Tryz.prog 15 #[.agg #[.int .i64 r, .int .i64 c, .slice ao S.length cap], .int .i64 i, .int .i64 k] w fun e w' => e = .returned (.int .u64 (elM c S i k : Nat)) ∧ Below w.heap.size w w' := by
  obtain ⟨b, off, rfl, h2, h3, h4⟩ := h.cells hi hk
  exact rat_of r c S.length cap b off i k (i * c) _ w (cast_mul10 i c) h4 h.small h3

end Go.Proofs.YtfkndkaneffgdaaGreatDoor

/- The reference of layer 10: With, Copy, Same. -/
namespace Go.Proofs.YtfkndkaneffgdaaGreatDoor
open Go.RowKit
attribute [local go_sem ↓] Go.wp_at_zero Go.wp_at_succ

/-- A number of a list of one's own written over. -/
theorem OwnB.at {base : Nat} {w : World} {ao : Option Addr} {n cap : Nat} {S : List Nat} (h : OwnB base w (.slice ao n cap) S) {j : Nat} (hj : j < S.length) :
    ∃ g, ao = some ⟨g, 0, none⟩ ∧ base ≤ g ∧ g < w.heap.size ∧ w.cell? ⟨g, j, none⟩ = some (.int .u64 (S.getD j 0 : Nat)) ∧ w.frozen? ⟨g, j, none⟩ = false ∧
      ∀ x, x < 18446744073709551616 → OwnB base (w.setCell ⟨g, j, none⟩ (.int .u64 (x : Nat))) (.slice ao n cap) (S.set j x) := by
  obtain ⟨⟨h1, h2⟩, h3⟩ := h
  rcases h2 with ⟨_, h0⟩ | ⟨g, cap', cur, hv, hg, hh, hc, hm, hs, ht⟩
  · omega
  · simp only [Value.slice.injEq] at hv
    obtain ⟨rfl, rfl, rfl⟩ := hv
    have q : (S.map bitV)[j]? = some (.int .u64 ((S[j] : Nat) : Int)) := by
      rw [List.getElem?_map, List.getElem?_eq_getElem hj]; rfl
    rw [← ht, List.getElem?_take, if_pos (by omega)] at q
    refine ⟨g, rfl, hg, (Array.getElem?_eq_some_iff.1 hh).1, ?_, frozen_of_row w g j _ _ hh, fun x hx => ⟨⟨by simp, .inr ⟨g, cap, cur.setIfInBounds j (.int .u64 (x : Nat)), ?_, hg, heap_setCell_same w g j _ _ _ hh, by simpa using hc, hm, by simpa using hs, ?_⟩⟩, ?_⟩⟩
    · rw [cell_of_row w g j _ _ _ hh]
      have e : S.getD j 0 = S[j] := by rw [List.getD_eq_getElem?_getD, List.getElem?_eq_getElem hj]; rfl
      rw [e]
      simpa using q
    · simp
    · rw [Array.toList_setIfInBounds, List.take_set, List.length_set, ht, List.map_set]
      rfl
    · intro y hy
      rcases List.mem_or_eq_of_mem_set hy with e | e
      · exact h3 y e
      · rw [e]; exact hx

end Go.Proofs.YtfkndkaneffgdaaGreatDoor

/- Rows of numbers, as they lie in memory. -/
namespace Go.Proofs.YtfkndkaneffgdaaGreatDoor
open Go.RowKit

/-- A number in memory: its sign, where its limbs lie, the limbs. -/
structure Nm where
  neg : Bool
  ao : Option Addr
  cap : Nat
  L : List Nat

/-- A row in memory: where its numbers lie, the numbers. -/
structure Rw where
  ao : Option Addr
  cap : Nat
  R : List Nm

def Nm.nil : Nm := ⟨false, none, 0, []⟩
def Rw.nil : Rw := ⟨none, 0, []⟩
def nmAt (R : List Nm) (k : Nat) : Nm := R[k]?.getD Nm.nil
def rwAt (M : List Rw) (i : Nat) : Rw := M[i]?.getD Rw.nil
def Nm.v (x : Nm) : Value := .agg #[.bool x.neg, .slice x.ao x.L.length x.cap]
def Rw.v (r : Rw) : Value := .slice r.ao r.R.length r.cap

end Go.Proofs.YtfkndkaneffgdaaGreatDoor

/- Rows of numbers, and rows of rows, that a call itself makes by appending. -/
namespace Go.Proofs.YtfkndkaneffgdaaGreatDoor
open Go.RowKit
def numCells (R : List Nm) : List Value := R.flatMap (fun x => [.bool x.neg, .slice x.ao x.L.length x.cap])

theorem length_numCells (R : List Nm) : (numCells R).length = R.length * 2 := by
  induction R with
  | nil => rfl
  | cons x R ih => simp only [numCells, List.flatMap_cons, List.length_append, List.length_cons, List.length_nil] at ih ⊢; rw [show (List.flatMap (fun x => [Value.bool x.neg, Value.slice x.ao x.L.length x.cap]) R).length = R.length * 2 from ih]; omega
theorem numCells_get : ∀ (R : List Nm) (k : Nat), k < R.length → (numCells R)[k * 2]? = some (.bool (nmAt R k).neg) ∧ (numCells R)[k * 2 + 1]? = some (.slice (nmAt R k).ao (nmAt R k).L.length (nmAt R k).cap)
  | x :: R, 0, _ => by simp [numCells, nmAt]
  | x :: R, k + 1, h => by
    have := numCells_get R k (by simpa using h)
    have e : numCells (x :: R) = .bool x.neg :: .slice x.ao x.L.length x.cap :: numCells R := rfl
    rw [e, show (k + 1) * 2 = k * 2 + 1 + 1 by omega]
    simpa [nmAt] using this

end Go.Proofs.YtfkndkaneffgdaaGreatDoor

/- Frames: what a call leaves alone, but for one block; what a number's box is to others. -/
namespace Go.Proofs.YtfkndkaneffgdaaGreatDoor
open Go.RowKit

/-- Below B nothing has turned but block b. -/
structure Fr (B : Nat) (b : Option Nat) (w w' : World) : Prop where
  os : w'.os = w.os
  tape : w'.tape = w.tape
  output : w'.output = w.output
  size : w.heap.size ≤ w'.heap.size
  block : ∀ k, k < B → some k ≠ b → w'.heap[k]? = w.heap[k]?

theorem Fr.refl (B : Nat) (b : Option Nat) (w : World) : Fr B b w w := ⟨rfl, rfl, rfl, Nat.le_refl _, fun _ _ _ => rfl⟩
theorem Fr.trans {B : Nat} {b : Option Nat} {a c d : World} (h : Fr B b a c) (k : Fr B b c d) : Fr B b a d :=
  ⟨k.os.trans h.os, k.tape.trans h.tape, k.output.trans h.output, Nat.le_trans h.size k.size, fun i hi hb => (k.block i hi hb).trans (h.block i hi hb)⟩
theorem Fr.mono {B B' : Nat} {b : Option Nat} {w w' : World} (h : Fr B b w w') (hB : B' ≤ B) : Fr B' b w w' := ⟨h.os, h.tape, h.output, h.size, fun k hk hb => h.block k (Nat.lt_of_lt_of_le hk hB) hb⟩
theorem Fr.of {B : Nat} {w w' : World} (h : Below B w w') (b : Option Nat) : Fr B b w w' := ⟨h.os, h.tape, h.output, h.size, fun k hk _ => h.block k hk⟩
theorem Fr.drew {B : Nat} {b : Option Nat} {w w' : World} (h : Fr B b w w') : Fr B b w w'.drew := ⟨h.os, h.tape, h.output, h.size, h.block⟩
theorem Fr.alloc {B : Nat} {b : Option Nat} {w w' : World} (h : Fr B b w w') (hB : B ≤ w'.heap.size) (o : Obj) : Fr B b w (w'.alloc o) :=
  h.trans (.of ((Below.refl _ _).alloc hB o) b)
theorem Fr.setCell {B : Nat} {b : Option Nat} {w w' : World} (h : Fr B b w w') {p : Addr} (hp : B ≤ p.block) (u : Value) : Fr B b w (w'.setCell p u) :=
  h.trans (.of ((Below.refl _ _).setCell hp u) b)
/-- One call behind another. -/
theorem Fr.then {B : Nat} {b : Option Nat} {w w1 w2 : World} (h : Fr B b w w1) (hB : B ≤ w.heap.size) (k : Fr w1.heap.size b w1 w2) : Fr B b w w2 := h.trans (k.mono (Nat.le_trans hB h.size))
theorem Fr.below {B : Nat} {b : Option Nat} {w w' : World} (h : Fr B b w w') {C : Nat} (hC : C ≤ B) (hb : ∀ m, b = some m → C ≤ m) : Below C w w' :=
  ⟨h.os, h.tape, h.output, h.size, fun k hk => h.block k (by omega) (fun e => by have := hb k e.symm; omega)⟩
theorem Fr.box {B : Nat} {b : Option Nat} {w w' : World} (h : Fr B b w w') {g : Nat} {x y : Value} (hx : Box2 w g x y) (hg : g < B) (hb : ∀ m, b = some m → m < g) : Box2 w' g x y :=
  (h.block g hg (fun e => by have := hb g e.symm; omega)).trans hx
theorem LimbsAt.fr {w w' : World} {ao : Option Addr} {cap B : Nat} {L : List Nat} (h : LimbsAt w ao cap L) {b : Option Nat} (hf : Fr w.heap.size b w w') (hn : NewAt B ao L) (hb : ∀ m, b = some m → m < B) : LimbsAt w' ao cap L := by
  refine ⟨h.1, h.2.1, ?_⟩
  rcases h.2.2 with h0 | ⟨c, off, h1, h2, h3⟩
  · exact .inl h0
  · rcases hn with h0 | ⟨b', off', h1', h2'⟩
    · exact .inl h0
    · rw [h1] at h1'
      simp only [Option.some.injEq, Addr.mk.injEq] at h1'
      obtain ⟨rfl, rfl, _⟩ := h1'
      refine .inr ⟨c, off, h1, Nat.lt_of_lt_of_le h2 hf.size, fun i hi => ?_⟩
      rw [World.cell?_of_block (a := ⟨c, off + i, none⟩) (hf.block c h2 (fun e => by have := hb c e.symm; omega))]
      exact h3 i hi
theorem IsNum.fr {B : Nat} {w w' : World} {v : Value} {x : Int} (h : IsNum B w v x) {b : Option Nat} (hf : Fr w.heap.size b w w') (hb : ∀ m, b = some m → m < B) : IsNum B w' v x := by
  obtain ⟨neg, ao, cap, L, h1, h2, h3, h4⟩ := h
  exact ⟨neg, ao, cap, L, h1, h2.fr hf h3 hb, h3, h4⟩
end Go.Proofs.YtfkndkaneffgdaaGreatDoor

