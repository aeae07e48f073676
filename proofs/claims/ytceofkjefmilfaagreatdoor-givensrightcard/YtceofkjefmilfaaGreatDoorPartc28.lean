/- Part 28 of the texts. -/
import Derived.Test.YtceofkjefmilfaaGreatDoorPartc27
import Derived.OwnWalk
import Derived.Deep.RegionHeld3
import Derived.Deep.AppendLies
import Derived.Maps.AppendAt
import Derived.Test.YtceofkjefmilfaaGreatDoorPartc22
import Derived.Test.YtceofkjefmilfaaGreatDoorPartc19
import Derived.Test.YtceofkjefmilfaaGreatDoorPartc17
import Derived.Test.YtceofkjefmilfaaGreatDoorPartc21
import Derived.Test.YtceofkjefmilfaaGreatDoorPartc09
import Derived.Laws.Cover2
import Derived.Laws.Externs
import Derived.Test.YtceofkjefmilfaaGreatDoorPartc04
import Derived.Laws.FloatArith
import Derived.Test.YtceofkjefmilfaaGreatDoorPartc23
import Derived.Laws.BitsAllLaws
import Derived.Test.YtceofkjefmilfaaGreatDoorPartc11
/- Lists of bits that a call itself makes; the reference's Times and Axpy. -/
namespace Go.Proofs.YtceofkjefmilfaaGreatDoor
open Go.RowKit
attribute [local go_sem ↓] Go.wp_at_zero Go.wp_at_succ
/-- v is a list S of the call's own. -/
def OwnB (base : Nat) (w : World) (v : Value) (S : List Nat) : Prop := w.ownsRow base 23 1 v S.length (S.map bitV) ∧ ∀ x ∈ S, x < 18446744073709551616
theorem OwnB.below {base : Nat} {w w' : World} {v : Value} {S : List Nat} (h : OwnB base w v S) (hb : Below w.heap.size w w') : OwnB base w' v S :=
  ⟨h.1.kept (row := none) ⟨hb.os, hb.tape, hb.output, hb.size, fun k hk _ => hb.block k hk⟩ (by cases hv : v.ownBlock <;> simp), h.2⟩
theorem OwnB.bits {base : Nat} {w : World} {v : Value} {S : List Nat} (h : OwnB base w v S) : ∃ ao cap, v = .slice ao S.length cap ∧ BitsAt w ao cap (S.map (fun x : Nat => (x : Int))) := by
  have hl : (S.map bitV).length = S.length := by simp
  have hf : ∀ x ∈ S.map (fun x : Nat => (x : Int)), 0 ≤ x ∧ x ≤ 18446744073709551615 := by
    intro x hx
    obtain ⟨y, hy, rfl⟩ := List.mem_map.1 hx
    have := h.2 y hy
    omega
  rcases h.1.2 with ⟨hv, h0⟩ | ⟨g, cap, cur, hv, hg, hh, hc, hm, hs, ht⟩
  · have : S = [] := List.length_eq_zero_iff.1 (by omega)
    subst this
    exact ⟨none, 0, hv, ⟨by simp, by simp, .inl rfl⟩⟩
  · refine ⟨some ⟨g, 0, none⟩, cap, hv, ⟨by simp; omega, hf, .inr ⟨g, 0, rfl, (Array.getElem?_eq_some_iff.1 hh).1, fun i hi => ?_⟩⟩⟩
    have hi' : i < S.length := by simpa using hi
    have q : (S.map bitV)[i]? = some (.int .u64 ((S[i] : Nat) : Int)) := by
      rw [List.getElem?_map, List.getElem?_eq_getElem hi']; rfl
    rw [← ht, List.getElem?_take, if_pos (by omega)] at q
    rw [cell_of_row w g _ _ _ _ hh, Nat.zero_add]
    have e : (S.map (fun x : Nat => (x : Int)))[i]?.getD 0 = ((S[i] : Nat) : Int) := by simp [hi']
    rw [e]
    simpa using q
theorem OwnB.nil (w : World) (base : Nat) (h : base ≤ w.heap.size) : OwnB base (w.alloc (.cells #[] 23)) (.slice (some ⟨w.heap.size, 0, none⟩) 0 0) [] :=
  ⟨World.ownsRow_made w #[] 0 h (by simp [maxLen]) (by simp), by simp⟩
end Go.Proofs.YtceofkjefmilfaaGreatDoor

/- Copies of lists; cells that are spoiled; are two lists the same. -/
namespace Go.Proofs.YtceofkjefmilfaaGreatDoor
open Go.RowKit
attribute [local go_sem ↓] Go.wp_at_zero Go.wp_at_succ

/-- The numbers of a list. -/
def natL (I : List Int) : List Nat := I.map Int.toNat
theorem natL_len (I : List Int) : (natL I).length = I.length := by simp [natL]
theorem natL_back {w : World} {ao : Option Addr} {c : Nat} {I : List Int} (h : BitsAt w ao c I) : (natL I).map (fun x : Nat => (x : Int)) = I := by
  unfold natL
  rw [List.map_map]
  refine (List.map_congr_left fun x hx => ?_).trans (List.map_id I)
  have := h.2.1 x hx
  simp
  omega
/-- n cells of block g hold bits, whatever they are. -/
def RowU (w : World) (g n : Nat) : Prop := ∃ cur : Array Value, w.heap[g]? = some (.cells cur 23 (0, 0)) ∧ n ≤ cur.size ∧ ∀ j, j < n → ∃ z : Int, cur[j]? = some (.int .u64 z)
theorem RowU.cell {w : World} {g n : Nat} (h : RowU w g n) {j : Nat} (hj : j < n) : ∃ z : Int, w.cell? ⟨g, j, none⟩ = some (.int .u64 z) := by
  obtain ⟨cur, h1, h2, h3⟩ := h
  obtain ⟨z, hz⟩ := h3 j hj
  exact ⟨z, by rw [cell_of_row w g j _ _ _ h1]; exact hz⟩
theorem RowU.free {w : World} {g n : Nat} (h : RowU w g n) (j : Nat) : w.frozen? ⟨g, j, none⟩ = false := by
  obtain ⟨cur, h1, _⟩ := h
  exact frozen_of_row w g j _ _ h1
theorem RowU.set {w : World} {g n : Nat} (h : RowU w g n) (b j : Nat) (z : Int) : RowU (w.setCell ⟨b, j, none⟩ (.int .u64 z)) g n := by
  obtain ⟨cur, h1, h2, h3⟩ := h
  by_cases e : g = b
  · subst e
    refine ⟨cur.setIfInBounds j (.int .u64 z), heap_setCell_same w g j _ _ _ h1, by simpa using h2, fun i hi => ?_⟩
    rw [Array.getElem?_setIfInBounds]
    by_cases ej : j = i
    · subst ej
      rw [if_pos rfl, if_pos (by omega)]
      exact ⟨z, rfl⟩
    · rw [if_neg ej]
      exact h3 i hi
  · exact ⟨cur, (Below.heap_setCell w ⟨b, j, none⟩ (.int .u64 z) g e).trans h1, h2, h3⟩
theorem RowU.below {w w' : World} {g n : Nat} (h : RowU w g n) (hb : Below w.heap.size w w') : RowU w' g n := by
  obtain ⟨cur, h1, h2⟩ := h
  exact ⟨cur, (hb.block g (Array.getElem?_eq_some_iff.1 h1).1).trans h1, h2⟩
theorem BitsAt.other {w : World} {ao : Option Addr} {c : Nat} {I : List Int} (h : BitsAt w ao c I) {p : Addr} (hp : I = [] ∨ ∃ b off, ao = some ⟨b, off, none⟩ ∧ b ≠ p.block) (u : Value) : BitsAt (w.setCell p u) ao c I := by
  refine ⟨h.1, h.2.1, ?_⟩
  rcases h.2.2 with e | ⟨b, off, e1, e2, e3⟩
  · exact .inl e
  rcases hp with e | ⟨b', off', f1, f2⟩
  · exact .inl e
  rw [e1] at f1
  simp only [Option.some.injEq, Addr.mk.injEq] at f1
  obtain ⟨rfl, rfl, _⟩ := f1
  refine .inr ⟨b, off, e1, by simpa [World.setCell] using e2, fun i hi => ?_⟩
  rw [cell_setCell_other _ _ _ _ f2]
  exact e3 i hi

end Go.Proofs.YtceofkjefmilfaaGreatDoor

/- The law VectorAxpys, walked. -/
namespace Go.Proofs.YtceofkjefmilfaaGreatDoor
open Go.RowKit
attribute [local go_sem ↓] Go.wp_at_zero Go.wp_at_succ

/-- Where a list lies: from block H on. -/
def NewB (H : Nat) (ao : Option Addr) (I : List Int) : Prop := I = [] ∨ ∃ b off, ao = some ⟨b, off, none⟩ ∧ H ≤ b
/-- A copy, whose cells may be spoiled. -/
def CopyB (base H : Nat) (w : World) (po : Option Addr) (n : Nat) : Prop := n = 0 ∨ ∃ g, po = some ⟨g, 0, none⟩ ∧ base ≤ g ∧ g < H ∧ RowU w g n
theorem CopyB.below {base H : Nat} {w w' : World} {po : Option Addr} {n : Nat} (h : CopyB base H w po n) (hb : Below w.heap.size w w') : CopyB base H w' po n := by
  rcases h with h | ⟨g, h1, h2, h3, h4⟩
  · exact .inl h
  · exact .inr ⟨g, h1, h2, h3, h4.below hb⟩
theorem CopyB.set {base H : Nat} {w : World} {po : Option Addr} {n : Nat} (h : CopyB base H w po n) (b j : Nat) (z : Int) : CopyB base H (w.setCell ⟨b, j, none⟩ (.int .u64 z)) po n := by
  rcases h with h | ⟨g, h1, h2, h3, h4⟩
  · exact .inl h
  · exact .inr ⟨g, h1, h2, h3, h4.set b j z⟩
theorem CopyB.base {base base' H : Nat} {w : World} {po : Option Addr} {n : Nat} (h : CopyB base H w po n) (hb : base' ≤ base) : CopyB base' H w po n := by
  rcases h with h | ⟨g, h1, h2, h3, h4⟩
  · exact .inl h
  · exact .inr ⟨g, h1, by omega, h3, h4⟩
theorem BitsAt.far {H : Nat} {w : World} {ao : Option Addr} {c : Nat} {I : List Int} (h : BitsAt w ao c I) (hn : NewB H ao I) {b : Nat} (hb : b < H) (j : Nat) (u : Value) : BitsAt (w.setCell ⟨b, j, none⟩ u) ao c I := by
  refine h.other ?_ u
  rcases hn with e | ⟨b', off, e1, e2⟩
  · exact .inl e
  · exact .inr ⟨b', off, e1, by show b' ≠ b; omega⟩

/-- What holds while the copies are spoiled. -/
structure SpSt (w wr : World) (H : Nat) (po qo : Option Addr) (n m : Nat) (so to' : Option Addr) (cs ct : Nat) (S T : List Int) : Prop where
  bel : Below w.heap.size w wr
  p : CopyB w.heap.size H wr po n
  q : CopyB w.heap.size H wr qo m
  s : BitsAt wr so cs S
  t : BitsAt wr to' ct T
  ns : NewB H so S
  nt : NewB H to' T
theorem SpSt.put {w wr : World} {H : Nat} {po qo : Option Addr} {n m : Nat} {so to' : Option Addr} {cs ct : Nat} {S T : List Int} (h : SpSt w wr H po qo n m so to' cs ct S T) {g : Nat} (hg : w.heap.size ≤ g) (hH : g < H) (j : Nat) (z : Int) : SpSt w (wr.setCell ⟨g, j, none⟩ (.int .u64 z)) H po qo n m so to' cs ct S T :=
  ⟨h.bel.setCell (p := ⟨g, j, none⟩) hg _, h.p.set g j z, h.q.set g j z, h.s.far h.ns hH j _, h.t.far h.nt hH j _, h.ns, h.nt⟩
theorem OwnB.same {base : Nat} {w w0 : World} {I : List Int} {po ao : Option Addr} {pc c : Nat} (h : OwnB base w (.slice po I.length pc) (natL I)) (h0 : BitsAt w0 ao c I) : BitsAt w po pc I := by
  obtain ⟨ao', cap', e, hb⟩ := h.bits
  simp only [Value.slice.injEq] at e
  obtain ⟨rfl, _, rfl⟩ := e
  rw [natL_back h0] at hb
  exact hb

end Go.Proofs.YtceofkjefmilfaaGreatDoor

/- One number more onto a list of the call's own. -/
namespace Go.Proofs.YtceofkjefmilfaaGreatDoor
open Go.RowKit
/-- Two lists of one's own lie apart. -/
def Apart (v u : Value) : Prop := ∀ g, v.ownBlock = some g → u.ownBlock ≠ some g
theorem Apart.symm {v u : Value} (h : Apart v u) : Apart u v := fun g h1 h2 => h g h2 h1

end Go.Proofs.YtceofkjefmilfaaGreatDoor

/- Matrices as lists, row by row: made, written place by place, turned, put together; products; no program. Ahead of stage 10. -/
namespace Go.Proofs.YtceofkjefmilfaaGreatDoor
open Go.RowKit
theorem place_lt {r c i k : Nat} (hi : i < r) (hk : k < c) : i * c + k < r * c := by
  have h1 : (i + 1) * c ≤ r * c := Nat.mul_le_mul_right c hi
  rw [Nat.add_mul, Nat.one_mul] at h1
  omega
/-- The number of a place; a matrix turned; a part; one beside the other. -/
def elM (c : Nat) (S : List Nat) (i k : Nat) : Nat := S.getD (i * c + k) 0
end Go.Proofs.YtceofkjefmilfaaGreatDoor

