/- Part 35 of the texts. -/
import Derived.Test.YtceofkjefmilfaaGreatDoorPartc32
import Derived.Test.YtceofkjefmilfaaGreatDoorPartc18
import Derived.Test.YtceofkjefmilfaaGreatDoorPartc19
import Derived.Deep.Cut
import Derived.BigQuiet
import Derived.Test.YtceofkjefmilfaaGreatDoorPartc33
import Derived.Test.YtceofkjefmilfaaGreatDoorPartc34
import Derived.Maps.Own
import Derived.Maps.OwnOps
import Derived.Maps.OwnSet
import Derived.DeepKeys4
/- Rows of whole numbers that a call itself makes; grids of them. -/
namespace Go.Proofs.YtceofkjefmilfaaGreatDoor
open Go.RowKit

/-- v is a row of the call's own, of the first n numbers of f. -/
def OwnW (base : Nat) (w : World) (v : Value) (n : Nat) (f : Nat → Int) : Prop :=
  ∃ R : List Nm, R.length = n ∧ w.ownsRow base 50 2 v n (numCells R) ∧ Clear w v ∧ ∀ k, k < n → IsNm w (nmAt R k) (f k)
theorem OwnW.nil (base : Nat) (w : World) (f : Nat → Int) : OwnW base w (.slice none 0 0) 0 f :=
  ⟨[], rfl, World.ownsRow_nil w base 50 2, Clear.nil w 0 0, fun k hk => by omega⟩
theorem OwnW.below {base : Nat} {w w' : World} {v : Value} {n : Nat} {f : Nat → Int} (h : OwnW base w v n f) (hb : Below w.heap.size w w') : OwnW base w' v n f := by
  obtain ⟨D, h1, h2, h3, h4⟩ := h
  exact ⟨D, h1, h2.kept (row := none) ⟨hb.os, hb.tape, hb.output, hb.size, fun k hk _ => hb.block k hk⟩ (by cases hv : v.ownBlock <;> simp), h3.below hb, fun k hk => (h4 k hk).below hb⟩
theorem OwnW.lt {base : Nat} {w : World} {v : Value} {n : Nat} {f : Nat → Int} (h : OwnW base w v n f) : ∀ k, v.ownBlock = some k → base ≤ k ∧ k < w.heap.size := by
  obtain ⟨D, h1, h2, h3, h4⟩ := h
  exact h2.lt
theorem OwnW.clear {base : Nat} {w : World} {v : Value} {n : Nat} {f : Nat → Int} (h : OwnW base w v n f) : Clear w v := by
  obtain ⟨D, h1, h2, h3, h4⟩ := h
  exact h3
theorem OwnW.congr {base : Nat} {w : World} {v : Value} {n : Nat} {f g : Nat → Int} (h : OwnW base w v n f) (he : ∀ k, k < n → f k = g k) : OwnW base w v n g := by
  obtain ⟨D, h1, h2, h3, h4⟩ := h
  exact ⟨D, h1, h2, h3, fun k hk => by rw [← he k hk]; exact h4 k hk⟩
theorem OwnW.slice {base : Nat} {w : World} {v : Value} {n : Nat} {f : Nat → Int} (h : OwnW base w v n f) : ∃ po pc, v = .slice po n pc := by
  obtain ⟨D, h1, h2, h3, h4⟩ := h
  rcases h2.2 with ⟨e1, e2⟩ | ⟨g, cap, cur, hv, _⟩
  · exact ⟨_, _, by rw [e1, e2]⟩
  · exact ⟨_, _, hv⟩
theorem Clr.nm {w : World} {g : Nat} (h : Clr w g) {x : Nm} {z : Int} (hx : IsNm w x z) (j : Nat) (u : Value) : IsNm (w.setCell ⟨g, j, none⟩ u) x z := ⟨h.limbs hx.1 j u, hx.2⟩
/-- A store into a block that is elder. -/
theorem OwnW.set {base : Nat} {w : World} {v : Value} {n : Nat} {f : Nat → Int} (h : OwnW base w v n f) {g : Nat} (hc : Clr w g) (hg : g < base) (j : Nat) (u : Value) : OwnW base (w.setCell ⟨g, j, none⟩ u) v n f := by
  obtain ⟨D, h1, h2, h3, h4⟩ := h
  have hne : ∀ k, v.ownBlock = some k → k ≠ g := fun k hk => by have := (h2.lt k hk).1; omega
  refine ⟨D, h1, ⟨h2.1, ?_⟩, ?_, fun k hk => hc.nm (h4 k hk) j u⟩
  · rcases h2.2 with e | ⟨k, cap, cur, hv, hk, hh, rest⟩
    · exact .inl e
    · exact .inr ⟨k, cap, cur, hv, hk, (Below.heap_setCell w ⟨g, j, none⟩ u k (hne k (by rw [hv]; rfl))).trans hh, rest⟩
  · intro k hk
    obtain ⟨cur, e, g1, g2⟩ := h3 k hk
    exact ⟨cur, e, (Below.heap_setCell w ⟨g, j, none⟩ u k (hne k hk)).trans g1, g2⟩
/-- n whole numbers lie at ao. -/
def WhsAt (w : World) (ao : Option Addr) (cap n : Nat) (f : Nat → Int) : Prop :=
  n ≤ cap ∧ (n = 0 ∨ ∃ b off, ao = some ⟨b, off, none⟩ ∧ b < w.heap.size ∧ ∀ k, k < n → ∃ ng a l cp, w.cell? ⟨b, off + k * 2, none⟩ = some (.bool ng) ∧ w.cell? ⟨b, off + k * 2 + 1, none⟩ = some (.slice a l cp) ∧ IsNum 0 w (.agg #[.bool ng, .slice a l cp]) (f k))
theorem WhsAt.below {w w' : World} {ao : Option Addr} {cap n : Nat} {f : Nat → Int} (h : WhsAt w ao cap n f) (hb : Below w.heap.size w w') : WhsAt w' ao cap n f := by
  refine ⟨h.1, ?_⟩
  rcases h.2 with e | ⟨b, off, h1, h2, h3⟩
  · exact .inl e
  · refine .inr ⟨b, off, h1, Nat.lt_of_lt_of_le h2 hb.size, fun k hk => ?_⟩
    obtain ⟨ng, a, l, cp, c0, c1, hx⟩ := h3 k hk
    refine ⟨ng, a, l, cp, ?_, ?_, hx.below hb⟩
    · rw [hb.cell (p := ⟨b, off + k * 2, none⟩) h2]; exact c0
    · rw [hb.cell (p := ⟨b, off + k * 2 + 1, none⟩) h2]; exact c1
/-- Such a row as exact's rows have it. -/
theorem OwnW.rw {base : Nat} {w : World} {v : Value} {n : Nat} {f : Nat → Int} (h : OwnW base w v n f) : ∃ r : Rw, v = r.v ∧ r.R.length = n ∧ NumsAt w r.ao r.cap r.R ∧ ∀ k, k < n → IsNm w (nmAt r.R k) (f k) := by
  obtain ⟨D, h1, h2, h3, h4⟩ := h
  have hl : ∀ x ∈ D, LimbsAt w x.ao x.cap x.L := fun x hx => by
    obtain ⟨j, hj, rfl⟩ := List.getElem_of_mem hx
    have := (h4 j (by omega)).1
    unfold nmAt at this
    rwa [List.getElem?_eq_getElem hj] at this
  rcases h2.2 with ⟨hv, h0⟩ | ⟨g, cap, cur, hv, hg, hh, hc, hm, hs, ht⟩
  · have e : D = [] := List.length_eq_zero_iff.1 (by omega)
    exact ⟨⟨none, 0, D⟩, by rw [hv]; unfold Rw.v; rw [e]; rfl, h1, ⟨by rw [e]; simp, hl, .inl e⟩, h4⟩
  · refine ⟨⟨some ⟨g, 0, none⟩, cap, D⟩, by rw [hv]; unfold Rw.v; rw [h1], h1, ⟨by rw [h1]; exact hc, hl, .inr ⟨g, 0, rfl, (Array.getElem?_eq_some_iff.1 hh).1, fun k hk => ?_⟩⟩, h4⟩
    have hk' : k < D.length := hk
    obtain ⟨q0, q1⟩ := numCells_get D k hk'
    rw [← ht, List.getElem?_take, if_pos (by omega), Array.getElem?_toList] at q0 q1
    rw [cell_of_row w g _ _ _ _ hh, cell_of_row w g _ _ _ _ hh, Nat.zero_add]
    exact ⟨q0, q1⟩

/-- A grid of whole numbers. -/
def GrW (w : World) (ao : Option Addr) (cap r c : Nat) (F : Nat → Nat → Int) : Prop := WhsAt w ao cap (r * c) (fun p => F (p / c) (p % c)) ∧ r ≤ 6 ∧ c ≤ 6
theorem GrW.below {w w' : World} {ao : Option Addr} {cap r c : Nat} {F : Nat → Nat → Int} (h : GrW w ao cap r c F) (hb : Below w.heap.size w w') : GrW w' ao cap r c F := ⟨h.1.below hb, h.2⟩
end Go.Proofs.YtceofkjefmilfaaGreatDoor

/- The ledger's map: whatever it holds is right. -/
namespace Go.Proofs.YtceofkjefmilfaaGreatDoor
open Go.RowKit
open Go.Maps

/-- Rows and columns, as a key. -/
def pkey (r c : Nat) : Value := .agg #[.int .u64 (r : Int), .int .u64 (c : Int)]

/-- Block m is a map whose entries all are G's numbers. -/
def LedAt (w : World) (m : Nat) (G : Nat → Nat → Int) : Prop :=
  ∃ es clock, w.heap[m]? = some (.map es clock) ∧ ∀ e ∈ es.toList, ∃ r c, r < 64 ∧ c < 64 ∧ e.key = pkey r c ∧ IsNum 0 w e.val (G r c)

theorem LedAt.lt {w : World} {m : Nat} {G : Nat → Nat → Int} (h : LedAt w m G) : m < w.heap.size := by
  obtain ⟨es, clock, h1, _⟩ := h
  exact (Array.getElem?_eq_some_iff.1 h1).1
theorem LedAt.below {w w' : World} {m : Nat} {G : Nat → Nat → Int} (h : LedAt w m G) (hb : Below w.heap.size w w') : LedAt w' m G := by
  have hlt := h.lt
  obtain ⟨es, clock, h1, h2⟩ := h
  refine ⟨es, clock, (hb.block m hlt).trans h1, fun e he => ?_⟩
  obtain ⟨r, c, a1, a2, a3, a4⟩ := h2 e he
  exact ⟨r, c, a1, a2, a3, a4.below hb⟩
end Go.Proofs.YtceofkjefmilfaaGreatDoor

/- Contract of the closure in ledger.minor. -/
namespace Go.Proofs.YtceofkjefmilfaaGreatDoor
open Go.RowKit
attribute [local go_sem ↓] Go.wp_at_zero Go.wp_at_succ

/-- Block b holds these cells. -/
def CellsAt (w : World) (b : Nat) (cs : Array Value) (t : TypeId) : Prop := w.heap[b]? = some (.cells cs t (0, 0))
theorem CellsAt.cell {w : World} {b : Nat} {cs : Array Value} {t : TypeId} (h : CellsAt w b cs t) (j : Nat) : w.cell? ⟨b, j, none⟩ = cs[j]? := cell_of_row w b j _ _ _ h
theorem CellsAt.free {w : World} {b : Nat} {cs : Array Value} {t : TypeId} (h : CellsAt w b cs t) (j : Nat) : w.frozen? ⟨b, j, none⟩ = false := frozen_of_row w b j _ _ h
theorem CellsAt.lt {w : World} {b : Nat} {cs : Array Value} {t : TypeId} (h : CellsAt w b cs t) : b < w.heap.size := (Array.getElem?_eq_some_iff.1 h).1
theorem CellsAt.below {w w' : World} {b : Nat} {cs : Array Value} {t : TypeId} (h : CellsAt w b cs t) (hb : Below w.heap.size w w') : CellsAt w' b cs t := (hb.block b h.lt).trans h
theorem CellsAt.new (w : World) (cs : Array Value) (t : TypeId) : CellsAt (w.alloc (.cells cs t)) w.heap.size cs t := heap_alloc_new w _
end Go.Proofs.YtceofkjefmilfaaGreatDoor

/- Contract of ledger.minor. -/
namespace Go.Proofs.YtceofkjefmilfaaGreatDoor
open Go.RowKit
attribute [local go_sem ↓] Go.wp_at_zero Go.wp_at_succ

/-- The minor of a set of rows and a set of columns. -/
def GM (M : List Rw) (r c : Nat) : Int := detD ((elems r).map (valM M)) (elems c)
/-- What lay there at first lies there; what the map holds is right. -/
def LInv (w0 : World) (m : Nat) (M : List Rw) (w : World) : Prop := Below w0.heap.size w0 w ∧ LedAt w m (GM M)

theorem LInv.below {w0 w w' : World} {m : Nat} {M : List Rw} (h : LInv w0 m M w) (hb : Below w.heap.size w w') : LInv w0 m M w' := ⟨h.1.trans (hb.mono h.1.size), h.2.below hb⟩
end Go.Proofs.YtceofkjefmilfaaGreatDoor

/- Contract of ledger.widened. -/
namespace Go.Proofs.YtceofkjefmilfaaGreatDoor
open Go.RowKit
attribute [local go_sem ↓] Go.wp_at_zero Go.wp_at_succ
theorem CellsAt.put {w : World} {g : Nat} {x y : Value} {t : TypeId} (h : CellsAt w g #[x, y] t) (u u' : Value) : CellsAt ((w.setCell ⟨g, 0, none⟩ u).setCell ⟨g, 1, none⟩ u') g #[u, u'] t := by
  unfold CellsAt
  rw [heap_setCell_same _ g 1 _ _ _ (heap_setCell_same w g 0 _ _ _ h)]
  rfl
theorem CellsAt.other {w : World} {b g : Nat} {cs : Array Value} {t : TypeId} (h : CellsAt w b cs t) (hne : b ≠ g) (i j : Nat) (u u' : Value) : CellsAt ((w.setCell ⟨g, i, none⟩ u).setCell ⟨g, j, none⟩ u') b cs t := by
  unfold CellsAt
  rw [Below.heap_setCell _ _ _ _ (show b ≠ (⟨g, j, none⟩ : Addr).block from hne), Below.heap_setCell _ _ _ _ (show b ≠ (⟨g, i, none⟩ : Addr).block from hne)]
  exact h

end Go.Proofs.YtceofkjefmilfaaGreatDoor

