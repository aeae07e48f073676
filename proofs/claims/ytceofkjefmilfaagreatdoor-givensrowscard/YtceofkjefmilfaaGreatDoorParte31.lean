/- Part 31 of the texts. -/
import Derived.Test.YtceofkjefmilfaaGreatDoorParte29
import Derived.Test.YtceofkjefmilfaaGreatDoorParte30
import Derived.Test.YtceofkjefmilfaaGreatDoorParte15
import Derived.Deep.Cut
import Derived.BigQuiet
import Derived.Maps.Own
import Derived.Maps.OwnOps
import Derived.Maps.OwnSet
import Derived.DeepKeys4
/- A row of numbers in a block of the call's own, number by number overwritten (for ExactSums). -/
namespace Go.Proofs.YtceofkjefmilfaaGreatDoor
open Go.RowKit

theorem numCells_set : ∀ (S : List Nm) (k : Nat) (x : Nm), numCells (S.set k x) = ((numCells S).set (k * 2) (.bool x.neg)).set (k * 2 + 1) (.slice x.ao x.L.length x.cap)
  | [], k, x => by simp [numCells]
  | y :: S, 0, x => rfl
  | y :: S, k + 1, x => by
    have ih := numCells_set S k x
    have e : ∀ z T, numCells (z :: T) = .bool z.neg :: .slice z.ao z.L.length z.cap :: numCells T := fun _ _ => rfl
    rw [List.set_cons_succ, e, e, ih, show (k + 1) * 2 = k * 2 + 1 + 1 by omega]
    rfl

theorem numCells_isBS (S : List Nm) : ∀ (j : Nat) (v : Value), (numCells S)[j]? = some v → isBS v = true := by
  intro j v h
  have hm := List.mem_of_getElem? h
  unfold numCells at hm
  obtain ⟨x, _, hx⟩ := List.mem_flatMap.1 hm
  simp at hx
  rcases hx with rfl | rfl <;> rfl

/-- Block g holds just the numbers S. -/
def SumAt (w : World) (g : Nat) (S : List Nm) : Prop := w.heap[g]? = some (.cells (numCells S).toArray 50 (0, 0))

theorem SumAt.free {w : World} {g : Nat} {S : List Nm} (h : SumAt w g S) (j : Nat) : w.frozen? ⟨g, j, none⟩ = false := frozen_of_row w g j _ _ h
theorem SumAt.lt {w : World} {g : Nat} {S : List Nm} (h : SumAt w g S) : g < w.heap.size := (Array.getElem?_eq_some_iff.1 h).1
theorem SumAt.below {w w' : World} {g B : Nat} {S : List Nm} (h : SumAt w g S) (hb : Below B w w') (hg : g < B) : SumAt w' g S := (hb.block g hg).trans h
theorem SumAt.cells {w : World} {g : Nat} {S : List Nm} (h : SumAt w g S) {k : Nat} (hk : k < S.length) :
    w.cell? ⟨g, k * 2, none⟩ = some (.bool (nmAt S k).neg) ∧ w.cell? ⟨g, k * 2 + 1, none⟩ = some (.slice (nmAt S k).ao (nmAt S k).L.length (nmAt S k).cap) := by
  rw [cell_of_row w g _ _ _ _ h, cell_of_row w g _ _ _ _ h]
  simpa using numCells_get S k hk
theorem SumAt.set {w : World} {g : Nat} {S : List Nm} (h : SumAt w g S) (k : Nat) (x : Nm) : SumAt ((w.setCell ⟨g, k * 2, none⟩ (.bool x.neg)).setCell ⟨g, k * 2 + 1, none⟩ (.slice x.ao x.L.length x.cap)) g (S.set k x) := by
  unfold SumAt
  rw [heap_setCell_same _ g _ _ _ _ (heap_setCell_same w g _ _ _ _ h), numCells_set]
  simp
/-- Numbers stay: their limbs are no bools and no slices. -/
theorem LimbsAt.sum {w : World} {ao : Option Addr} {cap g : Nat} {L : List Nat} {S : List Nm} (h : LimbsAt w ao cap L) (ha : SumAt w g S) (i j : Nat) (u u' : Value) : LimbsAt ((w.setCell ⟨g, i, none⟩ u).setCell ⟨g, j, none⟩ u') ao cap L := by
  refine ⟨h.1, h.2.1, ?_⟩
  rcases h.2.2 with h0 | ⟨c, off, h1, h2, h3⟩
  · exact .inl h0
  · by_cases hL : L = []
    · exact .inl hL
    have hc : c ≠ g := by
      rintro rfl
      have h4 := h3 0 (List.length_pos_iff.2 hL)
      rw [cell_of_row w c _ _ _ _ ha] at h4
      have := numCells_isBS S (off + 0) _ (by simpa using h4)
      simp [isBS] at this
    refine .inr ⟨c, off, h1, by simpa [World.setCell] using h2, fun i' hi' => ?_⟩
    rw [cell_setCell_other _ _ _ _ (show c ≠ g from hc), cell_setCell_other _ _ _ _ (show c ≠ g from hc)]
    exact h3 i' hi'

/-- The number x, as it lies there, is z. -/
def IsNm (w : World) (x : Nm) (z : Int) : Prop := LimbsAt w x.ao x.cap x.L ∧ Canon x.L ∧ x.neg = decide (z < 0) ∧ val x.L = z.natAbs ∧ x.L.length ≤ 35184372088832
theorem IsNum.nm {B : Nat} {w : World} {v : Value} {z : Int} (h : IsNum B w v z) : ∃ x : Nm, v = .agg #[.bool x.neg, .slice x.ao x.L.length x.cap] ∧ IsNm w x z := by
  obtain ⟨neg, ao, cap, L, rfl, h2, _, h4, h5, h6, h7⟩ := h
  exact ⟨⟨neg, ao, cap, L⟩, rfl, h2, h4, h5, h6, h7⟩
theorem IsNm.below {w w' : World} {x : Nm} {z : Int} (h : IsNm w x z) (hb : Below w.heap.size w w') : IsNm w' x z := ⟨h.1.below hb, h.2⟩
theorem IsNm.sum {w : World} {x : Nm} {z : Int} {g : Nat} {S : List Nm} (h : IsNm w x z) (ha : SumAt w g S) (i j : Nat) (u u' : Value) : IsNm ((w.setCell ⟨g, i, none⟩ u).setCell ⟨g, j, none⟩ u') x z := ⟨h.1.sum ha i j u u', h.2⟩

/-- The numbers there are f's. -/
def SumI (w w' : World) (g n : Nat) (f : Nat → Int) (S : List Nm) : Prop :=
  S.length = n ∧ SumAt w' g S ∧ (∀ k, k < n → IsNm w' (nmAt S k) (f k)) ∧ w.heap.size ≤ g ∧ Below w.heap.size w w'
theorem SumI.below {w w' w2 : World} {g n : Nat} {f : Nat → Int} {S : List Nm} (h : SumI w w' g n f S) (hb : Below w'.heap.size w' w2) : SumI w w2 g n f S :=
  ⟨h.1, h.2.1.below hb h.2.1.lt, fun k hk => (h.2.2.1 k hk).below hb, h.2.2.2.1, h.2.2.2.2.trans (hb.mono h.2.2.2.2.size)⟩
theorem SumI.set {w w' : World} {g n : Nat} {f : Nat → Int} {S : List Nm} (h : SumI w w' g n f S) {k : Nat} (x : Nm) {z : Int} (hx : IsNm w' x z) :
    SumI w ((w'.setCell ⟨g, k * 2, none⟩ (.bool x.neg)).setCell ⟨g, k * 2 + 1, none⟩ (.slice x.ao x.L.length x.cap)) g n (fun q => if q = k then z else f q) (S.set k x) := by
  obtain ⟨h1, h2, h3, h4, h5⟩ := h
  refine ⟨by simpa using h1, h2.set k x, fun q hq => ?_, h4, (h5.setCell (p := ⟨g, k * 2, none⟩) h4 _).setCell (p := ⟨g, k * 2 + 1, none⟩) h4 _⟩
  show IsNm _ _ (if q = k then z else f q)
  by_cases e : q = k
  · subst e
    have e2 : nmAt (S.set q x) q = x := by unfold nmAt; rw [List.getElem?_set_self (by omega)]; rfl
    rw [if_pos rfl, e2]
    exact hx.sum h2 _ _ _ _
  · have e2 : nmAt (S.set k x) q = nmAt S q := by unfold nmAt; rw [List.getElem?_set_ne (fun h => e h.symm)]
    rw [if_neg e, e2]
    exact (h3 q hq).sum h2 _ _ _ _

/-- Out of the law on 'make'. -/
theorem SumAt.made {w : World} {base g n : Nat} (h : w.ownsRow base 50 2 (.slice (some ⟨g, 0, none⟩) n n) n (madeCells (Value.agg #[.bool false, .slice none 0 0]).cells (n * 2)).toList) : SumAt w g (List.replicate n Nm.nil) := by
  rcases h.2 with ⟨h', _⟩ | ⟨g', cap', cur, h', _, hg, _, _, hs, htake⟩
  · simp at h'
  · simp only [Value.slice.injEq, Option.some.injEq, Addr.mk.injEq, and_true, true_and] at h'
    obtain ⟨rfl, rfl⟩ := h'
    unfold SumAt
    rw [hg]
    rw [List.take_of_length_le (by simp [hs])] at htake
    have : cur = (numCells (List.replicate n Nm.nil)).toArray := by
      apply Array.toList_inj.1
      rw [htake]
      have hl : (numCells (List.replicate n Nm.nil)).length = n * 2 := by rw [length_numCells]; simp
      refine List.ext_getElem? fun i => ?_
      rcases Nat.lt_or_ge i (n * 2) with hi | hi
      · have hk : i / 2 < (List.replicate n Nm.nil).length := by simp; omega
        obtain ⟨q1, q2⟩ := numCells_get (List.replicate n Nm.nil) (i / 2) hk
        have e : nmAt (List.replicate n Nm.nil) (i / 2) = Nm.nil := by unfold nmAt; rw [List.getElem?_replicate]; split <;> rfl
        rw [e] at q1 q2
        rcases Nat.mod_two_eq_zero_or_one i with hm | hm
        · rw [show i / 2 * 2 = i by omega] at q1
          show _ = (numCells (List.replicate n Nm.nil))[i]?
          rw [q1]
          simp [madeCells, Value.cells, hm, hi, Nm.nil]
        · rw [show i / 2 * 2 + 1 = i by omega] at q2
          show _ = (numCells (List.replicate n Nm.nil))[i]?
          rw [q2]
          simp [madeCells, Value.cells, hm, hi, Nm.nil]
      · rw [List.getElem?_eq_none (by simpa [madeCells] using hi), List.getElem?_eq_none (by simpa [hl] using hi)]
    rw [this]
theorem SumI.made {w w' : World} {g n : Nat} (h : SumAt w' g (List.replicate n Nm.nil)) (hg : w.heap.size ≤ g) (hb : Below w.heap.size w w') : SumI w w' g n (fun _ => 0) (List.replicate n Nm.nil) := by
  refine ⟨by simp, h, fun k hk => ?_, hg, hb⟩
  have e : nmAt (List.replicate n Nm.nil) k = Nm.nil := by unfold nmAt; rw [List.getElem?_replicate]; split <;> rfl
  rw [e]
  exact ⟨⟨by simp [Nm.nil], by simp [Nm.nil], .inl rfl⟩, by simp [Nm.nil, Canon], by simp [Nm.nil], by simp [Nm.nil, val], by simp [Nm.nil]⟩
end Go.Proofs.YtceofkjefmilfaaGreatDoor

/- Rows of whole numbers that a call itself makes; grids of them. -/
namespace Go.Proofs.YtceofkjefmilfaaGreatDoor
open Go.RowKit

/-- v is a row of the call's own, of the first n numbers of f. -/
def OwnW (base : Nat) (w : World) (v : Value) (n : Nat) (f : Nat → Int) : Prop :=
  ∃ R : List Nm, R.length = n ∧ w.ownsRow base 50 2 v n (numCells R) ∧ Clear w v ∧ ∀ k, k < n → IsNm w (nmAt R k) (f k)
theorem OwnW.nil (base : Nat) (w : World) (f : Nat → Int) : OwnW base w (.slice none 0 0) 0 f :=
  ⟨[], rfl, World.ownsRow_nil w base 50 2, Clear.nil w 0 0, fun k hk => by omega⟩
theorem OwnW.below {base : Nat} {w w' : World} {v : Value} {n : Nat} {f : Nat → Int} (h : OwnW base w v n f) (hb : Below w.heap.size w w') : OwnW base w' v n f := by
  obtain ⟨D, h1, h2, h3, h4⟩ := h
  exact ⟨D, h1, h2.kept (row := none) ⟨hb.os, hb.tape, hb.output, hb.size, fun k hk _ => hb.block k hk⟩ (by cases hv : v.ownBlock <;> simp), h3.below hb, fun k hk => (h4 k hk).below hb⟩
theorem OwnW.lt {base : Nat} {w : World} {v : Value} {n : Nat} {f : Nat → Int} (h : OwnW base w v n f) : ∀ k, v.ownBlock = some k → base ≤ k ∧ k < w.heap.size := by
  obtain ⟨D, h1, h2, h3, h4⟩ := h
  exact h2.lt
theorem OwnW.clear {base : Nat} {w : World} {v : Value} {n : Nat} {f : Nat → Int} (h : OwnW base w v n f) : Clear w v := by
  obtain ⟨D, h1, h2, h3, h4⟩ := h
  exact h3
theorem OwnW.congr {base : Nat} {w : World} {v : Value} {n : Nat} {f g : Nat → Int} (h : OwnW base w v n f) (he : ∀ k, k < n → f k = g k) : OwnW base w v n g := by
  obtain ⟨D, h1, h2, h3, h4⟩ := h
  exact ⟨D, h1, h2, h3, fun k hk => by rw [← he k hk]; exact h4 k hk⟩
theorem OwnW.slice {base : Nat} {w : World} {v : Value} {n : Nat} {f : Nat → Int} (h : OwnW base w v n f) : ∃ po pc, v = .slice po n pc := by
  obtain ⟨D, h1, h2, h3, h4⟩ := h
  rcases h2.2 with ⟨e1, e2⟩ | ⟨g, cap, cur, hv, _⟩
  · exact ⟨_, _, by rw [e1, e2]⟩
  · exact ⟨_, _, hv⟩
theorem Clr.nm {w : World} {g : Nat} (h : Clr w g) {x : Nm} {z : Int} (hx : IsNm w x z) (j : Nat) (u : Value) : IsNm (w.setCell ⟨g, j, none⟩ u) x z := ⟨h.limbs hx.1 j u, hx.2⟩
/-- A store into a block that is elder. -/
theorem OwnW.set {base : Nat} {w : World} {v : Value} {n : Nat} {f : Nat → Int} (h : OwnW base w v n f) {g : Nat} (hc : Clr w g) (hg : g < base) (j : Nat) (u : Value) : OwnW base (w.setCell ⟨g, j, none⟩ u) v n f := by
  obtain ⟨D, h1, h2, h3, h4⟩ := h
  have hne : ∀ k, v.ownBlock = some k → k ≠ g := fun k hk => by have := (h2.lt k hk).1; omega
  refine ⟨D, h1, ⟨h2.1, ?_⟩, ?_, fun k hk => hc.nm (h4 k hk) j u⟩
  · rcases h2.2 with e | ⟨k, cap, cur, hv, hk, hh, rest⟩
    · exact .inl e
    · exact .inr ⟨k, cap, cur, hv, hk, (Below.heap_setCell w ⟨g, j, none⟩ u k (hne k (by rw [hv]; rfl))).trans hh, rest⟩
  · intro k hk
    obtain ⟨cur, e, g1, g2⟩ := h3 k hk
    exact ⟨cur, e, (Below.heap_setCell w ⟨g, j, none⟩ u k (hne k hk)).trans g1, g2⟩
/-- n whole numbers lie at ao. -/
def WhsAt (w : World) (ao : Option Addr) (cap n : Nat) (f : Nat → Int) : Prop :=
  n ≤ cap ∧ (n = 0 ∨ ∃ b off, ao = some ⟨b, off, none⟩ ∧ b < w.heap.size ∧ ∀ k, k < n → ∃ ng a l cp, w.cell? ⟨b, off + k * 2, none⟩ = some (.bool ng) ∧ w.cell? ⟨b, off + k * 2 + 1, none⟩ = some (.slice a l cp) ∧ IsNum 0 w (.agg #[.bool ng, .slice a l cp]) (f k))
theorem WhsAt.below {w w' : World} {ao : Option Addr} {cap n : Nat} {f : Nat → Int} (h : WhsAt w ao cap n f) (hb : Below w.heap.size w w') : WhsAt w' ao cap n f := by
  refine ⟨h.1, ?_⟩
  rcases h.2 with e | ⟨b, off, h1, h2, h3⟩
  · exact .inl e
  · refine .inr ⟨b, off, h1, Nat.lt_of_lt_of_le h2 hb.size, fun k hk => ?_⟩
    obtain ⟨ng, a, l, cp, c0, c1, hx⟩ := h3 k hk
    refine ⟨ng, a, l, cp, ?_, ?_, hx.below hb⟩
    · rw [hb.cell (p := ⟨b, off + k * 2, none⟩) h2]; exact c0
    · rw [hb.cell (p := ⟨b, off + k * 2 + 1, none⟩) h2]; exact c1
/-- Such a row as exact's rows have it. -/
theorem OwnW.rw {base : Nat} {w : World} {v : Value} {n : Nat} {f : Nat → Int} (h : OwnW base w v n f) : ∃ r : Rw, v = r.v ∧ r.R.length = n ∧ NumsAt w r.ao r.cap r.R ∧ ∀ k, k < n → IsNm w (nmAt r.R k) (f k) := by
  obtain ⟨D, h1, h2, h3, h4⟩ := h
  have hl : ∀ x ∈ D, LimbsAt w x.ao x.cap x.L := fun x hx => by
    obtain ⟨j, hj, rfl⟩ := List.getElem_of_mem hx
    have := (h4 j (by omega)).1
    unfold nmAt at this
    rwa [List.getElem?_eq_getElem hj] at this
  rcases h2.2 with ⟨hv, h0⟩ | ⟨g, cap, cur, hv, hg, hh, hc, hm, hs, ht⟩
  · have e : D = [] := List.length_eq_zero_iff.1 (by omega)
    exact ⟨⟨none, 0, D⟩, by rw [hv]; unfold Rw.v; rw [e]; rfl, h1, ⟨by rw [e]; simp, hl, .inl e⟩, h4⟩
  · refine ⟨⟨some ⟨g, 0, none⟩, cap, D⟩, by rw [hv]; unfold Rw.v; rw [h1], h1, ⟨by rw [h1]; exact hc, hl, .inr ⟨g, 0, rfl, (Array.getElem?_eq_some_iff.1 hh).1, fun k hk => ?_⟩⟩, h4⟩
    have hk' : k < D.length := hk
    obtain ⟨q0, q1⟩ := numCells_get D k hk'
    rw [← ht, List.getElem?_take, if_pos (by omega), Array.getElem?_toList] at q0 q1
    rw [cell_of_row w g _ _ _ _ hh, cell_of_row w g _ _ _ _ hh, Nat.zero_add]
    exact ⟨q0, q1⟩

/-- A grid of whole numbers. -/
def GrW (w : World) (ao : Option Addr) (cap r c : Nat) (F : Nat → Nat → Int) : Prop := WhsAt w ao cap (r * c) (fun p => F (p / c) (p % c)) ∧ r ≤ 6 ∧ c ≤ 6
theorem GrW.below {w w' : World} {ao : Option Addr} {cap r c : Nat} {F : Nat → Nat → Int} (h : GrW w ao cap r c F) (hb : Below w.heap.size w w') : GrW w' ao cap r c F := ⟨h.1.below hb, h.2⟩
end Go.Proofs.YtceofkjefmilfaaGreatDoor

/- The ledger's map: whatever it holds is right. -/
namespace Go.Proofs.YtceofkjefmilfaaGreatDoor
open Go.RowKit
open Go.Maps

/-- Rows and columns, as a key. -/
def pkey (r c : Nat) : Value := .agg #[.int .u64 (r : Int), .int .u64 (c : Int)]

/-- Block m is a map whose entries all are G's numbers. -/
def LedAt (w : World) (m : Nat) (G : Nat → Nat → Int) : Prop :=
  ∃ es clock, w.heap[m]? = some (.map es clock) ∧ ∀ e ∈ es.toList, ∃ r c, r < 64 ∧ c < 64 ∧ e.key = pkey r c ∧ IsNum 0 w e.val (G r c)

theorem LedAt.lt {w : World} {m : Nat} {G : Nat → Nat → Int} (h : LedAt w m G) : m < w.heap.size := by
  obtain ⟨es, clock, h1, _⟩ := h
  exact (Array.getElem?_eq_some_iff.1 h1).1
theorem LedAt.below {w w' : World} {m : Nat} {G : Nat → Nat → Int} (h : LedAt w m G) (hb : Below w.heap.size w w') : LedAt w' m G := by
  have hlt := h.lt
  obtain ⟨es, clock, h1, h2⟩ := h
  refine ⟨es, clock, (hb.block m hlt).trans h1, fun e he => ?_⟩
  obtain ⟨r, c, a1, a2, a3, a4⟩ := h2 e he
  exact ⟨r, c, a1, a2, a3, a4.below hb⟩
theorem LedAt.made (w : World) (G : Nat → Nat → Int) : LedAt (w.alloc (.map #[] 0)) w.heap.size G :=
  ⟨#[], 0, (MapKept.heap_alloc w _).1, by simp⟩

end Go.Proofs.YtceofkjefmilfaaGreatDoor

/- Contract of the closure in ledger.minor. -/
namespace Go.Proofs.YtceofkjefmilfaaGreatDoor
open Go.RowKit
attribute [local go_sem ↓] Go.wp_at_zero Go.wp_at_succ

/-- Block b holds these cells. -/
def CellsAt (w : World) (b : Nat) (cs : Array Value) (t : TypeId) : Prop := w.heap[b]? = some (.cells cs t (0, 0))
theorem CellsAt.cell {w : World} {b : Nat} {cs : Array Value} {t : TypeId} (h : CellsAt w b cs t) (j : Nat) : w.cell? ⟨b, j, none⟩ = cs[j]? := cell_of_row w b j _ _ _ h
theorem CellsAt.free {w : World} {b : Nat} {cs : Array Value} {t : TypeId} (h : CellsAt w b cs t) (j : Nat) : w.frozen? ⟨b, j, none⟩ = false := frozen_of_row w b j _ _ h
theorem CellsAt.lt {w : World} {b : Nat} {cs : Array Value} {t : TypeId} (h : CellsAt w b cs t) : b < w.heap.size := (Array.getElem?_eq_some_iff.1 h).1
theorem CellsAt.below {w w' : World} {b : Nat} {cs : Array Value} {t : TypeId} (h : CellsAt w b cs t) (hb : Below w.heap.size w w') : CellsAt w' b cs t := (hb.block b h.lt).trans h
theorem CellsAt.new (w : World) (cs : Array Value) (t : TypeId) : CellsAt (w.alloc (.cells cs t)) w.heap.size cs t := heap_alloc_new w _
end Go.Proofs.YtceofkjefmilfaaGreatDoor

/- Contract of ledger.minor. -/
namespace Go.Proofs.YtceofkjefmilfaaGreatDoor
open Go.RowKit
attribute [local go_sem ↓] Go.wp_at_zero Go.wp_at_succ

/-- The minor of a set of rows and a set of columns. -/
def GM (M : List Rw) (r c : Nat) : Int := detD ((elems r).map (valM M)) (elems c)
/-- What lay there at first lies there; what the map holds is right. -/
def LInv (w0 : World) (m : Nat) (M : List Rw) (w : World) : Prop := Below w0.heap.size w0 w ∧ LedAt w m (GM M)

theorem LInv.below {w0 w w' : World} {m : Nat} {M : List Rw} (h : LInv w0 m M w) (hb : Below w.heap.size w w') : LInv w0 m M w' := ⟨h.1.trans (hb.mono h.1.size), h.2.below hb⟩
end Go.Proofs.YtceofkjefmilfaaGreatDoor

