/- Part 31 of the texts. -/
import Derived.Test.YtfnnbkclnflpfaaGreatDoorPartK30
import Derived.Test.YtfnnbkclnflpfaaGreatDoorPartK29
import Derived.Test.YtfnnbkclnflpfaaGreatDoorPartK26
import Derived.Test.YtfnnbkclnflpfaaGreatDoorPartK25
/- Contract of exact's determinant. -/
namespace Go.Proofs.YtfnnbkclnflpfaaGreatDoor
open Go.RowKit
attribute [local go_sem ↓] Go.wp_at_zero Go.wp_at_succ

/-- A bool or a slice. -/
def isBS : Value → Bool
  | .bool _ => true
  | .slice _ _ _ => true
  | _ => false

/-- What rows say. -/
def valM (M : List Rw) (i j : Nat) : Int := sval (entry M i j).neg (entry M i j).L
/-- Rows that Check lets through. -/
def GoodM (M : List Rw) (n : Nat) : Prop := M.length ≤ 6 ∧ n ≤ 6 ∧ (∀ i, i < M.length → (rwAt M i).R.length = n) ∧ (∀ i j, i < M.length → j < n → rightN (entry M i j) = true ∧ (valM M i j).natAbs ≤ B80)

end Go.Proofs.YtfnnbkclnflpfaaGreatDoor

/- A row of numbers in a block of the call's own, number by number overwritten (for ExactSums). -/
namespace Go.Proofs.YtfnnbkclnflpfaaGreatDoor
open Go.RowKit

theorem numCells_set : ∀ (S : List Nm) (k : Nat) (x : Nm), numCells (S.set k x) = ((numCells S).set (k * 2) (.bool x.neg)).set (k * 2 + 1) (.slice x.ao x.L.length x.cap)
  | [], k, x => by simp [numCells]
  | y :: S, 0, x => rfl
  | y :: S, k + 1, x => by
    have ih := numCells_set S k x
    have e : ∀ z T, numCells (z :: T) = .bool z.neg :: .slice z.ao z.L.length z.cap :: numCells T := fun _ _ => rfl
    rw [List.set_cons_succ, e, e, ih, show (k + 1) * 2 = k * 2 + 1 + 1 by omega]
    rfl

theorem numCells_isBS (S : List Nm) : ∀ (j : Nat) (v : Value), (numCells S)[j]? = some v → isBS v = true := by
  intro j v h
  have hm := List.mem_of_getElem? h
  unfold numCells at hm
  obtain ⟨x, _, hx⟩ := List.mem_flatMap.1 hm
  simp at hx
  rcases hx with rfl | rfl <;> rfl

/-- Block g holds just the numbers S. -/
def SumAt (w : World) (g : Nat) (S : List Nm) : Prop := w.heap[g]? = some (.cells (numCells S).toArray 27 (0, 0))

theorem SumAt.free {w : World} {g : Nat} {S : List Nm} (h : SumAt w g S) (j : Nat) : w.frozen? ⟨g, j, none⟩ = false := frozen_of_row w g j _ _ h
theorem SumAt.lt {w : World} {g : Nat} {S : List Nm} (h : SumAt w g S) : g < w.heap.size := (Array.getElem?_eq_some_iff.1 h).1
theorem SumAt.below {w w' : World} {g B : Nat} {S : List Nm} (h : SumAt w g S) (hb : Below B w w') (hg : g < B) : SumAt w' g S := (hb.block g hg).trans h
theorem SumAt.cells {w : World} {g : Nat} {S : List Nm} (h : SumAt w g S) {k : Nat} (hk : k < S.length) :
    w.cell? ⟨g, k * 2, none⟩ = some (.bool (nmAt S k).neg) ∧ w.cell? ⟨g, k * 2 + 1, none⟩ = some (.slice (nmAt S k).ao (nmAt S k).L.length (nmAt S k).cap) := by
  rw [cell_of_row w g _ _ _ _ h, cell_of_row w g _ _ _ _ h]
  simpa using numCells_get S k hk
theorem SumAt.set {w : World} {g : Nat} {S : List Nm} (h : SumAt w g S) (k : Nat) (x : Nm) : SumAt ((w.setCell ⟨g, k * 2, none⟩ (.bool x.neg)).setCell ⟨g, k * 2 + 1, none⟩ (.slice x.ao x.L.length x.cap)) g (S.set k x) := by
  unfold SumAt
  rw [heap_setCell_same _ g _ _ _ _ (heap_setCell_same w g _ _ _ _ h), numCells_set]
  simp
/-- Numbers stay: their limbs are no bools and no slices. -/
theorem LimbsAt.sum {w : World} {ao : Option Addr} {cap g : Nat} {L : List Nat} {S : List Nm} (h : LimbsAt w ao cap L) (ha : SumAt w g S) (i j : Nat) (u u' : Value) : LimbsAt ((w.setCell ⟨g, i, none⟩ u).setCell ⟨g, j, none⟩ u') ao cap L := by
  refine ⟨h.1, h.2.1, ?_⟩
  rcases h.2.2 with h0 | ⟨c, off, h1, h2, h3⟩
  · exact .inl h0
  · by_cases hL : L = []
    · exact .inl hL
    have hc : c ≠ g := by
      rintro rfl
      have h4 := h3 0 (List.length_pos_iff.2 hL)
      rw [cell_of_row w c _ _ _ _ ha] at h4
      have := numCells_isBS S (off + 0) _ (by simpa using h4)
      simp [isBS] at this
    refine .inr ⟨c, off, h1, by simpa [World.setCell] using h2, fun i' hi' => ?_⟩
    rw [cell_setCell_other _ _ _ _ (show c ≠ g from hc), cell_setCell_other _ _ _ _ (show c ≠ g from hc)]
    exact h3 i' hi'

/-- The number x, as it lies there, is z. -/
def IsNm (w : World) (x : Nm) (z : Int) : Prop := LimbsAt w x.ao x.cap x.L ∧ Canon x.L ∧ x.neg = decide (z < 0) ∧ val x.L = z.natAbs ∧ x.L.length ≤ 35184372088832
theorem IsNm.num {w : World} {x : Nm} {z : Int} (h : IsNm w x z) : IsNum 0 w x.v z := by
  refine ⟨x.neg, x.ao, x.cap, x.L, rfl, h.1, ?_, h.2.1, h.2.2.1, h.2.2.2.1, h.2.2.2.2⟩
  rcases h.1.2.2 with e | ⟨b, off, e, _⟩
  · exact .inl e
  · exact .inr ⟨b, off, e, Nat.zero_le _⟩
theorem IsNum.nm {B : Nat} {w : World} {v : Value} {z : Int} (h : IsNum B w v z) : ∃ x : Nm, v = .agg #[.bool x.neg, .slice x.ao x.L.length x.cap] ∧ IsNm w x z := by
  obtain ⟨neg, ao, cap, L, rfl, h2, _, h4, h5, h6, h7⟩ := h
  exact ⟨⟨neg, ao, cap, L⟩, rfl, h2, h4, h5, h6, h7⟩
theorem IsNm.below {w w' : World} {x : Nm} {z : Int} (h : IsNm w x z) (hb : Below w.heap.size w w') : IsNm w' x z := ⟨h.1.below hb, h.2⟩
theorem IsNm.sum {w : World} {x : Nm} {z : Int} {g : Nat} {S : List Nm} (h : IsNm w x z) (ha : SumAt w g S) (i j : Nat) (u u' : Value) : IsNm ((w.setCell ⟨g, i, none⟩ u).setCell ⟨g, j, none⟩ u') x z := ⟨h.1.sum ha i j u u', h.2⟩

/-- The numbers there are f's. -/
def SumI (w w' : World) (g n : Nat) (f : Nat → Int) (S : List Nm) : Prop :=
  S.length = n ∧ SumAt w' g S ∧ (∀ k, k < n → IsNm w' (nmAt S k) (f k)) ∧ w.heap.size ≤ g ∧ Below w.heap.size w w'
theorem SumI.below {w w' w2 : World} {g n : Nat} {f : Nat → Int} {S : List Nm} (h : SumI w w' g n f S) (hb : Below w'.heap.size w' w2) : SumI w w2 g n f S :=
  ⟨h.1, h.2.1.below hb h.2.1.lt, fun k hk => (h.2.2.1 k hk).below hb, h.2.2.2.1, h.2.2.2.2.trans (hb.mono h.2.2.2.2.size)⟩
theorem SumI.set {w w' : World} {g n : Nat} {f : Nat → Int} {S : List Nm} (h : SumI w w' g n f S) {k : Nat} (x : Nm) {z : Int} (hx : IsNm w' x z) :
    SumI w ((w'.setCell ⟨g, k * 2, none⟩ (.bool x.neg)).setCell ⟨g, k * 2 + 1, none⟩ (.slice x.ao x.L.length x.cap)) g n (fun q => if q = k then z else f q) (S.set k x) := by
  obtain ⟨h1, h2, h3, h4, h5⟩ := h
  refine ⟨by simpa using h1, h2.set k x, fun q hq => ?_, h4, (h5.setCell (p := ⟨g, k * 2, none⟩) h4 _).setCell (p := ⟨g, k * 2 + 1, none⟩) h4 _⟩
  show IsNm _ _ (if q = k then z else f q)
  by_cases e : q = k
  · subst e
    have e2 : nmAt (S.set q x) q = x := by unfold nmAt; rw [List.getElem?_set_self (by omega)]; rfl
    rw [if_pos rfl, e2]
    exact hx.sum h2 _ _ _ _
  · have e2 : nmAt (S.set k x) q = nmAt S q := by unfold nmAt; rw [List.getElem?_set_ne (fun h => e h.symm)]
    rw [if_neg e, e2]
    exact (h3 q hq).sum h2 _ _ _ _

/-- Out of the law on 'make'. -/
theorem SumAt.made {w : World} {base g n : Nat} (h : w.ownsRow base 27 2 (.slice (some ⟨g, 0, none⟩) n n) n (madeCells (Value.agg #[.bool false, .slice none 0 0]).cells (n * 2)).toList) : SumAt w g (List.replicate n Nm.nil) := by
  rcases h.2 with ⟨h', _⟩ | ⟨g', cap', cur, h', _, hg, _, _, hs, htake⟩
  · simp at h'
  · simp only [Value.slice.injEq, Option.some.injEq, Addr.mk.injEq, and_true, true_and] at h'
    obtain ⟨rfl, rfl⟩ := h'
    unfold SumAt
    rw [hg]
    rw [List.take_of_length_le (by simp [hs])] at htake
    have : cur = (numCells (List.replicate n Nm.nil)).toArray := by
      apply Array.toList_inj.1
      rw [htake]
      have hl : (numCells (List.replicate n Nm.nil)).length = n * 2 := by rw [length_numCells]; simp
      refine List.ext_getElem? fun i => ?_
      rcases Nat.lt_or_ge i (n * 2) with hi | hi
      · have hk : i / 2 < (List.replicate n Nm.nil).length := by simp; omega
        obtain ⟨q1, q2⟩ := numCells_get (List.replicate n Nm.nil) (i / 2) hk
        have e : nmAt (List.replicate n Nm.nil) (i / 2) = Nm.nil := by unfold nmAt; rw [List.getElem?_replicate]; split <;> rfl
        rw [e] at q1 q2
        rcases Nat.mod_two_eq_zero_or_one i with hm | hm
        · rw [show i / 2 * 2 = i by omega] at q1
          show _ = (numCells (List.replicate n Nm.nil))[i]?
          rw [q1]
          simp [madeCells, Value.cells, hm, hi, Nm.nil]
        · rw [show i / 2 * 2 + 1 = i by omega] at q2
          show _ = (numCells (List.replicate n Nm.nil))[i]?
          rw [q2]
          simp [madeCells, Value.cells, hm, hi, Nm.nil]
      · rw [List.getElem?_eq_none (by simpa [madeCells] using hi), List.getElem?_eq_none (by simpa [hl] using hi)]
    rw [this]
theorem SumI.made {w w' : World} {g n : Nat} (h : SumAt w' g (List.replicate n Nm.nil)) (hg : w.heap.size ≤ g) (hb : Below w.heap.size w w') : SumI w w' g n (fun _ => 0) (List.replicate n Nm.nil) := by
  refine ⟨by simp, h, fun k hk => ?_, hg, hb⟩
  have e : nmAt (List.replicate n Nm.nil) k = Nm.nil := by unfold nmAt; rw [List.getElem?_replicate]; split <;> rfl
  rw [e]
  exact ⟨⟨by simp [Nm.nil], by simp [Nm.nil], .inl rfl⟩, by simp [Nm.nil, Canon], by simp [Nm.nil], by simp [Nm.nil, val], by simp [Nm.nil]⟩
/-- As a row. -/
theorem SumI.nums {w w' : World} {g n : Nat} {f : Nat → Int} {S : List Nm} (h : SumI w w' g n f S) : NumsAt w' (some ⟨g, 0, none⟩) n S := by
  refine ⟨by rw [h.1]; exact Nat.le_refl _, fun x hx => ?_, .inr ⟨g, 0, rfl, h.2.1.lt, fun k hk => ?_⟩⟩
  · obtain ⟨k, hk, rfl⟩ := List.getElem_of_mem hx
    have h2 := (h.2.2.1 k (by rw [← h.1]; exact hk)).1
    have e1 : nmAt S k = S[k] := by unfold nmAt; rw [List.getElem?_eq_getElem hk]; rfl
    rw [e1] at h2
    exact h2
  · rw [Nat.zero_add]; exact h.2.1.cells hk

end Go.Proofs.YtfnnbkclnflpfaaGreatDoor

/- Rows of whole numbers that a call itself makes; grids of them. -/
namespace Go.Proofs.YtfnnbkclnflpfaaGreatDoor
open Go.RowKit

/-- v is a row of the call's own, of the first n numbers of f. -/
def OwnW (base : Nat) (w : World) (v : Value) (n : Nat) (f : Nat → Int) : Prop :=
  ∃ R : List Nm, R.length = n ∧ w.ownsRow base 27 2 v n (numCells R) ∧ Clear w v ∧ ∀ k, k < n → IsNm w (nmAt R k) (f k)
theorem OwnW.nil (base : Nat) (w : World) (f : Nat → Int) : OwnW base w (.slice none 0 0) 0 f :=
  ⟨[], rfl, World.ownsRow_nil w base 27 2, Clear.nil w 0 0, fun k hk => by omega⟩
theorem OwnW.below {base : Nat} {w w' : World} {v : Value} {n : Nat} {f : Nat → Int} (h : OwnW base w v n f) (hb : Below w.heap.size w w') : OwnW base w' v n f := by
  obtain ⟨D, h1, h2, h3, h4⟩ := h
  exact ⟨D, h1, h2.kept (row := none) ⟨hb.os, hb.tape, hb.output, hb.size, fun k hk _ => hb.block k hk⟩ (by cases hv : v.ownBlock <;> simp), h3.below hb, fun k hk => (h4 k hk).below hb⟩
theorem OwnW.lt {base : Nat} {w : World} {v : Value} {n : Nat} {f : Nat → Int} (h : OwnW base w v n f) : ∀ k, v.ownBlock = some k → base ≤ k ∧ k < w.heap.size := by
  obtain ⟨D, h1, h2, h3, h4⟩ := h
  exact h2.lt
theorem OwnW.clear {base : Nat} {w : World} {v : Value} {n : Nat} {f : Nat → Int} (h : OwnW base w v n f) : Clear w v := by
  obtain ⟨D, h1, h2, h3, h4⟩ := h
  exact h3
theorem OwnW.congr {base : Nat} {w : World} {v : Value} {n : Nat} {f g : Nat → Int} (h : OwnW base w v n f) (he : ∀ k, k < n → f k = g k) : OwnW base w v n g := by
  obtain ⟨D, h1, h2, h3, h4⟩ := h
  exact ⟨D, h1, h2, h3, fun k hk => by rw [← he k hk]; exact h4 k hk⟩
theorem OwnW.slice {base : Nat} {w : World} {v : Value} {n : Nat} {f : Nat → Int} (h : OwnW base w v n f) : ∃ po pc, v = .slice po n pc := by
  obtain ⟨D, h1, h2, h3, h4⟩ := h
  rcases h2.2 with ⟨e1, e2⟩ | ⟨g, cap, cur, hv, _⟩
  · exact ⟨_, _, by rw [e1, e2]⟩
  · exact ⟨_, _, hv⟩
theorem Clr.nm {w : World} {g : Nat} (h : Clr w g) {x : Nm} {z : Int} (hx : IsNm w x z) (j : Nat) (u : Value) : IsNm (w.setCell ⟨g, j, none⟩ u) x z := ⟨h.limbs hx.1 j u, hx.2⟩
theorem IsNm.grownClear {w w' : World} {v : Value} {x : Nm} {z : Int} (hx : IsNm w x z) (h : Clear w v) (hg : w.grownBy w' v.ownBlock) : IsNm w' x z := ⟨hx.1.grownClear h hg, hx.2⟩
/-- A store into a block that is elder. -/
theorem OwnW.set {base : Nat} {w : World} {v : Value} {n : Nat} {f : Nat → Int} (h : OwnW base w v n f) {g : Nat} (hc : Clr w g) (hg : g < base) (j : Nat) (u : Value) : OwnW base (w.setCell ⟨g, j, none⟩ u) v n f := by
  obtain ⟨D, h1, h2, h3, h4⟩ := h
  have hne : ∀ k, v.ownBlock = some k → k ≠ g := fun k hk => by have := (h2.lt k hk).1; omega
  refine ⟨D, h1, ⟨h2.1, ?_⟩, ?_, fun k hk => hc.nm (h4 k hk) j u⟩
  · rcases h2.2 with e | ⟨k, cap, cur, hv, hk, hh, rest⟩
    · exact .inl e
    · exact .inr ⟨k, cap, cur, hv, hk, (Below.heap_setCell w ⟨g, j, none⟩ u k (hne k (by rw [hv]; rfl))).trans hh, rest⟩
  · intro k hk
    obtain ⟨cur, e, g1, g2⟩ := h3 k hk
    exact ⟨cur, e, (Below.heap_setCell w ⟨g, j, none⟩ u k (hne k hk)).trans g1, g2⟩
/-- Another row grows. -/
theorem OwnW.grownBy {base : Nat} {w w' : World} {v u : Value} {n : Nat} {f : Nat → Int} (h : OwnW base w v n f) (hc : Clear w u) (hg : w.grownBy w' u.ownBlock) (hne : ∀ g, v.ownBlock = some g → u.ownBlock ≠ some g) : OwnW base w' v n f := by
  obtain ⟨D, h1, h2, h3, h4⟩ := h
  refine ⟨D, h1, h2.kept (row := u.ownBlock) hg ?_, ?_, fun k hk => (h4 k hk).grownClear hc hg⟩
  · cases hv : v.ownBlock with
    | none => exact .inl rfl
    | some g => exact .inr (fun e => hne g hv e.symm)
  · intro g hg'
    obtain ⟨cur, e, g1, g2⟩ := h3 g hg'
    exact ⟨cur, e, (hg.block g (Array.getElem?_eq_some_iff.1 g1).1 (fun e => hne g hg' e.symm)).trans g1, g2⟩

set_option maxRecDepth 20000 in
theorem infoWh : (Tryz.prog.info? 27).map (fun i => (i.zero, i.size, i.bytes)) = some (some (.agg #[.bool false, .slice none 0 0]), 2, 32) := by kernel_rfl

/-- One number more. -/
theorem OwnW.push {base : Nat} {W : World} {v : Value} {n : Nat} {f : Nat → Int} (h : OwnW base W v n f) (B : Nat) (ng : Bool) (a : Option Addr) (l cp : Nat) (hx : IsNum 0 W (.agg #[.bool ng, .slice a l cp]) (f n)) (hc : W.heap[B]? = some (.cells #[.bool ng, .slice a l cp] 27 (0, 0))) (hn : n ≤ 1000000) (hb : base ≤ W.heap.size) (ty : TypeId) :
    ∃ po pc w', (Builtin.append_ #[87, 87] ty #[v, .slice (some ⟨B, 0, none⟩) 1 1]).run Tryz.prog W = .ok (.slice po (n + 1) pc) w' ∧ (OwnW base w' (.slice po (n + 1) pc) (n + 1) f ∧ W.grownBy w' v.ownBlock ∧ ((Value.slice po (n + 1) pc).ownBlock = v.ownBlock ∨ (Value.slice po (n + 1) pc).ownBlock = some W.heap.size)) := by
  obtain ⟨i0, hi, hz0, hz1, hz2⟩ := info_parts infoWh
  obtain ⟨D, h1, h2, h3, h4⟩ := h
  obtain ⟨x, ex, hx'⟩ := hx.nm
  simp only [Value.agg.injEq, Array.mk.injEq, List.cons.injEq, Value.bool.injEq, Value.slice.injEq, and_true] at ex
  obtain ⟨rfl, rfl, rfl, rfl⟩ := ex
  obtain ⟨v', w', e1, e2, e3, e4, e5⟩ := run_append_clear (P := Tryz.prog) W base 87 ty 27 i0 (.agg #[.bool false, .slice none 0 0]) 2 32 Tryz.underlying87 hi hz0 hz1 hz2 rfl (by decide) v n (numCells D) h2 ⟨B, 0, none⟩ 1 1 [.bool x.neg, .slice x.ao x.L.length x.cap] rfl
    (fun j u hu => by
      rw [show (⟨B, 0, none⟩ : Addr).add j = ⟨B, j, none⟩ by unfold Addr.add; split <;> simp_all, cell_of_row W B j _ _ _ hc]
      simpa using hu)
    (fun u hu => by simp at hu; rcases hu with rfl | rfl <;> rfl) (by unfold maxLen; omega) (by omega) hb (by omega) h3
    (fun u hu => by simp [Value.cells] at hu; rcases hu with rfl | rfl <;> rfl) (fun u hu => by simp at hu; rcases hu with rfl | rfl <;> rfl)
  have hv : ∃ po pc, v' = .slice po (n + 1) pc := by
    rcases e2.2 with ⟨_, e⟩ | ⟨g, cap, cur, hv, _⟩
    · omega
    · exact ⟨_, _, hv⟩
  obtain ⟨po, pc, rfl⟩ := hv
  refine ⟨po, pc, w', e1, ⟨D ++ [x], by simp [h1], by simpa [numCells] using e2, e5, fun k hk => ?_⟩, e3, e4⟩
  by_cases hk' : k < n
  · have : nmAt (D ++ [x]) k = nmAt D k := by unfold nmAt; rw [List.getElem?_append_left (by omega)]
    rw [this]
    exact (h4 k hk').grownClear h3 e3
  · obtain rfl : k = n := by omega
    have : nmAt (D ++ [x]) k = x := by unfold nmAt; rw [← h1, List.getElem?_append_right (Nat.le_refl _)]; simp
    rw [this]
    exact hx'.grownClear h3 e3

/-- n whole numbers lie at ao. -/
def WhsAt (w : World) (ao : Option Addr) (cap n : Nat) (f : Nat → Int) : Prop :=
  n ≤ cap ∧ (n = 0 ∨ ∃ b off, ao = some ⟨b, off, none⟩ ∧ b < w.heap.size ∧ ∀ k, k < n → ∃ ng a l cp, w.cell? ⟨b, off + k * 2, none⟩ = some (.bool ng) ∧ w.cell? ⟨b, off + k * 2 + 1, none⟩ = some (.slice a l cp) ∧ IsNum 0 w (.agg #[.bool ng, .slice a l cp]) (f k))
theorem WhsAt.below {w w' : World} {ao : Option Addr} {cap n : Nat} {f : Nat → Int} (h : WhsAt w ao cap n f) (hb : Below w.heap.size w w') : WhsAt w' ao cap n f := by
  refine ⟨h.1, ?_⟩
  rcases h.2 with e | ⟨b, off, h1, h2, h3⟩
  · exact .inl e
  · refine .inr ⟨b, off, h1, Nat.lt_of_lt_of_le h2 hb.size, fun k hk => ?_⟩
    obtain ⟨ng, a, l, cp, c0, c1, hx⟩ := h3 k hk
    refine ⟨ng, a, l, cp, ?_, ?_, hx.below hb⟩
    · rw [hb.cell (p := ⟨b, off + k * 2, none⟩) h2]; exact c0
    · rw [hb.cell (p := ⟨b, off + k * 2 + 1, none⟩) h2]; exact c1
theorem OwnW.whs {base : Nat} {w : World} {v : Value} {n : Nat} {f : Nat → Int} (h : OwnW base w v n f) : ∃ ao cap, v = .slice ao n cap ∧ WhsAt w ao cap n f := by
  obtain ⟨D, h1, h2, h3, h4⟩ := h
  rcases h2.2 with ⟨hv, h0⟩ | ⟨g, cap, cur, hv, hg, hh, hc, hm, hs, ht⟩
  · exact ⟨none, 0, by rw [hv, h0], by omega, .inl h0⟩
  · refine ⟨some ⟨g, 0, none⟩, cap, hv, hc, .inr ⟨g, 0, rfl, (Array.getElem?_eq_some_iff.1 hh).1, fun k hk => ⟨(nmAt D k).neg, (nmAt D k).ao, (nmAt D k).L.length, (nmAt D k).cap, ?_⟩⟩⟩
    obtain ⟨q0, q1⟩ := numCells_get D k (by omega)
    rw [← ht, List.getElem?_take, if_pos (by omega), Array.getElem?_toList] at q0 q1
    rw [cell_of_row w g _ _ _ _ hh, cell_of_row w g _ _ _ _ hh, Nat.zero_add]
    exact ⟨q0, q1, (h4 k hk).num⟩
/-- Such a row as exact's rows have it. -/
theorem OwnW.rw {base : Nat} {w : World} {v : Value} {n : Nat} {f : Nat → Int} (h : OwnW base w v n f) : ∃ r : Rw, v = r.v ∧ r.R.length = n ∧ NumsAt w r.ao r.cap r.R ∧ ∀ k, k < n → IsNm w (nmAt r.R k) (f k) := by
  obtain ⟨D, h1, h2, h3, h4⟩ := h
  have hl : ∀ x ∈ D, LimbsAt w x.ao x.cap x.L := fun x hx => by
    obtain ⟨j, hj, rfl⟩ := List.getElem_of_mem hx
    have := (h4 j (by omega)).1
    unfold nmAt at this
    rwa [List.getElem?_eq_getElem hj] at this
  rcases h2.2 with ⟨hv, h0⟩ | ⟨g, cap, cur, hv, hg, hh, hc, hm, hs, ht⟩
  · have e : D = [] := List.length_eq_zero_iff.1 (by omega)
    exact ⟨⟨none, 0, D⟩, by rw [hv]; unfold Rw.v; rw [e]; rfl, h1, ⟨by rw [e]; simp, hl, .inl e⟩, h4⟩
  · refine ⟨⟨some ⟨g, 0, none⟩, cap, D⟩, by rw [hv]; unfold Rw.v; rw [h1], h1, ⟨by rw [h1]; exact hc, hl, .inr ⟨g, 0, rfl, (Array.getElem?_eq_some_iff.1 hh).1, fun k hk => ?_⟩⟩, h4⟩
    have hk' : k < D.length := hk
    obtain ⟨q0, q1⟩ := numCells_get D k hk'
    rw [← ht, List.getElem?_take, if_pos (by omega), Array.getElem?_toList] at q0 q1
    rw [cell_of_row w g _ _ _ _ hh, cell_of_row w g _ _ _ _ hh, Nat.zero_add]
    exact ⟨q0, q1⟩

/-- A grid of whole numbers. -/
def GrW (w : World) (ao : Option Addr) (cap r c : Nat) (F : Nat → Nat → Int) : Prop := WhsAt w ao cap (r * c) (fun p => F (p / c) (p % c)) ∧ r ≤ 6 ∧ c ≤ 6
theorem GrW.below {w w' : World} {ao : Option Addr} {cap r c : Nat} {F : Nat → Nat → Int} (h : GrW w ao cap r c F) (hb : Below w.heap.size w w') : GrW w' ao cap r c F := ⟨h.1.below hb, h.2⟩
/-- Numbers lie in no grid's box. -/
theorem WhsAt.putT {T : Nat} {w : World} {ao : Option Addr} {cap n : Nat} {f : Nat → Int} (h : WhsAt w ao cap n f) {g : Nat} {x y : Int} {a : Option Addr} {m d : Nat} (hx : BoxT T w g (.int .i64 x) (.int .i64 y) (.slice a m d)) (j : Nat) (u : Value) :
    WhsAt (w.setCell ⟨g, j, none⟩ u) ao cap n f := by
  refine ⟨h.1, ?_⟩
  rcases h.2 with e | ⟨b, off, h1, h2, h3⟩
  · exact .inl e
  · by_cases he : n = 0
    · exact .inl he
    · have hne : b ≠ g := by
        rintro rfl
        obtain ⟨ng, a', l, cp, c0, _, _⟩ := h3 0 (by omega)
        rw [cell_of_row w b _ _ _ _ hx] at c0
        rcases (show off = 0 ∨ off = 1 ∨ off = 2 ∨ 3 ≤ off by omega) with e | e | e | e
        · subst e; simp at c0
        · subst e; simp at c0
        · subst e; simp at c0
        · rw [Array.getElem?_eq_none (by simp; omega)] at c0; simp at c0
      refine .inr ⟨b, off, h1, by simpa [World.setCell] using h2, fun i hi => ?_⟩
      obtain ⟨ng, a', l, cp, c0, c1, hq⟩ := h3 i hi
      refine ⟨ng, a', l, cp, ?_, ?_, hx.clr.num hq j u⟩
      · rw [cell_setCell_other _ _ _ _ (show b ≠ g from hne)]; exact c0
      · rw [cell_setCell_other _ _ _ _ (show b ≠ g from hne)]; exact c1
theorem GrW.putT {T : Nat} {w : World} {ao : Option Addr} {cap r c : Nat} {F : Nat → Nat → Int} (h : GrW w ao cap r c F) {g : Nat} (hx : BoxT T w g (.int .i64 0) (.int .i64 0) (.slice none 0 0)) (x y : Int) (a : Option Addr) (m d : Nat) :
    GrW (((w.setCell ⟨g, 0, none⟩ (.int .i64 x)).setCell ⟨g, 1, none⟩ (.int .i64 y)).setCell ⟨g, 2, none⟩ (.slice a m d)) ao cap r c F := by
  have x1 : BoxT T (w.setCell ⟨g, 0, none⟩ (.int .i64 x)) g (.int .i64 x) (.int .i64 0) (.slice none 0 0) := by
    unfold BoxT; rw [heap_setCell_same w g 0 _ _ _ hx]; simp
  have x2 : BoxT T ((w.setCell ⟨g, 0, none⟩ (.int .i64 x)).setCell ⟨g, 1, none⟩ (.int .i64 y)) g (.int .i64 x) (.int .i64 y) (.slice none 0 0) := by
    unfold BoxT; rw [heap_setCell_same _ g 1 _ _ _ x1]; simp
  exact ⟨((h.1.putT hx 0 _).putT x1 1 _).putT x2 2 _, h.2⟩

end Go.Proofs.YtfnnbkclnflpfaaGreatDoor

/- Package certify: build, at, wholes of whole numbers. -/
namespace Go.Proofs.YtfnnbkclnflpfaaGreatDoor
open Go.RowKit
attribute [local go_sem ↓] Go.wp_at_zero Go.wp_at_succ

/-- What holds in build: the answer's box, the grid's, its row. -/
def BwSt (w wr : World) (r c n : Nat) (po : Option Addr) (pc : Nat) (f : Nat → Int) : Prop :=
  BoxT 89 wr w.heap.size (.int .i64 0) (.int .i64 0) (.slice none 0 0) ∧ BoxT 89 wr (w.heap.size + 1) (.int .i64 r) (.int .i64 c) (.slice po n pc) ∧ OwnW (w.heap.size + 2) wr (.slice po n pc) n f ∧ Below w.heap.size w wr
theorem BwSt.all {w wr w' : World} {r c n : Nat} {po : Option Addr} {pc : Nat} {f : Nat → Int} (h : BwSt w wr r c n po pc f) (hb : Below wr.heap.size wr w') : BwSt w w' r c n po pc f :=
  ⟨h.1.all hb, h.2.1.all hb, h.2.2.1.below hb, h.2.2.2.trans (hb.mono h.2.2.2.size)⟩
theorem BwSt.start (w : World) (r c : Nat) (f : Nat → Int) : BwSt w ((w.alloc (.cells #[.int .i64 0, .int .i64 0, .slice none 0 0] 89)).alloc (.cells #[.int .i64 r, .int .i64 c, .slice none 0 0] 89)) r c 0 none 0 f := by
  have b0 := below_alloc9 w (.cells #[.int .i64 0, .int .i64 0, .slice none 0 0] 89)
  have s0 := size_alloc9 w (.cells #[.int .i64 0, .int .i64 0, .slice none 0 0] 89)
  have x0 := BoxT.new 89 w (.int .i64 0) (.int .i64 0) (.slice none 0 0)
  have x1 := BoxT.new 89 (w.alloc (.cells #[.int .i64 0, .int .i64 0, .slice none 0 0] 89)) (.int .i64 r) (.int .i64 c) (.slice none 0 0)
  have b1 := below_alloc9 (w.alloc (.cells #[.int .i64 0, .int .i64 0, .slice none 0 0] 89)) (.cells #[.int .i64 r, .int .i64 c, .slice none 0 0] 89)
  rw [s0] at x1
  exact ⟨x0.all b1, x1, OwnW.nil _ _ _, b0.trans (b1.mono b0.size)⟩
/-- One number more: appended, and the grid's box written. -/
theorem BwSt.push {w w4 : World} {r c n : Nat} {po : Option Addr} {pc : Nat} {f : Nat → Int} (h : BwSt w w4 r c n po pc f) (ng : Bool) (a : Option Addr) (l cp : Nat) (hx : IsNum 0 w4 (.agg #[.bool ng, .slice a l cp]) (f n)) (hn : n ≤ 36) (ty : TypeId) :
    ∃ qo qc w', (Builtin.append_ #[87, 87] ty #[.slice po n pc, .slice (some ⟨w4.heap.size, 0, none⟩) 1 1]).run Tryz.prog (w4.alloc (.cells #[.bool ng, .slice a l cp] 27)) = .ok (.slice qo (n + 1) qc) w' ∧ (BoxT 89 w' (w.heap.size + 1) (.int .i64 r) (.int .i64 c) (.slice po n pc) ∧ BwSt w (w'.setCell ⟨w.heap.size + 1, 2, none⟩ (.slice qo (n + 1) qc)) r c (n + 1) qo qc f) := by
  have ba := below_alloc9 w4 (.cells #[.bool ng, .slice a l cp] 27)
  have hsz := h.2.1.lt
  obtain ⟨h1, h2, h3, h4⟩ := h.all ba
  obtain ⟨qo, qc, w', e1, ho, hg, _⟩ := h3.push w4.heap.size ng a l cp (hx.below ba) (heap_alloc_new w4 _) (by omega) (by simp; omega) ty
  have hl := h3.lt
  have n0 : (Value.slice po n pc).ownBlock ≠ some w.heap.size := fun e => by have := (hl _ e).1; omega
  have n1 : (Value.slice po n pc).ownBlock ≠ some (w.heap.size + 1) := fun e => by have := (hl _ e).1; omega
  have y0 := h1.grown hg n0
  have y1 := h2.grown hg n1
  refine ⟨qo, qc, w', e1, y1, y0.other (p := ⟨w.heap.size + 1, 2, none⟩) (by show w.heap.size ≠ w.heap.size + 1; omega) _, y1.put2 _, ho.set y1.clr (by omega) _ _, ?_⟩
  exact (h4.grown hg h4.size (fun k hk => by have := (hl _ hk).1; omega)).setCell (p := ⟨w.heap.size + 1, 2, none⟩) (by show w.heap.size ≤ w.heap.size + 1; omega) _

set_option maxRecDepth 20000 in
set_option maxHeartbeats 8000000 in
theorem buildW_any (fn : Nat) (caps : Array Value) (r c : Nat) (F : Nat → Nat → Int) (w : World)
    (hcf : ∀ args w, (callFunc fn args).run Tryz.prog w = .ok (.enter fn args) w) (hr : r ≤ 6) (hc : c ≤ 6)
    (hstep : ∀ w' i k, Below w.heap.size w w' → i < r → k < c → Calls Tryz.prog fn (#[.int .i64 (i : Nat), .int .i64 (k : Nat)] ++ caps) w' fun e w'' => ∃ v, e = .returned v ∧ IsNum 0 w'' v (F i k) ∧ Below w'.heap.size w' w'') :
    Calls Tryz.prog 108 #[.int .i64 r, .int .i64 c, .func (.func fn) #[] caps] w fun e w' => ∃ ao cap, e = .returned (.agg #[.int .i64 r, .int .i64 c, .slice ao (r * c) cap]) ∧ GrW w' ao cap r c F ∧ Below w.heap.size w w' := by
  have HS := hide hstep
  obtain ⟨f, hf⟩ : ∃ f : Nat → Int, f = fun p => F (p / c) (p % c) := ⟨_, rfl⟩
  have FV := hide (show ∀ j k, k < c → f (j * c + k) = F j k from fun j k hk => by rw [hf]; show F ((j * c + k) / c) ((j * c + k) % c) = _; rw [place_div hk, place_mod hk])
  have GR := hide (show ∀ w' ao cap, WhsAt w' ao cap (r * c) f → GrW w' ao cap r c F from fun w' ao cap h => ⟨by rw [hf] at h; exact h, hr, hc⟩)
  have ST := hide (BwSt.start w r c f)
  have h36 : r * c ≤ 36 := Nat.mul_le_mul hr hc
  have HN := hide (fun j k (hj : j < r) (hk : k < c) => place_lt hj hk)
  clear hstep hf
  go_enter Tryz.func108, Tryz.ntmps108
  go_wp2_with fail
  go_loopw [14] (fun i wr => ∃ (j : Nat) (po : Option Addr) (pc : Nat), j ≤ r ∧ i = .int .i64 j ∧ Hid (BwSt w wr r c (j * c) po pc f)) (fun i _ => r - (intOf i).toNat)
  case atStart => exact ⟨0, none, 0, Nat.zero_le _, rfl, by rw [Nat.zero_mul]; exact ST⟩
  case round =>
    clear ST
    obtain ⟨j, po, pc, hj, rfl, hS⟩ := hrel
    by_cases hlt : j < r
    · have hjI : (j : Int) < (r : Int) := by omega
      go_wp2_with fail
      go_loopw [18] (fun i wr => ∃ (k : Nat) (po : Option Addr) (pc : Nat), k ≤ c ∧ i = .int .i64 k ∧ Hid (BwSt w wr r c (j * c + k) po pc f)) (fun i _ => c - (intOf i).toNat)
      case atStart => exact ⟨0, po, pc, Nat.zero_le _, rfl, hS⟩
      case round =>
        clear hS
        obtain ⟨k, po, pc, hk, rfl, hS⟩ := hrel
        by_cases hkc : k < c
        · have hkI : (k : Int) < (c : Int) := by omega
          have C := hide (fun w' h => unhide HS w' j k h hlt hkc)
          have eo := hide (unhide FV j k hkc)
          have hpl := hide (unhide HN j k hlt hkc)
          go_wp2_with fail
          refine at_world (fun W => BwSt w W r c (j * c + k) po pc f) (unhide hS) ?_
          clear hS
          rintro W0 hS
          replace hS := hS.all ((Below.refl W0.heap.size W0).drew)
          have SS := hide hS
          have y2 := hS.2.1.c2; have f2 := hS.2.1.free 2
          clear hS
          obtain ⟨n, hn⟩ : ∃ n, j * c + k = n := ⟨_, rfl⟩
          have HN2 := hide hn
          rw [hn] at SS y2
          have hn36 := hide (show n ≤ 36 from by have := unhide hpl; omega)
          clear hn
          go_region_law (first | (refine step_append_ex _ (by rfl) _ _ 87 (by rfl) _ _ _ _ (by rfl) (by rfl) (unhide PU) ?_; rintro qo qc w5 ⟨bx, st⟩; clear y2 y3 f2; have ST5 := hide st; have y2 := bx.c2; have f2 := bx.free 2; clear bx st PU) | (go_simp; refine (unhide C _ (unhide SS).2.2.2).mono ?_; rintro e w4 ⟨q, rfl, ⟨n4, a4, c4, L4, rfl, i4⟩, hb4⟩; clear y2 f2; have S4 := (unhide SS).all hb4; have Q4 := hide (show IsNum 0 w4 (.agg #[.bool n4, .slice a4 L4.length c4]) (F j k) from ⟨n4, a4, c4, L4, rfl, i4⟩); generalize L4.length = l4 at *; have y2 := S4.2.1.c2; have f2 := S4.2.1.free 2; have y3 := cell_keep y2 (below_alloc9 w4 (.cells #[.bool n4, .slice a4 l4 c4] 27)); have PU := hide (S4.push n4 a4 l4 c4 (by rw [← unhide HN2, unhide eo]; exact unhide Q4) (unhide hn36) 87); clear i4 hb4 SS S4 Q4))
          all_goals
            go_wp2_with fail
            go_round
            case rel => exact ⟨k + 1, qo, qc, by omega, by go_num, by rw [← Nat.add_assoc, unhide HN2]; exact ST5⟩
            case measure => simp [intOf]; omega
        · have hkk : k = c := by omega
          subst hkk
          go_wp2_with fail
          go_round
          case rel => exact ⟨j + 1, po, pc, by omega, by go_num, by rw [Nat.add_mul, Nat.one_mul]; exact hS⟩
          case measure => simp [intOf]; omega
    · have hjj : j = r := by omega
      subst hjj
      obtain ⟨h1, h2, h3, h4⟩ := unhide hS
      have DY := h3.whs
      have s0 := h1.c0; have s1 := h1.c1; have s2 := h1.c2
      have f0 := h1.free 0; have f1 := h1.free 1; have f2 := h1.free 2
      have t0 := h2.c0; have t1 := h2.c1; have t2 := h2.c2
      have XP := h1.put (.int .i64 j) (.int .i64 c) (.slice po (j * c) pc)
      have z0 := XP.c0; have z1 := XP.c1; have z2 := XP.c2
      obtain ⟨ao, cap, e1, q1⟩ := ((h3.set h1.clr (by omega) 0 (.int .i64 j)).set ((h1.clr).set _ _ rfl) (by omega) 1 (.int .i64 c)).set (((h1.clr).set _ _ rfl).set _ _ rfl) (by omega) 2 (.slice po (j * c) pc) |>.whs
      cases e1
      have QP := hide (unhide GR _ _ _ q1)
      have BP := hide (below_putM h4 (Nat.le_refl _) (.int .i64 j) (.int .i64 c) (.slice po (j * c) pc))
      clear h1 h2 h3 h4 DY XP q1 hS
      go_wp2
      exact bodyPost_ret (v := .agg #[.int .i64 j, .int .i64 c, .slice po (j * c) pc]) (by simp [results, Tryz.results108, go_sem, z0, z1, z2]) rfl ⟨_, _, rfl, unhide QP, unhide BP⟩

set_option maxRecDepth 20000 in
set_option maxHeartbeats 4000000 in
theorem wat_of (r c n cap b off i k q : Nat) (ng : Bool) (a : Option Addr) (l cp : Nat) (z : Int) (w : World) (hq : (i : Int) * (c : Int) = (q : Int)) (hlt : q + k < n) (hn : n ≤ 36)
    (h0 : w.cell? ⟨b, off + (q + k) * 2, none⟩ = some (.bool ng)) (h1 : w.cell? ⟨b, off + (q + k) * 2 + 1, none⟩ = some (.slice a l cp)) (hx : IsNum 0 w (.agg #[.bool ng, .slice a l cp]) z) :
    Calls Tryz.prog 111 #[.agg #[.int .i64 r, .int .i64 c, .slice (some ⟨b, off, none⟩) n cap], .int .i64 i, .int .i64 k] w fun e w' => ∃ v, e = .returned v ∧ IsNum 0 w' v z ∧ Below w.heap.size w w' := by
  have b0 := below_alloc9 w (.cells #[.int .i64 r, .int .i64 c, .slice (some ⟨b, off, none⟩) n cap] 89)
  have b1 := below_alloc9 (w.alloc (.cells #[.int .i64 r, .int .i64 c, .slice (some ⟨b, off, none⟩) n cap] 89)) (.cells #[.bool false, .slice none 0 0] 27)
  have b2 := below_alloc9 (w.alloc (.cells #[.int .i64 r, .int .i64 c, .slice (some ⟨b, off, none⟩) n cap] 89)) (.cells #[.bool ng, .slice a l cp] 27)
  have bb := b0.trans (b1.mono b0.size)
  have bc := b0.trans (b2.mono b0.size)
  have k0 := cell_keep h0 bb; have k1 := cell_keep h1 bb
  have HX := hide (hx.below bc)
  have HB := hide bc
  have hkI : (q : Int) + (k : Int) < (n : Int) := by omega
  clear b0 b1 b2 bb bc h0 h1 hx
  go_enter Tryz.func111, Tryz.ntmps111
  go_wp2
  exact bodyPost_ret (v := .agg #[.bool ng, .slice a l cp]) (by simp [results, Tryz.results111, go_sem]) rfl ⟨_, rfl, unhide HX, unhide HB⟩

theorem wat_any (r c cap i k : Nat) (ao : Option Addr) (F : Nat → Nat → Int) (w : World) (h : GrW w ao cap r c F) (hi : i < r) (hk : k < c) :
    Calls Tryz.prog 111 #[.agg #[.int .i64 r, .int .i64 c, .slice ao (r * c) cap], .int .i64 i, .int .i64 k] w fun e w' => ∃ v, e = .returned v ∧ IsNum 0 w' v (F i k) ∧ Below w.heap.size w w' := by
  have hp := place_lt hi hk
  rcases h.1.2 with e | ⟨b, off, rfl, h2, h3⟩
  · omega
  · obtain ⟨ng, a, l, cp, c0, c1, hx⟩ := h3 (i * c + k) hp
    replace hx : IsNum 0 w _ (F ((i * c + k) / c) ((i * c + k) % c)) := hx
    rw [place_div hk, place_mod hk] at hx
    exact wat_of r c (r * c) cap b off i k (i * c) ng a l cp (F i k) w (cast_mul10 i c) hp (Nat.mul_le_mul h.2.1 h.2.2) c0 c1 hx

end Go.Proofs.YtfnnbkclnflpfaaGreatDoor

/- Package certify: wholes. -/
namespace Go.Proofs.YtfnnbkclnflpfaaGreatDoor
open Go.RowKit
attribute [local go_sem ↓] Go.wp_at_zero Go.wp_at_succ

theorem shift_up11 {B : Nat} {w : World} {v : Value} {x n : Int} (k : Nat) (hv : IsNum B w v x) (hx : x.natAbs < TOP) (hn : n = (k : Int)) (hk : k ≤ 10000) (hz : (x * 2 ^ k).natAbs < TOP) :
    Calls Tryz.prog 110 #[v, .int .i64 n] w fun e w' => ∃ r, e = .returned (.tuple #[r, .int .i64 0]) ∧ IsNum 0 w' r (x * 2 ^ k) ∧ Below w.heap.size w w' := by
  obtain ⟨na, ao, ca, A, rfl, a1, a2, a3, a4⟩ := hv.right hx
  have := shift_any na ao ca A n w a1 (by omega) (by omega)
  have hok : shOk na A n = true := by unfold shOk; rw [a2, decide_eq_true (by omega)]; rfl
  have hV : shV na A n = x * 2 ^ k := by
    unfold shV
    rw [if_pos (by omega), show n.toNat = k by omega, ← a3, sval_sg]
    unfold sg
    cases na <;> simp [Int.neg_mul]
  rw [show shE na A n = 0 by unfold shE; rw [hok, if_pos rfl, hV, errOf_small _ hz], show shN na A n = x * 2 ^ k by unfold shN; rw [hok, if_pos rfl, hV, numOf_small _ hz]] at this
  exact this.mono fun e w' ⟨r, h1, h2, h3⟩ => ⟨r, h1, h2.mono (Nat.zero_le _), h3⟩

/-- A number at a level, shifted so that it is whole there. -/
theorem shift_lv {w : World} {n1 : Bool} {a1 : Option Addr} {l1 c1 : Nat} {X z : Int} (h : IsLv w (.agg #[.bool n1, .slice a1 l1 c1, .int .i64 X]) (-1074) z) (hz : z.natAbs < 2 ^ 2098) :
    (-1074 ≤ X ∧ X ≤ 1100) ∧ Calls Tryz.prog 110 #[.agg #[.bool n1, .slice a1 l1 c1], .int .i64 (X + 1074)] w fun e w' => ∃ r, e = .returned (.tuple #[r, .int .i64 0]) ∧ IsNum 0 w' r z ∧ Below w.heap.size w w' := by
  obtain ⟨neg, ao, cap, L, e1, hn⟩ := h
  simp only [Value.agg.injEq, Array.mk.injEq, List.cons.injEq, Value.bool.injEq, Value.slice.injEq, Value.int.injEq, and_true, true_and] at e1
  obtain ⟨rfl, ⟨rfl, rfl, rfl⟩, rfl⟩ := e1
  have hT : z.natAbs < TOP := lt_TOP (k := 2098) hz (by decide)
  have hO : (oM z).natAbs < TOP := Nat.lt_of_le_of_lt (oM_le z) hT
  by_cases h0 : z = 0
  · subst h0
    rw [oE_zero]
    refine ⟨by omega, ?_⟩
    have := shift_up11 (n := 0 + 1074) 1074 hn hO rfl (by decide) (by rw [oM_zero, Int.zero_mul]; exact hT)
    rw [oM_zero, Int.zero_mul] at this
    exact this
  · have ht : tz z.natAbs < 2098 := tz_lt _ 2098 (by omega) hz
    rw [oE_ne _ _ h0]
    refine ⟨by omega, ?_⟩
    have e : oM z * 2 ^ tz z.natAbs = z := (oddOf z h0).1.symm
    have := shift_up11 (n := -1074 + (tz z.natAbs : Int) + 1074) (tz z.natAbs) hn hO (by omega) (by omega) (by rw [e]; exact hT)
    rwa [e] at this

set_option maxRecDepth 20000 in
set_option maxHeartbeats 4000000 in
theorem wholes1_of (r c n cap bg i k : Nat) (ao : Option Addr) (lo z y : Int) (w : World) (hx : BoxT 61 w bg (.int .i64 r) (.int .i64 c) (.slice ao n cap))
    (CA : ∀ w', Below w.heap.size w w' → Calls Tryz.prog 86 #[.agg #[.int .i64 r, .int .i64 c, .slice ao n cap], .int .i64 i, .int .i64 k] w' fun e w'' => ∃ v, e = .returned v ∧ IsLv w'' v lo z ∧ Below w'.heap.size w' w'')
    (CS : ∀ w' n1 a1 l1 c1 X, Below w.heap.size w w' → IsLv w' (.agg #[.bool n1, .slice a1 l1 c1, .int .i64 X]) lo z → (-1074 ≤ X ∧ X ≤ 1100) ∧ Calls Tryz.prog 110 #[.agg #[.bool n1, .slice a1 l1 c1], .int .i64 (X + 1074)] w' fun e w'' => ∃ r, e = .returned (.tuple #[r, .int .i64 0]) ∧ IsNum 0 w'' r y ∧ Below w'.heap.size w' w'') :
    Calls Tryz.prog 109 #[.int .i64 i, .int .i64 k, .pointer (some ⟨bg, 0, none⟩)] w fun e w' => ∃ v, e = .returned v ∧ IsNum 0 w' v y ∧ Below w.heap.size w w' := by
  have K1 := hide CA; have K2 := hide CS
  have b0 := below_alloc9 w (.cells #[.bool false, .slice none 0 0] 27)
  have X0 := hide (Box2.new w (.bool false) (.slice none 0 0))
  have m0 := (hx.all b0).c0; have m1 := (hx.all b0).c1; have m2 := (hx.all b0).c2
  have B0 := hide b0
  clear b0 hx CA CS
  go_enter Tryz.func109, Tryz.ntmps109
  go_wp2_with fail
  refine (unhide K1 _ (unhide B0)).mono ?_
  rintro e w1 ⟨u, rfl, ⟨n1, a1, c1, L1, rfl, i1⟩, hb1⟩
  have hv : IsLv w1 (.agg #[.bool n1, .slice a1 L1.length c1, .int .i64 (oE z lo)]) lo z := ⟨n1, a1, c1, L1, rfl, i1⟩
  generalize L1.length = l1 at *
  generalize oE z lo = X1 at *
  have ba := below_alloc9 w1 (.cells #[.bool n1, .slice a1 l1 c1, .int .i64 X1] 29)
  have hbb := hb1.trans (ba.mono hb1.size)
  replace B0 := hide ((unhide B0).trans (hbb.mono (unhide B0).size))
  replace X0 := hide ((unhide X0).below hbb (unhide X0).lt)
  obtain ⟨hX, C⟩ := unhide K2 _ n1 a1 l1 c1 X1 (unhide B0) (hv.below ba)
  have KC := hide C
  clear i1 hv hb1 ba hbb C K1 K2 m0 m1 m2
  go_wp2_with fail
  refine Calls.mono (unhide KC) ?_
  rintro e w2 ⟨v, rfl, ⟨n2, a2, c2, L2, rfl, i2⟩, hb2⟩
  have hq : IsNum 0 w2 (.agg #[.bool n2, .slice a2 L2.length c2]) y := ⟨n2, a2, c2, L2, rfl, i2⟩
  generalize L2.length = l2 at *
  have ba := below_alloc9 w2 (.cells #[.bool n2, .slice a2 l2 c2] 27)
  have hbb := hb2.trans (ba.mono hb2.size)
  have x0 := (unhide X0).below hbb (unhide X0).lt
  have b3 := (unhide B0).trans (hbb.mono (unhide B0).size)
  have y0 := x0.c0; have y1 := x0.c1; have f0 := x0.free 0; have f1 := x0.free 1
  have xp := x0.put (.bool n2) (.slice a2 l2 c2)
  have z0 := xp.c0; have z1 := xp.c1
  have HV := hide (x0.clr.set w.heap.size 0 (u := .bool n2) rfl |>.num (x0.clr.num (hq.below ba) 0 (.bool n2)) 1 (.slice a2 l2 c2))
  have HB := hide ((b3.setCell (p := ⟨w.heap.size, 0, none⟩) (Nat.le_refl _) (.bool n2)).setCell (p := ⟨w.heap.size, 1, none⟩) (Nat.le_refl _) (.slice a2 l2 c2))
  clear i2 hq ba hbb hb2 b3 x0 xp X0 B0 KC
  go_wp2
  exact bodyPost_ret (v := .agg #[.bool n2, .slice a2 l2 c2]) (by simp [results, Tryz.results109, go_sem, z0, z1]) rfl ⟨_, rfl, unhide HV, unhide HB⟩

set_option maxRecDepth 20000 in
theorem cf_wholes1 (args : Array Value) (w : World) : (callFunc 109 args).run Tryz.prog w = .ok (.enter 109 args) w := by
  simp only [callFunc, go_sem]
  rfl

set_option maxRecDepth 20000 in
set_option maxHeartbeats 4000000 in
theorem wholes_of (r c n cap : Nat) (ao : Option Addr) (lo : Int) (F G : Nat → Nat → Int) (w : World)
    (C1 : ∀ w', Below w.heap.size w w' → Calls Tryz.prog 34 #[.agg #[.int .i64 r, .int .i64 c, .slice ao n cap]] w' fun e w'' => ∃ go q, e = .returned (.agg #[.int .i64 r, .int .i64 c, .slice go (r * c) q]) ∧ Gr w'' go q r c lo F ∧ Below w'.heap.size w' w'')
    (C2 : ∀ w2 g go q, BoxT 61 w2 g (.int .i64 r) (.int .i64 c) (.slice go (r * c) q) → Gr w2 go q r c lo F → Below w.heap.size w w2 → Calls Tryz.prog 108 #[.int .i64 r, .int .i64 c, .func (.func 109) #[] #[.pointer (some ⟨g, 0, none⟩)]] w2 fun e w'' => ∃ ho d, e = .returned (.agg #[.int .i64 r, .int .i64 c, .slice ho (r * c) d]) ∧ GrW w'' ho d r c G ∧ Below w2.heap.size w2 w'') :
    Calls Tryz.prog 64 #[.agg #[.int .i64 r, .int .i64 c, .slice ao n cap]] w fun e w' => ∃ ho d, e = .returned (.agg #[.int .i64 r, .int .i64 c, .slice ho (r * c) d]) ∧ GrW w' ho d r c G ∧ Below w.heap.size w w' := by
  have b0 := below_alloc9 w (.cells #[.int .i64 r, .int .i64 c, .slice ao n cap] 24)
  have s0 := size_alloc9 w (.cells #[.int .i64 r, .int .i64 c, .slice ao n cap] 24)
  have x0 := BoxM.new w (.int .i64 r) (.int .i64 c) (.slice ao n cap)
  have b1 := below_alloc9 (w.alloc (.cells #[.int .i64 r, .int .i64 c, .slice ao n cap] 24)) (.cells #[.int .i64 0, .int .i64 0, .slice none 0 0] 89)
  have x1 := BoxT.new 89 (w.alloc (.cells #[.int .i64 r, .int .i64 c, .slice ao n cap] 24)) (.int .i64 0) (.int .i64 0) (.slice none 0 0)
  rw [s0] at x1
  have X0 := hide (x0.all b1); have X1 := hide x1; have BB := hide (b0.trans (b1.mono b0.size))
  have K1 := hide C1; have K2 := hide C2
  clear b0 b1 s0 x0 x1 C1 C2
  generalize r * c = rc at *
  go_enter Tryz.func64, Tryz.ntmps64
  go_wp2_with fail
  refine (unhide K1 _ (unhide BB)).mono ?_
  rintro e w1 ⟨go, q, rfl, hq, hb1⟩
  have ba := below_alloc9 w1 (.cells #[.int .i64 r, .int .i64 c, .slice go rc q] 61)
  have hbb := hb1.trans (ba.mono hb1.size)
  replace BB := hide ((unhide BB).trans (hbb.mono (unhide BB).size)); replace X0 := hide ((unhide X0).all hbb); replace X1 := hide ((unhide X1).all hbb)
  have C := hide (unhide K2 _ _ go q (BoxT.new 61 w1 (.int .i64 r) (.int .i64 c) (.slice go rc q)) (hq.below ba) (unhide BB))
  have y0 := (unhide X0).c0; have y1 := (unhide X0).c1
  clear K1 K2 hq hb1 ba hbb X0
  go_wp2_with fail
  refine Calls.mono (unhide C) ?_
  rintro e w2 ⟨ho, d, rfl, hz, hb2⟩
  have x1 := (unhide X1).all hb2
  clear y0 y1
  have y0 := x1.c0; have y1 := x1.c1; have y2 := x1.c2; have f0 := x1.free 0; have f1 := x1.free 1; have f2 := x1.free 2
  have xp := x1.put (.int .i64 r) (.int .i64 c) (.slice ho rc d)
  have z0 := xp.c0; have z1 := xp.c1; have z2 := xp.c2
  have PZ := hide (hz.putT x1 (r : Nat) (c : Nat) ho rc d)
  have PB := hide (below_putM ((unhide BB).trans (hb2.mono (unhide BB).size)) (show w.heap.size ≤ w.heap.size + 1 by omega) (.int .i64 r) (.int .i64 c) (.slice ho rc d))
  clear x1 xp C BB X1 hz hb2
  go_wp2
  exact bodyPost_ret (v := .agg #[.int .i64 r, .int .i64 c, .slice ho rc d]) (by simp [results, Tryz.results64, go_sem, z0, z1, z2]) rfl ⟨_, _, rfl, unhide PZ, unhide PB⟩

/-- The numbers of a matrix in units of 2^-1074. -/
theorem wholes_any (r c cap : Nat) (ao : Option Addr) (S : List Nat) (w : World) (h : Mx w ao cap r c S) (hf : ∀ x ∈ S, fFin x = true) (hT : Tab w) :
    Calls Tryz.prog 64 #[.agg #[.int .i64 r, .int .i64 c, .slice ao S.length cap]] w fun e w' => ∃ ho d, e = .returned (.agg #[.int .i64 r, .int .i64 c, .slice ho (r * c) d]) ∧ GrW w' ho d r c (fun i k => fZ (elM c S i k)) ∧ Below w.heap.size w w' := by
  refine wholes_of r c S.length cap ao (-1074) (fun i k => fZ (elM c S i k)) _ w (fun w' hb => values_any r c cap ao S w' (h.below hb) hf (hT.all hb)) (fun w2 g go q hx hg hb => ?_)
  refine buildW_any _ _ r c _ w2 cf_wholes1 h.2.2.1 h.2.2.2 (fun w' i k hb2 hi hk => ?_)
  exact wholes1_of r c (r * c) q g i k go (-1074) (fZ (elM c S i k)) (fZ (elM c S i k)) w' (hx.all hb2) (fun w'' hb3 => gat_any r c q i k go (-1074) _ w'' ((hg.below hb2).below hb3) hi hk) (fun w'' n1 a1 l1 c1 X _ hl => shift_lv hl (fZ_lt _ (el_fin c S i k hf)))

end Go.Proofs.YtfnnbkclnflpfaaGreatDoor

