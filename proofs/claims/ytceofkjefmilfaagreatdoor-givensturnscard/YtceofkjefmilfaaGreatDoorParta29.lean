/- Part 29 of the texts. -/
import Derived.Test.YtceofkjefmilfaaGreatDoorParta27
import Derived.Test.YtceofkjefmilfaaGreatDoorParta23
import Derived.Test.YtceofkjefmilfaaGreatDoorParta28
import Derived.Test.YtceofkjefmilfaaGreatDoorParta25
import Derived.Test.YtceofkjefmilfaaGreatDoorParta19
import Derived.Test.YtceofkjefmilfaaGreatDoorParta20
import Derived.Test.YtceofkjefmilfaaGreatDoorParta17
import Derived.Test.YtceofkjefmilfaaGreatDoorParta18
import Derived.Deep.Cut
import Derived.BigQuiet
import Derived.Test.YtceofkjefmilfaaGreatDoorParta16
import Derived.Test.YtceofkjefmilfaaGreatDoorParta21
import Derived.Test.YtceofkjefmilfaaGreatDoorParta13
/- Matrices as lists, row by row: made, written place by place, turned, put together; products; no program. Ahead of stage 10. -/
namespace Go.Proofs.YtceofkjefmilfaaGreatDoor
open Go.RowKit
theorem place_lt {r c i k : Nat} (hi : i < r) (hk : k < c) : i * c + k < r * c := by
  have h1 : (i + 1) * c ≤ r * c := Nat.mul_le_mul_right c hi
  rw [Nat.add_mul, Nat.one_mul] at h1
  omega
/-- The number of a place; a matrix turned; a part; one beside the other. -/
def elM (c : Nat) (S : List Nat) (i k : Nat) : Nat := S.getD (i * c + k) 0
end Go.Proofs.YtceofkjefmilfaaGreatDoor

/- Package matrix: a matrix in its box; inRange, Check, right, lies. -/
namespace Go.Proofs.YtceofkjefmilfaaGreatDoor
open Go.RowKit
attribute [local go_sem ↓] Go.wp_at_zero Go.wp_at_succ

/-- Block b is a box of a matrix. -/
def BoxM (w : World) (b : Nat) (x y z : Value) : Prop := w.heap[b]? = some (.cells #[x, y, z] 35 (0, 0))
theorem BoxM.c0 {w : World} {b : Nat} {x y z : Value} (h : BoxM w b x y z) : w.cell? ⟨b, 0, none⟩ = some x := by rw [cell_of_row w b 0 _ _ _ h]; rfl
theorem BoxM.c1 {w : World} {b : Nat} {x y z : Value} (h : BoxM w b x y z) : w.cell? ⟨b, 1, none⟩ = some y := by rw [cell_of_row w b 1 _ _ _ h]; rfl
theorem BoxM.c2 {w : World} {b : Nat} {x y z : Value} (h : BoxM w b x y z) : w.cell? ⟨b, 2, none⟩ = some z := by rw [cell_of_row w b 2 _ _ _ h]; rfl
theorem BoxM.free {w : World} {b : Nat} {x y z : Value} (h : BoxM w b x y z) (j : Nat) : w.frozen? ⟨b, j, none⟩ = false := frozen_of_row w b j _ _ h
theorem BoxM.lt {w : World} {b : Nat} {x y z : Value} (h : BoxM w b x y z) : b < w.heap.size := (Array.getElem?_eq_some_iff.1 h).1
theorem BoxM.below {w w' : World} {b : Nat} {x y z : Value} (h : BoxM w b x y z) {B : Nat} (hb : Below B w w') (hlt : b < B) : BoxM w' b x y z := (hb.block b hlt).trans h
theorem BoxM.new (w : World) (x y z : Value) : BoxM (w.alloc (.cells #[x, y, z] 35)) w.heap.size x y z := heap_alloc_new w _
theorem BoxM.all {w w' : World} {b : Nat} {x y z : Value} (h : BoxM w b x y z) (hb : Below w.heap.size w w') : BoxM w' b x y z := h.below hb h.lt
theorem BoxM.other {w : World} {b : Nat} {x y z : Value} (h : BoxM w b x y z) {p : Addr} (hp : b ≠ p.block) (u : Value) : BoxM (w.setCell p u) b x y z := (Below.heap_setCell w p u b hp).trans h
theorem BoxM.put {w : World} {b : Nat} {x y z : Value} (h : BoxM w b x y z) (u u' u'' : Value) : BoxM (((w.setCell ⟨b, 0, none⟩ u).setCell ⟨b, 1, none⟩ u').setCell ⟨b, 2, none⟩ u'') b u u' u'' := by
  have h1 := heap_setCell_same w b 0 _ _ u h
  have h2 := heap_setCell_same (w.setCell ⟨b, 0, none⟩ u) b 1 _ _ u' h1
  have h3 := heap_setCell_same ((w.setCell ⟨b, 0, none⟩ u).setCell ⟨b, 1, none⟩ u') b 2 _ _ u'' h2
  unfold BoxM
  rw [h3]
  simp

theorem below_putM {w w' : World} {B b : Nat} (h : Below B w w') (hb : B ≤ b) (u u' u'' : Value) : Below B w (((w'.setCell ⟨b, 0, none⟩ u).setCell ⟨b, 1, none⟩ u').setCell ⟨b, 2, none⟩ u'') :=
  ((h.setCell hb _).setCell hb _).setCell hb _

def okB (r c : Int) (n : Nat) : Bool := decide ((0 ≤ r ∧ r ≤ 6 ∧ 0 ≤ c ∧ c ≤ 6) ∧ (n : Int) = r * c)

end Go.Proofs.YtceofkjefmilfaaGreatDoor

/- A matrix in memory; stores into boxes keep it. -/
namespace Go.Proofs.YtceofkjefmilfaaGreatDoor
open Go.RowKit

/-- A matrix's numbers as they lie. -/
def mxL (S : List Nat) : List Int := S.map (fun x : Nat => (x : Int))
theorem mxL_len (S : List Nat) : (mxL S).length = S.length := by simp [mxL]
theorem mxL_at (S : List Nat) (j : Nat) : atB (mxL S) j = S.getD j 0 := by
  unfold mxL atB
  rw [List.getElem?_map, List.getD_eq_getElem?_getD]
  cases S[j]? <;> simp
theorem mxL_natL {w : World} {ao : Option Addr} {c : Nat} {I : List Int} (h : BitsAt w ao c I) : mxL (natL I) = I := natL_back h
theorem BitsAt.none (w : World) (c : Nat) : BitsAt w .none c (mxL []) := ⟨by simp [mxL], by simp [mxL], .inl rfl⟩
/-- Numbers lie in no matrix's box. -/
theorem BitsAt.putM {w : World} {ao : Option Addr} {c : Nat} {I : List Int} (h : BitsAt w ao c I) {g : Nat} {x y : Int} {a : Option Addr} {n d : Nat} (hx : BoxM w g (.int .i64 x) (.int .i64 y) (.slice a n d)) (u u' u'' : Value) :
    BitsAt (((w.setCell ⟨g, 0, .none⟩ u).setCell ⟨g, 1, .none⟩ u').setCell ⟨g, 2, .none⟩ u'') ao c I := by
  refine ⟨h.1, h.2.1, ?_⟩
  rcases h.2.2 with h0 | ⟨b, off, h1, h2, h3⟩
  · exact .inl h0
  · by_cases he : I = []
    · exact .inl he
    · have hp : 0 < I.length := List.length_pos_iff.2 he
      have hne : b ≠ g := by
        rintro rfl
        have h4 := h3 0 hp
        rw [cell_of_row w b (off + 0) _ _ _ hx] at h4
        rcases (show off = 0 ∨ off = 1 ∨ off = 2 ∨ 3 ≤ off by omega) with e | e | e | e
        · subst e; simp at h4
        · subst e; simp at h4
        · subst e; simp at h4
        · rw [Array.getElem?_eq_none (by simp; omega)] at h4; simp at h4
      refine .inr ⟨b, off, h1, by simpa [World.setCell] using h2, fun i hi => ?_⟩
      rw [cell_setCell_other _ _ _ _ (by simpa using hne), cell_setCell_other _ _ _ _ (by simpa using hne), cell_setCell_other _ _ _ _ (by simpa using hne)]
      exact h3 i hi

/-- A right matrix: r rows, c columns, the numbers S. -/
def Mx (w : World) (ao : Option Addr) (cap r c : Nat) (S : List Nat) : Prop := BitsAt w ao cap (mxL S) ∧ S.length = r * c ∧ r ≤ 6 ∧ c ≤ 6
theorem Mx.below {w w' : World} {ao : Option Addr} {cap r c : Nat} {S : List Nat} (h : Mx w ao cap r c S) (hb : Below w.heap.size w w') : Mx w' ao cap r c S := ⟨h.1.below hb, h.2⟩
theorem Mx.small {w : World} {ao : Option Addr} {cap r c : Nat} {S : List Nat} (h : Mx w ao cap r c S) : S.length ≤ 36 := by
  rw [h.2.1]
  exact Nat.mul_le_mul h.2.2.1 h.2.2.2
/-- Where its numbers lie. -/
theorem Mx.cells {w : World} {ao : Option Addr} {cap r c : Nat} {S : List Nat} (h : Mx w ao cap r c S) {i k : Nat} (hi : i < r) (hk : k < c) : ∃ b off, ao = some ⟨b, off, .none⟩ ∧ b < w.heap.size ∧ w.cell? ⟨b, off + (i * c + k), .none⟩ = some (.int .u64 (elM c S i k : Nat)) ∧ i * c + k < S.length := by
  have hp : i * c + k < S.length := by rw [h.2.1]; exact place_lt hi hk
  obtain ⟨b, off, e1, e2, e3⟩ := h.1.ne (by rw [mxL_len]; omega)
  refine ⟨b, off, e1, e2, ?_, hp⟩
  rw [e3 _ (by rw [mxL_len]; exact hp), mxL_at]
  rfl
/-- A right matrix that came in. -/
theorem Mx.of {w : World} {ao : Option Addr} {cap : Nat} {I : List Int} {r c : Int} (h : BitsAt w ao cap I) (ho : okB r c I.length = true) : ∃ p q : Nat, r = (p : Int) ∧ c = (q : Int) ∧ Mx w ao cap p q (natL I) ∧ mxL (natL I) = I := by
  obtain ⟨⟨h1, h2, h3, h4⟩, h5⟩ := of_decide_eq_true ho
  obtain ⟨p, rfl⟩ := Int.eq_ofNat_of_zero_le h1
  obtain ⟨q, rfl⟩ := Int.eq_ofNat_of_zero_le h3
  refine ⟨p, q, rfl, rfl, ⟨by rw [mxL_natL h]; exact h, ?_, by omega, by omega⟩, mxL_natL h⟩
  rw [natL_len]
  have : ((p * q : Nat) : Int) = (p : Int) * (q : Int) := by simp
  omega

/-- What a call makes: a matrix in new memory. -/
def NewM (H : Nat) (w' : World) (r c : Nat) (S : List Nat) (v : Value) : Prop := ∃ ao cap, v = .agg #[.int .i64 r, .int .i64 c, .slice ao S.length cap] ∧ NewB H ao (mxL S) ∧ BitsAt w' ao cap (mxL S)
theorem NewM.zero (H : Nat) (w : World) : NewM H w 0 0 [] (.agg #[.int .i64 0, .int .i64 0, .slice .none 0 0]) := ⟨.none, 0, rfl, .inl rfl, BitsAt.none w 0⟩
theorem NewM.below {H : Nat} {w w' : World} {r c : Nat} {S : List Nat} {v : Value} (h : NewM H w r c S v) (hb : Below w.heap.size w w') : NewM H w' r c S v := by
  obtain ⟨ao, cap, h1, h2, h3⟩ := h
  exact ⟨ao, cap, h1, h2, h3.below hb⟩
end Go.Proofs.YtceofkjefmilfaaGreatDoor

/- The reference's Tame. -/
namespace Go.Proofs.YtceofkjefmilfaaGreatDoor
open Go.RowKit
attribute [local go_sem ↓] Go.wp_at_zero Go.wp_at_succ

/-- Is a number 0, or neither very great nor very small? -/
def tmB (K : Int) (x : Nat) : Bool := fFin x && (decide (fK x = 0) || decide (-K ≤ eX x ∧ eX x < K))
end Go.Proofs.YtceofkjefmilfaaGreatDoor

/- Exact numbers at a level: the reference's values, products, powers of two. -/
namespace Go.Proofs.YtceofkjefmilfaaGreatDoor
open Go.RowKit

/-- The number z times 2^lo. -/
def IsLv (w : World) (v : Value) (lo z : Int) : Prop := IsDy w v (oM z) (oE z lo)
theorem IsLv.below {w w' : World} {v : Value} {lo z : Int} (h : IsLv w v lo z) (hb : Below w.heap.size w w') : IsLv w' v lo z := IsDy.below h hb
theorem IsLv.zero (w : World) (lo : Int) : IsLv w (.agg #[.bool false, .slice none 0 0, .int .i64 0]) lo 0 := by
  unfold IsLv
  rw [oM_zero, oE_zero]
  exact IsDy.zero w none 0
end Go.Proofs.YtceofkjefmilfaaGreatDoor

