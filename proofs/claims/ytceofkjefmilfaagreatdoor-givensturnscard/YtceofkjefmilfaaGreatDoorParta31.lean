/- Part 31 of the texts. -/
import Derived.Test.YtceofkjefmilfaaGreatDoorParta30
import Derived.Test.YtceofkjefmilfaaGreatDoorParta29
import Derived.Test.YtceofkjefmilfaaGreatDoorParta28
import Derived.Test.YtceofkjefmilfaaGreatDoorParta25
import Derived.Test.YtceofkjefmilfaaGreatDoorParta23
import Derived.Test.YtceofkjefmilfaaGreatDoorParta26
/- Exact numbers in rows; grids of them. -/
namespace Go.Proofs.YtceofkjefmilfaaGreatDoor
open Go.RowKit

/-- Block g holds no limb. -/
def Clr (w : World) (g : Nat) : Prop := ∃ cur e, w.heap[g]? = some (.cells cur e (0, 0)) ∧ ∀ u ∈ cur.toList, noLimb u = true
theorem Clr.limbs {w : World} {g : Nat} (h : Clr w g) {ao : Option Addr} {cap : Nat} {L : List Nat} (hL : LimbsAt w ao cap L) (j : Nat) (u : Value) : LimbsAt (w.setCell ⟨g, j, none⟩ u) ao cap L := by
  refine ⟨hL.1, hL.2.1, ?_⟩
  have hc : Clear w (.slice (some ⟨g, 0, none⟩) 0 0) := fun k hk => by cases hk; exact h
  rcases hc.limbs hL with e | ⟨b, off, h1, h2, h3, h4⟩
  · exact .inl e
  · have hne : b ≠ g := fun e => h3 (by rw [e]; rfl)
    refine .inr ⟨b, off, h1, by simpa [World.setCell] using h2, fun i hi => ?_⟩
    rw [cell_setCell_other _ _ _ _ (show b ≠ g from hne)]
    exact h4 i hi
theorem Clr.num {B : Nat} {w : World} {g : Nat} (h : Clr w g) {v : Value} {z : Int} (hv : IsNum B w v z) (j : Nat) (u : Value) : IsNum B (w.setCell ⟨g, j, none⟩ u) v z := by
  obtain ⟨neg, ao, cap, L, h1, h2, h3⟩ := hv
  exact ⟨neg, ao, cap, L, h1, h.limbs h2 j u, h3⟩
theorem Clr.lv {w : World} {g : Nat} (h : Clr w g) {v : Value} {lo z : Int} (hv : IsLv w v lo z) (j : Nat) (u : Value) : IsLv (w.setCell ⟨g, j, none⟩ u) v lo z := by
  obtain ⟨neg, ao, cap, L, h1, h2⟩ := hv
  exact ⟨neg, ao, cap, L, h1, h.num h2 j u⟩

/-- Block b is a box of three cells, of type T. -/
def BoxT (T : Nat) (w : World) (b : Nat) (x y z : Value) : Prop := w.heap[b]? = some (.cells #[x, y, z] T (0, 0))
theorem BoxT.c0 {T : Nat} {w : World} {b : Nat} {x y z : Value} (h : BoxT T w b x y z) : w.cell? ⟨b, 0, none⟩ = some x := by rw [cell_of_row w b 0 _ _ _ h]; rfl
theorem BoxT.c1 {T : Nat} {w : World} {b : Nat} {x y z : Value} (h : BoxT T w b x y z) : w.cell? ⟨b, 1, none⟩ = some y := by rw [cell_of_row w b 1 _ _ _ h]; rfl
theorem BoxT.c2 {T : Nat} {w : World} {b : Nat} {x y z : Value} (h : BoxT T w b x y z) : w.cell? ⟨b, 2, none⟩ = some z := by rw [cell_of_row w b 2 _ _ _ h]; rfl
theorem BoxT.free {T : Nat} {w : World} {b : Nat} {x y z : Value} (h : BoxT T w b x y z) (j : Nat) : w.frozen? ⟨b, j, none⟩ = false := frozen_of_row w b j _ _ h
theorem BoxT.lt {T : Nat} {w : World} {b : Nat} {x y z : Value} (h : BoxT T w b x y z) : b < w.heap.size := (Array.getElem?_eq_some_iff.1 h).1
theorem BoxT.below {T : Nat} {w w' : World} {b : Nat} {x y z : Value} (h : BoxT T w b x y z) {B : Nat} (hb : Below B w w') (hlt : b < B) : BoxT T w' b x y z := (hb.block b hlt).trans h
theorem BoxT.new (T : Nat) (w : World) (x y z : Value) : BoxT T (w.alloc (.cells #[x, y, z] T)) w.heap.size x y z := heap_alloc_new w _
theorem BoxT.all {T : Nat} {w w' : World} {b : Nat} {x y z : Value} (h : BoxT T w b x y z) (hb : Below w.heap.size w w') : BoxT T w' b x y z := h.below hb h.lt
theorem BoxT.other {T : Nat} {w : World} {b : Nat} {x y z : Value} (h : BoxT T w b x y z) {p : Addr} (hp : b ≠ p.block) (u : Value) : BoxT T (w.setCell p u) b x y z := (Below.heap_setCell w p u b hp).trans h
theorem BoxT.put {T : Nat} {w : World} {b : Nat} {x y z : Value} (h : BoxT T w b x y z) (u u' u'' : Value) : BoxT T (((w.setCell ⟨b, 0, none⟩ u).setCell ⟨b, 1, none⟩ u').setCell ⟨b, 2, none⟩ u'') b u u' u'' := by
  have h1 := heap_setCell_same w b 0 _ _ u h
  have h2 := heap_setCell_same (w.setCell ⟨b, 0, none⟩ u) b 1 _ _ u' h1
  have h3 := heap_setCell_same ((w.setCell ⟨b, 0, none⟩ u).setCell ⟨b, 1, none⟩ u') b 2 _ _ u'' h2
  unfold BoxT
  rw [h3]
  simp
theorem Clr.set {w : World} {g : Nat} (h : Clr w g) (k j : Nat) {u : Value} (hu : noLimb u = true) : Clr (w.setCell ⟨k, j, none⟩ u) g := by
  obtain ⟨cur, e, h1, h2⟩ := h
  by_cases hk : g = k
  · subst hk
    refine ⟨_, e, heap_setCell_same w g j _ _ u h1, fun x hx => ?_⟩
    rw [Array.toList_setIfInBounds] at hx
    rcases List.mem_or_eq_of_mem_set hx with hx | rfl
    · exact h2 x hx
    · exact hu
  · exact ⟨cur, e, (Below.heap_setCell w ⟨k, j, none⟩ u g hk).trans h1, h2⟩

/-- A number's cells. -/
structure Dn where
  neg : Bool
  ao : Option Addr
  len : Nat
  cap : Nat
  e : Int
def Dn.v (x : Dn) : Value := .agg #[.bool x.neg, .slice x.ao x.len x.cap, .int .i64 x.e]
def Dn.cs (x : Dn) : List Value := [.bool x.neg, .slice x.ao x.len x.cap, .int .i64 x.e]
def dnAt (D : List Dn) (k : Nat) : Dn := D[k]?.getD ⟨false, none, 0, 0, 0⟩
/-- v is a row of the call's own, of the first n numbers of f, at the level lo. -/
def OwnD (base : Nat) (w : World) (v : Value) (n : Nat) (lo : Int) (f : Nat → Int) : Prop :=
  ∃ D : List Dn, D.length = n ∧ w.ownsRow base 52 3 v n (D.flatMap Dn.cs) ∧ Clear w v ∧ ∀ k, k < n → IsLv w (dnAt D k).v lo (f k)
theorem OwnD.nil (base : Nat) (w : World) (lo : Int) (f : Nat → Int) : OwnD base w (.slice none 0 0) 0 lo f :=
  ⟨[], rfl, World.ownsRow_nil w base 52 3, Clear.nil w 0 0, fun k hk => by omega⟩
theorem OwnD.below {base : Nat} {w w' : World} {v : Value} {n : Nat} {lo : Int} {f : Nat → Int} (h : OwnD base w v n lo f) (hb : Below w.heap.size w w') : OwnD base w' v n lo f := by
  obtain ⟨D, h1, h2, h3, h4⟩ := h
  exact ⟨D, h1, h2.kept (row := none) ⟨hb.os, hb.tape, hb.output, hb.size, fun k hk _ => hb.block k hk⟩ (by cases hv : v.ownBlock <;> simp), h3.below hb, fun k hk => (h4 k hk).below hb⟩
theorem OwnD.lt {base : Nat} {w : World} {v : Value} {n : Nat} {lo : Int} {f : Nat → Int} (h : OwnD base w v n lo f) : ∀ k, v.ownBlock = some k → base ≤ k ∧ k < w.heap.size := by
  obtain ⟨D, h1, h2, h3, h4⟩ := h
  exact h2.lt
/-- A store into a box that is elder. -/
theorem OwnD.set {base : Nat} {w : World} {v : Value} {n : Nat} {lo : Int} {f : Nat → Int} (h : OwnD base w v n lo f) {g : Nat} (hc : Clr w g) (hg : g < base) (j : Nat) (u : Value) : OwnD base (w.setCell ⟨g, j, none⟩ u) v n lo f := by
  obtain ⟨D, h1, h2, h3, h4⟩ := h
  have hne : ∀ k, v.ownBlock = some k → k ≠ g := fun k hk => by have := (h2.lt k hk).1; omega
  refine ⟨D, h1, ⟨h2.1, ?_⟩, ?_, fun k hk => hc.lv (h4 k hk) j u⟩
  · rcases h2.2 with e | ⟨k, cap, cur, hv, hk, hh, rest⟩
    · exact .inl e
    · exact .inr ⟨k, cap, cur, hv, hk, (Below.heap_setCell w ⟨g, j, none⟩ u k (hne k (by rw [hv]; rfl))).trans hh, rest⟩
  · intro k hk
    obtain ⟨cur, e, g1, g2⟩ := h3 k hk
    exact ⟨cur, e, (Below.heap_setCell w ⟨g, j, none⟩ u k (hne k hk)).trans g1, g2⟩

/-- n numbers lie at ao. -/
def DysAt (w : World) (ao : Option Addr) (cap n : Nat) (lo : Int) (f : Nat → Int) : Prop :=
  n ≤ cap ∧ (n = 0 ∨ ∃ b off, ao = some ⟨b, off, none⟩ ∧ b < w.heap.size ∧ ∀ k, k < n → ∃ x : Dn, w.cell? ⟨b, off + k * 3, none⟩ = some (.bool x.neg) ∧ w.cell? ⟨b, off + k * 3 + 1, none⟩ = some (.slice x.ao x.len x.cap) ∧ w.cell? ⟨b, off + k * 3 + 2, none⟩ = some (.int .i64 x.e) ∧ IsLv w x.v lo (f k))
theorem DysAt.below {w w' : World} {ao : Option Addr} {cap n : Nat} {lo : Int} {f : Nat → Int} (h : DysAt w ao cap n lo f) (hb : Below w.heap.size w w') : DysAt w' ao cap n lo f := by
  refine ⟨h.1, ?_⟩
  rcases h.2 with e | ⟨b, off, h1, h2, h3⟩
  · exact .inl e
  · refine .inr ⟨b, off, h1, Nat.lt_of_lt_of_le h2 hb.size, fun k hk => ?_⟩
    obtain ⟨x, c0, c1, c2, hx⟩ := h3 k hk
    refine ⟨x, ?_, ?_, ?_, hx.below hb⟩
    · rw [hb.cell (p := ⟨b, off + k * 3, none⟩) h2]; exact c0
    · rw [hb.cell (p := ⟨b, off + k * 3 + 1, none⟩) h2]; exact c1
    · rw [hb.cell (p := ⟨b, off + k * 3 + 2, none⟩) h2]; exact c2
theorem DysAt.congr {w : World} {ao : Option Addr} {cap n : Nat} {lo : Int} {f g : Nat → Int} (h : DysAt w ao cap n lo f) (he : ∀ k, k < n → f k = g k) : DysAt w ao cap n lo g := by
  refine ⟨h.1, ?_⟩
  rcases h.2 with e | ⟨b, off, h1, h2, h3⟩
  · exact .inl e
  · refine .inr ⟨b, off, h1, h2, fun k hk => ?_⟩
    obtain ⟨x, c0, c1, c2, hx⟩ := h3 k hk
    exact ⟨x, c0, c1, c2, by rw [← he k hk]; exact hx⟩
/-- A grid of numbers at a level. -/
def Gr (w : World) (ao : Option Addr) (cap r c : Nat) (lo : Int) (F : Nat → Nat → Int) : Prop := DysAt w ao cap (r * c) lo (fun p => F (p / c) (p % c)) ∧ r ≤ 6 ∧ c ≤ 6
theorem Gr.below {w w' : World} {ao : Option Addr} {cap r c : Nat} {lo : Int} {F : Nat → Nat → Int} (h : Gr w ao cap r c lo F) (hb : Below w.heap.size w w') : Gr w' ao cap r c lo F := ⟨h.1.below hb, h.2⟩
theorem Gr.congr {w : World} {ao : Option Addr} {cap r c : Nat} {lo : Int} {F G : Nat → Nat → Int} (h : Gr w ao cap r c lo F) (he : ∀ i k, i < r → k < c → F i k = G i k) : Gr w ao cap r c lo G := by
  refine ⟨h.1.congr fun p hp => ?_, h.2⟩
  have hc : 0 < c := by
    rcases Nat.eq_zero_or_pos c with e | e
    · subst e; simp at hp
    · exact e
  exact he _ _ (Nat.div_lt_of_lt_mul (by rw [Nat.mul_comm]; exact hp)) (Nat.mod_lt _ hc)

end Go.Proofs.YtceofkjefmilfaaGreatDoor

/- Package plain: operations without their flags; package givens: place, rowOf, columnOf, check, turnedPair. -/
namespace Go.Proofs.YtceofkjefmilfaaGreatDoor
open Go.RowKit
attribute [local go_sem ↓] Go.wp_at_zero Go.wp_at_succ
set_option maxRecDepth 20000 in
set_option maxHeartbeats 2000000 in
theorem pdiv_any (a b : Nat) (w : World) (ha : a < 18446744073709551616) (hb : b < 18446744073709551616) (hT : Tab w) :
    Calls Tryz.prog 78 #[.int .u64 a, .int .u64 b] w fun r w' => r = .returned (.int .u64 (dV a b : Nat)) ∧ Below w.heap.size w w' := by
  have K := hide (tdiv_any a b w ha hb hT)
  clear ha hb hT
  generalize dV a b = o at *
  generalize dF a b = f at *
  go_enter Tryz.func78, Tryz.ntmps78
  go_wp2_with fail
  refine Calls.mono (unhide K) ?_
  rintro e w1 ⟨rfl, hb1⟩
  clear K
  go_wp2
  go_ret
  exact ⟨rfl, hb1⟩

set_option maxRecDepth 20000 in
set_option maxHeartbeats 2000000 in
theorem psqrt_any (a : Nat) (w : World) (ha : a < 18446744073709551616) (hT : Tab w) :
    Calls Tryz.prog 75 #[.int .u64 a] w fun r w' => r = .returned (.int .u64 (sV a : Nat)) ∧ Below w.heap.size w w' := by
  have K := hide (rsqrt_any a w ha hT)
  clear ha hT
  generalize sV a = o at *
  generalize sF a = f at *
  go_enter Tryz.func75, Tryz.ntmps75
  go_wp2_with fail
  refine Calls.mono (unhide K) ?_
  rintro e w1 ⟨rfl, hb1⟩
  clear K
  go_wp2
  go_ret
  exact ⟨rfl, hb1⟩

end Go.Proofs.YtceofkjefmilfaaGreatDoor

/- Plane turns: c, s, r; c c + s s is 1, c f + s g is r, c g - s f is 0, but for some parts in 2^53. Ahead of stage 12. -/
namespace Go.Proofs.YtceofkjefmilfaaGreatDoor
open Go.RowKit
/-- The turn of two numbers that are not 0. -/
def gvK (f g : Nat) : Int := eX (max (fR f) (fR g))
def gvN (f g : Nat) : Nat := sV (aV (mV (xV f (-gvK f g)) (xV f (-gvK f g))) (mV (xV g (-gvK f g)) (xV g (-gvK f g))))

end Go.Proofs.YtceofkjefmilfaaGreatDoor

/- Package matrix: Turn, Zeros, Eye. -/
namespace Go.Proofs.YtceofkjefmilfaaGreatDoor
open Go.RowKit
attribute [local go_sem ↓] Go.wp_at_zero Go.wp_at_succ

theorem NewM.putM {H : Nat} {w : World} {r c : Nat} {S : List Nat} {v : Value} (h : NewM H w r c S v) {g : Nat} {x y : Int} {a : Option Addr} {n d : Nat} (hx : BoxM w g (.int .i64 x) (.int .i64 y) (.slice a n d)) (u u' u'' : Value) :
    NewM H (((w.setCell ⟨g, 0, none⟩ u).setCell ⟨g, 1, none⟩ u').setCell ⟨g, 2, none⟩ u'') r c S v := by
  obtain ⟨ao, cap, h1, h2, h3⟩ := h
  exact ⟨ao, cap, h1, h2, h3.putM hx u u' u''⟩
end Go.Proofs.YtceofkjefmilfaaGreatDoor

/- The reference of layer 10: With, Copy, Same. -/
namespace Go.Proofs.YtceofkjefmilfaaGreatDoor
open Go.RowKit
attribute [local go_sem ↓] Go.wp_at_zero Go.wp_at_succ

/-- A number of a list of one's own written over. -/
theorem OwnB.at {base : Nat} {w : World} {ao : Option Addr} {n cap : Nat} {S : List Nat} (h : OwnB base w (.slice ao n cap) S) {j : Nat} (hj : j < S.length) :
    ∃ g, ao = some ⟨g, 0, none⟩ ∧ base ≤ g ∧ g < w.heap.size ∧ w.cell? ⟨g, j, none⟩ = some (.int .u64 (S.getD j 0 : Nat)) ∧ w.frozen? ⟨g, j, none⟩ = false ∧
      ∀ x, x < 18446744073709551616 → OwnB base (w.setCell ⟨g, j, none⟩ (.int .u64 (x : Nat))) (.slice ao n cap) (S.set j x) := by
  obtain ⟨⟨h1, h2⟩, h3⟩ := h
  rcases h2 with ⟨_, h0⟩ | ⟨g, cap', cur, hv, hg, hh, hc, hm, hs, ht⟩
  · omega
  · simp only [Value.slice.injEq] at hv
    obtain ⟨rfl, rfl, rfl⟩ := hv
    have q : (S.map bitV)[j]? = some (.int .u64 ((S[j] : Nat) : Int)) := by
      rw [List.getElem?_map, List.getElem?_eq_getElem hj]; rfl
    rw [← ht, List.getElem?_take, if_pos (by omega)] at q
    refine ⟨g, rfl, hg, (Array.getElem?_eq_some_iff.1 hh).1, ?_, frozen_of_row w g j _ _ hh, fun x hx => ⟨⟨by simp, .inr ⟨g, cap, cur.setIfInBounds j (.int .u64 (x : Nat)), ?_, hg, heap_setCell_same w g j _ _ _ hh, by simpa using hc, hm, by simpa using hs, ?_⟩⟩, ?_⟩⟩
    · rw [cell_of_row w g j _ _ _ hh]
      have e : S.getD j 0 = S[j] := by rw [List.getD_eq_getElem?_getD, List.getElem?_eq_getElem hj]; rfl
      rw [e]
      simpa using q
    · simp
    · rw [Array.toList_setIfInBounds, List.take_set, List.length_set, ht, List.map_set]
      rfl
    · intro y hy
      rcases List.mem_or_eq_of_mem_set hy with e | e
      · exact h3 y e
      · rw [e]; exact hx

end Go.Proofs.YtceofkjefmilfaaGreatDoor

