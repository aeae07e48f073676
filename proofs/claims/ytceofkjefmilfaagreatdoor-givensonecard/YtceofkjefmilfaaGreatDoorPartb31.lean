/- Part 31 of the texts. -/
import Derived.Test.YtceofkjefmilfaaGreatDoorPartb30
import Derived.Test.YtceofkjefmilfaaGreatDoorPartb28
import Derived.Test.YtceofkjefmilfaaGreatDoorPartb29
import Derived.Test.YtceofkjefmilfaaGreatDoorPartb27
import Derived.Test.YtceofkjefmilfaaGreatDoorPartb25
import Derived.Test.YtceofkjefmilfaaGreatDoorPartb23
import Derived.Test.YtceofkjefmilfaaGreatDoorPartb26
/- Minors and the rank, over whole numbers. No program. -/
namespace Go.Proofs.YtceofkjefmilfaaGreatDoor

/-- Places that rise, all below m. -/
def Rise (m : Nat) (I : List Nat) : Prop := I.Pairwise (· < ·) ∧ ∀ i ∈ I, i < m

/-- The minor of the rows I and the columns C. -/
def minorD (a : Nat → Nat → Int) (I C : List Nat) : Int := detD (I.map a) C

/-- All minors of k rows and columns are 0. -/
def Van (k : Nat) (a : Nat → Nat → Int) (m n : Nat) : Prop := ∀ I C, Rise m I → Rise n C → I.length = k → C.length = k → minorD a I C = 0

theorem dup_split : ∀ (I : List Nat), ¬ I.Nodup → ∃ pre i mid post, I = pre ++ i :: (mid ++ i :: post)
  | [], h => absurd List.nodup_nil h
  | i :: I, h => by
    by_cases hi : i ∈ I
    · obtain ⟨s, t, rfl⟩ := List.append_of_mem hi
      exact ⟨[], i, s, t, rfl⟩
    · have : ¬ I.Nodup := fun hn => h (List.nodup_cons.2 ⟨hi, hn⟩)
      obtain ⟨pre, j, mid, post, e⟩ := dup_split I this
      exact ⟨i :: pre, j, mid, post, by rw [e]; rfl⟩

/-- All minors vanish, the rows in whatever order, also if some stand twice. -/
theorem Van.all {k : Nat} {a : Nat → Nat → Int} {m n : Nat} (h : Van k a m n) (I C : List Nat) (hI : ∀ i ∈ I, i < m) (hC : Rise n C) (lI : I.length = k) (lC : C.length = k) : minorD a I C = 0 := by
  by_cases hn : I.Nodup
  · have hp : (I.mergeSort (fun x y => decide (x ≤ y))).Perm I := List.mergeSort_perm I _
    have hs : (I.mergeSort (fun x y => decide (x ≤ y))).Pairwise (fun x y => decide (x ≤ y) = true) := List.pairwise_mergeSort (fun x y z h1 h2 => by simp at *; omega) (fun x y => by simp; omega) I
    have hn' : (I.mergeSort (fun x y => decide (x ≤ y))).Nodup := hp.nodup_iff.2 hn
    have hr : Rise m (I.mergeSort (fun x y => decide (x ≤ y))) := by
      refine ⟨?_, fun i hi => hI i (hp.mem_iff.1 hi)⟩
      have h2 := List.Pairwise.and hs hn'
      exact h2.imp (fun h => by simp at h; omega)
    obtain ⟨p, _, hd⟩ := detD_perm (hp.map a)
    have h0 := h _ C hr hC (by rw [hp.length_eq]; exact lI) lC
    unfold minorD at h0 ⊢
    have h1 := hd C
    rw [h0] at h1
    rcases (show p = 1 ∨ p = -1 by assumption) with rfl | rfl <;> omega
  · obtain ⟨pre, i, mid, post, rfl⟩ := dup_split I hn
    unfold minorD
    simp only [List.map_append, List.map_cons]
    exact detD_twice (a i) (post.map a) (pre.map a) (mid.map a) C

end Go.Proofs.YtceofkjefmilfaaGreatDoor

/- Sums of whole numbers: put in order by rows or by columns, none of them below 0, bounded; what stage 11 tells, in units of powers of two; rows scaled keep the rank; no program. Ahead of stage 11. -/
namespace Go.Proofs.YtceofkjefmilfaaGreatDoor
open Go.RowKit
theorem Lvl.times {lo1 lo2 : Int} {W1 W2 : Nat} {z1 z2 : Int} (h1 : Lvl lo1 W1 z1) (h2 : Lvl lo2 W2 z2) (b1 : -16384 ≤ lo1 + lo2) (b2 : lo1 + lo2 + (W1 + W2 : Nat) ≤ 16384) (b3 : W1 + W2 ≤ 16384) : Lvl (lo1 + lo2) (W1 + W2) (z1 * z2) := by
  refine ⟨?_, b1, b2, b3⟩
  rw [Int.natAbs_mul]
  exact mul_lt_pow h1.1 h2.1

theorem Lvl.less {lo : Int} {W : Nat} {z1 z2 : Int} (h1 : Lvl lo W z1) (h2 : Lvl lo W z2) (hW : lo + W + 1 ≤ 16384) (hW2 : W + 1 ≤ 16384) : Lvl lo (W + 1) (z1 - z2) := by
  refine ⟨?_, h1.2.1, by have := h1.2.2; omega, hW2⟩
  have a := h1.1
  have b := h2.1
  rw [Nat.pow_succ]
  omega

theorem fZ_one11 : fZ 4607182418800017408 = 2 ^ 1074 := by decide +kernel
theorem fZ_zero11 : fZ 0 = 0 := by decide +kernel

end Go.Proofs.YtceofkjefmilfaaGreatDoor

/- Exact numbers in rows; grids of them. -/
namespace Go.Proofs.YtceofkjefmilfaaGreatDoor
open Go.RowKit

/-- Block g holds no limb. -/
def Clr (w : World) (g : Nat) : Prop := ∃ cur e, w.heap[g]? = some (.cells cur e (0, 0)) ∧ ∀ u ∈ cur.toList, noLimb u = true
theorem Clr.limbs {w : World} {g : Nat} (h : Clr w g) {ao : Option Addr} {cap : Nat} {L : List Nat} (hL : LimbsAt w ao cap L) (j : Nat) (u : Value) : LimbsAt (w.setCell ⟨g, j, none⟩ u) ao cap L := by
  refine ⟨hL.1, hL.2.1, ?_⟩
  have hc : Clear w (.slice (some ⟨g, 0, none⟩) 0 0) := fun k hk => by cases hk; exact h
  rcases hc.limbs hL with e | ⟨b, off, h1, h2, h3, h4⟩
  · exact .inl e
  · have hne : b ≠ g := fun e => h3 (by rw [e]; rfl)
    refine .inr ⟨b, off, h1, by simpa [World.setCell] using h2, fun i hi => ?_⟩
    rw [cell_setCell_other _ _ _ _ (show b ≠ g from hne)]
    exact h4 i hi
theorem Clr.num {B : Nat} {w : World} {g : Nat} (h : Clr w g) {v : Value} {z : Int} (hv : IsNum B w v z) (j : Nat) (u : Value) : IsNum B (w.setCell ⟨g, j, none⟩ u) v z := by
  obtain ⟨neg, ao, cap, L, h1, h2, h3⟩ := hv
  exact ⟨neg, ao, cap, L, h1, h.limbs h2 j u, h3⟩
theorem Clr.lv {w : World} {g : Nat} (h : Clr w g) {v : Value} {lo z : Int} (hv : IsLv w v lo z) (j : Nat) (u : Value) : IsLv (w.setCell ⟨g, j, none⟩ u) v lo z := by
  obtain ⟨neg, ao, cap, L, h1, h2⟩ := hv
  exact ⟨neg, ao, cap, L, h1, h.num h2 j u⟩

/-- Block b is a box of three cells, of type T. -/
def BoxT (T : Nat) (w : World) (b : Nat) (x y z : Value) : Prop := w.heap[b]? = some (.cells #[x, y, z] T (0, 0))
theorem BoxT.c0 {T : Nat} {w : World} {b : Nat} {x y z : Value} (h : BoxT T w b x y z) : w.cell? ⟨b, 0, none⟩ = some x := by rw [cell_of_row w b 0 _ _ _ h]; rfl
theorem BoxT.c1 {T : Nat} {w : World} {b : Nat} {x y z : Value} (h : BoxT T w b x y z) : w.cell? ⟨b, 1, none⟩ = some y := by rw [cell_of_row w b 1 _ _ _ h]; rfl
theorem BoxT.c2 {T : Nat} {w : World} {b : Nat} {x y z : Value} (h : BoxT T w b x y z) : w.cell? ⟨b, 2, none⟩ = some z := by rw [cell_of_row w b 2 _ _ _ h]; rfl
theorem BoxT.lt {T : Nat} {w : World} {b : Nat} {x y z : Value} (h : BoxT T w b x y z) : b < w.heap.size := (Array.getElem?_eq_some_iff.1 h).1
theorem BoxT.below {T : Nat} {w w' : World} {b : Nat} {x y z : Value} (h : BoxT T w b x y z) {B : Nat} (hb : Below B w w') (hlt : b < B) : BoxT T w' b x y z := (hb.block b hlt).trans h
theorem BoxT.all {T : Nat} {w w' : World} {b : Nat} {x y z : Value} (h : BoxT T w b x y z) (hb : Below w.heap.size w w') : BoxT T w' b x y z := h.below hb h.lt
theorem Clr.set {w : World} {g : Nat} (h : Clr w g) (k j : Nat) {u : Value} (hu : noLimb u = true) : Clr (w.setCell ⟨k, j, none⟩ u) g := by
  obtain ⟨cur, e, h1, h2⟩ := h
  by_cases hk : g = k
  · subst hk
    refine ⟨_, e, heap_setCell_same w g j _ _ u h1, fun x hx => ?_⟩
    rw [Array.toList_setIfInBounds] at hx
    rcases List.mem_or_eq_of_mem_set hx with hx | rfl
    · exact h2 x hx
    · exact hu
  · exact ⟨cur, e, (Below.heap_setCell w ⟨k, j, none⟩ u g hk).trans h1, h2⟩

/-- A number's cells. -/
structure Dn where
  neg : Bool
  ao : Option Addr
  len : Nat
  cap : Nat
  e : Int
def Dn.v (x : Dn) : Value := .agg #[.bool x.neg, .slice x.ao x.len x.cap, .int .i64 x.e]
def Dn.cs (x : Dn) : List Value := [.bool x.neg, .slice x.ao x.len x.cap, .int .i64 x.e]
def dnAt (D : List Dn) (k : Nat) : Dn := D[k]?.getD ⟨false, none, 0, 0, 0⟩
/-- v is a row of the call's own, of the first n numbers of f, at the level lo. -/
def OwnD (base : Nat) (w : World) (v : Value) (n : Nat) (lo : Int) (f : Nat → Int) : Prop :=
  ∃ D : List Dn, D.length = n ∧ w.ownsRow base 52 3 v n (D.flatMap Dn.cs) ∧ Clear w v ∧ ∀ k, k < n → IsLv w (dnAt D k).v lo (f k)
theorem OwnD.nil (base : Nat) (w : World) (lo : Int) (f : Nat → Int) : OwnD base w (.slice none 0 0) 0 lo f :=
  ⟨[], rfl, World.ownsRow_nil w base 52 3, Clear.nil w 0 0, fun k hk => by omega⟩
theorem OwnD.below {base : Nat} {w w' : World} {v : Value} {n : Nat} {lo : Int} {f : Nat → Int} (h : OwnD base w v n lo f) (hb : Below w.heap.size w w') : OwnD base w' v n lo f := by
  obtain ⟨D, h1, h2, h3, h4⟩ := h
  exact ⟨D, h1, h2.kept (row := none) ⟨hb.os, hb.tape, hb.output, hb.size, fun k hk _ => hb.block k hk⟩ (by cases hv : v.ownBlock <;> simp), h3.below hb, fun k hk => (h4 k hk).below hb⟩
theorem OwnD.lt {base : Nat} {w : World} {v : Value} {n : Nat} {lo : Int} {f : Nat → Int} (h : OwnD base w v n lo f) : ∀ k, v.ownBlock = some k → base ≤ k ∧ k < w.heap.size := by
  obtain ⟨D, h1, h2, h3, h4⟩ := h
  exact h2.lt
/-- A store into a box that is elder. -/
theorem OwnD.set {base : Nat} {w : World} {v : Value} {n : Nat} {lo : Int} {f : Nat → Int} (h : OwnD base w v n lo f) {g : Nat} (hc : Clr w g) (hg : g < base) (j : Nat) (u : Value) : OwnD base (w.setCell ⟨g, j, none⟩ u) v n lo f := by
  obtain ⟨D, h1, h2, h3, h4⟩ := h
  have hne : ∀ k, v.ownBlock = some k → k ≠ g := fun k hk => by have := (h2.lt k hk).1; omega
  refine ⟨D, h1, ⟨h2.1, ?_⟩, ?_, fun k hk => hc.lv (h4 k hk) j u⟩
  · rcases h2.2 with e | ⟨k, cap, cur, hv, hk, hh, rest⟩
    · exact .inl e
    · exact .inr ⟨k, cap, cur, hv, hk, (Below.heap_setCell w ⟨g, j, none⟩ u k (hne k (by rw [hv]; rfl))).trans hh, rest⟩
  · intro k hk
    obtain ⟨cur, e, g1, g2⟩ := h3 k hk
    exact ⟨cur, e, (Below.heap_setCell w ⟨g, j, none⟩ u k (hne k hk)).trans g1, g2⟩

/-- n numbers lie at ao. -/
def DysAt (w : World) (ao : Option Addr) (cap n : Nat) (lo : Int) (f : Nat → Int) : Prop :=
  n ≤ cap ∧ (n = 0 ∨ ∃ b off, ao = some ⟨b, off, none⟩ ∧ b < w.heap.size ∧ ∀ k, k < n → ∃ x : Dn, w.cell? ⟨b, off + k * 3, none⟩ = some (.bool x.neg) ∧ w.cell? ⟨b, off + k * 3 + 1, none⟩ = some (.slice x.ao x.len x.cap) ∧ w.cell? ⟨b, off + k * 3 + 2, none⟩ = some (.int .i64 x.e) ∧ IsLv w x.v lo (f k))
theorem DysAt.below {w w' : World} {ao : Option Addr} {cap n : Nat} {lo : Int} {f : Nat → Int} (h : DysAt w ao cap n lo f) (hb : Below w.heap.size w w') : DysAt w' ao cap n lo f := by
  refine ⟨h.1, ?_⟩
  rcases h.2 with e | ⟨b, off, h1, h2, h3⟩
  · exact .inl e
  · refine .inr ⟨b, off, h1, Nat.lt_of_lt_of_le h2 hb.size, fun k hk => ?_⟩
    obtain ⟨x, c0, c1, c2, hx⟩ := h3 k hk
    refine ⟨x, ?_, ?_, ?_, hx.below hb⟩
    · rw [hb.cell (p := ⟨b, off + k * 3, none⟩) h2]; exact c0
    · rw [hb.cell (p := ⟨b, off + k * 3 + 1, none⟩) h2]; exact c1
    · rw [hb.cell (p := ⟨b, off + k * 3 + 2, none⟩) h2]; exact c2
theorem DysAt.congr {w : World} {ao : Option Addr} {cap n : Nat} {lo : Int} {f g : Nat → Int} (h : DysAt w ao cap n lo f) (he : ∀ k, k < n → f k = g k) : DysAt w ao cap n lo g := by
  refine ⟨h.1, ?_⟩
  rcases h.2 with e | ⟨b, off, h1, h2, h3⟩
  · exact .inl e
  · refine .inr ⟨b, off, h1, h2, fun k hk => ?_⟩
    obtain ⟨x, c0, c1, c2, hx⟩ := h3 k hk
    exact ⟨x, c0, c1, c2, by rw [← he k hk]; exact hx⟩
theorem DysAt.lower {w : World} {ao : Option Addr} {cap n : Nat} {lo : Int} {f : Nat → Int} (h : DysAt w ao cap n lo f) (j : Nat) : DysAt w ao cap n (lo - j) (fun k => f k * 2 ^ j) := by
  refine ⟨h.1, ?_⟩
  rcases h.2 with e | ⟨b, off, h1, h2, h3⟩
  · exact .inl e
  · refine .inr ⟨b, off, h1, h2, fun k hk => ?_⟩
    obtain ⟨x, c0, c1, c2, hx⟩ := h3 k hk
    exact ⟨x, c0, c1, c2, hx.lower j⟩
/-- A grid of numbers at a level. -/
def Gr (w : World) (ao : Option Addr) (cap r c : Nat) (lo : Int) (F : Nat → Nat → Int) : Prop := DysAt w ao cap (r * c) lo (fun p => F (p / c) (p % c)) ∧ r ≤ 6 ∧ c ≤ 6
theorem Gr.below {w w' : World} {ao : Option Addr} {cap r c : Nat} {lo : Int} {F : Nat → Nat → Int} (h : Gr w ao cap r c lo F) (hb : Below w.heap.size w w') : Gr w' ao cap r c lo F := ⟨h.1.below hb, h.2⟩
theorem Gr.lower {w : World} {ao : Option Addr} {cap r c : Nat} {lo : Int} {F : Nat → Nat → Int} (h : Gr w ao cap r c lo F) (j : Nat) : Gr w ao cap r c (lo - j) (fun i k => F i k * 2 ^ j) := ⟨h.1.lower j, h.2⟩
theorem Gr.congr {w : World} {ao : Option Addr} {cap r c : Nat} {lo : Int} {F G : Nat → Nat → Int} (h : Gr w ao cap r c lo F) (he : ∀ i k, i < r → k < c → F i k = G i k) : Gr w ao cap r c lo G := by
  refine ⟨h.1.congr fun p hp => ?_, h.2⟩
  have hc : 0 < c := by
    rcases Nat.eq_zero_or_pos c with e | e
    · subst e; simp at hp
    · exact e
  exact he _ _ (Nat.div_lt_of_lt_mul (by rw [Nat.mul_comm]; exact hp)) (Nat.mod_lt _ hc)

end Go.Proofs.YtceofkjefmilfaaGreatDoor

/- Package plain: operations without their flags; package givens: place, rowOf, columnOf, check, turnedPair. -/
namespace Go.Proofs.YtceofkjefmilfaaGreatDoor
open Go.RowKit
attribute [local go_sem ↓] Go.wp_at_zero Go.wp_at_succ
set_option maxRecDepth 20000 in
set_option maxHeartbeats 2000000 in
theorem pdiv_any (a b : Nat) (w : World) (ha : a < 18446744073709551616) (hb : b < 18446744073709551616) (hT : Tab w) :
    Calls Tryz.prog 78 #[.int .u64 a, .int .u64 b] w fun r w' => r = .returned (.int .u64 (dV a b : Nat)) ∧ Below w.heap.size w w' := by
  have K := hide (tdiv_any a b w ha hb hT)
  clear ha hb hT
  generalize dV a b = o at *
  generalize dF a b = f at *
  go_enter Tryz.func78, Tryz.ntmps78
  go_wp2_with fail
  refine Calls.mono (unhide K) ?_
  rintro e w1 ⟨rfl, hb1⟩
  clear K
  go_wp2
  go_ret
  exact ⟨rfl, hb1⟩

set_option maxRecDepth 20000 in
set_option maxHeartbeats 2000000 in
theorem psqrt_any (a : Nat) (w : World) (ha : a < 18446744073709551616) (hT : Tab w) :
    Calls Tryz.prog 75 #[.int .u64 a] w fun r w' => r = .returned (.int .u64 (sV a : Nat)) ∧ Below w.heap.size w w' := by
  have K := hide (rsqrt_any a w ha hT)
  clear ha hT
  generalize sV a = o at *
  generalize sF a = f at *
  go_enter Tryz.func75, Tryz.ntmps75
  go_wp2_with fail
  refine Calls.mono (unhide K) ?_
  rintro e w1 ⟨rfl, hb1⟩
  clear K
  go_wp2
  go_ret
  exact ⟨rfl, hb1⟩

end Go.Proofs.YtceofkjefmilfaaGreatDoor

/- Quotients of numbers, as rational ones: how far they err. Ahead of stage 12. -/
namespace Go.Proofs.YtceofkjefmilfaaGreatDoor
open Go.RowKit

theorem stk_err (N d : Nat) (hd : 0 < d) : stk N d * d ≤ 2 * N + d ∧ 2 * N ≤ stk N d * d + d := by
  have h1 := Nat.div_add_mod N d
  have h2 := Nat.mod_lt N hd
  unfold stk
  split
  · have e : (2 * (N / d) + 0) * d = 2 * (d * (N / d)) := by rw [Nat.add_zero, Nat.mul_assoc, Nat.mul_comm d]
    rw [e]
    generalize d * (N / d) = Q at *
    omega
  · have e : (2 * (N / d) + 1) * d = 2 * (d * (N / d)) + d := by rw [Nat.add_mul, Nat.mul_assoc, Nat.one_mul, Nat.mul_comm d]
    rw [e]
    generalize d * (N / d) = Q at *
    omega

/-- What is rounded to the quotient, times the divisor, is the number, but for a part in 2^128. -/
theorem quo_near (a b : Nat) (ha : a < 18446744073709551616) (hb : b < 18446744073709551616) (fa : fFin a = true) (fb : fFin b = true) (a0 : fK a ≠ 0) (b0 : fK b ≠ 0) :
    340282366920938463463374607431768211456 * (xE (qS a b) (fX a - fX b - 181) * ab (fQ b)) ≤ 340282366920938463463374607431768211456 * ab (fQ a) + ab (fQ a) ∧
    340282366920938463463374607431768211456 * ab (fQ a) ≤ 340282366920938463463374607431768211456 * (xE (qS a b) (fX a - fX b - 181) * ab (fQ b)) + ab (fQ a) := by
  obtain ⟨x1, x2, x3, x4, x5, x6, x7, x8, x9⟩ := sc_facts a ha fa a0
  obtain ⟨y1, y2, y3, y4, y5, y6, y7, y8, y9⟩ := sc_facts b hb fb b0
  have eA : ab (fQ a) = (((fD a).natAbs * 2 ^ 180 : Nat) : Rat) * (2 * p2 (fX a - 181)) := by
    have e := fD_mag a ha fa a0 0
    rw [Int.add_zero, p2_0, Rat.mul_one, ← fQ_ab] at e
    rw [← e]
    unfold xE
    rw [Rat.natCast_mul, ← p2_nat, show fX a = ((180 : Nat) : Int) + (fX a - 181 + 1) by omega, p2_add, p2_succ, show ((180 : Nat) : Int) + (fX a - 181 + 1) - 181 = fX a - 181 by omega]
    grind
  have eB : ab (fQ b) = ((fD b).natAbs : Rat) * p2 (fX b) := by
    have e := fD_mag b hb fb b0 0
    rw [Int.add_zero, p2_0, Rat.mul_one, ← fQ_ab] at e
    exact e.symm
  have eX : xE (qS a b) (fX a - fX b - 181) * ab (fQ b) = ((qS a b * (fD b).natAbs : Nat) : Rat) * p2 (fX a - 181) := by
    rw [eB]
    unfold xE
    rw [Rat.natCast_mul, show fX a - 181 = (fX a - fX b - 181) + fX b by omega, p2_add]
    grind
  obtain ⟨s1, s2⟩ := stk_err ((fD a).natAbs * 2 ^ 180) (fD b).natAbs (by omega)
  have hP := p2_pos (fX a - 181)
  have hd : 340282366920938463463374607431768211456 * (fD b).natAbs ≤ 2 * ((fD a).natAbs * 2 ^ 180) := by
    have h1 : 2 ^ 181 ≤ (fD a).natAbs * 2 ^ 181 := Nat.le_mul_of_pos_left _ (by omega)
    have e1 : (2 : Nat) ^ 181 = 340282366920938463463374607431768211456 * 9007199254740992 := by decide
    have e2 : (2 : Nat) ^ 181 = 2 ^ 180 * 2 := by decide
    have h2 : 340282366920938463463374607431768211456 * (fD b).natAbs ≤ 340282366920938463463374607431768211456 * 9007199254740992 := Nat.mul_le_mul_left _ (by omega)
    rw [← e1] at h2
    rw [e2, ← Nat.mul_assoc] at h1
    omega
  have hq : qS a b = stk ((fD a).natAbs * 2 ^ 180) (fD b).natAbs := rfl
  rw [← hq] at s1 s2
  rw [eX, eA]
  generalize (fD a).natAbs * 2 ^ 180 = N at *
  generalize qS a b * (fD b).natAbs = Z at *
  have g1 : 340282366920938463463374607431768211456 * Z ≤ 340282366920938463463374607431768211456 * (2 * N) + 2 * N := by omega
  have g2 : 340282366920938463463374607431768211456 * (2 * N) ≤ 340282366920938463463374607431768211456 * Z + 2 * N := by omega
  have c1 := Rat.mul_le_mul_of_nonneg_left (Rat.natCast_le_natCast.2 g1) (Rat.le_of_lt hP)
  have c2 := Rat.mul_le_mul_of_nonneg_left (Rat.natCast_le_natCast.2 g2) (Rat.le_of_lt hP)
  rw [Rat.natCast_add, Rat.natCast_mul 340282366920938463463374607431768211456, Rat.natCast_mul 340282366920938463463374607431768211456, Rat.natCast_mul 2] at c1 c2
  have k1 : ((340282366920938463463374607431768211456 : Nat) : Rat) = 340282366920938463463374607431768211456 := rfl
  have k2 : ((2 : Nat) : Rat) = 2 := rfl
  rw [k1, k2] at c1 c2
  constructor <;> grind

/-- The quotient, times the divisor, errs by a part in 2^53 (and one in 2^123), or by half of the least number times the divisor (and a part in 2^127). -/
theorem div_err (a b : Nat) (ha : a < 18446744073709551616) (hb : b < 18446744073709551616) (fa : fFin a = true) (fb : fFin b = true) (a0 : fK a ≠ 0) (b0 : fK b ≠ 0) (hf : fFin (dV a b) = true) :
    10633823966279326983230456482242756608 * ab (fQ (dV a b) * fQ b - fQ a) ≤ 1180591620717411303425 * ab (fQ a) ∨
    (fR (dV a b) ≤ 4503599627370496 ∧ 170141183460469231731687303715884105728 * ab (fQ (dV a b) * fQ b - fQ a) ≤ 170141183460469231731687303715884105728 * (p2 (-1075) * ab (fQ b)) + ab (fQ a)) := by
  have hr := fR_fin _ hf
  have hd := (dV_fin a b fa fb a0 b0).1
  have hle : qV a b ≤ 9218868437227405312 := rnd_le _ _
  have hR : fR (dV a b) = qV a b := by rw [hd, fR_wrd _ _ (by omega)]
  have hS : fS (dV a b) = (fS a ^^ fS b) := by rw [hd, fS_wrd _ _ (by omega)]
  rw [hR] at hr
  have e := rnd_err (qS a b) (fX a - fX b - 181) hr
  obtain ⟨q1, q2⟩ := quo_near a b ha hb fa fb a0 b0
  have hx0 : 0 ≤ xE (qS a b) (fX a - fX b - 181) := Rat.mul_nonneg Rat.natCast_nonneg (Rat.le_of_lt (p2_pos _))
  have hy : (rv (qV a b) : Rat) * p2 (-1074) = yE (qS a b) (fX a - fX b - 181) := rfl
  have h74 : p2 (-1074) = 2 * p2 (-1075) := by rw [show (-1074 : Int) = -1075 + 1 by rfl, p2_succ]
  have hp := p2_pos (-1075)
  have n0 := mag_0 (fR a); have n1 := mag_0 (fR b)
  rw [fQ_ab, fQ_ab] at *
  rw [fQ_sign (dV a b), hS, hR, hy, fQ_sign a, fQ_sign b]
  generalize (rv (fR a) : Rat) * p2 (-1074) = A at *
  generalize (rv (fR b) : Rat) * p2 (-1074) = B at *
  generalize yE (qS a b) (fX a - fX b - 181) = Y at *
  generalize xE (qS a b) (fX a - fX b - 181) = X at *
  rw [h74] at e
  generalize p2 (-1075) = η at *
  have main : 10633823966279326983230456482242756608 * ab (Y * B - A) ≤ 1180591620717411303425 * A ∨ (qV a b ≤ 4503599627370496 ∧ 170141183460469231731687303715884105728 * ab (Y * B - A) ≤ 170141183460469231731687303715884105728 * (η * B) + A) := by
    rcases e with ⟨e1, e2⟩ | ⟨e1, e2, e3, e4⟩
    · refine .inl ?_
      have c1 := Rat.mul_le_mul_of_nonneg_left e1 n1
      have c2 := Rat.mul_le_mul_of_nonneg_left e2 n1
      unfold ab
      grind
    · refine .inr ⟨e1, ?_⟩
      have c1 := Rat.mul_le_mul_of_nonneg_left e3 n1
      have c2 := Rat.mul_le_mul_of_nonneg_left e4 n1
      unfold ab
      grind
  have k2 : ab (Y * B - A) = ab (A - Y * B) := ab_sub _ _
  cases fS a <;> cases fS b <;> simp only [Bool.xor_false, Bool.xor_true, Bool.not_true, Bool.not_false, Bool.false_eq_true, if_true, if_false]
  · exact main
  · rw [show -Y * -B - A = Y * B - A by grind]; exact main
  · rw [show -Y * B - -A = A - Y * B by grind, ← k2]; exact main
  · rw [show Y * -B - -A = A - Y * B by grind, ← k2]; exact main

end Go.Proofs.YtceofkjefmilfaaGreatDoor

