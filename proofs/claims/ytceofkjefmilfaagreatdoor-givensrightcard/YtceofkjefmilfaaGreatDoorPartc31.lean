/- Part 31 of the texts. -/
import Derived.Test.YtceofkjefmilfaaGreatDoorPartc30
import Derived.Test.YtceofkjefmilfaaGreatDoorPartc28
import Derived.Test.YtceofkjefmilfaaGreatDoorPartc29
import Derived.Test.YtceofkjefmilfaaGreatDoorPartc27
import Derived.Test.YtceofkjefmilfaaGreatDoorPartc25
import Derived.Test.YtceofkjefmilfaaGreatDoorPartc23
/- Minors and the rank, over whole numbers. No program. -/
namespace Go.Proofs.YtceofkjefmilfaaGreatDoor

/-- Places that rise, all below m. -/
def Rise (m : Nat) (I : List Nat) : Prop := I.Pairwise (· < ·) ∧ ∀ i ∈ I, i < m

/-- The minor of the rows I and the columns C. -/
def minorD (a : Nat → Nat → Int) (I C : List Nat) : Int := detD (I.map a) C

/-- All minors of k rows and columns are 0. -/
def Van (k : Nat) (a : Nat → Nat → Int) (m n : Nat) : Prop := ∀ I C, Rise m I → Rise n C → I.length = k → C.length = k → minorD a I C = 0

theorem Rise.sub {m : Nat} {I J : List Nat} (h : Rise m I) (hs : J.Sublist I) : Rise m J := ⟨h.1.sublist hs, fun i hi => h.2 i (hs.subset hi)⟩

theorem Van.succ {k : Nat} {a : Nat → Nat → Int} {m n : Nat} (h : Van k a m n) : Van (k + 1) a m n := by
  intro I C hI hC lI lC
  cases I with
  | nil => simp at lI
  | cons i I =>
    show exD (a i) C (detD (I.map a)) = 0
    rw [exD_congr (a i) C (detD (I.map a)) (fun _ => 0) (fun l hl hlen => ?_), exD_zero]
    simp only [List.length_cons] at lI
    exact h I l (hI.sub (List.sublist_cons_self i I)) (hC.sub hl) (by omega) (by omega)

theorem dup_split : ∀ (I : List Nat), ¬ I.Nodup → ∃ pre i mid post, I = pre ++ i :: (mid ++ i :: post)
  | [], h => absurd List.nodup_nil h
  | i :: I, h => by
    by_cases hi : i ∈ I
    · obtain ⟨s, t, rfl⟩ := List.append_of_mem hi
      exact ⟨[], i, s, t, rfl⟩
    · have : ¬ I.Nodup := fun hn => h (List.nodup_cons.2 ⟨hi, hn⟩)
      obtain ⟨pre, j, mid, post, e⟩ := dup_split I this
      exact ⟨i :: pre, j, mid, post, by rw [e]; rfl⟩

/-- All minors vanish, the rows in whatever order, also if some stand twice. -/
theorem Van.all {k : Nat} {a : Nat → Nat → Int} {m n : Nat} (h : Van k a m n) (I C : List Nat) (hI : ∀ i ∈ I, i < m) (hC : Rise n C) (lI : I.length = k) (lC : C.length = k) : minorD a I C = 0 := by
  by_cases hn : I.Nodup
  · have hp : (I.mergeSort (fun x y => decide (x ≤ y))).Perm I := List.mergeSort_perm I _
    have hs : (I.mergeSort (fun x y => decide (x ≤ y))).Pairwise (fun x y => decide (x ≤ y) = true) := List.pairwise_mergeSort (fun x y z h1 h2 => by simp at *; omega) (fun x y => by simp; omega) I
    have hn' : (I.mergeSort (fun x y => decide (x ≤ y))).Nodup := hp.nodup_iff.2 hn
    have hr : Rise m (I.mergeSort (fun x y => decide (x ≤ y))) := by
      refine ⟨?_, fun i hi => hI i (hp.mem_iff.1 hi)⟩
      have h2 := List.Pairwise.and hs hn'
      exact h2.imp (fun h => by simp at h; omega)
    obtain ⟨p, _, hd⟩ := detD_perm (hp.map a)
    have h0 := h _ C hr hC (by rw [hp.length_eq]; exact lI) lC
    unfold minorD at h0 ⊢
    have h1 := hd C
    rw [h0] at h1
    rcases (show p = 1 ∨ p = -1 by assumption) with rfl | rfl <;> omega
  · obtain ⟨pre, i, mid, post, rfl⟩ := dup_split I hn
    unfold minorD
    simp only [List.map_append, List.map_cons]
    exact detD_twice (a i) (post.map a) (pre.map a) (mid.map a) C

end Go.Proofs.YtceofkjefmilfaaGreatDoor

/- Sums of whole numbers: put in order by rows or by columns, none of them below 0, bounded; what stage 11 tells, in units of powers of two; rows scaled keep the rank; no program. Ahead of stage 11. -/
namespace Go.Proofs.YtceofkjefmilfaaGreatDoor
open Go.RowKit

/-- The sum of the first n numbers. -/
def smI (f : Nat → Int) : Nat → Int
  | 0 => 0
  | n + 1 => smI f n + f n

theorem smI_abs {f : Nat → Int} {B : Nat} (n : Nat) (h : ∀ i, i < n → (f i).natAbs ≤ B) : (smI f n).natAbs ≤ n * B := by
  induction n with
  | zero => rw [Nat.zero_mul]; exact Nat.le_refl 0
  | succ n ih =>
    have a := ih (fun i hi => h i (by omega))
    have b := h n (by omega)
    rw [Nat.succ_mul]
    unfold smI
    have := Int.natAbs_add_le (smI f n) (f n)
    omega

theorem Lvl.times {lo1 lo2 : Int} {W1 W2 : Nat} {z1 z2 : Int} (h1 : Lvl lo1 W1 z1) (h2 : Lvl lo2 W2 z2) (b1 : -16384 ≤ lo1 + lo2) (b2 : lo1 + lo2 + (W1 + W2 : Nat) ≤ 16384) (b3 : W1 + W2 ≤ 16384) : Lvl (lo1 + lo2) (W1 + W2) (z1 * z2) := by
  refine ⟨?_, b1, b2, b3⟩
  rw [Int.natAbs_mul]
  exact mul_lt_pow h1.1 h2.1

theorem Lvl.less {lo : Int} {W : Nat} {z1 z2 : Int} (h1 : Lvl lo W z1) (h2 : Lvl lo W z2) (hW : lo + W + 1 ≤ 16384) (hW2 : W + 1 ≤ 16384) : Lvl lo (W + 1) (z1 - z2) := by
  refine ⟨?_, h1.2.1, by have := h1.2.2; omega, hW2⟩
  have a := h1.1
  have b := h2.1
  rw [Nat.pow_succ]
  omega

/-- The exact sum of products, in units of 2^-2148. -/
def dtZ (n : Nat) (x y : Nat → Nat) : Int := smI (fun j => fZ (x j) * fZ (y j)) n

theorem fZ_one11 : fZ 4607182418800017408 = 2 ^ 1074 := by decide +kernel
theorem fZ_zero11 : fZ 0 = 0 := by decide +kernel

end Go.Proofs.YtceofkjefmilfaaGreatDoor

/- How wide the sums of stage 11 are; sums over places one after another; no program. Ahead of stage 11. -/
namespace Go.Proofs.YtceofkjefmilfaaGreatDoor
open Go.RowKit
theorem smI_lt {f : Nat → Int} {W : Nat} (n : Nat) (hn : n ≤ 8) (h : ∀ i, i < n → (f i).natAbs < 2 ^ W) : (smI f n).natAbs < 2 ^ (W + 3) := by
  have a := smI_abs (f := f) (B := 2 ^ W - 1) n (fun i hi => Nat.le_sub_one_of_lt (h i hi))
  have p := Nat.two_pow_pos W
  have e : (2 : Nat) ^ (W + 3) = 8 * 2 ^ W := by rw [Nat.pow_add]; omega
  rw [e]
  generalize (2 : Nat) ^ W = P at *
  have : n * (P - 1) ≤ 8 * (P - 1) := Nat.mul_le_mul_right _ hn
  omega

theorem mul_ltV {j k V : Nat} {x y : Int} (hV : j + k = V) (hx : x.natAbs < 2 ^ j) (hy : y.natAbs < 2 ^ k) : (x * y).natAbs < 2 ^ V := by
  subst hV
  rw [Int.natAbs_mul]
  exact mul_lt_pow hx hy
theorem smI_ltV {f : Nat → Int} {W V : Nat} (hV : W + 3 = V) (n : Nat) (hn : n ≤ 8) (h : ∀ i, i < n → (f i).natAbs < 2 ^ W) : (smI f n).natAbs < 2 ^ V := by
  subst hV
  exact smI_lt n hn h
theorem up_ltV {x : Int} {j k V : Nat} (hV : j + k ≤ V) (hx : x.natAbs < 2 ^ j) : (x * 2 ^ k).natAbs < 2 ^ V := by
  rw [Int.natAbs_mul, Int.natAbs_pow]
  refine Nat.lt_of_lt_of_le ((Nat.mul_lt_mul_right (Nat.two_pow_pos k)).2 hx) ?_
  rw [← Nat.pow_add]
  exact Nat.pow_le_pow_right (by decide) hV
/-- A product; a sum of them; a number at the lower level. -/
theorem dtZ_lt (n : Nat) (hn : n ≤ 8) (x y : Nat → Nat) (hx : ∀ j, j < n → fFin (x j) = true) (hy : ∀ j, j < n → fFin (y j) = true) : (dtZ n x y).natAbs < 2 ^ 4199 :=
  smI_ltV (W := 4196) (V := 4199) (by decide) n hn (fun j hj => mul_ltV (j := 2098) (k := 2098) (V := 4196) (by decide) (fZ_lt _ (hx j hj)) (fZ_lt _ (hy j hj)))
theorem dtZ_lvl (n : Nat) (hn : n ≤ 8) (x y : Nat → Nat) (hx : ∀ j, j < n → fFin (x j) = true) (hy : ∀ j, j < n → fFin (y j) = true) : Lvl (-2148) 4199 (dtZ n x y) :=
  ⟨dtZ_lt n hn x y hx hy, by decide, by decide, by decide⟩

end Go.Proofs.YtceofkjefmilfaaGreatDoor

/- Exact numbers in rows; grids of them. -/
namespace Go.Proofs.YtceofkjefmilfaaGreatDoor
open Go.RowKit

/-- Block g holds no limb. -/
def Clr (w : World) (g : Nat) : Prop := ∃ cur e, w.heap[g]? = some (.cells cur e (0, 0)) ∧ ∀ u ∈ cur.toList, noLimb u = true
theorem Clr.limbs {w : World} {g : Nat} (h : Clr w g) {ao : Option Addr} {cap : Nat} {L : List Nat} (hL : LimbsAt w ao cap L) (j : Nat) (u : Value) : LimbsAt (w.setCell ⟨g, j, none⟩ u) ao cap L := by
  refine ⟨hL.1, hL.2.1, ?_⟩
  have hc : Clear w (.slice (some ⟨g, 0, none⟩) 0 0) := fun k hk => by cases hk; exact h
  rcases hc.limbs hL with e | ⟨b, off, h1, h2, h3, h4⟩
  · exact .inl e
  · have hne : b ≠ g := fun e => h3 (by rw [e]; rfl)
    refine .inr ⟨b, off, h1, by simpa [World.setCell] using h2, fun i hi => ?_⟩
    rw [cell_setCell_other _ _ _ _ (show b ≠ g from hne)]
    exact h4 i hi
theorem Clr.num {B : Nat} {w : World} {g : Nat} (h : Clr w g) {v : Value} {z : Int} (hv : IsNum B w v z) (j : Nat) (u : Value) : IsNum B (w.setCell ⟨g, j, none⟩ u) v z := by
  obtain ⟨neg, ao, cap, L, h1, h2, h3⟩ := hv
  exact ⟨neg, ao, cap, L, h1, h.limbs h2 j u, h3⟩
theorem Clr.lv {w : World} {g : Nat} (h : Clr w g) {v : Value} {lo z : Int} (hv : IsLv w v lo z) (j : Nat) (u : Value) : IsLv (w.setCell ⟨g, j, none⟩ u) v lo z := by
  obtain ⟨neg, ao, cap, L, h1, h2⟩ := hv
  exact ⟨neg, ao, cap, L, h1, h.num h2 j u⟩

/-- Block b is a box of three cells, of type T. -/
def BoxT (T : Nat) (w : World) (b : Nat) (x y z : Value) : Prop := w.heap[b]? = some (.cells #[x, y, z] T (0, 0))
theorem BoxT.c0 {T : Nat} {w : World} {b : Nat} {x y z : Value} (h : BoxT T w b x y z) : w.cell? ⟨b, 0, none⟩ = some x := by rw [cell_of_row w b 0 _ _ _ h]; rfl
theorem BoxT.c1 {T : Nat} {w : World} {b : Nat} {x y z : Value} (h : BoxT T w b x y z) : w.cell? ⟨b, 1, none⟩ = some y := by rw [cell_of_row w b 1 _ _ _ h]; rfl
theorem BoxT.c2 {T : Nat} {w : World} {b : Nat} {x y z : Value} (h : BoxT T w b x y z) : w.cell? ⟨b, 2, none⟩ = some z := by rw [cell_of_row w b 2 _ _ _ h]; rfl
theorem BoxT.free {T : Nat} {w : World} {b : Nat} {x y z : Value} (h : BoxT T w b x y z) (j : Nat) : w.frozen? ⟨b, j, none⟩ = false := frozen_of_row w b j _ _ h
theorem BoxT.lt {T : Nat} {w : World} {b : Nat} {x y z : Value} (h : BoxT T w b x y z) : b < w.heap.size := (Array.getElem?_eq_some_iff.1 h).1
theorem BoxT.below {T : Nat} {w w' : World} {b : Nat} {x y z : Value} (h : BoxT T w b x y z) {B : Nat} (hb : Below B w w') (hlt : b < B) : BoxT T w' b x y z := (hb.block b hlt).trans h
theorem BoxT.new (T : Nat) (w : World) (x y z : Value) : BoxT T (w.alloc (.cells #[x, y, z] T)) w.heap.size x y z := heap_alloc_new w _
theorem BoxT.all {T : Nat} {w w' : World} {b : Nat} {x y z : Value} (h : BoxT T w b x y z) (hb : Below w.heap.size w w') : BoxT T w' b x y z := h.below hb h.lt
theorem BoxT.drew {T : Nat} {w : World} {b : Nat} {x y z : Value} (h : BoxT T w b x y z) : BoxT T w.drew b x y z := h
theorem BoxT.other {T : Nat} {w : World} {b : Nat} {x y z : Value} (h : BoxT T w b x y z) {p : Addr} (hp : b ≠ p.block) (u : Value) : BoxT T (w.setCell p u) b x y z := (Below.heap_setCell w p u b hp).trans h
theorem BoxT.put {T : Nat} {w : World} {b : Nat} {x y z : Value} (h : BoxT T w b x y z) (u u' u'' : Value) : BoxT T (((w.setCell ⟨b, 0, none⟩ u).setCell ⟨b, 1, none⟩ u').setCell ⟨b, 2, none⟩ u'') b u u' u'' := by
  have h1 := heap_setCell_same w b 0 _ _ u h
  have h2 := heap_setCell_same (w.setCell ⟨b, 0, none⟩ u) b 1 _ _ u' h1
  have h3 := heap_setCell_same ((w.setCell ⟨b, 0, none⟩ u).setCell ⟨b, 1, none⟩ u') b 2 _ _ u'' h2
  unfold BoxT
  rw [h3]
  simp
/-- A box of two sizes and a slice holds no limb. -/
theorem BoxT.clr {T : Nat} {w : World} {b : Nat} {x y : Int} {a : Option Addr} {n c : Nat} (h : BoxT T w b (.int .i64 x) (.int .i64 y) (.slice a n c)) : Clr w b :=
  ⟨_, _, h, fun u hu => by simp at hu; rcases hu with rfl | rfl | rfl <;> rfl⟩
theorem Box3.clr {w : World} {b : Nat} {x : Bool} {a : Option Addr} {n c : Nat} {y : Int} (h : Box3 w b (.bool x) (.slice a n c) (.int .i64 y)) : Clr w b :=
  ⟨_, _, h, fun u hu => by simp at hu; rcases hu with rfl | rfl | rfl <;> rfl⟩
theorem Box2.clr {w : World} {b : Nat} {x : Bool} {a : Option Addr} {n c : Nat} (h : Box2 w b (.bool x) (.slice a n c)) : Clr w b :=
  ⟨_, _, h, fun u hu => by simp at hu; rcases hu with rfl | rfl <;> rfl⟩
theorem Clr.set {w : World} {g : Nat} (h : Clr w g) (k j : Nat) {u : Value} (hu : noLimb u = true) : Clr (w.setCell ⟨k, j, none⟩ u) g := by
  obtain ⟨cur, e, h1, h2⟩ := h
  by_cases hk : g = k
  · subst hk
    refine ⟨_, e, heap_setCell_same w g j _ _ u h1, fun x hx => ?_⟩
    rw [Array.toList_setIfInBounds] at hx
    rcases List.mem_or_eq_of_mem_set hx with hx | rfl
    · exact h2 x hx
    · exact hu
  · exact ⟨cur, e, (Below.heap_setCell w ⟨k, j, none⟩ u g hk).trans h1, h2⟩

/-- A number's cells. -/
structure Dn where
  neg : Bool
  ao : Option Addr
  len : Nat
  cap : Nat
  e : Int
def Dn.v (x : Dn) : Value := .agg #[.bool x.neg, .slice x.ao x.len x.cap, .int .i64 x.e]
def Dn.cs (x : Dn) : List Value := [.bool x.neg, .slice x.ao x.len x.cap, .int .i64 x.e]
def dnAt (D : List Dn) (k : Nat) : Dn := D[k]?.getD ⟨false, none, 0, 0, 0⟩
/-- v is a row of the call's own, of the first n numbers of f, at the level lo. -/
def OwnD (base : Nat) (w : World) (v : Value) (n : Nat) (lo : Int) (f : Nat → Int) : Prop :=
  ∃ D : List Dn, D.length = n ∧ w.ownsRow base 52 3 v n (D.flatMap Dn.cs) ∧ Clear w v ∧ ∀ k, k < n → IsLv w (dnAt D k).v lo (f k)
theorem OwnD.nil (base : Nat) (w : World) (lo : Int) (f : Nat → Int) : OwnD base w (.slice none 0 0) 0 lo f :=
  ⟨[], rfl, World.ownsRow_nil w base 52 3, Clear.nil w 0 0, fun k hk => by omega⟩
theorem OwnD.below {base : Nat} {w w' : World} {v : Value} {n : Nat} {lo : Int} {f : Nat → Int} (h : OwnD base w v n lo f) (hb : Below w.heap.size w w') : OwnD base w' v n lo f := by
  obtain ⟨D, h1, h2, h3, h4⟩ := h
  exact ⟨D, h1, h2.kept (row := none) ⟨hb.os, hb.tape, hb.output, hb.size, fun k hk _ => hb.block k hk⟩ (by cases hv : v.ownBlock <;> simp), h3.below hb, fun k hk => (h4 k hk).below hb⟩
theorem OwnD.lt {base : Nat} {w : World} {v : Value} {n : Nat} {lo : Int} {f : Nat → Int} (h : OwnD base w v n lo f) : ∀ k, v.ownBlock = some k → base ≤ k ∧ k < w.heap.size := by
  obtain ⟨D, h1, h2, h3, h4⟩ := h
  exact h2.lt
/-- A store into a box that is elder. -/
theorem OwnD.set {base : Nat} {w : World} {v : Value} {n : Nat} {lo : Int} {f : Nat → Int} (h : OwnD base w v n lo f) {g : Nat} (hc : Clr w g) (hg : g < base) (j : Nat) (u : Value) : OwnD base (w.setCell ⟨g, j, none⟩ u) v n lo f := by
  obtain ⟨D, h1, h2, h3, h4⟩ := h
  have hne : ∀ k, v.ownBlock = some k → k ≠ g := fun k hk => by have := (h2.lt k hk).1; omega
  refine ⟨D, h1, ⟨h2.1, ?_⟩, ?_, fun k hk => hc.lv (h4 k hk) j u⟩
  · rcases h2.2 with e | ⟨k, cap, cur, hv, hk, hh, rest⟩
    · exact .inl e
    · exact .inr ⟨k, cap, cur, hv, hk, (Below.heap_setCell w ⟨g, j, none⟩ u k (hne k (by rw [hv]; rfl))).trans hh, rest⟩
  · intro k hk
    obtain ⟨cur, e, g1, g2⟩ := h3 k hk
    exact ⟨cur, e, (Below.heap_setCell w ⟨g, j, none⟩ u k (hne k hk)).trans g1, g2⟩

/-- n numbers lie at ao. -/
def DysAt (w : World) (ao : Option Addr) (cap n : Nat) (lo : Int) (f : Nat → Int) : Prop :=
  n ≤ cap ∧ (n = 0 ∨ ∃ b off, ao = some ⟨b, off, none⟩ ∧ b < w.heap.size ∧ ∀ k, k < n → ∃ x : Dn, w.cell? ⟨b, off + k * 3, none⟩ = some (.bool x.neg) ∧ w.cell? ⟨b, off + k * 3 + 1, none⟩ = some (.slice x.ao x.len x.cap) ∧ w.cell? ⟨b, off + k * 3 + 2, none⟩ = some (.int .i64 x.e) ∧ IsLv w x.v lo (f k))
theorem DysAt.below {w w' : World} {ao : Option Addr} {cap n : Nat} {lo : Int} {f : Nat → Int} (h : DysAt w ao cap n lo f) (hb : Below w.heap.size w w') : DysAt w' ao cap n lo f := by
  refine ⟨h.1, ?_⟩
  rcases h.2 with e | ⟨b, off, h1, h2, h3⟩
  · exact .inl e
  · refine .inr ⟨b, off, h1, Nat.lt_of_lt_of_le h2 hb.size, fun k hk => ?_⟩
    obtain ⟨x, c0, c1, c2, hx⟩ := h3 k hk
    refine ⟨x, ?_, ?_, ?_, hx.below hb⟩
    · rw [hb.cell (p := ⟨b, off + k * 3, none⟩) h2]; exact c0
    · rw [hb.cell (p := ⟨b, off + k * 3 + 1, none⟩) h2]; exact c1
    · rw [hb.cell (p := ⟨b, off + k * 3 + 2, none⟩) h2]; exact c2
theorem DysAt.congr {w : World} {ao : Option Addr} {cap n : Nat} {lo : Int} {f g : Nat → Int} (h : DysAt w ao cap n lo f) (he : ∀ k, k < n → f k = g k) : DysAt w ao cap n lo g := by
  refine ⟨h.1, ?_⟩
  rcases h.2 with e | ⟨b, off, h1, h2, h3⟩
  · exact .inl e
  · refine .inr ⟨b, off, h1, h2, fun k hk => ?_⟩
    obtain ⟨x, c0, c1, c2, hx⟩ := h3 k hk
    exact ⟨x, c0, c1, c2, by rw [← he k hk]; exact hx⟩
theorem DysAt.lower {w : World} {ao : Option Addr} {cap n : Nat} {lo : Int} {f : Nat → Int} (h : DysAt w ao cap n lo f) (j : Nat) : DysAt w ao cap n (lo - j) (fun k => f k * 2 ^ j) := by
  refine ⟨h.1, ?_⟩
  rcases h.2 with e | ⟨b, off, h1, h2, h3⟩
  · exact .inl e
  · refine .inr ⟨b, off, h1, h2, fun k hk => ?_⟩
    obtain ⟨x, c0, c1, c2, hx⟩ := h3 k hk
    exact ⟨x, c0, c1, c2, hx.lower j⟩
/-- A grid of numbers at a level. -/
def Gr (w : World) (ao : Option Addr) (cap r c : Nat) (lo : Int) (F : Nat → Nat → Int) : Prop := DysAt w ao cap (r * c) lo (fun p => F (p / c) (p % c)) ∧ r ≤ 6 ∧ c ≤ 6
theorem Gr.below {w w' : World} {ao : Option Addr} {cap r c : Nat} {lo : Int} {F : Nat → Nat → Int} (h : Gr w ao cap r c lo F) (hb : Below w.heap.size w w') : Gr w' ao cap r c lo F := ⟨h.1.below hb, h.2⟩
theorem Gr.lower {w : World} {ao : Option Addr} {cap r c : Nat} {lo : Int} {F : Nat → Nat → Int} (h : Gr w ao cap r c lo F) (j : Nat) : Gr w ao cap r c (lo - j) (fun i k => F i k * 2 ^ j) := ⟨h.1.lower j, h.2⟩
theorem Gr.congr {w : World} {ao : Option Addr} {cap r c : Nat} {lo : Int} {F G : Nat → Nat → Int} (h : Gr w ao cap r c lo F) (he : ∀ i k, i < r → k < c → F i k = G i k) : Gr w ao cap r c lo G := by
  refine ⟨h.1.congr fun p hp => ?_, h.2⟩
  have hc : 0 < c := by
    rcases Nat.eq_zero_or_pos c with e | e
    · subst e; simp at hp
    · exact e
  exact he _ _ (Nat.div_lt_of_lt_mul (by rw [Nat.mul_comm]; exact hp)) (Nat.mod_lt _ hc)

end Go.Proofs.YtceofkjefmilfaaGreatDoor

/- Package plain: operations without their flags; package givens: place, rowOf, columnOf, check, turnedPair. -/
namespace Go.Proofs.YtceofkjefmilfaaGreatDoor
open Go.RowKit
attribute [local go_sem ↓] Go.wp_at_zero Go.wp_at_succ
set_option maxRecDepth 20000 in
set_option maxHeartbeats 2000000 in
theorem pdiv_any (a b : Nat) (w : World) (ha : a < 18446744073709551616) (hb : b < 18446744073709551616) (hT : Tab w) :
    Calls Tryz.prog 78 #[.int .u64 a, .int .u64 b] w fun r w' => r = .returned (.int .u64 (dV a b : Nat)) ∧ Below w.heap.size w w' := by
  have K := hide (tdiv_any a b w ha hb hT)
  clear ha hb hT
  generalize dV a b = o at *
  generalize dF a b = f at *
  go_enter Tryz.func78, Tryz.ntmps78
  go_wp2_with fail
  refine Calls.mono (unhide K) ?_
  rintro e w1 ⟨rfl, hb1⟩
  clear K
  go_wp2
  go_ret
  exact ⟨rfl, hb1⟩

set_option maxRecDepth 20000 in
set_option maxHeartbeats 2000000 in
theorem psqrt_any (a : Nat) (w : World) (ha : a < 18446744073709551616) (hT : Tab w) :
    Calls Tryz.prog 75 #[.int .u64 a] w fun r w' => r = .returned (.int .u64 (sV a : Nat)) ∧ Below w.heap.size w w' := by
  have K := hide (rsqrt_any a w ha hT)
  clear ha hT
  generalize sV a = o at *
  generalize sF a = f at *
  go_enter Tryz.func75, Tryz.ntmps75
  go_wp2_with fail
  refine Calls.mono (unhide K) ?_
  rintro e w1 ⟨rfl, hb1⟩
  clear K
  go_wp2
  go_ret
  exact ⟨rfl, hb1⟩

end Go.Proofs.YtceofkjefmilfaaGreatDoor

