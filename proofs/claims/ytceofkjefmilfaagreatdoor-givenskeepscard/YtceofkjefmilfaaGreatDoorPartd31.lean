/- Part 31 of the texts. -/
import Derived.Test.YtceofkjefmilfaaGreatDoorPartd30
import Derived.Test.YtceofkjefmilfaaGreatDoorPartd28
import Derived.Test.YtceofkjefmilfaaGreatDoorPartd29
import Derived.Test.YtceofkjefmilfaaGreatDoorPartd27
import Derived.Test.YtceofkjefmilfaaGreatDoorPartd25
import Derived.Test.YtceofkjefmilfaaGreatDoorPartd23
import Derived.Test.YtceofkjefmilfaaGreatDoorPartd26
/- Minors and the rank, over whole numbers. No program. -/
namespace Go.Proofs.YtceofkjefmilfaaGreatDoor

/-- Places that rise, all below m. -/
def Rise (m : Nat) (I : List Nat) : Prop := I.Pairwise (· < ·) ∧ ∀ i ∈ I, i < m

/-- The minor of the rows I and the columns C. -/
def minorD (a : Nat → Nat → Int) (I C : List Nat) : Int := detD (I.map a) C

/-- All minors of k rows and columns are 0. -/
def Van (k : Nat) (a : Nat → Nat → Int) (m n : Nat) : Prop := ∀ I C, Rise m I → Rise n C → I.length = k → C.length = k → minorD a I C = 0

theorem Rise.sub {m : Nat} {I J : List Nat} (h : Rise m I) (hs : J.Sublist I) : Rise m J := ⟨h.1.sublist hs, fun i hi => h.2 i (hs.subset hi)⟩

theorem Van.succ {k : Nat} {a : Nat → Nat → Int} {m n : Nat} (h : Van k a m n) : Van (k + 1) a m n := by
  intro I C hI hC lI lC
  cases I with
  | nil => simp at lI
  | cons i I =>
    show exD (a i) C (detD (I.map a)) = 0
    rw [exD_congr (a i) C (detD (I.map a)) (fun _ => 0) (fun l hl hlen => ?_), exD_zero]
    simp only [List.length_cons] at lI
    exact h I l (hI.sub (List.sublist_cons_self i I)) (hC.sub hl) (by omega) (by omega)

theorem dup_split : ∀ (I : List Nat), ¬ I.Nodup → ∃ pre i mid post, I = pre ++ i :: (mid ++ i :: post)
  | [], h => absurd List.nodup_nil h
  | i :: I, h => by
    by_cases hi : i ∈ I
    · obtain ⟨s, t, rfl⟩ := List.append_of_mem hi
      exact ⟨[], i, s, t, rfl⟩
    · have : ¬ I.Nodup := fun hn => h (List.nodup_cons.2 ⟨hi, hn⟩)
      obtain ⟨pre, j, mid, post, e⟩ := dup_split I this
      exact ⟨i :: pre, j, mid, post, by rw [e]; rfl⟩

/-- All minors vanish, the rows in whatever order, also if some stand twice. -/
theorem Van.all {k : Nat} {a : Nat → Nat → Int} {m n : Nat} (h : Van k a m n) (I C : List Nat) (hI : ∀ i ∈ I, i < m) (hC : Rise n C) (lI : I.length = k) (lC : C.length = k) : minorD a I C = 0 := by
  by_cases hn : I.Nodup
  · have hp : (I.mergeSort (fun x y => decide (x ≤ y))).Perm I := List.mergeSort_perm I _
    have hs : (I.mergeSort (fun x y => decide (x ≤ y))).Pairwise (fun x y => decide (x ≤ y) = true) := List.pairwise_mergeSort (fun x y z h1 h2 => by simp at *; omega) (fun x y => by simp; omega) I
    have hn' : (I.mergeSort (fun x y => decide (x ≤ y))).Nodup := hp.nodup_iff.2 hn
    have hr : Rise m (I.mergeSort (fun x y => decide (x ≤ y))) := by
      refine ⟨?_, fun i hi => hI i (hp.mem_iff.1 hi)⟩
      have h2 := List.Pairwise.and hs hn'
      exact h2.imp (fun h => by simp at h; omega)
    obtain ⟨p, _, hd⟩ := detD_perm (hp.map a)
    have h0 := h _ C hr hC (by rw [hp.length_eq]; exact lI) lC
    unfold minorD at h0 ⊢
    have h1 := hd C
    rw [h0] at h1
    rcases (show p = 1 ∨ p = -1 by assumption) with rfl | rfl <;> omega
  · obtain ⟨pre, i, mid, post, rfl⟩ := dup_split I hn
    unfold minorD
    simp only [List.map_append, List.map_cons]
    exact detD_twice (a i) (post.map a) (pre.map a) (mid.map a) C

end Go.Proofs.YtceofkjefmilfaaGreatDoor

/- Sums of whole numbers: put in order by rows or by columns, none of them below 0, bounded; what stage 11 tells, in units of powers of two; rows scaled keep the rank; no program. Ahead of stage 11. -/
namespace Go.Proofs.YtceofkjefmilfaaGreatDoor
open Go.RowKit

/-- The sum of the first n numbers. -/
def smI (f : Nat → Int) : Nat → Int
  | 0 => 0
  | n + 1 => smI f n + f n

theorem smI_congr {f g : Nat → Int} (n : Nat) (h : ∀ i, i < n → f i = g i) : smI f n = smI g n := by
  induction n with
  | zero => rfl
  | succ n ih => unfold smI; rw [ih (fun i hi => h i (by omega)), h n (by omega)]

theorem smI_add (f g : Nat → Int) (n : Nat) : smI (fun i => f i + g i) n = smI f n + smI g n := by
  induction n with
  | zero => rfl
  | succ n ih => unfold smI; rw [ih]; omega

theorem smI_noughts (n : Nat) : smI (fun _ => 0) n = 0 := by
  induction n with
  | zero => rfl
  | succ n ih => unfold smI; rw [ih]; rfl

/-- By rows or by columns. -/
theorem smI_swap (f : Nat → Nat → Int) (r c : Nat) : smI (fun i => smI (f i) c) r = smI (fun k => smI (fun i => f i k) r) c := by
  induction r with
  | zero =>
    rw [smI_congr (f := fun k => smI (fun i => f i k) 0) (g := fun _ => 0) c (fun _ _ => rfl), smI_noughts]
    rfl
  | succ r ih =>
    have e : smI (fun i => smI (f i) c) (r + 1) = smI (fun i => smI (f i) c) r + smI (f r) c := rfl
    rw [e, ih, ← smI_add]
    rfl

theorem smI_app (f : Nat → Int) (m n : Nat) : smI f (m + n) = smI f m + smI (fun i => f (m + i)) n := by
  induction n with
  | zero => show smI f m = smI f m + 0; omega
  | succ n ih =>
    have e1 : smI f (m + (n + 1)) = smI f (m + n) + f (m + n) := rfl
    have e2 : smI (fun i => f (m + i)) (n + 1) = smI (fun i => f (m + i)) n + f (m + n) := rfl
    rw [e1, e2, ih]; omega

/-- A list's sum, row by row. -/
theorem smI_grid (f : Nat → Int) (r c : Nat) : smI f (r * c) = smI (fun i => smI (fun k => f (i * c + k)) c) r := by
  induction r with
  | zero => rw [Nat.zero_mul]; rfl
  | succ r ih =>
    have e : smI (fun i => smI (fun k => f (i * c + k)) c) (r + 1) = smI (fun i => smI (fun k => f (i * c + k)) c) r + smI (fun k => f (r * c + k)) c := rfl
    rw [e, ← ih, Nat.succ_mul, smI_app]

/-- One of them is picked. -/
theorem smI_pick (f : Nat → Int) (p : Int) (k n : Nat) : smI (fun j => f j * (if j = k then p else 0)) n = if k < n then f k * p else 0 := by
  induction n with
  | zero => rfl
  | succ n ih =>
    have e : smI (fun j => f j * (if j = k then p else 0)) (n + 1) = smI (fun j => f j * (if j = k then p else 0)) n + f n * (if n = k then p else 0) := rfl
    rw [e, ih]
    by_cases h : k < n
    · rw [if_pos h, if_pos (show k < n + 1 by omega), if_neg (show ¬ n = k by omega), Int.mul_zero, Int.add_zero]
    · rw [if_neg h]
      by_cases h2 : n = k
      · subst h2; rw [if_pos rfl, if_pos (show n < n + 1 by omega), Int.zero_add]
      · rw [if_neg h2, if_neg (show ¬ k < n + 1 by omega), Int.mul_zero, Int.add_zero]

theorem Lvl.times {lo1 lo2 : Int} {W1 W2 : Nat} {z1 z2 : Int} (h1 : Lvl lo1 W1 z1) (h2 : Lvl lo2 W2 z2) (b1 : -16384 ≤ lo1 + lo2) (b2 : lo1 + lo2 + (W1 + W2 : Nat) ≤ 16384) (b3 : W1 + W2 ≤ 16384) : Lvl (lo1 + lo2) (W1 + W2) (z1 * z2) := by
  refine ⟨?_, b1, b2, b3⟩
  rw [Int.natAbs_mul]
  exact mul_lt_pow h1.1 h2.1

theorem Lvl.less {lo : Int} {W : Nat} {z1 z2 : Int} (h1 : Lvl lo W z1) (h2 : Lvl lo W z2) (hW : lo + W + 1 ≤ 16384) (hW2 : W + 1 ≤ 16384) : Lvl lo (W + 1) (z1 - z2) := by
  refine ⟨?_, h1.2.1, by have := h1.2.2; omega, hW2⟩
  have a := h1.1
  have b := h2.1
  rw [Nat.pow_succ]
  omega

theorem sq_ge (x : Int) : 0 ≤ x * x := by
  rcases Int.le_total 0 x with h | h
  · exact Int.mul_nonneg h h
  · exact Int.mul_nonneg_of_nonpos_of_nonpos h h

/-- The square of a list, in units of 2^-2148. -/
def sqZ (S : List Nat) : Int := smI (fun p => fZ (S.getD p 0) * fZ (S.getD p 0)) S.length

theorem sqZ_grid (r c : Nat) (S : List Nat) (h : S.length = r * c) : sqZ S = smI (fun i => smI (fun k => fZ (elM c S i k) * fZ (elM c S i k)) c) r := by
  unfold sqZ
  rw [h, smI_grid]
  rfl

theorem fZ_one11 : fZ 4607182418800017408 = 2 ^ 1074 := by decide +kernel
theorem fZ_zero11 : fZ 0 = 0 := by decide +kernel

end Go.Proofs.YtceofkjefmilfaaGreatDoor

/- Exact numbers in rows; grids of them. -/
namespace Go.Proofs.YtceofkjefmilfaaGreatDoor
open Go.RowKit

/-- Block g holds no limb. -/
def Clr (w : World) (g : Nat) : Prop := ∃ cur e, w.heap[g]? = some (.cells cur e (0, 0)) ∧ ∀ u ∈ cur.toList, noLimb u = true
theorem Clr.limbs {w : World} {g : Nat} (h : Clr w g) {ao : Option Addr} {cap : Nat} {L : List Nat} (hL : LimbsAt w ao cap L) (j : Nat) (u : Value) : LimbsAt (w.setCell ⟨g, j, none⟩ u) ao cap L := by
  refine ⟨hL.1, hL.2.1, ?_⟩
  have hc : Clear w (.slice (some ⟨g, 0, none⟩) 0 0) := fun k hk => by cases hk; exact h
  rcases hc.limbs hL with e | ⟨b, off, h1, h2, h3, h4⟩
  · exact .inl e
  · have hne : b ≠ g := fun e => h3 (by rw [e]; rfl)
    refine .inr ⟨b, off, h1, by simpa [World.setCell] using h2, fun i hi => ?_⟩
    rw [cell_setCell_other _ _ _ _ (show b ≠ g from hne)]
    exact h4 i hi
theorem Clr.num {B : Nat} {w : World} {g : Nat} (h : Clr w g) {v : Value} {z : Int} (hv : IsNum B w v z) (j : Nat) (u : Value) : IsNum B (w.setCell ⟨g, j, none⟩ u) v z := by
  obtain ⟨neg, ao, cap, L, h1, h2, h3⟩ := hv
  exact ⟨neg, ao, cap, L, h1, h.limbs h2 j u, h3⟩
theorem Clr.lv {w : World} {g : Nat} (h : Clr w g) {v : Value} {lo z : Int} (hv : IsLv w v lo z) (j : Nat) (u : Value) : IsLv (w.setCell ⟨g, j, none⟩ u) v lo z := by
  obtain ⟨neg, ao, cap, L, h1, h2⟩ := hv
  exact ⟨neg, ao, cap, L, h1, h.num h2 j u⟩

/-- Block b is a box of three cells, of type T. -/
def BoxT (T : Nat) (w : World) (b : Nat) (x y z : Value) : Prop := w.heap[b]? = some (.cells #[x, y, z] T (0, 0))
theorem BoxT.c0 {T : Nat} {w : World} {b : Nat} {x y z : Value} (h : BoxT T w b x y z) : w.cell? ⟨b, 0, none⟩ = some x := by rw [cell_of_row w b 0 _ _ _ h]; rfl
theorem BoxT.c1 {T : Nat} {w : World} {b : Nat} {x y z : Value} (h : BoxT T w b x y z) : w.cell? ⟨b, 1, none⟩ = some y := by rw [cell_of_row w b 1 _ _ _ h]; rfl
theorem BoxT.c2 {T : Nat} {w : World} {b : Nat} {x y z : Value} (h : BoxT T w b x y z) : w.cell? ⟨b, 2, none⟩ = some z := by rw [cell_of_row w b 2 _ _ _ h]; rfl
theorem BoxT.free {T : Nat} {w : World} {b : Nat} {x y z : Value} (h : BoxT T w b x y z) (j : Nat) : w.frozen? ⟨b, j, none⟩ = false := frozen_of_row w b j _ _ h
theorem BoxT.lt {T : Nat} {w : World} {b : Nat} {x y z : Value} (h : BoxT T w b x y z) : b < w.heap.size := (Array.getElem?_eq_some_iff.1 h).1
theorem BoxT.below {T : Nat} {w w' : World} {b : Nat} {x y z : Value} (h : BoxT T w b x y z) {B : Nat} (hb : Below B w w') (hlt : b < B) : BoxT T w' b x y z := (hb.block b hlt).trans h
theorem BoxT.new (T : Nat) (w : World) (x y z : Value) : BoxT T (w.alloc (.cells #[x, y, z] T)) w.heap.size x y z := heap_alloc_new w _
theorem BoxT.all {T : Nat} {w w' : World} {b : Nat} {x y z : Value} (h : BoxT T w b x y z) (hb : Below w.heap.size w w') : BoxT T w' b x y z := h.below hb h.lt
theorem BoxT.drew {T : Nat} {w : World} {b : Nat} {x y z : Value} (h : BoxT T w b x y z) : BoxT T w.drew b x y z := h
theorem BoxT.other {T : Nat} {w : World} {b : Nat} {x y z : Value} (h : BoxT T w b x y z) {p : Addr} (hp : b ≠ p.block) (u : Value) : BoxT T (w.setCell p u) b x y z := (Below.heap_setCell w p u b hp).trans h
theorem BoxT.put {T : Nat} {w : World} {b : Nat} {x y z : Value} (h : BoxT T w b x y z) (u u' u'' : Value) : BoxT T (((w.setCell ⟨b, 0, none⟩ u).setCell ⟨b, 1, none⟩ u').setCell ⟨b, 2, none⟩ u'') b u u' u'' := by
  have h1 := heap_setCell_same w b 0 _ _ u h
  have h2 := heap_setCell_same (w.setCell ⟨b, 0, none⟩ u) b 1 _ _ u' h1
  have h3 := heap_setCell_same ((w.setCell ⟨b, 0, none⟩ u).setCell ⟨b, 1, none⟩ u') b 2 _ _ u'' h2
  unfold BoxT
  rw [h3]
  simp
/-- A box of two sizes and a slice holds no limb. -/
theorem BoxT.clr {T : Nat} {w : World} {b : Nat} {x y : Int} {a : Option Addr} {n c : Nat} (h : BoxT T w b (.int .i64 x) (.int .i64 y) (.slice a n c)) : Clr w b :=
  ⟨_, _, h, fun u hu => by simp at hu; rcases hu with rfl | rfl | rfl <;> rfl⟩
theorem Box3.clr {w : World} {b : Nat} {x : Bool} {a : Option Addr} {n c : Nat} {y : Int} (h : Box3 w b (.bool x) (.slice a n c) (.int .i64 y)) : Clr w b :=
  ⟨_, _, h, fun u hu => by simp at hu; rcases hu with rfl | rfl | rfl <;> rfl⟩
theorem Box2.clr {w : World} {b : Nat} {x : Bool} {a : Option Addr} {n c : Nat} (h : Box2 w b (.bool x) (.slice a n c)) : Clr w b :=
  ⟨_, _, h, fun u hu => by simp at hu; rcases hu with rfl | rfl <;> rfl⟩
theorem Clr.set {w : World} {g : Nat} (h : Clr w g) (k j : Nat) {u : Value} (hu : noLimb u = true) : Clr (w.setCell ⟨k, j, none⟩ u) g := by
  obtain ⟨cur, e, h1, h2⟩ := h
  by_cases hk : g = k
  · subst hk
    refine ⟨_, e, heap_setCell_same w g j _ _ u h1, fun x hx => ?_⟩
    rw [Array.toList_setIfInBounds] at hx
    rcases List.mem_or_eq_of_mem_set hx with hx | rfl
    · exact h2 x hx
    · exact hu
  · exact ⟨cur, e, (Below.heap_setCell w ⟨k, j, none⟩ u g hk).trans h1, h2⟩

/-- A number's cells. -/
structure Dn where
  neg : Bool
  ao : Option Addr
  len : Nat
  cap : Nat
  e : Int
def Dn.v (x : Dn) : Value := .agg #[.bool x.neg, .slice x.ao x.len x.cap, .int .i64 x.e]
def Dn.cs (x : Dn) : List Value := [.bool x.neg, .slice x.ao x.len x.cap, .int .i64 x.e]
def dnAt (D : List Dn) (k : Nat) : Dn := D[k]?.getD ⟨false, none, 0, 0, 0⟩
/-- v is a row of the call's own, of the first n numbers of f, at the level lo. -/
def OwnD (base : Nat) (w : World) (v : Value) (n : Nat) (lo : Int) (f : Nat → Int) : Prop :=
  ∃ D : List Dn, D.length = n ∧ w.ownsRow base 52 3 v n (D.flatMap Dn.cs) ∧ Clear w v ∧ ∀ k, k < n → IsLv w (dnAt D k).v lo (f k)
theorem OwnD.nil (base : Nat) (w : World) (lo : Int) (f : Nat → Int) : OwnD base w (.slice none 0 0) 0 lo f :=
  ⟨[], rfl, World.ownsRow_nil w base 52 3, Clear.nil w 0 0, fun k hk => by omega⟩
theorem OwnD.below {base : Nat} {w w' : World} {v : Value} {n : Nat} {lo : Int} {f : Nat → Int} (h : OwnD base w v n lo f) (hb : Below w.heap.size w w') : OwnD base w' v n lo f := by
  obtain ⟨D, h1, h2, h3, h4⟩ := h
  exact ⟨D, h1, h2.kept (row := none) ⟨hb.os, hb.tape, hb.output, hb.size, fun k hk _ => hb.block k hk⟩ (by cases hv : v.ownBlock <;> simp), h3.below hb, fun k hk => (h4 k hk).below hb⟩
theorem OwnD.lt {base : Nat} {w : World} {v : Value} {n : Nat} {lo : Int} {f : Nat → Int} (h : OwnD base w v n lo f) : ∀ k, v.ownBlock = some k → base ≤ k ∧ k < w.heap.size := by
  obtain ⟨D, h1, h2, h3, h4⟩ := h
  exact h2.lt
/-- A store into a box that is elder. -/
theorem OwnD.set {base : Nat} {w : World} {v : Value} {n : Nat} {lo : Int} {f : Nat → Int} (h : OwnD base w v n lo f) {g : Nat} (hc : Clr w g) (hg : g < base) (j : Nat) (u : Value) : OwnD base (w.setCell ⟨g, j, none⟩ u) v n lo f := by
  obtain ⟨D, h1, h2, h3, h4⟩ := h
  have hne : ∀ k, v.ownBlock = some k → k ≠ g := fun k hk => by have := (h2.lt k hk).1; omega
  refine ⟨D, h1, ⟨h2.1, ?_⟩, ?_, fun k hk => hc.lv (h4 k hk) j u⟩
  · rcases h2.2 with e | ⟨k, cap, cur, hv, hk, hh, rest⟩
    · exact .inl e
    · exact .inr ⟨k, cap, cur, hv, hk, (Below.heap_setCell w ⟨g, j, none⟩ u k (hne k (by rw [hv]; rfl))).trans hh, rest⟩
  · intro k hk
    obtain ⟨cur, e, g1, g2⟩ := h3 k hk
    exact ⟨cur, e, (Below.heap_setCell w ⟨g, j, none⟩ u k (hne k hk)).trans g1, g2⟩

/-- n numbers lie at ao. -/
def DysAt (w : World) (ao : Option Addr) (cap n : Nat) (lo : Int) (f : Nat → Int) : Prop :=
  n ≤ cap ∧ (n = 0 ∨ ∃ b off, ao = some ⟨b, off, none⟩ ∧ b < w.heap.size ∧ ∀ k, k < n → ∃ x : Dn, w.cell? ⟨b, off + k * 3, none⟩ = some (.bool x.neg) ∧ w.cell? ⟨b, off + k * 3 + 1, none⟩ = some (.slice x.ao x.len x.cap) ∧ w.cell? ⟨b, off + k * 3 + 2, none⟩ = some (.int .i64 x.e) ∧ IsLv w x.v lo (f k))
theorem DysAt.below {w w' : World} {ao : Option Addr} {cap n : Nat} {lo : Int} {f : Nat → Int} (h : DysAt w ao cap n lo f) (hb : Below w.heap.size w w') : DysAt w' ao cap n lo f := by
  refine ⟨h.1, ?_⟩
  rcases h.2 with e | ⟨b, off, h1, h2, h3⟩
  · exact .inl e
  · refine .inr ⟨b, off, h1, Nat.lt_of_lt_of_le h2 hb.size, fun k hk => ?_⟩
    obtain ⟨x, c0, c1, c2, hx⟩ := h3 k hk
    refine ⟨x, ?_, ?_, ?_, hx.below hb⟩
    · rw [hb.cell (p := ⟨b, off + k * 3, none⟩) h2]; exact c0
    · rw [hb.cell (p := ⟨b, off + k * 3 + 1, none⟩) h2]; exact c1
    · rw [hb.cell (p := ⟨b, off + k * 3 + 2, none⟩) h2]; exact c2
theorem DysAt.congr {w : World} {ao : Option Addr} {cap n : Nat} {lo : Int} {f g : Nat → Int} (h : DysAt w ao cap n lo f) (he : ∀ k, k < n → f k = g k) : DysAt w ao cap n lo g := by
  refine ⟨h.1, ?_⟩
  rcases h.2 with e | ⟨b, off, h1, h2, h3⟩
  · exact .inl e
  · refine .inr ⟨b, off, h1, h2, fun k hk => ?_⟩
    obtain ⟨x, c0, c1, c2, hx⟩ := h3 k hk
    exact ⟨x, c0, c1, c2, by rw [← he k hk]; exact hx⟩
/-- A grid of numbers at a level. -/
def Gr (w : World) (ao : Option Addr) (cap r c : Nat) (lo : Int) (F : Nat → Nat → Int) : Prop := DysAt w ao cap (r * c) lo (fun p => F (p / c) (p % c)) ∧ r ≤ 6 ∧ c ≤ 6
theorem Gr.below {w w' : World} {ao : Option Addr} {cap r c : Nat} {lo : Int} {F : Nat → Nat → Int} (h : Gr w ao cap r c lo F) (hb : Below w.heap.size w w') : Gr w' ao cap r c lo F := ⟨h.1.below hb, h.2⟩
theorem Gr.congr {w : World} {ao : Option Addr} {cap r c : Nat} {lo : Int} {F G : Nat → Nat → Int} (h : Gr w ao cap r c lo F) (he : ∀ i k, i < r → k < c → F i k = G i k) : Gr w ao cap r c lo G := by
  refine ⟨h.1.congr fun p hp => ?_, h.2⟩
  have hc : 0 < c := by
    rcases Nat.eq_zero_or_pos c with e | e
    · subst e; simp at hp
    · exact e
  exact he _ _ (Nat.div_lt_of_lt_mul (by rw [Nat.mul_comm]; exact hp)) (Nat.mod_lt _ hc)

end Go.Proofs.YtceofkjefmilfaaGreatDoor

/- Package plain: operations without their flags; package givens: place, rowOf, columnOf, check, turnedPair. -/
namespace Go.Proofs.YtceofkjefmilfaaGreatDoor
open Go.RowKit
attribute [local go_sem ↓] Go.wp_at_zero Go.wp_at_succ

set_option maxRecDepth 20000 in
set_option maxHeartbeats 2000000 in
theorem psub_any (a b : Nat) (w : World) (ha : a < 18446744073709551616) (hb : b < 18446744073709551616) (hT : Tab w) :
    Calls Tryz.prog 114 #[.int .u64 a, .int .u64 b] w fun r w' => r = .returned (.int .u64 (aV a (fN b) : Nat)) ∧ Below w.heap.size w w' := by
  have K := hide (ssub_any a b w ha hb hT)
  clear ha hb hT
  generalize aV a (fN b) = o at *
  generalize aF a (fN b) = f at *
  go_enter Tryz.func114, Tryz.ntmps114
  go_wp2_with fail
  refine Calls.mono (unhide K) ?_
  rintro e w1 ⟨rfl, hb1⟩
  clear K
  go_wp2
  go_ret
  exact ⟨rfl, hb1⟩

set_option maxRecDepth 20000 in
set_option maxHeartbeats 2000000 in
theorem pdiv_any (a b : Nat) (w : World) (ha : a < 18446744073709551616) (hb : b < 18446744073709551616) (hT : Tab w) :
    Calls Tryz.prog 78 #[.int .u64 a, .int .u64 b] w fun r w' => r = .returned (.int .u64 (dV a b : Nat)) ∧ Below w.heap.size w w' := by
  have K := hide (tdiv_any a b w ha hb hT)
  clear ha hb hT
  generalize dV a b = o at *
  generalize dF a b = f at *
  go_enter Tryz.func78, Tryz.ntmps78
  go_wp2_with fail
  refine Calls.mono (unhide K) ?_
  rintro e w1 ⟨rfl, hb1⟩
  clear K
  go_wp2
  go_ret
  exact ⟨rfl, hb1⟩

set_option maxRecDepth 20000 in
set_option maxHeartbeats 2000000 in
theorem psqrt_any (a : Nat) (w : World) (ha : a < 18446744073709551616) (hT : Tab w) :
    Calls Tryz.prog 75 #[.int .u64 a] w fun r w' => r = .returned (.int .u64 (sV a : Nat)) ∧ Below w.heap.size w w' := by
  have K := hide (rsqrt_any a w ha hT)
  clear ha hT
  generalize sV a = o at *
  generalize sF a = f at *
  go_enter Tryz.func75, Tryz.ntmps75
  go_wp2_with fail
  refine Calls.mono (unhide K) ?_
  rintro e w1 ⟨rfl, hb1⟩
  clear K
  go_wp2
  go_ret
  exact ⟨rfl, hb1⟩

set_option maxRecDepth 20000 in
set_option maxHeartbeats 2000000 in
theorem gplace_of (f s k n p q : Nat) (w : World) (hp : (n : Int) * (s : Int) = (p : Int)) (hq : (f : Int) + (p : Int) = (q : Int)) (h36 : q ≤ 36) :
    Calls Tryz.prog 85 #[.agg #[.int .i64 f, .int .i64 s, .int .i64 k], .int .i64 n] w fun e w' => e = .returned (.int .i64 (q : Nat)) ∧ Below w.heap.size w w' := by
  have hb0 := hide (below_alloc9 w (.cells #[.int .i64 f, .int .i64 s, .int .i64 k] 76))
  have hpq : (p : Int) ≤ 36 := by omega
  go_enter Tryz.func85, Tryz.ntmps85
  go_wp2
  go_ret
  exact ⟨rfl, unhide hb0⟩

set_option maxRecDepth 20000 in
set_option maxHeartbeats 2000000 in
theorem growOf_of (r c n cap i q : Nat) (ao : Option Addr) (w : World) (hq : (i : Int) * (c : Int) = (q : Int)) (h36 : q ≤ 36) :
    Calls Tryz.prog 49 #[.agg #[.int .i64 r, .int .i64 c, .slice ao n cap], .int .i64 i] w fun e w' => e = .returned (.agg #[.int .i64 (q : Nat), .int .i64 1, .int .i64 (c : Nat)]) ∧ Below w.heap.size w w' := by
  have b0 := below_alloc9 w (.cells #[.int .i64 r, .int .i64 c, .slice ao n cap] 35)
  have s0 := size_alloc9 w (.cells #[.int .i64 r, .int .i64 c, .slice ao n cap] 35)
  have b1 := below_alloc9 (w.alloc (.cells #[.int .i64 r, .int .i64 c, .slice ao n cap] 35)) (.cells #[.int .i64 (q : Nat), .int .i64 1, .int .i64 (c : Nat)] 76)
  have X := BoxT.new 76 (w.alloc (.cells #[.int .i64 r, .int .i64 c, .slice ao n cap] 35)) (.int .i64 (q : Nat)) (.int .i64 1) (.int .i64 (c : Nat))
  rw [s0] at X
  have x0 := X.c0; have x1 := X.c1; have x2 := X.c2
  have BB := hide (b0.trans (b1.mono b0.size))
  clear b0 s0 b1 X
  go_enter Tryz.func49, Tryz.ntmps49
  go_wp2_with fail
  exact bodyPost_ret (v := .agg #[.int .i64 (q : Nat), .int .i64 1, .int .i64 (c : Nat)]) (by simp [results, Tryz.results49, go_sem, x0, x1, x2]) rfl ⟨rfl, unhide BB⟩

set_option maxRecDepth 20000 in
set_option maxHeartbeats 4000000 in
theorem gcheck_any (r c : Int) (ao : Option Addr) (n cap : Nat) (l i k : Int) (er : Int) (w : World) (hn : n ≤ 35184372088830) (h : okB r c n = true)
    (way : (i < 0 ∧ er = 7) ∨ (0 ≤ i ∧ l ≤ i ∧ er = 7) ∨ (0 ≤ i ∧ i < l ∧ k < 0 ∧ er = 7) ∨ (0 ≤ i ∧ i < l ∧ 0 ≤ k ∧ l ≤ k ∧ er = 7) ∨ (0 ≤ i ∧ i < l ∧ 0 ≤ k ∧ k < l ∧ i = k ∧ er = 7) ∨ (0 ≤ i ∧ i < l ∧ 0 ≤ k ∧ k < l ∧ ¬ i = k ∧ er = 0)) :
    Calls Tryz.prog 47 #[.agg #[.int .i64 r, .int .i64 c, .slice ao n cap], .int .i64 l, .int .i64 i, .int .i64 k] w fun e w' => e = .returned (.int .i64 er) ∧ Below w.heap.size w w' := by
  have hb0 := hide (below_alloc9 w (.cells #[.int .i64 r, .int .i64 c, .slice ao n cap] 35))
  have K := hide (fun w' => mcheck_any r c ao n cap w' hn)
  rw [if_pos h] at K
  clear h
  rcases way with ⟨h1, rfl⟩ | ⟨h1, h2, rfl⟩ | ⟨h1, h2, h3, rfl⟩ | ⟨h1, h2, h3, h4, rfl⟩ | ⟨h1, h2, h3, h4, rfl, rfl⟩ | ⟨h1, h2, h3, h4, h5, rfl⟩
  rotate_left 5
  · have e1 : decide (i < 0) = false := decide_eq_false (by omega)
    have e2 : decide (l ≤ i) = false := decide_eq_false (by omega)
    have e3 : decide (k < 0) = false := decide_eq_false (by omega)
    have e4 : decide (l ≤ k) = false := decide_eq_false (by omega)
    have e5 : (i == k) = false := by simp; omega
    go_enter Tryz.func47, Tryz.ntmps47
    go_wp2_with fail
    refine (unhide K _).mono ?_
    rintro e w1 ⟨rfl, hb⟩
    replace hb0 := hide ((unhide hb0).trans (hb.mono (unhide hb0).size))
    clear hb K
    go_wp2
    go_ret
    exact ⟨rfl, unhide hb0⟩
  all_goals
    go_enter Tryz.func47, Tryz.ntmps47
    go_wp2_with fail
    refine (unhide K _).mono ?_
    rintro e w1 ⟨rfl, hb⟩
    replace hb0 := hide ((unhide hb0).trans (hb.mono (unhide hb0).size))
    clear hb K
    go_wp2
    go_ret
    exact ⟨rfl, unhide hb0⟩

set_option maxRecDepth 20000 in
set_option maxHeartbeats 4000000 in
theorem gpair_of (x y c s p q u p' q' v : Nat) (w : World)
    (C1 : ∀ w', Below w.heap.size w w' → Calls Tryz.prog 77 #[.int .u64 c, .int .u64 x] w' fun e w'' => e = .returned (.int .u64 (p : Nat)) ∧ Below w'.heap.size w' w'')
    (C2 : ∀ w', Below w.heap.size w w' → Calls Tryz.prog 77 #[.int .u64 s, .int .u64 y] w' fun e w'' => e = .returned (.int .u64 (q : Nat)) ∧ Below w'.heap.size w' w'')
    (C3 : ∀ w', Below w.heap.size w w' → Calls Tryz.prog 76 #[.int .u64 p, .int .u64 q] w' fun e w'' => e = .returned (.int .u64 (u : Nat)) ∧ Below w'.heap.size w' w'')
    (C4 : ∀ w', Below w.heap.size w w' → Calls Tryz.prog 77 #[.int .u64 c, .int .u64 y] w' fun e w'' => e = .returned (.int .u64 (p' : Nat)) ∧ Below w'.heap.size w' w'')
    (C5 : ∀ w', Below w.heap.size w w' → Calls Tryz.prog 77 #[.int .u64 s, .int .u64 x] w' fun e w'' => e = .returned (.int .u64 (q' : Nat)) ∧ Below w'.heap.size w' w'')
    (C6 : ∀ w', Below w.heap.size w w' → Calls Tryz.prog 114 #[.int .u64 p', .int .u64 q'] w' fun e w'' => e = .returned (.int .u64 (v : Nat)) ∧ Below w'.heap.size w' w'') :
    Calls Tryz.prog 86 #[.int .u64 x, .int .u64 y, .int .u64 c, .int .u64 s] w fun e w' => e = .returned (.tuple #[.int .u64 (u : Nat), .int .u64 (v : Nat)]) ∧ Below w.heap.size w w' := by
  have K1 := hide C1; have K2 := hide C2; have K3 := hide C3; have K4 := hide C4; have K5 := hide C5; have K6 := hide C6
  have BB := hide (Below.refl w.heap.size w)
  clear C1 C2 C3 C4 C5 C6
  go_enter Tryz.func86, Tryz.ntmps86
  go_wp2_with fail
  refine (unhide K1 _ (unhide BB)).mono ?_
  rintro e w1 ⟨rfl, hb⟩
  replace BB := hide ((unhide BB).trans (hb.mono (unhide BB).size))
  clear hb K1
  go_wp2_with fail
  refine (unhide K2 _ (unhide BB)).mono ?_
  rintro e w1 ⟨rfl, hb⟩
  replace BB := hide ((unhide BB).trans (hb.mono (unhide BB).size))
  clear hb K2
  go_wp2_with fail
  refine (unhide K3 _ (unhide BB)).mono ?_
  rintro e w1 ⟨rfl, hb⟩
  replace BB := hide ((unhide BB).trans (hb.mono (unhide BB).size))
  clear hb K3
  go_wp2_with fail
  refine (unhide K4 _ (unhide BB)).mono ?_
  rintro e w1 ⟨rfl, hb⟩
  replace BB := hide ((unhide BB).trans (hb.mono (unhide BB).size))
  clear hb K4
  go_wp2_with fail
  refine (unhide K5 _ (unhide BB)).mono ?_
  rintro e w1 ⟨rfl, hb⟩
  replace BB := hide ((unhide BB).trans (hb.mono (unhide BB).size))
  clear hb K5
  go_wp2_with fail
  refine (unhide K6 _ (unhide BB)).mono ?_
  rintro e w1 ⟨rfl, hb⟩
  replace BB := hide ((unhide BB).trans (hb.mono (unhide BB).size))
  clear hb K6
  go_wp2
  exact bodyPost_ret (v := .tuple #[.int .u64 (u : Nat), .int .u64 (v : Nat)]) (by simp [results, Tryz.results86, go_sem]) rfl ⟨rfl, unhide BB⟩

/-- c x + s y and c y - s x. -/
theorem gpair_any (x y c s : Nat) (w : World) (hx : x < 18446744073709551616) (hy : y < 18446744073709551616) (hc : c < 18446744073709551616) (hs : s < 18446744073709551616) (hT : Tab w) :
    Calls Tryz.prog 86 #[.int .u64 x, .int .u64 y, .int .u64 c, .int .u64 s] w fun e w' => e = .returned (.tuple #[.int .u64 (aV (mV c x) (mV s y) : Nat), .int .u64 (aV (mV c y) (fN (mV s x)) : Nat)]) ∧ Below w.heap.size w w' :=
  gpair_of x y c s (mV c x) (mV s y) _ (mV c y) (mV s x) _ w (fun w' hb => vmul_any _ _ w' hc hx (hT.all hb)) (fun w' hb => vmul_any _ _ w' hs hy (hT.all hb)) (fun w' hb => vadd_any _ _ w' (mV_lt _ _) (mV_lt _ _) (hT.all hb)) (fun w' hb => vmul_any _ _ w' hc hy (hT.all hb)) (fun w' hb => vmul_any _ _ w' hs hx (hT.all hb)) (fun w' hb => psub_any _ _ w' (mV_lt _ _) (mV_lt _ _) (hT.all hb))

end Go.Proofs.YtceofkjefmilfaaGreatDoor

/- Quotients of numbers, as rational ones: how far they err. Ahead of stage 12. -/
namespace Go.Proofs.YtceofkjefmilfaaGreatDoor
open Go.RowKit

theorem stk_err (N d : Nat) (hd : 0 < d) : stk N d * d ≤ 2 * N + d ∧ 2 * N ≤ stk N d * d + d := by
  have h1 := Nat.div_add_mod N d
  have h2 := Nat.mod_lt N hd
  unfold stk
  split
  · have e : (2 * (N / d) + 0) * d = 2 * (d * (N / d)) := by rw [Nat.add_zero, Nat.mul_assoc, Nat.mul_comm d]
    rw [e]
    generalize d * (N / d) = Q at *
    omega
  · have e : (2 * (N / d) + 1) * d = 2 * (d * (N / d)) + d := by rw [Nat.add_mul, Nat.mul_assoc, Nat.one_mul, Nat.mul_comm d]
    rw [e]
    generalize d * (N / d) = Q at *
    omega

/-- What is rounded to the quotient, times the divisor, is the number, but for a part in 2^128. -/
theorem quo_near (a b : Nat) (ha : a < 18446744073709551616) (hb : b < 18446744073709551616) (fa : fFin a = true) (fb : fFin b = true) (a0 : fK a ≠ 0) (b0 : fK b ≠ 0) :
    340282366920938463463374607431768211456 * (xE (qS a b) (fX a - fX b - 181) * ab (fQ b)) ≤ 340282366920938463463374607431768211456 * ab (fQ a) + ab (fQ a) ∧
    340282366920938463463374607431768211456 * ab (fQ a) ≤ 340282366920938463463374607431768211456 * (xE (qS a b) (fX a - fX b - 181) * ab (fQ b)) + ab (fQ a) := by
  obtain ⟨x1, x2, x3, x4, x5, x6, x7, x8, x9⟩ := sc_facts a ha fa a0
  obtain ⟨y1, y2, y3, y4, y5, y6, y7, y8, y9⟩ := sc_facts b hb fb b0
  have eA : ab (fQ a) = (((fD a).natAbs * 2 ^ 180 : Nat) : Rat) * (2 * p2 (fX a - 181)) := by
    have e := fD_mag a ha fa a0 0
    rw [Int.add_zero, p2_0, Rat.mul_one, ← fQ_ab] at e
    rw [← e]
    unfold xE
    rw [Rat.natCast_mul, ← p2_nat, show fX a = ((180 : Nat) : Int) + (fX a - 181 + 1) by omega, p2_add, p2_succ, show ((180 : Nat) : Int) + (fX a - 181 + 1) - 181 = fX a - 181 by omega]
    grind
  have eB : ab (fQ b) = ((fD b).natAbs : Rat) * p2 (fX b) := by
    have e := fD_mag b hb fb b0 0
    rw [Int.add_zero, p2_0, Rat.mul_one, ← fQ_ab] at e
    exact e.symm
  have eX : xE (qS a b) (fX a - fX b - 181) * ab (fQ b) = ((qS a b * (fD b).natAbs : Nat) : Rat) * p2 (fX a - 181) := by
    rw [eB]
    unfold xE
    rw [Rat.natCast_mul, show fX a - 181 = (fX a - fX b - 181) + fX b by omega, p2_add]
    grind
  obtain ⟨s1, s2⟩ := stk_err ((fD a).natAbs * 2 ^ 180) (fD b).natAbs (by omega)
  have hP := p2_pos (fX a - 181)
  have hd : 340282366920938463463374607431768211456 * (fD b).natAbs ≤ 2 * ((fD a).natAbs * 2 ^ 180) := by
    have h1 : 2 ^ 181 ≤ (fD a).natAbs * 2 ^ 181 := Nat.le_mul_of_pos_left _ (by omega)
    have e1 : (2 : Nat) ^ 181 = 340282366920938463463374607431768211456 * 9007199254740992 := by decide
    have e2 : (2 : Nat) ^ 181 = 2 ^ 180 * 2 := by decide
    have h2 : 340282366920938463463374607431768211456 * (fD b).natAbs ≤ 340282366920938463463374607431768211456 * 9007199254740992 := Nat.mul_le_mul_left _ (by omega)
    rw [← e1] at h2
    rw [e2, ← Nat.mul_assoc] at h1
    omega
  have hq : qS a b = stk ((fD a).natAbs * 2 ^ 180) (fD b).natAbs := rfl
  rw [← hq] at s1 s2
  rw [eX, eA]
  generalize (fD a).natAbs * 2 ^ 180 = N at *
  generalize qS a b * (fD b).natAbs = Z at *
  have g1 : 340282366920938463463374607431768211456 * Z ≤ 340282366920938463463374607431768211456 * (2 * N) + 2 * N := by omega
  have g2 : 340282366920938463463374607431768211456 * (2 * N) ≤ 340282366920938463463374607431768211456 * Z + 2 * N := by omega
  have c1 := Rat.mul_le_mul_of_nonneg_left (Rat.natCast_le_natCast.2 g1) (Rat.le_of_lt hP)
  have c2 := Rat.mul_le_mul_of_nonneg_left (Rat.natCast_le_natCast.2 g2) (Rat.le_of_lt hP)
  rw [Rat.natCast_add, Rat.natCast_mul 340282366920938463463374607431768211456, Rat.natCast_mul 340282366920938463463374607431768211456, Rat.natCast_mul 2] at c1 c2
  have k1 : ((340282366920938463463374607431768211456 : Nat) : Rat) = 340282366920938463463374607431768211456 := rfl
  have k2 : ((2 : Nat) : Rat) = 2 := rfl
  rw [k1, k2] at c1 c2
  constructor <;> grind

/-- The quotient, times the divisor, errs by a part in 2^53 (and one in 2^123), or by half of the least number times the divisor (and a part in 2^127). -/
theorem div_err (a b : Nat) (ha : a < 18446744073709551616) (hb : b < 18446744073709551616) (fa : fFin a = true) (fb : fFin b = true) (a0 : fK a ≠ 0) (b0 : fK b ≠ 0) (hf : fFin (dV a b) = true) :
    10633823966279326983230456482242756608 * ab (fQ (dV a b) * fQ b - fQ a) ≤ 1180591620717411303425 * ab (fQ a) ∨
    (fR (dV a b) ≤ 4503599627370496 ∧ 170141183460469231731687303715884105728 * ab (fQ (dV a b) * fQ b - fQ a) ≤ 170141183460469231731687303715884105728 * (p2 (-1075) * ab (fQ b)) + ab (fQ a)) := by
  have hr := fR_fin _ hf
  have hd := (dV_fin a b fa fb a0 b0).1
  have hle : qV a b ≤ 9218868437227405312 := rnd_le _ _
  have hR : fR (dV a b) = qV a b := by rw [hd, fR_wrd _ _ (by omega)]
  have hS : fS (dV a b) = (fS a ^^ fS b) := by rw [hd, fS_wrd _ _ (by omega)]
  rw [hR] at hr
  have e := rnd_err (qS a b) (fX a - fX b - 181) hr
  obtain ⟨q1, q2⟩ := quo_near a b ha hb fa fb a0 b0
  have hx0 : 0 ≤ xE (qS a b) (fX a - fX b - 181) := Rat.mul_nonneg Rat.natCast_nonneg (Rat.le_of_lt (p2_pos _))
  have hy : (rv (qV a b) : Rat) * p2 (-1074) = yE (qS a b) (fX a - fX b - 181) := rfl
  have h74 : p2 (-1074) = 2 * p2 (-1075) := by rw [show (-1074 : Int) = -1075 + 1 by rfl, p2_succ]
  have hp := p2_pos (-1075)
  have n0 := mag_0 (fR a); have n1 := mag_0 (fR b)
  rw [fQ_ab, fQ_ab] at *
  rw [fQ_sign (dV a b), hS, hR, hy, fQ_sign a, fQ_sign b]
  generalize (rv (fR a) : Rat) * p2 (-1074) = A at *
  generalize (rv (fR b) : Rat) * p2 (-1074) = B at *
  generalize yE (qS a b) (fX a - fX b - 181) = Y at *
  generalize xE (qS a b) (fX a - fX b - 181) = X at *
  rw [h74] at e
  generalize p2 (-1075) = η at *
  have main : 10633823966279326983230456482242756608 * ab (Y * B - A) ≤ 1180591620717411303425 * A ∨ (qV a b ≤ 4503599627370496 ∧ 170141183460469231731687303715884105728 * ab (Y * B - A) ≤ 170141183460469231731687303715884105728 * (η * B) + A) := by
    rcases e with ⟨e1, e2⟩ | ⟨e1, e2, e3, e4⟩
    · refine .inl ?_
      have c1 := Rat.mul_le_mul_of_nonneg_left e1 n1
      have c2 := Rat.mul_le_mul_of_nonneg_left e2 n1
      unfold ab
      grind
    · refine .inr ⟨e1, ?_⟩
      have c1 := Rat.mul_le_mul_of_nonneg_left e3 n1
      have c2 := Rat.mul_le_mul_of_nonneg_left e4 n1
      unfold ab
      grind
  have k2 : ab (Y * B - A) = ab (A - Y * B) := ab_sub _ _
  cases fS a <;> cases fS b <;> simp only [Bool.xor_false, Bool.xor_true, Bool.not_true, Bool.not_false, Bool.false_eq_true, if_true, if_false]
  · exact main
  · rw [show -Y * -B - A = Y * B - A by grind]; exact main
  · rw [show -Y * B - -A = A - Y * B by grind, ← k2]; exact main
  · rw [show Y * -B - -A = A - Y * B by grind, ← k2]; exact main

end Go.Proofs.YtceofkjefmilfaaGreatDoor

