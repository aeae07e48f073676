/- Part 22 of the texts. -/
import Derived.Test.YtfnnbkclnflpfaaGreatDoorPartW20
import Derived.Test.YtfnnbkclnflpfaaGreatDoorPartW18
import Derived.Test.YtfnnbkclnflpfaaGreatDoorPartW17
import Derived.Test.YtfnnbkclnflpfaaGreatDoorPartW16
import Derived.Deep.Cut
import Derived.Test.YtfnnbkclnflpfaaGreatDoorPartW11
import Derived.Test.YtfnnbkclnflpfaaGreatDoorPartW08
import Derived.Deep.RegionHeld3
import Derived.Test.YtfnnbkclnflpfaaGreatDoorPartW09
import Derived.Laws.Cover2
import Derived.Laws.Externs
import Derived.Test.YtfnnbkclnflpfaaGreatDoorPartW05
import Derived.Laws.FloatArith
import Derived.Test.YtfnnbkclnflpfaaGreatDoorPartW19
import Derived.Laws.BitsAllLaws
import Derived.Test.YtfnnbkclnflpfaaGreatDoorPartW21
import Derived.Maps.AppendAt
/- Matrices as lists, row by row: made, written place by place, turned, put together; products; no program. Ahead of stage 10. -/
namespace Go.Proofs.YtfnnbkclnflpfaaGreatDoor
open Go.RowKit
theorem place_lt {r c i k : Nat} (hi : i < r) (hk : k < c) : i * c + k < r * c := by
  have h1 : (i + 1) * c ≤ r * c := Nat.mul_le_mul_right c hi
  rw [Nat.add_mul, Nat.one_mul] at h1
  omega
theorem place_div {c i k : Nat} (hk : k < c) : (i * c + k) / c = i := by
  rw [Nat.add_comm, Nat.add_mul_div_right _ _ (by omega), Nat.div_eq_of_lt hk, Nat.zero_add]
theorem place_mod {c i k : Nat} (hk : k < c) : (i * c + k) % c = k := by
  rw [Nat.add_comm, Nat.add_mul_mod_self_right, Nat.mod_eq_of_lt hk]
/-- The number of a place; a matrix turned; a part; one beside the other. -/
def elM (c : Nat) (S : List Nat) (i k : Nat) : Nat := S.getD (i * c + k) 0
end Go.Proofs.YtfnnbkclnflpfaaGreatDoor

/- Sums of whole numbers: put in order by rows or by columns, none of them below 0, bounded; what stage 11 tells, in units of powers of two; rows scaled keep the rank; no program. Ahead of stage 11. -/
namespace Go.Proofs.YtfnnbkclnflpfaaGreatDoor
open Go.RowKit

/-- The sum of the first n numbers. -/
def smI (f : Nat → Int) : Nat → Int
  | 0 => 0
  | n + 1 => smI f n + f n

theorem smI_congr {f g : Nat → Int} (n : Nat) (h : ∀ i, i < n → f i = g i) : smI f n = smI g n := by
  induction n with
  | zero => rfl
  | succ n ih => unfold smI; rw [ih (fun i hi => h i (by omega)), h n (by omega)]

theorem smI_app (f : Nat → Int) (m n : Nat) : smI f (m + n) = smI f m + smI (fun i => f (m + i)) n := by
  induction n with
  | zero => show smI f m = smI f m + 0; omega
  | succ n ih =>
    have e1 : smI f (m + (n + 1)) = smI f (m + n) + f (m + n) := rfl
    have e2 : smI (fun i => f (m + i)) (n + 1) = smI (fun i => f (m + i)) n + f (m + n) := rfl
    rw [e1, e2, ih]; omega

/-- A list's sum, row by row. -/
theorem smI_grid (f : Nat → Int) (r c : Nat) : smI f (r * c) = smI (fun i => smI (fun k => f (i * c + k)) c) r := by
  induction r with
  | zero => rw [Nat.zero_mul]; rfl
  | succ r ih =>
    have e : smI (fun i => smI (fun k => f (i * c + k)) c) (r + 1) = smI (fun i => smI (fun k => f (i * c + k)) c) r + smI (fun k => f (r * c + k)) c := rfl
    rw [e, ← ih, Nat.succ_mul, smI_app]

theorem smI_abs {f : Nat → Int} {B : Nat} (n : Nat) (h : ∀ i, i < n → (f i).natAbs ≤ B) : (smI f n).natAbs ≤ n * B := by
  induction n with
  | zero => rw [Nat.zero_mul]; exact Nat.le_refl 0
  | succ n ih =>
    have a := ih (fun i hi => h i (by omega))
    have b := h n (by omega)
    rw [Nat.succ_mul]
    unfold smI
    have := Int.natAbs_add_le (smI f n) (f n)
    omega

theorem Lvl.times {lo1 lo2 : Int} {W1 W2 : Nat} {z1 z2 : Int} (h1 : Lvl lo1 W1 z1) (h2 : Lvl lo2 W2 z2) (b1 : -16384 ≤ lo1 + lo2) (b2 : lo1 + lo2 + (W1 + W2 : Nat) ≤ 16384) (b3 : W1 + W2 ≤ 16384) : Lvl (lo1 + lo2) (W1 + W2) (z1 * z2) := by
  refine ⟨?_, b1, b2, b3⟩
  rw [Int.natAbs_mul]
  exact mul_lt_pow h1.1 h2.1

theorem Lvl.less {lo : Int} {W : Nat} {z1 z2 : Int} (h1 : Lvl lo W z1) (h2 : Lvl lo W z2) (hW : lo + W + 1 ≤ 16384) (hW2 : W + 1 ≤ 16384) : Lvl lo (W + 1) (z1 - z2) := by
  refine ⟨?_, h1.2.1, by have := h1.2.2; omega, hW2⟩
  have a := h1.1
  have b := h2.1
  rw [Nat.pow_succ]
  omega

/-- The exact sum of products, in units of 2^-2148. -/
def dtZ (n : Nat) (x y : Nat → Nat) : Int := smI (fun j => fZ (x j) * fZ (y j)) n

/-- A place of a matrix less a product, in units of 2^-2148; the square of that, in units of 2^-4296. -/
def rsZ (n c : Nat) (A B C : List Nat) (i k : Nat) : Int := fZ (elM c A i k) * 2 ^ 1074 - dtZ n (fun j => elM n B i j) (fun j => elM c C j k)
def rsQ (r n c : Nat) (A B C : List Nat) : Int := smI (fun i => smI (fun k => rsZ n c A B C i k * rsZ n c A B C i k) c) r

end Go.Proofs.YtfnnbkclnflpfaaGreatDoor

/- How wide the sums of stage 11 are; sums over places one after another; no program. Ahead of stage 11. -/
namespace Go.Proofs.YtfnnbkclnflpfaaGreatDoor
open Go.RowKit
theorem smI_lt {f : Nat → Int} {W : Nat} (n : Nat) (hn : n ≤ 8) (h : ∀ i, i < n → (f i).natAbs < 2 ^ W) : (smI f n).natAbs < 2 ^ (W + 3) := by
  have a := smI_abs (f := f) (B := 2 ^ W - 1) n (fun i hi => Nat.le_sub_one_of_lt (h i hi))
  have p := Nat.two_pow_pos W
  have e : (2 : Nat) ^ (W + 3) = 8 * 2 ^ W := by rw [Nat.pow_add]; omega
  rw [e]
  generalize (2 : Nat) ^ W = P at *
  have : n * (P - 1) ≤ 8 * (P - 1) := Nat.mul_le_mul_right _ hn
  omega

theorem el_fin (c : Nat) (S : List Nat) (i k : Nat) (h : ∀ x ∈ S, fFin x = true) : fFin (elM c S i k) = true := by
  unfold elM
  rw [List.getD_eq_getElem?_getD]
  by_cases g : i * c + k < S.length
  · rw [List.getElem?_eq_getElem g]
    exact h _ (List.getElem_mem g)
  · rw [List.getElem?_eq_none (by omega)]
    decide +kernel

theorem mul_ltV {j k V : Nat} {x y : Int} (hV : j + k = V) (hx : x.natAbs < 2 ^ j) (hy : y.natAbs < 2 ^ k) : (x * y).natAbs < 2 ^ V := by
  subst hV
  rw [Int.natAbs_mul]
  exact mul_lt_pow hx hy
theorem smI_ltV {f : Nat → Int} {W V : Nat} (hV : W + 3 = V) (n : Nat) (hn : n ≤ 8) (h : ∀ i, i < n → (f i).natAbs < 2 ^ W) : (smI f n).natAbs < 2 ^ V := by
  subst hV
  exact smI_lt n hn h
theorem sub_ltV {x y : Int} {W V : Nat} (hV : W + 1 = V) (hx : x.natAbs < 2 ^ W) (hy : y.natAbs < 2 ^ W) : (x - y).natAbs < 2 ^ V := by
  subst hV
  rw [Nat.pow_succ]
  omega
theorem up_ltV {x : Int} {j k V : Nat} (hV : j + k ≤ V) (hx : x.natAbs < 2 ^ j) : (x * 2 ^ k).natAbs < 2 ^ V := by
  rw [Int.natAbs_mul, Int.natAbs_pow]
  refine Nat.lt_of_lt_of_le ((Nat.mul_lt_mul_right (Nat.two_pow_pos k)).2 hx) ?_
  rw [← Nat.pow_add]
  exact Nat.pow_le_pow_right (by decide) hV
/-- A product; a sum of them; a number at the lower level. -/
theorem dtZ_lt (n : Nat) (hn : n ≤ 8) (x y : Nat → Nat) (hx : ∀ j, j < n → fFin (x j) = true) (hy : ∀ j, j < n → fFin (y j) = true) : (dtZ n x y).natAbs < 2 ^ 4199 :=
  smI_ltV (W := 4196) (V := 4199) (by decide) n hn (fun j hj => mul_ltV (j := 2098) (k := 2098) (V := 4196) (by decide) (fZ_lt _ (hx j hj)) (fZ_lt _ (hy j hj)))
theorem dtZ_lvl (n : Nat) (hn : n ≤ 8) (x y : Nat → Nat) (hx : ∀ j, j < n → fFin (x j) = true) (hy : ∀ j, j < n → fFin (y j) = true) : Lvl (-2148) 4199 (dtZ n x y) :=
  ⟨dtZ_lt n hn x y hx hy, by decide, by decide, by decide⟩

theorem rsZ_lt (n c : Nat) (A B C : List Nat) (i k : Nat) (hn : n ≤ 8) (fA : ∀ x ∈ A, fFin x = true) (fB : ∀ x ∈ B, fFin x = true) (fC : ∀ x ∈ C, fFin x = true) : (rsZ n c A B C i k).natAbs < 2 ^ 4200 :=
  sub_ltV (W := 4199) (V := 4200) (by decide) (up_ltV (j := 2098) (k := 1074) (V := 4199) (by decide) (fZ_lt _ (el_fin c A i k fA))) (dtZ_lt n hn _ _ (fun j _ => el_fin n B i j fB) (fun j _ => el_fin c C j k fC))

end Go.Proofs.YtfnnbkclnflpfaaGreatDoor

/- Copies of lists; cells that are spoiled; are two lists the same. -/
namespace Go.Proofs.YtfnnbkclnflpfaaGreatDoor
open Go.RowKit
attribute [local go_sem ↓] Go.wp_at_zero Go.wp_at_succ

/-- The numbers of a list. -/
def natL (I : List Int) : List Nat := I.map Int.toNat
theorem natL_len (I : List Int) : (natL I).length = I.length := by simp [natL]
theorem natL_back {w : World} {ao : Option Addr} {c : Nat} {I : List Int} (h : BitsAt w ao c I) : (natL I).map (fun x : Nat => (x : Int)) = I := by
  unfold natL
  rw [List.map_map]
  refine (List.map_congr_left fun x hx => ?_).trans (List.map_id I)
  have := h.2.1 x hx
  simp
  omega
set_option maxRecDepth 20000 in
theorem append_nil (w : World) (ty : TypeId) (g c : Nat) :
    (Builtin.append_ #[22, 22] ty #[.slice (some ⟨g, 0, none⟩) 0 0, .slice none 0 c]).run Tryz.prog w = .ok (.slice (some ⟨g, 0, none⟩) 0 0) w := by
  simp [Builtin.append_, go_sem]

/-- n cells of block g hold bits, whatever they are. -/
def RowU (w : World) (g n : Nat) : Prop := ∃ cur : Array Value, w.heap[g]? = some (.cells cur 52 (0, 0)) ∧ n ≤ cur.size ∧ ∀ j, j < n → ∃ z : Int, cur[j]? = some (.int .u64 z)
theorem RowU.cell {w : World} {g n : Nat} (h : RowU w g n) {j : Nat} (hj : j < n) : ∃ z : Int, w.cell? ⟨g, j, none⟩ = some (.int .u64 z) := by
  obtain ⟨cur, h1, h2, h3⟩ := h
  obtain ⟨z, hz⟩ := h3 j hj
  exact ⟨z, by rw [cell_of_row w g j _ _ _ h1]; exact hz⟩
theorem RowU.free {w : World} {g n : Nat} (h : RowU w g n) (j : Nat) : w.frozen? ⟨g, j, none⟩ = false := by
  obtain ⟨cur, h1, _⟩ := h
  exact frozen_of_row w g j _ _ h1
theorem RowU.set {w : World} {g n : Nat} (h : RowU w g n) (b j : Nat) (z : Int) : RowU (w.setCell ⟨b, j, none⟩ (.int .u64 z)) g n := by
  obtain ⟨cur, h1, h2, h3⟩ := h
  by_cases e : g = b
  · subst e
    refine ⟨cur.setIfInBounds j (.int .u64 z), heap_setCell_same w g j _ _ _ h1, by simpa using h2, fun i hi => ?_⟩
    rw [Array.getElem?_setIfInBounds]
    by_cases ej : j = i
    · subst ej
      rw [if_pos rfl, if_pos (by omega)]
      exact ⟨z, rfl⟩
    · rw [if_neg ej]
      exact h3 i hi
  · exact ⟨cur, (Below.heap_setCell w ⟨b, j, none⟩ (.int .u64 z) g e).trans h1, h2, h3⟩
theorem RowU.below {w w' : World} {g n : Nat} (h : RowU w g n) (hb : Below w.heap.size w w') : RowU w' g n := by
  obtain ⟨cur, h1, h2⟩ := h
  exact ⟨cur, (hb.block g (Array.getElem?_eq_some_iff.1 h1).1).trans h1, h2⟩
theorem BitsAt.other {w : World} {ao : Option Addr} {c : Nat} {I : List Int} (h : BitsAt w ao c I) {p : Addr} (hp : I = [] ∨ ∃ b off, ao = some ⟨b, off, none⟩ ∧ b ≠ p.block) (u : Value) : BitsAt (w.setCell p u) ao c I := by
  refine ⟨h.1, h.2.1, ?_⟩
  rcases h.2.2 with e | ⟨b, off, e1, e2, e3⟩
  · exact .inl e
  rcases hp with e | ⟨b', off', f1, f2⟩
  · exact .inl e
  rw [e1] at f1
  simp only [Option.some.injEq, Addr.mk.injEq] at f1
  obtain ⟨rfl, rfl, _⟩ := f1
  refine .inr ⟨b, off, e1, by simpa [World.setCell] using e2, fun i hi => ?_⟩
  rw [cell_setCell_other _ _ _ _ f2]
  exact e3 i hi

end Go.Proofs.YtfnnbkclnflpfaaGreatDoor

/- The law VectorAxpys, walked. -/
namespace Go.Proofs.YtfnnbkclnflpfaaGreatDoor
open Go.RowKit
attribute [local go_sem ↓] Go.wp_at_zero Go.wp_at_succ

/-- Where a list lies: from block H on. -/
def NewB (H : Nat) (ao : Option Addr) (I : List Int) : Prop := I = [] ∨ ∃ b off, ao = some ⟨b, off, none⟩ ∧ H ≤ b
/-- A copy, whose cells may be spoiled. -/
def CopyB (base H : Nat) (w : World) (po : Option Addr) (n : Nat) : Prop := n = 0 ∨ ∃ g, po = some ⟨g, 0, none⟩ ∧ base ≤ g ∧ g < H ∧ RowU w g n
theorem CopyB.below {base H : Nat} {w w' : World} {po : Option Addr} {n : Nat} (h : CopyB base H w po n) (hb : Below w.heap.size w w') : CopyB base H w' po n := by
  rcases h with h | ⟨g, h1, h2, h3, h4⟩
  · exact .inl h
  · exact .inr ⟨g, h1, h2, h3, h4.below hb⟩
theorem CopyB.set {base H : Nat} {w : World} {po : Option Addr} {n : Nat} (h : CopyB base H w po n) (b j : Nat) (z : Int) : CopyB base H (w.setCell ⟨b, j, none⟩ (.int .u64 z)) po n := by
  rcases h with h | ⟨g, h1, h2, h3, h4⟩
  · exact .inl h
  · exact .inr ⟨g, h1, h2, h3, h4.set b j z⟩
theorem CopyB.base {base base' H : Nat} {w : World} {po : Option Addr} {n : Nat} (h : CopyB base H w po n) (hb : base' ≤ base) : CopyB base' H w po n := by
  rcases h with h | ⟨g, h1, h2, h3, h4⟩
  · exact .inl h
  · exact .inr ⟨g, h1, by omega, h3, h4⟩
theorem BitsAt.far {H : Nat} {w : World} {ao : Option Addr} {c : Nat} {I : List Int} (h : BitsAt w ao c I) (hn : NewB H ao I) {b : Nat} (hb : b < H) (j : Nat) (u : Value) : BitsAt (w.setCell ⟨b, j, none⟩ u) ao c I := by
  refine h.other ?_ u
  rcases hn with e | ⟨b', off, e1, e2⟩
  · exact .inl e
  · exact .inr ⟨b', off, e1, by show b' ≠ b; omega⟩

/-- What holds while the copies are spoiled. -/
structure SpSt (w wr : World) (H : Nat) (po qo : Option Addr) (n m : Nat) (so to' : Option Addr) (cs ct : Nat) (S T : List Int) : Prop where
  bel : Below w.heap.size w wr
  p : CopyB w.heap.size H wr po n
  q : CopyB w.heap.size H wr qo m
  s : BitsAt wr so cs S
  t : BitsAt wr to' ct T
  ns : NewB H so S
  nt : NewB H to' T
theorem SpSt.put {w wr : World} {H : Nat} {po qo : Option Addr} {n m : Nat} {so to' : Option Addr} {cs ct : Nat} {S T : List Int} (h : SpSt w wr H po qo n m so to' cs ct S T) {g : Nat} (hg : w.heap.size ≤ g) (hH : g < H) (j : Nat) (z : Int) : SpSt w (wr.setCell ⟨g, j, none⟩ (.int .u64 z)) H po qo n m so to' cs ct S T :=
  ⟨h.bel.setCell (p := ⟨g, j, none⟩) hg _, h.p.set g j z, h.q.set g j z, h.s.far h.ns hH j _, h.t.far h.nt hH j _, h.ns, h.nt⟩
theorem OwnB.same {base : Nat} {w w0 : World} {I : List Int} {po ao : Option Addr} {pc c : Nat} (h : OwnB base w (.slice po I.length pc) (natL I)) (h0 : BitsAt w0 ao c I) : BitsAt w po pc I := by
  obtain ⟨ao', cap', e, hb⟩ := h.bits
  simp only [Value.slice.injEq] at e
  obtain ⟨rfl, _, rfl⟩ := e
  rw [natL_back h0] at hb
  exact hb

end Go.Proofs.YtfnnbkclnflpfaaGreatDoor

