/- Part 22 of the texts. -/
import Derived.Test.YtfnnbkclnflpfaaGreatDoorPartR21
import Derived.Test.YtfnnbkclnflpfaaGreatDoorPartR20
import Derived.Test.YtfnnbkclnflpfaaGreatDoorPartR18
import Derived.Test.YtfnnbkclnflpfaaGreatDoorPartR16
import Derived.Test.YtfnnbkclnflpfaaGreatDoorPartR10
import Derived.Test.YtfnnbkclnflpfaaGreatDoorPartR08
import Derived.Lib.BitFns
import Derived.Test.YtfnnbkclnflpfaaGreatDoorPartR07
import Derived.Test.YtfnnbkclnflpfaaGreatDoorPartR11
import Derived.Deep.RegionHeld3
import Derived.Test.YtfnnbkclnflpfaaGreatDoorPartR17
import Derived.Test.YtfnnbkclnflpfaaGreatDoorPartR09
import Derived.Laws.Cover2
import Derived.Laws.Externs
import Derived.Test.YtfnnbkclnflpfaaGreatDoorPartR05
import Derived.Laws.FloatArith
import Derived.Test.YtfnnbkclnflpfaaGreatDoorPartR19
import Derived.Laws.BitsAllLaws
import Derived.Maps.AppendAt
/- Minors and the rank, over whole numbers. No program. -/
namespace Go.Proofs.YtfnnbkclnflpfaaGreatDoor

/-- Places that rise, all below m. -/
def Rise (m : Nat) (I : List Nat) : Prop := I.Pairwise (· < ·) ∧ ∀ i ∈ I, i < m

/-- The minor of the rows I and the columns C. -/
def minorD (a : Nat → Nat → Int) (I C : List Nat) : Int := detD (I.map a) C

/-- All minors of k rows and columns are 0. -/
def Van (k : Nat) (a : Nat → Nat → Int) (m n : Nat) : Prop := ∀ I C, Rise m I → Rise n C → I.length = k → C.length = k → minorD a I C = 0

/-- r is the rank. -/
def IsRank (r : Nat) (a : Nat → Nat → Int) (m n : Nat) : Prop := ¬ Van r a m n ∧ Van (r + 1) a m n

theorem Rise.sub {m : Nat} {I J : List Nat} (h : Rise m I) (hs : J.Sublist I) : Rise m J := ⟨h.1.sublist hs, fun i hi => h.2 i (hs.subset hi)⟩

theorem Van.succ {k : Nat} {a : Nat → Nat → Int} {m n : Nat} (h : Van k a m n) : Van (k + 1) a m n := by
  intro I C hI hC lI lC
  cases I with
  | nil => simp at lI
  | cons i I =>
    show exD (a i) C (detD (I.map a)) = 0
    rw [exD_congr (a i) C (detD (I.map a)) (fun _ => 0) (fun l hl hlen => ?_), exD_zero]
    simp only [List.length_cons] at lI
    exact h I l (hI.sub (List.sublist_cons_self i I)) (hC.sub hl) (by omega) (by omega)

theorem Van.le {k j : Nat} {a : Nat → Nat → Int} {m n : Nat} (h : Van k a m n) (hj : k ≤ j) : Van j a m n := by
  obtain ⟨d, rfl⟩ : ∃ d, j = k + d := ⟨j - k, by omega⟩
  clear hj
  induction d with
  | zero => exact h
  | succ d ih => exact ih.succ

theorem IsRank.unique {r s : Nat} {a : Nat → Nat → Int} {m n : Nat} (h : IsRank r a m n) (g : IsRank s a m n) : r = s := by
  rcases Nat.lt_trichotomy r s with hlt | e | hlt
  · exact absurd (h.2.le hlt) g.1
  · exact e
  · exact absurd (g.2.le hlt) h.1

theorem dup_split : ∀ (I : List Nat), ¬ I.Nodup → ∃ pre i mid post, I = pre ++ i :: (mid ++ i :: post)
  | [], h => absurd List.nodup_nil h
  | i :: I, h => by
    by_cases hi : i ∈ I
    · obtain ⟨s, t, rfl⟩ := List.append_of_mem hi
      exact ⟨[], i, s, t, rfl⟩
    · have : ¬ I.Nodup := fun hn => h (List.nodup_cons.2 ⟨hi, hn⟩)
      obtain ⟨pre, j, mid, post, e⟩ := dup_split I this
      exact ⟨i :: pre, j, mid, post, by rw [e]; rfl⟩

/-- All minors vanish, the rows in whatever order, also if some stand twice. -/
theorem Van.all {k : Nat} {a : Nat → Nat → Int} {m n : Nat} (h : Van k a m n) (I C : List Nat) (hI : ∀ i ∈ I, i < m) (hC : Rise n C) (lI : I.length = k) (lC : C.length = k) : minorD a I C = 0 := by
  by_cases hn : I.Nodup
  · have hp : (I.mergeSort (fun x y => decide (x ≤ y))).Perm I := List.mergeSort_perm I _
    have hs : (I.mergeSort (fun x y => decide (x ≤ y))).Pairwise (fun x y => decide (x ≤ y) = true) := List.pairwise_mergeSort (fun x y z h1 h2 => by simp at *; omega) (fun x y => by simp; omega) I
    have hn' : (I.mergeSort (fun x y => decide (x ≤ y))).Nodup := hp.nodup_iff.2 hn
    have hr : Rise m (I.mergeSort (fun x y => decide (x ≤ y))) := by
      refine ⟨?_, fun i hi => hI i (hp.mem_iff.1 hi)⟩
      have h2 := List.Pairwise.and hs hn'
      exact h2.imp (fun h => by simp at h; omega)
    obtain ⟨p, _, hd⟩ := detD_perm (hp.map a)
    have h0 := h _ C hr hC (by rw [hp.length_eq]; exact lI) lC
    unfold minorD at h0 ⊢
    have h1 := hd C
    rw [h0] at h1
    rcases (show p = 1 ∨ p = -1 by assumption) with rfl | rfl <;> omega
  · obtain ⟨pre, i, mid, post, rfl⟩ := dup_split I hn
    unfold minorD
    simp only [List.map_append, List.map_cons]
    exact detD_twice (a i) (post.map a) (pre.map a) (mid.map a) C

/-- A row that is 0 at the columns asked for. -/
theorem exD_nought (r : Nat → Int) (cs : List Nat) (D : List Nat → Int) (h : ∀ c ∈ cs, r c = 0) : exD r cs D = 0 := by
  rw [exD_row r (fun _ => 0) cs D h]
  induction cs generalizing D with
  | nil => rfl
  | cons c cs ih =>
    unfold exD
    rw [ih _ (fun c hc => h c (by simp [hc]))]
    simp

theorem detD_nought (r : Nat → Int) (rs : List (Nat → Int)) (cs : List Nat) (h : ∀ c ∈ cs, r c = 0) : ∀ pre : List (Nat → Int), detD (pre ++ r :: rs) cs = 0 := by
  intro pre
  have hp : (pre ++ r :: rs).Perm (r :: (pre ++ rs)) := List.perm_middle
  obtain ⟨p, _, hd⟩ := detD_perm hp
  rw [hd cs]
  show p * exD r cs (detD (pre ++ rs)) = 0
  rw [exD_nought r cs _ h]
  simp

end Go.Proofs.YtfnnbkclnflpfaaGreatDoor

/- Matrices as lists, row by row: made, written place by place, turned, put together; products; no program. Ahead of stage 10. -/
namespace Go.Proofs.YtfnnbkclnflpfaaGreatDoor
open Go.RowKit
theorem place_lt {r c i k : Nat} (hi : i < r) (hk : k < c) : i * c + k < r * c := by
  have h1 : (i + 1) * c ≤ r * c := Nat.mul_le_mul_right c hi
  rw [Nat.add_mul, Nat.one_mul] at h1
  omega
theorem place_div {c i k : Nat} (hk : k < c) : (i * c + k) / c = i := by
  rw [Nat.add_comm, Nat.add_mul_div_right _ _ (by omega), Nat.div_eq_of_lt hk, Nat.zero_add]
theorem place_mod {c i k : Nat} (hk : k < c) : (i * c + k) % c = k := by
  rw [Nat.add_comm, Nat.add_mul_mod_self_right, Nat.mod_eq_of_lt hk]
/-- The number of a place; a matrix turned; a part; one beside the other. -/
def elM (c : Nat) (S : List Nat) (i k : Nat) : Nat := S.getD (i * c + k) 0
end Go.Proofs.YtfnnbkclnflpfaaGreatDoor

/- Sums of whole numbers: put in order by rows or by columns, none of them below 0, bounded; what stage 11 tells, in units of powers of two; rows scaled keep the rank; no program. Ahead of stage 11. -/
namespace Go.Proofs.YtfnnbkclnflpfaaGreatDoor
open Go.RowKit

/-- The sum of the first n numbers. -/
def smI (f : Nat → Int) : Nat → Int
  | 0 => 0
  | n + 1 => smI f n + f n

theorem smI_congr {f g : Nat → Int} (n : Nat) (h : ∀ i, i < n → f i = g i) : smI f n = smI g n := by
  induction n with
  | zero => rfl
  | succ n ih => unfold smI; rw [ih (fun i hi => h i (by omega)), h n (by omega)]

theorem smI_add (f g : Nat → Int) (n : Nat) : smI (fun i => f i + g i) n = smI f n + smI g n := by
  induction n with
  | zero => rfl
  | succ n ih => unfold smI; rw [ih]; omega

theorem smI_noughts (n : Nat) : smI (fun _ => 0) n = 0 := by
  induction n with
  | zero => rfl
  | succ n ih => unfold smI; rw [ih]; rfl

/-- By rows or by columns. -/
theorem smI_swap (f : Nat → Nat → Int) (r c : Nat) : smI (fun i => smI (f i) c) r = smI (fun k => smI (fun i => f i k) r) c := by
  induction r with
  | zero =>
    rw [smI_congr (f := fun k => smI (fun i => f i k) 0) (g := fun _ => 0) c (fun _ _ => rfl), smI_noughts]
    rfl
  | succ r ih =>
    have e : smI (fun i => smI (f i) c) (r + 1) = smI (fun i => smI (f i) c) r + smI (f r) c := rfl
    rw [e, ih, ← smI_add]
    rfl

theorem smI_app (f : Nat → Int) (m n : Nat) : smI f (m + n) = smI f m + smI (fun i => f (m + i)) n := by
  induction n with
  | zero => show smI f m = smI f m + 0; omega
  | succ n ih =>
    have e1 : smI f (m + (n + 1)) = smI f (m + n) + f (m + n) := rfl
    have e2 : smI (fun i => f (m + i)) (n + 1) = smI (fun i => f (m + i)) n + f (m + n) := rfl
    rw [e1, e2, ih]; omega

/-- A list's sum, row by row. -/
theorem smI_grid (f : Nat → Int) (r c : Nat) : smI f (r * c) = smI (fun i => smI (fun k => f (i * c + k)) c) r := by
  induction r with
  | zero => rw [Nat.zero_mul]; rfl
  | succ r ih =>
    have e : smI (fun i => smI (fun k => f (i * c + k)) c) (r + 1) = smI (fun i => smI (fun k => f (i * c + k)) c) r + smI (fun k => f (r * c + k)) c := rfl
    rw [e, ← ih, Nat.succ_mul, smI_app]

theorem smI_abs {f : Nat → Int} {B : Nat} (n : Nat) (h : ∀ i, i < n → (f i).natAbs ≤ B) : (smI f n).natAbs ≤ n * B := by
  induction n with
  | zero => rw [Nat.zero_mul]; exact Nat.le_refl 0
  | succ n ih =>
    have a := ih (fun i hi => h i (by omega))
    have b := h n (by omega)
    rw [Nat.succ_mul]
    unfold smI
    have := Int.natAbs_add_le (smI f n) (f n)
    omega

theorem Lvl.times {lo1 lo2 : Int} {W1 W2 : Nat} {z1 z2 : Int} (h1 : Lvl lo1 W1 z1) (h2 : Lvl lo2 W2 z2) (b1 : -16384 ≤ lo1 + lo2) (b2 : lo1 + lo2 + (W1 + W2 : Nat) ≤ 16384) (b3 : W1 + W2 ≤ 16384) : Lvl (lo1 + lo2) (W1 + W2) (z1 * z2) := by
  refine ⟨?_, b1, b2, b3⟩
  rw [Int.natAbs_mul]
  exact mul_lt_pow h1.1 h2.1

theorem Lvl.less {lo : Int} {W : Nat} {z1 z2 : Int} (h1 : Lvl lo W z1) (h2 : Lvl lo W z2) (hW : lo + W + 1 ≤ 16384) (hW2 : W + 1 ≤ 16384) : Lvl lo (W + 1) (z1 - z2) := by
  refine ⟨?_, h1.2.1, by have := h1.2.2; omega, hW2⟩
  have a := h1.1
  have b := h2.1
  rw [Nat.pow_succ]
  omega

/-- The exact sum of products, in units of 2^-2148. -/
def dtZ (n : Nat) (x y : Nat → Nat) : Int := smI (fun j => fZ (x j) * fZ (y j)) n

/-- A place of a matrix less a product, in units of 2^-2148; the square of that, in units of 2^-4296. -/
def rsZ (n c : Nat) (A B C : List Nat) (i k : Nat) : Int := fZ (elM c A i k) * 2 ^ 1074 - dtZ n (fun j => elM n B i j) (fun j => elM c C j k)
def rsQ (r n c : Nat) (A B C : List Nat) : Int := smI (fun i => smI (fun k => rsZ n c A B C i k * rsZ n c A B C i k) c) r

/-- What is left of a product's place less the matrix; by the first factor turned, in units of 2^-3222; the square of that, in units of 2^-6444. -/
def grZ (r n c : Nat) (A X B : List Nat) (j k : Nat) : Int := smI (fun i => fZ (elM n A i j) * (dtZ n (fun l => elM n A i l) (fun l => elM c X l k) - fZ (elM c B i k) * 2 ^ 1074)) r
def grQ (r n c : Nat) (A X B : List Nat) : Int := smI (fun k => smI (fun j => grZ r n c A X B j k * grZ r n c A X B j k) n) c

end Go.Proofs.YtfnnbkclnflpfaaGreatDoor

/- How wide the sums of stage 11 are; sums over places one after another; no program. Ahead of stage 11. -/
namespace Go.Proofs.YtfnnbkclnflpfaaGreatDoor
open Go.RowKit

/-- The sum over the places of i rows and of k places of the next one. -/
def rnI (f : Nat → Nat → Int) (c i k : Nat) : Int := smI (fun i => smI (f i) c) i + smI (f i) k
theorem rnI_step (f : Nat → Nat → Int) (c i k : Nat) : rnI f c i (k + 1) = rnI f c i k + f i k := by
  unfold rnI
  have e : smI (f i) (k + 1) = smI (f i) k + f i k := rfl
  rw [e, Int.add_assoc]
theorem rnI_row (f : Nat → Nat → Int) (c i : Nat) : rnI f c i c = rnI f c (i + 1) 0 := by
  unfold rnI
  have e : smI (fun i => smI (f i) c) (i + 1) = smI (fun i => smI (f i) c) i + smI (f i) c := rfl
  have e0 : smI (f (i + 1)) 0 = 0 := rfl
  rw [e, e0, Int.add_zero]
theorem rnI_all (f : Nat → Nat → Int) (c r : Nat) : rnI f c r 0 = smI (fun i => smI (f i) c) r := by
  unfold rnI
  have e0 : smI (f r) 0 = 0 := rfl
  rw [e0, Int.add_zero]

theorem smI_lt {f : Nat → Int} {W : Nat} (n : Nat) (hn : n ≤ 8) (h : ∀ i, i < n → (f i).natAbs < 2 ^ W) : (smI f n).natAbs < 2 ^ (W + 3) := by
  have a := smI_abs (f := f) (B := 2 ^ W - 1) n (fun i hi => Nat.le_sub_one_of_lt (h i hi))
  have p := Nat.two_pow_pos W
  have e : (2 : Nat) ^ (W + 3) = 8 * 2 ^ W := by rw [Nat.pow_add]; omega
  rw [e]
  generalize (2 : Nat) ^ W = P at *
  have : n * (P - 1) ≤ 8 * (P - 1) := Nat.mul_le_mul_right _ hn
  omega

theorem rnI_lt {f : Nat → Nat → Int} {W : Nat} (r c i k : Nat) (hi : i ≤ r) (hr : r ≤ 8) (hk : k ≤ c) (hc : c ≤ 8) (h : ∀ i k, k < c → (f i k).natAbs < 2 ^ W) : (rnI f c i k).natAbs < 2 ^ (W + 7) := by
  unfold rnI
  have a : (smI (fun i => smI (f i) c) i).natAbs < 2 ^ (W + 3 + 3) := smI_lt i (by omega) (fun j _ => smI_lt c hc (fun k hk => h j k hk))
  have b : (smI (f i) k).natAbs < 2 ^ (W + 3) := smI_lt k (by omega) (fun l hl => h i l (by omega))
  have e6 : (2 : Nat) ^ (W + 3 + 3) = 64 * 2 ^ W := by rw [Nat.pow_add, Nat.pow_add]; omega
  have e3 : (2 : Nat) ^ (W + 3) = 8 * 2 ^ W := by rw [Nat.pow_add]; omega
  have e7 : (2 : Nat) ^ (W + 7) = 128 * 2 ^ W := by rw [Nat.pow_add]; omega
  rw [e6] at a
  rw [e3] at b
  rw [e7]
  have := Int.natAbs_add_le (smI (fun i => smI (f i) c) i) (smI (f i) k)
  generalize (2 : Nat) ^ W = P at *
  omega

theorem el_fin (c : Nat) (S : List Nat) (i k : Nat) (h : ∀ x ∈ S, fFin x = true) : fFin (elM c S i k) = true := by
  unfold elM
  rw [List.getD_eq_getElem?_getD]
  by_cases g : i * c + k < S.length
  · rw [List.getElem?_eq_getElem g]
    exact h _ (List.getElem_mem g)
  · rw [List.getElem?_eq_none (by omega)]
    decide +kernel

theorem mul_ltV {j k V : Nat} {x y : Int} (hV : j + k = V) (hx : x.natAbs < 2 ^ j) (hy : y.natAbs < 2 ^ k) : (x * y).natAbs < 2 ^ V := by
  subst hV
  rw [Int.natAbs_mul]
  exact mul_lt_pow hx hy
theorem smI_ltV {f : Nat → Int} {W V : Nat} (hV : W + 3 = V) (n : Nat) (hn : n ≤ 8) (h : ∀ i, i < n → (f i).natAbs < 2 ^ W) : (smI f n).natAbs < 2 ^ V := by
  subst hV
  exact smI_lt n hn h
theorem sub_ltV {x y : Int} {W V : Nat} (hV : W + 1 = V) (hx : x.natAbs < 2 ^ W) (hy : y.natAbs < 2 ^ W) : (x - y).natAbs < 2 ^ V := by
  subst hV
  rw [Nat.pow_succ]
  omega
theorem rnI_ltV {f : Nat → Nat → Int} {W V : Nat} (hV : W + 7 = V) (r c i k : Nat) (hi : i ≤ r) (hr : r ≤ 8) (hk : k ≤ c) (hc : c ≤ 8) (h : ∀ i k, k < c → (f i k).natAbs < 2 ^ W) : (rnI f c i k).natAbs < 2 ^ V := by
  subst hV
  exact rnI_lt r c i k hi hr hk hc h
theorem up_ltV {x : Int} {j k V : Nat} (hV : j + k ≤ V) (hx : x.natAbs < 2 ^ j) : (x * 2 ^ k).natAbs < 2 ^ V := by
  rw [Int.natAbs_mul, Int.natAbs_pow]
  refine Nat.lt_of_lt_of_le ((Nat.mul_lt_mul_right (Nat.two_pow_pos k)).2 hx) ?_
  rw [← Nat.pow_add]
  exact Nat.pow_le_pow_right (by decide) hV
/-- A product; a sum of them; a number at the lower level. -/
theorem dtZ_lt (n : Nat) (hn : n ≤ 8) (x y : Nat → Nat) (hx : ∀ j, j < n → fFin (x j) = true) (hy : ∀ j, j < n → fFin (y j) = true) : (dtZ n x y).natAbs < 2 ^ 4199 :=
  smI_ltV (W := 4196) (V := 4199) (by decide) n hn (fun j hj => mul_ltV (j := 2098) (k := 2098) (V := 4196) (by decide) (fZ_lt _ (hx j hj)) (fZ_lt _ (hy j hj)))
theorem dtZ_lvl (n : Nat) (hn : n ≤ 8) (x y : Nat → Nat) (hx : ∀ j, j < n → fFin (x j) = true) (hy : ∀ j, j < n → fFin (y j) = true) : Lvl (-2148) 4199 (dtZ n x y) :=
  ⟨dtZ_lt n hn x y hx hy, by decide, by decide, by decide⟩

theorem rsZ_lt (n c : Nat) (A B C : List Nat) (i k : Nat) (hn : n ≤ 8) (fA : ∀ x ∈ A, fFin x = true) (fB : ∀ x ∈ B, fFin x = true) (fC : ∀ x ∈ C, fFin x = true) : (rsZ n c A B C i k).natAbs < 2 ^ 4200 :=
  sub_ltV (W := 4199) (V := 4200) (by decide) (up_ltV (j := 2098) (k := 1074) (V := 4199) (by decide) (fZ_lt _ (el_fin c A i k fA))) (dtZ_lt n hn _ _ (fun j _ => el_fin n B i j fB) (fun j _ => el_fin c C j k fC))

theorem lack_lt (n c : Nat) (A X B : List Nat) (i k : Nat) (hn : n ≤ 8) (fA : ∀ x ∈ A, fFin x = true) (fX : ∀ x ∈ X, fFin x = true) (fB : ∀ x ∈ B, fFin x = true) : (dtZ n (fun l => elM n A i l) (fun l => elM c X l k) - fZ (elM c B i k) * 2 ^ 1074).natAbs < 2 ^ 4200 :=
  sub_ltV (W := 4199) (V := 4200) (by decide) (dtZ_lt n hn _ _ (fun j _ => el_fin n A i j fA) (fun j _ => el_fin c X j k fX)) (up_ltV (j := 2098) (k := 1074) (V := 4199) (by decide) (fZ_lt _ (el_fin c B i k fB)))

theorem grZ_lt (r n c : Nat) (A X B : List Nat) (j k : Nat) (hr : r ≤ 8) (hn : n ≤ 8) (fA : ∀ x ∈ A, fFin x = true) (fX : ∀ x ∈ X, fFin x = true) (fB : ∀ x ∈ B, fFin x = true) : (grZ r n c A X B j k).natAbs < 2 ^ 6301 :=
  smI_ltV (W := 6298) (V := 6301) (by decide) r hr (fun i _ => mul_ltV (j := 2098) (k := 4200) (V := 6298) (by decide) (fZ_lt _ (el_fin n A i j fA)) (lack_lt n c A X B i k hn fA fX fB))

end Go.Proofs.YtfnnbkclnflpfaaGreatDoor

/- Copies of lists; cells that are spoiled; are two lists the same. -/
namespace Go.Proofs.YtfnnbkclnflpfaaGreatDoor
open Go.RowKit
attribute [local go_sem ↓] Go.wp_at_zero Go.wp_at_succ

/-- The numbers of a list. -/
def natL (I : List Int) : List Nat := I.map Int.toNat
theorem natL_len (I : List Int) : (natL I).length = I.length := by simp [natL]
theorem natL_back {w : World} {ao : Option Addr} {c : Nat} {I : List Int} (h : BitsAt w ao c I) : (natL I).map (fun x : Nat => (x : Int)) = I := by
  unfold natL
  rw [List.map_map]
  refine (List.map_congr_left fun x hx => ?_).trans (List.map_id I)
  have := h.2.1 x hx
  simp
  omega
set_option maxRecDepth 20000 in
theorem append_nil (w : World) (ty : TypeId) (g c : Nat) :
    (Builtin.append_ #[22, 22] ty #[.slice (some ⟨g, 0, none⟩) 0 0, .slice none 0 c]).run Tryz.prog w = .ok (.slice (some ⟨g, 0, none⟩) 0 0) w := by
  simp [Builtin.append_, go_sem]

/-- n cells of block g hold bits, whatever they are. -/
def RowU (w : World) (g n : Nat) : Prop := ∃ cur : Array Value, w.heap[g]? = some (.cells cur 52 (0, 0)) ∧ n ≤ cur.size ∧ ∀ j, j < n → ∃ z : Int, cur[j]? = some (.int .u64 z)
theorem RowU.cell {w : World} {g n : Nat} (h : RowU w g n) {j : Nat} (hj : j < n) : ∃ z : Int, w.cell? ⟨g, j, none⟩ = some (.int .u64 z) := by
  obtain ⟨cur, h1, h2, h3⟩ := h
  obtain ⟨z, hz⟩ := h3 j hj
  exact ⟨z, by rw [cell_of_row w g j _ _ _ h1]; exact hz⟩
theorem RowU.free {w : World} {g n : Nat} (h : RowU w g n) (j : Nat) : w.frozen? ⟨g, j, none⟩ = false := by
  obtain ⟨cur, h1, _⟩ := h
  exact frozen_of_row w g j _ _ h1
theorem RowU.set {w : World} {g n : Nat} (h : RowU w g n) (b j : Nat) (z : Int) : RowU (w.setCell ⟨b, j, none⟩ (.int .u64 z)) g n := by
  obtain ⟨cur, h1, h2, h3⟩ := h
  by_cases e : g = b
  · subst e
    refine ⟨cur.setIfInBounds j (.int .u64 z), heap_setCell_same w g j _ _ _ h1, by simpa using h2, fun i hi => ?_⟩
    rw [Array.getElem?_setIfInBounds]
    by_cases ej : j = i
    · subst ej
      rw [if_pos rfl, if_pos (by omega)]
      exact ⟨z, rfl⟩
    · rw [if_neg ej]
      exact h3 i hi
  · exact ⟨cur, (Below.heap_setCell w ⟨b, j, none⟩ (.int .u64 z) g e).trans h1, h2, h3⟩
theorem RowU.below {w w' : World} {g n : Nat} (h : RowU w g n) (hb : Below w.heap.size w w') : RowU w' g n := by
  obtain ⟨cur, h1, h2⟩ := h
  exact ⟨cur, (hb.block g (Array.getElem?_eq_some_iff.1 h1).1).trans h1, h2⟩
theorem BitsAt.other {w : World} {ao : Option Addr} {c : Nat} {I : List Int} (h : BitsAt w ao c I) {p : Addr} (hp : I = [] ∨ ∃ b off, ao = some ⟨b, off, none⟩ ∧ b ≠ p.block) (u : Value) : BitsAt (w.setCell p u) ao c I := by
  refine ⟨h.1, h.2.1, ?_⟩
  rcases h.2.2 with e | ⟨b, off, e1, e2, e3⟩
  · exact .inl e
  rcases hp with e | ⟨b', off', f1, f2⟩
  · exact .inl e
  rw [e1] at f1
  simp only [Option.some.injEq, Addr.mk.injEq] at f1
  obtain ⟨rfl, rfl, _⟩ := f1
  refine .inr ⟨b, off, e1, by simpa [World.setCell] using e2, fun i hi => ?_⟩
  rw [cell_setCell_other _ _ _ _ f2]
  exact e3 i hi

end Go.Proofs.YtfnnbkclnflpfaaGreatDoor

