/- Part 32 of the texts. -/
import Derived.Test.YtimejpbmehegeaaGreatDoorPartd29
import Derived.Test.YtimejpbmehegeaaGreatDoorPartd26
import Derived.Test.YtimejpbmehegeaaGreatDoorPartd21
import Derived.Test.YtimejpbmehegeaaGreatDoorPartd19
import Derived.Test.YtimejpbmehegeaaGreatDoorPartd17
import Derived.Test.YtimejpbmehegeaaGreatDoorPartd09
import Derived.Deep.RegionHeld3
import Derived.Laws.Cover2
import Derived.Laws.Externs
import Derived.Test.YtimejpbmehegeaaGreatDoorPartd04
import Derived.Laws.FloatArith
import Derived.Test.YtimejpbmehegeaaGreatDoorPartd27
import Derived.Laws.BitsAllLaws
import Derived.Test.YtimejpbmehegeaaGreatDoorPartd11
import Derived.Test.YtimejpbmehegeaaGreatDoorPartd01
import Derived.Test.YtimejpbmehegeaaGreatDoorPartd31
import Derived.Maps.AppendAt
/- Matrices as lists, row by row: made, written place by place, turned, put together; products; no program. Ahead of stage 10. -/
namespace Go.Proofs.YtimejpbmehegeaaGreatDoor
open Go.RowKit

/-- A matrix that a function makes, row by row. -/
def mkM (r c : Nat) (f : Nat → Nat → Nat) : List Nat := (List.range (r * c)).map (fun p => f (p / c) (p % c))

theorem place_lt {r c i k : Nat} (hi : i < r) (hk : k < c) : i * c + k < r * c := by
  have h1 : (i + 1) * c ≤ r * c := Nat.mul_le_mul_right c hi
  rw [Nat.add_mul, Nat.one_mul] at h1
  omega
theorem place_div {c i k : Nat} (hk : k < c) : (i * c + k) / c = i := by
  rw [Nat.add_comm, Nat.add_mul_div_right _ _ (by omega), Nat.div_eq_of_lt hk, Nat.zero_add]
theorem place_mod {c i k : Nat} (hk : k < c) : (i * c + k) % c = k := by
  rw [Nat.add_comm, Nat.add_mul_mod_self_right, Nat.mod_eq_of_lt hk]
theorem place_in {r c p : Nat} (h : p < r * c) : p / c < r ∧ p % c < c ∧ p / c * c + p % c = p := by
  have c0 : 0 < c := by
    rcases Nat.eq_zero_or_pos c with e | e
    · subst e; omega
    · exact e
  refine ⟨(Nat.div_lt_iff_lt_mul c0).2 h, Nat.mod_lt _ c0, ?_⟩
  have := Nat.div_add_mod p c
  rw [Nat.mul_comm] at this
  exact this
theorem place_inj {c i k x y : Nat} (hk : k < c) (hy : y < c) : i * c + k = x * c + y ↔ i = x ∧ k = y := by
  constructor
  · intro h
    have h1 := place_div (i := i) hk
    have h2 := place_mod (i := i) hk
    rw [h, place_div hy] at h1
    rw [h, place_mod hy] at h2
    exact ⟨h1.symm, h2.symm⟩
  · rintro ⟨rfl, rfl⟩; rfl

theorem mkM_len (r c : Nat) (f : Nat → Nat → Nat) : (mkM r c f).length = r * c := by simp [mkM]
theorem mkM_get (r c : Nat) (f : Nat → Nat → Nat) (p : Nat) (h : p < r * c) : (mkM r c f)[p]? = some (f (p / c) (p % c)) := by simp [mkM, h]
theorem mkM_at (r c : Nat) (f : Nat → Nat → Nat) {i k : Nat} (hi : i < r) (hk : k < c) : (mkM r c f)[i * c + k]? = some (f i k) := by
  rw [mkM_get _ _ _ _ (place_lt hi hk), place_div hk, place_mod hk]
theorem mkM_atD (r c : Nat) (f : Nat → Nat → Nat) {i k : Nat} (hi : i < r) (hk : k < c) : (mkM r c f).getD (i * c + k) 0 = f i k := by
  rw [List.getD_eq_getElem?_getD, mkM_at r c f hi hk]; rfl
theorem mkM_congr {r c : Nat} {f g : Nat → Nat → Nat} (h : ∀ i k, i < r → k < c → f i k = g i k) : mkM r c f = mkM r c g := by
  unfold mkM
  refine List.map_congr_left (fun p hp => ?_)
  obtain ⟨h1, h2, _⟩ := place_in (List.mem_range.1 hp)
  exact h _ _ h1 h2
/-- Any list of as many numbers as a matrix has places. -/
theorem mkM_of (r c : Nat) (S : List Nat) (h : S.length = r * c) : mkM r c (fun i k => S.getD (i * c + k) 0) = S := by
  refine List.ext_getElem? (fun p => ?_)
  rcases Nat.lt_or_ge p (r * c) with g | g
  · rw [mkM_get _ _ _ _ g, (place_in g).2.2, List.getD_eq_getElem?_getD, List.getElem?_eq_getElem (by omega)]; rfl
  · rw [List.getElem?_eq_none (by rw [mkM_len]; exact g), List.getElem?_eq_none (by omega)]
theorem mkM_noughts (r c : Nat) : List.replicate (r * c) 0 = mkM r c (fun _ _ => 0) := by
  refine List.ext_getElem? (fun p => ?_)
  rcases Nat.lt_or_ge p (r * c) with g | g
  · rw [mkM_get _ _ _ _ g, List.getElem?_replicate, if_pos g]
  · rw [List.getElem?_eq_none (by simpa using g), List.getElem?_eq_none (by rw [mkM_len]; exact g)]
/-- Another number at a place. -/
theorem mkM_set (r c : Nat) (g : Nat → Nat → Nat) (v : Nat) {i k : Nat} (_ : i < r) (hk : k < c) : (mkM r c g).set (i * c + k) v = mkM r c (fun x y => if x = i ∧ y = k then v else g x y) := by
  refine List.ext_getElem? (fun p => ?_)
  rcases Nat.lt_or_ge p (r * c) with h | h
  · obtain ⟨h1, h2, h3⟩ := place_in h
    rw [mkM_get _ _ _ _ h, List.getElem?_set]
    have e : (i * c + k = p) ↔ (p / c = i ∧ p % c = k) := by
      rw [← h3, place_inj hk h2, h3]
      exact ⟨fun ⟨a, b⟩ => ⟨a.symm, b.symm⟩, fun ⟨a, b⟩ => ⟨a.symm, b.symm⟩⟩
    by_cases q : i * c + k = p
    · rw [if_pos q, if_pos (by rw [mkM_len]; omega), if_pos (e.1 q)]
    · rw [if_neg q, if_neg (fun z => q (e.2 z)), mkM_get _ _ _ _ h]
  · rw [List.getElem?_eq_none (by simpa [mkM_len] using h), List.getElem?_eq_none (by rw [mkM_len]; exact h)]

/-- The number of a place; a matrix turned; a part; one beside the other. -/
def elM (c : Nat) (S : List Nat) (i k : Nat) : Nat := S.getD (i * c + k) 0
def paM (c : Nat) (S : List Nat) (i k p q : Nat) : List Nat := mkM p q (fun x y => elM c S (i + x) (k + y))
theorem el_mk (r c : Nat) (f : Nat → Nat → Nat) {i k : Nat} (hi : i < r) (hk : k < c) : elM c (mkM r c f) i k = f i k := mkM_atD r c f hi hk

/-- Ones where rows and columns meet; times a matrix it is that matrix. -/
def eyM (n : Nat) : List Nat := mkM n n (fun i k => if k = i then 4607182418800017408 else 0)
end Go.Proofs.YtimejpbmehegeaaGreatDoor

/- Sums of whole numbers: put in order by rows or by columns, none of them below 0, bounded; what stage 11 tells, in units of powers of two; rows scaled keep the rank; no program. Ahead of stage 11. -/
namespace Go.Proofs.YtimejpbmehegeaaGreatDoor
open Go.RowKit

/-- The sum of the first n numbers. -/
def smI (f : Nat → Int) : Nat → Int
  | 0 => 0
  | n + 1 => smI f n + f n

theorem smI_congr {f g : Nat → Int} (n : Nat) (h : ∀ i, i < n → f i = g i) : smI f n = smI g n := by
  induction n with
  | zero => rfl
  | succ n ih => unfold smI; rw [ih (fun i hi => h i (by omega)), h n (by omega)]

theorem smI_mul (p : Int) (f : Nat → Int) (n : Nat) : smI (fun i => p * f i) n = p * smI f n := by
  induction n with
  | zero => unfold smI; rw [Int.mul_zero]
  | succ n ih => unfold smI; rw [ih, Int.mul_add]

theorem smI_app (f : Nat → Int) (m n : Nat) : smI f (m + n) = smI f m + smI (fun i => f (m + i)) n := by
  induction n with
  | zero => show smI f m = smI f m + 0; omega
  | succ n ih =>
    have e1 : smI f (m + (n + 1)) = smI f (m + n) + f (m + n) := rfl
    have e2 : smI (fun i => f (m + i)) (n + 1) = smI (fun i => f (m + i)) n + f (m + n) := rfl
    rw [e1, e2, ih]; omega

theorem smI_nonneg {f : Nat → Int} (n : Nat) (h : ∀ i, i < n → 0 ≤ f i) : 0 ≤ smI f n := by
  induction n with
  | zero => exact Int.le_refl 0
  | succ n ih => have a := ih (fun i hi => h i (by omega)); have b := h n (by omega); unfold smI; omega

theorem smI_abs {f : Nat → Int} {B : Nat} (n : Nat) (h : ∀ i, i < n → (f i).natAbs ≤ B) : (smI f n).natAbs ≤ n * B := by
  induction n with
  | zero => rw [Nat.zero_mul]; exact Nat.le_refl 0
  | succ n ih =>
    have a := ih (fun i hi => h i (by omega))
    have b := h n (by omega)
    rw [Nat.succ_mul]
    unfold smI
    have := Int.natAbs_add_le (smI f n) (f n)
    omega

theorem Lvl.less {lo : Int} {W : Nat} {z1 z2 : Int} (h1 : Lvl lo W z1) (h2 : Lvl lo W z2) (hW : lo + W + 1 ≤ 16384) (hW2 : W + 1 ≤ 16384) : Lvl lo (W + 1) (z1 - z2) := by
  refine ⟨?_, h1.2.1, by have := h1.2.2; omega, hW2⟩
  have a := h1.1
  have b := h2.1
  rw [Nat.pow_succ]
  omega

theorem sq_ge (x : Int) : 0 ≤ x * x := by
  rcases Int.le_total 0 x with h | h
  · exact Int.mul_nonneg h h
  · exact Int.mul_nonneg_of_nonpos_of_nonpos h h

/-- The exact sum of products, in units of 2^-2148. -/
def dtZ (n : Nat) (x y : Nat → Nat) : Int := smI (fun j => fZ (x j) * fZ (y j)) n

/-- A place of a matrix less a product, in units of 2^-2148; the square of that, in units of 2^-4296. -/
def rsZ (n c : Nat) (A B C : List Nat) (i k : Nat) : Int := fZ (elM c A i k) * 2 ^ 1074 - dtZ n (fun j => elM n B i j) (fun j => elM c C j k)
def rsQ (r n c : Nat) (A B C : List Nat) : Int := smI (fun i => smI (fun k => rsZ n c A B C i k * rsZ n c A B C i k) c) r

theorem fZ_one11 : fZ 4607182418800017408 = 2 ^ 1074 := by decide +kernel
theorem fZ_zero11 : fZ 0 = 0 := by decide +kernel

theorem rsQ_nonneg (r n c : Nat) (A B C : List Nat) : 0 ≤ rsQ r n c A B C := smI_nonneg _ (fun _ _ => smI_nonneg _ (fun _ _ => sq_ge _))

end Go.Proofs.YtimejpbmehegeaaGreatDoor

/- How wide the sums of stage 11 are; sums over places one after another; no program. Ahead of stage 11. -/
namespace Go.Proofs.YtimejpbmehegeaaGreatDoor
open Go.RowKit

/-- The sum over the places of i rows and of k places of the next one. -/
def rnI (f : Nat → Nat → Int) (c i k : Nat) : Int := smI (fun i => smI (f i) c) i + smI (f i) k
theorem rnI_step (f : Nat → Nat → Int) (c i k : Nat) : rnI f c i (k + 1) = rnI f c i k + f i k := by
  unfold rnI
  have e : smI (f i) (k + 1) = smI (f i) k + f i k := rfl
  rw [e, Int.add_assoc]
theorem rnI_row (f : Nat → Nat → Int) (c i : Nat) : rnI f c i c = rnI f c (i + 1) 0 := by
  unfold rnI
  have e : smI (fun i => smI (f i) c) (i + 1) = smI (fun i => smI (f i) c) i + smI (f i) c := rfl
  have e0 : smI (f (i + 1)) 0 = 0 := rfl
  rw [e, e0, Int.add_zero]
theorem rnI_all (f : Nat → Nat → Int) (c r : Nat) : rnI f c r 0 = smI (fun i => smI (f i) c) r := by
  unfold rnI
  have e0 : smI (f r) 0 = 0 := rfl
  rw [e0, Int.add_zero]

theorem smI_lt {f : Nat → Int} {W : Nat} (n : Nat) (hn : n ≤ 8) (h : ∀ i, i < n → (f i).natAbs < 2 ^ W) : (smI f n).natAbs < 2 ^ (W + 3) := by
  have a := smI_abs (f := f) (B := 2 ^ W - 1) n (fun i hi => Nat.le_sub_one_of_lt (h i hi))
  have p := Nat.two_pow_pos W
  have e : (2 : Nat) ^ (W + 3) = 8 * 2 ^ W := by rw [Nat.pow_add]; omega
  rw [e]
  generalize (2 : Nat) ^ W = P at *
  have : n * (P - 1) ≤ 8 * (P - 1) := Nat.mul_le_mul_right _ hn
  omega

theorem rnI_lt {f : Nat → Nat → Int} {W : Nat} (r c i k : Nat) (hi : i ≤ r) (hr : r ≤ 8) (hk : k ≤ c) (hc : c ≤ 8) (h : ∀ i k, k < c → (f i k).natAbs < 2 ^ W) : (rnI f c i k).natAbs < 2 ^ (W + 7) := by
  unfold rnI
  have a : (smI (fun i => smI (f i) c) i).natAbs < 2 ^ (W + 3 + 3) := smI_lt i (by omega) (fun j _ => smI_lt c hc (fun k hk => h j k hk))
  have b : (smI (f i) k).natAbs < 2 ^ (W + 3) := smI_lt k (by omega) (fun l hl => h i l (by omega))
  have e6 : (2 : Nat) ^ (W + 3 + 3) = 64 * 2 ^ W := by rw [Nat.pow_add, Nat.pow_add]; omega
  have e3 : (2 : Nat) ^ (W + 3) = 8 * 2 ^ W := by rw [Nat.pow_add]; omega
  have e7 : (2 : Nat) ^ (W + 7) = 128 * 2 ^ W := by rw [Nat.pow_add]; omega
  rw [e6] at a
  rw [e3] at b
  rw [e7]
  have := Int.natAbs_add_le (smI (fun i => smI (f i) c) i) (smI (f i) k)
  generalize (2 : Nat) ^ W = P at *
  omega

theorem el_fin (c : Nat) (S : List Nat) (i k : Nat) (h : ∀ x ∈ S, fFin x = true) : fFin (elM c S i k) = true := by
  unfold elM
  rw [List.getD_eq_getElem?_getD]
  by_cases g : i * c + k < S.length
  · rw [List.getElem?_eq_getElem g]
    exact h _ (List.getElem_mem g)
  · rw [List.getElem?_eq_none (by omega)]
    decide +kernel

theorem mul_ltV {j k V : Nat} {x y : Int} (hV : j + k = V) (hx : x.natAbs < 2 ^ j) (hy : y.natAbs < 2 ^ k) : (x * y).natAbs < 2 ^ V := by
  subst hV
  rw [Int.natAbs_mul]
  exact mul_lt_pow hx hy
theorem smI_ltV {f : Nat → Int} {W V : Nat} (hV : W + 3 = V) (n : Nat) (hn : n ≤ 8) (h : ∀ i, i < n → (f i).natAbs < 2 ^ W) : (smI f n).natAbs < 2 ^ V := by
  subst hV
  exact smI_lt n hn h
theorem sub_ltV {x y : Int} {W V : Nat} (hV : W + 1 = V) (hx : x.natAbs < 2 ^ W) (hy : y.natAbs < 2 ^ W) : (x - y).natAbs < 2 ^ V := by
  subst hV
  rw [Nat.pow_succ]
  omega
theorem rnI_ltV {f : Nat → Nat → Int} {W V : Nat} (hV : W + 7 = V) (r c i k : Nat) (hi : i ≤ r) (hr : r ≤ 8) (hk : k ≤ c) (hc : c ≤ 8) (h : ∀ i k, k < c → (f i k).natAbs < 2 ^ W) : (rnI f c i k).natAbs < 2 ^ V := by
  subst hV
  exact rnI_lt r c i k hi hr hk hc h
theorem up_ltV {x : Int} {j k V : Nat} (hV : j + k ≤ V) (hx : x.natAbs < 2 ^ j) : (x * 2 ^ k).natAbs < 2 ^ V := by
  rw [Int.natAbs_mul, Int.natAbs_pow]
  refine Nat.lt_of_lt_of_le ((Nat.mul_lt_mul_right (Nat.two_pow_pos k)).2 hx) ?_
  rw [← Nat.pow_add]
  exact Nat.pow_le_pow_right (by decide) hV
/-- A product; a sum of them; a number at the lower level. -/
theorem dtZ_lt (n : Nat) (hn : n ≤ 8) (x y : Nat → Nat) (hx : ∀ j, j < n → fFin (x j) = true) (hy : ∀ j, j < n → fFin (y j) = true) : (dtZ n x y).natAbs < 2 ^ 4199 :=
  smI_ltV (W := 4196) (V := 4199) (by decide) n hn (fun j hj => mul_ltV (j := 2098) (k := 2098) (V := 4196) (by decide) (fZ_lt _ (hx j hj)) (fZ_lt _ (hy j hj)))
theorem dtZ_lvl (n : Nat) (hn : n ≤ 8) (x y : Nat → Nat) (hx : ∀ j, j < n → fFin (x j) = true) (hy : ∀ j, j < n → fFin (y j) = true) : Lvl (-2148) 4199 (dtZ n x y) :=
  ⟨dtZ_lt n hn x y hx hy, by decide, by decide, by decide⟩

theorem rsZ_lt (n c : Nat) (A B C : List Nat) (i k : Nat) (hn : n ≤ 8) (fA : ∀ x ∈ A, fFin x = true) (fB : ∀ x ∈ B, fFin x = true) (fC : ∀ x ∈ C, fFin x = true) : (rsZ n c A B C i k).natAbs < 2 ^ 4200 :=
  sub_ltV (W := 4199) (V := 4200) (by decide) (up_ltV (j := 2098) (k := 1074) (V := 4199) (by decide) (fZ_lt _ (el_fin c A i k fA))) (dtZ_lt n hn _ _ (fun j _ => el_fin n B i j fB) (fun j _ => el_fin c C j k fC))

end Go.Proofs.YtimejpbmehegeaaGreatDoor

/- Copies of lists; cells that are spoiled; are two lists the same. -/
namespace Go.Proofs.YtimejpbmehegeaaGreatDoor
open Go.RowKit
attribute [local go_sem ↓] Go.wp_at_zero Go.wp_at_succ

/-- The numbers of a list. -/
def natL (I : List Int) : List Nat := I.map Int.toNat
theorem natL_len (I : List Int) : (natL I).length = I.length := by simp [natL]
theorem natL_back {w : World} {ao : Option Addr} {c : Nat} {I : List Int} (h : BitsAt w ao c I) : (natL I).map (fun x : Nat => (x : Int)) = I := by
  unfold natL
  rw [List.map_map]
  refine (List.map_congr_left fun x hx => ?_).trans (List.map_id I)
  have := h.2.1 x hx
  simp
  omega
theorem natL_lt {w : World} {ao : Option Addr} {c : Nat} {I : List Int} (h : BitsAt w ao c I) : ∀ x ∈ natL I, x < 18446744073709551616 := by
  intro x hx
  obtain ⟨y, hy, rfl⟩ := List.mem_map.1 hx
  have := h.2.1 y hy
  omega

set_option maxRecDepth 20000 in
theorem append_nil (w : World) (ty : TypeId) (g c : Nat) :
    (Builtin.append_ #[22, 22] ty #[.slice (some ⟨g, 0, none⟩) 0 0, .slice none 0 c]).run Tryz.prog w = .ok (.slice (some ⟨g, 0, none⟩) 0 0) w := by
  simp [Builtin.append_, go_sem]

/-- A list copied onto an empty one. -/
theorem copy_bits (w : World) (base : Nat) (ty : TypeId) (ao : Option Addr) (c : Nat) (I : List Int) (g : Nat) (h : BitsAt w ao c I) (hl : I.length ≤ 17592186043904) (hown : w.ownsRow base 24 1 (.slice (some ⟨g, 0, none⟩) 0 0) 0 []) (hbase : base ≤ w.heap.size) :
    ∃ po pc w', (Builtin.append_ #[22, 22] ty #[.slice (some ⟨g, 0, none⟩) 0 0, .slice ao I.length c]).run Tryz.prog w = .ok (.slice po I.length pc) w' ∧ OwnB base w' (.slice po I.length pc) (natL I) ∧ w.grownBy w' (some g) := by
  obtain ⟨i0, hi, hz0, hz1, hz2⟩ := info_parts infoBits
  cases ao with
  | none =>
    have h0 : I = [] := by
      rcases h.2.2 with e | ⟨b, off, e, _⟩
      · exact e
      · cases e
    subst h0
    refine ⟨some ⟨g, 0, none⟩, 0, w, append_nil w ty g c, ⟨hown, by simp [natL]⟩, ?_⟩
    exact ⟨rfl, rfl, rfl, Nat.le_refl _, fun k _ _ => rfl⟩
  | some a =>
    have hnews : ∀ j u, ((natL I).map bitV)[j]? = some u → w.cell? (a.add j) = some u := by
      intro j u hu
      rw [List.getElem?_map] at hu
      have hj : j < I.length := by
        rcases Nat.lt_or_ge j I.length with e | e
        · exact e
        · rw [List.getElem?_eq_none (by rw [natL_len]; exact e)] at hu; cases hu
      obtain ⟨b, off, e1, e2, e3⟩ := h.ne (by omega)
      cases e1
      rw [show (⟨b, off, none⟩ : Addr).add j = ⟨b, off + j, none⟩ by simp [Addr.add], e3 j hj]
      rw [← hu]
      simp [natL, hj, bitV, atB]
    obtain ⟨v', w', e1, e2, e3, e4, e5⟩ := run_append_own_at (P := Tryz.prog) w base 22 ty 24 i0 (.int .u64 0) 1 8 Tryz.underlying22 hi hz0 hz1 hz2 rfl (by decide) _ 0 [] hown a I.length c ((natL I).map bitV) (by simp [natL]) hnews (fun u hu => by
      obtain ⟨x, _, rfl⟩ := List.mem_map.1 hu
      rfl) (by unfold maxLen; omega) (by omega) hbase
    have ho : OwnB base w' v' (natL I) := ⟨by
      rw [natL_len]
      simpa using e2, natL_lt h⟩
    obtain ⟨po, pc, rfl, _⟩ := ho.bits
    rw [natL_len] at e1 ho
    exact ⟨po, pc, w', e1, ho, e3⟩

/-- n cells of block g hold bits, whatever they are. -/
def RowU (w : World) (g n : Nat) : Prop := ∃ cur : Array Value, w.heap[g]? = some (.cells cur 24 (0, 0)) ∧ n ≤ cur.size ∧ ∀ j, j < n → ∃ z : Int, cur[j]? = some (.int .u64 z)
theorem RowU.cell {w : World} {g n : Nat} (h : RowU w g n) {j : Nat} (hj : j < n) : ∃ z : Int, w.cell? ⟨g, j, none⟩ = some (.int .u64 z) := by
  obtain ⟨cur, h1, h2, h3⟩ := h
  obtain ⟨z, hz⟩ := h3 j hj
  exact ⟨z, by rw [cell_of_row w g j _ _ _ h1]; exact hz⟩
theorem RowU.free {w : World} {g n : Nat} (h : RowU w g n) (j : Nat) : w.frozen? ⟨g, j, none⟩ = false := by
  obtain ⟨cur, h1, _⟩ := h
  exact frozen_of_row w g j _ _ h1
theorem RowU.set {w : World} {g n : Nat} (h : RowU w g n) (b j : Nat) (z : Int) : RowU (w.setCell ⟨b, j, none⟩ (.int .u64 z)) g n := by
  obtain ⟨cur, h1, h2, h3⟩ := h
  by_cases e : g = b
  · subst e
    refine ⟨cur.setIfInBounds j (.int .u64 z), heap_setCell_same w g j _ _ _ h1, by simpa using h2, fun i hi => ?_⟩
    rw [Array.getElem?_setIfInBounds]
    by_cases ej : j = i
    · subst ej
      rw [if_pos rfl, if_pos (by omega)]
      exact ⟨z, rfl⟩
    · rw [if_neg ej]
      exact h3 i hi
  · exact ⟨cur, (Below.heap_setCell w ⟨b, j, none⟩ (.int .u64 z) g e).trans h1, h2, h3⟩
theorem RowU.below {w w' : World} {g n : Nat} (h : RowU w g n) (hb : Below w.heap.size w w') : RowU w' g n := by
  obtain ⟨cur, h1, h2⟩ := h
  exact ⟨cur, (hb.block g (Array.getElem?_eq_some_iff.1 h1).1).trans h1, h2⟩
/-- A copy's cells. -/
theorem OwnB.rowU {base : Nat} {w : World} {S : List Nat} {po : Option Addr} {n pc : Nat} (h : OwnB base w (.slice po n pc) S) (hn : 0 < S.length) : ∃ g, po = some ⟨g, 0, none⟩ ∧ base ≤ g ∧ g < w.heap.size ∧ RowU w g S.length := by
  rcases h.1.2 with ⟨_, h0⟩ | ⟨g, cap, cur, hv, hg, hh, hc, hm, hs, ht⟩
  · omega
  · simp only [Value.slice.injEq] at hv
    refine ⟨g, hv.1, hg, (Array.getElem?_eq_some_iff.1 hh).1, cur, hh, by omega, fun j hj => ?_⟩
    have q : (S.map bitV)[j]? = some (.int .u64 ((S[j] : Nat) : Int)) := by
      rw [List.getElem?_map, List.getElem?_eq_getElem hj]; rfl
    rw [← ht, List.getElem?_take, if_pos (by omega)] at q
    exact ⟨_, by simpa using q⟩

theorem BitsAt.other {w : World} {ao : Option Addr} {c : Nat} {I : List Int} (h : BitsAt w ao c I) {p : Addr} (hp : I = [] ∨ ∃ b off, ao = some ⟨b, off, none⟩ ∧ b ≠ p.block) (u : Value) : BitsAt (w.setCell p u) ao c I := by
  refine ⟨h.1, h.2.1, ?_⟩
  rcases h.2.2 with e | ⟨b, off, e1, e2, e3⟩
  · exact .inl e
  rcases hp with e | ⟨b', off', f1, f2⟩
  · exact .inl e
  rw [e1] at f1
  simp only [Option.some.injEq, Addr.mk.injEq] at f1
  obtain ⟨rfl, rfl, _⟩ := f1
  refine .inr ⟨b, off, e1, by simpa [World.setCell] using e2, fun i hi => ?_⟩
  rw [cell_setCell_other _ _ _ _ f2]
  exact e3 i hi

end Go.Proofs.YtimejpbmehegeaaGreatDoor

/- The law VectorAxpys, walked. -/
namespace Go.Proofs.YtimejpbmehegeaaGreatDoor
open Go.RowKit
attribute [local go_sem ↓] Go.wp_at_zero Go.wp_at_succ

/-- Where a list lies: from block H on. -/
def NewB (H : Nat) (ao : Option Addr) (I : List Int) : Prop := I = [] ∨ ∃ b off, ao = some ⟨b, off, none⟩ ∧ H ≤ b
/-- A copy, whose cells may be spoiled. -/
def CopyB (base H : Nat) (w : World) (po : Option Addr) (n : Nat) : Prop := n = 0 ∨ ∃ g, po = some ⟨g, 0, none⟩ ∧ base ≤ g ∧ g < H ∧ RowU w g n
theorem CopyB.below {base H : Nat} {w w' : World} {po : Option Addr} {n : Nat} (h : CopyB base H w po n) (hb : Below w.heap.size w w') : CopyB base H w' po n := by
  rcases h with h | ⟨g, h1, h2, h3, h4⟩
  · exact .inl h
  · exact .inr ⟨g, h1, h2, h3, h4.below hb⟩
theorem CopyB.set {base H : Nat} {w : World} {po : Option Addr} {n : Nat} (h : CopyB base H w po n) (b j : Nat) (z : Int) : CopyB base H (w.setCell ⟨b, j, none⟩ (.int .u64 z)) po n := by
  rcases h with h | ⟨g, h1, h2, h3, h4⟩
  · exact .inl h
  · exact .inr ⟨g, h1, h2, h3, h4.set b j z⟩
theorem CopyB.base {base base' H : Nat} {w : World} {po : Option Addr} {n : Nat} (h : CopyB base H w po n) (hb : base' ≤ base) : CopyB base' H w po n := by
  rcases h with h | ⟨g, h1, h2, h3, h4⟩
  · exact .inl h
  · exact .inr ⟨g, h1, by omega, h3, h4⟩
theorem OwnB.copy {base : Nat} {w : World} {I : List Int} {po : Option Addr} {pc : Nat} (h : OwnB base w (.slice po I.length pc) (natL I)) : CopyB base w.heap.size w po I.length := by
  rcases Nat.eq_zero_or_pos I.length with e | e
  · exact .inl e
  · obtain ⟨g, h1, h2, h3, h4⟩ := h.rowU (by rw [natL_len]; exact e)
    rw [natL_len] at h4
    exact .inr ⟨g, h1, h2, h3, h4⟩
theorem BitsAt.far {H : Nat} {w : World} {ao : Option Addr} {c : Nat} {I : List Int} (h : BitsAt w ao c I) (hn : NewB H ao I) {b : Nat} (hb : b < H) (j : Nat) (u : Value) : BitsAt (w.setCell ⟨b, j, none⟩ u) ao c I := by
  refine h.other ?_ u
  rcases hn with e | ⟨b', off, e1, e2⟩
  · exact .inl e
  · exact .inr ⟨b', off, e1, by show b' ≠ b; omega⟩

end Go.Proofs.YtimejpbmehegeaaGreatDoor

