/- Part 26 of the texts. -/
import Derived.Test.YtceofkjefmilfaaGreatDoorParte01
import Derived.Test.YtceofkjefmilfaaGreatDoorParte24
import Derived.Test.YtceofkjefmilfaaGreatDoorParte19
import Derived.Test.YtceofkjefmilfaaGreatDoorParte09
import Derived.Test.YtceofkjefmilfaaGreatDoorParte06
import Derived.Test.YtceofkjefmilfaaGreatDoorParte15
import Derived.Deep.Cut
import Derived.BigQuiet
import Derived.Test.YtceofkjefmilfaaGreatDoorParte20
import Derived.Deep.RegionHeld3
import Derived.Test.YtceofkjefmilfaaGreatDoorParte18
import Derived.Test.YtceofkjefmilfaaGreatDoorParte14
import Derived.Test.YtceofkjefmilfaaGreatDoorParte08
import Derived.Test.YtceofkjefmilfaaGreatDoorParte21
import Derived.Test.YtceofkjefmilfaaGreatDoorParte22
import Derived.Laws.BitsAllLaws
import Derived.Test.YtceofkjefmilfaaGreatDoorParte25
import Derived.Maps.AppendAt
/- Determinants by the first row, over whole numbers: rows are functions of the column, columns a list. No program. -/
namespace Go.Proofs.YtceofkjefmilfaaGreatDoor

/-- The sum over the places of cs, the sign turning: r there, times D of the rest. -/
def exD (r : Nat → Int) : List Nat → (List Nat → Int) → Int
  | [], _ => 0
  | c :: cs, D => r c * D cs - exD r cs (fun l => D (c :: l))

def detD : List (Nat → Int) → List Nat → Int
  | [], _ => 1
  | r :: rs, cs => exD r cs (detD rs)

theorem exD_lin (r : Nat → Int) (p q : Int) : ∀ (cs : List Nat) (D E : List Nat → Int), exD r cs (fun l => p * D l + q * E l) = p * exD r cs D + q * exD r cs E
  | [], _, _ => by simp [exD]
  | c :: cs, D, E => by
    unfold exD
    rw [exD_lin r p q cs (fun l => D (c :: l)) (fun l => E (c :: l))]
    grind

theorem exD_smul (r : Nat → Int) (p : Int) (cs : List Nat) (D : List Nat → Int) : exD r cs (fun l => p * D l) = p * exD r cs D := by
  have := exD_lin r p 0 cs D D
  simpa using this

/-- Two rows that follow one another change places: the sign turns. -/
theorem exD_swap (r s : Nat → Int) : ∀ (cs : List Nat) (D : List Nat → Int), exD r cs (fun l => exD s l D) = - exD s cs (fun l => exD r l D)
  | [], _ => by simp [exD]
  | c :: cs, D => by
    have step : ∀ r s : Nat → Int, exD r (c :: cs) (fun l => exD s l D) = r c * exD s cs D - s c * exD r cs D + exD r cs (fun l => exD s l (fun m => D (c :: m))) := by
      intro r s
      have e : exD r cs (fun l => exD s (c :: l) D) = s c * exD r cs D + -1 * exD r cs (fun l => exD s l (fun m => D (c :: m))) := by
        rw [← exD_lin]
        congr 1
        funext l
        show s c * D l - exD s l (fun m => D (c :: m)) = _
        omega
      show r c * exD s cs D - exD r cs (fun l => exD s (c :: l) D) = _
      rw [e]
      omega
    rw [step r s, step s r, exD_swap r s cs (fun m => D (c :: m))]
    omega

theorem detD_swap (r s : Nat → Int) (rs : List (Nat → Int)) (cs : List Nat) : detD (r :: s :: rs) cs = - detD (s :: r :: rs) cs := by
  show exD r cs (fun l => exD s l (detD rs)) = - exD s cs (fun l => exD r l (detD rs))
  exact exD_swap r s cs (detD rs)

theorem detD_same (r : Nat → Int) (rs : List (Nat → Int)) (cs : List Nat) : detD (r :: r :: rs) cs = 0 := by
  have := detD_swap r r rs cs
  omega

/-- What holds behind a beginning holds with it: a factor. -/
theorem detD_pre (p : Int) (rs ss : List (Nat → Int)) (h : ∀ cs, detD rs cs = p * detD ss cs) : ∀ (pre : List (Nat → Int)) (cs : List Nat), detD (pre ++ rs) cs = p * detD (pre ++ ss) cs
  | [], cs => h cs
  | r :: pre, cs => by
    show exD r cs (detD (pre ++ rs)) = p * exD r cs (detD (pre ++ ss))
    rw [← exD_smul]
    congr 1
    funext l
    exact detD_pre p rs ss h pre l

/-- The other order of rows: the same but for the sign. -/
theorem detD_perm {rs ss : List (Nat → Int)} (h : rs.Perm ss) : ∃ p : Int, (p = 1 ∨ p = -1) ∧ ∀ cs, detD rs cs = p * detD ss cs := by
  induction h with
  | nil => exact ⟨1, .inl rfl, fun cs => by simp⟩
  | cons r _ ih =>
    obtain ⟨p, hp, h⟩ := ih
    exact ⟨p, hp, fun cs => detD_pre p _ _ h [r] cs⟩
  | swap r s l => exact ⟨-1, .inr rfl, fun cs => by rw [detD_swap s r l cs]; omega⟩
  | trans _ _ ih1 ih2 =>
    obtain ⟨p, hp, h⟩ := ih1
    obtain ⟨q, hq, g⟩ := ih2
    refine ⟨p * q, ?_, fun cs => by rw [h cs, g cs, Int.mul_assoc]⟩
    rcases hp with rfl | rfl <;> rcases hq with rfl | rfl <;> simp

/-- A row that stands twice: 0. -/
theorem detD_twice (r : Nat → Int) (rs : List (Nat → Int)) (pre mid : List (Nat → Int)) (cs : List Nat) : detD (pre ++ r :: (mid ++ r :: rs)) cs = 0 := by
  have hp : (pre ++ r :: (mid ++ r :: rs)).Perm (r :: r :: (pre ++ (mid ++ rs))) := by
    have h1 : (mid ++ r :: rs).Perm (r :: (mid ++ rs)) := List.perm_middle
    have h2 : (pre ++ r :: (mid ++ r :: rs)).Perm (r :: (pre ++ (mid ++ r :: rs))) := List.perm_middle
    refine h2.trans (List.Perm.cons r ?_)
    refine (List.Perm.append_left pre h1).trans ?_
    exact List.perm_middle
  obtain ⟨p, _, h⟩ := detD_perm hp
  rw [h cs, detD_same]
  simp

end Go.Proofs.YtceofkjefmilfaaGreatDoor

/- Minors and the rank, over whole numbers. No program. -/
namespace Go.Proofs.YtceofkjefmilfaaGreatDoor

/-- Places that rise, all below m. -/
def Rise (m : Nat) (I : List Nat) : Prop := I.Pairwise (· < ·) ∧ ∀ i ∈ I, i < m

/-- The minor of the rows I and the columns C. -/
def minorD (a : Nat → Nat → Int) (I C : List Nat) : Int := detD (I.map a) C

/-- All minors of k rows and columns are 0. -/
def Van (k : Nat) (a : Nat → Nat → Int) (m n : Nat) : Prop := ∀ I C, Rise m I → Rise n C → I.length = k → C.length = k → minorD a I C = 0

theorem Rise.sub {m : Nat} {I J : List Nat} (h : Rise m I) (hs : J.Sublist I) : Rise m J := ⟨h.1.sublist hs, fun i hi => h.2 i (hs.subset hi)⟩

theorem dup_split : ∀ (I : List Nat), ¬ I.Nodup → ∃ pre i mid post, I = pre ++ i :: (mid ++ i :: post)
  | [], h => absurd List.nodup_nil h
  | i :: I, h => by
    by_cases hi : i ∈ I
    · obtain ⟨s, t, rfl⟩ := List.append_of_mem hi
      exact ⟨[], i, s, t, rfl⟩
    · have : ¬ I.Nodup := fun hn => h (List.nodup_cons.2 ⟨hi, hn⟩)
      obtain ⟨pre, j, mid, post, e⟩ := dup_split I this
      exact ⟨i :: pre, j, mid, post, by rw [e]; rfl⟩

/-- All minors vanish, the rows in whatever order, also if some stand twice. -/
theorem Van.all {k : Nat} {a : Nat → Nat → Int} {m n : Nat} (h : Van k a m n) (I C : List Nat) (hI : ∀ i ∈ I, i < m) (hC : Rise n C) (lI : I.length = k) (lC : C.length = k) : minorD a I C = 0 := by
  by_cases hn : I.Nodup
  · have hp : (I.mergeSort (fun x y => decide (x ≤ y))).Perm I := List.mergeSort_perm I _
    have hs : (I.mergeSort (fun x y => decide (x ≤ y))).Pairwise (fun x y => decide (x ≤ y) = true) := List.pairwise_mergeSort (fun x y z h1 h2 => by simp at *; omega) (fun x y => by simp; omega) I
    have hn' : (I.mergeSort (fun x y => decide (x ≤ y))).Nodup := hp.nodup_iff.2 hn
    have hr : Rise m (I.mergeSort (fun x y => decide (x ≤ y))) := by
      refine ⟨?_, fun i hi => hI i (hp.mem_iff.1 hi)⟩
      have h2 := List.Pairwise.and hs hn'
      exact h2.imp (fun h => by simp at h; omega)
    obtain ⟨p, _, hd⟩ := detD_perm (hp.map a)
    have h0 := h _ C hr hC (by rw [hp.length_eq]; exact lI) lC
    unfold minorD at h0 ⊢
    have h1 := hd C
    rw [h0] at h1
    rcases (show p = 1 ∨ p = -1 by assumption) with rfl | rfl <;> omega
  · obtain ⟨pre, i, mid, post, rfl⟩ := dup_split I hn
    unfold minorD
    simp only [List.map_append, List.map_cons]
    exact detD_twice (a i) (post.map a) (pre.map a) (mid.map a) C

end Go.Proofs.YtceofkjefmilfaaGreatDoor

/- Matrices as lists, row by row: made, written place by place, turned, put together; products; no program. Ahead of stage 10. -/
namespace Go.Proofs.YtceofkjefmilfaaGreatDoor
open Go.RowKit

/-- A matrix that a function makes, row by row. -/
def mkM (r c : Nat) (f : Nat → Nat → Nat) : List Nat := (List.range (r * c)).map (fun p => f (p / c) (p % c))

theorem place_lt {r c i k : Nat} (hi : i < r) (hk : k < c) : i * c + k < r * c := by
  have h1 : (i + 1) * c ≤ r * c := Nat.mul_le_mul_right c hi
  rw [Nat.add_mul, Nat.one_mul] at h1
  omega
theorem place_div {c i k : Nat} (hk : k < c) : (i * c + k) / c = i := by
  rw [Nat.add_comm, Nat.add_mul_div_right _ _ (by omega), Nat.div_eq_of_lt hk, Nat.zero_add]
theorem place_mod {c i k : Nat} (hk : k < c) : (i * c + k) % c = k := by
  rw [Nat.add_comm, Nat.add_mul_mod_self_right, Nat.mod_eq_of_lt hk]
theorem place_in {r c p : Nat} (h : p < r * c) : p / c < r ∧ p % c < c ∧ p / c * c + p % c = p := by
  have c0 : 0 < c := by
    rcases Nat.eq_zero_or_pos c with e | e
    · subst e; omega
    · exact e
  refine ⟨(Nat.div_lt_iff_lt_mul c0).2 h, Nat.mod_lt _ c0, ?_⟩
  have := Nat.div_add_mod p c
  rw [Nat.mul_comm] at this
  exact this
theorem place_inj {c i k x y : Nat} (hk : k < c) (hy : y < c) : i * c + k = x * c + y ↔ i = x ∧ k = y := by
  constructor
  · intro h
    have h1 := place_div (i := i) hk
    have h2 := place_mod (i := i) hk
    rw [h, place_div hy] at h1
    rw [h, place_mod hy] at h2
    exact ⟨h1.symm, h2.symm⟩
  · rintro ⟨rfl, rfl⟩; rfl

theorem mkM_len (r c : Nat) (f : Nat → Nat → Nat) : (mkM r c f).length = r * c := by simp [mkM]
theorem mkM_get (r c : Nat) (f : Nat → Nat → Nat) (p : Nat) (h : p < r * c) : (mkM r c f)[p]? = some (f (p / c) (p % c)) := by simp [mkM, h]
theorem mkM_at (r c : Nat) (f : Nat → Nat → Nat) {i k : Nat} (hi : i < r) (hk : k < c) : (mkM r c f)[i * c + k]? = some (f i k) := by
  rw [mkM_get _ _ _ _ (place_lt hi hk), place_div hk, place_mod hk]
theorem mkM_atD (r c : Nat) (f : Nat → Nat → Nat) {i k : Nat} (hi : i < r) (hk : k < c) : (mkM r c f).getD (i * c + k) 0 = f i k := by
  rw [List.getD_eq_getElem?_getD, mkM_at r c f hi hk]; rfl
theorem mkM_congr {r c : Nat} {f g : Nat → Nat → Nat} (h : ∀ i k, i < r → k < c → f i k = g i k) : mkM r c f = mkM r c g := by
  unfold mkM
  refine List.map_congr_left (fun p hp => ?_)
  obtain ⟨h1, h2, _⟩ := place_in (List.mem_range.1 hp)
  exact h _ _ h1 h2
/-- Any list of as many numbers as a matrix has places. -/
theorem mkM_of (r c : Nat) (S : List Nat) (h : S.length = r * c) : mkM r c (fun i k => S.getD (i * c + k) 0) = S := by
  refine List.ext_getElem? (fun p => ?_)
  rcases Nat.lt_or_ge p (r * c) with g | g
  · rw [mkM_get _ _ _ _ g, (place_in g).2.2, List.getD_eq_getElem?_getD, List.getElem?_eq_getElem (by omega)]; rfl
  · rw [List.getElem?_eq_none (by rw [mkM_len]; exact g), List.getElem?_eq_none (by omega)]
theorem mkM_noughts (r c : Nat) : List.replicate (r * c) 0 = mkM r c (fun _ _ => 0) := by
  refine List.ext_getElem? (fun p => ?_)
  rcases Nat.lt_or_ge p (r * c) with g | g
  · rw [mkM_get _ _ _ _ g, List.getElem?_replicate, if_pos g]
  · rw [List.getElem?_eq_none (by simpa using g), List.getElem?_eq_none (by rw [mkM_len]; exact g)]
/-- Another number at a place. -/
theorem mkM_set (r c : Nat) (g : Nat → Nat → Nat) (v : Nat) {i k : Nat} (_ : i < r) (hk : k < c) : (mkM r c g).set (i * c + k) v = mkM r c (fun x y => if x = i ∧ y = k then v else g x y) := by
  refine List.ext_getElem? (fun p => ?_)
  rcases Nat.lt_or_ge p (r * c) with h | h
  · obtain ⟨h1, h2, h3⟩ := place_in h
    rw [mkM_get _ _ _ _ h, List.getElem?_set]
    have e : (i * c + k = p) ↔ (p / c = i ∧ p % c = k) := by
      rw [← h3, place_inj hk h2, h3]
      exact ⟨fun ⟨a, b⟩ => ⟨a.symm, b.symm⟩, fun ⟨a, b⟩ => ⟨a.symm, b.symm⟩⟩
    by_cases q : i * c + k = p
    · rw [if_pos q, if_pos (by rw [mkM_len]; omega), if_pos (e.1 q)]
    · rw [if_neg q, if_neg (fun z => q (e.2 z)), mkM_get _ _ _ _ h]
  · rw [List.getElem?_eq_none (by simpa [mkM_len] using h), List.getElem?_eq_none (by rw [mkM_len]; exact h)]

/-- Written column by column (as Turn writes): all columns before i, and of column i all before k. -/
def fiC (f : Nat → Nat → Nat) (i k : Nat) : Nat → Nat → Nat := fun x y => if y < i ∨ (y = i ∧ x < k) then f x y else 0
theorem fiC_0 (r c : Nat) (f : Nat → Nat → Nat) : mkM r c (fiC f 0 0) = List.replicate (r * c) 0 := by
  rw [mkM_noughts]
  exact mkM_congr (fun i k _ _ => by unfold fiC; exact if_neg (by omega))
theorem fiC_step (r c : Nat) (f : Nat → Nat → Nat) {i k : Nat} (hi : i < c) (hk : k < r) : (mkM r c (fiC f i k)).set (k * c + i) (f k i) = mkM r c (fiC f i (k + 1)) := by
  rw [mkM_set r c _ _ hk hi]
  refine mkM_congr (fun x y _ _ => ?_)
  unfold fiC
  by_cases h : x = k ∧ y = i
  · obtain ⟨rfl, rfl⟩ := h
    rw [if_pos ⟨rfl, rfl⟩, if_pos (by omega)]
  · rw [if_neg h]
    by_cases g : y < i ∨ (y = i ∧ x < k)
    · rw [if_pos g, if_pos (by omega)]
    · rw [if_neg g, if_neg (by omega)]
theorem fiC_col (r c : Nat) (f : Nat → Nat → Nat) (i : Nat) : mkM r c (fiC f i r) = mkM r c (fiC f (i + 1) 0) := by
  refine mkM_congr (fun x y hx _ => ?_)
  unfold fiC
  by_cases g : y < i + 1
  · rw [if_pos (by omega), if_pos (by omega)]
  · rw [if_neg (by omega), if_neg (by omega)]
theorem fiC_all (r c : Nat) (f : Nat → Nat → Nat) : mkM r c (fiC f c 0) = mkM r c f :=
  mkM_congr (fun x y _ hy => by unfold fiC; exact if_pos (.inl hy))

/-- The number of a place; a matrix turned; a part; one beside the other. -/
def elM (c : Nat) (S : List Nat) (i k : Nat) : Nat := S.getD (i * c + k) 0
def tuM (r c : Nat) (S : List Nat) : List Nat := mkM c r (fun k i => elM c S i k)
theorem el_mk (r c : Nat) (f : Nat → Nat → Nat) {i k : Nat} (hi : i < r) (hk : k < c) : elM c (mkM r c f) i k = f i k := mkM_atD r c f hi hk

end Go.Proofs.YtceofkjefmilfaaGreatDoor

/- Sums of whole numbers: put in order by rows or by columns, none of them below 0, bounded; what stage 11 tells, in units of powers of two; rows scaled keep the rank; no program. Ahead of stage 11. -/
namespace Go.Proofs.YtceofkjefmilfaaGreatDoor
open Go.RowKit
theorem Lvl.less {lo : Int} {W : Nat} {z1 z2 : Int} (h1 : Lvl lo W z1) (h2 : Lvl lo W z2) (hW : lo + W + 1 ≤ 16384) (hW2 : W + 1 ≤ 16384) : Lvl lo (W + 1) (z1 - z2) := by
  refine ⟨?_, h1.2.1, by have := h1.2.2; omega, hW2⟩
  have a := h1.1
  have b := h2.1
  rw [Nat.pow_succ]
  omega

end Go.Proofs.YtceofkjefmilfaaGreatDoor

/- Copies of lists; cells that are spoiled; are two lists the same. -/
namespace Go.Proofs.YtceofkjefmilfaaGreatDoor
open Go.RowKit
attribute [local go_sem ↓] Go.wp_at_zero Go.wp_at_succ

/-- The numbers of a list. -/
def natL (I : List Int) : List Nat := I.map Int.toNat
theorem natL_len (I : List Int) : (natL I).length = I.length := by simp [natL]
theorem natL_back {w : World} {ao : Option Addr} {c : Nat} {I : List Int} (h : BitsAt w ao c I) : (natL I).map (fun x : Nat => (x : Int)) = I := by
  unfold natL
  rw [List.map_map]
  refine (List.map_congr_left fun x hx => ?_).trans (List.map_id I)
  have := h.2.1 x hx
  simp
  omega
theorem natL_lt {w : World} {ao : Option Addr} {c : Nat} {I : List Int} (h : BitsAt w ao c I) : ∀ x ∈ natL I, x < 18446744073709551616 := by
  intro x hx
  obtain ⟨y, hy, rfl⟩ := List.mem_map.1 hx
  have := h.2.1 y hy
  omega

set_option maxRecDepth 20000 in
theorem append_nil (w : World) (ty : TypeId) (g c : Nat) :
    (Builtin.append_ #[33, 33] ty #[.slice (some ⟨g, 0, none⟩) 0 0, .slice none 0 c]).run Tryz.prog w = .ok (.slice (some ⟨g, 0, none⟩) 0 0) w := by
  simp [Builtin.append_, go_sem]

/-- A list copied onto an empty one. -/
theorem copy_bits (w : World) (base : Nat) (ty : TypeId) (ao : Option Addr) (c : Nat) (I : List Int) (g : Nat) (h : BitsAt w ao c I) (hl : I.length ≤ 17592186043904) (hown : w.ownsRow base 23 1 (.slice (some ⟨g, 0, none⟩) 0 0) 0 []) (hbase : base ≤ w.heap.size) :
    ∃ po pc w', (Builtin.append_ #[33, 33] ty #[.slice (some ⟨g, 0, none⟩) 0 0, .slice ao I.length c]).run Tryz.prog w = .ok (.slice po I.length pc) w' ∧ OwnB base w' (.slice po I.length pc) (natL I) ∧ w.grownBy w' (some g) := by
  obtain ⟨i0, hi, hz0, hz1, hz2⟩ := info_parts infoBits
  cases ao with
  | none =>
    have h0 : I = [] := by
      rcases h.2.2 with e | ⟨b, off, e, _⟩
      · exact e
      · cases e
    subst h0
    refine ⟨some ⟨g, 0, none⟩, 0, w, append_nil w ty g c, ⟨hown, by simp [natL]⟩, ?_⟩
    exact ⟨rfl, rfl, rfl, Nat.le_refl _, fun k _ _ => rfl⟩
  | some a =>
    have hnews : ∀ j u, ((natL I).map bitV)[j]? = some u → w.cell? (a.add j) = some u := by
      intro j u hu
      rw [List.getElem?_map] at hu
      have hj : j < I.length := by
        rcases Nat.lt_or_ge j I.length with e | e
        · exact e
        · rw [List.getElem?_eq_none (by rw [natL_len]; exact e)] at hu; cases hu
      obtain ⟨b, off, e1, e2, e3⟩ := h.ne (by omega)
      cases e1
      rw [show (⟨b, off, none⟩ : Addr).add j = ⟨b, off + j, none⟩ by simp [Addr.add], e3 j hj]
      rw [← hu]
      simp [natL, hj, bitV, atB]
    obtain ⟨v', w', e1, e2, e3, e4, e5⟩ := run_append_own_at (P := Tryz.prog) w base 33 ty 23 i0 (.int .u64 0) 1 8 Tryz.underlying33 hi hz0 hz1 hz2 rfl (by decide) _ 0 [] hown a I.length c ((natL I).map bitV) (by simp [natL]) hnews (fun u hu => by
      obtain ⟨x, _, rfl⟩ := List.mem_map.1 hu
      rfl) (by unfold maxLen; omega) (by omega) hbase
    have ho : OwnB base w' v' (natL I) := ⟨by
      rw [natL_len]
      simpa using e2, natL_lt h⟩
    obtain ⟨po, pc, rfl, _⟩ := ho.bits
    rw [natL_len] at e1 ho
    exact ⟨po, pc, w', e1, ho, e3⟩

/-- n cells of block g hold bits, whatever they are. -/
def RowU (w : World) (g n : Nat) : Prop := ∃ cur : Array Value, w.heap[g]? = some (.cells cur 23 (0, 0)) ∧ n ≤ cur.size ∧ ∀ j, j < n → ∃ z : Int, cur[j]? = some (.int .u64 z)
theorem RowU.cell {w : World} {g n : Nat} (h : RowU w g n) {j : Nat} (hj : j < n) : ∃ z : Int, w.cell? ⟨g, j, none⟩ = some (.int .u64 z) := by
  obtain ⟨cur, h1, h2, h3⟩ := h
  obtain ⟨z, hz⟩ := h3 j hj
  exact ⟨z, by rw [cell_of_row w g j _ _ _ h1]; exact hz⟩
theorem RowU.free {w : World} {g n : Nat} (h : RowU w g n) (j : Nat) : w.frozen? ⟨g, j, none⟩ = false := by
  obtain ⟨cur, h1, _⟩ := h
  exact frozen_of_row w g j _ _ h1
theorem RowU.set {w : World} {g n : Nat} (h : RowU w g n) (b j : Nat) (z : Int) : RowU (w.setCell ⟨b, j, none⟩ (.int .u64 z)) g n := by
  obtain ⟨cur, h1, h2, h3⟩ := h
  by_cases e : g = b
  · subst e
    refine ⟨cur.setIfInBounds j (.int .u64 z), heap_setCell_same w g j _ _ _ h1, by simpa using h2, fun i hi => ?_⟩
    rw [Array.getElem?_setIfInBounds]
    by_cases ej : j = i
    · subst ej
      rw [if_pos rfl, if_pos (by omega)]
      exact ⟨z, rfl⟩
    · rw [if_neg ej]
      exact h3 i hi
  · exact ⟨cur, (Below.heap_setCell w ⟨b, j, none⟩ (.int .u64 z) g e).trans h1, h2, h3⟩
theorem RowU.below {w w' : World} {g n : Nat} (h : RowU w g n) (hb : Below w.heap.size w w') : RowU w' g n := by
  obtain ⟨cur, h1, h2⟩ := h
  exact ⟨cur, (hb.block g (Array.getElem?_eq_some_iff.1 h1).1).trans h1, h2⟩
/-- A copy's cells. -/
theorem OwnB.rowU {base : Nat} {w : World} {S : List Nat} {po : Option Addr} {n pc : Nat} (h : OwnB base w (.slice po n pc) S) (hn : 0 < S.length) : ∃ g, po = some ⟨g, 0, none⟩ ∧ base ≤ g ∧ g < w.heap.size ∧ RowU w g S.length := by
  rcases h.1.2 with ⟨_, h0⟩ | ⟨g, cap, cur, hv, hg, hh, hc, hm, hs, ht⟩
  · omega
  · simp only [Value.slice.injEq] at hv
    refine ⟨g, hv.1, hg, (Array.getElem?_eq_some_iff.1 hh).1, cur, hh, by omega, fun j hj => ?_⟩
    have q : (S.map bitV)[j]? = some (.int .u64 ((S[j] : Nat) : Int)) := by
      rw [List.getElem?_map, List.getElem?_eq_getElem hj]; rfl
    rw [← ht, List.getElem?_take, if_pos (by omega)] at q
    exact ⟨_, by simpa using q⟩

theorem BitsAt.other {w : World} {ao : Option Addr} {c : Nat} {I : List Int} (h : BitsAt w ao c I) {p : Addr} (hp : I = [] ∨ ∃ b off, ao = some ⟨b, off, none⟩ ∧ b ≠ p.block) (u : Value) : BitsAt (w.setCell p u) ao c I := by
  refine ⟨h.1, h.2.1, ?_⟩
  rcases h.2.2 with e | ⟨b, off, e1, e2, e3⟩
  · exact .inl e
  rcases hp with e | ⟨b', off', f1, f2⟩
  · exact .inl e
  rw [e1] at f1
  simp only [Option.some.injEq, Addr.mk.injEq] at f1
  obtain ⟨rfl, rfl, _⟩ := f1
  refine .inr ⟨b, off, e1, by simpa [World.setCell] using e2, fun i hi => ?_⟩
  rw [cell_setCell_other _ _ _ _ f2]
  exact e3 i hi

set_option maxRecDepth 20000 in
set_option maxHeartbeats 4000000 in
theorem same_any (ao bo : Option Addr) (c d : Nat) (I : List Int) (w : World) (hI : BitsAt w ao c I) (hJ : BitsAt w bo d I) (hn : I.length ≤ 35184372088830) :
    Calls Tryz.prog 87 #[.slice ao I.length c, .slice bo I.length d] w fun e w' => e = .returned (.bool true) ∧ Below w.heap.size w w' := by
  have HI := hide hI; have HJ := hide hJ
  obtain ⟨n, hnn⟩ : ∃ n, I.length = n := ⟨_, rfl⟩
  rw [hnn] at hn ⊢
  have HN := hide hnn
  clear hI hJ hnn
  go_enter Tryz.func87, Tryz.ntmps87
  go_wp2_with fail
  go_loopw [5] (fun i wr => ∃ k : Nat, k ≤ n ∧ i = .int .i64 k ∧ Hid (Below w.heap.size w wr)) (fun i _ => n - (intOf i).toNat)
  case atStart => exact ⟨0, Nat.zero_le _, rfl, Below.refl _ _⟩
  case round =>
    obtain ⟨k, hk, rfl, hB⟩ := hrel
    by_cases hlt : k < n
    · have hkI : (k : Int) < (n : Int) := by omega
      obtain ⟨b1, o1, hao, hb1, hc1⟩ := ((unhide HI).below hB.out).ne (by rw [unhide HN]; omega)
      obtain ⟨b2, o2, hbo, hb2, hc2⟩ := ((unhide HJ).below hB.out).ne (by rw [unhide HN]; omega)
      have cx := hc1 k (by rw [unhide HN]; exact hlt)
      have cy := hc2 k (by rw [unhide HN]; exact hlt)
      subst hao
      subst hbo
      clear hc1 hc2
      generalize atB I k = x at *
      go_wp2_with fail
      go_quiet (fail)
      go_wp2_with fail
      go_round
      case rel => exact ⟨k + 1, by omega, by go_num, hide (below_drewN hB.out _)⟩
      case measure => simp [intOf]; omega
    · have hkk : k = n := by omega
      subst hkk
      go_wp2_with fail
      exact bodyPost_ret (v := .bool true) (by simp [results, Tryz.results87, go_sem]) rfl ⟨rfl, hB.out⟩

end Go.Proofs.YtceofkjefmilfaaGreatDoor

