/- Part 22 of the texts. -/
import Derived.Test.YtfnnbkclnflpfaaGreatDoorPartQ01
import Derived.Test.YtfnnbkclnflpfaaGreatDoorPartQ20
import Derived.Test.YtfnnbkclnflpfaaGreatDoorPartQ18
import Derived.Test.YtfnnbkclnflpfaaGreatDoorPartQ16
import Derived.Test.YtfnnbkclnflpfaaGreatDoorPartQ10
import Derived.Test.YtfnnbkclnflpfaaGreatDoorPartQ08
import Derived.Lib.BitFns
import Derived.Test.YtfnnbkclnflpfaaGreatDoorPartQ07
import Derived.Test.YtfnnbkclnflpfaaGreatDoorPartQ11
import Derived.Deep.RegionHeld3
import Derived.Test.YtfnnbkclnflpfaaGreatDoorPartQ17
import Derived.Test.YtfnnbkclnflpfaaGreatDoorPartQ09
import Derived.Laws.Cover2
import Derived.Laws.Externs
import Derived.Test.YtfnnbkclnflpfaaGreatDoorPartQ05
import Derived.Laws.FloatArith
import Derived.Test.YtfnnbkclnflpfaaGreatDoorPartQ19
import Derived.Laws.BitsAllLaws
/- Determinants by the first row, over whole numbers: rows are functions of the column, columns a list. No program. -/
namespace Go.Proofs.YtfnnbkclnflpfaaGreatDoor

/-- The sum over the places of cs, the sign turning: r there, times D of the rest. -/
def exD (r : Nat → Int) : List Nat → (List Nat → Int) → Int
  | [], _ => 0
  | c :: cs, D => r c * D cs - exD r cs (fun l => D (c :: l))

def detD : List (Nat → Int) → List Nat → Int
  | [], _ => 1
  | r :: rs, cs => exD r cs (detD rs)

theorem exD_congr (r : Nat → Int) : ∀ (cs : List Nat) (D E : List Nat → Int), (∀ l, l.Sublist cs → l.length + 1 = cs.length → D l = E l) → exD r cs D = exD r cs E
  | [], _, _, _ => rfl
  | c :: cs, D, E, h => by
    unfold exD
    rw [h cs (List.sublist_cons_self c cs) rfl, exD_congr r cs (fun l => D (c :: l)) (fun l => E (c :: l)) (fun l h1 h2 => h (c :: l) (h1.cons_cons c) (by simp; omega))]

theorem exD_row (r s : Nat → Int) : ∀ (cs : List Nat) (D : List Nat → Int), (∀ c ∈ cs, r c = s c) → exD r cs D = exD s cs D
  | [], _, _ => rfl
  | c :: cs, D, h => by
    unfold exD
    rw [h c (by simp), exD_row r s cs _ (fun c hc => h c (by simp [hc]))]

theorem exD_lin (r : Nat → Int) (p q : Int) : ∀ (cs : List Nat) (D E : List Nat → Int), exD r cs (fun l => p * D l + q * E l) = p * exD r cs D + q * exD r cs E
  | [], _, _ => by simp [exD]
  | c :: cs, D, E => by
    unfold exD
    rw [exD_lin r p q cs (fun l => D (c :: l)) (fun l => E (c :: l))]
    grind

theorem exD_smul (r : Nat → Int) (p : Int) (cs : List Nat) (D : List Nat → Int) : exD r cs (fun l => p * D l) = p * exD r cs D := by
  have := exD_lin r p 0 cs D D
  simpa using this

theorem exD_linrow (r s : Nat → Int) (p q : Int) : ∀ (cs : List Nat) (D : List Nat → Int), exD (fun c => p * r c + q * s c) cs D = p * exD r cs D + q * exD s cs D
  | [], _ => by simp [exD]
  | c :: cs, D => by
    unfold exD
    rw [exD_linrow r s p q cs (fun l => D (c :: l))]
    grind

theorem exD_zero (r : Nat → Int) (cs : List Nat) : exD r cs (fun _ => 0) = 0 := by
  have := exD_smul r 0 cs (fun _ => 0)
  simpa using this

/-- Two sums change places. -/
theorem exD_fubini (r s : Nat → Int) : ∀ (cs ks : List Nat) (F : List Nat → List Nat → Int), exD r cs (fun l => exD s ks (fun m => F l m)) = exD s ks (fun m => exD r cs (fun l => F l m))
  | [], ks, F => (exD_zero s ks).symm
  | c :: cs, ks, F => by
    have h := exD_lin s (r c) (-1) ks (fun m => F cs m) (fun m => exD r cs (fun l => F (c :: l) m))
    have e : exD s ks (fun m => exD r (c :: cs) (fun l => F l m)) = exD s ks (fun m => r c * F cs m + -1 * exD r cs (fun l => F (c :: l) m)) := by
      congr 1
      funext m
      show r c * F cs m - exD r cs (fun l => F (c :: l) m) = _
      omega
    rw [e, h, ← exD_fubini r s cs ks (fun l m => F (c :: l) m)]
    show r c * exD s ks (fun m => F cs m) - exD r cs (fun l => exD s ks (fun m => F (c :: l) m)) = _
    omega

/-- Two rows that follow one another change places: the sign turns. -/
theorem exD_swap (r s : Nat → Int) : ∀ (cs : List Nat) (D : List Nat → Int), exD r cs (fun l => exD s l D) = - exD s cs (fun l => exD r l D)
  | [], _ => by simp [exD]
  | c :: cs, D => by
    have step : ∀ r s : Nat → Int, exD r (c :: cs) (fun l => exD s l D) = r c * exD s cs D - s c * exD r cs D + exD r cs (fun l => exD s l (fun m => D (c :: m))) := by
      intro r s
      have e : exD r cs (fun l => exD s (c :: l) D) = s c * exD r cs D + -1 * exD r cs (fun l => exD s l (fun m => D (c :: m))) := by
        rw [← exD_lin]
        congr 1
        funext l
        show s c * D l - exD s l (fun m => D (c :: m)) = _
        omega
      show r c * exD s cs D - exD r cs (fun l => exD s (c :: l) D) = _
      rw [e]
      omega
    rw [step r s, step s r, exD_swap r s cs (fun m => D (c :: m))]
    omega

theorem detD_cons (r : Nat → Int) (rs : List (Nat → Int)) (cs : List Nat) : detD (r :: rs) cs = exD r cs (detD rs) := rfl

theorem detD_swap (r s : Nat → Int) (rs : List (Nat → Int)) (cs : List Nat) : detD (r :: s :: rs) cs = - detD (s :: r :: rs) cs := by
  show exD r cs (fun l => exD s l (detD rs)) = - exD s cs (fun l => exD r l (detD rs))
  exact exD_swap r s cs (detD rs)

theorem detD_same (r : Nat → Int) (rs : List (Nat → Int)) (cs : List Nat) : detD (r :: r :: rs) cs = 0 := by
  have := detD_swap r r rs cs
  omega

/-- What holds behind a beginning holds with it: a factor. -/
theorem detD_pre (p : Int) (rs ss : List (Nat → Int)) (h : ∀ cs, detD rs cs = p * detD ss cs) : ∀ (pre : List (Nat → Int)) (cs : List Nat), detD (pre ++ rs) cs = p * detD (pre ++ ss) cs
  | [], cs => h cs
  | r :: pre, cs => by
    show exD r cs (detD (pre ++ rs)) = p * exD r cs (detD (pre ++ ss))
    rw [← exD_smul]
    congr 1
    funext l
    exact detD_pre p rs ss h pre l

/-- The other order of rows: the same but for the sign. -/
theorem detD_perm {rs ss : List (Nat → Int)} (h : rs.Perm ss) : ∃ p : Int, (p = 1 ∨ p = -1) ∧ ∀ cs, detD rs cs = p * detD ss cs := by
  induction h with
  | nil => exact ⟨1, .inl rfl, fun cs => by simp⟩
  | cons r _ ih =>
    obtain ⟨p, hp, h⟩ := ih
    exact ⟨p, hp, fun cs => detD_pre p _ _ h [r] cs⟩
  | swap r s l => exact ⟨-1, .inr rfl, fun cs => by rw [detD_swap s r l cs]; omega⟩
  | trans _ _ ih1 ih2 =>
    obtain ⟨p, hp, h⟩ := ih1
    obtain ⟨q, hq, g⟩ := ih2
    refine ⟨p * q, ?_, fun cs => by rw [h cs, g cs, Int.mul_assoc]⟩
    rcases hp with rfl | rfl <;> rcases hq with rfl | rfl <;> simp

/-- A row that stands twice: 0. -/
theorem detD_twice (r : Nat → Int) (rs : List (Nat → Int)) (pre mid : List (Nat → Int)) (cs : List Nat) : detD (pre ++ r :: (mid ++ r :: rs)) cs = 0 := by
  have hp : (pre ++ r :: (mid ++ r :: rs)).Perm (r :: r :: (pre ++ (mid ++ rs))) := by
    have h1 : (mid ++ r :: rs).Perm (r :: (mid ++ rs)) := List.perm_middle
    have h2 : (pre ++ r :: (mid ++ r :: rs)).Perm (r :: (pre ++ (mid ++ r :: rs))) := List.perm_middle
    refine h2.trans (List.Perm.cons r ?_)
    refine (List.Perm.append_left pre h1).trans ?_
    exact List.perm_middle
  obtain ⟨p, _, h⟩ := detD_perm hp
  rw [h cs, detD_same]
  simp

/-- A row that is a sum: at any place. -/
theorem detD_lin (r s : Nat → Int) (p q : Int) (rs : List (Nat → Int)) : ∀ (pre : List (Nat → Int)) (cs : List Nat), detD (pre ++ (fun c => p * r c + q * s c) :: rs) cs = p * detD (pre ++ r :: rs) cs + q * detD (pre ++ s :: rs) cs
  | [], cs => exD_linrow r s p q cs (detD rs)
  | t :: pre, cs => by
    show exD t cs (detD (pre ++ (fun c => p * r c + q * s c) :: rs)) = p * exD t cs (detD (pre ++ r :: rs)) + q * exD t cs (detD (pre ++ s :: rs))
    rw [← exD_lin]
    congr 1
    funext l
    exact detD_lin r s p q rs pre l

/-- The last row brought to the front. -/
theorem detD_last (r : Nat → Int) : ∀ (rs : List (Nat → Int)) (cs : List Nat), detD (rs ++ [r]) cs = (-1) ^ rs.length * detD (r :: rs) cs
  | [], cs => by simp
  | s :: rs, cs => by
    have h : detD (s :: (rs ++ [r])) cs = (-1) ^ rs.length * detD (s :: r :: rs) cs := detD_pre _ (rs ++ [r]) (r :: rs) (fun cs => detD_last r rs cs) [s] cs
    show detD (s :: (rs ++ [r])) cs = _
    rw [h, detD_swap s r rs cs, List.length_cons, Int.pow_succ]
    grind

/-- Rows turned into columns: the same. -/
theorem detD_turn (a : Nat → Nat → Int) : ∀ (n : Nat) (R C : List Nat), R.length = n → C.length = n → detD (R.map (fun i => fun j => a i j)) C = detD (C.map (fun j => fun i => a i j)) R
  | 0, R, C, hR, hC => by
    obtain rfl := List.length_eq_zero_iff.1 hR
    obtain rfl := List.length_eq_zero_iff.1 hC
    rfl
  | 1, [i], [j], _, _ => by simp [detD, exD]
  | n + 2, i :: R, j :: C, hR, hC => by
    have ihs : ∀ R C : List Nat, R.length = n + 1 → C.length = n + 1 → detD (R.map (fun i => fun j => a i j)) C = detD (C.map (fun j => fun i => a i j)) R := detD_turn a (n + 1)
    have ih0 : ∀ R C : List Nat, R.length = n → C.length = n → detD (R.map (fun i => fun j => a i j)) C = detD (C.map (fun j => fun i => a i j)) R := detD_turn a n
    simp only [List.length_cons] at hR hC
    show exD (a i) (j :: C) (detD (R.map (fun i => fun j => a i j))) = exD (fun i => a i j) (i :: R) (detD (C.map (fun j => fun i => a i j)))
    unfold exD
    have hA : exD (a i) C (fun l => detD (R.map (fun i => fun j => a i j)) (j :: l)) = exD (a i) C (fun l => exD (fun i => a i j) R (fun k => detD (k.map (fun i => fun j => a i j)) l)) := by
      refine exD_congr _ _ _ _ (fun l hl hlen => ?_)
      rw [ihs R (j :: l) (by omega) (by simp; omega)]
      show exD (fun i => a i j) R (detD (l.map (fun j => fun i => a i j))) = _
      refine exD_congr _ _ _ _ (fun k hk hkl => ?_)
      exact (ih0 k l (by omega) (by omega)).symm
    have hB : exD (fun i => a i j) R (fun l => detD (C.map (fun j => fun i => a i j)) (i :: l)) = exD (fun i => a i j) R (fun k => exD (a i) C (fun l => detD (k.map (fun i => fun j => a i j)) l)) := by
      refine exD_congr _ _ _ _ (fun k hk hkl => ?_)
      rw [← ihs (i :: k) C (by simp; omega) (by omega)]
      rfl
    rw [hA, hB, exD_fubini, ihs R C (by omega) (by omega)]

end Go.Proofs.YtfnnbkclnflpfaaGreatDoor

/- Minors and the rank, over whole numbers. No program. -/
namespace Go.Proofs.YtfnnbkclnflpfaaGreatDoor

/-- Places that rise, all below m. -/
def Rise (m : Nat) (I : List Nat) : Prop := I.Pairwise (· < ·) ∧ ∀ i ∈ I, i < m

/-- The minor of the rows I and the columns C. -/
def minorD (a : Nat → Nat → Int) (I C : List Nat) : Int := detD (I.map a) C

/-- All minors of k rows and columns are 0. -/
def Van (k : Nat) (a : Nat → Nat → Int) (m n : Nat) : Prop := ∀ I C, Rise m I → Rise n C → I.length = k → C.length = k → minorD a I C = 0

/-- r is the rank. -/
def IsRank (r : Nat) (a : Nat → Nat → Int) (m n : Nat) : Prop := ¬ Van r a m n ∧ Van (r + 1) a m n

theorem Rise.sub {m : Nat} {I J : List Nat} (h : Rise m I) (hs : J.Sublist I) : Rise m J := ⟨h.1.sublist hs, fun i hi => h.2 i (hs.subset hi)⟩

theorem Van.succ {k : Nat} {a : Nat → Nat → Int} {m n : Nat} (h : Van k a m n) : Van (k + 1) a m n := by
  intro I C hI hC lI lC
  cases I with
  | nil => simp at lI
  | cons i I =>
    show exD (a i) C (detD (I.map a)) = 0
    rw [exD_congr (a i) C (detD (I.map a)) (fun _ => 0) (fun l hl hlen => ?_), exD_zero]
    simp only [List.length_cons] at lI
    exact h I l (hI.sub (List.sublist_cons_self i I)) (hC.sub hl) (by omega) (by omega)

theorem Van.le {k j : Nat} {a : Nat → Nat → Int} {m n : Nat} (h : Van k a m n) (hj : k ≤ j) : Van j a m n := by
  obtain ⟨d, rfl⟩ : ∃ d, j = k + d := ⟨j - k, by omega⟩
  clear hj
  induction d with
  | zero => exact h
  | succ d ih => exact ih.succ

theorem IsRank.unique {r s : Nat} {a : Nat → Nat → Int} {m n : Nat} (h : IsRank r a m n) (g : IsRank s a m n) : r = s := by
  rcases Nat.lt_trichotomy r s with hlt | e | hlt
  · exact absurd (h.2.le hlt) g.1
  · exact e
  · exact absurd (g.2.le hlt) h.1

theorem dup_split : ∀ (I : List Nat), ¬ I.Nodup → ∃ pre i mid post, I = pre ++ i :: (mid ++ i :: post)
  | [], h => absurd List.nodup_nil h
  | i :: I, h => by
    by_cases hi : i ∈ I
    · obtain ⟨s, t, rfl⟩ := List.append_of_mem hi
      exact ⟨[], i, s, t, rfl⟩
    · have : ¬ I.Nodup := fun hn => h (List.nodup_cons.2 ⟨hi, hn⟩)
      obtain ⟨pre, j, mid, post, e⟩ := dup_split I this
      exact ⟨i :: pre, j, mid, post, by rw [e]; rfl⟩

/-- All minors vanish, the rows in whatever order, also if some stand twice. -/
theorem Van.all {k : Nat} {a : Nat → Nat → Int} {m n : Nat} (h : Van k a m n) (I C : List Nat) (hI : ∀ i ∈ I, i < m) (hC : Rise n C) (lI : I.length = k) (lC : C.length = k) : minorD a I C = 0 := by
  by_cases hn : I.Nodup
  · have hp : (I.mergeSort (fun x y => decide (x ≤ y))).Perm I := List.mergeSort_perm I _
    have hs : (I.mergeSort (fun x y => decide (x ≤ y))).Pairwise (fun x y => decide (x ≤ y) = true) := List.pairwise_mergeSort (fun x y z h1 h2 => by simp at *; omega) (fun x y => by simp; omega) I
    have hn' : (I.mergeSort (fun x y => decide (x ≤ y))).Nodup := hp.nodup_iff.2 hn
    have hr : Rise m (I.mergeSort (fun x y => decide (x ≤ y))) := by
      refine ⟨?_, fun i hi => hI i (hp.mem_iff.1 hi)⟩
      have h2 := List.Pairwise.and hs hn'
      exact h2.imp (fun h => by simp at h; omega)
    obtain ⟨p, _, hd⟩ := detD_perm (hp.map a)
    have h0 := h _ C hr hC (by rw [hp.length_eq]; exact lI) lC
    unfold minorD at h0 ⊢
    have h1 := hd C
    rw [h0] at h1
    rcases (show p = 1 ∨ p = -1 by assumption) with rfl | rfl <;> omega
  · obtain ⟨pre, i, mid, post, rfl⟩ := dup_split I hn
    unfold minorD
    simp only [List.map_append, List.map_cons]
    exact detD_twice (a i) (post.map a) (pre.map a) (mid.map a) C

/-- A row that is 0 at the columns asked for. -/
theorem exD_nought (r : Nat → Int) (cs : List Nat) (D : List Nat → Int) (h : ∀ c ∈ cs, r c = 0) : exD r cs D = 0 := by
  rw [exD_row r (fun _ => 0) cs D h]
  induction cs generalizing D with
  | nil => rfl
  | cons c cs ih =>
    unfold exD
    rw [ih _ (fun c hc => h c (by simp [hc]))]
    simp

theorem detD_nought (r : Nat → Int) (rs : List (Nat → Int)) (cs : List Nat) (h : ∀ c ∈ cs, r c = 0) : ∀ pre : List (Nat → Int), detD (pre ++ r :: rs) cs = 0 := by
  intro pre
  have hp : (pre ++ r :: rs).Perm (r :: (pre ++ rs)) := List.perm_middle
  obtain ⟨p, _, hd⟩ := detD_perm hp
  rw [hd cs]
  show p * exD r cs (detD (pre ++ rs)) = 0
  rw [exD_nought r cs _ h]
  simp

end Go.Proofs.YtfnnbkclnflpfaaGreatDoor

/- Matrices as lists, row by row: made, written place by place, turned, put together; products; no program. Ahead of stage 10. -/
namespace Go.Proofs.YtfnnbkclnflpfaaGreatDoor
open Go.RowKit

/-- A matrix that a function makes, row by row. -/
def mkM (r c : Nat) (f : Nat → Nat → Nat) : List Nat := (List.range (r * c)).map (fun p => f (p / c) (p % c))

theorem place_lt {r c i k : Nat} (hi : i < r) (hk : k < c) : i * c + k < r * c := by
  have h1 : (i + 1) * c ≤ r * c := Nat.mul_le_mul_right c hi
  rw [Nat.add_mul, Nat.one_mul] at h1
  omega
theorem place_div {c i k : Nat} (hk : k < c) : (i * c + k) / c = i := by
  rw [Nat.add_comm, Nat.add_mul_div_right _ _ (by omega), Nat.div_eq_of_lt hk, Nat.zero_add]
theorem place_mod {c i k : Nat} (hk : k < c) : (i * c + k) % c = k := by
  rw [Nat.add_comm, Nat.add_mul_mod_self_right, Nat.mod_eq_of_lt hk]
theorem mkM_len (r c : Nat) (f : Nat → Nat → Nat) : (mkM r c f).length = r * c := by simp [mkM]
theorem mkM_get (r c : Nat) (f : Nat → Nat → Nat) (p : Nat) (h : p < r * c) : (mkM r c f)[p]? = some (f (p / c) (p % c)) := by simp [mkM, h]
theorem mkM_at (r c : Nat) (f : Nat → Nat → Nat) {i k : Nat} (hi : i < r) (hk : k < c) : (mkM r c f)[i * c + k]? = some (f i k) := by
  rw [mkM_get _ _ _ _ (place_lt hi hk), place_div hk, place_mod hk]
theorem mkM_atD (r c : Nat) (f : Nat → Nat → Nat) {i k : Nat} (hi : i < r) (hk : k < c) : (mkM r c f).getD (i * c + k) 0 = f i k := by
  rw [List.getD_eq_getElem?_getD, mkM_at r c f hi hk]; rfl
/-- The number of a place; a matrix turned; a part; one beside the other. -/
def elM (c : Nat) (S : List Nat) (i k : Nat) : Nat := S.getD (i * c + k) 0
theorem el_mk (r c : Nat) (f : Nat → Nat → Nat) {i k : Nat} (hi : i < r) (hk : k < c) : elM c (mkM r c f) i k = f i k := mkM_atD r c f hi hk

/-- Ones where rows and columns meet; times a matrix it is that matrix. -/
def eyM (n : Nat) : List Nat := mkM n n (fun i k => if k = i then 4607182418800017408 else 0)
end Go.Proofs.YtfnnbkclnflpfaaGreatDoor

/- Sums of whole numbers: put in order by rows or by columns, none of them below 0, bounded; what stage 11 tells, in units of powers of two; rows scaled keep the rank; no program. Ahead of stage 11. -/
namespace Go.Proofs.YtfnnbkclnflpfaaGreatDoor
open Go.RowKit

/-- The sum of the first n numbers. -/
def smI (f : Nat → Int) : Nat → Int
  | 0 => 0
  | n + 1 => smI f n + f n

theorem smI_congr {f g : Nat → Int} (n : Nat) (h : ∀ i, i < n → f i = g i) : smI f n = smI g n := by
  induction n with
  | zero => rfl
  | succ n ih => unfold smI; rw [ih (fun i hi => h i (by omega)), h n (by omega)]

theorem smI_app (f : Nat → Int) (m n : Nat) : smI f (m + n) = smI f m + smI (fun i => f (m + i)) n := by
  induction n with
  | zero => show smI f m = smI f m + 0; omega
  | succ n ih =>
    have e1 : smI f (m + (n + 1)) = smI f (m + n) + f (m + n) := rfl
    have e2 : smI (fun i => f (m + i)) (n + 1) = smI (fun i => f (m + i)) n + f (m + n) := rfl
    rw [e1, e2, ih]; omega

/-- A list's sum, row by row. -/
theorem smI_grid (f : Nat → Int) (r c : Nat) : smI f (r * c) = smI (fun i => smI (fun k => f (i * c + k)) c) r := by
  induction r with
  | zero => rw [Nat.zero_mul]; rfl
  | succ r ih =>
    have e : smI (fun i => smI (fun k => f (i * c + k)) c) (r + 1) = smI (fun i => smI (fun k => f (i * c + k)) c) r + smI (fun k => f (r * c + k)) c := rfl
    rw [e, ← ih, Nat.succ_mul, smI_app]

theorem smI_abs {f : Nat → Int} {B : Nat} (n : Nat) (h : ∀ i, i < n → (f i).natAbs ≤ B) : (smI f n).natAbs ≤ n * B := by
  induction n with
  | zero => rw [Nat.zero_mul]; exact Nat.le_refl 0
  | succ n ih =>
    have a := ih (fun i hi => h i (by omega))
    have b := h n (by omega)
    rw [Nat.succ_mul]
    unfold smI
    have := Int.natAbs_add_le (smI f n) (f n)
    omega

theorem Lvl.times {lo1 lo2 : Int} {W1 W2 : Nat} {z1 z2 : Int} (h1 : Lvl lo1 W1 z1) (h2 : Lvl lo2 W2 z2) (b1 : -16384 ≤ lo1 + lo2) (b2 : lo1 + lo2 + (W1 + W2 : Nat) ≤ 16384) (b3 : W1 + W2 ≤ 16384) : Lvl (lo1 + lo2) (W1 + W2) (z1 * z2) := by
  refine ⟨?_, b1, b2, b3⟩
  rw [Int.natAbs_mul]
  exact mul_lt_pow h1.1 h2.1

theorem Lvl.less {lo : Int} {W : Nat} {z1 z2 : Int} (h1 : Lvl lo W z1) (h2 : Lvl lo W z2) (hW : lo + W + 1 ≤ 16384) (hW2 : W + 1 ≤ 16384) : Lvl lo (W + 1) (z1 - z2) := by
  refine ⟨?_, h1.2.1, by have := h1.2.2; omega, hW2⟩
  have a := h1.1
  have b := h2.1
  rw [Nat.pow_succ]
  omega

/-- The square of a list, in units of 2^-2148. -/
def sqZ (S : List Nat) : Int := smI (fun p => fZ (S.getD p 0) * fZ (S.getD p 0)) S.length

/-- The exact sum of products, in units of 2^-2148. -/
def dtZ (n : Nat) (x y : Nat → Nat) : Int := smI (fun j => fZ (x j) * fZ (y j)) n

/-- A place of a matrix less a product, in units of 2^-2148; the square of that, in units of 2^-4296. -/
def rsZ (n c : Nat) (A B C : List Nat) (i k : Nat) : Int := fZ (elM c A i k) * 2 ^ 1074 - dtZ n (fun j => elM n B i j) (fun j => elM c C j k)
def rsQ (r n c : Nat) (A B C : List Nat) : Int := smI (fun i => smI (fun k => rsZ n c A B C i k * rsZ n c A B C i k) c) r

/-- Two columns multiplied, less one where they meet, in units of 2^-2148; the square of that. -/
def orZ (r c : Nat) (Q : List Nat) (i k : Nat) : Int := dtZ r (fun j => elM c Q j i) (fun j => elM c Q j k) - (if i = k then 2 ^ 2148 else 0)
def orQ (r c : Nat) (Q : List Nat) : Int := smI (fun i => smI (fun k => orZ r c Q i k * orZ r c Q i k) c) c

theorem fZ_one11 : fZ 4607182418800017408 = 2 ^ 1074 := by decide +kernel
theorem fZ_zero11 : fZ 0 = 0 := by decide +kernel

end Go.Proofs.YtfnnbkclnflpfaaGreatDoor

/- How wide the sums of stage 11 are; sums over places one after another; no program. Ahead of stage 11. -/
namespace Go.Proofs.YtfnnbkclnflpfaaGreatDoor
open Go.RowKit

/-- The sum over the places of i rows and of k places of the next one. -/
def rnI (f : Nat → Nat → Int) (c i k : Nat) : Int := smI (fun i => smI (f i) c) i + smI (f i) k
theorem rnI_step (f : Nat → Nat → Int) (c i k : Nat) : rnI f c i (k + 1) = rnI f c i k + f i k := by
  unfold rnI
  have e : smI (f i) (k + 1) = smI (f i) k + f i k := rfl
  rw [e, Int.add_assoc]
theorem rnI_row (f : Nat → Nat → Int) (c i : Nat) : rnI f c i c = rnI f c (i + 1) 0 := by
  unfold rnI
  have e : smI (fun i => smI (f i) c) (i + 1) = smI (fun i => smI (f i) c) i + smI (f i) c := rfl
  have e0 : smI (f (i + 1)) 0 = 0 := rfl
  rw [e, e0, Int.add_zero]
theorem rnI_all (f : Nat → Nat → Int) (c r : Nat) : rnI f c r 0 = smI (fun i => smI (f i) c) r := by
  unfold rnI
  have e0 : smI (f r) 0 = 0 := rfl
  rw [e0, Int.add_zero]

theorem smI_lt {f : Nat → Int} {W : Nat} (n : Nat) (hn : n ≤ 8) (h : ∀ i, i < n → (f i).natAbs < 2 ^ W) : (smI f n).natAbs < 2 ^ (W + 3) := by
  have a := smI_abs (f := f) (B := 2 ^ W - 1) n (fun i hi => Nat.le_sub_one_of_lt (h i hi))
  have p := Nat.two_pow_pos W
  have e : (2 : Nat) ^ (W + 3) = 8 * 2 ^ W := by rw [Nat.pow_add]; omega
  rw [e]
  generalize (2 : Nat) ^ W = P at *
  have : n * (P - 1) ≤ 8 * (P - 1) := Nat.mul_le_mul_right _ hn
  omega

theorem rnI_lt {f : Nat → Nat → Int} {W : Nat} (r c i k : Nat) (hi : i ≤ r) (hr : r ≤ 8) (hk : k ≤ c) (hc : c ≤ 8) (h : ∀ i k, k < c → (f i k).natAbs < 2 ^ W) : (rnI f c i k).natAbs < 2 ^ (W + 7) := by
  unfold rnI
  have a : (smI (fun i => smI (f i) c) i).natAbs < 2 ^ (W + 3 + 3) := smI_lt i (by omega) (fun j _ => smI_lt c hc (fun k hk => h j k hk))
  have b : (smI (f i) k).natAbs < 2 ^ (W + 3) := smI_lt k (by omega) (fun l hl => h i l (by omega))
  have e6 : (2 : Nat) ^ (W + 3 + 3) = 64 * 2 ^ W := by rw [Nat.pow_add, Nat.pow_add]; omega
  have e3 : (2 : Nat) ^ (W + 3) = 8 * 2 ^ W := by rw [Nat.pow_add]; omega
  have e7 : (2 : Nat) ^ (W + 7) = 128 * 2 ^ W := by rw [Nat.pow_add]; omega
  rw [e6] at a
  rw [e3] at b
  rw [e7]
  have := Int.natAbs_add_le (smI (fun i => smI (f i) c) i) (smI (f i) k)
  generalize (2 : Nat) ^ W = P at *
  omega

theorem el_fin (c : Nat) (S : List Nat) (i k : Nat) (h : ∀ x ∈ S, fFin x = true) : fFin (elM c S i k) = true := by
  unfold elM
  rw [List.getD_eq_getElem?_getD]
  by_cases g : i * c + k < S.length
  · rw [List.getElem?_eq_getElem g]
    exact h _ (List.getElem_mem g)
  · rw [List.getElem?_eq_none (by omega)]
    decide +kernel

theorem mul_ltV {j k V : Nat} {x y : Int} (hV : j + k = V) (hx : x.natAbs < 2 ^ j) (hy : y.natAbs < 2 ^ k) : (x * y).natAbs < 2 ^ V := by
  subst hV
  rw [Int.natAbs_mul]
  exact mul_lt_pow hx hy
theorem smI_ltV {f : Nat → Int} {W V : Nat} (hV : W + 3 = V) (n : Nat) (hn : n ≤ 8) (h : ∀ i, i < n → (f i).natAbs < 2 ^ W) : (smI f n).natAbs < 2 ^ V := by
  subst hV
  exact smI_lt n hn h
theorem sub_ltV {x y : Int} {W V : Nat} (hV : W + 1 = V) (hx : x.natAbs < 2 ^ W) (hy : y.natAbs < 2 ^ W) : (x - y).natAbs < 2 ^ V := by
  subst hV
  rw [Nat.pow_succ]
  omega
theorem rnI_ltV {f : Nat → Nat → Int} {W V : Nat} (hV : W + 7 = V) (r c i k : Nat) (hi : i ≤ r) (hr : r ≤ 8) (hk : k ≤ c) (hc : c ≤ 8) (h : ∀ i k, k < c → (f i k).natAbs < 2 ^ W) : (rnI f c i k).natAbs < 2 ^ V := by
  subst hV
  exact rnI_lt r c i k hi hr hk hc h
theorem up_ltV {x : Int} {j k V : Nat} (hV : j + k ≤ V) (hx : x.natAbs < 2 ^ j) : (x * 2 ^ k).natAbs < 2 ^ V := by
  rw [Int.natAbs_mul, Int.natAbs_pow]
  refine Nat.lt_of_lt_of_le ((Nat.mul_lt_mul_right (Nat.two_pow_pos k)).2 hx) ?_
  rw [← Nat.pow_add]
  exact Nat.pow_le_pow_right (by decide) hV
theorem pow_ltV {j V : Nat} (h : j < V) : ((2 : Int) ^ j).natAbs < 2 ^ V := by
  rw [Int.natAbs_pow]
  exact Nat.pow_lt_pow_right (by decide) h

/-- A product; a sum of them; a number at the lower level. -/
theorem dtZ_lt (n : Nat) (hn : n ≤ 8) (x y : Nat → Nat) (hx : ∀ j, j < n → fFin (x j) = true) (hy : ∀ j, j < n → fFin (y j) = true) : (dtZ n x y).natAbs < 2 ^ 4199 :=
  smI_ltV (W := 4196) (V := 4199) (by decide) n hn (fun j hj => mul_ltV (j := 2098) (k := 2098) (V := 4196) (by decide) (fZ_lt _ (hx j hj)) (fZ_lt _ (hy j hj)))
theorem dtZ_lvl (n : Nat) (hn : n ≤ 8) (x y : Nat → Nat) (hx : ∀ j, j < n → fFin (x j) = true) (hy : ∀ j, j < n → fFin (y j) = true) : Lvl (-2148) 4199 (dtZ n x y) :=
  ⟨dtZ_lt n hn x y hx hy, by decide, by decide, by decide⟩

theorem rsZ_lt (n c : Nat) (A B C : List Nat) (i k : Nat) (hn : n ≤ 8) (fA : ∀ x ∈ A, fFin x = true) (fB : ∀ x ∈ B, fFin x = true) (fC : ∀ x ∈ C, fFin x = true) : (rsZ n c A B C i k).natAbs < 2 ^ 4200 :=
  sub_ltV (W := 4199) (V := 4200) (by decide) (up_ltV (j := 2098) (k := 1074) (V := 4199) (by decide) (fZ_lt _ (el_fin c A i k fA))) (dtZ_lt n hn _ _ (fun j _ => el_fin n B i j fB) (fun j _ => el_fin c C j k fC))

theorem orZ_lt (r c : Nat) (Q : List Nat) (i k : Nat) (hr : r ≤ 8) (fQ : ∀ x ∈ Q, fFin x = true) : (orZ r c Q i k).natAbs < 2 ^ 4200 := by
  unfold orZ
  refine sub_ltV (W := 4199) (V := 4200) (by decide) (dtZ_lt r hr _ _ (fun j _ => el_fin c Q j i fQ) (fun j _ => el_fin c Q j k fQ)) ?_
  by_cases h : i = k
  · rw [if_pos h]
    exact pow_ltV (j := 2148) (V := 4199) (by decide)
  · rw [if_neg h]
    exact Nat.two_pow_pos 4199

end Go.Proofs.YtfnnbkclnflpfaaGreatDoor

