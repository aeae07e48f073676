/- Part 30 of the texts. -/
import Derived.Test.YtceofkjefmilfaaGreatDoorParta29
import Derived.Test.YtceofkjefmilfaaGreatDoorParta28
import Derived.Test.YtceofkjefmilfaaGreatDoorParta01
/- The reference's Near and Squares, at a level. -/
namespace Go.Proofs.YtceofkjefmilfaaGreatDoor
open Go.RowKit
attribute [local go_sem ↓] Go.wp_at_zero Go.wp_at_succ
theorem Lvl.at {lo lo' : Int} {W : Nat} {z : Int} (h : Lvl lo W z) (h1 : -16384 ≤ lo') (h2 : lo' + W ≤ 16384) : Lvl lo' W z := ⟨h.1, h1, h2, h.2.2.2⟩

end Go.Proofs.YtceofkjefmilfaaGreatDoor

/- Rows of exact numbers that a call itself makes by appending: no limb lies in such a row. -/
namespace Go.Proofs.YtceofkjefmilfaaGreatDoor
open Go.RowKit

/-- Is a cell no limb? -/
def noLimb : Value → Bool
  | .int .u32 _ => false
  | _ => true

/-- The block that v lies in holds no limb. -/
def Clear (w : World) (v : Value) : Prop := ∀ g, v.ownBlock = some g → ∃ cur e, w.heap[g]? = some (.cells cur e (0, 0)) ∧ ∀ u ∈ cur.toList, noLimb u = true

theorem Clear.below {w w' : World} {v : Value} (h : Clear w v) (hb : Below w.heap.size w w') : Clear w' v := by
  intro g hg
  obtain ⟨cur, e, h1, h2⟩ := h g hg
  exact ⟨cur, e, (hb.block g (Array.getElem?_eq_some_iff.1 h1).1).trans h1, h2⟩

theorem Clear.alloc {w : World} {v : Value} (h : Clear w v) (o : Obj) : Clear (w.alloc o) v := h.below ((Below.refl _ _).alloc (Nat.le_refl _) o)

theorem Clear.nil (w : World) (n c : Nat) : Clear w (.slice none n c) := fun g hg => by cases hg

/-- Limbs lie elsewhere. -/
theorem Clear.limbs {w : World} {v : Value} (h : Clear w v) {ao : Option Addr} {cap : Nat} {L : List Nat} (hL : LimbsAt w ao cap L) : L = [] ∨ ∃ b off, ao = some ⟨b, off, none⟩ ∧ b < w.heap.size ∧ some b ≠ v.ownBlock ∧ ∀ i, i < L.length → w.cell? ⟨b, off + i, none⟩ = some (.int .u32 ((L[i]?.getD 0 : Nat) : Int)) := by
  rcases hL.2.2 with e | ⟨b, off, h1, h2, h3⟩
  · exact .inl e
  · by_cases he : L = []
    · exact .inl he
    · refine .inr ⟨b, off, h1, h2, fun hb => ?_, h3⟩
      obtain ⟨cur, e, g1, g2⟩ := h b hb.symm
      have hp : 0 < L.length := List.length_pos_iff.2 he
      have h4 := h3 0 hp
      rw [cell_of_row w b (off + 0) _ _ _ g1] at h4
      have hm := Array.mem_of_getElem? h4
      have := g2 _ (Array.mem_toList_iff.2 hm)
      cases this

end Go.Proofs.YtceofkjefmilfaaGreatDoor

/- Determinants by the first row, over whole numbers: rows are functions of the column, columns a list. No program. -/
namespace Go.Proofs.YtceofkjefmilfaaGreatDoor

/-- The sum over the places of cs, the sign turning: r there, times D of the rest. -/
def exD (r : Nat → Int) : List Nat → (List Nat → Int) → Int
  | [], _ => 0
  | c :: cs, D => r c * D cs - exD r cs (fun l => D (c :: l))

def detD : List (Nat → Int) → List Nat → Int
  | [], _ => 1
  | r :: rs, cs => exD r cs (detD rs)

theorem exD_lin (r : Nat → Int) (p q : Int) : ∀ (cs : List Nat) (D E : List Nat → Int), exD r cs (fun l => p * D l + q * E l) = p * exD r cs D + q * exD r cs E
  | [], _, _ => by simp [exD]
  | c :: cs, D, E => by
    unfold exD
    rw [exD_lin r p q cs (fun l => D (c :: l)) (fun l => E (c :: l))]
    grind

theorem exD_smul (r : Nat → Int) (p : Int) (cs : List Nat) (D : List Nat → Int) : exD r cs (fun l => p * D l) = p * exD r cs D := by
  have := exD_lin r p 0 cs D D
  simpa using this

/-- Two rows that follow one another change places: the sign turns. -/
theorem exD_swap (r s : Nat → Int) : ∀ (cs : List Nat) (D : List Nat → Int), exD r cs (fun l => exD s l D) = - exD s cs (fun l => exD r l D)
  | [], _ => by simp [exD]
  | c :: cs, D => by
    have step : ∀ r s : Nat → Int, exD r (c :: cs) (fun l => exD s l D) = r c * exD s cs D - s c * exD r cs D + exD r cs (fun l => exD s l (fun m => D (c :: m))) := by
      intro r s
      have e : exD r cs (fun l => exD s (c :: l) D) = s c * exD r cs D + -1 * exD r cs (fun l => exD s l (fun m => D (c :: m))) := by
        rw [← exD_lin]
        congr 1
        funext l
        show s c * D l - exD s l (fun m => D (c :: m)) = _
        omega
      show r c * exD s cs D - exD r cs (fun l => exD s (c :: l) D) = _
      rw [e]
      omega
    rw [step r s, step s r, exD_swap r s cs (fun m => D (c :: m))]
    omega

theorem detD_swap (r s : Nat → Int) (rs : List (Nat → Int)) (cs : List Nat) : detD (r :: s :: rs) cs = - detD (s :: r :: rs) cs := by
  show exD r cs (fun l => exD s l (detD rs)) = - exD s cs (fun l => exD r l (detD rs))
  exact exD_swap r s cs (detD rs)

theorem detD_same (r : Nat → Int) (rs : List (Nat → Int)) (cs : List Nat) : detD (r :: r :: rs) cs = 0 := by
  have := detD_swap r r rs cs
  omega

/-- What holds behind a beginning holds with it: a factor. -/
theorem detD_pre (p : Int) (rs ss : List (Nat → Int)) (h : ∀ cs, detD rs cs = p * detD ss cs) : ∀ (pre : List (Nat → Int)) (cs : List Nat), detD (pre ++ rs) cs = p * detD (pre ++ ss) cs
  | [], cs => h cs
  | r :: pre, cs => by
    show exD r cs (detD (pre ++ rs)) = p * exD r cs (detD (pre ++ ss))
    rw [← exD_smul]
    congr 1
    funext l
    exact detD_pre p rs ss h pre l

/-- The other order of rows: the same but for the sign. -/
theorem detD_perm {rs ss : List (Nat → Int)} (h : rs.Perm ss) : ∃ p : Int, (p = 1 ∨ p = -1) ∧ ∀ cs, detD rs cs = p * detD ss cs := by
  induction h with
  | nil => exact ⟨1, .inl rfl, fun cs => by simp⟩
  | cons r _ ih =>
    obtain ⟨p, hp, h⟩ := ih
    exact ⟨p, hp, fun cs => detD_pre p _ _ h [r] cs⟩
  | swap r s l => exact ⟨-1, .inr rfl, fun cs => by rw [detD_swap s r l cs]; omega⟩
  | trans _ _ ih1 ih2 =>
    obtain ⟨p, hp, h⟩ := ih1
    obtain ⟨q, hq, g⟩ := ih2
    refine ⟨p * q, ?_, fun cs => by rw [h cs, g cs, Int.mul_assoc]⟩
    rcases hp with rfl | rfl <;> rcases hq with rfl | rfl <;> simp

/-- A row that stands twice: 0. -/
theorem detD_twice (r : Nat → Int) (rs : List (Nat → Int)) (pre mid : List (Nat → Int)) (cs : List Nat) : detD (pre ++ r :: (mid ++ r :: rs)) cs = 0 := by
  have hp : (pre ++ r :: (mid ++ r :: rs)).Perm (r :: r :: (pre ++ (mid ++ rs))) := by
    have h1 : (mid ++ r :: rs).Perm (r :: (mid ++ rs)) := List.perm_middle
    have h2 : (pre ++ r :: (mid ++ r :: rs)).Perm (r :: (pre ++ (mid ++ r :: rs))) := List.perm_middle
    refine h2.trans (List.Perm.cons r ?_)
    refine (List.Perm.append_left pre h1).trans ?_
    exact List.perm_middle
  obtain ⟨p, _, h⟩ := detD_perm hp
  rw [h cs, detD_same]
  simp

end Go.Proofs.YtceofkjefmilfaaGreatDoor

/- Minors and the rank, over whole numbers. No program. -/
namespace Go.Proofs.YtceofkjefmilfaaGreatDoor

/-- Places that rise, all below m. -/
def Rise (m : Nat) (I : List Nat) : Prop := I.Pairwise (· < ·) ∧ ∀ i ∈ I, i < m

/-- The minor of the rows I and the columns C. -/
def minorD (a : Nat → Nat → Int) (I C : List Nat) : Int := detD (I.map a) C

/-- All minors of k rows and columns are 0. -/
def Van (k : Nat) (a : Nat → Nat → Int) (m n : Nat) : Prop := ∀ I C, Rise m I → Rise n C → I.length = k → C.length = k → minorD a I C = 0

theorem dup_split : ∀ (I : List Nat), ¬ I.Nodup → ∃ pre i mid post, I = pre ++ i :: (mid ++ i :: post)
  | [], h => absurd List.nodup_nil h
  | i :: I, h => by
    by_cases hi : i ∈ I
    · obtain ⟨s, t, rfl⟩ := List.append_of_mem hi
      exact ⟨[], i, s, t, rfl⟩
    · have : ¬ I.Nodup := fun hn => h (List.nodup_cons.2 ⟨hi, hn⟩)
      obtain ⟨pre, j, mid, post, e⟩ := dup_split I this
      exact ⟨i :: pre, j, mid, post, by rw [e]; rfl⟩

/-- All minors vanish, the rows in whatever order, also if some stand twice. -/
theorem Van.all {k : Nat} {a : Nat → Nat → Int} {m n : Nat} (h : Van k a m n) (I C : List Nat) (hI : ∀ i ∈ I, i < m) (hC : Rise n C) (lI : I.length = k) (lC : C.length = k) : minorD a I C = 0 := by
  by_cases hn : I.Nodup
  · have hp : (I.mergeSort (fun x y => decide (x ≤ y))).Perm I := List.mergeSort_perm I _
    have hs : (I.mergeSort (fun x y => decide (x ≤ y))).Pairwise (fun x y => decide (x ≤ y) = true) := List.pairwise_mergeSort (fun x y z h1 h2 => by simp at *; omega) (fun x y => by simp; omega) I
    have hn' : (I.mergeSort (fun x y => decide (x ≤ y))).Nodup := hp.nodup_iff.2 hn
    have hr : Rise m (I.mergeSort (fun x y => decide (x ≤ y))) := by
      refine ⟨?_, fun i hi => hI i (hp.mem_iff.1 hi)⟩
      have h2 := List.Pairwise.and hs hn'
      exact h2.imp (fun h => by simp at h; omega)
    obtain ⟨p, _, hd⟩ := detD_perm (hp.map a)
    have h0 := h _ C hr hC (by rw [hp.length_eq]; exact lI) lC
    unfold minorD at h0 ⊢
    have h1 := hd C
    rw [h0] at h1
    rcases (show p = 1 ∨ p = -1 by assumption) with rfl | rfl <;> omega
  · obtain ⟨pre, i, mid, post, rfl⟩ := dup_split I hn
    unfold minorD
    simp only [List.map_append, List.map_cons]
    exact detD_twice (a i) (post.map a) (pre.map a) (mid.map a) C

end Go.Proofs.YtceofkjefmilfaaGreatDoor

/- Sums of whole numbers: put in order by rows or by columns, none of them below 0, bounded; what stage 11 tells, in units of powers of two; rows scaled keep the rank; no program. Ahead of stage 11. -/
namespace Go.Proofs.YtceofkjefmilfaaGreatDoor
open Go.RowKit
theorem Lvl.less {lo : Int} {W : Nat} {z1 z2 : Int} (h1 : Lvl lo W z1) (h2 : Lvl lo W z2) (hW : lo + W + 1 ≤ 16384) (hW2 : W + 1 ≤ 16384) : Lvl lo (W + 1) (z1 - z2) := by
  refine ⟨?_, h1.2.1, by have := h1.2.2; omega, hW2⟩
  have a := h1.1
  have b := h2.1
  rw [Nat.pow_succ]
  omega

end Go.Proofs.YtceofkjefmilfaaGreatDoor

