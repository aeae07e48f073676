/- Part 32 of the texts. -/
import Derived.Test.YtfnnbkclnflpfaaGreatDoorPartS23
import Derived.Test.YtfnnbkclnflpfaaGreatDoorPartS31
import Derived.Test.YtfnnbkclnflpfaaGreatDoorPartS30
import Derived.Test.YtfnnbkclnflpfaaGreatDoorPartS27
/- A row that is a sum of others; determinants and full ranks; how great a determinant can be. No program. -/
namespace Go.Proofs.YtfnnbkclnflpfaaGreatDoor
theorem rise_le {n : Nat} : ∀ (I : List Nat) (b : Nat), I.Pairwise (· < ·) → (∀ i ∈ I, b ≤ i ∧ i < n) → b + I.length ≤ n ∨ I = []
  | [], _, _, _ => .inr rfl
  | [i], b, _, h => .inl (by have := h i (by simp); simp; omega)
  | i :: j :: I, b, hp, h => by
    have hp2 := List.pairwise_cons.1 hp
    have hi := h i (by simp)
    rcases rise_le (n := n) (j :: I) (b + 1) hp2.2 (fun t ht => by have := hp2.1 t ht; have := h t (by simp [ht]); omega) with e | e
    · left; simp at e ⊢; omega
    · simp at e

theorem van_over {k m n : Nat} {a : Nat → Nat → Int} (h : m < k ∨ n < k) : Van k a m n := by
  intro I C hI hC lI lC
  exfalso
  have h1 := rise_le (n := m) I 0 hI.1 (fun i hi => ⟨Nat.zero_le _, hI.2 i hi⟩)
  have h2 := rise_le (n := n) C 0 hC.1 (fun i hi => ⟨Nat.zero_le _, hC.2 i hi⟩)
  rcases h with h | h
  · rcases h1 with e | e
    · omega
    · subst e; simp at lI; omega
  · rcases h2 with e | e
    · omega
    · subst e; simp at lC; omega

/-- How great a sum by the first row can be. -/
theorem exD_bound (r : Nat → Int) (B M : Nat) : ∀ (cs : List Nat) (D : List Nat → Int), (∀ c ∈ cs, (r c).natAbs ≤ B) → (∀ l, l.Sublist cs → l.length + 1 = cs.length → (D l).natAbs ≤ M) → (exD r cs D).natAbs ≤ cs.length * (B * M)
  | [], _, _, _ => by simp [exD]
  | c :: cs, D, h, hD => by
    have h1 := exD_bound r B M cs (fun l => D (c :: l)) (fun d hd => h d (by simp [hd])) (fun l hl hlen => hD (c :: l) (hl.cons_cons c) (by simp; omega))
    have h2 : (r c * D cs).natAbs ≤ B * M := by
      rw [Int.natAbs_mul]
      exact Nat.mul_le_mul (h c (by simp)) (hD cs (List.sublist_cons_self c cs) rfl)
    show (r c * D cs - exD r cs (fun l => D (c :: l))).natAbs ≤ _
    have h3 := Int.natAbs_sub_le (r c * D cs) (exD r cs (fun l => D (c :: l)))
    rw [List.length_cons, Nat.add_mul]
    omega

def factN : Nat → Nat
  | 0 => 1
  | n + 1 => (n + 1) * factN n

theorem detD_bound (B : Nat) : ∀ (rs : List (Nat → Int)) (cs : List Nat), rs.length = cs.length → (∀ r ∈ rs, ∀ c ∈ cs, (r c).natAbs ≤ B) → (detD rs cs).natAbs ≤ factN rs.length * B ^ rs.length
  | [], _, _, _ => by simp [detD, factN]
  | r :: rs, cs, hl, h => by
    have := exD_bound r B (factN rs.length * B ^ rs.length) cs (detD rs) (h r (by simp)) (fun l hs hlen => detD_bound B rs l (by simp at hl; omega) (fun s hs' c hc => h s (by simp [hs']) c (hs.subset hc)))
    refine Nat.le_trans this ?_
    rw [← hl, List.length_cons, Nat.pow_succ, show factN (rs.length + 1) = (rs.length + 1) * factN rs.length from rfl]
    generalize factN rs.length = f
    generalize B ^ rs.length = p
    have e : (rs.length + 1) * (B * (f * p)) = (rs.length + 1) * f * (p * B) := by
      simp only [Nat.mul_assoc, Nat.mul_left_comm, Nat.mul_comm]
    rw [e]
    exact Nat.le_refl _

end Go.Proofs.YtfnnbkclnflpfaaGreatDoor

/- Sets of columns and minors: what expand adds up is the minor by its last row. -/
namespace Go.Proofs.YtfnnbkclnflpfaaGreatDoor

theorem exD_snoc (r : Nat → Int) (k : Nat) : ∀ (pre : List Nat) (F : List Nat → Int), exD r (pre ++ [k]) F = exD r pre (fun l => F (l ++ [k])) + (-1) ^ pre.length * (r k * F pre)
  | [], F => by simp [exD]
  | c :: cs, F => by
    show r c * F (cs ++ [k]) - exD r (cs ++ [k]) (fun l => F (c :: l)) = r c * F (cs ++ [k]) - exD r cs (fun l => F (c :: (l ++ [k]))) + (-1) ^ (cs.length + 1) * (r k * F (c :: cs))
    rw [exD_snoc r k cs (fun l => F (c :: l)), Int.pow_succ]
    grind

def preS (s k : Nat) : List Nat := (elems s).filter (fun c => decide (c < k))
def postS (s k : Nat) : List Nat := (elems s).filter (fun c => decide (k ≤ c))

theorem set_step1 : ∀ s, s < 64 → ∀ k, k < 6 → s.testBit k = true → preS s (k + 1) = preS s k ++ [k] ∧ postS s k = k :: postS s (k + 1) ∧ elems (del s k) = preS s k ++ postS s (k + 1) := by decide +kernel
theorem set_step2 : ∀ s, s < 64 → ∀ k, k < 6 → s.testBit k = true → abv s k = (postS s (k + 1)).length ∧ del s k < 64 ∧ sz (del s k) + 1 = sz s := by decide +kernel
theorem set_step (s : Nat) (hs : s < 64) (k : Nat) (hk : k < 6) (hb : s.testBit k = true) : preS s (k + 1) = preS s k ++ [k] ∧ postS s k = k :: postS s (k + 1) ∧ elems (del s k) = preS s k ++ postS s (k + 1) ∧ abv s k = (postS s (k + 1)).length ∧ del s k < 64 ∧ sz (del s k) + 1 = sz s :=
  ⟨(set_step1 s hs k hk hb).1, (set_step1 s hs k hk hb).2.1, (set_step1 s hs k hk hb).2.2, set_step2 s hs k hk hb⟩
theorem set_stay : ∀ s, s < 64 → ∀ k, k < 6 → s.testBit k = false → preS s (k + 1) = preS s k ∧ postS s k = postS s (k + 1) := by decide +kernel
theorem set_ends : ∀ s, s < 64 → preS s 0 = [] ∧ postS s 0 = elems s ∧ sz s ≤ 6 ∧ (0 < s → 0 < sz s) := by decide +kernel
theorem set_width : ∀ n, n ≤ 6 → ∀ s, s < 2 ^ n → sz s ≤ n ∧ preS s n = elems s ∧ postS s n = [] ∧ ∀ c ∈ elems s, c < n := by decide +kernel
theorem set_full : ∀ n, n ≤ 6 → elems (2 ^ n - 1) = List.range n ∧ 2 ^ n ≤ 64 := by decide +kernel
theorem del_lt : ∀ s, s < 64 → ∀ k, k < 6 → s.testBit k = true → del s k < s := by decide +kernel

theorem parity (m : Nat) : ((-1 : Int) ^ m = 1 ∧ m % 2 = 0) ∨ ((-1 : Int) ^ m = -1 ∧ m % 2 = 1) := by
  induction m with
  | zero => simp
  | succ m ih =>
    rw [Int.pow_succ]
    rcases ih with ⟨h1, h2⟩ | ⟨h1, h2⟩
    · right; rw [h1]; constructor
      · rfl
      · omega
    · left; rw [h1]; constructor
      · rfl
      · omega

theorem exS_part (r : Nat → Int) (F : List Nat → Int) (s : Nat) (hs : s < 64) : ∀ k, k ≤ 6 → exS r s (fun t => F (elems t)) k = (-1) ^ (postS s k).length * ((-1) ^ ((preS s k).length + 1) * exD r (preS s k) (fun l => F (l ++ postS s k))) := by
  intro k
  induction k with
  | zero => intro _; rw [(set_ends s hs).1]; simp [exS, exD]
  | succ k ih =>
    intro hk
    unfold exS
    rw [ih (by omega)]
    by_cases hb : s.testBit k = true
    · obtain ⟨h1, h2, h3, h4, _, _⟩ := set_step s hs k (by omega) hb
      rw [if_pos hb, h1, exD_snoc, h2, h3, h4, List.length_append, List.length_cons, Int.pow_succ, Int.pow_succ, Int.pow_succ]
      simp only [List.length_nil, List.length_cons, Nat.zero_add, List.append_assoc, List.cons_append, List.nil_append]
      rw [Int.pow_succ]
      generalize exD r (preS s k) (fun l => F (l ++ k :: postS s (k + 1))) = e
      generalize r k * F (preS s k ++ postS s (k + 1)) = f
      rcases parity (postS s (k + 1)).length with ⟨p1, p2⟩ | ⟨p1, p2⟩ <;> rcases parity (preS s k).length with ⟨q1, _⟩ | ⟨q1, _⟩ <;> rw [p1, q1, p2] <;> simp <;> omega
    · have hb' : s.testBit k = false := by simpa using hb
      obtain ⟨h1, h2⟩ := set_stay s hs k (by omega) hb'
      rw [if_neg hb, h1, h2, Int.add_zero]

/-- What a minor by its last row is. -/
theorem exS_det (r : Nat → Int) (rs : List (Nat → Int)) (s n : Nat) (hn : n ≤ 6) (hs : s < 2 ^ n) (hl : rs.length + 1 = sz s) : exS r s (fun t => detD rs (elems t)) n = detD (rs ++ [r]) (elems s) := by
  have h64 : s < 64 := Nat.lt_of_lt_of_le hs (set_full n hn).2
  obtain ⟨_, h2, h3, _⟩ := set_width n hn s hs
  rw [exS_part r (detD rs) s h64 n hn, h2, h3, detD_last, detD_cons]
  have e : (elems s).length = rs.length + 1 := hl.symm
  rw [e, Int.pow_succ, Int.pow_succ]
  simp

/-- The bound of numbers of 80 limbs; of minors of these. -/
def N80 : Nat := 80
def B80 : Nat := 4294967296 ^ N80
def NB (k : Nat) : Nat := factN k * B80 ^ k
theorem NB_small (k : Nat) (hk : k ≤ 5) : 6 * (B80 * NB k) < TOP ∧ B80 < TOP ∧ NB k < TOP ∧ 1 < TOP := by
  have hB : 1 ≤ B80 := Nat.pow_pos (by decide)
  have hf : factN k ≤ 120 := by
    match k, hk with
    | 0, _ => decide
    | 1, _ => decide
    | 2, _ => decide
    | 3, _ => decide
    | 4, _ => decide
    | 5, _ => decide
  have hp : B80 ^ (k + 1) ≤ B80 ^ 6 := Nat.pow_le_pow_right hB (by omega)
  have hT : 720 * B80 ^ 6 < TOP := by
    obtain ⟨q, hq⟩ : ∃ q, q = N80 * 6 := ⟨_, rfl⟩
    have h1 : B80 ^ 6 = 4294967296 ^ q := by unfold B80; rw [← Nat.pow_mul, hq]
    have hq' : q + 1 ≤ TOPN := by rw [hq]; decide
    have h2 : (4294967296 : Nat) ^ (q + 1) ≤ TOP := Nat.pow_le_pow_right (by decide) hq'
    rw [Nat.pow_succ, ← h1] at h2
    clear h1 hq hq'
    have h3 : 0 < B80 ^ 6 := Nat.pow_pos hB
    generalize B80 ^ 6 = x at *
    omega
  have h0 : B80 ^ 1 ≤ B80 ^ 6 := Nat.pow_le_pow_right hB (by omega)
  rw [Nat.pow_one] at h0
  have h1 : B80 * NB k ≤ 120 * B80 ^ 6 := by
    unfold NB
    rw [show B80 * (factN k * B80 ^ k) = factN k * B80 ^ (k + 1) by rw [Nat.pow_succ, Nat.mul_comm (B80 ^ k) B80, ← Nat.mul_assoc, ← Nat.mul_assoc, Nat.mul_comm B80 (factN k)]]
    exact Nat.mul_le_mul hf hp
  have h2 : NB k ≤ B80 * NB k := Nat.le_mul_of_pos_left _ hB
  generalize B80 ^ 6 = x at *
  generalize B80 * NB k = y at *
  refine ⟨by omega, by omega, by omega, by omega⟩

end Go.Proofs.YtfnnbkclnflpfaaGreatDoor

/- Contract of exact's determinant. -/
namespace Go.Proofs.YtfnnbkclnflpfaaGreatDoor
open Go.RowKit
attribute [local go_sem ↓] Go.wp_at_zero Go.wp_at_succ

/-- A bool or a slice. -/
def isBS : Value → Bool
  | .bool _ => true
  | .slice _ _ _ => true
  | _ => false

/-- What rows say. -/
def valM (M : List Rw) (i j : Nat) : Int := sval (entry M i j).neg (entry M i j).L
/-- Rows that Check lets through. -/
def GoodM (M : List Rw) (n : Nat) : Prop := M.length ≤ 6 ∧ n ≤ 6 ∧ (∀ i, i < M.length → (rwAt M i).R.length = n) ∧ (∀ i j, i < M.length → j < n → rightN (entry M i j) = true ∧ (valM M i j).natAbs ≤ B80)

end Go.Proofs.YtfnnbkclnflpfaaGreatDoor

/- A row of numbers in a block of the call's own, number by number overwritten (for ExactSums). -/
namespace Go.Proofs.YtfnnbkclnflpfaaGreatDoor
open Go.RowKit

theorem numCells_set : ∀ (S : List Nm) (k : Nat) (x : Nm), numCells (S.set k x) = ((numCells S).set (k * 2) (.bool x.neg)).set (k * 2 + 1) (.slice x.ao x.L.length x.cap)
  | [], k, x => by simp [numCells]
  | y :: S, 0, x => rfl
  | y :: S, k + 1, x => by
    have ih := numCells_set S k x
    have e : ∀ z T, numCells (z :: T) = .bool z.neg :: .slice z.ao z.L.length z.cap :: numCells T := fun _ _ => rfl
    rw [List.set_cons_succ, e, e, ih, show (k + 1) * 2 = k * 2 + 1 + 1 by omega]
    rfl

theorem numCells_isBS (S : List Nm) : ∀ (j : Nat) (v : Value), (numCells S)[j]? = some v → isBS v = true := by
  intro j v h
  have hm := List.mem_of_getElem? h
  unfold numCells at hm
  obtain ⟨x, _, hx⟩ := List.mem_flatMap.1 hm
  simp at hx
  rcases hx with rfl | rfl <;> rfl

/-- Block g holds just the numbers S. -/
def SumAt (w : World) (g : Nat) (S : List Nm) : Prop := w.heap[g]? = some (.cells (numCells S).toArray 27 (0, 0))

theorem SumAt.free {w : World} {g : Nat} {S : List Nm} (h : SumAt w g S) (j : Nat) : w.frozen? ⟨g, j, none⟩ = false := frozen_of_row w g j _ _ h
theorem SumAt.lt {w : World} {g : Nat} {S : List Nm} (h : SumAt w g S) : g < w.heap.size := (Array.getElem?_eq_some_iff.1 h).1
theorem SumAt.below {w w' : World} {g B : Nat} {S : List Nm} (h : SumAt w g S) (hb : Below B w w') (hg : g < B) : SumAt w' g S := (hb.block g hg).trans h
theorem SumAt.cells {w : World} {g : Nat} {S : List Nm} (h : SumAt w g S) {k : Nat} (hk : k < S.length) :
    w.cell? ⟨g, k * 2, none⟩ = some (.bool (nmAt S k).neg) ∧ w.cell? ⟨g, k * 2 + 1, none⟩ = some (.slice (nmAt S k).ao (nmAt S k).L.length (nmAt S k).cap) := by
  rw [cell_of_row w g _ _ _ _ h, cell_of_row w g _ _ _ _ h]
  simpa using numCells_get S k hk
theorem SumAt.set {w : World} {g : Nat} {S : List Nm} (h : SumAt w g S) (k : Nat) (x : Nm) : SumAt ((w.setCell ⟨g, k * 2, none⟩ (.bool x.neg)).setCell ⟨g, k * 2 + 1, none⟩ (.slice x.ao x.L.length x.cap)) g (S.set k x) := by
  unfold SumAt
  rw [heap_setCell_same _ g _ _ _ _ (heap_setCell_same w g _ _ _ _ h), numCells_set]
  simp
/-- Numbers stay: their limbs are no bools and no slices. -/
theorem LimbsAt.sum {w : World} {ao : Option Addr} {cap g : Nat} {L : List Nat} {S : List Nm} (h : LimbsAt w ao cap L) (ha : SumAt w g S) (i j : Nat) (u u' : Value) : LimbsAt ((w.setCell ⟨g, i, none⟩ u).setCell ⟨g, j, none⟩ u') ao cap L := by
  refine ⟨h.1, h.2.1, ?_⟩
  rcases h.2.2 with h0 | ⟨c, off, h1, h2, h3⟩
  · exact .inl h0
  · by_cases hL : L = []
    · exact .inl hL
    have hc : c ≠ g := by
      rintro rfl
      have h4 := h3 0 (List.length_pos_iff.2 hL)
      rw [cell_of_row w c _ _ _ _ ha] at h4
      have := numCells_isBS S (off + 0) _ (by simpa using h4)
      simp [isBS] at this
    refine .inr ⟨c, off, h1, by simpa [World.setCell] using h2, fun i' hi' => ?_⟩
    rw [cell_setCell_other _ _ _ _ (show c ≠ g from hc), cell_setCell_other _ _ _ _ (show c ≠ g from hc)]
    exact h3 i' hi'

/-- The number x, as it lies there, is z. -/
def IsNm (w : World) (x : Nm) (z : Int) : Prop := LimbsAt w x.ao x.cap x.L ∧ Canon x.L ∧ x.neg = decide (z < 0) ∧ val x.L = z.natAbs ∧ x.L.length ≤ 35184372088832
theorem IsNm.num {w : World} {x : Nm} {z : Int} (h : IsNm w x z) : IsNum 0 w x.v z := by
  refine ⟨x.neg, x.ao, x.cap, x.L, rfl, h.1, ?_, h.2.1, h.2.2.1, h.2.2.2.1, h.2.2.2.2⟩
  rcases h.1.2.2 with e | ⟨b, off, e, _⟩
  · exact .inl e
  · exact .inr ⟨b, off, e, Nat.zero_le _⟩
theorem IsNum.nm {B : Nat} {w : World} {v : Value} {z : Int} (h : IsNum B w v z) : ∃ x : Nm, v = .agg #[.bool x.neg, .slice x.ao x.L.length x.cap] ∧ IsNm w x z := by
  obtain ⟨neg, ao, cap, L, rfl, h2, _, h4, h5, h6, h7⟩ := h
  exact ⟨⟨neg, ao, cap, L⟩, rfl, h2, h4, h5, h6, h7⟩
theorem IsNm.below {w w' : World} {x : Nm} {z : Int} (h : IsNm w x z) (hb : Below w.heap.size w w') : IsNm w' x z := ⟨h.1.below hb, h.2⟩
theorem IsNm.sum {w : World} {x : Nm} {z : Int} {g : Nat} {S : List Nm} (h : IsNm w x z) (ha : SumAt w g S) (i j : Nat) (u u' : Value) : IsNm ((w.setCell ⟨g, i, none⟩ u).setCell ⟨g, j, none⟩ u') x z := ⟨h.1.sum ha i j u u', h.2⟩

/-- The numbers there are f's. -/
def SumI (w w' : World) (g n : Nat) (f : Nat → Int) (S : List Nm) : Prop :=
  S.length = n ∧ SumAt w' g S ∧ (∀ k, k < n → IsNm w' (nmAt S k) (f k)) ∧ w.heap.size ≤ g ∧ Below w.heap.size w w'
theorem SumI.below {w w' w2 : World} {g n : Nat} {f : Nat → Int} {S : List Nm} (h : SumI w w' g n f S) (hb : Below w'.heap.size w' w2) : SumI w w2 g n f S :=
  ⟨h.1, h.2.1.below hb h.2.1.lt, fun k hk => (h.2.2.1 k hk).below hb, h.2.2.2.1, h.2.2.2.2.trans (hb.mono h.2.2.2.2.size)⟩
theorem SumI.set {w w' : World} {g n : Nat} {f : Nat → Int} {S : List Nm} (h : SumI w w' g n f S) {k : Nat} (x : Nm) {z : Int} (hx : IsNm w' x z) :
    SumI w ((w'.setCell ⟨g, k * 2, none⟩ (.bool x.neg)).setCell ⟨g, k * 2 + 1, none⟩ (.slice x.ao x.L.length x.cap)) g n (fun q => if q = k then z else f q) (S.set k x) := by
  obtain ⟨h1, h2, h3, h4, h5⟩ := h
  refine ⟨by simpa using h1, h2.set k x, fun q hq => ?_, h4, (h5.setCell (p := ⟨g, k * 2, none⟩) h4 _).setCell (p := ⟨g, k * 2 + 1, none⟩) h4 _⟩
  show IsNm _ _ (if q = k then z else f q)
  by_cases e : q = k
  · subst e
    have e2 : nmAt (S.set q x) q = x := by unfold nmAt; rw [List.getElem?_set_self (by omega)]; rfl
    rw [if_pos rfl, e2]
    exact hx.sum h2 _ _ _ _
  · have e2 : nmAt (S.set k x) q = nmAt S q := by unfold nmAt; rw [List.getElem?_set_ne (fun h => e h.symm)]
    rw [if_neg e, e2]
    exact (h3 q hq).sum h2 _ _ _ _

/-- Out of the law on 'make'. -/
theorem SumAt.made {w : World} {base g n : Nat} (h : w.ownsRow base 27 2 (.slice (some ⟨g, 0, none⟩) n n) n (madeCells (Value.agg #[.bool false, .slice none 0 0]).cells (n * 2)).toList) : SumAt w g (List.replicate n Nm.nil) := by
  rcases h.2 with ⟨h', _⟩ | ⟨g', cap', cur, h', _, hg, _, _, hs, htake⟩
  · simp at h'
  · simp only [Value.slice.injEq, Option.some.injEq, Addr.mk.injEq, and_true, true_and] at h'
    obtain ⟨rfl, rfl⟩ := h'
    unfold SumAt
    rw [hg]
    rw [List.take_of_length_le (by simp [hs])] at htake
    have : cur = (numCells (List.replicate n Nm.nil)).toArray := by
      apply Array.toList_inj.1
      rw [htake]
      have hl : (numCells (List.replicate n Nm.nil)).length = n * 2 := by rw [length_numCells]; simp
      refine List.ext_getElem? fun i => ?_
      rcases Nat.lt_or_ge i (n * 2) with hi | hi
      · have hk : i / 2 < (List.replicate n Nm.nil).length := by simp; omega
        obtain ⟨q1, q2⟩ := numCells_get (List.replicate n Nm.nil) (i / 2) hk
        have e : nmAt (List.replicate n Nm.nil) (i / 2) = Nm.nil := by unfold nmAt; rw [List.getElem?_replicate]; split <;> rfl
        rw [e] at q1 q2
        rcases Nat.mod_two_eq_zero_or_one i with hm | hm
        · rw [show i / 2 * 2 = i by omega] at q1
          show _ = (numCells (List.replicate n Nm.nil))[i]?
          rw [q1]
          simp [madeCells, Value.cells, hm, hi, Nm.nil]
        · rw [show i / 2 * 2 + 1 = i by omega] at q2
          show _ = (numCells (List.replicate n Nm.nil))[i]?
          rw [q2]
          simp [madeCells, Value.cells, hm, hi, Nm.nil]
      · rw [List.getElem?_eq_none (by simpa [madeCells] using hi), List.getElem?_eq_none (by simpa [hl] using hi)]
    rw [this]
theorem SumI.made {w w' : World} {g n : Nat} (h : SumAt w' g (List.replicate n Nm.nil)) (hg : w.heap.size ≤ g) (hb : Below w.heap.size w w') : SumI w w' g n (fun _ => 0) (List.replicate n Nm.nil) := by
  refine ⟨by simp, h, fun k hk => ?_, hg, hb⟩
  have e : nmAt (List.replicate n Nm.nil) k = Nm.nil := by unfold nmAt; rw [List.getElem?_replicate]; split <;> rfl
  rw [e]
  exact ⟨⟨by simp [Nm.nil], by simp [Nm.nil], .inl rfl⟩, by simp [Nm.nil, Canon], by simp [Nm.nil], by simp [Nm.nil, val], by simp [Nm.nil]⟩
/-- As a row. -/
theorem SumI.nums {w w' : World} {g n : Nat} {f : Nat → Int} {S : List Nm} (h : SumI w w' g n f S) : NumsAt w' (some ⟨g, 0, none⟩) n S := by
  refine ⟨by rw [h.1]; exact Nat.le_refl _, fun x hx => ?_, .inr ⟨g, 0, rfl, h.2.1.lt, fun k hk => ?_⟩⟩
  · obtain ⟨k, hk, rfl⟩ := List.getElem_of_mem hx
    have h2 := (h.2.2.1 k (by rw [← h.1]; exact hk)).1
    have e1 : nmAt S k = S[k] := by unfold nmAt; rw [List.getElem?_eq_getElem hk]; rfl
    rw [e1] at h2
    exact h2
  · rw [Nat.zero_add]; exact h.2.1.cells hk

end Go.Proofs.YtfnnbkclnflpfaaGreatDoor

/- Rows of whole numbers that a call itself makes; grids of them. -/
namespace Go.Proofs.YtfnnbkclnflpfaaGreatDoor
open Go.RowKit

/-- v is a row of the call's own, of the first n numbers of f. -/
def OwnW (base : Nat) (w : World) (v : Value) (n : Nat) (f : Nat → Int) : Prop :=
  ∃ R : List Nm, R.length = n ∧ w.ownsRow base 27 2 v n (numCells R) ∧ Clear w v ∧ ∀ k, k < n → IsNm w (nmAt R k) (f k)
theorem OwnW.nil (base : Nat) (w : World) (f : Nat → Int) : OwnW base w (.slice none 0 0) 0 f :=
  ⟨[], rfl, World.ownsRow_nil w base 27 2, Clear.nil w 0 0, fun k hk => by omega⟩
theorem OwnW.below {base : Nat} {w w' : World} {v : Value} {n : Nat} {f : Nat → Int} (h : OwnW base w v n f) (hb : Below w.heap.size w w') : OwnW base w' v n f := by
  obtain ⟨D, h1, h2, h3, h4⟩ := h
  exact ⟨D, h1, h2.kept (row := none) ⟨hb.os, hb.tape, hb.output, hb.size, fun k hk _ => hb.block k hk⟩ (by cases hv : v.ownBlock <;> simp), h3.below hb, fun k hk => (h4 k hk).below hb⟩
theorem OwnW.lt {base : Nat} {w : World} {v : Value} {n : Nat} {f : Nat → Int} (h : OwnW base w v n f) : ∀ k, v.ownBlock = some k → base ≤ k ∧ k < w.heap.size := by
  obtain ⟨D, h1, h2, h3, h4⟩ := h
  exact h2.lt
theorem OwnW.clear {base : Nat} {w : World} {v : Value} {n : Nat} {f : Nat → Int} (h : OwnW base w v n f) : Clear w v := by
  obtain ⟨D, h1, h2, h3, h4⟩ := h
  exact h3
theorem OwnW.congr {base : Nat} {w : World} {v : Value} {n : Nat} {f g : Nat → Int} (h : OwnW base w v n f) (he : ∀ k, k < n → f k = g k) : OwnW base w v n g := by
  obtain ⟨D, h1, h2, h3, h4⟩ := h
  exact ⟨D, h1, h2, h3, fun k hk => by rw [← he k hk]; exact h4 k hk⟩
theorem OwnW.slice {base : Nat} {w : World} {v : Value} {n : Nat} {f : Nat → Int} (h : OwnW base w v n f) : ∃ po pc, v = .slice po n pc := by
  obtain ⟨D, h1, h2, h3, h4⟩ := h
  rcases h2.2 with ⟨e1, e2⟩ | ⟨g, cap, cur, hv, _⟩
  · exact ⟨_, _, by rw [e1, e2]⟩
  · exact ⟨_, _, hv⟩
theorem Clr.nm {w : World} {g : Nat} (h : Clr w g) {x : Nm} {z : Int} (hx : IsNm w x z) (j : Nat) (u : Value) : IsNm (w.setCell ⟨g, j, none⟩ u) x z := ⟨h.limbs hx.1 j u, hx.2⟩
theorem IsNm.grownClear {w w' : World} {v : Value} {x : Nm} {z : Int} (hx : IsNm w x z) (h : Clear w v) (hg : w.grownBy w' v.ownBlock) : IsNm w' x z := ⟨hx.1.grownClear h hg, hx.2⟩
/-- A store into a block that is elder. -/
theorem OwnW.set {base : Nat} {w : World} {v : Value} {n : Nat} {f : Nat → Int} (h : OwnW base w v n f) {g : Nat} (hc : Clr w g) (hg : g < base) (j : Nat) (u : Value) : OwnW base (w.setCell ⟨g, j, none⟩ u) v n f := by
  obtain ⟨D, h1, h2, h3, h4⟩ := h
  have hne : ∀ k, v.ownBlock = some k → k ≠ g := fun k hk => by have := (h2.lt k hk).1; omega
  refine ⟨D, h1, ⟨h2.1, ?_⟩, ?_, fun k hk => hc.nm (h4 k hk) j u⟩
  · rcases h2.2 with e | ⟨k, cap, cur, hv, hk, hh, rest⟩
    · exact .inl e
    · exact .inr ⟨k, cap, cur, hv, hk, (Below.heap_setCell w ⟨g, j, none⟩ u k (hne k (by rw [hv]; rfl))).trans hh, rest⟩
  · intro k hk
    obtain ⟨cur, e, g1, g2⟩ := h3 k hk
    exact ⟨cur, e, (Below.heap_setCell w ⟨g, j, none⟩ u k (hne k hk)).trans g1, g2⟩
/-- Another row grows. -/
theorem OwnW.grownBy {base : Nat} {w w' : World} {v u : Value} {n : Nat} {f : Nat → Int} (h : OwnW base w v n f) (hc : Clear w u) (hg : w.grownBy w' u.ownBlock) (hne : ∀ g, v.ownBlock = some g → u.ownBlock ≠ some g) : OwnW base w' v n f := by
  obtain ⟨D, h1, h2, h3, h4⟩ := h
  refine ⟨D, h1, h2.kept (row := u.ownBlock) hg ?_, ?_, fun k hk => (h4 k hk).grownClear hc hg⟩
  · cases hv : v.ownBlock with
    | none => exact .inl rfl
    | some g => exact .inr (fun e => hne g hv e.symm)
  · intro g hg'
    obtain ⟨cur, e, g1, g2⟩ := h3 g hg'
    exact ⟨cur, e, (hg.block g (Array.getElem?_eq_some_iff.1 g1).1 (fun e => hne g hg' e.symm)).trans g1, g2⟩

set_option maxRecDepth 20000 in
theorem infoWh : (Tryz.prog.info? 27).map (fun i => (i.zero, i.size, i.bytes)) = some (some (.agg #[.bool false, .slice none 0 0]), 2, 32) := by kernel_rfl

/-- One number more. -/
theorem OwnW.push {base : Nat} {W : World} {v : Value} {n : Nat} {f : Nat → Int} (h : OwnW base W v n f) (B : Nat) (ng : Bool) (a : Option Addr) (l cp : Nat) (hx : IsNum 0 W (.agg #[.bool ng, .slice a l cp]) (f n)) (hc : W.heap[B]? = some (.cells #[.bool ng, .slice a l cp] 27 (0, 0))) (hn : n ≤ 1000000) (hb : base ≤ W.heap.size) (ty : TypeId) :
    ∃ po pc w', (Builtin.append_ #[87, 87] ty #[v, .slice (some ⟨B, 0, none⟩) 1 1]).run Tryz.prog W = .ok (.slice po (n + 1) pc) w' ∧ (OwnW base w' (.slice po (n + 1) pc) (n + 1) f ∧ W.grownBy w' v.ownBlock ∧ ((Value.slice po (n + 1) pc).ownBlock = v.ownBlock ∨ (Value.slice po (n + 1) pc).ownBlock = some W.heap.size)) := by
  obtain ⟨i0, hi, hz0, hz1, hz2⟩ := info_parts infoWh
  obtain ⟨D, h1, h2, h3, h4⟩ := h
  obtain ⟨x, ex, hx'⟩ := hx.nm
  simp only [Value.agg.injEq, Array.mk.injEq, List.cons.injEq, Value.bool.injEq, Value.slice.injEq, and_true] at ex
  obtain ⟨rfl, rfl, rfl, rfl⟩ := ex
  obtain ⟨v', w', e1, e2, e3, e4, e5⟩ := run_append_clear (P := Tryz.prog) W base 87 ty 27 i0 (.agg #[.bool false, .slice none 0 0]) 2 32 Tryz.underlying87 hi hz0 hz1 hz2 rfl (by decide) v n (numCells D) h2 ⟨B, 0, none⟩ 1 1 [.bool x.neg, .slice x.ao x.L.length x.cap] rfl
    (fun j u hu => by
      rw [show (⟨B, 0, none⟩ : Addr).add j = ⟨B, j, none⟩ by unfold Addr.add; split <;> simp_all, cell_of_row W B j _ _ _ hc]
      simpa using hu)
    (fun u hu => by simp at hu; rcases hu with rfl | rfl <;> rfl) (by unfold maxLen; omega) (by omega) hb (by omega) h3
    (fun u hu => by simp [Value.cells] at hu; rcases hu with rfl | rfl <;> rfl) (fun u hu => by simp at hu; rcases hu with rfl | rfl <;> rfl)
  have hv : ∃ po pc, v' = .slice po (n + 1) pc := by
    rcases e2.2 with ⟨_, e⟩ | ⟨g, cap, cur, hv, _⟩
    · omega
    · exact ⟨_, _, hv⟩
  obtain ⟨po, pc, rfl⟩ := hv
  refine ⟨po, pc, w', e1, ⟨D ++ [x], by simp [h1], by simpa [numCells] using e2, e5, fun k hk => ?_⟩, e3, e4⟩
  by_cases hk' : k < n
  · have : nmAt (D ++ [x]) k = nmAt D k := by unfold nmAt; rw [List.getElem?_append_left (by omega)]
    rw [this]
    exact (h4 k hk').grownClear h3 e3
  · obtain rfl : k = n := by omega
    have : nmAt (D ++ [x]) k = x := by unfold nmAt; rw [← h1, List.getElem?_append_right (Nat.le_refl _)]; simp
    rw [this]
    exact hx'.grownClear h3 e3

/-- n whole numbers lie at ao. -/
def WhsAt (w : World) (ao : Option Addr) (cap n : Nat) (f : Nat → Int) : Prop :=
  n ≤ cap ∧ (n = 0 ∨ ∃ b off, ao = some ⟨b, off, none⟩ ∧ b < w.heap.size ∧ ∀ k, k < n → ∃ ng a l cp, w.cell? ⟨b, off + k * 2, none⟩ = some (.bool ng) ∧ w.cell? ⟨b, off + k * 2 + 1, none⟩ = some (.slice a l cp) ∧ IsNum 0 w (.agg #[.bool ng, .slice a l cp]) (f k))
theorem WhsAt.below {w w' : World} {ao : Option Addr} {cap n : Nat} {f : Nat → Int} (h : WhsAt w ao cap n f) (hb : Below w.heap.size w w') : WhsAt w' ao cap n f := by
  refine ⟨h.1, ?_⟩
  rcases h.2 with e | ⟨b, off, h1, h2, h3⟩
  · exact .inl e
  · refine .inr ⟨b, off, h1, Nat.lt_of_lt_of_le h2 hb.size, fun k hk => ?_⟩
    obtain ⟨ng, a, l, cp, c0, c1, hx⟩ := h3 k hk
    refine ⟨ng, a, l, cp, ?_, ?_, hx.below hb⟩
    · rw [hb.cell (p := ⟨b, off + k * 2, none⟩) h2]; exact c0
    · rw [hb.cell (p := ⟨b, off + k * 2 + 1, none⟩) h2]; exact c1
theorem OwnW.whs {base : Nat} {w : World} {v : Value} {n : Nat} {f : Nat → Int} (h : OwnW base w v n f) : ∃ ao cap, v = .slice ao n cap ∧ WhsAt w ao cap n f := by
  obtain ⟨D, h1, h2, h3, h4⟩ := h
  rcases h2.2 with ⟨hv, h0⟩ | ⟨g, cap, cur, hv, hg, hh, hc, hm, hs, ht⟩
  · exact ⟨none, 0, by rw [hv, h0], by omega, .inl h0⟩
  · refine ⟨some ⟨g, 0, none⟩, cap, hv, hc, .inr ⟨g, 0, rfl, (Array.getElem?_eq_some_iff.1 hh).1, fun k hk => ⟨(nmAt D k).neg, (nmAt D k).ao, (nmAt D k).L.length, (nmAt D k).cap, ?_⟩⟩⟩
    obtain ⟨q0, q1⟩ := numCells_get D k (by omega)
    rw [← ht, List.getElem?_take, if_pos (by omega), Array.getElem?_toList] at q0 q1
    rw [cell_of_row w g _ _ _ _ hh, cell_of_row w g _ _ _ _ hh, Nat.zero_add]
    exact ⟨q0, q1, (h4 k hk).num⟩
/-- Such a row as exact's rows have it. -/
theorem OwnW.rw {base : Nat} {w : World} {v : Value} {n : Nat} {f : Nat → Int} (h : OwnW base w v n f) : ∃ r : Rw, v = r.v ∧ r.R.length = n ∧ NumsAt w r.ao r.cap r.R ∧ ∀ k, k < n → IsNm w (nmAt r.R k) (f k) := by
  obtain ⟨D, h1, h2, h3, h4⟩ := h
  have hl : ∀ x ∈ D, LimbsAt w x.ao x.cap x.L := fun x hx => by
    obtain ⟨j, hj, rfl⟩ := List.getElem_of_mem hx
    have := (h4 j (by omega)).1
    unfold nmAt at this
    rwa [List.getElem?_eq_getElem hj] at this
  rcases h2.2 with ⟨hv, h0⟩ | ⟨g, cap, cur, hv, hg, hh, hc, hm, hs, ht⟩
  · have e : D = [] := List.length_eq_zero_iff.1 (by omega)
    exact ⟨⟨none, 0, D⟩, by rw [hv]; unfold Rw.v; rw [e]; rfl, h1, ⟨by rw [e]; simp, hl, .inl e⟩, h4⟩
  · refine ⟨⟨some ⟨g, 0, none⟩, cap, D⟩, by rw [hv]; unfold Rw.v; rw [h1], h1, ⟨by rw [h1]; exact hc, hl, .inr ⟨g, 0, rfl, (Array.getElem?_eq_some_iff.1 hh).1, fun k hk => ?_⟩⟩, h4⟩
    have hk' : k < D.length := hk
    obtain ⟨q0, q1⟩ := numCells_get D k hk'
    rw [← ht, List.getElem?_take, if_pos (by omega), Array.getElem?_toList] at q0 q1
    rw [cell_of_row w g _ _ _ _ hh, cell_of_row w g _ _ _ _ hh, Nat.zero_add]
    exact ⟨q0, q1⟩

/-- A grid of whole numbers. -/
def GrW (w : World) (ao : Option Addr) (cap r c : Nat) (F : Nat → Nat → Int) : Prop := WhsAt w ao cap (r * c) (fun p => F (p / c) (p % c)) ∧ r ≤ 6 ∧ c ≤ 6
theorem GrW.below {w w' : World} {ao : Option Addr} {cap r c : Nat} {F : Nat → Nat → Int} (h : GrW w ao cap r c F) (hb : Below w.heap.size w w') : GrW w' ao cap r c F := ⟨h.1.below hb, h.2⟩
/-- Numbers lie in no grid's box. -/
theorem WhsAt.putT {T : Nat} {w : World} {ao : Option Addr} {cap n : Nat} {f : Nat → Int} (h : WhsAt w ao cap n f) {g : Nat} {x y : Int} {a : Option Addr} {m d : Nat} (hx : BoxT T w g (.int .i64 x) (.int .i64 y) (.slice a m d)) (j : Nat) (u : Value) :
    WhsAt (w.setCell ⟨g, j, none⟩ u) ao cap n f := by
  refine ⟨h.1, ?_⟩
  rcases h.2 with e | ⟨b, off, h1, h2, h3⟩
  · exact .inl e
  · by_cases he : n = 0
    · exact .inl he
    · have hne : b ≠ g := by
        rintro rfl
        obtain ⟨ng, a', l, cp, c0, _, _⟩ := h3 0 (by omega)
        rw [cell_of_row w b _ _ _ _ hx] at c0
        rcases (show off = 0 ∨ off = 1 ∨ off = 2 ∨ 3 ≤ off by omega) with e | e | e | e
        · subst e; simp at c0
        · subst e; simp at c0
        · subst e; simp at c0
        · rw [Array.getElem?_eq_none (by simp; omega)] at c0; simp at c0
      refine .inr ⟨b, off, h1, by simpa [World.setCell] using h2, fun i hi => ?_⟩
      obtain ⟨ng, a', l, cp, c0, c1, hq⟩ := h3 i hi
      refine ⟨ng, a', l, cp, ?_, ?_, hx.clr.num hq j u⟩
      · rw [cell_setCell_other _ _ _ _ (show b ≠ g from hne)]; exact c0
      · rw [cell_setCell_other _ _ _ _ (show b ≠ g from hne)]; exact c1
theorem GrW.putT {T : Nat} {w : World} {ao : Option Addr} {cap r c : Nat} {F : Nat → Nat → Int} (h : GrW w ao cap r c F) {g : Nat} (hx : BoxT T w g (.int .i64 0) (.int .i64 0) (.slice none 0 0)) (x y : Int) (a : Option Addr) (m d : Nat) :
    GrW (((w.setCell ⟨g, 0, none⟩ (.int .i64 x)).setCell ⟨g, 1, none⟩ (.int .i64 y)).setCell ⟨g, 2, none⟩ (.slice a m d)) ao cap r c F := by
  have x1 : BoxT T (w.setCell ⟨g, 0, none⟩ (.int .i64 x)) g (.int .i64 x) (.int .i64 0) (.slice none 0 0) := by
    unfold BoxT; rw [heap_setCell_same w g 0 _ _ _ hx]; simp
  have x2 : BoxT T ((w.setCell ⟨g, 0, none⟩ (.int .i64 x)).setCell ⟨g, 1, none⟩ (.int .i64 y)) g (.int .i64 x) (.int .i64 y) (.slice none 0 0) := by
    unfold BoxT; rw [heap_setCell_same _ g 1 _ _ _ x1]; simp
  exact ⟨((h.1.putT hx 0 _).putT x1 1 _).putT x2 2 _, h.2⟩

end Go.Proofs.YtfnnbkclnflpfaaGreatDoor

