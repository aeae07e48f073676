/- Part 30 of the texts. -/
import Derived.Test.YtceofkjefmilfaaGreatDoorPartc29
import Derived.Test.YtceofkjefmilfaaGreatDoorPartc28
import Derived.Test.YtceofkjefmilfaaGreatDoorPartc01
/- Exact numbers at a level: the reference's values, products, powers of two. -/
namespace Go.Proofs.YtceofkjefmilfaaGreatDoor
open Go.RowKit

/-- The number z times 2^lo. -/
def IsLv (w : World) (v : Value) (lo z : Int) : Prop := IsDy w v (oM z) (oE z lo)
theorem IsLv.below {w w' : World} {v : Value} {lo z : Int} (h : IsLv w v lo z) (hb : Below w.heap.size w w') : IsLv w' v lo z := IsDy.below h hb
theorem IsLv.zero (w : World) (lo : Int) : IsLv w (.agg #[.bool false, .slice none 0 0, .int .i64 0]) lo 0 := by
  unfold IsLv
  rw [oM_zero, oE_zero]
  exact IsDy.zero w none 0
/-- The same number at a lower level. -/
theorem IsLv.lower {w : World} {v : Value} {lo z : Int} (h : IsLv w v lo z) (k : Nat) : IsLv w v (lo - k) (z * 2 ^ k) := by
  unfold IsLv
  have s := oM_scale z k (lo - k)
  rw [show lo - (k : Int) + k = lo by omega] at s
  rw [s.1, s.2]
  exact h
theorem oM_neg_iff (z : Int) : oM z < 0 ↔ z < 0 := by
  by_cases h : z = 0
  · subst h; rw [oM_zero]
  · have x := oM_level z 0 h
    have hp : (0 : Int) < 2 ^ (oE z 0 - 0).toNat := Int.pow_pos (by decide)
    constructor
    · intro g
      rw [← x]
      exact Int.mul_neg_of_neg_of_pos g hp
    · intro g
      rcases Int.lt_or_le (oM z) 0 with k | k
      · exact k
      · have := Int.mul_nonneg k (Int.le_of_lt hp)
        omega
theorem dy_sign {w : World} {n : Bool} {a : Option Addr} {l c : Nat} {X M Y : Int} (h : IsDy w (.agg #[.bool n, .slice a l c, .int .i64 X]) M Y) : n = decide (M < 0) := by
  obtain ⟨n', a', c', L', e1, _, _, e4, _⟩ := h.parts
  simp only [Value.agg.injEq, Array.mk.injEq, List.cons.injEq, Value.bool.injEq] at e1
  rw [e1.1]; exact e4

theorem rvalueN (b : Nat) (w : World) (h : b < 18446744073709551616) (hf : fFin b = true) :
    Calls Tryz.prog 25 #[.int .u64 b] w fun r w' => ∃ u, r = .returned u ∧ IsLv w' u (-1074) (fZ b) ∧ Below w.heap.size w w' := by
  obtain ⟨d1, d2⟩ := fZ_level b h hf
  unfold IsLv
  rw [d1, d2]
  exact rvalue_any b w h

theorem fZ_ne {b : Nat} (h : fZ b ≠ 0) : fK b ≠ 0 := fun e => h (by
  have := fZ_abs b
  rw [(fK_zero b).1 e, rv_zero] at this
  omega)
theorem fD_few (b : Nat) (h : b < 18446744073709551616) (hf : fFin b = true) : (oM (fZ b)).natAbs < 9007199254740992 ∧ -1074 ≤ oE (fZ b) (-1074) ∧ oE (fZ b) (-1074) ≤ 1024 := by
  by_cases h0 : fZ b = 0
  · rw [h0, oM_zero, oE_zero]; decide
  · obtain ⟨d1, d2⟩ := fZ_level b h hf
    obtain ⟨z1, z2, z3, z4, z5, z6, z7, z8, z9⟩ := sc_facts b h hf (fZ_ne h0)
    rw [d1, d2]
    exact ⟨z2, z5, z6⟩

/-- The product of two numbers' values. -/
theorem rmulV {a b : Nat} {w : World} {v u : Value} (ha : a < 18446744073709551616) (hb : b < 18446744073709551616) (fa : fFin a = true) (fb : fFin b = true) (hv : IsLv w v (-1074) (fZ a)) (hu : IsLv w u (-1074) (fZ b)) :
    Calls Tryz.prog 58 #[v, u] w fun r w' => ∃ q, r = .returned q ∧ IsLv w' q (-2148) (fZ a * fZ b) ∧ Below w.heap.size w w' := by
  obtain ⟨x1, x2, x3⟩ := fD_few a ha fa
  obtain ⟨y1, y2, y3⟩ := fD_few b hb fb
  have := rmul7 hv hu (by omega) (by omega) (by omega) (by omega)
  unfold IsLv
  by_cases h0 : fZ a = 0
  · rw [h0] at this ⊢
    rw [oM_zero, Int.zero_mul, oM_zero, oE_zero] at this
    rw [Int.zero_mul, oM_zero, oE_zero]
    exact this
  by_cases h1 : fZ b = 0
  · rw [h1] at this ⊢
    rw [oM_zero, Int.mul_zero, oM_zero, oE_zero] at this
    rw [Int.mul_zero, oM_zero, oE_zero]
    exact this
  obtain ⟨m1, m2⟩ := mul_level7 (fZ a) (fZ b) (-1074) (-1074) h0 h1 (oE_ge _ _ h0) (oE_ge _ _ h1)
  rw [show (-1074 : Int) + -1074 = -2148 by decide] at m2
  rw [m1, m2]
  exact this

/-- A power of two. -/
theorem rscaleL {w : World} {v : Value} {lo : Int} {W : Nat} {z : Int} (n : Int) (hv : IsLv w v lo z) (h1 : Lvl lo W z) (hn : -32768 ≤ n ∧ n ≤ 32768) :
    Calls Tryz.prog 28 #[v, .int .i64 n] w fun r w' => ∃ q, r = .returned q ∧ IsLv w' q (lo + n) z ∧ Below w.heap.size w w' := by
  unfold IsLv at *
  obtain ⟨na, ao, ca, A, rfl, a1, a2, a3, a4, a5⟩ := hv.right h1.right.2
  have x1 := dRt_in h1.right.1
  have := rscale_any na ao ca A _ n w a1 a2 x1 hn
  rw [a3, oM_oM] at this
  by_cases h0 : z = 0
  · subst h0
    rw [oM_zero, oE_zero] at *
    exact this
  · rw [oE_oM _ _ h0] at this
    have hx : oE z (lo + n) = oE z lo + n := by rw [oE_ne _ _ h0, oE_ne _ _ h0]; omega
    rw [hx]
    exact this

end Go.Proofs.YtceofkjefmilfaaGreatDoor

/- The reference's Near and Squares, at a level. -/
namespace Go.Proofs.YtceofkjefmilfaaGreatDoor
open Go.RowKit
attribute [local go_sem ↓] Go.wp_at_zero Go.wp_at_succ
theorem Lvl.more {lo : Int} {W W' : Nat} {z : Int} (h : Lvl lo W z) (hW : W ≤ W') (h1 : lo + W' ≤ 16384) (h2 : W' ≤ 16384) : Lvl lo W' z :=
  ⟨Nat.lt_of_lt_of_le h.1 (Nat.pow_le_pow_right (by decide) hW), h.2.1, h1, h2⟩
theorem Lvl.at {lo lo' : Int} {W : Nat} {z : Int} (h : Lvl lo W z) (h1 : -16384 ≤ lo') (h2 : lo' + W ≤ 16384) : Lvl lo' W z := ⟨h.1, h1, h2, h.2.2.2⟩

end Go.Proofs.YtceofkjefmilfaaGreatDoor

/- The reference's product of any two exact numbers, at their levels. Ahead of stage 11. -/
namespace Go.Proofs.YtceofkjefmilfaaGreatDoor
open Go.RowKit
attribute [local go_sem ↓] Go.wp_at_zero Go.wp_at_succ
/-- The difference of two numbers at a level. -/
theorem rsubL {w : World} {v u : Value} {lo : Int} {W : Nat} {z1 z2 : Int} (hv : IsLv w v lo z1) (hu : IsLv w u lo z2) (h1 : Lvl lo W z1) (h2 : Lvl lo W z2) :
    Calls Tryz.prog 30 #[v, u] w fun r w' => ∃ q, r = .returned q ∧ IsLv w' q lo (z1 - z2) ∧ Below w.heap.size w w' := rsubN hv hu h1 h2
end Go.Proofs.YtceofkjefmilfaaGreatDoor

/- Rows of exact numbers that a call itself makes by appending: no limb lies in such a row. -/
namespace Go.Proofs.YtceofkjefmilfaaGreatDoor
open Go.RowKit

/-- Is a cell no limb? -/
def noLimb : Value → Bool
  | .int .u32 _ => false
  | _ => true

/-- The block that v lies in holds no limb. -/
def Clear (w : World) (v : Value) : Prop := ∀ g, v.ownBlock = some g → ∃ cur e, w.heap[g]? = some (.cells cur e (0, 0)) ∧ ∀ u ∈ cur.toList, noLimb u = true

theorem Clear.below {w w' : World} {v : Value} (h : Clear w v) (hb : Below w.heap.size w w') : Clear w' v := by
  intro g hg
  obtain ⟨cur, e, h1, h2⟩ := h g hg
  exact ⟨cur, e, (hb.block g (Array.getElem?_eq_some_iff.1 h1).1).trans h1, h2⟩

theorem Clear.alloc {w : World} {v : Value} (h : Clear w v) (o : Obj) : Clear (w.alloc o) v := h.below ((Below.refl _ _).alloc (Nat.le_refl _) o)

theorem Clear.nil (w : World) (n c : Nat) : Clear w (.slice none n c) := fun g hg => by cases hg

/-- Limbs lie elsewhere. -/
theorem Clear.limbs {w : World} {v : Value} (h : Clear w v) {ao : Option Addr} {cap : Nat} {L : List Nat} (hL : LimbsAt w ao cap L) : L = [] ∨ ∃ b off, ao = some ⟨b, off, none⟩ ∧ b < w.heap.size ∧ some b ≠ v.ownBlock ∧ ∀ i, i < L.length → w.cell? ⟨b, off + i, none⟩ = some (.int .u32 ((L[i]?.getD 0 : Nat) : Int)) := by
  rcases hL.2.2 with e | ⟨b, off, h1, h2, h3⟩
  · exact .inl e
  · by_cases he : L = []
    · exact .inl he
    · refine .inr ⟨b, off, h1, h2, fun hb => ?_, h3⟩
      obtain ⟨cur, e, g1, g2⟩ := h b hb.symm
      have hp : 0 < L.length := List.length_pos_iff.2 he
      have h4 := h3 0 hp
      rw [cell_of_row w b (off + 0) _ _ _ g1] at h4
      have hm := Array.mem_of_getElem? h4
      have := g2 _ (Array.mem_toList_iff.2 hm)
      cases this

end Go.Proofs.YtceofkjefmilfaaGreatDoor

/- Determinants by the first row, over whole numbers: rows are functions of the column, columns a list. No program. -/
namespace Go.Proofs.YtceofkjefmilfaaGreatDoor

/-- The sum over the places of cs, the sign turning: r there, times D of the rest. -/
def exD (r : Nat → Int) : List Nat → (List Nat → Int) → Int
  | [], _ => 0
  | c :: cs, D => r c * D cs - exD r cs (fun l => D (c :: l))

def detD : List (Nat → Int) → List Nat → Int
  | [], _ => 1
  | r :: rs, cs => exD r cs (detD rs)

theorem exD_congr (r : Nat → Int) : ∀ (cs : List Nat) (D E : List Nat → Int), (∀ l, l.Sublist cs → l.length + 1 = cs.length → D l = E l) → exD r cs D = exD r cs E
  | [], _, _, _ => rfl
  | c :: cs, D, E, h => by
    unfold exD
    rw [h cs (List.sublist_cons_self c cs) rfl, exD_congr r cs (fun l => D (c :: l)) (fun l => E (c :: l)) (fun l h1 h2 => h (c :: l) (h1.cons_cons c) (by simp; omega))]

theorem exD_lin (r : Nat → Int) (p q : Int) : ∀ (cs : List Nat) (D E : List Nat → Int), exD r cs (fun l => p * D l + q * E l) = p * exD r cs D + q * exD r cs E
  | [], _, _ => by simp [exD]
  | c :: cs, D, E => by
    unfold exD
    rw [exD_lin r p q cs (fun l => D (c :: l)) (fun l => E (c :: l))]
    grind

theorem exD_smul (r : Nat → Int) (p : Int) (cs : List Nat) (D : List Nat → Int) : exD r cs (fun l => p * D l) = p * exD r cs D := by
  have := exD_lin r p 0 cs D D
  simpa using this

theorem exD_zero (r : Nat → Int) (cs : List Nat) : exD r cs (fun _ => 0) = 0 := by
  have := exD_smul r 0 cs (fun _ => 0)
  simpa using this

/-- Two rows that follow one another change places: the sign turns. -/
theorem exD_swap (r s : Nat → Int) : ∀ (cs : List Nat) (D : List Nat → Int), exD r cs (fun l => exD s l D) = - exD s cs (fun l => exD r l D)
  | [], _ => by simp [exD]
  | c :: cs, D => by
    have step : ∀ r s : Nat → Int, exD r (c :: cs) (fun l => exD s l D) = r c * exD s cs D - s c * exD r cs D + exD r cs (fun l => exD s l (fun m => D (c :: m))) := by
      intro r s
      have e : exD r cs (fun l => exD s (c :: l) D) = s c * exD r cs D + -1 * exD r cs (fun l => exD s l (fun m => D (c :: m))) := by
        rw [← exD_lin]
        congr 1
        funext l
        show s c * D l - exD s l (fun m => D (c :: m)) = _
        omega
      show r c * exD s cs D - exD r cs (fun l => exD s (c :: l) D) = _
      rw [e]
      omega
    rw [step r s, step s r, exD_swap r s cs (fun m => D (c :: m))]
    omega

theorem detD_swap (r s : Nat → Int) (rs : List (Nat → Int)) (cs : List Nat) : detD (r :: s :: rs) cs = - detD (s :: r :: rs) cs := by
  show exD r cs (fun l => exD s l (detD rs)) = - exD s cs (fun l => exD r l (detD rs))
  exact exD_swap r s cs (detD rs)

theorem detD_same (r : Nat → Int) (rs : List (Nat → Int)) (cs : List Nat) : detD (r :: r :: rs) cs = 0 := by
  have := detD_swap r r rs cs
  omega

/-- What holds behind a beginning holds with it: a factor. -/
theorem detD_pre (p : Int) (rs ss : List (Nat → Int)) (h : ∀ cs, detD rs cs = p * detD ss cs) : ∀ (pre : List (Nat → Int)) (cs : List Nat), detD (pre ++ rs) cs = p * detD (pre ++ ss) cs
  | [], cs => h cs
  | r :: pre, cs => by
    show exD r cs (detD (pre ++ rs)) = p * exD r cs (detD (pre ++ ss))
    rw [← exD_smul]
    congr 1
    funext l
    exact detD_pre p rs ss h pre l

/-- The other order of rows: the same but for the sign. -/
theorem detD_perm {rs ss : List (Nat → Int)} (h : rs.Perm ss) : ∃ p : Int, (p = 1 ∨ p = -1) ∧ ∀ cs, detD rs cs = p * detD ss cs := by
  induction h with
  | nil => exact ⟨1, .inl rfl, fun cs => by simp⟩
  | cons r _ ih =>
    obtain ⟨p, hp, h⟩ := ih
    exact ⟨p, hp, fun cs => detD_pre p _ _ h [r] cs⟩
  | swap r s l => exact ⟨-1, .inr rfl, fun cs => by rw [detD_swap s r l cs]; omega⟩
  | trans _ _ ih1 ih2 =>
    obtain ⟨p, hp, h⟩ := ih1
    obtain ⟨q, hq, g⟩ := ih2
    refine ⟨p * q, ?_, fun cs => by rw [h cs, g cs, Int.mul_assoc]⟩
    rcases hp with rfl | rfl <;> rcases hq with rfl | rfl <;> simp

/-- A row that stands twice: 0. -/
theorem detD_twice (r : Nat → Int) (rs : List (Nat → Int)) (pre mid : List (Nat → Int)) (cs : List Nat) : detD (pre ++ r :: (mid ++ r :: rs)) cs = 0 := by
  have hp : (pre ++ r :: (mid ++ r :: rs)).Perm (r :: r :: (pre ++ (mid ++ rs))) := by
    have h1 : (mid ++ r :: rs).Perm (r :: (mid ++ rs)) := List.perm_middle
    have h2 : (pre ++ r :: (mid ++ r :: rs)).Perm (r :: (pre ++ (mid ++ r :: rs))) := List.perm_middle
    refine h2.trans (List.Perm.cons r ?_)
    refine (List.Perm.append_left pre h1).trans ?_
    exact List.perm_middle
  obtain ⟨p, _, h⟩ := detD_perm hp
  rw [h cs, detD_same]
  simp

end Go.Proofs.YtceofkjefmilfaaGreatDoor

