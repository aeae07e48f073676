/- Part 24 of the texts. -/
import Derived.Test.YtimejpbmehegeaaGreatDoorParte23
/- The mirror of tame numbers: what is known of beta, v and tau. Ahead of stage 13. -/
namespace Go.Proofs.YtimejpbmehegeaaGreatDoor
open Go.RowKit

theorem fQ_fN (a : Nat) (ha : a < 18446744073709551616) : fQ (fN a) = -fQ a := by
  unfold fQ
  rw [fZ_fN a ha, Rat.intCast_neg, Rat.neg_mul]
theorem sum_mem : ∀ (xs : List Nat) (x : Nat), x ∈ xs → fQ x * fQ x ≤ sumQ xs := by
  intro xs
  induction xs with
  | nil => intro x hx; cases hx
  | cons y ys ih =>
    intro x hx
    have q0 := sumQ_nonneg ys
    have q1 := sq_nonneg (fQ y)
    have e : sumQ (y :: ys) = fQ y * fQ y + sumQ ys := rfl
    rw [e]
    rcases List.mem_cons.1 hx with rfl | hx
    · grind
    · have := ih x hx
      grind
theorem sum_len (B : Rat) : ∀ (xs : List Nat), (∀ x ∈ xs, ab (fQ x) ≤ B) → sumQ xs ≤ (xs.length : Rat) * (B * B) := by
  intro xs
  induction xs with
  | nil =>
    intro _
    have e : sumQ [] = 0 := rfl
    have e3 : (([] : List Nat).length : Rat) = 0 := rfl
    rw [e, e3]
    grind
  | cons y ys ih =>
    intro h
    have h1 := ih (fun x hx => h x (List.mem_cons_of_mem _ hx))
    have h2 := h y List.mem_cons_self
    have l := le_ab (fQ y)
    have m := Rat.mul_nonneg (show 0 ≤ B - fQ y by grind) (show 0 ≤ B + fQ y by grind)
    have e : sumQ (y :: ys) = fQ y * fQ y + sumQ ys := rfl
    have e3 : ((y :: ys).length : Rat) = (ys.length : Rat) + 1 := by rw [List.length_cons, Rat.natCast_add]; rfl
    rw [e, e3]
    grind
theorem tame_size (K : Int) (x : Nat) (hx : x < 18446744073709551616) (fx : fFin x = true) (h : fK x = 0 ∨ (-K ≤ eX x ∧ eX x < K)) : ab (fQ x) ≤ p2 K ∧ (fK x ≠ 0 → p2 (-K) ≤ ab (fQ x)) := by
  by_cases x0 : fK x = 0
  · rw [fQ_nought x x0]
    have := p2_pos K
    refine ⟨?_, fun h => absurd x0 h⟩
    unfold ab
    grind
  · obtain ⟨t1, t2⟩ := eX_top x hx fx x0
    have h2 : -K ≤ eX x ∧ eX x < K := by omega
    have m1 := p2_mono (show eX x + 1 ≤ K by omega)
    have m2 := p2_mono h2.1
    exact ⟨by grind, fun _ => by grind⟩
theorem le_of_sq {x y : Rat} (hy : 0 ≤ y) (h : x * x ≤ y * y) : x ≤ y := by
  rcases Rat.le_total (a := x) (b := y) with g | g
  · exact g
  · by_cases e : x = y
    · rw [e]; exact Rat.le_refl
    · have m := Rat.mul_pos (show 0 < x - y by grind) (show 0 < x + y by grind)
      grind

/-- The norm of tame numbers lies from 2^-201 on, to 2^204; each number is at most it, nearly. -/
theorem norm_size (xs : List Nat) (hl : xs.length ≤ 64) (h : TameV 200 xs) (h0 : bgF 0 xs ≠ 0) :
    0 < fQ (nrV xs) ∧ fFin (nrV xs) = true ∧ fS (nrV xs) = false ∧ 9007199254740992 * ab (fQ (nrV xs) * fQ (nrV xs) - sumQ xs) ≤ 135 * sumQ xs ∧ fQ (nrV xs) ≤ p2 204 ∧ p2 (-201) ≤ fQ (nrV xs) ∧ (∀ x ∈ xs, 1000000 * ab (fQ x) ≤ 1000001 * fQ (nrV xs)) := by
  obtain ⟨n1, n2, n3, n4⟩ := norm_right2 200 (by decide) xs hl h h0
  obtain ⟨b1, b2, b3, b4, b5, b6, b7, b8, y, hy, b9, b10⟩ := tame_big 200 xs h h0
  have hl2 : (xs.length : Rat) ≤ 64 := Rat.natCast_le_natCast.2 hl
  have P0 := p2_pos 200
  have hS : sumQ xs ≤ 64 * (p2 200 * p2 200) := by
    have h1 := sum_len (p2 200) xs (fun x hx => (tame_size 200 x (h x hx).1 (h x hx).2.1 (h x hx).2.2).1)
    have := Rat.mul_nonneg (show 0 ≤ 64 - (xs.length : Rat) by grind) (sq_nonneg (p2 200))
    grind
  have hy2 := sum_mem xs y hy
  have ky : fK y ≠ 0 := fun e => by
    have e1 := fQ_nought y e
    rw [e1] at b9
    have := eX_top _ (by omega) b2 b3
    have hp := p2_pos (eX (bgF 0 xs))
    rw [ab_pos (fQ_pos _ b4)] at this
    unfold ab at b9
    grind
  have hy3 := (tame_size 200 y (h y hy).1 (h y hy).2.1 (h y hy).2.2).2 ky
  have Q0 := p2_pos (-200)
  have qy := sq_nonneg (fQ y)
  have ey : ab (fQ y) * ab (fQ y) = fQ y * fQ y := by rw [← ab_mul]; exact ab_pos qy
  have hL : p2 (-200) * p2 (-200) ≤ sumQ xs := by
    have m := Rat.mul_nonneg (show 0 ≤ ab (fQ y) - p2 (-200) by grind) (show 0 ≤ ab (fQ y) + p2 (-200) by grind)
    grind
  have l := le_ab (fQ (nrV xs) * fQ (nrV xs) - sumQ xs)
  have e204 : p2 204 = 16 * p2 200 := by rw [show (204 : Int) = 200 + 1 + 1 + 1 + 1 by rfl]; simp only [p2_succ]; grind
  have e201 : p2 (-200) = 2 * p2 (-201) := by rw [show (-200 : Int) = -201 + 1 by rfl, p2_succ]
  have s0 := sumQ_nonneg xs
  refine ⟨n3, n1, n2, n4, ?_, ?_, fun x hx => ?_⟩
  · refine le_of_sq (Rat.le_of_lt (p2_pos _)) ?_
    rw [e204]
    generalize fQ (nrV xs) * fQ (nrV xs) = MM at *
    have : 16 * p2 200 * (16 * p2 200) = 256 * (p2 200 * p2 200) := by grind
    rw [this]
    generalize p2 200 * p2 200 = PP at *
    grind
  · refine le_of_sq (Rat.le_of_lt n3) ?_
    have : p2 (-200) * p2 (-200) = 4 * (p2 (-201) * p2 (-201)) := by rw [e201]; grind
    rw [this] at hL
    have hpp := Rat.mul_pos (p2_pos (-201)) (p2_pos (-201))
    generalize fQ (nrV xs) * fQ (nrV xs) = MM at *
    generalize p2 (-201) * p2 (-201) = PP at *
    grind
  · have hx2 := sum_mem xs x hx
    have qx := sq_nonneg (fQ x)
    have ex : ab (fQ x) * ab (fQ x) = fQ x * fQ x := by rw [← ab_mul]; exact ab_pos qx
    refine le_of_sq (by grind) ?_
    rw [show 1000000 * ab (fQ x) * (1000000 * ab (fQ x)) = 1000000000000 * (ab (fQ x) * ab (fQ x)) by grind, ex, show 1000001 * fQ (nrV xs) * (1000001 * fQ (nrV xs)) = 1000002000001 * (fQ (nrV xs) * fQ (nrV xs)) by grind]
    generalize fQ (nrV xs) * fQ (nrV xs) = MM at *
    generalize fQ x * fQ x = XX at *
    grind

/-- Quotients by a number that is not much less than each. -/
theorem quos_of (d : Nat) (hd : d < 18446744073709551616) (fd : fFin d = true) (d0 : fK d ≠ 0) (hds : ab (fQ d) ≤ p2 210) : ∀ (xs : List Nat), (∀ x ∈ xs, x < 18446744073709551616 ∧ fFin x = true ∧ (fK x ≠ 0 → p2 (-200) ≤ ab (fQ x)) ∧ ab (fQ x) ≤ 1024 * ab (fQ d)) →
    quosQ (fQ d) (xs.map (fun x => dV x d)) xs ∧ ∀ v ∈ xs.map (fun x => dV x d), fFin v = true := by
  intro xs
  induction xs with
  | nil => intro _; exact ⟨trivial, fun v hv => (by cases hv)⟩
  | cons x xs ih =>
    intro h
    obtain ⟨i1, i2⟩ := ih (fun y hy => h y (List.mem_cons_of_mem _ hy))
    obtain ⟨h1, h2, h3, h4⟩ := h x List.mem_cons_self
    have main : fFin (dV x d) = true ∧ 9007199254740992 * ab (fQ (dV x d) * fQ d - fQ x) ≤ 2 * ab (fQ x) := by
      by_cases x0 : fK x = 0
      · obtain ⟨c1, c2⟩ := fin_kind fd
        have e : dV x d = wrd (fS x ^^ fS d) 0 := by
          unfold dV
          rw [if_neg (by omega), if_neg (by omega), if_neg (by omega), if_pos (.inr x0)]
        have k0 : fK (wrd (fS x ^^ fS d) 0) = 0 := (fK_zero _).2 (fR_wrd _ _ (by decide))
        have f0 : fFin (wrd (fS x ^^ fS d) 0) = true := (fK_rungs _).2.2.2 (by rw [fR_wrd _ _ (by decide)]; decide)
        rw [e, fQ_nought _ k0, fQ_nought x x0, Rat.zero_mul]
        refine ⟨f0, ?_⟩
        unfold ab
        grind
      · have hη : 1267650600228229401496703205376 * (p2 (-1075) * p2 210) ≤ p2 (-200) := by
          have e1 := p2_mono (show (100 + (-1075 + 210) : Int) ≤ -200 by decide)
          rw [p2_add, p2_add, show (100 : Int) = ((100 : Nat) : Int) by rfl, p2_nat] at e1
          exact e1
        have hp := p2_pos (-1075)
        have m := Rat.mul_le_mul_of_nonneg_left hds (Rat.le_of_lt hp)
        have h5 := h3 x0
        exact div_err2 x d h1 hd h2 fd x0 d0 h4 (by grind)
    refine ⟨?_, ?_⟩
    · show quosQ (fQ d) (dV x d :: xs.map (fun x => dV x d)) (x :: xs)
      unfold quosQ
      exact ⟨main.2, i1⟩
    · intro v hv
      rcases List.mem_cons.1 hv with rfl | hv
      · exact main.1
      · exact i2 v hv

/-- What is known of a mirror. -/
theorem house_make (a b : Nat) (xs : List Nat) (hl : (a :: xs).length ≤ 64) (h : TameV 200 (a :: xs)) (h0 : bgF 0 (a :: xs) ≠ 0) (hb : b < 18446744073709551616) (fb : fFin b = true) (b0 : fK b ≠ 0)
    (hs : (fQ b = fQ (nrV (a :: xs)) ∧ fQ a ≤ 0) ∨ (fQ b = -fQ (nrV (a :: xs)) ∧ 0 ≤ fQ a)) :
    let d := aV a (fN b); let t := dV (aV b (fN a)) b; let vs := xs.map (fun x => dV x d)
    fFin d = true ∧ fFin t = true ∧ (∀ v ∈ vs, fFin v = true) ∧ quosQ (fQ d) vs xs ∧ 9007199254740992 * ab (fQ d - (fQ a - fQ b)) ≤ ab (fQ a - fQ b) ∧
    ab (fQ a - fQ b) = ab (fQ a) + ab (fQ b) ∧ ab (fQ b) = fQ (nrV (a :: xs)) ∧ 9007199254740992 * ab (fQ t * fQ b + (fQ a - fQ b)) ≤ 4 * ab (fQ a - fQ b) ∧ 4503599627370496 * ab (fQ a) ≤ 4503599627370496 * ab (fQ b) + 70 * ab (fQ b) := by
  intro d t vs
  obtain ⟨n1, n2, n3, n4, n5, n6, n7⟩ := norm_size (a :: xs) hl h h0
  obtain ⟨a1, a2, a3⟩ := h a List.mem_cons_self
  have hM : ab (fQ b) = fQ (nrV (a :: xs)) := by
    rcases hs with ⟨e, _⟩ | ⟨e, _⟩
    · rw [e]; exact ab_pos (Rat.le_of_lt n1)
    · rw [e, ab_neg]; exact ab_pos (Rat.le_of_lt n1)
  have hS : ab (fQ a - fQ b) = ab (fQ a) + ab (fQ b) := by
    rw [hM]
    rcases hs with ⟨e, g⟩ | ⟨e, g⟩
    · rw [e]; unfold ab; grind
    · rw [e]; unfold ab; grind
  have fa' : fFin (fN a) = true := by rw [fFin_fN a a1]; exact a2
  have fb' : fFin (fN b) = true := by rw [fFin_fN b hb]; exact fb
  have qa := fQ_fN a a1; have qb := fQ_fN b hb
  have A0 := ab_0 (fQ a)
  have hA := n7 a List.mem_cons_self
  have P4 := p2_pos 204
  have big : 8 * p2 204 ≤ p2 1023 ∧ 4 * p2 204 ≤ p2 210 := by
    have h1 := p2_mono (show (204 + 1 + 1 + 1 : Int) ≤ 1023 by decide)
    have h2 := p2_mono (show (204 + 1 + 1 : Int) ≤ 210 by decide)
    simp only [p2_succ] at h1 h2
    exact ⟨by grind, by grind⟩
  -- the difference and the other one
  have fd : fFin d = true := add_fin a (fN b) a2 fb' (by rw [qb, show fQ a + -fQ b = fQ a - fQ b by grind, hS, hM]; grind)
  have ed := add_err a (fN b) a2 fb' fd
  rw [qb, show fQ a + -fQ b = fQ a - fQ b by grind] at ed
  have fg : fFin (aV b (fN a)) = true := add_fin b (fN a) fb fa' (by rw [qa, show fQ b + -fQ a = -(fQ a - fQ b) by grind, ab_neg, hS, hM]; grind)
  have eg := add_err b (fN a) fb fa' fg
  rw [qa, show fQ b + -fQ a = fQ b - fQ a by grind] at eg
  have kD : ab (fQ b - fQ a) = ab (fQ a - fQ b) := ab_sub _ _
  have ld := le_ab (fQ d - (fQ a - fQ b)); have lD := le_ab (fQ a - fQ b)
  have ed2 : 9007199254740992 * ab (fQ d - (fQ a - fQ b)) ≤ ab (fQ a - fQ b) := ed
  have dd := ab_le (x := fQ d) (y := ab (fQ d - (fQ a - fQ b)) + ab (fQ a - fQ b)) (by grind) (by grind)
  have dd2 := ab_le (x := fQ a - fQ b) (y := ab (fQ d - (fQ a - fQ b)) + ab (fQ d)) (by have := le_ab (fQ d); grind) (by have := le_ab (fQ d); grind)
  have dlo : fQ (nrV (a :: xs)) ≤ 2 * ab (fQ d) := by rw [hS, hM] at *; grind
  have dhi : ab (fQ d) ≤ p2 210 := by rw [hS, hM] at *; grind
  have k0 : fK d ≠ 0 := fun e => by
    have := fQ_nought d e
    rw [this] at dlo
    unfold ab at dlo
    grind
  have dl : d < 18446744073709551616 := aV_lt a (fN b) a1 (fN_lt b hb)
  obtain ⟨q1, q2⟩ := quos_of d dl fd k0 dhi xs (fun x hx => by
    obtain ⟨x1, x2, x3⟩ := h x (List.mem_cons_of_mem _ hx)
    have x4 := n7 x (List.mem_cons_of_mem _ hx)
    refine ⟨x1, x2, (tame_size 200 x x1 x2 x3).2, by grind⟩)
  -- tau
  have gl : aV b (fN a) < 18446744073709551616 := aV_lt b (fN a) hb (fN_lt a a1)
  have lg := le_ab (fQ (aV b (fN a)) - (fQ b - fQ a)); have lG := le_ab (fQ b - fQ a)
  have gg := ab_le (x := fQ (aV b (fN a))) (y := ab (fQ (aV b (fN a)) - (fQ b - fQ a)) + ab (fQ b - fQ a)) (by grind) (by grind)
  have gg2 := ab_le (x := fQ a - fQ b) (y := ab (fQ (aV b (fN a)) - (fQ b - fQ a)) + ab (fQ (aV b (fN a)))) (by have := le_ab (fQ (aV b (fN a))); grind) (by have := le_ab (fQ (aV b (fN a))); grind)
  have eg2 := eg
  rw [kD, hS, hM] at eg2
  rw [kD, hS, hM] at gg
  rw [hS, hM] at gg2
  have glo : fQ (nrV (a :: xs)) ≤ 2 * ab (fQ (aV b (fN a))) := by
    generalize ab (fQ (aV b (fN a)) - (fQ b - fQ a)) = z at *
    grind
  have ghi : ab (fQ (aV b (fN a))) ≤ 4 * fQ (nrV (a :: xs)) := by
    generalize ab (fQ (aV b (fN a)) - (fQ b - fQ a)) = z at *
    grind
  have g0 : fK (aV b (fN a)) ≠ 0 := fun e => by
    have := fQ_nought _ e
    rw [this] at glo
    unfold ab at glo
    grind
  have hη0 := p2_pos (-1075)
  obtain ⟨n8, _, _⟩ := eta_small
  obtain ⟨t1, t2⟩ := div_err2 (aV b (fN a)) b gl hb fg fb g0 b0 (by rw [hM]; grind) (by
    rw [hM]
    have hsm : 1267650600228229401496703205376 * (4 * p2 (-1075)) ≤ 2 := by
      have e1 := p2_mono (show (102 + -1075 : Int) ≤ 1 by decide)
      rw [p2_add, show (102 : Int) = ((102 : Nat) : Int) by rfl, p2_nat, p2_1] at e1
      have : ((2 ^ 102 : Nat) : Rat) = 5070602400912917605986812821504 := rfl
      rw [this] at e1
      grind
    have := Rat.mul_le_mul_of_nonneg_left hsm (Rat.le_of_lt n1)
    grind)
  have es : sumQ (a :: xs) = fQ a * fQ a + sumQ xs := rfl
  rw [es] at n4
  have n4' : 9007199254740992 * ab (fQ b * fQ b - (fQ a * fQ a + sumQ xs)) ≤ 135 * (fQ a * fQ a + sumQ xs) := by
    have : fQ b * fQ b = fQ (nrV (a :: xs)) * fQ (nrV (a :: xs)) := by
      rcases hs with ⟨e, _⟩ | ⟨e, _⟩ <;> rw [e] <;> grind
    rw [this]; exact n4
  obtain ⟨m1, m2⟩ := mirror_alg (fQ a) (fQ b) (sumQ xs) (fQ t) (fQ (aV b (fN a))) (sumQ_nonneg xs) (by rw [hM]; exact n1) hS n4' eg t2
  exact ⟨fd, t1, q2, q1, ed2, hS, hM, m1, m2⟩

end Go.Proofs.YtimejpbmehegeaaGreatDoor

/- The mirror of tame numbers: tau lies from 1 to 2, tau times v's square is 2, v's numbers are at most 1: but for some hundred parts in 2^53. Ahead of stage 13. -/
namespace Go.Proofs.YtimejpbmehegeaaGreatDoor
open Go.RowKit

/-- All beside D = a - b. -/
theorem mirror_norm (a b R d t V : Rat) (hR : 0 ≤ R) (hsg : (0 < b ∧ a ≤ 0) ∨ (b < 0 ∧ 0 ≤ a)) (h1 : 9007199254740992 * ab (b * b - (a * a + R)) ≤ 135 * (a * a + R))
    (h2 : 9007199254740992 * ab (d - (a - b)) ≤ ab (a - b)) (h3 : 9007199254740992 * ab (t * b + (a - b)) ≤ 4 * ab (a - b)) (h4 : 4503599627370496 * ab a ≤ 4503599627370496 * ab b + 70 * ab b) (h5 : 9007199254740992 * ab (V * (d * d) - R) ≤ 5 * R) :
    8796093022208 * ab (t * (1 + V) - 2) ≤ 1 ∧ 9007199254740992 * t ≤ 18014398509481984 + 200 ∧ 9007199254740992 ≤ 9007199254740992 * t + 5 := by
  obtain ⟨D, hD⟩ : ∃ D, a - b = D := ⟨_, rfl⟩
  have D0 : D ≠ 0 := by intro e; grind
  obtain ⟨I, hI⟩ : ∃ I, D * I = 1 := ⟨D⁻¹, Rat.mul_inv_cancel D D0⟩
  rw [hD] at h2 h3
  have aDI : ab D * ab I = 1 := by rw [← ab_mul, hI]; exact ab_pos (by decide)
  have I0 := ab_0 I
  have qI := sq_nonneg I
  have eII : ab I * ab I = I * I := by rw [← ab_mul]; exact ab_pos qI
  -- r and α
  obtain ⟨r, hr⟩ : ∃ r, b * I = r := ⟨_, rfl⟩
  obtain ⟨α, hα⟩ : ∃ α, a * I = α := ⟨_, rfl⟩
  have har : α - r = 1 := by rw [← hα, ← hr, ← hI, ← hD]; grind
  have qa := sq_nonneg a; have qb := sq_nonneg b
  have hα0 : 0 ≤ α := by
    have e : α = a * D * (I * I) := by rw [← hα]; have : I = D * I * I := by rw [hI, Rat.one_mul]
                                       grind
    rw [e]
    refine Rat.mul_nonneg ?_ qI
    rw [← hD]
    rcases hsg with ⟨g1, g2⟩ | ⟨g1, g2⟩
    · have := Rat.mul_nonneg (show 0 ≤ -a by grind) (Rat.le_of_lt g1)
      grind
    · have := Rat.mul_nonneg g2 (show 0 ≤ -b by grind)
      grind
  have hr0 : r ≤ 0 := by
    have e : -r = -(b * D) * (I * I) := by rw [← hr]; have : I = D * I * I := by rw [hI, Rat.one_mul]
                                           grind
    have : 0 ≤ -r := by
      rw [e]
      refine Rat.mul_nonneg ?_ qI
      rw [← hD]
      rcases hsg with ⟨g1, g2⟩ | ⟨g1, g2⟩
      · have := Rat.mul_nonneg (show 0 ≤ -a by grind) (Rat.le_of_lt g1)
        grind
      · have := Rat.mul_nonneg g2 (show 0 ≤ -b by grind)
        grind
    grind
  have ea : ab a * ab I = α := by rw [← ab_mul, hα]; exact ab_pos hα0
  have eb : ab b * ab I = -r := by rw [← ab_mul, hr]; unfold ab; grind
  have hα2 : 4503599627370496 * α ≤ 4503599627370496 * -r + 70 * -r := by
    have := Rat.mul_le_mul_of_nonneg_left h4 I0
    rw [← ea, ← eb]
    grind
  have hr1 : -1 ≤ r := by grind
  have hr2 : 100 * r ≤ -49 := by grind
  -- ε
  obtain ⟨ε, hε⟩ : ∃ ε, (d - D) * I = ε := ⟨_, rfl⟩
  have hdI : d * I = 1 + ε := by rw [← hε, ← hI]; grind
  have bε : 9007199254740992 * ab ε ≤ 1 := by
    rw [← hε, ab_mul, ← aDI]
    have := Rat.mul_le_mul_of_nonneg_left h2 I0
    grind
  -- ρ
  obtain ⟨ρ, hρ⟩ : ∃ ρ, R * (I * I) = ρ := ⟨_, rfl⟩
  have bρ : 9007199254740992 * ab (ρ + 1 + 2 * r) ≤ 137 := by
    have e : ρ + 1 + 2 * r = -((b * b - (a * a + R)) * (I * I)) := by
      have e1 : b * b * (I * I) = r * r := by rw [← hr]; grind
      have e2 : a * a * (I * I) = α * α := by rw [← hα]; grind
      have e3 : -((b * b - (a * a + R)) * (I * I)) = a * a * (I * I) + R * (I * I) - b * b * (I * I) := by grind
      rw [e3, e1, e2, hρ, show α = 1 + r by grind]
      grind
    rw [e, ab_neg, ab_mul, ab_pos (x := I * I) qI]
    have l := le_ab (b * b - (a * a + R))
    have h6 : 9007199254740992 * ab (b * b - (a * a + R)) ≤ 136 * (b * b) := by
      generalize ab (b * b - (a * a + R)) = z at *
      grind
    have m := Rat.mul_le_mul_of_nonneg_left h6 qI
    have e1 : I * I * (136 * (b * b)) = 136 * (r * r) := by rw [← hr]; grind
    rw [e1] at m
    have rr := Rat.mul_nonneg (show 0 ≤ 1 + r by grind) (show 0 ≤ 1 - r by grind)
    have rr2 := sq_nonneg r
    grind
  have bτ : 9007199254740992 * ab (t * r + 1) ≤ 4 := by
    have e : t * r + 1 = (t * b + D) * I := by rw [← hr, ← hI]; grind
    rw [e, ab_mul]
    have m := Rat.mul_le_mul_of_nonneg_left h3 I0
    grind
  have bV : 9007199254740992 * ab (V * ((1 + ε) * (1 + ε)) - ρ) ≤ 5 * ρ := by
    have e : V * ((1 + ε) * (1 + ε)) - ρ = (V * (d * d) - R) * (I * I) := by rw [← hdI, ← hρ]; grind
    rw [e, ab_mul, ab_pos (x := I * I) qI, ← hρ]
    have m := Rat.mul_le_mul_of_nonneg_left h5 qI
    grind
  refine ⟨mirror_two r ε ρ t V hr1 hr2 bε bρ bτ bV, ?_, ?_⟩
  · have l := le_ab (t * r + 1)
    -- t (-r) <= 1 + 4u, -r >= 1 / (2 + 70 / 2^52)
    rcases Rat.le_total (a := 9007199254740992 * t) (b := 18014398509481984 + 200) with g | g
    · exact g
    · exfalso
      have m := Rat.mul_nonneg (show 0 ≤ 9007199254740992 * t - (18014398509481984 + 200) by grind) (show 0 ≤ -r by grind)
      have e : (9007199254740992 * t - (18014398509481984 + 200)) * -r = -(9007199254740992 * (t * r)) + (18014398509481984 + 200) * r := by grind
      rw [e] at m
      generalize t * r = z at *
      grind
  · have l := le_ab (t * r + 1)
    rcases Rat.le_total (a := 9007199254740992) (b := 9007199254740992 * t + 5) with g | g
    · exact g
    · exfalso
      have m := Rat.mul_nonneg (show 0 ≤ 9007199254740992 - (9007199254740992 * t + 5) by grind) (show 0 ≤ -r by grind)
      have e : (9007199254740992 - (9007199254740992 * t + 5)) * -r = 9007199254740992 * (t * r) - 9007199254740992 * r + 5 * r := by grind
      rw [e] at m
      generalize t * r = z at *
      grind

end Go.Proofs.YtimejpbmehegeaaGreatDoor

/- A column mirrored: it has the same square, but for a part in 2^38. Ahead of stage 13. -/
namespace Go.Proofs.YtimejpbmehegeaaGreatDoor
open Go.RowKit

/-- A column less t times v. -/
def apV (t : Nat) : List Nat → List Nat → List Nat
  | v :: vs, y :: ys => aV y (fN (mV t v)) :: apV t vs ys
  | _, _ => []

/-- Each number of us is y less c v, but for E parts in 2^53. -/
def lessQ (c E : Rat) : List Nat → List Nat → List Nat → Prop
  | v :: vs, y :: ys, u :: us => (fFin u = true ∧ 9007199254740992 * ab (fQ u - (fQ y - c * fQ v)) ≤ E) ∧ lessQ c E vs ys us
  | [], [], [] => True
  | _, _, _ => False

theorem less_sq (c E C : Rat) (hE : 0 ≤ E) (hEC : E ≤ 9007199254740992 * C) : ∀ (vs ys us : List Nat), (∀ v ∈ vs, ab (c * fQ v) ≤ C) → lessQ c E vs ys us →
    9007199254740992 * ab (sumQ us - (sumQ ys - 2 * (c * dtQ vs ys) + c * c * sumQ vs)) ≤ E * (2 * s1Q ys + 3 * ((vs.length : Rat) * C)) := by
  intro vs
  induction vs with
  | nil =>
    intro ys us _ h
    cases ys with
    | cons y ys => exact absurd h (by unfold lessQ; exact id)
    | nil =>
      cases us with
      | cons u us => exact absurd h (by unfold lessQ; exact id)
      | nil =>
        have e1 : sumQ [] = 0 := rfl
        have e2 : dtQ [] [] = 0 := rfl
        have e3 : s1Q [] = 0 := rfl
        have e4 : (([] : List Nat).length : Rat) = 0 := rfl
        rw [e1, e2, e3, e4, show (0 : Rat) - (0 - 2 * (c * 0) + c * c * 0) = 0 by grind, show ab 0 = 0 by unfold ab; grind]
        grind
  | cons v vs ih =>
    intro ys us hv h
    cases ys with
    | nil => exact absurd h (by unfold lessQ; exact id)
    | cons y ys =>
      cases us with
      | nil => exact absurd h (by unfold lessQ; exact id)
      | cons u us =>
        unfold lessQ at h
        obtain ⟨⟨_, h1⟩, h2⟩ := h
        have i1 := ih ys us (fun w hw => hv w (List.mem_cons_of_mem _ hw)) h2
        have hc := hv v List.mem_cons_self
        have e1 : sumQ (v :: vs) = fQ v * fQ v + sumQ vs := rfl
        have e2 : sumQ (y :: ys) = fQ y * fQ y + sumQ ys := rfl
        have e3 : sumQ (u :: us) = fQ u * fQ u + sumQ us := rfl
        have e4 : dtQ (v :: vs) (y :: ys) = fQ v * fQ y + dtQ vs ys := rfl
        have e5 : s1Q (y :: ys) = ab (fQ y) + s1Q ys := rfl
        have e6 : ((v :: vs).length : Rat) = (vs.length : Rat) + 1 := by rw [List.length_cons, Rat.natCast_add]; rfl
        rw [e1, e2, e3, e4, e5, e6]
        obtain ⟨z, hz⟩ : ∃ z, fQ y - c * fQ v = z := ⟨_, rfl⟩
        obtain ⟨e, he⟩ : ∃ e, fQ u = z + e := ⟨fQ u - z, by grind⟩
        have k : fQ u - (fQ y - c * fQ v) = e := by rw [hz, he]; grind
        rw [k] at h1
        have ly := le_ab (fQ y); have lc := le_ab (c * fQ v); have lz := le_ab z; have le' := le_ab e
        have hz2 : ab z ≤ ab (fQ y) + C := by
          rw [← hz]
          exact ab_le (by grind) (by grind)
        have e0 := ab_0 e
        have eC : ab e ≤ C := by grind
        have hq : 9007199254740992 * ab (e * (2 * z + e)) ≤ E * (2 * ab (fQ y) + 3 * C) := by
          have t1 : ab (2 * z + e) ≤ 2 * ab (fQ y) + 3 * C := by
            refine Rat.le_trans (ab_le (y := 2 * ab z + ab e) (by grind) (by grind)) (by grind)
          rw [ab_mul]
          have m1 := Rat.mul_le_mul_of_nonneg_left t1 e0
          have C0 : 0 ≤ 2 * ab (fQ y) + 3 * C := by have := ab_0 (fQ y); grind
          have m2 := Rat.mul_le_mul_of_nonneg_left h1 C0
          grind
        have w : fQ u * fQ u + sumQ us - (fQ y * fQ y + sumQ ys - 2 * (c * (fQ v * fQ y + dtQ vs ys)) + c * c * (fQ v * fQ v + sumQ vs)) = e * (2 * z + e) + (sumQ us - (sumQ ys - 2 * (c * dtQ vs ys) + c * c * sumQ vs)) := by
          have : z * z = fQ y * fQ y - 2 * (c * (fQ v * fQ y)) + c * c * (fQ v * fQ v) := by rw [← hz]; grind
          have : fQ u * fQ u = z * z + e * (2 * z + e) := by rw [he]; grind
          grind
        rw [w]
        have tt := ab_add (e * (2 * z + e)) (sumQ us - (sumQ ys - 2 * (c * dtQ vs ys) + c * c * sumQ vs))
        generalize ab (e * (2 * z + e) + (sumQ us - (sumQ ys - 2 * (c * dtQ vs ys) + c * c * sumQ vs))) = r1 at *
        generalize ab (e * (2 * z + e)) = r2 at *
        generalize ab (sumQ us - (sumQ ys - 2 * (c * dtQ vs ys) + c * c * sumQ vs)) = r3 at *
        clear w hz he k h1 h2 ih e1 e2 e3 e4 e5 e6 lz le' ly lc hz2 eC
        generalize ab (fQ y) = r4 at *
        generalize s1Q ys = r5 at *
        generalize (vs.length : Rat) = r6 at *
        grind

/-- Sizes of products, where one side's are at most about 1. -/
theorem da_le : ∀ (vs ys : List Nat), (∀ v ∈ vs, 1000 * ab (fQ v) ≤ 1001) → 1000 * daQ vs ys ≤ 1001 * s1Q ys := by
  intro vs
  induction vs with
  | nil =>
    intro ys _
    have e1 : daQ [] ys = 0 := by cases ys <;> rfl
    have := s1Q_0 ys
    rw [e1]
    grind
  | cons v vs ih =>
    intro ys h
    cases ys with
    | nil =>
      have e1 : daQ (v :: vs) [] = 0 := rfl
      have e2 : s1Q [] = 0 := rfl
      rw [e1, e2]
      grind
    | cons y ys =>
      have i := ih ys (fun w hw => h w (List.mem_cons_of_mem _ hw))
      have e1 : daQ (v :: vs) (y :: ys) = ab (fQ v * fQ y) + daQ vs ys := rfl
      have e2 : s1Q (y :: ys) = ab (fQ y) + s1Q ys := rfl
      have m := Rat.mul_le_mul_of_nonneg_left (h v List.mem_cons_self) (ab_0 (fQ y))
      rw [e1, e2, ab_mul]
      grind

/-- One number less a product. -/
theorem ap_one (t v y : Nat) (c Y : Rat) (ft : fFin t = true) (fv : fFin v = true) (fy : fFin y = true) (hv : 1000 * ab (fQ v) ≤ 1001) (hy : ab (fQ y) ≤ Y) (hY : Y ≤ p2 900) (hη : 1267650600228229401496703205376 * p2 (-1075) ≤ Y)
    (hc : 100 * ab c ≤ 201 * Y) (he : 9007199254740992 * ab (fQ t - c) ≤ 39 * Y) :
    fFin (aV y (fN (mV t v))) = true ∧ 9007199254740992 * ab (fQ (aV y (fN (mV t v))) - (fQ y - c * fQ v)) ≤ 46 * Y := by
  have hp := p2_pos (-1075)
  have Y0 : 0 ≤ Y := by grind
  have y0 := ab_0 (fQ y); have v0 := ab_0 (fQ v)
  have lt := le_ab (fQ t - c); have lc := le_ab c
  have ht2 : 1000 * ab (fQ t) ≤ 2011 * Y := by
    have := ab_le (x := fQ t) (y := ab (fQ t - c) + ab c) (by grind) (by grind)
    grind
  have big : 16 * p2 900 ≤ p2 1023 ∧ 0 < p2 900 := by
    have h1 := p2_mono (show (900 + 1 + 1 + 1 + 1 : Int) ≤ 1023 by decide)
    simp only [p2_succ] at h1
    exact ⟨by grind, p2_pos _⟩
  have t0 := ab_0 (fQ t)
  have m1 := Rat.mul_le_mul_of_nonneg_left hv t0
  have etv : ab (fQ t * fQ v) = ab (fQ t) * ab (fQ v) := ab_mul _ _
  have htv : 1000 * ab (fQ t * fQ v) ≤ 2014 * Y := by rw [etv]; grind
  obtain ⟨f1, e1⟩ := mul_err2 t v ft fv (by grind)
  have pl := mV_lt t v
  have fn : fFin (fN (mV t v)) = true := by rw [fFin_fN _ pl]; exact f1
  have qn := fQ_fN _ pl
  have l1 := le_ab (fQ (mV t v) - fQ t * fQ v); have l2 := le_ab (fQ t * fQ v); have l3 := le_ab (fQ y)
  have hp2 := ab_le (x := fQ y + -fQ (mV t v)) (y := ab (fQ y) + ab (fQ (mV t v) - fQ t * fQ v) + ab (fQ t * fQ v)) (by grind) (by grind)
  have fa := add_fin y (fN (mV t v)) fy fn (by rw [qn]; grind)
  have ea := add_err y (fN (mV t v)) fy fn fa
  rw [qn] at ea
  refine ⟨fa, ?_⟩
  have l4 := le_ab (fQ (aV y (fN (mV t v))) - (fQ y + -fQ (mV t v)))
  have hd2 : 9007199254740992 * ab ((fQ t - c) * fQ v) ≤ 40 * Y := by
    rw [ab_mul]
    have m2 := Rat.mul_le_mul_of_nonneg_left hv (ab_0 (fQ t - c))
    rw [show ab (fQ t - c) * (1000 * ab (fQ v)) = 1000 * (ab (fQ t - c) * ab (fQ v)) by grind] at m2
    generalize ab (fQ t - c) * ab (fQ v) = z at *
    clear l1 l2 l3 l4 lt lc
    grind
  have l5 := le_ab ((fQ t - c) * fQ v)
  have w : (fQ t - c) * fQ v = fQ t * fQ v - c * fQ v := by grind
  rw [w] at l5 hd2
  have fin := ab_le (x := fQ (aV y (fN (mV t v))) - (fQ y - c * fQ v)) (y := ab (fQ (aV y (fN (mV t v))) - (fQ y + -fQ (mV t v))) + ab (fQ (mV t v) - fQ t * fQ v) + ab (fQ t * fQ v - c * fQ v)) (by grind) (by grind)
  clear l1 l2 l3 l4 l5 lt lc w m1 etv
  generalize ab (fQ (aV y (fN (mV t v))) - (fQ y - c * fQ v)) = z0 at *
  generalize ab (fQ (aV y (fN (mV t v))) - (fQ y + -fQ (mV t v))) = z1 at *
  generalize ab (fQ (mV t v) - fQ t * fQ v) = z2 at *
  generalize ab (fQ t * fQ v - c * fQ v) = z3 at *
  generalize ab (fQ y + -fQ (mV t v)) = z4 at *
  generalize ab (fQ t * fQ v) = z5 at *
  generalize ab (fQ y) = z6 at *
  generalize p2 (-1075) = η at *
  grind

theorem ap_all (t : Nat) (c Y : Rat) (ft : fFin t = true) (hY : Y ≤ p2 900) (hη : 1267650600228229401496703205376 * p2 (-1075) ≤ Y) (hc : 100 * ab c ≤ 201 * Y) (he : 9007199254740992 * ab (fQ t - c) ≤ 39 * Y) :
    ∀ (vs ys : List Nat), vs.length = ys.length → (∀ v ∈ vs, fFin v = true ∧ 1000 * ab (fQ v) ≤ 1001) → (∀ y ∈ ys, fFin y = true ∧ ab (fQ y) ≤ Y) → lessQ c (46 * Y) vs ys (apV t vs ys) := by
  intro vs
  induction vs with
  | nil =>
    intro ys hl _ _
    cases ys with
    | nil => exact trivial
    | cons y ys => simp at hl
  | cons v vs ih =>
    intro ys hl hv hy
    cases ys with
    | nil => simp at hl
    | cons y ys =>
      obtain ⟨v1, v2⟩ := hv v List.mem_cons_self
      obtain ⟨y1, y2⟩ := hy y List.mem_cons_self
      show lessQ c (46 * Y) (v :: vs) (y :: ys) (aV y (fN (mV t v)) :: apV t vs ys)
      unfold lessQ
      exact ⟨ap_one t v y c Y ft v1 y1 v2 y2 hY hη hc he, ih ys (by simpa using hl) (fun w hw => hv w (List.mem_cons_of_mem _ hw)) (fun w hw => hy w (List.mem_cons_of_mem _ hw))⟩

theorem s1_mem : ∀ (xs : List Nat) (x : Nat), x ∈ xs → ab (fQ x) ≤ s1Q xs := by
  intro xs
  induction xs with
  | nil => intro x hx; cases hx
  | cons y ys ih =>
    intro x hx
    have q0 := s1Q_0 ys
    have q1 := ab_0 (fQ y)
    have e : s1Q (y :: ys) = ab (fQ y) + s1Q ys := rfl
    rw [e]
    rcases List.mem_cons.1 hx with rfl | hx
    · grind
    · have := ih x hx
      grind

/-- tau times the rounded sum of products, beside the exact one. -/
theorem tau_dot (tau : Nat) (vs ys : List Nat) (hl : vs.length ≤ 6) (ft : fFin tau = true) (ht : 1000 * ab (fQ tau) ≤ 2001) (hv : ∀ v ∈ vs, fFin v = true ∧ 1000 * ab (fQ v) ≤ 1001) (hy : ∀ y ∈ ys, fFin y = true)
    (hY : s1Q ys ≤ p2 900) (hη : 1267650600228229401496703205376 * p2 (-1075) ≤ s1Q ys) :
    fFin (mV tau (dtV 0 vs ys)) = true ∧ 100 * ab (fQ tau * dtQ vs ys) ≤ 201 * s1Q ys ∧ 9007199254740992 * ab (fQ (mV tau (dtV 0 vs ys)) - fQ tau * dtQ vs ys) ≤ 39 * s1Q ys ∧ 1000 * ab (dtQ vs ys) ≤ 1001 * s1Q ys := by
  have hp := p2_pos (-1075)
  have Y0 := s1Q_0 ys
  have big : 16 * p2 900 ≤ p2 1023 ∧ 0 < p2 900 ∧ 16 * p2 900 ≤ p2 1000 := by
    have h1 := p2_mono (show (900 + 1 + 1 + 1 + 1 : Int) ≤ 1023 by decide)
    have h2 := p2_mono (show (900 + 1 + 1 + 1 + 1 : Int) ≤ 1000 by decide)
    simp only [p2_succ] at h1 h2
    exact ⟨by grind, p2_pos _, by grind⟩
  have hda := da_le vs ys (fun v h => (hv v h).2)
  have hdt := dtQ_le vs ys
  have hd : 1000 * ab (dtQ vs ys) ≤ 1001 * s1Q ys := by grind
  obtain ⟨W, hW⟩ : ∃ W, 1000 * W = 1001 * s1Q ys := ⟨1001 * s1Q ys / 1000, by grind⟩
  obtain ⟨f1, e1⟩ := dot_err0 W vs ys (by omega) (by grind) (by grind) (fun v h => (hv v h).1) hy (by grind)
  have hl2 : (vs.length : Rat) ≤ 6 := Rat.natCast_le_natCast.2 hl
  have e2 : 9007199254740992 * ab (fQ (dtV 0 vs ys) - dtQ vs ys) ≤ 18 * W := by
    have := Rat.mul_nonneg (show 0 ≤ 6 - (vs.length : Rat) by grind) (show 0 ≤ W by grind)
    grind
  have l1 := le_ab (fQ (dtV 0 vs ys) - dtQ vs ys); have l2 := le_ab (dtQ vs ys)
  have hw := ab_le (x := fQ (dtV 0 vs ys)) (y := ab (fQ (dtV 0 vs ys) - dtQ vs ys) + ab (dtQ vs ys)) (by grind) (by grind)
  have t0 := ab_0 (fQ tau)
  have w0 := ab_0 (fQ (dtV 0 vs ys))
  have m1 := Rat.mul_le_mul_of_nonneg_left ht w0
  have m2 := Rat.mul_le_mul_of_nonneg_left ht (ab_0 (dtQ vs ys))
  have m3 := Rat.mul_le_mul_of_nonneg_left ht (ab_0 (fQ (dtV 0 vs ys) - dtQ vs ys))
  have n1 : 1000 * ab (fQ tau * fQ (dtV 0 vs ys)) ≤ 2001 * ab (fQ (dtV 0 vs ys)) := by rw [ab_mul]; grind
  have n2 : 1000 * ab (fQ tau * dtQ vs ys) ≤ 2001 * ab (dtQ vs ys) := by rw [ab_mul]; grind
  have n3 : 1000 * ab (fQ tau * (fQ (dtV 0 vs ys) - dtQ vs ys)) ≤ 2001 * ab (fQ (dtV 0 vs ys) - dtQ vs ys) := by rw [ab_mul]; grind
  obtain ⟨f2, e3⟩ := mul_err2 tau (dtV 0 vs ys) ft f1 (by grind)
  refine ⟨f2, by grind, ?_, hd⟩
  have l3 := le_ab (fQ (mV tau (dtV 0 vs ys)) - fQ tau * fQ (dtV 0 vs ys)); have l4 := le_ab (fQ tau * (fQ (dtV 0 vs ys) - dtQ vs ys))
  have w : fQ tau * (fQ (dtV 0 vs ys) - dtQ vs ys) = fQ tau * fQ (dtV 0 vs ys) - fQ tau * dtQ vs ys := by grind
  rw [w] at l4 n3
  have fin := ab_le (x := fQ (mV tau (dtV 0 vs ys)) - fQ tau * dtQ vs ys) (y := ab (fQ (mV tau (dtV 0 vs ys)) - fQ tau * fQ (dtV 0 vs ys)) + ab (fQ tau * fQ (dtV 0 vs ys) - fQ tau * dtQ vs ys)) (by grind) (by grind)
  clear l1 l2 l3 l4 m1 m2 m3 w e1
  generalize ab (fQ (mV tau (dtV 0 vs ys)) - fQ tau * dtQ vs ys) = z0 at *
  generalize ab (fQ (mV tau (dtV 0 vs ys)) - fQ tau * fQ (dtV 0 vs ys)) = z1 at *
  generalize ab (fQ tau * fQ (dtV 0 vs ys) - fQ tau * dtQ vs ys) = z2 at *
  generalize ab (fQ (dtV 0 vs ys) - dtQ vs ys) = z3 at *
  generalize ab (fQ tau * fQ (dtV 0 vs ys)) = z4 at *
  generalize ab (fQ (dtV 0 vs ys)) = z5 at *
  generalize ab (dtQ vs ys) = z6 at *
  generalize s1Q ys = Y at *
  generalize p2 (-1075) = η at *
  grind

/-- A column mirrored has the same square, but for a part in 2^38. -/
theorem house_col (tau : Nat) (vs ys : List Nat) (hl : vs.length ≤ 6) (hlen : vs.length = ys.length) (ft : fFin tau = true) (ht : 1000 * ab (fQ tau) ≤ 2001) (hv : ∀ v ∈ vs, fFin v = true ∧ 1000 * ab (fQ v) ≤ 1001) (hy : ∀ y ∈ ys, fFin y = true)
    (htv : 8796093022208 * ab (fQ tau * sumQ vs - 2) ≤ 1) (hY : s1Q ys ≤ p2 900) (hη : 1267650600228229401496703205376 * p2 (-1075) ≤ s1Q ys) :
    (∀ u ∈ apV (mV tau (dtV 0 vs ys)) vs ys, fFin u = true) ∧ 274877906944 * ab (sumQ (apV (mV tau (dtV 0 vs ys)) vs ys) - sumQ ys) ≤ sumQ ys := by
  obtain ⟨f1, c1, c2, c3⟩ := tau_dot tau vs ys hl ft ht hv hy hY hη
  have hp := p2_pos (-1075)
  have Y0 := s1Q_0 ys
  have hls := ap_all _ (fQ tau * dtQ vs ys) (s1Q ys) f1 hY hη c1 c2 vs ys hlen hv (fun y h => ⟨hy y h, s1_mem ys y h⟩)
  have fin : ∀ (vs ys us : List Nat) (c E : Rat), lessQ c E vs ys us → ∀ u ∈ us, fFin u = true := by
    intro vs
    induction vs with
    | nil =>
      intro ys us c E h u hu
      cases ys with
      | cons y ys => exact absurd h (by unfold lessQ; exact id)
      | nil =>
        cases us with
        | nil => cases hu
        | cons w us => exact absurd h (by unfold lessQ; exact id)
    | cons v vs ih =>
      intro ys us c E h u hu
      cases ys with
      | nil => exact absurd h (by unfold lessQ; exact id)
      | cons y ys =>
        cases us with
        | nil => cases hu
        | cons w us =>
          unfold lessQ at h
          rcases List.mem_cons.1 hu with rfl | hu
          · exact h.1.1
          · exact ih ys us c E h.2 u hu
  refine ⟨fin _ _ _ _ _ hls, ?_⟩
  obtain ⟨C, hC⟩ : ∃ C, 100 * C = 202 * s1Q ys := ⟨202 * s1Q ys / 100, by grind⟩
  have hcv : ∀ v ∈ vs, ab (fQ tau * dtQ vs ys * fQ v) ≤ C := fun v h => by
    rw [ab_mul]
    have m := Rat.mul_le_mul_of_nonneg_left (hv v h).2 (ab_0 (fQ tau * dtQ vs ys))
    generalize ab (fQ tau * dtQ vs ys) = z at *
    grind
  have hsq := less_sq (fQ tau * dtQ vs ys) (46 * s1Q ys) C (by grind) (by grind) vs ys _ hcv hls
  generalize apV (mV tau (dtV 0 vs ys)) vs ys = us at *
  have hl2 : (vs.length : Rat) ≤ 6 := Rat.natCast_le_natCast.2 hl
  have hCn := Rat.mul_nonneg (show 0 ≤ 6 - (vs.length : Rat) by grind) (show 0 ≤ C by grind)
  have hsq2 : 9007199254740992 * ab (sumQ us - (sumQ ys - 2 * (fQ tau * dtQ vs ys * dtQ vs ys) + fQ tau * dtQ vs ys * (fQ tau * dtQ vs ys) * sumQ vs)) ≤ 1766 * (s1Q ys * s1Q ys) := by
    have m := Rat.mul_le_mul_of_nonneg_left (show 2 * s1Q ys + 3 * ((vs.length : Rat) * C) ≤ 2 * s1Q ys + 18 * C by grind) (show 0 ≤ 46 * s1Q ys by grind)
    have e : 46 * s1Q ys * (2 * s1Q ys + 18 * C) = 92 * (s1Q ys * s1Q ys) + 828 * (s1Q ys * C) := by grind
    have e2 : 100 * (s1Q ys * C) = 202 * (s1Q ys * s1Q ys) := by
      have : s1Q ys * (100 * C) = s1Q ys * (202 * s1Q ys) := by rw [hC]
      grind
    rw [e] at m
    have q := sq_nonneg (s1Q ys)
    refine Rat.le_trans hsq (Rat.le_trans m ?_)
    generalize s1Q ys * C = z1 at *
    generalize s1Q ys * s1Q ys = z2 at *
    clear hsq hcv hls
    grind
  have hcs := s1Q_sq ys
  rw [← hlen] at hcs
  have Q0 := sumQ_nonneg ys
  have hcs2 : s1Q ys * s1Q ys ≤ 6 * sumQ ys := by
    have := Rat.mul_nonneg (show 0 ≤ 6 - (vs.length : Rat) by grind) Q0
    grind
  -- the exact mirror
  have hex : sumQ ys - 2 * (fQ tau * dtQ vs ys * dtQ vs ys) + fQ tau * dtQ vs ys * (fQ tau * dtQ vs ys) * sumQ vs = sumQ ys + fQ tau * (fQ tau * sumQ vs - 2) * (dtQ vs ys * dtQ vs ys) := by grind
  rw [hex] at hsq2
  have qd : dtQ vs ys * dtQ vs ys = ab (dtQ vs ys) * ab (dtQ vs ys) := by rw [← ab_mul]; exact (ab_pos (sq_nonneg _)).symm
  have d0 := ab_0 (dtQ vs ys)
  have hqq : 1000 * (dtQ vs ys * dtQ vs ys) ≤ 1003 * (s1Q ys * s1Q ys) := by
    rw [qd]
    have m1 := Rat.mul_le_mul_of_nonneg_left c3 d0
    have m2 := Rat.mul_le_mul_of_nonneg_left c3 Y0
    have q := sq_nonneg (s1Q ys)
    grind
  have hm : 8796093022208 * ab (fQ tau * (fQ tau * sumQ vs - 2) * (dtQ vs ys * dtQ vs ys)) ≤ 3 * (s1Q ys * s1Q ys) := by
    rw [ab_mul, ab_mul, ab_pos (x := dtQ vs ys * dtQ vs ys) (sq_nonneg _)]
    have q2 := sq_nonneg (dtQ vs ys)
    have t0 := ab_0 (fQ tau)
    have m1 := Rat.mul_le_mul_of_nonneg_left htv t0
    have m2 : 8796093022208 * (ab (fQ tau) * ab (fQ tau * sumQ vs - 2)) ≤ ab (fQ tau) := by grind
    have m3 := Rat.mul_le_mul_of_nonneg_left m2 q2
    have m4 := Rat.mul_le_mul_of_nonneg_left ht q2
    have q := sq_nonneg (s1Q ys)
    generalize ab (fQ tau) * ab (fQ tau * sumQ vs - 2) = z at *
    grind
  have l1 := le_ab (fQ tau * (fQ tau * sumQ vs - 2) * (dtQ vs ys * dtQ vs ys))
  generalize fQ tau * (fQ tau * sumQ vs - 2) * (dtQ vs ys * dtQ vs ys) = X at *
  have l2 := le_ab (sumQ us - (sumQ ys + X))
  have fin2 := ab_le (x := sumQ us - sumQ ys) (y := ab (sumQ us - (sumQ ys + X)) + ab X) (by grind) (by grind)
  clear hsq hcv hls l1 l2 hex qd hqq hCn
  generalize ab (sumQ us - (sumQ ys + X)) = z1 at *
  generalize ab (sumQ us - sumQ ys) = z2 at *
  generalize ab X = z3 at *
  generalize s1Q ys * s1Q ys = z4 at *
  grind

end Go.Proofs.YtimejpbmehegeaaGreatDoor

/- A vector mirrored by its own mirror. Ahead of stage 13. -/
namespace Go.Proofs.YtimejpbmehegeaaGreatDoor
open Go.RowKit

/-- tau times v's product with the vector is a - b: G the others' part of that product. -/
theorem mirror_own (a b R d t G : Rat) (hR : 0 ≤ R) (hsg : (0 < b ∧ a ≤ 0) ∨ (b < 0 ∧ 0 ≤ a)) (h1 : 9007199254740992 * ab (b * b - (a * a + R)) ≤ 135 * (a * a + R))
    (h2 : 9007199254740992 * ab (d - (a - b)) ≤ ab (a - b)) (h3 : 9007199254740992 * ab (t * b + (a - b)) ≤ 4 * ab (a - b)) (h4 : 4503599627370496 * ab a ≤ 4503599627370496 * ab b + 70 * ab b) (h5 : 9007199254740992 * ab (G * d - R) ≤ 2 * R) (ht : 1000 * ab t ≤ 2001) :
    9007199254740992 * ab (t * (a + G) - (a - b)) ≤ 300 * ab (a - b) := by
  obtain ⟨D, hD⟩ : ∃ D, a - b = D := ⟨_, rfl⟩
  have D0 : D ≠ 0 := by intro e; grind
  obtain ⟨I, hI⟩ : ∃ I, D * I = 1 := ⟨D⁻¹, Rat.mul_inv_cancel D D0⟩
  rw [hD] at h2 h3
  have aDI : ab D * ab I = 1 := by rw [← ab_mul, hI]; exact ab_pos (by decide)
  have I0 := ab_0 I
  have qI := sq_nonneg I
  have eII : ab I * ab I = I * I := by rw [← ab_mul]; exact ab_pos qI
  -- r and α
  obtain ⟨r, hr⟩ : ∃ r, b * I = r := ⟨_, rfl⟩
  obtain ⟨α, hα⟩ : ∃ α, a * I = α := ⟨_, rfl⟩
  have har : α - r = 1 := by rw [← hα, ← hr, ← hI, ← hD]; grind
  have qa := sq_nonneg a; have qb := sq_nonneg b
  have hα0 : 0 ≤ α := by
    have e : α = a * D * (I * I) := by rw [← hα]; have : I = D * I * I := by rw [hI, Rat.one_mul]
                                       grind
    rw [e]
    refine Rat.mul_nonneg ?_ qI
    rw [← hD]
    rcases hsg with ⟨g1, g2⟩ | ⟨g1, g2⟩
    · have := Rat.mul_nonneg (show 0 ≤ -a by grind) (Rat.le_of_lt g1)
      grind
    · have := Rat.mul_nonneg g2 (show 0 ≤ -b by grind)
      grind
  have hr0 : r ≤ 0 := by
    have e : -r = -(b * D) * (I * I) := by rw [← hr]; have : I = D * I * I := by rw [hI, Rat.one_mul]
                                           grind
    have : 0 ≤ -r := by
      rw [e]
      refine Rat.mul_nonneg ?_ qI
      rw [← hD]
      rcases hsg with ⟨g1, g2⟩ | ⟨g1, g2⟩
      · have := Rat.mul_nonneg (show 0 ≤ -a by grind) (Rat.le_of_lt g1)
        grind
      · have := Rat.mul_nonneg g2 (show 0 ≤ -b by grind)
        grind
    grind
  have ea : ab a * ab I = α := by rw [← ab_mul, hα]; exact ab_pos hα0
  have eb : ab b * ab I = -r := by rw [← ab_mul, hr]; unfold ab; grind
  have hα2 : 4503599627370496 * α ≤ 4503599627370496 * -r + 70 * -r := by
    have := Rat.mul_le_mul_of_nonneg_left h4 I0
    rw [← ea, ← eb]
    grind
  have hr1 : -1 ≤ r := by grind
  have hr2 : 100 * r ≤ -49 := by grind
  -- ε
  obtain ⟨ε, hε⟩ : ∃ ε, (d - D) * I = ε := ⟨_, rfl⟩
  have hdI : d * I = 1 + ε := by rw [← hε, ← hI]; grind
  have bε : 9007199254740992 * ab ε ≤ 1 := by
    rw [← hε, ab_mul, ← aDI]
    have := Rat.mul_le_mul_of_nonneg_left h2 I0
    grind
  -- ρ
  obtain ⟨ρ, hρ⟩ : ∃ ρ, R * (I * I) = ρ := ⟨_, rfl⟩
  have bρ : 9007199254740992 * ab (ρ + 1 + 2 * r) ≤ 137 := by
    have e : ρ + 1 + 2 * r = -((b * b - (a * a + R)) * (I * I)) := by
      have e1 : b * b * (I * I) = r * r := by rw [← hr]; grind
      have e2 : a * a * (I * I) = α * α := by rw [← hα]; grind
      have e3 : -((b * b - (a * a + R)) * (I * I)) = a * a * (I * I) + R * (I * I) - b * b * (I * I) := by grind
      rw [e3, e1, e2, hρ, show α = 1 + r by grind]
      grind
    rw [e, ab_neg, ab_mul, ab_pos (x := I * I) qI]
    have l := le_ab (b * b - (a * a + R))
    have h6 : 9007199254740992 * ab (b * b - (a * a + R)) ≤ 136 * (b * b) := by
      generalize ab (b * b - (a * a + R)) = z at *
      grind
    have m := Rat.mul_le_mul_of_nonneg_left h6 qI
    have e1 : I * I * (136 * (b * b)) = 136 * (r * r) := by rw [← hr]; grind
    rw [e1] at m
    have rr := Rat.mul_nonneg (show 0 ≤ 1 + r by grind) (show 0 ≤ 1 - r by grind)
    have rr2 := sq_nonneg r
    grind
  have bτ : 9007199254740992 * ab (t * r + 1) ≤ 4 := by
    have e : t * r + 1 = (t * b + D) * I := by rw [← hr, ← hI]; grind
    rw [e, ab_mul]
    have m := Rat.mul_le_mul_of_nonneg_left h3 I0
    grind
  obtain ⟨g, hg⟩ : ∃ g, G * I = g := ⟨_, rfl⟩
  have bG : 9007199254740992 * ab (g * (1 + ε) - ρ) ≤ 2 * ρ := by
    have e : g * (1 + ε) - ρ = (G * d - R) * (I * I) := by rw [← hdI, ← hρ, ← hg]; grind
    rw [e, ab_mul, ab_pos (x := I * I) qI, ← hρ]
    have m := Rat.mul_le_mul_of_nonneg_left h5 qI
    grind
  have ρ0 : 0 ≤ ρ := by rw [← hρ]; exact Rat.mul_nonneg hR qI
  have lρ := le_ab (ρ + 1 + 2 * r)
  have ρ1 : 10 * ρ ≤ 11 := by grind
  -- (α + g) (1 + ε) = -r + small
  obtain ⟨k, hk⟩ : ∃ k, (α + g) * (1 + ε) + r = k := ⟨_, rfl⟩
  have bk : 9007199254740992 * ab k ≤ 141 := by
    have aε := ab_mul_le (x := α) (y := ε) (ab_le (by grind) (by grind))
    have l1 := le_ab (α * ε); have l2 := le_ab (g * (1 + ε) - ρ)
    have e : k = (ρ + 1 + 2 * r) + α * ε + (g * (1 + ε) - ρ) := by rw [← hk, show α = 1 + r by grind]; grind
    rw [e]
    refine Rat.le_trans (Rat.mul_le_mul_of_nonneg_left (ab_le (y := ab (ρ + 1 + 2 * r) + ab (α * ε) + ab (g * (1 + ε) - ρ)) (by grind) (by grind)) (by decide)) ?_
    generalize ab (ρ + 1 + 2 * r) = z1 at *
    generalize ab (g * (1 + ε) - ρ) = z2 at *
    generalize ab (α * ε) = z3 at *
    grind
  obtain ⟨θ, hθ⟩ : ∃ θ, t * r + 1 = θ := ⟨_, rfl⟩
  rw [hθ] at bτ
  have tk : 9007199254740992 * ab (t * k) ≤ 283 := by
    rw [ab_mul]
    have m := Rat.mul_le_mul_of_nonneg_left ht (ab_0 k)
    rw [show ab k * (1000 * ab t) = 1000 * (ab t * ab k) by grind] at m
    generalize ab t * ab k = z at *
    grind
  obtain ⟨m, hm⟩ : ∃ m, t * (α + g) - 1 = m := ⟨_, rfl⟩
  have lε := le_ab ε; have lθ := le_ab θ; have ltk := le_ab (t * k); have lm := le_ab m
  have e1 : m + (1 + m) * ε = t * k - θ := by rw [← hm, ← hk, ← hθ]; grind
  have mε := ab_mul (ε) m
  have bm : 9007199254740992 * ab m ≤ 290 := by
    have q : 9007199254740992 * ab (ε * m) ≤ ab m := by
      rw [ab_mul]
      have := Rat.mul_le_mul_of_nonneg_left bε (ab_0 m)
      grind
    have lq := le_ab (ε * m)
    have e2 : m = t * k - θ - ε - ε * m := by grind
    have := ab_le (x := m) (y := ab (t * k) + ab θ + ab ε + ab (ε * m)) (by grind) (by grind)
    generalize ab (ε * m) = z1 at *
    generalize ab m = z2 at *
    generalize ab (t * k) = z3 at *
    generalize ab θ = z4 at *
    generalize ab ε = z5 at *
    clear e2 e1 lm ltk lθ lε lq hm hk hθ mε
    grind
  -- back: times D
  rw [hD]
  have e3 : t * (a + G) - D = m * D := by
    rw [← hm]
    have e4 : (t * (α + g) - 1) * D = t * ((a * I) * D + (G * I) * D) - D := by rw [← hα, ← hg]; grind
    rw [e4, show a * I * D = a * (D * I) by grind, show G * I * D = G * (D * I) by grind, hI]
    grind
  rw [e3, ab_mul]
  have mm := Rat.mul_le_mul_of_nonneg_left bm (ab_0 D)
  rw [show ab D * (9007199254740992 * ab m) = 9007199254740992 * (ab m * ab D) by grind] at mm
  have D1 := ab_0 D
  generalize ab m * ab D = z at *
  grind

end Go.Proofs.YtimejpbmehegeaaGreatDoor

/- The mirror of tame numbers, all together; columns mirrored; a vector by its own mirror. Ahead of stage 13. -/
namespace Go.Proofs.YtimejpbmehegeaaGreatDoor
open Go.RowKit

theorem fQ_one : fQ 4607182418800017408 = 1 := by
  have hs : fS 4607182418800017408 = false := by decide
  have hr : fR 4607182418800017408 = 4607182418800017408 := by decide
  obtain ⟨K, hK⟩ : ∃ K : Nat, K = 1022 := ⟨_, rfl⟩
  have hg : rv 4607182418800017408 = 4503599627370496 * 2 ^ K := by
    have := gM_rv 4607182418800017408 (by decide)
    rw [this, show gM 4607182418800017408 = 4503599627370496 by decide, show 4607182418800017408 / 4503599627370496 - 1 = K by omega]
  rw [fQ_sign, hs, if_neg (by decide), hr, hg, Rat.natCast_mul, ← p2_nat]
  have e : p2 ((K : Nat) : Int) = 4503599627370496 * p2 970 := by
    rw [show ((K : Nat) : Int) = 970 + 52 by omega, p2_52]
  have e2 : 4503599627370496 * (4503599627370496 * p2 970) = p2 1074 := by
    rw [← p2_52, ← p2_52]; rfl
  have k : ((4503599627370496 : Nat) : Rat) = 4503599627370496 := rfl
  rw [k, e, e2, Rat.mul_comm]
  exact p2_neg 1074

theorem quos_size (d μ : Rat) (hμ : 0 < μ) (hd : 1000000 * μ ≤ 1000001 * ab d) : ∀ (vs xs : List Nat), quosQ d vs xs → (∀ x ∈ xs, 1000000 * ab (fQ x) ≤ 1000001 * μ) → ∀ v ∈ vs, 1000 * ab (fQ v) ≤ 1001 := by
  intro vs
  induction vs with
  | nil => intro xs _ _ v hv; cases hv
  | cons w vs ih =>
    intro xs hq hx v hv
    cases xs with
    | nil => exact absurd hq (by unfold quosQ; exact id)
    | cons x xs =>
      unfold quosQ at hq
      rcases List.mem_cons.1 hv with rfl | hv
      · have h1 := hq.1
        have h2 := hx x List.mem_cons_self
        have l1 := le_ab (fQ v * d - fQ x); have l2 := le_ab (fQ x)
        have t := ab_le (x := fQ v * d) (y := ab (fQ v * d - fQ x) + ab (fQ x)) (by grind) (by grind)
        rw [ab_mul] at t
        rcases Rat.le_total (a := 1000 * ab (fQ v)) (b := 1001) with g | g
        · exact g
        · exfalso
          have d0 : 0 < ab d := by grind
          have m := Rat.mul_le_mul_of_nonneg_left g (Rat.le_of_lt d0)
          rw [show ab d * (1000 * ab (fQ v)) = 1000 * (ab (fQ v) * ab d) by grind] at m
          generalize ab (fQ v) * ab d = z at *
          generalize ab (fQ v * d - fQ x) = z1 at *
          clear l1 l2
          grind
      · exact ih xs hq.2 (fun y hy => hx y (List.mem_cons_of_mem _ hy)) v hv

/-- The mirror of tame numbers: v, tau. -/
theorem house_facts (a b d t : Nat) (xs vs : List Nat) (hl : (a :: xs).length ≤ 64) (h : TameV 200 (a :: xs)) (h0 : bgF 0 (a :: xs) ≠ 0) (hb : b < 18446744073709551616) (fb : fFin b = true) (b0 : fK b ≠ 0)
    (hs : (fQ b = fQ (nrV (a :: xs)) ∧ fQ a ≤ 0) ∨ (fQ b = -fQ (nrV (a :: xs)) ∧ 0 ≤ fQ a)) (hd : d = aV a (fN b)) (ht : t = dV (aV b (fN a)) b) (hv : vs = xs.map (fun x => dV x d)) :
    fFin t = true ∧ 1000 * ab (fQ t) ≤ 2001 ∧ 9007199254740992 * fQ t ≤ 18014398509481984 + 200 ∧ 9007199254740992 ≤ 9007199254740992 * fQ t + 5 ∧
    (∀ v ∈ 4607182418800017408 :: vs, fFin v = true ∧ 1000 * ab (fQ v) ≤ 1001) ∧ 8796093022208 * ab (fQ t * sumQ (4607182418800017408 :: vs) - 2) ≤ 1 ∧
    quosQ (fQ d) vs xs ∧ 9007199254740992 * ab (fQ d - (fQ a - fQ b)) ≤ ab (fQ a - fQ b) ∧ ab (fQ a - fQ b) = ab (fQ a) + ab (fQ b) ∧ ab (fQ b) = fQ (nrV (a :: xs)) ∧
    9007199254740992 * ab (fQ t * (fQ a + dtQ vs xs) - (fQ a - fQ b)) ≤ 300 * ab (fQ a - fQ b) := by
  obtain ⟨m1, m2, m3, m4, m5, m6, m7, m8, m9⟩ := house_make a b xs hl h h0 hb fb b0 hs
  rw [← hd] at m1 m3 m4 m5
  rw [← ht] at m2 m8
  rw [← hv] at m3 m4
  obtain ⟨n1, n2, n3, n4, n5, n6, n7⟩ := norm_size (a :: xs) hl h h0
  obtain ⟨s1, s2⟩ := quos_sq (fQ d) vs xs m4
  have es : sumQ (a :: xs) = fQ a * fQ a + sumQ xs := rfl
  rw [es] at n4
  have n4' : 9007199254740992 * ab (fQ b * fQ b - (fQ a * fQ a + sumQ xs)) ≤ 135 * (fQ a * fQ a + sumQ xs) := by
    have : fQ b * fQ b = fQ (nrV (a :: xs)) * fQ (nrV (a :: xs)) := by
      rcases hs with ⟨e, _⟩ | ⟨e, _⟩ <;> rw [e] <;> grind
    rw [this]; exact n4
  have hsg : (0 < fQ b ∧ fQ a ≤ 0) ∨ (fQ b < 0 ∧ 0 ≤ fQ a) := by
    rcases hs with ⟨e, g⟩ | ⟨e, g⟩
    · exact .inl ⟨by rw [e]; exact n1, g⟩
    · exact .inr ⟨by rw [e]; grind, g⟩
  obtain ⟨k1, k2, k3⟩ := mirror_norm (fQ a) (fQ b) (sumQ xs) (fQ d) (fQ t) (sumQ vs) (sumQ_nonneg xs) hsg n4' m5 m8 m9 s1
  have ht2 : 1000 * ab (fQ t) ≤ 2001 := by rw [ab_pos (by grind)]; grind
  have own := mirror_own (fQ a) (fQ b) (sumQ xs) (fQ d) (fQ t) (dtQ vs xs) (sumQ_nonneg xs) hsg n4' m5 m8 m9 s2 ht2
  have hdl : 1000000 * fQ (nrV (a :: xs)) ≤ 1000001 * ab (fQ d) := by
    have l := le_ab (fQ d - (fQ a - fQ b)); have l2 := le_ab (fQ d)
    have t := ab_le (x := fQ a - fQ b) (y := ab (fQ d - (fQ a - fQ b)) + ab (fQ d)) (by grind) (by grind)
    have a0 := ab_0 (fQ a)
    have m5' := m5
    rw [m6, m7] at m5' t
    clear l l2 hsg hs n7 h m3 own k1 s1 s2 n4 n4' m5 m8 m4 hl h0
    generalize ab (fQ d - (fQ a - fQ b)) = z at *
    grind
  have hsz := quos_size (fQ d) _ n1 hdl vs xs m4 (fun x hx => n7 x (List.mem_cons_of_mem _ hx))
  refine ⟨m2, ht2, k2, k3, ?_, ?_, m4, m5, m6, m7, own⟩
  · intro v hv2
    rcases List.mem_cons.1 hv2 with rfl | hv2
    · rw [fQ_one]
      exact ⟨by decide, by unfold ab; grind⟩
    · exact ⟨m3 v hv2, hsz v hv2⟩
  · have e : sumQ (4607182418800017408 :: vs) = 1 + sumQ vs := by
      show fQ 4607182418800017408 * fQ 4607182418800017408 + sumQ vs = _
      rw [fQ_one]
      grind
    rw [e]
    exact k1

end Go.Proofs.YtimejpbmehegeaaGreatDoor

