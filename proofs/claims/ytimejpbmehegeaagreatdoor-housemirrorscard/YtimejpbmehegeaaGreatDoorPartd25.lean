/- Part 25 of the texts. -/
import Derived.Test.YtimejpbmehegeaaGreatDoorPartd24
import Derived.Test.YtimejpbmehegeaaGreatDoorPartd19
import Derived.Test.YtimejpbmehegeaaGreatDoorPartd18
/- The mirror of tame numbers, all together; columns mirrored; a vector by its own mirror. Ahead of stage 13. -/
namespace Go.Proofs.YtimejpbmehegeaaGreatDoor
open Go.RowKit

theorem fQ_one : fQ 4607182418800017408 = 1 := by
  have hs : fS 4607182418800017408 = false := by decide
  have hr : fR 4607182418800017408 = 4607182418800017408 := by decide
  obtain ⟨K, hK⟩ : ∃ K : Nat, K = 1022 := ⟨_, rfl⟩
  have hg : rv 4607182418800017408 = 4503599627370496 * 2 ^ K := by
    have := gM_rv 4607182418800017408 (by decide)
    rw [this, show gM 4607182418800017408 = 4503599627370496 by decide, show 4607182418800017408 / 4503599627370496 - 1 = K by omega]
  rw [fQ_sign, hs, if_neg (by decide), hr, hg, Rat.natCast_mul, ← p2_nat]
  have e : p2 ((K : Nat) : Int) = 4503599627370496 * p2 970 := by
    rw [show ((K : Nat) : Int) = 970 + 52 by omega, p2_52]
  have e2 : 4503599627370496 * (4503599627370496 * p2 970) = p2 1074 := by
    rw [← p2_52, ← p2_52]; rfl
  have k : ((4503599627370496 : Nat) : Rat) = 4503599627370496 := rfl
  rw [k, e, e2, Rat.mul_comm]
  exact p2_neg 1074

theorem quos_size (d μ : Rat) (hμ : 0 < μ) (hd : 1000000 * μ ≤ 1000001 * ab d) : ∀ (vs xs : List Nat), quosQ d vs xs → (∀ x ∈ xs, 1000000 * ab (fQ x) ≤ 1000001 * μ) → ∀ v ∈ vs, 1000 * ab (fQ v) ≤ 1001 := by
  intro vs
  induction vs with
  | nil => intro xs _ _ v hv; cases hv
  | cons w vs ih =>
    intro xs hq hx v hv
    cases xs with
    | nil => exact absurd hq (by unfold quosQ; exact id)
    | cons x xs =>
      unfold quosQ at hq
      rcases List.mem_cons.1 hv with rfl | hv
      · have h1 := hq.1
        have h2 := hx x List.mem_cons_self
        have l1 := le_ab (fQ v * d - fQ x); have l2 := le_ab (fQ x)
        have t := ab_le (x := fQ v * d) (y := ab (fQ v * d - fQ x) + ab (fQ x)) (by grind) (by grind)
        rw [ab_mul] at t
        rcases Rat.le_total (a := 1000 * ab (fQ v)) (b := 1001) with g | g
        · exact g
        · exfalso
          have d0 : 0 < ab d := by grind
          have m := Rat.mul_le_mul_of_nonneg_left g (Rat.le_of_lt d0)
          rw [show ab d * (1000 * ab (fQ v)) = 1000 * (ab (fQ v) * ab d) by grind] at m
          generalize ab (fQ v) * ab d = z at *
          generalize ab (fQ v * d - fQ x) = z1 at *
          clear l1 l2
          grind
      · exact ih xs hq.2 (fun y hy => hx y (List.mem_cons_of_mem _ hy)) v hv

/-- The mirror of tame numbers: v, tau. -/
theorem house_facts (a b d t : Nat) (xs vs : List Nat) (hl : (a :: xs).length ≤ 64) (h : TameV 200 (a :: xs)) (h0 : bgF 0 (a :: xs) ≠ 0) (hb : b < 18446744073709551616) (fb : fFin b = true) (b0 : fK b ≠ 0)
    (hs : (fQ b = fQ (nrV (a :: xs)) ∧ fQ a ≤ 0) ∨ (fQ b = -fQ (nrV (a :: xs)) ∧ 0 ≤ fQ a)) (hd : d = aV a (fN b)) (ht : t = dV (aV b (fN a)) b) (hv : vs = xs.map (fun x => dV x d)) :
    fFin t = true ∧ 1000 * ab (fQ t) ≤ 2001 ∧ 9007199254740992 * fQ t ≤ 18014398509481984 + 200 ∧ 9007199254740992 ≤ 9007199254740992 * fQ t + 5 ∧
    (∀ v ∈ 4607182418800017408 :: vs, fFin v = true ∧ 1000 * ab (fQ v) ≤ 1001) ∧ 8796093022208 * ab (fQ t * sumQ (4607182418800017408 :: vs) - 2) ≤ 1 ∧
    quosQ (fQ d) vs xs ∧ 9007199254740992 * ab (fQ d - (fQ a - fQ b)) ≤ ab (fQ a - fQ b) ∧ ab (fQ a - fQ b) = ab (fQ a) + ab (fQ b) ∧ ab (fQ b) = fQ (nrV (a :: xs)) ∧
    9007199254740992 * ab (fQ t * (fQ a + dtQ vs xs) - (fQ a - fQ b)) ≤ 300 * ab (fQ a - fQ b) := by
  obtain ⟨m1, m2, m3, m4, m5, m6, m7, m8, m9⟩ := house_make a b xs hl h h0 hb fb b0 hs
  rw [← hd] at m1 m3 m4 m5
  rw [← ht] at m2 m8
  rw [← hv] at m3 m4
  obtain ⟨n1, n2, n3, n4, n5, n6, n7⟩ := norm_size (a :: xs) hl h h0
  obtain ⟨s1, s2⟩ := quos_sq (fQ d) vs xs m4
  have es : sumQ (a :: xs) = fQ a * fQ a + sumQ xs := rfl
  rw [es] at n4
  have n4' : 9007199254740992 * ab (fQ b * fQ b - (fQ a * fQ a + sumQ xs)) ≤ 135 * (fQ a * fQ a + sumQ xs) := by
    have : fQ b * fQ b = fQ (nrV (a :: xs)) * fQ (nrV (a :: xs)) := by
      rcases hs with ⟨e, _⟩ | ⟨e, _⟩ <;> rw [e] <;> grind
    rw [this]; exact n4
  have hsg : (0 < fQ b ∧ fQ a ≤ 0) ∨ (fQ b < 0 ∧ 0 ≤ fQ a) := by
    rcases hs with ⟨e, g⟩ | ⟨e, g⟩
    · exact .inl ⟨by rw [e]; exact n1, g⟩
    · exact .inr ⟨by rw [e]; grind, g⟩
  obtain ⟨k1, k2, k3⟩ := mirror_norm (fQ a) (fQ b) (sumQ xs) (fQ d) (fQ t) (sumQ vs) (sumQ_nonneg xs) hsg n4' m5 m8 m9 s1
  have ht2 : 1000 * ab (fQ t) ≤ 2001 := by rw [ab_pos (by grind)]; grind
  have own := mirror_own (fQ a) (fQ b) (sumQ xs) (fQ d) (fQ t) (dtQ vs xs) (sumQ_nonneg xs) hsg n4' m5 m8 m9 s2 ht2
  have hdl : 1000000 * fQ (nrV (a :: xs)) ≤ 1000001 * ab (fQ d) := by
    have l := le_ab (fQ d - (fQ a - fQ b)); have l2 := le_ab (fQ d)
    have t := ab_le (x := fQ a - fQ b) (y := ab (fQ d - (fQ a - fQ b)) + ab (fQ d)) (by grind) (by grind)
    have a0 := ab_0 (fQ a)
    have m5' := m5
    rw [m6, m7] at m5' t
    clear l l2 hsg hs n7 h m3 own k1 s1 s2 n4 n4' m5 m8 m4 hl h0
    generalize ab (fQ d - (fQ a - fQ b)) = z at *
    grind
  have hsz := quos_size (fQ d) _ n1 hdl vs xs m4 (fun x hx => n7 x (List.mem_cons_of_mem _ hx))
  refine ⟨m2, ht2, k2, k3, ?_, ?_, m4, m5, m6, m7, own⟩
  · intro v hv2
    rcases List.mem_cons.1 hv2 with rfl | hv2
    · rw [fQ_one]
      exact ⟨by decide, by unfold ab; grind⟩
    · exact ⟨m3 v hv2, hsz v hv2⟩
  · have e : sumQ (4607182418800017408 :: vs) = 1 + sumQ vs := by
      show fQ 4607182418800017408 * fQ 4607182418800017408 + sumQ vs = _
      rw [fQ_one]
      grind
    rw [e]
    exact k1

theorem mul_le_five {l x : Rat} (h : l ≤ 5) (hx : 0 ≤ x) : l * x ≤ 5 * x := by
  have := Rat.mul_le_mul_of_nonneg_left h hx
  grind

/-- A vector by its own mirror: beta, and then noughts. -/
theorem house_own (a b d t u : Nat) (xs vs us : List Nat) (hl : (a :: xs).length ≤ 6) (h : TameV 200 (a :: xs)) (h0 : bgF 0 (a :: xs) ≠ 0) (hb : b < 18446744073709551616) (fb : fFin b = true) (b0 : fK b ≠ 0)
    (hs : (fQ b = fQ (nrV (a :: xs)) ∧ fQ a ≤ 0) ∨ (fQ b = -fQ (nrV (a :: xs)) ∧ 0 ≤ fQ a)) (hd : d = aV a (fN b)) (ht : t = dV (aV b (fN a)) b) (hv : vs = xs.map (fun x => dV x d))
    (hu : u :: us = apV (mV t (dtV 0 (4607182418800017408 :: vs) (a :: xs))) (4607182418800017408 :: vs) (a :: xs)) (hul : us.length ≤ 5) :
    fFin u = true ∧ (∀ w ∈ us, fFin w = true) ∧ 1208925819614629174706176 * ((fQ u - fQ b) * (fQ u - fQ b) + sumQ us) ≤ fQ b * fQ b := by
  obtain ⟨f1, f2, f3, f4, f5, f6, f7, f8, f9, f10, f11⟩ := house_facts a b d t xs vs (by omega) h h0 hb fb b0 hs hd ht hv
  obtain ⟨n1, n2, n3, n4, n5, n6, n7⟩ := norm_size (a :: xs) (by omega) h h0
  have hlen : (4607182418800017408 :: vs).length = (a :: xs).length := by rw [hv]; simp
  obtain ⟨μ, hμ⟩ : ∃ μ, fQ (nrV (a :: xs)) = μ := ⟨_, rfl⟩
  rw [hμ] at n1 n5 n6 n7 f10
  -- sizes
  have hx1 : ∀ x ∈ a :: xs, 1000 * ab (fQ x) ≤ 1001 * μ := fun x hx => by have := n7 x hx; grind
  have hs1 : ∀ ys : List Nat, (∀ x ∈ ys, 1000000 * ab (fQ x) ≤ 1000001 * μ) → 1000000 * s1Q ys ≤ (ys.length : Rat) * (1000001 * μ) := by
    intro ys
    induction ys with
    | nil =>
      intro _
      have e1 : s1Q [] = 0 := rfl
      have e2 : (([] : List Nat).length : Rat) = 0 := rfl
      rw [e1, e2]; grind
    | cons y ys ih =>
      intro hy
      have i := ih (fun z hz => hy z (List.mem_cons_of_mem _ hz))
      have hy1 := hy y List.mem_cons_self
      have e1 : s1Q (y :: ys) = ab (fQ y) + s1Q ys := rfl
      have e2 : ((y :: ys).length : Rat) = (ys.length : Rat) + 1 := by rw [List.length_cons, Rat.natCast_add]; rfl
      rw [e1, e2, Rat.add_mul, Rat.one_mul]
      grind
  have hl2 : ((a :: xs).length : Rat) ≤ 6 := Rat.natCast_le_natCast.2 hl
  have hY1 : 1000 * s1Q (a :: xs) ≤ 6001 * μ := by
    have k := hs1 (a :: xs) n7
    have := Rat.mul_nonneg (show 0 ≤ 6 - ((a :: xs).length : Rat) by grind) (show 0 ≤ 1000001 * μ by grind)
    grind
  have hYlow : p2 (-202) ≤ s1Q (a :: xs) := by
    -- the greatest number is at least nearly the norm's sixth part: by the sum of squares
    have q := s1Q_sq (a :: xs)
    have S0 := sumQ_nonneg (a :: xs)
    obtain ⟨b1, b2, b3, b4, b5, b6, b7, b8, y, hy, b9, b10⟩ := tame_big 200 (a :: xs) h h0
    have hm := s1_mem (a :: xs) y hy
    have ky : fK y ≠ 0 := fun e => by
      have e1 := fQ_nought y e
      rw [e1] at b9
      have := eX_top _ (by omega) b2 b3
      have hp := p2_pos (eX (bgF 0 (a :: xs)))
      rw [ab_pos (fQ_pos _ b4)] at this
      unfold ab at b9
      grind
    have hy3 := (tame_size 200 y (h y hy).1 (h y hy).2.1 (h y hy).2.2).2 ky
    have := p2_mono (show (-202 : Int) ≤ -200 by decide)
    grind
  have hYhi : s1Q (a :: xs) ≤ p2 900 := by
    have h1 := p2_mono (show (204 + 1 + 1 + 1 : Int) ≤ 900 by decide)
    simp only [p2_succ] at h1
    grind
  have hη : 1267650600228229401496703205376 * p2 (-1075) ≤ s1Q (a :: xs) := by
    have := eta_p2 (-202) (by decide)
    grind
  obtain ⟨g1, c1, c2, c3⟩ := tau_dot t (4607182418800017408 :: vs) (a :: xs) (by rw [hlen]; exact hl) f1 f2 f5 (fun y hy => (h y hy).2.1) hYhi hη
  have hdt : dtQ (4607182418800017408 :: vs) (a :: xs) = fQ a + dtQ vs xs := by
    show fQ 4607182418800017408 * fQ a + dtQ vs xs = _
    rw [fQ_one]; grind
  have hls := ap_all _ (fQ t * dtQ (4607182418800017408 :: vs) (a :: xs)) (s1Q (a :: xs)) g1 hYhi hη c1 c2 (4607182418800017408 :: vs) (a :: xs) hlen f5 (fun y hy => ⟨(h y hy).2.1, s1_mem _ y hy⟩)
  rw [← hu] at hls
  unfold lessQ at hls
  obtain ⟨⟨u1, u2⟩, u3⟩ := hls
  rw [hdt] at u2 u3
  rw [fQ_one] at u2
  have hD : 1000 * ab (fQ a - fQ b) ≤ 2001 * μ := by
    have := hx1 a List.mem_cons_self
    have := n7 a List.mem_cons_self
    rw [f9, f10]; grind
  have rest := own_rest (fQ t * (fQ a + dtQ vs xs)) (fQ a - fQ b) (fQ d) μ (s1Q (a :: xs)) n1 hY1 hD f11 f8 vs xs us f7 (fun v hv => (f5 v (List.mem_cons_of_mem _ hv)).2) (fun x hx => hx1 x (List.mem_cons_of_mem _ hx)) u3
  have fin : ∀ (vs ys us : List Nat) (c E : Rat), lessQ c E vs ys us → ∀ u ∈ us, fFin u = true := by
    intro vs
    induction vs with
    | nil =>
      intro ys us c E h u hu
      cases ys with
      | cons y ys => exact absurd h (by unfold lessQ; exact id)
      | nil =>
        cases us with
        | nil => cases hu
        | cons w us => exact absurd h (by unfold lessQ; exact id)
    | cons v vs ih =>
      intro ys us c E h u hu
      cases ys with
      | nil => exact absurd h (by unfold lessQ; exact id)
      | cons y ys =>
        cases us with
        | nil => cases hu
        | cons w us =>
          unfold lessQ at h
          rcases List.mem_cons.1 hu with rfl | hu
          · exact h.1.1
          · exact ih ys us c E h.2 u hu
  refine ⟨u1, fin _ _ _ _ _ u3, ?_⟩
  -- the first
  obtain ⟨e, he⟩ : ∃ e, fQ u - fQ b = e := ⟨_, rfl⟩
  have hfirst : 9007199254740992 * ab e ≤ 900 * μ := by
    have l1 := le_ab (fQ u - (fQ a - fQ t * (fQ a + dtQ vs xs) * 1)); have l2 := le_ab (fQ t * (fQ a + dtQ vs xs) - (fQ a - fQ b))
    have tt := ab_le (x := e) (y := ab (fQ u - (fQ a - fQ t * (fQ a + dtQ vs xs) * 1)) + ab (fQ t * (fQ a + dtQ vs xs) - (fQ a - fQ b))) (by grind) (by grind)
    generalize ab (fQ u - (fQ a - fQ t * (fQ a + dtQ vs xs) * 1)) = z1 at *
    generalize ab (fQ t * (fQ a + dtQ vs xs) - (fQ a - fQ b)) = z2 at *
    clear l1 l2 rest u3
    grind
  have e0 := ab_0 e
  have ee : ab e * ab e = e * e := by rw [← ab_mul]; exact ab_pos (sq_nonneg _)
  have m1 := Rat.mul_le_mul_of_nonneg_left hfirst e0
  have m2 := Rat.mul_le_mul_of_nonneg_left hfirst (Rat.le_of_lt n1)
  have k : 81129638414606681695789005144064 * (e * e) ≤ 810000 * (μ * μ) := by
    rw [← ee]
    rw [show ab e * (9007199254740992 * ab e) = 9007199254740992 * (ab e * ab e) by grind] at m1
    rw [show μ * (9007199254740992 * ab e) = 9007199254740992 * (ab e * μ) by grind] at m2
    rw [show ab e * (900 * μ) = 900 * (ab e * μ) by grind] at m1
    generalize ab e * ab e = z1 at *
    generalize ab e * μ = z2 at *
    grind
  have hul2 : (us.length : Rat) ≤ 5 := Rat.natCast_le_natCast.2 hul
  have qμ := sq_nonneg μ
  have r6 := mul_le_five hul2 (show 0 ≤ 810000 * (μ * μ) by grind)
  have eb : fQ b * fQ b = μ * μ := by
    rw [← f10, ← ab_mul]; exact (ab_pos (sq_nonneg _)).symm
  rw [he, eb]
  generalize (us.length : Rat) * (810000 * (μ * μ)) = L at *
  generalize μ * μ = MM at *
  generalize e * e = EE at *
  clear m1 m2 hu h hs1 hx1 n7 f5 fin u3 hl hlen
  grind

end Go.Proofs.YtimejpbmehegeaaGreatDoor

/- Vectors of rational numbers: sums of products, their size, mirrors. Ahead of stage 14. -/
namespace Go.Proofs.YtimejpbmehegeaaGreatDoor
open Go.RowKit

/-- The sum of the first n. -/
def sm : Nat → (Nat → Rat) → Rat
  | 0, _ => 0
  | n + 1, f => sm n f + f n
end Go.Proofs.YtimejpbmehegeaaGreatDoor

/- Mirrors one after another: sizes, forth and back, with errors at each step. Ahead of stage 14. -/
namespace Go.Proofs.YtimejpbmehegeaaGreatDoor
open Go.RowKit
/-- What forth and back again may differ by, in parts of ε. -/
def bk (ε : Rat) : Nat → Rat
  | 0 => 0
  | k + 1 => 3 + (1 + 2 * ε) * (1 + 2 * ε) * bk ε k
end Go.Proofs.YtimejpbmehegeaaGreatDoor

/- Columns of noughts; the step of any column; the mirror's vector among all rows. Ahead of stage 14. -/
namespace Go.Proofs.YtimejpbmehegeaaGreatDoor
open Go.RowKit

theorem mul_noughts (a b : Nat) (fa : fFin a = true) (fb : fFin b = true) (h : fQ a * fQ b = 0) : fFin (mV a b) = true ∧ fQ (mV a b) = 0 := by
  have a0 : ab (0 : Rat) = 0 := by unfold ab; grind
  have hf := mul_fin a b fa fb (by rw [h, a0]; exact p2_pos _)
  refine ⟨hf, ?_⟩
  have e := mul_err a b fa fb hf
  rw [h, a0, show fQ (mV a b) - 0 = fQ (mV a b) by grind] at e
  rcases e with e | ⟨_, e⟩
  · have := le_ab (fQ (mV a b)); have := ab_0 (fQ (mV a b)); grind
  · have hp := p2_pos (-1074)
    unfold fQ at e ⊢
    rw [ab_mul, ab_pos (Rat.le_of_lt hp)] at e
    obtain ⟨z, hz⟩ : ∃ z : Int, fZ (mV a b) = z := ⟨_, rfl⟩
    rw [hz] at e ⊢
    rcases Int.lt_trichotomy z 0 with g | g | g
    · exfalso
      have k : (z : Rat) ≤ ((-1 : Int) : Rat) := Rat.intCast_le_intCast.2 (by omega)
      have k2 : ((-1 : Int) : Rat) = -1 := rfl
      have l := le_ab (z : Rat)
      have m := Rat.mul_le_mul_of_nonneg_left (show 1 ≤ ab (z : Rat) by grind) (Rat.le_of_lt hp)
      generalize p2 (-1074) = P at *
      grind
    · rw [g]
      have k2 : ((0 : Int) : Rat) = 0 := rfl
      rw [k2]
      grind
    · exfalso
      have k : ((1 : Int) : Rat) ≤ (z : Rat) := Rat.intCast_le_intCast.2 (by omega)
      have k2 : ((1 : Int) : Rat) = 1 := rfl
      have l := le_ab (z : Rat)
      have m := Rat.mul_le_mul_of_nonneg_left (show 1 ≤ ab (z : Rat) by grind) (Rat.le_of_lt hp)
      generalize p2 (-1074) = P at *
      grind

theorem add_noughts (a b : Nat) (fa : fFin a = true) (fb : fFin b = true) (h : fQ a + fQ b = 0) : fFin (aV a b) = true ∧ fQ (aV a b) = 0 := by
  have a0 : ab (0 : Rat) = 0 := by unfold ab; grind
  have hf := add_fin a b fa fb (by rw [h, a0]; exact p2_pos _)
  refine ⟨hf, ?_⟩
  have e := add_err a b fa fb hf
  rw [h, a0, show fQ (aV a b) - 0 = fQ (aV a b) by grind] at e
  have := le_ab (fQ (aV a b)); have := ab_0 (fQ (aV a b)); grind

theorem dot_noughts : ∀ (vs ys : List Nat) (s : Nat), fFin s = true → fQ s = 0 → (∀ v ∈ vs, fFin v = true) → (∀ y ∈ ys, fFin y = true ∧ fQ y = 0) → fFin (dtV s vs ys) = true ∧ fQ (dtV s vs ys) = 0 := by
  intro vs
  induction vs with
  | nil =>
    intro ys s f1 f2 _ _
    have e : dtV s [] ys = s := by cases ys <;> rfl
    rw [e]
    exact ⟨f1, f2⟩
  | cons v vs ih =>
    intro ys s f1 f2 hv hy
    cases ys with
    | nil => exact ⟨f1, f2⟩
    | cons y ys =>
      obtain ⟨y1, y2⟩ := hy y List.mem_cons_self
      obtain ⟨m1, m2⟩ := mul_noughts v y (hv v List.mem_cons_self) y1 (by rw [y2]; grind)
      obtain ⟨a1, a2⟩ := add_noughts s (mV v y) f1 m1 (by rw [f2, m2]; grind)
      exact ih ys _ a1 a2 (fun w hw => hv w (List.mem_cons_of_mem _ hw)) (fun w hw => hy w (List.mem_cons_of_mem _ hw))

end Go.Proofs.YtimejpbmehegeaaGreatDoor

/- Contracts of package sum: nought, addFinite, Add, Sub. -/
namespace Go.Proofs.YtimejpbmehegeaaGreatDoor
open Go.RowKit

def aO (s t : Bool) : Nat := if (s && t) = true then 9223372036854775808 else 0

set_option maxRecDepth 20000 in
set_option maxHeartbeats 2000000 in
theorem nought_any (a b : Nat) (w : World) (ha : a < 18446744073709551616) (hb : b < 18446744073709551616) :
    Calls Tryz.prog 166 #[.int .u64 a, .int .u64 b] w fun e w' => e = .returned (.int .u64 (aO (fS a) (fS b) : Nat)) ∧ Below w.heap.size w w' := by
  have C1 := hide (fun w' => ssign_any a w' ha)
  have C2 := hide (fun w' => ssign_any b w' hb)
  generalize fS a = s at *
  generalize fS b = t at *
  clear ha hb
  go_enter Tryz.func166, Tryz.ntmps166
  go_wp2_with fail
  refine (unhide C1 _).mono ?_
  rintro e w1 ⟨rfl, hb1⟩
  cases s
  · go_wp2
    go_ret
    exact ⟨rfl, hb1⟩
  · go_wp2_with fail
    refine (unhide C2 _).mono ?_
    rintro e w2 ⟨rfl, hb2⟩
    cases t
    · go_wp2
      go_ret
      exact ⟨rfl, hb1.trans (hb2.mono hb1.size)⟩
    · go_wp2
      go_ret
      exact ⟨rfl, hb1.trans (hb2.mono hb1.size)⟩

theorem dy_len {w : World} {n : Bool} {a : Option Addr} {l c : Nat} {e m X : Int} (h : IsDy w (.agg #[.bool n, .slice a l c, .int .i64 e]) m X) : ((l : Int) == 0) = decide (m = 0) := by
  obtain ⟨n', a', c', L', e1, _, e3, _, e5, _⟩ := h.parts
  simp only [Value.agg.injEq, Array.mk.injEq, List.cons.injEq, Value.slice.injEq] at e1
  have e2 := e1.2.1.2.1
  by_cases h0 : m = 0
  · have : L' = [] := (val_zero_of_canon L' e3).1 (by rw [e5, h0]; rfl)
    rw [decide_eq_true h0, e2, this]; rfl
  · have : L'.length ≠ 0 := fun h1 => by
      have : L' = [] := List.length_eq_zero_iff.1 h1
      rw [this] at e5
      simp [val] at e5
      omega
    rw [decide_eq_false h0]; simp; omega

set_option maxRecDepth 20000 in
set_option maxHeartbeats 4000000 in
theorem addFinite_z (a b : Nat) (z1 z2 X1 X2 X3 : Int) (w : World) (o : Nat)
    (C1 : ∀ w', Below w.heap.size w w' → Calls Tryz.prog 142 #[.int .u64 a] w' fun r w'' => DyR w'' r 0 z1 X1 ∧ Below w'.heap.size w' w'')
    (C2 : ∀ w', Below w.heap.size w w' → Calls Tryz.prog 142 #[.int .u64 b] w' fun r w'' => DyR w'' r 0 z2 X2 ∧ Below w'.heap.size w' w'')
    (C3 : ∀ w' v u, Below w.heap.size w w' → IsDy w' v z1 X1 → IsDy w' u z2 X2 → Calls Tryz.prog 165 #[v, u] w' fun r w'' => DyR w'' r 0 0 X3 ∧ Below w'.heap.size w' w'')
    (C4 : ∀ w', Calls Tryz.prog 166 #[.int .u64 a, .int .u64 b] w' fun r w'' => r = .returned (.int .u64 (o : Nat)) ∧ Below w'.heap.size w' w'') :
    Calls Tryz.prog 144 #[.int .u64 a, .int .u64 b] w fun r w' => r = .returned (.tuple #[.int .u64 (o : Nat), .int .u8 0]) ∧ Below w.heap.size w w' := by
  have K1 := hide C1; have K2 := hide C2; have K3 := hide C3; have K4 := hide C4
  clear C1 C2 C3 C4
  go_enter Tryz.func144, Tryz.ntmps144
  go_wp2_with fail
  refine (unhide K1 _ (Below.refl _ _)).mono ?_
  rintro e w1 ⟨⟨v, rfl, hv⟩, hb1⟩
  obtain ⟨n1, a1, c1, L1, rfl, i1⟩ := hv
  have hb1a : Below w1.heap.size w1 (w1.alloc (.cells #[.bool n1, .slice a1 L1.length c1, .int .i64 X1] 54)) := (Below.refl _ _).alloc (Nat.le_refl _) _
  have HV := hide ((show IsDy w1 (.agg #[.bool n1, .slice a1 L1.length c1, .int .i64 X1]) z1 X1 from ⟨n1, a1, c1, L1, rfl, i1⟩).below hb1a)
  have X := hide (Box3.new w1 (.bool n1) (.slice a1 L1.length c1) (.int .i64 X1))
  have B1 := hide (hb1.trans (hb1a.mono hb1.size))
  clear i1 hb1 hb1a K1
  go_wp2_with fail
  refine (unhide K2 _ (unhide B1)).mono ?_
  rintro e w2 ⟨⟨v, rfl, hv⟩, hb1⟩
  obtain ⟨n2, a2, c2, L2, rfl, i2⟩ := hv
  have hb1a : Below w2.heap.size w2 (w2.alloc (.cells #[.bool n2, .slice a2 L2.length c2, .int .i64 X2] 54)) := (Below.refl _ _).alloc (Nat.le_refl _) _
  have HU := hide ((show IsDy w2 (.agg #[.bool n2, .slice a2 L2.length c2, .int .i64 X2]) z2 X2 from ⟨n2, a2, c2, L2, rfl, i2⟩).below hb1a)
  have HV2 := hide (((unhide HV).below hb1).below hb1a)
  have x1 := ((unhide X).all hb1).all hb1a
  have x2 := Box3.new w2 (.bool n2) (.slice a2 L2.length c2) (.int .i64 X2)
  have B2 := hide ((unhide B1).trans ((hb1.trans (hb1a.mono hb1.size)).mono (unhide B1).size))
  have y0 := x1.c0; have y1 := x1.c1; have y2 := x1.c2; have u0 := x2.c0; have u1 := x2.c1; have u2 := x2.c2
  clear i2 hb1 hb1a K2 B1 HV X x1 x2
  go_wp2_with fail
  refine (unhide K3 _ _ _ (unhide B2) (unhide HV2) (unhide HU)).mono ?_
  rintro e w3 ⟨⟨v, rfl, hv⟩, hb1⟩
  clear y0 y1 y2 u0 u1 u2
  obtain ⟨n3, a3, c3, L3, rfl, i3⟩ := hv
  have hb1a : Below w3.heap.size w3 (w3.alloc (.cells #[.bool n3, .slice a3 L3.length c3, .int .i64 X3] 54)) := (Below.refl _ _).alloc (Nat.le_refl _) _
  have HX := hide ((show IsDy w3 (.agg #[.bool n3, .slice a3 L3.length c3, .int .i64 X3]) 0 X3 from ⟨n3, a3, c3, L3, rfl, i3⟩).below hb1a)
  have hl := dy_len (unhide HX)
  rw [decide_eq_true rfl] at hl
  have B3 := hide ((unhide B2).trans ((hb1.trans (hb1a.mono hb1.size)).mono (unhide B2).size))
  have x3 := Box3.new w3 (.bool n3) (.slice a3 L3.length c3) (.int .i64 X3)
  have y0 := x3.c0; have y1 := x3.c1; have y2 := x3.c2
  clear i3 hb1 hb1a K3 B2 HV2 HU x3
  generalize L3.length = l3 at *
  go_wp2_with fail
  refine (unhide K4 _).mono ?_
  rintro e w4 ⟨rfl, hb1⟩
  have B4 := hide ((unhide B3).trans (hb1.mono (unhide B3).size))
  clear hb1 K4 B3
  go_wp2
  exact bodyPost_ret (v := .tuple #[.int .u64 o, .int .u8 0]) (by simp [results, Tryz.results144, go_sem]) rfl ⟨rfl, unhide B4⟩

set_option maxRecDepth 20000 in
set_option maxHeartbeats 4000000 in
theorem addFinite_n (a b : Nat) (z1 z2 z3 X1 X2 X3 fl : Int) (w : World) (o : Nat) (h0 : z3 ≠ 0)
    (C1 : ∀ w', Below w.heap.size w w' → Calls Tryz.prog 142 #[.int .u64 a] w' fun r w'' => DyR w'' r 0 z1 X1 ∧ Below w'.heap.size w' w'')
    (C2 : ∀ w', Below w.heap.size w w' → Calls Tryz.prog 142 #[.int .u64 b] w' fun r w'' => DyR w'' r 0 z2 X2 ∧ Below w'.heap.size w' w'')
    (C3 : ∀ w' v u, Below w.heap.size w w' → IsDy w' v z1 X1 → IsDy w' u z2 X2 → Calls Tryz.prog 165 #[v, u] w' fun r w'' => DyR w'' r 0 z3 X3 ∧ Below w'.heap.size w' w'')
    (C4 : ∀ w' v, Below w.heap.size w w' → IsDy w' v z3 X3 → Calls Tryz.prog 149 #[v] w' fun r w'' => r = .returned (.tuple #[.int .u64 (o : Nat), .int .u8 fl, .int .i64 0]) ∧ Below w'.heap.size w' w'') :
    Calls Tryz.prog 144 #[.int .u64 a, .int .u64 b] w fun r w' => r = .returned (.tuple #[.int .u64 (o : Nat), .int .u8 fl]) ∧ Below w.heap.size w w' := by
  have K1 := hide C1; have K2 := hide C2; have K3 := hide C3; have K4 := hide C4
  clear C1 C2 C3 C4
  go_enter Tryz.func144, Tryz.ntmps144
  go_wp2_with fail
  refine (unhide K1 _ (Below.refl _ _)).mono ?_
  rintro e w1 ⟨⟨v, rfl, hv⟩, hb1⟩
  obtain ⟨n1, a1, c1, L1, rfl, i1⟩ := hv
  have hb1a : Below w1.heap.size w1 (w1.alloc (.cells #[.bool n1, .slice a1 L1.length c1, .int .i64 X1] 54)) := (Below.refl _ _).alloc (Nat.le_refl _) _
  have HV := hide ((show IsDy w1 (.agg #[.bool n1, .slice a1 L1.length c1, .int .i64 X1]) z1 X1 from ⟨n1, a1, c1, L1, rfl, i1⟩).below hb1a)
  have X := hide (Box3.new w1 (.bool n1) (.slice a1 L1.length c1) (.int .i64 X1))
  have B1 := hide (hb1.trans (hb1a.mono hb1.size))
  clear i1 hb1 hb1a K1
  go_wp2_with fail
  refine (unhide K2 _ (unhide B1)).mono ?_
  rintro e w2 ⟨⟨v, rfl, hv⟩, hb1⟩
  obtain ⟨n2, a2, c2, L2, rfl, i2⟩ := hv
  have hb1a : Below w2.heap.size w2 (w2.alloc (.cells #[.bool n2, .slice a2 L2.length c2, .int .i64 X2] 54)) := (Below.refl _ _).alloc (Nat.le_refl _) _
  have HU := hide ((show IsDy w2 (.agg #[.bool n2, .slice a2 L2.length c2, .int .i64 X2]) z2 X2 from ⟨n2, a2, c2, L2, rfl, i2⟩).below hb1a)
  have HV2 := hide (((unhide HV).below hb1).below hb1a)
  have x1 := ((unhide X).all hb1).all hb1a
  have x2 := Box3.new w2 (.bool n2) (.slice a2 L2.length c2) (.int .i64 X2)
  have B2 := hide ((unhide B1).trans ((hb1.trans (hb1a.mono hb1.size)).mono (unhide B1).size))
  have y0 := x1.c0; have y1 := x1.c1; have y2 := x1.c2; have u0 := x2.c0; have u1 := x2.c1; have u2 := x2.c2
  clear i2 hb1 hb1a K2 B1 HV X x1 x2
  go_wp2_with fail
  refine (unhide K3 _ _ _ (unhide B2) (unhide HV2) (unhide HU)).mono ?_
  rintro e w3 ⟨⟨v, rfl, hv⟩, hb1⟩
  clear y0 y1 y2 u0 u1 u2
  obtain ⟨n3, a3, c3, L3, rfl, i3⟩ := hv
  have hb1a : Below w3.heap.size w3 (w3.alloc (.cells #[.bool n3, .slice a3 L3.length c3, .int .i64 X3] 54)) := (Below.refl _ _).alloc (Nat.le_refl _) _
  have HX := hide ((show IsDy w3 (.agg #[.bool n3, .slice a3 L3.length c3, .int .i64 X3]) z3 X3 from ⟨n3, a3, c3, L3, rfl, i3⟩).below hb1a)
  have hl := dy_len (unhide HX)
  rw [decide_eq_false h0] at hl
  have B3 := hide ((unhide B2).trans ((hb1.trans (hb1a.mono hb1.size)).mono (unhide B2).size))
  have x3 := Box3.new w3 (.bool n3) (.slice a3 L3.length c3) (.int .i64 X3)
  have y0 := x3.c0; have y1 := x3.c1; have y2 := x3.c2
  clear i3 hb1 hb1a K3 B2 HV2 HU x3
  generalize L3.length = l3 at *
  go_wp2_with fail
  refine (unhide K4 _ _ (unhide B3) (unhide HX)).mono ?_
  rintro e w4 ⟨rfl, hb1⟩
  have B4 := hide ((unhide B3).trans (hb1.mono (unhide B3).size))
  clear hb1 K4 B3
  go_wp2
  exact bodyPost_ret (v := .tuple #[.int .u64 o, .int .u8 fl]) (by simp [results, Tryz.results144, go_sem]) rfl ⟨rfl, unhide B4⟩

/-- Two finite numbers' sum. -/
theorem addFinite_any (a b : Nat) (w : World) (ha : a < 18446744073709551616) (hb : b < 18446744073709551616) (fa : fFin a = true) (fb : fFin b = true) (hT : Tab w) :
    Calls Tryz.prog 144 #[.int .u64 a, .int .u64 b] w fun r w' => r = .returned (.tuple #[.int .u64 (aV a b : Nat), .int .u8 (aF a b)]) ∧ Below w.heap.size w w' := by
  obtain ⟨a3, a4⟩ : fK a ≠ 3 ∧ fK a ≠ 4 := by
    rcases fK_cases a with ⟨h, _⟩ | ⟨_, h⟩
    · rw [fa] at h; cases h
    · omega
  obtain ⟨b3, b4⟩ : fK b ≠ 3 ∧ fK b ≠ 4 := by
    rcases fK_cases b with ⟨h, _⟩ | ⟨_, h⟩
    · rw [fb] at h; cases h
    · omega
  obtain ⟨d1, d2⟩ := fZ_level a ha fa
  obtain ⟨d3, d4⟩ := fZ_level b hb fb
  have l3 := aZ_Lvl a b fa fb
  have C1 : ∀ w', Below w.heap.size w w' → _ := fun w' h => value_some a w' ha fa (hT.all h)
  have C2 : ∀ w', Below w.heap.size w w' → _ := fun w' h => value_some b w' hb fb (hT.all h)
  have C3 : ∀ w' v u, Below w.heap.size w w' → IsDy w' v (fD a) (fX a) → IsDy w' u (fD b) (fX b) → _ := fun w' v u h hv hu =>
    addN (W := 2099) (lo := -1074) (z1 := fZ a) (z2 := fZ b) (by rw [d1, d2]; exact hv) (by rw [d3, d4]; exact hu) (fZ_Lvl a fa) (fZ_Lvl b fb) l3 (hT.all h)
  rw [(add_f a b a3 a4 b3 b4).1, (add_f a b a3 a4 b3 b4).2]
  by_cases h0 : aZ a b = 0
  · rw [if_pos h0, if_pos h0]
    have hz : fZ a + fZ b = 0 := h0
    rw [hz, oM_zero] at C3
    exact addFinite_z a b _ _ _ _ _ w _ C1 C2 C3 (fun w' => nought_any a b w' ha hb)
  · rw [if_neg h0, if_neg h0]
    have C4 : ∀ w' v, Below w.heap.size w w' → IsDy w' v (oM (aZ a b)) (oE (aZ a b) (-1074)) → _ := fun w' v h hv => round_dy hv l3.right.2 l3.right.1 (hT.all h)
    rw [(rnd_odd (aZ a b) (-1074)).1, oM_sign] at C4
    exact addFinite_n a b _ _ _ _ _ _ _ w _ (oM_ne _ h0).1 C1 C2 C3 C4

end Go.Proofs.YtimejpbmehegeaaGreatDoor

