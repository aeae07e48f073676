/- Part 32 of the texts. -/
import Derived.Test.YtceofkjefmilfaaGreatDoorPartd26
import Derived.Test.YtceofkjefmilfaaGreatDoorPartd31
import Derived.Test.YtceofkjefmilfaaGreatDoorPartd29
/- Plane turns: c, s, r; c c + s s is 1, c f + s g is r, c g - s f is 0, but for some parts in 2^53. Ahead of stage 12. -/
namespace Go.Proofs.YtceofkjefmilfaaGreatDoor
open Go.RowKit

theorem eta_p2 (e : Int) (h : -975 ≤ e) : 1267650600228229401496703205376 * p2 (-1075) ≤ p2 e := by
  have h1 := p2_mono h
  have h2 : p2 (-975) = 1267650600228229401496703205376 * p2 (-1075) := by
    rw [show (-975 : Int) = ((100 : Nat) : Int) + -1075 by rfl, p2_add, p2_nat]
    rfl
  rw [← h2]
  exact h1

/-- Of a finite number that is not too small a product is right but for a part in 2^53 and half of the least number. -/
theorem mul_err2 (a b : Nat) (fa : fFin a = true) (fb : fFin b = true) (h : ab (fQ a * fQ b) < p2 1023) :
    fFin (mV a b) = true ∧ 9007199254740992 * ab (fQ (mV a b) - fQ a * fQ b) ≤ ab (fQ a * fQ b) + 9007199254740992 * p2 (-1075) := by
  have hf := mul_fin a b fa fb h
  have h74 : p2 (-1074) = 2 * p2 (-1075) := by rw [show (-1074 : Int) = -1075 + 1 by rfl, p2_succ]
  have hp := p2_pos (-1075)
  have h0 := ab_0 (fQ a * fQ b)
  refine ⟨hf, ?_⟩
  rcases mul_err a b fa fb hf with e | e
  · grind
  · have := e.2
    rw [h74] at this
    grind

/-- The quotient is finite, if it is not too great. -/
theorem div_fin (a b : Nat) (ha : a < 18446744073709551616) (hb : b < 18446744073709551616) (fa : fFin a = true) (fb : fFin b = true) (a0 : fK a ≠ 0) (b0 : fK b ≠ 0) (h : ab (fQ a) ≤ 1024 * ab (fQ b)) : fFin (dV a b) = true := by
  obtain ⟨q1, q2⟩ := quo_near a b ha hb fa fb a0 b0
  have hb1 := eX_top b hb fb b0
  have hbp := p2_pos (eX b)
  have hx0 : 0 ≤ xE (qS a b) (fX a - fX b - 181) := Rat.mul_nonneg Rat.natCast_nonneg (Rat.le_of_lt (p2_pos _))
  have hlt : xE (qS a b) (fX a - fX b - 181) < p2 1023 := by
    have hB : (2048 : Rat) ≤ p2 1023 := by
      have h := p2_mono (show (11 : Int) ≤ 1023 by decide)
      have h3 : p2 11 = 2048 := by rw [show (11 : Int) = ((11 : Nat) : Int) by rfl, p2_nat]; rfl
      grind
    generalize xE (qS a b) (fX a - fX b - 181) = X at *
    rcases Rat.le_total (a := 2048) (b := X) with g | g
    · exfalso
      have hm := Rat.mul_le_mul_of_nonneg_left g (show 0 ≤ ab (fQ b) by grind)
      have := ab_0 (fQ a)
      generalize ab (fQ a) = A at *
      have hc : ab (fQ b) * X = X * ab (fQ b) := Rat.mul_comm _ _
      rw [hc] at hm
      generalize X * ab (fQ b) = XB at *
      grind
    · rcases Rat.le_total (a := X) (b := 2047) with g2 | g2
      · grind
      · exfalso
        have hm := Rat.mul_le_mul_of_nonneg_left g2 (show 0 ≤ ab (fQ b) by grind)
        have := ab_0 (fQ a)
        generalize ab (fQ a) = A at *
        have hc : ab (fQ b) * X = X * ab (fQ b) := Rat.mul_comm _ _
        rw [hc] at hm
        generalize X * ab (fQ b) = XB at *
        grind
  have := rnd_finite _ _ hlt
  have hle : qV a b ≤ 9218868437227405312 := rnd_le _ _
  exact (fK_rungs _).2.2.2 (by rw [(dV_fin a b fa fb a0 b0).1, fR_wrd _ _ (by omega)]; exact this)

/-- Of numbers of tame sizes the quotient is right but for two parts in 2^53. -/
theorem div_err2 (a b : Nat) (ha : a < 18446744073709551616) (hb : b < 18446744073709551616) (fa : fFin a = true) (fb : fFin b = true) (a0 : fK a ≠ 0) (b0 : fK b ≠ 0) (h : ab (fQ a) ≤ 1024 * ab (fQ b))
    (hs : 1267650600228229401496703205376 * (p2 (-1075) * ab (fQ b)) ≤ ab (fQ a)) :
    fFin (dV a b) = true ∧ 9007199254740992 * ab (fQ (dV a b) * fQ b - fQ a) ≤ 2 * ab (fQ a) := by
  have hf := div_fin a b ha hb fa fb a0 b0 h
  refine ⟨hf, ?_⟩
  have h0 := ab_0 (fQ a)
  have h1 := ab_0 (fQ (dV a b) * fQ b - fQ a)
  rcases div_err a b ha hb fa fb a0 b0 hf with e | e
  · grind
  · have := e.2
    generalize p2 (-1075) * ab (fQ b) = z at *
    grind

/-- Numbers that are not 0, of sizes from 2^-400 on, below 2^400. -/
def TameN (x : Nat) : Prop := x < 18446744073709551616 ∧ fFin x = true ∧ fK x ≠ 0 ∧ -400 ≤ eX x ∧ eX x < 400

theorem tame_out (x : Nat) (k : Int) (h : TameN x) (hk : -400 ≤ k ∧ k < 400) (hle : ab (fQ x) ≤ p2 (k + 1)) :
    xV x (-k) < 18446744073709551616 ∧ fFin (xV x (-k)) = true ∧ fK (xV x (-k)) ≠ 0 ∧ fQ (xV x (-k)) = fQ x * p2 (-k) ∧ ab (fQ x * p2 (-k)) ≤ 2 ∧ p2 (-800) ≤ ab (fQ x * p2 (-k)) := by
  obtain ⟨h1, h2, h3, h4, h5⟩ := h
  obtain ⟨t1, t2⟩ := eX_top x h1 h2 h3
  have pk := p2_pos (-k)
  have ea : ab (fQ x * p2 (-k)) = ab (fQ x) * p2 (-k) := by rw [ab_mul, ab_pos (Rat.le_of_lt pk)]
  have m1 := Rat.mul_le_mul_of_nonneg_left t1 (Rat.le_of_lt pk)
  have m2 := Rat.mul_le_mul_of_nonneg_left hle (Rat.le_of_lt pk)
  rw [← p2_add] at m1 m2
  have e2 : p2 (-k + (k + 1)) = 2 := by rw [show -k + (k + 1) = 1 by omega, p2_1]
  rw [e2] at m2
  have m3 := p2_mono (show -800 ≤ -k + eX x by omega)
  have l1 : p2 (-800) ≤ ab (fQ x * p2 (-k)) := by rw [ea]; grind
  have l2 : ab (fQ x * p2 (-k)) ≤ 2 := by rw [ea]; grind
  have hB := p2_big
  obtain ⟨s1, s2⟩ := scale_exact x (-k) h1 h2 (by rw [← ea]; grind) (by rw [← ea]; have := p2_mono (show (-1022 : Int) ≤ -800 by decide); grind)
  have p8 := p2_pos (-800)
  refine ⟨xV_lt x _ h1, s1, fun e => ?_, s2, l2, l1⟩
  have := fQ_nought _ e
  rw [s2] at this
  rw [this] at l1
  unfold ab at l1
  grind

/-- The root of the sum of two squares whose power of two is taken out. -/
theorem hyp_err (a b : Nat) (A B : Rat) (fa : fFin a = true) (fb : fFin b = true) (ea : fQ a = A) (eb : fQ b = B) (ha : ab A ≤ 2) (hb : ab B ≤ 2) (hT : 1 ≤ A * A + B * B) :
    let s := aV (mV a a) (mV b b); let n := sV s
    fFin n = true ∧ fS n = false ∧ n < 18446744073709551616 ∧ fK n ≠ 0 ∧ 1 ≤ 2 * fQ n ∧ fQ n ≤ 4 ∧ 9007199254740992 * ab (fQ n * fQ n - (A * A + B * B)) ≤ 6 * (A * A + B * B) := by
  intro s n
  obtain ⟨n1, n2, n3⟩ := eta_small
  have hB := p2_big
  have la := le_ab A; have lb := le_ab B
  have q1 := sq_nonneg A; have q2 := sq_nonneg B
  have m1 := Rat.mul_nonneg (show 0 ≤ 2 - A by grind) (show 0 ≤ 2 + A by grind)
  have m2 := Rat.mul_nonneg (show 0 ≤ 2 - B by grind) (show 0 ≤ 2 + B by grind)
  have e1 := mul_err2 a a fa fa (by rw [ea, ab_pos q1]; grind)
  have e2 := mul_err2 b b fb fb (by rw [eb, ab_pos q2]; grind)
  rw [ea, ab_pos q1] at e1
  rw [eb, ab_pos q2] at e2
  obtain ⟨f1, g1⟩ := e1
  obtain ⟨f2, g2⟩ := e2
  have s1 := (mV_self_sign a fa).1
  have s2 := (mV_self_sign b fb).1
  have z1 := fQ_pos _ s1
  have z2 := fQ_pos _ s2
  have l1 := le_ab (fQ (mV a a) - A * A)
  have l2 := le_ab (fQ (mV b b) - B * B)
  have b0 : ab (fQ (mV a a) + fQ (mV b b)) = fQ (mV a a) + fQ (mV b b) := ab_pos (by grind)
  have fs : fFin s = true := add_fin _ _ f1 f2 (by rw [b0]; grind)
  have es := add_err _ _ f1 f2 fs
  rw [b0] at es
  have l3 := le_ab (fQ s - (fQ (mV a a) + fQ (mV b b)))
  have ss : fS s = false := by
    have hz : 0 ≤ fZ (mV a a) ∧ 0 ≤ fZ (mV b b) := by
      unfold fZ pv; rw [s1, s2]; simp only [Bool.false_eq_true, if_false]; omega
    obtain ⟨c1, c2⟩ := fin_kind f1
    obtain ⟨c3, c4⟩ := fin_kind f2
    show fS (aV (mV a a) (mV b b)) = false
    rw [(add_f _ _ c1 c2 c3 c4).1]
    split
    · rw [s1, s2]; decide
    · have hle := rnd_le (aZ (mV a a) (mV b b)).natAbs (-1074)
      rw [fS_wrd _ _ (by omega)]
      exact decide_eq_false (by unfold aZ; omega)
  have es2 : 9007199254740992 * ab (fQ s - (fQ (mV a a) + fQ (mV b b))) ≤ fQ (mV a a) + fQ (mV b b) := es
  have t := ab_le (x := fQ s - (A * A + B * B)) (y := ab (fQ s - (fQ (mV a a) + fQ (mV b b))) + ab (fQ (mV a a) - A * A) + ab (fQ (mV b b) - B * B)) (by grind) (by grind)
  have T0 : 18014398509481984 * ab (fQ s - (A * A + B * B)) ≤ 5 * (A * A + B * B) := by
    generalize fQ (mV a a) = P at *
    generalize fQ (mV b b) = Q at *
    generalize A * A = AA at *
    generalize B * B = BB at *
    generalize p2 (-1075) = η at *
    grind
  have l4 := le_ab (fQ s - (A * A + B * B))
  have k0 : fK s ≠ 0 := fun e => by
    have := fQ_nought s e
    grind
  obtain ⟨r1, r2, r3, r4, r5, r6, r7⟩ := sqrt_err s fs k0 ss
  have r8 : 1 ≤ 2 * fQ n := by
    rcases Rat.le_total (a := 1) (b := 2 * fQ n) with g | g
    · exact g
    · have := Rat.mul_nonneg (show 0 ≤ 1 - 2 * fQ n by grind) (show 0 ≤ 1 + 2 * fQ n by grind)
      grind
  have r9 : fQ n ≤ 4 := by
    rcases Rat.le_total (a := fQ n) (b := 4) with g | g
    · exact g
    · have := Rat.mul_nonneg (show 0 ≤ fQ n - 4 by grind) (show 0 ≤ fQ n + 4 by grind)
      grind
  refine ⟨r1, r2, r3, fun e => ?_, r8, r9, ?_⟩
  · have := fQ_nought n e
    grind
  · have r6' : 9007199254740992 * (fQ n * fQ n) ≤ 9007199254740992 * fQ s + 3 * fQ s := r6
    have r7' : 9007199254740992 * fQ s ≤ 9007199254740992 * (fQ n * fQ n) + 3 * fQ s := r7
    clear r6 r7 g1 g2 es es2 t m1 m2 l1 l2 l3
    generalize fQ n * fQ n = NN at *
    generalize A * A + B * B = T at *
    unfold ab
    grind

/-- The turn of two numbers that are not 0. -/
def gvK (f g : Nat) : Int := eX (max (fR f) (fR g))
def gvN (f g : Nat) : Nat := sV (aV (mV (xV f (-gvK f g)) (xV f (-gvK f g))) (mV (xV g (-gvK f g)) (xV g (-gvK f g))))

theorem gv_core (f g n c s : Nat) (k : Int) (A B : Rat) (hf : TameN f) (hg : TameN g) (hk0 : k = gvK f g) (hn : n = gvN f g) (hA : A = fQ f * p2 (-k)) (hB : B = fQ g * p2 (-k)) (hc : c = dV (xV f (-k)) n) (hs : s = dV (xV g (-k)) n) :
    (-400 ≤ k ∧ k < 400) ∧ n < 18446744073709551616 ∧ fFin n = true ∧ fS n = false ∧ 1 ≤ 2 * fQ n ∧ fQ n ≤ 4 ∧ 1 ≤ A * A + B * B ∧ 9007199254740992 * ab (fQ n * fQ n - (A * A + B * B)) ≤ 6 * (A * A + B * B) ∧
    fFin c = true ∧ fFin s = true ∧ 9007199254740992 * ab (fQ c * fQ n - A) ≤ 2 * ab A ∧ 9007199254740992 * ab (fQ s * fQ n - B) ≤ 2 * ab B := by
  have hf' := hf; have hg' := hg
  obtain ⟨f1, f2, f3, f4, f5⟩ := hf
  obtain ⟨g1, g2, g3, g4, g5⟩ := hg
  have rf := fR_fin f f2; have rg := fR_fin g g2
  have rf0 : fR f ≠ 0 := fun e => f3 ((fK_zero f).2 e)
  -- the greater one
  obtain ⟨m, hm⟩ : ∃ m, m = max (fR f) (fR g) := ⟨_, rfl⟩
  have hml : m < 9218868437227405312 := by omega
  obtain ⟨a1, a2, a3⟩ := mag_fZ m (by omega)
  have fm : fFin m = true := (fK_rungs m).2.2.2 (by rw [a2]; exact hml)
  have km : fK m ≠ 0 := fun e => by have := (fK_zero m).1 e; omega
  have hk : k = eX m := by rw [hk0, hm]; rfl
  obtain ⟨t1, t2⟩ := eX_top m (by omega) fm km
  have qm : ab (fQ m) = (rv m : Rat) * p2 (-1074) := by rw [fQ_ab, a2]
  have hP := Rat.le_of_lt (p2_pos (-1074))
  have lf : ab (fQ f) ≤ ab (fQ m) := by
    rw [qm, fQ_ab]
    have := Rat.mul_le_mul_of_nonneg_left (Rat.natCast_le_natCast.2 (rv_mono (show fR f ≤ m by omega))) hP
    grind
  have lg : ab (fQ g) ≤ ab (fQ m) := by
    rw [qm, fQ_ab]
    have := Rat.mul_le_mul_of_nonneg_left (Rat.natCast_le_natCast.2 (rv_mono (show fR g ≤ m by omega))) hP
    grind
  have hmm : ab (fQ m) = ab (fQ f) ∨ ab (fQ m) = ab (fQ g) := by
    rcases Nat.le_total (fR f) (fR g) with h | h
    · exact .inr (by rw [qm, fQ_ab, show m = fR g by omega])
    · exact .inl (by rw [qm, fQ_ab, show m = fR f by omega])
  rw [← hk] at t1 t2
  have hkb : -400 ≤ k ∧ k < 400 := by
    rcases hmm with e | e
    · obtain ⟨u1, u2⟩ := eX_top f f1 f2 f3
      rw [← e] at u1 u2
      have c1 : k < eX f + 1 := lt_of_p2 (by grind)
      have c2 : eX f < k + 1 := lt_of_p2 (by grind)
      omega
    · obtain ⟨u1, u2⟩ := eX_top g g1 g2 g3
      rw [← e] at u1 u2
      have c1 : k < eX g + 1 := lt_of_p2 (by grind)
      have c2 : eX g < k + 1 := lt_of_p2 (by grind)
      omega
  obtain ⟨x1, x2, x3, x4, x5, x6⟩ := tame_out f k hf' hkb (by grind)
  obtain ⟨y1, y2, y3, y4, y5, y6⟩ := tame_out g k hg' hkb (by grind)
  have pk := p2_pos (-k)
  have hT : 1 ≤ A * A + B * B := by
    have m1 := Rat.mul_le_mul_of_nonneg_left t1 (Rat.le_of_lt pk)
    rw [p2_neg] at m1
    have q1 := sq_nonneg A; have q2 := sq_nonneg B
    rcases hmm with e | e
    · have e2 : ab A = p2 (-k) * ab (fQ m) := by rw [hA, ab_mul, ab_pos (Rat.le_of_lt pk), e, Rat.mul_comm]
      have e3 : A * A = ab A * ab A := by rw [← ab_mul]; exact (ab_pos q1).symm
      have := Rat.mul_nonneg (show 0 ≤ ab A - 1 by grind) (show 0 ≤ ab A - 1 by grind)
      grind
    · have e2 : ab B = p2 (-k) * ab (fQ m) := by rw [hB, ab_mul, ab_pos (Rat.le_of_lt pk), e, Rat.mul_comm]
      have e3 : B * B = ab B * ab B := by rw [← ab_mul]; exact (ab_pos q2).symm
      have := Rat.mul_nonneg (show 0 ≤ ab B - 1 by grind) (show 0 ≤ ab B - 1 by grind)
      grind
  obtain ⟨h1, h2, h3, h4, h5, h6, h7⟩ := hyp_err (xV f (-k)) (xV g (-k)) A B x2 y2 (x4.trans hA.symm) (y4.trans hB.symm) (by rw [hA]; exact x5) (by rw [hB]; exact y5) hT
  unfold gvN at hn
  rw [← hk0] at hn
  rw [← hn] at h1 h2 h3 h4 h5 h6 h7
  have qn : ab (fQ n) = fQ n := ab_pos (fQ_pos n h2)
  have hη := eta_p2 (-798) (by decide)
  have h98 : p2 (-798) = 4 * p2 (-800) := by rw [show (-798 : Int) = -800 + 1 + 1 by rfl, p2_succ, p2_succ]; grind
  have hη0 := p2_pos (-1075)
  have hη2 : 5070602400912917605986812821504 * p2 (-1075) ≤ p2 (-800) := by
    have e1 := p2_mono (show (-1075 + 102 : Int) ≤ -800 by decide)
    have e2 : p2 (-1075 + 102) = 5070602400912917605986812821504 * p2 (-1075) := by
      rw [p2_add, show (102 : Int) = ((102 : Nat) : Int) by rfl, p2_nat, Rat.mul_comm]; rfl
    rw [← e2]; exact e1
  have small : 1267650600228229401496703205376 * (p2 (-1075) * ab (fQ n)) ≤ p2 (-800) := by
    rw [qn]
    have := Rat.mul_nonneg (Rat.le_of_lt hη0) (show 0 ≤ 4 - fQ n by grind)
    grind
  obtain ⟨d1, d2⟩ := div_err2 (xV f (-k)) n x1 h3 x2 h1 x3 h4 (by rw [x4, qn]; grind) (by rw [x4]; grind)
  obtain ⟨e1, e2⟩ := div_err2 (xV g (-k)) n y1 h3 y2 h1 y3 h4 (by rw [y4, qn]; grind) (by rw [y4]; grind)
  rw [x4, ← hA, ← hc] at d2
  rw [y4, ← hB, ← hs] at e2
  rw [← hc] at d1
  rw [← hs] at e1
  exact ⟨hkb, h3, h1, h2, h5, h6, hT, h7, d1, e1, d2, e2⟩

/-- c c + s s is 1, c f + s g is r, c g - s f is 0, the power of two taken out: but for some parts in 2^53. -/
theorem gv_right (n c s A B : Rat) (h1 : 1 ≤ 2 * n) (hT : 1 ≤ A * A + B * B) (h3 : 9007199254740992 * ab (n * n - (A * A + B * B)) ≤ 6 * (A * A + B * B))
    (h4 : 9007199254740992 * ab (c * n - A) ≤ 2 * ab A) (h5 : 9007199254740992 * ab (s * n - B) ≤ 2 * ab B) :
    281474976710656 * ab (c * c + s * s - 1) ≤ 1 ∧ 281474976710656 * ab (c * A + s * B - n) ≤ n ∧ 281474976710656 * ab (c * B - s * A) ≤ n := by
  obtain ⟨d, hd⟩ : ∃ d, c * n = A + d := ⟨c * n - A, by grind⟩
  obtain ⟨e, he⟩ : ∃ e, s * n = B + e := ⟨s * n - B, by grind⟩
  have k1 : ab (c * n - A) = ab d := by rw [hd]; congr 1; grind
  have k2 : ab (s * n - B) = ab e := by rw [he]; congr 1; grind
  rw [k1] at h4
  rw [k2] at h5
  have a0 := ab_0 A; have b0 := ab_0 B; have d0 := ab_0 d; have e0 := ab_0 e
  have qa := sq_nonneg A; have qb := sq_nonneg B; have qd := sq_nonneg d; have qe := sq_nonneg e
  have aa : ab A * ab A = A * A := by rw [← ab_mul]; exact ab_pos qa
  have bb : ab B * ab B = B * B := by rw [← ab_mul]; exact ab_pos qb
  have dd : ab d * ab d = d * d := by rw [← ab_mul]; exact ab_pos qd
  have ee : ab e * ab e = e * e := by rw [← ab_mul]; exact ab_pos qe
  have p1 := Rat.mul_le_mul_of_nonneg_left h4 a0
  have p2' := Rat.mul_le_mul_of_nonneg_left h5 b0
  have p3 := Rat.mul_le_mul_of_nonneg_left h4 d0
  have p4 := Rat.mul_le_mul_of_nonneg_left h5 e0
  have p5 := Rat.mul_le_mul_of_nonneg_left h4 b0
  have p6 := Rat.mul_le_mul_of_nonneg_left h5 a0
  have p7 := sq_nonneg (ab A - ab B)
  have y1 : ab (A * d) = ab A * ab d := ab_mul _ _
  have y2 : ab (B * e) = ab B * ab e := ab_mul _ _
  have y3 : ab (d * B) = ab d * ab B := ab_mul _ _
  have y4 : ab (e * A) = ab e * ab A := ab_mul _ _
  have l1 := le_ab (A * d); have l2 := le_ab (B * e); have l3 := le_ab (d * B); have l4 := le_ab (e * A)
  have l5 := le_ab (n * n - (A * A + B * B))
  have n0 : 0 < n := by grind
  have nn := Rat.mul_pos n0 n0
  have v1 : 9007199254740992 * ab (A * d) ≤ 2 * (A * A) := by grind
  have v2 : 9007199254740992 * ab (B * e) ≤ 2 * (B * B) := by grind
  have v3 : 9007199254740992 * (d * d) ≤ 2 * ab (A * d) := by grind
  have v4 : 9007199254740992 * (e * e) ≤ 2 * ab (B * e) := by grind
  have v5 : 9007199254740992 * ab (d * B) ≤ A * A + B * B := by grind
  have v6 : 9007199254740992 * ab (e * A) ≤ A * A + B * B := by grind
  clear p1 p2' p3 p4 p5 p6 p7 y1 y2 y3 y4 aa bb dd ee h4 h5
  have main1 : 281474976710656 * ab (n * n * (c * c + s * s - 1)) ≤ n * n := by
    have e1 : n * n * (c * c + s * s - 1) = (A + d) * (A + d) + (B + e) * (B + e) - n * n := by rw [← hd, ← he]; grind
    rw [e1, show (A + d) * (A + d) + (B + e) * (B + e) - n * n = A * A + 2 * (A * d) + d * d + (B * B + 2 * (B * e) + e * e) - n * n by grind]
    clear e1 hd he k1 k2
    generalize n * n = N at *
    generalize A * A = AA at *
    generalize B * B = BB at *
    generalize A * d = Ad at *
    generalize B * e = Be at *
    generalize d * d = D2 at *
    generalize e * e = E2 at *
    unfold ab
    grind
  have main2 : 281474976710656 * ab (n * (c * A + s * B - n)) ≤ n * n := by
    have e1 : n * (c * A + s * B - n) = A * A + A * d + (B * B + B * e) - n * n := by
      rw [show n * (c * A + s * B - n) = (c * n) * A + (s * n) * B - n * n by grind, hd, he]; grind
    rw [e1]
    clear e1 hd he k1 k2 main1
    generalize n * n = N at *
    generalize A * A = AA at *
    generalize B * B = BB at *
    generalize A * d = Ad at *
    generalize B * e = Be at *
    generalize d * d = D2 at *
    generalize e * e = E2 at *
    unfold ab
    grind
  have main3 : 281474976710656 * ab (n * (c * B - s * A)) ≤ n * n := by
    have e1 : n * (c * B - s * A) = d * B - e * A := by
      rw [show n * (c * B - s * A) = (c * n) * B - (s * n) * A by grind, hd, he]; grind
    rw [e1]
    have t := ab_le (x := d * B - e * A) (y := ab (d * B) + ab (e * A)) (by grind) (by grind)
    clear e1 hd he k1 k2 main1 main2
    generalize n * n = N at *
    generalize d * B - e * A = z at *
    grind
  rw [ab_mul, ab_pos (Rat.le_of_lt nn)] at main1
  rw [ab_mul, ab_pos (Rat.le_of_lt n0)] at main2 main3
  refine ⟨?_, ?_, ?_⟩
  · refine Rat.le_of_mul_le_mul_left (c := n * n) ?_ nn
    grind
  · refine Rat.le_of_mul_le_mul_left (c := n) ?_ n0
    grind
  · refine Rat.le_of_mul_le_mul_left (c := n) ?_ n0
    grind

end Go.Proofs.YtceofkjefmilfaaGreatDoor

/- Two numbers turned have the same square, but for a part in 2^41. Ahead of stage 12. -/
namespace Go.Proofs.YtceofkjefmilfaaGreatDoor
open Go.RowKit

/-- The algebra of a turn: what rounding leaves. -/
theorem turn_alg (c s x y X Y : Rat) (hc : ab c ≤ 2) (hs : ab s ≤ 2) (hcs : 281474976710656 * ab (c * c + s * s - 1) ≤ 1)
    (h1 : 9007199254740992 * ab (X - (c * x + s * y)) ≤ 5 * (ab x + ab y)) (h2 : 9007199254740992 * ab (Y - (c * y - s * x)) ≤ 5 * (ab x + ab y)) :
    2199023255552 * ab (X * X + Y * Y - (x * x + y * y)) ≤ x * x + y * y := by
  obtain ⟨E, hE⟩ : ∃ E, X = c * x + s * y + E := ⟨X - (c * x + s * y), by grind⟩
  obtain ⟨F, hF⟩ : ∃ F, Y = c * y - s * x + F := ⟨Y - (c * y - s * x), by grind⟩
  have k1 : X - (c * x + s * y) = E := by grind
  have k2 : Y - (c * y - s * x) = F := by grind
  rw [k1] at h1
  rw [k2] at h2
  obtain ⟨P, hP⟩ : ∃ P, c * x + s * y = P := ⟨_, rfl⟩
  obtain ⟨Q, hQ⟩ : ∃ Q, c * y - s * x = Q := ⟨_, rfl⟩
  obtain ⟨M, hM⟩ : ∃ M, ab x + ab y = M := ⟨_, rfl⟩
  have x0 := ab_0 x; have y0 := ab_0 y; have c0 := ab_0 c; have s0 := ab_0 s; have E0 := ab_0 E; have F0 := ab_0 F
  have lP : ab P ≤ 2 * M := by
    have t1 := ab_add (c * x) (s * y)
    rw [ab_mul, ab_mul, hP] at t1
    have t2 := Rat.mul_le_mul_of_nonneg_left hc x0
    have t3 := Rat.mul_le_mul_of_nonneg_left hs y0
    grind
  have lQ : ab Q ≤ 2 * M := by
    have t1 := ab_add (c * y) (-(s * x))
    rw [ab_mul, ab_neg, ab_mul, show c * y + -(s * x) = Q by grind] at t1
    have t2 := Rat.mul_le_mul_of_nonneg_left hc y0
    have t3 := Rat.mul_le_mul_of_nonneg_left hs x0
    grind
  rw [hM] at h1 h2
  have M0 : 0 ≤ M := by grind
  have P0 := ab_0 P; have Q0 := ab_0 Q
  have m1 : 9007199254740992 * ab (P * E) ≤ 10 * (M * M) := by
    rw [ab_mul]
    have t1 := Rat.mul_le_mul_of_nonneg_left h1 P0
    have t2 := Rat.mul_le_mul_of_nonneg_left lP M0
    grind
  have m2 : 9007199254740992 * ab (Q * F) ≤ 10 * (M * M) := by
    rw [ab_mul]
    have t1 := Rat.mul_le_mul_of_nonneg_left h2 Q0
    have t2 := Rat.mul_le_mul_of_nonneg_left lQ M0
    grind
  have qE := sq_nonneg E; have qF := sq_nonneg F; have qx := sq_nonneg x; have qy := sq_nonneg y
  have eE : ab E * ab E = E * E := by rw [← ab_mul]; exact ab_pos qE
  have eF : ab F * ab F = F * F := by rw [← ab_mul]; exact ab_pos qF
  have ex : ab x * ab x = x * x := by rw [← ab_mul]; exact ab_pos qx
  have ey : ab y * ab y = y * y := by rw [← ab_mul]; exact ab_pos qy
  have m3 : 9007199254740992 * (E * E) ≤ M * M := by
    have t1 := Rat.mul_le_mul_of_nonneg_left h1 E0
    have t2 := Rat.mul_le_mul_of_nonneg_left (show ab E ≤ M by grind) M0
    have t3 := Rat.mul_nonneg M0 E0
    have t4 := Rat.mul_le_mul_of_nonneg_left (show 9007199254740992 * ab E ≤ 5 * M by grind) M0
    grind
  have m4 : 9007199254740992 * (F * F) ≤ M * M := by
    have t1 := Rat.mul_le_mul_of_nonneg_left h2 F0
    have t3 := Rat.mul_nonneg M0 F0
    have t4 := Rat.mul_le_mul_of_nonneg_left (show 9007199254740992 * ab F ≤ 5 * M by grind) M0
    grind
  have m5 : M * M ≤ 2 * (x * x + y * y) := by
    have := sq_nonneg (ab x - ab y)
    rw [← hM]
    grind
  have m6 : 281474976710656 * ab ((c * c + s * s - 1) * (x * x + y * y)) ≤ x * x + y * y := by
    rw [ab_mul, ab_pos (x := x * x + y * y) (by grind)]
    have := Rat.mul_le_mul_of_nonneg_left hcs (show 0 ≤ x * x + y * y by grind)
    grind
  have e1 : X * X + Y * Y - (x * x + y * y) = (c * c + s * s - 1) * (x * x + y * y) + 2 * (P * E) + 2 * (Q * F) + E * E + F * F := by
    rw [hE, hF, ← hP, ← hQ]; grind
  rw [e1]
  have l1 := le_ab (P * E); have l2 := le_ab (Q * F); have l3 := le_ab ((c * c + s * s - 1) * (x * x + y * y))
  clear e1 hE hF hP hQ hM k1 k2 h1 h2 lP lQ eE eF ex ey hc hs hcs
  generalize (c * c + s * s - 1) * (x * x + y * y) = W at *
  generalize P * E = PE at *
  generalize Q * F = QF at *
  generalize E * E = EE at *
  generalize F * F = FF at *
  generalize M * M = MM at *
  generalize x * x + y * y = S at *
  refine Rat.le_trans (Rat.mul_le_mul_of_nonneg_left (ab_le (y := ab W + 2 * ab PE + 2 * ab QF + EE + FF) (by grind) (by grind)) (by decide)) ?_
  grind

/-- A sum of two products, rounded thrice. -/
theorem two_err (c s x y : Nat) (fc : fFin c = true) (fs : fFin s = true) (fx : fFin x = true) (fy : fFin y = true) (hc : ab (fQ c) ≤ 2) (hs : ab (fQ s) ≤ 2) (hx : ab (fQ x) ≤ p2 1000) (hy : ab (fQ y) ≤ p2 1000)
    (hM : 1267650600228229401496703205376 * p2 (-1075) ≤ ab (fQ x) + ab (fQ y)) :
    fFin (aV (mV c x) (mV s y)) = true ∧ 9007199254740992 * ab (fQ (aV (mV c x) (mV s y)) - (fQ c * fQ x + fQ s * fQ y)) ≤ 5 * (ab (fQ x) + ab (fQ y)) := by
  have x0 := ab_0 (fQ x); have y0 := ab_0 (fQ y)
  have t2 := Rat.mul_le_mul_of_nonneg_left hc x0
  have t3 := Rat.mul_le_mul_of_nonneg_left hs y0
  have ecx : ab (fQ c * fQ x) = ab (fQ x) * ab (fQ c) := by rw [ab_mul, Rat.mul_comm]
  have esy : ab (fQ s * fQ y) = ab (fQ y) * ab (fQ s) := by rw [ab_mul, Rat.mul_comm]
  have hB : 16 * p2 1000 ≤ p2 1023 ∧ 0 < p2 1000 ∧ 16 ≤ p2 1023 := by
    have h1 := p2_mono (show (1000 + 1 + 1 + 1 + 1 : Int) ≤ 1023 by decide)
    simp only [p2_succ] at h1
    have := p2_big
    exact ⟨by grind, p2_pos _, by grind⟩
  obtain ⟨B1, B2, B3⟩ := hB
  obtain ⟨n1, n2, n3⟩ := eta_small
  obtain ⟨f1, e1⟩ := mul_err2 c x fc fx (by rw [ecx]; grind)
  obtain ⟨f2, e2⟩ := mul_err2 s y fs fy (by rw [esy]; grind)
  have l1 := le_ab (fQ (mV c x) - fQ c * fQ x); have l2 := le_ab (fQ (mV s y) - fQ s * fQ y)
  have l3 := le_ab (fQ c * fQ x); have l4 := le_ab (fQ s * fQ y)
  have tt := ab_le (x := fQ (mV c x) + fQ (mV s y)) (y := ab (fQ (mV c x) - fQ c * fQ x) + ab (fQ (mV s y) - fQ s * fQ y) + ab (fQ c * fQ x) + ab (fQ s * fQ y)) (by grind) (by grind)
  have fa := add_fin _ _ f1 f2 (by grind)
  have ea := add_err _ _ f1 f2 fa
  refine ⟨fa, ?_⟩
  have l5 := le_ab (fQ (aV (mV c x) (mV s y)) - (fQ (mV c x) + fQ (mV s y)))
  have ll := ab_le (x := fQ (aV (mV c x) (mV s y)) - (fQ c * fQ x + fQ s * fQ y)) (y := ab (fQ (aV (mV c x) (mV s y)) - (fQ (mV c x) + fQ (mV s y))) + ab (fQ (mV c x) - fQ c * fQ x) + ab (fQ (mV s y) - fQ s * fQ y)) (by grind) (by grind)
  rw [ecx] at e1 tt
  rw [esy] at e2 tt
  clear l1 l2 l3 l4 l5
  generalize ab (fQ (aV (mV c x) (mV s y)) - (fQ c * fQ x + fQ s * fQ y)) = z0 at *
  generalize ab (fQ (aV (mV c x) (mV s y)) - (fQ (mV c x) + fQ (mV s y))) = z1 at *
  generalize ab (fQ (mV c x) - fQ c * fQ x) = z2 at *
  generalize ab (fQ (mV s y) - fQ s * fQ y) = z3 at *
  generalize ab (fQ (mV c x) + fQ (mV s y)) = z4 at *
  generalize ab (fQ x) * ab (fQ c) = z5 at *
  generalize ab (fQ y) * ab (fQ s) = z6 at *
  generalize ab (fQ x) = z7 at *
  generalize ab (fQ y) = z8 at *
  generalize p2 (-1075) = η at *
  grind

end Go.Proofs.YtceofkjefmilfaaGreatDoor

/- Package matrix: Turn, Zeros, Eye. -/
namespace Go.Proofs.YtceofkjefmilfaaGreatDoor
open Go.RowKit
attribute [local go_sem ↓] Go.wp_at_zero Go.wp_at_succ

theorem NewM.putM {H : Nat} {w : World} {r c : Nat} {S : List Nat} {v : Value} (h : NewM H w r c S v) {g : Nat} {x y : Int} {a : Option Addr} {n d : Nat} (hx : BoxM w g (.int .i64 x) (.int .i64 y) (.slice a n d)) (u u' u'' : Value) :
    NewM H (((w.setCell ⟨g, 0, none⟩ u).setCell ⟨g, 1, none⟩ u').setCell ⟨g, 2, none⟩ u'') r c S v := by
  obtain ⟨ao, cap, h1, h2, h3⟩ := h
  exact ⟨ao, cap, h1, h2, h3.putM hx u u' u''⟩
end Go.Proofs.YtceofkjefmilfaaGreatDoor

/- Package matrix: Turn, Part, Stack, Beside, Mul, Sub, Zeros, Eye: their errors and their answers, by letters (mkn6.py). -/
namespace Go.Proofs.YtceofkjefmilfaaGreatDoor
open Go.RowKit
attribute [local go_sem ↓] Go.wp_at_zero Go.wp_at_succ

theorem boxes1 (w : World) (x y z : Value) (w1 : World) (h : Below (w.heap.size + 1) (w.alloc (.cells #[x, y, z] 35)) w1) :
    Below w.heap.size w w1 ∧ BoxM w1 w.heap.size x y z := by
  have b0 := below_alloc9 w (.cells #[x, y, z] 35)
  exact ⟨b0.trans (h.mono (by omega)), (BoxM.new w x y z).below h (by omega)⟩
theorem boxes2 (w : World) (x y z x' y' z' : Value) (w1 : World) (h : Below (w.heap.size + 1 + 1) ((w.alloc (.cells #[x, y, z] 35)).alloc (.cells #[x', y', z'] 35)) w1) :
    Below w.heap.size w w1 ∧ BoxM w1 w.heap.size x y z ∧ BoxM w1 (w.heap.size + 1) x' y' z' := by
  have s0 := size_alloc9 w (.cells #[x, y, z] 35)
  have h' : Below ((w.alloc (.cells #[x, y, z] 35)).heap.size + 1) ((w.alloc (.cells #[x, y, z] 35)).alloc (.cells #[x', y', z'] 35)) w1 := by rw [s0]; exact h
  obtain ⟨h1, h2⟩ := boxes1 _ x' y' z' w1 h'
  rw [s0] at h1 h2
  obtain ⟨h3, h4⟩ := boxes1 w x y z w1 h1
  exact ⟨h3, h4, h2⟩
end Go.Proofs.YtceofkjefmilfaaGreatDoor

/- The reference of layer 10: Right, At, Zeros, Row, With. -/
namespace Go.Proofs.YtceofkjefmilfaaGreatDoor
open Go.RowKit
attribute [local go_sem ↓] Go.wp_at_zero Go.wp_at_succ

set_option maxRecDepth 20000 in
set_option maxHeartbeats 4000000 in
theorem rright_any (r c : Int) (ao : Option Addr) (n cap : Nat) (w : World) :
    Calls Tryz.prog 15 #[.agg #[.int .i64 r, .int .i64 c, .slice ao n cap]] w fun e w' => e = .returned (.bool (okB r c n)) ∧ Below w.heap.size w w' := by
  have hb0 := hide (below_alloc9 w (.cells #[.int .i64 r, .int .i64 c, .slice ao n cap] 35))
  rcases (show (r < 0 ∧ okB r c n = false) ∨ (0 ≤ r ∧ 6 < r ∧ okB r c n = false) ∨ (0 ≤ r ∧ r ≤ 6 ∧ c < 0 ∧ okB r c n = false) ∨ (0 ≤ r ∧ r ≤ 6 ∧ 0 ≤ c ∧ 6 < c ∧ okB r c n = false) ∨ (0 ≤ r ∧ r ≤ 6 ∧ 0 ≤ c ∧ c ≤ 6) by
    unfold okB
    by_cases h : 0 ≤ r ∧ r ≤ 6 ∧ 0 ≤ c ∧ c ≤ 6
    · omega
    · rw [decide_eq_false (fun g => h g.1)]; simp; omega) with ⟨h1, e⟩ | ⟨h1, h2, e⟩ | ⟨h1, h2, h3, e⟩ | ⟨h1, h2, h3, h4, e⟩ | ⟨h1, h2, h3, h4⟩
  · rw [e]
    clear e
    go_enter Tryz.func15, Tryz.ntmps15
    go_wp2
    go_ret
    exact ⟨rfl, unhide hb0⟩
  · rw [e]
    clear e
    go_enter Tryz.func15, Tryz.ntmps15
    go_wp2
    go_ret
    exact ⟨rfl, unhide hb0⟩
  · rw [e]
    clear e
    go_enter Tryz.func15, Tryz.ntmps15
    go_wp2
    go_ret
    exact ⟨rfl, unhide hb0⟩
  · rw [e]
    clear e
    go_enter Tryz.func15, Tryz.ntmps15
    go_wp2
    go_ret
    exact ⟨rfl, unhide hb0⟩
  · have hm : ∃ m : Nat, r * c = (m : Int) ∧ m ≤ 36 := by
      obtain ⟨a, rfl⟩ := Int.eq_ofNat_of_zero_le h1
      obtain ⟨b, rfl⟩ := Int.eq_ofNat_of_zero_le h3
      refine ⟨a * b, by simp, ?_⟩
      have : a * b ≤ 6 * 6 := Nat.mul_le_mul (by omega) (by omega)
      omega
    obtain ⟨m, hm, h36⟩ := hm
    have e2 : okB r c n = decide ((n : Int) = (m : Int)) := decide_eq_decide.2 (by rw [hm]; exact ⟨fun h => h.2, fun h => ⟨⟨h1, h2, h3, h4⟩, h⟩⟩)
    rw [e2]
    clear e2
    go_enter Tryz.func15, Tryz.ntmps15
    go_wp2
    go_ret
    refine ⟨?_, unhide hb0⟩
    first | rfl | simp

end Go.Proofs.YtceofkjefmilfaaGreatDoor

