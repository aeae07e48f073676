/- Part 32 of the texts. -/
import Derived.Test.YtceofkjefmilfaaGreatDoorPartc26
import Derived.Test.YtceofkjefmilfaaGreatDoorPartc29
import Derived.Test.YtceofkjefmilfaaGreatDoorPartc31
import Derived.Deep.RegionLaw
import Derived.Test.YtceofkjefmilfaaGreatDoorPartc16
/- Quotients of numbers, as rational ones: how far they err. Ahead of stage 12. -/
namespace Go.Proofs.YtceofkjefmilfaaGreatDoor
open Go.RowKit

theorem stk_err (N d : Nat) (hd : 0 < d) : stk N d * d ≤ 2 * N + d ∧ 2 * N ≤ stk N d * d + d := by
  have h1 := Nat.div_add_mod N d
  have h2 := Nat.mod_lt N hd
  unfold stk
  split
  · have e : (2 * (N / d) + 0) * d = 2 * (d * (N / d)) := by rw [Nat.add_zero, Nat.mul_assoc, Nat.mul_comm d]
    rw [e]
    generalize d * (N / d) = Q at *
    omega
  · have e : (2 * (N / d) + 1) * d = 2 * (d * (N / d)) + d := by rw [Nat.add_mul, Nat.mul_assoc, Nat.one_mul, Nat.mul_comm d]
    rw [e]
    generalize d * (N / d) = Q at *
    omega

/-- What is rounded to the quotient, times the divisor, is the number, but for a part in 2^128. -/
theorem quo_near (a b : Nat) (ha : a < 18446744073709551616) (hb : b < 18446744073709551616) (fa : fFin a = true) (fb : fFin b = true) (a0 : fK a ≠ 0) (b0 : fK b ≠ 0) :
    340282366920938463463374607431768211456 * (xE (qS a b) (fX a - fX b - 181) * ab (fQ b)) ≤ 340282366920938463463374607431768211456 * ab (fQ a) + ab (fQ a) ∧
    340282366920938463463374607431768211456 * ab (fQ a) ≤ 340282366920938463463374607431768211456 * (xE (qS a b) (fX a - fX b - 181) * ab (fQ b)) + ab (fQ a) := by
  obtain ⟨x1, x2, x3, x4, x5, x6, x7, x8, x9⟩ := sc_facts a ha fa a0
  obtain ⟨y1, y2, y3, y4, y5, y6, y7, y8, y9⟩ := sc_facts b hb fb b0
  have eA : ab (fQ a) = (((fD a).natAbs * 2 ^ 180 : Nat) : Rat) * (2 * p2 (fX a - 181)) := by
    have e := fD_mag a ha fa a0 0
    rw [Int.add_zero, p2_0, Rat.mul_one, ← fQ_ab] at e
    rw [← e]
    unfold xE
    rw [Rat.natCast_mul, ← p2_nat, show fX a = ((180 : Nat) : Int) + (fX a - 181 + 1) by omega, p2_add, p2_succ, show ((180 : Nat) : Int) + (fX a - 181 + 1) - 181 = fX a - 181 by omega]
    grind
  have eB : ab (fQ b) = ((fD b).natAbs : Rat) * p2 (fX b) := by
    have e := fD_mag b hb fb b0 0
    rw [Int.add_zero, p2_0, Rat.mul_one, ← fQ_ab] at e
    exact e.symm
  have eX : xE (qS a b) (fX a - fX b - 181) * ab (fQ b) = ((qS a b * (fD b).natAbs : Nat) : Rat) * p2 (fX a - 181) := by
    rw [eB]
    unfold xE
    rw [Rat.natCast_mul, show fX a - 181 = (fX a - fX b - 181) + fX b by omega, p2_add]
    grind
  obtain ⟨s1, s2⟩ := stk_err ((fD a).natAbs * 2 ^ 180) (fD b).natAbs (by omega)
  have hP := p2_pos (fX a - 181)
  have hd : 340282366920938463463374607431768211456 * (fD b).natAbs ≤ 2 * ((fD a).natAbs * 2 ^ 180) := by
    have h1 : 2 ^ 181 ≤ (fD a).natAbs * 2 ^ 181 := Nat.le_mul_of_pos_left _ (by omega)
    have e1 : (2 : Nat) ^ 181 = 340282366920938463463374607431768211456 * 9007199254740992 := by decide
    have e2 : (2 : Nat) ^ 181 = 2 ^ 180 * 2 := by decide
    have h2 : 340282366920938463463374607431768211456 * (fD b).natAbs ≤ 340282366920938463463374607431768211456 * 9007199254740992 := Nat.mul_le_mul_left _ (by omega)
    rw [← e1] at h2
    rw [e2, ← Nat.mul_assoc] at h1
    omega
  have hq : qS a b = stk ((fD a).natAbs * 2 ^ 180) (fD b).natAbs := rfl
  rw [← hq] at s1 s2
  rw [eX, eA]
  generalize (fD a).natAbs * 2 ^ 180 = N at *
  generalize qS a b * (fD b).natAbs = Z at *
  have g1 : 340282366920938463463374607431768211456 * Z ≤ 340282366920938463463374607431768211456 * (2 * N) + 2 * N := by omega
  have g2 : 340282366920938463463374607431768211456 * (2 * N) ≤ 340282366920938463463374607431768211456 * Z + 2 * N := by omega
  have c1 := Rat.mul_le_mul_of_nonneg_left (Rat.natCast_le_natCast.2 g1) (Rat.le_of_lt hP)
  have c2 := Rat.mul_le_mul_of_nonneg_left (Rat.natCast_le_natCast.2 g2) (Rat.le_of_lt hP)
  rw [Rat.natCast_add, Rat.natCast_mul 340282366920938463463374607431768211456, Rat.natCast_mul 340282366920938463463374607431768211456, Rat.natCast_mul 2] at c1 c2
  have k1 : ((340282366920938463463374607431768211456 : Nat) : Rat) = 340282366920938463463374607431768211456 := rfl
  have k2 : ((2 : Nat) : Rat) = 2 := rfl
  rw [k1, k2] at c1 c2
  constructor <;> grind

/-- The quotient, times the divisor, errs by a part in 2^53 (and one in 2^123), or by half of the least number times the divisor (and a part in 2^127). -/
theorem div_err (a b : Nat) (ha : a < 18446744073709551616) (hb : b < 18446744073709551616) (fa : fFin a = true) (fb : fFin b = true) (a0 : fK a ≠ 0) (b0 : fK b ≠ 0) (hf : fFin (dV a b) = true) :
    10633823966279326983230456482242756608 * ab (fQ (dV a b) * fQ b - fQ a) ≤ 1180591620717411303425 * ab (fQ a) ∨
    (fR (dV a b) ≤ 4503599627370496 ∧ 170141183460469231731687303715884105728 * ab (fQ (dV a b) * fQ b - fQ a) ≤ 170141183460469231731687303715884105728 * (p2 (-1075) * ab (fQ b)) + ab (fQ a)) := by
  have hr := fR_fin _ hf
  have hd := (dV_fin a b fa fb a0 b0).1
  have hle : qV a b ≤ 9218868437227405312 := rnd_le _ _
  have hR : fR (dV a b) = qV a b := by rw [hd, fR_wrd _ _ (by omega)]
  have hS : fS (dV a b) = (fS a ^^ fS b) := by rw [hd, fS_wrd _ _ (by omega)]
  rw [hR] at hr
  have e := rnd_err (qS a b) (fX a - fX b - 181) hr
  obtain ⟨q1, q2⟩ := quo_near a b ha hb fa fb a0 b0
  have hx0 : 0 ≤ xE (qS a b) (fX a - fX b - 181) := Rat.mul_nonneg Rat.natCast_nonneg (Rat.le_of_lt (p2_pos _))
  have hy : (rv (qV a b) : Rat) * p2 (-1074) = yE (qS a b) (fX a - fX b - 181) := rfl
  have h74 : p2 (-1074) = 2 * p2 (-1075) := by rw [show (-1074 : Int) = -1075 + 1 by rfl, p2_succ]
  have hp := p2_pos (-1075)
  have n0 := mag_0 (fR a); have n1 := mag_0 (fR b)
  rw [fQ_ab, fQ_ab] at *
  rw [fQ_sign (dV a b), hS, hR, hy, fQ_sign a, fQ_sign b]
  generalize (rv (fR a) : Rat) * p2 (-1074) = A at *
  generalize (rv (fR b) : Rat) * p2 (-1074) = B at *
  generalize yE (qS a b) (fX a - fX b - 181) = Y at *
  generalize xE (qS a b) (fX a - fX b - 181) = X at *
  rw [h74] at e
  generalize p2 (-1075) = η at *
  have main : 10633823966279326983230456482242756608 * ab (Y * B - A) ≤ 1180591620717411303425 * A ∨ (qV a b ≤ 4503599627370496 ∧ 170141183460469231731687303715884105728 * ab (Y * B - A) ≤ 170141183460469231731687303715884105728 * (η * B) + A) := by
    rcases e with ⟨e1, e2⟩ | ⟨e1, e2, e3, e4⟩
    · refine .inl ?_
      have c1 := Rat.mul_le_mul_of_nonneg_left e1 n1
      have c2 := Rat.mul_le_mul_of_nonneg_left e2 n1
      unfold ab
      grind
    · refine .inr ⟨e1, ?_⟩
      have c1 := Rat.mul_le_mul_of_nonneg_left e3 n1
      have c2 := Rat.mul_le_mul_of_nonneg_left e4 n1
      unfold ab
      grind
  have k2 : ab (Y * B - A) = ab (A - Y * B) := ab_sub _ _
  cases fS a <;> cases fS b <;> simp only [Bool.xor_false, Bool.xor_true, Bool.not_true, Bool.not_false, Bool.false_eq_true, if_true, if_false]
  · exact main
  · rw [show -Y * -B - A = Y * B - A by grind]; exact main
  · rw [show -Y * B - -A = A - Y * B by grind, ← k2]; exact main
  · rw [show Y * -B - -A = A - Y * B by grind, ← k2]; exact main

end Go.Proofs.YtceofkjefmilfaaGreatDoor

/- Plane turns: c, s, r; c c + s s is 1, c f + s g is r, c g - s f is 0, but for some parts in 2^53. Ahead of stage 12. -/
namespace Go.Proofs.YtceofkjefmilfaaGreatDoor
open Go.RowKit

theorem eta_p2 (e : Int) (h : -975 ≤ e) : 1267650600228229401496703205376 * p2 (-1075) ≤ p2 e := by
  have h1 := p2_mono h
  have h2 : p2 (-975) = 1267650600228229401496703205376 * p2 (-1075) := by
    rw [show (-975 : Int) = ((100 : Nat) : Int) + -1075 by rfl, p2_add, p2_nat]
    rfl
  rw [← h2]
  exact h1

/-- Of a finite number that is not too small a product is right but for a part in 2^53 and half of the least number. -/
theorem mul_err2 (a b : Nat) (fa : fFin a = true) (fb : fFin b = true) (h : ab (fQ a * fQ b) < p2 1023) :
    fFin (mV a b) = true ∧ 9007199254740992 * ab (fQ (mV a b) - fQ a * fQ b) ≤ ab (fQ a * fQ b) + 9007199254740992 * p2 (-1075) := by
  have hf := mul_fin a b fa fb h
  have h74 : p2 (-1074) = 2 * p2 (-1075) := by rw [show (-1074 : Int) = -1075 + 1 by rfl, p2_succ]
  have hp := p2_pos (-1075)
  have h0 := ab_0 (fQ a * fQ b)
  refine ⟨hf, ?_⟩
  rcases mul_err a b fa fb hf with e | e
  · grind
  · have := e.2
    rw [h74] at this
    grind

/-- The quotient is finite, if it is not too great. -/
theorem div_fin (a b : Nat) (ha : a < 18446744073709551616) (hb : b < 18446744073709551616) (fa : fFin a = true) (fb : fFin b = true) (a0 : fK a ≠ 0) (b0 : fK b ≠ 0) (h : ab (fQ a) ≤ 1024 * ab (fQ b)) : fFin (dV a b) = true := by
  obtain ⟨q1, q2⟩ := quo_near a b ha hb fa fb a0 b0
  have hb1 := eX_top b hb fb b0
  have hbp := p2_pos (eX b)
  have hx0 : 0 ≤ xE (qS a b) (fX a - fX b - 181) := Rat.mul_nonneg Rat.natCast_nonneg (Rat.le_of_lt (p2_pos _))
  have hlt : xE (qS a b) (fX a - fX b - 181) < p2 1023 := by
    have hB : (2048 : Rat) ≤ p2 1023 := by
      have h := p2_mono (show (11 : Int) ≤ 1023 by decide)
      have h3 : p2 11 = 2048 := by rw [show (11 : Int) = ((11 : Nat) : Int) by rfl, p2_nat]; rfl
      grind
    generalize xE (qS a b) (fX a - fX b - 181) = X at *
    rcases Rat.le_total (a := 2048) (b := X) with g | g
    · exfalso
      have hm := Rat.mul_le_mul_of_nonneg_left g (show 0 ≤ ab (fQ b) by grind)
      have := ab_0 (fQ a)
      generalize ab (fQ a) = A at *
      have hc : ab (fQ b) * X = X * ab (fQ b) := Rat.mul_comm _ _
      rw [hc] at hm
      generalize X * ab (fQ b) = XB at *
      grind
    · rcases Rat.le_total (a := X) (b := 2047) with g2 | g2
      · grind
      · exfalso
        have hm := Rat.mul_le_mul_of_nonneg_left g2 (show 0 ≤ ab (fQ b) by grind)
        have := ab_0 (fQ a)
        generalize ab (fQ a) = A at *
        have hc : ab (fQ b) * X = X * ab (fQ b) := Rat.mul_comm _ _
        rw [hc] at hm
        generalize X * ab (fQ b) = XB at *
        grind
  have := rnd_finite _ _ hlt
  have hle : qV a b ≤ 9218868437227405312 := rnd_le _ _
  exact (fK_rungs _).2.2.2 (by rw [(dV_fin a b fa fb a0 b0).1, fR_wrd _ _ (by omega)]; exact this)

/-- Of numbers of tame sizes the quotient is right but for two parts in 2^53. -/
theorem div_err2 (a b : Nat) (ha : a < 18446744073709551616) (hb : b < 18446744073709551616) (fa : fFin a = true) (fb : fFin b = true) (a0 : fK a ≠ 0) (b0 : fK b ≠ 0) (h : ab (fQ a) ≤ 1024 * ab (fQ b))
    (hs : 1267650600228229401496703205376 * (p2 (-1075) * ab (fQ b)) ≤ ab (fQ a)) :
    fFin (dV a b) = true ∧ 9007199254740992 * ab (fQ (dV a b) * fQ b - fQ a) ≤ 2 * ab (fQ a) := by
  have hf := div_fin a b ha hb fa fb a0 b0 h
  refine ⟨hf, ?_⟩
  have h0 := ab_0 (fQ a)
  have h1 := ab_0 (fQ (dV a b) * fQ b - fQ a)
  rcases div_err a b ha hb fa fb a0 b0 hf with e | e
  · grind
  · have := e.2
    generalize p2 (-1075) * ab (fQ b) = z at *
    grind

/-- Numbers that are not 0, of sizes from 2^-400 on, below 2^400. -/
def TameN (x : Nat) : Prop := x < 18446744073709551616 ∧ fFin x = true ∧ fK x ≠ 0 ∧ -400 ≤ eX x ∧ eX x < 400

theorem tame_out (x : Nat) (k : Int) (h : TameN x) (hk : -400 ≤ k ∧ k < 400) (hle : ab (fQ x) ≤ p2 (k + 1)) :
    xV x (-k) < 18446744073709551616 ∧ fFin (xV x (-k)) = true ∧ fK (xV x (-k)) ≠ 0 ∧ fQ (xV x (-k)) = fQ x * p2 (-k) ∧ ab (fQ x * p2 (-k)) ≤ 2 ∧ p2 (-800) ≤ ab (fQ x * p2 (-k)) := by
  obtain ⟨h1, h2, h3, h4, h5⟩ := h
  obtain ⟨t1, t2⟩ := eX_top x h1 h2 h3
  have pk := p2_pos (-k)
  have ea : ab (fQ x * p2 (-k)) = ab (fQ x) * p2 (-k) := by rw [ab_mul, ab_pos (Rat.le_of_lt pk)]
  have m1 := Rat.mul_le_mul_of_nonneg_left t1 (Rat.le_of_lt pk)
  have m2 := Rat.mul_le_mul_of_nonneg_left hle (Rat.le_of_lt pk)
  rw [← p2_add] at m1 m2
  have e2 : p2 (-k + (k + 1)) = 2 := by rw [show -k + (k + 1) = 1 by omega, p2_1]
  rw [e2] at m2
  have m3 := p2_mono (show -800 ≤ -k + eX x by omega)
  have l1 : p2 (-800) ≤ ab (fQ x * p2 (-k)) := by rw [ea]; grind
  have l2 : ab (fQ x * p2 (-k)) ≤ 2 := by rw [ea]; grind
  have hB := p2_big
  obtain ⟨s1, s2⟩ := scale_exact x (-k) h1 h2 (by rw [← ea]; grind) (by rw [← ea]; have := p2_mono (show (-1022 : Int) ≤ -800 by decide); grind)
  have p8 := p2_pos (-800)
  refine ⟨xV_lt x _ h1, s1, fun e => ?_, s2, l2, l1⟩
  have := fQ_nought _ e
  rw [s2] at this
  rw [this] at l1
  unfold ab at l1
  grind

/-- The root of the sum of two squares whose power of two is taken out. -/
theorem hyp_err (a b : Nat) (A B : Rat) (fa : fFin a = true) (fb : fFin b = true) (ea : fQ a = A) (eb : fQ b = B) (ha : ab A ≤ 2) (hb : ab B ≤ 2) (hT : 1 ≤ A * A + B * B) :
    let s := aV (mV a a) (mV b b); let n := sV s
    fFin n = true ∧ fS n = false ∧ n < 18446744073709551616 ∧ fK n ≠ 0 ∧ 1 ≤ 2 * fQ n ∧ fQ n ≤ 4 ∧ 9007199254740992 * ab (fQ n * fQ n - (A * A + B * B)) ≤ 6 * (A * A + B * B) := by
  intro s n
  obtain ⟨n1, n2, n3⟩ := eta_small
  have hB := p2_big
  have la := le_ab A; have lb := le_ab B
  have q1 := sq_nonneg A; have q2 := sq_nonneg B
  have m1 := Rat.mul_nonneg (show 0 ≤ 2 - A by grind) (show 0 ≤ 2 + A by grind)
  have m2 := Rat.mul_nonneg (show 0 ≤ 2 - B by grind) (show 0 ≤ 2 + B by grind)
  have e1 := mul_err2 a a fa fa (by rw [ea, ab_pos q1]; grind)
  have e2 := mul_err2 b b fb fb (by rw [eb, ab_pos q2]; grind)
  rw [ea, ab_pos q1] at e1
  rw [eb, ab_pos q2] at e2
  obtain ⟨f1, g1⟩ := e1
  obtain ⟨f2, g2⟩ := e2
  have s1 := (mV_self_sign a fa).1
  have s2 := (mV_self_sign b fb).1
  have z1 := fQ_pos _ s1
  have z2 := fQ_pos _ s2
  have l1 := le_ab (fQ (mV a a) - A * A)
  have l2 := le_ab (fQ (mV b b) - B * B)
  have b0 : ab (fQ (mV a a) + fQ (mV b b)) = fQ (mV a a) + fQ (mV b b) := ab_pos (by grind)
  have fs : fFin s = true := add_fin _ _ f1 f2 (by rw [b0]; grind)
  have es := add_err _ _ f1 f2 fs
  rw [b0] at es
  have l3 := le_ab (fQ s - (fQ (mV a a) + fQ (mV b b)))
  have ss : fS s = false := by
    have hz : 0 ≤ fZ (mV a a) ∧ 0 ≤ fZ (mV b b) := by
      unfold fZ pv; rw [s1, s2]; simp only [Bool.false_eq_true, if_false]; omega
    obtain ⟨c1, c2⟩ := fin_kind f1
    obtain ⟨c3, c4⟩ := fin_kind f2
    show fS (aV (mV a a) (mV b b)) = false
    rw [(add_f _ _ c1 c2 c3 c4).1]
    split
    · rw [s1, s2]; decide
    · have hle := rnd_le (aZ (mV a a) (mV b b)).natAbs (-1074)
      rw [fS_wrd _ _ (by omega)]
      exact decide_eq_false (by unfold aZ; omega)
  have es2 : 9007199254740992 * ab (fQ s - (fQ (mV a a) + fQ (mV b b))) ≤ fQ (mV a a) + fQ (mV b b) := es
  have t := ab_le (x := fQ s - (A * A + B * B)) (y := ab (fQ s - (fQ (mV a a) + fQ (mV b b))) + ab (fQ (mV a a) - A * A) + ab (fQ (mV b b) - B * B)) (by grind) (by grind)
  have T0 : 18014398509481984 * ab (fQ s - (A * A + B * B)) ≤ 5 * (A * A + B * B) := by
    generalize fQ (mV a a) = P at *
    generalize fQ (mV b b) = Q at *
    generalize A * A = AA at *
    generalize B * B = BB at *
    generalize p2 (-1075) = η at *
    grind
  have l4 := le_ab (fQ s - (A * A + B * B))
  have k0 : fK s ≠ 0 := fun e => by
    have := fQ_nought s e
    grind
  obtain ⟨r1, r2, r3, r4, r5, r6, r7⟩ := sqrt_err s fs k0 ss
  have r8 : 1 ≤ 2 * fQ n := by
    rcases Rat.le_total (a := 1) (b := 2 * fQ n) with g | g
    · exact g
    · have := Rat.mul_nonneg (show 0 ≤ 1 - 2 * fQ n by grind) (show 0 ≤ 1 + 2 * fQ n by grind)
      grind
  have r9 : fQ n ≤ 4 := by
    rcases Rat.le_total (a := fQ n) (b := 4) with g | g
    · exact g
    · have := Rat.mul_nonneg (show 0 ≤ fQ n - 4 by grind) (show 0 ≤ fQ n + 4 by grind)
      grind
  refine ⟨r1, r2, r3, fun e => ?_, r8, r9, ?_⟩
  · have := fQ_nought n e
    grind
  · have r6' : 9007199254740992 * (fQ n * fQ n) ≤ 9007199254740992 * fQ s + 3 * fQ s := r6
    have r7' : 9007199254740992 * fQ s ≤ 9007199254740992 * (fQ n * fQ n) + 3 * fQ s := r7
    clear r6 r7 g1 g2 es es2 t m1 m2 l1 l2 l3
    generalize fQ n * fQ n = NN at *
    generalize A * A + B * B = T at *
    unfold ab
    grind

/-- The turn of two numbers that are not 0. -/
def gvK (f g : Nat) : Int := eX (max (fR f) (fR g))
def gvN (f g : Nat) : Nat := sV (aV (mV (xV f (-gvK f g)) (xV f (-gvK f g))) (mV (xV g (-gvK f g)) (xV g (-gvK f g))))

theorem gv_core (f g n c s : Nat) (k : Int) (A B : Rat) (hf : TameN f) (hg : TameN g) (hk0 : k = gvK f g) (hn : n = gvN f g) (hA : A = fQ f * p2 (-k)) (hB : B = fQ g * p2 (-k)) (hc : c = dV (xV f (-k)) n) (hs : s = dV (xV g (-k)) n) :
    (-400 ≤ k ∧ k < 400) ∧ n < 18446744073709551616 ∧ fFin n = true ∧ fS n = false ∧ 1 ≤ 2 * fQ n ∧ fQ n ≤ 4 ∧ 1 ≤ A * A + B * B ∧ 9007199254740992 * ab (fQ n * fQ n - (A * A + B * B)) ≤ 6 * (A * A + B * B) ∧
    fFin c = true ∧ fFin s = true ∧ 9007199254740992 * ab (fQ c * fQ n - A) ≤ 2 * ab A ∧ 9007199254740992 * ab (fQ s * fQ n - B) ≤ 2 * ab B := by
  have hf' := hf; have hg' := hg
  obtain ⟨f1, f2, f3, f4, f5⟩ := hf
  obtain ⟨g1, g2, g3, g4, g5⟩ := hg
  have rf := fR_fin f f2; have rg := fR_fin g g2
  have rf0 : fR f ≠ 0 := fun e => f3 ((fK_zero f).2 e)
  -- the greater one
  obtain ⟨m, hm⟩ : ∃ m, m = max (fR f) (fR g) := ⟨_, rfl⟩
  have hml : m < 9218868437227405312 := by omega
  obtain ⟨a1, a2, a3⟩ := mag_fZ m (by omega)
  have fm : fFin m = true := (fK_rungs m).2.2.2 (by rw [a2]; exact hml)
  have km : fK m ≠ 0 := fun e => by have := (fK_zero m).1 e; omega
  have hk : k = eX m := by rw [hk0, hm]; rfl
  obtain ⟨t1, t2⟩ := eX_top m (by omega) fm km
  have qm : ab (fQ m) = (rv m : Rat) * p2 (-1074) := by rw [fQ_ab, a2]
  have hP := Rat.le_of_lt (p2_pos (-1074))
  have lf : ab (fQ f) ≤ ab (fQ m) := by
    rw [qm, fQ_ab]
    have := Rat.mul_le_mul_of_nonneg_left (Rat.natCast_le_natCast.2 (rv_mono (show fR f ≤ m by omega))) hP
    grind
  have lg : ab (fQ g) ≤ ab (fQ m) := by
    rw [qm, fQ_ab]
    have := Rat.mul_le_mul_of_nonneg_left (Rat.natCast_le_natCast.2 (rv_mono (show fR g ≤ m by omega))) hP
    grind
  have hmm : ab (fQ m) = ab (fQ f) ∨ ab (fQ m) = ab (fQ g) := by
    rcases Nat.le_total (fR f) (fR g) with h | h
    · exact .inr (by rw [qm, fQ_ab, show m = fR g by omega])
    · exact .inl (by rw [qm, fQ_ab, show m = fR f by omega])
  rw [← hk] at t1 t2
  have hkb : -400 ≤ k ∧ k < 400 := by
    rcases hmm with e | e
    · obtain ⟨u1, u2⟩ := eX_top f f1 f2 f3
      rw [← e] at u1 u2
      have c1 : k < eX f + 1 := lt_of_p2 (by grind)
      have c2 : eX f < k + 1 := lt_of_p2 (by grind)
      omega
    · obtain ⟨u1, u2⟩ := eX_top g g1 g2 g3
      rw [← e] at u1 u2
      have c1 : k < eX g + 1 := lt_of_p2 (by grind)
      have c2 : eX g < k + 1 := lt_of_p2 (by grind)
      omega
  obtain ⟨x1, x2, x3, x4, x5, x6⟩ := tame_out f k hf' hkb (by grind)
  obtain ⟨y1, y2, y3, y4, y5, y6⟩ := tame_out g k hg' hkb (by grind)
  have pk := p2_pos (-k)
  have hT : 1 ≤ A * A + B * B := by
    have m1 := Rat.mul_le_mul_of_nonneg_left t1 (Rat.le_of_lt pk)
    rw [p2_neg] at m1
    have q1 := sq_nonneg A; have q2 := sq_nonneg B
    rcases hmm with e | e
    · have e2 : ab A = p2 (-k) * ab (fQ m) := by rw [hA, ab_mul, ab_pos (Rat.le_of_lt pk), e, Rat.mul_comm]
      have e3 : A * A = ab A * ab A := by rw [← ab_mul]; exact (ab_pos q1).symm
      have := Rat.mul_nonneg (show 0 ≤ ab A - 1 by grind) (show 0 ≤ ab A - 1 by grind)
      grind
    · have e2 : ab B = p2 (-k) * ab (fQ m) := by rw [hB, ab_mul, ab_pos (Rat.le_of_lt pk), e, Rat.mul_comm]
      have e3 : B * B = ab B * ab B := by rw [← ab_mul]; exact (ab_pos q2).symm
      have := Rat.mul_nonneg (show 0 ≤ ab B - 1 by grind) (show 0 ≤ ab B - 1 by grind)
      grind
  obtain ⟨h1, h2, h3, h4, h5, h6, h7⟩ := hyp_err (xV f (-k)) (xV g (-k)) A B x2 y2 (x4.trans hA.symm) (y4.trans hB.symm) (by rw [hA]; exact x5) (by rw [hB]; exact y5) hT
  unfold gvN at hn
  rw [← hk0] at hn
  rw [← hn] at h1 h2 h3 h4 h5 h6 h7
  have qn : ab (fQ n) = fQ n := ab_pos (fQ_pos n h2)
  have hη := eta_p2 (-798) (by decide)
  have h98 : p2 (-798) = 4 * p2 (-800) := by rw [show (-798 : Int) = -800 + 1 + 1 by rfl, p2_succ, p2_succ]; grind
  have hη0 := p2_pos (-1075)
  have hη2 : 5070602400912917605986812821504 * p2 (-1075) ≤ p2 (-800) := by
    have e1 := p2_mono (show (-1075 + 102 : Int) ≤ -800 by decide)
    have e2 : p2 (-1075 + 102) = 5070602400912917605986812821504 * p2 (-1075) := by
      rw [p2_add, show (102 : Int) = ((102 : Nat) : Int) by rfl, p2_nat, Rat.mul_comm]; rfl
    rw [← e2]; exact e1
  have small : 1267650600228229401496703205376 * (p2 (-1075) * ab (fQ n)) ≤ p2 (-800) := by
    rw [qn]
    have := Rat.mul_nonneg (Rat.le_of_lt hη0) (show 0 ≤ 4 - fQ n by grind)
    grind
  obtain ⟨d1, d2⟩ := div_err2 (xV f (-k)) n x1 h3 x2 h1 x3 h4 (by rw [x4, qn]; grind) (by rw [x4]; grind)
  obtain ⟨e1, e2⟩ := div_err2 (xV g (-k)) n y1 h3 y2 h1 y3 h4 (by rw [y4, qn]; grind) (by rw [y4]; grind)
  rw [x4, ← hA, ← hc] at d2
  rw [y4, ← hB, ← hs] at e2
  rw [← hc] at d1
  rw [← hs] at e1
  exact ⟨hkb, h3, h1, h2, h5, h6, hT, h7, d1, e1, d2, e2⟩

/-- c c + s s is 1, c f + s g is r, c g - s f is 0, the power of two taken out: but for some parts in 2^53. -/
theorem gv_right (n c s A B : Rat) (h1 : 1 ≤ 2 * n) (hT : 1 ≤ A * A + B * B) (h3 : 9007199254740992 * ab (n * n - (A * A + B * B)) ≤ 6 * (A * A + B * B))
    (h4 : 9007199254740992 * ab (c * n - A) ≤ 2 * ab A) (h5 : 9007199254740992 * ab (s * n - B) ≤ 2 * ab B) :
    281474976710656 * ab (c * c + s * s - 1) ≤ 1 ∧ 281474976710656 * ab (c * A + s * B - n) ≤ n ∧ 281474976710656 * ab (c * B - s * A) ≤ n := by
  obtain ⟨d, hd⟩ : ∃ d, c * n = A + d := ⟨c * n - A, by grind⟩
  obtain ⟨e, he⟩ : ∃ e, s * n = B + e := ⟨s * n - B, by grind⟩
  have k1 : ab (c * n - A) = ab d := by rw [hd]; congr 1; grind
  have k2 : ab (s * n - B) = ab e := by rw [he]; congr 1; grind
  rw [k1] at h4
  rw [k2] at h5
  have a0 := ab_0 A; have b0 := ab_0 B; have d0 := ab_0 d; have e0 := ab_0 e
  have qa := sq_nonneg A; have qb := sq_nonneg B; have qd := sq_nonneg d; have qe := sq_nonneg e
  have aa : ab A * ab A = A * A := by rw [← ab_mul]; exact ab_pos qa
  have bb : ab B * ab B = B * B := by rw [← ab_mul]; exact ab_pos qb
  have dd : ab d * ab d = d * d := by rw [← ab_mul]; exact ab_pos qd
  have ee : ab e * ab e = e * e := by rw [← ab_mul]; exact ab_pos qe
  have p1 := Rat.mul_le_mul_of_nonneg_left h4 a0
  have p2' := Rat.mul_le_mul_of_nonneg_left h5 b0
  have p3 := Rat.mul_le_mul_of_nonneg_left h4 d0
  have p4 := Rat.mul_le_mul_of_nonneg_left h5 e0
  have p5 := Rat.mul_le_mul_of_nonneg_left h4 b0
  have p6 := Rat.mul_le_mul_of_nonneg_left h5 a0
  have p7 := sq_nonneg (ab A - ab B)
  have y1 : ab (A * d) = ab A * ab d := ab_mul _ _
  have y2 : ab (B * e) = ab B * ab e := ab_mul _ _
  have y3 : ab (d * B) = ab d * ab B := ab_mul _ _
  have y4 : ab (e * A) = ab e * ab A := ab_mul _ _
  have l1 := le_ab (A * d); have l2 := le_ab (B * e); have l3 := le_ab (d * B); have l4 := le_ab (e * A)
  have l5 := le_ab (n * n - (A * A + B * B))
  have n0 : 0 < n := by grind
  have nn := Rat.mul_pos n0 n0
  have v1 : 9007199254740992 * ab (A * d) ≤ 2 * (A * A) := by grind
  have v2 : 9007199254740992 * ab (B * e) ≤ 2 * (B * B) := by grind
  have v3 : 9007199254740992 * (d * d) ≤ 2 * ab (A * d) := by grind
  have v4 : 9007199254740992 * (e * e) ≤ 2 * ab (B * e) := by grind
  have v5 : 9007199254740992 * ab (d * B) ≤ A * A + B * B := by grind
  have v6 : 9007199254740992 * ab (e * A) ≤ A * A + B * B := by grind
  clear p1 p2' p3 p4 p5 p6 p7 y1 y2 y3 y4 aa bb dd ee h4 h5
  have main1 : 281474976710656 * ab (n * n * (c * c + s * s - 1)) ≤ n * n := by
    have e1 : n * n * (c * c + s * s - 1) = (A + d) * (A + d) + (B + e) * (B + e) - n * n := by rw [← hd, ← he]; grind
    rw [e1, show (A + d) * (A + d) + (B + e) * (B + e) - n * n = A * A + 2 * (A * d) + d * d + (B * B + 2 * (B * e) + e * e) - n * n by grind]
    clear e1 hd he k1 k2
    generalize n * n = N at *
    generalize A * A = AA at *
    generalize B * B = BB at *
    generalize A * d = Ad at *
    generalize B * e = Be at *
    generalize d * d = D2 at *
    generalize e * e = E2 at *
    unfold ab
    grind
  have main2 : 281474976710656 * ab (n * (c * A + s * B - n)) ≤ n * n := by
    have e1 : n * (c * A + s * B - n) = A * A + A * d + (B * B + B * e) - n * n := by
      rw [show n * (c * A + s * B - n) = (c * n) * A + (s * n) * B - n * n by grind, hd, he]; grind
    rw [e1]
    clear e1 hd he k1 k2 main1
    generalize n * n = N at *
    generalize A * A = AA at *
    generalize B * B = BB at *
    generalize A * d = Ad at *
    generalize B * e = Be at *
    generalize d * d = D2 at *
    generalize e * e = E2 at *
    unfold ab
    grind
  have main3 : 281474976710656 * ab (n * (c * B - s * A)) ≤ n * n := by
    have e1 : n * (c * B - s * A) = d * B - e * A := by
      rw [show n * (c * B - s * A) = (c * n) * B - (s * n) * A by grind, hd, he]; grind
    rw [e1]
    have t := ab_le (x := d * B - e * A) (y := ab (d * B) + ab (e * A)) (by grind) (by grind)
    clear e1 hd he k1 k2 main1 main2
    generalize n * n = N at *
    generalize d * B - e * A = z at *
    grind
  rw [ab_mul, ab_pos (Rat.le_of_lt nn)] at main1
  rw [ab_mul, ab_pos (Rat.le_of_lt n0)] at main2 main3
  refine ⟨?_, ?_, ?_⟩
  · refine Rat.le_of_mul_le_mul_left (c := n * n) ?_ nn
    grind
  · refine Rat.le_of_mul_le_mul_left (c := n) ?_ n0
    grind
  · refine Rat.le_of_mul_le_mul_left (c := n) ?_ n0
    grind

end Go.Proofs.YtceofkjefmilfaaGreatDoor

/- Package matrix: Turn, Zeros, Eye. -/
namespace Go.Proofs.YtceofkjefmilfaaGreatDoor
open Go.RowKit
attribute [local go_sem ↓] Go.wp_at_zero Go.wp_at_succ

theorem NewM.putM {H : Nat} {w : World} {r c : Nat} {S : List Nat} {v : Value} (h : NewM H w r c S v) {g : Nat} {x y : Int} {a : Option Addr} {n d : Nat} (hx : BoxM w g (.int .i64 x) (.int .i64 y) (.slice a n d)) (u u' u'' : Value) :
    NewM H (((w.setCell ⟨g, 0, none⟩ u).setCell ⟨g, 1, none⟩ u').setCell ⟨g, 2, none⟩ u'') r c S v := by
  obtain ⟨ao, cap, h1, h2, h3⟩ := h
  exact ⟨ao, cap, h1, h2, h3.putM hx u u' u''⟩
end Go.Proofs.YtceofkjefmilfaaGreatDoor

/- The reference of layer 10: With, Copy, Same. -/
namespace Go.Proofs.YtceofkjefmilfaaGreatDoor
open Go.RowKit
attribute [local go_sem ↓] Go.wp_at_zero Go.wp_at_succ

/-- A number of a list of one's own written over. -/
theorem OwnB.at {base : Nat} {w : World} {ao : Option Addr} {n cap : Nat} {S : List Nat} (h : OwnB base w (.slice ao n cap) S) {j : Nat} (hj : j < S.length) :
    ∃ g, ao = some ⟨g, 0, none⟩ ∧ base ≤ g ∧ g < w.heap.size ∧ w.cell? ⟨g, j, none⟩ = some (.int .u64 (S.getD j 0 : Nat)) ∧ w.frozen? ⟨g, j, none⟩ = false ∧
      ∀ x, x < 18446744073709551616 → OwnB base (w.setCell ⟨g, j, none⟩ (.int .u64 (x : Nat))) (.slice ao n cap) (S.set j x) := by
  obtain ⟨⟨h1, h2⟩, h3⟩ := h
  rcases h2 with ⟨_, h0⟩ | ⟨g, cap', cur, hv, hg, hh, hc, hm, hs, ht⟩
  · omega
  · simp only [Value.slice.injEq] at hv
    obtain ⟨rfl, rfl, rfl⟩ := hv
    have q : (S.map bitV)[j]? = some (.int .u64 ((S[j] : Nat) : Int)) := by
      rw [List.getElem?_map, List.getElem?_eq_getElem hj]; rfl
    rw [← ht, List.getElem?_take, if_pos (by omega)] at q
    refine ⟨g, rfl, hg, (Array.getElem?_eq_some_iff.1 hh).1, ?_, frozen_of_row w g j _ _ hh, fun x hx => ⟨⟨by simp, .inr ⟨g, cap, cur.setIfInBounds j (.int .u64 (x : Nat)), ?_, hg, heap_setCell_same w g j _ _ _ hh, by simpa using hc, hm, by simpa using hs, ?_⟩⟩, ?_⟩⟩
    · rw [cell_of_row w g j _ _ _ hh]
      have e : S.getD j 0 = S[j] := by rw [List.getD_eq_getElem?_getD, List.getElem?_eq_getElem hj]; rfl
      rw [e]
      simpa using q
    · simp
    · rw [Array.toList_setIfInBounds, List.take_set, List.length_set, ht, List.map_set]
      rfl
    · intro y hy
      rcases List.mem_or_eq_of_mem_set hy with e | e
      · exact h3 y e
      · rw [e]; exact hx

end Go.Proofs.YtceofkjefmilfaaGreatDoor

/- Package certify: a sum that is gathered by closures; square. -/
namespace Go.Proofs.YtceofkjefmilfaaGreatDoor
open Go.RowKit
attribute [local go_sem ↓] Go.wp_at_zero Go.wp_at_succ

/-- The kept sum: its box, what it is worth. -/
def Kept (w : World) (g : Nat) (lo s : Int) : Prop := ∃ n a l c X, Box3 w g (.bool n) (.slice a l c) (.int .i64 X) ∧ IsLv w (.agg #[.bool n, .slice a l c, .int .i64 X]) lo s
theorem Kept.all {w w' : World} {g : Nat} {lo s : Int} (h : Kept w g lo s) (hb : Below w.heap.size w w') : Kept w' g lo s := by
  obtain ⟨n, a, l, c, X, h1, h2⟩ := h
  exact ⟨n, a, l, c, X, h1.all hb, h2.below hb⟩
theorem Kept.lt {w : World} {g : Nat} {lo s : Int} (h : Kept w g lo s) : g < w.heap.size := by
  obtain ⟨n, a, l, c, X, h1, h2⟩ := h
  exact h1.lt
theorem Kept.new (w : World) (lo : Int) : Kept (w.alloc (.cells #[.bool false, .slice none 0 0, .int .i64 0] 52)) w.heap.size lo 0 :=
  ⟨false, none, 0, 0, 0, Box3.new w _ _ _, IsLv.zero _ _⟩

end Go.Proofs.YtceofkjefmilfaaGreatDoor

