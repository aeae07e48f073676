/- Part 28 of the texts. -/
import Derived.Test.YtlbggedahpnjgaaDoorPart27
import Derived.Test.YtlbggedahpnjgaaDoorPart21
/- Go's own math.Ldexp. -/
namespace Go.Proofs.YtlbggedahpnjgaaDoor
open Go.RowKit

end Go.Proofs.YtlbggedahpnjgaaDoor

/- Go's own math.Ldexp of any number; the law CompareScales, walked. -/
namespace Go.Proofs.YtlbggedahpnjgaaDoor
open Go.RowKit

theorem fmul_ok (x y : Nat) (hx : x < 18446744073709551616) (hy : y < 18446744073709551616) (h : mN x y = false) (i : TypeId) (w : World) :
    (binOp .mul i (.float .f64 x) (.float .f64 y)).run Tryd.prog w = .ok (.float .f64 (mV x y)) w := by
  have := fmul_run i x y w
  rw [fmul_some x y hx hy h] at this
  exact this
theorem mN_fin {x y : Nat} (fx : fFin x = true) (fy : fFin y = true) : mN x y = false := by
  obtain ⟨a3, a4⟩ := fin_kind fx
  obtain ⟨b3, b4⟩ := fin_kind fy
  unfold mN
  exact decide_eq_false (by omega)
theorem rv_one : rv 4607182418800017408 = 2 ^ 1074 := by
  have := gM_rv 4607182418800017408 (by decide)
  rw [this, show gM 4607182418800017408 = 2 ^ 52 by decide, show 4607182418800017408 / 4503599627370496 - 1 = 1022 by decide]
  exact pow_join 52 1022 1074 (by decide)
theorem wrd_fin {s : Bool} {v : Nat} (h : v < 9218868437227405312) : fFin (wrd s v) = true := (fK_rungs _).2.2.2 (by rw [fR_wrd s v (by omega)]; exact h)
theorem wrd_ne0 {s : Bool} {v : Nat} (h : v < 9218868437227405312) (h0 : v ≠ 0) : fK (wrd s v) ≠ 0 := fun e => h0 (by have := (fK_zero _).1 e; rwa [fR_wrd s v (by omega)] at this)
theorem mul_one8 (s : Bool) (v : Nat) (h : v < 9218868437227405312) (h0 : v ≠ 0) : mV 4607182418800017408 (wrd s v) = wrd s v := by
  have f2 : fFin 4607182418800017408 = true := by decide
  have k2 : fK 4607182418800017408 ≠ 0 := by decide
  have s2 : fS 4607182418800017408 = false := by decide
  have r2 : fR 4607182418800017408 = 4607182418800017408 := by decide
  obtain ⟨K, hK⟩ : ∃ K : Nat, K = 1074 := ⟨_, rfl⟩
  have r3 := rv_one
  rw [← hK] at r3
  have hr := rnd_rv (wrd s v) (wrd_lt s v (by omega)) (wrd_fin h)
  rw [fR_wrd s v (by omega)] at hr
  rw [(mV_fin _ _ f2 (wrd_fin h) k2 (wrd_ne0 h h0)).1, s2, r2, r3, fR_wrd s v (by omega), fS_wrd s v (by omega), Bool.false_xor, Nat.mul_comm, rnd_scale1 _ _ _ (-1074) (by omega), hr]

theorem order_mag (r c : Nat) (hr : r ≤ 9218868437227405312) (hc : c ≤ 9218868437227405312) : Ieee.double.order r c = some (compare (rv r : Int) (rv c : Int)) := by
  have := order_wrd false false r c hr hc
  rw [wrd_false, wrd_false] at this
  exact this
theorem order_mag_lt {r c : Nat} (hc : c ≤ 9218868437227405312) (h : r < c) : Ieee.double.order r c = some .lt := by
  rw [order_mag r c (by omega) hc, Int.compare_eq_lt.2 (by have := rv8_lt h; omega)]
theorem order_mag_gt {r c : Nat} (hr : r ≤ 9218868437227405312) (h : c < r) : Ieee.double.order r c = some .gt := by
  rw [order_mag r c hr (by omega), Int.compare_eq_gt.2 (by have := rv8_lt h; omega)]
theorem order_mag_eq (r : Nat) (hr : r ≤ 9218868437227405312) : Ieee.double.order r r = some .eq := by
  rw [order_mag r r hr hr, Int.compare_eq_eq.2 rfl]
theorem fZ_0 : fZ 0 = 0 := by decide
theorem order_0 (a : Nat) (ha : a < 18446744073709551616) (n4 : fK a ≠ 4) : Ieee.double.order a 0 = some (compare (fZ a) 0) := by
  have := order_bits a 0 ha (by decide) n4 (by decide)
  rwa [fZ_0] at this
theorem order_0_sign (a : Nat) (ha : a < 18446744073709551616) (n4 : fK a ≠ 4) (n0 : fK a ≠ 0) : Ieee.double.order a 0 = if fS a = true then some .lt else some .gt := by
  obtain ⟨h1, h2⟩ := fZ_neg8 a n0
  rw [order_0 a ha n4, ← h2]
  by_cases h : fZ a < 0
  · rw [decide_eq_true h, if_pos rfl, Int.compare_eq_lt.2 h]
  · rw [decide_eq_false h, if_neg (by decide), Int.compare_eq_gt.2 (by omega)]

/-- What Go's own Ldexp tells: what is no number stays as it is. -/
def lV (a : Nat) (n : Int) : Nat := if fK a = 4 then a else xV a n

theorem canon_lV (a : Nat) (n : Int) (w : World) (ha : a < 18446744073709551616) :
    Calls Tryd.prog 34 #[.int .u64 (lV a n : Nat)] w fun r w' => r = .returned (.int .u64 (xV a n : Nat)) ∧ w = w' := by
  unfold lV
  by_cases a4 : fK a = 4
  · rw [if_pos a4]
    have := canon_any a w ha
    rw [if_pos a4] at this
    rw [show xV a n = 9221120237041090560 by unfold xV; rw [if_pos a4]]
    exact this
  · rw [if_neg a4]
    have := canon_any (xV a n) w (xV_lt a n ha)
    have h : fK (xV a n) ≠ 4 := by
      unfold xV
      rw [if_neg a4]
      split
      · exact a4
      · exact wrd_kind _ _ (rnd_le _ _)
    rw [if_neg h] at this
    exact this

end Go.Proofs.YtlbggedahpnjgaaDoor

/- Square roots with one digit more that says whether something is left: rounded, they hang not on how many digits were reckoned. -/
namespace Go.Proofs.YtlbggedahpnjgaaDoor

/-- The greatest number whose square is at most n. -/
def isq : Nat → Nat
  | 0 => 0
  | n + 1 => if (isq n + 1) * (isq n + 1) ≤ n + 1 then isq n + 1 else isq n

theorem sq_succ (m : Nat) : (m + 1) * (m + 1) = m * m + 2 * m + 1 := by rw [Nat.add_mul, Nat.mul_add]; omega
theorem sq_le {a b : Nat} (h : a ≤ b) : a * a ≤ b * b := Nat.mul_le_mul h h
theorem sq_lt {a b : Nat} (h : a < b) : a * a < b * b := Nat.mul_lt_mul_of_lt_of_le h (Nat.le_of_lt h) (by omega)
theorem sq_lt_iff {a b : Nat} : a * a < b * b ↔ a < b := by
  constructor
  · intro h
    rcases Nat.lt_or_ge a b with h1 | h1
    · exact h1
    · have := sq_le h1; omega
  · exact sq_lt
theorem isq_spec (n : Nat) : isq n * isq n ≤ n ∧ n < (isq n + 1) * (isq n + 1) := by
  induction n with
  | zero => exact ⟨Nat.le_refl _, by decide⟩
  | succ n ih =>
    unfold isq
    obtain ⟨h1, h2⟩ := ih
    have e1 := sq_succ (isq n)
    have e2 := sq_succ (isq n + 1)
    split
    · rename_i h
      exact ⟨h, by omega⟩
    · rename_i h
      exact ⟨by omega, by omega⟩
theorem isq_unique {n m : Nat} (h1 : m * m ≤ n) (h2 : n < (m + 1) * (m + 1)) : isq n = m := by
  obtain ⟨g1, g2⟩ := isq_spec n
  have a1 : isq n < m + 1 := sq_lt_iff.1 (by omega)
  have a2 : m < isq n + 1 := sq_lt_iff.1 (by omega)
  omega
theorem isq_mono {n m : Nat} (h : n ≤ m) : isq n ≤ isq m := by
  obtain ⟨g1, g2⟩ := isq_spec n
  obtain ⟨k1, k2⟩ := isq_spec m
  have : isq n < isq m + 1 := sq_lt_iff.1 (by omega)
  omega

theorem sq_mul (a p : Nat) : a * p * (a * p) = a * a * (p * p) := by ac_rfl
/-- With more digits. -/
theorem isq_scale (N p : Nat) (hp : 0 < p) : isq (N * (p * p)) / p = isq N := by
  obtain ⟨g1, g2⟩ := isq_spec N
  obtain ⟨k1, k2⟩ := isq_spec (N * (p * p))
  have hpp : 0 < p * p := Nat.mul_pos hp hp
  have a1 : isq N * p < isq (N * (p * p)) + 1 := by
    apply sq_lt_iff.1
    rw [sq_mul]
    have : isq N * isq N * (p * p) ≤ N * (p * p) := Nat.mul_le_mul_right _ g1
    omega
  have a2 : isq (N * (p * p)) < (isq N + 1) * p := by
    apply sq_lt_iff.1
    rw [sq_mul]
    have : N * (p * p) < (isq N + 1) * (isq N + 1) * (p * p) := (Nat.mul_lt_mul_right hpp).2 g2
    omega
  have b1 : isq N ≤ isq (N * (p * p)) / p := (Nat.le_div_iff_mul_le hp).2 (by omega)
  have b2 : isq (N * (p * p)) / p < isq N + 1 := (Nat.div_lt_iff_lt_mul hp).2 a2
  omega

/-- The root, and one digit more, 1 if something is left. -/
def rS (N : Nat) : Nat := 2 * isq N + (if isq N * isq N = N then 0 else 1)

/-- The root by 2^k, to the nearest, between two to the even one. -/
def cutR (N k : Nat) : Nat := isq N / 2 ^ k + (if (2 * (isq N / 2 ^ k) + 1) * 2 ^ k * ((2 * (isq N / 2 ^ k) + 1) * 2 ^ k) < 4 * N ∨ ((2 * (isq N / 2 ^ k) + 1) * 2 ^ k * ((2 * (isq N / 2 ^ k) + 1) * 2 ^ k) = 4 * N ∧ isq N / 2 ^ k % 2 = 1) then 1 else 0)

theorem cutR_scale (N k i : Nat) : cutR (N * (2 ^ i * 2 ^ i)) (k + i) = cutR N k := by
  have hp : 0 < 2 ^ i := Nat.two_pow_pos _
  have hpp : 0 < 2 ^ i * 2 ^ i := Nat.mul_pos hp hp
  have e : isq (N * (2 ^ i * 2 ^ i)) / 2 ^ (k + i) = isq N / 2 ^ k := by
    rw [Nat.add_comm k i, Nat.pow_add, ← Nat.div_div_eq_div_mul, isq_scale N _ hp]
  unfold cutR
  rw [e]
  generalize isq N / 2 ^ k = m
  have s1 : (2 * m + 1) * 2 ^ (k + i) * ((2 * m + 1) * 2 ^ (k + i)) = (2 * m + 1) * 2 ^ k * ((2 * m + 1) * 2 ^ k) * (2 ^ i * 2 ^ i) := by
    rw [Nat.pow_add]; ac_rfl
  have s2 : 4 * (N * (2 ^ i * 2 ^ i)) = 4 * N * (2 ^ i * 2 ^ i) := by ac_rfl
  rw [s1, s2]
  have c1 : ((2 * m + 1) * 2 ^ k * ((2 * m + 1) * 2 ^ k) * (2 ^ i * 2 ^ i) < 4 * N * (2 ^ i * 2 ^ i)) ↔ (2 * m + 1) * 2 ^ k * ((2 * m + 1) * 2 ^ k) < 4 * N := Nat.mul_lt_mul_right hpp
  have c2 : ((2 * m + 1) * 2 ^ k * ((2 * m + 1) * 2 ^ k) * (2 ^ i * 2 ^ i) = 4 * N * (2 ^ i * 2 ^ i)) ↔ (2 * m + 1) * 2 ^ k * ((2 * m + 1) * 2 ^ k) = 4 * N :=
    ⟨fun h => Nat.eq_of_mul_eq_mul_right hpp h, fun h => by rw [h]⟩
  simp only [c1, c2]

/-- Cut by k + 1 digits, at least two, the digit that says whether something is left stands for what is left. -/
theorem rS_cut (N k : Nat) (hk : 1 ≤ k) : cutE (rS N) (k + 1) = cutR N k := by
  obtain ⟨j, rfl⟩ : ∃ j, k = j + 1 := ⟨k - 1, by omega⟩
  obtain ⟨n1, n2⟩ := isq_spec N
  have hg : 0 < 2 ^ j := Nat.two_pow_pos _
  have e1 : (2 : Nat) ^ (j + 1) = 2 * 2 ^ j := by rw [Nat.pow_succ, Nat.mul_comm]
  have e2 : (2 : Nat) ^ (j + 1 + 1) = 2 * (2 * 2 ^ j) := by rw [Nat.pow_succ, e1, Nat.mul_comm]
  have ht : (if isq N * isq N = N then 0 else 1) ≤ 1 := by split <;> omega
  have htz : (if isq N * isq N = N then 0 else 1) = 0 ↔ isq N * isq N = N := by split <;> simp_all
  unfold cutE cutR rS
  rw [e2, e1]
  generalize (2 : Nat) ^ j = g at *
  generalize (if isq N * isq N = N then 0 else 1) = t at *
  generalize isq N = q at *
  have hq := Nat.div_add_mod q (2 * g)
  have ha := Nat.mod_lt q (show 0 < 2 * g by omega)
  generalize hA : q % (2 * g) = a at *
  generalize hQ : q / (2 * g) = b at *
  have s1 : (2 * q + t) / (2 * (2 * g)) = b := by
    rw [← hq, Nat.mul_add, ← Nat.mul_assoc 2 (2 * g) b, Nat.add_assoc]
    rw [Nat.mul_add_div (by omega), Nat.div_eq_of_lt (by omega), Nat.add_zero]
  have s2 : (2 * q + t) % (2 * (2 * g)) = 2 * a + t := by
    rw [← hq, Nat.mul_add, ← Nat.mul_assoc 2 (2 * g) b, Nat.add_assoc, Nat.mul_add_mod, Nat.mod_eq_of_lt (by omega)]
  rw [s1, s2]
  congr 1
  -- half between two, as a square
  obtain ⟨c, hc⟩ : ∃ c, c = 2 * g * b + g := ⟨_, rfl⟩
  have hM : (2 * b + 1) * (2 * g) * ((2 * b + 1) * (2 * g)) = 4 * (c * c) := by
    have : (2 * b + 1) * (2 * g) = 2 * c := by rw [hc, Nat.add_mul, Nat.one_mul, Nat.mul_add]; ac_rfl
    rw [this, show (4 : Nat) = 2 * 2 by decide]
    ac_rfl
  rw [hM]
  clear hM hQ hA s1 s2
  rcases Nat.lt_trichotomy a g with h | h | h
  · have h1 : (q + 1) * (q + 1) ≤ c * c := sq_le (by omega)
    rw [if_neg (by omega), if_neg (by omega)]
  · have h1 : c = q := by omega
    subst h1
    by_cases h0 : c * c = N
    · have := htz.2 h0
      by_cases hb : b % 2 = 1
      · rw [if_pos (Or.inr ⟨by omega, hb⟩), if_pos (Or.inr ⟨by omega, hb⟩)]
      · rw [if_neg (by omega), if_neg (by omega)]
    · have : t ≠ 0 := fun e => h0 (htz.1 e)
      rw [if_pos (Or.inl (by omega)), if_pos (Or.inl (by omega))]
  · have h1 : c * c < q * q := sq_lt (by omega)
    rw [if_pos (Or.inl (by omega)), if_pos (Or.inl (by omega))]

theorem rS_bl (N i : Nat) (hq : 0 < isq N) : bl (rS (N * (2 ^ i * 2 ^ i))) = bl (rS N) + i := by
  have hp : 0 < 2 ^ i := Nat.two_pow_pos _
  have hs : rS N ≠ 0 := by unfold rS; omega
  obtain ⟨b1, b2, b3⟩ := bl_spec (rS N) hs
  have h1 : 2 ≤ rS N := by unfold rS; omega
  have hb2 : 2 ≤ bl (rS N) := by
    rcases Nat.lt_or_ge (bl (rS N)) 2 with h | h
    · have : bl (rS N) = 1 := by omega
      rw [this] at b3; omega
    · exact h
  obtain ⟨c, hc⟩ : ∃ c, bl (rS N) = c + 2 := ⟨bl (rS N) - 2, by omega⟩
  rw [hc] at b2 b3 ⊢
  have ht : (if isq N * isq N = N then 0 else 1) ≤ 1 := by split <;> omega
  have q3 : 2 ^ c ≤ isq N := by
    rw [show c + 2 - 1 = c + 1 by omega, Nat.pow_succ] at b2
    unfold rS at b2
    omega
  have q2 : isq N < 2 ^ (c + 1) := by
    rw [Nat.pow_succ] at b3
    unfold rS at b3
    omega
  have hd := isq_scale N (2 ^ i) hp
  have m1 : 2 ^ (c + i) ≤ isq (N * (2 ^ i * 2 ^ i)) := by
    rw [Nat.pow_add, ← Nat.le_div_iff_mul_le hp, hd]; exact q3
  have m2 : isq (N * (2 ^ i * 2 ^ i)) < 2 ^ (c + 1 + i) := by
    rw [Nat.pow_add, ← Nat.div_lt_iff_lt_mul hp, hd]; exact q2
  refine bl_of (by omega) ?_ ?_
  · rw [show c + 2 + i - 1 = c + i + 1 by omega, Nat.pow_succ]
    unfold rS
    omega
  · rw [show c + 2 + i = c + 1 + i + 1 by omega, Nat.pow_succ]
    unfold rS
    have ht : (if isq (N * (2 ^ i * 2 ^ i)) * isq (N * (2 ^ i * 2 ^ i)) = N * (2 ^ i * 2 ^ i) then 0 else 1) ≤ 1 := by split <;> omega
    omega

theorem rS_big {N : Nat} (hq : 9007199254740992 ≤ isq N) : 55 ≤ bl (rS N) := by
  have hs : rS N ≠ 0 := by unfold rS; omega
  obtain ⟨b1, b2, b3⟩ := bl_spec (rS N) hs
  have h : 2 ^ 54 ≤ rS N := by
    have : (2 : Nat) ^ 54 = 2 * 9007199254740992 := by decide
    rw [this]; unfold rS; omega
  have := pow_lt_of (Nat.lt_of_le_of_lt h b3)
  omega

/-- More digits: the same, rounded. -/
theorem rS_step (N i : Nat) (E : Int) (hq : 9007199254740992 ≤ isq N) :
    rnd (rS (N * (2 ^ i * 2 ^ i))) (E - i) = rnd (rS N) E ∧ lastE (rS (N * (2 ^ i * 2 ^ i))) (E - i) = lastE (rS N) E ∧ (bl (rS (N * (2 ^ i * 2 ^ i))) : Int) + (E - i) = (bl (rS N) : Int) + E ∧ E + 2 ≤ lastE (rS N) E := by
  have hb := rS_bl N i (by omega)
  have h55 := rS_big hq
  have hs : rS N ≠ 0 := by unfold rS; omega
  have hs' : rS (N * (2 ^ i * 2 ^ i)) ≠ 0 := fun h => by
    rw [h] at hb
    have : bl 0 = 0 := rfl
    omega
  have hl : lastE (rS (N * (2 ^ i * 2 ^ i))) (E - i) = lastE (rS N) E := by unfold lastE; rw [hb]; omega
  have hbE : (bl (rS (N * (2 ^ i * 2 ^ i))) : Int) + (E - i) = (bl (rS N) : Int) + E := by rw [hb]; omega
  have h2 : E + 2 ≤ lastE (rS N) E := by have := (lastE_ge (rS N) E).2.1; omega
  refine ⟨?_, hl, hbE, h2⟩
  have hM : rndM (rS (N * (2 ^ i * 2 ^ i))) (E - i) = rndM (rS N) E := by
    unfold rndM
    rw [hl]
    obtain ⟨k, hk⟩ : ∃ k : Nat, lastE (rS N) E = E + k + 1 ∧ 1 ≤ k := ⟨(lastE (rS N) E - E - 1).toNat, by omega, by omega⟩
    rw [show E - i - lastE (rS N) E = -((k + i + 1 : Nat) : Int) by omega, show E - lastE (rS N) E = -((k + 1 : Nat) : Int) by omega]
    rw [mS_down _ _ (by omega), mS_down _ _ (by omega), rS_cut _ _ (by omega), rS_cut _ _ (by omega)]
    exact cutR_scale _ _ _
  unfold rnd
  rw [if_neg hs, if_neg hs', hbE, hM, hl]

/-- A square stays one, and what is none stays none. -/
theorem isq_sq (N i : Nat) : isq (N * (2 ^ i * 2 ^ i)) * isq (N * (2 ^ i * 2 ^ i)) = N * (2 ^ i * 2 ^ i) ↔ isq N * isq N = N := by
  have hp : 0 < 2 ^ i := Nat.two_pow_pos _
  have hpp : 0 < 2 ^ i * 2 ^ i := Nat.mul_pos hp hp
  constructor
  · intro h
    have hd := isq_scale N (2 ^ i) hp
    generalize hR : isq (N * (2 ^ i * 2 ^ i)) = R at *
    -- 2^i goes into R, since its square goes into R's
    have dv : ∀ (n a : Nat), (2 ^ n * 2 ^ n) ∣ a * a → 2 ^ n ∣ a := by
      intro n
      induction n with
      | zero => intro a _; simp
      | succ n ih =>
        intro a ha
        have h2 : 2 ∣ a * a := Nat.dvd_trans ⟨2 ^ n * 2 ^ (n + 1), by rw [Nat.pow_succ]; ac_rfl⟩ ha
        have h3 : a % 2 = 0 := by
          rcases Nat.mod_two_eq_zero_or_one a with h | h
          · exact h
          · exfalso
            have : a * a % 2 = 1 := by rw [Nat.mul_mod, h]
            omega
        obtain ⟨b, rfl⟩ : ∃ b, a = 2 * b := ⟨a / 2, by omega⟩
        have h4 : 2 ^ n * 2 ^ n ∣ b * b := by
          obtain ⟨c, hc⟩ := ha
          refine ⟨c, ?_⟩
          have : 4 * (b * b) = 4 * (2 ^ n * 2 ^ n * c) := by
            have e1 : 2 * b * (2 * b) = 4 * (b * b) := by rw [show (4 : Nat) = 2 * 2 by decide]; ac_rfl
            have e2 : 2 ^ (n + 1) * 2 ^ (n + 1) * c = 4 * (2 ^ n * 2 ^ n * c) := by rw [Nat.pow_succ, show (4 : Nat) = 2 * 2 by decide]; ac_rfl
            rw [← e1, hc, e2]
          omega
        obtain ⟨d, hd⟩ := ih b h4
        exact ⟨d, by rw [hd, Nat.pow_succ]; ac_rfl⟩
    obtain ⟨c, hc⟩ := dv i R ⟨N, by rw [h]; ac_rfl⟩
    rw [hc, Nat.mul_div_cancel_left c hp] at hd
    rw [← hd]
    have : c * c * (2 ^ i * 2 ^ i) = N * (2 ^ i * 2 ^ i) := by rw [← h, hc]; ac_rfl
    exact Nat.eq_of_mul_eq_mul_right hpp this
  · intro h
    have : isq (N * (2 ^ i * 2 ^ i)) = isq N * 2 ^ i := by
      refine isq_unique ?_ ?_
      · rw [sq_mul, h]; exact Nat.le_refl _
      · have := sq_succ (isq N * 2 ^ i)
        rw [sq_mul, h] at this
        omega
    rw [this, sq_mul, h]

/-- And the same flags. -/
theorem rS_flag (N i : Nat) (E : Int) (hq : 9007199254740992 ≤ isq N) :
    rflag (oM (rS (N * (2 ^ i * 2 ^ i)) : Nat)).natAbs (oE (rS (N * (2 ^ i * 2 ^ i)) : Nat) (E - i)) = rflag (oM (rS N : Nat)).natAbs (oE (rS N : Nat) E) := by
  obtain ⟨s1, s2, s3, s4⟩ := rS_step N i E hq
  have hsq := isq_sq N i
  by_cases h0 : isq N * isq N = N
  · have h1 := hsq.2 h0
    have h2 : isq (N * (2 ^ i * 2 ^ i)) = isq N * 2 ^ i := by
      refine isq_unique ?_ ?_
      · rw [sq_mul, h0]; exact Nat.le_refl _
      · have := sq_succ (isq N * 2 ^ i)
        rw [sq_mul, h0] at this
        omega
    have e : rS (N * (2 ^ i * 2 ^ i)) = rS N * 2 ^ i := by
      unfold rS; rw [if_pos h0, if_pos h1, h2, Nat.add_zero, Nat.add_zero, Nat.mul_assoc]
    have e2 : ((rS (N * (2 ^ i * 2 ^ i)) : Nat) : Int) = ((rS N : Nat) : Int) * 2 ^ i := by rw [e, Int.natCast_mul, Int.natCast_pow]; rfl
    have := oM_scale ((rS N : Nat) : Int) i (E - i)
    rw [e2, this.1, this.2, show E - (i : Int) + i = E by omega]
  · have h1 : ¬ isq (N * (2 ^ i * 2 ^ i)) * isq (N * (2 ^ i * 2 ^ i)) = N * (2 ^ i * 2 ^ i) := fun h => h0 (hsq.1 h)
    have o1 : ((rS N : Nat) : Int) % 2 = 1 := by unfold rS; rw [if_neg h0]; omega
    have o2 : ((rS (N * (2 ^ i * 2 ^ i)) : Nat) : Int) % 2 = 1 := by unfold rS; rw [if_neg h1]; omega
    have z1 : ∀ (v : Nat) (e : Int), (v : Int) % 2 = 1 → oM (v : Int) = v ∧ oE (v : Int) e = e := fun v e h => by
      have hne : (v : Int) ≠ 0 := by omega
      have a := (oddOf (v : Int) hne).unique (m' := (v : Int)) (k' := 0) ⟨by simp, h⟩
      exact ⟨a.1, by rw [oE_ne _ _ hne, a.2]; simp⟩
    rw [(z1 _ (E - i) o2).1, (z1 _ (E - i) o2).2, (z1 _ E o1).1, (z1 _ E o1).2, Int.natAbs_natCast, Int.natAbs_natCast]
    have n1 : rS N ≠ 0 := by omega
    have n2 : rS (N * (2 ^ i * 2 ^ i)) ≠ 0 := by omega
    unfold rflag
    rw [if_neg n1, if_neg n2, s3, s2, s1, if_neg (show ¬ lastE (rS N) E ≤ E - i by omega), if_neg (show ¬ lastE (rS N) E ≤ E by omega)]

end Go.Proofs.YtlbggedahpnjgaaDoor

/- Square roots of binary64: what they are, and that the model's own are these. -/
namespace Go.Proofs.YtlbggedahpnjgaaDoor
open Go.RowKit

/-- One value, two ways to write it: one root. -/
theorem root_two (m k p D α sh : Nat) (e1 e2 : Int) (hV : m * 2 ^ k = D * 2 ^ α) (h1 : 2 * e1 = (k : Int) - 1074 - p) (h2 : 2 * e2 = (α : Int) - 1074 - sh) (q1 : 9007199254740992 ≤ isq (m * 2 ^ p)) (q2 : 9007199254740992 ≤ isq (D * 2 ^ sh)) :
    rnd (rS (m * 2 ^ p)) (e1 - 1) = rnd (rS (D * 2 ^ sh)) (e2 - 1) ∧ rflag (oM (rS (m * 2 ^ p) : Nat)).natAbs (oE (rS (m * 2 ^ p) : Nat) (e1 - 1)) = rflag (oM (rS (D * 2 ^ sh) : Nat)).natAbs (oE (rS (D * 2 ^ sh) : Nat) (e2 - 1)) := by
  have key : ∀ (m k p D α sh i : Nat), m * 2 ^ k = D * 2 ^ α → p + 2 * i + α = k + sh → m * 2 ^ p * (2 ^ i * 2 ^ i) = D * 2 ^ sh := by
    intro m k p D α sh i hV hi
    have hp : 0 < 2 ^ α := Nat.two_pow_pos _
    refine Nat.eq_of_mul_eq_mul_right hp ?_
    rw [← Nat.pow_add, Nat.mul_assoc, Nat.mul_assoc, ← Nat.pow_add, ← Nat.pow_add, show p + (i + i + α) = k + sh by omega, Nat.pow_add, ← Nat.mul_assoc, hV]
    ac_rfl
  rcases Int.le_total e2 e1 with h | h
  · obtain ⟨i, hi⟩ : ∃ i : Nat, e1 - e2 = i := ⟨(e1 - e2).toNat, by omega⟩
    have e := key m k p D α sh i hV (by omega)
    have s := rS_step (m * 2 ^ p) i (e1 - 1) q1
    have f := rS_flag (m * 2 ^ p) i (e1 - 1) q1
    rw [e, show e1 - 1 - (i : Int) = e2 - 1 by omega] at s f
    exact ⟨s.1.symm, f.symm⟩
  · obtain ⟨i, hi⟩ : ∃ i : Nat, e2 - e1 = i := ⟨(e2 - e1).toNat, by omega⟩
    have e := key D α sh m k p i hV.symm (by omega)
    have s := rS_step (D * 2 ^ sh) i (e2 - 1) q2
    have f := rS_flag (D * 2 ^ sh) i (e2 - 1) q2
    rw [e, show e2 - 1 - (i : Int) = e1 - 1 by omega] at s f
    exact ⟨s.1, f⟩

/-- The root of a finite number above 0: from its value in units of the least number; its flags. -/
def tS (a : Nat) : Nat := rS (rv (fR a) * 2 ^ 120)
def tV (a : Nat) : Nat := rnd (tS a) (-598)
def tF (a : Nat) : Int := rflag (oM (tS a : Nat)).natAbs (oE (tS a : Nat) (-598))
/-- The root, and its flags. -/
def sV (a : Nat) : Nat :=
  if fK a = 4 then 9221120237041090560
  else if fK a = 0 ∨ a = 9218868437227405312 then a
  else if fS a = true then 9221120237041090560
  else tV a
def sF (a : Nat) : Int :=
  if fK a = 4 then 0
  else if fK a = 0 ∨ a = 9218868437227405312 then 0
  else if fS a = true then 16
  else tF a
/-- Is the root no number? -/
def sN (a : Nat) : Bool := decide (fK a = 4 ∨ (fK a ≠ 0 ∧ fS a = true))

theorem big_sq {N : Nat} (h : 2 ^ 106 ≤ N) : 9007199254740992 ≤ isq N := by
  obtain ⟨g1, g2⟩ := isq_spec N
  have e : (9007199254740992 : Nat) * 9007199254740992 = 2 ^ 106 := by decide
  have : 9007199254740992 < isq N + 1 := sq_lt_iff.1 (by omega)
  omega
theorem tS_big (a : Nat) (h0 : fK a ≠ 0) : 9007199254740992 ≤ isq (rv (fR a) * 2 ^ 120) := by
  have hr : rv (fR a) ≠ 0 := fun e => h0 ((fK_zero a).2 ((rv_eq0 _).1 e))
  refine big_sq (Nat.le_trans (show 2 ^ 106 ≤ 1 * 2 ^ 120 by decide) (Nat.mul_le_mul_right _ (by omega)))
/-- However its value is written, and however many digits, if they are enough. -/
theorem root_any (a m k p : Nat) (e : Int) (h0 : fK a ≠ 0) (hm : m * 2 ^ k = rv (fR a)) (he : 2 * e = (k : Int) - 1074 - p) (hq : 9007199254740992 ≤ isq (m * 2 ^ p)) :
    rnd (rS (m * 2 ^ p)) (e - 1) = tV a ∧ rflag (oM (rS (m * 2 ^ p) : Nat)).natAbs (oE (rS (m * 2 ^ p) : Nat) (e - 1)) = tF a := by
  have := root_two m k p (rv (fR a)) 0 120 e (-597) (by rw [hm]; simp) he (by omega) hq (tS_big a h0)
  exact this

/-- The model's own looking for a root finds it. -/
theorem rootFrom_isq (n : Nat) : ∀ (todo root : Nat), root * root ≤ n → n < (root + 2 ^ todo) * (root + 2 ^ todo) → Ieee.Datum.rootFrom n todo root = isq n := by
  intro todo
  induction todo with
  | zero =>
    intro root h1 h2
    unfold Ieee.Datum.rootFrom
    rw [Nat.pow_zero] at h2
    exact (isq_unique h1 h2).symm
  | succ t ih =>
    intro root h1 h2
    unfold Ieee.Datum.rootFrom
    rw [Nat.one_shiftLeft]
    have e : (2 : Nat) ^ (t + 1) = 2 ^ t + 2 ^ t := by rw [Nat.pow_succ]; omega
    show Ieee.Datum.rootFrom n t (if (root + 2 ^ t) * (root + 2 ^ t) ≤ n then root + 2 ^ t else root) = isq n
    split
    · rename_i h
      refine ih _ h ?_
      rw [e, ← Nat.add_assoc] at h2
      exact h2
    · rename_i h
      exact ih _ h1 (by omega)

theorem fsqrt_none (a : Nat) (ha : a < 18446744073709551616) (h : sN a = true) : Ieee.double.sqrt a = none ∧ sV a = 9221120237041090560 := by
  unfold Ieee.Format.sqrt
  rcases of_decide_eq_true h with h | ⟨h0, hs⟩
  · obtain ⟨s, f, e⟩ := read_nan a ha h
    refine ⟨by rw [e]; rfl, ?_⟩
    unfold sV; rw [if_pos h]
  · by_cases c4 : fK a = 4
    · obtain ⟨s, f, e⟩ := read_nan a ha c4
      refine ⟨by rw [e]; rfl, ?_⟩
      unfold sV; rw [if_pos c4]
    · have hne : ¬ (fK a = 0 ∨ a = 9218868437227405312) := by
        rintro (h | h)
        · exact h0 h
        · rw [h] at hs; revert hs; decide
      refine ⟨?_, by unfold sV; rw [if_neg c4, if_neg hne, if_pos hs]⟩
      by_cases c3 : fK a = 3
      · rw [read_inf a ha c3, hs]; rfl
      · obtain ⟨m, k, e, em⟩ := read_fin a ha (fin_of a c3 c4)
        have hm : m ≠ 0 := fun e0 => h0 ((fK_zero a).2 ((mag_zero em).1 e0))
        rw [e, hs]
        show Option.map Ieee.double.write (if m = 0 then _ else if true = true then none else _) = none
        rw [if_neg hm, if_pos rfl]; rfl

theorem fsqrt_some (a : Nat) (ha : a < 18446744073709551616) (h : sN a = false) : Ieee.double.sqrt a = some (sV a) := by
  have h' := of_decide_eq_false h
  have n4 : fK a ≠ 4 := fun e => h' (Or.inl e)
  have ns : fK a ≠ 0 → fS a = false := fun e => by
    cases hs : fS a
    · rfl
    · exact absurd (Or.inr ⟨e, hs⟩) h'
  unfold Ieee.Format.sqrt sV
  rw [if_neg n4]
  by_cases c3 : fK a = 3
  · have hs := ns (by omega)
    have hI : a = 9218868437227405312 := by
      have := b_wrd a ha
      rw [hs, wrd_false] at this
      have h3 := ((fK_rungs a).2.1.1 c3)
      omega
    rw [if_pos (Or.inr hI), read_inf a ha c3, hs]
    show some (Ieee.double.write (.infinity false)) = _
    rw [write_inf, hI]; rfl
  · obtain ⟨m, k, e, em⟩ := read_fin a ha (fin_of a c3 n4)
    rw [e]
    by_cases c0 : fK a = 0
    · have hm : m = 0 := (mag_zero em).2 ((fK_zero a).1 c0)
      rw [if_pos (Or.inl c0), hm]
      show some (Ieee.double.nearest (fS a) 0 _) = _
      rw [nearest_wrd, rnd_0, ← (fK_zero a).1 c0, b_wrd a ha]
    · have hs := ns c0
      have hm : m ≠ 0 := fun e0 => c0 ((fK_zero a).2 ((mag_zero em).1 e0))
      have hne : ¬ (fK a = 0 ∨ a = 9218868437227405312) := by
        rintro (h | h)
        · exact c0 h
        · apply c3; rw [h]; decide
      rw [if_neg hne, if_neg (show ¬ fS a = true by rw [hs]; decide), hs]
      obtain ⟨M, hM⟩ : ∃ M : Nat, M = (108 - m.log2) + ((-1074 + (k : Int) - ((108 - m.log2 : Nat) : Int)) % 2).toNat := ⟨_, rfl⟩
      show Option.map Ieee.double.write (if m = 0 then _ else if false = true then none else some (.number false (2 * (Ieee.Datum.rootFrom (m <<< ((108 - m.log2) + ((-1074 + (k : Int) - ((108 - m.log2 : Nat) : Int)) % 2).toNat)) ((m <<< ((108 - m.log2) + ((-1074 + (k : Int) - ((108 - m.log2 : Nat) : Int)) % 2).toNat)).log2 / 2 + 1) 0) + (Ieee.Datum.rootFrom (m <<< ((108 - m.log2) + ((-1074 + (k : Int) - ((108 - m.log2 : Nat) : Int)) % 2).toNat)) ((m <<< ((108 - m.log2) + ((-1074 + (k : Int) - ((108 - m.log2 : Nat) : Int)) % 2).toNat)).log2 / 2 + 1) 0 * Ieee.Datum.rootFrom (m <<< ((108 - m.log2) + ((-1074 + (k : Int) - ((108 - m.log2 : Nat) : Int)) % 2).toNat)) ((m <<< ((108 - m.log2) + ((-1074 + (k : Int) - ((108 - m.log2 : Nat) : Int)) % 2).toNat)).log2 / 2 + 1) 0 != m <<< ((108 - m.log2) + ((-1074 + (k : Int) - ((108 - m.log2 : Nat) : Int)) % 2).toNat)).toNat) ((-1074 + (k : Int) - (((108 - m.log2) + ((-1074 + (k : Int) - ((108 - m.log2 : Nat) : Int)) % 2).toNat : Nat) : Int)) / 2 - 1))) = _
      rw [← hM, if_neg hm, if_neg (by decide), Nat.shiftLeft_eq]
      obtain ⟨e1, he1⟩ : ∃ e1 : Int, 2 * e1 = (k : Int) - 1074 - M := ⟨((k : Int) - 1074 - M) / 2, by omega⟩
      have he2 : (-1074 + (k : Int) - (M : Int)) / 2 = e1 := by omega
      rw [he2]
      have hlog : 2 ^ m.log2 ≤ m := by
        have b1 := bl_spec m hm
        have l1 : bl m = m.log2 + 1 := by unfold bl; rw [if_neg hm]
        rw [l1, show m.log2 + 1 - 1 = m.log2 by omega] at b1
        exact b1.2.1
      have hbig : 2 ^ 106 ≤ m * 2 ^ M := by
        have h1 : 2 ^ m.log2 * 2 ^ M ≤ m * 2 ^ M := Nat.mul_le_mul_right _ hlog
        rw [← Nat.pow_add] at h1
        exact Nat.le_trans (pow_le2 (show 106 ≤ m.log2 + M by omega)) h1
      have hroot : Ieee.Datum.rootFrom (m * 2 ^ M) ((m * 2 ^ M).log2 / 2 + 1) 0 = isq (m * 2 ^ M) := by
        have hn : m * 2 ^ M ≠ 0 := by
          have := Nat.two_pow_pos 106
          omega
        have b2 := bl_spec _ hn
        have l2 : bl (m * 2 ^ M) = (m * 2 ^ M).log2 + 1 := by unfold bl; rw [if_neg hn]
        rw [l2] at b2
        refine rootFrom_isq _ _ 0 (Nat.zero_le _) ?_
        rw [Nat.zero_add, ← Nat.pow_add]
        exact Nat.lt_of_lt_of_le b2.2.2 (pow_le2 (by omega))
      rw [hroot]
      have hst : 2 * isq (m * 2 ^ M) + (isq (m * 2 ^ M) * isq (m * 2 ^ M) != m * 2 ^ M).toNat = rS (m * 2 ^ M) := by
        unfold rS
        congr 1
        split
        · rename_i h0; rw [h0]; simp
        · rename_i h0; simp [h0]
      rw [hst]
      show some (Ieee.double.nearest false (rS (m * 2 ^ M)) _) = _
      rw [nearest_wrd, wrd_false, (root_any a m k M e1 c0 em he1 (big_sq hbig)).1]

end Go.Proofs.YtlbggedahpnjgaaDoor

/- Roots rise; a number lies between the squares of halfway from its root to the next numbers. -/
namespace Go.Proofs.YtlbggedahpnjgaaDoor
open Go.RowKit

theorem rS_mono {N M : Nat} (h : N ≤ M) : rS N ≤ rS M := by
  have h1 := isq_mono h
  obtain ⟨g1, g2⟩ := isq_spec N
  obtain ⟨k1, k2⟩ := isq_spec M
  unfold rS
  rcases Nat.lt_or_eq_of_le h1 with h2 | h2
  · split <;> split <;> omega
  · rw [h2] at g1 g2 ⊢
    split
    · split <;> omega
    · rename_i h3
      rw [if_neg (by omega)]
      exact Nat.le_refl _
theorem tV_le (a : Nat) : tV a ≤ 9218868437227405312 := rnd_le _ _
theorem tV_mono {a b : Nat} (h : fR a ≤ fR b) : tV a ≤ tV b := rnd_mono _ (rS_mono (Nat.mul_le_mul_right _ (rv_mono h)))
theorem rv_le_iff {r s : Nat} : rv r ≤ rv s ↔ r ≤ s := by
  constructor
  · intro h
    rcases Nat.lt_or_ge s r with h1 | h1
    · have := rv_lt h1; omega
    · exact h1
  · exact rv_mono
theorem sV_lt (a : Nat) (ha : a < 18446744073709551616) : sV a < 18446744073709551616 := by
  have h := tV_le a
  unfold sV
  repeat' split
  all_goals omega
theorem fZ_pos (r : Nat) (h : r < 9223372036854775808) : fZ r = rv r := by
  have := fZ_wrd false r h
  rw [wrd_false] at this
  rw [this]; rfl

/-- Which numbers have a root that is one, and its value. -/
theorem sV_val (a : Nat) (ha : a < 18446744073709551616) (n4 : fK a ≠ 4) (k4 : fK (sV a) ≠ 4) :
    (fK a = 0 ∧ fZ (sV a) = 0 ∧ fZ a = 0) ∨ (fK a ≠ 0 ∧ fS a = false ∧ fZ a = rv (fR a) ∧ ((fR a = 9218868437227405312 ∧ fZ (sV a) = rv 9218868437227405312) ∨ (fR a < 9218868437227405312 ∧ fZ (sV a) = rv (tV a)))) := by
  have hr : fR a ≤ 9218868437227405312 := Nat.le_of_not_lt fun h => n4 ((fK_rungs a).1.2 h)
  by_cases h0 : fK a = 0
  · have e : sV a = a := by unfold sV; rw [if_neg n4, if_pos (Or.inl h0)]
    have z : fZ a = 0 := by
      have := (fK_zero a).1 h0
      unfold fZ pv
      rw [this, rv_zero]
      split <;> simp
    exact .inl ⟨h0, by rw [e]; exact z, z⟩
  · refine .inr ⟨h0, ?_⟩
    by_cases hI : a = 9218868437227405312
    · have e : sV a = a := by unfold sV; rw [if_neg n4, if_pos (Or.inr hI)]
      rw [e, hI]
      exact ⟨by decide, by rw [fZ_pos _ (by decide)]; rfl, .inl ⟨by decide, by rw [fZ_pos _ (by decide)]⟩⟩
    · have hs : fS a = false := by
        cases hs : fS a
        · rfl
        · exfalso
          apply k4
          have : sV a = 9221120237041090560 := by unfold sV; rw [if_neg n4, if_neg (by rintro (h | h); exact h0 h; exact hI h), if_pos hs]
          rw [this]; decide
      have ea : a = fR a := by
        have := b_wrd a ha
        rw [hs, wrd_false] at this
        exact this.symm
      have e : sV a = tV a := by unfold sV; rw [if_neg n4, if_neg (by rintro (h | h); exact h0 h; exact hI h), if_neg (by rw [hs]; decide)]
      have ht := tV_le a
      refine ⟨hs, by unfold fZ; rw [hs]; rfl, .inr ⟨by omega, by rw [e]; exact fZ_pos _ (by omega)⟩⟩

theorem rises7 (a b : Nat) (ha : a < 18446744073709551616) (hb : b < 18446744073709551616) (na : fK a ≠ 4) (nb : fK b ≠ 4) (h : fZ a ≤ fZ b) (ka : fK (sV a) ≠ 4) (kb : fK (sV b) ≠ 4) : fZ (sV a) ≤ fZ (sV b) := by
  rcases sV_val a ha na ka with ⟨a0, a1, a2⟩ | ⟨a0, a1, a2, a3⟩
  · rw [a1]
    rcases sV_val b hb nb kb with ⟨b0, b1, b2⟩ | ⟨b0, b1, b2, b3 | b3⟩
    · omega
    · rw [b3.2]; omega
    · rw [b3.2]; omega
  · have pa : rv (fR a) ≠ 0 := fun e => a0 ((fK_zero a).2 ((rv_eq0 _).1 e))
    rcases sV_val b hb nb kb with ⟨b0, b1, b2⟩ | ⟨b0, b1, b2, b3⟩
    · omega
    · have hr : fR a ≤ fR b := rv_le_iff.1 (by omega)
      have ta := rv_mono (tV_le a)
      have tm := rv_mono (tV_mono hr)
      rcases a3 with ⟨c1, c2⟩ | ⟨c1, c2⟩ <;> rcases b3 with ⟨d1, d2⟩ | ⟨d1, d2⟩
      · omega
      · omega
      · omega
      · omega

theorem rises7_order (a b : Nat) (ha : a < 18446744073709551616) (hb : b < 18446744073709551616) : goodO (Ieee.double.order a b) (Ieee.double.order (sV a) (sV b)) := by
  by_cases h1 : fK a = 4 ∨ fK b = 4
  · rw [order_nan a b ha hb h1]
    exact ⟨fun h => (by rcases h with h | h <;> cases h), fun h => (by rcases h with h | h <;> cases h)⟩
  · by_cases h2 : fK (sV a) = 4 ∨ fK (sV b) = 4
    · rw [order_nan _ _ (sV_lt a ha) (sV_lt b hb) h2]
      exact ⟨fun _ h => (by cases h), fun _ h => (by cases h)⟩
    · rw [order_bits a b ha hb (by omega) (by omega), order_bits _ _ (sV_lt a ha) (sV_lt b hb) (by omega) (by omega)]
      have r1 := fun h => rises7 a b ha hb (by omega) (by omega) h (by omega) (by omega)
      have r2 := fun h => rises7 b a hb ha (by omega) (by omega) h (by omega) (by omega)
      generalize fZ (sV a) = u at *
      generalize fZ (sV b) = v at *
      generalize fZ a = x at *
      generalize fZ b = y at *
      refine ⟨fun h e => ?_, fun h e => ?_⟩
      · simp only [Option.some.injEq] at h e
        have e1 := Int.compare_eq_gt.1 e
        have : x ≤ y := by
          rcases h with h | h
          · exact Int.le_of_lt (Int.compare_eq_lt.1 h)
          · exact Int.le_of_eq (Int.compare_eq_eq.1 h)
        have := r1 this
        omega
      · simp only [Option.some.injEq] at h e
        have e1 := Int.compare_eq_lt.1 e
        have : y ≤ x := by
          rcases h with h | h
          · exact Int.le_of_lt (Int.compare_eq_gt.1 h)
          · exact Int.le_of_eq (Int.compare_eq_eq.1 h).symm
        have := r2 this
        omega

/-- How great and how small a root is. -/
theorem tlow : rnd (2 ^ 61) (-598) = 486 * 4503599627370496 := by decide +kernel
theorem thigh : rnd (2 ^ 1110) (-598) = 1535 * 4503599627370496 := by decide +kernel
theorem two60 : (2 : Nat) ^ 60 * 2 ^ 60 = 1 * 2 ^ 120 := by decide
theorem two1109 : (2 : Nat) ^ 1109 * 2 ^ 1109 = 2 ^ 2098 * 2 ^ 120 := by decide +kernel
theorem tS_low (a : Nat) (h0 : fK a ≠ 0) : 2 ^ 60 ≤ isq (rv (fR a) * 2 ^ 120) ∧ 2 ^ 61 ≤ tS a := by
  have hr : rv (fR a) ≠ 0 := fun e => h0 ((fK_zero a).2 ((rv_eq0 _).1 e))
  have h1 : 1 * 2 ^ 120 ≤ rv (fR a) * 2 ^ 120 := Nat.mul_le_mul_right _ (by omega)
  obtain ⟨g1, g2⟩ := isq_spec (rv (fR a) * 2 ^ 120)
  have h2 : 2 ^ 60 < isq (rv (fR a) * 2 ^ 120) + 1 := sq_lt_iff.1 (by rw [two60]; exact Nat.lt_of_le_of_lt h1 g2)
  refine ⟨Nat.le_of_lt_succ h2, ?_⟩
  have h3 := Nat.le_of_lt_succ h2
  have e : (2 : Nat) ^ 61 = 2 * 2 ^ 60 := by decide
  unfold tS rS
  rw [e]
  exact Nat.le_trans (Nat.mul_le_mul_left 2 h3) (Nat.le_add_right _ _)
theorem sq_top {V P c R : Nat} (hV : V < P) (hc : 0 < c) (hR : R * R = P * c) : isq (V * c) < R := by
  obtain ⟨g1, g2⟩ := isq_spec (V * c)
  have : V * c < P * c := (Nat.mul_lt_mul_right hc).2 hV
  exact sq_lt_iff.1 (by rw [hR]; omega)
theorem sq_topV {V : Nat} (h : V < 2 ^ 2098) : isq (V * 2 ^ 120) < 2 ^ 1109 := by
  have h1 := two1109
  have h2 := Nat.two_pow_pos 120
  generalize (2 : Nat) ^ 1109 = R at *
  generalize (2 : Nat) ^ 2098 = P at *
  generalize (2 : Nat) ^ 120 = c at *
  exact sq_top h h2 h1
theorem e1110 : (2 : Nat) ^ 1110 = 2 ^ 1109 * 2 := by decide +kernel
theorem e1074 : (2 : Nat) ^ 1074 = 2 ^ 120 * (2 ^ 477 * 2 ^ 477) := by decide +kernel
theorem e478 : (2 : Nat) ^ 478 = 2 * 2 * 2 ^ 476 := by decide +kernel
theorem e477 : (2 : Nat) ^ 477 = 2 * 2 ^ 476 := by decide +kernel
theorem rS_lt {N P : Nat} (h : isq N < P) : rS N ≤ P * 2 := by
  unfold rS
  have ht : (if isq N * isq N = N then 0 else 1) ≤ 1 := by split <;> omega
  omega
theorem tV_range (a : Nat) (hf : fFin a = true) (h0 : fK a ≠ 0) : 486 * 4503599627370496 ≤ tV a ∧ tV a ≤ 1535 * 4503599627370496 := by
  have h1 := fZ_lt a hf
  rw [fZ_abs] at h1
  have h3 := sq_topV h1
  have h4 : tS a ≤ 2 ^ 1110 := by
    rw [e1110]
    generalize (2 : Nat) ^ 1109 = R at *
    exact rS_lt h3
  refine ⟨?_, ?_⟩
  · rw [← tlow]; exact rnd_mono _ (tS_low a h0).2
  · rw [← thigh]; exact rnd_mono _ h4

theorem rv_mul (r : Nat) (h : 479 * 4503599627370496 ≤ r) : ∃ c, rv r = c * 2 ^ 478 := by
  unfold rv
  rw [if_neg (by omega)]
  obtain ⟨d, hd⟩ : ∃ d, r / 4503599627370496 - 1 = d + 478 := ⟨r / 4503599627370496 - 1 - 478, by omega⟩
  rw [hd, Nat.pow_add, ← Nat.mul_assoc]
  exact ⟨_, rfl⟩

/-- A number's value lies between. -/
theorem between7 (a : Nat) (hf : fFin a = true) (h0 : fK a ≠ 0) :
    (rv (tV a) + rv (tV a - 1)) * (rv (tV a) + rv (tV a - 1)) ≤ 4 * (rv (fR a) * 2 ^ 1074) ∧ 4 * (rv (fR a) * 2 ^ 1074) ≤ (rv (tV a) + rv (tV a + 1)) * (rv (tV a) + rv (tV a + 1)) := by
  obtain ⟨r1, r2⟩ := tV_range a hf h0
  have hs0 : tS a ≠ 0 := by have := (tS_low a h0).2; have := Nat.two_pow_pos 61; omega
  have hbl : (bl (tS a) : Int) + (-598) ≤ 1024 := by
    rcases Int.lt_or_le 1024 ((bl (tS a) : Int) + (-598)) with h | h
    · exfalso
      have : tV a = 9218868437227405312 := by unfold tV rnd; rw [if_neg hs0, if_pos h]
      omega
    · exact h
  have nn := near_num (tS a) (-598) (-1074) hs0 hbl 476 0 (by omega) (by omega)
  have m1 := rv_succ (tV a)
  have m2 := rv_succ (tV a - 1)
  rw [show tV a - 1 + 1 = tV a by omega] at m2
  obtain ⟨c0, e0⟩ := rv_mul (tV a) (by omega)
  obtain ⟨c1, e1⟩ := rv_mul (tV a - 1) (by omega)
  obtain ⟨c2, e2⟩ := rv_mul (tV a + 1) (by omega)
  obtain ⟨g1, g2⟩ := isq_spec (rv (fR a) * 2 ^ 120)
  have ht : tS a = 2 * isq (rv (fR a) * 2 ^ 120) + (if isq (rv (fR a) * 2 ^ 120) * isq (rv (fR a) * 2 ^ 120) = rv (fR a) * 2 ^ 120 then 0 else 1) := rfl
  have hV : rv (fR a) * 2 ^ 1074 = rv (fR a) * 2 ^ 120 * (2 ^ 477 * 2 ^ 477) := by
    rw [e1074, Nat.mul_assoc]
  rw [hV]
  have nn1 := nn.1
  have nn2 := nn.2 (by show 1 ≤ tV a; omega)
  rw [show rnd (tS a) (-598) = tV a from rfl] at nn1 nn2
  rw [Nat.pow_zero, Nat.mul_one, Nat.mul_one] at nn1 nn2
  rw [e478] at e0 e1 e2
  rw [e477]
  have hp : 0 < 2 ^ 476 := Nat.two_pow_pos 476
  generalize (2 : Nat) ^ 476 = p at *
  generalize (2 : Nat) ^ 120 = c120 at *
  generalize rv (fR a) * c120 = N at *
  generalize tS a = s at *
  generalize isq N = q at *
  generalize rv (tV a) = y at *
  generalize rv (tV a - 1) = x at *
  generalize rv (tV a + 1) = z at *
  clear nn hV r1 r2 hbl hs0
  -- twice the root against the sums
  have i1 : 2 * (s * p) ≤ y + z := by omega
  have i2 : y + x ≤ 2 * (s * p) := by omega
  have q4 : ∀ c : Nat, c * (2 * 2 * p) = 4 * (c * p) := fun c => by rw [show (4 : Nat) = 2 * 2 by decide]; ac_rfl
  rw [q4] at e0 e1 e2
  have k1 : y + x = 4 * ((c0 + c1) * p) := by rw [Nat.add_mul]; omega
  have k2 : y + z = 4 * ((c0 + c2) * p) := by rw [Nat.add_mul]; omega
  have j1 : s ≤ 2 * (c0 + c2) := Nat.le_of_mul_le_mul_right (by rw [Nat.mul_assoc]; omega) hp
  have j2 : 2 * (c0 + c1) ≤ s := Nat.le_of_mul_le_mul_right (by rw [Nat.mul_assoc]; omega) hp
  have u1 : c0 + c1 ≤ q := by
    rw [ht] at j2
    split at j2 <;> omega
  have u2 : N ≤ (c0 + c2) * (c0 + c2) := by
    rw [ht] at j1
    split at j1
    · rename_i h
      rw [← h]
      exact sq_le (by omega)
    · have := sq_le (show q + 1 ≤ c0 + c2 by omega)
      omega
  have w1 := sq_le u1
  rw [k1, k2]
  have f1 : ∀ c : Nat, 4 * (c * p) * (4 * (c * p)) = 4 * (c * c * (2 * p * (2 * p))) := fun c => by rw [show (4 : Nat) = 2 * 2 by decide]; ac_rfl
  rw [f1, f1]
  exact ⟨Nat.mul_le_mul_left _ (Nat.mul_le_mul_right _ (by omega)), Nat.mul_le_mul_left _ (Nat.mul_le_mul_right _ u2)⟩

end Go.Proofs.YtlbggedahpnjgaaDoor

