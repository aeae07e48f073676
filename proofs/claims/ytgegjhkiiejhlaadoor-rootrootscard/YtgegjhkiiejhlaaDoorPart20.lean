/- Part 20 of the texts. -/
import Derived.Test.YtgegjhkiiejhlaaDoorPart19
import Derived.Test.YtgegjhkiiejhlaaDoorPart17
import Derived.Test.YtgegjhkiiejhlaaDoorPart16
import Ieee.Arith
/- Square roots with one digit more that says whether something is left: rounded, they hang not on how many digits were reckoned. -/
namespace Go.Proofs.YtgegjhkiiejhlaaDoor

/-- The greatest number whose square is at most n. -/
def isq : Nat → Nat
  | 0 => 0
  | n + 1 => if (isq n + 1) * (isq n + 1) ≤ n + 1 then isq n + 1 else isq n

theorem sq_succ (m : Nat) : (m + 1) * (m + 1) = m * m + 2 * m + 1 := by rw [Nat.add_mul, Nat.mul_add]; omega
theorem sq_le {a b : Nat} (h : a ≤ b) : a * a ≤ b * b := Nat.mul_le_mul h h
theorem sq_lt {a b : Nat} (h : a < b) : a * a < b * b := Nat.mul_lt_mul_of_lt_of_le h (Nat.le_of_lt h) (by omega)
theorem sq_lt_iff {a b : Nat} : a * a < b * b ↔ a < b := by
  constructor
  · intro h
    rcases Nat.lt_or_ge a b with h1 | h1
    · exact h1
    · have := sq_le h1; omega
  · exact sq_lt
theorem isq_spec (n : Nat) : isq n * isq n ≤ n ∧ n < (isq n + 1) * (isq n + 1) := by
  induction n with
  | zero => exact ⟨Nat.le_refl _, by decide⟩
  | succ n ih =>
    unfold isq
    obtain ⟨h1, h2⟩ := ih
    have e1 := sq_succ (isq n)
    have e2 := sq_succ (isq n + 1)
    split
    · rename_i h
      exact ⟨h, by omega⟩
    · rename_i h
      exact ⟨by omega, by omega⟩
theorem isq_unique {n m : Nat} (h1 : m * m ≤ n) (h2 : n < (m + 1) * (m + 1)) : isq n = m := by
  obtain ⟨g1, g2⟩ := isq_spec n
  have a1 : isq n < m + 1 := sq_lt_iff.1 (by omega)
  have a2 : m < isq n + 1 := sq_lt_iff.1 (by omega)
  omega
theorem isq_mono {n m : Nat} (h : n ≤ m) : isq n ≤ isq m := by
  obtain ⟨g1, g2⟩ := isq_spec n
  obtain ⟨k1, k2⟩ := isq_spec m
  have : isq n < isq m + 1 := sq_lt_iff.1 (by omega)
  omega

theorem sq_mul (a p : Nat) : a * p * (a * p) = a * a * (p * p) := by ac_rfl
/-- With more digits. -/
theorem isq_scale (N p : Nat) (hp : 0 < p) : isq (N * (p * p)) / p = isq N := by
  obtain ⟨g1, g2⟩ := isq_spec N
  obtain ⟨k1, k2⟩ := isq_spec (N * (p * p))
  have hpp : 0 < p * p := Nat.mul_pos hp hp
  have a1 : isq N * p < isq (N * (p * p)) + 1 := by
    apply sq_lt_iff.1
    rw [sq_mul]
    have : isq N * isq N * (p * p) ≤ N * (p * p) := Nat.mul_le_mul_right _ g1
    omega
  have a2 : isq (N * (p * p)) < (isq N + 1) * p := by
    apply sq_lt_iff.1
    rw [sq_mul]
    have : N * (p * p) < (isq N + 1) * (isq N + 1) * (p * p) := (Nat.mul_lt_mul_right hpp).2 g2
    omega
  have b1 : isq N ≤ isq (N * (p * p)) / p := (Nat.le_div_iff_mul_le hp).2 (by omega)
  have b2 : isq (N * (p * p)) / p < isq N + 1 := (Nat.div_lt_iff_lt_mul hp).2 a2
  omega

/-- The root, and one digit more, 1 if something is left. -/
def rS (N : Nat) : Nat := 2 * isq N + (if isq N * isq N = N then 0 else 1)

/-- The root by 2^k, to the nearest, between two to the even one. -/
def cutR (N k : Nat) : Nat := isq N / 2 ^ k + (if (2 * (isq N / 2 ^ k) + 1) * 2 ^ k * ((2 * (isq N / 2 ^ k) + 1) * 2 ^ k) < 4 * N ∨ ((2 * (isq N / 2 ^ k) + 1) * 2 ^ k * ((2 * (isq N / 2 ^ k) + 1) * 2 ^ k) = 4 * N ∧ isq N / 2 ^ k % 2 = 1) then 1 else 0)

theorem cutR_scale (N k i : Nat) : cutR (N * (2 ^ i * 2 ^ i)) (k + i) = cutR N k := by
  have hp : 0 < 2 ^ i := Nat.two_pow_pos _
  have hpp : 0 < 2 ^ i * 2 ^ i := Nat.mul_pos hp hp
  have e : isq (N * (2 ^ i * 2 ^ i)) / 2 ^ (k + i) = isq N / 2 ^ k := by
    rw [Nat.add_comm k i, Nat.pow_add, ← Nat.div_div_eq_div_mul, isq_scale N _ hp]
  unfold cutR
  rw [e]
  generalize isq N / 2 ^ k = m
  have s1 : (2 * m + 1) * 2 ^ (k + i) * ((2 * m + 1) * 2 ^ (k + i)) = (2 * m + 1) * 2 ^ k * ((2 * m + 1) * 2 ^ k) * (2 ^ i * 2 ^ i) := by
    rw [Nat.pow_add]; ac_rfl
  have s2 : 4 * (N * (2 ^ i * 2 ^ i)) = 4 * N * (2 ^ i * 2 ^ i) := by ac_rfl
  rw [s1, s2]
  have c1 : ((2 * m + 1) * 2 ^ k * ((2 * m + 1) * 2 ^ k) * (2 ^ i * 2 ^ i) < 4 * N * (2 ^ i * 2 ^ i)) ↔ (2 * m + 1) * 2 ^ k * ((2 * m + 1) * 2 ^ k) < 4 * N := Nat.mul_lt_mul_right hpp
  have c2 : ((2 * m + 1) * 2 ^ k * ((2 * m + 1) * 2 ^ k) * (2 ^ i * 2 ^ i) = 4 * N * (2 ^ i * 2 ^ i)) ↔ (2 * m + 1) * 2 ^ k * ((2 * m + 1) * 2 ^ k) = 4 * N :=
    ⟨fun h => Nat.eq_of_mul_eq_mul_right hpp h, fun h => by rw [h]⟩
  simp only [c1, c2]

/-- Cut by k + 1 digits, at least two, the digit that says whether something is left stands for what is left. -/
theorem rS_cut (N k : Nat) (hk : 1 ≤ k) : cutE (rS N) (k + 1) = cutR N k := by
  obtain ⟨j, rfl⟩ : ∃ j, k = j + 1 := ⟨k - 1, by omega⟩
  obtain ⟨n1, n2⟩ := isq_spec N
  have hg : 0 < 2 ^ j := Nat.two_pow_pos _
  have e1 : (2 : Nat) ^ (j + 1) = 2 * 2 ^ j := by rw [Nat.pow_succ, Nat.mul_comm]
  have e2 : (2 : Nat) ^ (j + 1 + 1) = 2 * (2 * 2 ^ j) := by rw [Nat.pow_succ, e1, Nat.mul_comm]
  have ht : (if isq N * isq N = N then 0 else 1) ≤ 1 := by split <;> omega
  have htz : (if isq N * isq N = N then 0 else 1) = 0 ↔ isq N * isq N = N := by split <;> simp_all
  unfold cutE cutR rS
  rw [e2, e1]
  generalize (2 : Nat) ^ j = g at *
  generalize (if isq N * isq N = N then 0 else 1) = t at *
  generalize isq N = q at *
  have hq := Nat.div_add_mod q (2 * g)
  have ha := Nat.mod_lt q (show 0 < 2 * g by omega)
  generalize hA : q % (2 * g) = a at *
  generalize hQ : q / (2 * g) = b at *
  have s1 : (2 * q + t) / (2 * (2 * g)) = b := by
    rw [← hq, Nat.mul_add, ← Nat.mul_assoc 2 (2 * g) b, Nat.add_assoc]
    rw [Nat.mul_add_div (by omega), Nat.div_eq_of_lt (by omega), Nat.add_zero]
  have s2 : (2 * q + t) % (2 * (2 * g)) = 2 * a + t := by
    rw [← hq, Nat.mul_add, ← Nat.mul_assoc 2 (2 * g) b, Nat.add_assoc, Nat.mul_add_mod, Nat.mod_eq_of_lt (by omega)]
  rw [s1, s2]
  congr 1
  -- half between two, as a square
  obtain ⟨c, hc⟩ : ∃ c, c = 2 * g * b + g := ⟨_, rfl⟩
  have hM : (2 * b + 1) * (2 * g) * ((2 * b + 1) * (2 * g)) = 4 * (c * c) := by
    have : (2 * b + 1) * (2 * g) = 2 * c := by rw [hc, Nat.add_mul, Nat.one_mul, Nat.mul_add]; ac_rfl
    rw [this, show (4 : Nat) = 2 * 2 by decide]
    ac_rfl
  rw [hM]
  clear hM hQ hA s1 s2
  rcases Nat.lt_trichotomy a g with h | h | h
  · have h1 : (q + 1) * (q + 1) ≤ c * c := sq_le (by omega)
    rw [if_neg (by omega), if_neg (by omega)]
  · have h1 : c = q := by omega
    subst h1
    by_cases h0 : c * c = N
    · have := htz.2 h0
      by_cases hb : b % 2 = 1
      · rw [if_pos (Or.inr ⟨by omega, hb⟩), if_pos (Or.inr ⟨by omega, hb⟩)]
      · rw [if_neg (by omega), if_neg (by omega)]
    · have : t ≠ 0 := fun e => h0 (htz.1 e)
      rw [if_pos (Or.inl (by omega)), if_pos (Or.inl (by omega))]
  · have h1 : c * c < q * q := sq_lt (by omega)
    rw [if_pos (Or.inl (by omega)), if_pos (Or.inl (by omega))]

theorem rS_bl (N i : Nat) (hq : 0 < isq N) : bl (rS (N * (2 ^ i * 2 ^ i))) = bl (rS N) + i := by
  have hp : 0 < 2 ^ i := Nat.two_pow_pos _
  have hs : rS N ≠ 0 := by unfold rS; omega
  obtain ⟨b1, b2, b3⟩ := bl_spec (rS N) hs
  have h1 : 2 ≤ rS N := by unfold rS; omega
  have hb2 : 2 ≤ bl (rS N) := by
    rcases Nat.lt_or_ge (bl (rS N)) 2 with h | h
    · have : bl (rS N) = 1 := by omega
      rw [this] at b3; omega
    · exact h
  obtain ⟨c, hc⟩ : ∃ c, bl (rS N) = c + 2 := ⟨bl (rS N) - 2, by omega⟩
  rw [hc] at b2 b3 ⊢
  have ht : (if isq N * isq N = N then 0 else 1) ≤ 1 := by split <;> omega
  have q3 : 2 ^ c ≤ isq N := by
    rw [show c + 2 - 1 = c + 1 by omega, Nat.pow_succ] at b2
    unfold rS at b2
    omega
  have q2 : isq N < 2 ^ (c + 1) := by
    rw [Nat.pow_succ] at b3
    unfold rS at b3
    omega
  have hd := isq_scale N (2 ^ i) hp
  have m1 : 2 ^ (c + i) ≤ isq (N * (2 ^ i * 2 ^ i)) := by
    rw [Nat.pow_add, ← Nat.le_div_iff_mul_le hp, hd]; exact q3
  have m2 : isq (N * (2 ^ i * 2 ^ i)) < 2 ^ (c + 1 + i) := by
    rw [Nat.pow_add, ← Nat.div_lt_iff_lt_mul hp, hd]; exact q2
  refine bl_of (by omega) ?_ ?_
  · rw [show c + 2 + i - 1 = c + i + 1 by omega, Nat.pow_succ]
    unfold rS
    omega
  · rw [show c + 2 + i = c + 1 + i + 1 by omega, Nat.pow_succ]
    unfold rS
    have ht : (if isq (N * (2 ^ i * 2 ^ i)) * isq (N * (2 ^ i * 2 ^ i)) = N * (2 ^ i * 2 ^ i) then 0 else 1) ≤ 1 := by split <;> omega
    omega

theorem rS_big {N : Nat} (hq : 9007199254740992 ≤ isq N) : 55 ≤ bl (rS N) := by
  have hs : rS N ≠ 0 := by unfold rS; omega
  obtain ⟨b1, b2, b3⟩ := bl_spec (rS N) hs
  have h : 2 ^ 54 ≤ rS N := by
    have : (2 : Nat) ^ 54 = 2 * 9007199254740992 := by decide
    rw [this]; unfold rS; omega
  have := pow_lt_of (Nat.lt_of_le_of_lt h b3)
  omega

/-- More digits: the same, rounded. -/
theorem rS_step (N i : Nat) (E : Int) (hq : 9007199254740992 ≤ isq N) :
    rnd (rS (N * (2 ^ i * 2 ^ i))) (E - i) = rnd (rS N) E ∧ lastE (rS (N * (2 ^ i * 2 ^ i))) (E - i) = lastE (rS N) E ∧ (bl (rS (N * (2 ^ i * 2 ^ i))) : Int) + (E - i) = (bl (rS N) : Int) + E ∧ E + 2 ≤ lastE (rS N) E := by
  have hb := rS_bl N i (by omega)
  have h55 := rS_big hq
  have hs : rS N ≠ 0 := by unfold rS; omega
  have hs' : rS (N * (2 ^ i * 2 ^ i)) ≠ 0 := fun h => by
    rw [h] at hb
    have : bl 0 = 0 := rfl
    omega
  have hl : lastE (rS (N * (2 ^ i * 2 ^ i))) (E - i) = lastE (rS N) E := by unfold lastE; rw [hb]; omega
  have hbE : (bl (rS (N * (2 ^ i * 2 ^ i))) : Int) + (E - i) = (bl (rS N) : Int) + E := by rw [hb]; omega
  have h2 : E + 2 ≤ lastE (rS N) E := by have := (lastE_ge (rS N) E).2.1; omega
  refine ⟨?_, hl, hbE, h2⟩
  have hM : rndM (rS (N * (2 ^ i * 2 ^ i))) (E - i) = rndM (rS N) E := by
    unfold rndM
    rw [hl]
    obtain ⟨k, hk⟩ : ∃ k : Nat, lastE (rS N) E = E + k + 1 ∧ 1 ≤ k := ⟨(lastE (rS N) E - E - 1).toNat, by omega, by omega⟩
    rw [show E - i - lastE (rS N) E = -((k + i + 1 : Nat) : Int) by omega, show E - lastE (rS N) E = -((k + 1 : Nat) : Int) by omega]
    rw [mS_down _ _ (by omega), mS_down _ _ (by omega), rS_cut _ _ (by omega), rS_cut _ _ (by omega)]
    exact cutR_scale _ _ _
  unfold rnd
  rw [if_neg hs, if_neg hs', hbE, hM, hl]

/-- A square stays one, and what is none stays none. -/
theorem isq_sq (N i : Nat) : isq (N * (2 ^ i * 2 ^ i)) * isq (N * (2 ^ i * 2 ^ i)) = N * (2 ^ i * 2 ^ i) ↔ isq N * isq N = N := by
  have hp : 0 < 2 ^ i := Nat.two_pow_pos _
  have hpp : 0 < 2 ^ i * 2 ^ i := Nat.mul_pos hp hp
  constructor
  · intro h
    have hd := isq_scale N (2 ^ i) hp
    generalize hR : isq (N * (2 ^ i * 2 ^ i)) = R at *
    -- 2^i goes into R, since its square goes into R's
    have dv : ∀ (n a : Nat), (2 ^ n * 2 ^ n) ∣ a * a → 2 ^ n ∣ a := by
      intro n
      induction n with
      | zero => intro a _; simp
      | succ n ih =>
        intro a ha
        have h2 : 2 ∣ a * a := Nat.dvd_trans ⟨2 ^ n * 2 ^ (n + 1), by rw [Nat.pow_succ]; ac_rfl⟩ ha
        have h3 : a % 2 = 0 := by
          rcases Nat.mod_two_eq_zero_or_one a with h | h
          · exact h
          · exfalso
            have : a * a % 2 = 1 := by rw [Nat.mul_mod, h]
            omega
        obtain ⟨b, rfl⟩ : ∃ b, a = 2 * b := ⟨a / 2, by omega⟩
        have h4 : 2 ^ n * 2 ^ n ∣ b * b := by
          obtain ⟨c, hc⟩ := ha
          refine ⟨c, ?_⟩
          have : 4 * (b * b) = 4 * (2 ^ n * 2 ^ n * c) := by
            have e1 : 2 * b * (2 * b) = 4 * (b * b) := by rw [show (4 : Nat) = 2 * 2 by decide]; ac_rfl
            have e2 : 2 ^ (n + 1) * 2 ^ (n + 1) * c = 4 * (2 ^ n * 2 ^ n * c) := by rw [Nat.pow_succ, show (4 : Nat) = 2 * 2 by decide]; ac_rfl
            rw [← e1, hc, e2]
          omega
        obtain ⟨d, hd⟩ := ih b h4
        exact ⟨d, by rw [hd, Nat.pow_succ]; ac_rfl⟩
    obtain ⟨c, hc⟩ := dv i R ⟨N, by rw [h]; ac_rfl⟩
    rw [hc, Nat.mul_div_cancel_left c hp] at hd
    rw [← hd]
    have : c * c * (2 ^ i * 2 ^ i) = N * (2 ^ i * 2 ^ i) := by rw [← h, hc]; ac_rfl
    exact Nat.eq_of_mul_eq_mul_right hpp this
  · intro h
    have : isq (N * (2 ^ i * 2 ^ i)) = isq N * 2 ^ i := by
      refine isq_unique ?_ ?_
      · rw [sq_mul, h]; exact Nat.le_refl _
      · have := sq_succ (isq N * 2 ^ i)
        rw [sq_mul, h] at this
        omega
    rw [this, sq_mul, h]

/-- And the same flags. -/
theorem rS_flag (N i : Nat) (E : Int) (hq : 9007199254740992 ≤ isq N) :
    rflag (oM (rS (N * (2 ^ i * 2 ^ i)) : Nat)).natAbs (oE (rS (N * (2 ^ i * 2 ^ i)) : Nat) (E - i)) = rflag (oM (rS N : Nat)).natAbs (oE (rS N : Nat) E) := by
  obtain ⟨s1, s2, s3, s4⟩ := rS_step N i E hq
  have hsq := isq_sq N i
  by_cases h0 : isq N * isq N = N
  · have h1 := hsq.2 h0
    have h2 : isq (N * (2 ^ i * 2 ^ i)) = isq N * 2 ^ i := by
      refine isq_unique ?_ ?_
      · rw [sq_mul, h0]; exact Nat.le_refl _
      · have := sq_succ (isq N * 2 ^ i)
        rw [sq_mul, h0] at this
        omega
    have e : rS (N * (2 ^ i * 2 ^ i)) = rS N * 2 ^ i := by
      unfold rS; rw [if_pos h0, if_pos h1, h2, Nat.add_zero, Nat.add_zero, Nat.mul_assoc]
    have e2 : ((rS (N * (2 ^ i * 2 ^ i)) : Nat) : Int) = ((rS N : Nat) : Int) * 2 ^ i := by rw [e, Int.natCast_mul, Int.natCast_pow]; rfl
    have := oM_scale ((rS N : Nat) : Int) i (E - i)
    rw [e2, this.1, this.2, show E - (i : Int) + i = E by omega]
  · have h1 : ¬ isq (N * (2 ^ i * 2 ^ i)) * isq (N * (2 ^ i * 2 ^ i)) = N * (2 ^ i * 2 ^ i) := fun h => h0 (hsq.1 h)
    have o1 : ((rS N : Nat) : Int) % 2 = 1 := by unfold rS; rw [if_neg h0]; omega
    have o2 : ((rS (N * (2 ^ i * 2 ^ i)) : Nat) : Int) % 2 = 1 := by unfold rS; rw [if_neg h1]; omega
    have z1 : ∀ (v : Nat) (e : Int), (v : Int) % 2 = 1 → oM (v : Int) = v ∧ oE (v : Int) e = e := fun v e h => by
      have hne : (v : Int) ≠ 0 := by omega
      have a := (oddOf (v : Int) hne).unique (m' := (v : Int)) (k' := 0) ⟨by simp, h⟩
      exact ⟨a.1, by rw [oE_ne _ _ hne, a.2]; simp⟩
    rw [(z1 _ (E - i) o2).1, (z1 _ (E - i) o2).2, (z1 _ E o1).1, (z1 _ E o1).2, Int.natAbs_natCast, Int.natAbs_natCast]
    have n1 : rS N ≠ 0 := by omega
    have n2 : rS (N * (2 ^ i * 2 ^ i)) ≠ 0 := by omega
    unfold rflag
    rw [if_neg n1, if_neg n2, s3, s2, s1, if_neg (show ¬ lastE (rS N) E ≤ E - i by omega), if_neg (show ¬ lastE (rS N) E ≤ E by omega)]

end Go.Proofs.YtgegjhkiiejhlaaDoor

/- No number is nearer than the rounded one: plain mathematics. -/
namespace Go.Proofs.YtgegjhkiiejhlaaDoor

theorem near_num (V : Nat) (E lo : Int) (hV : V ≠ 0) (ht : (bl V : Int) + E ≤ 1024) (a c : Nat) (ha : E - lo = (a : Int)) (hc : -1074 - lo = (c : Int)) :
    (((V * 2 ^ a : Nat) : Int) - ((rv (rnd V E) * 2 ^ c : Nat) : Int)).natAbs ≤ (((V * 2 ^ a : Nat) : Int) - ((rv (rnd V E + 1) * 2 ^ c : Nat) : Int)).natAbs ∧
    (1 ≤ rnd V E → (((V * 2 ^ a : Nat) : Int) - ((rv (rnd V E) * 2 ^ c : Nat) : Int)).natAbs ≤ (((V * 2 ^ a : Nat) : Int) - ((rv (rnd V E - 1) * 2 ^ c : Nat) : Int)).natAbs) := by
  obtain ⟨l1, l2, l3⟩ := lastE_ge V E
  obtain ⟨m1, m2, m3⟩ := rndM_bounds V E hV
  obtain ⟨b1, b2, b3⟩ := bl_spec V hV
  have hR := rnd_fin V E hV ht
  obtain ⟨k, hk⟩ : ∃ k : Nat, lastE V E + 1074 = (k : Int) := ⟨(lastE V E + 1074).toNat, by omega⟩
  rw [show (lastE V E + 1074).toNat = k by omega] at hR
  have hrv : rv (rnd V E) = rndM V E * 2 ^ k := by
    rw [hR]
    exact rv_of _ _ m1 (fun h => m2 (by omega))
  have hX : rv (rnd V E) * 2 ^ c = rndM V E * 2 ^ (k + c) := by rw [hrv, Nat.mul_assoc, ← Nat.pow_add]
  have hnear : 2 * (rndM V E * 2 ^ (k + c)) ≤ 2 * (V * 2 ^ a) + 2 ^ (k + c) ∧ 2 * (V * 2 ^ a) ≤ 2 * (rndM V E * 2 ^ (k + c)) + 2 ^ (k + c) := by
    rcases Int.lt_or_le E (lastE V E) with hlt | hle
    · obtain ⟨j, hj⟩ : ∃ j : Nat, lastE V E - E = (j : Int) := ⟨(lastE V E - E).toNat, by omega⟩
      have hm : rndM V E = cutE V j := by
        unfold rndM
        rw [show E - lastE V E = -(j : Int) by omega, mS_down V j (by omega)]
      have hp : 2 ^ (k + c) = 2 ^ j * 2 ^ a := by rw [← Nat.pow_add]; congr 1; omega
      obtain ⟨n1, n2⟩ := cutE_near V j
      rw [hm, hp]
      have e1 := Nat.mul_le_mul_right (2 ^ a) n1
      have e2 := Nat.mul_le_mul_right (2 ^ a) n2
      rw [Nat.add_mul, Nat.mul_assoc, Nat.mul_assoc, Nat.mul_assoc] at e1 e2
      exact ⟨e1, e2⟩
    · obtain ⟨j, hj⟩ : ∃ j : Nat, E - lastE V E = (j : Int) := ⟨(E - lastE V E).toNat, by omega⟩
      have hm : rndM V E = V * 2 ^ j := by
        unfold rndM
        rw [hj, mS_up]
      have hp : V * 2 ^ j * 2 ^ (k + c) = V * 2 ^ a := by rw [Nat.mul_assoc, ← Nat.pow_add]; congr 2; omega
      rw [hm, hp]
      exact ⟨Nat.le_add_right _ _, Nat.le_add_right _ _⟩
  have hup : rv (rnd V E) + 2 ^ k ≤ rv (rnd V E + 1) := by
    rw [hrv]
    by_cases g : rndM V E < 9007199254740992
    · have := rv_of (rndM V E + 1) k (by omega) (fun h => by have := m2 (by omega); omega)
      rw [show rndM V E + 1 + k * 4503599627370496 = rnd V E + 1 by omega, Nat.add_mul, Nat.one_mul] at this
      omega
    · have hm : rndM V E = 9007199254740992 := by omega
      have := rv_of 4503599627370497 (k + 1) (by decide) (fun _ => by decide)
      rw [show 4503599627370497 + (k + 1) * 4503599627370496 = rnd V E + 1 by omega, Nat.pow_succ] at this
      rw [this, hm]
      omega
  have hupc : rv (rnd V E) * 2 ^ c + 2 ^ (k + c) ≤ rv (rnd V E + 1) * 2 ^ c := by
    have := Nat.mul_le_mul_right (2 ^ c) hup
    rwa [Nat.add_mul, ← Nat.pow_add] at this
  rw [← hX] at hnear
  refine ⟨?_, fun hr1 => ?_⟩
  · clear hX hrv hup m1 m2 m3
    generalize V * 2 ^ a = D at *
    generalize rv (rnd V E) * 2 ^ c = X at *
    generalize rv (rnd V E + 1) * 2 ^ c = Y at *
    generalize 2 ^ (k + c) = Q at *
    omega
  · by_cases hD : rv (rnd V E) * 2 ^ c ≤ V * 2 ^ a
    · have hle : rv (rnd V E - 1) * 2 ^ c ≤ rv (rnd V E) * 2 ^ c := Nat.mul_le_mul_right _ (rv_mono (by omega))
      clear hX hrv hup hupc hnear m1 m2 m3
      generalize V * 2 ^ a = D at *
      generalize rv (rnd V E) * 2 ^ c = X at *
      generalize rv (rnd V E - 1) * 2 ^ c = Y at *
      omega
    · have hM : k ≠ 0 → 4503599627370497 ≤ rndM V E := fun h0 => by
        have g1 := m2 (by omega)
        rcases Nat.lt_or_ge 4503599627370496 (rndM V E) with g2 | g2
        · omega
        · exfalso
          apply hD
          have he : rndM V E = 4503599627370496 := by omega
          have hb : lastE V E = (bl V : Int) + E - 53 := by omega
          have hp : 2 ^ (bl V - 1) * 2 ^ a = 4503599627370496 * 2 ^ (k + c) := by
            rw [← Nat.pow_add, ← p52, ← Nat.pow_add]
            congr 1
            omega
          rw [hX, he, ← hp]
          exact Nat.mul_le_mul_right _ b2
      have hM1 : 1 ≤ rndM V E := by
        by_cases h0 : k = 0
        · omega
        · have := hM h0; omega
      have hdn : rv (rnd V E - 1) * 2 ^ c + 2 ^ (k + c) = rv (rnd V E) * 2 ^ c := by
        have := rv_of (rndM V E - 1) k (by omega) (fun h => by have := hM h; omega)
        rw [show rndM V E - 1 + k * 4503599627370496 = rnd V E - 1 by omega] at this
        rw [this, hX, Nat.mul_assoc, ← Nat.pow_add]
        obtain ⟨m, hm⟩ : ∃ m, rndM V E = m + 1 := ⟨rndM V E - 1, by omega⟩
        rw [hm, Nat.add_sub_cancel, Nat.add_mul, Nat.one_mul]
      clear hX hrv hup hupc m1 m2 m3
      generalize V * 2 ^ a = D at *
      generalize rv (rnd V E) * 2 ^ c = X at *
      generalize rv (rnd V E - 1) * 2 ^ c = Y at *
      generalize 2 ^ (k + c) = Q at *
      omega

theorem fS_wrd (n : Bool) (s : Nat) (h : s < 9223372036854775808) : fS (wrd n s) = n := by
  unfold fS
  cases n
  · rw [wrd_false]; exact decide_eq_false (by omega)
  · rw [wrd_true]; exact decide_eq_true (by omega)
theorem fP_wrd (n : Bool) (s : Nat) (h : s < 9223372036854775808) : fP (wrd n s) = s / 4503599627370496 := by
  unfold fP
  cases n
  · rw [wrd_false]; omega
  · rw [wrd_true]; omega
theorem fF_wrd (n : Bool) (s : Nat) (_h : s < 9223372036854775808) : fF (wrd n s) = s % 4503599627370496 := by
  unfold fF
  cases n
  · rw [wrd_false]
  · rw [wrd_true]; omega

/-- What a finite number is worth, at a level. -/
theorem fM_wrd (n : Bool) (s : Nat) (h : s < 9218868437227405312) : ∃ j : Nat, fE (wrd n s) = -1074 + (j : Int) ∧ fM (wrd n s) * 2 ^ j = sg n (rv s) := by
  have e1 := fP_wrd n s (by omega)
  have e2 := fF_wrd n s (by omega)
  have e3 := fS_wrd n s (by omega)
  unfold fM fE fA rv
  rw [e1, e2, e3]
  by_cases c1 : s < 4503599627370496
  · rw [if_pos (by omega), if_pos (by omega), if_pos c1]
    refine ⟨0, by simp, ?_⟩
    rw [Nat.mod_eq_of_lt c1]
    simp
  · rw [if_neg (by omega), if_neg (by omega), if_neg c1]
    refine ⟨s / 4503599627370496 - 1, by omega, ?_⟩
    rw [Nat.add_comm 4503599627370496]
    generalize s % 4503599627370496 + 4503599627370496 = m
    generalize s / 4503599627370496 - 1 = j
    unfold sg
    cases n
    · simp
    · simp [Int.neg_mul]

theorem fFin_wrd (n : Bool) (s : Nat) (h : s ≤ 9218868437227405312) : fFin (wrd n s) = decide (s < 9218868437227405312) := by
  unfold fFin
  rw [fP_wrd n s (by omega)]
  by_cases c : s < 9218868437227405312
  · rw [decide_eq_true c]; exact decide_eq_true (by omega)
  · rw [decide_eq_false c]; exact decide_eq_false (by omega)

end Go.Proofs.YtgegjhkiiejhlaaDoor

/- How numbers of binary64 stand to one another: by what their rungs are worth. -/
namespace Go.Proofs.YtgegjhkiiejhlaaDoor
open Go.RowKit

/-- What a rung with its sign is worth (Inf as the next number would be). -/
def pv (n : Bool) (r : Nat) : Int := if n = true then -(rv r : Int) else (rv r : Int)

theorem dbl_sw : Ieee.double.signWeight = 9223372036854775808 := by decide
theorem dbl_bin : Ieee.double.binade = 4503599627370496 := by decide
theorem dbl_inf : Ieee.double.infRung = 9218868437227405312 := by decide
theorem dbl_lp : Ieee.double.leastPlace = -1074 := by decide

theorem wrd_parts (n : Bool) (r : Nat) (h : r < 9223372036854775808) : (wrd n r / 9223372036854775808 % 2 == 1) = n ∧ wrd n r % 9223372036854775808 = r := by
  cases n
  · rw [wrd_false]; exact ⟨by simp; omega, by omega⟩
  · rw [wrd_true]; exact ⟨by simp; omega, by omega⟩

theorem read_wrd (n : Bool) (r : Nat) (h : r ≤ 9218868437227405312) :
    (r < 9218868437227405312 ∧ ∃ (m : Nat) (k : Nat), Ieee.double.read (wrd n r) = .number n m (-1074 + (k : Int)) ∧ m * 2 ^ k = rv r) ∨ (r = 9218868437227405312 ∧ Ieee.double.read (wrd n r) = .infinity n) := by
  obtain ⟨h1, h2⟩ := wrd_parts n r (by omega)
  unfold Ieee.Format.read
  rw [dbl_sw, dbl_bin, dbl_inf, dbl_lp]
  simp only [h1, h2]
  by_cases c1 : r < 4503599627370496
  · left
    refine ⟨by omega, r, 0, ?_, ?_⟩
    · rw [if_pos c1]; rfl
    · unfold rv; rw [if_pos c1]; simp
  · by_cases c2 : r < 9218868437227405312
    · left
      refine ⟨c2, _, _, by rw [if_neg c1, if_pos c2], ?_⟩
      unfold rv; rw [if_neg c1]
    · right
      have : r = 9218868437227405312 := by omega
      exact ⟨this, by rw [if_neg c1, if_neg c2, if_pos this]⟩

theorem signed_pv (n : Bool) (m k u : Nat) (r : Nat) (h : m * 2 ^ k = rv r) (hu : u ≤ k) : Ieee.signed n m u * 2 ^ (k - u) = pv n r := by
  have h1 : m <<< u * 2 ^ (k - u) = rv r := by
    rw [Nat.shiftLeft_eq, Nat.mul_assoc, ← Nat.pow_add, show u + (k - u) = k by omega]; exact h
  have h2 : ((m <<< u : Nat) : Int) * 2 ^ (k - u) = (rv r : Int) := by
    rw [← h1, Int.natCast_mul, Int.natCast_pow]; rfl
  unfold Ieee.signed pv
  cases n
  · simp only [Bool.false_eq_true, if_false]; exact h2
  · simp only [if_true]; rw [Int.neg_mul, h2]

theorem compare_scale (a b : Int) (k : Nat) : compare (a * 2 ^ k) (b * 2 ^ k) = compare a b := by
  have hp : (0 : Int) < 2 ^ k := Int.pow_pos (by decide)
  rcases Int.lt_trichotomy a b with h | h | h
  · have h1 : a * 2 ^ k < b * 2 ^ k := Int.mul_lt_mul_of_pos_right h hp
    rw [Int.compare_eq_lt.2 h, Int.compare_eq_lt.2 h1]
  · subst h; simp
  · have h1 : b * 2 ^ k < a * 2 ^ k := Int.mul_lt_mul_of_pos_right h hp
    rw [Int.compare_eq_gt.2 h, Int.compare_eq_gt.2 h1]

theorem order_num (n m : Bool) (r s a b k j : Nat) (h1 : a * 2 ^ k = rv r) (h2 : b * 2 ^ j = rv s) :
    Ieee.Datum.order (.number n a (-1074 + (k : Int))) (.number m b (-1074 + (j : Int))) = some (compare (pv n r) (pv m s)) := by
  unfold Ieee.Datum.order
  simp only
  congr 1
  generalize hc : min k j = c
  have e1 : (-1074 + (k : Int) - min (-1074 + (k : Int)) (-1074 + (j : Int))).toNat = k - c := by omega
  have e2 : (-1074 + (j : Int) - min (-1074 + (k : Int)) (-1074 + (j : Int))).toNat = j - c := by omega
  rw [e1, e2, ← compare_scale _ _ c]
  have s1 := signed_pv n a k (k - c) r h1 (by omega)
  have s2 := signed_pv m b j (j - c) s h2 (by omega)
  rw [show k - (k - c) = c by omega] at s1
  rw [show j - (j - c) = c by omega] at s2
  rw [s1, s2]

theorem rv_lt {r s : Nat} (h : r < s) : rv r < rv s := Nat.lt_of_lt_of_le (rv_succ r) (rv_mono h)

theorem order_wrd (n m : Bool) (r s : Nat) (hr : r ≤ 9218868437227405312) (hs : s ≤ 9218868437227405312) : Ieee.double.order (wrd n r) (wrd m s) = some (compare (pv n r) (pv m s)) := by
  unfold Ieee.Format.order
  rcases read_wrd n r hr with ⟨c1, a, k, e1, h1⟩ | ⟨c1, e1⟩
  · rcases read_wrd m s hs with ⟨c2, b, j, e2, h2⟩ | ⟨c2, e2⟩
    · rw [e1, e2]; exact order_num n m r s a b k j h1 h2
    · rw [e1, e2]
      have hlt : rv r < rv s := rv_lt (by omega)
      have hn : Ieee.Datum.order (.number n a (-1074 + (k : Int))) (.infinity m) = some (if m then .gt else .lt) := rfl
      rw [hn]
      congr 1
      unfold pv
      cases m <;> cases n <;> simp only [Bool.false_eq_true, if_true, if_false] <;> symm <;> first | exact Int.compare_eq_lt.2 (by omega) | exact Int.compare_eq_gt.2 (by omega)
  · rcases read_wrd m s hs with ⟨c2, b, j, e2, h2⟩ | ⟨c2, e2⟩
    · rw [e1, e2]
      have hlt : rv s < rv r := rv_lt (by omega)
      have hn : Ieee.Datum.order (.infinity n) (.number m b (-1074 + (j : Int))) = some (if n then .lt else .gt) := rfl
      rw [hn]
      congr 1
      unfold pv
      cases m <;> cases n <;> simp only [Bool.false_eq_true, if_true, if_false] <;> symm <;> first | exact Int.compare_eq_lt.2 (by omega) | exact Int.compare_eq_gt.2 (by omega)
    · rw [e1, e2]
      have hrs : rv r = rv s := by rw [c1, c2]
      have hpos : 0 < rv s := by have := rv_lt (r := 0) (s := s) (by omega); rw [rv_zero] at this; exact this
      have hn : Ieee.Datum.order (.infinity n) (.infinity m) = some (compare m.toNat n.toNat) := rfl
      rw [hn]
      congr 1
      unfold pv
      rw [hrs]
      cases n <;> cases m
      · simp
      · rw [if_neg (by decide), if_pos rfl]
        rw [Int.compare_eq_gt.2 (by omega)]
        decide
      · rw [if_pos rfl, if_neg (by decide)]
        rw [Int.compare_eq_lt.2 (by omega)]
        decide
      · simp

/-- What z times 2 to the l is rounded to. -/
def pvZ (z l : Int) : Int := pv (decide (z < 0)) (rnd z.natAbs l)

theorem pvZ_mono {z y l : Int} (h : z ≤ y) : pvZ z l ≤ pvZ y l := by
  unfold pvZ pv
  by_cases h1 : z < 0
  · rw [decide_eq_true h1, if_pos rfl]
    by_cases h2 : y < 0
    · rw [decide_eq_true h2, if_pos rfl]
      have := rv_mono (rnd_mono l (show y.natAbs ≤ z.natAbs by omega))
      omega
    · rw [decide_eq_false h2, if_neg (by decide)]
      omega
  · rw [decide_eq_false h1, decide_eq_false (show ¬ y < 0 by omega), if_neg (by decide), if_neg (by decide)]
    have := rv_mono (rnd_mono l (show z.natAbs ≤ y.natAbs by omega))
    omega

end Go.Proofs.YtgegjhkiiejhlaaDoor

/- The reference's dyadic numbers at a level: Sub, Compare, Scale by 1, Neg. -/
namespace Go.Proofs.YtgegjhkiiejhlaaDoor
open Go.RowKit

theorem up_level (z lo : Int) (k : Nat) (h : z ≠ 0 → lo + k ≤ oE z lo) : up (oM z) (oE z lo) (lo + k) * 2 ^ k = z := by
  by_cases h0 : z = 0
  · subst h0; rw [oM_zero, up_zero]; simp
  · have h1 := h h0
    conv => rhs; rw [← oM_level z lo h0]
    unfold up
    rw [Int.mul_assoc, ← Int.pow_add]
    congr 2
    omega

theorem low_level {lo : Int} {W : Nat} {z1 z2 : Int} (h1 : Lvl lo W z1) (h2 : Lvl lo W z2) (h0 : ¬ (z1 = 0 ∧ z2 = 0)) :
    ∃ k : Nat, lowE (oM z1) (oE z1 lo) (oM z2) (oE z2 lo) = lo + k ∧ up (oM z1) (oE z1 lo) (lo + k) * 2 ^ k = z1 ∧ up (oM z2) (oE z2 lo) (lo + k) * 2 ^ k = z2 ∧ oE z1 lo - (lo + k) ≤ 16384 ∧ oE z2 lo - (lo + k) ≤ 16384 := by
  have b1 := h1.2.1
  have b2 := h1.2.2.1
  have b3 := h1.2.2.2
  have hb : ∀ z, Lvl lo W z → (z = 0 ∧ oM z = 0 ∧ oE z lo = 0) ∨ (z ≠ 0 ∧ oM z ≠ 0 ∧ oE z lo = lo + (tz z.natAbs : Int) ∧ tz z.natAbs < W) := fun z hz => by
    by_cases e : z = 0
    · left; subst e; exact ⟨rfl, oM_zero, oE_zero _⟩
    · right; exact ⟨e, (oM_ne z e).1, oE_ne z lo e, hz.tzs e⟩
  rcases hb z1 h1 with ⟨e1, m1, x1⟩ | ⟨e1, m1, x1, t1⟩
  · rcases hb z2 h2 with ⟨e2, m2, x2⟩ | ⟨e2, m2, x2, t2⟩
    · exact absurd ⟨e1, e2⟩ h0
    · refine ⟨tz z2.natAbs, ?_, up_level z1 lo _ (fun h => absurd e1 h), up_level z2 lo _ (fun _ => by omega), by omega, by omega⟩
      unfold lowE; rw [if_pos m1]; exact x2
  · rcases hb z2 h2 with ⟨e2, m2, x2⟩ | ⟨e2, m2, x2, t2⟩
    · refine ⟨tz z1.natAbs, ?_, up_level z1 lo _ (fun _ => by omega), up_level z2 lo _ (fun h => absurd e2 h), by omega, by omega⟩
      unfold lowE; rw [if_neg m1, if_pos m2]; exact x1
    · refine ⟨min (tz z1.natAbs) (tz z2.natAbs), ?_, up_level z1 lo _ (fun _ => by omega), up_level z2 lo _ (fun _ => by omega), by omega, by omega⟩
      rw [lowE_ne _ _ _ _ m1 m2, x1, x2]; omega

theorem le_scaled {u z : Int} {k : Nat} (h : u * 2 ^ k = z) : u.natAbs ≤ z.natAbs := by
  rw [← h, Int.natAbs_mul, Int.natAbs_pow]
  exact Nat.le_mul_of_pos_right _ (Nat.pow_pos (by decide))

theorem Lvl.neg {lo : Int} {W : Nat} {z : Int} (h : Lvl lo W z) : Lvl lo W (-z) := ⟨by rw [Int.natAbs_neg]; exact h.1, h.2⟩

theorem dRt_in {m e : Int} (h : dRt m e = true) : -16384 ≤ e ∧ e ≤ 16384 := by
  unfold dRt at h
  by_cases h0 : m = 0
  · rw [if_pos h0] at h; have := of_decide_eq_true h; omega
  · rw [if_neg h0, Bool.and_eq_true] at h; exact of_decide_eq_true h.2

theorem rsubN {w : World} {v u : Value} {lo : Int} {W : Nat} {z1 z2 : Int} (hv : IsDy w v (oM z1) (oE z1 lo)) (hu : IsDy w u (oM z2) (oE z2 lo)) (h1 : Lvl lo W z1) (h2 : Lvl lo W z2) :
    Calls Tryd.prog 50 #[v, u] w fun r w' => ∃ q, r = .returned q ∧ IsDy w' q (oM (z1 - z2)) (oE (z1 - z2) lo) ∧ Below w.heap.size w w' := by
  obtain ⟨na, ao, ca, A, rfl, a1, a2, a3, a4, a5⟩ := hv.right h1.right.2
  obtain ⟨nb, bo, cb, B, rfl, b1, b2, b3, b4, b5⟩ := hu.right h2.right.2
  have x1 := dRt_in h1.right.1
  have x2 := dRt_in h2.right.1
  have hn := oM_neg z2
  have hN := h2.neg
  have t1 := h1.tops
  have t2 := hN.tops
  by_cases h0 : z1 = 0 ∧ z2 = 0
  · obtain ⟨rfl, rfl⟩ := h0
    have hz : ∀ W : World, W = W := fun _ => rfl
    rw [oM_zero] at a3 b3
    rw [oE_zero] at *
    have eZ : sumZ 0 0 (-0) 0 = 0 := by decide
    have eU : upE 0 0 (lowE 0 0 (-0) 0) = 0 := upE_ok _ _ _ (by rw [up_zero]; exact TOP_pos) (by decide)
    have eU2 : upE (-0) 0 (lowE 0 0 (-0) 0) = 0 := upE_ok _ _ _ (by rw [Int.neg_zero, up_zero]; exact TOP_pos) (by decide)
    have := rsub_any na nb ao bo ca cb A B 0 0 w a1 b1 a2 b2 (by omega) (by omega) (by rw [a3, b3]; exact eU) (by rw [a3, b3]; exact eU2)
    rw [a3, b3, eZ, oM_zero, oE_zero] at this
    simpa [oM_zero, oE_zero] using this
  · obtain ⟨k, e1, e2, e3, e4, e5⟩ := low_level h1 hN (by omega)
    have hx : oE (-z2) lo = oE z2 lo := hn.2 lo
    rw [hn.1, hx] at e1
    have e3' := e3
    rw [hn.1, hx] at e3
    rw [hx] at e5
    have g1 : upE (oM z1) (oE z1 lo) (lo + k) = 0 := upE_ok _ _ _ (Nat.lt_of_le_of_lt (le_scaled e2) t1) e4
    have g2 : upE (-oM z2) (oE z2 lo) (lo + k) = 0 := upE_ok _ _ _ (Nat.lt_of_le_of_lt (le_scaled e3) t2) e5
    have := rsub_any na nb ao bo ca cb A B _ _ w a1 b1 a2 b2 x1 x2 (by rw [a3, b3, e1]; exact g1) (by rw [a3, b3, e1]; exact g2)
    rw [a3, b3, e1] at this
    have hZ : sumZ (oM z1) (oE z1 lo) (-oM z2) (oE z2 lo) * 2 ^ k = z1 - z2 := by
      unfold sumZ
      rw [e1, Int.add_mul, e2, e3, Int.sub_eq_add_neg]
    generalize sumZ (oM z1) (oE z1 lo) (-oM z2) (oE z2 lo) = Z at *
    have hs := oM_scale Z k lo
    rw [hZ] at hs
    rw [hs.1, hs.2]
    exact this

theorem cmpI_scale (u v : Int) (k : Nat) : cmpI (u * 2 ^ k) (v * 2 ^ k) = cmpI u v := by
  rw [cmpI_sgn, cmpI_sgn, ← Int.sub_mul, sgnI_mul_pow]

theorem rcmpN {w : World} {v u : Value} {lo : Int} {W : Nat} {z1 z2 : Int} (hv : IsDy w v (oM z1) (oE z1 lo)) (hu : IsDy w u (oM z2) (oE z2 lo)) (h1 : Lvl lo W z1) (h2 : Lvl lo W z2) :
    Calls Tryd.prog 26 #[v, u] w fun r w' => r = .returned (.int .i64 (cmpI z1 z2)) ∧ Below w.heap.size w w' := by
  obtain ⟨na, ao, ca, A, rfl, a1, a2, a3, a4, a5⟩ := hv.right h1.right.2
  obtain ⟨nb, bo, cb, B, rfl, b1, b2, b3, b4, b5⟩ := hu.right h2.right.2
  have := rcompare_any na nb ao bo ca cb A B _ _ w a1 b1 (a5.trans h1.right.1) (b5.trans h2.right.1)
  rw [a3, b3] at this
  have hc : cmpV (oM z1) (oE z1 lo) (oM z2) (oE z2 lo) = cmpI z1 z2 := by
    by_cases h0 : z1 = 0 ∧ z2 = 0
    · obtain ⟨rfl, rfl⟩ := h0
      rw [oM_zero, oE_zero]; rfl
    · obtain ⟨k, e1, e2, e3, _, _⟩ := low_level h1 h2 h0
      unfold cmpV
      rw [e1, ← cmpI_scale _ _ k, e2, e3]
  rwa [hc] at this

theorem oM_oM (z : Int) : oM (oM z) = oM z := by
  by_cases h : z = 0
  · subst h; rw [oM_zero, oM_zero]
  · have h1 := oM_ne z h
    have := (oddOf (oM z) h1.1).unique (m' := oM z) (k' := 0) ⟨by simp, h1.2⟩
    exact this.1

theorem oE_oM (z e : Int) (h : z ≠ 0) : oE (oM z) e = e := by
  have h1 := oM_ne z h
  have := (oddOf (oM z) h1.1).unique (m' := oM z) (k' := 0) ⟨by simp, h1.2⟩
  rw [oE_ne _ _ h1.1, this.2]; simp

theorem rscaleN {w : World} {v : Value} {lo : Int} {W : Nat} {z : Int} (hv : IsDy w v (oM z) (oE z lo)) (h1 : Lvl lo W z) :
    Calls Tryd.prog 46 #[v, .int .i64 1] w fun r w' => ∃ q, r = .returned q ∧ IsDy w' q (oM (z * 2)) (oE (z * 2) lo) ∧ Below w.heap.size w w' := by
  obtain ⟨na, ao, ca, A, rfl, a1, a2, a3, a4, a5⟩ := hv.right h1.right.2
  have x1 := dRt_in h1.right.1
  have := rscale_any na ao ca A _ 1 w a1 a2 x1 (by decide)
  rw [a3, oM_oM] at this
  have hs := oM_scale z 1 lo
  rw [Int.pow_one] at hs
  rw [hs.1, hs.2]
  by_cases h0 : z = 0
  · subst h0
    rw [oM_zero, oE_zero] at *
    exact this
  · rw [oE_oM _ _ h0] at this
    have hx : oE z (lo + (1 : Nat)) = oE z lo + 1 := by rw [oE_ne _ _ h0, oE_ne _ _ h0]; omega
    rw [hx]
    exact this

theorem rnegN {w : World} {v : Value} {lo : Int} {W : Nat} {z : Int} (hv : IsDy w v (oM z) (oE z lo)) (h1 : Lvl lo W z) :
    Calls Tryd.prog 74 #[v] w fun r w' => ∃ q, r = .returned q ∧ IsDy w' q (oM (-z)) (oE (-z) lo) ∧ Below w.heap.size w w' := by
  obtain ⟨na, ao, ca, A, rfl, a1, a2, a3, a4, a5⟩ := hv.right h1.right.2
  have := rneg_any na ao ca A (oE z lo) w a1 a4
  rw [a3] at this
  have hs := oM_neg z
  rw [hs.1, hs.2]
  exact this

end Go.Proofs.YtgegjhkiiejhlaaDoor

/- What sums of binary64 are: a number's value in units of the least one, the sum's bits and flags. -/
namespace Go.Proofs.YtgegjhkiiejhlaaDoor
open Go.RowKit

/-- The rung; the value in units of the least number. -/
def fR (b : Nat) : Nat := b % 9223372036854775808
def fZ (b : Nat) : Int := pv (fS b) (fR b)

theorem b_wrd (b : Nat) (h : b < 18446744073709551616) : wrd (fS b) (fR b) = b := by
  unfold fS fR
  by_cases c : 9223372036854775808 ≤ b
  · rw [decide_eq_true c, wrd_true]; omega
  · rw [decide_eq_false c, wrd_false]; omega
theorem fR_lt (b : Nat) : fR b < 9223372036854775808 := by unfold fR; omega
theorem fR_fin (b : Nat) (hf : fFin b = true) : fR b < 9218868437227405312 := by
  have h1 := of_decide_eq_true hf
  unfold fP at h1
  unfold fR
  omega
theorem sg_pv (n : Bool) (s : Nat) : sg n (rv s) = pv n s := rfl

theorem fZ_level (b : Nat) (h : b < 18446744073709551616) (hf : fFin b = true) : oM (fZ b) = fD b ∧ oE (fZ b) (-1074) = fX b := by
  obtain ⟨j, h1, h2⟩ := fM_wrd (fS b) (fR b) (fR_fin b hf)
  rw [b_wrd b h] at h1 h2
  have h3 := oM_scale (fM b) j (-1074)
  rw [h2, sg_pv, ← h1] at h3
  exact h3

theorem rv_inf : rv 9218868437227405312 = 2 ^ 2098 := by decide +kernel
theorem pv_abs (n : Bool) (r : Nat) : (pv n r).natAbs = rv r := by unfold pv; split <;> omega
theorem fZ_abs (b : Nat) : (fZ b).natAbs = rv (fR b) := pv_abs _ _
theorem fZ_lt (b : Nat) (hf : fFin b = true) : (fZ b).natAbs < 2 ^ 2098 := by
  rw [fZ_abs, ← rv_inf]; exact rv_lt (fR_fin b hf)

/-- The exact sum; what comes of it; its flags. -/
def aZ (a b : Nat) : Int := fZ a + fZ b
def aV (a b : Nat) : Nat :=
  if fK a = 4 ∨ fK b = 4 then 9221120237041090560
  else if fK a = 3 then (if fK b = 3 ∧ a ≠ b then 9221120237041090560 else a)
  else if fK b = 3 then b
  else if aZ a b = 0 then (if (fS a && fS b) = true then 9223372036854775808 else 0)
  else wrd (decide (aZ a b < 0)) (rnd (aZ a b).natAbs (-1074))
def aF (a b : Nat) : Int :=
  if fK a = 4 ∨ fK b = 4 then 0
  else if fK a = 3 then (if fK b = 3 ∧ a ≠ b then 16 else 0)
  else if fK b = 3 then 0
  else if aZ a b = 0 then 0
  else rflag (oM (aZ a b)).natAbs (oE (aZ a b) (-1074))

theorem pow_twice (k : Nat) : (2 : Nat) ^ k + 2 ^ k = 2 ^ (k + 1) := by rw [Nat.pow_succ]; omega
theorem p2098 : (2 : Nat) ^ 2098 + 2 ^ 2098 = 2 ^ 2099 := by decide +kernel
theorem fZ_Lvl (b : Nat) (hf : fFin b = true) : Lvl (-1074) 2099 (fZ b) := by
  have h1 := fZ_lt b hf
  have h2 := p2098
  have h3 := Nat.two_pow_pos 2098
  generalize (2 : Nat) ^ 2098 = P at *
  exact ⟨by rw [← h2]; omega, by decide, by decide, by decide⟩
theorem aZ_Lvl (a b : Nat) (ha : fFin a = true) (hb : fFin b = true) : Lvl (-1074) 2099 (fZ a + fZ b) := by
  have h1 := fZ_lt a ha
  have h4 := fZ_lt b hb
  have h2 := p2098
  generalize (2 : Nat) ^ 2098 = P at *
  exact ⟨by rw [← h2]; omega, by decide, by decide, by decide⟩

theorem wrd_lt (n : Bool) (r : Nat) (h : r < 9223372036854775808) : wrd n r < 18446744073709551616 := by unfold wrd; split <;> omega
theorem aV_lt (a b : Nat) (ha : a < 18446744073709551616) (hb : b < 18446744073709551616) : aV a b < 18446744073709551616 := by
  unfold aV
  split
  · omega
  · split
    · split <;> omega
    · split
      · omega
      · split
        · split <;> omega
        · have := rnd_le (aZ a b).natAbs (-1074)
          exact wrd_lt _ _ (by omega)

theorem add_f (a b : Nat) (a3 : fK a ≠ 3) (a4 : fK a ≠ 4) (b3 : fK b ≠ 3) (b4 : fK b ≠ 4) :
    aV a b = (if aZ a b = 0 then (if (fS a && fS b) = true then 9223372036854775808 else 0) else wrd (decide (aZ a b < 0)) (rnd (aZ a b).natAbs (-1074))) ∧ aF a b = (if aZ a b = 0 then 0 else rflag (oM (aZ a b)).natAbs (oE (aZ a b) (-1074))) := by
  have h : ¬ (fK a = 4 ∨ fK b = 4) := by omega
  unfold aV aF
  simp only [if_neg h, if_neg a3, if_neg b3, and_self]
theorem rnd_0 (E : Int) : rnd 0 E = 0 := by unfold rnd; exact if_pos rfl

theorem aZ_comm (a b : Nat) : aZ a b = aZ b a := Int.add_comm _ _
theorem add_comm5 (a b : Nat) : aV a b = aV b a ∧ aF a b = aF b a := by
  unfold aV aF
  rw [aZ_comm b a, Bool.and_comm (fS b) (fS a)]
  by_cases c1 : fK a = 4
  · simp [c1]
  by_cases c2 : fK b = 4
  · simp [c2]
  by_cases c3 : fK a = 3
  · by_cases c4 : fK b = 3
    · by_cases c5 : a = b
      · subst c5; exact ⟨rfl, rfl⟩
      · have c6 : ¬ b = a := fun h => c5 h.symm
        simp [c3, c4, c5, c6]
    · simp [c2, c3, c4]
  · by_cases c4 : fK b = 3
    · simp [c1, c3, c4]
    · simp [c1, c2, c3, c4]

end Go.Proofs.YtgegjhkiiejhlaaDoor

