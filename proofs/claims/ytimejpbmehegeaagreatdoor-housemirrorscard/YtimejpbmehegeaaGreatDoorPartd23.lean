/- Part 23 of the texts. -/
import Derived.Test.YtimejpbmehegeaaGreatDoorPartd22
/- The greatest number; the norm: right but for a part in 2^44; at least the greatest one but for a part in 2^50. Ahead of stage 9. -/
namespace Go.Proofs.YtimejpbmehegeaaGreatDoor
open Go.RowKit

/-- The sum of squares, in order; the exact one. -/
def ssV (k : Int) : Nat → List Nat → Nat
  | s, [] => s
  | s, x :: xs => ssV k (sqV k s x) xs
def sqQ (k : Int) : List Nat → Rat
  | [] => 0
  | x :: xs => dQ k x * dQ k x + sqQ k xs
theorem sqQ_0 (k : Int) (xs : List Nat) : 0 ≤ sqQ k xs := by
  induction xs with
  | nil => exact Rat.le_refl
  | cons x xs ih =>
    have := sq_nonneg (dQ k x)
    unfold sqQ
    grind

theorem ss_err (k : Int) (G : Rat) (hG1 : 1 ≤ G) (hG2 : G ≤ 256) : ∀ (xs : List Nat) (s : Nat) (T H : Rat), (∀ x ∈ xs, x < 18446744073709551616 ∧ fFin x = true ∧ ab (dQ k x) ≤ 2) → fFin s = true → fS s = false →
    T + sqQ k xs ≤ G → H + (xs.length : Rat) * G ≤ 64 * G → 9007199254740992 * ab (fQ s - T) ≤ 2 * T + 2 * H →
    fFin (ssV k s xs) = true ∧ fS (ssV k s xs) = false ∧ 9007199254740992 * ab (fQ (ssV k s xs) - (T + sqQ k xs)) ≤ 2 * (T + sqQ k xs) + 2 * (H + (xs.length : Rat) * G) := by
  intro xs
  induction xs with
  | nil =>
    intro s T H _ fs ss _ _ he
    refine ⟨fs, ss, ?_⟩
    have e1 : ssV k s [] = s := rfl
    have e2 : sqQ k [] = 0 := rfl
    have e3 : (([] : List Nat).length : Rat) = 0 := rfl
    rw [e1, e2, e3, Rat.add_zero]
    grind
  | cons x xs ih =>
    intro s T H hx fs ss hT hH he
    obtain ⟨h1, h2, h3⟩ := hx x (List.mem_cons_self)
    have e2 : sqQ k (x :: xs) = dQ k x * dQ k x + sqQ k xs := rfl
    have e3 : ((x :: xs).length : Rat) = (xs.length : Rat) + 1 := by rw [List.length_cons, Rat.natCast_add]; rfl
    have e4 : ((x :: xs).length : Rat) * G = (xs.length : Rat) * G + G := by rw [e3]; grind
    have q0 := sqQ_0 k xs
    have l0 : 0 ≤ (xs.length : Rat) * G := Rat.mul_nonneg Rat.natCast_nonneg (by grind)
    rw [e2] at hT ⊢
    rw [e4] at hH ⊢
    obtain ⟨g1, g2, g3⟩ := sq_step k s x T H G h1 h2 h3 fs ss (by grind) hG1 hG2 (by grind) he
    obtain ⟨i1, i2, i3⟩ := ih (sqV k s x) (T + dQ k x * dQ k x) (H + G) (fun y hy => hx y (List.mem_cons_of_mem _ hy)) g1 g2 (by grind) (by grind) g3
    refine ⟨i1, i2, ?_⟩
    rw [show T + (dQ k x * dQ k x + sqQ k xs) = T + dQ k x * dQ k x + sqQ k xs by grind, show H + ((xs.length : Rat) * G + G) = H + G + (xs.length : Rat) * G by grind]
    exact i3

/-- The greater one of two; the greatest one without signs. -/
def mx (a b : Nat) : Nat := if fK a = 4 ∨ fK b = 4 then 9221120237041090560 else if fZ a < fZ b then b else a
def bgF : Nat → List Nat → Nat
  | m, [] => m
  | m, x :: xs => bgF (mx m (fR x)) xs
theorem mag_fZ (r : Nat) (h : r < 9223372036854775808) : fZ r = (rv r : Int) ∧ fR r = r ∧ fS r = false := by
  have h1 : fR r = r := by unfold fR; omega
  have h2 : fS r = false := decide_eq_false (by omega)
  refine ⟨?_, h1, h2⟩
  unfold fZ pv
  rw [h1, h2]
  rfl
theorem mx_mag (m r : Nat) (hm : m < 9218868437227405312) (hr : r < 9218868437227405312) : mx m r = max m r := by
  obtain ⟨a1, a2, a3⟩ := mag_fZ m (by omega)
  obtain ⟨b1, b2, b3⟩ := mag_fZ r (by omega)
  have k1 := (fin_kind ((fK_rungs m).2.2.2 (by rw [a2]; exact hm))).2
  have k2 := (fin_kind ((fK_rungs r).2.2.2 (by rw [b2]; exact hr))).2
  unfold mx
  rw [if_neg (by omega), a1, b1]
  rcases Nat.lt_or_ge m r with h | h
  · have := rv8_lt h
    rw [if_pos (by omega)]
    omega
  · have := rv_mono h
    rw [if_neg (by omega)]
    omega
theorem bgF_fin : ∀ (xs : List Nat) (m : Nat), m < 9218868437227405312 → (∀ x ∈ xs, fFin x = true) →
    bgF m xs < 9218868437227405312 ∧ m ≤ bgF m xs ∧ (∀ x ∈ xs, fR x ≤ bgF m xs) ∧ (bgF m xs = m ∨ ∃ x ∈ xs, fR x = bgF m xs) := by
  intro xs
  induction xs with
  | nil => intro m hm _; exact ⟨hm, Nat.le_refl _, (fun x hx => (by cases hx)), Or.inl rfl⟩
  | cons x xs ih =>
    intro m hm hx
    have hr := fR_fin x (hx x List.mem_cons_self)
    have e : bgF m (x :: xs) = bgF (max m (fR x)) xs := by
      show bgF (mx m (fR x)) xs = _
      rw [mx_mag m _ hm hr]
    obtain ⟨i1, i2, i3, i4⟩ := ih (max m (fR x)) (by omega) (fun y hy => hx y (List.mem_cons_of_mem _ hy))
    rw [e]
    refine ⟨i1, by omega, ?_, ?_⟩
    · intro y hy
      rcases List.mem_cons.1 hy with rfl | hy
      · omega
      · exact i3 y hy
    · rcases i4 with i4 | ⟨y, hy, i4⟩
      · rcases Nat.lt_or_ge m (fR x) with h | h
        · exact .inr ⟨x, List.mem_cons_self, by omega⟩
        · exact .inl (by omega)
      · exact .inr ⟨y, List.mem_cons_of_mem _ hy, i4⟩

/-- The norm. -/
def nrV (xs : List Nat) : Nat := if bgF 0 xs = 0 ∨ fFin (bgF 0 xs) = false then bgF 0 xs else xV (sV (ssV (eX (bgF 0 xs)) 0 xs)) (eX (bgF 0 xs))

/-- A number lies from 2^Exp on, below twice that. -/
theorem eX_top (a : Nat) (ha : a < 18446744073709551616) (fa : fFin a = true) (a0 : fK a ≠ 0) : p2 (eX a) ≤ ab (fQ a) ∧ ab (fQ a) < p2 (eX a + 1) := by
  obtain ⟨a3, a4⟩ := fin_kind fa
  obtain ⟨z1, z2, z3, z4, z5, z6, z7, z8, z9⟩ := sc_facts a ha fa a0
  have h := xE_top (fD a).natAbs (fX a) z3
  have e := fD_mag a ha fa a0 0
  rw [Int.add_zero, p2_0, Rat.mul_one, ← fQ_ab] at e
  rw [e] at h
  unfold eX
  rw [if_neg (by omega), show (bl (fD a).natAbs : Int) + fX a - 1 + 1 = (bl (fD a).natAbs : Int) + fX a by omega]
  exact h

/-- Numbers that are 0, or from 2^-K on, below 2^K. -/
def TameV (K : Int) (xs : List Nat) : Prop := ∀ x ∈ xs, x < 18446744073709551616 ∧ fFin x = true ∧ (fK x = 0 ∨ (-K ≤ eX x ∧ eX x < K))

/-- The greatest number of tame ones, and what its power makes of the others. -/
theorem tame_big (K : Int) (xs : List Nat) (h : TameV K xs) (h0 : bgF 0 xs ≠ 0) :
    bgF 0 xs < 9218868437227405312 ∧ fFin (bgF 0 xs) = true ∧ fK (bgF 0 xs) ≠ 0 ∧ fS (bgF 0 xs) = false ∧ -K ≤ eX (bgF 0 xs) ∧ eX (bgF 0 xs) < K ∧
    (∀ x ∈ xs, ab (fQ x) ≤ fQ (bgF 0 xs)) ∧ (∀ x ∈ xs, ab (dQ (eX (bgF 0 xs)) x) ≤ 2) ∧ (∃ x ∈ xs, ab (fQ x) = fQ (bgF 0 xs) ∧ 1 ≤ dQ (eX (bgF 0 xs)) x * dQ (eX (bgF 0 xs)) x) := by
  obtain ⟨g1, g2, g3, g4⟩ := bgF_fin xs 0 (by decide) (fun x hx => (h x hx).2.1)
  generalize hM : bgF 0 xs = M at *
  obtain ⟨a1, a2, a3⟩ := mag_fZ M (by omega)
  have fM : fFin M = true := (fK_rungs M).2.2.2 (by rw [a2]; exact g1)
  have kM : fK M ≠ 0 := fun e => h0 (by have := (fK_zero M).1 e; omega)
  have q0 := fQ_pos M a3
  have qM : fQ M = (rv M : Rat) * p2 (-1074) := by rw [fQ_sign, a3, a2]; rfl
  obtain ⟨t1, t2⟩ := eX_top M (by omega) fM kM
  rw [ab_pos q0] at t1 t2
  have hall : ∀ x ∈ xs, ab (fQ x) ≤ fQ M := fun x hx => by
    rw [fQ_ab, qM]
    have h1 : (rv (fR x) : Rat) ≤ (rv M : Rat) := Rat.natCast_le_natCast.2 (rv_mono (g3 x hx))
    have := Rat.mul_le_mul_of_nonneg_left h1 (Rat.le_of_lt (p2_pos (-1074)))
    grind
  obtain ⟨y, hy, hy2⟩ : ∃ x ∈ xs, fR x = M := by
    rcases g4 with g4 | g4
    · exact absurd g4 h0
    · exact g4
  clear g4
  have ey : ab (fQ y) = fQ M := by rw [fQ_ab, qM, hy2]
  have hp := p2_pos (-eX M)
  have hpp : p2 (-eX M) * p2 (eX M) = 1 := p2_neg _
  rw [p2_succ] at t2
  have u1 := Rat.mul_le_mul_of_nonneg_left t1 (Rat.le_of_lt hp)
  have u2 := Rat.mul_lt_mul_of_pos_left t2 hp
  have hd : ∀ x, ab (dQ (eX M) x) = ab (fQ x) * p2 (-eX M) := fun x => by
    unfold dQ; rw [ab_mul, ab_pos (Rat.le_of_lt hp)]
  refine ⟨g1, fM, kM, a3, ?_, ?_, hall, ?_, y, hy, ey, ?_⟩
  · obtain ⟨b1, b2, b3⟩ := h y hy
    rcases b3 with b3 | b3
    · exact absurd ((fK_zero y).1 b3) (by omega)
    · have k0 : fK y ≠ 0 := fun e => by have := (fK_zero y).1 e; omega
      have := eX_top y b1 b2 k0
      rw [ey] at this
      have : p2 (eX y) < p2 (eX M + 1) := by rw [p2_succ]; grind
      have := lt_of_p2 this
      omega
  · obtain ⟨b1, b2, b3⟩ := h y hy
    rcases b3 with b3 | b3
    · exact absurd ((fK_zero y).1 b3) (by omega)
    · have k0 : fK y ≠ 0 := fun e => by have := (fK_zero y).1 e; omega
      have := eX_top y b1 b2 k0
      rw [ey] at this
      have : p2 (eX M) < p2 (eX y + 1) := by grind
      have := lt_of_p2 this
      omega
  · intro x hx
    rw [hd]
    have := Rat.mul_le_mul_of_nonneg_left (hall x hx) (Rat.le_of_lt hp)
    grind
  · have e1 : 1 ≤ ab (dQ (eX M) y) := by rw [hd, ey]; grind
    have e2 : dQ (eX M) y * dQ (eX M) y = ab (dQ (eX M) y) * ab (dQ (eX M) y) := by
      rw [← ab_mul]; exact (ab_pos (sq_nonneg _)).symm
    rw [e2]
    have := Rat.mul_nonneg (show 0 ≤ ab (dQ (eX M) y) - 1 by grind) (show 0 ≤ ab (dQ (eX M) y) - 1 by grind)
    grind

/-- The exact sum of squares. -/
def sumQ : List Nat → Rat
  | [] => 0
  | x :: xs => fQ x * fQ x + sumQ xs
theorem sqQ_sum (k : Int) (xs : List Nat) : sqQ k xs * (p2 k * p2 k) = sumQ xs := by
  have hp := p2_neg k
  induction xs with
  | nil => exact Rat.zero_mul _
  | cons x xs ih =>
    have e : dQ k x * dQ k x * (p2 k * p2 k) = fQ x * fQ x := by
      unfold dQ
      rw [show fQ x * p2 (-k) * (fQ x * p2 (-k)) * (p2 k * p2 k) = fQ x * fQ x * ((p2 (-k) * p2 k) * (p2 (-k) * p2 k)) by grind, hp]
      grind
    unfold sqQ sumQ
    rw [Rat.add_mul, e, ih]
theorem sqQ_mem (k : Int) : ∀ (xs : List Nat) (x : Nat), x ∈ xs → dQ k x * dQ k x ≤ sqQ k xs := by
  intro xs
  induction xs with
  | nil => intro x hx; cases hx
  | cons y ys ih =>
    intro x hx
    have q0 := sqQ_0 k ys
    have q1 := sq_nonneg (dQ k y)
    have e : sqQ k (y :: ys) = dQ k y * dQ k y + sqQ k ys := rfl
    rw [e]
    rcases List.mem_cons.1 hx with rfl | hx
    · grind
    · have := ih x hx
      grind
theorem sqQ_le (k : Int) : ∀ (xs : List Nat), (∀ x ∈ xs, ab (dQ k x) ≤ 2) → sqQ k xs ≤ 4 * (xs.length : Rat) := by
  intro xs
  induction xs with
  | nil =>
    intro _
    have e : sqQ k [] = 0 := rfl
    have e3 : (([] : List Nat).length : Rat) = 0 := rfl
    rw [e, e3]
    grind
  | cons y ys ih =>
    intro h
    have h1 := ih (fun x hx => h x (List.mem_cons_of_mem _ hx))
    have h2 := h y List.mem_cons_self
    have l := le_ab (dQ k y)
    have m := Rat.mul_nonneg (show 0 ≤ 2 - dQ k y by grind) (show 0 ≤ 2 + dQ k y by grind)
    have e : sqQ k (y :: ys) = dQ k y * dQ k y + sqQ k ys := rfl
    have e3 : ((y :: ys).length : Rat) = (ys.length : Rat) + 1 := by rw [List.length_cons, Rat.natCast_add]; rfl
    rw [e, e3]
    grind
theorem bg_0 (xs : List Nat) (h : ∀ x ∈ xs, fFin x = true) (h0 : bgF 0 xs = 0) : ∀ x ∈ xs, fQ x = 0 := by
  obtain ⟨g1, g2, g3, g4⟩ := bgF_fin xs 0 (by decide) h
  intro x hx
  have := g3 x hx
  exact fQ_nought x ((fK_zero x).2 (by omega))
/-- The norm of tame numbers, their power of two taken out. -/
theorem norm_parts (K : Int) (hK : K ≤ 900) (xs : List Nat) (hl : xs.length ≤ 64) (h : TameV K xs) (h0 : bgF 0 xs ≠ 0) :
    let k := eX (bgF 0 xs); let s := ssV k 0 xs
    nrV xs = xV (sV s) k ∧ fFin s = true ∧ fS s = false ∧ fK s ≠ 0 ∧ 1 ≤ sqQ k xs ∧ 9007199254740992 * ab (fQ s - sqQ k xs) ≤ 130 * sqQ k xs ∧
    fFin (sV s) = true ∧ sV s < 18446744073709551616 ∧ fS (sV s) = false ∧ 1 ≤ 2 * fQ (sV s) ∧ fQ (sV s) ≤ 17 ∧ fFin (nrV xs) = true ∧ fS (nrV xs) = false ∧ fQ (nrV xs) = fQ (sV s) * p2 k := by
  intro k s
  obtain ⟨b1, b2, b3, b4, b5, b6, b7, b8, y, hy, b9, b10⟩ := tame_big K xs h h0
  have hn : nrV xs = xV (sV s) k := by
    unfold nrV
    rw [if_neg (by rw [b2]; simp [h0])]
  have T1 : 1 ≤ sqQ k xs := by have := sqQ_mem k xs y hy; grind
  have hl2 : (xs.length : Rat) ≤ 64 := Rat.natCast_le_natCast.2 hl
  have T2 : sqQ k xs ≤ 256 := by have := sqQ_le k xs b8; grind
  have hlG := Rat.mul_nonneg (show 0 ≤ 64 - (xs.length : Rat) by grind) (show 0 ≤ sqQ k xs by grind)
  have z0 : fQ 0 = 0 := fQ_nought 0 (by decide)
  obtain ⟨e1, e2, e3⟩ := ss_err k (sqQ k xs) T1 T2 xs 0 0 0 (fun x hx => ⟨(h x hx).1, (h x hx).2.1, b8 x hx⟩) (by decide) (by decide) (by grind) (by grind) (by rw [z0]; unfold ab; grind)
  have e4 : 9007199254740992 * ab (fQ s - sqQ k xs) ≤ 130 * sqQ k xs := by
    have : (0 : Rat) + sqQ k xs = sqQ k xs := Rat.zero_add _
    rw [this] at e3
    grind
  have l := le_ab (fQ s - sqQ k xs)
  have s1 : 1 ≤ 2 * fQ s := by grind
  have k0 : fK s ≠ 0 := fun e => by
    have := fQ_nought s e
    grind
  obtain ⟨r1, r2, r3, r4, r5, r6, r7⟩ := sqrt_err s e1 k0 e2
  have r8 : 1 ≤ 2 * fQ (sV s) := by
    rcases Rat.le_total (a := 1) (b := 2 * fQ (sV s)) with g | g
    · exact g
    · have := Rat.mul_nonneg (show 0 ≤ 1 - 2 * fQ (sV s) by grind) (show 0 ≤ 1 + 2 * fQ (sV s) by grind)
      grind
  have r9 : fQ (sV s) ≤ 17 := by
    rcases Rat.le_total (a := fQ (sV s)) (b := 17) with g | g
    · exact g
    · have := Rat.mul_nonneg (show 0 ≤ fQ (sV s) - 17 by grind) (show 0 ≤ fQ (sV s) + 17 by grind)
      grind
  have hpk := p2_pos k
  have x1 : ab (fQ (sV s)) * p2 k < p2 1023 := by
    rw [ab_pos r5]
    have m1 := Rat.mul_le_mul_of_nonneg_left r9 (Rat.le_of_lt hpk)
    have m2 := p2_mono (show k + 1 + 1 + 1 + 1 + 1 ≤ 1023 by omega)
    simp only [p2_succ] at m2
    grind
  have x2 : p2 (-1022) ≤ ab (fQ (sV s)) * p2 k := by
    rw [ab_pos r5]
    have m1 := Rat.mul_le_mul_of_nonneg_left r8 (Rat.le_of_lt hpk)
    have m2 := p2_mono (show -1022 + 1 ≤ k by omega)
    rw [p2_succ] at m2
    grind
  obtain ⟨y1, y2⟩ := scale_exact (sV s) k r3 r1 x1 x2
  refine ⟨hn, e1, e2, k0, T1, e4, r1, r3, r2, r8, r9, by rw [hn]; exact y1, ?_, by rw [hn]; exact y2⟩
  have q0 : fK (sV s) ≠ 0 := fun e => by
    have := fQ_nought (sV s) e
    grind
  rw [hn, xV_fin _ _ r1 q0]
  have hle := rnd_le (fD (sV s)).natAbs (fX (sV s) + k)
  rw [fS_wrd _ _ (by omega)]
  exact r2

end Go.Proofs.YtimejpbmehegeaaGreatDoor

/- Quotients of numbers, as rational ones: how far they err. Ahead of stage 12. -/
namespace Go.Proofs.YtimejpbmehegeaaGreatDoor
open Go.RowKit

theorem stk_err (N d : Nat) (hd : 0 < d) : stk N d * d ≤ 2 * N + d ∧ 2 * N ≤ stk N d * d + d := by
  have h1 := Nat.div_add_mod N d
  have h2 := Nat.mod_lt N hd
  unfold stk
  split
  · have e : (2 * (N / d) + 0) * d = 2 * (d * (N / d)) := by rw [Nat.add_zero, Nat.mul_assoc, Nat.mul_comm d]
    rw [e]
    generalize d * (N / d) = Q at *
    omega
  · have e : (2 * (N / d) + 1) * d = 2 * (d * (N / d)) + d := by rw [Nat.add_mul, Nat.mul_assoc, Nat.one_mul, Nat.mul_comm d]
    rw [e]
    generalize d * (N / d) = Q at *
    omega

/-- What is rounded to the quotient, times the divisor, is the number, but for a part in 2^128. -/
theorem quo_near (a b : Nat) (ha : a < 18446744073709551616) (hb : b < 18446744073709551616) (fa : fFin a = true) (fb : fFin b = true) (a0 : fK a ≠ 0) (b0 : fK b ≠ 0) :
    340282366920938463463374607431768211456 * (xE (qS a b) (fX a - fX b - 181) * ab (fQ b)) ≤ 340282366920938463463374607431768211456 * ab (fQ a) + ab (fQ a) ∧
    340282366920938463463374607431768211456 * ab (fQ a) ≤ 340282366920938463463374607431768211456 * (xE (qS a b) (fX a - fX b - 181) * ab (fQ b)) + ab (fQ a) := by
  obtain ⟨x1, x2, x3, x4, x5, x6, x7, x8, x9⟩ := sc_facts a ha fa a0
  obtain ⟨y1, y2, y3, y4, y5, y6, y7, y8, y9⟩ := sc_facts b hb fb b0
  have eA : ab (fQ a) = (((fD a).natAbs * 2 ^ 180 : Nat) : Rat) * (2 * p2 (fX a - 181)) := by
    have e := fD_mag a ha fa a0 0
    rw [Int.add_zero, p2_0, Rat.mul_one, ← fQ_ab] at e
    rw [← e]
    unfold xE
    rw [Rat.natCast_mul, ← p2_nat, show fX a = ((180 : Nat) : Int) + (fX a - 181 + 1) by omega, p2_add, p2_succ, show ((180 : Nat) : Int) + (fX a - 181 + 1) - 181 = fX a - 181 by omega]
    grind
  have eB : ab (fQ b) = ((fD b).natAbs : Rat) * p2 (fX b) := by
    have e := fD_mag b hb fb b0 0
    rw [Int.add_zero, p2_0, Rat.mul_one, ← fQ_ab] at e
    exact e.symm
  have eX : xE (qS a b) (fX a - fX b - 181) * ab (fQ b) = ((qS a b * (fD b).natAbs : Nat) : Rat) * p2 (fX a - 181) := by
    rw [eB]
    unfold xE
    rw [Rat.natCast_mul, show fX a - 181 = (fX a - fX b - 181) + fX b by omega, p2_add]
    grind
  obtain ⟨s1, s2⟩ := stk_err ((fD a).natAbs * 2 ^ 180) (fD b).natAbs (by omega)
  have hP := p2_pos (fX a - 181)
  have hd : 340282366920938463463374607431768211456 * (fD b).natAbs ≤ 2 * ((fD a).natAbs * 2 ^ 180) := by
    have h1 : 2 ^ 181 ≤ (fD a).natAbs * 2 ^ 181 := Nat.le_mul_of_pos_left _ (by omega)
    have e1 : (2 : Nat) ^ 181 = 340282366920938463463374607431768211456 * 9007199254740992 := by decide
    have e2 : (2 : Nat) ^ 181 = 2 ^ 180 * 2 := by decide
    have h2 : 340282366920938463463374607431768211456 * (fD b).natAbs ≤ 340282366920938463463374607431768211456 * 9007199254740992 := Nat.mul_le_mul_left _ (by omega)
    rw [← e1] at h2
    rw [e2, ← Nat.mul_assoc] at h1
    omega
  have hq : qS a b = stk ((fD a).natAbs * 2 ^ 180) (fD b).natAbs := rfl
  rw [← hq] at s1 s2
  rw [eX, eA]
  generalize (fD a).natAbs * 2 ^ 180 = N at *
  generalize qS a b * (fD b).natAbs = Z at *
  have g1 : 340282366920938463463374607431768211456 * Z ≤ 340282366920938463463374607431768211456 * (2 * N) + 2 * N := by omega
  have g2 : 340282366920938463463374607431768211456 * (2 * N) ≤ 340282366920938463463374607431768211456 * Z + 2 * N := by omega
  have c1 := Rat.mul_le_mul_of_nonneg_left (Rat.natCast_le_natCast.2 g1) (Rat.le_of_lt hP)
  have c2 := Rat.mul_le_mul_of_nonneg_left (Rat.natCast_le_natCast.2 g2) (Rat.le_of_lt hP)
  rw [Rat.natCast_add, Rat.natCast_mul 340282366920938463463374607431768211456, Rat.natCast_mul 340282366920938463463374607431768211456, Rat.natCast_mul 2] at c1 c2
  have k1 : ((340282366920938463463374607431768211456 : Nat) : Rat) = 340282366920938463463374607431768211456 := rfl
  have k2 : ((2 : Nat) : Rat) = 2 := rfl
  rw [k1, k2] at c1 c2
  constructor <;> grind

/-- The quotient, times the divisor, errs by a part in 2^53 (and one in 2^123), or by half of the least number times the divisor (and a part in 2^127). -/
theorem div_err (a b : Nat) (ha : a < 18446744073709551616) (hb : b < 18446744073709551616) (fa : fFin a = true) (fb : fFin b = true) (a0 : fK a ≠ 0) (b0 : fK b ≠ 0) (hf : fFin (dV a b) = true) :
    10633823966279326983230456482242756608 * ab (fQ (dV a b) * fQ b - fQ a) ≤ 1180591620717411303425 * ab (fQ a) ∨
    (fR (dV a b) ≤ 4503599627370496 ∧ 170141183460469231731687303715884105728 * ab (fQ (dV a b) * fQ b - fQ a) ≤ 170141183460469231731687303715884105728 * (p2 (-1075) * ab (fQ b)) + ab (fQ a)) := by
  have hr := fR_fin _ hf
  have hd := (dV_fin a b fa fb a0 b0).1
  have hle : qV a b ≤ 9218868437227405312 := rnd_le _ _
  have hR : fR (dV a b) = qV a b := by rw [hd, fR_wrd _ _ (by omega)]
  have hS : fS (dV a b) = (fS a ^^ fS b) := by rw [hd, fS_wrd _ _ (by omega)]
  rw [hR] at hr
  have e := rnd_err (qS a b) (fX a - fX b - 181) hr
  obtain ⟨q1, q2⟩ := quo_near a b ha hb fa fb a0 b0
  have hx0 : 0 ≤ xE (qS a b) (fX a - fX b - 181) := Rat.mul_nonneg Rat.natCast_nonneg (Rat.le_of_lt (p2_pos _))
  have hy : (rv (qV a b) : Rat) * p2 (-1074) = yE (qS a b) (fX a - fX b - 181) := rfl
  have h74 : p2 (-1074) = 2 * p2 (-1075) := by rw [show (-1074 : Int) = -1075 + 1 by rfl, p2_succ]
  have hp := p2_pos (-1075)
  have n0 := mag_0 (fR a); have n1 := mag_0 (fR b)
  rw [fQ_ab, fQ_ab] at *
  rw [fQ_sign (dV a b), hS, hR, hy, fQ_sign a, fQ_sign b]
  generalize (rv (fR a) : Rat) * p2 (-1074) = A at *
  generalize (rv (fR b) : Rat) * p2 (-1074) = B at *
  generalize yE (qS a b) (fX a - fX b - 181) = Y at *
  generalize xE (qS a b) (fX a - fX b - 181) = X at *
  rw [h74] at e
  generalize p2 (-1075) = η at *
  have main : 10633823966279326983230456482242756608 * ab (Y * B - A) ≤ 1180591620717411303425 * A ∨ (qV a b ≤ 4503599627370496 ∧ 170141183460469231731687303715884105728 * ab (Y * B - A) ≤ 170141183460469231731687303715884105728 * (η * B) + A) := by
    rcases e with ⟨e1, e2⟩ | ⟨e1, e2, e3, e4⟩
    · refine .inl ?_
      have c1 := Rat.mul_le_mul_of_nonneg_left e1 n1
      have c2 := Rat.mul_le_mul_of_nonneg_left e2 n1
      unfold ab
      grind
    · refine .inr ⟨e1, ?_⟩
      have c1 := Rat.mul_le_mul_of_nonneg_left e3 n1
      have c2 := Rat.mul_le_mul_of_nonneg_left e4 n1
      unfold ab
      grind
  have k2 : ab (Y * B - A) = ab (A - Y * B) := ab_sub _ _
  cases fS a <;> cases fS b <;> simp only [Bool.xor_false, Bool.xor_true, Bool.not_true, Bool.not_false, Bool.false_eq_true, if_true, if_false]
  · exact main
  · rw [show -Y * -B - A = Y * B - A by grind]; exact main
  · rw [show -Y * B - -A = A - Y * B by grind, ← k2]; exact main
  · rw [show Y * -B - -A = A - Y * B by grind, ← k2]; exact main

end Go.Proofs.YtimejpbmehegeaaGreatDoor

/- Plane turns: c, s, r; c c + s s is 1, c f + s g is r, c g - s f is 0, but for some parts in 2^53. Ahead of stage 12. -/
namespace Go.Proofs.YtimejpbmehegeaaGreatDoor
open Go.RowKit

theorem eta_p2 (e : Int) (h : -975 ≤ e) : 1267650600228229401496703205376 * p2 (-1075) ≤ p2 e := by
  have h1 := p2_mono h
  have h2 : p2 (-975) = 1267650600228229401496703205376 * p2 (-1075) := by
    rw [show (-975 : Int) = ((100 : Nat) : Int) + -1075 by rfl, p2_add, p2_nat]
    rfl
  rw [← h2]
  exact h1

/-- Of a finite number that is not too small a product is right but for a part in 2^53 and half of the least number. -/
theorem mul_err2 (a b : Nat) (fa : fFin a = true) (fb : fFin b = true) (h : ab (fQ a * fQ b) < p2 1023) :
    fFin (mV a b) = true ∧ 9007199254740992 * ab (fQ (mV a b) - fQ a * fQ b) ≤ ab (fQ a * fQ b) + 9007199254740992 * p2 (-1075) := by
  have hf := mul_fin a b fa fb h
  have h74 : p2 (-1074) = 2 * p2 (-1075) := by rw [show (-1074 : Int) = -1075 + 1 by rfl, p2_succ]
  have hp := p2_pos (-1075)
  have h0 := ab_0 (fQ a * fQ b)
  refine ⟨hf, ?_⟩
  rcases mul_err a b fa fb hf with e | e
  · grind
  · have := e.2
    rw [h74] at this
    grind

/-- The quotient is finite, if it is not too great. -/
theorem div_fin (a b : Nat) (ha : a < 18446744073709551616) (hb : b < 18446744073709551616) (fa : fFin a = true) (fb : fFin b = true) (a0 : fK a ≠ 0) (b0 : fK b ≠ 0) (h : ab (fQ a) ≤ 1024 * ab (fQ b)) : fFin (dV a b) = true := by
  obtain ⟨q1, q2⟩ := quo_near a b ha hb fa fb a0 b0
  have hb1 := eX_top b hb fb b0
  have hbp := p2_pos (eX b)
  have hx0 : 0 ≤ xE (qS a b) (fX a - fX b - 181) := Rat.mul_nonneg Rat.natCast_nonneg (Rat.le_of_lt (p2_pos _))
  have hlt : xE (qS a b) (fX a - fX b - 181) < p2 1023 := by
    have hB : (2048 : Rat) ≤ p2 1023 := by
      have h := p2_mono (show (11 : Int) ≤ 1023 by decide)
      have h3 : p2 11 = 2048 := by rw [show (11 : Int) = ((11 : Nat) : Int) by rfl, p2_nat]; rfl
      grind
    generalize xE (qS a b) (fX a - fX b - 181) = X at *
    rcases Rat.le_total (a := 2048) (b := X) with g | g
    · exfalso
      have hm := Rat.mul_le_mul_of_nonneg_left g (show 0 ≤ ab (fQ b) by grind)
      have := ab_0 (fQ a)
      generalize ab (fQ a) = A at *
      have hc : ab (fQ b) * X = X * ab (fQ b) := Rat.mul_comm _ _
      rw [hc] at hm
      generalize X * ab (fQ b) = XB at *
      grind
    · rcases Rat.le_total (a := X) (b := 2047) with g2 | g2
      · grind
      · exfalso
        have hm := Rat.mul_le_mul_of_nonneg_left g2 (show 0 ≤ ab (fQ b) by grind)
        have := ab_0 (fQ a)
        generalize ab (fQ a) = A at *
        have hc : ab (fQ b) * X = X * ab (fQ b) := Rat.mul_comm _ _
        rw [hc] at hm
        generalize X * ab (fQ b) = XB at *
        grind
  have := rnd_finite _ _ hlt
  have hle : qV a b ≤ 9218868437227405312 := rnd_le _ _
  exact (fK_rungs _).2.2.2 (by rw [(dV_fin a b fa fb a0 b0).1, fR_wrd _ _ (by omega)]; exact this)

/-- Of numbers of tame sizes the quotient is right but for two parts in 2^53. -/
theorem div_err2 (a b : Nat) (ha : a < 18446744073709551616) (hb : b < 18446744073709551616) (fa : fFin a = true) (fb : fFin b = true) (a0 : fK a ≠ 0) (b0 : fK b ≠ 0) (h : ab (fQ a) ≤ 1024 * ab (fQ b))
    (hs : 1267650600228229401496703205376 * (p2 (-1075) * ab (fQ b)) ≤ ab (fQ a)) :
    fFin (dV a b) = true ∧ 9007199254740992 * ab (fQ (dV a b) * fQ b - fQ a) ≤ 2 * ab (fQ a) := by
  have hf := div_fin a b ha hb fa fb a0 b0 h
  refine ⟨hf, ?_⟩
  have h0 := ab_0 (fQ a)
  have h1 := ab_0 (fQ (dV a b) * fQ b - fQ a)
  rcases div_err a b ha hb fa fb a0 b0 hf with e | e
  · grind
  · have := e.2
    generalize p2 (-1075) * ab (fQ b) = z at *
    grind

end Go.Proofs.YtimejpbmehegeaaGreatDoor

/- Sums of products, in order: how far they err. Ahead of stages 13 and on. -/
namespace Go.Proofs.YtimejpbmehegeaaGreatDoor
open Go.RowKit

/-- The sum of products, in order; the exact one; that of sizes. -/
def dtV : Nat → List Nat → List Nat → Nat
  | s, x :: xs, y :: ys => dtV (aV s (mV x y)) xs ys
  | s, _, _ => s
def dtQ : List Nat → List Nat → Rat
  | x :: xs, y :: ys => fQ x * fQ y + dtQ xs ys
  | _, _ => 0
def daQ : List Nat → List Nat → Rat
  | x :: xs, y :: ys => ab (fQ x * fQ y) + daQ xs ys
  | _, _ => 0
theorem daQ_0 : ∀ (xs ys : List Nat), 0 ≤ daQ xs ys := by
  intro xs
  induction xs with
  | nil => intro ys; exact Rat.le_refl
  | cons x xs ih =>
    intro ys
    cases ys with
    | nil => exact Rat.le_refl
    | cons y ys =>
      have h1 := ih ys
      have h2 := ab_0 (fQ x * fQ y)
      show 0 ≤ ab (fQ x * fQ y) + daQ xs ys
      grind
theorem dtQ_le : ∀ (xs ys : List Nat), ab (dtQ xs ys) ≤ daQ xs ys := by
  intro xs
  induction xs with
  | nil => intro ys; show ab 0 ≤ 0; unfold ab; grind
  | cons x xs ih =>
    intro ys
    cases ys with
    | nil => show ab 0 ≤ 0; unfold ab; grind
    | cons y ys =>
      have h1 := ih ys
      have h2 := ab_add (fQ x * fQ y) (dtQ xs ys)
      show ab (fQ x * fQ y + dtQ xs ys) ≤ ab (fQ x * fQ y) + daQ xs ys
      grind

/-- A step: one product more. W: all sizes together, and what the least numbers lack. -/
theorem dot_step (s x y : Nat) (T W H : Rat) (fs : fFin s = true) (fx : fFin x = true) (fy : fFin y = true) (hW0 : 0 ≤ W) (hW : W ≤ p2 1000) (hη : 9007199254740992 * (4 * p2 (-1075)) ≤ W)
    (hT : ab T + ab (fQ x * fQ y) ≤ W) (hH : H ≤ 192 * W) (he : 9007199254740992 * ab (fQ s - T) ≤ H) :
    fFin (aV s (mV x y)) = true ∧ 9007199254740992 * ab (fQ (aV s (mV x y)) - (T + fQ x * fQ y)) ≤ H + 3 * W := by
  have T0 := ab_0 T; have xy0 := ab_0 (fQ x * fQ y)
  have hB : 16 * p2 1000 ≤ p2 1023 ∧ 0 < p2 1000 := by
    have h1 := p2_mono (show (1000 + 1 + 1 + 1 + 1 : Int) ≤ 1023 by decide)
    simp only [p2_succ] at h1
    exact ⟨by grind, p2_pos _⟩
  obtain ⟨B1, B2⟩ := hB
  obtain ⟨n1, n2, n3⟩ := eta_small
  obtain ⟨f1, e1⟩ := mul_err2 x y fx fy (by grind)
  have l1 := le_ab (fQ (mV x y) - fQ x * fQ y); have l2 := le_ab (fQ s - T); have l3 := le_ab T; have l4 := le_ab (fQ x * fQ y)
  have tt := ab_le (x := fQ s + fQ (mV x y)) (y := ab (fQ s - T) + ab (fQ (mV x y) - fQ x * fQ y) + ab T + ab (fQ x * fQ y)) (by grind) (by grind)
  have fa := add_fin _ _ fs f1 (by grind)
  have ea := add_err _ _ fs f1 fa
  refine ⟨fa, ?_⟩
  have l5 := le_ab (fQ (aV s (mV x y)) - (fQ s + fQ (mV x y)))
  have ll := ab_le (x := fQ (aV s (mV x y)) - (T + fQ x * fQ y)) (y := ab (fQ (aV s (mV x y)) - (fQ s + fQ (mV x y))) + ab (fQ (mV x y) - fQ x * fQ y) + ab (fQ s - T)) (by grind) (by grind)
  clear l1 l2 l3 l4 l5
  generalize ab (fQ (aV s (mV x y)) - (T + fQ x * fQ y)) = z0 at *
  generalize ab (fQ (aV s (mV x y)) - (fQ s + fQ (mV x y))) = z1 at *
  generalize ab (fQ (mV x y) - fQ x * fQ y) = z2 at *
  generalize ab (fQ s - T) = z3 at *
  generalize ab (fQ s + fQ (mV x y)) = z4 at *
  generalize ab (fQ x * fQ y) = z5 at *
  generalize ab T = z6 at *
  generalize p2 (-1075) = η at *
  grind

/-- The sum of products errs by three parts in 2^53 of all sizes together, each. -/
theorem dot_err (W : Rat) (hW0 : 0 ≤ W) (hW : W ≤ p2 1000) (hη : 9007199254740992 * (4 * p2 (-1075)) ≤ W) : ∀ (xs ys : List Nat) (s : Nat) (T H : Rat), (∀ x ∈ xs, fFin x = true) → (∀ y ∈ ys, fFin y = true) → fFin s = true →
    ab T + daQ xs ys ≤ W → H + 3 * ((xs.length : Rat) * W) ≤ 192 * W → 9007199254740992 * ab (fQ s - T) ≤ H →
    fFin (dtV s xs ys) = true ∧ 9007199254740992 * ab (fQ (dtV s xs ys) - (T + dtQ xs ys)) ≤ H + 3 * ((xs.length : Rat) * W) := by
  intro xs
  induction xs with
  | nil =>
    intro ys s T H _ _ fs _ _ he
    have e1 : dtV s [] ys = s := by cases ys <;> rfl
    have e2 : dtQ [] ys = 0 := by cases ys <;> rfl
    have e3 : (([] : List Nat).length : Rat) = 0 := rfl
    rw [e1, e2, e3, Rat.add_zero]
    exact ⟨fs, by grind⟩
  | cons x xs ih =>
    intro ys s T H hx hy fs hT hH he
    have e3 : ((x :: xs).length : Rat) = (xs.length : Rat) + 1 := by rw [List.length_cons, Rat.natCast_add]; rfl
    have l0 : 0 ≤ (xs.length : Rat) * W := Rat.mul_nonneg Rat.natCast_nonneg hW0
    have e4 : ((x :: xs).length : Rat) * W = (xs.length : Rat) * W + W := by rw [e3]; grind
    cases ys with
    | nil =>
      have e1 : dtV s (x :: xs) [] = s := rfl
      have e2 : dtQ (x :: xs) [] = 0 := rfl
      rw [e1, e2, e4, Rat.add_zero]
      exact ⟨fs, by grind⟩
    | cons y ys =>
      have e1 : dtV s (x :: xs) (y :: ys) = dtV (aV s (mV x y)) xs ys := rfl
      have e2 : dtQ (x :: xs) (y :: ys) = fQ x * fQ y + dtQ xs ys := rfl
      have e5 : daQ (x :: xs) (y :: ys) = ab (fQ x * fQ y) + daQ xs ys := rfl
      have d0 := daQ_0 xs ys
      rw [e5] at hT
      rw [e4] at hH ⊢
      obtain ⟨g1, g2⟩ := dot_step s x y T W H fs (hx x List.mem_cons_self) (hy y List.mem_cons_self) hW0 hW hη (by grind) (by grind) he
      have ht := ab_add T (fQ x * fQ y)
      obtain ⟨i1, i2⟩ := ih ys (aV s (mV x y)) (T + fQ x * fQ y) (H + 3 * W) (fun z hz => hx z (List.mem_cons_of_mem _ hz)) (fun z hz => hy z (List.mem_cons_of_mem _ hz)) g1 (by grind) (by grind) g2
      rw [e1, e2]
      refine ⟨i1, ?_⟩
      rw [show T + (fQ x * fQ y + dtQ xs ys) = T + fQ x * fQ y + dtQ xs ys by grind]
      grind

theorem dot_err0 (W : Rat) (xs ys : List Nat) (hl : xs.length ≤ 64) (hW : W ≤ p2 1000) (hη : 9007199254740992 * (4 * p2 (-1075)) ≤ W) (hx : ∀ x ∈ xs, fFin x = true) (hy : ∀ y ∈ ys, fFin y = true) (hd : daQ xs ys ≤ W) :
    fFin (dtV 0 xs ys) = true ∧ 9007199254740992 * ab (fQ (dtV 0 xs ys) - dtQ xs ys) ≤ 3 * ((xs.length : Rat) * W) := by
  have hp := p2_pos (-1075)
  have hW0 : 0 ≤ W := by grind
  have z0 : fQ 0 = 0 := fQ_nought 0 (by decide)
  have a0 : ab 0 = 0 := by unfold ab; grind
  have hl2 : (xs.length : Rat) ≤ 64 := Rat.natCast_le_natCast.2 hl
  have hlW := Rat.mul_nonneg (show 0 ≤ 64 - (xs.length : Rat) by grind) hW0
  obtain ⟨g1, g2⟩ := dot_err W hW0 hW hη xs ys 0 0 0 hx hy (by decide) (by rw [a0]; grind) (by grind) (by rw [z0, show (0 : Rat) - 0 = 0 by grind, a0]; grind)
  refine ⟨g1, ?_⟩
  rw [Rat.zero_add] at g2
  grind

/-- Sizes together, and squares. -/
def s1Q : List Nat → Rat
  | [] => 0
  | x :: xs => ab (fQ x) + s1Q xs
theorem s1Q_0 (xs : List Nat) : 0 ≤ s1Q xs := by
  induction xs with
  | nil => exact Rat.le_refl
  | cons x xs ih =>
    have := ab_0 (fQ x)
    unfold s1Q
    grind
theorem sumQ_nonneg (xs : List Nat) : 0 ≤ sumQ xs := by
  induction xs with
  | nil => exact Rat.le_refl
  | cons x xs ih =>
    have := sq_nonneg (fQ x)
    unfold sumQ
    grind
/-- The square of all sizes together is at most as many times the sum of squares. -/
theorem s1Q_sq : ∀ (xs : List Nat), s1Q xs * s1Q xs ≤ (xs.length : Rat) * sumQ xs := by
  intro xs
  induction xs with
  | nil =>
    have e1 : s1Q [] = 0 := rfl
    have e3 : (([] : List Nat).length : Rat) = 0 := rfl
    rw [e1, e3]; grind
  | cons x xs ih =>
    have e1 : s1Q (x :: xs) = ab (fQ x) + s1Q xs := rfl
    have e2 : sumQ (x :: xs) = fQ x * fQ x + sumQ xs := rfl
    have e3 : ((x :: xs).length : Rat) = (xs.length : Rat) + 1 := by rw [List.length_cons, Rat.natCast_add]; rfl
    have qx := sq_nonneg (fQ x)
    have ex : ab (fQ x) * ab (fQ x) = fQ x * fQ x := by rw [← ab_mul]; exact ab_pos qx
    have q0 := sumQ_nonneg xs
    have s0 := s1Q_0 xs
    have n0 : (0 : Rat) ≤ (xs.length : Rat) := Rat.natCast_nonneg
    rw [e1, e2, e3]
    by_cases hn : xs.length = 0
    · have hx : xs = [] := List.length_eq_zero_iff.1 hn
      subst hx
      have h1 : s1Q [] = 0 := rfl
      have h2 : sumQ [] = 0 := rfl
      have h3 : (([] : List Nat).length : Rat) = 0 := rfl
      rw [h1, h2, h3]
      grind
    · have n1 : (0 : Rat) < (xs.length : Rat) := Rat.natCast_pos.2 (by omega)
      refine Rat.le_of_mul_le_mul_left (c := (xs.length : Rat)) ?_ n1
      have h := sq_nonneg ((xs.length : Rat) * ab (fQ x) - s1Q xs)
      have h2 := Rat.mul_le_mul_of_nonneg_left ih (show 0 ≤ (xs.length : Rat) + 1 by grind)
      generalize (xs.length : Rat) = N at *
      generalize ab (fQ x) = p at *
      generalize s1Q xs = Y at *
      generalize sumQ xs = Q at *
      rw [← ex]
      clear ex qx
      grind

end Go.Proofs.YtimejpbmehegeaaGreatDoor

/- Mirrors: tau, v; tau times v's square is 2, but for some hundred parts in 2^53. Ahead of stage 13. -/
namespace Go.Proofs.YtimejpbmehegeaaGreatDoor
open Go.RowKit

/-- The norm's square errs by at most 135 parts in 2^53. -/
theorem norm_right2 (K : Int) (hK : K ≤ 900) (xs : List Nat) (hl : xs.length ≤ 64) (h : TameV K xs) (h0 : bgF 0 xs ≠ 0) :
    fFin (nrV xs) = true ∧ fS (nrV xs) = false ∧ 0 < fQ (nrV xs) ∧ 9007199254740992 * ab (fQ (nrV xs) * fQ (nrV xs) - sumQ xs) ≤ 135 * sumQ xs := by
  obtain ⟨n1, n2, n3, n4, n5, n6, n7, n8, n9, n10, n11, n12, n13, n14⟩ := norm_parts K hK xs hl h h0
  have hp := p2_pos (eX (bgF 0 xs))
  refine ⟨n12, n13, ?_, ?_⟩
  · rw [n14]
    exact Rat.mul_pos (by grind) hp
  obtain ⟨r1, r2, r3, r4, r5, r6, r7⟩ := sqrt_err _ n2 n4 n3
  rw [n14, ← sqQ_sum (eX (bgF 0 xs)) xs]
  generalize fQ (sV (ssV (eX (bgF 0 xs)) 0 xs)) = R at *
  generalize fQ (ssV (eX (bgF 0 xs)) 0 xs) = S at *
  generalize sqQ (eX (bgF 0 xs)) xs = T at *
  have hPP := Rat.mul_pos hp hp
  have e1 : R * p2 (eX (bgF 0 xs)) * (R * p2 (eX (bgF 0 xs))) - T * (p2 (eX (bgF 0 xs)) * p2 (eX (bgF 0 xs))) = (R * R - T) * (p2 (eX (bgF 0 xs)) * p2 (eX (bgF 0 xs))) := by grind
  rw [e1, ab_mul, ab_pos (Rat.le_of_lt hPP)]
  generalize p2 (eX (bgF 0 xs)) * p2 (eX (bgF 0 xs)) = Q at *
  have l := le_ab (S - T)
  have e2 : 9007199254740992 * ab (R * R - T) ≤ 135 * T := by
    generalize R * R = RR at *
    unfold ab
    grind
  have := Rat.mul_le_mul_of_nonneg_left e2 (Rat.le_of_lt hPP)
  grind

/-- Squares of quotients: each x_j / d errs by two parts in 2^53. -/
def quosQ (d : Rat) : List Nat → List Nat → Prop
  | v :: vs, x :: xs => 9007199254740992 * ab (fQ v * d - fQ x) ≤ 2 * ab (fQ x) ∧ quosQ d vs xs
  | [], [] => True
  | _, _ => False
theorem quos_sq (d : Rat) : ∀ (vs xs : List Nat), quosQ d vs xs → 9007199254740992 * ab (sumQ vs * (d * d) - sumQ xs) ≤ 5 * sumQ xs ∧ 9007199254740992 * ab (dtQ vs xs * d - sumQ xs) ≤ 2 * sumQ xs := by
  intro vs
  induction vs with
  | nil =>
    intro xs h
    cases xs with
    | nil =>
      have e1 : sumQ [] = 0 := rfl
      have e2 : dtQ [] [] = 0 := rfl
      rw [e1, e2, Rat.zero_mul, Rat.zero_mul]
      unfold ab
      grind
    | cons x xs => exact absurd h (by unfold quosQ; exact id)
  | cons v vs ih =>
    intro xs h
    cases xs with
    | nil => exact absurd h (by unfold quosQ; exact id)
    | cons x xs =>
      unfold quosQ at h
      obtain ⟨h1, h2⟩ := h
      obtain ⟨i1, i2⟩ := ih xs h2
      have e1 : sumQ (v :: vs) = fQ v * fQ v + sumQ vs := rfl
      have e2 : sumQ (x :: xs) = fQ x * fQ x + sumQ xs := rfl
      have e3 : dtQ (v :: vs) (x :: xs) = fQ v * fQ x + dtQ vs xs := rfl
      rw [e1, e2, e3]
      obtain ⟨z, hz⟩ : ∃ z, fQ v * d = fQ x + z := ⟨fQ v * d - fQ x, by grind⟩
      have k : fQ v * d - fQ x = z := by grind
      rw [k] at h1
      have x0 := ab_0 (fQ x); have z0 := ab_0 z
      have qx := sq_nonneg (fQ x); have qz := sq_nonneg z
      have ex : ab (fQ x) * ab (fQ x) = fQ x * fQ x := by rw [← ab_mul]; exact ab_pos qx
      have ez : ab z * ab z = z * z := by rw [← ab_mul]; exact ab_pos qz
      have p1 := Rat.mul_le_mul_of_nonneg_left h1 x0
      have p2' := Rat.mul_le_mul_of_nonneg_left h1 z0
      have exz : ab (fQ x * z) = ab (fQ x) * ab z := ab_mul _ _
      have v1 : 9007199254740992 * ab (fQ x * z) ≤ 2 * (fQ x * fQ x) := by grind
      have v2 : 9007199254740992 * (z * z) ≤ 2 * ab (fQ x * z) := by grind
      have l1 := le_ab (fQ x * z)
      have w1 : (fQ v * fQ v + sumQ vs) * (d * d) - (fQ x * fQ x + sumQ xs) = 2 * (fQ x * z) + z * z + (sumQ vs * (d * d) - sumQ xs) := by
        have : fQ v * fQ v * (d * d) = (fQ x + z) * (fQ x + z) := by rw [← hz]; grind
        grind
      have w2 : (fQ v * fQ x + dtQ vs xs) * d - (fQ x * fQ x + sumQ xs) = fQ x * z + (dtQ vs xs * d - sumQ xs) := by
        have : fQ v * fQ x * d = (fQ x + z) * fQ x := by rw [← hz]; grind
        grind
      rw [w1, w2]
      have l2 := le_ab (sumQ vs * (d * d) - sumQ xs); have l3 := le_ab (dtQ vs xs * d - sumQ xs)
      clear w1 w2 p1 p2' ex ez exz hz k h1 h2
      generalize sumQ vs * (d * d) - sumQ xs = A at *
      generalize dtQ vs xs * d - sumQ xs = B at *
      generalize fQ x * z = C at *
      generalize z * z = Z at *
      generalize fQ x * fQ x = X at *
      constructor
      · refine Rat.le_trans (Rat.mul_le_mul_of_nonneg_left (ab_le (y := 2 * ab C + Z + ab A) (by grind) (by grind)) (by decide)) ?_
        grind
      · refine Rat.le_trans (Rat.mul_le_mul_of_nonneg_left (ab_le (y := ab C + ab B) (by grind) (by grind)) (by decide)) ?_
        grind

/-- The algebra of a mirror: a the first number, b beta, R the others' squares, g the rounded b - a, t tau. -/
theorem mirror_alg (a b R t g : Rat) (hR : 0 ≤ R) (hb : 0 < ab b) (hs : ab (a - b) = ab a + ab b) (h1 : 9007199254740992 * ab (b * b - (a * a + R)) ≤ 135 * (a * a + R))
    (h3 : 9007199254740992 * ab (g - (b - a)) ≤ ab (b - a)) (h4 : 9007199254740992 * ab (t * b - g) ≤ 2 * ab g) :
    9007199254740992 * ab (t * b + (a - b)) ≤ 4 * ab (a - b) ∧ 4503599627370496 * ab a ≤ 4503599627370496 * ab b + 70 * ab b := by
  obtain ⟨D, hD⟩ : ∃ D, a - b = D := ⟨_, rfl⟩
  have k1 : ab (b - a) = ab D := by rw [← hD]; exact ab_sub _ _
  rw [k1, show b - a = -D by grind] at h3
  rw [hD] at hs ⊢
  have l1 := le_ab (g - -D); have l2 := le_ab (t * b - g); have l3 := le_ab D; have l4 := le_ab g; have D0 := ab_0 D; have a0 := ab_0 a
  constructor
  · have gg := ab_le (x := g) (y := ab (g - -D) + ab D) (by grind) (by grind)
    refine Rat.le_trans (Rat.mul_le_mul_of_nonneg_left (ab_le (y := ab (t * b - g) + ab (g - -D)) (by grind) (by grind)) (by decide)) ?_
    grind
  · have qa := sq_nonneg a; have qb := sq_nonneg b
    have ea : ab a * ab a = a * a := by rw [← ab_mul]; exact ab_pos qa
    have eb : ab b * ab b = b * b := by rw [← ab_mul]; exact ab_pos qb
    have l5 := le_ab (b * b - (a * a + R))
    rcases Rat.le_total (a := 4503599627370496 * ab a) (b := 4503599627370496 * ab b + 70 * ab b) with h | h
    · exact h
    · exfalso
      have m1 := Rat.mul_nonneg (show 0 ≤ 4503599627370496 * ab a - (4503599627370496 * ab b + 70 * ab b) by grind) a0
      have m2 := Rat.mul_nonneg (show 0 ≤ 4503599627370496 * ab a - (4503599627370496 * ab b + 70 * ab b) by grind) (show 0 ≤ ab b by grind)
      have bp := Rat.mul_pos hb hb
      rw [eb] at bp
      generalize ab (b * b - (a * a + R)) = z at *
      grind

theorem ab_mul_le {x y : Rat} (h : ab x ≤ 1) : ab (x * y) ≤ ab y := by
  rw [ab_mul]
  have := Rat.mul_le_mul_of_nonneg_left h (ab_0 y)
  grind

/-- tau times v's square is 2: all beside D = a - b. -/
theorem mirror_two (r ε ρ τ V : Rat) (hr1 : -1 ≤ r) (hr2 : 100 * r ≤ -49) (hε : 9007199254740992 * ab ε ≤ 1) (hρ : 9007199254740992 * ab (ρ + 1 + 2 * r) ≤ 137)
    (hτ : 9007199254740992 * ab (τ * r + 1) ≤ 4) (hV : 9007199254740992 * ab (V * ((1 + ε) * (1 + ε)) - ρ) ≤ 5 * ρ) : 8796093022208 * ab (τ * (1 + V) - 2) ≤ 1 := by
  obtain ⟨θ, hθ⟩ : ∃ θ, τ * r + 1 = θ := ⟨_, rfl⟩
  obtain ⟨φ, hφ⟩ : ∃ φ, V * ((1 + ε) * (1 + ε)) - ρ = φ := ⟨_, rfl⟩
  obtain ⟨ψ, hψ⟩ : ∃ ψ, ρ + 1 + 2 * r = ψ := ⟨_, rfl⟩
  obtain ⟨E, hE⟩ : ∃ E, 2 * ε + ε * ε = E := ⟨_, rfl⟩
  obtain ⟨N, hN⟩ : ∃ N, τ * (1 + V) - 2 = N := ⟨_, rfl⟩
  rw [hθ] at hτ
  rw [hφ] at hV
  rw [hψ] at hρ
  rw [hN]
  have lε := le_ab ε; have lψ := le_ab ψ; have lθ := le_ab θ; have lφ := le_ab φ
  have e1 : 9007199254740992 * ab E ≤ 3 := by
    have h1 := ab_mul_le (x := ε) (y := ε) (by grind)
    have l := le_ab (ε * ε)
    refine Rat.le_trans (Rat.mul_le_mul_of_nonneg_left (ab_le (y := 2 * ab ε + ab (ε * ε)) (by grind) (by grind)) (by decide)) ?_
    grind
  have lE := le_ab E
  have r1 : ab r ≤ 1 := ab_le (by grind) (by grind)
  have b1 := ab_mul_le (y := θ) r1
  have b2 := ab_mul_le (y := E) r1
  have b3 := ab_mul_le (x := θ) (y := ψ + E + φ) (by grind)
  have b4 : ab (ψ + E + φ) ≤ ab ψ + ab E + ab φ := ab_le (by grind) (by grind)
  have c1 := le_ab (r * θ); have c2 := le_ab (r * E); have c3 := le_ab (θ * (ψ + E + φ))
  have key : N * (r * (1 + E)) = -(2 * (r * θ)) + θ * (ψ + E + φ) - ψ - E - φ - 2 * (r * E) := by
    rw [← hN, ← hθ, ← hφ, ← hψ, ← hE]
    grind
  have k2 : 9007199254740992 * ab (N * (r * (1 + E))) ≤ 316 := by
    rw [key]
    refine Rat.le_trans (Rat.mul_le_mul_of_nonneg_left (ab_le (y := 2 * ab (r * θ) + ab (θ * (ψ + E + φ)) + ab ψ + ab E + ab φ + 2 * ab (r * E)) (by grind) (by grind)) (by decide)) ?_
    grind
  rw [ab_mul] at k2
  have d1 : 48 ≤ 100 * ab (r * (1 + E)) := by
    have l := le_ab (r * (1 + E))
    have e2 : r * (1 + E) = r + r * E := by grind
    rw [e2] at l ⊢
    grind
  have N0 := ab_0 N
  have m := Rat.mul_le_mul_of_nonneg_left d1 N0
  have m2 : 48 * ab N ≤ 100 * (ab N * ab (r * (1 + E))) := by
    rw [show 48 * ab N = ab N * 48 by grind, show 100 * (ab N * ab (r * (1 + E))) = ab N * (100 * ab (r * (1 + E))) by grind]
    exact m
  clear m d1 key c1 c2 c3 b1 b2 b3 b4 hN hE hψ hφ hθ
  generalize ab N * ab (r * (1 + E)) = Z at *
  grind

end Go.Proofs.YtimejpbmehegeaaGreatDoor

