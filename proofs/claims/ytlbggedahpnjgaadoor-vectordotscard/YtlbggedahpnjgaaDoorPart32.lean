/- Part 32 of the texts. -/
import Derived.Test.YtlbggedahpnjgaaDoorPart31
import Derived.Test.YtlbggedahpnjgaaDoorPart22
import Derived.Test.YtlbggedahpnjgaaDoorPart28
import Derived.Test.YtlbggedahpnjgaaDoorPart30
/- Sums of squares of numbers whose power of two is taken out: how far they err. Ahead of stage 9. -/
namespace Go.Proofs.YtlbggedahpnjgaaDoor
open Go.RowKit

theorem eta_small : 1267650600228229401496703205376 * p2 (-1075) ≤ 1 ∧ 0 < p2 (-1075) ∧ p2 (-1074) = 2 * p2 (-1075) := by
  refine ⟨?_, p2_pos _, ?_⟩
  · have h1 := p2_mono (show (-1075 : Int) ≤ -100 by decide)
    have h2 := p2_neg 100
    have h3 : p2 100 = 1267650600228229401496703205376 := by rw [show (100 : Int) = ((100 : Nat) : Int) by rfl, p2_nat]; rfl
    rw [h3] at h2
    grind
  · rw [show (-1074 : Int) = -1075 + 1 by rfl, p2_succ]
theorem p2_big : (1024 : Rat) ≤ p2 1023 := by
  have h := p2_mono (show (10 : Int) ≤ 1023 by decide)
  have h3 : p2 10 = 1024 := by rw [show (10 : Int) = ((10 : Nat) : Int) by rfl, p2_nat]; rfl
  grind

theorem fQ_pos (a : Nat) (h : fS a = false) : 0 ≤ fQ a := by
  rw [fQ_sign, h]
  exact mag_0 _

/-- One square more. -/
def sqV (k : Int) (s x : Nat) : Nat := aV s (mV (xV x (-k)) (xV x (-k)))
def dQ (k : Int) (x : Nat) : Rat := fQ x * p2 (-k)

theorem mV_self_sign (t : Nat) (ft : fFin t = true) : fS (mV t t) = false ∧ mV t t < 9223372036854775808 := by
  have hle := rnd_le (rv (fR t) * rv (fR t)) (-2148)
  rw [mV_any t t ft ft, Bool.xor_self, wrd_false]
  exact ⟨decide_eq_false (by omega), by omega⟩

/-- The square of one, its power taken out. -/
theorem sq_one (k : Int) (x : Nat) (hx : x < 18446744073709551616) (fx : fFin x = true) (hd : ab (dQ k x) ≤ 2) :
    fFin (mV (xV x (-k)) (xV x (-k))) = true ∧ fS (mV (xV x (-k)) (xV x (-k))) = false ∧
    9007199254740992 * ab (fQ (mV (xV x (-k)) (xV x (-k))) - dQ k x * dQ k x) ≤ dQ k x * dQ k x + 9007199254740992 * (8 * p2 (-1075)) := by
  obtain ⟨n1, n2, n3⟩ := eta_small
  have hB := p2_big
  have ha : ab (fQ x) * p2 (-k) = ab (dQ k x) := by
    unfold dQ
    rw [ab_mul, ab_pos (Rat.le_of_lt (p2_pos _))]
  have ft := scale_fin x (-k) hx fx (by rw [ha]; grind)
  have ht := scale_err x (-k) hx fx ft
  rw [show fQ x * p2 (-k) = dQ k x from rfl] at ht
  have htl := xV_lt x (-k) hx
  generalize xV x (-k) = t at *
  generalize dQ k x = d at *
  have e1 : ab (fQ t - d) ≤ p2 (-1075) := by
    rcases ht with e | e
    · rw [e]; unfold ab; grind
    · have := e.2.2
      grind
  generalize p2 (-1075) = η at *
  clear ht ha
  obtain ⟨δ, hδ⟩ : ∃ δ, fQ t = d + δ := ⟨fQ t - d, by grind⟩
  rw [hδ] at e1
  have e2 : δ ≤ η ∧ -δ ≤ η := by
    have := le_ab (d + δ - d)
    grind
  have l := le_ab d
  have m1 := Rat.mul_nonneg (show 0 ≤ 2 - d by grind) (show 0 ≤ η - δ by grind)
  have m2 := Rat.mul_nonneg (show 0 ≤ 2 - d by grind) (show 0 ≤ η + δ by grind)
  have m3 := Rat.mul_nonneg (show 0 ≤ 2 + d by grind) (show 0 ≤ η - δ by grind)
  have m4 := Rat.mul_nonneg (show 0 ≤ 2 + d by grind) (show 0 ≤ η + δ by grind)
  have m5 := Rat.mul_nonneg (show 0 ≤ η - δ by grind) (show 0 ≤ η + δ by grind)
  have m6 := sq_nonneg δ
  have m7 := sq_nonneg d
  have m8 := Rat.mul_nonneg (show 0 ≤ η by grind) (show 0 ≤ 1 - η by grind)
  have m9 := Rat.mul_nonneg (show 0 ≤ 2 - d by grind) (show 0 ≤ 2 + d by grind)
  have hsq : fQ t * fQ t = d * d + 2 * (d * δ) + δ * δ := by rw [hδ]; grind
  have hs2 : fQ t * fQ t ≤ d * d + 5 * η ∧ d * d ≤ fQ t * fQ t + 5 * η := by
    rw [hsq]; constructor <;> grind
  have q0 := sq_nonneg (fQ t)
  have fp := mul_fin t t ft ft (by rw [ab_pos q0]; grind)
  refine ⟨fp, (mV_self_sign t ft).1, ?_⟩
  have hm := mul_err t t ft ft fp
  rw [ab_pos q0, n3] at hm
  generalize fQ (mV t t) = P at *
  generalize fQ t * fQ t = Q at *
  rcases hm with e | e
  · have := le_ab (P - Q)
    unfold ab
    grind
  · have := le_ab (P - Q)
    have := e.2
    unfold ab
    grind

/-- One step of the sum of squares. -/
theorem sq_step (k : Int) (s x : Nat) (T H G : Rat) (hx : x < 18446744073709551616) (fx : fFin x = true) (hd : ab (dQ k x) ≤ 2) (fs : fFin s = true) (ss : fS s = false)
    (hT : T + dQ k x * dQ k x ≤ G) (hG1 : 1 ≤ G) (hG2 : G ≤ 256) (hH : H ≤ 64 * G)
    (he : 9007199254740992 * ab (fQ s - T) ≤ 2 * T + 2 * H) :
    fFin (sqV k s x) = true ∧ fS (sqV k s x) = false ∧ 9007199254740992 * ab (fQ (sqV k s x) - (T + dQ k x * dQ k x)) ≤ 2 * (T + dQ k x * dQ k x) + 2 * (H + G) := by
  obtain ⟨fp, sp, ep⟩ := sq_one k x hx fx hd
  obtain ⟨n1, n2, n3⟩ := eta_small
  have hB := p2_big
  unfold sqV
  generalize mV (xV x (-k)) (xV x (-k)) = p at *
  have s0 := fQ_pos s ss
  have p0 := fQ_pos p sp
  have m7 := sq_nonneg (dQ k x)
  generalize dQ k x * dQ k x = D at *
  have l1 := le_ab (fQ s - T)
  have l2 := le_ab (fQ p - D)
  have b0 : ab (fQ s + fQ p) = fQ s + fQ p := ab_pos (by grind)
  have fa := add_fin s p fs fp (by rw [b0]; grind)
  have ea := add_err s p fs fp fa
  rw [b0] at ea
  refine ⟨fa, ?_, ?_⟩
  · have h1 := (aV_fin s p fs fp).2
    have hz : 0 ≤ fZ s ∧ 0 ≤ fZ p := by
      unfold fZ pv; rw [ss, sp]; simp only [Bool.false_eq_true, if_false]; omega
    obtain ⟨c1, c2⟩ := fin_kind fs
    obtain ⟨c3, c4⟩ := fin_kind fp
    rw [(add_f s p c1 c2 c3 c4).1]
    split
    · rw [ss, sp]; decide
    · have hle := rnd_le (aZ s p).natAbs (-1074)
      rw [fS_wrd _ _ (by omega)]
      exact decide_eq_false (by unfold aZ; omega)
  · have l3 := le_ab (fQ (aV s p) - (fQ s + fQ p))
    generalize fQ (aV s p) = Y at *
    generalize fQ s = S at *
    generalize fQ p = P at *
    generalize p2 (-1075) = η at *
    refine Rat.le_trans (Rat.mul_le_mul_of_nonneg_left (ab_le (y := ab (Y - (S + P)) + ab (S - T) + ab (P - D)) (by grind) (by grind)) (by decide)) ?_
    grind

end Go.Proofs.YtlbggedahpnjgaaDoor

/- The greatest number; the norm: right but for a part in 2^44; at least the greatest one but for a part in 2^50. Ahead of stage 9. -/
namespace Go.Proofs.YtlbggedahpnjgaaDoor
open Go.RowKit

/-- The sum of squares, in order; the exact one. -/
def ssV (k : Int) : Nat → List Nat → Nat
  | s, [] => s
  | s, x :: xs => ssV k (sqV k s x) xs
def sqQ (k : Int) : List Nat → Rat
  | [] => 0
  | x :: xs => dQ k x * dQ k x + sqQ k xs
theorem sqQ_0 (k : Int) (xs : List Nat) : 0 ≤ sqQ k xs := by
  induction xs with
  | nil => exact Rat.le_refl
  | cons x xs ih =>
    have := sq_nonneg (dQ k x)
    unfold sqQ
    grind

theorem ss_err (k : Int) (G : Rat) (hG1 : 1 ≤ G) (hG2 : G ≤ 256) : ∀ (xs : List Nat) (s : Nat) (T H : Rat), (∀ x ∈ xs, x < 18446744073709551616 ∧ fFin x = true ∧ ab (dQ k x) ≤ 2) → fFin s = true → fS s = false →
    T + sqQ k xs ≤ G → H + (xs.length : Rat) * G ≤ 64 * G → 9007199254740992 * ab (fQ s - T) ≤ 2 * T + 2 * H →
    fFin (ssV k s xs) = true ∧ fS (ssV k s xs) = false ∧ 9007199254740992 * ab (fQ (ssV k s xs) - (T + sqQ k xs)) ≤ 2 * (T + sqQ k xs) + 2 * (H + (xs.length : Rat) * G) := by
  intro xs
  induction xs with
  | nil =>
    intro s T H _ fs ss _ _ he
    refine ⟨fs, ss, ?_⟩
    have e1 : ssV k s [] = s := rfl
    have e2 : sqQ k [] = 0 := rfl
    have e3 : (([] : List Nat).length : Rat) = 0 := rfl
    rw [e1, e2, e3, Rat.add_zero]
    grind
  | cons x xs ih =>
    intro s T H hx fs ss hT hH he
    obtain ⟨h1, h2, h3⟩ := hx x (List.mem_cons_self)
    have e2 : sqQ k (x :: xs) = dQ k x * dQ k x + sqQ k xs := rfl
    have e3 : ((x :: xs).length : Rat) = (xs.length : Rat) + 1 := by rw [List.length_cons, Rat.natCast_add]; rfl
    have e4 : ((x :: xs).length : Rat) * G = (xs.length : Rat) * G + G := by rw [e3]; grind
    have q0 := sqQ_0 k xs
    have l0 : 0 ≤ (xs.length : Rat) * G := Rat.mul_nonneg Rat.natCast_nonneg (by grind)
    rw [e2] at hT ⊢
    rw [e4] at hH ⊢
    obtain ⟨g1, g2, g3⟩ := sq_step k s x T H G h1 h2 h3 fs ss (by grind) hG1 hG2 (by grind) he
    obtain ⟨i1, i2, i3⟩ := ih (sqV k s x) (T + dQ k x * dQ k x) (H + G) (fun y hy => hx y (List.mem_cons_of_mem _ hy)) g1 g2 (by grind) (by grind) g3
    refine ⟨i1, i2, ?_⟩
    rw [show T + (dQ k x * dQ k x + sqQ k xs) = T + dQ k x * dQ k x + sqQ k xs by grind, show H + ((xs.length : Rat) * G + G) = H + G + (xs.length : Rat) * G by grind]
    exact i3

/-- The greater one of two; the greatest one without signs. -/
def mx (a b : Nat) : Nat := if fK a = 4 ∨ fK b = 4 then 9221120237041090560 else if fZ a < fZ b then b else a
def bgF : Nat → List Nat → Nat
  | m, [] => m
  | m, x :: xs => bgF (mx m (fR x)) xs
theorem mag_fZ (r : Nat) (h : r < 9223372036854775808) : fZ r = (rv r : Int) ∧ fR r = r ∧ fS r = false := by
  have h1 : fR r = r := by unfold fR; omega
  have h2 : fS r = false := decide_eq_false (by omega)
  refine ⟨?_, h1, h2⟩
  unfold fZ pv
  rw [h1, h2]
  rfl
theorem mx_mag (m r : Nat) (hm : m < 9218868437227405312) (hr : r < 9218868437227405312) : mx m r = max m r := by
  obtain ⟨a1, a2, a3⟩ := mag_fZ m (by omega)
  obtain ⟨b1, b2, b3⟩ := mag_fZ r (by omega)
  have k1 := (fin_kind ((fK_rungs m).2.2.2 (by rw [a2]; exact hm))).2
  have k2 := (fin_kind ((fK_rungs r).2.2.2 (by rw [b2]; exact hr))).2
  unfold mx
  rw [if_neg (by omega), a1, b1]
  rcases Nat.lt_or_ge m r with h | h
  · have := rv8_lt h
    rw [if_pos (by omega)]
    omega
  · have := rv_mono h
    rw [if_neg (by omega)]
    omega
theorem bgF_fin : ∀ (xs : List Nat) (m : Nat), m < 9218868437227405312 → (∀ x ∈ xs, fFin x = true) →
    bgF m xs < 9218868437227405312 ∧ m ≤ bgF m xs ∧ (∀ x ∈ xs, fR x ≤ bgF m xs) ∧ (bgF m xs = m ∨ ∃ x ∈ xs, fR x = bgF m xs) := by
  intro xs
  induction xs with
  | nil => intro m hm _; exact ⟨hm, Nat.le_refl _, (fun x hx => (by cases hx)), Or.inl rfl⟩
  | cons x xs ih =>
    intro m hm hx
    have hr := fR_fin x (hx x List.mem_cons_self)
    have e : bgF m (x :: xs) = bgF (max m (fR x)) xs := by
      show bgF (mx m (fR x)) xs = _
      rw [mx_mag m _ hm hr]
    obtain ⟨i1, i2, i3, i4⟩ := ih (max m (fR x)) (by omega) (fun y hy => hx y (List.mem_cons_of_mem _ hy))
    rw [e]
    refine ⟨i1, by omega, ?_, ?_⟩
    · intro y hy
      rcases List.mem_cons.1 hy with rfl | hy
      · omega
      · exact i3 y hy
    · rcases i4 with i4 | ⟨y, hy, i4⟩
      · rcases Nat.lt_or_ge m (fR x) with h | h
        · exact .inr ⟨x, List.mem_cons_self, by omega⟩
        · exact .inl (by omega)
      · exact .inr ⟨y, List.mem_cons_of_mem _ hy, i4⟩

/-- The norm. -/
def nrV (xs : List Nat) : Nat := if bgF 0 xs = 0 ∨ fFin (bgF 0 xs) = false then bgF 0 xs else xV (sV (ssV (eX (bgF 0 xs)) 0 xs)) (eX (bgF 0 xs))

/-- A number lies from 2^Exp on, below twice that. -/
theorem eX_top (a : Nat) (ha : a < 18446744073709551616) (fa : fFin a = true) (a0 : fK a ≠ 0) : p2 (eX a) ≤ ab (fQ a) ∧ ab (fQ a) < p2 (eX a + 1) := by
  obtain ⟨a3, a4⟩ := fin_kind fa
  obtain ⟨z1, z2, z3, z4, z5, z6, z7, z8, z9⟩ := sc_facts a ha fa a0
  have h := xE_top (fD a).natAbs (fX a) z3
  have e := fD_mag a ha fa a0 0
  rw [Int.add_zero, p2_0, Rat.mul_one, ← fQ_ab] at e
  rw [e] at h
  unfold eX
  rw [if_neg (by omega), show (bl (fD a).natAbs : Int) + fX a - 1 + 1 = (bl (fD a).natAbs : Int) + fX a by omega]
  exact h

/-- Numbers that are 0, or from 2^-K on, below 2^K. -/
def TameV (K : Int) (xs : List Nat) : Prop := ∀ x ∈ xs, x < 18446744073709551616 ∧ fFin x = true ∧ (fK x = 0 ∨ (-K ≤ eX x ∧ eX x < K))

/-- The greatest number of tame ones, and what its power makes of the others. -/
theorem tame_big (K : Int) (xs : List Nat) (h : TameV K xs) (h0 : bgF 0 xs ≠ 0) :
    bgF 0 xs < 9218868437227405312 ∧ fFin (bgF 0 xs) = true ∧ fK (bgF 0 xs) ≠ 0 ∧ fS (bgF 0 xs) = false ∧ -K ≤ eX (bgF 0 xs) ∧ eX (bgF 0 xs) < K ∧
    (∀ x ∈ xs, ab (fQ x) ≤ fQ (bgF 0 xs)) ∧ (∀ x ∈ xs, ab (dQ (eX (bgF 0 xs)) x) ≤ 2) ∧ (∃ x ∈ xs, ab (fQ x) = fQ (bgF 0 xs) ∧ 1 ≤ dQ (eX (bgF 0 xs)) x * dQ (eX (bgF 0 xs)) x) := by
  obtain ⟨g1, g2, g3, g4⟩ := bgF_fin xs 0 (by decide) (fun x hx => (h x hx).2.1)
  generalize hM : bgF 0 xs = M at *
  obtain ⟨a1, a2, a3⟩ := mag_fZ M (by omega)
  have fM : fFin M = true := (fK_rungs M).2.2.2 (by rw [a2]; exact g1)
  have kM : fK M ≠ 0 := fun e => h0 (by have := (fK_zero M).1 e; omega)
  have q0 := fQ_pos M a3
  have qM : fQ M = (rv M : Rat) * p2 (-1074) := by rw [fQ_sign, a3, a2]; rfl
  obtain ⟨t1, t2⟩ := eX_top M (by omega) fM kM
  rw [ab_pos q0] at t1 t2
  have hall : ∀ x ∈ xs, ab (fQ x) ≤ fQ M := fun x hx => by
    rw [fQ_ab, qM]
    have h1 : (rv (fR x) : Rat) ≤ (rv M : Rat) := Rat.natCast_le_natCast.2 (rv_mono (g3 x hx))
    have := Rat.mul_le_mul_of_nonneg_left h1 (Rat.le_of_lt (p2_pos (-1074)))
    grind
  obtain ⟨y, hy, hy2⟩ : ∃ x ∈ xs, fR x = M := by
    rcases g4 with g4 | g4
    · exact absurd g4 h0
    · exact g4
  clear g4
  have ey : ab (fQ y) = fQ M := by rw [fQ_ab, qM, hy2]
  have hp := p2_pos (-eX M)
  have hpp : p2 (-eX M) * p2 (eX M) = 1 := p2_neg _
  rw [p2_succ] at t2
  have u1 := Rat.mul_le_mul_of_nonneg_left t1 (Rat.le_of_lt hp)
  have u2 := Rat.mul_lt_mul_of_pos_left t2 hp
  have hd : ∀ x, ab (dQ (eX M) x) = ab (fQ x) * p2 (-eX M) := fun x => by
    unfold dQ; rw [ab_mul, ab_pos (Rat.le_of_lt hp)]
  refine ⟨g1, fM, kM, a3, ?_, ?_, hall, ?_, y, hy, ey, ?_⟩
  · obtain ⟨b1, b2, b3⟩ := h y hy
    rcases b3 with b3 | b3
    · exact absurd ((fK_zero y).1 b3) (by omega)
    · have k0 : fK y ≠ 0 := fun e => by have := (fK_zero y).1 e; omega
      have := eX_top y b1 b2 k0
      rw [ey] at this
      have : p2 (eX y) < p2 (eX M + 1) := by rw [p2_succ]; grind
      have := lt_of_p2 this
      omega
  · obtain ⟨b1, b2, b3⟩ := h y hy
    rcases b3 with b3 | b3
    · exact absurd ((fK_zero y).1 b3) (by omega)
    · have k0 : fK y ≠ 0 := fun e => by have := (fK_zero y).1 e; omega
      have := eX_top y b1 b2 k0
      rw [ey] at this
      have : p2 (eX M) < p2 (eX y + 1) := by grind
      have := lt_of_p2 this
      omega
  · intro x hx
    rw [hd]
    have := Rat.mul_le_mul_of_nonneg_left (hall x hx) (Rat.le_of_lt hp)
    grind
  · have e1 : 1 ≤ ab (dQ (eX M) y) := by rw [hd, ey]; grind
    have e2 : dQ (eX M) y * dQ (eX M) y = ab (dQ (eX M) y) * ab (dQ (eX M) y) := by
      rw [← ab_mul]; exact (ab_pos (sq_nonneg _)).symm
    rw [e2]
    have := Rat.mul_nonneg (show 0 ≤ ab (dQ (eX M) y) - 1 by grind) (show 0 ≤ ab (dQ (eX M) y) - 1 by grind)
    grind

/-- The exact sum of squares. -/
def sumQ : List Nat → Rat
  | [] => 0
  | x :: xs => fQ x * fQ x + sumQ xs
theorem sqQ_sum (k : Int) (xs : List Nat) : sqQ k xs * (p2 k * p2 k) = sumQ xs := by
  have hp := p2_neg k
  induction xs with
  | nil => exact Rat.zero_mul _
  | cons x xs ih =>
    have e : dQ k x * dQ k x * (p2 k * p2 k) = fQ x * fQ x := by
      unfold dQ
      rw [show fQ x * p2 (-k) * (fQ x * p2 (-k)) * (p2 k * p2 k) = fQ x * fQ x * ((p2 (-k) * p2 k) * (p2 (-k) * p2 k)) by grind, hp]
      grind
    unfold sqQ sumQ
    rw [Rat.add_mul, e, ih]
theorem sqQ_mem (k : Int) : ∀ (xs : List Nat) (x : Nat), x ∈ xs → dQ k x * dQ k x ≤ sqQ k xs := by
  intro xs
  induction xs with
  | nil => intro x hx; cases hx
  | cons y ys ih =>
    intro x hx
    have q0 := sqQ_0 k ys
    have q1 := sq_nonneg (dQ k y)
    have e : sqQ k (y :: ys) = dQ k y * dQ k y + sqQ k ys := rfl
    rw [e]
    rcases List.mem_cons.1 hx with rfl | hx
    · grind
    · have := ih x hx
      grind
theorem sqQ_le (k : Int) : ∀ (xs : List Nat), (∀ x ∈ xs, ab (dQ k x) ≤ 2) → sqQ k xs ≤ 4 * (xs.length : Rat) := by
  intro xs
  induction xs with
  | nil =>
    intro _
    have e : sqQ k [] = 0 := rfl
    have e3 : (([] : List Nat).length : Rat) = 0 := rfl
    rw [e, e3]
    grind
  | cons y ys ih =>
    intro h
    have h1 := ih (fun x hx => h x (List.mem_cons_of_mem _ hx))
    have h2 := h y List.mem_cons_self
    have l := le_ab (dQ k y)
    have m := Rat.mul_nonneg (show 0 ≤ 2 - dQ k y by grind) (show 0 ≤ 2 + dQ k y by grind)
    have e : sqQ k (y :: ys) = dQ k y * dQ k y + sqQ k ys := rfl
    have e3 : ((y :: ys).length : Rat) = (ys.length : Rat) + 1 := by rw [List.length_cons, Rat.natCast_add]; rfl
    rw [e, e3]
    grind
theorem bg_0 (xs : List Nat) (h : ∀ x ∈ xs, fFin x = true) (h0 : bgF 0 xs = 0) : ∀ x ∈ xs, fQ x = 0 := by
  obtain ⟨g1, g2, g3, g4⟩ := bgF_fin xs 0 (by decide) h
  intro x hx
  have := g3 x hx
  exact fQ_nought x ((fK_zero x).2 (by omega))
theorem sumQ_0 : ∀ (xs : List Nat), (∀ x ∈ xs, fQ x = 0) → sumQ xs = 0 := by
  intro xs
  induction xs with
  | nil => intro _; rfl
  | cons y ys ih =>
    intro h
    have e : sumQ (y :: ys) = fQ y * fQ y + sumQ ys := rfl
    rw [e, ih (fun x hx => h x (List.mem_cons_of_mem _ hx)), h y List.mem_cons_self]
    grind

/-- The norm of tame numbers, their power of two taken out. -/
theorem norm_parts (K : Int) (hK : K ≤ 900) (xs : List Nat) (hl : xs.length ≤ 64) (h : TameV K xs) (h0 : bgF 0 xs ≠ 0) :
    let k := eX (bgF 0 xs); let s := ssV k 0 xs
    nrV xs = xV (sV s) k ∧ fFin s = true ∧ fS s = false ∧ fK s ≠ 0 ∧ 1 ≤ sqQ k xs ∧ 9007199254740992 * ab (fQ s - sqQ k xs) ≤ 130 * sqQ k xs ∧
    fFin (sV s) = true ∧ sV s < 18446744073709551616 ∧ fS (sV s) = false ∧ 1 ≤ 2 * fQ (sV s) ∧ fQ (sV s) ≤ 17 ∧ fFin (nrV xs) = true ∧ fS (nrV xs) = false ∧ fQ (nrV xs) = fQ (sV s) * p2 k := by
  intro k s
  obtain ⟨b1, b2, b3, b4, b5, b6, b7, b8, y, hy, b9, b10⟩ := tame_big K xs h h0
  have hn : nrV xs = xV (sV s) k := by
    unfold nrV
    rw [if_neg (by rw [b2]; simp [h0])]
  have T1 : 1 ≤ sqQ k xs := by have := sqQ_mem k xs y hy; grind
  have hl2 : (xs.length : Rat) ≤ 64 := Rat.natCast_le_natCast.2 hl
  have T2 : sqQ k xs ≤ 256 := by have := sqQ_le k xs b8; grind
  have hlG := Rat.mul_nonneg (show 0 ≤ 64 - (xs.length : Rat) by grind) (show 0 ≤ sqQ k xs by grind)
  have z0 : fQ 0 = 0 := fQ_nought 0 (by decide)
  obtain ⟨e1, e2, e3⟩ := ss_err k (sqQ k xs) T1 T2 xs 0 0 0 (fun x hx => ⟨(h x hx).1, (h x hx).2.1, b8 x hx⟩) (by decide) (by decide) (by grind) (by grind) (by rw [z0]; unfold ab; grind)
  have e4 : 9007199254740992 * ab (fQ s - sqQ k xs) ≤ 130 * sqQ k xs := by
    have : (0 : Rat) + sqQ k xs = sqQ k xs := Rat.zero_add _
    rw [this] at e3
    grind
  have l := le_ab (fQ s - sqQ k xs)
  have s1 : 1 ≤ 2 * fQ s := by grind
  have k0 : fK s ≠ 0 := fun e => by
    have := fQ_nought s e
    grind
  obtain ⟨r1, r2, r3, r4, r5, r6, r7⟩ := sqrt_err s e1 k0 e2
  have r8 : 1 ≤ 2 * fQ (sV s) := by
    rcases Rat.le_total (a := 1) (b := 2 * fQ (sV s)) with g | g
    · exact g
    · have := Rat.mul_nonneg (show 0 ≤ 1 - 2 * fQ (sV s) by grind) (show 0 ≤ 1 + 2 * fQ (sV s) by grind)
      grind
  have r9 : fQ (sV s) ≤ 17 := by
    rcases Rat.le_total (a := fQ (sV s)) (b := 17) with g | g
    · exact g
    · have := Rat.mul_nonneg (show 0 ≤ fQ (sV s) - 17 by grind) (show 0 ≤ fQ (sV s) + 17 by grind)
      grind
  have hpk := p2_pos k
  have x1 : ab (fQ (sV s)) * p2 k < p2 1023 := by
    rw [ab_pos r5]
    have m1 := Rat.mul_le_mul_of_nonneg_left r9 (Rat.le_of_lt hpk)
    have m2 := p2_mono (show k + 1 + 1 + 1 + 1 + 1 ≤ 1023 by omega)
    simp only [p2_succ] at m2
    grind
  have x2 : p2 (-1022) ≤ ab (fQ (sV s)) * p2 k := by
    rw [ab_pos r5]
    have m1 := Rat.mul_le_mul_of_nonneg_left r8 (Rat.le_of_lt hpk)
    have m2 := p2_mono (show -1022 + 1 ≤ k by omega)
    rw [p2_succ] at m2
    grind
  obtain ⟨y1, y2⟩ := scale_exact (sV s) k r3 r1 x1 x2
  refine ⟨hn, e1, e2, k0, T1, e4, r1, r3, r2, r8, r9, by rw [hn]; exact y1, ?_, by rw [hn]; exact y2⟩
  have q0 : fK (sV s) ≠ 0 := fun e => by
    have := fQ_nought (sV s) e
    grind
  rw [hn, xV_fin _ _ r1 q0]
  have hle := rnd_le (fD (sV s)).natAbs (fX (sV s) + k)
  rw [fS_wrd _ _ (by omega)]
  exact r2

/-- The norm is right but for a part in 2^44. -/
theorem norm_right (K : Int) (hK : K ≤ 900) (xs : List Nat) (hl : xs.length ≤ 64) (h : TameV K xs) :
    fFin (nrV xs) = true ∧ fS (nrV xs) = false ∧ 17592186044416 * ab (fQ (nrV xs) * fQ (nrV xs) - sumQ xs) ≤ sumQ xs := by
  by_cases h0 : bgF 0 xs = 0
  · have e : nrV xs = 0 := by unfold nrV; rw [if_pos (.inl h0), h0]
    have z0 : fQ 0 = 0 := fQ_nought 0 (by decide)
    rw [e, z0, sumQ_0 xs (bg_0 xs (fun x hx => (h x hx).2.1) h0)]
    refine ⟨by decide, by decide, ?_⟩
    unfold ab
    grind
  · obtain ⟨n1, n2, n3, n4, n5, n6, n7, n8, n9, n10, n11, n12, n13, n14⟩ := norm_parts K hK xs hl h h0
    refine ⟨n12, n13, ?_⟩
    obtain ⟨r1, r2, r3, r4, r5, r6, r7⟩ := sqrt_err _ n2 n4 n3
    have hp := p2_pos (eX (bgF 0 xs))
    rw [n14, ← sqQ_sum (eX (bgF 0 xs)) xs]
    generalize fQ (sV (ssV (eX (bgF 0 xs)) 0 xs)) = R at *
    generalize fQ (ssV (eX (bgF 0 xs)) 0 xs) = S at *
    generalize sqQ (eX (bgF 0 xs)) xs = T at *
    have hPP := Rat.mul_pos hp hp
    have e1 : R * p2 (eX (bgF 0 xs)) * (R * p2 (eX (bgF 0 xs))) - T * (p2 (eX (bgF 0 xs)) * p2 (eX (bgF 0 xs))) = (R * R - T) * (p2 (eX (bgF 0 xs)) * p2 (eX (bgF 0 xs))) := by grind
    rw [e1, ab_mul, ab_pos (Rat.le_of_lt hPP)]
    generalize p2 (eX (bgF 0 xs)) * p2 (eX (bgF 0 xs)) = Q at *
    have l := le_ab (S - T)
    have e2 : 17592186044416 * ab (R * R - T) ≤ T := by
      generalize R * R = RR at *
      unfold ab
      grind
    have := Rat.mul_le_mul_of_nonneg_left e2 (Rat.le_of_lt hPP)
    grind

end Go.Proofs.YtlbggedahpnjgaaDoor

/- The norm is at least the greatest number, but for a part in 2^50. Ahead of stage 9. -/
namespace Go.Proofs.YtlbggedahpnjgaaDoor
open Go.RowKit

theorem fZ_rnd (a : Nat) (ha : a < 18446744073709551616) (fa : fFin a = true) : pvZ (fZ a) (-1074) = fZ a := by
  have h := rnd_rv a ha fa
  by_cases a0 : fK a = 0
  · have hz : fZ a = 0 := by
      have := fZ_abs a
      rw [(fK_zero a).1 a0, rv_zero] at this
      omega
    rw [hz]
    decide +kernel
  · obtain ⟨z1, z2⟩ := fZ_neg8 a a0
    unfold pvZ
    rw [z2, fZ_abs, h]
    rfl
/-- A sum of two that are not below 0 is no less than each. -/
theorem add_ge (s p : Nat) (hs : s < 18446744073709551616) (hp : p < 18446744073709551616) (fs : fFin s = true) (fp : fFin p = true) (ss : fS s = false) (sp : fS p = false) :
    fQ s ≤ fQ (aV s p) ∧ fQ p ≤ fQ (aV s p) := by
  have h1 := (aV_fin s p fs fp).2
  have hz : 0 ≤ fZ s ∧ 0 ≤ fZ p := by
    unfold fZ pv; rw [ss, sp]; simp only [Bool.false_eq_true, if_false]; omega
  have m1 : pvZ (fZ s) (-1074) ≤ pvZ (aZ s p) (-1074) := pvZ_mono (by unfold aZ; omega)
  have m2 : pvZ (fZ p) (-1074) ≤ pvZ (aZ s p) (-1074) := pvZ_mono (by unfold aZ; omega)
  rw [fZ_rnd s hs fs, ← h1] at m1
  rw [fZ_rnd p hp fp, ← h1] at m2
  have hP := Rat.le_of_lt (p2_pos (-1074))
  have c1 := Rat.mul_le_mul_of_nonneg_left (Rat.intCast_le_intCast.2 m1) hP
  have c2 := Rat.mul_le_mul_of_nonneg_left (Rat.intCast_le_intCast.2 m2) hP
  unfold fQ
  constructor <;> grind

/-- The sum of squares never falls, and is no less than any rounded square. -/
theorem ss_ge (k : Int) (G : Rat) (hG1 : 1 ≤ G) (hG2 : G ≤ 256) : ∀ (xs : List Nat) (s : Nat) (T H : Rat), (∀ x ∈ xs, x < 18446744073709551616 ∧ fFin x = true ∧ ab (dQ k x) ≤ 2) → s < 18446744073709551616 → fFin s = true → fS s = false →
    T + sqQ k xs ≤ G → H + (xs.length : Rat) * G ≤ 64 * G → 9007199254740992 * ab (fQ s - T) ≤ 2 * T + 2 * H →
    fQ s ≤ fQ (ssV k s xs) ∧ ∀ x ∈ xs, fQ (mV (xV x (-k)) (xV x (-k))) ≤ fQ (ssV k s xs) := by
  intro xs
  induction xs with
  | nil =>
    intro s T H _ _ fs ss _ _ he
    exact ⟨Rat.le_refl, fun x hx => (by cases hx)⟩
  | cons x xs ih =>
    intro s T H hx hs fs ss hT hH he
    obtain ⟨h1, h2, h3⟩ := hx x (List.mem_cons_self)
    have e2 : sqQ k (x :: xs) = dQ k x * dQ k x + sqQ k xs := rfl
    have e3 : ((x :: xs).length : Rat) = (xs.length : Rat) + 1 := by rw [List.length_cons, Rat.natCast_add]; rfl
    have e4 : ((x :: xs).length : Rat) * G = (xs.length : Rat) * G + G := by rw [e3]; grind
    have e5 : ssV k s (x :: xs) = ssV k (sqV k s x) xs := rfl
    have q0 := sqQ_0 k xs
    have l0 : 0 ≤ (xs.length : Rat) * G := Rat.mul_nonneg Rat.natCast_nonneg (by grind)
    rw [e2] at hT
    rw [e4] at hH
    obtain ⟨g1, g2, g3⟩ := sq_step k s x T H G h1 h2 h3 fs ss (by grind) hG1 hG2 (by grind) he
    obtain ⟨p1, p2, p3⟩ := sq_one k x h1 h2 h3
    have hpl : mV (xV x (-k)) (xV x (-k)) < 18446744073709551616 := by
      have := of_decide_eq_false p2
      omega
    obtain ⟨a1, a2⟩ := add_ge s _ hs hpl fs p1 ss p2
    obtain ⟨i1, i2⟩ := ih (sqV k s x) (T + dQ k x * dQ k x) (H + G) (fun y hy => hx y (List.mem_cons_of_mem _ hy)) (by have := of_decide_eq_false g2; omega) g1 g2 (by grind) (by grind) g3
    rw [e5]
    have b1 : fQ s ≤ fQ (sqV k s x) := a1
    have b2 : fQ (mV (xV x (-k)) (xV x (-k))) ≤ fQ (sqV k s x) := a2
    refine ⟨Rat.le_trans b1 i1, fun y hy => ?_⟩
    rcases List.mem_cons.1 hy with rfl | hy
    · exact Rat.le_trans b2 i1
    · exact i2 y hy

/-- The norm is at least the greatest number, but for a part in 2^50. -/
theorem norm_ge (K : Int) (hK : K ≤ 900) (xs : List Nat) (hl : xs.length ≤ 64) (h : TameV K xs) :
    1125899906842624 * (fQ (bgF 0 xs) - fQ (nrV xs)) ≤ fQ (bgF 0 xs) := by
  by_cases h0 : bgF 0 xs = 0
  · have e : nrV xs = 0 := by unfold nrV; rw [if_pos (.inl h0), h0]
    have z0 : fQ 0 = 0 := fQ_nought 0 (by decide)
    rw [e, h0, z0]
    grind
  · obtain ⟨n1, n2, n3, n4, n5, n6, n7, n8, n9, n10, n11, n12, n13, n14⟩ := norm_parts K hK xs hl h h0
    obtain ⟨b1, b2, b3, b4, b5, b6, b7, b8, y, hy, b9, b10⟩ := tame_big K xs h h0
    obtain ⟨r1, r2, r3, r4, r5, r6, r7⟩ := sqrt_err _ n2 n4 n3
    have hl2 : (xs.length : Rat) ≤ 64 := Rat.natCast_le_natCast.2 hl
    have T2 : sqQ (eX (bgF 0 xs)) xs ≤ 256 := by have := sqQ_le _ xs b8; grind
    have hlG := Rat.mul_nonneg (show 0 ≤ 64 - (xs.length : Rat) by grind) (show 0 ≤ sqQ (eX (bgF 0 xs)) xs by grind)
    have z0 : fQ 0 = 0 := fQ_nought 0 (by decide)
    obtain ⟨g1, g2⟩ := ss_ge (eX (bgF 0 xs)) _ n5 T2 xs 0 0 0 (fun x hx => ⟨(h x hx).1, (h x hx).2.1, b8 x hx⟩) (by decide) (by decide) (by decide) (by grind) (by grind) (by rw [z0]; unfold ab; grind)
    have g3 := g2 y hy
    obtain ⟨p1, p2', p3⟩ := sq_one _ y (h y hy).1 (h y hy).2.1 (b8 y hy)
    obtain ⟨t1, t2, t3⟩ := eta_small
    have hp := p2_pos (eX (bgF 0 xs))
    have hpp := p2_neg (eX (bgF 0 xs))
    have eB : fQ (bgF 0 xs) = ab (dQ (eX (bgF 0 xs)) y) * p2 (eX (bgF 0 xs)) := by
      unfold dQ
      rw [ab_mul, ab_pos (Rat.le_of_lt (p2_pos _)), b9, Rat.mul_assoc, hpp, Rat.mul_one]
    have eD : dQ (eX (bgF 0 xs)) y * dQ (eX (bgF 0 xs)) y = ab (dQ (eX (bgF 0 xs)) y) * ab (dQ (eX (bgF 0 xs)) y) := by
      rw [← ab_mul]; exact (ab_pos (sq_nonneg _)).symm
    rw [eB, n14]
    have m0 := ab_0 (dQ (eX (bgF 0 xs)) y)
    have l := le_ab (fQ (mV (xV y (-eX (bgF 0 xs))) (xV y (-eX (bgF 0 xs)))) - dQ (eX (bgF 0 xs)) y * dQ (eX (bgF 0 xs)) y)
    rw [eD] at p3 l b10
    generalize fQ (mV (xV y (-eX (bgF 0 xs))) (xV y (-eX (bgF 0 xs)))) = P at *
    generalize fQ (ssV (eX (bgF 0 xs)) 0 xs) = S at *
    generalize fQ (sV (ssV (eX (bgF 0 xs)) 0 xs)) = R at *
    generalize ab (dQ (eX (bgF 0 xs)) y) = d at *
    clear g1 g2 n1 b7 b8
    generalize p2 (-1075) = η at *
    -- R^2 is at least d^2 but for five parts in 2^53
    have e1 : 9007199254740992 * (d * d) ≤ 9007199254740992 * (R * R) + 6 * (d * d) := by
      generalize ab (P - d * d) = A at *
      generalize d * d = D at *
      generalize R * R = RR at *
      grind
    have e2 : 1125899906842624 * (d - R) ≤ d := by
      rcases Rat.le_total (a := 1125899906842624 * (d - R)) (b := d) with g | g
      · exact g
      · have c1 := Rat.mul_nonneg (show 0 ≤ 1125899906842624 * (d - R) - d by grind) m0
        have c2 := Rat.mul_nonneg (show 0 ≤ 1125899906842624 * (d - R) - d by grind) r5
        grind
    have := Rat.mul_le_mul_of_nonneg_left e2 (Rat.le_of_lt hp)
    grind

end Go.Proofs.YtlbggedahpnjgaaDoor

/- The norm hangs on no signs; powers of two go through it. Ahead of stage 9. -/
namespace Go.Proofs.YtlbggedahpnjgaaDoor
open Go.RowKit

theorem mag_bits (a : Nat) (ha : a < 18446744073709551616) (fa : fFin a = true) (a0 : fK a ≠ 0) : ab (fQ a) = xE (fD a).natAbs (fX a) := by
  have e := fD_mag a ha fa a0 0
  rw [Int.add_zero, p2_0, Rat.mul_one, ← fQ_ab] at e
  exact e.symm
theorem odd_unique {u v : Nat} {e f : Int} (hu : u % 2 = 1) (hv : v % 2 = 1) (h : xE u e = xE v f) : u = v ∧ e = f := by
  have main : ∀ (u v : Nat) (e f : Int), u % 2 = 1 → v % 2 = 1 → xE u e = xE v f → e ≤ f → u = v ∧ e = f := by
    intro u v e f hu hv h hle
    obtain ⟨k, hk⟩ : ∃ k : Nat, f = (k : Int) + e := ⟨(f - e).toNat, by omega⟩
    unfold xE at h
    rw [hk, p2_add, p2_nat, ← Rat.mul_assoc, ← Rat.natCast_mul] at h
    have hp := p2_pos e
    have h2 : (u : Rat) = ((v * 2 ^ k : Nat) : Rat) := by
      have h3 : (u : Rat) * p2 e * p2 (-e) = ((v * 2 ^ k : Nat) : Rat) * p2 e * p2 (-e) := by rw [h]
      have h4 : p2 e * p2 (-e) = 1 := by rw [Rat.mul_comm]; exact p2_neg e
      rw [Rat.mul_assoc, Rat.mul_assoc, h4, Rat.mul_one, Rat.mul_one] at h3
      exact h3
    have h3 : u = v * 2 ^ k := Rat.natCast_inj.1 h2
    cases k with
    | zero => exact ⟨by simpa using h3, by omega⟩
    | succ k => rw [Nat.pow_succ, ← Nat.mul_assoc] at h3; omega
  rcases Int.le_total e f with g | g
  · exact main u v e f hu hv h g
  · obtain ⟨a, b⟩ := main v u f e hv hu h.symm g
    exact ⟨a.symm, b.symm⟩

/-- Numbers of one size scale to numbers of one size. -/
theorem xV_same (a b : Nat) (n m : Int) (ha : a < 18446744073709551616) (hb : b < 18446744073709551616) (fa : fFin a = true) (fb : fFin b = true) (h : ab (fQ a) * p2 n = ab (fQ b) * p2 m) : fR (xV a n) = fR (xV b m) := by
  have pn := p2_pos n; have pm := p2_pos m
  by_cases a0 : fK a = 0
  · have e := fQ_nought a a0
    have e2 : ab (fQ a) = 0 := by rw [e]; unfold ab; grind
    rw [e2, Rat.zero_mul] at h
    have b0 : fK b = 0 := by
      by_cases b0 : fK b = 0
      · exact b0
      · have h1 := (eX_top b hb fb b0).1
        have h2 := p2_pos (eX b)
        have h3 := Rat.mul_pos (show 0 < ab (fQ b) by grind) pm
        grind
    rw [xV_nought a n a0, xV_nought b m b0, (fK_zero a).1 a0, (fK_zero b).1 b0]
  · have b0 : fK b ≠ 0 := fun b0 => by
      have e := fQ_nought b b0
      have e2 : ab (fQ b) = 0 := by rw [e]; unfold ab; grind
      rw [e2, Rat.zero_mul] at h
      have h1 := (eX_top a ha fa a0).1
      have h2 := p2_pos (eX a)
      have h3 := Rat.mul_pos (show 0 < ab (fQ a) by grind) pn
      grind
    rw [fQ_ab, fQ_ab, ← fD_mag a ha fa a0, ← fD_mag b hb fb b0] at h
    obtain ⟨e1, e2⟩ := odd_unique (by have := (sc_facts a ha fa a0).1; omega) (by have := (sc_facts b hb fb b0).1; omega) h
    have l1 := rnd_le (fD a).natAbs (fX a + n)
    have l2 := rnd_le (fD b).natAbs (fX b + m)
    rw [xV_fin a n fa a0, xV_fin b m fb b0, fR_wrd _ _ (by omega), fR_wrd _ _ (by omega), e1, e2]
theorem mV_same (t u : Nat) (ft : fFin t = true) (fu : fFin u = true) (h : fR t = fR u) : mV t t = mV u u := by
  rw [mV_any t t ft ft, mV_any u u fu fu, Bool.xor_self, Bool.xor_self, h]

/-- The sum of squares hangs on sizes alone, their power taken out. -/
theorem ss_same (k l : Int) : ∀ (xs ys : List Nat) (s : Nat), xs.length = ys.length → (∀ (i x y : Nat), xs[i]? = some x → ys[i]? = some y → fFin (xV x (-k)) = true ∧ fFin (xV y (-l)) = true ∧ fR (xV x (-k)) = fR (xV y (-l))) → ssV k s xs = ssV l s ys := by
  intro xs
  induction xs with
  | nil =>
    intro ys s hl _
    cases ys with
    | nil => rfl
    | cons y ys => simp at hl
  | cons x xs ih =>
    intro ys s hl h
    cases ys with
    | nil => simp at hl
    | cons y ys =>
      obtain ⟨h1, h2, h3⟩ := h 0 x y rfl rfl
      have e : sqV k s x = sqV l s y := by unfold sqV; rw [mV_same _ _ h1 h2 h3]
      show ssV k (sqV k s x) xs = ssV l (sqV l s y) ys
      rw [e]
      exact ih ys _ (by simpa using hl) (fun i a b ha hb => h (i + 1) a b (by simpa using ha) (by simpa using hb))
theorem bg_same : ∀ (xs ys : List Nat) (m : Nat), xs.length = ys.length → (∀ (i x y : Nat), xs[i]? = some x → ys[i]? = some y → fR x = fR y) → bgF m xs = bgF m ys := by
  intro xs
  induction xs with
  | nil =>
    intro ys m hl _
    cases ys with
    | nil => rfl
    | cons y ys => simp at hl
  | cons x xs ih =>
    intro ys m hl h
    cases ys with
    | nil => simp at hl
    | cons y ys =>
      show bgF (mx m (fR x)) xs = bgF (mx m (fR y)) ys
      rw [h 0 x y rfl rfl]
      exact ih ys _ (by simpa using hl) (fun i a b ha hb => h (i + 1) a b (by simpa using ha) (by simpa using hb))

/-- The norm hangs on no signs. -/
theorem norm_signs (K : Int) (xs ys : List Nat) (h : TameV K xs) (hy : ∀ y ∈ ys, y < 18446744073709551616) (hl : xs.length = ys.length) (hs : ∀ (i x y : Nat), xs[i]? = some x → ys[i]? = some y → fR x = fR y) : nrV xs = nrV ys := by
  have e := bg_same xs ys 0 hl hs
  unfold nrV
  rw [← e]
  by_cases h0 : bgF 0 xs = 0 ∨ fFin (bgF 0 xs) = false
  · rw [if_pos h0, if_pos h0]
  · rw [if_neg h0, if_neg h0]
    obtain ⟨b1, b2, b3, b4, b5, b6, b7, b8, b9⟩ := tame_big K xs h (fun e => h0 (.inl e))
    clear b9
    congr 2
    refine ss_same _ _ xs ys 0 hl fun i x y hx hy2 => ?_
    have hx2 := List.mem_of_getElem? hx
    have hy3 := List.mem_of_getElem? hy2
    obtain ⟨x1, x2, x3⟩ := h x hx2
    have er := hs i x y hx hy2
    have fy : fFin y = true := (fK_rungs y).2.2.2 (by rw [← er]; exact fR_fin x x2)
    have ea : ab (fQ x) = ab (fQ y) := by rw [fQ_ab, fQ_ab, er]
    have hB := p2_big
    have hd := b8 x hx2
    have e2 : ab (dQ (eX (bgF 0 xs)) x) = ab (fQ x) * p2 (-eX (bgF 0 xs)) := by
      unfold dQ; rw [ab_mul, ab_pos (Rat.le_of_lt (p2_pos _))]
    rw [e2] at hd
    exact ⟨scale_fin x _ x1 x2 (by grind), scale_fin y _ (hy y hy3) fy (by rw [← ea]; grind), xV_same x y _ _ x1 (hy y hy3) x2 fy (by rw [ea])⟩

/-- Scaled twice, the first time exactly. -/
theorem xV_twice (a : Nat) (n m : Int) (ha : a < 18446744073709551616) (fa : fFin a = true) (fx : fFin (xV a n) = true) (he : fQ (xV a n) = fQ a * p2 n) : xV (xV a n) m = xV a (n + m) := by
  by_cases a0 : fK a = 0
  · rw [xV_nought a n a0, xV_nought a m a0, xV_nought a _ a0]
  · have hl := xV_lt a n ha
    have h1 := eX_top a ha fa a0
    have hp := p2_pos (eX a)
    have pn := p2_pos n
    have x0 : fK (xV a n) ≠ 0 := fun e => by
      have h2 := fQ_nought _ e
      rw [he] at h2
      have h3 : ab (fQ a * p2 n) = 0 := by rw [h2]; unfold ab; grind
      rw [ab_mul, ab_pos (Rat.le_of_lt pn)] at h3
      have := Rat.mul_pos (show 0 < ab (fQ a) by grind) pn
      grind
    have hS : fS (xV a n) = fS a := by
      have hle := rnd_le (fD a).natAbs (fX a + n)
      rw [xV_fin a n fa a0, fS_wrd _ _ (by omega)]
    have h4 := mag_bits _ hl fx x0
    rw [he, ab_mul, ab_pos (Rat.le_of_lt pn), fQ_ab, ← fD_mag a ha fa a0] at h4
    obtain ⟨e1, e2⟩ := odd_unique (by have := (sc_facts a ha fa a0).1; omega) (by have := (sc_facts _ hl fx x0).1; omega) h4
    rw [xV_fin (xV a n) m fx x0, hS, ← e1, ← e2, Int.add_assoc, xV_fin a (n + m) fa a0]

/-- A tame number times a power of two that keeps it normal: exact. -/
theorem tame_scale (x : Nat) (j : Int) (hj : -400 ≤ j ∧ j ≤ 400) (hx : x < 18446744073709551616) (fx : fFin x = true) (h : fK x = 0 ∨ (-500 ≤ eX x ∧ eX x < 500)) :
    fFin (xV x j) = true ∧ fQ (xV x j) = fQ x * p2 j := by
  by_cases x0 : fK x = 0
  · rw [xV_nought x j x0, fQ_nought x x0, Rat.zero_mul]
    exact ⟨fx, rfl⟩
  · have h2 : -500 ≤ eX x ∧ eX x < 500 := by omega
    obtain ⟨t1, t2⟩ := eX_top x hx fx x0
    have pj := p2_pos j
    have m1 := Rat.mul_le_mul_of_nonneg_left t1 (Rat.le_of_lt pj)
    have m2 := Rat.mul_lt_mul_of_pos_left t2 pj
    rw [← p2_add] at m1 m2
    have m3 := p2_mono (show -1022 ≤ j + eX x by omega)
    have m4 := p2_mono (show j + (eX x + 1) ≤ 1023 by omega)
    exact scale_exact x j hx fx (by grind) (by grind)

theorem eX_unique (a : Nat) (e : Int) (ha : a < 18446744073709551616) (fa : fFin a = true) (a0 : fK a ≠ 0) (h1 : p2 e ≤ ab (fQ a)) (h2 : ab (fQ a) < p2 (e + 1)) : eX a = e := by
  obtain ⟨t1, t2⟩ := eX_top a ha fa a0
  have c1 : eX a < e + 1 := lt_of_p2 (by grind)
  have c2 : e < eX a + 1 := lt_of_p2 (by grind)
  omega

/-- Powers of two go through the norm. -/
theorem norm_scale (xs zs : List Nat) (j : Int) (hj : -400 ≤ j ∧ j ≤ 400) (hlen : xs.length ≤ 64) (h : TameV 400 xs) (hl : xs.length = zs.length) (hz : ∀ (i x z : Nat), xs[i]? = some x → zs[i]? = some z → z = xV x j) :
    nrV zs = xV (nrV xs) j := by
  have pj := p2_pos j
  have hex : ∀ x ∈ xs, fFin (xV x j) = true ∧ fQ (xV x j) = fQ x * p2 j := fun x hx => by
    obtain ⟨x1, x2, x3⟩ := h x hx
    exact tame_scale x j hj x1 x2 (by omega)
  have hzm : ∀ z ∈ zs, ∃ x ∈ xs, z = xV x j := fun z hz2 => by
    obtain ⟨i, hi⟩ := List.getElem?_of_mem hz2
    have hlt : i < zs.length := (List.getElem?_eq_some_iff.1 hi).1
    have hx : xs[i]? = some (xs[i]'(by omega)) := List.getElem?_eq_getElem (by omega)
    exact ⟨_, List.mem_of_getElem? hx, hz i _ z hx hi⟩
  have hxm : ∀ x ∈ xs, xV x j ∈ zs := fun x hx2 => by
    obtain ⟨i, hi⟩ := List.getElem?_of_mem hx2
    have hlt : i < xs.length := (List.getElem?_eq_some_iff.1 hi).1
    have hx : zs[i]? = some (zs[i]'(by omega)) := List.getElem?_eq_getElem (by omega)
    have e := hz i x _ hi hx
    rw [← e]
    exact List.mem_of_getElem? hx
  have fz : ∀ z ∈ zs, fFin z = true := fun z hz2 => by
    obtain ⟨x, hx, e⟩ := hzm z hz2
    rw [e]
    exact (hex x hx).1
  obtain ⟨g1, g2, g3, g4⟩ := bgF_fin xs 0 (by decide) (fun x hx => (h x hx).2.1)
  obtain ⟨d1, d2, d3, d4⟩ := bgF_fin zs 0 (by decide) fz
  by_cases h0 : bgF 0 xs = 0
  · have e : nrV xs = 0 := by unfold nrV; rw [if_pos (.inl h0), h0]
    have e2 : bgF 0 zs = 0 := by
      rcases d4 with d4 | ⟨z, hz2, d4⟩
      · exact d4
      · obtain ⟨x, hx, e3⟩ := hzm z hz2
        have := g3 x hx
        have x0 : fK x = 0 := (fK_zero x).2 (by omega)
        rw [e3, xV_nought x j x0, (fK_zero x).1 x0] at d4
        exact d4.symm
    have e3 : nrV zs = 0 := by unfold nrV; rw [if_pos (.inl e2), e2]
    rw [e, e3, xV_nought 0 j (by decide)]
  · obtain ⟨b1, b2, b3, b4, b5, b6, b7, b8, y, hy, b9, b10⟩ := tame_big 400 xs h h0
    obtain ⟨n1, n2, n3, n4, n5, n6, n7, n8, n9, n10, n11, n12, n13, n14⟩ := norm_parts 400 (by decide) xs hlen h h0
    obtain ⟨y1, y2⟩ := hex y hy
    obtain ⟨t1, t2⟩ := eX_top (bgF 0 xs) (by omega) b2 b3
    have q0 := fQ_pos _ b4
    rw [ab_pos q0] at t1 t2
    -- the greatest one of the others
    have hyz := hxm y hy
    have c1 := d3 _ hyz
    have qy : ab (fQ (xV y j)) = fQ (bgF 0 xs) * p2 j := by rw [y2, ab_mul, ab_pos (Rat.le_of_lt pj), b9]
    have c2 : fR (xV y j) = bgF 0 zs := by
      rcases d4 with d4 | ⟨z, hz2, d4⟩
      · omega
      · obtain ⟨x, hx, e3⟩ := hzm z hz2
        have c3 : ab (fQ z) ≤ ab (fQ (xV y j)) := by
          rw [qy, e3, (hex x hx).2, ab_mul, ab_pos (Rat.le_of_lt pj)]
          have := Rat.mul_le_mul_of_nonneg_left (b7 x hx) (Rat.le_of_lt pj)
          grind
        rw [fQ_ab, fQ_ab] at c3
        have c4 : fR z ≤ fR (xV y j) := by
          rcases Nat.lt_or_ge (fR (xV y j)) (fR z) with g | g
          · have g2 := Rat.natCast_lt_natCast.2 (rv8_lt g)
            have := Rat.mul_lt_mul_of_pos_left g2 (p2_pos (-1074))
            grind
          · exact g
        omega
    clear d4 g4
    have m1 := Rat.mul_le_mul_of_nonneg_left t1 (Rat.le_of_lt pj)
    have m2 := Rat.mul_lt_mul_of_pos_left t2 pj
    rw [← p2_add] at m1 m2
    obtain ⟨a1, a2, a3⟩ := mag_fZ (bgF 0 zs) (by omega)
    have fM : fFin (bgF 0 zs) = true := (fK_rungs _).2.2.2 (by rw [a2]; exact d1)
    have qM : ab (fQ (bgF 0 zs)) = fQ (bgF 0 xs) * p2 j := by rw [← qy, fQ_ab, fQ_ab, a2, c2]
    have hne : bgF 0 zs ≠ 0 := fun e => by
      rw [e] at qM
      have z0 : fQ 0 = 0 := fQ_nought 0 (by decide)
      have z1 : ab (fQ 0) = 0 := by rw [z0]; unfold ab; grind
      have := p2_pos (j + eX (bgF 0 xs))
      grind
    have kM : fK (bgF 0 zs) ≠ 0 := fun e => hne (by have := (fK_zero _).1 e; omega)
    have eE : eX (bgF 0 zs) = eX (bgF 0 xs) + j := eX_unique _ _ (by omega) fM kM (by rw [qM, show eX (bgF 0 xs) + j = j + eX (bgF 0 xs) by omega]; grind) (by rw [qM, show eX (bgF 0 xs) + j + 1 = j + (eX (bgF 0 xs) + 1) by omega]; grind)
    have hss : ssV (eX (bgF 0 zs)) 0 zs = ssV (eX (bgF 0 xs)) 0 xs := by
      refine (ss_same _ _ xs zs 0 hl fun i x z hx hz2 => ?_).symm
      have hx2 := List.mem_of_getElem? hx
      obtain ⟨x1, x2, x3⟩ := h x hx2
      have e4 := hz i x z hx hz2
      have e5 : xV z (-eX (bgF 0 zs)) = xV x (-eX (bgF 0 xs)) := by
        rw [e4, xV_twice x j _ x1 x2 (hex x hx2).1 (hex x hx2).2, eE]
        congr 1
        omega
      have hB := p2_big
      have hd := b8 x hx2
      have e2 : ab (dQ (eX (bgF 0 xs)) x) = ab (fQ x) * p2 (-eX (bgF 0 xs)) := by
        unfold dQ; rw [ab_mul, ab_pos (Rat.le_of_lt (p2_pos _))]
      rw [e2] at hd
      have e6 := scale_fin x (-eX (bgF 0 xs)) x1 x2 (by grind)
      rw [e5]
      exact ⟨e6, e6, rfl⟩
    have hnz : nrV zs = xV (sV (ssV (eX (bgF 0 zs)) 0 zs)) (eX (bgF 0 zs)) := by
      unfold nrV
      rw [if_neg (by rw [fM]; simp [hne])]
    rw [hnz, hss, eE, n1]
    rw [n1] at n12 n14
    exact (xV_twice _ _ j n8 n7 n12 n14).symm

end Go.Proofs.YtlbggedahpnjgaaDoor

/- Package vector: operations without flags; the reference's with Go's own float64. -/
namespace Go.Proofs.YtlbggedahpnjgaaDoor
open Go.RowKit

set_option maxRecDepth 20000 in
set_option maxHeartbeats 2000000 in
theorem vadd_any (a b : Nat) (w : World) (ha : a < 18446744073709551616) (hb : b < 18446744073709551616) (hT : Tab w) :
    Calls Tryd.prog 15 #[.int .u64 a, .int .u64 b] w fun r w' => r = .returned (.int .u64 (aV a b : Nat)) ∧ Below w.heap.size w w' := by
  have K := hide (sadd_any a b w ha hb hT)
  clear ha hb hT
  generalize aV a b = o at *
  generalize aF a b = f at *
  go_enter Tryd.func15, Tryd.ntmps15
  go_wp2_with fail
  refine Calls.mono (unhide K) ?_
  rintro e w1 ⟨rfl, hb1⟩
  clear K
  go_wp2
  go_ret
  exact ⟨rfl, hb1⟩

set_option maxRecDepth 20000 in
set_option maxHeartbeats 2000000 in
theorem vmul_any (a b : Nat) (w : World) (ha : a < 18446744073709551616) (hb : b < 18446744073709551616) (hT : Tab w) :
    Calls Tryd.prog 16 #[.int .u64 a, .int .u64 b] w fun r w' => r = .returned (.int .u64 (mV a b : Nat)) ∧ Below w.heap.size w w' := by
  have K := hide (tmul_any a b w ha hb hT)
  clear ha hb hT
  generalize mV a b = o at *
  generalize mF a b = f at *
  go_enter Tryd.func16, Tryd.ntmps16
  go_wp2_with fail
  refine Calls.mono (unhide K) ?_
  rintro e w1 ⟨rfl, hb1⟩
  clear K
  go_wp2
  go_ret
  exact ⟨rfl, hb1⟩

set_option maxRecDepth 20000 in
set_option maxHeartbeats 2000000 in
theorem vscale_any (a : Nat) (n : Int) (w : World) (ha : a < 18446744073709551616) (hT : Tab w) :
    Calls Tryd.prog 29 #[.int .u64 a, .int .i64 n] w fun r w' => r = .returned (.int .u64 (xV a n : Nat)) ∧ Below w.heap.size w w' := by
  have K := hide (cscale_any a n w ha hT)
  clear ha hT
  generalize xV a n = o at *
  generalize xF a n = f at *
  go_enter Tryd.func29, Tryd.ntmps29
  go_wp2_with fail
  refine Calls.mono (unhide K) ?_
  rintro e w1 ⟨rfl, hb1⟩
  clear K
  go_wp2
  go_ret
  exact ⟨rfl, hb1⟩

set_option maxRecDepth 20000 in
set_option maxHeartbeats 2000000 in
theorem vfit_any (ao bo : Option Addr) (n m c d : Nat) (w : World) :
    Calls Tryd.prog 8 #[.slice ao n c, .slice bo m d] w fun r w' => r = .returned (.bool (decide (n ≤ 64 ∧ n = m))) ∧ w = w' := by
  by_cases h1 : n ≤ 64
  · have h1I : (n : Int) ≤ 64 := by omega
    by_cases h2 : n = m
    · rw [decide_eq_true (And.intro h1 h2)]
      subst h2
      go_enter Tryd.func8, Tryd.ntmps8
      go_wp2
      go_ret
      exact ⟨rfl, rfl⟩
    · rw [decide_eq_false (fun h => h2 h.2)]
      have h2I : decide ((n : Int) = (m : Int)) = false := decide_eq_false (by omega)
      go_enter Tryd.func8, Tryd.ntmps8
      go_wp2
      go_ret
      exact ⟨by simp; omega, rfl⟩
  · rw [decide_eq_false (fun h => h1 h.1)]
    have h1I : (64 : Int) < (n : Int) := by omega
    go_enter Tryd.func8, Tryd.ntmps8
    go_wp2
    go_ret
    exact ⟨by simp, rfl⟩

set_option maxRecDepth 20000 in
set_option maxHeartbeats 2000000 in
theorem lfits_any (ao bo : Option Addr) (n m c d : Nat) (w : World) :
    Calls Tryd.prog 5 #[.slice ao n c, .slice bo m d] w fun r w' => r = .returned (.int .i64 (if n ≤ 64 ∧ n = m then 0 else 3)) ∧ w = w' := by
  by_cases h2 : n = m
  · subst h2
    by_cases h1 : n ≤ 64
    · rw [if_pos ⟨h1, rfl⟩]
      have h1I : (n : Int) ≤ 64 := by omega
      go_enter Tryd.func5, Tryd.ntmps5
      go_wp2
      go_ret
      exact ⟨rfl, rfl⟩
    · rw [if_neg (fun h => h1 h.1)]
      have h1I : (64 : Int) < (n : Int) := by omega
      go_enter Tryd.func5, Tryd.ntmps5
      go_wp2
      go_ret
      exact ⟨rfl, rfl⟩
  · rw [if_neg (fun h => h2 h.2)]
    have h2I : ¬ ((n : Int) = (m : Int)) := by omega
    go_enter Tryd.func5, Tryd.ntmps5
    go_wp2
    go_ret
    exact ⟨rfl, rfl⟩

set_option maxRecDepth 20000 in
set_option maxHeartbeats 2000000 in
theorem f9_any (b : Nat) (w : World) (_h : b < 18446744073709551616) :
    Calls Tryd.prog 21 #[.int .u64 b] w fun r w' => r = .returned (.float .f64 b) ∧ w = w' := by
  have hF := fun W => frombits5 b W
  have hw : IntKind.u64.wrap (b : Int) = (b : Int) := by simp only [IntKind.wrap_u64]; omega
  go_enter Tryd.func21, Tryd.ntmps21
  go_wp2
  go_ret
  exact ⟨rfl, rfl⟩

/-- The reference's number of Go's own, by its bits. -/
theorem b9_of (R v : Nat) (w : World) (C : ∀ w', Calls Tryd.prog 34 #[.int .u64 (R : Nat)] w' fun r w'' => r = .returned (.int .u64 (v : Nat)) ∧ w' = w'') :
    Calls Tryd.prog 20 #[.float .f64 R] w fun r w' => r = .returned (.int .u64 (v : Nat)) ∧ w = w' := by
  have K := hide C
  have hB := fun R W => tobits5 R W
  clear C
  go_enter Tryd.func20, Tryd.ntmps20
  go_wp2_with fail
  refine (unhide K _).mono ?_
  rintro e w2 ⟨rfl, rfl⟩
  clear K
  go_wp2
  go_ret
  exact ⟨rfl, rfl⟩

set_option maxRecDepth 20000 in
set_option maxHeartbeats 4000000 in
theorem r9add_of (a b v : Nat) (o : Option Nat) (w : World)
    (hA : ∀ i w', (binOp .add i (.float .f64 a) (.float .f64 b)).run Tryd.prog w' = .ok (.float .f64 (fres o a b w')) (fwld o w'))
    (F1 : ∀ w', Calls Tryd.prog 21 #[.int .u64 a] w' fun r w'' => r = .returned (.float .f64 a) ∧ w' = w'')
    (F2 : ∀ w', Calls Tryd.prog 21 #[.int .u64 b] w' fun r w'' => r = .returned (.float .f64 b) ∧ w' = w'')
    (N1 : ∀ u w', Calls Tryd.prog 20 #[.float .f64 (fres o a b u)] w' fun r w'' => r = .returned (.int .u64 v) ∧ w' = w'') :
    Calls Tryd.prog 11 #[.int .u64 a, .int .u64 b] w fun r w' => r = .returned (.int .u64 (v : Nat)) ∧ Below w.heap.size w w' := by
  have L1 := hide F1; have L2 := hide F2; have M1 := hide N1
  have B := hide (below_fwld o w)
  clear F1 F2 N1
  go_enter Tryd.func11, Tryd.ntmps11
  go_wp2_with fail
  refine (unhide L1 _).mono ?_
  rintro e w2 ⟨rfl, rfl⟩
  go_wp2_with fail
  refine (unhide L2 _).mono ?_
  rintro e w2 ⟨rfl, rfl⟩
  go_wp2_with fail
  refine (unhide M1 _ _).mono ?_
  rintro e w2 ⟨rfl, rfl⟩
  clear L1 L2 M1
  go_wp2
  go_ret
  exact ⟨rfl, unhide B⟩

theorem r9add_any (a b : Nat) (w : World) (ha : a < 18446744073709551616) (hb : b < 18446744073709551616) :
    Calls Tryd.prog 11 #[.int .u64 a, .int .u64 b] w fun r w' => r = .returned (.int .u64 (aV a b : Nat)) ∧ Below w.heap.size w w' :=
  r9add_of a b (aV a b) (Ieee.double.add a b) w (fun i w' => fadd_run i a b w') (fun w' => f9_any a w' ha) (fun w' => f9_any b w' hb) (fun u w' => b9_of _ _ w' (fun w'' => canon_add a b u w'' ha hb))

set_option maxRecDepth 20000 in
set_option maxHeartbeats 4000000 in
theorem r9mul_of (a b v : Nat) (o : Option Nat) (w : World)
    (hA : ∀ i w', (binOp .mul i (.float .f64 a) (.float .f64 b)).run Tryd.prog w' = .ok (.float .f64 (fres o a b w')) (fwld o w'))
    (F1 : ∀ w', Calls Tryd.prog 21 #[.int .u64 a] w' fun r w'' => r = .returned (.float .f64 a) ∧ w' = w'')
    (F2 : ∀ w', Calls Tryd.prog 21 #[.int .u64 b] w' fun r w'' => r = .returned (.float .f64 b) ∧ w' = w'')
    (N1 : ∀ u w', Calls Tryd.prog 20 #[.float .f64 (fres o a b u)] w' fun r w'' => r = .returned (.int .u64 v) ∧ w' = w'') :
    Calls Tryd.prog 12 #[.int .u64 a, .int .u64 b] w fun r w' => r = .returned (.int .u64 (v : Nat)) ∧ Below w.heap.size w w' := by
  have L1 := hide F1; have L2 := hide F2; have M1 := hide N1
  have B := hide (below_fwld o w)
  clear F1 F2 N1
  go_enter Tryd.func12, Tryd.ntmps12
  go_wp2_with fail
  refine (unhide L1 _).mono ?_
  rintro e w2 ⟨rfl, rfl⟩
  go_wp2_with fail
  refine (unhide L2 _).mono ?_
  rintro e w2 ⟨rfl, rfl⟩
  go_wp2_with fail
  refine (unhide M1 _ _).mono ?_
  rintro e w2 ⟨rfl, rfl⟩
  clear L1 L2 M1
  go_wp2
  go_ret
  exact ⟨rfl, unhide B⟩

theorem r9mul_any (a b : Nat) (w : World) (ha : a < 18446744073709551616) (hb : b < 18446744073709551616) :
    Calls Tryd.prog 12 #[.int .u64 a, .int .u64 b] w fun r w' => r = .returned (.int .u64 (mV a b : Nat)) ∧ Below w.heap.size w w' :=
  r9mul_of a b (mV a b) (Ieee.double.mul a b) w (fun i w' => fmul_run i a b w') (fun w' => f9_any a w' ha) (fun w' => f9_any b w' hb) (fun u w' => b9_of _ _ w' (fun w'' => canon_mul a b u w'' ha hb))

end Go.Proofs.YtlbggedahpnjgaaDoor

