/- Part 38 of the texts. -/
import Derived.Test.YtceofkjefmilfaaGreatDoorPartd32
import Derived.Test.YtceofkjefmilfaaGreatDoorPartd37
import Derived.Test.YtceofkjefmilfaaGreatDoorPartd33
import Derived.Deep.RegionLaw
import Derived.Deep.RegionWith
import Derived.Test.YtceofkjefmilfaaGreatDoorPartd27
import Derived.Deep.RegionHeld3
import Derived.Test.YtceofkjefmilfaaGreatDoorPartd29
import Derived.Test.YtceofkjefmilfaaGreatDoorPartd31
/- The turn of two numbers in the document's order; what it leaves, in exact numbers. Ahead of stage 12 (GivensOne, GivensRight, GivensKeeps). -/
namespace Go.Proofs.YtceofkjefmilfaaGreatDoor

/-- The turn of f and g: c, s and r. -/
def gvC (f g : Nat) : Nat := if fK g = 0 then 4607182418800017408 else if fK f = 0 then 0 else dV (xV f (-gvK f g)) (gvN f g)
def gvS (f g : Nat) : Nat := if fK g = 0 then 0 else if fK f = 0 then 4607182418800017408 else dV (xV g (-gvK f g)) (gvN f g)
def gvR (f g : Nat) : Nat := if fK g = 0 then f else if fK f = 0 then g else xV (gvN f g) (gvK f g)

/-- Neither very great nor very small. -/
def TameO (x : Nat) : Prop := x < 18446744073709551616 ∧ fFin x = true ∧ (fK x = 0 ∨ (-400 ≤ eX x ∧ eX x < 400))
theorem TameO.of {x : Nat} (hx : x < 18446744073709551616) (h : tmB 400 x = true) : TameO x := by
  unfold tmB at h
  rw [Bool.and_eq_true, Bool.or_eq_true, decide_eq_true_eq, decide_eq_true_eq] at h
  exact ⟨hx, h.1, h.2⟩
theorem TameO.strict {x : Nat} (h : TameO x) (h0 : fK x ≠ 0) : TameN x := ⟨h.1, h.2.1, h0, (h.2.2.resolve_left h0).1, (h.2.2.resolve_left h0).2⟩

theorem fQ_one12 : fQ 4607182418800017408 = 1 := by
  unfold fQ
  rw [fZ_one11, show ((2 ^ 1074 : Int) : Rat) = p2 (1074 : Nat) from (p2_int 1074).symm, ← p2_add]
  exact p2_0
theorem fQ_zero12 : fQ 0 = 0 := by
  unfold fQ
  rw [fZ_zero11]
  exact Rat.zero_mul _
theorem fin_one12 : fFin 4607182418800017408 = true := by decide +kernel
theorem fin_zero12 : fFin 0 = true := by decide +kernel
theorem ab_zero12 : ab 0 = 0 := by unfold ab; grind

/-- What the turn leaves. -/
theorem gv_facts {f g : Nat} (hf : TameO f) (hg : TameO g) :
    fFin (gvC f g) = true ∧ fFin (gvS f g) = true ∧ fFin (gvR f g) = true ∧ gvC f g < 18446744073709551616 ∧ gvS f g < 18446744073709551616 ∧ gvR f g < 18446744073709551616 ∧
    281474976710656 * ab (fQ (gvC f g) * fQ (gvC f g) + fQ (gvS f g) * fQ (gvS f g) - 1) ≤ 1 ∧
    281474976710656 * ab (fQ (gvC f g) * fQ f + fQ (gvS f g) * fQ g - fQ (gvR f g)) ≤ ab (fQ (gvR f g)) ∧
    281474976710656 * ab (fQ (gvC f g) * fQ g - fQ (gvS f g) * fQ f) ≤ ab (fQ (gvR f g)) := by
  unfold gvC gvS gvR
  by_cases g0 : fK g = 0
  · rw [if_pos g0, if_pos g0, if_pos g0, fQ_one12, fQ_zero12, fQ_nought g g0]
    have := ab_0 (fQ f)
    refine ⟨fin_one12, fin_zero12, hf.2.1, by decide, by decide, hf.1, ?_, ?_, ?_⟩
    · rw [show (1 : Rat) * 1 + 0 * 0 - 1 = 0 by grind, ab_zero12, Rat.mul_zero]; decide
    · rw [show (1 : Rat) * fQ f + 0 * 0 - fQ f = 0 by grind, ab_zero12]; grind
    · rw [show (1 : Rat) * 0 - 0 * fQ f = 0 by grind, ab_zero12]; grind
  · rw [if_neg g0, if_neg g0, if_neg g0]
    by_cases f0 : fK f = 0
    · rw [if_pos f0, if_pos f0, if_pos f0, fQ_one12, fQ_zero12, fQ_nought f f0]
      have := ab_0 (fQ g)
      refine ⟨fin_zero12, fin_one12, hg.2.1, by decide, by decide, hg.1, ?_, ?_, ?_⟩
      · rw [show (0 : Rat) * 0 + 1 * 1 - 1 = 0 by grind, ab_zero12, Rat.mul_zero]; decide
      · rw [show (0 : Rat) * 0 + 1 * fQ g - fQ g = 0 by grind, ab_zero12]; grind
      · rw [show (0 : Rat) * fQ g - 1 * 0 = 0 by grind, ab_zero12]; grind
    · rw [if_neg f0, if_neg f0, if_neg f0]
      obtain ⟨k, hk⟩ : ∃ k, k = gvK f g := ⟨_, rfl⟩
      obtain ⟨n, hn⟩ : ∃ n, n = gvN f g := ⟨_, rfl⟩
      rw [← hk, ← hn]
      obtain ⟨q1, q2, q3, q4, q5, q6, q7, q8, q9, q10, q11, q12⟩ := gv_core f g n _ _ k (fQ f * p2 (-k)) (fQ g * p2 (-k)) (hf.strict f0) (hg.strict g0) hk hn rfl rfl rfl rfl
      obtain ⟨r1, r2, r3⟩ := gv_right (fQ n) _ _ _ _ q5 q7 q8 q11 q12
      have pk := p2_pos k
      have n0 : 0 ≤ fQ n := by grind
      have an : ab (fQ n) = fQ n := ab_pos n0
      have e1 := p2_mono (show -400 ≤ k by omega)
      have e2 := p2_mono (show k + 2 ≤ 402 by omega)
      have e3 := p2_mono (show (-1022 : Int) ≤ -401 by omega)
      have e4 : p2 402 < p2 1023 := p2_lt (by omega)
      have e5 : p2 (k + 2) = p2 k * 4 := by rw [p2_add, show p2 2 = 4 from rfl]
      have e6 : p2 (-400) = p2 (-401) * 2 := by rw [show (-400 : Int) = -401 + 1 by omega, p2_add, show p2 1 = 2 from rfl]
      have m1 := Rat.mul_le_mul_of_nonneg_left q6 (Rat.le_of_lt pk)
      have m2 := Rat.mul_le_mul_of_nonneg_left q5 (Rat.le_of_lt pk)
      obtain ⟨s1, s2⟩ := scale_exact n k q2 q3 (by rw [an]; grind) (by rw [an]; grind)
      have p1 : p2 (-k) * p2 k = 1 := by rw [← p2_add, show -k + k = 0 by omega]; exact p2_0
      obtain ⟨c, hc⟩ : ∃ c, c = fQ (dV (xV f (-k)) n) := ⟨_, rfl⟩
      obtain ⟨s, hs⟩ : ∃ s, s = fQ (dV (xV g (-k)) n) := ⟨_, rfl⟩
      rw [← hc, ← hs] at r1 r2 r3 ⊢
      rw [s2]
      have ar : ab (fQ n * p2 k) = fQ n * p2 k := ab_pos (Rat.mul_nonneg n0 (Rat.le_of_lt pk))
      rw [ar]
      have ef : fQ f = fQ f * p2 (-k) * p2 k := by rw [Rat.mul_assoc, p1, Rat.mul_one]
      have eg : fQ g = fQ g * p2 (-k) * p2 k := by rw [Rat.mul_assoc, p1, Rat.mul_one]
      generalize fQ f * p2 (-k) = A at *
      generalize fQ g * p2 (-k) = B at *
      rw [ef, eg]
      have a1 : ab (c * (A * p2 k) + s * (B * p2 k) - fQ n * p2 k) = ab (c * A + s * B - fQ n) * p2 k := by
        rw [show c * (A * p2 k) + s * (B * p2 k) - fQ n * p2 k = (c * A + s * B - fQ n) * p2 k by grind, ab_mul, ab_pos (Rat.le_of_lt pk)]
      have a2 : ab (c * (B * p2 k) - s * (A * p2 k)) = ab (c * B - s * A) * p2 k := by
        rw [show c * (B * p2 k) - s * (A * p2 k) = (c * B - s * A) * p2 k by grind, ab_mul, ab_pos (Rat.le_of_lt pk)]
      refine ⟨q9, q10, s1, dV_lt _ _, dV_lt _ _, xV_lt _ _ q2, r1, ?_, ?_⟩
      · rw [a1, ← Rat.mul_assoc]
        exact Rat.mul_le_mul_of_nonneg_right r2 (Rat.le_of_lt pk)
      · rw [a2, ← Rat.mul_assoc]
        exact Rat.mul_le_mul_of_nonneg_right r3 (Rat.le_of_lt pk)

/-- c and s are at most 2. -/
theorem gv_small {c s : Rat} (h : 281474976710656 * ab (c * c + s * s - 1) ≤ 1) : ab c ≤ 2 ∧ ab s ≤ 2 := by
  have h1 : c * c + s * s - 1 ≤ ab (c * c + s * s - 1) := by unfold ab; grind
  have c0 : 0 ≤ c * c := by
    rcases Rat.le_total (a := 0) (b := c) with h | h
    · exact Rat.mul_nonneg h h
    · have := Rat.mul_nonneg (show 0 ≤ -c by grind) (show 0 ≤ -c by grind); grind
  have s0 : 0 ≤ s * s := by
    rcases Rat.le_total (a := 0) (b := s) with h | h
    · exact Rat.mul_nonneg h h
    · have := Rat.mul_nonneg (show 0 ≤ -s by grind) (show 0 ≤ -s by grind); grind
  have key : ∀ x : Rat, x * x ≤ 2 → ab x ≤ 2 := by
    intro x hx
    rcases Rat.le_total (a := ab x) (b := 2) with h | h
    · exact h
    · have a0 := ab_0 x
      have e : ab x * ab x = x * x := by rw [← ab_mul]; exact ab_pos (by rcases Rat.le_total (a := 0) (b := x) with g | g; exact Rat.mul_nonneg g g; have := Rat.mul_nonneg (show 0 ≤ -x by grind) (show 0 ≤ -x by grind); grind)
      have := Rat.mul_le_mul_of_nonneg_left h a0
      grind
  exact ⟨key c (by grind), key s (by grind)⟩

end Go.Proofs.YtceofkjefmilfaaGreatDoor

/- What the turn of two numbers leaves, in whole numbers (GivensOne, GivensRight); rows turned keep the square (GivensKeeps). Ahead of stage 12. -/
namespace Go.Proofs.YtceofkjefmilfaaGreatDoor

theorem ab_int (d : Int) : ab (d : Rat) = ((d.natAbs : Int) : Rat) := by
  unfold ab
  rcases Int.le_total 0 d with g | g
  · have : (0 : Rat) ≤ (d : Rat) := Rat.intCast_nonneg.2 g
    rw [show ((d.natAbs : Nat) : Int) = d by omega]
    grind
  · have : (d : Rat) ≤ 0 := by
      have := Rat.intCast_le_intCast.2 g
      grind
    rw [show ((d.natAbs : Nat) : Int) = -d by omega, Rat.intCast_neg]
    grind
/-- A bound in rational numbers, said in whole ones. -/
theorem int_form {N Z W : Int} {p : Rat} (hp : 0 < p) (h : (N : Rat) * ab ((Z : Rat) * p) ≤ (W : Rat) * p) : (Z.natAbs : Int) * N ≤ W := by
  rw [ab_mul, ab_pos (Rat.le_of_lt hp), ← Rat.mul_assoc] at h
  have h4 := Rat.le_of_mul_le_mul_right h hp
  rw [ab_int, ← Rat.intCast_mul, Rat.intCast_le_intCast] at h4
  rw [Int.mul_comm]
  exact h4
theorem p2_split : p2 (-2148) = p2 (-1074) * p2 (-1074) := by rw [← p2_add]; rfl
theorem mul_noughts12 (a b : Nat) (fa : fFin a = true) (fb : fFin b = true) (h : fQ a * fQ b = 0) : fFin (mV a b) = true ∧ fQ (mV a b) = 0 := by
  have a0 : ab (0 : Rat) = 0 := by unfold ab; grind
  have hf := mul_fin a b fa fb (by rw [h, a0]; exact p2_pos _)
  refine ⟨hf, ?_⟩
  have e := mul_err a b fa fb hf
  rw [h, a0, show fQ (mV a b) - 0 = fQ (mV a b) by grind] at e
  rcases e with e | ⟨_, e⟩
  · have := le_ab (fQ (mV a b)); have := ab_0 (fQ (mV a b)); grind
  · have hp := p2_pos (-1074)
    unfold fQ at e ⊢
    rw [ab_mul, ab_pos (Rat.le_of_lt hp)] at e
    obtain ⟨z, hz⟩ : ∃ z : Int, fZ (mV a b) = z := ⟨_, rfl⟩
    rw [hz] at e ⊢
    rcases Int.lt_trichotomy z 0 with g | g | g
    · exfalso
      have k : (z : Rat) ≤ ((-1 : Int) : Rat) := Rat.intCast_le_intCast.2 (by omega)
      have k2 : ((-1 : Int) : Rat) = -1 := rfl
      have l := le_ab (z : Rat)
      have m := Rat.mul_le_mul_of_nonneg_left (show 1 ≤ ab (z : Rat) by grind) (Rat.le_of_lt hp)
      generalize p2 (-1074) = P at *
      grind
    · rw [g]
      have k2 : ((0 : Int) : Rat) = 0 := rfl
      rw [k2]
      grind
    · exfalso
      have k : ((1 : Int) : Rat) ≤ (z : Rat) := Rat.intCast_le_intCast.2 (by omega)
      have k2 : ((1 : Int) : Rat) = 1 := rfl
      have l := le_ab (z : Rat)
      have m := Rat.mul_le_mul_of_nonneg_left (show 1 ≤ ab (z : Rat) by grind) (Rat.le_of_lt hp)
      generalize p2 (-1074) = P at *
      grind

theorem add_noughts12 (a b : Nat) (fa : fFin a = true) (fb : fFin b = true) (h : fQ a + fQ b = 0) : fFin (aV a b) = true ∧ fQ (aV a b) = 0 := by
  have a0 : ab (0 : Rat) = 0 := by unfold ab; grind
  have hf := add_fin a b fa fb (by rw [h, a0]; exact p2_pos _)
  refine ⟨hf, ?_⟩
  have e := add_err a b fa fb hf
  rw [h, a0, show fQ (aV a b) - 0 = fQ (aV a b) by grind] at e
  have := le_ab (fQ (aV a b)); have := ab_0 (fQ (aV a b)); grind

theorem fQ_fN12 (a : Nat) (ha : a < 18446744073709551616) : fQ (fN a) = -fQ a := by
  unfold fQ
  rw [fZ_fN a ha, Rat.intCast_neg]
  grind

/-- The sum of two products, the second one's sign turned. -/
theorem two_less (c s x y : Nat) (fc : fFin c = true) (fs : fFin s = true) (fx : fFin x = true) (fy : fFin y = true) (hc : ab (fQ c) ≤ 2) (hs : ab (fQ s) ≤ 2) (hx : ab (fQ x) ≤ p2 1000) (hy : ab (fQ y) ≤ p2 1000)
    (hM : 1267650600228229401496703205376 * p2 (-1075) ≤ ab (fQ x) + ab (fQ y)) :
    fFin (aV (mV c x) (fN (mV s y))) = true ∧ 9007199254740992 * ab (fQ (aV (mV c x) (fN (mV s y))) - (fQ c * fQ x - fQ s * fQ y)) ≤ 5 * (ab (fQ x) + ab (fQ y)) := by
  have x0 := ab_0 (fQ x); have y0 := ab_0 (fQ y)
  have t2 := Rat.mul_le_mul_of_nonneg_left hc x0
  have t3 := Rat.mul_le_mul_of_nonneg_left hs y0
  have ecx : ab (fQ c * fQ x) = ab (fQ x) * ab (fQ c) := by rw [ab_mul, Rat.mul_comm]
  have esy : ab (fQ s * fQ y) = ab (fQ y) * ab (fQ s) := by rw [ab_mul, Rat.mul_comm]
  have hB : 16 * p2 1000 ≤ p2 1023 ∧ 0 < p2 1000 ∧ 16 ≤ p2 1023 := by
    have h1 := p2_mono (show (1000 + 1 + 1 + 1 + 1 : Int) ≤ 1023 by decide)
    simp only [p2_succ] at h1
    have := p2_big
    exact ⟨by grind, p2_pos _, by grind⟩
  obtain ⟨B1, B2, B3⟩ := hB
  obtain ⟨n1, n2, n3⟩ := eta_small
  obtain ⟨f1, e1⟩ := mul_err2 c x fc fx (by rw [ecx]; grind)
  obtain ⟨f2, e2⟩ := mul_err2 s y fs fy (by rw [esy]; grind)
  have hq : fQ (fN (mV s y)) = -fQ (mV s y) := fQ_fN12 _ (mV_lt _ _)
  have f3 : fFin (fN (mV s y)) = true := by rw [fFin_fN _ (mV_lt _ _)]; exact f2
  have l1 := le_ab (fQ (mV c x) - fQ c * fQ x); have l2 := le_ab (fQ (mV s y) - fQ s * fQ y)
  have l3 := le_ab (fQ c * fQ x); have l4 := le_ab (fQ s * fQ y)
  have tt := ab_le (x := fQ (mV c x) + fQ (fN (mV s y))) (y := ab (fQ (mV c x) - fQ c * fQ x) + ab (fQ (mV s y) - fQ s * fQ y) + ab (fQ c * fQ x) + ab (fQ s * fQ y)) (by rw [hq]; grind) (by rw [hq]; grind)
  have fa := add_fin _ _ f1 f3 (by grind)
  have ea := add_err _ _ f1 f3 fa
  refine ⟨fa, ?_⟩
  rw [hq] at ea tt
  have l5 := le_ab (fQ (aV (mV c x) (fN (mV s y))) - (fQ (mV c x) + -fQ (mV s y)))
  have ll := ab_le (x := fQ (aV (mV c x) (fN (mV s y))) - (fQ c * fQ x - fQ s * fQ y)) (y := ab (fQ (aV (mV c x) (fN (mV s y))) - (fQ (mV c x) + -fQ (mV s y))) + ab (fQ (mV c x) - fQ c * fQ x) + ab (fQ (mV s y) - fQ s * fQ y)) (by grind) (by grind)
  rw [ecx] at e1 tt
  rw [esy] at e2 tt
  clear l1 l2 l3 l4 l5 hq
  generalize ab (fQ (aV (mV c x) (fN (mV s y))) - (fQ c * fQ x - fQ s * fQ y)) = z0 at *
  generalize ab (fQ (aV (mV c x) (fN (mV s y))) - (fQ (mV c x) + -fQ (mV s y))) = z1 at *
  generalize ab (fQ (mV c x) - fQ c * fQ x) = z2 at *
  generalize ab (fQ (mV s y) - fQ s * fQ y) = z3 at *
  generalize ab (fQ (mV c x) + -fQ (mV s y)) = z4 at *
  generalize ab (fQ x) * ab (fQ c) = z5 at *
  generalize ab (fQ y) * ab (fQ s) = z6 at *
  generalize ab (fQ x) = z7 at *
  generalize ab (fQ y) = z8 at *
  generalize p2 (-1075) = η at *
  grind

/-- A tame number is no greater than 2^400; if it is not 0, no less than 2^-400. -/
theorem TameO.size {x : Nat} (h : TameO x) : ab (fQ x) ≤ p2 400 ∧ (fQ x = 0 ∨ p2 (-400) ≤ ab (fQ x)) := by
  by_cases h0 : fK x = 0
  · rw [fQ_nought x h0, ab_zero12]
    exact ⟨Rat.le_of_lt (p2_pos _), .inl rfl⟩
  · obtain ⟨t1, t2⟩ := eX_top x h.1 h.2.1 h0
    have h2 := h.2.2.resolve_left h0
    have m1 := p2_mono (show -400 ≤ eX x by omega)
    have m2 := p2_mono (show eX x + 1 ≤ 400 by omega)
    exact ⟨by grind, .inr (by grind)⟩

/-- Two numbers turned: finite, and the same square but for a part in 2^41. -/
theorem pair_keeps {c s x y : Nat} (fc : fFin c = true) (fs : fFin s = true) (hcs : 281474976710656 * ab (fQ c * fQ c + fQ s * fQ s - 1) ≤ 1) (hx : TameO x) (hy : TameO y) :
    fFin (aV (mV c x) (mV s y)) = true ∧ fFin (aV (mV c y) (fN (mV s x))) = true ∧
    2199023255552 * ab (fQ (aV (mV c x) (mV s y)) * fQ (aV (mV c x) (mV s y)) + fQ (aV (mV c y) (fN (mV s x))) * fQ (aV (mV c y) (fN (mV s x))) - (fQ x * fQ x + fQ y * fQ y)) ≤ fQ x * fQ x + fQ y * fQ y := by
  obtain ⟨hc, hs⟩ := gv_small hcs
  obtain ⟨x1, x2⟩ := hx.size
  obtain ⟨y1, y2⟩ := hy.size
  have a0 := ab_zero12
  by_cases h0 : fQ x = 0 ∧ fQ y = 0
  · obtain ⟨hx0, hy0⟩ := h0
    obtain ⟨u1, u2⟩ := mul_noughts12 c x fc hx.2.1 (by rw [hx0, Rat.mul_zero])
    obtain ⟨u3, u4⟩ := mul_noughts12 s y fs hy.2.1 (by rw [hy0, Rat.mul_zero])
    obtain ⟨u5, u6⟩ := mul_noughts12 c y fc hy.2.1 (by rw [hy0, Rat.mul_zero])
    obtain ⟨u7, u8⟩ := mul_noughts12 s x fs hx.2.1 (by rw [hx0, Rat.mul_zero])
    have v1 : fFin (fN (mV s x)) = true := by rw [fFin_fN _ (mV_lt _ _)]; exact u7
    have v2 : fQ (fN (mV s x)) = 0 := by rw [fQ_fN12 _ (mV_lt _ _), u8]; rfl
    obtain ⟨w1, w2⟩ := add_noughts12 _ _ u1 u3 (by rw [u2, u4]; exact Rat.add_zero 0)
    obtain ⟨w3, w4⟩ := add_noughts12 _ _ u5 v1 (by rw [u6, v2]; exact Rat.add_zero 0)
    refine ⟨w1, w3, ?_⟩
    rw [w2, w4, hx0, hy0, show (0 : Rat) * 0 + 0 * 0 - (0 * 0 + 0 * 0) = 0 by grind, a0]
    grind
  · have b1 := p2_mono (show (400 : Int) ≤ 1000 by decide)
    have e1 := eta_p2 (-400) (by decide)
    have ax := ab_0 (fQ x); have ay := ab_0 (fQ y)
    have hM : 1267650600228229401496703205376 * p2 (-1075) ≤ ab (fQ x) + ab (fQ y) := by
      rcases x2 with x2 | x2
      · rcases y2 with y2 | y2
        · exact absurd ⟨x2, y2⟩ h0
        · grind
      · grind
    obtain ⟨w1, w2⟩ := two_err c s x y fc fs hx.2.1 hy.2.1 hc hs (by grind) (by grind) hM
    obtain ⟨w3, w4⟩ := two_less c s y x fc fs hy.2.1 hx.2.1 hc hs (by grind) (by grind) (by grind)
    exact ⟨w1, w3, turn_alg _ _ _ _ _ _ hc hs hcs w2 (by rw [show ab (fQ x) + ab (fQ y) = ab (fQ y) + ab (fQ x) by grind]; exact w4)⟩

theorem n41 : ((2 ^ 41 : Int) : Rat) = 2199023255552 := by
  rw [show (2 ^ 41 : Int) = 2199023255552 by decide]
  rfl
/-- The same in whole numbers. -/
theorem pair_int {x y X Y : Nat} (h : 2199023255552 * ab (fQ X * fQ X + fQ Y * fQ Y - (fQ x * fQ x + fQ y * fQ y)) ≤ fQ x * fQ x + fQ y * fQ y) :
    ((fZ X * fZ X + fZ Y * fZ Y - (fZ x * fZ x + fZ y * fZ y)).natAbs : Int) * 2 ^ 41 ≤ fZ x * fZ x + fZ y * fZ y := by
  refine int_form (p2_pos (-2148)) ?_
  rw [n41, p2_split]
  have e1 : ((fZ X * fZ X + fZ Y * fZ Y - (fZ x * fZ x + fZ y * fZ y) : Int) : Rat) * (p2 (-1074) * p2 (-1074)) = fQ X * fQ X + fQ Y * fQ Y - (fQ x * fQ x + fQ y * fQ y) := by
    rw [Rat.intCast_sub, Rat.intCast_add, Rat.intCast_add, Rat.intCast_mul, Rat.intCast_mul, Rat.intCast_mul, Rat.intCast_mul]
    unfold fQ
    grind
  have e2 : ((fZ x * fZ x + fZ y * fZ y : Int) : Rat) * (p2 (-1074) * p2 (-1074)) = fQ x * fQ x + fQ y * fQ y := by
    rw [Rat.intCast_add, Rat.intCast_mul, Rat.intCast_mul]
    unfold fQ
    grind
  rw [e1, e2]
  exact h

theorem smI_le {f g : Nat → Int} (n : Nat) (h : ∀ i, i < n → f i ≤ g i) : smI f n ≤ smI g n := by
  induction n with
  | zero => exact Int.le_refl _
  | succ n ih =>
    have h1 := ih (fun i hi => h i (by omega))
    have h2 := h n (by omega)
    show smI f n + f n ≤ smI g n + g n
    omega
theorem smI_small {d v : Nat → Int} {N : Int} (hN : 0 ≤ N) (n : Nat) (h : ∀ i, i < n → ((d i).natAbs : Int) * N ≤ v i) : ((smI d n).natAbs : Int) * N ≤ smI v n := by
  induction n with
  | zero =>
    show ((0 : Int).natAbs : Int) * N ≤ 0
    simp
  | succ n ih =>
    have h1 := ih (fun i hi => h i (by omega))
    have h2 := h n (by omega)
    show ((smI d n + d n).natAbs : Int) * N ≤ smI v n + v n
    have h3 : (((smI d n + d n).natAbs : Nat) : Int) ≤ ((smI d n).natAbs : Int) + ((d n).natAbs : Int) := by omega
    have h4 := Int.mul_le_mul_of_nonneg_right h3 hN
    rw [Int.add_mul] at h4
    omega
theorem smI_sub (f g : Nat → Int) (n : Nat) : smI (fun i => f i - g i) n = smI f n - smI g n := by
  induction n with
  | zero => rfl
  | succ n ih =>
    show smI (fun i => f i - g i) n + (f n - g n) = smI f n + f n - (smI g n + g n)
    rw [ih]
    omega
theorem smI_two (f : Nat → Int) {i k n : Nat} (hi : i < n) (hk : k < n) : smI (fun p => f p * (if p = i then 1 else 0) + f p * (if p = k then 1 else 0)) n = f i + f k := by
  rw [smI_add (fun p => f p * (if p = i then 1 else 0)) (fun p => f p * (if p = k then 1 else 0)), smI_pick, smI_pick, if_pos hi, if_pos hk, Int.mul_one, Int.mul_one]

/-- Two rows of a matrix turned. -/
def roM (r c : Nat) (S : List Nat) (i k C s : Nat) : List Nat := mkM r c (fun p q => if p = i then aV (mV C (elM c S i q)) (mV s (elM c S k q)) else if p = k then aV (mV C (elM c S k q)) (fN (mV s (elM c S i q))) else elM c S p q)
theorem roM_len (r c : Nat) (S : List Nat) (i k C s : Nat) : (roM r c S i k C s).length = r * c := mkM_len _ _ _
theorem el_ro (r c : Nat) (S : List Nat) (i k C s : Nat) {p q : Nat} (hp : p < r) (hq : q < c) : elM c (roM r c S i k C s) p q = if p = i then aV (mV C (elM c S i q)) (mV s (elM c S k q)) else if p = k then aV (mV C (elM c S k q)) (fN (mV s (elM c S i q))) else elM c S p q := el_mk r c _ hp hq

/-- A matrix with two rows turned has the same square, but for a part in 2^41. -/
theorem rows_keep {r c : Nat} {S : List Nat} {i k C s : Nat} (hS : S.length = r * c) (hi : i < r) (hk : k < r) (hne : i ≠ k) (fc : fFin C = true) (fs : fFin s = true) (hcs : 281474976710656 * ab (fQ C * fQ C + fQ s * fQ s - 1) ≤ 1) (hT : ∀ p q, p < r → q < c → TameO (elM c S p q)) :
    ((sqZ (roM r c S i k C s) - sqZ S).natAbs : Int) * 2 ^ 41 ≤ sqZ S := by
  rw [sqZ_grid r c _ (roM_len r c S i k C s), sqZ_grid r c S hS, smI_swap (fun p q => fZ (elM c (roM r c S i k C s) p q) * fZ (elM c (roM r c S i k C s) p q)) r c, smI_swap (fun p q => fZ (elM c S p q) * fZ (elM c S p q)) r c, ← smI_sub]
  refine smI_small (Int.le_of_lt (Int.pow_pos (show (0 : Int) < 2 by decide))) c (fun q hq => ?_)
  obtain ⟨_, _, h⟩ := pair_keeps fc fs hcs (hT i q hi hq) (hT k q hk hq)
  have h1 := pair_int h
  have e1 : smI (fun p => fZ (elM c (roM r c S i k C s) p q) * fZ (elM c (roM r c S i k C s) p q)) r - smI (fun p => fZ (elM c S p q) * fZ (elM c S p q)) r = fZ (aV (mV C (elM c S i q)) (mV s (elM c S k q))) * fZ (aV (mV C (elM c S i q)) (mV s (elM c S k q))) + fZ (aV (mV C (elM c S k q)) (fN (mV s (elM c S i q)))) * fZ (aV (mV C (elM c S k q)) (fN (mV s (elM c S i q)))) - (fZ (elM c S i q) * fZ (elM c S i q) + fZ (elM c S k q) * fZ (elM c S k q)) := by
    rw [← smI_sub]
    have e2 := smI_two (fun p => fZ (elM c (roM r c S i k C s) p q) * fZ (elM c (roM r c S i k C s) p q) - fZ (elM c S p q) * fZ (elM c S p q)) hi hk
    rw [smI_congr (g := fun p => fZ (elM c (roM r c S i k C s) p q) * fZ (elM c (roM r c S i k C s) p q) - fZ (elM c S p q) * fZ (elM c S p q)) r (fun p hp => ?_)] at e2
    · rw [e2, el_ro r c S i k C s hi hq, el_ro r c S i k C s hk hq, if_pos rfl, if_neg (fun e => hne e.symm), if_pos rfl]
      omega
    · by_cases p1 : p = i
      · rw [if_pos p1, if_neg (fun e => hne (p1.symm.trans e)), Int.mul_one, Int.mul_zero, Int.add_zero]
      · by_cases p2 : p = k
        · rw [if_neg p1, if_pos p2, Int.mul_one, Int.mul_zero, Int.zero_add]
        · rw [if_neg p1, if_neg p2, Int.mul_zero, Int.add_zero, el_ro r c S i k C s hp hq, if_neg p1, if_neg p2]
          omega
  rw [e1]
  refine Int.le_trans h1 ?_
  have e3 := smI_two (fun p => fZ (elM c S p q) * fZ (elM c S p q)) hi hk
  rw [← e3]
  refine smI_le r (fun p _ => ?_)
  have g0 := sq_ge (fZ (elM c S p q))
  by_cases p1 : p = i
  · rw [if_pos p1, if_neg (fun e => hne (p1.symm.trans e)), Int.mul_one, Int.mul_zero, Int.add_zero]
    exact Int.le_refl _
  · by_cases p2 : p = k
    · rw [if_neg p1, if_pos p2, Int.mul_one, Int.mul_zero, Int.zero_add]
      exact Int.le_refl _
    · rw [if_neg p1, if_neg p2, Int.mul_zero, Int.add_zero]
      exact g0
/-- Its numbers are finite. -/
theorem rows_fin {r c : Nat} {S : List Nat} {i k C s : Nat} (hi : i < r) (hk : k < r) (fc : fFin C = true) (fs : fFin s = true) (hcs : 281474976710656 * ab (fQ C * fQ C + fQ s * fQ s - 1) ≤ 1) (hT : ∀ p q, p < r → q < c → TameO (elM c S p q)) :
    ∀ x ∈ roM r c S i k C s, fFin x = true := by
  intro x hx
  obtain ⟨p, hp, rfl⟩ := List.getElem_of_mem hx
  have hp' := hp
  rw [roM_len] at hp'
  have hc0 : 0 < c := by
    rcases Nat.eq_zero_or_pos c with h | h
    · rw [h, Nat.mul_zero] at hp'; omega
    · exact h
  have hr : p / c < r := Nat.div_lt_of_lt_mul (by rw [Nat.mul_comm]; exact hp')
  have hq : p % c < c := Nat.mod_lt _ hc0
  have g1 : elM c (roM r c S i k C s) (p / c) (p % c) = (roM r c S i k C s)[p] := by
    unfold elM
    rw [Nat.mul_comm, Nat.div_add_mod, List.getD_eq_getElem?_getD, List.getElem?_eq_getElem hp]
    rfl
  rw [← g1, el_ro r c S i k C s hr hq]
  obtain ⟨k1, k2, _⟩ := pair_keeps fc fs hcs (hT i _ hi hq) (hT k _ hk hq)
  by_cases p1 : p / c = i
  · rw [if_pos p1]; exact k1
  · rw [if_neg p1]
    by_cases p2 : p / c = k
    · rw [if_pos p2]; exact k2
    · rw [if_neg p2]; exact (hT _ _ hr hq).2.1

end Go.Proofs.YtceofkjefmilfaaGreatDoor

/- The reference of layer 10: Eye, In. -/
namespace Go.Proofs.YtceofkjefmilfaaGreatDoor
open Go.RowKit
attribute [local go_sem ↓] Go.wp_at_zero Go.wp_at_succ

/-- A matrix in a variable's box at g, the result's box at gr. -/
structure LpSt (w wr : World) (g gr p q : Nat) (mo : Option Addr) (mc : Nat) (S : List Nat) : Prop where
  bel : Below w.heap.size w wr
  box : BoxM wr g (.int .i64 p) (.int .i64 q) (.slice mo S.length mc)
  res : BoxM wr gr (.int .i64 0) (.int .i64 0) (.slice none 0 0)
  bits : BitsAt wr mo mc (mxL S)
  ne : gr ≠ g
  lo : w.heap.size ≤ g
theorem LpSt.all {w wr w' : World} {g gr p q : Nat} {mo : Option Addr} {mc : Nat} {S : List Nat} (h : LpSt w wr g gr p q mo mc S) (hb : Below wr.heap.size wr w') : LpSt w w' g gr p q mo mc S :=
  ⟨h.bel.trans (hb.mono h.bel.size), h.box.all hb, h.res.all hb, h.bits.below hb, h.ne, h.lo⟩
theorem LpSt.put {w wr : World} {g gr p q : Nat} {mo : Option Addr} {mc : Nat} {S : List Nat} (h : LpSt w wr g gr p q mo mc S) {no : Option Addr} {nc : Nat} {T : List Nat} (hT : BitsAt wr no nc (mxL T)) :
    LpSt w (((wr.setCell ⟨g, 0, none⟩ (.int .i64 p)).setCell ⟨g, 1, none⟩ (.int .i64 q)).setCell ⟨g, 2, none⟩ (.slice no T.length nc)) g gr p q no nc T :=
  ⟨below_putM h.bel h.lo _ _ _, h.box.put _ _ _, ((h.res.other (p := ⟨g, 0, none⟩) h.ne _).other (p := ⟨g, 1, none⟩) h.ne _).other (p := ⟨g, 2, none⟩) h.ne _, hT.putM h.box _ _ _, h.ne, h.lo⟩

theorem NewM.any {w : World} {r c : Nat} {S : List Nat} {ao : Option Addr} {cap : Nat} (h : BitsAt w ao cap (mxL S)) : NewM 0 w r c S (.agg #[.int .i64 r, .int .i64 c, .slice ao S.length cap]) := by
  refine ⟨ao, cap, rfl, ?_, h⟩
  rcases h.2.2 with e | ⟨b, off, e1, _, _⟩
  · exact .inl e
  · exact .inr ⟨b, off, e1, Nat.zero_le _⟩

end Go.Proofs.YtceofkjefmilfaaGreatDoor

/- The reference of layer 10: In, Copy, Stack, Beside. -/
namespace Go.Proofs.YtceofkjefmilfaaGreatDoor
open Go.RowKit
attribute [local go_sem ↓] Go.wp_at_zero Go.wp_at_succ
/-- Stores into a box that lies elsewhere. -/
theorem OwnB.putM {base : Nat} {w : World} {v : Value} {S : List Nat} (h : OwnB base w v S) {b : Nat} {x y z : Value} (_hx : BoxM w b x y z) (hb : b < base) (u u' u'' : Value) : OwnB base (((w.setCell ⟨b, 0, none⟩ u).setCell ⟨b, 1, none⟩ u').setCell ⟨b, 2, none⟩ u'') v S := by
  refine ⟨⟨h.1.1, ?_⟩, h.2⟩
  rcases h.1.2 with e | ⟨g, cap, cur, hv, hg, hh, rest⟩
  · exact .inl e
  · refine .inr ⟨g, cap, cur, hv, hg, ?_, rest⟩
    have ne : g ≠ b := by omega
    rw [Below.heap_setCell _ ⟨b, 2, none⟩ u'' g ne, Below.heap_setCell _ ⟨b, 1, none⟩ u' g ne, Below.heap_setCell _ ⟨b, 0, none⟩ u g ne]
    exact hh

end Go.Proofs.YtceofkjefmilfaaGreatDoor

/- The reference of layer 9: Div; of layer 12: Turn. -/
namespace Go.Proofs.YtceofkjefmilfaaGreatDoor
open Go.RowKit
attribute [local go_sem ↓] Go.wp_at_zero Go.wp_at_succ
theorem gvK_range (f g : Nat) : -1074 ≤ gvK f g ∧ gvK f g ≤ 1024 := by
  have h1 := fR_lt f; have h2 := fR_lt g
  exact eX_range _ (by omega)
end Go.Proofs.YtceofkjefmilfaaGreatDoor

