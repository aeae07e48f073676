/- Part 21 of the texts. -/
import Derived.Test.YtenckfflpdgmnabDoorPart20
import Derived.Test.YtenckfflpdgmnabDoorPart19
import Derived.Deep.Cut
import Derived.BigQuiet
/- Sums rise; the difference of two near numbers is exact. -/
namespace Go.Proofs.YtenckfflpdgmnabDoor
open Go.RowKit

theorem fR_wrd (n : Bool) (r : Nat) (h : r < 9223372036854775808) : fR (wrd n r) = r := (wrd_parts n r h).2
theorem fZ_wrd (n : Bool) (r : Nat) (h : r < 9223372036854775808) : fZ (wrd n r) = pv n r := by
  unfold fZ; rw [fS_wrd n r h, fR_wrd n r h]
theorem fK_same {a b : Nat} (h : fR a = fR b) : fK a = fK b := by
  have hF : ∀ b, fF b = fR b % 4503599627370496 := fun b => by unfold fF fR; omega
  have hP : ∀ b, fP b = fR b / 4503599627370496 := fun b => rfl
  unfold fK
  rw [hF, hP, hF b, hP b, h]
theorem fK_fN (b : Nat) (h : b < 18446744073709551616) : fK (fN b) = fK b := fK_same (fR_fN b h)
theorem fFin_fN (b : Nat) (h : b < 18446744073709551616) : fFin (fN b) = fFin b := by
  have e := fR_fN b h
  unfold fFin
  rw [show fP (fN b) = fP b from by show fR (fN b) / 4503599627370496 = fR b / 4503599627370496; rw [e]]
theorem fZ_fN (b : Nat) (h : b < 18446744073709551616) : fZ (fN b) = - fZ b := by
  unfold fZ
  rw [fS_fN b h, fR_fN b h]
  unfold pv
  cases fS b <;> simp

theorem fin_kind {b : Nat} (hf : fFin b = true) : fK b ≠ 3 ∧ fK b ≠ 4 := by
  rcases fK_cases b with ⟨h, _⟩ | ⟨_, h⟩
  · rw [hf] at h; cases h
  · omega

/-- The sum of two finite numbers, and its value. -/
theorem aV_fin (a b : Nat) (fa : fFin a = true) (fb : fFin b = true) : fR (aV a b) = rnd (aZ a b).natAbs (-1074) ∧ fZ (aV a b) = pvZ (aZ a b) (-1074) := by
  obtain ⟨a3, a4⟩ := fin_kind fa
  obtain ⟨b3, b4⟩ := fin_kind fb
  rw [(add_f a b a3 a4 b3 b4).1]
  by_cases h0 : aZ a b = 0
  · rw [if_pos h0, h0]
    have e : (if (fS a && fS b) = true then 9223372036854775808 else 0) = wrd (fS a && fS b) 0 := by unfold wrd; split <;> rfl
    have r0 : rnd (0 : Int).natAbs (-1074) = 0 := rnd_0 _
    rw [e, fR_wrd _ _ (by decide), fZ_wrd _ _ (by decide), r0]
    refine ⟨rfl, ?_⟩
    unfold pvZ pv
    rw [r0, rv_zero]
    split <;> simp
  · rw [if_neg h0]
    have hle := rnd_le (aZ a b).natAbs (-1074)
    rw [fR_wrd _ _ (by omega), fZ_wrd _ _ (by omega)]
    exact ⟨rfl, rfl⟩

theorem order_bits (a b : Nat) (ha : a < 18446744073709551616) (hb : b < 18446744073709551616) (na : fK a ≠ 4) (nb : fK b ≠ 4) : Ieee.double.order a b = some (compare (fZ a) (fZ b)) := by
  have h1 : fR a ≤ 9218868437227405312 := Nat.le_of_not_lt fun h => na ((fK_rungs a).1.2 h)
  have h2 : fR b ≤ 9218868437227405312 := Nat.le_of_not_lt fun h => nb ((fK_rungs b).1.2 h)
  have := order_wrd (fS a) (fS b) (fR a) (fR b) h1 h2
  rw [b_wrd a ha, b_wrd b hb] at this
  exact this
theorem order_nan (a b : Nat) (ha : a < 18446744073709551616) (hb : b < 18446744073709551616) (h : fK a = 4 ∨ fK b = 4) : Ieee.double.order a b = none := by
  unfold Ieee.Format.order
  rcases h with h | h
  · obtain ⟨s, f, e⟩ := read_nan a ha h
    rw [e]; rfl
  · obtain ⟨s, f, e⟩ := read_nan b hb h
    rw [e]; cases Ieee.double.read a <;> rfl

theorem fZ_le (b : Nat) (nb : fK b ≠ 4) : (fZ b).natAbs ≤ 2 ^ 2098 := by
  have h2 : fR b ≤ 9218868437227405312 := Nat.le_of_not_lt fun h => nb ((fK_rungs b).1.2 h)
  rw [fZ_abs, ← rv_inf]; exact rv_mono h2
theorem fZ_inf (b : Nat) (hk : fK b = 3) : (fZ b).natAbs = 2 ^ 2098 := by
  rw [fZ_abs, (fK_rungs b).2.1.1 hk, rv_inf]
theorem nan_kind : fK 9221120237041090560 = 4 := by decide +kernel

theorem rises5 (a b c : Nat) (na : fK a ≠ 4) (nb : fK b ≠ 4) (h : fZ a ≤ fZ b) (n1 : fK (aV a c) ≠ 4) (n2 : fK (aV b c) ≠ 4) : fZ (aV a c) ≤ fZ (aV b c) := by
  have nc : fK c ≠ 4 := fun e => by
    unfold aV at n1; rw [if_pos (Or.inr e)] at n1; exact n1 nan_kind
  by_cases c3 : fK c = 3
  · have hx : ∀ x, fK x ≠ 4 → fK (aV x c) ≠ 4 → aV x c = c := fun x nx n => by
      unfold aV at n ⊢
      rw [if_neg (by omega)] at n ⊢
      by_cases x3 : fK x = 3
      · rw [if_pos x3] at n ⊢
        by_cases e : x = c
        · rw [if_neg (fun h => h.2 e)]; exact e
        · rw [if_pos ⟨c3, e⟩] at n; exact absurd nan_kind n
      · rw [if_neg x3, if_pos c3]
    rw [hx a na n1, hx b nb n2]
    exact Int.le_refl _
  · have fc := fin_of c c3 nc
    have hi : ∀ x, fK x = 3 → aV x c = x := fun x x3 => by
      unfold aV; rw [if_neg (by omega), if_pos x3, if_neg (fun h => c3 h.1)]
    by_cases a3 : fK a = 3
    · have e1 := hi a a3
      by_cases b3 : fK b = 3
      · rw [e1, hi b b3]; exact h
      · have l1 := fZ_lt b (fin_of b b3 nb)
        have l2 := fZ_inf a a3
        have l3 := fZ_le _ n2
        rw [e1]
        generalize (2 : Nat) ^ 2098 = P at *
        omega
    · by_cases b3 : fK b = 3
      · have e1 := hi b b3
        have l1 := fZ_lt a (fin_of a a3 na)
        have l2 := fZ_inf b b3
        have l3 := fZ_le _ n1
        rw [e1]
        generalize (2 : Nat) ^ 2098 = P at *
        omega
      · rw [(aV_fin a c (fin_of a a3 na) fc).2, (aV_fin b c (fin_of b b3 nb) fc).2]
        exact pvZ_mono (by unfold aZ; omega)

/-- What may come of two comparisons. -/
def goodO (o p : Option Ordering) : Prop := ((o = some .lt ∨ o = some .eq) → p ≠ some .gt) ∧ ((o = some .gt ∨ o = some .eq) → p ≠ some .lt)

theorem rises5_order (a b c : Nat) (ha : a < 18446744073709551616) (hb : b < 18446744073709551616) (hc : c < 18446744073709551616) : goodO (Ieee.double.order a b) (Ieee.double.order (aV a c) (aV b c)) := by
  by_cases h1 : fK a = 4 ∨ fK b = 4
  · rw [order_nan a b ha hb h1]
    exact ⟨fun h => (by rcases h with h | h <;> cases h), fun h => (by rcases h with h | h <;> cases h)⟩
  · by_cases h2 : fK (aV a c) = 4 ∨ fK (aV b c) = 4
    · rw [order_nan _ _ (aV_lt a c ha hc) (aV_lt b c hb hc) h2]
      exact ⟨fun _ h => (by cases h), fun _ h => (by cases h)⟩
    · rw [order_bits a b ha hb (by omega) (by omega), order_bits _ _ (aV_lt a c ha hc) (aV_lt b c hb hc) (by omega) (by omega)]
      have r1 := fun h => rises5 a b c (by omega) (by omega) h (by omega) (by omega)
      have r2 := fun h => rises5 b a c (by omega) (by omega) h (by omega) (by omega)
      generalize fZ (aV a c) = u at *
      generalize fZ (aV b c) = v at *
      generalize fZ a = x at *
      generalize fZ b = y at *
      refine ⟨fun h e => ?_, fun h e => ?_⟩
      · simp only [Option.some.injEq] at h e
        have e1 := Int.compare_eq_gt.1 e
        have : x ≤ y := by
          rcases h with h | h
          · exact Int.le_of_lt (Int.compare_eq_lt.1 h)
          · exact Int.le_of_eq (Int.compare_eq_eq.1 h)
        have := r1 this
        omega
      · simp only [Option.some.injEq] at h e
        have e1 := Int.compare_eq_lt.1 e
        have : y ≤ x := by
          rcases h with h | h
          · exact Int.le_of_lt (Int.compare_eq_gt.1 h)
          · exact Int.le_of_eq (Int.compare_eq_eq.1 h).symm
        have := r2 this
        omega

/-- A number that is written whole is got back. -/
theorem rv_exact (v : Nat) (E : Int) (h : v ≠ 0) (ht : (bl v : Int) + E ≤ 1024) (he : lastE v E ≤ E) : rv (rnd v E) = v * 2 ^ (E + 1074).toNat := by
  have hM := rndM_bounds v E h
  obtain ⟨l1, l2, l3⟩ := lastE_ge v E
  rw [rnd_fin v E h ht, rv_of _ _ hM.1 (fun hk => hM.2.1 (by omega))]
  unfold rndM mS
  rw [if_pos (by omega), Nat.mul_assoc, ← Nat.pow_add]
  congr 2
  omega

theorem fin_pow (b : Nat) (h : b < 18446744073709551616) (hf : fFin b = true) : ∃ m j : Nat, m < 9007199254740992 ∧ (fZ b).natAbs = m * 2 ^ j := by
  obtain ⟨j, h1, h2⟩ := fM_wrd (fS b) (fR b) (fR_fin b hf)
  rw [b_wrd b h, sg_pv] at h2
  refine ⟨(fM b).natAbs, j, fM_lt b, ?_⟩
  show (pv (fS b) (fR b)).natAbs = _
  rw [← h2, Int.natAbs_mul, Int.natAbs_pow]
  rfl

theorem near_low (x y m n j k : Nat) (hx : x = m * 2 ^ j) (hy : y = n * 2 ^ k) (hm : m < 9007199254740992) (hjk : j ≤ k) (h2 : y ≤ 2 * x) : ∃ q i : Nat, q < 9007199254740992 ∧ ((x : Int) - (y : Int)).natAbs = q * 2 ^ i := by
  obtain ⟨d, rfl⟩ : ∃ d, k = j + d := ⟨k - j, by omega⟩
  have hp : 0 < 2 ^ j := Nat.two_pow_pos _
  have hy' : y = n * 2 ^ d * 2 ^ j := by rw [hy, Nat.mul_assoc, ← Nat.pow_add, Nat.add_comm d j]
  generalize n * 2 ^ d = n' at hy'
  refine ⟨((m : Int) - (n' : Int)).natAbs, j, ?_, ?_⟩
  · have h3 : n' ≤ 2 * m := by
      rw [hx, hy', ← Nat.mul_assoc] at h2
      exact Nat.le_of_mul_le_mul_right h2 hp
    omega
  · have : (x : Int) - (y : Int) = ((m : Int) - (n' : Int)) * 2 ^ j := by
      rw [hx, hy', Int.natCast_mul, Int.natCast_mul, Int.natCast_pow, Int.sub_mul]; rfl
    rw [this, Int.natAbs_mul, Int.natAbs_pow]; rfl

theorem near_sub (x y m n j k : Nat) (hx : x = m * 2 ^ j) (hy : y = n * 2 ^ k) (hm : m < 9007199254740992) (hn : n < 9007199254740992) (h1 : x ≤ 2 * y) (h2 : y ≤ 2 * x) : ∃ q i : Nat, q < 9007199254740992 ∧ ((x : Int) - (y : Int)).natAbs = q * 2 ^ i := by
  by_cases hjk : j ≤ k
  · exact near_low x y m n j k hx hy hm hjk h2
  · obtain ⟨q, i, e1, e2⟩ := near_low y x n m k j hy hx hn (by omega) h1
    exact ⟨q, i, e1, by rw [← e2]; omega⟩

theorem exact5 (a b : Nat) (ha : a < 18446744073709551616) (hb : b < 18446744073709551616) (fa : fFin a = true) (fb : fFin b = true) (hs : fS a = fS b) (h1 : (fZ a).natAbs ≤ 2 * (fZ b).natAbs) (h2 : (fZ b).natAbs ≤ 2 * (fZ a).natAbs) :
    aF a (fN b) = 0 ∧ fFin (aV a (fN b)) = true ∧ fZ (aV a (fN b)) = fZ a - fZ b := by
  have fn : fFin (fN b) = true := by rw [fFin_fN b hb]; exact fb
  obtain ⟨a3, a4⟩ := fin_kind fa
  obtain ⟨b3, b4⟩ := fin_kind fn
  obtain ⟨e1, e2⟩ := aV_fin a (fN b) fa fn
  have hz : aZ a (fN b) = fZ a - fZ b := by unfold aZ; rw [fZ_fN b hb]; omega
  rw [(fK_rungs _).2.2, e1, e2, hz]
  have hF : aF a (fN b) = if fZ a - fZ b = 0 then 0 else rflag (oM (fZ a - fZ b)).natAbs (oE (fZ a - fZ b) (-1074)) := by
    rw [(add_f a (fN b) a3 a4 b3 b4).2, hz]
  rw [hF]
  by_cases h0 : fZ a - fZ b = 0
  · rw [h0]
    have r0 : rnd (0 : Int).natAbs (-1074) = 0 := rnd_0 _
    refine ⟨if_pos rfl, by rw [r0]; decide, ?_⟩
    unfold pvZ pv
    rw [r0, rv_zero]; rfl
  · rw [if_neg h0]
    have la := fZ_lt a fa
    have lb := fZ_lt b fb
    obtain ⟨m, j, m1, m2⟩ := fin_pow a ha fa
    obtain ⟨n, k, n1, n2⟩ := fin_pow b hb fb
    obtain ⟨q, i, q1, q2⟩ := near_sub _ _ m n j k m2 n2 m1 n1 h1 h2
    have hpq : (fZ a - fZ b).natAbs = (((fZ a).natAbs : Int) - ((fZ b).natAbs : Int)).natAbs := by
      have ua : fZ a = if fS a = true then -(rv (fR a) : Int) else (rv (fR a) : Int) := rfl
      have ub : fZ b = if fS b = true then -(rv (fR b) : Int) else (rv (fR b) : Int) := rfl
      rw [hs] at ua
      cases hsb : fS b
      · rw [hsb, if_neg (by decide)] at ua ub; omega
      · rw [hsb, if_pos rfl] at ua ub; omega
    rw [← hpq] at q2
    have hlt : (fZ a - fZ b).natAbs < 2 ^ 2098 := by
      generalize (2 : Nat) ^ 2098 = P at *
      omega
    generalize fZ a - fZ b = z at *
    obtain ⟨o1, o2⟩ := oM_ne z h0
    obtain ⟨r1, r2⟩ := rnd_odd z (-1074)
    obtain ⟨r3, r4⟩ := r2 h0
    have hbz : bl z.natAbs ≤ 2098 := by
      have := bl_spec z.natAbs (by omega)
      have := pow_lt_of (Nat.lt_of_le_of_lt this.2.1 hlt)
      omega
    -- the odd part has at most 53 digits
    obtain ⟨s, hs1, hs2⟩ : ∃ s : Int, s.natAbs = q ∧ z = s * 2 ^ i := by
      by_cases hneg : z < 0
      · refine ⟨-(q : Int), by omega, ?_⟩
        have : ((q * 2 ^ i : Nat) : Int) = (q : Int) * 2 ^ i := by rw [Int.natCast_mul, Int.natCast_pow]; rfl
        rw [Int.neg_mul, ← this]; omega
      · refine ⟨(q : Int), by omega, ?_⟩
        have : ((q * 2 ^ i : Nat) : Int) = (q : Int) * 2 ^ i := by rw [Int.natCast_mul, Int.natCast_pow]; rfl
        rw [← this]; omega
    have hod : (oM z).natAbs < 9007199254740992 := by
      rw [hs2, (oM_scale s i 0).1]
      have := oM_le s
      omega
    have hb53 : bl (oM z).natAbs ≤ 53 := by
      have h5 := bl_spec (oM z).natAbs (by omega)
      have := pow_lt_of (b := 53) (Nat.lt_of_le_of_lt h5.2.1 (by rw [p53]; exact hod))
      omega
    have hE := oE_ne z (-1074) h0
    have hv : (oM z).natAbs ≠ 0 := by omega
    have ht : (bl (oM z).natAbs : Int) + oE z (-1074) ≤ 1024 := by omega
    have hl : lastE (oM z).natAbs (oE z (-1074)) ≤ oE z (-1074) := by
      unfold lastE; omega
    have hx := rv_exact _ _ hv ht hl
    refine ⟨?_, ?_, ?_⟩
    · unfold rflag
      rw [if_neg hv, if_neg (by omega), if_pos hl]
    · rw [← r1]
      exact rnd_exact_lt _ _ hv ht hl
    · unfold pvZ pv
      rw [← r1, hx]
      have habs := oM_abs z h0
      have : (oE z (-1074) + 1074).toNat = tz z.natAbs := by omega
      rw [this, ← habs]
      by_cases hneg : z < 0
      · rw [decide_eq_true hneg, if_pos rfl]; omega
      · rw [decide_eq_false hneg, if_neg (by decide)]; omega

end Go.Proofs.YtenckfflpdgmnabDoor

/- Contracts of package sum: Add, Sub; awake. -/
namespace Go.Proofs.YtenckfflpdgmnabDoor
open Go.RowKit

set_option maxRecDepth 20000 in
set_option maxHeartbeats 2000000 in
theorem sadd_n1 (a b : Nat) (kb : Int) (w : World) 
    (C1 : ∀ w', Calls Tryd.prog 10 #[.int .u64 a] w' fun r w'' => r = .returned (.int .i64 4) ∧ Below w'.heap.size w' w'')
    (C2 : ∀ w', Calls Tryd.prog 10 #[.int .u64 b] w' fun r w'' => r = .returned (.int .i64 kb) ∧ Below w'.heap.size w' w'') :
    Calls Tryd.prog 7 #[.int .u64 a, .int .u64 b] w fun r w' => r = .returned (.tuple #[.int .u64 9221120237041090560, .int .u8 0]) ∧ Below w.heap.size w w' := by
  have K1 := hide C1; have K2 := hide C2
  clear C1 C2
  go_enter Tryd.func7, Tryd.ntmps7
  go_wp2_with fail
  refine (unhide K1 _).mono ?_
  rintro e w1 ⟨rfl, hb1⟩
  go_wp2_with fail
  refine (unhide K2 _).mono ?_
  rintro e w2 ⟨rfl, hb2⟩
  have B := hide (hb1.trans (hb2.mono hb1.size))
  clear hb1 hb2 K1 K2
  go_wp2
  exact bodyPost_ret (v := .tuple #[.int .u64 9221120237041090560, .int .u8 0]) (by simp [results, Tryd.results7, go_sem]) rfl ⟨rfl, unhide B⟩

set_option maxRecDepth 20000 in
set_option maxHeartbeats 2000000 in
theorem sadd_n2 (a b : Nat) (ka : Int) (w : World) (h1 : (ka == 4) = false)
    (C1 : ∀ w', Calls Tryd.prog 10 #[.int .u64 a] w' fun r w'' => r = .returned (.int .i64 ka) ∧ Below w'.heap.size w' w'')
    (C2 : ∀ w', Calls Tryd.prog 10 #[.int .u64 b] w' fun r w'' => r = .returned (.int .i64 4) ∧ Below w'.heap.size w' w'') :
    Calls Tryd.prog 7 #[.int .u64 a, .int .u64 b] w fun r w' => r = .returned (.tuple #[.int .u64 9221120237041090560, .int .u8 0]) ∧ Below w.heap.size w w' := by
  have K1 := hide C1; have K2 := hide C2
  clear C1 C2
  go_enter Tryd.func7, Tryd.ntmps7
  go_wp2_with fail
  refine (unhide K1 _).mono ?_
  rintro e w1 ⟨rfl, hb1⟩
  go_wp2_with fail
  refine (unhide K2 _).mono ?_
  rintro e w2 ⟨rfl, hb2⟩
  have B := hide (hb1.trans (hb2.mono hb1.size))
  clear hb1 hb2 K1 K2
  go_wp2
  exact bodyPost_ret (v := .tuple #[.int .u64 9221120237041090560, .int .u8 0]) (by simp [results, Tryd.results7, go_sem]) rfl ⟨rfl, unhide B⟩

set_option maxRecDepth 20000 in
set_option maxHeartbeats 2000000 in
theorem sadd_ii (a b : Nat) (w : World) (h1 : ((a : Int) == (b : Int)) = false)
    (C1 : ∀ w', Calls Tryd.prog 10 #[.int .u64 a] w' fun r w'' => r = .returned (.int .i64 3) ∧ Below w'.heap.size w' w'')
    (C2 : ∀ w', Calls Tryd.prog 10 #[.int .u64 b] w' fun r w'' => r = .returned (.int .i64 3) ∧ Below w'.heap.size w' w'') :
    Calls Tryd.prog 7 #[.int .u64 a, .int .u64 b] w fun r w' => r = .returned (.tuple #[.int .u64 9221120237041090560, .int .u8 16]) ∧ Below w.heap.size w w' := by
  have K1 := hide C1; have K2 := hide C2
  clear C1 C2
  go_enter Tryd.func7, Tryd.ntmps7
  go_wp2_with fail
  refine (unhide K1 _).mono ?_
  rintro e w1 ⟨rfl, hb1⟩
  go_wp2_with fail
  refine (unhide K2 _).mono ?_
  rintro e w2 ⟨rfl, hb2⟩
  have B := hide (hb1.trans (hb2.mono hb1.size))
  clear hb1 hb2 K1 K2
  go_wp2
  exact bodyPost_ret (v := .tuple #[.int .u64 9221120237041090560, .int .u8 16]) (by simp [results, Tryd.results7, go_sem]) rfl ⟨rfl, unhide B⟩

set_option maxRecDepth 20000 in
set_option maxHeartbeats 2000000 in
theorem sadd_ie (a b : Nat) (w : World) (h1 : ((a : Int) == (b : Int)) = true)
    (C1 : ∀ w', Calls Tryd.prog 10 #[.int .u64 a] w' fun r w'' => r = .returned (.int .i64 3) ∧ Below w'.heap.size w' w'')
    (C2 : ∀ w', Calls Tryd.prog 10 #[.int .u64 b] w' fun r w'' => r = .returned (.int .i64 3) ∧ Below w'.heap.size w' w'') :
    Calls Tryd.prog 7 #[.int .u64 a, .int .u64 b] w fun r w' => r = .returned (.tuple #[.int .u64 a, .int .u8 0]) ∧ Below w.heap.size w w' := by
  have K1 := hide C1; have K2 := hide C2
  clear C1 C2
  go_enter Tryd.func7, Tryd.ntmps7
  go_wp2_with fail
  refine (unhide K1 _).mono ?_
  rintro e w1 ⟨rfl, hb1⟩
  go_wp2_with fail
  refine (unhide K2 _).mono ?_
  rintro e w2 ⟨rfl, hb2⟩
  have B := hide (hb1.trans (hb2.mono hb1.size))
  clear hb1 hb2 K1 K2
  go_wp2
  exact bodyPost_ret (v := .tuple #[.int .u64 a, .int .u8 0]) (by simp [results, Tryd.results7, go_sem]) rfl ⟨rfl, unhide B⟩

set_option maxRecDepth 20000 in
set_option maxHeartbeats 2000000 in
theorem sadd_i (a b : Nat) (kb : Int) (w : World) (h1 : (kb == 4) = false) (h2 : (kb == 3) = false)
    (C1 : ∀ w', Calls Tryd.prog 10 #[.int .u64 a] w' fun r w'' => r = .returned (.int .i64 3) ∧ Below w'.heap.size w' w'')
    (C2 : ∀ w', Calls Tryd.prog 10 #[.int .u64 b] w' fun r w'' => r = .returned (.int .i64 kb) ∧ Below w'.heap.size w' w'') :
    Calls Tryd.prog 7 #[.int .u64 a, .int .u64 b] w fun r w' => r = .returned (.tuple #[.int .u64 a, .int .u8 0]) ∧ Below w.heap.size w w' := by
  have K1 := hide C1; have K2 := hide C2
  clear C1 C2
  go_enter Tryd.func7, Tryd.ntmps7
  go_wp2_with fail
  refine (unhide K1 _).mono ?_
  rintro e w1 ⟨rfl, hb1⟩
  go_wp2_with fail
  refine (unhide K2 _).mono ?_
  rintro e w2 ⟨rfl, hb2⟩
  have B := hide (hb1.trans (hb2.mono hb1.size))
  clear hb1 hb2 K1 K2
  go_wp2
  exact bodyPost_ret (v := .tuple #[.int .u64 a, .int .u8 0]) (by simp [results, Tryd.results7, go_sem]) rfl ⟨rfl, unhide B⟩

set_option maxRecDepth 20000 in
set_option maxHeartbeats 2000000 in
theorem sadd_j (a b : Nat) (ka : Int) (w : World) (h1 : (ka == 4) = false) (h2 : (ka == 3) = false)
    (C1 : ∀ w', Calls Tryd.prog 10 #[.int .u64 a] w' fun r w'' => r = .returned (.int .i64 ka) ∧ Below w'.heap.size w' w'')
    (C2 : ∀ w', Calls Tryd.prog 10 #[.int .u64 b] w' fun r w'' => r = .returned (.int .i64 3) ∧ Below w'.heap.size w' w'') :
    Calls Tryd.prog 7 #[.int .u64 a, .int .u64 b] w fun r w' => r = .returned (.tuple #[.int .u64 b, .int .u8 0]) ∧ Below w.heap.size w w' := by
  have K1 := hide C1; have K2 := hide C2
  clear C1 C2
  go_enter Tryd.func7, Tryd.ntmps7
  go_wp2_with fail
  refine (unhide K1 _).mono ?_
  rintro e w1 ⟨rfl, hb1⟩
  go_wp2_with fail
  refine (unhide K2 _).mono ?_
  rintro e w2 ⟨rfl, hb2⟩
  have B := hide (hb1.trans (hb2.mono hb1.size))
  clear hb1 hb2 K1 K2
  go_wp2
  exact bodyPost_ret (v := .tuple #[.int .u64 b, .int .u8 0]) (by simp [results, Tryd.results7, go_sem]) rfl ⟨rfl, unhide B⟩

set_option maxRecDepth 20000 in
set_option maxHeartbeats 2000000 in
theorem sadd_f (a b : Nat) (ka kb fl : Int) (o : Nat) (w : World) (h1 : (ka == 4) = false) (h2 : (ka == 3) = false) (h3 : (kb == 4) = false) (h4 : (kb == 3) = false) (hT : Tab w)
    (C3 : ∀ w', Tab w' → Calls Tryd.prog 11 #[.int .u64 a, .int .u64 b] w' fun r w'' => r = .returned (.tuple #[.int .u64 (o : Nat), .int .u8 fl]) ∧ Below w'.heap.size w' w'')
    (C1 : ∀ w', Calls Tryd.prog 10 #[.int .u64 a] w' fun r w'' => r = .returned (.int .i64 ka) ∧ Below w'.heap.size w' w'')
    (C2 : ∀ w', Calls Tryd.prog 10 #[.int .u64 b] w' fun r w'' => r = .returned (.int .i64 kb) ∧ Below w'.heap.size w' w'') :
    Calls Tryd.prog 7 #[.int .u64 a, .int .u64 b] w fun r w' => r = .returned (.tuple #[.int .u64 (o : Nat), .int .u8 fl]) ∧ Below w.heap.size w w' := by
  have K1 := hide C1; have K2 := hide C2
  clear C1 C2
  go_enter Tryd.func7, Tryd.ntmps7
  go_wp2_with fail
  refine (unhide K1 _).mono ?_
  rintro e w1 ⟨rfl, hb1⟩
  go_wp2_with fail
  refine (unhide K2 _).mono ?_
  rintro e w2 ⟨rfl, hb2⟩
  have B := hide (hb1.trans (hb2.mono hb1.size))
  clear hb1 hb2 K1 K2
  have K3 := hide C3; have HT := hide (hT.all (unhide B))
  clear C3 hT
  go_wp2_with fail
  refine (unhide K3 _ (unhide HT)).mono ?_
  rintro e w3 ⟨rfl, hb3⟩
  have B := hide ((unhide B).trans (hb3.mono (unhide B).size))
  clear hb3 K3 HT
  go_wp2
  exact bodyPost_ret (v := .tuple #[.int .u64 (o : Nat), .int .u8 fl]) (by simp [results, Tryd.results7, go_sem]) rfl ⟨rfl, unhide B⟩

/-- The sum of any two. -/
theorem sadd_any (a b : Nat) (w : World) (ha : a < 18446744073709551616) (hb : b < 18446744073709551616) (hT : Tab w) :
    Calls Tryd.prog 7 #[.int .u64 a, .int .u64 b] w fun r w' => r = .returned (.tuple #[.int .u64 (aV a b : Nat), .int .u8 (aF a b)]) ∧ Below w.heap.size w w' := by
  have C1 := fun w' => kind_any a w' ha
  have C2 := fun w' => kind_any b w' hb
  by_cases a4 : fK a = 4
  · have e1 : aV a b = 9221120237041090560 := by unfold aV; rw [if_pos (Or.inl a4)]
    have e2 : aF a b = 0 := by unfold aF; rw [if_pos (Or.inl a4)]
    rw [e1, e2]
    rw [a4] at C1
    exact sadd_n1 a b _ w C1 C2
  by_cases b4 : fK b = 4
  · have e1 : aV a b = 9221120237041090560 := by unfold aV; rw [if_pos (Or.inr b4)]
    have e2 : aF a b = 0 := by unfold aF; rw [if_pos (Or.inr b4)]
    rw [e1, e2]
    rw [b4] at C2
    exact sadd_n2 a b _ w (by simp [a4]) C1 C2
  have n4 : ¬ (fK a = 4 ∨ fK b = 4) := by omega
  by_cases a3 : fK a = 3
  · by_cases b3 : fK b = 3
    · by_cases hab : a = b
      · have e1 : aV a b = a := by unfold aV; rw [if_neg n4, if_pos a3, if_neg (fun h => h.2 hab)]
        have e2 : aF a b = 0 := by unfold aF; rw [if_neg n4, if_pos a3, if_neg (fun h => h.2 hab)]
        rw [e1, e2]
        rw [a3] at C1
        rw [b3] at C2
        exact sadd_ie a b w (by simp [hab]) C1 C2
      · have e1 : aV a b = 9221120237041090560 := by unfold aV; rw [if_neg n4, if_pos a3, if_pos ⟨b3, hab⟩]
        have e2 : aF a b = 16 := by unfold aF; rw [if_neg n4, if_pos a3, if_pos ⟨b3, hab⟩]
        rw [e1, e2]
        rw [a3] at C1
        rw [b3] at C2
        exact sadd_ii a b w (by simp; omega) C1 C2
    · have e1 : aV a b = a := by unfold aV; rw [if_neg n4, if_pos a3, if_neg (fun h => b3 h.1)]
      have e2 : aF a b = 0 := by unfold aF; rw [if_neg n4, if_pos a3, if_neg (fun h => b3 h.1)]
      rw [e1, e2]
      rw [a3] at C1
      exact sadd_i a b _ w (by simp [b4]) (by simp [b3]) C1 C2
  · by_cases b3 : fK b = 3
    · have e1 : aV a b = b := by unfold aV; rw [if_neg n4, if_neg a3, if_pos b3]
      have e2 : aF a b = 0 := by unfold aF; rw [if_neg n4, if_neg a3, if_pos b3]
      rw [e1, e2]
      rw [b3] at C2
      exact sadd_j a b _ w (by simp [a4]) (by simp [a3]) C1 C2
    · exact sadd_f a b _ _ _ _ w (by simp [a4]) (by simp [a3]) (by simp [b4]) (by simp [b3]) hT (fun w' t => addFinite_any a b w' ha hb (fin_of a a3 a4) (fin_of b b3 b4) t) C1 C2

set_option maxRecDepth 20000 in
set_option maxHeartbeats 2000000 in
theorem ssub_any (a b : Nat) (w : World) (ha : a < 18446744073709551616) (hb : b < 18446744073709551616) (hT : Tab w) :
    Calls Tryd.prog 8 #[.int .u64 a, .int .u64 b] w fun r w' => r = .returned (.tuple #[.int .u64 (aV a (fN b) : Nat), .int .u8 (aF a (fN b))]) ∧ Below w.heap.size w w' := by
  have K1 := hide (fun w' => sminus_any b w' hb)
  have K2 := hide (sadd_any a (fN b) w ha (fN_lt b hb) hT)
  clear ha hb hT
  generalize aV a (fN b) = o at *
  generalize aF a (fN b) = fl at *
  go_enter Tryd.func8, Tryd.ntmps8
  go_wp2_with fail
  refine (unhide K1 _).mono ?_
  rintro e w1 ⟨rfl, rfl⟩
  go_wp2_with fail
  refine Calls.mono (unhide K2) ?_
  rintro e w2 ⟨rfl, hb2⟩
  have B := hide hb2
  clear hb2 K1 K2
  go_wp2
  exact bodyPost_ret (v := .tuple #[.int .u64 o, .int .u8 fl]) (by simp [results, Tryd.results8, go_sem]) rfl ⟨rfl, unhide B⟩

theorem awake5_facts : aV 4607182418800017408 4607182418800017408 = 4611686018427387904 ∧ aF 4607182418800017408 4607182418800017408 = 0 ∧ aV 9218868437227405312 (fN 9218868437227405312) = 9221120237041090560 ∧ aF 9218868437227405312 (fN 9218868437227405312) = 16 := by decide +kernel

set_option maxRecDepth 20000 in
set_option maxHeartbeats 2000000 in
theorem awake5_any (w : World) (hT : Tab w) : Calls Tryd.prog 4 #[] w fun e w' => e = .returned (.bool true) ∧ Below w.heap.size w w' := by
  have K1 := hide (sadd_any 4607182418800017408 4607182418800017408 w (by decide) (by decide) hT)
  rw [awake5_facts.1, awake5_facts.2.1] at K1
  have K2 := hide (fun w' t => ssub_any 9218868437227405312 9218868437227405312 w' (by decide) (by decide) t)
  rw [awake5_facts.2.2.1, awake5_facts.2.2.2] at K2
  go_enter Tryd.func4, Tryd.ntmps4
  go_wp2_with fail
  refine Calls.mono (unhide K1) ?_
  rintro e w1 ⟨rfl, hb1⟩
  have HT := hide (hT.all hb1)
  go_wp2_with fail
  refine (unhide K2 _ (unhide HT)).mono ?_
  rintro e w2 ⟨rfl, hb2⟩
  have B := hide (hb1.trans (hb2.mono hb1.size))
  clear hb1 hb2 K1 K2 HT
  go_wp2
  go_ret
  exact ⟨rfl, unhide B⟩

end Go.Proofs.YtenckfflpdgmnabDoor

/- Contracts of the reference's small, signed, bits, flags. -/
namespace Go.Proofs.YtenckfflpdgmnabDoor
open Go.RowKit

set_option maxHeartbeats 2000000 in
theorem rsmall_0 (ng : Bool) (ao : Option Addr) (ca : Nat) (w : World) :
    Calls Tryd.prog 55 #[.agg #[.bool ng, .slice ao 0 ca]] w fun e w' => e = .returned (.int .u64 0) ∧ Below w.heap.size w w' := by
  go_enter Tryd.func55, Tryd.ntmps55
  go_wp2
  refine wp_loop_rounds 1 ?_
  rw [rounds_succ]
  go_wp2
  go_ret
  exact ⟨rfl, (Below.refl _ _).alloc (Nat.le_refl _) _⟩

set_option maxHeartbeats 2000000 in
theorem rsmall_1 (ng : Bool) (b off ca x : Nat) (w : World) (hx : (x : Int) < 4294967296) (c0 : (w.alloc (.cells #[.bool ng, .slice (some ⟨b, off, none⟩) 1 ca] 35)).cell? ⟨b, off, none⟩ = some (.int .u32 x)) :
    Calls Tryd.prog 55 #[.agg #[.bool ng, .slice (some ⟨b, off, none⟩) 1 ca]] w fun e w' => e = .returned (.int .u64 x) ∧ Below w.heap.size w w' := by
  have hx0 : (0 : Int) ≤ x := by omega
  go_enter Tryd.func55, Tryd.ntmps55
  go_wp2
  refine wp_loop_rounds 2 ?_
  rw [rounds_succ]
  go_wp2
  rw [rounds_succ]
  go_wp2
  go_ret
  exact ⟨by simp, (Below.refl _ _).alloc (Nat.le_refl _) _⟩

set_option maxHeartbeats 2000000 in
theorem rsmall_2 (ng : Bool) (b off ca x y : Nat) (w : World) (hx : (x : Int) < 4294967296) (hy : (y : Int) < 2147483648) (c0 : (w.alloc (.cells #[.bool ng, .slice (some ⟨b, off, none⟩) 2 ca] 35)).cell? ⟨b, off, none⟩ = some (.int .u32 x)) (c1 : (w.alloc (.cells #[.bool ng, .slice (some ⟨b, off, none⟩) 2 ca] 35)).cell? ⟨b, off + 1, none⟩ = some (.int .u32 y)) :
    Calls Tryd.prog 55 #[.agg #[.bool ng, .slice (some ⟨b, off, none⟩) 2 ca]] w fun e w' => e = .returned (.int .u64 (y * 4294967296 + x)) ∧ Below w.heap.size w w' := by
  have hx0 : (0 : Int) ≤ x := by omega
  have hy0 : (0 : Int) ≤ y := by omega
  go_enter Tryd.func55, Tryd.ntmps55
  go_wp2
  refine wp_loop_rounds 3 ?_
  rw [rounds_succ]
  go_wp2
  rw [rounds_succ]
  go_wp2
  rw [rounds_succ]
  go_wp2
  go_ret
  exact ⟨rfl, (Below.refl _ _).alloc (Nat.le_refl _) _⟩

set_option maxHeartbeats 1000000 in
theorem signed_any (b : Nat) (ng : Bool) (w : World) (h : b < 9223372036854775808) :
    Calls Tryd.prog 32 #[.int .u64 b, .bool ng] w fun e w' => e = .returned (.int .u64 (wrd ng b : Nat)) ∧ w = w' := by
  have CM := hide (fun w' => rminus4_any b w' (by omega))
  rw [fN_wrd b h] at CM
  have hw := wrd_false b
  cases ng
  · rw [hw]
    clear CM hw h
    go_enter Tryd.func32, Tryd.ntmps32
    go_wp2
    go_ret
    exact ⟨rfl, rfl⟩
  · generalize wrd true b = c at *
    clear hw h
    go_enter Tryd.func32, Tryd.ntmps32
    go_wp2_with (go_at_call 54; refine (unhide CM _).mono ?_; rintro e w2 ⟨rfl, rfl⟩)
    go_ret
    exact ⟨rfl, rfl⟩

set_option maxHeartbeats 1000000 in
theorem flags_any (b : Nat) (ex : Bool) (w : World) (h : b < 18446744073709551616) :
    Calls Tryd.prog 36 #[.int .u64 b, .bool ex] w fun e w' => e = .returned (.int .u8 (if fK b = 3 then 5 else if ex then 0 else if fK b = 2 then 1 else 3)) ∧ w = w' := by
  have CK := hide (fun w' => rkind_any b w' h)
  have hc := fK_cases b
  generalize fK b = k at *
  clear h
  by_cases h1 : k = 3
  · subst h1
    rw [if_pos rfl]
    go_enter Tryd.func36, Tryd.ntmps36
    go_wp2_with (go_at_call 13; refine (unhide CK _).mono ?_; rintro e w2 ⟨rfl, rfl⟩)
    go_ret
    exact ⟨rfl, rfl⟩
  · rw [if_neg h1]
    have g1 : (k == 3) = false := by simp; omega
    clear hc h1
    cases ex
    · by_cases h2 : k = 2
      · subst h2
        go_enter Tryd.func36, Tryd.ntmps36
        go_wp2_with (go_at_call 13; refine (unhide CK _).mono ?_; rintro e w2 ⟨rfl, rfl⟩)
        go_ret
        exact ⟨rfl, rfl⟩
      · rw [if_neg h2]
        have g2 : (k == 2) = false := by simp; omega
        clear h2
        go_enter Tryd.func36, Tryd.ntmps36
        go_wp2_with (go_at_call 13; refine (unhide CK _).mono ?_; rintro e w2 ⟨rfl, rfl⟩)
        go_ret
        exact ⟨rfl, rfl⟩
    · go_enter Tryd.func36, Tryd.ntmps36
      go_wp2_with (go_at_call 13; refine (unhide CK _).mono ?_; rintro e w2 ⟨rfl, rfl⟩)
      go_ret
      exact ⟨rfl, rfl⟩

set_option maxHeartbeats 1000000 in
theorem bits_low (m : Nat) (e : Int) (w : World) (h : (m : Int) < 4503599627370496) :
    Calls Tryd.prog 35 #[.int .u64 m, .int .i64 e] w fun r w' => r = .returned (.int .u64 m) ∧ w = w' := by
  have g1 : decide ((m : Int) < 4503599627370496) = true := decide_eq_true h
  clear h
  go_enter Tryd.func35, Tryd.ntmps35
  go_wp2
  go_ret
  exact ⟨rfl, rfl⟩

set_option maxHeartbeats 1000000 in
theorem bits_inf (m : Nat) (e : Int) (w : World) (h : 4503599627370496 ≤ (m : Int)) (he : 972 ≤ e ∧ e ≤ 100000) :
    Calls Tryd.prog 35 #[.int .u64 m, .int .i64 e] w fun r w' => r = .returned (.int .u64 9218868437227405312) ∧ w = w' := by
  have g1 : decide ((m : Int) < 4503599627370496) = false := decide_eq_false (by omega)
  have w1 : IntKind.i64.wrap (e + 1075) = e + 1075 := by simp only [IntKind.wrap_i64]; omega
  have g2 : decide (2047 ≤ e + 1075) = true := decide_eq_true (by omega)
  clear h he
  go_enter Tryd.func35, Tryd.ntmps35
  go_wp2
  go_ret
  exact ⟨rfl, rfl⟩

set_option maxHeartbeats 1000000 in
theorem bits_mid (m k r : Nat) (e : Int) (w : World) (h : 4503599627370496 ≤ (m : Int)) (hm : (m : Int) ≤ 9007199254740992) (hk : e + 1074 = (k : Int)) (hk2 : (k : Int) ≤ 2045) (hr : r = m + k * 4503599627370496) :
    Calls Tryd.prog 35 #[.int .u64 m, .int .i64 e] w fun q w' => q = .returned (.int .u64 r) ∧ w = w' := by
  have g1 : decide ((m : Int) < 4503599627370496) = false := decide_eq_false (by omega)
  have w1 : IntKind.i64.wrap (e + 1075) = e + 1075 := by simp only [IntKind.wrap_i64]; omega
  have w2 : IntKind.u64.wrap (e + 1075) = e + 1075 := by simp only [IntKind.wrap_u64]; omega
  have w3 : IntKind.u64.wrap ((e + 1075) * 4503599627370496) = (e + 1075) * 4503599627370496 := by simp only [IntKind.wrap_u64]; omega
  have w4 : IntKind.u64.wrap ((e + 1075) * 4503599627370496 + (m : Int)) = (e + 1075) * 4503599627370496 + (m : Int) := by simp only [IntKind.wrap_u64]; omega
  have w5 : IntKind.u64.wrap ((e + 1075) * 4503599627370496 + (m : Int) - 4503599627370496) = (r : Int) := by simp only [IntKind.wrap_u64]; omega
  have g2 : decide (2047 ≤ e + 1075) = false := decide_eq_false (by omega)
  clear h hm hk hk2 hr
  go_enter Tryd.func35, Tryd.ntmps35
  go_wp2
  go_ret
  exact ⟨rfl, rfl⟩

end Go.Proofs.YtenckfflpdgmnabDoor

/- Contracts of the reference's small of a number, abs. -/
namespace Go.Proofs.YtenckfflpdgmnabDoor
open Go.RowKit

theorem rsmall_num {B : Nat} {w : World} {v : Value} {z : Int} (hv : IsNum B w v z) (n : Nat) (hz : z = (n : Int)) (hn : n < 9223372036854775808) :
    Calls Tryd.prog 55 #[v] w fun e w' => e = .returned (.int .u64 n) ∧ Below w.heap.size w w' := by
  obtain ⟨ng, ao, ca, L, rfl, h1, _, h3, _, h5, _⟩ := hv
  have hval : val L = n := by rw [h5, hz]; simp
  have hl : L.length ≤ 2 := (length_le_iff L h1.2.1 h3 2).2 (by
    have : (4294967296 : Nat) ^ 2 = 18446744073709551616 := by decide
    omega)
  have hb0 : ∀ o : Obj, Below w.heap.size w (w.alloc o) := fun o => (Below.refl _ _).alloc (Nat.le_refl _) o
  match L, hl, h1, hval with
  | [], _, h1, hval =>
    have : n = 0 := by rw [← hval]; rfl
    subst this
    exact rsmall_0 ng ao ca w
  | [x], _, h1, hval =>
    have hx : x = n := by simpa [val] using hval
    subst hx
    rcases h1.2.2 with h | ⟨b, off, rfl, h2, h4⟩
    · cases h
    · have hx := h1.2.1 x (by simp)
      have c0 := h4 0 (by simp)
      rw [← (hb0 (.cells #[.bool ng, .slice (some ⟨b, off, none⟩) 1 ca] 35)).cell (p := ⟨b, off + 0, none⟩) h2] at c0
      exact rsmall_1 ng b off ca x w (by omega) (by simpa using c0)
  | [x, y], _, h1, hval =>
    have hxy : y * 4294967296 + x = n := by
      simp only [val] at hval
      omega
    rcases h1.2.2 with h | ⟨b, off, rfl, h2, h4⟩
    · cases h
    · have hx := h1.2.1 x (by simp)
      have c0 := h4 0 (by simp)
      have c1 := h4 1 (by simp)
      rw [← (hb0 (.cells #[.bool ng, .slice (some ⟨b, off, none⟩) 2 ca] 35)).cell (p := ⟨b, off + 0, none⟩) h2] at c0
      rw [← (hb0 (.cells #[.bool ng, .slice (some ⟨b, off, none⟩) 2 ca] 35)).cell (p := ⟨b, off + 1, none⟩) h2] at c1
      have := rsmall_2 ng b off ca x y w (by omega) (by omega) (by simpa using c0) (by simpa using c1)
      rw [show ((y : Int) * 4294967296 + (x : Int)) = (n : Int) by omega] at this
      exact this

set_option maxHeartbeats 2000000 in
theorem rabs_any (na : Bool) (ao : Option Addr) (ca : Nat) (A : List Nat) (E : Int) (w : World) (hA : LimbsAt w ao ca A) (la : A.length ≤ 512) :
    Calls Tryd.prog 34 #[.agg #[.bool na, .slice ao A.length ca, .int .i64 E]] w fun r w' => ∃ v, r = .returned v ∧ IsDy w' v (val A : Int) E ∧ Below w.heap.size w w' := by
  have CN := hide (fun w' h => made_any 0 false ao ca A w' h (NewAt.zero h) (by omega))
  have hs : sval false A = (val A : Int) := rfl
  rw [hs] at CN
  generalize (val A : Int) = z at *
  have hb0 : Below w.heap.size w ((w.alloc (.cells #[.bool na, .slice ao A.length ca, .int .i64 E] 37)).alloc (.cells #[.bool false, .slice none 0 0, .int .i64 0] 37)) := ((Below.refl _ _).alloc (Nat.le_refl _) _).alloc (by simp) _
  have x0 : Box3 ((w.alloc (.cells #[.bool na, .slice ao A.length ca, .int .i64 E] 37)).alloc (.cells #[.bool false, .slice none 0 0, .int .i64 0] 37)) w.heap.size (.bool na) (.slice ao A.length ca) (.int .i64 E) := (Box3.new _ _ _ _).old _
  have x2 : Box3 ((w.alloc (.cells #[.bool na, .slice ao A.length ca, .int .i64 E] 37)).alloc (.cells #[.bool false, .slice none 0 0, .int .i64 0] 37)) (w.heap.size + 1) (.bool false) (.slice none 0 0) (.int .i64 0) := by
    have := Box3.new (w.alloc (.cells #[.bool na, .slice ao A.length ca, .int .i64 E] 37)) (.bool false) (.slice none 0 0) (.int .i64 0)
    simpa using this
  have B0 := hide hb0; have X0 := hide x0; have X2 := hide x2
  clear hb0 x0 x2 hs
  go_enter Tryd.func34, Tryd.ntmps34
  go_wp2_with fail
  refine at_world (fun W => Below w.heap.size w W ∧ Box3 W w.heap.size (.bool na) (.slice ao A.length ca) (.int .i64 E) ∧ Box3 W (w.heap.size + 1) (.bool false) (.slice none 0 0) (.int .i64 0)) ⟨unhide B0, unhide X0, unhide X2⟩ ?_
  clear B0 X0 X2
  rintro W0 ⟨b0, x0, x2⟩
  have s0 : w.heap.size + 1 < W0.heap.size := x2.lt
  have hK : ∀ w', Below (w.heap.size + 1) W0 w' → Below (w.heap.size + 1) W0 w' ∧ w'.cell? ⟨w.heap.size, 0, none⟩ = some (.bool na) ∧ w'.cell? ⟨w.heap.size, 1, none⟩ = some (.slice ao A.length ca) ∧ w'.cell? ⟨w.heap.size, 2, none⟩ = some (.int .i64 E) := fun w' h =>
    ⟨h, (x0.below h (by omega)).c0, (x0.below h (by omega)).c1, (x0.below h (by omega)).c2⟩
  have HK := hide hK; have BB := hide b0; have X2 := hide x2
  clear hK b0 x0 x2
  go_region_held3 (fun w' => Below (w.heap.size + 1) W0 w' ∧ w'.cell? ⟨w.heap.size, 0, none⟩ = some (.bool na) ∧ w'.cell? ⟨w.heap.size, 1, none⟩ = some (.slice ao A.length ca) ∧ w'.cell? ⟨w.heap.size, 2, none⟩ = some (.int .i64 E))
    (first | exact unhide HK _ (Below.refl _ _).drew | exact unhide HK _ (by assumption) | exact unhide HK _ (below_put3 hB1 (by omega) _ _ _) | fail "NO KEEP")
    (first | (go_at_call 46; refine (unhide CN _ (hA.below ((unhide BB).trans ((Below.refl _ _).drew)))).mono ?_; rintro e w3 ⟨v, rfl, ⟨n4, a4, c4, L4, rfl, i4⟩, hb1⟩; have hB1 : Below (w.heap.size + 1) W0 w3 := ((Below.refl _ _).drew).trans (hb1.mono (by simp; omega)); have X4 := ((unhide X2).drew.below hb1 (by simp; omega)); have IZ := hide (show IsNum 0 w3 (.agg #[.bool n4, .slice a4 L4.length c4]) z from ⟨n4, a4, c4, L4, rfl, i4.1, i4.2.1, i4.2.2.1, i4.2.2.2.1, i4.2.2.2.2.1, by have := i4.2.2.2.2.2; omega⟩); have y0 := X4.c0; have y1 := X4.c1; have y2 := X4.c2; have f0 := X4.free 0; have f1 := X4.free 1; have f2 := X4.free 2; have X5 := hide X4; have BB1 := hide ((unhide BB).trans (hB1.mono (by omega))); clear hb1 i4 X4) | fail "NO ARM")
  go_wp2
  have j2 : IsDy w3 (.agg #[.bool n4, .slice a4 L4.length c4, .int .i64 E]) z E := ⟨n4, a4, c4, L4, rfl, unhide IZ⟩
  refine bodyPost_ret (v := .agg #[.bool n4, .slice a4 L4.length c4, .int .i64 E]) (by simp [results, Tryd.results34, go_sem, y0, y1, y2]) rfl ⟨_, rfl, j2.put3 (unhide X5) _ _ _, below_put3 (unhide BB1) (by omega) _ _ _⟩

end Go.Proofs.YtenckfflpdgmnabDoor

/- Contract of the reference's Nearest, where digits are dropped: the walk. -/
namespace Go.Proofs.YtenckfflpdgmnabDoor
open Go.RowKit

theorem at_thenB {K : Act → World → Prop} {Q : Exit → Act → World → Prop} {a : Act} {w : World} (F : World → Prop) (h : F w) (k : ∀ W, F W → Exit.then K Q .normal a W) : Exit.then K Q .normal a w := k w h

/-- What stands behind the rest: its box g, the number in it, the quotient's box. -/
def TailN (w : World) (g1 : Nat) (n : Bool) (a : Option Addr) (l c : Nat) (np : Bool) (ap : Option Addr) (lp cp : Nat) (q R X : Int) (g : Nat) (W : World) : Prop :=
  Below w.heap.size w W ∧ Box3 W g (.bool np) (.slice ap lp cp) (.int .i64 X) ∧ IsDy W (.agg #[.bool np, .slice ap lp cp, .int .i64 X]) R X ∧ Box2 W g1 (.bool n) (.slice a l c) ∧ IsNum 0 W (.agg #[.bool n, .slice a l c]) q

theorem IsNum.box3 {B : Nat} {w : World} {v : Value} {x : Int} (h : IsNum B w v x) {g : Nat} {y : Bool} {a : Option Addr} {n c : Nat} {k : Int} (hx : Box3 w g (.bool y) (.slice a n c) (.int .i64 k)) (u u' u'' : Value) : IsNum B (((w.setCell ⟨g, 0, none⟩ u).setCell ⟨g, 1, none⟩ u').setCell ⟨g, 2, none⟩ u'') v x := by
  obtain ⟨neg, ao, cap, L, h1, h2, h3⟩ := h
  exact ⟨neg, ao, cap, L, h1, h2.box3 hx _ _ _, h3⟩

theorem Box2.other3 {w : World} {b g : Nat} {x y : Value} (h : Box2 w b x y) (hne : b ≠ g) (u u' u'' : Value) : Box2 (((w.setCell ⟨g, 0, none⟩ u).setCell ⟨g, 1, none⟩ u').setCell ⟨g, 2, none⟩ u'') b x y :=
  ((h.other (p := ⟨g, 0, none⟩) hne u).other (p := ⟨g, 1, none⟩) hne u').other (p := ⟨g, 2, none⟩) hne u''

set_option maxHeartbeats 8000000 in
theorem near_a (ng : Bool) (ao : Option Addr) (ca l n : Nat) (E e q M X R Y R2 Y2 O Z c : Int) (w : World) (hE : -20000 ≤ E ∧ E ≤ 20000) (he : -20000 ≤ e ∧ e ≤ 20000) (hlt : decide (e ≤ E) = false) (hn : (n : Int) < 1152921504606846976) (hR : ∀ W np ap lp cp, IsDy W (.agg #[.bool np, .slice ap lp cp, .int .i64 Y]) R Y → ((lp : Int) == 0) = false)
    (CSH : ∀ w', Below w.heap.size w w' → Calls Tryd.prog 52 #[.agg #[.bool ng, .slice ao l ca], .int .i64 (E - e)] w' fun r w'' => ∃ v, r = .returned v ∧ IsNum 0 w'' v q ∧ Below w'.heap.size w' w'')
    (COF : ∀ w' v, IsNum 0 w' v q → Calls Tryd.prog 26 #[v, .int .i64 e] w' fun r w'' => ∃ u, r = .returned u ∧ IsDy w'' u M X ∧ Below w'.heap.size w' w'')
    (CSU : ∀ w' u, Below w.heap.size w w' → IsDy w' u M X → Calls Tryd.prog 56 #[.agg #[.bool ng, .slice ao l ca, .int .i64 E], u] w' fun r w'' => ∃ u, r = .returned u ∧ IsDy w'' u R Y ∧ Below w'.heap.size w' w'')
    (CSC : ∀ w' v, IsDy w' v R Y → Calls Tryd.prog 58 #[v, .int .i64 1] w' fun r w'' => ∃ u, r = .returned u ∧ IsDy w'' u R2 Y2 ∧ Below w'.heap.size w' w'')
    (CO2 : ∀ w' v, IsNumM 2 0 w' v 1 → Calls Tryd.prog 26 #[v, .int .i64 e] w' fun r w'' => ∃ u, r = .returned u ∧ IsDy w'' u O Z ∧ Below w'.heap.size w' w'')
    (CCM : ∀ w' v u, IsDy w' v R2 Y2 → IsDy w' u O Z → Calls Tryd.prog 57 #[v, u] w' fun r w'' => r = .returned (.int .i64 c) ∧ Below w'.heap.size w' w'')
    (CSM : ∀ w' v, IsNum 0 w' v q → Calls Tryd.prog 55 #[v] w' fun r w'' => r = .returned (.int .u64 n) ∧ Below w'.heap.size w' w'')
    (k1 : decide ((0 : Int) < c) = true) :
    Calls Tryd.prog 33 #[.agg #[.bool ng, .slice ao l ca, .int .i64 E], .int .i64 e] w fun r w' => r = .returned (.tuple #[.int .u64 (n + 1), .bool false]) ∧ Below w.heap.size w w' := by
  have KSH := hide CSH; have KOF := hide COF; have KSU := hide CSU; have KSC := hide CSC; have KO2 := hide CO2; have KCM := hide CCM; have KSM := hide CSM; have HR := hide hR
  clear CSH COF CSU CSC CO2 CCM CSM hR
  have w1 : IntKind.i64.wrap (E - e) = E - e := by simp only [IntKind.wrap_i64]; omega
  have hn0 : (0 : Int) ≤ n := by omega
  have B0 := hide ((Below.refl w.heap.size w).alloc (Nat.le_refl _) (.cells #[.bool ng, .slice ao l ca, .int .i64 E] 37))
  have X0 := hide (Box3.new w (.bool ng) (.slice ao l ca) (.int .i64 E))
  clear hE he
  go_enter Tryd.func33, Tryd.ntmps33
  go_wp2_with fail
  refine (unhide KSH _ (unhide B0)).mono ?_
  rintro r w1' ⟨v, rfl, hv, hb1⟩
  have b1 := (unhide B0).trans (hb1.mono (unhide B0).size)
  have x1 := (unhide X0).all hb1
  obtain ⟨n1, a1, c1, L1, rfl, i1⟩ := hv
  have hb2 : Below w1'.heap.size w1' (w1'.alloc (.cells #[.bool n1, .slice a1 L1.length c1] 35)) := (Below.refl _ _).alloc (Nat.le_refl _) _
  have F0 := hide (show Below w.heap.size w (w1'.alloc (.cells #[.bool n1, .slice a1 L1.length c1] 35)) ∧ Box3 (w1'.alloc (.cells #[.bool n1, .slice a1 L1.length c1] 35)) w.heap.size (.bool ng) (.slice ao l ca) (.int .i64 E) ∧ Box2 (w1'.alloc (.cells #[.bool n1, .slice a1 L1.length c1] 35)) w1'.heap.size (.bool n1) (.slice a1 L1.length c1) ∧ IsNum 0 (w1'.alloc (.cells #[.bool n1, .slice a1 L1.length c1] 35)) (.agg #[.bool n1, .slice a1 L1.length c1]) q from
    ⟨b1.trans (hb2.mono b1.size), x1.all hb2, Box2.new _ _ _, (show IsNum 0 w1' (.agg #[.bool n1, .slice a1 L1.length c1]) q from ⟨n1, a1, c1, L1, rfl, i1⟩).below hb2⟩)
  clear b1 hb1 x1 i1 hb2 B0 X0 KSH
  generalize L1.length = l1 at *
  go_upto_region 4 with (fail)
  refine at_world (fun W => Below w.heap.size w W ∧ Box3 W w.heap.size (.bool ng) (.slice ao l ca) (.int .i64 E) ∧ Box2 W w1'.heap.size (.bool n1) (.slice a1 l1 c1) ∧ IsNum 0 W (.agg #[.bool n1, .slice a1 l1 c1]) q) (unhide F0) ?_
  clear F0
  generalize w1'.heap.size = g1 at *
  rintro W0 ⟨b0, x0, x1, iq⟩
  have hg1 : g1 < W0.heap.size := x1.lt
  have hK : ∀ w', Below W0.heap.size W0 w' → Below W0.heap.size W0 w' ∧ w'.cell? ⟨w.heap.size, 0, none⟩ = some (.bool ng) ∧ w'.cell? ⟨w.heap.size, 1, none⟩ = some (.slice ao l ca) ∧ w'.cell? ⟨w.heap.size, 2, none⟩ = some (.int .i64 E) ∧ w'.cell? ⟨g1, 0, none⟩ = some (.bool n1) ∧ w'.cell? ⟨g1, 1, none⟩ = some (.slice a1 l1 c1) := fun w' h => ⟨h, (x0.all h).c0, (x0.all h).c1, (x0.all h).c2, (x1.all h).c0, (x1.all h).c1⟩
  have HK := hide hK
  have HKA := hide (fun wn o (h1 : Below W0.heap.size W0 wn) => unhide HK (wn.alloc o) (h1.alloc h1.size o))
  have HKS := hide (fun wn g u u' u'' (h1 : Below W0.heap.size W0 wn) (h4 : W0.heap.size ≤ g) => unhide HK (((wn.setCell ⟨g, 0, none⟩ u).setCell ⟨g, 1, none⟩ u').setCell ⟨g, 2, none⟩ u'') (below_put3 h1 h4 u u' u''))
  have BXA := hide (fun wn (h1 : Below (W0.drew.alloc (.cells #[.bool false, .slice none 0 0, .int .i64 0] 37)).heap.size (W0.drew.alloc (.cells #[.bool false, .slice none 0 0, .int .i64 0] 37)) wn) => (Box3.new W0.drew (.bool false) (.slice none 0 0) (.int .i64 0)).below h1 (by simp))
  have BXB := hide (fun wn wm (h2 : Below (wn.alloc (.cells #[.bool false, .slice none 0 0, .int .i64 0] 37)).heap.size (wn.alloc (.cells #[.bool false, .slice none 0 0, .int .i64 0] 37)) wm) => (Box3.new wn (.bool false) (.slice none 0 0) (.int .i64 0)).below h2 (by simp))
  have KOF' := hide (fun w' (h : Below W0.heap.size W0 w') => unhide KOF w' _ (iq.below h))
  have KSU' := hide (fun w' u (h : Below W0.heap.size W0 w') hu => unhide KSU w' u (b0.trans (h.mono b0.size)) hu)
  have HT := hide (fun (W : World) (g : Nat) {np : Bool} {ap : Option Addr} {lp cp : Nat} (h1 : Below W0.heap.size W0 W) (h2 : Box3 W g (.bool np) (.slice ap lp cp) (.int .i64 Y)) (h3 : IsDy W (.agg #[.bool np, .slice ap lp cp, .int .i64 Y]) R Y) =>
    (show TailN w g1 n1 a1 l1 c1 np ap lp cp q R Y g W from ⟨b0.trans (h1.mono b0.size), h2, h3, x1.all h1, iq.below h1⟩))
  clear hK b0 x0 x1 iq KOF KSU
  go_region_held3 (fun w' => Below W0.heap.size W0 w' ∧ w'.cell? ⟨w.heap.size, 0, none⟩ = some (.bool ng) ∧ w'.cell? ⟨w.heap.size, 1, none⟩ = some (.slice ao l ca) ∧ w'.cell? ⟨w.heap.size, 2, none⟩ = some (.int .i64 E) ∧ w'.cell? ⟨g1, 0, none⟩ = some (.bool n1) ∧ w'.cell? ⟨g1, 1, none⟩ = some (.slice a1 l1 c1))
    (first | assumption | exact unhide HK _ (Below.refl _ _).drew | exact unhide HK _ (by assumption) | exact unhide HKA _ _ (by assumption) | exact unhide HKA _ _ (And.left (by assumption)) | exact unhide HKS _ _ _ _ _ hBwm (by first | exact Nat.le_refl _ | exact Below.size (by assumption)) | fail "NO KEEP")
    (first | (go_at_call 26; refine (unhide KOF' _ (And.left (by assumption))).mono ?_; rintro r wa ⟨u, rfl, iu, hb1⟩; have hBwa : Below W0.heap.size W0 wa := Below.trans (And.left (by assumption)) (hb1.mono (Below.size (And.left (by assumption)))); (first | (have xb : Box3 wa W0.heap.size (.bool false) (.slice none 0 0) (.int .i64 0) := unhide BXA _ hb1) | skip); have IU := hide iu; clear iu; clear hb1) | (go_at_call 56; refine (unhide KSU' _ _ (And.left (by assumption)) (by first | exact unhide IU | exact (unhide IU).below ((Below.refl _ _).alloc (Nat.le_refl _) _))).mono ?_; rintro r wm ⟨u, rfl, ⟨np, ap, cp, Lp, rfl, jp⟩, hb1⟩; have hBwm : Below W0.heap.size W0 wm := Below.trans (And.left (by assumption)) (hb1.mono (Below.size (And.left (by assumption)))); (first | (have xb := Box3.below xb hb1 xb.lt) | (have xb := unhide BXB _ _ hb1) | skip); (first | (have kb0 := xb.c0; have kb1 := xb.c1; have kb2 := xb.c2; have gb0 := xb.free 0; have gb1 := xb.free 1; have gb2 := xb.free 2) | skip); have IP := hide (show IsDy wm (.agg #[.bool np, .slice ap Lp.length cp, .int .i64 Y]) R Y from ⟨np, ap, cp, Lp, rfl, jp⟩); clear hb1 jp) | fail "NO ARM")
  all_goals
    first
      | refine at_thenB (TailN _ _ _ _ _ _ _ _ _ _ _ _ _ W0.heap.size) (unhide HT _ _ (And.left (by assumption)) (xb.put _ _ _) ((unhide IP).put3 xb _ _ _)) ?_
      | refine at_thenB (TailN _ _ _ _ _ _ _ _ _ _ _ _ _ wa.heap.size) (unhide HT _ _ (And.left (by assumption)) (xb.put _ _ _) ((unhide IP).put3 xb _ _ _)) ?_
      | refine at_thenB (TailN _ _ _ _ _ _ _ _ _ _ _ _ _ wm.heap.size) (unhide HT _ _ (And.left (by assumption)) (Box3.new _ _ _ _) ((unhide IP).below ((Below.refl _ _).alloc (Nat.le_refl _) _))) ?_
      | fail "NO WAY"
  all_goals
    rintro W ⟨bW, xg, ir, x1, iq⟩
    have hz := unhide HR _ _ _ _ _ ir
    have IR := hide ir; have IQ := hide iq; have BW := hide bW; have X1 := hide x1; have XG := hide xg
    have kc0 := xg.c0; have kc1 := xg.c1; have kc2 := xg.c2
    try clear kb0 kb1 kb2 gb0 gb1 gb2
    try clear xb
    clear xg ir iq bW x1 HT HK HKA HKS BXA BXB KOF' KSU' IP IU hBwa hBwm HR
    try clear hg1
    generalize Lp.length = lp at *
    go_wp2_with fail
    refine (unhide KSC _ _ (unhide IR)).mono ?_
    rintro r w3 ⟨u3, rfl, i3, hb3⟩
    have I3 := hide i3
    have B3 := hide hb3
    clear i3 hb3 KSC
    go_wp2_with fail
    refine (refOf_any 1 _ (by decide) (by decide)).mono ?_
    rintro r w4 ⟨u4, rfl, i4, hb4⟩
    have I4 := hide (IsNumM.zeroB i4)
    have B4 := hide ((unhide B3).trans (hb4.mono (unhide B3).size))
    have I3' := hide ((unhide I3).below hb4)
    clear i4 hb4 I3 B3
    go_wp2_with fail
    refine (unhide KO2 _ _ (unhide I4)).mono ?_
    rintro r w5 ⟨u5, rfl, i5, hb5⟩
    have I5 := hide i5
    have B5 := hide ((unhide B4).trans (hb5.mono (unhide B4).size))
    have I3 := hide ((unhide I3').below hb5)
    clear i5 hb5 I3' B4 I4 KO2
    go_wp2_with fail
    refine (unhide KCM _ _ _ (unhide I3) (unhide I5)).mono ?_
    rintro r w6 ⟨rfl, hb6⟩
    have b6 := (unhide B5).trans (hb6.mono (unhide B5).size)
    have x1 := (unhide X1).all b6
    have IQ6 := hide ((unhide IQ).below b6)
    have XG6 := hide ((unhide XG).all b6)
    have BW6 := hide ((unhide BW).trans (b6.mono (unhide BW).size))
    clear kc0 kc1 kc2
    have q0 := x1.c0; have q1 := x1.c1
    clear x1 b6 hb6 B5 I3 I5 KCM IQ X1 XG BW IR
    go_wp2_with fail
    refine (unhide KSM _ _ (unhide IQ6)).mono ?_
    rintro r w7 ⟨rfl, hb7⟩
    have x7 := (unhide XG6).all hb7
    have BW7 := hide ((unhide BW6).trans (hb7.mono (unhide BW6).size))
    have kc0 := x7.c0; have kc1 := x7.c1; have kc2 := x7.c2
    clear x7 hb7 q0 q1 IQ6 XG6 BW6 KSM
    go_wp2
    go_quiet (fail)
    go_wp2
    exact bodyPost_ret (v := .tuple #[.int .u64 (n + 1), .bool false]) (by simp [results, Tryd.results33, go_sem]) rfl ⟨rfl, below_drewN (unhide BW7) _⟩

set_option maxHeartbeats 8000000 in
theorem near_b (ng : Bool) (ao : Option Addr) (ca l n : Nat) (E e q M X R Y R2 Y2 O Z c : Int) (w : World) (hE : -20000 ≤ E ∧ E ≤ 20000) (he : -20000 ≤ e ∧ e ≤ 20000) (hlt : decide (e ≤ E) = false) (hn : (n : Int) < 1152921504606846976) (hR : ∀ W np ap lp cp, IsDy W (.agg #[.bool np, .slice ap lp cp, .int .i64 Y]) R Y → ((lp : Int) == 0) = false)
    (CSH : ∀ w', Below w.heap.size w w' → Calls Tryd.prog 52 #[.agg #[.bool ng, .slice ao l ca], .int .i64 (E - e)] w' fun r w'' => ∃ v, r = .returned v ∧ IsNum 0 w'' v q ∧ Below w'.heap.size w' w'')
    (COF : ∀ w' v, IsNum 0 w' v q → Calls Tryd.prog 26 #[v, .int .i64 e] w' fun r w'' => ∃ u, r = .returned u ∧ IsDy w'' u M X ∧ Below w'.heap.size w' w'')
    (CSU : ∀ w' u, Below w.heap.size w w' → IsDy w' u M X → Calls Tryd.prog 56 #[.agg #[.bool ng, .slice ao l ca, .int .i64 E], u] w' fun r w'' => ∃ u, r = .returned u ∧ IsDy w'' u R Y ∧ Below w'.heap.size w' w'')
    (CSC : ∀ w' v, IsDy w' v R Y → Calls Tryd.prog 58 #[v, .int .i64 1] w' fun r w'' => ∃ u, r = .returned u ∧ IsDy w'' u R2 Y2 ∧ Below w'.heap.size w' w'')
    (CO2 : ∀ w' v, IsNumM 2 0 w' v 1 → Calls Tryd.prog 26 #[v, .int .i64 e] w' fun r w'' => ∃ u, r = .returned u ∧ IsDy w'' u O Z ∧ Below w'.heap.size w' w'')
    (CCM : ∀ w' v u, IsDy w' v R2 Y2 → IsDy w' u O Z → Calls Tryd.prog 57 #[v, u] w' fun r w'' => r = .returned (.int .i64 c) ∧ Below w'.heap.size w' w'')
    (CSM : ∀ w' v, IsNum 0 w' v q → Calls Tryd.prog 55 #[v] w' fun r w'' => r = .returned (.int .u64 n) ∧ Below w'.heap.size w' w'')
    (k1 : decide ((0 : Int) < c) = false) (k2 : (c == 0) = true) (k3 : ((n : Int) % 2 == 1) = true) :
    Calls Tryd.prog 33 #[.agg #[.bool ng, .slice ao l ca, .int .i64 E], .int .i64 e] w fun r w' => r = .returned (.tuple #[.int .u64 (n + 1), .bool false]) ∧ Below w.heap.size w w' := by
  have KSH := hide CSH; have KOF := hide COF; have KSU := hide CSU; have KSC := hide CSC; have KO2 := hide CO2; have KCM := hide CCM; have KSM := hide CSM; have HR := hide hR
  clear CSH COF CSU CSC CO2 CCM CSM hR
  have w1 : IntKind.i64.wrap (E - e) = E - e := by simp only [IntKind.wrap_i64]; omega
  have hn0 : (0 : Int) ≤ n := by omega
  have B0 := hide ((Below.refl w.heap.size w).alloc (Nat.le_refl _) (.cells #[.bool ng, .slice ao l ca, .int .i64 E] 37))
  have X0 := hide (Box3.new w (.bool ng) (.slice ao l ca) (.int .i64 E))
  clear hE he
  go_enter Tryd.func33, Tryd.ntmps33
  go_wp2_with fail
  refine (unhide KSH _ (unhide B0)).mono ?_
  rintro r w1' ⟨v, rfl, hv, hb1⟩
  have b1 := (unhide B0).trans (hb1.mono (unhide B0).size)
  have x1 := (unhide X0).all hb1
  obtain ⟨n1, a1, c1, L1, rfl, i1⟩ := hv
  have hb2 : Below w1'.heap.size w1' (w1'.alloc (.cells #[.bool n1, .slice a1 L1.length c1] 35)) := (Below.refl _ _).alloc (Nat.le_refl _) _
  have F0 := hide (show Below w.heap.size w (w1'.alloc (.cells #[.bool n1, .slice a1 L1.length c1] 35)) ∧ Box3 (w1'.alloc (.cells #[.bool n1, .slice a1 L1.length c1] 35)) w.heap.size (.bool ng) (.slice ao l ca) (.int .i64 E) ∧ Box2 (w1'.alloc (.cells #[.bool n1, .slice a1 L1.length c1] 35)) w1'.heap.size (.bool n1) (.slice a1 L1.length c1) ∧ IsNum 0 (w1'.alloc (.cells #[.bool n1, .slice a1 L1.length c1] 35)) (.agg #[.bool n1, .slice a1 L1.length c1]) q from
    ⟨b1.trans (hb2.mono b1.size), x1.all hb2, Box2.new _ _ _, (show IsNum 0 w1' (.agg #[.bool n1, .slice a1 L1.length c1]) q from ⟨n1, a1, c1, L1, rfl, i1⟩).below hb2⟩)
  clear b1 hb1 x1 i1 hb2 B0 X0 KSH
  generalize L1.length = l1 at *
  go_upto_region 4 with (fail)
  refine at_world (fun W => Below w.heap.size w W ∧ Box3 W w.heap.size (.bool ng) (.slice ao l ca) (.int .i64 E) ∧ Box2 W w1'.heap.size (.bool n1) (.slice a1 l1 c1) ∧ IsNum 0 W (.agg #[.bool n1, .slice a1 l1 c1]) q) (unhide F0) ?_
  clear F0
  generalize w1'.heap.size = g1 at *
  rintro W0 ⟨b0, x0, x1, iq⟩
  have hg1 : g1 < W0.heap.size := x1.lt
  have hK : ∀ w', Below W0.heap.size W0 w' → Below W0.heap.size W0 w' ∧ w'.cell? ⟨w.heap.size, 0, none⟩ = some (.bool ng) ∧ w'.cell? ⟨w.heap.size, 1, none⟩ = some (.slice ao l ca) ∧ w'.cell? ⟨w.heap.size, 2, none⟩ = some (.int .i64 E) ∧ w'.cell? ⟨g1, 0, none⟩ = some (.bool n1) ∧ w'.cell? ⟨g1, 1, none⟩ = some (.slice a1 l1 c1) := fun w' h => ⟨h, (x0.all h).c0, (x0.all h).c1, (x0.all h).c2, (x1.all h).c0, (x1.all h).c1⟩
  have HK := hide hK
  have HKA := hide (fun wn o (h1 : Below W0.heap.size W0 wn) => unhide HK (wn.alloc o) (h1.alloc h1.size o))
  have HKS := hide (fun wn g u u' u'' (h1 : Below W0.heap.size W0 wn) (h4 : W0.heap.size ≤ g) => unhide HK (((wn.setCell ⟨g, 0, none⟩ u).setCell ⟨g, 1, none⟩ u').setCell ⟨g, 2, none⟩ u'') (below_put3 h1 h4 u u' u''))
  have BXA := hide (fun wn (h1 : Below (W0.drew.alloc (.cells #[.bool false, .slice none 0 0, .int .i64 0] 37)).heap.size (W0.drew.alloc (.cells #[.bool false, .slice none 0 0, .int .i64 0] 37)) wn) => (Box3.new W0.drew (.bool false) (.slice none 0 0) (.int .i64 0)).below h1 (by simp))
  have BXB := hide (fun wn wm (h2 : Below (wn.alloc (.cells #[.bool false, .slice none 0 0, .int .i64 0] 37)).heap.size (wn.alloc (.cells #[.bool false, .slice none 0 0, .int .i64 0] 37)) wm) => (Box3.new wn (.bool false) (.slice none 0 0) (.int .i64 0)).below h2 (by simp))
  have KOF' := hide (fun w' (h : Below W0.heap.size W0 w') => unhide KOF w' _ (iq.below h))
  have KSU' := hide (fun w' u (h : Below W0.heap.size W0 w') hu => unhide KSU w' u (b0.trans (h.mono b0.size)) hu)
  have HT := hide (fun (W : World) (g : Nat) {np : Bool} {ap : Option Addr} {lp cp : Nat} (h1 : Below W0.heap.size W0 W) (h2 : Box3 W g (.bool np) (.slice ap lp cp) (.int .i64 Y)) (h3 : IsDy W (.agg #[.bool np, .slice ap lp cp, .int .i64 Y]) R Y) =>
    (show TailN w g1 n1 a1 l1 c1 np ap lp cp q R Y g W from ⟨b0.trans (h1.mono b0.size), h2, h3, x1.all h1, iq.below h1⟩))
  clear hK b0 x0 x1 iq KOF KSU
  go_region_held3 (fun w' => Below W0.heap.size W0 w' ∧ w'.cell? ⟨w.heap.size, 0, none⟩ = some (.bool ng) ∧ w'.cell? ⟨w.heap.size, 1, none⟩ = some (.slice ao l ca) ∧ w'.cell? ⟨w.heap.size, 2, none⟩ = some (.int .i64 E) ∧ w'.cell? ⟨g1, 0, none⟩ = some (.bool n1) ∧ w'.cell? ⟨g1, 1, none⟩ = some (.slice a1 l1 c1))
    (first | assumption | exact unhide HK _ (Below.refl _ _).drew | exact unhide HK _ (by assumption) | exact unhide HKA _ _ (by assumption) | exact unhide HKA _ _ (And.left (by assumption)) | exact unhide HKS _ _ _ _ _ hBwm (by first | exact Nat.le_refl _ | exact Below.size (by assumption)) | fail "NO KEEP")
    (first | (go_at_call 26; refine (unhide KOF' _ (And.left (by assumption))).mono ?_; rintro r wa ⟨u, rfl, iu, hb1⟩; have hBwa : Below W0.heap.size W0 wa := Below.trans (And.left (by assumption)) (hb1.mono (Below.size (And.left (by assumption)))); (first | (have xb : Box3 wa W0.heap.size (.bool false) (.slice none 0 0) (.int .i64 0) := unhide BXA _ hb1) | skip); have IU := hide iu; clear iu; clear hb1) | (go_at_call 56; refine (unhide KSU' _ _ (And.left (by assumption)) (by first | exact unhide IU | exact (unhide IU).below ((Below.refl _ _).alloc (Nat.le_refl _) _))).mono ?_; rintro r wm ⟨u, rfl, ⟨np, ap, cp, Lp, rfl, jp⟩, hb1⟩; have hBwm : Below W0.heap.size W0 wm := Below.trans (And.left (by assumption)) (hb1.mono (Below.size (And.left (by assumption)))); (first | (have xb := Box3.below xb hb1 xb.lt) | (have xb := unhide BXB _ _ hb1) | skip); (first | (have kb0 := xb.c0; have kb1 := xb.c1; have kb2 := xb.c2; have gb0 := xb.free 0; have gb1 := xb.free 1; have gb2 := xb.free 2) | skip); have IP := hide (show IsDy wm (.agg #[.bool np, .slice ap Lp.length cp, .int .i64 Y]) R Y from ⟨np, ap, cp, Lp, rfl, jp⟩); clear hb1 jp) | fail "NO ARM")
  all_goals
    first
      | refine at_thenB (TailN _ _ _ _ _ _ _ _ _ _ _ _ _ W0.heap.size) (unhide HT _ _ (And.left (by assumption)) (xb.put _ _ _) ((unhide IP).put3 xb _ _ _)) ?_
      | refine at_thenB (TailN _ _ _ _ _ _ _ _ _ _ _ _ _ wa.heap.size) (unhide HT _ _ (And.left (by assumption)) (xb.put _ _ _) ((unhide IP).put3 xb _ _ _)) ?_
      | refine at_thenB (TailN _ _ _ _ _ _ _ _ _ _ _ _ _ wm.heap.size) (unhide HT _ _ (And.left (by assumption)) (Box3.new _ _ _ _) ((unhide IP).below ((Below.refl _ _).alloc (Nat.le_refl _) _))) ?_
      | fail "NO WAY"
  all_goals
    rintro W ⟨bW, xg, ir, x1, iq⟩
    have hz := unhide HR _ _ _ _ _ ir
    have IR := hide ir; have IQ := hide iq; have BW := hide bW; have X1 := hide x1; have XG := hide xg
    have kc0 := xg.c0; have kc1 := xg.c1; have kc2 := xg.c2
    try clear kb0 kb1 kb2 gb0 gb1 gb2
    try clear xb
    clear xg ir iq bW x1 HT HK HKA HKS BXA BXB KOF' KSU' IP IU hBwa hBwm HR
    try clear hg1
    generalize Lp.length = lp at *
    go_wp2_with fail
    refine (unhide KSC _ _ (unhide IR)).mono ?_
    rintro r w3 ⟨u3, rfl, i3, hb3⟩
    have I3 := hide i3
    have B3 := hide hb3
    clear i3 hb3 KSC
    go_wp2_with fail
    refine (refOf_any 1 _ (by decide) (by decide)).mono ?_
    rintro r w4 ⟨u4, rfl, i4, hb4⟩
    have I4 := hide (IsNumM.zeroB i4)
    have B4 := hide ((unhide B3).trans (hb4.mono (unhide B3).size))
    have I3' := hide ((unhide I3).below hb4)
    clear i4 hb4 I3 B3
    go_wp2_with fail
    refine (unhide KO2 _ _ (unhide I4)).mono ?_
    rintro r w5 ⟨u5, rfl, i5, hb5⟩
    have I5 := hide i5
    have B5 := hide ((unhide B4).trans (hb5.mono (unhide B4).size))
    have I3 := hide ((unhide I3').below hb5)
    clear i5 hb5 I3' B4 I4 KO2
    go_wp2_with fail
    refine (unhide KCM _ _ _ (unhide I3) (unhide I5)).mono ?_
    rintro r w6 ⟨rfl, hb6⟩
    have b6 := (unhide B5).trans (hb6.mono (unhide B5).size)
    have x1 := (unhide X1).all b6
    have IQ6 := hide ((unhide IQ).below b6)
    have XG6 := hide ((unhide XG).all b6)
    have BW6 := hide ((unhide BW).trans (b6.mono (unhide BW).size))
    clear kc0 kc1 kc2
    have q0 := x1.c0; have q1 := x1.c1
    clear x1 b6 hb6 B5 I3 I5 KCM IQ X1 XG BW IR
    go_wp2_with fail
    refine (unhide KSM _ _ (unhide IQ6)).mono ?_
    rintro r w7 ⟨rfl, hb7⟩
    have x7 := (unhide XG6).all hb7
    have BW7 := hide ((unhide BW6).trans (hb7.mono (unhide BW6).size))
    have kc0 := x7.c0; have kc1 := x7.c1; have kc2 := x7.c2
    clear x7 hb7 q0 q1 IQ6 XG6 BW6 KSM
    go_wp2
    go_quiet (fail)
    go_wp2
    exact bodyPost_ret (v := .tuple #[.int .u64 (n + 1), .bool false]) (by simp [results, Tryd.results33, go_sem]) rfl ⟨rfl, below_drewN (unhide BW7) _⟩

set_option maxHeartbeats 8000000 in
theorem near_c (ng : Bool) (ao : Option Addr) (ca l n : Nat) (E e q M X R Y R2 Y2 O Z c : Int) (w : World) (hE : -20000 ≤ E ∧ E ≤ 20000) (he : -20000 ≤ e ∧ e ≤ 20000) (hlt : decide (e ≤ E) = false) (hn : (n : Int) < 1152921504606846976) (hR : ∀ W np ap lp cp, IsDy W (.agg #[.bool np, .slice ap lp cp, .int .i64 Y]) R Y → ((lp : Int) == 0) = false)
    (CSH : ∀ w', Below w.heap.size w w' → Calls Tryd.prog 52 #[.agg #[.bool ng, .slice ao l ca], .int .i64 (E - e)] w' fun r w'' => ∃ v, r = .returned v ∧ IsNum 0 w'' v q ∧ Below w'.heap.size w' w'')
    (COF : ∀ w' v, IsNum 0 w' v q → Calls Tryd.prog 26 #[v, .int .i64 e] w' fun r w'' => ∃ u, r = .returned u ∧ IsDy w'' u M X ∧ Below w'.heap.size w' w'')
    (CSU : ∀ w' u, Below w.heap.size w w' → IsDy w' u M X → Calls Tryd.prog 56 #[.agg #[.bool ng, .slice ao l ca, .int .i64 E], u] w' fun r w'' => ∃ u, r = .returned u ∧ IsDy w'' u R Y ∧ Below w'.heap.size w' w'')
    (CSC : ∀ w' v, IsDy w' v R Y → Calls Tryd.prog 58 #[v, .int .i64 1] w' fun r w'' => ∃ u, r = .returned u ∧ IsDy w'' u R2 Y2 ∧ Below w'.heap.size w' w'')
    (CO2 : ∀ w' v, IsNumM 2 0 w' v 1 → Calls Tryd.prog 26 #[v, .int .i64 e] w' fun r w'' => ∃ u, r = .returned u ∧ IsDy w'' u O Z ∧ Below w'.heap.size w' w'')
    (CCM : ∀ w' v u, IsDy w' v R2 Y2 → IsDy w' u O Z → Calls Tryd.prog 57 #[v, u] w' fun r w'' => r = .returned (.int .i64 c) ∧ Below w'.heap.size w' w'')
    (CSM : ∀ w' v, IsNum 0 w' v q → Calls Tryd.prog 55 #[v] w' fun r w'' => r = .returned (.int .u64 n) ∧ Below w'.heap.size w' w'')
    (k1 : decide ((0 : Int) < c) = false) (k2 : (c == 0) = true) (k3 : ((n : Int) % 2 == 1) = false) :
    Calls Tryd.prog 33 #[.agg #[.bool ng, .slice ao l ca, .int .i64 E], .int .i64 e] w fun r w' => r = .returned (.tuple #[.int .u64 (n), .bool false]) ∧ Below w.heap.size w w' := by
  have KSH := hide CSH; have KOF := hide COF; have KSU := hide CSU; have KSC := hide CSC; have KO2 := hide CO2; have KCM := hide CCM; have KSM := hide CSM; have HR := hide hR
  clear CSH COF CSU CSC CO2 CCM CSM hR
  have w1 : IntKind.i64.wrap (E - e) = E - e := by simp only [IntKind.wrap_i64]; omega
  have hn0 : (0 : Int) ≤ n := by omega
  have B0 := hide ((Below.refl w.heap.size w).alloc (Nat.le_refl _) (.cells #[.bool ng, .slice ao l ca, .int .i64 E] 37))
  have X0 := hide (Box3.new w (.bool ng) (.slice ao l ca) (.int .i64 E))
  clear hE he
  go_enter Tryd.func33, Tryd.ntmps33
  go_wp2_with fail
  refine (unhide KSH _ (unhide B0)).mono ?_
  rintro r w1' ⟨v, rfl, hv, hb1⟩
  have b1 := (unhide B0).trans (hb1.mono (unhide B0).size)
  have x1 := (unhide X0).all hb1
  obtain ⟨n1, a1, c1, L1, rfl, i1⟩ := hv
  have hb2 : Below w1'.heap.size w1' (w1'.alloc (.cells #[.bool n1, .slice a1 L1.length c1] 35)) := (Below.refl _ _).alloc (Nat.le_refl _) _
  have F0 := hide (show Below w.heap.size w (w1'.alloc (.cells #[.bool n1, .slice a1 L1.length c1] 35)) ∧ Box3 (w1'.alloc (.cells #[.bool n1, .slice a1 L1.length c1] 35)) w.heap.size (.bool ng) (.slice ao l ca) (.int .i64 E) ∧ Box2 (w1'.alloc (.cells #[.bool n1, .slice a1 L1.length c1] 35)) w1'.heap.size (.bool n1) (.slice a1 L1.length c1) ∧ IsNum 0 (w1'.alloc (.cells #[.bool n1, .slice a1 L1.length c1] 35)) (.agg #[.bool n1, .slice a1 L1.length c1]) q from
    ⟨b1.trans (hb2.mono b1.size), x1.all hb2, Box2.new _ _ _, (show IsNum 0 w1' (.agg #[.bool n1, .slice a1 L1.length c1]) q from ⟨n1, a1, c1, L1, rfl, i1⟩).below hb2⟩)
  clear b1 hb1 x1 i1 hb2 B0 X0 KSH
  generalize L1.length = l1 at *
  go_upto_region 4 with (fail)
  refine at_world (fun W => Below w.heap.size w W ∧ Box3 W w.heap.size (.bool ng) (.slice ao l ca) (.int .i64 E) ∧ Box2 W w1'.heap.size (.bool n1) (.slice a1 l1 c1) ∧ IsNum 0 W (.agg #[.bool n1, .slice a1 l1 c1]) q) (unhide F0) ?_
  clear F0
  generalize w1'.heap.size = g1 at *
  rintro W0 ⟨b0, x0, x1, iq⟩
  have hg1 : g1 < W0.heap.size := x1.lt
  have hK : ∀ w', Below W0.heap.size W0 w' → Below W0.heap.size W0 w' ∧ w'.cell? ⟨w.heap.size, 0, none⟩ = some (.bool ng) ∧ w'.cell? ⟨w.heap.size, 1, none⟩ = some (.slice ao l ca) ∧ w'.cell? ⟨w.heap.size, 2, none⟩ = some (.int .i64 E) ∧ w'.cell? ⟨g1, 0, none⟩ = some (.bool n1) ∧ w'.cell? ⟨g1, 1, none⟩ = some (.slice a1 l1 c1) := fun w' h => ⟨h, (x0.all h).c0, (x0.all h).c1, (x0.all h).c2, (x1.all h).c0, (x1.all h).c1⟩
  have HK := hide hK
  have HKA := hide (fun wn o (h1 : Below W0.heap.size W0 wn) => unhide HK (wn.alloc o) (h1.alloc h1.size o))
  have HKS := hide (fun wn g u u' u'' (h1 : Below W0.heap.size W0 wn) (h4 : W0.heap.size ≤ g) => unhide HK (((wn.setCell ⟨g, 0, none⟩ u).setCell ⟨g, 1, none⟩ u').setCell ⟨g, 2, none⟩ u'') (below_put3 h1 h4 u u' u''))
  have BXA := hide (fun wn (h1 : Below (W0.drew.alloc (.cells #[.bool false, .slice none 0 0, .int .i64 0] 37)).heap.size (W0.drew.alloc (.cells #[.bool false, .slice none 0 0, .int .i64 0] 37)) wn) => (Box3.new W0.drew (.bool false) (.slice none 0 0) (.int .i64 0)).below h1 (by simp))
  have BXB := hide (fun wn wm (h2 : Below (wn.alloc (.cells #[.bool false, .slice none 0 0, .int .i64 0] 37)).heap.size (wn.alloc (.cells #[.bool false, .slice none 0 0, .int .i64 0] 37)) wm) => (Box3.new wn (.bool false) (.slice none 0 0) (.int .i64 0)).below h2 (by simp))
  have KOF' := hide (fun w' (h : Below W0.heap.size W0 w') => unhide KOF w' _ (iq.below h))
  have KSU' := hide (fun w' u (h : Below W0.heap.size W0 w') hu => unhide KSU w' u (b0.trans (h.mono b0.size)) hu)
  have HT := hide (fun (W : World) (g : Nat) {np : Bool} {ap : Option Addr} {lp cp : Nat} (h1 : Below W0.heap.size W0 W) (h2 : Box3 W g (.bool np) (.slice ap lp cp) (.int .i64 Y)) (h3 : IsDy W (.agg #[.bool np, .slice ap lp cp, .int .i64 Y]) R Y) =>
    (show TailN w g1 n1 a1 l1 c1 np ap lp cp q R Y g W from ⟨b0.trans (h1.mono b0.size), h2, h3, x1.all h1, iq.below h1⟩))
  clear hK b0 x0 x1 iq KOF KSU
  go_region_held3 (fun w' => Below W0.heap.size W0 w' ∧ w'.cell? ⟨w.heap.size, 0, none⟩ = some (.bool ng) ∧ w'.cell? ⟨w.heap.size, 1, none⟩ = some (.slice ao l ca) ∧ w'.cell? ⟨w.heap.size, 2, none⟩ = some (.int .i64 E) ∧ w'.cell? ⟨g1, 0, none⟩ = some (.bool n1) ∧ w'.cell? ⟨g1, 1, none⟩ = some (.slice a1 l1 c1))
    (first | assumption | exact unhide HK _ (Below.refl _ _).drew | exact unhide HK _ (by assumption) | exact unhide HKA _ _ (by assumption) | exact unhide HKA _ _ (And.left (by assumption)) | exact unhide HKS _ _ _ _ _ hBwm (by first | exact Nat.le_refl _ | exact Below.size (by assumption)) | fail "NO KEEP")
    (first | (go_at_call 26; refine (unhide KOF' _ (And.left (by assumption))).mono ?_; rintro r wa ⟨u, rfl, iu, hb1⟩; have hBwa : Below W0.heap.size W0 wa := Below.trans (And.left (by assumption)) (hb1.mono (Below.size (And.left (by assumption)))); (first | (have xb : Box3 wa W0.heap.size (.bool false) (.slice none 0 0) (.int .i64 0) := unhide BXA _ hb1) | skip); have IU := hide iu; clear iu; clear hb1) | (go_at_call 56; refine (unhide KSU' _ _ (And.left (by assumption)) (by first | exact unhide IU | exact (unhide IU).below ((Below.refl _ _).alloc (Nat.le_refl _) _))).mono ?_; rintro r wm ⟨u, rfl, ⟨np, ap, cp, Lp, rfl, jp⟩, hb1⟩; have hBwm : Below W0.heap.size W0 wm := Below.trans (And.left (by assumption)) (hb1.mono (Below.size (And.left (by assumption)))); (first | (have xb := Box3.below xb hb1 xb.lt) | (have xb := unhide BXB _ _ hb1) | skip); (first | (have kb0 := xb.c0; have kb1 := xb.c1; have kb2 := xb.c2; have gb0 := xb.free 0; have gb1 := xb.free 1; have gb2 := xb.free 2) | skip); have IP := hide (show IsDy wm (.agg #[.bool np, .slice ap Lp.length cp, .int .i64 Y]) R Y from ⟨np, ap, cp, Lp, rfl, jp⟩); clear hb1 jp) | fail "NO ARM")
  all_goals
    first
      | refine at_thenB (TailN _ _ _ _ _ _ _ _ _ _ _ _ _ W0.heap.size) (unhide HT _ _ (And.left (by assumption)) (xb.put _ _ _) ((unhide IP).put3 xb _ _ _)) ?_
      | refine at_thenB (TailN _ _ _ _ _ _ _ _ _ _ _ _ _ wa.heap.size) (unhide HT _ _ (And.left (by assumption)) (xb.put _ _ _) ((unhide IP).put3 xb _ _ _)) ?_
      | refine at_thenB (TailN _ _ _ _ _ _ _ _ _ _ _ _ _ wm.heap.size) (unhide HT _ _ (And.left (by assumption)) (Box3.new _ _ _ _) ((unhide IP).below ((Below.refl _ _).alloc (Nat.le_refl _) _))) ?_
      | fail "NO WAY"
  all_goals
    rintro W ⟨bW, xg, ir, x1, iq⟩
    have hz := unhide HR _ _ _ _ _ ir
    have IR := hide ir; have IQ := hide iq; have BW := hide bW; have X1 := hide x1; have XG := hide xg
    have kc0 := xg.c0; have kc1 := xg.c1; have kc2 := xg.c2
    try clear kb0 kb1 kb2 gb0 gb1 gb2
    try clear xb
    clear xg ir iq bW x1 HT HK HKA HKS BXA BXB KOF' KSU' IP IU hBwa hBwm HR
    try clear hg1
    generalize Lp.length = lp at *
    go_wp2_with fail
    refine (unhide KSC _ _ (unhide IR)).mono ?_
    rintro r w3 ⟨u3, rfl, i3, hb3⟩
    have I3 := hide i3
    have B3 := hide hb3
    clear i3 hb3 KSC
    go_wp2_with fail
    refine (refOf_any 1 _ (by decide) (by decide)).mono ?_
    rintro r w4 ⟨u4, rfl, i4, hb4⟩
    have I4 := hide (IsNumM.zeroB i4)
    have B4 := hide ((unhide B3).trans (hb4.mono (unhide B3).size))
    have I3' := hide ((unhide I3).below hb4)
    clear i4 hb4 I3 B3
    go_wp2_with fail
    refine (unhide KO2 _ _ (unhide I4)).mono ?_
    rintro r w5 ⟨u5, rfl, i5, hb5⟩
    have I5 := hide i5
    have B5 := hide ((unhide B4).trans (hb5.mono (unhide B4).size))
    have I3 := hide ((unhide I3').below hb5)
    clear i5 hb5 I3' B4 I4 KO2
    go_wp2_with fail
    refine (unhide KCM _ _ _ (unhide I3) (unhide I5)).mono ?_
    rintro r w6 ⟨rfl, hb6⟩
    have b6 := (unhide B5).trans (hb6.mono (unhide B5).size)
    have x1 := (unhide X1).all b6
    have IQ6 := hide ((unhide IQ).below b6)
    have XG6 := hide ((unhide XG).all b6)
    have BW6 := hide ((unhide BW).trans (b6.mono (unhide BW).size))
    clear kc0 kc1 kc2
    have q0 := x1.c0; have q1 := x1.c1
    clear x1 b6 hb6 B5 I3 I5 KCM IQ X1 XG BW IR
    go_wp2_with fail
    refine (unhide KSM _ _ (unhide IQ6)).mono ?_
    rintro r w7 ⟨rfl, hb7⟩
    have x7 := (unhide XG6).all hb7
    have BW7 := hide ((unhide BW6).trans (hb7.mono (unhide BW6).size))
    have kc0 := x7.c0; have kc1 := x7.c1; have kc2 := x7.c2
    clear x7 hb7 q0 q1 IQ6 XG6 BW6 KSM
    go_wp2
    go_quiet (fail)
    go_wp2
    exact bodyPost_ret (v := .tuple #[.int .u64 (n), .bool false]) (by simp [results, Tryd.results33, go_sem]) rfl ⟨rfl, below_drewN (unhide BW7) _⟩

set_option maxHeartbeats 8000000 in
theorem near_d (ng : Bool) (ao : Option Addr) (ca l n : Nat) (E e q M X R Y R2 Y2 O Z c : Int) (w : World) (hE : -20000 ≤ E ∧ E ≤ 20000) (he : -20000 ≤ e ∧ e ≤ 20000) (hlt : decide (e ≤ E) = false) (hn : (n : Int) < 1152921504606846976) (hR : ∀ W np ap lp cp, IsDy W (.agg #[.bool np, .slice ap lp cp, .int .i64 Y]) R Y → ((lp : Int) == 0) = false)
    (CSH : ∀ w', Below w.heap.size w w' → Calls Tryd.prog 52 #[.agg #[.bool ng, .slice ao l ca], .int .i64 (E - e)] w' fun r w'' => ∃ v, r = .returned v ∧ IsNum 0 w'' v q ∧ Below w'.heap.size w' w'')
    (COF : ∀ w' v, IsNum 0 w' v q → Calls Tryd.prog 26 #[v, .int .i64 e] w' fun r w'' => ∃ u, r = .returned u ∧ IsDy w'' u M X ∧ Below w'.heap.size w' w'')
    (CSU : ∀ w' u, Below w.heap.size w w' → IsDy w' u M X → Calls Tryd.prog 56 #[.agg #[.bool ng, .slice ao l ca, .int .i64 E], u] w' fun r w'' => ∃ u, r = .returned u ∧ IsDy w'' u R Y ∧ Below w'.heap.size w' w'')
    (CSC : ∀ w' v, IsDy w' v R Y → Calls Tryd.prog 58 #[v, .int .i64 1] w' fun r w'' => ∃ u, r = .returned u ∧ IsDy w'' u R2 Y2 ∧ Below w'.heap.size w' w'')
    (CO2 : ∀ w' v, IsNumM 2 0 w' v 1 → Calls Tryd.prog 26 #[v, .int .i64 e] w' fun r w'' => ∃ u, r = .returned u ∧ IsDy w'' u O Z ∧ Below w'.heap.size w' w'')
    (CCM : ∀ w' v u, IsDy w' v R2 Y2 → IsDy w' u O Z → Calls Tryd.prog 57 #[v, u] w' fun r w'' => r = .returned (.int .i64 c) ∧ Below w'.heap.size w' w'')
    (CSM : ∀ w' v, IsNum 0 w' v q → Calls Tryd.prog 55 #[v] w' fun r w'' => r = .returned (.int .u64 n) ∧ Below w'.heap.size w' w'')
    (k1 : decide ((0 : Int) < c) = false) (k2 : (c == 0) = false) :
    Calls Tryd.prog 33 #[.agg #[.bool ng, .slice ao l ca, .int .i64 E], .int .i64 e] w fun r w' => r = .returned (.tuple #[.int .u64 (n), .bool false]) ∧ Below w.heap.size w w' := by
  have KSH := hide CSH; have KOF := hide COF; have KSU := hide CSU; have KSC := hide CSC; have KO2 := hide CO2; have KCM := hide CCM; have KSM := hide CSM; have HR := hide hR
  clear CSH COF CSU CSC CO2 CCM CSM hR
  have w1 : IntKind.i64.wrap (E - e) = E - e := by simp only [IntKind.wrap_i64]; omega
  have hn0 : (0 : Int) ≤ n := by omega
  have B0 := hide ((Below.refl w.heap.size w).alloc (Nat.le_refl _) (.cells #[.bool ng, .slice ao l ca, .int .i64 E] 37))
  have X0 := hide (Box3.new w (.bool ng) (.slice ao l ca) (.int .i64 E))
  clear hE he
  go_enter Tryd.func33, Tryd.ntmps33
  go_wp2_with fail
  refine (unhide KSH _ (unhide B0)).mono ?_
  rintro r w1' ⟨v, rfl, hv, hb1⟩
  have b1 := (unhide B0).trans (hb1.mono (unhide B0).size)
  have x1 := (unhide X0).all hb1
  obtain ⟨n1, a1, c1, L1, rfl, i1⟩ := hv
  have hb2 : Below w1'.heap.size w1' (w1'.alloc (.cells #[.bool n1, .slice a1 L1.length c1] 35)) := (Below.refl _ _).alloc (Nat.le_refl _) _
  have F0 := hide (show Below w.heap.size w (w1'.alloc (.cells #[.bool n1, .slice a1 L1.length c1] 35)) ∧ Box3 (w1'.alloc (.cells #[.bool n1, .slice a1 L1.length c1] 35)) w.heap.size (.bool ng) (.slice ao l ca) (.int .i64 E) ∧ Box2 (w1'.alloc (.cells #[.bool n1, .slice a1 L1.length c1] 35)) w1'.heap.size (.bool n1) (.slice a1 L1.length c1) ∧ IsNum 0 (w1'.alloc (.cells #[.bool n1, .slice a1 L1.length c1] 35)) (.agg #[.bool n1, .slice a1 L1.length c1]) q from
    ⟨b1.trans (hb2.mono b1.size), x1.all hb2, Box2.new _ _ _, (show IsNum 0 w1' (.agg #[.bool n1, .slice a1 L1.length c1]) q from ⟨n1, a1, c1, L1, rfl, i1⟩).below hb2⟩)
  clear b1 hb1 x1 i1 hb2 B0 X0 KSH
  generalize L1.length = l1 at *
  go_upto_region 4 with (fail)
  refine at_world (fun W => Below w.heap.size w W ∧ Box3 W w.heap.size (.bool ng) (.slice ao l ca) (.int .i64 E) ∧ Box2 W w1'.heap.size (.bool n1) (.slice a1 l1 c1) ∧ IsNum 0 W (.agg #[.bool n1, .slice a1 l1 c1]) q) (unhide F0) ?_
  clear F0
  generalize w1'.heap.size = g1 at *
  rintro W0 ⟨b0, x0, x1, iq⟩
  have hg1 : g1 < W0.heap.size := x1.lt
  have hK : ∀ w', Below W0.heap.size W0 w' → Below W0.heap.size W0 w' ∧ w'.cell? ⟨w.heap.size, 0, none⟩ = some (.bool ng) ∧ w'.cell? ⟨w.heap.size, 1, none⟩ = some (.slice ao l ca) ∧ w'.cell? ⟨w.heap.size, 2, none⟩ = some (.int .i64 E) ∧ w'.cell? ⟨g1, 0, none⟩ = some (.bool n1) ∧ w'.cell? ⟨g1, 1, none⟩ = some (.slice a1 l1 c1) := fun w' h => ⟨h, (x0.all h).c0, (x0.all h).c1, (x0.all h).c2, (x1.all h).c0, (x1.all h).c1⟩
  have HK := hide hK
  have HKA := hide (fun wn o (h1 : Below W0.heap.size W0 wn) => unhide HK (wn.alloc o) (h1.alloc h1.size o))
  have HKS := hide (fun wn g u u' u'' (h1 : Below W0.heap.size W0 wn) (h4 : W0.heap.size ≤ g) => unhide HK (((wn.setCell ⟨g, 0, none⟩ u).setCell ⟨g, 1, none⟩ u').setCell ⟨g, 2, none⟩ u'') (below_put3 h1 h4 u u' u''))
  have BXA := hide (fun wn (h1 : Below (W0.drew.alloc (.cells #[.bool false, .slice none 0 0, .int .i64 0] 37)).heap.size (W0.drew.alloc (.cells #[.bool false, .slice none 0 0, .int .i64 0] 37)) wn) => (Box3.new W0.drew (.bool false) (.slice none 0 0) (.int .i64 0)).below h1 (by simp))
  have BXB := hide (fun wn wm (h2 : Below (wn.alloc (.cells #[.bool false, .slice none 0 0, .int .i64 0] 37)).heap.size (wn.alloc (.cells #[.bool false, .slice none 0 0, .int .i64 0] 37)) wm) => (Box3.new wn (.bool false) (.slice none 0 0) (.int .i64 0)).below h2 (by simp))
  have KOF' := hide (fun w' (h : Below W0.heap.size W0 w') => unhide KOF w' _ (iq.below h))
  have KSU' := hide (fun w' u (h : Below W0.heap.size W0 w') hu => unhide KSU w' u (b0.trans (h.mono b0.size)) hu)
  have HT := hide (fun (W : World) (g : Nat) {np : Bool} {ap : Option Addr} {lp cp : Nat} (h1 : Below W0.heap.size W0 W) (h2 : Box3 W g (.bool np) (.slice ap lp cp) (.int .i64 Y)) (h3 : IsDy W (.agg #[.bool np, .slice ap lp cp, .int .i64 Y]) R Y) =>
    (show TailN w g1 n1 a1 l1 c1 np ap lp cp q R Y g W from ⟨b0.trans (h1.mono b0.size), h2, h3, x1.all h1, iq.below h1⟩))
  clear hK b0 x0 x1 iq KOF KSU
  go_region_held3 (fun w' => Below W0.heap.size W0 w' ∧ w'.cell? ⟨w.heap.size, 0, none⟩ = some (.bool ng) ∧ w'.cell? ⟨w.heap.size, 1, none⟩ = some (.slice ao l ca) ∧ w'.cell? ⟨w.heap.size, 2, none⟩ = some (.int .i64 E) ∧ w'.cell? ⟨g1, 0, none⟩ = some (.bool n1) ∧ w'.cell? ⟨g1, 1, none⟩ = some (.slice a1 l1 c1))
    (first | assumption | exact unhide HK _ (Below.refl _ _).drew | exact unhide HK _ (by assumption) | exact unhide HKA _ _ (by assumption) | exact unhide HKA _ _ (And.left (by assumption)) | exact unhide HKS _ _ _ _ _ hBwm (by first | exact Nat.le_refl _ | exact Below.size (by assumption)) | fail "NO KEEP")
    (first | (go_at_call 26; refine (unhide KOF' _ (And.left (by assumption))).mono ?_; rintro r wa ⟨u, rfl, iu, hb1⟩; have hBwa : Below W0.heap.size W0 wa := Below.trans (And.left (by assumption)) (hb1.mono (Below.size (And.left (by assumption)))); (first | (have xb : Box3 wa W0.heap.size (.bool false) (.slice none 0 0) (.int .i64 0) := unhide BXA _ hb1) | skip); have IU := hide iu; clear iu; clear hb1) | (go_at_call 56; refine (unhide KSU' _ _ (And.left (by assumption)) (by first | exact unhide IU | exact (unhide IU).below ((Below.refl _ _).alloc (Nat.le_refl _) _))).mono ?_; rintro r wm ⟨u, rfl, ⟨np, ap, cp, Lp, rfl, jp⟩, hb1⟩; have hBwm : Below W0.heap.size W0 wm := Below.trans (And.left (by assumption)) (hb1.mono (Below.size (And.left (by assumption)))); (first | (have xb := Box3.below xb hb1 xb.lt) | (have xb := unhide BXB _ _ hb1) | skip); (first | (have kb0 := xb.c0; have kb1 := xb.c1; have kb2 := xb.c2; have gb0 := xb.free 0; have gb1 := xb.free 1; have gb2 := xb.free 2) | skip); have IP := hide (show IsDy wm (.agg #[.bool np, .slice ap Lp.length cp, .int .i64 Y]) R Y from ⟨np, ap, cp, Lp, rfl, jp⟩); clear hb1 jp) | fail "NO ARM")
  all_goals
    first
      | refine at_thenB (TailN _ _ _ _ _ _ _ _ _ _ _ _ _ W0.heap.size) (unhide HT _ _ (And.left (by assumption)) (xb.put _ _ _) ((unhide IP).put3 xb _ _ _)) ?_
      | refine at_thenB (TailN _ _ _ _ _ _ _ _ _ _ _ _ _ wa.heap.size) (unhide HT _ _ (And.left (by assumption)) (xb.put _ _ _) ((unhide IP).put3 xb _ _ _)) ?_
      | refine at_thenB (TailN _ _ _ _ _ _ _ _ _ _ _ _ _ wm.heap.size) (unhide HT _ _ (And.left (by assumption)) (Box3.new _ _ _ _) ((unhide IP).below ((Below.refl _ _).alloc (Nat.le_refl _) _))) ?_
      | fail "NO WAY"
  all_goals
    rintro W ⟨bW, xg, ir, x1, iq⟩
    have hz := unhide HR _ _ _ _ _ ir
    have IR := hide ir; have IQ := hide iq; have BW := hide bW; have X1 := hide x1; have XG := hide xg
    have kc0 := xg.c0; have kc1 := xg.c1; have kc2 := xg.c2
    try clear kb0 kb1 kb2 gb0 gb1 gb2
    try clear xb
    clear xg ir iq bW x1 HT HK HKA HKS BXA BXB KOF' KSU' IP IU hBwa hBwm HR
    try clear hg1
    generalize Lp.length = lp at *
    go_wp2_with fail
    refine (unhide KSC _ _ (unhide IR)).mono ?_
    rintro r w3 ⟨u3, rfl, i3, hb3⟩
    have I3 := hide i3
    have B3 := hide hb3
    clear i3 hb3 KSC
    go_wp2_with fail
    refine (refOf_any 1 _ (by decide) (by decide)).mono ?_
    rintro r w4 ⟨u4, rfl, i4, hb4⟩
    have I4 := hide (IsNumM.zeroB i4)
    have B4 := hide ((unhide B3).trans (hb4.mono (unhide B3).size))
    have I3' := hide ((unhide I3).below hb4)
    clear i4 hb4 I3 B3
    go_wp2_with fail
    refine (unhide KO2 _ _ (unhide I4)).mono ?_
    rintro r w5 ⟨u5, rfl, i5, hb5⟩
    have I5 := hide i5
    have B5 := hide ((unhide B4).trans (hb5.mono (unhide B4).size))
    have I3 := hide ((unhide I3').below hb5)
    clear i5 hb5 I3' B4 I4 KO2
    go_wp2_with fail
    refine (unhide KCM _ _ _ (unhide I3) (unhide I5)).mono ?_
    rintro r w6 ⟨rfl, hb6⟩
    have b6 := (unhide B5).trans (hb6.mono (unhide B5).size)
    have x1 := (unhide X1).all b6
    have IQ6 := hide ((unhide IQ).below b6)
    have XG6 := hide ((unhide XG).all b6)
    have BW6 := hide ((unhide BW).trans (b6.mono (unhide BW).size))
    clear kc0 kc1 kc2
    have q0 := x1.c0; have q1 := x1.c1
    clear x1 b6 hb6 B5 I3 I5 KCM IQ X1 XG BW IR
    go_wp2_with fail
    refine (unhide KSM _ _ (unhide IQ6)).mono ?_
    rintro r w7 ⟨rfl, hb7⟩
    have x7 := (unhide XG6).all hb7
    have BW7 := hide ((unhide BW6).trans (hb7.mono (unhide BW6).size))
    have kc0 := x7.c0; have kc1 := x7.c1; have kc2 := x7.c2
    clear x7 hb7 q0 q1 IQ6 XG6 BW6 KSM
    go_wp2
    go_quiet (fail)
    go_wp2
    exact bodyPost_ret (v := .tuple #[.int .u64 (n), .bool false]) (by simp [results, Tryd.results33, go_sem]) rfl ⟨rfl, below_drewN (unhide BW7) _⟩

end Go.Proofs.YtenckfflpdgmnabDoor

