/- Part 21 of the texts. -/
import Derived.Test.YtenckfflpdgmnaaDoorPart20
import Derived.Laws.Cover2
import Derived.Laws.Externs
import Derived.Test.YtenckfflpdgmnaaDoorChecked
import Derived.Test.YtenckfflpdgmnaaDoorPart02
import Derived.ProofKit
import Derived.SizedLaws
import Derived.Lib.SmallJoins
/- Sums rise; the difference of two near numbers is exact. -/
namespace Go.Proofs.YtenckfflpdgmnaaDoor
open Go.RowKit

theorem fR_wrd (n : Bool) (r : Nat) (h : r < 9223372036854775808) : fR (wrd n r) = r := (wrd_parts n r h).2
theorem fZ_wrd (n : Bool) (r : Nat) (h : r < 9223372036854775808) : fZ (wrd n r) = pv n r := by
  unfold fZ; rw [fS_wrd n r h, fR_wrd n r h]
theorem fK_same {a b : Nat} (h : fR a = fR b) : fK a = fK b := by
  have hF : ∀ b, fF b = fR b % 4503599627370496 := fun b => by unfold fF fR; omega
  have hP : ∀ b, fP b = fR b / 4503599627370496 := fun b => rfl
  unfold fK
  rw [hF, hP, hF b, hP b, h]
theorem fK_fN (b : Nat) (h : b < 18446744073709551616) : fK (fN b) = fK b := fK_same (fR_fN b h)
theorem fFin_fN (b : Nat) (h : b < 18446744073709551616) : fFin (fN b) = fFin b := by
  have e := fR_fN b h
  unfold fFin
  rw [show fP (fN b) = fP b from by show fR (fN b) / 4503599627370496 = fR b / 4503599627370496; rw [e]]
theorem fZ_fN (b : Nat) (h : b < 18446744073709551616) : fZ (fN b) = - fZ b := by
  unfold fZ
  rw [fS_fN b h, fR_fN b h]
  unfold pv
  cases fS b <;> simp

theorem fin_kind {b : Nat} (hf : fFin b = true) : fK b ≠ 3 ∧ fK b ≠ 4 := by
  rcases fK_cases b with ⟨h, _⟩ | ⟨_, h⟩
  · rw [hf] at h; cases h
  · omega

/-- The sum of two finite numbers, and its value. -/
theorem aV_fin (a b : Nat) (fa : fFin a = true) (fb : fFin b = true) : fR (aV a b) = rnd (aZ a b).natAbs (-1074) ∧ fZ (aV a b) = pvZ (aZ a b) (-1074) := by
  obtain ⟨a3, a4⟩ := fin_kind fa
  obtain ⟨b3, b4⟩ := fin_kind fb
  rw [(add_f a b a3 a4 b3 b4).1]
  by_cases h0 : aZ a b = 0
  · rw [if_pos h0, h0]
    have e : (if (fS a && fS b) = true then 9223372036854775808 else 0) = wrd (fS a && fS b) 0 := by unfold wrd; split <;> rfl
    have r0 : rnd (0 : Int).natAbs (-1074) = 0 := rnd_0 _
    rw [e, fR_wrd _ _ (by decide), fZ_wrd _ _ (by decide), r0]
    refine ⟨rfl, ?_⟩
    unfold pvZ pv
    rw [r0, rv_zero]
    split <;> simp
  · rw [if_neg h0]
    have hle := rnd_le (aZ a b).natAbs (-1074)
    rw [fR_wrd _ _ (by omega), fZ_wrd _ _ (by omega)]
    exact ⟨rfl, rfl⟩

theorem order_bits (a b : Nat) (ha : a < 18446744073709551616) (hb : b < 18446744073709551616) (na : fK a ≠ 4) (nb : fK b ≠ 4) : Ieee.double.order a b = some (compare (fZ a) (fZ b)) := by
  have h1 : fR a ≤ 9218868437227405312 := Nat.le_of_not_lt fun h => na ((fK_rungs a).1.2 h)
  have h2 : fR b ≤ 9218868437227405312 := Nat.le_of_not_lt fun h => nb ((fK_rungs b).1.2 h)
  have := order_wrd (fS a) (fS b) (fR a) (fR b) h1 h2
  rw [b_wrd a ha, b_wrd b hb] at this
  exact this
theorem order_nan (a b : Nat) (ha : a < 18446744073709551616) (hb : b < 18446744073709551616) (h : fK a = 4 ∨ fK b = 4) : Ieee.double.order a b = none := by
  unfold Ieee.Format.order
  rcases h with h | h
  · obtain ⟨s, f, e⟩ := read_nan a ha h
    rw [e]; rfl
  · obtain ⟨s, f, e⟩ := read_nan b hb h
    rw [e]; cases Ieee.double.read a <;> rfl

theorem fZ_le (b : Nat) (nb : fK b ≠ 4) : (fZ b).natAbs ≤ 2 ^ 2098 := by
  have h2 : fR b ≤ 9218868437227405312 := Nat.le_of_not_lt fun h => nb ((fK_rungs b).1.2 h)
  rw [fZ_abs, ← rv_inf]; exact rv_mono h2
theorem fZ_inf (b : Nat) (hk : fK b = 3) : (fZ b).natAbs = 2 ^ 2098 := by
  rw [fZ_abs, (fK_rungs b).2.1.1 hk, rv_inf]
theorem nan_kind : fK 9221120237041090560 = 4 := by decide +kernel

theorem rises5 (a b c : Nat) (na : fK a ≠ 4) (nb : fK b ≠ 4) (h : fZ a ≤ fZ b) (n1 : fK (aV a c) ≠ 4) (n2 : fK (aV b c) ≠ 4) : fZ (aV a c) ≤ fZ (aV b c) := by
  have nc : fK c ≠ 4 := fun e => by
    unfold aV at n1; rw [if_pos (Or.inr e)] at n1; exact n1 nan_kind
  by_cases c3 : fK c = 3
  · have hx : ∀ x, fK x ≠ 4 → fK (aV x c) ≠ 4 → aV x c = c := fun x nx n => by
      unfold aV at n ⊢
      rw [if_neg (by omega)] at n ⊢
      by_cases x3 : fK x = 3
      · rw [if_pos x3] at n ⊢
        by_cases e : x = c
        · rw [if_neg (fun h => h.2 e)]; exact e
        · rw [if_pos ⟨c3, e⟩] at n; exact absurd nan_kind n
      · rw [if_neg x3, if_pos c3]
    rw [hx a na n1, hx b nb n2]
    exact Int.le_refl _
  · have fc := fin_of c c3 nc
    have hi : ∀ x, fK x = 3 → aV x c = x := fun x x3 => by
      unfold aV; rw [if_neg (by omega), if_pos x3, if_neg (fun h => c3 h.1)]
    by_cases a3 : fK a = 3
    · have e1 := hi a a3
      by_cases b3 : fK b = 3
      · rw [e1, hi b b3]; exact h
      · have l1 := fZ_lt b (fin_of b b3 nb)
        have l2 := fZ_inf a a3
        have l3 := fZ_le _ n2
        rw [e1]
        generalize (2 : Nat) ^ 2098 = P at *
        omega
    · by_cases b3 : fK b = 3
      · have e1 := hi b b3
        have l1 := fZ_lt a (fin_of a a3 na)
        have l2 := fZ_inf b b3
        have l3 := fZ_le _ n1
        rw [e1]
        generalize (2 : Nat) ^ 2098 = P at *
        omega
      · rw [(aV_fin a c (fin_of a a3 na) fc).2, (aV_fin b c (fin_of b b3 nb) fc).2]
        exact pvZ_mono (by unfold aZ; omega)

/-- What may come of two comparisons. -/
def goodO (o p : Option Ordering) : Prop := ((o = some .lt ∨ o = some .eq) → p ≠ some .gt) ∧ ((o = some .gt ∨ o = some .eq) → p ≠ some .lt)

theorem rises5_order (a b c : Nat) (ha : a < 18446744073709551616) (hb : b < 18446744073709551616) (hc : c < 18446744073709551616) : goodO (Ieee.double.order a b) (Ieee.double.order (aV a c) (aV b c)) := by
  by_cases h1 : fK a = 4 ∨ fK b = 4
  · rw [order_nan a b ha hb h1]
    exact ⟨fun h => (by rcases h with h | h <;> cases h), fun h => (by rcases h with h | h <;> cases h)⟩
  · by_cases h2 : fK (aV a c) = 4 ∨ fK (aV b c) = 4
    · rw [order_nan _ _ (aV_lt a c ha hc) (aV_lt b c hb hc) h2]
      exact ⟨fun _ h => (by cases h), fun _ h => (by cases h)⟩
    · rw [order_bits a b ha hb (by omega) (by omega), order_bits _ _ (aV_lt a c ha hc) (aV_lt b c hb hc) (by omega) (by omega)]
      have r1 := fun h => rises5 a b c (by omega) (by omega) h (by omega) (by omega)
      have r2 := fun h => rises5 b a c (by omega) (by omega) h (by omega) (by omega)
      generalize fZ (aV a c) = u at *
      generalize fZ (aV b c) = v at *
      generalize fZ a = x at *
      generalize fZ b = y at *
      refine ⟨fun h e => ?_, fun h e => ?_⟩
      · simp only [Option.some.injEq] at h e
        have e1 := Int.compare_eq_gt.1 e
        have : x ≤ y := by
          rcases h with h | h
          · exact Int.le_of_lt (Int.compare_eq_lt.1 h)
          · exact Int.le_of_eq (Int.compare_eq_eq.1 h)
        have := r1 this
        omega
      · simp only [Option.some.injEq] at h e
        have e1 := Int.compare_eq_lt.1 e
        have : y ≤ x := by
          rcases h with h | h
          · exact Int.le_of_lt (Int.compare_eq_gt.1 h)
          · exact Int.le_of_eq (Int.compare_eq_eq.1 h).symm
        have := r2 this
        omega

/-- A number that is written whole is got back. -/
theorem rv_exact (v : Nat) (E : Int) (h : v ≠ 0) (ht : (bl v : Int) + E ≤ 1024) (he : lastE v E ≤ E) : rv (rnd v E) = v * 2 ^ (E + 1074).toNat := by
  have hM := rndM_bounds v E h
  obtain ⟨l1, l2, l3⟩ := lastE_ge v E
  rw [rnd_fin v E h ht, rv_of _ _ hM.1 (fun hk => hM.2.1 (by omega))]
  unfold rndM mS
  rw [if_pos (by omega), Nat.mul_assoc, ← Nat.pow_add]
  congr 2
  omega

theorem fin_pow (b : Nat) (h : b < 18446744073709551616) (hf : fFin b = true) : ∃ m j : Nat, m < 9007199254740992 ∧ (fZ b).natAbs = m * 2 ^ j := by
  obtain ⟨j, h1, h2⟩ := fM_wrd (fS b) (fR b) (fR_fin b hf)
  rw [b_wrd b h, sg_pv] at h2
  refine ⟨(fM b).natAbs, j, fM_lt b, ?_⟩
  show (pv (fS b) (fR b)).natAbs = _
  rw [← h2, Int.natAbs_mul, Int.natAbs_pow]
  rfl

theorem near_low (x y m n j k : Nat) (hx : x = m * 2 ^ j) (hy : y = n * 2 ^ k) (hm : m < 9007199254740992) (hjk : j ≤ k) (h2 : y ≤ 2 * x) : ∃ q i : Nat, q < 9007199254740992 ∧ ((x : Int) - (y : Int)).natAbs = q * 2 ^ i := by
  obtain ⟨d, rfl⟩ : ∃ d, k = j + d := ⟨k - j, by omega⟩
  have hp : 0 < 2 ^ j := Nat.two_pow_pos _
  have hy' : y = n * 2 ^ d * 2 ^ j := by rw [hy, Nat.mul_assoc, ← Nat.pow_add, Nat.add_comm d j]
  generalize n * 2 ^ d = n' at hy'
  refine ⟨((m : Int) - (n' : Int)).natAbs, j, ?_, ?_⟩
  · have h3 : n' ≤ 2 * m := by
      rw [hx, hy', ← Nat.mul_assoc] at h2
      exact Nat.le_of_mul_le_mul_right h2 hp
    omega
  · have : (x : Int) - (y : Int) = ((m : Int) - (n' : Int)) * 2 ^ j := by
      rw [hx, hy', Int.natCast_mul, Int.natCast_mul, Int.natCast_pow, Int.sub_mul]; rfl
    rw [this, Int.natAbs_mul, Int.natAbs_pow]; rfl

theorem near_sub (x y m n j k : Nat) (hx : x = m * 2 ^ j) (hy : y = n * 2 ^ k) (hm : m < 9007199254740992) (hn : n < 9007199254740992) (h1 : x ≤ 2 * y) (h2 : y ≤ 2 * x) : ∃ q i : Nat, q < 9007199254740992 ∧ ((x : Int) - (y : Int)).natAbs = q * 2 ^ i := by
  by_cases hjk : j ≤ k
  · exact near_low x y m n j k hx hy hm hjk h2
  · obtain ⟨q, i, e1, e2⟩ := near_low y x n m k j hy hx hn (by omega) h1
    exact ⟨q, i, e1, by rw [← e2]; omega⟩

theorem exact5 (a b : Nat) (ha : a < 18446744073709551616) (hb : b < 18446744073709551616) (fa : fFin a = true) (fb : fFin b = true) (hs : fS a = fS b) (h1 : (fZ a).natAbs ≤ 2 * (fZ b).natAbs) (h2 : (fZ b).natAbs ≤ 2 * (fZ a).natAbs) :
    aF a (fN b) = 0 ∧ fFin (aV a (fN b)) = true ∧ fZ (aV a (fN b)) = fZ a - fZ b := by
  have fn : fFin (fN b) = true := by rw [fFin_fN b hb]; exact fb
  obtain ⟨a3, a4⟩ := fin_kind fa
  obtain ⟨b3, b4⟩ := fin_kind fn
  obtain ⟨e1, e2⟩ := aV_fin a (fN b) fa fn
  have hz : aZ a (fN b) = fZ a - fZ b := by unfold aZ; rw [fZ_fN b hb]; omega
  rw [(fK_rungs _).2.2, e1, e2, hz]
  have hF : aF a (fN b) = if fZ a - fZ b = 0 then 0 else rflag (oM (fZ a - fZ b)).natAbs (oE (fZ a - fZ b) (-1074)) := by
    rw [(add_f a (fN b) a3 a4 b3 b4).2, hz]
  rw [hF]
  by_cases h0 : fZ a - fZ b = 0
  · rw [h0]
    have r0 : rnd (0 : Int).natAbs (-1074) = 0 := rnd_0 _
    refine ⟨if_pos rfl, by rw [r0]; decide, ?_⟩
    unfold pvZ pv
    rw [r0, rv_zero]; rfl
  · rw [if_neg h0]
    have la := fZ_lt a fa
    have lb := fZ_lt b fb
    obtain ⟨m, j, m1, m2⟩ := fin_pow a ha fa
    obtain ⟨n, k, n1, n2⟩ := fin_pow b hb fb
    obtain ⟨q, i, q1, q2⟩ := near_sub _ _ m n j k m2 n2 m1 n1 h1 h2
    have hpq : (fZ a - fZ b).natAbs = (((fZ a).natAbs : Int) - ((fZ b).natAbs : Int)).natAbs := by
      have ua : fZ a = if fS a = true then -(rv (fR a) : Int) else (rv (fR a) : Int) := rfl
      have ub : fZ b = if fS b = true then -(rv (fR b) : Int) else (rv (fR b) : Int) := rfl
      rw [hs] at ua
      cases hsb : fS b
      · rw [hsb, if_neg (by decide)] at ua ub; omega
      · rw [hsb, if_pos rfl] at ua ub; omega
    rw [← hpq] at q2
    have hlt : (fZ a - fZ b).natAbs < 2 ^ 2098 := by
      generalize (2 : Nat) ^ 2098 = P at *
      omega
    generalize fZ a - fZ b = z at *
    obtain ⟨o1, o2⟩ := oM_ne z h0
    obtain ⟨r1, r2⟩ := rnd_odd z (-1074)
    obtain ⟨r3, r4⟩ := r2 h0
    have hbz : bl z.natAbs ≤ 2098 := by
      have := bl_spec z.natAbs (by omega)
      have := pow_lt_of (Nat.lt_of_le_of_lt this.2.1 hlt)
      omega
    -- the odd part has at most 53 digits
    obtain ⟨s, hs1, hs2⟩ : ∃ s : Int, s.natAbs = q ∧ z = s * 2 ^ i := by
      by_cases hneg : z < 0
      · refine ⟨-(q : Int), by omega, ?_⟩
        have : ((q * 2 ^ i : Nat) : Int) = (q : Int) * 2 ^ i := by rw [Int.natCast_mul, Int.natCast_pow]; rfl
        rw [Int.neg_mul, ← this]; omega
      · refine ⟨(q : Int), by omega, ?_⟩
        have : ((q * 2 ^ i : Nat) : Int) = (q : Int) * 2 ^ i := by rw [Int.natCast_mul, Int.natCast_pow]; rfl
        rw [← this]; omega
    have hod : (oM z).natAbs < 9007199254740992 := by
      rw [hs2, (oM_scale s i 0).1]
      have := oM_le s
      omega
    have hb53 : bl (oM z).natAbs ≤ 53 := by
      have h5 := bl_spec (oM z).natAbs (by omega)
      have := pow_lt_of (b := 53) (Nat.lt_of_le_of_lt h5.2.1 (by rw [p53]; exact hod))
      omega
    have hE := oE_ne z (-1074) h0
    have hv : (oM z).natAbs ≠ 0 := by omega
    have ht : (bl (oM z).natAbs : Int) + oE z (-1074) ≤ 1024 := by omega
    have hl : lastE (oM z).natAbs (oE z (-1074)) ≤ oE z (-1074) := by
      unfold lastE; omega
    have hx := rv_exact _ _ hv ht hl
    refine ⟨?_, ?_, ?_⟩
    · unfold rflag
      rw [if_neg hv, if_neg (by omega), if_pos hl]
    · rw [← r1]
      exact rnd_exact_lt _ _ hv ht hl
    · unfold pvZ pv
      rw [← r1, hx]
      have habs := oM_abs z h0
      have : (oE z (-1074) + 1074).toNat = tz z.natAbs := by omega
      rw [this, ← habs]
      by_cases hneg : z < 0
      · rw [decide_eq_true hneg, if_pos rfl]; omega
      · rw [decide_eq_false hneg, if_neg (by decide)]; omega

end Go.Proofs.YtenckfflpdgmnaaDoor

/- Contracts of package sum: Add, Sub; awake. -/
namespace Go.Proofs.YtenckfflpdgmnaaDoor
open Go.RowKit

set_option maxRecDepth 20000 in
set_option maxHeartbeats 2000000 in
theorem sadd_n1 (a b : Nat) (kb : Int) (w : World) 
    (C1 : ∀ w', Calls Tryd.prog 25 #[.int .u64 a] w' fun r w'' => r = .returned (.int .i64 4) ∧ Below w'.heap.size w' w'')
    (C2 : ∀ w', Calls Tryd.prog 25 #[.int .u64 b] w' fun r w'' => r = .returned (.int .i64 kb) ∧ Below w'.heap.size w' w'') :
    Calls Tryd.prog 9 #[.int .u64 a, .int .u64 b] w fun r w' => r = .returned (.tuple #[.int .u64 9221120237041090560, .int .u8 0]) ∧ Below w.heap.size w w' := by
  have K1 := hide C1; have K2 := hide C2
  clear C1 C2
  go_enter Tryd.func9, Tryd.ntmps9
  go_wp2_with fail
  refine (unhide K1 _).mono ?_
  rintro e w1 ⟨rfl, hb1⟩
  go_wp2_with fail
  refine (unhide K2 _).mono ?_
  rintro e w2 ⟨rfl, hb2⟩
  have B := hide (hb1.trans (hb2.mono hb1.size))
  clear hb1 hb2 K1 K2
  go_wp2
  exact bodyPost_ret (v := .tuple #[.int .u64 9221120237041090560, .int .u8 0]) (by simp [results, Tryd.results9, go_sem]) rfl ⟨rfl, unhide B⟩

set_option maxRecDepth 20000 in
set_option maxHeartbeats 2000000 in
theorem sadd_n2 (a b : Nat) (ka : Int) (w : World) (h1 : (ka == 4) = false)
    (C1 : ∀ w', Calls Tryd.prog 25 #[.int .u64 a] w' fun r w'' => r = .returned (.int .i64 ka) ∧ Below w'.heap.size w' w'')
    (C2 : ∀ w', Calls Tryd.prog 25 #[.int .u64 b] w' fun r w'' => r = .returned (.int .i64 4) ∧ Below w'.heap.size w' w'') :
    Calls Tryd.prog 9 #[.int .u64 a, .int .u64 b] w fun r w' => r = .returned (.tuple #[.int .u64 9221120237041090560, .int .u8 0]) ∧ Below w.heap.size w w' := by
  have K1 := hide C1; have K2 := hide C2
  clear C1 C2
  go_enter Tryd.func9, Tryd.ntmps9
  go_wp2_with fail
  refine (unhide K1 _).mono ?_
  rintro e w1 ⟨rfl, hb1⟩
  go_wp2_with fail
  refine (unhide K2 _).mono ?_
  rintro e w2 ⟨rfl, hb2⟩
  have B := hide (hb1.trans (hb2.mono hb1.size))
  clear hb1 hb2 K1 K2
  go_wp2
  exact bodyPost_ret (v := .tuple #[.int .u64 9221120237041090560, .int .u8 0]) (by simp [results, Tryd.results9, go_sem]) rfl ⟨rfl, unhide B⟩

set_option maxRecDepth 20000 in
set_option maxHeartbeats 2000000 in
theorem sadd_ii (a b : Nat) (w : World) (h1 : ((a : Int) == (b : Int)) = false)
    (C1 : ∀ w', Calls Tryd.prog 25 #[.int .u64 a] w' fun r w'' => r = .returned (.int .i64 3) ∧ Below w'.heap.size w' w'')
    (C2 : ∀ w', Calls Tryd.prog 25 #[.int .u64 b] w' fun r w'' => r = .returned (.int .i64 3) ∧ Below w'.heap.size w' w'') :
    Calls Tryd.prog 9 #[.int .u64 a, .int .u64 b] w fun r w' => r = .returned (.tuple #[.int .u64 9221120237041090560, .int .u8 16]) ∧ Below w.heap.size w w' := by
  have K1 := hide C1; have K2 := hide C2
  clear C1 C2
  go_enter Tryd.func9, Tryd.ntmps9
  go_wp2_with fail
  refine (unhide K1 _).mono ?_
  rintro e w1 ⟨rfl, hb1⟩
  go_wp2_with fail
  refine (unhide K2 _).mono ?_
  rintro e w2 ⟨rfl, hb2⟩
  have B := hide (hb1.trans (hb2.mono hb1.size))
  clear hb1 hb2 K1 K2
  go_wp2
  exact bodyPost_ret (v := .tuple #[.int .u64 9221120237041090560, .int .u8 16]) (by simp [results, Tryd.results9, go_sem]) rfl ⟨rfl, unhide B⟩

set_option maxRecDepth 20000 in
set_option maxHeartbeats 2000000 in
theorem sadd_ie (a b : Nat) (w : World) (h1 : ((a : Int) == (b : Int)) = true)
    (C1 : ∀ w', Calls Tryd.prog 25 #[.int .u64 a] w' fun r w'' => r = .returned (.int .i64 3) ∧ Below w'.heap.size w' w'')
    (C2 : ∀ w', Calls Tryd.prog 25 #[.int .u64 b] w' fun r w'' => r = .returned (.int .i64 3) ∧ Below w'.heap.size w' w'') :
    Calls Tryd.prog 9 #[.int .u64 a, .int .u64 b] w fun r w' => r = .returned (.tuple #[.int .u64 a, .int .u8 0]) ∧ Below w.heap.size w w' := by
  have K1 := hide C1; have K2 := hide C2
  clear C1 C2
  go_enter Tryd.func9, Tryd.ntmps9
  go_wp2_with fail
  refine (unhide K1 _).mono ?_
  rintro e w1 ⟨rfl, hb1⟩
  go_wp2_with fail
  refine (unhide K2 _).mono ?_
  rintro e w2 ⟨rfl, hb2⟩
  have B := hide (hb1.trans (hb2.mono hb1.size))
  clear hb1 hb2 K1 K2
  go_wp2
  exact bodyPost_ret (v := .tuple #[.int .u64 a, .int .u8 0]) (by simp [results, Tryd.results9, go_sem]) rfl ⟨rfl, unhide B⟩

set_option maxRecDepth 20000 in
set_option maxHeartbeats 2000000 in
theorem sadd_i (a b : Nat) (kb : Int) (w : World) (h1 : (kb == 4) = false) (h2 : (kb == 3) = false)
    (C1 : ∀ w', Calls Tryd.prog 25 #[.int .u64 a] w' fun r w'' => r = .returned (.int .i64 3) ∧ Below w'.heap.size w' w'')
    (C2 : ∀ w', Calls Tryd.prog 25 #[.int .u64 b] w' fun r w'' => r = .returned (.int .i64 kb) ∧ Below w'.heap.size w' w'') :
    Calls Tryd.prog 9 #[.int .u64 a, .int .u64 b] w fun r w' => r = .returned (.tuple #[.int .u64 a, .int .u8 0]) ∧ Below w.heap.size w w' := by
  have K1 := hide C1; have K2 := hide C2
  clear C1 C2
  go_enter Tryd.func9, Tryd.ntmps9
  go_wp2_with fail
  refine (unhide K1 _).mono ?_
  rintro e w1 ⟨rfl, hb1⟩
  go_wp2_with fail
  refine (unhide K2 _).mono ?_
  rintro e w2 ⟨rfl, hb2⟩
  have B := hide (hb1.trans (hb2.mono hb1.size))
  clear hb1 hb2 K1 K2
  go_wp2
  exact bodyPost_ret (v := .tuple #[.int .u64 a, .int .u8 0]) (by simp [results, Tryd.results9, go_sem]) rfl ⟨rfl, unhide B⟩

set_option maxRecDepth 20000 in
set_option maxHeartbeats 2000000 in
theorem sadd_j (a b : Nat) (ka : Int) (w : World) (h1 : (ka == 4) = false) (h2 : (ka == 3) = false)
    (C1 : ∀ w', Calls Tryd.prog 25 #[.int .u64 a] w' fun r w'' => r = .returned (.int .i64 ka) ∧ Below w'.heap.size w' w'')
    (C2 : ∀ w', Calls Tryd.prog 25 #[.int .u64 b] w' fun r w'' => r = .returned (.int .i64 3) ∧ Below w'.heap.size w' w'') :
    Calls Tryd.prog 9 #[.int .u64 a, .int .u64 b] w fun r w' => r = .returned (.tuple #[.int .u64 b, .int .u8 0]) ∧ Below w.heap.size w w' := by
  have K1 := hide C1; have K2 := hide C2
  clear C1 C2
  go_enter Tryd.func9, Tryd.ntmps9
  go_wp2_with fail
  refine (unhide K1 _).mono ?_
  rintro e w1 ⟨rfl, hb1⟩
  go_wp2_with fail
  refine (unhide K2 _).mono ?_
  rintro e w2 ⟨rfl, hb2⟩
  have B := hide (hb1.trans (hb2.mono hb1.size))
  clear hb1 hb2 K1 K2
  go_wp2
  exact bodyPost_ret (v := .tuple #[.int .u64 b, .int .u8 0]) (by simp [results, Tryd.results9, go_sem]) rfl ⟨rfl, unhide B⟩

set_option maxRecDepth 20000 in
set_option maxHeartbeats 2000000 in
theorem sadd_f (a b : Nat) (ka kb fl : Int) (o : Nat) (w : World) (h1 : (ka == 4) = false) (h2 : (ka == 3) = false) (h3 : (kb == 4) = false) (h4 : (kb == 3) = false) (hT : Tab w)
    (C3 : ∀ w', Tab w' → Calls Tryd.prog 26 #[.int .u64 a, .int .u64 b] w' fun r w'' => r = .returned (.tuple #[.int .u64 (o : Nat), .int .u8 fl]) ∧ Below w'.heap.size w' w'')
    (C1 : ∀ w', Calls Tryd.prog 25 #[.int .u64 a] w' fun r w'' => r = .returned (.int .i64 ka) ∧ Below w'.heap.size w' w'')
    (C2 : ∀ w', Calls Tryd.prog 25 #[.int .u64 b] w' fun r w'' => r = .returned (.int .i64 kb) ∧ Below w'.heap.size w' w'') :
    Calls Tryd.prog 9 #[.int .u64 a, .int .u64 b] w fun r w' => r = .returned (.tuple #[.int .u64 (o : Nat), .int .u8 fl]) ∧ Below w.heap.size w w' := by
  have K1 := hide C1; have K2 := hide C2
  clear C1 C2
  go_enter Tryd.func9, Tryd.ntmps9
  go_wp2_with fail
  refine (unhide K1 _).mono ?_
  rintro e w1 ⟨rfl, hb1⟩
  go_wp2_with fail
  refine (unhide K2 _).mono ?_
  rintro e w2 ⟨rfl, hb2⟩
  have B := hide (hb1.trans (hb2.mono hb1.size))
  clear hb1 hb2 K1 K2
  have K3 := hide C3; have HT := hide (hT.all (unhide B))
  clear C3 hT
  go_wp2_with fail
  refine (unhide K3 _ (unhide HT)).mono ?_
  rintro e w3 ⟨rfl, hb3⟩
  have B := hide ((unhide B).trans (hb3.mono (unhide B).size))
  clear hb3 K3 HT
  go_wp2
  exact bodyPost_ret (v := .tuple #[.int .u64 (o : Nat), .int .u8 fl]) (by simp [results, Tryd.results9, go_sem]) rfl ⟨rfl, unhide B⟩

/-- The sum of any two. -/
theorem sadd_any (a b : Nat) (w : World) (ha : a < 18446744073709551616) (hb : b < 18446744073709551616) (hT : Tab w) :
    Calls Tryd.prog 9 #[.int .u64 a, .int .u64 b] w fun r w' => r = .returned (.tuple #[.int .u64 (aV a b : Nat), .int .u8 (aF a b)]) ∧ Below w.heap.size w w' := by
  have C1 := fun w' => kind_any a w' ha
  have C2 := fun w' => kind_any b w' hb
  by_cases a4 : fK a = 4
  · have e1 : aV a b = 9221120237041090560 := by unfold aV; rw [if_pos (Or.inl a4)]
    have e2 : aF a b = 0 := by unfold aF; rw [if_pos (Or.inl a4)]
    rw [e1, e2]
    rw [a4] at C1
    exact sadd_n1 a b _ w C1 C2
  by_cases b4 : fK b = 4
  · have e1 : aV a b = 9221120237041090560 := by unfold aV; rw [if_pos (Or.inr b4)]
    have e2 : aF a b = 0 := by unfold aF; rw [if_pos (Or.inr b4)]
    rw [e1, e2]
    rw [b4] at C2
    exact sadd_n2 a b _ w (by simp [a4]) C1 C2
  have n4 : ¬ (fK a = 4 ∨ fK b = 4) := by omega
  by_cases a3 : fK a = 3
  · by_cases b3 : fK b = 3
    · by_cases hab : a = b
      · have e1 : aV a b = a := by unfold aV; rw [if_neg n4, if_pos a3, if_neg (fun h => h.2 hab)]
        have e2 : aF a b = 0 := by unfold aF; rw [if_neg n4, if_pos a3, if_neg (fun h => h.2 hab)]
        rw [e1, e2]
        rw [a3] at C1
        rw [b3] at C2
        exact sadd_ie a b w (by simp [hab]) C1 C2
      · have e1 : aV a b = 9221120237041090560 := by unfold aV; rw [if_neg n4, if_pos a3, if_pos ⟨b3, hab⟩]
        have e2 : aF a b = 16 := by unfold aF; rw [if_neg n4, if_pos a3, if_pos ⟨b3, hab⟩]
        rw [e1, e2]
        rw [a3] at C1
        rw [b3] at C2
        exact sadd_ii a b w (by simp; omega) C1 C2
    · have e1 : aV a b = a := by unfold aV; rw [if_neg n4, if_pos a3, if_neg (fun h => b3 h.1)]
      have e2 : aF a b = 0 := by unfold aF; rw [if_neg n4, if_pos a3, if_neg (fun h => b3 h.1)]
      rw [e1, e2]
      rw [a3] at C1
      exact sadd_i a b _ w (by simp [b4]) (by simp [b3]) C1 C2
  · by_cases b3 : fK b = 3
    · have e1 : aV a b = b := by unfold aV; rw [if_neg n4, if_neg a3, if_pos b3]
      have e2 : aF a b = 0 := by unfold aF; rw [if_neg n4, if_neg a3, if_pos b3]
      rw [e1, e2]
      rw [b3] at C2
      exact sadd_j a b _ w (by simp [a4]) (by simp [a3]) C1 C2
    · exact sadd_f a b _ _ _ _ w (by simp [a4]) (by simp [a3]) (by simp [b4]) (by simp [b3]) hT (fun w' t => addFinite_any a b w' ha hb (fin_of a a3 a4) (fin_of b b3 b4) t) C1 C2

set_option maxRecDepth 20000 in
set_option maxHeartbeats 2000000 in
theorem ssub_any (a b : Nat) (w : World) (ha : a < 18446744073709551616) (hb : b < 18446744073709551616) (hT : Tab w) :
    Calls Tryd.prog 12 #[.int .u64 a, .int .u64 b] w fun r w' => r = .returned (.tuple #[.int .u64 (aV a (fN b) : Nat), .int .u8 (aF a (fN b))]) ∧ Below w.heap.size w w' := by
  have K1 := hide (fun w' => sminus_any b w' hb)
  have K2 := hide (sadd_any a (fN b) w ha (fN_lt b hb) hT)
  clear ha hb hT
  generalize aV a (fN b) = o at *
  generalize aF a (fN b) = fl at *
  go_enter Tryd.func12, Tryd.ntmps12
  go_wp2_with fail
  refine (unhide K1 _).mono ?_
  rintro e w1 ⟨rfl, rfl⟩
  go_wp2_with fail
  refine Calls.mono (unhide K2) ?_
  rintro e w2 ⟨rfl, hb2⟩
  have B := hide hb2
  clear hb2 K1 K2
  go_wp2
  exact bodyPost_ret (v := .tuple #[.int .u64 o, .int .u8 fl]) (by simp [results, Tryd.results12, go_sem]) rfl ⟨rfl, unhide B⟩

theorem awake5_facts : aV 4607182418800017408 4607182418800017408 = 4611686018427387904 ∧ aF 4607182418800017408 4607182418800017408 = 0 ∧ aV 9218868437227405312 (fN 9218868437227405312) = 9221120237041090560 ∧ aF 9218868437227405312 (fN 9218868437227405312) = 16 := by decide +kernel

set_option maxRecDepth 20000 in
set_option maxHeartbeats 2000000 in
theorem awake5_any (w : World) (hT : Tab w) : Calls Tryd.prog 11 #[] w fun e w' => e = .returned (.bool true) ∧ Below w.heap.size w w' := by
  have K1 := hide (sadd_any 4607182418800017408 4607182418800017408 w (by decide) (by decide) hT)
  rw [awake5_facts.1, awake5_facts.2.1] at K1
  have K2 := hide (fun w' t => ssub_any 9218868437227405312 9218868437227405312 w' (by decide) (by decide) t)
  rw [awake5_facts.2.2.1, awake5_facts.2.2.2] at K2
  go_enter Tryd.func11, Tryd.ntmps11
  go_wp2_with fail
  refine Calls.mono (unhide K1) ?_
  rintro e w1 ⟨rfl, hb1⟩
  have HT := hide (hT.all hb1)
  go_wp2_with fail
  refine (unhide K2 _ (unhide HT)).mono ?_
  rintro e w2 ⟨rfl, hb2⟩
  have B := hide (hb1.trans (hb2.mono hb1.size))
  clear hb1 hb2 K1 K2 HT
  go_wp2
  go_ret
  exact ⟨rfl, unhide B⟩

end Go.Proofs.YtenckfflpdgmnaaDoor

/- The law SumRises, walked. -/
namespace Go.Proofs.YtenckfflpdgmnaaDoor
open Go.RowKit

theorem frombits5 (R : Nat) (W : World) : (callFunc 32 #[.int .u64 R]).run Tryd.prog W = .ok (.value (.float .f64 R)) W := by
  rw [run_callFunc_extern (e := Extern.MathFloatBits.float64frombits) Tryd.func32 (by kernel_rfl) (by kernel_rfl) (by kernel_rfl) (by kernel_rfl)]
  show ((pure (.float .f64 ((R : Int).toNat)) : Sem Value).run Tryd.prog W).andThen (fun v w' => .ok (Next.value v) w') = _
  simp

set_option maxRecDepth 20000 in
set_option maxHeartbeats 2000000 in
theorem float5_any (b : Nat) (w : World) (_h : b < 18446744073709551616) :
    Calls Tryd.prog 14 #[.int .u64 b] w fun r w' => r = .returned (.float .f64 b) ∧ w = w' := by
  have hF := fun W => frombits5 b W
  have hw : IntKind.u64.wrap (b : Int) = (b : Int) := by simp only [IntKind.wrap_u64]; omega
  go_enter Tryd.func14, Tryd.ntmps14
  go_wp2
  go_ret
  exact ⟨rfl, rfl⟩

set_option maxRecDepth 20000 in
set_option maxHeartbeats 8000000 in
theorem sumRises_ways (a b c s t : Nat) (f g : Int) (o p : Option Ordering) (w : World)
    (hO : FloatKind.f64.format.order a b = o) (hP : FloatKind.f64.format.order s t = p) (good : goodO o p) (hT : Tab w)
    (C1 : Calls Tryd.prog 9 #[.int .u64 a, .int .u64 c] w fun r w' => r = .returned (.tuple #[.int .u64 s, .int .u8 f]) ∧ Below w.heap.size w w')
    (C2 : ∀ w', Tab w' → Calls Tryd.prog 9 #[.int .u64 b, .int .u64 c] w' fun r w'' => r = .returned (.tuple #[.int .u64 t, .int .u8 g]) ∧ Below w'.heap.size w' w'')
    (F1 : ∀ w', Calls Tryd.prog 14 #[.int .u64 a] w' fun r w'' => r = .returned (.float .f64 a) ∧ w' = w'')
    (F2 : ∀ w', Calls Tryd.prog 14 #[.int .u64 b] w' fun r w'' => r = .returned (.float .f64 b) ∧ w' = w'')
    (F3 : ∀ w', Calls Tryd.prog 14 #[.int .u64 s] w' fun r w'' => r = .returned (.float .f64 s) ∧ w' = w'')
    (F4 : ∀ w', Calls Tryd.prog 14 #[.int .u64 t] w' fun r w'' => r = .returned (.float .f64 t) ∧ w' = w'') :
    Calls Tryd.prog 8 #[.int .u64 a, .int .u64 b, .int .u64 c] w fun r w' => r = .returned (.bool true) ∧ Below w.heap.size w w' := by
  have K1 := hide C1; have K2 := hide C2; have L1 := hide F1; have L2 := hide F2; have L3 := hide F3; have L4 := hide F4
  have K3 := hide (fun w' t => awake5_any w' t)
  clear C1 C2 F1 F2 F3 F4
  go_enter Tryd.func8, Tryd.ntmps8
  go_wp2_with fail
  refine Calls.mono (unhide K1) ?_
  rintro e w1 ⟨rfl, hb1⟩
  have HT := hide (hT.all hb1)
  go_wp2_with fail
  refine (unhide K2 _ (unhide HT)).mono ?_
  rintro e w2 ⟨rfl, hb2⟩
  have B := hide (hb1.trans (hb2.mono hb1.size))
  have HT2 := hide ((unhide HT).all hb2)
  clear hb1 hb2 K1 K2 HT
  go_wp2_with fail
  refine (unhide L1 _).mono ?_
  rintro e w2 ⟨rfl, rfl⟩
  go_wp2_with fail
  refine (unhide L2 _).mono ?_
  rintro e w2 ⟨rfl, rfl⟩
  go_wp2_with fail
  refine (unhide L3 _).mono ?_
  rintro e w2 ⟨rfl, rfl⟩
  go_wp2_with fail
  refine (unhide L4 _).mono ?_
  rintro e w3 ⟨rfl, rfl⟩
  clear L1 L2 L3 L4
  rcases o with _ | _ | _ | _ <;> rcases p with _ | _ | _ | _ <;> first
    | exact absurd rfl (good.1 (Or.inl rfl))
    | exact absurd rfl (good.1 (Or.inr rfl))
    | exact absurd rfl (good.2 (Or.inl rfl))
    | exact absurd rfl (good.2 (Or.inr rfl))
    | (go_wp2_with fail
       refine (unhide K3 _ (unhide HT2)).mono ?_
       rintro e w4 ⟨rfl, hb3⟩
       have B3 := hide ((unhide B).trans (hb3.mono (unhide B).size))
       clear hb3 K3 HT2 B
       go_wp2
       go_ret
       exact ⟨rfl, unhide B3⟩)

theorem sumRises_walk (a b c : Nat) (w : World) (ha : a < 18446744073709551616) (hb : b < 18446744073709551616) (hc : c < 18446744073709551616) (hT : Tab w) :
    Calls Tryd.prog 8 #[.int .u64 a, .int .u64 b, .int .u64 c] w fun r w' => r = .returned (.bool true) ∧ Below w.heap.size w w' :=
  sumRises_ways a b c (aV a c) (aV b c) _ _ _ _ w rfl rfl (rises5_order a b c ha hb hc) hT (sadd_any a c w ha hc hT) (fun w' t => sadd_any b c w' hb hc t)
    (fun w' => float5_any a w' ha) (fun w' => float5_any b w' hb) (fun w' => float5_any _ w' (aV_lt a c ha hc)) (fun w' => float5_any _ w' (aV_lt b c hb hc))

end Go.Proofs.YtenckfflpdgmnaaDoor

/- A struct of a sign and limbs that came in, opened. -/
namespace Go.Proofs.YtenckfflpdgmnaaDoor
open Go.ChangeShapes Go.WideShapes Go.ChangeAt Go.RowKit Go.Joins

theorem Tryd.own : ownKnob Tryd.prog.godebug = none := by kernel_rfl
theorem Tryd.laidOut : laidOutB Tryd.prog = true := by kernel_rfl
theorem Tryd.cellsW : Tryd.prog.cellsOf 36 = 2 := by kernel_rfl
theorem Tryd.cellsU : Tryd.prog.cellsOf 74 = 1 := by kernel_rfl
theorem Tryd.bytesU : Tryd.prog.bytesOf 74 = 4 := by kernel_rfl

theorem bounds_of_u32 {x : Int} (h : (Lit.int .u32 x).wf = true) : 0 ≤ x ∧ x < 4294967296 := by
  simp [Lit.wf, IntKind.min, IntKind.max, IntKind.signed, IntKind.bits] at h
  omega

theorem limbs_of_ints {W : World} {a : Addr} {len cap : Nat} {zs : List Int} (hl : len ≤ cap) (hz : zs.length = cap) (hc : ∀ i, i < zs.length → W.cell? (a.add i) = some (.int .u32 (zs.getD i 0))) (hw : ∀ n ∈ zs, (Lit.int .u32 n).wf = true) :
    LimbsAt W (some a) cap ((zs.take len).map Int.toNat) ∧ ((zs.take len).map Int.toNat).length = len := by
  have hlen : ((zs.take len).map Int.toNat).length = len := by simp; omega
  refine ⟨⟨by omega, ?_, ?_⟩, hlen⟩
  · intro x hx
    obtain ⟨y, hy, rfl⟩ := List.mem_map.1 hx
    have := bounds_of_u32 (hw y (List.mem_of_mem_take hy))
    omega
  · rcases Nat.eq_zero_or_pos len with rfl | hp
    · left; simp
    · right
      obtain ⟨b, off, spot⟩ := a
      have h0 := hc 0 (by omega)
      have hspot : spot = none := by simpa [Addr.add] using World.cell?_spot h0
      subst hspot
      have hb : b < W.heap.size := by
        have := World.block_lt_of_cell? W _ h0
        simpa [Addr.add] using this
      refine ⟨b, off, rfl, hb, fun i hi => ?_⟩
      have h1 := hc i (by omega)
      have h2 : (0 : Int) ≤ zs[i]'(by omega) := (bounds_of_u32 (hw _ (List.getElem_mem _))).1
      have h3 : (⟨b, off, none⟩ : Addr).add i = ⟨b, off + i, none⟩ := by simp [Addr.add]
      rw [h3] at h1
      rw [h1]
      have e : ((zs.take len).map Int.toNat)[i]?.getD 0 = (zs[i]'(by omega)).toNat := by
        rw [List.getElem?_map, List.getElem?_take, if_pos (by omega), List.getElem?_eq_getElem (by omega)]; rfl
      rw [e, List.getD_eq_getElem?_getD, List.getElem?_eq_getElem (by omega)]
      simp only [Option.getD_some, Option.some.injEq, Value.int.injEq, true_and]
      omega

set_option maxRecDepth 20000 in
/-- A number that came in: its sign, its limbs, where they lie; by the row's own reach they are not too many. -/
theorem open_whole {H : Type} {enc : TypeId × Value → H} {W : World} {base : Nat} {v : Value} {d : DataW H} {p : List MemPlace} (hval : Value.okWide Tryd.prog W .any base 36 v) (h : DataW.Trod enc Tryd.prog W 0 (fun _ => true) true 36 v d p)
    (hs : ∀ n ∈ d.weights Tryd.prog 36, n ≤ reachBytes) :
    ∃ neg ao cap L, v = .agg #[.bool neg, .slice ao L.length cap] ∧ LimbsAt W ao cap L ∧ L.length ≤ 35184372087808 := by
  obtain ⟨c0, c1, y0, y1, m, rfl, rfl, rfl, hy0, hy1⟩ := open_agg2 Tryd.underlying36 (by kernel_rfl) Tryd.cellsW hval h
  obtain ⟨neg, e0, rfl⟩ := DataW.trod_bool Tryd.underlying4 hy0
  simp at e0
  subst e0
  rcases open_ints Tryd.underlying34 Tryd.underlying74 Tryd.cellsU hy1 with ⟨hcs, _⟩ | ⟨a, len, cap, zs, hcs, _, hl, hm, hz, rfl, hcell, hwz⟩
  · simp at hcs
    subst hcs
    exact ⟨neg, none, 0, [], rfl, LimbsAt.nil _ _ _, by simp⟩
  · simp at hcs
    subst hcs
    obtain ⟨h1, h2⟩ := limbs_of_ints hl (by simpa using hz) hcell hwz
    refine ⟨neg, some a, cap, _, by rw [h2], h1, ?_⟩
    have hk := hs ((zs.length) * 4) (by
      simp only [DataW.weights, Tryd.underlying36, DataW.weightsEach, List.map, Tryd.underlying34, List.nil_append, List.append_nil, List.mem_cons, Tryd.bytesU, lits, List.length_map, List.length_take, List.length_drop]
      left
      omega)
    simp only [reachBytes] at hk
    rw [h2]
    have : zs.length = cap := by simpa using hz
    omega

end Go.Proofs.YtenckfflpdgmnaaDoor

/- The bounds of an int or int64 that came in. -/
namespace Go.Proofs.YtenckfflpdgmnaaDoor

theorem bounds_of_i64 {x : Int} (h : (Lit.int .i64 x).wf = true) : -9223372036854775808 ≤ x ∧ x ≤ 9223372036854775807 := by
  simp [Lit.wf, IntKind.min, IntKind.max, IntKind.signed, IntKind.bits] at h
  omega

end Go.Proofs.YtenckfflpdgmnaaDoor

