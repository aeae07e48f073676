/- Part 30 of the texts. -/
import Derived.Test.YtimejpbmehegeaaGreatDoorParte29
import Derived.Test.YtimejpbmehegeaaGreatDoorParte28
import Derived.Test.YtimejpbmehegeaaGreatDoorParte25
import Derived.Laws.Cover2
import Derived.Laws.Externs
import Derived.Test.YtimejpbmehegeaaGreatDoorParte04
import Derived.Laws.FloatArith
import Derived.Test.YtimejpbmehegeaaGreatDoorParte27
import Derived.Test.YtimejpbmehegeaaGreatDoorParte20
import Derived.Test.YtimejpbmehegeaaGreatDoorParte26
import Derived.Test.YtimejpbmehegeaaGreatDoorParte14
/- The reference's Tame. -/
namespace Go.Proofs.YtimejpbmehegeaaGreatDoor
open Go.RowKit
attribute [local go_sem ↓] Go.wp_at_zero Go.wp_at_succ

/-- Is a number 0, or neither very great nor very small? -/
def tmB (K : Int) (x : Nat) : Bool := fFin x && (decide (fK x = 0) || decide (-K ≤ eX x ∧ eX x < K))
def tmK (K : Int) (I : List Int) : Nat → Bool
  | 0 => true
  | k + 1 => tmK K I k && tmB K (atB I k)
theorem tmK_down (K : Int) (I : List Int) : ∀ (m k : Nat), k ≤ m → tmK K I m = true → tmK K I k = true := by
  intro m
  induction m with
  | zero => intro k hk _; rw [show k = 0 by omega]; rfl
  | succ m ih =>
    intro k hk h
    have h' : (tmK K I m && tmB K (atB I m)) = true := h
    rw [Bool.and_eq_true] at h'
    by_cases e : k = m + 1
    · subst e; exact h
    · exact ih k (by omega) h'.1
theorem tmK_at (K : Int) (I : List Int) (n k : Nat) (hk : k < n) (h : tmK K I n = true) : tmB K (atB I k) = true := by
  have h2 : (tmK K I k && tmB K (atB I k)) = true := tmK_down K I n (k + 1) (by omega) h
  rw [Bool.and_eq_true] at h2
  exact h2.2
theorem tmK_no (K : Int) (I : List Int) (n k : Nat) (hk : k < n) (h : tmB K (atB I k) = false) : tmK K I n = false := by
  cases e : tmK K I n
  · rfl
  · rw [tmK_at K I n k hk e] at h
    cases h
theorem tmB_ways (K : Int) (x : Nat) : (fFin x = false ∧ tmB K x = false) ∨ (fFin x = true ∧ fK x = 0 ∧ tmB K x = true) ∨ (fFin x = true ∧ fK x ≠ 0 ∧ eX x < -K ∧ tmB K x = false) ∨ (fFin x = true ∧ fK x ≠ 0 ∧ -K ≤ eX x ∧ K ≤ eX x ∧ tmB K x = false) ∨ (fFin x = true ∧ fK x ≠ 0 ∧ -K ≤ eX x ∧ eX x < K ∧ tmB K x = true) := by
  unfold tmB
  cases hf : fFin x
  · exact .inl ⟨rfl, rfl⟩
  · right
    by_cases h0 : fK x = 0
    · left; exact ⟨rfl, h0, by rw [decide_eq_true h0]; rfl⟩
    · right
      rw [decide_eq_false h0]
      by_cases h1 : eX x < -K
      · left; exact ⟨rfl, h0, h1, by rw [decide_eq_false (by omega)]; rfl⟩
      · right
        by_cases h2 : K ≤ eX x
        · left; exact ⟨rfl, h0, by omega, h2, by rw [decide_eq_false (by omega)]; rfl⟩
        · right; exact ⟨rfl, h0, by omega, by omega, by rw [decide_eq_true (by omega)]; rfl⟩

set_option maxRecDepth 20000 in
set_option maxHeartbeats 8000000 in
theorem r9tame_any (ao : Option Addr) (c : Nat) (I : List Int) (K : Int) (w : World) (hI : BitsAt w ao c I) (hn : I.length ≤ 35184372088830) (hK : -5000 ≤ K ∧ K ≤ 5000) :
    Calls Tryz.prog 19 #[.slice ao I.length c, .int .i64 K] w fun e w' => e = .returned (.bool (tmK K I I.length)) ∧ Below w.heap.size w w' := by
  have HI := hide hI
  obtain ⟨n, hnn⟩ : ∃ n, I.length = n := ⟨_, rfl⟩
  rw [hnn] at hn ⊢
  have HN := hide hnn
  have hw : IntKind.i64.wrap (-K) = -K := by simp only [IntKind.wrap_i64]; omega
  clear hI hnn hK
  obtain ⟨v, hv⟩ : ∃ v, tmK K I n = v := ⟨_, rfl⟩
  rw [hv]
  have HV := hide hv
  clear hv
  go_enter Tryz.func19, Tryz.ntmps19
  go_wp2_with fail
  go_loopw [5] (fun i wr => ∃ k : Nat, k ≤ n ∧ i = .int .i64 k ∧ Hid (tmK K I k = true) ∧ Hid (Below w.heap.size w wr)) (fun i _ => n - (intOf i).toNat)
  case atStart => exact ⟨0, Nat.zero_le _, rfl, rfl, Below.refl _ _⟩
  case round =>
    obtain ⟨k, hk, rfl, hq, hB⟩ := hrel
    by_cases hlt : k < n
    · have hkI : (k : Int) < (n : Int) := by omega
      obtain ⟨b, off, hao, hb, hc⟩ := ((unhide HI).below hB.out).ne (by rw [unhide HN]; omega)
      have hck := hide (hc k (by rw [unhide HN]; exact hlt))
      have x64 := (unhide HI).lt k
      have C1 := hide (fun w' => rfinite_any (atB I k) w' x64)
      have C2 := hide (fun w' => rkind_any (atB I k) w' x64)
      have C3 := hide (fun w' => r8exp_any (atB I k) w' x64)
      have eV : Hid (tmK K I (k + 1) = (tmK K I k && tmB K (atB I k))) := rfl
      have eF := hide (fun h => tmK_no K I n k hlt h)
      have WY := hide (tmB_ways K (atB I k))
      subst hao
      clear hc x64
      generalize tmB K (atB I k) = tb at *
      generalize eX (atB I k) = ex at *
      generalize fK (atB I k) = kd at *
      generalize fFin (atB I k) = ff at *
      generalize atB I k = x at *
      rcases unhide WY with ⟨rfl, rfl⟩ | ⟨rfl, rfl, rfl⟩ | ⟨rfl, g0, g1, rfl⟩ | ⟨rfl, g0, g1, g2, rfl⟩ | ⟨rfl, g0, g1, g2, rfl⟩
      · have hv2 := (unhide HV).symm.trans (unhide eF rfl)
        subst hv2
        clear WY eF
        have hc0 := unhide hck
        go_wp2_with fail
        refine (unhide C1 _).mono ?_
        rintro e w2 ⟨rfl, rfl⟩
        clear C1 C2 C3
        go_wp2_with fail
        exact bodyPost_ret (v := .bool false) (by simp [results, Tryz.results19, go_sem]) rfl ⟨rfl, hB.out⟩
      · clear WY eF
        have hc0 := unhide hck
        go_wp2_with fail
        refine (unhide C1 _).mono ?_
        rintro e w2 ⟨rfl, rfl⟩
        go_wp2_with fail
        refine (unhide C2 _).mono ?_
        rintro e w2 ⟨rfl, rfl⟩
        clear C1 C2 C3
        go_wp2_with fail
        go_round
        case rel => exact ⟨k + 1, by omega, by go_num, by unfold Hid; rw [eV.out, hq.out]; rfl, hB⟩
        case measure => simp [intOf]; omega
      · have hv2 := (unhide HV).symm.trans (unhide eF rfl)
        subst hv2
        clear WY eF
        have hc0 := unhide hck
        have g0' : (kd == 0) = false := by rw [beq_eq_false_iff_ne]; exact g0
        go_wp2_with fail
        refine (unhide C1 _).mono ?_
        rintro e w2 ⟨rfl, rfl⟩
        go_wp2_with fail
        refine (unhide C2 _).mono ?_
        rintro e w2 ⟨rfl, rfl⟩
        go_wp2_with fail
        refine (unhide C3 _).mono ?_
        rintro e w2 ⟨rfl, hb2⟩
        have B2 : Hid (Below w.heap.size w w2) := hB.out.trans (hb2.mono hB.out.size)
        clear C1 C2 C3 hb2
        go_wp2_with fail
        exact bodyPost_ret (v := .bool false) (by simp [results, Tryz.results19, go_sem]) rfl ⟨rfl, B2.out⟩
      · have hv2 := (unhide HV).symm.trans (unhide eF rfl)
        subst hv2
        clear WY eF
        have hc0 := unhide hck
        have HC := hck
        have g0' : (kd == 0) = false := by rw [beq_eq_false_iff_ne]; exact g0
        go_wp2_with fail
        refine (unhide C1 _).mono ?_
        rintro e w2 ⟨rfl, rfl⟩
        go_wp2_with fail
        refine (unhide C2 _).mono ?_
        rintro e w2 ⟨rfl, rfl⟩
        go_wp2_with fail
        refine (unhide C3 _).mono ?_
        rintro e w2 ⟨rfl, hb2⟩
        have hc2 := cell_keep (unhide HC) hb2
        have B2 : Hid (Below w.heap.size w w2) := hB.out.trans (hb2.mono hB.out.size)
        clear C1 C2 hb2 hc0
        go_wp2_with fail
        refine (unhide C3 _).mono ?_
        rintro e w3 ⟨rfl, hb3⟩
        have B3 : Hid (Below w.heap.size w w3) := B2.out.trans (hb3.mono B2.out.size)
        clear C3 hb3
        go_wp2_with fail
        exact bodyPost_ret (v := .bool false) (by simp [results, Tryz.results19, go_sem]) rfl ⟨rfl, B3.out⟩
      · clear WY eF
        have hc0 := unhide hck
        have HC := hck
        have g0' : (kd == 0) = false := by rw [beq_eq_false_iff_ne]; exact g0
        go_wp2_with fail
        refine (unhide C1 _).mono ?_
        rintro e w2 ⟨rfl, rfl⟩
        go_wp2_with fail
        refine (unhide C2 _).mono ?_
        rintro e w2 ⟨rfl, rfl⟩
        go_wp2_with fail
        refine (unhide C3 _).mono ?_
        rintro e w2 ⟨rfl, hb2⟩
        have hc2 := cell_keep (unhide HC) hb2
        have B2 : Hid (Below w.heap.size w w2) := hB.out.trans (hb2.mono hB.out.size)
        clear C1 C2 hb2 hc0
        go_wp2_with fail
        refine (unhide C3 _).mono ?_
        rintro e w3 ⟨rfl, hb3⟩
        have B3 : Hid (Below w.heap.size w w3) := B2.out.trans (hb3.mono B2.out.size)
        clear C3 hb3
        go_wp2_with fail
        go_round
        case rel => exact ⟨k + 1, by omega, by go_num, by unfold Hid; rw [eV.out, hq.out]; rfl, B3⟩
        case measure => simp [intOf]; omega
    · have hkk : k = n := by omega
      subst hkk
      have e2 := (unhide HV).symm.trans hq.out
      subst e2
      go_wp2_with fail
      exact bodyPost_ret (v := .bool true) (by simp [results, Tryz.results19, go_sem]) rfl ⟨rfl, hB.out⟩

end Go.Proofs.YtimejpbmehegeaaGreatDoor

/- Halfway between two numbers; products of such. -/
namespace Go.Proofs.YtimejpbmehegeaaGreatDoor
open Go.RowKit
/-- A product, at its numbers' own powers. -/
theorem mul_level7 (z1 z2 lo1 lo2 : Int) (h1 : z1 ≠ 0) (h2 : z2 ≠ 0) (l1 : lo1 ≤ oE z1 lo1) (l2 : lo2 ≤ oE z2 lo2) :
    oM (z1 * z2) = oM (oM z1 * oM z2) ∧ oE (z1 * z2) (lo1 + lo2) = oE (oM z1 * oM z2) (oE z1 lo1 + oE z2 lo2) := by
  have x1 := oM_level z1 lo1 h1
  have x2 := oM_level z2 lo2 h2
  obtain ⟨i, hi⟩ : ∃ i : Nat, oE z1 lo1 = lo1 + i := ⟨(oE z1 lo1 - lo1).toNat, by omega⟩
  obtain ⟨j, hj⟩ : ∃ j : Nat, oE z2 lo2 = lo2 + j := ⟨(oE z2 lo2 - lo2).toNat, by omega⟩
  rw [hi, show (lo1 + (i : Int) - lo1).toNat = i by omega] at x1
  rw [hj, show (lo2 + (j : Int) - lo2).toNat = j by omega] at x2
  have e : z1 * z2 = oM z1 * oM z2 * 2 ^ (i + j) := by
    rw [Int.pow_add, show oM z1 * oM z2 * (2 ^ i * 2 ^ j) = oM z1 * 2 ^ i * (oM z2 * 2 ^ j) by ac_rfl, x1, x2]
  have s := oM_scale (oM z1 * oM z2) (i + j) (lo1 + lo2)
  rw [← e] at s
  refine ⟨s.1, ?_⟩
  rw [s.2, hi, hj]
  congr 1
  omega
theorem oE_ge (z lo : Int) (h : z ≠ 0) : lo ≤ oE z lo := by
  rw [oE_ne _ _ h]; omega

/-- The reference's product of two that are not long. -/
theorem rmul7 {w : World} {v u : Value} {m1 m2 e1 e2 : Int} (hv : IsDy w v m1 e1) (hu : IsDy w u m2 e2) (h1 : m1.natAbs < 1152921504606846976) (h2 : m2.natAbs < 1152921504606846976) (b1 : -3000 ≤ e1 ∧ e1 ≤ 3000) (b2 : -3000 ≤ e2 ∧ e2 ≤ 3000) :
    Calls Tryz.prog 65 #[v, u] w fun r w' => ∃ q, r = .returned q ∧ IsDy w' q (oM (m1 * m2)) (oE (m1 * m2) (e1 + e2)) ∧ Below w.heap.size w w' := by
  have p30 : (1152921504606846976 : Nat) ≤ 4294967296 ^ 30 := by decide +kernel
  obtain ⟨n, a, c, L, rfl, g1, g2, g3, g4, g5⟩ := hv.right (small_TOP _ (by omega))
  obtain ⟨n', a', c', L', rfl, k1, k2, k3, k4, k5⟩ := hu.right (small_TOP _ (by omega))
  have v1 : val L = m1.natAbs := by rw [← g3, natAbs_sval]
  have v2 : val L' = m2.natAbs := by rw [← k3, natAbs_sval]
  have l1 : L.length ≤ 30 := (length_le_iff L g1.2.1 (right_canon g2).2.1 30).2 (by rw [v1]; exact Nat.lt_of_lt_of_le h1 p30)
  have l2 : L'.length ≤ 30 := (length_le_iff L' k1.2.1 (right_canon k2).2.1 30).2 (by rw [v2]; exact Nat.lt_of_lt_of_le h2 p30)
  have := rmul_any n n' a a' c c' L L' e1 e2 w g1 k1 l1 l2
  rw [g3, k3] at this
  have hm : (m1 * m2).natAbs < 2 ^ 120 := by
    rw [Int.natAbs_mul]
    have : m1.natAbs * m2.natAbs < 1152921504606846976 * 1152921504606846976 := Nat.mul_lt_mul_of_lt_of_le h1 (Nat.le_of_lt h2) (by decide)
    exact Nat.lt_of_lt_of_le this (by decide)
  have hE : (if m1 * m2 = 0 then 0 else IntKind.i64.wrap (IntKind.i64.wrap (e1 + e2) + tz (m1 * m2).natAbs)) = oE (m1 * m2) (e1 + e2) := by
    by_cases h0 : m1 * m2 = 0
    · rw [if_pos h0, h0, oE_zero]
    · have ht : tz (m1 * m2).natAbs < 120 := tz_lt _ 120 (by omega) hm
      rw [if_neg h0, oE_ne _ _ h0, wrap_small (e1 + e2) (by omega), wrap_small _ (by omega)]
  rwa [hE] at this

end Go.Proofs.YtimejpbmehegeaaGreatDoor

/- Exact numbers at a level: the reference's values, products, powers of two. -/
namespace Go.Proofs.YtimejpbmehegeaaGreatDoor
open Go.RowKit

/-- The number z times 2^lo. -/
def IsLv (w : World) (v : Value) (lo z : Int) : Prop := IsDy w v (oM z) (oE z lo)
theorem IsLv.below {w w' : World} {v : Value} {lo z : Int} (h : IsLv w v lo z) (hb : Below w.heap.size w w') : IsLv w' v lo z := IsDy.below h hb
theorem IsLv.zero (w : World) (lo : Int) : IsLv w (.agg #[.bool false, .slice none 0 0, .int .i64 0]) lo 0 := by
  unfold IsLv
  rw [oM_zero, oE_zero]
  exact IsDy.zero w none 0
/-- The same number at a lower level. -/
theorem IsLv.lower {w : World} {v : Value} {lo z : Int} (h : IsLv w v lo z) (k : Nat) : IsLv w v (lo - k) (z * 2 ^ k) := by
  unfold IsLv
  have s := oM_scale z k (lo - k)
  rw [show lo - (k : Int) + k = lo by omega] at s
  rw [s.1, s.2]
  exact h
theorem oM_neg_iff (z : Int) : oM z < 0 ↔ z < 0 := by
  by_cases h : z = 0
  · subst h; rw [oM_zero]
  · have x := oM_level z 0 h
    have hp : (0 : Int) < 2 ^ (oE z 0 - 0).toNat := Int.pow_pos (by decide)
    constructor
    · intro g
      rw [← x]
      exact Int.mul_neg_of_neg_of_pos g hp
    · intro g
      rcases Int.lt_or_le (oM z) 0 with k | k
      · exact k
      · have := Int.mul_nonneg k (Int.le_of_lt hp)
        omega
theorem dy_sign {w : World} {n : Bool} {a : Option Addr} {l c : Nat} {X M Y : Int} (h : IsDy w (.agg #[.bool n, .slice a l c, .int .i64 X]) M Y) : n = decide (M < 0) := by
  obtain ⟨n', a', c', L', e1, _, _, e4, _⟩ := h.parts
  simp only [Value.agg.injEq, Array.mk.injEq, List.cons.injEq, Value.bool.injEq] at e1
  rw [e1.1]; exact e4

theorem rvalueN (b : Nat) (w : World) (h : b < 18446744073709551616) (hf : fFin b = true) :
    Calls Tryz.prog 23 #[.int .u64 b] w fun r w' => ∃ u, r = .returned u ∧ IsLv w' u (-1074) (fZ b) ∧ Below w.heap.size w w' := by
  obtain ⟨d1, d2⟩ := fZ_level b h hf
  unfold IsLv
  rw [d1, d2]
  exact rvalue_any b w h

theorem fZ_ne {b : Nat} (h : fZ b ≠ 0) : fK b ≠ 0 := fun e => h (by
  have := fZ_abs b
  rw [(fK_zero b).1 e, rv_zero] at this
  omega)
theorem fD_few (b : Nat) (h : b < 18446744073709551616) (hf : fFin b = true) : (oM (fZ b)).natAbs < 9007199254740992 ∧ -1074 ≤ oE (fZ b) (-1074) ∧ oE (fZ b) (-1074) ≤ 1024 := by
  by_cases h0 : fZ b = 0
  · rw [h0, oM_zero, oE_zero]; decide
  · obtain ⟨d1, d2⟩ := fZ_level b h hf
    obtain ⟨z1, z2, z3, z4, z5, z6, z7, z8, z9⟩ := sc_facts b h hf (fZ_ne h0)
    rw [d1, d2]
    exact ⟨z2, z5, z6⟩

/-- The product of two numbers' values. -/
theorem rmulV {a b : Nat} {w : World} {v u : Value} (ha : a < 18446744073709551616) (hb : b < 18446744073709551616) (fa : fFin a = true) (fb : fFin b = true) (hv : IsLv w v (-1074) (fZ a)) (hu : IsLv w u (-1074) (fZ b)) :
    Calls Tryz.prog 65 #[v, u] w fun r w' => ∃ q, r = .returned q ∧ IsLv w' q (-2148) (fZ a * fZ b) ∧ Below w.heap.size w w' := by
  obtain ⟨x1, x2, x3⟩ := fD_few a ha fa
  obtain ⟨y1, y2, y3⟩ := fD_few b hb fb
  have := rmul7 hv hu (by omega) (by omega) (by omega) (by omega)
  unfold IsLv
  by_cases h0 : fZ a = 0
  · rw [h0] at this ⊢
    rw [oM_zero, Int.zero_mul, oM_zero, oE_zero] at this
    rw [Int.zero_mul, oM_zero, oE_zero]
    exact this
  by_cases h1 : fZ b = 0
  · rw [h1] at this ⊢
    rw [oM_zero, Int.mul_zero, oM_zero, oE_zero] at this
    rw [Int.mul_zero, oM_zero, oE_zero]
    exact this
  obtain ⟨m1, m2⟩ := mul_level7 (fZ a) (fZ b) (-1074) (-1074) h0 h1 (oE_ge _ _ h0) (oE_ge _ _ h1)
  rw [show (-1074 : Int) + -1074 = -2148 by decide] at m2
  rw [m1, m2]
  exact this

/-- A power of two. -/
theorem rscaleL {w : World} {v : Value} {lo : Int} {W : Nat} {z : Int} (n : Int) (hv : IsLv w v lo z) (h1 : Lvl lo W z) (hn : -32768 ≤ n ∧ n ≤ 32768) :
    Calls Tryz.prog 28 #[v, .int .i64 n] w fun r w' => ∃ q, r = .returned q ∧ IsLv w' q (lo + n) z ∧ Below w.heap.size w w' := by
  unfold IsLv at *
  obtain ⟨na, ao, ca, A, rfl, a1, a2, a3, a4, a5⟩ := hv.right h1.right.2
  have x1 := dRt_in h1.right.1
  have := rscale_any na ao ca A _ n w a1 a2 x1 hn
  rw [a3, oM_oM] at this
  by_cases h0 : z = 0
  · subst h0
    rw [oM_zero, oE_zero] at *
    exact this
  · rw [oE_oM _ _ h0] at this
    have hx : oE z (lo + n) = oE z lo + n := by rw [oE_ne _ _ h0, oE_ne _ _ h0]; omega
    rw [hx]
    exact this

set_option maxRecDepth 20000 in
set_option maxHeartbeats 4000000 in
theorem near_neg (n1 n2 : Bool) (a1 a2 : Option Addr) (l1 l2 c1 c2 : Nat) (X1 X2 k : Int) (w : World) (M X M2 Y2 MS YS o : Int) (hM : M < 0) (hk : -5000 ≤ k ∧ k ≤ 5000)
    (C1 : ∀ w', Below w.heap.size w w' → Calls Tryz.prog 26 #[.agg #[.bool n1, .slice a1 l1 c1, .int .i64 X1], .agg #[.bool n2, .slice a2 l2 c2, .int .i64 X2]] w' fun r w'' => ∃ q, r = .returned q ∧ IsDy w'' q M X ∧ Below w'.heap.size w' w'')
    (C2 : ∀ w' v, IsDy w' v M X → Calls Tryz.prog 64 #[v] w' fun r w'' => ∃ q, r = .returned q ∧ IsDy w'' q M2 Y2 ∧ Below w'.heap.size w' w'')
    (C3 : ∀ w', Below w.heap.size w w' → Calls Tryz.prog 28 #[.agg #[.bool n2, .slice a2 l2 c2, .int .i64 X2], .int .i64 (-k)] w' fun r w'' => ∃ q, r = .returned q ∧ IsDy w'' q MS YS ∧ Below w'.heap.size w' w'')
    (C4 : ∀ w' v u, IsDy w' v M2 Y2 → IsDy w' u MS YS → Calls Tryz.prog 31 #[v, u] w' fun r w'' => r = .returned (.int .i64 o) ∧ Below w'.heap.size w' w'') :
    Calls Tryz.prog 24 #[.agg #[.bool n1, .slice a1 l1 c1, .int .i64 X1], .agg #[.bool n2, .slice a2 l2 c2, .int .i64 X2], .int .i64 k] w fun r w' => r = .returned (.bool (decide (o ≤ 0))) ∧ Below w.heap.size w w' := by
  have K1 := hide C1; have K2 := hide C2; have K3 := hide C3; have K4 := hide C4
  have hw : IntKind.i64.wrap (-k) = -k := by simp only [IntKind.wrap_i64]; omega
  have B0 := hide ((below_alloc9 w (.cells #[.bool n1, .slice a1 l1 c1, .int .i64 X1] 54)).alloc (by simp) (.cells #[.bool n2, .slice a2 l2 c2, .int .i64 X2] 54))
  have xb := Box3.new (w.alloc (.cells #[.bool n1, .slice a1 l1 c1, .int .i64 X1] 54)) (.bool n2) (.slice a2 l2 c2) (.int .i64 X2)
  rw [size_alloc9] at xb
  have XB := hide xb
  clear C1 C2 C3 C4 xb
  go_enter Tryz.func24, Tryz.ntmps24
  go_wp2_with fail
  refine (unhide K1 _ (unhide B0)).mono ?_
  rintro e w2 ⟨q, rfl, ⟨n3, a3, c3, L3, rfl, i3⟩, hb2⟩
  have H3 : IsDy w2 (.agg #[.bool n3, .slice a3 L3.length c3, .int .i64 X]) M X := ⟨n3, a3, c3, L3, rfl, i3⟩
  have hs := dy_sign H3
  rw [decide_eq_true hM] at hs
  subst hs
  have XB2 := hide ((unhide XB).all hb2)
  have B2 := hide ((unhide B0).trans (hb2.mono (unhide B0).size))
  generalize L3.length = l3 at *
  have H3' := hide H3
  clear i3 hb2 K1 XB B0 H3
  have hlt2 : w.heap.size + 1 ≠ w2.heap.size := by have := (unhide XB2).lt; omega
  have hsz2 : w.heap.size ≤ w2.heap.size := (unhide B2).size
  have x3 := Box3.new w2 (.bool true) (.slice a3 l3 c3) (.int .i64 X)
  have X3 := hide x3
  have XB3 := hide ((unhide XB2).old (.cells #[.bool true, .slice a3 l3 c3, .int .i64 X] 54))
  have B3 := hide ((unhide B2).alloc hsz2 (.cells #[.bool true, .slice a3 l3 c3, .int .i64 X] 54))
  have H3a := hide ((unhide H3').below (below_alloc9 w2 (.cells #[.bool true, .slice a3 l3 c3, .int .i64 X] 54)))
  have HL := hide hlt2; have HZ := hide hsz2
  clear x3 XB2 B2 H3' hlt2 hsz2
  go_wp2_with fail
  refine (unhide K2 _ _ (unhide H3a)).mono ?_
  rintro e w3 ⟨q, rfl, ⟨n4, a4, c4, L4, rfl, i4⟩, hb3⟩
  have H4 : IsDy w3 (.agg #[.bool n4, .slice a4 L4.length c4, .int .i64 Y2]) M2 Y2 := ⟨n4, a4, c4, L4, rfl, i4⟩
  generalize L4.length = l4 at *
  have x3 := (unhide X3).all hb3
  have y0 := x3.c0; have y1 := x3.c1; have y2 := x3.c2; have f0 := x3.free 0; have f1 := x3.free 1; have f2 := x3.free 2
  have X4 := hide (x3.put (.bool n4) (.slice a4 l4 c4) (.int .i64 Y2))
  have H5 := hide (H4.put3 x3 (.bool n4) (.slice a4 l4 c4) (.int .i64 Y2))
  have B4 := hide ((unhide B3).trans (hb3.mono (unhide B3).size))
  have B5 := hide ((((unhide B4).setCell (p := ⟨w2.heap.size, 0, none⟩) (unhide HZ) (.bool n4)).setCell (p := ⟨w2.heap.size, 1, none⟩) (unhide HZ) (.slice a4 l4 c4)).setCell (p := ⟨w2.heap.size, 2, none⟩) (unhide HZ) (.int .i64 Y2))
  have XB4 := hide (((((unhide XB3).all hb3).other (p := ⟨w2.heap.size, 0, none⟩) (unhide HL) (.bool n4)).other (p := ⟨w2.heap.size, 1, none⟩) (unhide HL) (.slice a4 l4 c4)).other (p := ⟨w2.heap.size, 2, none⟩) (unhide HL) (.int .i64 Y2))
  clear i4 hb3 K2 XB3 B3 B4 H4 H3a X3 x3
  go_wp2_with fail
  refine at_world (fun W => Below w.heap.size w W ∧ Box3 W w2.heap.size (.bool n4) (.slice a4 l4 c4) (.int .i64 Y2) ∧ Box3 W (w.heap.size + 1) (.bool n2) (.slice a2 l2 c2) (.int .i64 X2) ∧ IsDy W (.agg #[.bool n4, .slice a4 l4 c4, .int .i64 Y2]) M2 Y2) ⟨unhide B5, unhide X4, unhide XB4, unhide H5⟩ ?_
  rintro W0 ⟨b0, x4, x5, h5⟩
  have HK := hide (fun w' (h : Below W0.heap.size W0 w') => (show Below W0.heap.size W0 w' ∧ w'.cell? ⟨w2.heap.size, 0, none⟩ = some (.bool n4) ∧ w'.cell? ⟨w2.heap.size, 1, none⟩ = some (.slice a4 l4 c4) ∧ w'.cell? ⟨w2.heap.size, 2, none⟩ = some (.int .i64 Y2) ∧ w'.cell? ⟨w.heap.size + 1, 0, none⟩ = some (.bool n2) ∧ w'.cell? ⟨w.heap.size + 1, 1, none⟩ = some (.slice a2 l2 c2) ∧ w'.cell? ⟨w.heap.size + 1, 2, none⟩ = some (.int .i64 X2) from
    ⟨h, (x4.all h).c0, (x4.all h).c1, (x4.all h).c2, (x5.all h).c0, (x5.all h).c1, (x5.all h).c2⟩))
  have BB := hide b0; have HH := hide h5
  have K3' := hide (fun w' (h : Below W0.heap.size W0 w') => unhide K3 w' (b0.trans (h.mono b0.size)))
  clear b0 x4 x5 h5 B5 X4 XB4 H5 K3
  generalize w2.heap.size = gx at *
  generalize w.heap.size + 1 = gy at *
  go_region_held3 (fun w' => Below W0.heap.size W0 w' ∧ w'.cell? ⟨gx, 0, none⟩ = some (.bool n4) ∧ w'.cell? ⟨gx, 1, none⟩ = some (.slice a4 l4 c4) ∧ w'.cell? ⟨gx, 2, none⟩ = some (.int .i64 Y2) ∧ w'.cell? ⟨gy, 0, none⟩ = some (.bool n2) ∧ w'.cell? ⟨gy, 1, none⟩ = some (.slice a2 l2 c2) ∧ w'.cell? ⟨gy, 2, none⟩ = some (.int .i64 X2))
    (first | exact unhide HK _ (Below.refl _ _).drew | exact unhide HK _ (by assumption) | fail "KK")
    (first | (go_at_call 28; refine (unhide K3' _ (And.left (by assumption))).mono ?_; rintro e w5 ⟨q, rfl, hq, hb5⟩; have hB5 : Below W0.heap.size W0 w5 := Below.trans (And.left (by assumption)) (hb5.mono (Below.size (And.left (by assumption)))); have HQ := hide hq; clear hb5 hq) | (go_at_call 31; refine (unhide K4 _ _ _ ((unhide HH).below (by assumption)) (unhide HQ)).mono ?_; rintro e w6 ⟨rfl, hb6⟩; have hB6 : Below W0.heap.size W0 w6 := Below.trans (And.left (by assumption)) (hb6.mono (Below.size (And.left (by assumption)))); clear hb6) | fail "NO ARM")
  go_wp2
  go_ret
  exact ⟨rfl, (unhide BB).trans (Below.mono (And.left (by assumption)) (unhide BB).size)⟩

set_option maxRecDepth 20000 in
set_option maxHeartbeats 4000000 in
theorem near_pos (n1 n2 : Bool) (a1 a2 : Option Addr) (l1 l2 c1 c2 : Nat) (X1 X2 k : Int) (w : World) (M X MS YS o : Int) (hM : 0 ≤ M) (hk : -5000 ≤ k ∧ k ≤ 5000)
    (C1 : ∀ w', Below w.heap.size w w' → Calls Tryz.prog 26 #[.agg #[.bool n1, .slice a1 l1 c1, .int .i64 X1], .agg #[.bool n2, .slice a2 l2 c2, .int .i64 X2]] w' fun r w'' => ∃ q, r = .returned q ∧ IsDy w'' q M X ∧ Below w'.heap.size w' w'')
    (C3 : ∀ w', Below w.heap.size w w' → Calls Tryz.prog 28 #[.agg #[.bool n2, .slice a2 l2 c2, .int .i64 X2], .int .i64 (-k)] w' fun r w'' => ∃ q, r = .returned q ∧ IsDy w'' q MS YS ∧ Below w'.heap.size w' w'')
    (C4 : ∀ w' v u, IsDy w' v M X → IsDy w' u MS YS → Calls Tryz.prog 31 #[v, u] w' fun r w'' => r = .returned (.int .i64 o) ∧ Below w'.heap.size w' w'') :
    Calls Tryz.prog 24 #[.agg #[.bool n1, .slice a1 l1 c1, .int .i64 X1], .agg #[.bool n2, .slice a2 l2 c2, .int .i64 X2], .int .i64 k] w fun r w' => r = .returned (.bool (decide (o ≤ 0))) ∧ Below w.heap.size w w' := by
  have K1 := hide C1; have K3 := hide C3; have K4 := hide C4
  have hw : IntKind.i64.wrap (-k) = -k := by simp only [IntKind.wrap_i64]; omega
  have B0 := hide ((below_alloc9 w (.cells #[.bool n1, .slice a1 l1 c1, .int .i64 X1] 54)).alloc (by simp) (.cells #[.bool n2, .slice a2 l2 c2, .int .i64 X2] 54))
  have xb := Box3.new (w.alloc (.cells #[.bool n1, .slice a1 l1 c1, .int .i64 X1] 54)) (.bool n2) (.slice a2 l2 c2) (.int .i64 X2)
  rw [size_alloc9] at xb
  have XB := hide xb
  clear C1 C3 C4 xb
  go_enter Tryz.func24, Tryz.ntmps24
  go_wp2_with fail
  refine (unhide K1 _ (unhide B0)).mono ?_
  rintro e w2 ⟨q, rfl, ⟨n3, a3, c3, L3, rfl, i3⟩, hb2⟩
  have H3 : IsDy w2 (.agg #[.bool n3, .slice a3 L3.length c3, .int .i64 X]) M X := ⟨n3, a3, c3, L3, rfl, i3⟩
  have hs := dy_sign H3
  rw [decide_eq_false (show ¬ M < 0 by omega)] at hs
  subst hs
  have XB2 := hide ((unhide XB).all hb2)
  have B2 := hide ((unhide B0).trans (hb2.mono (unhide B0).size))
  generalize L3.length = l3 at *
  have H3' := hide H3
  clear i3 hb2 K1 XB B0 H3
  have hsz2 : w.heap.size ≤ w2.heap.size := (unhide B2).size
  have x3 := Box3.new w2 (.bool false) (.slice a3 l3 c3) (.int .i64 X)
  have X3 := hide x3
  have XB3 := hide ((unhide XB2).old (.cells #[.bool false, .slice a3 l3 c3, .int .i64 X] 54))
  have B3 := hide ((unhide B2).alloc hsz2 (.cells #[.bool false, .slice a3 l3 c3, .int .i64 X] 54))
  have H3a := hide ((unhide H3').below (below_alloc9 w2 (.cells #[.bool false, .slice a3 l3 c3, .int .i64 X] 54)))
  clear x3 XB2 B2 H3' hsz2
  have X4 := X3; have H5 := H3a; have B5 := B3; have XB4 := XB3
  clear X3 H3a B3 XB3
  go_wp2_with fail
  refine at_world (fun W => Below w.heap.size w W ∧ Box3 W w2.heap.size (.bool false) (.slice a3 l3 c3) (.int .i64 X) ∧ Box3 W (w.heap.size + 1) (.bool n2) (.slice a2 l2 c2) (.int .i64 X2) ∧ IsDy W (.agg #[.bool false, .slice a3 l3 c3, .int .i64 X]) M X) ⟨unhide B5, unhide X4, unhide XB4, unhide H5⟩ ?_
  rintro W0 ⟨b0, x4, x5, h5⟩
  have HK := hide (fun w' (h : Below W0.heap.size W0 w') => (show Below W0.heap.size W0 w' ∧ w'.cell? ⟨w2.heap.size, 0, none⟩ = some (.bool false) ∧ w'.cell? ⟨w2.heap.size, 1, none⟩ = some (.slice a3 l3 c3) ∧ w'.cell? ⟨w2.heap.size, 2, none⟩ = some (.int .i64 X) ∧ w'.cell? ⟨w.heap.size + 1, 0, none⟩ = some (.bool n2) ∧ w'.cell? ⟨w.heap.size + 1, 1, none⟩ = some (.slice a2 l2 c2) ∧ w'.cell? ⟨w.heap.size + 1, 2, none⟩ = some (.int .i64 X2) from
    ⟨h, (x4.all h).c0, (x4.all h).c1, (x4.all h).c2, (x5.all h).c0, (x5.all h).c1, (x5.all h).c2⟩))
  have BB := hide b0; have HH := hide h5
  have K3' := hide (fun w' (h : Below W0.heap.size W0 w') => unhide K3 w' (b0.trans (h.mono b0.size)))
  clear b0 x4 x5 h5 B5 X4 XB4 H5 K3
  generalize w2.heap.size = gx at *
  generalize w.heap.size + 1 = gy at *
  go_region_held3 (fun w' => Below W0.heap.size W0 w' ∧ w'.cell? ⟨gx, 0, none⟩ = some (.bool false) ∧ w'.cell? ⟨gx, 1, none⟩ = some (.slice a3 l3 c3) ∧ w'.cell? ⟨gx, 2, none⟩ = some (.int .i64 X) ∧ w'.cell? ⟨gy, 0, none⟩ = some (.bool n2) ∧ w'.cell? ⟨gy, 1, none⟩ = some (.slice a2 l2 c2) ∧ w'.cell? ⟨gy, 2, none⟩ = some (.int .i64 X2))
    (first | exact unhide HK _ (Below.refl _ _).drew | exact unhide HK _ (by assumption) | fail "KK")
    (first | (go_at_call 28; refine (unhide K3' _ (And.left (by assumption))).mono ?_; rintro e w5 ⟨q, rfl, hq, hb5⟩; have hB5 : Below W0.heap.size W0 w5 := Below.trans (And.left (by assumption)) (hb5.mono (Below.size (And.left (by assumption)))); have HQ := hide hq; clear hb5 hq) | (go_at_call 31; refine (unhide K4 _ _ _ ((unhide HH).below (by assumption)) (unhide HQ)).mono ?_; rintro e w6 ⟨rfl, hb6⟩; have hB6 : Below W0.heap.size W0 w6 := Below.trans (And.left (by assumption)) (hb6.mono (Below.size (And.left (by assumption)))); clear hb6) | fail "NO ARM")
  go_wp2
  go_ret
  exact ⟨rfl, (unhide BB).trans (Below.mono (And.left (by assumption)) (unhide BB).size)⟩

end Go.Proofs.YtimejpbmehegeaaGreatDoor

/- The reference's Near and Squares, at a level. -/
namespace Go.Proofs.YtimejpbmehegeaaGreatDoor
open Go.RowKit
attribute [local go_sem ↓] Go.wp_at_zero Go.wp_at_succ

theorem cmpI_le (x y : Int) : cmpI x y ≤ 0 ↔ x ≤ y := by
  rcases (show x < y ∨ x = y ∨ y < x by omega) with g | g | g
  · rw [cmpI8_lt g]; omega
  · rw [cmpI8_eq g]; omega
  · rw [cmpI8_gt g]; omega

theorem Lvl.diff {lo : Int} {W : Nat} {z1 z2 : Int} (h1 : Lvl lo W z1) (h2 : Lvl lo W z2) (hW : lo + W + 1 ≤ 16384) (hW2 : W + 1 ≤ 16384) : Lvl lo (W + 1) (z1 - z2) := by
  refine ⟨?_, h1.2.1, by have := h1.2.2; omega, hW2⟩
  have a := h1.1
  have b := h2.1
  rw [Nat.pow_succ]
  omega
theorem Lvl.low {lo : Int} {W : Nat} {z : Int} (h : Lvl lo W z) (k : Nat) (hlo : -16384 ≤ lo - k) (hW : W + k ≤ 16384) : Lvl (lo - k) (W + k) (z * 2 ^ k) := by
  refine ⟨?_, hlo, by have := h.2.2.1; omega, hW⟩
  rw [Int.natAbs_mul, Int.natAbs_pow, Nat.pow_add]
  exact (Nat.mul_lt_mul_right (Nat.two_pow_pos k)).2 h.1
theorem Lvl.at {lo lo' : Int} {W : Nat} {z : Int} (h : Lvl lo W z) (h1 : -16384 ≤ lo') (h2 : lo' + W ≤ 16384) : Lvl lo' W z := ⟨h.1, h1, h2, h.2.2.2⟩

theorem near_any {w : World} {v u : Value} {lo : Int} {W : Nat} {z1 z2 : Int} (k : Nat) (hv : IsLv w v lo z1) (hu : IsLv w u lo z2) (h1 : Lvl lo W z1) (h2 : Lvl lo W z2) (hk : k ≤ 100) (b1 : -16384 ≤ lo - k) (b2 : lo + W + 1 ≤ 16384) (b3 : W + 1 + k ≤ 16384) :
    Calls Tryz.prog 24 #[v, u, .int .i64 (k : Nat)] w fun r w' => r = .returned (.bool (decide (((z1 - z2).natAbs : Int) * 2 ^ k ≤ z2))) ∧ Below w.heap.size w w' := by
  have hv0 := hv; have hu0 := hu
  obtain ⟨n1, a1, c1, L1, rfl, i1⟩ := hv
  obtain ⟨n2, a2, c2, L2, rfl, i2⟩ := hu
  have ld := h1.diff h2 b2 (by omega)
  have C1 := fun w' (hb : Below w.heap.size w w') => rsubN (hv0.below hb) (hu0.below hb) h1 h2
  have C3 := fun w' (hb : Below w.heap.size w w') => rscaleL (-(k : Int)) (hu0.below hb) h2 (by omega)
  have hc : ∀ d : Int, Lvl lo (W + 1) d → ∀ w' v u, IsDy w' v (oM d) (oE d lo) → IsDy w' u (oM z2) (oE z2 (lo + -(k : Int))) → Calls Tryz.prog 31 #[v, u] w' fun r w'' => r = .returned (.int .i64 (cmpI (d * 2 ^ k) z2)) ∧ Below w'.heap.size w' w'' := by
    intro d hd w' v u hv hu
    have e1 : IsLv w' v (lo - k) (d * 2 ^ k) := IsLv.lower hv k
    have e2 : IsLv w' u (lo - k) z2 := hu
    have l2 : Lvl (lo - k) (W + 1 + k) z2 := ⟨Nat.lt_of_lt_of_le h2.1 (Nat.pow_le_pow_right (by decide) (by omega)), b1, by omega, b3⟩
    exact rcmpN e1 e2 (hd.low k b1 b3) l2
  by_cases hd : z1 - z2 < 0
  · have e : (((z1 - z2).natAbs : Int) * 2 ^ k ≤ z2) ↔ cmpI (-(z1 - z2) * 2 ^ k) z2 ≤ 0 := by
      rw [cmpI_le, show ((z1 - z2).natAbs : Int) = -(z1 - z2) by omega]
    rw [decide_eq_decide.2 e]
    exact near_neg n1 n2 a1 a2 _ _ c1 c2 _ _ k w (oM (z1 - z2)) (oE (z1 - z2) lo) (oM (-(z1 - z2))) (oE (-(z1 - z2)) lo) (oM z2) (oE z2 (lo + -(k : Int))) _ ((oM_neg_iff _).2 hd) (by omega) C1 (fun w' v hv => rnegN hv ld) C3 (hc _ ld.neg)
  · have e : (((z1 - z2).natAbs : Int) * 2 ^ k ≤ z2) ↔ cmpI ((z1 - z2) * 2 ^ k) z2 ≤ 0 := by
      rw [cmpI_le, show ((z1 - z2).natAbs : Int) = z1 - z2 by omega]
    rw [decide_eq_decide.2 e]
    exact near_pos n1 n2 a1 a2 _ _ c1 c2 _ _ k w (oM (z1 - z2)) (oE (z1 - z2) lo) (oM z2) (oE z2 (lo + -(k : Int))) _ (by have := (oM_neg_iff (z1 - z2)).1; omega) (by omega) C1 C3 (hc _ ld)

/-- The exact sum of squares, in units of 2^-2148. -/
def sqK (I : List Int) : Nat → Int
  | 0 => 0
  | k + 1 => sqK I k + fZ (atB I k) * fZ (atB I k)

/-- A bound on squares. -/
def B96 : Nat := 2 ^ 4196
theorem B96_mul : B96 = 2 ^ 2098 * 2 ^ 2098 := by decide +kernel
theorem B96_lt : 64 * B96 < 2 ^ 4203 := by decide +kernel
theorem sq_nonnegI (x : Int) : 0 ≤ x * x := by
  rcases Int.le_total 0 x with h | h
  · exact Int.mul_nonneg h h
  · exact Int.mul_nonneg_of_nonpos_of_nonpos h h
theorem fZ_few (b : Nat) (hf : fFin b = true) : (fZ b * fZ b).natAbs < B96 := by
  rw [Int.natAbs_mul, B96_mul]
  have h := fZ_lt b hf
  generalize (2 : Nat) ^ 2098 = P at *
  exact Nat.mul_lt_mul'' h h
theorem sqK_le (I : List Int) (n : Nat) (h : fnK I n = true) : ∀ k, k ≤ n → 0 ≤ sqK I k ∧ (sqK I k).natAbs ≤ k * B96 := by
  intro k
  induction k with
  | zero => intro _; exact ⟨Int.le_refl _, by rw [Nat.zero_mul]; exact Nat.le_refl _⟩
  | succ k ih =>
    intro hk
    obtain ⟨i1, i2⟩ := ih (by omega)
    have hf : fFin (atB I k) = true := by
      have h2 : (fnK I k && fFin (atB I k)) = true := fnK_down I n (k + 1) hk h
      rw [Bool.and_eq_true] at h2
      exact h2.2
    have h3 := fZ_few (atB I k) hf
    have h4 : 0 ≤ fZ (atB I k) * fZ (atB I k) := sq_nonnegI _
    show 0 ≤ sqK I k + fZ (atB I k) * fZ (atB I k) ∧ (sqK I k + fZ (atB I k) * fZ (atB I k)).natAbs ≤ (k + 1) * B96
    generalize fZ (atB I k) * fZ (atB I k) = q at *
    generalize sqK I k = s at *
    rw [Nat.succ_mul]
    generalize B96 = P at *
    omega
theorem sqK_lvl (I : List Int) (n : Nat) (hn : n ≤ 64) (h : fnK I n = true) (k : Nat) (hk : k ≤ n) : Lvl (-2148) 4203 (sqK I k) := by
  obtain ⟨h1, h2⟩ := sqK_le I n h k hk
  refine ⟨?_, by decide, by decide, by decide⟩
  exact Nat.lt_of_le_of_lt (Nat.le_trans h2 (Nat.mul_le_mul_right _ (by omega))) B96_lt
theorem fZ_lvl2 (b : Nat) (hf : fFin b = true) : Lvl (-2148) 4203 (fZ b * fZ b) := by
  have h := fZ_few b hf
  refine ⟨?_, by decide, by decide, by decide⟩
  exact Nat.lt_of_lt_of_le h (Nat.le_trans (show B96 ≤ 64 * B96 by omega) (Nat.le_of_lt B96_lt))

set_option maxRecDepth 20000 in
set_option maxHeartbeats 4000000 in
theorem r9squares_any (ao : Option Addr) (c : Nat) (I : List Int) (w : World) (hI : BitsAt w ao c I) (hn : I.length ≤ 64) (hf : fnK I I.length = true) :
    Calls Tryz.prog 25 #[.slice ao I.length c] w fun e w' => ∃ v, e = .returned v ∧ IsLv w' v (-2148) (sqK I I.length) ∧ Below w.heap.size w w' := by
  have HI := hide hI
  obtain ⟨n, hnn⟩ : ∃ n, I.length = n := ⟨_, rfl⟩
  rw [hnn] at hn hf ⊢
  have HN := hide hnn
  have HF := hide hf
  have HL := hide (fun k hk => sqK_lvl I n hn hf k hk)
  have XR := hide ((Box3.new w (.bool false) (.slice none 0 0) (.int .i64 0)).old (.cells #[.bool false, .slice none 0 0, .int .i64 0] 54))
  have xs := Box3.new (w.alloc (.cells #[.bool false, .slice none 0 0, .int .i64 0] 54)) (.bool false) (.slice none 0 0) (.int .i64 0)
  rw [size_alloc9] at xs
  have XS := hide xs
  have B0 := hide ((below_alloc9 w (.cells #[.bool false, .slice none 0 0, .int .i64 0] 54)).alloc (by simp) (.cells #[.bool false, .slice none 0 0, .int .i64 0] 54))
  clear hI hnn xs hf
  go_enter Tryz.func25, Tryz.ntmps25
  go_wp2_with fail
  go_loopw [4] (fun i wr => ∃ (k : Nat) (nn : Bool) (aa : Option Addr) (ll cc : Nat) (X : Int), k ≤ n ∧ i = .int .i64 k ∧ Hid (Box3 wr w.heap.size (.bool false) (.slice none 0 0) (.int .i64 0)) ∧ Hid (Box3 wr (w.heap.size + 1) (.bool nn) (.slice aa ll cc) (.int .i64 X)) ∧ Hid (IsLv wr (.agg #[.bool nn, .slice aa ll cc, .int .i64 X]) (-2148) (sqK I k)) ∧ Hid (Below w.heap.size w wr)) (fun i _ => n - (intOf i).toNat)
  case atStart => exact ⟨0, false, none, 0, 0, 0, Nat.zero_le _, rfl, XR, XS, IsLv.zero _ _, B0⟩
  case round =>
    clear XR XS B0
    obtain ⟨k, nn, aa, ll, cc, X, hk, rfl, xr, xs, hs, hB⟩ := hrel
    by_cases hlt : k < n
    · have hkI : (k : Int) < (n : Int) := by omega
      obtain ⟨b, off, hao, hb, hc⟩ := ((unhide HI).below hB.out).ne (by rw [unhide HN]; omega)
      have hck := hc k (by rw [unhide HN]; exact hlt)
      have x64 := (unhide HI).lt k
      have hfx : fFin (atB I k) = true := by
        have h2 : (fnK I k && fFin (atB I k)) = true := fnK_down I n (k + 1) (by omega) (unhide HF)
        rw [Bool.and_eq_true] at h2
        exact h2.2
      have C1 := hide (fun w' => rvalueN (atB I k) w' x64 hfx)
      have C2 := hide (fun w' v (hv : IsLv w' v (-1074) (fZ (atB I k))) => rmulV x64 x64 hfx hfx hv hv)
      have l1 := unhide HL k (by omega)
      have C3 := hide (fun w' v u (hv : IsLv w' v (-2148) (sqK I k)) (hu : IsLv w' u (-2148) (fZ (atB I k) * fZ (atB I k))) => (show Calls Tryz.prog 29 #[v, u] w' fun r w'' => ∃ q, r = .returned q ∧ IsLv w'' q (-2148) (sqK I k + fZ (atB I k) * fZ (atB I k)) ∧ Below w'.heap.size w' w'' from raddN hv hu l1 (fZ_lvl2 _ hfx)))
      have eV : Hid (sqK I (k + 1) = sqK I k + fZ (atB I k) * fZ (atB I k)) := rfl
      subst hao
      clear hc x64 hfx l1
      generalize sqK I k + fZ (atB I k) * fZ (atB I k) = s2 at *
      generalize fZ (atB I k) * fZ (atB I k) = p at *
      generalize fZ (atB I k) = z at *
      generalize atB I k = x at *
      go_wp2_with fail
      refine (unhide C1 _).mono ?_
      rintro e wv ⟨q, rfl, ⟨n1, a1, c1, L1, rfl, i1⟩, hb1⟩
      have hv : IsLv wv (.agg #[.bool n1, .slice a1 L1.length c1, .int .i64 (oE z (-1074))]) (-1074) z := ⟨n1, a1, c1, L1, rfl, i1⟩
      generalize L1.length = l1 at *
      generalize oE z (-1074) = X1 at *
      have HV := hide (hv.below (below_alloc9 wv (.cells #[.bool n1, .slice a1 l1 c1, .int .i64 X1] 54)))
      have bv := hB.out.trans (hb1.mono hB.out.size)
      have BV := hide (bv.alloc bv.size (.cells #[.bool n1, .slice a1 l1 c1, .int .i64 X1] 54))
      have HS := hide (((unhide hs).below hb1).below (below_alloc9 wv (.cells #[.bool n1, .slice a1 l1 c1, .int .i64 X1] 54)))
      have XR := hide (((unhide xr).all hb1).old (.cells #[.bool n1, .slice a1 l1 c1, .int .i64 X1] 54))
      have XS := hide (((unhide xs).all hb1).old (.cells #[.bool n1, .slice a1 l1 c1, .int .i64 X1] 54))
      have XV := hide (Box3.new wv (.bool n1) (.slice a1 l1 c1) (.int .i64 X1))
      clear i1 hv hb1 bv hB hs xr xs C1
      go_wp2_with fail
      refine at_world (fun W => Below w.heap.size w W ∧ Box3 W w.heap.size (.bool false) (.slice none 0 0) (.int .i64 0) ∧ Box3 W (w.heap.size + 1) (.bool nn) (.slice aa ll cc) (.int .i64 X) ∧ Box3 W wv.heap.size (.bool n1) (.slice a1 l1 c1) (.int .i64 X1) ∧ IsLv W (.agg #[.bool nn, .slice aa ll cc, .int .i64 X]) (-2148) (sqK I k) ∧ IsLv W (.agg #[.bool n1, .slice a1 l1 c1, .int .i64 X1]) (-1074) z) ⟨unhide BV, unhide XR, unhide XS, unhide XV, unhide HS, unhide HV⟩ ?_
      rintro W0 ⟨b0, x0, x1, x2, h1, h2⟩
      have b0 := b0.drew; have x0 := x0.drew; have x1 := x1.drew; have x2 := x2.drew
      have h1 := h1.below ((Below.refl W0.heap.size W0).drew); have h2 := h2.below ((Below.refl W0.heap.size W0).drew)
      clear BV XR XS XV HS HV
      have hgs : w.heap.size ≤ w.heap.size + 1 := by omega
      have hne : w.heap.size ≠ w.heap.size + 1 := by omega
      have HZ := hide hgs; have HNE := hide hne
      clear hgs hne
      generalize wv.heap.size = gv at *
      have y0 := x1.c0; have y1 := x1.c1; have y2 := x1.c2; have f0 := x1.free 0; have f1 := x1.free 1; have f2 := x1.free 2
      have v0 := x2.c0; have v1 := x2.c1; have v2 := x2.c2
      have X0 := hide x0; have XX1 := hide x1; have XX2 := hide x2; have H1 := hide h1; have H2 := hide h2; have BB := hide b0
      clear x0 x1 x2 h1 h2 b0
      go_region_with (first | (go_at_call 65; refine (unhide C2 _ _ (unhide H2)).mono ?_; rintro e w4 ⟨q, rfl, ⟨n4, a4, c4, L4, rfl, i4⟩, hb4⟩; clear y0 y1 y2 f0 f1 f2 v0 v1 v2; have Q4 := hide (show IsLv w4 (.agg #[.bool n4, .slice a4 L4.length c4, .int .i64 (oE p (-2148))]) (-2148) p from ⟨n4, a4, c4, L4, rfl, i4⟩); generalize L4.length = l4 at *; generalize oE p (-2148) = X4 at *; have x1 := (unhide XX1).all hb4; have BB := hide ((unhide BB).trans (hb4.mono (unhide BB).size)); have X0 := hide ((unhide X0).all hb4); have H1 := hide ((unhide H1).below hb4); have XX1 := hide x1; have y0 := x1.c0; have y1 := x1.c1; have y2 := x1.c2; have f0 := x1.free 0; have f1 := x1.free 1; have f2 := x1.free 2; clear i4 hb4 x1) | (go_at_call 29; refine (unhide C3 _ _ _ (unhide H1) (unhide Q4)).mono ?_; rintro e w5 ⟨q, rfl, ⟨n5, a5, c5, L5, rfl, i5⟩, hb5⟩; clear y0 y1 y2 f0 f1 f2; have Q5 := hide (show IsLv w5 (.agg #[.bool n5, .slice a5 L5.length c5, .int .i64 (oE s2 (-2148))]) (-2148) s2 from ⟨n5, a5, c5, L5, rfl, i5⟩); generalize L5.length = l5 at *; generalize oE s2 (-2148) = X5 at *; have x1 := (unhide XX1).all hb5; have BB := hide ((unhide BB).trans (hb5.mono (unhide BB).size)); have X0 := hide ((unhide X0).all hb5); have XX1 := hide x1; have y0 := x1.c0; have y1 := x1.c1; have y2 := x1.c2; have f0 := x1.free 0; have f1 := x1.free 1; have f2 := x1.free 2; clear i5 hb5 x1) | fail "NO ARM")
      all_goals
        have X0' := hide ((((unhide X0).other (p := ⟨w.heap.size + 1, 0, none⟩) (unhide HNE) (.bool n5)).other (p := ⟨w.heap.size + 1, 1, none⟩) (unhide HNE) (.slice a5 l5 c5)).other (p := ⟨w.heap.size + 1, 2, none⟩) (unhide HNE) (.int .i64 X5))
        have X1' := hide ((unhide XX1).put (.bool n5) (.slice a5 l5 c5) (.int .i64 X5))
        have Q' := hide (IsDy.put3 (unhide Q5) (unhide XX1) (.bool n5) (.slice a5 l5 c5) (.int .i64 X5))
        have B' := hide ((((unhide BB).setCell (p := ⟨w.heap.size + 1, 0, none⟩) (unhide HZ) (.bool n5)).setCell (p := ⟨w.heap.size + 1, 1, none⟩) (unhide HZ) (.slice a5 l5 c5)).setCell (p := ⟨w.heap.size + 1, 2, none⟩) (unhide HZ) (.int .i64 X5))
        clear X0 XX1 Q5 BB
        go_wp2_with fail
        go_round
        case rel => exact ⟨k + 1, n5, a5, l5, c5, X5, by omega, by go_num, X0', X1', by rw [unhide eV]; exact Q', B'⟩
        case measure => simp [intOf]; omega
    · have hkk : k = n := by omega
      subst hkk
      have y0 := (unhide xs).c0
      have y1 := (unhide xs).c1
      have y2 := (unhide xs).c2
      have r0 := (unhide xr).c0
      have r1 := (unhide xr).c1
      have r2 := (unhide xr).c2
      have f0 := (unhide xr).free 0
      have f1 := (unhide xr).free 1
      have f2 := (unhide xr).free 2
      have hb1 : w.heap.size + 1 ≠ w.heap.size := by omega
      have HS := hide (IsDy.put3 (unhide hs) (unhide xr) (.bool nn) (.slice aa ll cc) (.int .i64 X))
      have BE := hide (((hB.out.setCell (p := ⟨w.heap.size, 0, none⟩) (Nat.le_refl _) (.bool nn)).setCell (p := ⟨w.heap.size, 1, none⟩) (Nat.le_refl _) (.slice aa ll cc)).setCell (p := ⟨w.heap.size, 2, none⟩) (Nat.le_refl _) (.int .i64 X))
      have xe := (unhide xr).put (.bool nn) (.slice aa ll cc) (.int .i64 X)
      have e0 := xe.c0; have e1 := xe.c1; have e2 := xe.c2
      clear xe hb1 xr xs hs hB
      go_wp2_with fail
      exact bodyPost_ret (v := .agg #[.bool nn, .slice aa ll cc, .int .i64 X]) (by simp [results, Tryz.results25, go_sem, e0, e1, e2]) rfl ⟨_, rfl, unhide HS, unhide BE⟩

end Go.Proofs.YtimejpbmehegeaaGreatDoor

/- What is reckoned place by place, and what is known of lists. -/
namespace Go.Proofs.YtimejpbmehegeaaGreatDoor
open Go.RowKit

/-- The numbers of a list. -/
def toN (I : List Int) : List Nat := I.map Int.toNat
theorem toN_len (I : List Int) : (toN I).length = I.length := by simp [toN]
theorem toN_at (I : List Int) (j : Nat) (hj : j < I.length) : (toN I)[j]? = some (atB I j) := by simp [toN, atB, hj]
theorem toN_take (I : List Int) (j : Nat) (hj : j < I.length) : (toN I).take (j + 1) = (toN I).take j ++ [atB I j] := by
  rw [List.take_add_one, toN_at I j hj]
  rfl
theorem toN_all (I : List Int) (P : Nat → Prop) (h : ∀ j, j < I.length → P (atB I j)) : ∀ x ∈ toN I, P x := by
  intro x hx
  obtain ⟨j, hj, rfl⟩ := List.getElem_of_mem hx
  have hj' : j < I.length := by rw [← toN_len]; exact hj
  have e := toN_at I j hj'
  rw [List.getElem?_eq_getElem hj] at e
  rw [Option.some.inj e]
  exact h j hj'

theorem bgF_snoc (x : Nat) : ∀ (xs : List Nat) (m : Nat), bgF m (xs ++ [x]) = mx (bgF m xs) (fR x) := by
  intro xs
  induction xs with
  | nil => intro m; rfl
  | cons y ys ih => intro m; exact ih _
theorem ssV_snoc (k : Int) (x : Nat) : ∀ (xs : List Nat) (s : Nat), ssV k s (xs ++ [x]) = sqV k (ssV k s xs) x := by
  intro xs
  induction xs with
  | nil => intro m; rfl
  | cons y ys ih => intro m; exact ih _
theorem sumQ_snoc (x : Nat) : ∀ (xs : List Nat), sumQ (xs ++ [x]) = sumQ xs + fQ x * fQ x := by
  intro xs
  induction xs with
  | nil =>
    show fQ x * fQ x + 0 = 0 + fQ x * fQ x
    rw [Rat.add_zero, Rat.zero_add]
  | cons y ys ih =>
    show fQ y * fQ y + sumQ (ys ++ [x]) = fQ y * fQ y + sumQ ys + fQ x * fQ x
    rw [ih, Rat.add_assoc]

theorem bgK_list (I : List Int) : ∀ j, j ≤ I.length → bgK I j = bgF 0 ((toN I).take j) := by
  intro j
  induction j with
  | zero => intro _; rfl
  | succ j ih =>
    intro hj
    rw [toN_take I j (by omega), bgF_snoc, ← ih (by omega)]
    rfl
theorem bgK_all (I : List Int) : bgK I I.length = bgF 0 (toN I) := by
  rw [bgK_list I _ (Nat.le_refl _), List.take_of_length_le (by rw [toN_len]; exact Nat.le_refl _)]
theorem dtK_list (k : Int) (I : List Int) : ∀ j, j ≤ I.length → dtK (tL k I) (tL k I) j = ssV k 0 ((toN I).take j) := by
  intro j
  induction j with
  | zero => intro _; rfl
  | succ j ih =>
    intro hj
    rw [toN_take I j (by omega), ssV_snoc, ← ih (by omega)]
    show aV (dtK (tL k I) (tL k I) j) (mV (atB (tL k I) j) (atB (tL k I) j)) = _
    rw [show atB (tL k I) j = xV (atB I j) (-k) from mkL_at _ _ j (by omega)]
    rfl
theorem dtK_all (k : Int) (I : List Int) : dtK (tL k I) (tL k I) I.length = ssV k 0 (toN I) := by
  rw [dtK_list k I _ (Nat.le_refl _), List.take_of_length_le (by rw [toN_len]; exact Nat.le_refl _)]
/-- The norm by places is the norm of the list. -/
theorem nmV_nrV (I : List Int) : nmV I = nrV (toN I) := by
  unfold nmV nrV
  rw [dtK_all, bgK_all]

theorem tame_list {w : World} {ao : Option Addr} {c : Nat} {I : List Int} {K : Int} (hI : BitsAt w ao c I) (h : tmK K I I.length = true) : TameV K (toN I) := by
  refine toN_all I _ fun j hj => ?_
  have h2 := tmK_at K I _ j hj h
  unfold tmB at h2
  rw [Bool.and_eq_true, Bool.or_eq_true] at h2
  refine ⟨hI.lt j, h2.1, ?_⟩
  rcases h2.2 with g | g
  · exact .inl (of_decide_eq_true g)
  · exact .inr (of_decide_eq_true g)
theorem tame_fn (I : List Int) (K : Int) (h : tmK K I I.length = true) : fnK I I.length = true := by
  have : ∀ n, tmK K I n = true → fnK I n = true := by
    intro n
    induction n with
    | zero => intro _; rfl
    | succ n ih =>
      intro h
      have h' : (tmK K I n && tmB K (atB I n)) = true := h
      rw [Bool.and_eq_true] at h'
      show (fnK I n && fFin (atB I n)) = true
      have h2 := h'.2
      unfold tmB at h2
      rw [Bool.and_eq_true] at h2
      rw [ih h'.1, h2.1]
      rfl
  exact this _ h

end Go.Proofs.YtimejpbmehegeaaGreatDoor

