/- Part 26 of the texts. -/
import Derived.Test.YtlbggedahpnjgaaDoorPart25
import Derived.Test.YtlbggedahpnjgaaDoorPart09
import Derived.Deep.RegionHeld3
import Derived.Test.YtlbggedahpnjgaaDoorPart24
import Derived.Laws.Cover2
import Derived.Laws.Externs
import Derived.Test.YtlbggedahpnjgaaDoorPart04
import Derived.Laws.FloatArith
import Derived.Test.YtlbggedahpnjgaaDoorPart22
/- awake of layer 8; the laws CompareTruncs, CompareExps, walked. -/
namespace Go.Proofs.YtlbggedahpnjgaaDoor
open Go.RowKit

theorem awake8_facts : cO 4607182418800017408 9218868437227405312 = -1 ∧ cB 4607182418800017408 9218868437227405312 = true ∧ xV 4607182418800017408 (-1) = 4602678819172646912 ∧ xF 4607182418800017408 (-1) = 0 ∧ tB8 13836183955189006336 = true ∧ tI 13836183955189006336 = -2 := by decide +kernel

end Go.Proofs.YtlbggedahpnjgaaDoor

/- The law SumRises, walked. -/
namespace Go.Proofs.YtlbggedahpnjgaaDoor
open Go.RowKit

theorem frombits5 (R : Nat) (W : World) : (callFunc 36 #[.int .u64 R]).run Tryd.prog W = .ok (.value (.float .f64 R)) W := by
  rw [run_callFunc_extern (e := Extern.MathFloatBits.float64frombits) Tryd.func36 (by kernel_rfl) (by kernel_rfl) (by kernel_rfl) (by kernel_rfl)]
  show ((pure (.float .f64 ((R : Int).toNat)) : Sem Value).run Tryd.prog W).andThen (fun v w' => .ok (Next.value v) w') = _
  simp

end Go.Proofs.YtlbggedahpnjgaaDoor

/- The law SumFloats, walked. -/
namespace Go.Proofs.YtlbggedahpnjgaaDoor
open Go.RowKit

/-- What a float operation gives, and the world behind it: where it has no answer, some number that is none is drawn. -/
def fres (o : Option Nat) (x y : Nat) (w : World) : Nat :=
  match o with
  | some r => r
  | none => (Question.nanBits .f64 x y).cut (w.tape w.drawn (.nanBits .f64 x y))
def fwld (o : Option Nat) (w : World) : World :=
  match o with
  | some _ => w
  | none => { w with drawn := w.drawn + 1 }

theorem fadd_run (t : TypeId) (x y : Nat) (w : World) : (binOp .add t (.float .f64 x) (.float .f64 y)).run Tryd.prog w = .ok (.float .f64 (fres (Ieee.double.add x y) x y w)) (fwld (Ieee.double.add x y) w) := by
  have hf : FloatKind.f64.format = Ieee.double := rfl
  cases h : Ieee.double.add x y with
  | some r => exact run_float_arith w .add t .f64 x y r (by unfold floatBits; rw [hf]; exact h)
  | none =>
    simp only [binOp, Op.floatArith, hf, h]
    rfl
theorem fsub_run (t : TypeId) (x y : Nat) (w : World) : (binOp .sub t (.float .f64 x) (.float .f64 y)).run Tryd.prog w = .ok (.float .f64 (fres (Ieee.double.sub x y) x y w)) (fwld (Ieee.double.sub x y) w) := by
  have hf : FloatKind.f64.format = Ieee.double := rfl
  cases h : Ieee.double.sub x y with
  | some r => exact run_float_arith w .sub t .f64 x y r (by unfold floatBits; rw [hf]; exact h)
  | none =>
    simp only [binOp, Op.floatArith, hf, h]
    rfl

theorem below_fwld (o : Option Nat) (w : World) : Below w.heap.size w (fwld o w) := by
  cases o
  · exact (Below.refl _ _).drew
  · exact Below.refl _ _

theorem fres_none (x y : Nat) (w : World) : fres none x y w < 18446744073709551616 ∧ fK (fres none x y w) = 4 := by
  have h : fres none x y w = (w.tape w.drawn (.nanBits .f64 x y) % 2) * 9223372036854775808 + 9218868437227405312 + 1 + (w.tape w.drawn (.nanBits .f64 x y) / 2) % 4503599627370495 := rfl
  rw [h]
  clear h
  generalize w.tape w.drawn (.nanBits .f64 x y) = t
  have h1 := Nat.mod_lt t (show 0 < 2 by decide)
  have h2 := Nat.mod_lt (t / 2) (show 0 < 4503599627370495 by decide)
  generalize t / 2 % 4503599627370495 = u at *
  generalize t % 2 = v at *
  refine ⟨by omega, (fK_rungs _).1.2 ?_⟩
  unfold fR
  obtain rfl | rfl : v = 0 ∨ v = 1 := by omega
  · omega
  · omega

theorem tobits5 (R : Nat) (W : World) : (callFunc 35 #[.float .f64 R]).run Tryd.prog W = .ok (.value (.int .u64 R)) W := by
  rw [run_callFunc_extern (e := Extern.MathFloatBits.float64bits) Tryd.func35 (by kernel_rfl) (by kernel_rfl) (by kernel_rfl) (by kernel_rfl)]
  show ((pure (.int .u64 (R : Int)) : Sem Value).run Tryd.prog W).andThen (fun v w' => .ok (Next.value v) w') = _
  simp

set_option maxRecDepth 20000 in
set_option maxHeartbeats 2000000 in
theorem canon_any (b : Nat) (w : World) (h : b < 18446744073709551616) :
    Calls Tryd.prog 34 #[.int .u64 b] w fun r w' => r = .returned (.int .u64 ((if fK b = 4 then 9221120237041090560 else b : Nat) : Int)) ∧ w = w' := by
  have K := hide (fun w' => rkind_any b w' h)
  have hw : IntKind.u64.wrap (b : Int) = (b : Int) := by simp only [IntKind.wrap_u64]; omega
  by_cases h4 : fK b = 4
  · rw [if_pos h4]
    rw [h4] at K
    clear h4 h
    go_enter Tryd.func34, Tryd.ntmps34
    go_wp2_with fail
    refine (unhide K _).mono ?_
    rintro e w1 ⟨rfl, rfl⟩
    go_wp2
    go_ret
    exact ⟨rfl, rfl⟩
  · rw [if_neg h4]
    have hk : (fK b == 4) = false := by simp [h4]
    generalize fK b = k at *
    clear h4 h
    go_enter Tryd.func34, Tryd.ntmps34
    go_wp2_with fail
    refine (unhide K _).mono ?_
    rintro e w1 ⟨rfl, rfl⟩
    go_wp2
    go_ret
    exact ⟨rfl, rfl⟩

/-- What Go's own sum, by its bits, comes to. -/
theorem canon_add (a b : Nat) (w w' : World) (ha : a < 18446744073709551616) (hb : b < 18446744073709551616) :
    Calls Tryd.prog 34 #[.int .u64 (fres (Ieee.double.add a b) a b w : Nat)] w' fun r w'' => r = .returned (.int .u64 (aV a b : Nat)) ∧ w' = w'' := by
  cases h : aN a b with
  | true =>
    obtain ⟨h1, h2⟩ := fadd_none a b ha hb h
    rw [h1, h2]
    obtain ⟨h3, h4⟩ := fres_none a b w
    have := canon_any _ w' h3
    rw [if_pos h4] at this
    exact this
  | false =>
    rw [fadd_some a b ha hb h]
    have := canon_any (aV a b) w' (aV_lt a b ha hb)
    by_cases h4 : fK (aV a b) = 4
    · exfalso
      have h' := of_decide_eq_false h
      have n4 : ¬ (fK a = 4 ∨ fK b = 4) := fun e => h' (Or.inl e)
      unfold aV at h4
      rw [if_neg n4] at h4
      by_cases a3 : fK a = 3
      · rw [if_pos a3, if_neg (fun h => h' (Or.inr ⟨a3, h.1, h.2⟩))] at h4
        omega
      · rw [if_neg a3] at h4
        by_cases b3 : fK b = 3
        · rw [if_pos b3] at h4; omega
        · rw [if_neg b3] at h4
          have hr := (aV_fin a b (fin_of a a3 (by omega)) (fin_of b b3 (by omega))).1
          have hle := rnd_le (aZ a b).natAbs (-1074)
          have e := (add_f a b a3 (by omega) b3 (by omega)).1
          rw [← e] at h4
          have := (fK_rungs _).1.1 h4
          omega
    · rw [if_neg h4] at this
      exact this

end Go.Proofs.YtlbggedahpnjgaaDoor

/- The laws CompareOrders, CompareBack, walked. -/
namespace Go.Proofs.YtlbggedahpnjgaaDoor
open Go.RowKit

theorem order_ways8 (a b : Nat) (ha : a < 18446744073709551616) (hb : b < 18446744073709551616) :
    ∃ l q, (Ieee.double.order a b = none ∧ cO a b = 0 ∧ cB a b = false ∧ l = false ∧ q = false) ∨ (Ieee.double.order a b = some .lt ∧ cO a b = -1 ∧ cB a b = true ∧ l = true ∧ q = false) ∨ (Ieee.double.order a b = some .eq ∧ cO a b = 0 ∧ cB a b = true ∧ l = false ∧ q = true) ∨ (Ieee.double.order a b = some .gt ∧ cO a b = 1 ∧ cB a b = true ∧ l = false ∧ q = false) := by
  by_cases h : fK a = 4 ∨ fK b = 4
  · refine ⟨false, false, .inl ⟨order_nan a b ha hb h, ?_, ?_, rfl, rfl⟩⟩
    · unfold cO; rw [if_pos h]
    · unfold cB; rw [if_pos h]
  · have e := order_bits a b ha hb (fun e => h (.inl e)) (fun e => h (.inr e))
    have e1 : cO a b = cmpI (fZ a) (fZ b) := by unfold cO; rw [if_neg h]
    have e2 : cB a b = true := by unfold cB; rw [if_neg h]
    rw [e, e1, e2]
    rcases (show fZ a < fZ b ∨ fZ a = fZ b ∨ fZ b < fZ a by omega) with g | g | g
    · exact ⟨true, false, .inr (.inl ⟨by rw [Int.compare_eq_lt.2 g], cmpI8_lt g, rfl, rfl, rfl⟩)⟩
    · exact ⟨false, true, .inr (.inr (.inl ⟨by rw [Int.compare_eq_eq.2 g], cmpI8_eq g, rfl, rfl, rfl⟩))⟩
    · exact ⟨false, false, .inr (.inr (.inr ⟨by rw [Int.compare_eq_gt.2 g], cmpI8_gt g, rfl, rfl, rfl⟩))⟩

/-- A normal number times 2^n, where it stays normal: no flag, its power n more. -/
theorem back8_facts (a : Nat) (n : Int) (ha : a < 18446744073709551616) (h1 : 1 ≤ fP a ∧ fP a ≤ 2046) (hn : 1 ≤ (fP a : Int) + n ∧ (fP a : Int) + n ≤ 2046) :
    xF a n = 0 ∧ fP (xV a n) = (((fP a : Nat) : Int) + n).toNat ∧ fF (xV a n) = fF a ∧ fS (xV a n) = fS a ∧ xV a n < 18446744073709551616 := by
  have hR : fR a / 4503599627370496 = fP a := rfl
  have hK : fK a = 2 := by unfold fK; rw [if_neg (by omega), if_neg (by omega)]
  have fa : fFin a = true := decide_eq_true (by omega)
  obtain ⟨z1, z2, z3, z4, z5, z6, z7, z8, z9⟩ := sc_facts a ha fa (by omega)
  obtain ⟨β, x1, x2, x3, x4⟩ := odd_mag a ha fa (by omega)
  have hr : 4503599627370496 ≤ fR a := by omega
  have hg := gM_rv (fR a) hr
  have hb1 : bl (rv (fR a)) = 53 + (fP a - 1) := by rw [hg, bl_scale _ _ (gM_ne _), gM_bl, hR]
  have hb2 : bl (rv (fR a)) = bl (fD a).natAbs + β := by rw [x2]; exact bl_scale _ _ z3
  have hb3 := bl_le53 z2
  have e1 : xF a n = rflag (fD a).natAbs (fX a + n) := by unfold xF; rw [if_neg (by omega), if_neg (by omega)]
  have e2 : xV a n = wrd (fS a) (rnd (fD a).natAbs (fX a + n)) := by unfold xV; rw [if_neg (by omega), if_neg (by omega)]
  have e3 : rnd (fD a).natAbs (fX a + n) = rnd (rv (fR a)) (n - 1074) := by
    rw [x2, rnd_scale]; congr 1; omega
  have e4 := scale_normal (fR a) n (n + (fP a : Int) - 1023) hr (by rw [hR])
  have e5 := scale_mid (fR a) (n + (fP a : Int) - 1023) (by omega) (by omega)
  have hF : fR a % 4503599627370496 = fF a := by unfold fR fF; omega
  have hFl := fF_lt a
  rw [hF] at e5
  have e6 : rnd (fD a).natAbs (fX a + n) = fF a + (((fP a : Nat) : Int) + n).toNat * 4503599627370496 := by
    rw [e3, e4, e5]; congr 2; omega
  obtain ⟨P, hP⟩ : ∃ P : Nat, P = (((fP a : Nat) : Int) + n).toNat := ⟨_, rfl⟩
  rw [← hP] at e6 ⊢
  have hP2 : 1 ≤ P ∧ P ≤ 2046 := by omega
  have hlt : fF a + P * 4503599627370496 < 9223372036854775808 := by omega
  refine ⟨?_, ?_, ?_, ?_, ?_⟩
  · rw [e1]
    unfold rflag
    rw [if_neg z3, if_neg (by omega), if_pos (by unfold lastE; omega)]
  · rw [e2, e6]
    have := fR_wrd (fS a) _ hlt
    have h3 : fP (wrd (fS a) (fF a + P * 4503599627370496)) = fR (wrd (fS a) (fF a + P * 4503599627370496)) / 4503599627370496 := rfl
    rw [h3, this]
    omega
  · rw [e2, e6]
    have := fR_wrd (fS a) _ hlt
    have h3 : fF (wrd (fS a) (fF a + P * 4503599627370496)) = fR (wrd (fS a) (fF a + P * 4503599627370496)) % 4503599627370496 := by unfold fF fR; omega
    rw [h3, this]
    omega
  · rw [e2, e6]; exact fS_wrd _ _ hlt
  · exact xV_lt a n ha

theorem bits_of (a : Nat) (ha : a < 18446744073709551616) : a = wrd (fS a) (fF a + fP a * 4503599627370496) := by
  have h := b_wrd a ha
  have e : fF a + fP a * 4503599627370496 = fR a := by unfold fF fP fR; omega
  rw [e, h]

theorem eX_normal (a : Nat) (ha : a < 18446744073709551616) (h1 : 1 ≤ fP a ∧ fP a ≤ 2046) : eX a = (fP a : Int) - 1023 := by
  have hR : fR a / 4503599627370496 = fP a := rfl
  have hK : fK a = 2 := by unfold fK; rw [if_neg (by omega), if_neg (by omega)]
  have fa : fFin a = true := decide_eq_true (by omega)
  obtain ⟨z1, z2, z3, z4, z5, z6, z7, z8, z9⟩ := sc_facts a ha fa (by omega)
  obtain ⟨β, x1, x2, x3, x4⟩ := odd_mag a ha fa (by omega)
  have hg := gM_rv (fR a) (by omega)
  have hb1 : bl (rv (fR a)) = 53 + (fP a - 1) := by rw [hg, bl_scale _ _ (gM_ne _), gM_bl, hR]
  have hb2 : bl (rv (fR a)) = bl (fD a).natAbs + β := by rw [x2]; exact bl_scale _ _ z3
  unfold eX
  rw [if_neg (by omega)]
  omega

end Go.Proofs.YtlbggedahpnjgaaDoor

/- Contracts of package times: quotient. -/
namespace Go.Proofs.YtlbggedahpnjgaaDoor
open Go.RowKit

theorem lQ_54 (x y i : Nat) (h2 : x < 2 * y) (hi : i < 55) : lQ x y i < 18014398509481984 := by
  have q1 := lQ_lt x y i h2
  have q2 : (2 : Nat) ^ i ≤ 2 ^ 54 := Nat.pow_le_pow_right (by decide) (by omega)
  rw [show (2 : Nat) ^ 54 = 18014398509481984 by decide] at q2
  exact Nat.lt_of_lt_of_le q1 q2
theorem lQ_55 (x y : Nat) (h2 : x < 2 * y) : lQ x y 55 < 36028797018963968 := by
  have q1 := lQ_lt x y 55 h2
  rwa [show (2 : Nat) ^ 55 = 36028797018963968 by decide] at q1

end Go.Proofs.YtlbggedahpnjgaaDoor

