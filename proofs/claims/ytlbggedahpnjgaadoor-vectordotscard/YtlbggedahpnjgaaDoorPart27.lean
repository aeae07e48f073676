/- Part 27 of the texts. -/
import Derived.Test.YtlbggedahpnjgaaDoorPart26
import Derived.Test.YtlbggedahpnjgaaDoorPart23
import Derived.Deep.RegionHeld3
import Derived.Test.YtlbggedahpnjgaaDoorPart24
import Derived.Test.YtlbggedahpnjgaaDoorPart18
import Derived.Laws.BitsAllLaws
import Derived.Test.YtlbggedahpnjgaaDoorPart12
/- Contract of times.sizeOf. -/
namespace Go.Proofs.YtlbggedahpnjgaaDoor
open Go.RowKit

end Go.Proofs.YtlbggedahpnjgaaDoor

/- Contracts of times.sizeOf of any number, divFinite. -/
namespace Go.Proofs.YtlbggedahpnjgaaDoor
open Go.RowKit

/-- The limbs of a dyadic number at hand. -/
theorem IsDy.limbs {w : World} {n : Bool} {a : Option Addr} {l c : Nat} {X m Y : Int} (h : IsDy w (.agg #[.bool n, .slice a l c, .int .i64 X]) m Y) (hm : m.natAbs < TOP) :
    ∃ L, l = L.length ∧ LimbsAt w a c L ∧ rightB false L = true ∧ val L = m.natAbs ∧ L.length ≤ 512 := by
  obtain ⟨n', a', c', L, e1, h1, h2, h3, h4, h5⟩ := h.right hm
  simp only [Value.agg.injEq, Array.mk.injEq, List.cons.injEq, Value.bool.injEq, Value.slice.injEq, and_true] at e1
  obtain ⟨rfl, ⟨rfl, e2, rfl⟩, _⟩ := e1
  have hr : rightB false L = true := by
    simp only [rightB, Bool.and_eq_true, decide_eq_true_eq, Bool.not_eq_true', Bool.and_eq_false_iff, decide_eq_false_iff_not, Bool.or_eq_true] at h2 ⊢
    exact ⟨⟨h2.1.1, Or.inr trivial⟩, h2.2⟩
  exact ⟨L, e2, h1, hr, by rw [← h3, natAbs_sval], h4⟩

theorem small6 {B : Nat} {w : World} {v : Value} {x : Int} (hv : IsNum B w v x) (h0 : -9223372036854775808 ≤ x) (h1 : x ≤ 9223372036854775807) :
    Calls Tryd.prog 77 #[v] w fun e w' => e = .returned (.tuple #[.int .i64 x, .int .i64 0]) ∧ Below w.heap.size w w' := by
  obtain ⟨na, ao, ca, A, rfl, a1, a2, a3, a4⟩ := hv.right (small_TOP _ (by omega))
  have := small_any na ao ca A w a1 (by omega)
  have hf : fits64 x = true := by unfold fits64; rw [decide_eq_true (by omega)]
  rwa [show smV na A = x by unfold smV; rw [a2, a3, hf]; rfl, show smE na A = 0 by unfold smE; rw [a2, a3, hf]; rfl] at this

theorem lt57 {S : Nat} (h : S < 144115188075855872) : S < 2 ^ 57 := by
  have : (2 : Nat) ^ 57 = 144115188075855872 := by decide
  omega

theorem pS_def (a b : Nat) : stk (dS a * 2 ^ 54) (dS b) = pS a b := by unfold pS; rfl
theorem dT_in (b : Nat) (hb : b < 18446744073709551616) (hf : fFin b = true) (h0 : fK b ≠ 0) : -1100 ≤ dT b ∧ dT b ≤ 1100 := by
  obtain ⟨x1, x2, x3, x4, x5, x6, x7, x8⟩ := dS_facts b hb hf h0
  unfold dT
  omega

end Go.Proofs.YtlbggedahpnjgaaDoor

/- Contracts of package times: Div; awake. -/
namespace Go.Proofs.YtlbggedahpnjgaaDoor
open Go.RowKit

theorem awake6_facts : dV 4607182418800017408 4613937818241073152 = 4599676419421066581 ∧ dF 4607182418800017408 4613937818241073152 = 1 ∧ mV 9218868437227405312 0 = 9221120237041090560 ∧ mF 9218868437227405312 0 = 16 := by decide +kernel

end Go.Proofs.YtlbggedahpnjgaaDoor

/- The law TimesFloats, walked. -/
namespace Go.Proofs.YtlbggedahpnjgaaDoor
open Go.RowKit

theorem fmul_run (t : TypeId) (x y : Nat) (w : World) : (binOp .mul t (.float .f64 x) (.float .f64 y)).run Tryd.prog w = .ok (.float .f64 (fres (Ieee.double.mul x y) x y w)) (fwld (Ieee.double.mul x y) w) := by
  have hf : FloatKind.f64.format = Ieee.double := rfl
  cases h : Ieee.double.mul x y with
  | some r => exact run_float_arith w .mul t .f64 x y r (by unfold floatBits; rw [hf]; exact h)
  | none =>
    simp only [binOp, Op.floatArith, hf, h]
    rfl
theorem fdiv_run (t : TypeId) (x y : Nat) (w : World) : (binOp .quo t (.float .f64 x) (.float .f64 y)).run Tryd.prog w = .ok (.float .f64 (fres (Ieee.double.div x y) x y w)) (fwld (Ieee.double.div x y) w) := by
  have hf : FloatKind.f64.format = Ieee.double := rfl
  cases h : Ieee.double.div x y with
  | some r => exact run_float_arith w .quo t .f64 x y r (by unfold floatBits; rw [hf]; exact h)
  | none =>
    simp only [binOp, Op.floatArith, hf, h]
    rfl

theorem wrd_kind (n : Bool) (r : Nat) (h : r ≤ 9218868437227405312) : fK (wrd n r) ≠ 4 := fun h4 => by
  have := (fK_rungs _).1.1 h4
  have e : fR (wrd n r) = r := by unfold fR; exact (wrd_parts n r (by omega)).2
  omega
theorem mV_kind (a b : Nat) (h : mN a b = false) : fK (mV a b) ≠ 4 := by
  have h' := of_decide_eq_false h
  have n4 : ¬ (fK a = 4 ∨ fK b = 4) := fun e => h' (Or.inl e)
  unfold mV
  rw [if_neg n4]
  split
  · rename_i h3
    rw [if_neg (fun h0 => h' (Or.inr ⟨h3, h0⟩))]
    exact wrd_kind _ _ (by decide)
  · exact wrd_kind _ _ (rnd_le _ _)
theorem dV_kind (a b : Nat) (h : dN a b = false) : fK (dV a b) ≠ 4 := by
  have h' := of_decide_eq_false h
  have n4 : ¬ (fK a = 4 ∨ fK b = 4) := fun e => h' (Or.inl e)
  have nn : ¬ (fK a = fK b ∧ (fK a = 3 ∨ fK a = 0)) := fun e => h' (Or.inr e)
  unfold dV
  rw [if_neg n4, if_neg nn]
  repeat' split
  · exact wrd_kind _ _ (by decide)
  · exact wrd_kind _ _ (by decide)
  · exact wrd_kind _ _ (by decide)
  · exact wrd_kind _ _ (rnd_le _ _)

/-- What Go's own, by its bits, comes to. -/
theorem canon_of (o : Option Nat) (v x y : Nat) (w w' : World) (hv : v < 18446744073709551616) (h1 : o = none → v = 9221120237041090560) (h2 : ∀ r, o = some r → r = v ∧ fK v ≠ 4) :
    Calls Tryd.prog 34 #[.int .u64 (fres o x y w : Nat)] w' fun r w'' => r = .returned (.int .u64 (v : Nat)) ∧ w' = w'' := by
  cases o with
  | none =>
    rw [h1 rfl]
    obtain ⟨h3, h4⟩ := fres_none x y w
    have := canon_any _ w' h3
    rw [if_pos h4] at this
    exact this
  | some r =>
    obtain ⟨rfl, h4⟩ := h2 r rfl
    have := canon_any r w' hv
    rw [if_neg h4] at this
    exact this
theorem canon_mul (a b : Nat) (w w' : World) (ha : a < 18446744073709551616) (hb : b < 18446744073709551616) :
    Calls Tryd.prog 34 #[.int .u64 (fres (Ieee.double.mul a b) a b w : Nat)] w' fun r w'' => r = .returned (.int .u64 (mV a b : Nat)) ∧ w' = w'' := by
  refine canon_of _ (mV a b) a b w w' (mV_lt a b) (fun h => ?_) (fun r h => ?_)
  · cases e : mN a b with
    | true => exact (fmul_none a b ha hb e).2
    | false => rw [fmul_some a b ha hb e] at h; cases h
  · cases e : mN a b with
    | true => rw [(fmul_none a b ha hb e).1] at h; cases h
    | false =>
      rw [fmul_some a b ha hb e] at h
      exact ⟨(Option.some.inj h).symm, mV_kind a b e⟩
theorem canon_div (a b : Nat) (w w' : World) (ha : a < 18446744073709551616) (hb : b < 18446744073709551616) :
    Calls Tryd.prog 34 #[.int .u64 (fres (Ieee.double.div a b) a b w : Nat)] w' fun r w'' => r = .returned (.int .u64 (dV a b : Nat)) ∧ w' = w'' := by
  refine canon_of _ (dV a b) a b w w' (dV_lt a b) (fun h => ?_) (fun r h => ?_)
  · cases e : dN a b with
    | true => exact (fdiv_none a b ha hb e).2
    | false => rw [fdiv_some a b ha hb e] at h; cases h
  · cases e : dN a b with
    | true => rw [(fdiv_none a b ha hb e).1] at h; cases h
    | false =>
      rw [fdiv_some a b ha hb e] at h
      exact ⟨(Option.some.inj h).symm, dV_kind a b e⟩

end Go.Proofs.YtlbggedahpnjgaaDoor

/- Go's own math.Abs, IsInf, IsNaN, Copysign, Inf, normalize. -/
namespace Go.Proofs.YtlbggedahpnjgaaDoor
open Go.RowKit

theorem andNot_top (b : Nat) (h : b < 18446744073709551616) : bits .andNot .u64 (b : Int) 9223372036854775808 = (fR b : Int) := by
  have h1 := u64_andNot_nat b 9223372036854775808 h (by decide)
  refine h1.trans ?_
  rw [show 18446744073709551615 - 9223372036854775808 = 2 ^ 63 - 1 by decide, Nat.and_two_pow_sub_one_eq_mod]
  rfl
theorem and_2048 (x : Nat) (h : x < 4096) : x &&& 2048 = x / 2048 * 2048 := by
  have h2 : (x &&& 2 ^ 11) % 2 ^ 11 = 0 := by rw [Nat.and_mod_two_pow]; simp
  have h3 : (x &&& 2 ^ 11) / 2 ^ 11 = (x / 2 ^ 11) &&& 1 := by rw [Nat.and_div_two_pow]
  rw [Nat.and_one_is_mod] at h3
  have h4 := Nat.div_add_mod (x &&& 2 ^ 11) (2 ^ 11)
  rw [h2, h3] at h4
  rw [show (2048 : Nat) = 2 ^ 11 by decide]
  omega
theorem and_clear (b : Nat) (h : b < 18446744073709551616) : b &&& 9227875636482146303 = b / 9223372036854775808 * 9223372036854775808 + b % 4503599627370496 := by
  have e1 : (b &&& 9227875636482146303) % 2 ^ 52 = b % 4503599627370496 := by
    rw [Nat.and_mod_two_pow, show 9227875636482146303 % 2 ^ 52 = 2 ^ 52 - 1 by decide, Nat.and_two_pow_sub_one_eq_mod, Nat.mod_mod]
  have e2 : (b &&& 9227875636482146303) / 2 ^ 52 = b / 4503599627370496 / 2048 * 2048 := by
    rw [Nat.and_div_two_pow, show 9227875636482146303 / 2 ^ 52 = 2048 by decide]
    exact and_2048 _ (by omega)
  have := Nat.div_add_mod (b &&& 9227875636482146303) (2 ^ 52)
  rw [e1, e2] at this
  omega
theorem andNot_mid (s : Bool) (q : Nat) (h : q < 9223372036854775808) : bits .andNot .u64 (wrd s q : Nat) 9218868437227405312 = (wrd s (q % 4503599627370496) : Nat) := by
  have h1 := u64_andNot_nat (wrd s q) 9218868437227405312 (wrd_lt s q h) (by decide)
  refine h1.trans ?_
  rw [show 18446744073709551615 - 9218868437227405312 = 9227875636482146303 by decide, and_clear _ (wrd_lt s q h)]
  congr 1
  cases s
  · rw [wrd_false, wrd_false]; omega
  · rw [wrd_true, wrd_true]; omega
theorem or_mid (s : Bool) (f p : Nat) (hf : f < 4503599627370496) (hp : p < 2048) : bits .or .u64 (wrd s f : Nat) ((p * 4503599627370496 : Nat) : Int) = (wrd s (f + p * 4503599627370496) : Nat) := by
  have h1 := bits_or_u64_nat (wrd s f) (p * 4503599627370496) (wrd_lt s f (by omega)) (by omega)
  refine h1.trans ?_
  congr 1
  obtain ⟨t, ht⟩ : ∃ t, wrd s f = t * 2048 * 4503599627370496 + f ∧ t ≤ 1 := by
    cases s
    · exact ⟨0, by rw [wrd_false]; omega, by omega⟩
    · exact ⟨1, by rw [wrd_true]; omega, by omega⟩
  have e1 : (wrd s f ||| p * 4503599627370496) % 2 ^ 52 = f := by
    rw [Nat.or_mod_two_pow, show p * 4503599627370496 % 2 ^ 52 = 0 by omega, Nat.or_zero]
    omega
  have e2 : (wrd s f ||| p * 4503599627370496) / 2 ^ 52 = p + t * 2 ^ 11 := by
    rw [Nat.or_div_two_pow, show p * 4503599627370496 / 2 ^ 52 = p by omega, show wrd s f / 2 ^ 52 = t * 2 ^ 11 by omega, Nat.or_comm]
    exact or_above p t 11 (by omega)
  have := Nat.div_add_mod (wrd s f ||| p * 4503599627370496) (2 ^ 52)
  rw [e1, e2] at this
  cases s
  · rw [wrd_false] at *; rw [wrd_false]; omega
  · rw [wrd_true] at *; rw [wrd_true]; omega
theorem and_2047 (k : Nat) (h : k < 4096) : bits .and .i64 (k : Int) 2047 = ((k % 2048 : Nat) : Int) := by
  have h1 := Go.bits_nat .i64 62 (by decide) (fun x h0 h1 => by rw [IntKind.wrap_i64]; simp at h1; omega) k 2047 (by simp; omega) (by decide)
  refine h1.1.trans ?_
  rw [show (2047 : Nat) = 2 ^ 11 - 1 by decide, Nat.and_two_pow_sub_one_eq_mod]

end Go.Proofs.YtlbggedahpnjgaaDoor

