/- Part 25 of the texts. -/
import Derived.Test.YtgegjhkiiejhlaaDoorPart23
import Derived.Test.YtgegjhkiiejhlaaDoorPart21
import Derived.Laws.Cover2
import Derived.Laws.Externs
import Derived.Test.YtgegjhkiiejhlaaDoorPart04
import Derived.Laws.FloatArith
import Derived.Test.YtgegjhkiiejhlaaDoorPart24
/- Contracts of package sum: Add, Sub; awake. -/
namespace Go.Proofs.YtgegjhkiiejhlaaDoor
open Go.RowKit

theorem awake5_facts : aV 4607182418800017408 4607182418800017408 = 4611686018427387904 ∧ aF 4607182418800017408 4607182418800017408 = 0 ∧ aV 9218868437227405312 (fN 9218868437227405312) = 9221120237041090560 ∧ aF 9218868437227405312 (fN 9218868437227405312) = 16 := by decide +kernel

end Go.Proofs.YtgegjhkiiejhlaaDoor

/- The law SumRises, walked. -/
namespace Go.Proofs.YtgegjhkiiejhlaaDoor
open Go.RowKit

theorem frombits5 (R : Nat) (W : World) : (callFunc 42 #[.int .u64 R]).run Tryd.prog W = .ok (.value (.float .f64 R)) W := by
  rw [run_callFunc_extern (e := Extern.MathFloatBits.float64frombits) Tryd.func42 (by kernel_rfl) (by kernel_rfl) (by kernel_rfl) (by kernel_rfl)]
  show ((pure (.float .f64 ((R : Int).toNat)) : Sem Value).run Tryd.prog W).andThen (fun v w' => .ok (Next.value v) w') = _
  simp

end Go.Proofs.YtgegjhkiiejhlaaDoor

/- The law SumFloats, walked. -/
namespace Go.Proofs.YtgegjhkiiejhlaaDoor
open Go.RowKit

/-- What a float operation gives, and the world behind it: where it has no answer, some number that is none is drawn. -/
def fres (o : Option Nat) (x y : Nat) (w : World) : Nat :=
  match o with
  | some r => r
  | none => (Question.nanBits .f64 x y).cut (w.tape w.drawn (.nanBits .f64 x y))
def fwld (o : Option Nat) (w : World) : World :=
  match o with
  | some _ => w
  | none => { w with drawn := w.drawn + 1 }

theorem fadd_run (t : TypeId) (x y : Nat) (w : World) : (binOp .add t (.float .f64 x) (.float .f64 y)).run Tryd.prog w = .ok (.float .f64 (fres (Ieee.double.add x y) x y w)) (fwld (Ieee.double.add x y) w) := by
  have hf : FloatKind.f64.format = Ieee.double := rfl
  cases h : Ieee.double.add x y with
  | some r => exact run_float_arith w .add t .f64 x y r (by unfold floatBits; rw [hf]; exact h)
  | none =>
    simp only [binOp, Op.floatArith, hf, h]
    rfl
theorem fsub_run (t : TypeId) (x y : Nat) (w : World) : (binOp .sub t (.float .f64 x) (.float .f64 y)).run Tryd.prog w = .ok (.float .f64 (fres (Ieee.double.sub x y) x y w)) (fwld (Ieee.double.sub x y) w) := by
  have hf : FloatKind.f64.format = Ieee.double := rfl
  cases h : Ieee.double.sub x y with
  | some r => exact run_float_arith w .sub t .f64 x y r (by unfold floatBits; rw [hf]; exact h)
  | none =>
    simp only [binOp, Op.floatArith, hf, h]
    rfl

theorem below_fwld (o : Option Nat) (w : World) : Below w.heap.size w (fwld o w) := by
  cases o
  · exact (Below.refl _ _).drew
  · exact Below.refl _ _

theorem fres_none (x y : Nat) (w : World) : fres none x y w < 18446744073709551616 ∧ fK (fres none x y w) = 4 := by
  have h : fres none x y w = (w.tape w.drawn (.nanBits .f64 x y) % 2) * 9223372036854775808 + 9218868437227405312 + 1 + (w.tape w.drawn (.nanBits .f64 x y) / 2) % 4503599627370495 := rfl
  rw [h]
  clear h
  generalize w.tape w.drawn (.nanBits .f64 x y) = t
  have h1 := Nat.mod_lt t (show 0 < 2 by decide)
  have h2 := Nat.mod_lt (t / 2) (show 0 < 4503599627370495 by decide)
  generalize t / 2 % 4503599627370495 = u at *
  generalize t % 2 = v at *
  refine ⟨by omega, (fK_rungs _).1.2 ?_⟩
  unfold fR
  obtain rfl | rfl : v = 0 ∨ v = 1 := by omega
  · omega
  · omega

theorem tobits5 (R : Nat) (W : World) : (callFunc 15 #[.float .f64 R]).run Tryd.prog W = .ok (.value (.int .u64 R)) W := by
  rw [run_callFunc_extern (e := Extern.MathFloatBits.float64bits) Tryd.func15 (by kernel_rfl) (by kernel_rfl) (by kernel_rfl) (by kernel_rfl)]
  show ((pure (.int .u64 (R : Int)) : Sem Value).run Tryd.prog W).andThen (fun v w' => .ok (Next.value v) w') = _
  simp

set_option maxRecDepth 20000 in
set_option maxHeartbeats 2000000 in
theorem canon_any (b : Nat) (w : World) (h : b < 18446744073709551616) :
    Calls Tryd.prog 14 #[.int .u64 b] w fun r w' => r = .returned (.int .u64 ((if fK b = 4 then 9221120237041090560 else b : Nat) : Int)) ∧ w = w' := by
  have K := hide (fun w' => rkind_any b w' h)
  have hw : IntKind.u64.wrap (b : Int) = (b : Int) := by simp only [IntKind.wrap_u64]; omega
  by_cases h4 : fK b = 4
  · rw [if_pos h4]
    rw [h4] at K
    clear h4 h
    go_enter Tryd.func14, Tryd.ntmps14
    go_wp2_with fail
    refine (unhide K _).mono ?_
    rintro e w1 ⟨rfl, rfl⟩
    go_wp2
    go_ret
    exact ⟨rfl, rfl⟩
  · rw [if_neg h4]
    have hk : (fK b == 4) = false := by simp [h4]
    generalize fK b = k at *
    clear h4 h
    go_enter Tryd.func14, Tryd.ntmps14
    go_wp2_with fail
    refine (unhide K _).mono ?_
    rintro e w1 ⟨rfl, rfl⟩
    go_wp2
    go_ret
    exact ⟨rfl, rfl⟩

/-- What Go's own sum, by its bits, comes to. -/
theorem canon_add (a b : Nat) (w w' : World) (ha : a < 18446744073709551616) (hb : b < 18446744073709551616) :
    Calls Tryd.prog 14 #[.int .u64 (fres (Ieee.double.add a b) a b w : Nat)] w' fun r w'' => r = .returned (.int .u64 (aV a b : Nat)) ∧ w' = w'' := by
  cases h : aN a b with
  | true =>
    obtain ⟨h1, h2⟩ := fadd_none a b ha hb h
    rw [h1, h2]
    obtain ⟨h3, h4⟩ := fres_none a b w
    have := canon_any _ w' h3
    rw [if_pos h4] at this
    exact this
  | false =>
    rw [fadd_some a b ha hb h]
    have := canon_any (aV a b) w' (aV_lt a b ha hb)
    by_cases h4 : fK (aV a b) = 4
    · exfalso
      have h' := of_decide_eq_false h
      have n4 : ¬ (fK a = 4 ∨ fK b = 4) := fun e => h' (Or.inl e)
      unfold aV at h4
      rw [if_neg n4] at h4
      by_cases a3 : fK a = 3
      · rw [if_pos a3, if_neg (fun h => h' (Or.inr ⟨a3, h.1, h.2⟩))] at h4
        omega
      · rw [if_neg a3] at h4
        by_cases b3 : fK b = 3
        · rw [if_pos b3] at h4; omega
        · rw [if_neg b3] at h4
          have hr := (aV_fin a b (fin_of a a3 (by omega)) (fin_of b b3 (by omega))).1
          have hle := rnd_le (aZ a b).natAbs (-1074)
          have e := (add_f a b a3 (by omega) b3 (by omega)).1
          rw [← e] at h4
          have := (fK_rungs _).1.1 h4
          omega
    · rw [if_neg h4] at this
      exact this

end Go.Proofs.YtgegjhkiiejhlaaDoor

/- Contracts of package times: Div; awake. -/
namespace Go.Proofs.YtgegjhkiiejhlaaDoor
open Go.RowKit

theorem awake6_facts : dV 4607182418800017408 4613937818241073152 = 4599676419421066581 ∧ dF 4607182418800017408 4613937818241073152 = 1 ∧ mV 9218868437227405312 0 = 9221120237041090560 ∧ mF 9218868437227405312 0 = 16 := by decide +kernel

end Go.Proofs.YtgegjhkiiejhlaaDoor

/- The law TimesFloats, walked. -/
namespace Go.Proofs.YtgegjhkiiejhlaaDoor
open Go.RowKit

theorem fmul_run (t : TypeId) (x y : Nat) (w : World) : (binOp .mul t (.float .f64 x) (.float .f64 y)).run Tryd.prog w = .ok (.float .f64 (fres (Ieee.double.mul x y) x y w)) (fwld (Ieee.double.mul x y) w) := by
  have hf : FloatKind.f64.format = Ieee.double := rfl
  cases h : Ieee.double.mul x y with
  | some r => exact run_float_arith w .mul t .f64 x y r (by unfold floatBits; rw [hf]; exact h)
  | none =>
    simp only [binOp, Op.floatArith, hf, h]
    rfl
theorem fdiv_run (t : TypeId) (x y : Nat) (w : World) : (binOp .quo t (.float .f64 x) (.float .f64 y)).run Tryd.prog w = .ok (.float .f64 (fres (Ieee.double.div x y) x y w)) (fwld (Ieee.double.div x y) w) := by
  have hf : FloatKind.f64.format = Ieee.double := rfl
  cases h : Ieee.double.div x y with
  | some r => exact run_float_arith w .quo t .f64 x y r (by unfold floatBits; rw [hf]; exact h)
  | none =>
    simp only [binOp, Op.floatArith, hf, h]
    rfl

theorem wrd_kind (n : Bool) (r : Nat) (h : r ≤ 9218868437227405312) : fK (wrd n r) ≠ 4 := fun h4 => by
  have := (fK_rungs _).1.1 h4
  have e : fR (wrd n r) = r := by unfold fR; exact (wrd_parts n r (by omega)).2
  omega
theorem mV_kind (a b : Nat) (h : mN a b = false) : fK (mV a b) ≠ 4 := by
  have h' := of_decide_eq_false h
  have n4 : ¬ (fK a = 4 ∨ fK b = 4) := fun e => h' (Or.inl e)
  unfold mV
  rw [if_neg n4]
  split
  · rename_i h3
    rw [if_neg (fun h0 => h' (Or.inr ⟨h3, h0⟩))]
    exact wrd_kind _ _ (by decide)
  · exact wrd_kind _ _ (rnd_le _ _)
theorem dV_kind (a b : Nat) (h : dN a b = false) : fK (dV a b) ≠ 4 := by
  have h' := of_decide_eq_false h
  have n4 : ¬ (fK a = 4 ∨ fK b = 4) := fun e => h' (Or.inl e)
  have nn : ¬ (fK a = fK b ∧ (fK a = 3 ∨ fK a = 0)) := fun e => h' (Or.inr e)
  unfold dV
  rw [if_neg n4, if_neg nn]
  repeat' split
  · exact wrd_kind _ _ (by decide)
  · exact wrd_kind _ _ (by decide)
  · exact wrd_kind _ _ (by decide)
  · exact wrd_kind _ _ (rnd_le _ _)

/-- What Go's own, by its bits, comes to. -/
theorem canon_of (o : Option Nat) (v x y : Nat) (w w' : World) (hv : v < 18446744073709551616) (h1 : o = none → v = 9221120237041090560) (h2 : ∀ r, o = some r → r = v ∧ fK v ≠ 4) :
    Calls Tryd.prog 14 #[.int .u64 (fres o x y w : Nat)] w' fun r w'' => r = .returned (.int .u64 (v : Nat)) ∧ w' = w'' := by
  cases o with
  | none =>
    rw [h1 rfl]
    obtain ⟨h3, h4⟩ := fres_none x y w
    have := canon_any _ w' h3
    rw [if_pos h4] at this
    exact this
  | some r =>
    obtain ⟨rfl, h4⟩ := h2 r rfl
    have := canon_any r w' hv
    rw [if_neg h4] at this
    exact this
theorem canon_mul (a b : Nat) (w w' : World) (ha : a < 18446744073709551616) (hb : b < 18446744073709551616) :
    Calls Tryd.prog 14 #[.int .u64 (fres (Ieee.double.mul a b) a b w : Nat)] w' fun r w'' => r = .returned (.int .u64 (mV a b : Nat)) ∧ w' = w'' := by
  refine canon_of _ (mV a b) a b w w' (mV_lt a b) (fun h => ?_) (fun r h => ?_)
  · cases e : mN a b with
    | true => exact (fmul_none a b ha hb e).2
    | false => rw [fmul_some a b ha hb e] at h; cases h
  · cases e : mN a b with
    | true => rw [(fmul_none a b ha hb e).1] at h; cases h
    | false =>
      rw [fmul_some a b ha hb e] at h
      exact ⟨(Option.some.inj h).symm, mV_kind a b e⟩
theorem canon_div (a b : Nat) (w w' : World) (ha : a < 18446744073709551616) (hb : b < 18446744073709551616) :
    Calls Tryd.prog 14 #[.int .u64 (fres (Ieee.double.div a b) a b w : Nat)] w' fun r w'' => r = .returned (.int .u64 (dV a b : Nat)) ∧ w' = w'' := by
  refine canon_of _ (dV a b) a b w w' (dV_lt a b) (fun h => ?_) (fun r h => ?_)
  · cases e : dN a b with
    | true => exact (fdiv_none a b ha hb e).2
    | false => rw [fdiv_some a b ha hb e] at h; cases h
  · cases e : dN a b with
    | true => rw [(fdiv_none a b ha hb e).1] at h; cases h
    | false =>
      rw [fdiv_some a b ha hb e] at h
      exact ⟨(Option.some.inj h).symm, dV_kind a b e⟩

end Go.Proofs.YtgegjhkiiejhlaaDoor

