/- Part 18 of the texts. -/
import Derived.Test.YtheepcdlakjdcaaGreatDoorPart17
import Derived.Test.YtheepcdlakjdcaaGreatDoorPart15
import Derived.Test.YtheepcdlakjdcaaGreatDoorPart13
import Derived.Test.YtheepcdlakjdcaaGreatDoorPart12
import Derived.Deep.Cut
import Derived.BigQuiet
import Derived.Test.YtheepcdlakjdcaaGreatDoorPart14
import Derived.Test.YtheepcdlakjdcaaGreatDoorPart11
import Derived.Test.YtheepcdlakjdcaaGreatDoorPart09
import Derived.Deep.RegionHeld3
import Derived.Laws.Cover2
import Derived.Laws.Externs
import Derived.Test.YtheepcdlakjdcaaGreatDoorPart04
import Derived.Laws.FloatArith
/- The reference's calls of layer 1 of numbers at hand, for its Quotient; what holds in Quotient's loop. -/
namespace Go.Proofs.YtheepcdlakjdcaaGreatDoor
open Go.RowKit
/-- What holds in Quotient: its boxes, the quotient's and the rest's numbers. -/
def QSt (w : World) (va vb : Value × Value) (wr : World) (vq : Value × Value) (zq : Int) (vr : Value × Value) (zr : Int) : Prop :=
  Below w.heap.size w wr ∧ Box2 wr w.heap.size va.1 va.2 ∧ Box2 wr (w.heap.size + 1) vb.1 vb.2 ∧ Box2 wr (w.heap.size + 1 + 1) (.bool false) (.slice none 0 0) ∧ Box2 wr (w.heap.size + 1 + 1 + 1) (.bool false) (.slice none 0 0) ∧ Box2 wr (w.heap.size + 1 + 1 + 1 + 1) vq.1 vq.2 ∧ Box2 wr (w.heap.size + 1 + 1 + 1 + 1 + 1) vr.1 vr.2 ∧ IsNum (w.heap.size + 6) wr (.agg #[vq.1, vq.2]) zq ∧ IsNum (w.heap.size + 6) wr (.agg #[vr.1, vr.2]) zr

theorem QSt.below {w wr w' : World} {va vb vq vr : Value × Value} {zq zr : Int} (h : QSt w va vb wr vq zq vr zr) (hb : Below wr.heap.size wr w') : QSt w va vb w' vq zq vr zr := by
  obtain ⟨h0, h1, h2, h3, h4, h5, h6, h7, h8⟩ := h
  exact ⟨h0.trans (hb.mono h0.size), h1.all hb, h2.all hb, h3.all hb, h4.all hb, h5.all hb, h6.all hb, h7.below hb, h8.below hb⟩
/-- The boxes' cells. -/
theorem QSt.cells {w wr : World} {va vb vq vr : Value × Value} {zq zr : Int} (h : QSt w va vb wr vq zq vr zr) :
    (wr.cell? ⟨w.heap.size, 0, none⟩ = some va.1 ∧ wr.cell? ⟨w.heap.size, 1, none⟩ = some va.2) ∧ (wr.cell? ⟨w.heap.size + 1, 0, none⟩ = some vb.1 ∧ wr.cell? ⟨w.heap.size + 1, 1, none⟩ = some vb.2) ∧
    (wr.cell? ⟨w.heap.size + 1 + 1 + 1 + 1, 0, none⟩ = some vq.1 ∧ wr.cell? ⟨w.heap.size + 1 + 1 + 1 + 1, 1, none⟩ = some vq.2 ∧ wr.frozen? ⟨w.heap.size + 1 + 1 + 1 + 1, 0, none⟩ = false ∧ wr.frozen? ⟨w.heap.size + 1 + 1 + 1 + 1, 1, none⟩ = false) ∧
    (wr.cell? ⟨w.heap.size + 1 + 1 + 1 + 1 + 1, 0, none⟩ = some vr.1 ∧ wr.cell? ⟨w.heap.size + 1 + 1 + 1 + 1 + 1, 1, none⟩ = some vr.2 ∧ wr.frozen? ⟨w.heap.size + 1 + 1 + 1 + 1 + 1, 0, none⟩ = false ∧ wr.frozen? ⟨w.heap.size + 1 + 1 + 1 + 1 + 1, 1, none⟩ = false) := by
  obtain ⟨h0, h1, h2, h3, h4, h5, h6, h7, h8⟩ := h
  exact ⟨⟨h1.c0, h1.c1⟩, ⟨h2.c0, h2.c1⟩, ⟨h5.c0, h5.c1, h5.free 0, h5.free 1⟩, ⟨h6.c0, h6.c1, h6.free 0, h6.free 1⟩⟩

end Go.Proofs.YtheepcdlakjdcaaGreatDoor

/- The reference's Quotient. -/
namespace Go.Proofs.YtheepcdlakjdcaaGreatDoor
open Go.RowKit
attribute [local go_sem ↓] Go.wp_at_zero Go.wp_at_succ
theorem QSt.as {w wr : World} {va vb vq vr : Value × Value} {zq zr zq' zr' : Int} (h : QSt w va vb wr vq zq vr zr) (h1 : zq = zq') (h2 : zr = zr') : QSt w va vb wr vq zq' vr zr' := by subst h1 h2; exact h
end Go.Proofs.YtheepcdlakjdcaaGreatDoor

/- The law SumRises, walked. -/
namespace Go.Proofs.YtheepcdlakjdcaaGreatDoor
open Go.RowKit

theorem frombits5 (R : Nat) (W : World) : (callFunc 55 #[.int .u64 R]).run Tryz.prog W = .ok (.value (.float .f64 R)) W := by
  rw [run_callFunc_extern (e := Extern.MathFloatBits.float64frombits) Tryz.func55 (by kernel_rfl) (by kernel_rfl) (by kernel_rfl) (by kernel_rfl)]
  show ((pure (.float .f64 ((R : Int).toNat)) : Sem Value).run Tryz.prog W).andThen (fun v w' => .ok (Next.value v) w') = _
  simp

end Go.Proofs.YtheepcdlakjdcaaGreatDoor

/- The law SumFloats, walked. -/
namespace Go.Proofs.YtheepcdlakjdcaaGreatDoor
open Go.RowKit

/-- What a float operation gives, and the world behind it: where it has no answer, some number that is none is drawn. -/
def fres (o : Option Nat) (x y : Nat) (w : World) : Nat :=
  match o with
  | some r => r
  | none => (Question.nanBits .f64 x y).cut (w.tape w.drawn (.nanBits .f64 x y))
def fwld (o : Option Nat) (w : World) : World :=
  match o with
  | some _ => w
  | none => { w with drawn := w.drawn + 1 }

theorem fadd_run (t : TypeId) (x y : Nat) (w : World) : (binOp .add t (.float .f64 x) (.float .f64 y)).run Tryz.prog w = .ok (.float .f64 (fres (Ieee.double.add x y) x y w)) (fwld (Ieee.double.add x y) w) := by
  have hf : FloatKind.f64.format = Ieee.double := rfl
  cases h : Ieee.double.add x y with
  | some r => exact run_float_arith w .add t .f64 x y r (by unfold floatBits; rw [hf]; exact h)
  | none =>
    simp only [binOp, Op.floatArith, hf, h]
    rfl
theorem fsub_run (t : TypeId) (x y : Nat) (w : World) : (binOp .sub t (.float .f64 x) (.float .f64 y)).run Tryz.prog w = .ok (.float .f64 (fres (Ieee.double.sub x y) x y w)) (fwld (Ieee.double.sub x y) w) := by
  have hf : FloatKind.f64.format = Ieee.double := rfl
  cases h : Ieee.double.sub x y with
  | some r => exact run_float_arith w .sub t .f64 x y r (by unfold floatBits; rw [hf]; exact h)
  | none =>
    simp only [binOp, Op.floatArith, hf, h]
    rfl

theorem below_fwld (o : Option Nat) (w : World) : Below w.heap.size w (fwld o w) := by
  cases o
  · exact (Below.refl _ _).drew
  · exact Below.refl _ _

theorem fres_none (x y : Nat) (w : World) : fres none x y w < 18446744073709551616 ∧ fK (fres none x y w) = 4 := by
  have h : fres none x y w = (w.tape w.drawn (.nanBits .f64 x y) % 2) * 9223372036854775808 + 9218868437227405312 + 1 + (w.tape w.drawn (.nanBits .f64 x y) / 2) % 4503599627370495 := rfl
  rw [h]
  clear h
  generalize w.tape w.drawn (.nanBits .f64 x y) = t
  have h1 := Nat.mod_lt t (show 0 < 2 by decide)
  have h2 := Nat.mod_lt (t / 2) (show 0 < 4503599627370495 by decide)
  generalize t / 2 % 4503599627370495 = u at *
  generalize t % 2 = v at *
  refine ⟨by omega, (fK_rungs _).1.2 ?_⟩
  unfold fR
  obtain rfl | rfl : v = 0 ∨ v = 1 := by omega
  · omega
  · omega

theorem tobits5 (R : Nat) (W : World) : (callFunc 54 #[.float .f64 R]).run Tryz.prog W = .ok (.value (.int .u64 R)) W := by
  rw [run_callFunc_extern (e := Extern.MathFloatBits.float64bits) Tryz.func54 (by kernel_rfl) (by kernel_rfl) (by kernel_rfl) (by kernel_rfl)]
  show ((pure (.int .u64 (R : Int)) : Sem Value).run Tryz.prog W).andThen (fun v w' => .ok (Next.value v) w') = _
  simp

set_option maxRecDepth 20000 in
set_option maxHeartbeats 2000000 in
theorem canon_any (b : Nat) (w : World) (h : b < 18446744073709551616) :
    Calls Tryz.prog 53 #[.int .u64 b] w fun r w' => r = .returned (.int .u64 ((if fK b = 4 then 9221120237041090560 else b : Nat) : Int)) ∧ w = w' := by
  have K := hide (fun w' => rkind_any b w' h)
  have hw : IntKind.u64.wrap (b : Int) = (b : Int) := by simp only [IntKind.wrap_u64]; omega
  by_cases h4 : fK b = 4
  · rw [if_pos h4]
    rw [h4] at K
    clear h4 h
    go_enter Tryz.func53, Tryz.ntmps53
    go_wp2_with fail
    refine (unhide K _).mono ?_
    rintro e w1 ⟨rfl, rfl⟩
    go_wp2
    go_ret
    exact ⟨rfl, rfl⟩
  · rw [if_neg h4]
    have hk : (fK b == 4) = false := by simp [h4]
    generalize fK b = k at *
    clear h4 h
    go_enter Tryz.func53, Tryz.ntmps53
    go_wp2_with fail
    refine (unhide K _).mono ?_
    rintro e w1 ⟨rfl, rfl⟩
    go_wp2
    go_ret
    exact ⟨rfl, rfl⟩

/-- What Go's own sum, by its bits, comes to. -/
theorem canon_add (a b : Nat) (w w' : World) (ha : a < 18446744073709551616) (hb : b < 18446744073709551616) :
    Calls Tryz.prog 53 #[.int .u64 (fres (Ieee.double.add a b) a b w : Nat)] w' fun r w'' => r = .returned (.int .u64 (aV a b : Nat)) ∧ w' = w'' := by
  cases h : aN a b with
  | true =>
    obtain ⟨h1, h2⟩ := fadd_none a b ha hb h
    rw [h1, h2]
    obtain ⟨h3, h4⟩ := fres_none a b w
    have := canon_any _ w' h3
    rw [if_pos h4] at this
    exact this
  | false =>
    rw [fadd_some a b ha hb h]
    have := canon_any (aV a b) w' (aV_lt a b ha hb)
    by_cases h4 : fK (aV a b) = 4
    · exfalso
      have h' := of_decide_eq_false h
      have n4 : ¬ (fK a = 4 ∨ fK b = 4) := fun e => h' (Or.inl e)
      unfold aV at h4
      rw [if_neg n4] at h4
      by_cases a3 : fK a = 3
      · rw [if_pos a3, if_neg (fun h => h' (Or.inr ⟨a3, h.1, h.2⟩))] at h4
        omega
      · rw [if_neg a3] at h4
        by_cases b3 : fK b = 3
        · rw [if_pos b3] at h4; omega
        · rw [if_neg b3] at h4
          have hr := (aV_fin a b (fin_of a a3 (by omega)) (fin_of b b3 (by omega))).1
          have hle := rnd_le (aZ a b).natAbs (-1074)
          have e := (add_f a b a3 (by omega) b3 (by omega)).1
          rw [← e] at h4
          have := (fK_rungs _).1.1 h4
          omega
    · rw [if_neg h4] at this
      exact this

end Go.Proofs.YtheepcdlakjdcaaGreatDoor

/- The law TimesFloats, walked. -/
namespace Go.Proofs.YtheepcdlakjdcaaGreatDoor
open Go.RowKit

theorem fmul_run (t : TypeId) (x y : Nat) (w : World) : (binOp .mul t (.float .f64 x) (.float .f64 y)).run Tryz.prog w = .ok (.float .f64 (fres (Ieee.double.mul x y) x y w)) (fwld (Ieee.double.mul x y) w) := by
  have hf : FloatKind.f64.format = Ieee.double := rfl
  cases h : Ieee.double.mul x y with
  | some r => exact run_float_arith w .mul t .f64 x y r (by unfold floatBits; rw [hf]; exact h)
  | none =>
    simp only [binOp, Op.floatArith, hf, h]
    rfl
theorem wrd_kind (n : Bool) (r : Nat) (h : r ≤ 9218868437227405312) : fK (wrd n r) ≠ 4 := fun h4 => by
  have := (fK_rungs _).1.1 h4
  have e : fR (wrd n r) = r := by unfold fR; exact (wrd_parts n r (by omega)).2
  omega
theorem mV_kind (a b : Nat) (h : mN a b = false) : fK (mV a b) ≠ 4 := by
  have h' := of_decide_eq_false h
  have n4 : ¬ (fK a = 4 ∨ fK b = 4) := fun e => h' (Or.inl e)
  unfold mV
  rw [if_neg n4]
  split
  · rename_i h3
    rw [if_neg (fun h0 => h' (Or.inr ⟨h3, h0⟩))]
    exact wrd_kind _ _ (by decide)
  · exact wrd_kind _ _ (rnd_le _ _)
/-- What Go's own, by its bits, comes to. -/
theorem canon_of (o : Option Nat) (v x y : Nat) (w w' : World) (hv : v < 18446744073709551616) (h1 : o = none → v = 9221120237041090560) (h2 : ∀ r, o = some r → r = v ∧ fK v ≠ 4) :
    Calls Tryz.prog 53 #[.int .u64 (fres o x y w : Nat)] w' fun r w'' => r = .returned (.int .u64 (v : Nat)) ∧ w' = w'' := by
  cases o with
  | none =>
    rw [h1 rfl]
    obtain ⟨h3, h4⟩ := fres_none x y w
    have := canon_any _ w' h3
    rw [if_pos h4] at this
    exact this
  | some r =>
    obtain ⟨rfl, h4⟩ := h2 r rfl
    have := canon_any r w' hv
    rw [if_neg h4] at this
    exact this
theorem canon_mul (a b : Nat) (w w' : World) (ha : a < 18446744073709551616) (hb : b < 18446744073709551616) :
    Calls Tryz.prog 53 #[.int .u64 (fres (Ieee.double.mul a b) a b w : Nat)] w' fun r w'' => r = .returned (.int .u64 (mV a b : Nat)) ∧ w' = w'' := by
  refine canon_of _ (mV a b) a b w w' (mV_lt a b) (fun h => ?_) (fun r h => ?_)
  · cases e : mN a b with
    | true => exact (fmul_none a b ha hb e).2
    | false => rw [fmul_some a b ha hb e] at h; cases h
  · cases e : mN a b with
    | true => rw [(fmul_none a b ha hb e).1] at h; cases h
    | false =>
      rw [fmul_some a b ha hb e] at h
      exact ⟨(Option.some.inj h).symm, mV_kind a b e⟩
end Go.Proofs.YtheepcdlakjdcaaGreatDoor

