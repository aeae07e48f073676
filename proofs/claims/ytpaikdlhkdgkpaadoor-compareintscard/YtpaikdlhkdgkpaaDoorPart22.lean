/- Part 22 of the texts. -/
import Derived.Test.YtpaikdlhkdgkpaaDoorPart20
import Derived.Laws.Cover2
import Derived.Laws.Externs
import Derived.Test.YtpaikdlhkdgkpaaDoorPart03
import Derived.Laws.FloatArith
import Derived.Test.YtpaikdlhkdgkpaaDoorPart21
import Derived.Test.YtpaikdlhkdgkpaaDoorChecked
import Derived.Test.YtpaikdlhkdgkpaaDoorPart01
import Derived.ProofKit
import Derived.SizedLaws
import Derived.Lib.SmallJoins
/- The law SumRises, walked. -/
namespace Go.Proofs.YtpaikdlhkdgkpaaDoor
open Go.RowKit

theorem frombits5 (R : Nat) (W : World) : (callFunc 41 #[.int .u64 R]).run Tryd.prog W = .ok (.value (.float .f64 R)) W := by
  rw [run_callFunc_extern (e := Extern.MathFloatBits.float64frombits) Tryd.func41 (by kernel_rfl) (by kernel_rfl) (by kernel_rfl) (by kernel_rfl)]
  show ((pure (.float .f64 ((R : Int).toNat)) : Sem Value).run Tryd.prog W).andThen (fun v w' => .ok (Next.value v) w') = _
  simp

end Go.Proofs.YtpaikdlhkdgkpaaDoor

/- The law SumFloats, walked. -/
namespace Go.Proofs.YtpaikdlhkdgkpaaDoor
open Go.RowKit

/-- What a float operation gives, and the world behind it: where it has no answer, some number that is none is drawn. -/
def fres (o : Option Nat) (x y : Nat) (w : World) : Nat :=
  match o with
  | some r => r
  | none => (Question.nanBits .f64 x y).cut (w.tape w.drawn (.nanBits .f64 x y))
def fwld (o : Option Nat) (w : World) : World :=
  match o with
  | some _ => w
  | none => { w with drawn := w.drawn + 1 }

theorem fadd_run (t : TypeId) (x y : Nat) (w : World) : (binOp .add t (.float .f64 x) (.float .f64 y)).run Tryd.prog w = .ok (.float .f64 (fres (Ieee.double.add x y) x y w)) (fwld (Ieee.double.add x y) w) := by
  have hf : FloatKind.f64.format = Ieee.double := rfl
  cases h : Ieee.double.add x y with
  | some r => exact run_float_arith w .add t .f64 x y r (by unfold floatBits; rw [hf]; exact h)
  | none =>
    simp only [binOp, Op.floatArith, hf, h]
    rfl
theorem fsub_run (t : TypeId) (x y : Nat) (w : World) : (binOp .sub t (.float .f64 x) (.float .f64 y)).run Tryd.prog w = .ok (.float .f64 (fres (Ieee.double.sub x y) x y w)) (fwld (Ieee.double.sub x y) w) := by
  have hf : FloatKind.f64.format = Ieee.double := rfl
  cases h : Ieee.double.sub x y with
  | some r => exact run_float_arith w .sub t .f64 x y r (by unfold floatBits; rw [hf]; exact h)
  | none =>
    simp only [binOp, Op.floatArith, hf, h]
    rfl

theorem below_fwld (o : Option Nat) (w : World) : Below w.heap.size w (fwld o w) := by
  cases o
  · exact (Below.refl _ _).drew
  · exact Below.refl _ _

theorem fres_none (x y : Nat) (w : World) : fres none x y w < 18446744073709551616 ∧ fK (fres none x y w) = 4 := by
  have h : fres none x y w = (w.tape w.drawn (.nanBits .f64 x y) % 2) * 9223372036854775808 + 9218868437227405312 + 1 + (w.tape w.drawn (.nanBits .f64 x y) / 2) % 4503599627370495 := rfl
  rw [h]
  clear h
  generalize w.tape w.drawn (.nanBits .f64 x y) = t
  have h1 := Nat.mod_lt t (show 0 < 2 by decide)
  have h2 := Nat.mod_lt (t / 2) (show 0 < 4503599627370495 by decide)
  generalize t / 2 % 4503599627370495 = u at *
  generalize t % 2 = v at *
  refine ⟨by omega, (fK_rungs _).1.2 ?_⟩
  unfold fR
  obtain rfl | rfl : v = 0 ∨ v = 1 := by omega
  · omega
  · omega

theorem tobits5 (R : Nat) (W : World) : (callFunc 22 #[.float .f64 R]).run Tryd.prog W = .ok (.value (.int .u64 R)) W := by
  rw [run_callFunc_extern (e := Extern.MathFloatBits.float64bits) Tryd.func22 (by kernel_rfl) (by kernel_rfl) (by kernel_rfl) (by kernel_rfl)]
  show ((pure (.int .u64 (R : Int)) : Sem Value).run Tryd.prog W).andThen (fun v w' => .ok (Next.value v) w') = _
  simp

set_option maxRecDepth 20000 in
set_option maxHeartbeats 2000000 in
theorem canon_any (b : Nat) (w : World) (h : b < 18446744073709551616) :
    Calls Tryd.prog 21 #[.int .u64 b] w fun r w' => r = .returned (.int .u64 ((if fK b = 4 then 9221120237041090560 else b : Nat) : Int)) ∧ w = w' := by
  have K := hide (fun w' => rkind_any b w' h)
  have hw : IntKind.u64.wrap (b : Int) = (b : Int) := by simp only [IntKind.wrap_u64]; omega
  by_cases h4 : fK b = 4
  · rw [if_pos h4]
    rw [h4] at K
    clear h4 h
    go_enter Tryd.func21, Tryd.ntmps21
    go_wp2_with fail
    refine (unhide K _).mono ?_
    rintro e w1 ⟨rfl, rfl⟩
    go_wp2
    go_ret
    exact ⟨rfl, rfl⟩
  · rw [if_neg h4]
    have hk : (fK b == 4) = false := by simp [h4]
    generalize fK b = k at *
    clear h4 h
    go_enter Tryd.func21, Tryd.ntmps21
    go_wp2_with fail
    refine (unhide K _).mono ?_
    rintro e w1 ⟨rfl, rfl⟩
    go_wp2
    go_ret
    exact ⟨rfl, rfl⟩

/-- What Go's own sum, by its bits, comes to. -/
theorem canon_add (a b : Nat) (w w' : World) (ha : a < 18446744073709551616) (hb : b < 18446744073709551616) :
    Calls Tryd.prog 21 #[.int .u64 (fres (Ieee.double.add a b) a b w : Nat)] w' fun r w'' => r = .returned (.int .u64 (aV a b : Nat)) ∧ w' = w'' := by
  cases h : aN a b with
  | true =>
    obtain ⟨h1, h2⟩ := fadd_none a b ha hb h
    rw [h1, h2]
    obtain ⟨h3, h4⟩ := fres_none a b w
    have := canon_any _ w' h3
    rw [if_pos h4] at this
    exact this
  | false =>
    rw [fadd_some a b ha hb h]
    have := canon_any (aV a b) w' (aV_lt a b ha hb)
    by_cases h4 : fK (aV a b) = 4
    · exfalso
      have h' := of_decide_eq_false h
      have n4 : ¬ (fK a = 4 ∨ fK b = 4) := fun e => h' (Or.inl e)
      unfold aV at h4
      rw [if_neg n4] at h4
      by_cases a3 : fK a = 3
      · rw [if_pos a3, if_neg (fun h => h' (Or.inr ⟨a3, h.1, h.2⟩))] at h4
        omega
      · rw [if_neg a3] at h4
        by_cases b3 : fK b = 3
        · rw [if_pos b3] at h4; omega
        · rw [if_neg b3] at h4
          have hr := (aV_fin a b (fin_of a a3 (by omega)) (fin_of b b3 (by omega))).1
          have hle := rnd_le (aZ a b).natAbs (-1074)
          have e := (add_f a b a3 (by omega) b3 (by omega)).1
          rw [← e] at h4
          have := (fK_rungs _).1.1 h4
          omega
    · rw [if_neg h4] at this
      exact this

end Go.Proofs.YtpaikdlhkdgkpaaDoor

/- The laws CompareOrders, CompareBack, walked. -/
namespace Go.Proofs.YtpaikdlhkdgkpaaDoor
open Go.RowKit

set_option maxRecDepth 20000 in
set_option maxHeartbeats 2000000 in
theorem float8_any (b : Nat) (w : World) (_h : b < 18446744073709551616) :
    Calls Tryd.prog 11 #[.int .u64 b] w fun r w' => r = .returned (.float .f64 b) ∧ w = w' := by
  have hF := fun W => frombits5 b W
  have hw : IntKind.u64.wrap (b : Int) = (b : Int) := by simp only [IntKind.wrap_u64]; omega
  go_enter Tryd.func11, Tryd.ntmps11
  go_wp2
  go_ret
  exact ⟨rfl, rfl⟩

set_option maxRecDepth 20000 in
set_option maxHeartbeats 8000000 in
theorem compareOrders_ways (a b M R : Nat) (n : Int) (t l q : Bool) (o : Option Ordering) (w : World) (hT : Tab w)
    (hO : FloatKind.f64.format.order a b = o)
    (hw : (o = none ∧ n = 0 ∧ t = false ∧ l = false ∧ q = false) ∨ (o = some .lt ∧ n = -1 ∧ t = true ∧ l = true ∧ q = false) ∨ (o = some .eq ∧ n = 0 ∧ t = true ∧ l = false ∧ q = true) ∨ (o = some .gt ∧ n = 1 ∧ t = true ∧ l = false ∧ q = false))
    (C1 : Calls Tryd.prog 9 #[.int .u64 a, .int .u64 b] w fun r w' => r = .returned (.tuple #[.int .i64 n, .bool t]) ∧ Below w.heap.size w w')
    (C2 : ∀ w', Calls Tryd.prog 10 #[.int .u64 a, .int .u64 b] w' fun r w'' => r = .returned (.tuple #[.int .i64 n, .bool t]) ∧ Below w'.heap.size w' w'')
    (F1 : ∀ w', Calls Tryd.prog 11 #[.int .u64 a] w' fun r w'' => r = .returned (.float .f64 a) ∧ w' = w'')
    (F2 : ∀ w', Calls Tryd.prog 11 #[.int .u64 b] w' fun r w'' => r = .returned (.float .f64 b) ∧ w' = w'')
    (C3 : ∀ w', Calls Tryd.prog 12 #[.int .u64 a, .int .u64 b] w' fun r w'' => r = .returned (.bool l) ∧ Below w'.heap.size w' w'')
    (C4 : ∀ w', Calls Tryd.prog 13 #[.int .u64 a, .int .u64 b] w' fun r w'' => r = .returned (.bool q) ∧ Below w'.heap.size w' w'')
    (C5 : ∀ w', Calls Tryd.prog 14 #[.int .u64 a, .int .u64 b] w' fun r w'' => r = .returned (.int .u64 (M : Nat)) ∧ Below w'.heap.size w' w'')
    (C6 : ∀ w', Calls Tryd.prog 15 #[.int .u64 a, .int .u64 b] w' fun r w'' => r = .returned (.int .u64 (M : Nat)) ∧ Below w'.heap.size w' w'')
    (C7 : ∀ w', Calls Tryd.prog 16 #[.int .u64 a] w' fun r w'' => r = .returned (.int .u64 (R : Nat)) ∧ Below w'.heap.size w' w'')
    (C8 : ∀ w', Calls Tryd.prog 17 #[.int .u64 a] w' fun r w'' => r = .returned (.int .u64 (R : Nat)) ∧ w' = w'') :
    Calls Tryd.prog 3 #[.int .u64 a, .int .u64 b] w fun r w' => r = .returned (.bool true) ∧ Below w.heap.size w w' := by
  have K1 := hide C1; have K2 := hide C2; have K3 := hide C3; have K4 := hide C4; have K5 := hide C5; have K6 := hide C6; have K7 := hide C7; have K8 := hide C8; have L1 := hide F1; have L2 := hide F2; have HT := hide hT
  have KA := hide (fun w' t => awake8_any w' t)
  clear C1 C2 C3 C4 C5 C6 C7 C8 F1 F2 hT
  go_enter Tryd.func3, Tryd.ntmps3
  go_wp2_with fail
  refine Calls.mono (unhide K1) ?_
  rintro e w1 ⟨rfl, hb1⟩
  have B := hide hb1
  clear hb1 K1
  go_wp2_with fail
  refine (unhide K2 _).mono ?_
  rintro e w2 ⟨rfl, hb1⟩
  have B := hide ((unhide B).trans (hb1.mono (unhide B).size))
  clear hb1 K2
  go_wp2_with fail
  refine (unhide L1 _).mono ?_
  rintro e w2 ⟨rfl, rfl⟩
  go_wp2_with fail
  refine (unhide L2 _).mono ?_
  rintro e w2 ⟨rfl, rfl⟩
  clear L1 L2
  rcases hw with ⟨rfl, rfl, rfl, rfl, rfl⟩ | ⟨rfl, rfl, rfl, rfl, rfl⟩ | ⟨rfl, rfl, rfl, rfl, rfl⟩ | ⟨rfl, rfl, rfl, rfl, rfl⟩
  all_goals
    go_wp2_with fail
    refine (unhide K3 _).mono ?_
    rintro e w3 ⟨rfl, hb1⟩
    have B := hide ((unhide B).trans (hb1.mono (unhide B).size))
    clear hb1 K3
    go_wp2_with fail
    refine (unhide K4 _).mono ?_
    rintro e w4 ⟨rfl, hb1⟩
    have B := hide ((unhide B).trans (hb1.mono (unhide B).size))
    clear hb1 K4
    go_wp2_with fail
    refine (unhide K5 _).mono ?_
    rintro e w5 ⟨rfl, hb1⟩
    have B := hide ((unhide B).trans (hb1.mono (unhide B).size))
    clear hb1 K5
    go_wp2_with fail
    refine (unhide K6 _).mono ?_
    rintro e w6 ⟨rfl, hb1⟩
    have B := hide ((unhide B).trans (hb1.mono (unhide B).size))
    clear hb1 K6
    go_wp2_with fail
    refine (unhide K7 _).mono ?_
    rintro e w7 ⟨rfl, hb1⟩
    have B := hide ((unhide B).trans (hb1.mono (unhide B).size))
    clear hb1 K7
    go_wp2_with fail
    refine (unhide K8 _).mono ?_
    rintro e w7 ⟨rfl, rfl⟩
    clear K8
    go_wp2_with fail
    refine (unhide KA _ ((unhide HT).all (unhide B))).mono ?_
    rintro e w9 ⟨rfl, hb1⟩
    have B := hide ((unhide B).trans (hb1.mono (unhide B).size))
    clear hb1 KA
    go_wp2
    go_ret
    exact ⟨rfl, unhide B⟩

theorem order_ways8 (a b : Nat) (ha : a < 18446744073709551616) (hb : b < 18446744073709551616) :
    ∃ l q, (Ieee.double.order a b = none ∧ cO a b = 0 ∧ cB a b = false ∧ l = false ∧ q = false) ∨ (Ieee.double.order a b = some .lt ∧ cO a b = -1 ∧ cB a b = true ∧ l = true ∧ q = false) ∨ (Ieee.double.order a b = some .eq ∧ cO a b = 0 ∧ cB a b = true ∧ l = false ∧ q = true) ∨ (Ieee.double.order a b = some .gt ∧ cO a b = 1 ∧ cB a b = true ∧ l = false ∧ q = false) := by
  by_cases h : fK a = 4 ∨ fK b = 4
  · refine ⟨false, false, .inl ⟨order_nan a b ha hb h, ?_, ?_, rfl, rfl⟩⟩
    · unfold cO; rw [if_pos h]
    · unfold cB; rw [if_pos h]
  · have e := order_bits a b ha hb (fun e => h (.inl e)) (fun e => h (.inr e))
    have e1 : cO a b = cmpI (fZ a) (fZ b) := by unfold cO; rw [if_neg h]
    have e2 : cB a b = true := by unfold cB; rw [if_neg h]
    rw [e, e1, e2]
    rcases (show fZ a < fZ b ∨ fZ a = fZ b ∨ fZ b < fZ a by omega) with g | g | g
    · exact ⟨true, false, .inr (.inl ⟨by rw [Int.compare_eq_lt.2 g], cmpI8_lt g, rfl, rfl, rfl⟩)⟩
    · exact ⟨false, true, .inr (.inr (.inl ⟨by rw [Int.compare_eq_eq.2 g], cmpI8_eq g, rfl, rfl, rfl⟩))⟩
    · exact ⟨false, false, .inr (.inr (.inr ⟨by rw [Int.compare_eq_gt.2 g], cmpI8_gt g, rfl, rfl, rfl⟩))⟩

theorem compareOrders_walk (a b : Nat) (w : World) (ha : a < 18446744073709551616) (hb : b < 18446744073709551616) (hT : Tab w) :
    Calls Tryd.prog 3 #[.int .u64 a, .int .u64 b] w fun r w' => r = .returned (.bool true) ∧ Below w.heap.size w w' := by
  obtain ⟨l, q, hw⟩ := order_ways8 a b ha hb
  have C1 := fun w' => corder_any a b w' ha hb
  have C2 := fun w' => rorder_any a b w' ha hb
  have hv : (cO a b = 0 ∧ cB a b = false ∧ l = false ∧ q = false) ∨ (cO a b = -1 ∧ cB a b = true ∧ l = true ∧ q = false) ∨ (cO a b = 0 ∧ cB a b = true ∧ l = false ∧ q = true) ∨ (cO a b = 1 ∧ cB a b = true ∧ l = false ∧ q = false) := by
    rcases hw with h | h | h | h
    · exact .inl h.2
    · exact .inr (.inl h.2)
    · exact .inr (.inr (.inl h.2))
    · exact .inr (.inr (.inr h.2))
  exact compareOrders_ways a b (cM a b l (cB a b)) (fR a) _ _ l q _ w hT rfl hw (C1 w) C2 (fun w' => float8_any a w' ha) (fun w' => float8_any b w' hb)
    (fun w' => less_of a b _ _ l q w' hv C1) (fun w' => equal_of a b _ _ l q w' hv C1) (fun w' => max_of a b _ _ l q w' hv C1) (fun w' => rmax_of a b _ _ l q w' hv C2) (fun w' => cabs_any a w' ha) (fun w' => r8abs_any a w' ha)

set_option maxRecDepth 20000 in
set_option maxHeartbeats 4000000 in
theorem compareBack_out (a : Nat) (n p : Int) (w : World) (hT : Tab w) (hw : p < 700 ∨ 1300 < p) (hp : 0 ≤ p ∧ p ≤ 2047)
    (C1 : ∀ w', Calls Tryd.prog 34 #[.int .u64 a] w' fun r w'' => r = .returned (.int .i64 p) ∧ w' = w'') :
    Calls Tryd.prog 8 #[.int .u64 a, .int .i64 n] w fun r w' => r = .returned (.bool true) ∧ Below w.heap.size w w' := by
  have K1 := hide C1; have HT := hide hT
  have KA := hide (fun w' t => awake8_any w' t)
  clear C1 hT
  rcases hw with h | h
  · have g : decide (p < 700) = true := decide_eq_true h
    go_enter Tryd.func8, Tryd.ntmps8
    go_wp2_with fail
    refine (unhide K1 _).mono ?_
    rintro e w1 ⟨rfl, rfl⟩
    go_wp2_with fail
    refine (unhide KA _ (unhide HT)).mono ?_
    rintro e w9 ⟨rfl, hb1⟩
    clear KA HT K1
    go_wp2
    go_ret
    exact ⟨rfl, hb1⟩
  · have g : decide (p < 700) = false := decide_eq_false (by omega)
    have g2 : decide (1300 < p) = true := decide_eq_true h
    go_enter Tryd.func8, Tryd.ntmps8
    go_wp2_with fail
    refine (unhide K1 _).mono ?_
    rintro e w1 ⟨rfl, rfl⟩
    go_wp2_with fail
    refine (unhide K1 _).mono ?_
    rintro e w1 ⟨rfl, rfl⟩
    go_wp2_with fail
    refine (unhide KA _ (unhide HT)).mono ?_
    rintro e w9 ⟨rfl, hb1⟩
    clear KA HT K1
    go_wp2
    go_ret
    exact ⟨rfl, hb1⟩

set_option maxRecDepth 20000 in
set_option maxHeartbeats 4000000 in
theorem compareBack_in (a s : Nat) (n p z x y : Int) (w : World) (hT : Tab w) (hp : 700 ≤ p ∧ p ≤ 1300) (hz : (IntKind.u64.wrap n).tmod 1201 = z) (z0 : 0 ≤ z) (z1 : z < 1201) (hxy : x = y + (z - 600)) (hx : -2000 ≤ x ∧ x ≤ 2000)
    (C1 : ∀ w', Calls Tryd.prog 34 #[.int .u64 a] w' fun r w'' => r = .returned (.int .i64 p) ∧ w' = w'')
    (C2 : ∀ w', Tab w' → Calls Tryd.prog 19 #[.int .u64 a, .int .i64 (z - 600)] w' fun r w'' => r = .returned (.tuple #[.int .u64 (s : Nat), .int .u8 0]) ∧ Below w'.heap.size w' w'')
    (C3 : ∀ w', Tab w' → Calls Tryd.prog 19 #[.int .u64 (s : Nat), .int .i64 (-(z - 600))] w' fun r w'' => r = .returned (.tuple #[.int .u64 (a : Nat), .int .u8 0]) ∧ Below w'.heap.size w' w'')
    (C4 : ∀ w', Tab w' → Calls Tryd.prog 30 #[.int .u64 (s : Nat)] w' fun r w'' => r = .returned (.int .i64 x) ∧ Below w'.heap.size w' w'')
    (C5 : ∀ w', Tab w' → Calls Tryd.prog 30 #[.int .u64 (a : Nat)] w' fun r w'' => r = .returned (.int .i64 y) ∧ Below w'.heap.size w' w'') :
    Calls Tryd.prog 8 #[.int .u64 a, .int .i64 n] w fun r w' => r = .returned (.bool true) ∧ Below w.heap.size w w' := by
  have K1 := hide C1; have K2 := hide C2; have K3 := hide C3; have K4 := hide C4; have K5 := hide C5; have HT := hide hT
  have KA := hide (fun w' t => awake8_any w' t)
  clear C1 C2 C3 C4 C5 hT
  have g : decide (p < 700) = false := decide_eq_false (by omega)
  have g2 : decide (1300 < p) = false := decide_eq_false (by omega)
  have y0 : -4000 ≤ y := by omega
  have y1 : y ≤ 4000 := by omega
  subst hxy
  clear hx hp
  go_enter Tryd.func8, Tryd.ntmps8
  go_wp2_with fail
  refine (unhide K1 _).mono ?_
  rintro e w1 ⟨rfl, rfl⟩
  go_wp2_with fail
  refine (unhide K1 _).mono ?_
  rintro e w1 ⟨rfl, rfl⟩
  go_wp2_with fail
  refine (unhide K2 _ (unhide HT)).mono ?_
  rintro e w1 ⟨rfl, hb1⟩
  have B := hide hb1
  clear hb1 K2 K1
  go_wp2_with fail
  refine (unhide K3 _ ((unhide HT).all (unhide B))).mono ?_
  rintro e w2 ⟨rfl, hb1⟩
  have B := hide ((unhide B).trans (hb1.mono (unhide B).size))
  clear hb1 K3
  go_wp2_with fail
  refine (unhide K4 _ ((unhide HT).all (unhide B))).mono ?_
  rintro e w3 ⟨rfl, hb1⟩
  have B := hide ((unhide B).trans (hb1.mono (unhide B).size))
  clear hb1 K4
  go_wp2_with fail
  refine (unhide K5 _ ((unhide HT).all (unhide B))).mono ?_
  rintro e w4 ⟨rfl, hb1⟩
  have B := hide ((unhide B).trans (hb1.mono (unhide B).size))
  clear hb1 K5
  go_wp2_with fail
  refine (unhide KA _ ((unhide HT).all (unhide B))).mono ?_
  rintro e w9 ⟨rfl, hb1⟩
  have B := hide ((unhide B).trans (hb1.mono (unhide B).size))
  clear hb1 KA
  go_wp2
  go_ret
  exact ⟨rfl, unhide B⟩

/-- A normal number times 2^n, where it stays normal: no flag, its power n more. -/
theorem back8_facts (a : Nat) (n : Int) (ha : a < 18446744073709551616) (h1 : 1 ≤ fP a ∧ fP a ≤ 2046) (hn : 1 ≤ (fP a : Int) + n ∧ (fP a : Int) + n ≤ 2046) :
    xF a n = 0 ∧ fP (xV a n) = (((fP a : Nat) : Int) + n).toNat ∧ fF (xV a n) = fF a ∧ fS (xV a n) = fS a ∧ xV a n < 18446744073709551616 := by
  have hR : fR a / 4503599627370496 = fP a := rfl
  have hK : fK a = 2 := by unfold fK; rw [if_neg (by omega), if_neg (by omega)]
  have fa : fFin a = true := decide_eq_true (by omega)
  obtain ⟨z1, z2, z3, z4, z5, z6, z7, z8, z9⟩ := sc_facts a ha fa (by omega)
  obtain ⟨β, x1, x2, x3, x4⟩ := odd_mag a ha fa (by omega)
  have hr : 4503599627370496 ≤ fR a := by omega
  have hg := gM_rv (fR a) hr
  have hb1 : bl (rv (fR a)) = 53 + (fP a - 1) := by rw [hg, bl_scale _ _ (gM_ne _), gM_bl, hR]
  have hb2 : bl (rv (fR a)) = bl (fD a).natAbs + β := by rw [x2]; exact bl_scale _ _ z3
  have hb3 := bl_le53 z2
  have e1 : xF a n = rflag (fD a).natAbs (fX a + n) := by unfold xF; rw [if_neg (by omega), if_neg (by omega)]
  have e2 : xV a n = wrd (fS a) (rnd (fD a).natAbs (fX a + n)) := by unfold xV; rw [if_neg (by omega), if_neg (by omega)]
  have e3 : rnd (fD a).natAbs (fX a + n) = rnd (rv (fR a)) (n - 1074) := by
    rw [x2, rnd_scale]; congr 1; omega
  have e4 := scale_normal (fR a) n (n + (fP a : Int) - 1023) hr (by rw [hR])
  have e5 := scale_mid (fR a) (n + (fP a : Int) - 1023) (by omega) (by omega)
  have hF : fR a % 4503599627370496 = fF a := by unfold fR fF; omega
  have hFl := fF_lt a
  rw [hF] at e5
  have e6 : rnd (fD a).natAbs (fX a + n) = fF a + (((fP a : Nat) : Int) + n).toNat * 4503599627370496 := by
    rw [e3, e4, e5]; congr 2; omega
  obtain ⟨P, hP⟩ : ∃ P : Nat, P = (((fP a : Nat) : Int) + n).toNat := ⟨_, rfl⟩
  rw [← hP] at e6 ⊢
  have hP2 : 1 ≤ P ∧ P ≤ 2046 := by omega
  have hlt : fF a + P * 4503599627370496 < 9223372036854775808 := by omega
  refine ⟨?_, ?_, ?_, ?_, ?_⟩
  · rw [e1]
    unfold rflag
    rw [if_neg z3, if_neg (by omega), if_pos (by unfold lastE; omega)]
  · rw [e2, e6]
    have := fR_wrd (fS a) _ hlt
    have h3 : fP (wrd (fS a) (fF a + P * 4503599627370496)) = fR (wrd (fS a) (fF a + P * 4503599627370496)) / 4503599627370496 := rfl
    rw [h3, this]
    omega
  · rw [e2, e6]
    have := fR_wrd (fS a) _ hlt
    have h3 : fF (wrd (fS a) (fF a + P * 4503599627370496)) = fR (wrd (fS a) (fF a + P * 4503599627370496)) % 4503599627370496 := by unfold fF fR; omega
    rw [h3, this]
    omega
  · rw [e2, e6]; exact fS_wrd _ _ hlt
  · exact xV_lt a n ha

theorem bits_of (a : Nat) (ha : a < 18446744073709551616) : a = wrd (fS a) (fF a + fP a * 4503599627370496) := by
  have h := b_wrd a ha
  have e : fF a + fP a * 4503599627370496 = fR a := by unfold fF fP fR; omega
  rw [e, h]

theorem eX_normal (a : Nat) (ha : a < 18446744073709551616) (h1 : 1 ≤ fP a ∧ fP a ≤ 2046) : eX a = (fP a : Int) - 1023 := by
  have hR : fR a / 4503599627370496 = fP a := rfl
  have hK : fK a = 2 := by unfold fK; rw [if_neg (by omega), if_neg (by omega)]
  have fa : fFin a = true := decide_eq_true (by omega)
  obtain ⟨z1, z2, z3, z4, z5, z6, z7, z8, z9⟩ := sc_facts a ha fa (by omega)
  obtain ⟨β, x1, x2, x3, x4⟩ := odd_mag a ha fa (by omega)
  have hg := gM_rv (fR a) (by omega)
  have hb1 : bl (rv (fR a)) = 53 + (fP a - 1) := by rw [hg, bl_scale _ _ (gM_ne _), gM_bl, hR]
  have hb2 : bl (rv (fR a)) = bl (fD a).natAbs + β := by rw [x2]; exact bl_scale _ _ z3
  unfold eX
  rw [if_neg (by omega)]
  omega

theorem compareBack_walk (a : Nat) (n : Int) (w : World) (ha : a < 18446744073709551616) (hT : Tab w) :
    Calls Tryd.prog 8 #[.int .u64 a, .int .i64 n] w fun r w' => r = .returned (.bool true) ∧ Below w.heap.size w w' := by
  have C1 := fun w' => rpower_any a w' ha
  have hl := fP_lt a
  by_cases h : fP a < 700 ∨ 1300 < fP a
  · exact compareBack_out a n (fP a) w hT (by omega) (by omega) C1
  · obtain ⟨z, hz⟩ : ∃ z, (IntKind.u64.wrap n).tmod 1201 = z := ⟨_, rfl⟩
    have hz2 : 0 ≤ z ∧ z < 1201 := by
      rw [← hz]
      have h0 : 0 ≤ IntKind.u64.wrap n := by simp only [IntKind.wrap_u64]; omega
      rw [Int.tmod_eq_emod_of_nonneg h0]
      omega
    obtain ⟨b1, b2, b3, b4, b5⟩ := back8_facts a (z - 600) ha (by omega) (by omega)
    have C2 : ∀ w', Tab w' → _ := fun w' t => cscale_any a (z - 600) w' ha t
    rw [b1] at C2
    generalize xV a (z - 600) = s at *
    have C3 : ∀ w', Tab w' → _ := fun w' t => cscale_any s (-(z - 600)) w' b5 t
    obtain ⟨c1, c2, c3, c4, c5⟩ := back8_facts s (-(z - 600)) b5 (by omega) (by omega)
    have e6 : xV s (-(z - 600)) = a := by
      rw [bits_of _ c5, c2, c3, c4, b3, b4, show (((fP s : Nat) : Int) + -(z - 600)).toNat = fP a by omega]
      exact (bits_of a ha).symm
    rw [c1, e6] at C3
    have ea := eX_normal a ha (by omega)
    have es := eX_normal s b5 (by omega)
    exact compareBack_in a s n (fP a) z (eX s) (eX a) w hT (by omega) hz hz2.1 hz2.2 (by rw [ea, es]; omega) (by rw [es]; omega) C1 C2 C3 (fun w' t => cexp_any s w' b5 t) (fun w' t => cexp_any a w' ha t)

end Go.Proofs.YtpaikdlhkdgkpaaDoor

/- Whole numbers as Go's own conversion makes them floats; the law CompareInts, walked. -/
namespace Go.Proofs.YtpaikdlhkdgkpaaDoor
open Go.RowKit

theorem conv_iV (n : Int) : floatOfInt .f64 n = iV n := by
  have h : floatOfInt .f64 n = Ieee.double.nearest (decide (n < 0)) n.natAbs 0 := rfl
  rw [h, nearest_wrd]
  rfl

theorem oM8_abs (n : Int) (h0 : n ≠ 0) : (oM n).natAbs * 2 ^ (oE n 0).toNat = n.natAbs := by
  have h := oM_level n 0 h0
  rw [Int.sub_zero] at h
  have h2 := congrArg Int.natAbs h
  rw [Int.natAbs_mul, Int.natAbs_pow] at h2
  exact h2
theorem oE_pos (n : Int) (h0 : n ≠ 0) : 0 ≤ oE n 0 := by rw [oE_ne _ _ h0]; omega

theorem int53 (n : Int) (h0 : n ≠ 0) (h : -9007199254740992 ≤ n ∧ n ≤ 9007199254740992) : (oM n).natAbs < 9007199254740992 ∧ (oM n).natAbs ≠ 0 ∧ oE n 0 ≤ 64 := by
  have h1 := oM_ne n h0
  have h2 := oM8_abs n h0
  have h3 := oM_le n
  have h4 := int_tz n (by omega) h0
  have h5 : oE n 0 = 0 + (tz n.natAbs : Int) := oE_ne n 0 h0
  refine ⟨?_, by omega, by omega⟩
  have h6 : (oM n).natAbs % 2 = 1 := by omega
  omega

theorem pow_add8 (v i K : Nat) (E : Int) (hE : E = (i : Nat)) (hK : K = 1074) : v * 2 ^ (E + 1074).toNat = v * 2 ^ i * 2 ^ K := by
  rw [Nat.mul_assoc, ← Nat.pow_add, hE, show (((i : Nat) : Int) + 1074).toNat = i + K by omega]

/-- Of at most 53 bits: no flag, and the value is the number. -/
theorem int_back (n : Int) (h : -9007199254740992 ≤ n ∧ n ≤ 9007199254740992) : iF n = 0 ∧ tB8 (iV n) = true ∧ tI (iV n) = n := by
  by_cases h0 : n = 0
  · subst h0
    decide +kernel
  obtain ⟨m1, m2, m3⟩ := int53 n h0 h
  have e0 := oE_pos n h0
  have hb := bl_le53 m1
  obtain ⟨r1, r2⟩ := rnd_odd n 0
  obtain ⟨r3, r4⟩ := r2 h0
  have hl : lastE (oM n).natAbs (oE n 0) ≤ oE n 0 := by unfold lastE; omega
  have ht : (bl (oM n).natAbs : Int) + oE n 0 ≤ 1024 := by omega
  have hlt := rnd_exact_lt _ _ m2 ht hl
  have hv := rv_exact _ _ m2 ht hl
  obtain ⟨K, hK⟩ : ∃ K : Nat, K = 1074 := ⟨_, rfl⟩
  rw [pow_add8 _ (oE n 0).toNat K (oE n 0) (by omega) hK, oM8_abs n h0, r1] at hv
  rw [r1] at hlt
  have hfin : fFin (iV n) = true := (fK_rungs _).2.2.2 (by unfold iV; rw [fR_wrd _ _ (by omega)]; exact hlt)
  have hZ : fZ (iV n) = n * 2 ^ K := by
    unfold iV
    rw [fZ_wrd _ _ (by omega)]
    unfold pv
    rw [hv]
    by_cases hn : n < 0
    · rw [decide_eq_true hn, if_pos rfl]
      have : (n.natAbs : Int) = -n := by omega
      rw [Int.natCast_mul, this, Int.natCast_pow]
      simp [Int.neg_mul]
    · rw [decide_eq_false hn, if_neg (by decide)]
      have : (n.natAbs : Int) = n := by omega
      rw [Int.natCast_mul, this, Int.natCast_pow]
      rfl
  obtain ⟨d1, d2⟩ := fZ_level (iV n) (iV_lt n) hfin
  obtain ⟨s1, s2⟩ := oM_scale n K (-1074)
  rw [hZ, s1] at d1
  rw [hZ, s2, show (-1074 : Int) + (K : Int) = 0 by omega] at d2
  have hI : tI (iV n) = n := by
    unfold tI shI
    rw [← d1, ← d2, if_pos e0, oM8_abs n h0]
    have hs := oM_sign n
    by_cases hn : n < 0
    · rw [decide_eq_true hn] at hs
      rw [if_pos (of_decide_eq_true hs)]; omega
    · rw [decide_eq_false hn] at hs
      rw [if_neg (of_decide_eq_false hs)]; omega
  refine ⟨?_, ?_, hI⟩
  · unfold iF rflag
    rw [if_neg m2, if_neg (by omega), if_pos hl]
  · unfold tB8
    rw [hfin, hI, Bool.true_and]
    exact decide_eq_true (by omega)

set_option maxRecDepth 20000 in
set_option maxHeartbeats 4000000 in
theorem compareInts_ways (q : Nat) (n f m e : Int) (w : World) (hT : Tab w) (hq : q < 18446744073709551616) (hC : floatOfInt .f64 n = q)
    (hw : n < -9007199254740992 ∨ 9007199254740992 < n ∨ (-9007199254740992 ≤ n ∧ n ≤ 9007199254740992 ∧ m = n ∧ e = 0 ∧ f = 0))
    (C1 : Calls Tryd.prog 24 #[.int .i64 n] w fun r w' => r = .returned (.tuple #[.int .u64 (q : Nat), .int .u8 f]) ∧ Below w.heap.size w w')
    (C2 : ∀ w', Calls Tryd.prog 25 #[.int .i64 n] w' fun r w'' => r = .returned (.tuple #[.int .u64 (q : Nat), .int .u8 f]) ∧ Below w'.heap.size w' w'')
    (C3 : ∀ w', Tab w' → Calls Tryd.prog 26 #[.int .u64 (q : Nat)] w' fun r w'' => r = .returned (.tuple #[.int .i64 m, .int .i64 e]) ∧ Below w'.heap.size w' w'') :
    Calls Tryd.prog 5 #[.int .i64 n] w fun r w' => r = .returned (.bool true) ∧ Below w.heap.size w w' := by
  have K1 := hide C1; have K2 := hide C2; have K3 := hide C3; have HT := hide hT
  have KA := hide (fun w' t => awake8_any w' t)
  have hB := fun W => tobits5 q W
  have hwr : IntKind.u64.wrap (q : Int) = (q : Int) := by simp only [IntKind.wrap_u64]; omega
  clear C1 C2 C3 hT
  go_enter Tryd.func5, Tryd.ntmps5
  go_wp2_with fail
  refine Calls.mono (unhide K1) ?_
  rintro e w1 ⟨rfl, hb1⟩
  have B := hide hb1
  clear hb1 K1
  go_wp2_with fail
  refine (unhide K2 _).mono ?_
  rintro e w2 ⟨rfl, hb1⟩
  have B := hide ((unhide B).trans (hb1.mono (unhide B).size))
  clear hb1 K2
  rcases hw with h | h | ⟨h1, h2, rfl, rfl, rfl⟩
  · have g : decide (n < -9007199254740992) = true := decide_eq_true h
    go_wp2_with fail
    refine (unhide KA _ ((unhide HT).all (unhide B))).mono ?_
    rintro e w9 ⟨rfl, hb1⟩
    have B := hide ((unhide B).trans (hb1.mono (unhide B).size))
    clear hb1 KA
    go_wp2
    go_ret
    exact ⟨rfl, unhide B⟩
  · have g : decide (n < -9007199254740992) = false := decide_eq_false (by omega)
    have g2 : decide (9007199254740992 < n) = true := decide_eq_true h
    go_wp2_with fail
    refine (unhide KA _ ((unhide HT).all (unhide B))).mono ?_
    rintro e w9 ⟨rfl, hb1⟩
    have B := hide ((unhide B).trans (hb1.mono (unhide B).size))
    clear hb1 KA
    go_wp2
    go_ret
    exact ⟨rfl, unhide B⟩
  · have g : decide (m < -9007199254740992) = false := decide_eq_false (by omega)
    have g2 : decide (9007199254740992 < m) = false := decide_eq_false (by omega)
    go_wp2_with fail
    refine (unhide K3 _ ((unhide HT).all (unhide B))).mono ?_
    rintro e w9 ⟨rfl, hb1⟩
    have B := hide ((unhide B).trans (hb1.mono (unhide B).size))
    clear hb1 K3
    go_wp2_with fail
    refine (unhide KA _ ((unhide HT).all (unhide B))).mono ?_
    rintro e w9 ⟨rfl, hb1⟩
    have B := hide ((unhide B).trans (hb1.mono (unhide B).size))
    clear hb1 KA
    go_wp2
    go_ret
    exact ⟨rfl, unhide B⟩

theorem compareInts_walk (n : Int) (w : World) (hn : -9223372036854775808 ≤ n ∧ n ≤ 9223372036854775807) (hT : Tab w) :
    Calls Tryd.prog 5 #[.int .i64 n] w fun r w' => r = .returned (.bool true) ∧ Below w.heap.size w w' := by
  refine compareInts_ways (iV n) n (iF n) _ _ w hT (iV_lt n) (conv_iV n) ?_ (cint_any n w hn hT) (fun w' => r8int_any n w' hn) (fun w' t => ctrunc_any (iV n) w' (iV_lt n) t)
  by_cases h : -9007199254740992 ≤ n ∧ n ≤ 9007199254740992
  · obtain ⟨i1, i2, i3⟩ := int_back n h
    exact .inr (.inr ⟨h.1, h.2, by rw [i2, if_pos rfl, i3], by rw [i2, if_pos rfl], i1⟩)
  · omega

end Go.Proofs.YtpaikdlhkdgkpaaDoor

/- A struct of a sign and limbs that came in, opened. -/
namespace Go.Proofs.YtpaikdlhkdgkpaaDoor
open Go.ChangeShapes Go.WideShapes Go.ChangeAt Go.RowKit Go.Joins

theorem Tryd.own : ownKnob Tryd.prog.godebug = none := by kernel_rfl
theorem Tryd.laidOut : laidOutB Tryd.prog = true := by kernel_rfl
theorem Tryd.cellsW : Tryd.prog.cellsOf 46 = 2 := by kernel_rfl
theorem Tryd.cellsU : Tryd.prog.cellsOf 74 = 1 := by kernel_rfl
theorem Tryd.bytesU : Tryd.prog.bytesOf 74 = 4 := by kernel_rfl

theorem bounds_of_u32 {x : Int} (h : (Lit.int .u32 x).wf = true) : 0 ≤ x ∧ x < 4294967296 := by
  simp [Lit.wf, IntKind.min, IntKind.max, IntKind.signed, IntKind.bits] at h
  omega

theorem limbs_of_ints {W : World} {a : Addr} {len cap : Nat} {zs : List Int} (hl : len ≤ cap) (hz : zs.length = cap) (hc : ∀ i, i < zs.length → W.cell? (a.add i) = some (.int .u32 (zs.getD i 0))) (hw : ∀ n ∈ zs, (Lit.int .u32 n).wf = true) :
    LimbsAt W (some a) cap ((zs.take len).map Int.toNat) ∧ ((zs.take len).map Int.toNat).length = len := by
  have hlen : ((zs.take len).map Int.toNat).length = len := by simp; omega
  refine ⟨⟨by omega, ?_, ?_⟩, hlen⟩
  · intro x hx
    obtain ⟨y, hy, rfl⟩ := List.mem_map.1 hx
    have := bounds_of_u32 (hw y (List.mem_of_mem_take hy))
    omega
  · rcases Nat.eq_zero_or_pos len with rfl | hp
    · left; simp
    · right
      obtain ⟨b, off, spot⟩ := a
      have h0 := hc 0 (by omega)
      have hspot : spot = none := by simpa [Addr.add] using World.cell?_spot h0
      subst hspot
      have hb : b < W.heap.size := by
        have := World.block_lt_of_cell? W _ h0
        simpa [Addr.add] using this
      refine ⟨b, off, rfl, hb, fun i hi => ?_⟩
      have h1 := hc i (by omega)
      have h2 : (0 : Int) ≤ zs[i]'(by omega) := (bounds_of_u32 (hw _ (List.getElem_mem _))).1
      have h3 : (⟨b, off, none⟩ : Addr).add i = ⟨b, off + i, none⟩ := by simp [Addr.add]
      rw [h3] at h1
      rw [h1]
      have e : ((zs.take len).map Int.toNat)[i]?.getD 0 = (zs[i]'(by omega)).toNat := by
        rw [List.getElem?_map, List.getElem?_take, if_pos (by omega), List.getElem?_eq_getElem (by omega)]; rfl
      rw [e, List.getD_eq_getElem?_getD, List.getElem?_eq_getElem (by omega)]
      simp only [Option.getD_some, Option.some.injEq, Value.int.injEq, true_and]
      omega

set_option maxRecDepth 20000 in
/-- A number that came in: its sign, its limbs, where they lie; by the row's own reach they are not too many. -/
theorem open_whole {H : Type} {enc : TypeId × Value → H} {W : World} {base : Nat} {v : Value} {d : DataW H} {p : List MemPlace} (hval : Value.okWide Tryd.prog W .any base 46 v) (h : DataW.Trod enc Tryd.prog W 0 (fun _ => true) true 46 v d p)
    (hs : ∀ n ∈ d.weights Tryd.prog 46, n ≤ reachBytes) :
    ∃ neg ao cap L, v = .agg #[.bool neg, .slice ao L.length cap] ∧ LimbsAt W ao cap L ∧ L.length ≤ 35184372087808 := by
  obtain ⟨c0, c1, y0, y1, m, rfl, rfl, rfl, hy0, hy1⟩ := open_agg2 Tryd.underlying46 (by kernel_rfl) Tryd.cellsW hval h
  obtain ⟨neg, e0, rfl⟩ := DataW.trod_bool Tryd.underlying4 hy0
  simp at e0
  subst e0
  rcases open_ints Tryd.underlying44 Tryd.underlying74 Tryd.cellsU hy1 with ⟨hcs, _⟩ | ⟨a, len, cap, zs, hcs, _, hl, hm, hz, rfl, hcell, hwz⟩
  · simp at hcs
    subst hcs
    exact ⟨neg, none, 0, [], rfl, LimbsAt.nil _ _ _, by simp⟩
  · simp at hcs
    subst hcs
    obtain ⟨h1, h2⟩ := limbs_of_ints hl (by simpa using hz) hcell hwz
    refine ⟨neg, some a, cap, _, by rw [h2], h1, ?_⟩
    have hk := hs ((zs.length) * 4) (by
      simp only [DataW.weights, Tryd.underlying46, DataW.weightsEach, List.map, Tryd.underlying44, List.nil_append, List.append_nil, List.mem_cons, Tryd.bytesU, lits, List.length_map, List.length_take, List.length_drop]
      left
      omega)
    simp only [reachBytes] at hk
    rw [h2]
    have : zs.length = cap := by simpa using hz
    omega

end Go.Proofs.YtpaikdlhkdgkpaaDoor

/- The bounds of an int or int64 that came in. -/
namespace Go.Proofs.YtpaikdlhkdgkpaaDoor

theorem bounds_of_i64 {x : Int} (h : (Lit.int .i64 x).wf = true) : -9223372036854775808 ≤ x ∧ x ≤ 9223372036854775807 := by
  simp [Lit.wf, IntKind.min, IntKind.max, IntKind.signed, IntKind.bits] at h
  omega

end Go.Proofs.YtpaikdlhkdgkpaaDoor

