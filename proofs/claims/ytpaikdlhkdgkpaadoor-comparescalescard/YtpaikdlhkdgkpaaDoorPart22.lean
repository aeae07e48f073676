/- Part 22 of the texts. -/
import Derived.Test.YtpaikdlhkdgkpaaDoorPart20
import Derived.Laws.Cover2
import Derived.Laws.Externs
import Derived.Test.YtpaikdlhkdgkpaaDoorPart03
import Derived.Laws.FloatArith
import Derived.Test.YtpaikdlhkdgkpaaDoorPart21
import Derived.Test.YtpaikdlhkdgkpaaDoorPart18
import Derived.Deep.RegionHeld3
import Derived.Test.YtpaikdlhkdgkpaaDoorPart15
/- The law SumRises, walked. -/
namespace Go.Proofs.YtpaikdlhkdgkpaaDoor
open Go.RowKit

theorem frombits5 (R : Nat) (W : World) : (callFunc 41 #[.int .u64 R]).run Tryd.prog W = .ok (.value (.float .f64 R)) W := by
  rw [run_callFunc_extern (e := Extern.MathFloatBits.float64frombits) Tryd.func41 (by kernel_rfl) (by kernel_rfl) (by kernel_rfl) (by kernel_rfl)]
  show ((pure (.float .f64 ((R : Int).toNat)) : Sem Value).run Tryd.prog W).andThen (fun v w' => .ok (Next.value v) w') = _
  simp

end Go.Proofs.YtpaikdlhkdgkpaaDoor

/- The law SumFloats, walked. -/
namespace Go.Proofs.YtpaikdlhkdgkpaaDoor
open Go.RowKit

/-- What a float operation gives, and the world behind it: where it has no answer, some number that is none is drawn. -/
def fres (o : Option Nat) (x y : Nat) (w : World) : Nat :=
  match o with
  | some r => r
  | none => (Question.nanBits .f64 x y).cut (w.tape w.drawn (.nanBits .f64 x y))
def fwld (o : Option Nat) (w : World) : World :=
  match o with
  | some _ => w
  | none => { w with drawn := w.drawn + 1 }

theorem fadd_run (t : TypeId) (x y : Nat) (w : World) : (binOp .add t (.float .f64 x) (.float .f64 y)).run Tryd.prog w = .ok (.float .f64 (fres (Ieee.double.add x y) x y w)) (fwld (Ieee.double.add x y) w) := by
  have hf : FloatKind.f64.format = Ieee.double := rfl
  cases h : Ieee.double.add x y with
  | some r => exact run_float_arith w .add t .f64 x y r (by unfold floatBits; rw [hf]; exact h)
  | none =>
    simp only [binOp, Op.floatArith, hf, h]
    rfl
theorem fsub_run (t : TypeId) (x y : Nat) (w : World) : (binOp .sub t (.float .f64 x) (.float .f64 y)).run Tryd.prog w = .ok (.float .f64 (fres (Ieee.double.sub x y) x y w)) (fwld (Ieee.double.sub x y) w) := by
  have hf : FloatKind.f64.format = Ieee.double := rfl
  cases h : Ieee.double.sub x y with
  | some r => exact run_float_arith w .sub t .f64 x y r (by unfold floatBits; rw [hf]; exact h)
  | none =>
    simp only [binOp, Op.floatArith, hf, h]
    rfl

theorem below_fwld (o : Option Nat) (w : World) : Below w.heap.size w (fwld o w) := by
  cases o
  · exact (Below.refl _ _).drew
  · exact Below.refl _ _

theorem fres_none (x y : Nat) (w : World) : fres none x y w < 18446744073709551616 ∧ fK (fres none x y w) = 4 := by
  have h : fres none x y w = (w.tape w.drawn (.nanBits .f64 x y) % 2) * 9223372036854775808 + 9218868437227405312 + 1 + (w.tape w.drawn (.nanBits .f64 x y) / 2) % 4503599627370495 := rfl
  rw [h]
  clear h
  generalize w.tape w.drawn (.nanBits .f64 x y) = t
  have h1 := Nat.mod_lt t (show 0 < 2 by decide)
  have h2 := Nat.mod_lt (t / 2) (show 0 < 4503599627370495 by decide)
  generalize t / 2 % 4503599627370495 = u at *
  generalize t % 2 = v at *
  refine ⟨by omega, (fK_rungs _).1.2 ?_⟩
  unfold fR
  obtain rfl | rfl : v = 0 ∨ v = 1 := by omega
  · omega
  · omega

theorem tobits5 (R : Nat) (W : World) : (callFunc 22 #[.float .f64 R]).run Tryd.prog W = .ok (.value (.int .u64 R)) W := by
  rw [run_callFunc_extern (e := Extern.MathFloatBits.float64bits) Tryd.func22 (by kernel_rfl) (by kernel_rfl) (by kernel_rfl) (by kernel_rfl)]
  show ((pure (.int .u64 (R : Int)) : Sem Value).run Tryd.prog W).andThen (fun v w' => .ok (Next.value v) w') = _
  simp

set_option maxRecDepth 20000 in
set_option maxHeartbeats 2000000 in
theorem canon_any (b : Nat) (w : World) (h : b < 18446744073709551616) :
    Calls Tryd.prog 21 #[.int .u64 b] w fun r w' => r = .returned (.int .u64 ((if fK b = 4 then 9221120237041090560 else b : Nat) : Int)) ∧ w = w' := by
  have K := hide (fun w' => rkind_any b w' h)
  have hw : IntKind.u64.wrap (b : Int) = (b : Int) := by simp only [IntKind.wrap_u64]; omega
  by_cases h4 : fK b = 4
  · rw [if_pos h4]
    rw [h4] at K
    clear h4 h
    go_enter Tryd.func21, Tryd.ntmps21
    go_wp2_with fail
    refine (unhide K _).mono ?_
    rintro e w1 ⟨rfl, rfl⟩
    go_wp2
    go_ret
    exact ⟨rfl, rfl⟩
  · rw [if_neg h4]
    have hk : (fK b == 4) = false := by simp [h4]
    generalize fK b = k at *
    clear h4 h
    go_enter Tryd.func21, Tryd.ntmps21
    go_wp2_with fail
    refine (unhide K _).mono ?_
    rintro e w1 ⟨rfl, rfl⟩
    go_wp2
    go_ret
    exact ⟨rfl, rfl⟩

/-- What Go's own sum, by its bits, comes to. -/
theorem canon_add (a b : Nat) (w w' : World) (ha : a < 18446744073709551616) (hb : b < 18446744073709551616) :
    Calls Tryd.prog 21 #[.int .u64 (fres (Ieee.double.add a b) a b w : Nat)] w' fun r w'' => r = .returned (.int .u64 (aV a b : Nat)) ∧ w' = w'' := by
  cases h : aN a b with
  | true =>
    obtain ⟨h1, h2⟩ := fadd_none a b ha hb h
    rw [h1, h2]
    obtain ⟨h3, h4⟩ := fres_none a b w
    have := canon_any _ w' h3
    rw [if_pos h4] at this
    exact this
  | false =>
    rw [fadd_some a b ha hb h]
    have := canon_any (aV a b) w' (aV_lt a b ha hb)
    by_cases h4 : fK (aV a b) = 4
    · exfalso
      have h' := of_decide_eq_false h
      have n4 : ¬ (fK a = 4 ∨ fK b = 4) := fun e => h' (Or.inl e)
      unfold aV at h4
      rw [if_neg n4] at h4
      by_cases a3 : fK a = 3
      · rw [if_pos a3, if_neg (fun h => h' (Or.inr ⟨a3, h.1, h.2⟩))] at h4
        omega
      · rw [if_neg a3] at h4
        by_cases b3 : fK b = 3
        · rw [if_pos b3] at h4; omega
        · rw [if_neg b3] at h4
          have hr := (aV_fin a b (fin_of a a3 (by omega)) (fin_of b b3 (by omega))).1
          have hle := rnd_le (aZ a b).natAbs (-1074)
          have e := (add_f a b a3 (by omega) b3 (by omega)).1
          rw [← e] at h4
          have := (fK_rungs _).1.1 h4
          omega
    · rw [if_neg h4] at this
      exact this

end Go.Proofs.YtpaikdlhkdgkpaaDoor

/- The laws CompareOrders, CompareBack, walked. -/
namespace Go.Proofs.YtpaikdlhkdgkpaaDoor
open Go.RowKit

set_option maxRecDepth 20000 in
set_option maxHeartbeats 2000000 in
theorem float8_any (b : Nat) (w : World) (_h : b < 18446744073709551616) :
    Calls Tryd.prog 11 #[.int .u64 b] w fun r w' => r = .returned (.float .f64 b) ∧ w = w' := by
  have hF := fun W => frombits5 b W
  have hw : IntKind.u64.wrap (b : Int) = (b : Int) := by simp only [IntKind.wrap_u64]; omega
  go_enter Tryd.func11, Tryd.ntmps11
  go_wp2
  go_ret
  exact ⟨rfl, rfl⟩

set_option maxRecDepth 20000 in
set_option maxHeartbeats 8000000 in
theorem compareOrders_ways (a b M R : Nat) (n : Int) (t l q : Bool) (o : Option Ordering) (w : World) (hT : Tab w)
    (hO : FloatKind.f64.format.order a b = o)
    (hw : (o = none ∧ n = 0 ∧ t = false ∧ l = false ∧ q = false) ∨ (o = some .lt ∧ n = -1 ∧ t = true ∧ l = true ∧ q = false) ∨ (o = some .eq ∧ n = 0 ∧ t = true ∧ l = false ∧ q = true) ∨ (o = some .gt ∧ n = 1 ∧ t = true ∧ l = false ∧ q = false))
    (C1 : Calls Tryd.prog 9 #[.int .u64 a, .int .u64 b] w fun r w' => r = .returned (.tuple #[.int .i64 n, .bool t]) ∧ Below w.heap.size w w')
    (C2 : ∀ w', Calls Tryd.prog 10 #[.int .u64 a, .int .u64 b] w' fun r w'' => r = .returned (.tuple #[.int .i64 n, .bool t]) ∧ Below w'.heap.size w' w'')
    (F1 : ∀ w', Calls Tryd.prog 11 #[.int .u64 a] w' fun r w'' => r = .returned (.float .f64 a) ∧ w' = w'')
    (F2 : ∀ w', Calls Tryd.prog 11 #[.int .u64 b] w' fun r w'' => r = .returned (.float .f64 b) ∧ w' = w'')
    (C3 : ∀ w', Calls Tryd.prog 12 #[.int .u64 a, .int .u64 b] w' fun r w'' => r = .returned (.bool l) ∧ Below w'.heap.size w' w'')
    (C4 : ∀ w', Calls Tryd.prog 13 #[.int .u64 a, .int .u64 b] w' fun r w'' => r = .returned (.bool q) ∧ Below w'.heap.size w' w'')
    (C5 : ∀ w', Calls Tryd.prog 14 #[.int .u64 a, .int .u64 b] w' fun r w'' => r = .returned (.int .u64 (M : Nat)) ∧ Below w'.heap.size w' w'')
    (C6 : ∀ w', Calls Tryd.prog 15 #[.int .u64 a, .int .u64 b] w' fun r w'' => r = .returned (.int .u64 (M : Nat)) ∧ Below w'.heap.size w' w'')
    (C7 : ∀ w', Calls Tryd.prog 16 #[.int .u64 a] w' fun r w'' => r = .returned (.int .u64 (R : Nat)) ∧ Below w'.heap.size w' w'')
    (C8 : ∀ w', Calls Tryd.prog 17 #[.int .u64 a] w' fun r w'' => r = .returned (.int .u64 (R : Nat)) ∧ w' = w'') :
    Calls Tryd.prog 3 #[.int .u64 a, .int .u64 b] w fun r w' => r = .returned (.bool true) ∧ Below w.heap.size w w' := by
  have K1 := hide C1; have K2 := hide C2; have K3 := hide C3; have K4 := hide C4; have K5 := hide C5; have K6 := hide C6; have K7 := hide C7; have K8 := hide C8; have L1 := hide F1; have L2 := hide F2; have HT := hide hT
  have KA := hide (fun w' t => awake8_any w' t)
  clear C1 C2 C3 C4 C5 C6 C7 C8 F1 F2 hT
  go_enter Tryd.func3, Tryd.ntmps3
  go_wp2_with fail
  refine Calls.mono (unhide K1) ?_
  rintro e w1 ⟨rfl, hb1⟩
  have B := hide hb1
  clear hb1 K1
  go_wp2_with fail
  refine (unhide K2 _).mono ?_
  rintro e w2 ⟨rfl, hb1⟩
  have B := hide ((unhide B).trans (hb1.mono (unhide B).size))
  clear hb1 K2
  go_wp2_with fail
  refine (unhide L1 _).mono ?_
  rintro e w2 ⟨rfl, rfl⟩
  go_wp2_with fail
  refine (unhide L2 _).mono ?_
  rintro e w2 ⟨rfl, rfl⟩
  clear L1 L2
  rcases hw with ⟨rfl, rfl, rfl, rfl, rfl⟩ | ⟨rfl, rfl, rfl, rfl, rfl⟩ | ⟨rfl, rfl, rfl, rfl, rfl⟩ | ⟨rfl, rfl, rfl, rfl, rfl⟩
  all_goals
    go_wp2_with fail
    refine (unhide K3 _).mono ?_
    rintro e w3 ⟨rfl, hb1⟩
    have B := hide ((unhide B).trans (hb1.mono (unhide B).size))
    clear hb1 K3
    go_wp2_with fail
    refine (unhide K4 _).mono ?_
    rintro e w4 ⟨rfl, hb1⟩
    have B := hide ((unhide B).trans (hb1.mono (unhide B).size))
    clear hb1 K4
    go_wp2_with fail
    refine (unhide K5 _).mono ?_
    rintro e w5 ⟨rfl, hb1⟩
    have B := hide ((unhide B).trans (hb1.mono (unhide B).size))
    clear hb1 K5
    go_wp2_with fail
    refine (unhide K6 _).mono ?_
    rintro e w6 ⟨rfl, hb1⟩
    have B := hide ((unhide B).trans (hb1.mono (unhide B).size))
    clear hb1 K6
    go_wp2_with fail
    refine (unhide K7 _).mono ?_
    rintro e w7 ⟨rfl, hb1⟩
    have B := hide ((unhide B).trans (hb1.mono (unhide B).size))
    clear hb1 K7
    go_wp2_with fail
    refine (unhide K8 _).mono ?_
    rintro e w7 ⟨rfl, rfl⟩
    clear K8
    go_wp2_with fail
    refine (unhide KA _ ((unhide HT).all (unhide B))).mono ?_
    rintro e w9 ⟨rfl, hb1⟩
    have B := hide ((unhide B).trans (hb1.mono (unhide B).size))
    clear hb1 KA
    go_wp2
    go_ret
    exact ⟨rfl, unhide B⟩

theorem order_ways8 (a b : Nat) (ha : a < 18446744073709551616) (hb : b < 18446744073709551616) :
    ∃ l q, (Ieee.double.order a b = none ∧ cO a b = 0 ∧ cB a b = false ∧ l = false ∧ q = false) ∨ (Ieee.double.order a b = some .lt ∧ cO a b = -1 ∧ cB a b = true ∧ l = true ∧ q = false) ∨ (Ieee.double.order a b = some .eq ∧ cO a b = 0 ∧ cB a b = true ∧ l = false ∧ q = true) ∨ (Ieee.double.order a b = some .gt ∧ cO a b = 1 ∧ cB a b = true ∧ l = false ∧ q = false) := by
  by_cases h : fK a = 4 ∨ fK b = 4
  · refine ⟨false, false, .inl ⟨order_nan a b ha hb h, ?_, ?_, rfl, rfl⟩⟩
    · unfold cO; rw [if_pos h]
    · unfold cB; rw [if_pos h]
  · have e := order_bits a b ha hb (fun e => h (.inl e)) (fun e => h (.inr e))
    have e1 : cO a b = cmpI (fZ a) (fZ b) := by unfold cO; rw [if_neg h]
    have e2 : cB a b = true := by unfold cB; rw [if_neg h]
    rw [e, e1, e2]
    rcases (show fZ a < fZ b ∨ fZ a = fZ b ∨ fZ b < fZ a by omega) with g | g | g
    · exact ⟨true, false, .inr (.inl ⟨by rw [Int.compare_eq_lt.2 g], cmpI8_lt g, rfl, rfl, rfl⟩)⟩
    · exact ⟨false, true, .inr (.inr (.inl ⟨by rw [Int.compare_eq_eq.2 g], cmpI8_eq g, rfl, rfl, rfl⟩))⟩
    · exact ⟨false, false, .inr (.inr (.inr ⟨by rw [Int.compare_eq_gt.2 g], cmpI8_gt g, rfl, rfl, rfl⟩))⟩

theorem compareOrders_walk (a b : Nat) (w : World) (ha : a < 18446744073709551616) (hb : b < 18446744073709551616) (hT : Tab w) :
    Calls Tryd.prog 3 #[.int .u64 a, .int .u64 b] w fun r w' => r = .returned (.bool true) ∧ Below w.heap.size w w' := by
  obtain ⟨l, q, hw⟩ := order_ways8 a b ha hb
  have C1 := fun w' => corder_any a b w' ha hb
  have C2 := fun w' => rorder_any a b w' ha hb
  have hv : (cO a b = 0 ∧ cB a b = false ∧ l = false ∧ q = false) ∨ (cO a b = -1 ∧ cB a b = true ∧ l = true ∧ q = false) ∨ (cO a b = 0 ∧ cB a b = true ∧ l = false ∧ q = true) ∨ (cO a b = 1 ∧ cB a b = true ∧ l = false ∧ q = false) := by
    rcases hw with h | h | h | h
    · exact .inl h.2
    · exact .inr (.inl h.2)
    · exact .inr (.inr (.inl h.2))
    · exact .inr (.inr (.inr h.2))
  exact compareOrders_ways a b (cM a b l (cB a b)) (fR a) _ _ l q _ w hT rfl hw (C1 w) C2 (fun w' => float8_any a w' ha) (fun w' => float8_any b w' hb)
    (fun w' => less_of a b _ _ l q w' hv C1) (fun w' => equal_of a b _ _ l q w' hv C1) (fun w' => max_of a b _ _ l q w' hv C1) (fun w' => rmax_of a b _ _ l q w' hv C2) (fun w' => cabs_any a w' ha) (fun w' => r8abs_any a w' ha)

set_option maxRecDepth 20000 in
set_option maxHeartbeats 4000000 in
theorem compareBack_out (a : Nat) (n p : Int) (w : World) (hT : Tab w) (hw : p < 700 ∨ 1300 < p) (hp : 0 ≤ p ∧ p ≤ 2047)
    (C1 : ∀ w', Calls Tryd.prog 34 #[.int .u64 a] w' fun r w'' => r = .returned (.int .i64 p) ∧ w' = w'') :
    Calls Tryd.prog 8 #[.int .u64 a, .int .i64 n] w fun r w' => r = .returned (.bool true) ∧ Below w.heap.size w w' := by
  have K1 := hide C1; have HT := hide hT
  have KA := hide (fun w' t => awake8_any w' t)
  clear C1 hT
  rcases hw with h | h
  · have g : decide (p < 700) = true := decide_eq_true h
    go_enter Tryd.func8, Tryd.ntmps8
    go_wp2_with fail
    refine (unhide K1 _).mono ?_
    rintro e w1 ⟨rfl, rfl⟩
    go_wp2_with fail
    refine (unhide KA _ (unhide HT)).mono ?_
    rintro e w9 ⟨rfl, hb1⟩
    clear KA HT K1
    go_wp2
    go_ret
    exact ⟨rfl, hb1⟩
  · have g : decide (p < 700) = false := decide_eq_false (by omega)
    have g2 : decide (1300 < p) = true := decide_eq_true h
    go_enter Tryd.func8, Tryd.ntmps8
    go_wp2_with fail
    refine (unhide K1 _).mono ?_
    rintro e w1 ⟨rfl, rfl⟩
    go_wp2_with fail
    refine (unhide K1 _).mono ?_
    rintro e w1 ⟨rfl, rfl⟩
    go_wp2_with fail
    refine (unhide KA _ (unhide HT)).mono ?_
    rintro e w9 ⟨rfl, hb1⟩
    clear KA HT K1
    go_wp2
    go_ret
    exact ⟨rfl, hb1⟩

set_option maxRecDepth 20000 in
set_option maxHeartbeats 4000000 in
theorem compareBack_in (a s : Nat) (n p z x y : Int) (w : World) (hT : Tab w) (hp : 700 ≤ p ∧ p ≤ 1300) (hz : (IntKind.u64.wrap n).tmod 1201 = z) (z0 : 0 ≤ z) (z1 : z < 1201) (hxy : x = y + (z - 600)) (hx : -2000 ≤ x ∧ x ≤ 2000)
    (C1 : ∀ w', Calls Tryd.prog 34 #[.int .u64 a] w' fun r w'' => r = .returned (.int .i64 p) ∧ w' = w'')
    (C2 : ∀ w', Tab w' → Calls Tryd.prog 19 #[.int .u64 a, .int .i64 (z - 600)] w' fun r w'' => r = .returned (.tuple #[.int .u64 (s : Nat), .int .u8 0]) ∧ Below w'.heap.size w' w'')
    (C3 : ∀ w', Tab w' → Calls Tryd.prog 19 #[.int .u64 (s : Nat), .int .i64 (-(z - 600))] w' fun r w'' => r = .returned (.tuple #[.int .u64 (a : Nat), .int .u8 0]) ∧ Below w'.heap.size w' w'')
    (C4 : ∀ w', Tab w' → Calls Tryd.prog 30 #[.int .u64 (s : Nat)] w' fun r w'' => r = .returned (.int .i64 x) ∧ Below w'.heap.size w' w'')
    (C5 : ∀ w', Tab w' → Calls Tryd.prog 30 #[.int .u64 (a : Nat)] w' fun r w'' => r = .returned (.int .i64 y) ∧ Below w'.heap.size w' w'') :
    Calls Tryd.prog 8 #[.int .u64 a, .int .i64 n] w fun r w' => r = .returned (.bool true) ∧ Below w.heap.size w w' := by
  have K1 := hide C1; have K2 := hide C2; have K3 := hide C3; have K4 := hide C4; have K5 := hide C5; have HT := hide hT
  have KA := hide (fun w' t => awake8_any w' t)
  clear C1 C2 C3 C4 C5 hT
  have g : decide (p < 700) = false := decide_eq_false (by omega)
  have g2 : decide (1300 < p) = false := decide_eq_false (by omega)
  have y0 : -4000 ≤ y := by omega
  have y1 : y ≤ 4000 := by omega
  subst hxy
  clear hx hp
  go_enter Tryd.func8, Tryd.ntmps8
  go_wp2_with fail
  refine (unhide K1 _).mono ?_
  rintro e w1 ⟨rfl, rfl⟩
  go_wp2_with fail
  refine (unhide K1 _).mono ?_
  rintro e w1 ⟨rfl, rfl⟩
  go_wp2_with fail
  refine (unhide K2 _ (unhide HT)).mono ?_
  rintro e w1 ⟨rfl, hb1⟩
  have B := hide hb1
  clear hb1 K2 K1
  go_wp2_with fail
  refine (unhide K3 _ ((unhide HT).all (unhide B))).mono ?_
  rintro e w2 ⟨rfl, hb1⟩
  have B := hide ((unhide B).trans (hb1.mono (unhide B).size))
  clear hb1 K3
  go_wp2_with fail
  refine (unhide K4 _ ((unhide HT).all (unhide B))).mono ?_
  rintro e w3 ⟨rfl, hb1⟩
  have B := hide ((unhide B).trans (hb1.mono (unhide B).size))
  clear hb1 K4
  go_wp2_with fail
  refine (unhide K5 _ ((unhide HT).all (unhide B))).mono ?_
  rintro e w4 ⟨rfl, hb1⟩
  have B := hide ((unhide B).trans (hb1.mono (unhide B).size))
  clear hb1 K5
  go_wp2_with fail
  refine (unhide KA _ ((unhide HT).all (unhide B))).mono ?_
  rintro e w9 ⟨rfl, hb1⟩
  have B := hide ((unhide B).trans (hb1.mono (unhide B).size))
  clear hb1 KA
  go_wp2
  go_ret
  exact ⟨rfl, unhide B⟩

/-- A normal number times 2^n, where it stays normal: no flag, its power n more. -/
theorem back8_facts (a : Nat) (n : Int) (ha : a < 18446744073709551616) (h1 : 1 ≤ fP a ∧ fP a ≤ 2046) (hn : 1 ≤ (fP a : Int) + n ∧ (fP a : Int) + n ≤ 2046) :
    xF a n = 0 ∧ fP (xV a n) = (((fP a : Nat) : Int) + n).toNat ∧ fF (xV a n) = fF a ∧ fS (xV a n) = fS a ∧ xV a n < 18446744073709551616 := by
  have hR : fR a / 4503599627370496 = fP a := rfl
  have hK : fK a = 2 := by unfold fK; rw [if_neg (by omega), if_neg (by omega)]
  have fa : fFin a = true := decide_eq_true (by omega)
  obtain ⟨z1, z2, z3, z4, z5, z6, z7, z8, z9⟩ := sc_facts a ha fa (by omega)
  obtain ⟨β, x1, x2, x3, x4⟩ := odd_mag a ha fa (by omega)
  have hr : 4503599627370496 ≤ fR a := by omega
  have hg := gM_rv (fR a) hr
  have hb1 : bl (rv (fR a)) = 53 + (fP a - 1) := by rw [hg, bl_scale _ _ (gM_ne _), gM_bl, hR]
  have hb2 : bl (rv (fR a)) = bl (fD a).natAbs + β := by rw [x2]; exact bl_scale _ _ z3
  have hb3 := bl_le53 z2
  have e1 : xF a n = rflag (fD a).natAbs (fX a + n) := by unfold xF; rw [if_neg (by omega), if_neg (by omega)]
  have e2 : xV a n = wrd (fS a) (rnd (fD a).natAbs (fX a + n)) := by unfold xV; rw [if_neg (by omega), if_neg (by omega)]
  have e3 : rnd (fD a).natAbs (fX a + n) = rnd (rv (fR a)) (n - 1074) := by
    rw [x2, rnd_scale]; congr 1; omega
  have e4 := scale_normal (fR a) n (n + (fP a : Int) - 1023) hr (by rw [hR])
  have e5 := scale_mid (fR a) (n + (fP a : Int) - 1023) (by omega) (by omega)
  have hF : fR a % 4503599627370496 = fF a := by unfold fR fF; omega
  have hFl := fF_lt a
  rw [hF] at e5
  have e6 : rnd (fD a).natAbs (fX a + n) = fF a + (((fP a : Nat) : Int) + n).toNat * 4503599627370496 := by
    rw [e3, e4, e5]; congr 2; omega
  obtain ⟨P, hP⟩ : ∃ P : Nat, P = (((fP a : Nat) : Int) + n).toNat := ⟨_, rfl⟩
  rw [← hP] at e6 ⊢
  have hP2 : 1 ≤ P ∧ P ≤ 2046 := by omega
  have hlt : fF a + P * 4503599627370496 < 9223372036854775808 := by omega
  refine ⟨?_, ?_, ?_, ?_, ?_⟩
  · rw [e1]
    unfold rflag
    rw [if_neg z3, if_neg (by omega), if_pos (by unfold lastE; omega)]
  · rw [e2, e6]
    have := fR_wrd (fS a) _ hlt
    have h3 : fP (wrd (fS a) (fF a + P * 4503599627370496)) = fR (wrd (fS a) (fF a + P * 4503599627370496)) / 4503599627370496 := rfl
    rw [h3, this]
    omega
  · rw [e2, e6]
    have := fR_wrd (fS a) _ hlt
    have h3 : fF (wrd (fS a) (fF a + P * 4503599627370496)) = fR (wrd (fS a) (fF a + P * 4503599627370496)) % 4503599627370496 := by unfold fF fR; omega
    rw [h3, this]
    omega
  · rw [e2, e6]; exact fS_wrd _ _ hlt
  · exact xV_lt a n ha

theorem bits_of (a : Nat) (ha : a < 18446744073709551616) : a = wrd (fS a) (fF a + fP a * 4503599627370496) := by
  have h := b_wrd a ha
  have e : fF a + fP a * 4503599627370496 = fR a := by unfold fF fP fR; omega
  rw [e, h]

theorem eX_normal (a : Nat) (ha : a < 18446744073709551616) (h1 : 1 ≤ fP a ∧ fP a ≤ 2046) : eX a = (fP a : Int) - 1023 := by
  have hR : fR a / 4503599627370496 = fP a := rfl
  have hK : fK a = 2 := by unfold fK; rw [if_neg (by omega), if_neg (by omega)]
  have fa : fFin a = true := decide_eq_true (by omega)
  obtain ⟨z1, z2, z3, z4, z5, z6, z7, z8, z9⟩ := sc_facts a ha fa (by omega)
  obtain ⟨β, x1, x2, x3, x4⟩ := odd_mag a ha fa (by omega)
  have hg := gM_rv (fR a) (by omega)
  have hb1 : bl (rv (fR a)) = 53 + (fP a - 1) := by rw [hg, bl_scale _ _ (gM_ne _), gM_bl, hR]
  have hb2 : bl (rv (fR a)) = bl (fD a).natAbs + β := by rw [x2]; exact bl_scale _ _ z3
  unfold eX
  rw [if_neg (by omega)]
  omega

theorem compareBack_walk (a : Nat) (n : Int) (w : World) (ha : a < 18446744073709551616) (hT : Tab w) :
    Calls Tryd.prog 8 #[.int .u64 a, .int .i64 n] w fun r w' => r = .returned (.bool true) ∧ Below w.heap.size w w' := by
  have C1 := fun w' => rpower_any a w' ha
  have hl := fP_lt a
  by_cases h : fP a < 700 ∨ 1300 < fP a
  · exact compareBack_out a n (fP a) w hT (by omega) (by omega) C1
  · obtain ⟨z, hz⟩ : ∃ z, (IntKind.u64.wrap n).tmod 1201 = z := ⟨_, rfl⟩
    have hz2 : 0 ≤ z ∧ z < 1201 := by
      rw [← hz]
      have h0 : 0 ≤ IntKind.u64.wrap n := by simp only [IntKind.wrap_u64]; omega
      rw [Int.tmod_eq_emod_of_nonneg h0]
      omega
    obtain ⟨b1, b2, b3, b4, b5⟩ := back8_facts a (z - 600) ha (by omega) (by omega)
    have C2 : ∀ w', Tab w' → _ := fun w' t => cscale_any a (z - 600) w' ha t
    rw [b1] at C2
    generalize xV a (z - 600) = s at *
    have C3 : ∀ w', Tab w' → _ := fun w' t => cscale_any s (-(z - 600)) w' b5 t
    obtain ⟨c1, c2, c3, c4, c5⟩ := back8_facts s (-(z - 600)) b5 (by omega) (by omega)
    have e6 : xV s (-(z - 600)) = a := by
      rw [bits_of _ c5, c2, c3, c4, b3, b4, show (((fP s : Nat) : Int) + -(z - 600)).toNat = fP a by omega]
      exact (bits_of a ha).symm
    rw [c1, e6] at C3
    have ea := eX_normal a ha (by omega)
    have es := eX_normal s b5 (by omega)
    exact compareBack_in a s n (fP a) z (eX s) (eX a) w hT (by omega) hz hz2.1 hz2.2 (by rw [ea, es]; omega) (by rw [es]; omega) C1 C2 C3 (fun w' t => cexp_any s w' b5 t) (fun w' t => cexp_any a w' ha t)

end Go.Proofs.YtpaikdlhkdgkpaaDoor

/- Contracts of package times: quotient. -/
namespace Go.Proofs.YtpaikdlhkdgkpaaDoor
open Go.RowKit

theorem lQ_54 (x y i : Nat) (h2 : x < 2 * y) (hi : i < 55) : lQ x y i < 18014398509481984 := by
  have q1 := lQ_lt x y i h2
  have q2 : (2 : Nat) ^ i ≤ 2 ^ 54 := Nat.pow_le_pow_right (by decide) (by omega)
  rw [show (2 : Nat) ^ 54 = 18014398509481984 by decide] at q2
  exact Nat.lt_of_lt_of_le q1 q2
theorem lQ_55 (x y : Nat) (h2 : x < 2 * y) : lQ x y 55 < 36028797018963968 := by
  have q1 := lQ_lt x y 55 h2
  rwa [show (2 : Nat) ^ 55 = 36028797018963968 by decide] at q1

end Go.Proofs.YtpaikdlhkdgkpaaDoor

/- Contract of times.sizeOf. -/
namespace Go.Proofs.YtpaikdlhkdgkpaaDoor
open Go.RowKit

end Go.Proofs.YtpaikdlhkdgkpaaDoor

/- Contracts of times.sizeOf of any number, divFinite. -/
namespace Go.Proofs.YtpaikdlhkdgkpaaDoor
open Go.RowKit

/-- The limbs of a dyadic number at hand. -/
theorem IsDy.limbs {w : World} {n : Bool} {a : Option Addr} {l c : Nat} {X m Y : Int} (h : IsDy w (.agg #[.bool n, .slice a l c, .int .i64 X]) m Y) (hm : m.natAbs < TOP) :
    ∃ L, l = L.length ∧ LimbsAt w a c L ∧ rightB false L = true ∧ val L = m.natAbs ∧ L.length ≤ 512 := by
  obtain ⟨n', a', c', L, e1, h1, h2, h3, h4, h5⟩ := h.right hm
  simp only [Value.agg.injEq, Array.mk.injEq, List.cons.injEq, Value.bool.injEq, Value.slice.injEq, and_true] at e1
  obtain ⟨rfl, ⟨rfl, e2, rfl⟩, _⟩ := e1
  have hr : rightB false L = true := by
    simp only [rightB, Bool.and_eq_true, decide_eq_true_eq, Bool.not_eq_true', Bool.and_eq_false_iff, decide_eq_false_iff_not, Bool.or_eq_true] at h2 ⊢
    exact ⟨⟨h2.1.1, Or.inr trivial⟩, h2.2⟩
  exact ⟨L, e2, h1, hr, by rw [← h3, natAbs_sval], h4⟩

theorem small6 {B : Nat} {w : World} {v : Value} {x : Int} (hv : IsNum B w v x) (h0 : -9223372036854775808 ≤ x) (h1 : x ≤ 9223372036854775807) :
    Calls Tryd.prog 57 #[v] w fun e w' => e = .returned (.tuple #[.int .i64 x, .int .i64 0]) ∧ Below w.heap.size w w' := by
  obtain ⟨na, ao, ca, A, rfl, a1, a2, a3, a4⟩ := hv.right (small_TOP _ (by omega))
  have := small_any na ao ca A w a1 (by omega)
  have hf : fits64 x = true := by unfold fits64; rw [decide_eq_true (by omega)]
  rwa [show smV na A = x by unfold smV; rw [a2, a3, hf]; rfl, show smE na A = 0 by unfold smE; rw [a2, a3, hf]; rfl] at this

theorem lt57 {S : Nat} (h : S < 144115188075855872) : S < 2 ^ 57 := by
  have : (2 : Nat) ^ 57 = 144115188075855872 := by decide
  omega

theorem pS_def (a b : Nat) : stk (dS a * 2 ^ 54) (dS b) = pS a b := by unfold pS; rfl
theorem dT_in (b : Nat) (hb : b < 18446744073709551616) (hf : fFin b = true) (h0 : fK b ≠ 0) : -1100 ≤ dT b ∧ dT b ≤ 1100 := by
  obtain ⟨x1, x2, x3, x4, x5, x6, x7, x8⟩ := dS_facts b hb hf h0
  unfold dT
  omega

end Go.Proofs.YtpaikdlhkdgkpaaDoor

