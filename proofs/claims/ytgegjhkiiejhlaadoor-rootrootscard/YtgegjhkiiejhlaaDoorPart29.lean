/- Part 29 of the texts. -/
import Derived.Test.YtgegjhkiiejhlaaDoorPart28
import Derived.Test.YtgegjhkiiejhlaaDoorPart26
import Derived.Test.YtgegjhkiiejhlaaDoorChecked
import Derived.Test.YtgegjhkiiejhlaaDoorPart02
import Derived.ProofKit
import Derived.SizedLaws
import Derived.Lib.SmallJoins
/- The law TimesFloats, walked. -/
namespace Go.Proofs.YtgegjhkiiejhlaaDoor
open Go.RowKit

theorem fmul_run (t : TypeId) (x y : Nat) (w : World) : (binOp .mul t (.float .f64 x) (.float .f64 y)).run Tryd.prog w = .ok (.float .f64 (fres (Ieee.double.mul x y) x y w)) (fwld (Ieee.double.mul x y) w) := by
  have hf : FloatKind.f64.format = Ieee.double := rfl
  cases h : Ieee.double.mul x y with
  | some r => exact run_float_arith w .mul t .f64 x y r (by unfold floatBits; rw [hf]; exact h)
  | none =>
    simp only [binOp, Op.floatArith, hf, h]
    rfl
theorem fdiv_run (t : TypeId) (x y : Nat) (w : World) : (binOp .quo t (.float .f64 x) (.float .f64 y)).run Tryd.prog w = .ok (.float .f64 (fres (Ieee.double.div x y) x y w)) (fwld (Ieee.double.div x y) w) := by
  have hf : FloatKind.f64.format = Ieee.double := rfl
  cases h : Ieee.double.div x y with
  | some r => exact run_float_arith w .quo t .f64 x y r (by unfold floatBits; rw [hf]; exact h)
  | none =>
    simp only [binOp, Op.floatArith, hf, h]
    rfl

theorem wrd_kind (n : Bool) (r : Nat) (h : r ≤ 9218868437227405312) : fK (wrd n r) ≠ 4 := fun h4 => by
  have := (fK_rungs _).1.1 h4
  have e : fR (wrd n r) = r := by unfold fR; exact (wrd_parts n r (by omega)).2
  omega
theorem mV_kind (a b : Nat) (h : mN a b = false) : fK (mV a b) ≠ 4 := by
  have h' := of_decide_eq_false h
  have n4 : ¬ (fK a = 4 ∨ fK b = 4) := fun e => h' (Or.inl e)
  unfold mV
  rw [if_neg n4]
  split
  · rename_i h3
    rw [if_neg (fun h0 => h' (Or.inr ⟨h3, h0⟩))]
    exact wrd_kind _ _ (by decide)
  · exact wrd_kind _ _ (rnd_le _ _)
theorem dV_kind (a b : Nat) (h : dN a b = false) : fK (dV a b) ≠ 4 := by
  have h' := of_decide_eq_false h
  have n4 : ¬ (fK a = 4 ∨ fK b = 4) := fun e => h' (Or.inl e)
  have nn : ¬ (fK a = fK b ∧ (fK a = 3 ∨ fK a = 0)) := fun e => h' (Or.inr e)
  unfold dV
  rw [if_neg n4, if_neg nn]
  repeat' split
  · exact wrd_kind _ _ (by decide)
  · exact wrd_kind _ _ (by decide)
  · exact wrd_kind _ _ (by decide)
  · exact wrd_kind _ _ (rnd_le _ _)

/-- What Go's own, by its bits, comes to. -/
theorem canon_of (o : Option Nat) (v x y : Nat) (w w' : World) (hv : v < 18446744073709551616) (h1 : o = none → v = 9221120237041090560) (h2 : ∀ r, o = some r → r = v ∧ fK v ≠ 4) :
    Calls Tryd.prog 14 #[.int .u64 (fres o x y w : Nat)] w' fun r w'' => r = .returned (.int .u64 (v : Nat)) ∧ w' = w'' := by
  cases o with
  | none =>
    rw [h1 rfl]
    obtain ⟨h3, h4⟩ := fres_none x y w
    have := canon_any _ w' h3
    rw [if_pos h4] at this
    exact this
  | some r =>
    obtain ⟨rfl, h4⟩ := h2 r rfl
    have := canon_any r w' hv
    rw [if_neg h4] at this
    exact this
theorem canon_mul (a b : Nat) (w w' : World) (ha : a < 18446744073709551616) (hb : b < 18446744073709551616) :
    Calls Tryd.prog 14 #[.int .u64 (fres (Ieee.double.mul a b) a b w : Nat)] w' fun r w'' => r = .returned (.int .u64 (mV a b : Nat)) ∧ w' = w'' := by
  refine canon_of _ (mV a b) a b w w' (mV_lt a b) (fun h => ?_) (fun r h => ?_)
  · cases e : mN a b with
    | true => exact (fmul_none a b ha hb e).2
    | false => rw [fmul_some a b ha hb e] at h; cases h
  · cases e : mN a b with
    | true => rw [(fmul_none a b ha hb e).1] at h; cases h
    | false =>
      rw [fmul_some a b ha hb e] at h
      exact ⟨(Option.some.inj h).symm, mV_kind a b e⟩
theorem canon_div (a b : Nat) (w w' : World) (ha : a < 18446744073709551616) (hb : b < 18446744073709551616) :
    Calls Tryd.prog 14 #[.int .u64 (fres (Ieee.double.div a b) a b w : Nat)] w' fun r w'' => r = .returned (.int .u64 (dV a b : Nat)) ∧ w' = w'' := by
  refine canon_of _ (dV a b) a b w w' (dV_lt a b) (fun h => ?_) (fun r h => ?_)
  · cases e : dN a b with
    | true => exact (fdiv_none a b ha hb e).2
    | false => rw [fdiv_some a b ha hb e] at h; cases h
  · cases e : dN a b with
    | true => rw [(fdiv_none a b ha hb e).1] at h; cases h
    | false =>
      rw [fdiv_some a b ha hb e] at h
      exact ⟨(Option.some.inj h).symm, dV_kind a b e⟩

end Go.Proofs.YtgegjhkiiejhlaaDoor

/- awake of layer 7; the laws RootRises, RootFloats, walked. -/
namespace Go.Proofs.YtgegjhkiiejhlaaDoor
open Go.RowKit

theorem two_facts : fFin 4611686018427387904 = true ∧ fK 4611686018427387904 = 2 ∧ fS 4611686018427387904 = false ∧ nS 4611686018427387904 = 9223372036854775808 ∧ nT 4611686018427387904 = 2 := by decide +kernel
theorem rS_odd {N q : Nat} (h1 : q * q < N) (h2 : N < (q + 1) * (q + 1)) : rS N = 2 * q + 1 := by
  have h : isq N = q := isq_unique (Nat.le_of_lt h1) h2
  unfold rS
  rw [h, if_neg (by omega)]
theorem two_digits : tB 4611686018427387904 = 25476206690103091 := by
  unfold tB
  rw [two_facts.2.2.2.1]
  exact rS_odd (q := 12738103345051545) (by decide) (by decide)
theorem two_root : tV 4611686018427387904 = 4609047870845172685 ∧ tF 4611686018427387904 = 1 := by
  obtain ⟨h1, h2⟩ := tB_root 4611686018427387904 (by decide) two_facts.1 (by rw [two_facts.2.1]; decide)
  rw [two_digits, two_facts.2.2.2.2] at h1 h2
  rw [← h1, ← h2]
  decide +kernel
theorem awake7_facts : sV 4611686018427387904 = 4609047870845172685 ∧ sF 4611686018427387904 = 1 := by
  obtain ⟨t1, t2, t3, _⟩ := two_facts
  have e4 : ¬ fK 4611686018427387904 = 4 := by rw [t2]; decide
  have e0 : ¬ (fK 4611686018427387904 = 0 ∨ 4611686018427387904 = 9218868437227405312) := by rw [t2]; decide
  have es : ¬ fS 4611686018427387904 = true := by rw [t3]; decide
  unfold sV sF
  rw [if_neg e4, if_neg e0, if_neg es, if_neg e4, if_neg e0, if_neg es]
  exact two_root

set_option maxRecDepth 20000 in
set_option maxHeartbeats 2000000 in
theorem awake7_any (w : World) (hT : Tab w) : Calls Tryd.prog 11 #[] w fun e w' => e = .returned (.bool true) ∧ Below w.heap.size w w' := by
  have K1 := hide (rsqrt_any 4611686018427387904 w (by decide) hT)
  rw [awake7_facts.1, awake7_facts.2] at K1
  have K2 := hide (fun w' => rwhole_any 16 w' (by decide))
  rw [show isq 16 = 4 by decide, show decide (4 * 4 = 16) = true by decide] at K2
  go_enter Tryd.func11, Tryd.ntmps11
  go_wp2_with fail
  refine Calls.mono (unhide K1) ?_
  rintro e w1 ⟨rfl, hb1⟩
  have B := hide hb1
  clear hb1 K1
  go_wp2_with fail
  refine (unhide K2 _).mono ?_
  rintro e w2 ⟨rfl, hb2⟩
  have B := hide ((unhide B).trans (hb2.mono (unhide B).size))
  clear hb2 K2
  go_wp2
  go_ret
  exact ⟨rfl, unhide B⟩

set_option maxRecDepth 20000 in
set_option maxHeartbeats 2000000 in
theorem float7_any (b : Nat) (w : World) (_h : b < 18446744073709551616) :
    Calls Tryd.prog 17 #[.int .u64 b] w fun r w' => r = .returned (.float .f64 b) ∧ w = w' := by
  have hF := fun W => frombits5 b W
  have hw : IntKind.u64.wrap (b : Int) = (b : Int) := by simp only [IntKind.wrap_u64]; omega
  go_enter Tryd.func17, Tryd.ntmps17
  go_wp2
  go_ret
  exact ⟨rfl, rfl⟩

set_option maxRecDepth 20000 in
set_option maxHeartbeats 8000000 in
theorem rootRises_ways (a b s t : Nat) (f g : Int) (o p : Option Ordering) (w : World)
    (hO : FloatKind.f64.format.order a b = o) (hP : FloatKind.f64.format.order s t = p) (good : goodO o p) (hT : Tab w)
    (C1 : Calls Tryd.prog 12 #[.int .u64 a] w fun r w' => r = .returned (.tuple #[.int .u64 s, .int .u8 f]) ∧ Below w.heap.size w w')
    (C2 : ∀ w', Tab w' → Calls Tryd.prog 12 #[.int .u64 b] w' fun r w'' => r = .returned (.tuple #[.int .u64 t, .int .u8 g]) ∧ Below w'.heap.size w' w'')
    (F1 : ∀ w', Calls Tryd.prog 17 #[.int .u64 a] w' fun r w'' => r = .returned (.float .f64 a) ∧ w' = w'')
    (F2 : ∀ w', Calls Tryd.prog 17 #[.int .u64 b] w' fun r w'' => r = .returned (.float .f64 b) ∧ w' = w'')
    (F3 : ∀ w', Calls Tryd.prog 17 #[.int .u64 s] w' fun r w'' => r = .returned (.float .f64 s) ∧ w' = w'')
    (F4 : ∀ w', Calls Tryd.prog 17 #[.int .u64 t] w' fun r w'' => r = .returned (.float .f64 t) ∧ w' = w'') :
    Calls Tryd.prog 7 #[.int .u64 a, .int .u64 b] w fun r w' => r = .returned (.bool true) ∧ Below w.heap.size w w' := by
  have K1 := hide C1; have K2 := hide C2; have L1 := hide F1; have L2 := hide F2; have L3 := hide F3; have L4 := hide F4
  have K3 := hide (fun w' t => awake7_any w' t)
  clear C1 C2 F1 F2 F3 F4
  go_enter Tryd.func7, Tryd.ntmps7
  go_wp2_with fail
  refine Calls.mono (unhide K1) ?_
  rintro e w1 ⟨rfl, hb1⟩
  have HT := hide (hT.all hb1)
  go_wp2_with fail
  refine (unhide K2 _ (unhide HT)).mono ?_
  rintro e w2 ⟨rfl, hb2⟩
  have B := hide (hb1.trans (hb2.mono hb1.size))
  have HT2 := hide ((unhide HT).all hb2)
  clear hb1 hb2 K1 K2 HT
  go_wp2_with fail
  refine (unhide L1 _).mono ?_
  rintro e w2 ⟨rfl, rfl⟩
  go_wp2_with fail
  refine (unhide L2 _).mono ?_
  rintro e w2 ⟨rfl, rfl⟩
  go_wp2_with fail
  refine (unhide L3 _).mono ?_
  rintro e w2 ⟨rfl, rfl⟩
  go_wp2_with fail
  refine (unhide L4 _).mono ?_
  rintro e w3 ⟨rfl, rfl⟩
  clear L1 L2 L3 L4
  rcases o with _ | _ | _ | _ <;> rcases p with _ | _ | _ | _ <;> first
    | exact absurd rfl (good.1 (Or.inl rfl))
    | exact absurd rfl (good.1 (Or.inr rfl))
    | exact absurd rfl (good.2 (Or.inl rfl))
    | exact absurd rfl (good.2 (Or.inr rfl))
    | (go_wp2_with fail
       refine (unhide K3 _ (unhide HT2)).mono ?_
       rintro e w4 ⟨rfl, hb3⟩
       have B3 := hide ((unhide B).trans (hb3.mono (unhide B).size))
       clear hb3 K3 HT2 B
       go_wp2
       go_ret
       exact ⟨rfl, unhide B3⟩)

theorem rootRises_walk (a b : Nat) (w : World) (ha : a < 18446744073709551616) (hb : b < 18446744073709551616) (hT : Tab w) :
    Calls Tryd.prog 7 #[.int .u64 a, .int .u64 b] w fun r w' => r = .returned (.bool true) ∧ Below w.heap.size w w' :=
  rootRises_ways a b (sV a) (sV b) _ _ _ _ w rfl rfl (rises7_order a b ha hb) hT (rsqrt_any a w ha hT) (fun w' t => rsqrt_any b w' hb t)
    (fun w' => float7_any a w' ha) (fun w' => float7_any b w' hb) (fun w' => float7_any _ w' (sV_lt a ha)) (fun w' => float7_any _ w' (sV_lt b hb))

theorem msqrt_run (x : Nat) (W : World) : (callFunc 41 #[.float .f64 x]).run Tryd.prog W = .ok (.value (.float .f64 (fres (Ieee.double.sqrt x) x x W))) (fwld (Ieee.double.sqrt x) W) := by
  rw [run_callFunc_extern (e := Extern.MathSqrt.sqrt) Tryd.func41 (by kernel_rfl) (by kernel_rfl) (by kernel_rfl) (by kernel_rfl)]
  have e : Extern.MathSqrt.sqrt #[.float .f64 x] = (match Ieee.double.sqrt x with | some r => pure (.float .f64 r) | none => do pure (.float .f64 (← choose (.nanBits .f64 x x)))) := rfl
  rw [e]
  cases h : Ieee.double.sqrt x with
  | some r => rfl
  | none => rfl

set_option maxRecDepth 20000 in
set_option maxHeartbeats 2000000 in
theorem msqrt_any (x : Nat) (o : Option Nat) (w : World) (hS : ∀ W, (callFunc 41 #[.float .f64 x]).run Tryd.prog W = .ok (.value (.float .f64 (fres o x x W))) (fwld o W)) :
    Calls Tryd.prog 16 #[.float .f64 x] w fun r w' => r = .returned (.float .f64 (fres o x x w)) ∧ w' = fwld o w := by
  go_enter Tryd.func16, Tryd.ntmps16
  go_wp2
  go_ret
  exact ⟨rfl, rfl⟩

theorem sV_kind (a : Nat) (h : sN a = false) : fK (sV a) ≠ 4 := by
  have h' := of_decide_eq_false h
  unfold sV
  rw [if_neg (fun e => h' (Or.inl e))]
  split
  · exact fun e => h' (Or.inl e)
  · rename_i h2
    split
    · rename_i h3
      exact absurd (Or.inr ⟨fun e => h2 (Or.inl e), h3⟩) h'
    · intro h4
      have := (fK_rungs _).1.1 h4
      have hr := tV_le a
      unfold fR at this
      omega
theorem canon_sqrt (a : Nat) (w w' : World) (ha : a < 18446744073709551616) :
    Calls Tryd.prog 14 #[.int .u64 (fres (Ieee.double.sqrt a) a a w : Nat)] w' fun r w'' => r = .returned (.int .u64 (sV a : Nat)) ∧ w' = w'' := by
  refine canon_of _ (sV a) a a w w' (sV_lt a ha) (fun h => ?_) (fun r h => ?_)
  · cases e : sN a with
    | true => exact (fsqrt_none a ha e).2
    | false => rw [fsqrt_some a ha e] at h; cases h
  · cases e : sN a with
    | true => rw [(fsqrt_none a ha e).1] at h; cases h
    | false =>
      rw [fsqrt_some a ha e] at h
      exact ⟨(Option.some.inj h).symm, sV_kind a e⟩

set_option maxRecDepth 20000 in
set_option maxHeartbeats 8000000 in
theorem rootFloats_ways (a s : Nat) (f : Int) (o : Option Nat) (w : World) (hT : Tab w)
    (C1 : Calls Tryd.prog 12 #[.int .u64 a] w fun r w' => r = .returned (.tuple #[.int .u64 s, .int .u8 f]) ∧ Below w.heap.size w w')
    (F1 : ∀ w', Calls Tryd.prog 17 #[.int .u64 a] w' fun r w'' => r = .returned (.float .f64 a) ∧ w' = w'')
    (S1 : ∀ w', Calls Tryd.prog 16 #[.float .f64 a] w' fun r w'' => r = .returned (.float .f64 (fres o a a w')) ∧ w'' = fwld o w')
    (N1 : ∀ u w', Calls Tryd.prog 14 #[.int .u64 (fres o a a u : Nat)] w' fun r w'' => r = .returned (.int .u64 s) ∧ w' = w'') :
    Calls Tryd.prog 5 #[.int .u64 a] w fun r w' => r = .returned (.bool true) ∧ Below w.heap.size w w' := by
  have K1 := hide C1; have L1 := hide F1; have M1 := hide N1; have Z1 := hide S1
  have K3 := hide (fun w' t => awake7_any w' t)
  have hB := fun R W => tobits5 R W
  clear C1 F1 N1 S1
  go_enter Tryd.func5, Tryd.ntmps5
  go_wp2_with fail
  refine Calls.mono (unhide K1) ?_
  rintro e w2 ⟨rfl, hb1⟩
  have b3 : Below w2.heap.size w2 (fwld o w2) := below_fwld o w2
  have B := hide (hb1.trans (b3.mono hb1.size))
  have HT2 := hide ((hT.all hb1).all b3)
  clear hb1 K1 b3
  go_wp2_with fail
  refine (unhide L1 _).mono ?_
  rintro e w2 ⟨rfl, rfl⟩
  go_wp2_with fail
  refine (unhide Z1 _).mono ?_
  rintro e w3 ⟨rfl, rfl⟩
  go_wp2_with fail
  refine (unhide M1 _ _).mono ?_
  rintro e w4 ⟨rfl, rfl⟩
  clear L1 M1 Z1
  go_wp2_with fail
  refine (unhide K3 _ (unhide HT2)).mono ?_
  rintro e w4 ⟨rfl, hb3⟩
  have B3 := hide ((unhide B).trans (hb3.mono (unhide B).size))
  clear hb3 K3 HT2 B
  go_wp2
  go_ret
  exact ⟨rfl, unhide B3⟩

theorem rootFloats_walk (a : Nat) (w : World) (ha : a < 18446744073709551616) (hT : Tab w) :
    Calls Tryd.prog 5 #[.int .u64 a] w fun r w' => r = .returned (.bool true) ∧ Below w.heap.size w w' :=
  rootFloats_ways a (sV a) _ (Ieee.double.sqrt a) w hT (rsqrt_any a w ha hT) (fun w' => float7_any a w' ha) (fun w' => msqrt_any a _ w' (fun W => msqrt_run a W)) (fun u w' => canon_sqrt a u w' ha)

end Go.Proofs.YtgegjhkiiejhlaaDoor

/- The reference's Whole and Sqrt of any number; the law RootRoots, walked. -/
namespace Go.Proofs.YtgegjhkiiejhlaaDoor
open Go.RowKit

theorem sh_up (x j : Nat) : (if 0 ≤ (j : Int) then x * 2 ^ (j : Int).toNat else x / 2 ^ (-(j : Int)).toNat) = x * 2 ^ j := by
  rw [if_pos (by omega), Int.toNat_natCast]

/-- The reference's Whole. -/
theorem whole7_any {w : World} {v : Value} {A k : Nat} (hv : IsNum 0 w v (A : Nat)) (hA : A < 2 ^ k) (hk : k ≤ 300) (hk2 : 200 ≤ k) :
    Calls Tryd.prog 33 #[v] w fun e w' => ∃ r, e = .returned r ∧ IsNum 0 w' r (isq A : Nat) ∧ Below w.heap.size w w' := by
  have hb := bl_lt hA
  obtain ⟨na, aa, ca, L, rfl, i1⟩ := hv
  have p1 : ∀ x : Int, x.natAbs < 4 * 2 ^ k → x.natAbs < 2 ^ (k + 2) := fun x h => by
    rw [Nat.pow_add, Nat.mul_comm]; exact h
  refine whole7_ways A (2 ^ k) (bl A / 2 + 2) (bl A) (fun j => 2 ^ j) na aa L.length ca w ⟨na, aa, ca, L, rfl, i1⟩ (by omega) rfl rfl (fun j => by rw [Nat.pow_succ, Nat.mul_comm]) (fun j hj => pow_le2 (by omega)) hA ?_ (fun x h => pow_up (k + 2) 8000 (p1 x h) (by omega)) (fun x h => ?_) (fun w' h => ?_) (fun Bq w' v j hj h => ?_)
  · show A < 2 ^ (bl A / 2 + 2) * 2 ^ (bl A / 2 + 2)
    rw [← Nat.pow_add]
    by_cases h0 : A = 0
    · rw [h0]; exact Nat.two_pow_pos _
    · exact Nat.lt_of_lt_of_le (bl_spec A h0).2.2 (pow_le2 (by omega))
  · rw [Int.natAbs_mul]
    have h1 := sq_lt (p1 x h)
    rw [← Nat.pow_add] at h1
    exact pow_up (k + 2 + (k + 2)) 8000 h1 (by omega)
  · have hk8 : k ≤ 8000 := by omega
    have := rlen6 h (by rw [Int.natAbs_natCast]; exact pow_up k 8000 hA hk8)
    rw [Int.natAbs_natCast] at this
    exact this
  · have hj2 : -16384 ≤ (j : Int) ∧ (j : Int) ≤ 16384 := by omega
    have := rshift6 (x := 1) (v := v) h (pow_up 1 8000 (by decide) (by decide)) (j : Int) hj2
    rw [sh_up, Nat.one_mul] at this
    exact this

/-- A finite number above 0: by the digits' letters. -/
theorem rsqrt7_of (a D N Q S r k sh : Nat) (X e fl : Int) (w : World) (ha : a < 18446744073709551616) (hf : fFin a = true) (h0 : fK a ≠ 0) (hs : fS a = false)
    (hD : fD a = (D : Nat)) (hX : fX a = X) (hN : N = D * 2 ^ sh) (hQ : Q = isq N) (hS : S = rS N) (hk : k = 300) (hNk : N < 2 ^ k) (hQk : Q < 2 ^ 150) (hDk : D < 9007199254740992) (bX : -2000 ≤ X ∧ X ≤ 2000)
    (hsh : (X.tmod 2 = 0 ∧ sh = 240) ∨ ((X.tmod 2 == 0) = false ∧ sh = 241)) (he : Int.tdiv (X - sh) 2 = e) (s0 : S ≠ 0) (q1 : rnd S (e - 1) = r) (q2 : rflag (oM (S : Nat)).natAbs (oE (S : Nat) (e - 1)) = fl) :
    Calls Tryd.prog 13 #[.int .u64 a] w fun e w' => e = .returned (.tuple #[.int .u64 (r : Nat), .int .u8 fl]) ∧ Below w.heap.size w w' := by
  have k4 := fin_kind hf
  have hI : ((a : Int) == 9218868437227405312) = false := by
    have : a ≠ 9218868437227405312 := fun e => by rw [e] at hf; revert hf; decide
    simp; omega
  have C1 := fun w' => rkind_any a w' ha
  have C2 := fun w' => rneg4_any a w' ha
  rw [hs] at C2
  have C3 := fun w' => rvalue_any a w' ha
  rw [hD, hX] at C3
  have hS2 : (((N : Int) - (Q : Int) * (Q : Int) = 0 → S = 2 * Q) ∧ ((N : Int) - (Q : Int) * (Q : Int) ≠ 0 → S = 2 * Q + 1)) := by
    have g := (isq_spec N).1
    rw [← hQ] at g
    have g2 : (Q : Int) * (Q : Int) = ((Q * Q : Nat) : Int) := by rw [Int.natCast_mul]
    have l := rS_left N Q (N - Q * Q) hQ rfl
    rw [hS, g2]
    clear hNk hQk
    exact ⟨fun h => l.1 (by omega), fun h => l.2 (by omega)⟩
  have bS : S < 2 ^ 250 := by
    have : S ≤ 2 * Q + 1 := by
      rcases Int.decEq ((N : Int) - (Q : Int) * (Q : Int)) 0 with h | h
      · rw [hS2.2 h]; exact Nat.le_refl _
      · rw [hS2.1 h]; exact Nat.le_succ _
    have h2 : 2 * 2 ^ 150 + 1 ≤ (2 : Nat) ^ 250 := by decide
    clear hNk
    omega
  have bE : -1000000 ≤ e - 1 ∧ e - 1 ≤ 1000000 ∧ -3000 ≤ e - 1 ∧ e - 1 ≤ 3000 ∧ -2000 ≤ e ∧ e ≤ 2000 := by
    rw [Int.tdiv_eq_ediv, show Int.sign 2 = 1 from rfl] at he
    split at he <;> omega
  have hk1 : k ≤ 300 := by omega
  have hk2 : 200 ≤ k := by omega
  have hk8 : k ≤ 8000 := by omega
  have hshb : -16384 ≤ (sh : Int) ∧ (sh : Int) ≤ 16384 := by omega
  have h53 : D < 2 ^ 53 := by
    have : (2 : Nat) ^ 53 = 9007199254740992 := by decide
    omega
  have h151 : 2 * Q < 2 ^ 151 := by
    have h2 : 2 * 2 ^ 150 = (2 : Nat) ^ 151 := by decide
    omega
  have bN : N < 2 ^ 8000 := pow_up k 8000 hNk hk8
  have bQ : Q < 2 ^ 8000 := pow_up 150 8000 hQk (by decide)
  have hQI : ((Q : Nat) : Int).natAbs < 2 ^ 8000 := by rw [Int.natAbs_natCast]; exact bQ
  have hNI : ((N : Nat) : Int).natAbs < 2 ^ 8000 := by rw [Int.natAbs_natCast]; exact bN
  have bS8 : S < 2 ^ 8000 := pow_up 250 8000 bS (by decide)
  have b2Q : 2 * Q < 2 ^ 8000 := pow_up 151 8000 h151 (by decide)
  have bD : D < 2 ^ 8000 := pow_up 53 8000 h53 (by decide)
  have bQQ : ((Q : Int) * (Q : Int)).natAbs < 2 ^ 8000 := by
    rw [Int.natAbs_mul, Int.natAbs_natCast]
    have h1 := sq_lt hQk
    rw [← Nat.pow_add] at h1
    exact pow_up (150 + 150) 8000 h1 (by decide)
  have C4 : ∀ w' v, IsNum 0 w' v ((D : Nat) : Int) → Calls Tryd.prog 32 #[v, .int .i64 (sh : Int)] w' fun e w'' => ∃ r, e = .returned r ∧ IsNum 0 w'' r (N : Nat) ∧ Below w'.heap.size w' w'' := fun w' v h => by
    have := rshift6 h bD (sh : Int) hshb
    rw [sh_up, ← hN] at this
    exact this
  have C5 : ∀ w' v, IsNum 0 w' v (N : Nat) → Calls Tryd.prog 33 #[v] w' fun e w'' => ∃ r, e = .returned r ∧ IsNum 0 w'' r (Q : Nat) ∧ Below w'.heap.size w' w'' := fun w' v h => by
    have := whole7_any h hNk hk1 hk2
    rw [← hQ] at this
    exact this
  have C7 : ∀ w' v u, IsNum 0 w' v (N : Nat) → IsNum 0 w' u ((Q : Int) * (Q : Int)) → Calls Tryd.prog 34 #[v, u] w' fun e w'' => ∃ r, e = .returned r ∧ IsNum 0 w'' r ((N : Int) - (Q : Int) * (Q : Int)) ∧ Below w'.heap.size w' w'' := fun w' v u hv hu =>
    (rsub6 hv hu hNI bQQ).mono fun e w'' ⟨r, h1, h2, h3⟩ => ⟨r, h1, h2.mono (Nat.zero_le _), h3⟩
  have C9 : ∀ w', Calls Tryd.prog 38 #[.int .i64 1] w' fun e w'' => ∃ r, e = .returned r ∧ IsNum 0 w'' r 1 ∧ Below w'.heap.size w' w'' := fun w' =>
    (rof6 w').mono fun e w'' ⟨r, h1, h2, h3⟩ => ⟨r, h1, h2.mono (Nat.zero_le _), h3⟩
  have C11 : ∀ w' v, IsNum 0 w' v (S : Nat) → Calls Tryd.prog 40 #[v, .int .i64 (e - 1)] w' fun e' w'' => ∃ u, e' = .returned u ∧ IsDy w'' u (oM (sg false S)) (oE (sg false S) (e - 1)) ∧ Below w'.heap.size w' w'' := fun w' v h =>
    rofr_nat (n := false) h bS8 ⟨bE.1, bE.2.1⟩
  have C12 : ∀ w' v, IsDy w' v (oM (sg false S)) (oE (sg false S) (e - 1)) → Calls Tryd.prog 39 #[v] w' fun e' w'' => e' = .returned (.tuple #[.int .u64 (r : Nat), .int .u8 fl]) ∧ Below w'.heap.size w' w'' := fun w' v h => by
    have := rrnd_nat (n := false) s0 bS ⟨bE.2.2.1, bE.2.2.2.1⟩ q1 q2 h
    rw [wrd_false] at this
    exact this
  rcases hsh with ⟨hp, rfl⟩ | ⟨hp, rfl⟩
  · exact rsqrt7_e a N Q S r (fK a) (D : Nat) X e _ (e - 1) _ _ fl w (by simp [k4.2]) (by simp [h0]) hI hp bX he ⟨bE.2.2.2.2.1, bE.2.2.2.2.2⟩ rfl hS2 C1 C2 C3 C4 C5 (fun w' v h => rmulw7 h h hQI hQI) C7 (fun w' v h => rdouble_nat h bQ) C9 (fun w' v u hv hu => radd_nat hv hu b2Q) C11 C12
  · exact rsqrt7_o a N Q S r (fK a) (D : Nat) X e _ (e - 1) _ _ fl w (by simp [k4.2]) (by simp [h0]) hI hp bX he ⟨bE.2.2.2.2.1, bE.2.2.2.2.2⟩ rfl hS2 C1 C2 C3 C4 C5 (fun w' v h => rmulw7 h h hQI hQI) C7 (fun w' v h => rdouble_nat h bQ) C9 (fun w' v u hv hu => radd_nat hv hu b2Q) C11 C12

end Go.Proofs.YtgegjhkiiejhlaaDoor

/- The reference's Sqrt of any number; the law RootRoots, walked. -/
namespace Go.Proofs.YtgegjhkiiejhlaaDoor
open Go.RowKit

set_option maxRecDepth 20000 in
set_option maxHeartbeats 2000000 in
theorem r7sqrt_n (a : Nat) (w : World)
    (C1 : ∀ w', Calls Tryd.prog 23 #[.int .u64 a] w' fun e w'' => e = .returned (.int .i64 4) ∧ w' = w'') :
    Calls Tryd.prog 13 #[.int .u64 a] w fun e w' => e = .returned (.tuple #[.int .u64 9221120237041090560, .int .u8 0]) ∧ Below w.heap.size w w' := by
  have K1 := hide C1
  clear C1
  go_enter Tryd.func13, Tryd.ntmps13
  go_wp2_with fail
  refine (unhide K1 _).mono ?_
  rintro e wk ⟨rfl, rfl⟩
  go_wp2
  exact bodyPost_ret (v := .tuple #[.int .u64 9221120237041090560, .int .u8 0]) (by simp [results, Tryd.results13, go_sem]) rfl ⟨rfl, Below.refl _ _⟩

set_option maxRecDepth 20000 in
set_option maxHeartbeats 2000000 in
theorem r7sqrt_z (a : Nat) (w : World)
    (C1 : ∀ w', Calls Tryd.prog 23 #[.int .u64 a] w' fun e w'' => e = .returned (.int .i64 0) ∧ w' = w'') :
    Calls Tryd.prog 13 #[.int .u64 a] w fun e w' => e = .returned (.tuple #[.int .u64 (a : Nat), .int .u8 0]) ∧ Below w.heap.size w w' := by
  have K1 := hide C1
  clear C1
  go_enter Tryd.func13, Tryd.ntmps13
  go_wp2_with fail
  refine (unhide K1 _).mono ?_
  rintro e wk ⟨rfl, rfl⟩
  go_wp2_with fail
  refine (unhide K1 _).mono ?_
  rintro e wk ⟨rfl, rfl⟩
  go_wp2
  exact bodyPost_ret (v := .tuple #[.int .u64 (a : Nat), .int .u8 0]) (by simp [results, Tryd.results13, go_sem]) rfl ⟨rfl, Below.refl _ _⟩

set_option maxRecDepth 20000 in
set_option maxHeartbeats 2000000 in
theorem r7sqrt_i (a : Nat) (k : Int) (w : World) (h4 : (k == 4) = false) (h0 : (k == 0) = false) (hI : ((a : Int) == 9218868437227405312) = true)
    (C1 : ∀ w', Calls Tryd.prog 23 #[.int .u64 a] w' fun e w'' => e = .returned (.int .i64 k) ∧ w' = w'') :
    Calls Tryd.prog 13 #[.int .u64 a] w fun e w' => e = .returned (.tuple #[.int .u64 (a : Nat), .int .u8 0]) ∧ Below w.heap.size w w' := by
  have K1 := hide C1
  clear C1
  go_enter Tryd.func13, Tryd.ntmps13
  go_wp2_with fail
  refine (unhide K1 _).mono ?_
  rintro e wk ⟨rfl, rfl⟩
  go_wp2_with fail
  refine (unhide K1 _).mono ?_
  rintro e wk ⟨rfl, rfl⟩
  go_wp2
  exact bodyPost_ret (v := .tuple #[.int .u64 (a : Nat), .int .u8 0]) (by simp [results, Tryd.results13, go_sem]) rfl ⟨rfl, Below.refl _ _⟩

set_option maxRecDepth 20000 in
set_option maxHeartbeats 2000000 in
theorem r7sqrt_m (a : Nat) (k : Int) (w : World) (h4 : (k == 4) = false) (h0 : (k == 0) = false) (hI : ((a : Int) == 9218868437227405312) = false)
    (C1 : ∀ w', Calls Tryd.prog 23 #[.int .u64 a] w' fun e w'' => e = .returned (.int .i64 k) ∧ w' = w'')
    (C2 : ∀ w', Calls Tryd.prog 20 #[.int .u64 a] w' fun e w'' => e = .returned (.bool true) ∧ w' = w'') :
    Calls Tryd.prog 13 #[.int .u64 a] w fun e w' => e = .returned (.tuple #[.int .u64 9221120237041090560, .int .u8 16]) ∧ Below w.heap.size w w' := by
  have K1 := hide C1; have K2 := hide C2
  clear C1 C2
  go_enter Tryd.func13, Tryd.ntmps13
  go_wp2_with fail
  refine (unhide K1 _).mono ?_
  rintro e wk ⟨rfl, rfl⟩
  go_wp2_with fail
  refine (unhide K1 _).mono ?_
  rintro e wk ⟨rfl, rfl⟩
  go_wp2_with fail
  refine (unhide K2 _).mono ?_
  rintro e wk ⟨rfl, rfl⟩
  go_wp2
  exact bodyPost_ret (v := .tuple #[.int .u64 9221120237041090560, .int .u8 16]) (by simp [results, Tryd.results13, go_sem]) rfl ⟨rfl, Below.refl _ _⟩

theorem odd_lt (D sh k : Nat) (hD : D < 9007199254740992) (hsh : sh ≤ 241) (hk : k = 300) : D * 2 ^ sh < 2 ^ k := by
  have h53 : D < 2 ^ 53 := by
    have : (2 : Nat) ^ 53 = 9007199254740992 := by decide
    omega
  have h1 : D * 2 ^ sh < 2 ^ 53 * 2 ^ sh := (Nat.mul_lt_mul_right (Nat.two_pow_pos sh)).2 h53
  rw [← Nat.pow_add] at h1
  exact Nat.lt_of_lt_of_le h1 (pow_le2 (by omega))

/-- The digits behind the reference's root. -/
def uN (a sh : Nat) : Nat := (fD a).natAbs * 2 ^ sh
theorem uN_root (a sh : Nat) (e : Int) (ha : a < 18446744073709551616) (fa : fFin a = true) (a0 : fK a ≠ 0) (hsh : 240 ≤ sh) (he : 2 * e = fX a - sh) :
    rnd (rS (uN a sh)) (e - 1) = tV a ∧ rflag (oM (rS (uN a sh) : Nat)).natAbs (oE (rS (uN a sh) : Nat) (e - 1)) = tF a := root_odd a sh e ha fa a0 hsh he
theorem uN_lt (a sh k : Nat) (ha : a < 18446744073709551616) (fa : fFin a = true) (a0 : fK a ≠ 0) (hsh : sh ≤ 241) (hk : k = 300) : uN a sh < 2 ^ k := odd_lt _ _ _ (dS_facts a ha fa a0).2.2.2.2.2.2.2 hsh hk
theorem isq_pow (N m : Nat) (h : N < 2 ^ (m + m)) : isq N < 2 ^ m := isq_lt (by rw [← Nat.pow_add]; exact h)
theorem uN_isq (a sh m : Nat) (hm : m = 150) (ha : a < 18446744073709551616) (fa : fFin a = true) (a0 : fK a ≠ 0) (hsh : sh ≤ 241) : isq (uN a sh) < 2 ^ m := isq_pow (uN a sh) m (uN_lt a sh (m + m) ha fa a0 hsh (by omega))
theorem uN_ne (a sh : Nat) (ha : a < 18446744073709551616) (fa : fFin a = true) (a0 : fK a ≠ 0) : rS (uN a sh) ≠ 0 := by
  have h7 := (dS_facts a ha fa a0).2.2.2.2.2.2.1
  have h1 : 1 ≤ uN a sh := Nat.mul_pos (by omega) (Nat.two_pow_pos sh)
  have h := isq_mono h1
  have : isq 1 = 1 := by decide
  unfold rS
  omega

/-- The reference's root of any number. -/
theorem r7sqrt_any (a : Nat) (w : World) (ha : a < 18446744073709551616) :
    Calls Tryd.prog 13 #[.int .u64 a] w fun r w' => r = .returned (.tuple #[.int .u64 (sV a : Nat), .int .u8 (sF a)]) ∧ Below w.heap.size w w' := by
  have C1 := fun w' => rkind_any a w' ha
  have C2 := fun w' => rneg4_any a w' ha
  by_cases a4 : fK a = 4
  · rw [show sV a = 9221120237041090560 by unfold sV; rw [if_pos a4], show sF a = 0 by unfold sF; rw [if_pos a4]]
    rw [a4] at C1
    exact r7sqrt_n a w C1
  by_cases a0 : fK a = 0
  · rw [show sV a = a by unfold sV; rw [if_neg a4, if_pos (Or.inl a0)], show sF a = 0 by unfold sF; rw [if_neg a4, if_pos (Or.inl a0)]]
    rw [a0] at C1
    exact r7sqrt_z a w C1
  by_cases aI : a = 9218868437227405312
  · rw [show sV a = a by unfold sV; rw [if_neg a4, if_pos (Or.inr aI)], show sF a = 0 by unfold sF; rw [if_neg a4, if_pos (Or.inr aI)]]
    exact r7sqrt_i a _ w (by simp [a4]) (by simp [a0]) (by simp; omega) C1
  have hne : ¬ (fK a = 0 ∨ a = 9218868437227405312) := by omega
  cases hs : fS a
  · rw [show sV a = tV a by unfold sV; rw [if_neg a4, if_neg hne, if_neg (by rw [hs]; decide)], show sF a = tF a by unfold sF; rw [if_neg a4, if_neg hne, if_neg (by rw [hs]; decide)]]
    have a3 : fK a ≠ 3 := fun h => aI (by
      have := b_wrd a ha
      rw [hs, wrd_false] at this
      have h3 := ((fK_rungs a).2.1.1 h)
      omega)
    have fa := fin_of a a3 a4
    obtain ⟨x1, x2, x3, x4, x5, x6, x7, x8⟩ := dS_facts a ha fa a0
    have hz : fD a = (((fD a).natAbs : Nat) : Int) := by have := fD_pos a ha fa a0 hs; omega
    have htm : Int.tmod (fX a) 2 = 0 ∧ fX a % 2 = 0 ∨ (Int.tmod (fX a) 2 == 0) = false ∧ fX a % 2 = 1 := by
      rcases Int.emod_two_eq (fX a) with h | h
      · exact .inl ⟨by rw [Int.tmod_eq_emod]; split <;> simp <;> omega, h⟩
      · refine .inr ⟨?_, h⟩
        simp only [beq_eq_false_iff_ne, ne_eq]
        rw [Int.tmod_eq_emod]
        split <;> simp <;> omega
    obtain ⟨sh, hsh1, hsh2, hsh3⟩ : ∃ sh : Nat, ((Int.tmod (fX a) 2 = 0 ∧ sh = 240) ∨ ((Int.tmod (fX a) 2 == 0) = false ∧ sh = 241)) ∧ (fX a - (sh : Int)) % 2 = 0 ∧ 240 ≤ sh ∧ sh ≤ 241 := by
      rcases htm with ⟨h1, h2⟩ | ⟨h1, h2⟩
      · exact ⟨240, .inl ⟨h1, rfl⟩, by omega, by omega⟩
      · exact ⟨241, .inr ⟨h1, rfl⟩, by omega, by omega⟩
    obtain ⟨e, he⟩ : ∃ e : Int, 2 * e = fX a - sh := ⟨(fX a - sh) / 2, by omega⟩
    have he2 : Int.tdiv (fX a - sh) 2 = e := by rw [← he, Int.mul_tdiv_cancel_left _ (by decide)]
    obtain ⟨q1, q2⟩ := uN_root a sh e ha fa a0 hsh3.1 he
    exact rsqrt7_of a (fD a).natAbs (uN a sh) (isq (uN a sh)) (rS (uN a sh)) (tV a) 300 sh (fX a) e (tF a) w ha fa a0 hs hz rfl rfl rfl rfl rfl (uN_lt a sh 300 ha fa a0 hsh3.2 rfl) (uN_isq a sh 150 rfl ha fa a0 hsh3.2) x8 (by omega) hsh1 he2 (uN_ne a sh ha fa a0) q1 q2
  · rw [show sV a = 9221120237041090560 by unfold sV; rw [if_neg a4, if_neg hne, if_pos hs], show sF a = 16 by unfold sF; rw [if_neg a4, if_neg hne, if_pos hs]]
    rw [hs] at C2
    exact r7sqrt_m a _ w (by simp [a4]) (by simp [a0]) (by simp; omega) C1 C2

set_option maxRecDepth 20000 in
set_option maxHeartbeats 2000000 in
theorem rootRoots_walk (a : Nat) (w : World) (ha : a < 18446744073709551616) (hT : Tab w) :
    Calls Tryd.prog 4 #[.int .u64 a] w fun r w' => r = .returned (.bool true) ∧ Below w.heap.size w w' := by
  have K1 := hide (rsqrt_any a w ha hT)
  have K2 := hide (fun w' => r7sqrt_any a w' ha)
  have K3 := hide (fun w' t => awake7_any w' t)
  clear ha
  generalize sV a = o at *
  generalize sF a = fl at *
  go_enter Tryd.func4, Tryd.ntmps4
  go_wp2_with fail
  refine Calls.mono (unhide K1) ?_
  rintro e w1 ⟨rfl, hb1⟩
  have B1 := hide hb1
  clear hb1 K1
  go_wp2_with fail
  refine (unhide K2 _).mono ?_
  rintro e w2 ⟨rfl, hb1⟩
  have B2 := hide ((unhide B1).trans (hb1.mono (unhide B1).size))
  clear hb1 K2 B1
  go_wp2_with fail
  refine (unhide K3 _ (hT.all (unhide B2))).mono ?_
  rintro e w3 ⟨rfl, hb1⟩
  have B3 := hide ((unhide B2).trans (hb1.mono (unhide B2).size))
  clear hb1 K3 B2
  go_wp2
  go_ret
  exact ⟨rfl, unhide B3⟩

end Go.Proofs.YtgegjhkiiejhlaaDoor

/- A struct of a sign and limbs that came in, opened. -/
namespace Go.Proofs.YtgegjhkiiejhlaaDoor
open Go.ChangeShapes Go.WideShapes Go.ChangeAt Go.RowKit Go.Joins

theorem Tryd.own : ownKnob Tryd.prog.godebug = none := by kernel_rfl
theorem Tryd.laidOut : laidOutB Tryd.prog = true := by kernel_rfl
theorem Tryd.cellsW : Tryd.prog.cellsOf 44 = 2 := by kernel_rfl
theorem Tryd.cellsU : Tryd.prog.cellsOf 77 = 1 := by kernel_rfl
theorem Tryd.bytesU : Tryd.prog.bytesOf 77 = 4 := by kernel_rfl

theorem bounds_of_u32 {x : Int} (h : (Lit.int .u32 x).wf = true) : 0 ≤ x ∧ x < 4294967296 := by
  simp [Lit.wf, IntKind.min, IntKind.max, IntKind.signed, IntKind.bits] at h
  omega

theorem limbs_of_ints {W : World} {a : Addr} {len cap : Nat} {zs : List Int} (hl : len ≤ cap) (hz : zs.length = cap) (hc : ∀ i, i < zs.length → W.cell? (a.add i) = some (.int .u32 (zs.getD i 0))) (hw : ∀ n ∈ zs, (Lit.int .u32 n).wf = true) :
    LimbsAt W (some a) cap ((zs.take len).map Int.toNat) ∧ ((zs.take len).map Int.toNat).length = len := by
  have hlen : ((zs.take len).map Int.toNat).length = len := by simp; omega
  refine ⟨⟨by omega, ?_, ?_⟩, hlen⟩
  · intro x hx
    obtain ⟨y, hy, rfl⟩ := List.mem_map.1 hx
    have := bounds_of_u32 (hw y (List.mem_of_mem_take hy))
    omega
  · rcases Nat.eq_zero_or_pos len with rfl | hp
    · left; simp
    · right
      obtain ⟨b, off, spot⟩ := a
      have h0 := hc 0 (by omega)
      have hspot : spot = none := by simpa [Addr.add] using World.cell?_spot h0
      subst hspot
      have hb : b < W.heap.size := by
        have := World.block_lt_of_cell? W _ h0
        simpa [Addr.add] using this
      refine ⟨b, off, rfl, hb, fun i hi => ?_⟩
      have h1 := hc i (by omega)
      have h2 : (0 : Int) ≤ zs[i]'(by omega) := (bounds_of_u32 (hw _ (List.getElem_mem _))).1
      have h3 : (⟨b, off, none⟩ : Addr).add i = ⟨b, off + i, none⟩ := by simp [Addr.add]
      rw [h3] at h1
      rw [h1]
      have e : ((zs.take len).map Int.toNat)[i]?.getD 0 = (zs[i]'(by omega)).toNat := by
        rw [List.getElem?_map, List.getElem?_take, if_pos (by omega), List.getElem?_eq_getElem (by omega)]; rfl
      rw [e, List.getD_eq_getElem?_getD, List.getElem?_eq_getElem (by omega)]
      simp only [Option.getD_some, Option.some.injEq, Value.int.injEq, true_and]
      omega

set_option maxRecDepth 20000 in
/-- A number that came in: its sign, its limbs, where they lie; by the row's own reach they are not too many. -/
theorem open_whole {H : Type} {enc : TypeId × Value → H} {W : World} {base : Nat} {v : Value} {d : DataW H} {p : List MemPlace} (hval : Value.okWide Tryd.prog W .any base 44 v) (h : DataW.Trod enc Tryd.prog W 0 (fun _ => true) true 44 v d p)
    (hs : ∀ n ∈ d.weights Tryd.prog 44, n ≤ reachBytes) :
    ∃ neg ao cap L, v = .agg #[.bool neg, .slice ao L.length cap] ∧ LimbsAt W ao cap L ∧ L.length ≤ 35184372087808 := by
  obtain ⟨c0, c1, y0, y1, m, rfl, rfl, rfl, hy0, hy1⟩ := open_agg2 Tryd.underlying44 (by kernel_rfl) Tryd.cellsW hval h
  obtain ⟨neg, e0, rfl⟩ := DataW.trod_bool Tryd.underlying4 hy0
  simp at e0
  subst e0
  rcases open_ints Tryd.underlying42 Tryd.underlying77 Tryd.cellsU hy1 with ⟨hcs, _⟩ | ⟨a, len, cap, zs, hcs, _, hl, hm, hz, rfl, hcell, hwz⟩
  · simp at hcs
    subst hcs
    exact ⟨neg, none, 0, [], rfl, LimbsAt.nil _ _ _, by simp⟩
  · simp at hcs
    subst hcs
    obtain ⟨h1, h2⟩ := limbs_of_ints hl (by simpa using hz) hcell hwz
    refine ⟨neg, some a, cap, _, by rw [h2], h1, ?_⟩
    have hk := hs ((zs.length) * 4) (by
      simp only [DataW.weights, Tryd.underlying44, DataW.weightsEach, List.map, Tryd.underlying42, List.nil_append, List.append_nil, List.mem_cons, Tryd.bytesU, lits, List.length_map, List.length_take, List.length_drop]
      left
      omega)
    simp only [reachBytes] at hk
    rw [h2]
    have : zs.length = cap := by simpa using hz
    omega

end Go.Proofs.YtgegjhkiiejhlaaDoor

