/- Part 19 of the texts. -/
import Derived.Test.YtceofkjefmilfaaGreatDoorParte18
import Derived.Test.YtceofkjefmilfaaGreatDoorParte14
import Derived.Test.YtceofkjefmilfaaGreatDoorParte16
import Derived.Test.YtceofkjefmilfaaGreatDoorParte15
/- Powers of two and roots of numbers, as rational ones: how far they err; when what is rounded is finite. Ahead of stage 9. -/
namespace Go.Proofs.YtceofkjefmilfaaGreatDoor
open Go.RowKit
/-- A number lies from its highest digit on, below twice that. -/
theorem xE_top (v : Nat) (E : Int) (h : v ≠ 0) : p2 ((bl v : Int) + E - 1) ≤ xE v E ∧ xE v E < p2 ((bl v : Int) + E) := by
  obtain ⟨b1, b2, b3⟩ := bl_spec v h
  have hp := p2_pos E
  constructor
  · rw [show (bl v : Int) + E - 1 = ((bl v - 1 : Nat) : Int) + E by omega, p2_add, p2_nat]
    unfold xE
    have := Rat.mul_le_mul_of_nonneg_left (Rat.natCast_le_natCast.2 b2) (Rat.le_of_lt hp)
    grind
  · rw [p2_add, p2_nat]
    unfold xE
    have := Rat.mul_lt_mul_of_pos_left (Rat.natCast_lt_natCast.2 b3) hp
    grind
theorem fD_mag (a : Nat) (ha : a < 18446744073709551616) (fa : fFin a = true) (a0 : fK a ≠ 0) (n : Int) : xE (fD a).natAbs (fX a + n) = (rv (fR a) : Rat) * p2 (-1074) * p2 n := by
  obtain ⟨β, x1, x2, x3, x4⟩ := odd_mag a ha fa a0
  unfold xE
  rw [x2, Rat.natCast_mul, ← p2_nat, show fX a + n = (β : Int) + -1074 + n by omega, p2_add, p2_add]
  grind
theorem fQ_nought (a : Nat) (a0 : fK a = 0) : fQ a = 0 := by
  have h := fQ_ab a
  rw [(fK_zero a).1 a0, rv_zero] at h
  have h2 : ab (fQ a) = 0 := by rw [h]; exact Rat.zero_mul _
  unfold ab at h2
  grind

end Go.Proofs.YtceofkjefmilfaaGreatDoor

/- Contracts of package compare: Int, Trunc, Exp. -/
namespace Go.Proofs.YtceofkjefmilfaaGreatDoor
open Go.RowKit
set_option maxRecDepth 20000 in
set_option maxHeartbeats 2000000 in
theorem exp_0 (a : Nat) (k : Int) (w : World) (hk : k = 4 ∨ k = 3 ∨ k = 0)
    (C1 : ∀ w', Calls Tryz.prog 35 #[.int .u64 a] w' fun r w'' => r = .returned (.int .i64 k) ∧ Below w'.heap.size w' w'') :
    Calls Tryz.prog 72 #[.int .u64 a] w fun r w' => r = .returned (.int .i64 0) ∧ Below w.heap.size w w' := by
  have K1 := hide C1
  clear C1
  rcases hk with rfl | rfl | rfl
  all_goals
    go_enter Tryz.func72, Tryz.ntmps72
    go_wp2_with fail
    refine (unhide K1 _).mono ?_
    rintro e w1 ⟨rfl, hb1⟩
    clear K1
    go_wp2
    go_ret
    exact ⟨rfl, hb1⟩

set_option maxRecDepth 20000 in
set_option maxHeartbeats 2000000 in
theorem exp_f (a : Nat) (k D X t : Int) (w : World) (h4 : (k == 4) = false) (h3 : (k == 3) = false) (h0 : (k == 0) = false) (ht : -2000 ≤ t ∧ t ≤ 2000) (hT : Tab w)
    (C1 : ∀ w', Calls Tryz.prog 35 #[.int .u64 a] w' fun r w'' => r = .returned (.int .i64 k) ∧ Below w'.heap.size w' w'')
    (C2 : ∀ w', Tab w' → Calls Tryz.prog 95 #[.int .u64 a] w' fun r w'' => DyR w'' r 0 D X ∧ Below w'.heap.size w' w'')
    (C3 : ∀ w' v, IsDy w' v D X → Calls Tryz.prog 96 #[v] w' fun r w'' => r = .returned (.int .i64 t) ∧ Below w'.heap.size w' w'') :
    Calls Tryz.prog 72 #[.int .u64 a] w fun r w' => r = .returned (.int .i64 (t - 1)) ∧ Below w.heap.size w w' := by
  have K1 := hide C1; have K2 := hide C2; have K3 := hide C3; have HT := hide hT
  clear C1 C2 C3 hT
  have hw := wrap_small (t - 1) (by omega)
  go_enter Tryz.func72, Tryz.ntmps72
  go_wp2_with fail
  refine (unhide K1 _).mono ?_
  rintro e w1 ⟨rfl, hb1⟩
  have B1 := hide hb1
  clear K1 hb1
  go_wp2_with fail
  refine (unhide K2 _ ((unhide HT).all (unhide B1))).mono ?_
  rintro e w2 ⟨⟨v, rfl, hv⟩, hb1⟩
  obtain ⟨n2, a2, c2, L2, rfl, i2⟩ := hv
  have hb1a : Below w2.heap.size w2 (w2.alloc (.cells #[.bool n2, .slice a2 L2.length c2, .int .i64 X] 52)) := (Below.refl _ _).alloc (Nat.le_refl _) _
  have HY := hide ((show IsDy w2 (.agg #[.bool n2, .slice a2 L2.length c2, .int .i64 X]) D X from ⟨n2, a2, c2, L2, rfl, i2⟩).below hb1a)
  have B2 := hide ((unhide B1).trans ((hb1.trans (hb1a.mono hb1.size)).mono (unhide B1).size))
  have x3 := Box3.new w2 (.bool n2) (.slice a2 L2.length c2) (.int .i64 X)
  have z0 := x3.c0; have z1 := x3.c1; have z2 := x3.c2
  clear i2 hb1 hb1a K2 x3 B1
  generalize L2.length = l2 at *
  go_wp2_with fail
  refine (unhide K3 _ _ (unhide HY)).mono ?_
  rintro e w3 ⟨rfl, hb1⟩
  have B3 := hide ((unhide B2).trans (hb1.mono (unhide B2).size))
  clear hb1 K3 B2 z0 z1 z2 HY
  go_wp2
  go_ret
  exact ⟨rfl, unhide B3⟩

theorem bl_le53 {v : Nat} (h : v < 9007199254740992) : bl v ≤ 53 := by
  by_cases h0 : v = 0
  · subst h0; decide
  · obtain ⟨b1, b2, b3⟩ := bl_spec v h0
    have := pow_lt_of (Nat.lt_of_le_of_lt b2 (by rw [p53]; exact h))
    omega

theorem dtopN {w : World} {v : Value} {D X : Int} (hv : IsDy w v D X) (h1 : D % 2 = 1) (h2 : D.natAbs < 9007199254740992) (h3 : -1074 ≤ X ∧ X ≤ 1024) :
    Calls Tryz.prog 96 #[v] w fun r w' => r = .returned (.int .i64 ((bl D.natAbs : Int) + X)) ∧ Below w.heap.size w w' := by
  obtain ⟨na, ao, ca, A, rfl, a1, a2, a3, a4, a5⟩ := hv.right (small_TOP _ (by omega))
  have := dtop_any na ao ca A X w a1 (by omega)
  have hd : drB na A X = true := a5.trans (odd_dRt h1 (by omega))
  have hv : val A = D.natAbs := by rw [← a3, natAbs_sval]
  have hl := lenL_bl a1.2.1 a2
  have hb : bl D.natAbs ≤ 53 := bl_le53 h2
  rw [hl, hv, wrap_small _ (by omega)] at this
  exact this

/-- The greatest power of two that is at most a number. -/
def eX (a : Nat) : Int := if fK a = 4 ∨ fK a = 3 ∨ fK a = 0 then 0 else (bl (fD a).natAbs : Int) + fX a - 1

theorem cexp_any (a : Nat) (w : World) (ha : a < 18446744073709551616) (hT : Tab w) :
    Calls Tryz.prog 72 #[.int .u64 a] w fun r w' => r = .returned (.int .i64 (eX a)) ∧ Below w.heap.size w w' := by
  have C1 := fun w' => kind_any a w' ha
  unfold eX
  by_cases h : fK a = 4 ∨ fK a = 3 ∨ fK a = 0
  · rw [if_pos h]
    exact exp_0 a _ w h C1
  · rw [if_neg h]
    have fa := fin_of a (by omega) (by omega)
    obtain ⟨z1, z2, z3, z4, z5, z6, z7, z8, z9⟩ := sc_facts a ha fa (by omega)
    exact exp_f a _ (fD a) (fX a) _ w (by simp; omega) (by simp; omega) (by simp; omega) (by omega) hT C1 (fun w' t => value_some a w' ha fa t) (fun w' v hv => dtopN hv z1 z2 (by omega))

end Go.Proofs.YtceofkjefmilfaaGreatDoor

/- The greatest number; the norm: right but for a part in 2^44; at least the greatest one but for a part in 2^50. Ahead of stage 9. -/
namespace Go.Proofs.YtceofkjefmilfaaGreatDoor
open Go.RowKit
/-- The greater one of two; the greatest one without signs. -/
def mx (a b : Nat) : Nat := if fK a = 4 ∨ fK b = 4 then 9221120237041090560 else if fZ a < fZ b then b else a
theorem mag_fZ (r : Nat) (h : r < 9223372036854775808) : fZ r = (rv r : Int) ∧ fR r = r ∧ fS r = false := by
  have h1 : fR r = r := by unfold fR; omega
  have h2 : fS r = false := decide_eq_false (by omega)
  refine ⟨?_, h1, h2⟩
  unfold fZ pv
  rw [h1, h2]
  rfl
theorem mx_mag (m r : Nat) (hm : m < 9218868437227405312) (hr : r < 9218868437227405312) : mx m r = max m r := by
  obtain ⟨a1, a2, a3⟩ := mag_fZ m (by omega)
  obtain ⟨b1, b2, b3⟩ := mag_fZ r (by omega)
  have k1 := (fin_kind ((fK_rungs m).2.2.2 (by rw [a2]; exact hm))).2
  have k2 := (fin_kind ((fK_rungs r).2.2.2 (by rw [b2]; exact hr))).2
  unfold mx
  rw [if_neg (by omega), a1, b1]
  rcases Nat.lt_or_ge m r with h | h
  · have := rv8_lt h
    rw [if_pos (by omega)]
    omega
  · have := rv_mono h
    rw [if_neg (by omega)]
    omega
/-- A number lies from 2^Exp on, below twice that. -/
theorem eX_top (a : Nat) (ha : a < 18446744073709551616) (fa : fFin a = true) (a0 : fK a ≠ 0) : p2 (eX a) ≤ ab (fQ a) ∧ ab (fQ a) < p2 (eX a + 1) := by
  obtain ⟨a3, a4⟩ := fin_kind fa
  obtain ⟨z1, z2, z3, z4, z5, z6, z7, z8, z9⟩ := sc_facts a ha fa a0
  have h := xE_top (fD a).natAbs (fX a) z3
  have e := fD_mag a ha fa a0 0
  rw [Int.add_zero, p2_0, Rat.mul_one, ← fQ_ab] at e
  rw [e] at h
  unfold eX
  rw [if_neg (by omega), show (bl (fD a).natAbs : Int) + fX a - 1 + 1 = (bl (fD a).natAbs : Int) + fX a by omega]
  exact h

end Go.Proofs.YtceofkjefmilfaaGreatDoor

/- Plane turns: c, s, r; c c + s s is 1, c f + s g is r, c g - s f is 0, but for some parts in 2^53. Ahead of stage 12. -/
namespace Go.Proofs.YtceofkjefmilfaaGreatDoor
open Go.RowKit
/-- The turn of two numbers that are not 0. -/
def gvK (f g : Nat) : Int := eX (max (fR f) (fR g))
def gvN (f g : Nat) : Nat := sV (aV (mV (xV f (-gvK f g)) (xV f (-gvK f g))) (mV (xV g (-gvK f g)) (xV g (-gvK f g))))

end Go.Proofs.YtceofkjefmilfaaGreatDoor

/- Contracts of package sum: nought, addFinite, Add, Sub. -/
namespace Go.Proofs.YtceofkjefmilfaaGreatDoor
open Go.RowKit

def aO (s t : Bool) : Nat := if (s && t) = true then 9223372036854775808 else 0

set_option maxRecDepth 20000 in
set_option maxHeartbeats 2000000 in
theorem nought_any (a b : Nat) (w : World) (ha : a < 18446744073709551616) (hb : b < 18446744073709551616) :
    Calls Tryz.prog 154 #[.int .u64 a, .int .u64 b] w fun e w' => e = .returned (.int .u64 (aO (fS a) (fS b) : Nat)) ∧ Below w.heap.size w w' := by
  have C1 := hide (fun w' => ssign_any a w' ha)
  have C2 := hide (fun w' => ssign_any b w' hb)
  generalize fS a = s at *
  generalize fS b = t at *
  clear ha hb
  go_enter Tryz.func154, Tryz.ntmps154
  go_wp2_with fail
  refine (unhide C1 _).mono ?_
  rintro e w1 ⟨rfl, hb1⟩
  cases s
  · go_wp2
    go_ret
    exact ⟨rfl, hb1⟩
  · go_wp2_with fail
    refine (unhide C2 _).mono ?_
    rintro e w2 ⟨rfl, hb2⟩
    cases t
    · go_wp2
      go_ret
      exact ⟨rfl, hb1.trans (hb2.mono hb1.size)⟩
    · go_wp2
      go_ret
      exact ⟨rfl, hb1.trans (hb2.mono hb1.size)⟩

theorem dy_len {w : World} {n : Bool} {a : Option Addr} {l c : Nat} {e m X : Int} (h : IsDy w (.agg #[.bool n, .slice a l c, .int .i64 e]) m X) : ((l : Int) == 0) = decide (m = 0) := by
  obtain ⟨n', a', c', L', e1, _, e3, _, e5, _⟩ := h.parts
  simp only [Value.agg.injEq, Array.mk.injEq, List.cons.injEq, Value.slice.injEq] at e1
  have e2 := e1.2.1.2.1
  by_cases h0 : m = 0
  · have : L' = [] := (val_zero_of_canon L' e3).1 (by rw [e5, h0]; rfl)
    rw [decide_eq_true h0, e2, this]; rfl
  · have : L'.length ≠ 0 := fun h1 => by
      have : L' = [] := List.length_eq_zero_iff.1 h1
      rw [this] at e5
      simp [val] at e5
      omega
    rw [decide_eq_false h0]; simp; omega

set_option maxRecDepth 20000 in
set_option maxHeartbeats 4000000 in
theorem addFinite_z (a b : Nat) (z1 z2 X1 X2 X3 : Int) (w : World) (o : Nat)
    (C1 : ∀ w', Below w.heap.size w w' → Calls Tryz.prog 95 #[.int .u64 a] w' fun r w'' => DyR w'' r 0 z1 X1 ∧ Below w'.heap.size w' w'')
    (C2 : ∀ w', Below w.heap.size w w' → Calls Tryz.prog 95 #[.int .u64 b] w' fun r w'' => DyR w'' r 0 z2 X2 ∧ Below w'.heap.size w' w'')
    (C3 : ∀ w' v u, Below w.heap.size w w' → IsDy w' v z1 X1 → IsDy w' u z2 X2 → Calls Tryz.prog 153 #[v, u] w' fun r w'' => DyR w'' r 0 0 X3 ∧ Below w'.heap.size w' w'')
    (C4 : ∀ w', Calls Tryz.prog 154 #[.int .u64 a, .int .u64 b] w' fun r w'' => r = .returned (.int .u64 (o : Nat)) ∧ Below w'.heap.size w' w'') :
    Calls Tryz.prog 129 #[.int .u64 a, .int .u64 b] w fun r w' => r = .returned (.tuple #[.int .u64 (o : Nat), .int .u8 0]) ∧ Below w.heap.size w w' := by
  have K1 := hide C1; have K2 := hide C2; have K3 := hide C3; have K4 := hide C4
  clear C1 C2 C3 C4
  go_enter Tryz.func129, Tryz.ntmps129
  go_wp2_with fail
  refine (unhide K1 _ (Below.refl _ _)).mono ?_
  rintro e w1 ⟨⟨v, rfl, hv⟩, hb1⟩
  obtain ⟨n1, a1, c1, L1, rfl, i1⟩ := hv
  have hb1a : Below w1.heap.size w1 (w1.alloc (.cells #[.bool n1, .slice a1 L1.length c1, .int .i64 X1] 52)) := (Below.refl _ _).alloc (Nat.le_refl _) _
  have HV := hide ((show IsDy w1 (.agg #[.bool n1, .slice a1 L1.length c1, .int .i64 X1]) z1 X1 from ⟨n1, a1, c1, L1, rfl, i1⟩).below hb1a)
  have X := hide (Box3.new w1 (.bool n1) (.slice a1 L1.length c1) (.int .i64 X1))
  have B1 := hide (hb1.trans (hb1a.mono hb1.size))
  clear i1 hb1 hb1a K1
  go_wp2_with fail
  refine (unhide K2 _ (unhide B1)).mono ?_
  rintro e w2 ⟨⟨v, rfl, hv⟩, hb1⟩
  obtain ⟨n2, a2, c2, L2, rfl, i2⟩ := hv
  have hb1a : Below w2.heap.size w2 (w2.alloc (.cells #[.bool n2, .slice a2 L2.length c2, .int .i64 X2] 52)) := (Below.refl _ _).alloc (Nat.le_refl _) _
  have HU := hide ((show IsDy w2 (.agg #[.bool n2, .slice a2 L2.length c2, .int .i64 X2]) z2 X2 from ⟨n2, a2, c2, L2, rfl, i2⟩).below hb1a)
  have HV2 := hide (((unhide HV).below hb1).below hb1a)
  have x1 := ((unhide X).all hb1).all hb1a
  have x2 := Box3.new w2 (.bool n2) (.slice a2 L2.length c2) (.int .i64 X2)
  have B2 := hide ((unhide B1).trans ((hb1.trans (hb1a.mono hb1.size)).mono (unhide B1).size))
  have y0 := x1.c0; have y1 := x1.c1; have y2 := x1.c2; have u0 := x2.c0; have u1 := x2.c1; have u2 := x2.c2
  clear i2 hb1 hb1a K2 B1 HV X x1 x2
  go_wp2_with fail
  refine (unhide K3 _ _ _ (unhide B2) (unhide HV2) (unhide HU)).mono ?_
  rintro e w3 ⟨⟨v, rfl, hv⟩, hb1⟩
  clear y0 y1 y2 u0 u1 u2
  obtain ⟨n3, a3, c3, L3, rfl, i3⟩ := hv
  have hb1a : Below w3.heap.size w3 (w3.alloc (.cells #[.bool n3, .slice a3 L3.length c3, .int .i64 X3] 52)) := (Below.refl _ _).alloc (Nat.le_refl _) _
  have HX := hide ((show IsDy w3 (.agg #[.bool n3, .slice a3 L3.length c3, .int .i64 X3]) 0 X3 from ⟨n3, a3, c3, L3, rfl, i3⟩).below hb1a)
  have hl := dy_len (unhide HX)
  rw [decide_eq_true rfl] at hl
  have B3 := hide ((unhide B2).trans ((hb1.trans (hb1a.mono hb1.size)).mono (unhide B2).size))
  have x3 := Box3.new w3 (.bool n3) (.slice a3 L3.length c3) (.int .i64 X3)
  have y0 := x3.c0; have y1 := x3.c1; have y2 := x3.c2
  clear i3 hb1 hb1a K3 B2 HV2 HU x3
  generalize L3.length = l3 at *
  go_wp2_with fail
  refine (unhide K4 _).mono ?_
  rintro e w4 ⟨rfl, hb1⟩
  have B4 := hide ((unhide B3).trans (hb1.mono (unhide B3).size))
  clear hb1 K4 B3
  go_wp2
  exact bodyPost_ret (v := .tuple #[.int .u64 o, .int .u8 0]) (by simp [results, Tryz.results129, go_sem]) rfl ⟨rfl, unhide B4⟩

set_option maxRecDepth 20000 in
set_option maxHeartbeats 4000000 in
theorem addFinite_n (a b : Nat) (z1 z2 z3 X1 X2 X3 fl : Int) (w : World) (o : Nat) (h0 : z3 ≠ 0)
    (C1 : ∀ w', Below w.heap.size w w' → Calls Tryz.prog 95 #[.int .u64 a] w' fun r w'' => DyR w'' r 0 z1 X1 ∧ Below w'.heap.size w' w'')
    (C2 : ∀ w', Below w.heap.size w w' → Calls Tryz.prog 95 #[.int .u64 b] w' fun r w'' => DyR w'' r 0 z2 X2 ∧ Below w'.heap.size w' w'')
    (C3 : ∀ w' v u, Below w.heap.size w w' → IsDy w' v z1 X1 → IsDy w' u z2 X2 → Calls Tryz.prog 153 #[v, u] w' fun r w'' => DyR w'' r 0 z3 X3 ∧ Below w'.heap.size w' w'')
    (C4 : ∀ w' v, Below w.heap.size w w' → IsDy w' v z3 X3 → Calls Tryz.prog 150 #[v] w' fun r w'' => r = .returned (.tuple #[.int .u64 (o : Nat), .int .u8 fl, .int .i64 0]) ∧ Below w'.heap.size w' w'') :
    Calls Tryz.prog 129 #[.int .u64 a, .int .u64 b] w fun r w' => r = .returned (.tuple #[.int .u64 (o : Nat), .int .u8 fl]) ∧ Below w.heap.size w w' := by
  have K1 := hide C1; have K2 := hide C2; have K3 := hide C3; have K4 := hide C4
  clear C1 C2 C3 C4
  go_enter Tryz.func129, Tryz.ntmps129
  go_wp2_with fail
  refine (unhide K1 _ (Below.refl _ _)).mono ?_
  rintro e w1 ⟨⟨v, rfl, hv⟩, hb1⟩
  obtain ⟨n1, a1, c1, L1, rfl, i1⟩ := hv
  have hb1a : Below w1.heap.size w1 (w1.alloc (.cells #[.bool n1, .slice a1 L1.length c1, .int .i64 X1] 52)) := (Below.refl _ _).alloc (Nat.le_refl _) _
  have HV := hide ((show IsDy w1 (.agg #[.bool n1, .slice a1 L1.length c1, .int .i64 X1]) z1 X1 from ⟨n1, a1, c1, L1, rfl, i1⟩).below hb1a)
  have X := hide (Box3.new w1 (.bool n1) (.slice a1 L1.length c1) (.int .i64 X1))
  have B1 := hide (hb1.trans (hb1a.mono hb1.size))
  clear i1 hb1 hb1a K1
  go_wp2_with fail
  refine (unhide K2 _ (unhide B1)).mono ?_
  rintro e w2 ⟨⟨v, rfl, hv⟩, hb1⟩
  obtain ⟨n2, a2, c2, L2, rfl, i2⟩ := hv
  have hb1a : Below w2.heap.size w2 (w2.alloc (.cells #[.bool n2, .slice a2 L2.length c2, .int .i64 X2] 52)) := (Below.refl _ _).alloc (Nat.le_refl _) _
  have HU := hide ((show IsDy w2 (.agg #[.bool n2, .slice a2 L2.length c2, .int .i64 X2]) z2 X2 from ⟨n2, a2, c2, L2, rfl, i2⟩).below hb1a)
  have HV2 := hide (((unhide HV).below hb1).below hb1a)
  have x1 := ((unhide X).all hb1).all hb1a
  have x2 := Box3.new w2 (.bool n2) (.slice a2 L2.length c2) (.int .i64 X2)
  have B2 := hide ((unhide B1).trans ((hb1.trans (hb1a.mono hb1.size)).mono (unhide B1).size))
  have y0 := x1.c0; have y1 := x1.c1; have y2 := x1.c2; have u0 := x2.c0; have u1 := x2.c1; have u2 := x2.c2
  clear i2 hb1 hb1a K2 B1 HV X x1 x2
  go_wp2_with fail
  refine (unhide K3 _ _ _ (unhide B2) (unhide HV2) (unhide HU)).mono ?_
  rintro e w3 ⟨⟨v, rfl, hv⟩, hb1⟩
  clear y0 y1 y2 u0 u1 u2
  obtain ⟨n3, a3, c3, L3, rfl, i3⟩ := hv
  have hb1a : Below w3.heap.size w3 (w3.alloc (.cells #[.bool n3, .slice a3 L3.length c3, .int .i64 X3] 52)) := (Below.refl _ _).alloc (Nat.le_refl _) _
  have HX := hide ((show IsDy w3 (.agg #[.bool n3, .slice a3 L3.length c3, .int .i64 X3]) z3 X3 from ⟨n3, a3, c3, L3, rfl, i3⟩).below hb1a)
  have hl := dy_len (unhide HX)
  rw [decide_eq_false h0] at hl
  have B3 := hide ((unhide B2).trans ((hb1.trans (hb1a.mono hb1.size)).mono (unhide B2).size))
  have x3 := Box3.new w3 (.bool n3) (.slice a3 L3.length c3) (.int .i64 X3)
  have y0 := x3.c0; have y1 := x3.c1; have y2 := x3.c2
  clear i3 hb1 hb1a K3 B2 HV2 HU x3
  generalize L3.length = l3 at *
  go_wp2_with fail
  refine (unhide K4 _ _ (unhide B3) (unhide HX)).mono ?_
  rintro e w4 ⟨rfl, hb1⟩
  have B4 := hide ((unhide B3).trans (hb1.mono (unhide B3).size))
  clear hb1 K4 B3
  go_wp2
  exact bodyPost_ret (v := .tuple #[.int .u64 o, .int .u8 fl]) (by simp [results, Tryz.results129, go_sem]) rfl ⟨rfl, unhide B4⟩

/-- Two finite numbers' sum. -/
theorem addFinite_any (a b : Nat) (w : World) (ha : a < 18446744073709551616) (hb : b < 18446744073709551616) (fa : fFin a = true) (fb : fFin b = true) (hT : Tab w) :
    Calls Tryz.prog 129 #[.int .u64 a, .int .u64 b] w fun r w' => r = .returned (.tuple #[.int .u64 (aV a b : Nat), .int .u8 (aF a b)]) ∧ Below w.heap.size w w' := by
  obtain ⟨a3, a4⟩ : fK a ≠ 3 ∧ fK a ≠ 4 := by
    rcases fK_cases a with ⟨h, _⟩ | ⟨_, h⟩
    · rw [fa] at h; cases h
    · omega
  obtain ⟨b3, b4⟩ : fK b ≠ 3 ∧ fK b ≠ 4 := by
    rcases fK_cases b with ⟨h, _⟩ | ⟨_, h⟩
    · rw [fb] at h; cases h
    · omega
  obtain ⟨d1, d2⟩ := fZ_level a ha fa
  obtain ⟨d3, d4⟩ := fZ_level b hb fb
  have l3 := aZ_Lvl a b fa fb
  have C1 : ∀ w', Below w.heap.size w w' → _ := fun w' h => value_some a w' ha fa (hT.all h)
  have C2 : ∀ w', Below w.heap.size w w' → _ := fun w' h => value_some b w' hb fb (hT.all h)
  have C3 : ∀ w' v u, Below w.heap.size w w' → IsDy w' v (fD a) (fX a) → IsDy w' u (fD b) (fX b) → _ := fun w' v u h hv hu =>
    addN (W := 2099) (lo := -1074) (z1 := fZ a) (z2 := fZ b) (by rw [d1, d2]; exact hv) (by rw [d3, d4]; exact hu) (fZ_Lvl a fa) (fZ_Lvl b fb) l3 (hT.all h)
  rw [(add_f a b a3 a4 b3 b4).1, (add_f a b a3 a4 b3 b4).2]
  by_cases h0 : aZ a b = 0
  · rw [if_pos h0, if_pos h0]
    have hz : fZ a + fZ b = 0 := h0
    rw [hz, oM_zero] at C3
    exact addFinite_z a b _ _ _ _ _ w _ C1 C2 C3 (fun w' => nought_any a b w' ha hb)
  · rw [if_neg h0, if_neg h0]
    have C4 : ∀ w' v, Below w.heap.size w w' → IsDy w' v (oM (aZ a b)) (oE (aZ a b) (-1074)) → _ := fun w' v h hv => round_dy hv l3.right.2 l3.right.1 (hT.all h)
    rw [(rnd_odd (aZ a b) (-1074)).1, oM_sign] at C4
    exact addFinite_n a b _ _ _ _ _ _ _ w _ (oM_ne _ h0).1 C1 C2 C3 C4

end Go.Proofs.YtceofkjefmilfaaGreatDoor

