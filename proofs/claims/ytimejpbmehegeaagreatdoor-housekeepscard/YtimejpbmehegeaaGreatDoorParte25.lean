/- Part 25 of the texts. -/
import Derived.Test.YtimejpbmehegeaaGreatDoorParte24
import Derived.Test.YtimejpbmehegeaaGreatDoorParte19
import Derived.Test.YtimejpbmehegeaaGreatDoorParte18
import Derived.Deep.Cut
import Derived.BigQuiet
import Derived.Test.YtimejpbmehegeaaGreatDoorParte17
/- Mirrors one after another: sizes, forth and back, with errors at each step. Ahead of stage 14. -/
namespace Go.Proofs.YtimejpbmehegeaaGreatDoor
open Go.RowKit
/-- What forth and back again may differ by, in parts of ε. -/
def bk (ε : Rat) : Nat → Rat
  | 0 => 0
  | k + 1 => 3 + (1 + 2 * ε) * (1 + 2 * ε) * bk ε k
end Go.Proofs.YtimejpbmehegeaaGreatDoor

/- Columns of noughts; the step of any column; the mirror's vector among all rows. Ahead of stage 14. -/
namespace Go.Proofs.YtimejpbmehegeaaGreatDoor
open Go.RowKit

theorem mul_noughts (a b : Nat) (fa : fFin a = true) (fb : fFin b = true) (h : fQ a * fQ b = 0) : fFin (mV a b) = true ∧ fQ (mV a b) = 0 := by
  have a0 : ab (0 : Rat) = 0 := by unfold ab; grind
  have hf := mul_fin a b fa fb (by rw [h, a0]; exact p2_pos _)
  refine ⟨hf, ?_⟩
  have e := mul_err a b fa fb hf
  rw [h, a0, show fQ (mV a b) - 0 = fQ (mV a b) by grind] at e
  rcases e with e | ⟨_, e⟩
  · have := le_ab (fQ (mV a b)); have := ab_0 (fQ (mV a b)); grind
  · have hp := p2_pos (-1074)
    unfold fQ at e ⊢
    rw [ab_mul, ab_pos (Rat.le_of_lt hp)] at e
    obtain ⟨z, hz⟩ : ∃ z : Int, fZ (mV a b) = z := ⟨_, rfl⟩
    rw [hz] at e ⊢
    rcases Int.lt_trichotomy z 0 with g | g | g
    · exfalso
      have k : (z : Rat) ≤ ((-1 : Int) : Rat) := Rat.intCast_le_intCast.2 (by omega)
      have k2 : ((-1 : Int) : Rat) = -1 := rfl
      have l := le_ab (z : Rat)
      have m := Rat.mul_le_mul_of_nonneg_left (show 1 ≤ ab (z : Rat) by grind) (Rat.le_of_lt hp)
      generalize p2 (-1074) = P at *
      grind
    · rw [g]
      have k2 : ((0 : Int) : Rat) = 0 := rfl
      rw [k2]
      grind
    · exfalso
      have k : ((1 : Int) : Rat) ≤ (z : Rat) := Rat.intCast_le_intCast.2 (by omega)
      have k2 : ((1 : Int) : Rat) = 1 := rfl
      have l := le_ab (z : Rat)
      have m := Rat.mul_le_mul_of_nonneg_left (show 1 ≤ ab (z : Rat) by grind) (Rat.le_of_lt hp)
      generalize p2 (-1074) = P at *
      grind

theorem add_noughts (a b : Nat) (fa : fFin a = true) (fb : fFin b = true) (h : fQ a + fQ b = 0) : fFin (aV a b) = true ∧ fQ (aV a b) = 0 := by
  have a0 : ab (0 : Rat) = 0 := by unfold ab; grind
  have hf := add_fin a b fa fb (by rw [h, a0]; exact p2_pos _)
  refine ⟨hf, ?_⟩
  have e := add_err a b fa fb hf
  rw [h, a0, show fQ (aV a b) - 0 = fQ (aV a b) by grind] at e
  have := le_ab (fQ (aV a b)); have := ab_0 (fQ (aV a b)); grind

theorem dot_noughts : ∀ (vs ys : List Nat) (s : Nat), fFin s = true → fQ s = 0 → (∀ v ∈ vs, fFin v = true) → (∀ y ∈ ys, fFin y = true ∧ fQ y = 0) → fFin (dtV s vs ys) = true ∧ fQ (dtV s vs ys) = 0 := by
  intro vs
  induction vs with
  | nil =>
    intro ys s f1 f2 _ _
    have e : dtV s [] ys = s := by cases ys <;> rfl
    rw [e]
    exact ⟨f1, f2⟩
  | cons v vs ih =>
    intro ys s f1 f2 hv hy
    cases ys with
    | nil => exact ⟨f1, f2⟩
    | cons y ys =>
      obtain ⟨y1, y2⟩ := hy y List.mem_cons_self
      obtain ⟨m1, m2⟩ := mul_noughts v y (hv v List.mem_cons_self) y1 (by rw [y2]; grind)
      obtain ⟨a1, a2⟩ := add_noughts s (mV v y) f1 m1 (by rw [f2, m2]; grind)
      exact ih ys _ a1 a2 (fun w hw => hv w (List.mem_cons_of_mem _ hw)) (fun w hw => hy w (List.mem_cons_of_mem _ hw))

end Go.Proofs.YtimejpbmehegeaaGreatDoor

/- Contracts of package sum: nought, addFinite, Add, Sub. -/
namespace Go.Proofs.YtimejpbmehegeaaGreatDoor
open Go.RowKit

def aO (s t : Bool) : Nat := if (s && t) = true then 9223372036854775808 else 0

set_option maxRecDepth 20000 in
set_option maxHeartbeats 2000000 in
theorem nought_any (a b : Nat) (w : World) (ha : a < 18446744073709551616) (hb : b < 18446744073709551616) :
    Calls Tryz.prog 166 #[.int .u64 a, .int .u64 b] w fun e w' => e = .returned (.int .u64 (aO (fS a) (fS b) : Nat)) ∧ Below w.heap.size w w' := by
  have C1 := hide (fun w' => ssign_any a w' ha)
  have C2 := hide (fun w' => ssign_any b w' hb)
  generalize fS a = s at *
  generalize fS b = t at *
  clear ha hb
  go_enter Tryz.func166, Tryz.ntmps166
  go_wp2_with fail
  refine (unhide C1 _).mono ?_
  rintro e w1 ⟨rfl, hb1⟩
  cases s
  · go_wp2
    go_ret
    exact ⟨rfl, hb1⟩
  · go_wp2_with fail
    refine (unhide C2 _).mono ?_
    rintro e w2 ⟨rfl, hb2⟩
    cases t
    · go_wp2
      go_ret
      exact ⟨rfl, hb1.trans (hb2.mono hb1.size)⟩
    · go_wp2
      go_ret
      exact ⟨rfl, hb1.trans (hb2.mono hb1.size)⟩

theorem dy_len {w : World} {n : Bool} {a : Option Addr} {l c : Nat} {e m X : Int} (h : IsDy w (.agg #[.bool n, .slice a l c, .int .i64 e]) m X) : ((l : Int) == 0) = decide (m = 0) := by
  obtain ⟨n', a', c', L', e1, _, e3, _, e5, _⟩ := h.parts
  simp only [Value.agg.injEq, Array.mk.injEq, List.cons.injEq, Value.slice.injEq] at e1
  have e2 := e1.2.1.2.1
  by_cases h0 : m = 0
  · have : L' = [] := (val_zero_of_canon L' e3).1 (by rw [e5, h0]; rfl)
    rw [decide_eq_true h0, e2, this]; rfl
  · have : L'.length ≠ 0 := fun h1 => by
      have : L' = [] := List.length_eq_zero_iff.1 h1
      rw [this] at e5
      simp [val] at e5
      omega
    rw [decide_eq_false h0]; simp; omega

set_option maxRecDepth 20000 in
set_option maxHeartbeats 4000000 in
theorem addFinite_z (a b : Nat) (z1 z2 X1 X2 X3 : Int) (w : World) (o : Nat)
    (C1 : ∀ w', Below w.heap.size w w' → Calls Tryz.prog 142 #[.int .u64 a] w' fun r w'' => DyR w'' r 0 z1 X1 ∧ Below w'.heap.size w' w'')
    (C2 : ∀ w', Below w.heap.size w w' → Calls Tryz.prog 142 #[.int .u64 b] w' fun r w'' => DyR w'' r 0 z2 X2 ∧ Below w'.heap.size w' w'')
    (C3 : ∀ w' v u, Below w.heap.size w w' → IsDy w' v z1 X1 → IsDy w' u z2 X2 → Calls Tryz.prog 165 #[v, u] w' fun r w'' => DyR w'' r 0 0 X3 ∧ Below w'.heap.size w' w'')
    (C4 : ∀ w', Calls Tryz.prog 166 #[.int .u64 a, .int .u64 b] w' fun r w'' => r = .returned (.int .u64 (o : Nat)) ∧ Below w'.heap.size w' w'') :
    Calls Tryz.prog 144 #[.int .u64 a, .int .u64 b] w fun r w' => r = .returned (.tuple #[.int .u64 (o : Nat), .int .u8 0]) ∧ Below w.heap.size w w' := by
  have K1 := hide C1; have K2 := hide C2; have K3 := hide C3; have K4 := hide C4
  clear C1 C2 C3 C4
  go_enter Tryz.func144, Tryz.ntmps144
  go_wp2_with fail
  refine (unhide K1 _ (Below.refl _ _)).mono ?_
  rintro e w1 ⟨⟨v, rfl, hv⟩, hb1⟩
  obtain ⟨n1, a1, c1, L1, rfl, i1⟩ := hv
  have hb1a : Below w1.heap.size w1 (w1.alloc (.cells #[.bool n1, .slice a1 L1.length c1, .int .i64 X1] 54)) := (Below.refl _ _).alloc (Nat.le_refl _) _
  have HV := hide ((show IsDy w1 (.agg #[.bool n1, .slice a1 L1.length c1, .int .i64 X1]) z1 X1 from ⟨n1, a1, c1, L1, rfl, i1⟩).below hb1a)
  have X := hide (Box3.new w1 (.bool n1) (.slice a1 L1.length c1) (.int .i64 X1))
  have B1 := hide (hb1.trans (hb1a.mono hb1.size))
  clear i1 hb1 hb1a K1
  go_wp2_with fail
  refine (unhide K2 _ (unhide B1)).mono ?_
  rintro e w2 ⟨⟨v, rfl, hv⟩, hb1⟩
  obtain ⟨n2, a2, c2, L2, rfl, i2⟩ := hv
  have hb1a : Below w2.heap.size w2 (w2.alloc (.cells #[.bool n2, .slice a2 L2.length c2, .int .i64 X2] 54)) := (Below.refl _ _).alloc (Nat.le_refl _) _
  have HU := hide ((show IsDy w2 (.agg #[.bool n2, .slice a2 L2.length c2, .int .i64 X2]) z2 X2 from ⟨n2, a2, c2, L2, rfl, i2⟩).below hb1a)
  have HV2 := hide (((unhide HV).below hb1).below hb1a)
  have x1 := ((unhide X).all hb1).all hb1a
  have x2 := Box3.new w2 (.bool n2) (.slice a2 L2.length c2) (.int .i64 X2)
  have B2 := hide ((unhide B1).trans ((hb1.trans (hb1a.mono hb1.size)).mono (unhide B1).size))
  have y0 := x1.c0; have y1 := x1.c1; have y2 := x1.c2; have u0 := x2.c0; have u1 := x2.c1; have u2 := x2.c2
  clear i2 hb1 hb1a K2 B1 HV X x1 x2
  go_wp2_with fail
  refine (unhide K3 _ _ _ (unhide B2) (unhide HV2) (unhide HU)).mono ?_
  rintro e w3 ⟨⟨v, rfl, hv⟩, hb1⟩
  clear y0 y1 y2 u0 u1 u2
  obtain ⟨n3, a3, c3, L3, rfl, i3⟩ := hv
  have hb1a : Below w3.heap.size w3 (w3.alloc (.cells #[.bool n3, .slice a3 L3.length c3, .int .i64 X3] 54)) := (Below.refl _ _).alloc (Nat.le_refl _) _
  have HX := hide ((show IsDy w3 (.agg #[.bool n3, .slice a3 L3.length c3, .int .i64 X3]) 0 X3 from ⟨n3, a3, c3, L3, rfl, i3⟩).below hb1a)
  have hl := dy_len (unhide HX)
  rw [decide_eq_true rfl] at hl
  have B3 := hide ((unhide B2).trans ((hb1.trans (hb1a.mono hb1.size)).mono (unhide B2).size))
  have x3 := Box3.new w3 (.bool n3) (.slice a3 L3.length c3) (.int .i64 X3)
  have y0 := x3.c0; have y1 := x3.c1; have y2 := x3.c2
  clear i3 hb1 hb1a K3 B2 HV2 HU x3
  generalize L3.length = l3 at *
  go_wp2_with fail
  refine (unhide K4 _).mono ?_
  rintro e w4 ⟨rfl, hb1⟩
  have B4 := hide ((unhide B3).trans (hb1.mono (unhide B3).size))
  clear hb1 K4 B3
  go_wp2
  exact bodyPost_ret (v := .tuple #[.int .u64 o, .int .u8 0]) (by simp [results, Tryz.results144, go_sem]) rfl ⟨rfl, unhide B4⟩

set_option maxRecDepth 20000 in
set_option maxHeartbeats 4000000 in
theorem addFinite_n (a b : Nat) (z1 z2 z3 X1 X2 X3 fl : Int) (w : World) (o : Nat) (h0 : z3 ≠ 0)
    (C1 : ∀ w', Below w.heap.size w w' → Calls Tryz.prog 142 #[.int .u64 a] w' fun r w'' => DyR w'' r 0 z1 X1 ∧ Below w'.heap.size w' w'')
    (C2 : ∀ w', Below w.heap.size w w' → Calls Tryz.prog 142 #[.int .u64 b] w' fun r w'' => DyR w'' r 0 z2 X2 ∧ Below w'.heap.size w' w'')
    (C3 : ∀ w' v u, Below w.heap.size w w' → IsDy w' v z1 X1 → IsDy w' u z2 X2 → Calls Tryz.prog 165 #[v, u] w' fun r w'' => DyR w'' r 0 z3 X3 ∧ Below w'.heap.size w' w'')
    (C4 : ∀ w' v, Below w.heap.size w w' → IsDy w' v z3 X3 → Calls Tryz.prog 149 #[v] w' fun r w'' => r = .returned (.tuple #[.int .u64 (o : Nat), .int .u8 fl, .int .i64 0]) ∧ Below w'.heap.size w' w'') :
    Calls Tryz.prog 144 #[.int .u64 a, .int .u64 b] w fun r w' => r = .returned (.tuple #[.int .u64 (o : Nat), .int .u8 fl]) ∧ Below w.heap.size w w' := by
  have K1 := hide C1; have K2 := hide C2; have K3 := hide C3; have K4 := hide C4
  clear C1 C2 C3 C4
  go_enter Tryz.func144, Tryz.ntmps144
  go_wp2_with fail
  refine (unhide K1 _ (Below.refl _ _)).mono ?_
  rintro e w1 ⟨⟨v, rfl, hv⟩, hb1⟩
  obtain ⟨n1, a1, c1, L1, rfl, i1⟩ := hv
  have hb1a : Below w1.heap.size w1 (w1.alloc (.cells #[.bool n1, .slice a1 L1.length c1, .int .i64 X1] 54)) := (Below.refl _ _).alloc (Nat.le_refl _) _
  have HV := hide ((show IsDy w1 (.agg #[.bool n1, .slice a1 L1.length c1, .int .i64 X1]) z1 X1 from ⟨n1, a1, c1, L1, rfl, i1⟩).below hb1a)
  have X := hide (Box3.new w1 (.bool n1) (.slice a1 L1.length c1) (.int .i64 X1))
  have B1 := hide (hb1.trans (hb1a.mono hb1.size))
  clear i1 hb1 hb1a K1
  go_wp2_with fail
  refine (unhide K2 _ (unhide B1)).mono ?_
  rintro e w2 ⟨⟨v, rfl, hv⟩, hb1⟩
  obtain ⟨n2, a2, c2, L2, rfl, i2⟩ := hv
  have hb1a : Below w2.heap.size w2 (w2.alloc (.cells #[.bool n2, .slice a2 L2.length c2, .int .i64 X2] 54)) := (Below.refl _ _).alloc (Nat.le_refl _) _
  have HU := hide ((show IsDy w2 (.agg #[.bool n2, .slice a2 L2.length c2, .int .i64 X2]) z2 X2 from ⟨n2, a2, c2, L2, rfl, i2⟩).below hb1a)
  have HV2 := hide (((unhide HV).below hb1).below hb1a)
  have x1 := ((unhide X).all hb1).all hb1a
  have x2 := Box3.new w2 (.bool n2) (.slice a2 L2.length c2) (.int .i64 X2)
  have B2 := hide ((unhide B1).trans ((hb1.trans (hb1a.mono hb1.size)).mono (unhide B1).size))
  have y0 := x1.c0; have y1 := x1.c1; have y2 := x1.c2; have u0 := x2.c0; have u1 := x2.c1; have u2 := x2.c2
  clear i2 hb1 hb1a K2 B1 HV X x1 x2
  go_wp2_with fail
  refine (unhide K3 _ _ _ (unhide B2) (unhide HV2) (unhide HU)).mono ?_
  rintro e w3 ⟨⟨v, rfl, hv⟩, hb1⟩
  clear y0 y1 y2 u0 u1 u2
  obtain ⟨n3, a3, c3, L3, rfl, i3⟩ := hv
  have hb1a : Below w3.heap.size w3 (w3.alloc (.cells #[.bool n3, .slice a3 L3.length c3, .int .i64 X3] 54)) := (Below.refl _ _).alloc (Nat.le_refl _) _
  have HX := hide ((show IsDy w3 (.agg #[.bool n3, .slice a3 L3.length c3, .int .i64 X3]) z3 X3 from ⟨n3, a3, c3, L3, rfl, i3⟩).below hb1a)
  have hl := dy_len (unhide HX)
  rw [decide_eq_false h0] at hl
  have B3 := hide ((unhide B2).trans ((hb1.trans (hb1a.mono hb1.size)).mono (unhide B2).size))
  have x3 := Box3.new w3 (.bool n3) (.slice a3 L3.length c3) (.int .i64 X3)
  have y0 := x3.c0; have y1 := x3.c1; have y2 := x3.c2
  clear i3 hb1 hb1a K3 B2 HV2 HU x3
  generalize L3.length = l3 at *
  go_wp2_with fail
  refine (unhide K4 _ _ (unhide B3) (unhide HX)).mono ?_
  rintro e w4 ⟨rfl, hb1⟩
  have B4 := hide ((unhide B3).trans (hb1.mono (unhide B3).size))
  clear hb1 K4 B3
  go_wp2
  exact bodyPost_ret (v := .tuple #[.int .u64 o, .int .u8 fl]) (by simp [results, Tryz.results144, go_sem]) rfl ⟨rfl, unhide B4⟩

/-- Two finite numbers' sum. -/
theorem addFinite_any (a b : Nat) (w : World) (ha : a < 18446744073709551616) (hb : b < 18446744073709551616) (fa : fFin a = true) (fb : fFin b = true) (hT : Tab w) :
    Calls Tryz.prog 144 #[.int .u64 a, .int .u64 b] w fun r w' => r = .returned (.tuple #[.int .u64 (aV a b : Nat), .int .u8 (aF a b)]) ∧ Below w.heap.size w w' := by
  obtain ⟨a3, a4⟩ : fK a ≠ 3 ∧ fK a ≠ 4 := by
    rcases fK_cases a with ⟨h, _⟩ | ⟨_, h⟩
    · rw [fa] at h; cases h
    · omega
  obtain ⟨b3, b4⟩ : fK b ≠ 3 ∧ fK b ≠ 4 := by
    rcases fK_cases b with ⟨h, _⟩ | ⟨_, h⟩
    · rw [fb] at h; cases h
    · omega
  obtain ⟨d1, d2⟩ := fZ_level a ha fa
  obtain ⟨d3, d4⟩ := fZ_level b hb fb
  have l3 := aZ_Lvl a b fa fb
  have C1 : ∀ w', Below w.heap.size w w' → _ := fun w' h => value_some a w' ha fa (hT.all h)
  have C2 : ∀ w', Below w.heap.size w w' → _ := fun w' h => value_some b w' hb fb (hT.all h)
  have C3 : ∀ w' v u, Below w.heap.size w w' → IsDy w' v (fD a) (fX a) → IsDy w' u (fD b) (fX b) → _ := fun w' v u h hv hu =>
    addN (W := 2099) (lo := -1074) (z1 := fZ a) (z2 := fZ b) (by rw [d1, d2]; exact hv) (by rw [d3, d4]; exact hu) (fZ_Lvl a fa) (fZ_Lvl b fb) l3 (hT.all h)
  rw [(add_f a b a3 a4 b3 b4).1, (add_f a b a3 a4 b3 b4).2]
  by_cases h0 : aZ a b = 0
  · rw [if_pos h0, if_pos h0]
    have hz : fZ a + fZ b = 0 := h0
    rw [hz, oM_zero] at C3
    exact addFinite_z a b _ _ _ _ _ w _ C1 C2 C3 (fun w' => nought_any a b w' ha hb)
  · rw [if_neg h0, if_neg h0]
    have C4 : ∀ w' v, Below w.heap.size w w' → IsDy w' v (oM (aZ a b)) (oE (aZ a b) (-1074)) → _ := fun w' v h hv => round_dy hv l3.right.2 l3.right.1 (hT.all h)
    rw [(rnd_odd (aZ a b) (-1074)).1, oM_sign] at C4
    exact addFinite_n a b _ _ _ _ _ _ _ w _ (oM_ne _ h0).1 C1 C2 C3 C4

end Go.Proofs.YtimejpbmehegeaaGreatDoor

/- Contracts of package sum: Add, Sub; awake. -/
namespace Go.Proofs.YtimejpbmehegeaaGreatDoor
open Go.RowKit

set_option maxRecDepth 20000 in
set_option maxHeartbeats 2000000 in
theorem sadd_n1 (a b : Nat) (kb : Int) (w : World) 
    (C1 : ∀ w', Calls Tryz.prog 108 #[.int .u64 a] w' fun r w'' => r = .returned (.int .i64 4) ∧ Below w'.heap.size w' w'')
    (C2 : ∀ w', Calls Tryz.prog 108 #[.int .u64 b] w' fun r w'' => r = .returned (.int .i64 kb) ∧ Below w'.heap.size w' w'') :
    Calls Tryz.prog 113 #[.int .u64 a, .int .u64 b] w fun r w' => r = .returned (.tuple #[.int .u64 9221120237041090560, .int .u8 0]) ∧ Below w.heap.size w w' := by
  have K1 := hide C1; have K2 := hide C2
  clear C1 C2
  go_enter Tryz.func113, Tryz.ntmps113
  go_wp2_with fail
  refine (unhide K1 _).mono ?_
  rintro e w1 ⟨rfl, hb1⟩
  go_wp2_with fail
  refine (unhide K2 _).mono ?_
  rintro e w2 ⟨rfl, hb2⟩
  have B := hide (hb1.trans (hb2.mono hb1.size))
  clear hb1 hb2 K1 K2
  go_wp2
  exact bodyPost_ret (v := .tuple #[.int .u64 9221120237041090560, .int .u8 0]) (by simp [results, Tryz.results113, go_sem]) rfl ⟨rfl, unhide B⟩

set_option maxRecDepth 20000 in
set_option maxHeartbeats 2000000 in
theorem sadd_n2 (a b : Nat) (ka : Int) (w : World) (h1 : (ka == 4) = false)
    (C1 : ∀ w', Calls Tryz.prog 108 #[.int .u64 a] w' fun r w'' => r = .returned (.int .i64 ka) ∧ Below w'.heap.size w' w'')
    (C2 : ∀ w', Calls Tryz.prog 108 #[.int .u64 b] w' fun r w'' => r = .returned (.int .i64 4) ∧ Below w'.heap.size w' w'') :
    Calls Tryz.prog 113 #[.int .u64 a, .int .u64 b] w fun r w' => r = .returned (.tuple #[.int .u64 9221120237041090560, .int .u8 0]) ∧ Below w.heap.size w w' := by
  have K1 := hide C1; have K2 := hide C2
  clear C1 C2
  go_enter Tryz.func113, Tryz.ntmps113
  go_wp2_with fail
  refine (unhide K1 _).mono ?_
  rintro e w1 ⟨rfl, hb1⟩
  go_wp2_with fail
  refine (unhide K2 _).mono ?_
  rintro e w2 ⟨rfl, hb2⟩
  have B := hide (hb1.trans (hb2.mono hb1.size))
  clear hb1 hb2 K1 K2
  go_wp2
  exact bodyPost_ret (v := .tuple #[.int .u64 9221120237041090560, .int .u8 0]) (by simp [results, Tryz.results113, go_sem]) rfl ⟨rfl, unhide B⟩

set_option maxRecDepth 20000 in
set_option maxHeartbeats 2000000 in
theorem sadd_ii (a b : Nat) (w : World) (h1 : ((a : Int) == (b : Int)) = false)
    (C1 : ∀ w', Calls Tryz.prog 108 #[.int .u64 a] w' fun r w'' => r = .returned (.int .i64 3) ∧ Below w'.heap.size w' w'')
    (C2 : ∀ w', Calls Tryz.prog 108 #[.int .u64 b] w' fun r w'' => r = .returned (.int .i64 3) ∧ Below w'.heap.size w' w'') :
    Calls Tryz.prog 113 #[.int .u64 a, .int .u64 b] w fun r w' => r = .returned (.tuple #[.int .u64 9221120237041090560, .int .u8 16]) ∧ Below w.heap.size w w' := by
  have K1 := hide C1; have K2 := hide C2
  clear C1 C2
  go_enter Tryz.func113, Tryz.ntmps113
  go_wp2_with fail
  refine (unhide K1 _).mono ?_
  rintro e w1 ⟨rfl, hb1⟩
  go_wp2_with fail
  refine (unhide K2 _).mono ?_
  rintro e w2 ⟨rfl, hb2⟩
  have B := hide (hb1.trans (hb2.mono hb1.size))
  clear hb1 hb2 K1 K2
  go_wp2
  exact bodyPost_ret (v := .tuple #[.int .u64 9221120237041090560, .int .u8 16]) (by simp [results, Tryz.results113, go_sem]) rfl ⟨rfl, unhide B⟩

set_option maxRecDepth 20000 in
set_option maxHeartbeats 2000000 in
theorem sadd_ie (a b : Nat) (w : World) (h1 : ((a : Int) == (b : Int)) = true)
    (C1 : ∀ w', Calls Tryz.prog 108 #[.int .u64 a] w' fun r w'' => r = .returned (.int .i64 3) ∧ Below w'.heap.size w' w'')
    (C2 : ∀ w', Calls Tryz.prog 108 #[.int .u64 b] w' fun r w'' => r = .returned (.int .i64 3) ∧ Below w'.heap.size w' w'') :
    Calls Tryz.prog 113 #[.int .u64 a, .int .u64 b] w fun r w' => r = .returned (.tuple #[.int .u64 a, .int .u8 0]) ∧ Below w.heap.size w w' := by
  have K1 := hide C1; have K2 := hide C2
  clear C1 C2
  go_enter Tryz.func113, Tryz.ntmps113
  go_wp2_with fail
  refine (unhide K1 _).mono ?_
  rintro e w1 ⟨rfl, hb1⟩
  go_wp2_with fail
  refine (unhide K2 _).mono ?_
  rintro e w2 ⟨rfl, hb2⟩
  have B := hide (hb1.trans (hb2.mono hb1.size))
  clear hb1 hb2 K1 K2
  go_wp2
  exact bodyPost_ret (v := .tuple #[.int .u64 a, .int .u8 0]) (by simp [results, Tryz.results113, go_sem]) rfl ⟨rfl, unhide B⟩

set_option maxRecDepth 20000 in
set_option maxHeartbeats 2000000 in
theorem sadd_i (a b : Nat) (kb : Int) (w : World) (h1 : (kb == 4) = false) (h2 : (kb == 3) = false)
    (C1 : ∀ w', Calls Tryz.prog 108 #[.int .u64 a] w' fun r w'' => r = .returned (.int .i64 3) ∧ Below w'.heap.size w' w'')
    (C2 : ∀ w', Calls Tryz.prog 108 #[.int .u64 b] w' fun r w'' => r = .returned (.int .i64 kb) ∧ Below w'.heap.size w' w'') :
    Calls Tryz.prog 113 #[.int .u64 a, .int .u64 b] w fun r w' => r = .returned (.tuple #[.int .u64 a, .int .u8 0]) ∧ Below w.heap.size w w' := by
  have K1 := hide C1; have K2 := hide C2
  clear C1 C2
  go_enter Tryz.func113, Tryz.ntmps113
  go_wp2_with fail
  refine (unhide K1 _).mono ?_
  rintro e w1 ⟨rfl, hb1⟩
  go_wp2_with fail
  refine (unhide K2 _).mono ?_
  rintro e w2 ⟨rfl, hb2⟩
  have B := hide (hb1.trans (hb2.mono hb1.size))
  clear hb1 hb2 K1 K2
  go_wp2
  exact bodyPost_ret (v := .tuple #[.int .u64 a, .int .u8 0]) (by simp [results, Tryz.results113, go_sem]) rfl ⟨rfl, unhide B⟩

set_option maxRecDepth 20000 in
set_option maxHeartbeats 2000000 in
theorem sadd_j (a b : Nat) (ka : Int) (w : World) (h1 : (ka == 4) = false) (h2 : (ka == 3) = false)
    (C1 : ∀ w', Calls Tryz.prog 108 #[.int .u64 a] w' fun r w'' => r = .returned (.int .i64 ka) ∧ Below w'.heap.size w' w'')
    (C2 : ∀ w', Calls Tryz.prog 108 #[.int .u64 b] w' fun r w'' => r = .returned (.int .i64 3) ∧ Below w'.heap.size w' w'') :
    Calls Tryz.prog 113 #[.int .u64 a, .int .u64 b] w fun r w' => r = .returned (.tuple #[.int .u64 b, .int .u8 0]) ∧ Below w.heap.size w w' := by
  have K1 := hide C1; have K2 := hide C2
  clear C1 C2
  go_enter Tryz.func113, Tryz.ntmps113
  go_wp2_with fail
  refine (unhide K1 _).mono ?_
  rintro e w1 ⟨rfl, hb1⟩
  go_wp2_with fail
  refine (unhide K2 _).mono ?_
  rintro e w2 ⟨rfl, hb2⟩
  have B := hide (hb1.trans (hb2.mono hb1.size))
  clear hb1 hb2 K1 K2
  go_wp2
  exact bodyPost_ret (v := .tuple #[.int .u64 b, .int .u8 0]) (by simp [results, Tryz.results113, go_sem]) rfl ⟨rfl, unhide B⟩

set_option maxRecDepth 20000 in
set_option maxHeartbeats 2000000 in
theorem sadd_f (a b : Nat) (ka kb fl : Int) (o : Nat) (w : World) (h1 : (ka == 4) = false) (h2 : (ka == 3) = false) (h3 : (kb == 4) = false) (h4 : (kb == 3) = false) (hT : Tab w)
    (C3 : ∀ w', Tab w' → Calls Tryz.prog 144 #[.int .u64 a, .int .u64 b] w' fun r w'' => r = .returned (.tuple #[.int .u64 (o : Nat), .int .u8 fl]) ∧ Below w'.heap.size w' w'')
    (C1 : ∀ w', Calls Tryz.prog 108 #[.int .u64 a] w' fun r w'' => r = .returned (.int .i64 ka) ∧ Below w'.heap.size w' w'')
    (C2 : ∀ w', Calls Tryz.prog 108 #[.int .u64 b] w' fun r w'' => r = .returned (.int .i64 kb) ∧ Below w'.heap.size w' w'') :
    Calls Tryz.prog 113 #[.int .u64 a, .int .u64 b] w fun r w' => r = .returned (.tuple #[.int .u64 (o : Nat), .int .u8 fl]) ∧ Below w.heap.size w w' := by
  have K1 := hide C1; have K2 := hide C2
  clear C1 C2
  go_enter Tryz.func113, Tryz.ntmps113
  go_wp2_with fail
  refine (unhide K1 _).mono ?_
  rintro e w1 ⟨rfl, hb1⟩
  go_wp2_with fail
  refine (unhide K2 _).mono ?_
  rintro e w2 ⟨rfl, hb2⟩
  have B := hide (hb1.trans (hb2.mono hb1.size))
  clear hb1 hb2 K1 K2
  have K3 := hide C3; have HT := hide (hT.all (unhide B))
  clear C3 hT
  go_wp2_with fail
  refine (unhide K3 _ (unhide HT)).mono ?_
  rintro e w3 ⟨rfl, hb3⟩
  have B := hide ((unhide B).trans (hb3.mono (unhide B).size))
  clear hb3 K3 HT
  go_wp2
  exact bodyPost_ret (v := .tuple #[.int .u64 (o : Nat), .int .u8 fl]) (by simp [results, Tryz.results113, go_sem]) rfl ⟨rfl, unhide B⟩

/-- The sum of any two. -/
theorem sadd_any (a b : Nat) (w : World) (ha : a < 18446744073709551616) (hb : b < 18446744073709551616) (hT : Tab w) :
    Calls Tryz.prog 113 #[.int .u64 a, .int .u64 b] w fun r w' => r = .returned (.tuple #[.int .u64 (aV a b : Nat), .int .u8 (aF a b)]) ∧ Below w.heap.size w w' := by
  have C1 := fun w' => kind_any a w' ha
  have C2 := fun w' => kind_any b w' hb
  by_cases a4 : fK a = 4
  · have e1 : aV a b = 9221120237041090560 := by unfold aV; rw [if_pos (Or.inl a4)]
    have e2 : aF a b = 0 := by unfold aF; rw [if_pos (Or.inl a4)]
    rw [e1, e2]
    rw [a4] at C1
    exact sadd_n1 a b _ w C1 C2
  by_cases b4 : fK b = 4
  · have e1 : aV a b = 9221120237041090560 := by unfold aV; rw [if_pos (Or.inr b4)]
    have e2 : aF a b = 0 := by unfold aF; rw [if_pos (Or.inr b4)]
    rw [e1, e2]
    rw [b4] at C2
    exact sadd_n2 a b _ w (by simp [a4]) C1 C2
  have n4 : ¬ (fK a = 4 ∨ fK b = 4) := by omega
  by_cases a3 : fK a = 3
  · by_cases b3 : fK b = 3
    · by_cases hab : a = b
      · have e1 : aV a b = a := by unfold aV; rw [if_neg n4, if_pos a3, if_neg (fun h => h.2 hab)]
        have e2 : aF a b = 0 := by unfold aF; rw [if_neg n4, if_pos a3, if_neg (fun h => h.2 hab)]
        rw [e1, e2]
        rw [a3] at C1
        rw [b3] at C2
        exact sadd_ie a b w (by simp [hab]) C1 C2
      · have e1 : aV a b = 9221120237041090560 := by unfold aV; rw [if_neg n4, if_pos a3, if_pos ⟨b3, hab⟩]
        have e2 : aF a b = 16 := by unfold aF; rw [if_neg n4, if_pos a3, if_pos ⟨b3, hab⟩]
        rw [e1, e2]
        rw [a3] at C1
        rw [b3] at C2
        exact sadd_ii a b w (by simp; omega) C1 C2
    · have e1 : aV a b = a := by unfold aV; rw [if_neg n4, if_pos a3, if_neg (fun h => b3 h.1)]
      have e2 : aF a b = 0 := by unfold aF; rw [if_neg n4, if_pos a3, if_neg (fun h => b3 h.1)]
      rw [e1, e2]
      rw [a3] at C1
      exact sadd_i a b _ w (by simp [b4]) (by simp [b3]) C1 C2
  · by_cases b3 : fK b = 3
    · have e1 : aV a b = b := by unfold aV; rw [if_neg n4, if_neg a3, if_pos b3]
      have e2 : aF a b = 0 := by unfold aF; rw [if_neg n4, if_neg a3, if_pos b3]
      rw [e1, e2]
      rw [b3] at C2
      exact sadd_j a b _ w (by simp [a4]) (by simp [a3]) C1 C2
    · exact sadd_f a b _ _ _ _ w (by simp [a4]) (by simp [a3]) (by simp [b4]) (by simp [b3]) hT (fun w' t => addFinite_any a b w' ha hb (fin_of a a3 a4) (fin_of b b3 b4) t) C1 C2

set_option maxRecDepth 20000 in
set_option maxHeartbeats 2000000 in
theorem ssub_any (a b : Nat) (w : World) (ha : a < 18446744073709551616) (hb : b < 18446744073709551616) (hT : Tab w) :
    Calls Tryz.prog 88 #[.int .u64 a, .int .u64 b] w fun r w' => r = .returned (.tuple #[.int .u64 (aV a (fN b) : Nat), .int .u8 (aF a (fN b))]) ∧ Below w.heap.size w w' := by
  have K1 := hide (fun w' => sminus_any b w' hb)
  have K2 := hide (sadd_any a (fN b) w ha (fN_lt b hb) hT)
  clear ha hb hT
  generalize aV a (fN b) = o at *
  generalize aF a (fN b) = fl at *
  go_enter Tryz.func88, Tryz.ntmps88
  go_wp2_with fail
  refine (unhide K1 _).mono ?_
  rintro e w1 ⟨rfl, rfl⟩
  go_wp2_with fail
  refine Calls.mono (unhide K2) ?_
  rintro e w2 ⟨rfl, hb2⟩
  have B := hide hb2
  clear hb2 K1 K2
  go_wp2
  exact bodyPost_ret (v := .tuple #[.int .u64 o, .int .u8 fl]) (by simp [results, Tryz.results88, go_sem]) rfl ⟨rfl, unhide B⟩

end Go.Proofs.YtimejpbmehegeaaGreatDoor

/- The reference's sum at a level, its rounding of a number at hand; its Add and Sub of layer 5. -/
namespace Go.Proofs.YtimejpbmehegeaaGreatDoor
open Go.RowKit

theorem raddN {w : World} {v u : Value} {lo : Int} {W : Nat} {z1 z2 : Int} (hv : IsDy w v (oM z1) (oE z1 lo)) (hu : IsDy w u (oM z2) (oE z2 lo)) (h1 : Lvl lo W z1) (h2 : Lvl lo W z2) :
    Calls Tryz.prog 29 #[v, u] w fun r w' => ∃ q, r = .returned q ∧ IsDy w' q (oM (z1 + z2)) (oE (z1 + z2) lo) ∧ Below w.heap.size w w' := by
  obtain ⟨na, ao, ca, A, rfl, a1, a2, a3, a4, a5⟩ := hv.right h1.right.2
  obtain ⟨nb, bo, cb, B, rfl, b1, b2, b3, b4, b5⟩ := hu.right h2.right.2
  have x1 := dRt_in h1.right.1
  have x2 := dRt_in h2.right.1
  have t1 := h1.tops
  have t2 := h2.tops
  by_cases h0 : z1 = 0 ∧ z2 = 0
  · obtain ⟨rfl, rfl⟩ := h0
    rw [oM_zero] at a3 b3
    rw [oE_zero] at *
    have eZ : sumZ 0 0 0 0 = 0 := by decide
    have eU : upE 0 0 (lowE 0 0 0 0) = 0 := upE_ok _ _ _ (by rw [up_zero]; exact TOP_pos) (by decide)
    have := radd_any na nb ao bo ca cb A B 0 0 w a1 b1 a2 b2 (by omega) (by omega) (by rw [a3, b3]; exact eU) (by rw [a3, b3]; exact eU)
    rw [a3, b3, eZ, oM_zero, oE_zero] at this
    simpa [oM_zero, oE_zero] using this
  · obtain ⟨k, e1, e2, e3, e4, e5⟩ := low_level h1 h2 h0
    have g1 : upE (oM z1) (oE z1 lo) (lo + k) = 0 := upE_ok _ _ _ (Nat.lt_of_le_of_lt (le_scaled e2) t1) e4
    have g2 : upE (oM z2) (oE z2 lo) (lo + k) = 0 := upE_ok _ _ _ (Nat.lt_of_le_of_lt (le_scaled e3) t2) e5
    have := radd_any na nb ao bo ca cb A B _ _ w a1 b1 a2 b2 x1 x2 (by rw [a3, b3, e1]; exact g1) (by rw [a3, b3, e1]; exact g2)
    rw [a3, b3, e1] at this
    have hZ : sumZ (oM z1) (oE z1 lo) (oM z2) (oE z2 lo) * 2 ^ k = z1 + z2 := by
      unfold sumZ
      rw [e1, Int.add_mul, e2, e3]
    generalize sumZ (oM z1) (oE z1 lo) (oM z2) (oE z2 lo) = Z at *
    have hs := oM_scale Z k lo
    rw [hZ] at hs
    rw [hs.1, hs.2]
    exact this

end Go.Proofs.YtimejpbmehegeaaGreatDoor

