/- Part 25 of the texts. -/
import Derived.Test.YtlbggedahpnjgaaGreatDoorPart24
import Derived.Deep.RegionHeld3
import Derived.Test.YtlbggedahpnjgaaGreatDoorPart22
import Derived.Test.YtlbggedahpnjgaaGreatDoorPart11
import Derived.Test.YtlbggedahpnjgaaGreatDoorPart12
import Derived.Test.YtlbggedahpnjgaaGreatDoorPart23
import Derived.Test.YtlbggedahpnjgaaGreatDoorPart21
import Derived.Test.YtlbggedahpnjgaaGreatDoorPart20
import Derived.Test.YtlbggedahpnjgaaGreatDoorPart18
/- The reference's Quotient. -/
namespace Go.Proofs.YtlbggedahpnjgaaGreatDoor
open Go.RowKit
attribute [local go_sem ↓] Go.wp_at_zero Go.wp_at_succ

theorem cmp_ge {x y : Int} (h : y ≤ x) : cmpI x y ≥ 0 := by unfold cmpI; split <;> (try split) <;> omega
theorem cmp_lt {x y : Int} (h : x < y) : ¬ cmpI x y ≥ 0 := by unfold cmpI; split <;> (try split) <;> omega
theorem QSt.as {w wr : World} {va vb vq vr : Value × Value} {zq zr zq' zr' : Int} (h : QSt w va vb wr vq zq vr zr) (h1 : zq = zq') (h2 : zr = zr') : QSt w va vb wr vq zq' vr zr' := by subst h1 h2; exact h
theorem QSt.start (w : World) (x y x' y' : Value) :
    QSt w (x, y) (x', y') ((((((w.alloc (.cells #[x, y] 43)).alloc (.cells #[x', y'] 43)).alloc (.cells #[.bool false, .slice none 0 0] 43)).alloc (.cells #[.bool false, .slice none 0 0] 43)).alloc (.cells #[.bool false, .slice none 0 0] 43)).alloc (.cells #[.bool false, .slice none 0 0] 43)) (.bool false, .slice none 0 0) 0 (.bool false, .slice none 0 0) 0 := by
  have s1 : ∀ (u : World) (o : Obj), (u.alloc o).heap.size = u.heap.size + 1 := fun u o => by simp
  refine ⟨((((((Below.refl _ _).alloc (Nat.le_refl _) _).alloc (by simp) _).alloc (by simp; omega) _).alloc (by simp; omega) _).alloc (by simp; omega) _).alloc (by simp; omega) _, ?_, ?_, ?_, ?_, ?_, ?_, IsNum.zero _ _ _ _, IsNum.zero _ _ _ _⟩
  · exact (((((Box2.new _ _ _).old _).old _).old _).old _).old _
  · have := ((((Box2.new (w.alloc (.cells #[x, y] 43)) x' y').old (.cells #[.bool false, .slice none 0 0] 43)).old (.cells #[.bool false, .slice none 0 0] 43)).old (.cells #[.bool false, .slice none 0 0] 43)).old (.cells #[.bool false, .slice none 0 0] 43)
    simpa using this
  · have := (((Box2.new ((w.alloc (.cells #[x, y] 43)).alloc (.cells #[x', y'] 43)) (.bool false) (.slice none 0 0)).old (.cells #[.bool false, .slice none 0 0] 43)).old (.cells #[.bool false, .slice none 0 0] 43)).old (.cells #[.bool false, .slice none 0 0] 43)
    simpa using this
  · have := ((Box2.new (((w.alloc (.cells #[x, y] 43)).alloc (.cells #[x', y'] 43)).alloc (.cells #[.bool false, .slice none 0 0] 43)) (.bool false) (.slice none 0 0)).old (.cells #[.bool false, .slice none 0 0] 43)).old (.cells #[.bool false, .slice none 0 0] 43)
    simpa using this
  · have := (Box2.new ((((w.alloc (.cells #[x, y] 43)).alloc (.cells #[x', y'] 43)).alloc (.cells #[.bool false, .slice none 0 0] 43)).alloc (.cells #[.bool false, .slice none 0 0] 43)) (.bool false) (.slice none 0 0)).old (.cells #[.bool false, .slice none 0 0] 43)
    simpa using this
  · have := Box2.new (((((w.alloc (.cells #[x, y] 43)).alloc (.cells #[x', y'] 43)).alloc (.cells #[.bool false, .slice none 0 0] 43)).alloc (.cells #[.bool false, .slice none 0 0] 43)).alloc (.cells #[.bool false, .slice none 0 0] 43)) (.bool false) (.slice none 0 0)
    simpa using this

end Go.Proofs.YtlbggedahpnjgaaGreatDoor

/- The reference's plain, and Quotient of any two. -/
namespace Go.Proofs.YtlbggedahpnjgaaGreatDoor
open Go.RowKit

/-- What is not empty lies in another block than g. -/
def AwayV (g : Nat) (ao : Option Addr) (l : Nat) : Prop := l = 0 ∨ ∃ b off, ao = some ⟨b, off, none⟩ ∧ b ≠ g
theorem IsNum.open6 {B : Nat} {w : World} {n : Bool} {ao : Option Addr} {l c : Nat} {z : Int} (h : IsNum B w (.agg #[.bool n, .slice ao l c]) z) :
    ∃ L, l = L.length ∧ LimbsAt w ao c L ∧ NewAt B ao L ∧ Canon L ∧ n = decide (z < 0) ∧ val L = z.natAbs ∧ L.length ≤ 35184372088832 := by
  obtain ⟨n', a', c', L, e1, h1, h2, h3⟩ := h
  simp only [Value.agg.injEq, Array.mk.injEq, List.cons.injEq, Value.bool.injEq, Value.slice.injEq, and_true] at e1
  obtain ⟨rfl, rfl, e2, rfl⟩ := e1
  exact ⟨L, e2, h1, h2, h3⟩
/-- Limbs lie in no box. -/
theorem IsNum.away_box {B g : Nat} {w : World} {n : Bool} {ao : Option Addr} {l c : Nat} {z : Int} (h : IsNum B w (.agg #[.bool n, .slice ao l c]) z) {x : Bool} {a' : Option Addr} {l' c' : Nat} (hb : Box2 w g (.bool x) (.slice a' l' c')) : AwayV g ao l := by
  obtain ⟨L, rfl, h1, h2, h3⟩ := h.open6
  rcases h1.2.2 with h0 | ⟨b, off, e1, e2, e3⟩
  · exact .inl (by rw [h0]; rfl)
  · rcases Nat.eq_zero_or_pos L.length with h0 | h0
    · exact .inl h0
    · refine .inr ⟨b, off, e1, fun e => ?_⟩
      subst e
      have h4 := e3 0 h0
      rw [Nat.add_zero, cell_of_row w b off _ _ _ hb] at h4
      rcases off with _ | _ | off <;> simp at h4
theorem IsNum.set_away {w : World} {n : Bool} {ao : Option Addr} {l c g i : Nat} {z : Int} (h : IsNum 0 w (.agg #[.bool n, .slice ao l c]) z) (ha : AwayV g ao l) (u : Value) : IsNum 0 (w.setCell ⟨g, i, none⟩ u) (.agg #[.bool n, .slice ao l c]) z := by
  obtain ⟨L, rfl, h1, h2, h3⟩ := h.open6
  refine ⟨n, ao, c, L, rfl, ⟨h1.1, h1.2.1, ?_⟩, ?_, h3⟩
  · rcases h1.2.2 with h0 | ⟨b, off, e1, e2, e3⟩
    · exact .inl h0
    · rcases ha with h0 | ⟨b', off', e1', hne⟩
      · exact .inl (List.length_eq_zero_iff.1 h0)
      · rw [e1] at e1'
        simp only [Option.some.injEq, Addr.mk.injEq] at e1'
        obtain ⟨rfl, rfl, _⟩ := e1'
        refine .inr ⟨b, off, e1, by simpa [World.setCell] using e2, fun i hi => ?_⟩
        rw [cell_setCell_other w _ _ u (by simpa using hne)]
        exact e3 i hi
  · rcases h2 with h0 | h0
    · exact .inl h0
    · exact .inr h0

theorem IsNum.set_box {w : World} {n : Bool} {ao : Option Addr} {l c g : Nat} {z : Int} (h : IsNum 0 w (.agg #[.bool n, .slice ao l c]) z) {x : Bool} {a' : Option Addr} {l' c' : Nat} (hb : Box2 w g (.bool x) (.slice a' l' c')) (u u' : Value) : IsNum 0 ((w.setCell ⟨g, 0, none⟩ u).setCell ⟨g, 1, none⟩ u') (.agg #[.bool n, .slice ao l c]) z :=
  (h.set_away (h.away_box hb) _).set_away (h.away_box hb) _

theorem pow_up {x : Nat} (j k : Nat) (h : x < 2 ^ j) (hk : j ≤ k) : x < 2 ^ k := Nat.lt_of_lt_of_le h (Nat.pow_le_pow_right (by decide) hk)
theorem p250 {x : Int} (h : x.natAbs < 4 * 2 ^ 250) : x.natAbs < 2 ^ 8000 := by
  have h1 : (4 : Nat) * 2 ^ 250 = 2 ^ 252 := by decide
  rw [h1] at h
  exact pow_up 252 8000 h (by decide)
theorem bl_lt {A k : Nat} (h : A < 2 ^ k) : bl A ≤ k := by
  by_cases h0 : A = 0
  · subst h0; exact Nat.zero_le _
  · obtain ⟨b1, b2, b3⟩ := bl_spec A h0
    have := pow_lt_of (Nat.lt_of_le_of_lt b2 h)
    omega
theorem bl_end (A : Nat) : A / 2 ^ bl A = 0 := by
  by_cases h0 : A = 0
  · subst h0; simp
  · exact Nat.div_eq_of_lt (bl_spec A h0).2.2
theorem sh_dn (A j : Nat) : (if 0 ≤ -(j : Int) then A * 2 ^ (-(j : Int)).toNat else A / 2 ^ (- -(j : Int)).toNat) = A / 2 ^ j := by
  by_cases h : j = 0
  · subst h; simp
  · rw [if_neg (by omega), show (- -(j : Int)).toNat = j by omega]

end Go.Proofs.YtlbggedahpnjgaaGreatDoor

/- Trunc of any number; the reference's Scale, Int, Trunc, Exp of layer 8. -/
namespace Go.Proofs.YtlbggedahpnjgaaGreatDoor
open Go.RowKit

/-- A whole number times 2^n, without what is behind the point. -/
def shI (z n : Int) : Int := if z < 0 then -((if 0 ≤ n then z.natAbs * 2 ^ n.toNat else z.natAbs / 2 ^ (-n).toNat : Nat) : Int) else ((if 0 ≤ n then z.natAbs * 2 ^ n.toNat else z.natAbs / 2 ^ (-n).toNat : Nat) : Int)
theorem shI_shV {na : Bool} {A : List Nat} {z n : Int} (h : sval na A = z) : shV na A n = shI z n := by
  have hv : val A = z.natAbs := by rw [← h, natAbs_sval]
  unfold shV shI sg
  rw [hv]
  unfold sval at h
  cases na
  · simp only [Bool.false_eq_true, if_false] at h ⊢
    rw [if_neg (show ¬ z < 0 by omega)]
  · simp only [if_true] at h ⊢
    by_cases h0 : z < 0
    · rw [if_pos h0]
    · rw [if_neg h0, show z.natAbs = 0 by omega]
      simp
theorem shI_abs (z n : Int) : (shI z n).natAbs = if 0 ≤ n then z.natAbs * 2 ^ n.toNat else z.natAbs / 2 ^ (-n).toNat := by
  unfold shI; split <;> omega
theorem pow_k (K : Nat) : (9007199254740992 : Nat) * 2 ^ K = 2 ^ (53 + K) := by rw [Nat.pow_add, p53]
theorem shI_lt (z n : Int) (k K : Nat) (hK : K = 1024) (hk : k = 53 + K) (hz : z.natAbs < 9007199254740992) (hn : -1074 ≤ n ∧ n ≤ 1024) : (shI z n).natAbs < 2 ^ k := by
  rw [shI_abs, hk, ← pow_k]
  have hp : 0 < 2 ^ K := Nat.two_pow_pos K
  split
  · have h1 : (2 : Nat) ^ n.toNat ≤ 2 ^ K := pow_le2 (by omega)
    exact Nat.lt_of_lt_of_le ((Nat.mul_lt_mul_right (Nat.two_pow_pos _)).2 hz) (Nat.mul_le_mul_left _ h1)
  · have h1 : z.natAbs / 2 ^ (-n).toNat ≤ z.natAbs := Nat.div_le_self _ _
    have h2 : 9007199254740992 * 1 ≤ 9007199254740992 * 2 ^ K := Nat.mul_le_mul_left _ hp
    omega
theorem shI_TOP (z n : Int) (hz : z.natAbs < 9007199254740992) (hn : -1074 ≤ n ∧ n ≤ 1024) : (shI z n).natAbs < TOP := lt_TOP (shI_lt z n (53 + 1024) 1024 rfl rfl hz hn) (by decide)

/-- A number without what is behind the point. -/
def tI (a : Nat) : Int := shI (fD a) (fX a)

/-- Finite numbers, noughts among them. -/
theorem tr_facts (a : Nat) (ha : a < 18446744073709551616) (fa : fFin a = true) : (fD a).natAbs < 9007199254740992 ∧ -1074 ≤ fX a ∧ fX a ≤ 1024 := by
  by_cases a0 : fK a = 0
  · have hr := (fK_zero a).1 a0
    obtain ⟨d1, d2⟩ := fZ_level a ha fa
    have hz : fZ a = 0 := by
      have := fZ_abs a
      rw [hr, rv_zero] at this
      omega
    rw [hz, oM_zero] at d1
    rw [hz, oE_zero] at d2
    rw [← d1, ← d2]
    decide
  · obtain ⟨z1, z2, z3, z4, z5, z6, z7, z8, z9⟩ := sc_facts a ha fa a0
    exact ⟨z2, z5, z6⟩

/-- Has a number a whole one of 64 bits? -/
def tB8 (a : Nat) : Bool := fFin a && fits64 (tI a)

theorem cmp_fits (T : Int) : (cmpI T (-9223372036854775808) = -1 ∧ cmpI T 9223372036854775807 = -1 ∧ fits64 T = false) ∨ (cmpI T (-9223372036854775808) = 0 ∧ cmpI T 9223372036854775807 = -1 ∧ fits64 T = true) ∨ (cmpI T (-9223372036854775808) = 1 ∧ cmpI T 9223372036854775807 = -1 ∧ fits64 T = true) ∨ (cmpI T (-9223372036854775808) = 1 ∧ cmpI T 9223372036854775807 = 0 ∧ fits64 T = true) ∨ (cmpI T (-9223372036854775808) = 1 ∧ cmpI T 9223372036854775807 = 1 ∧ fits64 T = false) := by
  unfold fits64
  rcases (show T < -9223372036854775808 ∨ T = -9223372036854775808 ∨ (-9223372036854775808 < T ∧ T < 9223372036854775807) ∨ T = 9223372036854775807 ∨ 9223372036854775807 < T by omega) with h | h | h | h | h
  · exact .inl ⟨cmpI8_lt h, cmpI8_lt (by omega), decide_eq_false (by omega)⟩
  · exact .inr (.inl ⟨cmpI8_eq h, cmpI8_lt (by omega), decide_eq_true (by omega)⟩)
  · exact .inr (.inr (.inl ⟨cmpI8_gt h.1, cmpI8_lt (by omega), decide_eq_true (by omega)⟩))
  · exact .inr (.inr (.inr (.inl ⟨cmpI8_gt (by omega), cmpI8_eq h, decide_eq_true (by omega)⟩)))
  · exact .inr (.inr (.inr (.inr ⟨cmpI8_gt (by omega), cmpI8_gt h, decide_eq_false (by omega)⟩)))

set_option maxRecDepth 20000 in
set_option maxHeartbeats 2000000 in
theorem r8exp_no (a : Nat) (k : Int) (f : Bool) (w : World) (hw : f = false ∨ (f = true ∧ k = 0))
    (C1 : ∀ w', Calls Tryz.prog 22 #[.int .u64 a] w' fun r w'' => r = .returned (.bool f) ∧ w' = w'')
    (C2 : ∀ w', Calls Tryz.prog 55 #[.int .u64 a] w' fun r w'' => r = .returned (.int .i64 k) ∧ w' = w'') :
    Calls Tryz.prog 53 #[.int .u64 a] w fun r w' => r = .returned (.int .i64 0) ∧ Below w.heap.size w w' := by
  have K1 := hide C1; have K2 := hide C2
  clear C1 C2
  rcases hw with rfl | ⟨rfl, rfl⟩
  · go_enter Tryz.func53, Tryz.ntmps53
    go_wp2_with fail
    refine (unhide K1 _).mono ?_
    rintro e w1 ⟨rfl, rfl⟩
    go_wp2
    go_ret
    exact ⟨rfl, Below.refl _ _⟩
  · go_enter Tryz.func53, Tryz.ntmps53
    go_wp2_with fail
    refine (unhide K1 _).mono ?_
    rintro e w1 ⟨rfl, rfl⟩
    go_wp2_with fail
    refine (unhide K2 _).mono ?_
    rintro e w1 ⟨rfl, rfl⟩
    go_wp2
    go_ret
    exact ⟨rfl, Below.refl _ _⟩

set_option maxRecDepth 20000 in
set_option maxHeartbeats 2000000 in
theorem r8exp_of (a : Nat) (k D X t : Int) (w : World) (h0 : (k == 0) = false) (ht : -2000 ≤ t ∧ t ≤ 2000)
    (C1 : ∀ w', Calls Tryz.prog 22 #[.int .u64 a] w' fun r w'' => r = .returned (.bool true) ∧ w' = w'')
    (C2 : ∀ w', Calls Tryz.prog 55 #[.int .u64 a] w' fun r w'' => r = .returned (.int .i64 k) ∧ w' = w'')
    (C3 : ∀ w', Calls Tryz.prog 24 #[.int .u64 a] w' fun r w'' => ∃ u, r = .returned u ∧ IsDy w'' u D X ∧ Below w'.heap.size w' w'')
    (C4 : ∀ w' v, IsDy w' v D X → Calls Tryz.prog 69 #[v] w' fun r w'' => r = .returned (.int .i64 t) ∧ Below w'.heap.size w' w'') :
    Calls Tryz.prog 53 #[.int .u64 a] w fun r w' => r = .returned (.int .i64 (t - 1)) ∧ Below w.heap.size w w' := by
  have K1 := hide C1; have K2 := hide C2; have K3 := hide C3; have K4 := hide C4
  clear C1 C2 C3 C4
  have hw := wrap_small (t - 1) (by omega)
  go_enter Tryz.func53, Tryz.ntmps53
  go_wp2_with fail
  refine (unhide K1 _).mono ?_
  rintro e w1 ⟨rfl, rfl⟩
  go_wp2_with fail
  refine (unhide K2 _).mono ?_
  rintro e w1 ⟨rfl, rfl⟩
  go_wp2_with fail
  refine (unhide K3 _).mono ?_
  rintro e w1 ⟨v, rfl, hv, hb1⟩
  obtain ⟨n1, a1, c1, L1, rfl, i1⟩ := hv
  have HX := hide (show IsDy w1 (.agg #[.bool n1, .slice a1 L1.length c1, .int .i64 X]) D X from ⟨n1, a1, c1, L1, rfl, i1⟩)
  have B1 := hide hb1
  clear i1 hb1 K1 K2 K3
  generalize L1.length = l1 at *
  go_wp2_with fail
  refine (unhide K4 _ _ (unhide HX)).mono ?_
  rintro e w2 ⟨rfl, hb1⟩
  have B2 := hide ((unhide B1).trans (hb1.mono (unhide B1).size))
  clear hb1 B1 HX K4
  go_wp2
  go_ret
  exact ⟨rfl, unhide B2⟩

theorem rtopN {w : World} {v : Value} {D X : Int} (hv : IsDy w v D X) (h1 : D % 2 = 1) (h2 : D.natAbs < 9007199254740992) (h3 : -1074 ≤ X ∧ X ≤ 1024) :
    Calls Tryz.prog 69 #[v] w fun r w' => r = .returned (.int .i64 ((bl D.natAbs : Int) + X)) ∧ Below w.heap.size w w' := by
  obtain ⟨na, ao, ca, A, rfl, a1, a2, a3, a4, a5⟩ := hv.right (small_TOP _ (by omega))
  have := rtop_any na ao ca A X w a1 (by omega) (by omega)
  have hv : val A = D.natAbs := by rw [← a3, natAbs_sval]
  have hl := lenL_bl a1.2.1 a2
  have h0 : A.length ≠ 0 := fun h => by
    have := (sval_zero_iff a2).2 h
    omega
  unfold topR at this
  rw [if_neg h0, hl, hv] at this
  exact this

theorem r8exp_any (a : Nat) (w : World) (ha : a < 18446744073709551616) :
    Calls Tryz.prog 53 #[.int .u64 a] w fun r w' => r = .returned (.int .i64 (eX a)) ∧ Below w.heap.size w w' := by
  have C1 := fun w' => rfinite_any a w' ha
  have C2 := fun w' => rkind_any a w' ha
  unfold eX
  by_cases h : fK a = 4 ∨ fK a = 3 ∨ fK a = 0
  · rw [if_pos h]
    refine r8exp_no a _ _ w ?_ C1 C2
    rcases fK_cases a with ⟨h1, _⟩ | ⟨h1, h2⟩
    · exact .inl h1
    · exact .inr ⟨h1, by omega⟩
  · rw [if_neg h]
    have fa := fin_of a (by omega) (by omega)
    obtain ⟨z1, z2, z3, z4, z5, z6, z7, z8, z9⟩ := sc_facts a ha fa (by omega)
    rw [fa] at C1
    exact r8exp_of a _ (fD a) (fX a) _ w (by simp; omega) (by omega) C1 C2 (fun w' => rvalue_any a w' ha) (fun w' v hv => rtopN hv z1 z2 (by omega))

end Go.Proofs.YtlbggedahpnjgaaGreatDoor

/- The reference's ends, Order, Abs, of layer 8. -/
namespace Go.Proofs.YtlbggedahpnjgaaGreatDoor
open Go.RowKit

/-- -1, 0 or 1, as a number is below all, finite, above all. -/
def eN (b : Nat) : Int := if fFin b = true then 0 else if fS b = true then -1 else 1

set_option maxRecDepth 20000 in
set_option maxHeartbeats 2000000 in
theorem ends_of (b : Nat) (f s : Bool) (w : World)
    (C1 : ∀ w', Calls Tryz.prog 22 #[.int .u64 b] w' fun r w'' => r = .returned (.bool f) ∧ w' = w'')
    (C2 : ∀ w', Calls Tryz.prog 23 #[.int .u64 b] w' fun r w'' => r = .returned (.bool s) ∧ w' = w'') :
    Calls Tryz.prog 110 #[.int .u64 b] w fun e w' => e = .returned (.int .i64 (if f = true then 0 else if s = true then -1 else 1)) ∧ w = w' := by
  have K1 := hide C1; have K2 := hide C2
  clear C1 C2
  cases f
  · cases s
    · go_enter Tryz.func110, Tryz.ntmps110
      go_wp2_with fail
      refine (unhide K1 _).mono ?_
      rintro e w1 ⟨rfl, rfl⟩
      go_wp2_with fail
      refine (unhide K2 _).mono ?_
      rintro e w1 ⟨rfl, rfl⟩
      go_wp2
      go_ret
      exact ⟨rfl, rfl⟩
    · go_enter Tryz.func110, Tryz.ntmps110
      go_wp2_with fail
      refine (unhide K1 _).mono ?_
      rintro e w1 ⟨rfl, rfl⟩
      go_wp2_with fail
      refine (unhide K2 _).mono ?_
      rintro e w1 ⟨rfl, rfl⟩
      go_wp2
      go_ret
      exact ⟨rfl, rfl⟩
  · go_enter Tryz.func110, Tryz.ntmps110
    go_wp2_with fail
    refine (unhide K1 _).mono ?_
    rintro e w1 ⟨rfl, rfl⟩
    go_wp2
    go_ret
    exact ⟨rfl, rfl⟩

theorem ends_any (b : Nat) (w : World) (hb : b < 18446744073709551616) :
    Calls Tryz.prog 110 #[.int .u64 b] w fun e w' => e = .returned (.int .i64 (eN b)) ∧ w = w' :=
  ends_of b (fFin b) (fS b) w (fun w' => rfinite_any b w' hb) (fun w' => rneg4_any b w' hb)

set_option maxRecDepth 20000 in
set_option maxHeartbeats 2000000 in
theorem rorder_n1 (a b : Nat) (w : World)
    (C1 : ∀ w', Calls Tryz.prog 55 #[.int .u64 a] w' fun r w'' => r = .returned (.int .i64 4) ∧ w' = w'') :
    Calls Tryz.prog 81 #[.int .u64 a, .int .u64 b] w fun r w' => r = .returned (.tuple #[.int .i64 0, .bool false]) ∧ Below w.heap.size w w' := by
  have K1 := hide C1
  clear C1
  go_enter Tryz.func81, Tryz.ntmps81
  go_wp2_with fail
  refine (unhide K1 _).mono ?_
  rintro e w1 ⟨rfl, rfl⟩
  clear K1
  go_wp2
  exact bodyPost_ret (v := .tuple #[.int .i64 0, .bool false]) (by simp [results, Tryz.results81, go_sem]) rfl ⟨rfl, Below.refl _ _⟩

set_option maxRecDepth 20000 in
set_option maxHeartbeats 2000000 in
theorem rorder_n2 (a b : Nat) (ka : Int) (w : World) (h4 : (ka == 4) = false)
    (C1 : ∀ w', Calls Tryz.prog 55 #[.int .u64 a] w' fun r w'' => r = .returned (.int .i64 ka) ∧ w' = w'')
    (C2 : ∀ w', Calls Tryz.prog 55 #[.int .u64 b] w' fun r w'' => r = .returned (.int .i64 4) ∧ w' = w'') :
    Calls Tryz.prog 81 #[.int .u64 a, .int .u64 b] w fun r w' => r = .returned (.tuple #[.int .i64 0, .bool false]) ∧ Below w.heap.size w w' := by
  have K1 := hide C1; have K2 := hide C2
  clear C1 C2
  go_enter Tryz.func81, Tryz.ntmps81
  go_wp2_with fail
  refine (unhide K1 _).mono ?_
  rintro e w1 ⟨rfl, rfl⟩
  clear K1
  go_wp2_with fail
  refine (unhide K2 _).mono ?_
  rintro e w1 ⟨rfl, rfl⟩
  clear K2
  go_wp2
  exact bodyPost_ret (v := .tuple #[.int .i64 0, .bool false]) (by simp [results, Tryz.results81, go_sem]) rfl ⟨rfl, Below.refl _ _⟩

set_option maxRecDepth 20000 in
set_option maxHeartbeats 4000000 in
theorem rorder_i (a b : Nat) (ka kb x y o : Int) (w : World) (h4 : (ka == 4) = false) (g4 : (kb == 4) = false)
    (hw : (x = 0 ∧ y = -1 ∧ o = 1) ∨ (x = 0 ∧ y = 1 ∧ o = -1) ∨ (x = -1 ∧ y = 0 ∧ o = -1) ∨ (x = 1 ∧ y = 0 ∧ o = 1) ∨ (x = -1 ∧ y = -1 ∧ o = 0) ∨ (x = 1 ∧ y = 1 ∧ o = 0) ∨ (x = -1 ∧ y = 1 ∧ o = -1) ∨ (x = 1 ∧ y = -1 ∧ o = 1))
    (C1 : ∀ w', Calls Tryz.prog 55 #[.int .u64 a] w' fun r w'' => r = .returned (.int .i64 ka) ∧ w' = w'')
    (C2 : ∀ w', Calls Tryz.prog 55 #[.int .u64 b] w' fun r w'' => r = .returned (.int .i64 kb) ∧ w' = w'')
    (C3 : ∀ w', Calls Tryz.prog 110 #[.int .u64 a] w' fun r w'' => r = .returned (.int .i64 x) ∧ w' = w'')
    (C4 : ∀ w', Calls Tryz.prog 110 #[.int .u64 b] w' fun r w'' => r = .returned (.int .i64 y) ∧ w' = w'') :
    Calls Tryz.prog 81 #[.int .u64 a, .int .u64 b] w fun r w' => r = .returned (.tuple #[.int .i64 o, .bool true]) ∧ Below w.heap.size w w' := by
  have K1 := hide C1; have K2 := hide C2; have K3 := hide C3; have K4 := hide C4
  clear C1 C2 C3 C4
  rcases hw with ⟨rfl, rfl, rfl⟩ | ⟨rfl, rfl, rfl⟩ | ⟨rfl, rfl, rfl⟩ | ⟨rfl, rfl, rfl⟩ | ⟨rfl, rfl, rfl⟩ | ⟨rfl, rfl, rfl⟩ | ⟨rfl, rfl, rfl⟩ | ⟨rfl, rfl, rfl⟩
  all_goals
    go_enter Tryz.func81, Tryz.ntmps81
    go_wp2_with fail
    refine (unhide K1 _).mono ?_
    rintro e w1 ⟨rfl, rfl⟩
    clear K1
    go_wp2_with fail
    refine (unhide K2 _).mono ?_
    rintro e w1 ⟨rfl, rfl⟩
    clear K2
    go_wp2_with fail
    refine (unhide K3 _).mono ?_
    rintro e w1 ⟨rfl, rfl⟩
    clear K3
    go_wp2_with fail
    refine (unhide K4 _).mono ?_
    rintro e w1 ⟨rfl, rfl⟩
    clear K4
    go_wp2
    refine bodyPost_ret (v := .tuple #[.int .i64 _, .bool true]) (by simp [results, Tryz.results81, go_sem]; try rfl) rfl ⟨rfl, Below.refl _ _⟩

set_option maxRecDepth 20000 in
set_option maxHeartbeats 4000000 in
theorem rorder_f (a b : Nat) (ka kb z1 z2 X1 X2 o : Int) (w : World) (h4 : (ka == 4) = false) (g4 : (kb == 4) = false)
    (C1 : ∀ w', Calls Tryz.prog 55 #[.int .u64 a] w' fun r w'' => r = .returned (.int .i64 ka) ∧ w' = w'')
    (C2 : ∀ w', Calls Tryz.prog 55 #[.int .u64 b] w' fun r w'' => r = .returned (.int .i64 kb) ∧ w' = w'')
    (C3 : ∀ w', Calls Tryz.prog 110 #[.int .u64 a] w' fun r w'' => r = .returned (.int .i64 0) ∧ w' = w'')
    (C4 : ∀ w', Calls Tryz.prog 110 #[.int .u64 b] w' fun r w'' => r = .returned (.int .i64 0) ∧ w' = w'')
    (C5 : ∀ w', Calls Tryz.prog 24 #[.int .u64 a] w' fun r w'' => ∃ u, r = .returned u ∧ IsDy w'' u z1 X1 ∧ Below w'.heap.size w' w'')
    (C6 : ∀ w', Calls Tryz.prog 24 #[.int .u64 b] w' fun r w'' => ∃ u, r = .returned u ∧ IsDy w'' u z2 X2 ∧ Below w'.heap.size w' w'')
    (C7 : ∀ w' v u, IsDy w' v z1 X1 → IsDy w' u z2 X2 → Calls Tryz.prog 33 #[v, u] w' fun r w'' => r = .returned (.int .i64 o) ∧ Below w'.heap.size w' w'') :
    Calls Tryz.prog 81 #[.int .u64 a, .int .u64 b] w fun r w' => r = .returned (.tuple #[.int .i64 o, .bool true]) ∧ Below w.heap.size w w' := by
  have K1 := hide C1; have K2 := hide C2; have K3 := hide C3; have K4 := hide C4; have K5 := hide C5; have K6 := hide C6; have K7 := hide C7
  clear C1 C2 C3 C4 C5 C6 C7
  go_enter Tryz.func81, Tryz.ntmps81
  go_wp2_with fail
  refine (unhide K1 _).mono ?_
  rintro e w1 ⟨rfl, rfl⟩
  clear K1
  go_wp2_with fail
  refine (unhide K2 _).mono ?_
  rintro e w1 ⟨rfl, rfl⟩
  clear K2
  go_wp2_with fail
  refine (unhide K3 _).mono ?_
  rintro e w1 ⟨rfl, rfl⟩
  clear K3
  go_wp2_with fail
  refine (unhide K4 _).mono ?_
  rintro e w1 ⟨rfl, rfl⟩
  clear K4
  go_wp2_with fail
  refine (unhide K5 _).mono ?_
  rintro e w1 ⟨v, rfl, hv, hb1⟩
  obtain ⟨n1, a1, c1, L1, rfl, i1⟩ := hv
  have HV := hide (show IsDy w1 (.agg #[.bool n1, .slice a1 L1.length c1, .int .i64 X1]) z1 X1 from ⟨n1, a1, c1, L1, rfl, i1⟩)
  have B1 := hide hb1
  clear i1 hb1 K5
  go_wp2_with fail
  refine (unhide K6 _).mono ?_
  rintro e w2 ⟨v, rfl, hv, hb1⟩
  obtain ⟨n2, a2, c2, L2, rfl, i2⟩ := hv
  have HU := hide (show IsDy w2 (.agg #[.bool n2, .slice a2 L2.length c2, .int .i64 X2]) z2 X2 from ⟨n2, a2, c2, L2, rfl, i2⟩)
  have HV2 := hide ((unhide HV).below hb1)
  have B2 := hide ((unhide B1).trans (hb1.mono (unhide B1).size))
  clear i2 hb1 K6 B1 HV
  go_wp2_with fail
  refine (unhide K7 _ _ _ (unhide HV2) (unhide HU)).mono ?_
  rintro e w3 ⟨rfl, hb1⟩
  have B3 := hide ((unhide B2).trans (hb1.mono (unhide B2).size))
  clear hb1 K7 B2
  go_wp2
  exact bodyPost_ret (v := .tuple #[.int .i64 o, .bool true]) (by simp [results, Tryz.results81, go_sem]) rfl ⟨rfl, unhide B3⟩

theorem eN_fin {b : Nat} (h : fFin b = true) : eN b = 0 := by unfold eN; rw [if_pos h]
theorem eN_inf {b : Nat} (h : fK b = 3) : (eN b = -1 ∧ fZ b = -((2 ^ 2098 : Nat) : Int)) ∨ (eN b = 1 ∧ fZ b = ((2 ^ 2098 : Nat) : Int)) := by
  have hf : fFin b = false := by
    rcases fK_cases b with h1 | h1
    · exact h1.1
    · omega
  have hr := (fK_rungs b).2.1.1 h
  unfold eN fZ pv
  rw [hr, rv_inf, if_neg (by rw [hf]; decide)]
  cases fS b
  · exact .inr ⟨rfl, rfl⟩
  · exact .inl ⟨rfl, rfl⟩

theorem rorder_any (a b : Nat) (w : World) (ha : a < 18446744073709551616) (hb : b < 18446744073709551616) :
    Calls Tryz.prog 81 #[.int .u64 a, .int .u64 b] w fun r w' => r = .returned (.tuple #[.int .i64 (cO a b), .bool (cB a b)]) ∧ Below w.heap.size w w' := by
  have C1 := fun w' => rkind_any a w' ha
  have C2 := fun w' => rkind_any b w' hb
  have C3 := fun w' => ends_any a w' ha
  have C4 := fun w' => ends_any b w' hb
  unfold cO cB
  by_cases a4 : fK a = 4
  · rw [if_pos (Or.inl a4), if_pos (Or.inl a4)]
    rw [a4] at C1
    exact rorder_n1 a b w C1
  by_cases b4 : fK b = 4
  · rw [if_pos (Or.inr b4), if_pos (Or.inr b4)]
    rw [b4] at C2
    exact rorder_n2 a b _ w (by simp [a4]) C1 C2
  have h : ¬ (fK a = 4 ∨ fK b = 4) := fun h => h.elim a4 b4
  rw [if_neg h, if_neg h]
  have ka : (fK a == 4) = false := by simp [a4]
  have kb : (fK b == 4) = false := by simp [b4]
  have hP : (0 : Int) < ((2 ^ 2098 : Nat) : Int) := Int.natCast_pos.2 (Nat.two_pow_pos 2098)
  by_cases a3 : fK a = 3
  · have za := eN_inf a3
    by_cases b3 : fK b = 3
    · have zb := eN_inf b3
      rcases za with ⟨x1, x2⟩ | ⟨x1, x2⟩ <;> rcases zb with ⟨y1, y2⟩ | ⟨y1, y2⟩ <;> rw [x1] at C3 <;> rw [y1] at C4 <;> rw [x2, y2] <;> generalize ((2 ^ 2098 : Nat) : Int) = P at *
      · rw [cmpI8_eq rfl]; exact rorder_i a b _ _ _ _ _ w ka kb (by decide) C1 C2 C3 C4
      · rw [cmpI8_lt (by omega)]; exact rorder_i a b _ _ _ _ _ w ka kb (by decide) C1 C2 C3 C4
      · rw [cmpI8_gt (by omega)]; exact rorder_i a b _ _ _ _ _ w ka kb (by decide) C1 C2 C3 C4
      · rw [cmpI8_eq rfl]; exact rorder_i a b _ _ _ _ _ w ka kb (by decide) C1 C2 C3 C4
    · have fb := fin_of b b3 b4
      have l := fZ_lt b fb
      rw [eN_fin fb] at C4
      rcases za with ⟨x1, x2⟩ | ⟨x1, x2⟩ <;> rw [x1] at C3 <;> rw [x2] <;> generalize (2 ^ 2098 : Nat) = P at *
      · rw [cmpI8_lt (by omega)]; exact rorder_i a b _ _ _ _ _ w ka kb (by decide) C1 C2 C3 C4
      · rw [cmpI8_gt (by omega)]; exact rorder_i a b _ _ _ _ _ w ka kb (by decide) C1 C2 C3 C4
  · have fa := fin_of a a3 a4
    have la := fZ_lt a fa
    rw [eN_fin fa] at C3
    by_cases b3 : fK b = 3
    · have zb := eN_inf b3
      rcases zb with ⟨y1, y2⟩ | ⟨y1, y2⟩ <;> rw [y1] at C4 <;> rw [y2] <;> generalize (2 ^ 2098 : Nat) = P at *
      · rw [cmpI8_gt (by omega)]; exact rorder_i a b _ _ _ _ _ w ka kb (by decide) C1 C2 C3 C4
      · rw [cmpI8_lt (by omega)]; exact rorder_i a b _ _ _ _ _ w ka kb (by decide) C1 C2 C3 C4
    · have fb := fin_of b b3 b4
      rw [eN_fin fb] at C4
      clear la
      obtain ⟨d1, d2⟩ := fZ_level a ha fa
      obtain ⟨d3, d4⟩ := fZ_level b hb fb
      exact rorder_f a b _ _ (fD a) (fD b) (fX a) (fX b) _ w ka kb C1 C2 C3 C4 (fun w' => rvalue_any a w' ha) (fun w' => rvalue_any b w' hb)
        (fun w' v u hv hu => rcmpN (W := 2099) (lo := -1074) (z1 := fZ a) (z2 := fZ b) (by rw [d1, d2]; exact hv) (by rw [d3, d4]; exact hu) (fZ_Lvl a fa) (fZ_Lvl b fb))

set_option maxRecDepth 20000 in
set_option maxHeartbeats 2000000 in
theorem r8abs_any (a : Nat) (w : World) (ha : a < 18446744073709551616) :
    Calls Tryz.prog 32 #[.int .u64 a] w fun e w' => e = .returned (.int .u64 (fR a : Nat)) ∧ w = w' := by
  have K1 := hide (fun w' => rneg4_any a w' ha)
  have K2 := hide (fun w' => rminus4_any a w' ha)
  cases hs : fS a
  · rw [hs] at K1
    rw [abs_plus a hs ha]
    clear hs ha K2
    go_enter Tryz.func32, Tryz.ntmps32
    go_wp2_with fail
    refine (unhide K1 _).mono ?_
    rintro e w1 ⟨rfl, rfl⟩
    clear K1
    go_wp2
    go_ret
    exact ⟨rfl, rfl⟩
  · rw [hs] at K1
    rw [abs_minus a hs ha]
    clear hs ha
    generalize fN a = q at *
    go_enter Tryz.func32, Tryz.ntmps32
    go_wp2_with fail
    refine (unhide K1 _).mono ?_
    rintro e w1 ⟨rfl, rfl⟩
    clear K1
    go_wp2_with fail
    refine (unhide K2 _).mono ?_
    rintro e w2 ⟨rfl, rfl⟩
    clear K2
    go_wp2
    go_ret
    exact ⟨rfl, rfl⟩

end Go.Proofs.YtlbggedahpnjgaaGreatDoor

/- The reference's Scale, Int of layer 8. -/
namespace Go.Proofs.YtlbggedahpnjgaaGreatDoor
open Go.RowKit

theorem lt80 {x : Nat} (h : x < 18446744073709551616) : x < 4294967296 ^ 80 := Nat.lt_of_lt_of_le h (by
  have : (4294967296 : Nat) ^ 2 ≤ 4294967296 ^ 80 := Nat.pow_le_pow_right (by decide) (by decide)
  exact Nat.le_trans (by decide) this)

end Go.Proofs.YtlbggedahpnjgaaGreatDoor

