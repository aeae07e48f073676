/- Part 21 of the texts. -/
import Derived.Test.YtpaikdlhkdgkpaaDoorPart20
import Derived.Deep.RegionHeld3
import Derived.Test.YtpaikdlhkdgkpaaDoorPart18
import Derived.Test.YtpaikdlhkdgkpaaDoorPart09
import Derived.Test.YtpaikdlhkdgkpaaDoorPart10
import Derived.Test.YtpaikdlhkdgkpaaDoorPart19
import Derived.Test.YtpaikdlhkdgkpaaDoorPart17
import Derived.Test.YtpaikdlhkdgkpaaDoorPart15
import Derived.Test.YtpaikdlhkdgkpaaDoorPart08
/- The reference's Quotient. -/
namespace Go.Proofs.YtpaikdlhkdgkpaaDoor
open Go.RowKit
attribute [local go_sem ↓] Go.wp_at_zero Go.wp_at_succ

theorem cmp_ge {x y : Int} (h : y ≤ x) : cmpI x y ≥ 0 := by unfold cmpI; split <;> (try split) <;> omega
theorem cmp_lt {x y : Int} (h : x < y) : ¬ cmpI x y ≥ 0 := by unfold cmpI; split <;> (try split) <;> omega
theorem QSt.as {w wr : World} {va vb vq vr : Value × Value} {zq zr zq' zr' : Int} (h : QSt w va vb wr vq zq vr zr) (h1 : zq = zq') (h2 : zr = zr') : QSt w va vb wr vq zq' vr zr' := by subst h1 h2; exact h
theorem QSt.start (w : World) (x y x' y' : Value) :
    QSt w (x, y) (x', y') ((((((w.alloc (.cells #[x, y] 46)).alloc (.cells #[x', y'] 46)).alloc (.cells #[.bool false, .slice none 0 0] 46)).alloc (.cells #[.bool false, .slice none 0 0] 46)).alloc (.cells #[.bool false, .slice none 0 0] 46)).alloc (.cells #[.bool false, .slice none 0 0] 46)) (.bool false, .slice none 0 0) 0 (.bool false, .slice none 0 0) 0 := by
  have s1 : ∀ (u : World) (o : Obj), (u.alloc o).heap.size = u.heap.size + 1 := fun u o => by simp
  refine ⟨((((((Below.refl _ _).alloc (Nat.le_refl _) _).alloc (by simp) _).alloc (by simp; omega) _).alloc (by simp; omega) _).alloc (by simp; omega) _).alloc (by simp; omega) _, ?_, ?_, ?_, ?_, ?_, ?_, IsNum.zero _ _ _ _, IsNum.zero _ _ _ _⟩
  · exact (((((Box2.new _ _ _).old _).old _).old _).old _).old _
  · have := ((((Box2.new (w.alloc (.cells #[x, y] 46)) x' y').old (.cells #[.bool false, .slice none 0 0] 46)).old (.cells #[.bool false, .slice none 0 0] 46)).old (.cells #[.bool false, .slice none 0 0] 46)).old (.cells #[.bool false, .slice none 0 0] 46)
    simpa using this
  · have := (((Box2.new ((w.alloc (.cells #[x, y] 46)).alloc (.cells #[x', y'] 46)) (.bool false) (.slice none 0 0)).old (.cells #[.bool false, .slice none 0 0] 46)).old (.cells #[.bool false, .slice none 0 0] 46)).old (.cells #[.bool false, .slice none 0 0] 46)
    simpa using this
  · have := ((Box2.new (((w.alloc (.cells #[x, y] 46)).alloc (.cells #[x', y'] 46)).alloc (.cells #[.bool false, .slice none 0 0] 46)) (.bool false) (.slice none 0 0)).old (.cells #[.bool false, .slice none 0 0] 46)).old (.cells #[.bool false, .slice none 0 0] 46)
    simpa using this
  · have := (Box2.new ((((w.alloc (.cells #[x, y] 46)).alloc (.cells #[x', y'] 46)).alloc (.cells #[.bool false, .slice none 0 0] 46)).alloc (.cells #[.bool false, .slice none 0 0] 46)) (.bool false) (.slice none 0 0)).old (.cells #[.bool false, .slice none 0 0] 46)
    simpa using this
  · have := Box2.new (((((w.alloc (.cells #[x, y] 46)).alloc (.cells #[x', y'] 46)).alloc (.cells #[.bool false, .slice none 0 0] 46)).alloc (.cells #[.bool false, .slice none 0 0] 46)).alloc (.cells #[.bool false, .slice none 0 0] 46)) (.bool false) (.slice none 0 0)
    simpa using this

end Go.Proofs.YtpaikdlhkdgkpaaDoor

/- The reference's plain, and Quotient of any two. -/
namespace Go.Proofs.YtpaikdlhkdgkpaaDoor
open Go.RowKit

/-- What is not empty lies in another block than g. -/
def AwayV (g : Nat) (ao : Option Addr) (l : Nat) : Prop := l = 0 ∨ ∃ b off, ao = some ⟨b, off, none⟩ ∧ b ≠ g
theorem IsNum.open6 {B : Nat} {w : World} {n : Bool} {ao : Option Addr} {l c : Nat} {z : Int} (h : IsNum B w (.agg #[.bool n, .slice ao l c]) z) :
    ∃ L, l = L.length ∧ LimbsAt w ao c L ∧ NewAt B ao L ∧ Canon L ∧ n = decide (z < 0) ∧ val L = z.natAbs ∧ L.length ≤ 35184372088832 := by
  obtain ⟨n', a', c', L, e1, h1, h2, h3⟩ := h
  simp only [Value.agg.injEq, Array.mk.injEq, List.cons.injEq, Value.bool.injEq, Value.slice.injEq, and_true] at e1
  obtain ⟨rfl, rfl, e2, rfl⟩ := e1
  exact ⟨L, e2, h1, h2, h3⟩
/-- Limbs lie in no box. -/
theorem IsNum.away_box {B g : Nat} {w : World} {n : Bool} {ao : Option Addr} {l c : Nat} {z : Int} (h : IsNum B w (.agg #[.bool n, .slice ao l c]) z) {x : Bool} {a' : Option Addr} {l' c' : Nat} (hb : Box2 w g (.bool x) (.slice a' l' c')) : AwayV g ao l := by
  obtain ⟨L, rfl, h1, h2, h3⟩ := h.open6
  rcases h1.2.2 with h0 | ⟨b, off, e1, e2, e3⟩
  · exact .inl (by rw [h0]; rfl)
  · rcases Nat.eq_zero_or_pos L.length with h0 | h0
    · exact .inl h0
    · refine .inr ⟨b, off, e1, fun e => ?_⟩
      subst e
      have h4 := e3 0 h0
      rw [Nat.add_zero, cell_of_row w b off _ _ _ hb] at h4
      rcases off with _ | _ | off <;> simp at h4
theorem IsNum.set_away {w : World} {n : Bool} {ao : Option Addr} {l c g i : Nat} {z : Int} (h : IsNum 0 w (.agg #[.bool n, .slice ao l c]) z) (ha : AwayV g ao l) (u : Value) : IsNum 0 (w.setCell ⟨g, i, none⟩ u) (.agg #[.bool n, .slice ao l c]) z := by
  obtain ⟨L, rfl, h1, h2, h3⟩ := h.open6
  refine ⟨n, ao, c, L, rfl, ⟨h1.1, h1.2.1, ?_⟩, ?_, h3⟩
  · rcases h1.2.2 with h0 | ⟨b, off, e1, e2, e3⟩
    · exact .inl h0
    · rcases ha with h0 | ⟨b', off', e1', hne⟩
      · exact .inl (List.length_eq_zero_iff.1 h0)
      · rw [e1] at e1'
        simp only [Option.some.injEq, Addr.mk.injEq] at e1'
        obtain ⟨rfl, rfl, _⟩ := e1'
        refine .inr ⟨b, off, e1, by simpa [World.setCell] using e2, fun i hi => ?_⟩
        rw [cell_setCell_other w _ _ u (by simpa using hne)]
        exact e3 i hi
  · rcases h2 with h0 | h0
    · exact .inl h0
    · exact .inr h0

theorem IsNum.set_box {w : World} {n : Bool} {ao : Option Addr} {l c g : Nat} {z : Int} (h : IsNum 0 w (.agg #[.bool n, .slice ao l c]) z) {x : Bool} {a' : Option Addr} {l' c' : Nat} (hb : Box2 w g (.bool x) (.slice a' l' c')) (u u' : Value) : IsNum 0 ((w.setCell ⟨g, 0, none⟩ u).setCell ⟨g, 1, none⟩ u') (.agg #[.bool n, .slice ao l c]) z :=
  (h.set_away (h.away_box hb) _).set_away (h.away_box hb) _

theorem pow_up {x : Nat} (j k : Nat) (h : x < 2 ^ j) (hk : j ≤ k) : x < 2 ^ k := Nat.lt_of_lt_of_le h (Nat.pow_le_pow_right (by decide) hk)
theorem p250 {x : Int} (h : x.natAbs < 4 * 2 ^ 250) : x.natAbs < 2 ^ 8000 := by
  have h1 : (4 : Nat) * 2 ^ 250 = 2 ^ 252 := by decide
  rw [h1] at h
  exact pow_up 252 8000 h (by decide)
theorem bl_lt {A k : Nat} (h : A < 2 ^ k) : bl A ≤ k := by
  by_cases h0 : A = 0
  · subst h0; exact Nat.zero_le _
  · obtain ⟨b1, b2, b3⟩ := bl_spec A h0
    have := pow_lt_of (Nat.lt_of_le_of_lt b2 h)
    omega
theorem bl_end (A : Nat) : A / 2 ^ bl A = 0 := by
  by_cases h0 : A = 0
  · subst h0; simp
  · exact Nat.div_eq_of_lt (bl_spec A h0).2.2
theorem sh_dn (A j : Nat) : (if 0 ≤ -(j : Int) then A * 2 ^ (-(j : Int)).toNat else A / 2 ^ (- -(j : Int)).toNat) = A / 2 ^ j := by
  by_cases h : j = 0
  · subst h; simp
  · rw [if_neg (by omega), show (- -(j : Int)).toNat = j by omega]

end Go.Proofs.YtpaikdlhkdgkpaaDoor

/- Trunc of any number; the reference's Scale, Int, Trunc, Exp of layer 8. -/
namespace Go.Proofs.YtpaikdlhkdgkpaaDoor
open Go.RowKit

/-- A whole number times 2^n, without what is behind the point. -/
def shI (z n : Int) : Int := if z < 0 then -((if 0 ≤ n then z.natAbs * 2 ^ n.toNat else z.natAbs / 2 ^ (-n).toNat : Nat) : Int) else ((if 0 ≤ n then z.natAbs * 2 ^ n.toNat else z.natAbs / 2 ^ (-n).toNat : Nat) : Int)
theorem shI_shV {na : Bool} {A : List Nat} {z n : Int} (h : sval na A = z) : shV na A n = shI z n := by
  have hv : val A = z.natAbs := by rw [← h, natAbs_sval]
  unfold shV shI sg
  rw [hv]
  unfold sval at h
  cases na
  · simp only [Bool.false_eq_true, if_false] at h ⊢
    rw [if_neg (show ¬ z < 0 by omega)]
  · simp only [if_true] at h ⊢
    by_cases h0 : z < 0
    · rw [if_pos h0]
    · rw [if_neg h0, show z.natAbs = 0 by omega]
      simp
theorem shI_abs (z n : Int) : (shI z n).natAbs = if 0 ≤ n then z.natAbs * 2 ^ n.toNat else z.natAbs / 2 ^ (-n).toNat := by
  unfold shI; split <;> omega
theorem pow_k (K : Nat) : (9007199254740992 : Nat) * 2 ^ K = 2 ^ (53 + K) := by rw [Nat.pow_add, p53]
theorem shI_lt (z n : Int) (k K : Nat) (hK : K = 1024) (hk : k = 53 + K) (hz : z.natAbs < 9007199254740992) (hn : -1074 ≤ n ∧ n ≤ 1024) : (shI z n).natAbs < 2 ^ k := by
  rw [shI_abs, hk, ← pow_k]
  have hp : 0 < 2 ^ K := Nat.two_pow_pos K
  split
  · have h1 : (2 : Nat) ^ n.toNat ≤ 2 ^ K := pow_le2 (by omega)
    exact Nat.lt_of_lt_of_le ((Nat.mul_lt_mul_right (Nat.two_pow_pos _)).2 hz) (Nat.mul_le_mul_left _ h1)
  · have h1 : z.natAbs / 2 ^ (-n).toNat ≤ z.natAbs := Nat.div_le_self _ _
    have h2 : 9007199254740992 * 1 ≤ 9007199254740992 * 2 ^ K := Nat.mul_le_mul_left _ hp
    omega
theorem shI_TOP (z n : Int) (hz : z.natAbs < 9007199254740992) (hn : -1074 ≤ n ∧ n ≤ 1024) : (shI z n).natAbs < TOP := lt_TOP (shI_lt z n (53 + 1024) 1024 rfl rfl hz hn) (by decide)

theorem shift8N {B : Nat} {w : World} {v : Value} {z : Int} (n : Int) (hv : IsNum B w v z) (hz : z.natAbs < 9007199254740992) (hn : -1074 ≤ n ∧ n ≤ 1024) :
    Calls Tryd.prog 56 #[v, .int .i64 n] w fun r w' => ∃ v, r = .returned (.tuple #[v, .int .i64 0]) ∧ IsNum w.heap.size w' v (shI z n) ∧ Below w.heap.size w w' := by
  obtain ⟨na, ao, ca, A, rfl, a1, a2, a3, a4⟩ := hv.right (small_TOP _ (by omega))
  have := shift_any na ao ca A n w a1 (by omega) (by omega)
  have ho : shOk na A n = true := by
    unfold shOk; rw [a2, decide_eq_true (by omega)]; rfl
  unfold shE shN at this
  rw [ho, if_pos rfl, if_pos rfl, shI_shV a3] at this
  unfold errOf numOf at this
  rw [if_pos (shI_TOP z n hz hn), if_pos (shI_TOP z n hz hn)] at this
  exact this
theorem rshift8N {B : Nat} {w : World} {v : Value} {z : Int} (n : Int) (hv : IsNum B w v z) (hz : z.natAbs < 9007199254740992) (hn : -1074 ≤ n ∧ n ≤ 1024) :
    Calls Tryd.prog 58 #[v, .int .i64 n] w fun r w' => ∃ v, r = .returned v ∧ IsNum 0 w' v (shI z n) ∧ Below w.heap.size w w' := by
  obtain ⟨na, ao, ca, A, rfl, a1, a2, a3, a4⟩ := hv.right (small_TOP _ (by omega))
  have := refShift_any na ao ca A n w a1 a2 (by omega)
  rw [shI_shV a3] at this
  exact this
theorem small8N {B : Nat} {w : World} {v : Value} {z : Int} (hv : IsNum B w v z) (hz : z.natAbs < TOP) :
    Calls Tryd.prog 57 #[v] w fun e w' => e = .returned (.tuple #[.int .i64 (if fits64 z = true then z else 0), .int .i64 (if fits64 z = true then 0 else 2)]) ∧ Below w.heap.size w w' := by
  obtain ⟨na, ao, ca, A, rfl, a1, a2, a3, _⟩ := hv.right hz
  have h := small_any na ao ca A w a1 (by have := (right_canon a2).1; omega)
  unfold smV smE at h
  rw [a2, a3, Bool.true_and, if_pos rfl] at h
  exact h
theorem rcmp8N {B C : Nat} {w : World} {v u : Value} {x y : Int} (hv : IsNum B w v x) (hu : IsNum C w u y) (hx : x.natAbs < TOP) (hy : y.natAbs < TOP) :
    Calls Tryd.prog 59 #[v, u] w fun e w' => e = .returned (.int .i64 (cmpI x y)) ∧ Below w.heap.size w w' := by
  obtain ⟨na, ao, ca, A, rfl, a1, a2, a3, a4⟩ := hv.right hx
  obtain ⟨nb, bo, cb, D, rfl, b1, b2, b3, b4⟩ := hu.right hy
  have := refCompare_any na nb ao bo ca cb A D w a1 b1 (by omega) (by omega)
  rw [a3, b3] at this
  exact this

/-- A number without what is behind the point. -/
def tI (a : Nat) : Int := shI (fD a) (fX a)

/-- Finite numbers, noughts among them. -/
theorem tr_facts (a : Nat) (ha : a < 18446744073709551616) (fa : fFin a = true) : (fD a).natAbs < 9007199254740992 ∧ -1074 ≤ fX a ∧ fX a ≤ 1024 := by
  by_cases a0 : fK a = 0
  · have hr := (fK_zero a).1 a0
    obtain ⟨d1, d2⟩ := fZ_level a ha fa
    have hz : fZ a = 0 := by
      have := fZ_abs a
      rw [hr, rv_zero] at this
      omega
    rw [hz, oM_zero] at d1
    rw [hz, oE_zero] at d2
    rw [← d1, ← d2]
    decide
  · obtain ⟨z1, z2, z3, z4, z5, z6, z7, z8, z9⟩ := sc_facts a ha fa a0
    exact ⟨z2, z5, z6⟩

/-- Has a number a whole one of 64 bits? -/
def tB8 (a : Nat) : Bool := fFin a && fits64 (tI a)

theorem ctrunc_any (a : Nat) (w : World) (ha : a < 18446744073709551616) (hT : Tab w) :
    Calls Tryd.prog 26 #[.int .u64 a] w fun r w' => r = .returned (.tuple #[.int .i64 (if tB8 a = true then tI a else 0), .int .i64 (if tB8 a = true then 0 else 7)]) ∧ Below w.heap.size w w' := by
  unfold tB8
  cases fa : fFin a
  · exact trunc_none a w (value_none a w ha fa)
  · obtain ⟨z1, z2, z3⟩ := tr_facts a ha fa
    have C3 : ∀ B w' v, IsNum B w' v (tI a) → _ := fun B w' v hv => small8N hv (shI_TOP _ _ z1 ⟨z2, z3⟩)
    rw [Bool.true_and]
    refine trunc_of a (fD a) (fX a) (tI a) 0 _ _ _ _ w ?_ (value_some a w ha fa hT) (fun B w' v hv => shift8N _ hv z1 ⟨z2, z3⟩) C3
    cases hf : fits64 (tI a)
    · exact .inr ⟨rfl, rfl, rfl⟩
    · exact .inl ⟨rfl, rfl, rfl⟩

set_option maxRecDepth 20000 in
set_option maxHeartbeats 2000000 in
theorem r8trunc_no (a : Nat) (w : World)
    (C1 : ∀ w', Calls Tryd.prog 32 #[.int .u64 a] w' fun r w'' => r = .returned (.bool false) ∧ w' = w'') :
    Calls Tryd.prog 27 #[.int .u64 a] w fun r w' => ∃ v, r = .returned (.tuple #[v, .bool false]) ∧ IsNum 0 w' v 0 ∧ Below w.heap.size w w' := by
  have K1 := hide C1
  clear C1
  go_enter Tryd.func27, Tryd.ntmps27
  go_wp2_with fail
  refine (unhide K1 _).mono ?_
  rintro e w1 ⟨rfl, rfl⟩
  clear K1
  have x0 := Box2.new w (.bool false) (.slice none 0 0)
  have y0 := x0.c0; have y1 := x0.c1; have f0 := x0.free 0; have f1 := x0.free 1
  have x1 := x0.put (.bool false) (.slice none 0 0)
  have z0 := x1.c0; have z1 := x1.c1
  have B0 := hide (show Below w.heap.size w (w.alloc (.cells #[.bool false, .slice none 0 0] 46)) from (Below.refl _ _).alloc (Nat.le_refl _) _)
  clear x0 x1
  go_wp2
  exact bodyPost_ret (v := .tuple #[.agg #[.bool false, .slice none 0 0], .bool false]) (by simp [results, Tryd.results27, go_sem]) rfl ⟨_, rfl, IsNum.zero _ _ _ _, by first | exact unhide B0 | exact below_put2 (unhide B0) (Nat.le_refl _) _ _⟩

set_option maxRecDepth 20000 in
set_option maxHeartbeats 8000000 in
theorem r8trunc_of (a : Nat) (D X T o1 o2 : Int) (t : Bool) (w : World)
    (hw : (o1 = -1 ∧ o2 = -1 ∧ t = false) ∨ (o1 = 0 ∧ o2 = -1 ∧ t = true) ∨ (o1 = 1 ∧ o2 = -1 ∧ t = true) ∨ (o1 = 1 ∧ o2 = 0 ∧ t = true) ∨ (o1 = 1 ∧ o2 = 1 ∧ t = false))
    (C1 : ∀ w', Calls Tryd.prog 32 #[.int .u64 a] w' fun r w'' => r = .returned (.bool true) ∧ w' = w'')
    (C2 : ∀ w', Calls Tryd.prog 40 #[.int .u64 a] w' fun r w'' => ∃ u, r = .returned u ∧ IsDy w'' u D X ∧ Below w'.heap.size w' w'')
    (C3 : ∀ B w' v, IsNum B w' v D → Calls Tryd.prog 58 #[v, .int .i64 X] w' fun r w'' => ∃ v, r = .returned v ∧ IsNum 0 w'' v T ∧ Below w'.heap.size w' w'')
    (C4 : ∀ w', Calls Tryd.prog 29 #[.int .i64 (-9223372036854775808)] w' fun r w'' => ∃ v, r = .returned v ∧ IsNumM 2 w'.heap.size w'' v (-9223372036854775808) ∧ Below w'.heap.size w' w'')
    (C5 : ∀ w', Calls Tryd.prog 29 #[.int .i64 9223372036854775807] w' fun r w'' => ∃ v, r = .returned v ∧ IsNumM 2 w'.heap.size w'' v 9223372036854775807 ∧ Below w'.heap.size w' w'')
    (C6 : ∀ B w' v u, IsNum 0 w' v T → IsNumM 2 B w' u (-9223372036854775808) → Calls Tryd.prog 59 #[v, u] w' fun r w'' => r = .returned (.int .i64 o1) ∧ Below w'.heap.size w' w'')
    (C7 : ∀ B w' v u, IsNum 0 w' v T → IsNumM 2 B w' u 9223372036854775807 → Calls Tryd.prog 59 #[v, u] w' fun r w'' => r = .returned (.int .i64 o2) ∧ Below w'.heap.size w' w'') :
    Calls Tryd.prog 27 #[.int .u64 a] w fun r w' => ∃ v, r = .returned (.tuple #[v, .bool t]) ∧ IsNum 0 w' v (if t = true then T else 0) ∧ Below w.heap.size w w' := by
  have K1 := hide C1; have K2 := hide C2; have K3 := hide C3; have K4 := hide C4; have K5 := hide C5; have K6 := hide C6; have K7 := hide C7
  clear C1 C2 C3 C4 C5 C6 C7
  have X0 := hide (Box2.new w (.bool false) (.slice none 0 0))
  have B0 := hide (show Below w.heap.size w (w.alloc (.cells #[.bool false, .slice none 0 0] 46)) from (Below.refl _ _).alloc (Nat.le_refl _) _)
  go_enter Tryd.func27, Tryd.ntmps27
  go_wp2_with fail
  refine (unhide K1 _).mono ?_
  rintro e w1 ⟨rfl, rfl⟩
  clear K1
  go_wp2_with fail
  refine (unhide K2 _).mono ?_
  rintro e w1 ⟨v, rfl, hv, hb1⟩
  obtain ⟨n1, a1, c1, L1, rfl, i1⟩ := hv
  have hb1a : Below w1.heap.size w1 (w1.alloc (.cells #[.bool n1, .slice a1 L1.length c1, .int .i64 X] 58)) := (Below.refl _ _).alloc (Nat.le_refl _) _
  have HX := hide (IsNum.below i1 hb1a)
  have X1 := hide (((unhide X0).all hb1).all hb1a)
  have B1 := hide ((unhide B0).trans ((hb1.trans (hb1a.mono hb1.size)).mono (unhide B0).size))
  have x3 := Box3.new w1 (.bool n1) (.slice a1 L1.length c1) (.int .i64 X)
  have y0 := x3.c0; have y1 := x3.c1; have y2 := x3.c2
  clear i1 hb1 hb1a K2 x3 X0 B0
  generalize L1.length = l1 at *
  go_wp2_with fail
  refine (unhide K3 _ _ _ (unhide HX)).mono ?_
  rintro e w2 ⟨v, rfl, hv, hb1⟩
  obtain ⟨n2, a2, c2, L2, rfl, i2⟩ := hv
  have hb1a : Below w2.heap.size w2 (w2.alloc (.cells #[.bool n2, .slice a2 L2.length c2] 46)) := (Below.refl _ _).alloc (Nat.le_refl _) _
  have HY := hide (IsNum.below (show IsNum 0 w2 (.agg #[.bool n2, .slice a2 L2.length c2]) T from ⟨n2, a2, c2, L2, rfl, i2⟩) hb1a)
  have X2 := hide (((unhide X1).all hb1).all hb1a)
  have B2 := hide ((unhide B1).trans ((hb1.trans (hb1a.mono hb1.size)).mono (unhide B1).size))
  have X3 := hide (Box2.new w2 (.bool n2) (.slice a2 L2.length c2))
  clear i2 hb1 hb1a K3 y0 y1 y2 HX B1 X1
  generalize L2.length = l2 at *
  go_wp2_with fail
  refine at_world (fun W => Below w.heap.size w W ∧ Box2 W w.heap.size (.bool false) (.slice none 0 0) ∧ Box2 W w2.heap.size (.bool n2) (.slice a2 l2 c2) ∧ IsNum 0 W (.agg #[.bool n2, .slice a2 l2 c2]) T) ⟨unhide B2, unhide X2, unhide X3, unhide HY⟩ ?_
  clear B2 X2 X3 HY
  rintro W0 ⟨b0, x1, x2, hv⟩
  generalize w2.heap.size = g at *
  have hK : ∀ w', Below W0.heap.size W0 w' → Below W0.heap.size W0 w' ∧ w'.cell? ⟨g, 0, none⟩ = some (.bool n2) ∧ w'.cell? ⟨g, 1, none⟩ = some (.slice a2 l2 c2) := fun w' h => ⟨h, (x2.all h).c0, (x2.all h).c1⟩
  have HK := hide hK; have BB := hide b0; have HV := hide hv; have X1 := hide x1; have X2 := hide x2
  clear hK b0 x1 x2 hv
  go_region_held3 (fun w' => Below W0.heap.size W0 w' ∧ w'.cell? ⟨g, 0, none⟩ = some (.bool n2) ∧ w'.cell? ⟨g, 1, none⟩ = some (.slice a2 l2 c2))
    (first | exact unhide HK _ (Below.refl _ _).drew | exact unhide HK _ (by assumption) | fail "NO KEEP")
    (first | (go_at_call 29; refine (unhide K4 _).mono ?_; rintro e wn5 ⟨q, rfl, hq, hb1⟩; have hB5 : Below W0.heap.size W0 wn5 := Below.trans (And.left (by assumption)) (hb1.mono (Below.size (And.left (by assumption)))); obtain ⟨n5, a5, d5, L5, rfl, j5⟩ := hq; have J1 := hide (show IsNumM 2 _ wn5 (.agg #[.bool n5, .slice a5 L5.length d5]) (-9223372036854775808) from ⟨n5, a5, d5, L5, rfl, j5⟩); clear hb1 j5) | (go_at_call 59; refine (unhide K6 _ _ _ _ ((unhide HV).below (And.left (by assumption))) (unhide J1)).mono ?_; rintro e wn6 ⟨rfl, hb1⟩; have hB6 : Below W0.heap.size W0 wn6 := Below.trans (And.left (by assumption)) (hb1.mono (Below.size (And.left (by assumption)))); clear hb1) | fail "NO ARM")
  have hW : Below W0.heap.size W0 _ := And.left (by assumption)
  refine at_thenB (fun W => Below w.heap.size w W ∧ Box2 W w.heap.size (.bool false) (.slice none 0 0) ∧ Box2 W g (.bool n2) (.slice a2 l2 c2) ∧ IsNum 0 W (.agg #[.bool n2, .slice a2 l2 c2]) T) ⟨(unhide BB).trans (hW.mono (unhide BB).size), (unhide X1).all hW, (unhide X2).all hW, (unhide HV).below hW⟩ ?_
  rintro W1 ⟨b0, x1, x2, hv⟩
  have hK : ∀ w', Below W1.heap.size W1 w' → Below W1.heap.size W1 w' ∧ w'.cell? ⟨g, 0, none⟩ = some (.bool n2) ∧ w'.cell? ⟨g, 1, none⟩ = some (.slice a2 l2 c2) := fun w' h => ⟨h, (x2.all h).c0, (x2.all h).c1⟩
  clear HK BB HV X1 X2 hW
  have HK := hide hK; have BB := hide b0; have HV := hide hv; have X1 := hide x1; have X2 := hide x2
  clear hK b0 x1 x2 hv K4 K6
  obtain ⟨q1, hq1⟩ : ∃ q, decide (0 ≤ o1) = q := ⟨_, rfl⟩
  rw [hq1]
  have HQ1 := hide hq1
  clear hq1
  go_wp2_with fail
  go_region_held3 (fun w' => Below W1.heap.size W1 w' ∧ w'.cell? ⟨g, 0, none⟩ = some (.bool n2) ∧ w'.cell? ⟨g, 1, none⟩ = some (.slice a2 l2 c2))
    (first | exact unhide HK _ (Below.refl _ _).drew | exact unhide HK _ (by assumption) | fail "NO KEEP")
    (first | (go_at_call 29; refine (unhide K5 _).mono ?_; rintro e wn5 ⟨q, rfl, hq, hb1⟩; have hB5 : Below W1.heap.size W1 wn5 := Below.trans (And.left (by assumption)) (hb1.mono (Below.size (And.left (by assumption)))); obtain ⟨n5, a5, d5, L5, rfl, j5⟩ := hq; have J1 := hide (show IsNumM 2 _ wn5 (.agg #[.bool n5, .slice a5 L5.length d5]) 9223372036854775807 from ⟨n5, a5, d5, L5, rfl, j5⟩); clear hb1 j5) | (go_at_call 59; refine (unhide K7 _ _ _ _ ((unhide HV).below (And.left (by assumption))) (unhide J1)).mono ?_; rintro e wn6 ⟨rfl, hb1⟩; have hB6 : Below W1.heap.size W1 wn6 := Below.trans (And.left (by assumption)) (hb1.mono (Below.size (And.left (by assumption)))); clear hb1) | fail "NO ARM")
  have hW : Below W1.heap.size W1 _ := And.left (by assumption)
  refine at_thenB (fun W => Below w.heap.size w W ∧ Box2 W w.heap.size (.bool false) (.slice none 0 0) ∧ Box2 W g (.bool n2) (.slice a2 l2 c2) ∧ IsNum 0 W (.agg #[.bool n2, .slice a2 l2 c2]) T) ⟨(unhide BB).trans (hW.mono (unhide BB).size), (unhide X1).all hW, (unhide X2).all hW, (unhide HV).below hW⟩ ?_
  rintro W2 ⟨b0, x1, x2, hv⟩
  clear HK BB HV X1 X2 hW
  obtain ⟨q2, hq2⟩ : ∃ q, decide (o2 ≤ 0) = q := ⟨_, rfl⟩
  rw [hq2]
  have ht : t = (q1 && q2) := by
    rw [← unhide HQ1, ← hq2]
    rcases hw with ⟨rfl, rfl, rfl⟩ | ⟨rfl, rfl, rfl⟩ | ⟨rfl, rfl, rfl⟩ | ⟨rfl, rfl, rfl⟩ | ⟨rfl, rfl, rfl⟩ <;> rfl
  subst ht
  clear hq2 HQ1 hw K5 K7
  have y0 := x1.c0; have y1 := x1.c1; have f0 := x1.free 0; have f1 := x1.free 1
  have u0 := x2.c0; have u1 := x2.c1
  have p1 := x1.put (.bool n2) (.slice a2 l2 c2)
  have z0 := p1.c0; have z1 := p1.c1
  have p2 := x1.put (.bool false) (.slice none 0 0)
  have r0 := p2.c0; have r1 := p2.c1
  have BB := hide b0; have HV := hide (hv.set_box x1 (.bool n2) (.slice a2 l2 c2))
  clear x1 x2 p1 p2 b0 hv
  cases q1 <;> cases q2
  · go_wp2
    exact bodyPost_ret (v := .tuple #[.agg #[.bool false, .slice none 0 0], .bool false]) (by simp [results, Tryd.results27, go_sem, r0, r1]) rfl ⟨_, rfl, IsNum.zero _ _ _ _, below_put2 (unhide BB) (Nat.le_refl _) _ _⟩
  · go_wp2
    exact bodyPost_ret (v := .tuple #[.agg #[.bool false, .slice none 0 0], .bool false]) (by simp [results, Tryd.results27, go_sem, r0, r1]) rfl ⟨_, rfl, IsNum.zero _ _ _ _, below_put2 (unhide BB) (Nat.le_refl _) _ _⟩
  · go_wp2
    exact bodyPost_ret (v := .tuple #[.agg #[.bool false, .slice none 0 0], .bool false]) (by simp [results, Tryd.results27, go_sem, r0, r1]) rfl ⟨_, rfl, IsNum.zero _ _ _ _, below_put2 (unhide BB) (Nat.le_refl _) _ _⟩
  · go_wp2
    exact bodyPost_ret (v := .tuple #[.agg #[.bool n2, .slice a2 l2 c2], .bool true]) (by simp [results, Tryd.results27, go_sem, z0, z1]) rfl ⟨_, rfl, unhide HV, below_put2 (unhide BB) (Nat.le_refl _) _ _⟩

theorem cmp_fits (T : Int) : (cmpI T (-9223372036854775808) = -1 ∧ cmpI T 9223372036854775807 = -1 ∧ fits64 T = false) ∨ (cmpI T (-9223372036854775808) = 0 ∧ cmpI T 9223372036854775807 = -1 ∧ fits64 T = true) ∨ (cmpI T (-9223372036854775808) = 1 ∧ cmpI T 9223372036854775807 = -1 ∧ fits64 T = true) ∨ (cmpI T (-9223372036854775808) = 1 ∧ cmpI T 9223372036854775807 = 0 ∧ fits64 T = true) ∨ (cmpI T (-9223372036854775808) = 1 ∧ cmpI T 9223372036854775807 = 1 ∧ fits64 T = false) := by
  unfold fits64
  rcases (show T < -9223372036854775808 ∨ T = -9223372036854775808 ∨ (-9223372036854775808 < T ∧ T < 9223372036854775807) ∨ T = 9223372036854775807 ∨ 9223372036854775807 < T by omega) with h | h | h | h | h
  · exact .inl ⟨cmpI8_lt h, cmpI8_lt (by omega), decide_eq_false (by omega)⟩
  · exact .inr (.inl ⟨cmpI8_eq h, cmpI8_lt (by omega), decide_eq_true (by omega)⟩)
  · exact .inr (.inr (.inl ⟨cmpI8_gt h.1, cmpI8_lt (by omega), decide_eq_true (by omega)⟩))
  · exact .inr (.inr (.inr (.inl ⟨cmpI8_gt (by omega), cmpI8_eq h, decide_eq_true (by omega)⟩)))
  · exact .inr (.inr (.inr (.inr ⟨cmpI8_gt (by omega), cmpI8_gt h, decide_eq_false (by omega)⟩)))

theorem r8trunc_any (a : Nat) (w : World) (ha : a < 18446744073709551616) :
    Calls Tryd.prog 27 #[.int .u64 a] w fun r w' => ∃ v, r = .returned (.tuple #[v, .bool (tB8 a)]) ∧ IsNum 0 w' v (if tB8 a = true then tI a else 0) ∧ Below w.heap.size w w' := by
  have C1 := fun w' => rfinite_any a w' ha
  unfold tB8
  cases fa : fFin a
  · rw [fa] at C1
    exact r8trunc_no a w C1
  · rw [fa] at C1
    rw [Bool.true_and]
    obtain ⟨z1, z2, z3⟩ := tr_facts a ha fa
    have hT := shI_TOP _ _ z1 ⟨z2, z3⟩
    exact r8trunc_of a (fD a) (fX a) (tI a) _ _ _ w (cmp_fits (tI a)) C1 (fun w' => rvalue_any a w' ha) (fun B w' v hv => rshift8N _ hv z1 ⟨z2, z3⟩)
      (fun w' => refOf_any _ w' (by decide) (by decide)) (fun w' => refOf_any _ w' (by decide) (by decide))
      (fun B w' v u hv hu => rcmp8N hv (hu.num (by decide)) hT (small_TOP _ (by decide))) (fun B w' v u hv hu => rcmp8N hv (hu.num (by decide)) hT (small_TOP _ (by decide)))

set_option maxRecDepth 20000 in
set_option maxHeartbeats 2000000 in
theorem r8exp_no (a : Nat) (k : Int) (f : Bool) (w : World) (hw : f = false ∨ (f = true ∧ k = 0))
    (C1 : ∀ w', Calls Tryd.prog 32 #[.int .u64 a] w' fun r w'' => r = .returned (.bool f) ∧ w' = w'')
    (C2 : ∀ w', Calls Tryd.prog 33 #[.int .u64 a] w' fun r w'' => r = .returned (.int .i64 k) ∧ w' = w'') :
    Calls Tryd.prog 31 #[.int .u64 a] w fun r w' => r = .returned (.int .i64 0) ∧ Below w.heap.size w w' := by
  have K1 := hide C1; have K2 := hide C2
  clear C1 C2
  rcases hw with rfl | ⟨rfl, rfl⟩
  · go_enter Tryd.func31, Tryd.ntmps31
    go_wp2_with fail
    refine (unhide K1 _).mono ?_
    rintro e w1 ⟨rfl, rfl⟩
    go_wp2
    go_ret
    exact ⟨rfl, Below.refl _ _⟩
  · go_enter Tryd.func31, Tryd.ntmps31
    go_wp2_with fail
    refine (unhide K1 _).mono ?_
    rintro e w1 ⟨rfl, rfl⟩
    go_wp2_with fail
    refine (unhide K2 _).mono ?_
    rintro e w1 ⟨rfl, rfl⟩
    go_wp2
    go_ret
    exact ⟨rfl, Below.refl _ _⟩

set_option maxRecDepth 20000 in
set_option maxHeartbeats 2000000 in
theorem r8exp_of (a : Nat) (k D X t : Int) (w : World) (h0 : (k == 0) = false) (ht : -2000 ≤ t ∧ t ≤ 2000)
    (C1 : ∀ w', Calls Tryd.prog 32 #[.int .u64 a] w' fun r w'' => r = .returned (.bool true) ∧ w' = w'')
    (C2 : ∀ w', Calls Tryd.prog 33 #[.int .u64 a] w' fun r w'' => r = .returned (.int .i64 k) ∧ w' = w'')
    (C3 : ∀ w', Calls Tryd.prog 40 #[.int .u64 a] w' fun r w'' => ∃ u, r = .returned u ∧ IsDy w'' u D X ∧ Below w'.heap.size w' w'')
    (C4 : ∀ w' v, IsDy w' v D X → Calls Tryd.prog 62 #[v] w' fun r w'' => r = .returned (.int .i64 t) ∧ Below w'.heap.size w' w'') :
    Calls Tryd.prog 31 #[.int .u64 a] w fun r w' => r = .returned (.int .i64 (t - 1)) ∧ Below w.heap.size w w' := by
  have K1 := hide C1; have K2 := hide C2; have K3 := hide C3; have K4 := hide C4
  clear C1 C2 C3 C4
  have hw := wrap_small (t - 1) (by omega)
  go_enter Tryd.func31, Tryd.ntmps31
  go_wp2_with fail
  refine (unhide K1 _).mono ?_
  rintro e w1 ⟨rfl, rfl⟩
  go_wp2_with fail
  refine (unhide K2 _).mono ?_
  rintro e w1 ⟨rfl, rfl⟩
  go_wp2_with fail
  refine (unhide K3 _).mono ?_
  rintro e w1 ⟨v, rfl, hv, hb1⟩
  obtain ⟨n1, a1, c1, L1, rfl, i1⟩ := hv
  have HX := hide (show IsDy w1 (.agg #[.bool n1, .slice a1 L1.length c1, .int .i64 X]) D X from ⟨n1, a1, c1, L1, rfl, i1⟩)
  have B1 := hide hb1
  clear i1 hb1 K1 K2 K3
  generalize L1.length = l1 at *
  go_wp2_with fail
  refine (unhide K4 _ _ (unhide HX)).mono ?_
  rintro e w2 ⟨rfl, hb1⟩
  have B2 := hide ((unhide B1).trans (hb1.mono (unhide B1).size))
  clear hb1 B1 HX K4
  go_wp2
  go_ret
  exact ⟨rfl, unhide B2⟩

theorem rtopN {w : World} {v : Value} {D X : Int} (hv : IsDy w v D X) (h1 : D % 2 = 1) (h2 : D.natAbs < 9007199254740992) (h3 : -1074 ≤ X ∧ X ≤ 1024) :
    Calls Tryd.prog 62 #[v] w fun r w' => r = .returned (.int .i64 ((bl D.natAbs : Int) + X)) ∧ Below w.heap.size w w' := by
  obtain ⟨na, ao, ca, A, rfl, a1, a2, a3, a4, a5⟩ := hv.right (small_TOP _ (by omega))
  have := rtop_any na ao ca A X w a1 (by omega) (by omega)
  have hv : val A = D.natAbs := by rw [← a3, natAbs_sval]
  have hl := lenL_bl a1.2.1 a2
  have h0 : A.length ≠ 0 := fun h => by
    have := (sval_zero_iff a2).2 h
    omega
  unfold topR at this
  rw [if_neg h0, hl, hv] at this
  exact this

theorem r8exp_any (a : Nat) (w : World) (ha : a < 18446744073709551616) :
    Calls Tryd.prog 31 #[.int .u64 a] w fun r w' => r = .returned (.int .i64 (eX a)) ∧ Below w.heap.size w w' := by
  have C1 := fun w' => rfinite_any a w' ha
  have C2 := fun w' => rkind_any a w' ha
  unfold eX
  by_cases h : fK a = 4 ∨ fK a = 3 ∨ fK a = 0
  · rw [if_pos h]
    refine r8exp_no a _ _ w ?_ C1 C2
    rcases fK_cases a with ⟨h1, _⟩ | ⟨h1, h2⟩
    · exact .inl h1
    · exact .inr ⟨h1, by omega⟩
  · rw [if_neg h]
    have fa := fin_of a (by omega) (by omega)
    obtain ⟨z1, z2, z3, z4, z5, z6, z7, z8, z9⟩ := sc_facts a ha fa (by omega)
    rw [fa] at C1
    exact r8exp_of a _ (fD a) (fX a) _ w (by simp; omega) (by omega) C1 C2 (fun w' => rvalue_any a w' ha) (fun w' v hv => rtopN hv z1 z2 (by omega))

end Go.Proofs.YtpaikdlhkdgkpaaDoor

/- The reference's ends, Order, Abs, of layer 8. -/
namespace Go.Proofs.YtpaikdlhkdgkpaaDoor
open Go.RowKit

/-- -1, 0 or 1, as a number is below all, finite, above all. -/
def eN (b : Nat) : Int := if fFin b = true then 0 else if fS b = true then -1 else 1

set_option maxRecDepth 20000 in
set_option maxHeartbeats 2000000 in
theorem ends_of (b : Nat) (f s : Bool) (w : World)
    (C1 : ∀ w', Calls Tryd.prog 32 #[.int .u64 b] w' fun r w'' => r = .returned (.bool f) ∧ w' = w'')
    (C2 : ∀ w', Calls Tryd.prog 44 #[.int .u64 b] w' fun r w'' => r = .returned (.bool s) ∧ w' = w'') :
    Calls Tryd.prog 38 #[.int .u64 b] w fun e w' => e = .returned (.int .i64 (if f = true then 0 else if s = true then -1 else 1)) ∧ w = w' := by
  have K1 := hide C1; have K2 := hide C2
  clear C1 C2
  cases f
  · cases s
    · go_enter Tryd.func38, Tryd.ntmps38
      go_wp2_with fail
      refine (unhide K1 _).mono ?_
      rintro e w1 ⟨rfl, rfl⟩
      go_wp2_with fail
      refine (unhide K2 _).mono ?_
      rintro e w1 ⟨rfl, rfl⟩
      go_wp2
      go_ret
      exact ⟨rfl, rfl⟩
    · go_enter Tryd.func38, Tryd.ntmps38
      go_wp2_with fail
      refine (unhide K1 _).mono ?_
      rintro e w1 ⟨rfl, rfl⟩
      go_wp2_with fail
      refine (unhide K2 _).mono ?_
      rintro e w1 ⟨rfl, rfl⟩
      go_wp2
      go_ret
      exact ⟨rfl, rfl⟩
  · go_enter Tryd.func38, Tryd.ntmps38
    go_wp2_with fail
    refine (unhide K1 _).mono ?_
    rintro e w1 ⟨rfl, rfl⟩
    go_wp2
    go_ret
    exact ⟨rfl, rfl⟩

theorem ends_any (b : Nat) (w : World) (hb : b < 18446744073709551616) :
    Calls Tryd.prog 38 #[.int .u64 b] w fun e w' => e = .returned (.int .i64 (eN b)) ∧ w = w' :=
  ends_of b (fFin b) (fS b) w (fun w' => rfinite_any b w' hb) (fun w' => rneg4_any b w' hb)

set_option maxRecDepth 20000 in
set_option maxHeartbeats 2000000 in
theorem rorder_n1 (a b : Nat) (w : World)
    (C1 : ∀ w', Calls Tryd.prog 33 #[.int .u64 a] w' fun r w'' => r = .returned (.int .i64 4) ∧ w' = w'') :
    Calls Tryd.prog 10 #[.int .u64 a, .int .u64 b] w fun r w' => r = .returned (.tuple #[.int .i64 0, .bool false]) ∧ Below w.heap.size w w' := by
  have K1 := hide C1
  clear C1
  go_enter Tryd.func10, Tryd.ntmps10
  go_wp2_with fail
  refine (unhide K1 _).mono ?_
  rintro e w1 ⟨rfl, rfl⟩
  clear K1
  go_wp2
  exact bodyPost_ret (v := .tuple #[.int .i64 0, .bool false]) (by simp [results, Tryd.results10, go_sem]) rfl ⟨rfl, Below.refl _ _⟩

set_option maxRecDepth 20000 in
set_option maxHeartbeats 2000000 in
theorem rorder_n2 (a b : Nat) (ka : Int) (w : World) (h4 : (ka == 4) = false)
    (C1 : ∀ w', Calls Tryd.prog 33 #[.int .u64 a] w' fun r w'' => r = .returned (.int .i64 ka) ∧ w' = w'')
    (C2 : ∀ w', Calls Tryd.prog 33 #[.int .u64 b] w' fun r w'' => r = .returned (.int .i64 4) ∧ w' = w'') :
    Calls Tryd.prog 10 #[.int .u64 a, .int .u64 b] w fun r w' => r = .returned (.tuple #[.int .i64 0, .bool false]) ∧ Below w.heap.size w w' := by
  have K1 := hide C1; have K2 := hide C2
  clear C1 C2
  go_enter Tryd.func10, Tryd.ntmps10
  go_wp2_with fail
  refine (unhide K1 _).mono ?_
  rintro e w1 ⟨rfl, rfl⟩
  clear K1
  go_wp2_with fail
  refine (unhide K2 _).mono ?_
  rintro e w1 ⟨rfl, rfl⟩
  clear K2
  go_wp2
  exact bodyPost_ret (v := .tuple #[.int .i64 0, .bool false]) (by simp [results, Tryd.results10, go_sem]) rfl ⟨rfl, Below.refl _ _⟩

set_option maxRecDepth 20000 in
set_option maxHeartbeats 4000000 in
theorem rorder_i (a b : Nat) (ka kb x y o : Int) (w : World) (h4 : (ka == 4) = false) (g4 : (kb == 4) = false)
    (hw : (x = 0 ∧ y = -1 ∧ o = 1) ∨ (x = 0 ∧ y = 1 ∧ o = -1) ∨ (x = -1 ∧ y = 0 ∧ o = -1) ∨ (x = 1 ∧ y = 0 ∧ o = 1) ∨ (x = -1 ∧ y = -1 ∧ o = 0) ∨ (x = 1 ∧ y = 1 ∧ o = 0) ∨ (x = -1 ∧ y = 1 ∧ o = -1) ∨ (x = 1 ∧ y = -1 ∧ o = 1))
    (C1 : ∀ w', Calls Tryd.prog 33 #[.int .u64 a] w' fun r w'' => r = .returned (.int .i64 ka) ∧ w' = w'')
    (C2 : ∀ w', Calls Tryd.prog 33 #[.int .u64 b] w' fun r w'' => r = .returned (.int .i64 kb) ∧ w' = w'')
    (C3 : ∀ w', Calls Tryd.prog 38 #[.int .u64 a] w' fun r w'' => r = .returned (.int .i64 x) ∧ w' = w'')
    (C4 : ∀ w', Calls Tryd.prog 38 #[.int .u64 b] w' fun r w'' => r = .returned (.int .i64 y) ∧ w' = w'') :
    Calls Tryd.prog 10 #[.int .u64 a, .int .u64 b] w fun r w' => r = .returned (.tuple #[.int .i64 o, .bool true]) ∧ Below w.heap.size w w' := by
  have K1 := hide C1; have K2 := hide C2; have K3 := hide C3; have K4 := hide C4
  clear C1 C2 C3 C4
  rcases hw with ⟨rfl, rfl, rfl⟩ | ⟨rfl, rfl, rfl⟩ | ⟨rfl, rfl, rfl⟩ | ⟨rfl, rfl, rfl⟩ | ⟨rfl, rfl, rfl⟩ | ⟨rfl, rfl, rfl⟩ | ⟨rfl, rfl, rfl⟩ | ⟨rfl, rfl, rfl⟩
  all_goals
    go_enter Tryd.func10, Tryd.ntmps10
    go_wp2_with fail
    refine (unhide K1 _).mono ?_
    rintro e w1 ⟨rfl, rfl⟩
    clear K1
    go_wp2_with fail
    refine (unhide K2 _).mono ?_
    rintro e w1 ⟨rfl, rfl⟩
    clear K2
    go_wp2_with fail
    refine (unhide K3 _).mono ?_
    rintro e w1 ⟨rfl, rfl⟩
    clear K3
    go_wp2_with fail
    refine (unhide K4 _).mono ?_
    rintro e w1 ⟨rfl, rfl⟩
    clear K4
    go_wp2
    refine bodyPost_ret (v := .tuple #[.int .i64 _, .bool true]) (by simp [results, Tryd.results10, go_sem]; try rfl) rfl ⟨rfl, Below.refl _ _⟩

set_option maxRecDepth 20000 in
set_option maxHeartbeats 4000000 in
theorem rorder_f (a b : Nat) (ka kb z1 z2 X1 X2 o : Int) (w : World) (h4 : (ka == 4) = false) (g4 : (kb == 4) = false)
    (C1 : ∀ w', Calls Tryd.prog 33 #[.int .u64 a] w' fun r w'' => r = .returned (.int .i64 ka) ∧ w' = w'')
    (C2 : ∀ w', Calls Tryd.prog 33 #[.int .u64 b] w' fun r w'' => r = .returned (.int .i64 kb) ∧ w' = w'')
    (C3 : ∀ w', Calls Tryd.prog 38 #[.int .u64 a] w' fun r w'' => r = .returned (.int .i64 0) ∧ w' = w'')
    (C4 : ∀ w', Calls Tryd.prog 38 #[.int .u64 b] w' fun r w'' => r = .returned (.int .i64 0) ∧ w' = w'')
    (C5 : ∀ w', Calls Tryd.prog 40 #[.int .u64 a] w' fun r w'' => ∃ u, r = .returned u ∧ IsDy w'' u z1 X1 ∧ Below w'.heap.size w' w'')
    (C6 : ∀ w', Calls Tryd.prog 40 #[.int .u64 b] w' fun r w'' => ∃ u, r = .returned u ∧ IsDy w'' u z2 X2 ∧ Below w'.heap.size w' w'')
    (C7 : ∀ w' v u, IsDy w' v z1 X1 → IsDy w' u z2 X2 → Calls Tryd.prog 39 #[v, u] w' fun r w'' => r = .returned (.int .i64 o) ∧ Below w'.heap.size w' w'') :
    Calls Tryd.prog 10 #[.int .u64 a, .int .u64 b] w fun r w' => r = .returned (.tuple #[.int .i64 o, .bool true]) ∧ Below w.heap.size w w' := by
  have K1 := hide C1; have K2 := hide C2; have K3 := hide C3; have K4 := hide C4; have K5 := hide C5; have K6 := hide C6; have K7 := hide C7
  clear C1 C2 C3 C4 C5 C6 C7
  go_enter Tryd.func10, Tryd.ntmps10
  go_wp2_with fail
  refine (unhide K1 _).mono ?_
  rintro e w1 ⟨rfl, rfl⟩
  clear K1
  go_wp2_with fail
  refine (unhide K2 _).mono ?_
  rintro e w1 ⟨rfl, rfl⟩
  clear K2
  go_wp2_with fail
  refine (unhide K3 _).mono ?_
  rintro e w1 ⟨rfl, rfl⟩
  clear K3
  go_wp2_with fail
  refine (unhide K4 _).mono ?_
  rintro e w1 ⟨rfl, rfl⟩
  clear K4
  go_wp2_with fail
  refine (unhide K5 _).mono ?_
  rintro e w1 ⟨v, rfl, hv, hb1⟩
  obtain ⟨n1, a1, c1, L1, rfl, i1⟩ := hv
  have HV := hide (show IsDy w1 (.agg #[.bool n1, .slice a1 L1.length c1, .int .i64 X1]) z1 X1 from ⟨n1, a1, c1, L1, rfl, i1⟩)
  have B1 := hide hb1
  clear i1 hb1 K5
  go_wp2_with fail
  refine (unhide K6 _).mono ?_
  rintro e w2 ⟨v, rfl, hv, hb1⟩
  obtain ⟨n2, a2, c2, L2, rfl, i2⟩ := hv
  have HU := hide (show IsDy w2 (.agg #[.bool n2, .slice a2 L2.length c2, .int .i64 X2]) z2 X2 from ⟨n2, a2, c2, L2, rfl, i2⟩)
  have HV2 := hide ((unhide HV).below hb1)
  have B2 := hide ((unhide B1).trans (hb1.mono (unhide B1).size))
  clear i2 hb1 K6 B1 HV
  go_wp2_with fail
  refine (unhide K7 _ _ _ (unhide HV2) (unhide HU)).mono ?_
  rintro e w3 ⟨rfl, hb1⟩
  have B3 := hide ((unhide B2).trans (hb1.mono (unhide B2).size))
  clear hb1 K7 B2
  go_wp2
  exact bodyPost_ret (v := .tuple #[.int .i64 o, .bool true]) (by simp [results, Tryd.results10, go_sem]) rfl ⟨rfl, unhide B3⟩

theorem eN_fin {b : Nat} (h : fFin b = true) : eN b = 0 := by unfold eN; rw [if_pos h]
theorem eN_inf {b : Nat} (h : fK b = 3) : (eN b = -1 ∧ fZ b = -((2 ^ 2098 : Nat) : Int)) ∨ (eN b = 1 ∧ fZ b = ((2 ^ 2098 : Nat) : Int)) := by
  have hf : fFin b = false := by
    rcases fK_cases b with h1 | h1
    · exact h1.1
    · omega
  have hr := (fK_rungs b).2.1.1 h
  unfold eN fZ pv
  rw [hr, rv_inf, if_neg (by rw [hf]; decide)]
  cases fS b
  · exact .inr ⟨rfl, rfl⟩
  · exact .inl ⟨rfl, rfl⟩

theorem rorder_any (a b : Nat) (w : World) (ha : a < 18446744073709551616) (hb : b < 18446744073709551616) :
    Calls Tryd.prog 10 #[.int .u64 a, .int .u64 b] w fun r w' => r = .returned (.tuple #[.int .i64 (cO a b), .bool (cB a b)]) ∧ Below w.heap.size w w' := by
  have C1 := fun w' => rkind_any a w' ha
  have C2 := fun w' => rkind_any b w' hb
  have C3 := fun w' => ends_any a w' ha
  have C4 := fun w' => ends_any b w' hb
  unfold cO cB
  by_cases a4 : fK a = 4
  · rw [if_pos (Or.inl a4), if_pos (Or.inl a4)]
    rw [a4] at C1
    exact rorder_n1 a b w C1
  by_cases b4 : fK b = 4
  · rw [if_pos (Or.inr b4), if_pos (Or.inr b4)]
    rw [b4] at C2
    exact rorder_n2 a b _ w (by simp [a4]) C1 C2
  have h : ¬ (fK a = 4 ∨ fK b = 4) := fun h => h.elim a4 b4
  rw [if_neg h, if_neg h]
  have ka : (fK a == 4) = false := by simp [a4]
  have kb : (fK b == 4) = false := by simp [b4]
  have hP : (0 : Int) < ((2 ^ 2098 : Nat) : Int) := Int.natCast_pos.2 (Nat.two_pow_pos 2098)
  by_cases a3 : fK a = 3
  · have za := eN_inf a3
    by_cases b3 : fK b = 3
    · have zb := eN_inf b3
      rcases za with ⟨x1, x2⟩ | ⟨x1, x2⟩ <;> rcases zb with ⟨y1, y2⟩ | ⟨y1, y2⟩ <;> rw [x1] at C3 <;> rw [y1] at C4 <;> rw [x2, y2] <;> generalize ((2 ^ 2098 : Nat) : Int) = P at *
      · rw [cmpI8_eq rfl]; exact rorder_i a b _ _ _ _ _ w ka kb (by decide) C1 C2 C3 C4
      · rw [cmpI8_lt (by omega)]; exact rorder_i a b _ _ _ _ _ w ka kb (by decide) C1 C2 C3 C4
      · rw [cmpI8_gt (by omega)]; exact rorder_i a b _ _ _ _ _ w ka kb (by decide) C1 C2 C3 C4
      · rw [cmpI8_eq rfl]; exact rorder_i a b _ _ _ _ _ w ka kb (by decide) C1 C2 C3 C4
    · have fb := fin_of b b3 b4
      have l := fZ_lt b fb
      rw [eN_fin fb] at C4
      rcases za with ⟨x1, x2⟩ | ⟨x1, x2⟩ <;> rw [x1] at C3 <;> rw [x2] <;> generalize (2 ^ 2098 : Nat) = P at *
      · rw [cmpI8_lt (by omega)]; exact rorder_i a b _ _ _ _ _ w ka kb (by decide) C1 C2 C3 C4
      · rw [cmpI8_gt (by omega)]; exact rorder_i a b _ _ _ _ _ w ka kb (by decide) C1 C2 C3 C4
  · have fa := fin_of a a3 a4
    have la := fZ_lt a fa
    rw [eN_fin fa] at C3
    by_cases b3 : fK b = 3
    · have zb := eN_inf b3
      rcases zb with ⟨y1, y2⟩ | ⟨y1, y2⟩ <;> rw [y1] at C4 <;> rw [y2] <;> generalize (2 ^ 2098 : Nat) = P at *
      · rw [cmpI8_gt (by omega)]; exact rorder_i a b _ _ _ _ _ w ka kb (by decide) C1 C2 C3 C4
      · rw [cmpI8_lt (by omega)]; exact rorder_i a b _ _ _ _ _ w ka kb (by decide) C1 C2 C3 C4
    · have fb := fin_of b b3 b4
      rw [eN_fin fb] at C4
      clear la
      obtain ⟨d1, d2⟩ := fZ_level a ha fa
      obtain ⟨d3, d4⟩ := fZ_level b hb fb
      exact rorder_f a b _ _ (fD a) (fD b) (fX a) (fX b) _ w ka kb C1 C2 C3 C4 (fun w' => rvalue_any a w' ha) (fun w' => rvalue_any b w' hb)
        (fun w' v u hv hu => rcmpN (W := 2099) (lo := -1074) (z1 := fZ a) (z2 := fZ b) (by rw [d1, d2]; exact hv) (by rw [d3, d4]; exact hu) (fZ_Lvl a fa) (fZ_Lvl b fb))

set_option maxRecDepth 20000 in
set_option maxHeartbeats 2000000 in
theorem r8abs_any (a : Nat) (w : World) (ha : a < 18446744073709551616) :
    Calls Tryd.prog 17 #[.int .u64 a] w fun e w' => e = .returned (.int .u64 (fR a : Nat)) ∧ w = w' := by
  have K1 := hide (fun w' => rneg4_any a w' ha)
  have K2 := hide (fun w' => rminus4_any a w' ha)
  cases hs : fS a
  · rw [hs] at K1
    rw [abs_plus a hs ha]
    clear hs ha K2
    go_enter Tryd.func17, Tryd.ntmps17
    go_wp2_with fail
    refine (unhide K1 _).mono ?_
    rintro e w1 ⟨rfl, rfl⟩
    clear K1
    go_wp2
    go_ret
    exact ⟨rfl, rfl⟩
  · rw [hs] at K1
    rw [abs_minus a hs ha]
    clear hs ha
    generalize fN a = q at *
    go_enter Tryd.func17, Tryd.ntmps17
    go_wp2_with fail
    refine (unhide K1 _).mono ?_
    rintro e w1 ⟨rfl, rfl⟩
    clear K1
    go_wp2_with fail
    refine (unhide K2 _).mono ?_
    rintro e w2 ⟨rfl, rfl⟩
    clear K2
    go_wp2
    go_ret
    exact ⟨rfl, rfl⟩

end Go.Proofs.YtpaikdlhkdgkpaaDoor

/- The reference's Scale, Int of layer 8. -/
namespace Go.Proofs.YtpaikdlhkdgkpaaDoor
open Go.RowKit

set_option maxRecDepth 20000 in
set_option maxHeartbeats 2000000 in
theorem r8scale_n (a : Nat) (n : Int) (w : World)
    (C1 : ∀ w', Calls Tryd.prog 33 #[.int .u64 a] w' fun r w'' => r = .returned (.int .i64 4) ∧ w' = w'') :
    Calls Tryd.prog 20 #[.int .u64 a, .int .i64 n] w fun r w' => r = .returned (.tuple #[.int .u64 9221120237041090560, .int .u8 0]) ∧ Below w.heap.size w w' := by
  have K1 := hide C1
  clear C1
  go_enter Tryd.func20, Tryd.ntmps20
  go_wp2_with fail
  refine (unhide K1 _).mono ?_
  rintro e w1 ⟨rfl, rfl⟩
  clear K1
  go_wp2
  exact bodyPost_ret (v := .tuple #[.int .u64 9221120237041090560, .int .u8 0]) (by simp [results, Tryd.results20, go_sem]) rfl ⟨rfl, Below.refl _ _⟩

set_option maxRecDepth 20000 in
set_option maxHeartbeats 2000000 in
theorem r8scale_iz (a : Nat) (n k : Int) (w : World) (hk : k = 3 ∨ k = 0)
    (C1 : ∀ w', Calls Tryd.prog 33 #[.int .u64 a] w' fun r w'' => r = .returned (.int .i64 k) ∧ w' = w'') :
    Calls Tryd.prog 20 #[.int .u64 a, .int .i64 n] w fun r w' => r = .returned (.tuple #[.int .u64 (a : Nat), .int .u8 0]) ∧ Below w.heap.size w w' := by
  have K1 := hide C1
  clear C1
  rcases hk with rfl | rfl
  all_goals
    go_enter Tryd.func20, Tryd.ntmps20
    go_wp2_with fail
    refine (unhide K1 _).mono ?_
    rintro e w1 ⟨rfl, rfl⟩
    clear K1
    go_wp2
    exact bodyPost_ret (v := .tuple #[.int .u64 (a : Nat), .int .u8 0]) (by simp [results, Tryd.results20, go_sem]) rfl ⟨rfl, Below.refl _ _⟩

set_option maxRecDepth 20000 in
set_option maxHeartbeats 2000000 in
theorem r8scale_f (a o : Nat) (n k m c D X Y fl : Int) (w : World) (h4 : (k == 4) = false) (h3 : (k == 3) = false) (h0 : (k == 0) = false)
    (hM : ∀ W ts t, (Builtin.min_ ts t #[.int .i64 5000, .int .i64 n]).run Tryd.prog W = .ok (.int .i64 m) W)
    (hN : ∀ W ts t, (Builtin.max_ ts t #[.int .i64 (-5000), .int .i64 m]).run Tryd.prog W = .ok (.int .i64 c) W)
    (C1 : ∀ w', Calls Tryd.prog 33 #[.int .u64 a] w' fun r w'' => r = .returned (.int .i64 k) ∧ w' = w'')
    (C2 : ∀ w', Calls Tryd.prog 40 #[.int .u64 a] w' fun r w'' => ∃ u, r = .returned u ∧ IsDy w'' u D X ∧ Below w'.heap.size w' w'')
    (C3 : ∀ w' v, IsDy w' v D X → Calls Tryd.prog 48 #[v, .int .i64 c] w' fun r w'' => ∃ u, r = .returned u ∧ IsDy w'' u D Y ∧ Below w'.heap.size w' w'')
    (C4 : ∀ w' v, IsDy w' v D Y → Calls Tryd.prog 47 #[v] w' fun r w'' => r = .returned (.tuple #[.int .u64 (o : Nat), .int .u8 fl]) ∧ Below w'.heap.size w' w'') :
    Calls Tryd.prog 20 #[.int .u64 a, .int .i64 n] w fun r w' => r = .returned (.tuple #[.int .u64 (o : Nat), .int .u8 fl]) ∧ Below w.heap.size w w' := by
  have K1 := hide C1; have K2 := hide C2; have K3 := hide C3; have K4 := hide C4
  clear C1 C2 C3 C4
  go_enter Tryd.func20, Tryd.ntmps20
  go_wp2_with fail
  refine (unhide K1 _).mono ?_
  rintro e w1 ⟨rfl, rfl⟩
  clear K1
  go_wp2_with fail
  refine (unhide K2 _).mono ?_
  rintro e w1 ⟨v, rfl, hv, hb1⟩
  obtain ⟨n1, a1, c1, L1, rfl, i1⟩ := hv
  have HX := hide (show IsDy w1 (.agg #[.bool n1, .slice a1 L1.length c1, .int .i64 X]) D X from ⟨n1, a1, c1, L1, rfl, i1⟩)
  have B1 := hide hb1
  clear i1 hb1 K2
  generalize L1.length = l1 at *
  go_wp2_with fail
  refine (unhide K3 _ _ (unhide HX)).mono ?_
  rintro e w2 ⟨v, rfl, hv, hb1⟩
  obtain ⟨n2, a2, c2, L2, rfl, i2⟩ := hv
  have HY := hide (show IsDy w2 (.agg #[.bool n2, .slice a2 L2.length c2, .int .i64 Y]) D Y from ⟨n2, a2, c2, L2, rfl, i2⟩)
  have B2 := hide ((unhide B1).trans (hb1.mono (unhide B1).size))
  clear i2 hb1 K3 B1 HX
  generalize L2.length = l2 at *
  go_wp2_with fail
  refine (unhide K4 _ _ (unhide HY)).mono ?_
  rintro e w3 ⟨rfl, hb1⟩
  have B3 := hide ((unhide B2).trans (hb1.mono (unhide B2).size))
  clear hb1 K4 B2 HY
  go_wp2
  exact bodyPost_ret (v := .tuple #[.int .u64 (o : Nat), .int .u8 fl]) (by simp [results, Tryd.results20, go_sem]) rfl ⟨rfl, unhide B3⟩

theorem lt80 {x : Nat} (h : x < 18446744073709551616) : x < 4294967296 ^ 80 := Nat.lt_of_lt_of_le h (by
  have : (4294967296 : Nat) ^ 2 ≤ 4294967296 ^ 80 := Nat.pow_le_pow_right (by decide) (by decide)
  exact Nat.le_trans (by decide) this)

theorem r8scale_any (a : Nat) (n : Int) (w : World) (ha : a < 18446744073709551616) :
    Calls Tryd.prog 20 #[.int .u64 a, .int .i64 n] w fun r w' => r = .returned (.tuple #[.int .u64 (xV a n : Nat), .int .u8 (xF a n)]) ∧ Below w.heap.size w w' := by
  have C1 := fun w' => rkind_any a w' ha
  by_cases a4 : fK a = 4
  · unfold xV xF
    rw [if_pos a4, if_pos a4]
    rw [a4] at C1
    exact r8scale_n a n w C1
  by_cases a3 : fK a = 3 ∨ fK a = 0
  · unfold xV xF
    rw [if_neg a4, if_neg a4, if_pos a3, if_pos a3]
    exact r8scale_iz a n _ w a3 C1
  · have fa := fin_of a (by omega) a4
    have e := xV_clamp 5000 (by decide) a n ha
    rw [← e.1, ← e.2]
    obtain ⟨z1, z2, z3, z4, z5, z6, z7, z8, z9⟩ := sc_facts a ha fa (by omega)
    obtain ⟨c, hc⟩ : ∃ c, c = max (-5000) (min 5000 n) := ⟨_, rfl⟩
    rw [← hc]
    have hc2 : -5000 ≤ c ∧ c ≤ 5000 := by omega
    unfold xV xF
    rw [if_neg a4, if_neg a4, if_neg a3, if_neg a3]
    have C4 : ∀ w' v, IsDy w' v (fD a) (fX a + c) → _ := fun w' v hv => rround_dy hv (lt80 (by omega)) (odd_dRt z1 (by omega))
    rw [z4] at C4
    exact r8scale_f a _ n _ (min 5000 n) c (fD a) (fX a) (fX a + c) _ w (by simp [a4]) (by simp; omega) (by simp; omega) (fun W ts t => min2_run _ W ts t _ _) (fun W ts t => by rw [hc]; exact max2_run _ W ts t _ _) C1 (fun w' => rvalue_any a w' ha) (fun w' v hv => rscale8N c hv z1 z2 (by omega) hc2) C4

set_option maxRecDepth 20000 in
set_option maxHeartbeats 2000000 in
theorem r8int_of (o : Nat) (n M X fl : Int) (w : World)
    (C1 : ∀ w', Calls Tryd.prog 29 #[.int .i64 n] w' fun r w'' => ∃ v, r = .returned v ∧ IsNumM 2 w'.heap.size w'' v n ∧ Below w'.heap.size w' w'')
    (C2 : ∀ B w' v, IsNumM 2 B w' v n → Calls Tryd.prog 54 #[v, .int .i64 0] w' fun r w'' => ∃ u, r = .returned u ∧ IsDy w'' u M X ∧ Below w'.heap.size w' w'')
    (C3 : ∀ w' v, IsDy w' v M X → Calls Tryd.prog 47 #[v] w' fun r w'' => r = .returned (.tuple #[.int .u64 (o : Nat), .int .u8 fl]) ∧ Below w'.heap.size w' w'') :
    Calls Tryd.prog 25 #[.int .i64 n] w fun r w' => r = .returned (.tuple #[.int .u64 (o : Nat), .int .u8 fl]) ∧ Below w.heap.size w w' := by
  have K1 := hide C1; have K2 := hide C2; have K3 := hide C3
  clear C1 C2 C3
  go_enter Tryd.func25, Tryd.ntmps25
  go_wp2_with fail
  refine (unhide K1 _).mono ?_
  rintro e w1 ⟨v, rfl, ⟨n3, a3, c3, L3, rfl, i3⟩, hb1⟩
  have B1 := hide hb1
  have I1 := hide (show IsNumM 2 w.heap.size w1 (.agg #[.bool n3, .slice a3 L3.length c3]) n from ⟨n3, a3, c3, L3, rfl, i3⟩)
  clear hb1 K1 i3
  generalize L3.length = l3 at *
  go_wp2_with fail
  refine (unhide K2 _ _ _ (unhide I1)).mono ?_
  rintro e w2 ⟨v, rfl, hv, hb1⟩
  obtain ⟨n2, a2, c2, L2, rfl, i2⟩ := hv
  have HY := hide (show IsDy w2 (.agg #[.bool n2, .slice a2 L2.length c2, .int .i64 X]) M X from ⟨n2, a2, c2, L2, rfl, i2⟩)
  have B2 := hide ((unhide B1).trans (hb1.mono (unhide B1).size))
  clear i2 hb1 K2 B1 I1
  generalize L2.length = l2 at *
  go_wp2_with fail
  refine (unhide K3 _ _ (unhide HY)).mono ?_
  rintro e w3 ⟨rfl, hb1⟩
  have B3 := hide ((unhide B2).trans (hb1.mono (unhide B2).size))
  clear hb1 K3 B2 HY
  go_wp2
  exact bodyPost_ret (v := .tuple #[.int .u64 (o : Nat), .int .u8 fl]) (by simp [results, Tryd.results25, go_sem]) rfl ⟨rfl, unhide B3⟩

theorem r8int_any (n : Int) (w : World) (h : -9223372036854775808 ≤ n ∧ n ≤ 9223372036854775807) :
    Calls Tryd.prog 25 #[.int .i64 n] w fun r w' => r = .returned (.tuple #[.int .u64 (iV n : Nat), .int .u8 (iF n)]) ∧ Below w.heap.size w w' := by
  obtain ⟨h1, h2, h3⟩ := int_facts n h
  have C3 : ∀ w' v, IsDy w' v (oM n) (oE n 0) → _ := fun w' v hv => rround_dy hv (lt80 h3) h2
  rw [oM_sign, (rnd_odd n 0).1] at C3
  exact r8int_of _ n (oM n) (oE n 0) _ w (fun w' => refOf_any n w' h.1 h.2) (fun B w' v hv => rof_small 0 hv (by decide) (by decide)) C3

end Go.Proofs.YtpaikdlhkdgkpaaDoor

/- awake of layer 8; the laws CompareTruncs, CompareExps, walked. -/
namespace Go.Proofs.YtpaikdlhkdgkpaaDoor
open Go.RowKit

theorem awake8_facts : cO 4607182418800017408 9218868437227405312 = -1 ∧ cB 4607182418800017408 9218868437227405312 = true ∧ xV 4607182418800017408 (-1) = 4602678819172646912 ∧ xF 4607182418800017408 (-1) = 0 ∧ tB8 13836183955189006336 = true ∧ tI 13836183955189006336 = -2 := by decide +kernel

set_option maxRecDepth 20000 in
set_option maxHeartbeats 2000000 in
theorem awake8_any (w : World) (hT : Tab w) : Calls Tryd.prog 18 #[] w fun e w' => e = .returned (.bool true) ∧ Below w.heap.size w w' := by
  obtain ⟨f1, f2, f3, f4, f5, f6⟩ := awake8_facts
  have K1 : Hid (Calls Tryd.prog 9 #[.int .u64 4607182418800017408, .int .u64 9218868437227405312] w fun r w' => r = .returned (.tuple #[.int .i64 (-1), .bool true]) ∧ Below w.heap.size w w') := by
    have := corder_any 4607182418800017408 9218868437227405312 w (by decide) (by decide)
    rw [f1, f2] at this
    exact this
  have K2 : Hid (∀ w', Tab w' → Calls Tryd.prog 19 #[.int .u64 4607182418800017408, .int .i64 (-1)] w' fun r w'' => r = .returned (.tuple #[.int .u64 4602678819172646912, .int .u8 0]) ∧ Below w'.heap.size w' w'') := fun w' t => by
    have := cscale_any 4607182418800017408 (-1) w' (by decide) t
    rw [f3, f4] at this
    exact this
  have K3 : Hid (∀ w', Tab w' → Calls Tryd.prog 26 #[.int .u64 13836183955189006336] w' fun r w'' => r = .returned (.tuple #[.int .i64 (-2), .int .i64 0]) ∧ Below w'.heap.size w' w'') := fun w' t => by
    have := ctrunc_any 13836183955189006336 w' (by decide) t
    rw [f5, f6] at this
    exact this
  have HT := hide hT
  clear hT f1 f2 f3 f4 f5 f6
  go_enter Tryd.func18, Tryd.ntmps18
  go_wp2_with fail
  refine Calls.mono (unhide K1) ?_
  rintro e w1 ⟨rfl, hb1⟩
  have B1 := hide hb1
  clear hb1 K1
  go_wp2_with fail
  refine (unhide K2 _ ((unhide HT).all (unhide B1))).mono ?_
  rintro e w2 ⟨rfl, hb1⟩
  have B2 := hide ((unhide B1).trans (hb1.mono (unhide B1).size))
  clear hb1 K2 B1
  go_wp2_with fail
  refine (unhide K3 _ ((unhide HT).all (unhide B2))).mono ?_
  rintro e w3 ⟨rfl, hb1⟩
  have B3 := hide ((unhide B2).trans (hb1.mono (unhide B2).size))
  clear hb1 K3 B2
  go_wp2
  go_ret
  exact ⟨rfl, unhide B3⟩

set_option maxRecDepth 20000 in
set_option maxHeartbeats 4000000 in
theorem compareExps_ways (a : Nat) (k kd : Int) (f : Bool) (w : World) (hT : Tab w)
    (hw : (f = false ∧ k = 0) ∨ (f = true ∧ kd = 0 ∧ k = 0) ∨ (f = true ∧ (kd == 0) = false ∧ -1074 ≤ k ∧ k ≤ 1023))
    (C1 : Calls Tryd.prog 30 #[.int .u64 a] w fun r w' => r = .returned (.int .i64 k) ∧ Below w.heap.size w w')
    (C2 : ∀ w', Calls Tryd.prog 31 #[.int .u64 a] w' fun r w'' => r = .returned (.int .i64 k) ∧ Below w'.heap.size w' w'')
    (C3 : ∀ w', Calls Tryd.prog 32 #[.int .u64 a] w' fun r w'' => r = .returned (.bool f) ∧ w' = w'')
    (C4 : ∀ w', Calls Tryd.prog 33 #[.int .u64 a] w' fun r w'' => r = .returned (.int .i64 kd) ∧ w' = w'') :
    Calls Tryd.prog 7 #[.int .u64 a] w fun r w' => r = .returned (.bool true) ∧ Below w.heap.size w w' := by
  have K1 := hide C1; have K2 := hide C2; have K3 := hide C3; have K4 := hide C4; have HT := hide hT
  have K5 := hide (fun w' t => awake8_any w' t)
  clear C1 C2 C3 C4 hT
  rcases hw with ⟨rfl, rfl⟩ | ⟨rfl, rfl, rfl⟩ | ⟨rfl, h0, h1, h2⟩
  all_goals
    go_enter Tryd.func7, Tryd.ntmps7
    go_wp2_with fail
    refine Calls.mono (unhide K1) ?_
    rintro e w1 ⟨rfl, hb1⟩
    have B1 := hide hb1
    clear hb1 K1
    go_wp2_with fail
    refine (unhide K2 _).mono ?_
    rintro e w2 ⟨rfl, hb1⟩
    have B2 := hide ((unhide B1).trans (hb1.mono (unhide B1).size))
    clear hb1 K2 B1
    go_wp2_with fail
    refine (unhide K3 _).mono ?_
    rintro e w3 ⟨rfl, rfl⟩
    go_wp2_with fail
    try (refine (unhide K4 _).mono ?_; rintro e w3 ⟨rfl, rfl⟩; go_wp2_with fail)
    refine (unhide K5 _ ((unhide HT).all (unhide B2))).mono ?_
    rintro e w4 ⟨rfl, hb1⟩
    have B3 := hide ((unhide B2).trans (hb1.mono (unhide B2).size))
    clear hb1 K3 K4 K5 B2
    go_wp2
    go_ret
    exact ⟨rfl, unhide B3⟩

theorem compareExps_walk (a : Nat) (w : World) (ha : a < 18446744073709551616) (hT : Tab w) :
    Calls Tryd.prog 7 #[.int .u64 a] w fun r w' => r = .returned (.bool true) ∧ Below w.heap.size w w' := by
  refine compareExps_ways a (eX a) (fK a) (fFin a) w hT ?_ (cexp_any a w ha hT) (fun w' => r8exp_any a w' ha) (fun w' => rfinite_any a w' ha) (fun w' => rkind_any a w' ha)
  unfold eX
  rcases fK_cases a with ⟨h1, h2⟩ | ⟨h1, h2⟩
  · exact .inl ⟨h1, by rw [if_pos (by omega)]⟩
  · by_cases h0 : fK a = 0
    · exact .inr (.inl ⟨h1, h0, by rw [if_pos (by omega)]⟩)
    · obtain ⟨z1, z2, z3, z4, z5, z6, z7, z8, z9⟩ := sc_facts a ha h1 h0
      exact .inr (.inr ⟨h1, by simp [h0], by rw [if_neg (by omega)]; omega, by rw [if_neg (by omega)]; omega⟩)

set_option maxRecDepth 20000 in
set_option maxHeartbeats 4000000 in
theorem compareTruncs_ways (a : Nat) (T k f : Int) (t : Bool) (w : World) (hT : Tab w)
    (hw : (t = false ∧ k = 0 ∧ f = 7) ∨ (t = true ∧ f = 0))
    (C1 : Calls Tryd.prog 26 #[.int .u64 a] w fun r w' => r = .returned (.tuple #[.int .i64 k, .int .i64 f]) ∧ Below w.heap.size w w')
    (C2 : ∀ w', Calls Tryd.prog 27 #[.int .u64 a] w' fun r w'' => ∃ v, r = .returned (.tuple #[v, .bool t]) ∧ IsNum 0 w'' v T ∧ Below w'.heap.size w' w'')
    (C3 : t = true → ∀ w', Calls Tryd.prog 29 #[.int .i64 k] w' fun r w'' => ∃ v, r = .returned v ∧ IsNumM 2 w'.heap.size w'' v T ∧ Below w'.heap.size w' w'')
    (C4 : ∀ B w' v u, IsNumM 2 B w' v T → IsNum 0 w' u T → Calls Tryd.prog 28 #[v, u] w' fun r w'' => r = .returned (.bool true) ∧ Below w'.heap.size w' w'') :
    Calls Tryd.prog 6 #[.int .u64 a] w fun r w' => r = .returned (.bool true) ∧ Below w.heap.size w w' := by
  have K1 := hide C1; have K2 := hide C2; have K3 := hide C3; have K4 := hide C4; have HT := hide hT
  have K5 := hide (fun w' t => awake8_any w' t)
  clear C1 C2 C3 C4 hT
  go_enter Tryd.func6, Tryd.ntmps6
  go_wp2_with fail
  refine Calls.mono (unhide K1) ?_
  rintro e w1 ⟨rfl, hb1⟩
  have B1 := hide hb1
  clear hb1 K1
  go_wp2_with fail
  refine (unhide K2 _).mono ?_
  rintro e w2 ⟨v, rfl, hv, hb1⟩
  obtain ⟨n2, a2, c2, L2, rfl, i2⟩ := hv
  have hb1a : Below w2.heap.size w2 (w2.alloc (.cells #[.bool n2, .slice a2 L2.length c2] 46)) := (Below.refl _ _).alloc (Nat.le_refl _) _
  have HY := hide (IsNum.below (show IsNum 0 w2 (.agg #[.bool n2, .slice a2 L2.length c2]) T from ⟨n2, a2, c2, L2, rfl, i2⟩) hb1a)
  have B2 := hide ((unhide B1).trans ((hb1.trans (hb1a.mono hb1.size)).mono (unhide B1).size))
  have X3 := hide (Box2.new w2 (.bool n2) (.slice a2 L2.length c2))
  clear i2 hb1 hb1a K2 B1
  generalize L2.length = l2 at *
  rcases hw with ⟨rfl, rfl, rfl⟩ | ⟨rfl, rfl⟩
  · go_wp2_with fail
    refine (unhide K5 _ ((unhide HT).all (unhide B2))).mono ?_
    rintro e w4 ⟨rfl, hb1⟩
    have B3 := hide ((unhide B2).trans (hb1.mono (unhide B2).size))
    clear hb1 K5 B2
    go_wp2
    go_ret
    exact ⟨rfl, unhide B3⟩
  · go_wp2_with fail
    refine at_world (fun W => Below w.heap.size w W ∧ Box2 W w2.heap.size (.bool n2) (.slice a2 l2 c2) ∧ IsNum 0 W (.agg #[.bool n2, .slice a2 l2 c2]) T ∧ Tab W) ⟨unhide B2, unhide X3, unhide HY, (unhide HT).all (unhide B2)⟩ ?_
    clear B2 X3 HY HT
    rintro W0 ⟨b0, x2, hv, ht⟩
    generalize w2.heap.size = g at *
    have hK : ∀ w', Below W0.heap.size W0 w' → Below W0.heap.size W0 w' ∧ w'.cell? ⟨g, 0, none⟩ = some (.bool n2) ∧ w'.cell? ⟨g, 1, none⟩ = some (.slice a2 l2 c2) := fun w' h => ⟨h, (x2.all h).c0, (x2.all h).c1⟩
    have HK := hide hK; have BB := hide b0; have HV := hide hv; have HT := hide ht
    have K6 := hide ((unhide K3) trivial)
    clear hK b0 x2 hv ht K3
    go_region_held3 (fun w' => Below W0.heap.size W0 w' ∧ w'.cell? ⟨g, 0, none⟩ = some (.bool n2) ∧ w'.cell? ⟨g, 1, none⟩ = some (.slice a2 l2 c2))
      (first | exact unhide HK _ (Below.refl _ _).drew | exact unhide HK _ (by assumption) | fail "NO KEEP")
      (first | (go_at_call 29; refine (unhide K6 _).mono ?_; rintro e wn5 ⟨q, rfl, hq, hb1⟩; have hB5 : Below W0.heap.size W0 wn5 := Below.trans (And.left (by assumption)) (hb1.mono (Below.size (And.left (by assumption)))); obtain ⟨n5, a5, d5, L5, rfl, j5⟩ := hq; have J1 := hide (show IsNumM 2 _ wn5 (.agg #[.bool n5, .slice a5 L5.length d5]) T from ⟨n5, a5, d5, L5, rfl, j5⟩); clear hb1 j5) | (go_at_call 28; refine (unhide K4 _ _ _ _ (unhide J1) ((unhide HV).below (And.left (by assumption)))).mono ?_; rintro e wn6 ⟨rfl, hb1⟩; have hB6 : Below W0.heap.size W0 wn6 := Below.trans (And.left (by assumption)) (hb1.mono (Below.size (And.left (by assumption)))); clear hb1) | (go_at_call 18; refine (unhide K5 _ ((unhide HT).all (And.left (by assumption)))).mono ?_; rintro e wn9 ⟨rfl, hb1⟩; have hB9 : Below W0.heap.size W0 wn9 := Below.trans (And.left (by assumption)) (hb1.mono (Below.size (And.left (by assumption)))); clear hb1) | fail "NO ARM")
    have hW : Below W0.heap.size W0 _ := And.left (by assumption)
    have B9 := hide ((unhide BB).trans (hW.mono (unhide BB).size))
    clear hW
    go_wp2
    go_ret
    exact ⟨rfl, unhide B9⟩

theorem compareTruncs_walk (a : Nat) (w : World) (ha : a < 18446744073709551616) (hT : Tab w) :
    Calls Tryd.prog 6 #[.int .u64 a] w fun r w' => r = .returned (.bool true) ∧ Below w.heap.size w w' := by
  have C1 := ctrunc_any a w ha hT
  have C2 := fun w' => r8trunc_any a w' ha
  have hs : ∀ B w' v u (T : Int), T.natAbs < TOP → IsNumM 2 B w' v T → IsNum 0 w' u T → Calls Tryd.prog 28 #[v, u] w' fun r w'' => r = .returned (.bool true) ∧ Below w'.heap.size w' w'' := fun B w' v u T hT hv hu => by
    have := same_num (hv.num (by decide)) hu
    rw [decide_eq_true rfl] at this
    exact this
  cases ht : tB8 a
  · rw [ht] at C1 C2
    exact compareTruncs_ways a 0 0 7 false w hT (.inl ⟨rfl, rfl, rfl⟩) C1 C2 (fun h => by cases h) (fun B w' v u => hs B w' v u 0 TOP_pos)
  · rw [ht] at C1 C2
    unfold tB8 at ht
    have hf : fits64 (tI a) = true := (Bool.and_eq_true_iff.1 ht).2
    have hf2 := of_decide_eq_true hf
    exact compareTruncs_ways a (tI a) (tI a) 0 true w hT (.inr ⟨rfl, rfl⟩) C1 C2 (fun _ w' => refOf_any _ w' hf2.1 hf2.2) (fun B w' v u => hs B w' v u _ (small_TOP _ (by omega)))

end Go.Proofs.YtpaikdlhkdgkpaaDoor

