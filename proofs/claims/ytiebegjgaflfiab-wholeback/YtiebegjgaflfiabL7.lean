/- The law WholeLaws, walked. Written by mklaws.py. -/
import Derived.Test.YtiebegjgaflfiabWE
import Derived.Test.YtiebegjgaflfiabM2
import Derived.Test.YtiebegjgaflfiabForm
import Derived.Test.YtiebegjgaflfiabRight
namespace Go.Proofs.Ytiebegjgaflfiab
open Go.RowKit

/-- Add and Mul of numbers that are not too great. -/
theorem add_ok {B B' : Nat} {w : World} {v u : Value} {x y : Int} (hv : IsNum B w v x) (hu : IsNum B' w u y) (hx : x.natAbs < TOP) (hy : y.natAbs < TOP) (hz : (x + y).natAbs < TOP) :
    Calls Try.prog 7 #[v, u] w fun e w' => ∃ r, e = .returned (.tuple #[r, .int .i64 0]) ∧ IsNum 0 w' r (x + y) ∧ Below w.heap.size w w' := by
  have := add_num hv hu hx hy
  rw [errOf_small _ hz, numOf_small _ hz] at this
  exact this.mono fun e w' ⟨r, h1, h2, h3⟩ => ⟨r, h1, h2.mono (Nat.zero_le _), h3⟩
theorem mul_ok {B B' : Nat} {w : World} {v u : Value} {x y : Int} (hv : IsNum B w v x) (hu : IsNum B' w u y) (hx : x.natAbs < TOP) (hy : y.natAbs < TOP) (hz : (x * y).natAbs < TOP) :
    Calls Try.prog 8 #[v, u] w fun e w' => ∃ r, e = .returned (.tuple #[r, .int .i64 0]) ∧ IsNum 0 w' r (x * y) ∧ Below w.heap.size w w' := by
  obtain ⟨na, ao, ca, A, rfl, a1, a2, a3, a4⟩ := hv.right hx
  obtain ⟨nb, bo, cb, C, rfl, b1, b2, b3, b4⟩ := hu.right hy
  have := mul_any na nb ao bo ca cb A C w a1 b1 (by omega) (by omega)
  rw [a2, b2, a3, b3, Bool.and_self, opErr_true, opNum_true, errOf_small _ hz, numOf_small _ hz] at this
  exact this.mono fun e w' ⟨r, h1, h2, h3⟩ => ⟨r, h1, h2.mono (Nat.zero_le _), h3⟩
theorem same_yes {B B' : Nat} {w : World} {v u : Value} {x y : Int} (hv : IsNum B w v x) (hu : IsNum B' w u y) (h : x = y) :
    Calls Try.prog 9 #[v, u] w fun e w' => e = .returned (.bool true) ∧ Below w.heap.size w w' := by
  have := same_num hv hu
  rwa [decide_eq_true h] at this

/-- Numbers of 40 limbs, their sums and products are not too great. -/
def N40 : Nat := 40
def M40 : Nat := 4294967296 ^ N40
theorem TOP_M40 : 4 * (M40 * M40) ≤ TOP ∧ 1 ≤ M40 ∧ M40 ≤ M40 * M40 := by
  have h1 : (4294967296 : Nat) ^ (N40 + N40 + 1) ≤ TOP := Nat.pow_le_pow_right (by decide) (by unfold N40 TOPN; decide)
  rw [Nat.pow_succ, Nat.pow_add] at h1
  change M40 * M40 * 4294967296 ≤ TOP at h1
  have h2 : 0 < M40 := by unfold M40; exact Nat.pow_pos (by decide)
  have h3 := Nat.mul_le_mul_left M40 h2
  generalize M40 = m at *
  generalize TOP = tp at *
  refine ⟨?_, h2, by omega⟩
  omega
theorem sval_M40 (neg : Bool) (L : List Nat) (h : Fits L) (hl : L.length ≤ 40) : (sval neg L).natAbs < M40 := by
  rw [natAbs_sval]
  exact Nat.lt_of_lt_of_le (val_lt L h) (Nat.pow_le_pow_right (by decide) (show L.length ≤ N40 from hl))
theorem natAbs_mul_lt (x y : Int) (a b : Nat) (hx : x.natAbs < a) (hy : y.natAbs < b) : (x * y).natAbs < a * b := by
  rw [Int.natAbs_mul]
  exact Nat.mul_lt_mul'' hx hy
theorem laws_bounds (x1 x2 x3 : Int) (h1 : x1.natAbs < M40) (h2 : x2.natAbs < M40) (h3 : x3.natAbs < M40) :
    (x1.natAbs < TOP ∧ x2.natAbs < TOP ∧ x3.natAbs < TOP) ∧ ((x1 + x2).natAbs < TOP ∧ (x2 + x1).natAbs < TOP ∧ (x2 + x3).natAbs < TOP) ∧ ((x1 + x2 + x3).natAbs < TOP ∧ (x1 + (x2 + x3)).natAbs < TOP) ∧ (((x1 + x2) * x3).natAbs < TOP ∧ (x1 * x3).natAbs < TOP ∧ (x2 * x3).natAbs < TOP ∧ (x3 * x1).natAbs < TOP ∧ (x1 * x3 + x2 * x3).natAbs < TOP) := by
  obtain ⟨t1, t2, t3⟩ := TOP_M40
  have m1 := natAbs_mul_lt x1 x3 M40 M40 h1 h3
  have m2 := natAbs_mul_lt x2 x3 M40 M40 h2 h3
  have m3 := natAbs_mul_lt x3 x1 M40 M40 h3 h1
  have m4 := natAbs_mul_lt (x1 + x2) x3 (2 * M40) M40 (by omega) h3
  rw [Nat.mul_assoc] at m4
  generalize x1 * x3 = p at *
  generalize x2 * x3 = q at *
  generalize x3 * x1 = r at *
  generalize (x1 + x2) * x3 = s at *
  generalize M40 * M40 = MM at *
  refine ⟨⟨by omega, by omega, by omega⟩, ⟨by omega, by omega, by omega⟩, ⟨by omega, by omega⟩, ⟨by omega, by omega, by omega, by omega, by omega⟩⟩

set_option maxHeartbeats 4000000 in
set_option maxRecDepth 10000 in
theorem laws_walk (na nb nc : Bool) (ao bo co : Option Addr) (ca cb cc : Nat) (A B C : List Nat) (w : World) (hA : LimbsAt w ao ca A) (hB : LimbsAt w bo cb B) (hC : LimbsAt w co cc C) (la : A.length ≤ 35184372087808) (lb : B.length ≤ 35184372087808) (lc : C.length ≤ 35184372087808) :
    Calls Try.prog 3 #[.agg #[.bool na, .slice ao A.length ca], .agg #[.bool nb, .slice bo B.length cb], .agg #[.bool nc, .slice co C.length cc]] w fun e w' => e = .returned (.bool true) ∧ Below w.heap.size w w' := by
  have F1 := hide (fun w' h1 h2 => form_any na nb ao bo ca cb A B w' h1 h2 (by omega) (by omega))
  have F2 := hide (fun w' h1 h2 => form_any nc nc co co cc cc C C w' h1 h2 (by omega) (by omega))
  have K1 := hide (show chk2 na A nb B = 1 ∨ (chk2 na A nb B = 0 ∧ rightB na A = true ∧ rightB nb B = true) by unfold chk2; cases rightB na A <;> cases rightB nb B <;> simp)
  have K2 := hide (show chk2 nc C nc C = 1 ∨ (chk2 nc C nc C = 0 ∧ rightB nc C = true) by unfold chk2; cases rightB nc C <;> simp)
  generalize chk2 na A nb B = f1 at *
  generalize chk2 nc C nc C = f2 at *
  go_enter Try.func3, Try.ntmps3
  go_wp2_with fail
  have hb0 : Below w.heap.size w (((w.alloc (.cells #[.bool na, .slice ao A.length ca] 24)).alloc (.cells #[.bool nb, .slice bo B.length cb] 24)).alloc (.cells #[.bool nc, .slice co C.length cc] 24)) := (((Below.refl _ _).alloc (Nat.le_refl _) _).alloc (by simp) _).alloc (by simp; omega) _
  refine (unhide F1 _ (hA.below hb0) (hB.below hb0)).mono ?_
  rintro e w1 ⟨rfl, hb1⟩
  have xa : Box2 w1 w.heap.size (.bool na) (.slice ao A.length ca) := (((Box2.new _ _ _).old _).old _).below hb1 (by simp; omega)
  have xb : Box2 w1 (w.heap.size + 1) (.bool nb) (.slice bo B.length cb) := by
    have := (Box2.new (w.alloc (.cells #[.bool na, .slice ao A.length ca] 24)) (.bool nb) (.slice bo B.length cb)).old (.cells #[.bool nc, .slice co C.length cc] 24)
    exact Box2.below (by simpa using this) hb1 (by simp)
  have xc : Box2 w1 (w.heap.size + 2) (.bool nc) (.slice co C.length cc) := by
    have := Box2.new ((w.alloc (.cells #[.bool na, .slice ao A.length ca] 24)).alloc (.cells #[.bool nb, .slice bo B.length cb] 24)) (.bool nc) (.slice co C.length cc)
    exact Box2.below (by simpa using this) hb1 (by simp)
  have b1 : Below w.heap.size w w1 := hb0.trans (hb1.mono (by simp; omega))
  clear hb0 hb1 F1
  rcases unhide K1 with k1 | ⟨k1, r1, r2⟩
  · subst k1
    clear K1 K2 F2 xa xb xc
    go_wp2_with (go_at_call 6; refine (awake_any _).mono ?_; rintro e w2 ⟨rfl, hb5⟩)
    go_ret
    exact ⟨rfl, b1.trans (hb5.mono b1.size)⟩
  subst k1
  have pc0 := xc.c0; have pc1 := xc.c1
  have XA := hide xa; have XB := hide xb; have XC := hide xc; have B1 := hide b1; have R1 := hide r1; have R2 := hide r2
  clear K1 xa xb xc b1 r1 r2
  go_wp2_with fail
  have b1 := unhide B1
  refine (unhide F2 _ (hC.below b1) (hC.below b1)).mono ?_
  rintro e w2 ⟨rfl, hb1⟩
  have xa := (unhide XA).below hb1 (unhide XA).lt
  have xb := (unhide XB).below hb1 (unhide XB).lt
  have xc := (unhide XC).below hb1 (unhide XC).lt
  have b2 := b1.trans (hb1.mono b1.size)
  clear XA XB XC B1 b1 hb1 F2 pc0 pc1
  rcases unhide K2 with k2 | ⟨k2, r3⟩
  · subst k2
    clear K2 xa xb xc
    go_wp2_with (go_at_call 6; refine (awake_any _).mono ?_; rintro e w3 ⟨rfl, hb5⟩)
    go_ret
    exact ⟨rfl, b2.trans (hb5.mono b2.size)⟩
  subst k2
  have pa0 := xa.c0; have pa1 := xa.c1; have pb0 := xb.c0; have pb1 := xb.c1; have pc1 := xc.c1
  have R3 := hide r3
  clear K2 r3
  by_cases lenA : A.length ≤ 40
  case neg =>
    have lenI : (40 : Int) < (A.length : Int) := by omega
    clear xa xb xc
    go_wp2_with (go_at_call 6; refine (awake_any _).mono ?_; rintro e w3 ⟨rfl, hb5⟩)
    go_ret
    exact ⟨rfl, b2.trans (hb5.mono b2.size)⟩
  have lenAI : ¬ (40 : Int) < (A.length : Int) := by omega
  by_cases lenB : B.length ≤ 40
  case neg =>
    have lenI : (40 : Int) < (B.length : Int) := by omega
    clear xa xb xc
    go_wp2_with (go_at_call 6; refine (awake_any _).mono ?_; rintro e w3 ⟨rfl, hb5⟩)
    go_ret
    exact ⟨rfl, b2.trans (hb5.mono b2.size)⟩
  have lenBI : ¬ (40 : Int) < (B.length : Int) := by omega
  by_cases lenC : C.length ≤ 40
  case neg =>
    have lenI : (40 : Int) < (C.length : Int) := by omega
    clear xa xb xc
    go_wp2_with (go_at_call 6; refine (awake_any _).mono ?_; rintro e w3 ⟨rfl, hb5⟩)
    go_ret
    exact ⟨rfl, b2.trans (hb5.mono b2.size)⟩
  have lenCI : ¬ (40 : Int) < (C.length : Int) := by omega
  have ia : IsNum 0 w2 (.agg #[.bool na, .slice ao A.length ca]) (sval na A) := right_num (hA.below b2) (unhide R1) (NewAt.zero hA)
  have ib : IsNum 0 w2 (.agg #[.bool nb, .slice bo B.length cb]) (sval nb B) := right_num (hB.below b2) (unhide R2) (NewAt.zero hB)
  have ic : IsNum 0 w2 (.agg #[.bool nc, .slice co C.length cc]) (sval nc C) := right_num (hC.below b2) (unhide R3) (NewAt.zero hC)
  obtain ⟨⟨t1, t2, t3⟩, ⟨t4, t5, t6⟩, ⟨t7, t8⟩, ⟨t9, t10, t11, t12, t13⟩⟩ := laws_bounds (sval na A) (sval nb B) (sval nc C) (sval_M40 na A hA.2.1 lenA) (sval_M40 nb B hB.2.1 lenB) (sval_M40 nc C hC.2.1 lenC)
  generalize sval na A = x1 at *
  generalize sval nb B = x2 at *
  generalize sval nc C = x3 at *
  have TA := hide (And.intro t1 (And.intro t2 t3)); have TB := hide (And.intro t4 (And.intro t5 t6)); have TC := hide (And.intro t7 t8); have TD := hide (And.intro t9 (And.intro t10 (And.intro t11 (And.intro t12 t13))))
  have XA := hide xa; have XB := hide xb; have XC := hide xc; have B2 := hide b2; have IA := hide ia; have IB := hide ib; have IC := hide ic
  clear xa xb xc b2 ia ib ic t1 t2 t3 t4 t5 t6 t7 t8 t9 t10 t11 t12 t13 hA hB hC R1 R2 R3
  have hs0 : w.heap.size + 2 < w2.heap.size := (unhide XC).lt
  have hs1 : w.heap.size + 1 < w2.heap.size := by omega
  have hs2 : w.heap.size < w2.heap.size := by omega
  go_wp2_with fail
  -- x := Add(a, b)
  refine (add_ok (unhide IA) (unhide IB) (unhide TA).1 (unhide TA).2.1 (unhide TB).1).mono ?_
  rintro e w3 ⟨v, rfl, ⟨nnx, adx, cpx, LLx, rfl, i3⟩, hb1⟩
  have hb2 : Below w2.heap.size w2 w3 := hb1
  have xa' := (unhide XA).below hb2 (unhide XA).lt
  have ia' := (unhide IA).below hb2
  have xb' := (unhide XB).below hb2 (unhide XB).lt
  have ib' := (unhide IB).below hb2
  have xc' := (unhide XC).below hb2 (unhide XC).lt
  have ic' := (unhide IC).below hb2
  have ix' : IsNum 0 w3 (.agg #[.bool nnx, .slice adx LLx.length cpx]) (x1 + x2) := ⟨nnx, adx, cpx, LLx, rfl, i3⟩
  have b3 := (unhide B2).trans (hb2.mono (unhide B2).size)
  clear pa0 pa1 pb0 pb1 pc1 hb1 hb2 B2 i3 XA XB XC IA IB IC
  have pb0 := xb'.c0; have pb1 := xb'.c1; have hzb3 := xb'.lt
  have pa0 := xa'.c0; have pa1 := xa'.c1; have hza3 := xa'.lt
  have XA := hide xa'; have IA := hide ia'
  have XB := hide xb'; have IB := hide ib'
  have XC := hide xc'; have IC := hide ic'
  have IX := hide ix'; have B3 := hide b3
  clear xa' ia' xb' ib' xc' ic' ix' b3
  go_wp2_with fail
  -- y := Add(b, a)
  have hbx : Below w3.heap.size w3 (w3.alloc (.cells #[.bool nnx, .slice adx LLx.length cpx] 24)) := (Below.refl _ _).alloc (Nat.le_refl _) _
  refine (add_ok ((unhide IB).below hbx) ((unhide IA).below hbx) (unhide TA).2.1 (unhide TA).1 (unhide TB).2.1).mono ?_
  rintro e w4 ⟨v, rfl, ⟨nny, ady, cpy, LLy, rfl, i4⟩, hb1⟩
  have hb2 : Below w3.heap.size w3 w4 := hbx.trans (hb1.mono (by simp))
  have xa' := (unhide XA).below hb2 (unhide XA).lt
  have ia' := (unhide IA).below hb2
  have xb' := (unhide XB).below hb2 (unhide XB).lt
  have ib' := (unhide IB).below hb2
  have xc' := (unhide XC).below hb2 (unhide XC).lt
  have ic' := (unhide IC).below hb2
  have xx' : Box2 w4 w3.heap.size (.bool nnx) (.slice adx LLx.length cpx) := (Box2.new _ _ _).below hb1 (by simp)
  have ix' := (unhide IX).below hb2
  have iy' : IsNum 0 w4 (.agg #[.bool nny, .slice ady LLy.length cpy]) (x2 + x1) := ⟨nny, ady, cpy, LLy, rfl, i4⟩
  have b4 := (unhide B3).trans (hb2.mono (unhide B3).size)
  clear pb0 pb1 pa0 pa1 hb1 hb2 B3 i4 XA XB XC IA IB IC IX hbx
  have px0 := xx'.c0; have px1 := xx'.c1; have hzx4 := xx'.lt
  have pc0 := xc'.c0; have pc1 := xc'.c1; have hzc4 := xc'.lt
  have XA := hide xa'; have IA := hide ia'
  have XB := hide xb'; have IB := hide ib'
  have XC := hide xc'; have IC := hide ic'
  have XX := hide xx'; have IX := hide ix'
  have IY := hide iy'; have B4 := hide b4
  clear xa' ia' xb' ib' xc' ic' xx' ix' iy' b4
  go_wp2_with fail
  -- p := Add(x, c)
  have hbx : Below w4.heap.size w4 (w4.alloc (.cells #[.bool nny, .slice ady LLy.length cpy] 24)) := (Below.refl _ _).alloc (Nat.le_refl _) _
  refine (add_ok ((unhide IX).below hbx) ((unhide IC).below hbx) (unhide TB).1 (unhide TA).2.2 (unhide TC).1).mono ?_
  rintro e w5 ⟨v, rfl, ⟨nnp, adp, cpp, LLp, rfl, i5⟩, hb1⟩
  have hb2 : Below w4.heap.size w4 w5 := hbx.trans (hb1.mono (by simp))
  have xa' := (unhide XA).below hb2 (unhide XA).lt
  have ia' := (unhide IA).below hb2
  have xb' := (unhide XB).below hb2 (unhide XB).lt
  have ib' := (unhide IB).below hb2
  have xc' := (unhide XC).below hb2 (unhide XC).lt
  have ic' := (unhide IC).below hb2
  have xx' := (unhide XX).below hb2 (unhide XX).lt
  have ix' := (unhide IX).below hb2
  have xy' : Box2 w5 w4.heap.size (.bool nny) (.slice ady LLy.length cpy) := (Box2.new _ _ _).below hb1 (by simp)
  have iy' := (unhide IY).below hb2
  have ip' : IsNum 0 w5 (.agg #[.bool nnp, .slice adp LLp.length cpp]) (x1 + x2 + x3) := ⟨nnp, adp, cpp, LLp, rfl, i5⟩
  have b5 := (unhide B4).trans (hb2.mono (unhide B4).size)
  clear px0 px1 pc0 pc1 hb1 hb2 B4 i5 XA XB XC XX IA IB IC IX IY hbx
  have pb0 := xb'.c0; have pb1 := xb'.c1; have hzb5 := xb'.lt
  have pc0 := xc'.c0; have pc1 := xc'.c1; have hzc5 := xc'.lt
  have XA := hide xa'; have IA := hide ia'
  have XB := hide xb'; have IB := hide ib'
  have XC := hide xc'; have IC := hide ic'
  have XX := hide xx'; have IX := hide ix'
  have XY := hide xy'; have IY := hide iy'
  have IP := hide ip'; have B5 := hide b5
  clear xa' ia' xb' ib' xc' ic' xx' ix' xy' iy' ip' b5
  go_wp2_with fail
  -- q := Add(b, c)
  have hbx : Below w5.heap.size w5 (w5.alloc (.cells #[.bool nnp, .slice adp LLp.length cpp] 24)) := (Below.refl _ _).alloc (Nat.le_refl _) _
  refine (add_ok ((unhide IB).below hbx) ((unhide IC).below hbx) (unhide TA).2.1 (unhide TA).2.2 (unhide TB).2.2).mono ?_
  rintro e w6 ⟨v, rfl, ⟨nnq, adq, cpq, LLq, rfl, i6⟩, hb1⟩
  have hb2 : Below w5.heap.size w5 w6 := hbx.trans (hb1.mono (by simp))
  have xa' := (unhide XA).below hb2 (unhide XA).lt
  have ia' := (unhide IA).below hb2
  have xb' := (unhide XB).below hb2 (unhide XB).lt
  have ib' := (unhide IB).below hb2
  have xc' := (unhide XC).below hb2 (unhide XC).lt
  have ic' := (unhide IC).below hb2
  have xx' := (unhide XX).below hb2 (unhide XX).lt
  have ix' := (unhide IX).below hb2
  have xy' := (unhide XY).below hb2 (unhide XY).lt
  have iy' := (unhide IY).below hb2
  have xp' : Box2 w6 w5.heap.size (.bool nnp) (.slice adp LLp.length cpp) := (Box2.new _ _ _).below hb1 (by simp)
  have ip' := (unhide IP).below hb2
  have iq' : IsNum 0 w6 (.agg #[.bool nnq, .slice adq LLq.length cpq]) (x2 + x3) := ⟨nnq, adq, cpq, LLq, rfl, i6⟩
  have b6 := (unhide B5).trans (hb2.mono (unhide B5).size)
  clear pb0 pb1 pc0 pc1 hb1 hb2 B5 i6 XA XB XC XX XY IA IB IC IX IY IP hbx
  have pa0 := xa'.c0; have pa1 := xa'.c1; have hza6 := xa'.lt
  have XA := hide xa'; have IA := hide ia'
  have XB := hide xb'; have IB := hide ib'
  have XC := hide xc'; have IC := hide ic'
  have XX := hide xx'; have IX := hide ix'
  have XY := hide xy'; have IY := hide iy'
  have XP := hide xp'; have IP := hide ip'
  have IQ := hide iq'; have B6 := hide b6
  clear xa' ia' xb' ib' xc' ic' xx' ix' xy' iy' xp' ip' iq' b6
  go_wp2_with fail
  -- r := Add(a, q)
  have hbx : Below w6.heap.size w6 (w6.alloc (.cells #[.bool nnq, .slice adq LLq.length cpq] 24)) := (Below.refl _ _).alloc (Nat.le_refl _) _
  refine (add_ok ((unhide IA).below hbx) ((unhide IQ).below hbx) (unhide TA).1 (unhide TB).2.2 (unhide TC).2).mono ?_
  rintro e w7 ⟨v, rfl, ⟨nnr, adr, cpr, LLr, rfl, i7⟩, hb1⟩
  have hb2 : Below w6.heap.size w6 w7 := hbx.trans (hb1.mono (by simp))
  have xa' := (unhide XA).below hb2 (unhide XA).lt
  have ia' := (unhide IA).below hb2
  have xb' := (unhide XB).below hb2 (unhide XB).lt
  have ib' := (unhide IB).below hb2
  have xc' := (unhide XC).below hb2 (unhide XC).lt
  have ic' := (unhide IC).below hb2
  have xx' := (unhide XX).below hb2 (unhide XX).lt
  have ix' := (unhide IX).below hb2
  have xy' := (unhide XY).below hb2 (unhide XY).lt
  have iy' := (unhide IY).below hb2
  have xp' := (unhide XP).below hb2 (unhide XP).lt
  have ip' := (unhide IP).below hb2
  have xq' : Box2 w7 w6.heap.size (.bool nnq) (.slice adq LLq.length cpq) := (Box2.new _ _ _).below hb1 (by simp)
  have iq' := (unhide IQ).below hb2
  have ir' : IsNum 0 w7 (.agg #[.bool nnr, .slice adr LLr.length cpr]) (x1 + (x2 + x3)) := ⟨nnr, adr, cpr, LLr, rfl, i7⟩
  have b7 := (unhide B6).trans (hb2.mono (unhide B6).size)
  clear pa0 pa1 hb1 hb2 B6 i7 XA XB XC XX XY XP IA IB IC IX IY IP IQ hbx
  have px0 := xx'.c0; have px1 := xx'.c1; have hzx7 := xx'.lt
  have pc0 := xc'.c0; have pc1 := xc'.c1; have hzc7 := xc'.lt
  have XA := hide xa'; have IA := hide ia'
  have XB := hide xb'; have IB := hide ib'
  have XC := hide xc'; have IC := hide ic'
  have XX := hide xx'; have IX := hide ix'
  have XY := hide xy'; have IY := hide iy'
  have XP := hide xp'; have IP := hide ip'
  have XQ := hide xq'; have IQ := hide iq'
  have IR := hide ir'; have B7 := hide b7
  clear xa' ia' xb' ib' xc' ic' xx' ix' xy' iy' xp' ip' xq' iq' ir' b7
  go_wp2_with fail
  -- m := Mul(x, c)
  have hbx : Below w7.heap.size w7 (w7.alloc (.cells #[.bool nnr, .slice adr LLr.length cpr] 24)) := (Below.refl _ _).alloc (Nat.le_refl _) _
  refine (mul_ok ((unhide IX).below hbx) ((unhide IC).below hbx) (unhide TB).1 (unhide TA).2.2 (unhide TD).1).mono ?_
  rintro e w8 ⟨v, rfl, ⟨nnm, adm, cpm, LLm, rfl, i8⟩, hb1⟩
  have hb2 : Below w7.heap.size w7 w8 := hbx.trans (hb1.mono (by simp))
  have xa' := (unhide XA).below hb2 (unhide XA).lt
  have ia' := (unhide IA).below hb2
  have xb' := (unhide XB).below hb2 (unhide XB).lt
  have ib' := (unhide IB).below hb2
  have xc' := (unhide XC).below hb2 (unhide XC).lt
  have ic' := (unhide IC).below hb2
  have xx' := (unhide XX).below hb2 (unhide XX).lt
  have ix' := (unhide IX).below hb2
  have xy' := (unhide XY).below hb2 (unhide XY).lt
  have iy' := (unhide IY).below hb2
  have xp' := (unhide XP).below hb2 (unhide XP).lt
  have ip' := (unhide IP).below hb2
  have xq' := (unhide XQ).below hb2 (unhide XQ).lt
  have iq' := (unhide IQ).below hb2
  have xr' : Box2 w8 w7.heap.size (.bool nnr) (.slice adr LLr.length cpr) := (Box2.new _ _ _).below hb1 (by simp)
  have ir' := (unhide IR).below hb2
  have im' : IsNum 0 w8 (.agg #[.bool nnm, .slice adm LLm.length cpm]) ((x1 + x2) * x3) := ⟨nnm, adm, cpm, LLm, rfl, i8⟩
  have b8 := (unhide B7).trans (hb2.mono (unhide B7).size)
  clear px0 px1 pc0 pc1 hb1 hb2 B7 i8 XA XB XC XX XY XP XQ IA IB IC IX IY IP IQ IR hbx
  have pa0 := xa'.c0; have pa1 := xa'.c1; have hza8 := xa'.lt
  have pc0 := xc'.c0; have pc1 := xc'.c1; have hzc8 := xc'.lt
  have XA := hide xa'; have IA := hide ia'
  have XB := hide xb'; have IB := hide ib'
  have XC := hide xc'; have IC := hide ic'
  have XX := hide xx'; have IX := hide ix'
  have XY := hide xy'; have IY := hide iy'
  have XP := hide xp'; have IP := hide ip'
  have XQ := hide xq'; have IQ := hide iq'
  have XR := hide xr'; have IR := hide ir'
  have IM := hide im'; have B8 := hide b8
  clear xa' ia' xb' ib' xc' ic' xx' ix' xy' iy' xp' ip' xq' iq' xr' ir' im' b8
  go_wp2_with fail
  -- n := Mul(a, c)
  have hbx : Below w8.heap.size w8 (w8.alloc (.cells #[.bool nnm, .slice adm LLm.length cpm] 24)) := (Below.refl _ _).alloc (Nat.le_refl _) _
  refine (mul_ok ((unhide IA).below hbx) ((unhide IC).below hbx) (unhide TA).1 (unhide TA).2.2 (unhide TD).2.1).mono ?_
  rintro e w9 ⟨v, rfl, ⟨nnn, adn, cpn, LLn, rfl, i9⟩, hb1⟩
  have hb2 : Below w8.heap.size w8 w9 := hbx.trans (hb1.mono (by simp))
  have xa' := (unhide XA).below hb2 (unhide XA).lt
  have ia' := (unhide IA).below hb2
  have xb' := (unhide XB).below hb2 (unhide XB).lt
  have ib' := (unhide IB).below hb2
  have xc' := (unhide XC).below hb2 (unhide XC).lt
  have ic' := (unhide IC).below hb2
  have xx' := (unhide XX).below hb2 (unhide XX).lt
  have ix' := (unhide IX).below hb2
  have xy' := (unhide XY).below hb2 (unhide XY).lt
  have iy' := (unhide IY).below hb2
  have xp' := (unhide XP).below hb2 (unhide XP).lt
  have ip' := (unhide IP).below hb2
  have xq' := (unhide XQ).below hb2 (unhide XQ).lt
  have iq' := (unhide IQ).below hb2
  have xr' := (unhide XR).below hb2 (unhide XR).lt
  have ir' := (unhide IR).below hb2
  have xm' : Box2 w9 w8.heap.size (.bool nnm) (.slice adm LLm.length cpm) := (Box2.new _ _ _).below hb1 (by simp)
  have im' := (unhide IM).below hb2
  have in' : IsNum 0 w9 (.agg #[.bool nnn, .slice adn LLn.length cpn]) (x1 * x3) := ⟨nnn, adn, cpn, LLn, rfl, i9⟩
  have b9 := (unhide B8).trans (hb2.mono (unhide B8).size)
  clear pa0 pa1 pc0 pc1 hb1 hb2 B8 i9 XA XB XC XX XY XP XQ XR IA IB IC IX IY IP IQ IR IM hbx
  have pb0 := xb'.c0; have pb1 := xb'.c1; have hzb9 := xb'.lt
  have pc0 := xc'.c0; have pc1 := xc'.c1; have hzc9 := xc'.lt
  have XA := hide xa'; have IA := hide ia'
  have XB := hide xb'; have IB := hide ib'
  have XC := hide xc'; have IC := hide ic'
  have XX := hide xx'; have IX := hide ix'
  have XY := hide xy'; have IY := hide iy'
  have XP := hide xp'; have IP := hide ip'
  have XQ := hide xq'; have IQ := hide iq'
  have XR := hide xr'; have IR := hide ir'
  have XM := hide xm'; have IM := hide im'
  have IN := hide in'; have B9 := hide b9
  clear xa' ia' xb' ib' xc' ic' xx' ix' xy' iy' xp' ip' xq' iq' xr' ir' xm' im' in' b9
  go_wp2_with fail
  -- o := Mul(b, c)
  have hbx : Below w9.heap.size w9 (w9.alloc (.cells #[.bool nnn, .slice adn LLn.length cpn] 24)) := (Below.refl _ _).alloc (Nat.le_refl _) _
  refine (mul_ok ((unhide IB).below hbx) ((unhide IC).below hbx) (unhide TA).2.1 (unhide TA).2.2 (unhide TD).2.2.1).mono ?_
  rintro e w10 ⟨v, rfl, ⟨nno, ado, cpo, LLo, rfl, i10⟩, hb1⟩
  have hb2 : Below w9.heap.size w9 w10 := hbx.trans (hb1.mono (by simp))
  have xa' := (unhide XA).below hb2 (unhide XA).lt
  have ia' := (unhide IA).below hb2
  have xb' := (unhide XB).below hb2 (unhide XB).lt
  have ib' := (unhide IB).below hb2
  have xc' := (unhide XC).below hb2 (unhide XC).lt
  have ic' := (unhide IC).below hb2
  have xx' := (unhide XX).below hb2 (unhide XX).lt
  have ix' := (unhide IX).below hb2
  have xy' := (unhide XY).below hb2 (unhide XY).lt
  have iy' := (unhide IY).below hb2
  have xp' := (unhide XP).below hb2 (unhide XP).lt
  have ip' := (unhide IP).below hb2
  have xq' := (unhide XQ).below hb2 (unhide XQ).lt
  have iq' := (unhide IQ).below hb2
  have xr' := (unhide XR).below hb2 (unhide XR).lt
  have ir' := (unhide IR).below hb2
  have xm' := (unhide XM).below hb2 (unhide XM).lt
  have im' := (unhide IM).below hb2
  have xn' : Box2 w10 w9.heap.size (.bool nnn) (.slice adn LLn.length cpn) := (Box2.new _ _ _).below hb1 (by simp)
  have in' := (unhide IN).below hb2
  have io' : IsNum 0 w10 (.agg #[.bool nno, .slice ado LLo.length cpo]) (x2 * x3) := ⟨nno, ado, cpo, LLo, rfl, i10⟩
  have b10 := (unhide B9).trans (hb2.mono (unhide B9).size)
  clear pb0 pb1 pc0 pc1 hb1 hb2 B9 i10 XA XB XC XX XY XP XQ XR XM IA IB IC IX IY IP IQ IR IM IN hbx
  have pn0 := xn'.c0; have pn1 := xn'.c1; have hzn10 := xn'.lt
  have XA := hide xa'; have IA := hide ia'
  have XB := hide xb'; have IB := hide ib'
  have XC := hide xc'; have IC := hide ic'
  have XX := hide xx'; have IX := hide ix'
  have XY := hide xy'; have IY := hide iy'
  have XP := hide xp'; have IP := hide ip'
  have XQ := hide xq'; have IQ := hide iq'
  have XR := hide xr'; have IR := hide ir'
  have XM := hide xm'; have IM := hide im'
  have XN := hide xn'; have IN := hide in'
  have IO := hide io'; have B10 := hide b10
  clear xa' ia' xb' ib' xc' ic' xx' ix' xy' iy' xp' ip' xq' iq' xr' ir' xm' im' xn' in' io' b10
  go_wp2_with fail
  -- s := Add(n, o)
  have hbx : Below w10.heap.size w10 (w10.alloc (.cells #[.bool nno, .slice ado LLo.length cpo] 24)) := (Below.refl _ _).alloc (Nat.le_refl _) _
  refine (add_ok ((unhide IN).below hbx) ((unhide IO).below hbx) (unhide TD).2.1 (unhide TD).2.2.1 (unhide TD).2.2.2.2).mono ?_
  rintro e w11 ⟨v, rfl, ⟨nns, ads, cps, LLs, rfl, i11⟩, hb1⟩
  have hb2 : Below w10.heap.size w10 w11 := hbx.trans (hb1.mono (by simp))
  have xa' := (unhide XA).below hb2 (unhide XA).lt
  have ia' := (unhide IA).below hb2
  have xb' := (unhide XB).below hb2 (unhide XB).lt
  have ib' := (unhide IB).below hb2
  have xc' := (unhide XC).below hb2 (unhide XC).lt
  have ic' := (unhide IC).below hb2
  have xx' := (unhide XX).below hb2 (unhide XX).lt
  have ix' := (unhide IX).below hb2
  have xy' := (unhide XY).below hb2 (unhide XY).lt
  have iy' := (unhide IY).below hb2
  have xp' := (unhide XP).below hb2 (unhide XP).lt
  have ip' := (unhide IP).below hb2
  have xq' := (unhide XQ).below hb2 (unhide XQ).lt
  have iq' := (unhide IQ).below hb2
  have xr' := (unhide XR).below hb2 (unhide XR).lt
  have ir' := (unhide IR).below hb2
  have xm' := (unhide XM).below hb2 (unhide XM).lt
  have im' := (unhide IM).below hb2
  have xn' := (unhide XN).below hb2 (unhide XN).lt
  have in' := (unhide IN).below hb2
  have xo' : Box2 w11 w10.heap.size (.bool nno) (.slice ado LLo.length cpo) := (Box2.new _ _ _).below hb1 (by simp)
  have io' := (unhide IO).below hb2
  have is' : IsNum 0 w11 (.agg #[.bool nns, .slice ads LLs.length cps]) (x1 * x3 + x2 * x3) := ⟨nns, ads, cps, LLs, rfl, i11⟩
  have b11 := (unhide B10).trans (hb2.mono (unhide B10).size)
  clear pn0 pn1 hb1 hb2 B10 i11 XA XB XC XX XY XP XQ XR XM XN IA IB IC IX IY IP IQ IR IM IN IO hbx
  have pc0 := xc'.c0; have pc1 := xc'.c1; have hzc11 := xc'.lt
  have pa0 := xa'.c0; have pa1 := xa'.c1; have hza11 := xa'.lt
  have XA := hide xa'; have IA := hide ia'
  have XB := hide xb'; have IB := hide ib'
  have XC := hide xc'; have IC := hide ic'
  have XX := hide xx'; have IX := hide ix'
  have XY := hide xy'; have IY := hide iy'
  have XP := hide xp'; have IP := hide ip'
  have XQ := hide xq'; have IQ := hide iq'
  have XR := hide xr'; have IR := hide ir'
  have XM := hide xm'; have IM := hide im'
  have XN := hide xn'; have IN := hide in'
  have XO := hide xo'; have IO := hide io'
  have IS := hide is'; have B11 := hide b11
  clear xa' ia' xb' ib' xc' ic' xx' ix' xy' iy' xp' ip' xq' iq' xr' ir' xm' im' xn' in' xo' io' is' b11
  go_wp2_with fail
  -- t := Mul(c, a)
  have hbx : Below w11.heap.size w11 (w11.alloc (.cells #[.bool nns, .slice ads LLs.length cps] 24)) := (Below.refl _ _).alloc (Nat.le_refl _) _
  refine (mul_ok ((unhide IC).below hbx) ((unhide IA).below hbx) (unhide TA).2.2 (unhide TA).1 (unhide TD).2.2.2.1).mono ?_
  rintro e w12 ⟨v, rfl, ⟨nnt, adt, cpt, LLt, rfl, i12⟩, hb1⟩
  have hb2 : Below w11.heap.size w11 w12 := hbx.trans (hb1.mono (by simp))
  have xa' := (unhide XA).below hb2 (unhide XA).lt
  have ia' := (unhide IA).below hb2
  have xb' := (unhide XB).below hb2 (unhide XB).lt
  have ib' := (unhide IB).below hb2
  have xc' := (unhide XC).below hb2 (unhide XC).lt
  have ic' := (unhide IC).below hb2
  have xx' := (unhide XX).below hb2 (unhide XX).lt
  have ix' := (unhide IX).below hb2
  have xy' := (unhide XY).below hb2 (unhide XY).lt
  have iy' := (unhide IY).below hb2
  have xp' := (unhide XP).below hb2 (unhide XP).lt
  have ip' := (unhide IP).below hb2
  have xq' := (unhide XQ).below hb2 (unhide XQ).lt
  have iq' := (unhide IQ).below hb2
  have xr' := (unhide XR).below hb2 (unhide XR).lt
  have ir' := (unhide IR).below hb2
  have xm' := (unhide XM).below hb2 (unhide XM).lt
  have im' := (unhide IM).below hb2
  have xn' := (unhide XN).below hb2 (unhide XN).lt
  have in' := (unhide IN).below hb2
  have xo' := (unhide XO).below hb2 (unhide XO).lt
  have io' := (unhide IO).below hb2
  have xs' : Box2 w12 w11.heap.size (.bool nns) (.slice ads LLs.length cps) := (Box2.new _ _ _).below hb1 (by simp)
  have is' := (unhide IS).below hb2
  have it' : IsNum 0 w12 (.agg #[.bool nnt, .slice adt LLt.length cpt]) (x3 * x1) := ⟨nnt, adt, cpt, LLt, rfl, i12⟩
  have b12 := (unhide B11).trans (hb2.mono (unhide B11).size)
  clear pc0 pc1 pa0 pa1 hb1 hb2 B11 i12 XA XB XC XX XY XP XQ XR XM XN XO IA IB IC IX IY IP IQ IR IM IN IO IS hbx
  have px0 := xx'.c0; have px1 := xx'.c1; have hzx12 := xx'.lt
  have py0 := xy'.c0; have py1 := xy'.c1; have hzy12 := xy'.lt
  have XA := hide xa'; have IA := hide ia'
  have XB := hide xb'; have IB := hide ib'
  have XC := hide xc'; have IC := hide ic'
  have XX := hide xx'; have IX := hide ix'
  have XY := hide xy'; have IY := hide iy'
  have XP := hide xp'; have IP := hide ip'
  have XQ := hide xq'; have IQ := hide iq'
  have XR := hide xr'; have IR := hide ir'
  have XM := hide xm'; have IM := hide im'
  have XN := hide xn'; have IN := hide in'
  have XO := hide xo'; have IO := hide io'
  have XS := hide xs'; have IS := hide is'
  have IT := hide it'; have B12 := hide b12
  clear xa' ia' xb' ib' xc' ic' xx' ix' xy' iy' xp' ip' xq' iq' xr' ir' xm' im' xn' in' xo' io' xs' is' it' b12
  go_wp2_with fail
  -- Same(x, y)
  have hbx : Below w12.heap.size w12 (w12.alloc (.cells #[.bool nnt, .slice adt LLt.length cpt] 24)) := (Below.refl _ _).alloc (Nat.le_refl _) _
  refine (same_yes ((unhide IX).below hbx) ((unhide IY).below hbx) (by omega)).mono ?_
  rintro e w13 ⟨rfl, hb1⟩
  have hb2 : Below w12.heap.size w12 w13 := hbx.trans (hb1.mono (by simp))
  have xp' := (unhide XP).below hb2 (unhide XP).lt
  have ip' := (unhide IP).below hb2
  have xr' := (unhide XR).below hb2 (unhide XR).lt
  have ir' := (unhide IR).below hb2
  have xm' := (unhide XM).below hb2 (unhide XM).lt
  have im' := (unhide IM).below hb2
  have xs' := (unhide XS).below hb2 (unhide XS).lt
  have is' := (unhide IS).below hb2
  have xn' := (unhide XN).below hb2 (unhide XN).lt
  have in' := (unhide IN).below hb2
  have xt' : Box2 w13 w12.heap.size (.bool nnt) (.slice adt LLt.length cpt) := (Box2.new _ _ _).below hb1 (by simp)
  have it' := (unhide IT).below hb2
  have b13 := (unhide B12).trans (hb2.mono (unhide B12).size)
  clear px0 px1 py0 py1 hb1 hb2 B12 XA XB XC XX XY XP XQ XR XM XN XO XS IA IB IC IX IY IP IQ IR IM IN IO IS IT hbx
  have pp0 := xp'.c0; have pp1 := xp'.c1; have hzp13 := xp'.lt
  have pr0 := xr'.c0; have pr1 := xr'.c1; have hzr13 := xr'.lt
  have XP := hide xp'; have IP := hide ip'
  have XR := hide xr'; have IR := hide ir'
  have XM := hide xm'; have IM := hide im'
  have XS := hide xs'; have IS := hide is'
  have XN := hide xn'; have IN := hide in'
  have XT := hide xt'; have IT := hide it'
  have B13 := hide b13
  clear xp' ip' xr' ir' xm' im' xs' is' xn' in' xt' it' b13
  go_wp2_with fail
  -- Same(p, r)
  refine (same_yes (unhide IP) (unhide IR) (by omega)).mono ?_
  rintro e w14 ⟨rfl, hb1⟩
  have hb2 : Below w13.heap.size w13 w14 := hb1
  have xm' := (unhide XM).below hb2 (unhide XM).lt
  have im' := (unhide IM).below hb2
  have xs' := (unhide XS).below hb2 (unhide XS).lt
  have is' := (unhide IS).below hb2
  have xn' := (unhide XN).below hb2 (unhide XN).lt
  have in' := (unhide IN).below hb2
  have xt' := (unhide XT).below hb2 (unhide XT).lt
  have it' := (unhide IT).below hb2
  have b14 := (unhide B13).trans (hb2.mono (unhide B13).size)
  clear pp0 pp1 pr0 pr1 hb1 hb2 B13 XP XR XM XS XN XT IP IR IM IS IN IT
  have pm0 := xm'.c0; have pm1 := xm'.c1; have hzm14 := xm'.lt
  have ps0 := xs'.c0; have ps1 := xs'.c1; have hzs14 := xs'.lt
  have XM := hide xm'; have IM := hide im'
  have XS := hide xs'; have IS := hide is'
  have XN := hide xn'; have IN := hide in'
  have XT := hide xt'; have IT := hide it'
  have B14 := hide b14
  clear xm' im' xs' is' xn' in' xt' it' b14
  go_wp2_with fail
  -- Same(m, s)
  refine (same_yes (unhide IM) (unhide IS) (Int.add_mul _ _ _)).mono ?_
  rintro e w15 ⟨rfl, hb1⟩
  have hb2 : Below w14.heap.size w14 w15 := hb1
  have xn' := (unhide XN).below hb2 (unhide XN).lt
  have in' := (unhide IN).below hb2
  have xt' := (unhide XT).below hb2 (unhide XT).lt
  have it' := (unhide IT).below hb2
  have b15 := (unhide B14).trans (hb2.mono (unhide B14).size)
  clear pm0 pm1 ps0 ps1 hb1 hb2 B14 XM XS XN XT IM IS IN IT
  have pn0 := xn'.c0; have pn1 := xn'.c1; have hzn15 := xn'.lt
  have pt0 := xt'.c0; have pt1 := xt'.c1; have hzt15 := xt'.lt
  have XN := hide xn'; have IN := hide in'
  have XT := hide xt'; have IT := hide it'
  have B15 := hide b15
  clear xn' in' xt' it' b15
  go_wp2_with fail
  -- Same(n, t)
  refine (same_yes (unhide IN) (unhide IT) (Int.mul_comm _ _)).mono ?_
  rintro e w16 ⟨rfl, hb1⟩
  have hb2 : Below w15.heap.size w15 w16 := hb1
  have b16 := (unhide B15).trans (hb2.mono (unhide B15).size)
  clear pn0 pn1 pt0 pt1 hb1 hb2 B15 XN XT IN IT
  have B16 := hide b16
  clear  b16
  go_wp2_with (go_at_call 6; refine (awake_any _).mono ?_; rintro e w99 ⟨rfl, hb5⟩)
  go_ret
  exact ⟨rfl, (unhide B16).trans (hb5.mono (unhide B16).size)⟩

end Go.Proofs.Ytiebegjgaflfiab
