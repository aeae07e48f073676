/- DyadicLaws holds: of any three right dyadic numbers of at most 30 limbs whose powers are from -4000 to 4000 and at most 4000 apart sums and products hang on no order and on no brackets, a product goes over a sum, and what was taken off and is added again is there (others the law does not go through: its own bounds); under the condition that the library's table deBruijn32tab holds what its initialiser lays, which the card ties to the program's text (of this seat's pruned copy); nothing that was there is changed. -/
import Derived.Test.YtinlddkdkgepjaaDoorPart16
import Derived.Test.YtinlddkdkgepjaaDoorChecked
import Derived.Test.YtinlddkdkgepjaaDoorPart01
import Derived.ProofKit
import Derived.SizedLaws
import Derived.Lib.SmallJoins
import Derived.Test.YtinlddkdkgepjaaDoorRows
import Derived.Test.YtinlddkdkgepjaaDoorPart11
import Derived.Lib.LaidTab
import Derived.OpenShut
import Derived.Deep.DeepHandedRow
import Derived.Test.YtinlddkdkgepjaaDoorCards
import Derived.Test.YtinlddkdkgepjaaDoorTie
/- The law DyadicLaws, walked. -/
namespace Go.Proofs.YtinlddkdkgepjaaDoor
open Go.RowKit
attribute [local go_sem ↓] Go.wp_at_zero Go.wp_at_succ

def max3 (x y z : Int) : Int := max (max x y) z
def min3 (x y z : Int) : Int := min (min x y) z
theorem max3_run (P : Program) (w : World) (ts : Array TypeId) (t : TypeId) (x y z : Int) : (Builtin.max_ ts t #[.int .i64 x, .int .i64 y, .int .i64 z]).run P w = .ok (.int .i64 (max3 x y z)) w := by
  rw [run_max_int3]
  congr 2
  unfold max3
  split <;> split <;> omega
theorem min3_run (P : Program) (w : World) (ts : Array TypeId) (t : TypeId) (x y z : Int) : (Builtin.min_ ts t #[.int .i64 x, .int .i64 y, .int .i64 z]).run P w = .ok (.int .i64 (min3 x y z)) w := by
  rw [run_min_int3]
  congr 2
  unfold min3
  split <;> split <;> omega

set_option maxRecDepth 100000 in
set_option maxHeartbeats 8000000 in
theorem dlaws_walk (na nb nc : Bool) (ao bo co : Option Addr) (ca cb cc : Nat) (A B C : List Nat) (x y z : Int) (w : World) (hA : LimbsAt w ao ca A) (hB : LimbsAt w bo cb B) (hC : LimbsAt w co cc C) (la : A.length ≤ 35184372087808) (lb : B.length ≤ 35184372087808) (lc : C.length ≤ 35184372087808) (_bx : -9223372036854775808 ≤ x ∧ x ≤ 9223372036854775807) (_by : -9223372036854775808 ≤ y ∧ y ≤ 9223372036854775807) (_bz : -9223372036854775808 ≤ z ∧ z ≤ 9223372036854775807) (hT : Tab w) :
    Calls Tryd.prog 8 #[.agg #[.bool na, .slice ao A.length ca, .int .i64 x], .agg #[.bool nb, .slice bo B.length cb, .int .i64 y], .agg #[.bool nc, .slice co C.length cc, .int .i64 z]] w fun e w' => e = .returned (.bool true) ∧ Below w.heap.size w w' := by
  have hmax := fun W ts t => max3_run Tryd.prog W ts t x y z
  have hmin := fun W ts t => min3_run Tryd.prog W ts t x y z
  have HMN := hide (fun (ha : drB na A x = true) (hb : drB nb B y = true) (hc : drB nc C z = true) => show (x ≤ max3 x y z ∧ y ≤ max3 x y z ∧ z ≤ max3 x y z) ∧ (min3 x y z ≤ x ∧ min3 x y z ≤ y ∧ min3 x y z ≤ z) ∧ (-16384 ≤ max3 x y z ∧ max3 x y z ≤ 16384) ∧ (-16384 ≤ min3 x y z ∧ min3 x y z ≤ 16384) by
    have h1 := drB_bounds ha
    have h2 := drB_bounds hb
    have h3 := drB_bounds hc
    unfold max3 min3
    omega)
  have CF := hide (fun w' h h' => form2_any na nb ao bo ca cb A B x y w' h h' (by omega) (by omega))
  have CG := hide (fun w' h => form2_any nc nc co co cc cc C C z z w' h h (by omega) (by omega))
  have CL := hide (fun w' => light2_any na nb ao bo ca cb A.length B.length x y w')
  have CK := hide (fun w' => light2_any nc nc co co cc cc C.length C.length z z w')
  have HR1 := hide (show (drE2 na A x nb B y = 0 ∧ drB na A x = true ∧ drB nb B y = true) ∨ drE2 na A x nb B y = 1 by
    unfold drE2
    cases h1 : drB na A x <;> cases h2 : drB nb B y <;> simp)
  have HR2 := hide (show (drE2 nc C z nc C z = 0 ∧ drB nc C z = true) ∨ drE2 nc C z nc C z = 1 by
    unfold drE2
    cases h1 : drB nc C z <;> simp)
  have HL1 := hide (show (decide (A.length ≤ 30 ∧ B.length ≤ 30) = true ∧ A.length ≤ 30 ∧ B.length ≤ 30) ∨ decide (A.length ≤ 30 ∧ B.length ≤ 30) = false by
    by_cases h : A.length ≤ 30 ∧ B.length ≤ 30
    · exact .inl ⟨decide_eq_true h, h⟩
    · exact .inr (decide_eq_false h))
  have HL2 := hide (show (decide (C.length ≤ 30 ∧ C.length ≤ 30) = true ∧ C.length ≤ 30) ∨ decide (C.length ≤ 30 ∧ C.length ≤ 30) = false by
    by_cases h : C.length ≤ 30 ∧ C.length ≤ 30
    · exact .inl ⟨decide_eq_true h, h.1⟩
    · exact .inr (decide_eq_false h))
  generalize max3 x y z = M at *
  generalize min3 x y z = N at *
  generalize drE2 na A x nb B y = f1 at *
  generalize drE2 nc C z nc C z = f2 at *
  generalize decide (A.length ≤ 30 ∧ B.length ≤ 30) = l1 at *
  generalize decide (C.length ≤ 30 ∧ C.length ≤ 30) = l2 at *
  clear la lb lc _bx _by _bz
  have hb0 : Below w.heap.size w (((w.alloc (.cells #[.bool na, .slice ao A.length ca, .int .i64 x] 26)).alloc (.cells #[.bool nb, .slice bo B.length cb, .int .i64 y] 26)).alloc (.cells #[.bool nc, .slice co C.length cc, .int .i64 z] 26)) :=
    (((Below.refl _ _).alloc (Nat.le_refl _) _).alloc (by simp) _).alloc (by simp; omega) _
  have x0 : Box3 (((w.alloc (.cells #[.bool na, .slice ao A.length ca, .int .i64 x] 26)).alloc (.cells #[.bool nb, .slice bo B.length cb, .int .i64 y] 26)).alloc (.cells #[.bool nc, .slice co C.length cc, .int .i64 z] 26)) w.heap.size (.bool na) (.slice ao A.length ca) (.int .i64 x) := ((Box3.new _ _ _ _).old _).old _
  have x1 : Box3 (((w.alloc (.cells #[.bool na, .slice ao A.length ca, .int .i64 x] 26)).alloc (.cells #[.bool nb, .slice bo B.length cb, .int .i64 y] 26)).alloc (.cells #[.bool nc, .slice co C.length cc, .int .i64 z] 26)) (w.heap.size + 1) (.bool nb) (.slice bo B.length cb) (.int .i64 y) := by
    have := (Box3.new (w.alloc (.cells #[.bool na, .slice ao A.length ca, .int .i64 x] 26)) (.bool nb) (.slice bo B.length cb) (.int .i64 y)).old (.cells #[.bool nc, .slice co C.length cc, .int .i64 z] 26)
    simpa using this
  have x2 : Box3 (((w.alloc (.cells #[.bool na, .slice ao A.length ca, .int .i64 x] 26)).alloc (.cells #[.bool nb, .slice bo B.length cb, .int .i64 y] 26)).alloc (.cells #[.bool nc, .slice co C.length cc, .int .i64 z] 26)) (w.heap.size + 1 + 1) (.bool nc) (.slice co C.length cc) (.int .i64 z) := by
    have := Box3.new ((w.alloc (.cells #[.bool na, .slice ao A.length ca, .int .i64 x] 26)).alloc (.cells #[.bool nb, .slice bo B.length cb, .int .i64 y] 26)) (.bool nc) (.slice co C.length cc) (.int .i64 z)
    simpa using this
  have B1 := hide hb0; have BXa := hide x0; have BXb := hide x1; have BXc := hide x2
  clear hb0 x0 x1 x2
  go_enter Tryd.func8, Tryd.ntmps8
  have p0 := (unhide BXa).c0; have p1 := (unhide BXa).c1; have p2 := (unhide BXa).c2
  have q0 := (unhide BXb).c0; have q1 := (unhide BXb).c1; have q2 := (unhide BXb).c2
  have r0 := (unhide BXc).c0; have r1 := (unhide BXc).c1; have r2 := (unhide BXc).c2
  go_wp2_with fail
  -- form(a, b)
  refine (unhide CF _ (hA.below (unhide B1)) (hB.below (unhide B1))).mono ?_
  rintro r w1 ⟨rfl, hb1⟩
  have ta := (unhide BXa).all hb1
  have tb := (unhide BXb).all hb1
  have tc := (unhide BXc).all hb1
  have b1 := (unhide B1).trans (hb1.mono (unhide B1).size)
  clear p0 p1 p2 q0 q1 q2 r0 r1 r2
  clear B1 hb1 BXa BXb BXc 
  have BXa := hide ta
  have BXb := hide tb
  have BXc := hide tc
  have B1 := hide b1
  clear ta tb tc  b1
  have p0 := (unhide BXa).c0; have p1 := (unhide BXa).c1; have p2 := (unhide BXa).c2
  have q0 := (unhide BXb).c0; have q1 := (unhide BXb).c1; have q2 := (unhide BXb).c2
  have r0 := (unhide BXc).c0; have r1 := (unhide BXc).c1; have r2 := (unhide BXc).c2
  rcases unhide HR1 with ⟨rfl, hra, hrb⟩ | rfl
  case inr =>
    go_wp2_with (go_at_call 13; refine (awake2_any _ (hT.all (unhide B1))).mono ?_; rintro e w9 ⟨rfl, hb2⟩)
    go_ret
    exact ⟨rfl, (unhide B1).trans (hb2.mono (unhide B1).size)⟩
  go_wp2_with fail
  -- form(c, c)
  refine (unhide CG _ (hC.below (unhide B1))).mono ?_
  rintro r w2 ⟨rfl, hb1⟩
  have ta := (unhide BXa).all hb1
  have tb := (unhide BXb).all hb1
  have tc := (unhide BXc).all hb1
  have b1 := (unhide B1).trans (hb1.mono (unhide B1).size)
  clear p0 p1 p2 q0 q1 q2 r0 r1 r2
  clear B1 hb1 BXa BXb BXc 
  have BXa := hide ta
  have BXb := hide tb
  have BXc := hide tc
  have B1 := hide b1
  clear ta tb tc  b1
  have p0 := (unhide BXa).c0; have p1 := (unhide BXa).c1; have p2 := (unhide BXa).c2
  have q0 := (unhide BXb).c0; have q1 := (unhide BXb).c1; have q2 := (unhide BXb).c2
  have r0 := (unhide BXc).c0; have r1 := (unhide BXc).c1; have r2 := (unhide BXc).c2
  rcases unhide HR2 with ⟨rfl, hrc⟩ | rfl
  case inr =>
    go_wp2_with (go_at_call 13; refine (awake2_any _ (hT.all (unhide B1))).mono ?_; rintro e w9 ⟨rfl, hb2⟩)
    go_ret
    exact ⟨rfl, (unhide B1).trans (hb2.mono (unhide B1).size)⟩
  go_wp2_with fail
  -- light(a, b)
  refine (unhide CL _).mono ?_
  rintro r w3 ⟨rfl, hb1⟩
  have ta := (unhide BXa).all hb1
  have tb := (unhide BXb).all hb1
  have tc := (unhide BXc).all hb1
  have b1 := (unhide B1).trans (hb1.mono (unhide B1).size)
  clear p0 p1 p2 q0 q1 q2 r0 r1 r2
  clear B1 hb1 BXa BXb BXc 
  have BXa := hide ta
  have BXb := hide tb
  have BXc := hide tc
  have B1 := hide b1
  clear ta tb tc  b1
  have p0 := (unhide BXa).c0; have p1 := (unhide BXa).c1; have p2 := (unhide BXa).c2
  have q0 := (unhide BXb).c0; have q1 := (unhide BXb).c1; have q2 := (unhide BXb).c2
  have r0 := (unhide BXc).c0; have r1 := (unhide BXc).c1; have r2 := (unhide BXc).c2
  rcases unhide HL1 with ⟨rfl, la30, lb30⟩ | rfl
  case inr =>
    go_wp2_with (go_at_call 13; refine (awake2_any _ (hT.all (unhide B1))).mono ?_; rintro e w9 ⟨rfl, hb2⟩)
    go_ret
    exact ⟨rfl, (unhide B1).trans (hb2.mono (unhide B1).size)⟩
  go_wp2_with fail
  -- light(c, c)
  refine (unhide CK _).mono ?_
  rintro r w4 ⟨rfl, hb1⟩
  have ta := (unhide BXa).all hb1
  have tb := (unhide BXb).all hb1
  have tc := (unhide BXc).all hb1
  have b1 := (unhide B1).trans (hb1.mono (unhide B1).size)
  clear p0 p1 p2 q0 q1 q2 r0 r1 r2
  clear B1 hb1 BXa BXb BXc 
  have BXa := hide ta
  have BXb := hide tb
  have BXc := hide tc
  have B1 := hide b1
  clear ta tb tc  b1
  have p0 := (unhide BXa).c0; have p1 := (unhide BXa).c1; have p2 := (unhide BXa).c2
  have q0 := (unhide BXb).c0; have q1 := (unhide BXb).c1; have q2 := (unhide BXb).c2
  have r0 := (unhide BXc).c0; have r1 := (unhide BXc).c1; have r2 := (unhide BXc).c2
  rcases unhide HL2 with ⟨rfl, lc30⟩ | rfl
  case inr =>
    go_wp2_with (go_at_call 13; refine (awake2_any _ (hT.all (unhide B1))).mono ?_; rintro e w9 ⟨rfl, hb2⟩)
    go_ret
    exact ⟨rfl, (unhide B1).trans (hb2.mono (unhide B1).size)⟩
  obtain ⟨hM, hN, hMb, hNb⟩ := unhide HMN hra hrb hrc
  have hw : IntKind.i64.wrap (M - N) = M - N := wrap_small _ (by omega)
  by_cases g1 : M - N ≤ 4000
  case neg =>
    have g1' : 4000 < M - N := by omega
    have d1 : decide (4000 < M - N) = true := decide_eq_true g1'
    clear g1
    go_wp2_with (go_at_call 13; refine (awake2_any _ (hT.all (unhide B1))).mono ?_; rintro e w9 ⟨rfl, hb2⟩)
    go_ret
    exact ⟨rfl, (unhide B1).trans (hb2.mono (unhide B1).size)⟩
  have d1 : decide (4000 < M - N) = false := decide_eq_false (by omega)
  by_cases g2 : M ≤ 4000
  case neg =>
    have g2' : 4000 < M := by omega
    have d2 : decide (4000 < M) = true := decide_eq_true g2'
    clear g2
    go_wp2_with (go_at_call 13; refine (awake2_any _ (hT.all (unhide B1))).mono ?_; rintro e w9 ⟨rfl, hb2⟩)
    go_ret
    exact ⟨rfl, (unhide B1).trans (hb2.mono (unhide B1).size)⟩
  have d2 : decide (4000 < M) = false := decide_eq_false (by omega)
  by_cases g3 : -4000 ≤ N
  case neg =>
    have g3' : N < -4000 := by omega
    have d3 : decide (N < -4000) = true := decide_eq_true g3'
    clear g3
    go_wp2_with (go_at_call 13; refine (awake2_any _ (hT.all (unhide B1))).mono ?_; rintro e w9 ⟨rfl, hb2⟩)
    go_ret
    exact ⟨rfl, (unhide B1).trans (hb2.mono (unhide B1).size)⟩
  have d3 : decide (N < -4000) = false := decide_eq_false (by omega)
  obtain ⟨mx, ex, mp, ep, mq, eq, mm, em, mn, en, mo, eo, md, ed, k1, k2, k3, k4, k5, k6, k7, k8, k9, k10, k11⟩ := laws_facts hA.2.1 hB.2.1 hC.2.1 hra hrb hrc la30 lb30 lc30 M N hM hN g1 g2 g3
  have C1 := hide k1; have C2 := hide k2; have C3 := hide k3; have C4 := hide k4; have C5 := hide k5; have C6 := hide k6; have C7 := hide k7; have C8 := hide k8; have C9 := hide k9; have C10 := hide k10; have C11 := hide k11
  have IDa := hide (IsDy.ofRight (e := x) (hA.below (unhide B1)) (drB_bounds hra).1); have IDb := hide (IsDy.ofRight (e := y) (hB.below (unhide B1)) (drB_bounds hrb).1); have IDc := hide (IsDy.ofRight (e := z) (hC.below (unhide B1)) (drB_bounds hrc).1)
  clear k1 k2 k3 k4 k5 k6 k7 k8 k9 k10 k11 hra hrb hrc la30 lb30 lc30 HR1 HR2 HL1 HL2 HMN CF CG CL CK
  generalize sval na A = ma at *
  generalize sval nb B = mb at *
  generalize sval nc C = mc at *
  clear p0 p1 p2 q0 q1 q2 r0 r1 r2
  have r0 := (unhide BXc).c0; have r1 := (unhide BXc).c1; have r2 := (unhide BXc).c2
  -- x := Add(a, b)
  have p0 := (unhide BXa).c0; have p1 := (unhide BXa).c1; have p2 := (unhide BXa).c2
  have q0 := (unhide BXb).c0; have q1 := (unhide BXb).c1; have q2 := (unhide BXb).c2
  go_wp2_with fail
  refine (unhide C1 _ _ _ (unhide IDa) (unhide IDb) (hT.all (unhide B1))).mono ?_
  rintro r v1 ⟨⟨v, rfl, iv⟩, hb1⟩
  obtain ⟨n1, a1, c1, L1, rfl, i1⟩ := iv.num
  have bN : Below v1.heap.size v1 (v1.alloc (.cells #[.bool n1, .slice a1 L1.length c1, .int .i64 ex] 26)) := (Below.refl _ _).alloc (Nat.le_refl _) _
  have ta := ((unhide BXa).all hb1).all bN
  have tb := ((unhide BXb).all hb1).all bN
  have tc := ((unhide BXc).all hb1).all bN
  have sa := ((unhide IDa).below hb1).below bN
  have sb := ((unhide IDb).below hb1).below bN
  have sc := ((unhide IDc).below hb1).below bN
  have b1 := (unhide B1).trans (hb1.mono (unhide B1).size)
  have b2 := b1.trans (bN.mono b1.size)
  have tx := Box3.new v1 (.bool n1) (.slice a1 L1.length c1) (.int .i64 ex)
  have sx := iv.below bN
  clear p0 p1 p2 q0 q1 q2 
  clear iv i1 bN C1
  clear B1 hb1 BXa IDa BXb IDb BXc IDc
  have BXa := hide ta; have IDa := hide sa
  have BXb := hide tb; have IDb := hide sb
  have BXc := hide tc; have IDc := hide sc
  have BXx := hide tx; have IDx := hide sx
  have B1 := hide b2
  clear b1 b2 ta sa tb sb tc sc tx sx
  clear r0 r1 r2
  clear hmax hmin hw d1 d2 d3 g1 g2 g3 hM hN hMb hNb
  -- y := Add(b, a)
  have p0 := (unhide BXb).c0; have p1 := (unhide BXb).c1; have p2 := (unhide BXb).c2
  have q0 := (unhide BXa).c0; have q1 := (unhide BXa).c1; have q2 := (unhide BXa).c2
  go_wp2_with fail
  refine (unhide C2 _ _ _ (unhide IDb) (unhide IDa) (hT.all (unhide B1))).mono ?_
  rintro r v2 ⟨⟨v, rfl, iv⟩, hb1⟩
  obtain ⟨n2, a2, c2, L2, rfl, i2⟩ := iv.num
  have bN : Below v2.heap.size v2 (v2.alloc (.cells #[.bool n2, .slice a2 L2.length c2, .int .i64 ex] 26)) := (Below.refl _ _).alloc (Nat.le_refl _) _
  have ta := ((unhide BXa).all hb1).all bN
  have tb := ((unhide BXb).all hb1).all bN
  have tc := ((unhide BXc).all hb1).all bN
  have tx := ((unhide BXx).all hb1).all bN
  have sa := ((unhide IDa).below hb1).below bN
  have sb := ((unhide IDb).below hb1).below bN
  have sc := ((unhide IDc).below hb1).below bN
  have sx := ((unhide IDx).below hb1).below bN
  have b1 := (unhide B1).trans (hb1.mono (unhide B1).size)
  have b2 := b1.trans (bN.mono b1.size)
  have ty := Box3.new v2 (.bool n2) (.slice a2 L2.length c2) (.int .i64 ex)
  have sy := iv.below bN
  clear p0 p1 p2 q0 q1 q2 
  clear iv i2 bN C2
  clear B1 hb1 BXa IDa BXb IDb BXc IDc BXx IDx
  have BXa := hide ta; have IDa := hide sa
  have BXb := hide tb; have IDb := hide sb
  have BXc := hide tc; have IDc := hide sc
  have BXx := hide tx; have IDx := hide sx
  have BXy := hide ty; have IDy := hide sy
  have B1 := hide b2
  clear b1 b2 ta sa tb sb tc sc tx sx ty sy
  -- p := Add(x, c)
  have p0 := (unhide BXx).c0; have p1 := (unhide BXx).c1; have p2 := (unhide BXx).c2
  have q0 := (unhide BXc).c0; have q1 := (unhide BXc).c1; have q2 := (unhide BXc).c2
  go_wp2_with fail
  refine (unhide C3 _ _ _ (unhide IDx) (unhide IDc) (hT.all (unhide B1))).mono ?_
  rintro r v3 ⟨⟨v, rfl, iv⟩, hb1⟩
  obtain ⟨n3, a3, c3, L3, rfl, i3⟩ := iv.num
  have bN : Below v3.heap.size v3 (v3.alloc (.cells #[.bool n3, .slice a3 L3.length c3, .int .i64 ep] 26)) := (Below.refl _ _).alloc (Nat.le_refl _) _
  have ta := ((unhide BXa).all hb1).all bN
  have tb := ((unhide BXb).all hb1).all bN
  have tc := ((unhide BXc).all hb1).all bN
  have tx := ((unhide BXx).all hb1).all bN
  have ty := ((unhide BXy).all hb1).all bN
  have sa := ((unhide IDa).below hb1).below bN
  have sb := ((unhide IDb).below hb1).below bN
  have sc := ((unhide IDc).below hb1).below bN
  have sx := ((unhide IDx).below hb1).below bN
  have sy := ((unhide IDy).below hb1).below bN
  have b1 := (unhide B1).trans (hb1.mono (unhide B1).size)
  have b2 := b1.trans (bN.mono b1.size)
  have tp := Box3.new v3 (.bool n3) (.slice a3 L3.length c3) (.int .i64 ep)
  have sp := iv.below bN
  clear p0 p1 p2 q0 q1 q2 
  clear iv i3 bN C3
  clear B1 hb1 BXa IDa BXb IDb BXc IDc BXx IDx BXy IDy
  have BXa := hide ta; have IDa := hide sa
  have BXb := hide tb; have IDb := hide sb
  have BXc := hide tc; have IDc := hide sc
  have BXx := hide tx; have IDx := hide sx
  have BXy := hide ty; have IDy := hide sy
  have BXp := hide tp; have IDp := hide sp
  have B1 := hide b2
  clear b1 b2 ta sa tb sb tc sc tx sx ty sy tp sp
  -- q := Add(b, c)
  have p0 := (unhide BXb).c0; have p1 := (unhide BXb).c1; have p2 := (unhide BXb).c2
  have q0 := (unhide BXc).c0; have q1 := (unhide BXc).c1; have q2 := (unhide BXc).c2
  go_wp2_with fail
  refine (unhide C4 _ _ _ (unhide IDb) (unhide IDc) (hT.all (unhide B1))).mono ?_
  rintro r v4 ⟨⟨v, rfl, iv⟩, hb1⟩
  obtain ⟨n4, a4, c4, L4, rfl, i4⟩ := iv.num
  have bN : Below v4.heap.size v4 (v4.alloc (.cells #[.bool n4, .slice a4 L4.length c4, .int .i64 eq] 26)) := (Below.refl _ _).alloc (Nat.le_refl _) _
  have ta := ((unhide BXa).all hb1).all bN
  have tb := ((unhide BXb).all hb1).all bN
  have tc := ((unhide BXc).all hb1).all bN
  have tx := ((unhide BXx).all hb1).all bN
  have ty := ((unhide BXy).all hb1).all bN
  have tp := ((unhide BXp).all hb1).all bN
  have sa := ((unhide IDa).below hb1).below bN
  have sb := ((unhide IDb).below hb1).below bN
  have sc := ((unhide IDc).below hb1).below bN
  have sx := ((unhide IDx).below hb1).below bN
  have sy := ((unhide IDy).below hb1).below bN
  have sp := ((unhide IDp).below hb1).below bN
  have b1 := (unhide B1).trans (hb1.mono (unhide B1).size)
  have b2 := b1.trans (bN.mono b1.size)
  have tq := Box3.new v4 (.bool n4) (.slice a4 L4.length c4) (.int .i64 eq)
  have sq := iv.below bN
  clear p0 p1 p2 q0 q1 q2 
  clear iv i4 bN C4
  clear B1 hb1 BXa IDa BXb IDb BXc IDc BXx IDx BXy IDy BXp IDp
  have BXa := hide ta; have IDa := hide sa
  have BXb := hide tb; have IDb := hide sb
  have BXc := hide tc; have IDc := hide sc
  have BXx := hide tx; have IDx := hide sx
  have BXy := hide ty; have IDy := hide sy
  have BXp := hide tp; have IDp := hide sp
  have BXq := hide tq; have IDq := hide sq
  have B1 := hide b2
  clear b1 b2 ta sa tb sb tc sc tx sx ty sy tp sp tq sq
  -- r := Add(a, q)
  have p0 := (unhide BXa).c0; have p1 := (unhide BXa).c1; have p2 := (unhide BXa).c2
  have q0 := (unhide BXq).c0; have q1 := (unhide BXq).c1; have q2 := (unhide BXq).c2
  go_wp2_with fail
  refine (unhide C5 _ _ _ (unhide IDa) (unhide IDq) (hT.all (unhide B1))).mono ?_
  rintro r v5 ⟨⟨v, rfl, iv⟩, hb1⟩
  obtain ⟨n5, a5, c5, L5, rfl, i5⟩ := iv.num
  have bN : Below v5.heap.size v5 (v5.alloc (.cells #[.bool n5, .slice a5 L5.length c5, .int .i64 ep] 26)) := (Below.refl _ _).alloc (Nat.le_refl _) _
  have ta := ((unhide BXa).all hb1).all bN
  have tb := ((unhide BXb).all hb1).all bN
  have tc := ((unhide BXc).all hb1).all bN
  have tx := ((unhide BXx).all hb1).all bN
  have ty := ((unhide BXy).all hb1).all bN
  have tp := ((unhide BXp).all hb1).all bN
  have sa := ((unhide IDa).below hb1).below bN
  have sb := ((unhide IDb).below hb1).below bN
  have sc := ((unhide IDc).below hb1).below bN
  have sx := ((unhide IDx).below hb1).below bN
  have sy := ((unhide IDy).below hb1).below bN
  have sp := ((unhide IDp).below hb1).below bN
  have b1 := (unhide B1).trans (hb1.mono (unhide B1).size)
  have b2 := b1.trans (bN.mono b1.size)
  have tr := Box3.new v5 (.bool n5) (.slice a5 L5.length c5) (.int .i64 ep)
  have sr := iv.below bN
  clear p0 p1 p2 q0 q1 q2 BXq IDq
  clear iv i5 bN C5
  clear B1 hb1 BXa IDa BXb IDb BXc IDc BXx IDx BXy IDy BXp IDp
  have BXa := hide ta; have IDa := hide sa
  have BXb := hide tb; have IDb := hide sb
  have BXc := hide tc; have IDc := hide sc
  have BXx := hide tx; have IDx := hide sx
  have BXy := hide ty; have IDy := hide sy
  have BXp := hide tp; have IDp := hide sp
  have BXr := hide tr; have IDr := hide sr
  have B1 := hide b2
  clear b1 b2 ta sa tb sb tc sc tx sx ty sy tp sp tr sr
  -- m := Mul(x, c)
  have p0 := (unhide BXx).c0; have p1 := (unhide BXx).c1; have p2 := (unhide BXx).c2
  have q0 := (unhide BXc).c0; have q1 := (unhide BXc).c1; have q2 := (unhide BXc).c2
  go_wp2_with fail
  refine (unhide C6 _ _ _ (unhide IDx) (unhide IDc) (hT.all (unhide B1))).mono ?_
  rintro r v6 ⟨⟨v, rfl, iv⟩, hb1⟩
  obtain ⟨n6, a6, c6, L6, rfl, i6⟩ := iv.num
  have bN : Below v6.heap.size v6 (v6.alloc (.cells #[.bool n6, .slice a6 L6.length c6, .int .i64 em] 26)) := (Below.refl _ _).alloc (Nat.le_refl _) _
  have ta := ((unhide BXa).all hb1).all bN
  have tb := ((unhide BXb).all hb1).all bN
  have tc := ((unhide BXc).all hb1).all bN
  have tx := ((unhide BXx).all hb1).all bN
  have ty := ((unhide BXy).all hb1).all bN
  have tp := ((unhide BXp).all hb1).all bN
  have tr := ((unhide BXr).all hb1).all bN
  have sa := ((unhide IDa).below hb1).below bN
  have sb := ((unhide IDb).below hb1).below bN
  have sc := ((unhide IDc).below hb1).below bN
  have sx := ((unhide IDx).below hb1).below bN
  have sy := ((unhide IDy).below hb1).below bN
  have sp := ((unhide IDp).below hb1).below bN
  have sr := ((unhide IDr).below hb1).below bN
  have b1 := (unhide B1).trans (hb1.mono (unhide B1).size)
  have b2 := b1.trans (bN.mono b1.size)
  have tm := Box3.new v6 (.bool n6) (.slice a6 L6.length c6) (.int .i64 em)
  have sm := iv.below bN
  clear p0 p1 p2 q0 q1 q2 
  clear iv i6 bN C6
  clear B1 hb1 BXa IDa BXb IDb BXc IDc BXx IDx BXy IDy BXp IDp BXr IDr
  have BXa := hide ta; have IDa := hide sa
  have BXb := hide tb; have IDb := hide sb
  have BXc := hide tc; have IDc := hide sc
  have BXx := hide tx; have IDx := hide sx
  have BXy := hide ty; have IDy := hide sy
  have BXp := hide tp; have IDp := hide sp
  have BXr := hide tr; have IDr := hide sr
  have BXm := hide tm; have IDm := hide sm
  have B1 := hide b2
  clear b1 b2 ta sa tb sb tc sc tx sx ty sy tp sp tr sr tm sm
  -- n := Mul(a, c)
  have p0 := (unhide BXa).c0; have p1 := (unhide BXa).c1; have p2 := (unhide BXa).c2
  have q0 := (unhide BXc).c0; have q1 := (unhide BXc).c1; have q2 := (unhide BXc).c2
  go_wp2_with fail
  refine (unhide C7 _ _ _ (unhide IDa) (unhide IDc) (hT.all (unhide B1))).mono ?_
  rintro r v7 ⟨⟨v, rfl, iv⟩, hb1⟩
  obtain ⟨n7, a7, c7, L7, rfl, i7⟩ := iv.num
  have bN : Below v7.heap.size v7 (v7.alloc (.cells #[.bool n7, .slice a7 L7.length c7, .int .i64 en] 26)) := (Below.refl _ _).alloc (Nat.le_refl _) _
  have ta := ((unhide BXa).all hb1).all bN
  have tb := ((unhide BXb).all hb1).all bN
  have tc := ((unhide BXc).all hb1).all bN
  have tx := ((unhide BXx).all hb1).all bN
  have ty := ((unhide BXy).all hb1).all bN
  have tp := ((unhide BXp).all hb1).all bN
  have tr := ((unhide BXr).all hb1).all bN
  have tm := ((unhide BXm).all hb1).all bN
  have sa := ((unhide IDa).below hb1).below bN
  have sb := ((unhide IDb).below hb1).below bN
  have sc := ((unhide IDc).below hb1).below bN
  have sx := ((unhide IDx).below hb1).below bN
  have sy := ((unhide IDy).below hb1).below bN
  have sp := ((unhide IDp).below hb1).below bN
  have sr := ((unhide IDr).below hb1).below bN
  have sm := ((unhide IDm).below hb1).below bN
  have b1 := (unhide B1).trans (hb1.mono (unhide B1).size)
  have b2 := b1.trans (bN.mono b1.size)
  have tn := Box3.new v7 (.bool n7) (.slice a7 L7.length c7) (.int .i64 en)
  have sn := iv.below bN
  clear p0 p1 p2 q0 q1 q2 
  clear iv i7 bN C7
  clear B1 hb1 BXa IDa BXb IDb BXc IDc BXx IDx BXy IDy BXp IDp BXr IDr BXm IDm
  have BXa := hide ta; have IDa := hide sa
  have BXb := hide tb; have IDb := hide sb
  have BXc := hide tc; have IDc := hide sc
  have BXx := hide tx; have IDx := hide sx
  have BXy := hide ty; have IDy := hide sy
  have BXp := hide tp; have IDp := hide sp
  have BXr := hide tr; have IDr := hide sr
  have BXm := hide tm; have IDm := hide sm
  have BXn := hide tn; have IDn := hide sn
  have B1 := hide b2
  clear b1 b2 ta sa tb sb tc sc tx sx ty sy tp sp tr sr tm sm tn sn
  -- o := Mul(c, b)
  have p0 := (unhide BXc).c0; have p1 := (unhide BXc).c1; have p2 := (unhide BXc).c2
  have q0 := (unhide BXb).c0; have q1 := (unhide BXb).c1; have q2 := (unhide BXb).c2
  go_wp2_with fail
  refine (unhide C8 _ _ _ (unhide IDc) (unhide IDb) (hT.all (unhide B1))).mono ?_
  rintro r v8 ⟨⟨v, rfl, iv⟩, hb1⟩
  obtain ⟨n8, a8, c8, L8, rfl, i8⟩ := iv.num
  have bN : Below v8.heap.size v8 (v8.alloc (.cells #[.bool n8, .slice a8 L8.length c8, .int .i64 eo] 26)) := (Below.refl _ _).alloc (Nat.le_refl _) _
  have ta := ((unhide BXa).all hb1).all bN
  have tb := ((unhide BXb).all hb1).all bN
  have tx := ((unhide BXx).all hb1).all bN
  have ty := ((unhide BXy).all hb1).all bN
  have tp := ((unhide BXp).all hb1).all bN
  have tr := ((unhide BXr).all hb1).all bN
  have tm := ((unhide BXm).all hb1).all bN
  have tn := ((unhide BXn).all hb1).all bN
  have sa := ((unhide IDa).below hb1).below bN
  have sb := ((unhide IDb).below hb1).below bN
  have sx := ((unhide IDx).below hb1).below bN
  have sy := ((unhide IDy).below hb1).below bN
  have sp := ((unhide IDp).below hb1).below bN
  have sr := ((unhide IDr).below hb1).below bN
  have sm := ((unhide IDm).below hb1).below bN
  have sn := ((unhide IDn).below hb1).below bN
  have b1 := (unhide B1).trans (hb1.mono (unhide B1).size)
  have b2 := b1.trans (bN.mono b1.size)
  have to := Box3.new v8 (.bool n8) (.slice a8 L8.length c8) (.int .i64 eo)
  have so := iv.below bN
  clear p0 p1 p2 q0 q1 q2 BXc IDc
  clear iv i8 bN C8
  clear B1 hb1 BXa IDa BXb IDb BXx IDx BXy IDy BXp IDp BXr IDr BXm IDm BXn IDn
  have BXa := hide ta; have IDa := hide sa
  have BXb := hide tb; have IDb := hide sb
  have BXx := hide tx; have IDx := hide sx
  have BXy := hide ty; have IDy := hide sy
  have BXp := hide tp; have IDp := hide sp
  have BXr := hide tr; have IDr := hide sr
  have BXm := hide tm; have IDm := hide sm
  have BXn := hide tn; have IDn := hide sn
  have BXo := hide to; have IDo := hide so
  have B1 := hide b2
  clear b1 b2 ta sa tb sb tx sx ty sy tp sp tr sr tm sm tn sn to so
  -- s := Add(n, o)
  have p0 := (unhide BXn).c0; have p1 := (unhide BXn).c1; have p2 := (unhide BXn).c2
  have q0 := (unhide BXo).c0; have q1 := (unhide BXo).c1; have q2 := (unhide BXo).c2
  go_wp2_with fail
  refine (unhide C9 _ _ _ (unhide IDn) (unhide IDo) (hT.all (unhide B1))).mono ?_
  rintro r v9 ⟨⟨v, rfl, iv⟩, hb1⟩
  obtain ⟨n9, a9, c9, L9, rfl, i9⟩ := iv.num
  have bN : Below v9.heap.size v9 (v9.alloc (.cells #[.bool n9, .slice a9 L9.length c9, .int .i64 em] 26)) := (Below.refl _ _).alloc (Nat.le_refl _) _
  have ta := ((unhide BXa).all hb1).all bN
  have tb := ((unhide BXb).all hb1).all bN
  have tx := ((unhide BXx).all hb1).all bN
  have ty := ((unhide BXy).all hb1).all bN
  have tp := ((unhide BXp).all hb1).all bN
  have tr := ((unhide BXr).all hb1).all bN
  have tm := ((unhide BXm).all hb1).all bN
  have sa := ((unhide IDa).below hb1).below bN
  have sb := ((unhide IDb).below hb1).below bN
  have sx := ((unhide IDx).below hb1).below bN
  have sy := ((unhide IDy).below hb1).below bN
  have sp := ((unhide IDp).below hb1).below bN
  have sr := ((unhide IDr).below hb1).below bN
  have sm := ((unhide IDm).below hb1).below bN
  have b1 := (unhide B1).trans (hb1.mono (unhide B1).size)
  have b2 := b1.trans (bN.mono b1.size)
  have ts := Box3.new v9 (.bool n9) (.slice a9 L9.length c9) (.int .i64 em)
  have ss := iv.below bN
  clear p0 p1 p2 q0 q1 q2 BXn IDn BXo IDo
  clear iv i9 bN C9
  clear B1 hb1 BXa IDa BXb IDb BXx IDx BXy IDy BXp IDp BXr IDr BXm IDm
  have BXa := hide ta; have IDa := hide sa
  have BXb := hide tb; have IDb := hide sb
  have BXx := hide tx; have IDx := hide sx
  have BXy := hide ty; have IDy := hide sy
  have BXp := hide tp; have IDp := hide sp
  have BXr := hide tr; have IDr := hide sr
  have BXm := hide tm; have IDm := hide sm
  have BXs := hide ts; have IDs := hide ss
  have B1 := hide b2
  clear b1 b2 ta sa tb sb tx sx ty sy tp sp tr sr tm sm ts ss
  -- d := Sub(a, b)
  have p0 := (unhide BXa).c0; have p1 := (unhide BXa).c1; have p2 := (unhide BXa).c2
  have q0 := (unhide BXb).c0; have q1 := (unhide BXb).c1; have q2 := (unhide BXb).c2
  go_wp2_with fail
  refine (unhide C10 _ _ _ (unhide IDa) (unhide IDb) (hT.all (unhide B1))).mono ?_
  rintro r v10 ⟨⟨v, rfl, iv⟩, hb1⟩
  obtain ⟨n10, a10, c10, L10, rfl, i10⟩ := iv.num
  have bN : Below v10.heap.size v10 (v10.alloc (.cells #[.bool n10, .slice a10 L10.length c10, .int .i64 ed] 26)) := (Below.refl _ _).alloc (Nat.le_refl _) _
  have ta := ((unhide BXa).all hb1).all bN
  have tb := ((unhide BXb).all hb1).all bN
  have tx := ((unhide BXx).all hb1).all bN
  have ty := ((unhide BXy).all hb1).all bN
  have tp := ((unhide BXp).all hb1).all bN
  have tr := ((unhide BXr).all hb1).all bN
  have tm := ((unhide BXm).all hb1).all bN
  have ts := ((unhide BXs).all hb1).all bN
  have sa := ((unhide IDa).below hb1).below bN
  have sb := ((unhide IDb).below hb1).below bN
  have sx := ((unhide IDx).below hb1).below bN
  have sy := ((unhide IDy).below hb1).below bN
  have sp := ((unhide IDp).below hb1).below bN
  have sr := ((unhide IDr).below hb1).below bN
  have sm := ((unhide IDm).below hb1).below bN
  have ss := ((unhide IDs).below hb1).below bN
  have b1 := (unhide B1).trans (hb1.mono (unhide B1).size)
  have b2 := b1.trans (bN.mono b1.size)
  have td := Box3.new v10 (.bool n10) (.slice a10 L10.length c10) (.int .i64 ed)
  have sd := iv.below bN
  clear p0 p1 p2 q0 q1 q2 
  clear iv i10 bN C10
  clear B1 hb1 BXa IDa BXb IDb BXx IDx BXy IDy BXp IDp BXr IDr BXm IDm BXs IDs
  have BXa := hide ta; have IDa := hide sa
  have BXb := hide tb; have IDb := hide sb
  have BXx := hide tx; have IDx := hide sx
  have BXy := hide ty; have IDy := hide sy
  have BXp := hide tp; have IDp := hide sp
  have BXr := hide tr; have IDr := hide sr
  have BXm := hide tm; have IDm := hide sm
  have BXs := hide ts; have IDs := hide ss
  have BXd := hide td; have IDd := hide sd
  have B1 := hide b2
  clear b1 b2 ta sa tb sb tx sx ty sy tp sp tr sr tm sm ts ss td sd
  -- t := Add(d, b)
  have p0 := (unhide BXd).c0; have p1 := (unhide BXd).c1; have p2 := (unhide BXd).c2
  have q0 := (unhide BXb).c0; have q1 := (unhide BXb).c1; have q2 := (unhide BXb).c2
  go_wp2_with fail
  refine (unhide C11 _ _ _ (unhide IDd) (unhide IDb) (hT.all (unhide B1))).mono ?_
  rintro r v11 ⟨⟨v, rfl, iv⟩, hb1⟩
  obtain ⟨n11, a11, c11, L11, rfl, i11⟩ := iv.num
  have bN : Below v11.heap.size v11 (v11.alloc (.cells #[.bool n11, .slice a11 L11.length c11, .int .i64 x] 26)) := (Below.refl _ _).alloc (Nat.le_refl _) _
  have ta := ((unhide BXa).all hb1).all bN
  have tx := ((unhide BXx).all hb1).all bN
  have ty := ((unhide BXy).all hb1).all bN
  have tp := ((unhide BXp).all hb1).all bN
  have tr := ((unhide BXr).all hb1).all bN
  have tm := ((unhide BXm).all hb1).all bN
  have ts := ((unhide BXs).all hb1).all bN
  have sa := ((unhide IDa).below hb1).below bN
  have sx := ((unhide IDx).below hb1).below bN
  have sy := ((unhide IDy).below hb1).below bN
  have sp := ((unhide IDp).below hb1).below bN
  have sr := ((unhide IDr).below hb1).below bN
  have sm := ((unhide IDm).below hb1).below bN
  have ss := ((unhide IDs).below hb1).below bN
  have b1 := (unhide B1).trans (hb1.mono (unhide B1).size)
  have b2 := b1.trans (bN.mono b1.size)
  have tt := Box3.new v11 (.bool n11) (.slice a11 L11.length c11) (.int .i64 x)
  have st := iv.below bN
  clear p0 p1 p2 q0 q1 q2 BXb IDb BXd IDd
  clear iv i11 bN C11
  clear B1 hb1 BXa IDa BXx IDx BXy IDy BXp IDp BXr IDr BXm IDm BXs IDs
  have BXa := hide ta; have IDa := hide sa
  have BXx := hide tx; have IDx := hide sx
  have BXy := hide ty; have IDy := hide sy
  have BXp := hide tp; have IDp := hide sp
  have BXr := hide tr; have IDr := hide sr
  have BXm := hide tm; have IDm := hide sm
  have BXs := hide ts; have IDs := hide ss
  have BXt := hide tt; have IDt := hide st
  have B1 := hide b2
  clear b1 b2 ta sa tx sx ty sy tp sp tr sr tm sm ts ss tt st
  -- Same(x, y)
  have p0 := (unhide BXx).c0; have p1 := (unhide BXx).c1; have p2 := (unhide BXx).c2
  have q0 := (unhide BXy).c0; have q1 := (unhide BXy).c1; have q2 := (unhide BXy).c2
  go_wp2_with fail
  refine (sameN (unhide IDx) (unhide IDy)).mono ?_
  rintro r v12 ⟨rfl, hb1⟩
  have ta := (unhide BXa).all hb1
  have tp := (unhide BXp).all hb1
  have tr := (unhide BXr).all hb1
  have tm := (unhide BXm).all hb1
  have ts := (unhide BXs).all hb1
  have tt := (unhide BXt).all hb1
  have sa := (unhide IDa).below hb1
  have sp := (unhide IDp).below hb1
  have sr := (unhide IDr).below hb1
  have sm := (unhide IDm).below hb1
  have ss := (unhide IDs).below hb1
  have st := (unhide IDt).below hb1
  have b1 := (unhide B1).trans (hb1.mono (unhide B1).size)
  clear p0 p1 p2 q0 q1 q2 BXx IDx BXy IDy
  clear B1 hb1 BXa IDa BXp IDp BXr IDr BXm IDm BXs IDs BXt IDt
  have BXa := hide ta; have IDa := hide sa
  have BXp := hide tp; have IDp := hide sp
  have BXr := hide tr; have IDr := hide sr
  have BXm := hide tm; have IDm := hide sm
  have BXs := hide ts; have IDs := hide ss
  have BXt := hide tt; have IDt := hide st
  have B1 := hide b1
  clear b1 ta sa tp sp tr sr tm sm ts ss tt st
  -- Same(p, r)
  have p0 := (unhide BXp).c0; have p1 := (unhide BXp).c1; have p2 := (unhide BXp).c2
  have q0 := (unhide BXr).c0; have q1 := (unhide BXr).c1; have q2 := (unhide BXr).c2
  go_wp2_with fail
  refine (sameN (unhide IDp) (unhide IDr)).mono ?_
  rintro r v13 ⟨rfl, hb1⟩
  have ta := (unhide BXa).all hb1
  have tm := (unhide BXm).all hb1
  have ts := (unhide BXs).all hb1
  have tt := (unhide BXt).all hb1
  have sa := (unhide IDa).below hb1
  have sm := (unhide IDm).below hb1
  have ss := (unhide IDs).below hb1
  have st := (unhide IDt).below hb1
  have b1 := (unhide B1).trans (hb1.mono (unhide B1).size)
  clear p0 p1 p2 q0 q1 q2 BXp IDp BXr IDr
  clear B1 hb1 BXa IDa BXm IDm BXs IDs BXt IDt
  have BXa := hide ta; have IDa := hide sa
  have BXm := hide tm; have IDm := hide sm
  have BXs := hide ts; have IDs := hide ss
  have BXt := hide tt; have IDt := hide st
  have B1 := hide b1
  clear b1 ta sa tm sm ts ss tt st
  -- Same(m, s)
  have p0 := (unhide BXm).c0; have p1 := (unhide BXm).c1; have p2 := (unhide BXm).c2
  have q0 := (unhide BXs).c0; have q1 := (unhide BXs).c1; have q2 := (unhide BXs).c2
  go_wp2_with fail
  refine (sameN (unhide IDm) (unhide IDs)).mono ?_
  rintro r v14 ⟨rfl, hb1⟩
  have ta := (unhide BXa).all hb1
  have tt := (unhide BXt).all hb1
  have sa := (unhide IDa).below hb1
  have st := (unhide IDt).below hb1
  have b1 := (unhide B1).trans (hb1.mono (unhide B1).size)
  clear p0 p1 p2 q0 q1 q2 BXm IDm BXs IDs
  clear B1 hb1 BXa IDa BXt IDt
  have BXa := hide ta; have IDa := hide sa
  have BXt := hide tt; have IDt := hide st
  have B1 := hide b1
  clear b1 ta sa tt st
  -- Same(t, a)
  have p0 := (unhide BXt).c0; have p1 := (unhide BXt).c1; have p2 := (unhide BXt).c2
  have q0 := (unhide BXa).c0; have q1 := (unhide BXa).c1; have q2 := (unhide BXa).c2
  go_wp2_with fail
  refine (sameN (unhide IDt) (unhide IDa)).mono ?_
  rintro r v15 ⟨rfl, hb1⟩
  have b1 := (unhide B1).trans (hb1.mono (unhide B1).size)
  clear p0 p1 p2 q0 q1 q2 BXt IDt BXa IDa
  clear B1 hb1 
  have B1 := hide b1
  clear b1 
  go_wp2_with (go_at_call 13; refine (awake2_any _ (hT.all (unhide B1))).mono ?_; rintro e w9 ⟨rfl, hb2⟩)
  go_ret
  exact ⟨rfl, (unhide B1).trans (hb2.mono (unhide B1).size)⟩

end Go.Proofs.YtinlddkdkgepjaaDoor

/- A struct of a sign and limbs that came in, opened. -/
namespace Go.Proofs.YtinlddkdkgepjaaDoor
open Go.ChangeShapes Go.WideShapes Go.ChangeAt Go.RowKit Go.Joins

theorem Tryd.own : ownKnob Tryd.prog.godebug = none := by kernel_rfl
theorem Tryd.laidOut : laidOutB Tryd.prog = true := by kernel_rfl
theorem Tryd.cellsW : Tryd.prog.cellsOf 24 = 2 := by kernel_rfl
theorem Tryd.cellsU : Tryd.prog.cellsOf 53 = 1 := by kernel_rfl
theorem Tryd.bytesU : Tryd.prog.bytesOf 53 = 4 := by kernel_rfl

theorem bounds_of_u32 {x : Int} (h : (Lit.int .u32 x).wf = true) : 0 ≤ x ∧ x < 4294967296 := by
  simp [Lit.wf, IntKind.min, IntKind.max, IntKind.signed, IntKind.bits] at h
  omega

theorem limbs_of_ints {W : World} {a : Addr} {len cap : Nat} {zs : List Int} (hl : len ≤ cap) (hz : zs.length = cap) (hc : ∀ i, i < zs.length → W.cell? (a.add i) = some (.int .u32 (zs.getD i 0))) (hw : ∀ n ∈ zs, (Lit.int .u32 n).wf = true) :
    LimbsAt W (some a) cap ((zs.take len).map Int.toNat) ∧ ((zs.take len).map Int.toNat).length = len := by
  have hlen : ((zs.take len).map Int.toNat).length = len := by simp; omega
  refine ⟨⟨by omega, ?_, ?_⟩, hlen⟩
  · intro x hx
    obtain ⟨y, hy, rfl⟩ := List.mem_map.1 hx
    have := bounds_of_u32 (hw y (List.mem_of_mem_take hy))
    omega
  · rcases Nat.eq_zero_or_pos len with rfl | hp
    · left; simp
    · right
      obtain ⟨b, off, spot⟩ := a
      have h0 := hc 0 (by omega)
      have hspot : spot = none := by simpa [Addr.add] using World.cell?_spot h0
      subst hspot
      have hb : b < W.heap.size := by
        have := World.block_lt_of_cell? W _ h0
        simpa [Addr.add] using this
      refine ⟨b, off, rfl, hb, fun i hi => ?_⟩
      have h1 := hc i (by omega)
      have h2 : (0 : Int) ≤ zs[i]'(by omega) := (bounds_of_u32 (hw _ (List.getElem_mem _))).1
      have h3 : (⟨b, off, none⟩ : Addr).add i = ⟨b, off + i, none⟩ := by simp [Addr.add]
      rw [h3] at h1
      rw [h1]
      have e : ((zs.take len).map Int.toNat)[i]?.getD 0 = (zs[i]'(by omega)).toNat := by
        rw [List.getElem?_map, List.getElem?_take, if_pos (by omega), List.getElem?_eq_getElem (by omega)]; rfl
      rw [e, List.getD_eq_getElem?_getD, List.getElem?_eq_getElem (by omega)]
      simp only [Option.getD_some, Option.some.injEq, Value.int.injEq, true_and]
      omega

/-- A number that came in: its sign, its limbs, where they lie; by the row's own reach they are not too many. -/
theorem open_whole {H : Type} {enc : TypeId × Value → H} {W : World} {base : Nat} {v : Value} {d : DataW H} {p : List MemPlace} (hval : Value.okWide Tryd.prog W .any base 24 v) (h : DataW.Trod enc Tryd.prog W 0 (fun _ => true) true 24 v d p)
    (hs : ∀ n ∈ d.weights Tryd.prog 24, n ≤ reachBytes) :
    ∃ neg ao cap L, v = .agg #[.bool neg, .slice ao L.length cap] ∧ LimbsAt W ao cap L ∧ L.length ≤ 35184372087808 := by
  obtain ⟨c0, c1, y0, y1, m, rfl, rfl, rfl, hy0, hy1⟩ := open_agg2 Tryd.underlying24 (by kernel_rfl) Tryd.cellsW hval h
  obtain ⟨neg, e0, rfl⟩ := DataW.trod_bool Tryd.underlying4 hy0
  simp at e0
  subst e0
  rcases open_ints Tryd.underlying22 Tryd.underlying53 Tryd.cellsU hy1 with ⟨hcs, _⟩ | ⟨a, len, cap, zs, hcs, _, hl, hm, hz, rfl, hcell, hwz⟩
  · simp at hcs
    subst hcs
    exact ⟨neg, none, 0, [], rfl, LimbsAt.nil _ _ _, by simp⟩
  · simp at hcs
    subst hcs
    obtain ⟨h1, h2⟩ := limbs_of_ints hl (by simpa using hz) hcell hwz
    refine ⟨neg, some a, cap, _, by rw [h2], h1, ?_⟩
    have hk := hs ((zs.length) * 4) (by
      simp only [DataW.weights, Tryd.underlying24, DataW.weightsEach, List.map, Tryd.underlying22, List.nil_append, List.append_nil, List.mem_cons, Tryd.bytesU, lits, List.length_map, List.length_take, List.length_drop]
      left
      omega)
    simp only [reachBytes] at hk
    rw [h2]
    have : zs.length = cap := by simpa using hz
    omega

end Go.Proofs.YtinlddkdkgepjaaDoor

/- The bounds of an int or int64 that came in. -/
namespace Go.Proofs.YtinlddkdkgepjaaDoor

theorem bounds_of_i64 {x : Int} (h : (Lit.int .i64 x).wf = true) : -9223372036854775808 ≤ x ∧ x ≤ 9223372036854775807 := by
  simp [Lit.wf, IntKind.min, IntKind.max, IntKind.signed, IntKind.bits] at h
  omega

end Go.Proofs.YtinlddkdkgepjaaDoor

/- A dyadic number that came in, opened; the library's table, as the row lays it. -/
namespace Go.Proofs.YtinlddkdkgepjaaDoor
open Go.ChangeShapes Go.WideShapes Go.ChangeAt Go.RowKit Go.Joins

theorem Tryd.cellsD : Tryd.prog.cellsOf 26 = 3 := by kernel_rfl
theorem Tryd.cellsI : Tryd.prog.cellsOf 3 = 1 := by kernel_rfl
theorem Tryd.cellsB : Tryd.prog.cellsOf 4 = 1 := by kernel_rfl
theorem Tryd.cellsS : Tryd.prog.cellsOf 22 = 1 := by kernel_rfl

theorem Tryd.tabName : Tryd.prog.globalNamed "math/bits.deBruijn32tab" = some 0 := by kernel_rfl
theorem Tryd.tabType : (Tryd.prog.globals[0]?).map (·.type) = some 79 := by kernel_rfl
theorem Tryd.tabCells : Tryd.prog.cellsOf 79 = 32 := by kernel_rfl
theorem Tryd.byteCells : Tryd.prog.cellsOf 5 = 1 := by kernel_rfl

theorem tab_getD : ∀ j, j < Lib.deBruijn32tab.length → (List.map Int.ofNat Lib.deBruijn32tab).getD j 0 = ((Lib.deBruijn32tab.getD j 0 : Nat) : Int) := by decide

/-- What the rows' list gives: the table's cells. -/
theorem tab_of_laid {W : World} (h : laidMetH Tryd.prog [("math/bits.deBruijn32tab", Rows.laid_math_bits_deBruijn32tab)] W) : Tab W := by
  have ht := Lib.tabIs_of_head (zs := Lib.deBruijn32tab.map Int.ofNat) (rest := []) Tryd.tabName Tryd.tabType Tryd.underlying79 Tryd.underlying5 Tryd.byteCells Tryd.tabCells h
  intro j hj
  have := ht.cell Tryd.tabName j (by simpa using hj)
  rw [this]
  congr 2
  exact tab_getD j hj

/-- A dyadic number that came in. -/
theorem open_dyadic {H : Type} {enc : TypeId × Value → H} {W : World} {base : Nat} {v : Value} {d : DataW H} {p : List MemPlace} (hval : Value.okWide Tryd.prog W .any base 26 v) (h : DataW.Trod enc Tryd.prog W 0 (fun _ => true) true 26 v d p)
    (hs : ∀ n ∈ d.weights Tryd.prog 26, n ≤ reachBytes) :
    ∃ (neg : Bool) (ao : Option Addr) (cap : Nat) (L : List Nat) (e : Int), v = .agg #[.bool neg, .slice ao L.length cap, .int .i64 e] ∧ LimbsAt W ao cap L ∧ L.length ≤ 35184372087808 ∧ (-9223372036854775808 ≤ e ∧ e ≤ 9223372036854775807) := by
  obtain ⟨cs, rfl, hsz⟩ := okWide_struct Tryd.underlying26 hval
  obtain ⟨c0, c1, c2, rfl⟩ := array3 (hsz.trans Tryd.cellsD)
  obtain ⟨fuel, hf⟩ := h
  obtain ⟨y0, y1, n, hx, _, h0, h1⟩ := trod_struct2 Tryd.underlying26 hf
  simp only [Prod.mk.injEq] at hx
  obtain ⟨rfl, rfl⟩ := hx
  have h0' : DataW.trod enc Tryd.prog W 0 (fun _ => true) true n 24 [c0, c1] = some y0 := by simpa [Value.cells, Tryd.cellsW] using h0
  have h1' : DataW.trod enc Tryd.prog W 0 (fun _ => true) true n 3 [c2] = some y1 := by simpa [Value.cells, Tryd.cellsI] using h1
  clear h0 h1
  obtain ⟨e, e1, e2, we⟩ := DataW.trod_int Tryd.underlying3 h1'
  simp at e1
  subst e1
  obtain ⟨z0, z1, m, hz, _, g0, g1⟩ := trod_struct2 Tryd.underlying24 h0'
  subst hz
  have g0' : DataW.trod enc Tryd.prog W 0 (fun _ => true) true m 4 [c0] = some z0 := by simpa [Tryd.cellsB] using g0
  have g1' : DataW.trod enc Tryd.prog W 0 (fun _ => true) true m 22 [c1] = some z1 := by simpa [Tryd.cellsS] using g1
  clear g0 g1
  obtain ⟨neg, e0, _⟩ := DataW.trod_bool Tryd.underlying4 g0'
  simp at e0
  subst e0
  have be := bounds_of_i64 we
  rcases open_ints Tryd.underlying22 Tryd.underlying53 Tryd.cellsU g1' with ⟨hcs, _⟩ | ⟨a, len, cap, zs, hcs, _, hl, hm, hzz, rfl, hcell, hwz⟩
  · simp at hcs
    subst hcs
    exact ⟨neg, none, 0, [], e, rfl, LimbsAt.nil _ _ _, by simp, be⟩
  · simp at hcs
    subst hcs
    obtain ⟨l1, l2⟩ := limbs_of_ints hl (by simpa using hzz) hcell hwz
    refine ⟨neg, some a, cap, _, e, by rw [l2], l1, ?_, be⟩
    have hk := hs ((zs.length) * 4) (by
      simp only [DataW.weights, Tryd.underlying26, Tryd.underlying24, DataW.weightsEach, List.map, Tryd.underlying22, List.append_nil, List.mem_cons, List.mem_append, Tryd.bytesU, lits, List.length_map, List.length_take, List.length_drop]
      refine .inl (.inr (.inl ?_))
      have : zs.length = cap := by simpa using hzz
      omega)
    simp only [reachBytes] at hk
    rw [l2]
    have : zs.length = cap := by simpa using hzz
    omega

end Go.Proofs.YtinlddkdkgepjaaDoor

namespace Go.Proofs.YtinlddkdkgepjaaDoor
open Go.ChangeShapes Go.WideShapes Go.ChangeAt Go.RowKit

set_option maxRecDepth 100000 in
theorem dyadicLaws_contract (H : Type) (enc : TypeId × Value → H) (W : World) (base : Nat) (args : Array Value) (ds gs : List (DataW H)) (before : List MemPlace)
    (hval : ∀ (j : Nat) t v, Tryd.f8.params[j]? = some t → args[j]? = some v → Value.okWide Tryd.prog W .any base t v)
    (hW : DataW.Whole enc Tryd.prog Tryd.f8.params.toList Rows.dyadicLawsSpec.vars false W args.toList ds gs before)
    (hsz0 : (DataW.weightsEach Tryd.prog (Tryd.f8.params.toList ++ (OpenSpec.ofChange Rows.dyadicLawsSpec).bare.plain.varTypes Tryd.prog) (ds ++ gs)).all (· ≤ reachBytes) = true) (hLd : laidMetH Tryd.prog Rows.dyadicLawsRow.laid W) :
    Calls Tryd.prog 8 args W fun e W' => ∃ v, e = .returned v ∧ Rows.dyadicLawsSpec.post enc Tryd.prog Tryd.f8 false true false false W args v W' := by
  have hT : Tab W := tab_of_laid hLd
  have hsz : (DataW.weightsEach Tryd.prog (Tryd.f8.params.toList ++ (OpenSpec.ofChange Rows.dyadicLawsSpec).bare.plain.varTypes Tryd.prog) (ds ++ gs)).all (· ≤ reachBytes) = true := hsz0
  have hW' := hW
  obtain ⟨p, q, hA0, hV, rfl, hfz, hnd⟩ := hW
  have hA : DataW.TrodAll enc Tryd.prog W 0 (fun _ => true) true Tryd.f8.params.toList args.toList ds p := hA0
  rw [Tryd.params8] at hA hval hsz
  obtain ⟨v0, vs0, d0, ds0, p0, q0, hargs, rfl, rfl, h0, r0⟩ := trodAll_cons hA
  obtain ⟨v1, vs1, d1, ds1, p1, q1, rfl, rfl, rfl, h1, r1⟩ := trodAll_cons r0
  obtain ⟨v2, vs2, d2, ds2, p2, q2, rfl, rfl, rfl, h2, r2⟩ := trodAll_cons r1
  obtain ⟨rfl, rfl, rfl⟩ := trodAll_nil r2
  obtain rfl : args = #[v0, v1, v2] := by cases args; simp_all
  obtain ⟨rfl, rfl⟩ := trodVars_none hV
  have k0 := h0
  have lt0 : ∀ x ∈ p0, x.block < W.heap.size := by obtain ⟨m, hm⟩ := k0; exact DataW.trod_lt m _ _ _ hm
  obtain ⟨n0, a0, c0, L0, x0, rfl, hL0, hl0, w0⟩ := open_dyadic (hval 0 26 v0 rfl rfl) h0 (fun n hn => of_decide_eq_true (List.all_eq_true.1 hsz n (DataW.weights_mem_each (j := 0) rfl rfl n hn)))
  have k1 := h1
  have lt1 : ∀ x ∈ p1, x.block < W.heap.size := by obtain ⟨m, hm⟩ := k1; exact DataW.trod_lt m _ _ _ hm
  obtain ⟨n1, a1, c1, L1, x1, rfl, hL1, hl1, w1⟩ := open_dyadic (hval 1 26 v1 rfl rfl) h1 (fun n hn => of_decide_eq_true (List.all_eq_true.1 hsz n (DataW.weights_mem_each (j := 1) rfl rfl n hn)))
  have k2 := h2
  have lt2 : ∀ x ∈ p2, x.block < W.heap.size := by obtain ⟨m, hm⟩ := k2; exact DataW.trod_lt m _ _ _ hm
  obtain ⟨n2, a2, c2, L2, x2, rfl, hL2, hl2, w2⟩ := open_dyadic (hval 2 26 v2 rfl rfl) h2 (fun n hn => of_decide_eq_true (List.all_eq_true.1 hsz n (DataW.weights_mem_each (j := 2) rfl rfl n hn)))
  clear hA0
  refine (dlaws_walk n0 n1 n2 a0 a1 a2 c0 c1 c2 L0 L1 L2 x0 x1 x2 W hL0 hL1 hL2 (by omega) (by omega) (by omega) w0 w1 w2 hT).mono fun e W' ⟨he, bel⟩ => ?_
  subst he
  exact ⟨_, rfl, _, _, _, [], _, [], hW', trodAll_mk1 (shut_bool Tryd.underlying4 _), trodAll_cons_mk (Below.trod Tryd.laidOut (by kernel_rfl) (of_decide_eq_true (by kernel_rfl)) k0 bel lt0) (trodAll_cons_mk (Below.trod Tryd.laidOut (by kernel_rfl) (of_decide_eq_true (by kernel_rfl)) k1 bel lt1) (trodAll_cons_mk (Below.trod Tryd.laidOut (by kernel_rfl) (of_decide_eq_true (by kernel_rfl)) k2 bel lt2) (trodAll_mk0))), rfl, bel.frame _, fun h => by cases h⟩

/-- A world for the witness: the table holds what its initialiser lays. -/
noncomputable def dyadicLaws_world (os : Os) : World :=
  { World.holding Tryd.prog os ⟨#[], #[], []⟩ with heap := (World.holding Tryd.prog os ⟨#[], #[], []⟩).heap.modify 0 fun
      | .cells _ t frozen => .cells (Lib.deBruijn32tab.map fun z : Nat => Value.int .u8 (z : Int)).toArray t frozen
      | o => o }
theorem dyadicLaws_met (os : Os) : laidMet Tryd.prog Rows.dyadicLawsRow.laid ((dyadicLaws_world os).forCall (fun _ _ => 0) ⟨#[], #[.agg #[.bool false, .slice none 0 0, .int .i64 0], .agg #[.bool false, .slice none 0 0, .int .i64 0], .agg #[.bool false, .slice none 0 0, .int .i64 0]], []⟩).memory :=
  laidMet_of_run' 8 (by kernel_rfl) (by kernel_rfl)
theorem dyadicLaws_reads (os : Os) {H : Type} (enc : TypeId × Value → H) : ∃ places, DataW.whole enc Tryd.prog ((dyadicLaws_world os).forCall (fun _ _ => 0) ⟨#[], #[.agg #[.bool false, .slice none 0 0, .int .i64 0], .agg #[.bool false, .slice none 0 0, .int .i64 0], .agg #[.bool false, .slice none 0 0, .int .i64 0]], []⟩).memory Tryd.f8.params.toList Rows.dyadicLawsSpec.vars false #[.agg #[.bool false, .slice none 0 0, .int .i64 0], .agg #[.bool false, .slice none 0 0, .int .i64 0], .agg #[.bool false, .slice none 0 0, .int .i64 0]].toList 8 = some ([.agg [.agg [.lit (.bool false), .nil], .lit (.int .i64 0)], .agg [.agg [.lit (.bool false), .nil], .lit (.int .i64 0)], .agg [.agg [.lit (.bool false), .nil], .lit (.int .i64 0)]], [], places) :=
  ⟨[], by kernel_rfl⟩

set_option maxRecDepth 100000 in
theorem dyadicLaws_lifted (os : Os) (started : os.Started) (H : Type) (enc : TypeId × Value → H) (F : Stop.Interp) :
    ReturnsInHanded {} Tryd.checked os 8 .any ((OpenSpec.ofChange Rows.dyadicLawsSpec).preRow enc Tryd.prog Tryd.f8 Rows.dyadicLawsRow.domain false Rows.dyadicLawsRow.laid) (((OpenSpec.ofChange Rows.dyadicLawsSpec).at F).post enc Tryd.prog Tryd.f8 false true false false) := by
  obtain ⟨places, hx⟩ := dyadicLaws_reads os enc
  refine returnsInHanded_of_row (C := Tryd.checked) (s := OpenSpec.ofChange Rows.dyadicLawsSpec) Tryd.own started (by kernel_rfl) Tryd.func8
    (witness_row_at (enc := enc) (C := Tryd.checked) false (dyadicLaws_world os) #[.agg #[.bool false, .slice none 0 0, .int .i64 0], .agg #[.bool false, .slice none 0 0, .int .i64 0], .agg #[.bool false, .slice none 0 0, .int .i64 0]] rfl (by kernel_rfl) (by kernel_rfl) (by kernel_rfl)
      (OpenSpec.preRow_of_cond 8 hx (by kernel_rfl) (fun k hk => by cases hk) (by kernel_rfl) (dyadicLaws_met os))) ?_
  intro W base args ds gs before hval hW _ _ hsz hL _ _
  exact dyadicLaws_contract H enc W base args ds gs before hval hW hsz hL

theorem dyadicLaws_said : Rows.DyadicLawsSaid :=
  OpenClaim.holds_of_cond 8 Tryd.f8 rfl rfl rfl rfl rfl rfl rfl ⟨rfl, rfl, rfl, rfl, rfl⟩ rfl rfl rfl rfl rfl (by kernel_rfl) Tryd.func8 (by kernel_rfl)
    (of_decide_eq_true (by kernel_rfl)) (by unfold Func.isWrapper; first | (rw [if_pos (by decide +kernel)]; kernel_rfl) | (rw [if_neg (by decide +kernel)]; exact ⟨rfl, rfl⟩))
    (fun os started H enc _ F => by rw [OpenClaim.pre_eq_preRow]; exact dyadicLaws_lifted os started H enc F)

theorem dyadicLaws_plain (f : FuncId) (fn : Func) (hf : Tryd.pinned.checked.prog.funcNamed "dioptra/dioptralaw02.DyadicLaws" = some f) (hfn : Tryd.pinned.checked.prog.funcs[f]? = some fn) :
    false = Tryd.pinned.checked.prog.looks [] ∧ ∀ (j : Nat) t, fn.params[j]? = some t → Tryd.pinned.checked.prog.wantsStandIn t = false := by
  obtain rfl : f = 8 := Option.some.inj ((show Tryd.prog.funcNamed "dioptra/dioptralaw02.DyadicLaws" = some 8 by kernel_rfl).symm.trans hf) |>.symm
  obtain rfl : fn = Tryd.f8 := (Option.some.inj (Tryd.func8.symm.trans hfn)).symm
  refine ⟨by kernel_rfl, fun j t ht => ?_⟩
  rw [Tryd.params8] at ht
  have hm : t ∈ [26, 26, 26] := by simpa using Array.mem_of_getElem? ht
  have hall : ([26, 26, 26].all fun u => !Tryd.prog.wantsStandIn u) = true := by kernel_rfl
  exact (show Tryd.prog.wantsStandIn t = false by simpa using List.all_eq_true.1 hall t hm)

/-- The statement: the row, with the library's table tied to the program's text. -/
theorem dyadicLaws_card : Rows.DyadicLawsCardSaid :=
  Claim7.holds_tied_plain_at .later [] _ _ _ _ dyadicLaws_said (fun _ h => by cases h) (by kernel_rfl) (fun _ h => by cases h) dyadicLaws_row_tie rfl ⟨rfl, rfl⟩ (by kernel_rfl) rfl dyadicLaws_plain (by kernel_rfl)
#print axioms dyadicLaws_card

end Go.Proofs.YtinlddkdkgepjaaDoor

