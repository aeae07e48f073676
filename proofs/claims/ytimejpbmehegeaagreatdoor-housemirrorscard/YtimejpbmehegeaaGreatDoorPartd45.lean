/- Part 45 of the texts. -/
import Derived.Test.YtimejpbmehegeaaGreatDoorPartd44
import Derived.Test.YtimejpbmehegeaaGreatDoorPartd37
import Derived.Test.YtimejpbmehegeaaGreatDoorPartd42
import Derived.Test.YtimejpbmehegeaaGreatDoorPartd30
import Derived.Test.YtimejpbmehegeaaGreatDoorPartd43
import Derived.Test.YtimejpbmehegeaaGreatDoorPartd41
/- GivensRight by what givens.Turn answers. -/
namespace Go.Proofs.YtimejpbmehegeaaGreatDoor
open Go.RowKit
attribute [local go_sem ↓] Go.wp_at_zero Go.wp_at_succ
theorem add_lt12 {x y : Int} {n : Nat} (hx : x.natAbs < 2 ^ n) (hy : y.natAbs < 2 ^ n) : (x + y).natAbs < 2 ^ (n + 1) := by
  rw [Nat.pow_succ]
  omega
theorem pow_lt12 {z : Nat} {m n : Nat} (h : z < 2 ^ m) (hmn : m ≤ n) : z < 2 ^ n := Nat.lt_of_lt_of_le h (Nat.pow_le_pow_right (by decide) hmn)

end Go.Proofs.YtimejpbmehegeaaGreatDoor

/- The law HouseRight, walked by what house.Make answers (mkhl.py). -/
namespace Go.Proofs.YtimejpbmehegeaaGreatDoor
open Go.RowKit
attribute [local go_sem ↓] Go.wp_at_zero Go.wp_at_succ
theorem one_bits (w : World) (a : Nat) (ha : a < 18446744073709551616) : BitsAt (w.alloc (.cells #[.int .u64 (a : Nat)] 24)) (some ⟨w.heap.size, 0, none⟩) 1 [(a : Int)] := by
  have h : RowB (w.alloc (.cells #[.int .u64 (a : Nat)] 24)) w.heap.size [a] := heap_alloc_new w _
  exact h.bits (fun x hx => by simp at hx; subst hx; exact ha)

end Go.Proofs.YtimejpbmehegeaaGreatDoor

/- HouseRight by what house.Make answers. -/
namespace Go.Proofs.YtimejpbmehegeaaGreatDoor
open Go.RowKit
attribute [local go_sem ↓] Go.wp_at_zero Go.wp_at_succ
theorem sq_one13 (B : Nat) : sqK [(B : Int)] 1 = fZ B * fZ B := by
  show 0 + fZ (atB [(B : Int)] 0) * fZ (atB [(B : Int)] 0) = _
  rw [Int.zero_add]
  rfl
end Go.Proofs.YtimejpbmehegeaaGreatDoor

/- The law HouseMirrors, walked by what house.Make and house.Apply answer (mkhq.py). -/
namespace Go.Proofs.YtimejpbmehegeaaGreatDoor
open Go.RowKit
attribute [local go_sem ↓] Go.wp_at_zero Go.wp_at_succ

set_option maxRecDepth 20000 in
set_option maxHeartbeats 4000000 in
theorem houseMirrors_no (n c : Nat) (xo : Option Addr) (b : Bool) (w : World) (hn : n ≤ 35184372088830) (h : n = 0 ∨ 6 < n ∨ (1 ≤ n ∧ n ≤ 6 ∧ b = false))
    (C1 : ∀ w', Below w.heap.size w w' → Calls Tryz.prog 19 #[.slice xo n c, .int .i64 200] w' fun e w'' => e = .returned (.bool b) ∧ Below w'.heap.size w' w'')
    (CA : ∀ w', Below w.heap.size w w' → Calls Tryz.prog 12 #[] w' fun e w'' => e = .returned (.bool true) ∧ Below w'.heap.size w' w'') :
    Calls Tryz.prog 6 #[.slice xo n c] w fun e w' => e = .returned (.bool true) ∧ Below w.heap.size w w' := by
  have K1 := hide C1; have KA := hide CA
  have BB := hide (Below.refl w.heap.size w)
  clear C1 CA
  rcases h with rfl | h | ⟨h1, h2, rfl⟩
  · go_enter Tryz.func6, Tryz.ntmps6
    go_wp2_with fail
    refine (unhide KA _ (unhide BB)).mono ?_
    rintro e w8 ⟨rfl, hb⟩
    replace BB := hide ((unhide BB).trans (hb.mono (unhide BB).size))
    clear hb KA
    go_wp2
    go_ret
    exact ⟨rfl, unhide BB⟩
  · have hI : (6 : Int) < (n : Int) := by omega
    have hI0 : ¬ (n : Int) = 0 := by omega
    go_enter Tryz.func6, Tryz.ntmps6
    go_wp2_with fail
    refine (unhide KA _ (unhide BB)).mono ?_
    rintro e w8 ⟨rfl, hb⟩
    replace BB := hide ((unhide BB).trans (hb.mono (unhide BB).size))
    clear hb KA
    go_wp2
    go_ret
    exact ⟨rfl, unhide BB⟩
  · have hI : (n : Int) ≤ 6 := by omega
    have hI0 : ¬ (n : Int) = 0 := by omega
    go_enter Tryz.func6, Tryz.ntmps6
    go_wp2_with fail
    refine (unhide K1 _ (unhide BB)).mono ?_
    rintro e w2 ⟨rfl, hb⟩
    replace BB := hide ((unhide BB).trans (hb.mono (unhide BB).size))
    clear hb K1
    go_wp2_with fail
    refine (unhide KA _ (unhide BB)).mono ?_
    rintro e w8 ⟨rfl, hb⟩
    replace BB := hide ((unhide BB).trans (hb.mono (unhide BB).size))
    clear hb KA
    go_wp2
    go_ret
    exact ⟨rfl, unhide BB⟩

set_option maxRecDepth 20000 in
set_option maxHeartbeats 8000000 in
theorem houseMirrors_ok (n c T B : Nat) (xo : Option Addr) (V X Y Z E : List Nat) (lo1 z1 lo2 z2 : Int) (w : World) (h1 : 1 ≤ n) (h2 : n ≤ 6) (hB : B < 18446744073709551616)
    (C1 : ∀ w', Below w.heap.size w w' → Calls Tryz.prog 19 #[.slice xo n c, .int .i64 200] w' fun e w'' => e = .returned (.bool true) ∧ Below w'.heap.size w' w'')
    (C2 : ∀ w', Below w.heap.size w w' → Calls Tryz.prog 8 #[.slice xo n c] w' fun e w'' => ∃ vo vc, e = .returned (.tuple #[.slice vo n vc, .int .u64 (T : Nat), .int .u64 (B : Nat), .int .i64 0]) ∧ BitsAt w'' vo vc (mxL V) ∧ Below w'.heap.size w' w'')
    (C3 : ∀ w' vo vc, Below w.heap.size w w' → BitsAt w' vo vc (mxL V) → Calls Tryz.prog 14 #[.agg #[.int .i64 n, .int .i64 1, .slice xo n c], .int .i64 0, .int .i64 0, .slice vo n vc, .int .u64 T] w' fun e w'' => ∃ po pc, e = .returned (.tuple #[.agg #[.int .i64 n, .int .i64 1, .slice po n pc], .int .i64 0]) ∧ BitsAt w'' po pc (mxL X) ∧ Below w'.heap.size w' w'')
    (C4 : ∀ w' po pc, BitsAt w' po pc (mxL X) → Calls Tryz.prog 32 #[.agg #[.int .i64 n, .int .i64 1, .slice po n pc]] w' fun e w'' => e = .returned (.int .i64 0) ∧ Below w'.heap.size w' w'')
    (C5 : ∀ w', Calls Tryz.prog 34 #[.int .i64 n, .int .i64 1] w' fun e w'' => ∃ zo zc, e = .returned (.agg #[.int .i64 n, .int .i64 1, .slice zo n zc]) ∧ BitsAt w'' zo zc (mxL Z) ∧ Below w'.heap.size w' w'')
    (C6 : ∀ w' zo zc, BitsAt w' zo zc (mxL Z) → Calls Tryz.prog 33 #[.agg #[.int .i64 n, .int .i64 1, .slice zo n zc], .int .i64 0, .int .i64 0, .int .u64 B] w' fun e w'' => ∃ qo qc, e = .returned (.agg #[.int .i64 n, .int .i64 1, .slice qo n qc]) ∧ BitsAt w'' qo qc (mxL Y) ∧ Below w'.heap.size w' w'')
    (C7 : ∀ w', Calls Tryz.prog 37 #[.int .i64 1] w' fun e w'' => ∃ eo ec, e = .returned (.agg #[.int .i64 1, .int .i64 1, .slice eo 1 ec]) ∧ BitsAt w'' eo ec (mxL E) ∧ Below w'.heap.size w' w'')
    (C8 : ∀ w' po pc qo qc eo ec, BitsAt w' po pc (mxL X) → BitsAt w' qo qc (mxL Y) → BitsAt w' eo ec (mxL E) → Calls Tryz.prog 36 #[.agg #[.int .i64 n, .int .i64 1, .slice po n pc], .agg #[.int .i64 n, .int .i64 1, .slice qo n qc], .agg #[.int .i64 1, .int .i64 1, .slice eo 1 ec]] w' fun e w'' => ∃ v, e = .returned v ∧ IsLv w'' v lo1 z1 ∧ Below w'.heap.size w' w'')
    (C9 : ∀ w' ao, BitsAt w' ao 1 [(B : Int)] → Calls Tryz.prog 25 #[.slice ao 1 1] w' fun e w'' => ∃ v, e = .returned v ∧ IsLv w'' v lo2 z2 ∧ Below w'.heap.size w' w'')
    (C10 : ∀ w' v u, IsLv w' v lo1 z1 → IsLv w' u lo2 z2 → Calls Tryz.prog 35 #[v, u, .int .i64 40] w' fun e w'' => e = .returned (.bool true) ∧ Below w'.heap.size w' w'')
    (CA : ∀ w', Below w.heap.size w w' → Calls Tryz.prog 12 #[] w' fun e w'' => e = .returned (.bool true) ∧ Below w'.heap.size w' w'') :
    Calls Tryz.prog 6 #[.slice xo n c] w fun e w' => e = .returned (.bool true) ∧ Below w.heap.size w w' := by
  have K1 := hide C1; have K2 := hide C2; have K3 := hide C3; have K4 := hide C4; have K5 := hide C5; have K6 := hide C6; have K7 := hide C7; have K8 := hide C8; have K9 := hide C9; have K10 := hide C10; have KA := hide CA; have HB := hide hB
  have BB := hide (Below.refl w.heap.size w)
  have hI : (n : Int) ≤ 6 := by omega
  have hI0 : ¬ (n : Int) = 0 := by omega
  have q1 : ((n : Int) == 0) = false := by simp; omega
  have q2 : decide ((6 : Int) < (n : Int)) = false := decide_eq_false (by omega)
  have q3 : decide (6 < n) = false := decide_eq_false (by omega)
  clear C1 C2 C3 C4 C5 C6 C7 C8 C9 C10 CA hB
  go_enter Tryz.func6, Tryz.ntmps6
  go_wp2_with fail
  refine (unhide K1 _ (unhide BB)).mono ?_
  rintro e w1 ⟨rfl, hb⟩
  replace BB := hide ((unhide BB).trans (hb.mono (unhide BB).size))
  clear hb K1
  go_wp2_with fail
  refine (unhide K2 _ (unhide BB)).mono ?_
  rintro e w2 ⟨vo, vc, rfl, bv, hb⟩
  have ba := below_alloc9 w2 (.cells #[.int .i64 n, .int .i64 1, .slice xo n c] 36)
  have hbb := hb.trans (ba.mono hb.size)
  replace BB := hide ((unhide BB).trans (hbb.mono (unhide BB).size))
  have BV := hide (bv.below ba)
  have XM := BoxM.new w2 (.int .i64 n) (.int .i64 1) (.slice xo n c)
  have y0 := XM.c0; have y1 := XM.c1; have y2 := XM.c2
  clear hb ba hbb bv K2 XM
  go_wp2_with fail
  refine (unhide K3 _ _ _ (unhide BB) (unhide BV)).mono ?_
  rintro e w3 ⟨po, pc, rfl, bx, hb⟩
  have ba := below_alloc9 w3 (.cells #[.int .i64 n, .int .i64 1, .slice po n pc] 36)
  have hbb := hb.trans (ba.mono hb.size)
  replace BB := hide ((unhide BB).trans (hbb.mono (unhide BB).size))
  have XX := hide (And.intro (BoxM.new w3 (.int .i64 n) (.int .i64 1) (.slice po n pc)) (bx.below ba))
  clear hb ba hbb bx K3 BV y0 y1 y2
  have y0 := (unhide XX).1.c0; have y1 := (unhide XX).1.c1; have y2 := (unhide XX).1.c2
  go_wp2_with fail
  generalize w3.heap.size = gx at *
  refine (unhide K4 _ _ _ (unhide XX).2).mono ?_
  rintro e w4 ⟨rfl, hb⟩
  replace BB := hide ((unhide BB).trans (hb.mono (unhide BB).size))
  replace XX := hide (And.intro ((unhide XX).1.all hb) ((unhide XX).2.below hb))
  clear hb K4 y0 y1 y2
  go_wp2_with fail
  refine (unhide K5 _).mono ?_
  rintro e w5 ⟨zo, zc, rfl, bz, hb⟩
  replace BB := hide ((unhide BB).trans (hb.mono (unhide BB).size))
  replace XX := hide (And.intro ((unhide XX).1.all hb) ((unhide XX).2.below hb))
  have BZ := hide bz
  clear hb K5 bz
  go_wp2_with fail
  refine (unhide K6 _ _ _ (unhide BZ)).mono ?_
  rintro e w6 ⟨qo, qc, rfl, bq, hb⟩
  have ba := below_alloc9 w6 (.cells #[.int .i64 n, .int .i64 1, .slice qo n qc] 36)
  have hbb := hb.trans (ba.mono hb.size)
  replace BB := hide ((unhide BB).trans (hbb.mono (unhide BB).size))
  replace XX := hide (And.intro ((unhide XX).1.all hbb) ((unhide XX).2.below hbb))
  have QQ := hide (And.intro (BoxM.new w6 (.int .i64 n) (.int .i64 1) (.slice qo n qc)) (bq.below ba))
  clear hb ba hbb bq K6 BZ
  go_wp2_with fail
  generalize w6.heap.size = gq at *
  refine at_world (fun W => Below w.heap.size w W ∧ (BoxM W gx (.int .i64 n) (.int .i64 1) (.slice po n pc) ∧ BitsAt W po pc (mxL X)) ∧ (BoxM W gq (.int .i64 n) (.int .i64 1) (.slice qo n qc) ∧ BitsAt W qo qc (mxL Y))) ⟨unhide BB, unhide XX, unhide QQ⟩ ?_
  clear BB XX QQ
  rintro W0 ⟨bb, ⟨x1, v1⟩, ⟨x2, v2⟩⟩
  have HK := hide (fun w' (h : Below W0.heap.size W0 w') => (show Below W0.heap.size W0 w' ∧ (w'.cell? ⟨gx, 0, none⟩ = some (.int .i64 n) ∧ w'.cell? ⟨gx, 1, none⟩ = some (.int .i64 1) ∧ w'.cell? ⟨gx, 2, none⟩ = some (.slice po n pc)) ∧ (w'.cell? ⟨gq, 0, none⟩ = some (.int .i64 n) ∧ w'.cell? ⟨gq, 1, none⟩ = some (.int .i64 1) ∧ w'.cell? ⟨gq, 2, none⟩ = some (.slice qo n qc)) from ⟨h, ⟨(x1.all h).c0, (x1.all h).c1, (x1.all h).c2⟩, (x2.all h).c0, (x2.all h).c1, (x2.all h).c2⟩))
  have HW := hide (fun w' (h : Below W0.heap.size W0 w') => bb.trans (h.mono bb.size))
  have HX := hide (fun w' (h : Below W0.heap.size W0 w') => v1.below h)
  have HQ := hide (fun w' (h : Below W0.heap.size W0 w') => v2.below h)
  clear bb x1 v1 x2 v2
  obtain ⟨E1, hE1⟩ : ∃ E1, oE z1 lo1 = E1 := ⟨_, rfl⟩
  obtain ⟨E2, hE2⟩ : ∃ E2, oE z2 lo2 = E2 := ⟨_, rfl⟩
  have H1 := hide hE1; have H2 := hide hE2
  clear hE1 hE2
  go_region_held3 (fun w' => Below W0.heap.size W0 w' ∧ (w'.cell? ⟨gx, 0, none⟩ = some (.int .i64 n) ∧ w'.cell? ⟨gx, 1, none⟩ = some (.int .i64 1) ∧ w'.cell? ⟨gx, 2, none⟩ = some (.slice po n pc)) ∧ (w'.cell? ⟨gq, 0, none⟩ = some (.int .i64 n) ∧ w'.cell? ⟨gq, 1, none⟩ = some (.int .i64 1) ∧ w'.cell? ⟨gq, 2, none⟩ = some (.slice qo n qc)))
    (first | exact unhide HK _ (Below.refl _ _).drew | exact unhide HK _ (by assumption) | exact unhide HK _ (Below.trans (And.left (by assumption)) ((below_alloc9 _ _).mono (Below.size (And.left (by assumption))))) | fail "KK")
    (first
      | (go_at_call 37; refine (unhide K7 _).mono ?_; rintro e wa ⟨eo, ec, rfl, be, hb1⟩; have hBa : Below W0.heap.size W0 wa := Below.trans (And.left (by assumption)) (hb1.mono (Below.size (And.left (by assumption)))); have HE := hide hb1; have BE := hide be; clear hb1 be)
      | (go_at_call 36; refine (unhide K8 _ _ _ _ _ _ _ (unhide HX _ (And.left (by assumption))) (unhide HQ _ (And.left (by assumption))) (by first | exact unhide BE | exact (unhide BE).below (below_alloc9 _ _))).mono ?_; rintro e wb ⟨v, rfl, ⟨n5, a5, c5, L5, rfl, i5⟩, hb1⟩; have hBb : Below W0.heap.size W0 wb := Below.trans (And.left (by assumption)) (hb1.mono (Below.size (And.left (by assumption)))); have Q5 := hide (show IsLv wb (.agg #[.bool n5, .slice a5 L5.length c5, .int .i64 (oE z1 lo1)]) lo1 z1 from ⟨n5, a5, c5, L5, rfl, i5⟩); have HR := hide hb1; clear hb1 i5 BE; generalize L5.length = l5 at *; rw [unhide H1]; rw [unhide H1] at Q5)
      | (go_at_call 25; refine (unhide K9 _ _ (by first | exact (((one_bits W0 B (unhide HB)).below ((Below.refl _ _).drew)).below (unhide HE)).below (unhide HR) | exact ((one_bits _ _ (unhide HB)).below (unhide HE)).below (unhide HR) | exact (one_bits _ _ (unhide HB)).below (unhide HR) | exact one_bits _ _ (unhide HB))).mono ?_; rintro e wc ⟨v, rfl, ⟨n6, a6, c6, L6, rfl, i6⟩, hb1⟩; have hBc : Below W0.heap.size W0 wc := Below.trans (And.left (by assumption)) (hb1.mono (Below.size (And.left (by assumption)))); have Q6 := hide (show IsLv wc (.agg #[.bool n6, .slice a6 L6.length c6, .int .i64 (oE z2 lo2)]) lo2 z2 from ⟨n6, a6, c6, L6, rfl, i6⟩); have Q5' := hide (show IsLv wc (.agg #[.bool n5, .slice a5 l5 c5, .int .i64 E1]) lo1 z1 from by first | exact (unhide Q5).below hb1 | exact ((unhide Q5).below (below_alloc9 _ _)).below hb1); clear hb1 i6 Q5; generalize L6.length = l6 at *; rw [unhide H2]; rw [unhide H2] at Q6)
      | (go_at_call 35; refine (unhide K10 _ _ _ (unhide Q5') (unhide Q6)).mono ?_; rintro e wd ⟨rfl, hb1⟩; have hBd : Below W0.heap.size W0 wd := Below.trans (And.left (by assumption)) (hb1.mono (Below.size (And.left (by assumption)))); clear hb1 Q5' Q6)
      | (go_at_call 12; refine (unhide KA _ (unhide HW _ (And.left (by assumption)))).mono ?_; rintro e we ⟨rfl, hb1⟩; have hBe : Below W0.heap.size W0 we := Below.trans (And.left (by assumption)) (hb1.mono (Below.size (And.left (by assumption)))); clear hb1)
      | fail "NO ARM")
  all_goals
    have hn : Below W0.heap.size W0 we := And.left (by assumption)
    go_wp2_with fail
    go_ret
    exact ⟨rfl, unhide HW _ hn⟩

end Go.Proofs.YtimejpbmehegeaaGreatDoor

/- HouseMirrors by what house.Make and house.Apply answer. -/
namespace Go.Proofs.YtimejpbmehegeaaGreatDoor
open Go.RowKit

theorem rof13 (w : World) (v : Value) (h : IsNum 0 w v 1) : Calls Tryz.prog 63 #[v, .int .i64 (-4000)] w fun e w' => ∃ u, e = .returned u ∧ IsLv w' u (-4000) 1 ∧ Below w.heap.size w w' := by
  refine (rof_small (-4000) (h.toM one_TOP11) (by decide) (by decide)).mono ?_
  rintro e w' ⟨u, rfl, hu, hb⟩
  exact ⟨u, rfl, hu, hb⟩

theorem pow_abs13 {m n : Nat} (h : m < n) : ((2 : Int) ^ m).natAbs < 2 ^ n := by
  rw [Int.natAbs_pow]
  exact Nat.pow_lt_pow_right (by decide) h

theorem add_ltV13 {p q : Int} {m V : Nat} (h : m + 1 ≤ V) (hp : p.natAbs < 2 ^ m) (hq : q.natAbs < 2 ^ m) : (p + q).natAbs < 2 ^ V := pow_lt12 (add_lt12 hp hq) h

/-- The reference's Within, at the levels of a residual and of a square. -/
theorem rwithin13 {w : World} {v u : Value} {z1 z2 : Int} (hv : IsLv w v (-4296) z1) (hu : IsLv w u (-2148) z2) (l1 : z1.natAbs < 2 ^ 6300) (l2 : z2.natAbs < 2 ^ 4203) (h : z1 ≤ z2 * 2 ^ 2068 + 2 ^ 296) :
    Calls Tryz.prog 35 #[v, u, .int .i64 40] w fun e w' => e = .returned (.bool true) ∧ Below w.heap.size w w' := by
  have hv0 := hv; have hu0 := hu
  obtain ⟨na, ao, ca, A, rfl, _⟩ := hv
  obtain ⟨nb, bo, cb, B, rfl, _⟩ := hu
  have lz : (z2 * 2 ^ 2068).natAbs < 2 ^ 6300 := up_ltV (j := 4203) (k := 2068) (V := 6300) (by decide) l2
  have lo : ((2 : Int) ^ 296).natAbs < 2 ^ 6300 := pow_abs13 (m := 296) (n := 6300) (by decide)
  have ls : (z2 * 2 ^ 2068 + 2 ^ 296).natAbs < 2 ^ 6301 := add_ltV13 (m := 6300) (V := 6301) (by decide) lz lo
  have := rWithin_of na nb ao bo A.length B.length ca cb (oE z1 (-4296)) (oE z2 (-2148)) 40 (oM z2) (oE z2 (-2228)) (oM 1) (oE 1 (-4000)) (oM (z2 * 2 ^ 2068 + 2 ^ 296)) (oE (z2 * 2 ^ 2068 + 2 ^ 296) (-4296)) (cmpI z1 (z2 * 2 ^ 2068 + 2 ^ 296)) w (by decide)
    (fun w' hb => rscaleL (-80) (hu0.below hb) (W := 4203) ⟨l2, by decide, by decide, by decide⟩ (by decide))
    (fun w' v h => rof13 w' v h)
    (fun w' v u h1 h2 => ?_) (fun w' v hb h1 => ?_)
  · rw [decide_eq_true ((cmpI_le11 _ _).2 h)] at this
    exact this
  · have k1 := IsLv.lower (show IsLv w' v (-2228) z2 from h1) 2068
    have k2 := IsLv.lower (show IsLv w' u (-4000) 1 from h2) 296
    rw [show (-2228 : Int) - ((2068 : Nat) : Int) = -4296 by decide] at k1
    rw [show (-4000 : Int) - ((296 : Nat) : Int) = -4296 by decide, Int.one_mul] at k2
    exact raddL k1 k2 (W := 6300) ⟨lz, by decide, by decide, by decide⟩ ⟨lo, by decide, by decide, by decide⟩
  · exact rcmpN (hv0.below hb) h1 (W := 6301) ⟨pow_lt12 (m := 6300) (n := 6301) l1 (by decide), by decide, by decide, by decide⟩ ⟨ls, by decide, by decide, by decide⟩

theorem mir_limit {z b : Int} (h : z * 2 ^ 80 ≤ b * (2 ^ 1074 * 2 ^ 1074)) : z ≤ b * 2 ^ 2068 := by
  have e : (2 : Int) ^ 1074 * 2 ^ 1074 = 2 ^ 2068 * 2 ^ 80 := by rw [← Int.pow_add, ← Int.pow_add]
  rw [e, ← Int.mul_assoc] at h
  have p : (0 : Int) < 2 ^ 80 := Int.pow_pos (by decide)
  exact Int.le_of_mul_le_mul_right h p

/-- HouseMirrors, by what house.Make and house.Apply answer. -/
theorem houseMirrors_by (xo : Option Addr) (xc : Nat) (J : List Int) (w : World) (hJ : BitsAt w xo xc J) (hlj : J.length ≤ 17592186043904)
    (CM : ∀ w' ao c I, Below w.heap.size w w' → BitsAt w' ao c I → 1 ≤ I.length → I.length ≤ 64 → fnK I I.length = true → mrK (toN I) = true → Calls Tryz.prog 8 #[.slice ao I.length c] w' fun e w'' => ∃ vo vc, e = .returned (.tuple #[.slice vo I.length vc, .int .u64 (mrT (toN I) : Nat), .int .u64 (mrB (toN I) : Nat), .int .i64 0]) ∧ BitsAt w'' vo vc (mxL (mrV (toN I))) ∧ Below w'.heap.size w' w'')
    (CP : ∀ w' r c cap ao S i k vo vc vs tau, Below w.heap.size w w' → Mx w' ao cap r c S → BitsAt w' vo vc (mxL vs) → i + vs.length ≤ r → k ≤ c → tau < 18446744073709551616 → Calls Tryz.prog 14 #[.agg #[.int .i64 (r : Nat), .int .i64 (c : Nat), .slice ao S.length cap], .int .i64 (i : Nat), .int .i64 (k : Nat), .slice vo vs.length vc, .int .u64 (tau : Nat)] w' fun e w'' => ∃ v, e = .returned (.tuple #[v, .int .i64 0]) ∧ NewM w'.heap.size w'' r c (apM r c S i k vs tau) v ∧ Below w'.heap.size w' w'')
    (CA : ∀ w', Below w.heap.size w w' → Calls Tryz.prog 12 #[] w' fun e w'' => e = .returned (.bool true) ∧ Below w'.heap.size w' w'') :
    Calls Tryz.prog 6 #[.slice xo J.length xc] w fun e w' => e = .returned (.bool true) ∧ Below w.heap.size w w' := by
  have C1 := fun w' (hb : Below w.heap.size w w') => r9tame_any xo xc J 200 w' (hJ.below hb) (by omega) (by omega)
  by_cases ht : 1 ≤ J.length ∧ J.length ≤ 6 ∧ tmK 200 J J.length = true
  · obtain ⟨t1, t2, t3⟩ := ht
    rw [t3] at C1
    have hTJ := tame_list hJ t3
    have hfn := tame_fn J 200 t3
    have hln : (toN J).length = J.length := toN_len J
    obtain ⟨mr, mk⟩ := mr_MrF (toN J) (toN_ne t1) (by omega) hTJ
    have lB := mrB_lt (toN J) (toN_mem hJ)
    have lv : (mrV (toN J)).length = J.length := by rw [mrV_len, hln]
    have eS : mxL (toN J) = J := mxL_natL hJ
    have hM : ∀ w', Below w.heap.size w w' → Mx w' xo xc J.length 1 (toN J) := fun w' hb => ⟨by rw [eS]; exact hJ.below hb, by rw [hln, Nat.mul_one], t2, by decide⟩
    have hT : ∀ p q, p < J.length → q < 1 → elM 1 (toN J) p q < 18446744073709551616 ∧ fFin (elM 1 (toN J) p q) = true ∧ (fK (elM 1 (toN J) p q) = 0 ∨ (-200 ≤ eX (elM 1 (toN J) p q) ∧ eX (elM 1 (toN J) p q) < 200)) := fun p q hp hq => by
      refine hTJ _ ?_
      unfold elM
      obtain rfl : q = 0 := by omega
      have hp' : p * 1 + 0 < (toN J).length := by rw [hln]; omega
      rw [List.getD_eq_getElem?_getD, List.getElem?_eq_getElem hp']
      exact List.getElem_mem hp'
    have hfX := ap_fin (k := 0) t2 (i := 0) (vs := mrV (toN J)) (tau := mrT (toN J)) (by omega) mr hT
    have lX : (apM J.length 1 (toN J) 0 0 (mrV (toN J)) (mrT (toN J))).length = J.length := by rw [apM_len, Nat.mul_one]
    have lY : ((List.replicate (J.length * 1) 0).set 0 (mrB (toN J))).length = J.length := by rw [List.length_set, List.length_replicate, Nat.mul_one]
    have fB : fFin (mrB (toN J)) = true := by
      obtain ⟨eB, _, _⟩ := mk_facts t1
      cases hn : ngt ((toN J).drop 1)
      · obtain ⟨_, k1, _⟩ := mr_facts (atB J 0) ((toN J).drop 1) (by rw [← toN_cons t1]; omega) (by rw [← toN_cons t1]; exact hTJ) hn
        rw [eB, hn, if_neg (by decide)]
        exact k1
      · rw [eB, if_pos hn]
        exact (hTJ _ (by rw [toN_cons t1]; exact List.mem_cons_self)).2.1
    have fY : ∀ x ∈ (List.replicate (J.length * 1) 0).set 0 (mrB (toN J)), fFin x = true := fun x hx => by
      rcases List.mem_or_eq_of_mem_set hx with h | h
      · rw [(List.mem_replicate.1 h).2]; exact fin_zero12
      · rw [h]; exact fB
    have fE : ∀ x ∈ eyM 1, fFin x = true := fun x hx => by
      have : eyM 1 = [4607182418800017408] := rfl
      rw [this] at hx
      rcases List.mem_cons.1 hx with rfl | hx
      · exact fin_one12
      · cases hx
    have own := own_int (toN J) (toN_ne t1) (by omega) hTJ
    rw [hln] at own
    have lim := mir_limit own
    have hfb : fnK [((mrB (toN J) : Nat) : Int)] 1 = true := by
      show (true && fFin _) = true
      rw [Bool.true_and]
      exact fB
    have l2 := sqK_lvl [((mrB (toN J) : Nat) : Int)] 1 (by omega) hfb 1 (Nat.le_refl _)
    rw [sq_one13] at l2
    have r0 := rsQ_nonneg J.length 1 1 (apM J.length 1 (toN J) 0 0 (mrV (toN J)) (mrT (toN J))) ((List.replicate (J.length * 1) 0).set 0 (mrB (toN J))) (eyM 1)
    have l1 : (rsQ J.length 1 1 (apM J.length 1 (toN J) 0 0 (mrV (toN J)) (mrT (toN J))) ((List.replicate (J.length * 1) 0).set 0 (mrB (toN J))) (eyM 1)).natAbs < 2 ^ 6300 := by
      have k := up_ltV (j := 4203) (k := 2068) (V := 6300) (by decide) l2.1
      have s0 := sq_ge (fZ (mrB (toN J)))
      have : (0 : Int) ≤ fZ (mrB (toN J)) * fZ (mrB (toN J)) * 2 ^ 2068 := Int.mul_nonneg s0 (Int.le_of_lt (Int.pow_pos (by decide)))
      omega
    refine houseMirrors_ok J.length xc (mrT (toN J)) (mrB (toN J)) xo (mrV (toN J)) (apM J.length 1 (toN J) 0 0 (mrV (toN J)) (mrT (toN J))) ((List.replicate (J.length * 1) 0).set 0 (mrB (toN J))) (List.replicate (J.length * 1) 0) (eyM 1) (-4296) (rsQ J.length 1 1 (apM J.length 1 (toN J) 0 0 (mrV (toN J)) (mrT (toN J))) ((List.replicate (J.length * 1) 0).set 0 (mrB (toN J))) (eyM 1)) (-2148) (fZ (mrB (toN J)) * fZ (mrB (toN J))) w t1 t2 lB C1 (fun w' hb => CM w' xo xc J hb (hJ.below hb) t1 (by omega) hfn mk) (fun w' vo vc hb hv => ?_) (fun w' po pc hx => ?_) (fun w' => ?_) (fun w' zo zc hz => ?_) (fun w' => ?_) (fun w' po pc qo qc eo ec h1 h2 h3 => ?_) (fun w' ao hb => ?_) (fun w' v u h1 h2 => rwithin13 h1 h2 l1 l2.1 ?_) CA
    · have := CP w' J.length 1 xc xo (toN J) 0 0 vo vc (mrV (toN J)) (mrT (toN J)) hb (hM w' hb) hv (by omega) (by omega) (mrT_lt _)
      rw [hln, lv] at this
      refine this.mono ?_
      rintro e w'' ⟨v, rfl, ⟨qo, qc, rfl, _, hq⟩, hb2⟩
      exact ⟨qo, qc, by rw [lX]; rfl, hq, hb2⟩
    · have hX : Mx w' po pc J.length 1 (apM J.length 1 (toN J) 0 0 (mrV (toN J)) (mrT (toN J))) := ⟨hx, apM_len _ _ _ _ _ _ _, t2, by decide⟩
      have := r11check_any (J.length : Int) ((1 : Nat) : Int) po pc (mxL (apM J.length 1 (toN J) 0 0 (mrV (toN J)) (mrT (toN J)))) w' hx (by rw [mxL_len]; omega)
      rw [ckE_right hX hfX, mxL_len, lX] at this
      exact this
    · refine (rzeros_any J.length 1 w' t2 (by decide)).mono ?_
      rintro e w'' ⟨v, rfl, ⟨qo, qc, rfl, _, hq⟩, hb2⟩
      exact ⟨qo, qc, by rw [List.length_replicate, Nat.mul_one]; rfl, hq, hb2⟩
    · have hZ : Mx w' zo zc J.length 1 (List.replicate (J.length * 1) 0) := ⟨hz, List.length_replicate, t2, by decide⟩
      have := rwith_any J.length 1 zc 0 0 (mrB (toN J)) zo _ w' hZ (by omega) (by decide) lB
      rw [List.length_replicate, Nat.mul_one] at this
      refine this.mono ?_
      rintro e w'' ⟨v, rfl, ⟨qo, qc, rfl, _, hq⟩, hb2⟩
      refine ⟨qo, qc, by rw [List.length_set, List.length_replicate]; rfl, ?_, hb2⟩
      rw [Nat.mul_one]
      exact hq
    · refine (reye_any 1 w' (by decide)).mono ?_
      rintro e w'' ⟨v, rfl, ⟨qo, qc, rfl, _, hq⟩, hb2⟩
      exact ⟨qo, qc, rfl, hq, hb2⟩
    · have hX : Mx w' po pc J.length 1 (apM J.length 1 (toN J) 0 0 (mrV (toN J)) (mrT (toN J))) := ⟨h1, apM_len _ _ _ _ _ _ _, t2, by decide⟩
      have hY : Mx w' qo qc J.length 1 ((List.replicate (J.length * 1) 0).set 0 (mrB (toN J))) := ⟨h2, by rw [lY, Nat.mul_one], t2, by decide⟩
      have hE : Mx w' eo ec 1 1 (eyM 1) := ⟨h3, mkM_len _ _ _, by decide, by decide⟩
      have := rRes_any J.length 1 1 pc qc ec po qo eo _ _ _ w' hX hY hE hfX fY fE
      rw [lX, lY] at this
      exact this
    · have := r9squares_any ao 1 [((mrB (toN J) : Nat) : Int)] w' hb (by simp) hfb
      rw [show sqK [((mrB (toN J) : Nat) : Int)] [((mrB (toN J) : Nat) : Int)].length = fZ (mrB (toN J)) * fZ (mrB (toN J)) from sq_one13 _] at this
      exact this
    · have p : (0 : Int) < 2 ^ 296 := Int.pow_pos (by decide)
      omega
  · refine houseMirrors_no J.length xc xo (tmK 200 J J.length) w (by omega) ?_ C1 CA
    rcases Nat.eq_zero_or_pos J.length with h2 | h2
    · exact .inl h2
    · rcases Nat.lt_or_ge 6 J.length with h3 | h3
      · exact .inr (.inl h3)
      · refine .inr (.inr ⟨h2, h3, ?_⟩)
        cases h4 : tmK 200 J J.length
        · rfl
        · exact absurd ⟨h2, h3, h4⟩ ht

end Go.Proofs.YtimejpbmehegeaaGreatDoor

