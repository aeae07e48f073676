/- Part 41 of the texts. -/
import Derived.Test.YtimejpbmehegeaaGreatDoorParte38
import Derived.Test.YtimejpbmehegeaaGreatDoorParte36
import Derived.Test.YtimejpbmehegeaaGreatDoorParte39
import Derived.Test.YtimejpbmehegeaaGreatDoorParte40
import Derived.Test.YtimejpbmehegeaaGreatDoorParte29
import Derived.Deep.RegionHeld3
import Derived.Test.YtimejpbmehegeaaGreatDoorParte37
import Derived.Test.YtimejpbmehegeaaGreatDoorParte30
import Derived.Test.YtimejpbmehegeaaGreatDoorParte31
import Derived.Test.YtimejpbmehegeaaGreatDoorParte32
import Derived.Deep.RegionWith
import Derived.Test.YtimejpbmehegeaaGreatDoorParte35
import Derived.Test.YtimejpbmehegeaaGreatDoorParte33
import Derived.Test.YtimejpbmehegeaaGreatDoorParte08
import Derived.Deep.CutRange
import Derived.Test.YtimejpbmehegeaaGreatDoorChecked
import Derived.Test.YtimejpbmehegeaaGreatDoorParte02
import Derived.ProofKit
import Derived.SizedLaws
import Derived.Lib.SmallJoins
/- GivensKeeps by what givens.Turn and givens.Rows answer. -/
namespace Go.Proofs.YtimejpbmehegeaaGreatDoor
open Go.RowKit
attribute [local go_sem ↓] Go.wp_at_zero Go.wp_at_succ
theorem sq_lvl {S : List Nat} (h36 : S.length ≤ 36) (hf : ∀ x ∈ S, fFin x = true) : Lvl (-2148) 4203 (sqZ S) := by
  have := sqK_lvl (mxL S) S.length (by omega) (all_fin hf) S.length (Nat.le_refl _)
  rwa [sqK_sm] at this

theorem ckE_right {w : World} {ao : Option Addr} {cap r c : Nat} {S : List Nat} (h : Mx w ao cap r c S) (hf : ∀ x ∈ S, fFin x = true) : ckE (r : Int) (c : Int) (mxL S) = 0 := by
  have h1 : okB (r : Int) (c : Int) (mxL S).length = true := by
    rw [mxL_len]
    exact mx_ok h
  unfold ckE
  rw [if_pos h1, if_pos (by rw [mxL_len]; exact all_fin hf)]

end Go.Proofs.YtimejpbmehegeaaGreatDoor

/- The law HouseKeeps, walked by what house.Make and house.Apply answer (mkhi.py). -/
namespace Go.Proofs.YtimejpbmehegeaaGreatDoor
open Go.RowKit
attribute [local go_sem ↓] Go.wp_at_zero Go.wp_at_succ

set_option maxRecDepth 20000 in
set_option maxHeartbeats 8000000 in
theorem houseKeeps_no (r c : Int) (n cap m xc : Nat) (ao xo : Option Addr) (b1 b2 : Bool) (w : World) (hmm : m ≤ 35184372088830) (h : b1 = false ∨ (b1 = true ∧ m = 0) ∨ (b1 = true ∧ 1 ≤ m ∧ r < (m : Int)) ∨ (b1 = true ∧ 1 ≤ m ∧ (m : Int) ≤ r ∧ b2 = false))
    (C0 : ∀ w', Below w.heap.size w w' → Calls Tryz.prog 38 #[.agg #[.int .i64 r, .int .i64 c, .slice ao n cap], .int .i64 200] w' fun e w'' => e = .returned (.bool b1) ∧ Below w'.heap.size w' w'')
    (C1 : ∀ w', Below w.heap.size w w' → Calls Tryz.prog 19 #[.slice xo m xc, .int .i64 200] w' fun e w'' => e = .returned (.bool b2) ∧ Below w'.heap.size w' w'')
    (CA : ∀ w', Below w.heap.size w w' → Calls Tryz.prog 12 #[] w' fun e w'' => e = .returned (.bool true) ∧ Below w'.heap.size w' w'') :
    Calls Tryz.prog 7 #[.agg #[.int .i64 r, .int .i64 c, .slice ao n cap], .slice xo m xc] w fun e w' => e = .returned (.bool true) ∧ Below w.heap.size w w' := by
  have K0 := hide C0; have K1 := hide C1; have KA := hide CA
  have ST := hide (show BoxM _ w.heap.size (.int .i64 r) (.int .i64 c) (.slice ao n cap) ∧ Below w.heap.size w _ from ⟨BoxM.new w (.int .i64 r) (.int .i64 c) (.slice ao n cap), below_alloc9 w (.cells #[.int .i64 r, .int .i64 c, .slice ao n cap] 36)⟩)
  have y0 := (unhide ST).1.c0; have y1 := (unhide ST).1.c1; have y2 := (unhide ST).1.c2
  clear C0 C1 CA
  go_enter Tryz.func7, Tryz.ntmps7
  go_wp2_with fail
  refine (unhide K0 _ (unhide ST).2).mono ?_
  rintro e w1 ⟨rfl, hb⟩
  replace ST := hide (show BoxM w1 w.heap.size (.int .i64 r) (.int .i64 c) (.slice ao n cap) ∧ Below w.heap.size w w1 from ⟨(unhide ST).1.all hb, (unhide ST).2.trans (hb.mono (unhide ST).2.size)⟩)
  clear hb K0 y0 y1 y2
  have y0 := (unhide ST).1.c0; have y1 := (unhide ST).1.c1; have y2 := (unhide ST).1.c2
  rcases h with rfl | ⟨rfl, rfl⟩ | ⟨rfl, h1, h2⟩ | ⟨rfl, h1, h2, rfl⟩
  · have BB := hide (unhide ST).2
    clear K1 y0 y1 y2 ST
    go_wp2_with fail
    refine (unhide KA _ (unhide BB)).mono ?_
    rintro e w8 ⟨rfl, hb⟩
    replace BB := hide ((unhide BB).trans (hb.mono (unhide BB).size))
    clear hb KA
    go_wp2
    go_ret
    exact ⟨rfl, unhide BB⟩
  · have BB := hide (unhide ST).2
    clear K1 ST
    go_wp2_with fail
    refine (unhide KA _ (unhide BB)).mono ?_
    rintro e w8 ⟨rfl, hb⟩
    replace BB := hide ((unhide BB).trans (hb.mono (unhide BB).size))
    clear hb KA
    go_wp2
    go_ret
    exact ⟨rfl, unhide BB⟩
  · have BB := hide (unhide ST).2
    have h1I : ¬ (m : Int) = 0 := by omega
    clear K1 ST
    go_wp2_with fail
    refine (unhide KA _ (unhide BB)).mono ?_
    rintro e w8 ⟨rfl, hb⟩
    replace BB := hide ((unhide BB).trans (hb.mono (unhide BB).size))
    clear hb KA
    go_wp2
    go_ret
    exact ⟨rfl, unhide BB⟩
  · have h1I : ¬ (m : Int) = 0 := by omega
    go_wp2_with fail
    refine (unhide K1 _ (unhide ST).2).mono ?_
    rintro e w2 ⟨rfl, hb⟩
    have BB := hide ((unhide ST).2.trans (hb.mono (unhide ST).2.size))
    clear hb K1 ST y0 y1 y2
    go_wp2_with fail
    refine (unhide KA _ (unhide BB)).mono ?_
    rintro e w8 ⟨rfl, hb⟩
    replace BB := hide ((unhide BB).trans (hb.mono (unhide BB).size))
    clear hb KA
    go_wp2
    go_ret
    exact ⟨rfl, unhide BB⟩

set_option maxRecDepth 20000 in
set_option maxHeartbeats 8000000 in
theorem houseKeeps_ok (r c n cap m xc T B : Nat) (ao xo : Option Addr) (V X : List Nat) (lo z1 z2 : Int) (w : World) (h1 : 1 ≤ m) (h2 : m ≤ r) (hr : r ≤ 6)
    (C0 : ∀ w', Below w.heap.size w w' → Calls Tryz.prog 38 #[.agg #[.int .i64 r, .int .i64 c, .slice ao n cap], .int .i64 200] w' fun e w'' => e = .returned (.bool true) ∧ Below w'.heap.size w' w'')
    (C1 : ∀ w', Below w.heap.size w w' → Calls Tryz.prog 19 #[.slice xo m xc, .int .i64 200] w' fun e w'' => e = .returned (.bool true) ∧ Below w'.heap.size w' w'')
    (C2 : ∀ w', Below w.heap.size w w' → Calls Tryz.prog 8 #[.slice xo m xc] w' fun e w'' => ∃ vo vc, e = .returned (.tuple #[.slice vo m vc, .int .u64 (T : Nat), .int .u64 (B : Nat), .int .i64 0]) ∧ BitsAt w'' vo vc (mxL V) ∧ Below w'.heap.size w' w'')
    (C3 : ∀ w' vo vc, Below w.heap.size w w' → BitsAt w' vo vc (mxL V) → Calls Tryz.prog 14 #[.agg #[.int .i64 r, .int .i64 c, .slice ao n cap], .int .i64 ((r : Int) - (m : Int)), .int .i64 0, .slice vo m vc, .int .u64 T] w' fun e w'' => ∃ po pc, e = .returned (.tuple #[.agg #[.int .i64 r, .int .i64 c, .slice po n pc], .int .i64 0]) ∧ BitsAt w'' po pc (mxL X) ∧ Below w'.heap.size w' w'')
    (C4 : ∀ w' po pc, BitsAt w' po pc (mxL X) → Calls Tryz.prog 32 #[.agg #[.int .i64 r, .int .i64 c, .slice po n pc]] w' fun e w'' => e = .returned (.int .i64 0) ∧ Below w'.heap.size w' w'')
    (C5 : ∀ w' po pc, BitsAt w' po pc (mxL X) → Calls Tryz.prog 39 #[.agg #[.int .i64 r, .int .i64 c, .slice po n pc]] w' fun e w'' => ∃ v, e = .returned v ∧ IsLv w'' v lo z1 ∧ Below w'.heap.size w' w'')
    (C6 : ∀ w', Below w.heap.size w w' → Calls Tryz.prog 39 #[.agg #[.int .i64 r, .int .i64 c, .slice ao n cap]] w' fun e w'' => ∃ v, e = .returned v ∧ IsLv w'' v lo z2 ∧ Below w'.heap.size w' w'')
    (C7 : ∀ w' v u, IsLv w' v lo z1 → IsLv w' u lo z2 → Calls Tryz.prog 24 #[v, u, .int .i64 36] w' fun e w'' => e = .returned (.bool true) ∧ Below w'.heap.size w' w'')
    (CA : ∀ w', Below w.heap.size w w' → Calls Tryz.prog 12 #[] w' fun e w'' => e = .returned (.bool true) ∧ Below w'.heap.size w' w'') :
    Calls Tryz.prog 7 #[.agg #[.int .i64 r, .int .i64 c, .slice ao n cap], .slice xo m xc] w fun e w' => e = .returned (.bool true) ∧ Below w.heap.size w w' := by
  have K0 := hide C0; have K1 := hide C1; have K2 := hide C2; have K3 := hide C3; have K4 := hide C4; have K5 := hide C5; have K6 := hide C6; have K7 := hide C7; have KA := hide CA
  have ST := hide (show BoxM _ w.heap.size (.int .i64 r) (.int .i64 c) (.slice ao n cap) ∧ Below w.heap.size w _ from ⟨BoxM.new w (.int .i64 r) (.int .i64 c) (.slice ao n cap), below_alloc9 w (.cells #[.int .i64 r, .int .i64 c, .slice ao n cap] 36)⟩)
  have y0 := (unhide ST).1.c0; have y1 := (unhide ST).1.c1; have y2 := (unhide ST).1.c2
  have h1I : ¬ (m : Int) = 0 := by omega
  have h2I : (m : Int) ≤ (r : Int) := by omega
  have q1 : ((m : Int) == 0) = false := by simp; omega
  have q2 : decide ((r : Int) < (m : Int)) = false := decide_eq_false (by omega)
  have q3 : decide (r < m) = false := decide_eq_false (by omega)
  have hw1 : IntKind.i64.wrap ((r : Int) - (m : Int)) = (r : Int) - (m : Int) := wrap_in _ (by omega)
  clear C0 C1 C2 C3 C4 C5 C6 C7 CA
  go_enter Tryz.func7, Tryz.ntmps7
  go_wp2_with fail
  refine (unhide K0 _ (unhide ST).2).mono ?_
  rintro e w1 ⟨rfl, hb⟩
  replace ST := hide (show BoxM w1 w.heap.size (.int .i64 r) (.int .i64 c) (.slice ao n cap) ∧ Below w.heap.size w w1 from ⟨(unhide ST).1.all hb, (unhide ST).2.trans (hb.mono (unhide ST).2.size)⟩)
  clear hb K0 y0 y1 y2
  have y0 := (unhide ST).1.c0; have y1 := (unhide ST).1.c1; have y2 := (unhide ST).1.c2
  go_wp2_with fail
  refine (unhide K1 _ (unhide ST).2).mono ?_
  rintro e w2 ⟨rfl, hb⟩
  replace ST := hide (show BoxM w2 w.heap.size (.int .i64 r) (.int .i64 c) (.slice ao n cap) ∧ Below w.heap.size w w2 from ⟨(unhide ST).1.all hb, (unhide ST).2.trans (hb.mono (unhide ST).2.size)⟩)
  clear hb K1 y0 y1 y2
  go_wp2_with fail
  refine (unhide K2 _ (unhide ST).2).mono ?_
  rintro e w3 ⟨vo, vc, rfl, bv, hb⟩
  replace ST := hide (show BoxM w3 w.heap.size (.int .i64 r) (.int .i64 c) (.slice ao n cap) ∧ Below w.heap.size w w3 from ⟨(unhide ST).1.all hb, (unhide ST).2.trans (hb.mono (unhide ST).2.size)⟩)
  have BV := hide bv
  clear hb K2 bv
  have y0 := (unhide ST).1.c0; have y1 := (unhide ST).1.c1; have y2 := (unhide ST).1.c2
  go_wp2_with fail
  refine (unhide K3 _ _ _ (unhide ST).2 (unhide BV)).mono ?_
  rintro e w4 ⟨po, pc, rfl, bx, hb⟩
  have ba := below_alloc9 w4 (.cells #[.int .i64 r, .int .i64 c, .slice po n pc] 36)
  have hbb := hb.trans (ba.mono hb.size)
  replace ST := hide (show BoxM _ w.heap.size (.int .i64 r) (.int .i64 c) (.slice ao n cap) ∧ Below w.heap.size w _ from ⟨(unhide ST).1.all hbb, (unhide ST).2.trans (hbb.mono (unhide ST).2.size)⟩)
  have XX := hide (And.intro (BoxM.new w4 (.int .i64 r) (.int .i64 c) (.slice po n pc)) (bx.below ba))
  clear hb ba hbb bx K3 y0 y1 y2 BV
  have y0 := (unhide XX).1.c0; have y1 := (unhide XX).1.c1; have y2 := (unhide XX).1.c2
  go_wp2_with fail
  generalize w4.heap.size = gx at *
  refine (unhide K4 _ _ _ (unhide XX).2).mono ?_
  rintro e w5 ⟨rfl, hb⟩
  replace ST := hide (show BoxM w5 w.heap.size (.int .i64 r) (.int .i64 c) (.slice ao n cap) ∧ Below w.heap.size w w5 from ⟨(unhide ST).1.all hb, (unhide ST).2.trans (hb.mono (unhide ST).2.size)⟩)
  replace XX := hide (show BoxM w5 gx (.int .i64 r) (.int .i64 c) (.slice po n pc) ∧ BitsAt w5 po pc (mxL X) from ⟨(unhide XX).1.all hb, (unhide XX).2.below hb⟩)
  clear hb K4 y0 y1 y2
  go_wp2_with fail
  refine at_world (fun W => (Below w.heap.size w W ∧ BoxM W w.heap.size (.int .i64 r) (.int .i64 c) (.slice ao n cap)) ∧ BoxM W gx (.int .i64 r) (.int .i64 c) (.slice po n pc) ∧ BitsAt W po pc (mxL X)) ⟨⟨(unhide ST).2, (unhide ST).1⟩, unhide XX⟩ ?_
  clear ST XX
  rintro W0 ⟨⟨bb, x0⟩, xg, bx⟩
  have HK := hide (show ∀ w', Below W0.heap.size W0 w' → Below W0.heap.size W0 w' ∧ w'.cell? ⟨w.heap.size, 0, none⟩ = some (.int .i64 r) ∧ w'.cell? ⟨w.heap.size, 1, none⟩ = some (.int .i64 c) ∧ w'.cell? ⟨w.heap.size, 2, none⟩ = some (.slice ao n cap) ∧ w'.cell? ⟨gx, 0, none⟩ = some (.int .i64 r) ∧ w'.cell? ⟨gx, 1, none⟩ = some (.int .i64 c) ∧ w'.cell? ⟨gx, 2, none⟩ = some (.slice po n pc) from fun w' h => ⟨h, (x0.all h).c0, (x0.all h).c1, (x0.all h).c2, (xg.all h).c0, (xg.all h).c1, (xg.all h).c2⟩)
  have HW := hide (fun w' (h : Below W0.heap.size W0 w') => bb.trans (h.mono bb.size))
  have HB := hide (fun w' (h : Below W0.heap.size W0 w') => bx.below h)
  clear bb x0 xg bx
  obtain ⟨E1, hE1⟩ : ∃ E1, oE z1 lo = E1 := ⟨_, rfl⟩
  obtain ⟨E2, hE2⟩ : ∃ E2, oE z2 lo = E2 := ⟨_, rfl⟩
  have H1 := hide hE1; have H2 := hide hE2
  clear hE1 hE2
  go_region_held3 (fun w' => Below W0.heap.size W0 w' ∧ w'.cell? ⟨w.heap.size, 0, none⟩ = some (.int .i64 r) ∧ w'.cell? ⟨w.heap.size, 1, none⟩ = some (.int .i64 c) ∧ w'.cell? ⟨w.heap.size, 2, none⟩ = some (.slice ao n cap) ∧ w'.cell? ⟨gx, 0, none⟩ = some (.int .i64 r) ∧ w'.cell? ⟨gx, 1, none⟩ = some (.int .i64 c) ∧ w'.cell? ⟨gx, 2, none⟩ = some (.slice po n pc))
    (first | exact unhide HK _ (Below.refl _ _).drew | exact unhide HK _ (by assumption))
    (first
      | (go_at_call_of 39 (Value.agg #[.int .i64 r, .int .i64 c, .slice po n pc]); refine (unhide K5 _ _ _ (unhide HB _ (And.left (by assumption)))).mono ?_; rintro e wa ⟨v, rfl, ⟨n5, a5, c5, L5, rfl, i5⟩, hb1⟩; have hBa : Below W0.heap.size W0 wa := Below.trans (And.left (by assumption)) (hb1.mono (Below.size (And.left (by assumption)))); have Q5 := hide (show IsLv wa (.agg #[.bool n5, .slice a5 L5.length c5, .int .i64 (oE z1 lo)]) lo z1 from ⟨n5, a5, c5, L5, rfl, i5⟩); clear hb1 i5; generalize L5.length = l5 at *; rw [unhide H1]; rw [unhide H1] at Q5)
      | (go_at_call_of 39 (Value.agg #[.int .i64 r, .int .i64 c, .slice ao n cap]); refine (unhide K6 _ (unhide HW _ (And.left (by assumption)))).mono ?_; rintro e wc ⟨v, rfl, ⟨n6, a6, c6, L6, rfl, i6⟩, hb1⟩; have hBc : Below W0.heap.size W0 wc := Below.trans (And.left (by assumption)) (hb1.mono (Below.size (And.left (by assumption)))); have Q6 := hide (show IsLv wc (.agg #[.bool n6, .slice a6 L6.length c6, .int .i64 (oE z2 lo)]) lo z2 from ⟨n6, a6, c6, L6, rfl, i6⟩); replace Q5 := hide ((unhide Q5).below hb1); clear hb1 i6; generalize L6.length = l6 at *; rw [unhide H2]; rw [unhide H2] at Q6)
      | (go_at_call 24; refine (unhide K7 _ _ _ (unhide Q5) (unhide Q6)).mono ?_; rintro e wd ⟨rfl, hb1⟩; have hBd : Below W0.heap.size W0 wd := Below.trans (And.left (by assumption)) (hb1.mono (Below.size (And.left (by assumption)))); clear hb1 Q5 Q6)
      | (go_at_call 12; refine (unhide KA _ (unhide HW _ (And.left (by assumption)))).mono ?_; rintro e we ⟨rfl, hb1⟩; have hBe : Below W0.heap.size W0 we := Below.trans (And.left (by assumption)) (hb1.mono (Below.size (And.left (by assumption)))); clear hb1)
      | fail "NO ARM")
  have hn : Below W0.heap.size W0 we := And.left (by assumption)
  go_wp2_with fail
  go_ret
  exact ⟨rfl, unhide HW _ hn⟩

end Go.Proofs.YtimejpbmehegeaaGreatDoor

/- HouseKeeps by what house.Make and house.Apply answer. -/
namespace Go.Proofs.YtimejpbmehegeaaGreatDoor
open Go.RowKit

theorem near_keep36 {w : World} {v u : Value} {z1 z2 : Int} (hi : ((z1 - z2).natAbs : Int) * 2 ^ 38 ≤ z2) (h1 : IsLv w v (-2148) z1) (h2 : IsLv w u (-2148) z2) (l1 : Lvl (-2148) 4203 z1) (l2 : Lvl (-2148) 4203 z2) :
    Calls Tryz.prog 24 #[v, u, .int .i64 36] w fun e w' => e = .returned (.bool true) ∧ Below w.heap.size w w' := by
  have := near_any 36 h1 h2 l1 l2 (by decide) (by decide) (by decide) (by decide)
  have h36 : ((z1 - z2).natAbs : Int) * 2 ^ 36 ≤ z2 := by
    have e : (2 : Int) ^ 38 = 2 ^ 36 * 4 := by decide
    rw [e] at hi
    have h0 : (0 : Int) ≤ ((z1 - z2).natAbs : Int) * 2 ^ 36 := Int.mul_nonneg (by omega) (by decide)
    rw [← Int.mul_assoc] at hi
    omega
  rw [decide_eq_true h36] at this
  exact this

theorem tame_200 {x : Nat} (hx : x < 18446744073709551616) (h : tmB 200 x = true) : x < 18446744073709551616 ∧ fFin x = true ∧ (fK x = 0 ∨ (-200 ≤ eX x ∧ eX x < 200)) := by
  unfold tmB at h
  rw [Bool.and_eq_true, Bool.or_eq_true, decide_eq_true_eq, decide_eq_true_eq] at h
  exact ⟨hx, h.1, h.2⟩
theorem toN_ne {I : List Int} (h : 1 ≤ I.length) : toN I ≠ [] := fun e => by
  have := congrArg List.length e
  rw [toN_len] at this
  simp at this
  subst this
  simp at h

/-- HouseKeeps, by what house.Make and house.Apply answer. -/
theorem houseKeeps_by (r c : Int) (ao : Option Addr) (cap : Nat) (I : List Int) (xo : Option Addr) (xc : Nat) (J : List Int) (w : World) (hI : BitsAt w ao cap I) (hl : I.length ≤ 17592186043904) (hJ : BitsAt w xo xc J) (hlj : J.length ≤ 17592186043904)
    (CM : ∀ w' ao c I, Below w.heap.size w w' → BitsAt w' ao c I → 1 ≤ I.length → I.length ≤ 64 → fnK I I.length = true → mrK (toN I) = true → Calls Tryz.prog 8 #[.slice ao I.length c] w' fun e w'' => ∃ vo vc, e = .returned (.tuple #[.slice vo I.length vc, .int .u64 (mrT (toN I) : Nat), .int .u64 (mrB (toN I) : Nat), .int .i64 0]) ∧ BitsAt w'' vo vc (mxL (mrV (toN I))) ∧ Below w'.heap.size w' w'')
    (CP : ∀ w' r c cap ao S i k vo vc vs tau, Below w.heap.size w w' → Mx w' ao cap r c S → BitsAt w' vo vc (mxL vs) → i + vs.length ≤ r → k ≤ c → tau < 18446744073709551616 → Calls Tryz.prog 14 #[.agg #[.int .i64 (r : Nat), .int .i64 (c : Nat), .slice ao S.length cap], .int .i64 (i : Nat), .int .i64 (k : Nat), .slice vo vs.length vc, .int .u64 (tau : Nat)] w' fun e w'' => ∃ v, e = .returned (.tuple #[v, .int .i64 0]) ∧ NewM w'.heap.size w'' r c (apM r c S i k vs tau) v ∧ Below w'.heap.size w' w'')
    (CA : ∀ w', Below w.heap.size w w' → Calls Tryz.prog 12 #[] w' fun e w'' => e = .returned (.bool true) ∧ Below w'.heap.size w' w'') :
    Calls Tryz.prog 7 #[.agg #[.int .i64 r, .int .i64 c, .slice ao I.length cap], .slice xo J.length xc] w fun e w' => e = .returned (.bool true) ∧ Below w.heap.size w w' := by
  have C0 := fun w' (hb : Below w.heap.size w w') => r11tame_any r c ao cap I 200 w' (hI.below hb) (by omega) (by omega)
  have C1 := fun w' (hb : Below w.heap.size w w') => r9tame_any xo xc J 200 w' (hJ.below hb) (by omega) (by omega)
  by_cases ht : (okB r c I.length && tmK 200 I I.length) = true ∧ 1 ≤ J.length ∧ (J.length : Int) ≤ r ∧ tmK 200 J J.length = true
  · obtain ⟨t1, t2, t3, t4⟩ := ht
    rw [t1] at C0
    rw [t4] at C1
    have hok : okB r c I.length = true ∧ tmK 200 I I.length = true := by simpa using t1
    obtain ⟨r, c, rfl, rfl, hM, hS⟩ := Mx.of hI hok.1
    have hlen : (natL I).length = I.length := natL_len I
    have h36 := hM.small
    have r6 := hM.2.2.1
    have hm : J.length ≤ r := by omega
    have hTJ := tame_list hJ t4
    obtain ⟨mr, mk⟩ := mr_MrF (toN J) (toN_ne t2) (by rw [toN_len]; omega) hTJ
    have lv : (mrV (toN J)).length = J.length := by rw [mrV_len, toN_len]
    have hT : ∀ p q, p < r → q < c → elM c (natL I) p q < 18446744073709551616 ∧ fFin (elM c (natL I) p q) = true ∧ (fK (elM c (natL I) p q) = 0 ∨ (-200 ≤ eX (elM c (natL I) p q) ∧ eX (elM c (natL I) p q) < 200)) := fun p q hp hq => by
      have hb := tmK_at 200 I I.length (p * c + q) (by rw [← hlen, hM.2.1]; exact place_lt hp hq) hok.2
      rw [← hS, mxL_at] at hb
      exact tame_200 (hM.el_lt p q) hb
    have hfS : ∀ x ∈ natL I, fFin x = true := fin_all (by rw [hS, hlen]; exact tame_fn I 200 hok.2)
    have hfX := ap_fin (k := 0) r6 (i := r - J.length) (vs := mrV (toN J)) (tau := mrT (toN J)) (by omega) mr hT
    have hkp := ap_keep hM.2.1 r6 (i := r - J.length) (vs := mrV (toN J)) (tau := mrT (toN J)) (by omega) mr hT
    have lX : (apM r c (natL I) (r - J.length) 0 (mrV (toN J)) (mrT (toN J))).length = I.length := by rw [apM_len, ← hM.2.1, hlen]
    refine houseKeeps_ok r c I.length cap J.length xc (mrT (toN J)) (mrB (toN J)) ao xo (mrV (toN J)) (apM r c (natL I) (r - J.length) 0 (mrV (toN J)) (mrT (toN J))) (-2148) (sqZ (apM r c (natL I) (r - J.length) 0 (mrV (toN J)) (mrT (toN J)))) (sqZ (natL I)) w t2 hm r6 C0 C1 (fun w' hb => CM w' xo xc J hb (hJ.below hb) t2 (by omega) (tame_fn J 200 t4) mk) (fun w' vo vc hb hv => ?_) (fun w' po pc hx => ?_) (fun w' po pc hx => ?_) (fun w' hb => ?_) (fun w' v u h1 h2 => near_keep36 hkp h1 h2 (sq_lvl (by omega) hfX) (sq_lvl h36 hfS)) CA
    · have := CP w' r c cap ao (natL I) (r - J.length) 0 vo vc (mrV (toN J)) (mrT (toN J)) hb (hM.below hb) hv (by omega) (Nat.zero_le _) (mrT_lt _)
      rw [hlen, lv, show (((r - J.length : Nat) : Nat) : Int) = (r : Int) - (J.length : Int) by omega] at this
      refine this.mono ?_
      rintro e w'' ⟨v, rfl, ⟨qo, qc, rfl, _, hq⟩, hb2⟩
      exact ⟨qo, qc, by rw [lX], hq, hb2⟩
    · have hX : Mx w' po pc r c (apM r c (natL I) (r - J.length) 0 (mrV (toN J)) (mrT (toN J))) := ⟨hx, apM_len _ _ _ _ _ _ _, hM.2.2.1, hM.2.2.2⟩
      have := r11check_any (r : Int) (c : Int) po pc (mxL (apM r c (natL I) (r - J.length) 0 (mrV (toN J)) (mrT (toN J)))) w' hx (by rw [mxL_len]; omega)
      rw [ckE_right hX hfX, mxL_len, lX] at this
      exact this
    · have hX : Mx w' po pc r c (apM r c (natL I) (r - J.length) 0 (mrV (toN J)) (mrT (toN J))) := ⟨hx, apM_len _ _ _ _ _ _ _, hM.2.2.1, hM.2.2.2⟩
      have := r11square_any r c pc po _ w' hX hfX
      rw [lX] at this
      exact this
    · rw [← hlen]; exact r11square_any r c cap ao (natL I) w' (hM.below hb) hfS
  · refine houseKeeps_no r c I.length cap J.length xc ao xo (okB r c I.length && tmK 200 I I.length) (tmK 200 J J.length) w (by omega) ?_ C0 C1 CA
    cases h1 : (okB r c I.length && tmK 200 I I.length)
    · exact .inl rfl
    · rcases Nat.eq_zero_or_pos J.length with h2 | h2
      · exact .inr (.inl ⟨rfl, h2⟩)
      · rcases Int.lt_or_le r (J.length : Int) with h3 | h3
        · exact .inr (.inr (.inl ⟨rfl, h2, h3⟩))
        · refine .inr (.inr (.inr ⟨rfl, h2, h3, ?_⟩))
          cases h4 : tmK 200 J J.length
          · rfl
          · exact absurd ⟨h1, h2, h3, h4⟩ ht

end Go.Proofs.YtimejpbmehegeaaGreatDoor

/- The laws of layer 13, walked. -/
namespace Go.Proofs.YtimejpbmehegeaaGreatDoor
open Go.RowKit

/-- What Make answers, at any later time. -/
theorem house_cm (w : World) (hT : Tab w) : ∀ w' ao c I, Below w.heap.size w w' → BitsAt w' ao c I → 1 ≤ I.length → I.length ≤ 64 → fnK I I.length = true → mrK (toN I) = true → Calls Tryz.prog 8 #[.slice ao I.length c] w' fun e w'' => ∃ vo vc, e = .returned (.tuple #[.slice vo I.length vc, .int .u64 (mrT (toN I) : Nat), .int .u64 (mrB (toN I) : Nat), .int .i64 0]) ∧ BitsAt w'' vo vc (mxL (mrV (toN I))) ∧ Below w'.heap.size w' w'' := by
  intro w' ao c I hb hI h1 h2 hf hk
  refine (hMake_ok ao c I w' hI h1 h2 hf hk (hT.all hb)).mono ?_
  rintro e w'' ⟨vo, vc, rfl, _, hv, hb2⟩
  exact ⟨vo, vc, rfl, hv, hb2⟩

theorem house_ca (w : World) (hT : Tab w) : ∀ w', Below w.heap.size w w' → Calls Tryz.prog 12 #[] w' fun e w'' => e = .returned (.bool true) ∧ Below w'.heap.size w' w'' := by
  intro w' hb
  have hT' := hT.all hb
  refine awake13_of (mrT [4613937818241073152, 4616189618054758400]) w' (fun w2 ao hb2 hI => ?_)
  obtain ⟨e1, e2, e3⟩ := mr_345
  have hn : toN [((4613937818241073152 : Nat) : Int), ((4616189618054758400 : Nat) : Int)] = [4613937818241073152, 4616189618054758400] := rfl
  have hf : fnK [((4613937818241073152 : Nat) : Int), ((4616189618054758400 : Nat) : Int)] 2 = true := by
    show ((true && fFin 4613937818241073152) && fFin 4616189618054758400) = true
    rw [w13_facts.2.1, w13_facts.2.2.2.2.2.2.2.2.2.2.2.2]
    rfl
  have M := house_cm w' hT' w2 ao 2 [((4613937818241073152 : Nat) : Int), ((4616189618054758400 : Nat) : Int)] hb2 hI (by decide) (by decide) hf (by rw [hn, e3])
  rw [hn, e1, e2] at M
  exact M

theorem house_cp (w : World) (hT : Tab w) : ∀ w' r c cap ao S i k vo vc vs tau, Below w.heap.size w w' → Mx w' ao cap r c S → BitsAt w' vo vc (mxL vs) → i + vs.length ≤ r → k ≤ c → tau < 18446744073709551616 → Calls Tryz.prog 14 #[.agg #[.int .i64 (r : Nat), .int .i64 (c : Nat), .slice ao S.length cap], .int .i64 (i : Nat), .int .i64 (k : Nat), .slice vo vs.length vc, .int .u64 (tau : Nat)] w' fun e w'' => ∃ v, e = .returned (.tuple #[v, .int .i64 0]) ∧ NewM w'.heap.size w'' r c (apM r c S i k vs tau) v ∧ Below w'.heap.size w' w'' :=
  fun w' r c cap ao S i k vo vc vs tau hb hM hV hi hk ht => hApply_ok r c cap i k vc tau ao vo S vs w' hM hV hi hk ht (hT.all hb)

theorem houseKeeps_walk (r c : Int) (ao : Option Addr) (cap : Nat) (I : List Int) (xo : Option Addr) (xc : Nat) (J : List Int) (w : World) (hI : BitsAt w ao cap I) (hl : I.length ≤ 17592186043904) (_hr : -9223372036854775808 ≤ r ∧ r ≤ 9223372036854775807) (_hc : -9223372036854775808 ≤ c ∧ c ≤ 9223372036854775807) (hJ : BitsAt w xo xc J) (hlj : J.length ≤ 17592186043904) (hT : Tab w) :
    Calls Tryz.prog 7 #[.agg #[.int .i64 r, .int .i64 c, .slice ao I.length cap], .slice xo J.length xc] w fun e w' => e = .returned (.bool true) ∧ Below w.heap.size w w' :=
  houseKeeps_by r c ao cap I xo xc J w hI hl hJ hlj (house_cm w hT) (house_cp w hT) (house_ca w hT)

end Go.Proofs.YtimejpbmehegeaaGreatDoor

/- A struct of a sign and limbs that came in, opened. -/
namespace Go.Proofs.YtimejpbmehegeaaGreatDoor
open Go.ChangeShapes Go.WideShapes Go.ChangeAt Go.RowKit Go.Joins

theorem Tryz.own : ownKnob Tryz.prog.godebug = none := by kernel_rfl
theorem Tryz.laidOut : laidOutB Tryz.prog = true := by kernel_rfl
end Go.Proofs.YtimejpbmehegeaaGreatDoor

