/- Part 41 of the texts. -/
import Derived.Test.YtceofkjefmilfaaGreatDoorPartd40
import Derived.Test.YtceofkjefmilfaaGreatDoorPartd39
import Derived.Test.YtceofkjefmilfaaGreatDoorPartd37
import Derived.Test.YtceofkjefmilfaaGreatDoorPartd31
import Derived.Laws.CopyOwn
/- GivensOne by what givens.Turn answers. -/
namespace Go.Proofs.YtceofkjefmilfaaGreatDoor
open Go.RowKit

theorem tame_two {f g : Nat} (hf : f < 18446744073709551616) (hg : g < 18446744073709551616) (h : tmK 400 [(f : Int), (g : Int)] 2 = true) : TameO f ∧ TameO g := by
  have h0 : tmB 400 (atB [(f : Int), (g : Int)] 0) = true := tmK_at 400 _ 2 0 (by omega) h
  have h1 : tmB 400 (atB [(f : Int), (g : Int)] 1) = true := tmK_at 400 _ 2 1 (by omega) h
  exact ⟨TameO.of hf h0, TameO.of hg h1⟩
end Go.Proofs.YtceofkjefmilfaaGreatDoor

/- The law GivensKeeps, walked by what givens.Turn and givens.Rows answer. -/
namespace Go.Proofs.YtceofkjefmilfaaGreatDoor
open Go.RowKit
attribute [local go_sem ↓] Go.wp_at_zero Go.wp_at_succ

set_option maxRecDepth 20000 in
set_option maxHeartbeats 8000000 in
theorem givensKeeps_ok (r c n cap f g C s R : Nat) (ao : Option Addr) (X : List Nat) (lo z1 z2 : Int) (w : World) (h2 : 2 ≤ r) (hr : r ≤ 6) (hf : f < 18446744073709551616) (hg : g < 18446744073709551616)
    (C0 : ∀ w', Below w.heap.size w w' → Calls Tryz.prog 31 #[.agg #[.int .i64 r, .int .i64 c, .slice ao n cap], .int .i64 400] w' fun e w'' => e = .returned (.bool true) ∧ Below w'.heap.size w' w'')
    (C1 : ∀ w' ao, Below w.heap.size w w' → BitsAt w' ao 2 [(f : Int), (g : Int)] → Calls Tryz.prog 19 #[.slice ao 2 2, .int .i64 400] w' fun e w'' => e = .returned (.bool true) ∧ Below w'.heap.size w' w'')
    (C2 : ∀ w', Below w.heap.size w w' → Calls Tryz.prog 8 #[.int .u64 f, .int .u64 g] w' fun e w'' => e = .returned (.tuple #[.int .u64 (C : Nat), .int .u64 (s : Nat), .int .u64 (R : Nat), .int .i64 0]) ∧ Below w'.heap.size w' w'')
    (C3 : ∀ w', Below w.heap.size w w' → Calls Tryz.prog 13 #[.agg #[.int .i64 r, .int .i64 c, .slice ao n cap], .int .i64 0, .int .i64 ((r : Int) - 1), .int .u64 C, .int .u64 s] w' fun e w'' => ∃ po pc, e = .returned (.tuple #[.agg #[.int .i64 r, .int .i64 c, .slice po n pc], .int .i64 0]) ∧ BitsAt w'' po pc (mxL X) ∧ Below w'.heap.size w' w'')
    (C4 : ∀ w' po pc, BitsAt w' po pc (mxL X) → Calls Tryz.prog 32 #[.agg #[.int .i64 r, .int .i64 c, .slice po n pc]] w' fun e w'' => e = .returned (.int .i64 0) ∧ Below w'.heap.size w' w'')
    (C5 : ∀ w' po pc, BitsAt w' po pc (mxL X) → Calls Tryz.prog 33 #[.agg #[.int .i64 r, .int .i64 c, .slice po n pc]] w' fun e w'' => ∃ v, e = .returned v ∧ IsLv w'' v lo z1 ∧ Below w'.heap.size w' w'')
    (C6 : ∀ w', Below w.heap.size w w' → Calls Tryz.prog 33 #[.agg #[.int .i64 r, .int .i64 c, .slice ao n cap]] w' fun e w'' => ∃ v, e = .returned v ∧ IsLv w'' v lo z2 ∧ Below w'.heap.size w' w'')
    (C7 : ∀ w' v u, IsLv w' v lo z1 → IsLv w' u lo z2 → Calls Tryz.prog 20 #[v, u, .int .i64 40] w' fun e w'' => e = .returned (.bool true) ∧ Below w'.heap.size w' w'')
    (CA : ∀ w', Below w.heap.size w w' → Calls Tryz.prog 10 #[] w' fun e w'' => e = .returned (.bool true) ∧ Below w'.heap.size w' w'') :
    Calls Tryz.prog 7 #[.agg #[.int .i64 r, .int .i64 c, .slice ao n cap], .int .u64 f, .int .u64 g] w fun e w' => e = .returned (.bool true) ∧ Below w.heap.size w w' := by
  have K0 := hide C0; have K1 := hide C1; have K2 := hide C2; have K3 := hide C3; have K4 := hide C4; have K5 := hide C5; have K6 := hide C6; have K7 := hide C7; have KA := hide CA; have HF := hide hf; have HG := hide hg
  have ST := hide (show BoxM _ w.heap.size (.int .i64 r) (.int .i64 c) (.slice ao n cap) ∧ Below w.heap.size w _ from ⟨BoxM.new w (.int .i64 r) (.int .i64 c) (.slice ao n cap), below_alloc9 w (.cells #[.int .i64 r, .int .i64 c, .slice ao n cap] 35)⟩)
  have y0 := (unhide ST).1.c0; have y1 := (unhide ST).1.c1; have y2 := (unhide ST).1.c2
  have hr1 : ¬ (r : Int) < 2 := by omega
  clear C0 C1 C2 C3 C4 C5 C6 C7 CA hf hg
  go_enter Tryz.func7, Tryz.ntmps7
  go_wp2_with fail
  refine (unhide K0 _ (unhide ST).2).mono ?_
  rintro e w1 ⟨rfl, hb⟩
  have ba := below_alloc9 w1 (.cells #[.int .u64 (f : Nat), .int .u64 (g : Nat)] 23)
  have hbb := hb.trans (ba.mono hb.size)
  replace ST := hide (show BoxM _ w.heap.size (.int .i64 r) (.int .i64 c) (.slice ao n cap) ∧ Below w.heap.size w _ from ⟨(unhide ST).1.all hbb, (unhide ST).2.trans (hbb.mono (unhide ST).2.size)⟩)
  have TB := hide (two_bits w1 f g (unhide HF) (unhide HG))
  clear hb ba hbb K0 y0 y1 y2
  go_wp2_with fail
  refine (unhide K1 _ _ (unhide ST).2 (unhide TB)).mono ?_
  rintro e w2 ⟨rfl, hb⟩
  replace ST := hide (show BoxM w2 w.heap.size (.int .i64 r) (.int .i64 c) (.slice ao n cap) ∧ Below w.heap.size w w2 from ⟨(unhide ST).1.all hb, (unhide ST).2.trans (hb.mono (unhide ST).2.size)⟩)
  clear hb K1 TB HF HG
  have y0 := (unhide ST).1.c0; have y1 := (unhide ST).1.c1; have y2 := (unhide ST).1.c2
  go_wp2_with fail
  refine (unhide K2 _ (unhide ST).2).mono ?_
  rintro e w3 ⟨rfl, hb⟩
  replace ST := hide (show BoxM w3 w.heap.size (.int .i64 r) (.int .i64 c) (.slice ao n cap) ∧ Below w.heap.size w w3 from ⟨(unhide ST).1.all hb, (unhide ST).2.trans (hb.mono (unhide ST).2.size)⟩)
  clear hb K2 y0 y1 y2
  have y0 := (unhide ST).1.c0; have y1 := (unhide ST).1.c1; have y2 := (unhide ST).1.c2
  go_wp2_with fail
  refine (unhide K3 _ (unhide ST).2).mono ?_
  rintro e w4 ⟨po, pc, rfl, bx, hb⟩
  have ba := below_alloc9 w4 (.cells #[.int .i64 r, .int .i64 c, .slice po n pc] 35)
  have hbb := hb.trans (ba.mono hb.size)
  replace ST := hide (show BoxM _ w.heap.size (.int .i64 r) (.int .i64 c) (.slice ao n cap) ∧ Below w.heap.size w _ from ⟨(unhide ST).1.all hbb, (unhide ST).2.trans (hbb.mono (unhide ST).2.size)⟩)
  have XX := hide (And.intro (BoxM.new w4 (.int .i64 r) (.int .i64 c) (.slice po n pc)) (bx.below ba))
  clear hb ba hbb bx K3 y0 y1 y2
  have y0 := (unhide XX).1.c0; have y1 := (unhide XX).1.c1; have y2 := (unhide XX).1.c2
  go_wp2_with fail
  generalize w4.heap.size = gx at *
  refine (unhide K4 _ _ _ (unhide XX).2).mono ?_
  rintro e w5 ⟨rfl, hb⟩
  replace ST := hide (show BoxM w5 w.heap.size (.int .i64 r) (.int .i64 c) (.slice ao n cap) ∧ Below w.heap.size w w5 from ⟨(unhide ST).1.all hb, (unhide ST).2.trans (hb.mono (unhide ST).2.size)⟩)
  replace XX := hide (show BoxM w5 gx (.int .i64 r) (.int .i64 c) (.slice po n pc) ∧ BitsAt w5 po pc (mxL X) from ⟨(unhide XX).1.all hb, (unhide XX).2.below hb⟩)
  clear hb K4 y0 y1 y2
  go_wp2_with fail
  refine at_world (fun W => (Below w.heap.size w W ∧ BoxM W w.heap.size (.int .i64 r) (.int .i64 c) (.slice ao n cap)) ∧ BoxM W gx (.int .i64 r) (.int .i64 c) (.slice po n pc) ∧ BitsAt W po pc (mxL X)) ⟨⟨(unhide ST).2, (unhide ST).1⟩, unhide XX⟩ ?_
  clear ST XX
  rintro W0 ⟨⟨bb, x0⟩, xg, bx⟩
  have HK := hide (show ∀ w', Below W0.heap.size W0 w' → Below W0.heap.size W0 w' ∧ w'.cell? ⟨w.heap.size, 0, none⟩ = some (.int .i64 r) ∧ w'.cell? ⟨w.heap.size, 1, none⟩ = some (.int .i64 c) ∧ w'.cell? ⟨w.heap.size, 2, none⟩ = some (.slice ao n cap) ∧ w'.cell? ⟨gx, 0, none⟩ = some (.int .i64 r) ∧ w'.cell? ⟨gx, 1, none⟩ = some (.int .i64 c) ∧ w'.cell? ⟨gx, 2, none⟩ = some (.slice po n pc) from fun w' h => ⟨h, (x0.all h).c0, (x0.all h).c1, (x0.all h).c2, (xg.all h).c0, (xg.all h).c1, (xg.all h).c2⟩)
  have HW := hide (fun w' (h : Below W0.heap.size W0 w') => bb.trans (h.mono bb.size))
  have HB := hide (fun w' (h : Below W0.heap.size W0 w') => bx.below h)
  clear bb x0 xg bx
  obtain ⟨E1, hE1⟩ : ∃ E1, oE z1 lo = E1 := ⟨_, rfl⟩
  obtain ⟨E2, hE2⟩ : ∃ E2, oE z2 lo = E2 := ⟨_, rfl⟩
  have H1 := hide hE1; have H2 := hide hE2
  clear hE1 hE2
  go_region_held3 (fun w' => Below W0.heap.size W0 w' ∧ w'.cell? ⟨w.heap.size, 0, none⟩ = some (.int .i64 r) ∧ w'.cell? ⟨w.heap.size, 1, none⟩ = some (.int .i64 c) ∧ w'.cell? ⟨w.heap.size, 2, none⟩ = some (.slice ao n cap) ∧ w'.cell? ⟨gx, 0, none⟩ = some (.int .i64 r) ∧ w'.cell? ⟨gx, 1, none⟩ = some (.int .i64 c) ∧ w'.cell? ⟨gx, 2, none⟩ = some (.slice po n pc))
    (first | exact unhide HK _ (Below.refl _ _).drew | exact unhide HK _ (by assumption))
    (first
      | (go_at_call_of 33 (Value.agg #[.int .i64 r, .int .i64 c, .slice po n pc]); refine (unhide K5 _ _ _ (unhide HB _ (And.left (by assumption)))).mono ?_; rintro e wa ⟨v, rfl, ⟨n5, a5, c5, L5, rfl, i5⟩, hb1⟩; have hBa : Below W0.heap.size W0 wa := Below.trans (And.left (by assumption)) (hb1.mono (Below.size (And.left (by assumption)))); have Q5 := hide (show IsLv wa (.agg #[.bool n5, .slice a5 L5.length c5, .int .i64 (oE z1 lo)]) lo z1 from ⟨n5, a5, c5, L5, rfl, i5⟩); clear hb1 i5; generalize L5.length = l5 at *; rw [unhide H1]; rw [unhide H1] at Q5)
      | (go_at_call_of 33 (Value.agg #[.int .i64 r, .int .i64 c, .slice ao n cap]); refine (unhide K6 _ (unhide HW _ (And.left (by assumption)))).mono ?_; rintro e wc ⟨v, rfl, ⟨n6, a6, c6, L6, rfl, i6⟩, hb1⟩; have hBc : Below W0.heap.size W0 wc := Below.trans (And.left (by assumption)) (hb1.mono (Below.size (And.left (by assumption)))); have Q6 := hide (show IsLv wc (.agg #[.bool n6, .slice a6 L6.length c6, .int .i64 (oE z2 lo)]) lo z2 from ⟨n6, a6, c6, L6, rfl, i6⟩); replace Q5 := hide ((unhide Q5).below hb1); clear hb1 i6; generalize L6.length = l6 at *; rw [unhide H2]; rw [unhide H2] at Q6)
      | (go_at_call 20; refine (unhide K7 _ _ _ (unhide Q5) (unhide Q6)).mono ?_; rintro e wd ⟨rfl, hb1⟩; have hBd : Below W0.heap.size W0 wd := Below.trans (And.left (by assumption)) (hb1.mono (Below.size (And.left (by assumption)))); clear hb1 Q5 Q6)
      | (go_at_call 10; refine (unhide KA _ (unhide HW _ (And.left (by assumption)))).mono ?_; rintro e we ⟨rfl, hb1⟩; have hBe : Below W0.heap.size W0 we := Below.trans (And.left (by assumption)) (hb1.mono (Below.size (And.left (by assumption)))); clear hb1)
      | fail "NO ARM")
  have hn : Below W0.heap.size W0 we := And.left (by assumption)
  go_wp2_with fail
  go_ret
  exact ⟨rfl, unhide HW _ hn⟩

end Go.Proofs.YtceofkjefmilfaaGreatDoor

/- GivensKeeps by what givens.Turn and givens.Rows answer. -/
namespace Go.Proofs.YtceofkjefmilfaaGreatDoor
open Go.RowKit
attribute [local go_sem ↓] Go.wp_at_zero Go.wp_at_succ

set_option maxRecDepth 20000 in
set_option maxHeartbeats 8000000 in
theorem givensKeeps_no (r c : Int) (n cap f g : Nat) (ao : Option Addr) (b1 b2 : Bool) (w : World) (h : b1 = false ∨ (b1 = true ∧ b2 = false) ∨ (b1 = true ∧ b2 = true ∧ r < 2)) (hf : f < 18446744073709551616) (hg : g < 18446744073709551616)
    (C0 : ∀ w', Below w.heap.size w w' → Calls Tryz.prog 31 #[.agg #[.int .i64 r, .int .i64 c, .slice ao n cap], .int .i64 400] w' fun e w'' => e = .returned (.bool b1) ∧ Below w'.heap.size w' w'')
    (C1 : ∀ w' ao, Below w.heap.size w w' → BitsAt w' ao 2 [(f : Int), (g : Int)] → Calls Tryz.prog 19 #[.slice ao 2 2, .int .i64 400] w' fun e w'' => e = .returned (.bool b2) ∧ Below w'.heap.size w' w'')
    (CA : ∀ w', Below w.heap.size w w' → Calls Tryz.prog 10 #[] w' fun e w'' => e = .returned (.bool true) ∧ Below w'.heap.size w' w'') :
    Calls Tryz.prog 7 #[.agg #[.int .i64 r, .int .i64 c, .slice ao n cap], .int .u64 f, .int .u64 g] w fun e w' => e = .returned (.bool true) ∧ Below w.heap.size w w' := by
  have K0 := hide C0; have K1 := hide C1; have KA := hide CA; have HF := hide hf; have HG := hide hg
  have ST := hide (show BoxM _ w.heap.size (.int .i64 r) (.int .i64 c) (.slice ao n cap) ∧ Below w.heap.size w _ from ⟨BoxM.new w (.int .i64 r) (.int .i64 c) (.slice ao n cap), below_alloc9 w (.cells #[.int .i64 r, .int .i64 c, .slice ao n cap] 35)⟩)
  have y0 := (unhide ST).1.c0; have y1 := (unhide ST).1.c1; have y2 := (unhide ST).1.c2
  clear C0 C1 CA hf hg
  go_enter Tryz.func7, Tryz.ntmps7
  go_wp2_with fail
  refine (unhide K0 _ (unhide ST).2).mono ?_
  rintro e w1 ⟨rfl, hb⟩
  rcases h with rfl | ⟨rfl, rfl⟩ | ⟨rfl, rfl, hr⟩
  · have BB := hide ((unhide ST).2.trans (hb.mono (unhide ST).2.size))
    clear hb K0 K1 y0 y1 y2 ST
    go_wp2_with fail
    refine (unhide KA _ (unhide BB)).mono ?_
    rintro e w8 ⟨rfl, hb⟩
    replace BB := hide ((unhide BB).trans (hb.mono (unhide BB).size))
    clear hb KA
    go_wp2
    go_ret
    exact ⟨rfl, unhide BB⟩
  · have ba := below_alloc9 w1 (.cells #[.int .u64 (f : Nat), .int .u64 (g : Nat)] 23)
    have hbb := hb.trans (ba.mono hb.size)
    have BB := hide ((unhide ST).2.trans (hbb.mono (unhide ST).2.size))
    have TB := hide (two_bits w1 f g (unhide HF) (unhide HG))
    clear hb ba hbb K0 y0 y1 y2 ST
    go_wp2_with fail
    refine (unhide K1 _ _ (unhide BB) (unhide TB)).mono ?_
    rintro e w2 ⟨rfl, hb⟩
    replace BB := hide ((unhide BB).trans (hb.mono (unhide BB).size))
    clear hb K1 TB
    go_wp2_with fail
    refine (unhide KA _ (unhide BB)).mono ?_
    rintro e w8 ⟨rfl, hb⟩
    replace BB := hide ((unhide BB).trans (hb.mono (unhide BB).size))
    clear hb KA
    go_wp2
    go_ret
    exact ⟨rfl, unhide BB⟩
  · have ba := below_alloc9 w1 (.cells #[.int .u64 (f : Nat), .int .u64 (g : Nat)] 23)
    have hbb := hb.trans (ba.mono hb.size)
    replace ST := hide (show BoxM _ w.heap.size (.int .i64 r) (.int .i64 c) (.slice ao n cap) ∧ Below w.heap.size w _ from ⟨(unhide ST).1.all hbb, (unhide ST).2.trans (hbb.mono (unhide ST).2.size)⟩)
    have TB := hide (two_bits w1 f g (unhide HF) (unhide HG))
    clear hb ba hbb K0 y0 y1 y2
    go_wp2_with fail
    refine (unhide K1 _ _ (unhide ST).2 (unhide TB)).mono ?_
    rintro e w2 ⟨rfl, hb⟩
    have X1 := (unhide ST).1.all hb
    have BB := hide ((unhide ST).2.trans (hb.mono (unhide ST).2.size))
    have y0 := X1.c0
    clear hb K1 TB ST X1
    go_wp2_with fail
    refine (unhide KA _ (unhide BB)).mono ?_
    rintro e w8 ⟨rfl, hb⟩
    replace BB := hide ((unhide BB).trans (hb.mono (unhide BB).size))
    clear hb KA
    go_wp2
    go_ret
    exact ⟨rfl, unhide BB⟩

theorem near_keep {w : World} {v u : Value} {z1 z2 : Int} (hi : ((z1 - z2).natAbs : Int) * 2 ^ 41 ≤ z2) (h1 : IsLv w v (-2148) z1) (h2 : IsLv w u (-2148) z2) (l1 : Lvl (-2148) 4203 z1) (l2 : Lvl (-2148) 4203 z2) :
    Calls Tryz.prog 20 #[v, u, .int .i64 40] w fun e w' => e = .returned (.bool true) ∧ Below w.heap.size w w' := by
  have := near_any 40 h1 h2 l1 l2 (by decide) (by decide) (by decide) (by decide)
  have h40 : ((z1 - z2).natAbs : Int) * 2 ^ 40 ≤ z2 := by
    have e : (2 : Int) ^ 41 = 2 ^ 40 * 2 := by decide
    rw [e] at hi
    have h0 : (0 : Int) ≤ ((z1 - z2).natAbs : Int) * 2 ^ 40 := Int.mul_nonneg (by omega) (by decide)
    rw [← Int.mul_assoc] at hi
    omega
  rw [decide_eq_true h40] at this
  exact this

theorem sq_lvl {S : List Nat} (h36 : S.length ≤ 36) (hf : ∀ x ∈ S, fFin x = true) : Lvl (-2148) 4203 (sqZ S) := by
  have := sqK_lvl (mxL S) S.length (by omega) (all_fin hf) S.length (Nat.le_refl _)
  rwa [sqK_sm] at this

theorem ckE_right {w : World} {ao : Option Addr} {cap r c : Nat} {S : List Nat} (h : Mx w ao cap r c S) (hf : ∀ x ∈ S, fFin x = true) : ckE (r : Int) (c : Int) (mxL S) = 0 := by
  have h1 : okB (r : Int) (c : Int) (mxL S).length = true := by
    rw [mxL_len]
    exact mx_ok h
  unfold ckE
  rw [if_pos h1, if_pos (by rw [mxL_len]; exact all_fin hf)]

/-- GivensKeeps, by what givens.Turn and givens.Rows answer. -/
theorem givensKeeps_by (r c : Int) (ao : Option Addr) (cap : Nat) (I : List Int) (f g : Nat) (w : World) (hI : BitsAt w ao cap I) (hl : I.length ≤ 17592186043904) (hf : f < 18446744073709551616) (hg : g < 18446744073709551616)
    (CT : ∀ w' a b, Below w.heap.size w w' → a < 18446744073709551616 → b < 18446744073709551616 → fFin a = true → fFin b = true → Calls Tryz.prog 8 #[.int .u64 (a : Nat), .int .u64 (b : Nat)] w' fun e w'' => e = .returned (.tuple #[.int .u64 (gvC a b : Nat), .int .u64 (gvS a b : Nat), .int .u64 (gvR a b : Nat), .int .i64 0]) ∧ Below w'.heap.size w' w'')
    (CR : ∀ w' r c cap ao S i k C s, Below w.heap.size w w' → Mx w' ao cap r c S → i < r → k < r → i ≠ k → C < 18446744073709551616 → s < 18446744073709551616 → Calls Tryz.prog 13 #[.agg #[.int .i64 (r : Nat), .int .i64 (c : Nat), .slice ao S.length cap], .int .i64 (i : Nat), .int .i64 (k : Nat), .int .u64 (C : Nat), .int .u64 (s : Nat)] w' fun e w'' => ∃ po pc, e = .returned (.tuple #[.agg #[.int .i64 r, .int .i64 c, .slice po S.length pc], .int .i64 0]) ∧ BitsAt w'' po pc (mxL (roM r c S i k C s)) ∧ Below w'.heap.size w' w'')
    (CA : ∀ w', Below w.heap.size w w' → Calls Tryz.prog 10 #[] w' fun e w'' => e = .returned (.bool true) ∧ Below w'.heap.size w' w'') :
    Calls Tryz.prog 7 #[.agg #[.int .i64 r, .int .i64 c, .slice ao I.length cap], .int .u64 f, .int .u64 g] w fun e w' => e = .returned (.bool true) ∧ Below w.heap.size w w' := by
  have C0 := fun w' (hb : Below w.heap.size w w') => r11tame_any r c ao cap I 400 w' (hI.below hb) (by omega) (by omega)
  have C1 := fun w' ao (_hb : Below w.heap.size w w') (h : BitsAt w' ao 2 [(f : Int), (g : Int)]) => r9tame_any ao 2 [(f : Int), (g : Int)] 400 w' h (by simp) (by omega)
  simp only [List.length_cons, List.length_nil, Nat.zero_add] at C1
  by_cases ht : (okB r c I.length && tmK 400 I I.length) = true ∧ tmK 400 [(f : Int), (g : Int)] (1 + 1) = true ∧ 2 ≤ r
  · obtain ⟨t1, t2, t3⟩ := ht
    rw [t1] at C0
    rw [t2] at C1
    have hok : okB r c I.length = true ∧ tmK 400 I I.length = true := by simpa using t1
    obtain ⟨r, c, rfl, rfl, hM, hS⟩ := Mx.of hI hok.1
    have hlen : (natL I).length = I.length := natL_len I
    have h36 := hM.small
    have h2 : 2 ≤ r := by omega
    obtain ⟨tf, tg⟩ := tame_two hf hg t2
    obtain ⟨q1, q2, q3, q4, q5, q6, q7, q8, q9⟩ := gv_facts tf tg
    have hT : ∀ p q, p < r → q < c → TameO (elM c (natL I) p q) := fun p q hp hq => by
      have hb := tmK_at 400 I I.length (p * c + q) (by rw [← hlen, hM.2.1]; exact place_lt hp hq) hok.2
      rw [← hS, mxL_at] at hb
      exact TameO.of (hM.el_lt p q) hb
    have hfS : ∀ x ∈ natL I, fFin x = true := fin_all (by rw [hS, hlen]; exact tame_fn I 400 hok.2)
    have hne : 0 ≠ r - 1 := by omega
    have hfX := rows_fin (i := 0) (k := r - 1) (by omega) (by omega) q1 q2 q7 hT
    have hkp := rows_keep hM.2.1 (i := 0) (k := r - 1) (by omega) (by omega) hne q1 q2 q7 hT
    have lX : (roM r c (natL I) 0 (r - 1) (gvC f g) (gvS f g)).length = I.length := by rw [roM_len, ← hM.2.1, hlen]
    refine givensKeeps_ok r c I.length cap f g (gvC f g) (gvS f g) (gvR f g) ao (roM r c (natL I) 0 (r - 1) (gvC f g) (gvS f g)) (-2148) (sqZ (roM r c (natL I) 0 (r - 1) (gvC f g) (gvS f g))) (sqZ (natL I)) w h2 hM.2.2.1 hf hg C0 C1 (fun w' hb => CT w' f g hb hf hg tf.2.1 tg.2.1) (fun w' hb => ?_) (fun w' po pc hx => ?_) (fun w' po pc hx => ?_) (fun w' hb => ?_) (fun w' v u h1 h2 => near_keep hkp h1 h2 (sq_lvl (by omega) hfX) (sq_lvl h36 hfS)) CA
    · have := CR w' r c cap ao (natL I) 0 (r - 1) (gvC f g) (gvS f g) hb (hM.below hb) (by omega) (by omega) hne q4 q5
      rw [hlen, show (((r - 1 : Nat) : Nat) : Int) = (r : Int) - 1 by omega] at this
      exact this
    · have hX : Mx w' po pc r c (roM r c (natL I) 0 (r - 1) (gvC f g) (gvS f g)) := ⟨hx, roM_len _ _ _ _ _ _ _, hM.2.2.1, hM.2.2.2⟩
      have := r11check_any (r : Int) (c : Int) po pc (mxL (roM r c (natL I) 0 (r - 1) (gvC f g) (gvS f g))) w' hx (by rw [mxL_len]; omega)
      rw [ckE_right hX hfX, mxL_len, lX] at this
      exact this
    · have hX : Mx w' po pc r c (roM r c (natL I) 0 (r - 1) (gvC f g) (gvS f g)) := ⟨hx, roM_len _ _ _ _ _ _ _, hM.2.2.1, hM.2.2.2⟩
      have := r11square_any r c pc po _ w' hX hfX
      rw [lX] at this
      exact this
    · rw [← hlen]; exact r11square_any r c cap ao (natL I) w' (hM.below hb) hfS
  · refine givensKeeps_no r c I.length cap f g ao (okB r c I.length && tmK 400 I I.length) (tmK 400 [(f : Int), (g : Int)] (1 + 1)) w ?_ hf hg C0 C1 CA
    cases h1 : (okB r c I.length && tmK 400 I I.length)
    · exact .inl rfl
    · cases h2 : tmK 400 [(f : Int), (g : Int)] (1 + 1)
      · exact .inr (.inl ⟨rfl, rfl⟩)
      · refine .inr (.inr ⟨rfl, rfl, ?_⟩)
        rcases Int.lt_or_le r 2 with h | h
        · exact h
        · exact absurd ⟨h1, h2, h⟩ ht

end Go.Proofs.YtceofkjefmilfaaGreatDoor

/- The laws GivensTurns, GivensOne, GivensRight, with the program's own Turn. -/
namespace Go.Proofs.YtceofkjefmilfaaGreatDoor
open Go.RowKit

theorem ct12 (w : World) (hT : Tab w) : ∀ w' a b, Below w.heap.size w w' → a < 18446744073709551616 → b < 18446744073709551616 → fFin a = true → fFin b = true → Calls Tryz.prog 8 #[.int .u64 (a : Nat), .int .u64 (b : Nat)] w' fun e w'' => e = .returned (.tuple #[.int .u64 (gvC a b : Nat), .int .u64 (gvS a b : Nat), .int .u64 (gvR a b : Nat), .int .i64 0]) ∧ Below w'.heap.size w' w'' :=
  fun w' a b hb ha hb' fa fb => gturn_ok a b w' ha hb' fa fb (hT.all hb)

theorem ca12 (w : World) (hT : Tab w) : ∀ w', Below w.heap.size w w' → Calls Tryz.prog 10 #[] w' fun e w'' => e = .returned (.bool true) ∧ Below w'.heap.size w' w'' := fun w' hb => by
  refine awake12_of (gvC 4613937818241073152 4616189618054758400) (gvS 4613937818241073152 4616189618054758400) w' (fun w'' hb2 => ?_)
  have := ct12 w hT w'' 4613937818241073152 4616189618054758400 (hb.trans (hb2.mono hb.size)) (by decide) (by decide) fin_345.1 fin_345.2
  rw [gvR_345] at this
  exact this

end Go.Proofs.YtceofkjefmilfaaGreatDoor

/- Package givens: turned. -/
namespace Go.Proofs.YtceofkjefmilfaaGreatDoor
open Go.RowKit
attribute [local go_sem ↓] Go.wp_at_zero Go.wp_at_succ

/-- What holds in turned. -/
structure TuSt (w wr : World) (r c n cap f1 s1 k1 f2 s2 k2 : Nat) (ao : Option Addr) (S : List Nat) : Prop where
  bel : Below w.heap.size w wr
  m : BoxM wr w.heap.size (.int .i64 r) (.int .i64 c) (.slice ao n cap)
  u : BoxT 76 wr (w.heap.size + 1) (.int .i64 f1) (.int .i64 s1) (.int .i64 k1)
  l : BoxT 76 wr (w.heap.size + 1 + 1) (.int .i64 f2) (.int .i64 s2) (.int .i64 k2)
  res : BoxM wr (w.heap.size + 1 + 1 + 1) (.int .i64 0) (.int .i64 0) (.slice none 0 0)
  row : RowB wr (w.heap.size + 1 + 1 + 1 + 1) S
theorem TuSt.all {w wr w' : World} {r c n cap f1 s1 k1 f2 s2 k2 : Nat} {ao : Option Addr} {S : List Nat} (h : TuSt w wr r c n cap f1 s1 k1 f2 s2 k2 ao S) (hb : Below wr.heap.size wr w') : TuSt w w' r c n cap f1 s1 k1 f2 s2 k2 ao S :=
  ⟨h.bel.trans (hb.mono h.bel.size), h.m.all hb, h.u.all hb, h.l.all hb, h.res.all hb, h.row.below hb h.row.lt⟩
theorem TuSt.set {w wr : World} {r c n cap f1 s1 k1 f2 s2 k2 : Nat} {ao : Option Addr} {S : List Nat} (h : TuSt w wr r c n cap f1 s1 k1 f2 s2 k2 ao S) (p x : Nat) : TuSt w (wr.setCell ⟨w.heap.size + 1 + 1 + 1 + 1, p, none⟩ (.int .u64 (x : Int))) r c n cap f1 s1 k1 f2 s2 k2 ao (S.set p x) :=
  ⟨h.bel.setCell (p := ⟨w.heap.size + 1 + 1 + 1 + 1, p, none⟩) (by show w.heap.size ≤ w.heap.size + 1 + 1 + 1 + 1; omega) _, h.m.other (p := ⟨w.heap.size + 1 + 1 + 1 + 1, p, none⟩) (by show w.heap.size ≠ w.heap.size + 1 + 1 + 1 + 1; omega) _, h.u.other (p := ⟨w.heap.size + 1 + 1 + 1 + 1, p, none⟩) (by show w.heap.size + 1 ≠ w.heap.size + 1 + 1 + 1 + 1; omega) _, h.l.other (p := ⟨w.heap.size + 1 + 1 + 1 + 1, p, none⟩) (by show w.heap.size + 1 + 1 ≠ w.heap.size + 1 + 1 + 1 + 1; omega) _, h.res.other (p := ⟨w.heap.size + 1 + 1 + 1 + 1, p, none⟩) (by show w.heap.size + 1 + 1 + 1 ≠ w.heap.size + 1 + 1 + 1 + 1; omega) _, h.row.set p x⟩
/-- Four boxes, a row, and what a copy leaves. -/
theorem TuSt.start (w : World) (r c n cap f1 s1 k1 f2 s2 k2 : Nat) (ao : Option Addr) :
    TuSt w (((((w.alloc (.cells #[.int .i64 r, .int .i64 c, .slice ao n cap] 35)).alloc (.cells #[.int .i64 f1, .int .i64 s1, .int .i64 k1] 76)).alloc (.cells #[.int .i64 f2, .int .i64 s2, .int .i64 k2] 76)).alloc (.cells #[.int .i64 0, .int .i64 0, .slice none 0 0] 35)).alloc (.cells (madeCells #[.int .u64 0] n) 23)) r c n cap f1 s1 k1 f2 s2 k2 ao (List.replicate n 0) := by
  have b0 := below_alloc9 w (.cells #[.int .i64 r, .int .i64 c, .slice ao n cap] 35)
  have s0 := size_alloc9 w (.cells #[.int .i64 r, .int .i64 c, .slice ao n cap] 35)
  have x0 := BoxM.new w (.int .i64 r) (.int .i64 c) (.slice ao n cap)
  generalize w.alloc (.cells #[.int .i64 r, .int .i64 c, .slice ao n cap] 35) = w0 at *
  have b1 := below_alloc9 w0 (.cells #[.int .i64 f1, .int .i64 s1, .int .i64 k1] 76)
  have z1 := size_alloc9 w0 (.cells #[.int .i64 f1, .int .i64 s1, .int .i64 k1] 76)
  have x1 := BoxT.new 76 w0 (.int .i64 f1) (.int .i64 s1) (.int .i64 k1)
  generalize w0.alloc (.cells #[.int .i64 f1, .int .i64 s1, .int .i64 k1] 76) = w1 at *
  have b2 := below_alloc9 w1 (.cells #[.int .i64 f2, .int .i64 s2, .int .i64 k2] 76)
  have z2 := size_alloc9 w1 (.cells #[.int .i64 f2, .int .i64 s2, .int .i64 k2] 76)
  have x2 := BoxT.new 76 w1 (.int .i64 f2) (.int .i64 s2) (.int .i64 k2)
  generalize w1.alloc (.cells #[.int .i64 f2, .int .i64 s2, .int .i64 k2] 76) = w2 at *
  have b3 := below_alloc9 w2 (.cells #[.int .i64 0, .int .i64 0, .slice none 0 0] 35)
  have z3 := size_alloc9 w2 (.cells #[.int .i64 0, .int .i64 0, .slice none 0 0] 35)
  have x3 := BoxM.new w2 (.int .i64 0) (.int .i64 0) (.slice none 0 0)
  generalize w2.alloc (.cells #[.int .i64 0, .int .i64 0, .slice none 0 0] 35) = w3 at *
  have b4 := below_alloc9 w3 (.cells (madeCells #[.int .u64 0] n) 23)
  have x4 := RowB.made w3 n
  rw [s0] at x1 z1
  rw [z1] at x2 z2
  rw [z2] at x3 z3
  rw [z3] at x4
  have c1 := b0.trans (b1.mono b0.size)
  have c2 := c1.trans (b2.mono c1.size)
  have c3 := c2.trans (b3.mono c2.size)
  exact ⟨c3.trans (b4.mono c3.size), (((x0.all b1).all b2).all b3).all b4, ((x1.all b2).all b3).all b4, (x2.all b3).all b4, x3.all b4, x4⟩
/-- Behind the copy. -/
theorem TuSt.copied {w wr w' : World} {r c n cap f1 s1 k1 f2 s2 k2 : Nat} {ao : Option Addr} {S T : List Nat} (h : TuSt w wr r c n cap f1 s1 k1 f2 s2 k2 ao S) (hb : Below (w.heap.size + 1 + 1 + 1 + 1) wr w') (hr : RowB w' (w.heap.size + 1 + 1 + 1 + 1) T) : TuSt w w' r c n cap f1 s1 k1 f2 s2 k2 ao T :=
  ⟨h.bel.trans (hb.mono (by omega)), h.m.below hb (by omega), h.u.below hb (by omega), h.l.below hb (by omega), h.res.below hb (by omega), hr⟩

theorem RowB.three {w : World} {b g : Nat} {S : List Nat} (h : RowB w b S) (hg : b ≠ g) (u u' u'' : Value) : RowB (((w.setCell ⟨g, 0, none⟩ u).setCell ⟨g, 1, none⟩ u').setCell ⟨g, 2, none⟩ u'') b S := by
  unfold RowB
  rw [Below.heap_setCell _ ⟨g, 2, none⟩ u'' b hg, Below.heap_setCell _ ⟨g, 1, none⟩ u' b hg, Below.heap_setCell _ ⟨g, 0, none⟩ u b hg]
  exact h
/-- What copy leaves of a list of numbers in a row that was made. -/
theorem copy_run (W : World) (g n cap : Nat) (ao : Option Addr) (S : List Nat) (h : RowB W g (List.replicate n 0)) (hS : BitsAt W ao cap (mxL S)) (hl : S.length = n) :
    ∃ w', (∀ ty, (Builtin.copy_ #[33, 33] ty #[.slice (some ⟨g, 0, none⟩) n n, .slice ao n cap]).run Tryz.prog W = .ok (.int .i64 (n : Int)) w') ∧ RowB w' g S ∧ Below g W w' := by
  rcases Nat.eq_zero_or_pos n with e | e
  · subst e
    obtain rfl : S = [] := List.eq_nil_of_length_eq_zero hl
    exact ⟨W, fun ty => run_copy_none W _ _ ty 23 _ _ 0 0 0 cap Tryz.underlying33 (by kernel_rfl) rfl, h, Below.refl _ _⟩
  · obtain ⟨b, off, rfl, hb, hc⟩ := hS.ne (by rw [mxL_len]; omega)
    have hcs : ∀ j v, (S.map bitV)[j]? = some v → W.cell? ((⟨b, off, none⟩ : Addr).add j) = some v := by
      intro j v hv
      rw [List.getElem?_map] at hv
      obtain ⟨x, hx, rfl⟩ := Option.map_eq_some_iff.1 hv
      have hj : j < S.length := (List.getElem?_eq_some_iff.1 hx).1
      have := hc j (by rw [mxL_len]; exact hj)
      rw [mxL_at] at this
      rw [show (⟨b, off, none⟩ : Addr).add j = ⟨b, off + j, none⟩ from by simp [Addr.add], this]
      rw [List.getD_eq_getElem?_getD, hx]
      rfl
    have hlen : (S.map bitV).length = n := by rw [List.length_map, hl]
    have run := fun ty => run_copy_row Tryz.prog W 33 33 ty 23 g 0 n n ⟨b, off, none⟩ n cap ((List.replicate n 0).map bitV).toArray 23 (S.map bitV) Tryz.underlying33 (by kernel_rfl) h (by rw [hlen]; exact (Nat.min_self n).symm) hcs (by rw [hlen]; simp) (fun v hv => by obtain ⟨x, _, rfl⟩ := List.mem_map.1 hv; rfl)
    refine ⟨_, fun ty => (run ty).trans (by rw [hlen]; rfl), ?_, below_setRow (Below.refl _ _) (Nat.le_refl _) _⟩
    unfold RowB
    rw [setRow_heap W g _ _ 23 _ h]
    congr 3
    simp

set_option maxRecDepth 20000 in
set_option maxHeartbeats 8000000 in
theorem turned_of (r c n cap f1 s1 k f2 s2 k2 C s : Nat) (ao : Option Addr) (TJ : Nat → List Nat) (P Q X Y U V : Nat → Nat) (w : World) (h36 : n ≤ 36) (h6 : k ≤ 6) (hS : BitsAt w ao cap (mxL (TJ 0))) (lJ : ∀ j, (TJ j).length = n)
    (hP : ∀ j, j < k → P j < n ∧ Q j < n ∧ P j ≠ Q j ∧ (TJ j)[P j]?.getD 0 = X j ∧ (TJ j)[Q j]?.getD 0 = Y j ∧ ((TJ j).set (P j) (U j)).set (Q j) (V j) = TJ (j + 1))
    (C1 : ∀ w' j, j < k → Calls Tryz.prog 85 #[.agg #[.int .i64 f1, .int .i64 s1, .int .i64 k], .int .i64 (j : Nat)] w' fun e w'' => e = .returned (.int .i64 (P j : Nat)) ∧ Below w'.heap.size w' w'')
    (C2 : ∀ w' j, j < k → Calls Tryz.prog 85 #[.agg #[.int .i64 f2, .int .i64 s2, .int .i64 k2], .int .i64 (j : Nat)] w' fun e w'' => e = .returned (.int .i64 (Q j : Nat)) ∧ Below w'.heap.size w' w'')
    (C3 : ∀ w' j, Below w.heap.size w w' → j < k → Calls Tryz.prog 86 #[.int .u64 (X j : Nat), .int .u64 (Y j : Nat), .int .u64 C, .int .u64 s] w' fun e w'' => e = .returned (.tuple #[.int .u64 (U j : Nat), .int .u64 (V j : Nat)]) ∧ Below w'.heap.size w' w'') :
    Calls Tryz.prog 48 #[.agg #[.int .i64 r, .int .i64 c, .slice ao n cap], .agg #[.int .i64 f1, .int .i64 s1, .int .i64 k], .agg #[.int .i64 f2, .int .i64 s2, .int .i64 k2], .int .u64 C, .int .u64 s] w fun e w' => ∃ g, e = .returned (.agg #[.int .i64 r, .int .i64 c, .slice (some ⟨g, 0, none⟩) n n]) ∧ w.heap.size ≤ g ∧ RowB w' g (TJ k) ∧ Below w.heap.size w w' := by
  have ST := hide (TuSt.start w r c n cap f1 s1 k f2 s2 k2 ao)
  have hmk := run_make_row' (P := Tryz.prog) 33 23 (.int .u64 0) 8 Tryz.underlying33 (by kernel_rfl) rfl .i64 .i64 n (by omega) (by omega)
  have HP := hide hP; have K1 := hide C1; have K2 := hide C2; have K3 := hide C3; have LJ := hide lJ; have HS := hide hS
  obtain ⟨w5, hcp, hr5, hb5⟩ := copy_run _ (w.heap.size + 1 + 1 + 1 + 1) n cap ao (TJ 0) (unhide ST).row (hS.below (unhide ST).bel) (lJ 0)
  have ST5 := hide ((unhide ST).copied hb5 hr5)
  clear hP C1 C2 C3 lJ hS hr5 hb5
  have y0 := (unhide ST).m.c0; have y1 := (unhide ST).m.c1; have y2 := (unhide ST).m.c2
  have q0 := (unhide ST5).u.c0; have q1 := (unhide ST5).u.c1; have q2 := (unhide ST5).u.c2
  go_enter Tryz.func48, Tryz.ntmps48
  go_wp2_with fail
  clear hmk hcp y0 y1 y2 q0 q1 q2 ST
  go_loopw [25] (fun a wr => ∃ j : Nat, j ≤ k ∧ a = .int .i64 j ∧ Hid (TuSt w wr r c n cap f1 s1 k f2 s2 k2 ao (TJ j))) (fun a _ => k - (intOf a).toNat)
  case atStart => exact ⟨0, Nat.zero_le _, rfl, ST5⟩
  case round =>
    clear ST5
    obtain ⟨j, hj, rfl, hS⟩ := hrel
    by_cases hlt : j < k
    · have hjI : (j : Int) < (k : Int) := by omega
      obtain ⟨hp, hq, hne, hx, hy, hset⟩ := unhide HP j hlt
      have KP := hide (fun w' => unhide K1 w' j hlt); have KQ := hide (fun w' => unhide K2 w' j hlt); have KT := hide (fun w' hb => unhide K3 w' j hb hlt)
      have LL := hide (unhide LJ j); have HX := hide hx; have HY := hide hy; have HN := hide hset
      generalize hTT : TJ j = TT at *
      generalize hTN : TJ (j + 1) = TN at *
      clear HP K1 K2 K3 LJ hx hy hset
      generalize P j = p at *
      generalize Q j = q at *
      generalize X j = x at *
      generalize Y j = y at *
      generalize U j = u at *
      generalize V j = v at *
      have hpI : (p : Int) < (n : Int) := by omega
      have hqI : (q : Int) < (n : Int) := by omega
      go_wp2_with fail
      refine at_world (fun W => TuSt w W r c n cap f1 s1 k f2 s2 k2 ao TT) (unhide hS) ?_
      clear hS
      intro W st
      have ST := hide st
      have HK := hide (fun w' (h : Below W.heap.size W w') => (show Below W.heap.size W w' ∧ (w'.cell? ⟨w.heap.size + 1, 0, none⟩ = some (.int .i64 f1) ∧ w'.cell? ⟨w.heap.size + 1, 1, none⟩ = some (.int .i64 s1) ∧ w'.cell? ⟨w.heap.size + 1, 2, none⟩ = some (.int .i64 k)) ∧ (w'.cell? ⟨w.heap.size + 1 + 1, 0, none⟩ = some (.int .i64 f2) ∧ w'.cell? ⟨w.heap.size + 1 + 1, 1, none⟩ = some (.int .i64 s2) ∧ w'.cell? ⟨w.heap.size + 1 + 1, 2, none⟩ = some (.int .i64 k2)) from
        have y := st.all h; ⟨h, ⟨y.u.c0, y.u.c1, y.u.c2⟩, y.l.c0, y.l.c1, y.l.c2⟩))
      clear st
      go_region_held3 (fun w' => Below W.heap.size W w' ∧ (w'.cell? ⟨w.heap.size + 1, 0, none⟩ = some (.int .i64 f1) ∧ w'.cell? ⟨w.heap.size + 1, 1, none⟩ = some (.int .i64 s1) ∧ w'.cell? ⟨w.heap.size + 1, 2, none⟩ = some (.int .i64 k)) ∧ (w'.cell? ⟨w.heap.size + 1 + 1, 0, none⟩ = some (.int .i64 f2) ∧ w'.cell? ⟨w.heap.size + 1 + 1, 1, none⟩ = some (.int .i64 s2) ∧ w'.cell? ⟨w.heap.size + 1 + 1, 2, none⟩ = some (.int .i64 k2)))
        (first | exact unhide HK _ (Below.refl _ _).drew | exact unhide HK _ (by assumption) | fail "KK")
        (first | (go_at_call 85; refine (unhide KP _).mono ?_; rintro e w6 ⟨rfl, hb5⟩; have hB5 : Below W.heap.size W w6 := Below.trans (And.left (by assumption)) (hb5.mono (Below.size (And.left (by assumption)))); clear hb5 KP) | (go_at_call 85; refine (unhide KQ _).mono ?_; rintro e w7 ⟨rfl, hb5⟩; have hB5 : Below W.heap.size W w7 := Below.trans (And.left (by assumption)) (hb5.mono (Below.size (And.left (by assumption)))); clear hb5 KQ) | fail "NO ARM")
      all_goals
        have ST := hide ((unhide ST).all (And.left (by assumption)))
        clear HK
        go_wp2_with fail
        refine at_world (fun W => TuSt w W r c n cap f1 s1 k f2 s2 k2 ao TT) (unhide ST) ?_
        clear ST
        rintro W0 st
        have ST := hide (st.all ((Below.refl W0.heap.size W0).drew))
        clear st
        have c1 := (unhide ST).row.cell p (by rw [unhide LL]; exact hp)
        have c2 := (unhide ST).row.cell q (by rw [unhide LL]; exact hq)
        rw [unhide HX] at c1
        rw [unhide HY] at c2
        go_region_with (first
          | (go_at_call 86; refine (unhide KT _ (unhide ST).bel).mono ?_; rintro e w8 ⟨rfl, hb⟩; clear c1 c2; have S8 := (unhide ST).all hb; have d1 := S8.row.cell p (by rw [unhide LL]; exact hp); have d2 := S8.row.cell q (by rw [unhide LL]; exact hq); have f1' := S8.row.free p; have f2' := S8.row.free q; have S9 := S8.set p u; have d3 := S9.row.cell q (by rw [List.length_set, unhide LL]; exact hq); have f3' := S9.row.free q; have P9 := hide (S9.set q v); clear S8 S9 hb ST KT)
          | fail "NO ARM")
        all_goals
          clear d1 d2 d3 f1' f2' f3'
          go_wp2_with fail
          go_round
          case rel => exact ⟨j + 1, by omega, by go_num, by rw [hTN, ← unhide HN]; exact P9⟩
          case measure => simp [intOf]; omega
    · have hjj : j = k := by omega
      subst hjj
      obtain ⟨h6, h1, h2, h3, h4, h5⟩ := unhide hS
      have y0 := h1.c0; have y1 := h1.c1; have y2 := h1.c2
      have r0 := h4.c0; have r1 := h4.c1; have r2 := h4.c2
      have f0 := h4.free 0; have f1 := h4.free 1; have f2 := h4.free 2
      have XP := h4.put (.int .i64 r) (.int .i64 c) (.slice (some ⟨w.heap.size + 1 + 1 + 1 + 1, 0, none⟩) n n)
      have z0 := XP.c0; have z1 := XP.c1; have z2 := XP.c2
      have RW := hide (h5.three (g := w.heap.size + 1 + 1 + 1) (by omega) (.int .i64 r) (.int .i64 c) (.slice (some ⟨w.heap.size + 1 + 1 + 1 + 1, 0, none⟩) n n))
      have BP := hide (below_putM h6 (b := w.heap.size + 1 + 1 + 1) (by omega) (.int .i64 r) (.int .i64 c) (.slice (some ⟨w.heap.size + 1 + 1 + 1 + 1, 0, none⟩) n n))
      clear XP h1 h2 h3 h4 h5 h6 hS
      go_wp2_with fail
      exact bodyPost_ret (v := .agg #[.int .i64 r, .int .i64 c, .slice (some ⟨w.heap.size + 1 + 1 + 1 + 1, 0, none⟩) n n]) (by simp [results, Tryz.results48, go_sem, z0, z1, z2]) rfl ⟨_, rfl, by omega, unhide RW, unhide BP⟩

end Go.Proofs.YtceofkjefmilfaaGreatDoor

