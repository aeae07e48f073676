/- Part 36 of the texts. -/
import Derived.Test.YtfkndkaneffgdaaGreatDoorPartC35
import Derived.Test.YtfkndkaneffgdaaGreatDoorPartC30
import Derived.Test.YtfkndkaneffgdaaGreatDoorPartC34
import Derived.Test.YtfkndkaneffgdaaGreatDoorPartC23
import Derived.Deep.RegionHeld3
import Derived.Test.YtfkndkaneffgdaaGreatDoorChecked
import Derived.Test.YtfkndkaneffgdaaGreatDoorPartC02
import Derived.ProofKit
import Derived.SizedLaws
import Derived.Lib.SmallJoins
/- The law QrFactors, by what qr.Factor answers. Ahead of stage 14. -/
namespace Go.Proofs.YtfkndkaneffgdaaGreatDoor
open Go.RowKit

theorem q345_fin : finL (apM 2 2 (eyM 2) 0 0 [4607182418800017408, 4602678819172646912] 4609884578576439706) = true := by decide +kernel
theorem t345 : mrT [4613937818241073152, 4616189618054758400] = 4609884578576439706 := by
  obtain ⟨_, _, _, _, _, _, _, _, _, h10, _⟩ := w13_facts
  show (if ngt [4616189618054758400] = true then 0 else dV (aV (hmB 4613937818241073152 [4616189618054758400]) (fN 4613937818241073152)) (hmB 4613937818241073152 [4616189618054758400])) = _
  rw [if_neg (by rw [h10]; decide), hm_345.1]
  exact q345_facts.1
theorem x345 : qrX 2 1 [4613937818241073152, 4616189618054758400] 0 = [4613937818241073152, 4616189618054758400] := rfl
theorem r345 : facR 2 1 [4613937818241073152, 4616189618054758400] = [13840687554816376832, 0] := by
  show clM 2 1 (apM 2 1 [4613937818241073152, 4616189618054758400] 0 0 (mrV (qxL 2 1 [4613937818241073152, 4616189618054758400] 0)) (mrT (qxL 2 1 [4613937818241073152, 4616189618054758400] 0))) 0 (mrB (qxL 2 1 [4613937818241073152, 4616189618054758400] 0)) = _
  have e : qxL 2 1 [4613937818241073152, 4616189618054758400] 0 = [4613937818241073152, 4616189618054758400] := rfl
  rw [e, mr_345.1]
  generalize apM 2 1 [4613937818241073152, 4616189618054758400] 0 0 _ _ = T
  rfl
theorem k345 : facK 2 1 [4613937818241073152, 4616189618054758400] = true := by
  have eN : qrN 2 1 = 1 := rfl
  have eQ : facQ 2 1 [4613937818241073152, 4616189618054758400] = apM 2 2 (eyM 2) 0 0 (mrV [4613937818241073152, 4616189618054758400]) (mrT [4613937818241073152, 4616189618054758400]) := rfl
  have k1 : qrK 2 1 [4613937818241073152, 4616189618054758400] (qrN 2 1) = true := by
    rw [eN, qrK_all]
    intro j hj
    obtain rfl : j = 0 := by omega
    rw [x345]
    refine ⟨?_, mr_345.2.2⟩
    show ((true && fFin 4613937818241073152) && fFin 4616189618054758400) = true
    rw [w13_facts.2.1, w13_facts.2.2.2.2.2.2.2.2.2.2.2.2]
    rfl
  unfold facK
  rw [k1, eQ, mr_345.2.1, t345, q345_fin, r345]
  show (true && (true && ((true && fFin 13840687554816376832) && fFin 0))) = true
  rw [w13_facts.2.2.2.2.2.2.2.2.2.2.1]
  decide +kernel

theorem qr_awake (w : World)
    (CY : ∀ w' ao cap (r c : Nat) S, Below w.heap.size w w' → Mx w' ao cap r c S → finL S = true → facK r c S = true → Calls Tryz.prog 8 #[.agg #[.int .i64 r, .int .i64 c, .slice ao S.length cap]] w' fun e w'' => ∃ v u, e = .returned (.tuple #[v, u, .int .i64 0]) ∧ NewM w'.heap.size w'' r r (facQ r c S) v ∧ NewM w'.heap.size w'' r c (facR r c S) u ∧ Below w'.heap.size w' w'') :
    ∀ w', Below w.heap.size w w' → Calls Tryz.prog 11 #[] w' fun e w'' => e = .returned (.bool true) ∧ Below w'.heap.size w' w'' := by
  intro w' hb
  refine awake14_of w' (fun w2 ao hb2 hI => ?_)
  have hM : Mx w2 ao 2 2 1 [4613937818241073152, 4616189618054758400] := ⟨hI, rfl, by decide, by decide⟩
  have hf : finL [4613937818241073152, 4616189618054758400] = true := by
    show ((true && fFin 4613937818241073152) && fFin 4616189618054758400) = true
    rw [w13_facts.2.1, w13_facts.2.2.2.2.2.2.2.2.2.2.2.2]
    rfl
  refine (CY w2 ao 2 2 1 _ (hb.trans (hb2.mono hb.size)) hM hf k345).mono ?_
  rintro e w3 ⟨v, u, rfl, ⟨qo, qc, rfl, _, _⟩, ⟨ro, rc, rfl, _, hr⟩, hb3⟩
  rw [r345] at hr ⊢
  exact ⟨_, _, qo, _, qc, ro, rc, rfl, hr, hb3⟩

end Go.Proofs.YtfkndkaneffgdaaGreatDoor

/- The law QrUpper. Ahead of stage 14. -/
namespace Go.Proofs.YtfkndkaneffgdaaGreatDoor
open Go.RowKit
attribute [local go_sem ↓] Go.wp_at_zero Go.wp_at_succ

/-- The boxes of the matrix and of both factors. -/
structure UpSt (w wr : World) (g : Nat) (a0 a1 a2 q0 q1 q2 r0 r1 r2 : Value) : Prop where
  bel : Below w.heap.size w wr
  a : BoxM wr w.heap.size a0 a1 a2
  q : BoxM wr g q0 q1 q2
  r : BoxM wr (g + 1) r0 r1 r2
theorem UpSt.all {w wr w' : World} {g : Nat} {a0 a1 a2 q0 q1 q2 r0 r1 r2 : Value} (h : UpSt w wr g a0 a1 a2 q0 q1 q2 r0 r1 r2) (hb : Below wr.heap.size wr w') : UpSt w w' g a0 a1 a2 q0 q1 q2 r0 r1 r2 :=
  ⟨h.bel.trans (hb.mono h.bel.size), h.a.all hb, h.q.all hb, h.r.all hb⟩
theorem UpSt.start {w w1 : World} {a0 a1 a2 : Value} (hB : Below w.heap.size w w1) (hA : BoxM w1 w.heap.size a0 a1 a2) (q0 q1 q2 r0 r1 r2 : Value) : UpSt w ((w1.alloc (.cells #[q0, q1, q2] 24)).alloc (.cells #[r0, r1, r2] 24)) w1.heap.size a0 a1 a2 q0 q1 q2 r0 r1 r2 ∧ Below w1.heap.size w1 ((w1.alloc (.cells #[q0, q1, q2] 24)).alloc (.cells #[r0, r1, r2] 24)) := by
  have ba := below_alloc9 w1 (.cells #[q0, q1, q2] 24)
  have za := size_alloc9 w1 (.cells #[q0, q1, q2] 24)
  have bb := below_alloc9 (w1.alloc (.cells #[q0, q1, q2] 24)) (.cells #[r0, r1, r2] 24)
  have xb := BoxM.new (w1.alloc (.cells #[q0, q1, q2] 24)) r0 r1 r2
  rw [za] at xb
  have bc := ba.trans (bb.mono ba.size)
  exact ⟨⟨hB.trans (bc.mono hB.size), hA.all bc, (BoxM.new w1 q0 q1 q2).all bb, xb⟩, bc⟩

set_option maxRecDepth 20000 in
set_option maxHeartbeats 4000000 in
theorem qrUpper_no (r c : Int) (ao : Option Addr) (n cap : Nat) (er : Int) (w : World) (her : er = 1 ∨ er = 4 ∨ er = 2)
    (C2 : ∀ w', Below w.heap.size w w' → Calls Tryz.prog 8 #[.agg #[.int .i64 r, .int .i64 c, .slice ao n cap]] w' fun e w'' => ∃ v u, e = .returned (.tuple #[v, u, .int .i64 er]) ∧ NewM w'.heap.size w'' 0 0 [] v ∧ NewM w'.heap.size w'' 0 0 [] u ∧ Below w'.heap.size w' w'')
    (CA : ∀ w', Below w.heap.size w w' → Calls Tryz.prog 11 #[] w' fun e w'' => e = .returned (.bool true) ∧ Below w'.heap.size w' w'') :
    Calls Tryz.prog 5 #[.agg #[.int .i64 r, .int .i64 c, .slice ao n cap]] w fun e w' => e = .returned (.bool true) ∧ Below w.heap.size w w' := by
  have b0 := below_alloc9 w (.cells #[.int .i64 r, .int .i64 c, .slice ao n cap] 24)
  have HA := hide (BoxM.new w (.int .i64 r) (.int .i64 c) (.slice ao n cap))
  have HB := hide b0
  have K2 := hide C2; have KA := hide CA
  clear b0 C2 CA
  rcases her with rfl | rfl | rfl
  all_goals
    go_enter Tryz.func5, Tryz.ntmps5
    go_wp2_with fail
    refine (unhide K2 _ (unhide HB)).mono ?_
    rintro e w1 ⟨v, u, rfl, ⟨so, sd, rfl, _, _⟩, ⟨to', td, rfl, _, _⟩, hb⟩
    have ST := hide (UpSt.start ((unhide HB).trans (hb.mono (unhide HB).size)) ((unhide HA).all hb) (.int .i64 ((0 : Nat) : Int)) (.int .i64 ((0 : Nat) : Int)) (.slice so ([] : List Nat).length sd) (.int .i64 ((0 : Nat) : Int)) (.int .i64 ((0 : Nat) : Int)) (.slice to' ([] : List Nat).length td)).1
    clear hb HA HB K2
    simp only [List.length_nil] at ST
    have q2 := (unhide ST).q.c2; have r2 := (unhide ST).r.c2
    go_wp2_with fail
    clear q2 r2
    refine (unhide KA _ (unhide ST).bel).mono ?_
    rintro e w2 ⟨rfl, hb⟩
    have BE := hide ((unhide ST).bel.trans (hb.mono (unhide ST).bel.size))
    clear hb ST
    go_wp2
    go_ret
    exact ⟨rfl, unhide BE⟩

set_option maxRecDepth 20000 in
set_option maxHeartbeats 8000000 in
theorem qrUpper_yes (r c : Nat) (ao : Option Addr) (n cap : Nat) (Q R : List Nat) (w : World) (hr : r ≤ 6) (hc : c ≤ 6) (lR : R.length = r * c)
    (hz : ∀ i k, i < r → k < c → k < i → (k : Int) < (r : Int) - 1 → elM c R i k = 0)
    (C2 : ∀ w', Below w.heap.size w w' → Calls Tryz.prog 8 #[.agg #[.int .i64 r, .int .i64 c, .slice ao n cap]] w' fun e w'' => ∃ v u, e = .returned (.tuple #[v, u, .int .i64 0]) ∧ NewM w'.heap.size w'' r r Q v ∧ NewM w'.heap.size w'' r c R u ∧ Below w'.heap.size w' w'')
    (CA : ∀ w', Below w.heap.size w w' → Calls Tryz.prog 11 #[] w' fun e w'' => e = .returned (.bool true) ∧ Below w'.heap.size w' w'') :
    Calls Tryz.prog 5 #[.agg #[.int .i64 r, .int .i64 c, .slice ao n cap]] w fun e w' => e = .returned (.bool true) ∧ Below w.heap.size w w' := by
  have b0 := below_alloc9 w (.cells #[.int .i64 r, .int .i64 c, .slice ao n cap] 24)
  have HA := hide (BoxM.new w (.int .i64 r) (.int .i64 c) (.slice ao n cap))
  have HB := hide b0
  have K2 := hide C2; have KA := hide CA; have HZ := hide hz
  have hw1 : IntKind.i64.wrap ((r : Int) - 1) = (r : Int) - 1 := wrap_in _ (by omega)
  clear b0 C2 CA hz
  go_enter Tryz.func5, Tryz.ntmps5
  go_wp2_with fail
  refine (unhide K2 _ (unhide HB)).mono ?_
  rintro e w1 ⟨v, u, rfl, ⟨so, sd, rfl, _, _⟩, ⟨to', td, rfl, _, qt⟩, hb⟩
  obtain ⟨st, bc⟩ := UpSt.start ((unhide HB).trans (hb.mono (unhide HB).size)) ((unhide HA).all hb) (.int .i64 (r : Nat)) (.int .i64 (r : Nat)) (.slice so Q.length sd) (.int .i64 (r : Nat)) (.int .i64 (c : Nat)) (.slice to' R.length td)
  have ST := hide st
  have KT := hide (fun W (h : BitsAt W to' td (mxL R)) i k (hi : i < r) (hk : k < c) => rat_any r c td i k to' R W ⟨h, lR, hr, hc⟩ hi hk)
  have QT := hide (qt.below bc)
  clear hb HA HB K2 st bc qt lR
  generalize R.length = nR at *
  generalize Q.length = nQ at *
  go_wp2_with fail
  generalize w1.heap.size = g at *
  go_loopw [6] (fun a wr => ∃ i : Nat, i ≤ r ∧ a = .int .i64 i ∧ Hid (UpSt w wr g (.int .i64 r) (.int .i64 c) (.slice ao n cap) (.int .i64 r) (.int .i64 r) (.slice so nQ sd) (.int .i64 r) (.int .i64 c) (.slice to' nR td)) ∧ Hid (BitsAt wr to' td (mxL R))) (fun a _ => r - (intOf a).toNat)
  case atStart => exact ⟨0, Nat.zero_le _, rfl, ST, QT⟩
  case round =>
    clear ST QT
    obtain ⟨i, hi, rfl, hS, hQ⟩ := hrel
    have r0 := (unhide hS).r.c0; have r1 := (unhide hS).r.c1; have r2 := (unhide hS).r.c2
    by_cases hlt : i < r
    · have hiI : (i : Int) < (r : Int) := by omega
      go_wp2_with fail
      clear r0 r1 r2
      go_loopw [7] (fun a wr => ∃ k : Nat, k ≤ i ∧ a = .int .i64 k ∧ Hid (UpSt w wr g (.int .i64 r) (.int .i64 c) (.slice ao n cap) (.int .i64 r) (.int .i64 r) (.slice so nQ sd) (.int .i64 r) (.int .i64 c) (.slice to' nR td)) ∧ Hid (BitsAt wr to' td (mxL R))) (fun a _ => i - (intOf a).toNat)
      case atStart => exact ⟨0, Nat.zero_le _, rfl, hS, hQ⟩
      case round =>
        clear hS hQ
        obtain ⟨k, hk, rfl, hS, hQ⟩ := hrel
        have r0 := (unhide hS).r.c0; have r1 := (unhide hS).r.c1; have r2 := (unhide hS).r.c2
        rcases (show ((k : Int) < (i : Int) ∧ (k : Int) < (c : Int) ∧ (k : Int) < (r : Int) - 1) ∨ (i : Int) ≤ (k : Int) ∨ ((k : Int) < (i : Int) ∧ (c : Int) ≤ (k : Int)) ∨ ((k : Int) < (i : Int) ∧ (k : Int) < (c : Int) ∧ (r : Int) - 1 ≤ (k : Int)) by omega) with ⟨g1, g2, g3⟩ | g1 | ⟨g1, g2⟩ | ⟨g1, g2, g3⟩
        · have G := hide (unhide KT _ (unhide hQ) i k hlt (by omega))
          rw [unhide HZ i k hlt (by omega) (by omega) g3] at G
          go_wp2_with fail
          clear r0 r1 r2
          refine Calls.mono (unhide G) ?_
          rintro e w3 ⟨rfl, hb⟩
          have S3 := hide ((unhide hS).all hb); have Q3 := hide ((unhide hQ).below hb)
          clear hb G hS hQ
          go_wp2_with fail
          go_round
          case rel => exact ⟨k + 1, by omega, by go_num, S3, Q3⟩
          case measure => simp [intOf]; omega
        · have d1 : decide ((k : Int) < (i : Int)) = false := decide_eq_false (by omega)
          go_wp2_with fail
          clear r0 r1 r2
          go_round
          case rel => exact ⟨i + 1, by omega, by go_num, hS, hQ⟩
          case measure => simp [intOf]; omega
        · have d1 : decide ((k : Int) < (i : Int)) = true := decide_eq_true g1
          have d2 : decide ((k : Int) < (c : Int)) = false := decide_eq_false (by omega)
          go_wp2_with fail
          clear r0 r1 r2
          go_round
          case rel => exact ⟨i + 1, by omega, by go_num, hS, hQ⟩
          case measure => simp [intOf]; omega
        · exfalso
          omega
    · have hii : i = r := by omega
      subst hii
      have a0 := (unhide hS).a.c0; have a1 := (unhide hS).a.c1
      have q0 := (unhide hS).q.c0; have q1 := (unhide hS).q.c1
      go_wp2_with fail
      refine (unhide KA _ (unhide hS).bel).mono ?_
      rintro e w4 ⟨rfl, hb⟩
      have BE := hide ((unhide hS).bel.trans (hb.mono (unhide hS).bel.size))
      clear hb a0 a1 q0 q1 r0 r1 r2
      go_wp2
      go_ret
      exact ⟨rfl, unhide BE⟩

theorem qrUpper_by (r c : Int) (ao : Option Addr) (cap : Nat) (I : List Int) (w : World) (hI : BitsAt w ao cap I)
    (CE : ∀ w' po pc, Below w.heap.size w w' → BitsAt w' po pc I → ckE r c I ≠ 0 → Calls Tryz.prog 8 #[.agg #[.int .i64 r, .int .i64 c, .slice po I.length pc]] w' fun e w'' => ∃ v u, e = .returned (.tuple #[v, u, .int .i64 (ckE r c I)]) ∧ NewM w'.heap.size w'' 0 0 [] v ∧ NewM w'.heap.size w'' 0 0 [] u ∧ Below w'.heap.size w' w'')
    (CN : ∀ w' ao cap (r c : Nat) S, Below w.heap.size w w' → Mx w' ao cap r c S → finL S = true → facK r c S = false → Calls Tryz.prog 8 #[.agg #[.int .i64 r, .int .i64 c, .slice ao S.length cap]] w' fun e w'' => ∃ v u, e = .returned (.tuple #[v, u, .int .i64 2]) ∧ NewM w'.heap.size w'' 0 0 [] v ∧ NewM w'.heap.size w'' 0 0 [] u ∧ Below w'.heap.size w' w'')
    (CY : ∀ w' ao cap (r c : Nat) S, Below w.heap.size w w' → Mx w' ao cap r c S → finL S = true → facK r c S = true → Calls Tryz.prog 8 #[.agg #[.int .i64 r, .int .i64 c, .slice ao S.length cap]] w' fun e w'' => ∃ v u, e = .returned (.tuple #[v, u, .int .i64 0]) ∧ NewM w'.heap.size w'' r r (facQ r c S) v ∧ NewM w'.heap.size w'' r c (facR r c S) u ∧ Below w'.heap.size w' w'') :
    Calls Tryz.prog 5 #[.agg #[.int .i64 r, .int .i64 c, .slice ao I.length cap]] w fun e w' => e = .returned (.bool true) ∧ Below w.heap.size w w' := by
  have CA := qr_awake w CY
  by_cases h0 : ckE r c I = 0
  · obtain ⟨ho, hf⟩ := ckE_zero h0
    obtain ⟨p, q, rfl, rfl, hM, hS⟩ := Mx.of hI ho
    have e1 := natL_len I
    have hfin : finL (natL I) = true := by
      unfold finL
      rw [mxL_natL hI, e1]
      exact hf
    cases hk : facK p q (natL I)
    · refine qrUpper_no p q ao I.length cap 2 w (.inr (.inr rfl)) (fun w' hb => ?_) CA
      have := CN w' ao cap p q (natL I) hb (hM.below hb) hfin hk
      rw [e1] at this
      exact this
    · refine qrUpper_yes p q ao I.length cap (facQ p q (natL I)) (facR p q (natL I)) w hM.2.2.1 hM.2.2.2 (qrR_len p q (natL I) hM.2.1 _) (fun i k hi hk2 hki hk3 => qrR_zero p q (natL I) (qrN p q) hi hk2 ((qrN_lt p q k).2 ⟨by omega, hk3⟩) hki) (fun w' hb => ?_) CA
      have := CY w' ao cap p q (natL I) hb (hM.below hb) hfin hk
      rw [e1] at this
      exact this
  · have hw := ckE_three r c I
    exact qrUpper_no r c ao I.length cap (ckE r c I) w (by omega) (fun w' hb => CE w' ao cap hb (hI.below hb) h0) CA

end Go.Proofs.YtfkndkaneffgdaaGreatDoor

/- Layer 14: the four laws. -/
namespace Go.Proofs.YtfkndkaneffgdaaGreatDoor
open Go.RowKit
theorem qrUpper_walk (r c : Int) (ao : Option Addr) (cap : Nat) (I : List Int) (w : World) (hI : BitsAt w ao cap I) (hl : I.length ≤ 17592186043904) (_hr : -9223372036854775808 ≤ r ∧ r ≤ 9223372036854775807) (_hc : -9223372036854775808 ≤ c ∧ c ≤ 9223372036854775807) (hT : Tab w) :
    Calls Tryz.prog 5 #[.agg #[.int .i64 r, .int .i64 c, .slice ao I.length cap]] w fun e w' => e = .returned (.bool true) ∧ Below w.heap.size w w' :=
  qrUpper_by r c ao cap I w hI (fun w' po pc _ hx h => qFactor_err r c po pc I w' hx hl h) (fun w' ao cap r c S hb h hf hk => qFactor_no r c cap ao S w' h hf hk (hT.all hb)) (fun w' ao cap r c S hb h hf hk => qFactor_yes r c cap ao S w' h hf hk (hT.all hb))

end Go.Proofs.YtfkndkaneffgdaaGreatDoor

/- A struct of a sign and limbs that came in, opened. -/
namespace Go.Proofs.YtfkndkaneffgdaaGreatDoor
open Go.ChangeShapes Go.WideShapes Go.ChangeAt Go.RowKit Go.Joins

theorem Tryz.own : ownKnob Tryz.prog.godebug = none := by kernel_rfl
theorem Tryz.laidOut : laidOutB Tryz.prog = true := by kernel_rfl
end Go.Proofs.YtfkndkaneffgdaaGreatDoor

/- The bounds of an int or int64 that came in. -/
namespace Go.Proofs.YtfkndkaneffgdaaGreatDoor

theorem bounds_of_i64 {x : Int} (h : (Lit.int .i64 x).wf = true) : -9223372036854775808 ≤ x ∧ x ≤ 9223372036854775807 := by
  simp [Lit.wf, IntKind.min, IntKind.max, IntKind.signed, IntKind.bits] at h
  omega

end Go.Proofs.YtfkndkaneffgdaaGreatDoor

