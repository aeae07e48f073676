/- Part 43 of the texts. -/
import Derived.Test.YtfkndkaneffgdaaGreatDoorPartB40
import Derived.Test.YtfkndkaneffgdaaGreatDoorPartB33
import Derived.Test.YtfkndkaneffgdaaGreatDoorPartB41
import Derived.Test.YtfkndkaneffgdaaGreatDoorPartB35
/- The law's told, awake of layer 14. Ahead of stage 14. -/
namespace Go.Proofs.YtfkndkaneffgdaaGreatDoor
open Go.RowKit
attribute [local go_sem ↓] Go.wp_at_zero Go.wp_at_succ

/-- Boxes of two matrices and of two factors. -/
structure ToSt (w wr : World) (q0 q1 q2 r0 r1 r2 x0 x1 x2 x3 x4 x5 x6 : Value) : Prop where
  bel : Below w.heap.size w wr
  q : BoxM wr w.heap.size q0 q1 q2
  r : BoxM wr (w.heap.size + 1) r0 r1 r2
  x : BoxW wr (w.heap.size + 1 + 1) x0 x1 x2 x3 x4 x5 x6
theorem ToSt.all {w wr w' : World} {q0 q1 q2 r0 r1 r2 x0 x1 x2 x3 x4 x5 x6 : Value} (h : ToSt w wr q0 q1 q2 r0 r1 r2 x0 x1 x2 x3 x4 x5 x6) (hb : Below wr.heap.size wr w') : ToSt w w' q0 q1 q2 r0 r1 r2 x0 x1 x2 x3 x4 x5 x6 :=
  ⟨h.bel.trans (hb.mono h.bel.size), h.q.all hb, h.r.all hb, h.x.all hb⟩
theorem ToSt.start (w : World) (q0 q1 q2 r0 r1 r2 x0 x1 x2 x3 x4 x5 x6 : Value) : ToSt w (((w.alloc (.cells #[q0, q1, q2] 24)).alloc (.cells #[r0, r1, r2] 24)).alloc (.cells #[x0, x1, x2, x3, x4, x5, x6] 34)) q0 q1 q2 r0 r1 r2 x0 x1 x2 x3 x4 x5 x6 := by
  have b0 := below_alloc9 w (.cells #[q0, q1, q2] 24)
  have s0 := size_alloc9 w (.cells #[q0, q1, q2] 24)
  have y0 := BoxM.new w q0 q1 q2
  generalize w.alloc (.cells #[q0, q1, q2] 24) = w0 at *
  have b1 := below_alloc9 w0 (.cells #[r0, r1, r2] 24)
  have s1 := size_alloc9 w0 (.cells #[r0, r1, r2] 24)
  have y1 := BoxM.new w0 r0 r1 r2
  generalize w0.alloc (.cells #[r0, r1, r2] 24) = w1 at *
  have b2 := below_alloc9 w1 (.cells #[x0, x1, x2, x3, x4, x5, x6] 34)
  have y2 := BoxW.new w1 x0 x1 x2 x3 x4 x5 x6
  rw [s0] at y1 s1
  rw [s1] at y2
  have b01 := b0.trans (b1.mono b0.size)
  exact ⟨b01.trans (b2.mono b01.size), (y0.all b1).all b2, y1.all b2, y2⟩

set_option maxRecDepth 20000 in
set_option maxHeartbeats 4000000 in
theorem told14_no (f er : Int) (ok : Bool) (qo ro : Option Addr) (qc rc : Nat) (x0 x1 x2 x3 x4 x5 : Value) (w : World) (h : (f = 0 ∧ ok = false ∧ er = 2) ∨ (f = 1 ∧ er = 1) ∨ (f = 4 ∧ er = 4)) :
    Calls Tryz.prog 10 #[.agg #[.int .i64 0, .int .i64 0, .slice qo 0 qc], .agg #[.int .i64 0, .int .i64 0, .slice ro 0 rc], .int .i64 er, .agg #[x0, x1, x2, x3, x4, x5, .bool ok], .int .i64 f] w fun e w' => e = .returned (.bool true) ∧ Below w.heap.size w w' := by
  have ST := hide (ToSt.start w (.int .i64 0) (.int .i64 0) (.slice qo 0 qc) (.int .i64 0) (.int .i64 0) (.slice ro 0 rc) x0 x1 x2 x3 x4 x5 (.bool ok))
  have KZ := hide (fun w' ao cap => rsame_any 0 0 ao none cap 0 [] w' (BitsAt.nilAt w' _ _) (BitsAt.nilAt w' _ _) (by simp))
  simp only [List.length_nil] at KZ
  have q0 := (unhide ST).q.c0; have q1 := (unhide ST).q.c1; have q2 := (unhide ST).q.c2
  have x6 := (unhide ST).x.c6
  rcases h with ⟨rfl, rfl, rfl⟩ | ⟨rfl, rfl⟩ | ⟨rfl, rfl⟩
  all_goals
    go_enter Tryz.func10, Tryz.ntmps10
    go_wp2_with fail
    clear q0 q1 q2 x6
    refine (unhide KZ _ _ _).mono ?_
    rintro e w1 ⟨rfl, hb⟩
    replace ST := hide ((unhide ST).all hb)
    clear hb
    have r0 := (unhide ST).r.c0; have r1 := (unhide ST).r.c1; have r2 := (unhide ST).r.c2
    go_wp2_with fail
    clear r0 r1 r2
    refine (unhide KZ _ _ _).mono ?_
    rintro e w2 ⟨rfl, hb⟩
    replace ST := hide ((unhide ST).all hb)
    clear hb KZ
    go_wp2
    go_ret
    exact ⟨rfl, (unhide ST).bel⟩

set_option maxRecDepth 20000 in
set_option maxHeartbeats 4000000 in
theorem told14_yes (p1 p2 p3 p4 : Nat) (qo ro so to' : Option Addr) (qc rc sc tc : Nat) (Q R : List Nat) (w : World) (hq : BitsAt w qo qc (mxL Q)) (hr : BitsAt w ro rc (mxL R)) (hs : BitsAt w so sc (mxL Q)) (ht : BitsAt w to' tc (mxL R)) (lq : Q.length ≤ 36) (lr : R.length ≤ 36) :
    Calls Tryz.prog 10 #[.agg #[.int .i64 p1, .int .i64 p2, .slice qo Q.length qc], .agg #[.int .i64 p3, .int .i64 p4, .slice ro R.length rc], .int .i64 0, .agg #[.int .i64 p1, .int .i64 p2, .slice so Q.length sc, .int .i64 p3, .int .i64 p4, .slice to' R.length tc, .bool true], .int .i64 0] w fun e w' => e = .returned (.bool true) ∧ Below w.heap.size w w' := by
  have ST := hide (ToSt.start w (.int .i64 p1) (.int .i64 p2) (.slice qo Q.length qc) (.int .i64 p3) (.int .i64 p4) (.slice ro R.length rc) (.int .i64 p1) (.int .i64 p2) (.slice so Q.length sc) (.int .i64 p3) (.int .i64 p4) (.slice to' R.length tc) (.bool true))
  have KQ := hide (fun w' (hb : Below w.heap.size w w') => rsame_any p1 p2 qo so qc sc Q w' (hq.below hb) (hs.below hb) (by omega))
  have KR := hide (fun w' (hb : Below w.heap.size w w') => rsame_any p3 p4 ro to' rc tc R w' (hr.below hb) (ht.below hb) (by omega))
  clear hq hr hs ht lq lr
  generalize Q.length = nq at *
  generalize R.length = nr at *
  have q0 := (unhide ST).q.c0; have q1 := (unhide ST).q.c1; have q2 := (unhide ST).q.c2
  have x0 := (unhide ST).x.c0; have x1 := (unhide ST).x.c1; have x2 := (unhide ST).x.c2; have x6 := (unhide ST).x.c6
  go_enter Tryz.func10, Tryz.ntmps10
  go_wp2_with fail
  clear q0 q1 q2 x0 x1 x2 x6
  refine (unhide KQ _ (unhide ST).bel).mono ?_
  rintro e w1 ⟨rfl, hb⟩
  replace ST := hide ((unhide ST).all hb)
  clear hb KQ
  have r0 := (unhide ST).r.c0; have r1 := (unhide ST).r.c1; have r2 := (unhide ST).r.c2
  have x3 := (unhide ST).x.c3; have x4 := (unhide ST).x.c4; have x5 := (unhide ST).x.c5
  go_wp2_with fail
  clear r0 r1 r2 x3 x4 x5
  refine (unhide KR _ (unhide ST).bel).mono ?_
  rintro e w2 ⟨rfl, hb⟩
  replace ST := hide ((unhide ST).all hb)
  clear hb KR
  go_wp2
  go_ret
  exact ⟨rfl, (unhide ST).bel⟩

set_option maxRecDepth 20000 in
set_option maxHeartbeats 4000000 in
theorem awake14_of (w : World)
    (C1 : ∀ w' ao, Below w.heap.size w w' → BitsAt w' ao 2 [((4613937818241073152 : Nat) : Int), ((4616189618054758400 : Nat) : Int)] → Calls Tryz.prog 8 #[.agg #[.int .i64 2, .int .i64 1, .slice ao 2 2]] w' fun e w'' => ∃ (a1 a2 : Int) (qo : Option Addr) (nq qc : Nat) (ro : Option Addr) (rc : Nat), e = .returned (.tuple #[.agg #[.int .i64 a1, .int .i64 a2, .slice qo nq qc], .agg #[.int .i64 2, .int .i64 1, .slice ro 2 rc], .int .i64 0]) ∧ BitsAt w'' ro rc (mxL [13840687554816376832, 0]) ∧ Below w'.heap.size w' w'') :
    Calls Tryz.prog 11 #[] w fun e w' => e = .returned (.bool true) ∧ Below w.heap.size w w' := by
  have K1 := hide C1
  have TB := hide (two_bits w 4613937818241073152 4616189618054758400 (by decide) (by decide))
  have BB := hide (below_alloc9 w (.cells #[.int .u64 ((4613937818241073152 : Nat) : Int), .int .u64 ((4616189618054758400 : Nat) : Int)] 30))
  clear C1
  go_enter Tryz.func11, Tryz.ntmps11
  go_wp2_with fail
  refine (unhide K1 _ _ (unhide BB) (unhide TB)).mono ?_
  rintro e w1 ⟨a1, a2, qo, nq, qc, ro, rc, rfl, bv, hb⟩
  obtain ⟨b, off, rfl, _, hc⟩ := bv.ne (by decide)
  have c0 : w1.cell? ⟨b, off + 0, none⟩ = some (.int .u64 13840687554816376832) := hc 0 (by decide)
  have c1 : w1.cell? ⟨b, off + 1, none⟩ = some (.int .u64 0) := hc 1 (by decide)
  rw [Nat.add_zero] at c0
  replace BB := hide ((unhide BB).trans (hb.mono (unhide BB).size))
  clear hb K1 TB bv hc
  have ba := below_alloc9 w1 (.cells #[.int .i64 a1, .int .i64 a2, .slice qo nq qc] 24)
  have bb := below_alloc9 (w1.alloc (.cells #[.int .i64 a1, .int .i64 a2, .slice qo nq qc] 24)) (.cells #[.int .i64 2, .int .i64 1, .slice (some ⟨b, off, none⟩) 2 rc] 24)
  have BC := hide ((unhide BB).trans ((ba.trans (bb.mono ba.size)).mono (unhide BB).size))
  clear ba bb BB
  go_wp2
  go_ret
  exact ⟨rfl, unhide BC⟩

/-- The factors of 3, 4. -/
theorem q345_facts : dV (aV 13840687554816376832 (fN 4613937818241073152)) 13840687554816376832 = 4609884578576439706 ∧ fN 13840687554816376832 = 4617315517961601024 := by decide +kernel
end Go.Proofs.YtfkndkaneffgdaaGreatDoor

/- The law MatrixParts, walked. -/
namespace Go.Proofs.YtfkndkaneffgdaaGreatDoor
open Go.RowKit
attribute [local go_sem ↓] Go.wp_at_zero Go.wp_at_succ
theorem Mx.from {w : World} {ao : Option Addr} {cap p q : Nat} {I : List Int} (h : BitsAt w ao cap I) (ho : okB (p : Int) (q : Int) I.length = true) : Mx w ao cap p q (natL I) := by
  obtain ⟨p', q', e1, e2, hM, _⟩ := Mx.of h ho
  obtain rfl : p = p' := by omega
  obtain rfl : q = q' := by omega
  exact hM

end Go.Proofs.YtfkndkaneffgdaaGreatDoor

/- The law QrFactors, by what qr.Factor answers. Ahead of stage 14. -/
namespace Go.Proofs.YtfkndkaneffgdaaGreatDoor
open Go.RowKit

theorem q345_fin : finL (apM 2 2 (eyM 2) 0 0 [4607182418800017408, 4602678819172646912] 4609884578576439706) = true := by decide +kernel
theorem t345 : mrT [4613937818241073152, 4616189618054758400] = 4609884578576439706 := by
  obtain ⟨_, _, _, _, _, _, _, _, _, h10, _⟩ := w13_facts
  show (if ngt [4616189618054758400] = true then 0 else dV (aV (hmB 4613937818241073152 [4616189618054758400]) (fN 4613937818241073152)) (hmB 4613937818241073152 [4616189618054758400])) = _
  rw [if_neg (by rw [h10]; decide), hm_345.1]
  exact q345_facts.1
theorem x345 : qrX 2 1 [4613937818241073152, 4616189618054758400] 0 = [4613937818241073152, 4616189618054758400] := rfl
theorem r345 : facR 2 1 [4613937818241073152, 4616189618054758400] = [13840687554816376832, 0] := by
  show clM 2 1 (apM 2 1 [4613937818241073152, 4616189618054758400] 0 0 (mrV (qxL 2 1 [4613937818241073152, 4616189618054758400] 0)) (mrT (qxL 2 1 [4613937818241073152, 4616189618054758400] 0))) 0 (mrB (qxL 2 1 [4613937818241073152, 4616189618054758400] 0)) = _
  have e : qxL 2 1 [4613937818241073152, 4616189618054758400] 0 = [4613937818241073152, 4616189618054758400] := rfl
  rw [e, mr_345.1]
  generalize apM 2 1 [4613937818241073152, 4616189618054758400] 0 0 _ _ = T
  rfl
theorem k345 : facK 2 1 [4613937818241073152, 4616189618054758400] = true := by
  have eN : qrN 2 1 = 1 := rfl
  have eQ : facQ 2 1 [4613937818241073152, 4616189618054758400] = apM 2 2 (eyM 2) 0 0 (mrV [4613937818241073152, 4616189618054758400]) (mrT [4613937818241073152, 4616189618054758400]) := rfl
  have k1 : qrK 2 1 [4613937818241073152, 4616189618054758400] (qrN 2 1) = true := by
    rw [eN, qrK_all]
    intro j hj
    obtain rfl : j = 0 := by omega
    rw [x345]
    refine ⟨?_, mr_345.2.2⟩
    show ((true && fFin 4613937818241073152) && fFin 4616189618054758400) = true
    rw [w13_facts.2.1, w13_facts.2.2.2.2.2.2.2.2.2.2.2.2]
    rfl
  unfold facK
  rw [k1, eQ, mr_345.2.1, t345, q345_fin, r345]
  show (true && (true && ((true && fFin 13840687554816376832) && fFin 0))) = true
  rw [w13_facts.2.2.2.2.2.2.2.2.2.2.1]
  decide +kernel

theorem qr_awake (w : World)
    (CY : ∀ w' ao cap (r c : Nat) S, Below w.heap.size w w' → Mx w' ao cap r c S → finL S = true → facK r c S = true → Calls Tryz.prog 8 #[.agg #[.int .i64 r, .int .i64 c, .slice ao S.length cap]] w' fun e w'' => ∃ v u, e = .returned (.tuple #[v, u, .int .i64 0]) ∧ NewM w'.heap.size w'' r r (facQ r c S) v ∧ NewM w'.heap.size w'' r c (facR r c S) u ∧ Below w'.heap.size w' w'') :
    ∀ w', Below w.heap.size w w' → Calls Tryz.prog 11 #[] w' fun e w'' => e = .returned (.bool true) ∧ Below w'.heap.size w' w'' := by
  intro w' hb
  refine awake14_of w' (fun w2 ao hb2 hI => ?_)
  have hM : Mx w2 ao 2 2 1 [4613937818241073152, 4616189618054758400] := ⟨hI, rfl, by decide, by decide⟩
  have hf : finL [4613937818241073152, 4616189618054758400] = true := by
    show ((true && fFin 4613937818241073152) && fFin 4616189618054758400) = true
    rw [w13_facts.2.1, w13_facts.2.2.2.2.2.2.2.2.2.2.2.2]
    rfl
  refine (CY w2 ao 2 2 1 _ (hb.trans (hb2.mono hb.size)) hM hf k345).mono ?_
  rintro e w3 ⟨v, u, rfl, ⟨qo, qc, rfl, _, _⟩, ⟨ro, rc, rfl, _, hr⟩, hb3⟩
  rw [r345] at hr ⊢
  exact ⟨_, _, qo, _, qc, ro, rc, rfl, hr, hb3⟩

end Go.Proofs.YtfkndkaneffgdaaGreatDoor

/- The law QrUpper. Ahead of stage 14. -/
namespace Go.Proofs.YtfkndkaneffgdaaGreatDoor
open Go.RowKit
attribute [local go_sem ↓] Go.wp_at_zero Go.wp_at_succ

/-- The boxes of the matrix and of both factors. -/
structure UpSt (w wr : World) (g : Nat) (a0 a1 a2 q0 q1 q2 r0 r1 r2 : Value) : Prop where
  bel : Below w.heap.size w wr
  a : BoxM wr w.heap.size a0 a1 a2
  q : BoxM wr g q0 q1 q2
  r : BoxM wr (g + 1) r0 r1 r2
theorem UpSt.all {w wr w' : World} {g : Nat} {a0 a1 a2 q0 q1 q2 r0 r1 r2 : Value} (h : UpSt w wr g a0 a1 a2 q0 q1 q2 r0 r1 r2) (hb : Below wr.heap.size wr w') : UpSt w w' g a0 a1 a2 q0 q1 q2 r0 r1 r2 :=
  ⟨h.bel.trans (hb.mono h.bel.size), h.a.all hb, h.q.all hb, h.r.all hb⟩
theorem UpSt.start {w w1 : World} {a0 a1 a2 : Value} (hB : Below w.heap.size w w1) (hA : BoxM w1 w.heap.size a0 a1 a2) (q0 q1 q2 r0 r1 r2 : Value) : UpSt w ((w1.alloc (.cells #[q0, q1, q2] 24)).alloc (.cells #[r0, r1, r2] 24)) w1.heap.size a0 a1 a2 q0 q1 q2 r0 r1 r2 ∧ Below w1.heap.size w1 ((w1.alloc (.cells #[q0, q1, q2] 24)).alloc (.cells #[r0, r1, r2] 24)) := by
  have ba := below_alloc9 w1 (.cells #[q0, q1, q2] 24)
  have za := size_alloc9 w1 (.cells #[q0, q1, q2] 24)
  have bb := below_alloc9 (w1.alloc (.cells #[q0, q1, q2] 24)) (.cells #[r0, r1, r2] 24)
  have xb := BoxM.new (w1.alloc (.cells #[q0, q1, q2] 24)) r0 r1 r2
  rw [za] at xb
  have bc := ba.trans (bb.mono ba.size)
  exact ⟨⟨hB.trans (bc.mono hB.size), hA.all bc, (BoxM.new w1 q0 q1 q2).all bb, xb⟩, bc⟩

end Go.Proofs.YtfkndkaneffgdaaGreatDoor

/- The reference of layer 14: Thin (mkmn.py). Ahead of stage 14. -/
namespace Go.Proofs.YtfkndkaneffgdaaGreatDoor
open Go.RowKit
attribute [local go_sem ↓] Go.wp_at_zero Go.wp_at_succ

/-- The thin answer. -/
def ThAns (w' : World) (ok : Bool) (r k c : Nat) (Q R : List Nat) (e : Ending) : Prop :=
  (ok = true ∧ ∃ qo qc ro rc, e = .returned (.agg #[.int .i64 r, .int .i64 k, .slice qo Q.length qc, .int .i64 k, .int .i64 c, .slice ro R.length rc, .bool true]) ∧ BitsAt w' qo qc (mxL Q) ∧ BitsAt w' ro rc (mxL R)) ∨
  (ok = false ∧ e = .returned (.agg #[.int .i64 0, .int .i64 0, .slice none 0 0, .int .i64 0, .int .i64 0, .slice none 0 0, .bool false]))

/-- What holds in Thin. -/
structure ThSt (w wr : World) (g : Nat) (r c n cap : Nat) (ao : Option Addr) (x0 x1 : Int) (x2 : Value) (x3 x4 : Int) (x5 : Value) (ok : Bool) : Prop where
  bel : Below w.heap.size w wr
  a : BoxM wr w.heap.size (.int .i64 r) (.int .i64 c) (.slice ao n cap)
  res : BoxW wr (w.heap.size + 1) (.int .i64 0) (.int .i64 0) (.slice none 0 0) (.int .i64 0) (.int .i64 0) (.slice none 0 0) (.bool false)
  t : BoxW wr g (.int .i64 x0) (.int .i64 x1) x2 (.int .i64 x3) (.int .i64 x4) x5 (.bool ok)
theorem ThSt.all {w wr w' : World} {g r c n cap : Nat} {ao : Option Addr} {x0 x1 : Int} {x2 : Value} {x3 x4 : Int} {x5 : Value} {ok : Bool} (h : ThSt w wr g r c n cap ao x0 x1 x2 x3 x4 x5 ok) (hb : Below wr.heap.size wr w') : ThSt w w' g r c n cap ao x0 x1 x2 x3 x4 x5 ok :=
  ⟨h.bel.trans (hb.mono h.bel.size), h.a.all hb, h.res.all hb, h.t.all hb⟩
theorem thin_boxes (w : World) (r c n cap : Nat) (ao : Option Addr) : Below w.heap.size w ((w.alloc (.cells #[.int .i64 r, .int .i64 c, .slice ao n cap] 24)).alloc (.cells #[.int .i64 0, .int .i64 0, .slice none 0 0, .int .i64 0, .int .i64 0, .slice none 0 0, .bool false] 34)) ∧ BoxM ((w.alloc (.cells #[.int .i64 r, .int .i64 c, .slice ao n cap] 24)).alloc (.cells #[.int .i64 0, .int .i64 0, .slice none 0 0, .int .i64 0, .int .i64 0, .slice none 0 0, .bool false] 34)) w.heap.size (.int .i64 r) (.int .i64 c) (.slice ao n cap) ∧ BoxW ((w.alloc (.cells #[.int .i64 r, .int .i64 c, .slice ao n cap] 24)).alloc (.cells #[.int .i64 0, .int .i64 0, .slice none 0 0, .int .i64 0, .int .i64 0, .slice none 0 0, .bool false] 34)) (w.heap.size + 1) (.int .i64 0) (.int .i64 0) (.slice none 0 0) (.int .i64 0) (.int .i64 0) (.slice none 0 0) (.bool false) := by
  have b0 := below_alloc9 w (.cells #[.int .i64 r, .int .i64 c, .slice ao n cap] 24)
  have s0 := size_alloc9 w (.cells #[.int .i64 r, .int .i64 c, .slice ao n cap] 24)
  have x0 := BoxM.new w (.int .i64 r) (.int .i64 c) (.slice ao n cap)
  generalize w.alloc (.cells #[.int .i64 r, .int .i64 c, .slice ao n cap] 24) = w0 at *
  have b1 := below_alloc9 w0 (.cells #[.int .i64 0, .int .i64 0, .slice none 0 0, .int .i64 0, .int .i64 0, .slice none 0 0, .bool false] 34)
  have x1 := BoxW.new w0 (.int .i64 0) (.int .i64 0) (.slice none 0 0) (.int .i64 0) (.int .i64 0) (.slice none 0 0) (.bool false)
  rw [s0] at x1
  exact ⟨b0.trans (b1.mono b0.size), x0.all b1, x1⟩

theorem ThSt.held {w wr : World} {g r c n cap : Nat} {ao : Option Addr} {x0 x1 : Int} {x2 : Value} {x3 x4 : Int} {x5 : Value} {ok : Bool} (h : ThSt w wr g r c n cap ao x0 x1 x2 x3 x4 x5 ok) : (wr.cell? ⟨w.heap.size, 0, none⟩ = some (.int .i64 (r : Nat)) ∧ wr.cell? ⟨w.heap.size, 1, none⟩ = some (.int .i64 (c : Nat))) ∧ (wr.cell? ⟨g, 0, none⟩ = some (.int .i64 x0) ∧ wr.cell? ⟨g, 1, none⟩ = some (.int .i64 x1) ∧ wr.cell? ⟨g, 2, none⟩ = some x2 ∧ wr.cell? ⟨g, 3, none⟩ = some (.int .i64 x3) ∧ wr.cell? ⟨g, 4, none⟩ = some (.int .i64 x4) ∧ wr.cell? ⟨g, 5, none⟩ = some x5) := ⟨⟨h.a.c0, h.a.c1⟩, h.t.c0, h.t.c1, h.t.c2, h.t.c3, h.t.c4, h.t.c5⟩
theorem ThSt.put {w wr : World} {g r c n cap : Nat} {ao : Option Addr} {x0 x1 : Int} {x2 : Value} {x3 x4 : Int} {x5 : Value} {ok : Bool} (h : ThSt w wr g r c n cap ao x0 x1 x2 x3 x4 x5 ok) (hg : w.heap.size + 1 < g) (u0 u1 u2 u3 u4 u5 u6 : Value) : ((((((((wr.setCell ⟨w.heap.size + 1, 0, none⟩ u0).setCell ⟨w.heap.size + 1, 1, none⟩ u1).setCell ⟨w.heap.size + 1, 2, none⟩ u2).setCell ⟨w.heap.size + 1, 3, none⟩ u3).setCell ⟨w.heap.size + 1, 4, none⟩ u4).setCell ⟨w.heap.size + 1, 5, none⟩ u5).setCell ⟨w.heap.size + 1, 6, none⟩ u6).cell? ⟨w.heap.size, 0, none⟩ = some (.int .i64 (r : Nat)) ∧ (((((((wr.setCell ⟨w.heap.size + 1, 0, none⟩ u0).setCell ⟨w.heap.size + 1, 1, none⟩ u1).setCell ⟨w.heap.size + 1, 2, none⟩ u2).setCell ⟨w.heap.size + 1, 3, none⟩ u3).setCell ⟨w.heap.size + 1, 4, none⟩ u4).setCell ⟨w.heap.size + 1, 5, none⟩ u5).setCell ⟨w.heap.size + 1, 6, none⟩ u6).cell? ⟨w.heap.size, 1, none⟩ = some (.int .i64 (c : Nat))) ∧ ((((((((wr.setCell ⟨w.heap.size + 1, 0, none⟩ u0).setCell ⟨w.heap.size + 1, 1, none⟩ u1).setCell ⟨w.heap.size + 1, 2, none⟩ u2).setCell ⟨w.heap.size + 1, 3, none⟩ u3).setCell ⟨w.heap.size + 1, 4, none⟩ u4).setCell ⟨w.heap.size + 1, 5, none⟩ u5).setCell ⟨w.heap.size + 1, 6, none⟩ u6).cell? ⟨g, 0, none⟩ = some (.int .i64 x0) ∧ (((((((wr.setCell ⟨w.heap.size + 1, 0, none⟩ u0).setCell ⟨w.heap.size + 1, 1, none⟩ u1).setCell ⟨w.heap.size + 1, 2, none⟩ u2).setCell ⟨w.heap.size + 1, 3, none⟩ u3).setCell ⟨w.heap.size + 1, 4, none⟩ u4).setCell ⟨w.heap.size + 1, 5, none⟩ u5).setCell ⟨w.heap.size + 1, 6, none⟩ u6).cell? ⟨g, 1, none⟩ = some (.int .i64 x1) ∧ (((((((wr.setCell ⟨w.heap.size + 1, 0, none⟩ u0).setCell ⟨w.heap.size + 1, 1, none⟩ u1).setCell ⟨w.heap.size + 1, 2, none⟩ u2).setCell ⟨w.heap.size + 1, 3, none⟩ u3).setCell ⟨w.heap.size + 1, 4, none⟩ u4).setCell ⟨w.heap.size + 1, 5, none⟩ u5).setCell ⟨w.heap.size + 1, 6, none⟩ u6).cell? ⟨g, 2, none⟩ = some x2 ∧ (((((((wr.setCell ⟨w.heap.size + 1, 0, none⟩ u0).setCell ⟨w.heap.size + 1, 1, none⟩ u1).setCell ⟨w.heap.size + 1, 2, none⟩ u2).setCell ⟨w.heap.size + 1, 3, none⟩ u3).setCell ⟨w.heap.size + 1, 4, none⟩ u4).setCell ⟨w.heap.size + 1, 5, none⟩ u5).setCell ⟨w.heap.size + 1, 6, none⟩ u6).cell? ⟨g, 3, none⟩ = some (.int .i64 x3) ∧ (((((((wr.setCell ⟨w.heap.size + 1, 0, none⟩ u0).setCell ⟨w.heap.size + 1, 1, none⟩ u1).setCell ⟨w.heap.size + 1, 2, none⟩ u2).setCell ⟨w.heap.size + 1, 3, none⟩ u3).setCell ⟨w.heap.size + 1, 4, none⟩ u4).setCell ⟨w.heap.size + 1, 5, none⟩ u5).setCell ⟨w.heap.size + 1, 6, none⟩ u6).cell? ⟨g, 4, none⟩ = some (.int .i64 x4) ∧ (((((((wr.setCell ⟨w.heap.size + 1, 0, none⟩ u0).setCell ⟨w.heap.size + 1, 1, none⟩ u1).setCell ⟨w.heap.size + 1, 2, none⟩ u2).setCell ⟨w.heap.size + 1, 3, none⟩ u3).setCell ⟨w.heap.size + 1, 4, none⟩ u4).setCell ⟨w.heap.size + 1, 5, none⟩ u5).setCell ⟨w.heap.size + 1, 6, none⟩ u6).cell? ⟨g, 5, none⟩ = some x5) := by
  have n0 : w.heap.size ≠ w.heap.size + 1 := by omega
  have n1 : g ≠ w.heap.size + 1 := by omega
  have A := (((((((h.a.other (p := ⟨w.heap.size + 1, 0, none⟩) n0 u0).other (p := ⟨w.heap.size + 1, 1, none⟩) n0 u1).other (p := ⟨w.heap.size + 1, 2, none⟩) n0 u2).other (p := ⟨w.heap.size + 1, 3, none⟩) n0 u3).other (p := ⟨w.heap.size + 1, 4, none⟩) n0 u4).other (p := ⟨w.heap.size + 1, 5, none⟩) n0 u5).other (p := ⟨w.heap.size + 1, 6, none⟩) n0 u6)
  have T := (((((((h.t.other (p := ⟨w.heap.size + 1, 0, none⟩) n1 u0).other (p := ⟨w.heap.size + 1, 1, none⟩) n1 u1).other (p := ⟨w.heap.size + 1, 2, none⟩) n1 u2).other (p := ⟨w.heap.size + 1, 3, none⟩) n1 u3).other (p := ⟨w.heap.size + 1, 4, none⟩) n1 u4).other (p := ⟨w.heap.size + 1, 5, none⟩) n1 u5).other (p := ⟨w.heap.size + 1, 6, none⟩) n1 u6)
  exact ⟨⟨A.c0, A.c1⟩, T.c0, T.c1, T.c2, T.c3, T.c4, T.c5⟩

set_option maxRecDepth 20000 in
set_option maxHeartbeats 8000000 in
theorem rthin_of (r c n nq k cap : Nat) (ao : Option Addr) (Q R TQ TR : List Nat) (ok : Bool) (w : World) (hk : k = min r c) (hr : r ≤ 6) (hc : c ≤ 6)
    (C1 : ∀ w', Below w.heap.size w w' → Calls Tryz.prog 12 #[.agg #[.int .i64 r, .int .i64 c, .slice ao n cap]] w' fun e w'' => FacAns w'' ok r c nq n Q R e ∧ Below w'.heap.size w' w'')
    (C2 : ∀ w' qo qc, BitsAt w' qo qc (mxL Q) → Calls Tryz.prog 32 #[.agg #[.int .i64 r, .int .i64 r, .slice qo nq qc], .int .i64 0, .int .i64 0, .int .i64 r, .int .i64 k] w' fun e w'' => ∃ po pc, e = .returned (.agg #[.int .i64 r, .int .i64 k, .slice po TQ.length pc]) ∧ BitsAt w'' po pc (mxL TQ) ∧ Below w'.heap.size w' w'')
    (C3 : ∀ w' ro rc, BitsAt w' ro rc (mxL R) → Calls Tryz.prog 32 #[.agg #[.int .i64 r, .int .i64 c, .slice ro n rc], .int .i64 0, .int .i64 0, .int .i64 k, .int .i64 c] w' fun e w'' => ∃ po pc, e = .returned (.agg #[.int .i64 k, .int .i64 c, .slice po TR.length pc]) ∧ BitsAt w'' po pc (mxL TR) ∧ Below w'.heap.size w' w'') :
    Calls Tryz.prog 14 #[.agg #[.int .i64 r, .int .i64 c, .slice ao n cap]] w fun e w' => ThAns w' ok r k c TQ TR e ∧ Below w.heap.size w w' := by
  obtain ⟨hB, hA, hX⟩ := thin_boxes w r c n cap ao
  have HB := hide hB; have HA := hide hA; have HX := hide hX
  have K1 := hide C1; have K2 := hide C2; have K3 := hide C3
  clear hB hA hX C1 C2 C3
  go_enter Tryz.func14, Tryz.ntmps14
  go_wp2_with fail
  refine (unhide K1 _ (unhide HB)).mono ?_
  rintro e w1 ⟨ans, hb⟩
  have hB1 := (unhide HB).trans (hb.mono (unhide HB).size)
  have hA1 := (unhide HA).all hb
  have hX1 := (unhide HX).all hb
  clear K1 HB HA HX hb
  rcases ans with ⟨rfl, qo, qc, ro, rc, rfl, bq, br⟩ | ⟨rfl, rfl⟩
  · have ba := below_alloc9 w1 (.cells #[.int .i64 r, .int .i64 r, .slice qo nq qc, .int .i64 r, .int .i64 c, .slice ro n rc, .bool true] 34)
    have ST := hide (show ThSt w (w1.alloc (.cells #[.int .i64 r, .int .i64 r, .slice qo nq qc, .int .i64 r, .int .i64 c, .slice ro n rc, .bool true] 34)) w1.heap.size r c n cap ao r r (.slice qo nq qc) r c (.slice ro n rc) true from ⟨hB1.trans (ba.mono hB1.size), hA1.all ba, hX1.all ba, BoxW.new w1 _ _ _ _ _ _ _⟩)
    have BQ := hide (bq.below ba); have BR := hide (br.below ba)
    have HG := hide (show w.heap.size + 1 < w1.heap.size from hX1.lt)
    clear ba hB1 hA1 hX1 bq br
    have t6 := (unhide ST).t.c6
    have a0 := (unhide ST).a.c0; have a1 := (unhide ST).a.c1
    rcases (show ((r : Int) ≤ (c : Int) ∧ k = r) ∨ ((c : Int) < (r : Int) ∧ k = c) by omega) with ⟨hrc, rfl⟩ | ⟨hrc, rfl⟩
    · clear hk
      go_wp2_with fail
      clear t6 a0 a1
      generalize w1.heap.size = g at *
      refine at_world (fun W => ThSt w W g k c n cap ao k k (.slice qo nq qc) k c (.slice ro n rc) true ∧ BitsAt W qo qc (mxL Q) ∧ BitsAt W ro rc (mxL R)) ⟨unhide ST, unhide BQ, unhide BR⟩ ?_
      clear ST BQ BR
      rintro W ⟨st, bq, br⟩
      have hd := (Below.refl W.heap.size W).drew
      have ST := hide (st.all hd); have BQ := hide (bq.below hd); have BR := hide (br.below hd)
      clear st bq br hd
      refine wp_region_held_drew (S := (fun w' => (w'.cell? ⟨w.heap.size, 0, none⟩ = some (.int .i64 (k : Nat)) ∧ w'.cell? ⟨w.heap.size, 1, none⟩ = some (.int .i64 (c : Nat))) ∧ (w'.cell? ⟨g, 0, none⟩ = some (.int .i64 (k : Nat)) ∧ w'.cell? ⟨g, 1, none⟩ = some (.int .i64 (k : Nat)) ∧ w'.cell? ⟨g, 2, none⟩ = some (.slice qo nq qc) ∧ w'.cell? ⟨g, 3, none⟩ = some (.int .i64 (k : Nat)) ∧ w'.cell? ⟨g, 4, none⟩ = some (.int .i64 (c : Nat)) ∧ w'.cell? ⟨g, 5, none⟩ = some (.slice ro n rc)))) (by kernel_rfl) ?_ (fun hHeld => ?_)
      · exact (unhide ST).held
      refine wpAnyH_take (i := 0) (oi := { dst := some 16, op := Op.fieldAddr 34 (Operand.tmp 3) 0, type := 0, pos := "ref.go:59", after := #[], guard := none }) (v := (Value.pointer (some ⟨g, 0, none⟩))) rfl (by kernel_rfl) (by kernel_rfl) (by kernel_rfl) (fun _ _ _ h => h) (Or.inl ⟨by rfl, ?_⟩) (by assumption) ?_
      · (intro w hSw; (try dsimp only at hSw); go_simp)
      simp only [Act.put, List.setIfInBounds_toArray, List.set_cons_zero, List.set_cons_succ]
      refine wpAnyH_take (i := 1) (oi := { dst := some 17, op := Op.load 24 (Operand.tmp 16), type := 24, pos := "ref.go:59", after := #[{ on := 0, ground := Ground.data }], guard := none }) (v := (Value.agg #[.int .i64 (k : Nat), .int .i64 (k : Nat), .slice qo nq qc])) rfl (by kernel_rfl) (by kernel_rfl) (by kernel_rfl) (fun _ _ _ h => h) (Or.inl ⟨by rfl, ?_⟩) (by assumption) ?_
      · (intro w hSw; (try dsimp only at hSw); go_simp)
      simp only [Act.put, List.setIfInBounds_toArray, List.set_cons_zero, List.set_cons_succ]
      refine wpAnyH_take (i := 2) (oi := { dst := some 18, op := Op.fieldAddr 24 (Operand.tmp 1) 0, type := 0, pos := "ref.go:59", after := #[], guard := none }) (v := (Value.pointer (some ⟨w.heap.size, 0, none⟩))) rfl (by kernel_rfl) (by kernel_rfl) (by kernel_rfl) (fun _ _ _ h => h) (Or.inl ⟨by rfl, ?_⟩) (by assumption) ?_
      · (intro w hSw; (try dsimp only at hSw); go_simp)
      simp only [Act.put, List.setIfInBounds_toArray, List.set_cons_zero, List.set_cons_succ]
      refine wpAnyH_take (i := 3) (oi := { dst := some 19, op := Op.load 3 (Operand.tmp 18), type := 3, pos := "ref.go:59", after := #[{ on := 2, ground := Ground.data }], guard := none }) (v := (Value.int .i64 (k : Nat))) rfl (by kernel_rfl) (by kernel_rfl) (by kernel_rfl) (fun _ _ _ h => h) (Or.inl ⟨by rfl, ?_⟩) (by assumption) ?_
      · (intro w hSw; (try dsimp only at hSw); go_simp)
      simp only [Act.put, List.setIfInBounds_toArray, List.set_cons_zero, List.set_cons_succ]
      refine wpAnyH_take (i := 4) (oi := { dst := some 20, op := Op.move (Operand.tmp 4), type := 3, pos := "ref.go:59", after := #[], guard := none }) (v := (Value.int .i64 (k : Nat))) rfl (by kernel_rfl) (by kernel_rfl) (by kernel_rfl) (fun _ _ _ h => h) (Or.inl ⟨by rfl, ?_⟩) (by assumption) ?_
      · (intro w hSw; (try dsimp only at hSw); go_simp)
      simp only [Act.put, List.setIfInBounds_toArray, List.set_cons_zero, List.set_cons_succ]
      refine wpAnyH_take (i := 6) (oi := { dst := some 22, op := Op.fieldAddr 34 (Operand.tmp 3) 1, type := 0, pos := "ref.go:59", after := #[], guard := none }) (v := (Value.pointer (some ⟨g, 3, none⟩))) rfl (by kernel_rfl) (by kernel_rfl) (by kernel_rfl) (fun _ _ _ h => h) (Or.inl ⟨by rfl, ?_⟩) (by assumption) ?_
      · (intro w hSw; (try dsimp only at hSw); go_simp)
      simp only [Act.put, List.setIfInBounds_toArray, List.set_cons_zero, List.set_cons_succ]
      refine wpAnyH_take (i := 7) (oi := { dst := some 23, op := Op.load 24 (Operand.tmp 22), type := 24, pos := "ref.go:59", after := #[{ on := 6, ground := Ground.data }], guard := none }) (v := (Value.agg #[.int .i64 (k : Nat), .int .i64 (c : Nat), .slice ro n rc])) rfl (by kernel_rfl) (by kernel_rfl) (by kernel_rfl) (fun _ _ _ h => h) (Or.inl ⟨by rfl, ?_⟩) (by assumption) ?_
      · (intro w hSw; (try dsimp only at hSw); go_simp)
      simp only [Act.put, List.setIfInBounds_toArray, List.set_cons_zero, List.set_cons_succ]
      refine wpAnyH_take (i := 8) (oi := { dst := some 24, op := Op.move (Operand.tmp 4), type := 3, pos := "ref.go:59", after := #[], guard := none }) (v := (Value.int .i64 (k : Nat))) rfl (by kernel_rfl) (by kernel_rfl) (by kernel_rfl) (fun _ _ _ h => h) (Or.inl ⟨by rfl, ?_⟩) (by assumption) ?_
      · (intro w hSw; (try dsimp only at hSw); go_simp)
      simp only [Act.put, List.setIfInBounds_toArray, List.set_cons_zero, List.set_cons_succ]
      refine wpAnyH_take (i := 9) (oi := { dst := some 25, op := Op.fieldAddr 24 (Operand.tmp 1) 1, type := 0, pos := "ref.go:59", after := #[], guard := none }) (v := (Value.pointer (some ⟨w.heap.size, 1, none⟩))) rfl (by kernel_rfl) (by kernel_rfl) (by kernel_rfl) (fun _ _ _ h => h) (Or.inl ⟨by rfl, ?_⟩) (by assumption) ?_
      · (intro w hSw; (try dsimp only at hSw); go_simp)
      simp only [Act.put, List.setIfInBounds_toArray, List.set_cons_zero, List.set_cons_succ]
      refine wpAnyH_take (i := 10) (oi := { dst := some 26, op := Op.load 3 (Operand.tmp 25), type := 3, pos := "ref.go:59", after := #[{ on := 9, ground := Ground.data }], guard := none }) (v := (Value.int .i64 (c : Nat))) rfl (by kernel_rfl) (by kernel_rfl) (by kernel_rfl) (fun _ _ _ h => h) (Or.inl ⟨by rfl, ?_⟩) (by assumption) ?_
      · (intro w hSw; (try dsimp only at hSw); go_simp)
      simp only [Act.put, List.setIfInBounds_toArray, List.set_cons_zero, List.set_cons_succ]
      refine wpAnyH_ready (rs := [5]) (by kernel_rfl) (by simp) ?_
      refine AllReadyH.cons (o := { dst := some 21, op := Op.call { callee := Callee.value (Operand.func 32), args := #[Operand.tmp 17, Operand.const (Value.int IntKind.i64 0), Operand.const (Value.int IntKind.i64 0), Operand.tmp 19, Operand.tmp 20], argTypes := #[24, 3, 3, 3, 3] }, type := 24, pos := "ref.go:59", after := #[{ on := 1, ground := Ground.data }, { on := 3, ground := Ground.data }, { on := 4, ground := Ground.data }], guard := none }) rfl (fun K hK => ?_) AllReadyH.nil
      go_simp
      refine (unhide K2 _ _ _ (unhide BQ)).mono ?_
      rintro e w5 ⟨po5, pc5, rfl, hq, hb⟩
      have HQ5 := hide hq
      replace ST := hide ((unhide ST).all hb)
      replace BQ := hide ((unhide BQ).below hb)
      replace BR := hide ((unhide BR).below hb)
      clear hb hq
      go_wp2_with fail
      refine hK.out _ _ ?_ (fun hHeld => ?_)
      · exact (unhide ST).held
      clear hK K
      refine wpAnyH_ready (rs := [11]) (by kernel_rfl) (by simp) ?_
      refine AllReadyH.cons (o := { dst := some 27, op := Op.call { callee := Callee.value (Operand.func 32), args := #[Operand.tmp 23, Operand.const (Value.int IntKind.i64 0), Operand.const (Value.int IntKind.i64 0), Operand.tmp 24, Operand.tmp 26], argTypes := #[24, 3, 3, 3, 3] }, type := 24, pos := "ref.go:59", after := #[{ on := 7, ground := Ground.data }, { on := 8, ground := Ground.data }, { on := 10, ground := Ground.data }, { on := 5, ground := Ground.chain }], guard := none }) rfl (fun K hK => ?_) AllReadyH.nil
      go_simp
      refine (unhide K3 _ _ _ (unhide BR)).mono ?_
      rintro e w11 ⟨po11, pc11, rfl, hq, hb⟩
      have HQ11 := hide hq
      replace HQ5 := hide ((unhide HQ5).below hb)
      replace ST := hide ((unhide ST).all hb)
      replace BQ := hide ((unhide BQ).below hb)
      replace BR := hide ((unhide BR).below hb)
      clear hb hq
      have X1 := (unhide ST).res
      have r0 := X1.c0; have r1 := X1.c1; have r2 := X1.c2; have r3 := X1.c3; have r4 := X1.c4; have r5 := X1.c5; have r6 := X1.c6
      have f0 := X1.free 0; have f1 := X1.free 1; have f2 := X1.free 2; have f3 := X1.free 3; have f4 := X1.free 4; have f5 := X1.free 5; have f6 := X1.free 6
      have XP := X1.put (.int .i64 (k : Nat)) (.int .i64 (k : Nat)) (.slice po5 TQ.length pc5) (.int .i64 (k : Nat)) (.int .i64 (c : Nat)) (.slice po11 TR.length pc11) (.bool true)
      have z0 := XP.c0; have z1 := XP.c1; have z2 := XP.c2; have z3 := XP.c3; have z4 := XP.c4; have z5 := XP.c5; have z6 := XP.c6
      have BP := hide (below_putW (unhide ST).bel (g := w.heap.size + 1) (by omega) (.int .i64 (k : Nat)) (.int .i64 (k : Nat)) (.slice po5 TQ.length pc5) (.int .i64 (k : Nat)) (.int .i64 (c : Nat)) (.slice po11 TR.length pc11) (.bool true))
      have PQ := hide (bits_putW (unhide HQ5) X1 (.int .i64 (k : Nat)) (.int .i64 (k : Nat)) (.slice po5 TQ.length pc5) (.int .i64 (k : Nat)) (.int .i64 (c : Nat)) (.slice po11 TR.length pc11) (.bool true))
      have PR := hide (bits_putW (unhide HQ11) X1 (.int .i64 (k : Nat)) (.int .i64 (k : Nat)) (.slice po5 TQ.length pc5) (.int .i64 (k : Nat)) (.int .i64 (c : Nat)) (.slice po11 TR.length pc11) (.bool true))
      have HS5 := hide (unhide ST).held
      have HS6 := hide ((unhide ST).put (unhide HG) (.int .i64 (k : Nat)) (.int .i64 (k : Nat)) (.slice po5 TQ.length pc5) (.int .i64 (k : Nat)) (.int .i64 (c : Nat)) (.slice po11 TR.length pc11) (.bool true))
      clear X1 XP ST HQ5 HQ11
      go_wp2_with fail
      refine hK.out _ _ ?_ (fun hHeld => ?_)
      · exact unhide HS5
      clear hK K
      refine wpAnyH_ready (rs := [12]) (by kernel_rfl) (by simp) ?_
      refine AllReadyH.cons (o := { dst := some 28, op := Op.build 34 #[(0, Operand.tmp 21), (1, Operand.tmp 27), (2, Operand.const (Value.bool true))], type := 34, pos := "ref.go:59", after := #[{ on := 5, ground := Ground.data }, { on := 11, ground := Ground.data }], guard := none }) rfl (fun K hK => ?_) AllReadyH.nil
      go_simp
      refine hK.out _ _ ?_ (fun hHeld => ?_)
      · exact unhide HS5
      clear hK K
      refine wpAnyH_ready (rs := [13]) (by kernel_rfl) (by simp) ?_
      refine AllReadyH.cons (o := { dst := none, op := Op.store 34 (Operand.tmp 2) (Operand.tmp 28), type := 0, pos := "ref.go:59", after := #[{ on := 12, ground := Ground.data }, { on := 11, ground := Ground.chain }, { on := 0, ground := Ground.phase }, { on := 1, ground := Ground.phase }, { on := 2, ground := Ground.phase }, { on := 3, ground := Ground.phase }, { on := 4, ground := Ground.phase }, { on := 5, ground := Ground.phase }, { on := 6, ground := Ground.phase }, { on := 7, ground := Ground.phase }, { on := 8, ground := Ground.phase }, { on := 9, ground := Ground.phase }, { on := 10, ground := Ground.phase }, { on := 11, ground := Ground.phase }, { on := 12, ground := Ground.phase }], guard := none }) rfl (fun K hK => ?_) AllReadyH.nil
      go_simp
      refine hK.out _ _ ?_ (fun hHeld => ?_)
      · exact unhide HS6
      clear hK K
      refine wpAnyH_done (by kernel_rfl) ?_ _
      clear r0 r1 r2 r3 r4 r5 r6 f0 f1 f2 f3 f4 f5 f6 HS5 HS6
      go_wp2_with fail
      exact bodyPost_ret (v := .agg #[.int .i64 (k : Nat), .int .i64 (k : Nat), .slice po5 TQ.length pc5, .int .i64 (k : Nat), .int .i64 (c : Nat), .slice po11 TR.length pc11, .bool true]) (by simp [results, Tryz.results14, go_sem, z0, z1, z2, z3, z4, z5, z6]) rfl ⟨.inl ⟨rfl, po5, pc5, po11, pc11, rfl, unhide PQ, unhide PR⟩, unhide BP⟩
    · clear hk
      go_wp2_with fail
      clear t6 a0 a1
      generalize w1.heap.size = g at *
      refine at_world (fun W => ThSt w W g r k n cap ao r r (.slice qo nq qc) r k (.slice ro n rc) true ∧ BitsAt W qo qc (mxL Q) ∧ BitsAt W ro rc (mxL R)) ⟨unhide ST, unhide BQ, unhide BR⟩ ?_
      clear ST BQ BR
      rintro W ⟨st, bq, br⟩
      have hd := (Below.refl W.heap.size W).drew
      have ST := hide (st.all hd); have BQ := hide (bq.below hd); have BR := hide (br.below hd)
      clear st bq br hd
      refine wp_region_held_drew (S := (fun w' => (w'.cell? ⟨w.heap.size, 0, none⟩ = some (.int .i64 (r : Nat)) ∧ w'.cell? ⟨w.heap.size, 1, none⟩ = some (.int .i64 (k : Nat))) ∧ (w'.cell? ⟨g, 0, none⟩ = some (.int .i64 (r : Nat)) ∧ w'.cell? ⟨g, 1, none⟩ = some (.int .i64 (r : Nat)) ∧ w'.cell? ⟨g, 2, none⟩ = some (.slice qo nq qc) ∧ w'.cell? ⟨g, 3, none⟩ = some (.int .i64 (r : Nat)) ∧ w'.cell? ⟨g, 4, none⟩ = some (.int .i64 (k : Nat)) ∧ w'.cell? ⟨g, 5, none⟩ = some (.slice ro n rc)))) (by kernel_rfl) ?_ (fun hHeld => ?_)
      · exact (unhide ST).held
      refine wpAnyH_take (i := 0) (oi := { dst := some 16, op := Op.fieldAddr 34 (Operand.tmp 3) 0, type := 0, pos := "ref.go:59", after := #[], guard := none }) (v := (Value.pointer (some ⟨g, 0, none⟩))) rfl (by kernel_rfl) (by kernel_rfl) (by kernel_rfl) (fun _ _ _ h => h) (Or.inl ⟨by rfl, ?_⟩) (by assumption) ?_
      · (intro w hSw; (try dsimp only at hSw); go_simp)
      simp only [Act.put, List.setIfInBounds_toArray, List.set_cons_zero, List.set_cons_succ]
      refine wpAnyH_take (i := 1) (oi := { dst := some 17, op := Op.load 24 (Operand.tmp 16), type := 24, pos := "ref.go:59", after := #[{ on := 0, ground := Ground.data }], guard := none }) (v := (Value.agg #[.int .i64 (r : Nat), .int .i64 (r : Nat), .slice qo nq qc])) rfl (by kernel_rfl) (by kernel_rfl) (by kernel_rfl) (fun _ _ _ h => h) (Or.inl ⟨by rfl, ?_⟩) (by assumption) ?_
      · (intro w hSw; (try dsimp only at hSw); go_simp)
      simp only [Act.put, List.setIfInBounds_toArray, List.set_cons_zero, List.set_cons_succ]
      refine wpAnyH_take (i := 2) (oi := { dst := some 18, op := Op.fieldAddr 24 (Operand.tmp 1) 0, type := 0, pos := "ref.go:59", after := #[], guard := none }) (v := (Value.pointer (some ⟨w.heap.size, 0, none⟩))) rfl (by kernel_rfl) (by kernel_rfl) (by kernel_rfl) (fun _ _ _ h => h) (Or.inl ⟨by rfl, ?_⟩) (by assumption) ?_
      · (intro w hSw; (try dsimp only at hSw); go_simp)
      simp only [Act.put, List.setIfInBounds_toArray, List.set_cons_zero, List.set_cons_succ]
      refine wpAnyH_take (i := 3) (oi := { dst := some 19, op := Op.load 3 (Operand.tmp 18), type := 3, pos := "ref.go:59", after := #[{ on := 2, ground := Ground.data }], guard := none }) (v := (Value.int .i64 (r : Nat))) rfl (by kernel_rfl) (by kernel_rfl) (by kernel_rfl) (fun _ _ _ h => h) (Or.inl ⟨by rfl, ?_⟩) (by assumption) ?_
      · (intro w hSw; (try dsimp only at hSw); go_simp)
      simp only [Act.put, List.setIfInBounds_toArray, List.set_cons_zero, List.set_cons_succ]
      refine wpAnyH_take (i := 4) (oi := { dst := some 20, op := Op.move (Operand.tmp 4), type := 3, pos := "ref.go:59", after := #[], guard := none }) (v := (Value.int .i64 (k : Nat))) rfl (by kernel_rfl) (by kernel_rfl) (by kernel_rfl) (fun _ _ _ h => h) (Or.inl ⟨by rfl, ?_⟩) (by assumption) ?_
      · (intro w hSw; (try dsimp only at hSw); go_simp)
      simp only [Act.put, List.setIfInBounds_toArray, List.set_cons_zero, List.set_cons_succ]
      refine wpAnyH_take (i := 6) (oi := { dst := some 22, op := Op.fieldAddr 34 (Operand.tmp 3) 1, type := 0, pos := "ref.go:59", after := #[], guard := none }) (v := (Value.pointer (some ⟨g, 3, none⟩))) rfl (by kernel_rfl) (by kernel_rfl) (by kernel_rfl) (fun _ _ _ h => h) (Or.inl ⟨by rfl, ?_⟩) (by assumption) ?_
      · (intro w hSw; (try dsimp only at hSw); go_simp)
      simp only [Act.put, List.setIfInBounds_toArray, List.set_cons_zero, List.set_cons_succ]
      refine wpAnyH_take (i := 7) (oi := { dst := some 23, op := Op.load 24 (Operand.tmp 22), type := 24, pos := "ref.go:59", after := #[{ on := 6, ground := Ground.data }], guard := none }) (v := (Value.agg #[.int .i64 (r : Nat), .int .i64 (k : Nat), .slice ro n rc])) rfl (by kernel_rfl) (by kernel_rfl) (by kernel_rfl) (fun _ _ _ h => h) (Or.inl ⟨by rfl, ?_⟩) (by assumption) ?_
      · (intro w hSw; (try dsimp only at hSw); go_simp)
      simp only [Act.put, List.setIfInBounds_toArray, List.set_cons_zero, List.set_cons_succ]
      refine wpAnyH_take (i := 8) (oi := { dst := some 24, op := Op.move (Operand.tmp 4), type := 3, pos := "ref.go:59", after := #[], guard := none }) (v := (Value.int .i64 (k : Nat))) rfl (by kernel_rfl) (by kernel_rfl) (by kernel_rfl) (fun _ _ _ h => h) (Or.inl ⟨by rfl, ?_⟩) (by assumption) ?_
      · (intro w hSw; (try dsimp only at hSw); go_simp)
      simp only [Act.put, List.setIfInBounds_toArray, List.set_cons_zero, List.set_cons_succ]
      refine wpAnyH_take (i := 9) (oi := { dst := some 25, op := Op.fieldAddr 24 (Operand.tmp 1) 1, type := 0, pos := "ref.go:59", after := #[], guard := none }) (v := (Value.pointer (some ⟨w.heap.size, 1, none⟩))) rfl (by kernel_rfl) (by kernel_rfl) (by kernel_rfl) (fun _ _ _ h => h) (Or.inl ⟨by rfl, ?_⟩) (by assumption) ?_
      · (intro w hSw; (try dsimp only at hSw); go_simp)
      simp only [Act.put, List.setIfInBounds_toArray, List.set_cons_zero, List.set_cons_succ]
      refine wpAnyH_take (i := 10) (oi := { dst := some 26, op := Op.load 3 (Operand.tmp 25), type := 3, pos := "ref.go:59", after := #[{ on := 9, ground := Ground.data }], guard := none }) (v := (Value.int .i64 (k : Nat))) rfl (by kernel_rfl) (by kernel_rfl) (by kernel_rfl) (fun _ _ _ h => h) (Or.inl ⟨by rfl, ?_⟩) (by assumption) ?_
      · (intro w hSw; (try dsimp only at hSw); go_simp)
      simp only [Act.put, List.setIfInBounds_toArray, List.set_cons_zero, List.set_cons_succ]
      refine wpAnyH_ready (rs := [5]) (by kernel_rfl) (by simp) ?_
      refine AllReadyH.cons (o := { dst := some 21, op := Op.call { callee := Callee.value (Operand.func 32), args := #[Operand.tmp 17, Operand.const (Value.int IntKind.i64 0), Operand.const (Value.int IntKind.i64 0), Operand.tmp 19, Operand.tmp 20], argTypes := #[24, 3, 3, 3, 3] }, type := 24, pos := "ref.go:59", after := #[{ on := 1, ground := Ground.data }, { on := 3, ground := Ground.data }, { on := 4, ground := Ground.data }], guard := none }) rfl (fun K hK => ?_) AllReadyH.nil
      go_simp
      refine (unhide K2 _ _ _ (unhide BQ)).mono ?_
      rintro e w5 ⟨po5, pc5, rfl, hq, hb⟩
      have HQ5 := hide hq
      replace ST := hide ((unhide ST).all hb)
      replace BQ := hide ((unhide BQ).below hb)
      replace BR := hide ((unhide BR).below hb)
      clear hb hq
      go_wp2_with fail
      refine hK.out _ _ ?_ (fun hHeld => ?_)
      · exact (unhide ST).held
      clear hK K
      refine wpAnyH_ready (rs := [11]) (by kernel_rfl) (by simp) ?_
      refine AllReadyH.cons (o := { dst := some 27, op := Op.call { callee := Callee.value (Operand.func 32), args := #[Operand.tmp 23, Operand.const (Value.int IntKind.i64 0), Operand.const (Value.int IntKind.i64 0), Operand.tmp 24, Operand.tmp 26], argTypes := #[24, 3, 3, 3, 3] }, type := 24, pos := "ref.go:59", after := #[{ on := 7, ground := Ground.data }, { on := 8, ground := Ground.data }, { on := 10, ground := Ground.data }, { on := 5, ground := Ground.chain }], guard := none }) rfl (fun K hK => ?_) AllReadyH.nil
      go_simp
      refine (unhide K3 _ _ _ (unhide BR)).mono ?_
      rintro e w11 ⟨po11, pc11, rfl, hq, hb⟩
      have HQ11 := hide hq
      replace HQ5 := hide ((unhide HQ5).below hb)
      replace ST := hide ((unhide ST).all hb)
      replace BQ := hide ((unhide BQ).below hb)
      replace BR := hide ((unhide BR).below hb)
      clear hb hq
      have X1 := (unhide ST).res
      have r0 := X1.c0; have r1 := X1.c1; have r2 := X1.c2; have r3 := X1.c3; have r4 := X1.c4; have r5 := X1.c5; have r6 := X1.c6
      have f0 := X1.free 0; have f1 := X1.free 1; have f2 := X1.free 2; have f3 := X1.free 3; have f4 := X1.free 4; have f5 := X1.free 5; have f6 := X1.free 6
      have XP := X1.put (.int .i64 (r : Nat)) (.int .i64 (k : Nat)) (.slice po5 TQ.length pc5) (.int .i64 (k : Nat)) (.int .i64 (k : Nat)) (.slice po11 TR.length pc11) (.bool true)
      have z0 := XP.c0; have z1 := XP.c1; have z2 := XP.c2; have z3 := XP.c3; have z4 := XP.c4; have z5 := XP.c5; have z6 := XP.c6
      have BP := hide (below_putW (unhide ST).bel (g := w.heap.size + 1) (by omega) (.int .i64 (r : Nat)) (.int .i64 (k : Nat)) (.slice po5 TQ.length pc5) (.int .i64 (k : Nat)) (.int .i64 (k : Nat)) (.slice po11 TR.length pc11) (.bool true))
      have PQ := hide (bits_putW (unhide HQ5) X1 (.int .i64 (r : Nat)) (.int .i64 (k : Nat)) (.slice po5 TQ.length pc5) (.int .i64 (k : Nat)) (.int .i64 (k : Nat)) (.slice po11 TR.length pc11) (.bool true))
      have PR := hide (bits_putW (unhide HQ11) X1 (.int .i64 (r : Nat)) (.int .i64 (k : Nat)) (.slice po5 TQ.length pc5) (.int .i64 (k : Nat)) (.int .i64 (k : Nat)) (.slice po11 TR.length pc11) (.bool true))
      have HS5 := hide (unhide ST).held
      have HS6 := hide ((unhide ST).put (unhide HG) (.int .i64 (r : Nat)) (.int .i64 (k : Nat)) (.slice po5 TQ.length pc5) (.int .i64 (k : Nat)) (.int .i64 (k : Nat)) (.slice po11 TR.length pc11) (.bool true))
      clear X1 XP ST HQ5 HQ11
      go_wp2_with fail
      refine hK.out _ _ ?_ (fun hHeld => ?_)
      · exact unhide HS5
      clear hK K
      refine wpAnyH_ready (rs := [12]) (by kernel_rfl) (by simp) ?_
      refine AllReadyH.cons (o := { dst := some 28, op := Op.build 34 #[(0, Operand.tmp 21), (1, Operand.tmp 27), (2, Operand.const (Value.bool true))], type := 34, pos := "ref.go:59", after := #[{ on := 5, ground := Ground.data }, { on := 11, ground := Ground.data }], guard := none }) rfl (fun K hK => ?_) AllReadyH.nil
      go_simp
      refine hK.out _ _ ?_ (fun hHeld => ?_)
      · exact unhide HS5
      clear hK K
      refine wpAnyH_ready (rs := [13]) (by kernel_rfl) (by simp) ?_
      refine AllReadyH.cons (o := { dst := none, op := Op.store 34 (Operand.tmp 2) (Operand.tmp 28), type := 0, pos := "ref.go:59", after := #[{ on := 12, ground := Ground.data }, { on := 11, ground := Ground.chain }, { on := 0, ground := Ground.phase }, { on := 1, ground := Ground.phase }, { on := 2, ground := Ground.phase }, { on := 3, ground := Ground.phase }, { on := 4, ground := Ground.phase }, { on := 5, ground := Ground.phase }, { on := 6, ground := Ground.phase }, { on := 7, ground := Ground.phase }, { on := 8, ground := Ground.phase }, { on := 9, ground := Ground.phase }, { on := 10, ground := Ground.phase }, { on := 11, ground := Ground.phase }, { on := 12, ground := Ground.phase }], guard := none }) rfl (fun K hK => ?_) AllReadyH.nil
      go_simp
      refine hK.out _ _ ?_ (fun hHeld => ?_)
      · exact unhide HS6
      clear hK K
      refine wpAnyH_done (by kernel_rfl) ?_ _
      clear r0 r1 r2 r3 r4 r5 r6 f0 f1 f2 f3 f4 f5 f6 HS5 HS6
      go_wp2_with fail
      exact bodyPost_ret (v := .agg #[.int .i64 (r : Nat), .int .i64 (k : Nat), .slice po5 TQ.length pc5, .int .i64 (k : Nat), .int .i64 (k : Nat), .slice po11 TR.length pc11, .bool true]) (by simp [results, Tryz.results14, go_sem, z0, z1, z2, z3, z4, z5, z6]) rfl ⟨.inl ⟨rfl, po5, pc5, po11, pc11, rfl, unhide PQ, unhide PR⟩, unhide BP⟩
  · have ba := below_alloc9 w1 (.cells #[.int .i64 0, .int .i64 0, .slice none 0 0, .int .i64 0, .int .i64 0, .slice none 0 0, .bool false] 34)
    have ST := hide (show ThSt w (w1.alloc (.cells #[.int .i64 0, .int .i64 0, .slice none 0 0, .int .i64 0, .int .i64 0, .slice none 0 0, .bool false] 34)) w1.heap.size r c n cap ao 0 0 (.slice none 0 0) 0 0 (.slice none 0 0) false from ⟨hB1.trans (ba.mono hB1.size), hA1.all ba, hX1.all ba, BoxW.new w1 _ _ _ _ _ _ _⟩)
    clear ba hB1 hA1 hX1
    have X2 := (unhide ST).t
    have t0 := X2.c0; have t1 := X2.c1; have t2 := X2.c2; have t3 := X2.c3; have t4 := X2.c4; have t5 := X2.c5; have t6 := X2.c6
    have X1 := (unhide ST).res
    have r0 := X1.c0; have r1 := X1.c1; have r2 := X1.c2; have r3 := X1.c3; have r4 := X1.c4; have r5 := X1.c5; have r6 := X1.c6
    have f0 := X1.free 0; have f1 := X1.free 1; have f2 := X1.free 2; have f3 := X1.free 3; have f4 := X1.free 4; have f5 := X1.free 5; have f6 := X1.free 6
    have XP := X1.put (.int .i64 0) (.int .i64 0) (.slice none 0 0) (.int .i64 0) (.int .i64 0) (.slice none 0 0) (.bool false)
    have z0 := XP.c0; have z1 := XP.c1; have z2 := XP.c2; have z3 := XP.c3; have z4 := XP.c4; have z5 := XP.c5; have z6 := XP.c6
    have BP := hide (below_putW (unhide ST).bel (g := w.heap.size + 1) (by omega) (.int .i64 0) (.int .i64 0) (.slice none 0 0) (.int .i64 0) (.int .i64 0) (.slice none 0 0) (.bool false))
    clear X1 X2 XP ST
    go_wp2_with fail
    exact bodyPost_ret (v := .agg #[.int .i64 0, .int .i64 0, .slice none 0 0, .int .i64 0, .int .i64 0, .slice none 0 0, .bool false]) (by simp [results, Tryz.results14, go_sem, z0, z1, z2, z3, z4, z5, z6]) rfl ⟨.inr ⟨rfl, rfl⟩, unhide BP⟩

end Go.Proofs.YtfkndkaneffgdaaGreatDoor

