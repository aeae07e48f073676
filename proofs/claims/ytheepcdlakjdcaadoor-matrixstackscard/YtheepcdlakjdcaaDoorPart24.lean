/- Part 24 of the texts. -/
import Derived.Test.YtheepcdlakjdcaaDoorPart23
/- The reference of layer 10: Stack, Beside. -/
namespace Go.Proofs.YtheepcdlakjdcaaDoor
open Go.RowKit
attribute [local go_sem ↓] Go.wp_at_zero Go.wp_at_succ

set_option maxRecDepth 20000 in
set_option maxHeartbeats 8000000 in
theorem rstack_of (r c n cap p q m d : Nat) (ao bo po : Option Addr) (pc z : Nat) (U : List Nat) (w w1 : World) (hr : r ≤ 6) (hp : p ≤ 6)
    (run : (Builtin.append_ #[22, 22] 22 #[.slice (some ⟨w.heap.size + 1 + 1 + 1, 0, none⟩) 0 0, .slice ao n cap]).run Tryd.prog ((((w.alloc (.cells #[.int .i64 r, .int .i64 c, .slice ao n cap] 24)).alloc (.cells #[.int .i64 p, .int .i64 q, .slice bo m d] 24)).alloc (.cells #[.int .i64 0, .int .i64 0, .slice none 0 0] 24)).alloc (.cells #[] 26)) = .ok (.slice po n pc) w1)
    (hA : BoxM w1 w.heap.size (.int .i64 r) (.int .i64 c) (.slice ao n cap)) (hA2 : BoxM w1 (w.heap.size + 1) (.int .i64 p) (.int .i64 q) (.slice bo m d)) (hX : BoxM w1 (w.heap.size + 1 + 1) (.int .i64 0) (.int .i64 0) (.slice none 0 0)) (hB : Below w.heap.size w w1)
    (app : ∀ w', Below w1.heap.size w1 w' → ∃ po' pc' w'', (Builtin.append_ #[22, 22] 22 #[.slice po n pc, .slice bo m d]).run Tryd.prog w' = .ok (.slice po' z pc') w'' ∧ (BitsAt w'' po' pc' (mxL U) ∧ Below (w.heap.size + 1 + 1 + 1) w1 w'')) (hz : U.length = z) :
    Calls Tryd.prog 28 #[.agg #[.int .i64 r, .int .i64 c, .slice ao n cap], .agg #[.int .i64 p, .int .i64 q, .slice bo m d]] w fun e w' => ∃ v, e = .returned v ∧ NewM 0 w' (r + p) c U v ∧ Below w.heap.size w w' := by
  have RUN := hide run; have APP := hide app; have HZ := hide hz
  have e1 := wrap_small ((r : Int) + (p : Int)) (by omega)
  have HK := hide (fun w' (h : Below (w.heap.size + 1 + 1) w1 w') => (show Below (w.heap.size + 1 + 1) w1 w' ∧ (w'.cell? ⟨w.heap.size, 0, none⟩ = some (.int .i64 r) ∧ w'.cell? ⟨w.heap.size, 1, none⟩ = some (.int .i64 c) ∧ w'.cell? ⟨w.heap.size, 2, none⟩ = some (.slice ao n cap)) ∧ (w'.cell? ⟨w.heap.size + 1, 0, none⟩ = some (.int .i64 p) ∧ w'.cell? ⟨w.heap.size + 1, 1, none⟩ = some (.int .i64 q) ∧ w'.cell? ⟨w.heap.size + 1, 2, none⟩ = some (.slice bo m d)) from
    have y := hA.below h (by omega); have y2 := hA2.below h (by omega); ⟨h, ⟨y.c0, y.c1, y.c2⟩, y2.c0, y2.c1, y2.c2⟩))
  have HX := hide hX; have HB := hide hB
  have HP := hide (fun w5 (u u' u'' : Value) (h : Below (w.heap.size + 1 + 1 + 1) w1 w5) => below_putM (h.mono (Nat.le_succ _)) (b := w.heap.size + 1 + 1) (Nat.le_refl _) u u' u'')
  have HM := hide (fun w5 (h : Below (w.heap.size + 1 + 1 + 1) w1 w5) => h.mono (Nat.le_succ (w.heap.size + 1 + 1)))
  have t0 := hA.c0; have t1 := hA.c1; have t2 := hA.c2
  clear run app hz hA2 hX hB hA
  go_enter Tryd.func28, Tryd.ntmps28
  go_wp2_with (at_builtin; refine wpList_append_ran _ rfl _ _ 22 rfl _ _ _ _ rfl rfl (unhide RUN) ?_; clear RUN)
  clear t0 t1 t2
  go_region_held3 (fun w' => Below (w.heap.size + 1 + 1) w1 w' ∧ (w'.cell? ⟨w.heap.size, 0, none⟩ = some (.int .i64 r) ∧ w'.cell? ⟨w.heap.size, 1, none⟩ = some (.int .i64 c) ∧ w'.cell? ⟨w.heap.size, 2, none⟩ = some (.slice ao n cap)) ∧ (w'.cell? ⟨w.heap.size + 1, 0, none⟩ = some (.int .i64 p) ∧ w'.cell? ⟨w.heap.size + 1, 1, none⟩ = some (.int .i64 q) ∧ w'.cell? ⟨w.heap.size + 1, 2, none⟩ = some (.slice bo m d)))
    (first | exact unhide HK _ (Below.refl _ _).drew | exact unhide HK _ (unhide HM _ (by assumption)) | exact unhide HK _ (unhide HP _ _ _ _ (by assumption)) | fail "KK")
    (first | (refine step_append_ex _ (by rfl) _ _ 22 (by rfl) _ _ _ _ (by rfl) (by rfl) (unhide APP _ (Below.refl _ _).drew) ?_; rintro ro rc w5 ⟨bits5, bel5⟩; have X5 := (unhide HX).below bel5 (by omega); have u0 := X5.c0; have u1 := X5.c1; have u2 := X5.c2; have f0 := X5.free 0; have f1 := X5.free 1; have f2 := X5.free 2; have HQ := hide bits5; have HX5 := hide X5; have HB5 := hide ((unhide HB).trans (bel5.mono (by omega))); clear bits5 X5) | fail "NO ARM")
  all_goals
    have XP := (unhide HX5).put (.int .i64 ((r : Int) + (p : Int))) (.int .i64 c) (.slice ro z rc)
    have z0 := XP.c0; have z1 := XP.c1; have z2 := XP.c2
    have QP := hide ((unhide HQ).putM (unhide HX5) (.int .i64 ((r : Int) + (p : Int))) (.int .i64 c) (.slice ro z rc))
    have BP := hide (below_putM (unhide HB5) (b := w.heap.size + 1 + 1) (by omega) (.int .i64 ((r : Int) + (p : Int))) (.int .i64 c) (.slice ro z rc))
    clear XP HX5 HQ HB5
    go_wp2
    refine bodyPost_ret (v := .agg #[.int .i64 ((r : Int) + (p : Int)), .int .i64 c, .slice ro z rc]) (by simp [results, Tryd.results28, go_sem, z0, z1, z2]) rfl ⟨_, rfl, ?_, unhide BP⟩
    have := NewM.any (r := r + p) (c := c) (unhide QP)
    rw [unhide HZ, show ((r + p : Nat) : Int) = (r : Int) + (p : Int) by simp] at this
    exact this

theorem rstack_any (r c cap p q d : Nat) (ao bo : Option Addr) (S T : List Nat) (w : World) (h : Mx w ao cap r c S) (h2 : Mx w bo d p q T) :
    Calls Tryd.prog 28 #[.agg #[.int .i64 r, .int .i64 c, .slice ao S.length cap], .agg #[.int .i64 p, .int .i64 q, .slice bo T.length d]] w fun e w' => ∃ v, e = .returned v ∧ NewM 0 w' (r + p) c (S ++ T) v ∧ Below w.heap.size w w' := by
  have b0 := below_alloc9 w (.cells #[.int .i64 r, .int .i64 c, .slice ao S.length cap] 24)
  have s0 := size_alloc9 w (.cells #[.int .i64 r, .int .i64 c, .slice ao S.length cap] 24)
  have b1 := below_alloc9 (w.alloc (.cells #[.int .i64 r, .int .i64 c, .slice ao S.length cap] 24)) (.cells #[.int .i64 p, .int .i64 q, .slice bo T.length d] 24)
  have s1 := size_alloc9 (w.alloc (.cells #[.int .i64 r, .int .i64 c, .slice ao S.length cap] 24)) (.cells #[.int .i64 p, .int .i64 q, .slice bo T.length d] 24)
  have b2 := below_alloc9 ((w.alloc (.cells #[.int .i64 r, .int .i64 c, .slice ao S.length cap] 24)).alloc (.cells #[.int .i64 p, .int .i64 q, .slice bo T.length d] 24)) (.cells #[.int .i64 0, .int .i64 0, .slice none 0 0] 24)
  have s2 := size_alloc9 ((w.alloc (.cells #[.int .i64 r, .int .i64 c, .slice ao S.length cap] 24)).alloc (.cells #[.int .i64 p, .int .i64 q, .slice bo T.length d] 24)) (.cells #[.int .i64 0, .int .i64 0, .slice none 0 0] 24)
  rw [s0] at s1
  rw [s1] at s2
  have bb := (b0.trans (b1.mono b0.size)).trans (b2.mono (Nat.le_trans b0.size b1.size))
  have KB := boxes3 w (.int .i64 r) (.int .i64 c) (.slice ao S.length cap) (.int .i64 p) (.int .i64 q) (.slice bo T.length d) (.int .i64 0) (.int .i64 0) (.slice none 0 0)
  have bt := h.1.below bb
  have bt2 := h2.1.below bb
  have h36 := h.small
  have g36 := h2.small
  generalize hW : ((w.alloc (.cells #[.int .i64 r, .int .i64 c, .slice ao S.length cap] 24)).alloc (.cells #[.int .i64 p, .int .i64 q, .slice bo T.length d] 24)).alloc (.cells #[.int .i64 0, .int .i64 0, .slice none 0 0] 24) = W at *
  have b3 := below_alloc9 W (.cells #[] 26)
  have on := OwnB.nil W (w.heap.size + 1 + 1 + 1) (by omega)
  obtain ⟨po, pc, w1, run, own, gr⟩ := copy_bits _ (w.heap.size + 1 + 1 + 1) 22 ao cap (mxL S) _ (bt.below b3) (by rw [mxL_len]; omega) on.1 (by simp; omega)
  rw [natL_mxL, mxL_len] at *
  have bel : Below (w.heap.size + 1 + 1 + 1) W w1 := (b3.mono (by omega)).grown gr (by simp; omega) (fun g hg => by cases hg; omega)
  obtain ⟨hB, hA, hA2, hX⟩ := KB w1 bel
  rw [s2] at run
  have bw : Below W.heap.size W w1 := by rw [s2]; exact bel
  have bt3 := bt2.below bw
  have hs1 := hX.lt
  subst hW
  refine rstack_of r c S.length cap p q T.length d ao bo po pc (S.length + T.length) (S ++ T) w w1 h.2.2.1 h2.2.2.1 run hA hA2 hX hB ?_ (by rw [List.length_append])
  intro w' hb
  have hsz := hb.size
  obtain ⟨po', pc', w'', e1, e2, e3⟩ := append_bits w' (w.heap.size + 1 + 1 + 1) 22 (.slice po S.length pc) S bo d T (own.below hb) (bt3.below hb) (by omega) (by omega)
  obtain ⟨ro, rc, e4, e5⟩ := e2.bits
  rw [List.length_append] at e4
  simp only [Value.slice.injEq] at e4
  obtain ⟨rfl, _, rfl⟩ := e4
  exact ⟨po', pc', w'', e1, e5, (hb.mono (by omega)).grown e3 (by omega) (fun g hg => ((own.below hb).1.lt g hg).1)⟩

set_option maxRecDepth 20000 in
set_option maxHeartbeats 8000000 in
theorem rbeside_of (r c n cap p q m d x y z a1 a2 a3 : Nat) (ao bo : Option Addr) (U V X Y : List Nat) (w : World)
    (C1 : ∀ w', Below w.heap.size w w' → Calls Tryd.prog 22 #[.agg #[.int .i64 r, .int .i64 c, .slice ao n cap]] w' fun e w'' => ∃ v, e = .returned v ∧ NewM 0 w'' c r U v ∧ Below w'.heap.size w' w'')
    (C2 : ∀ w', Below w.heap.size w w' → Calls Tryd.prog 22 #[.agg #[.int .i64 p, .int .i64 q, .slice bo m d]] w' fun e w'' => ∃ v, e = .returned v ∧ NewM 0 w'' q p V v ∧ Below w'.heap.size w' w'')
    (hU : U.length = a1) (hV : V.length = a2) (hX : X.length = a3)
    (C3 : ∀ w' uo uc vo vc, BitsAt w' uo uc (mxL U) → BitsAt w' vo vc (mxL V) → Calls Tryd.prog 28 #[.agg #[.int .i64 c, .int .i64 r, .slice uo a1 uc], .agg #[.int .i64 q, .int .i64 p, .slice vo a2 vc]] w' fun e w'' => ∃ v, e = .returned v ∧ NewM 0 w'' z r X v ∧ Below w'.heap.size w' w'')
    (C4 : ∀ w' uo uc, BitsAt w' uo uc (mxL X) → Calls Tryd.prog 22 #[.agg #[.int .i64 z, .int .i64 r, .slice uo a3 uc]] w' fun e w'' => ∃ v, e = .returned v ∧ NewM 0 w'' x y Y v ∧ Below w'.heap.size w' w'') :
    Calls Tryd.prog 29 #[.agg #[.int .i64 r, .int .i64 c, .slice ao n cap], .agg #[.int .i64 p, .int .i64 q, .slice bo m d]] w fun e w' => ∃ v, e = .returned v ∧ NewM 0 w' x y Y v ∧ Below w.heap.size w w' := by
  have K1 := hide C1; have K2 := hide C2; have K3 := hide C3; have K4 := hide C4
  have HU := hide hU; have HV := hide hV; have HX := hide hX
  have KB := hide (boxes3 w (.int .i64 r) (.int .i64 c) (.slice ao n cap) (.int .i64 p) (.int .i64 q) (.slice bo m d) (.int .i64 0) (.int .i64 0) (.slice none 0 0))
  clear C1 C2 C3 C4 hU hV hX
  go_enter Tryd.func29, Tryd.ntmps29
  go_wp2_with fail
  refine at_world (fun W => Below w.heap.size w W ∧ BoxM W w.heap.size (.int .i64 r) (.int .i64 c) (.slice ao n cap) ∧ BoxM W (w.heap.size + 1) (.int .i64 p) (.int .i64 q) (.slice bo m d) ∧ BoxM W (w.heap.size + 1 + 1) (.int .i64 0) (.int .i64 0) (.slice none 0 0)) (unhide KB _ (Below.refl _ _)) ?_
  rintro W ⟨hB, hA, hA2, hR⟩
  have HB := hide hB; have HR := hide hR
  have HK := hide (fun w' (h : Below (w.heap.size + 1 + 1) W w') => (show Below (w.heap.size + 1 + 1) W w' ∧ (w'.cell? ⟨w.heap.size, 0, none⟩ = some (.int .i64 r) ∧ w'.cell? ⟨w.heap.size, 1, none⟩ = some (.int .i64 c) ∧ w'.cell? ⟨w.heap.size, 2, none⟩ = some (.slice ao n cap)) ∧ (w'.cell? ⟨w.heap.size + 1, 0, none⟩ = some (.int .i64 p) ∧ w'.cell? ⟨w.heap.size + 1, 1, none⟩ = some (.int .i64 q) ∧ w'.cell? ⟨w.heap.size + 1, 2, none⟩ = some (.slice bo m d)) from
    have y := hA.below h (by omega); have y2 := hA2.below h (by omega); ⟨h, ⟨y.c0, y.c1, y.c2⟩, y2.c0, y2.c1, y2.c2⟩))
  have HS := hide hR.lt
  have HM := hide (fun w5 (h : Below W.heap.size W w5) => h.mono (Nat.le_of_lt hR.lt))
  have HP := hide (fun w5 (u u' u'' : Value) (h : Below W.heap.size W w5) => below_putM (h.mono (Nat.le_of_lt hR.lt)) (b := w.heap.size + 1 + 1) (Nat.le_refl _) u u' u'')
  have HW := hide (fun w5 (h : Below W.heap.size W w5) => hB.trans (h.mono hB.size))
  have D0 := hide ((Below.refl W.heap.size W).drew)
  clear KB hB hA hA2 hR
  go_region_held3 (fun w' => Below (w.heap.size + 1 + 1) W w' ∧ (w'.cell? ⟨w.heap.size, 0, none⟩ = some (.int .i64 r) ∧ w'.cell? ⟨w.heap.size, 1, none⟩ = some (.int .i64 c) ∧ w'.cell? ⟨w.heap.size, 2, none⟩ = some (.slice ao n cap)) ∧ (w'.cell? ⟨w.heap.size + 1, 0, none⟩ = some (.int .i64 p) ∧ w'.cell? ⟨w.heap.size + 1, 1, none⟩ = some (.int .i64 q) ∧ w'.cell? ⟨w.heap.size + 1, 2, none⟩ = some (.slice bo m d)))
    (first | exact unhide HK _ (Below.refl _ _).drew | exact unhide HK _ (unhide HM _ (by assumption)) | exact unhide HK _ (unhide HP _ _ _ _ (by assumption)) | fail "KK")
    (first | (go_at_call_of 22 (Value.agg #[.int .i64 r, .int .i64 c, .slice ao n cap]); refine (unhide K1 _ (unhide HW _ (by first | assumption | exact unhide D0))).mono ?_; rintro e w1 ⟨v, rfl, ⟨uo, uc, rfl, _, qu⟩, hb1⟩; have hB1 : Below W.heap.size W w1 := Below.trans (by first | assumption | exact unhide D0) (hb1.mono (Below.size (by first | assumption | exact unhide D0))); have QU := hide qu; (first | (have QV := hide ((unhide QV).below hb1)) | skip); rw [unhide HU]; clear qu hb1 K1) | (go_at_call_of 22 (Value.agg #[.int .i64 p, .int .i64 q, .slice bo m d]); refine (unhide K2 _ (unhide HW _ (by first | assumption | exact unhide D0))).mono ?_; rintro e w2 ⟨v, rfl, ⟨vo, vc, rfl, _, qv⟩, hb2⟩; have hB2 : Below W.heap.size W w2 := Below.trans (by first | assumption | exact unhide D0) (hb2.mono (Below.size (by first | assumption | exact unhide D0))); have QV := hide qv; (first | (have QU := hide ((unhide QU).below hb2)) | skip); rw [unhide HV]; clear qv hb2 K2) | (go_at_call 28; refine (unhide K3 _ _ _ _ _ (unhide QU) (unhide QV)).mono ?_; rintro e w3 ⟨v, rfl, ⟨xo, xc, rfl, _, qx⟩, hb3⟩; have hB3 : Below W.heap.size W w3 := Below.trans (by assumption) (hb3.mono (Below.size (by assumption))); have QX := hide qx; rw [unhide HX]; clear qx hb3 K3) | (go_at_call 22; refine (unhide K4 _ _ _ (unhide QX)).mono ?_; rintro e w4 ⟨v, rfl, ⟨yo, yc, rfl, _, qy⟩, hb4⟩; have hB4 : Below W.heap.size W w4 := Below.trans (by assumption) (hb4.mono (Below.size (by assumption))); have QY := hide qy; have R4 := (unhide HR).below hB4 (unhide HS); have f0 := R4.free 0; have f1 := R4.free 1; have f2 := R4.free 2; have u0 := R4.c0; have u1 := R4.c1; have u2 := R4.c2; have HR4 := hide R4; clear qy hb4 R4 K4) | fail "NO ARM")
  all_goals
    have XP := (unhide HR4).put (.int .i64 x) (.int .i64 y) (.slice yo Y.length yc)
    have z0 := XP.c0; have z1 := XP.c1; have z2 := XP.c2
    have QP := hide ((unhide QY).putM (unhide HR4) (.int .i64 x) (.int .i64 y) (.slice yo Y.length yc))
    have B4 := unhide HW _ (by assumption : Below W.heap.size W w4)
    have BP := hide (below_putM B4 (b := w.heap.size + 1 + 1) (by omega) (.int .i64 x) (.int .i64 y) (.slice yo Y.length yc))
    clear XP HR4 QY B4
    go_wp2
    exact bodyPost_ret (v := .agg #[.int .i64 x, .int .i64 y, .slice yo Y.length yc]) (by simp [results, Tryd.results29, go_sem, z0, z1, z2]) rfl ⟨_, rfl, NewM.any (unhide QP), unhide BP⟩

theorem rbeside_any (r c cap q d : Nat) (ao bo : Option Addr) (S T : List Nat) (w : World) (h : Mx w ao cap r c S) (h2 : Mx w bo d r q T) (hle : c + q ≤ 6) :
    Calls Tryd.prog 29 #[.agg #[.int .i64 r, .int .i64 c, .slice ao S.length cap], .agg #[.int .i64 r, .int .i64 q, .slice bo T.length d]] w fun e w' => ∃ v, e = .returned v ∧ NewM 0 w' r (c + q) (beM r c q S T) v ∧ Below w.heap.size w w' := by
  rw [← be_tu r c q S T]
  have l1 : (tuM r c S ++ tuM r q T).length = (c + q) * r := by rw [List.length_append, tu_len, tu_len, Nat.add_mul]
  exact rbeside_of r c S.length cap r q T.length d r (c + q) (c + q) (tuM r c S).length (tuM r q T).length (tuM r c S ++ tuM r q T).length ao bo (tuM r c S) (tuM r q T) (tuM r c S ++ tuM r q T) _ w
    (fun w' hb => rturn_any r c cap ao S w' (h.below hb)) (fun w' hb => rturn_any r q d bo T w' (h2.below hb)) rfl rfl rfl
    (fun w' uo uc vo vc hu hv => rstack_any c r uc q r vc uo vo (tuM r c S) (tuM r q T) w' ⟨hu, tu_len _ _ _, h.2.2.2, h.2.2.1⟩ ⟨hv, tu_len _ _ _, h2.2.2.2, h.2.2.1⟩)
    (fun w' uo uc hx => rturn_any (c + q) r uc uo _ w' ⟨hx, l1, hle, h.2.2.1⟩)

end Go.Proofs.YtheepcdlakjdcaaDoor

/- The law of layer 10: awake, spoil. -/
namespace Go.Proofs.YtheepcdlakjdcaaDoor
open Go.RowKit
attribute [local go_sem ↓] Go.wp_at_zero Go.wp_at_succ

/-- Eye of two rows, times itself. -/
theorem eye_two : muM 2 2 2 (eyM 2) (eyM 2) = eyM 2 := mu_eye 2 2 (eyM 2) (mkM_len _ _ _) (by decide)

set_option maxRecDepth 20000 in
set_option maxHeartbeats 4000000 in
theorem awake10_of (S : List Nat) (l : Nat) (w : World) (hl : S.length = l) (hs : l ≤ 36)
    (C1 : ∀ w', Calls Tryd.prog 14 #[.int .i64 2] w' fun e w'' => ∃ v, e = .returned (.tuple #[v, .int .i64 0]) ∧ NewM 0 w'' 2 2 S v ∧ Below w'.heap.size w' w'')
    (C2 : ∀ w' ao cap, Below w.heap.size w w' → BitsAt w' ao cap (mxL S) → Calls Tryd.prog 31 #[.agg #[.int .i64 2, .int .i64 2, .slice ao l cap], .agg #[.int .i64 2, .int .i64 2, .slice ao l cap]] w' fun e w'' => ∃ v, e = .returned (.tuple #[v, .int .i64 0]) ∧ NewM 0 w'' 2 2 S v ∧ Below w'.heap.size w' w'')
    (C3 : ∀ w', Calls Tryd.prog 16 #[.int .i64 2] w' fun e w'' => ∃ v, e = .returned v ∧ NewM 0 w'' 2 2 S v ∧ Below w'.heap.size w' w'') :
    Calls Tryd.prog 11 #[] w fun e w' => e = .returned (.bool true) ∧ Below w.heap.size w w' := by
  have K1 := hide C1; have K2 := hide C2; have K3 := hide C3; have HL := hide hl
  have K4 := hide (fun w' ao bo cap d (h : BitsAt w' ao cap (mxL S)) (h2 : BitsAt w' bo d (mxL S)) => rsame_any 2 2 ao bo cap d S w' h h2 (by omega))
  rw [hl] at K4
  clear C1 C2 C3 hl
  go_enter Tryd.func11, Tryd.ntmps11
  go_wp2_with fail
  refine (unhide K1 _).mono ?_
  rintro e w1 ⟨v, rfl, ⟨ao, cap, rfl, _, q1⟩, hb1⟩
  rw [unhide HL]
  have ba := below_alloc9 w1 (.cells #[.int .i64 (2 : Nat), .int .i64 (2 : Nat), .slice ao l cap] 24)
  have B1 := hide (hb1.trans (ba.mono hb1.size))
  have Q1 := hide (q1.below ba)
  clear q1 hb1 ba K1
  go_wp2_with fail
  refine (unhide K2 _ _ _ (unhide B1) (unhide Q1)).mono ?_
  rintro e w2 ⟨v, rfl, ⟨bo, d, rfl, _, q2⟩, hb2⟩
  rw [unhide HL]
  have B2 := (unhide B1).trans (hb2.mono (unhide B1).size)
  have ba := below_alloc9 w2 (.cells #[.int .i64 (2 : Nat), .int .i64 (2 : Nat), .slice bo l d] 24)
  have x2 := BoxM.new w2 (.int .i64 (2 : Nat)) (.int .i64 (2 : Nat)) (.slice bo l d)
  have B3 := hide (B2.trans (ba.mono B2.size))
  have Q2 := hide (q2.below ba)
  have X2 := hide x2
  clear q2 hb2 ba K2 B1 B2 Q1 x2
  go_wp2_with fail
  refine at_world (fun W => Below w.heap.size w W ∧ BitsAt W bo d (mxL S) ∧ BoxM W w2.heap.size (.int .i64 2) (.int .i64 2) (.slice bo l d)) ⟨unhide B3, unhide Q2, unhide X2⟩ ?_
  clear B3 Q2 X2
  rintro W ⟨bw, qw, xw⟩
  generalize w2.heap.size = g at *
  have HB := hide bw; have HQ := hide qw
  have HK := hide (fun w' (h : Below W.heap.size W w') => (show Below W.heap.size W w' ∧ w'.cell? ⟨g, 0, none⟩ = some (.int .i64 2) ∧ w'.cell? ⟨g, 1, none⟩ = some (.int .i64 2) ∧ w'.cell? ⟨g, 2, none⟩ = some (.slice bo l d) from ⟨h, (xw.all h).c0, (xw.all h).c1, (xw.all h).c2⟩))
  clear bw qw xw
  go_region_held3 (fun w' => Below W.heap.size W w' ∧ w'.cell? ⟨g, 0, none⟩ = some (.int .i64 2) ∧ w'.cell? ⟨g, 1, none⟩ = some (.int .i64 2) ∧ w'.cell? ⟨g, 2, none⟩ = some (.slice bo l d))
    (first | exact unhide HK _ (Below.refl _ _).drew | exact unhide HK _ (by assumption) | fail "KK")
    (first | (go_at_call 16; refine (unhide K3 _).mono ?_; rintro e w4 ⟨v, rfl, ⟨eo, ec, rfl, _, qe⟩, hb4⟩; have hB4 : Below W.heap.size W w4 := Below.trans (And.left (by assumption)) (hb4.mono (Below.size (And.left (by assumption)))); have QE := hide qe; rw [unhide HL]; clear qe hb4 K3) | (go_at_call 30; refine (unhide K4 _ _ _ _ _ (by exact (unhide HQ).below (And.left (by assumption))) (unhide QE)).mono ?_; rintro e w5 ⟨rfl, hb5⟩; have hB5 : Below W.heap.size W w5 := Below.trans (And.left (by assumption)) (hb5.mono (Below.size (And.left (by assumption)))); clear hb5 K4) | fail "NO ARM")
  all_goals
    go_wp2
    go_ret
    exact ⟨rfl, (unhide HB).trans (Below.mono (And.left (by assumption)) (unhide HB).size)⟩

theorem awake10_any (w : World) (hT : Tab w) : Calls Tryd.prog 11 #[] w fun e w' => e = .returned (.bool true) ∧ Below w.heap.size w w' := by
  have hm : ∀ (w' : World) ao cap, BitsAt w' ao cap (mxL (eyM 2)) → Mx w' ao cap 2 2 (eyM 2) := fun w' ao cap h => ⟨h, mkM_len _ _ _, by omega, by omega⟩
  refine awake10_of (eyM 2) 4 w (mkM_len _ _ _) (by omega) (fun w' => (mEye_ok 2 w' (by omega)).mono ?_) (fun w' ao cap hb h => ?_) (fun w' => reye_any 2 w' (by omega))
  · rintro e w'' ⟨v, rfl, h1, h2⟩
    exact ⟨v, rfl, h1.least (Nat.zero_le _), h2⟩
  · have C := mMul_ok 2 2 cap 2 cap ao ao (eyM 2) (eyM 2) w' (hm w' ao cap h) (hm w' ao cap h) (hT.all hb)
    rw [eye_two] at C
    refine C.mono ?_
    rintro e w'' ⟨v, rfl, h1, h2⟩
    exact ⟨v, rfl, h1.least (Nat.zero_le _), h2⟩

/-- A cell of a list of numbers lies in no matrix's box. -/
theorem BoxM.away {w : World} {g b k : Nat} {x y : Int} {a : Option Addr} {n d : Nat} {z : Int} (hx : BoxM w b (.int .i64 x) (.int .i64 y) (.slice a n d)) (hc : w.cell? ⟨g, k, none⟩ = some (.int .u64 z)) : b ≠ g := by
  rintro rfl
  rw [cell_of_row w b k _ _ _ hx] at hc
  rcases (show k = 0 ∨ k = 1 ∨ k = 2 ∨ 3 ≤ k by omega) with e | e | e | e
  · subst e; simp at hc
  · subst e; simp at hc
  · subst e; simp at hc
  · rw [Array.getElem?_eq_none (by simp; omega)] at hc; simp at hc

set_option maxRecDepth 20000 in
set_option maxHeartbeats 4000000 in
theorem spoil10_any (J : World → Prop) (r c : Int) (po : Option Addr) (n pc : Nat) (w : World) (hn : n ≤ 35184372088830) (h0 : J w) (hb : ∀ w' w'', J w' → Below w'.heap.size w' w'' → J w'')
    (hp : ∀ w' k, J w' → k < n → ∃ g z0, po = some ⟨g, 0, none⟩ ∧ w'.cell? ⟨g, k, none⟩ = some (.int .u64 z0) ∧ w'.frozen? ⟨g, k, none⟩ = false ∧ ∀ z, J (w'.setCell ⟨g, k, none⟩ (.int .u64 z))) :
    Calls Tryd.prog 21 #[.agg #[.int .i64 r, .int .i64 c, .slice po n pc]] w fun e w' => e = .returned (.tuple #[]) ∧ J w' := by
  have HB := hide hb; have HP := hide hp
  have X0 := hide (BoxM.new w (.int .i64 r) (.int .i64 c) (.slice po n pc))
  have J0 := hide (hb w _ h0 (below_alloc9 w (.cells #[.int .i64 r, .int .i64 c, .slice po n pc] 24)))
  clear hb hp h0
  go_enter Tryd.func21, Tryd.ntmps21
  go_wp2_with fail
  go_loopw [2] (fun i wr => ∃ k : Nat, k ≤ n ∧ i = .int .i64 k ∧ Hid (BoxM wr w.heap.size (.int .i64 r) (.int .i64 c) (.slice po n pc)) ∧ Hid (J wr)) (fun i _ => n - (intOf i).toNat)
  case atStart => exact ⟨0, Nat.zero_le _, rfl, X0, J0⟩
  case round =>
    clear X0 J0
    obtain ⟨k, hk, rfl, hX, hJ⟩ := hrel
    have t2 := (unhide hX).c2
    by_cases hlt : k < n
    · have hkI : (k : Int) < (n : Int) := by omega
      obtain ⟨g, z0, rfl, cz, fz, put⟩ := unhide HP _ k (unhide hJ) hlt
      have ne := (unhide hX).away cz
      have PUT := hide (fun z => put z)
      have XPT := hide (fun z : Int => (unhide hX).other (p := ⟨g, k, none⟩) ne (.int .u64 z))
      clear put ne
      go_wp2_with fail
      go_region_with fail
      all_goals
        go_wp2_with fail
        go_round
        case rel => exact ⟨k + 1, by omega, by go_num, hide (unhide XPT _).drew, hide (unhide HB _ _ (unhide PUT _) (Below.refl _ _).drew)⟩
        case measure => simp [intOf]; omega
    · have hkk : n = k := by omega
      subst hkk
      go_wp2
      first | go_end0 | refine bodyPost_ret (results_none rfl _ _ _) rfl ?_
      exact ⟨rfl, unhide hJ⟩

end Go.Proofs.YtheepcdlakjdcaaDoor

/- The law MatrixParts, walked. -/
namespace Go.Proofs.YtheepcdlakjdcaaDoor
open Go.RowKit
attribute [local go_sem ↓] Go.wp_at_zero Go.wp_at_succ

/-- Block b is a box of four whole numbers. -/
def Box4P (w : World) (b : Nat) (x y z u : Int) : Prop := w.heap[b]? = some (.cells #[.int .i64 x, .int .i64 y, .int .i64 z, .int .i64 u] 43 (0, 0))
theorem Box4P.c0 {w : World} {b : Nat} {x y z u : Int} (h : Box4P w b x y z u) : w.cell? ⟨b, 0, none⟩ = some (.int .i64 x) := by rw [cell_of_row w b 0 _ _ _ h]; rfl
theorem Box4P.c1 {w : World} {b : Nat} {x y z u : Int} (h : Box4P w b x y z u) : w.cell? ⟨b, 1, none⟩ = some (.int .i64 y) := by rw [cell_of_row w b 1 _ _ _ h]; rfl
theorem Box4P.c2 {w : World} {b : Nat} {x y z u : Int} (h : Box4P w b x y z u) : w.cell? ⟨b, 2, none⟩ = some (.int .i64 z) := by rw [cell_of_row w b 2 _ _ _ h]; rfl
theorem Box4P.all {w w' : World} {b : Nat} {x y z u : Int} (h : Box4P w b x y z u) (hb : Below w.heap.size w w') : Box4P w' b x y z u := (hb.block b (Array.getElem?_eq_some_iff.1 h).1).trans h
theorem Box4P.new (w : World) (x y z u : Int) : Box4P (w.alloc (.cells #[.int .i64 x, .int .i64 y, .int .i64 z, .int .i64 u] 43)) w.heap.size x y z u := heap_alloc_new w _
theorem Box4P.away {w : World} {g b k : Nat} {x y z u : Int} {v : Int} (hx : Box4P w b x y z u) (hc : w.cell? ⟨g, k, none⟩ = some (.int .u64 v)) : b ≠ g := by
  rintro rfl
  rw [cell_of_row w b k _ _ _ hx] at hc
  rcases (show k = 0 ∨ k = 1 ∨ k = 2 ∨ k = 3 ∨ 4 ≤ k by omega) with e | e | e | e | e
  · subst e; simp at hc
  · subst e; simp at hc
  · subst e; simp at hc
  · subst e; simp at hc
  · rw [Array.getElem?_eq_none (by simp; omega)] at hc; simp at hc
theorem Box4P.other {w : World} {b : Nat} {x y z u : Int} (h : Box4P w b x y z u) {p : Addr} (hp : b ≠ p.block) (v : Value) : Box4P (w.setCell p v) b x y z u := (Below.heap_setCell w p v b hp).trans h

/-- A matrix that was answered: its box, its numbers, from block H on. -/
structure AnsAt (wr : World) (H g : Nat) (p q : Nat) (so : Option Addr) (sd : Nat) (S : List Nat) : Prop where
  box : BoxM wr g (.int .i64 p) (.int .i64 q) (.slice so S.length sd)
  bits : BitsAt wr so sd (mxL S)
  new : NewB H so (mxL S)
theorem AnsAt.all {wr w' : World} {H g p q : Nat} {so : Option Addr} {sd : Nat} {S : List Nat} (h : AnsAt wr H g p q so sd S) (hb : Below wr.heap.size wr w') : AnsAt w' H g p q so sd S := ⟨h.box.all hb, h.bits.below hb, h.new⟩
theorem AnsAt.put {wr : World} {H g p q : Nat} {so : Option Addr} {sd : Nat} {S : List Nat} (h : AnsAt wr H g p q so sd S) {b k : Nat} {z0 : Int} (hc : wr.cell? ⟨b, k, none⟩ = some (.int .u64 z0)) (hb : b < H) (z : Int) : AnsAt (wr.setCell ⟨b, k, none⟩ (.int .u64 z)) H g p q so sd S :=
  ⟨h.box.other (p := ⟨b, k, none⟩) (h.box.away hc) _, h.bits.far h.new hb k _, h.new⟩

structure PtSt (w wr : World) (H g2 g3 g4 : Nat) (r c : Int) (ao : Option Addr) (n cap : Nat) (i k a b : Int) (po : Option Addr) (pc p1 p2 q1 q2 : Nat) (so : Option Addr) (sd : Nat) (S : List Nat) (ro : Option Addr) (rd : Nat) (T : List Nat) : Prop where
  bel : Below w.heap.size w wr
  m : BoxM wr w.heap.size (.int .i64 r) (.int .i64 c) (.slice ao n cap)
  x : Box4P wr (w.heap.size + 1) i k a b
  own : BoxM wr g2 (.int .i64 r) (.int .i64 c) (.slice po n pc)
  copy : CopyB w.heap.size H wr po n
  s : AnsAt wr H g3 p1 p2 so sd S
  t : AnsAt wr H g4 q1 q2 ro rd T
theorem PtSt.all {w wr w' : World} {H g2 g3 g4 : Nat} {r c : Int} {ao : Option Addr} {n cap : Nat} {i k a b : Int} {po : Option Addr} {pc p1 p2 q1 q2 : Nat} {so : Option Addr} {sd : Nat} {S : List Nat} {ro : Option Addr} {rd : Nat} {T : List Nat} (h : PtSt w wr H g2 g3 g4 r c ao n cap i k a b po pc p1 p2 q1 q2 so sd S ro rd T) (hb : Below wr.heap.size wr w') : PtSt w w' H g2 g3 g4 r c ao n cap i k a b po pc p1 p2 q1 q2 so sd S ro rd T :=
  ⟨h.bel.trans (hb.mono h.bel.size), h.m.all hb, h.x.all hb, h.own.all hb, h.copy.below hb, h.s.all hb, h.t.all hb⟩
theorem PtSt.put {w wr : World} {H g2 g3 g4 : Nat} {r c : Int} {ao : Option Addr} {n cap : Nat} {i k a b : Int} {po : Option Addr} {pc p1 p2 q1 q2 : Nat} {so : Option Addr} {sd : Nat} {S : List Nat} {ro : Option Addr} {rd : Nat} {T : List Nat} (h : PtSt w wr H g2 g3 g4 r c ao n cap i k a b po pc p1 p2 q1 q2 so sd S ro rd T) {j : Nat} (hj : j < n) :
    ∃ g z0, po = some ⟨g, 0, none⟩ ∧ wr.cell? ⟨g, j, none⟩ = some (.int .u64 z0) ∧ wr.frozen? ⟨g, j, none⟩ = false ∧ ∀ z, PtSt w (wr.setCell ⟨g, j, none⟩ (.int .u64 z)) H g2 g3 g4 r c ao n cap i k a b po pc p1 p2 q1 q2 so sd S ro rd T := by
  obtain ⟨g, e1, e2, e3, e4⟩ := h.copy.resolve_left (by omega)
  obtain ⟨z0, cz⟩ := e4.cell hj
  exact ⟨g, z0, e1, cz, e4.free j, fun z => ⟨h.bel.setCell (p := ⟨g, j, none⟩) e2 _, h.m.other (p := ⟨g, j, none⟩) (h.m.away cz) _, h.x.other (p := ⟨g, j, none⟩) (h.x.away cz) _, h.own.other (p := ⟨g, j, none⟩) (h.own.away cz) _, h.copy.set g j z, h.s.put cz e3 z, h.t.put cz e3 z⟩⟩

theorem Mx.from {w : World} {ao : Option Addr} {cap p q : Nat} {I : List Int} (h : BitsAt w ao cap I) (ho : okB (p : Int) (q : Int) I.length = true) : Mx w ao cap p q (natL I) := by
  obtain ⟨p', q', e1, e2, hM, _⟩ := Mx.of h ho
  obtain rfl : p = p' := by omega
  obtain rfl : q = q' := by omega
  exact hM

end Go.Proofs.YtheepcdlakjdcaaDoor

/- The law MatrixStacks, walked (mknk.py). -/
namespace Go.Proofs.YtheepcdlakjdcaaDoor
open Go.RowKit
attribute [local go_sem ↓] Go.wp_at_zero Go.wp_at_succ

theorem BoxM.three {w : World} {b g : Nat} {x y z : Value} (h : BoxM w b x y z) (hg : b ≠ g) (u u' u'' : Value) : BoxM (((w.setCell ⟨g, 0, none⟩ u).setCell ⟨g, 1, none⟩ u').setCell ⟨g, 2, none⟩ u'') b x y z :=
  ((h.other (p := ⟨g, 0, none⟩) hg u).other (p := ⟨g, 1, none⟩) hg u').other (p := ⟨g, 2, none⟩) hg u''
theorem CopyB.three {base H : Nat} {w : World} {po : Option Addr} {n g : Nat} (h : CopyB base H w po n) (hg : H ≤ g) (u u' u'' : Value) : CopyB base H (((w.setCell ⟨g, 0, none⟩ u).setCell ⟨g, 1, none⟩ u').setCell ⟨g, 2, none⟩ u'') po n := by
  rcases h with h | ⟨b, h1, h2, h3, cur, h4, h5⟩
  · exact .inl h
  · refine .inr ⟨b, h1, h2, h3, cur, ?_, h5⟩
    have ne : b ≠ g := by omega
    rw [Below.heap_setCell _ ⟨g, 2, none⟩ u'' b ne, Below.heap_setCell _ ⟨g, 1, none⟩ u' b ne, Below.heap_setCell _ ⟨g, 0, none⟩ u b ne]
    exact h4

/-- What holds while the law's two copies are spoiled, and behind it. -/
structure SkSt (w wr : World) (H gp gq gs gt : Nat) (r c p q : Int) (ao bo : Option Addr) (n cap m d : Nat) (po qo : Option Addr) (pc qc s1 s2 t1 t2 : Nat) (so : Option Addr) (sd : Nat) (S : List Nat) (ro : Option Addr) (rd : Nat) (T : List Nat) : Prop where
  bel : Below w.heap.size w wr
  a : BoxM wr w.heap.size (.int .i64 r) (.int .i64 c) (.slice ao n cap)
  b : BoxM wr (w.heap.size + 1) (.int .i64 p) (.int .i64 q) (.slice bo m d)
  pb : BoxM wr gp (.int .i64 r) (.int .i64 c) (.slice po n pc)
  qb : BoxM wr gq (.int .i64 p) (.int .i64 q) (.slice qo m qc)
  cp : CopyB w.heap.size H wr po n
  cq : CopyB w.heap.size H wr qo m
  s : AnsAt wr H gs s1 s2 so sd S
  t : AnsAt wr H gt t1 t2 ro rd T
theorem SkSt.all {w wr : World} {H gp gq gs gt : Nat} {r c p q : Int} {ao bo : Option Addr} {n cap m d : Nat} {po qo : Option Addr} {pc qc s1 s2 t1 t2 : Nat} {so : Option Addr} {sd : Nat} {S : List Nat} {ro : Option Addr} {rd : Nat} {T : List Nat} {w' : World} (h : SkSt w wr H gp gq gs gt r c p q ao bo n cap m d po qo pc qc s1 s2 t1 t2 so sd S ro rd T) (hb : Below wr.heap.size wr w') : SkSt w w' H gp gq gs gt r c p q ao bo n cap m d po qo pc qc s1 s2 t1 t2 so sd S ro rd T :=
  ⟨h.bel.trans (hb.mono h.bel.size), h.a.all hb, h.b.all hb, h.pb.all hb, h.qb.all hb, h.cp.below hb, h.cq.below hb, h.s.all hb, h.t.all hb⟩
theorem SkSt.set {w wr : World} {H gp gq gs gt : Nat} {r c p q : Int} {ao bo : Option Addr} {n cap m d : Nat} {po qo : Option Addr} {pc qc s1 s2 t1 t2 : Nat} {so : Option Addr} {sd : Nat} {S : List Nat} {ro : Option Addr} {rd : Nat} {T : List Nat} (h : SkSt w wr H gp gq gs gt r c p q ao bo n cap m d po qo pc qc s1 s2 t1 t2 so sd S ro rd T) {g j : Nat} {z0 : Int} (cz : wr.cell? ⟨g, j, none⟩ = some (.int .u64 z0)) (e2 : w.heap.size ≤ g) (e3 : g < H) (z : Int) : SkSt w (wr.setCell ⟨g, j, none⟩ (.int .u64 z)) H gp gq gs gt r c p q ao bo n cap m d po qo pc qc s1 s2 t1 t2 so sd S ro rd T :=
  ⟨h.bel.setCell (p := ⟨g, j, none⟩) e2 _, h.a.other (p := ⟨g, j, none⟩) (h.a.away cz) _, h.b.other (p := ⟨g, j, none⟩) (h.b.away cz) _, h.pb.other (p := ⟨g, j, none⟩) (h.pb.away cz) _, h.qb.other (p := ⟨g, j, none⟩) (h.qb.away cz) _, h.cp.set g j z, h.cq.set g j z, h.s.put cz e3 z, h.t.put cz e3 z⟩
theorem SkSt.putP {w wr : World} {H gp gq gs gt : Nat} {r c p q : Int} {ao bo : Option Addr} {n cap m d : Nat} {po qo : Option Addr} {pc qc s1 s2 t1 t2 : Nat} {so : Option Addr} {sd : Nat} {S : List Nat} {ro : Option Addr} {rd : Nat} {T : List Nat} (h : SkSt w wr H gp gq gs gt r c p q ao bo n cap m d po qo pc qc s1 s2 t1 t2 so sd S ro rd T) {j : Nat} (hj : j < n) : ∃ g z0, po = some ⟨g, 0, none⟩ ∧ wr.cell? ⟨g, j, none⟩ = some (.int .u64 z0) ∧ wr.frozen? ⟨g, j, none⟩ = false ∧ ∀ z, SkSt w (wr.setCell ⟨g, j, none⟩ (.int .u64 z)) H gp gq gs gt r c p q ao bo n cap m d po qo pc qc s1 s2 t1 t2 so sd S ro rd T := by
  obtain ⟨g, e1, e2, e3, e4⟩ := h.cp.resolve_left (by omega)
  obtain ⟨z0, cz⟩ := e4.cell hj
  exact ⟨g, z0, e1, cz, e4.free j, fun z => h.set cz e2 e3 z⟩
theorem SkSt.putQ {w wr : World} {H gp gq gs gt : Nat} {r c p q : Int} {ao bo : Option Addr} {n cap m d : Nat} {po qo : Option Addr} {pc qc s1 s2 t1 t2 : Nat} {so : Option Addr} {sd : Nat} {S : List Nat} {ro : Option Addr} {rd : Nat} {T : List Nat} (h : SkSt w wr H gp gq gs gt r c p q ao bo n cap m d po qo pc qc s1 s2 t1 t2 so sd S ro rd T) {j : Nat} (hj : j < m) : ∃ g z0, qo = some ⟨g, 0, none⟩ ∧ wr.cell? ⟨g, j, none⟩ = some (.int .u64 z0) ∧ wr.frozen? ⟨g, j, none⟩ = false ∧ ∀ z, SkSt w (wr.setCell ⟨g, j, none⟩ (.int .u64 z)) H gp gq gs gt r c p q ao bo n cap m d po qo pc qc s1 s2 t1 t2 so sd S ro rd T := by
  obtain ⟨g, e1, e2, e3, e4⟩ := h.cq.resolve_left (by omega)
  obtain ⟨z0, cz⟩ := e4.cell hj
  exact ⟨g, z0, e1, cz, e4.free j, fun z => h.set cz e2 e3 z⟩
/-- Stores into a box that lies above all of it. -/
theorem SkSt.box {w wr : World} {H gp gq gs gt : Nat} {r c p q : Int} {ao bo : Option Addr} {n cap m d : Nat} {po qo : Option Addr} {pc qc s1 s2 t1 t2 : Nat} {so : Option Addr} {sd : Nat} {S : List Nat} {ro : Option Addr} {rd : Nat} {T : List Nat} (h : SkSt w wr H gp gq gs gt r c p q ao bo n cap m d po qo pc qc s1 s2 t1 t2 so sd S ro rd T) {g : Nat} {x y : Int} {xo : Option Addr} {xn xd : Nat} (hx : BoxM wr g (.int .i64 x) (.int .i64 y) (.slice xo xn xd)) (h0 : w.heap.size + 1 < g) (h1 : gp ≠ g) (h2 : gq ≠ g) (h3 : gs ≠ g) (h4 : gt ≠ g) (hc : H ≤ g) (u u' u'' : Value) : SkSt w (((wr.setCell ⟨g, 0, none⟩ u).setCell ⟨g, 1, none⟩ u').setCell ⟨g, 2, none⟩ u'') H gp gq gs gt r c p q ao bo n cap m d po qo pc qc s1 s2 t1 t2 so sd S ro rd T :=
  ⟨below_putM h.bel (by omega) u u' u'', h.a.three (by omega) u u' u'', h.b.three (by omega) u u' u'', h.pb.three h1 u u' u'', h.qb.three h2 u u' u'', h.cp.three hc u u' u'', h.cq.three hc u u' u'', ⟨h.s.box.three h3 u u' u'', h.s.bits.putM hx u u' u'', h.s.new⟩, ⟨h.t.box.three h4 u u' u'', h.t.bits.putM hx u u' u'', h.t.new⟩⟩

set_option maxRecDepth 20000 in
set_option maxHeartbeats 16000000 in
theorem matrixStacks_of (r c : Int) (ao : Option Addr) (cap : Nat) (I : List Int) (p q : Int) (bo : Option Addr) (d : Nat) (J : List Int) (s1 s2 t1 t2 : Nat) (S T : List Nat) (f h : Int) (ok : Bool) (w : World) (hI : BitsAt w ao cap I) (hl : I.length ≤ 17592186043904) (hJ : BitsAt w bo d J) (hlj : J.length ≤ 17592186043904) (hT : Tab w)
    (way : (ok = false ∧ f = 1 ∧ h = 1 ∧ s1 = 0 ∧ s2 = 0 ∧ t1 = 0 ∧ t2 = 0 ∧ S = [] ∧ T = []) ∨ (ok = true ∧ (0 ≤ r ∧ r ≤ 6 ∧ 0 ≤ c ∧ c ≤ 6) ∧ (0 ≤ p ∧ p ≤ 6 ∧ 0 ≤ q ∧ q ≤ 6) ∧ ((¬ c = q ∧ f = 3 ∧ s1 = 0 ∧ s2 = 0 ∧ S = []) ∨ (c = q ∧ 6 < r + p ∧ f = 3 ∧ s1 = 0 ∧ s2 = 0 ∧ S = []) ∨ (c = q ∧ r + p ≤ 6 ∧ f = 0)) ∧ ((¬ r = p ∧ h = 3 ∧ t1 = 0 ∧ t2 = 0 ∧ T = []) ∨ (r = p ∧ 6 < c + q ∧ h = 3 ∧ t1 = 0 ∧ t2 = 0 ∧ T = []) ∨ (r = p ∧ c + q ≤ 6 ∧ h = 0)))) (hS : S.length ≤ 36) (hTl : T.length ≤ 36)
    (C2 : ∀ w' po pc qo qc, Tab w' → BitsAt w' po pc I → BitsAt w' qo qc J → Calls Tryd.prog 25 #[.agg #[.int .i64 r, .int .i64 c, .slice po I.length pc], .agg #[.int .i64 p, .int .i64 q, .slice qo J.length qc]] w' fun e w'' => ∃ v, e = .returned (.tuple #[v, .int .i64 f]) ∧ NewM w'.heap.size w'' s1 s2 S v ∧ Below w'.heap.size w' w'')
    (C3 : ∀ w' po pc qo qc, Tab w' → BitsAt w' po pc I → BitsAt w' qo qc J → Calls Tryd.prog 26 #[.agg #[.int .i64 r, .int .i64 c, .slice po I.length pc], .agg #[.int .i64 p, .int .i64 q, .slice qo J.length qc]] w' fun e w'' => ∃ v, e = .returned (.tuple #[v, .int .i64 h]) ∧ NewM w'.heap.size w'' t1 t2 T v ∧ Below w'.heap.size w' w'')
    (C5 : (okB r c I.length && okB p q J.length) = ok)
    (C6 : c = q → r + p ≤ 6 → ok = true → ∀ w', Below w.heap.size w w' → Calls Tryd.prog 28 #[.agg #[.int .i64 r, .int .i64 c, .slice ao I.length cap], .agg #[.int .i64 p, .int .i64 q, .slice bo J.length d]] w' fun e w'' => ∃ v, e = .returned v ∧ NewM 0 w'' s1 s2 S v ∧ Below w'.heap.size w' w'')
    (C7 : r = p → c + q ≤ 6 → ok = true → ∀ w', Below w.heap.size w w' → Calls Tryd.prog 29 #[.agg #[.int .i64 r, .int .i64 c, .slice ao I.length cap], .agg #[.int .i64 p, .int .i64 q, .slice bo J.length d]] w' fun e w'' => ∃ v, e = .returned v ∧ NewM 0 w'' t1 t2 T v ∧ Below w'.heap.size w' w'') :
    Calls Tryd.prog 6 #[.agg #[.int .i64 r, .int .i64 c, .slice ao I.length cap], .agg #[.int .i64 p, .int .i64 q, .slice bo J.length d]] w fun e w' => e = .returned (.bool true) ∧ Below w.heap.size w w' := by
  have HT := hide hT; have WAY := hide way; have HSl := hide hS; have HTl := hide hTl
  have K2 := hide C2; have K3 := hide C3; have K6 := hide C6; have K7 := hide C7
  have K5 := hide (fun w' => form10_any r c ao I.length cap p q bo J.length d w')
  rw [C5] at K5
  have b0 := below_alloc9 w (.cells #[.int .i64 r, .int .i64 c, .slice ao I.length cap] 24)
  have s0 := size_alloc9 w (.cells #[.int .i64 r, .int .i64 c, .slice ao I.length cap] 24)
  have x0 := BoxM.new w (.int .i64 r) (.int .i64 c) (.slice ao I.length cap)
  have b1 := below_alloc9 (w.alloc (.cells #[.int .i64 r, .int .i64 c, .slice ao I.length cap] 24)) (.cells #[.int .i64 p, .int .i64 q, .slice bo J.length d] 24)
  have x1 := BoxM.new (w.alloc (.cells #[.int .i64 r, .int .i64 c, .slice ao I.length cap] 24)) (.int .i64 p) (.int .i64 q) (.slice bo J.length d)
  rw [s0] at x1
  have bb := b0.trans (b1.mono b0.size)
  have HX0 := hide (x0.all b1); have HX1 := hide x1; have HBB := hide bb
  have K1 := hide (rcopy_any r c ao cap I _ (hI.below bb) hl)
  have K1b := hide (fun w' (hb : Below w.heap.size w w') => rcopy_any p q bo d J w' (hJ.below hb) hlj)
  have SAME := hide (fun base w' po pc (o : OwnB base w' (.slice po I.length pc) (natL I)) => o.same hI)
  have SAMEJ := hide (fun base w' po pc (o : OwnB base w' (.slice po J.length pc) (natL J)) => o.same hJ)
  have hl2 := hide (show I.length ≤ 35184372088830 by omega); have hl3 := hide (show J.length ≤ 35184372088830 by omega)
  clear b0 s0 x0 b1 x1 bb hI hl hJ hlj hT way hS hTl C2 C3 C5 C6 C7
  go_enter Tryd.func6, Tryd.ntmps6
  go_wp2_with fail
  refine Calls.mono (unhide K1) ?_
  rintro e w1 ⟨po, pc, rfl, own1, hb1⟩
  have bel1 := (unhide HBB).trans (hb1.mono (unhide HBB).size)
  have ba := below_alloc9 w1 (.cells #[.int .i64 r, .int .i64 c, .slice po I.length pc] 24)
  have Q1 := hide ((unhide SAME _ _ _ _ own1).below ba)
  have CP := hide ((own1.copy.base (unhide HBB).size).below ba)
  have BX := hide (BoxM.new w1 (.int .i64 r) (.int .i64 c) (.slice po I.length pc))
  have A1 := hide (((unhide HX0).all hb1).all ba); have A2 := ((unhide HX1).all hb1).all ba
  have B1 := hide (bel1.trans (ba.mono bel1.size))
  have HA2 := hide A2
  have x0 := A2.c0; have x1 := A2.c1; have x2 := A2.c2
  clear own1 hb1 bel1 ba A2 K1 HX0 HX1 HBB SAME
  go_wp2_with fail
  refine (unhide K1b _ (unhide B1)).mono ?_
  rintro e w2 ⟨qo, qc, rfl, own2, hb2⟩
  have zz := hide (size_alloc9 w1 (.cells #[.int .i64 r, .int .i64 c, .slice po I.length pc] 24))
  have bel2 := (unhide B1).trans (hb2.mono (unhide B1).size)
  have ba := below_alloc9 w2 (.cells #[.int .i64 p, .int .i64 q, .slice qo J.length qc] 24)
  have Q2 := hide ((unhide SAMEJ _ _ _ _ own2).below ba)
  have CQ := hide ((own2.copy.base (unhide B1).size).below ba)
  replace CP := hide (((((unhide CP).upto (H' := w2.heap.size) (by have := hb2.size; rw [unhide zz] at this; omega))).below hb2).below ba)
  replace Q1 := hide (((unhide Q1).below hb2).below ba)
  replace BX := hide (((unhide BX).all hb2).all ba)
  have BY := hide (BoxM.new w2 (.int .i64 p) (.int .i64 q) (.slice qo J.length qc))
  replace A1 := hide (((unhide A1).all hb2).all ba); replace HA2 := hide (((unhide HA2).all hb2).all ba)
  have B2 := hide (bel2.trans (ba.mono bel2.size))
  clear x0 x1 x2 own2 hb2 bel2 ba B1 K1b SAMEJ zz
  have y0 := (unhide BX).c0; have y1 := (unhide BX).c1; have y2 := (unhide BX).c2
  have x0 := (unhide BY).c0; have x1 := (unhide BY).c1; have x2 := (unhide BY).c2
  go_wp2_with fail
  refine (unhide K2 _ _ _ _ _ ((unhide HT).all (unhide B2)) (unhide Q1) (unhide Q2)).mono ?_
  rintro e w3 ⟨v, rfl, ⟨so, sd, rfl, ns, qs⟩, hb3⟩
  have zz := hide (size_alloc9 w2 (.cells #[.int .i64 p, .int .i64 q, .slice qo J.length qc] 24))
  have ba := below_alloc9 w3 (.cells #[.int .i64 s1, .int .i64 s2, .slice so S.length sd] 24)
  have NS := hide (ns.least (H' := w2.heap.size) (by rw [unhide zz]; omega))
  have QS := hide (qs.below ba)
  have XS := hide (BoxM.new w3 (.int .i64 s1) (.int .i64 s2) (.slice so S.length sd))
  have bel3 := (unhide B2).trans (hb3.mono (unhide B2).size)
  replace Q1 := hide (((unhide Q1).below hb3).below ba); replace Q2 := hide (((unhide Q2).below hb3).below ba)
  replace CP := hide (((unhide CP).below hb3).below ba); replace CQ := hide (((unhide CQ).below hb3).below ba)
  replace BX := hide (((unhide BX).all hb3).all ba); replace BY := hide (((unhide BY).all hb3).all ba)
  replace A1 := hide (((unhide A1).all hb3).all ba); replace HA2 := hide (((unhide HA2).all hb3).all ba)
  have B3 := hide (bel3.trans (ba.mono bel3.size))
  clear x0 x1 x2 y0 y1 y2 ns qs hb3 bel3 ba B2 K2 zz
  have y0 := (unhide BX).c0; have y1 := (unhide BX).c1; have y2 := (unhide BX).c2
  have x0 := (unhide BY).c0; have x1 := (unhide BY).c1; have x2 := (unhide BY).c2
  go_wp2_with fail
  refine (unhide K3 _ _ _ _ _ ((unhide HT).all (unhide B3)) (unhide Q1) (unhide Q2)).mono ?_
  rintro e w4 ⟨v, rfl, ⟨ro, rd, rfl, nt, qt⟩, hb4⟩
  have zz := hide (size_alloc9 w3 (.cells #[.int .i64 s1, .int .i64 s2, .slice so S.length sd] 24))
  have ba := below_alloc9 w4 (.cells #[.int .i64 t1, .int .i64 t2, .slice ro T.length rd] 24)
  have bel4 := (unhide B3).trans (hb4.mono (unhide B3).size)
  have ST := hide (show SkSt w (w4.alloc (.cells #[.int .i64 t1, .int .i64 t2, .slice ro T.length rd] 24)) w2.heap.size w1.heap.size w2.heap.size w3.heap.size w4.heap.size r c p q ao bo I.length cap J.length d po qo pc qc s1 s2 t1 t2 so sd S ro rd T from
    ⟨bel4.trans (ba.mono bel4.size), ((unhide A1).all hb4).all ba, ((unhide HA2).all hb4).all ba, ((unhide BX).all hb4).all ba, ((unhide BY).all hb4).all ba, ((unhide CP).below hb4).below ba, ((unhide CQ).below hb4).below ba, ⟨((unhide XS).all hb4).all ba, ((unhide QS).below hb4).below ba, unhide NS⟩, ⟨BoxM.new w4 _ _ _, qt.below ba, nt.least (by have h1 := (unhide XS).lt; have h2 := (unhide BY).lt; omega)⟩⟩)
  clear x0 x1 x2 y0 y1 y2 nt qt hb4 bel4 ba B3 K3 zz Q1 Q2 CP CQ BX BY A1 HA2 XS QS NS
  have y0 := (unhide ST).pb.c0; have y1 := (unhide ST).pb.c1; have y2 := (unhide ST).pb.c2
  go_wp2_with fail
  generalize w1.heap.size = g1 at *
  generalize w2.heap.size = g2 at *
  generalize w3.heap.size = g3 at *
  generalize w4.heap.size = g4 at *
  refine (spoil10_any (fun W => SkSt w W g2 g1 g2 g3 g4 r c p q ao bo I.length cap J.length d po qo pc qc s1 s2 t1 t2 so sd S ro rd T) r c po I.length pc _ (unhide hl2) (unhide ST) (fun w' w'' h hb => h.all hb) (fun w' j h hj => h.putP hj)).mono ?_
  rintro e w5 ⟨rfl, st5⟩
  clear y0 y1 y2 ST
  have ST := hide st5
  have y0 := st5.qb.c0; have y1 := st5.qb.c1; have y2 := st5.qb.c2
  clear st5
  go_wp2_with fail
  refine (spoil10_any (fun W => SkSt w W g2 g1 g2 g3 g4 r c p q ao bo I.length cap J.length d po qo pc qc s1 s2 t1 t2 so sd S ro rd T) p q qo J.length qc _ (unhide hl3) (unhide ST) (fun w' w'' h hb => h.all hb) (fun w' j h hj => h.putQ hj)).mono ?_
  rintro e w6 ⟨rfl, st6⟩
  clear y0 y1 y2 ST
  have ST := hide st6
  have a0 := st6.a.c0; have a1 := st6.a.c1; have a2 := st6.a.c2
  have b0 := st6.b.c0; have b1 := st6.b.c1; have b2 := st6.b.c2
  clear st6
  go_wp2_with fail
  refine (unhide K5 _).mono ?_
  rintro e w7 ⟨rfl, hb⟩
  clear a0 a1 a2 b0 b1 b2
  replace ST := hide ((unhide ST).all hb)
  have a0 := (unhide ST).a.c0; have a1 := (unhide ST).a.c1; have a2 := (unhide ST).a.c2
  have b0 := (unhide ST).b.c0; have b1 := (unhide ST).b.c1; have b2 := (unhide ST).b.c2
  have s0' := (unhide ST).s.box.c0; have s1' := (unhide ST).s.box.c1; have s2' := (unhide ST).s.box.c2
  have t0' := (unhide ST).t.box.c0; have t1' := (unhide ST).t.box.c1; have t2' := (unhide ST).t.box.c2
  clear hb K5
  rcases unhide WAY with ⟨rfl, rfl, rfl, rfl, rfl, rfl, rfl, rfl, rfl⟩ | ⟨rfl, ⟨hr0, hr1, hc0, hc1⟩, ⟨hp0, hp1, hq0, hq1⟩, wa, wb⟩
  · clear WAY K6 K7
    simp only [List.length_nil, Bool.false_eq_true, if_false] at s2' t2' ⊢
    go_wp2_with fail
    refine (told_err _ _ _ _ _ _ _ 1 _ (.inl rfl)).mono ?_
    rintro e w8 ⟨rfl, hb⟩
    clear a0 a1 a2 b0 b1 b2 s0' s1' s2' t0' t1' t2'
    replace ST := hide ((unhide ST).all hb)
    have a0 := (unhide ST).a.c0; have a1 := (unhide ST).a.c1; have a2 := (unhide ST).a.c2
    have b0 := (unhide ST).b.c0; have b1 := (unhide ST).b.c1; have b2 := (unhide ST).b.c2
    have s0' := (unhide ST).s.box.c0; have s1' := (unhide ST).s.box.c1; have s2' := (unhide ST).s.box.c2
    have t0' := (unhide ST).t.box.c0; have t1' := (unhide ST).t.box.c1; have t2' := (unhide ST).t.box.c2
    clear hb
    simp only [List.length_nil] at s2' t2'
    go_wp2_with fail
    refine (told_err _ _ _ _ _ _ _ 1 _ (.inl rfl)).mono ?_
    rintro e w9 ⟨rfl, hb⟩
    clear a0 a1 a2 b0 b1 b2 s0' s1' s2' t0' t1' t2'
    have BE := hide ((unhide ST).bel.trans (hb.mono (unhide ST).bel.size))
    clear hb ST
    go_wp2_with fail
    refine (awake10_any _ ((unhide HT).all (unhide BE))).mono ?_
    rintro e w19 ⟨rfl, hb⟩
    replace BE := hide ((unhide BE).trans (hb.mono (unhide BE).size))
    clear hb
    go_wp2
    go_ret
    exact ⟨rfl, unhide BE⟩
  · clear WAY
    rw [if_pos rfl]
    have BW := hide (below_alloc9 w7 (.cells #[.int .i64 0, .int .i64 0, .slice none 0 0] 24))
    have BW2 := hide (below_alloc9 (w7.alloc (.cells #[.int .i64 0, .int .i64 0, .slice none 0 0] 24)) (.cells #[.int .i64 0, .int .i64 0, .slice none 0 0] 24))
    have SZ := hide (size_alloc9 w7 (.cells #[.int .i64 0, .int .i64 0, .slice none 0 0] 24))
    have st8 := ((unhide ST).all (unhide BW)).all (unhide BW2)
    have XX := hide ((BoxM.new w7 (.int .i64 0) (.int .i64 0) (.slice none 0 0)).all (unhide BW2))
    have YY := BoxM.new (w7.alloc (.cells #[.int .i64 0, .int .i64 0, .slice none 0 0] 24)) (.int .i64 0) (.int .i64 0) (.slice none 0 0)
    rw [unhide SZ] at YY
    have HYY := hide YY
    have ORD := hide (show w.heap.size + 1 < w7.heap.size ∧ g1 < w7.heap.size ∧ g2 < w7.heap.size ∧ g3 < w7.heap.size ∧ g4 < w7.heap.size from ⟨(unhide ST).b.lt, (unhide ST).pb.lt, (unhide ST).qb.lt, (unhide ST).s.box.lt, (unhide ST).t.box.lt⟩)
    have ST := hide st8
    clear a0 a1 a2 b0 b1 b2 s0' s1' s2' t0' t1' t2' BW BW2 SZ YY
    have a0 := st8.a.c0; have a1 := st8.a.c1; have a2 := st8.a.c2
    have b0 := st8.b.c0; have b1 := st8.b.c1; have b2 := st8.b.c2
    clear st8
    rcases wa with ⟨nA, rfl, rfl, rfl, rfl⟩ | ⟨rfl, gA, rfl, rfl, rfl, rfl⟩ | ⟨rfl, lA, rfl⟩
    · rcases wb with ⟨nB, rfl, rfl, rfl, rfl⟩ | ⟨rfl, gB, rfl, rfl, rfl, rfl⟩ | ⟨rfl, lB, rfl⟩
      · have v0 := (unhide XX).c0; have v1 := (unhide XX).c1; have v2 := (unhide XX).c2
        have s0' := (unhide ST).s.box.c0; have s1' := (unhide ST).s.box.c1; have s2' := (unhide ST).s.box.c2
        simp only [List.length_nil] at s2'
        go_wp2_with fail
        refine (told_err _ _ _ _ _ _ _ 3 _ (.inr rfl)).mono ?_
        rintro e w11 ⟨rfl, hb⟩
        replace ST := hide ((unhide ST).all hb); replace HYY := hide ((unhide HYY).all hb)
        clear hb XX
        have v0 := (unhide HYY).c0; have v1 := (unhide HYY).c1; have v2 := (unhide HYY).c2
        have t0' := (unhide ST).t.box.c0; have t1' := (unhide ST).t.box.c1; have t2' := (unhide ST).t.box.c2
        simp only [List.length_nil] at t2'
        go_wp2_with fail
        refine (told_err _ _ _ _ _ _ _ 3 _ (.inr rfl)).mono ?_
        rintro e w12 ⟨rfl, hb⟩
        have BE := hide ((unhide ST).bel.trans (hb.mono (unhide ST).bel.size))
        clear hb ST HYY
        go_wp2_with fail
        refine (awake10_any _ ((unhide HT).all (unhide BE))).mono ?_
        rintro e w19 ⟨rfl, hb⟩
        replace BE := hide ((unhide BE).trans (hb.mono (unhide BE).size))
        clear hb
        go_wp2
        go_ret
        exact ⟨rfl, unhide BE⟩
      · have v0 := (unhide XX).c0; have v1 := (unhide XX).c1; have v2 := (unhide XX).c2
        have s0' := (unhide ST).s.box.c0; have s1' := (unhide ST).s.box.c1; have s2' := (unhide ST).s.box.c2
        simp only [List.length_nil] at s2'
        go_wp2_with fail
        refine (told_err _ _ _ _ _ _ _ 3 _ (.inr rfl)).mono ?_
        rintro e w11 ⟨rfl, hb⟩
        replace ST := hide ((unhide ST).all hb); replace HYY := hide ((unhide HYY).all hb)
        clear hb XX
        have v0 := (unhide HYY).c0; have v1 := (unhide HYY).c1; have v2 := (unhide HYY).c2
        have t0' := (unhide ST).t.box.c0; have t1' := (unhide ST).t.box.c1; have t2' := (unhide ST).t.box.c2
        simp only [List.length_nil] at t2'
        go_wp2_with fail
        refine (told_err _ _ _ _ _ _ _ 3 _ (.inr rfl)).mono ?_
        rintro e w12 ⟨rfl, hb⟩
        have BE := hide ((unhide ST).bel.trans (hb.mono (unhide ST).bel.size))
        clear hb ST HYY
        go_wp2_with fail
        refine (awake10_any _ ((unhide HT).all (unhide BE))).mono ?_
        rintro e w19 ⟨rfl, hb⟩
        replace BE := hide ((unhide BE).trans (hb.mono (unhide BE).size))
        clear hb
        go_wp2
        go_ret
        exact ⟨rfl, unhide BE⟩
      · go_wp2_with fail
        refine (unhide K7 (by first | rfl | trivial) (by first | trivial | assumption | omega) (by first | rfl | trivial) _ (unhide ST).bel).mono ?_
        rintro e w10 ⟨v, rfl, ⟨yo, yd, rfl, _, qx⟩, hb⟩
        clear a0 a1 a2 b0 b1 b2
        replace ST := hide ((unhide ST).all hb); replace XX := hide ((unhide XX).all hb); replace HYY := hide ((unhide HYY).all hb)
        have f0 := (unhide HYY).free 0; have f1 := (unhide HYY).free 1; have f2 := (unhide HYY).free 2
        have u0 := (unhide HYY).c0; have u1 := (unhide HYY).c1; have u2 := (unhide HYY).c2
        have Qy := hide (qx.putM (unhide HYY) (.int .i64 t1) (.int .i64 t2) (.slice yo T.length yd))
        replace ST := hide ((unhide ST).box (unhide HYY) (by have := unhide ORD; omega) (by have := unhide ORD; omega) (by have := unhide ORD; omega) (by have := unhide ORD; omega) (by have := unhide ORD; omega) (by have := unhide ORD; omega) (.int .i64 t1) (.int .i64 t2) (.slice yo T.length yd))
        replace XX := hide ((unhide XX).three (g := w7.heap.size + 1) (by omega) (.int .i64 t1) (.int .i64 t2) (.slice yo T.length yd))
        replace HYY := hide ((unhide HYY).put (.int .i64 t1) (.int .i64 t2) (.slice yo T.length yd))
        clear qx hb K7
        have a0 := (unhide ST).a.c0; have a1 := (unhide ST).a.c1; have a2 := (unhide ST).a.c2
        have b0 := (unhide ST).b.c0; have b1 := (unhide ST).b.c1; have b2 := (unhide ST).b.c2
        have v0 := (unhide XX).c0; have v1 := (unhide XX).c1; have v2 := (unhide XX).c2
        have s0' := (unhide ST).s.box.c0; have s1' := (unhide ST).s.box.c1; have s2' := (unhide ST).s.box.c2
        simp only [List.length_nil] at s2'
        go_wp2_with fail
        refine (told_err _ _ _ _ _ _ _ 3 _ (.inr rfl)).mono ?_
        rintro e w11 ⟨rfl, hb⟩
        replace ST := hide ((unhide ST).all hb); replace HYY := hide ((unhide HYY).all hb)
        replace Qy := hide ((unhide Qy).below hb)
        clear hb XX
        have v0 := (unhide HYY).c0; have v1 := (unhide HYY).c1; have v2 := (unhide HYY).c2
        have t0' := (unhide ST).t.box.c0; have t1' := (unhide ST).t.box.c1; have t2' := (unhide ST).t.box.c2
        go_wp2_with fail
        refine (told_ok _ _ _ _ _ _ T _ (unhide ST).t.bits (unhide Qy) (by have := unhide HTl; omega)).mono ?_
        rintro e w12 ⟨rfl, hb⟩
        have BE := hide ((unhide ST).bel.trans (hb.mono (unhide ST).bel.size))
        clear hb ST HYY
        go_wp2_with fail
        refine (awake10_any _ ((unhide HT).all (unhide BE))).mono ?_
        rintro e w19 ⟨rfl, hb⟩
        replace BE := hide ((unhide BE).trans (hb.mono (unhide BE).size))
        clear hb
        go_wp2
        go_ret
        exact ⟨rfl, unhide BE⟩
    · rcases wb with ⟨nB, rfl, rfl, rfl, rfl⟩ | ⟨rfl, gB, rfl, rfl, rfl, rfl⟩ | ⟨rfl, lB, rfl⟩
      · have v0 := (unhide XX).c0; have v1 := (unhide XX).c1; have v2 := (unhide XX).c2
        have s0' := (unhide ST).s.box.c0; have s1' := (unhide ST).s.box.c1; have s2' := (unhide ST).s.box.c2
        simp only [List.length_nil] at s2'
        go_wp2_with fail
        refine (told_err _ _ _ _ _ _ _ 3 _ (.inr rfl)).mono ?_
        rintro e w11 ⟨rfl, hb⟩
        replace ST := hide ((unhide ST).all hb); replace HYY := hide ((unhide HYY).all hb)
        clear hb XX
        have v0 := (unhide HYY).c0; have v1 := (unhide HYY).c1; have v2 := (unhide HYY).c2
        have t0' := (unhide ST).t.box.c0; have t1' := (unhide ST).t.box.c1; have t2' := (unhide ST).t.box.c2
        simp only [List.length_nil] at t2'
        go_wp2_with fail
        refine (told_err _ _ _ _ _ _ _ 3 _ (.inr rfl)).mono ?_
        rintro e w12 ⟨rfl, hb⟩
        have BE := hide ((unhide ST).bel.trans (hb.mono (unhide ST).bel.size))
        clear hb ST HYY
        go_wp2_with fail
        refine (awake10_any _ ((unhide HT).all (unhide BE))).mono ?_
        rintro e w19 ⟨rfl, hb⟩
        replace BE := hide ((unhide BE).trans (hb.mono (unhide BE).size))
        clear hb
        go_wp2
        go_ret
        exact ⟨rfl, unhide BE⟩
      · have v0 := (unhide XX).c0; have v1 := (unhide XX).c1; have v2 := (unhide XX).c2
        have s0' := (unhide ST).s.box.c0; have s1' := (unhide ST).s.box.c1; have s2' := (unhide ST).s.box.c2
        simp only [List.length_nil] at s2'
        go_wp2_with fail
        refine (told_err _ _ _ _ _ _ _ 3 _ (.inr rfl)).mono ?_
        rintro e w11 ⟨rfl, hb⟩
        replace ST := hide ((unhide ST).all hb); replace HYY := hide ((unhide HYY).all hb)
        clear hb XX
        have v0 := (unhide HYY).c0; have v1 := (unhide HYY).c1; have v2 := (unhide HYY).c2
        have t0' := (unhide ST).t.box.c0; have t1' := (unhide ST).t.box.c1; have t2' := (unhide ST).t.box.c2
        simp only [List.length_nil] at t2'
        go_wp2_with fail
        refine (told_err _ _ _ _ _ _ _ 3 _ (.inr rfl)).mono ?_
        rintro e w12 ⟨rfl, hb⟩
        have BE := hide ((unhide ST).bel.trans (hb.mono (unhide ST).bel.size))
        clear hb ST HYY
        go_wp2_with fail
        refine (awake10_any _ ((unhide HT).all (unhide BE))).mono ?_
        rintro e w19 ⟨rfl, hb⟩
        replace BE := hide ((unhide BE).trans (hb.mono (unhide BE).size))
        clear hb
        go_wp2
        go_ret
        exact ⟨rfl, unhide BE⟩
      · go_wp2_with fail
        refine (unhide K7 (by first | rfl | trivial) (by first | trivial | assumption | omega) (by first | rfl | trivial) _ (unhide ST).bel).mono ?_
        rintro e w10 ⟨v, rfl, ⟨yo, yd, rfl, _, qx⟩, hb⟩
        clear a0 a1 a2 b0 b1 b2
        replace ST := hide ((unhide ST).all hb); replace XX := hide ((unhide XX).all hb); replace HYY := hide ((unhide HYY).all hb)
        have f0 := (unhide HYY).free 0; have f1 := (unhide HYY).free 1; have f2 := (unhide HYY).free 2
        have u0 := (unhide HYY).c0; have u1 := (unhide HYY).c1; have u2 := (unhide HYY).c2
        have Qy := hide (qx.putM (unhide HYY) (.int .i64 t1) (.int .i64 t2) (.slice yo T.length yd))
        replace ST := hide ((unhide ST).box (unhide HYY) (by have := unhide ORD; omega) (by have := unhide ORD; omega) (by have := unhide ORD; omega) (by have := unhide ORD; omega) (by have := unhide ORD; omega) (by have := unhide ORD; omega) (.int .i64 t1) (.int .i64 t2) (.slice yo T.length yd))
        replace XX := hide ((unhide XX).three (g := w7.heap.size + 1) (by omega) (.int .i64 t1) (.int .i64 t2) (.slice yo T.length yd))
        replace HYY := hide ((unhide HYY).put (.int .i64 t1) (.int .i64 t2) (.slice yo T.length yd))
        clear qx hb K7
        have a0 := (unhide ST).a.c0; have a1 := (unhide ST).a.c1; have a2 := (unhide ST).a.c2
        have b0 := (unhide ST).b.c0; have b1 := (unhide ST).b.c1; have b2 := (unhide ST).b.c2
        have v0 := (unhide XX).c0; have v1 := (unhide XX).c1; have v2 := (unhide XX).c2
        have s0' := (unhide ST).s.box.c0; have s1' := (unhide ST).s.box.c1; have s2' := (unhide ST).s.box.c2
        simp only [List.length_nil] at s2'
        go_wp2_with fail
        refine (told_err _ _ _ _ _ _ _ 3 _ (.inr rfl)).mono ?_
        rintro e w11 ⟨rfl, hb⟩
        replace ST := hide ((unhide ST).all hb); replace HYY := hide ((unhide HYY).all hb)
        replace Qy := hide ((unhide Qy).below hb)
        clear hb XX
        have v0 := (unhide HYY).c0; have v1 := (unhide HYY).c1; have v2 := (unhide HYY).c2
        have t0' := (unhide ST).t.box.c0; have t1' := (unhide ST).t.box.c1; have t2' := (unhide ST).t.box.c2
        go_wp2_with fail
        refine (told_ok _ _ _ _ _ _ T _ (unhide ST).t.bits (unhide Qy) (by have := unhide HTl; omega)).mono ?_
        rintro e w12 ⟨rfl, hb⟩
        have BE := hide ((unhide ST).bel.trans (hb.mono (unhide ST).bel.size))
        clear hb ST HYY
        go_wp2_with fail
        refine (awake10_any _ ((unhide HT).all (unhide BE))).mono ?_
        rintro e w19 ⟨rfl, hb⟩
        replace BE := hide ((unhide BE).trans (hb.mono (unhide BE).size))
        clear hb
        go_wp2
        go_ret
        exact ⟨rfl, unhide BE⟩
    · rcases wb with ⟨nB, rfl, rfl, rfl, rfl⟩ | ⟨rfl, gB, rfl, rfl, rfl, rfl⟩ | ⟨rfl, lB, rfl⟩
      · go_wp2_with fail
        refine (unhide K6 (by first | rfl | trivial) (by first | trivial | assumption | omega) (by first | rfl | trivial) _ (unhide ST).bel).mono ?_
        rintro e w9 ⟨v, rfl, ⟨xo, xd, rfl, _, qx⟩, hb⟩
        replace ST := hide ((unhide ST).all hb); replace XX := hide ((unhide XX).all hb); replace HYY := hide ((unhide HYY).all hb)
        have f0 := (unhide XX).free 0; have f1 := (unhide XX).free 1; have f2 := (unhide XX).free 2
        have u0 := (unhide XX).c0; have u1 := (unhide XX).c1; have u2 := (unhide XX).c2
        have Qx := hide (qx.putM (unhide XX) (.int .i64 s1) (.int .i64 s2) (.slice xo S.length xd))
        replace ST := hide ((unhide ST).box (unhide XX) (by have := unhide ORD; omega) (by have := unhide ORD; omega) (by have := unhide ORD; omega) (by have := unhide ORD; omega) (by have := unhide ORD; omega) (by have := unhide ORD; omega) (.int .i64 s1) (.int .i64 s2) (.slice xo S.length xd))
        replace HYY := hide ((unhide HYY).three (g := w7.heap.size) (by omega) (.int .i64 s1) (.int .i64 s2) (.slice xo S.length xd))
        replace XX := hide ((unhide XX).put (.int .i64 s1) (.int .i64 s2) (.slice xo S.length xd))
        clear qx hb K6
        have a0 := (unhide ST).a.c0; have a1 := (unhide ST).a.c1; have a2 := (unhide ST).a.c2
        have b0 := (unhide ST).b.c0; have b1 := (unhide ST).b.c1; have b2 := (unhide ST).b.c2
        have v0 := (unhide XX).c0; have v1 := (unhide XX).c1; have v2 := (unhide XX).c2
        have s0' := (unhide ST).s.box.c0; have s1' := (unhide ST).s.box.c1; have s2' := (unhide ST).s.box.c2
        go_wp2_with fail
        refine (told_ok _ _ _ _ _ _ S _ (unhide ST).s.bits (unhide Qx) (by have := unhide HSl; omega)).mono ?_
        rintro e w11 ⟨rfl, hb⟩
        replace ST := hide ((unhide ST).all hb); replace HYY := hide ((unhide HYY).all hb)
        clear hb XX
        have v0 := (unhide HYY).c0; have v1 := (unhide HYY).c1; have v2 := (unhide HYY).c2
        have t0' := (unhide ST).t.box.c0; have t1' := (unhide ST).t.box.c1; have t2' := (unhide ST).t.box.c2
        simp only [List.length_nil] at t2'
        go_wp2_with fail
        refine (told_err _ _ _ _ _ _ _ 3 _ (.inr rfl)).mono ?_
        rintro e w12 ⟨rfl, hb⟩
        have BE := hide ((unhide ST).bel.trans (hb.mono (unhide ST).bel.size))
        clear hb ST HYY
        go_wp2_with fail
        refine (awake10_any _ ((unhide HT).all (unhide BE))).mono ?_
        rintro e w19 ⟨rfl, hb⟩
        replace BE := hide ((unhide BE).trans (hb.mono (unhide BE).size))
        clear hb
        go_wp2
        go_ret
        exact ⟨rfl, unhide BE⟩
      · go_wp2_with fail
        refine (unhide K6 (by first | rfl | trivial) (by first | trivial | assumption | omega) (by first | rfl | trivial) _ (unhide ST).bel).mono ?_
        rintro e w9 ⟨v, rfl, ⟨xo, xd, rfl, _, qx⟩, hb⟩
        replace ST := hide ((unhide ST).all hb); replace XX := hide ((unhide XX).all hb); replace HYY := hide ((unhide HYY).all hb)
        have f0 := (unhide XX).free 0; have f1 := (unhide XX).free 1; have f2 := (unhide XX).free 2
        have u0 := (unhide XX).c0; have u1 := (unhide XX).c1; have u2 := (unhide XX).c2
        have Qx := hide (qx.putM (unhide XX) (.int .i64 s1) (.int .i64 s2) (.slice xo S.length xd))
        replace ST := hide ((unhide ST).box (unhide XX) (by have := unhide ORD; omega) (by have := unhide ORD; omega) (by have := unhide ORD; omega) (by have := unhide ORD; omega) (by have := unhide ORD; omega) (by have := unhide ORD; omega) (.int .i64 s1) (.int .i64 s2) (.slice xo S.length xd))
        replace HYY := hide ((unhide HYY).three (g := w7.heap.size) (by omega) (.int .i64 s1) (.int .i64 s2) (.slice xo S.length xd))
        replace XX := hide ((unhide XX).put (.int .i64 s1) (.int .i64 s2) (.slice xo S.length xd))
        clear qx hb K6
        have a0 := (unhide ST).a.c0; have a1 := (unhide ST).a.c1; have a2 := (unhide ST).a.c2
        have b0 := (unhide ST).b.c0; have b1 := (unhide ST).b.c1; have b2 := (unhide ST).b.c2
        have v0 := (unhide XX).c0; have v1 := (unhide XX).c1; have v2 := (unhide XX).c2
        have s0' := (unhide ST).s.box.c0; have s1' := (unhide ST).s.box.c1; have s2' := (unhide ST).s.box.c2
        go_wp2_with fail
        refine (told_ok _ _ _ _ _ _ S _ (unhide ST).s.bits (unhide Qx) (by have := unhide HSl; omega)).mono ?_
        rintro e w11 ⟨rfl, hb⟩
        replace ST := hide ((unhide ST).all hb); replace HYY := hide ((unhide HYY).all hb)
        clear hb XX
        have v0 := (unhide HYY).c0; have v1 := (unhide HYY).c1; have v2 := (unhide HYY).c2
        have t0' := (unhide ST).t.box.c0; have t1' := (unhide ST).t.box.c1; have t2' := (unhide ST).t.box.c2
        simp only [List.length_nil] at t2'
        go_wp2_with fail
        refine (told_err _ _ _ _ _ _ _ 3 _ (.inr rfl)).mono ?_
        rintro e w12 ⟨rfl, hb⟩
        have BE := hide ((unhide ST).bel.trans (hb.mono (unhide ST).bel.size))
        clear hb ST HYY
        go_wp2_with fail
        refine (awake10_any _ ((unhide HT).all (unhide BE))).mono ?_
        rintro e w19 ⟨rfl, hb⟩
        replace BE := hide ((unhide BE).trans (hb.mono (unhide BE).size))
        clear hb
        go_wp2
        go_ret
        exact ⟨rfl, unhide BE⟩
      · go_wp2_with fail
        refine (unhide K6 (by first | rfl | trivial) (by first | trivial | assumption | omega) (by first | rfl | trivial) _ (unhide ST).bel).mono ?_
        rintro e w9 ⟨v, rfl, ⟨xo, xd, rfl, _, qx⟩, hb⟩
        replace ST := hide ((unhide ST).all hb); replace XX := hide ((unhide XX).all hb); replace HYY := hide ((unhide HYY).all hb)
        have f0 := (unhide XX).free 0; have f1 := (unhide XX).free 1; have f2 := (unhide XX).free 2
        have u0 := (unhide XX).c0; have u1 := (unhide XX).c1; have u2 := (unhide XX).c2
        have Qx := hide (qx.putM (unhide XX) (.int .i64 s1) (.int .i64 s2) (.slice xo S.length xd))
        replace ST := hide ((unhide ST).box (unhide XX) (by have := unhide ORD; omega) (by have := unhide ORD; omega) (by have := unhide ORD; omega) (by have := unhide ORD; omega) (by have := unhide ORD; omega) (by have := unhide ORD; omega) (.int .i64 s1) (.int .i64 s2) (.slice xo S.length xd))
        replace HYY := hide ((unhide HYY).three (g := w7.heap.size) (by omega) (.int .i64 s1) (.int .i64 s2) (.slice xo S.length xd))
        replace XX := hide ((unhide XX).put (.int .i64 s1) (.int .i64 s2) (.slice xo S.length xd))
        clear qx hb K6
        have a0 := (unhide ST).a.c0; have a1 := (unhide ST).a.c1; have a2 := (unhide ST).a.c2
        have b0 := (unhide ST).b.c0; have b1 := (unhide ST).b.c1; have b2 := (unhide ST).b.c2
        go_wp2_with fail
        refine (unhide K7 (by first | rfl | trivial) (by first | trivial | assumption | omega) (by first | rfl | trivial) _ (unhide ST).bel).mono ?_
        rintro e w10 ⟨v, rfl, ⟨yo, yd, rfl, _, qx⟩, hb⟩
        replace ST := hide ((unhide ST).all hb); replace XX := hide ((unhide XX).all hb); replace HYY := hide ((unhide HYY).all hb)
        replace Qx := hide ((unhide Qx).below hb)
        have f0 := (unhide HYY).free 0; have f1 := (unhide HYY).free 1; have f2 := (unhide HYY).free 2
        have u0 := (unhide HYY).c0; have u1 := (unhide HYY).c1; have u2 := (unhide HYY).c2
        have Qy := hide (qx.putM (unhide HYY) (.int .i64 t1) (.int .i64 t2) (.slice yo T.length yd))
        replace ST := hide ((unhide ST).box (unhide HYY) (by have := unhide ORD; omega) (by have := unhide ORD; omega) (by have := unhide ORD; omega) (by have := unhide ORD; omega) (by have := unhide ORD; omega) (by have := unhide ORD; omega) (.int .i64 t1) (.int .i64 t2) (.slice yo T.length yd))
        replace XX := hide ((unhide XX).three (g := w7.heap.size + 1) (by omega) (.int .i64 t1) (.int .i64 t2) (.slice yo T.length yd))
        replace Qx := hide ((unhide Qx).putM (unhide HYY) (.int .i64 t1) (.int .i64 t2) (.slice yo T.length yd))
        replace HYY := hide ((unhide HYY).put (.int .i64 t1) (.int .i64 t2) (.slice yo T.length yd))
        clear qx hb K7
        have a0 := (unhide ST).a.c0; have a1 := (unhide ST).a.c1; have a2 := (unhide ST).a.c2
        have b0 := (unhide ST).b.c0; have b1 := (unhide ST).b.c1; have b2 := (unhide ST).b.c2
        have v0 := (unhide XX).c0; have v1 := (unhide XX).c1; have v2 := (unhide XX).c2
        have s0' := (unhide ST).s.box.c0; have s1' := (unhide ST).s.box.c1; have s2' := (unhide ST).s.box.c2
        go_wp2_with fail
        refine (told_ok _ _ _ _ _ _ S _ (unhide ST).s.bits (unhide Qx) (by have := unhide HSl; omega)).mono ?_
        rintro e w11 ⟨rfl, hb⟩
        replace ST := hide ((unhide ST).all hb); replace HYY := hide ((unhide HYY).all hb)
        replace Qy := hide ((unhide Qy).below hb)
        clear hb XX
        have v0 := (unhide HYY).c0; have v1 := (unhide HYY).c1; have v2 := (unhide HYY).c2
        have t0' := (unhide ST).t.box.c0; have t1' := (unhide ST).t.box.c1; have t2' := (unhide ST).t.box.c2
        go_wp2_with fail
        refine (told_ok _ _ _ _ _ _ T _ (unhide ST).t.bits (unhide Qy) (by have := unhide HTl; omega)).mono ?_
        rintro e w12 ⟨rfl, hb⟩
        have BE := hide ((unhide ST).bel.trans (hb.mono (unhide ST).bel.size))
        clear hb ST HYY
        go_wp2_with fail
        refine (awake10_any _ ((unhide HT).all (unhide BE))).mono ?_
        rintro e w19 ⟨rfl, hb⟩
        replace BE := hide ((unhide BE).trans (hb.mono (unhide BE).size))
        clear hb
        go_wp2
        go_ret
        exact ⟨rfl, unhide BE⟩
end Go.Proofs.YtheepcdlakjdcaaDoor

/- The law MatrixStacks: its ways. -/
namespace Go.Proofs.YtheepcdlakjdcaaDoor
open Go.RowKit

theorem matrixStacks_walk (r c : Int) (ao : Option Addr) (cap : Nat) (I : List Int) (p q : Int) (bo : Option Addr) (d : Nat) (J : List Int) (w : World) (hI : BitsAt w ao cap I) (hl : I.length ≤ 17592186043904) (_hr : -9223372036854775808 ≤ r ∧ r ≤ 9223372036854775807) (_hc : -9223372036854775808 ≤ c ∧ c ≤ 9223372036854775807) (hJ : BitsAt w bo d J) (hlj : J.length ≤ 17592186043904) (_hp : -9223372036854775808 ≤ p ∧ p ≤ 9223372036854775807) (_hq : -9223372036854775808 ≤ q ∧ q ≤ 9223372036854775807) (hT : Tab w) :
    Calls Tryd.prog 6 #[.agg #[.int .i64 r, .int .i64 c, .slice ao I.length cap], .agg #[.int .i64 p, .int .i64 q, .slice bo J.length d]] w fun e w' => e = .returned (.bool true) ∧ Below w.heap.size w w' := by
  cases h : (okB r c I.length && okB p q J.length)
  · exact matrixStacks_of r c ao cap I p q bo d J 0 0 0 0 [] [] 1 1 false w hI hl hJ hlj hT (.inl ⟨rfl, rfl, rfl, rfl, rfl, rfl, rfl, rfl, rfl⟩) (by simp) (by simp) (fun w' po pc qo qc _ _ _ => mstack_form r c po _ pc p q qo _ qc w' (by omega) (by omega) h) (fun w' po pc qo qc _ _ _ => mbeside_form r c po _ pc p q qo _ qc w' (by omega) (by omega) h) h (fun _ _ e => by cases e) (fun _ _ e => by cases e)
  · obtain ⟨h1, h2⟩ := Bool.and_eq_true_iff.1 h
    obtain ⟨r, c, rfl, rfl, hM, hS⟩ := Mx.of hI h1
    obtain ⟨p, q, rfl, rfl, hN, hR⟩ := Mx.of hJ h2
    have r6 := hM.2.2.1
    have c6 := hM.2.2.2
    have p6 := hN.2.2.1
    have q6 := hN.2.2.2
    have i36 : I.length ≤ 36 := by have := hM.small; rwa [natL_len] at this
    have j36 : J.length ≤ 36 := by have := hN.small; rwa [natL_len] at this
    have mx : ∀ {w' po pc}, BitsAt w' po pc I → Mx w' po pc r c (natL I) := fun hb' => Mx.from hb' h1
    have mx2 : ∀ {w' po pc}, BitsAt w' po pc J → Mx w' po pc p q (natL J) := fun hb' => Mx.from hb' h2
    -- one below the other
    have A : ∃ (f : Int) (s1 s2 : Nat) (S : List Nat), S.length ≤ 36 ∧ ((¬ (c : Int) = (q : Int) ∧ f = 3 ∧ s1 = 0 ∧ s2 = 0 ∧ S = []) ∨ ((c : Int) = (q : Int) ∧ 6 < (r : Int) + (p : Int) ∧ f = 3 ∧ s1 = 0 ∧ s2 = 0 ∧ S = []) ∨ ((c : Int) = (q : Int) ∧ (r : Int) + (p : Int) ≤ 6 ∧ f = 0)) ∧
        (∀ w' po pc qo qc, Tab w' → BitsAt w' po pc I → BitsAt w' qo qc J → Calls Tryd.prog 25 #[.agg #[.int .i64 r, .int .i64 c, .slice po I.length pc], .agg #[.int .i64 p, .int .i64 q, .slice qo J.length qc]] w' fun e w'' => ∃ v, e = .returned (.tuple #[v, .int .i64 f]) ∧ NewM w'.heap.size w'' s1 s2 S v ∧ Below w'.heap.size w' w'') ∧
        ((c : Int) = (q : Int) → (r : Int) + (p : Int) ≤ 6 → ∀ w', Below w.heap.size w w' → Calls Tryd.prog 28 #[.agg #[.int .i64 r, .int .i64 c, .slice ao I.length cap], .agg #[.int .i64 p, .int .i64 q, .slice bo J.length d]] w' fun e w'' => ∃ v, e = .returned v ∧ NewM 0 w'' s1 s2 S v ∧ Below w'.heap.size w' w'') := by
      by_cases hne : c = q
      · subst hne
        by_cases hg : r + p ≤ 6
        · refine ⟨0, r + p, c, natL I ++ natL J, ?_, .inr (.inr ⟨rfl, by omega, rfl⟩), ?_, ?_⟩
          · rw [List.length_append, hM.2.1, hN.2.1, ← Nat.add_mul]
            have : (r + p) * c ≤ 6 * 6 := Nat.mul_le_mul hg c6
            omega
          · intro w' po pc qo qc _ hb1 hb2
            have C := mStack_ok r c pc p qc po qo (natL I) (natL J) w' (mx hb1) (mx2 hb2) hg
            rwa [natL_len, natL_len] at C
          · intro _ _ w' hb'
            have C := rstack_any r c cap p c d ao bo (natL I) (natL J) w' (hM.below hb') (hN.below hb')
            rwa [natL_len, natL_len] at C
        · exact ⟨3, 0, 0, [], by simp, .inr (.inl ⟨rfl, by omega, rfl, rfl, rfl, rfl⟩), fun w' po pc qo qc _ _ _ => mstack_rows r c _ pc p c _ qc po qo w' i36 j36 r6 c6 p6 c6 h rfl (by omega), fun _ e => by omega⟩
      · exact ⟨3, 0, 0, [], by simp, .inl ⟨by omega, rfl, rfl, rfl, rfl⟩, fun w' po pc qo qc _ _ _ => mstack_cols r c _ pc p q _ qc po qo w' i36 j36 r6 c6 p6 q6 h hne, fun e => by omega⟩
    have B : ∃ (f : Int) (s1 s2 : Nat) (S : List Nat), S.length ≤ 36 ∧ ((¬ (r : Int) = (p : Int) ∧ f = 3 ∧ s1 = 0 ∧ s2 = 0 ∧ S = []) ∨ ((r : Int) = (p : Int) ∧ 6 < (c : Int) + (q : Int) ∧ f = 3 ∧ s1 = 0 ∧ s2 = 0 ∧ S = []) ∨ ((r : Int) = (p : Int) ∧ (c : Int) + (q : Int) ≤ 6 ∧ f = 0)) ∧
        (∀ w' po pc qo qc, Tab w' → BitsAt w' po pc I → BitsAt w' qo qc J → Calls Tryd.prog 26 #[.agg #[.int .i64 r, .int .i64 c, .slice po I.length pc], .agg #[.int .i64 p, .int .i64 q, .slice qo J.length qc]] w' fun e w'' => ∃ v, e = .returned (.tuple #[v, .int .i64 f]) ∧ NewM w'.heap.size w'' s1 s2 S v ∧ Below w'.heap.size w' w'') ∧
        ((r : Int) = (p : Int) → (c : Int) + (q : Int) ≤ 6 → ∀ w', Below w.heap.size w w' → Calls Tryd.prog 29 #[.agg #[.int .i64 r, .int .i64 c, .slice ao I.length cap], .agg #[.int .i64 p, .int .i64 q, .slice bo J.length d]] w' fun e w'' => ∃ v, e = .returned v ∧ NewM 0 w'' s1 s2 S v ∧ Below w'.heap.size w' w'') := by
      by_cases hne : r = p
      · subst hne
        by_cases hg : c + q ≤ 6
        · refine ⟨0, r, c + q, beM r c q (natL I) (natL J), ?_, .inr (.inr ⟨rfl, by omega, rfl⟩), ?_, ?_⟩
          · unfold beM
            rw [mkM_len]
            have : r * (c + q) ≤ 6 * 6 := Nat.mul_le_mul r6 hg
            omega
          · intro w' po pc qo qc _ hb1 hb2
            have C := mBeside_ok r c pc q qc po qo (natL I) (natL J) w' (mx hb1) (mx2 hb2) hg
            rwa [natL_len, natL_len] at C
          · intro _ _ w' hb'
            have C := rbeside_any r c cap q d ao bo (natL I) (natL J) w' (hM.below hb') (hN.below hb') hg
            rwa [natL_len, natL_len] at C
        · exact ⟨3, 0, 0, [], by simp, .inr (.inl ⟨rfl, by omega, rfl, rfl, rfl, rfl⟩), fun w' po pc qo qc _ _ _ => mbeside_cols r c _ pc r q _ qc po qo w' i36 j36 r6 c6 r6 q6 h rfl (by omega), fun _ e => by omega⟩
      · exact ⟨3, 0, 0, [], by simp, .inl ⟨by omega, rfl, rfl, rfl, rfl⟩, fun w' po pc qo qc _ _ _ => mbeside_rows r c _ pc p q _ qc po qo w' i36 j36 r6 c6 p6 q6 h hne, fun e => by omega⟩
    obtain ⟨f, s1, s2, S, a1, a2, a3, a4⟩ := A
    obtain ⟨g, t1, t2, T, b1, b2, b3, b4⟩ := B
    exact matrixStacks_of r c ao cap I p q bo d J s1 s2 t1 t2 S T f g true w hI hl hJ hlj hT (.inr ⟨rfl, ⟨by omega, by omega, by omega, by omega⟩, ⟨by omega, by omega, by omega, by omega⟩, a2, b2⟩) a1 b1 a3 b3 h (fun e1 e2 _ => a4 e1 e2) (fun e1 e2 _ => b4 e1 e2)

end Go.Proofs.YtheepcdlakjdcaaDoor

