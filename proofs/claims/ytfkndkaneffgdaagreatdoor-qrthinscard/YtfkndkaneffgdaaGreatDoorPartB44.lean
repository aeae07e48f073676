/- Part 44 of the texts. -/
import Derived.Test.YtfkndkaneffgdaaGreatDoorPartB43
import Derived.Test.YtfkndkaneffgdaaGreatDoorPartB42
import Derived.Test.YtfkndkaneffgdaaGreatDoorPartB35
import Derived.Test.YtfkndkaneffgdaaGreatDoorChecked
import Derived.Test.YtfkndkaneffgdaaGreatDoorPartB02
import Derived.ProofKit
import Derived.SizedLaws
import Derived.Lib.SmallJoins
import Derived.Test.YtfkndkaneffgdaaGreatDoorRows
import Derived.Test.YtfkndkaneffgdaaGreatDoorPartB11
import Derived.Lib.LaidTab
import Derived.OpenShut
import Derived.Deep.DeepHandedRow
/- The law QrThins (mkmo.py). Ahead of stage 14. -/
namespace Go.Proofs.YtfkndkaneffgdaaGreatDoor
open Go.RowKit
attribute [local go_sem ↓] Go.wp_at_zero Go.wp_at_succ

set_option maxRecDepth 20000 in
set_option maxHeartbeats 8000000 in
theorem qrThins_of (r c : Int) (ao : Option Addr) (n cap : Nat) (p1 p2 p3 p4 : Nat) (S T : List Nat) (f er : Int) (w : World)
    (way : (f ≠ 0 ∧ (f = 1 ∨ f = 4)) ∨ f = 0)
    (C2 : ∀ w', Below w.heap.size w w' → Calls Tryz.prog 13 #[.agg #[.int .i64 r, .int .i64 c, .slice ao n cap]] w' fun e w'' => ∃ v u, e = .returned (.tuple #[v, u, .int .i64 er]) ∧ NewM w'.heap.size w'' p1 p2 S v ∧ NewM w'.heap.size w'' p3 p4 T u ∧ Below w'.heap.size w' w'')
    (C5 : ∀ w', Below w.heap.size w w' → Calls Tryz.prog 9 #[.agg #[.int .i64 r, .int .i64 c, .slice ao n cap]] w' fun e w'' => e = .returned (.int .i64 f) ∧ Below w'.heap.size w' w'')
    (C6 : f ≠ 0 → ∀ w' so sd to' td, BitsAt w' so sd (mxL S) → BitsAt w' to' td (mxL T) → Calls Tryz.prog 10 #[.agg #[.int .i64 p1, .int .i64 p2, .slice so S.length sd], .agg #[.int .i64 p3, .int .i64 p4, .slice to' T.length td], .int .i64 er, .agg #[.int .i64 0, .int .i64 0, .slice none 0 0, .int .i64 0, .int .i64 0, .slice none 0 0, .bool false], .int .i64 f] w' fun e w'' => e = .returned (.bool true) ∧ Below w'.heap.size w' w'')
    (C7 : f = 0 → ∀ w', Below w.heap.size w w' → Calls Tryz.prog 14 #[.agg #[.int .i64 r, .int .i64 c, .slice ao n cap]] w' fun e w'' => ∃ v, e = .returned v ∧ (∀ w3 so sd to' td, Below w''.heap.size w'' w3 → BitsAt w3 so sd (mxL S) → BitsAt w3 to' td (mxL T) → Calls Tryz.prog 10 #[.agg #[.int .i64 p1, .int .i64 p2, .slice so S.length sd], .agg #[.int .i64 p3, .int .i64 p4, .slice to' T.length td], .int .i64 er, v, .int .i64 0] w3 fun e w4 => e = .returned (.bool true) ∧ Below w3.heap.size w3 w4) ∧ Below w'.heap.size w' w'')
    (CA : ∀ w', Below w.heap.size w w' → Calls Tryz.prog 11 #[] w' fun e w'' => e = .returned (.bool true) ∧ Below w'.heap.size w' w'') :
    Calls Tryz.prog 4 #[.agg #[.int .i64 r, .int .i64 c, .slice ao n cap]] w fun e w' => e = .returned (.bool true) ∧ Below w.heap.size w w' := by
  have WAY := hide way
  have K2 := hide C2; have K5 := hide C5; have K6 := hide C6; have K7 := hide C7; have KA := hide CA
  have b0 := below_alloc9 w (.cells #[.int .i64 r, .int .i64 c, .slice ao n cap] 24)
  have HA := hide (BoxM.new w (.int .i64 r) (.int .i64 c) (.slice ao n cap))
  have HB := hide b0
  clear b0 way C2 C5 C6 C7 CA
  go_enter Tryz.func4, Tryz.ntmps4
  go_wp2_with fail
  refine (unhide K2 _ (unhide HB)).mono ?_
  rintro e w1 ⟨v, u, rfl, ⟨so, sd, rfl, _, qs⟩, ⟨to', td, rfl, _, qt⟩, hb⟩
  obtain ⟨st, bc⟩ := UpSt.start ((unhide HB).trans (hb.mono (unhide HB).size)) ((unhide HA).all hb) (.int .i64 (p1 : Nat)) (.int .i64 (p2 : Nat)) (.slice so S.length sd) (.int .i64 (p3 : Nat)) (.int .i64 (p4 : Nat)) (.slice to' T.length td)
  have ST := hide st
  have QS := hide (qs.below bc); have QT := hide (qt.below bc)
  clear hb HA HB K2 st bc qs qt
  generalize S.length = nS at *
  generalize T.length = nT at *
  have a0 := (unhide ST).a.c0; have a1 := (unhide ST).a.c1; have a2 := (unhide ST).a.c2
  go_wp2_with fail
  clear a0 a1 a2
  generalize w1.heap.size = g at *
  refine (unhide K5 _ (unhide ST).bel).mono ?_
  rintro e w5 ⟨rfl, hb⟩
  replace ST := hide ((unhide ST).all hb)
  replace QS := hide ((unhide QS).below hb)
  replace QT := hide ((unhide QT).below hb)
  clear hb K5
  have s0 := (unhide ST).q.c0; have s1 := (unhide ST).q.c1; have s2 := (unhide ST).q.c2
  have u0 := (unhide ST).r.c0; have u1 := (unhide ST).r.c1; have u2 := (unhide ST).r.c2
  rcases unhide WAY with ⟨hf0, hf⟩ | rfl
  · have G6 := hide (unhide K6 hf0 _ _ _ _ _ (unhide QS) (unhide QT))
    clear WAY K6 K7
    rcases hf with rfl | rfl
    all_goals
      go_wp2_with fail
      refine Calls.mono (unhide G6) ?_
      rintro e w8 ⟨rfl, hb⟩
      have BE := hide ((unhide ST).bel.trans (hb.mono (unhide ST).bel.size))
      clear s0 s1 s2 u0 u1 u2 hb ST G6
      go_wp2_with fail
      refine (unhide KA _ (unhide BE)).mono ?_
      rintro e w19 ⟨rfl, hb⟩
      replace BE := hide ((unhide BE).trans (hb.mono (unhide BE).size))
      clear hb
      go_wp2
      go_ret
      exact ⟨rfl, unhide BE⟩
  · have G7 := hide (unhide K7 (by first | rfl | trivial))
    clear WAY K6 K7
    go_wp2_with fail
    refine at_world (fun W => UpSt w W g (.int .i64 r) (.int .i64 c) (.slice ao n cap) (.int .i64 p1) (.int .i64 p2) (.slice so nS sd) (.int .i64 p3) (.int .i64 p4) (.slice to' nT td) ∧ BitsAt W so sd (mxL S) ∧ BitsAt W to' td (mxL T)) ⟨unhide ST, unhide QS, unhide QT⟩ ?_
    clear s0 s1 s2 u0 u1 u2 ST QS QT
    rintro W ⟨st, qs, qt⟩
    have QS := hide qs; have QT := hide qt
    have HK := hide (fun w' (h : Below W.heap.size W w') => (show Below W.heap.size W w' ∧ (w'.cell? ⟨w.heap.size, 0, none⟩ = some (.int .i64 r) ∧ w'.cell? ⟨w.heap.size, 1, none⟩ = some (.int .i64 c) ∧ w'.cell? ⟨w.heap.size, 2, none⟩ = some (.slice ao n cap)) ∧ (w'.cell? ⟨g, 0, none⟩ = some (.int .i64 p1) ∧ w'.cell? ⟨g, 1, none⟩ = some (.int .i64 p2) ∧ w'.cell? ⟨g, 2, none⟩ = some (.slice so nS sd)) ∧ (w'.cell? ⟨g + 1, 0, none⟩ = some (.int .i64 p3) ∧ w'.cell? ⟨g + 1, 1, none⟩ = some (.int .i64 p4) ∧ w'.cell? ⟨g + 1, 2, none⟩ = some (.slice to' nT td)) from
      have y := st.all h; ⟨h, ⟨y.a.c0, y.a.c1, y.a.c2⟩, ⟨y.q.c0, y.q.c1, y.q.c2⟩, y.r.c0, y.r.c1, y.r.c2⟩))
    have HW := hide (fun w' (h : Below W.heap.size W w') => st.bel.trans (h.mono st.bel.size))
    clear st qs qt
    go_region_held3 (fun w' => Below W.heap.size W w' ∧ (w'.cell? ⟨w.heap.size, 0, none⟩ = some (.int .i64 r) ∧ w'.cell? ⟨w.heap.size, 1, none⟩ = some (.int .i64 c) ∧ w'.cell? ⟨w.heap.size, 2, none⟩ = some (.slice ao n cap)) ∧ (w'.cell? ⟨g, 0, none⟩ = some (.int .i64 p1) ∧ w'.cell? ⟨g, 1, none⟩ = some (.int .i64 p2) ∧ w'.cell? ⟨g, 2, none⟩ = some (.slice so nS sd)) ∧ (w'.cell? ⟨g + 1, 0, none⟩ = some (.int .i64 p3) ∧ w'.cell? ⟨g + 1, 1, none⟩ = some (.int .i64 p4) ∧ w'.cell? ⟨g + 1, 2, none⟩ = some (.slice to' nT td)))
      (first | exact unhide HK _ (Below.refl _ _).drew | exact unhide HK _ (by assumption) | fail "KK")
      (first | (go_at_call 14; refine (unhide G7 _ (unhide HW _ (And.left (by assumption)))).mono ?_; rintro e w5 ⟨v, rfl, kt, hb5⟩; have hB5 : Below W.heap.size W w5 := Below.trans (And.left (by assumption)) (hb5.mono (Below.size (And.left (by assumption)))); have KT := hide (fun w3 h3 => kt w3 so sd to' td h3 (by exact (unhide QS).below (hB5.trans (h3.mono hB5.size))) (by exact (unhide QT).below (hB5.trans (h3.mono hB5.size)))); clear kt hb5 G7) | (go_at_call 10; refine (unhide KT _ (by first | exact (Below.refl _ _) | exact (Below.refl _ _).drew | exact below_drewN (Below.refl _ _) _)).mono ?_; rintro e w6 ⟨rfl, hb6⟩; have hB6 : Below W.heap.size W w6 := Below.trans (And.left (by assumption)) (hb6.mono (Below.size (And.left (by assumption)))); clear hb6) | (go_at_call 11; refine (unhide KA _ (unhide HW _ (And.left (by assumption)))).mono ?_; rintro e w7 ⟨rfl, hb7⟩; have hB7 : Below W.heap.size W w7 := Below.trans (And.left (by assumption)) (hb7.mono (Below.size (And.left (by assumption)))); clear hb7) | fail "NO ARM")
    all_goals
      have BE := hide (unhide HW _ (And.left (by assumption)))
      go_wp2
      go_ret
      exact ⟨rfl, unhide BE⟩

/-- The thin factors. -/
def thQ (r c : Nat) (S : List Nat) : List Nat := paM r (facQ r c S) 0 0 r (min r c)
def thR (r c : Nat) (S : List Nat) : List Nat := paM c (facR r c S) 0 0 (min r c) c
theorem rthin14_any (r c cap : Nat) (ao : Option Addr) (S : List Nat) (w : World) (h : Mx w ao cap r c S) :
    Calls Tryz.prog 14 #[.agg #[.int .i64 r, .int .i64 c, .slice ao S.length cap]] w fun e w' => ThAns w' (facK r c S) r (min r c) c (thQ r c S) (thR r c S) e ∧ Below w.heap.size w w' := by
  have hl := h.2.1
  have r6 := h.2.2.1
  have c6 := h.2.2.2
  have lq : (facQ r c S).length = r * r := qrQ_len _ _ _ _ _
  have lr : (facR r c S).length = r * c := qrR_len r c S hl _
  refine rthin_of r c S.length (r * r) (min r c) cap ao (facQ r c S) (facR r c S) (thQ r c S) (thR r c S) (facK r c S) w rfl r6 c6 (fun w' hb => rfactor14_any r c cap ao S w' (h.below hb)) (fun w' qo qc hq => ?_) (fun w' ro rc hr => ?_)
  · have := rpart_any r r qc 0 0 r (min r c) qo (facQ r c S) w' ⟨hq, lq, r6, r6⟩ (by omega) (by omega)
    rw [lq] at this
    refine this.mono ?_
    rintro e w'' ⟨v, rfl, ⟨po, pc, rfl, _, hb⟩, hb2⟩
    exact ⟨po, pc, rfl, hb, hb2⟩
  · have := rpart_any r c rc 0 0 (min r c) c ro (facR r c S) w' ⟨hr, lr, r6, c6⟩ (by omega) (by omega)
    rw [lr, ← hl] at this
    refine this.mono ?_
    rintro e w'' ⟨v, rfl, ⟨po, pc, rfl, _, hb⟩, hb2⟩
    exact ⟨po, pc, rfl, hb, hb2⟩

theorem qrThins_by (r c : Int) (ao : Option Addr) (cap : Nat) (I : List Int) (w : World) (hI : BitsAt w ao cap I) (hl : I.length ≤ 17592186043904)
    (CE : ∀ w', Below w.heap.size w w' → ckE r c I ≠ 0 → Calls Tryz.prog 13 #[.agg #[.int .i64 r, .int .i64 c, .slice ao I.length cap]] w' fun e w'' => ∃ v u, e = .returned (.tuple #[v, u, .int .i64 (ckE r c I)]) ∧ NewM w'.heap.size w'' 0 0 [] v ∧ NewM w'.heap.size w'' 0 0 [] u ∧ Below w'.heap.size w' w'')
    (CN : ∀ w' ao cap (r c : Nat) S, Below w.heap.size w w' → Mx w' ao cap r c S → finL S = true → facK r c S = false → Calls Tryz.prog 13 #[.agg #[.int .i64 r, .int .i64 c, .slice ao S.length cap]] w' fun e w'' => ∃ v u, e = .returned (.tuple #[v, u, .int .i64 2]) ∧ NewM w'.heap.size w'' 0 0 [] v ∧ NewM w'.heap.size w'' 0 0 [] u ∧ Below w'.heap.size w' w'')
    (CY : ∀ w' ao cap (r c : Nat) S, Below w.heap.size w w' → Mx w' ao cap r c S → finL S = true → facK r c S = true → Calls Tryz.prog 13 #[.agg #[.int .i64 r, .int .i64 c, .slice ao S.length cap]] w' fun e w'' => ∃ v u, e = .returned (.tuple #[v, u, .int .i64 0]) ∧ NewM w'.heap.size w'' r (min r c) (thQ r c S) v ∧ NewM w'.heap.size w'' (min r c) c (thR r c S) u ∧ Below w'.heap.size w' w'')
    (CA : ∀ w', Below w.heap.size w w' → Calls Tryz.prog 11 #[] w' fun e w'' => e = .returned (.bool true) ∧ Below w'.heap.size w' w'') :
    Calls Tryz.prog 4 #[.agg #[.int .i64 r, .int .i64 c, .slice ao I.length cap]] w fun e w' => e = .returned (.bool true) ∧ Below w.heap.size w w' := by
  have C5 := fun w' (hb : Below w.heap.size w w') => r11check_any r c ao cap I w' (hI.below hb) (by omega)
  by_cases h0 : ckE r c I = 0
  · obtain ⟨ho, hf⟩ := ckE_zero h0
    obtain ⟨p, q, rfl, rfl, hM, hS⟩ := Mx.of hI ho
    have e1 := natL_len I
    rw [h0] at C5
    have hfin : finL (natL I) = true := by
      unfold finL
      rw [mxL_natL hI, e1]
      exact hf
    have F := fun w' (hb : Below w.heap.size w w') => rthin14_any p q cap ao (natL I) w' (hM.below hb)
    cases hk : facK p q (natL I)
    · refine qrThins_of p q ao I.length cap 0 0 0 0 [] [] 0 2 w (.inr rfl) (fun w' hb => ?_) C5 (fun e => absurd rfl e) (fun _ w' hb => ?_) CA
      · have := CN w' ao cap p q (natL I) hb (hM.below hb) hfin hk
        rw [e1] at this
        exact this
      · have := F w' hb
        rw [e1, hk] at this
        refine this.mono ?_
        rintro e w'' ⟨h, hb2⟩
        rcases h with ⟨e, _⟩ | ⟨_, rfl⟩
        · cases e
        · exact ⟨_, rfl, fun w3 so sd to' td _ _ _ => told14_no 0 2 false so to' sd td _ _ _ _ _ _ w3 (.inl ⟨rfl, rfl, rfl⟩), hb2⟩
    · have lq : (thQ p q (natL I)).length = p * min p q := by unfold thQ paM; rw [mkM_len]
      have lr : (thR p q (natL I)).length = min p q * q := by unfold thR paM; rw [mkM_len]
      have m6 : min p q ≤ 6 := by have := hM.2.2.1; omega
      refine qrThins_of p q ao I.length cap p (min p q) (min p q) q (thQ p q (natL I)) (thR p q (natL I)) 0 0 w (.inr rfl) (fun w' hb => ?_) C5 (fun e => absurd rfl e) (fun _ w' hb => ?_) CA
      · have := CY w' ao cap p q (natL I) hb (hM.below hb) hfin hk
        rw [e1] at this
        exact this
      · have := F w' hb
        rw [e1, hk] at this
        refine this.mono ?_
        rintro e w'' ⟨h, hb2⟩
        rcases h with ⟨_, qo, qc, ro, rc, rfl, b1, b2⟩ | ⟨e, _⟩
        · exact ⟨_, rfl, fun w3 so sd to' td h3 hs ht => told14_yes p (min p q) (min p q) q so to' qo ro sd td qc rc (thQ p q (natL I)) (thR p q (natL I)) w3 hs ht (b1.below h3) (b2.below h3) (by rw [lq]; exact Nat.mul_le_mul hM.2.2.1 m6) (by rw [lr]; exact Nat.mul_le_mul m6 hM.2.2.2), hb2⟩
        · cases e
  · have hw : ckE r c I = 1 ∨ ckE r c I = 4 := by have := ckE_three r c I; omega
    exact qrThins_of r c ao I.length cap 0 0 0 0 [] [] (ckE r c I) (ckE r c I) w (.inl ⟨h0, hw⟩) (fun w' hb => CE w' hb h0) C5 (fun _ w' so sd to' td _ _ => told14_no (ckE r c I) (ckE r c I) false so to' sd td _ _ _ _ _ _ w' (.inr (by rcases hw with e | e; exact .inl ⟨e, e⟩; exact .inr ⟨e, e⟩))) (fun e => absurd e h0) CA

end Go.Proofs.YtfkndkaneffgdaaGreatDoor

/- Layer 14: the four laws. -/
namespace Go.Proofs.YtfkndkaneffgdaaGreatDoor
open Go.RowKit

theorem qr_awake_any (w : World) (hT : Tab w) : ∀ w', Below w.heap.size w w' → Calls Tryz.prog 11 #[] w' fun e w'' => e = .returned (.bool true) ∧ Below w'.heap.size w' w'' :=
  qr_awake w (fun w' ao cap r c S hb h hf hk => qFactor_yes r c cap ao S w' h hf hk (hT.all hb))

theorem qrThins_walk (r c : Int) (ao : Option Addr) (cap : Nat) (I : List Int) (w : World) (hI : BitsAt w ao cap I) (hl : I.length ≤ 17592186043904) (_hr : -9223372036854775808 ≤ r ∧ r ≤ 9223372036854775807) (_hc : -9223372036854775808 ≤ c ∧ c ≤ 9223372036854775807) (hT : Tab w) :
    Calls Tryz.prog 4 #[.agg #[.int .i64 r, .int .i64 c, .slice ao I.length cap]] w fun e w' => e = .returned (.bool true) ∧ Below w.heap.size w w' :=
  qrThins_by r c ao cap I w hI hl (fun w' hb h => qThin_err r c ao cap I w' (hI.below hb) hl h) (fun w' ao cap r c S hb h hf hk => qThin_no r c cap ao S w' h hf hk (hT.all hb)) (fun w' ao cap r c S hb h hf hk => qThin_yes r c cap ao S w' h hf hk (hT.all hb)) (qr_awake_any w hT)

end Go.Proofs.YtfkndkaneffgdaaGreatDoor

/- A struct of a sign and limbs that came in, opened. -/
namespace Go.Proofs.YtfkndkaneffgdaaGreatDoor
open Go.ChangeShapes Go.WideShapes Go.ChangeAt Go.RowKit Go.Joins

theorem Tryz.own : ownKnob Tryz.prog.godebug = none := by kernel_rfl
theorem Tryz.laidOut : laidOutB Tryz.prog = true := by kernel_rfl
end Go.Proofs.YtfkndkaneffgdaaGreatDoor

/- The bounds of an int or int64 that came in. -/
namespace Go.Proofs.YtfkndkaneffgdaaGreatDoor

theorem bounds_of_i64 {x : Int} (h : (Lit.int .i64 x).wf = true) : -9223372036854775808 ≤ x ∧ x ≤ 9223372036854775807 := by
  simp [Lit.wf, IntKind.min, IntKind.max, IntKind.signed, IntKind.bits] at h
  omega

end Go.Proofs.YtfkndkaneffgdaaGreatDoor

/- A dyadic number that came in, opened; the library's table, as the row lays it. -/
namespace Go.Proofs.YtfkndkaneffgdaaGreatDoor
open Go.ChangeShapes Go.WideShapes Go.ChangeAt Go.RowKit Go.Joins
theorem Tryz.tabName : Tryz.prog.globalNamed "math/bits.deBruijn32tab" = some 1 := by kernel_rfl
theorem Tryz.tabType : (Tryz.prog.globals[1]?).map (·.type) = some 174 := by kernel_rfl
theorem Tryz.tabCells : Tryz.prog.cellsOf 174 = 32 := by kernel_rfl
theorem Tryz.byteCells : Tryz.prog.cellsOf 5 = 1 := by kernel_rfl

theorem tab_getD : ∀ j, j < Lib.deBruijn32tab.length → (List.map Int.ofNat Lib.deBruijn32tab).getD j 0 = ((Lib.deBruijn32tab.getD j 0 : Nat) : Int) := by decide

/-- What the rows' list gives: the table's cells. -/
theorem tab_of_laid {W : World} (h : laidMetH Tryz.prog [("math/bits.deBruijn32tab", Rows.laid_math_bits_deBruijn32tab)] W) : Tab W := by
  have ht := Lib.tabIs_of_head (zs := Lib.deBruijn32tab.map Int.ofNat) (rest := []) Tryz.tabName Tryz.tabType Tryz.underlying174 Tryz.underlying5 Tryz.byteCells Tryz.tabCells h
  intro j hj
  have := ht.cell Tryz.tabName j (by simpa using hj)
  rw [this]
  congr 2
  exact tab_getD j hj

end Go.Proofs.YtfkndkaneffgdaaGreatDoor

