/- Part 34 of the texts. -/
import Derived.Test.YtimejpbmehegeaaGreatDoorPartb31
import Derived.Test.YtimejpbmehegeaaGreatDoorPartb33
import Derived.Test.YtimejpbmehegeaaGreatDoorPartb30
/- Package house: image, mirrored. -/
namespace Go.Proofs.YtimejpbmehegeaaGreatDoor
open Go.RowKit
attribute [local go_sem ↓] Go.wp_at_zero Go.wp_at_succ

set_option maxRecDepth 20000 in
set_option maxHeartbeats 4000000 in
theorem himage1_of (t x y p o k n m c d bx by' ba : Nat) (b1 o1 b2 o2 : Nat) (w : World) (hk : k < n) (hm : k < m)
    (h1 : w.cell? ⟨bx, 0, none⟩ = some (.slice (some ⟨b1, o1, none⟩) n c)) (h2 : w.cell? ⟨by', 0, none⟩ = some (.slice (some ⟨b2, o2, none⟩) m d)) (h5 : w.cell? ⟨ba, 0, none⟩ = some (.int .u64 (t : Nat)))
    (h3 : w.cell? ⟨b1, o1 + k, none⟩ = some (.int .u64 (x : Nat))) (h4 : w.cell? ⟨b2, o2 + k, none⟩ = some (.int .u64 (y : Nat)))
    (C1 : ∀ w', Below w.heap.size w w' → Calls Tryz.prog 125 #[.int .u64 t, .int .u64 y] w' fun r w'' => r = .returned (.int .u64 (p : Nat)) ∧ Below w'.heap.size w' w'')
    (C2 : ∀ w', Below w.heap.size w w' → Calls Tryz.prog 45 #[.int .u64 x, .int .u64 p] w' fun r w'' => r = .returned (.int .u64 (o : Nat)) ∧ Below w'.heap.size w' w'') :
    Calls Tryz.prog 126 #[.int .i64 k, .pointer (some ⟨bx, 0, none⟩), .pointer (some ⟨ba, 0, none⟩), .pointer (some ⟨by', 0, none⟩)] w fun e w' => e = .returned (.int .u64 (o : Nat)) ∧ Below w.heap.size w w' := by
  have K1 := hide C1; have K2 := hide C2
  have hkI : (k : Int) < (n : Int) := by omega
  have hkJ : (k : Int) < (m : Int) := by omega
  have HK := hide (fun w' (h : Below w.heap.size w w') => (show Below w.heap.size w w' ∧ w'.cell? ⟨bx, 0, none⟩ = some (.slice (some ⟨b1, o1, none⟩) n c) ∧ w'.cell? ⟨by', 0, none⟩ = some (.slice (some ⟨b2, o2, none⟩) m d) ∧ w'.cell? ⟨b1, o1 + k, none⟩ = some (.int .u64 (x : Nat)) ∧ w'.cell? ⟨b2, o2 + k, none⟩ = some (.int .u64 (y : Nat)) ∧ w'.cell? ⟨ba, 0, none⟩ = some (.int .u64 (t : Nat)) from
    ⟨h, cell_keep h1 h, cell_keep h2 h, cell_keep h3 h, cell_keep h4 h, cell_keep h5 h⟩))
  clear C1 C2 h1 h2 h3 h4 h5
  go_enter Tryz.func126, Tryz.ntmps126
  go_wp2_with fail
  go_region_held3 (fun w' => Below w.heap.size w w' ∧ w'.cell? ⟨bx, 0, none⟩ = some (.slice (some ⟨b1, o1, none⟩) n c) ∧ w'.cell? ⟨by', 0, none⟩ = some (.slice (some ⟨b2, o2, none⟩) m d) ∧ w'.cell? ⟨b1, o1 + k, none⟩ = some (.int .u64 (x : Nat)) ∧ w'.cell? ⟨b2, o2 + k, none⟩ = some (.int .u64 (y : Nat)) ∧ w'.cell? ⟨ba, 0, none⟩ = some (.int .u64 (t : Nat)))
    (first | exact unhide HK _ (Below.refl _ _).drew | exact unhide HK _ (by assumption) | fail "KK")
    (first | (go_at_call 125; refine (unhide K1 _ (And.left (by assumption))).mono ?_; rintro e w1 ⟨rfl, hb1⟩; have hB1 : Below w.heap.size w w1 := Below.trans (And.left (by assumption)) (hb1.mono (Below.size (And.left (by assumption)))); clear hb1) | (go_at_call 45; refine (unhide K2 _ (And.left (by assumption))).mono ?_; rintro e w2 ⟨rfl, hb2⟩; have hB2 : Below w.heap.size w w2 := Below.trans (And.left (by assumption)) (hb2.mono (Below.size (And.left (by assumption)))); clear hb2) | fail "NO ARM")
  go_wp2
  go_ret
  exact ⟨rfl, And.left (by assumption)⟩

/-- Where image's function keeps what it was handed. -/
structure ImAt (w : World) (v : Value) (H : Nat) (xo vo : Option Addr) (n xc m vc t : Nat) : Prop where
  ex : ∃ bx bt bv, v = .func (.func 126) #[] #[.pointer (some ⟨bx, 0, none⟩), .pointer (some ⟨bt, 0, none⟩), .pointer (some ⟨bv, 0, none⟩)] ∧ H ≤ bx ∧ H ≤ bt ∧ H ≤ bv ∧ w.cell? ⟨bx, 0, none⟩ = some (.slice xo n xc) ∧ w.cell? ⟨bt, 0, none⟩ = some (.int .u64 (t : Nat)) ∧ w.cell? ⟨bv, 0, none⟩ = some (.slice vo m vc)

set_option maxRecDepth 20000 in
set_option maxHeartbeats 4000000 in
theorem himage_of (xo vo : Option Addr) (n xc m vc tau d t : Nat) (w : World)
    (C1 : ∀ w', Below w.heap.size w w' → Calls Tryz.prog 124 #[.slice vo m vc, .slice xo n xc] w' fun e w'' => e = .returned (.tuple #[.int .u64 (d : Nat), .int .i64 0]) ∧ Below w'.heap.size w' w'')
    (C2 : ∀ w', Below w.heap.size w w' → Calls Tryz.prog 125 #[.int .u64 tau, .int .u64 d] w' fun e w'' => e = .returned (.int .u64 (t : Nat)) ∧ Below w'.heap.size w' w'') :
    Calls Tryz.prog 94 #[.slice xo n xc, .slice vo m vc, .int .u64 tau] w fun e w' => ∃ v, e = .returned v ∧ ImAt w' v w.heap.size xo vo n xc m vc t ∧ Below w.heap.size w w' := by
  have K1 := hide C1; have K2 := hide C2
  clear C1 C2
  have b1 := below_alloc9 w (.cells #[.slice xo n xc] 22)
  have x1 := new_cell w (.slice xo n xc) 22
  have s1 := size_alloc9 w (.cells #[.slice xo n xc] 22)
  have b2 := below_alloc9 (w.alloc (.cells #[.slice xo n xc] 22)) (.cells #[.slice vo m vc] 22)
  have x2 := new_cell (w.alloc (.cells #[.slice xo n xc] 22)) (.slice vo m vc) 22
  have y1 := cell_keep x1 b2
  rw [s1] at x2
  have HA := hide (show Below w.heap.size w ((w.alloc (.cells #[.slice xo n xc] 22)).alloc (.cells #[.slice vo m vc] 22)) from b1.trans (b2.mono b1.size))
  have HX := hide y1; have HV := hide x2
  clear b1 x1 s1 b2 x2 y1
  go_enter Tryz.func94, Tryz.ntmps94
  go_wp2_with fail
  refine (unhide K1 _ (unhide HA)).mono ?_
  rintro e w1 ⟨rfl, hb1⟩
  replace HX := hide (cell_keep (unhide HX) hb1)
  replace HV := hide (cell_keep (unhide HV) hb1)
  replace HA := hide ((unhide HA).trans (hb1.mono (unhide HA).size))
  clear hb1 K1
  go_wp2_with fail
  refine (unhide K2 _ (unhide HA)).mono ?_
  rintro e w2 ⟨rfl, hb1⟩
  replace HX := hide (cell_keep (unhide HX) hb1)
  replace HV := hide (cell_keep (unhide HV) hb1)
  replace HA := hide ((unhide HA).trans (hb1.mono (unhide HA).size))
  clear hb1 K2
  have b3 := below_alloc9 w2 (.cells #[.int .u64 (t : Nat)] 24)
  have x3 := hide (new_cell w2 (.int .u64 (t : Nat)) 24)
  replace HX := hide (cell_keep (unhide HX) b3)
  replace HV := hide (cell_keep (unhide HV) b3)
  have HS := hide (unhide HA).size
  replace HA := hide ((unhide HA).trans (b3.mono (unhide HA).size))
  clear b3
  go_wp2
  go_ret
  exact ⟨_, rfl, ⟨_, _, _, rfl, Nat.le_refl _, unhide HS, Nat.le_succ _, unhide HX, unhide x3, unhide HV⟩, unhide HA⟩

theorem himage_any (xo vo : Option Addr) (xc vc tau : Nat) (xs vs : List Nat) (w : World) (hX : BitsAt w xo xc (mxL xs)) (hV : BitsAt w vo vc (mxL vs)) (hl : xs.length = vs.length) (h6 : vs.length ≤ 64) (ht : tau < 18446744073709551616) (hT : Tab w) :
    Calls Tryz.prog 94 #[.slice xo xs.length xc, .slice vo vs.length vc, .int .u64 tau] w fun e w' => ∃ v, e = .returned v ∧ ImAt w' v w.heap.size xo vo xs.length xc vs.length vc (mV tau (dtV 0 vs xs)) ∧ Below w.heap.size w w' := by
  refine himage_of xo vo xs.length xc vs.length vc tau (dtV 0 vs xs) _ w (fun w' hb => ?_) (fun w' hb => ?_)
  · have D := vDot_any vo xo vc xc (mxL vs) (mxL xs) w' (hV.below hb) (hX.below hb) (hT.all hb)
    have g : goB (mxL vs) (mxL xs) = true := decide_eq_true ⟨by rw [mxL_len]; exact h6, by rw [mxL_len, mxL_len, hl]⟩
    rw [if_pos g, if_pos g, dtK_dtV (mxL vs) (mxL xs) (mxL vs).length (Nat.le_refl _) (by rw [mxL_len, mxL_len, hl]; exact Nat.le_refl _), toN_mxL, toN_mxL, mxL_len, mxL_len, List.take_of_length_le (Nat.le_refl _), List.take_of_length_le (by rw [hl]; exact Nat.le_refl _)] at D
    exact D
  · refine vmul_any tau (dtV 0 vs xs) w' ht ?_ (hT.all hb)
    have := dtK_lt (mxL vs) (mxL xs) (mxL vs).length
    rwa [dtK_dtV (mxL vs) (mxL xs) (mxL vs).length (Nat.le_refl _) (by rw [mxL_len, mxL_len, hl]; exact Nat.le_refl _), toN_mxL, toN_mxL, mxL_len, List.take_of_length_le (Nat.le_refl _), List.take_of_length_le (by rw [hl]; exact Nat.le_refl _)] at this

/-- What holds in mirrored. -/
structure MiSt (w wr : World) (r c n cap : Nat) (ao : Option Addr) (S : List Nat) : Prop where
  bel : Below w.heap.size w wr
  m : BoxM wr w.heap.size (.int .i64 r) (.int .i64 c) (.slice ao n cap)
  res : BoxM wr (w.heap.size + 1) (.int .i64 0) (.int .i64 0) (.slice none 0 0)
  row : RowB wr (w.heap.size + 1 + 1) S
theorem MiSt.all {w wr w' : World} {r c n cap : Nat} {ao : Option Addr} {S : List Nat} (h : MiSt w wr r c n cap ao S) (hb : Below wr.heap.size wr w') : MiSt w w' r c n cap ao S :=
  ⟨h.bel.trans (hb.mono h.bel.size), h.m.all hb, h.res.all hb, h.row.below hb h.row.lt⟩
theorem MiSt.set {w wr : World} {r c n cap : Nat} {ao : Option Addr} {S : List Nat} (h : MiSt w wr r c n cap ao S) (p x : Nat) : MiSt w (wr.setCell ⟨w.heap.size + 1 + 1, p, none⟩ (.int .u64 (x : Int))) r c n cap ao (S.set p x) :=
  ⟨h.bel.setCell (p := ⟨w.heap.size + 1 + 1, p, none⟩) (by show w.heap.size ≤ w.heap.size + 1 + 1; omega) _, h.m.other (p := ⟨w.heap.size + 1 + 1, p, none⟩) (by show w.heap.size ≠ w.heap.size + 1 + 1; omega) _, h.res.other (p := ⟨w.heap.size + 1 + 1, p, none⟩) (by show w.heap.size + 1 ≠ w.heap.size + 1 + 1; omega) _, h.row.set p x⟩
theorem MiSt.start (w : World) (r c n cap : Nat) (ao : Option Addr) :
    MiSt w (((w.alloc (.cells #[.int .i64 r, .int .i64 c, .slice ao n cap] 36)).alloc (.cells #[.int .i64 0, .int .i64 0, .slice none 0 0] 36)).alloc (.cells (madeCells #[.int .u64 0] n) 24)) r c n cap ao (List.replicate n 0) := by
  have b0 := below_alloc9 w (.cells #[.int .i64 r, .int .i64 c, .slice ao n cap] 36)
  have s0 := size_alloc9 w (.cells #[.int .i64 r, .int .i64 c, .slice ao n cap] 36)
  have x0 := BoxM.new w (.int .i64 r) (.int .i64 c) (.slice ao n cap)
  generalize w.alloc (.cells #[.int .i64 r, .int .i64 c, .slice ao n cap] 36) = w0 at *
  have b3 := below_alloc9 w0 (.cells #[.int .i64 0, .int .i64 0, .slice none 0 0] 36)
  have z3 := size_alloc9 w0 (.cells #[.int .i64 0, .int .i64 0, .slice none 0 0] 36)
  have x3 := BoxM.new w0 (.int .i64 0) (.int .i64 0) (.slice none 0 0)
  generalize w0.alloc (.cells #[.int .i64 0, .int .i64 0, .slice none 0 0] 36) = w3 at *
  have b4 := below_alloc9 w3 (.cells (madeCells #[.int .u64 0] n) 24)
  have x4 := RowB.made w3 n
  rw [s0] at x3 z3
  rw [z3] at x4
  have c3 := b0.trans (b3.mono b0.size)
  exact ⟨c3.trans (b4.mono c3.size), (x0.all b3).all b4, x3.all b4, x4⟩
theorem MiSt.copied {w wr w' : World} {r c n cap : Nat} {ao : Option Addr} {S T : List Nat} (h : MiSt w wr r c n cap ao S) (hb : Below (w.heap.size + 1 + 1) wr w') (hr : RowB w' (w.heap.size + 1 + 1) T) : MiSt w w' r c n cap ao T :=
  ⟨h.bel.trans (hb.mono (by omega)), h.m.below hb (by omega), h.res.below hb (by omega), hr⟩

/-- What holds while a column is put back: the numbers X of it, and the cells of image's function. -/
structure MjSt (w wr : World) (r c n cap : Nat) (ao : Option Addr) (S : List Nat) (bx bt bv : Nat) (po vo : Option Addr) (L pc vc t : Nat) (X : List Int) : Prop where
  st : MiSt w wr r c n cap ao S
  lx : w.heap.size + 1 + 1 + 1 ≤ bx
  lt : w.heap.size + 1 + 1 + 1 ≤ bt
  lv : w.heap.size + 1 + 1 + 1 ≤ bv
  cx : wr.cell? ⟨bx, 0, none⟩ = some (.slice po L pc)
  ct : wr.cell? ⟨bt, 0, none⟩ = some (.int .u64 (t : Nat))
  cv : wr.cell? ⟨bv, 0, none⟩ = some (.slice vo L vc)
  x : BitsAt wr po pc X
  nx : NewB (w.heap.size + 1 + 1 + 1) po X
theorem MjSt.all {w wr w' : World} {r c n cap : Nat} {ao : Option Addr} {S : List Nat} {bx bt bv : Nat} {po vo : Option Addr} {L pc vc t : Nat} {X : List Int} (h : MjSt w wr r c n cap ao S bx bt bv po vo L pc vc t X) (hb : Below wr.heap.size wr w') : MjSt w w' r c n cap ao S bx bt bv po vo L pc vc t X :=
  ⟨h.st.all hb, h.lx, h.lt, h.lv, cell_keep h.cx hb, cell_keep h.ct hb, cell_keep h.cv hb, h.x.below hb, h.nx⟩
theorem MjSt.set {w wr : World} {r c n cap : Nat} {ao : Option Addr} {S : List Nat} {bx bt bv : Nat} {po vo : Option Addr} {L pc vc t : Nat} {X : List Int} (h : MjSt w wr r c n cap ao S bx bt bv po vo L pc vc t X) (p x : Nat) : MjSt w (wr.setCell ⟨w.heap.size + 1 + 1, p, none⟩ (.int .u64 (x : Int))) r c n cap ao (S.set p x) bx bt bv po vo L pc vc t X := by
  have l1 := h.lx; have l2 := h.lt; have l3 := h.lv
  refine ⟨h.st.set p x, l1, l2, l3, ?_, ?_, ?_, h.x.far h.nx (by omega) p _, h.nx⟩
  · rw [cell_setCell_other _ _ _ _ (show bx ≠ w.heap.size + 1 + 1 by omega)]; exact h.cx
  · rw [cell_setCell_other _ _ _ _ (show bt ≠ w.heap.size + 1 + 1 by omega)]; exact h.ct
  · rw [cell_setCell_other _ _ _ _ (show bv ≠ w.heap.size + 1 + 1 by omega)]; exact h.cv

end Go.Proofs.YtimejpbmehegeaaGreatDoor

/- Package house: mirrored. -/
namespace Go.Proofs.YtimejpbmehegeaaGreatDoor
open Go.RowKit
attribute [local go_sem ↓] Go.wp_at_zero Go.wp_at_succ

set_option maxRecDepth 20000 in
set_option maxHeartbeats 8000000 in
theorem mirrored_of (r c n cap i k L vc tau : Nat) (ao vo : Option Addr) (T : Nat → Nat → List Nat) (X : Nat → List Int) (P U : Nat → Nat → Nat) (t : Nat → Nat) (w : World) (h36 : n ≤ 36) (h6 : c ≤ 6) (hr6 : r ≤ 6) (hil : i + L ≤ r) (hk : k ≤ c)
    (hS : BitsAt w ao cap (mxL (T k 0))) (lT : ∀ d j, (T d j).length = n) (hnext : ∀ d, T d L = T (d + 1) 0)
    (hP : ∀ d j, k ≤ d → d < c → j < L → P d j < n ∧ (i + j) * c + d = P d j ∧ (T d j).set (P d j) (U d j) = T d (j + 1))
    (C1 : ∀ w' d, Below w.heap.size w w' → k ≤ d → d < c → Calls Tryz.prog 93 #[.agg #[.int .i64 r, .int .i64 c, .slice ao n cap], .int .i64 i, .int .i64 (d : Nat), .int .i64 L, .int .i64 1] w' fun e w'' => ∃ po pc, e = .returned (.tuple #[.agg #[.int .i64 L, .int .i64 1, .slice po L pc], .int .i64 0]) ∧ NewB w'.heap.size po (X d) ∧ BitsAt w'' po pc (X d) ∧ Below w'.heap.size w' w'')
    (C2 : ∀ w' d po pc, Below w.heap.size w w' → k ≤ d → d < c → BitsAt w' po pc (X d) → Calls Tryz.prog 94 #[.slice po L pc, .slice vo L vc, .int .u64 tau] w' fun e w'' => ∃ v, e = .returned v ∧ ImAt w'' v w'.heap.size po vo L pc L vc (t d) ∧ Below w'.heap.size w' w'')
    (C3 : ∀ w' d j po pc bx bt bv, Below w.heap.size w w' → k ≤ d → d < c → j < L → BitsAt w' po pc (X d) → w'.cell? ⟨bx, 0, none⟩ = some (.slice po L pc) → w'.cell? ⟨bt, 0, none⟩ = some (.int .u64 (t d : Nat)) → w'.cell? ⟨bv, 0, none⟩ = some (.slice vo L vc) → Calls Tryz.prog 126 #[.int .i64 (j : Nat), .pointer (some ⟨bx, 0, none⟩), .pointer (some ⟨bt, 0, none⟩), .pointer (some ⟨bv, 0, none⟩)] w' fun e w'' => e = .returned (.int .u64 (U d j : Nat)) ∧ Below w'.heap.size w' w'') :
    Calls Tryz.prog 53 #[.agg #[.int .i64 r, .int .i64 c, .slice ao n cap], .int .i64 i, .int .i64 k, .slice vo L vc, .int .u64 tau] w fun e w' => ∃ g, e = .returned (.agg #[.int .i64 r, .int .i64 c, .slice (some ⟨g, 0, none⟩) n n]) ∧ w.heap.size ≤ g ∧ RowB w' g (T c 0) ∧ Below w.heap.size w w' := by
  have ST := hide (MiSt.start w r c n cap ao)
  have hmk := run_make_row' (P := Tryz.prog) 22 24 (.int .u64 0) 8 Tryz.underlying22 (by kernel_rfl) rfl .i64 .i64 n (by omega) (by omega)
  have HP := hide hP; have K1 := hide C1; have K2 := hide C2; have K3 := hide C3; have LT := hide lT; have HX := hide hnext
  obtain ⟨w5, hcp, hr5, hb5⟩ := copy_run _ (w.heap.size + 1 + 1) n cap ao (T k 0) (unhide ST).row (hS.below (unhide ST).bel) (lT k 0)
  have ST5 := hide ((unhide ST).copied hb5 hr5)
  clear hP C1 C2 C3 lT hS hr5 hb5 hnext
  have y0 := (unhide ST).m.c0; have y1 := (unhide ST).m.c1; have y2 := (unhide ST).m.c2
  go_enter Tryz.func53, Tryz.ntmps53
  go_wp2_with fail
  clear hmk hcp y0 y1 y2 ST
  go_loopw [12] (fun a wr => ∃ d : Nat, k ≤ d ∧ d ≤ c ∧ a = .int .i64 d ∧ Hid (MiSt w wr r c n cap ao (T d 0))) (fun a _ => c - (intOf a).toNat)
  case atStart => exact ⟨k, Nat.le_refl _, hk, rfl, ST5⟩
  case round =>
    clear ST5
    obtain ⟨d, hkd, hdc, rfl, hS⟩ := hrel
    by_cases hlt : d < c
    · have hdI : (d : Int) < (c : Int) := by omega
      have y0 := (unhide hS).m.c0; have y1 := (unhide hS).m.c1; have y2 := (unhide hS).m.c2
      go_wp2_with fail
      clear y0 y1 y2
      refine (unhide K1 _ d (unhide hS).bel hkd hlt).mono ?_
      rintro e w2 ⟨po, pc, rfl, hn, hx, hb⟩
      have S2 := hide ((unhide hS).all hb)
      have HN := hide (NewB.least hn (show w.heap.size + 1 + 1 + 1 ≤ wr.heap.size from (unhide hS).row.lt))
      have HB := hide hx
      clear hn hx hb hS
      go_wp2_with fail
      have ba := below_alloc9 w2 (.cells #[.int .i64 L, .int .i64 1, .slice po L pc] 36)
      replace S2 := hide ((unhide S2).all ba)
      replace HB := hide ((unhide HB).below ba)
      clear ba
      have HL := hide (show w.heap.size + 1 + 1 + 1 ≤ (w2.alloc (.cells #[.int .i64 L, .int .i64 1, .slice po L pc] 36)).heap.size from (unhide S2).row.lt)
      refine (unhide K2 _ d po pc (unhide S2).bel hkd hlt (unhide HB)).mono ?_
      rintro e w3 ⟨v, rfl, hv, hb⟩
      obtain ⟨bx, bt, bv, rfl, l1, l2, l3, c1, c2, c3⟩ := hv.ex
      have S3 := hide (show MjSt w w3 r c n cap ao (T d 0) bx bt bv po vo L pc vc (t d) (X d) from ⟨(unhide S2).all hb, Nat.le_trans (unhide HL) l1, Nat.le_trans (unhide HL) l2, Nat.le_trans (unhide HL) l3, c1, c2, c3, (unhide HB).below hb, unhide HN⟩)
      clear hv hb l1 l2 l3 c1 c2 c3 S2 HN HB HL
      have KC := hide (fun w' j hb hj hx h1 h2 h3 => unhide K3 w' d j po pc bx bt bv hb hkd hlt hj hx h1 h2 h3)
      have HPD := hide (fun j hj => unhide HP d j hkd hlt hj)
      have LTD := hide (unhide LT d)
      have HXD := hide (unhide HX d)
      generalize hTD : T d = TD at *
      generalize hUD : U d = UD at *
      generalize hPD : P d = PD at *
      generalize t d = td at *
      generalize X d = XD at *
      go_wp2_with fail
      go_loopw [48] (fun a wr => ∃ j : Nat, j ≤ L ∧ a = .int .i64 j ∧ Hid (MjSt w wr r c n cap ao (TD j) bx bt bv po vo L pc vc td XD)) (fun a _ => L - (intOf a).toNat)
      case atStart => exact ⟨0, Nat.zero_le _, rfl, S3⟩
      case round =>
        clear S3
        obtain ⟨j, hj, rfl, hS⟩ := hrel
        by_cases hjl : j < L
        · have hjI : (j : Int) < (L : Int) := by omega
          obtain ⟨hp, hpe, hset⟩ := unhide HPD j hjl
          have KJ := hide (fun w' hb hx h1 h2 h3 => unhide KC w' j hb hjl hx h1 h2 h3)
          have LL := hide (unhide LTD j); have HN := hide hset
          clear hset
          obtain ⟨a, ha⟩ : ∃ a, i + j = a := ⟨_, rfl⟩
          rw [ha] at hpe
          obtain ⟨q, hq⟩ : ∃ q, a * c = q := ⟨_, rfl⟩
          rw [hq] at hpe
          have e1 : IntKind.i64.wrap ((i : Int) + (j : Int)) = (a : Int) := (wrap_in _ (by omega)).trans (by omega)
          have e2 : IntKind.i64.wrap ((a : Int) * (c : Int)) = (q : Int) := by
            rw [cast_mul10 a c, hq]
            exact wrap_in _ (by omega)
          have e3 : IntKind.i64.wrap ((q : Int) + (d : Int)) = (PD j : Int) := (wrap_in _ (by omega)).trans (by omega)
          have e4 : (i : Int) + (j : Int) = (a : Int) := by omega
          have e5 : (a : Int) * (c : Int) = (q : Int) := by rw [cast_mul10 a c, hq]
          have e6 : (q : Int) + (d : Int) = (PD j : Int) := by omega
          have w1 : IntKind.i64.wrap (a : Int) = (a : Int) := wrap_in _ (by omega)
          have w2 : IntKind.i64.wrap (q : Int) = (q : Int) := wrap_in _ (by omega)
          have w3 : IntKind.i64.wrap (PD j : Int) = (PD j : Int) := wrap_in _ (by omega)
          generalize hTT : TD j = TT at *
          generalize hTN : TD (j + 1) = TN at *
          generalize PD j = p at *
          generalize UD j = u at *
          have hpI : (p : Int) < (n : Int) := by omega
          clear hq hpe ha
          go_wp2_with fail
          refine at_world (fun W => MjSt w W r c n cap ao TT bx bt bv po vo L pc vc td XD) (unhide hS) ?_
          clear hS
          intro W st
          have ST := hide (st.all ((Below.refl W.heap.size W).drew))
          clear st
          have y1 := (unhide ST).st.m.c1
          go_region_with (first
            | (go_at_call 126; refine (unhide KJ _ (unhide ST).st.bel (unhide ST).x (unhide ST).cx (unhide ST).ct (unhide ST).cv).mono ?_; rintro e w8 ⟨rfl, hb⟩; clear y1; have S8 := (unhide ST).all hb; have y1 := S8.st.m.c1; have d1 := S8.st.row.cell p (by rw [unhide LL]; exact hp); have f1' := S8.st.row.free p; have P9 := hide (S8.set p u); clear S8 hb ST KJ)
            | fail "NO ARM")
          all_goals
            clear d1 f1' y1
            go_wp2_with fail
            go_round
            case rel => exact ⟨j + 1, by omega, by go_num, by rw [hTN, ← unhide HN]; exact P9⟩
            case measure => simp [intOf]; omega
        · have hjj : j = L := by omega
          subst hjj
          have S4 := hide (unhide hS).st
          rw [unhide HXD] at S4
          clear hS
          go_wp2_with fail
          go_round
          case rel => exact ⟨d + 1, by omega, by omega, by go_num, S4⟩
          case measure => simp [intOf]; omega
    · have hdd : d = c := by omega
      subst hdd
      obtain ⟨h6, h1, h4, h5⟩ := unhide hS
      have y0 := h1.c0; have y1 := h1.c1; have y2 := h1.c2
      have r0 := h4.c0; have r1 := h4.c1; have r2 := h4.c2
      have f0 := h4.free 0; have f1 := h4.free 1; have f2 := h4.free 2
      have XP := h4.put (.int .i64 r) (.int .i64 d) (.slice (some ⟨w.heap.size + 1 + 1, 0, none⟩) n n)
      have z0 := XP.c0; have z1 := XP.c1; have z2 := XP.c2
      have RW := hide (h5.three (g := w.heap.size + 1) (by omega) (.int .i64 r) (.int .i64 d) (.slice (some ⟨w.heap.size + 1 + 1, 0, none⟩) n n))
      have BP := hide (below_putM h6 (b := w.heap.size + 1) (by omega) (.int .i64 r) (.int .i64 d) (.slice (some ⟨w.heap.size + 1 + 1, 0, none⟩) n n))
      clear XP h1 h4 h5 h6 hS
      go_wp2_with fail
      exact bodyPost_ret (v := .agg #[.int .i64 r, .int .i64 d, .slice (some ⟨w.heap.size + 1 + 1, 0, none⟩) n n]) (by simp [results, Tryz.results53, go_sem, z0, z1, z2]) rfl ⟨_, rfl, by omega, unhide RW, unhide BP⟩

end Go.Proofs.YtimejpbmehegeaaGreatDoor

/- The reference of layer 13: In; a column from a row on. -/
namespace Go.Proofs.YtimejpbmehegeaaGreatDoor
open Go.RowKit
attribute [local go_sem ↓] Go.wp_at_zero Go.wp_at_succ

set_option maxRecDepth 20000 in
set_option maxHeartbeats 4000000 in
theorem rcolF_any (r c cap k f : Nat) (ao : Option Addr) (S : List Nat) (w : World) (h : Mx w ao cap r c S) (hk : k < c) (hf : f ≤ r) :
    Calls Tryz.prog 54 #[.agg #[.int .i64 r, .int .i64 c, .slice ao S.length cap], .int .i64 k, .int .i64 f] w fun e w' => ∃ bo d, e = .returned (.slice bo (r - f) d) ∧ BitsAt w' bo d (mxL (colL c S f (r - f) k)) ∧ Below w.heap.size w w' := by
  have HH := hide h
  have r6 := h.2.2.1
  have s0 := size_alloc9 w (.cells #[.int .i64 r, .int .i64 c, .slice ao S.length cap] 36)
  have b0 := below_alloc9 w (.cells #[.int .i64 r, .int .i64 c, .slice ao S.length cap] 36)
  have X0 := BoxM.new w (.int .i64 r) (.int .i64 c) (.slice ao S.length cap)
  have b1 := below_alloc9 (w.alloc (.cells #[.int .i64 r, .int .i64 c, .slice ao S.length cap] 36)) (.cells #[] 24)
  have O0 := OwnB.nil (w.alloc (.cells #[.int .i64 r, .int .i64 c, .slice ao S.length cap] 36)) (w.heap.size + 1) (by rw [s0]; omega)
  rw [s0] at O0
  have HO := hide O0; have HX := hide (X0.all b1); have HB := hide (b0.trans (b1.mono b0.size))
  obtain ⟨l, hl⟩ : ∃ l, S.length = l := ⟨_, rfl⟩
  rw [hl] at HX HB HO
  rw [hl]
  have HLL := hide hl
  clear h s0 b0 X0 b1 O0 hl
  go_enter Tryz.func54, Tryz.ntmps54
  go_wp2_with fail
  go_loopw [7, 8] (fun v i wr => ∃ j : Nat, f ≤ j ∧ j ≤ r ∧ i = .int .i64 j ∧ Hid (OwnB (w.heap.size + 1) wr v (fsL (fun t => elM c S (f + t) k) (j - f))) ∧ Hid (BoxM wr w.heap.size (.int .i64 r) (.int .i64 c) (.slice ao l cap)) ∧ Hid (Below w.heap.size w wr)) (fun _ i _ => r - (intOf i).toNat)
  case atStart => exact ⟨f, Nat.le_refl _, hf, rfl, by rw [Nat.sub_self]; exact HO, HX, HB⟩
  case round =>
    clear HO HX HB
    obtain ⟨j, hfj, hj, rfl, hO, hX, hB⟩ := hrel
    have t0 := (unhide hX).c0; have t1 := (unhide hX).c1; have t2 := (unhide hX).c2
    by_cases hlt : j < r
    · have hjI : (j : Int) < (r : Int) := by omega
      have C := hide (fun w' (m : Mx w' ao cap r c S) => rat_any r c cap j k ao S w' m hlt hk)
      rw [unhide HLL] at C
      have HM := hide ((unhide HH).below hB.out)
      have ho := hide ((unhide HH).el_lt j k)
      have hlen := hide (show (fsL (fun t => elM c S (f + t) k) (j - f)).length ≤ 1000000 from by rw [fsL_len]; omega)
      have eS := hide (show fsL (fun t => elM c S (f + t) k) (j + 1 - f) = fsL (fun t => elM c S (f + t) k) (j - f) ++ [elM c S j k] from by rw [show j + 1 - f = j - f + 1 by omega, fsL_succ, show f + (j - f) = j by omega])
      generalize elM c S j k = o at *
      go_wp2_with fail
      refine (unhide C _ (unhide HM)).mono ?_
      rintro e w2 ⟨rfl, hb2⟩
      have own2 := (unhide hO).below hb2
      have box2 := (unhide hX).all hb2
      have B2 := hB.out.trans (hb2.mono hB.out.size)
      obtain ⟨v3, w3, run3, own3, bel3, _, _⟩ := own2.push o (unhide ho) (unhide hlen) (by have := box2.lt; omega) 22
      have RUN := hide run3
      have O3 := hide (show OwnB (w.heap.size + 1) w3 v3 (fsL (fun t => elM c S (f + t) k) (j + 1 - f)) from by rw [unhide eS]; exact own3)
      have X3 := hide (box2.below bel3 (by omega))
      have B3 := hide (B2.trans (bel3.mono (by omega)))
      clear hb2 C hO hX hB own2 box2 B2 run3 own3 bel3 ho hlen eS HM t0 t1 t2
      go_wp2_with (at_builtin; refine wpList_append_ran _ rfl _ _ 22 rfl _ _ _ _ rfl rfl (unhide RUN) ?_; clear RUN)
      go_round
      case rel => exact ⟨j + 1, by omega, by omega, by go_num, O3, X3, B3⟩
      case measure => simp [intOf]; omega
    · have hjj : r = j := by omega
      subst hjj
      obtain ⟨b1, d1, e1, q1⟩ := (unhide hO).bits
      rw [fsL_len] at e1
      subst e1
      have Q1 := hide q1
      clear q1 hO
      go_wp2_with fail
      go_ret
      exact ⟨b1, d1, rfl, unhide Q1, hB.out⟩

/-- Does a part lie in a matrix? -/
def inH (r c : Nat) (i k n : Int) : Bool := decide (0 ≤ i ∧ n ≤ (r : Int) ∧ i ≤ (r : Int) - n ∧ 0 ≤ k ∧ k ≤ (c : Int))
set_option maxRecDepth 20000 in
set_option maxHeartbeats 2000000 in
theorem rin13_any (r c l cap : Nat) (ao : Option Addr) (i k n : Int) (w : World) (hr : r ≤ 6) (hc : c ≤ 6) (hn : 0 ≤ n) :
    Calls Tryz.prog 16 #[.agg #[.int .i64 r, .int .i64 c, .slice ao l cap], .int .i64 i, .int .i64 k, .int .i64 n] w fun e w' => e = .returned (.bool (inH r c i k n)) ∧ Below w.heap.size w w' := by
  have hb0 := hide (below_alloc9 w (.cells #[.int .i64 r, .int .i64 c, .slice ao l cap] 36))
  have no : ¬ (0 ≤ i ∧ n ≤ (r : Int) ∧ i ≤ (r : Int) - n ∧ 0 ≤ k ∧ k ≤ (c : Int)) → inH r c i k n = false := fun h => decide_eq_false h
  have yes : (0 ≤ i ∧ n ≤ (r : Int) ∧ i ≤ (r : Int) - n ∧ 0 ≤ k ∧ k ≤ (c : Int)) → inH r c i k n = true := fun h => decide_eq_true h
  rcases (show i < 0 ∨ (0 ≤ i ∧ (r : Int) < n) ∨ (0 ≤ i ∧ n ≤ (r : Int) ∧ (r : Int) - n < i) ∨ (0 ≤ i ∧ n ≤ (r : Int) ∧ i ≤ (r : Int) - n ∧ k < 0) ∨ (0 ≤ i ∧ n ≤ (r : Int) ∧ i ≤ (r : Int) - n ∧ 0 ≤ k ∧ (c : Int) < k) ∨ (0 ≤ i ∧ n ≤ (r : Int) ∧ i ≤ (r : Int) - n ∧ 0 ≤ k ∧ k ≤ (c : Int)) by omega) with h1 | ⟨h1, h2⟩ | ⟨h1, h2, h3⟩ | ⟨h1, h2, h3, h4⟩ | ⟨h1, h2, h3, h4, h5⟩ | ⟨h1, h2, h3, h4, h5⟩
  all_goals
    first | rw [no (by omega)] | rw [yes ⟨h1, h2, h3, h4, h5⟩]
    clear no yes
    go_enter Tryz.func16, Tryz.ntmps16
    go_wp2
    go_ret
    exact ⟨by first | rfl | (simp; omega), unhide hb0⟩

end Go.Proofs.YtimejpbmehegeaaGreatDoor

/- The reference of layer 13: Apply. -/
namespace Go.Proofs.YtimejpbmehegeaaGreatDoor
open Go.RowKit
attribute [local go_sem ↓] Go.wp_at_zero Go.wp_at_succ

/-- A number's cell behind stores into a matrix's box. -/
theorem cell_putM {w : World} {a : Addr} {z : Int} {b : Nat} {x y : Int} {o : Option Addr} {n d : Nat} (h : w.cell? a = some (.int .u64 z)) (hx : BoxM w b (.int .i64 x) (.int .i64 y) (.slice o n d)) (u u' u'' : Value) : (((w.setCell ⟨b, 0, none⟩ u).setCell ⟨b, 1, none⟩ u').setCell ⟨b, 2, none⟩ u'').cell? a = some (.int .u64 z) := by
  obtain ⟨g, k, sp⟩ := a
  have e : sp = none := World.cell?_spot h
  subst e
  have hne : b ≠ g := hx.away h
  rw [cell_setCell_other _ _ _ _ (show g ≠ b from fun e => hne e.symm), cell_setCell_other _ _ _ _ (show g ≠ b from fun e => hne e.symm), cell_setCell_other _ _ _ _ (show g ≠ b from fun e => hne e.symm)]
  exact h

set_option maxRecDepth 20000 in
set_option maxHeartbeats 16000000 in
theorem rapply13_of (r c n cap i k m tau : Nat) (ao vo : Option Addr) (vc : Nat) (TJ : Nat → Nat → List Nat) (CL : Nat → List Nat) (V : Nat → Nat) (w0 t : Nat → Nat) (p u : Nat → Nat → Nat) (w : World) (hc : c ≤ 6) (hr : r ≤ 6) (hkc : k ≤ c) (him : i + m ≤ r)
    (h0 : BitsAt w ao cap (mxL (TJ k 0))) (lJ : ∀ d j, (TJ d j).length = n) (hN : ∀ d, TJ d m = TJ (d + 1) 0) (hCL : ∀ d, (CL d).length = r - i)
    (HV : ∀ w', Below w.heap.size w w' → ∀ j, j < m → ∃ b off, vo = some ⟨b, off, none⟩ ∧ w'.cell? ⟨b, off + j, none⟩ = some (.int .u64 (V j : Nat)))
    (A1 : ∀ w' d, Below w.heap.size w w' → d < c → Calls Tryz.prog 54 #[.agg #[.int .i64 r, .int .i64 c, .slice ao n cap], .int .i64 (d : Nat), .int .i64 i] w' fun e w'' => ∃ bo dd, e = .returned (.slice bo (r - i) dd) ∧ BitsAt w'' bo dd (mxL (CL d)) ∧ Below w'.heap.size w' w'')
    (A2 : ∀ w' d bo dd, Below w.heap.size w w' → d < c → BitsAt w' bo dd (mxL (CL d)) → Calls Tryz.prog 56 #[.slice vo m vc, .slice bo m dd] w' fun e w'' => e = .returned (.int .u64 (w0 d : Nat)) ∧ Below w'.heap.size w' w'')
    (A3 : ∀ w' d, d < c → Calls Tryz.prog 55 #[.int .u64 tau, .int .u64 (w0 d : Nat)] w' fun e w'' => e = .returned (.int .u64 (t d : Nat)) ∧ Below w'.heap.size w' w'')
    (A4 : ∀ w' d j, d < c → j < m → Calls Tryz.prog 55 #[.int .u64 (t d : Nat), .int .u64 (V j : Nat)] w' fun e w'' => e = .returned (.int .u64 (p d j : Nat)) ∧ Below w'.heap.size w' w'')
    (A5 : ∀ w' d j, d < c → j < m → Calls Tryz.prog 50 #[.int .u64 ((CL d).getD j 0 : Nat), .int .u64 (p d j : Nat)] w' fun e w'' => e = .returned (.int .u64 (u d j : Nat)) ∧ Below w'.heap.size w' w'')
    (A6 : ∀ w' d j qo qc, k ≤ d → d < c → j < m → BitsAt w' qo qc (mxL (TJ d j)) → Calls Tryz.prog 33 #[.agg #[.int .i64 r, .int .i64 c, .slice qo n qc], .int .i64 ((i + j : Nat) : Int), .int .i64 (d : Nat), .int .u64 (u d j : Nat)] w' fun e w'' => ∃ v, e = .returned v ∧ (∃ po pc, v = .agg #[.int .i64 r, .int .i64 c, .slice po n pc] ∧ BitsAt w'' po pc (mxL (TJ d (j + 1)))) ∧ Below w'.heap.size w' w'') :
    Calls Tryz.prog 18 #[.agg #[.int .i64 r, .int .i64 c, .slice ao n cap], .int .i64 i, .int .i64 k, .slice vo m vc, .int .u64 tau] w fun e w' => ∃ po pc, e = .returned (.agg #[.int .i64 r, .int .i64 c, .slice po n pc]) ∧ BitsAt w' po pc (mxL (TJ c 0)) ∧ Below w.heap.size w w' := by
  have ST := hide (RoSt.start w r c n cap ao (TJ k 0) h0 (lJ k 0))
  have KV := hide HV; have K1 := hide A1; have K2 := hide A2; have K3 := hide A3; have K4 := hide A4; have K5 := hide A5; have K6 := hide A6; have LJ := hide lJ; have NX := hide hN; have LC := hide hCL
  clear HV A1 A2 A3 A4 A5 A6 lJ h0 hN hCL
  have y0 := (unhide ST).1.c0; have y1 := (unhide ST).1.c1; have y2 := (unhide ST).1.c2
  go_enter Tryz.func18, Tryz.ntmps18
  go_wp2_with fail
  clear y0 y1 y2
  go_loopw [12] (fun a wr => ∃ (d : Nat) (po : Option Addr) (pc : Nat), k ≤ d ∧ d ≤ c ∧ a = .int .i64 d ∧ Hid (RoSt w wr r c n cap ao (TJ d 0) po pc)) (fun a _ => c - (intOf a).toNat)
  case atStart => exact ⟨k, ao, cap, Nat.le_refl _, hkc, rfl, ST⟩
  case round =>
    clear ST
    obtain ⟨d, po, pc, hkd, hd, rfl, hS⟩ := hrel
    have y0 := (unhide hS).1.c0; have y1 := (unhide hS).1.c1; have y2 := (unhide hS).1.c2
    by_cases hlt : d < c
    · have hdI : (d : Int) < (c : Int) := by omega
      have W1 := hide (fun w' h => unhide K1 w' d h hlt); have W2 := hide (fun w' bo dd h hb => unhide K2 w' d bo dd h hlt hb); have W3 := hide (fun w' => unhide K3 w' d hlt); have W4 := hide (fun w' j hj => unhide K4 w' d j hlt hj); have W5 := hide (fun w' j hj => unhide K5 w' d j hlt hj); have W6 := hide (fun w' j qo qc hj hb => unhide K6 w' d j qo qc hkd hlt hj hb); have WN := hide (unhide NX d); have WL := hide (fun j => unhide LJ d j); have WC := hide (unhide LC d)
      generalize hTN : TJ (d + 1) 0 = TN at *
      generalize hTd : TJ d = Td at *
      generalize CL d = Cd at *
      generalize p d = pd at *
      generalize u d = ud at *
      generalize t d = td at *
      generalize w0 d = wd at *
      clear K1 K2 K3 K4 K5 K6 NX
      go_wp2_with fail
      refine (unhide W1 _ (unhide hS).2.2.2.2.2).mono ?_
      rintro e w1 ⟨bo, dd, rfl, bc, hb⟩
      have hmd : (m : Int) ≤ (dd : Int) := by have := bc.1; rw [mxL_len, unhide WC] at this; omega
      replace hS := hide ((unhide hS).all hb)
      have BC := hide bc
      clear hb bc y0 y1 y2 W1
      go_wp2_with fail
      refine (unhide W2 _ _ _ (unhide hS).2.2.2.2.2 (unhide BC)).mono ?_
      rintro e w2 ⟨rfl, hb⟩
      replace hS := hide ((unhide hS).all hb)
      replace BC := hide ((unhide BC).below hb)
      clear hb W2
      go_wp2_with fail
      refine (unhide W3 _).mono ?_
      rintro e w3 ⟨rfl, hb⟩
      replace hS := hide ((unhide hS).all hb)
      replace BC := hide ((unhide BC).below hb)
      clear hb W3
      go_wp2_with fail
      go_loopw [15] (fun a wr => ∃ (j : Nat) (po : Option Addr) (pc : Nat), j ≤ m ∧ a = .int .i64 j ∧ Hid (RoSt w wr r c n cap ao (Td j) po pc) ∧ Hid (BitsAt wr bo dd (mxL Cd))) (fun a _ => m - (intOf a).toNat)
      case atStart => exact ⟨0, po, pc, Nat.zero_le _, rfl, hS, BC⟩
      case round =>
        clear hS BC
        obtain ⟨j, qo, qc, hj, rfl, hS, BC⟩ := hrel
        by_cases hjm : j < m
        · have hjI : (j : Int) < (m : Int) := by omega
          have hjr : (j : Int) < (r - i : Nat) := by omega
          have hij : (i : Int) + (j : Int) = ((i + j : Nat) : Int) := by omega
          obtain ⟨b1, o1, e1, x1⟩ := unhide KV _ (unhide hS).2.2.2.2.2 j hjm
          obtain ⟨b2, o2, e2, _, hc2⟩ := (unhide BC).ne (by rw [mxL_len, unhide WC]; omega)
          subst e1 e2
          have x2 := hc2 j (by rw [mxL_len, unhide WC]; omega)
          rw [mxL_at] at x2
          have V4 := hide (fun w' => unhide W4 w' j hjm); have V5 := hide (fun w' => unhide W5 w' j hjm); have V6 := hide (fun w' qo qc hb => unhide W6 w' j qo qc hjm hb); have VL := hide (unhide WL (j + 1))
          have hwij : IntKind.i64.wrap ((i + j : Nat) : Int) = ((i + j : Nat) : Int) := wrap_in _ (by omega)
          generalize i + j = ij at *
          generalize V j = vj at *
          generalize Cd.getD j 0 = cj at *
          generalize pd j = pj at *
          generalize ud j = uj at *
          go_wp2_with fail
          refine at_world (fun W => RoSt w W r c n cap ao (Td j) qo qc ∧ W.cell? ⟨b1, o1 + j, none⟩ = some (.int .u64 (vj : Nat)) ∧ W.cell? ⟨b2, o2 + j, none⟩ = some (.int .u64 (cj : Nat)) ∧ BitsAt W (some ⟨b2, o2, none⟩) dd (mxL Cd)) ⟨unhide hS, x1, x2, unhide BC⟩ ?_
          clear hS BC x1 x2 hc2
          rintro W0 ⟨s0, x1', x2', bc'⟩
          have SS := hide (show RoSt w W0.drew r c n cap ao (Td j) qo qc ∧ W0.drew.cell? ⟨b1, o1 + j, none⟩ = some (.int .u64 (vj : Nat)) ∧ W0.drew.cell? ⟨b2, o2 + j, none⟩ = some (.int .u64 (cj : Nat)) ∧ BitsAt W0.drew (some ⟨b2, o2, none⟩) dd (mxL Cd) from ⟨s0.all ((Below.refl W0.heap.size W0).drew), x1', x2', bc'.below ((Below.refl W0.heap.size W0).drew)⟩)
          clear s0 x1' x2' bc' KV W4 W5 W6 WN WL WC LC LJ hTN hTd
          have y0 := (unhide SS).1.2.2.1.c0; have y1 := (unhide SS).1.2.2.1.c1; have y2 := (unhide SS).1.2.2.1.c2; have x1 := (unhide SS).2.1; have x2 := (unhide SS).2.2.1
          refine wp_region_held_drew (S := (fun w' => w'.cell? ⟨b1, o1 + j, none⟩ = some (.int .u64 (vj : Nat)) ∧ w'.cell? ⟨b2, o2 + j, none⟩ = some (.int .u64 (cj : Nat)))) (by kernel_rfl) ?_ (fun hHeld => ?_)
          · exact ⟨(unhide SS).2.1, (unhide SS).2.2.1⟩
          refine wpAnyH_take (i := 1) (oi := { dst := some 43, op := Op.move (Operand.tmp 1), type := 3, pos := "ref.go:72", after := #[], guard := none }) (v := (Value.int .i64 (i : Int))) rfl (by kernel_rfl) (by kernel_rfl) (by kernel_rfl) (fun _ _ _ h => h) (Or.inl ⟨by rfl, ?_⟩) (by assumption) ?_
          · (intro w hSw; (try dsimp only at hSw); go_simp)
          simp only [Act.put, List.setIfInBounds_toArray, List.set_cons_zero, List.set_cons_succ]
          refine wpAnyH_take (i := 2) (oi := { dst := some 44, op := Op.move (Operand.tmp 15), type := 3, pos := "ref.go:72", after := #[], guard := none }) (v := (Value.int .i64 (j : Int))) rfl (by kernel_rfl) (by kernel_rfl) (by kernel_rfl) (fun _ _ _ h => h) (Or.inl ⟨by rfl, ?_⟩) (by assumption) ?_
          · (intro w hSw; (try dsimp only at hSw); go_simp)
          simp only [Act.put, List.setIfInBounds_toArray, List.set_cons_zero, List.set_cons_succ]
          refine wpAnyH_take (i := 3) (oi := { dst := some 45, op := Op.binOp BinOp.add 3 (Operand.tmp 43) (Operand.tmp 44) 3, type := 3, pos := "ref.go:72", after := #[{ on := 1, ground := Ground.data }, { on := 2, ground := Ground.data }], guard := none }) (v := (Value.int .i64 (ij : Int))) rfl (by kernel_rfl) (by kernel_rfl) (by kernel_rfl) (fun _ _ _ h => h) (Or.inl ⟨by rfl, ?_⟩) (by assumption) ?_
          · (intro w hSw; (try dsimp only at hSw); go_simp)
          simp only [Act.put, List.setIfInBounds_toArray, List.set_cons_zero, List.set_cons_succ]
          refine wpAnyH_take (i := 4) (oi := { dst := some 46, op := Op.move (Operand.tmp 12), type := 3, pos := "ref.go:72", after := #[], guard := none }) (v := (Value.int .i64 (d : Int))) rfl (by kernel_rfl) (by kernel_rfl) (by kernel_rfl) (fun _ _ _ h => h) (Or.inl ⟨by rfl, ?_⟩) (by assumption) ?_
          · (intro w hSw; (try dsimp only at hSw); go_simp)
          simp only [Act.put, List.setIfInBounds_toArray, List.set_cons_zero, List.set_cons_succ]
          refine wpAnyH_take (i := 5) (oi := { dst := some 47, op := Op.move (Operand.tmp 13), type := 22, pos := "ref.go:72", after := #[], guard := none }) (v := (Value.slice (some ⟨b2, o2, none⟩) (r - i) dd)) rfl (by kernel_rfl) (by kernel_rfl) (by kernel_rfl) (fun _ _ _ h => h) (Or.inl ⟨by rfl, ?_⟩) (by assumption) ?_
          · (intro w hSw; (try dsimp only at hSw); go_simp)
          simp only [Act.put, List.setIfInBounds_toArray, List.set_cons_zero, List.set_cons_succ]
          refine wpAnyH_take (i := 6) (oi := { dst := some 48, op := Op.move (Operand.tmp 15), type := 3, pos := "ref.go:72", after := #[], guard := none }) (v := (Value.int .i64 (j : Int))) rfl (by kernel_rfl) (by kernel_rfl) (by kernel_rfl) (fun _ _ _ h => h) (Or.inl ⟨by rfl, ?_⟩) (by assumption) ?_
          · (intro w hSw; (try dsimp only at hSw); go_simp)
          simp only [Act.put, List.setIfInBounds_toArray, List.set_cons_zero, List.set_cons_succ]
          refine wpAnyH_take (i := 7) (oi := { dst := some 49, op := Op.indexAddr 22 (Operand.tmp 47) (Operand.tmp 48), type := 0, pos := "ref.go:72", after := #[{ on := 5, ground := Ground.data }, { on := 6, ground := Ground.data }], guard := none }) (v := (Value.pointer (some ⟨b2, o2 + j, none⟩))) rfl (by kernel_rfl) (by kernel_rfl) (by kernel_rfl) (fun _ _ _ h => h) (Or.inl ⟨by rfl, ?_⟩) (by assumption) ?_
          · (intro w hSw; (try dsimp only at hSw); go_simp)
          simp only [Act.put, List.setIfInBounds_toArray, List.set_cons_zero, List.set_cons_succ]
          refine wpAnyH_take (i := 8) (oi := { dst := some 50, op := Op.load 24 (Operand.tmp 49), type := 24, pos := "ref.go:72", after := #[{ on := 7, ground := Ground.data }], guard := none }) (v := (Value.int .u64 (cj : Int))) rfl (by kernel_rfl) (by kernel_rfl) (by kernel_rfl) (fun _ _ _ h => h) (Or.inl ⟨by rfl, ?_⟩) (by assumption) ?_
          · (intro w hSw; (try dsimp only at hSw); go_simp)
          simp only [Act.put, List.setIfInBounds_toArray, List.set_cons_zero, List.set_cons_succ]
          refine wpAnyH_take (i := 9) (oi := { dst := some 51, op := Op.move (Operand.tmp 14), type := 24, pos := "ref.go:72", after := #[], guard := none }) (v := (Value.int .u64 (td : Int))) rfl (by kernel_rfl) (by kernel_rfl) (by kernel_rfl) (fun _ _ _ h => h) (Or.inl ⟨by rfl, ?_⟩) (by assumption) ?_
          · (intro w hSw; (try dsimp only at hSw); go_simp)
          simp only [Act.put, List.setIfInBounds_toArray, List.set_cons_zero, List.set_cons_succ]
          refine wpAnyH_take (i := 10) (oi := { dst := some 52, op := Op.move (Operand.tmp 3), type := 22, pos := "ref.go:72", after := #[], guard := none }) (v := (Value.slice (some ⟨b1, o1, none⟩) m vc)) rfl (by kernel_rfl) (by kernel_rfl) (by kernel_rfl) (fun _ _ _ h => h) (Or.inl ⟨by rfl, ?_⟩) (by assumption) ?_
          · (intro w hSw; (try dsimp only at hSw); go_simp)
          simp only [Act.put, List.setIfInBounds_toArray, List.set_cons_zero, List.set_cons_succ]
          refine wpAnyH_take (i := 11) (oi := { dst := some 53, op := Op.move (Operand.tmp 15), type := 3, pos := "ref.go:72", after := #[], guard := none }) (v := (Value.int .i64 (j : Int))) rfl (by kernel_rfl) (by kernel_rfl) (by kernel_rfl) (fun _ _ _ h => h) (Or.inl ⟨by rfl, ?_⟩) (by assumption) ?_
          · (intro w hSw; (try dsimp only at hSw); go_simp)
          simp only [Act.put, List.setIfInBounds_toArray, List.set_cons_zero, List.set_cons_succ]
          refine wpAnyH_take (i := 12) (oi := { dst := some 54, op := Op.indexAddr 22 (Operand.tmp 52) (Operand.tmp 53), type := 0, pos := "ref.go:72", after := #[{ on := 10, ground := Ground.data }, { on := 11, ground := Ground.data }], guard := none }) (v := (Value.pointer (some ⟨b1, o1 + j, none⟩))) rfl (by kernel_rfl) (by kernel_rfl) (by kernel_rfl) (fun _ _ _ h => h) (Or.inl ⟨by rfl, ?_⟩) (by assumption) ?_
          · (intro w hSw; (try dsimp only at hSw); go_simp)
          simp only [Act.put, List.setIfInBounds_toArray, List.set_cons_zero, List.set_cons_succ]
          refine wpAnyH_take (i := 13) (oi := { dst := some 55, op := Op.load 24 (Operand.tmp 54), type := 24, pos := "ref.go:72", after := #[{ on := 12, ground := Ground.data }], guard := none }) (v := (Value.int .u64 (vj : Int))) rfl (by kernel_rfl) (by kernel_rfl) (by kernel_rfl) (fun _ _ _ h => h) (Or.inl ⟨by rfl, ?_⟩) (by assumption) ?_
          · (intro w hSw; (try dsimp only at hSw); go_simp)
          simp only [Act.put, List.setIfInBounds_toArray, List.set_cons_zero, List.set_cons_succ]
          refine wpAnyH_ready (rs := [0, 14]) (by kernel_rfl) (by simp) ?_
          refine AllReadyH.cons (o := { dst := some 42, op := Op.load 36 (Operand.tmp 11), type := 36, pos := "ref.go:72", after := #[], guard := none }) rfl (fun K hK => ?_) (AllReadyH.cons (o := { dst := some 56, op := Op.call { callee := Callee.value (Operand.func 55), args := #[Operand.tmp 51, Operand.tmp 55], argTypes := #[24, 24] }, type := 24, pos := "ref.go:72", after := #[{ on := 9, ground := Ground.data }, { on := 13, ground := Ground.data }], guard := none }) rfl (fun K hK => ?_) AllReadyH.nil)
          · go_simp
            refine hK.out _ _ ?_ (fun hHeld => ?_)
            · exact ⟨(unhide SS).2.1, (unhide SS).2.2.1⟩
            clear hK K
            refine wpAnyH_ready (rs := [14]) (by kernel_rfl) (by simp) ?_
            refine AllReadyH.cons (o := { dst := some 56, op := Op.call { callee := Callee.value (Operand.func 55), args := #[Operand.tmp 51, Operand.tmp 55], argTypes := #[24, 24] }, type := 24, pos := "ref.go:72", after := #[{ on := 9, ground := Ground.data }, { on := 13, ground := Ground.data }], guard := none }) rfl (fun K hK => ?_) AllReadyH.nil
            go_simp
            refine (unhide V4 _).mono ?_
            rintro e w4 ⟨rfl, hb⟩
            clear y0 y1 y2 x1 x2
            have S4 := (unhide SS).1.all hb
            have y0 := S4.2.2.1.c0
            have y1 := S4.2.2.1.c1
            have y2 := S4.2.2.1.c2
            have x1 := cell_keep (unhide SS).2.1 hb
            have x2 := cell_keep (unhide SS).2.2.1 hb
            replace SS := hide (And.intro S4 (And.intro x1 (And.intro x2 ((unhide SS).2.2.2.below hb))))
            clear S4 hb
            go_wp2_with fail
            refine hK.out _ _ ?_ (fun hHeld => ?_)
            · exact ⟨(unhide SS).2.1, (unhide SS).2.2.1⟩
            clear hK K
            refine wpAnyH_ready (rs := [15]) (by kernel_rfl) (by simp) ?_
            refine AllReadyH.cons (o := { dst := some 57, op := Op.call { callee := Callee.value (Operand.func 50), args := #[Operand.tmp 50, Operand.tmp 56], argTypes := #[24, 24] }, type := 24, pos := "ref.go:72", after := #[{ on := 8, ground := Ground.data }, { on := 14, ground := Ground.data }, { on := 14, ground := Ground.chain }], guard := none }) rfl (fun K hK => ?_) AllReadyH.nil
            go_simp
            refine (unhide V5 _).mono ?_
            rintro e w5 ⟨rfl, hb⟩
            clear y0 y1 y2 x1 x2
            have S4 := (unhide SS).1.all hb
            have y0 := S4.2.2.1.c0
            have y1 := S4.2.2.1.c1
            have y2 := S4.2.2.1.c2
            have x1 := cell_keep (unhide SS).2.1 hb
            have x2 := cell_keep (unhide SS).2.2.1 hb
            replace SS := hide (And.intro S4 (And.intro x1 (And.intro x2 ((unhide SS).2.2.2.below hb))))
            clear S4 hb
            go_wp2_with fail
            refine hK.out _ _ ?_ (fun hHeld => ?_)
            · exact ⟨(unhide SS).2.1, (unhide SS).2.2.1⟩
            clear hK K
            refine wpAnyH_ready (rs := [16]) (by kernel_rfl) (by simp) ?_
            refine AllReadyH.cons (o := { dst := some 58, op := Op.call { callee := Callee.value (Operand.func 33), args := #[Operand.tmp 42, Operand.tmp 45, Operand.tmp 46, Operand.tmp 57], argTypes := #[36, 3, 3, 24] }, type := 36, pos := "ref.go:72", after := #[{ on := 0, ground := Ground.data }, { on := 3, ground := Ground.data }, { on := 4, ground := Ground.data }, { on := 15, ground := Ground.data }, { on := 15, ground := Ground.chain }], guard := none }) rfl (fun K hK => ?_) AllReadyH.nil
            go_simp
            refine (unhide V6 _ _ _ (unhide SS).1.2.2.2.1).mono ?_
            rintro e w6 ⟨v6, rfl, ⟨po6, pc6, rfl, b6⟩, hb⟩
            clear y0 y1 y2 x1 x2
            have S5 := (unhide SS).1.all hb
            have y0 := S5.2.2.1.c0; have y1 := S5.2.2.1.c1; have y2 := S5.2.2.1.c2
            have f0 := S5.2.2.1.free 0; have f1 := S5.2.2.1.free 1; have f2 := S5.2.2.1.free 2
            have P6 := hide (S5.put b6 (unhide VL))
            have PC := hide (((unhide SS).2.2.2.below hb).putM S5.2.2.1 (.int .i64 r) (.int .i64 c) (.slice po6 n pc6))
            have HS5 := hide (And.intro (cell_keep (unhide SS).2.1 hb) (cell_keep (unhide SS).2.2.1 hb))
            have HS6 := hide (And.intro (cell_putM (unhide HS5).1 S5.2.2.1 (.int .i64 r) (.int .i64 c) (.slice po6 n pc6)) (cell_putM (unhide HS5).2 S5.2.2.1 (.int .i64 r) (.int .i64 c) (.slice po6 n pc6)))
            clear S5 hb b6 SS
            go_wp2_with fail
            refine hK.out _ _ ?_ (fun hHeld => ?_)
            · exact unhide HS5
            clear hK K
            refine wpAnyH_ready (rs := [17]) (by kernel_rfl) (by simp) ?_
            refine AllReadyH.cons (o := { dst := none, op := Op.store 36 (Operand.tmp 11) (Operand.tmp 58), type := 0, pos := "ref.go:72", after := #[{ on := 16, ground := Ground.data }, { on := 16, ground := Ground.chain }, { on := 0, ground := Ground.phase }, { on := 1, ground := Ground.phase }, { on := 2, ground := Ground.phase }, { on := 3, ground := Ground.phase }, { on := 4, ground := Ground.phase }, { on := 5, ground := Ground.phase }, { on := 6, ground := Ground.phase }, { on := 7, ground := Ground.phase }, { on := 8, ground := Ground.phase }, { on := 9, ground := Ground.phase }, { on := 10, ground := Ground.phase }, { on := 11, ground := Ground.phase }, { on := 12, ground := Ground.phase }, { on := 13, ground := Ground.phase }, { on := 14, ground := Ground.phase }, { on := 15, ground := Ground.phase }, { on := 16, ground := Ground.phase }], guard := none }) rfl (fun K hK => ?_) AllReadyH.nil
            go_simp
            refine hK.out _ _ ?_ (fun hHeld => ?_)
            · exact unhide HS6
            clear hK K
            refine wpAnyH_done (by kernel_rfl) ?_ _
            clear y0 y1 y2 f0 f1 f2 HS5 HS6
            go_wp2_with fail
            go_round
            case rel => exact ⟨j + 1, po6, pc6, by omega, by go_num, P6, PC⟩
            case measure => simp [intOf]; omega
          · go_simp
            refine (unhide V4 _).mono ?_
            rintro e w4 ⟨rfl, hb⟩
            clear y0 y1 y2 x1 x2
            have S4 := (unhide SS).1.all hb
            have y0 := S4.2.2.1.c0
            have y1 := S4.2.2.1.c1
            have y2 := S4.2.2.1.c2
            have x1 := cell_keep (unhide SS).2.1 hb
            have x2 := cell_keep (unhide SS).2.2.1 hb
            replace SS := hide (And.intro S4 (And.intro x1 (And.intro x2 ((unhide SS).2.2.2.below hb))))
            clear S4 hb
            go_wp2_with fail
            refine hK.out _ _ ?_ (fun hHeld => ?_)
            · exact ⟨(unhide SS).2.1, (unhide SS).2.2.1⟩
            clear hK K
            refine wpAnyH_ready (rs := [0, 15]) (by kernel_rfl) (by simp) ?_
            refine AllReadyH.cons (o := { dst := some 42, op := Op.load 36 (Operand.tmp 11), type := 36, pos := "ref.go:72", after := #[], guard := none }) rfl (fun K hK => ?_) (AllReadyH.cons (o := { dst := some 57, op := Op.call { callee := Callee.value (Operand.func 50), args := #[Operand.tmp 50, Operand.tmp 56], argTypes := #[24, 24] }, type := 24, pos := "ref.go:72", after := #[{ on := 8, ground := Ground.data }, { on := 14, ground := Ground.data }, { on := 14, ground := Ground.chain }], guard := none }) rfl (fun K hK => ?_) AllReadyH.nil)
            · go_simp
              refine hK.out _ _ ?_ (fun hHeld => ?_)
              · exact ⟨(unhide SS).2.1, (unhide SS).2.2.1⟩
              clear hK K
              refine wpAnyH_ready (rs := [15]) (by kernel_rfl) (by simp) ?_
              refine AllReadyH.cons (o := { dst := some 57, op := Op.call { callee := Callee.value (Operand.func 50), args := #[Operand.tmp 50, Operand.tmp 56], argTypes := #[24, 24] }, type := 24, pos := "ref.go:72", after := #[{ on := 8, ground := Ground.data }, { on := 14, ground := Ground.data }, { on := 14, ground := Ground.chain }], guard := none }) rfl (fun K hK => ?_) AllReadyH.nil
              go_simp
              refine (unhide V5 _).mono ?_
              rintro e w5 ⟨rfl, hb⟩
              clear y0 y1 y2 x1 x2
              have S4 := (unhide SS).1.all hb
              have y0 := S4.2.2.1.c0
              have y1 := S4.2.2.1.c1
              have y2 := S4.2.2.1.c2
              have x1 := cell_keep (unhide SS).2.1 hb
              have x2 := cell_keep (unhide SS).2.2.1 hb
              replace SS := hide (And.intro S4 (And.intro x1 (And.intro x2 ((unhide SS).2.2.2.below hb))))
              clear S4 hb
              go_wp2_with fail
              refine hK.out _ _ ?_ (fun hHeld => ?_)
              · exact ⟨(unhide SS).2.1, (unhide SS).2.2.1⟩
              clear hK K
              refine wpAnyH_ready (rs := [16]) (by kernel_rfl) (by simp) ?_
              refine AllReadyH.cons (o := { dst := some 58, op := Op.call { callee := Callee.value (Operand.func 33), args := #[Operand.tmp 42, Operand.tmp 45, Operand.tmp 46, Operand.tmp 57], argTypes := #[36, 3, 3, 24] }, type := 36, pos := "ref.go:72", after := #[{ on := 0, ground := Ground.data }, { on := 3, ground := Ground.data }, { on := 4, ground := Ground.data }, { on := 15, ground := Ground.data }, { on := 15, ground := Ground.chain }], guard := none }) rfl (fun K hK => ?_) AllReadyH.nil
              go_simp
              refine (unhide V6 _ _ _ (unhide SS).1.2.2.2.1).mono ?_
              rintro e w6 ⟨v6, rfl, ⟨po6, pc6, rfl, b6⟩, hb⟩
              clear y0 y1 y2 x1 x2
              have S5 := (unhide SS).1.all hb
              have y0 := S5.2.2.1.c0; have y1 := S5.2.2.1.c1; have y2 := S5.2.2.1.c2
              have f0 := S5.2.2.1.free 0; have f1 := S5.2.2.1.free 1; have f2 := S5.2.2.1.free 2
              have P6 := hide (S5.put b6 (unhide VL))
              have PC := hide (((unhide SS).2.2.2.below hb).putM S5.2.2.1 (.int .i64 r) (.int .i64 c) (.slice po6 n pc6))
              have HS5 := hide (And.intro (cell_keep (unhide SS).2.1 hb) (cell_keep (unhide SS).2.2.1 hb))
              have HS6 := hide (And.intro (cell_putM (unhide HS5).1 S5.2.2.1 (.int .i64 r) (.int .i64 c) (.slice po6 n pc6)) (cell_putM (unhide HS5).2 S5.2.2.1 (.int .i64 r) (.int .i64 c) (.slice po6 n pc6)))
              clear S5 hb b6 SS
              go_wp2_with fail
              refine hK.out _ _ ?_ (fun hHeld => ?_)
              · exact unhide HS5
              clear hK K
              refine wpAnyH_ready (rs := [17]) (by kernel_rfl) (by simp) ?_
              refine AllReadyH.cons (o := { dst := none, op := Op.store 36 (Operand.tmp 11) (Operand.tmp 58), type := 0, pos := "ref.go:72", after := #[{ on := 16, ground := Ground.data }, { on := 16, ground := Ground.chain }, { on := 0, ground := Ground.phase }, { on := 1, ground := Ground.phase }, { on := 2, ground := Ground.phase }, { on := 3, ground := Ground.phase }, { on := 4, ground := Ground.phase }, { on := 5, ground := Ground.phase }, { on := 6, ground := Ground.phase }, { on := 7, ground := Ground.phase }, { on := 8, ground := Ground.phase }, { on := 9, ground := Ground.phase }, { on := 10, ground := Ground.phase }, { on := 11, ground := Ground.phase }, { on := 12, ground := Ground.phase }, { on := 13, ground := Ground.phase }, { on := 14, ground := Ground.phase }, { on := 15, ground := Ground.phase }, { on := 16, ground := Ground.phase }], guard := none }) rfl (fun K hK => ?_) AllReadyH.nil
              go_simp
              refine hK.out _ _ ?_ (fun hHeld => ?_)
              · exact unhide HS6
              clear hK K
              refine wpAnyH_done (by kernel_rfl) ?_ _
              clear y0 y1 y2 f0 f1 f2 HS5 HS6
              go_wp2_with fail
              go_round
              case rel => exact ⟨j + 1, po6, pc6, by omega, by go_num, P6, PC⟩
              case measure => simp [intOf]; omega
            · go_simp
              refine (unhide V5 _).mono ?_
              rintro e w5 ⟨rfl, hb⟩
              clear y0 y1 y2 x1 x2
              have S4 := (unhide SS).1.all hb
              have y0 := S4.2.2.1.c0
              have y1 := S4.2.2.1.c1
              have y2 := S4.2.2.1.c2
              have x1 := cell_keep (unhide SS).2.1 hb
              have x2 := cell_keep (unhide SS).2.2.1 hb
              replace SS := hide (And.intro S4 (And.intro x1 (And.intro x2 ((unhide SS).2.2.2.below hb))))
              clear S4 hb
              go_wp2_with fail
              refine hK.out _ _ ?_ (fun hHeld => ?_)
              · exact ⟨(unhide SS).2.1, (unhide SS).2.2.1⟩
              clear hK K
              refine wpAnyH_ready (rs := [0]) (by kernel_rfl) (by simp) ?_
              refine AllReadyH.cons (o := { dst := some 42, op := Op.load 36 (Operand.tmp 11), type := 36, pos := "ref.go:72", after := #[], guard := none }) rfl (fun K hK => ?_) AllReadyH.nil
              go_simp
              refine hK.out _ _ ?_ (fun hHeld => ?_)
              · exact ⟨(unhide SS).2.1, (unhide SS).2.2.1⟩
              clear hK K
              refine wpAnyH_ready (rs := [16]) (by kernel_rfl) (by simp) ?_
              refine AllReadyH.cons (o := { dst := some 58, op := Op.call { callee := Callee.value (Operand.func 33), args := #[Operand.tmp 42, Operand.tmp 45, Operand.tmp 46, Operand.tmp 57], argTypes := #[36, 3, 3, 24] }, type := 36, pos := "ref.go:72", after := #[{ on := 0, ground := Ground.data }, { on := 3, ground := Ground.data }, { on := 4, ground := Ground.data }, { on := 15, ground := Ground.data }, { on := 15, ground := Ground.chain }], guard := none }) rfl (fun K hK => ?_) AllReadyH.nil
              go_simp
              refine (unhide V6 _ _ _ (unhide SS).1.2.2.2.1).mono ?_
              rintro e w6 ⟨v6, rfl, ⟨po6, pc6, rfl, b6⟩, hb⟩
              clear y0 y1 y2 x1 x2
              have S5 := (unhide SS).1.all hb
              have y0 := S5.2.2.1.c0; have y1 := S5.2.2.1.c1; have y2 := S5.2.2.1.c2
              have f0 := S5.2.2.1.free 0; have f1 := S5.2.2.1.free 1; have f2 := S5.2.2.1.free 2
              have P6 := hide (S5.put b6 (unhide VL))
              have PC := hide (((unhide SS).2.2.2.below hb).putM S5.2.2.1 (.int .i64 r) (.int .i64 c) (.slice po6 n pc6))
              have HS5 := hide (And.intro (cell_keep (unhide SS).2.1 hb) (cell_keep (unhide SS).2.2.1 hb))
              have HS6 := hide (And.intro (cell_putM (unhide HS5).1 S5.2.2.1 (.int .i64 r) (.int .i64 c) (.slice po6 n pc6)) (cell_putM (unhide HS5).2 S5.2.2.1 (.int .i64 r) (.int .i64 c) (.slice po6 n pc6)))
              clear S5 hb b6 SS
              go_wp2_with fail
              refine hK.out _ _ ?_ (fun hHeld => ?_)
              · exact unhide HS5
              clear hK K
              refine wpAnyH_ready (rs := [17]) (by kernel_rfl) (by simp) ?_
              refine AllReadyH.cons (o := { dst := none, op := Op.store 36 (Operand.tmp 11) (Operand.tmp 58), type := 0, pos := "ref.go:72", after := #[{ on := 16, ground := Ground.data }, { on := 16, ground := Ground.chain }, { on := 0, ground := Ground.phase }, { on := 1, ground := Ground.phase }, { on := 2, ground := Ground.phase }, { on := 3, ground := Ground.phase }, { on := 4, ground := Ground.phase }, { on := 5, ground := Ground.phase }, { on := 6, ground := Ground.phase }, { on := 7, ground := Ground.phase }, { on := 8, ground := Ground.phase }, { on := 9, ground := Ground.phase }, { on := 10, ground := Ground.phase }, { on := 11, ground := Ground.phase }, { on := 12, ground := Ground.phase }, { on := 13, ground := Ground.phase }, { on := 14, ground := Ground.phase }, { on := 15, ground := Ground.phase }, { on := 16, ground := Ground.phase }], guard := none }) rfl (fun K hK => ?_) AllReadyH.nil
              go_simp
              refine hK.out _ _ ?_ (fun hHeld => ?_)
              · exact unhide HS6
              clear hK K
              refine wpAnyH_done (by kernel_rfl) ?_ _
              clear y0 y1 y2 f0 f1 f2 HS5 HS6
              go_wp2_with fail
              go_round
              case rel => exact ⟨j + 1, po6, pc6, by omega, by go_num, P6, PC⟩
              case measure => simp [intOf]; omega
        · have hjj : j = m := by omega
          subst hjj
          have hjI : ¬ (j : Int) < (j : Int) := by omega
          rw [unhide WN] at hS
          go_wp2_with fail
          go_round
          case rel => exact ⟨d + 1, qo, qc, by omega, by omega, by go_num, by rw [hTN]; exact hS⟩
          case measure => simp [intOf]; omega
    · have hdd : d = c := by omega
      subst hdd
      obtain ⟨h1, h2, h3, h4, h5, h6⟩ := unhide hS
      have t1 := h1.c1
      have z0' := h3.c0; have z1' := h3.c1; have z2' := h3.c2
      have r0 := h2.c0; have r1 := h2.c1; have r2 := h2.c2
      have f0 := h2.free 0; have f1 := h2.free 1; have f2 := h2.free 2
      have XP := h2.put (.int .i64 r) (.int .i64 d) (.slice po n pc)
      have z0 := XP.c0; have z1 := XP.c1; have z2 := XP.c2
      have Q := hide (h4.putM h2 (.int .i64 r) (.int .i64 d) (.slice po n pc))
      have BP := hide (below_putM h6 (b := w.heap.size + 1) (by omega) (.int .i64 r) (.int .i64 d) (.slice po n pc))
      clear XP hS h1 h2 h3 h4 h5 h6
      go_wp2_with fail
      exact bodyPost_ret (v := .agg #[.int .i64 r, .int .i64 d, .slice po n pc]) (by simp [results, Tryz.results18, go_sem, z0, z1, z2]) rfl ⟨po, pc, rfl, unhide Q, unhide BP⟩

end Go.Proofs.YtimejpbmehegeaaGreatDoor

/- The reference of layer 13: what Apply answers. -/
namespace Go.Proofs.YtimejpbmehegeaaGreatDoor
open Go.RowKit

theorem BitsAt.front {w : World} {ao : Option Addr} {cap : Nat} {I J : List Int} (h : BitsAt w ao cap I) (hl : J.length ≤ I.length) (he : ∀ j, j < J.length → J[j]? = I[j]?) : BitsAt w ao cap J := by
  refine ⟨Nat.le_trans hl h.1, fun x hx => ?_, ?_⟩
  · obtain ⟨j, hj, rfl⟩ := List.getElem_of_mem hx
    have e := he j hj
    rw [List.getElem?_eq_getElem hj] at e
    exact h.2.1 _ (List.mem_of_getElem? e.symm)
  · rcases Nat.eq_zero_or_pos J.length with g | g
    · exact .inl (List.eq_nil_of_length_eq_zero g)
    · obtain ⟨b, off, e1, e2, e3⟩ := h.2.2.resolve_left (fun e => by rw [e, List.length_nil] at hl; omega)
      refine .inr ⟨b, off, e1, e2, fun j hj => ?_⟩
      rw [e3 j (by omega), he j hj]

theorem dtV_lt : ∀ (xs ys : List Nat) (s : Nat), s < 18446744073709551616 → dtV s xs ys < 18446744073709551616 := by
  intro xs
  induction xs with
  | nil => intro ys s h; exact h
  | cons x xs ih =>
    intro ys s h
    match ys with
    | [] => exact h
    | y :: ys => exact ih ys _ (aV_lt _ _ h (mV_lt _ _))

theorem col_front (c : Nat) (S : List Nat) (i q : Nat) {m l : Nat} (h : m ≤ l) : ∀ j, j < (mxL (colL c S i m q)).length → (mxL (colL c S i m q))[j]? = (mxL (colL c S i l q))[j]? := by
  intro j hj
  rw [mxL_len, colL_len] at hj
  unfold mxL colL
  rw [List.getElem?_map, List.getElem?_map, List.getElem?_map, List.getElem?_map, List.getElem?_range hj, List.getElem?_range (show j < l by omega)]

/-- The reference's Apply, of a part that lies in a matrix. -/
theorem rapply13_any (r c cap i k tau : Nat) (ao vo : Option Addr) (vc : Nat) (S vs : List Nat) (w : World) (h : Mx w ao cap r c S) (hv : BitsAt w vo vc (mxL vs)) (hi : i + vs.length ≤ r) (hk : k ≤ c) (ht : tau < 18446744073709551616) :
    Calls Tryz.prog 18 #[.agg #[.int .i64 r, .int .i64 c, .slice ao S.length cap], .int .i64 i, .int .i64 k, .slice vo vs.length vc, .int .u64 tau] w fun e w' => ∃ po pc, e = .returned (.agg #[.int .i64 r, .int .i64 c, .slice po S.length pc]) ∧ BitsAt w' po pc (mxL (apM r c S i k vs tau)) ∧ Below w.heap.size w w' := by
  have c6 := h.2.2.2
  have r6 := h.2.2.1
  have lJ : ∀ d j, (apJ r c S i k vs tau d j).length = S.length := fun d j => by rw [apJ_len, h.2.1]
  have hvl : ∀ j, vs.getD j 0 < 18446744073709551616 := fun j => by
    have := hv.lt j
    rwa [mxL_at] at this
  rw [← apJ_all r c S i k vs tau c (Nat.le_refl _)]
  refine rapply13_of r c S.length cap i k vs.length tau ao vo vc (fun d j => apJ r c S i k vs tau d j) (fun d => colL c S i (r - i) d) (fun j => vs.getD j 0) (fun d => dtV 0 vs (colL c S i vs.length d)) (fun d => mV tau (dtV 0 vs (colL c S i vs.length d))) (fun d j => mV (mV tau (dtV 0 vs (colL c S i vs.length d))) (vs.getD j 0)) (fun d j => (apL c S i d vs tau).getD j 0) w c6 r6 hk hi (by show BitsAt w ao cap (mxL (apJ r c S i k vs tau k 0)); rw [apJ_0 r c S i k vs tau h.2.1]; exact h.1) lJ (fun d => apJ_next r c S i k vs tau d) (fun d => colL_len _ _ _ _ _) (fun w' hb j hj => ?_) (fun w' d hb hd => ?_) (fun w' d bo dd hb hd hc => ?_) (fun w' d hd => ?_) (fun w' d j hd hj => ?_) (fun w' d j hd hj => ?_) (fun w' d j qo qc hkd hd hj hq => ?_)
  · obtain ⟨b, off, e1, _, e3⟩ := (hv.below hb).ne (by rw [mxL_len]; omega)
    refine ⟨b, off, e1, ?_⟩
    rw [e3 j (by rw [mxL_len]; exact hj), mxL_at]
  · exact rcolF_any r c cap d i ao S w' (h.below hb) hd (by omega)
  · have hf := hc.front (J := mxL (colL c S i vs.length d)) (by rw [mxL_len, mxL_len, colL_len, colL_len]; omega) (col_front c S i d (by omega))
    have := r9dot_any vo bo vc dd (mxL vs) (mxL (colL c S i vs.length d)) w' (hv.below hb) hf (by rw [mxL_len, mxL_len, colL_len]) (by rw [mxL_len]; omega)
    rw [dtK_dtV (mxL vs) (mxL (colL c S i vs.length d)) (mxL vs).length (Nat.le_refl _) (by rw [mxL_len, mxL_len, colL_len]; exact Nat.le_refl _), toN_mxL, toN_mxL, mxL_len, mxL_len, colL_len, List.take_of_length_le (Nat.le_refl _), List.take_of_length_le (by rw [colL_len]; exact Nat.le_refl _)] at this
    exact this
  · exact r9mul_any tau _ w' ht (dtV_lt _ _ _ (by decide))
  · exact r9mul_any _ _ w' (mV_lt _ _) (hvl j)
  · show Calls Tryz.prog 50 #[.int .u64 ((colL c S i (r - i) d).getD j 0 : Nat), _] w' _
    rw [colL_at c S i (r - i) d (show j < r - i by omega), apL_at c S i d vs tau hj]
    exact r9sub_any _ _ w' (h.el_lt _ _) (mV_lt _ _)
  · have hX : Mx w' qo qc r c (apJ r c S i k vs tau d j) := ⟨hq, apJ_len _ _ _ _ _ _ _ _ _, r6, c6⟩
    have := rwith_any r c qc (i + j) d ((apL c S i d vs tau).getD j 0) qo _ w' hX (by omega) hd (apL_lt c S i d vs tau hj (fun p q => h.el_lt p q))
    rw [lJ d j] at this
    refine this.mono ?_
    rintro e w'' ⟨v, rfl, ⟨po, pc, rfl, _, b5⟩, hb⟩
    rw [apJ_set r c S hi hd hkd hj] at b5 ⊢
    exact ⟨_, rfl, ⟨po, pc, by rw [lJ d (j + 1)], b5⟩, hb⟩

end Go.Proofs.YtimejpbmehegeaaGreatDoor

