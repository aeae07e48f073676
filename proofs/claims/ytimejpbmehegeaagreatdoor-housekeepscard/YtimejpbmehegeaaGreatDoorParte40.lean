/- Part 40 of the texts. -/
import Derived.Test.YtimejpbmehegeaaGreatDoorParte37
import Derived.Test.YtimejpbmehegeaaGreatDoorParte36
import Derived.Test.YtimejpbmehegeaaGreatDoorParte29
import Derived.Deep.RegionHeld3
import Derived.Test.YtimejpbmehegeaaGreatDoorParte30
import Derived.Test.YtimejpbmehegeaaGreatDoorParte31
import Derived.Test.YtimejpbmehegeaaGreatDoorParte32
import Derived.Deep.RegionWith
import Derived.Laws.CopyOwn
import Derived.Test.YtimejpbmehegeaaGreatDoorParte39
import Derived.Test.YtimejpbmehegeaaGreatDoorParte33
/- Package givens: turned. -/
namespace Go.Proofs.YtimejpbmehegeaaGreatDoor
open Go.RowKit
attribute [local go_sem ↓] Go.wp_at_zero Go.wp_at_succ

theorem RowB.three {w : World} {b g : Nat} {S : List Nat} (h : RowB w b S) (hg : b ≠ g) (u u' u'' : Value) : RowB (((w.setCell ⟨g, 0, none⟩ u).setCell ⟨g, 1, none⟩ u').setCell ⟨g, 2, none⟩ u'') b S := by
  unfold RowB
  rw [Below.heap_setCell _ ⟨g, 2, none⟩ u'' b hg, Below.heap_setCell _ ⟨g, 1, none⟩ u' b hg, Below.heap_setCell _ ⟨g, 0, none⟩ u b hg]
  exact h
/-- What copy leaves of a list of numbers in a row that was made. -/
theorem copy_run (W : World) (g n cap : Nat) (ao : Option Addr) (S : List Nat) (h : RowB W g (List.replicate n 0)) (hS : BitsAt W ao cap (mxL S)) (hl : S.length = n) :
    ∃ w', (∀ ty, (Builtin.copy_ #[22, 22] ty #[.slice (some ⟨g, 0, none⟩) n n, .slice ao n cap]).run Tryz.prog W = .ok (.int .i64 (n : Int)) w') ∧ RowB w' g S ∧ Below g W w' := by
  rcases Nat.eq_zero_or_pos n with e | e
  · subst e
    obtain rfl : S = [] := List.eq_nil_of_length_eq_zero hl
    exact ⟨W, fun ty => run_copy_none W _ _ ty 24 _ _ 0 0 0 cap Tryz.underlying22 (by kernel_rfl) rfl, h, Below.refl _ _⟩
  · obtain ⟨b, off, rfl, hb, hc⟩ := hS.ne (by rw [mxL_len]; omega)
    have hcs : ∀ j v, (S.map bitV)[j]? = some v → W.cell? ((⟨b, off, none⟩ : Addr).add j) = some v := by
      intro j v hv
      rw [List.getElem?_map] at hv
      obtain ⟨x, hx, rfl⟩ := Option.map_eq_some_iff.1 hv
      have hj : j < S.length := (List.getElem?_eq_some_iff.1 hx).1
      have := hc j (by rw [mxL_len]; exact hj)
      rw [mxL_at] at this
      rw [show (⟨b, off, none⟩ : Addr).add j = ⟨b, off + j, none⟩ from by simp [Addr.add], this]
      rw [List.getD_eq_getElem?_getD, hx]
      rfl
    have hlen : (S.map bitV).length = n := by rw [List.length_map, hl]
    have run := fun ty => run_copy_row Tryz.prog W 22 22 ty 24 g 0 n n ⟨b, off, none⟩ n cap ((List.replicate n 0).map bitV).toArray 24 (S.map bitV) Tryz.underlying22 (by kernel_rfl) h (by rw [hlen]; exact (Nat.min_self n).symm) hcs (by rw [hlen]; simp) (fun v hv => by obtain ⟨x, _, rfl⟩ := List.mem_map.1 hv; rfl)
    refine ⟨_, fun ty => (run ty).trans (by rw [hlen]; rfl), ?_, below_setRow (Below.refl _ _) (Nat.le_refl _) _⟩
    unfold RowB
    rw [setRow_heap W g _ _ 24 _ h]
    congr 3
    simp

end Go.Proofs.YtimejpbmehegeaaGreatDoor

/- Package house: image, mirrored. -/
namespace Go.Proofs.YtimejpbmehegeaaGreatDoor
open Go.RowKit
attribute [local go_sem ↓] Go.wp_at_zero Go.wp_at_succ

set_option maxRecDepth 20000 in
set_option maxHeartbeats 4000000 in
theorem himage1_of (t x y p o k n m c d bx by' ba : Nat) (b1 o1 b2 o2 : Nat) (w : World) (hk : k < n) (hm : k < m)
    (h1 : w.cell? ⟨bx, 0, none⟩ = some (.slice (some ⟨b1, o1, none⟩) n c)) (h2 : w.cell? ⟨by', 0, none⟩ = some (.slice (some ⟨b2, o2, none⟩) m d)) (h5 : w.cell? ⟨ba, 0, none⟩ = some (.int .u64 (t : Nat)))
    (h3 : w.cell? ⟨b1, o1 + k, none⟩ = some (.int .u64 (x : Nat))) (h4 : w.cell? ⟨b2, o2 + k, none⟩ = some (.int .u64 (y : Nat)))
    (C1 : ∀ w', Below w.heap.size w w' → Calls Tryz.prog 125 #[.int .u64 t, .int .u64 y] w' fun r w'' => r = .returned (.int .u64 (p : Nat)) ∧ Below w'.heap.size w' w'')
    (C2 : ∀ w', Below w.heap.size w w' → Calls Tryz.prog 45 #[.int .u64 x, .int .u64 p] w' fun r w'' => r = .returned (.int .u64 (o : Nat)) ∧ Below w'.heap.size w' w'') :
    Calls Tryz.prog 126 #[.int .i64 k, .pointer (some ⟨bx, 0, none⟩), .pointer (some ⟨ba, 0, none⟩), .pointer (some ⟨by', 0, none⟩)] w fun e w' => e = .returned (.int .u64 (o : Nat)) ∧ Below w.heap.size w w' := by
  have K1 := hide C1; have K2 := hide C2
  have hkI : (k : Int) < (n : Int) := by omega
  have hkJ : (k : Int) < (m : Int) := by omega
  have HK := hide (fun w' (h : Below w.heap.size w w') => (show Below w.heap.size w w' ∧ w'.cell? ⟨bx, 0, none⟩ = some (.slice (some ⟨b1, o1, none⟩) n c) ∧ w'.cell? ⟨by', 0, none⟩ = some (.slice (some ⟨b2, o2, none⟩) m d) ∧ w'.cell? ⟨b1, o1 + k, none⟩ = some (.int .u64 (x : Nat)) ∧ w'.cell? ⟨b2, o2 + k, none⟩ = some (.int .u64 (y : Nat)) ∧ w'.cell? ⟨ba, 0, none⟩ = some (.int .u64 (t : Nat)) from
    ⟨h, cell_keep h1 h, cell_keep h2 h, cell_keep h3 h, cell_keep h4 h, cell_keep h5 h⟩))
  clear C1 C2 h1 h2 h3 h4 h5
  go_enter Tryz.func126, Tryz.ntmps126
  go_wp2_with fail
  go_region_held3 (fun w' => Below w.heap.size w w' ∧ w'.cell? ⟨bx, 0, none⟩ = some (.slice (some ⟨b1, o1, none⟩) n c) ∧ w'.cell? ⟨by', 0, none⟩ = some (.slice (some ⟨b2, o2, none⟩) m d) ∧ w'.cell? ⟨b1, o1 + k, none⟩ = some (.int .u64 (x : Nat)) ∧ w'.cell? ⟨b2, o2 + k, none⟩ = some (.int .u64 (y : Nat)) ∧ w'.cell? ⟨ba, 0, none⟩ = some (.int .u64 (t : Nat)))
    (first | exact unhide HK _ (Below.refl _ _).drew | exact unhide HK _ (by assumption) | fail "KK")
    (first | (go_at_call 125; refine (unhide K1 _ (And.left (by assumption))).mono ?_; rintro e w1 ⟨rfl, hb1⟩; have hB1 : Below w.heap.size w w1 := Below.trans (And.left (by assumption)) (hb1.mono (Below.size (And.left (by assumption)))); clear hb1) | (go_at_call 45; refine (unhide K2 _ (And.left (by assumption))).mono ?_; rintro e w2 ⟨rfl, hb2⟩; have hB2 : Below w.heap.size w w2 := Below.trans (And.left (by assumption)) (hb2.mono (Below.size (And.left (by assumption)))); clear hb2) | fail "NO ARM")
  go_wp2
  go_ret
  exact ⟨rfl, And.left (by assumption)⟩

/-- Where image's function keeps what it was handed. -/
structure ImAt (w : World) (v : Value) (H : Nat) (xo vo : Option Addr) (n xc m vc t : Nat) : Prop where
  ex : ∃ bx bt bv, v = .func (.func 126) #[] #[.pointer (some ⟨bx, 0, none⟩), .pointer (some ⟨bt, 0, none⟩), .pointer (some ⟨bv, 0, none⟩)] ∧ H ≤ bx ∧ H ≤ bt ∧ H ≤ bv ∧ w.cell? ⟨bx, 0, none⟩ = some (.slice xo n xc) ∧ w.cell? ⟨bt, 0, none⟩ = some (.int .u64 (t : Nat)) ∧ w.cell? ⟨bv, 0, none⟩ = some (.slice vo m vc)

set_option maxRecDepth 20000 in
set_option maxHeartbeats 4000000 in
theorem himage_of (xo vo : Option Addr) (n xc m vc tau d t : Nat) (w : World)
    (C1 : ∀ w', Below w.heap.size w w' → Calls Tryz.prog 124 #[.slice vo m vc, .slice xo n xc] w' fun e w'' => e = .returned (.tuple #[.int .u64 (d : Nat), .int .i64 0]) ∧ Below w'.heap.size w' w'')
    (C2 : ∀ w', Below w.heap.size w w' → Calls Tryz.prog 125 #[.int .u64 tau, .int .u64 d] w' fun e w'' => e = .returned (.int .u64 (t : Nat)) ∧ Below w'.heap.size w' w'') :
    Calls Tryz.prog 94 #[.slice xo n xc, .slice vo m vc, .int .u64 tau] w fun e w' => ∃ v, e = .returned v ∧ ImAt w' v w.heap.size xo vo n xc m vc t ∧ Below w.heap.size w w' := by
  have K1 := hide C1; have K2 := hide C2
  clear C1 C2
  have b1 := below_alloc9 w (.cells #[.slice xo n xc] 22)
  have x1 := new_cell w (.slice xo n xc) 22
  have s1 := size_alloc9 w (.cells #[.slice xo n xc] 22)
  have b2 := below_alloc9 (w.alloc (.cells #[.slice xo n xc] 22)) (.cells #[.slice vo m vc] 22)
  have x2 := new_cell (w.alloc (.cells #[.slice xo n xc] 22)) (.slice vo m vc) 22
  have y1 := cell_keep x1 b2
  rw [s1] at x2
  have HA := hide (show Below w.heap.size w ((w.alloc (.cells #[.slice xo n xc] 22)).alloc (.cells #[.slice vo m vc] 22)) from b1.trans (b2.mono b1.size))
  have HX := hide y1; have HV := hide x2
  clear b1 x1 s1 b2 x2 y1
  go_enter Tryz.func94, Tryz.ntmps94
  go_wp2_with fail
  refine (unhide K1 _ (unhide HA)).mono ?_
  rintro e w1 ⟨rfl, hb1⟩
  replace HX := hide (cell_keep (unhide HX) hb1)
  replace HV := hide (cell_keep (unhide HV) hb1)
  replace HA := hide ((unhide HA).trans (hb1.mono (unhide HA).size))
  clear hb1 K1
  go_wp2_with fail
  refine (unhide K2 _ (unhide HA)).mono ?_
  rintro e w2 ⟨rfl, hb1⟩
  replace HX := hide (cell_keep (unhide HX) hb1)
  replace HV := hide (cell_keep (unhide HV) hb1)
  replace HA := hide ((unhide HA).trans (hb1.mono (unhide HA).size))
  clear hb1 K2
  have b3 := below_alloc9 w2 (.cells #[.int .u64 (t : Nat)] 24)
  have x3 := hide (new_cell w2 (.int .u64 (t : Nat)) 24)
  replace HX := hide (cell_keep (unhide HX) b3)
  replace HV := hide (cell_keep (unhide HV) b3)
  have HS := hide (unhide HA).size
  replace HA := hide ((unhide HA).trans (b3.mono (unhide HA).size))
  clear b3
  go_wp2
  go_ret
  exact ⟨_, rfl, ⟨_, _, _, rfl, Nat.le_refl _, unhide HS, Nat.le_succ _, unhide HX, unhide x3, unhide HV⟩, unhide HA⟩

theorem himage_any (xo vo : Option Addr) (xc vc tau : Nat) (xs vs : List Nat) (w : World) (hX : BitsAt w xo xc (mxL xs)) (hV : BitsAt w vo vc (mxL vs)) (hl : xs.length = vs.length) (h6 : vs.length ≤ 64) (ht : tau < 18446744073709551616) (hT : Tab w) :
    Calls Tryz.prog 94 #[.slice xo xs.length xc, .slice vo vs.length vc, .int .u64 tau] w fun e w' => ∃ v, e = .returned v ∧ ImAt w' v w.heap.size xo vo xs.length xc vs.length vc (mV tau (dtV 0 vs xs)) ∧ Below w.heap.size w w' := by
  refine himage_of xo vo xs.length xc vs.length vc tau (dtV 0 vs xs) _ w (fun w' hb => ?_) (fun w' hb => ?_)
  · have D := vDot_any vo xo vc xc (mxL vs) (mxL xs) w' (hV.below hb) (hX.below hb) (hT.all hb)
    have g : goB (mxL vs) (mxL xs) = true := decide_eq_true ⟨by rw [mxL_len]; exact h6, by rw [mxL_len, mxL_len, hl]⟩
    rw [if_pos g, if_pos g, dtK_dtV (mxL vs) (mxL xs) (mxL vs).length (Nat.le_refl _) (by rw [mxL_len, mxL_len, hl]; exact Nat.le_refl _), toN_mxL, toN_mxL, mxL_len, mxL_len, List.take_of_length_le (Nat.le_refl _), List.take_of_length_le (by rw [hl]; exact Nat.le_refl _)] at D
    exact D
  · refine vmul_any tau (dtV 0 vs xs) w' ht ?_ (hT.all hb)
    have := dtK_lt (mxL vs) (mxL xs) (mxL vs).length
    rwa [dtK_dtV (mxL vs) (mxL xs) (mxL vs).length (Nat.le_refl _) (by rw [mxL_len, mxL_len, hl]; exact Nat.le_refl _), toN_mxL, toN_mxL, mxL_len, List.take_of_length_le (Nat.le_refl _), List.take_of_length_le (by rw [hl]; exact Nat.le_refl _)] at this

/-- What holds in mirrored. -/
structure MiSt (w wr : World) (r c n cap : Nat) (ao : Option Addr) (S : List Nat) : Prop where
  bel : Below w.heap.size w wr
  m : BoxM wr w.heap.size (.int .i64 r) (.int .i64 c) (.slice ao n cap)
  res : BoxM wr (w.heap.size + 1) (.int .i64 0) (.int .i64 0) (.slice none 0 0)
  row : RowB wr (w.heap.size + 1 + 1) S
theorem MiSt.all {w wr w' : World} {r c n cap : Nat} {ao : Option Addr} {S : List Nat} (h : MiSt w wr r c n cap ao S) (hb : Below wr.heap.size wr w') : MiSt w w' r c n cap ao S :=
  ⟨h.bel.trans (hb.mono h.bel.size), h.m.all hb, h.res.all hb, h.row.below hb h.row.lt⟩
theorem MiSt.set {w wr : World} {r c n cap : Nat} {ao : Option Addr} {S : List Nat} (h : MiSt w wr r c n cap ao S) (p x : Nat) : MiSt w (wr.setCell ⟨w.heap.size + 1 + 1, p, none⟩ (.int .u64 (x : Int))) r c n cap ao (S.set p x) :=
  ⟨h.bel.setCell (p := ⟨w.heap.size + 1 + 1, p, none⟩) (by show w.heap.size ≤ w.heap.size + 1 + 1; omega) _, h.m.other (p := ⟨w.heap.size + 1 + 1, p, none⟩) (by show w.heap.size ≠ w.heap.size + 1 + 1; omega) _, h.res.other (p := ⟨w.heap.size + 1 + 1, p, none⟩) (by show w.heap.size + 1 ≠ w.heap.size + 1 + 1; omega) _, h.row.set p x⟩
theorem MiSt.start (w : World) (r c n cap : Nat) (ao : Option Addr) :
    MiSt w (((w.alloc (.cells #[.int .i64 r, .int .i64 c, .slice ao n cap] 36)).alloc (.cells #[.int .i64 0, .int .i64 0, .slice none 0 0] 36)).alloc (.cells (madeCells #[.int .u64 0] n) 24)) r c n cap ao (List.replicate n 0) := by
  have b0 := below_alloc9 w (.cells #[.int .i64 r, .int .i64 c, .slice ao n cap] 36)
  have s0 := size_alloc9 w (.cells #[.int .i64 r, .int .i64 c, .slice ao n cap] 36)
  have x0 := BoxM.new w (.int .i64 r) (.int .i64 c) (.slice ao n cap)
  generalize w.alloc (.cells #[.int .i64 r, .int .i64 c, .slice ao n cap] 36) = w0 at *
  have b3 := below_alloc9 w0 (.cells #[.int .i64 0, .int .i64 0, .slice none 0 0] 36)
  have z3 := size_alloc9 w0 (.cells #[.int .i64 0, .int .i64 0, .slice none 0 0] 36)
  have x3 := BoxM.new w0 (.int .i64 0) (.int .i64 0) (.slice none 0 0)
  generalize w0.alloc (.cells #[.int .i64 0, .int .i64 0, .slice none 0 0] 36) = w3 at *
  have b4 := below_alloc9 w3 (.cells (madeCells #[.int .u64 0] n) 24)
  have x4 := RowB.made w3 n
  rw [s0] at x3 z3
  rw [z3] at x4
  have c3 := b0.trans (b3.mono b0.size)
  exact ⟨c3.trans (b4.mono c3.size), (x0.all b3).all b4, x3.all b4, x4⟩
theorem MiSt.copied {w wr w' : World} {r c n cap : Nat} {ao : Option Addr} {S T : List Nat} (h : MiSt w wr r c n cap ao S) (hb : Below (w.heap.size + 1 + 1) wr w') (hr : RowB w' (w.heap.size + 1 + 1) T) : MiSt w w' r c n cap ao T :=
  ⟨h.bel.trans (hb.mono (by omega)), h.m.below hb (by omega), h.res.below hb (by omega), hr⟩

/-- What holds while a column is put back: the numbers X of it, and the cells of image's function. -/
structure MjSt (w wr : World) (r c n cap : Nat) (ao : Option Addr) (S : List Nat) (bx bt bv : Nat) (po vo : Option Addr) (L pc vc t : Nat) (X : List Int) : Prop where
  st : MiSt w wr r c n cap ao S
  lx : w.heap.size + 1 + 1 + 1 ≤ bx
  lt : w.heap.size + 1 + 1 + 1 ≤ bt
  lv : w.heap.size + 1 + 1 + 1 ≤ bv
  cx : wr.cell? ⟨bx, 0, none⟩ = some (.slice po L pc)
  ct : wr.cell? ⟨bt, 0, none⟩ = some (.int .u64 (t : Nat))
  cv : wr.cell? ⟨bv, 0, none⟩ = some (.slice vo L vc)
  x : BitsAt wr po pc X
  nx : NewB (w.heap.size + 1 + 1 + 1) po X
theorem MjSt.all {w wr w' : World} {r c n cap : Nat} {ao : Option Addr} {S : List Nat} {bx bt bv : Nat} {po vo : Option Addr} {L pc vc t : Nat} {X : List Int} (h : MjSt w wr r c n cap ao S bx bt bv po vo L pc vc t X) (hb : Below wr.heap.size wr w') : MjSt w w' r c n cap ao S bx bt bv po vo L pc vc t X :=
  ⟨h.st.all hb, h.lx, h.lt, h.lv, cell_keep h.cx hb, cell_keep h.ct hb, cell_keep h.cv hb, h.x.below hb, h.nx⟩
theorem MjSt.set {w wr : World} {r c n cap : Nat} {ao : Option Addr} {S : List Nat} {bx bt bv : Nat} {po vo : Option Addr} {L pc vc t : Nat} {X : List Int} (h : MjSt w wr r c n cap ao S bx bt bv po vo L pc vc t X) (p x : Nat) : MjSt w (wr.setCell ⟨w.heap.size + 1 + 1, p, none⟩ (.int .u64 (x : Int))) r c n cap ao (S.set p x) bx bt bv po vo L pc vc t X := by
  have l1 := h.lx; have l2 := h.lt; have l3 := h.lv
  refine ⟨h.st.set p x, l1, l2, l3, ?_, ?_, ?_, h.x.far h.nx (by omega) p _, h.nx⟩
  · rw [cell_setCell_other _ _ _ _ (show bx ≠ w.heap.size + 1 + 1 by omega)]; exact h.cx
  · rw [cell_setCell_other _ _ _ _ (show bt ≠ w.heap.size + 1 + 1 by omega)]; exact h.ct
  · rw [cell_setCell_other _ _ _ _ (show bv ≠ w.heap.size + 1 + 1 by omega)]; exact h.cv

end Go.Proofs.YtimejpbmehegeaaGreatDoor

/- Package house: mirrored. -/
namespace Go.Proofs.YtimejpbmehegeaaGreatDoor
open Go.RowKit
attribute [local go_sem ↓] Go.wp_at_zero Go.wp_at_succ

set_option maxRecDepth 20000 in
set_option maxHeartbeats 8000000 in
theorem mirrored_of (r c n cap i k L vc tau : Nat) (ao vo : Option Addr) (T : Nat → Nat → List Nat) (X : Nat → List Int) (P U : Nat → Nat → Nat) (t : Nat → Nat) (w : World) (h36 : n ≤ 36) (h6 : c ≤ 6) (hr6 : r ≤ 6) (hil : i + L ≤ r) (hk : k ≤ c)
    (hS : BitsAt w ao cap (mxL (T k 0))) (lT : ∀ d j, (T d j).length = n) (hnext : ∀ d, T d L = T (d + 1) 0)
    (hP : ∀ d j, k ≤ d → d < c → j < L → P d j < n ∧ (i + j) * c + d = P d j ∧ (T d j).set (P d j) (U d j) = T d (j + 1))
    (C1 : ∀ w' d, Below w.heap.size w w' → k ≤ d → d < c → Calls Tryz.prog 93 #[.agg #[.int .i64 r, .int .i64 c, .slice ao n cap], .int .i64 i, .int .i64 (d : Nat), .int .i64 L, .int .i64 1] w' fun e w'' => ∃ po pc, e = .returned (.tuple #[.agg #[.int .i64 L, .int .i64 1, .slice po L pc], .int .i64 0]) ∧ NewB w'.heap.size po (X d) ∧ BitsAt w'' po pc (X d) ∧ Below w'.heap.size w' w'')
    (C2 : ∀ w' d po pc, Below w.heap.size w w' → k ≤ d → d < c → BitsAt w' po pc (X d) → Calls Tryz.prog 94 #[.slice po L pc, .slice vo L vc, .int .u64 tau] w' fun e w'' => ∃ v, e = .returned v ∧ ImAt w'' v w'.heap.size po vo L pc L vc (t d) ∧ Below w'.heap.size w' w'')
    (C3 : ∀ w' d j po pc bx bt bv, Below w.heap.size w w' → k ≤ d → d < c → j < L → BitsAt w' po pc (X d) → w'.cell? ⟨bx, 0, none⟩ = some (.slice po L pc) → w'.cell? ⟨bt, 0, none⟩ = some (.int .u64 (t d : Nat)) → w'.cell? ⟨bv, 0, none⟩ = some (.slice vo L vc) → Calls Tryz.prog 126 #[.int .i64 (j : Nat), .pointer (some ⟨bx, 0, none⟩), .pointer (some ⟨bt, 0, none⟩), .pointer (some ⟨bv, 0, none⟩)] w' fun e w'' => e = .returned (.int .u64 (U d j : Nat)) ∧ Below w'.heap.size w' w'') :
    Calls Tryz.prog 53 #[.agg #[.int .i64 r, .int .i64 c, .slice ao n cap], .int .i64 i, .int .i64 k, .slice vo L vc, .int .u64 tau] w fun e w' => ∃ g, e = .returned (.agg #[.int .i64 r, .int .i64 c, .slice (some ⟨g, 0, none⟩) n n]) ∧ w.heap.size ≤ g ∧ RowB w' g (T c 0) ∧ Below w.heap.size w w' := by
  have ST := hide (MiSt.start w r c n cap ao)
  have hmk := run_make_row' (P := Tryz.prog) 22 24 (.int .u64 0) 8 Tryz.underlying22 (by kernel_rfl) rfl .i64 .i64 n (by omega) (by omega)
  have HP := hide hP; have K1 := hide C1; have K2 := hide C2; have K3 := hide C3; have LT := hide lT; have HX := hide hnext
  obtain ⟨w5, hcp, hr5, hb5⟩ := copy_run _ (w.heap.size + 1 + 1) n cap ao (T k 0) (unhide ST).row (hS.below (unhide ST).bel) (lT k 0)
  have ST5 := hide ((unhide ST).copied hb5 hr5)
  clear hP C1 C2 C3 lT hS hr5 hb5 hnext
  have y0 := (unhide ST).m.c0; have y1 := (unhide ST).m.c1; have y2 := (unhide ST).m.c2
  go_enter Tryz.func53, Tryz.ntmps53
  go_wp2_with fail
  clear hmk hcp y0 y1 y2 ST
  go_loopw [12] (fun a wr => ∃ d : Nat, k ≤ d ∧ d ≤ c ∧ a = .int .i64 d ∧ Hid (MiSt w wr r c n cap ao (T d 0))) (fun a _ => c - (intOf a).toNat)
  case atStart => exact ⟨k, Nat.le_refl _, hk, rfl, ST5⟩
  case round =>
    clear ST5
    obtain ⟨d, hkd, hdc, rfl, hS⟩ := hrel
    by_cases hlt : d < c
    · have hdI : (d : Int) < (c : Int) := by omega
      have y0 := (unhide hS).m.c0; have y1 := (unhide hS).m.c1; have y2 := (unhide hS).m.c2
      go_wp2_with fail
      clear y0 y1 y2
      refine (unhide K1 _ d (unhide hS).bel hkd hlt).mono ?_
      rintro e w2 ⟨po, pc, rfl, hn, hx, hb⟩
      have S2 := hide ((unhide hS).all hb)
      have HN := hide (NewB.least hn (show w.heap.size + 1 + 1 + 1 ≤ wr.heap.size from (unhide hS).row.lt))
      have HB := hide hx
      clear hn hx hb hS
      go_wp2_with fail
      have ba := below_alloc9 w2 (.cells #[.int .i64 L, .int .i64 1, .slice po L pc] 36)
      replace S2 := hide ((unhide S2).all ba)
      replace HB := hide ((unhide HB).below ba)
      clear ba
      have HL := hide (show w.heap.size + 1 + 1 + 1 ≤ (w2.alloc (.cells #[.int .i64 L, .int .i64 1, .slice po L pc] 36)).heap.size from (unhide S2).row.lt)
      refine (unhide K2 _ d po pc (unhide S2).bel hkd hlt (unhide HB)).mono ?_
      rintro e w3 ⟨v, rfl, hv, hb⟩
      obtain ⟨bx, bt, bv, rfl, l1, l2, l3, c1, c2, c3⟩ := hv.ex
      have S3 := hide (show MjSt w w3 r c n cap ao (T d 0) bx bt bv po vo L pc vc (t d) (X d) from ⟨(unhide S2).all hb, Nat.le_trans (unhide HL) l1, Nat.le_trans (unhide HL) l2, Nat.le_trans (unhide HL) l3, c1, c2, c3, (unhide HB).below hb, unhide HN⟩)
      clear hv hb l1 l2 l3 c1 c2 c3 S2 HN HB HL
      have KC := hide (fun w' j hb hj hx h1 h2 h3 => unhide K3 w' d j po pc bx bt bv hb hkd hlt hj hx h1 h2 h3)
      have HPD := hide (fun j hj => unhide HP d j hkd hlt hj)
      have LTD := hide (unhide LT d)
      have HXD := hide (unhide HX d)
      generalize hTD : T d = TD at *
      generalize hUD : U d = UD at *
      generalize hPD : P d = PD at *
      generalize t d = td at *
      generalize X d = XD at *
      go_wp2_with fail
      go_loopw [48] (fun a wr => ∃ j : Nat, j ≤ L ∧ a = .int .i64 j ∧ Hid (MjSt w wr r c n cap ao (TD j) bx bt bv po vo L pc vc td XD)) (fun a _ => L - (intOf a).toNat)
      case atStart => exact ⟨0, Nat.zero_le _, rfl, S3⟩
      case round =>
        clear S3
        obtain ⟨j, hj, rfl, hS⟩ := hrel
        by_cases hjl : j < L
        · have hjI : (j : Int) < (L : Int) := by omega
          obtain ⟨hp, hpe, hset⟩ := unhide HPD j hjl
          have KJ := hide (fun w' hb hx h1 h2 h3 => unhide KC w' j hb hjl hx h1 h2 h3)
          have LL := hide (unhide LTD j); have HN := hide hset
          clear hset
          obtain ⟨a, ha⟩ : ∃ a, i + j = a := ⟨_, rfl⟩
          rw [ha] at hpe
          obtain ⟨q, hq⟩ : ∃ q, a * c = q := ⟨_, rfl⟩
          rw [hq] at hpe
          have e1 : IntKind.i64.wrap ((i : Int) + (j : Int)) = (a : Int) := (wrap_in _ (by omega)).trans (by omega)
          have e2 : IntKind.i64.wrap ((a : Int) * (c : Int)) = (q : Int) := by
            rw [cast_mul10 a c, hq]
            exact wrap_in _ (by omega)
          have e3 : IntKind.i64.wrap ((q : Int) + (d : Int)) = (PD j : Int) := (wrap_in _ (by omega)).trans (by omega)
          have e4 : (i : Int) + (j : Int) = (a : Int) := by omega
          have e5 : (a : Int) * (c : Int) = (q : Int) := by rw [cast_mul10 a c, hq]
          have e6 : (q : Int) + (d : Int) = (PD j : Int) := by omega
          have w1 : IntKind.i64.wrap (a : Int) = (a : Int) := wrap_in _ (by omega)
          have w2 : IntKind.i64.wrap (q : Int) = (q : Int) := wrap_in _ (by omega)
          have w3 : IntKind.i64.wrap (PD j : Int) = (PD j : Int) := wrap_in _ (by omega)
          generalize hTT : TD j = TT at *
          generalize hTN : TD (j + 1) = TN at *
          generalize PD j = p at *
          generalize UD j = u at *
          have hpI : (p : Int) < (n : Int) := by omega
          clear hq hpe ha
          go_wp2_with fail
          refine at_world (fun W => MjSt w W r c n cap ao TT bx bt bv po vo L pc vc td XD) (unhide hS) ?_
          clear hS
          intro W st
          have ST := hide (st.all ((Below.refl W.heap.size W).drew))
          clear st
          have y1 := (unhide ST).st.m.c1
          go_region_with (first
            | (go_at_call 126; refine (unhide KJ _ (unhide ST).st.bel (unhide ST).x (unhide ST).cx (unhide ST).ct (unhide ST).cv).mono ?_; rintro e w8 ⟨rfl, hb⟩; clear y1; have S8 := (unhide ST).all hb; have y1 := S8.st.m.c1; have d1 := S8.st.row.cell p (by rw [unhide LL]; exact hp); have f1' := S8.st.row.free p; have P9 := hide (S8.set p u); clear S8 hb ST KJ)
            | fail "NO ARM")
          all_goals
            clear d1 f1' y1
            go_wp2_with fail
            go_round
            case rel => exact ⟨j + 1, by omega, by go_num, by rw [hTN, ← unhide HN]; exact P9⟩
            case measure => simp [intOf]; omega
        · have hjj : j = L := by omega
          subst hjj
          have S4 := hide (unhide hS).st
          rw [unhide HXD] at S4
          clear hS
          go_wp2_with fail
          go_round
          case rel => exact ⟨d + 1, by omega, by omega, by go_num, S4⟩
          case measure => simp [intOf]; omega
    · have hdd : d = c := by omega
      subst hdd
      obtain ⟨h6, h1, h4, h5⟩ := unhide hS
      have y0 := h1.c0; have y1 := h1.c1; have y2 := h1.c2
      have r0 := h4.c0; have r1 := h4.c1; have r2 := h4.c2
      have f0 := h4.free 0; have f1 := h4.free 1; have f2 := h4.free 2
      have XP := h4.put (.int .i64 r) (.int .i64 d) (.slice (some ⟨w.heap.size + 1 + 1, 0, none⟩) n n)
      have z0 := XP.c0; have z1 := XP.c1; have z2 := XP.c2
      have RW := hide (h5.three (g := w.heap.size + 1) (by omega) (.int .i64 r) (.int .i64 d) (.slice (some ⟨w.heap.size + 1 + 1, 0, none⟩) n n))
      have BP := hide (below_putM h6 (b := w.heap.size + 1) (by omega) (.int .i64 r) (.int .i64 d) (.slice (some ⟨w.heap.size + 1 + 1, 0, none⟩) n n))
      clear XP h1 h4 h5 h6 hS
      go_wp2_with fail
      exact bodyPost_ret (v := .agg #[.int .i64 r, .int .i64 d, .slice (some ⟨w.heap.size + 1 + 1, 0, none⟩) n n]) (by simp [results, Tryz.results53, go_sem, z0, z1, z2]) rfl ⟨_, rfl, by omega, unhide RW, unhide BP⟩

end Go.Proofs.YtimejpbmehegeaaGreatDoor

/- Package house: Apply. -/
namespace Go.Proofs.YtimejpbmehegeaaGreatDoor
open Go.RowKit
attribute [local go_sem ↓] Go.wp_at_zero Go.wp_at_succ
set_option maxRecDepth 20000 in
set_option maxHeartbeats 4000000 in
theorem happly_of (r c n cap i k L vc tau : Nat) (ao vo : Option Addr) (S : List Nat) (w : World) (hr : r ≤ 6) (hi : i + L ≤ r) (hk : k ≤ c) (hl : S.length = n) (hS : ∀ x ∈ S, x < 18446744073709551616)
    (C1 : ∀ w', Calls Tryz.prog 52 #[.agg #[.int .i64 r, .int .i64 c, .slice ao n cap]] w' fun e w'' => e = .returned (.int .i64 0) ∧ Below w'.heap.size w' w'')
    (C2 : ∀ w', Below w.heap.size w w' → Calls Tryz.prog 53 #[.agg #[.int .i64 r, .int .i64 c, .slice ao n cap], .int .i64 i, .int .i64 k, .slice vo L vc, .int .u64 tau] w' fun e w'' => ∃ g, e = .returned (.agg #[.int .i64 r, .int .i64 c, .slice (some ⟨g, 0, none⟩) n n]) ∧ w'.heap.size ≤ g ∧ RowB w'' g S ∧ Below w'.heap.size w' w'') :
    Calls Tryz.prog 14 #[.agg #[.int .i64 r, .int .i64 c, .slice ao n cap], .int .i64 i, .int .i64 k, .slice vo L vc, .int .u64 tau] w fun e w' => ∃ v, e = .returned (.tuple #[v, .int .i64 0]) ∧ NewM w.heap.size w' r c S v ∧ Below w.heap.size w w' := by
  have K := hide (C1 ((w.alloc (.cells #[.int .i64 r, .int .i64 c, .slice ao n cap] 36)).alloc (.cells #[.int .i64 0, .int .i64 0, .slice none 0 0] 36)))
  simp only [size_alloc9] at K
  have KB := hide (boxes2 w (.int .i64 r) (.int .i64 c) (.slice ao n cap) (.int .i64 0) (.int .i64 0) (.slice none 0 0))
  have K2 := hide C2; have HL := hide hl; have HS := hide hS
  have hw : IntKind.i64.wrap ((r : Int) - (L : Int)) = (r : Int) - (L : Int) := wrap_in _ (by omega)
  have h1 : (i : Int) ≤ (r : Int) - (L : Int) := by omega
  have h2 : (k : Int) ≤ (c : Int) := by omega
  clear C1 C2 hl hS
  go_enter Tryz.func14, Tryz.ntmps14
  go_wp2_with fail
  refine Calls.mono (unhide K) ?_
  rintro e w1 ⟨rfl, hb1⟩
  obtain ⟨hB, hA, hX⟩ := unhide KB w1 hb1
  clear K KB hb1
  have a0 := hA.c0; have a1 := hA.c1; have a2 := hA.c2
  have HB := hide hB; have HX := hide hX
  clear hB hA hX
  go_wp2_with fail
  clear a0 a1 a2
  refine (unhide K2 _ (unhide HB)).mono ?_
  rintro e w2 ⟨g, rfl, hg, hr, hb⟩
  have hB := (unhide HB).trans (hb.mono (unhide HB).size)
  have hX := (unhide HX).all hb
  have HG := hide (Nat.le_trans (unhide HB).size hg)
  have hr2 := hr.bits (unhide HS)
  have f0 := hX.free 0; have f1 := hX.free 1; have f2 := hX.free 2
  have s0 := hX.c0; have s1 := hX.c1; have s2 := hX.c2
  have XP := hX.put (.int .i64 r) (.int .i64 c) (.slice (some ⟨g, 0, none⟩) n n)
  have z0 := XP.c0; have z1 := XP.c1; have z2 := XP.c2
  have Q := hide (hr2.putM hX (.int .i64 r) (.int .i64 c) (.slice (some ⟨g, 0, none⟩) n n))
  have BP := hide (below_putM hB (b := w.heap.size + 1) (by omega) (.int .i64 r) (.int .i64 c) (.slice (some ⟨g, 0, none⟩) n n))
  clear hB hX hb hg hr hr2 XP HB HX K2
  go_wp2
  exact bodyPost_ret (v := .tuple #[.agg #[.int .i64 r, .int .i64 c, .slice (some ⟨g, 0, none⟩) n n], .int .i64 0]) (by simp [results, Tryz.results14, go_sem, z0, z1, z2]) rfl ⟨_, rfl, ⟨_, n, by rw [unhide HL], .inr ⟨g, 0, rfl, unhide HG⟩, by have := unhide Q; rwa [unhide HL] at this⟩, unhide BP⟩

theorem apM_lt {r c : Nat} {S : List Nat} (hS : ∀ p q, elM c S p q < 18446744073709551616) (i k : Nat) (vs : List Nat) (tau : Nat) : ∀ x ∈ apM r c S i k vs tau, x < 18446744073709551616 := by
  intro x hx
  unfold apM mkM at hx
  obtain ⟨p, _, rfl⟩ := List.mem_map.1 hx
  show (if _ then _ else _) < _
  split
  · rename_i g
    exact apL_lt c S i _ vs tau (by omega) hS
  · exact hS _ _

/-- A column as a part. -/
theorem pa_col (c : Nat) (S : List Nat) (i d n : Nat) : paM c S i d n 1 = colL c S i n d := by
  unfold paM mkM colL
  rw [Nat.mul_one]
  refine List.map_congr_left (fun p _ => ?_)
  show elM c S (i + p / 1) (d + p % 1) = _
  rw [Nat.div_one, Nat.mod_one, Nat.add_zero]

theorem hApply_ok (r c cap i k vc tau : Nat) (ao vo : Option Addr) (S vs : List Nat) (w : World) (h : Mx w ao cap r c S) (hV : BitsAt w vo vc (mxL vs)) (hi : i + vs.length ≤ r) (hk : k ≤ c) (ht : tau < 18446744073709551616) (hT : Tab w) :
    Calls Tryz.prog 14 #[.agg #[.int .i64 r, .int .i64 c, .slice ao S.length cap], .int .i64 i, .int .i64 k, .slice vo vs.length vc, .int .u64 tau] w fun e w' => ∃ v, e = .returned (.tuple #[v, .int .i64 0]) ∧ NewM w.heap.size w' r c (apM r c S i k vs tau) v ∧ Below w.heap.size w w' := by
  have h36 := h.small
  have r6 := h.2.2.1
  have c6 := h.2.2.2
  refine happly_of r c S.length cap i k vs.length vc tau ao vo (apM r c S i k vs tau) w r6 hi hk (by rw [apM_len, h.2.1]) (apM_lt (fun p q => h.el_lt p q) i k vs tau) (fun w' => ?_) (fun w' hb => ?_)
  · have := mcheck_any (r : Int) (c : Int) ao S.length cap w' (by omega)
    rw [if_pos (mx_ok h)] at this
    exact this
  have hM := h.below hb
  have hV' := hV.below hb
  have hT' := hT.all hb
  rw [← apJ_all r c S i k vs tau c (Nat.le_refl _)]
  refine mirrored_of r c S.length cap i k vs.length vc tau ao vo (fun d j => apJ r c S i k vs tau d j) (fun d => mxL (colL c S i vs.length d)) (fun d j => (i + j) * c + d) (fun d j => (apL c S i d vs tau).getD j 0) (fun d => mV tau (dtV 0 vs (colL c S i vs.length d))) w' h36 c6 r6 hi hk
    (by show BitsAt w' ao cap (mxL (apJ r c S i k vs tau k 0)); rw [apJ_0 r c S i k vs tau h.2.1]; exact hM.1) (fun d j => by rw [apJ_len, h.2.1]) (fun d => apJ_next r c S i k vs tau d)
    (fun d j hd hdc hj => ⟨by rw [h.2.1]; exact place_lt (by omega) hdc, rfl, apJ_set r c S hi hdc hd hj⟩) (fun w'' d hb2 hd hdc => ?_) (fun w'' d po pc hb2 hd hdc hX => ?_) (fun w'' d j po pc bx bt bv hb2 hd hdc hj hX hx ht' hv => ?_)
  · refine (mPart_ok r c cap i d vs.length 1 ao S w'' (hM.below hb2) hi (by omega)).mono ?_
    rintro e w3 ⟨v, rfl, ⟨po, pc, rfl, hn, hx⟩, hb3⟩
    rw [pa_col] at hn hx ⊢
    rw [colL_len]
    exact ⟨po, pc, rfl, hn, hx, hb3⟩
  · have I := himage_any po vo pc vc tau (colL c S i vs.length d) vs w'' hX (hV'.below hb2) (colL_len _ _ _ _ _) (by omega) ht (hT'.all hb2)
    rw [colL_len] at I
    exact I
  · have hV2 := hV'.below hb2
    have hT2 := hT'.all hb2
    obtain ⟨b1, o1, e1, _, z1⟩ := hX.ne (by rw [mxL_len, colL_len]; omega)
    obtain ⟨b2, o2, e2, _, z2⟩ := hV2.ne (by rw [mxL_len]; omega)
    subst e1
    subst e2
    have q1 := z1 j (by rw [mxL_len, colL_len]; exact hj)
    have q2 := z2 j (by rw [mxL_len]; exact hj)
    rw [mxL_at, colL_at c S i vs.length d hj] at q1
    rw [mxL_at] at q2
    have lv : vs.getD j 0 < 18446744073709551616 := by
      have := hV.lt j
      rwa [mxL_at] at this
    show Calls _ _ _ w'' fun e w3 => e = .returned (.int .u64 ((apL c S i d vs tau).getD j 0 : Nat)) ∧ _
    rw [apL_at c S i d vs tau hj]
    exact himage1_of _ _ _ (mV (mV tau (dtV 0 vs (colL c S i vs.length d))) (vs.getD j 0)) _ j vs.length vs.length pc vc bx bv bt b1 o1 b2 o2 w'' hj hj hx hv ht' q1 q2
      (fun w3 hb3 => vmul_any _ _ w3 (mV_lt _ _) lv (hT2.all hb3)) (fun w3 hb3 => psub_any _ _ w3 (h.el_lt _ _) (mV_lt _ _) (hT2.all hb3))

end Go.Proofs.YtimejpbmehegeaaGreatDoor

/- The law MatrixParts, walked. -/
namespace Go.Proofs.YtimejpbmehegeaaGreatDoor
open Go.RowKit
attribute [local go_sem ↓] Go.wp_at_zero Go.wp_at_succ
theorem Mx.from {w : World} {ao : Option Addr} {cap p q : Nat} {I : List Int} (h : BitsAt w ao cap I) (ho : okB (p : Int) (q : Int) I.length = true) : Mx w ao cap p q (natL I) := by
  obtain ⟨p', q', e1, e2, hM, _⟩ := Mx.of h ho
  obtain rfl : p = p' := by omega
  obtain rfl : q = q' := by omega
  exact hM

end Go.Proofs.YtimejpbmehegeaaGreatDoor

