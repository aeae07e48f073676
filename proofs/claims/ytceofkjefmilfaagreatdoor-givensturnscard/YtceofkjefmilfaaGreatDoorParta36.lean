/- Part 36 of the texts. -/
import Derived.Test.YtceofkjefmilfaaGreatDoorParta35
import Derived.Test.YtceofkjefmilfaaGreatDoorParta31
import Derived.Deep.RegionLaw
import Derived.Deep.RegionWith
import Derived.Test.YtceofkjefmilfaaGreatDoorParta28
import Derived.Deep.RegionHeld3
/- What the turn of two numbers leaves, in whole numbers (GivensOne, GivensRight); rows turned keep the square (GivensKeeps). Ahead of stage 12. -/
namespace Go.Proofs.YtceofkjefmilfaaGreatDoor
/-- A tame number is no greater than 2^400; if it is not 0, no less than 2^-400. -/
theorem TameO.size {x : Nat} (h : TameO x) : ab (fQ x) ≤ p2 400 ∧ (fQ x = 0 ∨ p2 (-400) ≤ ab (fQ x)) := by
  by_cases h0 : fK x = 0
  · rw [fQ_nought x h0, ab_zero12]
    exact ⟨Rat.le_of_lt (p2_pos _), .inl rfl⟩
  · obtain ⟨t1, t2⟩ := eX_top x h.1 h.2.1 h0
    have h2 := h.2.2.resolve_left h0
    have m1 := p2_mono (show -400 ≤ eX x by omega)
    have m2 := p2_mono (show eX x + 1 ≤ 400 by omega)
    exact ⟨by grind, .inr (by grind)⟩

end Go.Proofs.YtceofkjefmilfaaGreatDoor

/- The reference of layer 10: Eye, In. -/
namespace Go.Proofs.YtceofkjefmilfaaGreatDoor
open Go.RowKit
attribute [local go_sem ↓] Go.wp_at_zero Go.wp_at_succ

/-- A matrix in a variable's box at g, the result's box at gr. -/
structure LpSt (w wr : World) (g gr p q : Nat) (mo : Option Addr) (mc : Nat) (S : List Nat) : Prop where
  bel : Below w.heap.size w wr
  box : BoxM wr g (.int .i64 p) (.int .i64 q) (.slice mo S.length mc)
  res : BoxM wr gr (.int .i64 0) (.int .i64 0) (.slice none 0 0)
  bits : BitsAt wr mo mc (mxL S)
  ne : gr ≠ g
  lo : w.heap.size ≤ g
theorem LpSt.all {w wr w' : World} {g gr p q : Nat} {mo : Option Addr} {mc : Nat} {S : List Nat} (h : LpSt w wr g gr p q mo mc S) (hb : Below wr.heap.size wr w') : LpSt w w' g gr p q mo mc S :=
  ⟨h.bel.trans (hb.mono h.bel.size), h.box.all hb, h.res.all hb, h.bits.below hb, h.ne, h.lo⟩
theorem LpSt.put {w wr : World} {g gr p q : Nat} {mo : Option Addr} {mc : Nat} {S : List Nat} (h : LpSt w wr g gr p q mo mc S) {no : Option Addr} {nc : Nat} {T : List Nat} (hT : BitsAt wr no nc (mxL T)) :
    LpSt w (((wr.setCell ⟨g, 0, none⟩ (.int .i64 p)).setCell ⟨g, 1, none⟩ (.int .i64 q)).setCell ⟨g, 2, none⟩ (.slice no T.length nc)) g gr p q no nc T :=
  ⟨below_putM h.bel h.lo _ _ _, h.box.put _ _ _, ((h.res.other (p := ⟨g, 0, none⟩) h.ne _).other (p := ⟨g, 1, none⟩) h.ne _).other (p := ⟨g, 2, none⟩) h.ne _, hT.putM h.box _ _ _, h.ne, h.lo⟩

theorem NewM.any {w : World} {r c : Nat} {S : List Nat} {ao : Option Addr} {cap : Nat} (h : BitsAt w ao cap (mxL S)) : NewM 0 w r c S (.agg #[.int .i64 r, .int .i64 c, .slice ao S.length cap]) := by
  refine ⟨ao, cap, rfl, ?_, h⟩
  rcases h.2.2 with e | ⟨b, off, e1, _, _⟩
  · exact .inl e
  · exact .inr ⟨b, off, e1, Nat.zero_le _⟩

end Go.Proofs.YtceofkjefmilfaaGreatDoor

/- The reference of layer 9: Div; of layer 12: Turn. -/
namespace Go.Proofs.YtceofkjefmilfaaGreatDoor
open Go.RowKit
attribute [local go_sem ↓] Go.wp_at_zero Go.wp_at_succ

set_option maxRecDepth 20000 in
set_option maxHeartbeats 4000000 in
theorem r9div_of (a b v : Nat) (o : Option Nat) (w : World)
    (hA : ∀ i w', (binOp .quo i (.float .f64 a) (.float .f64 b)).run Tryz.prog w' = .ok (.float .f64 (fres o a b w')) (fwld o w'))
    (F1 : ∀ w', Calls Tryz.prog 82 #[.int .u64 a] w' fun r w'' => r = .returned (.float .f64 a) ∧ w' = w'')
    (F2 : ∀ w', Calls Tryz.prog 82 #[.int .u64 b] w' fun r w'' => r = .returned (.float .f64 b) ∧ w' = w'')
    (N1 : ∀ u w', Calls Tryz.prog 80 #[.float .f64 (fres o a b u)] w' fun r w'' => r = .returned (.int .u64 v) ∧ w' = w'') :
    Calls Tryz.prog 46 #[.int .u64 a, .int .u64 b] w fun r w' => r = .returned (.int .u64 (v : Nat)) ∧ Below w.heap.size w w' := by
  have L1 := hide F1; have L2 := hide F2; have M1 := hide N1
  have B := hide (below_fwld o w)
  clear F1 F2 N1
  go_enter Tryz.func46, Tryz.ntmps46
  go_wp2_with fail
  refine (unhide L1 _).mono ?_
  rintro e w2 ⟨rfl, rfl⟩
  go_wp2_with fail
  refine (unhide L2 _).mono ?_
  rintro e w2 ⟨rfl, rfl⟩
  go_wp2_with fail
  refine (unhide M1 _ _).mono ?_
  rintro e w2 ⟨rfl, rfl⟩
  clear L1 L2 M1
  go_wp2
  go_ret
  exact ⟨rfl, unhide B⟩

theorem r9div_any (a b : Nat) (w : World) (ha : a < 18446744073709551616) (hb : b < 18446744073709551616) :
    Calls Tryz.prog 46 #[.int .u64 a, .int .u64 b] w fun r w' => r = .returned (.int .u64 (dV a b : Nat)) ∧ Below w.heap.size w w' :=
  r9div_of a b (dV a b) (Ieee.double.div a b) w (fun i w' => fdiv_run i a b w') (fun w' => f9_any a w' ha) (fun w' => f9_any b w' hb) (fun u w' => b9_of _ _ w' (fun w'' => canon_div a b u w'' ha hb))

set_option maxRecDepth 20000 in
set_option maxHeartbeats 4000000 in
theorem rturn12_of (f g m a b p q t n c s r : Nat) (kf kg k : Int) (w : World)
    (h : kg = 0 ∧ c = 4607182418800017408 ∧ s = 0 ∧ r = f ∨ ¬ kg = 0 ∧ kf = 0 ∧ c = 0 ∧ s = 4607182418800017408 ∧ r = g ∨ ¬ kg = 0 ∧ ¬ kf = 0)
    (hk : -5000 ≤ k ∧ k ≤ 5000)
    (C1 : ∀ w', Calls Tryz.prog 38 #[.int .u64 g] w' fun e w'' => e = .returned (.int .i64 kg) ∧ w' = w'')
    (C2 : ∀ w', Calls Tryz.prog 38 #[.int .u64 f] w' fun e w'' => e = .returned (.int .i64 kf) ∧ w' = w'')
    (C3 : ∀ w', Calls Tryz.prog 41 #[.int .u64 f] w' fun e w'' => e = .returned (.int .u64 (fR f : Nat)) ∧ w' = w'')
    (C4 : ∀ w', Calls Tryz.prog 41 #[.int .u64 g] w' fun e w'' => e = .returned (.int .u64 (fR g : Nat)) ∧ w' = w'')
    (C5 : ∀ w', Calls Tryz.prog 40 #[.int .u64 (fR f : Nat), .int .u64 (fR g : Nat)] w' fun e w'' => e = .returned (.int .u64 (m : Nat)) ∧ Below w'.heap.size w' w'')
    (C6 : ∀ w', Calls Tryz.prog 39 #[.int .u64 m] w' fun e w'' => e = .returned (.int .i64 k) ∧ Below w'.heap.size w' w'')
    (D1 : ¬ kg = 0 → ¬ kf = 0 → ∀ w', Calls Tryz.prog 42 #[.int .u64 f, .int .i64 (-k)] w' fun e w'' => e = .returned (.int .u64 (a : Nat)) ∧ Below w'.heap.size w' w'')
    (D2 : ∀ w', Calls Tryz.prog 42 #[.int .u64 g, .int .i64 (-k)] w' fun e w'' => e = .returned (.int .u64 (b : Nat)) ∧ Below w'.heap.size w' w'')
    (D3 : ∀ w', Calls Tryz.prog 45 #[.int .u64 a, .int .u64 a] w' fun e w'' => e = .returned (.int .u64 (p : Nat)) ∧ Below w'.heap.size w' w'')
    (D4 : ∀ w', Calls Tryz.prog 45 #[.int .u64 b, .int .u64 b] w' fun e w'' => e = .returned (.int .u64 (q : Nat)) ∧ Below w'.heap.size w' w'')
    (D5 : ∀ w', Calls Tryz.prog 44 #[.int .u64 p, .int .u64 q] w' fun e w'' => e = .returned (.int .u64 (t : Nat)) ∧ Below w'.heap.size w' w'')
    (D6 : ∀ w', Calls Tryz.prog 43 #[.int .u64 t] w' fun e w'' => e = .returned (.int .u64 (n : Nat)) ∧ Below w'.heap.size w' w'')
    (D7 : ¬ kg = 0 → ¬ kf = 0 → ∀ w', Calls Tryz.prog 46 #[.int .u64 a, .int .u64 n] w' fun e w'' => e = .returned (.int .u64 (c : Nat)) ∧ Below w'.heap.size w' w'')
    (D8 : ¬ kg = 0 → ¬ kf = 0 → ∀ w', Calls Tryz.prog 46 #[.int .u64 b, .int .u64 n] w' fun e w'' => e = .returned (.int .u64 (s : Nat)) ∧ Below w'.heap.size w' w'')
    (D9 : ¬ kg = 0 → ¬ kf = 0 → ∀ w', Calls Tryz.prog 42 #[.int .u64 n, .int .i64 k] w' fun e w'' => e = .returned (.int .u64 (r : Nat)) ∧ Below w'.heap.size w' w'') :
    Calls Tryz.prog 11 #[.int .u64 f, .int .u64 g] w fun e w' => e = .returned (.agg #[.int .u64 (c : Nat), .int .u64 (s : Nat), .int .u64 (r : Nat)]) ∧ Below w.heap.size w w' := by
  have K1 := hide C1; have K2 := hide C2; have K3 := hide C3; have K4 := hide C4; have K5 := hide C5; have K6 := hide C6
  have L1 := hide D1; have L2 := hide D2; have L3 := hide D3; have L4 := hide D4; have L5 := hide D5; have L6 := hide D6; have L7 := hide D7; have L8 := hide D8; have L9 := hide D9
  clear C1 C2 C3 C4 C5 C6 D1 D2 D3 D4 D5 D6 D7 D8 D9
  have B0 := hide (Below.refl w.heap.size w)
  rcases h with ⟨rfl, rfl, rfl, rfl⟩ | ⟨h1, rfl, rfl, rfl, rfl⟩ | ⟨h1, h2⟩
  · go_enter Tryz.func11, Tryz.ntmps11
    go_wp2_with fail
    refine (unhide K1 _).mono ?_
    rintro e w1 ⟨rfl, rfl⟩
    clear K1 K2 K3 K4 K5 K6 L1 L2 L3 L4 L5 L6 L7 L8 L9
    have X := BoxT.new 30 w (.int .u64 4607182418800017408) (.int .u64 0) (.int .u64 (r : Nat))
    have x0 := X.c0; have x1 := X.c1; have x2 := X.c2
    have BB := hide (below_alloc9 w (.cells #[.int .u64 4607182418800017408, .int .u64 0, .int .u64 (r : Nat)] 30))
    clear X
    go_wp2_with fail
    exact bodyPost_ret (v := .agg #[.int .u64 4607182418800017408, .int .u64 0, .int .u64 (r : Nat)]) (by simp [results, Tryz.results11, go_sem, x0, x1, x2]) rfl ⟨rfl, unhide BB⟩
  · go_enter Tryz.func11, Tryz.ntmps11
    go_wp2_with fail
    refine (unhide K1 _).mono ?_
    rintro e w1 ⟨rfl, rfl⟩
    go_wp2_with fail
    refine (unhide K2 _).mono ?_
    rintro e w1 ⟨rfl, rfl⟩
    clear K1 K2 K3 K4 K5 K6 L1 L2 L3 L4 L5 L6 L7 L8 L9
    have X := BoxT.new 30 w (.int .u64 0) (.int .u64 4607182418800017408) (.int .u64 (r : Nat))
    have x0 := X.c0; have x1 := X.c1; have x2 := X.c2
    have BB := hide (below_alloc9 w (.cells #[.int .u64 0, .int .u64 4607182418800017408, .int .u64 (r : Nat)] 30))
    clear X
    go_wp2_with fail
    exact bodyPost_ret (v := .agg #[.int .u64 0, .int .u64 4607182418800017408, .int .u64 (r : Nat)]) (by simp [results, Tryz.results11, go_sem, x0, x1, x2]) rfl ⟨rfl, unhide BB⟩
  · have L1' := hide (unhide L1 h1 h2); have L7' := hide (unhide L7 h1 h2); have L8' := hide (unhide L8 h1 h2); have L9' := hide (unhide L9 h1 h2)
    go_enter Tryz.func11, Tryz.ntmps11
    go_wp2_with fail
    refine (unhide K1 _).mono ?_
    rintro e w1 ⟨rfl, rfl⟩
    go_wp2_with fail
    refine (unhide K2 _).mono ?_
    rintro e w1 ⟨rfl, rfl⟩
    have ST := hide (show BoxT 30 (w.alloc (.cells #[.int .u64 0, .int .u64 0, .int .u64 0] 30)) w.heap.size (.int .u64 0) (.int .u64 0) (.int .u64 0) ∧ Below w.heap.size w _ from ⟨BoxT.new 30 w (.int .u64 0) (.int .u64 0) (.int .u64 0), below_alloc9 w (.cells #[.int .u64 0, .int .u64 0, .int .u64 0] 30)⟩)
    have hk0 : (0 : Int) - k = -k := by omega
    have hk1 : IntKind.i64.wrap (-k) = -k := wrap_in _ (by omega)
    go_wp2_with fail
    refine (unhide K3 _).mono ?_
    rintro e w1 ⟨rfl, rfl⟩
    go_wp2_with fail
    refine (unhide K4 _).mono ?_
    rintro e w1 ⟨rfl, rfl⟩
    go_wp2_with fail
    refine (unhide K5 _).mono ?_
    rintro e w3 ⟨rfl, hb⟩
    replace ST := hide (show BoxT 30 w3 w.heap.size (.int .u64 0) (.int .u64 0) (.int .u64 0) ∧ Below w.heap.size w w3 from ⟨(unhide ST).1.all hb, (unhide ST).2.trans (hb.mono (unhide ST).2.size)⟩)
    clear hb
    go_wp2_with fail
    refine (unhide K6 _).mono ?_
    rintro e w4 ⟨rfl, hb⟩
    replace ST := hide (show BoxT 30 w4 w.heap.size (.int .u64 0) (.int .u64 0) (.int .u64 0) ∧ Below w.heap.size w w4 from ⟨(unhide ST).1.all hb, (unhide ST).2.trans (hb.mono (unhide ST).2.size)⟩)
    clear hb
    go_wp2_with fail
    refine (unhide L1' _).mono ?_
    rintro e w5 ⟨rfl, hb⟩
    replace ST := hide (show BoxT 30 w5 w.heap.size (.int .u64 0) (.int .u64 0) (.int .u64 0) ∧ Below w.heap.size w w5 from ⟨(unhide ST).1.all hb, (unhide ST).2.trans (hb.mono (unhide ST).2.size)⟩)
    clear hb
    go_wp2_with fail
    refine (unhide L2 _).mono ?_
    rintro e w6 ⟨rfl, hb⟩
    replace ST := hide (show BoxT 30 w6 w.heap.size (.int .u64 0) (.int .u64 0) (.int .u64 0) ∧ Below w.heap.size w w6 from ⟨(unhide ST).1.all hb, (unhide ST).2.trans (hb.mono (unhide ST).2.size)⟩)
    clear hb
    go_wp2_with fail
    refine (unhide L3 _).mono ?_
    rintro e w7 ⟨rfl, hb⟩
    replace ST := hide (show BoxT 30 w7 w.heap.size (.int .u64 0) (.int .u64 0) (.int .u64 0) ∧ Below w.heap.size w w7 from ⟨(unhide ST).1.all hb, (unhide ST).2.trans (hb.mono (unhide ST).2.size)⟩)
    clear hb
    go_wp2_with fail
    refine (unhide L4 _).mono ?_
    rintro e w8 ⟨rfl, hb⟩
    replace ST := hide (show BoxT 30 w8 w.heap.size (.int .u64 0) (.int .u64 0) (.int .u64 0) ∧ Below w.heap.size w w8 from ⟨(unhide ST).1.all hb, (unhide ST).2.trans (hb.mono (unhide ST).2.size)⟩)
    clear hb
    go_wp2_with fail
    refine (unhide L5 _).mono ?_
    rintro e w9 ⟨rfl, hb⟩
    replace ST := hide (show BoxT 30 w9 w.heap.size (.int .u64 0) (.int .u64 0) (.int .u64 0) ∧ Below w.heap.size w w9 from ⟨(unhide ST).1.all hb, (unhide ST).2.trans (hb.mono (unhide ST).2.size)⟩)
    clear hb
    go_wp2_with fail
    refine (unhide L6 _).mono ?_
    rintro e w10 ⟨rfl, hb⟩
    replace ST := hide (show BoxT 30 w10 w.heap.size (.int .u64 0) (.int .u64 0) (.int .u64 0) ∧ Below w.heap.size w w10 from ⟨(unhide ST).1.all hb, (unhide ST).2.trans (hb.mono (unhide ST).2.size)⟩)
    clear hb
    go_wp2_with fail
    refine (unhide L7' _).mono ?_
    rintro e w11 ⟨rfl, hb⟩
    replace ST := hide (show BoxT 30 w11 w.heap.size (.int .u64 0) (.int .u64 0) (.int .u64 0) ∧ Below w.heap.size w w11 from ⟨(unhide ST).1.all hb, (unhide ST).2.trans (hb.mono (unhide ST).2.size)⟩)
    clear hb
    go_wp2_with fail
    refine (unhide L8' _).mono ?_
    rintro e w12 ⟨rfl, hb⟩
    replace ST := hide (show BoxT 30 w12 w.heap.size (.int .u64 0) (.int .u64 0) (.int .u64 0) ∧ Below w.heap.size w w12 from ⟨(unhide ST).1.all hb, (unhide ST).2.trans (hb.mono (unhide ST).2.size)⟩)
    clear hb
    go_wp2_with fail
    refine (unhide L9' _).mono ?_
    rintro e w13 ⟨rfl, hb⟩
    replace ST := hide (show BoxT 30 w13 w.heap.size (.int .u64 0) (.int .u64 0) (.int .u64 0) ∧ Below w.heap.size w w13 from ⟨(unhide ST).1.all hb, (unhide ST).2.trans (hb.mono (unhide ST).2.size)⟩)
    clear hb
    have y0 := (unhide ST).1.c0; have y1 := (unhide ST).1.c1; have y2 := (unhide ST).1.c2
    have f0 := (unhide ST).1.free 0; have f1 := (unhide ST).1.free 1; have f2 := (unhide ST).1.free 2
    have XP := (unhide ST).1.put (.int .u64 (c : Nat)) (.int .u64 (s : Nat)) (.int .u64 (r : Nat))
    have z0 := XP.c0; have z1 := XP.c1; have z2 := XP.c2
    have BP := hide (below_put3 (unhide ST).2 (Nat.le_refl _) (.int .u64 (c : Nat)) (.int .u64 (s : Nat)) (.int .u64 (r : Nat)))
    clear XP ST
    go_wp2_with fail
    exact bodyPost_ret (v := .agg #[.int .u64 (c : Nat), .int .u64 (s : Nat), .int .u64 (r : Nat)]) (by simp [results, Tryz.results11, go_sem, z0, z1, z2]) rfl ⟨rfl, unhide BP⟩

theorem gvK_range (f g : Nat) : -1074 ≤ gvK f g ∧ gvK f g ≤ 1024 := by
  have h1 := fR_lt f; have h2 := fR_lt g
  exact eX_range _ (by omega)
/-- The reference's Turn, of finite numbers. -/
theorem rturn12_any (f g : Nat) (w : World) (hf : f < 18446744073709551616) (hg : g < 18446744073709551616) (ff : fFin f = true) (fg : fFin g = true) :
    Calls Tryz.prog 11 #[.int .u64 f, .int .u64 g] w fun e w' => e = .returned (.agg #[.int .u64 (gvC f g : Nat), .int .u64 (gvS f g : Nat), .int .u64 (gvR f g : Nat)]) ∧ Below w.heap.size w w' := by
  have h1 := fR_lt f; have h2 := fR_lt g
  have r1 := fR_fin f ff; have r2 := fR_fin g fg
  have hk := gvK_range f g
  have em := mx_mag (fR f) (fR g) r1 r2
  have la := xV_lt f (-gvK f g) hf
  have lb := xV_lt g (-gvK f g) hg
  have lt := aV_lt (mV (xV f (-gvK f g)) (xV f (-gvK f g))) (mV (xV g (-gvK f g)) (xV g (-gvK f g))) (mV_lt _ _) (mV_lt _ _)
  have ln : gvN f g < 18446744073709551616 := sV_lt _ lt
  refine rturn12_of f g (max (fR f) (fR g)) (xV f (-gvK f g)) (xV g (-gvK f g)) (mV (xV f (-gvK f g)) (xV f (-gvK f g))) (mV (xV g (-gvK f g)) (xV g (-gvK f g))) (aV (mV (xV f (-gvK f g)) (xV f (-gvK f g))) (mV (xV g (-gvK f g)) (xV g (-gvK f g)))) (gvN f g) (gvC f g) (gvS f g) (gvR f g) (fK f) (fK g) (gvK f g) w ?_ (by omega)
    (fun w' => rkind_any g w' hg) (fun w' => rkind_any f w' hf) (fun w' => r8abs_any f w' hf) (fun w' => r8abs_any g w' hg) (fun w' => ?_) (fun w' => r8exp_any _ w' (by omega)) (fun _ _ w' => r9shift_any f _ w' hf (by omega)) (fun w' => r9shift_any g _ w' hg (by omega)) (fun w' => r9mul_any _ _ w' la la) (fun w' => r9mul_any _ _ w' lb lb) (fun w' => r9add_any _ _ w' (mV_lt _ _) (mV_lt _ _)) (fun w' => r9sqrt_any _ w' lt) (fun h1 h2 w' => ?_) (fun h1 h2 w' => ?_) (fun h1 h2 w' => ?_)
  · unfold gvC gvS gvR
    by_cases g0 : fK g = 0
    · exact .inl ⟨g0, if_pos g0, if_pos g0, if_pos g0⟩
    · rw [if_neg g0, if_neg g0, if_neg g0]
      by_cases f0 : fK f = 0
      · exact .inr (.inl ⟨by omega, f0, if_pos f0, if_pos f0, if_pos f0⟩)
      · exact .inr (.inr ⟨by omega, by omega⟩)
  · have := r8max_any (fR f) (fR g) w' (by omega) (by omega)
    rw [em] at this
    exact this
  · have := r9div_any (xV f (-gvK f g)) (gvN f g) w' la ln
    unfold gvC
    rw [if_neg h1, if_neg h2]
    exact this
  · have := r9div_any (xV g (-gvK f g)) (gvN f g) w' lb ln
    unfold gvS
    rw [if_neg h1, if_neg h2]
    exact this
  · have := r9shift_any (gvN f g) (gvK f g) w' ln (by omega)
    unfold gvR
    rw [if_neg h1, if_neg h2]
    exact this

end Go.Proofs.YtceofkjefmilfaaGreatDoor

/- Package plain: operations without their flags; package givens: turnOf, Turn. -/
namespace Go.Proofs.YtceofkjefmilfaaGreatDoor
open Go.RowKit
attribute [local go_sem ↓] Go.wp_at_zero Go.wp_at_succ

/-- Two numbers laid in a row. -/
theorem two_bits12 (w : World) (a b : Nat) (ha : a < 18446744073709551616) (hb : b < 18446744073709551616) : BitsAt (w.alloc (.cells #[.int .u64 (a : Nat), .int .u64 (b : Nat)] 23)) (some ⟨w.heap.size, 0, none⟩) 2 [(a : Int), (b : Int)] := by
  have h : RowB (w.alloc (.cells #[.int .u64 (a : Nat), .int .u64 (b : Nat)] 23)) w.heap.size [a, b] := heap_alloc_new w _
  exact h.bits (fun x hx => by simp at hx; rcases hx with rfl | rfl; exact ha; exact hb)

set_option maxRecDepth 20000 in
set_option maxHeartbeats 4000000 in
theorem turnOf_of (f g m a b p q t n c s r : Nat) (k : Int) (w : World) (hf : f < 18446744073709551616) (hg : g < 18446744073709551616) (hk : -5000 ≤ k ∧ k ≤ 5000)
    (C1 : ∀ w' ao, Below w.heap.size w w' → BitsAt w' ao 2 [(f : Int), (g : Int)] → Calls Tryz.prog 73 #[.slice ao 2 2] w' fun e w'' => e = .returned (.int .u64 (m : Nat)) ∧ Below w'.heap.size w' w'')
    (C2 : ∀ w', Below w.heap.size w w' → Calls Tryz.prog 72 #[.int .u64 m] w' fun e w'' => e = .returned (.int .i64 k) ∧ Below w'.heap.size w' w'')
    (D1 : ∀ w', Below w.heap.size w w' → Calls Tryz.prog 74 #[.int .u64 f, .int .i64 (-k)] w' fun e w'' => e = .returned (.int .u64 (a : Nat)) ∧ Below w'.heap.size w' w'')
    (D2 : ∀ w', Below w.heap.size w w' → Calls Tryz.prog 74 #[.int .u64 g, .int .i64 (-k)] w' fun e w'' => e = .returned (.int .u64 (b : Nat)) ∧ Below w'.heap.size w' w'')
    (D3 : ∀ w', Below w.heap.size w w' → Calls Tryz.prog 77 #[.int .u64 a, .int .u64 a] w' fun e w'' => e = .returned (.int .u64 (p : Nat)) ∧ Below w'.heap.size w' w'')
    (D4 : ∀ w', Below w.heap.size w w' → Calls Tryz.prog 77 #[.int .u64 b, .int .u64 b] w' fun e w'' => e = .returned (.int .u64 (q : Nat)) ∧ Below w'.heap.size w' w'')
    (D5 : ∀ w', Below w.heap.size w w' → Calls Tryz.prog 76 #[.int .u64 p, .int .u64 q] w' fun e w'' => e = .returned (.int .u64 (t : Nat)) ∧ Below w'.heap.size w' w'')
    (D6 : ∀ w', Below w.heap.size w w' → Calls Tryz.prog 75 #[.int .u64 t] w' fun e w'' => e = .returned (.int .u64 (n : Nat)) ∧ Below w'.heap.size w' w'')
    (D7 : ∀ w', Below w.heap.size w w' → Calls Tryz.prog 78 #[.int .u64 a, .int .u64 n] w' fun e w'' => e = .returned (.int .u64 (c : Nat)) ∧ Below w'.heap.size w' w'')
    (D8 : ∀ w', Below w.heap.size w w' → Calls Tryz.prog 78 #[.int .u64 b, .int .u64 n] w' fun e w'' => e = .returned (.int .u64 (s : Nat)) ∧ Below w'.heap.size w' w'')
    (D9 : ∀ w', Below w.heap.size w w' → Calls Tryz.prog 74 #[.int .u64 n, .int .i64 k] w' fun e w'' => e = .returned (.int .u64 (r : Nat)) ∧ Below w'.heap.size w' w'') :
    Calls Tryz.prog 36 #[.int .u64 f, .int .u64 g] w fun e w' => e = .returned (.tuple #[.int .u64 (c : Nat), .int .u64 (s : Nat), .int .u64 (r : Nat)]) ∧ Below w.heap.size w w' := by
  have K1 := hide C1; have K2 := hide C2
  have L1 := hide D1; have L2 := hide D2; have L3 := hide D3; have L4 := hide D4; have L5 := hide D5; have L6 := hide D6; have L7 := hide D7; have L8 := hide D8; have L9 := hide D9
  have TB := hide (two_bits12 w f g hf hg)
  have BB := hide (below_alloc9 w (.cells #[.int .u64 (f : Nat), .int .u64 (g : Nat)] 23))
  have hk1 : IntKind.i64.wrap (-k) = -k := wrap_in _ (by omega)
  clear C1 C2 D1 D2 D3 D4 D5 D6 D7 D8 D9 hf hg
  go_enter Tryz.func36, Tryz.ntmps36
  go_wp2_with fail
  refine (unhide K1 _ _ (unhide BB) (unhide TB)).mono ?_
  rintro e w1 ⟨rfl, hb⟩
  replace BB := hide ((unhide BB).trans (hb.mono (unhide BB).size))
  clear hb K1 TB
  go_wp2_with fail
  refine (unhide K2 _ (unhide BB)).mono ?_
  rintro e w1 ⟨rfl, hb⟩
  replace BB := hide ((unhide BB).trans (hb.mono (unhide BB).size))
  clear hb K2
  go_wp2_with fail
  refine (unhide L1 _ (unhide BB)).mono ?_
  rintro e w1 ⟨rfl, hb⟩
  replace BB := hide ((unhide BB).trans (hb.mono (unhide BB).size))
  clear hb L1
  go_wp2_with fail
  refine (unhide L2 _ (unhide BB)).mono ?_
  rintro e w1 ⟨rfl, hb⟩
  replace BB := hide ((unhide BB).trans (hb.mono (unhide BB).size))
  clear hb L2
  go_wp2_with fail
  refine (unhide L3 _ (unhide BB)).mono ?_
  rintro e w1 ⟨rfl, hb⟩
  replace BB := hide ((unhide BB).trans (hb.mono (unhide BB).size))
  clear hb L3
  go_wp2_with fail
  refine (unhide L4 _ (unhide BB)).mono ?_
  rintro e w1 ⟨rfl, hb⟩
  replace BB := hide ((unhide BB).trans (hb.mono (unhide BB).size))
  clear hb L4
  go_wp2_with fail
  refine (unhide L5 _ (unhide BB)).mono ?_
  rintro e w1 ⟨rfl, hb⟩
  replace BB := hide ((unhide BB).trans (hb.mono (unhide BB).size))
  clear hb L5
  go_wp2_with fail
  refine (unhide L6 _ (unhide BB)).mono ?_
  rintro e w1 ⟨rfl, hb⟩
  replace BB := hide ((unhide BB).trans (hb.mono (unhide BB).size))
  clear hb L6
  go_wp2_with fail
  refine (unhide L7 _ (unhide BB)).mono ?_
  rintro e w1 ⟨rfl, hb⟩
  replace BB := hide ((unhide BB).trans (hb.mono (unhide BB).size))
  clear hb L7
  go_wp2_with fail
  refine (unhide L8 _ (unhide BB)).mono ?_
  rintro e w1 ⟨rfl, hb⟩
  replace BB := hide ((unhide BB).trans (hb.mono (unhide BB).size))
  clear hb L8
  go_wp2_with fail
  refine (unhide L9 _ (unhide BB)).mono ?_
  rintro e w1 ⟨rfl, hb⟩
  replace BB := hide ((unhide BB).trans (hb.mono (unhide BB).size))
  clear hb L9
  go_wp2
  exact bodyPost_ret (v := .tuple #[.int .u64 (c : Nat), .int .u64 (s : Nat), .int .u64 (r : Nat)]) (by simp [results, Tryz.results36, go_sem]) rfl ⟨rfl, unhide BB⟩

theorem bg_two (f g : Nat) : bgK [(f : Int), (g : Int)] 2 = mx (mx 0 (fR f)) (fR g) := rfl
theorem fn_two (f g : Nat) : fnK [(f : Int), (g : Int)] 2 = (fFin f && fFin g) := by
  show ((true && fFin f) && fFin g) = _
  rw [Bool.true_and]

/-- turnOf, of finite numbers that are no noughts. -/
theorem turnOf_any (f g : Nat) (w : World) (hf : f < 18446744073709551616) (hg : g < 18446744073709551616) (ff : fFin f = true) (fg : fFin g = true) (f0 : ¬ fK f = 0) (g0 : ¬ fK g = 0) (hT : Tab w) :
    Calls Tryz.prog 36 #[.int .u64 f, .int .u64 g] w fun e w' => e = .returned (.tuple #[.int .u64 (gvC f g : Nat), .int .u64 (gvS f g : Nat), .int .u64 (gvR f g : Nat)]) ∧ Below w.heap.size w w' := by
  have h1 := fR_lt f; have h2 := fR_lt g
  have r1 := fR_fin f ff; have r2 := fR_fin g fg
  have hk := gvK_range f g
  have em : mx (mx 0 (fR f)) (fR g) = max (fR f) (fR g) := by
    rw [mx_mag 0 (fR f) (by omega) r1, show max 0 (fR f) = fR f by omega, mx_mag (fR f) (fR g) r1 r2]
  have la := xV_lt f (-gvK f g) hf
  have lb := xV_lt g (-gvK f g) hg
  have lt := aV_lt (mV (xV f (-gvK f g)) (xV f (-gvK f g))) (mV (xV g (-gvK f g)) (xV g (-gvK f g))) (mV_lt _ _) (mV_lt _ _)
  have ln : gvN f g < 18446744073709551616 := sV_lt _ lt
  have e1 : gvC f g = dV (xV f (-gvK f g)) (gvN f g) := by unfold gvC; rw [if_neg g0, if_neg f0]
  have e2 : gvS f g = dV (xV g (-gvK f g)) (gvN f g) := by unfold gvS; rw [if_neg g0, if_neg f0]
  have e3 : gvR f g = xV (gvN f g) (gvK f g) := by unfold gvR; rw [if_neg g0, if_neg f0]
  rw [e1, e2, e3]
  refine turnOf_of f g (max (fR f) (fR g)) (xV f (-gvK f g)) (xV g (-gvK f g)) (mV (xV f (-gvK f g)) (xV f (-gvK f g))) (mV (xV g (-gvK f g)) (xV g (-gvK f g))) (aV (mV (xV f (-gvK f g)) (xV f (-gvK f g))) (mV (xV g (-gvK f g)) (xV g (-gvK f g)))) (gvN f g) _ _ _ (gvK f g) w hf hg (by omega)
    (fun w' ao hb hI => ?_) (fun w' hb => ?_) (fun w' hb => vscale_any f _ w' hf (hT.all hb)) (fun w' hb => vscale_any g _ w' hg (hT.all hb)) (fun w' hb => vmul_any _ _ w' la la (hT.all hb)) (fun w' hb => vmul_any _ _ w' lb lb (hT.all hb)) (fun w' hb => vadd_any _ _ w' (mV_lt _ _) (mV_lt _ _) (hT.all hb)) (fun w' hb => psqrt_any _ w' lt (hT.all hb)) (fun w' hb => pdiv_any _ _ w' la ln (hT.all hb)) (fun w' hb => pdiv_any _ _ w' lb ln (hT.all hb)) (fun w' hb => vscale_any _ _ w' ln (hT.all hb))
  · have := vBiggest_any ao 2 _ w' hI (by simp)
    rw [show bgK [(f : Int), (g : Int)] [(f : Int), (g : Int)].length = max (fR f) (fR g) from (bg_two f g).trans em] at this
    exact this
  · exact cexp_any _ w' (by omega) (hT.all hb)

set_option maxRecDepth 20000 in
set_option maxHeartbeats 4000000 in
theorem gturn_of (f g c s r : Nat) (kf kg : Int) (fin : Bool) (er : Int) (w : World) (hf : f < 18446744073709551616) (hg : g < 18446744073709551616)
    (h : (fin = false ∧ c = 0 ∧ s = 0 ∧ r = 0 ∧ er = 4) ∨ (fin = true ∧ kg = 0 ∧ c = 4607182418800017408 ∧ s = 0 ∧ r = f ∧ er = 0) ∨ (fin = true ∧ ¬ kg = 0 ∧ kf = 0 ∧ c = 0 ∧ s = 4607182418800017408 ∧ r = g ∧ er = 0) ∨ (fin = true ∧ ¬ kg = 0 ∧ ¬ kf = 0 ∧ er = 0))
    (C1 : ∀ w' ao, Below w.heap.size w w' → BitsAt w' ao 2 [(f : Int), (g : Int)] → Calls Tryz.prog 34 #[.slice ao 2 2] w' fun e w'' => e = .returned (.bool fin) ∧ Below w'.heap.size w' w'')
    (C2 : ∀ w', Calls Tryz.prog 35 #[.int .u64 g] w' fun e w'' => e = .returned (.int .i64 kg) ∧ Below w'.heap.size w' w'')
    (C3 : ∀ w', Calls Tryz.prog 35 #[.int .u64 f] w' fun e w'' => e = .returned (.int .i64 kf) ∧ Below w'.heap.size w' w'')
    (C4 : fin = true → ¬ kg = 0 → ¬ kf = 0 → ∀ w', Below w.heap.size w w' → Calls Tryz.prog 36 #[.int .u64 f, .int .u64 g] w' fun e w'' => e = .returned (.tuple #[.int .u64 (c : Nat), .int .u64 (s : Nat), .int .u64 (r : Nat)]) ∧ Below w'.heap.size w' w'') :
    Calls Tryz.prog 8 #[.int .u64 f, .int .u64 g] w fun e w' => e = .returned (.tuple #[.int .u64 (c : Nat), .int .u64 (s : Nat), .int .u64 (r : Nat), .int .i64 er]) ∧ Below w.heap.size w w' := by
  have K1 := hide C1; have K2 := hide C2; have K3 := hide C3; have K4 := hide C4
  have TB := hide (two_bits12 w f g hf hg)
  have BB := hide (below_alloc9 w (.cells #[.int .u64 (f : Nat), .int .u64 (g : Nat)] 23))
  clear C1 C2 C3 C4 hf hg
  rcases h with ⟨rfl, rfl, rfl, rfl, rfl⟩ | ⟨rfl, rfl, rfl, rfl, rfl, rfl⟩ | ⟨rfl, h1, rfl, rfl, rfl, rfl, rfl⟩ | ⟨rfl, h1, h2, rfl⟩
  · go_enter Tryz.func8, Tryz.ntmps8
    go_wp2_with fail
    refine (unhide K1 _ _ (unhide BB) (unhide TB)).mono ?_
    rintro e w1 ⟨rfl, hb⟩
    replace BB := hide ((unhide BB).trans (hb.mono (unhide BB).size))
    clear hb K1 TB
    go_wp2
    exact bodyPost_ret (v := .tuple #[.int .u64 (0 : Nat), .int .u64 (0 : Nat), .int .u64 (0 : Nat), .int .i64 4]) (by simp [results, Tryz.results8, go_sem]) rfl ⟨rfl, unhide BB⟩
  · go_enter Tryz.func8, Tryz.ntmps8
    go_wp2_with fail
    refine (unhide K1 _ _ (unhide BB) (unhide TB)).mono ?_
    rintro e w1 ⟨rfl, hb⟩
    replace BB := hide ((unhide BB).trans (hb.mono (unhide BB).size))
    clear hb K1 TB
    go_wp2_with fail
    refine (unhide K2 _).mono ?_
    rintro e w1 ⟨rfl, hb⟩
    replace BB := hide ((unhide BB).trans (hb.mono (unhide BB).size))
    clear hb
    go_wp2
    exact bodyPost_ret (v := .tuple #[.int .u64 (4607182418800017408 : Nat), .int .u64 (0 : Nat), .int .u64 (r : Nat), .int .i64 0]) (by simp [results, Tryz.results8, go_sem]) rfl ⟨rfl, unhide BB⟩
  · go_enter Tryz.func8, Tryz.ntmps8
    go_wp2_with fail
    refine (unhide K1 _ _ (unhide BB) (unhide TB)).mono ?_
    rintro e w1 ⟨rfl, hb⟩
    replace BB := hide ((unhide BB).trans (hb.mono (unhide BB).size))
    clear hb K1 TB
    go_wp2_with fail
    refine (unhide K2 _).mono ?_
    rintro e w1 ⟨rfl, hb⟩
    replace BB := hide ((unhide BB).trans (hb.mono (unhide BB).size))
    clear hb
    go_wp2_with fail
    refine (unhide K3 _).mono ?_
    rintro e w1 ⟨rfl, hb⟩
    replace BB := hide ((unhide BB).trans (hb.mono (unhide BB).size))
    clear hb
    go_wp2
    exact bodyPost_ret (v := .tuple #[.int .u64 (0 : Nat), .int .u64 (4607182418800017408 : Nat), .int .u64 (r : Nat), .int .i64 0]) (by simp [results, Tryz.results8, go_sem]) rfl ⟨rfl, unhide BB⟩
  · have L4 := hide (unhide K4 rfl h1 h2)
    go_enter Tryz.func8, Tryz.ntmps8
    go_wp2_with fail
    refine (unhide K1 _ _ (unhide BB) (unhide TB)).mono ?_
    rintro e w1 ⟨rfl, hb⟩
    replace BB := hide ((unhide BB).trans (hb.mono (unhide BB).size))
    clear hb K1 TB
    go_wp2_with fail
    refine (unhide K2 _).mono ?_
    rintro e w1 ⟨rfl, hb⟩
    replace BB := hide ((unhide BB).trans (hb.mono (unhide BB).size))
    clear hb
    go_wp2_with fail
    refine (unhide K3 _).mono ?_
    rintro e w1 ⟨rfl, hb⟩
    replace BB := hide ((unhide BB).trans (hb.mono (unhide BB).size))
    clear hb
    go_wp2_with fail
    refine (unhide L4 _ (unhide BB)).mono ?_
    rintro e w1 ⟨rfl, hb⟩
    replace BB := hide ((unhide BB).trans (hb.mono (unhide BB).size))
    clear hb
    go_wp2
    exact bodyPost_ret (v := .tuple #[.int .u64 (c : Nat), .int .u64 (s : Nat), .int .u64 (r : Nat), .int .i64 0]) (by simp [results, Tryz.results8, go_sem]) rfl ⟨rfl, unhide BB⟩

theorem gturn_ok (f g : Nat) (w : World) (hf : f < 18446744073709551616) (hg : g < 18446744073709551616) (ff : fFin f = true) (fg : fFin g = true) (hT : Tab w) :
    Calls Tryz.prog 8 #[.int .u64 f, .int .u64 g] w fun e w' => e = .returned (.tuple #[.int .u64 (gvC f g : Nat), .int .u64 (gvS f g : Nat), .int .u64 (gvR f g : Nat), .int .i64 0]) ∧ Below w.heap.size w w' := by
  refine gturn_of f g _ _ _ (fK f) (fK g) true 0 w hf hg ?_ (fun w' ao hb hI => ?_) (fun w' => kind_any g w' hg) (fun w' => kind_any f w' hf) (fun _ g0 f0 w' hb => turnOf_any f g w' hf hg ff fg (by omega) (by omega) (hT.all hb))
  · unfold gvC gvS gvR
    by_cases g0 : fK g = 0
    · exact .inr (.inl ⟨rfl, g0, if_pos g0, if_pos g0, if_pos g0, rfl⟩)
    · rw [if_neg g0, if_neg g0, if_neg g0]
      by_cases f0 : fK f = 0
      · exact .inr (.inr (.inl ⟨rfl, by omega, f0, if_pos f0, if_pos f0, if_pos f0, rfl⟩))
      · exact .inr (.inr (.inr ⟨rfl, by omega, by omega, rfl⟩))
  · have := vFinite_any ao 2 _ w' hI (by simp)
    rw [show fnK [(f : Int), (g : Int)] [(f : Int), (g : Int)].length = true from (fn_two f g).trans (by rw [ff, fg]; rfl)] at this
    exact this

theorem gturn_no (f g : Nat) (w : World) (hf : f < 18446744073709551616) (hg : g < 18446744073709551616) (h : ¬ (fFin f = true ∧ fFin g = true)) :
    Calls Tryz.prog 8 #[.int .u64 f, .int .u64 g] w fun e w' => e = .returned (.tuple #[.int .u64 (0 : Nat), .int .u64 (0 : Nat), .int .u64 (0 : Nat), .int .i64 4]) ∧ Below w.heap.size w w' := by
  refine gturn_of f g 0 0 0 (fK f) (fK g) false 4 w hf hg (.inl ⟨rfl, rfl, rfl, rfl, rfl⟩) (fun w' ao hb hI => ?_) (fun w' => kind_any g w' hg) (fun w' => kind_any f w' hf) (fun e => by cases e)
  have := vFinite_any ao 2 _ w' hI (by simp)
  rw [show fnK [(f : Int), (g : Int)] [(f : Int), (g : Int)].length = false from (fn_two f g).trans (by
    cases h1 : fFin f
    · rfl
    · cases h2 : fFin g
      · rfl
      · exact absurd ⟨h1, h2⟩ h)] at this
  exact this

end Go.Proofs.YtceofkjefmilfaaGreatDoor

/- The reference of layer 12: Rows, Cols. -/
namespace Go.Proofs.YtceofkjefmilfaaGreatDoor
open Go.RowKit
attribute [local go_sem ↓] Go.wp_at_zero Go.wp_at_succ
/-- What holds in the reference's Rows: the matrix's box, the result's, the variable's. -/
def RoSt (w wr : World) (r c n cap : Nat) (ao : Option Addr) (T : List Nat) (po : Option Addr) (pc : Nat) : Prop :=
  BoxM wr w.heap.size (.int .i64 r) (.int .i64 c) (.slice ao n cap) ∧ BoxM wr (w.heap.size + 1) (.int .i64 0) (.int .i64 0) (.slice none 0 0) ∧ BoxM wr (w.heap.size + 1 + 1) (.int .i64 r) (.int .i64 c) (.slice po n pc) ∧ BitsAt wr po pc (mxL T) ∧ T.length = n ∧ Below w.heap.size w wr

theorem RoSt.all {w wr w' : World} {r c n cap : Nat} {ao : Option Addr} {T : List Nat} {po : Option Addr} {pc : Nat} (h : RoSt w wr r c n cap ao T po pc) (hb : Below wr.heap.size wr w') : RoSt w w' r c n cap ao T po pc :=
  ⟨h.1.all hb, h.2.1.all hb, h.2.2.1.all hb, h.2.2.2.1.below hb, h.2.2.2.2.1, h.2.2.2.2.2.trans (hb.mono h.2.2.2.2.2.size)⟩
end Go.Proofs.YtceofkjefmilfaaGreatDoor

