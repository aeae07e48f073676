/- Part 14 of the texts. -/
import Derived.Test.YtfnnbkclnflpfaaGreatDoorPartS13
import Derived.Deep.Cut
/- Contracts of Add, Sub, Mul, Same at a level. -/
namespace Go.Proofs.YtfnnbkclnflpfaaGreatDoor
open Go.RowKit

theorem addN {w : World} {v u : Value} {lo : Int} {W : Nat} {z1 z2 : Int} (hv : IsDy w v (oM z1) (oE z1 lo)) (hu : IsDy w u (oM z2) (oE z2 lo)) (h1 : Lvl lo W z1) (h2 : Lvl lo W z2) (h3 : Lvl lo W (z1 + z2)) (t : Tab w) :
    Calls Tryz.prog 125 #[v, u] w fun r w' => DyR w' r 0 (oM (z1 + z2)) (oE (z1 + z2) lo) ∧ Below w.heap.size w w' := by
  obtain ⟨na, ao, ca, A, rfl, a1, a2, a3, a4, a5⟩ := hv.right h1.right.2
  obtain ⟨nb, bo, cb, B, rfl, b1, b2, b3, b4, b5⟩ := hu.right h2.right.2
  rw [h1.right.1] at a5
  rw [h2.right.1] at b5
  have := dadd_right na nb ao bo ca cb A B _ _ w a1 b1 a5 b5 t
  obtain ⟨e1, e2, e3⟩ := ad_level h1 h2 h3
  rwa [a3, b3, e1, e2, e3] at this

theorem subN {w : World} {v u : Value} {lo : Int} {W : Nat} {z1 z2 : Int} (hv : IsDy w v (oM z1) (oE z1 lo)) (hu : IsDy w u (oM z2) (oE z2 lo)) (h1 : Lvl lo W z1) (h2 : Lvl lo W z2) (h3 : Lvl lo W (z1 - z2)) (t : Tab w) :
    Calls Tryz.prog 85 #[v, u] w fun r w' => DyR w' r 0 (oM (z1 - z2)) (oE (z1 - z2) lo) ∧ Below w.heap.size w w' := by
  obtain ⟨na, ao, ca, A, rfl, a1, a2, a3, a4, a5⟩ := hv.right h1.right.2
  obtain ⟨nb, bo, cb, B, rfl, b1, b2, b3, b4, b5⟩ := hu.right h2.right.2
  rw [h1.right.1] at a5
  rw [h2.right.1] at b5
  have := dsub_right na nb ao bo ca cb A B _ _ w a1 b1 a5 b5 t
  have h2' : Lvl lo W (-z2) := ⟨by rw [Int.natAbs_neg]; exact h2.1, h2.2⟩
  obtain ⟨e1, e2, e3⟩ := ad_level h1 h2' (by rw [← Int.sub_eq_add_neg]; exact h3)
  rw [(oM_neg z2).1, (oM_neg z2).2] at e1 e2 e3
  rw [← Int.sub_eq_add_neg] at e2 e3
  rwa [a3, b3, e1, e2, e3] at this

theorem mulN {w : World} {v u : Value} {lo1 lo2 : Int} {W1 W2 W : Nat} {z1 z2 : Int} (hv : IsDy w v (oM z1) (oE z1 lo1)) (hu : IsDy w u (oM z2) (oE z2 lo2)) (h1 : Lvl lo1 W1 z1) (h2 : Lvl lo2 W2 z2) (h3 : Lvl (lo1 + lo2) W (z1 * z2)) (t : Tab w) :
    Calls Tryz.prog 124 #[v, u] w fun r w' => DyR w' r 0 (oM (z1 * z2)) (oE (z1 * z2) (lo1 + lo2)) ∧ Below w.heap.size w w' := by
  obtain ⟨na, ao, ca, A, rfl, a1, a2, a3, a4, a5⟩ := hv.right h1.right.2
  obtain ⟨nb, bo, cb, B, rfl, b1, b2, b3, b4, b5⟩ := hu.right h2.right.2
  rw [h1.right.1] at a5
  rw [h2.right.1] at b5
  obtain ⟨e0, e1, e2, e3⟩ := mul_level h3 h1 h2
  have := dmul_right na nb ao bo ca cb A B _ _ w a1 b1 a5 b5 (by rw [a3, b3]; exact e0) t
  rwa [a3, b3, e1, e2, e3] at this

end Go.Proofs.YtfnnbkclnflpfaaGreatDoor

/- Contracts of soft's Value, and of the reference's. -/
namespace Go.Proofs.YtfnnbkclnflpfaaGreatDoor
open Go.RowKit

def fD (b : Nat) : Int := oM (fM b)
def fX (b : Nat) : Int := oE (fM b) (fE b)

theorem fM_tz (b : Nat) (h : fM b ≠ 0) : tz (fM b).natAbs < 53 := tz_lt _ _ (by omega) (by rw [p53]; exact fM_lt b)

theorem fM_ok (b : Nat) : dErr (fM b) (fE b) = 0 ∧ dM (fM b) (fE b) = fD b ∧ dX (fM b) (fE b) = fX b := by
  have h1 := fE_in b
  have hk : dOk (fM b) (fE b) = true := by
    unfold dOk
    rw [decide_eq_true (by omega)]
    by_cases h0 : fM b = 0
    · rw [decide_eq_true h0]; rfl
    · have := fM_tz b h0
      rw [decide_eq_true (p := -16384 ≤ _ ∧ _) (by omega)]
      simp
  unfold dErr dM dX
  rw [if_pos hk, if_pos hk, if_pos hk]
  exact ⟨rfl, rfl, rfl⟩

theorem fM_TOP (b : Nat) : (fM b).natAbs < TOP := lt_TOP (k := 53) (by rw [p53]; exact fM_lt b) (by decide)

set_option maxHeartbeats 4000000 in
theorem value_some (b : Nat) (w : World) (h : b < 18446744073709551616) (hf : fFin b = true) (hT : Tab w) :
    Calls Tryz.prog 80 #[.int .u64 b] w fun r w' => DyR w' r 0 (fD b) (fX b) ∧ Below w.heap.size w w' := by
  have CF := hide (fun w' => sfinite_any b w' h)
  rw [hf] at CF
  have CS := hide (fun w' => split_any b w' h)
  have CP := hide (fun w' => parts_any b w')
  have CO := hide (fun w' => of_any (fM b) w' (by have := fM_lt b; omega) (by have := fM_lt b; omega))
  obtain ⟨k1, k2, k3⟩ := fM_ok b
  have CM := hide (fun w' v B (hv : IsNum B w' v (fM b)) (t : Tab w') => make_num (fE b) hv (fM_TOP b) (by have := fE_in b; omega) t)
  rw [k1, k2, k3] at CM
  clear k1 k2 k3
  unfold fV at *
  generalize fM b = m at *
  generalize fE b = e at *
  generalize fD b = M at *
  generalize fX b = X at *
  generalize fS b = s at *
  generalize fP b = p at *
  generalize fF b = f at *
  clear hf h
  have hb0 : Below w.heap.size w (w.alloc (.cells #[.bool false, .slice none 0 0, .int .i64 0] 29)) := (Below.refl _ _).alloc (Nat.le_refl _) _
  have B0 := hide hb0; have X2 := hide (Box3.new w (.bool false) (.slice none 0 0) (.int .i64 0))
  clear hb0
  go_enter Tryz.func80, Tryz.ntmps80
  go_wp2_with fail
  refine (unhide CF _).mono ?_
  rintro r w1 ⟨rfl, hb1⟩
  have X3 := hide ((unhide X2).all hb1)
  have B1 := hide ((unhide B0).trans (hb1.mono (unhide B0).size))
  clear hb1 X2 B0 CF
  go_wp2_with fail
  refine (unhide CS _).mono ?_
  rintro r w2 ⟨rfl, hb2⟩
  have X4 := hide ((unhide X3).all hb2)
  have B2 := hide ((unhide B1).trans (hb2.mono (unhide B1).size))
  clear hb2 X3 B1 CS
  go_wp2_with fail
  refine (unhide CP _).mono ?_
  rintro r w3 ⟨rfl, hb3⟩
  have X5 := hide ((unhide X4).all hb3)
  have B3 := hide ((unhide B2).trans (hb3.mono (unhide B2).size))
  clear hb3 X4 B2 CP
  go_wp2_with fail
  refine (unhide CO _).mono ?_
  rintro r w4 ⟨v, rfl, hv, hb4⟩
  have X6 := hide ((unhide X5).all hb4)
  have b4 := (unhide B3).trans (hb4.mono (unhide B3).size)
  have B4 := hide b4
  have HT := hide (hT.all b4)
  have HV := hide hv
  clear hb4 X5 B3 CO b4 hv
  go_wp2_with fail
  refine (unhide CM _ _ _ (unhide HV) (unhide HT)).mono ?_
  rintro r w5 ⟨u, rfl, hu, hb5⟩
  have x7 := (unhide X6).all hb5
  have X7 := hide x7
  have B5 := hide ((unhide B4).trans (hb5.mono (unhide B4).size))
  obtain ⟨n2, a2, c2, L2, rfl, j2⟩ := hu
  have J := hide (show IsDy w5 (.agg #[.bool n2, .slice a2 L2.length c2, .int .i64 X]) M X from ⟨n2, a2, c2, L2, rfl, j2⟩)
  have y0 := x7.c0; have y1 := x7.c1; have y2 := x7.c2; have f0 := x7.free 0; have f1 := x7.free 1; have f2 := x7.free 2
  clear hb5 x7 X6 B4 CM j2
  go_wp2
  exact bodyPost_ret (v := .tuple #[.agg #[.bool n2, .slice a2 L2.length c2, .int .i64 X], .int .i64 0]) (by simp [results, Tryz.results80, go_sem, y0, y1, y2]) rfl ⟨⟨_, rfl, (unhide J).put3 (unhide X7) _ _ _⟩, below_put3 (unhide B5) (Nat.le_refl _) _ _ _⟩

end Go.Proofs.YtfnnbkclnflpfaaGreatDoor

/- Contract of the reference's Value. -/
namespace Go.Proofs.YtfnnbkclnflpfaaGreatDoor
open Go.RowKit

theorem refNeg_num {M B : Nat} {w : World} {v : Value} {z : Int} (hv : IsNumM M B w v z) (hM : M ≤ 1000000) :
    Calls Tryz.prog 98 #[v] w fun e w' => ∃ u, e = .returned u ∧ IsNumM M 0 w' u (-z) ∧ Below w.heap.size w w' := by
  obtain ⟨n, a, c, L, rfl, h2, h3, h4, h5, h6, h7⟩ := hv
  refine (refNeg_any n a c L w h2 (by omega)).mono ?_
  rintro e w' ⟨u, rfl, hu, hb⟩
  rw [sval_IsNum h5 h6] at hu
  exact ⟨u, rfl, hu.more h7, hb⟩

/-- A box of a Whole that holds the number z; the result's box; all below is as it was. -/
def VSt (w W : World) (g : Nat) (n : Bool) (a : Option Addr) (l c : Nat) (z : Int) : Prop :=
  Below w.heap.size w W ∧ Box3 W w.heap.size (.bool false) (.slice none 0 0) (.int .i64 0) ∧ Box2 W g (.bool n) (.slice a l c) ∧ w.heap.size < g ∧ IsNumM 2 0 W (.agg #[.bool n, .slice a l c]) z

theorem IsNumM.zeroB {M B : Nat} {w : World} {v : Value} {x : Int} (h : IsNumM M B w v x) : IsNumM M 0 w v x := by
  obtain ⟨neg, ao, cap, L, h1, h2, h3, h4⟩ := h
  exact ⟨neg, ao, cap, L, h1, h2, NewAt.zero h2, h4⟩

theorem IsNumM.box {M B : Nat} {w : World} {v : Value} {x : Int} (h : IsNumM M B w v x) {g : Nat} {y : Bool} {a : Option Addr} {n c : Nat} (hx : Box2 w g (.bool y) (.slice a n c)) (u u' : Value) : IsNumM M B ((w.setCell ⟨g, 0, none⟩ u).setCell ⟨g, 1, none⟩ u') v x := by
  obtain ⟨neg, ao, cap, L, h1, h2, h3⟩ := h
  exact ⟨neg, ao, cap, L, h1, h2.box hx u u', h3⟩

theorem VSt.below {w W W' : World} {g : Nat} {n : Bool} {a : Option Addr} {l c : Nat} {z : Int} (h : VSt w W g n a l c z) (hb : Below W.heap.size W W') : VSt w W' g n a l c z :=
  ⟨h.1.trans (hb.mono h.1.size), h.2.1.all hb, h.2.2.1.all hb, h.2.2.2.1, h.2.2.2.2.below hb⟩

/-- The store of a new number into the box. -/
theorem VSt.put {w W : World} {g : Nat} {n n' : Bool} {a a' : Option Addr} {l c l' c' : Nat} {z z' : Int} (h : VSt w W g n a l c z) (hv : IsNumM 2 0 W (.agg #[.bool n', .slice a' l' c']) z') :
    VSt w ((W.setCell ⟨g, 0, none⟩ (.bool n')).setCell ⟨g, 1, none⟩ (.slice a' l' c')) g n' a' l' c' z' := by
  obtain ⟨h1, h2, h3, h4, h5⟩ := h
  exact ⟨below_put2 h1 (by omega) _ _, (h2.other (by simp; omega) _).other (by simp; omega) _, h3.put _ _, h4, hv.box h3 _ _⟩

set_option maxHeartbeats 4000000 in
theorem rvalue_zo (b : Nat) (f : Nat) (a0 m e X Y : Int) (w : World) (hf0 : IntKind.i64.wrap (f : Int) = a0)
    (CF : ∀ w', Calls Tryz.prog 72 #[.int .u64 b] w' fun r w'' => r = .returned (.int .u64 f) ∧ w' = w'')
    (CP : ∀ w', Calls Tryz.prog 71 #[.int .u64 b] w' fun r w'' => r = .returned (.int .i64 0) ∧ w' = w'')
    (CN : ∀ w', Calls Tryz.prog 97 #[.int .u64 b] w' fun r w'' => r = .returned (.bool false) ∧ w' = w'')
    (CO : ∀ w', Calls Tryz.prog 49 #[.int .i64 a0] w' fun r w'' => ∃ v, r = .returned v ∧ IsNumM 2 w'.heap.size w'' v a0 ∧ Below w'.heap.size w' w'')
    (CV : ∀ w' v, IsNumM 2 0 w' v m → Calls Tryz.prog 48 #[v, .int .i64 e] w' fun r w'' => ∃ u, r = .returned u ∧ IsDy w'' u X Y ∧ Below w'.heap.size w' w'')
    (he : e = -1074) (hm : a0 = m)
    : Calls Tryz.prog 53 #[.int .u64 b] w fun r w' => ∃ u, r = .returned u ∧ IsDy w' u X Y ∧ Below w.heap.size w w' := by
  subst he hm
  have KF := hide CF; have KP := hide CP; have KN := hide CN; have KO := hide CO; have KV := hide CV
  clear CF CP CN CO CV
  have hb0 : Below w.heap.size w (w.alloc (.cells #[.bool false, .slice none 0 0, .int .i64 0] 29)) := (Below.refl _ _).alloc (Nat.le_refl _) _
  have B0 := hide hb0; have X2 := hide (Box3.new w (.bool false) (.slice none 0 0) (.int .i64 0))
  clear hb0
  go_enter Tryz.func53, Tryz.ntmps53
  go_wp2_with (go_at_call 72; refine (unhide KF _).mono ?_; rintro r w2 ⟨rfl, rfl⟩)
  refine (unhide KO _).mono ?_
  rintro r w1 ⟨v, rfl, hv, hb1⟩
  obtain ⟨n1, a1', c1, L1, rfl, i1⟩ := hv
  have b1 := (unhide B0).trans (hb1.mono (unhide B0).size)
  have v1 : VSt w (w1.alloc (.cells #[.bool n1, .slice a1' L1.length c1] 27)) w1.heap.size n1 a1' L1.length c1 a0 :=
    ⟨b1.alloc b1.size _, ((unhide X2).all hb1).old _, Box2.new _ _ _, by have := hb1.size; simp at this; omega, (IsNumM.zeroB ⟨n1, a1', c1, L1, rfl, i1⟩).below ((Below.refl _ _).alloc (Nat.le_refl _) _)⟩
  have V1 := hide v1
  clear b1 v1 hb1 i1 B0 X2 KO
  go_upto_region 3 with (fail)
  refine at_world (fun W => VSt w W w1.heap.size n1 a1' L1.length c1 a0) (unhide V1) ?_
  clear V1
  intro W1 v1
  generalize w1.heap.size = g at *
  generalize L1.length = l1 at *
  have VV := hide v1
  have y0 := v1.2.2.1.c0; have y1 := v1.2.2.1.c1; have f0 := v1.2.2.1.free 0; have f1 := v1.2.2.1.free 1
  clear v1
  go_wp2_with (first | (go_at_call 71; refine (unhide KP _).mono ?_; rintro r w2 ⟨rfl, rfl⟩) | (go_at_call 97; refine (unhide KN _).mono ?_; rintro r w2 ⟨rfl, rfl⟩))
  refine (unhide KV _ _ (unhide VV).2.2.2.2).mono ?_
  rintro r w9 ⟨u, rfl, hu, hb9⟩
  have v9 := (unhide VV).below hb9
  have x9 := v9.2.1
  have V9 := hide v9
  obtain ⟨n9, a9, c9, L9, rfl, j9⟩ := hu
  have J := hide (show IsDy w9 (.agg #[.bool n9, .slice a9 L9.length c9, .int .i64 Y]) X Y from ⟨n9, a9, c9, L9, rfl, j9⟩)
  clear y0 y1 f0 f1
  have y0 := x9.c0; have y1 := x9.c1; have y2 := x9.c2; have f0 := x9.free 0; have f1 := x9.free 1; have f2 := x9.free 2
  clear hb9 v9 x9 VV j9
  go_wp2
  exact bodyPost_ret (v := .agg #[.bool n9, .slice a9 L9.length c9, .int .i64 Y]) (by simp [results, Tryz.results53, go_sem, y0, y1, y2]) rfl ⟨_, rfl, (unhide J).put3 (unhide V9).2.1 _ _ _, below_put3 (unhide V9).1 (Nat.le_refl _) _ _ _⟩

set_option maxHeartbeats 4000000 in
theorem rvalue_zn (b : Nat) (f : Nat) (a0 m e X Y : Int) (w : World) (hf0 : IntKind.i64.wrap (f : Int) = a0)
    (CF : ∀ w', Calls Tryz.prog 72 #[.int .u64 b] w' fun r w'' => r = .returned (.int .u64 f) ∧ w' = w'')
    (CP : ∀ w', Calls Tryz.prog 71 #[.int .u64 b] w' fun r w'' => r = .returned (.int .i64 0) ∧ w' = w'')
    (CN : ∀ w', Calls Tryz.prog 97 #[.int .u64 b] w' fun r w'' => r = .returned (.bool true) ∧ w' = w'')
    (CO : ∀ w', Calls Tryz.prog 49 #[.int .i64 a0] w' fun r w'' => ∃ v, r = .returned v ∧ IsNumM 2 w'.heap.size w'' v a0 ∧ Below w'.heap.size w' w'')
    (CV : ∀ w' v, IsNumM 2 0 w' v (-m) → Calls Tryz.prog 48 #[v, .int .i64 e] w' fun r w'' => ∃ u, r = .returned u ∧ IsDy w'' u X Y ∧ Below w'.heap.size w' w'')
    (he : e = -1074) (hm : a0 = m)
    : Calls Tryz.prog 53 #[.int .u64 b] w fun r w' => ∃ u, r = .returned u ∧ IsDy w' u X Y ∧ Below w.heap.size w w' := by
  subst he hm
  have KF := hide CF; have KP := hide CP; have KN := hide CN; have KO := hide CO; have KV := hide CV
  clear CF CP CN CO CV
  have hb0 : Below w.heap.size w (w.alloc (.cells #[.bool false, .slice none 0 0, .int .i64 0] 29)) := (Below.refl _ _).alloc (Nat.le_refl _) _
  have B0 := hide hb0; have X2 := hide (Box3.new w (.bool false) (.slice none 0 0) (.int .i64 0))
  clear hb0
  go_enter Tryz.func53, Tryz.ntmps53
  go_wp2_with (go_at_call 72; refine (unhide KF _).mono ?_; rintro r w2 ⟨rfl, rfl⟩)
  refine (unhide KO _).mono ?_
  rintro r w1 ⟨v, rfl, hv, hb1⟩
  obtain ⟨n1, a1', c1, L1, rfl, i1⟩ := hv
  have b1 := (unhide B0).trans (hb1.mono (unhide B0).size)
  have v1 : VSt w (w1.alloc (.cells #[.bool n1, .slice a1' L1.length c1] 27)) w1.heap.size n1 a1' L1.length c1 a0 :=
    ⟨b1.alloc b1.size _, ((unhide X2).all hb1).old _, Box2.new _ _ _, by have := hb1.size; simp at this; omega, (IsNumM.zeroB ⟨n1, a1', c1, L1, rfl, i1⟩).below ((Below.refl _ _).alloc (Nat.le_refl _) _)⟩
  have V1 := hide v1
  clear b1 v1 hb1 i1 B0 X2 KO
  go_upto_region 3 with (fail)
  refine at_world (fun W => VSt w W w1.heap.size n1 a1' L1.length c1 a0) (unhide V1) ?_
  clear V1
  intro W1 v1
  generalize w1.heap.size = g at *
  generalize L1.length = l1 at *
  have VV := hide v1
  have y0 := v1.2.2.1.c0; have y1 := v1.2.2.1.c1; have f0 := v1.2.2.1.free 0; have f1 := v1.2.2.1.free 1
  clear v1
  go_wp2_with (first | (go_at_call 71; refine (unhide KP _).mono ?_; rintro r w2 ⟨rfl, rfl⟩) | (go_at_call 97; refine (unhide KN _).mono ?_; rintro r w2 ⟨rfl, rfl⟩))
  refine (refNeg_num (unhide VV).2.2.2.2 (by decide)).mono ?_
  rintro r w7 ⟨v, rfl, hv, hb7⟩
  have v5 := (unhide VV).below hb7
  clear VV hb7 y0 y1 f0 f1
  obtain ⟨n7, a7, c7, L7, rfl, i7⟩ := hv
  have v6 := v5.put ⟨n7, a7, c7, L7, rfl, i7⟩
  have V6 := hide v6
  have y0 := v5.2.2.1.c0; have y1 := v5.2.2.1.c1; have f0 := v5.2.2.1.free 0; have f1 := v5.2.2.1.free 1
  clear v5 v6 i7
  go_upto_region 8 with (fail)
  refine at_world (fun W => VSt w W g n7 a7 L7.length c7 _) (unhide V6) ?_
  clear V6 y0 y1 f0 f1
  intro W7 v5
  generalize L7.length = l7 at *
  have VV := hide v5
  have y0 := v5.2.2.1.c0; have y1 := v5.2.2.1.c1; have f0 := v5.2.2.1.free 0; have f1 := v5.2.2.1.free 1
  clear v5
  go_wp2_with fail
  refine (unhide KV _ _ (unhide VV).2.2.2.2).mono ?_
  rintro r w9 ⟨u, rfl, hu, hb9⟩
  have v9 := (unhide VV).below hb9
  have x9 := v9.2.1
  have V9 := hide v9
  obtain ⟨n9, a9, c9, L9, rfl, j9⟩ := hu
  have J := hide (show IsDy w9 (.agg #[.bool n9, .slice a9 L9.length c9, .int .i64 Y]) X Y from ⟨n9, a9, c9, L9, rfl, j9⟩)
  clear y0 y1 f0 f1
  have y0 := x9.c0; have y1 := x9.c1; have y2 := x9.c2; have f0 := x9.free 0; have f1 := x9.free 1; have f2 := x9.free 2
  clear hb9 v9 x9 VV j9
  go_wp2
  exact bodyPost_ret (v := .agg #[.bool n9, .slice a9 L9.length c9, .int .i64 Y]) (by simp [results, Tryz.results53, go_sem, y0, y1, y2]) rfl ⟨_, rfl, (unhide J).put3 (unhide V9).2.1 _ _ _, below_put3 (unhide V9).1 (Nat.le_refl _) _ _ _⟩

set_option maxHeartbeats 4000000 in
theorem rvalue_po (b : Nat) (p : Nat) (f : Nat) (a0 a1 m e X Y : Int) (w : World) (h1 : 0 < p) (hf0 : IntKind.i64.wrap (f : Int) = a0)
    (CF : ∀ w', Calls Tryz.prog 72 #[.int .u64 b] w' fun r w'' => r = .returned (.int .u64 f) ∧ w' = w'')
    (CP : ∀ w', Calls Tryz.prog 71 #[.int .u64 b] w' fun r w'' => r = .returned (.int .i64 p) ∧ w' = w'')
    (CN : ∀ w', Calls Tryz.prog 97 #[.int .u64 b] w' fun r w'' => r = .returned (.bool false) ∧ w' = w'')
    (CO : ∀ w', Calls Tryz.prog 49 #[.int .i64 a0] w' fun r w'' => ∃ v, r = .returned v ∧ IsNumM 2 w'.heap.size w'' v a0 ∧ Below w'.heap.size w' w'')
    (CV : ∀ w' v, IsNumM 2 0 w' v m → Calls Tryz.prog 48 #[v, .int .i64 e] w' fun r w'' => ∃ u, r = .returned u ∧ IsDy w'' u X Y ∧ Below w'.heap.size w' w'')
    (w1 : IntKind.u64.wrap ((f : Int) + 4503599627370496) = a1) (w2 : IntKind.i64.wrap a1 = m) (w3 : IntKind.i64.wrap ((p : Int) - 1075) = e)
    (C1 : ∀ w', Calls Tryz.prog 49 #[.int .i64 m] w' fun r w'' => ∃ v, r = .returned v ∧ IsNumM 2 w'.heap.size w'' v m ∧ Below w'.heap.size w' w'')
    : Calls Tryz.prog 53 #[.int .u64 b] w fun r w' => ∃ u, r = .returned u ∧ IsDy w' u X Y ∧ Below w.heap.size w w' := by
  have h1' : decide (0 < p) = true := decide_eq_true h1
  have KF := hide CF; have KP := hide CP; have KN := hide CN; have KO := hide CO; have KV := hide CV
  clear CF CP CN CO CV
  have K1 := hide C1
  clear C1
  have hb0 : Below w.heap.size w (w.alloc (.cells #[.bool false, .slice none 0 0, .int .i64 0] 29)) := (Below.refl _ _).alloc (Nat.le_refl _) _
  have B0 := hide hb0; have X2 := hide (Box3.new w (.bool false) (.slice none 0 0) (.int .i64 0))
  clear hb0
  go_enter Tryz.func53, Tryz.ntmps53
  go_wp2_with (go_at_call 72; refine (unhide KF _).mono ?_; rintro r w2 ⟨rfl, rfl⟩)
  refine (unhide KO _).mono ?_
  rintro r w1 ⟨v, rfl, hv, hb1⟩
  obtain ⟨n1, a1', c1, L1, rfl, i1⟩ := hv
  have b1 := (unhide B0).trans (hb1.mono (unhide B0).size)
  have v1 : VSt w (w1.alloc (.cells #[.bool n1, .slice a1' L1.length c1] 27)) w1.heap.size n1 a1' L1.length c1 a0 :=
    ⟨b1.alloc b1.size _, ((unhide X2).all hb1).old _, Box2.new _ _ _, by have := hb1.size; simp at this; omega, (IsNumM.zeroB ⟨n1, a1', c1, L1, rfl, i1⟩).below ((Below.refl _ _).alloc (Nat.le_refl _) _)⟩
  have V1 := hide v1
  clear b1 v1 hb1 i1 B0 X2 KO
  go_upto_region 3 with (fail)
  refine at_world (fun W => VSt w W w1.heap.size n1 a1' L1.length c1 a0) (unhide V1) ?_
  clear V1
  intro W1 v1
  generalize w1.heap.size = g at *
  generalize L1.length = l1 at *
  have VV := hide v1
  clear v1
  go_wp2_with (first | (go_at_call 71; refine (unhide KP _).mono ?_; rintro r w2 ⟨rfl, rfl⟩) | (go_at_call 72; refine (unhide KF _).mono ?_; rintro r w2 ⟨rfl, rfl⟩))
  refine (unhide K1 _).mono ?_
  rintro r w5 ⟨v, rfl, hv, hb5⟩
  have v5 := (unhide VV).below hb5
  clear VV hb5 K1
  obtain ⟨n5, a5, c5, L5, rfl, i5⟩ := hv
  have v6 := v5.put (IsNumM.zeroB ⟨n5, a5, c5, L5, rfl, i5⟩)
  have V6 := hide v6
  have y0 := v5.2.2.1.c0; have y1 := v5.2.2.1.c1; have f0 := v5.2.2.1.free 0; have f1 := v5.2.2.1.free 1
  clear v5 v6 i5
  go_upto_region 5 with (fail)
  refine at_world (fun W => VSt w W g n5 a5 L5.length c5 m) (unhide V6) ?_
  clear V6 y0 y1 f0 f1
  intro W5 v5
  generalize L5.length = l5 at *
  have VV := hide v5
  have y0 := v5.2.2.1.c0; have y1 := v5.2.2.1.c1; have f0 := v5.2.2.1.free 0; have f1 := v5.2.2.1.free 1
  clear v5
  go_wp2_with (first | (go_at_call 71; refine (unhide KP _).mono ?_; rintro r w2 ⟨rfl, rfl⟩) | (go_at_call 97; refine (unhide KN _).mono ?_; rintro r w2 ⟨rfl, rfl⟩))
  refine (unhide KV _ _ (unhide VV).2.2.2.2).mono ?_
  rintro r w9 ⟨u, rfl, hu, hb9⟩
  have v9 := (unhide VV).below hb9
  have x9 := v9.2.1
  have V9 := hide v9
  obtain ⟨n9, a9, c9, L9, rfl, j9⟩ := hu
  have J := hide (show IsDy w9 (.agg #[.bool n9, .slice a9 L9.length c9, .int .i64 Y]) X Y from ⟨n9, a9, c9, L9, rfl, j9⟩)
  clear y0 y1 f0 f1
  have y0 := x9.c0; have y1 := x9.c1; have y2 := x9.c2; have f0 := x9.free 0; have f1 := x9.free 1; have f2 := x9.free 2
  clear hb9 v9 x9 VV j9
  go_wp2
  exact bodyPost_ret (v := .agg #[.bool n9, .slice a9 L9.length c9, .int .i64 Y]) (by simp [results, Tryz.results53, go_sem, y0, y1, y2]) rfl ⟨_, rfl, (unhide J).put3 (unhide V9).2.1 _ _ _, below_put3 (unhide V9).1 (Nat.le_refl _) _ _ _⟩

set_option maxHeartbeats 4000000 in
theorem rvalue_pn (b : Nat) (p : Nat) (f : Nat) (a0 a1 m e X Y : Int) (w : World) (h1 : 0 < p) (hf0 : IntKind.i64.wrap (f : Int) = a0)
    (CF : ∀ w', Calls Tryz.prog 72 #[.int .u64 b] w' fun r w'' => r = .returned (.int .u64 f) ∧ w' = w'')
    (CP : ∀ w', Calls Tryz.prog 71 #[.int .u64 b] w' fun r w'' => r = .returned (.int .i64 p) ∧ w' = w'')
    (CN : ∀ w', Calls Tryz.prog 97 #[.int .u64 b] w' fun r w'' => r = .returned (.bool true) ∧ w' = w'')
    (CO : ∀ w', Calls Tryz.prog 49 #[.int .i64 a0] w' fun r w'' => ∃ v, r = .returned v ∧ IsNumM 2 w'.heap.size w'' v a0 ∧ Below w'.heap.size w' w'')
    (CV : ∀ w' v, IsNumM 2 0 w' v (-m) → Calls Tryz.prog 48 #[v, .int .i64 e] w' fun r w'' => ∃ u, r = .returned u ∧ IsDy w'' u X Y ∧ Below w'.heap.size w' w'')
    (w1 : IntKind.u64.wrap ((f : Int) + 4503599627370496) = a1) (w2 : IntKind.i64.wrap a1 = m) (w3 : IntKind.i64.wrap ((p : Int) - 1075) = e)
    (C1 : ∀ w', Calls Tryz.prog 49 #[.int .i64 m] w' fun r w'' => ∃ v, r = .returned v ∧ IsNumM 2 w'.heap.size w'' v m ∧ Below w'.heap.size w' w'')
    : Calls Tryz.prog 53 #[.int .u64 b] w fun r w' => ∃ u, r = .returned u ∧ IsDy w' u X Y ∧ Below w.heap.size w w' := by
  have h1' : decide (0 < p) = true := decide_eq_true h1
  have KF := hide CF; have KP := hide CP; have KN := hide CN; have KO := hide CO; have KV := hide CV
  clear CF CP CN CO CV
  have K1 := hide C1
  clear C1
  have hb0 : Below w.heap.size w (w.alloc (.cells #[.bool false, .slice none 0 0, .int .i64 0] 29)) := (Below.refl _ _).alloc (Nat.le_refl _) _
  have B0 := hide hb0; have X2 := hide (Box3.new w (.bool false) (.slice none 0 0) (.int .i64 0))
  clear hb0
  go_enter Tryz.func53, Tryz.ntmps53
  go_wp2_with (go_at_call 72; refine (unhide KF _).mono ?_; rintro r w2 ⟨rfl, rfl⟩)
  refine (unhide KO _).mono ?_
  rintro r w1 ⟨v, rfl, hv, hb1⟩
  obtain ⟨n1, a1', c1, L1, rfl, i1⟩ := hv
  have b1 := (unhide B0).trans (hb1.mono (unhide B0).size)
  have v1 : VSt w (w1.alloc (.cells #[.bool n1, .slice a1' L1.length c1] 27)) w1.heap.size n1 a1' L1.length c1 a0 :=
    ⟨b1.alloc b1.size _, ((unhide X2).all hb1).old _, Box2.new _ _ _, by have := hb1.size; simp at this; omega, (IsNumM.zeroB ⟨n1, a1', c1, L1, rfl, i1⟩).below ((Below.refl _ _).alloc (Nat.le_refl _) _)⟩
  have V1 := hide v1
  clear b1 v1 hb1 i1 B0 X2 KO
  go_upto_region 3 with (fail)
  refine at_world (fun W => VSt w W w1.heap.size n1 a1' L1.length c1 a0) (unhide V1) ?_
  clear V1
  intro W1 v1
  generalize w1.heap.size = g at *
  generalize L1.length = l1 at *
  have VV := hide v1
  clear v1
  go_wp2_with (first | (go_at_call 71; refine (unhide KP _).mono ?_; rintro r w2 ⟨rfl, rfl⟩) | (go_at_call 72; refine (unhide KF _).mono ?_; rintro r w2 ⟨rfl, rfl⟩))
  refine (unhide K1 _).mono ?_
  rintro r w5 ⟨v, rfl, hv, hb5⟩
  have v5 := (unhide VV).below hb5
  clear VV hb5 K1
  obtain ⟨n5, a5, c5, L5, rfl, i5⟩ := hv
  have v6 := v5.put (IsNumM.zeroB ⟨n5, a5, c5, L5, rfl, i5⟩)
  have V6 := hide v6
  have y0 := v5.2.2.1.c0; have y1 := v5.2.2.1.c1; have f0 := v5.2.2.1.free 0; have f1 := v5.2.2.1.free 1
  clear v5 v6 i5
  go_upto_region 5 with (fail)
  refine at_world (fun W => VSt w W g n5 a5 L5.length c5 m) (unhide V6) ?_
  clear V6 y0 y1 f0 f1
  intro W5 v5
  generalize L5.length = l5 at *
  have VV := hide v5
  have y0 := v5.2.2.1.c0; have y1 := v5.2.2.1.c1; have f0 := v5.2.2.1.free 0; have f1 := v5.2.2.1.free 1
  clear v5
  go_wp2_with (first | (go_at_call 71; refine (unhide KP _).mono ?_; rintro r w2 ⟨rfl, rfl⟩) | (go_at_call 97; refine (unhide KN _).mono ?_; rintro r w2 ⟨rfl, rfl⟩))
  refine (refNeg_num (unhide VV).2.2.2.2 (by decide)).mono ?_
  rintro r w7 ⟨v, rfl, hv, hb7⟩
  have v5 := (unhide VV).below hb7
  clear VV hb7 y0 y1 f0 f1
  obtain ⟨n7, a7, c7, L7, rfl, i7⟩ := hv
  have v6 := v5.put ⟨n7, a7, c7, L7, rfl, i7⟩
  have V6 := hide v6
  have y0 := v5.2.2.1.c0; have y1 := v5.2.2.1.c1; have f0 := v5.2.2.1.free 0; have f1 := v5.2.2.1.free 1
  clear v5 v6 i7
  go_upto_region 8 with (fail)
  refine at_world (fun W => VSt w W g n7 a7 L7.length c7 _) (unhide V6) ?_
  clear V6 y0 y1 f0 f1
  intro W7 v5
  generalize L7.length = l7 at *
  have VV := hide v5
  have y0 := v5.2.2.1.c0; have y1 := v5.2.2.1.c1; have f0 := v5.2.2.1.free 0; have f1 := v5.2.2.1.free 1
  clear v5
  go_wp2_with fail
  refine (unhide KV _ _ (unhide VV).2.2.2.2).mono ?_
  rintro r w9 ⟨u, rfl, hu, hb9⟩
  have v9 := (unhide VV).below hb9
  have x9 := v9.2.1
  have V9 := hide v9
  obtain ⟨n9, a9, c9, L9, rfl, j9⟩ := hu
  have J := hide (show IsDy w9 (.agg #[.bool n9, .slice a9 L9.length c9, .int .i64 Y]) X Y from ⟨n9, a9, c9, L9, rfl, j9⟩)
  clear y0 y1 f0 f1
  have y0 := x9.c0; have y1 := x9.c1; have y2 := x9.c2; have f0 := x9.free 0; have f1 := x9.free 1; have f2 := x9.free 2
  clear hb9 v9 x9 VV j9
  go_wp2
  exact bodyPost_ret (v := .agg #[.bool n9, .slice a9 L9.length c9, .int .i64 Y]) (by simp [results, Tryz.results53, go_sem, y0, y1, y2]) rfl ⟨_, rfl, (unhide J).put3 (unhide V9).2.1 _ _ _, below_put3 (unhide V9).1 (Nat.le_refl _) _ _ _⟩

end Go.Proofs.YtfnnbkclnflpfaaGreatDoor

/- Contract of the reference's Value, any bits; how many digits a number's limbs have. -/
namespace Go.Proofs.YtfnnbkclnflpfaaGreatDoor
open Go.RowKit

theorem rvalue_any (b : Nat) (w : World) (h : b < 18446744073709551616) :
    Calls Tryz.prog 53 #[.int .u64 b] w fun r w' => ∃ u, r = .returned u ∧ IsDy w' u (fD b) (fX b) ∧ Below w.heap.size w w' := by
  have CF := fun w' => rfrac_any b w' h
  have CP := fun w' => rpower_any b w' h
  have CN := fun w' => rneg4_any b w' h
  have hf := fF_lt b
  have hp := fP_lt b
  have hE := fE_in b
  have hfd : fD b = oM (fM b) := rfl
  have hfx : fX b = oE (fM b) (fE b) := rfl
  have hM : fM b = sg (fS b) (fA b) := rfl
  rw [hfd, hfx]
  by_cases h0 : fP b = 0
  · have hE0 : fE b = -1074 := by unfold fE; rw [if_pos h0]
    have hA0 : fA b = fF b := by unfold fA; rw [if_pos h0]
    rw [h0] at CP
    have hw : IntKind.i64.wrap (fF b : Int) = (fF b : Int) := by simp only [IntKind.wrap_i64]; omega
    cases hs : fS b with
    | false =>
      rw [hs] at CN hM
      have hm : (fF b : Int) = fM b := by rw [hM, hA0]; rfl
      exact rvalue_zo b (fF b) (fF b : Int) (fM b) (fE b) _ _ w hw CF CP CN (fun w' => refOf_any _ w' (by omega) (by omega)) (fun w' v hv => rof_small (fE b) hv (by decide) (by omega)) hE0 hm
    | true =>
      rw [hs] at CN hM
      have hm : (fF b : Int) = - fM b := by rw [hM, hA0]; simp [sg]
      refine rvalue_zn b (fF b) (fF b : Int) (fF b : Int) (fE b) _ _ w hw CF CP CN (fun w' => refOf_any _ w' (by omega) (by omega)) (fun w' v hv => ?_) hE0 rfl
      have : -(fF b : Int) = fM b := by omega
      rw [this] at hv
      exact rof_small (fE b) hv (by decide) (by omega)
  · have hE0 : fE b = (fP b : Int) - 1075 := by unfold fE; rw [if_neg h0]
    have hA0 : fA b = fF b + 4503599627370496 := by unfold fA; rw [if_neg h0]
    have hw : IntKind.i64.wrap (fF b : Int) = (fF b : Int) := by simp only [IntKind.wrap_i64]; omega
    have w1 : IntKind.u64.wrap ((fF b : Int) + 4503599627370496) = (fA b : Int) := by simp only [IntKind.wrap_u64]; omega
    have w2 : IntKind.i64.wrap (fA b : Int) = (fA b : Int) := by simp only [IntKind.wrap_i64]; omega
    have w3 : IntKind.i64.wrap ((fP b : Int) - 1075) = fE b := by simp only [IntKind.wrap_i64]; omega
    have hl := fA_lt b
    cases hs : fS b with
    | false =>
      rw [hs] at CN hM
      have hm : (fA b : Int) = fM b := by rw [hM]; rfl
      refine rvalue_po b (fP b) (fF b) (fF b : Int) (fA b : Int) (fA b : Int) (fE b) _ _ w (by omega) hw CF CP CN (fun w' => refOf_any _ w' (by omega) (by omega)) (fun w' v hv => ?_) w1 w2 w3 (fun w' => refOf_any _ w' (by omega) (by omega))
      rw [hm] at hv
      exact rof_small (fE b) hv (by decide) (by omega)
    | true =>
      rw [hs] at CN hM
      have hm : -(fA b : Int) = fM b := by rw [hM]; simp [sg]
      refine rvalue_pn b (fP b) (fF b) (fF b : Int) (fA b : Int) (fA b : Int) (fE b) _ _ w (by omega) hw CF CP CN (fun w' => refOf_any _ w' (by omega) (by omega)) (fun w' v hv => ?_) w1 w2 w3 (fun w' => refOf_any _ w' (by omega) (by omega))
      rw [hm] at hv
      exact rof_small (fE b) hv (by decide) (by omega)

theorem lenL_bl {L : List Nat} {n : Bool} (hf : Fits L) (hr : rightB n L = true) : lenL L = (bl (val L) : Int) := by
  rw [lenL_bits]
  by_cases h0 : L = []
  · subst h0; rfl
  · obtain ⟨a1, a2, a3⟩ := bits_spec L hf (right_canon hr).2.1 h0
    rw [bl_of a1 a2 a3]

end Go.Proofs.YtfnnbkclnflpfaaGreatDoor

/- Contracts of soft's roundSize, Round, any number. -/
namespace Go.Proofs.YtfnnbkclnflpfaaGreatDoor
open Go.RowKit
/-- A rung with its sign. -/
def wrd (neg : Bool) (r : Nat) : Nat := if neg = true then r + 9223372036854775808 else r
theorem wrd_true (r : Nat) : wrd true r = r + 9223372036854775808 := if_pos rfl
theorem wrd_false (r : Nat) : wrd false r = r := if_neg Bool.false_ne_true
end Go.Proofs.YtfnnbkclnflpfaaGreatDoor

