/- Part 25 of the texts. -/
import Derived.Test.YtibolacikaanpaaDoorPart24
import Derived.Deep.RegionHeld3
import Derived.Deep.CutRange
/- The reference's Quotient. -/
namespace Go.Proofs.YtibolacikaanpaaDoor
open Go.RowKit
attribute [local go_sem ↓] Go.wp_at_zero Go.wp_at_succ

theorem cmp_ge {x y : Int} (h : y ≤ x) : cmpI x y ≥ 0 := by unfold cmpI; split <;> (try split) <;> omega
theorem cmp_lt {x y : Int} (h : x < y) : ¬ cmpI x y ≥ 0 := by unfold cmpI; split <;> (try split) <;> omega
theorem QSt.as {w wr : World} {va vb vq vr : Value × Value} {zq zr zq' zr' : Int} (h : QSt w va vb wr vq zq vr zr) (h1 : zq = zq') (h2 : zr = zr') : QSt w va vb wr vq zq' vr zr' := by subst h1 h2; exact h
theorem QSt.start (w : World) (x y x' y' : Value) :
    QSt w (x, y) (x', y') ((((((w.alloc (.cells #[x, y] 44)).alloc (.cells #[x', y'] 44)).alloc (.cells #[.bool false, .slice none 0 0] 44)).alloc (.cells #[.bool false, .slice none 0 0] 44)).alloc (.cells #[.bool false, .slice none 0 0] 44)).alloc (.cells #[.bool false, .slice none 0 0] 44)) (.bool false, .slice none 0 0) 0 (.bool false, .slice none 0 0) 0 := by
  have s1 : ∀ (u : World) (o : Obj), (u.alloc o).heap.size = u.heap.size + 1 := fun u o => by simp
  refine ⟨((((((Below.refl _ _).alloc (Nat.le_refl _) _).alloc (by simp) _).alloc (by simp; omega) _).alloc (by simp; omega) _).alloc (by simp; omega) _).alloc (by simp; omega) _, ?_, ?_, ?_, ?_, ?_, ?_, IsNum.zero _ _ _ _, IsNum.zero _ _ _ _⟩
  · exact (((((Box2.new _ _ _).old _).old _).old _).old _).old _
  · have := ((((Box2.new (w.alloc (.cells #[x, y] 44)) x' y').old (.cells #[.bool false, .slice none 0 0] 44)).old (.cells #[.bool false, .slice none 0 0] 44)).old (.cells #[.bool false, .slice none 0 0] 44)).old (.cells #[.bool false, .slice none 0 0] 44)
    simpa using this
  · have := (((Box2.new ((w.alloc (.cells #[x, y] 44)).alloc (.cells #[x', y'] 44)) (.bool false) (.slice none 0 0)).old (.cells #[.bool false, .slice none 0 0] 44)).old (.cells #[.bool false, .slice none 0 0] 44)).old (.cells #[.bool false, .slice none 0 0] 44)
    simpa using this
  · have := ((Box2.new (((w.alloc (.cells #[x, y] 44)).alloc (.cells #[x', y'] 44)).alloc (.cells #[.bool false, .slice none 0 0] 44)) (.bool false) (.slice none 0 0)).old (.cells #[.bool false, .slice none 0 0] 44)).old (.cells #[.bool false, .slice none 0 0] 44)
    simpa using this
  · have := (Box2.new ((((w.alloc (.cells #[x, y] 44)).alloc (.cells #[x', y'] 44)).alloc (.cells #[.bool false, .slice none 0 0] 44)).alloc (.cells #[.bool false, .slice none 0 0] 44)) (.bool false) (.slice none 0 0)).old (.cells #[.bool false, .slice none 0 0] 44)
    simpa using this
  · have := Box2.new (((((w.alloc (.cells #[x, y] 44)).alloc (.cells #[x', y'] 44)).alloc (.cells #[.bool false, .slice none 0 0] 44)).alloc (.cells #[.bool false, .slice none 0 0] 44)).alloc (.cells #[.bool false, .slice none 0 0] 44)) (.bool false) (.slice none 0 0)
    simpa using this

set_option maxRecDepth 20000 in
set_option maxHeartbeats 16000000 in
theorem rquot_ways (A D P ln : Nat) (F G : Nat → Nat) (sh : Nat → Int → Nat) (na nb : Bool) (ao bo : Option Addr) (la lb ca cb Ba Bb : Nat) (w : World)
    (hva : IsNum Ba w (.agg #[.bool na, .slice ao la ca]) (A : Nat)) (hvb : IsNum Bb w (.agg #[.bool nb, .slice bo lb cb]) (D : Nat))
    (hA8 : A < 2 ^ 8000) (hP : ∀ x : Int, x.natAbs < 4 * P → x.natAbs < 2 ^ 8000) (hD : 0 < D ∧ D < P) (hl : ln ≤ 8000) (hlen : bl A = ln)
    (hF : ∀ k, F k < P ∧ G k < D) (hend : F ln = 0 ∧ G ln = 0)
    (hsh : ∀ n : Int, (if 0 ≤ n then A * 2 ^ n.toNat else A / 2 ^ (-n).toNat) = sh A n) (hN : ∀ j : Nat, sh A (-(j : Int)) < P)
    (hs : ∀ j, F j = 2 * F (j + 1) + (if D ≤ 2 * G (j + 1) + sh A (-(j : Int)) % 2 then 1 else 0) ∧ G j = 2 * G (j + 1) + sh A (-(j : Int)) % 2 - (if D ≤ 2 * G (j + 1) + sh A (-(j : Int)) % 2 then D else 0)) :
    Calls Tryd.prog 32 #[.agg #[.bool na, .slice ao la ca], .agg #[.bool nb, .slice bo lb cb]] w fun e w' => ∃ v u, e = .returned (.tuple #[v, u]) ∧ IsNum w.heap.size w' v (F 0 : Nat) ∧ IsNum 0 w' u (G 0 : Nat) ∧ Below w.heap.size w w' := by
  have HP := hide hP; have HS := hide hs; have HF := hide hF; have HN := hide hN; have HE := hide hend; have HSQ := hide hsh
  have CL := hide (fun (w' : World) (v : Value) (h : IsNum Ba w' v (A : Int)) => rlen6 h (by rw [Int.natAbs_natCast]; exact hA8))
  have HA8 := hide hA8
  rw [Int.natAbs_natCast, hlen] at CL
  clear hP hs hF hN hend hsh hlen hA8
  have S0 := QSt.start w (.bool na) (.slice ao la ca) (.bool nb) (.slice bo lb cb)
  go_enter Tryd.func32, Tryd.ntmps32
  go_wp2_with fail
  refine (unhide CL _ _ (hva.below S0.1)).mono ?_
  rintro e w1 ⟨rfl, hb⟩
  have H1 := hide (S0.below hb)
  clear S0 hb CL
  go_wp2_with fail
  go_loopw [8] (fun i wr => ∃ (k : Nat) (nq : Bool) (aq : Option Addr) (lq cq : Nat) (nr : Bool) (ar : Option Addr) (lr cr : Nat), k ≤ ln ∧ i = .int .i64 ((k : Int) - 1) ∧ Hid (QSt w (.bool na, .slice ao la ca) (.bool nb, .slice bo lb cb) wr (.bool nq, .slice aq lq cq) (F k : Nat) (.bool nr, .slice ar lr cr) (G k : Nat))) (fun i _ => (intOf i + 1).toNat)
  case atStart => exact ⟨ln, _, _, _, _, _, _, _, _, Nat.le_refl _, int_eq (by omega), hide (by have h := unhide HE; rw [h.1, h.2]; exact unhide H1)⟩
  case round =>
    clear H1 HE
    obtain ⟨k, nq, aq, lq, cq, nr, ar, lr, cr, hk, rfl, St⟩ := hrel
    have St := unhide St
    rcases Nat.eq_zero_or_pos k with h0 | h0
    · subst h0
      have hi : ¬ (((0 : Nat) : Int) - 1 ≥ 0) := by omega
      obtain ⟨z0, z1, z2, z3, z4, z5, z6, z7, z8⟩ := St
      have xq0 := z5.c0; have xq1 := z5.c1; have xr0 := z6.c0; have xr1 := z6.c1
      have xv0 := z3.c0; have xv1 := z3.c1; have xu0 := z4.c0; have xu1 := z4.c1
      have xf0 := z3.free 0; have xf1 := z3.free 1; have xg0 := z4.free 0; have xg1 := z4.free 1
      have Z0 := hide z0; have Z3 := hide z3; have Z4 := hide z4; have Z7 := hide z7; have Z8 := hide z8
      clear z0 z1 z2 z3 z4 z5 z6 z7 z8 HP HS HF HN HSQ
      go_wp2_with fail
      go_region_with fail
      all_goals
        go_wp2
        have e0 := (unhide Z3).put (.bool nq) (.slice aq lq cq)
        have e1 := e0.oth6 (show w.heap.size + 1 + 1 ≠ w.heap.size + 1 + 1 + 1 by omega) (.bool nr) (.slice ar lr cr)
        have e2 := ((unhide Z4).oth6 (show w.heap.size + 1 + 1 + 1 ≠ w.heap.size + 1 + 1 by omega) (.bool nq) (.slice aq lq cq)).put (.bool nr) (.slice ar lr cr)
        have d0 := e1.c0; have d1 := e1.c1; have d2 := e2.c0; have d3 := e2.c1
        refine bodyPost_ret (v := .tuple #[.agg #[.bool nq, .slice aq lq cq], .agg #[.bool nr, .slice ar lr cr]]) (by simp [results, Tryd.results32, go_sem, d0, d1, d2, d3]) rfl ⟨_, _, rfl, ?_, ?_, ?_⟩
        · exact IsNum.mono (((unhide Z7).put2 (p := ⟨w.heap.size + 1 + 1, 0, none⟩) (q := ⟨w.heap.size + 1 + 1, 1, none⟩) (by simp) (by simp) _ _).put2 (p := ⟨w.heap.size + 1 + 1 + 1, 0, none⟩) (q := ⟨w.heap.size + 1 + 1 + 1, 1, none⟩) (by simp) (by simp) _ _) (Nat.le_add_right _ 6)
        · exact IsNum.mono (((unhide Z8).put2 (p := ⟨w.heap.size + 1 + 1, 0, none⟩) (q := ⟨w.heap.size + 1 + 1, 1, none⟩) (by simp) (by simp) _ _).put2 (p := ⟨w.heap.size + 1 + 1 + 1, 0, none⟩) (q := ⟨w.heap.size + 1 + 1 + 1, 1, none⟩) (by simp) (by simp) _ _) (Nat.zero_le _)
        · exact (below_put2 (below_put2 (unhide Z0) (show w.heap.size ≤ w.heap.size + 1 + 1 by omega) _ _) (show w.heap.size ≤ w.heap.size + 1 + 1 + 1 by omega) _ _).drew
    obtain ⟨j, rfl⟩ : ∃ j, k = j + 1 := ⟨k - 1, by omega⟩
    have hi : (((j + 1 : Nat) : Int) - 1 ≥ 0) := by omega
    have f1 := unhide HF (j + 1)
    have n1 := unhide HN j
    have s1 := unhide HS j
    have HSH := hide (unhide HSQ (-(j : Int)))
    clear HF HN HS HSQ
    generalize hq : F (j + 1) = q at *
    generalize hr : G (j + 1) = r at *
    generalize hN : sh A (-(j : Int)) = N at *
    obtain ⟨s2, s3⟩ := s1
    have HNQ := hide s2; have HNR := hide s3
    clear s2 s3 hq hr hN
    rcases Nat.mod_two_eq_zero_or_one N with hb | hb <;> by_cases hge : D ≤ 2 * r + N % 2
    rotate_left 2
    · -- odd True, enough True
      have ho : N % 2 = 1 := by omega
      have hg : D ≤ 2 * r + N % 2 := by assumption
      have cs := St.cells
      dsimp only at cs
      obtain ⟨⟨xa0, xa1⟩, ⟨xb0, xb1⟩, ⟨xq0, xq1, xf0, xf1⟩, ⟨xr0, xr1, xg0, xg1⟩⟩ := cs
      go_wp2_with fail
      refine (rdouble6 St.2.2.2.2.2.2.2.2 (unhide HP _ (by omega))).mono ?_
      rintro e w1 ⟨v, rfl, ⟨n1, a1, c1, L1, rfl, i1⟩, hb⟩
      clear xa0 xa1 xb0 xb1 xq0 xq1 xf0 xf1 xr0 xr1 xg0 xg1
      have I1 : IsNum (w.heap.size + 6) w1 (.agg #[.bool n1, .slice a1 L1.length c1]) (2 * (r : Int)) := IsNum.mono ⟨n1, a1, c1, L1, rfl, i1⟩ (Nat.le_trans St.room (by first | exact Nat.le_refl _ | exact hb.size))
      have St := St.below hb
      clear i1 hb
      generalize L1.length = l1 at *
      have cs := St.cells
      dsimp only at cs
      obtain ⟨⟨xa0, xa1⟩, ⟨xb0, xb1⟩, ⟨xq0, xq1, xf0, xf1⟩, ⟨xr0, xr1, xg0, xg1⟩⟩ := cs
      have St := St.putr _ _ _ I1
      clear I1
      go_wp2_with fail
      refine (rshift6 (hva.below St.1) (unhide HA8) _ (by omega)).mono ?_
      rintro e w2 ⟨v, rfl, ⟨n2, a2, c2, L2, rfl, i2⟩, hb⟩
      clear xa0 xa1 xb0 xb1 xq0 xq1 xf0 xf1 xr0 xr1 xg0 xg1
      have I2 : IsNum 0 w2 (.agg #[.bool n2, .slice a2 L2.length c2]) (N : Nat) := by
        have := unhide HSH
        exact ⟨n2, a2, c2, L2, rfl, this ▸ i2⟩
      have St := St.below hb
      clear i2 hb
      generalize L2.length = l2 at *
      have cs := St.cells
      dsimp only at cs
      obtain ⟨⟨xa0, xa1⟩, ⟨xb0, xb1⟩, ⟨xq0, xq1, xf0, xf1⟩, ⟨xr0, xr1, xg0, xg1⟩⟩ := cs
      go_wp2_with fail
      refine (rodd6 I2 (unhide HP _ (by omega))).mono ?_
      rw [show decide (((N : Nat) : Int).natAbs % 2 = 1) = true by exact decide_eq_true (by omega)]
      rintro e w3 ⟨rfl, hb⟩
      clear xa0 xa1 xb0 xb1 xq0 xq1 xf0 xf1 xr0 xr1 xg0 xg1
      have St := St.below hb
      clear I2 hb
      have cs := St.cells
      dsimp only at cs
      obtain ⟨⟨xa0, xa1⟩, ⟨xb0, xb1⟩, ⟨xq0, xq1, xf0, xf1⟩, ⟨xr0, xr1, xg0, xg1⟩⟩ := cs
      go_wp2_with fail
      have St := St.below ((Below.refl _ _).drew)
      go_region_with (first | (go_at_call 37; refine (rof6 _).mono ?_; rintro e w4 ⟨v, rfl, ⟨n4, a4, c4, L4, rfl, i4⟩, hb⟩; clear xa0 xa1 xb0 xb1 xq0 xq1 xf0 xf1 xr0 xr1 xg0 xg1; have I4 : IsNum 0 w4 (.agg #[.bool n4, .slice a4 L4.length c4]) 1 := IsNum.mono ⟨n4, a4, c4, L4, rfl, i4⟩ (Nat.zero_le _); have St := St.below hb; clear i4 hb; generalize L4.length = l4 at *; have cs := St.cells; dsimp only at cs; obtain ⟨⟨xa0, xa1⟩, ⟨xb0, xb1⟩, ⟨xq0, xq1, xf0, xf1⟩, ⟨xr0, xr1, xg0, xg1⟩⟩ := cs) | (go_at_call 36; refine (radd6 St.2.2.2.2.2.2.2.2 I4 (unhide HP _ (by omega)) (unhide HP _ (by omega))).mono ?_; rintro e w5 ⟨v, rfl, ⟨n5, a5, c5, L5, rfl, i5⟩, hb⟩; clear xa0 xa1 xb0 xb1 xq0 xq1 xf0 xf1 xr0 xr1 xg0 xg1; have I5 : IsNum (w.heap.size + 6) w5 (.agg #[.bool n5, .slice a5 L5.length c5]) (2 * (r : Int) + 1) := IsNum.mono ⟨n5, a5, c5, L5, rfl, i5⟩ St.room; have St := St.below hb; clear i5 hb I4; generalize L5.length = l5 at *; have cs := St.cells; dsimp only at cs; obtain ⟨⟨xa0, xa1⟩, ⟨xb0, xb1⟩, ⟨xq0, xq1, xf0, xf1⟩, ⟨xr0, xr1, xg0, xg1⟩⟩ := cs; have St := St.putr _ _ _ I5; clear I5))
      all_goals
        go_wp2_with fail
        refine (rdouble6 St.2.2.2.2.2.2.2.1 (unhide HP _ (by omega))).mono ?_
        rintro e w6 ⟨v, rfl, ⟨n6, a6, c6, L6, rfl, i6⟩, hb⟩
        clear xa0 xa1 xb0 xb1 xq0 xq1 xf0 xf1 xr0 xr1 xg0 xg1
        have I6 : IsNum (w.heap.size + 6) w6 (.agg #[.bool n6, .slice a6 L6.length c6]) (2 * (q : Int)) := IsNum.mono ⟨n6, a6, c6, L6, rfl, i6⟩ (Nat.le_trans St.room (by first | exact Nat.le_refl _ | exact hb.size))
        have St := St.below hb
        clear i6 hb
        generalize L6.length = l6 at *
        have cs := St.cells
        dsimp only at cs
        obtain ⟨⟨xa0, xa1⟩, ⟨xb0, xb1⟩, ⟨xq0, xq1, xf0, xf1⟩, ⟨xr0, xr1, xg0, xg1⟩⟩ := cs
        have St := St.putq _ _ _ I6
        clear I6
        go_wp2_with fail
        refine (rcmp6 St.2.2.2.2.2.2.2.2 (hvb.below St.1) (unhide HP _ (by omega)) (unhide HP _ (by omega))).mono ?_
        rintro e w7 ⟨rfl, hb⟩
        clear xa0 xa1 xb0 xb1 xq0 xq1 xf0 xf1 xr0 xr1 xg0 xg1
        have St := St.below hb
        clear hb
        have cs := St.cells
        dsimp only at cs
        obtain ⟨⟨xa0, xa1⟩, ⟨xb0, xb1⟩, ⟨xq0, xq1, xf0, xf1⟩, ⟨xr0, xr1, xg0, xg1⟩⟩ := cs
        have hc := cmp_ge (show (D : Int) ≤ 2 * (r : Int) + 1 by omega)
        generalize cmpI (2 * (r : Int) + 1) (D : Int) = c at *
        go_wp2_with fail
        refine (rsub6 St.2.2.2.2.2.2.2.2 (hvb.below St.1) (unhide HP _ (by omega)) (unhide HP _ (by omega))).mono ?_
        rintro e w8 ⟨v, rfl, ⟨n8, a8, c8, L8, rfl, i8⟩, hb⟩
        clear xa0 xa1 xb0 xb1 xq0 xq1 xf0 xf1 xr0 xr1 xg0 xg1
        have I8 : IsNum (w.heap.size + 6) w8 (.agg #[.bool n8, .slice a8 L8.length c8]) (2 * (r : Int) + 1 - (D : Int)) := IsNum.mono ⟨n8, a8, c8, L8, rfl, i8⟩ (Nat.le_trans St.room (by first | exact Nat.le_refl _ | exact hb.size))
        have St := St.below hb
        clear i8 hb
        generalize L8.length = l8 at *
        have cs := St.cells
        dsimp only at cs
        obtain ⟨⟨xa0, xa1⟩, ⟨xb0, xb1⟩, ⟨xq0, xq1, xf0, xf1⟩, ⟨xr0, xr1, xg0, xg1⟩⟩ := cs
        have St := St.putr _ _ _ I8
        clear I8
        go_wp2_with fail
        have St := St.below ((Below.refl _ _).drew)
        go_region_with (first | (go_at_call 37; refine (rof6 _).mono ?_; rintro e w9 ⟨v, rfl, ⟨n9, a9, c9, L9, rfl, i9⟩, hb⟩; clear xa0 xa1 xb0 xb1 xq0 xq1 xf0 xf1 xr0 xr1 xg0 xg1; have I9 : IsNum 0 w9 (.agg #[.bool n9, .slice a9 L9.length c9]) 1 := IsNum.mono ⟨n9, a9, c9, L9, rfl, i9⟩ (Nat.zero_le _); have St := St.below hb; clear i9 hb; generalize L9.length = l9 at *; have cs := St.cells; dsimp only at cs; obtain ⟨⟨xa0, xa1⟩, ⟨xb0, xb1⟩, ⟨xq0, xq1, xf0, xf1⟩, ⟨xr0, xr1, xg0, xg1⟩⟩ := cs) | (go_at_call 36; refine (radd6 St.2.2.2.2.2.2.2.1 I9 (unhide HP _ (by omega)) (unhide HP _ (by omega))).mono ?_; rintro e w10 ⟨v, rfl, ⟨n10, a10, c10, L10, rfl, i10⟩, hb⟩; clear xa0 xa1 xb0 xb1 xq0 xq1 xf0 xf1 xr0 xr1 xg0 xg1; have I10 : IsNum (w.heap.size + 6) w10 (.agg #[.bool n10, .slice a10 L10.length c10]) (2 * (q : Int) + 1) := IsNum.mono ⟨n10, a10, c10, L10, rfl, i10⟩ St.room; have St := St.below hb; clear i10 hb I9; generalize L10.length = l10 at *; have cs := St.cells; dsimp only at cs; obtain ⟨⟨xa0, xa1⟩, ⟨xb0, xb1⟩, ⟨xq0, xq1, xf0, xf1⟩, ⟨xr0, xr1, xg0, xg1⟩⟩ := cs; have St := St.putq _ _ _ I10; clear I10))
        all_goals
          go_wp2
          go_roundw
          case rel => exact ⟨j, _, _, _, _, _, _, _, _, by omega, int_eq (by omega), hide (by have h1 := unhide HNQ; have h2 := unhide HNR; rw [h1, h2, if_pos hg, if_pos hg]; exact St.as (by omega) (by omega))⟩
          case measure => first | (simp [intOf]; done) | (simp [intOf]; omega)
    · -- odd True, enough False
      have ho : N % 2 = 1 := by omega
      have hg : ¬ D ≤ 2 * r + N % 2 := by assumption
      have cs := St.cells
      dsimp only at cs
      obtain ⟨⟨xa0, xa1⟩, ⟨xb0, xb1⟩, ⟨xq0, xq1, xf0, xf1⟩, ⟨xr0, xr1, xg0, xg1⟩⟩ := cs
      go_wp2_with fail
      refine (rdouble6 St.2.2.2.2.2.2.2.2 (unhide HP _ (by omega))).mono ?_
      rintro e w1 ⟨v, rfl, ⟨n1, a1, c1, L1, rfl, i1⟩, hb⟩
      clear xa0 xa1 xb0 xb1 xq0 xq1 xf0 xf1 xr0 xr1 xg0 xg1
      have I1 : IsNum (w.heap.size + 6) w1 (.agg #[.bool n1, .slice a1 L1.length c1]) (2 * (r : Int)) := IsNum.mono ⟨n1, a1, c1, L1, rfl, i1⟩ (Nat.le_trans St.room (by first | exact Nat.le_refl _ | exact hb.size))
      have St := St.below hb
      clear i1 hb
      generalize L1.length = l1 at *
      have cs := St.cells
      dsimp only at cs
      obtain ⟨⟨xa0, xa1⟩, ⟨xb0, xb1⟩, ⟨xq0, xq1, xf0, xf1⟩, ⟨xr0, xr1, xg0, xg1⟩⟩ := cs
      have St := St.putr _ _ _ I1
      clear I1
      go_wp2_with fail
      refine (rshift6 (hva.below St.1) (unhide HA8) _ (by omega)).mono ?_
      rintro e w2 ⟨v, rfl, ⟨n2, a2, c2, L2, rfl, i2⟩, hb⟩
      clear xa0 xa1 xb0 xb1 xq0 xq1 xf0 xf1 xr0 xr1 xg0 xg1
      have I2 : IsNum 0 w2 (.agg #[.bool n2, .slice a2 L2.length c2]) (N : Nat) := by
        have := unhide HSH
        exact ⟨n2, a2, c2, L2, rfl, this ▸ i2⟩
      have St := St.below hb
      clear i2 hb
      generalize L2.length = l2 at *
      have cs := St.cells
      dsimp only at cs
      obtain ⟨⟨xa0, xa1⟩, ⟨xb0, xb1⟩, ⟨xq0, xq1, xf0, xf1⟩, ⟨xr0, xr1, xg0, xg1⟩⟩ := cs
      go_wp2_with fail
      refine (rodd6 I2 (unhide HP _ (by omega))).mono ?_
      rw [show decide (((N : Nat) : Int).natAbs % 2 = 1) = true by exact decide_eq_true (by omega)]
      rintro e w3 ⟨rfl, hb⟩
      clear xa0 xa1 xb0 xb1 xq0 xq1 xf0 xf1 xr0 xr1 xg0 xg1
      have St := St.below hb
      clear I2 hb
      have cs := St.cells
      dsimp only at cs
      obtain ⟨⟨xa0, xa1⟩, ⟨xb0, xb1⟩, ⟨xq0, xq1, xf0, xf1⟩, ⟨xr0, xr1, xg0, xg1⟩⟩ := cs
      go_wp2_with fail
      have St := St.below ((Below.refl _ _).drew)
      go_region_with (first | (go_at_call 37; refine (rof6 _).mono ?_; rintro e w4 ⟨v, rfl, ⟨n4, a4, c4, L4, rfl, i4⟩, hb⟩; clear xa0 xa1 xb0 xb1 xq0 xq1 xf0 xf1 xr0 xr1 xg0 xg1; have I4 : IsNum 0 w4 (.agg #[.bool n4, .slice a4 L4.length c4]) 1 := IsNum.mono ⟨n4, a4, c4, L4, rfl, i4⟩ (Nat.zero_le _); have St := St.below hb; clear i4 hb; generalize L4.length = l4 at *; have cs := St.cells; dsimp only at cs; obtain ⟨⟨xa0, xa1⟩, ⟨xb0, xb1⟩, ⟨xq0, xq1, xf0, xf1⟩, ⟨xr0, xr1, xg0, xg1⟩⟩ := cs) | (go_at_call 36; refine (radd6 St.2.2.2.2.2.2.2.2 I4 (unhide HP _ (by omega)) (unhide HP _ (by omega))).mono ?_; rintro e w5 ⟨v, rfl, ⟨n5, a5, c5, L5, rfl, i5⟩, hb⟩; clear xa0 xa1 xb0 xb1 xq0 xq1 xf0 xf1 xr0 xr1 xg0 xg1; have I5 : IsNum (w.heap.size + 6) w5 (.agg #[.bool n5, .slice a5 L5.length c5]) (2 * (r : Int) + 1) := IsNum.mono ⟨n5, a5, c5, L5, rfl, i5⟩ St.room; have St := St.below hb; clear i5 hb I4; generalize L5.length = l5 at *; have cs := St.cells; dsimp only at cs; obtain ⟨⟨xa0, xa1⟩, ⟨xb0, xb1⟩, ⟨xq0, xq1, xf0, xf1⟩, ⟨xr0, xr1, xg0, xg1⟩⟩ := cs; have St := St.putr _ _ _ I5; clear I5))
      all_goals
        go_wp2_with fail
        refine (rdouble6 St.2.2.2.2.2.2.2.1 (unhide HP _ (by omega))).mono ?_
        rintro e w6 ⟨v, rfl, ⟨n6, a6, c6, L6, rfl, i6⟩, hb⟩
        clear xa0 xa1 xb0 xb1 xq0 xq1 xf0 xf1 xr0 xr1 xg0 xg1
        have I6 : IsNum (w.heap.size + 6) w6 (.agg #[.bool n6, .slice a6 L6.length c6]) (2 * (q : Int)) := IsNum.mono ⟨n6, a6, c6, L6, rfl, i6⟩ (Nat.le_trans St.room (by first | exact Nat.le_refl _ | exact hb.size))
        have St := St.below hb
        clear i6 hb
        generalize L6.length = l6 at *
        have cs := St.cells
        dsimp only at cs
        obtain ⟨⟨xa0, xa1⟩, ⟨xb0, xb1⟩, ⟨xq0, xq1, xf0, xf1⟩, ⟨xr0, xr1, xg0, xg1⟩⟩ := cs
        have St := St.putq _ _ _ I6
        clear I6
        go_wp2_with fail
        refine (rcmp6 St.2.2.2.2.2.2.2.2 (hvb.below St.1) (unhide HP _ (by omega)) (unhide HP _ (by omega))).mono ?_
        rintro e w7 ⟨rfl, hb⟩
        clear xa0 xa1 xb0 xb1 xq0 xq1 xf0 xf1 xr0 xr1 xg0 xg1
        have St := St.below hb
        clear hb
        have cs := St.cells
        dsimp only at cs
        obtain ⟨⟨xa0, xa1⟩, ⟨xb0, xb1⟩, ⟨xq0, xq1, xf0, xf1⟩, ⟨xr0, xr1, xg0, xg1⟩⟩ := cs
        have hc := cmp_lt (show 2 * (r : Int) + 1 < (D : Int) by omega)
        generalize cmpI (2 * (r : Int) + 1) (D : Int) = c at *
        go_wp2
        go_roundw
        case rel => exact ⟨j, _, _, _, _, _, _, _, _, by omega, int_eq (by omega), hide (by have h1 := unhide HNQ; have h2 := unhide HNR; rw [h1, h2, if_neg hg, if_neg hg]; exact St.as (by omega) (by omega))⟩
        case measure => first | (simp [intOf]; done) | (simp [intOf]; omega)
    · -- odd False, enough True
      have ho : N % 2 = 0 := by omega
      have hg : D ≤ 2 * r + N % 2 := by assumption
      have cs := St.cells
      dsimp only at cs
      obtain ⟨⟨xa0, xa1⟩, ⟨xb0, xb1⟩, ⟨xq0, xq1, xf0, xf1⟩, ⟨xr0, xr1, xg0, xg1⟩⟩ := cs
      go_wp2_with fail
      refine (rdouble6 St.2.2.2.2.2.2.2.2 (unhide HP _ (by omega))).mono ?_
      rintro e w1 ⟨v, rfl, ⟨n1, a1, c1, L1, rfl, i1⟩, hb⟩
      clear xa0 xa1 xb0 xb1 xq0 xq1 xf0 xf1 xr0 xr1 xg0 xg1
      have I1 : IsNum (w.heap.size + 6) w1 (.agg #[.bool n1, .slice a1 L1.length c1]) (2 * (r : Int)) := IsNum.mono ⟨n1, a1, c1, L1, rfl, i1⟩ (Nat.le_trans St.room (by first | exact Nat.le_refl _ | exact hb.size))
      have St := St.below hb
      clear i1 hb
      generalize L1.length = l1 at *
      have cs := St.cells
      dsimp only at cs
      obtain ⟨⟨xa0, xa1⟩, ⟨xb0, xb1⟩, ⟨xq0, xq1, xf0, xf1⟩, ⟨xr0, xr1, xg0, xg1⟩⟩ := cs
      have St := St.putr _ _ _ I1
      clear I1
      go_wp2_with fail
      refine (rshift6 (hva.below St.1) (unhide HA8) _ (by omega)).mono ?_
      rintro e w2 ⟨v, rfl, ⟨n2, a2, c2, L2, rfl, i2⟩, hb⟩
      clear xa0 xa1 xb0 xb1 xq0 xq1 xf0 xf1 xr0 xr1 xg0 xg1
      have I2 : IsNum 0 w2 (.agg #[.bool n2, .slice a2 L2.length c2]) (N : Nat) := by
        have := unhide HSH
        exact ⟨n2, a2, c2, L2, rfl, this ▸ i2⟩
      have St := St.below hb
      clear i2 hb
      generalize L2.length = l2 at *
      have cs := St.cells
      dsimp only at cs
      obtain ⟨⟨xa0, xa1⟩, ⟨xb0, xb1⟩, ⟨xq0, xq1, xf0, xf1⟩, ⟨xr0, xr1, xg0, xg1⟩⟩ := cs
      go_wp2_with fail
      refine (rodd6 I2 (unhide HP _ (by omega))).mono ?_
      rw [show decide (((N : Nat) : Int).natAbs % 2 = 1) = false by exact decide_eq_false (by omega)]
      rintro e w3 ⟨rfl, hb⟩
      clear xa0 xa1 xb0 xb1 xq0 xq1 xf0 xf1 xr0 xr1 xg0 xg1
      have St := St.below hb
      clear I2 hb
      have cs := St.cells
      dsimp only at cs
      obtain ⟨⟨xa0, xa1⟩, ⟨xb0, xb1⟩, ⟨xq0, xq1, xf0, xf1⟩, ⟨xr0, xr1, xg0, xg1⟩⟩ := cs
      go_wp2_with fail
      refine (rdouble6 St.2.2.2.2.2.2.2.1 (unhide HP _ (by omega))).mono ?_
      rintro e w6 ⟨v, rfl, ⟨n6, a6, c6, L6, rfl, i6⟩, hb⟩
      clear xa0 xa1 xb0 xb1 xq0 xq1 xf0 xf1 xr0 xr1 xg0 xg1
      have I6 : IsNum (w.heap.size + 6) w6 (.agg #[.bool n6, .slice a6 L6.length c6]) (2 * (q : Int)) := IsNum.mono ⟨n6, a6, c6, L6, rfl, i6⟩ (Nat.le_trans St.room (by first | exact Nat.le_refl _ | exact hb.size))
      have St := St.below hb
      clear i6 hb
      generalize L6.length = l6 at *
      have cs := St.cells
      dsimp only at cs
      obtain ⟨⟨xa0, xa1⟩, ⟨xb0, xb1⟩, ⟨xq0, xq1, xf0, xf1⟩, ⟨xr0, xr1, xg0, xg1⟩⟩ := cs
      have St := St.putq _ _ _ I6
      clear I6
      go_wp2_with fail
      refine (rcmp6 St.2.2.2.2.2.2.2.2 (hvb.below St.1) (unhide HP _ (by omega)) (unhide HP _ (by omega))).mono ?_
      rintro e w7 ⟨rfl, hb⟩
      clear xa0 xa1 xb0 xb1 xq0 xq1 xf0 xf1 xr0 xr1 xg0 xg1
      have St := St.below hb
      clear hb
      have cs := St.cells
      dsimp only at cs
      obtain ⟨⟨xa0, xa1⟩, ⟨xb0, xb1⟩, ⟨xq0, xq1, xf0, xf1⟩, ⟨xr0, xr1, xg0, xg1⟩⟩ := cs
      have hc := cmp_ge (show (D : Int) ≤ 2 * (r : Int) by omega)
      generalize cmpI (2 * (r : Int)) (D : Int) = c at *
      go_wp2_with fail
      refine (rsub6 St.2.2.2.2.2.2.2.2 (hvb.below St.1) (unhide HP _ (by omega)) (unhide HP _ (by omega))).mono ?_
      rintro e w8 ⟨v, rfl, ⟨n8, a8, c8, L8, rfl, i8⟩, hb⟩
      clear xa0 xa1 xb0 xb1 xq0 xq1 xf0 xf1 xr0 xr1 xg0 xg1
      have I8 : IsNum (w.heap.size + 6) w8 (.agg #[.bool n8, .slice a8 L8.length c8]) (2 * (r : Int) - (D : Int)) := IsNum.mono ⟨n8, a8, c8, L8, rfl, i8⟩ (Nat.le_trans St.room (by first | exact Nat.le_refl _ | exact hb.size))
      have St := St.below hb
      clear i8 hb
      generalize L8.length = l8 at *
      have cs := St.cells
      dsimp only at cs
      obtain ⟨⟨xa0, xa1⟩, ⟨xb0, xb1⟩, ⟨xq0, xq1, xf0, xf1⟩, ⟨xr0, xr1, xg0, xg1⟩⟩ := cs
      have St := St.putr _ _ _ I8
      clear I8
      go_wp2_with fail
      have St := St.below ((Below.refl _ _).drew)
      go_region_with (first | (go_at_call 37; refine (rof6 _).mono ?_; rintro e w9 ⟨v, rfl, ⟨n9, a9, c9, L9, rfl, i9⟩, hb⟩; clear xa0 xa1 xb0 xb1 xq0 xq1 xf0 xf1 xr0 xr1 xg0 xg1; have I9 : IsNum 0 w9 (.agg #[.bool n9, .slice a9 L9.length c9]) 1 := IsNum.mono ⟨n9, a9, c9, L9, rfl, i9⟩ (Nat.zero_le _); have St := St.below hb; clear i9 hb; generalize L9.length = l9 at *; have cs := St.cells; dsimp only at cs; obtain ⟨⟨xa0, xa1⟩, ⟨xb0, xb1⟩, ⟨xq0, xq1, xf0, xf1⟩, ⟨xr0, xr1, xg0, xg1⟩⟩ := cs) | (go_at_call 36; refine (radd6 St.2.2.2.2.2.2.2.1 I9 (unhide HP _ (by omega)) (unhide HP _ (by omega))).mono ?_; rintro e w10 ⟨v, rfl, ⟨n10, a10, c10, L10, rfl, i10⟩, hb⟩; clear xa0 xa1 xb0 xb1 xq0 xq1 xf0 xf1 xr0 xr1 xg0 xg1; have I10 : IsNum (w.heap.size + 6) w10 (.agg #[.bool n10, .slice a10 L10.length c10]) (2 * (q : Int) + 1) := IsNum.mono ⟨n10, a10, c10, L10, rfl, i10⟩ St.room; have St := St.below hb; clear i10 hb I9; generalize L10.length = l10 at *; have cs := St.cells; dsimp only at cs; obtain ⟨⟨xa0, xa1⟩, ⟨xb0, xb1⟩, ⟨xq0, xq1, xf0, xf1⟩, ⟨xr0, xr1, xg0, xg1⟩⟩ := cs; have St := St.putq _ _ _ I10; clear I10))
      all_goals
        go_wp2
        go_roundw
        case rel => exact ⟨j, _, _, _, _, _, _, _, _, by omega, int_eq (by omega), hide (by have h1 := unhide HNQ; have h2 := unhide HNR; rw [h1, h2, if_pos hg, if_pos hg]; exact St.as (by omega) (by omega))⟩
        case measure => first | (simp [intOf]; done) | (simp [intOf]; omega)
    · -- odd False, enough False
      have ho : N % 2 = 0 := by omega
      have hg : ¬ D ≤ 2 * r + N % 2 := by assumption
      have cs := St.cells
      dsimp only at cs
      obtain ⟨⟨xa0, xa1⟩, ⟨xb0, xb1⟩, ⟨xq0, xq1, xf0, xf1⟩, ⟨xr0, xr1, xg0, xg1⟩⟩ := cs
      go_wp2_with fail
      refine (rdouble6 St.2.2.2.2.2.2.2.2 (unhide HP _ (by omega))).mono ?_
      rintro e w1 ⟨v, rfl, ⟨n1, a1, c1, L1, rfl, i1⟩, hb⟩
      clear xa0 xa1 xb0 xb1 xq0 xq1 xf0 xf1 xr0 xr1 xg0 xg1
      have I1 : IsNum (w.heap.size + 6) w1 (.agg #[.bool n1, .slice a1 L1.length c1]) (2 * (r : Int)) := IsNum.mono ⟨n1, a1, c1, L1, rfl, i1⟩ (Nat.le_trans St.room (by first | exact Nat.le_refl _ | exact hb.size))
      have St := St.below hb
      clear i1 hb
      generalize L1.length = l1 at *
      have cs := St.cells
      dsimp only at cs
      obtain ⟨⟨xa0, xa1⟩, ⟨xb0, xb1⟩, ⟨xq0, xq1, xf0, xf1⟩, ⟨xr0, xr1, xg0, xg1⟩⟩ := cs
      have St := St.putr _ _ _ I1
      clear I1
      go_wp2_with fail
      refine (rshift6 (hva.below St.1) (unhide HA8) _ (by omega)).mono ?_
      rintro e w2 ⟨v, rfl, ⟨n2, a2, c2, L2, rfl, i2⟩, hb⟩
      clear xa0 xa1 xb0 xb1 xq0 xq1 xf0 xf1 xr0 xr1 xg0 xg1
      have I2 : IsNum 0 w2 (.agg #[.bool n2, .slice a2 L2.length c2]) (N : Nat) := by
        have := unhide HSH
        exact ⟨n2, a2, c2, L2, rfl, this ▸ i2⟩
      have St := St.below hb
      clear i2 hb
      generalize L2.length = l2 at *
      have cs := St.cells
      dsimp only at cs
      obtain ⟨⟨xa0, xa1⟩, ⟨xb0, xb1⟩, ⟨xq0, xq1, xf0, xf1⟩, ⟨xr0, xr1, xg0, xg1⟩⟩ := cs
      go_wp2_with fail
      refine (rodd6 I2 (unhide HP _ (by omega))).mono ?_
      rw [show decide (((N : Nat) : Int).natAbs % 2 = 1) = false by exact decide_eq_false (by omega)]
      rintro e w3 ⟨rfl, hb⟩
      clear xa0 xa1 xb0 xb1 xq0 xq1 xf0 xf1 xr0 xr1 xg0 xg1
      have St := St.below hb
      clear I2 hb
      have cs := St.cells
      dsimp only at cs
      obtain ⟨⟨xa0, xa1⟩, ⟨xb0, xb1⟩, ⟨xq0, xq1, xf0, xf1⟩, ⟨xr0, xr1, xg0, xg1⟩⟩ := cs
      go_wp2_with fail
      refine (rdouble6 St.2.2.2.2.2.2.2.1 (unhide HP _ (by omega))).mono ?_
      rintro e w6 ⟨v, rfl, ⟨n6, a6, c6, L6, rfl, i6⟩, hb⟩
      clear xa0 xa1 xb0 xb1 xq0 xq1 xf0 xf1 xr0 xr1 xg0 xg1
      have I6 : IsNum (w.heap.size + 6) w6 (.agg #[.bool n6, .slice a6 L6.length c6]) (2 * (q : Int)) := IsNum.mono ⟨n6, a6, c6, L6, rfl, i6⟩ (Nat.le_trans St.room (by first | exact Nat.le_refl _ | exact hb.size))
      have St := St.below hb
      clear i6 hb
      generalize L6.length = l6 at *
      have cs := St.cells
      dsimp only at cs
      obtain ⟨⟨xa0, xa1⟩, ⟨xb0, xb1⟩, ⟨xq0, xq1, xf0, xf1⟩, ⟨xr0, xr1, xg0, xg1⟩⟩ := cs
      have St := St.putq _ _ _ I6
      clear I6
      go_wp2_with fail
      refine (rcmp6 St.2.2.2.2.2.2.2.2 (hvb.below St.1) (unhide HP _ (by omega)) (unhide HP _ (by omega))).mono ?_
      rintro e w7 ⟨rfl, hb⟩
      clear xa0 xa1 xb0 xb1 xq0 xq1 xf0 xf1 xr0 xr1 xg0 xg1
      have St := St.below hb
      clear hb
      have cs := St.cells
      dsimp only at cs
      obtain ⟨⟨xa0, xa1⟩, ⟨xb0, xb1⟩, ⟨xq0, xq1, xf0, xf1⟩, ⟨xr0, xr1, xg0, xg1⟩⟩ := cs
      have hc := cmp_lt (show 2 * (r : Int) < (D : Int) by omega)
      generalize cmpI (2 * (r : Int)) (D : Int) = c at *
      go_wp2
      go_roundw
      case rel => exact ⟨j, _, _, _, _, _, _, _, _, by omega, int_eq (by omega), hide (by have h1 := unhide HNQ; have h2 := unhide HNR; rw [h1, h2, if_neg hg, if_neg hg]; exact St.as (by omega) (by omega))⟩
      case measure => first | (simp [intOf]; done) | (simp [intOf]; omega)

end Go.Proofs.YtibolacikaanpaaDoor

/- The reference's plain, and Quotient of any two. -/
namespace Go.Proofs.YtibolacikaanpaaDoor
open Go.RowKit

/-- What is not empty lies in another block than g. -/
def AwayV (g : Nat) (ao : Option Addr) (l : Nat) : Prop := l = 0 ∨ ∃ b off, ao = some ⟨b, off, none⟩ ∧ b ≠ g
theorem IsNum.open6 {B : Nat} {w : World} {n : Bool} {ao : Option Addr} {l c : Nat} {z : Int} (h : IsNum B w (.agg #[.bool n, .slice ao l c]) z) :
    ∃ L, l = L.length ∧ LimbsAt w ao c L ∧ NewAt B ao L ∧ Canon L ∧ n = decide (z < 0) ∧ val L = z.natAbs ∧ L.length ≤ 35184372088832 := by
  obtain ⟨n', a', c', L, e1, h1, h2, h3⟩ := h
  simp only [Value.agg.injEq, Array.mk.injEq, List.cons.injEq, Value.bool.injEq, Value.slice.injEq, and_true] at e1
  obtain ⟨rfl, rfl, e2, rfl⟩ := e1
  exact ⟨L, e2, h1, h2, h3⟩
/-- Limbs lie in no box. -/
theorem IsNum.away_box {B g : Nat} {w : World} {n : Bool} {ao : Option Addr} {l c : Nat} {z : Int} (h : IsNum B w (.agg #[.bool n, .slice ao l c]) z) {x : Bool} {a' : Option Addr} {l' c' : Nat} (hb : Box2 w g (.bool x) (.slice a' l' c')) : AwayV g ao l := by
  obtain ⟨L, rfl, h1, h2, h3⟩ := h.open6
  rcases h1.2.2 with h0 | ⟨b, off, e1, e2, e3⟩
  · exact .inl (by rw [h0]; rfl)
  · rcases Nat.eq_zero_or_pos L.length with h0 | h0
    · exact .inl h0
    · refine .inr ⟨b, off, e1, fun e => ?_⟩
      subst e
      have h4 := e3 0 h0
      rw [Nat.add_zero, cell_of_row w b off _ _ _ hb] at h4
      rcases off with _ | _ | off <;> simp at h4
theorem IsNum.set_away {w : World} {n : Bool} {ao : Option Addr} {l c g i : Nat} {z : Int} (h : IsNum 0 w (.agg #[.bool n, .slice ao l c]) z) (ha : AwayV g ao l) (u : Value) : IsNum 0 (w.setCell ⟨g, i, none⟩ u) (.agg #[.bool n, .slice ao l c]) z := by
  obtain ⟨L, rfl, h1, h2, h3⟩ := h.open6
  refine ⟨n, ao, c, L, rfl, ⟨h1.1, h1.2.1, ?_⟩, ?_, h3⟩
  · rcases h1.2.2 with h0 | ⟨b, off, e1, e2, e3⟩
    · exact .inl h0
    · rcases ha with h0 | ⟨b', off', e1', hne⟩
      · exact .inl (List.length_eq_zero_iff.1 h0)
      · rw [e1] at e1'
        simp only [Option.some.injEq, Addr.mk.injEq] at e1'
        obtain ⟨rfl, rfl, _⟩ := e1'
        refine .inr ⟨b, off, e1, by simpa [World.setCell] using e2, fun i hi => ?_⟩
        rw [cell_setCell_other w _ _ u (by simpa using hne)]
        exact e3 i hi
  · rcases h2 with h0 | h0
    · exact .inl h0
    · exact .inr h0

theorem IsNum.set_box {w : World} {n : Bool} {ao : Option Addr} {l c g : Nat} {z : Int} (h : IsNum 0 w (.agg #[.bool n, .slice ao l c]) z) {x : Bool} {a' : Option Addr} {l' c' : Nat} (hb : Box2 w g (.bool x) (.slice a' l' c')) (u u' : Value) : IsNum 0 ((w.setCell ⟨g, 0, none⟩ u).setCell ⟨g, 1, none⟩ u') (.agg #[.bool n, .slice ao l c]) z :=
  (h.set_away (h.away_box hb) _).set_away (h.away_box hb) _

set_option maxRecDepth 20000 in
set_option maxHeartbeats 2000000 in
theorem rplain_ways (n : Bool) (a : Option Addr) (l c : Nat) (x : Int) (w : World)
    (C : ∀ w', Below w.heap.size w w' → Calls Tryd.prog 39 #[.bool false, .slice a l c] w' fun e w'' => ∃ r, e = .returned r ∧ IsNum 0 w'' r x ∧ Below w'.heap.size w' w'') :
    Calls Tryd.prog 34 #[.agg #[.bool n, .slice a l c]] w fun e w' => ∃ r, e = .returned r ∧ IsNum 0 w' r x ∧ Below w.heap.size w w' := by
  have K := hide C
  clear C
  have hb0 : Below w.heap.size w ((w.alloc (.cells #[.bool n, .slice a l c] 44)).alloc (.cells #[.bool false, .slice none 0 0] 44)) := ((Below.refl _ _).alloc (Nat.le_refl _) _).alloc (by simp) _
  have x1 : Box2 ((w.alloc (.cells #[.bool n, .slice a l c] 44)).alloc (.cells #[.bool false, .slice none 0 0] 44)) (w.heap.size + 1) (.bool false) (.slice none 0 0) := by
    have := Box2.new (w.alloc (.cells #[.bool n, .slice a l c] 44)) (.bool false) (.slice none 0 0)
    simpa using this
  go_enter Tryd.func34, Tryd.ntmps34
  go_wp2_with fail
  refine (unhide K _ hb0).mono ?_
  rintro e w1 ⟨v, rfl, ⟨n1, a1, c1, L1, rfl, i1⟩, hb⟩
  have I1 := hide (show IsNum 0 w1 (.agg #[.bool n1, .slice a1 L1.length c1]) x from ⟨n1, a1, c1, L1, rfl, i1⟩)
  have B1 := hide (hb0.trans (hb.mono hb0.size))
  have x2 := x1.all hb
  have X := hide x2
  have c0 := x2.c0; have c1' := x2.c1; have f0 := x2.free 0; have f1 := x2.free 1
  have x3 := x2.put (.bool n1) (.slice a1 L1.length c1)
  have d0 := x3.c0; have d1 := x3.c1
  clear i1 hb hb0 K x1 x2 x3
  generalize L1.length = l1 at *
  go_wp2
  exact bodyPost_ret (v := .agg #[.bool n1, .slice a1 l1 c1]) (by simp [results, Tryd.results34, go_sem, d0, d1]) rfl ⟨_, rfl, (unhide I1).set_box (unhide X) _ _, below_put2 (unhide B1) (by omega) _ _⟩

theorem rplain6 {B : Nat} {w : World} {v : Value} {x : Int} (hv : IsNum B w v x) (hx : x.natAbs < 2 ^ 8000) :
    Calls Tryd.prog 34 #[v] w fun e w' => ∃ r, e = .returned r ∧ IsNum 0 w' r (x.natAbs : Nat) ∧ Below w.heap.size w w' := by
  obtain ⟨na, ao, ca, A, rfl, a1, a2, a3, a4⟩ := hv.right (top8000 hx)
  refine rplain_ways na ao A.length ca _ w (fun w' h => ?_)
  have a5 := a1.below h
  have := made_any 0 false ao ca A w' a5 (NewAt.zero a5) (by omega)
  have e : sval false A = (x.natAbs : Nat) := by
    rw [← a3, natAbs_sval]; rfl
  rw [e] at this
  exact this.mono fun e w' ⟨r, h1, h2, h3⟩ => ⟨r, h1, h2.num (by omega), h3⟩

theorem pow_up {x : Nat} (j k : Nat) (h : x < 2 ^ j) (hk : j ≤ k) : x < 2 ^ k := Nat.lt_of_lt_of_le h (Nat.pow_le_pow_right (by decide) hk)
theorem p250 {x : Int} (h : x.natAbs < 4 * 2 ^ 250) : x.natAbs < 2 ^ 8000 := by
  have h1 : (4 : Nat) * 2 ^ 250 = 2 ^ 252 := by decide
  rw [h1] at h
  exact pow_up 252 8000 h (by decide)
theorem bl_lt {A k : Nat} (h : A < 2 ^ k) : bl A ≤ k := by
  by_cases h0 : A = 0
  · subst h0; exact Nat.zero_le _
  · obtain ⟨b1, b2, b3⟩ := bl_spec A h0
    have := pow_lt_of (Nat.lt_of_le_of_lt b2 h)
    omega
theorem bl_end (A : Nat) : A / 2 ^ bl A = 0 := by
  by_cases h0 : A = 0
  · subst h0; simp
  · exact Nat.div_eq_of_lt (bl_spec A h0).2.2
theorem sh_dn (A j : Nat) : (if 0 ≤ -(j : Int) then A * 2 ^ (-(j : Int)).toNat else A / 2 ^ (- -(j : Int)).toNat) = A / 2 ^ j := by
  by_cases h : j = 0
  · subst h; simp
  · rw [if_neg (by omega), show (- -(j : Int)).toNat = j by omega]

/-- The reference's Quotient. -/
theorem rquot6 {Ba Bb : Nat} {w : World} {v u : Value} {A D : Nat} (hv : IsNum Ba w v (A : Nat)) (hu : IsNum Bb w u (D : Nat)) (hA : A < 2 ^ 250) (hD0 : 0 < D) (hD : D < 2 ^ 250) :
    Calls Tryd.prog 32 #[v, u] w fun e w' => ∃ p q, e = .returned (.tuple #[p, q]) ∧ IsNum w.heap.size w' p (A / D : Nat) ∧ IsNum 0 w' q (A % D : Nat) ∧ Below w.heap.size w w' := by
  obtain ⟨na, ao, ca, La, rfl, a1⟩ := hv
  obtain ⟨nb, bo, cb, Lb, rfl, b1⟩ := hu
  have h := rquot_ways A D (2 ^ 250) (bl A) (fun k => A / 2 ^ k / D) (fun k => A / 2 ^ k % D) (fun A n => if 0 ≤ n then A * 2 ^ n.toNat else A / 2 ^ (-n).toNat) na nb ao bo La.length Lb.length ca cb Ba Bb w
    ⟨na, ao, ca, La, rfl, a1⟩ ⟨nb, bo, cb, Lb, rfl, b1⟩ (pow_up 250 8000 hA (by decide)) (fun x h => p250 h) ⟨hD0, hD⟩ (Nat.le_trans (bl_lt hA) (by decide)) rfl
    (fun k => ⟨Nat.lt_of_le_of_lt (Nat.le_trans (Nat.div_le_self _ _) (Nat.div_le_self _ _)) hA, Nat.mod_lt _ hD0⟩)
    (by rw [bl_end]; exact ⟨Nat.zero_div _, Nat.zero_mod _⟩) (fun n => rfl)
    (fun j => by rw [sh_dn]; exact Nat.lt_of_le_of_lt (Nat.div_le_self _ _) hA)
    (fun j => by
      rw [sh_dn]
      have hb := bit_step A j
      have := ref_step (A / 2 ^ (j + 1)) D (A / 2 ^ j % 2) hD0 (by omega)
      rw [← hb] at this
      exact this)
  simpa using h

end Go.Proofs.YtibolacikaanpaaDoor

/- Boxes that a drawn region makes, and numbers that lie elsewhere; for the reference's Div. -/
namespace Go.Proofs.YtibolacikaanpaaDoor
open Go.RowKit

/-- The quotient's and the rest's boxes behind that region. -/
def DSt (W0 wx : World) (gq gr : Nat) (x y : Value) (zq : Int) (x' y' : Value) : Prop :=
  gq ≠ gr ∧ W0.heap.size ≤ gq ∧ W0.heap.size ≤ gr ∧ Box2 wx gq x y ∧ Box2 wx gr x' y' ∧ IsNum 0 wx (.agg #[x, y]) zq ∧ Below W0.heap.size W0 wx
theorem DSt.made {W0 w : World} {gq gr : Nat} {n : Bool} {ao : Option Addr} {l c : Nat} {z : Int} (bq : Box2 w gq (.bool false) (.slice none 0 0)) (br : Box2 w gr (.bool false) (.slice none 0 0)) (hne : gq ≠ gr) (kq : W0.heap.size ≤ gq) (kr : W0.heap.size ≤ gr)
    (h : IsNum 0 w (.agg #[.bool n, .slice ao l c]) z) (hB : Below W0.heap.size W0 w) (u u' : Value) :
    DSt W0 ((((w.setCell ⟨gq, 0, none⟩ (.bool n)).setCell ⟨gq, 1, none⟩ (.slice ao l c)).setCell ⟨gr, 0, none⟩ u).setCell ⟨gr, 1, none⟩ u') gq gr (.bool n) (.slice ao l c) z u u' :=
  ⟨hne, kq, kr, (bq.put _ _).oth6 hne _ _, ((br.oth6 (fun e => hne e.symm) _ _).put _ _), (h.set_box bq _ _).set_box (br.oth6 (fun e => hne e.symm) _ _) _ _, below_put2 (below_put2 hB kq _ _) kr _ _⟩
theorem DSt.below {W0 w w' : World} {gq gr : Nat} {x y x' y' : Value} {z : Int} (h : DSt W0 w gq gr x y z x' y') (hb : Below w.heap.size w w') : DSt W0 w' gq gr x y z x' y' := by
  obtain ⟨h1, h2, h3, h4, h5, h6, h7⟩ := h
  exact ⟨h1, h2, h3, h4.all hb, h5.all hb, h6.below hb, h7.trans (hb.mono h7.size)⟩
/-- The quotient overwritten by another number. -/
theorem DSt.putq {W0 w : World} {gq gr : Nat} {m : Bool} {am : Option Addr} {lm cm : Nat} {x' y' : Value} {z : Int} (h : DSt W0 w gq gr (.bool m) (.slice am lm cm) z x' y') {n : Bool} {ao : Option Addr} {l c : Nat} {z' : Int} (hn : IsNum 0 w (.agg #[.bool n, .slice ao l c]) z') :
    DSt W0 ((w.setCell ⟨gq, 0, none⟩ (.bool n)).setCell ⟨gq, 1, none⟩ (.slice ao l c)) gq gr (.bool n) (.slice ao l c) z' x' y' := by
  obtain ⟨h1, h2, h3, h4, h5, h6, h7⟩ := h
  exact ⟨h1, h2, h3, h4.put _ _, h5.oth6 (fun e => h1 e.symm) _ _, hn.set_box h4 _ _, below_put2 h7 h2 _ _⟩

theorem IsDy.num6 {w : World} {n : Bool} {a : Option Addr} {l c : Nat} {X z Y : Int} (h : IsDy w (.agg #[.bool n, .slice a l c, .int .i64 X]) z Y) : IsNum 0 w (.agg #[.bool n, .slice a l c]) z := by
  obtain ⟨n', a', c', L, e1, h1⟩ := h
  simp only [Value.agg.injEq, Array.mk.injEq, List.cons.injEq, Value.bool.injEq, Value.slice.injEq, and_true] at e1
  obtain ⟨rfl, ⟨rfl, e2, rfl⟩, _⟩ := e1
  rw [e2]; exact h1
theorem num_len {B : Nat} {w : World} {n : Bool} {ao : Option Addr} {l c : Nat} {z : Int} (h : IsNum B w (.agg #[.bool n, .slice ao l c]) z) : l = 0 ↔ z = 0 := by
  obtain ⟨L, rfl, h1, h2, h3, h4, h5, h6⟩ := h.open6
  constructor
  · intro e
    have : L = [] := List.length_eq_zero_iff.1 e
    rw [this] at h5
    simp [val] at h5
    omega
  · intro e
    have : L = [] := (val_zero_of_canon L h3).1 (by rw [h5, e]; rfl)
    rw [this]; rfl

end Go.Proofs.YtibolacikaanpaaDoor

/- The reference's Div of two finite numbers that are not 0. -/
namespace Go.Proofs.YtibolacikaanpaaDoor
open Go.RowKit

set_option maxRecDepth 20000 in
set_option maxHeartbeats 64000000 in
theorem r6div_f (a b : Nat) (ka kb z1 z2 X1 X2 E M X fl : Int) (s t n : Bool) (m1 m2 A Q R SS o : Nat) (zz : Int) (w : World) (h0 : (ka == 4) = false) (h1 : (ka == 3) = false) (h2 : (ka == 0) = false) (h3 : (kb == 4) = false) (h4 : (kb == 3) = false) (h5 : (kb == 0) = false)
    (hn : n = (s ^^ t)) (hx : -2000 ≤ X1 ∧ X1 ≤ 2000 ∧ -2000 ≤ X2 ∧ X2 ≤ 2000) (hE : E = X1 - X2 - 181) (hS0 : R = 0 → SS = 2 * Q) (hS1 : R ≠ 0 → SS = 2 * Q + 1)
    (C1 : ∀ w', Calls Tryd.prog 22 #[.int .u64 a] w' fun r w'' => r = .returned (.int .i64 ka) ∧ w' = w'')
    (C2 : ∀ w', Calls Tryd.prog 22 #[.int .u64 b] w' fun r w'' => r = .returned (.int .i64 kb) ∧ w' = w'')
    (C3 : ∀ w', Calls Tryd.prog 26 #[.int .u64 a] w' fun r w'' => r = .returned (.bool s) ∧ w' = w'')
    (C4 : ∀ w', Calls Tryd.prog 26 #[.int .u64 b] w' fun r w'' => r = .returned (.bool t) ∧ w' = w'')
    (C5 : ∀ w', Calls Tryd.prog 30 #[.int .u64 a] w' fun r w'' => ∃ u, r = .returned u ∧ IsDy w'' u z1 X1 ∧ Below w'.heap.size w' w'')
    (C6 : ∀ w', Calls Tryd.prog 30 #[.int .u64 b] w' fun r w'' => ∃ u, r = .returned u ∧ IsDy w'' u z2 X2 ∧ Below w'.heap.size w' w'')
    (CP1 : ∀ w' v, IsNum 0 w' v z1 → Calls Tryd.prog 34 #[v] w' fun r w'' => ∃ u, r = .returned u ∧ IsNum 0 w'' u (m1 : Nat) ∧ Below w'.heap.size w' w'')
    (CSH : ∀ w' v, IsNum 0 w' v (m1 : Nat) → Calls Tryd.prog 33 #[v, .int .i64 180] w' fun r w'' => ∃ u, r = .returned u ∧ IsNum 0 w'' u (A : Nat) ∧ Below w'.heap.size w' w'')
    (CP2 : ∀ w' v, IsNum 0 w' v z2 → Calls Tryd.prog 34 #[v] w' fun r w'' => ∃ u, r = .returned u ∧ IsNum 0 w'' u (m2 : Nat) ∧ Below w'.heap.size w' w'')
    (CQ : ∀ w' v u, IsNum 0 w' v (A : Nat) → IsNum 0 w' u (m2 : Nat) → Calls Tryd.prog 32 #[v, u] w' fun r w'' => ∃ p q, r = .returned (.tuple #[p, q]) ∧ IsNum 0 w'' p (Q : Nat) ∧ IsNum 0 w'' q (R : Nat) ∧ Below w'.heap.size w' w'')
    (CD : ∀ w' v, IsNum 0 w' v (Q : Nat) → Calls Tryd.prog 35 #[v] w' fun r w'' => ∃ u, r = .returned u ∧ IsNum 0 w'' u (2 * Q : Nat) ∧ Below w'.heap.size w' w'')
    (CO1 : ∀ w', Calls Tryd.prog 37 #[.int .i64 1] w' fun r w'' => ∃ u, r = .returned u ∧ IsNum 0 w'' u 1 ∧ Below w'.heap.size w' w'')
    (CA : ∀ w' v u, IsNum 0 w' v (2 * Q : Nat) → IsNum 0 w' u 1 → Calls Tryd.prog 36 #[v, u] w' fun r w'' => ∃ p, r = .returned p ∧ IsNum 0 w'' p (2 * Q + 1 : Nat) ∧ Below w'.heap.size w' w'')
    (C7 : ∀ w' m a' l c, IsNum 0 w' (.agg #[.bool m, .slice a' l c]) (SS : Nat) → Calls Tryd.prog 39 #[.bool n, .slice a' l c] w' fun r w'' => ∃ v, r = .returned v ∧ IsNum 0 w'' v zz ∧ Below w'.heap.size w' w'')
    (C8 : ∀ w' v, IsNum 0 w' v zz → Calls Tryd.prog 38 #[v, .int .i64 E] w' fun r w'' => ∃ u, r = .returned u ∧ IsDy w'' u M X ∧ Below w'.heap.size w' w'')
    (C9 : ∀ w' v, IsDy w' v M X → Calls Tryd.prog 28 #[v] w' fun r w'' => r = .returned (.tuple #[.int .u64 (o : Nat), .int .u8 fl]) ∧ Below w'.heap.size w' w'') :
    Calls Tryd.prog 14 #[.int .u64 a, .int .u64 b] w fun r w' => r = .returned (.tuple #[.int .u64 (o : Nat), .int .u8 fl]) ∧ Below w.heap.size w w' := by
  have K1 := hide C1; have K2 := hide C2; have K3 := hide C3; have K4 := hide C4; have K5 := hide C5; have K6 := hide C6; have K7 := hide C7; have K8 := hide C8; have K9 := hide C9
  have KP1 := hide CP1; have KP2 := hide CP2; have KSH := hide CSH; have KQ := hide CQ; have KD := hide CD; have KO1 := hide CO1; have KA := hide CA
  clear C1 C2 C3 C4 C5 C6 C7 C8 C9 CP1 CP2 CSH CQ CD CO1 CA
  go_enter Tryd.func14, Tryd.ntmps14
  go_wp2_with fail
  refine (unhide K1 _).mono ?_
  rintro e wk ⟨rfl, rfl⟩
  go_wp2_with fail
  refine (unhide K2 _).mono ?_
  rintro e wk ⟨rfl, rfl⟩
  go_upto_region 3 with (fail)
  go_cut [8] from 13 (fun c wx => c = .bool n ∧ wx = w)
  case first =>
    go_wp2_with fail
    refine (unhide K3 _).mono ?_
    rintro e wk ⟨rfl, rfl⟩
    go_wp2_with fail
    refine (unhide K4 _).mono ?_
    rintro e wk ⟨rfl, rfl⟩
    subst hn
    cases s <;> cases t
    all_goals
      go_wp2_with fail
      go_meet
      case rel => exact ⟨rfl, rfl⟩
  case rest =>
  obtain ⟨rfl, rfl⟩ := hcut
  clear hn K1 K2 K3 K4
  go_upto_region 6 with (fail)
  go_cut [38] from 13 (fun c wx => c = .bool false ∧ wx = wc)
  case first =>
    cases hk : (ka == kb)
    all_goals
      go_wp2_with fail
      go_meet
      case rel => exact ⟨rfl, rfl⟩
  case rest =>
  obtain ⟨rfl, e0⟩ := hcut
  subst e0
  go_wp2_with fail
  refine (unhide K5 _).mono ?_
  rintro e w1 ⟨v, rfl, ⟨n1, a1, c1, L1, rfl, i1⟩, hb1⟩
  have hb1a : Below w1.heap.size w1 (w1.alloc (.cells #[.bool n1, .slice a1 L1.length c1, .int .i64 X1] 46)) := (Below.refl _ _).alloc (Nat.le_refl _) _
  have HV := hide (i1.below hb1a)
  have XB := hide (Box3.new w1 (.bool n1) (.slice a1 L1.length c1) (.int .i64 X1))
  have B1 := hide (hb1.trans (hb1a.mono hb1.size))
  clear i1 hb1 hb1a K5
  go_wp2_with fail
  refine (unhide K6 _).mono ?_
  rintro e w2 ⟨v, rfl, ⟨n2, a2, c2, L2, rfl, i2⟩, hb1⟩
  have hb1a : Below w2.heap.size w2 (w2.alloc (.cells #[.bool n2, .slice a2 L2.length c2, .int .i64 X2] 46)) := (Below.refl _ _).alloc (Nat.le_refl _) _
  have HY := hide (i2.below hb1a)
  have HX := hide (((unhide HV).below hb1).below hb1a)
  have x1 := ((unhide XB).all hb1).all hb1a
  have x2 := Box3.new w2 (.bool n2) (.slice a2 L2.length c2) (.int .i64 X2)
  have B2 := hide ((unhide B1).trans ((hb1.trans (hb1a.mono hb1.size)).mono (unhide B1).size))
  clear i2 hb1 hb1a K6 B1 HV XB
  go_wp2_with fail
  refine at_world (fun W => W = (w2.alloc (.cells #[.bool n2, .slice a2 L2.length c2, .int .i64 X2] 46))) rfl ?_
  rintro W0 e0
  rw [← e0] at x1 x2 HX HY B2
  clear e0
  generalize w1.heap.size = gx at *
  generalize w2.heap.size = gy at *
  generalize L1.length = l1 at *
  generalize L2.length = l2 at *
  have hK : ∀ w', Below W0.heap.size W0 w' → Below W0.heap.size W0 w' ∧ w'.cell? ⟨gx, 0, none⟩ = some (.bool n1) ∧ w'.cell? ⟨gx, 1, none⟩ = some (.slice a1 l1 c1) ∧ w'.cell? ⟨gy, 0, none⟩ = some (.bool n2) ∧ w'.cell? ⟨gy, 1, none⟩ = some (.slice a2 l2 c2) := fun w' h => ⟨h, (x1.all h).c0, (x1.all h).c1, (x2.all h).c0, (x2.all h).c1⟩
  have HK := hide hK; have XX := hide x1; have XY := hide x2
  clear hK x1 x2
  go_cut [11, 12] from 13 (fun p q wx => ∃ (gq gr : Nat) (nq : Bool) (aq : Option Addr) (lq cq : Nat) (nr : Bool) (ar : Option Addr) (lr cr : Nat), p = .pointer (some ⟨gq, 0, none⟩) ∧ q = .pointer (some ⟨gr, 0, none⟩) ∧ Hid (DSt W0 wx gq gr (.bool nq) (.slice aq lq cq) (Q : Nat) (.bool nr) (.slice ar lr cr) ∧ (lr = 0 ↔ ((R : Nat) : Int) = 0)))
  case first =>
    refine wp_region_held_drew (S := (fun w' => Below W0.heap.size W0 w' ∧ w'.cell? ⟨gx, 0, none⟩ = some (.bool n1) ∧ w'.cell? ⟨gx, 1, none⟩ = some (.slice a1 l1 c1) ∧ w'.cell? ⟨gy, 0, none⟩ = some (.bool n2) ∧ w'.cell? ⟨gy, 1, none⟩ = some (.slice a2 l2 c2))) (by kernel_rfl) ?_ (fun hHeld => ?_)
    · exact unhide HK _ (Below.refl _ _).drew
    have hB : Below W0.heap.size W0 W0.drew := (Below.refl _ _).drew
    generalize W0.drew = w5 at *
    refine wpAnyH_take (i := 0) (oi := { dst := some 60, op := Op.fieldAddr 46 (Operand.tmp 9) 0, type := 0, pos := "ref.go:82", after := #[], guard := none }) (v := Value.pointer (some ⟨gx, 0, none⟩)) rfl (by kernel_rfl) (by kernel_rfl) (by kernel_rfl) (fun _ _ _ h => h) (Or.inl ⟨by rfl, ?_⟩) (by assumption) ?_
    · (intro w hSw; (try dsimp only at hSw); go_simp)
    simp only [Act.put, List.setIfInBounds_toArray, List.set_cons_zero, List.set_cons_succ]
    refine wpAnyH_take (i := 1) (oi := { dst := some 61, op := Op.load 44 (Operand.tmp 60), type := 44, pos := "ref.go:82", after := #[{ on := 0, ground := Ground.data }], guard := none }) (v := (Value.agg #[.bool n1, .slice a1 l1 c1])) rfl (by kernel_rfl) (by kernel_rfl) (by kernel_rfl) (fun _ _ _ h => h) (Or.inl ⟨by rfl, ?_⟩) (by assumption) ?_
    · (intro w hSw; (try dsimp only at hSw); go_simp)
    simp only [Act.put, List.setIfInBounds_toArray, List.set_cons_zero, List.set_cons_succ]
    refine wpAnyH_take (i := 4) (oi := { dst := some 64, op := Op.fieldAddr 46 (Operand.tmp 10) 0, type := 0, pos := "ref.go:82", after := #[], guard := none }) (v := Value.pointer (some ⟨gy, 0, none⟩)) rfl (by kernel_rfl) (by kernel_rfl) (by kernel_rfl) (fun _ _ _ h => h) (Or.inl ⟨by rfl, ?_⟩) (by assumption) ?_
    · (intro w hSw; (try dsimp only at hSw); go_simp)
    simp only [Act.put, List.setIfInBounds_toArray, List.set_cons_zero, List.set_cons_succ]
    refine wpAnyH_take (i := 5) (oi := { dst := some 65, op := Op.load 44 (Operand.tmp 64), type := 44, pos := "ref.go:82", after := #[{ on := 4, ground := Ground.data }], guard := none }) (v := (Value.agg #[.bool n2, .slice a2 l2 c2])) rfl (by kernel_rfl) (by kernel_rfl) (by kernel_rfl) (fun _ _ _ h => h) (Or.inl ⟨by rfl, ?_⟩) (by assumption) ?_
    · (intro w hSw; (try dsimp only at hSw); go_simp)
    simp only [Act.put, List.setIfInBounds_toArray, List.set_cons_zero, List.set_cons_succ]
    refine wpAnyH_ready (rs := [2, 11, 12]) (by kernel_rfl) (by simp) ?_
    refine AllReadyH.cons rfl (fun K hK => ?_) (AllReadyH.cons rfl (fun K hK => ?_) (AllReadyH.cons rfl (fun K hK => ?_) AllReadyH.nil))
    · clear hHeld
      go_simp
      refine (unhide KP1 _ _ ((unhide HX).below hB)).mono ?_
      rintro e w6 ⟨v, rfl, ⟨n3, a3, c3, L3, rfl, i3⟩, hb⟩
      have I3 : IsNum 0 w6 (.agg #[.bool n3, .slice a3 L3.length c3]) (m1 : Nat) := ⟨n3, a3, c3, L3, rfl, i3⟩
      have hB := hB.trans (hb.mono hB.size)
      clear i3 hb
      generalize L3.length = l3 at *
      go_wp2_with fail
      refine hK.out _ _ ?_ (fun hHeld => ?_)
      · exact unhide HK _ hB
      clear hK K
      refine wpAnyH_ready (rs := [3, 11, 12]) (by kernel_rfl) (by simp) ?_
      refine AllReadyH.cons rfl (fun K hK => ?_) (AllReadyH.cons rfl (fun K hK => ?_) (AllReadyH.cons rfl (fun K hK => ?_) AllReadyH.nil))
      · clear hHeld
        go_simp
        refine (unhide KSH _ _ I3).mono ?_
        rintro e w7 ⟨v, rfl, ⟨n4, a4, c4, L4, rfl, i4⟩, hb⟩
        have I4 : IsNum 0 w7 (.agg #[.bool n4, .slice a4 L4.length c4]) (A : Nat) := ⟨n4, a4, c4, L4, rfl, i4⟩
        have hB := hB.trans (hb.mono hB.size)
        clear i4 hb I3
        generalize L4.length = l4 at *
        go_wp2_with fail
        refine hK.out _ _ ?_ (fun hHeld => ?_)
        · exact unhide HK _ hB
        clear hK K
        refine wpAnyH_ready (rs := [6, 11, 12]) (by kernel_rfl) (by simp) ?_
        refine AllReadyH.cons rfl (fun K hK => ?_) (AllReadyH.cons rfl (fun K hK => ?_) (AllReadyH.cons rfl (fun K hK => ?_) AllReadyH.nil))
        · clear hHeld
          go_simp
          refine (unhide KP2 _ _ ((unhide HY).below hB)).mono ?_
          rintro e w8 ⟨v, rfl, ⟨n5, a5, c5, L5, rfl, i5⟩, hb⟩
          have I5 : IsNum 0 w8 (.agg #[.bool n5, .slice a5 L5.length c5]) (m2 : Nat) := ⟨n5, a5, c5, L5, rfl, i5⟩
          have hB := hB.trans (hb.mono hB.size)
          have I4 := I4.below hb
          clear i5 hb
          generalize L5.length = l5 at *
          go_wp2_with fail
          refine hK.out _ _ ?_ (fun hHeld => ?_)
          · exact unhide HK _ hB
          clear hK K
          refine wpAnyH_ready (rs := [7, 11, 12]) (by kernel_rfl) (by simp) ?_
          refine AllReadyH.cons rfl (fun K hK => ?_) (AllReadyH.cons rfl (fun K hK => ?_) (AllReadyH.cons rfl (fun K hK => ?_) AllReadyH.nil))
          · clear hHeld
            go_simp
            refine (unhide KQ _ _ _ I4 I5).mono ?_
            rintro e w9 ⟨v, u, rfl, hv, hu, hb⟩
            obtain ⟨nq, aq, cq, LQ, rfl, iq⟩ := hv
            obtain ⟨nr, ar, cr, LR, rfl, ir⟩ := hu
            have IQ : IsNum 0 w9 (.agg #[.bool nq, .slice aq LQ.length cq]) (Q : Nat) := ⟨nq, aq, cq, LQ, rfl, iq⟩
            have hlr := num_len (show IsNum 0 w9 (.agg #[.bool nr, .slice ar LR.length cr]) (R : Nat) from ⟨nr, ar, cr, LR, rfl, ir⟩)
            have hB := hB.trans (hb.mono hB.size)
            clear iq ir hb I4 I5
            generalize LQ.length = lq at *
            generalize LR.length = lr at *
            go_wp2_with fail
            refine hK.out _ _ ?_ (fun hHeld => ?_)
            · exact unhide HK _ hB
            clear hK K
            refine wpAnyH_take (i := 8) (oi := { dst := some 59, op := Op.move (Operand.tmp 67), type := 49, pos := "ref.go:82", after := #[{ on := 7, ground := Ground.data }], guard := none }) (v := (Value.tuple #[.agg #[.bool nq, .slice aq lq cq], .agg #[.bool nr, .slice ar lr cr]])) rfl (by kernel_rfl) (by kernel_rfl) (by kernel_rfl) (fun _ _ _ h => h) (Or.inl ⟨by rfl, ?_⟩) (by assumption) ?_
            · (intro w hSw; (try dsimp only at hSw); go_simp)
            simp only [Act.put, List.setIfInBounds_toArray, List.set_cons_zero, List.set_cons_succ]
            refine wpAnyH_take (i := 9) (oi := { dst := some 68, op := Op.extract (Operand.tmp 59) 0, type := 44, pos := "ref.go:82", after := #[{ on := 8, ground := Ground.data }], guard := none }) (v := (Value.agg #[.bool nq, .slice aq lq cq])) rfl (by kernel_rfl) (by kernel_rfl) (by kernel_rfl) (fun _ _ _ h => h) (Or.inl ⟨by rfl, ?_⟩) (by assumption) ?_
            · (intro w hSw; (try dsimp only at hSw); go_simp)
            simp only [Act.put, List.setIfInBounds_toArray, List.set_cons_zero, List.set_cons_succ]
            refine wpAnyH_take (i := 10) (oi := { dst := some 69, op := Op.extract (Operand.tmp 59) 1, type := 44, pos := "ref.go:82", after := #[{ on := 8, ground := Ground.data }, { on := 13, ground := Ground.gcOnly Departure.lateStores }], guard := none }) (v := (Value.agg #[.bool nr, .slice ar lr cr])) rfl (by kernel_rfl) (by kernel_rfl) (by kernel_rfl) (fun _ _ _ h => h) (Or.inl ⟨by rfl, ?_⟩) (by assumption) ?_
            · (intro w hSw; (try dsimp only at hSw); go_simp)
            simp only [Act.put, List.setIfInBounds_toArray, List.set_cons_zero, List.set_cons_succ]
            refine wpAnyH_ready (rs := [11, 12]) (by kernel_rfl) (by simp) ?_
            refine AllReadyH.cons rfl (fun K hK => ?_) (AllReadyH.cons rfl (fun K hK => ?_) AllReadyH.nil)
            · clear hHeld
              go_simp
              refine hK.out _ _ ?_ (fun hHeld => ?_)
              · exact unhide HK _ (hB.alloc hB.size _)
              clear hK K
              have hb : Below w9.heap.size w9 (w9.alloc (.cells #[.bool false, .slice none 0 0] 44)) := (Below.refl _ _).alloc (Nat.le_refl _) _
              have bq := Box2.new w9 (.bool false) (.slice none 0 0)
              have kq : W0.heap.size ≤ w9.heap.size := hB.size
              have IQ := IQ.below hb
              have hB := hB.trans (hb.mono hB.size)
              clear hb
              generalize w9.alloc (.cells #[.bool false, .slice none 0 0] 44) = w10 at *
              generalize w9.heap.size = gq at *
              refine wpAnyH_ready (rs := [12]) (by kernel_rfl) (by simp) ?_
              refine AllReadyH.cons rfl (fun K hK => ?_) AllReadyH.nil
              clear hHeld
              go_simp
              refine hK.out _ _ ?_ (fun hHeld => ?_)
              · exact unhide HK _ (hB.alloc hB.size _)
              clear hK K
              have hb : Below w10.heap.size w10 (w10.alloc (.cells #[.bool false, .slice none 0 0] 44)) := (Below.refl _ _).alloc (Nat.le_refl _) _
              have br := Box2.new w10 (.bool false) (.slice none 0 0)
              have kr : W0.heap.size ≤ w10.heap.size := hB.size
              have hne : gq ≠ w10.heap.size := Nat.ne_of_lt bq.lt
              have IQ := IQ.below hb
              have bq := bq.all hb
              have hB := hB.trans (hb.mono hB.size)
              clear hb
              generalize w10.alloc (.cells #[.bool false, .slice none 0 0] 44) = w11 at *
              generalize w10.heap.size = gr at *
              refine wpAnyH_ready (rs := [13]) (by kernel_rfl) (by simp) ?_
              refine AllReadyH.cons rfl (fun K hK => ?_) AllReadyH.nil
              clear hHeld
              have f0 := bq.c0; have f1 := bq.c1; have f2 := bq.free 0; have f3 := bq.free 1
              go_wp2_with fail
              refine hK.out _ _ ?_ (fun hHeld => ?_)
              · exact unhide HK _ (below_put2 hB kq _ _)
              clear hK K f0 f1 f2 f3
              have br' := br.oth6 (fun e => hne e.symm) (.bool nq) (.slice aq lq cq)
              refine wpAnyH_ready (rs := [14]) (by kernel_rfl) (by simp) ?_
              refine AllReadyH.cons rfl (fun K hK => ?_) AllReadyH.nil
              clear hHeld
              have f0 := br'.c0; have f1 := br'.c1; have f2 := br'.free 0; have f3 := br'.free 1
              go_wp2_with fail
              refine hK.out _ _ ?_ (fun hHeld => ?_)
              · exact unhide HK _ (below_put2 (below_put2 hB kq _ _) kr _ _)
              clear hK K f0 f1 f2 f3
              refine wpAnyH_done (by kernel_rfl) ?_ _
              go_wp2_with fail
              go_meet
              case rel => exact ⟨gq, gr, nq, aq, lq, cq, nr, ar, lr, cr, rfl, rfl, hide ⟨DSt.made bq br hne kq kr IQ hB _ _, hlr⟩⟩
            · clear hHeld
              go_simp
              refine hK.out _ _ ?_ (fun hHeld => ?_)
              · exact unhide HK _ (hB.alloc hB.size _)
              clear hK K
              have hb : Below w9.heap.size w9 (w9.alloc (.cells #[.bool false, .slice none 0 0] 44)) := (Below.refl _ _).alloc (Nat.le_refl _) _
              have br := Box2.new w9 (.bool false) (.slice none 0 0)
              have kr : W0.heap.size ≤ w9.heap.size := hB.size
              have IQ := IQ.below hb
              have hB := hB.trans (hb.mono hB.size)
              clear hb
              generalize w9.alloc (.cells #[.bool false, .slice none 0 0] 44) = w10 at *
              generalize w9.heap.size = gr at *
              refine wpAnyH_ready (rs := [11]) (by kernel_rfl) (by simp) ?_
              refine AllReadyH.cons rfl (fun K hK => ?_) AllReadyH.nil
              clear hHeld
              go_simp
              refine hK.out _ _ ?_ (fun hHeld => ?_)
              · exact unhide HK _ (hB.alloc hB.size _)
              clear hK K
              have hb : Below w10.heap.size w10 (w10.alloc (.cells #[.bool false, .slice none 0 0] 44)) := (Below.refl _ _).alloc (Nat.le_refl _) _
              have bq := Box2.new w10 (.bool false) (.slice none 0 0)
              have kq : W0.heap.size ≤ w10.heap.size := hB.size
              have hne : w10.heap.size ≠ gr := (Nat.ne_of_lt br.lt).symm
              have IQ := IQ.below hb
              have br := br.all hb
              have hB := hB.trans (hb.mono hB.size)
              clear hb
              generalize w10.alloc (.cells #[.bool false, .slice none 0 0] 44) = w11 at *
              generalize w10.heap.size = gq at *
              refine wpAnyH_ready (rs := [13]) (by kernel_rfl) (by simp) ?_
              refine AllReadyH.cons rfl (fun K hK => ?_) AllReadyH.nil
              clear hHeld
              have f0 := bq.c0; have f1 := bq.c1; have f2 := bq.free 0; have f3 := bq.free 1
              go_wp2_with fail
              refine hK.out _ _ ?_ (fun hHeld => ?_)
              · exact unhide HK _ (below_put2 hB kq _ _)
              clear hK K f0 f1 f2 f3
              have br' := br.oth6 (fun e => hne e.symm) (.bool nq) (.slice aq lq cq)
              refine wpAnyH_ready (rs := [14]) (by kernel_rfl) (by simp) ?_
              refine AllReadyH.cons rfl (fun K hK => ?_) AllReadyH.nil
              clear hHeld
              have f0 := br'.c0; have f1 := br'.c1; have f2 := br'.free 0; have f3 := br'.free 1
              go_wp2_with fail
              refine hK.out _ _ ?_ (fun hHeld => ?_)
              · exact unhide HK _ (below_put2 (below_put2 hB kq _ _) kr _ _)
              clear hK K f0 f1 f2 f3
              refine wpAnyH_done (by kernel_rfl) ?_ _
              go_wp2_with fail
              go_meet
              case rel => exact ⟨gq, gr, nq, aq, lq, cq, nr, ar, lr, cr, rfl, rfl, hide ⟨DSt.made bq br hne kq kr IQ hB _ _, hlr⟩⟩
          · clear hHeld
            go_simp
            refine hK.out _ _ ?_ (fun hHeld => ?_)
            · exact unhide HK _ (hB.alloc hB.size _)
            clear hK K
            have hb : Below w8.heap.size w8 (w8.alloc (.cells #[.bool false, .slice none 0 0] 44)) := (Below.refl _ _).alloc (Nat.le_refl _) _
            have bq := Box2.new w8 (.bool false) (.slice none 0 0)
            have kq : W0.heap.size ≤ w8.heap.size := hB.size
            have I4 := I4.below hb
            have I5 := I5.below hb
            have hB := hB.trans (hb.mono hB.size)
            clear hb
            generalize w8.alloc (.cells #[.bool false, .slice none 0 0] 44) = w9 at *
            generalize w8.heap.size = gq at *
            refine wpAnyH_ready (rs := [7, 12]) (by kernel_rfl) (by simp) ?_
            refine AllReadyH.cons rfl (fun K hK => ?_) (AllReadyH.cons rfl (fun K hK => ?_) AllReadyH.nil)
            · clear hHeld
              go_simp
              refine (unhide KQ _ _ _ I4 I5).mono ?_
              rintro e w10 ⟨v, u, rfl, hv, hu, hb⟩
              obtain ⟨nq, aq, cq, LQ, rfl, iq⟩ := hv
              obtain ⟨nr, ar, cr, LR, rfl, ir⟩ := hu
              have IQ : IsNum 0 w10 (.agg #[.bool nq, .slice aq LQ.length cq]) (Q : Nat) := ⟨nq, aq, cq, LQ, rfl, iq⟩
              have hlr := num_len (show IsNum 0 w10 (.agg #[.bool nr, .slice ar LR.length cr]) (R : Nat) from ⟨nr, ar, cr, LR, rfl, ir⟩)
              have hB := hB.trans (hb.mono hB.size)
              have bq := bq.all hb
              clear iq ir hb I4 I5
              generalize LQ.length = lq at *
              generalize LR.length = lr at *
              go_wp2_with fail
              refine hK.out _ _ ?_ (fun hHeld => ?_)
              · exact unhide HK _ hB
              clear hK K
              refine wpAnyH_take (i := 8) (oi := { dst := some 59, op := Op.move (Operand.tmp 67), type := 49, pos := "ref.go:82", after := #[{ on := 7, ground := Ground.data }], guard := none }) (v := (Value.tuple #[.agg #[.bool nq, .slice aq lq cq], .agg #[.bool nr, .slice ar lr cr]])) rfl (by kernel_rfl) (by kernel_rfl) (by kernel_rfl) (fun _ _ _ h => h) (Or.inl ⟨by rfl, ?_⟩) (by assumption) ?_
              · (intro w hSw; (try dsimp only at hSw); go_simp)
              simp only [Act.put, List.setIfInBounds_toArray, List.set_cons_zero, List.set_cons_succ]
              refine wpAnyH_take (i := 9) (oi := { dst := some 68, op := Op.extract (Operand.tmp 59) 0, type := 44, pos := "ref.go:82", after := #[{ on := 8, ground := Ground.data }], guard := none }) (v := (Value.agg #[.bool nq, .slice aq lq cq])) rfl (by kernel_rfl) (by kernel_rfl) (by kernel_rfl) (fun _ _ _ h => h) (Or.inl ⟨by rfl, ?_⟩) (by assumption) ?_
              · (intro w hSw; (try dsimp only at hSw); go_simp)
              simp only [Act.put, List.setIfInBounds_toArray, List.set_cons_zero, List.set_cons_succ]
              refine wpAnyH_take (i := 10) (oi := { dst := some 69, op := Op.extract (Operand.tmp 59) 1, type := 44, pos := "ref.go:82", after := #[{ on := 8, ground := Ground.data }, { on := 13, ground := Ground.gcOnly Departure.lateStores }], guard := none }) (v := (Value.agg #[.bool nr, .slice ar lr cr])) rfl (by kernel_rfl) (by kernel_rfl) (by kernel_rfl) (fun _ _ _ h => h) (Or.inl ⟨by rfl, ?_⟩) (by assumption) ?_
              · (intro w hSw; (try dsimp only at hSw); go_simp)
              simp only [Act.put, List.setIfInBounds_toArray, List.set_cons_zero, List.set_cons_succ]
              refine wpAnyH_ready (rs := [12]) (by kernel_rfl) (by simp) ?_
              refine AllReadyH.cons rfl (fun K hK => ?_) AllReadyH.nil
              clear hHeld
              go_simp
              refine hK.out _ _ ?_ (fun hHeld => ?_)
              · exact unhide HK _ (hB.alloc hB.size _)
              clear hK K
              have hb : Below w10.heap.size w10 (w10.alloc (.cells #[.bool false, .slice none 0 0] 44)) := (Below.refl _ _).alloc (Nat.le_refl _) _
              have br := Box2.new w10 (.bool false) (.slice none 0 0)
              have kr : W0.heap.size ≤ w10.heap.size := hB.size
              have hne : gq ≠ w10.heap.size := Nat.ne_of_lt bq.lt
              have IQ := IQ.below hb
              have bq := bq.all hb
              have hB := hB.trans (hb.mono hB.size)
              clear hb
              generalize w10.alloc (.cells #[.bool false, .slice none 0 0] 44) = w11 at *
              generalize w10.heap.size = gr at *
              refine wpAnyH_ready (rs := [13]) (by kernel_rfl) (by simp) ?_
              refine AllReadyH.cons rfl (fun K hK => ?_) AllReadyH.nil
              clear hHeld
              have f0 := bq.c0; have f1 := bq.c1; have f2 := bq.free 0; have f3 := bq.free 1
              go_wp2_with fail
              refine hK.out _ _ ?_ (fun hHeld => ?_)
              · exact unhide HK _ (below_put2 hB kq _ _)
              clear hK K f0 f1 f2 f3
              have br' := br.oth6 (fun e => hne e.symm) (.bool nq) (.slice aq lq cq)
              refine wpAnyH_ready (rs := [14]) (by kernel_rfl) (by simp) ?_
              refine AllReadyH.cons rfl (fun K hK => ?_) AllReadyH.nil
              clear hHeld
              have f0 := br'.c0; have f1 := br'.c1; have f2 := br'.free 0; have f3 := br'.free 1
              go_wp2_with fail
              refine hK.out _ _ ?_ (fun hHeld => ?_)
              · exact unhide HK _ (below_put2 (below_put2 hB kq _ _) kr _ _)
              clear hK K f0 f1 f2 f3
              refine wpAnyH_done (by kernel_rfl) ?_ _
              go_wp2_with fail
              go_meet
              case rel => exact ⟨gq, gr, nq, aq, lq, cq, nr, ar, lr, cr, rfl, rfl, hide ⟨DSt.made bq br hne kq kr IQ hB _ _, hlr⟩⟩
            · clear hHeld
              go_simp
              refine hK.out _ _ ?_ (fun hHeld => ?_)
              · exact unhide HK _ (hB.alloc hB.size _)
              clear hK K
              have hb : Below w9.heap.size w9 (w9.alloc (.cells #[.bool false, .slice none 0 0] 44)) := (Below.refl _ _).alloc (Nat.le_refl _) _
              have br := Box2.new w9 (.bool false) (.slice none 0 0)
              have kr : W0.heap.size ≤ w9.heap.size := hB.size
              have hne : gq ≠ w9.heap.size := Nat.ne_of_lt bq.lt
              have I4 := I4.below hb
              have I5 := I5.below hb
              have bq := bq.all hb
              have hB := hB.trans (hb.mono hB.size)
              clear hb
              generalize w9.alloc (.cells #[.bool false, .slice none 0 0] 44) = w10 at *
              generalize w9.heap.size = gr at *
              refine wpAnyH_ready (rs := [7]) (by kernel_rfl) (by simp) ?_
              refine AllReadyH.cons rfl (fun K hK => ?_) AllReadyH.nil
              clear hHeld
              go_simp
              refine (unhide KQ _ _ _ I4 I5).mono ?_
              rintro e w11 ⟨v, u, rfl, hv, hu, hb⟩
              obtain ⟨nq, aq, cq, LQ, rfl, iq⟩ := hv
              obtain ⟨nr, ar, cr, LR, rfl, ir⟩ := hu
              have IQ : IsNum 0 w11 (.agg #[.bool nq, .slice aq LQ.length cq]) (Q : Nat) := ⟨nq, aq, cq, LQ, rfl, iq⟩
              have hlr := num_len (show IsNum 0 w11 (.agg #[.bool nr, .slice ar LR.length cr]) (R : Nat) from ⟨nr, ar, cr, LR, rfl, ir⟩)
              have hB := hB.trans (hb.mono hB.size)
              have bq := bq.all hb
              have br := br.all hb
              clear iq ir hb I4 I5
              generalize LQ.length = lq at *
              generalize LR.length = lr at *
              go_wp2_with fail
              refine hK.out _ _ ?_ (fun hHeld => ?_)
              · exact unhide HK _ hB
              clear hK K
              refine wpAnyH_take (i := 8) (oi := { dst := some 59, op := Op.move (Operand.tmp 67), type := 49, pos := "ref.go:82", after := #[{ on := 7, ground := Ground.data }], guard := none }) (v := (Value.tuple #[.agg #[.bool nq, .slice aq lq cq], .agg #[.bool nr, .slice ar lr cr]])) rfl (by kernel_rfl) (by kernel_rfl) (by kernel_rfl) (fun _ _ _ h => h) (Or.inl ⟨by rfl, ?_⟩) (by assumption) ?_
              · (intro w hSw; (try dsimp only at hSw); go_simp)
              simp only [Act.put, List.setIfInBounds_toArray, List.set_cons_zero, List.set_cons_succ]
              refine wpAnyH_take (i := 9) (oi := { dst := some 68, op := Op.extract (Operand.tmp 59) 0, type := 44, pos := "ref.go:82", after := #[{ on := 8, ground := Ground.data }], guard := none }) (v := (Value.agg #[.bool nq, .slice aq lq cq])) rfl (by kernel_rfl) (by kernel_rfl) (by kernel_rfl) (fun _ _ _ h => h) (Or.inl ⟨by rfl, ?_⟩) (by assumption) ?_
              · (intro w hSw; (try dsimp only at hSw); go_simp)
              simp only [Act.put, List.setIfInBounds_toArray, List.set_cons_zero, List.set_cons_succ]
              refine wpAnyH_take (i := 10) (oi := { dst := some 69, op := Op.extract (Operand.tmp 59) 1, type := 44, pos := "ref.go:82", after := #[{ on := 8, ground := Ground.data }, { on := 13, ground := Ground.gcOnly Departure.lateStores }], guard := none }) (v := (Value.agg #[.bool nr, .slice ar lr cr])) rfl (by kernel_rfl) (by kernel_rfl) (by kernel_rfl) (fun _ _ _ h => h) (Or.inl ⟨by rfl, ?_⟩) (by assumption) ?_
              · (intro w hSw; (try dsimp only at hSw); go_simp)
              simp only [Act.put, List.setIfInBounds_toArray, List.set_cons_zero, List.set_cons_succ]
              refine wpAnyH_ready (rs := [13]) (by kernel_rfl) (by simp) ?_
              refine AllReadyH.cons rfl (fun K hK => ?_) AllReadyH.nil
              clear hHeld
              have f0 := bq.c0; have f1 := bq.c1; have f2 := bq.free 0; have f3 := bq.free 1
              go_wp2_with fail
              refine hK.out _ _ ?_ (fun hHeld => ?_)
              · exact unhide HK _ (below_put2 hB kq _ _)
              clear hK K f0 f1 f2 f3
              have br' := br.oth6 (fun e => hne e.symm) (.bool nq) (.slice aq lq cq)
              refine wpAnyH_ready (rs := [14]) (by kernel_rfl) (by simp) ?_
              refine AllReadyH.cons rfl (fun K hK => ?_) AllReadyH.nil
              clear hHeld
              have f0 := br'.c0; have f1 := br'.c1; have f2 := br'.free 0; have f3 := br'.free 1
              go_wp2_with fail
              refine hK.out _ _ ?_ (fun hHeld => ?_)
              · exact unhide HK _ (below_put2 (below_put2 hB kq _ _) kr _ _)
              clear hK K f0 f1 f2 f3
              refine wpAnyH_done (by kernel_rfl) ?_ _
              go_wp2_with fail
              go_meet
              case rel => exact ⟨gq, gr, nq, aq, lq, cq, nr, ar, lr, cr, rfl, rfl, hide ⟨DSt.made bq br hne kq kr IQ hB _ _, hlr⟩⟩
          · clear hHeld
            go_simp
            refine hK.out _ _ ?_ (fun hHeld => ?_)
            · exact unhide HK _ (hB.alloc hB.size _)
            clear hK K
            have hb : Below w8.heap.size w8 (w8.alloc (.cells #[.bool false, .slice none 0 0] 44)) := (Below.refl _ _).alloc (Nat.le_refl _) _
            have br := Box2.new w8 (.bool false) (.slice none 0 0)
            have kr : W0.heap.size ≤ w8.heap.size := hB.size
            have I4 := I4.below hb
            have I5 := I5.below hb
            have hB := hB.trans (hb.mono hB.size)
            clear hb
            generalize w8.alloc (.cells #[.bool false, .slice none 0 0] 44) = w9 at *
            generalize w8.heap.size = gr at *
            refine wpAnyH_ready (rs := [7, 11]) (by kernel_rfl) (by simp) ?_
            refine AllReadyH.cons rfl (fun K hK => ?_) (AllReadyH.cons rfl (fun K hK => ?_) AllReadyH.nil)
            · clear hHeld
              go_simp
              refine (unhide KQ _ _ _ I4 I5).mono ?_
              rintro e w10 ⟨v, u, rfl, hv, hu, hb⟩
              obtain ⟨nq, aq, cq, LQ, rfl, iq⟩ := hv
              obtain ⟨nr, ar, cr, LR, rfl, ir⟩ := hu
              have IQ : IsNum 0 w10 (.agg #[.bool nq, .slice aq LQ.length cq]) (Q : Nat) := ⟨nq, aq, cq, LQ, rfl, iq⟩
              have hlr := num_len (show IsNum 0 w10 (.agg #[.bool nr, .slice ar LR.length cr]) (R : Nat) from ⟨nr, ar, cr, LR, rfl, ir⟩)
              have hB := hB.trans (hb.mono hB.size)
              have br := br.all hb
              clear iq ir hb I4 I5
              generalize LQ.length = lq at *
              generalize LR.length = lr at *
              go_wp2_with fail
              refine hK.out _ _ ?_ (fun hHeld => ?_)
              · exact unhide HK _ hB
              clear hK K
              refine wpAnyH_take (i := 8) (oi := { dst := some 59, op := Op.move (Operand.tmp 67), type := 49, pos := "ref.go:82", after := #[{ on := 7, ground := Ground.data }], guard := none }) (v := (Value.tuple #[.agg #[.bool nq, .slice aq lq cq], .agg #[.bool nr, .slice ar lr cr]])) rfl (by kernel_rfl) (by kernel_rfl) (by kernel_rfl) (fun _ _ _ h => h) (Or.inl ⟨by rfl, ?_⟩) (by assumption) ?_
              · (intro w hSw; (try dsimp only at hSw); go_simp)
              simp only [Act.put, List.setIfInBounds_toArray, List.set_cons_zero, List.set_cons_succ]
              refine wpAnyH_take (i := 9) (oi := { dst := some 68, op := Op.extract (Operand.tmp 59) 0, type := 44, pos := "ref.go:82", after := #[{ on := 8, ground := Ground.data }], guard := none }) (v := (Value.agg #[.bool nq, .slice aq lq cq])) rfl (by kernel_rfl) (by kernel_rfl) (by kernel_rfl) (fun _ _ _ h => h) (Or.inl ⟨by rfl, ?_⟩) (by assumption) ?_
              · (intro w hSw; (try dsimp only at hSw); go_simp)
              simp only [Act.put, List.setIfInBounds_toArray, List.set_cons_zero, List.set_cons_succ]
              refine wpAnyH_take (i := 10) (oi := { dst := some 69, op := Op.extract (Operand.tmp 59) 1, type := 44, pos := "ref.go:82", after := #[{ on := 8, ground := Ground.data }, { on := 13, ground := Ground.gcOnly Departure.lateStores }], guard := none }) (v := (Value.agg #[.bool nr, .slice ar lr cr])) rfl (by kernel_rfl) (by kernel_rfl) (by kernel_rfl) (fun _ _ _ h => h) (Or.inl ⟨by rfl, ?_⟩) (by assumption) ?_
              · (intro w hSw; (try dsimp only at hSw); go_simp)
              simp only [Act.put, List.setIfInBounds_toArray, List.set_cons_zero, List.set_cons_succ]
              refine wpAnyH_ready (rs := [11]) (by kernel_rfl) (by simp) ?_
              refine AllReadyH.cons rfl (fun K hK => ?_) AllReadyH.nil
              clear hHeld
              go_simp
              refine hK.out _ _ ?_ (fun hHeld => ?_)
              · exact unhide HK _ (hB.alloc hB.size _)
              clear hK K
              have hb : Below w10.heap.size w10 (w10.alloc (.cells #[.bool false, .slice none 0 0] 44)) := (Below.refl _ _).alloc (Nat.le_refl _) _
              have bq := Box2.new w10 (.bool false) (.slice none 0 0)
              have kq : W0.heap.size ≤ w10.heap.size := hB.size
              have hne : w10.heap.size ≠ gr := (Nat.ne_of_lt br.lt).symm
              have IQ := IQ.below hb
              have br := br.all hb
              have hB := hB.trans (hb.mono hB.size)
              clear hb
              generalize w10.alloc (.cells #[.bool false, .slice none 0 0] 44) = w11 at *
              generalize w10.heap.size = gq at *
              refine wpAnyH_ready (rs := [13]) (by kernel_rfl) (by simp) ?_
              refine AllReadyH.cons rfl (fun K hK => ?_) AllReadyH.nil
              clear hHeld
              have f0 := bq.c0; have f1 := bq.c1; have f2 := bq.free 0; have f3 := bq.free 1
              go_wp2_with fail
              refine hK.out _ _ ?_ (fun hHeld => ?_)
              · exact unhide HK _ (below_put2 hB kq _ _)
              clear hK K f0 f1 f2 f3
              have br' := br.oth6 (fun e => hne e.symm) (.bool nq) (.slice aq lq cq)
              refine wpAnyH_ready (rs := [14]) (by kernel_rfl) (by simp) ?_
              refine AllReadyH.cons rfl (fun K hK => ?_) AllReadyH.nil
              clear hHeld
              have f0 := br'.c0; have f1 := br'.c1; have f2 := br'.free 0; have f3 := br'.free 1
              go_wp2_with fail
              refine hK.out _ _ ?_ (fun hHeld => ?_)
              · exact unhide HK _ (below_put2 (below_put2 hB kq _ _) kr _ _)
              clear hK K f0 f1 f2 f3
              refine wpAnyH_done (by kernel_rfl) ?_ _
              go_wp2_with fail
              go_meet
              case rel => exact ⟨gq, gr, nq, aq, lq, cq, nr, ar, lr, cr, rfl, rfl, hide ⟨DSt.made bq br hne kq kr IQ hB _ _, hlr⟩⟩
            · clear hHeld
              go_simp
              refine hK.out _ _ ?_ (fun hHeld => ?_)
              · exact unhide HK _ (hB.alloc hB.size _)
              clear hK K
              have hb : Below w9.heap.size w9 (w9.alloc (.cells #[.bool false, .slice none 0 0] 44)) := (Below.refl _ _).alloc (Nat.le_refl _) _
              have bq := Box2.new w9 (.bool false) (.slice none 0 0)
              have kq : W0.heap.size ≤ w9.heap.size := hB.size
              have hne : w9.heap.size ≠ gr := (Nat.ne_of_lt br.lt).symm
              have I4 := I4.below hb
              have I5 := I5.below hb
              have br := br.all hb
              have hB := hB.trans (hb.mono hB.size)
              clear hb
              generalize w9.alloc (.cells #[.bool false, .slice none 0 0] 44) = w10 at *
              generalize w9.heap.size = gq at *
              refine wpAnyH_ready (rs := [7]) (by kernel_rfl) (by simp) ?_
              refine AllReadyH.cons rfl (fun K hK => ?_) AllReadyH.nil
              clear hHeld
              go_simp
              refine (unhide KQ _ _ _ I4 I5).mono ?_
              rintro e w11 ⟨v, u, rfl, hv, hu, hb⟩
              obtain ⟨nq, aq, cq, LQ, rfl, iq⟩ := hv
              obtain ⟨nr, ar, cr, LR, rfl, ir⟩ := hu
              have IQ : IsNum 0 w11 (.agg #[.bool nq, .slice aq LQ.length cq]) (Q : Nat) := ⟨nq, aq, cq, LQ, rfl, iq⟩
              have hlr := num_len (show IsNum 0 w11 (.agg #[.bool nr, .slice ar LR.length cr]) (R : Nat) from ⟨nr, ar, cr, LR, rfl, ir⟩)
              have hB := hB.trans (hb.mono hB.size)
              have bq := bq.all hb
              have br := br.all hb
              clear iq ir hb I4 I5
              generalize LQ.length = lq at *
              generalize LR.length = lr at *
              go_wp2_with fail
              refine hK.out _ _ ?_ (fun hHeld => ?_)
              · exact unhide HK _ hB
              clear hK K
              refine wpAnyH_take (i := 8) (oi := { dst := some 59, op := Op.move (Operand.tmp 67), type := 49, pos := "ref.go:82", after := #[{ on := 7, ground := Ground.data }], guard := none }) (v := (Value.tuple #[.agg #[.bool nq, .slice aq lq cq], .agg #[.bool nr, .slice ar lr cr]])) rfl (by kernel_rfl) (by kernel_rfl) (by kernel_rfl) (fun _ _ _ h => h) (Or.inl ⟨by rfl, ?_⟩) (by assumption) ?_
              · (intro w hSw; (try dsimp only at hSw); go_simp)
              simp only [Act.put, List.setIfInBounds_toArray, List.set_cons_zero, List.set_cons_succ]
              refine wpAnyH_take (i := 9) (oi := { dst := some 68, op := Op.extract (Operand.tmp 59) 0, type := 44, pos := "ref.go:82", after := #[{ on := 8, ground := Ground.data }], guard := none }) (v := (Value.agg #[.bool nq, .slice aq lq cq])) rfl (by kernel_rfl) (by kernel_rfl) (by kernel_rfl) (fun _ _ _ h => h) (Or.inl ⟨by rfl, ?_⟩) (by assumption) ?_
              · (intro w hSw; (try dsimp only at hSw); go_simp)
              simp only [Act.put, List.setIfInBounds_toArray, List.set_cons_zero, List.set_cons_succ]
              refine wpAnyH_take (i := 10) (oi := { dst := some 69, op := Op.extract (Operand.tmp 59) 1, type := 44, pos := "ref.go:82", after := #[{ on := 8, ground := Ground.data }, { on := 13, ground := Ground.gcOnly Departure.lateStores }], guard := none }) (v := (Value.agg #[.bool nr, .slice ar lr cr])) rfl (by kernel_rfl) (by kernel_rfl) (by kernel_rfl) (fun _ _ _ h => h) (Or.inl ⟨by rfl, ?_⟩) (by assumption) ?_
              · (intro w hSw; (try dsimp only at hSw); go_simp)
              simp only [Act.put, List.setIfInBounds_toArray, List.set_cons_zero, List.set_cons_succ]
              refine wpAnyH_ready (rs := [13]) (by kernel_rfl) (by simp) ?_
              refine AllReadyH.cons rfl (fun K hK => ?_) AllReadyH.nil
              clear hHeld
              have f0 := bq.c0; have f1 := bq.c1; have f2 := bq.free 0; have f3 := bq.free 1
              go_wp2_with fail
              refine hK.out _ _ ?_ (fun hHeld => ?_)
              · exact unhide HK _ (below_put2 hB kq _ _)
              clear hK K f0 f1 f2 f3
              have br' := br.oth6 (fun e => hne e.symm) (.bool nq) (.slice aq lq cq)
              refine wpAnyH_ready (rs := [14]) (by kernel_rfl) (by simp) ?_
              refine AllReadyH.cons rfl (fun K hK => ?_) AllReadyH.nil
              clear hHeld
              have f0 := br'.c0; have f1 := br'.c1; have f2 := br'.free 0; have f3 := br'.free 1
              go_wp2_with fail
              refine hK.out _ _ ?_ (fun hHeld => ?_)
              · exact unhide HK _ (below_put2 (below_put2 hB kq _ _) kr _ _)
              clear hK K f0 f1 f2 f3
              refine wpAnyH_done (by kernel_rfl) ?_ _
              go_wp2_with fail
              go_meet
              case rel => exact ⟨gq, gr, nq, aq, lq, cq, nr, ar, lr, cr, rfl, rfl, hide ⟨DSt.made bq br hne kq kr IQ hB _ _, hlr⟩⟩
        · clear hHeld
          go_simp
          refine hK.out _ _ ?_ (fun hHeld => ?_)
          · exact unhide HK _ (hB.alloc hB.size _)
          clear hK K
          have hb : Below w7.heap.size w7 (w7.alloc (.cells #[.bool false, .slice none 0 0] 44)) := (Below.refl _ _).alloc (Nat.le_refl _) _
          have bq := Box2.new w7 (.bool false) (.slice none 0 0)
          have kq : W0.heap.size ≤ w7.heap.size := hB.size
          have I4 := I4.below hb
          have hB := hB.trans (hb.mono hB.size)
          clear hb
          generalize w7.alloc (.cells #[.bool false, .slice none 0 0] 44) = w8 at *
          generalize w7.heap.size = gq at *
          refine wpAnyH_ready (rs := [6, 12]) (by kernel_rfl) (by simp) ?_
          refine AllReadyH.cons rfl (fun K hK => ?_) (AllReadyH.cons rfl (fun K hK => ?_) AllReadyH.nil)
          · clear hHeld
            go_simp
            refine (unhide KP2 _ _ ((unhide HY).below hB)).mono ?_
            rintro e w9 ⟨v, rfl, ⟨n5, a5, c5, L5, rfl, i5⟩, hb⟩
            have I5 : IsNum 0 w9 (.agg #[.bool n5, .slice a5 L5.length c5]) (m2 : Nat) := ⟨n5, a5, c5, L5, rfl, i5⟩
            have hB := hB.trans (hb.mono hB.size)
            have I4 := I4.below hb
            have bq := bq.all hb
            clear i5 hb
            generalize L5.length = l5 at *
            go_wp2_with fail
            refine hK.out _ _ ?_ (fun hHeld => ?_)
            · exact unhide HK _ hB
            clear hK K
            refine wpAnyH_ready (rs := [7, 12]) (by kernel_rfl) (by simp) ?_
            refine AllReadyH.cons rfl (fun K hK => ?_) (AllReadyH.cons rfl (fun K hK => ?_) AllReadyH.nil)
            · clear hHeld
              go_simp
              refine (unhide KQ _ _ _ I4 I5).mono ?_
              rintro e w10 ⟨v, u, rfl, hv, hu, hb⟩
              obtain ⟨nq, aq, cq, LQ, rfl, iq⟩ := hv
              obtain ⟨nr, ar, cr, LR, rfl, ir⟩ := hu
              have IQ : IsNum 0 w10 (.agg #[.bool nq, .slice aq LQ.length cq]) (Q : Nat) := ⟨nq, aq, cq, LQ, rfl, iq⟩
              have hlr := num_len (show IsNum 0 w10 (.agg #[.bool nr, .slice ar LR.length cr]) (R : Nat) from ⟨nr, ar, cr, LR, rfl, ir⟩)
              have hB := hB.trans (hb.mono hB.size)
              have bq := bq.all hb
              clear iq ir hb I4 I5
              generalize LQ.length = lq at *
              generalize LR.length = lr at *
              go_wp2_with fail
              refine hK.out _ _ ?_ (fun hHeld => ?_)
              · exact unhide HK _ hB
              clear hK K
              refine wpAnyH_take (i := 8) (oi := { dst := some 59, op := Op.move (Operand.tmp 67), type := 49, pos := "ref.go:82", after := #[{ on := 7, ground := Ground.data }], guard := none }) (v := (Value.tuple #[.agg #[.bool nq, .slice aq lq cq], .agg #[.bool nr, .slice ar lr cr]])) rfl (by kernel_rfl) (by kernel_rfl) (by kernel_rfl) (fun _ _ _ h => h) (Or.inl ⟨by rfl, ?_⟩) (by assumption) ?_
              · (intro w hSw; (try dsimp only at hSw); go_simp)
              simp only [Act.put, List.setIfInBounds_toArray, List.set_cons_zero, List.set_cons_succ]
              refine wpAnyH_take (i := 9) (oi := { dst := some 68, op := Op.extract (Operand.tmp 59) 0, type := 44, pos := "ref.go:82", after := #[{ on := 8, ground := Ground.data }], guard := none }) (v := (Value.agg #[.bool nq, .slice aq lq cq])) rfl (by kernel_rfl) (by kernel_rfl) (by kernel_rfl) (fun _ _ _ h => h) (Or.inl ⟨by rfl, ?_⟩) (by assumption) ?_
              · (intro w hSw; (try dsimp only at hSw); go_simp)
              simp only [Act.put, List.setIfInBounds_toArray, List.set_cons_zero, List.set_cons_succ]
              refine wpAnyH_take (i := 10) (oi := { dst := some 69, op := Op.extract (Operand.tmp 59) 1, type := 44, pos := "ref.go:82", after := #[{ on := 8, ground := Ground.data }, { on := 13, ground := Ground.gcOnly Departure.lateStores }], guard := none }) (v := (Value.agg #[.bool nr, .slice ar lr cr])) rfl (by kernel_rfl) (by kernel_rfl) (by kernel_rfl) (fun _ _ _ h => h) (Or.inl ⟨by rfl, ?_⟩) (by assumption) ?_
              · (intro w hSw; (try dsimp only at hSw); go_simp)
              simp only [Act.put, List.setIfInBounds_toArray, List.set_cons_zero, List.set_cons_succ]
              refine wpAnyH_ready (rs := [12]) (by kernel_rfl) (by simp) ?_
              refine AllReadyH.cons rfl (fun K hK => ?_) AllReadyH.nil
              clear hHeld
              go_simp
              refine hK.out _ _ ?_ (fun hHeld => ?_)
              · exact unhide HK _ (hB.alloc hB.size _)
              clear hK K
              have hb : Below w10.heap.size w10 (w10.alloc (.cells #[.bool false, .slice none 0 0] 44)) := (Below.refl _ _).alloc (Nat.le_refl _) _
              have br := Box2.new w10 (.bool false) (.slice none 0 0)
              have kr : W0.heap.size ≤ w10.heap.size := hB.size
              have hne : gq ≠ w10.heap.size := Nat.ne_of_lt bq.lt
              have IQ := IQ.below hb
              have bq := bq.all hb
              have hB := hB.trans (hb.mono hB.size)
              clear hb
              generalize w10.alloc (.cells #[.bool false, .slice none 0 0] 44) = w11 at *
              generalize w10.heap.size = gr at *
              refine wpAnyH_ready (rs := [13]) (by kernel_rfl) (by simp) ?_
              refine AllReadyH.cons rfl (fun K hK => ?_) AllReadyH.nil
              clear hHeld
              have f0 := bq.c0; have f1 := bq.c1; have f2 := bq.free 0; have f3 := bq.free 1
              go_wp2_with fail
              refine hK.out _ _ ?_ (fun hHeld => ?_)
              · exact unhide HK _ (below_put2 hB kq _ _)
              clear hK K f0 f1 f2 f3
              have br' := br.oth6 (fun e => hne e.symm) (.bool nq) (.slice aq lq cq)
              refine wpAnyH_ready (rs := [14]) (by kernel_rfl) (by simp) ?_
              refine AllReadyH.cons rfl (fun K hK => ?_) AllReadyH.nil
              clear hHeld
              have f0 := br'.c0; have f1 := br'.c1; have f2 := br'.free 0; have f3 := br'.free 1
              go_wp2_with fail
              refine hK.out _ _ ?_ (fun hHeld => ?_)
              · exact unhide HK _ (below_put2 (below_put2 hB kq _ _) kr _ _)
              clear hK K f0 f1 f2 f3
              refine wpAnyH_done (by kernel_rfl) ?_ _
              go_wp2_with fail
              go_meet
              case rel => exact ⟨gq, gr, nq, aq, lq, cq, nr, ar, lr, cr, rfl, rfl, hide ⟨DSt.made bq br hne kq kr IQ hB _ _, hlr⟩⟩
            · clear hHeld
              go_simp
              refine hK.out _ _ ?_ (fun hHeld => ?_)
              · exact unhide HK _ (hB.alloc hB.size _)
              clear hK K
              have hb : Below w9.heap.size w9 (w9.alloc (.cells #[.bool false, .slice none 0 0] 44)) := (Below.refl _ _).alloc (Nat.le_refl _) _
              have br := Box2.new w9 (.bool false) (.slice none 0 0)
              have kr : W0.heap.size ≤ w9.heap.size := hB.size
              have hne : gq ≠ w9.heap.size := Nat.ne_of_lt bq.lt
              have I4 := I4.below hb
              have I5 := I5.below hb
              have bq := bq.all hb
              have hB := hB.trans (hb.mono hB.size)
              clear hb
              generalize w9.alloc (.cells #[.bool false, .slice none 0 0] 44) = w10 at *
              generalize w9.heap.size = gr at *
              refine wpAnyH_ready (rs := [7]) (by kernel_rfl) (by simp) ?_
              refine AllReadyH.cons rfl (fun K hK => ?_) AllReadyH.nil
              clear hHeld
              go_simp
              refine (unhide KQ _ _ _ I4 I5).mono ?_
              rintro e w11 ⟨v, u, rfl, hv, hu, hb⟩
              obtain ⟨nq, aq, cq, LQ, rfl, iq⟩ := hv
              obtain ⟨nr, ar, cr, LR, rfl, ir⟩ := hu
              have IQ : IsNum 0 w11 (.agg #[.bool nq, .slice aq LQ.length cq]) (Q : Nat) := ⟨nq, aq, cq, LQ, rfl, iq⟩
              have hlr := num_len (show IsNum 0 w11 (.agg #[.bool nr, .slice ar LR.length cr]) (R : Nat) from ⟨nr, ar, cr, LR, rfl, ir⟩)
              have hB := hB.trans (hb.mono hB.size)
              have bq := bq.all hb
              have br := br.all hb
              clear iq ir hb I4 I5
              generalize LQ.length = lq at *
              generalize LR.length = lr at *
              go_wp2_with fail
              refine hK.out _ _ ?_ (fun hHeld => ?_)
              · exact unhide HK _ hB
              clear hK K
              refine wpAnyH_take (i := 8) (oi := { dst := some 59, op := Op.move (Operand.tmp 67), type := 49, pos := "ref.go:82", after := #[{ on := 7, ground := Ground.data }], guard := none }) (v := (Value.tuple #[.agg #[.bool nq, .slice aq lq cq], .agg #[.bool nr, .slice ar lr cr]])) rfl (by kernel_rfl) (by kernel_rfl) (by kernel_rfl) (fun _ _ _ h => h) (Or.inl ⟨by rfl, ?_⟩) (by assumption) ?_
              · (intro w hSw; (try dsimp only at hSw); go_simp)
              simp only [Act.put, List.setIfInBounds_toArray, List.set_cons_zero, List.set_cons_succ]
              refine wpAnyH_take (i := 9) (oi := { dst := some 68, op := Op.extract (Operand.tmp 59) 0, type := 44, pos := "ref.go:82", after := #[{ on := 8, ground := Ground.data }], guard := none }) (v := (Value.agg #[.bool nq, .slice aq lq cq])) rfl (by kernel_rfl) (by kernel_rfl) (by kernel_rfl) (fun _ _ _ h => h) (Or.inl ⟨by rfl, ?_⟩) (by assumption) ?_
              · (intro w hSw; (try dsimp only at hSw); go_simp)
              simp only [Act.put, List.setIfInBounds_toArray, List.set_cons_zero, List.set_cons_succ]
              refine wpAnyH_take (i := 10) (oi := { dst := some 69, op := Op.extract (Operand.tmp 59) 1, type := 44, pos := "ref.go:82", after := #[{ on := 8, ground := Ground.data }, { on := 13, ground := Ground.gcOnly Departure.lateStores }], guard := none }) (v := (Value.agg #[.bool nr, .slice ar lr cr])) rfl (by kernel_rfl) (by kernel_rfl) (by kernel_rfl) (fun _ _ _ h => h) (Or.inl ⟨by rfl, ?_⟩) (by assumption) ?_
              · (intro w hSw; (try dsimp only at hSw); go_simp)
              simp only [Act.put, List.setIfInBounds_toArray, List.set_cons_zero, List.set_cons_succ]
              refine wpAnyH_ready (rs := [13]) (by kernel_rfl) (by simp) ?_
              refine AllReadyH.cons rfl (fun K hK => ?_) AllReadyH.nil
              clear hHeld
              have f0 := bq.c0; have f1 := bq.c1; have f2 := bq.free 0; have f3 := bq.free 1
              go_wp2_with fail
              refine hK.out _ _ ?_ (fun hHeld => ?_)
              · exact unhide HK _ (below_put2 hB kq _ _)
              clear hK K f0 f1 f2 f3
              have br' := br.oth6 (fun e => hne e.symm) (.bool nq) (.slice aq lq cq)
              refine wpAnyH_ready (rs := [14]) (by kernel_rfl) (by simp) ?_
              refine AllReadyH.cons rfl (fun K hK => ?_) AllReadyH.nil
              clear hHeld
              have f0 := br'.c0; have f1 := br'.c1; have f2 := br'.free 0; have f3 := br'.free 1
              go_wp2_with fail
              refine hK.out _ _ ?_ (fun hHeld => ?_)
              · exact unhide HK _ (below_put2 (below_put2 hB kq _ _) kr _ _)
              clear hK K f0 f1 f2 f3
              refine wpAnyH_done (by kernel_rfl) ?_ _
              go_wp2_with fail
              go_meet
              case rel => exact ⟨gq, gr, nq, aq, lq, cq, nr, ar, lr, cr, rfl, rfl, hide ⟨DSt.made bq br hne kq kr IQ hB _ _, hlr⟩⟩
          · clear hHeld
            go_simp
            refine hK.out _ _ ?_ (fun hHeld => ?_)
            · exact unhide HK _ (hB.alloc hB.size _)
            clear hK K
            have hb : Below w8.heap.size w8 (w8.alloc (.cells #[.bool false, .slice none 0 0] 44)) := (Below.refl _ _).alloc (Nat.le_refl _) _
            have br := Box2.new w8 (.bool false) (.slice none 0 0)
            have kr : W0.heap.size ≤ w8.heap.size := hB.size
            have hne : gq ≠ w8.heap.size := Nat.ne_of_lt bq.lt
            have I4 := I4.below hb
            have bq := bq.all hb
            have hB := hB.trans (hb.mono hB.size)
            clear hb
            generalize w8.alloc (.cells #[.bool false, .slice none 0 0] 44) = w9 at *
            generalize w8.heap.size = gr at *
            refine wpAnyH_ready (rs := [6]) (by kernel_rfl) (by simp) ?_
            refine AllReadyH.cons rfl (fun K hK => ?_) AllReadyH.nil
            clear hHeld
            go_simp
            refine (unhide KP2 _ _ ((unhide HY).below hB)).mono ?_
            rintro e w10 ⟨v, rfl, ⟨n5, a5, c5, L5, rfl, i5⟩, hb⟩
            have I5 : IsNum 0 w10 (.agg #[.bool n5, .slice a5 L5.length c5]) (m2 : Nat) := ⟨n5, a5, c5, L5, rfl, i5⟩
            have hB := hB.trans (hb.mono hB.size)
            have I4 := I4.below hb
            have bq := bq.all hb
            have br := br.all hb
            clear i5 hb
            generalize L5.length = l5 at *
            go_wp2_with fail
            refine hK.out _ _ ?_ (fun hHeld => ?_)
            · exact unhide HK _ hB
            clear hK K
            refine wpAnyH_ready (rs := [7]) (by kernel_rfl) (by simp) ?_
            refine AllReadyH.cons rfl (fun K hK => ?_) AllReadyH.nil
            clear hHeld
            go_simp
            refine (unhide KQ _ _ _ I4 I5).mono ?_
            rintro e w11 ⟨v, u, rfl, hv, hu, hb⟩
            obtain ⟨nq, aq, cq, LQ, rfl, iq⟩ := hv
            obtain ⟨nr, ar, cr, LR, rfl, ir⟩ := hu
            have IQ : IsNum 0 w11 (.agg #[.bool nq, .slice aq LQ.length cq]) (Q : Nat) := ⟨nq, aq, cq, LQ, rfl, iq⟩
            have hlr := num_len (show IsNum 0 w11 (.agg #[.bool nr, .slice ar LR.length cr]) (R : Nat) from ⟨nr, ar, cr, LR, rfl, ir⟩)
            have hB := hB.trans (hb.mono hB.size)
            have bq := bq.all hb
            have br := br.all hb
            clear iq ir hb I4 I5
            generalize LQ.length = lq at *
            generalize LR.length = lr at *
            go_wp2_with fail
            refine hK.out _ _ ?_ (fun hHeld => ?_)
            · exact unhide HK _ hB
            clear hK K
            refine wpAnyH_take (i := 8) (oi := { dst := some 59, op := Op.move (Operand.tmp 67), type := 49, pos := "ref.go:82", after := #[{ on := 7, ground := Ground.data }], guard := none }) (v := (Value.tuple #[.agg #[.bool nq, .slice aq lq cq], .agg #[.bool nr, .slice ar lr cr]])) rfl (by kernel_rfl) (by kernel_rfl) (by kernel_rfl) (fun _ _ _ h => h) (Or.inl ⟨by rfl, ?_⟩) (by assumption) ?_
            · (intro w hSw; (try dsimp only at hSw); go_simp)
            simp only [Act.put, List.setIfInBounds_toArray, List.set_cons_zero, List.set_cons_succ]
            refine wpAnyH_take (i := 9) (oi := { dst := some 68, op := Op.extract (Operand.tmp 59) 0, type := 44, pos := "ref.go:82", after := #[{ on := 8, ground := Ground.data }], guard := none }) (v := (Value.agg #[.bool nq, .slice aq lq cq])) rfl (by kernel_rfl) (by kernel_rfl) (by kernel_rfl) (fun _ _ _ h => h) (Or.inl ⟨by rfl, ?_⟩) (by assumption) ?_
            · (intro w hSw; (try dsimp only at hSw); go_simp)
            simp only [Act.put, List.setIfInBounds_toArray, List.set_cons_zero, List.set_cons_succ]
            refine wpAnyH_take (i := 10) (oi := { dst := some 69, op := Op.extract (Operand.tmp 59) 1, type := 44, pos := "ref.go:82", after := #[{ on := 8, ground := Ground.data }, { on := 13, ground := Ground.gcOnly Departure.lateStores }], guard := none }) (v := (Value.agg #[.bool nr, .slice ar lr cr])) rfl (by kernel_rfl) (by kernel_rfl) (by kernel_rfl) (fun _ _ _ h => h) (Or.inl ⟨by rfl, ?_⟩) (by assumption) ?_
            · (intro w hSw; (try dsimp only at hSw); go_simp)
            simp only [Act.put, List.setIfInBounds_toArray, List.set_cons_zero, List.set_cons_succ]
            refine wpAnyH_ready (rs := [13]) (by kernel_rfl) (by simp) ?_
            refine AllReadyH.cons rfl (fun K hK => ?_) AllReadyH.nil
            clear hHeld
            have f0 := bq.c0; have f1 := bq.c1; have f2 := bq.free 0; have f3 := bq.free 1
            go_wp2_with fail
            refine hK.out _ _ ?_ (fun hHeld => ?_)
            · exact unhide HK _ (below_put2 hB kq _ _)
            clear hK K f0 f1 f2 f3
            have br' := br.oth6 (fun e => hne e.symm) (.bool nq) (.slice aq lq cq)
            refine wpAnyH_ready (rs := [14]) (by kernel_rfl) (by simp) ?_
            refine AllReadyH.cons rfl (fun K hK => ?_) AllReadyH.nil
            clear hHeld
            have f0 := br'.c0; have f1 := br'.c1; have f2 := br'.free 0; have f3 := br'.free 1
            go_wp2_with fail
            refine hK.out _ _ ?_ (fun hHeld => ?_)
            · exact unhide HK _ (below_put2 (below_put2 hB kq _ _) kr _ _)
            clear hK K f0 f1 f2 f3
            refine wpAnyH_done (by kernel_rfl) ?_ _
            go_wp2_with fail
            go_meet
            case rel => exact ⟨gq, gr, nq, aq, lq, cq, nr, ar, lr, cr, rfl, rfl, hide ⟨DSt.made bq br hne kq kr IQ hB _ _, hlr⟩⟩
        · clear hHeld
          go_simp
          refine hK.out _ _ ?_ (fun hHeld => ?_)
          · exact unhide HK _ (hB.alloc hB.size _)
          clear hK K
          have hb : Below w7.heap.size w7 (w7.alloc (.cells #[.bool false, .slice none 0 0] 44)) := (Below.refl _ _).alloc (Nat.le_refl _) _
          have br := Box2.new w7 (.bool false) (.slice none 0 0)
          have kr : W0.heap.size ≤ w7.heap.size := hB.size
          have I4 := I4.below hb
          have hB := hB.trans (hb.mono hB.size)
          clear hb
          generalize w7.alloc (.cells #[.bool false, .slice none 0 0] 44) = w8 at *
          generalize w7.heap.size = gr at *
          refine wpAnyH_ready (rs := [6, 11]) (by kernel_rfl) (by simp) ?_
          refine AllReadyH.cons rfl (fun K hK => ?_) (AllReadyH.cons rfl (fun K hK => ?_) AllReadyH.nil)
          · clear hHeld
            go_simp
            refine (unhide KP2 _ _ ((unhide HY).below hB)).mono ?_
            rintro e w9 ⟨v, rfl, ⟨n5, a5, c5, L5, rfl, i5⟩, hb⟩
            have I5 : IsNum 0 w9 (.agg #[.bool n5, .slice a5 L5.length c5]) (m2 : Nat) := ⟨n5, a5, c5, L5, rfl, i5⟩
            have hB := hB.trans (hb.mono hB.size)
            have I4 := I4.below hb
            have br := br.all hb
            clear i5 hb
            generalize L5.length = l5 at *
            go_wp2_with fail
            refine hK.out _ _ ?_ (fun hHeld => ?_)
            · exact unhide HK _ hB
            clear hK K
            refine wpAnyH_ready (rs := [7, 11]) (by kernel_rfl) (by simp) ?_
            refine AllReadyH.cons rfl (fun K hK => ?_) (AllReadyH.cons rfl (fun K hK => ?_) AllReadyH.nil)
            · clear hHeld
              go_simp
              refine (unhide KQ _ _ _ I4 I5).mono ?_
              rintro e w10 ⟨v, u, rfl, hv, hu, hb⟩
              obtain ⟨nq, aq, cq, LQ, rfl, iq⟩ := hv
              obtain ⟨nr, ar, cr, LR, rfl, ir⟩ := hu
              have IQ : IsNum 0 w10 (.agg #[.bool nq, .slice aq LQ.length cq]) (Q : Nat) := ⟨nq, aq, cq, LQ, rfl, iq⟩
              have hlr := num_len (show IsNum 0 w10 (.agg #[.bool nr, .slice ar LR.length cr]) (R : Nat) from ⟨nr, ar, cr, LR, rfl, ir⟩)
              have hB := hB.trans (hb.mono hB.size)
              have br := br.all hb
              clear iq ir hb I4 I5
              generalize LQ.length = lq at *
              generalize LR.length = lr at *
              go_wp2_with fail
              refine hK.out _ _ ?_ (fun hHeld => ?_)
              · exact unhide HK _ hB
              clear hK K
              refine wpAnyH_take (i := 8) (oi := { dst := some 59, op := Op.move (Operand.tmp 67), type := 49, pos := "ref.go:82", after := #[{ on := 7, ground := Ground.data }], guard := none }) (v := (Value.tuple #[.agg #[.bool nq, .slice aq lq cq], .agg #[.bool nr, .slice ar lr cr]])) rfl (by kernel_rfl) (by kernel_rfl) (by kernel_rfl) (fun _ _ _ h => h) (Or.inl ⟨by rfl, ?_⟩) (by assumption) ?_
              · (intro w hSw; (try dsimp only at hSw); go_simp)
              simp only [Act.put, List.setIfInBounds_toArray, List.set_cons_zero, List.set_cons_succ]
              refine wpAnyH_take (i := 9) (oi := { dst := some 68, op := Op.extract (Operand.tmp 59) 0, type := 44, pos := "ref.go:82", after := #[{ on := 8, ground := Ground.data }], guard := none }) (v := (Value.agg #[.bool nq, .slice aq lq cq])) rfl (by kernel_rfl) (by kernel_rfl) (by kernel_rfl) (fun _ _ _ h => h) (Or.inl ⟨by rfl, ?_⟩) (by assumption) ?_
              · (intro w hSw; (try dsimp only at hSw); go_simp)
              simp only [Act.put, List.setIfInBounds_toArray, List.set_cons_zero, List.set_cons_succ]
              refine wpAnyH_take (i := 10) (oi := { dst := some 69, op := Op.extract (Operand.tmp 59) 1, type := 44, pos := "ref.go:82", after := #[{ on := 8, ground := Ground.data }, { on := 13, ground := Ground.gcOnly Departure.lateStores }], guard := none }) (v := (Value.agg #[.bool nr, .slice ar lr cr])) rfl (by kernel_rfl) (by kernel_rfl) (by kernel_rfl) (fun _ _ _ h => h) (Or.inl ⟨by rfl, ?_⟩) (by assumption) ?_
              · (intro w hSw; (try dsimp only at hSw); go_simp)
              simp only [Act.put, List.setIfInBounds_toArray, List.set_cons_zero, List.set_cons_succ]
              refine wpAnyH_ready (rs := [11]) (by kernel_rfl) (by simp) ?_
              refine AllReadyH.cons rfl (fun K hK => ?_) AllReadyH.nil
              clear hHeld
              go_simp
              refine hK.out _ _ ?_ (fun hHeld => ?_)
              · exact unhide HK _ (hB.alloc hB.size _)
              clear hK K
              have hb : Below w10.heap.size w10 (w10.alloc (.cells #[.bool false, .slice none 0 0] 44)) := (Below.refl _ _).alloc (Nat.le_refl _) _
              have bq := Box2.new w10 (.bool false) (.slice none 0 0)
              have kq : W0.heap.size ≤ w10.heap.size := hB.size
              have hne : w10.heap.size ≠ gr := (Nat.ne_of_lt br.lt).symm
              have IQ := IQ.below hb
              have br := br.all hb
              have hB := hB.trans (hb.mono hB.size)
              clear hb
              generalize w10.alloc (.cells #[.bool false, .slice none 0 0] 44) = w11 at *
              generalize w10.heap.size = gq at *
              refine wpAnyH_ready (rs := [13]) (by kernel_rfl) (by simp) ?_
              refine AllReadyH.cons rfl (fun K hK => ?_) AllReadyH.nil
              clear hHeld
              have f0 := bq.c0; have f1 := bq.c1; have f2 := bq.free 0; have f3 := bq.free 1
              go_wp2_with fail
              refine hK.out _ _ ?_ (fun hHeld => ?_)
              · exact unhide HK _ (below_put2 hB kq _ _)
              clear hK K f0 f1 f2 f3
              have br' := br.oth6 (fun e => hne e.symm) (.bool nq) (.slice aq lq cq)
              refine wpAnyH_ready (rs := [14]) (by kernel_rfl) (by simp) ?_
              refine AllReadyH.cons rfl (fun K hK => ?_) AllReadyH.nil
              clear hHeld
              have f0 := br'.c0; have f1 := br'.c1; have f2 := br'.free 0; have f3 := br'.free 1
              go_wp2_with fail
              refine hK.out _ _ ?_ (fun hHeld => ?_)
              · exact unhide HK _ (below_put2 (below_put2 hB kq _ _) kr _ _)
              clear hK K f0 f1 f2 f3
              refine wpAnyH_done (by kernel_rfl) ?_ _
              go_wp2_with fail
              go_meet
              case rel => exact ⟨gq, gr, nq, aq, lq, cq, nr, ar, lr, cr, rfl, rfl, hide ⟨DSt.made bq br hne kq kr IQ hB _ _, hlr⟩⟩
            · clear hHeld
              go_simp
              refine hK.out _ _ ?_ (fun hHeld => ?_)
              · exact unhide HK _ (hB.alloc hB.size _)
              clear hK K
              have hb : Below w9.heap.size w9 (w9.alloc (.cells #[.bool false, .slice none 0 0] 44)) := (Below.refl _ _).alloc (Nat.le_refl _) _
              have bq := Box2.new w9 (.bool false) (.slice none 0 0)
              have kq : W0.heap.size ≤ w9.heap.size := hB.size
              have hne : w9.heap.size ≠ gr := (Nat.ne_of_lt br.lt).symm
              have I4 := I4.below hb
              have I5 := I5.below hb
              have br := br.all hb
              have hB := hB.trans (hb.mono hB.size)
              clear hb
              generalize w9.alloc (.cells #[.bool false, .slice none 0 0] 44) = w10 at *
              generalize w9.heap.size = gq at *
              refine wpAnyH_ready (rs := [7]) (by kernel_rfl) (by simp) ?_
              refine AllReadyH.cons rfl (fun K hK => ?_) AllReadyH.nil
              clear hHeld
              go_simp
              refine (unhide KQ _ _ _ I4 I5).mono ?_
              rintro e w11 ⟨v, u, rfl, hv, hu, hb⟩
              obtain ⟨nq, aq, cq, LQ, rfl, iq⟩ := hv
              obtain ⟨nr, ar, cr, LR, rfl, ir⟩ := hu
              have IQ : IsNum 0 w11 (.agg #[.bool nq, .slice aq LQ.length cq]) (Q : Nat) := ⟨nq, aq, cq, LQ, rfl, iq⟩
              have hlr := num_len (show IsNum 0 w11 (.agg #[.bool nr, .slice ar LR.length cr]) (R : Nat) from ⟨nr, ar, cr, LR, rfl, ir⟩)
              have hB := hB.trans (hb.mono hB.size)
              have bq := bq.all hb
              have br := br.all hb
              clear iq ir hb I4 I5
              generalize LQ.length = lq at *
              generalize LR.length = lr at *
              go_wp2_with fail
              refine hK.out _ _ ?_ (fun hHeld => ?_)
              · exact unhide HK _ hB
              clear hK K
              refine wpAnyH_take (i := 8) (oi := { dst := some 59, op := Op.move (Operand.tmp 67), type := 49, pos := "ref.go:82", after := #[{ on := 7, ground := Ground.data }], guard := none }) (v := (Value.tuple #[.agg #[.bool nq, .slice aq lq cq], .agg #[.bool nr, .slice ar lr cr]])) rfl (by kernel_rfl) (by kernel_rfl) (by kernel_rfl) (fun _ _ _ h => h) (Or.inl ⟨by rfl, ?_⟩) (by assumption) ?_
              · (intro w hSw; (try dsimp only at hSw); go_simp)
              simp only [Act.put, List.setIfInBounds_toArray, List.set_cons_zero, List.set_cons_succ]
              refine wpAnyH_take (i := 9) (oi := { dst := some 68, op := Op.extract (Operand.tmp 59) 0, type := 44, pos := "ref.go:82", after := #[{ on := 8, ground := Ground.data }], guard := none }) (v := (Value.agg #[.bool nq, .slice aq lq cq])) rfl (by kernel_rfl) (by kernel_rfl) (by kernel_rfl) (fun _ _ _ h => h) (Or.inl ⟨by rfl, ?_⟩) (by assumption) ?_
              · (intro w hSw; (try dsimp only at hSw); go_simp)
              simp only [Act.put, List.setIfInBounds_toArray, List.set_cons_zero, List.set_cons_succ]
              refine wpAnyH_take (i := 10) (oi := { dst := some 69, op := Op.extract (Operand.tmp 59) 1, type := 44, pos := "ref.go:82", after := #[{ on := 8, ground := Ground.data }, { on := 13, ground := Ground.gcOnly Departure.lateStores }], guard := none }) (v := (Value.agg #[.bool nr, .slice ar lr cr])) rfl (by kernel_rfl) (by kernel_rfl) (by kernel_rfl) (fun _ _ _ h => h) (Or.inl ⟨by rfl, ?_⟩) (by assumption) ?_
              · (intro w hSw; (try dsimp only at hSw); go_simp)
              simp only [Act.put, List.setIfInBounds_toArray, List.set_cons_zero, List.set_cons_succ]
              refine wpAnyH_ready (rs := [13]) (by kernel_rfl) (by simp) ?_
              refine AllReadyH.cons rfl (fun K hK => ?_) AllReadyH.nil
              clear hHeld
              have f0 := bq.c0; have f1 := bq.c1; have f2 := bq.free 0; have f3 := bq.free 1
              go_wp2_with fail
              refine hK.out _ _ ?_ (fun hHeld => ?_)
              · exact unhide HK _ (below_put2 hB kq _ _)
              clear hK K f0 f1 f2 f3
              have br' := br.oth6 (fun e => hne e.symm) (.bool nq) (.slice aq lq cq)
              refine wpAnyH_ready (rs := [14]) (by kernel_rfl) (by simp) ?_
              refine AllReadyH.cons rfl (fun K hK => ?_) AllReadyH.nil
              clear hHeld
              have f0 := br'.c0; have f1 := br'.c1; have f2 := br'.free 0; have f3 := br'.free 1
              go_wp2_with fail
              refine hK.out _ _ ?_ (fun hHeld => ?_)
              · exact unhide HK _ (below_put2 (below_put2 hB kq _ _) kr _ _)
              clear hK K f0 f1 f2 f3
              refine wpAnyH_done (by kernel_rfl) ?_ _
              go_wp2_with fail
              go_meet
              case rel => exact ⟨gq, gr, nq, aq, lq, cq, nr, ar, lr, cr, rfl, rfl, hide ⟨DSt.made bq br hne kq kr IQ hB _ _, hlr⟩⟩
          · clear hHeld
            go_simp
            refine hK.out _ _ ?_ (fun hHeld => ?_)
            · exact unhide HK _ (hB.alloc hB.size _)
            clear hK K
            have hb : Below w8.heap.size w8 (w8.alloc (.cells #[.bool false, .slice none 0 0] 44)) := (Below.refl _ _).alloc (Nat.le_refl _) _
            have bq := Box2.new w8 (.bool false) (.slice none 0 0)
            have kq : W0.heap.size ≤ w8.heap.size := hB.size
            have hne : w8.heap.size ≠ gr := (Nat.ne_of_lt br.lt).symm
            have I4 := I4.below hb
            have br := br.all hb
            have hB := hB.trans (hb.mono hB.size)
            clear hb
            generalize w8.alloc (.cells #[.bool false, .slice none 0 0] 44) = w9 at *
            generalize w8.heap.size = gq at *
            refine wpAnyH_ready (rs := [6]) (by kernel_rfl) (by simp) ?_
            refine AllReadyH.cons rfl (fun K hK => ?_) AllReadyH.nil
            clear hHeld
            go_simp
            refine (unhide KP2 _ _ ((unhide HY).below hB)).mono ?_
            rintro e w10 ⟨v, rfl, ⟨n5, a5, c5, L5, rfl, i5⟩, hb⟩
            have I5 : IsNum 0 w10 (.agg #[.bool n5, .slice a5 L5.length c5]) (m2 : Nat) := ⟨n5, a5, c5, L5, rfl, i5⟩
            have hB := hB.trans (hb.mono hB.size)
            have I4 := I4.below hb
            have bq := bq.all hb
            have br := br.all hb
            clear i5 hb
            generalize L5.length = l5 at *
            go_wp2_with fail
            refine hK.out _ _ ?_ (fun hHeld => ?_)
            · exact unhide HK _ hB
            clear hK K
            refine wpAnyH_ready (rs := [7]) (by kernel_rfl) (by simp) ?_
            refine AllReadyH.cons rfl (fun K hK => ?_) AllReadyH.nil
            clear hHeld
            go_simp
            refine (unhide KQ _ _ _ I4 I5).mono ?_
            rintro e w11 ⟨v, u, rfl, hv, hu, hb⟩
            obtain ⟨nq, aq, cq, LQ, rfl, iq⟩ := hv
            obtain ⟨nr, ar, cr, LR, rfl, ir⟩ := hu
            have IQ : IsNum 0 w11 (.agg #[.bool nq, .slice aq LQ.length cq]) (Q : Nat) := ⟨nq, aq, cq, LQ, rfl, iq⟩
            have hlr := num_len (show IsNum 0 w11 (.agg #[.bool nr, .slice ar LR.length cr]) (R : Nat) from ⟨nr, ar, cr, LR, rfl, ir⟩)
            have hB := hB.trans (hb.mono hB.size)
            have bq := bq.all hb
            have br := br.all hb
            clear iq ir hb I4 I5
            generalize LQ.length = lq at *
            generalize LR.length = lr at *
            go_wp2_with fail
            refine hK.out _ _ ?_ (fun hHeld => ?_)
            · exact unhide HK _ hB
            clear hK K
            refine wpAnyH_take (i := 8) (oi := { dst := some 59, op := Op.move (Operand.tmp 67), type := 49, pos := "ref.go:82", after := #[{ on := 7, ground := Ground.data }], guard := none }) (v := (Value.tuple #[.agg #[.bool nq, .slice aq lq cq], .agg #[.bool nr, .slice ar lr cr]])) rfl (by kernel_rfl) (by kernel_rfl) (by kernel_rfl) (fun _ _ _ h => h) (Or.inl ⟨by rfl, ?_⟩) (by assumption) ?_
            · (intro w hSw; (try dsimp only at hSw); go_simp)
            simp only [Act.put, List.setIfInBounds_toArray, List.set_cons_zero, List.set_cons_succ]
            refine wpAnyH_take (i := 9) (oi := { dst := some 68, op := Op.extract (Operand.tmp 59) 0, type := 44, pos := "ref.go:82", after := #[{ on := 8, ground := Ground.data }], guard := none }) (v := (Value.agg #[.bool nq, .slice aq lq cq])) rfl (by kernel_rfl) (by kernel_rfl) (by kernel_rfl) (fun _ _ _ h => h) (Or.inl ⟨by rfl, ?_⟩) (by assumption) ?_
            · (intro w hSw; (try dsimp only at hSw); go_simp)
            simp only [Act.put, List.setIfInBounds_toArray, List.set_cons_zero, List.set_cons_succ]
            refine wpAnyH_take (i := 10) (oi := { dst := some 69, op := Op.extract (Operand.tmp 59) 1, type := 44, pos := "ref.go:82", after := #[{ on := 8, ground := Ground.data }, { on := 13, ground := Ground.gcOnly Departure.lateStores }], guard := none }) (v := (Value.agg #[.bool nr, .slice ar lr cr])) rfl (by kernel_rfl) (by kernel_rfl) (by kernel_rfl) (fun _ _ _ h => h) (Or.inl ⟨by rfl, ?_⟩) (by assumption) ?_
            · (intro w hSw; (try dsimp only at hSw); go_simp)
            simp only [Act.put, List.setIfInBounds_toArray, List.set_cons_zero, List.set_cons_succ]
            refine wpAnyH_ready (rs := [13]) (by kernel_rfl) (by simp) ?_
            refine AllReadyH.cons rfl (fun K hK => ?_) AllReadyH.nil
            clear hHeld
            have f0 := bq.c0; have f1 := bq.c1; have f2 := bq.free 0; have f3 := bq.free 1
            go_wp2_with fail
            refine hK.out _ _ ?_ (fun hHeld => ?_)
            · exact unhide HK _ (below_put2 hB kq _ _)
            clear hK K f0 f1 f2 f3
            have br' := br.oth6 (fun e => hne e.symm) (.bool nq) (.slice aq lq cq)
            refine wpAnyH_ready (rs := [14]) (by kernel_rfl) (by simp) ?_
            refine AllReadyH.cons rfl (fun K hK => ?_) AllReadyH.nil
            clear hHeld
            have f0 := br'.c0; have f1 := br'.c1; have f2 := br'.free 0; have f3 := br'.free 1
            go_wp2_with fail
            refine hK.out _ _ ?_ (fun hHeld => ?_)
            · exact unhide HK _ (below_put2 (below_put2 hB kq _ _) kr _ _)
            clear hK K f0 f1 f2 f3
            refine wpAnyH_done (by kernel_rfl) ?_ _
            go_wp2_with fail
            go_meet
            case rel => exact ⟨gq, gr, nq, aq, lq, cq, nr, ar, lr, cr, rfl, rfl, hide ⟨DSt.made bq br hne kq kr IQ hB _ _, hlr⟩⟩
      · clear hHeld
        go_simp
        refine hK.out _ _ ?_ (fun hHeld => ?_)
        · exact unhide HK _ (hB.alloc hB.size _)
        clear hK K
        have hb : Below w6.heap.size w6 (w6.alloc (.cells #[.bool false, .slice none 0 0] 44)) := (Below.refl _ _).alloc (Nat.le_refl _) _
        have bq := Box2.new w6 (.bool false) (.slice none 0 0)
        have kq : W0.heap.size ≤ w6.heap.size := hB.size
        have I3 := I3.below hb
        have hB := hB.trans (hb.mono hB.size)
        clear hb
        generalize w6.alloc (.cells #[.bool false, .slice none 0 0] 44) = w7 at *
        generalize w6.heap.size = gq at *
        refine wpAnyH_ready (rs := [3, 12]) (by kernel_rfl) (by simp) ?_
        refine AllReadyH.cons rfl (fun K hK => ?_) (AllReadyH.cons rfl (fun K hK => ?_) AllReadyH.nil)
        · clear hHeld
          go_simp
          refine (unhide KSH _ _ I3).mono ?_
          rintro e w8 ⟨v, rfl, ⟨n4, a4, c4, L4, rfl, i4⟩, hb⟩
          have I4 : IsNum 0 w8 (.agg #[.bool n4, .slice a4 L4.length c4]) (A : Nat) := ⟨n4, a4, c4, L4, rfl, i4⟩
          have hB := hB.trans (hb.mono hB.size)
          have bq := bq.all hb
          clear i4 hb I3
          generalize L4.length = l4 at *
          go_wp2_with fail
          refine hK.out _ _ ?_ (fun hHeld => ?_)
          · exact unhide HK _ hB
          clear hK K
          refine wpAnyH_ready (rs := [6, 12]) (by kernel_rfl) (by simp) ?_
          refine AllReadyH.cons rfl (fun K hK => ?_) (AllReadyH.cons rfl (fun K hK => ?_) AllReadyH.nil)
          · clear hHeld
            go_simp
            refine (unhide KP2 _ _ ((unhide HY).below hB)).mono ?_
            rintro e w9 ⟨v, rfl, ⟨n5, a5, c5, L5, rfl, i5⟩, hb⟩
            have I5 : IsNum 0 w9 (.agg #[.bool n5, .slice a5 L5.length c5]) (m2 : Nat) := ⟨n5, a5, c5, L5, rfl, i5⟩
            have hB := hB.trans (hb.mono hB.size)
            have I4 := I4.below hb
            have bq := bq.all hb
            clear i5 hb
            generalize L5.length = l5 at *
            go_wp2_with fail
            refine hK.out _ _ ?_ (fun hHeld => ?_)
            · exact unhide HK _ hB
            clear hK K
            refine wpAnyH_ready (rs := [7, 12]) (by kernel_rfl) (by simp) ?_
            refine AllReadyH.cons rfl (fun K hK => ?_) (AllReadyH.cons rfl (fun K hK => ?_) AllReadyH.nil)
            · clear hHeld
              go_simp
              refine (unhide KQ _ _ _ I4 I5).mono ?_
              rintro e w10 ⟨v, u, rfl, hv, hu, hb⟩
              obtain ⟨nq, aq, cq, LQ, rfl, iq⟩ := hv
              obtain ⟨nr, ar, cr, LR, rfl, ir⟩ := hu
              have IQ : IsNum 0 w10 (.agg #[.bool nq, .slice aq LQ.length cq]) (Q : Nat) := ⟨nq, aq, cq, LQ, rfl, iq⟩
              have hlr := num_len (show IsNum 0 w10 (.agg #[.bool nr, .slice ar LR.length cr]) (R : Nat) from ⟨nr, ar, cr, LR, rfl, ir⟩)
              have hB := hB.trans (hb.mono hB.size)
              have bq := bq.all hb
              clear iq ir hb I4 I5
              generalize LQ.length = lq at *
              generalize LR.length = lr at *
              go_wp2_with fail
              refine hK.out _ _ ?_ (fun hHeld => ?_)
              · exact unhide HK _ hB
              clear hK K
              refine wpAnyH_take (i := 8) (oi := { dst := some 59, op := Op.move (Operand.tmp 67), type := 49, pos := "ref.go:82", after := #[{ on := 7, ground := Ground.data }], guard := none }) (v := (Value.tuple #[.agg #[.bool nq, .slice aq lq cq], .agg #[.bool nr, .slice ar lr cr]])) rfl (by kernel_rfl) (by kernel_rfl) (by kernel_rfl) (fun _ _ _ h => h) (Or.inl ⟨by rfl, ?_⟩) (by assumption) ?_
              · (intro w hSw; (try dsimp only at hSw); go_simp)
              simp only [Act.put, List.setIfInBounds_toArray, List.set_cons_zero, List.set_cons_succ]
              refine wpAnyH_take (i := 9) (oi := { dst := some 68, op := Op.extract (Operand.tmp 59) 0, type := 44, pos := "ref.go:82", after := #[{ on := 8, ground := Ground.data }], guard := none }) (v := (Value.agg #[.bool nq, .slice aq lq cq])) rfl (by kernel_rfl) (by kernel_rfl) (by kernel_rfl) (fun _ _ _ h => h) (Or.inl ⟨by rfl, ?_⟩) (by assumption) ?_
              · (intro w hSw; (try dsimp only at hSw); go_simp)
              simp only [Act.put, List.setIfInBounds_toArray, List.set_cons_zero, List.set_cons_succ]
              refine wpAnyH_take (i := 10) (oi := { dst := some 69, op := Op.extract (Operand.tmp 59) 1, type := 44, pos := "ref.go:82", after := #[{ on := 8, ground := Ground.data }, { on := 13, ground := Ground.gcOnly Departure.lateStores }], guard := none }) (v := (Value.agg #[.bool nr, .slice ar lr cr])) rfl (by kernel_rfl) (by kernel_rfl) (by kernel_rfl) (fun _ _ _ h => h) (Or.inl ⟨by rfl, ?_⟩) (by assumption) ?_
              · (intro w hSw; (try dsimp only at hSw); go_simp)
              simp only [Act.put, List.setIfInBounds_toArray, List.set_cons_zero, List.set_cons_succ]
              refine wpAnyH_ready (rs := [12]) (by kernel_rfl) (by simp) ?_
              refine AllReadyH.cons rfl (fun K hK => ?_) AllReadyH.nil
              clear hHeld
              go_simp
              refine hK.out _ _ ?_ (fun hHeld => ?_)
              · exact unhide HK _ (hB.alloc hB.size _)
              clear hK K
              have hb : Below w10.heap.size w10 (w10.alloc (.cells #[.bool false, .slice none 0 0] 44)) := (Below.refl _ _).alloc (Nat.le_refl _) _
              have br := Box2.new w10 (.bool false) (.slice none 0 0)
              have kr : W0.heap.size ≤ w10.heap.size := hB.size
              have hne : gq ≠ w10.heap.size := Nat.ne_of_lt bq.lt
              have IQ := IQ.below hb
              have bq := bq.all hb
              have hB := hB.trans (hb.mono hB.size)
              clear hb
              generalize w10.alloc (.cells #[.bool false, .slice none 0 0] 44) = w11 at *
              generalize w10.heap.size = gr at *
              refine wpAnyH_ready (rs := [13]) (by kernel_rfl) (by simp) ?_
              refine AllReadyH.cons rfl (fun K hK => ?_) AllReadyH.nil
              clear hHeld
              have f0 := bq.c0; have f1 := bq.c1; have f2 := bq.free 0; have f3 := bq.free 1
              go_wp2_with fail
              refine hK.out _ _ ?_ (fun hHeld => ?_)
              · exact unhide HK _ (below_put2 hB kq _ _)
              clear hK K f0 f1 f2 f3
              have br' := br.oth6 (fun e => hne e.symm) (.bool nq) (.slice aq lq cq)
              refine wpAnyH_ready (rs := [14]) (by kernel_rfl) (by simp) ?_
              refine AllReadyH.cons rfl (fun K hK => ?_) AllReadyH.nil
              clear hHeld
              have f0 := br'.c0; have f1 := br'.c1; have f2 := br'.free 0; have f3 := br'.free 1
              go_wp2_with fail
              refine hK.out _ _ ?_ (fun hHeld => ?_)
              · exact unhide HK _ (below_put2 (below_put2 hB kq _ _) kr _ _)
              clear hK K f0 f1 f2 f3
              refine wpAnyH_done (by kernel_rfl) ?_ _
              go_wp2_with fail
              go_meet
              case rel => exact ⟨gq, gr, nq, aq, lq, cq, nr, ar, lr, cr, rfl, rfl, hide ⟨DSt.made bq br hne kq kr IQ hB _ _, hlr⟩⟩
            · clear hHeld
              go_simp
              refine hK.out _ _ ?_ (fun hHeld => ?_)
              · exact unhide HK _ (hB.alloc hB.size _)
              clear hK K
              have hb : Below w9.heap.size w9 (w9.alloc (.cells #[.bool false, .slice none 0 0] 44)) := (Below.refl _ _).alloc (Nat.le_refl _) _
              have br := Box2.new w9 (.bool false) (.slice none 0 0)
              have kr : W0.heap.size ≤ w9.heap.size := hB.size
              have hne : gq ≠ w9.heap.size := Nat.ne_of_lt bq.lt
              have I4 := I4.below hb
              have I5 := I5.below hb
              have bq := bq.all hb
              have hB := hB.trans (hb.mono hB.size)
              clear hb
              generalize w9.alloc (.cells #[.bool false, .slice none 0 0] 44) = w10 at *
              generalize w9.heap.size = gr at *
              refine wpAnyH_ready (rs := [7]) (by kernel_rfl) (by simp) ?_
              refine AllReadyH.cons rfl (fun K hK => ?_) AllReadyH.nil
              clear hHeld
              go_simp
              refine (unhide KQ _ _ _ I4 I5).mono ?_
              rintro e w11 ⟨v, u, rfl, hv, hu, hb⟩
              obtain ⟨nq, aq, cq, LQ, rfl, iq⟩ := hv
              obtain ⟨nr, ar, cr, LR, rfl, ir⟩ := hu
              have IQ : IsNum 0 w11 (.agg #[.bool nq, .slice aq LQ.length cq]) (Q : Nat) := ⟨nq, aq, cq, LQ, rfl, iq⟩
              have hlr := num_len (show IsNum 0 w11 (.agg #[.bool nr, .slice ar LR.length cr]) (R : Nat) from ⟨nr, ar, cr, LR, rfl, ir⟩)
              have hB := hB.trans (hb.mono hB.size)
              have bq := bq.all hb
              have br := br.all hb
              clear iq ir hb I4 I5
              generalize LQ.length = lq at *
              generalize LR.length = lr at *
              go_wp2_with fail
              refine hK.out _ _ ?_ (fun hHeld => ?_)
              · exact unhide HK _ hB
              clear hK K
              refine wpAnyH_take (i := 8) (oi := { dst := some 59, op := Op.move (Operand.tmp 67), type := 49, pos := "ref.go:82", after := #[{ on := 7, ground := Ground.data }], guard := none }) (v := (Value.tuple #[.agg #[.bool nq, .slice aq lq cq], .agg #[.bool nr, .slice ar lr cr]])) rfl (by kernel_rfl) (by kernel_rfl) (by kernel_rfl) (fun _ _ _ h => h) (Or.inl ⟨by rfl, ?_⟩) (by assumption) ?_
              · (intro w hSw; (try dsimp only at hSw); go_simp)
              simp only [Act.put, List.setIfInBounds_toArray, List.set_cons_zero, List.set_cons_succ]
              refine wpAnyH_take (i := 9) (oi := { dst := some 68, op := Op.extract (Operand.tmp 59) 0, type := 44, pos := "ref.go:82", after := #[{ on := 8, ground := Ground.data }], guard := none }) (v := (Value.agg #[.bool nq, .slice aq lq cq])) rfl (by kernel_rfl) (by kernel_rfl) (by kernel_rfl) (fun _ _ _ h => h) (Or.inl ⟨by rfl, ?_⟩) (by assumption) ?_
              · (intro w hSw; (try dsimp only at hSw); go_simp)
              simp only [Act.put, List.setIfInBounds_toArray, List.set_cons_zero, List.set_cons_succ]
              refine wpAnyH_take (i := 10) (oi := { dst := some 69, op := Op.extract (Operand.tmp 59) 1, type := 44, pos := "ref.go:82", after := #[{ on := 8, ground := Ground.data }, { on := 13, ground := Ground.gcOnly Departure.lateStores }], guard := none }) (v := (Value.agg #[.bool nr, .slice ar lr cr])) rfl (by kernel_rfl) (by kernel_rfl) (by kernel_rfl) (fun _ _ _ h => h) (Or.inl ⟨by rfl, ?_⟩) (by assumption) ?_
              · (intro w hSw; (try dsimp only at hSw); go_simp)
              simp only [Act.put, List.setIfInBounds_toArray, List.set_cons_zero, List.set_cons_succ]
              refine wpAnyH_ready (rs := [13]) (by kernel_rfl) (by simp) ?_
              refine AllReadyH.cons rfl (fun K hK => ?_) AllReadyH.nil
              clear hHeld
              have f0 := bq.c0; have f1 := bq.c1; have f2 := bq.free 0; have f3 := bq.free 1
              go_wp2_with fail
              refine hK.out _ _ ?_ (fun hHeld => ?_)
              · exact unhide HK _ (below_put2 hB kq _ _)
              clear hK K f0 f1 f2 f3
              have br' := br.oth6 (fun e => hne e.symm) (.bool nq) (.slice aq lq cq)
              refine wpAnyH_ready (rs := [14]) (by kernel_rfl) (by simp) ?_
              refine AllReadyH.cons rfl (fun K hK => ?_) AllReadyH.nil
              clear hHeld
              have f0 := br'.c0; have f1 := br'.c1; have f2 := br'.free 0; have f3 := br'.free 1
              go_wp2_with fail
              refine hK.out _ _ ?_ (fun hHeld => ?_)
              · exact unhide HK _ (below_put2 (below_put2 hB kq _ _) kr _ _)
              clear hK K f0 f1 f2 f3
              refine wpAnyH_done (by kernel_rfl) ?_ _
              go_wp2_with fail
              go_meet
              case rel => exact ⟨gq, gr, nq, aq, lq, cq, nr, ar, lr, cr, rfl, rfl, hide ⟨DSt.made bq br hne kq kr IQ hB _ _, hlr⟩⟩
          · clear hHeld
            go_simp
            refine hK.out _ _ ?_ (fun hHeld => ?_)
            · exact unhide HK _ (hB.alloc hB.size _)
            clear hK K
            have hb : Below w8.heap.size w8 (w8.alloc (.cells #[.bool false, .slice none 0 0] 44)) := (Below.refl _ _).alloc (Nat.le_refl _) _
            have br := Box2.new w8 (.bool false) (.slice none 0 0)
            have kr : W0.heap.size ≤ w8.heap.size := hB.size
            have hne : gq ≠ w8.heap.size := Nat.ne_of_lt bq.lt
            have I4 := I4.below hb
            have bq := bq.all hb
            have hB := hB.trans (hb.mono hB.size)
            clear hb
            generalize w8.alloc (.cells #[.bool false, .slice none 0 0] 44) = w9 at *
            generalize w8.heap.size = gr at *
            refine wpAnyH_ready (rs := [6]) (by kernel_rfl) (by simp) ?_
            refine AllReadyH.cons rfl (fun K hK => ?_) AllReadyH.nil
            clear hHeld
            go_simp
            refine (unhide KP2 _ _ ((unhide HY).below hB)).mono ?_
            rintro e w10 ⟨v, rfl, ⟨n5, a5, c5, L5, rfl, i5⟩, hb⟩
            have I5 : IsNum 0 w10 (.agg #[.bool n5, .slice a5 L5.length c5]) (m2 : Nat) := ⟨n5, a5, c5, L5, rfl, i5⟩
            have hB := hB.trans (hb.mono hB.size)
            have I4 := I4.below hb
            have bq := bq.all hb
            have br := br.all hb
            clear i5 hb
            generalize L5.length = l5 at *
            go_wp2_with fail
            refine hK.out _ _ ?_ (fun hHeld => ?_)
            · exact unhide HK _ hB
            clear hK K
            refine wpAnyH_ready (rs := [7]) (by kernel_rfl) (by simp) ?_
            refine AllReadyH.cons rfl (fun K hK => ?_) AllReadyH.nil
            clear hHeld
            go_simp
            refine (unhide KQ _ _ _ I4 I5).mono ?_
            rintro e w11 ⟨v, u, rfl, hv, hu, hb⟩
            obtain ⟨nq, aq, cq, LQ, rfl, iq⟩ := hv
            obtain ⟨nr, ar, cr, LR, rfl, ir⟩ := hu
            have IQ : IsNum 0 w11 (.agg #[.bool nq, .slice aq LQ.length cq]) (Q : Nat) := ⟨nq, aq, cq, LQ, rfl, iq⟩
            have hlr := num_len (show IsNum 0 w11 (.agg #[.bool nr, .slice ar LR.length cr]) (R : Nat) from ⟨nr, ar, cr, LR, rfl, ir⟩)
            have hB := hB.trans (hb.mono hB.size)
            have bq := bq.all hb
            have br := br.all hb
            clear iq ir hb I4 I5
            generalize LQ.length = lq at *
            generalize LR.length = lr at *
            go_wp2_with fail
            refine hK.out _ _ ?_ (fun hHeld => ?_)
            · exact unhide HK _ hB
            clear hK K
            refine wpAnyH_take (i := 8) (oi := { dst := some 59, op := Op.move (Operand.tmp 67), type := 49, pos := "ref.go:82", after := #[{ on := 7, ground := Ground.data }], guard := none }) (v := (Value.tuple #[.agg #[.bool nq, .slice aq lq cq], .agg #[.bool nr, .slice ar lr cr]])) rfl (by kernel_rfl) (by kernel_rfl) (by kernel_rfl) (fun _ _ _ h => h) (Or.inl ⟨by rfl, ?_⟩) (by assumption) ?_
            · (intro w hSw; (try dsimp only at hSw); go_simp)
            simp only [Act.put, List.setIfInBounds_toArray, List.set_cons_zero, List.set_cons_succ]
            refine wpAnyH_take (i := 9) (oi := { dst := some 68, op := Op.extract (Operand.tmp 59) 0, type := 44, pos := "ref.go:82", after := #[{ on := 8, ground := Ground.data }], guard := none }) (v := (Value.agg #[.bool nq, .slice aq lq cq])) rfl (by kernel_rfl) (by kernel_rfl) (by kernel_rfl) (fun _ _ _ h => h) (Or.inl ⟨by rfl, ?_⟩) (by assumption) ?_
            · (intro w hSw; (try dsimp only at hSw); go_simp)
            simp only [Act.put, List.setIfInBounds_toArray, List.set_cons_zero, List.set_cons_succ]
            refine wpAnyH_take (i := 10) (oi := { dst := some 69, op := Op.extract (Operand.tmp 59) 1, type := 44, pos := "ref.go:82", after := #[{ on := 8, ground := Ground.data }, { on := 13, ground := Ground.gcOnly Departure.lateStores }], guard := none }) (v := (Value.agg #[.bool nr, .slice ar lr cr])) rfl (by kernel_rfl) (by kernel_rfl) (by kernel_rfl) (fun _ _ _ h => h) (Or.inl ⟨by rfl, ?_⟩) (by assumption) ?_
            · (intro w hSw; (try dsimp only at hSw); go_simp)
            simp only [Act.put, List.setIfInBounds_toArray, List.set_cons_zero, List.set_cons_succ]
            refine wpAnyH_ready (rs := [13]) (by kernel_rfl) (by simp) ?_
            refine AllReadyH.cons rfl (fun K hK => ?_) AllReadyH.nil
            clear hHeld
            have f0 := bq.c0; have f1 := bq.c1; have f2 := bq.free 0; have f3 := bq.free 1
            go_wp2_with fail
            refine hK.out _ _ ?_ (fun hHeld => ?_)
            · exact unhide HK _ (below_put2 hB kq _ _)
            clear hK K f0 f1 f2 f3
            have br' := br.oth6 (fun e => hne e.symm) (.bool nq) (.slice aq lq cq)
            refine wpAnyH_ready (rs := [14]) (by kernel_rfl) (by simp) ?_
            refine AllReadyH.cons rfl (fun K hK => ?_) AllReadyH.nil
            clear hHeld
            have f0 := br'.c0; have f1 := br'.c1; have f2 := br'.free 0; have f3 := br'.free 1
            go_wp2_with fail
            refine hK.out _ _ ?_ (fun hHeld => ?_)
            · exact unhide HK _ (below_put2 (below_put2 hB kq _ _) kr _ _)
            clear hK K f0 f1 f2 f3
            refine wpAnyH_done (by kernel_rfl) ?_ _
            go_wp2_with fail
            go_meet
            case rel => exact ⟨gq, gr, nq, aq, lq, cq, nr, ar, lr, cr, rfl, rfl, hide ⟨DSt.made bq br hne kq kr IQ hB _ _, hlr⟩⟩
        · clear hHeld
          go_simp
          refine hK.out _ _ ?_ (fun hHeld => ?_)
          · exact unhide HK _ (hB.alloc hB.size _)
          clear hK K
          have hb : Below w7.heap.size w7 (w7.alloc (.cells #[.bool false, .slice none 0 0] 44)) := (Below.refl _ _).alloc (Nat.le_refl _) _
          have br := Box2.new w7 (.bool false) (.slice none 0 0)
          have kr : W0.heap.size ≤ w7.heap.size := hB.size
          have hne : gq ≠ w7.heap.size := Nat.ne_of_lt bq.lt
          have I3 := I3.below hb
          have bq := bq.all hb
          have hB := hB.trans (hb.mono hB.size)
          clear hb
          generalize w7.alloc (.cells #[.bool false, .slice none 0 0] 44) = w8 at *
          generalize w7.heap.size = gr at *
          refine wpAnyH_ready (rs := [3]) (by kernel_rfl) (by simp) ?_
          refine AllReadyH.cons rfl (fun K hK => ?_) AllReadyH.nil
          clear hHeld
          go_simp
          refine (unhide KSH _ _ I3).mono ?_
          rintro e w9 ⟨v, rfl, ⟨n4, a4, c4, L4, rfl, i4⟩, hb⟩
          have I4 : IsNum 0 w9 (.agg #[.bool n4, .slice a4 L4.length c4]) (A : Nat) := ⟨n4, a4, c4, L4, rfl, i4⟩
          have hB := hB.trans (hb.mono hB.size)
          have bq := bq.all hb
          have br := br.all hb
          clear i4 hb I3
          generalize L4.length = l4 at *
          go_wp2_with fail
          refine hK.out _ _ ?_ (fun hHeld => ?_)
          · exact unhide HK _ hB
          clear hK K
          refine wpAnyH_ready (rs := [6]) (by kernel_rfl) (by simp) ?_
          refine AllReadyH.cons rfl (fun K hK => ?_) AllReadyH.nil
          clear hHeld
          go_simp
          refine (unhide KP2 _ _ ((unhide HY).below hB)).mono ?_
          rintro e w10 ⟨v, rfl, ⟨n5, a5, c5, L5, rfl, i5⟩, hb⟩
          have I5 : IsNum 0 w10 (.agg #[.bool n5, .slice a5 L5.length c5]) (m2 : Nat) := ⟨n5, a5, c5, L5, rfl, i5⟩
          have hB := hB.trans (hb.mono hB.size)
          have I4 := I4.below hb
          have bq := bq.all hb
          have br := br.all hb
          clear i5 hb
          generalize L5.length = l5 at *
          go_wp2_with fail
          refine hK.out _ _ ?_ (fun hHeld => ?_)
          · exact unhide HK _ hB
          clear hK K
          refine wpAnyH_ready (rs := [7]) (by kernel_rfl) (by simp) ?_
          refine AllReadyH.cons rfl (fun K hK => ?_) AllReadyH.nil
          clear hHeld
          go_simp
          refine (unhide KQ _ _ _ I4 I5).mono ?_
          rintro e w11 ⟨v, u, rfl, hv, hu, hb⟩
          obtain ⟨nq, aq, cq, LQ, rfl, iq⟩ := hv
          obtain ⟨nr, ar, cr, LR, rfl, ir⟩ := hu
          have IQ : IsNum 0 w11 (.agg #[.bool nq, .slice aq LQ.length cq]) (Q : Nat) := ⟨nq, aq, cq, LQ, rfl, iq⟩
          have hlr := num_len (show IsNum 0 w11 (.agg #[.bool nr, .slice ar LR.length cr]) (R : Nat) from ⟨nr, ar, cr, LR, rfl, ir⟩)
          have hB := hB.trans (hb.mono hB.size)
          have bq := bq.all hb
          have br := br.all hb
          clear iq ir hb I4 I5
          generalize LQ.length = lq at *
          generalize LR.length = lr at *
          go_wp2_with fail
          refine hK.out _ _ ?_ (fun hHeld => ?_)
          · exact unhide HK _ hB
          clear hK K
          refine wpAnyH_take (i := 8) (oi := { dst := some 59, op := Op.move (Operand.tmp 67), type := 49, pos := "ref.go:82", after := #[{ on := 7, ground := Ground.data }], guard := none }) (v := (Value.tuple #[.agg #[.bool nq, .slice aq lq cq], .agg #[.bool nr, .slice ar lr cr]])) rfl (by kernel_rfl) (by kernel_rfl) (by kernel_rfl) (fun _ _ _ h => h) (Or.inl ⟨by rfl, ?_⟩) (by assumption) ?_
          · (intro w hSw; (try dsimp only at hSw); go_simp)
          simp only [Act.put, List.setIfInBounds_toArray, List.set_cons_zero, List.set_cons_succ]
          refine wpAnyH_take (i := 9) (oi := { dst := some 68, op := Op.extract (Operand.tmp 59) 0, type := 44, pos := "ref.go:82", after := #[{ on := 8, ground := Ground.data }], guard := none }) (v := (Value.agg #[.bool nq, .slice aq lq cq])) rfl (by kernel_rfl) (by kernel_rfl) (by kernel_rfl) (fun _ _ _ h => h) (Or.inl ⟨by rfl, ?_⟩) (by assumption) ?_
          · (intro w hSw; (try dsimp only at hSw); go_simp)
          simp only [Act.put, List.setIfInBounds_toArray, List.set_cons_zero, List.set_cons_succ]
          refine wpAnyH_take (i := 10) (oi := { dst := some 69, op := Op.extract (Operand.tmp 59) 1, type := 44, pos := "ref.go:82", after := #[{ on := 8, ground := Ground.data }, { on := 13, ground := Ground.gcOnly Departure.lateStores }], guard := none }) (v := (Value.agg #[.bool nr, .slice ar lr cr])) rfl (by kernel_rfl) (by kernel_rfl) (by kernel_rfl) (fun _ _ _ h => h) (Or.inl ⟨by rfl, ?_⟩) (by assumption) ?_
          · (intro w hSw; (try dsimp only at hSw); go_simp)
          simp only [Act.put, List.setIfInBounds_toArray, List.set_cons_zero, List.set_cons_succ]
          refine wpAnyH_ready (rs := [13]) (by kernel_rfl) (by simp) ?_
          refine AllReadyH.cons rfl (fun K hK => ?_) AllReadyH.nil
          clear hHeld
          have f0 := bq.c0; have f1 := bq.c1; have f2 := bq.free 0; have f3 := bq.free 1
          go_wp2_with fail
          refine hK.out _ _ ?_ (fun hHeld => ?_)
          · exact unhide HK _ (below_put2 hB kq _ _)
          clear hK K f0 f1 f2 f3
          have br' := br.oth6 (fun e => hne e.symm) (.bool nq) (.slice aq lq cq)
          refine wpAnyH_ready (rs := [14]) (by kernel_rfl) (by simp) ?_
          refine AllReadyH.cons rfl (fun K hK => ?_) AllReadyH.nil
          clear hHeld
          have f0 := br'.c0; have f1 := br'.c1; have f2 := br'.free 0; have f3 := br'.free 1
          go_wp2_with fail
          refine hK.out _ _ ?_ (fun hHeld => ?_)
          · exact unhide HK _ (below_put2 (below_put2 hB kq _ _) kr _ _)
          clear hK K f0 f1 f2 f3
          refine wpAnyH_done (by kernel_rfl) ?_ _
          go_wp2_with fail
          go_meet
          case rel => exact ⟨gq, gr, nq, aq, lq, cq, nr, ar, lr, cr, rfl, rfl, hide ⟨DSt.made bq br hne kq kr IQ hB _ _, hlr⟩⟩
      · clear hHeld
        go_simp
        refine hK.out _ _ ?_ (fun hHeld => ?_)
        · exact unhide HK _ (hB.alloc hB.size _)
        clear hK K
        have hb : Below w6.heap.size w6 (w6.alloc (.cells #[.bool false, .slice none 0 0] 44)) := (Below.refl _ _).alloc (Nat.le_refl _) _
        have br := Box2.new w6 (.bool false) (.slice none 0 0)
        have kr : W0.heap.size ≤ w6.heap.size := hB.size
        have I3 := I3.below hb
        have hB := hB.trans (hb.mono hB.size)
        clear hb
        generalize w6.alloc (.cells #[.bool false, .slice none 0 0] 44) = w7 at *
        generalize w6.heap.size = gr at *
        refine wpAnyH_ready (rs := [3, 11]) (by kernel_rfl) (by simp) ?_
        refine AllReadyH.cons rfl (fun K hK => ?_) (AllReadyH.cons rfl (fun K hK => ?_) AllReadyH.nil)
        · clear hHeld
          go_simp
          refine (unhide KSH _ _ I3).mono ?_
          rintro e w8 ⟨v, rfl, ⟨n4, a4, c4, L4, rfl, i4⟩, hb⟩
          have I4 : IsNum 0 w8 (.agg #[.bool n4, .slice a4 L4.length c4]) (A : Nat) := ⟨n4, a4, c4, L4, rfl, i4⟩
          have hB := hB.trans (hb.mono hB.size)
          have br := br.all hb
          clear i4 hb I3
          generalize L4.length = l4 at *
          go_wp2_with fail
          refine hK.out _ _ ?_ (fun hHeld => ?_)
          · exact unhide HK _ hB
          clear hK K
          refine wpAnyH_ready (rs := [6, 11]) (by kernel_rfl) (by simp) ?_
          refine AllReadyH.cons rfl (fun K hK => ?_) (AllReadyH.cons rfl (fun K hK => ?_) AllReadyH.nil)
          · clear hHeld
            go_simp
            refine (unhide KP2 _ _ ((unhide HY).below hB)).mono ?_
            rintro e w9 ⟨v, rfl, ⟨n5, a5, c5, L5, rfl, i5⟩, hb⟩
            have I5 : IsNum 0 w9 (.agg #[.bool n5, .slice a5 L5.length c5]) (m2 : Nat) := ⟨n5, a5, c5, L5, rfl, i5⟩
            have hB := hB.trans (hb.mono hB.size)
            have I4 := I4.below hb
            have br := br.all hb
            clear i5 hb
            generalize L5.length = l5 at *
            go_wp2_with fail
            refine hK.out _ _ ?_ (fun hHeld => ?_)
            · exact unhide HK _ hB
            clear hK K
            refine wpAnyH_ready (rs := [7, 11]) (by kernel_rfl) (by simp) ?_
            refine AllReadyH.cons rfl (fun K hK => ?_) (AllReadyH.cons rfl (fun K hK => ?_) AllReadyH.nil)
            · clear hHeld
              go_simp
              refine (unhide KQ _ _ _ I4 I5).mono ?_
              rintro e w10 ⟨v, u, rfl, hv, hu, hb⟩
              obtain ⟨nq, aq, cq, LQ, rfl, iq⟩ := hv
              obtain ⟨nr, ar, cr, LR, rfl, ir⟩ := hu
              have IQ : IsNum 0 w10 (.agg #[.bool nq, .slice aq LQ.length cq]) (Q : Nat) := ⟨nq, aq, cq, LQ, rfl, iq⟩
              have hlr := num_len (show IsNum 0 w10 (.agg #[.bool nr, .slice ar LR.length cr]) (R : Nat) from ⟨nr, ar, cr, LR, rfl, ir⟩)
              have hB := hB.trans (hb.mono hB.size)
              have br := br.all hb
              clear iq ir hb I4 I5
              generalize LQ.length = lq at *
              generalize LR.length = lr at *
              go_wp2_with fail
              refine hK.out _ _ ?_ (fun hHeld => ?_)
              · exact unhide HK _ hB
              clear hK K
              refine wpAnyH_take (i := 8) (oi := { dst := some 59, op := Op.move (Operand.tmp 67), type := 49, pos := "ref.go:82", after := #[{ on := 7, ground := Ground.data }], guard := none }) (v := (Value.tuple #[.agg #[.bool nq, .slice aq lq cq], .agg #[.bool nr, .slice ar lr cr]])) rfl (by kernel_rfl) (by kernel_rfl) (by kernel_rfl) (fun _ _ _ h => h) (Or.inl ⟨by rfl, ?_⟩) (by assumption) ?_
              · (intro w hSw; (try dsimp only at hSw); go_simp)
              simp only [Act.put, List.setIfInBounds_toArray, List.set_cons_zero, List.set_cons_succ]
              refine wpAnyH_take (i := 9) (oi := { dst := some 68, op := Op.extract (Operand.tmp 59) 0, type := 44, pos := "ref.go:82", after := #[{ on := 8, ground := Ground.data }], guard := none }) (v := (Value.agg #[.bool nq, .slice aq lq cq])) rfl (by kernel_rfl) (by kernel_rfl) (by kernel_rfl) (fun _ _ _ h => h) (Or.inl ⟨by rfl, ?_⟩) (by assumption) ?_
              · (intro w hSw; (try dsimp only at hSw); go_simp)
              simp only [Act.put, List.setIfInBounds_toArray, List.set_cons_zero, List.set_cons_succ]
              refine wpAnyH_take (i := 10) (oi := { dst := some 69, op := Op.extract (Operand.tmp 59) 1, type := 44, pos := "ref.go:82", after := #[{ on := 8, ground := Ground.data }, { on := 13, ground := Ground.gcOnly Departure.lateStores }], guard := none }) (v := (Value.agg #[.bool nr, .slice ar lr cr])) rfl (by kernel_rfl) (by kernel_rfl) (by kernel_rfl) (fun _ _ _ h => h) (Or.inl ⟨by rfl, ?_⟩) (by assumption) ?_
              · (intro w hSw; (try dsimp only at hSw); go_simp)
              simp only [Act.put, List.setIfInBounds_toArray, List.set_cons_zero, List.set_cons_succ]
              refine wpAnyH_ready (rs := [11]) (by kernel_rfl) (by simp) ?_
              refine AllReadyH.cons rfl (fun K hK => ?_) AllReadyH.nil
              clear hHeld
              go_simp
              refine hK.out _ _ ?_ (fun hHeld => ?_)
              · exact unhide HK _ (hB.alloc hB.size _)
              clear hK K
              have hb : Below w10.heap.size w10 (w10.alloc (.cells #[.bool false, .slice none 0 0] 44)) := (Below.refl _ _).alloc (Nat.le_refl _) _
              have bq := Box2.new w10 (.bool false) (.slice none 0 0)
              have kq : W0.heap.size ≤ w10.heap.size := hB.size
              have hne : w10.heap.size ≠ gr := (Nat.ne_of_lt br.lt).symm
              have IQ := IQ.below hb
              have br := br.all hb
              have hB := hB.trans (hb.mono hB.size)
              clear hb
              generalize w10.alloc (.cells #[.bool false, .slice none 0 0] 44) = w11 at *
              generalize w10.heap.size = gq at *
              refine wpAnyH_ready (rs := [13]) (by kernel_rfl) (by simp) ?_
              refine AllReadyH.cons rfl (fun K hK => ?_) AllReadyH.nil
              clear hHeld
              have f0 := bq.c0; have f1 := bq.c1; have f2 := bq.free 0; have f3 := bq.free 1
              go_wp2_with fail
              refine hK.out _ _ ?_ (fun hHeld => ?_)
              · exact unhide HK _ (below_put2 hB kq _ _)
              clear hK K f0 f1 f2 f3
              have br' := br.oth6 (fun e => hne e.symm) (.bool nq) (.slice aq lq cq)
              refine wpAnyH_ready (rs := [14]) (by kernel_rfl) (by simp) ?_
              refine AllReadyH.cons rfl (fun K hK => ?_) AllReadyH.nil
              clear hHeld
              have f0 := br'.c0; have f1 := br'.c1; have f2 := br'.free 0; have f3 := br'.free 1
              go_wp2_with fail
              refine hK.out _ _ ?_ (fun hHeld => ?_)
              · exact unhide HK _ (below_put2 (below_put2 hB kq _ _) kr _ _)
              clear hK K f0 f1 f2 f3
              refine wpAnyH_done (by kernel_rfl) ?_ _
              go_wp2_with fail
              go_meet
              case rel => exact ⟨gq, gr, nq, aq, lq, cq, nr, ar, lr, cr, rfl, rfl, hide ⟨DSt.made bq br hne kq kr IQ hB _ _, hlr⟩⟩
            · clear hHeld
              go_simp
              refine hK.out _ _ ?_ (fun hHeld => ?_)
              · exact unhide HK _ (hB.alloc hB.size _)
              clear hK K
              have hb : Below w9.heap.size w9 (w9.alloc (.cells #[.bool false, .slice none 0 0] 44)) := (Below.refl _ _).alloc (Nat.le_refl _) _
              have bq := Box2.new w9 (.bool false) (.slice none 0 0)
              have kq : W0.heap.size ≤ w9.heap.size := hB.size
              have hne : w9.heap.size ≠ gr := (Nat.ne_of_lt br.lt).symm
              have I4 := I4.below hb
              have I5 := I5.below hb
              have br := br.all hb
              have hB := hB.trans (hb.mono hB.size)
              clear hb
              generalize w9.alloc (.cells #[.bool false, .slice none 0 0] 44) = w10 at *
              generalize w9.heap.size = gq at *
              refine wpAnyH_ready (rs := [7]) (by kernel_rfl) (by simp) ?_
              refine AllReadyH.cons rfl (fun K hK => ?_) AllReadyH.nil
              clear hHeld
              go_simp
              refine (unhide KQ _ _ _ I4 I5).mono ?_
              rintro e w11 ⟨v, u, rfl, hv, hu, hb⟩
              obtain ⟨nq, aq, cq, LQ, rfl, iq⟩ := hv
              obtain ⟨nr, ar, cr, LR, rfl, ir⟩ := hu
              have IQ : IsNum 0 w11 (.agg #[.bool nq, .slice aq LQ.length cq]) (Q : Nat) := ⟨nq, aq, cq, LQ, rfl, iq⟩
              have hlr := num_len (show IsNum 0 w11 (.agg #[.bool nr, .slice ar LR.length cr]) (R : Nat) from ⟨nr, ar, cr, LR, rfl, ir⟩)
              have hB := hB.trans (hb.mono hB.size)
              have bq := bq.all hb
              have br := br.all hb
              clear iq ir hb I4 I5
              generalize LQ.length = lq at *
              generalize LR.length = lr at *
              go_wp2_with fail
              refine hK.out _ _ ?_ (fun hHeld => ?_)
              · exact unhide HK _ hB
              clear hK K
              refine wpAnyH_take (i := 8) (oi := { dst := some 59, op := Op.move (Operand.tmp 67), type := 49, pos := "ref.go:82", after := #[{ on := 7, ground := Ground.data }], guard := none }) (v := (Value.tuple #[.agg #[.bool nq, .slice aq lq cq], .agg #[.bool nr, .slice ar lr cr]])) rfl (by kernel_rfl) (by kernel_rfl) (by kernel_rfl) (fun _ _ _ h => h) (Or.inl ⟨by rfl, ?_⟩) (by assumption) ?_
              · (intro w hSw; (try dsimp only at hSw); go_simp)
              simp only [Act.put, List.setIfInBounds_toArray, List.set_cons_zero, List.set_cons_succ]
              refine wpAnyH_take (i := 9) (oi := { dst := some 68, op := Op.extract (Operand.tmp 59) 0, type := 44, pos := "ref.go:82", after := #[{ on := 8, ground := Ground.data }], guard := none }) (v := (Value.agg #[.bool nq, .slice aq lq cq])) rfl (by kernel_rfl) (by kernel_rfl) (by kernel_rfl) (fun _ _ _ h => h) (Or.inl ⟨by rfl, ?_⟩) (by assumption) ?_
              · (intro w hSw; (try dsimp only at hSw); go_simp)
              simp only [Act.put, List.setIfInBounds_toArray, List.set_cons_zero, List.set_cons_succ]
              refine wpAnyH_take (i := 10) (oi := { dst := some 69, op := Op.extract (Operand.tmp 59) 1, type := 44, pos := "ref.go:82", after := #[{ on := 8, ground := Ground.data }, { on := 13, ground := Ground.gcOnly Departure.lateStores }], guard := none }) (v := (Value.agg #[.bool nr, .slice ar lr cr])) rfl (by kernel_rfl) (by kernel_rfl) (by kernel_rfl) (fun _ _ _ h => h) (Or.inl ⟨by rfl, ?_⟩) (by assumption) ?_
              · (intro w hSw; (try dsimp only at hSw); go_simp)
              simp only [Act.put, List.setIfInBounds_toArray, List.set_cons_zero, List.set_cons_succ]
              refine wpAnyH_ready (rs := [13]) (by kernel_rfl) (by simp) ?_
              refine AllReadyH.cons rfl (fun K hK => ?_) AllReadyH.nil
              clear hHeld
              have f0 := bq.c0; have f1 := bq.c1; have f2 := bq.free 0; have f3 := bq.free 1
              go_wp2_with fail
              refine hK.out _ _ ?_ (fun hHeld => ?_)
              · exact unhide HK _ (below_put2 hB kq _ _)
              clear hK K f0 f1 f2 f3
              have br' := br.oth6 (fun e => hne e.symm) (.bool nq) (.slice aq lq cq)
              refine wpAnyH_ready (rs := [14]) (by kernel_rfl) (by simp) ?_
              refine AllReadyH.cons rfl (fun K hK => ?_) AllReadyH.nil
              clear hHeld
              have f0 := br'.c0; have f1 := br'.c1; have f2 := br'.free 0; have f3 := br'.free 1
              go_wp2_with fail
              refine hK.out _ _ ?_ (fun hHeld => ?_)
              · exact unhide HK _ (below_put2 (below_put2 hB kq _ _) kr _ _)
              clear hK K f0 f1 f2 f3
              refine wpAnyH_done (by kernel_rfl) ?_ _
              go_wp2_with fail
              go_meet
              case rel => exact ⟨gq, gr, nq, aq, lq, cq, nr, ar, lr, cr, rfl, rfl, hide ⟨DSt.made bq br hne kq kr IQ hB _ _, hlr⟩⟩
          · clear hHeld
            go_simp
            refine hK.out _ _ ?_ (fun hHeld => ?_)
            · exact unhide HK _ (hB.alloc hB.size _)
            clear hK K
            have hb : Below w8.heap.size w8 (w8.alloc (.cells #[.bool false, .slice none 0 0] 44)) := (Below.refl _ _).alloc (Nat.le_refl _) _
            have bq := Box2.new w8 (.bool false) (.slice none 0 0)
            have kq : W0.heap.size ≤ w8.heap.size := hB.size
            have hne : w8.heap.size ≠ gr := (Nat.ne_of_lt br.lt).symm
            have I4 := I4.below hb
            have br := br.all hb
            have hB := hB.trans (hb.mono hB.size)
            clear hb
            generalize w8.alloc (.cells #[.bool false, .slice none 0 0] 44) = w9 at *
            generalize w8.heap.size = gq at *
            refine wpAnyH_ready (rs := [6]) (by kernel_rfl) (by simp) ?_
            refine AllReadyH.cons rfl (fun K hK => ?_) AllReadyH.nil
            clear hHeld
            go_simp
            refine (unhide KP2 _ _ ((unhide HY).below hB)).mono ?_
            rintro e w10 ⟨v, rfl, ⟨n5, a5, c5, L5, rfl, i5⟩, hb⟩
            have I5 : IsNum 0 w10 (.agg #[.bool n5, .slice a5 L5.length c5]) (m2 : Nat) := ⟨n5, a5, c5, L5, rfl, i5⟩
            have hB := hB.trans (hb.mono hB.size)
            have I4 := I4.below hb
            have bq := bq.all hb
            have br := br.all hb
            clear i5 hb
            generalize L5.length = l5 at *
            go_wp2_with fail
            refine hK.out _ _ ?_ (fun hHeld => ?_)
            · exact unhide HK _ hB
            clear hK K
            refine wpAnyH_ready (rs := [7]) (by kernel_rfl) (by simp) ?_
            refine AllReadyH.cons rfl (fun K hK => ?_) AllReadyH.nil
            clear hHeld
            go_simp
            refine (unhide KQ _ _ _ I4 I5).mono ?_
            rintro e w11 ⟨v, u, rfl, hv, hu, hb⟩
            obtain ⟨nq, aq, cq, LQ, rfl, iq⟩ := hv
            obtain ⟨nr, ar, cr, LR, rfl, ir⟩ := hu
            have IQ : IsNum 0 w11 (.agg #[.bool nq, .slice aq LQ.length cq]) (Q : Nat) := ⟨nq, aq, cq, LQ, rfl, iq⟩
            have hlr := num_len (show IsNum 0 w11 (.agg #[.bool nr, .slice ar LR.length cr]) (R : Nat) from ⟨nr, ar, cr, LR, rfl, ir⟩)
            have hB := hB.trans (hb.mono hB.size)
            have bq := bq.all hb
            have br := br.all hb
            clear iq ir hb I4 I5
            generalize LQ.length = lq at *
            generalize LR.length = lr at *
            go_wp2_with fail
            refine hK.out _ _ ?_ (fun hHeld => ?_)
            · exact unhide HK _ hB
            clear hK K
            refine wpAnyH_take (i := 8) (oi := { dst := some 59, op := Op.move (Operand.tmp 67), type := 49, pos := "ref.go:82", after := #[{ on := 7, ground := Ground.data }], guard := none }) (v := (Value.tuple #[.agg #[.bool nq, .slice aq lq cq], .agg #[.bool nr, .slice ar lr cr]])) rfl (by kernel_rfl) (by kernel_rfl) (by kernel_rfl) (fun _ _ _ h => h) (Or.inl ⟨by rfl, ?_⟩) (by assumption) ?_
            · (intro w hSw; (try dsimp only at hSw); go_simp)
            simp only [Act.put, List.setIfInBounds_toArray, List.set_cons_zero, List.set_cons_succ]
            refine wpAnyH_take (i := 9) (oi := { dst := some 68, op := Op.extract (Operand.tmp 59) 0, type := 44, pos := "ref.go:82", after := #[{ on := 8, ground := Ground.data }], guard := none }) (v := (Value.agg #[.bool nq, .slice aq lq cq])) rfl (by kernel_rfl) (by kernel_rfl) (by kernel_rfl) (fun _ _ _ h => h) (Or.inl ⟨by rfl, ?_⟩) (by assumption) ?_
            · (intro w hSw; (try dsimp only at hSw); go_simp)
            simp only [Act.put, List.setIfInBounds_toArray, List.set_cons_zero, List.set_cons_succ]
            refine wpAnyH_take (i := 10) (oi := { dst := some 69, op := Op.extract (Operand.tmp 59) 1, type := 44, pos := "ref.go:82", after := #[{ on := 8, ground := Ground.data }, { on := 13, ground := Ground.gcOnly Departure.lateStores }], guard := none }) (v := (Value.agg #[.bool nr, .slice ar lr cr])) rfl (by kernel_rfl) (by kernel_rfl) (by kernel_rfl) (fun _ _ _ h => h) (Or.inl ⟨by rfl, ?_⟩) (by assumption) ?_
            · (intro w hSw; (try dsimp only at hSw); go_simp)
            simp only [Act.put, List.setIfInBounds_toArray, List.set_cons_zero, List.set_cons_succ]
            refine wpAnyH_ready (rs := [13]) (by kernel_rfl) (by simp) ?_
            refine AllReadyH.cons rfl (fun K hK => ?_) AllReadyH.nil
            clear hHeld
            have f0 := bq.c0; have f1 := bq.c1; have f2 := bq.free 0; have f3 := bq.free 1
            go_wp2_with fail
            refine hK.out _ _ ?_ (fun hHeld => ?_)
            · exact unhide HK _ (below_put2 hB kq _ _)
            clear hK K f0 f1 f2 f3
            have br' := br.oth6 (fun e => hne e.symm) (.bool nq) (.slice aq lq cq)
            refine wpAnyH_ready (rs := [14]) (by kernel_rfl) (by simp) ?_
            refine AllReadyH.cons rfl (fun K hK => ?_) AllReadyH.nil
            clear hHeld
            have f0 := br'.c0; have f1 := br'.c1; have f2 := br'.free 0; have f3 := br'.free 1
            go_wp2_with fail
            refine hK.out _ _ ?_ (fun hHeld => ?_)
            · exact unhide HK _ (below_put2 (below_put2 hB kq _ _) kr _ _)
            clear hK K f0 f1 f2 f3
            refine wpAnyH_done (by kernel_rfl) ?_ _
            go_wp2_with fail
            go_meet
            case rel => exact ⟨gq, gr, nq, aq, lq, cq, nr, ar, lr, cr, rfl, rfl, hide ⟨DSt.made bq br hne kq kr IQ hB _ _, hlr⟩⟩
        · clear hHeld
          go_simp
          refine hK.out _ _ ?_ (fun hHeld => ?_)
          · exact unhide HK _ (hB.alloc hB.size _)
          clear hK K
          have hb : Below w7.heap.size w7 (w7.alloc (.cells #[.bool false, .slice none 0 0] 44)) := (Below.refl _ _).alloc (Nat.le_refl _) _
          have bq := Box2.new w7 (.bool false) (.slice none 0 0)
          have kq : W0.heap.size ≤ w7.heap.size := hB.size
          have hne : w7.heap.size ≠ gr := (Nat.ne_of_lt br.lt).symm
          have I3 := I3.below hb
          have br := br.all hb
          have hB := hB.trans (hb.mono hB.size)
          clear hb
          generalize w7.alloc (.cells #[.bool false, .slice none 0 0] 44) = w8 at *
          generalize w7.heap.size = gq at *
          refine wpAnyH_ready (rs := [3]) (by kernel_rfl) (by simp) ?_
          refine AllReadyH.cons rfl (fun K hK => ?_) AllReadyH.nil
          clear hHeld
          go_simp
          refine (unhide KSH _ _ I3).mono ?_
          rintro e w9 ⟨v, rfl, ⟨n4, a4, c4, L4, rfl, i4⟩, hb⟩
          have I4 : IsNum 0 w9 (.agg #[.bool n4, .slice a4 L4.length c4]) (A : Nat) := ⟨n4, a4, c4, L4, rfl, i4⟩
          have hB := hB.trans (hb.mono hB.size)
          have bq := bq.all hb
          have br := br.all hb
          clear i4 hb I3
          generalize L4.length = l4 at *
          go_wp2_with fail
          refine hK.out _ _ ?_ (fun hHeld => ?_)
          · exact unhide HK _ hB
          clear hK K
          refine wpAnyH_ready (rs := [6]) (by kernel_rfl) (by simp) ?_
          refine AllReadyH.cons rfl (fun K hK => ?_) AllReadyH.nil
          clear hHeld
          go_simp
          refine (unhide KP2 _ _ ((unhide HY).below hB)).mono ?_
          rintro e w10 ⟨v, rfl, ⟨n5, a5, c5, L5, rfl, i5⟩, hb⟩
          have I5 : IsNum 0 w10 (.agg #[.bool n5, .slice a5 L5.length c5]) (m2 : Nat) := ⟨n5, a5, c5, L5, rfl, i5⟩
          have hB := hB.trans (hb.mono hB.size)
          have I4 := I4.below hb
          have bq := bq.all hb
          have br := br.all hb
          clear i5 hb
          generalize L5.length = l5 at *
          go_wp2_with fail
          refine hK.out _ _ ?_ (fun hHeld => ?_)
          · exact unhide HK _ hB
          clear hK K
          refine wpAnyH_ready (rs := [7]) (by kernel_rfl) (by simp) ?_
          refine AllReadyH.cons rfl (fun K hK => ?_) AllReadyH.nil
          clear hHeld
          go_simp
          refine (unhide KQ _ _ _ I4 I5).mono ?_
          rintro e w11 ⟨v, u, rfl, hv, hu, hb⟩
          obtain ⟨nq, aq, cq, LQ, rfl, iq⟩ := hv
          obtain ⟨nr, ar, cr, LR, rfl, ir⟩ := hu
          have IQ : IsNum 0 w11 (.agg #[.bool nq, .slice aq LQ.length cq]) (Q : Nat) := ⟨nq, aq, cq, LQ, rfl, iq⟩
          have hlr := num_len (show IsNum 0 w11 (.agg #[.bool nr, .slice ar LR.length cr]) (R : Nat) from ⟨nr, ar, cr, LR, rfl, ir⟩)
          have hB := hB.trans (hb.mono hB.size)
          have bq := bq.all hb
          have br := br.all hb
          clear iq ir hb I4 I5
          generalize LQ.length = lq at *
          generalize LR.length = lr at *
          go_wp2_with fail
          refine hK.out _ _ ?_ (fun hHeld => ?_)
          · exact unhide HK _ hB
          clear hK K
          refine wpAnyH_take (i := 8) (oi := { dst := some 59, op := Op.move (Operand.tmp 67), type := 49, pos := "ref.go:82", after := #[{ on := 7, ground := Ground.data }], guard := none }) (v := (Value.tuple #[.agg #[.bool nq, .slice aq lq cq], .agg #[.bool nr, .slice ar lr cr]])) rfl (by kernel_rfl) (by kernel_rfl) (by kernel_rfl) (fun _ _ _ h => h) (Or.inl ⟨by rfl, ?_⟩) (by assumption) ?_
          · (intro w hSw; (try dsimp only at hSw); go_simp)
          simp only [Act.put, List.setIfInBounds_toArray, List.set_cons_zero, List.set_cons_succ]
          refine wpAnyH_take (i := 9) (oi := { dst := some 68, op := Op.extract (Operand.tmp 59) 0, type := 44, pos := "ref.go:82", after := #[{ on := 8, ground := Ground.data }], guard := none }) (v := (Value.agg #[.bool nq, .slice aq lq cq])) rfl (by kernel_rfl) (by kernel_rfl) (by kernel_rfl) (fun _ _ _ h => h) (Or.inl ⟨by rfl, ?_⟩) (by assumption) ?_
          · (intro w hSw; (try dsimp only at hSw); go_simp)
          simp only [Act.put, List.setIfInBounds_toArray, List.set_cons_zero, List.set_cons_succ]
          refine wpAnyH_take (i := 10) (oi := { dst := some 69, op := Op.extract (Operand.tmp 59) 1, type := 44, pos := "ref.go:82", after := #[{ on := 8, ground := Ground.data }, { on := 13, ground := Ground.gcOnly Departure.lateStores }], guard := none }) (v := (Value.agg #[.bool nr, .slice ar lr cr])) rfl (by kernel_rfl) (by kernel_rfl) (by kernel_rfl) (fun _ _ _ h => h) (Or.inl ⟨by rfl, ?_⟩) (by assumption) ?_
          · (intro w hSw; (try dsimp only at hSw); go_simp)
          simp only [Act.put, List.setIfInBounds_toArray, List.set_cons_zero, List.set_cons_succ]
          refine wpAnyH_ready (rs := [13]) (by kernel_rfl) (by simp) ?_
          refine AllReadyH.cons rfl (fun K hK => ?_) AllReadyH.nil
          clear hHeld
          have f0 := bq.c0; have f1 := bq.c1; have f2 := bq.free 0; have f3 := bq.free 1
          go_wp2_with fail
          refine hK.out _ _ ?_ (fun hHeld => ?_)
          · exact unhide HK _ (below_put2 hB kq _ _)
          clear hK K f0 f1 f2 f3
          have br' := br.oth6 (fun e => hne e.symm) (.bool nq) (.slice aq lq cq)
          refine wpAnyH_ready (rs := [14]) (by kernel_rfl) (by simp) ?_
          refine AllReadyH.cons rfl (fun K hK => ?_) AllReadyH.nil
          clear hHeld
          have f0 := br'.c0; have f1 := br'.c1; have f2 := br'.free 0; have f3 := br'.free 1
          go_wp2_with fail
          refine hK.out _ _ ?_ (fun hHeld => ?_)
          · exact unhide HK _ (below_put2 (below_put2 hB kq _ _) kr _ _)
          clear hK K f0 f1 f2 f3
          refine wpAnyH_done (by kernel_rfl) ?_ _
          go_wp2_with fail
          go_meet
          case rel => exact ⟨gq, gr, nq, aq, lq, cq, nr, ar, lr, cr, rfl, rfl, hide ⟨DSt.made bq br hne kq kr IQ hB _ _, hlr⟩⟩
    · clear hHeld
      go_simp
      refine hK.out _ _ ?_ (fun hHeld => ?_)
      · exact unhide HK _ (hB.alloc hB.size _)
      clear hK K
      have hb : Below w5.heap.size w5 (w5.alloc (.cells #[.bool false, .slice none 0 0] 44)) := (Below.refl _ _).alloc (Nat.le_refl _) _
      have bq := Box2.new w5 (.bool false) (.slice none 0 0)
      have kq : W0.heap.size ≤ w5.heap.size := hB.size
      have hB := hB.trans (hb.mono hB.size)
      clear hb
      generalize w5.alloc (.cells #[.bool false, .slice none 0 0] 44) = w6 at *
      generalize w5.heap.size = gq at *
      refine wpAnyH_ready (rs := [2, 12]) (by kernel_rfl) (by simp) ?_
      refine AllReadyH.cons rfl (fun K hK => ?_) (AllReadyH.cons rfl (fun K hK => ?_) AllReadyH.nil)
      · clear hHeld
        go_simp
        refine (unhide KP1 _ _ ((unhide HX).below hB)).mono ?_
        rintro e w7 ⟨v, rfl, ⟨n3, a3, c3, L3, rfl, i3⟩, hb⟩
        have I3 : IsNum 0 w7 (.agg #[.bool n3, .slice a3 L3.length c3]) (m1 : Nat) := ⟨n3, a3, c3, L3, rfl, i3⟩
        have hB := hB.trans (hb.mono hB.size)
        have bq := bq.all hb
        clear i3 hb
        generalize L3.length = l3 at *
        go_wp2_with fail
        refine hK.out _ _ ?_ (fun hHeld => ?_)
        · exact unhide HK _ hB
        clear hK K
        refine wpAnyH_ready (rs := [3, 12]) (by kernel_rfl) (by simp) ?_
        refine AllReadyH.cons rfl (fun K hK => ?_) (AllReadyH.cons rfl (fun K hK => ?_) AllReadyH.nil)
        · clear hHeld
          go_simp
          refine (unhide KSH _ _ I3).mono ?_
          rintro e w8 ⟨v, rfl, ⟨n4, a4, c4, L4, rfl, i4⟩, hb⟩
          have I4 : IsNum 0 w8 (.agg #[.bool n4, .slice a4 L4.length c4]) (A : Nat) := ⟨n4, a4, c4, L4, rfl, i4⟩
          have hB := hB.trans (hb.mono hB.size)
          have bq := bq.all hb
          clear i4 hb I3
          generalize L4.length = l4 at *
          go_wp2_with fail
          refine hK.out _ _ ?_ (fun hHeld => ?_)
          · exact unhide HK _ hB
          clear hK K
          refine wpAnyH_ready (rs := [6, 12]) (by kernel_rfl) (by simp) ?_
          refine AllReadyH.cons rfl (fun K hK => ?_) (AllReadyH.cons rfl (fun K hK => ?_) AllReadyH.nil)
          · clear hHeld
            go_simp
            refine (unhide KP2 _ _ ((unhide HY).below hB)).mono ?_
            rintro e w9 ⟨v, rfl, ⟨n5, a5, c5, L5, rfl, i5⟩, hb⟩
            have I5 : IsNum 0 w9 (.agg #[.bool n5, .slice a5 L5.length c5]) (m2 : Nat) := ⟨n5, a5, c5, L5, rfl, i5⟩
            have hB := hB.trans (hb.mono hB.size)
            have I4 := I4.below hb
            have bq := bq.all hb
            clear i5 hb
            generalize L5.length = l5 at *
            go_wp2_with fail
            refine hK.out _ _ ?_ (fun hHeld => ?_)
            · exact unhide HK _ hB
            clear hK K
            refine wpAnyH_ready (rs := [7, 12]) (by kernel_rfl) (by simp) ?_
            refine AllReadyH.cons rfl (fun K hK => ?_) (AllReadyH.cons rfl (fun K hK => ?_) AllReadyH.nil)
            · clear hHeld
              go_simp
              refine (unhide KQ _ _ _ I4 I5).mono ?_
              rintro e w10 ⟨v, u, rfl, hv, hu, hb⟩
              obtain ⟨nq, aq, cq, LQ, rfl, iq⟩ := hv
              obtain ⟨nr, ar, cr, LR, rfl, ir⟩ := hu
              have IQ : IsNum 0 w10 (.agg #[.bool nq, .slice aq LQ.length cq]) (Q : Nat) := ⟨nq, aq, cq, LQ, rfl, iq⟩
              have hlr := num_len (show IsNum 0 w10 (.agg #[.bool nr, .slice ar LR.length cr]) (R : Nat) from ⟨nr, ar, cr, LR, rfl, ir⟩)
              have hB := hB.trans (hb.mono hB.size)
              have bq := bq.all hb
              clear iq ir hb I4 I5
              generalize LQ.length = lq at *
              generalize LR.length = lr at *
              go_wp2_with fail
              refine hK.out _ _ ?_ (fun hHeld => ?_)
              · exact unhide HK _ hB
              clear hK K
              refine wpAnyH_take (i := 8) (oi := { dst := some 59, op := Op.move (Operand.tmp 67), type := 49, pos := "ref.go:82", after := #[{ on := 7, ground := Ground.data }], guard := none }) (v := (Value.tuple #[.agg #[.bool nq, .slice aq lq cq], .agg #[.bool nr, .slice ar lr cr]])) rfl (by kernel_rfl) (by kernel_rfl) (by kernel_rfl) (fun _ _ _ h => h) (Or.inl ⟨by rfl, ?_⟩) (by assumption) ?_
              · (intro w hSw; (try dsimp only at hSw); go_simp)
              simp only [Act.put, List.setIfInBounds_toArray, List.set_cons_zero, List.set_cons_succ]
              refine wpAnyH_take (i := 9) (oi := { dst := some 68, op := Op.extract (Operand.tmp 59) 0, type := 44, pos := "ref.go:82", after := #[{ on := 8, ground := Ground.data }], guard := none }) (v := (Value.agg #[.bool nq, .slice aq lq cq])) rfl (by kernel_rfl) (by kernel_rfl) (by kernel_rfl) (fun _ _ _ h => h) (Or.inl ⟨by rfl, ?_⟩) (by assumption) ?_
              · (intro w hSw; (try dsimp only at hSw); go_simp)
              simp only [Act.put, List.setIfInBounds_toArray, List.set_cons_zero, List.set_cons_succ]
              refine wpAnyH_take (i := 10) (oi := { dst := some 69, op := Op.extract (Operand.tmp 59) 1, type := 44, pos := "ref.go:82", after := #[{ on := 8, ground := Ground.data }, { on := 13, ground := Ground.gcOnly Departure.lateStores }], guard := none }) (v := (Value.agg #[.bool nr, .slice ar lr cr])) rfl (by kernel_rfl) (by kernel_rfl) (by kernel_rfl) (fun _ _ _ h => h) (Or.inl ⟨by rfl, ?_⟩) (by assumption) ?_
              · (intro w hSw; (try dsimp only at hSw); go_simp)
              simp only [Act.put, List.setIfInBounds_toArray, List.set_cons_zero, List.set_cons_succ]
              refine wpAnyH_ready (rs := [12]) (by kernel_rfl) (by simp) ?_
              refine AllReadyH.cons rfl (fun K hK => ?_) AllReadyH.nil
              clear hHeld
              go_simp
              refine hK.out _ _ ?_ (fun hHeld => ?_)
              · exact unhide HK _ (hB.alloc hB.size _)
              clear hK K
              have hb : Below w10.heap.size w10 (w10.alloc (.cells #[.bool false, .slice none 0 0] 44)) := (Below.refl _ _).alloc (Nat.le_refl _) _
              have br := Box2.new w10 (.bool false) (.slice none 0 0)
              have kr : W0.heap.size ≤ w10.heap.size := hB.size
              have hne : gq ≠ w10.heap.size := Nat.ne_of_lt bq.lt
              have IQ := IQ.below hb
              have bq := bq.all hb
              have hB := hB.trans (hb.mono hB.size)
              clear hb
              generalize w10.alloc (.cells #[.bool false, .slice none 0 0] 44) = w11 at *
              generalize w10.heap.size = gr at *
              refine wpAnyH_ready (rs := [13]) (by kernel_rfl) (by simp) ?_
              refine AllReadyH.cons rfl (fun K hK => ?_) AllReadyH.nil
              clear hHeld
              have f0 := bq.c0; have f1 := bq.c1; have f2 := bq.free 0; have f3 := bq.free 1
              go_wp2_with fail
              refine hK.out _ _ ?_ (fun hHeld => ?_)
              · exact unhide HK _ (below_put2 hB kq _ _)
              clear hK K f0 f1 f2 f3
              have br' := br.oth6 (fun e => hne e.symm) (.bool nq) (.slice aq lq cq)
              refine wpAnyH_ready (rs := [14]) (by kernel_rfl) (by simp) ?_
              refine AllReadyH.cons rfl (fun K hK => ?_) AllReadyH.nil
              clear hHeld
              have f0 := br'.c0; have f1 := br'.c1; have f2 := br'.free 0; have f3 := br'.free 1
              go_wp2_with fail
              refine hK.out _ _ ?_ (fun hHeld => ?_)
              · exact unhide HK _ (below_put2 (below_put2 hB kq _ _) kr _ _)
              clear hK K f0 f1 f2 f3
              refine wpAnyH_done (by kernel_rfl) ?_ _
              go_wp2_with fail
              go_meet
              case rel => exact ⟨gq, gr, nq, aq, lq, cq, nr, ar, lr, cr, rfl, rfl, hide ⟨DSt.made bq br hne kq kr IQ hB _ _, hlr⟩⟩
            · clear hHeld
              go_simp
              refine hK.out _ _ ?_ (fun hHeld => ?_)
              · exact unhide HK _ (hB.alloc hB.size _)
              clear hK K
              have hb : Below w9.heap.size w9 (w9.alloc (.cells #[.bool false, .slice none 0 0] 44)) := (Below.refl _ _).alloc (Nat.le_refl _) _
              have br := Box2.new w9 (.bool false) (.slice none 0 0)
              have kr : W0.heap.size ≤ w9.heap.size := hB.size
              have hne : gq ≠ w9.heap.size := Nat.ne_of_lt bq.lt
              have I4 := I4.below hb
              have I5 := I5.below hb
              have bq := bq.all hb
              have hB := hB.trans (hb.mono hB.size)
              clear hb
              generalize w9.alloc (.cells #[.bool false, .slice none 0 0] 44) = w10 at *
              generalize w9.heap.size = gr at *
              refine wpAnyH_ready (rs := [7]) (by kernel_rfl) (by simp) ?_
              refine AllReadyH.cons rfl (fun K hK => ?_) AllReadyH.nil
              clear hHeld
              go_simp
              refine (unhide KQ _ _ _ I4 I5).mono ?_
              rintro e w11 ⟨v, u, rfl, hv, hu, hb⟩
              obtain ⟨nq, aq, cq, LQ, rfl, iq⟩ := hv
              obtain ⟨nr, ar, cr, LR, rfl, ir⟩ := hu
              have IQ : IsNum 0 w11 (.agg #[.bool nq, .slice aq LQ.length cq]) (Q : Nat) := ⟨nq, aq, cq, LQ, rfl, iq⟩
              have hlr := num_len (show IsNum 0 w11 (.agg #[.bool nr, .slice ar LR.length cr]) (R : Nat) from ⟨nr, ar, cr, LR, rfl, ir⟩)
              have hB := hB.trans (hb.mono hB.size)
              have bq := bq.all hb
              have br := br.all hb
              clear iq ir hb I4 I5
              generalize LQ.length = lq at *
              generalize LR.length = lr at *
              go_wp2_with fail
              refine hK.out _ _ ?_ (fun hHeld => ?_)
              · exact unhide HK _ hB
              clear hK K
              refine wpAnyH_take (i := 8) (oi := { dst := some 59, op := Op.move (Operand.tmp 67), type := 49, pos := "ref.go:82", after := #[{ on := 7, ground := Ground.data }], guard := none }) (v := (Value.tuple #[.agg #[.bool nq, .slice aq lq cq], .agg #[.bool nr, .slice ar lr cr]])) rfl (by kernel_rfl) (by kernel_rfl) (by kernel_rfl) (fun _ _ _ h => h) (Or.inl ⟨by rfl, ?_⟩) (by assumption) ?_
              · (intro w hSw; (try dsimp only at hSw); go_simp)
              simp only [Act.put, List.setIfInBounds_toArray, List.set_cons_zero, List.set_cons_succ]
              refine wpAnyH_take (i := 9) (oi := { dst := some 68, op := Op.extract (Operand.tmp 59) 0, type := 44, pos := "ref.go:82", after := #[{ on := 8, ground := Ground.data }], guard := none }) (v := (Value.agg #[.bool nq, .slice aq lq cq])) rfl (by kernel_rfl) (by kernel_rfl) (by kernel_rfl) (fun _ _ _ h => h) (Or.inl ⟨by rfl, ?_⟩) (by assumption) ?_
              · (intro w hSw; (try dsimp only at hSw); go_simp)
              simp only [Act.put, List.setIfInBounds_toArray, List.set_cons_zero, List.set_cons_succ]
              refine wpAnyH_take (i := 10) (oi := { dst := some 69, op := Op.extract (Operand.tmp 59) 1, type := 44, pos := "ref.go:82", after := #[{ on := 8, ground := Ground.data }, { on := 13, ground := Ground.gcOnly Departure.lateStores }], guard := none }) (v := (Value.agg #[.bool nr, .slice ar lr cr])) rfl (by kernel_rfl) (by kernel_rfl) (by kernel_rfl) (fun _ _ _ h => h) (Or.inl ⟨by rfl, ?_⟩) (by assumption) ?_
              · (intro w hSw; (try dsimp only at hSw); go_simp)
              simp only [Act.put, List.setIfInBounds_toArray, List.set_cons_zero, List.set_cons_succ]
              refine wpAnyH_ready (rs := [13]) (by kernel_rfl) (by simp) ?_
              refine AllReadyH.cons rfl (fun K hK => ?_) AllReadyH.nil
              clear hHeld
              have f0 := bq.c0; have f1 := bq.c1; have f2 := bq.free 0; have f3 := bq.free 1
              go_wp2_with fail
              refine hK.out _ _ ?_ (fun hHeld => ?_)
              · exact unhide HK _ (below_put2 hB kq _ _)
              clear hK K f0 f1 f2 f3
              have br' := br.oth6 (fun e => hne e.symm) (.bool nq) (.slice aq lq cq)
              refine wpAnyH_ready (rs := [14]) (by kernel_rfl) (by simp) ?_
              refine AllReadyH.cons rfl (fun K hK => ?_) AllReadyH.nil
              clear hHeld
              have f0 := br'.c0; have f1 := br'.c1; have f2 := br'.free 0; have f3 := br'.free 1
              go_wp2_with fail
              refine hK.out _ _ ?_ (fun hHeld => ?_)
              · exact unhide HK _ (below_put2 (below_put2 hB kq _ _) kr _ _)
              clear hK K f0 f1 f2 f3
              refine wpAnyH_done (by kernel_rfl) ?_ _
              go_wp2_with fail
              go_meet
              case rel => exact ⟨gq, gr, nq, aq, lq, cq, nr, ar, lr, cr, rfl, rfl, hide ⟨DSt.made bq br hne kq kr IQ hB _ _, hlr⟩⟩
          · clear hHeld
            go_simp
            refine hK.out _ _ ?_ (fun hHeld => ?_)
            · exact unhide HK _ (hB.alloc hB.size _)
            clear hK K
            have hb : Below w8.heap.size w8 (w8.alloc (.cells #[.bool false, .slice none 0 0] 44)) := (Below.refl _ _).alloc (Nat.le_refl _) _
            have br := Box2.new w8 (.bool false) (.slice none 0 0)
            have kr : W0.heap.size ≤ w8.heap.size := hB.size
            have hne : gq ≠ w8.heap.size := Nat.ne_of_lt bq.lt
            have I4 := I4.below hb
            have bq := bq.all hb
            have hB := hB.trans (hb.mono hB.size)
            clear hb
            generalize w8.alloc (.cells #[.bool false, .slice none 0 0] 44) = w9 at *
            generalize w8.heap.size = gr at *
            refine wpAnyH_ready (rs := [6]) (by kernel_rfl) (by simp) ?_
            refine AllReadyH.cons rfl (fun K hK => ?_) AllReadyH.nil
            clear hHeld
            go_simp
            refine (unhide KP2 _ _ ((unhide HY).below hB)).mono ?_
            rintro e w10 ⟨v, rfl, ⟨n5, a5, c5, L5, rfl, i5⟩, hb⟩
            have I5 : IsNum 0 w10 (.agg #[.bool n5, .slice a5 L5.length c5]) (m2 : Nat) := ⟨n5, a5, c5, L5, rfl, i5⟩
            have hB := hB.trans (hb.mono hB.size)
            have I4 := I4.below hb
            have bq := bq.all hb
            have br := br.all hb
            clear i5 hb
            generalize L5.length = l5 at *
            go_wp2_with fail
            refine hK.out _ _ ?_ (fun hHeld => ?_)
            · exact unhide HK _ hB
            clear hK K
            refine wpAnyH_ready (rs := [7]) (by kernel_rfl) (by simp) ?_
            refine AllReadyH.cons rfl (fun K hK => ?_) AllReadyH.nil
            clear hHeld
            go_simp
            refine (unhide KQ _ _ _ I4 I5).mono ?_
            rintro e w11 ⟨v, u, rfl, hv, hu, hb⟩
            obtain ⟨nq, aq, cq, LQ, rfl, iq⟩ := hv
            obtain ⟨nr, ar, cr, LR, rfl, ir⟩ := hu
            have IQ : IsNum 0 w11 (.agg #[.bool nq, .slice aq LQ.length cq]) (Q : Nat) := ⟨nq, aq, cq, LQ, rfl, iq⟩
            have hlr := num_len (show IsNum 0 w11 (.agg #[.bool nr, .slice ar LR.length cr]) (R : Nat) from ⟨nr, ar, cr, LR, rfl, ir⟩)
            have hB := hB.trans (hb.mono hB.size)
            have bq := bq.all hb
            have br := br.all hb
            clear iq ir hb I4 I5
            generalize LQ.length = lq at *
            generalize LR.length = lr at *
            go_wp2_with fail
            refine hK.out _ _ ?_ (fun hHeld => ?_)
            · exact unhide HK _ hB
            clear hK K
            refine wpAnyH_take (i := 8) (oi := { dst := some 59, op := Op.move (Operand.tmp 67), type := 49, pos := "ref.go:82", after := #[{ on := 7, ground := Ground.data }], guard := none }) (v := (Value.tuple #[.agg #[.bool nq, .slice aq lq cq], .agg #[.bool nr, .slice ar lr cr]])) rfl (by kernel_rfl) (by kernel_rfl) (by kernel_rfl) (fun _ _ _ h => h) (Or.inl ⟨by rfl, ?_⟩) (by assumption) ?_
            · (intro w hSw; (try dsimp only at hSw); go_simp)
            simp only [Act.put, List.setIfInBounds_toArray, List.set_cons_zero, List.set_cons_succ]
            refine wpAnyH_take (i := 9) (oi := { dst := some 68, op := Op.extract (Operand.tmp 59) 0, type := 44, pos := "ref.go:82", after := #[{ on := 8, ground := Ground.data }], guard := none }) (v := (Value.agg #[.bool nq, .slice aq lq cq])) rfl (by kernel_rfl) (by kernel_rfl) (by kernel_rfl) (fun _ _ _ h => h) (Or.inl ⟨by rfl, ?_⟩) (by assumption) ?_
            · (intro w hSw; (try dsimp only at hSw); go_simp)
            simp only [Act.put, List.setIfInBounds_toArray, List.set_cons_zero, List.set_cons_succ]
            refine wpAnyH_take (i := 10) (oi := { dst := some 69, op := Op.extract (Operand.tmp 59) 1, type := 44, pos := "ref.go:82", after := #[{ on := 8, ground := Ground.data }, { on := 13, ground := Ground.gcOnly Departure.lateStores }], guard := none }) (v := (Value.agg #[.bool nr, .slice ar lr cr])) rfl (by kernel_rfl) (by kernel_rfl) (by kernel_rfl) (fun _ _ _ h => h) (Or.inl ⟨by rfl, ?_⟩) (by assumption) ?_
            · (intro w hSw; (try dsimp only at hSw); go_simp)
            simp only [Act.put, List.setIfInBounds_toArray, List.set_cons_zero, List.set_cons_succ]
            refine wpAnyH_ready (rs := [13]) (by kernel_rfl) (by simp) ?_
            refine AllReadyH.cons rfl (fun K hK => ?_) AllReadyH.nil
            clear hHeld
            have f0 := bq.c0; have f1 := bq.c1; have f2 := bq.free 0; have f3 := bq.free 1
            go_wp2_with fail
            refine hK.out _ _ ?_ (fun hHeld => ?_)
            · exact unhide HK _ (below_put2 hB kq _ _)
            clear hK K f0 f1 f2 f3
            have br' := br.oth6 (fun e => hne e.symm) (.bool nq) (.slice aq lq cq)
            refine wpAnyH_ready (rs := [14]) (by kernel_rfl) (by simp) ?_
            refine AllReadyH.cons rfl (fun K hK => ?_) AllReadyH.nil
            clear hHeld
            have f0 := br'.c0; have f1 := br'.c1; have f2 := br'.free 0; have f3 := br'.free 1
            go_wp2_with fail
            refine hK.out _ _ ?_ (fun hHeld => ?_)
            · exact unhide HK _ (below_put2 (below_put2 hB kq _ _) kr _ _)
            clear hK K f0 f1 f2 f3
            refine wpAnyH_done (by kernel_rfl) ?_ _
            go_wp2_with fail
            go_meet
            case rel => exact ⟨gq, gr, nq, aq, lq, cq, nr, ar, lr, cr, rfl, rfl, hide ⟨DSt.made bq br hne kq kr IQ hB _ _, hlr⟩⟩
        · clear hHeld
          go_simp
          refine hK.out _ _ ?_ (fun hHeld => ?_)
          · exact unhide HK _ (hB.alloc hB.size _)
          clear hK K
          have hb : Below w7.heap.size w7 (w7.alloc (.cells #[.bool false, .slice none 0 0] 44)) := (Below.refl _ _).alloc (Nat.le_refl _) _
          have br := Box2.new w7 (.bool false) (.slice none 0 0)
          have kr : W0.heap.size ≤ w7.heap.size := hB.size
          have hne : gq ≠ w7.heap.size := Nat.ne_of_lt bq.lt
          have I3 := I3.below hb
          have bq := bq.all hb
          have hB := hB.trans (hb.mono hB.size)
          clear hb
          generalize w7.alloc (.cells #[.bool false, .slice none 0 0] 44) = w8 at *
          generalize w7.heap.size = gr at *
          refine wpAnyH_ready (rs := [3]) (by kernel_rfl) (by simp) ?_
          refine AllReadyH.cons rfl (fun K hK => ?_) AllReadyH.nil
          clear hHeld
          go_simp
          refine (unhide KSH _ _ I3).mono ?_
          rintro e w9 ⟨v, rfl, ⟨n4, a4, c4, L4, rfl, i4⟩, hb⟩
          have I4 : IsNum 0 w9 (.agg #[.bool n4, .slice a4 L4.length c4]) (A : Nat) := ⟨n4, a4, c4, L4, rfl, i4⟩
          have hB := hB.trans (hb.mono hB.size)
          have bq := bq.all hb
          have br := br.all hb
          clear i4 hb I3
          generalize L4.length = l4 at *
          go_wp2_with fail
          refine hK.out _ _ ?_ (fun hHeld => ?_)
          · exact unhide HK _ hB
          clear hK K
          refine wpAnyH_ready (rs := [6]) (by kernel_rfl) (by simp) ?_
          refine AllReadyH.cons rfl (fun K hK => ?_) AllReadyH.nil
          clear hHeld
          go_simp
          refine (unhide KP2 _ _ ((unhide HY).below hB)).mono ?_
          rintro e w10 ⟨v, rfl, ⟨n5, a5, c5, L5, rfl, i5⟩, hb⟩
          have I5 : IsNum 0 w10 (.agg #[.bool n5, .slice a5 L5.length c5]) (m2 : Nat) := ⟨n5, a5, c5, L5, rfl, i5⟩
          have hB := hB.trans (hb.mono hB.size)
          have I4 := I4.below hb
          have bq := bq.all hb
          have br := br.all hb
          clear i5 hb
          generalize L5.length = l5 at *
          go_wp2_with fail
          refine hK.out _ _ ?_ (fun hHeld => ?_)
          · exact unhide HK _ hB
          clear hK K
          refine wpAnyH_ready (rs := [7]) (by kernel_rfl) (by simp) ?_
          refine AllReadyH.cons rfl (fun K hK => ?_) AllReadyH.nil
          clear hHeld
          go_simp
          refine (unhide KQ _ _ _ I4 I5).mono ?_
          rintro e w11 ⟨v, u, rfl, hv, hu, hb⟩
          obtain ⟨nq, aq, cq, LQ, rfl, iq⟩ := hv
          obtain ⟨nr, ar, cr, LR, rfl, ir⟩ := hu
          have IQ : IsNum 0 w11 (.agg #[.bool nq, .slice aq LQ.length cq]) (Q : Nat) := ⟨nq, aq, cq, LQ, rfl, iq⟩
          have hlr := num_len (show IsNum 0 w11 (.agg #[.bool nr, .slice ar LR.length cr]) (R : Nat) from ⟨nr, ar, cr, LR, rfl, ir⟩)
          have hB := hB.trans (hb.mono hB.size)
          have bq := bq.all hb
          have br := br.all hb
          clear iq ir hb I4 I5
          generalize LQ.length = lq at *
          generalize LR.length = lr at *
          go_wp2_with fail
          refine hK.out _ _ ?_ (fun hHeld => ?_)
          · exact unhide HK _ hB
          clear hK K
          refine wpAnyH_take (i := 8) (oi := { dst := some 59, op := Op.move (Operand.tmp 67), type := 49, pos := "ref.go:82", after := #[{ on := 7, ground := Ground.data }], guard := none }) (v := (Value.tuple #[.agg #[.bool nq, .slice aq lq cq], .agg #[.bool nr, .slice ar lr cr]])) rfl (by kernel_rfl) (by kernel_rfl) (by kernel_rfl) (fun _ _ _ h => h) (Or.inl ⟨by rfl, ?_⟩) (by assumption) ?_
          · (intro w hSw; (try dsimp only at hSw); go_simp)
          simp only [Act.put, List.setIfInBounds_toArray, List.set_cons_zero, List.set_cons_succ]
          refine wpAnyH_take (i := 9) (oi := { dst := some 68, op := Op.extract (Operand.tmp 59) 0, type := 44, pos := "ref.go:82", after := #[{ on := 8, ground := Ground.data }], guard := none }) (v := (Value.agg #[.bool nq, .slice aq lq cq])) rfl (by kernel_rfl) (by kernel_rfl) (by kernel_rfl) (fun _ _ _ h => h) (Or.inl ⟨by rfl, ?_⟩) (by assumption) ?_
          · (intro w hSw; (try dsimp only at hSw); go_simp)
          simp only [Act.put, List.setIfInBounds_toArray, List.set_cons_zero, List.set_cons_succ]
          refine wpAnyH_take (i := 10) (oi := { dst := some 69, op := Op.extract (Operand.tmp 59) 1, type := 44, pos := "ref.go:82", after := #[{ on := 8, ground := Ground.data }, { on := 13, ground := Ground.gcOnly Departure.lateStores }], guard := none }) (v := (Value.agg #[.bool nr, .slice ar lr cr])) rfl (by kernel_rfl) (by kernel_rfl) (by kernel_rfl) (fun _ _ _ h => h) (Or.inl ⟨by rfl, ?_⟩) (by assumption) ?_
          · (intro w hSw; (try dsimp only at hSw); go_simp)
          simp only [Act.put, List.setIfInBounds_toArray, List.set_cons_zero, List.set_cons_succ]
          refine wpAnyH_ready (rs := [13]) (by kernel_rfl) (by simp) ?_
          refine AllReadyH.cons rfl (fun K hK => ?_) AllReadyH.nil
          clear hHeld
          have f0 := bq.c0; have f1 := bq.c1; have f2 := bq.free 0; have f3 := bq.free 1
          go_wp2_with fail
          refine hK.out _ _ ?_ (fun hHeld => ?_)
          · exact unhide HK _ (below_put2 hB kq _ _)
          clear hK K f0 f1 f2 f3
          have br' := br.oth6 (fun e => hne e.symm) (.bool nq) (.slice aq lq cq)
          refine wpAnyH_ready (rs := [14]) (by kernel_rfl) (by simp) ?_
          refine AllReadyH.cons rfl (fun K hK => ?_) AllReadyH.nil
          clear hHeld
          have f0 := br'.c0; have f1 := br'.c1; have f2 := br'.free 0; have f3 := br'.free 1
          go_wp2_with fail
          refine hK.out _ _ ?_ (fun hHeld => ?_)
          · exact unhide HK _ (below_put2 (below_put2 hB kq _ _) kr _ _)
          clear hK K f0 f1 f2 f3
          refine wpAnyH_done (by kernel_rfl) ?_ _
          go_wp2_with fail
          go_meet
          case rel => exact ⟨gq, gr, nq, aq, lq, cq, nr, ar, lr, cr, rfl, rfl, hide ⟨DSt.made bq br hne kq kr IQ hB _ _, hlr⟩⟩
      · clear hHeld
        go_simp
        refine hK.out _ _ ?_ (fun hHeld => ?_)
        · exact unhide HK _ (hB.alloc hB.size _)
        clear hK K
        have hb : Below w6.heap.size w6 (w6.alloc (.cells #[.bool false, .slice none 0 0] 44)) := (Below.refl _ _).alloc (Nat.le_refl _) _
        have br := Box2.new w6 (.bool false) (.slice none 0 0)
        have kr : W0.heap.size ≤ w6.heap.size := hB.size
        have hne : gq ≠ w6.heap.size := Nat.ne_of_lt bq.lt
        have bq := bq.all hb
        have hB := hB.trans (hb.mono hB.size)
        clear hb
        generalize w6.alloc (.cells #[.bool false, .slice none 0 0] 44) = w7 at *
        generalize w6.heap.size = gr at *
        refine wpAnyH_ready (rs := [2]) (by kernel_rfl) (by simp) ?_
        refine AllReadyH.cons rfl (fun K hK => ?_) AllReadyH.nil
        clear hHeld
        go_simp
        refine (unhide KP1 _ _ ((unhide HX).below hB)).mono ?_
        rintro e w8 ⟨v, rfl, ⟨n3, a3, c3, L3, rfl, i3⟩, hb⟩
        have I3 : IsNum 0 w8 (.agg #[.bool n3, .slice a3 L3.length c3]) (m1 : Nat) := ⟨n3, a3, c3, L3, rfl, i3⟩
        have hB := hB.trans (hb.mono hB.size)
        have bq := bq.all hb
        have br := br.all hb
        clear i3 hb
        generalize L3.length = l3 at *
        go_wp2_with fail
        refine hK.out _ _ ?_ (fun hHeld => ?_)
        · exact unhide HK _ hB
        clear hK K
        refine wpAnyH_ready (rs := [3]) (by kernel_rfl) (by simp) ?_
        refine AllReadyH.cons rfl (fun K hK => ?_) AllReadyH.nil
        clear hHeld
        go_simp
        refine (unhide KSH _ _ I3).mono ?_
        rintro e w9 ⟨v, rfl, ⟨n4, a4, c4, L4, rfl, i4⟩, hb⟩
        have I4 : IsNum 0 w9 (.agg #[.bool n4, .slice a4 L4.length c4]) (A : Nat) := ⟨n4, a4, c4, L4, rfl, i4⟩
        have hB := hB.trans (hb.mono hB.size)
        have bq := bq.all hb
        have br := br.all hb
        clear i4 hb I3
        generalize L4.length = l4 at *
        go_wp2_with fail
        refine hK.out _ _ ?_ (fun hHeld => ?_)
        · exact unhide HK _ hB
        clear hK K
        refine wpAnyH_ready (rs := [6]) (by kernel_rfl) (by simp) ?_
        refine AllReadyH.cons rfl (fun K hK => ?_) AllReadyH.nil
        clear hHeld
        go_simp
        refine (unhide KP2 _ _ ((unhide HY).below hB)).mono ?_
        rintro e w10 ⟨v, rfl, ⟨n5, a5, c5, L5, rfl, i5⟩, hb⟩
        have I5 : IsNum 0 w10 (.agg #[.bool n5, .slice a5 L5.length c5]) (m2 : Nat) := ⟨n5, a5, c5, L5, rfl, i5⟩
        have hB := hB.trans (hb.mono hB.size)
        have I4 := I4.below hb
        have bq := bq.all hb
        have br := br.all hb
        clear i5 hb
        generalize L5.length = l5 at *
        go_wp2_with fail
        refine hK.out _ _ ?_ (fun hHeld => ?_)
        · exact unhide HK _ hB
        clear hK K
        refine wpAnyH_ready (rs := [7]) (by kernel_rfl) (by simp) ?_
        refine AllReadyH.cons rfl (fun K hK => ?_) AllReadyH.nil
        clear hHeld
        go_simp
        refine (unhide KQ _ _ _ I4 I5).mono ?_
        rintro e w11 ⟨v, u, rfl, hv, hu, hb⟩
        obtain ⟨nq, aq, cq, LQ, rfl, iq⟩ := hv
        obtain ⟨nr, ar, cr, LR, rfl, ir⟩ := hu
        have IQ : IsNum 0 w11 (.agg #[.bool nq, .slice aq LQ.length cq]) (Q : Nat) := ⟨nq, aq, cq, LQ, rfl, iq⟩
        have hlr := num_len (show IsNum 0 w11 (.agg #[.bool nr, .slice ar LR.length cr]) (R : Nat) from ⟨nr, ar, cr, LR, rfl, ir⟩)
        have hB := hB.trans (hb.mono hB.size)
        have bq := bq.all hb
        have br := br.all hb
        clear iq ir hb I4 I5
        generalize LQ.length = lq at *
        generalize LR.length = lr at *
        go_wp2_with fail
        refine hK.out _ _ ?_ (fun hHeld => ?_)
        · exact unhide HK _ hB
        clear hK K
        refine wpAnyH_take (i := 8) (oi := { dst := some 59, op := Op.move (Operand.tmp 67), type := 49, pos := "ref.go:82", after := #[{ on := 7, ground := Ground.data }], guard := none }) (v := (Value.tuple #[.agg #[.bool nq, .slice aq lq cq], .agg #[.bool nr, .slice ar lr cr]])) rfl (by kernel_rfl) (by kernel_rfl) (by kernel_rfl) (fun _ _ _ h => h) (Or.inl ⟨by rfl, ?_⟩) (by assumption) ?_
        · (intro w hSw; (try dsimp only at hSw); go_simp)
        simp only [Act.put, List.setIfInBounds_toArray, List.set_cons_zero, List.set_cons_succ]
        refine wpAnyH_take (i := 9) (oi := { dst := some 68, op := Op.extract (Operand.tmp 59) 0, type := 44, pos := "ref.go:82", after := #[{ on := 8, ground := Ground.data }], guard := none }) (v := (Value.agg #[.bool nq, .slice aq lq cq])) rfl (by kernel_rfl) (by kernel_rfl) (by kernel_rfl) (fun _ _ _ h => h) (Or.inl ⟨by rfl, ?_⟩) (by assumption) ?_
        · (intro w hSw; (try dsimp only at hSw); go_simp)
        simp only [Act.put, List.setIfInBounds_toArray, List.set_cons_zero, List.set_cons_succ]
        refine wpAnyH_take (i := 10) (oi := { dst := some 69, op := Op.extract (Operand.tmp 59) 1, type := 44, pos := "ref.go:82", after := #[{ on := 8, ground := Ground.data }, { on := 13, ground := Ground.gcOnly Departure.lateStores }], guard := none }) (v := (Value.agg #[.bool nr, .slice ar lr cr])) rfl (by kernel_rfl) (by kernel_rfl) (by kernel_rfl) (fun _ _ _ h => h) (Or.inl ⟨by rfl, ?_⟩) (by assumption) ?_
        · (intro w hSw; (try dsimp only at hSw); go_simp)
        simp only [Act.put, List.setIfInBounds_toArray, List.set_cons_zero, List.set_cons_succ]
        refine wpAnyH_ready (rs := [13]) (by kernel_rfl) (by simp) ?_
        refine AllReadyH.cons rfl (fun K hK => ?_) AllReadyH.nil
        clear hHeld
        have f0 := bq.c0; have f1 := bq.c1; have f2 := bq.free 0; have f3 := bq.free 1
        go_wp2_with fail
        refine hK.out _ _ ?_ (fun hHeld => ?_)
        · exact unhide HK _ (below_put2 hB kq _ _)
        clear hK K f0 f1 f2 f3
        have br' := br.oth6 (fun e => hne e.symm) (.bool nq) (.slice aq lq cq)
        refine wpAnyH_ready (rs := [14]) (by kernel_rfl) (by simp) ?_
        refine AllReadyH.cons rfl (fun K hK => ?_) AllReadyH.nil
        clear hHeld
        have f0 := br'.c0; have f1 := br'.c1; have f2 := br'.free 0; have f3 := br'.free 1
        go_wp2_with fail
        refine hK.out _ _ ?_ (fun hHeld => ?_)
        · exact unhide HK _ (below_put2 (below_put2 hB kq _ _) kr _ _)
        clear hK K f0 f1 f2 f3
        refine wpAnyH_done (by kernel_rfl) ?_ _
        go_wp2_with fail
        go_meet
        case rel => exact ⟨gq, gr, nq, aq, lq, cq, nr, ar, lr, cr, rfl, rfl, hide ⟨DSt.made bq br hne kq kr IQ hB _ _, hlr⟩⟩
    · clear hHeld
      go_simp
      refine hK.out _ _ ?_ (fun hHeld => ?_)
      · exact unhide HK _ (hB.alloc hB.size _)
      clear hK K
      have hb : Below w5.heap.size w5 (w5.alloc (.cells #[.bool false, .slice none 0 0] 44)) := (Below.refl _ _).alloc (Nat.le_refl _) _
      have br := Box2.new w5 (.bool false) (.slice none 0 0)
      have kr : W0.heap.size ≤ w5.heap.size := hB.size
      have hB := hB.trans (hb.mono hB.size)
      clear hb
      generalize w5.alloc (.cells #[.bool false, .slice none 0 0] 44) = w6 at *
      generalize w5.heap.size = gr at *
      refine wpAnyH_ready (rs := [2, 11]) (by kernel_rfl) (by simp) ?_
      refine AllReadyH.cons rfl (fun K hK => ?_) (AllReadyH.cons rfl (fun K hK => ?_) AllReadyH.nil)
      · clear hHeld
        go_simp
        refine (unhide KP1 _ _ ((unhide HX).below hB)).mono ?_
        rintro e w7 ⟨v, rfl, ⟨n3, a3, c3, L3, rfl, i3⟩, hb⟩
        have I3 : IsNum 0 w7 (.agg #[.bool n3, .slice a3 L3.length c3]) (m1 : Nat) := ⟨n3, a3, c3, L3, rfl, i3⟩
        have hB := hB.trans (hb.mono hB.size)
        have br := br.all hb
        clear i3 hb
        generalize L3.length = l3 at *
        go_wp2_with fail
        refine hK.out _ _ ?_ (fun hHeld => ?_)
        · exact unhide HK _ hB
        clear hK K
        refine wpAnyH_ready (rs := [3, 11]) (by kernel_rfl) (by simp) ?_
        refine AllReadyH.cons rfl (fun K hK => ?_) (AllReadyH.cons rfl (fun K hK => ?_) AllReadyH.nil)
        · clear hHeld
          go_simp
          refine (unhide KSH _ _ I3).mono ?_
          rintro e w8 ⟨v, rfl, ⟨n4, a4, c4, L4, rfl, i4⟩, hb⟩
          have I4 : IsNum 0 w8 (.agg #[.bool n4, .slice a4 L4.length c4]) (A : Nat) := ⟨n4, a4, c4, L4, rfl, i4⟩
          have hB := hB.trans (hb.mono hB.size)
          have br := br.all hb
          clear i4 hb I3
          generalize L4.length = l4 at *
          go_wp2_with fail
          refine hK.out _ _ ?_ (fun hHeld => ?_)
          · exact unhide HK _ hB
          clear hK K
          refine wpAnyH_ready (rs := [6, 11]) (by kernel_rfl) (by simp) ?_
          refine AllReadyH.cons rfl (fun K hK => ?_) (AllReadyH.cons rfl (fun K hK => ?_) AllReadyH.nil)
          · clear hHeld
            go_simp
            refine (unhide KP2 _ _ ((unhide HY).below hB)).mono ?_
            rintro e w9 ⟨v, rfl, ⟨n5, a5, c5, L5, rfl, i5⟩, hb⟩
            have I5 : IsNum 0 w9 (.agg #[.bool n5, .slice a5 L5.length c5]) (m2 : Nat) := ⟨n5, a5, c5, L5, rfl, i5⟩
            have hB := hB.trans (hb.mono hB.size)
            have I4 := I4.below hb
            have br := br.all hb
            clear i5 hb
            generalize L5.length = l5 at *
            go_wp2_with fail
            refine hK.out _ _ ?_ (fun hHeld => ?_)
            · exact unhide HK _ hB
            clear hK K
            refine wpAnyH_ready (rs := [7, 11]) (by kernel_rfl) (by simp) ?_
            refine AllReadyH.cons rfl (fun K hK => ?_) (AllReadyH.cons rfl (fun K hK => ?_) AllReadyH.nil)
            · clear hHeld
              go_simp
              refine (unhide KQ _ _ _ I4 I5).mono ?_
              rintro e w10 ⟨v, u, rfl, hv, hu, hb⟩
              obtain ⟨nq, aq, cq, LQ, rfl, iq⟩ := hv
              obtain ⟨nr, ar, cr, LR, rfl, ir⟩ := hu
              have IQ : IsNum 0 w10 (.agg #[.bool nq, .slice aq LQ.length cq]) (Q : Nat) := ⟨nq, aq, cq, LQ, rfl, iq⟩
              have hlr := num_len (show IsNum 0 w10 (.agg #[.bool nr, .slice ar LR.length cr]) (R : Nat) from ⟨nr, ar, cr, LR, rfl, ir⟩)
              have hB := hB.trans (hb.mono hB.size)
              have br := br.all hb
              clear iq ir hb I4 I5
              generalize LQ.length = lq at *
              generalize LR.length = lr at *
              go_wp2_with fail
              refine hK.out _ _ ?_ (fun hHeld => ?_)
              · exact unhide HK _ hB
              clear hK K
              refine wpAnyH_take (i := 8) (oi := { dst := some 59, op := Op.move (Operand.tmp 67), type := 49, pos := "ref.go:82", after := #[{ on := 7, ground := Ground.data }], guard := none }) (v := (Value.tuple #[.agg #[.bool nq, .slice aq lq cq], .agg #[.bool nr, .slice ar lr cr]])) rfl (by kernel_rfl) (by kernel_rfl) (by kernel_rfl) (fun _ _ _ h => h) (Or.inl ⟨by rfl, ?_⟩) (by assumption) ?_
              · (intro w hSw; (try dsimp only at hSw); go_simp)
              simp only [Act.put, List.setIfInBounds_toArray, List.set_cons_zero, List.set_cons_succ]
              refine wpAnyH_take (i := 9) (oi := { dst := some 68, op := Op.extract (Operand.tmp 59) 0, type := 44, pos := "ref.go:82", after := #[{ on := 8, ground := Ground.data }], guard := none }) (v := (Value.agg #[.bool nq, .slice aq lq cq])) rfl (by kernel_rfl) (by kernel_rfl) (by kernel_rfl) (fun _ _ _ h => h) (Or.inl ⟨by rfl, ?_⟩) (by assumption) ?_
              · (intro w hSw; (try dsimp only at hSw); go_simp)
              simp only [Act.put, List.setIfInBounds_toArray, List.set_cons_zero, List.set_cons_succ]
              refine wpAnyH_take (i := 10) (oi := { dst := some 69, op := Op.extract (Operand.tmp 59) 1, type := 44, pos := "ref.go:82", after := #[{ on := 8, ground := Ground.data }, { on := 13, ground := Ground.gcOnly Departure.lateStores }], guard := none }) (v := (Value.agg #[.bool nr, .slice ar lr cr])) rfl (by kernel_rfl) (by kernel_rfl) (by kernel_rfl) (fun _ _ _ h => h) (Or.inl ⟨by rfl, ?_⟩) (by assumption) ?_
              · (intro w hSw; (try dsimp only at hSw); go_simp)
              simp only [Act.put, List.setIfInBounds_toArray, List.set_cons_zero, List.set_cons_succ]
              refine wpAnyH_ready (rs := [11]) (by kernel_rfl) (by simp) ?_
              refine AllReadyH.cons rfl (fun K hK => ?_) AllReadyH.nil
              clear hHeld
              go_simp
              refine hK.out _ _ ?_ (fun hHeld => ?_)
              · exact unhide HK _ (hB.alloc hB.size _)
              clear hK K
              have hb : Below w10.heap.size w10 (w10.alloc (.cells #[.bool false, .slice none 0 0] 44)) := (Below.refl _ _).alloc (Nat.le_refl _) _
              have bq := Box2.new w10 (.bool false) (.slice none 0 0)
              have kq : W0.heap.size ≤ w10.heap.size := hB.size
              have hne : w10.heap.size ≠ gr := (Nat.ne_of_lt br.lt).symm
              have IQ := IQ.below hb
              have br := br.all hb
              have hB := hB.trans (hb.mono hB.size)
              clear hb
              generalize w10.alloc (.cells #[.bool false, .slice none 0 0] 44) = w11 at *
              generalize w10.heap.size = gq at *
              refine wpAnyH_ready (rs := [13]) (by kernel_rfl) (by simp) ?_
              refine AllReadyH.cons rfl (fun K hK => ?_) AllReadyH.nil
              clear hHeld
              have f0 := bq.c0; have f1 := bq.c1; have f2 := bq.free 0; have f3 := bq.free 1
              go_wp2_with fail
              refine hK.out _ _ ?_ (fun hHeld => ?_)
              · exact unhide HK _ (below_put2 hB kq _ _)
              clear hK K f0 f1 f2 f3
              have br' := br.oth6 (fun e => hne e.symm) (.bool nq) (.slice aq lq cq)
              refine wpAnyH_ready (rs := [14]) (by kernel_rfl) (by simp) ?_
              refine AllReadyH.cons rfl (fun K hK => ?_) AllReadyH.nil
              clear hHeld
              have f0 := br'.c0; have f1 := br'.c1; have f2 := br'.free 0; have f3 := br'.free 1
              go_wp2_with fail
              refine hK.out _ _ ?_ (fun hHeld => ?_)
              · exact unhide HK _ (below_put2 (below_put2 hB kq _ _) kr _ _)
              clear hK K f0 f1 f2 f3
              refine wpAnyH_done (by kernel_rfl) ?_ _
              go_wp2_with fail
              go_meet
              case rel => exact ⟨gq, gr, nq, aq, lq, cq, nr, ar, lr, cr, rfl, rfl, hide ⟨DSt.made bq br hne kq kr IQ hB _ _, hlr⟩⟩
            · clear hHeld
              go_simp
              refine hK.out _ _ ?_ (fun hHeld => ?_)
              · exact unhide HK _ (hB.alloc hB.size _)
              clear hK K
              have hb : Below w9.heap.size w9 (w9.alloc (.cells #[.bool false, .slice none 0 0] 44)) := (Below.refl _ _).alloc (Nat.le_refl _) _
              have bq := Box2.new w9 (.bool false) (.slice none 0 0)
              have kq : W0.heap.size ≤ w9.heap.size := hB.size
              have hne : w9.heap.size ≠ gr := (Nat.ne_of_lt br.lt).symm
              have I4 := I4.below hb
              have I5 := I5.below hb
              have br := br.all hb
              have hB := hB.trans (hb.mono hB.size)
              clear hb
              generalize w9.alloc (.cells #[.bool false, .slice none 0 0] 44) = w10 at *
              generalize w9.heap.size = gq at *
              refine wpAnyH_ready (rs := [7]) (by kernel_rfl) (by simp) ?_
              refine AllReadyH.cons rfl (fun K hK => ?_) AllReadyH.nil
              clear hHeld
              go_simp
              refine (unhide KQ _ _ _ I4 I5).mono ?_
              rintro e w11 ⟨v, u, rfl, hv, hu, hb⟩
              obtain ⟨nq, aq, cq, LQ, rfl, iq⟩ := hv
              obtain ⟨nr, ar, cr, LR, rfl, ir⟩ := hu
              have IQ : IsNum 0 w11 (.agg #[.bool nq, .slice aq LQ.length cq]) (Q : Nat) := ⟨nq, aq, cq, LQ, rfl, iq⟩
              have hlr := num_len (show IsNum 0 w11 (.agg #[.bool nr, .slice ar LR.length cr]) (R : Nat) from ⟨nr, ar, cr, LR, rfl, ir⟩)
              have hB := hB.trans (hb.mono hB.size)
              have bq := bq.all hb
              have br := br.all hb
              clear iq ir hb I4 I5
              generalize LQ.length = lq at *
              generalize LR.length = lr at *
              go_wp2_with fail
              refine hK.out _ _ ?_ (fun hHeld => ?_)
              · exact unhide HK _ hB
              clear hK K
              refine wpAnyH_take (i := 8) (oi := { dst := some 59, op := Op.move (Operand.tmp 67), type := 49, pos := "ref.go:82", after := #[{ on := 7, ground := Ground.data }], guard := none }) (v := (Value.tuple #[.agg #[.bool nq, .slice aq lq cq], .agg #[.bool nr, .slice ar lr cr]])) rfl (by kernel_rfl) (by kernel_rfl) (by kernel_rfl) (fun _ _ _ h => h) (Or.inl ⟨by rfl, ?_⟩) (by assumption) ?_
              · (intro w hSw; (try dsimp only at hSw); go_simp)
              simp only [Act.put, List.setIfInBounds_toArray, List.set_cons_zero, List.set_cons_succ]
              refine wpAnyH_take (i := 9) (oi := { dst := some 68, op := Op.extract (Operand.tmp 59) 0, type := 44, pos := "ref.go:82", after := #[{ on := 8, ground := Ground.data }], guard := none }) (v := (Value.agg #[.bool nq, .slice aq lq cq])) rfl (by kernel_rfl) (by kernel_rfl) (by kernel_rfl) (fun _ _ _ h => h) (Or.inl ⟨by rfl, ?_⟩) (by assumption) ?_
              · (intro w hSw; (try dsimp only at hSw); go_simp)
              simp only [Act.put, List.setIfInBounds_toArray, List.set_cons_zero, List.set_cons_succ]
              refine wpAnyH_take (i := 10) (oi := { dst := some 69, op := Op.extract (Operand.tmp 59) 1, type := 44, pos := "ref.go:82", after := #[{ on := 8, ground := Ground.data }, { on := 13, ground := Ground.gcOnly Departure.lateStores }], guard := none }) (v := (Value.agg #[.bool nr, .slice ar lr cr])) rfl (by kernel_rfl) (by kernel_rfl) (by kernel_rfl) (fun _ _ _ h => h) (Or.inl ⟨by rfl, ?_⟩) (by assumption) ?_
              · (intro w hSw; (try dsimp only at hSw); go_simp)
              simp only [Act.put, List.setIfInBounds_toArray, List.set_cons_zero, List.set_cons_succ]
              refine wpAnyH_ready (rs := [13]) (by kernel_rfl) (by simp) ?_
              refine AllReadyH.cons rfl (fun K hK => ?_) AllReadyH.nil
              clear hHeld
              have f0 := bq.c0; have f1 := bq.c1; have f2 := bq.free 0; have f3 := bq.free 1
              go_wp2_with fail
              refine hK.out _ _ ?_ (fun hHeld => ?_)
              · exact unhide HK _ (below_put2 hB kq _ _)
              clear hK K f0 f1 f2 f3
              have br' := br.oth6 (fun e => hne e.symm) (.bool nq) (.slice aq lq cq)
              refine wpAnyH_ready (rs := [14]) (by kernel_rfl) (by simp) ?_
              refine AllReadyH.cons rfl (fun K hK => ?_) AllReadyH.nil
              clear hHeld
              have f0 := br'.c0; have f1 := br'.c1; have f2 := br'.free 0; have f3 := br'.free 1
              go_wp2_with fail
              refine hK.out _ _ ?_ (fun hHeld => ?_)
              · exact unhide HK _ (below_put2 (below_put2 hB kq _ _) kr _ _)
              clear hK K f0 f1 f2 f3
              refine wpAnyH_done (by kernel_rfl) ?_ _
              go_wp2_with fail
              go_meet
              case rel => exact ⟨gq, gr, nq, aq, lq, cq, nr, ar, lr, cr, rfl, rfl, hide ⟨DSt.made bq br hne kq kr IQ hB _ _, hlr⟩⟩
          · clear hHeld
            go_simp
            refine hK.out _ _ ?_ (fun hHeld => ?_)
            · exact unhide HK _ (hB.alloc hB.size _)
            clear hK K
            have hb : Below w8.heap.size w8 (w8.alloc (.cells #[.bool false, .slice none 0 0] 44)) := (Below.refl _ _).alloc (Nat.le_refl _) _
            have bq := Box2.new w8 (.bool false) (.slice none 0 0)
            have kq : W0.heap.size ≤ w8.heap.size := hB.size
            have hne : w8.heap.size ≠ gr := (Nat.ne_of_lt br.lt).symm
            have I4 := I4.below hb
            have br := br.all hb
            have hB := hB.trans (hb.mono hB.size)
            clear hb
            generalize w8.alloc (.cells #[.bool false, .slice none 0 0] 44) = w9 at *
            generalize w8.heap.size = gq at *
            refine wpAnyH_ready (rs := [6]) (by kernel_rfl) (by simp) ?_
            refine AllReadyH.cons rfl (fun K hK => ?_) AllReadyH.nil
            clear hHeld
            go_simp
            refine (unhide KP2 _ _ ((unhide HY).below hB)).mono ?_
            rintro e w10 ⟨v, rfl, ⟨n5, a5, c5, L5, rfl, i5⟩, hb⟩
            have I5 : IsNum 0 w10 (.agg #[.bool n5, .slice a5 L5.length c5]) (m2 : Nat) := ⟨n5, a5, c5, L5, rfl, i5⟩
            have hB := hB.trans (hb.mono hB.size)
            have I4 := I4.below hb
            have bq := bq.all hb
            have br := br.all hb
            clear i5 hb
            generalize L5.length = l5 at *
            go_wp2_with fail
            refine hK.out _ _ ?_ (fun hHeld => ?_)
            · exact unhide HK _ hB
            clear hK K
            refine wpAnyH_ready (rs := [7]) (by kernel_rfl) (by simp) ?_
            refine AllReadyH.cons rfl (fun K hK => ?_) AllReadyH.nil
            clear hHeld
            go_simp
            refine (unhide KQ _ _ _ I4 I5).mono ?_
            rintro e w11 ⟨v, u, rfl, hv, hu, hb⟩
            obtain ⟨nq, aq, cq, LQ, rfl, iq⟩ := hv
            obtain ⟨nr, ar, cr, LR, rfl, ir⟩ := hu
            have IQ : IsNum 0 w11 (.agg #[.bool nq, .slice aq LQ.length cq]) (Q : Nat) := ⟨nq, aq, cq, LQ, rfl, iq⟩
            have hlr := num_len (show IsNum 0 w11 (.agg #[.bool nr, .slice ar LR.length cr]) (R : Nat) from ⟨nr, ar, cr, LR, rfl, ir⟩)
            have hB := hB.trans (hb.mono hB.size)
            have bq := bq.all hb
            have br := br.all hb
            clear iq ir hb I4 I5
            generalize LQ.length = lq at *
            generalize LR.length = lr at *
            go_wp2_with fail
            refine hK.out _ _ ?_ (fun hHeld => ?_)
            · exact unhide HK _ hB
            clear hK K
            refine wpAnyH_take (i := 8) (oi := { dst := some 59, op := Op.move (Operand.tmp 67), type := 49, pos := "ref.go:82", after := #[{ on := 7, ground := Ground.data }], guard := none }) (v := (Value.tuple #[.agg #[.bool nq, .slice aq lq cq], .agg #[.bool nr, .slice ar lr cr]])) rfl (by kernel_rfl) (by kernel_rfl) (by kernel_rfl) (fun _ _ _ h => h) (Or.inl ⟨by rfl, ?_⟩) (by assumption) ?_
            · (intro w hSw; (try dsimp only at hSw); go_simp)
            simp only [Act.put, List.setIfInBounds_toArray, List.set_cons_zero, List.set_cons_succ]
            refine wpAnyH_take (i := 9) (oi := { dst := some 68, op := Op.extract (Operand.tmp 59) 0, type := 44, pos := "ref.go:82", after := #[{ on := 8, ground := Ground.data }], guard := none }) (v := (Value.agg #[.bool nq, .slice aq lq cq])) rfl (by kernel_rfl) (by kernel_rfl) (by kernel_rfl) (fun _ _ _ h => h) (Or.inl ⟨by rfl, ?_⟩) (by assumption) ?_
            · (intro w hSw; (try dsimp only at hSw); go_simp)
            simp only [Act.put, List.setIfInBounds_toArray, List.set_cons_zero, List.set_cons_succ]
            refine wpAnyH_take (i := 10) (oi := { dst := some 69, op := Op.extract (Operand.tmp 59) 1, type := 44, pos := "ref.go:82", after := #[{ on := 8, ground := Ground.data }, { on := 13, ground := Ground.gcOnly Departure.lateStores }], guard := none }) (v := (Value.agg #[.bool nr, .slice ar lr cr])) rfl (by kernel_rfl) (by kernel_rfl) (by kernel_rfl) (fun _ _ _ h => h) (Or.inl ⟨by rfl, ?_⟩) (by assumption) ?_
            · (intro w hSw; (try dsimp only at hSw); go_simp)
            simp only [Act.put, List.setIfInBounds_toArray, List.set_cons_zero, List.set_cons_succ]
            refine wpAnyH_ready (rs := [13]) (by kernel_rfl) (by simp) ?_
            refine AllReadyH.cons rfl (fun K hK => ?_) AllReadyH.nil
            clear hHeld
            have f0 := bq.c0; have f1 := bq.c1; have f2 := bq.free 0; have f3 := bq.free 1
            go_wp2_with fail
            refine hK.out _ _ ?_ (fun hHeld => ?_)
            · exact unhide HK _ (below_put2 hB kq _ _)
            clear hK K f0 f1 f2 f3
            have br' := br.oth6 (fun e => hne e.symm) (.bool nq) (.slice aq lq cq)
            refine wpAnyH_ready (rs := [14]) (by kernel_rfl) (by simp) ?_
            refine AllReadyH.cons rfl (fun K hK => ?_) AllReadyH.nil
            clear hHeld
            have f0 := br'.c0; have f1 := br'.c1; have f2 := br'.free 0; have f3 := br'.free 1
            go_wp2_with fail
            refine hK.out _ _ ?_ (fun hHeld => ?_)
            · exact unhide HK _ (below_put2 (below_put2 hB kq _ _) kr _ _)
            clear hK K f0 f1 f2 f3
            refine wpAnyH_done (by kernel_rfl) ?_ _
            go_wp2_with fail
            go_meet
            case rel => exact ⟨gq, gr, nq, aq, lq, cq, nr, ar, lr, cr, rfl, rfl, hide ⟨DSt.made bq br hne kq kr IQ hB _ _, hlr⟩⟩
        · clear hHeld
          go_simp
          refine hK.out _ _ ?_ (fun hHeld => ?_)
          · exact unhide HK _ (hB.alloc hB.size _)
          clear hK K
          have hb : Below w7.heap.size w7 (w7.alloc (.cells #[.bool false, .slice none 0 0] 44)) := (Below.refl _ _).alloc (Nat.le_refl _) _
          have bq := Box2.new w7 (.bool false) (.slice none 0 0)
          have kq : W0.heap.size ≤ w7.heap.size := hB.size
          have hne : w7.heap.size ≠ gr := (Nat.ne_of_lt br.lt).symm
          have I3 := I3.below hb
          have br := br.all hb
          have hB := hB.trans (hb.mono hB.size)
          clear hb
          generalize w7.alloc (.cells #[.bool false, .slice none 0 0] 44) = w8 at *
          generalize w7.heap.size = gq at *
          refine wpAnyH_ready (rs := [3]) (by kernel_rfl) (by simp) ?_
          refine AllReadyH.cons rfl (fun K hK => ?_) AllReadyH.nil
          clear hHeld
          go_simp
          refine (unhide KSH _ _ I3).mono ?_
          rintro e w9 ⟨v, rfl, ⟨n4, a4, c4, L4, rfl, i4⟩, hb⟩
          have I4 : IsNum 0 w9 (.agg #[.bool n4, .slice a4 L4.length c4]) (A : Nat) := ⟨n4, a4, c4, L4, rfl, i4⟩
          have hB := hB.trans (hb.mono hB.size)
          have bq := bq.all hb
          have br := br.all hb
          clear i4 hb I3
          generalize L4.length = l4 at *
          go_wp2_with fail
          refine hK.out _ _ ?_ (fun hHeld => ?_)
          · exact unhide HK _ hB
          clear hK K
          refine wpAnyH_ready (rs := [6]) (by kernel_rfl) (by simp) ?_
          refine AllReadyH.cons rfl (fun K hK => ?_) AllReadyH.nil
          clear hHeld
          go_simp
          refine (unhide KP2 _ _ ((unhide HY).below hB)).mono ?_
          rintro e w10 ⟨v, rfl, ⟨n5, a5, c5, L5, rfl, i5⟩, hb⟩
          have I5 : IsNum 0 w10 (.agg #[.bool n5, .slice a5 L5.length c5]) (m2 : Nat) := ⟨n5, a5, c5, L5, rfl, i5⟩
          have hB := hB.trans (hb.mono hB.size)
          have I4 := I4.below hb
          have bq := bq.all hb
          have br := br.all hb
          clear i5 hb
          generalize L5.length = l5 at *
          go_wp2_with fail
          refine hK.out _ _ ?_ (fun hHeld => ?_)
          · exact unhide HK _ hB
          clear hK K
          refine wpAnyH_ready (rs := [7]) (by kernel_rfl) (by simp) ?_
          refine AllReadyH.cons rfl (fun K hK => ?_) AllReadyH.nil
          clear hHeld
          go_simp
          refine (unhide KQ _ _ _ I4 I5).mono ?_
          rintro e w11 ⟨v, u, rfl, hv, hu, hb⟩
          obtain ⟨nq, aq, cq, LQ, rfl, iq⟩ := hv
          obtain ⟨nr, ar, cr, LR, rfl, ir⟩ := hu
          have IQ : IsNum 0 w11 (.agg #[.bool nq, .slice aq LQ.length cq]) (Q : Nat) := ⟨nq, aq, cq, LQ, rfl, iq⟩
          have hlr := num_len (show IsNum 0 w11 (.agg #[.bool nr, .slice ar LR.length cr]) (R : Nat) from ⟨nr, ar, cr, LR, rfl, ir⟩)
          have hB := hB.trans (hb.mono hB.size)
          have bq := bq.all hb
          have br := br.all hb
          clear iq ir hb I4 I5
          generalize LQ.length = lq at *
          generalize LR.length = lr at *
          go_wp2_with fail
          refine hK.out _ _ ?_ (fun hHeld => ?_)
          · exact unhide HK _ hB
          clear hK K
          refine wpAnyH_take (i := 8) (oi := { dst := some 59, op := Op.move (Operand.tmp 67), type := 49, pos := "ref.go:82", after := #[{ on := 7, ground := Ground.data }], guard := none }) (v := (Value.tuple #[.agg #[.bool nq, .slice aq lq cq], .agg #[.bool nr, .slice ar lr cr]])) rfl (by kernel_rfl) (by kernel_rfl) (by kernel_rfl) (fun _ _ _ h => h) (Or.inl ⟨by rfl, ?_⟩) (by assumption) ?_
          · (intro w hSw; (try dsimp only at hSw); go_simp)
          simp only [Act.put, List.setIfInBounds_toArray, List.set_cons_zero, List.set_cons_succ]
          refine wpAnyH_take (i := 9) (oi := { dst := some 68, op := Op.extract (Operand.tmp 59) 0, type := 44, pos := "ref.go:82", after := #[{ on := 8, ground := Ground.data }], guard := none }) (v := (Value.agg #[.bool nq, .slice aq lq cq])) rfl (by kernel_rfl) (by kernel_rfl) (by kernel_rfl) (fun _ _ _ h => h) (Or.inl ⟨by rfl, ?_⟩) (by assumption) ?_
          · (intro w hSw; (try dsimp only at hSw); go_simp)
          simp only [Act.put, List.setIfInBounds_toArray, List.set_cons_zero, List.set_cons_succ]
          refine wpAnyH_take (i := 10) (oi := { dst := some 69, op := Op.extract (Operand.tmp 59) 1, type := 44, pos := "ref.go:82", after := #[{ on := 8, ground := Ground.data }, { on := 13, ground := Ground.gcOnly Departure.lateStores }], guard := none }) (v := (Value.agg #[.bool nr, .slice ar lr cr])) rfl (by kernel_rfl) (by kernel_rfl) (by kernel_rfl) (fun _ _ _ h => h) (Or.inl ⟨by rfl, ?_⟩) (by assumption) ?_
          · (intro w hSw; (try dsimp only at hSw); go_simp)
          simp only [Act.put, List.setIfInBounds_toArray, List.set_cons_zero, List.set_cons_succ]
          refine wpAnyH_ready (rs := [13]) (by kernel_rfl) (by simp) ?_
          refine AllReadyH.cons rfl (fun K hK => ?_) AllReadyH.nil
          clear hHeld
          have f0 := bq.c0; have f1 := bq.c1; have f2 := bq.free 0; have f3 := bq.free 1
          go_wp2_with fail
          refine hK.out _ _ ?_ (fun hHeld => ?_)
          · exact unhide HK _ (below_put2 hB kq _ _)
          clear hK K f0 f1 f2 f3
          have br' := br.oth6 (fun e => hne e.symm) (.bool nq) (.slice aq lq cq)
          refine wpAnyH_ready (rs := [14]) (by kernel_rfl) (by simp) ?_
          refine AllReadyH.cons rfl (fun K hK => ?_) AllReadyH.nil
          clear hHeld
          have f0 := br'.c0; have f1 := br'.c1; have f2 := br'.free 0; have f3 := br'.free 1
          go_wp2_with fail
          refine hK.out _ _ ?_ (fun hHeld => ?_)
          · exact unhide HK _ (below_put2 (below_put2 hB kq _ _) kr _ _)
          clear hK K f0 f1 f2 f3
          refine wpAnyH_done (by kernel_rfl) ?_ _
          go_wp2_with fail
          go_meet
          case rel => exact ⟨gq, gr, nq, aq, lq, cq, nr, ar, lr, cr, rfl, rfl, hide ⟨DSt.made bq br hne kq kr IQ hB _ _, hlr⟩⟩
      · clear hHeld
        go_simp
        refine hK.out _ _ ?_ (fun hHeld => ?_)
        · exact unhide HK _ (hB.alloc hB.size _)
        clear hK K
        have hb : Below w6.heap.size w6 (w6.alloc (.cells #[.bool false, .slice none 0 0] 44)) := (Below.refl _ _).alloc (Nat.le_refl _) _
        have bq := Box2.new w6 (.bool false) (.slice none 0 0)
        have kq : W0.heap.size ≤ w6.heap.size := hB.size
        have hne : w6.heap.size ≠ gr := (Nat.ne_of_lt br.lt).symm
        have br := br.all hb
        have hB := hB.trans (hb.mono hB.size)
        clear hb
        generalize w6.alloc (.cells #[.bool false, .slice none 0 0] 44) = w7 at *
        generalize w6.heap.size = gq at *
        refine wpAnyH_ready (rs := [2]) (by kernel_rfl) (by simp) ?_
        refine AllReadyH.cons rfl (fun K hK => ?_) AllReadyH.nil
        clear hHeld
        go_simp
        refine (unhide KP1 _ _ ((unhide HX).below hB)).mono ?_
        rintro e w8 ⟨v, rfl, ⟨n3, a3, c3, L3, rfl, i3⟩, hb⟩
        have I3 : IsNum 0 w8 (.agg #[.bool n3, .slice a3 L3.length c3]) (m1 : Nat) := ⟨n3, a3, c3, L3, rfl, i3⟩
        have hB := hB.trans (hb.mono hB.size)
        have bq := bq.all hb
        have br := br.all hb
        clear i3 hb
        generalize L3.length = l3 at *
        go_wp2_with fail
        refine hK.out _ _ ?_ (fun hHeld => ?_)
        · exact unhide HK _ hB
        clear hK K
        refine wpAnyH_ready (rs := [3]) (by kernel_rfl) (by simp) ?_
        refine AllReadyH.cons rfl (fun K hK => ?_) AllReadyH.nil
        clear hHeld
        go_simp
        refine (unhide KSH _ _ I3).mono ?_
        rintro e w9 ⟨v, rfl, ⟨n4, a4, c4, L4, rfl, i4⟩, hb⟩
        have I4 : IsNum 0 w9 (.agg #[.bool n4, .slice a4 L4.length c4]) (A : Nat) := ⟨n4, a4, c4, L4, rfl, i4⟩
        have hB := hB.trans (hb.mono hB.size)
        have bq := bq.all hb
        have br := br.all hb
        clear i4 hb I3
        generalize L4.length = l4 at *
        go_wp2_with fail
        refine hK.out _ _ ?_ (fun hHeld => ?_)
        · exact unhide HK _ hB
        clear hK K
        refine wpAnyH_ready (rs := [6]) (by kernel_rfl) (by simp) ?_
        refine AllReadyH.cons rfl (fun K hK => ?_) AllReadyH.nil
        clear hHeld
        go_simp
        refine (unhide KP2 _ _ ((unhide HY).below hB)).mono ?_
        rintro e w10 ⟨v, rfl, ⟨n5, a5, c5, L5, rfl, i5⟩, hb⟩
        have I5 : IsNum 0 w10 (.agg #[.bool n5, .slice a5 L5.length c5]) (m2 : Nat) := ⟨n5, a5, c5, L5, rfl, i5⟩
        have hB := hB.trans (hb.mono hB.size)
        have I4 := I4.below hb
        have bq := bq.all hb
        have br := br.all hb
        clear i5 hb
        generalize L5.length = l5 at *
        go_wp2_with fail
        refine hK.out _ _ ?_ (fun hHeld => ?_)
        · exact unhide HK _ hB
        clear hK K
        refine wpAnyH_ready (rs := [7]) (by kernel_rfl) (by simp) ?_
        refine AllReadyH.cons rfl (fun K hK => ?_) AllReadyH.nil
        clear hHeld
        go_simp
        refine (unhide KQ _ _ _ I4 I5).mono ?_
        rintro e w11 ⟨v, u, rfl, hv, hu, hb⟩
        obtain ⟨nq, aq, cq, LQ, rfl, iq⟩ := hv
        obtain ⟨nr, ar, cr, LR, rfl, ir⟩ := hu
        have IQ : IsNum 0 w11 (.agg #[.bool nq, .slice aq LQ.length cq]) (Q : Nat) := ⟨nq, aq, cq, LQ, rfl, iq⟩
        have hlr := num_len (show IsNum 0 w11 (.agg #[.bool nr, .slice ar LR.length cr]) (R : Nat) from ⟨nr, ar, cr, LR, rfl, ir⟩)
        have hB := hB.trans (hb.mono hB.size)
        have bq := bq.all hb
        have br := br.all hb
        clear iq ir hb I4 I5
        generalize LQ.length = lq at *
        generalize LR.length = lr at *
        go_wp2_with fail
        refine hK.out _ _ ?_ (fun hHeld => ?_)
        · exact unhide HK _ hB
        clear hK K
        refine wpAnyH_take (i := 8) (oi := { dst := some 59, op := Op.move (Operand.tmp 67), type := 49, pos := "ref.go:82", after := #[{ on := 7, ground := Ground.data }], guard := none }) (v := (Value.tuple #[.agg #[.bool nq, .slice aq lq cq], .agg #[.bool nr, .slice ar lr cr]])) rfl (by kernel_rfl) (by kernel_rfl) (by kernel_rfl) (fun _ _ _ h => h) (Or.inl ⟨by rfl, ?_⟩) (by assumption) ?_
        · (intro w hSw; (try dsimp only at hSw); go_simp)
        simp only [Act.put, List.setIfInBounds_toArray, List.set_cons_zero, List.set_cons_succ]
        refine wpAnyH_take (i := 9) (oi := { dst := some 68, op := Op.extract (Operand.tmp 59) 0, type := 44, pos := "ref.go:82", after := #[{ on := 8, ground := Ground.data }], guard := none }) (v := (Value.agg #[.bool nq, .slice aq lq cq])) rfl (by kernel_rfl) (by kernel_rfl) (by kernel_rfl) (fun _ _ _ h => h) (Or.inl ⟨by rfl, ?_⟩) (by assumption) ?_
        · (intro w hSw; (try dsimp only at hSw); go_simp)
        simp only [Act.put, List.setIfInBounds_toArray, List.set_cons_zero, List.set_cons_succ]
        refine wpAnyH_take (i := 10) (oi := { dst := some 69, op := Op.extract (Operand.tmp 59) 1, type := 44, pos := "ref.go:82", after := #[{ on := 8, ground := Ground.data }, { on := 13, ground := Ground.gcOnly Departure.lateStores }], guard := none }) (v := (Value.agg #[.bool nr, .slice ar lr cr])) rfl (by kernel_rfl) (by kernel_rfl) (by kernel_rfl) (fun _ _ _ h => h) (Or.inl ⟨by rfl, ?_⟩) (by assumption) ?_
        · (intro w hSw; (try dsimp only at hSw); go_simp)
        simp only [Act.put, List.setIfInBounds_toArray, List.set_cons_zero, List.set_cons_succ]
        refine wpAnyH_ready (rs := [13]) (by kernel_rfl) (by simp) ?_
        refine AllReadyH.cons rfl (fun K hK => ?_) AllReadyH.nil
        clear hHeld
        have f0 := bq.c0; have f1 := bq.c1; have f2 := bq.free 0; have f3 := bq.free 1
        go_wp2_with fail
        refine hK.out _ _ ?_ (fun hHeld => ?_)
        · exact unhide HK _ (below_put2 hB kq _ _)
        clear hK K f0 f1 f2 f3
        have br' := br.oth6 (fun e => hne e.symm) (.bool nq) (.slice aq lq cq)
        refine wpAnyH_ready (rs := [14]) (by kernel_rfl) (by simp) ?_
        refine AllReadyH.cons rfl (fun K hK => ?_) AllReadyH.nil
        clear hHeld
        have f0 := br'.c0; have f1 := br'.c1; have f2 := br'.free 0; have f3 := br'.free 1
        go_wp2_with fail
        refine hK.out _ _ ?_ (fun hHeld => ?_)
        · exact unhide HK _ (below_put2 (below_put2 hB kq _ _) kr _ _)
        clear hK K f0 f1 f2 f3
        refine wpAnyH_done (by kernel_rfl) ?_ _
        go_wp2_with fail
        go_meet
        case rel => exact ⟨gq, gr, nq, aq, lq, cq, nr, ar, lr, cr, rfl, rfl, hide ⟨DSt.made bq br hne kq kr IQ hB _ _, hlr⟩⟩
  case rest =>
  subst hE
  obtain ⟨gq, gr, nq, aq, lq, cq, nr, ar, lr, cr, rfl, rfl, HD⟩ := hcut
  have D := (unhide HD).1
  have hlr := (unhide HD).2
  clear HD HK HX HY KP1 KP2 KSH KQ
  have q0 := D.2.2.2.1.c0; have q1 := D.2.2.2.1.c1; have f0 := D.2.2.2.1.free 0; have f1 := D.2.2.2.1.free 1; have r0 := D.2.2.2.2.1.c0; have r1 := D.2.2.2.2.1.c1
  go_wp2_with fail
  refine (unhide KD _ _ D.2.2.2.2.2.1).mono ?_
  rintro e w6 ⟨v, rfl, ⟨n6, a6, c6, L6, rfl, i6⟩, hb⟩
  have I6 : IsNum 0 w6 (.agg #[.bool n6, .slice a6 L6.length c6]) (2 * Q : Nat) := ⟨n6, a6, c6, L6, rfl, i6⟩
  have D := D.below hb
  clear i6 hb q0 q1 f0 f1 r0 r1 KD
  generalize L6.length = l6 at *
  have q0 := D.2.2.2.1.c0; have q1 := D.2.2.2.1.c1; have f0 := D.2.2.2.1.free 0; have f1 := D.2.2.2.1.free 1; have r0 := D.2.2.2.2.1.c0; have r1 := D.2.2.2.2.1.c1
  have D := D.putq I6
  have dne := D.1
  have dne' : gr ≠ gq := fun e => dne e.symm
  clear I6
  by_cases hR : R = 0
  · have hl : ¬ ((lr : Int) > 0) := by have := hlr.2 (by rw [hR]; rfl); omega
    rw [← hS0 hR] at D
    have DD := hide D
    clear hlr hS0 hS1 hR KA KO1 D
    go_wp2_with fail
    refine at_world (fun W => DSt W0 W gq gr (.bool n6) (.slice a6 l6 c6) (SS : Nat) (.bool nr) (.slice ar lr cr)) (unhide DD) ?_
    clear DD
    rintro W1 D
    have x1 := (unhide XX).all D.2.2.2.2.2.2
    have x2 := (unhide XY).all D.2.2.2.2.2.2
    have hK : ∀ w', Below W1.heap.size W1 w' → Below W1.heap.size W1 w' ∧ w'.cell? ⟨gq, 1, none⟩ = some (.slice a6 l6 c6) ∧ w'.cell? ⟨gx, 2, none⟩ = some (.int .i64 X1) ∧ w'.cell? ⟨gy, 2, none⟩ = some (.int .i64 X2) := fun w' h => ⟨h, (D.2.2.2.1.all h).c1, (x1.all h).c2, (x2.all h).c2⟩
    have HK := hide hK
    have B3 := hide ((unhide B2).trans (D.2.2.2.2.2.2.mono (unhide B2).size))
    have IS := D.2.2.2.2.2.1
    clear hK x1 x2 D
    have hE1 := wrap_small (X1 - X2) (by omega)
    have hE2 := wrap_small (X1 - X2 - 181) (by omega)
    refine wp_region_held_drew (S := (fun w' => Below W1.heap.size W1 w' ∧ w'.cell? ⟨gq, 1, none⟩ = some (.slice a6 l6 c6) ∧ w'.cell? ⟨gx, 2, none⟩ = some (.int .i64 X1) ∧ w'.cell? ⟨gy, 2, none⟩ = some (.int .i64 X2))) (by kernel_rfl) ?_ (fun hHeld => ?_)
    · exact unhide HK _ (Below.refl _ _).drew
    have hB : Below W1.heap.size W1 W1.drew := (Below.refl _ _).drew
    have IS := IS.below hB
    generalize W1.drew = w9 at *
    refine wpAnyH_take (i := 0) (oi := { dst := some 79, op := Op.move (Operand.tmp 8), type := 4, pos := "ref.go:87", after := #[], guard := none }) (v := (.bool n)) rfl (by kernel_rfl) (by kernel_rfl) (by kernel_rfl) (fun _ _ _ h => h) (Or.inl ⟨by rfl, ?_⟩) (by assumption) ?_
    · (intro w hSw; (try dsimp only at hSw); go_simp)
    simp only [Act.put, List.setIfInBounds_toArray, List.set_cons_zero, List.set_cons_succ]
    refine wpAnyH_take (i := 1) (oi := { dst := some 80, op := Op.fieldAddr 44 (Operand.tmp 11) 1, type := 0, pos := "ref.go:87", after := #[], guard := none }) (v := Value.pointer (some ⟨gq, 1, none⟩)) rfl (by kernel_rfl) (by kernel_rfl) (by kernel_rfl) (fun _ _ _ h => h) (Or.inl ⟨by rfl, ?_⟩) (by assumption) ?_
    · (intro w hSw; (try dsimp only at hSw); go_simp)
    simp only [Act.put, List.setIfInBounds_toArray, List.set_cons_zero, List.set_cons_succ]
    refine wpAnyH_take (i := 2) (oi := { dst := some 81, op := Op.load 42 (Operand.tmp 80), type := 42, pos := "ref.go:87", after := #[{ on := 1, ground := Ground.data }], guard := none }) (v := (.slice a6 l6 c6)) rfl (by kernel_rfl) (by kernel_rfl) (by kernel_rfl) (fun _ _ _ h => h) (Or.inl ⟨by rfl, ?_⟩) (by assumption) ?_
    · (intro w hSw; (try dsimp only at hSw); go_simp)
    simp only [Act.put, List.setIfInBounds_toArray, List.set_cons_zero, List.set_cons_succ]
    refine wpAnyH_take (i := 4) (oi := { dst := some 83, op := Op.fieldAddr 46 (Operand.tmp 9) 1, type := 0, pos := "ref.go:87", after := #[], guard := none }) (v := Value.pointer (some ⟨gx, 2, none⟩)) rfl (by kernel_rfl) (by kernel_rfl) (by kernel_rfl) (fun _ _ _ h => h) (Or.inl ⟨by rfl, ?_⟩) (by assumption) ?_
    · (intro w hSw; (try dsimp only at hSw); go_simp)
    simp only [Act.put, List.setIfInBounds_toArray, List.set_cons_zero, List.set_cons_succ]
    refine wpAnyH_take (i := 5) (oi := { dst := some 84, op := Op.load 3 (Operand.tmp 83), type := 3, pos := "ref.go:87", after := #[{ on := 4, ground := Ground.data }], guard := none }) (v := (.int .i64 X1)) rfl (by kernel_rfl) (by kernel_rfl) (by kernel_rfl) (fun _ _ _ h => h) (Or.inl ⟨by rfl, ?_⟩) (by assumption) ?_
    · (intro w hSw; (try dsimp only at hSw); go_simp)
    simp only [Act.put, List.setIfInBounds_toArray, List.set_cons_zero, List.set_cons_succ]
    refine wpAnyH_take (i := 6) (oi := { dst := some 85, op := Op.fieldAddr 46 (Operand.tmp 10) 1, type := 0, pos := "ref.go:87", after := #[], guard := none }) (v := Value.pointer (some ⟨gy, 2, none⟩)) rfl (by kernel_rfl) (by kernel_rfl) (by kernel_rfl) (fun _ _ _ h => h) (Or.inl ⟨by rfl, ?_⟩) (by assumption) ?_
    · (intro w hSw; (try dsimp only at hSw); go_simp)
    simp only [Act.put, List.setIfInBounds_toArray, List.set_cons_zero, List.set_cons_succ]
    refine wpAnyH_take (i := 7) (oi := { dst := some 86, op := Op.load 3 (Operand.tmp 85), type := 3, pos := "ref.go:87", after := #[{ on := 6, ground := Ground.data }], guard := none }) (v := (.int .i64 X2)) rfl (by kernel_rfl) (by kernel_rfl) (by kernel_rfl) (fun _ _ _ h => h) (Or.inl ⟨by rfl, ?_⟩) (by assumption) ?_
    · (intro w hSw; (try dsimp only at hSw); go_simp)
    simp only [Act.put, List.setIfInBounds_toArray, List.set_cons_zero, List.set_cons_succ]
    refine wpAnyH_take (i := 8) (oi := { dst := some 87, op := Op.binOp BinOp.sub 3 (Operand.tmp 84) (Operand.tmp 86) 3, type := 3, pos := "ref.go:87", after := #[{ on := 5, ground := Ground.data }, { on := 7, ground := Ground.data }], guard := none }) (v := (.int .i64 (X1 - X2))) rfl (by kernel_rfl) (by kernel_rfl) (by kernel_rfl) (fun _ _ _ h => h) (Or.inl ⟨by rfl, ?_⟩) (by assumption) ?_
    · (intro w hSw; (try dsimp only at hSw); go_simp)
    simp only [Act.put, List.setIfInBounds_toArray, List.set_cons_zero, List.set_cons_succ]
    refine wpAnyH_take (i := 9) (oi := { dst := some 88, op := Op.binOp BinOp.sub 3 (Operand.tmp 87) (Operand.const (Value.int IntKind.i64 181)) 3, type := 3, pos := "ref.go:87", after := #[{ on := 8, ground := Ground.data }], guard := none }) (v := (.int .i64 (X1 - X2 - 181))) rfl (by kernel_rfl) (by kernel_rfl) (by kernel_rfl) (fun _ _ _ h => h) (Or.inl ⟨by rfl, ?_⟩) (by assumption) ?_
    · (intro w hSw; (try dsimp only at hSw); go_simp)
    simp only [Act.put, List.setIfInBounds_toArray, List.set_cons_zero, List.set_cons_succ]
    refine wpAnyH_ready (rs := [3]) (by kernel_rfl) (by simp) ?_
    refine AllReadyH.cons rfl (fun K hK => ?_) AllReadyH.nil
    clear hHeld
    go_simp
    refine (unhide K7 _ _ _ _ _ IS).mono ?_
    rintro e w10 ⟨v, rfl, ⟨n10, a10, c10, L10, rfl, i10⟩, hb⟩
    have I10 : IsNum 0 w10 (.agg #[.bool n10, .slice a10 L10.length c10]) zz := ⟨n10, a10, c10, L10, rfl, i10⟩
    clear i10 IS
    generalize L10.length = l10 at *
    have hB := hB.trans (hb.mono hB.size)
    clear hb
    go_wp2_with fail
    refine hK.out _ _ ?_ (fun hHeld => ?_)
    · exact unhide HK _ hB
    clear hK K
    refine wpAnyH_ready (rs := [10]) (by kernel_rfl) (by simp) ?_
    refine AllReadyH.cons rfl (fun K hK => ?_) AllReadyH.nil
    clear hHeld
    go_simp
    refine (unhide K8 _ _ I10).mono ?_
    rintro e w11 ⟨v, rfl, ⟨n11, a11, c11, L11, rfl, i11⟩, hb⟩
    have I11 : IsDy w11 (.agg #[.bool n11, .slice a11 L11.length c11, .int .i64 X]) M X := ⟨n11, a11, c11, L11, rfl, i11⟩
    clear i11 I10
    generalize L11.length = l11 at *
    have hB := hB.trans (hb.mono hB.size)
    clear hb
    go_wp2_with fail
    refine hK.out _ _ ?_ (fun hHeld => ?_)
    · exact unhide HK _ hB
    clear hK K
    refine wpAnyH_ready (rs := [11]) (by kernel_rfl) (by simp) ?_
    refine AllReadyH.cons rfl (fun K hK => ?_) AllReadyH.nil
    clear hHeld
    go_simp
    refine (unhide K9 _ _ I11).mono ?_
    rintro e w12 ⟨rfl, hb⟩
    clear I11
    have hB := hB.trans (hb.mono hB.size)
    clear hb
    go_wp2_with fail
    refine hK.out _ _ ?_ (fun hHeld => ?_)
    · exact unhide HK _ hB
    clear hK K
    refine wpAnyH_take (i := 12) (oi := { dst := some 91, op := Op.extract (Operand.tmp 90) 0, type := 23, pos := "ref.go:87", after := #[{ on := 11, ground := Ground.data }], guard := none }) (v := (.int .u64 (o : Nat))) rfl (by kernel_rfl) (by kernel_rfl) (by kernel_rfl) (fun _ _ _ h => h) (Or.inl ⟨by rfl, ?_⟩) (by assumption) ?_
    · (intro w hSw; (try dsimp only at hSw); go_simp)
    simp only [Act.put, List.setIfInBounds_toArray, List.set_cons_zero, List.set_cons_succ]
    refine wpAnyH_take (i := 13) (oi := { dst := some 92, op := Op.extract (Operand.tmp 90) 1, type := 24, pos := "ref.go:87", after := #[{ on := 11, ground := Ground.data }], guard := none }) (v := (.int .u8 fl)) rfl (by kernel_rfl) (by kernel_rfl) (by kernel_rfl) (fun _ _ _ h => h) (Or.inl ⟨by rfl, ?_⟩) (by assumption) ?_
    · (intro w hSw; (try dsimp only at hSw); go_simp)
    simp only [Act.put, List.setIfInBounds_toArray, List.set_cons_zero, List.set_cons_succ]
    refine wpAnyH_take (i := 14) (oi := { dst := some 4, op := Op.assign (Operand.tmp 91), type := 23, pos := "ref.go:87", after := #[{ on := 12, ground := Ground.data }, { on := 11, ground := Ground.chain }, { on := 0, ground := Ground.phase }, { on := 1, ground := Ground.phase }, { on := 2, ground := Ground.phase }, { on := 3, ground := Ground.phase }, { on := 4, ground := Ground.phase }, { on := 5, ground := Ground.phase }, { on := 6, ground := Ground.phase }, { on := 7, ground := Ground.phase }, { on := 8, ground := Ground.phase }, { on := 9, ground := Ground.phase }, { on := 10, ground := Ground.phase }, { on := 11, ground := Ground.phase }, { on := 12, ground := Ground.phase }, { on := 13, ground := Ground.phase }], guard := none }) (v := (.int .u64 (o : Nat))) rfl (by kernel_rfl) (by kernel_rfl) (by kernel_rfl) (fun _ _ _ h => h) (Or.inl ⟨by rfl, ?_⟩) (by assumption) ?_
    · (intro w hSw; (try dsimp only at hSw); go_simp)
    simp only [Act.put, List.setIfInBounds_toArray, List.set_cons_zero, List.set_cons_succ]
    refine wpAnyH_take (i := 15) (oi := { dst := some 5, op := Op.assign (Operand.tmp 92), type := 24, pos := "ref.go:87", after := #[{ on := 13, ground := Ground.data }, { on := 14, ground := Ground.chain }, { on := 0, ground := Ground.phase }, { on := 1, ground := Ground.phase }, { on := 2, ground := Ground.phase }, { on := 3, ground := Ground.phase }, { on := 4, ground := Ground.phase }, { on := 5, ground := Ground.phase }, { on := 6, ground := Ground.phase }, { on := 7, ground := Ground.phase }, { on := 8, ground := Ground.phase }, { on := 9, ground := Ground.phase }, { on := 10, ground := Ground.phase }, { on := 11, ground := Ground.phase }, { on := 12, ground := Ground.phase }, { on := 13, ground := Ground.phase }, { on := 14, ground := Ground.phase }], guard := none }) (v := (.int .u8 fl)) rfl (by kernel_rfl) (by kernel_rfl) (by kernel_rfl) (fun _ _ _ h => h) (Or.inl ⟨by rfl, ?_⟩) (by assumption) ?_
    · (intro w hSw; (try dsimp only at hSw); go_simp)
    simp only [Act.put, List.setIfInBounds_toArray, List.set_cons_zero, List.set_cons_succ]
    refine wpAnyH_done (by kernel_rfl) ?_ _
    have B4 := hide ((unhide B3).trans (hB.mono (unhide B3).size))
    clear hHeld hB B3
    go_wp2
    exact bodyPost_ret (v := .tuple #[.int .u64 o, .int .u8 fl]) (by simp [results, Tryd.results14, go_sem]) rfl ⟨rfl, unhide B4⟩
  · have hl : ((lr : Int) > 0) := by
      have : lr ≠ 0 := fun e => hR (by have := hlr.1 e; omega)
      omega
    have hS := hS1 hR
    clear hlr hS0 hS1 hR
    go_wp2_with fail
    have D := D.below ((Below.refl _ _).drew)
    have g0 := D.2.2.2.1.c0; have g1 := D.2.2.2.1.c1
    go_region_with (first | (go_at_call 37; refine (unhide KO1 _).mono ?_; rintro e w7 ⟨v, rfl, ⟨n7, a7, c7, L7, rfl, i7⟩, hb⟩; have I7 : IsNum 0 w7 (.agg #[.bool n7, .slice a7 L7.length c7]) 1 := ⟨n7, a7, c7, L7, rfl, i7⟩; have D := D.below hb; clear i7 hb; generalize L7.length = l7 at *; clear q0 q1 f0 f1 r0 r1 g0 g1; have q0 := D.2.2.2.1.c0; have q1 := D.2.2.2.1.c1; have f0 := D.2.2.2.1.free 0; have f1 := D.2.2.2.1.free 1; have r0 := D.2.2.2.2.1.c0; have r1 := D.2.2.2.2.1.c1; have g0 := q0; have g1 := q1) | (go_at_call 36; refine (unhide KA _ _ _ D.2.2.2.2.2.1 I7).mono ?_; rintro e w8 ⟨v, rfl, ⟨n8, a8, c8, L8, rfl, i8⟩, hb⟩; have I8 : IsNum 0 w8 (.agg #[.bool n8, .slice a8 L8.length c8]) (2 * Q + 1 : Nat) := ⟨n8, a8, c8, L8, rfl, i8⟩; have D := D.below hb; clear i8 hb I7; generalize L8.length = l8 at *; clear q0 q1 f0 f1 r0 r1 g0 g1; have q0 := D.2.2.2.1.c0; have q1 := D.2.2.2.1.c1; have f0 := D.2.2.2.1.free 0; have f1 := D.2.2.2.1.free 1; have r0 := D.2.2.2.2.1.c0; have r1 := D.2.2.2.2.1.c1; have D := D.putq I8; clear I8))
    all_goals
      rw [← hS] at D
      have DD := hide D
      clear D
      go_wp2_with fail
      refine at_world (fun W => DSt W0 W gq gr (.bool n8) (.slice a8 l8 c8) (SS : Nat) (.bool nr) (.slice ar lr cr)) (unhide DD) ?_
      clear DD
      rintro W1 D
      have x1 := (unhide XX).all D.2.2.2.2.2.2
      have x2 := (unhide XY).all D.2.2.2.2.2.2
      have hK : ∀ w', Below W1.heap.size W1 w' → Below W1.heap.size W1 w' ∧ w'.cell? ⟨gq, 1, none⟩ = some (.slice a8 l8 c8) ∧ w'.cell? ⟨gx, 2, none⟩ = some (.int .i64 X1) ∧ w'.cell? ⟨gy, 2, none⟩ = some (.int .i64 X2) := fun w' h => ⟨h, (D.2.2.2.1.all h).c1, (x1.all h).c2, (x2.all h).c2⟩
      have HK := hide hK
      have B3 := hide ((unhide B2).trans (D.2.2.2.2.2.2.mono (unhide B2).size))
      have IS := D.2.2.2.2.2.1
      clear hK x1 x2 D
      have hE1 := wrap_small (X1 - X2) (by omega)
      have hE2 := wrap_small (X1 - X2 - 181) (by omega)
      refine wp_region_held_drew (S := (fun w' => Below W1.heap.size W1 w' ∧ w'.cell? ⟨gq, 1, none⟩ = some (.slice a8 l8 c8) ∧ w'.cell? ⟨gx, 2, none⟩ = some (.int .i64 X1) ∧ w'.cell? ⟨gy, 2, none⟩ = some (.int .i64 X2))) (by kernel_rfl) ?_ (fun hHeld => ?_)
      · exact unhide HK _ (Below.refl _ _).drew
      have hB : Below W1.heap.size W1 W1.drew := (Below.refl _ _).drew
      have IS := IS.below hB
      generalize W1.drew = w9 at *
      refine wpAnyH_take (i := 0) (oi := { dst := some 79, op := Op.move (Operand.tmp 8), type := 4, pos := "ref.go:87", after := #[], guard := none }) (v := (.bool n)) rfl (by kernel_rfl) (by kernel_rfl) (by kernel_rfl) (fun _ _ _ h => h) (Or.inl ⟨by rfl, ?_⟩) (by assumption) ?_
      · (intro w hSw; (try dsimp only at hSw); go_simp)
      simp only [Act.put, List.setIfInBounds_toArray, List.set_cons_zero, List.set_cons_succ]
      refine wpAnyH_take (i := 1) (oi := { dst := some 80, op := Op.fieldAddr 44 (Operand.tmp 11) 1, type := 0, pos := "ref.go:87", after := #[], guard := none }) (v := Value.pointer (some ⟨gq, 1, none⟩)) rfl (by kernel_rfl) (by kernel_rfl) (by kernel_rfl) (fun _ _ _ h => h) (Or.inl ⟨by rfl, ?_⟩) (by assumption) ?_
      · (intro w hSw; (try dsimp only at hSw); go_simp)
      simp only [Act.put, List.setIfInBounds_toArray, List.set_cons_zero, List.set_cons_succ]
      refine wpAnyH_take (i := 2) (oi := { dst := some 81, op := Op.load 42 (Operand.tmp 80), type := 42, pos := "ref.go:87", after := #[{ on := 1, ground := Ground.data }], guard := none }) (v := (.slice a8 l8 c8)) rfl (by kernel_rfl) (by kernel_rfl) (by kernel_rfl) (fun _ _ _ h => h) (Or.inl ⟨by rfl, ?_⟩) (by assumption) ?_
      · (intro w hSw; (try dsimp only at hSw); go_simp)
      simp only [Act.put, List.setIfInBounds_toArray, List.set_cons_zero, List.set_cons_succ]
      refine wpAnyH_take (i := 4) (oi := { dst := some 83, op := Op.fieldAddr 46 (Operand.tmp 9) 1, type := 0, pos := "ref.go:87", after := #[], guard := none }) (v := Value.pointer (some ⟨gx, 2, none⟩)) rfl (by kernel_rfl) (by kernel_rfl) (by kernel_rfl) (fun _ _ _ h => h) (Or.inl ⟨by rfl, ?_⟩) (by assumption) ?_
      · (intro w hSw; (try dsimp only at hSw); go_simp)
      simp only [Act.put, List.setIfInBounds_toArray, List.set_cons_zero, List.set_cons_succ]
      refine wpAnyH_take (i := 5) (oi := { dst := some 84, op := Op.load 3 (Operand.tmp 83), type := 3, pos := "ref.go:87", after := #[{ on := 4, ground := Ground.data }], guard := none }) (v := (.int .i64 X1)) rfl (by kernel_rfl) (by kernel_rfl) (by kernel_rfl) (fun _ _ _ h => h) (Or.inl ⟨by rfl, ?_⟩) (by assumption) ?_
      · (intro w hSw; (try dsimp only at hSw); go_simp)
      simp only [Act.put, List.setIfInBounds_toArray, List.set_cons_zero, List.set_cons_succ]
      refine wpAnyH_take (i := 6) (oi := { dst := some 85, op := Op.fieldAddr 46 (Operand.tmp 10) 1, type := 0, pos := "ref.go:87", after := #[], guard := none }) (v := Value.pointer (some ⟨gy, 2, none⟩)) rfl (by kernel_rfl) (by kernel_rfl) (by kernel_rfl) (fun _ _ _ h => h) (Or.inl ⟨by rfl, ?_⟩) (by assumption) ?_
      · (intro w hSw; (try dsimp only at hSw); go_simp)
      simp only [Act.put, List.setIfInBounds_toArray, List.set_cons_zero, List.set_cons_succ]
      refine wpAnyH_take (i := 7) (oi := { dst := some 86, op := Op.load 3 (Operand.tmp 85), type := 3, pos := "ref.go:87", after := #[{ on := 6, ground := Ground.data }], guard := none }) (v := (.int .i64 X2)) rfl (by kernel_rfl) (by kernel_rfl) (by kernel_rfl) (fun _ _ _ h => h) (Or.inl ⟨by rfl, ?_⟩) (by assumption) ?_
      · (intro w hSw; (try dsimp only at hSw); go_simp)
      simp only [Act.put, List.setIfInBounds_toArray, List.set_cons_zero, List.set_cons_succ]
      refine wpAnyH_take (i := 8) (oi := { dst := some 87, op := Op.binOp BinOp.sub 3 (Operand.tmp 84) (Operand.tmp 86) 3, type := 3, pos := "ref.go:87", after := #[{ on := 5, ground := Ground.data }, { on := 7, ground := Ground.data }], guard := none }) (v := (.int .i64 (X1 - X2))) rfl (by kernel_rfl) (by kernel_rfl) (by kernel_rfl) (fun _ _ _ h => h) (Or.inl ⟨by rfl, ?_⟩) (by assumption) ?_
      · (intro w hSw; (try dsimp only at hSw); go_simp)
      simp only [Act.put, List.setIfInBounds_toArray, List.set_cons_zero, List.set_cons_succ]
      refine wpAnyH_take (i := 9) (oi := { dst := some 88, op := Op.binOp BinOp.sub 3 (Operand.tmp 87) (Operand.const (Value.int IntKind.i64 181)) 3, type := 3, pos := "ref.go:87", after := #[{ on := 8, ground := Ground.data }], guard := none }) (v := (.int .i64 (X1 - X2 - 181))) rfl (by kernel_rfl) (by kernel_rfl) (by kernel_rfl) (fun _ _ _ h => h) (Or.inl ⟨by rfl, ?_⟩) (by assumption) ?_
      · (intro w hSw; (try dsimp only at hSw); go_simp)
      simp only [Act.put, List.setIfInBounds_toArray, List.set_cons_zero, List.set_cons_succ]
      refine wpAnyH_ready (rs := [3]) (by kernel_rfl) (by simp) ?_
      refine AllReadyH.cons rfl (fun K hK => ?_) AllReadyH.nil
      clear hHeld
      go_simp
      refine (unhide K7 _ _ _ _ _ IS).mono ?_
      rintro e w10 ⟨v, rfl, ⟨n10, a10, c10, L10, rfl, i10⟩, hb⟩
      have I10 : IsNum 0 w10 (.agg #[.bool n10, .slice a10 L10.length c10]) zz := ⟨n10, a10, c10, L10, rfl, i10⟩
      clear i10 IS
      generalize L10.length = l10 at *
      have hB := hB.trans (hb.mono hB.size)
      clear hb
      go_wp2_with fail
      refine hK.out _ _ ?_ (fun hHeld => ?_)
      · exact unhide HK _ hB
      clear hK K
      refine wpAnyH_ready (rs := [10]) (by kernel_rfl) (by simp) ?_
      refine AllReadyH.cons rfl (fun K hK => ?_) AllReadyH.nil
      clear hHeld
      go_simp
      refine (unhide K8 _ _ I10).mono ?_
      rintro e w11 ⟨v, rfl, ⟨n11, a11, c11, L11, rfl, i11⟩, hb⟩
      have I11 : IsDy w11 (.agg #[.bool n11, .slice a11 L11.length c11, .int .i64 X]) M X := ⟨n11, a11, c11, L11, rfl, i11⟩
      clear i11 I10
      generalize L11.length = l11 at *
      have hB := hB.trans (hb.mono hB.size)
      clear hb
      go_wp2_with fail
      refine hK.out _ _ ?_ (fun hHeld => ?_)
      · exact unhide HK _ hB
      clear hK K
      refine wpAnyH_ready (rs := [11]) (by kernel_rfl) (by simp) ?_
      refine AllReadyH.cons rfl (fun K hK => ?_) AllReadyH.nil
      clear hHeld
      go_simp
      refine (unhide K9 _ _ I11).mono ?_
      rintro e w12 ⟨rfl, hb⟩
      clear I11
      have hB := hB.trans (hb.mono hB.size)
      clear hb
      go_wp2_with fail
      refine hK.out _ _ ?_ (fun hHeld => ?_)
      · exact unhide HK _ hB
      clear hK K
      refine wpAnyH_take (i := 12) (oi := { dst := some 91, op := Op.extract (Operand.tmp 90) 0, type := 23, pos := "ref.go:87", after := #[{ on := 11, ground := Ground.data }], guard := none }) (v := (.int .u64 (o : Nat))) rfl (by kernel_rfl) (by kernel_rfl) (by kernel_rfl) (fun _ _ _ h => h) (Or.inl ⟨by rfl, ?_⟩) (by assumption) ?_
      · (intro w hSw; (try dsimp only at hSw); go_simp)
      simp only [Act.put, List.setIfInBounds_toArray, List.set_cons_zero, List.set_cons_succ]
      refine wpAnyH_take (i := 13) (oi := { dst := some 92, op := Op.extract (Operand.tmp 90) 1, type := 24, pos := "ref.go:87", after := #[{ on := 11, ground := Ground.data }], guard := none }) (v := (.int .u8 fl)) rfl (by kernel_rfl) (by kernel_rfl) (by kernel_rfl) (fun _ _ _ h => h) (Or.inl ⟨by rfl, ?_⟩) (by assumption) ?_
      · (intro w hSw; (try dsimp only at hSw); go_simp)
      simp only [Act.put, List.setIfInBounds_toArray, List.set_cons_zero, List.set_cons_succ]
      refine wpAnyH_take (i := 14) (oi := { dst := some 4, op := Op.assign (Operand.tmp 91), type := 23, pos := "ref.go:87", after := #[{ on := 12, ground := Ground.data }, { on := 11, ground := Ground.chain }, { on := 0, ground := Ground.phase }, { on := 1, ground := Ground.phase }, { on := 2, ground := Ground.phase }, { on := 3, ground := Ground.phase }, { on := 4, ground := Ground.phase }, { on := 5, ground := Ground.phase }, { on := 6, ground := Ground.phase }, { on := 7, ground := Ground.phase }, { on := 8, ground := Ground.phase }, { on := 9, ground := Ground.phase }, { on := 10, ground := Ground.phase }, { on := 11, ground := Ground.phase }, { on := 12, ground := Ground.phase }, { on := 13, ground := Ground.phase }], guard := none }) (v := (.int .u64 (o : Nat))) rfl (by kernel_rfl) (by kernel_rfl) (by kernel_rfl) (fun _ _ _ h => h) (Or.inl ⟨by rfl, ?_⟩) (by assumption) ?_
      · (intro w hSw; (try dsimp only at hSw); go_simp)
      simp only [Act.put, List.setIfInBounds_toArray, List.set_cons_zero, List.set_cons_succ]
      refine wpAnyH_take (i := 15) (oi := { dst := some 5, op := Op.assign (Operand.tmp 92), type := 24, pos := "ref.go:87", after := #[{ on := 13, ground := Ground.data }, { on := 14, ground := Ground.chain }, { on := 0, ground := Ground.phase }, { on := 1, ground := Ground.phase }, { on := 2, ground := Ground.phase }, { on := 3, ground := Ground.phase }, { on := 4, ground := Ground.phase }, { on := 5, ground := Ground.phase }, { on := 6, ground := Ground.phase }, { on := 7, ground := Ground.phase }, { on := 8, ground := Ground.phase }, { on := 9, ground := Ground.phase }, { on := 10, ground := Ground.phase }, { on := 11, ground := Ground.phase }, { on := 12, ground := Ground.phase }, { on := 13, ground := Ground.phase }, { on := 14, ground := Ground.phase }], guard := none }) (v := (.int .u8 fl)) rfl (by kernel_rfl) (by kernel_rfl) (by kernel_rfl) (fun _ _ _ h => h) (Or.inl ⟨by rfl, ?_⟩) (by assumption) ?_
      · (intro w hSw; (try dsimp only at hSw); go_simp)
      simp only [Act.put, List.setIfInBounds_toArray, List.set_cons_zero, List.set_cons_succ]
      refine wpAnyH_done (by kernel_rfl) ?_ _
      have B4 := hide ((unhide B3).trans (hB.mono (unhide B3).size))
      clear hHeld hB B3
      go_wp2
      exact bodyPost_ret (v := .tuple #[.int .u64 o, .int .u8 fl]) (by simp [results, Tryd.results14, go_sem]) rfl ⟨rfl, unhide B4⟩


end Go.Proofs.YtibolacikaanpaaDoor

/- The reference's contracts that its Div ends with: numbers made, rounded. -/
namespace Go.Proofs.YtibolacikaanpaaDoor
open Go.RowKit

theorem rshift180 {w : World} {v : Value} {x A : Nat} (hA : x * 2 ^ 180 = A) (hv : IsNum 0 w v (x : Nat)) (hx : x < 2 ^ 8000) :
    Calls Tryd.prog 33 #[v, .int .i64 180] w fun e w' => ∃ r, e = .returned r ∧ IsNum 0 w' r (A : Nat) ∧ Below w.heap.size w w' := by
  have h := rshift6 hv hx 180 (by decide)
  rw [if_pos (by decide), show (180 : Int).toNat = 180 from rfl, hA] at h
  exact h
theorem rdouble_nat {w : World} {v : Value} {Q : Nat} (hv : IsNum 0 w v (Q : Nat)) (hQ : Q < 2 ^ 8000) :
    Calls Tryd.prog 35 #[v] w fun e w' => ∃ r, e = .returned r ∧ IsNum 0 w' r (2 * Q : Nat) ∧ Below w.heap.size w w' := by
  have h := rdouble6 hv (by rw [Int.natAbs_natCast]; exact hQ)
  have e : 2 * ((Q : Nat) : Int) = ((2 * Q : Nat) : Int) := by omega
  rw [e] at h
  exact h.mono fun e w' ⟨r, h1, h2, h3⟩ => ⟨r, h1, h2.mono (Nat.zero_le _), h3⟩
theorem one8000 : ((1 : Int)).natAbs < 2 ^ 8000 := pow_up 1 8000 (by decide) (by decide)
theorem radd_nat {w : World} {v u : Value} {Q : Nat} (hv : IsNum 0 w v (Q : Nat)) (hu : IsNum 0 w u 1) (hQ : Q < 2 ^ 8000) :
    Calls Tryd.prog 36 #[v, u] w fun e w' => ∃ r, e = .returned r ∧ IsNum 0 w' r (Q + 1 : Nat) ∧ Below w.heap.size w w' := by
  have h := radd6 hv hu (by rw [Int.natAbs_natCast]; exact hQ) one8000
  have e : ((Q : Nat) : Int) + 1 = ((Q + 1 : Nat) : Int) := by omega
  rw [e] at h
  exact h.mono fun e w' ⟨r, h1, h2, h3⟩ => ⟨r, h1, h2.mono (Nat.zero_le _), h3⟩
theorem rmade_nat {w : World} {m n : Bool} {a : Option Addr} {l c SS : Nat} (hv : IsNum 0 w (.agg #[.bool m, .slice a l c]) (SS : Nat)) :
    Calls Tryd.prog 39 #[.bool n, .slice a l c] w fun e w' => ∃ r, e = .returned r ∧ IsNum 0 w' r (sg n SS) ∧ Below w.heap.size w w' := by
  obtain ⟨L, rfl, h1, h2, h3, h4, h5, h6⟩ := hv.open6
  have h := made_any 0 n a c L w h1 h2 h6
  have e : sval n L = sg n SS := by rw [sval_sg, h5]; rfl
  rw [e] at h
  exact h.mono fun e w' ⟨r, g1, g2, g3⟩ => ⟨r, g1, g2.num (by omega), g3⟩

theorem sg_neg6 (n : Bool) (S : Nat) : (sg n S).natAbs = S ∧ (S ≠ 0 → decide (sg n S < 0) = n) ∧ (oM (sg n S)).natAbs = (oM (S : Nat)).natAbs ∧ ∀ e, oE (sg n S) e = oE (S : Nat) e := by
  cases n
  · exact ⟨rfl, fun h => decide_eq_false (by show ¬ ((S : Nat) : Int) < 0; omega), rfl, fun e => rfl⟩
  · refine ⟨by show (-((S : Nat) : Int)).natAbs = S; omega, fun h => decide_eq_true (by show -((S : Nat) : Int) < 0; omega), ?_, fun e => ?_⟩
    · show (oM (-((S : Nat) : Int))).natAbs = _
      rw [(oM_neg _).1, Int.natAbs_neg]
    · show oE (-((S : Nat) : Int)) e = _
      rw [(oM_neg _).2]

theorem rofr_nat {w : World} {v : Value} {n : Bool} {S : Nat} {E : Int} (hv : IsNum 0 w v (sg n S)) (hS : S < 2 ^ 8000) (hE : -1000000 ≤ E ∧ E ≤ 1000000) :
    Calls Tryd.prog 38 #[v, .int .i64 E] w fun r w' => ∃ u, r = .returned u ∧ IsDy w' u (oM (sg n S)) (oE (sg n S) E) ∧ Below w.heap.size w w' := by
  have hz : (sg n S).natAbs < TOP := top8000 (by rw [(sg_neg6 n S).1]; exact hS)
  exact rof_small E (hv.toM hz) (by decide) hE

theorem p250_80 {x : Nat} (h : x < 2 ^ 250) : x < 4294967296 ^ 80 := Nat.lt_of_lt_of_le h (by decide +kernel)
theorem rrnd_nat {w : World} {v : Value} {n : Bool} {S r : Nat} {E fl : Int} (s0 : S ≠ 0) (hS : S < 2 ^ 250) (hE : -3000 ≤ E ∧ E ≤ 3000) (q1 : rnd S E = r) (q2 : rflag (oM (S : Nat)).natAbs (oE (S : Nat) E) = fl) (hv : IsDy w v (oM (sg n S)) (oE (sg n S) E)) :
    Calls Tryd.prog 28 #[v] w fun e w' => e = .returned (.tuple #[.int .u64 (wrd n r : Nat), .int .u8 fl]) ∧ Below w.heap.size w w' := by
  obtain ⟨g1, g2, g3, g4⟩ := sg_neg6 n S
  have hz0 : sg n S ≠ 0 := fun e => s0 (by rw [← g1, e]; rfl)
  have htz : tz (sg n S).natAbs < 250 := tz_lt _ 250 (by omega) (by rw [g1]; exact hS)
  have hRt : dRt (oM (sg n S)) (oE (sg n S) E) = true := by
    unfold dRt
    rw [if_neg (oM_ne _ hz0).1, oE_ne _ _ hz0, decide_eq_true (oM_ne _ hz0).2, decide_eq_true (by omega)]
    rfl
  have hb : (oM (sg n S)).natAbs < 4294967296 ^ 80 := Nat.lt_of_le_of_lt (oM_le _) (by rw [g1]; exact p250_80 hS)
  have h := rround_dy hv hb hRt
  rw [(rnd_odd (sg n S) E).1, oM_sign, g1, g2 s0, q1, g3, g4, q2] at h
  exact h

end Go.Proofs.YtibolacikaanpaaDoor

