/- Part 28 of the texts. -/
import Derived.Test.YtgegjhkiiejhlaaDoorPart27
import Derived.Deep.RegionHeld3
/- The law RootBetween, walked: the way through it. -/
namespace Go.Proofs.YtgegjhkiiejhlaaDoor
open Go.RowKit

set_option maxRecDepth 20000 in
set_option maxHeartbeats 8000000 in
theorem rootBetween_in (a r : Nat) (k fl m X mL XL mH XH pL YL pH YH c1 c2 : Int) (w : World) (hT : Tab w) (hk : (k == 0) = false) (r1 : 1 ≤ (r : Int)) (r2 : (r : Int) < 9223372036854775808)
    (h1 : c1 = -1 ∨ c1 = 0) (h2 : c2 = 0 ∨ c2 = 1)
    (C1 : ∀ w', Calls Tryd.prog 22 #[.int .u64 a] w' fun e w'' => e = .returned (.bool true) ∧ w' = w'')
    (C2 : ∀ w', Calls Tryd.prog 20 #[.int .u64 a] w' fun e w'' => e = .returned (.bool false) ∧ w' = w'')
    (C3 : ∀ w', Calls Tryd.prog 23 #[.int .u64 a] w' fun e w'' => e = .returned (.int .i64 k) ∧ w' = w'')
    (C4 : ∀ w', Tab w' → Calls Tryd.prog 12 #[.int .u64 a] w' fun e w'' => e = .returned (.tuple #[.int .u64 (r : Nat), .int .u8 fl]) ∧ Below w'.heap.size w' w'')
    (C5 : ∀ w', Calls Tryd.prog 22 #[.int .u64 (r : Nat)] w' fun e w'' => e = .returned (.bool true) ∧ w' = w'')
    (C6 : ∀ w', Calls Tryd.prog 23 #[.int .u64 (r : Nat)] w' fun e w'' => e = .returned (.int .i64 2) ∧ w' = w'')
    (C7 : ∀ w', Calls Tryd.prog 20 #[.int .u64 (r : Nat)] w' fun e w'' => e = .returned (.bool false) ∧ w' = w'')
    (C8 : ∀ w', Calls Tryd.prog 24 #[.int .u64 a] w' fun e w'' => ∃ u, e = .returned u ∧ IsDy w'' u m X ∧ Below w'.heap.size w' w'')
    (C9 : ∀ w', Calls Tryd.prog 25 #[.int .u64 (r : Nat), .int .u64 ((r : Int) - 1)] w' fun e w'' => ∃ u, e = .returned u ∧ IsDy w'' u mL XL ∧ Below w'.heap.size w' w'')
    (C10 : ∀ w', Calls Tryd.prog 25 #[.int .u64 (r : Nat), .int .u64 ((r : Int) + 1)] w' fun e w'' => ∃ u, e = .returned u ∧ IsDy w'' u mH XH ∧ Below w'.heap.size w' w'')
    (C11 : ∀ w' v, IsDy w' v mL XL → Calls Tryd.prog 27 #[v, v] w' fun e w'' => ∃ q, e = .returned q ∧ IsDy w'' q pL YL ∧ Below w'.heap.size w' w'')
    (C12 : ∀ w' v, IsDy w' v mH XH → Calls Tryd.prog 27 #[v, v] w' fun e w'' => ∃ q, e = .returned q ∧ IsDy w'' q pH YH ∧ Below w'.heap.size w' w'')
    (C13 : ∀ w' v u, IsDy w' v pL YL → IsDy w' u m X → Calls Tryd.prog 26 #[v, u] w' fun e w'' => e = .returned (.int .i64 c1) ∧ Below w'.heap.size w' w'')
    (C14 : ∀ w' v u, IsDy w' v pH YH → IsDy w' u m X → Calls Tryd.prog 26 #[v, u] w' fun e w'' => e = .returned (.int .i64 c2) ∧ Below w'.heap.size w' w'') :
    Calls Tryd.prog 8 #[.int .u64 a] w fun e w' => e = .returned (.bool true) ∧ Below w.heap.size w w' := by
  have K1 := hide C1; have K2 := hide C2; have K3 := hide C3; have K4 := hide C4; have K5 := hide C5; have K6 := hide C6; have K7 := hide C7; have K8 := hide C8; have K9 := hide C9; have K10 := hide C10; have K11 := hide C11; have K12 := hide C12; have K13 := hide C13; have K14 := hide C14
  have KA := hide (fun w' t => awake7_any w' t)
  clear C1 C2 C3 C4 C5 C6 C7 C8 C9 C10 C11 C12 C13 C14
  go_enter Tryd.func8, Tryd.ntmps8
  go_wp2_with fail
  refine (unhide K1 _).mono ?_
  rintro e wk ⟨rfl, rfl⟩
  go_wp2_with fail
  refine (unhide K2 _).mono ?_
  rintro e wk ⟨rfl, rfl⟩
  go_wp2_with fail
  refine (unhide K3 _).mono ?_
  rintro e wk ⟨rfl, rfl⟩
  clear K1 K2 K3
  go_wp2_with fail
  refine (unhide K4 _ hT).mono ?_
  rintro e w0 ⟨rfl, hb⟩
  have B := hide hb
  clear hb K4
  go_wp2_with fail
  refine (unhide K5 _).mono ?_
  rintro e wk ⟨rfl, rfl⟩
  go_wp2_with fail
  refine (unhide K6 _).mono ?_
  rintro e wk ⟨rfl, rfl⟩
  go_wp2_with fail
  refine (unhide K7 _).mono ?_
  rintro e wk ⟨rfl, rfl⟩
  clear K5 K6 K7
  go_wp2_with fail
  refine (unhide K8 _).mono ?_
  rintro e w1 ⟨v, rfl, ⟨n1, a1, d1, L1, rfl, i1⟩, hb⟩
  have hba : Below w1.heap.size w1 (w1.alloc (.cells #[.bool n1, .slice a1 L1.length d1, .int .i64 X] 46)) := (Below.refl _ _).alloc (Nat.le_refl _) _
  have H1 := hide ((show IsDy w1 (.agg #[.bool n1, .slice a1 L1.length d1, .int .i64 X]) m X from ⟨n1, a1, d1, L1, rfl, i1⟩).below hba)
  have X1 := hide (Box3.new w1 (.bool n1) (.slice a1 L1.length d1) (.int .i64 X))
  have B1 := hide ((unhide B).trans ((hb.trans (hba.mono hb.size)).mono (unhide B).size))
  clear hb hba i1 K8 B
  generalize L1.length = l1 at *
  go_wp2_with fail
  refine (unhide K9 _).mono ?_
  rintro e w2 ⟨v, rfl, ⟨n2, a2, d2, L2, rfl, i2⟩, hb⟩
  have hba : Below w2.heap.size w2 (w2.alloc (.cells #[.bool n2, .slice a2 L2.length d2, .int .i64 XL] 46)) := (Below.refl _ _).alloc (Nat.le_refl _) _
  have H1 := hide (((unhide H1).below hb).below hba)
  have X1 := hide (((unhide X1).all hb).all hba)
  have H2 := hide ((show IsDy w2 (.agg #[.bool n2, .slice a2 L2.length d2, .int .i64 XL]) mL XL from ⟨n2, a2, d2, L2, rfl, i2⟩).below hba)
  have X2 := hide (Box3.new w2 (.bool n2) (.slice a2 L2.length d2) (.int .i64 XL))
  have B2 := hide ((unhide B1).trans ((hb.trans (hba.mono hb.size)).mono (unhide B1).size))
  clear hb hba i2 K9 B1
  generalize L2.length = l2 at *
  go_wp2_with fail
  refine (unhide K10 _).mono ?_
  rintro e w3 ⟨v, rfl, ⟨n3, a3, d3, L3, rfl, i3⟩, hb⟩
  have hba : Below w3.heap.size w3 (w3.alloc (.cells #[.bool n3, .slice a3 L3.length d3, .int .i64 XH] 46)) := (Below.refl _ _).alloc (Nat.le_refl _) _
  have H1 := hide (((unhide H1).below hb).below hba)
  have X1 := hide (((unhide X1).all hb).all hba)
  have H2 := hide (((unhide H2).below hb).below hba)
  have X2 := hide (((unhide X2).all hb).all hba)
  have H3 := hide ((show IsDy w3 (.agg #[.bool n3, .slice a3 L3.length d3, .int .i64 XH]) mH XH from ⟨n3, a3, d3, L3, rfl, i3⟩).below hba)
  have X3 := hide (Box3.new w3 (.bool n3) (.slice a3 L3.length d3) (.int .i64 XH))
  have B3 := hide ((unhide B2).trans ((hb.trans (hba.mono hb.size)).mono (unhide B2).size))
  clear hb hba i3 K10 B2
  go_wp2_with fail
  refine at_world (fun W => Below w.heap.size w W ∧ Box3 W w1.heap.size (.bool n1) (.slice a1 l1 d1) (.int .i64 X) ∧ Box3 W w2.heap.size (.bool n2) (.slice a2 l2 d2) (.int .i64 XL) ∧ Box3 W w3.heap.size (.bool n3) (.slice a3 L3.length d3) (.int .i64 XH) ∧ IsDy W (.agg #[.bool n1, .slice a1 l1 d1, .int .i64 X]) m X ∧ IsDy W (.agg #[.bool n2, .slice a2 l2 d2, .int .i64 XL]) mL XL ∧ IsDy W (.agg #[.bool n3, .slice a3 L3.length d3, .int .i64 XH]) mH XH ∧ Tab W) ⟨unhide B3, unhide X1, unhide X2, unhide X3, unhide H1, unhide H2, unhide H3, hT.all (unhide B3)⟩ ?_
  clear B3 X1 X2 X3 H1 H2 H3
  rintro W0 ⟨b0, x1, x2, x3, hv, hl, hh, ht⟩
  generalize w1.heap.size = g1 at *
  generalize w2.heap.size = g2 at *
  generalize w3.heap.size = g3 at *
  generalize L3.length = l3 at *
  have hK : ∀ w', Below W0.heap.size W0 w' → Below W0.heap.size W0 w' ∧ w'.cell? ⟨g1, 0, none⟩ = some (.bool n1) ∧ w'.cell? ⟨g1, 1, none⟩ = some (.slice a1 l1 d1) ∧ w'.cell? ⟨g1, 2, none⟩ = some (.int .i64 X) ∧ w'.cell? ⟨g2, 0, none⟩ = some (.bool n2) ∧ w'.cell? ⟨g2, 1, none⟩ = some (.slice a2 l2 d2) ∧ w'.cell? ⟨g2, 2, none⟩ = some (.int .i64 XL) ∧ w'.cell? ⟨g3, 0, none⟩ = some (.bool n3) ∧ w'.cell? ⟨g3, 1, none⟩ = some (.slice a3 l3 d3) ∧ w'.cell? ⟨g3, 2, none⟩ = some (.int .i64 XH) := fun w' h => ⟨h, (x1.all h).c0, (x1.all h).c1, (x1.all h).c2, (x2.all h).c0, (x2.all h).c1, (x2.all h).c2, (x3.all h).c0, (x3.all h).c1, (x3.all h).c2⟩
  have HK := hide hK; have BB := hide b0; have HV := hide hv; have HL := hide hl; have HH := hide hh; have HT := hide ht
  clear hK b0 x1 x2 x3 hv hl hh ht
  rcases h1 with rfl | rfl <;> rcases h2 with rfl | rfl
  all_goals
    go_region_held3 (fun w' => Below W0.heap.size W0 w' ∧ w'.cell? ⟨g1, 0, none⟩ = some (.bool n1) ∧ w'.cell? ⟨g1, 1, none⟩ = some (.slice a1 l1 d1) ∧ w'.cell? ⟨g1, 2, none⟩ = some (.int .i64 X) ∧ w'.cell? ⟨g2, 0, none⟩ = some (.bool n2) ∧ w'.cell? ⟨g2, 1, none⟩ = some (.slice a2 l2 d2) ∧ w'.cell? ⟨g2, 2, none⟩ = some (.int .i64 XL) ∧ w'.cell? ⟨g3, 0, none⟩ = some (.bool n3) ∧ w'.cell? ⟨g3, 1, none⟩ = some (.slice a3 l3 d3) ∧ w'.cell? ⟨g3, 2, none⟩ = some (.int .i64 XH))
      (first | exact unhide HK _ (Below.refl _ _).drew | exact unhide HK _ (by assumption) | fail "NO KEEP")
      (first | (go_at_call_of 27 (Value.agg #[.bool n2, .slice a2 l2 d2, .int .i64 XL]); refine (unhide K11 _ _ ((unhide HL).below (And.left (by assumption)))).mono ?_; rintro e wn5 ⟨q, rfl, hq, hb1⟩; have hB5 : Below W0.heap.size W0 wn5 := Below.trans (And.left (by assumption)) (hb1.mono (Below.size (And.left (by assumption)))); obtain ⟨n5, a5, d5, L5, rfl, j5⟩ := hq; have J1 := hide (show IsDy wn5 (.agg #[.bool n5, .slice a5 L5.length d5, .int .i64 YL]) pL YL from ⟨n5, a5, d5, L5, rfl, j5⟩); clear hb1 j5) | (go_at_call_of 27 (Value.agg #[.bool n3, .slice a3 l3 d3, .int .i64 XH]); refine (unhide K12 _ _ ((unhide HH).below (And.left (by assumption)))).mono ?_; rintro e wn7 ⟨q, rfl, hq, hb1⟩; have hB7 : Below W0.heap.size W0 wn7 := Below.trans (And.left (by assumption)) (hb1.mono (Below.size (And.left (by assumption)))); obtain ⟨n7, a7, d7, L7, rfl, j7⟩ := hq; have J2 := hide (show IsDy wn7 (.agg #[.bool n7, .slice a7 L7.length d7, .int .i64 YH]) pH YH from ⟨n7, a7, d7, L7, rfl, j7⟩); clear hb1 j7) | (go_at_call 26; refine (unhide K14 _ _ _ (unhide J2) ((unhide HV).below (And.left (by assumption)))).mono ?_; rintro e wn8 ⟨rfl, hb1⟩; have hB8 : Below W0.heap.size W0 wn8 := Below.trans (And.left (by assumption)) (hb1.mono (Below.size (And.left (by assumption)))); clear hb1) | (go_at_call 26; refine (unhide K13 _ _ _ (unhide J1) ((unhide HV).below (And.left (by assumption)))).mono ?_; rintro e wn6 ⟨rfl, hb1⟩; have hB6 : Below W0.heap.size W0 wn6 := Below.trans (And.left (by assumption)) (hb1.mono (Below.size (And.left (by assumption)))); clear hb1) | (go_at_call 11; refine (unhide KA _ ((unhide HT).all (And.left (by assumption)))).mono ?_; rintro e wn9 ⟨rfl, hb1⟩; have hB9 : Below W0.heap.size W0 wn9 := Below.trans (And.left (by assumption)) (hb1.mono (Below.size (And.left (by assumption)))); clear hb1) | fail "NO ARM")
    have hW : Below W0.heap.size W0 _ := And.left (by assumption)
    have B9 := hide ((unhide BB).trans (hW.mono (unhide BB).size))
    clear hW
    go_wp2
    go_ret
    exact ⟨rfl, unhide B9⟩

end Go.Proofs.YtgegjhkiiejhlaaDoor

/- The reference's Add and Sub of layer 5; the laws SumAdds and SumSubs, walked. -/
namespace Go.Proofs.YtgegjhkiiejhlaaDoor
open Go.RowKit

theorem p80 : (2 : Nat) ^ 2099 ≤ 4294967296 ^ 80 := by decide +kernel

end Go.Proofs.YtgegjhkiiejhlaaDoor

/- The law SumExact, walked. -/
namespace Go.Proofs.YtgegjhkiiejhlaaDoor
open Go.RowKit

end Go.Proofs.YtgegjhkiiejhlaaDoor

/- The law SumExact, put together. -/
namespace Go.Proofs.YtgegjhkiiejhlaaDoor
open Go.RowKit

theorem cmpI_three (u v : Int) : (cmpI u v = 1 ∧ v < u) ∨ (cmpI u v = -1 ∧ u ≤ v) ∨ (cmpI u v = 0 ∧ u ≤ v) := by
  unfold cmpI
  split
  · right; left; exact ⟨rfl, by omega⟩
  · split
    · left; exact ⟨rfl, by omega⟩
    · right; right; exact ⟨rfl, by omega⟩

theorem twice_Lvl {z : Int} (h : z.natAbs < 2 ^ 2098) : Lvl (-1074) 2099 z ∧ Lvl (-1074) 2099 (z * 2) := by
  have h2 := p2098
  have h3 := Nat.two_pow_pos 2098
  generalize (2 : Nat) ^ 2098 = P at *
  exact ⟨⟨by rw [← h2]; omega, by decide, by decide, by decide⟩, ⟨by rw [← h2]; omega, by decide, by decide, by decide⟩⟩

end Go.Proofs.YtgegjhkiiejhlaaDoor

/- The law RootBetween, walked. -/
namespace Go.Proofs.YtgegjhkiiejhlaaDoor
open Go.RowKit

set_option maxRecDepth 20000 in
set_option maxHeartbeats 2000000 in
theorem rootBetween_n (a : Nat) (w : World) (hT : Tab w)
    (C1 : ∀ w', Calls Tryd.prog 22 #[.int .u64 a] w' fun e w'' => e = .returned (.bool false) ∧ w' = w'') :
    Calls Tryd.prog 8 #[.int .u64 a] w fun e w' => e = .returned (.bool true) ∧ Below w.heap.size w w' := by
  have K1 := hide C1
  have KA := hide (fun w' t => awake7_any w' t)
  clear C1
  go_enter Tryd.func8, Tryd.ntmps8
  go_wp2_with fail
  refine (unhide K1 _).mono ?_
  rintro e wk ⟨rfl, rfl⟩
  go_wp2_with fail
  refine (unhide KA _ hT).mono ?_
  rintro e w3 ⟨rfl, hb3⟩
  go_wp2
  go_ret
  exact ⟨rfl, hb3⟩

set_option maxRecDepth 20000 in
set_option maxHeartbeats 2000000 in
theorem rootBetween_m (a : Nat) (w : World) (hT : Tab w)
    (C1 : ∀ w', Calls Tryd.prog 22 #[.int .u64 a] w' fun e w'' => e = .returned (.bool true) ∧ w' = w'')
    (C2 : ∀ w', Calls Tryd.prog 20 #[.int .u64 a] w' fun e w'' => e = .returned (.bool true) ∧ w' = w'') :
    Calls Tryd.prog 8 #[.int .u64 a] w fun e w' => e = .returned (.bool true) ∧ Below w.heap.size w w' := by
  have K1 := hide C1; have K2 := hide C2
  have KA := hide (fun w' t => awake7_any w' t)
  clear C1 C2
  go_enter Tryd.func8, Tryd.ntmps8
  go_wp2_with fail
  refine (unhide K1 _).mono ?_
  rintro e wk ⟨rfl, rfl⟩
  go_wp2_with fail
  refine (unhide K2 _).mono ?_
  rintro e wk ⟨rfl, rfl⟩
  go_wp2_with fail
  refine (unhide KA _ hT).mono ?_
  rintro e w3 ⟨rfl, hb3⟩
  go_wp2
  go_ret
  exact ⟨rfl, hb3⟩

set_option maxRecDepth 20000 in
set_option maxHeartbeats 2000000 in
theorem rootBetween_z (a : Nat) (w : World) (hT : Tab w)
    (C1 : ∀ w', Calls Tryd.prog 22 #[.int .u64 a] w' fun e w'' => e = .returned (.bool true) ∧ w' = w'')
    (C2 : ∀ w', Calls Tryd.prog 20 #[.int .u64 a] w' fun e w'' => e = .returned (.bool false) ∧ w' = w'')
    (C3 : ∀ w', Calls Tryd.prog 23 #[.int .u64 a] w' fun e w'' => e = .returned (.int .i64 0) ∧ w' = w'') :
    Calls Tryd.prog 8 #[.int .u64 a] w fun e w' => e = .returned (.bool true) ∧ Below w.heap.size w w' := by
  have K1 := hide C1; have K2 := hide C2; have K3 := hide C3
  have KA := hide (fun w' t => awake7_any w' t)
  clear C1 C2 C3
  go_enter Tryd.func8, Tryd.ntmps8
  go_wp2_with fail
  refine (unhide K1 _).mono ?_
  rintro e wk ⟨rfl, rfl⟩
  go_wp2_with fail
  refine (unhide K2 _).mono ?_
  rintro e wk ⟨rfl, rfl⟩
  go_wp2_with fail
  refine (unhide K3 _).mono ?_
  rintro e wk ⟨rfl, rfl⟩
  go_wp2_with fail
  refine (unhide KA _ hT).mono ?_
  rintro e w3 ⟨rfl, hb3⟩
  go_wp2
  go_ret
  exact ⟨rfl, hb3⟩

theorem p2099 : (2 : Nat) ^ 2099 = 2 * 2 ^ 2098 := by decide +kernel
theorem p4198 : (2 : Nat) ^ 2099 * 2 ^ 2099 = 2 ^ 4198 := by decide +kernel
theorem p3174 : (2 : Nat) ^ 2098 * 2 ^ 1076 ≤ 2 ^ 4198 := by decide +kernel
theorem p1076 : (2 : Nat) ^ 1076 = 4 * 2 ^ 1074 := by decide +kernel

/-- The sum of two numbers that are not below 0, in units of the least number. -/
theorem half7_any (p q : Nat) (w : World) (hp : p < 9218868437227405312) (hq : q < 9218868437227405312) (h0 : rv p + rv q ≠ 0) :
    Calls Tryd.prog 25 #[.int .u64 (p : Nat), .int .u64 (q : Nat)] w fun r w' => ∃ u, r = .returned u ∧ IsDy w' u (oM ((rv p + rv q : Nat) : Int)) (oE ((rv p + rv q : Nat) : Int) (-1075)) ∧ Below w.heap.size w w' := by
  have fp : fFin p = true := (fK_rungs p).2.2.2 (by unfold fR; omega)
  have fq : fFin q = true := (fK_rungs q).2.2.2 (by unfold fR; omega)
  have ep := fZ_pos p (by omega)
  have eq := fZ_pos q (by omega)
  have lp := fZ_Lvl p fp
  have lq := fZ_Lvl q fq
  obtain ⟨d1, d2⟩ := fZ_level p (by omega) fp
  obtain ⟨d3, d4⟩ := fZ_level q (by omega) fq
  have hs : fZ p + fZ q = ((rv p + rv q : Nat) : Int) := by rw [ep, eq, Int.natCast_add]
  have ls : Lvl (-1074) 2099 (fZ p + fZ q) := by
    have b1 := fZ_lt p fp
    have b2 := fZ_lt q fq
    refine ⟨?_, by decide, by decide, by decide⟩
    have h3 := p2099
    generalize (2 : Nat) ^ 2099 = P at *
    generalize (2 : Nat) ^ 2098 = Q at *
    omega
  have hz : fZ p + fZ q ≠ 0 := by rw [hs]; omega
  rw [← hs]
  refine half_ways p q (fD p) (fX p) (fD q) (fX q) (oM (fZ p + fZ q)) (oE (fZ p + fZ q) (-1074)) _ _ w (fun w' => rvalue_any p w' (by omega)) (fun w' => rvalue_any q w' (by omega)) (fun w' v u hv hu => ?_) (fun w' v hv => ?_)
  · exact raddN (by rw [d1, d2]; exact hv) (by rw [d3, d4]; exact hu) lp lq
  · exact rhalfN hv ls hz

theorem sq_lt_of {z P Q : Nat} (h : z < P) (e : P * P = Q) : z * z < Q := by
  subst e
  exact sq_lt h
theorem abs_pow (x : Int) (k : Nat) : (x * 2 ^ k).natAbs = x.natAbs * 2 ^ k := by
  rw [Int.natAbs_mul, Int.natAbs_pow]
  rfl
theorem mul_lt_of {x P Q S : Nat} (h : x < P) (hq : 0 < Q) (hR : P * Q ≤ S) : x * Q < S := Nat.lt_of_lt_of_le ((Nat.mul_lt_mul_right hq).2 h) hR
theorem cast_mul_pow (y k : Nat) : (y : Int) * 2 ^ k = ((y * 2 ^ k : Nat) : Int) := by rw [Int.natCast_mul, Int.natCast_pow]; rfl
theorem cast_pow2 (x : Int) (k : Nat) : x * ((2 ^ k : Nat) : Int) = x * 2 ^ k := by rw [Int.natCast_pow]; rfl
/-- Such a half, squared, against a number's value. -/
theorem sq_cmp (a z c k : Nat) (hf : fFin a = true) (h0 : z ≠ 0) (hc : z = c * 2 ^ k) (hc2 : c < 18014398509481984) (hz : z < 2 ^ 2099) :
    (∀ w v, IsDy w v (oM (z : Int)) (oE (z : Int) (-1075)) → Calls Tryd.prog 27 #[v, v] w fun r w' => ∃ q, r = .returned q ∧ IsDy w' q (oM ((z : Int) * z)) (oE ((z : Int) * z) (-1075 + -1075)) ∧ Below w.heap.size w w') ∧
    (∀ w v u, IsDy w v (oM ((z : Int) * z)) (oE ((z : Int) * z) (-1075 + -1075)) → IsDy w u (oM (fZ a)) (oE (fZ a) (-1074)) → Calls Tryd.prog 26 #[v, u] w fun r w' => r = .returned (.int .i64 (cmpI ((z : Int) * z) (fZ a * 2 ^ 1076))) ∧ Below w.heap.size w w') := by
  have HZ := hide hz
  clear hz
  have hz0 : (z : Int) ≠ 0 := by omega
  have ho := odd_pair z c k hc
  have hp0 : 0 < (z : Int).natAbs := by omega
  have ht : tz (z : Int).natAbs < 2099 := tz_lt _ 2099 hp0 (unhide HZ)
  have hE : oE (z : Int) (-1075) = -1075 + (tz (z : Int).natAbs : Int) := oE_ne _ _ hz0
  obtain ⟨m1, m2⟩ := mul_level7 (z : Int) (z : Int) (-1075) (-1075) hz0 hz0 (oE_ge _ _ hz0) (oE_ge _ _ hz0)
  refine ⟨fun w v hv => ?_, fun w v u hv hu => ?_⟩
  · rw [m1, m2]
    exact rmul7 hv hv (by omega) (by omega) (by omega) (by omega)
  · have s := oM_scale (fZ a) 1076 (-1075 + -1075)
    rw [show (-1075 : Int) + -1075 + (1076 : Nat) = -1074 by decide] at s
    rw [← s.1, ← s.2] at hu
    have l1 : Lvl (-1075 + -1075) 4198 ((z : Int) * z) := by
      refine ⟨?_, by decide, by decide, by decide⟩
      rw [Int.natAbs_mul, Int.natAbs_natCast]
      exact sq_lt_of (unhide HZ) p4198
    have l2 : Lvl (-1075 + -1075) 4198 (fZ a * 2 ^ 1076) := by
      refine ⟨?_, by decide, by decide, by decide⟩
      have b := fZ_lt a hf
      rw [abs_pow]
      exact mul_lt_of b (Nat.two_pow_pos 1076) p3174
    exact rcmpN hv hu l1 l2

/-- The numbers' sums lie where they must. -/
theorem cmp_between (z y p q P : Nat) (x : Int) (hx : x = (y : Int)) (hP : P = 4 * p) (hq : x * (P : Int) = (q : Int)) :
    (z * z ≤ 4 * (y * p) → cmpI ((z : Int) * z) (q : Int) = -1 ∨ cmpI ((z : Int) * z) (q : Int) = 0) ∧ (4 * (y * p) ≤ z * z → cmpI ((z : Int) * z) (q : Int) = 0 ∨ cmpI ((z : Int) * z) (q : Int) = 1) := by
  have e : q = 4 * (y * p) := by
    have h : (q : Int) = ((y * (4 * p) : Nat) : Int) := by rw [← hq, hx, hP]; exact (Int.natCast_mul y (4 * p)).symm
    have h2 : q = y * (4 * p) := by omega
    rw [h2]; ac_rfl
  have e2 : (z : Int) * z = ((z * z : Nat) : Int) := by rw [Int.natCast_mul]
  rw [e2, e, cmpI_nat]
  refine ⟨fun h => ?_, fun h => ?_⟩
  · split
    · exact .inl rfl
    · rw [if_pos (by omega)]; exact .inr rfl
  · rw [if_neg (by omega)]
    split
    · exact .inl rfl
    · exact .inr rfl

theorem tV_parts (a : Nat) (hf : fFin a = true) (h0 : fK a ≠ 0) : fFin (tV a) = true ∧ fK (tV a) = 2 ∧ fS (tV a) = false := by
  obtain ⟨r1, r2⟩ := tV_range a hf h0
  generalize tV a = r at *
  have hP : fP r = r / 4503599627370496 := by unfold fP; omega
  refine ⟨?_, ?_, ?_⟩
  · unfold fFin; rw [hP]; exact decide_eq_true (by omega)
  · unfold fK; rw [hP, if_neg (by omega), if_neg (by omega)]
  · exact decide_eq_false (by omega)

/-- The sum of a root and the next number, below 2^1600 in units of the least one. -/
theorem rv_sum_lt (p q : Nat) (hp : p < 9218868437227405312) (hq : q < 9218868437227405312) : rv p + rv q < 2 ^ 2099 := by
  have fp : fFin p = true := (fK_rungs p).2.2.2 (by unfold fR; omega)
  have fq : fFin q = true := (fK_rungs q).2.2.2 (by unfold fR; omega)
  have b1 := fZ_lt p fp
  have b2 := fZ_lt q fq
  rw [fZ_pos p (by omega)] at b1
  rw [fZ_pos q (by omega)] at b2
  have h3 := p2099
  generalize (2 : Nat) ^ 2099 = P at *
  generalize (2 : Nat) ^ 2098 = Q at *
  omega

theorem rootBetween_walk (a : Nat) (w : World) (ha : a < 18446744073709551616) (hT : Tab w) :
    Calls Tryd.prog 8 #[.int .u64 a] w fun e w' => e = .returned (.bool true) ∧ Below w.heap.size w w' := by
  have C1 := fun w' => rfinite_any a w' ha
  have C2 := fun w' => rneg4_any a w' ha
  have C3 := fun w' => rkind_any a w' ha
  cases hf : fFin a with
  | false => rw [hf] at C1; exact rootBetween_n a w hT C1
  | true =>
    rw [hf] at C1
    cases hs : fS a with
    | true => rw [hs] at C2; exact rootBetween_m a w hT C1 C2
    | false =>
      rw [hs] at C2
      by_cases h0 : fK a = 0
      · rw [h0] at C3; exact rootBetween_z a w hT C1 C2 C3
      · have k3 := fin_kind hf
        have hsV : sV a = tV a := by
          have hI : a ≠ 9218868437227405312 := fun e => by rw [e] at hf; revert hf; decide
          unfold sV
          rw [if_neg k3.2, if_neg (by rintro (h | h); exact h0 h; exact hI h), if_neg (by rw [hs]; decide)]
        have C4 : ∀ w', Tab w' → _ := fun w' t => rsqrt_any a w' ha t
        rw [hsV] at C4
        obtain ⟨t1, t2, t3⟩ := tV_parts a hf h0
        obtain ⟨r1, r2⟩ := tV_range a hf h0
        obtain ⟨q1, q2⟩ := between7 a hf h0
        obtain ⟨d1, d2⟩ := fZ_level a ha hf
        have hx : fZ a = (rv (fR a) : Int) := by unfold fZ pv; rw [hs]; rfl
        generalize tV a = r at *
        have C5 := fun w' => rfinite_any r w' (by omega)
        have C6 := fun w' => rkind_any r w' (by omega)
        have C7 := fun w' => rneg4_any r w' (by omega)
        rw [t1] at C5
        rw [t2] at C6
        rw [t3] at C7
        obtain ⟨c, k, e1, e2, e3⟩ := pair7 (r - 1) (by omega)
        rw [show r - 1 + 1 = r by omega, Nat.add_comm] at e1
        obtain ⟨c', k', e1', e2', e3'⟩ := pair7 r (by omega)
        have z1 : rv r + rv (r - 1) ≠ 0 := by have := rv_succ (r - 1); rw [show r - 1 + 1 = r by omega] at this; omega
        have z2 : rv r + rv (r + 1) ≠ 0 := by have := rv_succ r; omega
        obtain ⟨m1, m2⟩ := sq_cmp a (rv r + rv (r - 1)) c k hf z1 e1 e3 (rv_sum_lt _ _ (by omega) (by omega))
        obtain ⟨m3, m4⟩ := sq_cmp a (rv r + rv (r + 1)) c' k' hf z2 e1' e3' (rv_sum_lt _ _ (by omega) (by omega))
        have C9 := fun w' => half7_any r (r - 1) w' (by omega) (by omega) z1
        have C10 := fun w' => half7_any r (r + 1) w' (by omega) (by omega) z2
        rw [show ((r - 1 : Nat) : Int) = (r : Int) - 1 by omega] at C9
        rw [show ((r + 1 : Nat) : Int) = (r : Int) + 1 by omega] at C10
        obtain ⟨Q, hQ⟩ : ∃ Q : Nat, fZ a * 2 ^ 1076 = (Q : Int) := ⟨rv (fR a) * 2 ^ 1076, by rw [hx]; exact cast_mul_pow (rv (fR a)) 1076⟩
        rw [hQ] at m2 m4
        have hQ2 : fZ a * ((2 ^ 1076 : Nat) : Int) = (Q : Int) := (cast_pow2 (fZ a) 1076).trans hQ
        have g1 := (cmp_between (rv r + rv (r - 1)) (rv (fR a)) (2 ^ 1074) Q (2 ^ 1076) (fZ a) hx p1076 hQ2).1 q1
        have g2 := (cmp_between (rv r + rv (r + 1)) (rv (fR a)) (2 ^ 1074) Q (2 ^ 1076) (fZ a) hx p1076 hQ2).2 q2
        have C8 := fun w' => rvalue_any a w' ha
        rw [← d1, ← d2] at C8
        exact rootBetween_in a r _ _ _ _ _ _ _ _ _ _ _ _ _ _ w hT (by simp [h0]) (by omega) (by omega) g1 g2 C1 C2 C3 C4 C5 C6 C7 C8 C9 C10 m1 m3 m2 m4

end Go.Proofs.YtgegjhkiiejhlaaDoor

