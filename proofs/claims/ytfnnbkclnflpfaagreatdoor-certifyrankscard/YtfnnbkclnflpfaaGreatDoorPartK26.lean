/- Part 26 of the texts. -/
import Derived.Test.YtfnnbkclnflpfaaGreatDoorPartK25
import Derived.Test.YtfnnbkclnflpfaaGreatDoorPartK18
import Derived.Test.YtfnnbkclnflpfaaGreatDoorPartK20
/- Package certify: turned, less, times by letters. -/
namespace Go.Proofs.YtfnnbkclnflpfaaGreatDoor
open Go.RowKit
attribute [local go_sem ↓] Go.wp_at_zero Go.wp_at_succ
/-- Behind less's region: the difference in its box, the answer's box. -/
def LsSt (w : World) (n5 : Bool) (a5 : Option Addr) (l5 c5 : Nat) (X5 lo z : Int) (g : Nat) (W : World) : Prop :=
  Below w.heap.size w W ∧ Box3 W w.heap.size (.bool false) (.slice none 0 0) (.int .i64 0) ∧ Box3 W g (.bool n5) (.slice a5 l5 c5) (.int .i64 X5) ∧ IsLv W (.agg #[.bool n5, .slice a5 l5 c5, .int .i64 X5]) lo z ∧ w.heap.size < g

set_option maxRecDepth 20000 in
set_option maxHeartbeats 8000000 in
theorem less1_of (r c na ca ba s d nb cb bb i k : Nat) (ao bo : Option Addr) (lo za zb z : Int) (w : World)
    (xa : BoxT 61 w ba (.int .i64 r) (.int .i64 c) (.slice ao na ca)) (xb : BoxT 61 w bb (.int .i64 s) (.int .i64 d) (.slice bo nb cb))
    (CA : ∀ w', Below w.heap.size w w' → Calls Tryz.prog 86 #[.agg #[.int .i64 r, .int .i64 c, .slice ao na ca], .int .i64 i, .int .i64 k] w' fun e w'' => ∃ v, e = .returned v ∧ IsLv w'' v lo za ∧ Below w'.heap.size w' w'')
    (CB : ∀ w', Below w.heap.size w w' → Calls Tryz.prog 86 #[.agg #[.int .i64 s, .int .i64 d, .slice bo nb cb], .int .i64 i, .int .i64 k] w' fun e w'' => ∃ v, e = .returned v ∧ IsLv w'' v lo zb ∧ Below w'.heap.size w' w'')
    (CS : ∀ w' v u, Below w.heap.size w w' → IsLv w' v lo za → IsLv w' u lo zb → Calls Tryz.prog 85 #[v, u] w' fun e w'' => ∃ q, e = .returned (.tuple #[q, .int .i64 0]) ∧ IsLv w'' q lo z ∧ Below w'.heap.size w' w'') :
    Calls Tryz.prog 84 #[.int .i64 i, .int .i64 k, .pointer (some ⟨ba, 0, none⟩), .pointer (some ⟨bb, 0, none⟩)] w fun e w' => ∃ v, e = .returned v ∧ IsLv w' v lo z ∧ Below w.heap.size w w' := by
  have b0 := below_alloc9 w (.cells #[.bool false, .slice none 0 0, .int .i64 0] 29)
  have x0 := Box3.new w (.bool false) (.slice none 0 0) (.int .i64 0)
  have ya := xa.all b0; have yb := xb.all b0
  have YA := hide ya; have YB := hide yb; have X0 := hide x0; have B0 := hide b0
  have K1 := hide CA; have K2 := hide CB; have K3 := hide CS
  clear b0 x0 ya yb xa xb CA CB CS
  go_enter Tryz.func84, Tryz.ntmps84
  go_wp2_with fail
  refine at_world (fun W => Below w.heap.size w W ∧ Box3 W w.heap.size (.bool false) (.slice none 0 0) (.int .i64 0) ∧ BoxT 61 W ba (.int .i64 r) (.int .i64 c) (.slice ao na ca) ∧ BoxT 61 W bb (.int .i64 s) (.int .i64 d) (.slice bo nb cb)) ⟨unhide B0, unhide X0, unhide YA, unhide YB⟩ ?_
  clear B0 X0 YA YB
  rintro W0 ⟨b0, x0, ya, yb⟩
  have HK := hide (fun w' (h : Below W0.heap.size W0 w') => (show Below W0.heap.size W0 w' ∧ w'.cell? ⟨ba, 0, none⟩ = some (.int .i64 r) ∧ w'.cell? ⟨ba, 1, none⟩ = some (.int .i64 c) ∧ w'.cell? ⟨ba, 2, none⟩ = some (.slice ao na ca) ∧ w'.cell? ⟨bb, 0, none⟩ = some (.int .i64 s) ∧ w'.cell? ⟨bb, 1, none⟩ = some (.int .i64 d) ∧ w'.cell? ⟨bb, 2, none⟩ = some (.slice bo nb cb) from
    ⟨h, (ya.all h).c0, (ya.all h).c1, (ya.all h).c2, (yb.all h).c0, (yb.all h).c1, (yb.all h).c2⟩))
  have C1 := hide (fun w' (h : Below W0.heap.size W0 w') => unhide K1 w' (b0.trans (h.mono b0.size)))
  have C2 := hide (fun w' (h : Below W0.heap.size W0 w') => unhide K2 w' (b0.trans (h.mono b0.size)))
  have C3 := hide (fun w' v u (h : Below W0.heap.size W0 w') => unhide K3 w' v u (b0.trans (h.mono b0.size)))
  have HT := hide (fun (W : World) (g : Nat) {n5 : Bool} {a5 : Option Addr} {l5 c5 : Nat} {X5 : Int} (h1 : Below W0.heap.size W0 W) (h3 : Box3 W g (.bool n5) (.slice a5 l5 c5) (.int .i64 X5)) (h4 : IsLv W (.agg #[.bool n5, .slice a5 l5 c5, .int .i64 X5]) lo z) (h5 : W0.heap.size ≤ g) =>
    (show LsSt w n5 a5 l5 c5 X5 lo z g W from ⟨b0.trans (h1.mono b0.size), x0.all h1, h3, h4, Nat.lt_of_lt_of_le x0.lt h5⟩))
  have HKA := hide (fun wn o (h1 : Below W0.heap.size W0 wn) => unhide HK (wn.alloc o) (h1.alloc h1.size o))
  have HKS := hide (fun wn g u u' u'' (h1 : Below W0.heap.size W0 wn) (h4 : W0.heap.size ≤ g) => unhide HK (((wn.setCell ⟨g, 0, none⟩ u).setCell ⟨g, 1, none⟩ u').setCell ⟨g, 2, none⟩ u'') (below_put3 h1 h4 u u' u''))
  have BXA := hide (fun wn (h1 : Below (W0.drew.alloc (.cells #[.bool false, .slice none 0 0, .int .i64 0] 29)).heap.size (W0.drew.alloc (.cells #[.bool false, .slice none 0 0, .int .i64 0] 29)) wn) => (Box3.new W0.drew (.bool false) (.slice none 0 0) (.int .i64 0)).below h1 (by simp))
  have BXB := hide (fun wn wm (h2 : Below (wn.alloc (.cells #[.bool false, .slice none 0 0, .int .i64 0] 29)).heap.size (wn.alloc (.cells #[.bool false, .slice none 0 0, .int .i64 0] 29)) wm) => (Box3.new wn (.bool false) (.slice none 0 0) (.int .i64 0)).below h2 (by simp))
  clear b0 x0 ya yb K1 K2 K3
  go_region_held3 (fun w' => Below W0.heap.size W0 w' ∧ w'.cell? ⟨ba, 0, none⟩ = some (.int .i64 r) ∧ w'.cell? ⟨ba, 1, none⟩ = some (.int .i64 c) ∧ w'.cell? ⟨ba, 2, none⟩ = some (.slice ao na ca) ∧ w'.cell? ⟨bb, 0, none⟩ = some (.int .i64 s) ∧ w'.cell? ⟨bb, 1, none⟩ = some (.int .i64 d) ∧ w'.cell? ⟨bb, 2, none⟩ = some (.slice bo nb cb))
    (first | assumption | exact unhide HK _ (Below.refl _ _).drew | exact unhide HK _ (by assumption) | exact unhide HKA _ _ (by assumption) | exact unhide HKA _ _ (And.left (by assumption)) | exact unhide HKS _ _ _ _ _ hBwm (by first | exact Nat.le_refl _ | exact Below.size (by assumption)) | fail "KK")
    (first
      | (go_at_call_of 86 ao; refine (unhide C1 _ (And.left (by assumption))).mono ?_; rintro e wa ⟨va, rfl, qa, hb1⟩; have hBwa : Below W0.heap.size W0 wa := Below.trans (And.left (by assumption)) (hb1.mono (Below.size (And.left (by assumption)))); (first | (have xb := Box3.below xb hb1 xb.lt) | (have xb : Box3 wa W0.heap.size (.bool false) (.slice none 0 0) (.int .i64 0) := unhide BXA _ hb1) | (have xb := unhide BXB _ _ hb1) | skip); (first | (replace QB := hide ((unhide QB).below hb1)) | (replace QB := hide (((unhide QB).below (below_alloc9 _ _)).below hb1)) | skip); have QA := hide qa; clear qa hb1)
      | (go_at_call_of 86 bo; refine (unhide C2 _ (And.left (by assumption))).mono ?_; rintro e wd ⟨vd, rfl, qb, hb1⟩; have hBwd : Below W0.heap.size W0 wd := Below.trans (And.left (by assumption)) (hb1.mono (Below.size (And.left (by assumption)))); (first | (have xb := Box3.below xb hb1 xb.lt) | (have xb : Box3 wd W0.heap.size (.bool false) (.slice none 0 0) (.int .i64 0) := unhide BXA _ hb1) | (have xb := unhide BXB _ _ hb1) | skip); (first | (replace QA := hide ((unhide QA).below hb1)) | (replace QA := hide (((unhide QA).below (below_alloc9 _ _)).below hb1)) | skip); have QB := hide qb; clear qb hb1)
      | (go_at_call 85; refine (unhide C3 _ _ _ (And.left (by assumption)) (by first | exact unhide QA | exact (unhide QA).below (below_alloc9 _ _)) (by first | exact unhide QB | exact (unhide QB).below (below_alloc9 _ _))).mono ?_; rintro e wm ⟨q, rfl, ⟨n5, a5, c5, L5, rfl, i5⟩, hb1⟩; have hBwm : Below W0.heap.size W0 wm := Below.trans (And.left (by assumption)) (hb1.mono (Below.size (And.left (by assumption)))); (first | (have xb := Box3.below xb hb1 xb.lt) | (have xb : Box3 wm W0.heap.size (.bool false) (.slice none 0 0) (.int .i64 0) := unhide BXA _ hb1) | (have xb := unhide BXB _ _ hb1) | skip); have IP := hide (show IsLv wm (.agg #[.bool n5, .slice a5 L5.length c5, .int .i64 (oE z lo)]) lo z from ⟨n5, a5, c5, L5, rfl, i5⟩); (first | (have y0 := xb.c0; have y1 := xb.c1; have y2 := xb.c2; have f0 := xb.free 0; have f1 := xb.free 1; have f2 := xb.free 2) | skip); clear i5 hb1)
      | fail "NO ARM")
  all_goals
    first
      | (refine at_thenB (LsSt _ _ _ _ _ _ _ _ W0.heap.size) (unhide HT _ _ (And.left (by assumption)) (xb.put _ _ _) (IsDy.put3 (unhide IP) xb _ _ _) (by first | exact Nat.le_refl _ | exact Below.size (by assumption))) ?_; rintro W1 ⟨b5, x5, xg, ig, hg⟩; generalize W0.heap.size = g at *)
      | (refine at_thenB (LsSt _ _ _ _ _ _ _ _ wa.heap.size) (unhide HT _ _ (And.left (by assumption)) (xb.put _ _ _) (IsDy.put3 (unhide IP) xb _ _ _) (by first | exact Nat.le_refl _ | exact Below.size (by assumption))) ?_; rintro W1 ⟨b5, x5, xg, ig, hg⟩; generalize wa.heap.size = g at *)
      | (refine at_thenB (LsSt _ _ _ _ _ _ _ _ wd.heap.size) (unhide HT _ _ (And.left (by assumption)) (xb.put _ _ _) (IsDy.put3 (unhide IP) xb _ _ _) (by first | exact Nat.le_refl _ | exact Below.size (by assumption))) ?_; rintro W1 ⟨b5, x5, xg, ig, hg⟩; generalize wd.heap.size = g at *)
      | (refine at_thenB (LsSt _ _ _ _ _ _ _ _ wm.heap.size) (unhide HT _ _ (And.left (by assumption)) (Box3.new _ _ _ _) ((unhide IP).below (below_alloc9 _ _)) (Below.size (by assumption))) ?_; rintro W1 ⟨b5, x5, xg, ig, hg⟩; generalize wm.heap.size = g at *)
      | fail "NO WAY"
  all_goals
    try clear y0 y1 y2 f0 f1 f2
    try clear xb
    clear HT HK HKA HKS BXA BXB C1 C2 C3 IP QA QB hBwa hBwd hBwm
    generalize L5.length = l5 at *
    generalize oE z lo = X5 at *
    have g0 := xg.c0; have g1 := xg.c1; have g2 := xg.c2
    have y0 := x5.c0; have y1 := x5.c1; have y2 := x5.c2; have f0 := x5.free 0; have f1 := x5.free 1; have f2 := x5.free 2
    have xp := x5.put (.bool n5) (.slice a5 l5 c5) (.int .i64 X5)
    have z0 := xp.c0; have z1 := xp.c1; have z2 := xp.c2
    have HV := hide (IsDy.put3 ig x5 (.bool n5) (.slice a5 l5 c5) (.int .i64 X5))
    have HB := hide (below_put3 b5 (Nat.le_refl _) (.bool n5) (.slice a5 l5 c5) (.int .i64 X5))
    clear b5 x5 xg ig xp
    go_wp2
    exact bodyPost_ret (v := .agg #[.bool n5, .slice a5 l5 c5, .int .i64 X5]) (by simp [results, Tryz.results84, go_sem, z0, z1, z2]) rfl ⟨_, rfl, unhide HV, unhide HB⟩

end Go.Proofs.YtfnnbkclnflpfaaGreatDoor

/- Package certify: times. -/
namespace Go.Proofs.YtfnnbkclnflpfaaGreatDoor
open Go.RowKit
attribute [local go_sem ↓] Go.wp_at_zero Go.wp_at_succ

/-- What holds in times's closure: the answer's box, the sum. -/
def TmSt (w wr : World) (g : Nat) (lo s : Int) : Prop :=
  Box3 wr w.heap.size (.bool false) (.slice none 0 0) (.int .i64 0) ∧ Kept wr g lo s ∧ Below w.heap.size w wr ∧ w.heap.size < g
theorem TmSt.all {w wr w' : World} {g : Nat} {lo s : Int} (h : TmSt w wr g lo s) (hb : Below wr.heap.size wr w') : TmSt w w' g lo s :=
  ⟨h.1.all hb, h.2.1.all hb, h.2.2.1.trans (hb.mono h.2.2.1.size), h.2.2.2⟩
theorem TmSt.add {w wr w' : World} {g : Nat} {lo s t : Int} (h : TmSt w wr g lo s) (hk : Kept w' g lo t) (hb : Below g wr w') : TmSt w w' g lo t := by
  have hg := h.2.2.2
  exact ⟨h.1.below hb (by omega), hk, h.2.2.1.trans (hb.mono (by omega)), hg⟩
theorem TmSt.start (w : World) (lo : Int) (g : Nat) (hg : g = (w.alloc (.cells #[.bool false, .slice none 0 0, .int .i64 0] 29)).heap.size) : TmSt w ((w.alloc (.cells #[.bool false, .slice none 0 0, .int .i64 0] 29)).alloc (.cells #[.bool false, .slice none 0 0, .int .i64 0] 29)) g lo 0 := by
  have b1 := below_alloc9 w (.cells #[.bool false, .slice none 0 0, .int .i64 0] 29)
  have s1 := size_alloc9 w (.cells #[.bool false, .slice none 0 0, .int .i64 0] 29)
  have x1 := Box3.new w (.bool false) (.slice none 0 0) (.int .i64 0)
  generalize w.alloc (.cells #[.bool false, .slice none 0 0, .int .i64 0] 29) = w1 at *
  have b2 := below_alloc9 w1 (.cells #[.bool false, .slice none 0 0, .int .i64 0] 29)
  have k2 := Kept.new w1 lo
  rw [← hg] at k2
  exact ⟨x1.all b2, k2, b1.trans (b2.mono b1.size), by omega⟩

set_option maxRecDepth 20000 in
set_option maxHeartbeats 8000000 in
theorem gtimes1_of (r n na ca ba s d nb cb bb i k : Nat) (ao bo : Option Addr) (lo1 lo2 lo : Int) (fa fb sm : Nat → Int) (w : World) (hn : n ≤ 6) (h0 : sm 0 = 0)
    (xa : BoxT 61 w ba (.int .i64 r) (.int .i64 n) (.slice ao na ca)) (xb : BoxT 61 w bb (.int .i64 s) (.int .i64 d) (.slice bo nb cb))
    (CA : ∀ w' j, Below w.heap.size w w' → j < n → Calls Tryz.prog 86 #[.agg #[.int .i64 r, .int .i64 n, .slice ao na ca], .int .i64 i, .int .i64 (j : Nat)] w' fun e w'' => ∃ v, e = .returned v ∧ IsLv w'' v lo1 (fa j) ∧ Below w'.heap.size w' w'')
    (CB : ∀ w' j, Below w.heap.size w w' → j < n → Calls Tryz.prog 86 #[.agg #[.int .i64 s, .int .i64 d, .slice bo nb cb], .int .i64 (j : Nat), .int .i64 k] w' fun e w'' => ∃ v, e = .returned v ∧ IsLv w'' v lo2 (fb j) ∧ Below w'.heap.size w' w'')
    (CC : ∀ w' g j v u, Below w.heap.size w w' → j < n → Kept w' g lo (sm j) → IsLv w' v lo1 (fa j) → IsLv w' u lo2 (fb j) → Calls Tryz.prog 123 #[v, u, .pointer (some ⟨g, 0, none⟩)] w' fun e w'' => e = .returned (.tuple #[]) ∧ Kept w'' g lo (sm (j + 1)) ∧ Below g w' w'') :
    Calls Tryz.prog 87 #[.int .i64 i, .int .i64 k, .pointer (some ⟨ba, 0, none⟩), .pointer (some ⟨bb, 0, none⟩)] w fun e w' => ∃ v, e = .returned v ∧ IsLv w' v lo (sm n) ∧ Below w.heap.size w w' := by
  have K1 := hide CA; have K2 := hide CB; have K3 := hide CC
  have KG := hide (gathering_any (w.alloc (.cells #[.bool false, .slice none 0 0, .int .i64 0] 29)))
  obtain ⟨g, hg⟩ : ∃ g, g = (w.alloc (.cells #[.bool false, .slice none 0 0, .int .i64 0] 29)).heap.size := ⟨_, rfl⟩
  have ST := hide (show TmSt w _ g lo (sm 0) from by rw [h0]; exact TmSt.start w lo g hg)
  rw [← hg] at KG
  have XA := hide xa; have XB := hide xb
  clear CA CB CC h0 hg xa xb
  go_enter Tryz.func87, Tryz.ntmps87
  go_wp2_with fail
  refine Calls.mono (unhide KG) ?_
  rintro e w1 ⟨rfl, rfl⟩
  clear KG
  have y2 := ((unhide XA).all (unhide ST).2.2.1).c1
  go_wp2_with fail
  clear y2
  go_loopw [16] (fun i wr => ∃ j : Nat, j ≤ n ∧ i = .int .i64 j ∧ Hid (TmSt w wr g lo (sm j))) (fun i _ => n - (intOf i).toNat)
  case atStart => exact ⟨0, Nat.zero_le _, rfl, ST⟩
  case round =>
    clear ST
    obtain ⟨j, hj, rfl, hS⟩ := hrel
    by_cases hlt : j < n
    · have hkI : (j : Int) < (n : Int) := by omega
      have C1 := hide (fun w' h => unhide K1 w' j h hlt)
      have C2 := hide (fun w' h => unhide K2 w' j h hlt)
      have C3 := hide (fun w' v u h1 => unhide K3 w' g j v u h1 hlt)
      have gt := (unhide hS).2.2.2
      have la := (unhide XA).lt
      have lb := (unhide XB).lt
      have HGA := hide (show ba < g by omega); have HGB := hide (show bb < g by omega)
      clear gt la lb
      go_wp2_with fail
      refine at_world (fun W => TmSt w W g lo (sm j)) (unhide hS) ?_
      clear hS
      rintro W0 hS
      have D0 := (Below.refl W0.heap.size W0).drew
      have HS := hide (hS.all D0)
      have HK := hide (fun w' (hb : Below g W0 w') => (show Below g W0 w' ∧ w'.cell? ⟨ba, 0, none⟩ = some (.int .i64 r) ∧ w'.cell? ⟨ba, 1, none⟩ = some (.int .i64 n) ∧ w'.cell? ⟨ba, 2, none⟩ = some (.slice ao na ca) ∧ w'.cell? ⟨bb, 0, none⟩ = some (.int .i64 s) ∧ w'.cell? ⟨bb, 1, none⟩ = some (.int .i64 d) ∧ w'.cell? ⟨bb, 2, none⟩ = some (.slice bo nb cb) from
        ⟨hb, (((unhide XA).all hS.2.2.1).below hb (unhide HGA)).c0, (((unhide XA).all hS.2.2.1).below hb (unhide HGA)).c1, (((unhide XA).all hS.2.2.1).below hb (unhide HGA)).c2, (((unhide XB).all hS.2.2.1).below hb (unhide HGB)).c0, (((unhide XB).all hS.2.2.1).below hb (unhide HGB)).c1, (((unhide XB).all hS.2.2.1).below hb (unhide HGB)).c2⟩))
      clear hS D0
      go_region_held3 (fun w' => Below g W0 w' ∧ w'.cell? ⟨ba, 0, none⟩ = some (.int .i64 r) ∧ w'.cell? ⟨ba, 1, none⟩ = some (.int .i64 n) ∧ w'.cell? ⟨ba, 2, none⟩ = some (.slice ao na ca) ∧ w'.cell? ⟨bb, 0, none⟩ = some (.int .i64 s) ∧ w'.cell? ⟨bb, 1, none⟩ = some (.int .i64 d) ∧ w'.cell? ⟨bb, 2, none⟩ = some (.slice bo nb cb))
        (first | exact unhide HK _ (Below.refl _ _).drew | exact unhide HK _ (by assumption) | fail "KK")
        (first
          | (go_at_call_of 86 ao; refine (unhide C1 _ (unhide HS).2.2.1).mono ?_; rintro e wa ⟨va, rfl, qa, hb1⟩; have hBwa : Below g W0 wa := Below.trans (And.left (by assumption)) (hb1.mono (Nat.le_of_lt (unhide HS).2.1.lt)); (first | (replace QB := hide ((unhide QB).below hb1)) | skip); replace HS := hide ((unhide HS).all hb1); have QA := hide qa; clear qa hb1)
          | (go_at_call_of 86 bo; refine (unhide C2 _ (unhide HS).2.2.1).mono ?_; rintro e wd ⟨vd, rfl, qb, hb1⟩; have hBwd : Below g W0 wd := Below.trans (And.left (by assumption)) (hb1.mono (Nat.le_of_lt (unhide HS).2.1.lt)); (first | (replace QA := hide ((unhide QA).below hb1)) | skip); replace HS := hide ((unhide HS).all hb1); have QB := hide qb; clear qb hb1)
          | (go_at_call 123; refine (unhide C3 _ _ _ (unhide HS).2.2.1 (unhide HS).2.1 (unhide QA) (unhide QB)).mono ?_; rintro e w4 ⟨rfl, hk4, hb4⟩; have hB4 : Below g W0 w4 := Below.trans (And.left (by assumption)) hb4; have HS4 := hide ((unhide HS).add hk4 hb4); clear hk4 hb4 HS)
          | fail "NO ARM")
      all_goals
        go_wp2_with fail
        go_round
        case rel => exact ⟨j + 1, by omega, by go_num, HS4⟩
        case measure => simp [intOf]; omega
    · have hkk : j = n := by omega
      subst hkk
      have KT := hide (fun w' (hw : TmSt w w' g lo (sm j)) => gtold_any g lo (sm j) w' hw.2.1)
      go_wp2_with fail
      refine (unhide KT _ (unhide hS)).mono ?_
      rintro e w2 ⟨v, rfl, ⟨n5, a5, c5, L5, rfl, i5⟩, hb2⟩
      have hq : IsLv w2 (.agg #[.bool n5, .slice a5 L5.length c5, .int .i64 (oE (sm j) lo)]) lo (sm j) := ⟨n5, a5, c5, L5, rfl, i5⟩
      generalize L5.length = l5 at *
      generalize oE (sm j) lo = X5 at *
      have st := (unhide hS).all hb2
      have y0 := st.1.c0; have y1 := st.1.c1; have y2 := st.1.c2; have f0 := st.1.free 0; have f1 := st.1.free 1; have f2 := st.1.free 2
      have xp := st.1.put (.bool n5) (.slice a5 l5 c5) (.int .i64 X5)
      have z0 := xp.c0; have z1 := xp.c1; have z2 := xp.c2
      have QP := hide (IsDy.put3 hq st.1 (.bool n5) (.slice a5 l5 c5) (.int .i64 X5))
      have BP := hide (below_put3 st.2.2.1 (Nat.le_refl _) (.bool n5) (.slice a5 l5 c5) (.int .i64 X5))
      clear hq i5 st xp hb2 hS KT
      go_wp2
      exact bodyPost_ret (v := .agg #[.bool n5, .slice a5 l5 c5, .int .i64 X5]) (by simp [results, Tryz.results87, go_sem, z0, z1, z2]) rfl ⟨_, rfl, unhide QP, unhide BP⟩

end Go.Proofs.YtfnnbkclnflpfaaGreatDoor

/- Package certify: turned, less, times of grids. -/
namespace Go.Proofs.YtfnnbkclnflpfaaGreatDoor
open Go.RowKit
attribute [local go_sem ↓] Go.wp_at_zero Go.wp_at_succ

/-- Two grids' boxes and the answer's. -/
theorem boxesG (w : World) (r c na ca s d nb cb : Nat) (ao bo : Option Addr) : ∃ w2, ((w.alloc (.cells #[.int .i64 r, .int .i64 c, .slice ao na ca] 61)).alloc (.cells #[.int .i64 s, .int .i64 d, .slice bo nb cb] 61)).alloc (.cells #[.int .i64 0, .int .i64 0, .slice none 0 0] 61) = w2 ∧ BoxT 61 w2 w.heap.size (.int .i64 r) (.int .i64 c) (.slice ao na ca) ∧ BoxT 61 w2 (w.heap.size + 1) (.int .i64 s) (.int .i64 d) (.slice bo nb cb) ∧ BoxT 61 w2 (w.heap.size + 1 + 1) (.int .i64 0) (.int .i64 0) (.slice none 0 0) ∧ Below w.heap.size w w2 := by
  refine ⟨_, rfl, ?_⟩
  have b0 := below_alloc9 w (.cells #[.int .i64 r, .int .i64 c, .slice ao na ca] 61)
  have s0 := size_alloc9 w (.cells #[.int .i64 r, .int .i64 c, .slice ao na ca] 61)
  have x0 := BoxT.new 61 w (.int .i64 r) (.int .i64 c) (.slice ao na ca)
  generalize w.alloc (.cells #[.int .i64 r, .int .i64 c, .slice ao na ca] 61) = w0 at *
  have b1 := below_alloc9 w0 (.cells #[.int .i64 s, .int .i64 d, .slice bo nb cb] 61)
  have s1 := size_alloc9 w0 (.cells #[.int .i64 s, .int .i64 d, .slice bo nb cb] 61)
  have x1 := BoxT.new 61 w0 (.int .i64 s) (.int .i64 d) (.slice bo nb cb)
  generalize w0.alloc (.cells #[.int .i64 s, .int .i64 d, .slice bo nb cb] 61) = w1 at *
  have b2 := below_alloc9 w1 (.cells #[.int .i64 0, .int .i64 0, .slice none 0 0] 61)
  have x2 := BoxT.new 61 w1 (.int .i64 0) (.int .i64 0) (.slice none 0 0)
  rw [s1, s0] at x2
  rw [s0] at x1
  exact ⟨(x0.all b1).all b2, x1.all b2, x2, (b0.trans (b1.mono b0.size)).trans (b2.mono (Nat.le_trans b0.size b1.size))⟩

set_option maxRecDepth 20000 in
set_option maxHeartbeats 4000000 in
theorem gless_of (r c na ca s d nb cb : Nat) (ao bo : Option Addr) (lo : Int) (F : Nat → Nat → Int) (w : World)
    (C : ∀ w2, BoxT 61 w2 w.heap.size (.int .i64 r) (.int .i64 c) (.slice ao na ca) → BoxT 61 w2 (w.heap.size + 1) (.int .i64 s) (.int .i64 d) (.slice bo nb cb) → Below w.heap.size w w2 → Calls Tryz.prog 78 #[.int .i64 r, .int .i64 c, .func (.func 84) #[] #[.pointer (some ⟨w.heap.size, 0, none⟩), .pointer (some ⟨w.heap.size + 1, 0, none⟩)]] w2 fun e w'' => ∃ go q, e = .returned (.agg #[.int .i64 r, .int .i64 c, .slice go (r * c) q]) ∧ Gr w'' go q r c lo F ∧ Below w2.heap.size w2 w'') :
    Calls Tryz.prog 36 #[.agg #[.int .i64 r, .int .i64 c, .slice ao na ca], .agg #[.int .i64 s, .int .i64 d, .slice bo nb cb]] w fun e w' => ∃ go q, e = .returned (.agg #[.int .i64 r, .int .i64 c, .slice go (r * c) q]) ∧ Gr w' go q r c lo F ∧ Below w.heap.size w w' := by
  obtain ⟨w2, e2, x0, x1, x2, bb⟩ := boxesG w r c na ca s d nb cb ao bo
  have K := hide (C w2 x0 x1 bb)
  have X2 := hide x2; have BB := hide bb
  rw [← e2] at x0 x1
  have a0 := x0.c0; have a1 := x0.c1; have d0 := x1.c0; have d1 := x1.c1
  rw [← e2] at K X2 BB
  clear x0 x1 x2 bb C e2
  go_enter Tryz.func36, Tryz.ntmps36
  go_wp2_with fail
  refine Calls.mono (unhide K) ?_
  rintro e w1 ⟨go, q, rfl, hz, hb1⟩
  clear a0 a1 d0 d1
  have x1 := (unhide X2).all hb1
  have y0 := x1.c0; have y1 := x1.c1; have y2 := x1.c2; have f0 := x1.free 0; have f1 := x1.free 1; have f2 := x1.free 2
  have xp := x1.put (.int .i64 r) (.int .i64 c) (.slice go (r * c) q)
  have z0 := xp.c0; have z1 := xp.c1; have z2 := xp.c2
  have PZ := hide (hz.putT x1 (r : Nat) (c : Nat) go (r * c) q)
  have PB := hide (below_putM ((unhide BB).trans (hb1.mono (unhide BB).size)) (show w.heap.size ≤ w.heap.size + 1 + 1 by omega) (.int .i64 r) (.int .i64 c) (.slice go (r * c) q))
  clear x1 xp K BB X2 hz hb1
  go_wp2
  exact bodyPost_ret (v := .agg #[.int .i64 r, .int .i64 c, .slice go (r * c) q]) (by simp [results, Tryz.results36, go_sem, z0, z1, z2]) rfl ⟨_, _, rfl, unhide PZ, unhide PB⟩

set_option maxRecDepth 20000 in
theorem cf_less1 (args : Array Value) (w : World) : (callFunc 84 args).run Tryz.prog w = .ok (.enter 84 args) w := by
  simp only [callFunc, go_sem]
  rfl

set_option maxRecDepth 20000 in
set_option maxHeartbeats 4000000 in
theorem gtimes_of (r c na ca s d nb cb : Nat) (ao bo : Option Addr) (lo : Int) (F : Nat → Nat → Int) (w : World)
    (C : ∀ w2, BoxT 61 w2 w.heap.size (.int .i64 r) (.int .i64 c) (.slice ao na ca) → BoxT 61 w2 (w.heap.size + 1) (.int .i64 s) (.int .i64 d) (.slice bo nb cb) → Below w.heap.size w w2 → Calls Tryz.prog 78 #[.int .i64 r, .int .i64 d, .func (.func 87) #[] #[.pointer (some ⟨w.heap.size, 0, none⟩), .pointer (some ⟨w.heap.size + 1, 0, none⟩)]] w2 fun e w'' => ∃ go q, e = .returned (.agg #[.int .i64 r, .int .i64 d, .slice go (r * d) q]) ∧ Gr w'' go q r d lo F ∧ Below w2.heap.size w2 w'') :
    Calls Tryz.prog 37 #[.agg #[.int .i64 r, .int .i64 c, .slice ao na ca], .agg #[.int .i64 s, .int .i64 d, .slice bo nb cb]] w fun e w' => ∃ go q, e = .returned (.agg #[.int .i64 r, .int .i64 d, .slice go (r * d) q]) ∧ Gr w' go q r d lo F ∧ Below w.heap.size w w' := by
  obtain ⟨w2, e2, x0, x1, x2, bb⟩ := boxesG w r c na ca s d nb cb ao bo
  have K := hide (C w2 x0 x1 bb)
  have X2 := hide x2; have BB := hide bb
  rw [← e2] at x0 x1
  have a0 := x0.c0; have a1 := x0.c1; have d0 := x1.c0; have d1 := x1.c1
  rw [← e2] at K X2 BB
  clear x0 x1 x2 bb C e2
  go_enter Tryz.func37, Tryz.ntmps37
  go_wp2_with fail
  refine Calls.mono (unhide K) ?_
  rintro e w1 ⟨go, q, rfl, hz, hb1⟩
  clear a0 a1 d0 d1
  have x1 := (unhide X2).all hb1
  have y0 := x1.c0; have y1 := x1.c1; have y2 := x1.c2; have f0 := x1.free 0; have f1 := x1.free 1; have f2 := x1.free 2
  have xp := x1.put (.int .i64 r) (.int .i64 d) (.slice go (r * d) q)
  have z0 := xp.c0; have z1 := xp.c1; have z2 := xp.c2
  have PZ := hide (hz.putT x1 (r : Nat) (d : Nat) go (r * d) q)
  have PB := hide (below_putM ((unhide BB).trans (hb1.mono (unhide BB).size)) (show w.heap.size ≤ w.heap.size + 1 + 1 by omega) (.int .i64 r) (.int .i64 d) (.slice go (r * d) q))
  clear x1 xp K BB X2 hz hb1
  go_wp2
  exact bodyPost_ret (v := .agg #[.int .i64 r, .int .i64 d, .slice go (r * d) q]) (by simp [results, Tryz.results37, go_sem, z0, z1, z2]) rfl ⟨_, _, rfl, unhide PZ, unhide PB⟩

set_option maxRecDepth 20000 in
theorem cf_times1 (args : Array Value) (w : World) : (callFunc 87 args).run Tryz.prog w = .ok (.enter 87 args) w := by
  simp only [callFunc, go_sem]
  rfl

/-- A difference. -/
theorem less_any11 (r c ca cb : Nat) (ao bo : Option Addr) (lo : Int) (W : Nat) (F G : Nat → Nat → Int) (w : World) (h : Gr w ao ca r c lo F) (h2 : Gr w bo cb r c lo G) (hF : ∀ i k, i < r → k < c → Lvl lo W (F i k)) (hG : ∀ i k, i < r → k < c → Lvl lo W (G i k)) (hD : ∀ i k, i < r → k < c → Lvl lo W (F i k - G i k)) (hT : Tab w) :
    Calls Tryz.prog 36 #[.agg #[.int .i64 r, .int .i64 c, .slice ao (r * c) ca], .agg #[.int .i64 r, .int .i64 c, .slice bo (r * c) cb]] w fun e w' => ∃ go q, e = .returned (.agg #[.int .i64 r, .int .i64 c, .slice go (r * c) q]) ∧ Gr w' go q r c lo (fun i k => F i k - G i k) ∧ Below w.heap.size w w' := by
  refine gless_of r c (r * c) ca r c (r * c) cb ao bo lo _ w (fun w2 x0 x1 bb => ?_)
  refine buildD_any _ _ r c lo _ w2 cf_less1 h.2.1 h.2.2 (fun w' i k hb hi hk => ?_)
  have b' := bb.trans (hb.mono bb.size)
  exact less1_of r c (r * c) ca w.heap.size r c (r * c) cb (w.heap.size + 1) i k ao bo lo (F i k) (G i k) _ w' (x0.all hb) (x1.all hb)
    (fun w'' hb2 => gat_any r c ca i k ao lo F w'' ((h.below b').below hb2) hi hk) (fun w'' hb2 => gat_any r c cb i k bo lo G w'' ((h2.below b').below hb2) hi hk)
    (fun w'' v u hb2 hv hu => psubL hv hu (hF i k hi hk) (hG i k hi hk) (hD i k hi hk) ((hT.all b').all hb2))

/-- A product. -/
theorem gtimes_any (r n d ca cb : Nat) (ao bo : Option Addr) (lo1 lo2 lo : Int) (W1 W2 W : Nat) (F G : Nat → Nat → Int) (w : World) (hl : lo1 + lo2 = lo) (h : Gr w ao ca r n lo1 F) (h2 : Gr w bo cb n d lo2 G) (hF : ∀ i k, i < r → k < n → Lvl lo1 W1 (F i k)) (hG : ∀ i k, i < n → k < d → Lvl lo2 W2 (G i k)) (hP : ∀ i j k, i < r → j < n → k < d → Lvl lo W (F i j * G j k)) (hS : ∀ i k j, i < r → k < d → j ≤ n → Lvl lo W (smI (fun j => F i j * G j k) j)) (hT : Tab w) :
    Calls Tryz.prog 37 #[.agg #[.int .i64 r, .int .i64 n, .slice ao (r * n) ca], .agg #[.int .i64 n, .int .i64 d, .slice bo (n * d) cb]] w fun e w' => ∃ go q, e = .returned (.agg #[.int .i64 r, .int .i64 d, .slice go (r * d) q]) ∧ Gr w' go q r d lo (fun i k => smI (fun j => F i j * G j k) n) ∧ Below w.heap.size w w' := by
  refine gtimes_of r n (r * n) ca n d (n * d) cb ao bo lo _ w (fun w2 x0 x1 bb => ?_)
  refine buildD_any _ _ r d lo _ w2 cf_times1 h.2.1 h2.2.2 (fun w' i k hb hi hk => ?_)
  have b' := bb.trans (hb.mono bb.size)
  exact gtimes1_of r n (r * n) ca w.heap.size n d (n * d) cb (w.heap.size + 1) i k ao bo lo1 lo2 lo (fun j => F i j) (fun j => G j k) (fun j => smI (fun j => F i j * G j k) j) w' h.2.2 rfl (x0.all hb) (x1.all hb)
    (fun w'' j hb2 hj => gat_any r n ca i j ao lo1 F w'' ((h.below b').below hb2) hi hj) (fun w'' j hb2 hj => gat_any n d cb j k bo lo2 G w'' ((h2.below b').below hb2) hj hk)
    (fun w'' g j v u hb2 hj hkp hv hu => add1_any hl hkp hv hu (hF i j hi hj) (hG j k hj hk) (hP i j k hi hj hk) (hS i k j hi hk (by omega)) rfl (hS i k (j + 1) hi hk (by omega)) ((hT.all b').all hb2))

end Go.Proofs.YtfnnbkclnflpfaaGreatDoor

/- Package certify: Check, checkProduct. -/
namespace Go.Proofs.YtfnnbkclnflpfaaGreatDoor
open Go.RowKit
attribute [local go_sem ↓] Go.wp_at_zero Go.wp_at_succ

/-- What Check answers. -/
def ckE (r c : Int) (I : List Int) : Int := if okB r c I.length = true then (if fnK I I.length = true then 0 else 4) else 1

set_option maxRecDepth 20000 in
set_option maxHeartbeats 4000000 in
theorem ccheck_any (r c : Int) (ao : Option Addr) (cap : Nat) (I : List Int) (w : World) (hI : BitsAt w ao cap I) (hn : I.length ≤ 35184372088830) :
    Calls Tryz.prog 12 #[.agg #[.int .i64 r, .int .i64 c, .slice ao I.length cap]] w fun e w' => e = .returned (.int .i64 (ckE r c I)) ∧ Below w.heap.size w w' := by
  have HC := hide (fun w' => mcheck_any r c ao I.length cap w' hn)
  have b0 := below_alloc9 w (.cells #[.int .i64 r, .int .i64 c, .slice ao I.length cap] 24)
  have B0 := hide b0; have X0 := hide (BoxM.new w (.int .i64 r) (.int .i64 c) (.slice ao I.length cap)); have HI := hide hI
  clear b0 hI
  cases ho : okB r c I.length
  · rw [ho] at HC
    have e : ckE r c I = 1 := by unfold ckE; rw [ho]; rfl
    rw [e]
    rw [if_neg (by decide)] at HC
    clear e ho
    go_enter Tryz.func12, Tryz.ntmps12
    go_wp2_with fail
    refine (unhide HC _).mono ?_
    rintro e w1 ⟨rfl, hb1⟩
    clear HC
    go_wp2
    go_ret
    exact ⟨rfl, (unhide B0).trans (hb1.mono (unhide B0).size)⟩
  · rw [ho] at HC
    rw [if_pos rfl] at HC
    have e : ckE r c I = if fnK I I.length = true then 0 else 4 := by unfold ckE; rw [ho]; rfl
    rw [e]
    clear e ho
    obtain ⟨fe, hfe⟩ : ∃ fe : Int, (if fnK I I.length = true then 0 else 4) = fe := ⟨_, rfl⟩
    rw [hfe]
    obtain ⟨n, hnn⟩ : ∃ n, I.length = n := ⟨_, rfl⟩
    have HN := hide hnn
    rw [hnn] at HC B0 X0 hn hfe ⊢
    have FE := hide hfe
    clear hnn hfe
    go_enter Tryz.func12, Tryz.ntmps12
    go_wp2_with fail
    refine (unhide HC _).mono ?_
    rintro e w1 ⟨rfl, hb1⟩
    have B1 := hide ((unhide B0).trans (hb1.mono (unhide B0).size)); have X1 := hide ((unhide X0).all hb1)
    clear HC B0 X0 hb1
    have x2 := (unhide X1).c2
    go_wp2_with fail
    go_loopw [13] (fun i wr => ∃ k : Nat, k ≤ n ∧ i = .int .i64 k ∧ Hid (Below w1.heap.size w1 wr) ∧ Hid (fnK I k = true)) (fun i _ => n - (intOf i).toNat)
    case atStart => exact ⟨0, Nat.zero_le _, rfl, Below.refl _ _, rfl⟩
    case round =>
      clear x2
      obtain ⟨k, hk, rfl, hB, hF⟩ := hrel
      have x2 := ((unhide X1).all (unhide hB)).c2
      by_cases hlt : k < n
      · have hkI : (k : Int) < (n : Int) := by omega
        have BW := hide ((unhide B1).trans ((unhide hB).mono (unhide B1).size))
        obtain ⟨b, off, hao, hb, hc⟩ := ((unhide HI).below (unhide BW)).ne (by rw [unhide HN]; omega)
        have hck := hc k (by rw [unhide HN]; exact hlt)
        have x64 := (unhide HI).lt k
        have CF := hide (fun w' => sfinite_any (atB I k) w' x64)
        have NX := hide (show fnK I (k + 1) = (fnK I k && fFin (atB I k)) from rfl)
        subst hao
        clear hc x64 hb
        cases hf : fFin (atB I k)
        · rw [hf] at CF NX
          have e : fnK I n = false := by
            cases h : fnK I n
            · rfl
            · have := fnK_down I n (k + 1) (by omega) h
              rw [unhide NX, Bool.and_false] at this
              cases this
          have E4 := hide (show (4 : Int) = fe from by rw [← unhide FE, if_neg (by rw [e]; decide)])
          clear e NX hf
          generalize atB I k = x at *
          go_wp2_with fail
          refine (unhide CF _).mono ?_
          rintro e w3 ⟨rfl, hb3⟩
          have BE := hide ((unhide BW).trans (hb3.mono (unhide BW).size))
          clear CF hb3 hck x2
          go_wp2
          go_ret
          exact ⟨ret_int (unhide E4), unhide BE⟩
        · rw [hf] at CF NX
          rw [unhide hF, Bool.true_and] at NX
          clear hf
          generalize atB I k = x at *
          go_wp2_with fail
          refine (unhide CF _).mono ?_
          rintro e w3 ⟨rfl, hb3⟩
          have BE := hide ((unhide hB).trans (hb3.mono (unhide hB).size))
          clear CF hb3 hck x2
          go_wp2
          go_round
          case rel => exact ⟨k + 1, by omega, by go_num, BE, NX⟩
          case measure => simp [intOf]; omega
      · have hkk : k = n := by omega
        subst hkk
        have E0 := hide (show (0 : Int) = fe from by rw [← unhide FE, if_pos (unhide hF)])
        have BE := hide ((unhide B1).trans ((unhide hB).mono (unhide B1).size))
        go_wp2
        go_ret
        exact ⟨ret_int (unhide E0), unhide BE⟩

/-- The first error of three. -/
def fst3 (e1 e2 e3 f : Int) : Int := if e1 ≠ 0 then e1 else if e2 ≠ 0 then e2 else if e3 ≠ 0 then e3 else f

set_option maxRecDepth 20000 in
set_option maxHeartbeats 8000000 in
theorem checkProduct_of (r c p q s d : Int) (ao bo co : Option Addr) (na nb nc ca cb cc : Nat) (e1 e2 e3 : Int) (w : World) (h1 : e1 = 0 ∨ e1 = 1 ∨ e1 = 4) (h2 : e2 = 0 ∨ e2 = 1 ∨ e2 = 4) (h3 : e3 = 0 ∨ e3 = 1 ∨ e3 = 4)
    (C1 : ∀ w', Below w.heap.size w w' → Calls Tryz.prog 12 #[.agg #[.int .i64 r, .int .i64 c, .slice ao na ca]] w' fun e w'' => e = .returned (.int .i64 e1) ∧ Below w'.heap.size w' w'')
    (C2 : ∀ w', Below w.heap.size w w' → Calls Tryz.prog 12 #[.agg #[.int .i64 p, .int .i64 q, .slice bo nb cb]] w' fun e w'' => e = .returned (.int .i64 e2) ∧ Below w'.heap.size w' w'')
    (C3 : ∀ w', Below w.heap.size w w' → Calls Tryz.prog 12 #[.agg #[.int .i64 s, .int .i64 d, .slice co nc cc]] w' fun e w'' => e = .returned (.int .i64 e3) ∧ Below w'.heap.size w' w'') :
    Calls Tryz.prog 52 #[.agg #[.int .i64 r, .int .i64 c, .slice ao na ca], .agg #[.int .i64 p, .int .i64 q, .slice bo nb cb], .agg #[.int .i64 s, .int .i64 d, .slice co nc cc]] w fun e w' => e = .returned (.int .i64 (fst3 e1 e2 e3 (if q = s ∧ r = p ∧ c = d then 0 else 3))) ∧ Below w.heap.size w w' := by
  obtain ⟨fe, hfe⟩ : ∃ fe : Int, fst3 e1 e2 e3 (if q = s ∧ r = p ∧ c = d then 0 else 3) = fe := ⟨_, rfl⟩
  rw [hfe]
  have FE := hide hfe
  clear hfe
  have K1 := hide C1; have K2 := hide C2; have K3 := hide C3
  clear C1 C2 C3
  have b0 := below_alloc9 w (.cells #[.int .i64 r, .int .i64 c, .slice ao na ca] 24)
  have s0 := size_alloc9 w (.cells #[.int .i64 r, .int .i64 c, .slice ao na ca] 24)
  have x0 := BoxM.new w (.int .i64 r) (.int .i64 c) (.slice ao na ca)
  have b1 := below_alloc9 (w.alloc (.cells #[.int .i64 r, .int .i64 c, .slice ao na ca] 24)) (.cells #[.int .i64 p, .int .i64 q, .slice bo nb cb] 24)
  have s1 := size_alloc9 (w.alloc (.cells #[.int .i64 r, .int .i64 c, .slice ao na ca] 24)) (.cells #[.int .i64 p, .int .i64 q, .slice bo nb cb] 24)
  have x1 := BoxM.new (w.alloc (.cells #[.int .i64 r, .int .i64 c, .slice ao na ca] 24)) (.int .i64 p) (.int .i64 q) (.slice bo nb cb)
  have b2 := below_alloc9 ((w.alloc (.cells #[.int .i64 r, .int .i64 c, .slice ao na ca] 24)).alloc (.cells #[.int .i64 p, .int .i64 q, .slice bo nb cb] 24)) (.cells #[.int .i64 s, .int .i64 d, .slice co nc cc] 24)
  have x2 := BoxM.new ((w.alloc (.cells #[.int .i64 r, .int .i64 c, .slice ao na ca] 24)).alloc (.cells #[.int .i64 p, .int .i64 q, .slice bo nb cb] 24)) (.int .i64 s) (.int .i64 d) (.slice co nc cc)
  rw [s1, s0] at x2
  rw [s0] at x1
  have ST := hide (show BoxM _ w.heap.size (.int .i64 r) (.int .i64 c) (.slice ao na ca) ∧ BoxM _ (w.heap.size + 1) (.int .i64 p) (.int .i64 q) (.slice bo nb cb) ∧ BoxM _ (w.heap.size + 1 + 1) (.int .i64 s) (.int .i64 d) (.slice co nc cc) ∧ Below w.heap.size w _ from ⟨(x0.all b1).all b2, x1.all b2, x2, (b0.trans (b1.mono b0.size)).trans (b2.mono (Nat.le_trans b0.size b1.size))⟩)
  have y0 := (unhide ST).1.c0; have y1 := (unhide ST).1.c1; have y2 := (unhide ST).1.c2
  have u0 := (unhide ST).2.1.c0; have u1 := (unhide ST).2.1.c1; have u2 := (unhide ST).2.1.c2
  have v0 := (unhide ST).2.2.1.c0; have v1 := (unhide ST).2.2.1.c1; have v2 := (unhide ST).2.2.1.c2
  clear b0 b1 b2 x0 x1 x2 s0 s1
  go_enter Tryz.func52, Tryz.ntmps52
  go_wp2_with fail
  clear y0 y1 y2 u0 u1 u2 v0 v1 v2
  go_loopw [14] (fun i wr => ∃ k : Nat, k ≤ 3 ∧ i = .int .i64 k ∧ Hid ((0 < k → e1 = 0) ∧ (1 < k → e2 = 0) ∧ (2 < k → e3 = 0)) ∧ Hid (BoxM wr w.heap.size (.int .i64 r) (.int .i64 c) (.slice ao na ca) ∧ BoxM wr (w.heap.size + 1) (.int .i64 p) (.int .i64 q) (.slice bo nb cb) ∧ BoxM wr (w.heap.size + 1 + 1) (.int .i64 s) (.int .i64 d) (.slice co nc cc) ∧ Below w.heap.size w wr)) (fun i _ => 3 - (intOf i).toNat)
  case atStart => exact ⟨0, by omega, rfl, ⟨by omega, by omega, by omega⟩, ST⟩
  case round =>
    clear ST
    obtain ⟨k, hk, rfl, hE, hS⟩ := hrel
    rcases (show k = 0 ∨ k = 1 ∨ k = 2 ∨ k = 3 by omega) with rfl | rfl | rfl | rfl
    · have Z := hide trivial
      have ix : ∀ w' : World, (Instr.index 118 (.agg #[.int .i64 r, .int .i64 c, .slice ao na ca, .int .i64 p, .int .i64 q, .slice bo nb cb, .int .i64 s, .int .i64 d, .slice co nc cc]) (.int .i64 0)).run Tryz.prog w' = .ok (.agg #[.int .i64 r, .int .i64 c, .slice ao na ca]) w' := fun _ => by kernel_rfl
      have BA := hide ((unhide hS).2.2.2.alloc (unhide hS).2.2.2.size (.cells #[.int .i64 r, .int .i64 c, .slice ao na ca] 24))
      have S2 := hide (fun w2 (hb2 : Below (wr.alloc (.cells #[.int .i64 r, .int .i64 c, .slice ao na ca] 24)).heap.size (wr.alloc (.cells #[.int .i64 r, .int .i64 c, .slice ao na ca] 24)) w2) => (show BoxM w2 w.heap.size (.int .i64 r) (.int .i64 c) (.slice ao na ca) ∧ BoxM w2 (w.heap.size + 1) (.int .i64 p) (.int .i64 q) (.slice bo nb cb) ∧ BoxM w2 (w.heap.size + 1 + 1) (.int .i64 s) (.int .i64 d) (.slice co nc cc) ∧ Below w.heap.size w w2 from
        have ba := (below_alloc9 wr (.cells #[.int .i64 r, .int .i64 c, .slice ao na ca] 24)).trans (hb2.mono (below_alloc9 wr (.cells #[.int .i64 r, .int .i64 c, .slice ao na ca] 24)).size)
        ⟨(unhide hS).1.all ba, (unhide hS).2.1.all ba, (unhide hS).2.2.1.all ba, (unhide hS).2.2.2.trans (ba.mono (unhide hS).2.2.2.size)⟩))
      have FK := hide (show (e1 = 0 ∨ e1 = fe) ∧ (e1 ≠ 0 → e1 = fe) from by
        rw [← unhide FE]
        by_cases h : e1 = 0
        · exact ⟨.inl h, fun g => absurd h g⟩
        · have : fst3 e1 e2 e3 (if q = s ∧ r = p ∧ c = d then 0 else 3) = e1 := by unfold fst3; simp [h]
          exact ⟨.inr this.symm, fun _ => this.symm⟩)
      clear Z
      rcases h1 with rfl | rfl | rfl
      · go_wp2_with fail
        refine (unhide K1 _ (unhide BA)).mono ?_
        rintro e w2 ⟨rfl, hb2⟩
        replace S2 := hide (unhide S2 w2 hb2)
        clear hb2 BA hS ix
        go_wp2_with fail
        go_round
        case rel => exact ⟨1, by omega, by go_num, hide ⟨by first | exact fun _ => rfl | exact fun _ => trivial, by omega, by omega⟩, S2⟩
        case measure => simp [intOf]
      all_goals
        have EF := hide ((unhide FK).2 (by decide))
        clear FK
        go_wp2_with fail
        refine (unhide K1 _ (unhide BA)).mono ?_
        rintro e w2 ⟨rfl, hb2⟩
        replace S2 := hide (unhide S2 w2 hb2).2.2.2
        clear hb2 BA hS ix
        go_wp2_with fail
        go_ret
        exact ⟨ret_int (unhide EF), unhide S2⟩
    · have Z := hide (show True ∧ e1 = 0 from ⟨trivial, (unhide hE).1 (by omega)⟩)
      have ix : ∀ w' : World, (Instr.index 118 (.agg #[.int .i64 r, .int .i64 c, .slice ao na ca, .int .i64 p, .int .i64 q, .slice bo nb cb, .int .i64 s, .int .i64 d, .slice co nc cc]) (.int .i64 1)).run Tryz.prog w' = .ok (.agg #[.int .i64 p, .int .i64 q, .slice bo nb cb]) w' := fun _ => by kernel_rfl
      have BA := hide ((unhide hS).2.2.2.alloc (unhide hS).2.2.2.size (.cells #[.int .i64 p, .int .i64 q, .slice bo nb cb] 24))
      have S2 := hide (fun w2 (hb2 : Below (wr.alloc (.cells #[.int .i64 p, .int .i64 q, .slice bo nb cb] 24)).heap.size (wr.alloc (.cells #[.int .i64 p, .int .i64 q, .slice bo nb cb] 24)) w2) => (show BoxM w2 w.heap.size (.int .i64 r) (.int .i64 c) (.slice ao na ca) ∧ BoxM w2 (w.heap.size + 1) (.int .i64 p) (.int .i64 q) (.slice bo nb cb) ∧ BoxM w2 (w.heap.size + 1 + 1) (.int .i64 s) (.int .i64 d) (.slice co nc cc) ∧ Below w.heap.size w w2 from
        have ba := (below_alloc9 wr (.cells #[.int .i64 p, .int .i64 q, .slice bo nb cb] 24)).trans (hb2.mono (below_alloc9 wr (.cells #[.int .i64 p, .int .i64 q, .slice bo nb cb] 24)).size)
        ⟨(unhide hS).1.all ba, (unhide hS).2.1.all ba, (unhide hS).2.2.1.all ba, (unhide hS).2.2.2.trans (ba.mono (unhide hS).2.2.2.size)⟩))
      have FK := hide (show (e2 = 0 ∨ e2 = fe) ∧ (e2 ≠ 0 → e2 = fe) from by
        obtain ⟨_, e10⟩ := unhide Z
        rw [← unhide FE]
        by_cases h : e2 = 0
        · exact ⟨.inl h, fun g => absurd h g⟩
        · have : fst3 e1 e2 e3 (if q = s ∧ r = p ∧ c = d then 0 else 3) = e2 := by unfold fst3; simp [h, e10]
          exact ⟨.inr this.symm, fun _ => this.symm⟩)
      clear Z
      rcases h2 with rfl | rfl | rfl
      · go_wp2_with fail
        refine (unhide K2 _ (unhide BA)).mono ?_
        rintro e w2 ⟨rfl, hb2⟩
        replace S2 := hide (unhide S2 w2 hb2)
        clear hb2 BA hS ix
        go_wp2_with fail
        go_round
        case rel => exact ⟨2, by omega, by go_num, hide ⟨by exact (unhide hE).1 ∘ (fun _ => by omega), by first | exact fun _ => rfl | exact fun _ => trivial, by omega⟩, S2⟩
        case measure => simp [intOf]
      all_goals
        have EF := hide ((unhide FK).2 (by decide))
        clear FK
        go_wp2_with fail
        refine (unhide K2 _ (unhide BA)).mono ?_
        rintro e w2 ⟨rfl, hb2⟩
        replace S2 := hide (unhide S2 w2 hb2).2.2.2
        clear hb2 BA hS ix
        go_wp2_with fail
        go_ret
        exact ⟨ret_int (unhide EF), unhide S2⟩
    · have Z := hide (show True ∧ e1 = 0 ∧ e2 = 0 from ⟨trivial, (unhide hE).1 (by omega), (unhide hE).2.1 (by omega)⟩)
      have ix : ∀ w' : World, (Instr.index 118 (.agg #[.int .i64 r, .int .i64 c, .slice ao na ca, .int .i64 p, .int .i64 q, .slice bo nb cb, .int .i64 s, .int .i64 d, .slice co nc cc]) (.int .i64 2)).run Tryz.prog w' = .ok (.agg #[.int .i64 s, .int .i64 d, .slice co nc cc]) w' := fun _ => by kernel_rfl
      have BA := hide ((unhide hS).2.2.2.alloc (unhide hS).2.2.2.size (.cells #[.int .i64 s, .int .i64 d, .slice co nc cc] 24))
      have S2 := hide (fun w2 (hb2 : Below (wr.alloc (.cells #[.int .i64 s, .int .i64 d, .slice co nc cc] 24)).heap.size (wr.alloc (.cells #[.int .i64 s, .int .i64 d, .slice co nc cc] 24)) w2) => (show BoxM w2 w.heap.size (.int .i64 r) (.int .i64 c) (.slice ao na ca) ∧ BoxM w2 (w.heap.size + 1) (.int .i64 p) (.int .i64 q) (.slice bo nb cb) ∧ BoxM w2 (w.heap.size + 1 + 1) (.int .i64 s) (.int .i64 d) (.slice co nc cc) ∧ Below w.heap.size w w2 from
        have ba := (below_alloc9 wr (.cells #[.int .i64 s, .int .i64 d, .slice co nc cc] 24)).trans (hb2.mono (below_alloc9 wr (.cells #[.int .i64 s, .int .i64 d, .slice co nc cc] 24)).size)
        ⟨(unhide hS).1.all ba, (unhide hS).2.1.all ba, (unhide hS).2.2.1.all ba, (unhide hS).2.2.2.trans (ba.mono (unhide hS).2.2.2.size)⟩))
      have FK := hide (show (e3 = 0 ∨ e3 = fe) ∧ (e3 ≠ 0 → e3 = fe) from by
        obtain ⟨_, e10, e20⟩ := unhide Z
        rw [← unhide FE]
        by_cases h : e3 = 0
        · exact ⟨.inl h, fun g => absurd h g⟩
        · have : fst3 e1 e2 e3 (if q = s ∧ r = p ∧ c = d then 0 else 3) = e3 := by unfold fst3; simp [h, e10, e20]
          exact ⟨.inr this.symm, fun _ => this.symm⟩)
      clear Z
      rcases h3 with rfl | rfl | rfl
      · go_wp2_with fail
        refine (unhide K3 _ (unhide BA)).mono ?_
        rintro e w2 ⟨rfl, hb2⟩
        replace S2 := hide (unhide S2 w2 hb2)
        clear hb2 BA hS ix
        go_wp2_with fail
        go_round
        case rel => exact ⟨3, by omega, by go_num, hide ⟨by exact (unhide hE).1 ∘ (fun _ => by omega), by exact (unhide hE).2.1 ∘ (fun _ => by omega), by first | exact fun _ => rfl | exact fun _ => trivial⟩, S2⟩
        case measure => simp [intOf]
      all_goals
        have EF := hide ((unhide FK).2 (by decide))
        clear FK
        go_wp2_with fail
        refine (unhide K3 _ (unhide BA)).mono ?_
        rintro e w2 ⟨rfl, hb2⟩
        replace S2 := hide (unhide S2 w2 hb2).2.2.2
        clear hb2 BA hS ix
        go_wp2_with fail
        go_ret
        exact ⟨ret_int (unhide EF), unhide S2⟩
    · obtain ⟨z1, z2, z3⟩ := unhide hE
      have EF : (if q = s ∧ r = p ∧ c = d then (0 : Int) else 3) = fe := by
        rw [← unhide FE]; unfold fst3; simp [z1 (by omega), z2 (by omega), z3 (by omega)]
      have y0 := (unhide hS).1.c0; have y1 := (unhide hS).1.c1
      have u0 := (unhide hS).2.1.c0; have u1 := (unhide hS).2.1.c1
      have v0 := (unhide hS).2.2.1.c0; have v1 := (unhide hS).2.2.1.c1
      have BE := hide (unhide hS).2.2.2
      clear hS hE z1 z2 z3 FE K1 K2 K3 h1 h2 h3
      by_cases g1 : q = s
      · by_cases g2 : r = p
        · by_cases g3 : c = d
          · rw [if_pos ⟨g1, g2, g3⟩] at EF
            have E0 := hide EF
            subst g1 g2 g3
            clear EF
            go_wp2
            go_ret
            exact ⟨ret_int (unhide E0), unhide BE⟩
          · rw [if_neg (fun h => g3 h.2.2)] at EF
            have E0 := hide EF
            subst g1 g2
            clear EF
            go_wp2
            go_ret
            exact ⟨ret_int (unhide E0), unhide BE⟩
        · rw [if_neg (fun h => g2 h.2.1)] at EF
          have E0 := hide EF
          subst g1
          clear EF
          go_wp2
          go_ret
          exact ⟨ret_int (unhide E0), unhide BE⟩
      · rw [if_neg (fun h => g1 h.1)] at EF
        have E0 := hide EF
        clear EF
        go_wp2
        go_ret
        exact ⟨ret_int (unhide E0), unhide BE⟩

end Go.Proofs.YtfnnbkclnflpfaaGreatDoor

/- Package certify: Square, Residual by letters. -/
namespace Go.Proofs.YtfnnbkclnflpfaaGreatDoor
open Go.RowKit
attribute [local go_sem ↓] Go.wp_at_zero Go.wp_at_succ

/-- One matrix's box and the answer's. -/
theorem boxes1D (w : World) (r c : Int) (ao : Option Addr) (n cap : Nat) : BoxM ((w.alloc (.cells #[.int .i64 r, .int .i64 c, .slice ao n cap] 24)).alloc (.cells #[.bool false, .slice none 0 0, .int .i64 0] 29)) w.heap.size (.int .i64 r) (.int .i64 c) (.slice ao n cap) ∧ Box3 ((w.alloc (.cells #[.int .i64 r, .int .i64 c, .slice ao n cap] 24)).alloc (.cells #[.bool false, .slice none 0 0, .int .i64 0] 29)) (w.heap.size + 1) (.bool false) (.slice none 0 0) (.int .i64 0) ∧ Below w.heap.size w ((w.alloc (.cells #[.int .i64 r, .int .i64 c, .slice ao n cap] 24)).alloc (.cells #[.bool false, .slice none 0 0, .int .i64 0] 29)) := by
  have b0 := below_alloc9 w (.cells #[.int .i64 r, .int .i64 c, .slice ao n cap] 24)
  have s0 := size_alloc9 w (.cells #[.int .i64 r, .int .i64 c, .slice ao n cap] 24)
  have x0 := BoxM.new w (.int .i64 r) (.int .i64 c) (.slice ao n cap)
  generalize w.alloc (.cells #[.int .i64 r, .int .i64 c, .slice ao n cap] 24) = w0 at *
  have b1 := below_alloc9 w0 (.cells #[.bool false, .slice none 0 0, .int .i64 0] 29)
  have x1 := Box3.new w0 (.bool false) (.slice none 0 0) (.int .i64 0)
  rw [s0] at x1
  exact ⟨x0.all b1, x1, b0.trans (b1.mono b0.size)⟩

/-- Three matrices' boxes and the answer's. -/
def Bx3D (w W : World) (r c p q s d : Int) (ao bo co : Option Addr) (na nb nc ca cb cc : Nat) : Prop :=
  BoxM W w.heap.size (.int .i64 r) (.int .i64 c) (.slice ao na ca) ∧ BoxM W (w.heap.size + 1) (.int .i64 p) (.int .i64 q) (.slice bo nb cb) ∧ BoxM W (w.heap.size + 1 + 1) (.int .i64 s) (.int .i64 d) (.slice co nc cc) ∧ Box3 W (w.heap.size + 1 + 1 + 1) (.bool false) (.slice none 0 0) (.int .i64 0) ∧ Below w.heap.size w W
theorem Bx3D.all {w W W' : World} {r c p q s d : Int} {ao bo co : Option Addr} {na nb nc ca cb cc : Nat} (h : Bx3D w W r c p q s d ao bo co na nb nc ca cb cc) (hb : Below W.heap.size W W') : Bx3D w W' r c p q s d ao bo co na nb nc ca cb cc :=
  ⟨h.1.all hb, h.2.1.all hb, h.2.2.1.all hb, h.2.2.2.1.all hb, h.2.2.2.2.trans (hb.mono h.2.2.2.2.size)⟩
theorem Bx3D.start (w : World) (r c p q s d : Int) (ao bo co : Option Addr) (na nb nc ca cb cc : Nat) : Bx3D w ((((w.alloc (.cells #[.int .i64 r, .int .i64 c, .slice ao na ca] 24)).alloc (.cells #[.int .i64 p, .int .i64 q, .slice bo nb cb] 24)).alloc (.cells #[.int .i64 s, .int .i64 d, .slice co nc cc] 24)).alloc (.cells #[.bool false, .slice none 0 0, .int .i64 0] 29)) r c p q s d ao bo co na nb nc ca cb cc := by
  have b0 := below_alloc9 w (.cells #[.int .i64 r, .int .i64 c, .slice ao na ca] 24)
  have s0 := size_alloc9 w (.cells #[.int .i64 r, .int .i64 c, .slice ao na ca] 24)
  have x0 := BoxM.new w (.int .i64 r) (.int .i64 c) (.slice ao na ca)
  generalize w.alloc (.cells #[.int .i64 r, .int .i64 c, .slice ao na ca] 24) = w0 at *
  have b1 := below_alloc9 w0 (.cells #[.int .i64 p, .int .i64 q, .slice bo nb cb] 24)
  have s1 := size_alloc9 w0 (.cells #[.int .i64 p, .int .i64 q, .slice bo nb cb] 24)
  have x1 := BoxM.new w0 (.int .i64 p) (.int .i64 q) (.slice bo nb cb)
  generalize w0.alloc (.cells #[.int .i64 p, .int .i64 q, .slice bo nb cb] 24) = w1 at *
  have b2 := below_alloc9 w1 (.cells #[.int .i64 s, .int .i64 d, .slice co nc cc] 24)
  have s2 := size_alloc9 w1 (.cells #[.int .i64 s, .int .i64 d, .slice co nc cc] 24)
  have x2 := BoxM.new w1 (.int .i64 s) (.int .i64 d) (.slice co nc cc)
  generalize w1.alloc (.cells #[.int .i64 s, .int .i64 d, .slice co nc cc] 24) = w2 at *
  have b3 := below_alloc9 w2 (.cells #[.bool false, .slice none 0 0, .int .i64 0] 29)
  have x3 := Box3.new w2 (.bool false) (.slice none 0 0) (.int .i64 0)
  rw [s2, s1, s0] at x3
  rw [s1, s0] at x2
  rw [s0] at x1
  have bb := (b0.trans (b1.mono b0.size)).trans (b2.mono (Nat.le_trans b0.size b1.size))
  exact ⟨((x0.all b1).all b2).all b3, (x1.all b2).all b3, x2.all b3, x3, bb.trans (b3.mono bb.size)⟩

end Go.Proofs.YtfnnbkclnflpfaaGreatDoor

