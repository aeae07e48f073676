/- Part 28 of the texts. -/
import Derived.Test.YtfnnbkclnflpfaaGreatDoorPartR27
import Derived.Test.YtfnnbkclnflpfaaGreatDoorPartR24
import Derived.Deep.RegionWith
import Derived.Deep.RegionLaw
import Derived.Test.YtfnnbkclnflpfaaGreatDoorPartR20
import Derived.Deep.RegionHeld3
/- The reference of layer 11: Residual by letters. -/
namespace Go.Proofs.YtfnnbkclnflpfaaGreatDoor
open Go.RowKit
attribute [local go_sem ↓] Go.wp_at_zero Go.wp_at_succ

/-- Three matrices' boxes, the answer's, the sum's. -/
def RsSt (w wr : World) (r c p q s d : Int) (ao bo co : Option Addr) (na nb nc ca cb cc : Nat) (lo z : Int) : Prop :=
  Bx3D w wr r c p q s d ao bo co na nb nc ca cb cc ∧ Kept wr (w.heap.size + 1 + 1 + 1 + 1) lo z
theorem RsSt.all {w wr w' : World} {r c p q s d : Int} {ao bo co : Option Addr} {na nb nc ca cb cc : Nat} {lo z : Int} (h : RsSt w wr r c p q s d ao bo co na nb nc ca cb cc lo z) (hb : Below wr.heap.size wr w') : RsSt w w' r c p q s d ao bo co na nb nc ca cb cc lo z := ⟨h.1.all hb, h.2.all hb⟩
theorem RsSt.start (w : World) (r c p q s d : Int) (ao bo co : Option Addr) (na nb nc ca cb cc : Nat) (lo : Int) : RsSt w (((((w.alloc (.cells #[.int .i64 r, .int .i64 c, .slice ao na ca] 24)).alloc (.cells #[.int .i64 p, .int .i64 q, .slice bo nb cb] 24)).alloc (.cells #[.int .i64 s, .int .i64 d, .slice co nc cc] 24)).alloc (.cells #[.bool false, .slice none 0 0, .int .i64 0] 29)).alloc (.cells #[.bool false, .slice none 0 0, .int .i64 0] 29)) r c p q s d ao bo co na nb nc ca cb cc lo 0 := by
  have h := Bx3D.start w r c p q s d ao bo co na nb nc ca cb cc
  have e : ((((w.alloc (.cells #[.int .i64 r, .int .i64 c, .slice ao na ca] 24)).alloc (.cells #[.int .i64 p, .int .i64 q, .slice bo nb cb] 24)).alloc (.cells #[.int .i64 s, .int .i64 d, .slice co nc cc] 24)).alloc (.cells #[.bool false, .slice none 0 0, .int .i64 0] 29)).heap.size = w.heap.size + 1 + 1 + 1 + 1 := by simp
  generalize (((w.alloc (.cells #[.int .i64 r, .int .i64 c, .slice ao na ca] 24)).alloc (.cells #[.int .i64 p, .int .i64 q, .slice bo nb cb] 24)).alloc (.cells #[.int .i64 s, .int .i64 d, .slice co nc cc] 24)).alloc (.cells #[.bool false, .slice none 0 0, .int .i64 0] 29) = w1 at *
  have b2 := below_alloc9 w1 (.cells #[.bool false, .slice none 0 0, .int .i64 0] 29)
  have k2 := Kept.new w1 lo
  rw [e] at k2
  exact ⟨h.all b2, k2⟩
theorem Bx3D.oth {w wr : World} {r c p q s d : Int} {ao bo co : Option Addr} {na nb nc ca cb cc : Nat} (h : Bx3D w wr r c p q s d ao bo co na nb nc ca cb cc) {g : Nat} (hg : w.heap.size + 1 + 1 + 1 < g) (u u' u'' : Value) : Bx3D w (((wr.setCell ⟨g, 0, none⟩ u).setCell ⟨g, 1, none⟩ u').setCell ⟨g, 2, none⟩ u'') r c p q s d ao bo co na nb nc ca cb cc :=
  ⟨h.1.oth3 (by omega) _ _ _, h.2.1.oth3 (by omega) _ _ _, h.2.2.1.oth3 (by omega) _ _ _, h.2.2.2.1.oth3 (by omega) _ _ _, below_put3 h.2.2.2.2 (by omega) _ _ _⟩
theorem RsSt.put {w wr : World} {r c p q s d : Int} {ao bo co : Option Addr} {na nb nc ca cb cc : Nat} {lo z t : Int} (h : RsSt w wr r c p q s d ao bo co na nb nc ca cb cc lo z) {ng : Bool} {a : Option Addr} {l cp : Nat} {X : Int} (hv : IsLv wr (.agg #[.bool ng, .slice a l cp, .int .i64 X]) lo t) :
    RsSt w (((wr.setCell ⟨(w.heap.size + 1 + 1 + 1 + 1), 0, none⟩ (.bool ng)).setCell ⟨(w.heap.size + 1 + 1 + 1 + 1), 1, none⟩ (.slice a l cp)).setCell ⟨(w.heap.size + 1 + 1 + 1 + 1), 2, none⟩ (.int .i64 X)) r c p q s d ao bo co na nb nc ca cb cc lo t := ⟨h.1.oth (by omega) _ _ _, h.2.put hv⟩
theorem RsSt.away {w wr : World} {r c p q s d : Int} {ao bo co : Option Addr} {na nb nc ca cb cc : Nat} {lo z : Int} (h : RsSt w wr r c p q s d ao bo co na nb nc ca cb cc lo z) {g : Nat} {lo' y : Int} (hg : Kept wr g lo' y) (hl : (w.heap.size + 1 + 1 + 1 + 1) < g) (u u' u'' : Value) :
    RsSt w (((wr.setCell ⟨g, 0, none⟩ u).setCell ⟨g, 1, none⟩ u').setCell ⟨g, 2, none⟩ u'') r c p q s d ao bo co na nb nc ca cb cc lo z := by
  obtain ⟨n', a', l', c', X', h1, _⟩ := hg
  exact ⟨h.1.oth (by omega) _ _ _, h.2.oth3 h1 (by omega) _ _ _⟩

set_option maxRecDepth 20000 in
set_option maxHeartbeats 32000000 in
theorem rRes_of (r n c na nb nc ca cb cc : Nat) (ao bo co : Option Addr) (x : Nat → Nat → Nat) (rw cl : Nat → List Int) (lo1 lo2 : Int) (xa dd D : Nat → Nat → Int) (sm : Nat → Nat → Int) (w : World) (hr : r ≤ 6) (hc : c ≤ 6) (s0 : sm 0 0 = 0) (s1 : ∀ i, sm (i + 1) 0 = sm i c)
    (C1 : ∀ w' i k, Below w.heap.size w w' → i < r → k < c → Calls Tryz.prog 54 #[.agg #[.int .i64 r, .int .i64 c, .slice ao na ca], .int .i64 (i : Nat), .int .i64 (k : Nat)] w' fun e w'' => e = .returned (.int .u64 (x i k : Nat)) ∧ Below w'.heap.size w' w'')
    (C2 : ∀ w' i k, i < r → k < c → Calls Tryz.prog 53 #[.int .u64 (x i k : Nat)] w' fun e w'' => ∃ u, e = .returned u ∧ IsLv w'' u lo1 (xa i k) ∧ Below w'.heap.size w' w'')
    (C3 : ∀ w' i, Below w.heap.size w w' → i < r → Calls Tryz.prog 55 #[.agg #[.int .i64 r, .int .i64 n, .slice bo nb cb], .int .i64 (i : Nat)] w' fun e w'' => ∃ go d, e = .returned (.slice go n d) ∧ BitsAt w'' go d (rw i) ∧ Below w'.heap.size w' w'')
    (C4 : ∀ w' k, Below w.heap.size w w' → k < c → Calls Tryz.prog 46 #[.agg #[.int .i64 n, .int .i64 c, .slice co nc cc], .int .i64 (k : Nat), .int .i64 0] w' fun e w'' => ∃ go d, e = .returned (.slice go n d) ∧ BitsAt w'' go d (cl k) ∧ Below w'.heap.size w' w'')
    (C5 : ∀ w' i k xo xd yo yd, i < r → k < c → BitsAt w' xo xd (rw i) → BitsAt w' yo yd (cl k) → Calls Tryz.prog 45 #[.slice xo n xd, .slice yo n yd] w' fun e w'' => ∃ v, e = .returned v ∧ IsLv w'' v lo1 (dd i k) ∧ Below w'.heap.size w' w'')
    (C6 : ∀ w' i k v u, i < r → k < c → IsLv w' v lo1 (xa i k) → IsLv w' u lo1 (dd i k) → Calls Tryz.prog 47 #[v, u] w' fun e w'' => ∃ q, e = .returned q ∧ IsLv w'' q lo1 (D i k) ∧ Below w'.heap.size w' w'')
    (C7 : ∀ w' i k v, i < r → k < c → IsLv w' v lo1 (D i k) → Calls Tryz.prog 51 #[v, v] w' fun e w'' => ∃ q, e = .returned q ∧ IsLv w'' q lo2 (D i k * D i k) ∧ Below w'.heap.size w' w'')
    (C8 : ∀ w' i k v u, i < r → k < c → IsLv w' v lo2 (sm i k) → IsLv w' u lo2 (D i k * D i k) → Calls Tryz.prog 50 #[v, u] w' fun e w'' => ∃ q, e = .returned q ∧ IsLv w'' q lo2 (sm i (k + 1)) ∧ Below w'.heap.size w' w'') :
    Calls Tryz.prog 19 #[.agg #[.int .i64 r, .int .i64 c, .slice ao na ca], .agg #[.int .i64 r, .int .i64 n, .slice bo nb cb], .agg #[.int .i64 n, .int .i64 c, .slice co nc cc]] w fun e w' => ∃ v, e = .returned v ∧ IsLv w' v lo2 (sm r 0) ∧ Below w.heap.size w w' := by
  have K1 := hide C1; have K2 := hide C2; have K3 := hide C3; have K4 := hide C4; have K5 := hide C5; have K6 := hide C6; have K7 := hide C7; have K8 := hide C8; have S1 := hide s1
  have ST := hide (show RsSt w _ r c r n n c ao bo co na nb nc ca cb cc lo2 (sm 0 0) from by rw [s0]; exact RsSt.start w r c r n n c ao bo co na nb nc ca cb cc lo2)
  clear C1 C2 C3 C4 C5 C6 C7 C8 s0 s1
  go_enter Tryz.func19, Tryz.ntmps19
  go_wp2_with fail
  go_loopw [8] (fun i wr => ∃ j : Nat, j ≤ r ∧ i = .int .i64 j ∧ Hid (RsSt w wr r c r n n c ao bo co na nb nc ca cb cc lo2 (sm j 0))) (fun i _ => r - (intOf i).toNat)
  case atStart => exact ⟨0, Nat.zero_le _, rfl, ST⟩
  case round =>
    clear ST
    obtain ⟨j, hj, rfl, hS⟩ := hrel
    have m1 := (unhide hS).1.1.c0
    by_cases hlt : j < r
    · have hjI : (j : Int) < (r : Int) := by omega
      go_wp2_with fail
      clear m1
      go_loopw [9] (fun i wr => ∃ k : Nat, k ≤ c ∧ i = .int .i64 k ∧ Hid (RsSt w wr r c r n n c ao bo co na nb nc ca cb cc lo2 (sm j k))) (fun i _ => c - (intOf i).toNat)
      case atStart => exact ⟨0, Nat.zero_le _, rfl, hS⟩
      case round =>
        clear hS
        obtain ⟨k, hk, rfl, hS⟩ := hrel
        have m1 := (unhide hS).1.1.c1
        by_cases hkc : k < c
        · have hkI : (k : Int) < (c : Int) := by omega
          go_wp2_with fail
          clear m1
          refine at_world (fun W => RsSt w W r c r n n c ao bo co na nb nc ca cb cc lo2 (sm j k)) (unhide hS) ?_
          clear hS
          rintro W0 hS
          go_cut [10] from 18 to 41 (fun p wx => ∃ g : Nat, p = .pointer (some ⟨g, 0, none⟩) ∧ Hid (RsSt w wx r c r n n c ao bo co na nb nc ca cb cc lo2 (sm j k) ∧ Kept wx g lo1 (D j k) ∧ (w.heap.size + 1 + 1 + 1 + 1) < g))
          case first =>
            have HK := hide (show ∀ w' (h : Below W0.heap.size W0 w'), Below W0.heap.size W0 w' ∧ w'.cell? ⟨w.heap.size, 0, none⟩ = some (.int .i64 r) ∧ w'.cell? ⟨w.heap.size, 1, none⟩ = some (.int .i64 c) ∧ w'.cell? ⟨w.heap.size, 2, none⟩ = some (.slice ao na ca) ∧ w'.cell? ⟨w.heap.size + 1, 0, none⟩ = some (.int .i64 r) ∧ w'.cell? ⟨w.heap.size + 1, 1, none⟩ = some (.int .i64 n) ∧ w'.cell? ⟨w.heap.size + 1, 2, none⟩ = some (.slice bo nb cb) ∧ w'.cell? ⟨w.heap.size + 1 + 1, 0, none⟩ = some (.int .i64 n) ∧ w'.cell? ⟨w.heap.size + 1 + 1, 1, none⟩ = some (.int .i64 c) ∧ w'.cell? ⟨w.heap.size + 1 + 1, 2, none⟩ = some (.slice co nc cc) from fun w' h => ⟨h, (hS.1.all h).1.c0, (hS.1.all h).1.c1, (hS.1.all h).1.c2, (hS.1.all h).2.1.c0, (hS.1.all h).2.1.c1, (hS.1.all h).2.1.c2, (hS.1.all h).2.2.1.c0, (hS.1.all h).2.2.1.c1, (hS.1.all h).2.2.1.c2⟩)
            have HKA := hide (fun wn o (h1 : Below W0.heap.size W0 wn) => unhide HK (wn.alloc o) (h1.alloc h1.size o))
            have HKS := hide (fun wn g u u' u'' (h1 : Below W0.heap.size W0 wn) (h4 : W0.heap.size ≤ g) => unhide HK (((wn.setCell ⟨g, 0, none⟩ u).setCell ⟨g, 1, none⟩ u').setCell ⟨g, 2, none⟩ u'') (below_put3 h1 h4 u u' u''))
            have BXA := hide (fun wm o (h1 : Below (W0.drew.alloc o).heap.size (W0.drew.alloc o) wm) => (show wm.heap[W0.heap.size]? = some o from (h1.block W0.heap.size (by simp)).trans (heap_alloc_new W0.drew o)))
            have BXC := hide (fun wm o (h1 : Below (W0.alloc o).drew.heap.size (W0.alloc o).drew wm) => (show wm.heap[W0.heap.size]? = some o from (h1.block W0.heap.size (by simp)).trans (heap_alloc_new W0 o)))
            have BXB := hide (fun (wn wm : World) o (h1 : Below (wn.alloc o).heap.size (wn.alloc o) wm) => (show wm.heap[wn.heap.size]? = some o from (h1.block wn.heap.size (by simp)).trans (heap_alloc_new wn o)))
            have BW := hide (fun w' (h : Below W0.heap.size W0 w') => hS.1.2.2.2.2.trans (h.mono hS.1.2.2.2.2.size))
            have SA := hide (fun w' (h : Below W0.heap.size W0 w') => hS.all h)
            have HG := hide hS.2.lt
            have W1 := hide (fun w' h => unhide K1 w' j k h hlt hkc)
            have W2 := hide (fun w' => unhide K2 w' j k hlt hkc)
            have W3 := hide (fun w' h => unhide K3 w' j h hlt)
            have W4 := hide (fun w' h => unhide K4 w' k h hkc)
            have W5 := hide (fun w' xo xd yo yd => unhide K5 w' j k xo xd yo yd hlt hkc)
            have W6 := hide (fun w' v u => unhide K6 w' j k v u hlt hkc)
            generalize x j k = xx at *
            clear hS K1 K2 K3 K4 K5 K6 K7 K8 S1
            go_region_held3 (fun w' => Below W0.heap.size W0 w' ∧ w'.cell? ⟨w.heap.size, 0, none⟩ = some (.int .i64 r) ∧ w'.cell? ⟨w.heap.size, 1, none⟩ = some (.int .i64 c) ∧ w'.cell? ⟨w.heap.size, 2, none⟩ = some (.slice ao na ca) ∧ w'.cell? ⟨w.heap.size + 1, 0, none⟩ = some (.int .i64 r) ∧ w'.cell? ⟨w.heap.size + 1, 1, none⟩ = some (.int .i64 n) ∧ w'.cell? ⟨w.heap.size + 1, 2, none⟩ = some (.slice bo nb cb) ∧ w'.cell? ⟨w.heap.size + 1 + 1, 0, none⟩ = some (.int .i64 n) ∧ w'.cell? ⟨w.heap.size + 1 + 1, 1, none⟩ = some (.int .i64 c) ∧ w'.cell? ⟨w.heap.size + 1 + 1, 2, none⟩ = some (.slice co nc cc))
              (first | assumption | exact unhide HK _ (Below.refl _ _).drew | exact unhide HK _ (by assumption) | exact unhide HKA _ _ (by assumption) | exact unhide HKA _ _ (And.left (by assumption)) | exact unhide HKS _ _ _ _ _ hBwm (by first | exact Nat.le_refl _ | exact Below.size (by assumption)) | fail "KK")
              (first
                | (go_at_call 54; refine (unhide W1 _ (unhide BW _ (And.left (by assumption)))).mono ?_; rintro e w6 ⟨rfl, hb1⟩; have hBw6 : Below W0.heap.size W0 w6 := Below.trans (And.left (by assumption)) (hb1.mono (Below.size (And.left (by assumption)))); (first | (replace xb := Box3.all xb hb1) | ((with_reducible (have xb0 := unhide BXA _ _ hb1)); have xb : Box3 w6 W0.heap.size (.bool false) (.slice none 0 0) (.int .i64 0) := xb0; clear xb0) | ((with_reducible (have xb0 := unhide BXC _ _ hb1)); have xb : Box3 w6 W0.heap.size (.bool false) (.slice none 0 0) (.int .i64 0) := xb0; clear xb0) | ((with_reducible (have xb0 := unhide BXB _ _ _ hb1)); have xb : Box3 w6 _ (.bool false) (.slice none 0 0) (.int .i64 0) := xb0; clear xb0) | skip); (first | (with_reducible (replace QV := hide ((unhide QV).below hb1))) | (with_reducible (replace QV := hide (((unhide QV).below (below_alloc9 _ _)).below hb1))) | skip); (first | (with_reducible (replace QR := hide ((unhide QR).below hb1))) | (with_reducible (replace QR := hide (((unhide QR).below (below_alloc9 _ _)).below hb1))) | skip); (first | (with_reducible (replace QC := hide ((unhide QC).below hb1))) | (with_reducible (replace QC := hide (((unhide QC).below (below_alloc9 _ _)).below hb1))) | skip); (first | (with_reducible (replace QD := hide ((unhide QD).below hb1))) | (with_reducible (replace QD := hide (((unhide QD).below (below_alloc9 _ _)).below hb1))) | skip);  clear hb1)
                | (go_at_call 53; refine (unhide W2 _ ).mono ?_; rintro e w7 ⟨v7, rfl, qn, hb1⟩; have hBw7 : Below W0.heap.size W0 w7 := Below.trans (And.left (by assumption)) (hb1.mono (Below.size (And.left (by assumption)))); (first | (replace xb := Box3.all xb hb1) | ((with_reducible (have xb0 := unhide BXA _ _ hb1)); have xb : Box3 w7 W0.heap.size (.bool false) (.slice none 0 0) (.int .i64 0) := xb0; clear xb0) | ((with_reducible (have xb0 := unhide BXC _ _ hb1)); have xb : Box3 w7 W0.heap.size (.bool false) (.slice none 0 0) (.int .i64 0) := xb0; clear xb0) | ((with_reducible (have xb0 := unhide BXB _ _ _ hb1)); have xb : Box3 w7 _ (.bool false) (.slice none 0 0) (.int .i64 0) := xb0; clear xb0) | skip); (first | (with_reducible (replace QR := hide ((unhide QR).below hb1))) | (with_reducible (replace QR := hide (((unhide QR).below (below_alloc9 _ _)).below hb1))) | skip); (first | (with_reducible (replace QC := hide ((unhide QC).below hb1))) | (with_reducible (replace QC := hide (((unhide QC).below (below_alloc9 _ _)).below hb1))) | skip); (first | (with_reducible (replace QD := hide ((unhide QD).below hb1))) | (with_reducible (replace QD := hide (((unhide QD).below (below_alloc9 _ _)).below hb1))) | skip); have QV := hide qn; clear qn; clear hb1)
                | (go_at_call 55; refine (unhide W3 _ (unhide BW _ (And.left (by assumption)))).mono ?_; rintro e w8 ⟨po, pd, rfl, qn, hb1⟩; have hBw8 : Below W0.heap.size W0 w8 := Below.trans (And.left (by assumption)) (hb1.mono (Below.size (And.left (by assumption)))); (first | (replace xb := Box3.all xb hb1) | ((with_reducible (have xb0 := unhide BXA _ _ hb1)); have xb : Box3 w8 W0.heap.size (.bool false) (.slice none 0 0) (.int .i64 0) := xb0; clear xb0) | ((with_reducible (have xb0 := unhide BXC _ _ hb1)); have xb : Box3 w8 W0.heap.size (.bool false) (.slice none 0 0) (.int .i64 0) := xb0; clear xb0) | ((with_reducible (have xb0 := unhide BXB _ _ _ hb1)); have xb : Box3 w8 _ (.bool false) (.slice none 0 0) (.int .i64 0) := xb0; clear xb0) | skip); (first | (with_reducible (replace QV := hide ((unhide QV).below hb1))) | (with_reducible (replace QV := hide (((unhide QV).below (below_alloc9 _ _)).below hb1))) | skip); (first | (with_reducible (replace QC := hide ((unhide QC).below hb1))) | (with_reducible (replace QC := hide (((unhide QC).below (below_alloc9 _ _)).below hb1))) | skip); (first | (with_reducible (replace QD := hide ((unhide QD).below hb1))) | (with_reducible (replace QD := hide (((unhide QD).below (below_alloc9 _ _)).below hb1))) | skip); have QR := hide qn; clear qn; clear hb1)
                | (go_at_call 46; refine (unhide W4 _ (unhide BW _ (And.left (by assumption)))).mono ?_; rintro e w9 ⟨qo, qd, rfl, qn, hb1⟩; have hBw9 : Below W0.heap.size W0 w9 := Below.trans (And.left (by assumption)) (hb1.mono (Below.size (And.left (by assumption)))); (first | (replace xb := Box3.all xb hb1) | ((with_reducible (have xb0 := unhide BXA _ _ hb1)); have xb : Box3 w9 W0.heap.size (.bool false) (.slice none 0 0) (.int .i64 0) := xb0; clear xb0) | ((with_reducible (have xb0 := unhide BXC _ _ hb1)); have xb : Box3 w9 W0.heap.size (.bool false) (.slice none 0 0) (.int .i64 0) := xb0; clear xb0) | ((with_reducible (have xb0 := unhide BXB _ _ _ hb1)); have xb : Box3 w9 _ (.bool false) (.slice none 0 0) (.int .i64 0) := xb0; clear xb0) | skip); (first | (with_reducible (replace QV := hide ((unhide QV).below hb1))) | (with_reducible (replace QV := hide (((unhide QV).below (below_alloc9 _ _)).below hb1))) | skip); (first | (with_reducible (replace QR := hide ((unhide QR).below hb1))) | (with_reducible (replace QR := hide (((unhide QR).below (below_alloc9 _ _)).below hb1))) | skip); (first | (with_reducible (replace QD := hide ((unhide QD).below hb1))) | (with_reducible (replace QD := hide (((unhide QD).below (below_alloc9 _ _)).below hb1))) | skip); have QC := hide qn; clear qn; clear hb1)
                | (go_at_call 45; refine (unhide W5 _ _ _ _ _ (by first | with_reducible exact unhide QR | exact (unhide QR).below (below_alloc9 _ _)) (by first | with_reducible exact unhide QC | exact (unhide QC).below (below_alloc9 _ _))).mono ?_; rintro e w10 ⟨v10, rfl, qn, hb1⟩; have hBw10 : Below W0.heap.size W0 w10 := Below.trans (And.left (by assumption)) (hb1.mono (Below.size (And.left (by assumption)))); (first | (replace xb := Box3.all xb hb1) | ((with_reducible (have xb0 := unhide BXA _ _ hb1)); have xb : Box3 w10 W0.heap.size (.bool false) (.slice none 0 0) (.int .i64 0) := xb0; clear xb0) | ((with_reducible (have xb0 := unhide BXC _ _ hb1)); have xb : Box3 w10 W0.heap.size (.bool false) (.slice none 0 0) (.int .i64 0) := xb0; clear xb0) | ((with_reducible (have xb0 := unhide BXB _ _ _ hb1)); have xb : Box3 w10 _ (.bool false) (.slice none 0 0) (.int .i64 0) := xb0; clear xb0) | skip); (first | (with_reducible (replace QV := hide ((unhide QV).below hb1))) | (with_reducible (replace QV := hide (((unhide QV).below (below_alloc9 _ _)).below hb1))) | skip); (first | (with_reducible (replace QR := hide ((unhide QR).below hb1))) | (with_reducible (replace QR := hide (((unhide QR).below (below_alloc9 _ _)).below hb1))) | skip); (first | (with_reducible (replace QC := hide ((unhide QC).below hb1))) | (with_reducible (replace QC := hide (((unhide QC).below (below_alloc9 _ _)).below hb1))) | skip); have QD := hide qn; clear qn; clear hb1)
                | (go_at_call 47; refine (unhide W6 _ _ _ (by first | with_reducible exact unhide QV | exact (unhide QV).below (below_alloc9 _ _)) (by first | with_reducible exact unhide QD | exact (unhide QD).below (below_alloc9 _ _))).mono ?_; rintro e wm ⟨q, rfl, ⟨n5, a5, c5, L5, rfl, i5⟩, hb1⟩; have hBwm : Below W0.heap.size W0 wm := Below.trans (And.left (by assumption)) (hb1.mono (Below.size (And.left (by assumption)))); (first | (replace xb := Box3.all xb hb1) | ((with_reducible (have xb0 := unhide BXA _ _ hb1)); have xb : Box3 wm W0.heap.size (.bool false) (.slice none 0 0) (.int .i64 0) := xb0; clear xb0) | ((with_reducible (have xb0 := unhide BXC _ _ hb1)); have xb : Box3 wm W0.heap.size (.bool false) (.slice none 0 0) (.int .i64 0) := xb0; clear xb0) | ((with_reducible (have xb0 := unhide BXB _ _ _ hb1)); have xb : Box3 wm _ (.bool false) (.slice none 0 0) (.int .i64 0) := xb0; clear xb0) | skip); (first | (with_reducible (replace QV := hide ((unhide QV).below hb1))) | (with_reducible (replace QV := hide (((unhide QV).below (below_alloc9 _ _)).below hb1))) | skip); (first | (with_reducible (replace QR := hide ((unhide QR).below hb1))) | (with_reducible (replace QR := hide (((unhide QR).below (below_alloc9 _ _)).below hb1))) | skip); (first | (with_reducible (replace QC := hide ((unhide QC).below hb1))) | (with_reducible (replace QC := hide (((unhide QC).below (below_alloc9 _ _)).below hb1))) | skip); (first | (with_reducible (replace QD := hide ((unhide QD).below hb1))) | (with_reducible (replace QD := hide (((unhide QD).below (below_alloc9 _ _)).below hb1))) | skip); have IP := hide (show IsLv wm (.agg #[.bool n5, .slice a5 L5.length c5, .int .i64 (oE (D j k) lo1)]) lo1 (D j k) from ⟨n5, a5, c5, L5, rfl, i5⟩); (first | (have y0 := xb.c0; have y1 := xb.c1; have y2 := xb.c2; have f0 := xb.free 0; have f1 := xb.free 1; have f2 := xb.free 2) | skip); clear i5; clear hb1)
                | fail "NO ARM")
            all_goals
              first
                | (have xq := xb; clear y0 y1 y2 f0 f1 f2; go_wp2_with fail; go_meet; case rel => exact ⟨_, rfl, hide ⟨(unhide SA _ hBwm).away ⟨_, _, _, _, _, xq, IsLv.zero _ 0⟩ (by first | exact unhide HG | exact Nat.lt_of_lt_of_le (unhide HG) (Below.size hBw6) | exact Nat.lt_of_lt_of_le (unhide HG) (Below.size hBw7) | exact Nat.lt_of_lt_of_le (unhide HG) (Below.size hBw8) | exact Nat.lt_of_lt_of_le (unhide HG) (Below.size hBw9) | exact Nat.lt_of_lt_of_le (unhide HG) (Below.size hBw10)) _ _ _, ⟨_, _, _, _, _, xq.put _ _ _, IsDy.put3 (unhide IP) xq _ _ _⟩, (by first | exact unhide HG | exact Nat.lt_of_lt_of_le (unhide HG) (Below.size hBw6) | exact Nat.lt_of_lt_of_le (unhide HG) (Below.size hBw7) | exact Nat.lt_of_lt_of_le (unhide HG) (Below.size hBw8) | exact Nat.lt_of_lt_of_le (unhide HG) (Below.size hBw9) | exact Nat.lt_of_lt_of_le (unhide HG) (Below.size hBw10))⟩⟩)
                | (go_wp2_with fail; go_meet; case rel => exact ⟨_, rfl, hide ⟨(unhide SA _ hBwm).all (below_alloc9 _ _), ⟨_, _, _, _, _, Box3.new _ _ _ _, (unhide IP).below (below_alloc9 _ _)⟩, Nat.lt_of_lt_of_le (unhide HG) (Below.size hBwm)⟩⟩)
                | fail "NO WAY"
          case rest =>
            obtain ⟨g, rfl, hD⟩ := hcut
            obtain ⟨hS, hkp, hg⟩ := unhide hD
            have ST := hide hS; have KP := hide hkp; have HG := hide hg
            clear hS hkp hg hD
            have W7 := hide (fun w' v => unhide K7 w' j k v hlt hkc)
            have W8 := hide (fun w' v u => unhide K8 w' j k v u hlt hkc)
            go_wp2_with fail
            refine at_world (fun W => RsSt w W r c r n n c ao bo co na nb nc ca cb cc lo2 (sm j k) ∧ Kept W g lo1 (D j k)) ⟨unhide ST, unhide KP⟩ ?_
            clear ST KP
            rintro W0 ⟨st, kp⟩
            have D0 := (Below.refl W0.heap.size W0).drew
            have ST := hide (st.all D0)
            obtain ⟨n1, a1, l1, c1, X1, bd, id⟩ := kp.all D0
            obtain ⟨n2, a2, l2, c2, X2, bs, is⟩ := (unhide ST).2
            have BD := hide bd; have ID := hide id; have BS := hide bs; have IS := hide is
            have d0 := bd.c0; have d1 := bd.c1; have d2 := bd.c2
            have y0 := bs.c0; have y1 := bs.c1; have y2 := bs.c2; have f0 := bs.free 0; have f1 := bs.free 1; have f2 := bs.free 2
            clear st kp bd id bs is D0
            go_region_with (first
              | (go_at_call 51; refine (unhide W7 _ _ (unhide ID)).mono ?_; rintro e w9 ⟨v, rfl, qn, hb1⟩; clear y0 y1 y2 f0 f1 f2 d0 d1 d2; replace BS := hide ((unhide BS).all hb1); replace BD := hide ((unhide BD).all hb1); replace ST := hide ((unhide ST).all hb1); have y0 := (unhide BS).c0; have y1 := (unhide BS).c1; have y2 := (unhide BS).c2; have f0 := (unhide BS).free 0; have f1 := (unhide BS).free 1; have f2 := (unhide BS).free 2; have d0 := (unhide BD).c0; have d1 := (unhide BD).c1; have d2 := (unhide BD).c2; replace IS := hide ((unhide IS).below hb1); have QM := hide qn; clear qn hb1)
              | (go_at_call 50; refine (unhide W8 _ _ _ (unhide IS) (unhide QM)).mono ?_; rintro e w9 ⟨v, rfl, ⟨n5, a5, c5, L5, rfl, i5⟩, hb1⟩; clear y0 y1 y2 f0 f1 f2 d0 d1 d2; replace BS := hide ((unhide BS).all hb1); replace BD := hide ((unhide BD).all hb1); replace ST := hide ((unhide ST).all hb1); have y0 := (unhide BS).c0; have y1 := (unhide BS).c1; have y2 := (unhide BS).c2; have f0 := (unhide BS).free 0; have f1 := (unhide BS).free 1; have f2 := (unhide BS).free 2; have d0 := (unhide BD).c0; have d1 := (unhide BD).c1; have d2 := (unhide BD).c2; have IP := hide (show IsLv w9 (.agg #[.bool n5, .slice a5 L5.length c5, .int .i64 (oE (sm j (k + 1)) lo2)]) lo2 (sm j (k + 1)) from ⟨n5, a5, c5, L5, rfl, i5⟩); clear i5 hb1)
              | fail "NO ARM")
            all_goals
              clear d0 d1 d2 y0 y1 y2 f0 f1 f2
              go_wp2_with fail
              go_roundw
              case rel =>
                first
                  | exact ⟨k + 1, by omega, by go_num, hide ((unhide ST).put (unhide IP))⟩
                  | ((repeat apply Exists.intro); exact ⟨⟨k + 1, by omega, by go_num, hide ((unhide ST).put (unhide IP))⟩, rfl⟩)
              case measure => simp [intOf]; omega
        · have hkk : k = c := by omega
          subst hkk
          go_wp2_with fail
          go_round
          case rel => exact ⟨j + 1, by omega, by go_num, by rw [unhide S1]; exact hS⟩
          case measure => simp [intOf]; omega
    · have hjj : j = r := by omega
      subst hjj
      obtain ⟨⟨_, _, _, h1, h3⟩, ⟨nn, aa, ll, cx, X, bx, ix⟩⟩ := unhide hS
      have y0 := bx.c0; have y1 := bx.c1; have y2 := bx.c2
      have r0 := h1.c0; have r1 := h1.c1; have r2 := h1.c2; have f0 := h1.free 0; have f1 := h1.free 1; have f2 := h1.free 2
      have xe := h1.put (.bool nn) (.slice aa ll cx) (.int .i64 X)
      have e0 := xe.c0; have e1 := xe.c1; have e2 := xe.c2
      have HS := hide (IsDy.put3 ix h1 (.bool nn) (.slice aa ll cx) (.int .i64 X))
      have BE := hide (below_put3 h3 (show w.heap.size ≤ w.heap.size + 1 + 1 + 1 by omega) (.bool nn) (.slice aa ll cx) (.int .i64 X))
      clear xe h1 bx ix h3 hS
      go_wp2_with fail
      exact bodyPost_ret (v := .agg #[.bool nn, .slice aa ll cx, .int .i64 X]) (by simp [results, Tryz.results19, go_sem, e0, e1, e2]) rfl ⟨_, rfl, unhide HS, unhide BE⟩

end Go.Proofs.YtfnnbkclnflpfaaGreatDoor

/- The reference of layer 11: sums. -/
namespace Go.Proofs.YtfnnbkclnflpfaaGreatDoor
open Go.RowKit
attribute [local go_sem ↓] Go.wp_at_zero Go.wp_at_succ

set_option maxRecDepth 20000 in
set_option maxHeartbeats 16000000 in
theorem rsums_of (ao bo : Option Addr) (c d n : Nat) (I : List Int) (lo lo1 lo2 : Int) (fa fb sm : Nat → Int) (w : World) (hI : BitsAt w ao c I) (hJ : DysAt w bo d n lo1 fb) (hi : I.length = n) (hn : n ≤ 8) (h0 : sm 0 = 0)
    (C1 : ∀ w' k, k < n → Calls Tryz.prog 53 #[.int .u64 (atB I k : Nat)] w' fun r w'' => ∃ u, r = .returned u ∧ IsLv w'' u lo (fa k) ∧ Below w'.heap.size w' w'')
    (C3 : ∀ w' k v u, k < n → IsLv w' v lo (fa k) → IsLv w' u lo1 (fb k) → Calls Tryz.prog 51 #[v, u] w' fun r w'' => ∃ q, r = .returned q ∧ IsLv w'' q lo2 (fa k * fb k) ∧ Below w'.heap.size w' w'')
    (C4 : ∀ w' k v u, k < n → IsLv w' v lo2 (sm k) → IsLv w' u lo2 (fa k * fb k) → Calls Tryz.prog 50 #[v, u] w' fun r w'' => ∃ q, r = .returned q ∧ IsLv w'' q lo2 (sm (k + 1)) ∧ Below w'.heap.size w' w'') :
    Calls Tryz.prog 56 #[.slice ao n c, .slice bo n d] w fun e w' => ∃ v, e = .returned v ∧ IsLv w' v lo2 (sm n) ∧ Below w.heap.size w w' := by
  have K1 := hide C1; have K3 := hide C3; have K4 := hide C4; have HI := hide hI; have HJ := hide hJ; have LI := hide hi
  have ST := hide (show DtSt w _ lo2 (sm 0) from by rw [h0]; exact DtSt.start w lo2)
  clear C1 C3 C4 hI hJ hi h0
  go_enter Tryz.func56, Tryz.ntmps56
  go_wp2_with fail
  go_loopw [6] (fun i wr => ∃ k : Nat, k ≤ n ∧ i = .int .i64 k ∧ Hid (DtSt w wr lo2 (sm k))) (fun i _ => n - (intOf i).toNat)
  case atStart => exact ⟨0, Nat.zero_le _, rfl, ST⟩
  case round =>
    clear ST
    obtain ⟨k, hk, rfl, hS⟩ := hrel
    by_cases hlt : k < n
    · have hkI : (k : Int) < (n : Int) := by omega
      have W1 := hide (fun w' => unhide K1 w' k hlt)
      have W3 := hide (fun w' v u => unhide K3 w' k v u hlt)
      have W4 := hide (fun w' v u => unhide K4 w' k v u hlt)
      obtain ⟨b1, o1, rfl, p1, q1⟩ := (unhide HI).ne (by rw [unhide LI]; omega)
      rcases (unhide HJ).2 with e | ⟨b2, o2, rfl, p2, q2⟩
      · omega
      have cx := q1 k (by rw [unhide LI]; exact hlt)
      obtain ⟨yd, e0, e1, e2, hy⟩ := q2 k hlt
      obtain ⟨yn, ya, yl, yc, yX⟩ := yd
      generalize atB I k = x at *
      have KX := hide cx; have KY := hide (show w.cell? ⟨b2, o2 + k * 3, none⟩ = some (.bool yn) ∧ w.cell? ⟨b2, o2 + k * 3 + 1, none⟩ = some (.slice ya yl yc) ∧ w.cell? ⟨b2, o2 + k * 3 + 2, none⟩ = some (.int .i64 yX) from ⟨e0, e1, e2⟩); have P1 := hide p1; have P2 := hide p2
      have QY0 := hide (show IsLv w (.agg #[.bool yn, .slice ya yl yc, .int .i64 yX]) lo1 (fb k) from hy)
      clear q1 q2 cx e0 e1 e2 hy p1 p2
      go_wp2_with fail
      refine at_world (fun W => DtSt w W lo2 (sm k)) (unhide hS) ?_
      clear hS
      rintro W0 hS
      have D0 := (Below.refl W0.heap.size W0).drew
      have SS := hide (hS.all D0)
      obtain ⟨nn, aa, ll, cc, X, bx, ix⟩ := (unhide SS).2.1
      have y0 := bx.c0; have y1 := bx.c1; have y2 := bx.c2; have f0 := bx.free 0; have f1 := bx.free 1; have f2 := bx.free 2
      have BX := hide bx; have IX := hide ix
      have HK := hide (show ∀ w' (h : Below w.heap.size w w'), w'.cell? ⟨b1, o1 + k, none⟩ = some (.int .u64 (x : Nat)) ∧ w'.cell? ⟨b2, o2 + k * 3, none⟩ = some (.bool yn) ∧ w'.cell? ⟨b2, o2 + k * 3 + 1, none⟩ = some (.slice ya yl yc) ∧ w'.cell? ⟨b2, o2 + k * 3 + 2, none⟩ = some (.int .i64 yX) from fun w' h =>
        ⟨(h.cell (p := ⟨b1, o1 + k, none⟩) (unhide P1)).trans (unhide KX), (h.cell (p := ⟨b2, o2 + k * 3, none⟩) (unhide P2)).trans (unhide KY).1, (h.cell (p := ⟨b2, o2 + k * 3 + 1, none⟩) (unhide P2)).trans (unhide KY).2.1, (h.cell (p := ⟨b2, o2 + k * 3 + 2, none⟩) (unhide P2)).trans (unhide KY).2.2⟩)
      clear hS D0 bx ix KX KY P1 P2
      obtain ⟨cx, cy, cz, cu⟩ := unhide HK _ (unhide SS).2.2
      go_region_with (first
          | (go_at_call 53; refine (unhide W1 _).mono ?_; rintro e w4 ⟨q, rfl, hq, hb1⟩; replace SS := hide ((unhide SS).all hb1); have QX := hide hq; clear y0 y1 y2 f0 f1 f2 cx cy cz cu; replace BX := hide ((unhide BX).all hb1); replace IX := hide ((unhide IX).below hb1); obtain ⟨cx, cy, cz, cu⟩ := unhide HK _ (unhide SS).2.2; have y0 := (unhide BX).c0; have y1 := (unhide BX).c1; have y2 := (unhide BX).c2; have f0 := (unhide BX).free 0; have f1 := (unhide BX).free 1; have f2 := (unhide BX).free 2; clear hq hb1)
          | (go_at_call 51; refine (unhide W3 _ _ _ (unhide QX) ((unhide QY0).below (unhide SS).2.2)).mono ?_; rintro e w4 ⟨q, rfl, hq, hb1⟩; replace SS := hide ((unhide SS).all hb1); have QP := hide hq; clear y0 y1 y2 f0 f1 f2 cx cy cz cu; replace BX := hide ((unhide BX).all hb1); replace IX := hide ((unhide IX).below hb1); obtain ⟨cx, cy, cz, cu⟩ := unhide HK _ (unhide SS).2.2; have y0 := (unhide BX).c0; have y1 := (unhide BX).c1; have y2 := (unhide BX).c2; have f0 := (unhide BX).free 0; have f1 := (unhide BX).free 1; have f2 := (unhide BX).free 2; clear hq hb1)
          | (go_at_call 50; refine (unhide W4 _ _ _ (unhide IX) (unhide QP)).mono ?_; rintro e w4 ⟨q, rfl, ⟨n5, a5, c5, L5, rfl, i5⟩, hb1⟩; replace SS := hide ((unhide SS).all hb1); have QS := hide (show IsLv w4 (.agg #[.bool n5, .slice a5 L5.length c5, .int .i64 (oE (sm (k + 1)) lo2)]) lo2 (sm (k + 1)) from ⟨n5, a5, c5, L5, rfl, i5⟩); clear y0 y1 y2 f0 f1 f2 cx cy cz cu; replace BX := hide ((unhide BX).all hb1); obtain ⟨cx, cy, cz, cu⟩ := unhide HK _ (unhide SS).2.2; have y0 := (unhide BX).c0; have y1 := (unhide BX).c1; have y2 := (unhide BX).c2; have f0 := (unhide BX).free 0; have f1 := (unhide BX).free 1; have f2 := (unhide BX).free 2; have SF := hide ((unhide SS).put (unhide QS)); clear i5 hb1)
          | fail "NO ARM")
      all_goals
        go_wp2_with fail
        go_round
        case rel => exact ⟨k + 1, by omega, by go_num, SF⟩
        case measure => simp [intOf]; omega
    · have hkk : k = n := by omega
      subst hkk
      obtain ⟨h1, ⟨nn, aa, ll, cc, X, bx, ix⟩, h3⟩ := unhide hS
      have y0 := bx.c0; have y1 := bx.c1; have y2 := bx.c2
      have r0 := h1.c0; have r1 := h1.c1; have r2 := h1.c2; have f0 := h1.free 0; have f1 := h1.free 1; have f2 := h1.free 2
      have xe := h1.put (.bool nn) (.slice aa ll cc) (.int .i64 X)
      have e0 := xe.c0; have e1 := xe.c1; have e2 := xe.c2
      have HS := hide (IsDy.put3 ix h1 (.bool nn) (.slice aa ll cc) (.int .i64 X))
      have BE := hide (below_put3 h3 (Nat.le_refl _) (.bool nn) (.slice aa ll cc) (.int .i64 X))
      clear xe h1 bx ix h3 hS
      go_wp2_with fail
      exact bodyPost_ret (v := .agg #[.bool nn, .slice aa ll cc, .int .i64 X]) (by simp [results, Tryz.results56, go_sem, e0, e1, e2]) rfl ⟨_, rfl, unhide HS, unhide BE⟩

end Go.Proofs.YtfnnbkclnflpfaaGreatDoor

/- The reference of layer 11: Gradient by letters. -/
namespace Go.Proofs.YtfnnbkclnflpfaaGreatDoor
open Go.RowKit
attribute [local go_sem ↓] Go.wp_at_zero Go.wp_at_succ

theorem OwnD.made (w : World) (base : Nat) (lo : Int) (f : Nat → Int) (hb : base ≤ w.heap.size) : OwnD base (w.alloc (.cells #[] 29)) (.slice (some ⟨w.heap.size, 0, none⟩) 0 0) 0 lo f :=
  ⟨[], rfl, World.ownsRow_made w #[] 0 hb (by simp [maxLen]) (by simp), fun g hg => by cases hg; exact ⟨#[], _, heap_alloc_new w _, fun u hu => by simp at hu⟩, fun k hk => by omega⟩
theorem OwnD.put3 {base : Nat} {w : World} {v : Value} {n : Nat} {lo : Int} {f : Nat → Int} (h : OwnD base w v n lo f) {g : Nat} {x : Bool} {a : Option Addr} {l c : Nat} {y : Int} (hx : Box3 w g (.bool x) (.slice a l c) (.int .i64 y)) (hg : g < base) (b : Bool) (a' : Option Addr) (l' c' : Nat) (y' : Int) :
    OwnD base (((w.setCell ⟨g, 0, none⟩ (.bool b)).setCell ⟨g, 1, none⟩ (.slice a' l' c')).setCell ⟨g, 2, none⟩ (.int .i64 y')) v n lo f :=
  ((h.set hx.clr hg 0 _).set (hx.clr.set _ _ rfl) hg 1 _).set ((hx.clr.set _ _ rfl).set _ _ rfl) hg 2 _
theorem OwnD.congr {base : Nat} {w : World} {v : Value} {n : Nat} {lo : Int} {f g : Nat → Int} (h : OwnD base w v n lo f) (he : ∀ k, k < n → f k = g k) : OwnD base w v n lo g := by
  obtain ⟨D, h1, h2, h3, h4⟩ := h
  exact ⟨D, h1, h2, h3, fun k hk => by rw [← he k hk]; exact h4 k hk⟩

/-- Boxes and the sum stay where a row behind them grows. -/
theorem RsSt.grown {w W w' : World} {r c p q s d : Int} {ao bo co : Option Addr} {na nb nc ca cb cc : Nat} {lo z : Int} (h : RsSt w W r c p q s d ao bo co na nb nc ca cb cc lo z) {v : Value} (hc : Clear W v) (hl : ∀ k, v.ownBlock = some k → (w.heap.size + 5) ≤ k) (hg : W.grownBy w' v.ownBlock) : RsSt w w' r c p q s d ao bo co na nb nc ca cb cc lo z := by
  obtain ⟨⟨h1, h2, h3, h4, h5⟩, n', a', l', c', X', h6, h7⟩ := h
  have ne : ∀ b, b < (w.heap.size + 5) → v.ownBlock ≠ some b := fun b hb e => by have := hl b e; omega
  exact ⟨⟨h1.grown hg (ne _ (by omega)), h2.grown hg (ne _ (by omega)), h3.grown hg (ne _ (by omega)), (hg.block _ h4.lt (ne _ (by omega)).symm).trans h4, h5.grown hg h5.size (fun k hk => by have := hl k hk; omega)⟩, n', a', l', c', X', (hg.block _ h6.lt (ne _ (by omega)).symm).trans h6, h7.grownClear hc hg⟩

theorem GdPush {w W : World} {r c p q s d : Int} {ao bo co : Option Addr} {na nb nc ca cb cc : Nat} {lo z : Int} {po : Option Addr} {m pc : Nat} {lo1 : Int} {f : Nat → Int} {ng : Bool} {a : Option Addr} {l cp : Nat} {X : Int} (h : RsSt w W r c p q s d ao bo co na nb nc ca cb cc lo z) (ho : OwnD (w.heap.size + 5) W (.slice po m pc) m lo1 f) (hx : IsLv W (.agg #[.bool ng, .slice a l cp, .int .i64 X]) lo1 (f m)) (hm : m ≤ 6) (ty : TypeId) :
    ∃ qo qc w', (Builtin.append_ #[59, 59] ty #[.slice po m pc, .slice (some ⟨W.heap.size, 0, none⟩) 1 1]).run Tryz.prog (W.alloc (.cells #[.bool ng, .slice a l cp, .int .i64 X] 29)) = .ok (.slice qo (m + 1) qc) w' ∧ (RsSt w w' r c p q s d ao bo co na nb nc ca cb cc lo z ∧ OwnD (w.heap.size + 5) w' (.slice qo (m + 1) qc) (m + 1) lo1 f ∧ Below (w.heap.size + 5) W w') := by
  have ba := below_alloc9 W (.cells #[.bool ng, .slice a l cp, .int .i64 X] 29)
  have hsz : (w.heap.size + 5) ≤ W.heap.size := by have := h.2.lt; omega
  have ho' := ho.below ba
  obtain ⟨qo, qc, w', e1, ho2, hg⟩ := ho'.push W.heap.size ⟨ng, a, l, cp, X⟩ (hx.below ba) (heap_alloc_new W _) (by omega) (by simp; omega) ty
  obtain ⟨D, d1, d2, d3, d4⟩ := ho'
  refine ⟨qo, qc, w', e1, (h.all ba).grown d3 (fun k hk => (d2.lt k hk).1) hg, ho2, ?_⟩
  exact (ba.mono hsz).grown hg (by simp; omega) (fun k hk => (d2.lt k hk).1)

set_option maxRecDepth 20000 in
set_option maxHeartbeats 32000000 in
theorem rGrad_of (r n c na nx nb ca cx cb : Nat) (ao xo bo : Option Addr) (x : Nat → Nat → Nat) (rw cl cm : Nat → List Int) (lo1 lo2 lo3 : Int) (xb dd L D : Nat → Nat → Int) (sm : Nat → Nat → Int) (w : World) (hr : r ≤ 6) (hn : n ≤ 6) (hc : c ≤ 6) (s0 : sm 0 0 = 0) (s1 : ∀ k, sm (k + 1) 0 = sm k n)
    (C1 : ∀ w' i, Below w.heap.size w w' → i < r → Calls Tryz.prog 55 #[.agg #[.int .i64 r, .int .i64 n, .slice ao na ca], .int .i64 (i : Nat)] w' fun e w'' => ∃ go d, e = .returned (.slice go n d) ∧ BitsAt w'' go d (rw i) ∧ Below w'.heap.size w' w'')
    (C2 : ∀ w' k, Below w.heap.size w w' → k < c → Calls Tryz.prog 46 #[.agg #[.int .i64 n, .int .i64 c, .slice xo nx cx], .int .i64 (k : Nat), .int .i64 0] w' fun e w'' => ∃ go d, e = .returned (.slice go n d) ∧ BitsAt w'' go d (cl k) ∧ Below w'.heap.size w' w'')
    (C3 : ∀ w' i k ko kd yo yd, i < r → k < c → BitsAt w' ko kd (rw i) → BitsAt w' yo yd (cl k) → Calls Tryz.prog 45 #[.slice ko n kd, .slice yo n yd] w' fun e w'' => ∃ v, e = .returned v ∧ IsLv w'' v lo1 (dd i k) ∧ Below w'.heap.size w' w'')
    (C4 : ∀ w' i k, Below w.heap.size w w' → i < r → k < c → Calls Tryz.prog 54 #[.agg #[.int .i64 r, .int .i64 c, .slice bo nb cb], .int .i64 (i : Nat), .int .i64 (k : Nat)] w' fun e w'' => e = .returned (.int .u64 (x i k : Nat)) ∧ Below w'.heap.size w' w'')
    (C5 : ∀ w' i k, i < r → k < c → Calls Tryz.prog 53 #[.int .u64 (x i k : Nat)] w' fun e w'' => ∃ u, e = .returned u ∧ IsLv w'' u lo1 (xb i k) ∧ Below w'.heap.size w' w'')
    (C6 : ∀ w' i k v u, i < r → k < c → IsLv w' v lo1 (dd i k) → IsLv w' u lo1 (xb i k) → Calls Tryz.prog 47 #[v, u] w' fun e w'' => ∃ q, e = .returned q ∧ IsLv w'' q lo1 (L i k) ∧ Below w'.heap.size w' w'')
    (C7 : ∀ w' j, Below w.heap.size w w' → j < n → Calls Tryz.prog 46 #[.agg #[.int .i64 r, .int .i64 n, .slice ao na ca], .int .i64 (j : Nat), .int .i64 0] w' fun e w'' => ∃ go d, e = .returned (.slice go r d) ∧ BitsAt w'' go d (cm j) ∧ Below w'.heap.size w' w'')
    (C8 : ∀ w' j k ko kd yo yd, j < n → k < c → BitsAt w' ko kd (cm j) → DysAt w' yo yd r lo1 (fun t => L t k) → Calls Tryz.prog 56 #[.slice ko r kd, .slice yo r yd] w' fun e w'' => ∃ v, e = .returned v ∧ IsLv w'' v lo2 (D j k) ∧ Below w'.heap.size w' w'')
    (C9 : ∀ w' j k v, j < n → k < c → IsLv w' v lo2 (D j k) → Calls Tryz.prog 51 #[v, v] w' fun e w'' => ∃ q, e = .returned q ∧ IsLv w'' q lo3 (D j k * D j k) ∧ Below w'.heap.size w' w'')
    (C10 : ∀ w' j k v u, j < n → k < c → IsLv w' v lo3 (sm k j) → IsLv w' u lo3 (D j k * D j k) → Calls Tryz.prog 50 #[v, u] w' fun e w'' => ∃ q, e = .returned q ∧ IsLv w'' q lo3 (sm k (j + 1)) ∧ Below w'.heap.size w' w'') :
    Calls Tryz.prog 20 #[.agg #[.int .i64 r, .int .i64 n, .slice ao na ca], .agg #[.int .i64 n, .int .i64 c, .slice xo nx cx], .agg #[.int .i64 r, .int .i64 c, .slice bo nb cb]] w fun e w' => ∃ v, e = .returned v ∧ IsLv w' v lo3 (sm c 0) ∧ Below w.heap.size w w' := by
  have K1 := hide C1; have K2 := hide C2; have K3 := hide C3; have K4 := hide C4; have K5 := hide C5; have K6 := hide C6; have K7 := hide C7; have K8 := hide C8; have K9 := hide C9; have K10 := hide C10; have S1 := hide s1
  have ST := hide (show RsSt w _ r n n c r c ao xo bo na nx nb ca cx cb lo3 (sm 0 0) from by rw [s0]; exact RsSt.start w r n n c r c ao xo bo na nx nb ca cx cb lo3)
  clear C1 C2 C3 C4 C5 C6 C7 C8 C9 C10 s0 s1
  go_enter Tryz.func20, Tryz.ntmps20
  go_wp2_with fail
  go_loopw [8] (fun i wr => ∃ k : Nat, k ≤ c ∧ i = .int .i64 k ∧ Hid (RsSt w wr r n n c r c ao xo bo na nx nb ca cx cb lo3 (sm k 0))) (fun i _ => c - (intOf i).toNat)
  case atStart => exact ⟨0, Nat.zero_le _, rfl, ST⟩
  case round =>
    clear ST
    obtain ⟨k, hk, rfl, hS⟩ := hrel
    have m1 := (unhide hS).1.2.1.c1
    by_cases hkc : k < c
    · have hkI : (k : Int) < (c : Int) := by omega
      have BA := below_alloc9 wr (.cells #[] 29)
      have SO := hide (show RsSt w _ r n n c r c ao xo bo na nx nb ca cx cb lo3 (sm k 0) ∧ OwnD (w.heap.size + 5) _ (.slice (some ⟨wr.heap.size, 0, none⟩) 0 0) 0 lo1 (fun t => L t k) from ⟨(unhide hS).all BA, OwnD.made wr _ lo1 (fun t => L t k) (by have := (unhide hS).2.lt; omega)⟩)
      clear BA
      go_wp2_with fail
      clear m1 hS
      go_loopw [9, 10] (fun v i wr => ∃ (j : Nat) (po : Option Addr) (pc : Nat), j ≤ r ∧ i = .int .i64 j ∧ v = .slice po j pc ∧ Hid (RsSt w wr r n n c r c ao xo bo na nx nb ca cx cb lo3 (sm k 0) ∧ OwnD (w.heap.size + 5) wr (.slice po j pc) j lo1 (fun t => L t k))) (fun _ i _ => r - (intOf i).toNat)
      case atStart => exact ⟨0, _, 0, Nat.zero_le _, rfl, rfl, SO⟩
      case round =>
        clear SO
        obtain ⟨j, po, pc, hj, rfl, rfl, hS⟩ := hrel
        have m1 := (unhide hS).1.1.1.c0
        by_cases hlt : j < r
        · have hjI : (j : Int) < (r : Int) := by omega
          go_wp2_with fail
          clear m1
          refine at_world (fun W => RsSt w W r n n c r c ao xo bo na nx nb ca cx cb lo3 (sm k 0) ∧ OwnD (w.heap.size + 5) W (.slice po j pc) j lo1 (fun t => L t k)) (unhide hS) ?_
          clear hS
          rintro W0 ⟨hS, hO⟩
          have D0 := (Below.refl W0.heap.size W0).drew
          have HK := hide (show ∀ w' (h : Below (w.heap.size + 5) W0 w'), Below (w.heap.size + 5) W0 w' ∧ w'.cell? ⟨w.heap.size, 0, none⟩ = some (.int .i64 r) ∧ w'.cell? ⟨w.heap.size, 1, none⟩ = some (.int .i64 n) ∧ w'.cell? ⟨w.heap.size, 2, none⟩ = some (.slice ao na ca) ∧ w'.cell? ⟨w.heap.size + 1, 0, none⟩ = some (.int .i64 n) ∧ w'.cell? ⟨w.heap.size + 1, 1, none⟩ = some (.int .i64 c) ∧ w'.cell? ⟨w.heap.size + 1, 2, none⟩ = some (.slice xo nx cx) ∧ w'.cell? ⟨w.heap.size + 1 + 1, 0, none⟩ = some (.int .i64 r) ∧ w'.cell? ⟨w.heap.size + 1 + 1, 1, none⟩ = some (.int .i64 c) ∧ w'.cell? ⟨w.heap.size + 1 + 1, 2, none⟩ = some (.slice bo nb cb) from fun w' h => ⟨h, (hS.1.1.below h (by omega)).c0, (hS.1.1.below h (by omega)).c1, (hS.1.1.below h (by omega)).c2, (hS.1.2.1.below h (by omega)).c0, (hS.1.2.1.below h (by omega)).c1, (hS.1.2.1.below h (by omega)).c2, (hS.1.2.2.1.below h (by omega)).c0, (hS.1.2.2.1.below h (by omega)).c1, (hS.1.2.2.1.below h (by omega)).c2⟩)
          have HKA := hide (fun wn o (h1 : Below (w.heap.size + 5) W0 wn) (h2 : (w.heap.size + 5) ≤ wn.heap.size) => unhide HK (wn.alloc o) (h1.alloc h2 o))
          have HG := hide (show (w.heap.size + 5) ≤ W0.heap.size by have := hS.2.lt; omega)
          have SS := hide (hS.all D0); have OW := hide (hO.below D0)
          have W1 := hide (fun w' h => unhide K1 w' j h hlt)
          have W2 := hide (fun w' h => unhide K2 w' k h hkc)
          have W3 := hide (fun w' ko kd yo yd => unhide K3 w' j k ko kd yo yd hlt hkc)
          have W4 := hide (fun w' h => unhide K4 w' j k h hlt hkc)
          have W5 := hide (fun w' => unhide K5 w' j k hlt hkc)
          have W6 := hide (fun w' v u => unhide K6 w' j k v u hlt hkc)
          have HJ6 := hide (show j ≤ 6 by omega)
          generalize x j k = xx at *
          clear hS hO D0
          go_region_held3 (fun w' => Below (w.heap.size + 5) W0 w' ∧ w'.cell? ⟨w.heap.size, 0, none⟩ = some (.int .i64 r) ∧ w'.cell? ⟨w.heap.size, 1, none⟩ = some (.int .i64 n) ∧ w'.cell? ⟨w.heap.size, 2, none⟩ = some (.slice ao na ca) ∧ w'.cell? ⟨w.heap.size + 1, 0, none⟩ = some (.int .i64 n) ∧ w'.cell? ⟨w.heap.size + 1, 1, none⟩ = some (.int .i64 c) ∧ w'.cell? ⟨w.heap.size + 1, 2, none⟩ = some (.slice xo nx cx) ∧ w'.cell? ⟨w.heap.size + 1 + 1, 0, none⟩ = some (.int .i64 r) ∧ w'.cell? ⟨w.heap.size + 1 + 1, 1, none⟩ = some (.int .i64 c) ∧ w'.cell? ⟨w.heap.size + 1 + 1, 2, none⟩ = some (.slice bo nb cb))
            (first | assumption | exact unhide HK _ (Below.refl _ _).drew | exact unhide HK _ (by assumption) | exact unhide HKA _ _ (by assumption) (Nat.le_trans (unhide HG) (Below.size (by assumption))) | fail "KK")
            (first
              | (refine step_append_ex _ (by rfl) _ _ 59 (by rfl) _ _ _ _ (by rfl) (by rfl) (unhide PU) ?_; rintro ro rc w5 ⟨st5, ow5, hb5⟩; have hB5 : Below (w.heap.size + 5) W0 w5 := hBwm.trans hb5; have SO5 := hide (And.intro st5 ow5); clear st5 ow5 hb5 PU)
              | (go_simp; (go_at_call 54; refine (unhide W4 _ (unhide SS).1.2.2.2.2).mono ?_; rintro e w6 ⟨rfl, hb1⟩; have hBw6 : Below (w.heap.size + 5) W0 w6 := Below.trans (And.left (by assumption)) (hb1.mono (Nat.le_trans (unhide HG) (Below.size (And.left (by assumption))))); (first | (with_reducible (replace QV := hide ((unhide QV).below hb1))) | skip); (first | (with_reducible (replace QR := hide ((unhide QR).below hb1))) | skip); (first | (with_reducible (replace QC := hide ((unhide QC).below hb1))) | skip); (first | (with_reducible (replace QD := hide ((unhide QD).below hb1))) | skip); replace SS := hide ((unhide SS).all hb1); replace OW := hide ((unhide OW).below hb1);  clear hb1))
              | (go_simp; (go_at_call 53; refine (unhide W5 _ ).mono ?_; rintro e w7 ⟨v7, rfl, qn, hb1⟩; have hBw7 : Below (w.heap.size + 5) W0 w7 := Below.trans (And.left (by assumption)) (hb1.mono (Nat.le_trans (unhide HG) (Below.size (And.left (by assumption))))); (first | (with_reducible (replace QR := hide ((unhide QR).below hb1))) | skip); (first | (with_reducible (replace QC := hide ((unhide QC).below hb1))) | skip); (first | (with_reducible (replace QD := hide ((unhide QD).below hb1))) | skip); replace SS := hide ((unhide SS).all hb1); replace OW := hide ((unhide OW).below hb1); have QV := hide qn; clear qn; clear hb1))
              | (go_simp; (go_at_call 55; refine (unhide W1 _ (unhide SS).1.2.2.2.2).mono ?_; rintro e w8 ⟨po2, pd2, rfl, qn, hb1⟩; have hBw8 : Below (w.heap.size + 5) W0 w8 := Below.trans (And.left (by assumption)) (hb1.mono (Nat.le_trans (unhide HG) (Below.size (And.left (by assumption))))); (first | (with_reducible (replace QV := hide ((unhide QV).below hb1))) | skip); (first | (with_reducible (replace QC := hide ((unhide QC).below hb1))) | skip); (first | (with_reducible (replace QD := hide ((unhide QD).below hb1))) | skip); replace SS := hide ((unhide SS).all hb1); replace OW := hide ((unhide OW).below hb1); have QR := hide qn; clear qn; clear hb1))
              | (go_simp; (go_at_call 46; refine (unhide W2 _ (unhide SS).1.2.2.2.2).mono ?_; rintro e w9 ⟨qo2, qd2, rfl, qn, hb1⟩; have hBw9 : Below (w.heap.size + 5) W0 w9 := Below.trans (And.left (by assumption)) (hb1.mono (Nat.le_trans (unhide HG) (Below.size (And.left (by assumption))))); (first | (with_reducible (replace QV := hide ((unhide QV).below hb1))) | skip); (first | (with_reducible (replace QR := hide ((unhide QR).below hb1))) | skip); (first | (with_reducible (replace QD := hide ((unhide QD).below hb1))) | skip); replace SS := hide ((unhide SS).all hb1); replace OW := hide ((unhide OW).below hb1); have QC := hide qn; clear qn; clear hb1))
              | (go_simp; (go_at_call 45; refine (unhide W3 _ _ _ _ _ (unhide QR) (unhide QC)).mono ?_; rintro e w10 ⟨v10, rfl, qn, hb1⟩; have hBw10 : Below (w.heap.size + 5) W0 w10 := Below.trans (And.left (by assumption)) (hb1.mono (Nat.le_trans (unhide HG) (Below.size (And.left (by assumption))))); (first | (with_reducible (replace QV := hide ((unhide QV).below hb1))) | skip); (first | (with_reducible (replace QR := hide ((unhide QR).below hb1))) | skip); (first | (with_reducible (replace QC := hide ((unhide QC).below hb1))) | skip); replace SS := hide ((unhide SS).all hb1); replace OW := hide ((unhide OW).below hb1); have QD := hide qn; clear qn; clear hb1))
              | (go_simp; (go_at_call 47; refine (unhide W6 _ _ _ (unhide QD) (unhide QV)).mono ?_; rintro e wm ⟨q, rfl, ⟨n5, a5, c5, L5, rfl, i5⟩, hb1⟩; have hBwm : Below (w.heap.size + 5) W0 wm := Below.trans (And.left (by assumption)) (hb1.mono (Nat.le_trans (unhide HG) (Below.size (And.left (by assumption))))); (first | (with_reducible (replace QV := hide ((unhide QV).below hb1))) | skip); (first | (with_reducible (replace QR := hide ((unhide QR).below hb1))) | skip); (first | (with_reducible (replace QC := hide ((unhide QC).below hb1))) | skip); (first | (with_reducible (replace QD := hide ((unhide QD).below hb1))) | skip); replace SS := hide ((unhide SS).all hb1); replace OW := hide ((unhide OW).below hb1); have IP := hide (show IsLv wm (.agg #[.bool n5, .slice a5 L5.length c5, .int .i64 (oE (L j k) lo1)]) lo1 (L j k) from ⟨n5, a5, c5, L5, rfl, i5⟩); have PU := hide (GdPush (unhide SS) (unhide OW) (unhide IP) (unhide HJ6) 59); clear i5; clear hb1))
              | fail "NO ARM")
          all_goals
            clear SS OW HK HKA W1 W2 W3 W4 W5 W6
            go_wp2_with fail
            go_round
            case rel => exact ⟨j + 1, ro, rc, by omega, by go_num, rfl, SO5⟩
            case measure => simp [intOf]; omega
        · have hjj : j = r := by omega
          subst hjj
          go_wp2_with fail
          clear m1
          go_loopw [11] (fun i wr => ∃ i' : Nat, i' ≤ n ∧ i = .int .i64 i' ∧ Hid (RsSt w wr j n n c j c ao xo bo na nx nb ca cx cb lo3 (sm k i') ∧ OwnD (w.heap.size + 5) wr (.slice po j pc) j lo1 (fun t => L t k))) (fun i _ => n - (intOf i).toNat)
          case atStart => exact ⟨0, Nat.zero_le _, rfl, hS⟩
          case round =>
            clear hS
            obtain ⟨i, hi, rfl, hS⟩ := hrel
            have m1 := (unhide hS).1.1.1.c1
            by_cases hin : i < n
            · have hiI : (i : Int) < (n : Int) := by omega
              have a0 := (unhide hS).1.1.1.c0; have a2 := (unhide hS).1.1.1.c2
              have W7 := hide (unhide K7 _ i (unhide hS).1.1.2.2.2.2 hin)
              go_wp2_with fail
              refine Calls.mono (unhide W7) ?_
              rintro e w6 ⟨go, gd, rfl, qb, hb1⟩
              have st := (unhide hS).1.all hb1; have ow := (unhide hS).2.below hb1
              have W8 := hide (fun yo yd h => unhide K8 w6 i k go gd yo yd hin hkc qb h)
              obtain ⟨yo, yd, ey, hy⟩ := ow.dys
              cases ey
              have W8 := hide (unhide W8 _ _ hy)
              have ST := hide st; have OW := hide ow
              clear st ow hy qb hb1 hS W7 a0 a2 m1
              go_wp2_with fail
              refine Calls.mono (unhide W8) ?_
              rintro e w7 ⟨v, rfl, ⟨n6, a6, c6, L6, rfl, i6⟩, hb1⟩
              have hv : IsLv w7 (.agg #[.bool n6, .slice a6 L6.length c6, .int .i64 (oE (D i k) lo2)]) lo2 (D i k) := ⟨n6, a6, c6, L6, rfl, i6⟩
              generalize L6.length = l6 at *
              generalize oE (D i k) lo2 = X6 at *
              have ba := below_alloc9 w7 (.cells #[.bool n6, .slice a6 l6 c6, .int .i64 X6] 29)
              have hbb := hb1.trans (ba.mono hb1.size)
              replace ST := hide ((unhide ST).all hbb); replace OW := hide ((unhide OW).below hbb)
              have KP := hide (show Kept _ w7.heap.size lo2 (D i k) from ⟨n6, a6, l6, c6, X6, Box3.new w7 _ _ _, hv.below ba⟩)
              clear i6 hv ba hbb hb1 W8
              have W9 := hide (fun w' v => unhide K9 w' i k v hin hkc)
              have W10 := hide (fun w' v u => unhide K10 w' i k v u hin hkc)
              go_wp2_with fail
              generalize w7.heap.size = g at *
              refine at_world (fun W => RsSt w W j n n c j c ao xo bo na nx nb ca cx cb lo3 (sm k i) ∧ Kept W g lo2 (D i k) ∧ OwnD (w.heap.size + 5) W (.slice po j pc) j lo1 (fun t => L t k)) ⟨unhide ST, unhide KP, unhide OW⟩ ?_
              clear ST KP OW
              rintro W0 ⟨st, kp, ow⟩
              have D0 := (Below.refl W0.heap.size W0).drew
              have ST := hide (st.all D0); have OW := hide (ow.below D0)
              obtain ⟨n1, a1, l1, c1, X1, bd, id⟩ := kp.all D0
              obtain ⟨n2, a2, l2, c2, X2, bs, is⟩ := (unhide ST).2
              have BD := hide bd; have ID := hide id; have BS := hide bs; have IS := hide is
              have d0 := bd.c0; have d1 := bd.c1; have d2 := bd.c2
              have y0 := bs.c0; have y1 := bs.c1; have y2 := bs.c2; have f0 := bs.free 0; have f1 := bs.free 1; have f2 := bs.free 2
              clear st kp ow bd id bs is D0
              go_region_with (first
                | (go_at_call 51; refine (unhide W9 _ _ (unhide ID)).mono ?_; rintro e w9 ⟨v, rfl, qn, hb1⟩; clear y0 y1 y2 f0 f1 f2 d0 d1 d2; replace BS := hide ((unhide BS).all hb1); replace BD := hide ((unhide BD).all hb1); replace ST := hide ((unhide ST).all hb1); have y0 := (unhide BS).c0; have y1 := (unhide BS).c1; have y2 := (unhide BS).c2; have f0 := (unhide BS).free 0; have f1 := (unhide BS).free 1; have f2 := (unhide BS).free 2; have d0 := (unhide BD).c0; have d1 := (unhide BD).c1; have d2 := (unhide BD).c2; replace IS := hide ((unhide IS).below hb1); replace OW := hide ((unhide OW).below hb1); have QM := hide qn; clear qn hb1)
                | (go_at_call 50; refine (unhide W10 _ _ _ (unhide IS) (unhide QM)).mono ?_; rintro e w9 ⟨v, rfl, ⟨n5, a5, c5, L5, rfl, i5⟩, hb1⟩; clear y0 y1 y2 f0 f1 f2 d0 d1 d2; replace BS := hide ((unhide BS).all hb1); replace BD := hide ((unhide BD).all hb1); replace ST := hide ((unhide ST).all hb1); have y0 := (unhide BS).c0; have y1 := (unhide BS).c1; have y2 := (unhide BS).c2; have f0 := (unhide BS).free 0; have f1 := (unhide BS).free 1; have f2 := (unhide BS).free 2; have d0 := (unhide BD).c0; have d1 := (unhide BD).c1; have d2 := (unhide BD).c2; replace OW := hide ((unhide OW).below hb1); have IP := hide (show IsLv w9 (.agg #[.bool n5, .slice a5 L5.length c5, .int .i64 (oE (sm k (i + 1)) lo3)]) lo3 (sm k (i + 1)) from ⟨n5, a5, c5, L5, rfl, i5⟩); clear i5 hb1)
                | fail "NO ARM")
              all_goals
                clear d0 d1 d2 y0 y1 y2 f0 f1 f2
                go_wp2_with fail
                go_roundw
                case rel =>
                  first
                    | exact ⟨i + 1, by omega, by go_num, hide ⟨(unhide ST).put (unhide IP), OwnD.put3 (unhide OW) (unhide BS) (by omega) _ _ _ _ _⟩⟩
                    | ((repeat apply Exists.intro); exact ⟨⟨i + 1, by omega, by go_num, hide ⟨(unhide ST).put (unhide IP), OwnD.put3 (unhide OW) (unhide BS) (by omega) _ _ _ _ _⟩⟩, rfl⟩)
                case measure => simp [intOf]; omega
            · have hii : i = n := by omega
              subst hii
              go_wp2_with fail
              go_round
              case rel => exact ⟨k + 1, by omega, by go_num, by rw [unhide S1]; exact hide (unhide hS).1⟩
              case measure => simp [intOf]; omega
    · have hkk : k = c := by omega
      subst hkk
      obtain ⟨⟨_, _, _, h1, h3⟩, ⟨nn, aa, ll, cy, X, bx, ix⟩⟩ := unhide hS
      have y0 := bx.c0; have y1 := bx.c1; have y2 := bx.c2
      have r0 := h1.c0; have r1 := h1.c1; have r2 := h1.c2; have f0 := h1.free 0; have f1 := h1.free 1; have f2 := h1.free 2
      have xe := h1.put (.bool nn) (.slice aa ll cy) (.int .i64 X)
      have e0 := xe.c0; have e1 := xe.c1; have e2 := xe.c2
      have HS := hide (IsDy.put3 ix h1 (.bool nn) (.slice aa ll cy) (.int .i64 X))
      have BE := hide (below_put3 h3 (show w.heap.size ≤ w.heap.size + 1 + 1 + 1 by omega) (.bool nn) (.slice aa ll cy) (.int .i64 X))
      clear xe h1 bx ix h3 hS
      go_wp2_with fail
      exact bodyPost_ret (v := .agg #[.bool nn, .slice aa ll cy, .int .i64 X]) (by simp [results, Tryz.results20, go_sem, e0, e1, e2]) rfl ⟨_, rfl, unhide HS, unhide BE⟩

end Go.Proofs.YtfnnbkclnflpfaaGreatDoor

/- The reference of layer 10: Eye, In. -/
namespace Go.Proofs.YtfnnbkclnflpfaaGreatDoor
open Go.RowKit
attribute [local go_sem ↓] Go.wp_at_zero Go.wp_at_succ

/-- A matrix in a variable's box at g, the result's box at gr. -/
structure LpSt (w wr : World) (g gr p q : Nat) (mo : Option Addr) (mc : Nat) (S : List Nat) : Prop where
  bel : Below w.heap.size w wr
  box : BoxM wr g (.int .i64 p) (.int .i64 q) (.slice mo S.length mc)
  res : BoxM wr gr (.int .i64 0) (.int .i64 0) (.slice none 0 0)
  bits : BitsAt wr mo mc (mxL S)
  ne : gr ≠ g
  lo : w.heap.size ≤ g
theorem LpSt.all {w wr w' : World} {g gr p q : Nat} {mo : Option Addr} {mc : Nat} {S : List Nat} (h : LpSt w wr g gr p q mo mc S) (hb : Below wr.heap.size wr w') : LpSt w w' g gr p q mo mc S :=
  ⟨h.bel.trans (hb.mono h.bel.size), h.box.all hb, h.res.all hb, h.bits.below hb, h.ne, h.lo⟩
theorem LpSt.put {w wr : World} {g gr p q : Nat} {mo : Option Addr} {mc : Nat} {S : List Nat} (h : LpSt w wr g gr p q mo mc S) {no : Option Addr} {nc : Nat} {T : List Nat} (hT : BitsAt wr no nc (mxL T)) :
    LpSt w (((wr.setCell ⟨g, 0, none⟩ (.int .i64 p)).setCell ⟨g, 1, none⟩ (.int .i64 q)).setCell ⟨g, 2, none⟩ (.slice no T.length nc)) g gr p q no nc T :=
  ⟨below_putM h.bel h.lo _ _ _, h.box.put _ _ _, ((h.res.other (p := ⟨g, 0, none⟩) h.ne _).other (p := ⟨g, 1, none⟩) h.ne _).other (p := ⟨g, 2, none⟩) h.ne _, hT.putM h.box _ _ _, h.ne, h.lo⟩

theorem NewM.any {w : World} {r c : Nat} {S : List Nat} {ao : Option Addr} {cap : Nat} (h : BitsAt w ao cap (mxL S)) : NewM 0 w r c S (.agg #[.int .i64 r, .int .i64 c, .slice ao S.length cap]) := by
  refine ⟨ao, cap, rfl, ?_, h⟩
  rcases h.2.2 with e | ⟨b, off, e1, _, _⟩
  · exact .inl e
  · exact .inr ⟨b, off, e1, Nat.zero_le _⟩

end Go.Proofs.YtfnnbkclnflpfaaGreatDoor

/- Layer 10: differences (the program's Sub and the reference's), the reference's columns. -/
namespace Go.Proofs.YtfnnbkclnflpfaaGreatDoor
open Go.RowKit
attribute [local go_sem ↓] Go.wp_at_zero Go.wp_at_succ
/-- A column's numbers. -/
def clL (r c : Nat) (S : List Nat) (k : Nat) : List Nat := fsL (fun i => elM c S i k) r

set_option maxRecDepth 20000 in
set_option maxHeartbeats 4000000 in
theorem rcol_any (r c cap k : Nat) (ao : Option Addr) (S : List Nat) (w : World) (h : Mx w ao cap r c S) (hk : k < c) :
    Calls Tryz.prog 46 #[.agg #[.int .i64 r, .int .i64 c, .slice ao S.length cap], .int .i64 k, .int .i64 0] w fun e w' => ∃ bo d, e = .returned (.slice bo r d) ∧ BitsAt w' bo d (mxL (clL r c S k)) ∧ Below w.heap.size w w' := by
  have HH := hide h
  have r6 := h.2.2.1
  have s0 := size_alloc9 w (.cells #[.int .i64 r, .int .i64 c, .slice ao S.length cap] 24)
  have b0 := below_alloc9 w (.cells #[.int .i64 r, .int .i64 c, .slice ao S.length cap] 24)
  have X0 := BoxM.new w (.int .i64 r) (.int .i64 c) (.slice ao S.length cap)
  have b1 := below_alloc9 (w.alloc (.cells #[.int .i64 r, .int .i64 c, .slice ao S.length cap] 24)) (.cells #[] 52)
  have O0 := OwnB.nil (w.alloc (.cells #[.int .i64 r, .int .i64 c, .slice ao S.length cap] 24)) (w.heap.size + 1) (by rw [s0]; omega)
  rw [s0] at O0
  have HO := hide O0; have HX := hide (X0.all b1); have HB := hide (b0.trans (b1.mono b0.size))
  obtain ⟨l, hl⟩ : ∃ l, S.length = l := ⟨_, rfl⟩
  rw [hl] at HX HB HO
  rw [hl]
  have HLL := hide hl
  clear h s0 b0 X0 b1 O0 hl
  go_enter Tryz.func46, Tryz.ntmps46
  go_wp2_with fail
  go_loopw [7, 8] (fun v i wr => ∃ j : Nat, j ≤ r ∧ i = .int .i64 j ∧ Hid (OwnB (w.heap.size + 1) wr v (fsL (fun i => elM c S i k) j)) ∧ Hid (BoxM wr w.heap.size (.int .i64 r) (.int .i64 c) (.slice ao l cap)) ∧ Hid (Below w.heap.size w wr)) (fun _ i _ => r - (intOf i).toNat)
  case atStart => exact ⟨0, Nat.zero_le _, rfl, HO, HX, HB⟩
  case round =>
    clear HO HX HB
    obtain ⟨j, hj, rfl, hO, hX, hB⟩ := hrel
    have t0 := (unhide hX).c0; have t1 := (unhide hX).c1; have t2 := (unhide hX).c2
    by_cases hlt : j < r
    · have hjI : (j : Int) < (r : Int) := by omega
      have C := hide (fun w' (m : Mx w' ao cap r c S) => rat_any r c cap j k ao S w' m hlt hk)
      rw [unhide HLL] at C
      have HM := hide ((unhide HH).below hB.out)
      have ho := hide ((unhide HH).el_lt j k)
      have hlen := hide (show (fsL (fun i => elM c S i k) j).length ≤ 1000000 from by rw [fsL_len]; omega)
      have eS := hide (fsL_succ (fun i => elM c S i k) j)
      generalize elM c S j k = o at *
      go_wp2_with fail
      refine (unhide C _ (unhide HM)).mono ?_
      rintro e w2 ⟨rfl, hb2⟩
      have own2 := (unhide hO).below hb2
      have box2 := (unhide hX).all hb2
      have B2 := hB.out.trans (hb2.mono hB.out.size)
      obtain ⟨v3, w3, run3, own3, bel3, _, _⟩ := own2.push o (unhide ho) (unhide hlen) (by have := box2.lt; omega) 22
      have RUN := hide run3
      have O3 := hide (show OwnB (w.heap.size + 1) w3 v3 (fsL (fun i => elM c S i k) (j + 1)) from by rw [unhide eS]; exact own3)
      have X3 := hide (box2.below bel3 (by omega))
      have B3 := hide (B2.trans (bel3.mono (by omega)))
      clear hb2 C hO hX hB own2 box2 B2 run3 own3 bel3 ho hlen eS HM t0 t1 t2
      go_wp2_with (at_builtin; refine wpList_append_ran _ rfl _ _ 22 rfl _ _ _ _ rfl rfl (unhide RUN) ?_; clear RUN)
      go_round
      case rel => exact ⟨j + 1, by omega, by go_num, O3, X3, B3⟩
      case measure => simp [intOf]; omega
    · have hjj : r = j := by omega
      subst hjj
      obtain ⟨b1, d1, e1, q1⟩ := (unhide hO).bits
      rw [fsL_len] at e1
      subst e1
      have Q1 := hide q1
      clear q1 hO
      go_wp2_with fail
      go_ret
      exact ⟨b1, d1, rfl, unhide Q1, hB.out⟩

end Go.Proofs.YtfnnbkclnflpfaaGreatDoor

