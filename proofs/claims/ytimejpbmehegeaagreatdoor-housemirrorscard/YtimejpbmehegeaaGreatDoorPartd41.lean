/- Part 41 of the texts. -/
import Derived.Test.YtimejpbmehegeaaGreatDoorPartd40
import Derived.Deep.CutRange
import Derived.Test.YtimejpbmehegeaaGreatDoorPartd39
import Derived.Test.YtimejpbmehegeaaGreatDoorPartd31
import Derived.Test.YtimejpbmehegeaaGreatDoorPartd35
import Derived.Test.YtimejpbmehegeaaGreatDoorPartd18
import Derived.Test.YtimejpbmehegeaaGreatDoorPartd19
import Derived.Deep.Cut
import Derived.BigQuiet
import Derived.Test.YtimejpbmehegeaaGreatDoorPartd36
import Derived.Maps.Own
import Derived.Maps.OwnOps
import Derived.Maps.OwnSet
import Derived.DeepKeys4
import Derived.Test.YtimejpbmehegeaaGreatDoorPartd11
import Derived.WalkSmall
import Derived.Test.YtimejpbmehegeaaGreatDoorPartd09
import Derived.Lib.BitFns
import Derived.Test.YtimejpbmehegeaaGreatDoorPartd08
import Derived.Test.YtimejpbmehegeaaGreatDoorPartd01
import Derived.Test.YtimejpbmehegeaaGreatDoorPartd37
/- The reference of layer 11: Orthogonal by letters. -/
namespace Go.Proofs.YtimejpbmehegeaaGreatDoor
open Go.RowKit
attribute [local go_sem ↓] Go.wp_at_zero Go.wp_at_succ

theorem Box3.oth3 {w : World} {b : Nat} {x y z : Value} (h : Box3 w b x y z) {g : Nat} (hg : b ≠ g) (u u' u'' : Value) : Box3 (((w.setCell ⟨g, 0, none⟩ u).setCell ⟨g, 1, none⟩ u').setCell ⟨g, 2, none⟩ u'') b x y z :=
  ((h.other (p := ⟨g, 0, none⟩) hg u).other (p := ⟨g, 1, none⟩) hg u').other (p := ⟨g, 2, none⟩) hg u''
theorem Box3.ex {w : World} {b : Nat} {x y z : Value} (h : Box3 w b x y z) : ∃ g, g = b ∧ Box3 w g x y z := ⟨b, rfl, h⟩
/-- Another box of a number is written. -/
theorem Kept.oth3 {w : World} {b g : Nat} {lo s : Int} (h : Kept w b lo s) {x : Bool} {a : Option Addr} {l c : Nat} {y : Int} (hg : Box3 w g (.bool x) (.slice a l c) (.int .i64 y)) (hne : b ≠ g) (u u' u'' : Value) : Kept (((w.setCell ⟨g, 0, none⟩ u).setCell ⟨g, 1, none⟩ u').setCell ⟨g, 2, none⟩ u'') b lo s := by
  obtain ⟨n, a, l, c, X, h1, h2⟩ := h
  exact ⟨n, a, l, c, X, h1.oth3 hne _ _ _, IsDy.put3 h2 hg _ _ _⟩
/-- It is written itself. -/
theorem Kept.put {w : World} {g : Nat} {lo s t : Int} {lo' : Int} (h : Kept w g lo s) {n : Bool} {a : Option Addr} {l c : Nat} {X : Int} (hv : IsLv w (.agg #[.bool n, .slice a l c, .int .i64 X]) lo' t) : Kept (((w.setCell ⟨g, 0, none⟩ (.bool n)).setCell ⟨g, 1, none⟩ (.slice a l c)).setCell ⟨g, 2, none⟩ (.int .i64 X)) g lo' t := by
  obtain ⟨n', a', l', c', X', h1, _⟩ := h
  exact ⟨n, a, l, c, X, h1.put _ _ _, IsDy.put3 hv h1 _ _ _⟩

/-- One. -/
theorem rof11 (w : World) : Calls Tryz.prog 60 #[.int .i64 1] w fun e w' => ∃ v, e = .returned v ∧ IsNum w.heap.size w' v 1 ∧ Below w.heap.size w w' :=
  (refOf_any 1 w (by decide) (by decide)).mono fun e w' ⟨r, h1, h2, h3⟩ => ⟨r, h1, h2.num (by omega), h3⟩

end Go.Proofs.YtimejpbmehegeaaGreatDoor

/- The reference of layer 11: Residual by letters. -/
namespace Go.Proofs.YtimejpbmehegeaaGreatDoor
open Go.RowKit
attribute [local go_sem ↓] Go.wp_at_zero Go.wp_at_succ

/-- Three matrices' boxes, the answer's, the sum's. -/
def RsSt (w wr : World) (r c p q s d : Int) (ao bo co : Option Addr) (na nb nc ca cb cc : Nat) (lo z : Int) : Prop :=
  Bx3D w wr r c p q s d ao bo co na nb nc ca cb cc ∧ Kept wr (w.heap.size + 1 + 1 + 1 + 1) lo z
theorem RsSt.all {w wr w' : World} {r c p q s d : Int} {ao bo co : Option Addr} {na nb nc ca cb cc : Nat} {lo z : Int} (h : RsSt w wr r c p q s d ao bo co na nb nc ca cb cc lo z) (hb : Below wr.heap.size wr w') : RsSt w w' r c p q s d ao bo co na nb nc ca cb cc lo z := ⟨h.1.all hb, h.2.all hb⟩
theorem RsSt.start (w : World) (r c p q s d : Int) (ao bo co : Option Addr) (na nb nc ca cb cc : Nat) (lo : Int) : RsSt w (((((w.alloc (.cells #[.int .i64 r, .int .i64 c, .slice ao na ca] 36)).alloc (.cells #[.int .i64 p, .int .i64 q, .slice bo nb cb] 36)).alloc (.cells #[.int .i64 s, .int .i64 d, .slice co nc cc] 36)).alloc (.cells #[.bool false, .slice none 0 0, .int .i64 0] 54)).alloc (.cells #[.bool false, .slice none 0 0, .int .i64 0] 54)) r c p q s d ao bo co na nb nc ca cb cc lo 0 := by
  have h := Bx3D.start w r c p q s d ao bo co na nb nc ca cb cc
  have e : ((((w.alloc (.cells #[.int .i64 r, .int .i64 c, .slice ao na ca] 36)).alloc (.cells #[.int .i64 p, .int .i64 q, .slice bo nb cb] 36)).alloc (.cells #[.int .i64 s, .int .i64 d, .slice co nc cc] 36)).alloc (.cells #[.bool false, .slice none 0 0, .int .i64 0] 54)).heap.size = w.heap.size + 1 + 1 + 1 + 1 := by simp
  generalize (((w.alloc (.cells #[.int .i64 r, .int .i64 c, .slice ao na ca] 36)).alloc (.cells #[.int .i64 p, .int .i64 q, .slice bo nb cb] 36)).alloc (.cells #[.int .i64 s, .int .i64 d, .slice co nc cc] 36)).alloc (.cells #[.bool false, .slice none 0 0, .int .i64 0] 54) = w1 at *
  have b2 := below_alloc9 w1 (.cells #[.bool false, .slice none 0 0, .int .i64 0] 54)
  have k2 := Kept.new w1 lo
  rw [e] at k2
  exact ⟨h.all b2, k2⟩
theorem Bx3D.oth {w wr : World} {r c p q s d : Int} {ao bo co : Option Addr} {na nb nc ca cb cc : Nat} (h : Bx3D w wr r c p q s d ao bo co na nb nc ca cb cc) {g : Nat} (hg : w.heap.size + 1 + 1 + 1 < g) (u u' u'' : Value) : Bx3D w (((wr.setCell ⟨g, 0, none⟩ u).setCell ⟨g, 1, none⟩ u').setCell ⟨g, 2, none⟩ u'') r c p q s d ao bo co na nb nc ca cb cc :=
  ⟨h.1.oth3 (by omega) _ _ _, h.2.1.oth3 (by omega) _ _ _, h.2.2.1.oth3 (by omega) _ _ _, h.2.2.2.1.oth3 (by omega) _ _ _, below_put3 h.2.2.2.2 (by omega) _ _ _⟩
theorem RsSt.put {w wr : World} {r c p q s d : Int} {ao bo co : Option Addr} {na nb nc ca cb cc : Nat} {lo z t : Int} (h : RsSt w wr r c p q s d ao bo co na nb nc ca cb cc lo z) {ng : Bool} {a : Option Addr} {l cp : Nat} {X : Int} (hv : IsLv wr (.agg #[.bool ng, .slice a l cp, .int .i64 X]) lo t) :
    RsSt w (((wr.setCell ⟨(w.heap.size + 1 + 1 + 1 + 1), 0, none⟩ (.bool ng)).setCell ⟨(w.heap.size + 1 + 1 + 1 + 1), 1, none⟩ (.slice a l cp)).setCell ⟨(w.heap.size + 1 + 1 + 1 + 1), 2, none⟩ (.int .i64 X)) r c p q s d ao bo co na nb nc ca cb cc lo t := ⟨h.1.oth (by omega) _ _ _, h.2.put hv⟩
theorem RsSt.away {w wr : World} {r c p q s d : Int} {ao bo co : Option Addr} {na nb nc ca cb cc : Nat} {lo z : Int} (h : RsSt w wr r c p q s d ao bo co na nb nc ca cb cc lo z) {g : Nat} {lo' y : Int} (hg : Kept wr g lo' y) (hl : (w.heap.size + 1 + 1 + 1 + 1) < g) (u u' u'' : Value) :
    RsSt w (((wr.setCell ⟨g, 0, none⟩ u).setCell ⟨g, 1, none⟩ u').setCell ⟨g, 2, none⟩ u'') r c p q s d ao bo co na nb nc ca cb cc lo z := by
  obtain ⟨n', a', l', c', X', h1, _⟩ := hg
  exact ⟨h.1.oth (by omega) _ _ _, h.2.oth3 h1 (by omega) _ _ _⟩

set_option maxRecDepth 20000 in
set_option maxHeartbeats 32000000 in
theorem rRes_of (r n c na nb nc ca cb cc : Nat) (ao bo co : Option Addr) (x : Nat → Nat → Nat) (rw cl : Nat → List Int) (lo1 lo2 : Int) (xa dd D : Nat → Nat → Int) (sm : Nat → Nat → Int) (w : World) (hr : r ≤ 6) (hc : c ≤ 6) (s0 : sm 0 0 = 0) (s1 : ∀ i, sm (i + 1) 0 = sm i c)
    (C1 : ∀ w' i k, Below w.heap.size w w' → i < r → k < c → Calls Tryz.prog 75 #[.agg #[.int .i64 r, .int .i64 c, .slice ao na ca], .int .i64 (i : Nat), .int .i64 (k : Nat)] w' fun e w'' => e = .returned (.int .u64 (x i k : Nat)) ∧ Below w'.heap.size w' w'')
    (C2 : ∀ w' i k, i < r → k < c → Calls Tryz.prog 23 #[.int .u64 (x i k : Nat)] w' fun e w'' => ∃ u, e = .returned u ∧ IsLv w'' u lo1 (xa i k) ∧ Below w'.heap.size w' w'')
    (C3 : ∀ w' i, Below w.heap.size w w' → i < r → Calls Tryz.prog 77 #[.agg #[.int .i64 r, .int .i64 n, .slice bo nb cb], .int .i64 (i : Nat)] w' fun e w'' => ∃ go d, e = .returned (.slice go n d) ∧ BitsAt w'' go d (rw i) ∧ Below w'.heap.size w' w'')
    (C4 : ∀ w' k, Below w.heap.size w w' → k < c → Calls Tryz.prog 54 #[.agg #[.int .i64 n, .int .i64 c, .slice co nc cc], .int .i64 (k : Nat), .int .i64 0] w' fun e w'' => ∃ go d, e = .returned (.slice go n d) ∧ BitsAt w'' go d (cl k) ∧ Below w'.heap.size w' w'')
    (C5 : ∀ w' i k xo xd yo yd, i < r → k < c → BitsAt w' xo xd (rw i) → BitsAt w' yo yd (cl k) → Calls Tryz.prog 76 #[.slice xo n xd, .slice yo n yd] w' fun e w'' => ∃ v, e = .returned v ∧ IsLv w'' v lo1 (dd i k) ∧ Below w'.heap.size w' w'')
    (C6 : ∀ w' i k v u, i < r → k < c → IsLv w' v lo1 (xa i k) → IsLv w' u lo1 (dd i k) → Calls Tryz.prog 26 #[v, u] w' fun e w'' => ∃ q, e = .returned q ∧ IsLv w'' q lo1 (D i k) ∧ Below w'.heap.size w' w'')
    (C7 : ∀ w' i k v, i < r → k < c → IsLv w' v lo1 (D i k) → Calls Tryz.prog 65 #[v, v] w' fun e w'' => ∃ q, e = .returned q ∧ IsLv w'' q lo2 (D i k * D i k) ∧ Below w'.heap.size w' w'')
    (C8 : ∀ w' i k v u, i < r → k < c → IsLv w' v lo2 (sm i k) → IsLv w' u lo2 (D i k * D i k) → Calls Tryz.prog 29 #[v, u] w' fun e w'' => ∃ q, e = .returned q ∧ IsLv w'' q lo2 (sm i (k + 1)) ∧ Below w'.heap.size w' w'') :
    Calls Tryz.prog 36 #[.agg #[.int .i64 r, .int .i64 c, .slice ao na ca], .agg #[.int .i64 r, .int .i64 n, .slice bo nb cb], .agg #[.int .i64 n, .int .i64 c, .slice co nc cc]] w fun e w' => ∃ v, e = .returned v ∧ IsLv w' v lo2 (sm r 0) ∧ Below w.heap.size w w' := by
  have K1 := hide C1; have K2 := hide C2; have K3 := hide C3; have K4 := hide C4; have K5 := hide C5; have K6 := hide C6; have K7 := hide C7; have K8 := hide C8; have S1 := hide s1
  have ST := hide (show RsSt w _ r c r n n c ao bo co na nb nc ca cb cc lo2 (sm 0 0) from by rw [s0]; exact RsSt.start w r c r n n c ao bo co na nb nc ca cb cc lo2)
  clear C1 C2 C3 C4 C5 C6 C7 C8 s0 s1
  go_enter Tryz.func36, Tryz.ntmps36
  go_wp2_with fail
  go_loopw [8] (fun i wr => ∃ j : Nat, j ≤ r ∧ i = .int .i64 j ∧ Hid (RsSt w wr r c r n n c ao bo co na nb nc ca cb cc lo2 (sm j 0))) (fun i _ => r - (intOf i).toNat)
  case atStart => exact ⟨0, Nat.zero_le _, rfl, ST⟩
  case round =>
    clear ST
    obtain ⟨j, hj, rfl, hS⟩ := hrel
    have m1 := (unhide hS).1.1.c0
    by_cases hlt : j < r
    · have hjI : (j : Int) < (r : Int) := by omega
      go_wp2_with fail
      clear m1
      go_loopw [9] (fun i wr => ∃ k : Nat, k ≤ c ∧ i = .int .i64 k ∧ Hid (RsSt w wr r c r n n c ao bo co na nb nc ca cb cc lo2 (sm j k))) (fun i _ => c - (intOf i).toNat)
      case atStart => exact ⟨0, Nat.zero_le _, rfl, hS⟩
      case round =>
        clear hS
        obtain ⟨k, hk, rfl, hS⟩ := hrel
        have m1 := (unhide hS).1.1.c1
        by_cases hkc : k < c
        · have hkI : (k : Int) < (c : Int) := by omega
          go_wp2_with fail
          clear m1
          refine at_world (fun W => RsSt w W r c r n n c ao bo co na nb nc ca cb cc lo2 (sm j k)) (unhide hS) ?_
          clear hS
          rintro W0 hS
          go_cut [10] from 18 to 41 (fun p wx => ∃ g : Nat, p = .pointer (some ⟨g, 0, none⟩) ∧ Hid (RsSt w wx r c r n n c ao bo co na nb nc ca cb cc lo2 (sm j k) ∧ Kept wx g lo1 (D j k) ∧ (w.heap.size + 1 + 1 + 1 + 1) < g))
          case first =>
            have HK := hide (show ∀ w' (h : Below W0.heap.size W0 w'), Below W0.heap.size W0 w' ∧ w'.cell? ⟨w.heap.size, 0, none⟩ = some (.int .i64 r) ∧ w'.cell? ⟨w.heap.size, 1, none⟩ = some (.int .i64 c) ∧ w'.cell? ⟨w.heap.size, 2, none⟩ = some (.slice ao na ca) ∧ w'.cell? ⟨w.heap.size + 1, 0, none⟩ = some (.int .i64 r) ∧ w'.cell? ⟨w.heap.size + 1, 1, none⟩ = some (.int .i64 n) ∧ w'.cell? ⟨w.heap.size + 1, 2, none⟩ = some (.slice bo nb cb) ∧ w'.cell? ⟨w.heap.size + 1 + 1, 0, none⟩ = some (.int .i64 n) ∧ w'.cell? ⟨w.heap.size + 1 + 1, 1, none⟩ = some (.int .i64 c) ∧ w'.cell? ⟨w.heap.size + 1 + 1, 2, none⟩ = some (.slice co nc cc) from fun w' h => ⟨h, (hS.1.all h).1.c0, (hS.1.all h).1.c1, (hS.1.all h).1.c2, (hS.1.all h).2.1.c0, (hS.1.all h).2.1.c1, (hS.1.all h).2.1.c2, (hS.1.all h).2.2.1.c0, (hS.1.all h).2.2.1.c1, (hS.1.all h).2.2.1.c2⟩)
            have HKA := hide (fun wn o (h1 : Below W0.heap.size W0 wn) => unhide HK (wn.alloc o) (h1.alloc h1.size o))
            have HKS := hide (fun wn g u u' u'' (h1 : Below W0.heap.size W0 wn) (h4 : W0.heap.size ≤ g) => unhide HK (((wn.setCell ⟨g, 0, none⟩ u).setCell ⟨g, 1, none⟩ u').setCell ⟨g, 2, none⟩ u'') (below_put3 h1 h4 u u' u''))
            have BXA := hide (fun wm o (h1 : Below (W0.drew.alloc o).heap.size (W0.drew.alloc o) wm) => (show wm.heap[W0.heap.size]? = some o from (h1.block W0.heap.size (by simp)).trans (heap_alloc_new W0.drew o)))
            have BXC := hide (fun wm o (h1 : Below (W0.alloc o).drew.heap.size (W0.alloc o).drew wm) => (show wm.heap[W0.heap.size]? = some o from (h1.block W0.heap.size (by simp)).trans (heap_alloc_new W0 o)))
            have BXB := hide (fun (wn wm : World) o (h1 : Below (wn.alloc o).heap.size (wn.alloc o) wm) => (show wm.heap[wn.heap.size]? = some o from (h1.block wn.heap.size (by simp)).trans (heap_alloc_new wn o)))
            have BW := hide (fun w' (h : Below W0.heap.size W0 w') => hS.1.2.2.2.2.trans (h.mono hS.1.2.2.2.2.size))
            have SA := hide (fun w' (h : Below W0.heap.size W0 w') => hS.all h)
            have HG := hide hS.2.lt
            have W1 := hide (fun w' h => unhide K1 w' j k h hlt hkc)
            have W2 := hide (fun w' => unhide K2 w' j k hlt hkc)
            have W3 := hide (fun w' h => unhide K3 w' j h hlt)
            have W4 := hide (fun w' h => unhide K4 w' k h hkc)
            have W5 := hide (fun w' xo xd yo yd => unhide K5 w' j k xo xd yo yd hlt hkc)
            have W6 := hide (fun w' v u => unhide K6 w' j k v u hlt hkc)
            generalize x j k = xx at *
            clear hS K1 K2 K3 K4 K5 K6 K7 K8 S1
            go_region_held3 (fun w' => Below W0.heap.size W0 w' ∧ w'.cell? ⟨w.heap.size, 0, none⟩ = some (.int .i64 r) ∧ w'.cell? ⟨w.heap.size, 1, none⟩ = some (.int .i64 c) ∧ w'.cell? ⟨w.heap.size, 2, none⟩ = some (.slice ao na ca) ∧ w'.cell? ⟨w.heap.size + 1, 0, none⟩ = some (.int .i64 r) ∧ w'.cell? ⟨w.heap.size + 1, 1, none⟩ = some (.int .i64 n) ∧ w'.cell? ⟨w.heap.size + 1, 2, none⟩ = some (.slice bo nb cb) ∧ w'.cell? ⟨w.heap.size + 1 + 1, 0, none⟩ = some (.int .i64 n) ∧ w'.cell? ⟨w.heap.size + 1 + 1, 1, none⟩ = some (.int .i64 c) ∧ w'.cell? ⟨w.heap.size + 1 + 1, 2, none⟩ = some (.slice co nc cc))
              (first | assumption | exact unhide HK _ (Below.refl _ _).drew | exact unhide HK _ (by assumption) | exact unhide HKA _ _ (by assumption) | exact unhide HKA _ _ (And.left (by assumption)) | exact unhide HKS _ _ _ _ _ hBwm (by first | exact Nat.le_refl _ | exact Below.size (by assumption)) | fail "KK")
              (first
                | (go_at_call 75; refine (unhide W1 _ (unhide BW _ (And.left (by assumption)))).mono ?_; rintro e w6 ⟨rfl, hb1⟩; have hBw6 : Below W0.heap.size W0 w6 := Below.trans (And.left (by assumption)) (hb1.mono (Below.size (And.left (by assumption)))); (first | (replace xb := Box3.all xb hb1) | ((with_reducible (have xb0 := unhide BXA _ _ hb1)); have xb : Box3 w6 W0.heap.size (.bool false) (.slice none 0 0) (.int .i64 0) := xb0; clear xb0) | ((with_reducible (have xb0 := unhide BXC _ _ hb1)); have xb : Box3 w6 W0.heap.size (.bool false) (.slice none 0 0) (.int .i64 0) := xb0; clear xb0) | ((with_reducible (have xb0 := unhide BXB _ _ _ hb1)); have xb : Box3 w6 _ (.bool false) (.slice none 0 0) (.int .i64 0) := xb0; clear xb0) | skip); (first | (with_reducible (replace QV := hide ((unhide QV).below hb1))) | (with_reducible (replace QV := hide (((unhide QV).below (below_alloc9 _ _)).below hb1))) | skip); (first | (with_reducible (replace QR := hide ((unhide QR).below hb1))) | (with_reducible (replace QR := hide (((unhide QR).below (below_alloc9 _ _)).below hb1))) | skip); (first | (with_reducible (replace QC := hide ((unhide QC).below hb1))) | (with_reducible (replace QC := hide (((unhide QC).below (below_alloc9 _ _)).below hb1))) | skip); (first | (with_reducible (replace QD := hide ((unhide QD).below hb1))) | (with_reducible (replace QD := hide (((unhide QD).below (below_alloc9 _ _)).below hb1))) | skip);  clear hb1)
                | (go_at_call 23; refine (unhide W2 _ ).mono ?_; rintro e w7 ⟨v7, rfl, qn, hb1⟩; have hBw7 : Below W0.heap.size W0 w7 := Below.trans (And.left (by assumption)) (hb1.mono (Below.size (And.left (by assumption)))); (first | (replace xb := Box3.all xb hb1) | ((with_reducible (have xb0 := unhide BXA _ _ hb1)); have xb : Box3 w7 W0.heap.size (.bool false) (.slice none 0 0) (.int .i64 0) := xb0; clear xb0) | ((with_reducible (have xb0 := unhide BXC _ _ hb1)); have xb : Box3 w7 W0.heap.size (.bool false) (.slice none 0 0) (.int .i64 0) := xb0; clear xb0) | ((with_reducible (have xb0 := unhide BXB _ _ _ hb1)); have xb : Box3 w7 _ (.bool false) (.slice none 0 0) (.int .i64 0) := xb0; clear xb0) | skip); (first | (with_reducible (replace QR := hide ((unhide QR).below hb1))) | (with_reducible (replace QR := hide (((unhide QR).below (below_alloc9 _ _)).below hb1))) | skip); (first | (with_reducible (replace QC := hide ((unhide QC).below hb1))) | (with_reducible (replace QC := hide (((unhide QC).below (below_alloc9 _ _)).below hb1))) | skip); (first | (with_reducible (replace QD := hide ((unhide QD).below hb1))) | (with_reducible (replace QD := hide (((unhide QD).below (below_alloc9 _ _)).below hb1))) | skip); have QV := hide qn; clear qn; clear hb1)
                | (go_at_call 77; refine (unhide W3 _ (unhide BW _ (And.left (by assumption)))).mono ?_; rintro e w8 ⟨po, pd, rfl, qn, hb1⟩; have hBw8 : Below W0.heap.size W0 w8 := Below.trans (And.left (by assumption)) (hb1.mono (Below.size (And.left (by assumption)))); (first | (replace xb := Box3.all xb hb1) | ((with_reducible (have xb0 := unhide BXA _ _ hb1)); have xb : Box3 w8 W0.heap.size (.bool false) (.slice none 0 0) (.int .i64 0) := xb0; clear xb0) | ((with_reducible (have xb0 := unhide BXC _ _ hb1)); have xb : Box3 w8 W0.heap.size (.bool false) (.slice none 0 0) (.int .i64 0) := xb0; clear xb0) | ((with_reducible (have xb0 := unhide BXB _ _ _ hb1)); have xb : Box3 w8 _ (.bool false) (.slice none 0 0) (.int .i64 0) := xb0; clear xb0) | skip); (first | (with_reducible (replace QV := hide ((unhide QV).below hb1))) | (with_reducible (replace QV := hide (((unhide QV).below (below_alloc9 _ _)).below hb1))) | skip); (first | (with_reducible (replace QC := hide ((unhide QC).below hb1))) | (with_reducible (replace QC := hide (((unhide QC).below (below_alloc9 _ _)).below hb1))) | skip); (first | (with_reducible (replace QD := hide ((unhide QD).below hb1))) | (with_reducible (replace QD := hide (((unhide QD).below (below_alloc9 _ _)).below hb1))) | skip); have QR := hide qn; clear qn; clear hb1)
                | (go_at_call 54; refine (unhide W4 _ (unhide BW _ (And.left (by assumption)))).mono ?_; rintro e w9 ⟨qo, qd, rfl, qn, hb1⟩; have hBw9 : Below W0.heap.size W0 w9 := Below.trans (And.left (by assumption)) (hb1.mono (Below.size (And.left (by assumption)))); (first | (replace xb := Box3.all xb hb1) | ((with_reducible (have xb0 := unhide BXA _ _ hb1)); have xb : Box3 w9 W0.heap.size (.bool false) (.slice none 0 0) (.int .i64 0) := xb0; clear xb0) | ((with_reducible (have xb0 := unhide BXC _ _ hb1)); have xb : Box3 w9 W0.heap.size (.bool false) (.slice none 0 0) (.int .i64 0) := xb0; clear xb0) | ((with_reducible (have xb0 := unhide BXB _ _ _ hb1)); have xb : Box3 w9 _ (.bool false) (.slice none 0 0) (.int .i64 0) := xb0; clear xb0) | skip); (first | (with_reducible (replace QV := hide ((unhide QV).below hb1))) | (with_reducible (replace QV := hide (((unhide QV).below (below_alloc9 _ _)).below hb1))) | skip); (first | (with_reducible (replace QR := hide ((unhide QR).below hb1))) | (with_reducible (replace QR := hide (((unhide QR).below (below_alloc9 _ _)).below hb1))) | skip); (first | (with_reducible (replace QD := hide ((unhide QD).below hb1))) | (with_reducible (replace QD := hide (((unhide QD).below (below_alloc9 _ _)).below hb1))) | skip); have QC := hide qn; clear qn; clear hb1)
                | (go_at_call 76; refine (unhide W5 _ _ _ _ _ (by first | with_reducible exact unhide QR | exact (unhide QR).below (below_alloc9 _ _)) (by first | with_reducible exact unhide QC | exact (unhide QC).below (below_alloc9 _ _))).mono ?_; rintro e w10 ⟨v10, rfl, qn, hb1⟩; have hBw10 : Below W0.heap.size W0 w10 := Below.trans (And.left (by assumption)) (hb1.mono (Below.size (And.left (by assumption)))); (first | (replace xb := Box3.all xb hb1) | ((with_reducible (have xb0 := unhide BXA _ _ hb1)); have xb : Box3 w10 W0.heap.size (.bool false) (.slice none 0 0) (.int .i64 0) := xb0; clear xb0) | ((with_reducible (have xb0 := unhide BXC _ _ hb1)); have xb : Box3 w10 W0.heap.size (.bool false) (.slice none 0 0) (.int .i64 0) := xb0; clear xb0) | ((with_reducible (have xb0 := unhide BXB _ _ _ hb1)); have xb : Box3 w10 _ (.bool false) (.slice none 0 0) (.int .i64 0) := xb0; clear xb0) | skip); (first | (with_reducible (replace QV := hide ((unhide QV).below hb1))) | (with_reducible (replace QV := hide (((unhide QV).below (below_alloc9 _ _)).below hb1))) | skip); (first | (with_reducible (replace QR := hide ((unhide QR).below hb1))) | (with_reducible (replace QR := hide (((unhide QR).below (below_alloc9 _ _)).below hb1))) | skip); (first | (with_reducible (replace QC := hide ((unhide QC).below hb1))) | (with_reducible (replace QC := hide (((unhide QC).below (below_alloc9 _ _)).below hb1))) | skip); have QD := hide qn; clear qn; clear hb1)
                | (go_at_call 26; refine (unhide W6 _ _ _ (by first | with_reducible exact unhide QV | exact (unhide QV).below (below_alloc9 _ _)) (by first | with_reducible exact unhide QD | exact (unhide QD).below (below_alloc9 _ _))).mono ?_; rintro e wm ⟨q, rfl, ⟨n5, a5, c5, L5, rfl, i5⟩, hb1⟩; have hBwm : Below W0.heap.size W0 wm := Below.trans (And.left (by assumption)) (hb1.mono (Below.size (And.left (by assumption)))); (first | (replace xb := Box3.all xb hb1) | ((with_reducible (have xb0 := unhide BXA _ _ hb1)); have xb : Box3 wm W0.heap.size (.bool false) (.slice none 0 0) (.int .i64 0) := xb0; clear xb0) | ((with_reducible (have xb0 := unhide BXC _ _ hb1)); have xb : Box3 wm W0.heap.size (.bool false) (.slice none 0 0) (.int .i64 0) := xb0; clear xb0) | ((with_reducible (have xb0 := unhide BXB _ _ _ hb1)); have xb : Box3 wm _ (.bool false) (.slice none 0 0) (.int .i64 0) := xb0; clear xb0) | skip); (first | (with_reducible (replace QV := hide ((unhide QV).below hb1))) | (with_reducible (replace QV := hide (((unhide QV).below (below_alloc9 _ _)).below hb1))) | skip); (first | (with_reducible (replace QR := hide ((unhide QR).below hb1))) | (with_reducible (replace QR := hide (((unhide QR).below (below_alloc9 _ _)).below hb1))) | skip); (first | (with_reducible (replace QC := hide ((unhide QC).below hb1))) | (with_reducible (replace QC := hide (((unhide QC).below (below_alloc9 _ _)).below hb1))) | skip); (first | (with_reducible (replace QD := hide ((unhide QD).below hb1))) | (with_reducible (replace QD := hide (((unhide QD).below (below_alloc9 _ _)).below hb1))) | skip); have IP := hide (show IsLv wm (.agg #[.bool n5, .slice a5 L5.length c5, .int .i64 (oE (D j k) lo1)]) lo1 (D j k) from ⟨n5, a5, c5, L5, rfl, i5⟩); (first | (have y0 := xb.c0; have y1 := xb.c1; have y2 := xb.c2; have f0 := xb.free 0; have f1 := xb.free 1; have f2 := xb.free 2) | skip); clear i5; clear hb1)
                | fail "NO ARM")
            all_goals
              first
                | (have xq := xb; clear y0 y1 y2 f0 f1 f2; go_wp2_with fail; go_meet; case rel => exact ⟨_, rfl, hide ⟨(unhide SA _ hBwm).away ⟨_, _, _, _, _, xq, IsLv.zero _ 0⟩ (by first | exact unhide HG | exact Nat.lt_of_lt_of_le (unhide HG) (Below.size hBw6) | exact Nat.lt_of_lt_of_le (unhide HG) (Below.size hBw7) | exact Nat.lt_of_lt_of_le (unhide HG) (Below.size hBw8) | exact Nat.lt_of_lt_of_le (unhide HG) (Below.size hBw9) | exact Nat.lt_of_lt_of_le (unhide HG) (Below.size hBw10)) _ _ _, ⟨_, _, _, _, _, xq.put _ _ _, IsDy.put3 (unhide IP) xq _ _ _⟩, (by first | exact unhide HG | exact Nat.lt_of_lt_of_le (unhide HG) (Below.size hBw6) | exact Nat.lt_of_lt_of_le (unhide HG) (Below.size hBw7) | exact Nat.lt_of_lt_of_le (unhide HG) (Below.size hBw8) | exact Nat.lt_of_lt_of_le (unhide HG) (Below.size hBw9) | exact Nat.lt_of_lt_of_le (unhide HG) (Below.size hBw10))⟩⟩)
                | (go_wp2_with fail; go_meet; case rel => exact ⟨_, rfl, hide ⟨(unhide SA _ hBwm).all (below_alloc9 _ _), ⟨_, _, _, _, _, Box3.new _ _ _ _, (unhide IP).below (below_alloc9 _ _)⟩, Nat.lt_of_lt_of_le (unhide HG) (Below.size hBwm)⟩⟩)
                | fail "NO WAY"
          case rest =>
            obtain ⟨g, rfl, hD⟩ := hcut
            obtain ⟨hS, hkp, hg⟩ := unhide hD
            have ST := hide hS; have KP := hide hkp; have HG := hide hg
            clear hS hkp hg hD
            have W7 := hide (fun w' v => unhide K7 w' j k v hlt hkc)
            have W8 := hide (fun w' v u => unhide K8 w' j k v u hlt hkc)
            go_wp2_with fail
            refine at_world (fun W => RsSt w W r c r n n c ao bo co na nb nc ca cb cc lo2 (sm j k) ∧ Kept W g lo1 (D j k)) ⟨unhide ST, unhide KP⟩ ?_
            clear ST KP
            rintro W0 ⟨st, kp⟩
            have D0 := (Below.refl W0.heap.size W0).drew
            have ST := hide (st.all D0)
            obtain ⟨n1, a1, l1, c1, X1, bd, id⟩ := kp.all D0
            obtain ⟨n2, a2, l2, c2, X2, bs, is⟩ := (unhide ST).2
            have BD := hide bd; have ID := hide id; have BS := hide bs; have IS := hide is
            have d0 := bd.c0; have d1 := bd.c1; have d2 := bd.c2
            have y0 := bs.c0; have y1 := bs.c1; have y2 := bs.c2; have f0 := bs.free 0; have f1 := bs.free 1; have f2 := bs.free 2
            clear st kp bd id bs is D0
            go_region_with (first
              | (go_at_call 65; refine (unhide W7 _ _ (unhide ID)).mono ?_; rintro e w9 ⟨v, rfl, qn, hb1⟩; clear y0 y1 y2 f0 f1 f2 d0 d1 d2; replace BS := hide ((unhide BS).all hb1); replace BD := hide ((unhide BD).all hb1); replace ST := hide ((unhide ST).all hb1); have y0 := (unhide BS).c0; have y1 := (unhide BS).c1; have y2 := (unhide BS).c2; have f0 := (unhide BS).free 0; have f1 := (unhide BS).free 1; have f2 := (unhide BS).free 2; have d0 := (unhide BD).c0; have d1 := (unhide BD).c1; have d2 := (unhide BD).c2; replace IS := hide ((unhide IS).below hb1); have QM := hide qn; clear qn hb1)
              | (go_at_call 29; refine (unhide W8 _ _ _ (unhide IS) (unhide QM)).mono ?_; rintro e w9 ⟨v, rfl, ⟨n5, a5, c5, L5, rfl, i5⟩, hb1⟩; clear y0 y1 y2 f0 f1 f2 d0 d1 d2; replace BS := hide ((unhide BS).all hb1); replace BD := hide ((unhide BD).all hb1); replace ST := hide ((unhide ST).all hb1); have y0 := (unhide BS).c0; have y1 := (unhide BS).c1; have y2 := (unhide BS).c2; have f0 := (unhide BS).free 0; have f1 := (unhide BS).free 1; have f2 := (unhide BS).free 2; have d0 := (unhide BD).c0; have d1 := (unhide BD).c1; have d2 := (unhide BD).c2; have IP := hide (show IsLv w9 (.agg #[.bool n5, .slice a5 L5.length c5, .int .i64 (oE (sm j (k + 1)) lo2)]) lo2 (sm j (k + 1)) from ⟨n5, a5, c5, L5, rfl, i5⟩); clear i5 hb1)
              | fail "NO ARM")
            all_goals
              clear d0 d1 d2 y0 y1 y2 f0 f1 f2
              go_wp2_with fail
              go_roundw
              case rel =>
                first
                  | exact ⟨k + 1, by omega, by go_num, hide ((unhide ST).put (unhide IP))⟩
                  | ((repeat apply Exists.intro); exact ⟨⟨k + 1, by omega, by go_num, hide ((unhide ST).put (unhide IP))⟩, rfl⟩)
              case measure => simp [intOf]; omega
        · have hkk : k = c := by omega
          subst hkk
          go_wp2_with fail
          go_round
          case rel => exact ⟨j + 1, by omega, by go_num, by rw [unhide S1]; exact hS⟩
          case measure => simp [intOf]; omega
    · have hjj : j = r := by omega
      subst hjj
      obtain ⟨⟨_, _, _, h1, h3⟩, ⟨nn, aa, ll, cx, X, bx, ix⟩⟩ := unhide hS
      have y0 := bx.c0; have y1 := bx.c1; have y2 := bx.c2
      have r0 := h1.c0; have r1 := h1.c1; have r2 := h1.c2; have f0 := h1.free 0; have f1 := h1.free 1; have f2 := h1.free 2
      have xe := h1.put (.bool nn) (.slice aa ll cx) (.int .i64 X)
      have e0 := xe.c0; have e1 := xe.c1; have e2 := xe.c2
      have HS := hide (IsDy.put3 ix h1 (.bool nn) (.slice aa ll cx) (.int .i64 X))
      have BE := hide (below_put3 h3 (show w.heap.size ≤ w.heap.size + 1 + 1 + 1 by omega) (.bool nn) (.slice aa ll cx) (.int .i64 X))
      clear xe h1 bx ix h3 hS
      go_wp2_with fail
      exact bodyPost_ret (v := .agg #[.bool nn, .slice aa ll cx, .int .i64 X]) (by simp [results, Tryz.results36, go_sem, e0, e1, e2]) rfl ⟨_, rfl, unhide HS, unhide BE⟩

end Go.Proofs.YtimejpbmehegeaaGreatDoor

/- The reference of layer 11, of matrices of finite numbers. -/
namespace Go.Proofs.YtimejpbmehegeaaGreatDoor
open Go.RowKit
attribute [local go_sem ↓] Go.wp_at_zero Go.wp_at_succ

theorem rwL_atB (c : Nat) (S : List Nat) (i : Nat) {j : Nat} (h : j < c) : atB (mxL (rwL c S i)) j = elM c S i j := by rw [mxL_at]; exact rwL_at c S i j h
theorem clL_len (r c : Nat) (S : List Nat) (k : Nat) : (clL r c S k).length = r := fsL_len _ _
theorem clL_atB (r c : Nat) (S : List Nat) (k : Nat) {j : Nat} (h : j < r) : atB (mxL (clL r c S k)) j = elM c S j k := by
  rw [mxL_at]
  simp [clL, fsL, List.getD_eq_getElem?_getD, h]

/-- A sum of products. -/
theorem rdot_any (ao bo : Option Addr) (c d n : Nat) (I J : List Int) (w : World) (hI : BitsAt w ao c I) (hJ : BitsAt w bo d J) (hi : I.length = n) (hj : J.length = n) (hn : n ≤ 8) (fI : ∀ k, k < n → fFin (atB I k) = true) (fJ : ∀ k, k < n → fFin (atB J k) = true) :
    Calls Tryz.prog 76 #[.slice ao n c, .slice bo n d] w fun e w' => ∃ v, e = .returned v ∧ IsLv w' v (-2148) (smI (fun j => fZ (atB I j) * fZ (atB J j)) n) ∧ Below w.heap.size w w' :=
  rdot_of ao bo c d n I J (-1074) (-2148) (fun k => fZ (atB I k)) (fun k => fZ (atB J k)) (fun k => smI (fun j => fZ (atB I j) * fZ (atB J j)) k) w hI hJ hi hj hn rfl
    (fun w' k hk => rvalueN _ w' (hI.lt k) (fI k hk)) (fun w' k hk => rvalueN _ w' (hJ.lt k) (fJ k hk)) (fun w' k v u hk hv hu => rmulV (hI.lt k) (hJ.lt k) (fI k hk) (fJ k hk) hv hu)
    (fun w' k v u hk hv hu => raddN hv hu (dt_lvl k (by omega) _ _ (fun j hj => fI j (by omega)) (fun j hj => fJ j (by omega))) (pr_lvl _ _ (fI k hk) (fJ k hk)))

theorem rdot_el (ao bo : Option Addr) (c d n : Nat) (I J : List Int) (x y : Nat → Nat) (w : World) (hI : BitsAt w ao c I) (hJ : BitsAt w bo d J) (hi : I.length = n) (hj : J.length = n) (hn : n ≤ 8) (eI : ∀ k, k < n → atB I k = x k) (eJ : ∀ k, k < n → atB J k = y k) (fI : ∀ k, fFin (x k) = true) (fJ : ∀ k, fFin (y k) = true) :
    Calls Tryz.prog 76 #[.slice ao n c, .slice bo n d] w fun e w' => ∃ v, e = .returned v ∧ IsLv w' v (-2148) (dtZ n x y) ∧ Below w.heap.size w w' := by
  have C := rdot_any ao bo c d n I J w hI hJ hi hj hn (fun k hk => by rw [eI k hk]; exact fI k) (fun k hk => by rw [eJ k hk]; exact fJ k)
  have e : smI (fun j => fZ (atB I j) * fZ (atB J j)) n = dtZ n x y := smI_congr n (fun k hk => by show fZ (atB I k) * fZ (atB J k) = _; rw [eI k hk, eJ k hk])
  rwa [e] at C

theorem rRes_any (r n c ca cb cc : Nat) (ao bo co : Option Addr) (A B C : List Nat) (w : World) (hA : Mx w ao ca r c A) (hB : Mx w bo cb r n B) (hC : Mx w co cc n c C) (fA : ∀ x ∈ A, fFin x = true) (fB : ∀ x ∈ B, fFin x = true) (fC : ∀ x ∈ C, fFin x = true) :
    Calls Tryz.prog 36 #[.agg #[.int .i64 r, .int .i64 c, .slice ao A.length ca], .agg #[.int .i64 r, .int .i64 n, .slice bo B.length cb], .agg #[.int .i64 n, .int .i64 c, .slice co C.length cc]] w fun e w' => ∃ v, e = .returned v ∧ IsLv w' v (-4296) (rsQ r n c A B C) ∧ Below w.heap.size w w' := by
  have r6 := hA.2.2.1
  have c6 := hA.2.2.2
  have n6 := hC.2.2.1
  have ol : ∀ i k, Lvl (-2148) 4200 (rsZ n c A B C i k) := fun i k => ⟨rsZ_lt n c A B C i k (by omega) fA fB fC, by decide, by decide, by decide⟩
  have pl : ∀ i k, Lvl (-4296) 8407 (rsZ n c A B C i k * rsZ n c A B C i k) := fun i k => (show Lvl (-4296) 8400 _ from ⟨mul_ltV (j := 4200) (k := 4200) (V := 8400) (by decide) (ol i k).1 (ol i k).1, by decide, by decide, by decide⟩).more (by decide) (by decide) (by decide)
  have D := rRes_of r n c A.length B.length C.length ca cb cc ao bo co (fun i k => elM c A i k) (fun i => mxL (rwL n B i)) (fun k => mxL (clL n c C k)) (-2148) (-4296) (fun i k => fZ (elM c A i k) * 2 ^ 1074) (fun i k => dtZ n (fun j => elM n B i j) (fun j => elM c C j k)) (fun i k => rsZ n c A B C i k) (fun i k => rnI (fun i k => rsZ n c A B C i k * rsZ n c A B C i k) c i k) w r6 c6 rfl (fun i => (rnI_row _ c i).symm)
    (fun w' i k hb hi hk => rat_any r c ca i k ao A w' (hA.below hb) hi hk)
    (fun w' i k _ _ => (rvalueN (elM c A i k) w' (hA.el_lt i k) (el_fin c A i k fA)).mono (by
      rintro e w'' ⟨u, rfl, hu, hb⟩
      refine ⟨u, rfl, ?_, hb⟩
      have := hu.lower 1074
      rwa [show (-1074 : Int) - (1074 : Nat) = -2148 by decide] at this))
    (fun w' i hb hi => rrow_any r n cb i bo B w' (hB.below hb) hi)
    (fun w' k hb hk => rcol_any n c cc k co C w' (hC.below hb) hk)
    (fun w' i k xo xd yo yd _ _ hx hy => rdot_el xo yo xd yd n _ _ (fun j => elM n B i j) (fun j => elM c C j k) w' hx hy (by rw [mxL_len, rwL_len]) (by rw [mxL_len, clL_len]) (by omega) (fun j hj => rwL_atB n B i hj) (fun j hj => clL_atB n c C k hj) (fun j => el_fin n B i j fB) (fun j => el_fin c C j k fC))
    (fun w' i k v u _ _ hv hu => rsubN hv hu (up_lvl _ (el_fin c A i k fA)) (dt_lvl n (by omega) _ _ (fun l _ => el_fin n B i l fB) (fun l _ => el_fin c C l k fC)))
    (fun w' i k v _ _ hv => rmulL hv hv (ol i k) (ol i k) (by decide))
    (fun w' i k v u hi hk hv hu => by
      rw [rnI_step]
      exact raddN hv hu ⟨rnI_ltV (W := 8400) (V := 8407) (by decide) r c i k (by omega) (by omega) (by omega) (by omega) (fun i k _ => mul_ltV (j := 4200) (k := 4200) (V := 8400) (by decide) (ol i k).1 (ol i k).1), by decide, by decide, by decide⟩ (pl i k))
  rw [rnI_all] at D
  exact D

end Go.Proofs.YtimejpbmehegeaaGreatDoor

/- The reference of layer 11: Within. -/
namespace Go.Proofs.YtimejpbmehegeaaGreatDoor
open Go.RowKit
attribute [local go_sem ↓] Go.wp_at_zero Go.wp_at_succ

set_option maxRecDepth 20000 in
set_option maxHeartbeats 8000000 in
theorem rWithin_of (na nb : Bool) (ao bo : Option Addr) (ka kb ca cb : Nat) (x y k : Int) (m1 e1 m2 e2 m3 e3 o : Int) (w : World) (hk : 0 ≤ k ∧ k ≤ 200)
    (C1 : ∀ w', Below w.heap.size w w' → Calls Tryz.prog 28 #[.agg #[.bool nb, .slice bo kb cb, .int .i64 y], .int .i64 (-(2 * k))] w' fun r w'' => ∃ q, r = .returned q ∧ IsDy w'' q m1 e1 ∧ Below w'.heap.size w' w'')
    (C2 : ∀ w' v, IsNum 0 w' v 1 → Calls Tryz.prog 63 #[v, .int .i64 (-4000)] w' fun r w'' => ∃ q, r = .returned q ∧ IsDy w'' q m2 e2 ∧ Below w'.heap.size w' w'')
    (C3 : ∀ w' v u, IsDy w' v m1 e1 → IsDy w' u m2 e2 → Calls Tryz.prog 29 #[v, u] w' fun r w'' => ∃ q, r = .returned q ∧ IsDy w'' q m3 e3 ∧ Below w'.heap.size w' w'')
    (C4 : ∀ w' v, Below w.heap.size w w' → IsDy w' v m3 e3 → Calls Tryz.prog 31 #[.agg #[.bool na, .slice ao ka ca, .int .i64 x], v] w' fun r w'' => r = .returned (.int .i64 o) ∧ Below w'.heap.size w' w'') :
    Calls Tryz.prog 35 #[.agg #[.bool na, .slice ao ka ca, .int .i64 x], .agg #[.bool nb, .slice bo kb cb, .int .i64 y], .int .i64 k] w fun e w' => e = .returned (.bool (decide (o ≤ 0))) ∧ Below w.heap.size w w' := by
  have ST := hide (AmSt.start w na nb ao bo ka kb ca cb x y)
  have K1 := hide C1; have K2 := hide C2; have K3 := hide C3; have K4 := hide C4; have K5 := hide rof11
  clear C1 C2 C3 C4
  have y0 := (unhide ST).2.1.c0; have y1 := (unhide ST).2.1.c1; have y2 := (unhide ST).2.1.c2
  have hj : IntKind.i64.wrap (-(2 * k)) = -(2 * k) := wrap_in _ (by omega)
  go_enter Tryz.func35, Tryz.ntmps35
  go_wp2_with fail
  refine (unhide K1 _ (unhide ST).2.2).mono ?_
  rintro e w1 ⟨q, rfl, hq, hb1⟩
  replace ST := hide ((unhide ST).all hb1)
  have HQ := hide hq
  clear hb1 hq K1 y0 y1 y2
  go_wp2_with fail
  refine (unhide K5 _).mono ?_
  rintro e w2 ⟨v, rfl, hv, hb1⟩
  replace ST := hide ((unhide ST).all hb1)
  replace HQ := hide ((unhide HQ).below hb1)
  have HV := hide (hv.mono (Nat.zero_le _))
  clear hb1 hv K5
  go_wp2_with fail
  refine (unhide K2 _ _ (unhide HV)).mono ?_
  rintro e w3 ⟨u, rfl, hu, hb1⟩
  replace ST := hide ((unhide ST).all hb1)
  replace HQ := hide ((unhide HQ).below hb1)
  have HU := hide hu
  clear hb1 hu K2 HV
  go_wp2_with fail
  refine (unhide K3 _ _ _ (unhide HQ) (unhide HU)).mono ?_
  rintro e w4 ⟨t, rfl, ht, hb1⟩
  obtain ⟨n3, a3, c3, L3, rfl, i3⟩ := ht.num
  generalize L3.length = l3 at *
  have ba := below_alloc9 w4 (.cells #[.bool n3, .slice a3 l3 c3, .int .i64 e3] 54)
  have hbb := hb1.trans (ba.mono hb1.size)
  replace ST := hide ((unhide ST).all hbb)
  have HT := hide (ht.below ba)
  have XT := hide (Box3.new w4 (.bool n3) (.slice a3 l3 c3) (.int .i64 e3))
  clear hb1 ht K3 HQ HU ba hbb i3
  have x0 := (unhide ST).1.c0; have x1 := (unhide ST).1.c1; have x2 := (unhide ST).1.c2
  go_wp2_with fail
  refine (unhide K4 _ _ (unhide ST).2.2 (unhide HT)).mono ?_
  rintro e w5 ⟨rfl, hb1⟩
  clear x0 x1 x2
  replace ST := hide ((unhide ST).all hb1)
  clear hb1 K4
  go_wp2
  go_ret
  exact ⟨rfl, (unhide ST).2.2⟩

theorem cmpI_le11 (u v : Int) : cmpI u v ≤ 0 ↔ u ≤ v := by
  rw [cmpI_sgn]
  unfold sgnI
  by_cases h : u - v < 0
  · rw [if_pos h]; omega
  · rw [if_neg h]
    by_cases h2 : u - v = 0
    · rw [if_pos h2]; omega
    · rw [if_neg h2]; omega
theorem one_TOP11 : (1 : Int).natAbs < TOP := lt_TOP (k := 1) (by decide) (by decide)
end Go.Proofs.YtimejpbmehegeaaGreatDoor

/- The reference of layer 11: Check, Square, Tame. The law's told, one, awake. -/
namespace Go.Proofs.YtimejpbmehegeaaGreatDoor
open Go.RowKit
attribute [local go_sem ↓] Go.wp_at_zero Go.wp_at_succ
set_option maxRecDepth 20000 in
set_option maxHeartbeats 4000000 in
theorem r11check_any (r c : Int) (ao : Option Addr) (cap : Nat) (I : List Int) (w : World) (hI : BitsAt w ao cap I) (hn : I.length ≤ 35184372088830) :
    Calls Tryz.prog 32 #[.agg #[.int .i64 r, .int .i64 c, .slice ao I.length cap]] w fun e w' => e = .returned (.int .i64 (ckE r c I)) ∧ Below w.heap.size w w' := by
  have K1 := hide (fun w' => rright_any r c ao I.length cap w')
  have K2 := hide (fun w' (h : BitsAt w' ao cap I) => r9finite_any ao cap I w' h hn)
  have BB := hide (below_alloc9 w (.cells #[.int .i64 r, .int .i64 c, .slice ao I.length cap] 36))
  have X0 := hide (BoxM.new w (.int .i64 r) (.int .i64 c) (.slice ao I.length cap))
  have HI := hide hI
  unfold ckE
  generalize okB r c I.length = b at *
  generalize fnK I I.length = f at *
  generalize I.length = n at *
  clear hI
  cases b
  · clear K2
    go_enter Tryz.func32, Tryz.ntmps32
    go_wp2_with fail
    refine (unhide K1 _).mono ?_
    rintro e w1 ⟨rfl, hb1⟩
    have PB := hide ((unhide BB).trans (hb1.mono (unhide BB).size))
    clear hb1 K1 X0
    go_wp2
    go_ret
    exact ⟨rfl, unhide PB⟩
  · cases f
    all_goals
      go_enter Tryz.func32, Tryz.ntmps32
      go_wp2_with fail
      refine (unhide K1 _).mono ?_
      rintro e w1 ⟨rfl, hb1⟩
      replace BB := hide ((unhide BB).trans (hb1.mono (unhide BB).size)); replace X0 := hide ((unhide X0).all hb1)
      clear hb1 K1
      have y2 := (unhide X0).c2
      go_wp2_with fail
      refine (unhide K2 _ ((unhide HI).below (unhide BB))).mono ?_
      rintro e w2 ⟨rfl, hb1⟩
      replace BB := hide ((unhide BB).trans (hb1.mono (unhide BB).size))
      clear hb1 K2 y2
      go_wp2
      go_ret
      exact ⟨rfl, unhide BB⟩

theorem fnK_all {I : List Int} : ∀ n, fnK I n = true ↔ ∀ k, k < n → fFin (atB I k) = true
  | 0 => ⟨fun _ k hk => by omega, fun _ => rfl⟩
  | n + 1 => by
    show (fnK I n && fFin (atB I n)) = true ↔ _
    rw [Bool.and_eq_true, fnK_all n]
    constructor
    · rintro ⟨h1, h2⟩ k hk
      by_cases e : k = n
      · subst e; exact h2
      · exact h1 k (by omega)
    · exact fun h => ⟨fun k hk => h k (by omega), h n (by omega)⟩
theorem all_fin {S : List Nat} (h : ∀ x ∈ S, fFin x = true) : fnK (mxL S) S.length = true := (fnK_all _).2 fun k hk => by
  rw [mxL_at, List.getD_eq_getElem?_getD, List.getElem?_eq_getElem hk]
  exact h _ (List.getElem_mem hk)

end Go.Proofs.YtimejpbmehegeaaGreatDoor

