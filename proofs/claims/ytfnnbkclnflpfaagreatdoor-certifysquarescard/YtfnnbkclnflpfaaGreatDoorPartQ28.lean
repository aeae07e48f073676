/- Part 28 of the texts. -/
import Derived.Test.YtfnnbkclnflpfaaGreatDoorPartQ03
import Derived.Test.YtfnnbkclnflpfaaGreatDoorPartQ27
import Derived.Deep.CutRange
/- Package certify: is a number at most another one times a power of two, and 2^-4000 more? -/
namespace Go.Proofs.YtfnnbkclnflpfaaGreatDoor
open Go.RowKit
attribute [local go_sem ↓] Go.wp_at_zero Go.wp_at_succ
/-- What holds in atMost: the numbers' boxes. -/
def AmSt (w wr : World) (na nb : Bool) (ao bo : Option Addr) (ka kb ca cb : Nat) (x y : Int) : Prop :=
  Box3 wr w.heap.size (.bool na) (.slice ao ka ca) (.int .i64 x) ∧ Box3 wr (w.heap.size + 1) (.bool nb) (.slice bo kb cb) (.int .i64 y) ∧ Below w.heap.size w wr
theorem AmSt.all {w wr w' : World} {na nb : Bool} {ao bo : Option Addr} {ka kb ca cb : Nat} {x y : Int} (h : AmSt w wr na nb ao bo ka kb ca cb x y) (hb : Below wr.heap.size wr w') : AmSt w w' na nb ao bo ka kb ca cb x y := ⟨h.1.all hb, h.2.1.all hb, h.2.2.trans (hb.mono h.2.2.size)⟩
theorem AmSt.start (w : World) (na nb : Bool) (ao bo : Option Addr) (ka kb ca cb : Nat) (x y : Int) : AmSt w ((w.alloc (.cells #[.bool na, .slice ao ka ca, .int .i64 x] 29)).alloc (.cells #[.bool nb, .slice bo kb cb, .int .i64 y] 29)) na nb ao bo ka kb ca cb x y := by
  have b0 := below_alloc9 w (.cells #[.bool na, .slice ao ka ca, .int .i64 x] 29)
  have s0 := size_alloc9 w (.cells #[.bool na, .slice ao ka ca, .int .i64 x] 29)
  have x0 := Box3.new w (.bool na) (.slice ao ka ca) (.int .i64 x)
  generalize w.alloc (.cells #[.bool na, .slice ao ka ca, .int .i64 x] 29) = w0 at *
  have b1 := below_alloc9 w0 (.cells #[.bool nb, .slice bo kb cb, .int .i64 y] 29)
  have k1 := Box3.new w0 (.bool nb) (.slice bo kb cb) (.int .i64 y)
  rw [s0] at k1
  exact ⟨x0.all b1, k1, b0.trans (b1.mono b0.size)⟩

/-- In the loop: the boxes, the number 1's. -/
def AlSt (w wr : World) (g : Nat) (na nb : Bool) (ao bo : Option Addr) (ka kb ca cb : Nat) (x y : Int) : Prop :=
  AmSt w wr na nb ao bo ka kb ca cb x y ∧ LimbsAt wr (some ⟨g, 0, none⟩) 1 [1] ∧ Box2 wr (g + 1) (.bool false) (.slice (some ⟨g, 0, none⟩) 1 1)
theorem AlSt.all {w wr w' : World} {g : Nat} {na nb : Bool} {ao bo : Option Addr} {ka kb ca cb : Nat} {x y : Int} (h : AlSt w wr g na nb ao bo ka kb ca cb x y) (hb : Below wr.heap.size wr w') : AlSt w w' g na nb ao bo ka kb ca cb x y := ⟨h.1.all hb, h.2.1.below hb, h.2.2.below hb h.2.2.lt⟩
theorem AlSt.start {w wc : World} {na nb : Bool} {ao bo : Option Addr} {ka kb ca cb : Nat} {x y : Int} (h : AmSt w wc na nb ao bo ka kb ca cb x y) :
    AlSt w ((wc.alloc (.cells #[.int .u32 1] 70)).alloc (.cells #[.bool false, .slice (some ⟨wc.heap.size, 0, none⟩) 1 1] 27)) wc.heap.size na nb ao bo ka kb ca cb x y := by
  have b0 := below_alloc9 wc (.cells #[.int .u32 1] 70)
  have s0 := size_alloc9 wc (.cells #[.int .u32 1] 70)
  have h0 := heap_alloc_new wc (.cells #[.int .u32 1] 70)
  generalize wc.alloc (.cells #[.int .u32 1] 70) = w0 at *
  have b1 := below_alloc9 w0 (.cells #[.bool false, .slice (some ⟨wc.heap.size, 0, none⟩) 1 1] 27)
  have k1 := Box2.new w0 (.bool false) (.slice (some ⟨wc.heap.size, 0, none⟩) 1 1)
  rw [s0] at k1
  have hl : LimbsAt w0 (some ⟨wc.heap.size, 0, none⟩) 1 [1] := ⟨by decide, by simp, .inr ⟨wc.heap.size, 0, rfl, by omega, fun i hi => by
    obtain rfl : i = 0 := by simpa using hi
    rw [cell_of_row w0 wc.heap.size _ _ _ _ h0]; rfl⟩⟩
  exact ⟨(h.all b0).all b1, hl.below b1, k1⟩

end Go.Proofs.YtfnnbkclnflpfaaGreatDoor

/- The reference of layer 11: Dot. -/
namespace Go.Proofs.YtfnnbkclnflpfaaGreatDoor
open Go.RowKit
attribute [local go_sem ↓] Go.wp_at_zero Go.wp_at_succ

/-- What holds in a sum's loop: the answer's box, the sum. -/
def DtSt (w wr : World) (lo s : Int) : Prop := Box3 wr w.heap.size (.bool false) (.slice none 0 0) (.int .i64 0) ∧ Kept wr (w.heap.size + 1) lo s ∧ Below w.heap.size w wr
theorem DtSt.all {w wr w' : World} {lo s : Int} (h : DtSt w wr lo s) (hb : Below wr.heap.size wr w') : DtSt w w' lo s := ⟨h.1.all hb, h.2.1.all hb, h.2.2.trans (hb.mono h.2.2.size)⟩
theorem DtSt.start (w : World) (lo : Int) : DtSt w ((w.alloc (.cells #[.bool false, .slice none 0 0, .int .i64 0] 29)).alloc (.cells #[.bool false, .slice none 0 0, .int .i64 0] 29)) lo 0 := by
  have b0 := below_alloc9 w (.cells #[.bool false, .slice none 0 0, .int .i64 0] 29)
  have s0 := size_alloc9 w (.cells #[.bool false, .slice none 0 0, .int .i64 0] 29)
  have x0 := Box3.new w (.bool false) (.slice none 0 0) (.int .i64 0)
  generalize w.alloc (.cells #[.bool false, .slice none 0 0, .int .i64 0] 29) = w0 at *
  have b1 := below_alloc9 w0 (.cells #[.bool false, .slice none 0 0, .int .i64 0] 29)
  have k1 := Kept.new w0 lo
  rw [s0] at k1
  exact ⟨x0.all b1, k1, b0.trans (b1.mono b0.size)⟩
/-- The sum's box is written. -/
theorem DtSt.put {w wr : World} {lo s t : Int} (h : DtSt w wr lo s) {n : Bool} {a : Option Addr} {l c : Nat} {X : Int} (hv : IsLv wr (.agg #[.bool n, .slice a l c, .int .i64 X]) lo t) :
    DtSt w (((wr.setCell ⟨w.heap.size + 1, 0, none⟩ (.bool n)).setCell ⟨w.heap.size + 1, 1, none⟩ (.slice a l c)).setCell ⟨w.heap.size + 1, 2, none⟩ (.int .i64 X)) lo t := by
  obtain ⟨h1, ⟨n', a', l', c', X', h2, _⟩, h3⟩ := h
  have ne : w.heap.size ≠ w.heap.size + 1 := by omega
  exact ⟨((h1.other (p := ⟨w.heap.size + 1, 0, none⟩) ne _).other (p := ⟨w.heap.size + 1, 1, none⟩) ne _).other (p := ⟨w.heap.size + 1, 2, none⟩) ne _, ⟨n, a, l, c, X, h2.put _ _ _, IsDy.put3 hv h2 _ _ _⟩, below_put3 h3 (by omega) _ _ _⟩

set_option maxRecDepth 20000 in
set_option maxHeartbeats 16000000 in
theorem rdot_of (ao bo : Option Addr) (c d n : Nat) (I J : List Int) (lo lo2 : Int) (fa fb sm : Nat → Int) (w : World) (hI : BitsAt w ao c I) (hJ : BitsAt w bo d J) (hi : I.length = n) (hj : J.length = n) (hn : n ≤ 8) (h0 : sm 0 = 0)
    (C1 : ∀ w' k, k < n → Calls Tryz.prog 53 #[.int .u64 (atB I k : Nat)] w' fun r w'' => ∃ u, r = .returned u ∧ IsLv w'' u lo (fa k) ∧ Below w'.heap.size w' w'')
    (C2 : ∀ w' k, k < n → Calls Tryz.prog 53 #[.int .u64 (atB J k : Nat)] w' fun r w'' => ∃ u, r = .returned u ∧ IsLv w'' u lo (fb k) ∧ Below w'.heap.size w' w'')
    (C3 : ∀ w' k v u, k < n → IsLv w' v lo (fa k) → IsLv w' u lo (fb k) → Calls Tryz.prog 51 #[v, u] w' fun r w'' => ∃ q, r = .returned q ∧ IsLv w'' q lo2 (fa k * fb k) ∧ Below w'.heap.size w' w'')
    (C4 : ∀ w' k v u, k < n → IsLv w' v lo2 (sm k) → IsLv w' u lo2 (fa k * fb k) → Calls Tryz.prog 50 #[v, u] w' fun r w'' => ∃ q, r = .returned q ∧ IsLv w'' q lo2 (sm (k + 1)) ∧ Below w'.heap.size w' w'') :
    Calls Tryz.prog 45 #[.slice ao n c, .slice bo n d] w fun e w' => ∃ v, e = .returned v ∧ IsLv w' v lo2 (sm n) ∧ Below w.heap.size w w' := by
  have K1 := hide C1; have K2 := hide C2; have K3 := hide C3; have K4 := hide C4; have HI := hide hI; have HJ := hide hJ; have LI := hide hi; have LJ := hide hj
  have ST := hide (show DtSt w _ lo2 (sm 0) from by rw [h0]; exact DtSt.start w lo2)
  clear C1 C2 C3 C4 hI hJ hi hj h0
  go_enter Tryz.func45, Tryz.ntmps45
  go_wp2_with fail
  go_loopw [6] (fun i wr => ∃ k : Nat, k ≤ n ∧ i = .int .i64 k ∧ Hid (DtSt w wr lo2 (sm k))) (fun i _ => n - (intOf i).toNat)
  case atStart => exact ⟨0, Nat.zero_le _, rfl, ST⟩
  case round =>
    clear ST
    obtain ⟨k, hk, rfl, hS⟩ := hrel
    by_cases hlt : k < n
    · have hkI : (k : Int) < (n : Int) := by omega
      have W1 := hide (fun w' => unhide K1 w' k hlt)
      have W2 := hide (fun w' => unhide K2 w' k hlt)
      have W3 := hide (fun w' v u => unhide K3 w' k v u hlt)
      have W4 := hide (fun w' v u => unhide K4 w' k v u hlt)
      obtain ⟨b1, o1, rfl, p1, q1⟩ := (unhide HI).ne (by rw [unhide LI]; omega)
      obtain ⟨b2, o2, rfl, p2, q2⟩ := (unhide HJ).ne (by rw [unhide LJ]; omega)
      have cx := q1 k (by rw [unhide LI]; exact hlt)
      have cy := q2 k (by rw [unhide LJ]; exact hlt)
      generalize atB I k = x at *
      generalize atB J k = y at *
      have KX := hide cx; have KY := hide cy; have P1 := hide p1; have P2 := hide p2
      clear q1 q2 cx cy p1 p2
      go_wp2_with fail
      refine at_world (fun W => DtSt w W lo2 (sm k)) (unhide hS) ?_
      clear hS
      rintro W0 hS
      have D0 := (Below.refl W0.heap.size W0).drew
      have SS := hide (hS.all D0)
      obtain ⟨nn, aa, ll, cc, X, bx, ix⟩ := (unhide SS).2.1
      have y0 := bx.c0; have y1 := bx.c1; have y2 := bx.c2; have f0 := bx.free 0; have f1 := bx.free 1; have f2 := bx.free 2
      have BX := hide bx; have IX := hide ix
      have HK := hide (show ∀ w' (h : Below w.heap.size w w'), w'.cell? ⟨b1, o1 + k, none⟩ = some (.int .u64 (x : Nat)) ∧ w'.cell? ⟨b2, o2 + k, none⟩ = some (.int .u64 (y : Nat)) from fun w' h =>
        ⟨(h.cell (p := ⟨b1, o1 + k, none⟩) (unhide P1)).trans (unhide KX), (h.cell (p := ⟨b2, o2 + k, none⟩) (unhide P2)).trans (unhide KY)⟩)
      clear hS D0 bx ix KX KY P1 P2
      obtain ⟨cx, cy⟩ := unhide HK _ (unhide SS).2.2
      go_region_with (first
          | (go_at_call_of 53 x; refine (unhide W1 _).mono ?_; rintro e w4 ⟨q, rfl, hq, hb1⟩; replace SS := hide ((unhide SS).all hb1); (first | (replace QY := hide ((unhide QY).below hb1)) | skip); have QX := hide hq; clear y0 y1 y2 f0 f1 f2 cx cy; replace BX := hide ((unhide BX).all hb1); replace IX := hide ((unhide IX).below hb1); obtain ⟨cx, cy⟩ := unhide HK _ (unhide SS).2.2; have y0 := (unhide BX).c0; have y1 := (unhide BX).c1; have y2 := (unhide BX).c2; have f0 := (unhide BX).free 0; have f1 := (unhide BX).free 1; have f2 := (unhide BX).free 2; clear hq hb1)
          | (go_at_call_of 53 y; refine (unhide W2 _).mono ?_; rintro e w4 ⟨q, rfl, hq, hb1⟩; replace SS := hide ((unhide SS).all hb1); (first | (replace QX := hide ((unhide QX).below hb1)) | skip); have QY := hide hq; clear y0 y1 y2 f0 f1 f2 cx cy; replace BX := hide ((unhide BX).all hb1); replace IX := hide ((unhide IX).below hb1); obtain ⟨cx, cy⟩ := unhide HK _ (unhide SS).2.2; have y0 := (unhide BX).c0; have y1 := (unhide BX).c1; have y2 := (unhide BX).c2; have f0 := (unhide BX).free 0; have f1 := (unhide BX).free 1; have f2 := (unhide BX).free 2; clear hq hb1)
          | (go_at_call 51; refine (unhide W3 _ _ _ (unhide QX) (unhide QY)).mono ?_; rintro e w4 ⟨q, rfl, hq, hb1⟩; replace SS := hide ((unhide SS).all hb1); have QP := hide hq; clear y0 y1 y2 f0 f1 f2 cx cy; replace BX := hide ((unhide BX).all hb1); replace IX := hide ((unhide IX).below hb1); obtain ⟨cx, cy⟩ := unhide HK _ (unhide SS).2.2; have y0 := (unhide BX).c0; have y1 := (unhide BX).c1; have y2 := (unhide BX).c2; have f0 := (unhide BX).free 0; have f1 := (unhide BX).free 1; have f2 := (unhide BX).free 2; clear hq hb1)
          | (go_at_call 50; refine (unhide W4 _ _ _ (unhide IX) (unhide QP)).mono ?_; rintro e w4 ⟨q, rfl, ⟨n5, a5, c5, L5, rfl, i5⟩, hb1⟩; replace SS := hide ((unhide SS).all hb1); have QS := hide (show IsLv w4 (.agg #[.bool n5, .slice a5 L5.length c5, .int .i64 (oE (sm (k + 1)) lo2)]) lo2 (sm (k + 1)) from ⟨n5, a5, c5, L5, rfl, i5⟩); clear y0 y1 y2 f0 f1 f2 cx cy; replace BX := hide ((unhide BX).all hb1); obtain ⟨cx, cy⟩ := unhide HK _ (unhide SS).2.2; have y0 := (unhide BX).c0; have y1 := (unhide BX).c1; have y2 := (unhide BX).c2; have f0 := (unhide BX).free 0; have f1 := (unhide BX).free 1; have f2 := (unhide BX).free 2; have SF := hide ((unhide SS).put (unhide QS)); clear i5 hb1)
          | fail "NO ARM")
      all_goals
        go_wp2_with fail
        go_round
        case rel => exact ⟨k + 1, by omega, by go_num, SF⟩
        case measure => simp [intOf]; omega
    · have hkk : k = n := by omega
      subst hkk
      obtain ⟨h1, ⟨nn, aa, ll, cc, X, bx, ix⟩, h3⟩ := unhide hS
      have y0 := bx.c0; have y1 := bx.c1; have y2 := bx.c2
      have r0 := h1.c0; have r1 := h1.c1; have r2 := h1.c2; have f0 := h1.free 0; have f1 := h1.free 1; have f2 := h1.free 2
      have xe := h1.put (.bool nn) (.slice aa ll cc) (.int .i64 X)
      have e0 := xe.c0; have e1 := xe.c1; have e2 := xe.c2
      have HS := hide (IsDy.put3 ix h1 (.bool nn) (.slice aa ll cc) (.int .i64 X))
      have BE := hide (below_put3 h3 (Nat.le_refl _) (.bool nn) (.slice aa ll cc) (.int .i64 X))
      clear xe h1 bx ix h3 hS
      go_wp2_with fail
      exact bodyPost_ret (v := .agg #[.bool nn, .slice aa ll cc, .int .i64 X]) (by simp [results, Tryz.results45, go_sem, e0, e1, e2]) rfl ⟨_, rfl, unhide HS, unhide BE⟩

end Go.Proofs.YtfnnbkclnflpfaaGreatDoor

/- The reference of layer 11: Orthogonal by letters. -/
namespace Go.Proofs.YtfnnbkclnflpfaaGreatDoor
open Go.RowKit
attribute [local go_sem ↓] Go.wp_at_zero Go.wp_at_succ

theorem Box3.oth3 {w : World} {b : Nat} {x y z : Value} (h : Box3 w b x y z) {g : Nat} (hg : b ≠ g) (u u' u'' : Value) : Box3 (((w.setCell ⟨g, 0, none⟩ u).setCell ⟨g, 1, none⟩ u').setCell ⟨g, 2, none⟩ u'') b x y z :=
  ((h.other (p := ⟨g, 0, none⟩) hg u).other (p := ⟨g, 1, none⟩) hg u').other (p := ⟨g, 2, none⟩) hg u''
theorem Box3.ex {w : World} {b : Nat} {x y z : Value} (h : Box3 w b x y z) : ∃ g, g = b ∧ Box3 w g x y z := ⟨b, rfl, h⟩
/-- Another box of a number is written. -/
theorem Kept.oth3 {w : World} {b g : Nat} {lo s : Int} (h : Kept w b lo s) {x : Bool} {a : Option Addr} {l c : Nat} {y : Int} (hg : Box3 w g (.bool x) (.slice a l c) (.int .i64 y)) (hne : b ≠ g) (u u' u'' : Value) : Kept (((w.setCell ⟨g, 0, none⟩ u).setCell ⟨g, 1, none⟩ u').setCell ⟨g, 2, none⟩ u'') b lo s := by
  obtain ⟨n, a, l, c, X, h1, h2⟩ := h
  exact ⟨n, a, l, c, X, h1.oth3 hne _ _ _, IsDy.put3 h2 hg _ _ _⟩
/-- It is written itself. -/
theorem Kept.put {w : World} {g : Nat} {lo s t : Int} {lo' : Int} (h : Kept w g lo s) {n : Bool} {a : Option Addr} {l c : Nat} {X : Int} (hv : IsLv w (.agg #[.bool n, .slice a l c, .int .i64 X]) lo' t) : Kept (((w.setCell ⟨g, 0, none⟩ (.bool n)).setCell ⟨g, 1, none⟩ (.slice a l c)).setCell ⟨g, 2, none⟩ (.int .i64 X)) g lo' t := by
  obtain ⟨n', a', l', c', X', h1, _⟩ := h
  exact ⟨n, a, l, c, X, h1.put _ _ _, IsDy.put3 hv h1 _ _ _⟩

/-- One. -/
theorem rof11 (w : World) : Calls Tryz.prog 49 #[.int .i64 1] w fun e w' => ∃ v, e = .returned v ∧ IsNum w.heap.size w' v 1 ∧ Below w.heap.size w w' :=
  (refOf_any 1 w (by decide) (by decide)).mono fun e w' ⟨r, h1, h2, h3⟩ => ⟨r, h1, h2.num (by omega), h3⟩

/-- What holds in the reference's Orthogonal: the matrix's box, the answer's, the sum's. -/
def OrSt (w wr : World) (r c n cap : Nat) (ao : Option Addr) (lo s : Int) : Prop :=
  BoxM wr w.heap.size (.int .i64 r) (.int .i64 c) (.slice ao n cap) ∧ Box3 wr (w.heap.size + 1) (.bool false) (.slice none 0 0) (.int .i64 0) ∧ Kept wr (w.heap.size + 1 + 1) lo s ∧ Below w.heap.size w wr
theorem OrSt.all {w wr w' : World} {r c n cap : Nat} {ao : Option Addr} {lo s : Int} (h : OrSt w wr r c n cap ao lo s) (hb : Below wr.heap.size wr w') : OrSt w w' r c n cap ao lo s :=
  ⟨h.1.all hb, h.2.1.all hb, h.2.2.1.all hb, h.2.2.2.trans (hb.mono h.2.2.2.size)⟩
theorem OrSt.start (w : World) (r c n cap : Nat) (ao : Option Addr) (lo : Int) : OrSt w (((w.alloc (.cells #[.int .i64 r, .int .i64 c, .slice ao n cap] 24)).alloc (.cells #[.bool false, .slice none 0 0, .int .i64 0] 29)).alloc (.cells #[.bool false, .slice none 0 0, .int .i64 0] 29)) r c n cap ao lo 0 := by
  obtain ⟨x0, x1, bb⟩ := boxes1D w r c ao n cap
  have s1 : ((w.alloc (.cells #[.int .i64 r, .int .i64 c, .slice ao n cap] 24)).alloc (.cells #[.bool false, .slice none 0 0, .int .i64 0] 29)).heap.size = w.heap.size + 1 + 1 := by simp
  generalize (w.alloc (.cells #[.int .i64 r, .int .i64 c, .slice ao n cap] 24)).alloc (.cells #[.bool false, .slice none 0 0, .int .i64 0] 29) = w1 at *
  have b2 := below_alloc9 w1 (.cells #[.bool false, .slice none 0 0, .int .i64 0] 29)
  have k2 := Kept.new w1 lo
  rw [s1] at k2
  exact ⟨x0.all b2, x1.all b2, k2, bb.trans (b2.mono bb.size)⟩
/-- The sum is written. -/
theorem OrSt.put {w wr : World} {r c n cap : Nat} {ao : Option Addr} {lo s t : Int} (h : OrSt w wr r c n cap ao lo s) {ng : Bool} {a : Option Addr} {l cp : Nat} {X : Int} (hv : IsLv wr (.agg #[.bool ng, .slice a l cp, .int .i64 X]) lo t) :
    OrSt w (((wr.setCell ⟨w.heap.size + 1 + 1, 0, none⟩ (.bool ng)).setCell ⟨w.heap.size + 1 + 1, 1, none⟩ (.slice a l cp)).setCell ⟨w.heap.size + 1 + 1, 2, none⟩ (.int .i64 X)) r c n cap ao lo t :=
  ⟨h.1.oth3 (by omega) _ _ _, h.2.1.oth3 (by omega) _ _ _, h.2.2.1.put hv, below_put3 h.2.2.2 (by omega) _ _ _⟩
/-- A number's box behind is written. -/
theorem OrSt.away {w wr : World} {r c n cap : Nat} {ao : Option Addr} {lo s : Int} (h : OrSt w wr r c n cap ao lo s) {g : Nat} {lo' z : Int} (hg : Kept wr g lo' z) (hl : w.heap.size + 1 + 1 < g) (u u' u'' : Value) :
    OrSt w (((wr.setCell ⟨g, 0, none⟩ u).setCell ⟨g, 1, none⟩ u').setCell ⟨g, 2, none⟩ u'') r c n cap ao lo s := by
  obtain ⟨n', a', l', c', X', h1, _⟩ := hg
  exact ⟨h.1.oth3 (by omega) _ _ _, h.2.1.oth3 (by omega) _ _ _, h.2.2.1.oth3 h1 (by omega) _ _ _, below_put3 h.2.2.2 (by omega) _ _ _⟩

set_option maxRecDepth 20000 in
set_option maxHeartbeats 16000000 in
theorem rOrth_of (r c n cap : Nat) (ao : Option Addr) (cl : Nat → List Int) (lo1 lo2 one : Int) (dd D : Nat → Nat → Int) (sm : Nat → Nat → Int) (w : World) (hc : c ≤ 6) (hD1 : ∀ i, D i i = dd i i - one) (hD2 : ∀ i k, i ≠ k → D i k = dd i k) (s0 : sm 0 0 = 0) (s1 : ∀ i, sm (i + 1) 0 = sm i c)
    (C1 : ∀ w' k, Below w.heap.size w w' → k < c → Calls Tryz.prog 46 #[.agg #[.int .i64 r, .int .i64 c, .slice ao n cap], .int .i64 (k : Nat), .int .i64 0] w' fun e w'' => ∃ bo d, e = .returned (.slice bo r d) ∧ BitsAt w'' bo d (cl k) ∧ Below w'.heap.size w' w'')
    (C2 : ∀ w' i k xo xd yo yd, i < c → k < c → BitsAt w' xo xd (cl i) → BitsAt w' yo yd (cl k) → Calls Tryz.prog 45 #[.slice xo r xd, .slice yo r yd] w' fun e w'' => ∃ v, e = .returned v ∧ IsLv w'' v lo1 (dd i k) ∧ Below w'.heap.size w' w'')
    (C4 : ∀ w' B v, IsNum B w' v 1 → Calls Tryz.prog 48 #[v, .int .i64 0] w' fun e w'' => ∃ u, e = .returned u ∧ IsLv w'' u lo1 one ∧ Below w'.heap.size w' w'')
    (C5 : ∀ w' i v u, i < c → IsLv w' v lo1 (dd i i) → IsLv w' u lo1 one → Calls Tryz.prog 47 #[v, u] w' fun e w'' => ∃ q, e = .returned q ∧ IsLv w'' q lo1 (dd i i - one) ∧ Below w'.heap.size w' w'')
    (C6 : ∀ w' i k v, i < c → k < c → IsLv w' v lo1 (D i k) → Calls Tryz.prog 51 #[v, v] w' fun e w'' => ∃ q, e = .returned q ∧ IsLv w'' q lo2 (D i k * D i k) ∧ Below w'.heap.size w' w'')
    (C7 : ∀ w' i k v u, i < c → k < c → IsLv w' v lo2 (sm i k) → IsLv w' u lo2 (D i k * D i k) → Calls Tryz.prog 50 #[v, u] w' fun e w'' => ∃ q, e = .returned q ∧ IsLv w'' q lo2 (sm i (k + 1)) ∧ Below w'.heap.size w' w'') :
    Calls Tryz.prog 16 #[.agg #[.int .i64 r, .int .i64 c, .slice ao n cap]] w fun e w' => ∃ v, e = .returned v ∧ IsLv w' v lo2 (sm c 0) ∧ Below w.heap.size w w' := by
  have K1 := hide C1; have K2 := hide C2; have K4 := hide C4; have K5 := hide C5; have K6 := hide C6; have K7 := hide C7; have HD1 := hide hD1; have HD2 := hide hD2; have S1 := hide s1
  have ST := hide (show OrSt w _ r c n cap ao lo2 (sm 0 0) from by rw [s0]; exact OrSt.start w r c n cap ao lo2)
  clear C1 C2 C4 C5 C6 C7 hD1 hD2 s0 s1
  go_enter Tryz.func16, Tryz.ntmps16
  go_wp2_with fail
  go_loopw [4] (fun i wr => ∃ j : Nat, j ≤ c ∧ i = .int .i64 j ∧ Hid (OrSt w wr r c n cap ao lo2 (sm j 0))) (fun i _ => c - (intOf i).toNat)
  case atStart => exact ⟨0, Nat.zero_le _, rfl, ST⟩
  case round =>
    clear ST
    obtain ⟨j, hj, rfl, hS⟩ := hrel
    have m1 := (unhide hS).1.c1
    by_cases hlt : j < c
    · have hjI : (j : Int) < (c : Int) := by omega
      go_wp2_with fail
      clear m1
      go_loopw [5] (fun i wr => ∃ k : Nat, k ≤ c ∧ i = .int .i64 k ∧ Hid (OrSt w wr r c n cap ao lo2 (sm j k))) (fun i _ => c - (intOf i).toNat)
      case atStart => exact ⟨0, Nat.zero_le _, rfl, hS⟩
      case round =>
        clear hS
        obtain ⟨k, hk, rfl, hS⟩ := hrel
        have m1 := (unhide hS).1.c1
        by_cases hkc : k < c
        · have hkI : (k : Int) < (c : Int) := by omega
          go_wp2_with fail
          clear m1
          refine at_world (fun W => OrSt w W r c n cap ao lo2 (sm j k)) (unhide hS) ?_
          clear hS
          rintro W0 hS
          go_cut [6] from 14 to 38 (fun p wx => ∃ g : Nat, p = .pointer (some ⟨g, 0, none⟩) ∧ Hid (OrSt w wx r c n cap ao lo2 (sm j k) ∧ Kept wx g lo1 (dd j k) ∧ w.heap.size + 1 + 1 < g))
          case first =>
            have D0 := (Below.refl W0.heap.size W0).drew
            have HK := hide (show ∀ w' (h : Below W0.heap.size W0 w'), Below W0.heap.size W0 w' ∧ w'.cell? ⟨w.heap.size, 0, none⟩ = some (.int .i64 r) ∧ w'.cell? ⟨w.heap.size, 1, none⟩ = some (.int .i64 c) ∧ w'.cell? ⟨w.heap.size, 2, none⟩ = some (.slice ao n cap) from fun w' h => ⟨h, (hS.1.all h).c0, (hS.1.all h).c1, (hS.1.all h).c2⟩)
            have HKA := hide (fun wn o (h1 : Below W0.heap.size W0 wn) => unhide HK (wn.alloc o) (h1.alloc h1.size o))
            have HKS := hide (fun wn g u u' u'' (h1 : Below W0.heap.size W0 wn) (h4 : W0.heap.size ≤ g) => unhide HK (((wn.setCell ⟨g, 0, none⟩ u).setCell ⟨g, 1, none⟩ u').setCell ⟨g, 2, none⟩ u'') (below_put3 h1 h4 u u' u''))
            have BXA := hide (fun wm o (h1 : Below (W0.drew.alloc o).heap.size (W0.drew.alloc o) wm) => (show wm.heap[W0.heap.size]? = some o from (h1.block W0.heap.size (by simp)).trans (heap_alloc_new W0.drew o)))
            have BXC := hide (fun wm o (h1 : Below (W0.alloc o).drew.heap.size (W0.alloc o).drew wm) => (show wm.heap[W0.heap.size]? = some o from (h1.block W0.heap.size (by simp)).trans (heap_alloc_new W0 o)))
            have BXB := hide (fun (wn wm : World) o (h1 : Below (wn.alloc o).heap.size (wn.alloc o) wm) => (show wm.heap[wn.heap.size]? = some o from (h1.block wn.heap.size (by simp)).trans (heap_alloc_new wn o)))
            have BW := hide (fun w' (h : Below W0.heap.size W0 w') => hS.2.2.2.trans (h.mono hS.2.2.2.size))
            have SA := hide (fun w' (h : Below W0.heap.size W0 w') => hS.all h)
            have HG := hide hS.2.2.1.lt
            have W2 := hide (fun w' xo xd yo yd => unhide K2 w' j k xo xd yo yd hlt hkc)
            have W1 := hide (fun w' h => unhide K1 w' j h hlt)
            have W3 := hide (fun w' h => unhide K1 w' k h hkc)
            clear hS D0
            go_region_held3 (fun w' => Below W0.heap.size W0 w' ∧ w'.cell? ⟨w.heap.size, 0, none⟩ = some (.int .i64 r) ∧ w'.cell? ⟨w.heap.size, 1, none⟩ = some (.int .i64 c) ∧ w'.cell? ⟨w.heap.size, 2, none⟩ = some (.slice ao n cap))
              (first | assumption | exact unhide HK _ (Below.refl _ _).drew | exact unhide HK _ (by assumption) | exact unhide HKA _ _ (by assumption) | exact unhide HKA _ _ (And.left (by assumption)) | exact unhide HKS _ _ _ _ _ hBwm (by first | exact Nat.le_refl _ | exact Below.size (by assumption)) | fail "KK")
              (first
                | (go_at_call_of 46 j; refine (unhide W1 _ (unhide BW _ (And.left (by assumption)))).mono ?_; rintro e wa ⟨po, pd, rfl, qn, hb1⟩; have hBwa : Below W0.heap.size W0 wa := Below.trans (And.left (by assumption)) (hb1.mono (Below.size (And.left (by assumption)))); (first | (replace xb := Box3.all xb hb1) | ((with_reducible (have xb0 := unhide BXA _ _ hb1)); have xb : Box3 wa W0.heap.size (.bool false) (.slice none 0 0) (.int .i64 0) := xb0; clear xb0) | ((with_reducible (have xb0 := unhide BXC _ _ hb1)); have xb : Box3 wa W0.heap.size (.bool false) (.slice none 0 0) (.int .i64 0) := xb0; clear xb0) | ((with_reducible (have xb0 := unhide BXB _ _ _ hb1)); have xb : Box3 wa _ (.bool false) (.slice none 0 0) (.int .i64 0) := xb0; clear xb0) | skip); (first | (with_reducible (replace QY := hide ((unhide QY).below hb1))) | (with_reducible (replace QY := hide (((unhide QY).below (below_alloc9 _ _)).below hb1))) | skip); have QX := hide qn; clear qn hb1)
                | (go_at_call_of 46 k; refine (unhide W3 _ (unhide BW _ (And.left (by assumption)))).mono ?_; rintro e wd ⟨qo, qd, rfl, qn, hb1⟩; have hBwd : Below W0.heap.size W0 wd := Below.trans (And.left (by assumption)) (hb1.mono (Below.size (And.left (by assumption)))); (first | (replace xb := Box3.all xb hb1) | ((with_reducible (have xb0 := unhide BXA _ _ hb1)); have xb : Box3 wd W0.heap.size (.bool false) (.slice none 0 0) (.int .i64 0) := xb0; clear xb0) | ((with_reducible (have xb0 := unhide BXC _ _ hb1)); have xb : Box3 wd W0.heap.size (.bool false) (.slice none 0 0) (.int .i64 0) := xb0; clear xb0) | ((with_reducible (have xb0 := unhide BXB _ _ _ hb1)); have xb : Box3 wd _ (.bool false) (.slice none 0 0) (.int .i64 0) := xb0; clear xb0) | skip); (first | (with_reducible (replace QX := hide ((unhide QX).below hb1))) | (with_reducible (replace QX := hide (((unhide QX).below (below_alloc9 _ _)).below hb1))) | skip); have QY := hide qn; clear qn hb1)
                | (go_at_call 45; refine (unhide W2 _ _ _ _ _ (by first | with_reducible exact unhide QX | exact (unhide QX).below (below_alloc9 _ _)) (by first | with_reducible exact unhide QY | exact (unhide QY).below (below_alloc9 _ _))).mono ?_; rintro e wm ⟨q, rfl, ⟨n5, a5, c5, L5, rfl, i5⟩, hb1⟩; have hBwm : Below W0.heap.size W0 wm := Below.trans (And.left (by assumption)) (hb1.mono (Below.size (And.left (by assumption)))); (first | (replace xb := Box3.all xb hb1) | ((with_reducible (have xb0 := unhide BXA _ _ hb1)); have xb : Box3 wm W0.heap.size (.bool false) (.slice none 0 0) (.int .i64 0) := xb0; clear xb0) | ((with_reducible (have xb0 := unhide BXC _ _ hb1)); have xb : Box3 wm W0.heap.size (.bool false) (.slice none 0 0) (.int .i64 0) := xb0; clear xb0) | ((with_reducible (have xb0 := unhide BXB _ _ _ hb1)); have xb : Box3 wm _ (.bool false) (.slice none 0 0) (.int .i64 0) := xb0; clear xb0) | skip); have IP := hide (show IsLv wm (.agg #[.bool n5, .slice a5 L5.length c5, .int .i64 (oE (dd j k) lo1)]) lo1 (dd j k) from ⟨n5, a5, c5, L5, rfl, i5⟩); (first | (have y0 := xb.c0; have y1 := xb.c1; have y2 := xb.c2; have f0 := xb.free 0; have f1 := xb.free 1; have f2 := xb.free 2) | skip); clear i5 hb1)
                | fail "NO ARM")
            all_goals
              first
                | (have xq := xb; clear y0 y1 y2 f0 f1 f2; go_wp2_with fail; go_meet; case rel => exact ⟨_, rfl, hide ⟨(unhide SA _ hBwm).away ⟨_, _, _, _, _, xq, IsLv.zero _ 0⟩ (by first | exact unhide HG | exact Nat.lt_of_lt_of_le (unhide HG) (Below.size hBwa) | exact Nat.lt_of_lt_of_le (unhide HG) (Below.size hBwd)) _ _ _, ⟨_, _, _, _, _, xq.put _ _ _, IsDy.put3 (unhide IP) xq _ _ _⟩, (by first | exact unhide HG | exact Nat.lt_of_lt_of_le (unhide HG) (Below.size hBwa) | exact Nat.lt_of_lt_of_le (unhide HG) (Below.size hBwd))⟩⟩)
                | (go_wp2_with fail; go_meet; case rel => exact ⟨_, rfl, hide ⟨(unhide SA _ hBwm).all (below_alloc9 _ _), ⟨_, _, _, _, _, Box3.new _ _ _ _, (unhide IP).below (below_alloc9 _ _)⟩, Nat.lt_of_lt_of_le (unhide HG) (Below.size hBwm)⟩⟩)
                | fail "NO WAY"
          case rest =>
            obtain ⟨g, rfl, hD⟩ := hcut
            obtain ⟨hS, hkp, hg⟩ := unhide hD
            have ST := hide hS; have KP := hide hkp; have HG := hide hg
            clear hS hkp hg hD
            have W6 := hide (fun w' v => unhide K6 w' j k v hlt hkc)
            have W7 := hide (fun w' v u => unhide K7 w' j k v u hlt hkc)
            by_cases hjk : j = k
            · have E1 := hide (show D j k = dd j k - one from by rw [← hjk]; exact unhide HD1 j)
              have W5 := hide (fun w' v u => unhide K5 w' j v u hlt)
              have HJ := hide hjk
              rw [show dd j j = dd j k by rw [← hjk]] at W5
              have hb : ((j : Int) == (k : Int)) = true := by rw [hjk]; simp
              have hb2 : decide ((j : Int) = (k : Int)) = true := by rw [hjk]; simp
              clear hjk
              go_wp2_with fail
              clear hb hb2
              go_cut [6] from 14 to 38 (fun p wx => p = .pointer (some ⟨g, 0, none⟩) ∧ Hid (OrSt w wx r c n cap ao lo2 (sm j k) ∧ Kept wx g lo1 (D j k)))
              case first =>
                refine at_world (fun W => OrSt w W r c n cap ao lo2 (sm j k) ∧ Kept W g lo1 (dd j k)) ⟨unhide ST, unhide KP⟩ ?_
                clear ST KP
                rintro W0 ⟨st, kp⟩
                have D0 := (Below.refl W0.heap.size W0).drew
                have ST := hide (st.all D0); have KP := hide (kp.all D0)
                obtain ⟨n1, a1, l1, c1, X1, bd, id⟩ := unhide KP
                have BD := hide bd; have ID := hide id
                have d0 := bd.c0; have d1 := bd.c1; have d2 := bd.c2; have f0 := bd.free 0; have f1 := bd.free 1; have f2 := bd.free 2
                clear st kp bd id D0
                go_region_with (first
                  | (go_at_call 49; refine (rof11 _).mono ?_; rintro e w9 ⟨v, rfl, qn, hb1⟩; clear d0 d1 d2 f0 f1 f2; replace BD := hide ((unhide BD).all hb1); replace ID := hide ((unhide ID).below hb1); replace ST := hide ((unhide ST).all hb1); replace KP := hide ((unhide KP).all hb1); have d0 := (unhide BD).c0; have d1 := (unhide BD).c1; have d2 := (unhide BD).c2; have f0 := (unhide BD).free 0; have f1 := (unhide BD).free 1; have f2 := (unhide BD).free 2; have QN := hide qn; clear qn hb1)
                  | (go_at_call 48; refine (unhide K4 _ _ _ (unhide QN)).mono ?_; rintro e w9 ⟨v, rfl, qn, hb1⟩; clear d0 d1 d2 f0 f1 f2; replace BD := hide ((unhide BD).all hb1); replace ID := hide ((unhide ID).below hb1); replace ST := hide ((unhide ST).all hb1); replace KP := hide ((unhide KP).all hb1); have d0 := (unhide BD).c0; have d1 := (unhide BD).c1; have d2 := (unhide BD).c2; have f0 := (unhide BD).free 0; have f1 := (unhide BD).free 1; have f2 := (unhide BD).free 2; have QO := hide qn; clear qn hb1)
                  | (go_at_call 47; refine (unhide W5 _ _ _ (unhide ID) (unhide QO)).mono ?_; rintro e w9 ⟨v, rfl, ⟨n5, a5, c5, L5, rfl, i5⟩, hb1⟩; clear d0 d1 d2 f0 f1 f2; replace BD := hide ((unhide BD).all hb1); replace ID := hide ((unhide ID).below hb1); replace ST := hide ((unhide ST).all hb1); replace KP := hide ((unhide KP).all hb1); have d0 := (unhide BD).c0; have d1 := (unhide BD).c1; have d2 := (unhide BD).c2; have f0 := (unhide BD).free 0; have f1 := (unhide BD).free 1; have f2 := (unhide BD).free 2; have IP := hide (show IsLv w9 (.agg #[.bool n5, .slice a5 L5.length c5, .int .i64 (oE (dd j k - one) lo1)]) lo1 (dd j k - one) from ⟨n5, a5, c5, L5, rfl, i5⟩); clear i5 hb1)
                  | fail "NO ARM")
                all_goals
                  clear d0 d1 d2 f0 f1 f2
                  go_wp2_with fail
                  go_meet
                  case rel => exact ⟨rfl, hide ⟨(unhide ST).away (unhide KP) (unhide HG) _ _ _, by rw [unhide E1]; exact (unhide KP).put (unhide IP)⟩⟩
              case rest =>
                obtain ⟨rfl, hD⟩ := hcut
                clear ST KP
                obtain ⟨hS, hkp⟩ := unhide hD
                have ST := hide hS; have KP := hide hkp
                clear hS hkp hD
                go_wp2_with fail
                refine at_world (fun W => OrSt w W r c n cap ao lo2 (sm j k) ∧ Kept W g lo1 (D j k)) ⟨unhide ST, unhide KP⟩ ?_
                clear ST KP
                rintro W0 ⟨st, kp⟩
                have D0 := (Below.refl W0.heap.size W0).drew
                have ST := hide (st.all D0)
                obtain ⟨n1, a1, l1, c1, X1, bd, id⟩ := kp.all D0
                obtain ⟨n2, a2, l2, c2, X2, bs, is⟩ := (unhide ST).2.2.1
                have BD := hide bd; have ID := hide id; have BS := hide bs; have IS := hide is
                have d0 := bd.c0; have d1 := bd.c1; have d2 := bd.c2
                have y0 := bs.c0; have y1 := bs.c1; have y2 := bs.c2; have f0 := bs.free 0; have f1 := bs.free 1; have f2 := bs.free 2
                clear st kp bd id bs is D0
                go_region_with (first
                  | (go_at_call 51; refine (unhide W6 _ _ (unhide ID)).mono ?_; rintro e w9 ⟨v, rfl, qn, hb1⟩; clear y0 y1 y2 f0 f1 f2 d0 d1 d2; replace BS := hide ((unhide BS).all hb1); replace BD := hide ((unhide BD).all hb1); replace ST := hide ((unhide ST).all hb1); have y0 := (unhide BS).c0; have y1 := (unhide BS).c1; have y2 := (unhide BS).c2; have f0 := (unhide BS).free 0; have f1 := (unhide BS).free 1; have f2 := (unhide BS).free 2; have d0 := (unhide BD).c0; have d1 := (unhide BD).c1; have d2 := (unhide BD).c2; replace IS := hide ((unhide IS).below hb1); have QM := hide qn; clear qn hb1)
                  | (go_at_call 50; refine (unhide W7 _ _ _ (unhide IS) (unhide QM)).mono ?_; rintro e w9 ⟨v, rfl, ⟨n5, a5, c5, L5, rfl, i5⟩, hb1⟩; clear y0 y1 y2 f0 f1 f2 d0 d1 d2; replace BS := hide ((unhide BS).all hb1); replace BD := hide ((unhide BD).all hb1); replace ST := hide ((unhide ST).all hb1); have y0 := (unhide BS).c0; have y1 := (unhide BS).c1; have y2 := (unhide BS).c2; have f0 := (unhide BS).free 0; have f1 := (unhide BS).free 1; have f2 := (unhide BS).free 2; have d0 := (unhide BD).c0; have d1 := (unhide BD).c1; have d2 := (unhide BD).c2; have IP := hide (show IsLv w9 (.agg #[.bool n5, .slice a5 L5.length c5, .int .i64 (oE (sm j (k + 1)) lo2)]) lo2 (sm j (k + 1)) from ⟨n5, a5, c5, L5, rfl, i5⟩); clear i5 hb1)
                  | fail "NO ARM")
                all_goals
                  clear d0 d1 d2 y0 y1 y2 f0 f1 f2
                  go_wp2_with fail
                  go_roundw
                  case rel =>
                    first
                      | exact ⟨k + 1, by omega, by go_num, hide ((unhide ST).put (unhide IP))⟩
                      | ((repeat apply Exists.intro); exact ⟨⟨k + 1, by omega, by go_num, hide ((unhide ST).put (unhide IP))⟩, rfl⟩)
                  case measure => simp [intOf]; omega
            · have hb : ((j : Int) == (k : Int)) = false := by simp; omega
              have hb2 : decide ((j : Int) = (k : Int)) = false := by simp; omega
              replace KP : Hid (Kept wc g lo1 (D j k)) := by rw [unhide HD2 j k hjk]; exact KP
              clear hjk
              go_wp2_with fail
              clear hb hb2
              refine at_world (fun W => OrSt w W r c n cap ao lo2 (sm j k) ∧ Kept W g lo1 (D j k)) ⟨unhide ST, unhide KP⟩ ?_
              clear ST KP
              rintro W0 ⟨st, kp⟩
              have D0 := (Below.refl W0.heap.size W0).drew
              have ST := hide (st.all D0)
              obtain ⟨n1, a1, l1, c1, X1, bd, id⟩ := kp.all D0
              obtain ⟨n2, a2, l2, c2, X2, bs, is⟩ := (unhide ST).2.2.1
              have BD := hide bd; have ID := hide id; have BS := hide bs; have IS := hide is
              have d0 := bd.c0; have d1 := bd.c1; have d2 := bd.c2
              have y0 := bs.c0; have y1 := bs.c1; have y2 := bs.c2; have f0 := bs.free 0; have f1 := bs.free 1; have f2 := bs.free 2
              clear st kp bd id bs is D0
              go_region_with (first
                | (go_at_call 51; refine (unhide W6 _ _ (unhide ID)).mono ?_; rintro e w9 ⟨v, rfl, qn, hb1⟩; clear y0 y1 y2 f0 f1 f2 d0 d1 d2; replace BS := hide ((unhide BS).all hb1); replace BD := hide ((unhide BD).all hb1); replace ST := hide ((unhide ST).all hb1); have y0 := (unhide BS).c0; have y1 := (unhide BS).c1; have y2 := (unhide BS).c2; have f0 := (unhide BS).free 0; have f1 := (unhide BS).free 1; have f2 := (unhide BS).free 2; have d0 := (unhide BD).c0; have d1 := (unhide BD).c1; have d2 := (unhide BD).c2; replace IS := hide ((unhide IS).below hb1); have QM := hide qn; clear qn hb1)
                | (go_at_call 50; refine (unhide W7 _ _ _ (unhide IS) (unhide QM)).mono ?_; rintro e w9 ⟨v, rfl, ⟨n5, a5, c5, L5, rfl, i5⟩, hb1⟩; clear y0 y1 y2 f0 f1 f2 d0 d1 d2; replace BS := hide ((unhide BS).all hb1); replace BD := hide ((unhide BD).all hb1); replace ST := hide ((unhide ST).all hb1); have y0 := (unhide BS).c0; have y1 := (unhide BS).c1; have y2 := (unhide BS).c2; have f0 := (unhide BS).free 0; have f1 := (unhide BS).free 1; have f2 := (unhide BS).free 2; have d0 := (unhide BD).c0; have d1 := (unhide BD).c1; have d2 := (unhide BD).c2; have IP := hide (show IsLv w9 (.agg #[.bool n5, .slice a5 L5.length c5, .int .i64 (oE (sm j (k + 1)) lo2)]) lo2 (sm j (k + 1)) from ⟨n5, a5, c5, L5, rfl, i5⟩); clear i5 hb1)
                | fail "NO ARM")
              all_goals
                clear d0 d1 d2 y0 y1 y2 f0 f1 f2
                go_wp2_with fail
                go_roundw
                case rel =>
                  first
                    | exact ⟨k + 1, by omega, by go_num, hide ((unhide ST).put (unhide IP))⟩
                    | ((repeat apply Exists.intro); exact ⟨⟨k + 1, by omega, by go_num, hide ((unhide ST).put (unhide IP))⟩, rfl⟩)
                case measure => simp [intOf]; omega
        · have hkk : k = c := by omega
          subst hkk
          go_wp2_with fail
          go_round
          case rel => exact ⟨j + 1, by omega, by go_num, by rw [unhide S1]; exact hS⟩
          case measure => simp [intOf]; omega
    · have hjj : j = c := by omega
      subst hjj
      obtain ⟨h0, h1, ⟨nn, aa, ll, cc, X, bx, ix⟩, h3⟩ := unhide hS
      have y0 := bx.c0; have y1 := bx.c1; have y2 := bx.c2
      have r0 := h1.c0; have r1 := h1.c1; have r2 := h1.c2; have f0 := h1.free 0; have f1 := h1.free 1; have f2 := h1.free 2
      have xe := h1.put (.bool nn) (.slice aa ll cc) (.int .i64 X)
      have e0 := xe.c0; have e1 := xe.c1; have e2 := xe.c2
      have HS := hide (IsDy.put3 ix h1 (.bool nn) (.slice aa ll cc) (.int .i64 X))
      have BE := hide (below_put3 h3 (show w.heap.size ≤ w.heap.size + 1 by omega) (.bool nn) (.slice aa ll cc) (.int .i64 X))
      clear xe h0 h1 bx ix h3 hS
      go_wp2_with fail
      exact bodyPost_ret (v := .agg #[.bool nn, .slice aa ll cc, .int .i64 X]) (by simp [results, Tryz.results16, go_sem, e0, e1, e2]) rfl ⟨_, rfl, unhide HS, unhide BE⟩

end Go.Proofs.YtfnnbkclnflpfaaGreatDoor

/- The reference of layer 11: Residual by letters. -/
namespace Go.Proofs.YtfnnbkclnflpfaaGreatDoor
open Go.RowKit
attribute [local go_sem ↓] Go.wp_at_zero Go.wp_at_succ

/-- Three matrices' boxes, the answer's, the sum's. -/
def RsSt (w wr : World) (r c p q s d : Int) (ao bo co : Option Addr) (na nb nc ca cb cc : Nat) (lo z : Int) : Prop :=
  Bx3D w wr r c p q s d ao bo co na nb nc ca cb cc ∧ Kept wr (w.heap.size + 1 + 1 + 1 + 1) lo z
theorem RsSt.all {w wr w' : World} {r c p q s d : Int} {ao bo co : Option Addr} {na nb nc ca cb cc : Nat} {lo z : Int} (h : RsSt w wr r c p q s d ao bo co na nb nc ca cb cc lo z) (hb : Below wr.heap.size wr w') : RsSt w w' r c p q s d ao bo co na nb nc ca cb cc lo z := ⟨h.1.all hb, h.2.all hb⟩
theorem RsSt.start (w : World) (r c p q s d : Int) (ao bo co : Option Addr) (na nb nc ca cb cc : Nat) (lo : Int) : RsSt w (((((w.alloc (.cells #[.int .i64 r, .int .i64 c, .slice ao na ca] 24)).alloc (.cells #[.int .i64 p, .int .i64 q, .slice bo nb cb] 24)).alloc (.cells #[.int .i64 s, .int .i64 d, .slice co nc cc] 24)).alloc (.cells #[.bool false, .slice none 0 0, .int .i64 0] 29)).alloc (.cells #[.bool false, .slice none 0 0, .int .i64 0] 29)) r c p q s d ao bo co na nb nc ca cb cc lo 0 := by
  have h := Bx3D.start w r c p q s d ao bo co na nb nc ca cb cc
  have e : ((((w.alloc (.cells #[.int .i64 r, .int .i64 c, .slice ao na ca] 24)).alloc (.cells #[.int .i64 p, .int .i64 q, .slice bo nb cb] 24)).alloc (.cells #[.int .i64 s, .int .i64 d, .slice co nc cc] 24)).alloc (.cells #[.bool false, .slice none 0 0, .int .i64 0] 29)).heap.size = w.heap.size + 1 + 1 + 1 + 1 := by simp
  generalize (((w.alloc (.cells #[.int .i64 r, .int .i64 c, .slice ao na ca] 24)).alloc (.cells #[.int .i64 p, .int .i64 q, .slice bo nb cb] 24)).alloc (.cells #[.int .i64 s, .int .i64 d, .slice co nc cc] 24)).alloc (.cells #[.bool false, .slice none 0 0, .int .i64 0] 29) = w1 at *
  have b2 := below_alloc9 w1 (.cells #[.bool false, .slice none 0 0, .int .i64 0] 29)
  have k2 := Kept.new w1 lo
  rw [e] at k2
  exact ⟨h.all b2, k2⟩
theorem Bx3D.oth {w wr : World} {r c p q s d : Int} {ao bo co : Option Addr} {na nb nc ca cb cc : Nat} (h : Bx3D w wr r c p q s d ao bo co na nb nc ca cb cc) {g : Nat} (hg : w.heap.size + 1 + 1 + 1 < g) (u u' u'' : Value) : Bx3D w (((wr.setCell ⟨g, 0, none⟩ u).setCell ⟨g, 1, none⟩ u').setCell ⟨g, 2, none⟩ u'') r c p q s d ao bo co na nb nc ca cb cc :=
  ⟨h.1.oth3 (by omega) _ _ _, h.2.1.oth3 (by omega) _ _ _, h.2.2.1.oth3 (by omega) _ _ _, h.2.2.2.1.oth3 (by omega) _ _ _, below_put3 h.2.2.2.2 (by omega) _ _ _⟩
theorem RsSt.put {w wr : World} {r c p q s d : Int} {ao bo co : Option Addr} {na nb nc ca cb cc : Nat} {lo z t : Int} (h : RsSt w wr r c p q s d ao bo co na nb nc ca cb cc lo z) {ng : Bool} {a : Option Addr} {l cp : Nat} {X : Int} (hv : IsLv wr (.agg #[.bool ng, .slice a l cp, .int .i64 X]) lo t) :
    RsSt w (((wr.setCell ⟨(w.heap.size + 1 + 1 + 1 + 1), 0, none⟩ (.bool ng)).setCell ⟨(w.heap.size + 1 + 1 + 1 + 1), 1, none⟩ (.slice a l cp)).setCell ⟨(w.heap.size + 1 + 1 + 1 + 1), 2, none⟩ (.int .i64 X)) r c p q s d ao bo co na nb nc ca cb cc lo t := ⟨h.1.oth (by omega) _ _ _, h.2.put hv⟩
end Go.Proofs.YtfnnbkclnflpfaaGreatDoor

/- The reference of layer 11: Gradient by letters. -/
namespace Go.Proofs.YtfnnbkclnflpfaaGreatDoor
open Go.RowKit
attribute [local go_sem ↓] Go.wp_at_zero Go.wp_at_succ

theorem OwnD.made (w : World) (base : Nat) (lo : Int) (f : Nat → Int) (hb : base ≤ w.heap.size) : OwnD base (w.alloc (.cells #[] 29)) (.slice (some ⟨w.heap.size, 0, none⟩) 0 0) 0 lo f :=
  ⟨[], rfl, World.ownsRow_made w #[] 0 hb (by simp [maxLen]) (by simp), fun g hg => by cases hg; exact ⟨#[], _, heap_alloc_new w _, fun u hu => by simp at hu⟩, fun k hk => by omega⟩
theorem OwnD.put3 {base : Nat} {w : World} {v : Value} {n : Nat} {lo : Int} {f : Nat → Int} (h : OwnD base w v n lo f) {g : Nat} {x : Bool} {a : Option Addr} {l c : Nat} {y : Int} (hx : Box3 w g (.bool x) (.slice a l c) (.int .i64 y)) (hg : g < base) (b : Bool) (a' : Option Addr) (l' c' : Nat) (y' : Int) :
    OwnD base (((w.setCell ⟨g, 0, none⟩ (.bool b)).setCell ⟨g, 1, none⟩ (.slice a' l' c')).setCell ⟨g, 2, none⟩ (.int .i64 y')) v n lo f :=
  ((h.set hx.clr hg 0 _).set (hx.clr.set _ _ rfl) hg 1 _).set ((hx.clr.set _ _ rfl).set _ _ rfl) hg 2 _
theorem OwnD.congr {base : Nat} {w : World} {v : Value} {n : Nat} {lo : Int} {f g : Nat → Int} (h : OwnD base w v n lo f) (he : ∀ k, k < n → f k = g k) : OwnD base w v n lo g := by
  obtain ⟨D, h1, h2, h3, h4⟩ := h
  exact ⟨D, h1, h2, h3, fun k hk => by rw [← he k hk]; exact h4 k hk⟩

/-- Boxes and the sum stay where a row behind them grows. -/
theorem RsSt.grown {w W w' : World} {r c p q s d : Int} {ao bo co : Option Addr} {na nb nc ca cb cc : Nat} {lo z : Int} (h : RsSt w W r c p q s d ao bo co na nb nc ca cb cc lo z) {v : Value} (hc : Clear W v) (hl : ∀ k, v.ownBlock = some k → (w.heap.size + 5) ≤ k) (hg : W.grownBy w' v.ownBlock) : RsSt w w' r c p q s d ao bo co na nb nc ca cb cc lo z := by
  obtain ⟨⟨h1, h2, h3, h4, h5⟩, n', a', l', c', X', h6, h7⟩ := h
  have ne : ∀ b, b < (w.heap.size + 5) → v.ownBlock ≠ some b := fun b hb e => by have := hl b e; omega
  exact ⟨⟨h1.grown hg (ne _ (by omega)), h2.grown hg (ne _ (by omega)), h3.grown hg (ne _ (by omega)), (hg.block _ h4.lt (ne _ (by omega)).symm).trans h4, h5.grown hg h5.size (fun k hk => by have := hl k hk; omega)⟩, n', a', l', c', X', (hg.block _ h6.lt (ne _ (by omega)).symm).trans h6, h7.grownClear hc hg⟩

end Go.Proofs.YtfnnbkclnflpfaaGreatDoor

