/- Part 39 of the texts. -/
import Derived.Test.YtceofkjefmilfaaGreatDoorPartc37
import Derived.Deep.CutRange
import Derived.Test.YtceofkjefmilfaaGreatDoorPartc38
import Derived.Test.YtceofkjefmilfaaGreatDoorPartc27
import Derived.Deep.RegionHeld3
import Derived.Test.YtceofkjefmilfaaGreatDoorPartc30
/- The reference of layer 11: Dot. -/
namespace Go.Proofs.YtceofkjefmilfaaGreatDoor
open Go.RowKit
attribute [local go_sem ↓] Go.wp_at_zero Go.wp_at_succ

/-- What holds in a sum's loop: the answer's box, the sum. -/
def DtSt (w wr : World) (lo s : Int) : Prop := Box3 wr w.heap.size (.bool false) (.slice none 0 0) (.int .i64 0) ∧ Kept wr (w.heap.size + 1) lo s ∧ Below w.heap.size w wr
theorem DtSt.all {w wr w' : World} {lo s : Int} (h : DtSt w wr lo s) (hb : Below wr.heap.size wr w') : DtSt w w' lo s := ⟨h.1.all hb, h.2.1.all hb, h.2.2.trans (hb.mono h.2.2.size)⟩
theorem DtSt.start (w : World) (lo : Int) : DtSt w ((w.alloc (.cells #[.bool false, .slice none 0 0, .int .i64 0] 52)).alloc (.cells #[.bool false, .slice none 0 0, .int .i64 0] 52)) lo 0 := by
  have b0 := below_alloc9 w (.cells #[.bool false, .slice none 0 0, .int .i64 0] 52)
  have s0 := size_alloc9 w (.cells #[.bool false, .slice none 0 0, .int .i64 0] 52)
  have x0 := Box3.new w (.bool false) (.slice none 0 0) (.int .i64 0)
  generalize w.alloc (.cells #[.bool false, .slice none 0 0, .int .i64 0] 52) = w0 at *
  have b1 := below_alloc9 w0 (.cells #[.bool false, .slice none 0 0, .int .i64 0] 52)
  have k1 := Kept.new w0 lo
  rw [s0] at k1
  exact ⟨x0.all b1, k1, b0.trans (b1.mono b0.size)⟩
/-- The sum's box is written. -/
theorem DtSt.put {w wr : World} {lo s t : Int} (h : DtSt w wr lo s) {n : Bool} {a : Option Addr} {l c : Nat} {X : Int} (hv : IsLv wr (.agg #[.bool n, .slice a l c, .int .i64 X]) lo t) :
    DtSt w (((wr.setCell ⟨w.heap.size + 1, 0, none⟩ (.bool n)).setCell ⟨w.heap.size + 1, 1, none⟩ (.slice a l c)).setCell ⟨w.heap.size + 1, 2, none⟩ (.int .i64 X)) lo t := by
  obtain ⟨h1, ⟨n', a', l', c', X', h2, _⟩, h3⟩ := h
  have ne : w.heap.size ≠ w.heap.size + 1 := by omega
  exact ⟨((h1.other (p := ⟨w.heap.size + 1, 0, none⟩) ne _).other (p := ⟨w.heap.size + 1, 1, none⟩) ne _).other (p := ⟨w.heap.size + 1, 2, none⟩) ne _, ⟨n, a, l, c, X, h2.put _ _ _, IsDy.put3 hv h2 _ _ _⟩, below_put3 h3 (by omega) _ _ _⟩

set_option maxRecDepth 20000 in
set_option maxHeartbeats 16000000 in
theorem rdot_of (ao bo : Option Addr) (c d n : Nat) (I J : List Int) (lo lo2 : Int) (fa fb sm : Nat → Int) (w : World) (hI : BitsAt w ao c I) (hJ : BitsAt w bo d J) (hi : I.length = n) (hj : J.length = n) (hn : n ≤ 8) (h0 : sm 0 = 0)
    (C1 : ∀ w' k, k < n → Calls Tryz.prog 25 #[.int .u64 (atB I k : Nat)] w' fun r w'' => ∃ u, r = .returned u ∧ IsLv w'' u lo (fa k) ∧ Below w'.heap.size w' w'')
    (C2 : ∀ w' k, k < n → Calls Tryz.prog 25 #[.int .u64 (atB J k : Nat)] w' fun r w'' => ∃ u, r = .returned u ∧ IsLv w'' u lo (fb k) ∧ Below w'.heap.size w' w'')
    (C3 : ∀ w' k v u, k < n → IsLv w' v lo (fa k) → IsLv w' u lo (fb k) → Calls Tryz.prog 58 #[v, u] w' fun r w'' => ∃ q, r = .returned q ∧ IsLv w'' q lo2 (fa k * fb k) ∧ Below w'.heap.size w' w'')
    (C4 : ∀ w' k v u, k < n → IsLv w' v lo2 (sm k) → IsLv w' u lo2 (fa k * fb k) → Calls Tryz.prog 57 #[v, u] w' fun r w'' => ∃ q, r = .returned q ∧ IsLv w'' q lo2 (sm (k + 1)) ∧ Below w'.heap.size w' w'') :
    Calls Tryz.prog 26 #[.slice ao n c, .slice bo n d] w fun e w' => ∃ v, e = .returned v ∧ IsLv w' v lo2 (sm n) ∧ Below w.heap.size w w' := by
  have K1 := hide C1; have K2 := hide C2; have K3 := hide C3; have K4 := hide C4; have HI := hide hI; have HJ := hide hJ; have LI := hide hi; have LJ := hide hj
  have ST := hide (show DtSt w _ lo2 (sm 0) from by rw [h0]; exact DtSt.start w lo2)
  clear C1 C2 C3 C4 hI hJ hi hj h0
  go_enter Tryz.func26, Tryz.ntmps26
  go_wp2_with fail
  go_loopw [6] (fun i wr => ∃ k : Nat, k ≤ n ∧ i = .int .i64 k ∧ Hid (DtSt w wr lo2 (sm k))) (fun i _ => n - (intOf i).toNat)
  case atStart => exact ⟨0, Nat.zero_le _, rfl, ST⟩
  case round =>
    clear ST
    obtain ⟨k, hk, rfl, hS⟩ := hrel
    by_cases hlt : k < n
    · have hkI : (k : Int) < (n : Int) := by omega
      have W1 := hide (fun w' => unhide K1 w' k hlt)
      have W2 := hide (fun w' => unhide K2 w' k hlt)
      have W3 := hide (fun w' v u => unhide K3 w' k v u hlt)
      have W4 := hide (fun w' v u => unhide K4 w' k v u hlt)
      obtain ⟨b1, o1, rfl, p1, q1⟩ := (unhide HI).ne (by rw [unhide LI]; omega)
      obtain ⟨b2, o2, rfl, p2, q2⟩ := (unhide HJ).ne (by rw [unhide LJ]; omega)
      have cx := q1 k (by rw [unhide LI]; exact hlt)
      have cy := q2 k (by rw [unhide LJ]; exact hlt)
      generalize atB I k = x at *
      generalize atB J k = y at *
      have KX := hide cx; have KY := hide cy; have P1 := hide p1; have P2 := hide p2
      clear q1 q2 cx cy p1 p2
      go_wp2_with fail
      refine at_world (fun W => DtSt w W lo2 (sm k)) (unhide hS) ?_
      clear hS
      rintro W0 hS
      have D0 := (Below.refl W0.heap.size W0).drew
      have SS := hide (hS.all D0)
      obtain ⟨nn, aa, ll, cc, X, bx, ix⟩ := (unhide SS).2.1
      have y0 := bx.c0; have y1 := bx.c1; have y2 := bx.c2; have f0 := bx.free 0; have f1 := bx.free 1; have f2 := bx.free 2
      have BX := hide bx; have IX := hide ix
      have HK := hide (show ∀ w' (h : Below w.heap.size w w'), w'.cell? ⟨b1, o1 + k, none⟩ = some (.int .u64 (x : Nat)) ∧ w'.cell? ⟨b2, o2 + k, none⟩ = some (.int .u64 (y : Nat)) from fun w' h =>
        ⟨(h.cell (p := ⟨b1, o1 + k, none⟩) (unhide P1)).trans (unhide KX), (h.cell (p := ⟨b2, o2 + k, none⟩) (unhide P2)).trans (unhide KY)⟩)
      clear hS D0 bx ix KX KY P1 P2
      obtain ⟨cx, cy⟩ := unhide HK _ (unhide SS).2.2
      go_region_with (first
          | (go_at_call_of 25 x; refine (unhide W1 _).mono ?_; rintro e w4 ⟨q, rfl, hq, hb1⟩; replace SS := hide ((unhide SS).all hb1); (first | (replace QY := hide ((unhide QY).below hb1)) | skip); have QX := hide hq; clear y0 y1 y2 f0 f1 f2 cx cy; replace BX := hide ((unhide BX).all hb1); replace IX := hide ((unhide IX).below hb1); obtain ⟨cx, cy⟩ := unhide HK _ (unhide SS).2.2; have y0 := (unhide BX).c0; have y1 := (unhide BX).c1; have y2 := (unhide BX).c2; have f0 := (unhide BX).free 0; have f1 := (unhide BX).free 1; have f2 := (unhide BX).free 2; clear hq hb1)
          | (go_at_call_of 25 y; refine (unhide W2 _).mono ?_; rintro e w4 ⟨q, rfl, hq, hb1⟩; replace SS := hide ((unhide SS).all hb1); (first | (replace QX := hide ((unhide QX).below hb1)) | skip); have QY := hide hq; clear y0 y1 y2 f0 f1 f2 cx cy; replace BX := hide ((unhide BX).all hb1); replace IX := hide ((unhide IX).below hb1); obtain ⟨cx, cy⟩ := unhide HK _ (unhide SS).2.2; have y0 := (unhide BX).c0; have y1 := (unhide BX).c1; have y2 := (unhide BX).c2; have f0 := (unhide BX).free 0; have f1 := (unhide BX).free 1; have f2 := (unhide BX).free 2; clear hq hb1)
          | (go_at_call 58; refine (unhide W3 _ _ _ (unhide QX) (unhide QY)).mono ?_; rintro e w4 ⟨q, rfl, hq, hb1⟩; replace SS := hide ((unhide SS).all hb1); have QP := hide hq; clear y0 y1 y2 f0 f1 f2 cx cy; replace BX := hide ((unhide BX).all hb1); replace IX := hide ((unhide IX).below hb1); obtain ⟨cx, cy⟩ := unhide HK _ (unhide SS).2.2; have y0 := (unhide BX).c0; have y1 := (unhide BX).c1; have y2 := (unhide BX).c2; have f0 := (unhide BX).free 0; have f1 := (unhide BX).free 1; have f2 := (unhide BX).free 2; clear hq hb1)
          | (go_at_call 57; refine (unhide W4 _ _ _ (unhide IX) (unhide QP)).mono ?_; rintro e w4 ⟨q, rfl, ⟨n5, a5, c5, L5, rfl, i5⟩, hb1⟩; replace SS := hide ((unhide SS).all hb1); have QS := hide (show IsLv w4 (.agg #[.bool n5, .slice a5 L5.length c5, .int .i64 (oE (sm (k + 1)) lo2)]) lo2 (sm (k + 1)) from ⟨n5, a5, c5, L5, rfl, i5⟩); clear y0 y1 y2 f0 f1 f2 cx cy; replace BX := hide ((unhide BX).all hb1); obtain ⟨cx, cy⟩ := unhide HK _ (unhide SS).2.2; have y0 := (unhide BX).c0; have y1 := (unhide BX).c1; have y2 := (unhide BX).c2; have f0 := (unhide BX).free 0; have f1 := (unhide BX).free 1; have f2 := (unhide BX).free 2; have SF := hide ((unhide SS).put (unhide QS)); clear i5 hb1)
          | fail "NO ARM")
      all_goals
        go_wp2_with fail
        go_round
        case rel => exact ⟨k + 1, by omega, by go_num, SF⟩
        case measure => simp [intOf]; omega
    · have hkk : k = n := by omega
      subst hkk
      obtain ⟨h1, ⟨nn, aa, ll, cc, X, bx, ix⟩, h3⟩ := unhide hS
      have y0 := bx.c0; have y1 := bx.c1; have y2 := bx.c2
      have r0 := h1.c0; have r1 := h1.c1; have r2 := h1.c2; have f0 := h1.free 0; have f1 := h1.free 1; have f2 := h1.free 2
      have xe := h1.put (.bool nn) (.slice aa ll cc) (.int .i64 X)
      have e0 := xe.c0; have e1 := xe.c1; have e2 := xe.c2
      have HS := hide (IsDy.put3 ix h1 (.bool nn) (.slice aa ll cc) (.int .i64 X))
      have BE := hide (below_put3 h3 (Nat.le_refl _) (.bool nn) (.slice aa ll cc) (.int .i64 X))
      clear xe h1 bx ix h3 hS
      go_wp2_with fail
      exact bodyPost_ret (v := .agg #[.bool nn, .slice aa ll cc, .int .i64 X]) (by simp [results, Tryz.results26, go_sem, e0, e1, e2]) rfl ⟨_, rfl, unhide HS, unhide BE⟩

end Go.Proofs.YtceofkjefmilfaaGreatDoor

/- The reference of layer 11: Orthogonal by letters. -/
namespace Go.Proofs.YtceofkjefmilfaaGreatDoor
open Go.RowKit
attribute [local go_sem ↓] Go.wp_at_zero Go.wp_at_succ

theorem Box3.oth3 {w : World} {b : Nat} {x y z : Value} (h : Box3 w b x y z) {g : Nat} (hg : b ≠ g) (u u' u'' : Value) : Box3 (((w.setCell ⟨g, 0, none⟩ u).setCell ⟨g, 1, none⟩ u').setCell ⟨g, 2, none⟩ u'') b x y z :=
  ((h.other (p := ⟨g, 0, none⟩) hg u).other (p := ⟨g, 1, none⟩) hg u').other (p := ⟨g, 2, none⟩) hg u''
/-- Another box of a number is written. -/
theorem Kept.oth3 {w : World} {b g : Nat} {lo s : Int} (h : Kept w b lo s) {x : Bool} {a : Option Addr} {l c : Nat} {y : Int} (hg : Box3 w g (.bool x) (.slice a l c) (.int .i64 y)) (hne : b ≠ g) (u u' u'' : Value) : Kept (((w.setCell ⟨g, 0, none⟩ u).setCell ⟨g, 1, none⟩ u').setCell ⟨g, 2, none⟩ u'') b lo s := by
  obtain ⟨n, a, l, c, X, h1, h2⟩ := h
  exact ⟨n, a, l, c, X, h1.oth3 hne _ _ _, IsDy.put3 h2 hg _ _ _⟩
/-- It is written itself. -/
theorem Kept.put {w : World} {g : Nat} {lo s t : Int} {lo' : Int} (h : Kept w g lo s) {n : Bool} {a : Option Addr} {l c : Nat} {X : Int} (hv : IsLv w (.agg #[.bool n, .slice a l c, .int .i64 X]) lo' t) : Kept (((w.setCell ⟨g, 0, none⟩ (.bool n)).setCell ⟨g, 1, none⟩ (.slice a l c)).setCell ⟨g, 2, none⟩ (.int .i64 X)) g lo' t := by
  obtain ⟨n', a', l', c', X', h1, _⟩ := h
  exact ⟨n, a, l, c, X, h1.put _ _ _, IsDy.put3 hv h1 _ _ _⟩

/-- What holds in the reference's Orthogonal: the matrix's box, the answer's, the sum's. -/
def OrSt (w wr : World) (r c n cap : Nat) (ao : Option Addr) (lo s : Int) : Prop :=
  BoxM wr w.heap.size (.int .i64 r) (.int .i64 c) (.slice ao n cap) ∧ Box3 wr (w.heap.size + 1) (.bool false) (.slice none 0 0) (.int .i64 0) ∧ Kept wr (w.heap.size + 1 + 1) lo s ∧ Below w.heap.size w wr
theorem OrSt.all {w wr w' : World} {r c n cap : Nat} {ao : Option Addr} {lo s : Int} (h : OrSt w wr r c n cap ao lo s) (hb : Below wr.heap.size wr w') : OrSt w w' r c n cap ao lo s :=
  ⟨h.1.all hb, h.2.1.all hb, h.2.2.1.all hb, h.2.2.2.trans (hb.mono h.2.2.2.size)⟩
/-- The sum is written. -/
theorem OrSt.put {w wr : World} {r c n cap : Nat} {ao : Option Addr} {lo s t : Int} (h : OrSt w wr r c n cap ao lo s) {ng : Bool} {a : Option Addr} {l cp : Nat} {X : Int} (hv : IsLv wr (.agg #[.bool ng, .slice a l cp, .int .i64 X]) lo t) :
    OrSt w (((wr.setCell ⟨w.heap.size + 1 + 1, 0, none⟩ (.bool ng)).setCell ⟨w.heap.size + 1 + 1, 1, none⟩ (.slice a l cp)).setCell ⟨w.heap.size + 1 + 1, 2, none⟩ (.int .i64 X)) r c n cap ao lo t :=
  ⟨h.1.oth3 (by omega) _ _ _, h.2.1.oth3 (by omega) _ _ _, h.2.2.1.put hv, below_put3 h.2.2.2 (by omega) _ _ _⟩
end Go.Proofs.YtceofkjefmilfaaGreatDoor

/- The reference of layer 11: Residual by letters. -/
namespace Go.Proofs.YtceofkjefmilfaaGreatDoor
open Go.RowKit
attribute [local go_sem ↓] Go.wp_at_zero Go.wp_at_succ

/-- Three matrices' boxes, the answer's, the sum's. -/
def RsSt (w wr : World) (r c p q s d : Int) (ao bo co : Option Addr) (na nb nc ca cb cc : Nat) (lo z : Int) : Prop :=
  Bx3D w wr r c p q s d ao bo co na nb nc ca cb cc ∧ Kept wr (w.heap.size + 1 + 1 + 1 + 1) lo z
theorem RsSt.all {w wr w' : World} {r c p q s d : Int} {ao bo co : Option Addr} {na nb nc ca cb cc : Nat} {lo z : Int} (h : RsSt w wr r c p q s d ao bo co na nb nc ca cb cc lo z) (hb : Below wr.heap.size wr w') : RsSt w w' r c p q s d ao bo co na nb nc ca cb cc lo z := ⟨h.1.all hb, h.2.all hb⟩
theorem Bx3D.oth {w wr : World} {r c p q s d : Int} {ao bo co : Option Addr} {na nb nc ca cb cc : Nat} (h : Bx3D w wr r c p q s d ao bo co na nb nc ca cb cc) {g : Nat} (hg : w.heap.size + 1 + 1 + 1 < g) (u u' u'' : Value) : Bx3D w (((wr.setCell ⟨g, 0, none⟩ u).setCell ⟨g, 1, none⟩ u').setCell ⟨g, 2, none⟩ u'') r c p q s d ao bo co na nb nc ca cb cc :=
  ⟨h.1.oth3 (by omega) _ _ _, h.2.1.oth3 (by omega) _ _ _, h.2.2.1.oth3 (by omega) _ _ _, h.2.2.2.1.oth3 (by omega) _ _ _, below_put3 h.2.2.2.2 (by omega) _ _ _⟩
theorem RsSt.put {w wr : World} {r c p q s d : Int} {ao bo co : Option Addr} {na nb nc ca cb cc : Nat} {lo z t : Int} (h : RsSt w wr r c p q s d ao bo co na nb nc ca cb cc lo z) {ng : Bool} {a : Option Addr} {l cp : Nat} {X : Int} (hv : IsLv wr (.agg #[.bool ng, .slice a l cp, .int .i64 X]) lo t) :
    RsSt w (((wr.setCell ⟨(w.heap.size + 1 + 1 + 1 + 1), 0, none⟩ (.bool ng)).setCell ⟨(w.heap.size + 1 + 1 + 1 + 1), 1, none⟩ (.slice a l cp)).setCell ⟨(w.heap.size + 1 + 1 + 1 + 1), 2, none⟩ (.int .i64 X)) r c p q s d ao bo co na nb nc ca cb cc lo t := ⟨h.1.oth (by omega) _ _ _, h.2.put hv⟩
end Go.Proofs.YtceofkjefmilfaaGreatDoor

/- The reference of layer 11: Gradient by letters. -/
namespace Go.Proofs.YtceofkjefmilfaaGreatDoor
open Go.RowKit
attribute [local go_sem ↓] Go.wp_at_zero Go.wp_at_succ
theorem OwnD.put3 {base : Nat} {w : World} {v : Value} {n : Nat} {lo : Int} {f : Nat → Int} (h : OwnD base w v n lo f) {g : Nat} {x : Bool} {a : Option Addr} {l c : Nat} {y : Int} (hx : Box3 w g (.bool x) (.slice a l c) (.int .i64 y)) (hg : g < base) (b : Bool) (a' : Option Addr) (l' c' : Nat) (y' : Int) :
    OwnD base (((w.setCell ⟨g, 0, none⟩ (.bool b)).setCell ⟨g, 1, none⟩ (.slice a' l' c')).setCell ⟨g, 2, none⟩ (.int .i64 y')) v n lo f :=
  ((h.set hx.clr hg 0 _).set (hx.clr.set _ _ rfl) hg 1 _).set ((hx.clr.set _ _ rfl).set _ _ rfl) hg 2 _
theorem OwnD.congr {base : Nat} {w : World} {v : Value} {n : Nat} {lo : Int} {f g : Nat → Int} (h : OwnD base w v n lo f) (he : ∀ k, k < n → f k = g k) : OwnD base w v n lo g := by
  obtain ⟨D, h1, h2, h3, h4⟩ := h
  exact ⟨D, h1, h2, h3, fun k hk => by rw [← he k hk]; exact h4 k hk⟩

end Go.Proofs.YtceofkjefmilfaaGreatDoor

/- The reference of layer 11, of matrices of finite numbers. -/
namespace Go.Proofs.YtceofkjefmilfaaGreatDoor
open Go.RowKit
attribute [local go_sem ↓] Go.wp_at_zero Go.wp_at_succ
/-- A sum of products. -/
theorem rdot_any (ao bo : Option Addr) (c d n : Nat) (I J : List Int) (w : World) (hI : BitsAt w ao c I) (hJ : BitsAt w bo d J) (hi : I.length = n) (hj : J.length = n) (hn : n ≤ 8) (fI : ∀ k, k < n → fFin (atB I k) = true) (fJ : ∀ k, k < n → fFin (atB J k) = true) :
    Calls Tryz.prog 26 #[.slice ao n c, .slice bo n d] w fun e w' => ∃ v, e = .returned v ∧ IsLv w' v (-2148) (smI (fun j => fZ (atB I j) * fZ (atB J j)) n) ∧ Below w.heap.size w w' :=
  rdot_of ao bo c d n I J (-1074) (-2148) (fun k => fZ (atB I k)) (fun k => fZ (atB J k)) (fun k => smI (fun j => fZ (atB I j) * fZ (atB J j)) k) w hI hJ hi hj hn rfl
    (fun w' k hk => rvalueN _ w' (hI.lt k) (fI k hk)) (fun w' k hk => rvalueN _ w' (hJ.lt k) (fJ k hk)) (fun w' k v u hk hv hu => rmulV (hI.lt k) (hJ.lt k) (fI k hk) (fJ k hk) hv hu)
    (fun w' k v u hk hv hu => raddN hv hu (dt_lvl k (by omega) _ _ (fun j hj => fI j (by omega)) (fun j hj => fJ j (by omega))) (pr_lvl _ _ (fI k hk) (fJ k hk)))

end Go.Proofs.YtceofkjefmilfaaGreatDoor

