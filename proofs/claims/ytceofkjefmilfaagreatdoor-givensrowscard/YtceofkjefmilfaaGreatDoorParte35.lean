/- Part 35 of the texts. -/
import Derived.Test.YtceofkjefmilfaaGreatDoorParte34
import Derived.Test.YtceofkjefmilfaaGreatDoorParte07
import Derived.Test.YtceofkjefmilfaaGreatDoorParte32
import Derived.Test.YtceofkjefmilfaaGreatDoorParte33
import Derived.Deep.CutRange
/- The reference of layer 12: Rows of a matrix, Cols. -/
namespace Go.Proofs.YtceofkjefmilfaaGreatDoor
open Go.RowKit
attribute [local go_sem ↓] Go.wp_at_zero Go.wp_at_succ

/-- The first row's place written, too. -/
def roH (r c : Nat) (S : List Nat) (i k C s j : Nat) : List Nat := (roJ r c S i k C s j).set (i * c + j) (aV (mV C (elM c S i j)) (mV s (elM c S k j)))

/-- The reference's Rows, of rows that there are. -/
theorem rrows12_any (r c cap i k C s : Nat) (ao : Option Addr) (S : List Nat) (w : World) (h : Mx w ao cap r c S) (hi : i < r) (hk : k < r) (hne : i ≠ k) (hC : C < 18446744073709551616) (hs : s < 18446744073709551616) :
    Calls Tryz.prog 17 #[.agg #[.int .i64 r, .int .i64 c, .slice ao S.length cap], .int .i64 i, .int .i64 k, .int .u64 C, .int .u64 s] w fun e w' => ∃ po pc, e = .returned (.agg #[.int .i64 r, .int .i64 c, .slice po S.length pc]) ∧ BitsAt w' po pc (mxL (roM r c S i k C s)) ∧ Below w.heap.size w w' := by
  have hx := fun j => h.el_lt i j
  have hy := fun j => h.el_lt k j
  have lJ : ∀ j, (roJ r c S i k C s j).length = S.length := fun j => by rw [roJ_len, h.2.1]
  have lH : ∀ j, (roH r c S i k C s j).length = S.length := fun j => by unfold roH; rw [List.length_set]; exact lJ j
  rw [← roJ_all]
  refine rrows12_of r c S.length cap i k C s ao (fun j => roJ r c S i k C s j) (fun j => roH r c S i k C s j) (fun j => elM c S i j) (fun j => elM c S k j) (fun j => mV C (elM c S i j)) (fun j => mV s (elM c S k j)) (fun j => aV (mV C (elM c S i j)) (mV s (elM c S k j))) (fun j => mV C (elM c S k j)) (fun j => mV s (elM c S i j)) (fun j => aV (mV C (elM c S k j)) (fN (mV s (elM c S i j)))) w h.2.2.2 (by show BitsAt w ao cap (mxL (roJ r c S i k C s 0)); rw [roJ_0 r c S i k C s h.2.1]; exact h.1) lJ lH
    (fun w' j hb hj => rat_any r c cap i j ao S w' (h.below hb) hi hj) (fun w' j hb hj => rat_any r c cap k j ao S w' (h.below hb) hk hj)
    (fun w' j _ => r9mul_any C _ w' hC (hx j)) (fun w' j _ => r9mul_any s _ w' hs (hy j)) (fun w' j _ => r9add_any _ _ w' (mV_lt _ _) (mV_lt _ _)) (fun w' j qo qc hj hq => ?_)
    (fun w' j _ => r9mul_any C _ w' hC (hy j)) (fun w' j _ => r9mul_any s _ w' hs (hx j)) (fun w' j _ => r9sub_any _ _ w' (mV_lt _ _) (mV_lt _ _)) (fun w' j qo qc hj hq => ?_)
  · have hX : Mx w' qo qc r c (roJ r c S i k C s j) := ⟨hq, roJ_len _ _ _ _ _ _ _ _, h.2.2.1, h.2.2.2⟩
    have := rwith_any r c qc i j (aV (mV C (elM c S i j)) (mV s (elM c S k j))) qo _ w' hX hi hj (aV_lt _ _ (mV_lt _ _) (mV_lt _ _))
    rw [lJ j] at this
    refine this.mono ?_
    rintro e w'' ⟨v, rfl, ⟨po, pc, rfl, _, b5⟩, hb⟩
    exact ⟨_, rfl, ⟨po, pc, by rw [show ((roJ r c S i k C s j).set (i * c + j) (aV (mV C (elM c S i j)) (mV s (elM c S k j)))).length = S.length from lH j], b5⟩, hb⟩
  · have hX : Mx w' qo qc r c (roH r c S i k C s j) := ⟨hq, by rw [lH j, h.2.1], h.2.2.1, h.2.2.2⟩
    have := rwith_any r c qc k j (aV (mV C (elM c S k j)) (fN (mV s (elM c S i j)))) qo _ w' hX hk hj (aV_lt _ _ (mV_lt _ _) (fN_lt _ (mV_lt _ _)))
    rw [lH j] at this
    refine this.mono ?_
    rintro e w'' ⟨v, rfl, ⟨po, pc, rfl, _, b5⟩, hb⟩
    have e5 : (roH r c S i k C s j).set (k * c + j) (aV (mV C (elM c S k j)) (fN (mV s (elM c S i j)))) = roJ r c S i k C s (j + 1) := roJ_set r c S hi hk hne hj
    rw [e5] at b5 ⊢
    exact ⟨_, rfl, ⟨po, pc, by rw [lJ (j + 1)], b5⟩, hb⟩

/-- Two columns turned. -/
def coM (r c : Nat) (S : List Nat) (i k C s : Nat) : List Nat := tuM c r (roM c r (tuM r c S) i k C s)
theorem coM_len (r c : Nat) (S : List Nat) (i k C s : Nat) : (coM r c S i k C s).length = r * c := by
  unfold coM tuM
  exact mkM_len _ _ _

set_option maxRecDepth 20000 in
set_option maxHeartbeats 4000000 in
theorem rcols12_of (r c n cap i k C s l : Nat) (ao : Option Addr) (T R U : List Nat) (w : World)
    (C1 : ∀ w', Below w.heap.size w w' → Calls Tryz.prog 55 #[.agg #[.int .i64 r, .int .i64 c, .slice ao n cap]] w' fun e w'' => ∃ po pc, e = .returned (.agg #[.int .i64 c, .int .i64 r, .slice po l pc]) ∧ BitsAt w'' po pc (mxL T) ∧ Below w'.heap.size w' w'')
    (C2 : ∀ w' po pc, BitsAt w' po pc (mxL T) → Calls Tryz.prog 17 #[.agg #[.int .i64 c, .int .i64 r, .slice po l pc], .int .i64 i, .int .i64 k, .int .u64 C, .int .u64 s] w' fun e w'' => ∃ qo qc, e = .returned (.agg #[.int .i64 c, .int .i64 r, .slice qo l qc]) ∧ BitsAt w'' qo qc (mxL R) ∧ Below w'.heap.size w' w'')
    (C3 : ∀ w' po pc, BitsAt w' po pc (mxL R) → Calls Tryz.prog 55 #[.agg #[.int .i64 c, .int .i64 r, .slice po l pc]] w' fun e w'' => ∃ qo qc, e = .returned (.agg #[.int .i64 r, .int .i64 c, .slice qo n qc]) ∧ BitsAt w'' qo qc (mxL U) ∧ Below w'.heap.size w' w'') :
    Calls Tryz.prog 18 #[.agg #[.int .i64 r, .int .i64 c, .slice ao n cap], .int .i64 i, .int .i64 k, .int .u64 C, .int .u64 s] w fun e w' => ∃ po pc, e = .returned (.agg #[.int .i64 r, .int .i64 c, .slice po n pc]) ∧ BitsAt w' po pc (mxL U) ∧ Below w.heap.size w w' := by
  have K1 := hide C1; have K2 := hide C2; have K3 := hide C3
  have b0 := below_alloc9 w (.cells #[.int .i64 r, .int .i64 c, .slice ao n cap] 35)
  have s0 := size_alloc9 w (.cells #[.int .i64 r, .int .i64 c, .slice ao n cap] 35)
  have x0 := BoxM.new w (.int .i64 r) (.int .i64 c) (.slice ao n cap)
  have b1 := below_alloc9 (w.alloc (.cells #[.int .i64 r, .int .i64 c, .slice ao n cap] 35)) (.cells #[.int .i64 0, .int .i64 0, .slice none 0 0] 35)
  have x1 := BoxM.new (w.alloc (.cells #[.int .i64 r, .int .i64 c, .slice ao n cap] 35)) (.int .i64 0) (.int .i64 0) (.slice none 0 0)
  rw [s0] at x1
  have ST := hide (And.intro x1 (b0.trans (b1.mono b0.size)))
  have x0' := x0.all b1
  have y0 := x0'.c0; have y1 := x0'.c1; have y2 := x0'.c2
  clear C1 C2 C3 b0 s0 x0 b1 x1 x0'
  go_enter Tryz.func18, Tryz.ntmps18
  go_wp2_with fail
  refine (unhide K1 _ (unhide ST).2).mono ?_
  rintro e w1 ⟨po, pc, rfl, bx, hb⟩
  replace ST := hide (show BoxM w1 (w.heap.size + 1) (.int .i64 0) (.int .i64 0) (.slice none 0 0) ∧ Below w.heap.size w w1 from ⟨(unhide ST).1.all hb, (unhide ST).2.trans (hb.mono (unhide ST).2.size)⟩)
  have BX := hide bx
  clear hb bx K1 y0 y1 y2
  go_wp2_with fail
  refine (unhide K2 _ _ _ (unhide BX)).mono ?_
  rintro e w2 ⟨qo, qc, rfl, bx, hb⟩
  replace ST := hide (show BoxM w2 (w.heap.size + 1) (.int .i64 0) (.int .i64 0) (.slice none 0 0) ∧ Below w.heap.size w w2 from ⟨(unhide ST).1.all hb, (unhide ST).2.trans (hb.mono (unhide ST).2.size)⟩)
  replace BX := hide bx
  clear hb bx K2
  go_wp2_with fail
  refine (unhide K3 _ _ _ (unhide BX)).mono ?_
  rintro e w3 ⟨ro, rc, rfl, bx, hb⟩
  have h2 := (unhide ST).1.all hb
  have h6 := (unhide ST).2.trans (hb.mono (unhide ST).2.size)
  have r0 := h2.c0; have r1 := h2.c1; have r2 := h2.c2
  have f0 := h2.free 0; have f1 := h2.free 1; have f2 := h2.free 2
  have XP := h2.put (.int .i64 r) (.int .i64 c) (.slice ro n rc)
  have z0 := XP.c0; have z1 := XP.c1; have z2 := XP.c2
  have Q := hide (bx.putM h2 (.int .i64 r) (.int .i64 c) (.slice ro n rc))
  have BP := hide (below_putM h6 (b := w.heap.size + 1) (by omega) (.int .i64 r) (.int .i64 c) (.slice ro n rc))
  clear XP h2 h6 bx hb ST BX K3
  go_wp2_with fail
  exact bodyPost_ret (v := .agg #[.int .i64 r, .int .i64 c, .slice ro n rc]) (by simp [results, Tryz.results18, go_sem, z0, z1, z2]) rfl ⟨ro, rc, rfl, unhide Q, unhide BP⟩

/-- The reference's Cols, of columns that there are. -/
theorem rcols12_any (r c cap i k C s : Nat) (ao : Option Addr) (S : List Nat) (w : World) (h : Mx w ao cap r c S) (hi : i < c) (hk : k < c) (hne : i ≠ k) (hC : C < 18446744073709551616) (hs : s < 18446744073709551616) :
    Calls Tryz.prog 18 #[.agg #[.int .i64 r, .int .i64 c, .slice ao S.length cap], .int .i64 i, .int .i64 k, .int .u64 C, .int .u64 s] w fun e w' => ∃ po pc, e = .returned (.agg #[.int .i64 r, .int .i64 c, .slice po S.length pc]) ∧ BitsAt w' po pc (mxL (coM r c S i k C s)) ∧ Below w.heap.size w w' := by
  have l1 : (tuM r c S).length = c * r := mkM_len _ _ _
  have l2 : (roM c r (tuM r c S) i k C s).length = (tuM r c S).length := by rw [roM_len, l1]
  have l3 : (coM r c S i k C s).length = S.length := by rw [coM_len, h.2.1]
  refine rcols12_of r c S.length cap i k C s (tuM r c S).length ao (tuM r c S) (roM c r (tuM r c S) i k C s) (coM r c S i k C s) w (fun w' hb => ?_) (fun w' po pc hb => ?_) (fun w' po pc hb => ?_)
  · refine (rturn_any r c cap ao S w' (h.below hb)).mono ?_
    rintro e w'' ⟨v, rfl, ⟨xo, xd, rfl, _, hx⟩, hb2⟩
    exact ⟨xo, xd, rfl, hx, hb2⟩
  · exact rrows12_any c r pc i k C s po (tuM r c S) w' ⟨hb, l1, h.2.2.2, h.2.2.1⟩ hi hk hne hC hs
  · have := rturn_any c r pc po (roM c r (tuM r c S) i k C s) w' ⟨hb, by rw [l2, l1], h.2.2.2, h.2.2.1⟩
    rw [l2] at this
    refine this.mono ?_
    rintro e w'' ⟨v, rfl, ⟨xo, xd, rfl, _, hx⟩, hb2⟩
    exact ⟨xo, xd, by rw [show (mkM r c (fun k_1 i_1 => elM r (roM c r (tuM r c S) i k C s) i_1 k_1)).length = S.length from l3], hx, hb2⟩

end Go.Proofs.YtceofkjefmilfaaGreatDoor

/- Package certify: is a number at most another one times a power of two, and 2^-4000 more? -/
namespace Go.Proofs.YtceofkjefmilfaaGreatDoor
open Go.RowKit
attribute [local go_sem ↓] Go.wp_at_zero Go.wp_at_succ
/-- What holds in atMost: the numbers' boxes. -/
def AmSt (w wr : World) (na nb : Bool) (ao bo : Option Addr) (ka kb ca cb : Nat) (x y : Int) : Prop :=
  Box3 wr w.heap.size (.bool na) (.slice ao ka ca) (.int .i64 x) ∧ Box3 wr (w.heap.size + 1) (.bool nb) (.slice bo kb cb) (.int .i64 y) ∧ Below w.heap.size w wr
theorem AmSt.all {w wr w' : World} {na nb : Bool} {ao bo : Option Addr} {ka kb ca cb : Nat} {x y : Int} (h : AmSt w wr na nb ao bo ka kb ca cb x y) (hb : Below wr.heap.size wr w') : AmSt w w' na nb ao bo ka kb ca cb x y := ⟨h.1.all hb, h.2.1.all hb, h.2.2.trans (hb.mono h.2.2.size)⟩
theorem AmSt.start (w : World) (na nb : Bool) (ao bo : Option Addr) (ka kb ca cb : Nat) (x y : Int) : AmSt w ((w.alloc (.cells #[.bool na, .slice ao ka ca, .int .i64 x] 52)).alloc (.cells #[.bool nb, .slice bo kb cb, .int .i64 y] 52)) na nb ao bo ka kb ca cb x y := by
  have b0 := below_alloc9 w (.cells #[.bool na, .slice ao ka ca, .int .i64 x] 52)
  have s0 := size_alloc9 w (.cells #[.bool na, .slice ao ka ca, .int .i64 x] 52)
  have x0 := Box3.new w (.bool na) (.slice ao ka ca) (.int .i64 x)
  generalize w.alloc (.cells #[.bool na, .slice ao ka ca, .int .i64 x] 52) = w0 at *
  have b1 := below_alloc9 w0 (.cells #[.bool nb, .slice bo kb cb, .int .i64 y] 52)
  have k1 := Box3.new w0 (.bool nb) (.slice bo kb cb) (.int .i64 y)
  rw [s0] at k1
  exact ⟨x0.all b1, k1, b0.trans (b1.mono b0.size)⟩

/-- In the loop: the boxes, the number 1's. -/
def AlSt (w wr : World) (g : Nat) (na nb : Bool) (ao bo : Option Addr) (ka kb ca cb : Nat) (x y : Int) : Prop :=
  AmSt w wr na nb ao bo ka kb ca cb x y ∧ LimbsAt wr (some ⟨g, 0, none⟩) 1 [1] ∧ Box2 wr (g + 1) (.bool false) (.slice (some ⟨g, 0, none⟩) 1 1)
theorem AlSt.all {w wr w' : World} {g : Nat} {na nb : Bool} {ao bo : Option Addr} {ka kb ca cb : Nat} {x y : Int} (h : AlSt w wr g na nb ao bo ka kb ca cb x y) (hb : Below wr.heap.size wr w') : AlSt w w' g na nb ao bo ka kb ca cb x y := ⟨h.1.all hb, h.2.1.below hb, h.2.2.below hb h.2.2.lt⟩
theorem AlSt.start {w wc : World} {na nb : Bool} {ao bo : Option Addr} {ka kb ca cb : Nat} {x y : Int} (h : AmSt w wc na nb ao bo ka kb ca cb x y) :
    AlSt w ((wc.alloc (.cells #[.int .u32 1] 81)).alloc (.cells #[.bool false, .slice (some ⟨wc.heap.size, 0, none⟩) 1 1] 50)) wc.heap.size na nb ao bo ka kb ca cb x y := by
  have b0 := below_alloc9 wc (.cells #[.int .u32 1] 81)
  have s0 := size_alloc9 wc (.cells #[.int .u32 1] 81)
  have h0 := heap_alloc_new wc (.cells #[.int .u32 1] 81)
  generalize wc.alloc (.cells #[.int .u32 1] 81) = w0 at *
  have b1 := below_alloc9 w0 (.cells #[.bool false, .slice (some ⟨wc.heap.size, 0, none⟩) 1 1] 50)
  have k1 := Box2.new w0 (.bool false) (.slice (some ⟨wc.heap.size, 0, none⟩) 1 1)
  rw [s0] at k1
  have hl : LimbsAt w0 (some ⟨wc.heap.size, 0, none⟩) 1 [1] := ⟨by decide, by simp, .inr ⟨wc.heap.size, 0, rfl, by omega, fun i hi => by
    obtain rfl : i = 0 := by simpa using hi
    rw [cell_of_row w0 wc.heap.size _ _ _ _ h0]; rfl⟩⟩
  exact ⟨(h.all b0).all b1, hl.below b1, k1⟩

end Go.Proofs.YtceofkjefmilfaaGreatDoor

/- The reference of layer 11: Dot. -/
namespace Go.Proofs.YtceofkjefmilfaaGreatDoor
open Go.RowKit
attribute [local go_sem ↓] Go.wp_at_zero Go.wp_at_succ

/-- What holds in a sum's loop: the answer's box, the sum. -/
def DtSt (w wr : World) (lo s : Int) : Prop := Box3 wr w.heap.size (.bool false) (.slice none 0 0) (.int .i64 0) ∧ Kept wr (w.heap.size + 1) lo s ∧ Below w.heap.size w wr
theorem DtSt.all {w wr w' : World} {lo s : Int} (h : DtSt w wr lo s) (hb : Below wr.heap.size wr w') : DtSt w w' lo s := ⟨h.1.all hb, h.2.1.all hb, h.2.2.trans (hb.mono h.2.2.size)⟩
theorem DtSt.start (w : World) (lo : Int) : DtSt w ((w.alloc (.cells #[.bool false, .slice none 0 0, .int .i64 0] 52)).alloc (.cells #[.bool false, .slice none 0 0, .int .i64 0] 52)) lo 0 := by
  have b0 := below_alloc9 w (.cells #[.bool false, .slice none 0 0, .int .i64 0] 52)
  have s0 := size_alloc9 w (.cells #[.bool false, .slice none 0 0, .int .i64 0] 52)
  have x0 := Box3.new w (.bool false) (.slice none 0 0) (.int .i64 0)
  generalize w.alloc (.cells #[.bool false, .slice none 0 0, .int .i64 0] 52) = w0 at *
  have b1 := below_alloc9 w0 (.cells #[.bool false, .slice none 0 0, .int .i64 0] 52)
  have k1 := Kept.new w0 lo
  rw [s0] at k1
  exact ⟨x0.all b1, k1, b0.trans (b1.mono b0.size)⟩
/-- The sum's box is written. -/
theorem DtSt.put {w wr : World} {lo s t : Int} (h : DtSt w wr lo s) {n : Bool} {a : Option Addr} {l c : Nat} {X : Int} (hv : IsLv wr (.agg #[.bool n, .slice a l c, .int .i64 X]) lo t) :
    DtSt w (((wr.setCell ⟨w.heap.size + 1, 0, none⟩ (.bool n)).setCell ⟨w.heap.size + 1, 1, none⟩ (.slice a l c)).setCell ⟨w.heap.size + 1, 2, none⟩ (.int .i64 X)) lo t := by
  obtain ⟨h1, ⟨n', a', l', c', X', h2, _⟩, h3⟩ := h
  have ne : w.heap.size ≠ w.heap.size + 1 := by omega
  exact ⟨((h1.other (p := ⟨w.heap.size + 1, 0, none⟩) ne _).other (p := ⟨w.heap.size + 1, 1, none⟩) ne _).other (p := ⟨w.heap.size + 1, 2, none⟩) ne _, ⟨n, a, l, c, X, h2.put _ _ _, IsDy.put3 hv h2 _ _ _⟩, below_put3 h3 (by omega) _ _ _⟩

end Go.Proofs.YtceofkjefmilfaaGreatDoor

/- The reference of layer 11: Orthogonal by letters. -/
namespace Go.Proofs.YtceofkjefmilfaaGreatDoor
open Go.RowKit
attribute [local go_sem ↓] Go.wp_at_zero Go.wp_at_succ

theorem Box3.oth3 {w : World} {b : Nat} {x y z : Value} (h : Box3 w b x y z) {g : Nat} (hg : b ≠ g) (u u' u'' : Value) : Box3 (((w.setCell ⟨g, 0, none⟩ u).setCell ⟨g, 1, none⟩ u').setCell ⟨g, 2, none⟩ u'') b x y z :=
  ((h.other (p := ⟨g, 0, none⟩) hg u).other (p := ⟨g, 1, none⟩) hg u').other (p := ⟨g, 2, none⟩) hg u''
/-- Another box of a number is written. -/
theorem Kept.oth3 {w : World} {b g : Nat} {lo s : Int} (h : Kept w b lo s) {x : Bool} {a : Option Addr} {l c : Nat} {y : Int} (hg : Box3 w g (.bool x) (.slice a l c) (.int .i64 y)) (hne : b ≠ g) (u u' u'' : Value) : Kept (((w.setCell ⟨g, 0, none⟩ u).setCell ⟨g, 1, none⟩ u').setCell ⟨g, 2, none⟩ u'') b lo s := by
  obtain ⟨n, a, l, c, X, h1, h2⟩ := h
  exact ⟨n, a, l, c, X, h1.oth3 hne _ _ _, IsDy.put3 h2 hg _ _ _⟩
/-- It is written itself. -/
theorem Kept.put {w : World} {g : Nat} {lo s t : Int} {lo' : Int} (h : Kept w g lo s) {n : Bool} {a : Option Addr} {l c : Nat} {X : Int} (hv : IsLv w (.agg #[.bool n, .slice a l c, .int .i64 X]) lo' t) : Kept (((w.setCell ⟨g, 0, none⟩ (.bool n)).setCell ⟨g, 1, none⟩ (.slice a l c)).setCell ⟨g, 2, none⟩ (.int .i64 X)) g lo' t := by
  obtain ⟨n', a', l', c', X', h1, _⟩ := h
  exact ⟨n, a, l, c, X, h1.put _ _ _, IsDy.put3 hv h1 _ _ _⟩

/-- What holds in the reference's Orthogonal: the matrix's box, the answer's, the sum's. -/
def OrSt (w wr : World) (r c n cap : Nat) (ao : Option Addr) (lo s : Int) : Prop :=
  BoxM wr w.heap.size (.int .i64 r) (.int .i64 c) (.slice ao n cap) ∧ Box3 wr (w.heap.size + 1) (.bool false) (.slice none 0 0) (.int .i64 0) ∧ Kept wr (w.heap.size + 1 + 1) lo s ∧ Below w.heap.size w wr
theorem OrSt.all {w wr w' : World} {r c n cap : Nat} {ao : Option Addr} {lo s : Int} (h : OrSt w wr r c n cap ao lo s) (hb : Below wr.heap.size wr w') : OrSt w w' r c n cap ao lo s :=
  ⟨h.1.all hb, h.2.1.all hb, h.2.2.1.all hb, h.2.2.2.trans (hb.mono h.2.2.2.size)⟩
theorem OrSt.start (w : World) (r c n cap : Nat) (ao : Option Addr) (lo : Int) : OrSt w (((w.alloc (.cells #[.int .i64 r, .int .i64 c, .slice ao n cap] 35)).alloc (.cells #[.bool false, .slice none 0 0, .int .i64 0] 52)).alloc (.cells #[.bool false, .slice none 0 0, .int .i64 0] 52)) r c n cap ao lo 0 := by
  obtain ⟨x0, x1, bb⟩ := boxes1D w r c ao n cap
  have s1 : ((w.alloc (.cells #[.int .i64 r, .int .i64 c, .slice ao n cap] 35)).alloc (.cells #[.bool false, .slice none 0 0, .int .i64 0] 52)).heap.size = w.heap.size + 1 + 1 := by simp
  generalize (w.alloc (.cells #[.int .i64 r, .int .i64 c, .slice ao n cap] 35)).alloc (.cells #[.bool false, .slice none 0 0, .int .i64 0] 52) = w1 at *
  have b2 := below_alloc9 w1 (.cells #[.bool false, .slice none 0 0, .int .i64 0] 52)
  have k2 := Kept.new w1 lo
  rw [s1] at k2
  exact ⟨x0.all b2, x1.all b2, k2, bb.trans (b2.mono bb.size)⟩
/-- The sum is written. -/
theorem OrSt.put {w wr : World} {r c n cap : Nat} {ao : Option Addr} {lo s t : Int} (h : OrSt w wr r c n cap ao lo s) {ng : Bool} {a : Option Addr} {l cp : Nat} {X : Int} (hv : IsLv wr (.agg #[.bool ng, .slice a l cp, .int .i64 X]) lo t) :
    OrSt w (((wr.setCell ⟨w.heap.size + 1 + 1, 0, none⟩ (.bool ng)).setCell ⟨w.heap.size + 1 + 1, 1, none⟩ (.slice a l cp)).setCell ⟨w.heap.size + 1 + 1, 2, none⟩ (.int .i64 X)) r c n cap ao lo t :=
  ⟨h.1.oth3 (by omega) _ _ _, h.2.1.oth3 (by omega) _ _ _, h.2.2.1.put hv, below_put3 h.2.2.2 (by omega) _ _ _⟩
/-- A number's box behind is written. -/
theorem OrSt.away {w wr : World} {r c n cap : Nat} {ao : Option Addr} {lo s : Int} (h : OrSt w wr r c n cap ao lo s) {g : Nat} {lo' z : Int} (hg : Kept wr g lo' z) (hl : w.heap.size + 1 + 1 < g) (u u' u'' : Value) :
    OrSt w (((wr.setCell ⟨g, 0, none⟩ u).setCell ⟨g, 1, none⟩ u').setCell ⟨g, 2, none⟩ u'') r c n cap ao lo s := by
  obtain ⟨n', a', l', c', X', h1, _⟩ := hg
  exact ⟨h.1.oth3 (by omega) _ _ _, h.2.1.oth3 (by omega) _ _ _, h.2.2.1.oth3 h1 (by omega) _ _ _, below_put3 h.2.2.2 (by omega) _ _ _⟩

end Go.Proofs.YtceofkjefmilfaaGreatDoor

/- The reference of layer 11: Residual by letters. -/
namespace Go.Proofs.YtceofkjefmilfaaGreatDoor
open Go.RowKit
attribute [local go_sem ↓] Go.wp_at_zero Go.wp_at_succ

/-- Three matrices' boxes, the answer's, the sum's. -/
def RsSt (w wr : World) (r c p q s d : Int) (ao bo co : Option Addr) (na nb nc ca cb cc : Nat) (lo z : Int) : Prop :=
  Bx3D w wr r c p q s d ao bo co na nb nc ca cb cc ∧ Kept wr (w.heap.size + 1 + 1 + 1 + 1) lo z
theorem RsSt.all {w wr w' : World} {r c p q s d : Int} {ao bo co : Option Addr} {na nb nc ca cb cc : Nat} {lo z : Int} (h : RsSt w wr r c p q s d ao bo co na nb nc ca cb cc lo z) (hb : Below wr.heap.size wr w') : RsSt w w' r c p q s d ao bo co na nb nc ca cb cc lo z := ⟨h.1.all hb, h.2.all hb⟩
theorem RsSt.start (w : World) (r c p q s d : Int) (ao bo co : Option Addr) (na nb nc ca cb cc : Nat) (lo : Int) : RsSt w (((((w.alloc (.cells #[.int .i64 r, .int .i64 c, .slice ao na ca] 35)).alloc (.cells #[.int .i64 p, .int .i64 q, .slice bo nb cb] 35)).alloc (.cells #[.int .i64 s, .int .i64 d, .slice co nc cc] 35)).alloc (.cells #[.bool false, .slice none 0 0, .int .i64 0] 52)).alloc (.cells #[.bool false, .slice none 0 0, .int .i64 0] 52)) r c p q s d ao bo co na nb nc ca cb cc lo 0 := by
  have h := Bx3D.start w r c p q s d ao bo co na nb nc ca cb cc
  have e : ((((w.alloc (.cells #[.int .i64 r, .int .i64 c, .slice ao na ca] 35)).alloc (.cells #[.int .i64 p, .int .i64 q, .slice bo nb cb] 35)).alloc (.cells #[.int .i64 s, .int .i64 d, .slice co nc cc] 35)).alloc (.cells #[.bool false, .slice none 0 0, .int .i64 0] 52)).heap.size = w.heap.size + 1 + 1 + 1 + 1 := by simp
  generalize (((w.alloc (.cells #[.int .i64 r, .int .i64 c, .slice ao na ca] 35)).alloc (.cells #[.int .i64 p, .int .i64 q, .slice bo nb cb] 35)).alloc (.cells #[.int .i64 s, .int .i64 d, .slice co nc cc] 35)).alloc (.cells #[.bool false, .slice none 0 0, .int .i64 0] 52) = w1 at *
  have b2 := below_alloc9 w1 (.cells #[.bool false, .slice none 0 0, .int .i64 0] 52)
  have k2 := Kept.new w1 lo
  rw [e] at k2
  exact ⟨h.all b2, k2⟩
theorem Bx3D.oth {w wr : World} {r c p q s d : Int} {ao bo co : Option Addr} {na nb nc ca cb cc : Nat} (h : Bx3D w wr r c p q s d ao bo co na nb nc ca cb cc) {g : Nat} (hg : w.heap.size + 1 + 1 + 1 < g) (u u' u'' : Value) : Bx3D w (((wr.setCell ⟨g, 0, none⟩ u).setCell ⟨g, 1, none⟩ u').setCell ⟨g, 2, none⟩ u'') r c p q s d ao bo co na nb nc ca cb cc :=
  ⟨h.1.oth3 (by omega) _ _ _, h.2.1.oth3 (by omega) _ _ _, h.2.2.1.oth3 (by omega) _ _ _, h.2.2.2.1.oth3 (by omega) _ _ _, below_put3 h.2.2.2.2 (by omega) _ _ _⟩
theorem RsSt.put {w wr : World} {r c p q s d : Int} {ao bo co : Option Addr} {na nb nc ca cb cc : Nat} {lo z t : Int} (h : RsSt w wr r c p q s d ao bo co na nb nc ca cb cc lo z) {ng : Bool} {a : Option Addr} {l cp : Nat} {X : Int} (hv : IsLv wr (.agg #[.bool ng, .slice a l cp, .int .i64 X]) lo t) :
    RsSt w (((wr.setCell ⟨(w.heap.size + 1 + 1 + 1 + 1), 0, none⟩ (.bool ng)).setCell ⟨(w.heap.size + 1 + 1 + 1 + 1), 1, none⟩ (.slice a l cp)).setCell ⟨(w.heap.size + 1 + 1 + 1 + 1), 2, none⟩ (.int .i64 X)) r c p q s d ao bo co na nb nc ca cb cc lo t := ⟨h.1.oth (by omega) _ _ _, h.2.put hv⟩
theorem RsSt.away {w wr : World} {r c p q s d : Int} {ao bo co : Option Addr} {na nb nc ca cb cc : Nat} {lo z : Int} (h : RsSt w wr r c p q s d ao bo co na nb nc ca cb cc lo z) {g : Nat} {lo' y : Int} (hg : Kept wr g lo' y) (hl : (w.heap.size + 1 + 1 + 1 + 1) < g) (u u' u'' : Value) :
    RsSt w (((wr.setCell ⟨g, 0, none⟩ u).setCell ⟨g, 1, none⟩ u').setCell ⟨g, 2, none⟩ u'') r c p q s d ao bo co na nb nc ca cb cc lo z := by
  obtain ⟨n', a', l', c', X', h1, _⟩ := hg
  exact ⟨h.1.oth (by omega) _ _ _, h.2.oth3 h1 (by omega) _ _ _⟩

end Go.Proofs.YtceofkjefmilfaaGreatDoor

