/- Part 23 of the texts. -/
import Derived.Test.YtfnnbkclnflpfaaGreatDoorPartN22
import Derived.Deep.CutRange
import Derived.Test.YtfnnbkclnflpfaaGreatDoorPartN20
/- The reference of layer 11: Dot. -/
namespace Go.Proofs.YtfnnbkclnflpfaaGreatDoor
open Go.RowKit
attribute [local go_sem ↓] Go.wp_at_zero Go.wp_at_succ

/-- What holds in a sum's loop: the answer's box, the sum. -/
def DtSt (w wr : World) (lo s : Int) : Prop := Box3 wr w.heap.size (.bool false) (.slice none 0 0) (.int .i64 0) ∧ Kept wr (w.heap.size + 1) lo s ∧ Below w.heap.size w wr
theorem DtSt.all {w wr w' : World} {lo s : Int} (h : DtSt w wr lo s) (hb : Below wr.heap.size wr w') : DtSt w w' lo s := ⟨h.1.all hb, h.2.1.all hb, h.2.2.trans (hb.mono h.2.2.size)⟩
theorem DtSt.start (w : World) (lo : Int) : DtSt w ((w.alloc (.cells #[.bool false, .slice none 0 0, .int .i64 0] 29)).alloc (.cells #[.bool false, .slice none 0 0, .int .i64 0] 29)) lo 0 := by
  have b0 := below_alloc9 w (.cells #[.bool false, .slice none 0 0, .int .i64 0] 29)
  have s0 := size_alloc9 w (.cells #[.bool false, .slice none 0 0, .int .i64 0] 29)
  have x0 := Box3.new w (.bool false) (.slice none 0 0) (.int .i64 0)
  generalize w.alloc (.cells #[.bool false, .slice none 0 0, .int .i64 0] 29) = w0 at *
  have b1 := below_alloc9 w0 (.cells #[.bool false, .slice none 0 0, .int .i64 0] 29)
  have k1 := Kept.new w0 lo
  rw [s0] at k1
  exact ⟨x0.all b1, k1, b0.trans (b1.mono b0.size)⟩
/-- The sum's box is written. -/
theorem DtSt.put {w wr : World} {lo s t : Int} (h : DtSt w wr lo s) {n : Bool} {a : Option Addr} {l c : Nat} {X : Int} (hv : IsLv wr (.agg #[.bool n, .slice a l c, .int .i64 X]) lo t) :
    DtSt w (((wr.setCell ⟨w.heap.size + 1, 0, none⟩ (.bool n)).setCell ⟨w.heap.size + 1, 1, none⟩ (.slice a l c)).setCell ⟨w.heap.size + 1, 2, none⟩ (.int .i64 X)) lo t := by
  obtain ⟨h1, ⟨n', a', l', c', X', h2, _⟩, h3⟩ := h
  have ne : w.heap.size ≠ w.heap.size + 1 := by omega
  exact ⟨((h1.other (p := ⟨w.heap.size + 1, 0, none⟩) ne _).other (p := ⟨w.heap.size + 1, 1, none⟩) ne _).other (p := ⟨w.heap.size + 1, 2, none⟩) ne _, ⟨n, a, l, c, X, h2.put _ _ _, IsDy.put3 hv h2 _ _ _⟩, below_put3 h3 (by omega) _ _ _⟩

end Go.Proofs.YtfnnbkclnflpfaaGreatDoor

/- The reference of layer 11: Orthogonal by letters. -/
namespace Go.Proofs.YtfnnbkclnflpfaaGreatDoor
open Go.RowKit
attribute [local go_sem ↓] Go.wp_at_zero Go.wp_at_succ

theorem Box3.oth3 {w : World} {b : Nat} {x y z : Value} (h : Box3 w b x y z) {g : Nat} (hg : b ≠ g) (u u' u'' : Value) : Box3 (((w.setCell ⟨g, 0, none⟩ u).setCell ⟨g, 1, none⟩ u').setCell ⟨g, 2, none⟩ u'') b x y z :=
  ((h.other (p := ⟨g, 0, none⟩) hg u).other (p := ⟨g, 1, none⟩) hg u').other (p := ⟨g, 2, none⟩) hg u''
theorem Box3.ex {w : World} {b : Nat} {x y z : Value} (h : Box3 w b x y z) : ∃ g, g = b ∧ Box3 w g x y z := ⟨b, rfl, h⟩
/-- Another box of a number is written. -/
theorem Kept.oth3 {w : World} {b g : Nat} {lo s : Int} (h : Kept w b lo s) {x : Bool} {a : Option Addr} {l c : Nat} {y : Int} (hg : Box3 w g (.bool x) (.slice a l c) (.int .i64 y)) (hne : b ≠ g) (u u' u'' : Value) : Kept (((w.setCell ⟨g, 0, none⟩ u).setCell ⟨g, 1, none⟩ u').setCell ⟨g, 2, none⟩ u'') b lo s := by
  obtain ⟨n, a, l, c, X, h1, h2⟩ := h
  exact ⟨n, a, l, c, X, h1.oth3 hne _ _ _, IsDy.put3 h2 hg _ _ _⟩
/-- It is written itself. -/
theorem Kept.put {w : World} {g : Nat} {lo s t : Int} {lo' : Int} (h : Kept w g lo s) {n : Bool} {a : Option Addr} {l c : Nat} {X : Int} (hv : IsLv w (.agg #[.bool n, .slice a l c, .int .i64 X]) lo' t) : Kept (((w.setCell ⟨g, 0, none⟩ (.bool n)).setCell ⟨g, 1, none⟩ (.slice a l c)).setCell ⟨g, 2, none⟩ (.int .i64 X)) g lo' t := by
  obtain ⟨n', a', l', c', X', h1, _⟩ := h
  exact ⟨n, a, l, c, X, h1.put _ _ _, IsDy.put3 hv h1 _ _ _⟩

/-- What holds in the reference's Orthogonal: the matrix's box, the answer's, the sum's. -/
def OrSt (w wr : World) (r c n cap : Nat) (ao : Option Addr) (lo s : Int) : Prop :=
  BoxM wr w.heap.size (.int .i64 r) (.int .i64 c) (.slice ao n cap) ∧ Box3 wr (w.heap.size + 1) (.bool false) (.slice none 0 0) (.int .i64 0) ∧ Kept wr (w.heap.size + 1 + 1) lo s ∧ Below w.heap.size w wr
theorem OrSt.all {w wr w' : World} {r c n cap : Nat} {ao : Option Addr} {lo s : Int} (h : OrSt w wr r c n cap ao lo s) (hb : Below wr.heap.size wr w') : OrSt w w' r c n cap ao lo s :=
  ⟨h.1.all hb, h.2.1.all hb, h.2.2.1.all hb, h.2.2.2.trans (hb.mono h.2.2.2.size)⟩
theorem OrSt.start (w : World) (r c n cap : Nat) (ao : Option Addr) (lo : Int) : OrSt w (((w.alloc (.cells #[.int .i64 r, .int .i64 c, .slice ao n cap] 24)).alloc (.cells #[.bool false, .slice none 0 0, .int .i64 0] 29)).alloc (.cells #[.bool false, .slice none 0 0, .int .i64 0] 29)) r c n cap ao lo 0 := by
  obtain ⟨x0, x1, bb⟩ := boxes1D w r c ao n cap
  have s1 : ((w.alloc (.cells #[.int .i64 r, .int .i64 c, .slice ao n cap] 24)).alloc (.cells #[.bool false, .slice none 0 0, .int .i64 0] 29)).heap.size = w.heap.size + 1 + 1 := by simp
  generalize (w.alloc (.cells #[.int .i64 r, .int .i64 c, .slice ao n cap] 24)).alloc (.cells #[.bool false, .slice none 0 0, .int .i64 0] 29) = w1 at *
  have b2 := below_alloc9 w1 (.cells #[.bool false, .slice none 0 0, .int .i64 0] 29)
  have k2 := Kept.new w1 lo
  rw [s1] at k2
  exact ⟨x0.all b2, x1.all b2, k2, bb.trans (b2.mono bb.size)⟩
/-- The sum is written. -/
theorem OrSt.put {w wr : World} {r c n cap : Nat} {ao : Option Addr} {lo s t : Int} (h : OrSt w wr r c n cap ao lo s) {ng : Bool} {a : Option Addr} {l cp : Nat} {X : Int} (hv : IsLv wr (.agg #[.bool ng, .slice a l cp, .int .i64 X]) lo t) :
    OrSt w (((wr.setCell ⟨w.heap.size + 1 + 1, 0, none⟩ (.bool ng)).setCell ⟨w.heap.size + 1 + 1, 1, none⟩ (.slice a l cp)).setCell ⟨w.heap.size + 1 + 1, 2, none⟩ (.int .i64 X)) r c n cap ao lo t :=
  ⟨h.1.oth3 (by omega) _ _ _, h.2.1.oth3 (by omega) _ _ _, h.2.2.1.put hv, below_put3 h.2.2.2 (by omega) _ _ _⟩
end Go.Proofs.YtfnnbkclnflpfaaGreatDoor

/- The reference of layer 11: Residual by letters. -/
namespace Go.Proofs.YtfnnbkclnflpfaaGreatDoor
open Go.RowKit
attribute [local go_sem ↓] Go.wp_at_zero Go.wp_at_succ

/-- Three matrices' boxes, the answer's, the sum's. -/
def RsSt (w wr : World) (r c p q s d : Int) (ao bo co : Option Addr) (na nb nc ca cb cc : Nat) (lo z : Int) : Prop :=
  Bx3D w wr r c p q s d ao bo co na nb nc ca cb cc ∧ Kept wr (w.heap.size + 1 + 1 + 1 + 1) lo z
theorem RsSt.all {w wr w' : World} {r c p q s d : Int} {ao bo co : Option Addr} {na nb nc ca cb cc : Nat} {lo z : Int} (h : RsSt w wr r c p q s d ao bo co na nb nc ca cb cc lo z) (hb : Below wr.heap.size wr w') : RsSt w w' r c p q s d ao bo co na nb nc ca cb cc lo z := ⟨h.1.all hb, h.2.all hb⟩
theorem RsSt.start (w : World) (r c p q s d : Int) (ao bo co : Option Addr) (na nb nc ca cb cc : Nat) (lo : Int) : RsSt w (((((w.alloc (.cells #[.int .i64 r, .int .i64 c, .slice ao na ca] 24)).alloc (.cells #[.int .i64 p, .int .i64 q, .slice bo nb cb] 24)).alloc (.cells #[.int .i64 s, .int .i64 d, .slice co nc cc] 24)).alloc (.cells #[.bool false, .slice none 0 0, .int .i64 0] 29)).alloc (.cells #[.bool false, .slice none 0 0, .int .i64 0] 29)) r c p q s d ao bo co na nb nc ca cb cc lo 0 := by
  have h := Bx3D.start w r c p q s d ao bo co na nb nc ca cb cc
  have e : ((((w.alloc (.cells #[.int .i64 r, .int .i64 c, .slice ao na ca] 24)).alloc (.cells #[.int .i64 p, .int .i64 q, .slice bo nb cb] 24)).alloc (.cells #[.int .i64 s, .int .i64 d, .slice co nc cc] 24)).alloc (.cells #[.bool false, .slice none 0 0, .int .i64 0] 29)).heap.size = w.heap.size + 1 + 1 + 1 + 1 := by simp
  generalize (((w.alloc (.cells #[.int .i64 r, .int .i64 c, .slice ao na ca] 24)).alloc (.cells #[.int .i64 p, .int .i64 q, .slice bo nb cb] 24)).alloc (.cells #[.int .i64 s, .int .i64 d, .slice co nc cc] 24)).alloc (.cells #[.bool false, .slice none 0 0, .int .i64 0] 29) = w1 at *
  have b2 := below_alloc9 w1 (.cells #[.bool false, .slice none 0 0, .int .i64 0] 29)
  have k2 := Kept.new w1 lo
  rw [e] at k2
  exact ⟨h.all b2, k2⟩
theorem Bx3D.oth {w wr : World} {r c p q s d : Int} {ao bo co : Option Addr} {na nb nc ca cb cc : Nat} (h : Bx3D w wr r c p q s d ao bo co na nb nc ca cb cc) {g : Nat} (hg : w.heap.size + 1 + 1 + 1 < g) (u u' u'' : Value) : Bx3D w (((wr.setCell ⟨g, 0, none⟩ u).setCell ⟨g, 1, none⟩ u').setCell ⟨g, 2, none⟩ u'') r c p q s d ao bo co na nb nc ca cb cc :=
  ⟨h.1.oth3 (by omega) _ _ _, h.2.1.oth3 (by omega) _ _ _, h.2.2.1.oth3 (by omega) _ _ _, h.2.2.2.1.oth3 (by omega) _ _ _, below_put3 h.2.2.2.2 (by omega) _ _ _⟩
theorem RsSt.put {w wr : World} {r c p q s d : Int} {ao bo co : Option Addr} {na nb nc ca cb cc : Nat} {lo z t : Int} (h : RsSt w wr r c p q s d ao bo co na nb nc ca cb cc lo z) {ng : Bool} {a : Option Addr} {l cp : Nat} {X : Int} (hv : IsLv wr (.agg #[.bool ng, .slice a l cp, .int .i64 X]) lo t) :
    RsSt w (((wr.setCell ⟨(w.heap.size + 1 + 1 + 1 + 1), 0, none⟩ (.bool ng)).setCell ⟨(w.heap.size + 1 + 1 + 1 + 1), 1, none⟩ (.slice a l cp)).setCell ⟨(w.heap.size + 1 + 1 + 1 + 1), 2, none⟩ (.int .i64 X)) r c p q s d ao bo co na nb nc ca cb cc lo t := ⟨h.1.oth (by omega) _ _ _, h.2.put hv⟩
end Go.Proofs.YtfnnbkclnflpfaaGreatDoor

/- The reference of layer 11: Gradient by letters. -/
namespace Go.Proofs.YtfnnbkclnflpfaaGreatDoor
open Go.RowKit
attribute [local go_sem ↓] Go.wp_at_zero Go.wp_at_succ

theorem OwnD.made (w : World) (base : Nat) (lo : Int) (f : Nat → Int) (hb : base ≤ w.heap.size) : OwnD base (w.alloc (.cells #[] 29)) (.slice (some ⟨w.heap.size, 0, none⟩) 0 0) 0 lo f :=
  ⟨[], rfl, World.ownsRow_made w #[] 0 hb (by simp [maxLen]) (by simp), fun g hg => by cases hg; exact ⟨#[], _, heap_alloc_new w _, fun u hu => by simp at hu⟩, fun k hk => by omega⟩
theorem OwnD.put3 {base : Nat} {w : World} {v : Value} {n : Nat} {lo : Int} {f : Nat → Int} (h : OwnD base w v n lo f) {g : Nat} {x : Bool} {a : Option Addr} {l c : Nat} {y : Int} (hx : Box3 w g (.bool x) (.slice a l c) (.int .i64 y)) (hg : g < base) (b : Bool) (a' : Option Addr) (l' c' : Nat) (y' : Int) :
    OwnD base (((w.setCell ⟨g, 0, none⟩ (.bool b)).setCell ⟨g, 1, none⟩ (.slice a' l' c')).setCell ⟨g, 2, none⟩ (.int .i64 y')) v n lo f :=
  ((h.set hx.clr hg 0 _).set (hx.clr.set _ _ rfl) hg 1 _).set ((hx.clr.set _ _ rfl).set _ _ rfl) hg 2 _
theorem OwnD.congr {base : Nat} {w : World} {v : Value} {n : Nat} {lo : Int} {f g : Nat → Int} (h : OwnD base w v n lo f) (he : ∀ k, k < n → f k = g k) : OwnD base w v n lo g := by
  obtain ⟨D, h1, h2, h3, h4⟩ := h
  exact ⟨D, h1, h2, h3, fun k hk => by rw [← he k hk]; exact h4 k hk⟩

/-- Boxes and the sum stay where a row behind them grows. -/
theorem RsSt.grown {w W w' : World} {r c p q s d : Int} {ao bo co : Option Addr} {na nb nc ca cb cc : Nat} {lo z : Int} (h : RsSt w W r c p q s d ao bo co na nb nc ca cb cc lo z) {v : Value} (hc : Clear W v) (hl : ∀ k, v.ownBlock = some k → (w.heap.size + 5) ≤ k) (hg : W.grownBy w' v.ownBlock) : RsSt w w' r c p q s d ao bo co na nb nc ca cb cc lo z := by
  obtain ⟨⟨h1, h2, h3, h4, h5⟩, n', a', l', c', X', h6, h7⟩ := h
  have ne : ∀ b, b < (w.heap.size + 5) → v.ownBlock ≠ some b := fun b hb e => by have := hl b e; omega
  exact ⟨⟨h1.grown hg (ne _ (by omega)), h2.grown hg (ne _ (by omega)), h3.grown hg (ne _ (by omega)), (hg.block _ h4.lt (ne _ (by omega)).symm).trans h4, h5.grown hg h5.size (fun k hk => by have := hl k hk; omega)⟩, n', a', l', c', X', (hg.block _ h6.lt (ne _ (by omega)).symm).trans h6, h7.grownClear hc hg⟩

end Go.Proofs.YtfnnbkclnflpfaaGreatDoor

/- The reference of layer 10: Eye, In. -/
namespace Go.Proofs.YtfnnbkclnflpfaaGreatDoor
open Go.RowKit
attribute [local go_sem ↓] Go.wp_at_zero Go.wp_at_succ

/-- A matrix in a variable's box at g, the result's box at gr. -/
structure LpSt (w wr : World) (g gr p q : Nat) (mo : Option Addr) (mc : Nat) (S : List Nat) : Prop where
  bel : Below w.heap.size w wr
  box : BoxM wr g (.int .i64 p) (.int .i64 q) (.slice mo S.length mc)
  res : BoxM wr gr (.int .i64 0) (.int .i64 0) (.slice none 0 0)
  bits : BitsAt wr mo mc (mxL S)
  ne : gr ≠ g
  lo : w.heap.size ≤ g
theorem LpSt.all {w wr w' : World} {g gr p q : Nat} {mo : Option Addr} {mc : Nat} {S : List Nat} (h : LpSt w wr g gr p q mo mc S) (hb : Below wr.heap.size wr w') : LpSt w w' g gr p q mo mc S :=
  ⟨h.bel.trans (hb.mono h.bel.size), h.box.all hb, h.res.all hb, h.bits.below hb, h.ne, h.lo⟩
theorem LpSt.put {w wr : World} {g gr p q : Nat} {mo : Option Addr} {mc : Nat} {S : List Nat} (h : LpSt w wr g gr p q mo mc S) {no : Option Addr} {nc : Nat} {T : List Nat} (hT : BitsAt wr no nc (mxL T)) :
    LpSt w (((wr.setCell ⟨g, 0, none⟩ (.int .i64 p)).setCell ⟨g, 1, none⟩ (.int .i64 q)).setCell ⟨g, 2, none⟩ (.slice no T.length nc)) g gr p q no nc T :=
  ⟨below_putM h.bel h.lo _ _ _, h.box.put _ _ _, ((h.res.other (p := ⟨g, 0, none⟩) h.ne _).other (p := ⟨g, 1, none⟩) h.ne _).other (p := ⟨g, 2, none⟩) h.ne _, hT.putM h.box _ _ _, h.ne, h.lo⟩

theorem NewM.any {w : World} {r c : Nat} {S : List Nat} {ao : Option Addr} {cap : Nat} (h : BitsAt w ao cap (mxL S)) : NewM 0 w r c S (.agg #[.int .i64 r, .int .i64 c, .slice ao S.length cap]) := by
  refine ⟨ao, cap, rfl, ?_, h⟩
  rcases h.2.2 with e | ⟨b, off, e1, _, _⟩
  · exact .inl e
  · exact .inr ⟨b, off, e1, Nat.zero_le _⟩

/-- The first j ones of Eye. -/
def eyJ (n j : Nat) : List Nat := mkM n n (fun i k => if k = i ∧ i < j then 4607182418800017408 else 0)
theorem eyJ_0 (n : Nat) : eyJ n 0 = List.replicate (n * n) 0 := by
  rw [mkM_noughts]
  exact mkM_congr (fun i k _ _ => if_neg (by omega))
theorem eyJ_set (n j : Nat) (hj : j < n) : (eyJ n j).set (j * n + j) 4607182418800017408 = eyJ n (j + 1) := by
  unfold eyJ
  rw [mkM_set n n _ _ hj hj]
  refine mkM_congr (fun x y _ _ => ?_)
  by_cases h : x = j ∧ y = j
  · rw [if_pos h, if_pos (by omega)]
  · rw [if_neg h]
    by_cases e : y = x ∧ x < j
    · rw [if_pos e, if_pos (by omega)]
    · rw [if_neg e, if_neg (by omega)]
theorem eyJ_all (n : Nat) : eyJ n n = eyM n := mkM_congr (fun i k hi _ => by
  by_cases e : k = i
  · rw [if_pos ⟨e, hi⟩, if_pos e]
  · rw [if_neg (fun h => e h.1), if_neg e])
theorem eyJ_len (n j : Nat) : (eyJ n j).length = n * n := mkM_len _ _ _

set_option maxRecDepth 20000 in
set_option maxHeartbeats 4000000 in
theorem reye_any (n : Nat) (w : World) (hn : n ≤ 6) :
    Calls Tryz.prog 29 #[.int .i64 n] w fun e w' => ∃ v, e = .returned v ∧ NewM 0 w' n n (eyM n) v ∧ Below w.heap.size w w' := by
  have K1 := hide (fun w' => rzeros_any n n w' hn hn)
  have b0 := below_alloc9 w (.cells #[.int .i64 0, .int .i64 0, .slice none 0 0] 24)
  have X0 := BoxM.new w (.int .i64 0) (.int .i64 0) (.slice none 0 0)
  have s0 := size_alloc9 w (.cells #[.int .i64 0, .int .i64 0, .slice none 0 0] 24)
  have HB0 := hide b0; have HX0 := hide X0; have HS0 := hide s0
  clear b0 X0 s0
  go_enter Tryz.func29, Tryz.ntmps29
  go_wp2_with fail
  refine (unhide K1 _).mono ?_
  rintro e w1 ⟨v, rfl, ⟨mo, mc, rfl, nw, qs⟩, hb1⟩
  have ba := below_alloc9 w1 (.cells #[.int .i64 n, .int .i64 n, .slice mo (List.replicate (n * n) 0).length mc] 24)
  have BB := (unhide HB0).trans (hb1.mono (unhide HB0).size)
  have L0 := hide (show LpSt w (w1.alloc (.cells #[.int .i64 n, .int .i64 n, .slice mo (eyJ n 0).length mc] 24)) w1.heap.size w.heap.size n n mo mc (eyJ n 0) from by
    rw [eyJ_0]
    exact ⟨BB.trans (ba.mono BB.size), BoxM.new w1 _ _ _, ((unhide HX0).all hb1).all ba, qs.below ba, by have := hb1.size; rw [unhide HS0] at this; omega, BB.size⟩)
  rw [← eyJ_0]
  clear K1 hb1 ba BB nw qs HB0 HX0 HS0
  go_wp2_with fail
  generalize w1.heap.size = g at *
  go_loopw [4] (fun i wr => ∃ (j : Nat) (no : Option Addr) (nc : Nat), j ≤ n ∧ i = .int .i64 j ∧ Hid (LpSt w wr g w.heap.size n n no nc (eyJ n j))) (fun i _ => n - (intOf i).toNat)
  case atStart => exact ⟨0, mo, mc, Nat.zero_le _, rfl, L0⟩
  case round =>
    clear L0
    obtain ⟨j, no, nc, hj, rfl, hL⟩ := hrel
    have y0 := (unhide hL).box.c0; have y1 := (unhide hL).box.c1; have y2 := (unhide hL).box.c2
    by_cases hlt : j < n
    · have hjI : (j : Int) < (n : Int) := by omega
      have C := hide (rwith_any n n nc j j 4607182418800017408 no (eyJ n j) _ ⟨(unhide hL).bits, eyJ_len n j, hn, hn⟩ hlt hlt (by decide))
      rw [eyJ_set n j hlt, show ((4607182418800017408 : Nat) : Int) = 4607182418800017408 from rfl] at C
      generalize (eyJ n j).length = l at *
      go_wp2_with fail
      refine Calls.mono (unhide C) ?_
      rintro e w2 ⟨v, rfl, ⟨no', nc', rfl, _, q2⟩, hb2⟩
      have L2 := (unhide hL).all hb2
      have f0 := L2.box.free 0; have f1 := L2.box.free 1; have f2 := L2.box.free 2
      have u0 := L2.box.c0; have u1 := L2.box.c1; have u2 := L2.box.c2
      have L3 := hide (L2.put q2)
      clear C hb2 L2 hL y0 y1 y2 q2
      go_wp2_with fail
      go_round
      case rel => exact ⟨j + 1, no', nc', by omega, by go_num, L3⟩
      case measure => simp [intOf]; omega
    · have hjj : j = n := by omega
      subst hjj
      rw [eyJ_all] at hL y2
      have r0 := (unhide hL).res.c0; have r1 := (unhide hL).res.c1; have r2 := (unhide hL).res.c2
      have f0 := (unhide hL).res.free 0; have f1 := (unhide hL).res.free 1; have f2 := (unhide hL).res.free 2
      have XP := (unhide hL).res.put (.int .i64 j) (.int .i64 j) (.slice no (eyM j).length nc)
      have z0 := XP.c0; have z1 := XP.c1; have z2 := XP.c2
      have Q := hide (BitsAt.putM (unhide hL).bits (unhide hL).res (.int .i64 j) (.int .i64 j) (.slice no (eyM j).length nc))
      have BP := hide (below_putM (unhide hL).bel (Nat.le_refl _) (.int .i64 j) (.int .i64 j) (.slice no (eyM j).length nc))
      clear XP hL
      go_wp2
      exact bodyPost_ret (v := .agg #[.int .i64 j, .int .i64 j, .slice no (eyM j).length nc]) (by simp [results, Tryz.results29, go_sem, z0, z1, z2]) rfl ⟨_, rfl, NewM.any (unhide Q), unhide BP⟩

end Go.Proofs.YtfnnbkclnflpfaaGreatDoor

