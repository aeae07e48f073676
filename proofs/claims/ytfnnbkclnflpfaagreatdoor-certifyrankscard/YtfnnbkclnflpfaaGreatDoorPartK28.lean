/- Part 28 of the texts. -/
import Derived.Test.YtfnnbkclnflpfaaGreatDoorPartK27
import Derived.Deep.CutRange
import Derived.Test.YtfnnbkclnflpfaaGreatDoorPartK25
import Derived.Deep.RegionWith
/- The reference of layer 11: Orthogonal by letters. -/
namespace Go.Proofs.YtfnnbkclnflpfaaGreatDoor
open Go.RowKit
attribute [local go_sem ↓] Go.wp_at_zero Go.wp_at_succ

theorem Box3.oth3 {w : World} {b : Nat} {x y z : Value} (h : Box3 w b x y z) {g : Nat} (hg : b ≠ g) (u u' u'' : Value) : Box3 (((w.setCell ⟨g, 0, none⟩ u).setCell ⟨g, 1, none⟩ u').setCell ⟨g, 2, none⟩ u'') b x y z :=
  ((h.other (p := ⟨g, 0, none⟩) hg u).other (p := ⟨g, 1, none⟩) hg u').other (p := ⟨g, 2, none⟩) hg u''
theorem Box3.ex {w : World} {b : Nat} {x y z : Value} (h : Box3 w b x y z) : ∃ g, g = b ∧ Box3 w g x y z := ⟨b, rfl, h⟩
/-- Another box of a number is written. -/
theorem Kept.oth3 {w : World} {b g : Nat} {lo s : Int} (h : Kept w b lo s) {x : Bool} {a : Option Addr} {l c : Nat} {y : Int} (hg : Box3 w g (.bool x) (.slice a l c) (.int .i64 y)) (hne : b ≠ g) (u u' u'' : Value) : Kept (((w.setCell ⟨g, 0, none⟩ u).setCell ⟨g, 1, none⟩ u').setCell ⟨g, 2, none⟩ u'') b lo s := by
  obtain ⟨n, a, l, c, X, h1, h2⟩ := h
  exact ⟨n, a, l, c, X, h1.oth3 hne _ _ _, IsDy.put3 h2 hg _ _ _⟩
/-- It is written itself. -/
theorem Kept.put {w : World} {g : Nat} {lo s t : Int} {lo' : Int} (h : Kept w g lo s) {n : Bool} {a : Option Addr} {l c : Nat} {X : Int} (hv : IsLv w (.agg #[.bool n, .slice a l c, .int .i64 X]) lo' t) : Kept (((w.setCell ⟨g, 0, none⟩ (.bool n)).setCell ⟨g, 1, none⟩ (.slice a l c)).setCell ⟨g, 2, none⟩ (.int .i64 X)) g lo' t := by
  obtain ⟨n', a', l', c', X', h1, _⟩ := h
  exact ⟨n, a, l, c, X, h1.put _ _ _, IsDy.put3 hv h1 _ _ _⟩

/-- What holds in the reference's Orthogonal: the matrix's box, the answer's, the sum's. -/
def OrSt (w wr : World) (r c n cap : Nat) (ao : Option Addr) (lo s : Int) : Prop :=
  BoxM wr w.heap.size (.int .i64 r) (.int .i64 c) (.slice ao n cap) ∧ Box3 wr (w.heap.size + 1) (.bool false) (.slice none 0 0) (.int .i64 0) ∧ Kept wr (w.heap.size + 1 + 1) lo s ∧ Below w.heap.size w wr
theorem OrSt.all {w wr w' : World} {r c n cap : Nat} {ao : Option Addr} {lo s : Int} (h : OrSt w wr r c n cap ao lo s) (hb : Below wr.heap.size wr w') : OrSt w w' r c n cap ao lo s :=
  ⟨h.1.all hb, h.2.1.all hb, h.2.2.1.all hb, h.2.2.2.trans (hb.mono h.2.2.2.size)⟩
theorem OrSt.start (w : World) (r c n cap : Nat) (ao : Option Addr) (lo : Int) : OrSt w (((w.alloc (.cells #[.int .i64 r, .int .i64 c, .slice ao n cap] 24)).alloc (.cells #[.bool false, .slice none 0 0, .int .i64 0] 29)).alloc (.cells #[.bool false, .slice none 0 0, .int .i64 0] 29)) r c n cap ao lo 0 := by
  obtain ⟨x0, x1, bb⟩ := boxes1D w r c ao n cap
  have s1 : ((w.alloc (.cells #[.int .i64 r, .int .i64 c, .slice ao n cap] 24)).alloc (.cells #[.bool false, .slice none 0 0, .int .i64 0] 29)).heap.size = w.heap.size + 1 + 1 := by simp
  generalize (w.alloc (.cells #[.int .i64 r, .int .i64 c, .slice ao n cap] 24)).alloc (.cells #[.bool false, .slice none 0 0, .int .i64 0] 29) = w1 at *
  have b2 := below_alloc9 w1 (.cells #[.bool false, .slice none 0 0, .int .i64 0] 29)
  have k2 := Kept.new w1 lo
  rw [s1] at k2
  exact ⟨x0.all b2, x1.all b2, k2, bb.trans (b2.mono bb.size)⟩
/-- The sum is written. -/
theorem OrSt.put {w wr : World} {r c n cap : Nat} {ao : Option Addr} {lo s t : Int} (h : OrSt w wr r c n cap ao lo s) {ng : Bool} {a : Option Addr} {l cp : Nat} {X : Int} (hv : IsLv wr (.agg #[.bool ng, .slice a l cp, .int .i64 X]) lo t) :
    OrSt w (((wr.setCell ⟨w.heap.size + 1 + 1, 0, none⟩ (.bool ng)).setCell ⟨w.heap.size + 1 + 1, 1, none⟩ (.slice a l cp)).setCell ⟨w.heap.size + 1 + 1, 2, none⟩ (.int .i64 X)) r c n cap ao lo t :=
  ⟨h.1.oth3 (by omega) _ _ _, h.2.1.oth3 (by omega) _ _ _, h.2.2.1.put hv, below_put3 h.2.2.2 (by omega) _ _ _⟩
end Go.Proofs.YtfnnbkclnflpfaaGreatDoor

/- The reference of layer 11: Residual by letters. -/
namespace Go.Proofs.YtfnnbkclnflpfaaGreatDoor
open Go.RowKit
attribute [local go_sem ↓] Go.wp_at_zero Go.wp_at_succ

/-- Three matrices' boxes, the answer's, the sum's. -/
def RsSt (w wr : World) (r c p q s d : Int) (ao bo co : Option Addr) (na nb nc ca cb cc : Nat) (lo z : Int) : Prop :=
  Bx3D w wr r c p q s d ao bo co na nb nc ca cb cc ∧ Kept wr (w.heap.size + 1 + 1 + 1 + 1) lo z
theorem RsSt.all {w wr w' : World} {r c p q s d : Int} {ao bo co : Option Addr} {na nb nc ca cb cc : Nat} {lo z : Int} (h : RsSt w wr r c p q s d ao bo co na nb nc ca cb cc lo z) (hb : Below wr.heap.size wr w') : RsSt w w' r c p q s d ao bo co na nb nc ca cb cc lo z := ⟨h.1.all hb, h.2.all hb⟩
theorem RsSt.start (w : World) (r c p q s d : Int) (ao bo co : Option Addr) (na nb nc ca cb cc : Nat) (lo : Int) : RsSt w (((((w.alloc (.cells #[.int .i64 r, .int .i64 c, .slice ao na ca] 24)).alloc (.cells #[.int .i64 p, .int .i64 q, .slice bo nb cb] 24)).alloc (.cells #[.int .i64 s, .int .i64 d, .slice co nc cc] 24)).alloc (.cells #[.bool false, .slice none 0 0, .int .i64 0] 29)).alloc (.cells #[.bool false, .slice none 0 0, .int .i64 0] 29)) r c p q s d ao bo co na nb nc ca cb cc lo 0 := by
  have h := Bx3D.start w r c p q s d ao bo co na nb nc ca cb cc
  have e : ((((w.alloc (.cells #[.int .i64 r, .int .i64 c, .slice ao na ca] 24)).alloc (.cells #[.int .i64 p, .int .i64 q, .slice bo nb cb] 24)).alloc (.cells #[.int .i64 s, .int .i64 d, .slice co nc cc] 24)).alloc (.cells #[.bool false, .slice none 0 0, .int .i64 0] 29)).heap.size = w.heap.size + 1 + 1 + 1 + 1 := by simp
  generalize (((w.alloc (.cells #[.int .i64 r, .int .i64 c, .slice ao na ca] 24)).alloc (.cells #[.int .i64 p, .int .i64 q, .slice bo nb cb] 24)).alloc (.cells #[.int .i64 s, .int .i64 d, .slice co nc cc] 24)).alloc (.cells #[.bool false, .slice none 0 0, .int .i64 0] 29) = w1 at *
  have b2 := below_alloc9 w1 (.cells #[.bool false, .slice none 0 0, .int .i64 0] 29)
  have k2 := Kept.new w1 lo
  rw [e] at k2
  exact ⟨h.all b2, k2⟩
theorem Bx3D.oth {w wr : World} {r c p q s d : Int} {ao bo co : Option Addr} {na nb nc ca cb cc : Nat} (h : Bx3D w wr r c p q s d ao bo co na nb nc ca cb cc) {g : Nat} (hg : w.heap.size + 1 + 1 + 1 < g) (u u' u'' : Value) : Bx3D w (((wr.setCell ⟨g, 0, none⟩ u).setCell ⟨g, 1, none⟩ u').setCell ⟨g, 2, none⟩ u'') r c p q s d ao bo co na nb nc ca cb cc :=
  ⟨h.1.oth3 (by omega) _ _ _, h.2.1.oth3 (by omega) _ _ _, h.2.2.1.oth3 (by omega) _ _ _, h.2.2.2.1.oth3 (by omega) _ _ _, below_put3 h.2.2.2.2 (by omega) _ _ _⟩
theorem RsSt.put {w wr : World} {r c p q s d : Int} {ao bo co : Option Addr} {na nb nc ca cb cc : Nat} {lo z t : Int} (h : RsSt w wr r c p q s d ao bo co na nb nc ca cb cc lo z) {ng : Bool} {a : Option Addr} {l cp : Nat} {X : Int} (hv : IsLv wr (.agg #[.bool ng, .slice a l cp, .int .i64 X]) lo t) :
    RsSt w (((wr.setCell ⟨(w.heap.size + 1 + 1 + 1 + 1), 0, none⟩ (.bool ng)).setCell ⟨(w.heap.size + 1 + 1 + 1 + 1), 1, none⟩ (.slice a l cp)).setCell ⟨(w.heap.size + 1 + 1 + 1 + 1), 2, none⟩ (.int .i64 X)) r c p q s d ao bo co na nb nc ca cb cc lo t := ⟨h.1.oth (by omega) _ _ _, h.2.put hv⟩
end Go.Proofs.YtfnnbkclnflpfaaGreatDoor

/- The reference of layer 11: Gradient by letters. -/
namespace Go.Proofs.YtfnnbkclnflpfaaGreatDoor
open Go.RowKit
attribute [local go_sem ↓] Go.wp_at_zero Go.wp_at_succ

theorem OwnD.made (w : World) (base : Nat) (lo : Int) (f : Nat → Int) (hb : base ≤ w.heap.size) : OwnD base (w.alloc (.cells #[] 29)) (.slice (some ⟨w.heap.size, 0, none⟩) 0 0) 0 lo f :=
  ⟨[], rfl, World.ownsRow_made w #[] 0 hb (by simp [maxLen]) (by simp), fun g hg => by cases hg; exact ⟨#[], _, heap_alloc_new w _, fun u hu => by simp at hu⟩, fun k hk => by omega⟩
theorem OwnD.congr {base : Nat} {w : World} {v : Value} {n : Nat} {lo : Int} {f g : Nat → Int} (h : OwnD base w v n lo f) (he : ∀ k, k < n → f k = g k) : OwnD base w v n lo g := by
  obtain ⟨D, h1, h2, h3, h4⟩ := h
  exact ⟨D, h1, h2, h3, fun k hk => by rw [← he k hk]; exact h4 k hk⟩

/-- Boxes and the sum stay where a row behind them grows. -/
theorem RsSt.grown {w W w' : World} {r c p q s d : Int} {ao bo co : Option Addr} {na nb nc ca cb cc : Nat} {lo z : Int} (h : RsSt w W r c p q s d ao bo co na nb nc ca cb cc lo z) {v : Value} (hc : Clear W v) (hl : ∀ k, v.ownBlock = some k → (w.heap.size + 5) ≤ k) (hg : W.grownBy w' v.ownBlock) : RsSt w w' r c p q s d ao bo co na nb nc ca cb cc lo z := by
  obtain ⟨⟨h1, h2, h3, h4, h5⟩, n', a', l', c', X', h6, h7⟩ := h
  have ne : ∀ b, b < (w.heap.size + 5) → v.ownBlock ≠ some b := fun b hb e => by have := hl b e; omega
  exact ⟨⟨h1.grown hg (ne _ (by omega)), h2.grown hg (ne _ (by omega)), h3.grown hg (ne _ (by omega)), (hg.block _ h4.lt (ne _ (by omega)).symm).trans h4, h5.grown hg h5.size (fun k hk => by have := hl k hk; omega)⟩, n', a', l', c', X', (hg.block _ h6.lt (ne _ (by omega)).symm).trans h6, h7.grownClear hc hg⟩

end Go.Proofs.YtfnnbkclnflpfaaGreatDoor

/- The reference of layer 10: Eye, In. -/
namespace Go.Proofs.YtfnnbkclnflpfaaGreatDoor
open Go.RowKit
attribute [local go_sem ↓] Go.wp_at_zero Go.wp_at_succ

/-- A matrix in a variable's box at g, the result's box at gr. -/
structure LpSt (w wr : World) (g gr p q : Nat) (mo : Option Addr) (mc : Nat) (S : List Nat) : Prop where
  bel : Below w.heap.size w wr
  box : BoxM wr g (.int .i64 p) (.int .i64 q) (.slice mo S.length mc)
  res : BoxM wr gr (.int .i64 0) (.int .i64 0) (.slice none 0 0)
  bits : BitsAt wr mo mc (mxL S)
  ne : gr ≠ g
  lo : w.heap.size ≤ g
theorem LpSt.all {w wr w' : World} {g gr p q : Nat} {mo : Option Addr} {mc : Nat} {S : List Nat} (h : LpSt w wr g gr p q mo mc S) (hb : Below wr.heap.size wr w') : LpSt w w' g gr p q mo mc S :=
  ⟨h.bel.trans (hb.mono h.bel.size), h.box.all hb, h.res.all hb, h.bits.below hb, h.ne, h.lo⟩
theorem LpSt.put {w wr : World} {g gr p q : Nat} {mo : Option Addr} {mc : Nat} {S : List Nat} (h : LpSt w wr g gr p q mo mc S) {no : Option Addr} {nc : Nat} {T : List Nat} (hT : BitsAt wr no nc (mxL T)) :
    LpSt w (((wr.setCell ⟨g, 0, none⟩ (.int .i64 p)).setCell ⟨g, 1, none⟩ (.int .i64 q)).setCell ⟨g, 2, none⟩ (.slice no T.length nc)) g gr p q no nc T :=
  ⟨below_putM h.bel h.lo _ _ _, h.box.put _ _ _, ((h.res.other (p := ⟨g, 0, none⟩) h.ne _).other (p := ⟨g, 1, none⟩) h.ne _).other (p := ⟨g, 2, none⟩) h.ne _, hT.putM h.box _ _ _, h.ne, h.lo⟩

theorem NewM.any {w : World} {r c : Nat} {S : List Nat} {ao : Option Addr} {cap : Nat} (h : BitsAt w ao cap (mxL S)) : NewM 0 w r c S (.agg #[.int .i64 r, .int .i64 c, .slice ao S.length cap]) := by
  refine ⟨ao, cap, rfl, ?_, h⟩
  rcases h.2.2 with e | ⟨b, off, e1, _, _⟩
  · exact .inl e
  · exact .inr ⟨b, off, e1, Nat.zero_le _⟩

end Go.Proofs.YtfnnbkclnflpfaaGreatDoor

/- The reference of layer 10: Turn, Part (mkne.py). -/
namespace Go.Proofs.YtfnnbkclnflpfaaGreatDoor
open Go.RowKit
attribute [local go_sem ↓] Go.wp_at_zero Go.wp_at_succ

set_option maxRecDepth 20000 in
set_option maxHeartbeats 8000000 in
theorem rturn_any (r c cap : Nat) (ao : Option Addr) (S : List Nat) (w : World) (h : Mx w ao cap r c S) :
    Calls Tryz.prog 26 #[.agg #[.int .i64 r, .int .i64 c, .slice ao S.length cap]] w fun e w' => ∃ v, e = .returned v ∧ NewM 0 w' c r (mkM c r (fun k i => elM c S i k)) v ∧ Below w.heap.size w w' := by
  have HH := hide h
  have hr6 := h.2.2.1; have hc6 := h.2.2.2
  have K1 := hide (fun w' => rzeros_any c r w' (by omega) (by omega))
  have b0 := below_alloc9 w (.cells #[.int .i64 r, .int .i64 c, .slice ao S.length cap] 24)
  have b1 := below_alloc9 (w.alloc (.cells #[.int .i64 r, .int .i64 c, .slice ao S.length cap] 24)) (.cells #[.int .i64 0, .int .i64 0, .slice none 0 0] 24)
  have s0 := size_alloc9 w (.cells #[.int .i64 r, .int .i64 c, .slice ao S.length cap] 24)
  have s1 := size_alloc9 (w.alloc (.cells #[.int .i64 r, .int .i64 c, .slice ao S.length cap] 24)) (.cells #[.int .i64 0, .int .i64 0, .slice none 0 0] 24)
  have X0 := BoxM.new w (.int .i64 r) (.int .i64 c) (.slice ao S.length cap)
  have X1 := BoxM.new (w.alloc (.cells #[.int .i64 r, .int .i64 c, .slice ao S.length cap] 24)) (.int .i64 0) (.int .i64 0) (.slice none 0 0)
  have HX0 := hide (X0.all b1)
  rw [s0] at X1
  have HX1 := hide X1
  have HB0 := hide (b0.trans (b1.mono b0.size))
  have HS0 := hide (s1.trans (by rw [s0]))
  have HL := hide h.2.1
  obtain ⟨l, hl⟩ : ∃ l, S.length = l := ⟨_, rfl⟩
  rw [hl] at HX0 HX1 HB0 HS0
  rw [hl]
  have HLL := hide hl
  obtain ⟨f, hf⟩ : ∃ f : Nat → Nat → Nat, f = (fun k i => elM c S i k) := ⟨_, rfl⟩
  rw [← hf]
  have HF := hide hf
  clear b0 b1 s0 s1 X0 X1 h hl hf
  go_enter Tryz.func26, Tryz.ntmps26
  go_wp2_with fail
  refine (unhide K1 _).mono ?_
  rintro e w1 ⟨v, rfl, ⟨mo, mc, rfl, nw, qs⟩, hb1⟩
  have ba := below_alloc9 w1 (.cells #[.int .i64 c, .int .i64 r, .slice mo (List.replicate (c * r) 0).length mc] 24)
  have BB := (unhide HB0).trans (hb1.mono (unhide HB0).size)
  have L0 := hide (show LpSt w (w1.alloc (.cells #[.int .i64 c, .int .i64 r, .slice mo (mkM c r (fiC f 0 0)).length mc] 24)) w1.heap.size (w.heap.size + 1) c r mo mc (mkM c r (fiC f 0 0)) from by
    rw [fiC_0]
    exact ⟨BB.trans (ba.mono BB.size), BoxM.new w1 _ _ _, ((unhide HX1).all hb1).all ba, qs.below ba, by have := hb1.size; rw [unhide HS0] at this; omega, BB.size⟩)
  have A0 := hide (show BoxM (w1.alloc (.cells #[.int .i64 c, .int .i64 r, .slice mo (mkM c r (fiC f 0 0)).length mc] 24)) w.heap.size (.int .i64 r) (.int .i64 c) (.slice ao l cap) from by
    rw [fiC_0]
    exact ((unhide HX0).all hb1).all ba)
  have NE := hide (show w.heap.size ≠ w1.heap.size from by have := hb1.size; rw [unhide HS0] at this; omega)
  rw [← fiC_0 c r f]
  clear K1 hb1 ba BB nw qs HB0 HX0 HX1 HS0
  have t0 := (unhide A0).c0; have t1 := (unhide A0).c1; have t2 := (unhide A0).c2
  go_wp2_with fail
  generalize w1.heap.size = g at *
  go_loopw [4] (fun i wr => ∃ (j : Nat) (no : Option Addr) (nc : Nat), j ≤ r ∧ i = .int .i64 j ∧ Hid (LpSt w wr g (w.heap.size + 1) c r no nc (mkM c r (fiC f j 0))) ∧ Hid (BoxM wr w.heap.size (.int .i64 r) (.int .i64 c) (.slice ao l cap))) (fun i _ => r - (intOf i).toNat)
  case atStart => exact ⟨0, mo, mc, Nat.zero_le _, rfl, L0, A0⟩
  case round =>
    clear L0 A0 t0 t1 t2
    obtain ⟨j, no, nc, hj, rfl, hL, hA⟩ := hrel
    by_cases hlt : j < r
    · have hjI : (j : Int) < (r : Int) := by omega
      have t0 := (unhide hA).c0; have t1 := (unhide hA).c1; have t2 := (unhide hA).c2
      go_wp2_with fail
      go_loopw [5] (fun i wr => ∃ (k : Nat) (no : Option Addr) (nc : Nat), k ≤ c ∧ i = .int .i64 k ∧ Hid (LpSt w wr g (w.heap.size + 1) c r no nc (mkM c r (fiC f j k))) ∧ Hid (BoxM wr w.heap.size (.int .i64 r) (.int .i64 c) (.slice ao l cap))) (fun i _ => c - (intOf i).toNat)
      case atStart => exact ⟨0, no, nc, Nat.zero_le _, rfl, hL, hA⟩
      case round =>
        clear hL hA t0 t1 t2 no nc
        obtain ⟨k, no, nc, hk, rfl, hL, hA⟩ := hrel
        have t0 := (unhide hA).c0; have t1 := (unhide hA).c1; have t2 := (unhide hA).c2
        by_cases hkc : k < c
        · have hkI : (k : Int) < (c : Int) := by omega
          have y0 := (unhide hL).box.c0; have y1 := (unhide hL).box.c1; have y2 := (unhide hL).box.c2
          have C1 := hide (fun w' (m : Mx w' ao cap r c S) => rat_any r c cap j k ao S w' m (by omega) (by omega))
          have C2 := hide (fun w' no nc (m : Mx w' no nc c r (mkM c r (fiC f j k))) => rwith_any c r nc k j (f k j) no (mkM c r (fiC f j k)) w' m (by omega) (by omega) (by rw [unhide HF]; exact (unhide HH).el_lt _ _))
          rw [fiC_step c r f hlt hkc] at C2
          rw [unhide HLL, show elM c S j k = f k j from by rw [unhide HF]] at C1
          have HM := hide ((unhide HH).below (unhide hL).bel)
          have HP := hide (show (mkM c r (fiC f j k)).length = c * r from mkM_len _ _ _)
          generalize f k j = x at *
          generalize mkM c r (fiC f j k) = T at *
          generalize hT2 : mkM c r (fiC f j (k + 1)) = T2 at *
          have HT2 := hide hT2
          clear hT2
          go_wp2_with fail
          go_region_with (first | (go_at_call 54; refine (unhide C1 _ (by exact unhide HM)).mono ?_; rintro e w4 ⟨rfl, hb3⟩; have hb4 : Below wr.heap.size wr w4 := ((Below.refl wr.heap.size wr).drew).trans hb3; clear hb3 t0 t1 t2 y0 y1 y2; have L4 := (unhide hL).all hb4; have A4 := (unhide hA).all hb4; have t0 := A4.c0; have t1 := A4.c1; have t2 := A4.c2; have y0 := L4.box.c0; have y1 := L4.box.c1; have y2 := L4.box.c2; have HL4 := hide L4; have HA4 := hide A4; clear hb4 L4 A4) | (go_at_call 68; refine (unhide C2 _ _ _ ⟨(unhide HL4).bits, unhide HP, by omega, by omega⟩).mono ?_; rintro e w5 ⟨v, rfl, ⟨no5, nc5, rfl, _, q5⟩, hb5⟩; clear t0 t1 t2 y0 y1 y2; have L5 := (unhide HL4).all hb5; have A5 := (unhide HA4).all hb5; have y0 := L5.box.c0; have y1 := L5.box.c1; have y2 := L5.box.c2; have f0 := L5.box.free 0; have f1 := L5.box.free 1; have f2 := L5.box.free 2; have L6 := hide (L5.put q5); have A6 := hide (((A5.other (p := ⟨g, 0, none⟩) (unhide NE) (.int .i64 c)).other (p := ⟨g, 1, none⟩) (unhide NE) (.int .i64 r)).other (p := ⟨g, 2, none⟩) (unhide NE) (.slice no5 T2.length nc5)); clear hb5 L5 A5 q5 HL4 HA4) | fail "NO ARM")
          all_goals
            clear hL hA HM C1 C2 y0 y1 y2 f0 f1 f2
            go_wp2_with fail
            go_round
            case rel => exact ⟨k + 1, no5, nc5, by omega, by go_num, by rw [unhide HT2]; exact L6, A6⟩
            case measure => simp [intOf]; omega
        · have hkk : c = k := by omega
          subst hkk
          have hL' := hide (show LpSt w _ g (w.heap.size + 1) c r no nc (mkM c r (fiC f (j + 1) 0)) from by rw [← fiC_col c r f j]; exact unhide hL)
          clear hL
          go_wp2_with fail
          go_round
          case rel => exact ⟨j + 1, no, nc, by omega, by go_num, hL', hA⟩
          case measure => simp [intOf]; omega
    · have hjj : r = j := by omega
      subst hjj
      rw [fiC_all] at hL
      have t0 := (unhide hA).c0; have t1 := (unhide hA).c1; have t2 := (unhide hA).c2
      have y0 := (unhide hL).box.c0; have y1 := (unhide hL).box.c1; have y2 := (unhide hL).box.c2
      have r0 := (unhide hL).res.c0; have r1 := (unhide hL).res.c1; have r2 := (unhide hL).res.c2
      have f0 := (unhide hL).res.free 0; have f1 := (unhide hL).res.free 1; have f2 := (unhide hL).res.free 2
      have XP := (unhide hL).res.put (.int .i64 c) (.int .i64 r) (.slice no (mkM c r f).length nc)
      have z0 := XP.c0; have z1 := XP.c1; have z2 := XP.c2
      have Q := hide (BitsAt.putM (unhide hL).bits (unhide hL).res (.int .i64 c) (.int .i64 r) (.slice no (mkM c r f).length nc))
      have BP := hide (below_putM (unhide hL).bel (b := w.heap.size + 1) (by omega) (.int .i64 c) (.int .i64 r) (.slice no (mkM c r f).length nc))
      clear XP hL
      go_wp2
      exact bodyPost_ret (v := .agg #[.int .i64 c, .int .i64 r, .slice no (mkM c r f).length nc]) (by simp [results, Tryz.results26, go_sem, z0, z1, z2]) rfl ⟨_, rfl, NewM.any (unhide Q), unhide BP⟩

end Go.Proofs.YtfnnbkclnflpfaaGreatDoor

