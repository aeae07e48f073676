/- Part 20 of the texts. -/
import Derived.Test.YtpaikdlhkdgkpaaDoorPart17
import Derived.Test.YtpaikdlhkdgkpaaDoorPart16
import Derived.Test.YtpaikdlhkdgkpaaDoorPart19
import Derived.Test.YtpaikdlhkdgkpaaDoorPart15
import Derived.Test.YtpaikdlhkdgkpaaDoorPart18
import Derived.Test.YtpaikdlhkdgkpaaDoorPart12
import Derived.Test.YtpaikdlhkdgkpaaDoorPart11
import Derived.Test.YtpaikdlhkdgkpaaDoorPart09
/- Contracts of package sum: nought, addFinite, Add, Sub. -/
namespace Go.Proofs.YtpaikdlhkdgkpaaDoor
open Go.RowKit

def aO (s t : Bool) : Nat := if (s && t) = true then 9223372036854775808 else 0

theorem dy_len {w : World} {n : Bool} {a : Option Addr} {l c : Nat} {e m X : Int} (h : IsDy w (.agg #[.bool n, .slice a l c, .int .i64 e]) m X) : ((l : Int) == 0) = decide (m = 0) := by
  obtain ⟨n', a', c', L', e1, _, e3, _, e5, _⟩ := h.parts
  simp only [Value.agg.injEq, Array.mk.injEq, List.cons.injEq, Value.slice.injEq] at e1
  have e2 := e1.2.1.2.1
  by_cases h0 : m = 0
  · have : L' = [] := (val_zero_of_canon L' e3).1 (by rw [e5, h0]; rfl)
    rw [decide_eq_true h0, e2, this]; rfl
  · have : L'.length ≠ 0 := fun h1 => by
      have : L' = [] := List.length_eq_zero_iff.1 h1
      rw [this] at e5
      simp [val] at e5
      omega
    rw [decide_eq_false h0]; simp; omega

end Go.Proofs.YtpaikdlhkdgkpaaDoor

/- Contracts of package sum: Add, Sub; awake. -/
namespace Go.Proofs.YtpaikdlhkdgkpaaDoor
open Go.RowKit

theorem awake5_facts : aV 4607182418800017408 4607182418800017408 = 4611686018427387904 ∧ aF 4607182418800017408 4607182418800017408 = 0 ∧ aV 9218868437227405312 (fN 9218868437227405312) = 9221120237041090560 ∧ aF 9218868437227405312 (fN 9218868437227405312) = 16 := by decide +kernel

end Go.Proofs.YtpaikdlhkdgkpaaDoor

/- The reference's sum at a level, its rounding of a number at hand; its Add and Sub of layer 5. -/
namespace Go.Proofs.YtpaikdlhkdgkpaaDoor
open Go.RowKit

theorem raddN {w : World} {v u : Value} {lo : Int} {W : Nat} {z1 z2 : Int} (hv : IsDy w v (oM z1) (oE z1 lo)) (hu : IsDy w u (oM z2) (oE z2 lo)) (h1 : Lvl lo W z1) (h2 : Lvl lo W z2) :
    Calls Tryd.prog 98 #[v, u] w fun r w' => ∃ q, r = .returned q ∧ IsDy w' q (oM (z1 + z2)) (oE (z1 + z2) lo) ∧ Below w.heap.size w w' := by
  obtain ⟨na, ao, ca, A, rfl, a1, a2, a3, a4, a5⟩ := hv.right h1.right.2
  obtain ⟨nb, bo, cb, B, rfl, b1, b2, b3, b4, b5⟩ := hu.right h2.right.2
  have x1 := dRt_in h1.right.1
  have x2 := dRt_in h2.right.1
  have t1 := h1.tops
  have t2 := h2.tops
  by_cases h0 : z1 = 0 ∧ z2 = 0
  · obtain ⟨rfl, rfl⟩ := h0
    rw [oM_zero] at a3 b3
    rw [oE_zero] at *
    have eZ : sumZ 0 0 0 0 = 0 := by decide
    have eU : upE 0 0 (lowE 0 0 0 0) = 0 := upE_ok _ _ _ (by rw [up_zero]; exact TOP_pos) (by decide)
    have := radd_any na nb ao bo ca cb A B 0 0 w a1 b1 a2 b2 (by omega) (by omega) (by rw [a3, b3]; exact eU) (by rw [a3, b3]; exact eU)
    rw [a3, b3, eZ, oM_zero, oE_zero] at this
    simpa [oM_zero, oE_zero] using this
  · obtain ⟨k, e1, e2, e3, e4, e5⟩ := low_level h1 h2 h0
    have g1 : upE (oM z1) (oE z1 lo) (lo + k) = 0 := upE_ok _ _ _ (Nat.lt_of_le_of_lt (le_scaled e2) t1) e4
    have g2 : upE (oM z2) (oE z2 lo) (lo + k) = 0 := upE_ok _ _ _ (Nat.lt_of_le_of_lt (le_scaled e3) t2) e5
    have := radd_any na nb ao bo ca cb A B _ _ w a1 b1 a2 b2 x1 x2 (by rw [a3, b3, e1]; exact g1) (by rw [a3, b3, e1]; exact g2)
    rw [a3, b3, e1] at this
    have hZ : sumZ (oM z1) (oE z1 lo) (oM z2) (oE z2 lo) * 2 ^ k = z1 + z2 := by
      unfold sumZ
      rw [e1, Int.add_mul, e2, e3]
    generalize sumZ (oM z1) (oE z1 lo) (oM z2) (oE z2 lo) = Z at *
    have hs := oM_scale Z k lo
    rw [hZ] at hs
    rw [hs.1, hs.2]
    exact this

theorem rround_dy {w : World} {v : Value} {m e : Int} (h : IsDy w v m e) (hm : m.natAbs < 4294967296 ^ 80) (hr : dRt m e = true) :
    Calls Tryd.prog 47 #[v] w fun r w' => r = .returned (.tuple #[.int .u64 (wrd (decide (m < 0)) (rnd m.natAbs e) : Nat), .int .u8 (rflag m.natAbs e)]) ∧ Below w.heap.size w w' := by
  have hT : m.natAbs < TOP := Nat.lt_of_lt_of_le hm (Nat.pow_le_pow_right (by decide) (by decide))
  obtain ⟨n, a, c, L, rfl, h1, h2, h3, h4, h5⟩ := h.right hT
  have hn : n = decide (m < 0) := by
    obtain ⟨n', a', c', L', e1, _, _, e4, _⟩ := h.parts
    simp only [Value.agg.injEq, Array.mk.injEq, List.cons.injEq, Value.bool.injEq] at e1
    rw [e1.1]; exact e4
  have hv : val L = m.natAbs := by rw [← h3, natAbs_sval]
  have hl : L.length ≤ 80 := (length_le_iff L h1.2.1 (right_canon h2).2.1 80).2 (by rw [hv]; exact hm)
  have := rround_right n a c L e w h1 (h5.trans hr) hl
  rw [hv, hn] at this
  rw [hn]
  exact this

end Go.Proofs.YtpaikdlhkdgkpaaDoor

/- Contracts of package times: signed, mulFinite, Mul, Square. -/
namespace Go.Proofs.YtpaikdlhkdgkpaaDoor
open Go.RowKit

theorem p4196 : (2 : Nat) ^ 2098 * 2 ^ 2098 = 2 ^ 4196 := by decide +kernel
theorem mZ_Lvl (a b : Nat) (fa : fFin a = true) (fb : fFin b = true) : Lvl (-1074 + -1074) 4196 (fZ a * fZ b) := by
  have h1 := fZ_lt a fa
  have h2 := fZ_lt b fb
  refine ⟨?_, by decide, by decide, by decide⟩
  have h3 := p4196
  have h4 := Nat.two_pow_pos 2098
  rw [Int.natAbs_mul]
  generalize (2 : Nat) ^ 4196 = P at *
  generalize (2 : Nat) ^ 2098 = Q at *
  rw [← h3]
  exact Nat.mul_lt_mul_of_lt_of_le h1 (Nat.le_of_lt h2) h4

theorem fZ_neg (b : Nat) (h0 : fK b ≠ 0) : fZ b ≠ 0 ∧ decide (fZ b < 0) = fS b := by
  have hr : rv (fR b) ≠ 0 := fun e => h0 ((fK_zero b).2 ((rv_eq0 _).1 e))
  unfold fZ pv
  cases fS b
  · simp only [Bool.false_eq_true, if_false]
    exact ⟨by omega, decide_eq_false (by omega)⟩
  · simp only [if_true]
    exact ⟨by omega, decide_eq_true (by omega)⟩
theorem mZ_neg (a b : Nat) (a0 : fK a ≠ 0) (b0 : fK b ≠ 0) : fZ a * fZ b ≠ 0 ∧ decide (fZ a * fZ b < 0) = (fS a ^^ fS b) := by
  obtain ⟨h1, h2⟩ := fZ_neg a a0
  obtain ⟨h3, h4⟩ := fZ_neg b b0
  refine ⟨Int.mul_ne_zero h1 h3, ?_⟩
  rw [← h2, ← h4]
  generalize fZ a = x at *
  generalize fZ b = y at *
  rcases Int.lt_or_gt_of_ne h1 with hx | hx <;> rcases Int.lt_or_gt_of_ne h3 with hy | hy
  · have := Int.mul_pos_of_neg_of_neg hx hy
    rw [decide_eq_true hx, decide_eq_true hy, decide_eq_false (by omega)]; rfl
  · have := Int.mul_neg_of_neg_of_pos hx hy
    rw [decide_eq_true hx, decide_eq_false (show ¬ y < 0 by omega), decide_eq_true this]; rfl
  · have := Int.mul_neg_of_pos_of_neg hx hy
    rw [decide_eq_false (show ¬ x < 0 by omega), decide_eq_true hy, decide_eq_true this]; rfl
  · have := Int.mul_pos hx hy
    rw [decide_eq_false (show ¬ x < 0 by omega), decide_eq_false (show ¬ y < 0 by omega), decide_eq_false (show ¬ x * y < 0 by omega)]; rfl

end Go.Proofs.YtpaikdlhkdgkpaaDoor

/- The reference of layer 6: signed, Mul. -/
namespace Go.Proofs.YtpaikdlhkdgkpaaDoor
open Go.RowKit

/-- The product, at its numbers' own powers. -/
theorem mZ_level (a b : Nat) (ha : a < 18446744073709551616) (hb : b < 18446744073709551616) (fa : fFin a = true) (fb : fFin b = true) (a0 : fK a ≠ 0) (b0 : fK b ≠ 0) :
    oM (fZ a * fZ b) = oM (fD a * fD b) ∧ oE (fZ a * fZ b) (-2148) = oE (fD a * fD b) (fX a + fX b) := by
  obtain ⟨d1, d2⟩ := fZ_level a ha fa
  obtain ⟨d3, d4⟩ := fZ_level b hb fb
  have x1 := oM_level (fZ a) (-1074) (fZ_neg a a0).1
  have x2 := oM_level (fZ b) (-1074) (fZ_neg b b0).1
  rw [d1, d2] at x1
  rw [d3, d4] at x2
  have r1 : -1074 ≤ fX a := by rw [← d2, oE_ne _ _ (fZ_neg a a0).1]; omega
  have r2 : -1074 ≤ fX b := by rw [← d4, oE_ne _ _ (fZ_neg b b0).1]; omega
  have e : fZ a * fZ b = fD a * fD b * 2 ^ ((fX a - -1074).toNat + (fX b - -1074).toNat) := by
    rw [← x1, ← x2, Int.pow_add]
    generalize (2 : Int) ^ (fX a - -1074).toNat = P
    generalize (2 : Int) ^ (fX b - -1074).toNat = Q
    ac_rfl
  have h := oM_scale (fD a * fD b) ((fX a - -1074).toNat + (fX b - -1074).toNat) (-2148)
  rw [← e] at h
  refine ⟨h.1, ?_⟩
  rw [h.2]
  congr 1
  omega


theorem fD_lt (b : Nat) : (fD b).natAbs < 9007199254740992 := by
  have : (oM (fM b)).natAbs ≤ (fM b).natAbs := oM_le _
  have h3 := fM_lt b
  show (oM (fM b)).natAbs < _
  omega
theorem fX_in (b : Nat) (hb : b < 18446744073709551616) (hf : fFin b = true) (h0 : fK b ≠ 0) : -1074 ≤ fX b ∧ fX b ≤ 1024 := by
  obtain ⟨β, x1, x2, x3, x4⟩ := odd_mag b hb hf h0
  have hz := fZ_lt b hf
  rw [fZ_abs, x2] at hz
  have hβ : β < 2098 := by
    have h1 : 2 ^ β ≤ (fD b).natAbs * 2 ^ β := Nat.le_mul_of_pos_left _ (by omega)
    exact pow_lt_of (Nat.lt_of_le_of_lt h1 hz)
  omega

end Go.Proofs.YtpaikdlhkdgkpaaDoor

/- The reference's calls of layer 1 of numbers at hand, for its Quotient; what holds in Quotient's loop. -/
namespace Go.Proofs.YtpaikdlhkdgkpaaDoor
open Go.RowKit

theorem top8000 {x : Int} (h : x.natAbs < 2 ^ 8000) : x.natAbs < TOP := lt_TOP h (by decide)

theorem rdouble6 {B : Nat} {w : World} {v : Value} {x : Int} (hv : IsNum B w v x) (hx : x.natAbs < 2 ^ 8000) :
    Calls Tryd.prog 94 #[v] w fun e w' => ∃ r, e = .returned r ∧ IsNum w.heap.size w' r (2 * x) ∧ Below w.heap.size w w' := by
  obtain ⟨na, ao, ca, A, rfl, a1, a2, a3, a4⟩ := hv.right (top8000 hx)
  have := double_any na ao ca A w a1 (by omega)
  have e : sg na (val A + val A) = 2 * x := by
    rw [← a3, sval_sg]; unfold sg; split <;> omega
  rw [e] at this
  exact this.mono fun e w' ⟨r, h1, h2, h3⟩ => ⟨r, h1, h2.num (by omega), h3⟩
theorem radd6 {B B' : Nat} {w : World} {v u : Value} {x y : Int} (hv : IsNum B w v x) (hu : IsNum B' w u y) (hx : x.natAbs < 2 ^ 8000) (hy : y.natAbs < 2 ^ 8000) :
    Calls Tryd.prog 107 #[v, u] w fun e w' => ∃ r, e = .returned r ∧ IsNum w.heap.size w' r (x + y) ∧ Below w.heap.size w w' := by
  obtain ⟨na, ao, ca, A, rfl, a1, a2, a3, a4⟩ := hv.right (top8000 hx)
  obtain ⟨nb, bo, cb, C, rfl, b1, b2, b3, b4⟩ := hu.right (top8000 hy)
  have := refAdd_any na nb ao bo ca cb A C w a1 b1 (by omega) (by omega)
  rw [a3, b3] at this
  exact this.mono fun e w' ⟨r, h1, h2, h3⟩ => ⟨r, h1, h2.num (by omega), h3⟩
theorem rsub6 {B B' : Nat} {w : World} {v u : Value} {x y : Int} (hv : IsNum B w v x) (hu : IsNum B' w u y) (hx : x.natAbs < 2 ^ 8000) (hy : y.natAbs < 2 ^ 8000) :
    Calls Tryd.prog 95 #[v, u] w fun e w' => ∃ r, e = .returned r ∧ IsNum w.heap.size w' r (x - y) ∧ Below w.heap.size w w' := by
  obtain ⟨na, ao, ca, A, rfl, a1, a2, a3, a4⟩ := hv.right (top8000 hx)
  obtain ⟨nb, bo, cb, C, rfl, b1, b2, b3, b4⟩ := hu.right (top8000 hy)
  have := refSub_any na nb ao bo ca cb A C w a1 b1 (by omega) (by omega)
  rw [a3, b3] at this
  exact this.mono fun e w' ⟨r, h1, h2, h3⟩ => ⟨r, h1, h2.num (by omega), h3⟩
theorem rcmp6 {B B' : Nat} {w : World} {v u : Value} {x y : Int} (hv : IsNum B w v x) (hu : IsNum B' w u y) (hx : x.natAbs < 2 ^ 8000) (hy : y.natAbs < 2 ^ 8000) :
    Calls Tryd.prog 59 #[v, u] w fun e w' => e = .returned (.int .i64 (cmpI x y)) ∧ Below w.heap.size w w' := by
  obtain ⟨na, ao, ca, A, rfl, a1, a2, a3, a4⟩ := hv.right (top8000 hx)
  obtain ⟨nb, bo, cb, C, rfl, b1, b2, b3, b4⟩ := hu.right (top8000 hy)
  have := refCompare_any na nb ao bo ca cb A C w a1 b1 (by omega) (by omega)
  rwa [a3, b3] at this
theorem rodd6 {B : Nat} {w : World} {v : Value} {x : Int} (hv : IsNum B w v x) (hx : x.natAbs < 2 ^ 8000) :
    Calls Tryd.prog 87 #[v] w fun e w' => e = .returned (.bool (decide (x.natAbs % 2 = 1))) ∧ Below w.heap.size w w' := by
  obtain ⟨na, ao, ca, A, rfl, a1, a2, a3, a4⟩ := hv.right (top8000 hx)
  have := odd_any na ao ca A w a1
  rwa [← natAbs_sval na A, a3] at this
theorem rlen6 {B : Nat} {w : World} {v : Value} {x : Int} (hv : IsNum B w v x) (hx : x.natAbs < 2 ^ 8000) :
    Calls Tryd.prog 97 #[v] w fun e w' => e = .returned (.int .i64 (bl x.natAbs : Nat)) ∧ Below w.heap.size w w' := by
  obtain ⟨na, ao, ca, A, rfl, a1, a2, a3, a4⟩ := hv.right (top8000 hx)
  have := refLen_any na ao ca A w a1 (by omega)
  rwa [lenL_bl a1.2.1 a2, ← natAbs_sval na A, a3] at this
theorem rshift6 {B : Nat} {w : World} {v : Value} {x : Nat} (hv : IsNum B w v x) (hx : x < 2 ^ 8000) (n : Int) (hn : -16384 ≤ n ∧ n ≤ 16384) :
    Calls Tryd.prog 58 #[v, .int .i64 n] w fun e w' => ∃ r, e = .returned r ∧ IsNum 0 w' r ((if 0 ≤ n then x * 2 ^ n.toNat else x / 2 ^ (-n).toNat : Nat) : Int) ∧ Below w.heap.size w w' := by
  obtain ⟨na, ao, ca, A, rfl, a1, a2, a3, a4⟩ := hv.right (top8000 (x := (x : Int)) hx)
  have := refShift_any na ao ca A n w a1 a2 hn
  have hv : val A = x := by rw [← natAbs_sval na A, a3]; rfl
  have e : shV na A n = ((if 0 ≤ n then x * 2 ^ n.toNat else x / 2 ^ (-n).toNat : Nat) : Int) := by
    unfold shV
    rw [hv]
    unfold sg
    split
    · rename_i hn
      have hx0 : x = 0 := by
        unfold sval at a3
        rw [if_pos hn, hv] at a3
        omega
      subst hx0
      split <;> simp
    · rfl
  rwa [e] at this
theorem rof6 (w : World) : Calls Tryd.prog 29 #[.int .i64 1] w fun e w' => ∃ v, e = .returned v ∧ IsNum w.heap.size w' v 1 ∧ Below w.heap.size w w' :=
  (refOf_any 1 w (by decide) (by decide)).mono fun e w' ⟨r, h1, h2, h3⟩ => ⟨r, h1, h2.num (by omega), h3⟩

theorem Box2.oth6 {w : World} {b g : Nat} {x y : Value} (h : Box2 w b x y) (hne : b ≠ g) (u u' : Value) : Box2 ((w.setCell ⟨g, 0, none⟩ u).setCell ⟨g, 1, none⟩ u') b x y :=
  (h.other (p := ⟨g, 0, none⟩) hne u).other (p := ⟨g, 1, none⟩) hne u'

/-- What holds in Quotient: its boxes, the quotient's and the rest's numbers. -/
def QSt (w : World) (va vb : Value × Value) (wr : World) (vq : Value × Value) (zq : Int) (vr : Value × Value) (zr : Int) : Prop :=
  Below w.heap.size w wr ∧ Box2 wr w.heap.size va.1 va.2 ∧ Box2 wr (w.heap.size + 1) vb.1 vb.2 ∧ Box2 wr (w.heap.size + 1 + 1) (.bool false) (.slice none 0 0) ∧ Box2 wr (w.heap.size + 1 + 1 + 1) (.bool false) (.slice none 0 0) ∧ Box2 wr (w.heap.size + 1 + 1 + 1 + 1) vq.1 vq.2 ∧ Box2 wr (w.heap.size + 1 + 1 + 1 + 1 + 1) vr.1 vr.2 ∧ IsNum (w.heap.size + 6) wr (.agg #[vq.1, vq.2]) zq ∧ IsNum (w.heap.size + 6) wr (.agg #[vr.1, vr.2]) zr

theorem QSt.below {w wr w' : World} {va vb vq vr : Value × Value} {zq zr : Int} (h : QSt w va vb wr vq zq vr zr) (hb : Below wr.heap.size wr w') : QSt w va vb w' vq zq vr zr := by
  obtain ⟨h0, h1, h2, h3, h4, h5, h6, h7, h8⟩ := h
  exact ⟨h0.trans (hb.mono h0.size), h1.all hb, h2.all hb, h3.all hb, h4.all hb, h5.all hb, h6.all hb, h7.below hb, h8.below hb⟩
theorem QSt.room {w wr : World} {va vb vq vr : Value × Value} {zq zr : Int} (h : QSt w va vb wr vq zq vr zr) : w.heap.size + 6 ≤ wr.heap.size := h.2.2.2.2.2.2.1.lt
theorem QSt.putq {w wr : World} {va vb vq vr : Value × Value} {zq zr : Int} (h : QSt w va vb wr vq zq vr zr) (x y : Value) (z : Int) (hn : IsNum (w.heap.size + 6) wr (.agg #[x, y]) z) :
    QSt w va vb ((wr.setCell ⟨w.heap.size + 1 + 1 + 1 + 1, 0, none⟩ x).setCell ⟨w.heap.size + 1 + 1 + 1 + 1, 1, none⟩ y) (x, y) z vr zr := by
  obtain ⟨h0, h1, h2, h3, h4, h5, h6, h7, h8⟩ := h
  exact ⟨(h0.setCell (by simp; omega) _).setCell (by simp; omega) _, h1.oth6 (by omega) _ _, h2.oth6 (by omega) _ _, h3.oth6 (by omega) _ _, h4.oth6 (by omega) _ _, h5.put _ _, h6.oth6 (by omega) _ _, hn.put2 (by simp) (by simp) _ _, h8.put2 (by simp) (by simp) _ _⟩
theorem QSt.putr {w wr : World} {va vb vq vr : Value × Value} {zq zr : Int} (h : QSt w va vb wr vq zq vr zr) (x y : Value) (z : Int) (hn : IsNum (w.heap.size + 6) wr (.agg #[x, y]) z) :
    QSt w va vb ((wr.setCell ⟨w.heap.size + 1 + 1 + 1 + 1 + 1, 0, none⟩ x).setCell ⟨w.heap.size + 1 + 1 + 1 + 1 + 1, 1, none⟩ y) vq zq (x, y) z := by
  obtain ⟨h0, h1, h2, h3, h4, h5, h6, h7, h8⟩ := h
  exact ⟨(h0.setCell (by simp; omega) _).setCell (by simp; omega) _, h1.oth6 (by omega) _ _, h2.oth6 (by omega) _ _, h3.oth6 (by omega) _ _, h4.oth6 (by omega) _ _, h5.oth6 (by omega) _ _, h6.put _ _, h7.put2 (by simp) (by simp) _ _, hn.put2 (by simp) (by simp) _ _⟩
/-- The boxes' cells. -/
theorem QSt.cells {w wr : World} {va vb vq vr : Value × Value} {zq zr : Int} (h : QSt w va vb wr vq zq vr zr) :
    (wr.cell? ⟨w.heap.size, 0, none⟩ = some va.1 ∧ wr.cell? ⟨w.heap.size, 1, none⟩ = some va.2) ∧ (wr.cell? ⟨w.heap.size + 1, 0, none⟩ = some vb.1 ∧ wr.cell? ⟨w.heap.size + 1, 1, none⟩ = some vb.2) ∧
    (wr.cell? ⟨w.heap.size + 1 + 1 + 1 + 1, 0, none⟩ = some vq.1 ∧ wr.cell? ⟨w.heap.size + 1 + 1 + 1 + 1, 1, none⟩ = some vq.2 ∧ wr.frozen? ⟨w.heap.size + 1 + 1 + 1 + 1, 0, none⟩ = false ∧ wr.frozen? ⟨w.heap.size + 1 + 1 + 1 + 1, 1, none⟩ = false) ∧
    (wr.cell? ⟨w.heap.size + 1 + 1 + 1 + 1 + 1, 0, none⟩ = some vr.1 ∧ wr.cell? ⟨w.heap.size + 1 + 1 + 1 + 1 + 1, 1, none⟩ = some vr.2 ∧ wr.frozen? ⟨w.heap.size + 1 + 1 + 1 + 1 + 1, 0, none⟩ = false ∧ wr.frozen? ⟨w.heap.size + 1 + 1 + 1 + 1 + 1, 1, none⟩ = false) := by
  obtain ⟨h0, h1, h2, h3, h4, h5, h6, h7, h8⟩ := h
  exact ⟨⟨h1.c0, h1.c1⟩, ⟨h2.c0, h2.c1⟩, ⟨h5.c0, h5.c1, h5.free 0, h5.free 1⟩, ⟨h6.c0, h6.c1, h6.free 0, h6.free 1⟩⟩

end Go.Proofs.YtpaikdlhkdgkpaaDoor

