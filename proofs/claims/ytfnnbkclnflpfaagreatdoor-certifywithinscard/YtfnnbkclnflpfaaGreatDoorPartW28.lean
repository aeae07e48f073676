/- Part 28 of the texts. -/
import Derived.Test.YtfnnbkclnflpfaaGreatDoorPartW27
import Derived.Test.YtfnnbkclnflpfaaGreatDoorPartW24
import Derived.Deep.RegionWith
import Derived.Deep.RegionLaw
import Derived.Test.YtfnnbkclnflpfaaGreatDoorPartW20
import Derived.Deep.RegionHeld3
import Derived.Test.YtfnnbkclnflpfaaGreatDoorPartW05
import Derived.Test.YtfnnbkclnflpfaaGreatDoorPartW06
import Derived.Maps.AppendAt
/- The reference of layer 11: Gradient by letters. -/
namespace Go.Proofs.YtfnnbkclnflpfaaGreatDoor
open Go.RowKit
attribute [local go_sem ↓] Go.wp_at_zero Go.wp_at_succ

theorem OwnD.made (w : World) (base : Nat) (lo : Int) (f : Nat → Int) (hb : base ≤ w.heap.size) : OwnD base (w.alloc (.cells #[] 29)) (.slice (some ⟨w.heap.size, 0, none⟩) 0 0) 0 lo f :=
  ⟨[], rfl, World.ownsRow_made w #[] 0 hb (by simp [maxLen]) (by simp), fun g hg => by cases hg; exact ⟨#[], _, heap_alloc_new w _, fun u hu => by simp at hu⟩, fun k hk => by omega⟩
theorem OwnD.congr {base : Nat} {w : World} {v : Value} {n : Nat} {lo : Int} {f g : Nat → Int} (h : OwnD base w v n lo f) (he : ∀ k, k < n → f k = g k) : OwnD base w v n lo g := by
  obtain ⟨D, h1, h2, h3, h4⟩ := h
  exact ⟨D, h1, h2, h3, fun k hk => by rw [← he k hk]; exact h4 k hk⟩

/-- Boxes and the sum stay where a row behind them grows. -/
theorem RsSt.grown {w W w' : World} {r c p q s d : Int} {ao bo co : Option Addr} {na nb nc ca cb cc : Nat} {lo z : Int} (h : RsSt w W r c p q s d ao bo co na nb nc ca cb cc lo z) {v : Value} (hc : Clear W v) (hl : ∀ k, v.ownBlock = some k → (w.heap.size + 5) ≤ k) (hg : W.grownBy w' v.ownBlock) : RsSt w w' r c p q s d ao bo co na nb nc ca cb cc lo z := by
  obtain ⟨⟨h1, h2, h3, h4, h5⟩, n', a', l', c', X', h6, h7⟩ := h
  have ne : ∀ b, b < (w.heap.size + 5) → v.ownBlock ≠ some b := fun b hb e => by have := hl b e; omega
  exact ⟨⟨h1.grown hg (ne _ (by omega)), h2.grown hg (ne _ (by omega)), h3.grown hg (ne _ (by omega)), (hg.block _ h4.lt (ne _ (by omega)).symm).trans h4, h5.grown hg h5.size (fun k hk => by have := hl k hk; omega)⟩, n', a', l', c', X', (hg.block _ h6.lt (ne _ (by omega)).symm).trans h6, h7.grownClear hc hg⟩

end Go.Proofs.YtfnnbkclnflpfaaGreatDoor

/- The reference of layer 10: Eye, In. -/
namespace Go.Proofs.YtfnnbkclnflpfaaGreatDoor
open Go.RowKit
attribute [local go_sem ↓] Go.wp_at_zero Go.wp_at_succ

/-- A matrix in a variable's box at g, the result's box at gr. -/
structure LpSt (w wr : World) (g gr p q : Nat) (mo : Option Addr) (mc : Nat) (S : List Nat) : Prop where
  bel : Below w.heap.size w wr
  box : BoxM wr g (.int .i64 p) (.int .i64 q) (.slice mo S.length mc)
  res : BoxM wr gr (.int .i64 0) (.int .i64 0) (.slice none 0 0)
  bits : BitsAt wr mo mc (mxL S)
  ne : gr ≠ g
  lo : w.heap.size ≤ g
theorem LpSt.all {w wr w' : World} {g gr p q : Nat} {mo : Option Addr} {mc : Nat} {S : List Nat} (h : LpSt w wr g gr p q mo mc S) (hb : Below wr.heap.size wr w') : LpSt w w' g gr p q mo mc S :=
  ⟨h.bel.trans (hb.mono h.bel.size), h.box.all hb, h.res.all hb, h.bits.below hb, h.ne, h.lo⟩
theorem LpSt.put {w wr : World} {g gr p q : Nat} {mo : Option Addr} {mc : Nat} {S : List Nat} (h : LpSt w wr g gr p q mo mc S) {no : Option Addr} {nc : Nat} {T : List Nat} (hT : BitsAt wr no nc (mxL T)) :
    LpSt w (((wr.setCell ⟨g, 0, none⟩ (.int .i64 p)).setCell ⟨g, 1, none⟩ (.int .i64 q)).setCell ⟨g, 2, none⟩ (.slice no T.length nc)) g gr p q no nc T :=
  ⟨below_putM h.bel h.lo _ _ _, h.box.put _ _ _, ((h.res.other (p := ⟨g, 0, none⟩) h.ne _).other (p := ⟨g, 1, none⟩) h.ne _).other (p := ⟨g, 2, none⟩) h.ne _, hT.putM h.box _ _ _, h.ne, h.lo⟩

theorem NewM.any {w : World} {r c : Nat} {S : List Nat} {ao : Option Addr} {cap : Nat} (h : BitsAt w ao cap (mxL S)) : NewM 0 w r c S (.agg #[.int .i64 r, .int .i64 c, .slice ao S.length cap]) := by
  refine ⟨ao, cap, rfl, ?_, h⟩
  rcases h.2.2 with e | ⟨b, off, e1, _, _⟩
  · exact .inl e
  · exact .inr ⟨b, off, e1, Nat.zero_le _⟩

end Go.Proofs.YtfnnbkclnflpfaaGreatDoor

/- The reference of layer 11: Within. -/
namespace Go.Proofs.YtfnnbkclnflpfaaGreatDoor
open Go.RowKit
attribute [local go_sem ↓] Go.wp_at_zero Go.wp_at_succ

set_option maxRecDepth 20000 in
set_option maxHeartbeats 8000000 in
theorem rWithin_of (na nb : Bool) (ao bo : Option Addr) (ka kb ca cb : Nat) (x y k : Int) (m1 e1 m2 e2 m3 e3 o : Int) (w : World) (hk : 0 ≤ k ∧ k ≤ 200)
    (C1 : ∀ w', Below w.heap.size w w' → Calls Tryz.prog 61 #[.agg #[.bool nb, .slice bo kb cb, .int .i64 y], .int .i64 (-(2 * k))] w' fun r w'' => ∃ q, r = .returned q ∧ IsDy w'' q m1 e1 ∧ Below w'.heap.size w' w'')
    (C2 : ∀ w' v, IsNum 0 w' v 1 → Calls Tryz.prog 48 #[v, .int .i64 (-4000)] w' fun r w'' => ∃ q, r = .returned q ∧ IsDy w'' q m2 e2 ∧ Below w'.heap.size w' w'')
    (C3 : ∀ w' v u, IsDy w' v m1 e1 → IsDy w' u m2 e2 → Calls Tryz.prog 50 #[v, u] w' fun r w'' => ∃ q, r = .returned q ∧ IsDy w'' q m3 e3 ∧ Below w'.heap.size w' w'')
    (C4 : ∀ w' v, Below w.heap.size w w' → IsDy w' v m3 e3 → Calls Tryz.prog 62 #[.agg #[.bool na, .slice ao ka ca, .int .i64 x], v] w' fun r w'' => r = .returned (.int .i64 o) ∧ Below w'.heap.size w' w'') :
    Calls Tryz.prog 23 #[.agg #[.bool na, .slice ao ka ca, .int .i64 x], .agg #[.bool nb, .slice bo kb cb, .int .i64 y], .int .i64 k] w fun e w' => e = .returned (.bool (decide (o ≤ 0))) ∧ Below w.heap.size w w' := by
  have ST := hide (AmSt.start w na nb ao bo ka kb ca cb x y)
  have K1 := hide C1; have K2 := hide C2; have K3 := hide C3; have K4 := hide C4; have K5 := hide rof11
  clear C1 C2 C3 C4
  have y0 := (unhide ST).2.1.c0; have y1 := (unhide ST).2.1.c1; have y2 := (unhide ST).2.1.c2
  have hj : IntKind.i64.wrap (-(2 * k)) = -(2 * k) := wrap_in _ (by omega)
  go_enter Tryz.func23, Tryz.ntmps23
  go_wp2_with fail
  refine (unhide K1 _ (unhide ST).2.2).mono ?_
  rintro e w1 ⟨q, rfl, hq, hb1⟩
  replace ST := hide ((unhide ST).all hb1)
  have HQ := hide hq
  clear hb1 hq K1 y0 y1 y2
  go_wp2_with fail
  refine (unhide K5 _).mono ?_
  rintro e w2 ⟨v, rfl, hv, hb1⟩
  replace ST := hide ((unhide ST).all hb1)
  replace HQ := hide ((unhide HQ).below hb1)
  have HV := hide (hv.mono (Nat.zero_le _))
  clear hb1 hv K5
  go_wp2_with fail
  refine (unhide K2 _ _ (unhide HV)).mono ?_
  rintro e w3 ⟨u, rfl, hu, hb1⟩
  replace ST := hide ((unhide ST).all hb1)
  replace HQ := hide ((unhide HQ).below hb1)
  have HU := hide hu
  clear hb1 hu K2 HV
  go_wp2_with fail
  refine (unhide K3 _ _ _ (unhide HQ) (unhide HU)).mono ?_
  rintro e w4 ⟨t, rfl, ht, hb1⟩
  obtain ⟨n3, a3, c3, L3, rfl, i3⟩ := ht.num
  generalize L3.length = l3 at *
  have ba := below_alloc9 w4 (.cells #[.bool n3, .slice a3 l3 c3, .int .i64 e3] 29)
  have hbb := hb1.trans (ba.mono hb1.size)
  replace ST := hide ((unhide ST).all hbb)
  have HT := hide (ht.below ba)
  have XT := hide (Box3.new w4 (.bool n3) (.slice a3 l3 c3) (.int .i64 e3))
  clear hb1 ht K3 HQ HU ba hbb i3
  have x0 := (unhide ST).1.c0; have x1 := (unhide ST).1.c1; have x2 := (unhide ST).1.c2
  go_wp2_with fail
  refine (unhide K4 _ _ (unhide ST).2.2 (unhide HT)).mono ?_
  rintro e w5 ⟨rfl, hb1⟩
  clear x0 x1 x2
  replace ST := hide ((unhide ST).all hb1)
  clear hb1 K4
  go_wp2
  go_ret
  exact ⟨rfl, (unhide ST).2.2⟩

/-- The order of two numbers, at any level below both. -/
theorem up_lower (s e l : Int) (k : Nat) (h : l ≤ e) : up s e (l - k) = up s e l * 2 ^ k := by
  unfold up
  rw [show (e - (l - k)).toNat = (e - l).toNat + k by omega, Int.pow_add, Int.mul_assoc]
theorem cmpI_le11 (u v : Int) : cmpI u v ≤ 0 ↔ u ≤ v := by
  rw [cmpI_sgn]
  unfold sgnI
  by_cases h : u - v < 0
  · rw [if_pos h]; omega
  · rw [if_neg h]
    by_cases h2 : u - v = 0
    · rw [if_pos h2]; omega
    · rw [if_neg h2]; omega
theorem cmpV_le {sa x sb y l : Int} (hx : l ≤ x) (hy : l ≤ y) : cmpV sa x sb y ≤ 0 ↔ up sa x l ≤ up sb y l := by
  unfold cmpV
  rw [cmpI_le11]
  have hp : ∀ k : Nat, (0 : Int) < 2 ^ k := fun k => Int.pow_pos (by decide)
  have key : ∀ (q : Int) (u v : Int), l ≤ q → up sa x l = u * 2 ^ (q - l).toNat → up sb y l = v * 2 ^ (q - l).toNat → (u ≤ v ↔ up sa x l ≤ up sb y l) := fun q u v hq h1 h2 => by
    rw [h1, h2]
    exact (Int.mul_le_mul_right (hp _)).symm
  have lw : ∀ (s e q : Int), l ≤ q → q ≤ e → up s e l = up s e q * 2 ^ (q - l).toNat := fun s e q h1 h2 => by
    have := up_lower s e q (q - l).toNat h2
    rwa [show q - ((q - l).toNat : Int) = l by omega] at this
  by_cases h0 : sa = 0
  · have e : lowE sa x sb y = y := by unfold lowE; rw [if_pos h0]
    rw [e]
    refine key y _ _ hy ?_ (lw sb y y hy (Int.le_refl _))
    rw [h0, up_zero, up_zero, Int.zero_mul]
  · by_cases h1 : sb = 0
    · have e : lowE sa x sb y = x := by unfold lowE; rw [if_neg h0, if_pos h1]
      rw [e]
      refine key x _ _ hx (lw sa x x hx (Int.le_refl _)) ?_
      rw [h1, up_zero, up_zero, Int.zero_mul]
    · rw [lowE_ne sa x sb y h0 h1]
      exact key (min x y) _ _ (by omega) (lw sa x _ (by omega) (by omega)) (lw sb y _ (by omega) (by omega))

/-- The bound of Within, at the level of the lesser power. -/
def wnZ (B : Nat) (y n : Int) : Int := ((B * 2 ^ (y - n - min (y - n) (-4000)).toNat + 2 ^ (-4000 - min (y - n) (-4000)).toNat : Nat) : Int)
theorem wnB_cmp (A B : Nat) (x y n : Int) : decide (cmpV (A : Int) x (oM (wnZ B y n)) (oE (wnZ B y n) (min (y - n) (-4000))) ≤ 0) = wnB A B x y n := by
  have hz : 0 < wnZ B y n := by
    unfold wnZ
    have := Nat.two_pow_pos (-4000 - min (y - n) (-4000)).toNat
    omega
  have hne : wnZ B y n ≠ 0 := by omega
  have hl : wnL x y n = min x (min (y - n) (-4000)) := by unfold wnL; omega
  unfold wnB
  rw [hl]
  obtain ⟨m, hm⟩ : ∃ m, min (y - n) (-4000) = m := ⟨_, rfl⟩
  obtain ⟨l, hll⟩ : ∃ l, min x m = l := ⟨_, rfl⟩
  have hE := oE_ge _ m hne
  refine decide_eq_decide.2 ?_
  rw [hm, cmpV_le (l := l) (by omega) (by omega), hll]
  have e1 : up (oM (wnZ B y n)) (oE (wnZ B y n) m) l = wnZ B y n * 2 ^ (m - l).toNat := by
    have h1 := up_lower (oM (wnZ B y n)) (oE (wnZ B y n) m) m (m - l).toNat hE
    have h2 : up (oM (wnZ B y n)) (oE (wnZ B y n) m) m = wnZ B y n := oM_level _ _ hne
    rw [show m - ((m - l).toNat : Int) = l by omega, h2] at h1
    exact h1
  have e2 : up (A : Int) x l = ((A * 2 ^ (x - l).toNat : Nat) : Int) := by
    unfold up
    rw [Int.natCast_mul, Int.natCast_pow]; rfl
  have e3 : wnZ B y n * 2 ^ (m - l).toNat = ((B * 2 ^ (y - n - l).toNat + 2 ^ (-4000 - l).toNat : Nat) : Int) := by
    unfold wnZ
    rw [hm, show (2 : Int) ^ (m - l).toNat = ((2 ^ (m - l).toNat : Nat) : Int) by rw [Int.natCast_pow]; rfl, ← Int.natCast_mul, Nat.add_mul, Nat.mul_assoc, ← Nat.pow_add, ← Nat.pow_add,
      show (y - n - m).toNat + (m - l).toNat = (y - n - l).toNat by omega, show (-4000 - m).toNat + (m - l).toNat = (-4000 - l).toNat by omega]
  rw [e1, e2, e3]
  exact Int.ofNat_le

theorem wn_wide {B : Nat} {y n : Int} (hB : B < 2 ^ 1920) (hy : -9000 ≤ y ∧ y ≤ 9000) (hn : 0 ≤ n ∧ n ≤ 400) :
    Lvl (min (y - n) (-4000)) 15000 ((B * 2 ^ (y - n - min (y - n) (-4000)).toNat : Nat) : Int) ∧ Lvl (min (y - n) (-4000)) 15000 ((2 ^ (-4000 - min (y - n) (-4000)).toNat : Nat) : Int) ∧ Lvl (min (y - n) (-4000)) 15000 (wnZ B y n) := by
  obtain ⟨m, hm⟩ : ∃ m, min (y - n) (-4000) = m := ⟨_, rfl⟩
  obtain ⟨V, hV⟩ : ∃ V : Nat, 14999 = V := ⟨_, rfl⟩
  obtain ⟨U, hU⟩ : ∃ U : Nat, 15000 = U := ⟨_, rfl⟩
  obtain ⟨T, hT⟩ : ∃ T : Nat, 1920 = T := ⟨_, rfl⟩
  rw [hT] at hB
  unfold wnZ
  rw [hm, hU]
  have b1 : B * 2 ^ (y - n - m).toNat < 2 ^ V := by
    have := Nat.mul_lt_mul_of_pos_right hB (Nat.two_pow_pos (y - n - m).toNat)
    rw [← Nat.pow_add] at this
    exact Nat.lt_of_lt_of_le this (Nat.pow_le_pow_right (by decide) (by omega))
  have b2 : 2 ^ (-4000 - m).toNat < 2 ^ V := Nat.pow_lt_pow_right (by decide) (by omega)
  have hUV : U = V + 1 := by omega
  have b3 : 2 ^ U = 2 ^ V + 2 ^ V := by rw [hUV, Nat.pow_succ]; omega
  have side : -16384 ≤ m ∧ m + (U : Int) ≤ 16384 ∧ U ≤ 16384 := by omega
  refine ⟨⟨?_, side⟩, ⟨?_, side⟩, ⟨?_, side⟩⟩
  · rw [Int.natAbs_natCast]; omega
  · rw [Int.natAbs_natCast]; omega
  · rw [Int.natAbs_natCast]; omega

theorem pow_60 (k m : Nat) (h : 32 * k ≤ m) : 4294967296 ^ k ≤ 2 ^ m := by
  rw [show (4294967296 : Nat) = 2 ^ 32 by decide, ← Nat.pow_mul]
  exact Nat.pow_le_pow_right (by decide) h
theorem one_TOP11 : (1 : Int).natAbs < TOP := lt_TOP (k := 1) (by decide) (by decide)
theorem rWithin_any (ao bo : Option Addr) (ca cb : Nat) (A B : List Nat) (x y k : Int) (w : World) (hA : LimbsAt w ao ca A) (hB : LimbsAt w bo cb B) (hra : drB false A x = true) (hrb : drB false B y = true) (lb : B.length ≤ 60) (hy : -9000 ≤ y ∧ y ≤ 9000) (hk : 0 ≤ k ∧ k ≤ 200) :
    Calls Tryz.prog 23 #[.agg #[.bool false, .slice ao A.length ca, .int .i64 x], .agg #[.bool false, .slice bo B.length cb, .int .i64 y], .int .i64 k] w fun e w' => e = .returned (.bool (wnB (val A) (val B) x y (2 * k))) ∧ Below w.heap.size w w' := by
  obtain ⟨ra, la, bx1, bx2, zx⟩ := drB_bounds hra
  obtain ⟨rb, _, by1, by2, zy⟩ := drB_bounds hrb
  have vB : val B < 2 ^ 1920 := by
    have h1 := val_lt B hB.2.1
    exact Nat.lt_of_lt_of_le h1 (pow_60 B.length 1920 (by omega))
  obtain ⟨l1, l2, l3⟩ := wn_wide (n := 2 * k) vB hy (by omega)
  have sB : sval false B = (val B : Int) := by unfold sval; simp
  have sA : sval false A = (val A : Int) := by unfold sval; simp
  rw [← wnB_cmp]
  obtain ⟨m, hm⟩ : ∃ m, min (y - 2 * k) (-4000) = m := ⟨_, rfl⟩
  rw [hm] at l1 l2 l3 ⊢
  have hZ : ((val B * 2 ^ (y - 2 * k - m).toNat : Nat) : Int) + ((2 ^ (-4000 - m).toNat : Nat) : Int) = wnZ (val B) y (2 * k) := by unfold wnZ; rw [hm, ← Int.natCast_add]
  refine rWithin_of false false ao bo A.length B.length ca cb x y k (oM ((val B * 2 ^ (y - 2 * k - m).toNat : Nat) : Int)) (oE ((val B * 2 ^ (y - 2 * k - m).toNat : Nat) : Int) m) (oM ((2 ^ (-4000 - m).toNat : Nat) : Int)) (oE ((2 ^ (-4000 - m).toNat : Nat) : Int) m) (oM (wnZ (val B) y (2 * k))) (oE (wnZ (val B) y (2 * k)) m) _ w hk
    (fun w' hb => ?_) (fun w' v hv => ?_) (fun w' v u hv hu => ?_) (fun w' v hb hv => ?_)
  · refine (rscale_any false bo cb B y (-(2 * k)) w' (hB.below hb) rb ⟨by1, by2⟩ (by omega)).mono ?_
    rintro e w'' ⟨q, h1, h2, h3⟩
    refine ⟨q, h1, ?_, h3⟩
    rw [sB] at h2
    have h4 : IsLv w'' q (y + -(2 * k)) (val B : Int) := h2
    have h5 := h4.lower (y - 2 * k - m).toNat
    rw [show y + -(2 * k) - ((y - 2 * k - m).toNat : Int) = m by omega, show ((val B : Nat) : Int) * 2 ^ (y - 2 * k - m).toNat = ((val B * 2 ^ (y - 2 * k - m).toNat : Nat) : Int) by rw [Int.natCast_mul, Int.natCast_pow]; rfl] at h5
    exact h5
  · refine (rof_small (-4000) (hv.toM one_TOP11) (by decide) (by decide)).mono ?_
    rintro e w'' ⟨q, h1, h2, h3⟩
    refine ⟨q, h1, ?_, h3⟩
    have h4 : IsLv w'' q (-4000) 1 := h2
    have h5 := h4.lower (-4000 - m).toNat
    rw [show -4000 - ((-4000 - m).toNat : Int) = m by omega, Int.one_mul, show (2 : Int) ^ (-4000 - m).toNat = ((2 ^ (-4000 - m).toNat : Nat) : Int) by rw [Int.natCast_pow]; rfl] at h5
    exact h5
  · have := raddN (W := 15000) hv hu l1 l2
    rwa [hZ] at this
  · obtain ⟨nb, b', c', L, rfl, b1, b2, b3, b4, b5⟩ := hv.right l3.right.2
    have := rcompare_any false nb ao b' ca c' A L x _ w' (hA.below hb) b1 hra (b5.trans l3.right.1)
    rwa [b3, sA] at this

end Go.Proofs.YtfnnbkclnflpfaaGreatDoor

/- Rows of numbers, as they lie in memory. -/
namespace Go.Proofs.YtfnnbkclnflpfaaGreatDoor
open Go.RowKit

/-- A number in memory: its sign, where its limbs lie, the limbs. -/
structure Nm where
  neg : Bool
  ao : Option Addr
  cap : Nat
  L : List Nat

/-- A row in memory: where its numbers lie, the numbers. -/
structure Rw where
  ao : Option Addr
  cap : Nat
  R : List Nm

def Nm.nil : Nm := ⟨false, none, 0, []⟩
def Rw.nil : Rw := ⟨none, 0, []⟩
def nmAt (R : List Nm) (k : Nat) : Nm := R[k]?.getD Nm.nil
def rwAt (M : List Rw) (i : Nat) : Rw := M[i]?.getD Rw.nil
def Nm.v (x : Nm) : Value := .agg #[.bool x.neg, .slice x.ao x.L.length x.cap]
def Rw.v (r : Rw) : Value := .slice r.ao r.R.length r.cap

/-- The numbers R lie at ao. -/
def NumsAt (w : World) (ao : Option Addr) (cap : Nat) (R : List Nm) : Prop :=
  R.length ≤ cap ∧ (∀ x ∈ R, LimbsAt w x.ao x.cap x.L) ∧ (R = [] ∨ ∃ b off, ao = some ⟨b, off, none⟩ ∧ b < w.heap.size ∧ ∀ k, k < R.length → w.cell? ⟨b, off + k * 2, none⟩ = some (.bool (nmAt R k).neg) ∧ w.cell? ⟨b, off + k * 2 + 1, none⟩ = some (.slice (nmAt R k).ao (nmAt R k).L.length (nmAt R k).cap))

/-- The rows M lie at ao. -/
def MatAt (w : World) (ao : Option Addr) (cap : Nat) (M : List Rw) : Prop :=
  M.length ≤ cap ∧ (∀ r ∈ M, NumsAt w r.ao r.cap r.R) ∧ (M = [] ∨ ∃ b off, ao = some ⟨b, off, none⟩ ∧ b < w.heap.size ∧ ∀ i, i < M.length → w.cell? ⟨b, off + i, none⟩ = some (rwAt M i).v)

theorem nmAt_mem {R : List Nm} {k : Nat} (h : k < R.length) : nmAt R k ∈ R := by
  unfold nmAt; rw [List.getElem?_eq_getElem h]; exact List.getElem_mem h
theorem rwAt_mem {M : List Rw} {i : Nat} (h : i < M.length) : rwAt M i ∈ M := by
  unfold rwAt; rw [List.getElem?_eq_getElem h]; exact List.getElem_mem h

theorem NumsAt.below {w w' : World} {ao : Option Addr} {cap : Nat} {R : List Nm} (h : NumsAt w ao cap R) (hb : Below w.heap.size w w') : NumsAt w' ao cap R := by
  refine ⟨h.1, fun x hx => (h.2.1 x hx).below hb, ?_⟩
  rcases h.2.2 with e | ⟨b, off, h1, h2, h3⟩
  · exact .inl e
  · refine .inr ⟨b, off, h1, Nat.lt_of_lt_of_le h2 hb.size, fun k hk => ?_⟩
    rw [hb.cell (p := ⟨b, off + k * 2, none⟩) h2, hb.cell (p := ⟨b, off + k * 2 + 1, none⟩) h2]
    exact h3 k hk

theorem MatAt.below {w w' : World} {ao : Option Addr} {cap : Nat} {M : List Rw} (h : MatAt w ao cap M) (hb : Below w.heap.size w w') : MatAt w' ao cap M := by
  refine ⟨h.1, fun r hr => (h.2.1 r hr).below hb, ?_⟩
  rcases h.2.2 with e | ⟨b, off, h1, h2, h3⟩
  · exact .inl e
  · refine .inr ⟨b, off, h1, Nat.lt_of_lt_of_le h2 hb.size, fun i hi => ?_⟩
    rw [hb.cell (p := ⟨b, off + i, none⟩) h2]
    exact h3 i hi

theorem NumsAt.limbs {w : World} {ao : Option Addr} {cap : Nat} {R : List Nm} (h : NumsAt w ao cap R) {k : Nat} (hk : k < R.length) : LimbsAt w (nmAt R k).ao (nmAt R k).cap (nmAt R k).L := h.2.1 _ (nmAt_mem hk)
theorem MatAt.nums {w : World} {ao : Option Addr} {cap : Nat} {M : List Rw} (h : MatAt w ao cap M) {i : Nat} (hi : i < M.length) : NumsAt w (rwAt M i).ao (rwAt M i).cap (rwAt M i).R := h.2.1 _ (rwAt_mem hi)

theorem NumsAt.ne {w : World} {ao : Option Addr} {cap : Nat} {R : List Nm} (h : NumsAt w ao cap R) (h0 : 0 < R.length) : ∃ b off, ao = some ⟨b, off, none⟩ ∧ b < w.heap.size ∧ ∀ k, k < R.length → w.cell? ⟨b, off + k * 2, none⟩ = some (.bool (nmAt R k).neg) ∧ w.cell? ⟨b, off + k * 2 + 1, none⟩ = some (.slice (nmAt R k).ao (nmAt R k).L.length (nmAt R k).cap) := by
  rcases h.2.2 with e | e
  · rw [e] at h0; simp at h0
  · exact e
theorem MatAt.ne {w : World} {ao : Option Addr} {cap : Nat} {M : List Rw} (h : MatAt w ao cap M) (h0 : 0 < M.length) : ∃ b off, ao = some ⟨b, off, none⟩ ∧ b < w.heap.size ∧ ∀ i, i < M.length → w.cell? ⟨b, off + i, none⟩ = some (.slice (rwAt M i).ao (rwAt M i).R.length (rwAt M i).cap) := by
  rcases h.2.2 with e | e
  · rw [e] at h0; simp at h0
  · exact e

/-- What the rows say. -/
def entry (M : List Rw) (i k : Nat) : Nm := nmAt (rwAt M i).R k
def width (M : List Rw) : Nat := (rwAt M 0).R.length

end Go.Proofs.YtfnnbkclnflpfaaGreatDoor

/- Rows of numbers, and rows of rows, that a call itself makes by appending. -/
namespace Go.Proofs.YtfnnbkclnflpfaaGreatDoor
open Go.RowKit

/-- The number's limbs don't lie in block g. -/
def Av (g : Option Nat) (x : Nm) : Prop := x.L = [] ∨ ∃ b off, x.ao = some ⟨b, off, none⟩ ∧ some b ≠ g
/-- Nothing of the row lies in block g. -/
def AvR (g : Option Nat) (r : Rw) : Prop := (r.R = [] ∨ ∃ b off, r.ao = some ⟨b, off, none⟩ ∧ some b ≠ g) ∧ ∀ x ∈ r.R, Av g x
def numCells (R : List Nm) : List Value := R.flatMap (fun x => [.bool x.neg, .slice x.ao x.L.length x.cap])

theorem Av.none (w : World) (x : Nm) (h : LimbsAt w x.ao x.cap x.L) : Av none x := by
  rcases h.2.2 with e | ⟨b, off, e, _⟩
  · exact .inl e
  · exact .inr ⟨b, off, e, by simp⟩
theorem Av.new {w : World} {x : Nm} (h : LimbsAt w x.ao x.cap x.L) {g : Nat} (hg : w.heap.size ≤ g) : Av (some g) x := by
  rcases h.2.2 with e | ⟨b, off, e, hb, _⟩
  · exact .inl e
  · exact .inr ⟨b, off, e, by intro e; cases e; omega⟩
theorem Av.old {B : Nat} {x : Nm} (h : NewAt B x.ao x.L) {g : Option Nat} (hg : ∀ m, g = some m → m < B) : Av g x := by
  rcases h with e | ⟨b, off, e, hb⟩
  · exact .inl e
  · exact .inr ⟨b, off, e, fun e => by have := hg b e.symm; omega⟩
theorem AvR.new {w : World} {r : Rw} (h : NumsAt w r.ao r.cap r.R) {g : Nat} (hg : w.heap.size ≤ g) : AvR (some g) r := by
  refine ⟨?_, fun x hx => Av.new (h.2.1 x hx) hg⟩
  rcases h.2.2 with e | ⟨b, off, e, hb, _⟩
  · exact .inl e
  · exact .inr ⟨b, off, e, by intro e; cases e; omega⟩
theorem AvR.none {w : World} {r : Rw} (h : NumsAt w r.ao r.cap r.R) : AvR none r := by
  refine ⟨?_, fun x hx => Av.none w x (h.2.1 x hx)⟩
  rcases h.2.2 with e | ⟨b, off, e, hb, _⟩
  · exact .inl e
  · exact .inr ⟨b, off, e, by simp⟩

theorem LimbsAt.grownAv {w w' : World} {x : Nm} {g : Option Nat} (h : LimbsAt w x.ao x.cap x.L) (ha : Av g x) (hg : w.grownBy w' g) : LimbsAt w' x.ao x.cap x.L := by
  refine ⟨h.1, h.2.1, ?_⟩
  rcases h.2.2 with e | ⟨b, off, e, hb, hc⟩
  · exact .inl e
  · rcases ha with e' | ⟨b', off', e', hne⟩
    · exact .inl e'
    · rw [e] at e'
      simp only [Option.some.injEq, Addr.mk.injEq] at e'
      obtain ⟨rfl, rfl, _⟩ := e'
      refine .inr ⟨b, off, e, Nat.lt_of_lt_of_le hb hg.size, fun i hi => ?_⟩
      rw [World.cell?_of_block (a := ⟨b, off + i, none⟩) (hg.block b hb hne)]
      exact hc i hi
theorem NumsAt.grownAv {w w' : World} {r : Rw} {g : Option Nat} (h : NumsAt w r.ao r.cap r.R) (ha : AvR g r) (hg : w.grownBy w' g) : NumsAt w' r.ao r.cap r.R := by
  refine ⟨h.1, fun x hx => (h.2.1 x hx).grownAv (ha.2 x hx) hg, ?_⟩
  rcases h.2.2 with e | ⟨b, off, e, hb, hc⟩
  · exact .inl e
  · rcases ha.1 with e' | ⟨b', off', e', hne⟩
    · exact .inl e'
    · rw [e] at e'
      simp only [Option.some.injEq, Addr.mk.injEq] at e'
      obtain ⟨rfl, rfl, _⟩ := e'
      refine .inr ⟨b, off, e, Nat.lt_of_lt_of_le hb hg.size, fun k hk => ?_⟩
      rw [World.cell?_of_block (a := ⟨b, off + k * 2, none⟩) (hg.block b hb hne), World.cell?_of_block (a := ⟨b, off + k * 2 + 1, none⟩) (hg.block b hb hne)]
      exact hc k hk

/-- v is a row of the call's own, of the numbers R. -/
def OwnNums (base : Nat) (w : World) (v : Value) (R : List Nm) : Prop := w.ownsRow base 27 2 v R.length (numCells R) ∧ ∀ x ∈ R, LimbsAt w x.ao x.cap x.L ∧ Av v.ownBlock x
/-- v is a row of the call's own, of the rows M. -/
def OwnRows (base : Nat) (w : World) (v : Value) (M : List Rw) : Prop := w.ownsRow base 87 1 v M.length (M.map Rw.v) ∧ ∀ r ∈ M, NumsAt w r.ao r.cap r.R ∧ AvR v.ownBlock r

theorem length_numCells (R : List Nm) : (numCells R).length = R.length * 2 := by
  induction R with
  | nil => rfl
  | cons x R ih => simp only [numCells, List.flatMap_cons, List.length_append, List.length_cons, List.length_nil] at ih ⊢; rw [show (List.flatMap (fun x => [Value.bool x.neg, Value.slice x.ao x.L.length x.cap]) R).length = R.length * 2 from ih]; omega
theorem numCells_get : ∀ (R : List Nm) (k : Nat), k < R.length → (numCells R)[k * 2]? = some (.bool (nmAt R k).neg) ∧ (numCells R)[k * 2 + 1]? = some (.slice (nmAt R k).ao (nmAt R k).L.length (nmAt R k).cap)
  | x :: R, 0, _ => by simp [numCells, nmAt]
  | x :: R, k + 1, h => by
    have := numCells_get R k (by simpa using h)
    have e : numCells (x :: R) = .bool x.neg :: .slice x.ao x.L.length x.cap :: numCells R := rfl
    rw [e, show (k + 1) * 2 = k * 2 + 1 + 1 by omega]
    simpa [nmAt] using this

theorem OwnNums.start (w : World) (base : Nat) (hb : base ≤ w.heap.size) : OwnNums base (w.alloc (.cells #[] 27)) (.slice (some ⟨w.heap.size, 0, none⟩) 0 0) [] :=
  ⟨World.ownsRow_made w #[] 0 hb (by simp [maxLen]) (by simp), by simp⟩
theorem OwnRows.start (w : World) (base : Nat) (hb : base ≤ w.heap.size) : OwnRows base (w.alloc (.cells #[] 87)) (.slice (some ⟨w.heap.size, 0, none⟩) 0 0) [] :=
  ⟨World.ownsRow_made w #[] 0 hb (by simp [maxLen]) (by simp), by simp⟩

theorem OwnNums.lt {base : Nat} {w : World} {v : Value} {R : List Nm} (h : OwnNums base w v R) : ∀ k, v.ownBlock = some k → base ≤ k ∧ k < w.heap.size := h.1.lt
theorem OwnRows.lt {base : Nat} {w : World} {v : Value} {M : List Rw} (h : OwnRows base w v M) : ∀ k, v.ownBlock = some k → base ≤ k ∧ k < w.heap.size := h.1.lt

/-- What grows leaves a row alone that lies elsewhere. -/
theorem ownsRow_grown {w w' : World} {base e size n : Nat} {v : Value} {xs : List Value} {g : Option Nat} (h : w.ownsRow base e size v n xs) (hg : w.grownBy w' g) (hne : ∀ k, v.ownBlock = some k → some k ≠ g) : w'.ownsRow base e size v n xs := by
  refine ⟨h.1, ?_⟩
  rcases h.2 with h | ⟨k, cap, cur, hv, hb, hh, hr⟩
  · exact .inl h
  · have hk : k < w.heap.size := (Array.getElem?_eq_some_iff.1 hh).1
    exact .inr ⟨k, cap, cur, hv, hb, (hg.block k hk (hne k (by rw [hv]; rfl))).trans hh, hr⟩
theorem OwnNums.below {base : Nat} {w w' : World} {v : Value} {R : List Nm} (h : OwnNums base w v R) (hb : Below w.heap.size w w') : OwnNums base w' v R :=
  ⟨ownsRow_grown h.1 ⟨hb.os, hb.tape, hb.output, hb.size, fun k hk _ => hb.block k hk⟩ (fun k _ => by simp : ∀ k, v.ownBlock = some k → some k ≠ none), fun x hx => ⟨((h.2 x hx).1).below hb, (h.2 x hx).2⟩⟩
theorem OwnRows.below {base : Nat} {w w' : World} {v : Value} {M : List Rw} (h : OwnRows base w v M) (hb : Below w.heap.size w w') : OwnRows base w' v M :=
  ⟨ownsRow_grown h.1 ⟨hb.os, hb.tape, hb.output, hb.size, fun k hk _ => hb.block k hk⟩ (fun k _ => by simp : ∀ k, v.ownBlock = some k → some k ≠ none), fun x hx => ⟨((h.2 x hx).1).below hb, (h.2 x hx).2⟩⟩
/-- .. and a row of rows, where another row grows that it does not use. -/
theorem OwnRows.grown {base : Nat} {w w' : World} {v : Value} {M : List Rw} {g : Option Nat} (h : OwnRows base w v M) (hg : w.grownBy w' g) (hne : ∀ k, v.ownBlock = some k → some k ≠ g) (hav : ∀ r ∈ M, AvR g r) : OwnRows base w' v M :=
  ⟨ownsRow_grown h.1 hg hne, fun r hr => ⟨((h.2 r hr).1).grownAv (hav r hr) hg, (h.2 r hr).2⟩⟩

/-- What is read there. -/
theorem OwnNums.nums {base : Nat} {w : World} {v : Value} {R : List Nm} (h : OwnNums base w v R) : ∃ ao cap, v = .slice ao R.length cap ∧ NumsAt w ao cap R ∧ NewAt base ao (R.map (fun _ => 0)) := by
  rcases h.1.2 with ⟨hv, h0⟩ | ⟨g, cap, cur, hv, hg, hh, hc, hm, hs, ht⟩
  · have : R = [] := List.length_eq_zero_iff.1 h0
    subst this
    exact ⟨none, 0, hv, ⟨by simp, by simp, .inl rfl⟩, .inl rfl⟩
  · refine ⟨some ⟨g, 0, none⟩, cap, hv, ⟨hc, fun x hx => (h.2 x hx).1, .inr ⟨g, 0, rfl, (Array.getElem?_eq_some_iff.1 hh).1, fun k hk => ?_⟩⟩, .inr ⟨g, 0, rfl, hg⟩⟩
    obtain ⟨q1, q2⟩ := numCells_get R k hk
    rw [← ht, List.getElem?_take] at q1 q2
    rw [if_pos (by omega)] at q1 q2
    rw [cell_of_row w g _ _ _ _ hh, cell_of_row w g _ _ _ _ hh, Nat.zero_add]
    simp only [Array.getElem?_toList] at q1 q2
    exact ⟨q1, q2⟩
theorem OwnRows.mat {base : Nat} {w : World} {v : Value} {M : List Rw} (h : OwnRows base w v M) : ∃ ao cap, v = .slice ao M.length cap ∧ MatAt w ao cap M ∧ NewAt base ao (M.map (fun _ => 0)) := by
  rcases h.1.2 with ⟨hv, h0⟩ | ⟨g, cap, cur, hv, hg, hh, hc, hm, hs, ht⟩
  · have : M = [] := List.length_eq_zero_iff.1 h0
    subst this
    exact ⟨none, 0, hv, ⟨by simp, by simp, .inl rfl⟩, .inl rfl⟩
  · refine ⟨some ⟨g, 0, none⟩, cap, hv, ⟨hc, fun x hx => (h.2 x hx).1, .inr ⟨g, 0, rfl, (Array.getElem?_eq_some_iff.1 hh).1, fun i hi => ?_⟩⟩, .inr ⟨g, 0, rfl, hg⟩⟩
    have q1 : (M.map Rw.v)[i]? = some (rwAt M i).v := by
      rw [List.getElem?_map]
      unfold rwAt
      rw [List.getElem?_eq_getElem hi]; rfl
    rw [← ht, List.getElem?_take, if_pos (by omega)] at q1
    rw [cell_of_row w g _ _ _ _ hh, Nat.zero_add]
    simpa using q1

end Go.Proofs.YtfnnbkclnflpfaaGreatDoor

