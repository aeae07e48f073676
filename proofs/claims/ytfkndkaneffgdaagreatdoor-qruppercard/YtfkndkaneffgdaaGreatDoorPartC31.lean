/- Part 31 of the texts. -/
import Derived.Test.YtfkndkaneffgdaaGreatDoorPartC30
import Derived.Test.YtfkndkaneffgdaaGreatDoorPartC25
import Derived.Test.YtfkndkaneffgdaaGreatDoorPartC28
import Derived.Deep.RegionLaw
import Derived.Test.YtfkndkaneffgdaaGreatDoorPartC24
import Derived.Test.YtfkndkaneffgdaaGreatDoorPartC26
import Derived.Test.YtfkndkaneffgdaaGreatDoorPartC01
import Derived.Test.YtfkndkaneffgdaaGreatDoorPartC23
import Derived.Test.YtfkndkaneffgdaaGreatDoorPartC21
import Derived.Test.YtfkndkaneffgdaaGreatDoorPartC19
import Derived.Test.YtfkndkaneffgdaaGreatDoorPartC22
import Derived.Test.YtfkndkaneffgdaaGreatDoorPartC20
import Derived.Test.YtfkndkaneffgdaaGreatDoorPartC17
import Derived.Test.YtfkndkaneffgdaaGreatDoorPartC13
import Derived.Test.YtfkndkaneffgdaaGreatDoorPartC15
import Derived.Deep.Cut
import Derived.BigQuiet
import Derived.Test.YtfkndkaneffgdaaGreatDoorPartC29
import Derived.Maps.Own
import Derived.Maps.OwnOps
import Derived.Maps.OwnSet
import Derived.DeepKeys4
import Derived.Test.YtfkndkaneffgdaaGreatDoorPartC09
import Derived.WalkSmall
import Derived.Test.YtfkndkaneffgdaaGreatDoorPartC08
import Derived.Lib.BitFns
import Derived.Test.YtfkndkaneffgdaaGreatDoorPartC07
import Derived.OwnWalk
import Derived.Test.YtfkndkaneffgdaaGreatDoorPartC05
import Derived.Test.YtfkndkaneffgdaaGreatDoorPartC02
import Derived.Test.YtfkndkaneffgdaaGreatDoorPartC06
import Derived.Test.YtfkndkaneffgdaaGreatDoorPartC27
import Derived.Deep.RegionHeld3
import Derived.Deep.RegionWith
import Derived.Laws.CopyOwn
/- The factors of a matrix in letters. Ahead of stage 14. -/
namespace Go.Proofs.YtfkndkaneffgdaaGreatDoor

/-- A number on the diagonal, and noughts below it down to row i. -/
def clJ (r c : Nat) (S : List Nat) (j b i : Nat) : List Nat := mkM r c (fun p q => if q = j ∧ j ≤ p ∧ p < i then (if p = j then b else 0) else elM c S p q)
theorem clJ_len (r c : Nat) (S : List Nat) (j b i : Nat) : (clJ r c S j b i).length = r * c := mkM_len _ _ _
theorem clJ_first (r c : Nat) (S : List Nat) {j : Nat} (b : Nat) (h : S.length = r * c) (hj : j < r) (hc : j < c) : S.set (j * c + j) b = clJ r c S j b (j + 1) := by
  have e : S = mkM r c (fun p q => elM c S p q) := by
    conv => lhs; rw [← mkM_of r c S h]
    rfl
  conv => lhs; rw [e]
  rw [mkM_set r c _ _ hj hc]
  unfold clJ
  refine mkM_congr (fun p q _ _ => ?_)
  by_cases g : p = j ∧ q = j
  · rw [if_pos g, if_pos ⟨g.2, by omega, by omega⟩, if_pos g.1]
  · rw [if_neg g, if_neg (fun g2 => g (by omega))]
theorem clJ_set (r c : Nat) (S : List Nat) {j i : Nat} (b : Nat) (hj : j < i) (hi : i < r) (hc : j < c) : (clJ r c S j b i).set (i * c + j) 0 = clJ r c S j b (i + 1) := by
  unfold clJ
  rw [mkM_set r c _ _ hi hc]
  refine mkM_congr (fun p q _ _ => ?_)
  by_cases g : p = i ∧ q = j
  · rw [if_pos g, if_pos ⟨g.2, by omega, by omega⟩, if_neg (by omega)]
  · rw [if_neg g]
    by_cases g2 : q = j ∧ j ≤ p ∧ p < i
    · rw [if_pos g2, if_pos (show q = j ∧ j ≤ p ∧ p < i + 1 by omega)]
    · rw [if_neg g2, if_neg (show ¬ (q = j ∧ j ≤ p ∧ p < i + 1) by omega)]
def clM (r c : Nat) (S : List Nat) (j b : Nat) : List Nat := clJ r c S j b r
theorem clM_len (r c : Nat) (S : List Nat) (j b : Nat) : (clM r c S j b).length = r * c := clJ_len _ _ _ _ _ _

/-- Column j from row j on; is there a mirror of it? -/
def qxL (r c : Nat) (S : List Nat) (j : Nat) : List Nat := colL c S j (r - j) j
theorem qxL_len (r c : Nat) (S : List Nat) (j : Nat) : (qxL r c S j).length = r - j := colL_len _ _ _ _ _
def qrS (r c : Nat) (S : List Nat) (j : Nat) : List Nat := clM r c (apM r c S j j (mrV (qxL r c S j)) (mrT (qxL r c S j))) j (mrB (qxL r c S j))
theorem qrS_len (r c : Nat) (S : List Nat) (j : Nat) : (qrS r c S j).length = r * c := clM_len _ _ _ _ _
def finL (xs : List Nat) : Bool := fnK (mxL xs) xs.length
def qrO (r c : Nat) (S : List Nat) (j : Nat) : Bool := finL (qxL r c S j) && mrK (qxL r c S j)
/-- The matrix behind j steps; the column that step j mirrors; can the first j steps be done? -/
def qrR (r c : Nat) (S : List Nat) : Nat → List Nat
  | 0 => S
  | j + 1 => qrS r c (qrR r c S j) j
def qrX (r c : Nat) (S : List Nat) (j : Nat) : List Nat := qxL r c (qrR r c S j) j
def qrK (r c : Nat) (S : List Nat) : Nat → Bool
  | 0 => true
  | j + 1 => qrK r c S j && qrO r c (qrR r c S j) j
theorem qrR_len (r c : Nat) (S : List Nat) (h : S.length = r * c) : ∀ j, (qrR r c S j).length = r * c
  | 0 => h
  | _ + 1 => qrS_len _ _ _ _
theorem qrX_len (r c : Nat) (S : List Nat) (j : Nat) : (qrX r c S j).length = r - j := qxL_len _ _ _ _
/-- How many mirrors there are. -/
def qrN (r c : Nat) : Nat := min c (r - 1)
theorem qrN_lt (r c j : Nat) : j < qrN r c ↔ (j : Int) < (c : Int) ∧ (j : Int) < (r : Int) - 1 := by
  unfold qrN
  omega
/-- The first factor behind the mirrors from the last down to j (of K). -/
def qrQ (r c : Nat) (S : List Nat) (K : Nat) : Nat → List Nat
  | 0 => eyM r
  | t + 1 => apM r r (qrQ r c S K t) (K - 1 - t) 0 (mrV (qrX r c S (K - 1 - t))) (mrT (qrX r c S (K - 1 - t)))
theorem qrQ_len (r c : Nat) (S : List Nat) (K : Nat) : ∀ t, (qrQ r c S K t).length = r * r
  | 0 => show (eyM r).length = r * r from mkM_len r r _
  | _ + 1 => apM_len _ _ _ _ _ _ _
def facQ (r c : Nat) (S : List Nat) : List Nat := qrQ r c S (qrN r c) (qrN r c)
def facR (r c : Nat) (S : List Nat) : List Nat := qrR r c S (qrN r c)
def facK (r c : Nat) (S : List Nat) : Bool := qrK r c S (qrN r c) && (finL (facQ r c S) && finL (facR r c S))
/-- The second factor has noughts below its diagonal. -/
theorem el_cl (r c : Nat) (S : List Nat) (j b : Nat) {p q : Nat} (hp : p < r) (hq : q < c) : elM c (clM r c S j b) p q = if q = j ∧ j ≤ p ∧ p < r then (if p = j then b else 0) else elM c S p q := by
  unfold clM clJ
  rw [el_mk r c _ hp hq]
theorem qrR_zero (r c : Nat) (S : List Nat) : ∀ (k : Nat) {p q : Nat}, p < r → q < c → q < k → q < p → elM c (qrR r c S k) p q = 0 := by
  intro k
  induction k with
  | zero => intro p q _ _ h _; omega
  | succ k ih =>
    intro p q hp hq hk hqp
    show elM c (clM r c (apM r c (qrR r c S k) k k _ _) k _) p q = 0
    rw [el_cl r c _ k _ hp hq]
    by_cases g : q = k
    · rw [if_pos ⟨g, by omega, hp⟩, if_neg (by omega)]
    · rw [if_neg (fun e => g e.1), el_ap r c _ k k _ _ hp hq, if_neg (fun e => by omega)]
      exact ih hp hq (by omega) hqp

end Go.Proofs.YtfkndkaneffgdaaGreatDoor

/- Package qr: settle. -/
namespace Go.Proofs.YtfkndkaneffgdaaGreatDoor
open Go.RowKit
attribute [local go_sem ↓] Go.wp_at_zero Go.wp_at_succ

theorem grown_trans14 {a w w' : World} {o : Option Nat} (h : a.grownBy w o) (k : w.grownBy w' o) : a.grownBy w' o :=
  ⟨k.os.trans h.os, k.tape.trans h.tape, k.output.trans h.output, Nat.le_trans h.size k.size, fun i hi hr => (k.block i (Nat.lt_of_lt_of_le hi h.size) hr).trans (h.block i hi hr)⟩
theorem grown_below14 {w w' : World} (h : Below w.heap.size w w') (o : Option Nat) : w.grownBy w' o := ⟨h.os, h.tape, h.output, h.size, fun k hk _ => h.block k hk⟩
theorem grown_set14 (w : World) (g j : Nat) (v : Value) : w.grownBy (w.setCell ⟨g, j, none⟩ v) (some g) := by
  have h := (Below.refl w.heap.size w)
  refine ⟨rfl, rfl, rfl, ?_, fun k _ hr => Below.heap_setCell w ⟨g, j, none⟩ v k (fun e => hr (by rw [e]))⟩
  simp [World.setCell]

/-- What holds in settle. -/
structure SeSt (w wr : World) (g r c n : Nat) (S : List Nat) : Prop where
  bel : w.grownBy wr (some g)
  a : BoxM wr w.heap.size (.int .i64 r) (.int .i64 c) (.slice (some ⟨g, 0, none⟩) n n)
  row : RowB wr g S
theorem SeSt.start {w : World} {g n : Nat} {S : List Nat} (h : RowB w g S) (r c : Nat) : SeSt w (w.alloc (.cells #[.int .i64 r, .int .i64 c, .slice (some ⟨g, 0, none⟩) n n] 24)) g r c n S := by
  have b := below_alloc9 w (.cells #[.int .i64 r, .int .i64 c, .slice (some ⟨g, 0, none⟩) n n] 24)
  exact ⟨grown_below14 b _, BoxM.new w _ _ _, h.below b h.lt⟩
theorem SeSt.set {w wr : World} {g r c n : Nat} {S : List Nat} (h : SeSt w wr g r c n S) (hg : g < w.heap.size) (p x : Nat) : SeSt w (wr.setCell ⟨g, p, none⟩ (.int .u64 (x : Int))) g r c n (S.set p x) :=
  ⟨grown_trans14 h.bel (grown_set14 wr g p _), h.a.other (p := ⟨g, p, none⟩) (by show w.heap.size ≠ g; omega) _, h.row.set p x⟩

set_option maxRecDepth 20000 in
set_option maxHeartbeats 4000000 in
theorem settle_of (r c n j beta g p0 : Nat) (S : List Nat) (T : Nat → List Nat) (P : Nat → Nat) (w : World) (h36 : n ≤ 36) (hr : r ≤ 6) (hj : j < r) (h : RowB w g S) (lS : S.length = n) (lT : ∀ i, (T i).length = n)
    (h0 : j * c + j = p0 ∧ p0 < n ∧ S.set p0 beta = T (j + 1)) (hP : ∀ i, j < i → i < r → i * c + j = P i ∧ P i < n ∧ (T i).set (P i) 0 = T (i + 1)) :
    Calls Tryz.prog 44 #[.agg #[.int .i64 r, .int .i64 c, .slice (some ⟨g, 0, none⟩) n n], .int .i64 j, .int .u64 beta] w fun e w' => e = .returned (.tuple #[]) ∧ RowB w' g (T r) ∧ w.grownBy w' (some g) := by
  have HG := hide h.lt
  have ST := hide (SeSt.start (n := n) h r c)
  obtain ⟨q0, hq0⟩ : ∃ q, j * c = q := ⟨_, rfl⟩
  obtain ⟨e0, l0, s0⟩ := h0
  rw [hq0] at e0
  have HP := hide hP; have LT := hide lT
  have e1 : IntKind.i64.wrap ((j : Int) * (c : Int)) = (q0 : Int) := by
    rw [cast_mul10 j c, hq0]
    exact wrap_in _ (by omega)
  have e2 : IntKind.i64.wrap ((q0 : Int) + (j : Int)) = (p0 : Int) := (wrap_in _ (by omega)).trans (by omega)
  have e3 : (j : Int) * (c : Int) = (q0 : Int) := by rw [cast_mul10 j c, hq0]
  have e4 : (q0 : Int) + (j : Int) = (p0 : Int) := by omega
  have w1 : IntKind.i64.wrap (q0 : Int) = (q0 : Int) := wrap_in _ (by omega)
  have w2 : IntKind.i64.wrap (p0 : Int) = (p0 : Int) := wrap_in _ (by omega)
  obtain ⟨j1, hj1⟩ : ∃ j1, j + 1 = j1 := ⟨_, rfl⟩
  have e5 : IntKind.i64.wrap ((j : Int) + 1) = (j1 : Int) := (wrap_in _ (by omega)).trans (by omega)
  have e6 : (j : Int) + 1 = (j1 : Int) := by omega
  have hpI : (p0 : Int) < (n : Int) := by omega
  have y0 := (unhide ST).a.c0; have y1 := (unhide ST).a.c1; have y2 := (unhide ST).a.c2
  have d1 := (unhide ST).row.cell p0 (by rw [lS]; exact l0)
  have f1 := (unhide ST).row.free p0
  have S1 := hide ((unhide ST).set (unhide HG) p0 beta)
  rw [s0, hj1] at S1
  have HJ1 := hide hj1
  clear hP lT h lS s0 hq0 l0 ST hj1
  go_enter Tryz.func44, Tryz.ntmps44
  go_wp2_with fail
  clear y0 y1 y2 d1 f1 e1 e2 e3 e4 e5 e6 w1 w2 hpI
  go_loopw [6] (fun a wr => ∃ i : Nat, j < i ∧ i ≤ r ∧ a = .int .i64 i ∧ Hid (SeSt w wr g r c n (T i))) (fun a _ => r - (intOf a).toNat)
  case atStart => exact ⟨j1, by have := unhide HJ1; omega, by have := unhide HJ1; omega, by first | rfl | go_num, S1⟩
  case round =>
    clear S1
    obtain ⟨i, hji, hir, rfl, hS⟩ := hrel
    have y0 := (unhide hS).a.c0
    by_cases hlt : i < r
    · have hiI : (i : Int) < (r : Int) := by omega
      obtain ⟨e0, l0, s0⟩ := unhide HP i hji hlt
      have y1 := (unhide hS).a.c1; have y2 := (unhide hS).a.c2
      obtain ⟨q, hq⟩ : ∃ q, i * c = q := ⟨_, rfl⟩
      rw [hq] at e0
      have e1 : IntKind.i64.wrap ((i : Int) * (c : Int)) = (q : Int) := by
        rw [cast_mul10 i c, hq]
        exact wrap_in _ (by omega)
      have e2 : IntKind.i64.wrap ((q : Int) + (j : Int)) = (P i : Int) := (wrap_in _ (by omega)).trans (by omega)
      have e3 : (i : Int) * (c : Int) = (q : Int) := by rw [cast_mul10 i c, hq]
      have e4 : (q : Int) + (j : Int) = (P i : Int) := by omega
      have w1 : IntKind.i64.wrap (q : Int) = (q : Int) := wrap_in _ (by omega)
      have w2 : IntKind.i64.wrap (P i : Int) = (P i : Int) := wrap_in _ (by omega)
      have hpI : (P i : Int) < (n : Int) := by omega
      have d1 := (unhide hS).row.cell (P i) (by rw [unhide LT]; exact l0)
      have f1 := (unhide hS).row.free (P i)
      have S2 := hide ((unhide hS).set (unhide HG) (P i) 0)
      rw [s0] at S2
      generalize P i = p at *
      clear hS s0 hq l0
      go_wp2_with fail
      go_round
      case rel => exact ⟨i + 1, by omega, by omega, by go_num, S2⟩
      case measure => simp [intOf]; omega
    · have hii : i = r := by omega
      subst hii
      go_wp2
      first | go_end0 | refine bodyPost_ret (results_none rfl _ _ _) rfl ?_
      exact ⟨rfl, (unhide hS).row, (unhide hS).bel⟩

theorem settle_any (r c j beta g : Nat) (S : List Nat) (w : World) (hr : r ≤ 6) (hc : c ≤ 6) (hj : j < r) (hjc : j < c) (lS : S.length = r * c) (h : RowB w g S) :
    Calls Tryz.prog 44 #[.agg #[.int .i64 r, .int .i64 c, .slice (some ⟨g, 0, none⟩) S.length S.length], .int .i64 j, .int .u64 beta] w fun e w' => e = .returned (.tuple #[]) ∧ RowB w' g (clM r c S j beta) ∧ w.grownBy w' (some g) := by
  have h36 : S.length ≤ 36 := by
    rw [lS]
    exact Nat.mul_le_mul hr hc
  refine settle_of r c S.length j beta g (j * c + j) S (clJ r c S j beta) (fun i => i * c + j) w h36 hr hj h rfl (fun i => by rw [clJ_len, lS]) ⟨rfl, by rw [lS]; exact place_lt hj hjc, clJ_first r c S beta lS hj hjc⟩ (fun i hji hir => ⟨rfl, by rw [lS]; exact place_lt hir hjc, clJ_set r c S beta hji hir hjc⟩)

end Go.Proofs.YtfkndkaneffgdaaGreatDoor

/- The reference of layer 14: Factor, by letters. Ahead of stage 14. -/
namespace Go.Proofs.YtfkndkaneffgdaaGreatDoor
open Go.RowKit
attribute [local go_sem ↓] Go.wp_at_zero Go.wp_at_succ

/-- A list that does not lie in a block. -/
def OffB (g : Option Nat) (ao : Option Addr) (I : List Int) : Prop := I = [] ∨ ∃ b off, ao = some ⟨b, off, none⟩ ∧ some b ≠ g
theorem OffB.new {H : Nat} {ao : Option Addr} {I : List Int} (h : NewB H ao I) {g : Option Nat} (hg : ∀ k, g = some k → k < H) : OffB g ao I := by
  rcases h with e | ⟨b, off, e1, e2⟩
  · exact .inl e
  · exact .inr ⟨b, off, e1, fun e => by have := hg b e.symm; omega⟩
theorem OffB.old {w : World} {ao : Option Addr} {c : Nat} {I : List Int} (h : BitsAt w ao c I) {g : Option Nat} (hg : ∀ k, g = some k → w.heap.size ≤ k) : OffB g ao I := by
  rcases h.2.2 with e | ⟨b, off, e1, e2, _⟩
  · exact .inl e
  · exact .inr ⟨b, off, e1, fun e => by have := hg b e.symm; omega⟩
theorem bits_grownOff {w w' : World} {ao : Option Addr} {c : Nat} {I : List Int} {g : Option Nat} (h : BitsAt w ao c I) (ha : OffB g ao I) (hg : w.grownBy w' g) : BitsAt w' ao c I := by
  refine ⟨h.1, h.2.1, ?_⟩
  rcases h.2.2 with e | ⟨b, off, e, hb, hc⟩
  · exact .inl e
  · rcases ha with e' | ⟨b', off', e', hne⟩
    · exact .inl e'
    · rw [e] at e'
      simp only [Option.some.injEq, Addr.mk.injEq] at e'
      obtain ⟨rfl, rfl, _⟩ := e'
      refine .inr ⟨b, off, e, Nat.lt_of_lt_of_le hb hg.size, fun i hi => ?_⟩
      rw [World.cell?_of_block (a := ⟨b, off + i, none⟩) (hg.block b hb hne)]
      exact hc i hi

end Go.Proofs.YtfkndkaneffgdaaGreatDoor

/- Package plain: operations without their flags; package givens: place, rowOf, columnOf, check, turnedPair. -/
namespace Go.Proofs.YtfkndkaneffgdaaGreatDoor
open Go.RowKit
attribute [local go_sem ↓] Go.wp_at_zero Go.wp_at_succ

set_option maxRecDepth 20000 in
set_option maxHeartbeats 2000000 in
theorem psub_any (a b : Nat) (w : World) (ha : a < 18446744073709551616) (hb : b < 18446744073709551616) (hT : Tab w) :
    Calls Tryz.prog 73 #[.int .u64 a, .int .u64 b] w fun r w' => r = .returned (.int .u64 (aV a (fN b) : Nat)) ∧ Below w.heap.size w w' := by
  have K := hide (ssub_any a b w ha hb hT)
  clear ha hb hT
  generalize aV a (fN b) = o at *
  generalize aF a (fN b) = f at *
  go_enter Tryz.func73, Tryz.ntmps73
  go_wp2_with fail
  refine Calls.mono (unhide K) ?_
  rintro e w1 ⟨rfl, hb1⟩
  clear K
  go_wp2
  go_ret
  exact ⟨rfl, hb1⟩

set_option maxRecDepth 20000 in
set_option maxHeartbeats 2000000 in
theorem pdiv_any (a b : Nat) (w : World) (ha : a < 18446744073709551616) (hb : b < 18446744073709551616) (hT : Tab w) :
    Calls Tryz.prog 75 #[.int .u64 a, .int .u64 b] w fun r w' => r = .returned (.int .u64 (dV a b : Nat)) ∧ Below w.heap.size w w' := by
  have K := hide (tdiv_any a b w ha hb hT)
  clear ha hb hT
  generalize dV a b = o at *
  generalize dF a b = f at *
  go_enter Tryz.func75, Tryz.ntmps75
  go_wp2_with fail
  refine Calls.mono (unhide K) ?_
  rintro e w1 ⟨rfl, hb1⟩
  clear K
  go_wp2
  go_ret
  exact ⟨rfl, hb1⟩

end Go.Proofs.YtfkndkaneffgdaaGreatDoor

/- Package givens: turned. -/
namespace Go.Proofs.YtfkndkaneffgdaaGreatDoor
open Go.RowKit
attribute [local go_sem ↓] Go.wp_at_zero Go.wp_at_succ

theorem RowB.three {w : World} {b g : Nat} {S : List Nat} (h : RowB w b S) (hg : b ≠ g) (u u' u'' : Value) : RowB (((w.setCell ⟨g, 0, none⟩ u).setCell ⟨g, 1, none⟩ u').setCell ⟨g, 2, none⟩ u'') b S := by
  unfold RowB
  rw [Below.heap_setCell _ ⟨g, 2, none⟩ u'' b hg, Below.heap_setCell _ ⟨g, 1, none⟩ u' b hg, Below.heap_setCell _ ⟨g, 0, none⟩ u b hg]
  exact h
/-- What copy leaves of a list of numbers in a row that was made. -/
theorem copy_run (W : World) (g n cap : Nat) (ao : Option Addr) (S : List Nat) (h : RowB W g (List.replicate n 0)) (hS : BitsAt W ao cap (mxL S)) (hl : S.length = n) :
    ∃ w', (∀ ty, (Builtin.copy_ #[22, 22] ty #[.slice (some ⟨g, 0, none⟩) n n, .slice ao n cap]).run Tryz.prog W = .ok (.int .i64 (n : Int)) w') ∧ RowB w' g S ∧ Below g W w' := by
  rcases Nat.eq_zero_or_pos n with e | e
  · subst e
    obtain rfl : S = [] := List.eq_nil_of_length_eq_zero hl
    exact ⟨W, fun ty => run_copy_none W _ _ ty 30 _ _ 0 0 0 cap Tryz.underlying22 (by kernel_rfl) rfl, h, Below.refl _ _⟩
  · obtain ⟨b, off, rfl, hb, hc⟩ := hS.ne (by rw [mxL_len]; omega)
    have hcs : ∀ j v, (S.map bitV)[j]? = some v → W.cell? ((⟨b, off, none⟩ : Addr).add j) = some v := by
      intro j v hv
      rw [List.getElem?_map] at hv
      obtain ⟨x, hx, rfl⟩ := Option.map_eq_some_iff.1 hv
      have hj : j < S.length := (List.getElem?_eq_some_iff.1 hx).1
      have := hc j (by rw [mxL_len]; exact hj)
      rw [mxL_at] at this
      rw [show (⟨b, off, none⟩ : Addr).add j = ⟨b, off + j, none⟩ from by simp [Addr.add], this]
      rw [List.getD_eq_getElem?_getD, hx]
      rfl
    have hlen : (S.map bitV).length = n := by rw [List.length_map, hl]
    have run := fun ty => run_copy_row Tryz.prog W 22 22 ty 30 g 0 n n ⟨b, off, none⟩ n cap ((List.replicate n 0).map bitV).toArray 30 (S.map bitV) Tryz.underlying22 (by kernel_rfl) h (by rw [hlen]; exact (Nat.min_self n).symm) hcs (by rw [hlen]; simp) (fun v hv => by obtain ⟨x, _, rfl⟩ := List.mem_map.1 hv; rfl)
    refine ⟨_, fun ty => (run ty).trans (by rw [hlen]; rfl), ?_, below_setRow (Below.refl _ _) (Nat.le_refl _) _⟩
    unfold RowB
    rw [setRow_heap W g _ _ 30 _ h]
    congr 3
    simp

end Go.Proofs.YtfkndkaneffgdaaGreatDoor

