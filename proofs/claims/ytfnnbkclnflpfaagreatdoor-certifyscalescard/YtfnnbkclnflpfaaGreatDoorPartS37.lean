/- Part 37 of the texts. -/
import Derived.Test.YtfnnbkclnflpfaaGreatDoorPartS36
import Derived.Test.YtfnnbkclnflpfaaGreatDoorPartS35
import Derived.Test.YtfnnbkclnflpfaaGreatDoorPartS31
import Derived.Test.YtfnnbkclnflpfaaGreatDoorPartS08
import Derived.Test.YtfnnbkclnflpfaaGreatDoorPartS23
import Derived.Test.YtfnnbkclnflpfaaGreatDoorPartS32
import Derived.Deep.Cut
import Derived.Test.YtfnnbkclnflpfaaGreatDoorPartS26
import Derived.Test.YtfnnbkclnflpfaaGreatDoorPartS22
import Derived.Test.YtfnnbkclnflpfaaGreatDoorPartS24
import Derived.Test.YtfnnbkclnflpfaaGreatDoorPartS30
import Derived.Test.YtfnnbkclnflpfaaGreatDoorPartS21
/- Rows in a block of the call's own, row by row overwritten, and what they are (for the reference's Rank). -/
namespace Go.Proofs.YtfnnbkclnflpfaaGreatDoor
open Go.RowKit
/-- Block g holds the rows N, of the numbers a. -/
def NxAt (w W : World) (g cp m n K : Nat) (N : List Rw) (a : Nat → Nat → Int) : Prop :=
  N.length = m ∧ w.heap.size ≤ g ∧ m ≤ cp ∧ (∃ cur, W.heap[g]? = some (.cells cur 87 (0, 0)) ∧ ∀ i, i < m → cur[i]? = some (rwAt N i).v) ∧
  (∀ i, i < m → NumsAt W (rwAt N i).ao (rwAt N i).cap (rwAt N i).R ∧ AvR (some g) (rwAt N i) ∧ (rwAt N i).R.length = n ∧ ∀ c, c < n → IsNm W (nmAt (rwAt N i).R c) (a i c) ∧ (a i c).natAbs < 2 ^ K) ∧ Below w.heap.size w W

theorem NxAt.below {w W W' : World} {g cp m n K : Nat} {N : List Rw} {a : Nat → Nat → Int} (h : NxAt w W g cp m n K N a) (hb : Below W.heap.size W W') : NxAt w W' g cp m n K N a := by
  obtain ⟨h1, h2, h3, ⟨cur, h4, h5⟩, h6, h7⟩ := h
  have hg : g < W.heap.size := (Array.getElem?_eq_some_iff.1 h4).1
  exact ⟨h1, h2, h3, ⟨cur, (hb.block g hg).trans h4, h5⟩, fun i hi => ⟨(h6 i hi).1.below hb, (h6 i hi).2.1, (h6 i hi).2.2.1, fun c hc => ⟨((h6 i hi).2.2.2 c hc).1.below hb, ((h6 i hi).2.2.2 c hc).2⟩⟩, h7.trans (hb.mono h7.size)⟩

theorem NxAt.congr {w W : World} {g cp m n K K' : Nat} {N : List Rw} {a a' : Nat → Nat → Int} (h : NxAt w W g cp m n K N a) (he : ∀ i, i < m → a i = a' i) (hK : K ≤ K') : NxAt w W g cp m n K' N a' := by
  obtain ⟨h1, h2, h3, h4, h6, h7⟩ := h
  exact ⟨h1, h2, h3, h4, fun i hi => ⟨(h6 i hi).1, (h6 i hi).2.1, (h6 i hi).2.2.1, fun c hc => by
    rw [← he i hi]
    exact ⟨((h6 i hi).2.2.2 c hc).1, Nat.lt_of_lt_of_le ((h6 i hi).2.2.2 c hc).2 (Nat.pow_le_pow_right (by decide) hK)⟩⟩, h7⟩

theorem NxAt.cell {w W : World} {g cp m n K : Nat} {N : List Rw} {a : Nat → Nat → Int} (h : NxAt w W g cp m n K N a) {i : Nat} (hi : i < m) : W.cell? ⟨g, i, none⟩ = some (.slice (rwAt N i).ao (rwAt N i).R.length (rwAt N i).cap) := by
  obtain ⟨h1, h2, h3, ⟨cur, h4, h5⟩, h6, h7⟩ := h
  rw [cell_of_row W g i _ _ _ h4, h5 i hi]; rfl
theorem NxAt.lt {w W : World} {g cp m n K : Nat} {N : List Rw} {a : Nat → Nat → Int} (h : NxAt w W g cp m n K N a) : g < W.heap.size := by
  obtain ⟨h1, h2, h3, ⟨cur, h4, h5⟩, h6, h7⟩ := h
  exact (Array.getElem?_eq_some_iff.1 h4).1

end Go.Proofs.YtfnnbkclnflpfaaGreatDoor

/- The reference of layer 11: Rank. -/
namespace Go.Proofs.YtfnnbkclnflpfaaGreatDoor
open Go.RowKit
attribute [local go_sem ↓] Go.wp_at_zero Go.wp_at_succ
/-- What holds in the reference's Rank: the matrix's box, the rows. -/
def RkO (w wr : World) (r c n cap : Nat) (ao : Option Addr) (v : Value) (M : List Rw) : Prop :=
  BoxM wr w.heap.size (.int .i64 r) (.int .i64 c) (.slice ao n cap) ∧ OwnRows (w.heap.size + 1) wr v M ∧ Clear wr v ∧ Below w.heap.size w wr
/-- Inside: a row, besides; all else lies below B. -/
def RkI (w : World) (B : Nat) (wr : World) (r c n cap : Nat) (ao : Option Addr) (v u : Value) (M : List Rw) (R : List Nm) : Prop :=
  RkO w wr r c n cap ao v M ∧ OwnNums B wr u R ∧ Clear wr u ∧ w.heap.size + 1 ≤ B ∧ B ≤ wr.heap.size ∧ (∀ m, v.ownBlock = some m → m < B) ∧ ∀ x ∈ M, x.R = [] ∨ ∃ b off, x.ao = some ⟨b, off, none⟩ ∧ b < B
theorem RkO.all {w wr w' : World} {r c n cap : Nat} {ao : Option Addr} {v : Value} {M : List Rw} (h : RkO w wr r c n cap ao v M) (hb : Below wr.heap.size wr w') : RkO w w' r c n cap ao v M :=
  ⟨h.1.all hb, h.2.1.below hb, h.2.2.1.below hb, h.2.2.2.trans (hb.mono h.2.2.2.size)⟩
theorem RkI.all {w : World} {B : Nat} {wr w' : World} {r c n cap : Nat} {ao : Option Addr} {v u : Value} {M : List Rw} {R : List Nm} (h : RkI w B wr r c n cap ao v u M R) (hb : Below wr.heap.size wr w') : RkI w B w' r c n cap ao v u M R :=
  ⟨h.1.all hb, h.2.1.below hb, h.2.2.1.below hb, h.2.2.2.1, Nat.le_trans h.2.2.2.2.1 hb.size, h.2.2.2.2.2⟩
end Go.Proofs.YtfnnbkclnflpfaaGreatDoor

/- What is reckoned place by place, and what is known of lists. -/
namespace Go.Proofs.YtfnnbkclnflpfaaGreatDoor
open Go.RowKit
theorem tame_fn (I : List Int) (K : Int) (h : tmK K I I.length = true) : fnK I I.length = true := by
  have : ∀ n, tmK K I n = true → fnK I n = true := by
    intro n
    induction n with
    | zero => intro _; rfl
    | succ n ih =>
      intro h
      have h' : (tmK K I n && tmB K (atB I n)) = true := h
      rw [Bool.and_eq_true] at h'
      show (fnK I n && fFin (atB I n)) = true
      have h2 := h'.2
      unfold tmB at h2
      rw [Bool.and_eq_true] at h2
      rw [ih h'.1, h2.1]
      rfl
  exact this _ h

end Go.Proofs.YtfnnbkclnflpfaaGreatDoor

/- The mathematics of a row times a power of two, and of a turned matrix (ahead of CertifyRanks, CertifyScales). -/
namespace Go.Proofs.YtfnnbkclnflpfaaGreatDoor

/-- The matrix, row x times a power of two in its first j places. -/
def scM (r c : Nat) (S : List Nat) (x : Nat) (k : Int) (j : Nat) : List Nat := mkM r c (fun p q => if p = x ∧ q < j then xV (elM c S p q) k else elM c S p q)
theorem scM_0 (r c : Nat) (S : List Nat) (x : Nat) (k : Int) (h : S.length = r * c) : scM r c S x k 0 = S := by
  unfold scM
  rw [← mkM_of r c S h]
  refine mkM_congr (fun p q hp hq => ?_)
  rw [mkM_of r c S h, if_neg (by omega)]
  rfl
theorem scM_at (r c : Nat) (S : List Nat) (x : Nat) (k : Int) (j : Nat) (hx : x < r) (hj : j < c) : (scM r c S x k j).getD (x * c + j) 0 = elM c S x j := by
  unfold scM
  rw [mkM_atD r c _ hx hj, if_neg (by omega)]
theorem scM_set (r c : Nat) (S : List Nat) (x : Nat) (k : Int) (j : Nat) (hx : x < r) (hj : j < c) : (scM r c S x k j).set (x * c + j) (xV (elM c S x j) k) = scM r c S x k (j + 1) := by
  unfold scM
  rw [mkM_set r c _ _ hx hj]
  refine mkM_congr (fun p q _ _ => ?_)
  by_cases h : p = x ∧ q = j
  · rw [if_pos h, if_pos (by omega), h.1, h.2]
  · rw [if_neg h]
    by_cases e : p = x ∧ q < j
    · rw [if_pos e, if_pos (by omega)]
    · rw [if_neg e, if_neg (by omega)]
theorem scM_len (r c : Nat) (S : List Nat) (x : Nat) (k : Int) (j : Nat) : (scM r c S x k j).length = r * c := mkM_len _ _ _

theorem p2_int (n : Nat) : p2 (n : Int) = ((2 ^ n : Int) : Rat) := by
  unfold p2
  rw [Rat.zpow_natCast]
  simp
theorem p2_up {k : Int} (hk : 0 ≤ k) : p2 k = ((2 ^ k.toNat : Int) : Rat) := by
  obtain ⟨n, rfl⟩ : ∃ n : Nat, k = (n : Int) := ⟨k.toNat, by omega⟩
  rw [Int.toNat_natCast]
  exact p2_int n
/-- A number times a power of two, in units of the least one. -/
theorem fZ_scaled {a : Nat} {k : Int} (h : fQ (xV a k) = fQ a * p2 k) : (0 ≤ k → fZ (xV a k) = 2 ^ k.toNat * fZ a) ∧ (k < 0 → fZ a = 2 ^ (-k).toNat * fZ (xV a k)) := by
  have hp := p2_pos (-1074)
  have e : (fZ (xV a k) : Rat) = (fZ a : Rat) * p2 k := by
    unfold fQ at h
    have h2 : ((fZ (xV a k) : Rat) - (fZ a : Rat) * p2 k) * p2 (-1074) = 0 := by grind
    rcases Rat.mul_eq_zero.1 h2 with g | g
    · grind
    · grind
  constructor
  · intro hk
    have ek : p2 k = ((2 ^ k.toNat : Int) : Rat) := p2_up hk
    rw [ek] at e
    have : ((fZ (xV a k) : Int) : Rat) = ((fZ a * 2 ^ k.toNat : Int) : Rat) := by rw [e, Rat.intCast_mul]
    rw [Rat.intCast_inj] at this
    rw [this, Int.mul_comm]
  · intro hk
    have ek : p2 (-k) = ((2 ^ (-k).toNat : Int) : Rat) := p2_up (by omega)
    have e2 : (fZ a : Rat) = (fZ (xV a k) : Rat) * p2 (-k) := by
      rw [e, Rat.mul_assoc, ← p2_add, show k + -k = 0 by omega, p2_0, Rat.mul_one]
    rw [ek] at e2
    have : ((fZ a : Int) : Rat) = ((fZ (xV a k) * 2 ^ (-k).toNat : Int) : Rat) := by rw [e2, Rat.intCast_mul]
    rw [Rat.intCast_inj] at this
    rw [this, Int.mul_comm]

theorem el_sc (r c : Nat) (S : List Nat) (x : Nat) (k : Int) {p q : Nat} (hp : p < r) (hq : q < c) : elM c (scM r c S x k c) p q = if p = x then xV (elM c S p q) k else elM c S p q := by
  unfold scM
  rw [el_mk r c _ hp hq]
  by_cases h : p = x
  · rw [if_pos ⟨h, hq⟩, if_pos h]
  · rw [if_neg (fun g => h g.1), if_neg h]

/-- A row times a power of two keeps the rank. -/
theorem rank_scaled {r c m : Nat} {S : List Nat} {x : Nat} {k : Int} (hx : x < r) (h : ∀ q, q < c → fQ (xV (elM c S x q) k) = fQ (elM c S x q) * p2 k) :
    IsRank m (fun i q => fZ (elM c S i q)) r c ↔ IsRank m (fun i q => fZ (elM c (scM r c S x k c) i q)) r c := by
  have hpow : ∀ n : Nat, (2 : Int) ^ n ≠ 0 := fun n => Int.ne_of_gt (Int.pow_pos (by decide))
  rcases Int.lt_or_le k 0 with hk | hk
  · have e1 : IsRank m (fun i q => (if i = x then (2 : Int) ^ (-k).toNat else 1) * fZ (elM c (scM r c S x k c) i q)) r c ↔ IsRank m (fun i q => fZ (elM c S i q)) r c := by
      have : ∀ i q, i < r → q < c → (if i = x then (2 : Int) ^ (-k).toNat else 1) * fZ (elM c (scM r c S x k c) i q) = fZ (elM c S i q) := fun i q hi hq => by
        rw [el_sc r c S x k hi hq]
        by_cases e : i = x
        · subst e
          rw [if_pos rfl, if_pos rfl]
          exact ((fZ_scaled (h q hq)).2 hk).symm
        · rw [if_neg e, if_neg e, Int.one_mul]
      exact ⟨rank_congr this, rank_congr (fun i q hi hq => (this i q hi hq).symm)⟩
    rw [← e1]
    exact (rank_sc (fun i => if i = x then (2 : Int) ^ (-k).toNat else 1) (by omega) (fun i _ => by
      by_cases e : i = x
      · rw [if_pos e]; exact hpow _
      · rw [if_neg e]; decide) (fun i _ q => rfl)).symm
  · have e1 : IsRank m (fun i q => (if i = x then (2 : Int) ^ k.toNat else 1) * fZ (elM c S i q)) r c ↔ IsRank m (fun i q => fZ (elM c (scM r c S x k c) i q)) r c := by
      have : ∀ i q, i < r → q < c → (if i = x then (2 : Int) ^ k.toNat else 1) * fZ (elM c S i q) = fZ (elM c (scM r c S x k c) i q) := fun i q hi hq => by
        rw [el_sc r c S x k hi hq]
        by_cases e : i = x
        · subst e
          rw [if_pos rfl, if_pos rfl]
          exact ((fZ_scaled (h q hq)).1 hk).symm
        · rw [if_neg e, if_neg e, Int.one_mul]
      exact ⟨rank_congr this, rank_congr (fun i q hi hq => (this i q hi hq).symm)⟩
    rw [← e1]
    exact rank_sc (fun i => if i = x then (2 : Int) ^ k.toNat else 1) (by omega) (fun i _ => by
      by_cases e : i = x
      · rw [if_pos e]; exact hpow _
      · rw [if_neg e]; decide) (fun i _ q => rfl)

end Go.Proofs.YtfnnbkclnflpfaaGreatDoor

/- The law CertifyScales, walked. -/
namespace Go.Proofs.YtfnnbkclnflpfaaGreatDoor
open Go.RowKit
attribute [local go_sem ↓] Go.wp_at_zero Go.wp_at_succ

/-- What holds in the loop: the matrix's box, the copy's, the copy's row of its own. -/
def XsSt (w wr : World) (gx r c n cap : Nat) (ao po : Option Addr) (pc : Nat) (T : List Nat) : Prop :=
  BoxM wr w.heap.size (.int .i64 r) (.int .i64 c) (.slice ao n cap) ∧ BoxM wr gx (.int .i64 r) (.int .i64 c) (.slice po n pc) ∧ OwnB (w.heap.size + 1) wr (.slice po n pc) T ∧ T.length = n ∧ (∀ g, po = some ⟨g, 0, none⟩ → g < gx) ∧ Below w.heap.size w wr
theorem XsSt.all {w wr w' : World} {gx r c n cap : Nat} {ao po : Option Addr} {pc : Nat} {T : List Nat} (h : XsSt w wr gx r c n cap ao po pc T) (hb : Below wr.heap.size wr w') : XsSt w w' gx r c n cap ao po pc T :=
  ⟨h.1.all hb, h.2.1.all hb, h.2.2.1.below hb, h.2.2.2.1, h.2.2.2.2.1, h.2.2.2.2.2.trans (hb.mono h.2.2.2.2.2.size)⟩
theorem XsSt.at {w wr : World} {gx r c n cap : Nat} {ao po : Option Addr} {pc : Nat} {T : List Nat} (h : XsSt w wr gx r c n cap ao po pc T) {j : Nat} (hj : j < n) :
    ∃ g, po = some ⟨g, 0, none⟩ ∧ wr.cell? ⟨g, j, none⟩ = some (.int .u64 (T.getD j 0 : Nat)) ∧ wr.frozen? ⟨g, j, none⟩ = false ∧
      ∀ x, x < 18446744073709551616 → XsSt w (wr.setCell ⟨g, j, none⟩ (.int .u64 (x : Nat))) gx r c n cap ao po pc (T.set j x) := by
  obtain ⟨h1, h2, h3, h4, h5, h6⟩ := h
  obtain ⟨g, e1, hg, hl, cx, fx, put⟩ := h3.at (j := j) (by omega)
  have hgx := h5 g e1
  exact ⟨g, e1, cx, fx, fun x hx => ⟨h1.other (p := ⟨g, j, none⟩) (show w.heap.size ≠ g by omega) _, h2.other (p := ⟨g, j, none⟩) (show gx ≠ g by omega) _, put x hx, by simpa using h4, h5, h6.setCell (p := ⟨g, j, none⟩) (show w.heap.size ≤ g by omega) _⟩⟩
theorem XsSt.bits {w wr : World} {gx r c n cap : Nat} {ao po : Option Addr} {pc : Nat} {T : List Nat} (h : XsSt w wr gx r c n cap ao po pc T) : BitsAt wr po pc (mxL T) := by
  obtain ⟨a, d, e, q⟩ := h.2.2.1.bits
  cases e
  exact q

set_option maxRecDepth 20000 in
set_option maxHeartbeats 4000000 in
theorem certifyScales_no (r c i k : Int) (ao : Option Addr) (n cap : Nat) (w : World) (tb : Bool) (ht : tb = false ∨ (tb = true ∧ r = 0))
    (C1 : ∀ w', Below w.heap.size w w' → Calls Tryz.prog 25 #[.agg #[.int .i64 r, .int .i64 c, .slice ao n cap], .int .i64 100] w' fun e w'' => e = .returned (.bool tb) ∧ Below w'.heap.size w' w'')
    (CA : ∀ w', Below w.heap.size w w' → Calls Tryz.prog 14 #[] w' fun e w'' => e = .returned (.bool true) ∧ Below w'.heap.size w' w'') :
    Calls Tryz.prog 8 #[.agg #[.int .i64 r, .int .i64 c, .slice ao n cap], .int .i64 i, .int .i64 k] w fun e w' => e = .returned (.bool true) ∧ Below w.heap.size w w' := by
  have K1 := hide C1; have KA := hide CA
  have ST := hide (show BoxM _ w.heap.size (.int .i64 r) (.int .i64 c) (.slice ao n cap) ∧ Below w.heap.size w _ from ⟨BoxM.new w (.int .i64 r) (.int .i64 c) (.slice ao n cap), below_alloc9 w (.cells #[.int .i64 r, .int .i64 c, .slice ao n cap] 24)⟩)
  have y0 := (unhide ST).1.c0; have y1 := (unhide ST).1.c1; have y2 := (unhide ST).1.c2
  clear C1 CA
  rcases ht with rfl | ⟨rfl, rfl⟩
  all_goals
    go_enter Tryz.func8, Tryz.ntmps8
    go_wp2_with fail
    refine (unhide K1 _ (unhide ST).2).mono ?_
    rintro e w1 ⟨rfl, hb1⟩
    have X1 := (unhide ST).1.all hb1
    have BB := hide ((unhide ST).2.trans (hb1.mono (unhide ST).2.size))
    clear hb1 K1 y0 y1 y2 ST
    have y0 := X1.c0
    clear X1
    go_wp2_with fail
    refine (unhide KA _ (unhide BB)).mono ?_
    rintro e w7 ⟨rfl, hb1⟩
    replace BB := hide ((unhide BB).trans (hb1.mono (unhide BB).size))
    clear hb1 KA
    go_wp2
    go_ret
    exact ⟨rfl, unhide BB⟩

set_option maxRecDepth 20000 in
set_option maxHeartbeats 16000000 in
theorem certifyScales_ok (r c n cap x q : Nat) (ao : Option Addr) (i k kk : Int) (S : Nat → List Nat) (v y : Nat → Nat) (Z : Nat → Prop) (w : World) (hr : 0 < r) (hr6 : r ≤ 6) (hc : c ≤ 6) (hn : n ≤ 36) (hx : x < r) (hq : (x : Int) * (c : Int) = (q : Int)) (hqn : q + c ≤ n)
    (hi : (IntKind.u64.wrap i).tmod (r : Int) = (x : Int)) (hk : wrap64 (wrap64 ((IntKind.u64.wrap k).tmod 201) - 100) = kk) (hU : ∀ a b, Z a → Z b → a = b) (hS : ∀ j, j < c → (S j).getD (q + j) 0 = v j ∧ (S j).set (q + j) (y j) = S (j + 1) ∧ y j < 18446744073709551616)
    (C1 : ∀ w', Below w.heap.size w w' → Calls Tryz.prog 25 #[.agg #[.int .i64 r, .int .i64 c, .slice ao n cap], .int .i64 100] w' fun e w'' => e = .returned (.bool true) ∧ Below w'.heap.size w' w'')
    (C2 : ∀ w', Below w.heap.size w w' → Calls Tryz.prog 31 #[.agg #[.int .i64 r, .int .i64 c, .slice ao n cap]] w' fun e w'' => ∃ po pc, e = .returned (.agg #[.int .i64 r, .int .i64 c, .slice po n pc]) ∧ OwnB w'.heap.size w'' (.slice po n pc) (S 0) ∧ Below w'.heap.size w' w'')
    (C3 : ∀ w' j, j < c → Calls Tryz.prog 32 #[.int .u64 (v j : Nat), .int .i64 kk] w' fun e w'' => e = .returned (.int .u64 (y j : Nat)) ∧ Below w'.heap.size w' w'')
    (C4 : ∀ w', Below w.heap.size w w' → Calls Tryz.prog 24 #[.agg #[.int .i64 r, .int .i64 c, .slice ao n cap]] w' fun e w'' => ∃ k : Nat, e = .returned (.tuple #[.int .i64 (k : Nat), .int .i64 0]) ∧ Z k ∧ Below w'.heap.size w' w'')
    (C5 : ∀ w' xo xd, Below w.heap.size w w' → BitsAt w' xo xd (mxL (S c)) → Calls Tryz.prog 24 #[.agg #[.int .i64 r, .int .i64 c, .slice xo n xd]] w' fun e w'' => ∃ k : Nat, e = .returned (.tuple #[.int .i64 (k : Nat), .int .i64 0]) ∧ Z k ∧ Below w'.heap.size w' w'')
    (hS0 : (S 0).length = n)
    (CA : ∀ w', Below w.heap.size w w' → Calls Tryz.prog 14 #[] w' fun e w'' => e = .returned (.bool true) ∧ Below w'.heap.size w' w'') :
    Calls Tryz.prog 8 #[.agg #[.int .i64 r, .int .i64 c, .slice ao n cap], .int .i64 i, .int .i64 k] w fun e w' => e = .returned (.bool true) ∧ Below w.heap.size w w' := by
  have K1 := hide C1; have K2 := hide C2; have K3 := hide C3; have K4 := hide C4; have K5 := hide C5; have KA := hide CA; have HU := hide hU; have HS := hide hS; have HS0 := hide hS0
  have ST := hide (show BoxM _ w.heap.size (.int .i64 r) (.int .i64 c) (.slice ao n cap) ∧ Below w.heap.size w _ from ⟨BoxM.new w (.int .i64 r) (.int .i64 c) (.slice ao n cap), below_alloc9 w (.cells #[.int .i64 r, .int .i64 c, .slice ao n cap] 24)⟩)
  have y0 := (unhide ST).1.c0; have y1 := (unhide ST).1.c1; have y2 := (unhide ST).1.c2
  have hr0 : ¬ (r : Int) = 0 := by omega
  clear C1 C2 C3 C4 C5 CA hU hS hS0
  go_enter Tryz.func8, Tryz.ntmps8
  go_wp2_with fail
  refine (unhide K1 _ (unhide ST).2).mono ?_
  rintro e w1 ⟨rfl, hb1⟩
  replace ST := hide (show BoxM w1 w.heap.size (.int .i64 r) (.int .i64 c) (.slice ao n cap) ∧ Below w.heap.size w w1 from ⟨(unhide ST).1.all hb1, (unhide ST).2.trans (hb1.mono (unhide ST).2.size)⟩)
  clear hb1 K1 y0 y1 y2
  have y0 := (unhide ST).1.c0; have y1 := (unhide ST).1.c1; have y2 := (unhide ST).1.c2
  go_wp2_with fail
  refine (unhide K2 _ (unhide ST).2).mono ?_
  rintro e w2 ⟨po, pc, rfl, own, hb1⟩
  have ba := below_alloc9 w2 (.cells #[.int .i64 r, .int .i64 c, .slice po n pc] 24)
  have hbb := hb1.trans (ba.mono hb1.size)
  have XS := hide (show XsSt w _ w2.heap.size r c n cap ao po pc (S 0) from ⟨(unhide ST).1.all hbb, BoxM.new w2 (.int .i64 r) (.int .i64 c) (.slice po n pc), (own.below ba).least (by have := (unhide ST).1.lt; omega), unhide HS0, fun g hg => (own.1.lt g (by rw [hg]; rfl)).2, (unhide ST).2.trans (hbb.mono (unhide ST).2.size)⟩)
  clear hb1 ba hbb own K2 y0 y1 y2 ST
  go_wp2_with fail
  generalize w2.heap.size = gx at *
  go_loopw [8] (fun i wr => ∃ j : Nat, j ≤ c ∧ i = .int .i64 j ∧ Hid (XsSt w wr gx r c n cap ao po pc (S j))) (fun i _ => c - (intOf i).toNat)
  case atStart => exact ⟨0, Nat.zero_le _, rfl, XS⟩
  case round =>
    clear XS
    obtain ⟨j, hj, rfl, hS⟩ := hrel
    by_cases hlt : j < c
    · have hjI : (j : Int) < (c : Int) := by omega
      have y1 := (unhide hS).1.c1
      go_wp2_with fail
      clear y1
      refine at_world (fun W => XsSt w W gx r c n cap ao po pc (S j)) (unhide hS) ?_
      clear hS
      rintro W0 hS
      replace hS := hS.all ((Below.refl W0.heap.size W0).drew)
      obtain ⟨s1, s2, s3⟩ := unhide HS j hlt
      obtain ⟨p, hp⟩ : ∃ p : Nat, q + j = p := ⟨_, rfl⟩
      have hpn : p < n := by omega
      have hpN : (p : Int) < (n : Int) := by omega
      have hpI : (q : Int) + (j : Int) = (p : Int) := by omega
      rw [hp] at s1 s2
      have W3 := hide (fun w' => unhide K3 w' j hlt)
      obtain ⟨g, rfl, cx, fx, _⟩ := hS.at hpn
      rw [s1] at cx
      have S2 := hide s2
      have y1 := hS.1.c1
      have z2 := hS.2.1.c2
      have SS := hide hS
      generalize v j = vj at *
      generalize y j = yj at *
      have hp5 : IntKind.i64.wrap ((q : Int) + (j : Int)) = (p : Int) := by rw [hpI]; exact wrap_in _ (by omega)
      have hp6 : IntKind.i64.wrap ((x : Int) * (c : Int)) = (q : Int) := by rw [hq]; exact wrap_in _ (by omega)
      have hp7 : IntKind.i64.wrap (q : Int) = (q : Int) := wrap_in _ (by omega)
      have hp8 : IntKind.i64.wrap (p : Int) = (p : Int) := wrap_in _ (by omega)
      have hp0 : (0 : Int) ≤ (p : Int) := by omega
      clear hS s1 s2 hp
      go_region_with (first
        | (go_at_call 32; refine (unhide W3 _).mono ?_; rintro e w4 ⟨rfl, hb1⟩; clear y1 z2 cx fx; have S4 := (unhide SS).all hb1; have y1 := S4.1.c1; have z2 := S4.2.1.c2; obtain ⟨g', eg, cx, fx, put⟩ := S4.at hpn; simp only [Option.some.injEq, Addr.mk.injEq, and_true] at eg; subst eg; have P5 := hide (put yj s3); clear put S4 hb1)
        | fail "NO ARM")
      all_goals
        clear cx fx y1 z2
        go_wp2_with fail
        go_round
        case rel => exact ⟨j + 1, by omega, by go_num, by rw [← unhide S2]; exact P5⟩
        case measure => simp [intOf]; omega
    · have hjj : j = c := by omega
      subst hjj
      have y0 := (unhide hS).1.c0; have y1 := (unhide hS).1.c1; have y2 := (unhide hS).1.c2
      go_wp2_with fail
      refine (unhide K4 _ (unhide hS).2.2.2.2.2).mono ?_
      rintro e w3 ⟨k1, rfl, hk1, hb1⟩
      have ZK := hide hk1
      replace hS := hide ((unhide hS).all hb1)
      clear hb1 K4 y0 y1 y2 hk1
      have y0 := (unhide hS).2.1.c0; have y1 := (unhide hS).2.1.c1; have y2 := (unhide hS).2.1.c2
      go_wp2_with fail
      refine (unhide K5 _ _ _ (unhide hS).2.2.2.2.2 (unhide hS).bits).mono ?_
      rintro e w4 ⟨k2, rfl, hk2, hb1⟩
      obtain rfl : k1 = k2 := unhide HU _ _ (unhide ZK) hk2
      have BB := hide ((unhide hS).2.2.2.2.2.trans (hb1.mono (unhide hS).2.2.2.2.2.size))
      clear hb1 K5 y0 y1 y2 hk2 hS
      go_wp2_with fail
      refine (unhide KA _ (unhide BB)).mono ?_
      rintro e w7 ⟨rfl, hb1⟩
      replace BB := hide ((unhide BB).trans (hb1.mono (unhide BB).size))
      clear hb1 KA
      go_wp2
      go_ret
      exact ⟨rfl, unhide BB⟩

theorem mod_row (i : Int) (r : Nat) (hr : 0 < r) : ∃ x : Nat, (IntKind.u64.wrap i).tmod (r : Int) = (x : Int) ∧ x < r := by
  have h0 : 0 ≤ IntKind.u64.wrap i := by
    show 0 ≤ i % 18446744073709551616
    omega
  refine ⟨((IntKind.u64.wrap i).tmod (r : Int)).toNat, ?_, ?_⟩
  all_goals
    rw [Int.tmod_eq_emod_of_nonneg h0]
    have h1 := Int.emod_nonneg (IntKind.u64.wrap i) (show (r : Int) ≠ 0 by omega)
    have h2 := Int.emod_lt_of_pos (IntKind.u64.wrap i) (show (0 : Int) < r by omega)
    omega
theorem k201 (k0 : Int) : -100 ≤ wrap64 (wrap64 ((IntKind.u64.wrap k0).tmod 201) - 100) ∧ wrap64 (wrap64 ((IntKind.u64.wrap k0).tmod 201) - 100) ≤ 100 := by
  have h1 : 0 ≤ IntKind.u64.wrap k0 := by
    show 0 ≤ k0 % 18446744073709551616
    omega
  have h2 : (IntKind.u64.wrap k0).tmod 201 = IntKind.u64.wrap k0 % 201 := Int.tmod_eq_emod_of_nonneg h1
  rw [h2]
  have h3 := Int.emod_nonneg (IntKind.u64.wrap k0) (show (201 : Int) ≠ 0 by decide)
  have h4 := Int.emod_lt_of_pos (IntKind.u64.wrap k0) (show (0 : Int) < 201 by decide)
  generalize IntKind.u64.wrap k0 % 201 = t at *
  unfold wrap64
  omega

theorem certifyScales_walk (r c : Int) (ao : Option Addr) (cap : Nat) (I : List Int) (i k : Int) (w : World) (hI : BitsAt w ao cap I) (hl : I.length ≤ 17592186043904) (_hr : -9223372036854775808 ≤ r ∧ r ≤ 9223372036854775807) (_hc : -9223372036854775808 ≤ c ∧ c ≤ 9223372036854775807) (_hi : -9223372036854775808 ≤ i ∧ i ≤ 9223372036854775807) (_hk : -9223372036854775808 ≤ k ∧ k ≤ 9223372036854775807) (hT : Tab w) :
    Calls Tryz.prog 8 #[.agg #[.int .i64 r, .int .i64 c, .slice ao I.length cap], .int .i64 i, .int .i64 k] w fun e w' => e = .returned (.bool true) ∧ Below w.heap.size w w' := by
  have CA := fun w' (hb : Below w.heap.size w w') => awake11_any w' (hT.all hb)
  have C1 := fun w' (hb : Below w.heap.size w w') => r11tame_any r c ao cap I 100 w' (hI.below hb) (by omega) (by omega)
  by_cases ht : (okB r c I.length && tmK 100 I I.length) = true ∧ ¬ r = 0
  · rw [ht.1] at C1
    have hok : okB r c I.length = true ∧ tmK 100 I I.length = true := by simpa using ht.1
    obtain ⟨r, c, rfl, rfl, hM, hS⟩ := Mx.of hI hok.1
    have hlen : (natL I).length = I.length := natL_len I
    have h36 := hM.small
    have hr0 : 0 < r := by have := ht.2; omega
    obtain ⟨x, hx1, hx2⟩ := mod_row i r hr0
    obtain ⟨kk, hkk⟩ : ∃ kk, wrap64 (wrap64 ((IntKind.u64.wrap k).tmod 201) - 100) = kk := ⟨_, rfl⟩
    have hkb := k201 k
    rw [hkk] at hkb
    have hf : ∀ y ∈ natL I, fFin y = true := fin_all (by rw [hS, hlen]; exact tame_fn I 100 hok.2)
    have hel : ∀ q, q < c → fFin (xV (elM c (natL I) x q) kk) = true ∧ fQ (xV (elM c (natL I) x q) kk) = fQ (elM c (natL I) x q) * p2 kk := fun q hq => by
      have hp := place_lt hx2 hq
      have hb := tmK_at 100 I I.length (x * c + q) (by rw [← hlen, hM.2.1]; exact hp) hok.2
      rw [← hS, mxL_at] at hb
      have hb2 : tmB 100 (elM c (natL I) x q) = true := hb
      unfold tmB at hb2
      refine tame_scale _ kk (by omega) (hM.el_lt x q) (el_fin c (natL I) x q hf) ?_
      rw [Bool.and_eq_true, Bool.or_eq_true, decide_eq_true_eq, decide_eq_true_eq] at hb2
      rcases hb2.2 with h | h
      · exact .inl h
      · exact .inr (by omega)
    have CR := fun w' (hb : Below w.heap.size w w') (hT' : Tab w') => cRank_any r c cap ao (natL I) w' (hM.below hb) hf hT'
    have hpl : x * c + c ≤ I.length := by
      rw [← hlen, hM.2.1]
      calc x * c + c = (x + 1) * c := by rw [Nat.add_mul, Nat.one_mul]
        _ ≤ r * c := Nat.mul_le_mul_right c hx2
    refine certifyScales_ok r c I.length cap x (x * c) ao i k kk (scM r c (natL I) x kk) (fun j => elM c (natL I) x j) (fun j => xV (elM c (natL I) x j) kk) (fun m => IsRank m (fun i k => fZ (elM c (natL I) i k)) r c) w hr0 hM.2.2.1 hM.2.2.2 (by omega) hx2 (by simp) hpl hx1 hkk (fun a b ha hb => ha.unique hb)
      (fun j hj => ⟨scM_at r c _ x kk j hx2 hj, scM_set r c _ x kk j hx2 hj, xV_lt _ _ (hM.el_lt x j)⟩) C1 (fun w' hb => ?_) (fun w' j hj => r9shift_any _ kk w' (hM.el_lt x j) (by omega)) (fun w' hb => ?_) (fun w' xo xd hb hx => ?_) (by rw [scM_len, ← hM.2.1, hlen]) CA
    · rw [scM_0 r c _ x kk hM.2.1]
      exact rcopy_any (r : Int) (c : Int) ao cap I w' (hI.below hb) hl
    · rw [← hlen]; exact CR w' hb (hT.all hb)
    · have hX : Mx w' xo xd r c (scM r c (natL I) x kk c) := ⟨hx, scM_len _ _ _ _ _ _, hM.2.2.1, hM.2.2.2⟩
      have hfX : ∀ y ∈ scM r c (natL I) x kk c, fFin y = true := by
        intro y hy
        obtain ⟨p, hp, rfl⟩ := List.getElem_of_mem hy
        have hp' := hp
        rw [scM_len] at hp'
        have hc0 : 0 < c := by
          rcases Nat.eq_zero_or_pos c with h | h
          · rw [h, Nat.mul_zero] at hp'; omega
          · exact h
        have g := mkM_get r c (fun p q => if p = x ∧ q < c then xV (elM c (natL I) p q) kk else elM c (natL I) p q) p hp'
        have g2 : (scM r c (natL I) x kk c)[p]? = some ((scM r c (natL I) x kk c)[p]) := List.getElem?_eq_getElem hp
        have g3 : (scM r c (natL I) x kk c)[p] = if p / c = x ∧ p % c < c then xV (elM c (natL I) (p / c) (p % c)) kk else elM c (natL I) (p / c) (p % c) := Option.some.inj (g2.symm.trans g)
        rw [g3]
        split
        · rename_i h
          rw [h.1]
          exact (hel _ h.2).1
        · exact el_fin c (natL I) _ _ hf
      have := cRank_any r c xd xo (scM r c (natL I) x kk c) w' hX hfX (hT.all hb)
      rw [scM_len, ← hM.2.1, hlen] at this
      refine this.mono ?_
      rintro e w'' ⟨m, rfl, hm, hb2⟩
      exact ⟨m, rfl, (rank_scaled hx2 (fun q hq => (hel q hq).2)).2 hm, hb2⟩
  · refine certifyScales_no r c i k ao I.length cap w (okB r c I.length && tmK 100 I I.length) ?_ C1 CA
    cases hq : (okB r c I.length && tmK 100 I I.length)
    · exact .inl rfl
    · refine .inr ⟨rfl, ?_⟩
      by_cases h : r = 0
      · exact h
      · exact absurd ⟨hq, h⟩ ht

end Go.Proofs.YtfnnbkclnflpfaaGreatDoor

