/- Part 10 of the texts. -/
import Derived.Test.YtfkndkaneffgdaaGreatDoorPartD09
/- Dyadic numbers: their struct, when one is right; contract of Check. -/
namespace Go.Proofs.YtfkndkaneffgdaaGreatDoor
open Go.RowKit

/-- Block b is a box of three cells. -/
def Box3 (w : World) (b : Nat) (x y z : Value) : Prop := w.heap[b]? = some (.cells #[x, y, z] 109 (0, 0))
theorem Box3.c0 {w : World} {b : Nat} {x y z : Value} (h : Box3 w b x y z) : w.cell? ⟨b, 0, none⟩ = some x := by rw [cell_of_row w b 0 _ _ _ h]; rfl
theorem Box3.c1 {w : World} {b : Nat} {x y z : Value} (h : Box3 w b x y z) : w.cell? ⟨b, 1, none⟩ = some y := by rw [cell_of_row w b 1 _ _ _ h]; rfl
theorem Box3.c2 {w : World} {b : Nat} {x y z : Value} (h : Box3 w b x y z) : w.cell? ⟨b, 2, none⟩ = some z := by rw [cell_of_row w b 2 _ _ _ h]; rfl
theorem Box3.free {w : World} {b : Nat} {x y z : Value} (h : Box3 w b x y z) (j : Nat) : w.frozen? ⟨b, j, none⟩ = false := frozen_of_row w b j _ _ h
theorem Box3.lt {w : World} {b : Nat} {x y z : Value} (h : Box3 w b x y z) : b < w.heap.size := (Array.getElem?_eq_some_iff.1 h).1
theorem Box3.below {w w' : World} {b : Nat} {x y z : Value} (h : Box3 w b x y z) {B : Nat} (hb : Below B w w') (hlt : b < B) : Box3 w' b x y z := (hb.block b hlt).trans h
theorem Box3.new (w : World) (x y z : Value) : Box3 (w.alloc (.cells #[x, y, z] 109)) w.heap.size x y z := heap_alloc_new w _
theorem Box3.old {w : World} {b : Nat} {x y z : Value} (h : Box3 w b x y z) (o : Obj) : Box3 (w.alloc o) b x y z := by
  unfold Box3; rw [Below.heap_alloc w o b h.lt]; exact h
theorem Box3.all {w w' : World} {b : Nat} {x y z : Value} (h : Box3 w b x y z) (hb : Below w.heap.size w w') : Box3 w' b x y z := h.below hb h.lt
theorem Box2.all {w w' : World} {b : Nat} {x y : Value} (h : Box2 w b x y) (hb : Below w.heap.size w w') : Box2 w' b x y := h.below hb h.lt
theorem Box3.drew {w : World} {b : Nat} {x y z : Value} (h : Box3 w b x y z) : Box3 w.drew b x y z := h

theorem Box3.other {w : World} {b : Nat} {x y z : Value} (h : Box3 w b x y z) {p : Addr} (hp : b ≠ p.block) (u : Value) : Box3 (w.setCell p u) b x y z := (Below.heap_setCell w p u b hp).trans h
theorem Box3.put {w : World} {b : Nat} {x y z : Value} (h : Box3 w b x y z) (u u' u'' : Value) : Box3 (((w.setCell ⟨b, 0, none⟩ u).setCell ⟨b, 1, none⟩ u').setCell ⟨b, 2, none⟩ u'') b u u' u'' := by
  have h1 := heap_setCell_same w b 0 _ _ u h
  have h2 := heap_setCell_same (w.setCell ⟨b, 0, none⟩ u) b 1 _ _ u' h1
  have h3 := heap_setCell_same ((w.setCell ⟨b, 0, none⟩ u).setCell ⟨b, 1, none⟩ u') b 2 _ _ u'' h2
  unfold Box3
  rw [h3]
  simp

theorem below_put3 {w w' : World} {B b : Nat} (h : Below B w w') (hb : B ≤ b) (u u' u'' : Value) : Below B w (((w'.setCell ⟨b, 0, none⟩ u).setCell ⟨b, 1, none⟩ u').setCell ⟨b, 2, none⟩ u'') :=
  ((h.setCell hb _).setCell hb _).setCell hb _

theorem LimbsAt.box3 {w : World} {ao : Option Addr} {cap g : Nat} {L : List Nat} (h : LimbsAt w ao cap L) {x : Bool} {a : Option Addr} {n c : Nat} {e : Int} (hx : Box3 w g (.bool x) (.slice a n c) (.int .i64 e)) (u u' u'' : Value) :
    LimbsAt (((w.setCell ⟨g, 0, none⟩ u).setCell ⟨g, 1, none⟩ u').setCell ⟨g, 2, none⟩ u'') ao cap L := by
  refine ⟨h.1, h.2.1, ?_⟩
  rcases h.2.2 with h0 | ⟨b, off, h1, h2, h3⟩
  · exact .inl h0
  · by_cases he : L = []
    · exact .inl he
    · have hp : 0 < L.length := List.length_pos_iff.2 he
      have hne : b ≠ g := by
        rintro rfl
        have h4 := h3 0 hp
        rw [cell_of_row w b (off + 0) _ _ _ hx] at h4
        rcases (show off = 0 ∨ off = 1 ∨ off = 2 ∨ 3 ≤ off by omega) with e | e | e | e
        · subst e; simp at h4
        · subst e; simp at h4
        · subst e; simp at h4
        · rw [Array.getElem?_eq_none (by simp; omega)] at h4; simp at h4
      refine .inr ⟨b, off, h1, by simpa [World.setCell] using h2, fun i hi => ?_⟩
      rw [cell_setCell_other _ _ _ _ (by simpa using hne), cell_setCell_other _ _ _ _ (by simpa using hne), cell_setCell_other _ _ _ _ (by simpa using hne)]
      exact h3 i hi

/-- Is a dyadic number right? -/
def drB (neg : Bool) (L : List Nat) (e : Int) : Bool := rightB neg L && (if L.length = 0 then decide (e = 0) else (decide (val L % 2 = 1) && decide (-16384 ≤ e ∧ e ≤ 16384)))
def drE (neg : Bool) (L : List Nat) (e : Int) : Int := if drB neg L e then 0 else 1

theorem lowZ_odd (v : Nat) (h : v ≠ 0) : 0 < lowZ v ↔ v % 2 = 0 := by
  rw [lowZ_pos v h]
  obtain ⟨m, hm⟩ := tz_spec v (by omega)
  constructor
  · intro h1
    obtain ⟨k, hk⟩ : ∃ k, tz v = k + 1 := ⟨tz v - 1, by omega⟩
    rw [hk, Nat.pow_succ, Nat.mul_assoc, Nat.mul_left_comm] at hm
    omega
  · intro h1
    rcases Nat.eq_zero_or_pos (tz v) with e | e
    · rw [e] at hm; simp at hm; omega
    · omega

theorem lowZ_le (v : Nat) (h : v < TOP) : 0 ≤ lowZ v ∧ lowZ v < 16384 := by
  by_cases h0 : v = 0
  · subst h0; decide
  · rw [lowZ_pos v h0]
    have e : TOP = 2 ^ (32 * TOPN) := by
      unfold TOP
      rw [show (4294967296 : Nat) = 2 ^ 32 by decide, ← Nat.pow_mul]
    rw [e] at h
    have := tz_lt v (32 * TOPN) (by omega) h
    have e2 : 32 * TOPN = 16384 := rfl
    omega

set_option maxHeartbeats 1000000 in
theorem dcheck_any (neg : Bool) (ao : Option Addr) (cap : Nat) (L : List Nat) (e : Int) (w : World) (h : LimbsAt w ao cap L) (hl : L.length ≤ 35184372088830) (hT : Tab w) :
    Calls Tryz.prog 169 #[.agg #[.bool neg, .slice ao L.length cap, .int .i64 e]] w fun r w' => r = .returned (.int .i64 (drE neg L e)) ∧ Below w.heap.size w w' := by
  have HC := hide (fun w' h' => check_any neg ao cap L w' h' hl)
  have H1 := hide (show rightB neg L = false → drE neg L e = 1 from fun h => by simp [drE, drB, h])
  have H2 := hide (show ¬ (-16384 ≤ e ∧ e ≤ 16384) → drE neg L e = 1 from fun h => by
    unfold drE drB
    by_cases h0 : L.length = 0
    · rw [if_pos h0, decide_eq_false (show ¬ e = 0 by omega)]; simp
    · rw [if_neg h0, decide_eq_false h]; simp)
  have H3 := hide (show L.length = 0 → e ≠ 0 → drE neg L e = 1 from fun h0 h => by
    unfold drE drB
    rw [if_pos h0, decide_eq_false h]; simp)
  have H4 := hide (show rightB neg L = true → L.length = 0 → e = 0 → drE neg L e = 0 ∧ lowZ (val L) = 0 from fun h h0 h' => by
    unfold drE drB
    rw [if_pos h0, decide_eq_true h', h]
    have : L = [] := List.length_eq_zero_iff.1 h0
    subst this
    exact ⟨by simp, rfl⟩)
  have H5 := hide (show rightB neg L = true → L.length ≠ 0 → (-16384 ≤ e ∧ e ≤ 16384) → drE neg L e = if 0 < lowZ (val L) then 1 else 0 from fun h h0 h' => by
    have hv : val L ≠ 0 := fun e => h0 (by rw [(val_zero_of_canon L (right_canon h).2.1).1 e]; rfl)
    unfold drE drB
    rw [if_neg h0, decide_eq_true h', h]
    have := lowZ_odd _ hv
    by_cases h1 : val L % 2 = 1
    · rw [decide_eq_true h1, if_neg (show ¬ 0 < lowZ (val L) by omega)]; simp
    · rw [decide_eq_false h1, if_pos (show 0 < lowZ (val L) by omega)]; simp)
  have HL := hide (show rightB neg L = true → L.length ≤ 512 from fun h => (right_canon h).1)
  have HE := hide (show chkE neg L = if rightB neg L then 0 else 1 from rfl)
  have HZ := hide (fun w' h' h'' t => lowZeros_any neg ao cap L w' h' h'' t)
  generalize drE neg L e = er at *
  generalize chkE neg L = ce at *
  generalize lowZ (val L) = lz at *
  generalize rightB neg L = rb at *
  have hb0 : Below w.heap.size w (w.alloc (.cells #[.bool neg, .slice ao L.length cap, .int .i64 e] 109)) := (Below.refl _ _).alloc (Nat.le_refl _) _
  have x0 := Box3.new w (.bool neg) (.slice ao L.length cap) (.int .i64 e)
  go_enter Tryz.func169, Tryz.ntmps169
  go_wp2_with fail
  refine (unhide HC _ (h.below hb0)).mono ?_
  rintro r w1 ⟨rfl, hb1⟩
  replace x0 := x0.all hb1
  have b1 := hb0.trans (hb1.mono hb0.size)
  rw [unhide HE]
  clear hb1 HE HC hb0
  have p0 := x0.c0; have p1 := x0.c1; have p2 := x0.c2
  cases rb
  · have hr := unhide H1 rfl
    subst hr
    simp only [Bool.false_eq_true, if_false]
    clear H1 H2 H3 H4 H5 HL HZ x0
    go_wp2
    go_ret
    exact ⟨rfl, b1⟩
  have HL' := unhide HL rfl
  have H4' := hide (unhide H4 rfl)
  have H5' := hide (unhide H5 rfl)
  clear HL H4 H5 H1
  simp only [if_true]
  go_wp2_with fail
  refine (within_any e 16384 _ (by decide) (by decide)).mono ?_
  rintro r w2 ⟨rfl, rfl⟩
  by_cases hin : -16384 ≤ e ∧ e ≤ 16384
  case neg =>
    have hr := unhide H2 hin
    subst hr
    rw [decide_eq_false hin]
    clear H2 H3 H4' H5' HL' HZ x0 hin
    go_wp2
    go_ret
    exact ⟨rfl, b1⟩
  rw [decide_eq_true hin]
  go_wp2_with fail
  refine (isZero_any neg ao cap L.length _).mono ?_
  rintro r w3 ⟨rfl, hb1⟩
  replace x0 := x0.all hb1
  replace b1 := b1.trans (hb1.mono b1.size)
  clear hb1 p0 p1 p2
  have p0 := x0.c0; have p1 := x0.c1; have p2 := x0.c2
  by_cases h0 : L.length = 0
  · rw [decide_eq_true h0]
    by_cases he : e = 0
    · obtain ⟨hr, hz⟩ := unhide H4' h0 he
      subst hr
      subst hz
      subst he
      clear H2 H3 H4' H5' x0 hin h0
      go_wp2_with fail
      refine (unhide HZ _ (h.below b1) (by omega) (hT.all b1)).mono ?_
      rintro r w4 ⟨rfl, hb1⟩
      go_wp2
      go_ret
      exact ⟨rfl, b1.trans (hb1.mono b1.size)⟩
    · have hr := unhide H3 h0 he
      subst hr
      have he1 : (e != 0) = true := by simpa using he
      clear H2 H3 H4' H5' x0 hin HZ
      go_wp2
      go_ret
      exact ⟨rfl, b1⟩
  · have hr := unhide H5' h0 hin
    rw [decide_eq_false h0]
    by_cases hz : 0 < lz
    · rw [if_pos hz] at hr
      subst hr
      clear H2 H3 H4' H5' x0 hin h0
      go_wp2_with fail
      refine (unhide HZ _ (h.below b1) (by omega) (hT.all b1)).mono ?_
      rintro r w4 ⟨rfl, hb1⟩
      go_wp2
      go_ret
      exact ⟨rfl, b1.trans (hb1.mono b1.size)⟩
    · rw [if_neg hz] at hr
      subst hr
      clear H2 H3 H4' H5' x0 hin h0
      go_wp2_with fail
      refine (unhide HZ _ (h.below b1) (by omega) (hT.all b1)).mono ?_
      rintro r w4 ⟨rfl, hb1⟩
      go_wp2
      go_ret
      exact ⟨rfl, b1.trans (hb1.mono b1.size)⟩

end Go.Proofs.YtfkndkaneffgdaaGreatDoor

/- Contracts of checkBoth and Make. -/
namespace Go.Proofs.YtfkndkaneffgdaaGreatDoor
open Go.RowKit

/-- v is the dyadic number of m and e. -/
def IsDy (w : World) (v : Value) (m e : Int) : Prop :=
  ∃ (neg : Bool) (ao : Option Addr) (cap : Nat) (L : List Nat), v = .agg #[.bool neg, .slice ao L.length cap, .int .i64 e] ∧ IsNum 0 w (.agg #[.bool neg, .slice ao L.length cap]) m

theorem IsDy.below {w w' : World} {v : Value} {m e : Int} (h : IsDy w v m e) (hb : Below w.heap.size w w') : IsDy w' v m e := by
  obtain ⟨neg, ao, cap, L, h1, h2⟩ := h
  exact ⟨neg, ao, cap, L, h1, h2.below hb⟩
theorem IsDy.put3 {w : World} {v : Value} {m e : Int} (h : IsDy w v m e) {g : Nat} {x : Bool} {a : Option Addr} {n c : Nat} {k : Int} (hx : Box3 w g (.bool x) (.slice a n c) (.int .i64 k)) (u u' u'' : Value) : IsDy (((w.setCell ⟨g, 0, none⟩ u).setCell ⟨g, 1, none⟩ u').setCell ⟨g, 2, none⟩ u'') v m e := by
  obtain ⟨neg, ao, cap, L, h1, n', a', c', L', e1, e2, e3⟩ := h
  exact ⟨neg, ao, cap, L, h1, n', a', c', L', e1, e2.box3 hx _ _ _, e3⟩
theorem IsDy.zero (w : World) (ao : Option Addr) (cap : Nat) : IsDy w (.agg #[.bool false, .slice ao 0 cap, .int .i64 0]) 0 0 :=
  ⟨false, ao, cap, [], rfl, IsNum.zero _ _ _ _⟩

/-- What Make answers: is there a right number of z times 2^e? -/
def dOk (z e : Int) : Bool := decide (-32768 ≤ e ∧ e ≤ 32768) && (decide (z = 0) || decide (-16384 ≤ e + tz z.natAbs ∧ e + tz z.natAbs ≤ 16384))
def dErr (z e : Int) : Int := if dOk z e then 0 else 2
def dM (z e : Int) : Int := if dOk z e then oM z else 0
def dX (z e : Int) : Int := if dOk z e then oE z e else 0
/-- Two checks. -/
def drE2 (na : Bool) (A : List Nat) (x : Int) (nb : Bool) (B : List Nat) (y : Int) : Int := if drB na A x && drB nb B y then 0 else 1

set_option maxHeartbeats 1000000 in
theorem dcheckBoth_any (na nb : Bool) (ao bo : Option Addr) (ca cb : Nat) (A B : List Nat) (x y : Int) (w : World) (hA : LimbsAt w ao ca A) (hB : LimbsAt w bo cb B) (la : A.length ≤ 35184372088830) (lb : B.length ≤ 35184372088830) (hT : Tab w) :
    Calls Tryz.prog 179 #[.agg #[.bool na, .slice ao A.length ca, .int .i64 x], .agg #[.bool nb, .slice bo B.length cb, .int .i64 y]] w fun r w' => r = .returned (.int .i64 (drE2 na A x nb B y)) ∧ Below w.heap.size w w' := by
  have H1 := hide (show drB na A x = false → drE na A x = 1 ∧ drE2 na A x nb B y = 1 from fun h => by simp [drE, drE2, h])
  have H2 := hide (show drB na A x = true → drE na A x = 0 ∧ drE2 na A x nb B y = drE nb B y from fun h => by simp [drE, drE2, h])
  have HA := hide (fun w' h' t => dcheck_any na ao ca A x w' h' la t)
  have HB := hide (fun w' h' t => dcheck_any nb bo cb B y w' h' lb t)
  generalize drE2 na A x nb B y = er at *
  generalize drE na A x = e1 at *
  generalize drE nb B y = e2 at *
  generalize drB na A x = ra at *
  have hb0 : Below w.heap.size w ((w.alloc (.cells #[.bool na, .slice ao A.length ca, .int .i64 x] 109)).alloc (.cells #[.bool nb, .slice bo B.length cb, .int .i64 y] 109)) := ((Below.refl _ _).alloc (Nat.le_refl _) _).alloc (by simp) _
  have x1 : Box3 ((w.alloc (.cells #[.bool na, .slice ao A.length ca, .int .i64 x] 109)).alloc (.cells #[.bool nb, .slice bo B.length cb, .int .i64 y] 109)) (w.heap.size + 1) (.bool nb) (.slice bo B.length cb) (.int .i64 y) := by
    have := Box3.new (w.alloc (.cells #[.bool na, .slice ao A.length ca, .int .i64 x] 109)) (.bool nb) (.slice bo B.length cb) (.int .i64 y)
    simpa using this
  have X1 := hide x1; have B0 := hide hb0
  clear x1 hb0
  cases ra
  · obtain ⟨rfl, rfl⟩ := unhide H1 rfl
    clear H1 H2 HB X1
    go_enter Tryz.func179, Tryz.ntmps179
    go_wp2_with fail
    refine (unhide HA _ (hA.below (unhide B0)) (hT.all (unhide B0))).mono ?_
    rintro r w1 ⟨rfl, hb1⟩
    go_wp2
    go_ret
    exact ⟨rfl, (unhide B0).trans (hb1.mono (unhide B0).size)⟩
  · obtain ⟨rfl, rfl⟩ := unhide H2 rfl
    clear H1 H2
    go_enter Tryz.func179, Tryz.ntmps179
    go_wp2_with fail
    refine (unhide HA _ (hA.below (unhide B0)) (hT.all (unhide B0))).mono ?_
    rintro r w1 ⟨rfl, hb1⟩
    have x1 := (unhide X1).all hb1
    have p0 := x1.c0; have p1 := x1.c1; have p2 := x1.c2
    have B1 := hide ((unhide B0).trans (hb1.mono (unhide B0).size))
    clear hb1 x1 X1 B0 HA
    go_wp2_with fail
    refine (unhide HB _ (hB.below (unhide B1)) (hT.all (unhide B1))).mono ?_
    rintro r w2 ⟨rfl, hb1⟩
    go_wp2
    go_ret
    exact ⟨rfl, (unhide B1).trans (hb1.mono (unhide B1).size)⟩

theorem sg_down (na : Bool) (v : Nat) (h : v ≠ 0) : sg na (v / 2 ^ tz v) = oM (sg na v) := by
  obtain ⟨m, hm⟩ := tz_spec v (by omega)
  have hp : 0 < 2 ^ tz v := Nat.pow_pos (by decide)
  have hd : v / 2 ^ tz v = 2 * m + 1 := by
    generalize 2 ^ tz v = P at hm hp
    rw [hm]; exact Nat.mul_div_cancel_left _ hp
  have hz : OddOf (sg na v) (sg na (2 * m + 1)) (tz v) := by
    constructor
    · have e : (v : Int) = (2 * (m : Int) + 1) * 2 ^ tz v := by
        rw [Int.mul_comm]
        exact_mod_cast hm
      unfold sg
      cases na
      · simp only [Bool.false_eq_true, if_false]; rw [e]; push_cast; rfl
      · simp only [if_true]; rw [e]; push_cast; rw [Int.neg_mul]
    · unfold sg; cases na <;> simp <;> omega
  rw [hd, hz.eq.2.1]

theorem TOP_pos : 0 < TOP := Nat.pow_pos (by decide)

theorem make_cases (na : Bool) (A : List Nat) (e : Int) (hr : rightB na A = true) (hf : Fits A) :
    (¬ (-32768 ≤ e ∧ e ≤ 32768) ∧ dErr (sval na A) e = 2 ∧ dM (sval na A) e = 0 ∧ dX (sval na A) e = 0) ∨
    ((-32768 ≤ e ∧ e ≤ 32768) ∧ A.length ≠ 0 ∧ ¬ (-16384 ≤ e + lowZ (val A) ∧ e + lowZ (val A) ≤ 16384) ∧ dErr (sval na A) e = 2 ∧ dM (sval na A) e = 0 ∧ dX (sval na A) e = 0) ∨
    ((-32768 ≤ e ∧ e ≤ 32768) ∧ A.length = 0 ∧ dErr (sval na A) e = 0 ∧ dM (sval na A) e = 0 ∧ dX (sval na A) e = 0) ∨
    ((-32768 ≤ e ∧ e ≤ 32768) ∧ A.length ≠ 0 ∧ (-16384 ≤ e + lowZ (val A) ∧ e + lowZ (val A) ≤ 16384) ∧ dErr (sval na A) e = 0 ∧ dX (sval na A) e = e + lowZ (val A) ∧ shE na A (-lowZ (val A)) = 0 ∧ shN na A (-lowZ (val A)) = dM (sval na A) e) := by
  obtain ⟨hl, hc, _⟩ := right_canon hr
  have hT : val A < TOP := (val_lt_TOP A hf hc).2 hl
  have hlz := lowZ_le (val A) hT
  by_cases h1 : -32768 ≤ e ∧ e ≤ 32768
  case neg =>
    left
    have : dOk (sval na A) e = false := by unfold dOk; rw [decide_eq_false h1, Bool.false_and]
    exact ⟨h1, by simp [dErr, this], by simp [dM, this], by simp [dX, this]⟩
  right
  by_cases h0 : A.length = 0
  · right; left
    have e0 : A = [] := List.length_eq_zero_iff.1 h0
    subst e0
    have : dOk (sval na []) e = true := by unfold dOk; rw [decide_eq_true h1, sval_nil]; simp
    refine ⟨h1, rfl, by simp [dErr, this], ?_, ?_⟩
    · simp [dM, sval_nil, oM]
    · simp [dX, sval_nil, oE]
  have hv : val A ≠ 0 := fun e => h0 (by rw [(val_zero_of_canon A hc).1 e]; rfl)
  have hlp := lowZ_pos (val A) hv
  have hz : sval na A ≠ 0 := fun e => hv (by rw [← natAbs_sval na A, e]; rfl)
  by_cases h2 : -16384 ≤ e + lowZ (val A) ∧ e + lowZ (val A) ≤ 16384
  case neg =>
    left
    have : dOk (sval na A) e = false := by
      unfold dOk
      rw [natAbs_sval, ← hlp, decide_eq_false h2, decide_eq_false hz]; simp
    exact ⟨h1, h0, h2, by simp [dErr, this], by simp [dM, this], by simp [dX, this]⟩
  right; right
  have hk : dOk (sval na A) e = true := by
    unfold dOk
    rw [natAbs_sval, ← hlp, decide_eq_true h1, decide_eq_true h2]; simp
  have hV : shV na A (-lowZ (val A)) = oM (sval na A) := by
    rw [shV_shF, sval_sg, ← sg_down na (val A) hv, hlp]
    congr 1
    unfold shF
    rcases Nat.eq_zero_or_pos (tz (val A)) with e | e
    · rw [e]; simp
    · rw [if_neg (by omega)]
      congr 2
      omega
  have hO := oddOf (sval na A) hz
  have hle : (oM (sval na A)).natAbs ≤ val A := by
    have e1 : (sval na A).natAbs = (oM (sval na A)).natAbs * 2 ^ tz (sval na A).natAbs := by
      conv => lhs; rw [hO.1]
      rw [Int.natAbs_mul, Int.natAbs_pow]
      rfl
    rw [natAbs_sval] at e1
    rw [e1]
    exact Nat.le_mul_of_pos_right _ (Nat.pow_pos (by decide))
  have hin : -16384 ≤ -lowZ (val A) ∧ -lowZ (val A) ≤ 16384 := by omega
  have hsk : shOk na A (-lowZ (val A)) = true := by unfold shOk; rw [hr, decide_eq_true hin]; rfl
  refine ⟨h1, h0, h2, by simp [dErr, hk], ?_, ?_, ?_⟩
  · unfold dX oE; rw [if_pos hk, if_neg hz, natAbs_sval, hlp]
  · unfold shE; rw [if_pos hsk, hV, errOf_small _ (by omega)]
  · unfold shN dM; rw [if_pos hsk, if_pos hk, hV, numOf_small _ (by omega)]

set_option maxHeartbeats 1000000 in
theorem make_right (na : Bool) (ao : Option Addr) (ca : Nat) (A : List Nat) (e : Int) (w : World) (hA : LimbsAt w ao ca A) (hr : rightB na A = true) (be : -9223372036854775808 ≤ e ∧ e ≤ 9223372036854775807) (hT : Tab w) :
    Calls Tryz.prog 140 #[.agg #[.bool na, .slice ao A.length ca], .int .i64 e] w fun r w' => ∃ v, r = .returned (.tuple #[v, .int .i64 (dErr (sval na A) e)]) ∧ IsDy w' v (dM (sval na A) e) (dX (sval na A) e) ∧ Below w.heap.size w w' := by
  have hl := (right_canon hr).1
  have hck : chkE na A = 0 := by simp [chkE, hr]
  have HM := hide (make_cases na A e hr hA.2.1)
  have HCK := hide (fun w' h' => check_any na ao ca A w' h' (by omega))
  rw [hck] at HCK
  have HLZ := hide (fun w' h' t => lowZeros_any na ao ca A w' h' (by omega) t)
  have HSH := hide (fun n w' h' bn => shift_any na ao ca A n w' h' (by omega) bn)
  have hlz := lowZ_le (val A) ((val_lt_TOP A hA.2.1 (right_canon hr).2.1).2 hl)
  clear hck hr
  generalize dErr (sval na A) e = er at *
  generalize dM (sval na A) e = dm at *
  generalize dX (sval na A) e = dx at *
  generalize lowZ (val A) = lz at *
  obtain ⟨lz0, lz1⟩ := hlz
  have hb0 : Below w.heap.size w ((w.alloc (.cells #[.bool na, .slice ao A.length ca] 107)).alloc (.cells #[.bool false, .slice none 0 0, .int .i64 0] 109)) := ((Below.refl _ _).alloc (Nat.le_refl _) _).alloc (by simp) _
  have x0 : Box2 ((w.alloc (.cells #[.bool na, .slice ao A.length ca] 107)).alloc (.cells #[.bool false, .slice none 0 0, .int .i64 0] 109)) w.heap.size (.bool na) (.slice ao A.length ca) := (Box2.new _ _ _).old _
  have x1 : Box3 ((w.alloc (.cells #[.bool na, .slice ao A.length ca] 107)).alloc (.cells #[.bool false, .slice none 0 0, .int .i64 0] 109)) (w.heap.size + 1) (.bool false) (.slice none 0 0) (.int .i64 0) := by
    have := Box3.new (w.alloc (.cells #[.bool na, .slice ao A.length ca] 107)) (.bool false) (.slice none 0 0) (.int .i64 0)
    simpa using this
  go_enter Tryz.func140, Tryz.ntmps140
  go_wp2_with fail
  refine (unhide HCK _ (hA.below hb0)).mono ?_
  rintro r w1 ⟨rfl, hb1⟩
  replace x0 := x0.all hb1
  replace x1 := x1.all hb1
  have b1 := hb0.trans (hb1.mono hb0.size)
  clear hb1 hb0 HCK
  have p0 := x0.c0; have p1 := x0.c1
  have X0 := hide x0; have X1 := hide x1; have B1 := hide b1
  clear x0 x1 b1
  go_wp2_with fail
  refine (unhide HLZ _ (hA.below (unhide B1)) (hT.all (unhide B1))).mono ?_
  rintro r w2 ⟨rfl, hb1⟩
  have x0 := (unhide X0).all hb1
  have x1 := (unhide X1).all hb1
  have b1 := (unhide B1).trans (hb1.mono (unhide B1).size)
  clear hb1 HLZ p0 p1 X0 X1 B1
  have p0 := x0.c0; have p1 := x0.c1
  have X0 := hide x0; have X1 := hide x1; have B1 := hide b1
  have y0 := x1.c0; have y1 := x1.c1; have y2 := x1.c2; have f0 := x1.free 0; have f1 := x1.free 1; have f2 := x1.free 2
  clear x0 x1 b1
  rcases unhide HM with ⟨h1, rfl, rfl, rfl⟩ | ⟨h1, h0, h2, rfl, rfl, rfl⟩ | ⟨h1, h0, rfl, rfl, rfl⟩ | ⟨h1, h0, h2, rfl, rfl, hsE, hsN⟩
  · clear HM HSH
    go_wp2_with fail
    refine (within_any e 32768 _ (by decide) (by decide)).mono ?_
    rw [decide_eq_false h1]
    rintro r w3 ⟨rfl, rfl⟩
    clear h1
    go_wp2
    refine bodyPost_ret (v := .tuple #[.agg #[.bool false, .slice none 0 0, .int .i64 0], .int .i64 2]) (by simp [results, Tryz.results140, go_sem, y0, y1, y2]) rfl ⟨_, rfl, IsDy.zero _ _ _, below_put3 (unhide B1) (by omega) _ _ _⟩
  · clear HM HSH
    go_wp2_with fail
    refine (within_any e 32768 _ (by decide) (by decide)).mono ?_
    rw [decide_eq_true h1]
    rintro r w3 ⟨rfl, rfl⟩
    obtain ⟨h1a, h1b⟩ := h1
    go_wp2_with fail
    refine (isZero_any na ao ca A.length _).mono ?_
    rw [decide_eq_false h0]
    rintro r w4 ⟨rfl, hb1⟩
    have x0 := (unhide X0).all hb1
    have x1 := (unhide X1).all hb1
    have b1 := (unhide B1).trans (hb1.mono (unhide B1).size)
    clear hb1 p0 p1 X0 X1 B1 y0 y1 y2 f0 f1 f2
    have p0 := x0.c0; have p1 := x0.c1
    have X0 := hide x0; have X1 := hide x1; have B1 := hide b1
    have y0 := x1.c0; have y1 := x1.c1; have y2 := x1.c2; have f0 := x1.free 0; have f1 := x1.free 1; have f2 := x1.free 2
    clear x0 x1 b1
    go_wp2_with fail
    refine (within_any (e + lz) 16384 _ (by decide) (by decide)).mono ?_
    rw [decide_eq_false h2]
    rintro r w5 ⟨rfl, rfl⟩
    clear h2
    go_wp2
    refine bodyPost_ret (v := .tuple #[.agg #[.bool false, .slice none 0 0, .int .i64 0], .int .i64 2]) (by simp [results, Tryz.results140, go_sem, y0, y1, y2]) rfl ⟨_, rfl, IsDy.zero _ _ _, below_put3 (unhide B1) (by omega) _ _ _⟩
  · clear HM HSH
    have H0 := hide h0
    clear h0
    go_wp2_with fail
    refine (within_any e 32768 _ (by decide) (by decide)).mono ?_
    rw [decide_eq_true h1]
    rintro r w3 ⟨rfl, rfl⟩
    obtain ⟨h1a, h1b⟩ := h1
    go_wp2_with fail
    refine (isZero_any na ao ca A.length _).mono ?_
    rw [decide_eq_true (unhide H0)]
    rintro r w4 ⟨rfl, hb1⟩
    have x0 := (unhide X0).all hb1
    have x1 := (unhide X1).all hb1
    have b1 := (unhide B1).trans (hb1.mono (unhide B1).size)
    clear hb1 p0 p1 X0 X1 B1 y0 y1 y2 f0 f1 f2
    have p0 := x0.c0; have p1 := x0.c1
    have X0 := hide x0; have X1 := hide x1; have B1 := hide b1
    have y0 := x1.c0; have y1 := x1.c1; have y2 := x1.c2; have f0 := x1.free 0; have f1 := x1.free 1; have f2 := x1.free 2
    clear x0 x1 b1
    clear p1
    have p1 := (unhide X0).c1
    go_wp2_with fail
    refine (isZero_any na ao ca A.length _).mono ?_
    rw [decide_eq_true (unhide H0)]
    rintro r w5 ⟨rfl, hb1⟩
    have x0 := (unhide X0).all hb1
    have x1 := (unhide X1).all hb1
    have b1 := (unhide B1).trans (hb1.mono (unhide B1).size)
    clear hb1 p0 p1 X0 X1 B1 y0 y1 y2 f0 f1 f2
    have B1 := hide b1
    have y0 := x1.c0; have y1 := x1.c1; have y2 := x1.c2; have f0 := x1.free 0; have f1 := x1.free 1; have f2 := x1.free 2
    clear x0 x1 b1
    go_wp2
    refine bodyPost_ret (v := .tuple #[.agg #[.bool false, .slice none 0 0, .int .i64 0], .int .i64 0]) (by simp [results, Tryz.results140, go_sem, y0, y1, y2]) rfl ⟨_, rfl, IsDy.zero _ _ _, below_put3 (unhide B1) (by omega) _ _ _⟩
  · clear HM
    have HN := hide hsN
    have SH := hide (fun w' h' => unhide HSH (-lz) w' h' (by omega))
    rw [hsE] at SH
    clear hsN hsE HSH
    go_wp2_with fail
    refine (within_any e 32768 _ (by decide) (by decide)).mono ?_
    rw [decide_eq_true h1]
    rintro r w3 ⟨rfl, rfl⟩
    obtain ⟨h1a, h1b⟩ := h1
    go_wp2_with fail
    refine (isZero_any na ao ca A.length _).mono ?_
    rw [decide_eq_false h0]
    rintro r w4 ⟨rfl, hb1⟩
    have x0 := (unhide X0).all hb1
    have x1 := (unhide X1).all hb1
    have b1 := (unhide B1).trans (hb1.mono (unhide B1).size)
    clear hb1 p0 p1 X0 X1 B1 y0 y1 y2 f0 f1 f2
    have p0 := x0.c0; have p1 := x0.c1
    have X0 := hide x0; have X1 := hide x1; have B1 := hide b1
    have y0 := x1.c0; have y1 := x1.c1; have y2 := x1.c2; have f0 := x1.free 0; have f1 := x1.free 1; have f2 := x1.free 2
    clear x0 x1 b1
    go_wp2_with fail
    refine (within_any (e + lz) 16384 _ (by decide) (by decide)).mono ?_
    rw [decide_eq_true h2]
    rintro r w5 ⟨rfl, rfl⟩
    obtain ⟨h2a, h2b⟩ := h2
    go_wp2_with fail
    refine (isZero_any na ao ca A.length _).mono ?_
    rw [decide_eq_false h0]
    rintro r w6 ⟨rfl, hb1⟩
    have x0 := (unhide X0).all hb1
    have x1 := (unhide X1).all hb1
    have b1 := (unhide B1).trans (hb1.mono (unhide B1).size)
    clear hb1 p0 p1 X0 X1 B1 y0 y1 y2 f0 f1 f2
    have p0 := x0.c0; have p1 := x0.c1
    have X0 := hide x0; have X1 := hide x1; have B1 := hide b1
    clear x0 x1 b1
    go_wp2_with fail
    refine (unhide SH _ (hA.below (unhide B1))).mono ?_
    rintro r w7 ⟨v, rfl, ⟨n2, a2, c2, L2, rfl, i1⟩, hb1⟩
    have x1 := (unhide X1).all hb1
    have b1 := (unhide B1).trans (hb1.mono (unhide B1).size)
    have I1 := hide i1; have B2 := hide b1; have X2 := hide x1
    clear hb1 p0 p1 X0 X1 B1 x1 b1 i1
    have x1 := (unhide X2).old (.cells #[.bool n2, .slice a2 L2.length c2] 107)
    have y0 := x1.c0; have y1 := x1.c1; have y2 := x1.c2; have f0 := x1.free 0; have f1 := x1.free 1; have f2 := x1.free 2
    have X3 := hide x1
    clear x1
    go_wp2
    have j : IsNum w6.heap.size w7 (.agg #[.bool n2, .slice a2 L2.length c2]) dm := (unhide HN) ▸ (⟨n2, a2, c2, L2, rfl, unhide I1⟩ : IsNum w6.heap.size w7 (.agg #[.bool n2, .slice a2 L2.length c2]) (shN na A (-lz)))
    have j2 : IsDy (w7.alloc (.cells #[.bool n2, .slice a2 L2.length c2] 107)) (.agg #[.bool n2, .slice a2 L2.length c2, .int .i64 (e + lz)]) dm (e + lz) := ⟨n2, a2, c2, L2, rfl, (j.below ((Below.refl _ _).alloc (Nat.le_refl _) _)).mono (Nat.zero_le _)⟩
    have b3 := (unhide B2).alloc (unhide B2).size (.cells #[.bool n2, .slice a2 L2.length c2] 107)
    refine bodyPost_ret (v := .tuple #[.agg #[.bool n2, .slice a2 L2.length c2, .int .i64 (e + lz)], .int .i64 0]) (by simp [results, Tryz.results140, go_sem, y0, y1, y2]) rfl ⟨_, rfl, j2.put3 (unhide X3) _ _ _, below_put3 b3 (by omega) _ _ _⟩

/-- Make of a number that is at hand. -/
theorem make_num {B : Nat} {w : World} {v : Value} {z : Int} (e : Int) (hv : IsNum B w v z) (hz : z.natAbs < TOP) (be : -9223372036854775808 ≤ e ∧ e ≤ 9223372036854775807) (hT : Tab w) :
    Calls Tryz.prog 140 #[v, .int .i64 e] w fun r w' => ∃ u, r = .returned (.tuple #[u, .int .i64 (dErr z e)]) ∧ IsDy w' u (dM z e) (dX z e) ∧ Below w.heap.size w w' := by
  obtain ⟨na, ao, ca, A, rfl, a1, a2, a3, a4⟩ := hv.right hz
  have := make_right na ao ca A e w a1 a2 be hT
  rwa [a3] at this

end Go.Proofs.YtfkndkaneffgdaaGreatDoor

/- Contracts of the reference's Odd, Right, Top, Sign, Same; of dyadic's Top. -/
namespace Go.Proofs.YtfkndkaneffgdaaGreatDoor
open Go.RowKit

theorem wrap_small (x : Int) (h : -9000000000000000000 ≤ x ∧ x ≤ 9000000000000000000) : IntKind.i64.wrap x = x := by
  simp only [IntKind.wrap, IntKind.signed, IntKind.bits]
  simp
  omega

set_option maxHeartbeats 400000 in
theorem dtop_any (neg : Bool) (ao : Option Addr) (cap : Nat) (L : List Nat) (e : Int) (w : World) (h : LimbsAt w ao cap L) (hl : L.length ≤ 35184372088830) :
    Calls Tryz.prog 137 #[.agg #[.bool neg, .slice ao L.length cap, .int .i64 e]] w fun r w' => r = .returned (.int .i64 (IntKind.i64.wrap (lenL L + e))) ∧ Below w.heap.size w w' := by
  have HR := hide (fun w' h' => len_any neg ao cap L w' h' hl)
  generalize lenL L = n at *
  have hb0 : Below w.heap.size w (w.alloc (.cells #[.bool neg, .slice ao L.length cap, .int .i64 e] 109)) := (Below.refl _ _).alloc (Nat.le_refl _) _
  have x0 := Box3.new w (.bool neg) (.slice ao L.length cap) (.int .i64 e)
  have X0 := hide x0; have B0 := hide hb0
  clear x0 hb0
  go_enter Tryz.func137, Tryz.ntmps137
  go_wp2
  refine at_world (fun W => Below w.heap.size w W ∧ Box3 W w.heap.size (.bool neg) (.slice ao L.length cap) (.int .i64 e)) ⟨unhide B0, unhide X0⟩ ?_
  rintro W0 ⟨b0, x0⟩
  have hK : ∀ w', Below W0.heap.size W0 w' → Below W0.heap.size W0 w' ∧ w'.cell? ⟨w.heap.size, 0, none⟩ = some (.bool neg) ∧ w'.cell? ⟨w.heap.size, 1, none⟩ = some (.slice ao L.length cap) ∧ w'.cell? ⟨w.heap.size, 2, none⟩ = some (.int .i64 e) := fun w' h =>
    ⟨h, (x0.all h).c0, (x0.all h).c1, (x0.all h).c2⟩
  have HK := hide hK
  have HA := hide (h.below b0); have BB := hide b0
  clear hK x0 b0 h X0 B0
  go_region_held3 (fun w' => Below W0.heap.size W0 w' ∧ w'.cell? ⟨w.heap.size, 0, none⟩ = some (.bool neg) ∧ w'.cell? ⟨w.heap.size, 1, none⟩ = some (.slice ao L.length cap) ∧ w'.cell? ⟨w.heap.size, 2, none⟩ = some (.int .i64 e))
    (first | exact unhide HK _ (Below.refl _ _).drew | exact unhide HK _ (by assumption))
    (first | (go_at_call 159; refine (unhide HR _ ((unhide HA).below (And.left (by assumption)))).mono ?_; rintro e w1 ⟨rfl, hb1⟩; have hB1 : Below W0.heap.size W0 w1 := Below.trans (And.left (by assumption)) (hb1.mono (Below.size (And.left (by assumption)))); clear hb1))
  go_wp2
  go_ret
  exact ⟨rfl, (unhide BB).trans (Below.mono (And.left (by assumption)) (unhide BB).size)⟩

end Go.Proofs.YtfkndkaneffgdaaGreatDoor

/- Contract of the reference's Of. -/
namespace Go.Proofs.YtfkndkaneffgdaaGreatDoor
open Go.RowKit
attribute [local go_sem ↓] Go.wp_at_zero Go.wp_at_succ
theorem wrap_in (x : Int) (h : -9223372036854775808 ≤ x ∧ x ≤ 9223372036854775807) : IntKind.i64.wrap x = x := by
  simp only [IntKind.wrap, IntKind.signed, IntKind.bits]
  simp
  omega

end Go.Proofs.YtfkndkaneffgdaaGreatDoor

/- Contracts of the laws' helpers: told, form, light, awake. -/
namespace Go.Proofs.YtfkndkaneffgdaaGreatDoor
open Go.RowKit
attribute [local go_sem ↓] Go.wp_at_zero Go.wp_at_succ

/-- Is a number of so many limbs right? -/
def dRt (n y : Int) : Bool := if n = 0 then decide (y = 0) else (decide (n % 2 = 1) && decide (-16384 ≤ y ∧ y ≤ 16384))

theorem IsDy.parts {w : World} {v : Value} {m e : Int} (h : IsDy w v m e) :
    ∃ (neg : Bool) (ao : Option Addr) (cap : Nat) (L : List Nat), v = .agg #[.bool neg, .slice ao L.length cap, .int .i64 e] ∧ LimbsAt w ao cap L ∧ Canon L ∧ neg = decide (m < 0) ∧ val L = m.natAbs ∧ L.length ≤ 35184372088832 := by
  obtain ⟨neg, ao, cap, L, rfl, m1, m2, m3, L1, q1, q2, q3, q4, q5, q6, q7⟩ := h
  simp only [Value.agg.injEq, Array.mk.injEq, List.cons.injEq, Value.bool.injEq, Value.slice.injEq, and_true] at q1
  obtain ⟨rfl, rfl, o3, rfl⟩ := q1
  exact ⟨neg, ao, cap, L1, by rw [o3], q2, q4, q5, q6, q7⟩

theorem mod2_natAbs (n : Int) : (n.natAbs % 2 = 1) ↔ (n % 2 = 1) := by omega

/-- A number of at most 512 limbs, opened: is it right, and what the program's calls ask of it. -/
theorem IsDy.right {w : World} {v : Value} {m e : Int} (h : IsDy w v m e) (hm : m.natAbs < TOP) :
    ∃ (neg : Bool) (ao : Option Addr) (cap : Nat) (L : List Nat), v = .agg #[.bool neg, .slice ao L.length cap, .int .i64 e] ∧ LimbsAt w ao cap L ∧ rightB neg L = true ∧ sval neg L = m ∧ L.length ≤ 512 ∧ drB neg L e = dRt m e := by
  obtain ⟨neg, ao, cap, L, rfl, h1, h2, h3, h4, h5⟩ := h.parts
  have hN : IsNum 0 w (.agg #[.bool neg, .slice ao L.length cap]) m := ⟨neg, ao, cap, L, rfl, h1, NewAt.zero h1, h2, h3, h4, h5⟩
  have hl : L.length ≤ 512 := (val_lt_TOP L h1.2.1 h2).1 (by omega)
  have hr : rightB neg L = true := by
    obtain ⟨neg', ao', cap', L', e1, e2, e3, e4, e5⟩ := hN.right hm
    simp only [Value.agg.injEq, Array.mk.injEq, List.cons.injEq, Value.bool.injEq, Value.slice.injEq, and_true] at e1
    obtain ⟨rfl, rfl, o3, rfl⟩ := e1
    have : L = L' := by
      refine eq_of_canon L L' h1.2.1 e2.2.1 h2 (right_canon e3).2.1 ?_
      rw [h4, ← e4, natAbs_sval]
    rw [this]; exact e3
  refine ⟨neg, ao, cap, L, rfl, h1, hr, sval_IsNum h3 h4, hl, ?_⟩
  unfold drB dRt
  rw [hr, Bool.true_and, h4]
  by_cases h0 : L.length = 0
  · have : m = 0 := by
      have : L = [] := List.length_eq_zero_iff.1 h0
      rw [this] at h4; simp [val] at h4; omega
    rw [if_pos h0, if_pos this]
  · have : m ≠ 0 := fun e0 => h0 (by
      have : L = [] := (val_zero_of_canon L h2).1 (by rw [h4, e0]; rfl)
      rw [this]; rfl)
    rw [if_neg h0, if_neg this]
    congr 1
    rw [decide_eq_decide]
    exact mod2_natAbs m

theorem IsDy.num {w : World} {v : Value} {m e : Int} (h : IsDy w v m e) :
    ∃ (neg : Bool) (ao : Option Addr) (cap : Nat) (L : List Nat), v = .agg #[.bool neg, .slice ao L.length cap, .int .i64 e] ∧ IsNum 0 w (.agg #[.bool neg, .slice ao L.length cap]) m := h

end Go.Proofs.YtfkndkaneffgdaaGreatDoor

