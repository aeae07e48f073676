/- Part 27 of the texts. -/
import Derived.Test.YtceofkjefmilfaaGreatDoorParte26
import Derived.Test.YtceofkjefmilfaaGreatDoorParte25
/- The law VectorAxpys, walked. -/
namespace Go.Proofs.YtceofkjefmilfaaGreatDoor
open Go.RowKit
attribute [local go_sem ↓] Go.wp_at_zero Go.wp_at_succ

/-- Where a list lies: from block H on. -/
def NewB (H : Nat) (ao : Option Addr) (I : List Int) : Prop := I = [] ∨ ∃ b off, ao = some ⟨b, off, none⟩ ∧ H ≤ b
/-- A copy, whose cells may be spoiled. -/
def CopyB (base H : Nat) (w : World) (po : Option Addr) (n : Nat) : Prop := n = 0 ∨ ∃ g, po = some ⟨g, 0, none⟩ ∧ base ≤ g ∧ g < H ∧ RowU w g n
theorem CopyB.below {base H : Nat} {w w' : World} {po : Option Addr} {n : Nat} (h : CopyB base H w po n) (hb : Below w.heap.size w w') : CopyB base H w' po n := by
  rcases h with h | ⟨g, h1, h2, h3, h4⟩
  · exact .inl h
  · exact .inr ⟨g, h1, h2, h3, h4.below hb⟩
theorem CopyB.set {base H : Nat} {w : World} {po : Option Addr} {n : Nat} (h : CopyB base H w po n) (b j : Nat) (z : Int) : CopyB base H (w.setCell ⟨b, j, none⟩ (.int .u64 z)) po n := by
  rcases h with h | ⟨g, h1, h2, h3, h4⟩
  · exact .inl h
  · exact .inr ⟨g, h1, h2, h3, h4.set b j z⟩
theorem CopyB.base {base base' H : Nat} {w : World} {po : Option Addr} {n : Nat} (h : CopyB base H w po n) (hb : base' ≤ base) : CopyB base' H w po n := by
  rcases h with h | ⟨g, h1, h2, h3, h4⟩
  · exact .inl h
  · exact .inr ⟨g, h1, by omega, h3, h4⟩
theorem OwnB.copy {base : Nat} {w : World} {I : List Int} {po : Option Addr} {pc : Nat} (h : OwnB base w (.slice po I.length pc) (natL I)) : CopyB base w.heap.size w po I.length := by
  rcases Nat.eq_zero_or_pos I.length with e | e
  · exact .inl e
  · obtain ⟨g, h1, h2, h3, h4⟩ := h.rowU (by rw [natL_len]; exact e)
    rw [natL_len] at h4
    exact .inr ⟨g, h1, h2, h3, h4⟩
theorem BitsAt.far {H : Nat} {w : World} {ao : Option Addr} {c : Nat} {I : List Int} (h : BitsAt w ao c I) (hn : NewB H ao I) {b : Nat} (hb : b < H) (j : Nat) (u : Value) : BitsAt (w.setCell ⟨b, j, none⟩ u) ao c I := by
  refine h.other ?_ u
  rcases hn with e | ⟨b', off, e1, e2⟩
  · exact .inl e
  · exact .inr ⟨b', off, e1, by show b' ≠ b; omega⟩

/-- What holds while the copies are spoiled. -/
structure SpSt (w wr : World) (H : Nat) (po qo : Option Addr) (n m : Nat) (so to' : Option Addr) (cs ct : Nat) (S T : List Int) : Prop where
  bel : Below w.heap.size w wr
  p : CopyB w.heap.size H wr po n
  q : CopyB w.heap.size H wr qo m
  s : BitsAt wr so cs S
  t : BitsAt wr to' ct T
  ns : NewB H so S
  nt : NewB H to' T
theorem SpSt.put {w wr : World} {H : Nat} {po qo : Option Addr} {n m : Nat} {so to' : Option Addr} {cs ct : Nat} {S T : List Int} (h : SpSt w wr H po qo n m so to' cs ct S T) {g : Nat} (hg : w.heap.size ≤ g) (hH : g < H) (j : Nat) (z : Int) : SpSt w (wr.setCell ⟨g, j, none⟩ (.int .u64 z)) H po qo n m so to' cs ct S T :=
  ⟨h.bel.setCell (p := ⟨g, j, none⟩) hg _, h.p.set g j z, h.q.set g j z, h.s.far h.ns hH j _, h.t.far h.nt hH j _, h.ns, h.nt⟩
theorem OwnB.same {base : Nat} {w w0 : World} {I : List Int} {po ao : Option Addr} {pc c : Nat} (h : OwnB base w (.slice po I.length pc) (natL I)) (h0 : BitsAt w0 ao c I) : BitsAt w po pc I := by
  obtain ⟨ao', cap', e, hb⟩ := h.bits
  simp only [Value.slice.injEq] at e
  obtain ⟨rfl, _, rfl⟩ := e
  rw [natL_back h0] at hb
  exact hb

end Go.Proofs.YtceofkjefmilfaaGreatDoor

/- Package matrix: a matrix in its box; inRange, Check, right, lies. -/
namespace Go.Proofs.YtceofkjefmilfaaGreatDoor
open Go.RowKit
attribute [local go_sem ↓] Go.wp_at_zero Go.wp_at_succ

/-- Block b is a box of a matrix. -/
def BoxM (w : World) (b : Nat) (x y z : Value) : Prop := w.heap[b]? = some (.cells #[x, y, z] 35 (0, 0))
theorem BoxM.c0 {w : World} {b : Nat} {x y z : Value} (h : BoxM w b x y z) : w.cell? ⟨b, 0, none⟩ = some x := by rw [cell_of_row w b 0 _ _ _ h]; rfl
theorem BoxM.c1 {w : World} {b : Nat} {x y z : Value} (h : BoxM w b x y z) : w.cell? ⟨b, 1, none⟩ = some y := by rw [cell_of_row w b 1 _ _ _ h]; rfl
theorem BoxM.c2 {w : World} {b : Nat} {x y z : Value} (h : BoxM w b x y z) : w.cell? ⟨b, 2, none⟩ = some z := by rw [cell_of_row w b 2 _ _ _ h]; rfl
theorem BoxM.free {w : World} {b : Nat} {x y z : Value} (h : BoxM w b x y z) (j : Nat) : w.frozen? ⟨b, j, none⟩ = false := frozen_of_row w b j _ _ h
theorem BoxM.lt {w : World} {b : Nat} {x y z : Value} (h : BoxM w b x y z) : b < w.heap.size := (Array.getElem?_eq_some_iff.1 h).1
theorem BoxM.below {w w' : World} {b : Nat} {x y z : Value} (h : BoxM w b x y z) {B : Nat} (hb : Below B w w') (hlt : b < B) : BoxM w' b x y z := (hb.block b hlt).trans h
theorem BoxM.new (w : World) (x y z : Value) : BoxM (w.alloc (.cells #[x, y, z] 35)) w.heap.size x y z := heap_alloc_new w _
theorem BoxM.old {w : World} {b : Nat} {x y z : Value} (h : BoxM w b x y z) (o : Obj) : BoxM (w.alloc o) b x y z := by
  unfold BoxM; rw [Below.heap_alloc w o b h.lt]; exact h
theorem BoxM.all {w w' : World} {b : Nat} {x y z : Value} (h : BoxM w b x y z) (hb : Below w.heap.size w w') : BoxM w' b x y z := h.below hb h.lt
theorem BoxM.drew {w : World} {b : Nat} {x y z : Value} (h : BoxM w b x y z) : BoxM w.drew b x y z := h

theorem BoxM.other {w : World} {b : Nat} {x y z : Value} (h : BoxM w b x y z) {p : Addr} (hp : b ≠ p.block) (u : Value) : BoxM (w.setCell p u) b x y z := (Below.heap_setCell w p u b hp).trans h
theorem BoxM.put {w : World} {b : Nat} {x y z : Value} (h : BoxM w b x y z) (u u' u'' : Value) : BoxM (((w.setCell ⟨b, 0, none⟩ u).setCell ⟨b, 1, none⟩ u').setCell ⟨b, 2, none⟩ u'') b u u' u'' := by
  have h1 := heap_setCell_same w b 0 _ _ u h
  have h2 := heap_setCell_same (w.setCell ⟨b, 0, none⟩ u) b 1 _ _ u' h1
  have h3 := heap_setCell_same ((w.setCell ⟨b, 0, none⟩ u).setCell ⟨b, 1, none⟩ u') b 2 _ _ u'' h2
  unfold BoxM
  rw [h3]
  simp

theorem below_putM {w w' : World} {B b : Nat} (h : Below B w w') (hb : B ≤ b) (u u' u'' : Value) : Below B w (((w'.setCell ⟨b, 0, none⟩ u).setCell ⟨b, 1, none⟩ u').setCell ⟨b, 2, none⟩ u'') :=
  ((h.setCell hb _).setCell hb _).setCell hb _

theorem BoxM.grown {w w' : World} {b : Nat} {x y z : Value} (h : BoxM w b x y z) {o : Option Nat} (hg : w.grownBy w' o) (ho : o ≠ some b) : BoxM w' b x y z :=
  (hg.block b h.lt ho.symm).trans h

/-- Are these sizes in their range; is a matrix of so many numbers right? -/
def rgB (r c : Int) : Bool := decide (0 ≤ r ∧ r ≤ 6 ∧ 0 ≤ c ∧ c ≤ 6)
def okB (r c : Int) (n : Nat) : Bool := decide ((0 ≤ r ∧ r ≤ 6 ∧ 0 ≤ c ∧ c ≤ 6) ∧ (n : Int) = r * c)

set_option maxRecDepth 20000 in
set_option maxHeartbeats 2000000 in
theorem inRange_any (r c : Int) (w : World) :
    Calls Tryz.prog 113 #[.int .i64 r, .int .i64 c] w fun e w' => e = .returned (.bool (rgB r c)) ∧ w = w' := by
  rcases (show (r < 0 ∧ rgB r c = false) ∨ (0 ≤ r ∧ 6 < r ∧ rgB r c = false) ∨ (0 ≤ r ∧ r ≤ 6 ∧ c < 0 ∧ rgB r c = false) ∨ (0 ≤ r ∧ r ≤ 6 ∧ 0 ≤ c ∧ 6 < c ∧ rgB r c = false) ∨ (0 ≤ r ∧ r ≤ 6 ∧ 0 ≤ c ∧ c ≤ 6 ∧ rgB r c = true) by
    unfold rgB
    by_cases h : 0 ≤ r ∧ r ≤ 6 ∧ 0 ≤ c ∧ c ≤ 6
    · rw [decide_eq_true h]; simp; omega
    · rw [decide_eq_false h]; simp; omega) with ⟨h1, e⟩ | ⟨h1, h2, e⟩ | ⟨h1, h2, h3, e⟩ | ⟨h1, h2, h3, h4, e⟩ | ⟨h1, h2, h3, h4, e⟩
  all_goals
    rw [e]
    clear e
    go_enter Tryz.func113, Tryz.ntmps113
    go_wp2
    go_ret
    refine ⟨?_, rfl⟩
    first | rfl | (simp; omega)

set_option maxRecDepth 20000 in
set_option maxHeartbeats 2000000 in
theorem mcheck_any (r c : Int) (ao : Option Addr) (n cap : Nat) (w : World) (hn : n ≤ 35184372088830) :
    Calls Tryz.prog 84 #[.agg #[.int .i64 r, .int .i64 c, .slice ao n cap]] w fun e w' => e = .returned (.int .i64 (if okB r c n = true then 0 else 1)) ∧ Below w.heap.size w w' := by
  have HC := hide (fun w' => inRange_any r c w')
  have hb0 := hide (below_alloc9 w (.cells #[.int .i64 r, .int .i64 c, .slice ao n cap] 35))
  by_cases hr : 0 ≤ r ∧ r ≤ 6 ∧ 0 ≤ c ∧ c ≤ 6
  · have e1 : rgB r c = true := decide_eq_true hr
    rw [e1] at HC
    have hm : ∃ m : Nat, r * c = (m : Int) ∧ m ≤ 36 := by
      obtain ⟨a, rfl⟩ := Int.eq_ofNat_of_zero_le hr.1
      obtain ⟨b, rfl⟩ := Int.eq_ofNat_of_zero_le hr.2.2.1
      refine ⟨a * b, by simp, ?_⟩
      have : a * b ≤ 6 * 6 := Nat.mul_le_mul (by omega) (by omega)
      omega
    obtain ⟨m, hm, h36⟩ := hm
    by_cases hq : n = m
    · have e2 : okB r c n = true := decide_eq_true ⟨hr, by rw [hm, hq]⟩
      rw [if_pos e2]
      subst hq
      clear e1 e2 hr
      go_enter Tryz.func84, Tryz.ntmps84
      go_wp2_with fail
      refine (unhide HC _).mono ?_
      rintro e w1 ⟨rfl, rfl⟩
      clear HC
      go_wp2
      go_ret
      exact ⟨rfl, unhide hb0⟩
    · have e2 : okB r c n = false := decide_eq_false (fun h => hq (by have := h.2; omega))
      rw [if_neg (by rw [e2]; decide)]
      have hq2 : decide ((n : Int) = (m : Int)) = false := decide_eq_false (by omega)
      clear e1 e2 hr
      go_enter Tryz.func84, Tryz.ntmps84
      go_wp2_with fail
      refine (unhide HC _).mono ?_
      rintro e w1 ⟨rfl, rfl⟩
      clear HC
      go_wp2
      go_ret
      exact ⟨rfl, unhide hb0⟩
  · have e1 : rgB r c = false := decide_eq_false hr
    rw [e1] at HC
    have e2 : okB r c n = false := decide_eq_false (fun h => hr h.1)
    rw [if_neg (by rw [e2]; decide)]
    clear e1 e2 hr
    go_enter Tryz.func84, Tryz.ntmps84
    go_wp2_with fail
    refine (unhide HC _).mono ?_
    rintro e w1 ⟨rfl, rfl⟩
    clear HC
    go_wp2
    go_ret
    exact ⟨rfl, unhide hb0⟩

end Go.Proofs.YtceofkjefmilfaaGreatDoor

/- A matrix in memory; stores into boxes keep it. -/
namespace Go.Proofs.YtceofkjefmilfaaGreatDoor
open Go.RowKit

/-- A matrix's numbers as they lie. -/
def mxL (S : List Nat) : List Int := S.map (fun x : Nat => (x : Int))
theorem mxL_len (S : List Nat) : (mxL S).length = S.length := by simp [mxL]
theorem mxL_at (S : List Nat) (j : Nat) : atB (mxL S) j = S.getD j 0 := by
  unfold mxL atB
  rw [List.getElem?_map, List.getD_eq_getElem?_getD]
  cases S[j]? <;> simp
theorem mxL_natL {w : World} {ao : Option Addr} {c : Nat} {I : List Int} (h : BitsAt w ao c I) : mxL (natL I) = I := natL_back h
theorem natL_mxL (S : List Nat) : natL (mxL S) = S := by
  unfold natL mxL
  rw [List.map_map]
  refine (List.map_congr_left fun x _ => ?_).trans (List.map_id S)
  simp
theorem BitsAt.nat {w : World} {ao : Option Addr} {c : Nat} {S : List Nat} (h : BitsAt w ao c (mxL S)) : ∀ x ∈ S, x < 18446744073709551616 := by
  intro x hx
  have := h.2.1 (x : Int) (List.mem_map.2 ⟨x, hx, rfl⟩)
  omega
theorem BitsAt.none (w : World) (c : Nat) : BitsAt w .none c (mxL []) := ⟨by simp [mxL], by simp [mxL], .inl rfl⟩
theorem BitsAt.nilAt (w : World) (ao : Option Addr) (c : Nat) : BitsAt w ao c (mxL []) := ⟨by simp [mxL], by simp [mxL], .inl rfl⟩

/-- Numbers lie in no matrix's box. -/
theorem BitsAt.putM {w : World} {ao : Option Addr} {c : Nat} {I : List Int} (h : BitsAt w ao c I) {g : Nat} {x y : Int} {a : Option Addr} {n d : Nat} (hx : BoxM w g (.int .i64 x) (.int .i64 y) (.slice a n d)) (u u' u'' : Value) :
    BitsAt (((w.setCell ⟨g, 0, .none⟩ u).setCell ⟨g, 1, .none⟩ u').setCell ⟨g, 2, .none⟩ u'') ao c I := by
  refine ⟨h.1, h.2.1, ?_⟩
  rcases h.2.2 with h0 | ⟨b, off, h1, h2, h3⟩
  · exact .inl h0
  · by_cases he : I = []
    · exact .inl he
    · have hp : 0 < I.length := List.length_pos_iff.2 he
      have hne : b ≠ g := by
        rintro rfl
        have h4 := h3 0 hp
        rw [cell_of_row w b (off + 0) _ _ _ hx] at h4
        rcases (show off = 0 ∨ off = 1 ∨ off = 2 ∨ 3 ≤ off by omega) with e | e | e | e
        · subst e; simp at h4
        · subst e; simp at h4
        · subst e; simp at h4
        · rw [Array.getElem?_eq_none (by simp; omega)] at h4; simp at h4
      refine .inr ⟨b, off, h1, by simpa [World.setCell] using h2, fun i hi => ?_⟩
      rw [cell_setCell_other _ _ _ _ (by simpa using hne), cell_setCell_other _ _ _ _ (by simpa using hne), cell_setCell_other _ _ _ _ (by simpa using hne)]
      exact h3 i hi

/-- A right matrix: r rows, c columns, the numbers S. -/
def Mx (w : World) (ao : Option Addr) (cap r c : Nat) (S : List Nat) : Prop := BitsAt w ao cap (mxL S) ∧ S.length = r * c ∧ r ≤ 6 ∧ c ≤ 6
theorem Mx.below {w w' : World} {ao : Option Addr} {cap r c : Nat} {S : List Nat} (h : Mx w ao cap r c S) (hb : Below w.heap.size w w') : Mx w' ao cap r c S := ⟨h.1.below hb, h.2⟩
theorem Mx.small {w : World} {ao : Option Addr} {cap r c : Nat} {S : List Nat} (h : Mx w ao cap r c S) : S.length ≤ 36 := by
  rw [h.2.1]
  exact Nat.mul_le_mul h.2.2.1 h.2.2.2
theorem Mx.el_lt {w : World} {ao : Option Addr} {cap r c : Nat} {S : List Nat} (h : Mx w ao cap r c S) (i k : Nat) : elM c S i k < 18446744073709551616 := by
  unfold elM
  rw [List.getD_eq_getElem?_getD]
  by_cases g : i * c + k < S.length
  · rw [List.getElem?_eq_getElem g]; exact h.1.nat _ (List.getElem_mem g)
  · rw [List.getElem?_eq_none (by omega)]; decide
/-- Where its numbers lie. -/
theorem Mx.cells {w : World} {ao : Option Addr} {cap r c : Nat} {S : List Nat} (h : Mx w ao cap r c S) {i k : Nat} (hi : i < r) (hk : k < c) : ∃ b off, ao = some ⟨b, off, .none⟩ ∧ b < w.heap.size ∧ w.cell? ⟨b, off + (i * c + k), .none⟩ = some (.int .u64 (elM c S i k : Nat)) ∧ i * c + k < S.length := by
  have hp : i * c + k < S.length := by rw [h.2.1]; exact place_lt hi hk
  obtain ⟨b, off, e1, e2, e3⟩ := h.1.ne (by rw [mxL_len]; omega)
  refine ⟨b, off, e1, e2, ?_, hp⟩
  rw [e3 _ (by rw [mxL_len]; exact hp), mxL_at]
  rfl
theorem mx_ok {w : World} {ao : Option Addr} {cap r c : Nat} {S : List Nat} (h : Mx w ao cap r c S) : okB (r : Int) (c : Int) S.length = true := by
  refine decide_eq_true ⟨⟨by omega, ?_, by omega, ?_⟩, ?_⟩
  · have := h.2.2.1; omega
  · have := h.2.2.2; omega
  · rw [h.2.1]; simp
/-- A right matrix that came in. -/
theorem Mx.of {w : World} {ao : Option Addr} {cap : Nat} {I : List Int} {r c : Int} (h : BitsAt w ao cap I) (ho : okB r c I.length = true) : ∃ p q : Nat, r = (p : Int) ∧ c = (q : Int) ∧ Mx w ao cap p q (natL I) ∧ mxL (natL I) = I := by
  obtain ⟨⟨h1, h2, h3, h4⟩, h5⟩ := of_decide_eq_true ho
  obtain ⟨p, rfl⟩ := Int.eq_ofNat_of_zero_le h1
  obtain ⟨q, rfl⟩ := Int.eq_ofNat_of_zero_le h3
  refine ⟨p, q, rfl, rfl, ⟨by rw [mxL_natL h]; exact h, ?_, by omega, by omega⟩, mxL_natL h⟩
  rw [natL_len]
  have : ((p * q : Nat) : Int) = (p : Int) * (q : Int) := by simp
  omega

/-- What a call makes: a matrix in new memory. -/
def NewM (H : Nat) (w' : World) (r c : Nat) (S : List Nat) (v : Value) : Prop := ∃ ao cap, v = .agg #[.int .i64 r, .int .i64 c, .slice ao S.length cap] ∧ NewB H ao (mxL S) ∧ BitsAt w' ao cap (mxL S)
theorem NewM.zero (H : Nat) (w : World) : NewM H w 0 0 [] (.agg #[.int .i64 0, .int .i64 0, .slice .none 0 0]) := ⟨.none, 0, rfl, .inl rfl, BitsAt.none w 0⟩
theorem NewM.below {H : Nat} {w w' : World} {r c : Nat} {S : List Nat} {v : Value} (h : NewM H w r c S v) (hb : Below w.heap.size w w') : NewM H w' r c S v := by
  obtain ⟨ao, cap, h1, h2, h3⟩ := h
  exact ⟨ao, cap, h1, h2, h3.below hb⟩
theorem NewM.least {H H' : Nat} {w : World} {r c : Nat} {S : List Nat} {v : Value} (h : NewM H w r c S v) (hh : H' ≤ H) : NewM H' w r c S v := by
  obtain ⟨ao, cap, h1, h2, h3⟩ := h
  refine ⟨ao, cap, h1, ?_, h3⟩
  rcases h2 with e | ⟨b, off, e1, e2⟩
  · exact .inl e
  · exact .inr ⟨b, off, e1, Nat.le_trans hh e2⟩

end Go.Proofs.YtceofkjefmilfaaGreatDoor

/- Package matrix: at, row, build. -/
namespace Go.Proofs.YtceofkjefmilfaaGreatDoor
open Go.RowKit
attribute [local go_sem ↓] Go.wp_at_zero Go.wp_at_succ

theorem cast_mul10 (i c : Nat) : (i : Int) * (c : Int) = ((i * c : Nat) : Int) := by simp

theorem NewB.least {H H' : Nat} {ao : Option Addr} {I : List Int} (h : NewB H ao I) (hh : H' ≤ H) : NewB H' ao I := by
  rcases h with e | ⟨b, off, e1, e2⟩
  · exact .inl e
  · exact .inr ⟨b, off, e1, Nat.le_trans hh e2⟩
theorem OwnB.newB {base : Nat} {w : World} {ao : Option Addr} {n cap : Nat} {S : List Nat} (h : OwnB base w (.slice ao n cap) S) : NewB base ao (mxL S) := by
  rcases h.1.2 with ⟨_, h0⟩ | ⟨g, cap', cur, hv, hg, _⟩
  · exact .inl (by rw [List.length_eq_zero_iff.1 h0]; rfl)
  · simp only [Value.slice.injEq] at hv
    exact .inr ⟨g, 0, hv.1, hg⟩

end Go.Proofs.YtceofkjefmilfaaGreatDoor

/- Exact numbers in rows; grids of them. -/
namespace Go.Proofs.YtceofkjefmilfaaGreatDoor
open Go.RowKit

/-- Block g holds no limb. -/
def Clr (w : World) (g : Nat) : Prop := ∃ cur e, w.heap[g]? = some (.cells cur e (0, 0)) ∧ ∀ u ∈ cur.toList, noLimb u = true
theorem Clr.limbs {w : World} {g : Nat} (h : Clr w g) {ao : Option Addr} {cap : Nat} {L : List Nat} (hL : LimbsAt w ao cap L) (j : Nat) (u : Value) : LimbsAt (w.setCell ⟨g, j, none⟩ u) ao cap L := by
  refine ⟨hL.1, hL.2.1, ?_⟩
  have hc : Clear w (.slice (some ⟨g, 0, none⟩) 0 0) := fun k hk => by cases hk; exact h
  rcases hc.limbs hL with e | ⟨b, off, h1, h2, h3, h4⟩
  · exact .inl e
  · have hne : b ≠ g := fun e => h3 (by rw [e]; rfl)
    refine .inr ⟨b, off, h1, by simpa [World.setCell] using h2, fun i hi => ?_⟩
    rw [cell_setCell_other _ _ _ _ (show b ≠ g from hne)]
    exact h4 i hi
theorem Clr.num {B : Nat} {w : World} {g : Nat} (h : Clr w g) {v : Value} {z : Int} (hv : IsNum B w v z) (j : Nat) (u : Value) : IsNum B (w.setCell ⟨g, j, none⟩ u) v z := by
  obtain ⟨neg, ao, cap, L, h1, h2, h3⟩ := hv
  exact ⟨neg, ao, cap, L, h1, h.limbs h2 j u, h3⟩
theorem Clr.lv {w : World} {g : Nat} (h : Clr w g) {v : Value} {lo z : Int} (hv : IsLv w v lo z) (j : Nat) (u : Value) : IsLv (w.setCell ⟨g, j, none⟩ u) v lo z := by
  obtain ⟨neg, ao, cap, L, h1, h2⟩ := hv
  exact ⟨neg, ao, cap, L, h1, h.num h2 j u⟩

/-- Block b is a box of three cells, of type T. -/
def BoxT (T : Nat) (w : World) (b : Nat) (x y z : Value) : Prop := w.heap[b]? = some (.cells #[x, y, z] T (0, 0))
theorem BoxT.c0 {T : Nat} {w : World} {b : Nat} {x y z : Value} (h : BoxT T w b x y z) : w.cell? ⟨b, 0, none⟩ = some x := by rw [cell_of_row w b 0 _ _ _ h]; rfl
theorem BoxT.c1 {T : Nat} {w : World} {b : Nat} {x y z : Value} (h : BoxT T w b x y z) : w.cell? ⟨b, 1, none⟩ = some y := by rw [cell_of_row w b 1 _ _ _ h]; rfl
theorem BoxT.c2 {T : Nat} {w : World} {b : Nat} {x y z : Value} (h : BoxT T w b x y z) : w.cell? ⟨b, 2, none⟩ = some z := by rw [cell_of_row w b 2 _ _ _ h]; rfl
theorem BoxT.free {T : Nat} {w : World} {b : Nat} {x y z : Value} (h : BoxT T w b x y z) (j : Nat) : w.frozen? ⟨b, j, none⟩ = false := frozen_of_row w b j _ _ h
theorem BoxT.lt {T : Nat} {w : World} {b : Nat} {x y z : Value} (h : BoxT T w b x y z) : b < w.heap.size := (Array.getElem?_eq_some_iff.1 h).1
theorem BoxT.below {T : Nat} {w w' : World} {b : Nat} {x y z : Value} (h : BoxT T w b x y z) {B : Nat} (hb : Below B w w') (hlt : b < B) : BoxT T w' b x y z := (hb.block b hlt).trans h
theorem BoxT.new (T : Nat) (w : World) (x y z : Value) : BoxT T (w.alloc (.cells #[x, y, z] T)) w.heap.size x y z := heap_alloc_new w _
theorem BoxT.all {T : Nat} {w w' : World} {b : Nat} {x y z : Value} (h : BoxT T w b x y z) (hb : Below w.heap.size w w') : BoxT T w' b x y z := h.below hb h.lt
theorem BoxT.old {T : Nat} {w : World} {b : Nat} {x y z : Value} (h : BoxT T w b x y z) (o : Obj) : BoxT T (w.alloc o) b x y z := h.all (below_alloc9 w o)
theorem BoxT.drew {T : Nat} {w : World} {b : Nat} {x y z : Value} (h : BoxT T w b x y z) : BoxT T w.drew b x y z := h
theorem BoxT.other {T : Nat} {w : World} {b : Nat} {x y z : Value} (h : BoxT T w b x y z) {p : Addr} (hp : b ≠ p.block) (u : Value) : BoxT T (w.setCell p u) b x y z := (Below.heap_setCell w p u b hp).trans h
theorem BoxT.put {T : Nat} {w : World} {b : Nat} {x y z : Value} (h : BoxT T w b x y z) (u u' u'' : Value) : BoxT T (((w.setCell ⟨b, 0, none⟩ u).setCell ⟨b, 1, none⟩ u').setCell ⟨b, 2, none⟩ u'') b u u' u'' := by
  have h1 := heap_setCell_same w b 0 _ _ u h
  have h2 := heap_setCell_same (w.setCell ⟨b, 0, none⟩ u) b 1 _ _ u' h1
  have h3 := heap_setCell_same ((w.setCell ⟨b, 0, none⟩ u).setCell ⟨b, 1, none⟩ u') b 2 _ _ u'' h2
  unfold BoxT
  rw [h3]
  simp
theorem BoxT.grown {T : Nat} {w w' : World} {b : Nat} {x y z : Value} (h : BoxT T w b x y z) {o : Option Nat} (hg : w.grownBy w' o) (ho : o ≠ some b) : BoxT T w' b x y z :=
  (hg.block b h.lt ho.symm).trans h
theorem Clr.set {w : World} {g : Nat} (h : Clr w g) (k j : Nat) {u : Value} (hu : noLimb u = true) : Clr (w.setCell ⟨k, j, none⟩ u) g := by
  obtain ⟨cur, e, h1, h2⟩ := h
  by_cases hk : g = k
  · subst hk
    refine ⟨_, e, heap_setCell_same w g j _ _ u h1, fun x hx => ?_⟩
    rw [Array.toList_setIfInBounds] at hx
    rcases List.mem_or_eq_of_mem_set hx with hx | rfl
    · exact h2 x hx
    · exact hu
  · exact ⟨cur, e, (Below.heap_setCell w ⟨k, j, none⟩ u g hk).trans h1, h2⟩

/-- A number's cells. -/
structure Dn where
  neg : Bool
  ao : Option Addr
  len : Nat
  cap : Nat
  e : Int
def Dn.v (x : Dn) : Value := .agg #[.bool x.neg, .slice x.ao x.len x.cap, .int .i64 x.e]
def Dn.cs (x : Dn) : List Value := [.bool x.neg, .slice x.ao x.len x.cap, .int .i64 x.e]
def dnAt (D : List Dn) (k : Nat) : Dn := D[k]?.getD ⟨false, none, 0, 0, 0⟩
/-- v is a row of the call's own, of the first n numbers of f, at the level lo. -/
def OwnD (base : Nat) (w : World) (v : Value) (n : Nat) (lo : Int) (f : Nat → Int) : Prop :=
  ∃ D : List Dn, D.length = n ∧ w.ownsRow base 52 3 v n (D.flatMap Dn.cs) ∧ Clear w v ∧ ∀ k, k < n → IsLv w (dnAt D k).v lo (f k)
theorem OwnD.nil (base : Nat) (w : World) (lo : Int) (f : Nat → Int) : OwnD base w (.slice none 0 0) 0 lo f :=
  ⟨[], rfl, World.ownsRow_nil w base 52 3, Clear.nil w 0 0, fun k hk => by omega⟩
theorem OwnD.below {base : Nat} {w w' : World} {v : Value} {n : Nat} {lo : Int} {f : Nat → Int} (h : OwnD base w v n lo f) (hb : Below w.heap.size w w') : OwnD base w' v n lo f := by
  obtain ⟨D, h1, h2, h3, h4⟩ := h
  exact ⟨D, h1, h2.kept (row := none) ⟨hb.os, hb.tape, hb.output, hb.size, fun k hk _ => hb.block k hk⟩ (by cases hv : v.ownBlock <;> simp), h3.below hb, fun k hk => (h4 k hk).below hb⟩
theorem OwnD.lt {base : Nat} {w : World} {v : Value} {n : Nat} {lo : Int} {f : Nat → Int} (h : OwnD base w v n lo f) : ∀ k, v.ownBlock = some k → base ≤ k ∧ k < w.heap.size := by
  obtain ⟨D, h1, h2, h3, h4⟩ := h
  exact h2.lt
/-- A store into a box that is elder. -/
theorem OwnD.set {base : Nat} {w : World} {v : Value} {n : Nat} {lo : Int} {f : Nat → Int} (h : OwnD base w v n lo f) {g : Nat} (hc : Clr w g) (hg : g < base) (j : Nat) (u : Value) : OwnD base (w.setCell ⟨g, j, none⟩ u) v n lo f := by
  obtain ⟨D, h1, h2, h3, h4⟩ := h
  have hne : ∀ k, v.ownBlock = some k → k ≠ g := fun k hk => by have := (h2.lt k hk).1; omega
  refine ⟨D, h1, ⟨h2.1, ?_⟩, ?_, fun k hk => hc.lv (h4 k hk) j u⟩
  · rcases h2.2 with e | ⟨k, cap, cur, hv, hk, hh, rest⟩
    · exact .inl e
    · exact .inr ⟨k, cap, cur, hv, hk, (Below.heap_setCell w ⟨g, j, none⟩ u k (hne k (by rw [hv]; rfl))).trans hh, rest⟩
  · intro k hk
    obtain ⟨cur, e, g1, g2⟩ := h3 k hk
    exact ⟨cur, e, (Below.heap_setCell w ⟨g, j, none⟩ u k (hne k hk)).trans g1, g2⟩

/-- n numbers lie at ao. -/
def DysAt (w : World) (ao : Option Addr) (cap n : Nat) (lo : Int) (f : Nat → Int) : Prop :=
  n ≤ cap ∧ (n = 0 ∨ ∃ b off, ao = some ⟨b, off, none⟩ ∧ b < w.heap.size ∧ ∀ k, k < n → ∃ x : Dn, w.cell? ⟨b, off + k * 3, none⟩ = some (.bool x.neg) ∧ w.cell? ⟨b, off + k * 3 + 1, none⟩ = some (.slice x.ao x.len x.cap) ∧ w.cell? ⟨b, off + k * 3 + 2, none⟩ = some (.int .i64 x.e) ∧ IsLv w x.v lo (f k))
theorem DysAt.below {w w' : World} {ao : Option Addr} {cap n : Nat} {lo : Int} {f : Nat → Int} (h : DysAt w ao cap n lo f) (hb : Below w.heap.size w w') : DysAt w' ao cap n lo f := by
  refine ⟨h.1, ?_⟩
  rcases h.2 with e | ⟨b, off, h1, h2, h3⟩
  · exact .inl e
  · refine .inr ⟨b, off, h1, Nat.lt_of_lt_of_le h2 hb.size, fun k hk => ?_⟩
    obtain ⟨x, c0, c1, c2, hx⟩ := h3 k hk
    refine ⟨x, ?_, ?_, ?_, hx.below hb⟩
    · rw [hb.cell (p := ⟨b, off + k * 3, none⟩) h2]; exact c0
    · rw [hb.cell (p := ⟨b, off + k * 3 + 1, none⟩) h2]; exact c1
    · rw [hb.cell (p := ⟨b, off + k * 3 + 2, none⟩) h2]; exact c2
theorem DysAt.congr {w : World} {ao : Option Addr} {cap n : Nat} {lo : Int} {f g : Nat → Int} (h : DysAt w ao cap n lo f) (he : ∀ k, k < n → f k = g k) : DysAt w ao cap n lo g := by
  refine ⟨h.1, ?_⟩
  rcases h.2 with e | ⟨b, off, h1, h2, h3⟩
  · exact .inl e
  · refine .inr ⟨b, off, h1, h2, fun k hk => ?_⟩
    obtain ⟨x, c0, c1, c2, hx⟩ := h3 k hk
    exact ⟨x, c0, c1, c2, by rw [← he k hk]; exact hx⟩
/-- A grid of numbers at a level. -/
def Gr (w : World) (ao : Option Addr) (cap r c : Nat) (lo : Int) (F : Nat → Nat → Int) : Prop := DysAt w ao cap (r * c) lo (fun p => F (p / c) (p % c)) ∧ r ≤ 6 ∧ c ≤ 6
theorem Gr.below {w w' : World} {ao : Option Addr} {cap r c : Nat} {lo : Int} {F : Nat → Nat → Int} (h : Gr w ao cap r c lo F) (hb : Below w.heap.size w w') : Gr w' ao cap r c lo F := ⟨h.1.below hb, h.2⟩
theorem Gr.congr {w : World} {ao : Option Addr} {cap r c : Nat} {lo : Int} {F G : Nat → Nat → Int} (h : Gr w ao cap r c lo F) (he : ∀ i k, i < r → k < c → F i k = G i k) : Gr w ao cap r c lo G := by
  refine ⟨h.1.congr fun p hp => ?_, h.2⟩
  have hc : 0 < c := by
    rcases Nat.eq_zero_or_pos c with e | e
    · subst e; simp at hp
    · exact e
  exact he _ _ (Nat.div_lt_of_lt_mul (by rw [Nat.mul_comm]; exact hp)) (Nat.mod_lt _ hc)

end Go.Proofs.YtceofkjefmilfaaGreatDoor

