/- Part 8 of the texts. -/
import Derived.Test.YtnpogpoknbgodaaPart04
import Derived.Test.YtnpogpoknbgodaaPart07
/- A right number that came in. -/
namespace Go.Proofs.Ytnpogpoknbgodaa
open Go.RowKit

/-- A right number that came in, as a number. -/
theorem right_num {B : Nat} {w : World} {neg : Bool} {ao : Option Addr} {cap : Nat} {L : List Nat} (h : LimbsAt w ao cap L) (hr : rightB neg L = true) (hn : NewAt B ao L) : IsNum B w (.agg #[.bool neg, .slice ao L.length cap]) (sval neg L) := by
  have hc := right_canon hr
  by_cases h0 : L = []
  · subst h0
    have : neg = false := by cases neg <;> simp_all
    subst this
    exact IsNum.zero _ _ _ _
  · exact IsNum.mk h hn hc.2.1 h0 (by omega)

end Go.Proofs.Ytnpogpoknbgodaa

/- The law WholeLaws, walked. Written by mklaws.py. -/
namespace Go.Proofs.Ytnpogpoknbgodaa
open Go.RowKit

/-- Add and Mul of numbers that are not too great. -/
theorem add_ok {B B' : Nat} {w : World} {v u : Value} {x y : Int} (hv : IsNum B w v x) (hu : IsNum B' w u y) (hx : x.natAbs < TOP) (hy : y.natAbs < TOP) (hz : (x + y).natAbs < TOP) :
    Calls Try.prog 55 #[v, u] w fun e w' => ∃ r, e = .returned (.tuple #[r, .int .i64 0]) ∧ IsNum 0 w' r (x + y) ∧ Below w.heap.size w w' := by
  have := add_num hv hu hx hy
  rw [errOf_small _ hz, numOf_small _ hz] at this
  exact this.mono fun e w' ⟨r, h1, h2, h3⟩ => ⟨r, h1, h2.mono (Nat.zero_le _), h3⟩
theorem mul_ok {B B' : Nat} {w : World} {v u : Value} {x y : Int} (hv : IsNum B w v x) (hu : IsNum B' w u y) (hx : x.natAbs < TOP) (hy : y.natAbs < TOP) (hz : (x * y).natAbs < TOP) :
    Calls Try.prog 53 #[v, u] w fun e w' => ∃ r, e = .returned (.tuple #[r, .int .i64 0]) ∧ IsNum 0 w' r (x * y) ∧ Below w.heap.size w w' := by
  obtain ⟨na, ao, ca, A, rfl, a1, a2, a3, a4⟩ := hv.right hx
  obtain ⟨nb, bo, cb, C, rfl, b1, b2, b3, b4⟩ := hu.right hy
  have := mul_any na nb ao bo ca cb A C w a1 b1 (by omega) (by omega)
  rw [a2, b2, a3, b3, Bool.and_self, opErr_true, opNum_true, errOf_small _ hz, numOf_small _ hz] at this
  exact this.mono fun e w' ⟨r, h1, h2, h3⟩ => ⟨r, h1, h2.mono (Nat.zero_le _), h3⟩
theorem same_yes {B B' : Nat} {w : World} {v u : Value} {x y : Int} (hv : IsNum B w v x) (hu : IsNum B' w u y) (h : x = y) :
    Calls Try.prog 16 #[v, u] w fun e w' => e = .returned (.bool true) ∧ Below w.heap.size w w' := by
  have := same_num hv hu
  rwa [decide_eq_true h] at this

/-- Numbers of 40 limbs, their sums and products are not too great. -/
def N40 : Nat := 40
def M40 : Nat := 4294967296 ^ N40
theorem TOP_M40 : 4 * (M40 * M40) ≤ TOP ∧ 1 ≤ M40 ∧ M40 ≤ M40 * M40 := by
  have h1 : (4294967296 : Nat) ^ (N40 + N40 + 1) ≤ TOP := Nat.pow_le_pow_right (by decide) (by unfold N40 TOPN; decide)
  rw [Nat.pow_succ, Nat.pow_add] at h1
  change M40 * M40 * 4294967296 ≤ TOP at h1
  have h2 : 0 < M40 := by unfold M40; exact Nat.pow_pos (by decide)
  have h3 := Nat.mul_le_mul_left M40 h2
  generalize M40 = m at *
  generalize TOP = tp at *
  refine ⟨?_, h2, by omega⟩
  omega
theorem sval_M40 (neg : Bool) (L : List Nat) (h : Fits L) (hl : L.length ≤ 40) : (sval neg L).natAbs < M40 := by
  rw [natAbs_sval]
  exact Nat.lt_of_lt_of_le (val_lt L h) (Nat.pow_le_pow_right (by decide) (show L.length ≤ N40 from hl))
theorem natAbs_mul_lt (x y : Int) (a b : Nat) (hx : x.natAbs < a) (hy : y.natAbs < b) : (x * y).natAbs < a * b := by
  rw [Int.natAbs_mul]
  exact Nat.mul_lt_mul'' hx hy
theorem laws_bounds (x1 x2 x3 : Int) (h1 : x1.natAbs < M40) (h2 : x2.natAbs < M40) (h3 : x3.natAbs < M40) :
    (x1.natAbs < TOP ∧ x2.natAbs < TOP ∧ x3.natAbs < TOP) ∧ ((x1 + x2).natAbs < TOP ∧ (x2 + x1).natAbs < TOP ∧ (x2 + x3).natAbs < TOP) ∧ ((x1 + x2 + x3).natAbs < TOP ∧ (x1 + (x2 + x3)).natAbs < TOP) ∧ (((x1 + x2) * x3).natAbs < TOP ∧ (x1 * x3).natAbs < TOP ∧ (x2 * x3).natAbs < TOP ∧ (x3 * x1).natAbs < TOP ∧ (x1 * x3 + x2 * x3).natAbs < TOP) := by
  obtain ⟨t1, t2, t3⟩ := TOP_M40
  have m1 := natAbs_mul_lt x1 x3 M40 M40 h1 h3
  have m2 := natAbs_mul_lt x2 x3 M40 M40 h2 h3
  have m3 := natAbs_mul_lt x3 x1 M40 M40 h3 h1
  have m4 := natAbs_mul_lt (x1 + x2) x3 (2 * M40) M40 (by omega) h3
  rw [Nat.mul_assoc] at m4
  generalize x1 * x3 = p at *
  generalize x2 * x3 = q at *
  generalize x3 * x1 = r at *
  generalize (x1 + x2) * x3 = s at *
  generalize M40 * M40 = MM at *
  refine ⟨⟨by omega, by omega, by omega⟩, ⟨by omega, by omega, by omega⟩, ⟨by omega, by omega⟩, ⟨by omega, by omega, by omega, by omega, by omega⟩⟩

end Go.Proofs.Ytnpogpoknbgodaa

/- Contract of Sub. -/
namespace Go.Proofs.Ytnpogpoknbgodaa
open Go.RowKit

set_option maxHeartbeats 400000 in
theorem sub_any (na nb : Bool) (ao bo : Option Addr) (ca cb : Nat) (A B : List Nat) (w : World) (hA : LimbsAt w ao ca A) (hB : LimbsAt w bo cb B) (la : A.length ≤ 35184372088830) (lb : B.length ≤ 35184372088830) :
    Calls Try.prog 56 #[.agg #[.bool na, .slice ao A.length ca], .agg #[.bool nb, .slice bo B.length cb]] w fun e w' => ∃ v, e = .returned (.tuple #[v, .int .i64 (opErr (rightB na A && rightB nb B) (sval na A - sval nb B))]) ∧ IsNum w.heap.size w' v (opNum (rightB na A && rightB nb B) (sval na A - sval nb B)) ∧ Below w.heap.size w w' := by
  have hC : (rightB na A && rightB nb B) = true → Canon A ∧ Canon B := fun h => by
    simp only [Bool.and_eq_true] at h; exact ⟨(right_canon h.1).2.1, (right_canon h.2).2.1⟩
  have HC := hide hC
  have H2 := hide (show chk2 na A nb B = if (rightB na A && rightB nb B) then 0 else 1 from rfl)
  clear hC
  generalize hok : (rightB na A && rightB nb B) = ok at *
  clear hok
  go_enter Try.func56, Try.ntmps56
  go_wp2_with fail
  have hb0 : Below w.heap.size w (((w.alloc (.cells #[.bool na, .slice ao A.length ca] 35)).alloc (.cells #[.bool nb, .slice bo B.length cb] 35)).alloc (.cells #[.bool false, .slice none 0 0] 35)) :=
    (((Below.refl _ _).alloc (Nat.le_refl _) _).alloc (by simp) _).alloc (by simp; omega) _
  refine (checkBoth_any na nb ao bo ca cb A B _ (hA.below hb0) (hB.below hb0) la lb).mono ?_
  rintro e w1 ⟨rfl, hb1⟩
  have hs1 : w.heap.size + 3 ≤ w1.heap.size := by have := hb1.size; simpa using this
  have hb2 : Below w.heap.size w w1 := hb0.trans (hb1.mono (by simp; omega))
  have p0 : w1.cell? ⟨w.heap.size, 0, none⟩ = some (.bool na) := by rw [hb1.cell (p := ⟨w.heap.size, 0, none⟩) (by simp; omega)]; simp [go_sem]
  have p1 : w1.cell? ⟨w.heap.size, 1, none⟩ = some (.slice ao A.length ca) := by rw [hb1.cell (p := ⟨w.heap.size, 1, none⟩) (by simp; omega)]; simp [go_sem]
  have q0 : w1.cell? ⟨w.heap.size + 1, 0, none⟩ = some (.bool nb) := by rw [hb1.cell (p := ⟨w.heap.size + 1, 0, none⟩) (by simp)]; simp [go_sem]
  have q1 : w1.cell? ⟨w.heap.size + 1, 1, none⟩ = some (.slice bo B.length cb) := by rw [hb1.cell (p := ⟨w.heap.size + 1, 1, none⟩) (by simp)]; simp [go_sem]
  have r2 : Box2 w1 (w.heap.size + 2) (.bool false) (.slice none 0 0) := by
    have := Box2.new ((w.alloc (.cells #[.bool na, .slice ao A.length ca] 35)).alloc (.cells #[.bool nb, .slice bo B.length cb] 35)) (.bool false) (.slice none 0 0)
    exact Box2.below (by simpa using this) hb1 (by simp)
  have q2 : Box2 w1 (w.heap.size + 1) (.bool nb) (.slice bo B.length cb) := by
    have := (Box2.new (w.alloc (.cells #[.bool na, .slice ao A.length ca] 35)) (.bool nb) (.slice bo B.length cb)).old (.cells #[.bool false, .slice none 0 0] 35)
    exact Box2.below (by simpa using this) hb1 (by simp)
  rw [unhide H2]
  clear hb1 H2 hb0
  cases ok
  · simp only [Bool.false_eq_true, if_false]
    have y0 := r2.c0; have y1 := r2.c1; have f0 := r2.free 0; have f1 := r2.free 1
    go_wp2
    refine bodyPost_ret (v := .tuple #[.agg #[.bool false, .slice none 0 0], .int .i64 1]) (by simp [results, Try.results56, go_sem, y0, y1]) rfl ⟨.agg #[.bool false, .slice none 0 0], by rw [opErr_false], by rw [opNum_false]; exact IsNum.zero _ _ _ _, ?_⟩
    exact (hb2.setCell (by simp; omega) _).setCell (by simp; omega) _
  · obtain ⟨cA, cB⟩ := unhide HC rfl
    have CA := hide cA
    have CB := hide cB
    clear cA cB
    simp only [if_true]
    have fq := q2.free 0
    have hb2' : Below w.heap.size w (w1.setCell ⟨w.heap.size + 1, 0, none⟩ (.bool !nb)) := hb2.setCell (by simp) _
    have r2' : Box2 (w1.setCell ⟨w.heap.size + 1, 0, none⟩ (.bool !nb)) (w.heap.size + 2) (.bool false) (.slice none 0 0) := by
      unfold Box2; rw [Below.heap_setCell _ _ _ _ (by simp)]; exact r2
    go_wp2_with fail
    refine (addSigned_any na (!nb) ao bo ca cb A B _ (hA.below hb2') (hB.below hb2') la lb (unhide CA) (unhide CB)).mono ?_
    rw [show sval na A + sval (!nb) B = sval na A - sval nb B by rw [sval_not]; omega]
    rintro e w2 ⟨v, rfl, ⟨n2, a2, c2, L2, rfl, i1⟩, hb3⟩
    have r3 := r2'.below hb3 (by simp; omega)
    have hb4 := hb2'.trans (hb3.mono hb2'.size)
    have y0 := r3.c0; have y1 := r3.c1; have f0 := r3.free 0; have f1 := r3.free 1
    have I1 := hide i1
    clear i1
    go_wp2
    refine bodyPost_ret (v := .tuple #[.agg #[.bool n2, .slice a2 L2.length c2], .int .i64 (errOf (sval na A - sval nb B))]) (by simp [results, Try.results56, go_sem, y0, y1]) rfl ⟨.agg #[.bool n2, .slice a2 L2.length c2], by rw [opErr_true], ?_, ?_⟩
    · rw [opNum_true]; exact IsNum.stored (unhide I1) (by simp; omega) (by simp; omega) (by simp; omega) _ _
    · exact (hb4.setCell (by simp; omega) _).setCell (by simp; omega) _


end Go.Proofs.Ytnpogpoknbgodaa

/- Frames: what a call leaves alone, but for one block; what a number's box is to others. -/
namespace Go.Proofs.Ytnpogpoknbgodaa
open Go.RowKit

/-- Below B nothing has turned but block b. -/
structure Fr (B : Nat) (b : Option Nat) (w w' : World) : Prop where
  os : w'.os = w.os
  tape : w'.tape = w.tape
  output : w'.output = w.output
  size : w.heap.size ≤ w'.heap.size
  block : ∀ k, k < B → some k ≠ b → w'.heap[k]? = w.heap[k]?

theorem Fr.refl (B : Nat) (b : Option Nat) (w : World) : Fr B b w w := ⟨rfl, rfl, rfl, Nat.le_refl _, fun _ _ _ => rfl⟩
theorem Fr.trans {B : Nat} {b : Option Nat} {a c d : World} (h : Fr B b a c) (k : Fr B b c d) : Fr B b a d :=
  ⟨k.os.trans h.os, k.tape.trans h.tape, k.output.trans h.output, Nat.le_trans h.size k.size, fun i hi hb => (k.block i hi hb).trans (h.block i hi hb)⟩
theorem Fr.mono {B B' : Nat} {b : Option Nat} {w w' : World} (h : Fr B b w w') (hB : B' ≤ B) : Fr B' b w w' := ⟨h.os, h.tape, h.output, h.size, fun k hk hb => h.block k (Nat.lt_of_lt_of_le hk hB) hb⟩
theorem Fr.of {B : Nat} {w w' : World} (h : Below B w w') (b : Option Nat) : Fr B b w w' := ⟨h.os, h.tape, h.output, h.size, fun k hk _ => h.block k hk⟩
theorem Fr.drew {B : Nat} {b : Option Nat} {w w' : World} (h : Fr B b w w') : Fr B b w w'.drew := ⟨h.os, h.tape, h.output, h.size, h.block⟩
theorem Fr.alloc {B : Nat} {b : Option Nat} {w w' : World} (h : Fr B b w w') (hB : B ≤ w'.heap.size) (o : Obj) : Fr B b w (w'.alloc o) :=
  h.trans (.of ((Below.refl _ _).alloc hB o) b)
theorem Fr.setCell {B : Nat} {b : Option Nat} {w w' : World} (h : Fr B b w w') {p : Addr} (hp : B ≤ p.block) (u : Value) : Fr B b w (w'.setCell p u) :=
  h.trans (.of ((Below.refl _ _).setCell hp u) b)
theorem Fr.put2 {B : Nat} {b : Option Nat} {w w' : World} {g : Nat} (h : Fr B b w w') (hg : B ≤ g) (u u' : Value) : Fr B b w ((w'.setCell ⟨g, 0, none⟩ u).setCell ⟨g, 1, none⟩ u') :=
  (h.setCell hg _).setCell hg _
/-- One call behind another. -/
theorem Fr.then {B : Nat} {b : Option Nat} {w w1 w2 : World} (h : Fr B b w w1) (hB : B ≤ w.heap.size) (k : Fr w1.heap.size b w1 w2) : Fr B b w w2 := h.trans (k.mono (Nat.le_trans hB h.size))
theorem Fr.thenB {B : Nat} {b : Option Nat} {w w1 w2 : World} (h : Fr B b w w1) (hB : B ≤ w.heap.size) (k : Below w1.heap.size w1 w2) : Fr B b w w2 := h.then hB (.of k b)
theorem Fr.below {B : Nat} {b : Option Nat} {w w' : World} (h : Fr B b w w') {C : Nat} (hC : C ≤ B) (hb : ∀ m, b = some m → C ≤ m) : Below C w w' :=
  ⟨h.os, h.tape, h.output, h.size, fun k hk => h.block k (by omega) (fun e => by have := hb k e.symm; omega)⟩
theorem Fr.box {B : Nat} {b : Option Nat} {w w' : World} (h : Fr B b w w') {g : Nat} {x y : Value} (hx : Box2 w g x y) (hg : g < B) (hb : ∀ m, b = some m → m < g) : Box2 w' g x y :=
  (h.block g hg (fun e => by have := hb g e.symm; omega)).trans hx
theorem LimbsAt.fr {w w' : World} {ao : Option Addr} {cap B : Nat} {L : List Nat} (h : LimbsAt w ao cap L) {b : Option Nat} (hf : Fr w.heap.size b w w') (hn : NewAt B ao L) (hb : ∀ m, b = some m → m < B) : LimbsAt w' ao cap L := by
  refine ⟨h.1, h.2.1, ?_⟩
  rcases h.2.2 with h0 | ⟨c, off, h1, h2, h3⟩
  · exact .inl h0
  · rcases hn with h0 | ⟨b', off', h1', h2'⟩
    · exact .inl h0
    · rw [h1] at h1'
      simp only [Option.some.injEq, Addr.mk.injEq] at h1'
      obtain ⟨rfl, rfl, _⟩ := h1'
      refine .inr ⟨c, off, h1, Nat.lt_of_lt_of_le h2 hf.size, fun i hi => ?_⟩
      rw [World.cell?_of_block (a := ⟨c, off + i, none⟩) (hf.block c h2 (fun e => by have := hb c e.symm; omega))]
      exact h3 i hi
theorem IsNum.fr {B : Nat} {w w' : World} {v : Value} {x : Int} (h : IsNum B w v x) {b : Option Nat} (hf : Fr w.heap.size b w w') (hb : ∀ m, b = some m → m < B) : IsNum B w' v x := by
  obtain ⟨neg, ao, cap, L, h1, h2, h3, h4⟩ := h
  exact ⟨neg, ao, cap, L, h1, h2.fr hf h3 hb, h3, h4⟩
theorem IsNum.put2 {B : Nat} {w : World} {v : Value} {x : Int} (h : IsNum B w v x) {g : Nat} (hg : g < B) (u u' : Value) : IsNum B ((w.setCell ⟨g, 0, none⟩ u).setCell ⟨g, 1, none⟩ u') v x := by
  obtain ⟨neg, ao, cap, L, h1, h2, h3, h4⟩ := h
  exact ⟨neg, ao, cap, L, h1, (h2.store h3 hg u).store h3 hg u', h3, h4⟩

/-- Block k is a number's box. -/
def IsBox (w : World) (k : Nat) : Prop := ∃ x a n c, w.heap[k]? = some (.cells #[.bool x, .slice a n c] 35 (0, 0))
/-- Nothing but numbers' boxes from Base on has turned. -/
structure Stb (Base : Nat) (w w' : World) : Prop where
  os : w'.os = w.os
  tape : w'.tape = w.tape
  output : w'.output = w.output
  size : w.heap.size ≤ w'.heap.size
  block : ∀ k, k < w.heap.size → w'.heap[k]? = w.heap[k]? ∨ (Base ≤ k ∧ IsBox w k)

theorem Stb.of {Base : Nat} {w w' : World} (h : Below w.heap.size w w') : Stb Base w w' := ⟨h.os, h.tape, h.output, h.size, fun k hk => .inl (h.block k hk)⟩
theorem Stb.drewed {Base : Nat} {w : World} : Stb Base w w.drew := ⟨rfl, rfl, rfl, Nat.le_refl _, fun _ _ => .inl rfl⟩
theorem Stb.put2 {Base : Nat} {w : World} {g : Nat} {x : Bool} {a : Option Addr} {n c : Nat} (hx : Box2 w g (.bool x) (.slice a n c)) (hg : Base ≤ g) (u u' : Value) : Stb Base w ((w.setCell ⟨g, 0, none⟩ u).setCell ⟨g, 1, none⟩ u') := by
  refine ⟨rfl, rfl, rfl, by simp [World.setCell], fun k _ => ?_⟩
  by_cases e : k = g
  · subst e; exact .inr ⟨hg, x, a, n, c, hx⟩
  · left
    rw [Below.heap_setCell _ _ _ _ (show k ≠ (⟨g, 1, none⟩ : Addr).block from e), Below.heap_setCell _ _ _ _ (show k ≠ (⟨g, 0, none⟩ : Addr).block from e)]
theorem Stb.below {Base : Nat} {w w' : World} (h : Stb Base w w') (hB : Base ≤ w.heap.size) : Below Base w w' :=
  ⟨h.os, h.tape, h.output, h.size, fun k hk => (h.block k (by omega)).resolve_right (fun e => by omega)⟩
/-- What is no box stays. -/
theorem Stb.keeps {Base : Nat} {w w' : World} (h : Stb Base w w') {k : Nat} {o : Obj} (ho : w.heap[k]? = some o) (hn : ∀ x a n c, o ≠ .cells #[.bool x, .slice a n c] 35 (0, 0)) : w'.heap[k]? = some o := by
  have hk : k < w.heap.size := (Array.getElem?_eq_some_iff.1 ho).1
  rcases h.block k hk with e | ⟨_, x, a, n, c, e⟩
  · rw [e]; exact ho
  · rw [ho] at e; exact absurd (Option.some.inj e) (hn x a n c)
theorem LimbsAt.stb {Base : Nat} {w w' : World} {ao : Option Addr} {cap : Nat} {L : List Nat} (h : LimbsAt w ao cap L) (hs : Stb Base w w') : LimbsAt w' ao cap L := by
  refine ⟨h.1, h.2.1, ?_⟩
  rcases h.2.2 with h0 | ⟨c, off, h1, h2, h3⟩
  · exact .inl h0
  · by_cases hL : L = []
    · exact .inl hL
    refine .inr ⟨c, off, h1, Nat.lt_of_lt_of_le h2 hs.size, fun i hi => ?_⟩
    rcases hs.block c h2 with e | ⟨_, x, a, n, k, e⟩
    · rw [World.cell?_of_block (a := ⟨c, off + i, none⟩) e]
      exact h3 i hi
    · have := h3 i hi
      rw [cell_of_row w c _ _ _ _ e] at this
      generalize off + i = j at this
      match j, this with
      | 0, t => simp at t
      | 1, t => simp at t
      | j + 2, t => simp at t
theorem IsNum.stb {B Base : Nat} {w w' : World} {v : Value} {x : Int} (h : IsNum B w v x) (hs : Stb Base w w') : IsNum B w' v x := by
  obtain ⟨neg, ao, cap, L, h1, h2, h3⟩ := h
  exact ⟨neg, ao, cap, L, h1, h2.stb hs, h3⟩

theorem Box2.put {w : World} {b : Nat} {x y : Value} (h : Box2 w b x y) (u u' : Value) : Box2 ((w.setCell ⟨b, 0, none⟩ u).setCell ⟨b, 1, none⟩ u') b u u' := by
  unfold Box2
  rw [heap_setCell_same _ b 1 _ _ _ (heap_setCell_same w b 0 _ _ _ h)]
  rfl
theorem Box2.other {w : World} {b g : Nat} {x y : Value} (h : Box2 w b x y) (hne : b ≠ g) (u u' : Value) : Box2 ((w.setCell ⟨g, 0, none⟩ u).setCell ⟨g, 1, none⟩ u') b x y := by
  unfold Box2
  rw [Below.heap_setCell _ _ _ _ (show b ≠ (⟨g, 1, none⟩ : Addr).block from hne), Below.heap_setCell _ _ _ _ (show b ≠ (⟨g, 0, none⟩ : Addr).block from hne)]
  exact h

theorem sub_ok {B B' : Nat} {w : World} {v u : Value} {x y : Int} (hv : IsNum B w v x) (hu : IsNum B' w u y) (hx : x.natAbs < TOP) (hy : y.natAbs < TOP) (hz : (x - y).natAbs < TOP) :
    Calls Try.prog 56 #[v, u] w fun e w' => ∃ r, e = .returned (.tuple #[r, .int .i64 0]) ∧ IsNum w.heap.size w' r (x - y) ∧ Below w.heap.size w w' := by
  obtain ⟨na, ao, ca, A, rfl, a1, a2, a3, a4⟩ := hv.right hx
  obtain ⟨nb, bo, cb, C, rfl, b1, b2, b3, b4⟩ := hu.right hy
  have := sub_any na nb ao bo ca cb A C w a1 b1 (by omega) (by omega)
  rw [a2, b2, a3, b3, Bool.and_self, opErr_true, opNum_true, errOf_small _ hz, numOf_small _ hz] at this
  exact this
theorem add_new {B B' : Nat} {w : World} {v u : Value} {x y : Int} (hv : IsNum B w v x) (hu : IsNum B' w u y) (hx : x.natAbs < TOP) (hy : y.natAbs < TOP) (hz : (x + y).natAbs < TOP) :
    Calls Try.prog 55 #[v, u] w fun e w' => ∃ r, e = .returned (.tuple #[r, .int .i64 0]) ∧ IsNum w.heap.size w' r (x + y) ∧ Below w.heap.size w w' := by
  have := add_num hv hu hx hy
  rwa [errOf_small _ hz, numOf_small _ hz] at this
theorem mul_new {B B' : Nat} {w : World} {v u : Value} {x y : Int} (hv : IsNum B w v x) (hu : IsNum B' w u y) (hx : x.natAbs < TOP) (hy : y.natAbs < TOP) (hz : (x * y).natAbs < TOP) :
    Calls Try.prog 53 #[v, u] w fun e w' => ∃ r, e = .returned (.tuple #[r, .int .i64 0]) ∧ IsNum w.heap.size w' r (x * y) ∧ Below w.heap.size w w' := by
  obtain ⟨na, ao, ca, A, rfl, a1, a2, a3, a4⟩ := hv.right hx
  obtain ⟨nb, bo, cb, C, rfl, b1, b2, b3, b4⟩ := hu.right hy
  have := mul_any na nb ao bo ca cb A C w a1 b1 (by omega) (by omega)
  rw [a2, b2, a3, b3, Bool.and_self, opErr_true, opNum_true, errOf_small _ hz, numOf_small _ hz] at this
  exact this

end Go.Proofs.Ytnpogpoknbgodaa

/- Contract of exact's expand. -/
namespace Go.Proofs.Ytnpogpoknbgodaa
open Go.RowKit
attribute [local go_sem ↓] Go.wp_at_zero Go.wp_at_succ

/-- A row's numbers at a set's places, each times what D says of the others, with signs, the first k places. -/
def exS (r : Nat → Int) (s : Nat) (D : Nat → Int) : Nat → Int
  | 0 => 0
  | k + 1 => exS r s D k + (if s.testBit k then (if abv s k % 2 = 0 then r k * D (del s k) else -(r k * D (del s k))) else 0)

theorem exS_bound (r : Nat → Int) (s : Nat) (D : Nat → Int) (Bd N : Nat) (k : Nat) (hr : ∀ c, c < k → (r c).natAbs ≤ Bd) (hD : ∀ c, c < k → s.testBit c = true → (D (del s c)).natAbs ≤ N) : (exS r s D k).natAbs ≤ k * (Bd * N) := by
  induction k with
  | zero => simp [exS]
  | succ k ih =>
    have h1 := ih (fun c hc => hr c (by omega)) (fun c hc => hD c (by omega))
    unfold exS
    by_cases hb : s.testBit k = true
    · have h2 : (r k * D (del s k)).natAbs ≤ Bd * N := by
        rw [Int.natAbs_mul]; exact Nat.mul_le_mul (hr k (by omega)) (hD k (by omega) hb)
      rw [if_pos hb, Nat.succ_mul]
      generalize r k * D (del s k) = t at *
      split <;> omega
    · rw [if_neg hb, Nat.succ_mul]; omega

/-- The world at hand under a name. -/
theorem at_then {K : Act → World → Prop} {Q : Exit → Act → World → Prop} {a : Act} {w : World} (F : World → Prop) (h : F w) (k : ∀ W, F W → Exit.then K Q .normal a W) : Exit.then K Q .normal a w := k w h

/-- What stands behind the product: its box g, the number in it, the sum's, what else is kept. -/
def TailF (I : World → Prop) (b : Option Nat) (w : World) (n : Bool) (a : Option Addr) (L : List Nat) (c : Nat) (np : Bool) (ap : Option Addr) (Lp : List Nat) (cp : Nat) (x y : Int) (B g : Nat) (W : World) : Prop :=
  Box2 W g (.bool np) (.slice ap Lp.length cp) ∧ IsNum B W (.agg #[.bool np, .slice ap Lp.length cp]) y ∧ IsNum (w.heap.size + 2) W (.agg #[.bool n, .slice a L.length c]) x ∧ I W ∧ Fr w.heap.size b w W ∧ Box2 W (w.heap.size + 1) (.bool n) (.slice a L.length c) ∧ Box2 W w.heap.size (.bool false) (.slice none 0 0)

theorem NumsAt.cells {w : World} {b off cap : Nat} {R : List Nm} (h : NumsAt w (some ⟨b, off, none⟩) cap R) {k : Nat} (hk : k < R.length) : w.cell? ⟨b, off + k * 2, none⟩ = some (.bool (nmAt R k).neg) ∧ w.cell? ⟨b, off + k * 2 + 1, none⟩ = some (.slice (nmAt R k).ao (nmAt R k).L.length (nmAt R k).cap) := by
  obtain ⟨b', off', e, _, hc⟩ := h.ne (by omega)
  simp only [Option.some.injEq, Addr.mk.injEq, and_true] at e
  obtain ⟨rfl, rfl⟩ := e
  exact hc k hk

set_option maxHeartbeats 4000000 in
theorem expandD_any (caps : Array Value) (Base : Nat) (b : Option Nat) (I : World → Prop) (r D : Nat → Int) (s Bd N : Nat) (ao : Option Addr) (cap : Nat) (R : List Nm)
    (hI : ∀ w w', I w → Stb Base w w' → I w') (hR : ∀ w, I w → NumsAt w ao cap R)
    (hr : ∀ c, c < R.length → rightN (nmAt R c) = true ∧ sval (nmAt R c).neg (nmAt R c).L = r c)
    (hBd : ∀ c, c < R.length → (r c).natAbs ≤ Bd) (hD : ∀ c, c < R.length → s.testBit c = true → (D (del s c)).natAbs ≤ N) (hN : 6 * (Bd * N) < TOP) (hBT : Bd < TOP) (hNT : N < TOP)
    (hl : R.length ≤ 6) (hs : s < 64)
    (hrest : ∀ w c, I w → c < R.length → s.testBit c = true → Calls Try.prog 45 (#[.int .u64 (del s c)] ++ caps) w fun e w' => ∃ v, e = .returned v ∧ IsNum 0 w' v (D (del s c)) ∧ I w' ∧ Fr w.heap.size b w w')
    (w : World) (hIw : I w) (hBase : Base ≤ w.heap.size) (hb : ∀ m, b = some m → m < w.heap.size) :
    Calls Try.prog 44 #[.slice ao R.length cap, .int .u64 s, .func (.func 45) #[] caps] w fun e w' => ∃ v, e = .returned v ∧ IsNum 0 w' v (exS r s D R.length) ∧ I w' ∧ Fr w.heap.size b w w' := by
  have HI := hide hI; have HR := hide hR; have HRR := hide hr; have HBD := hide hBd; have HD := hide hD; have HN := hide hN; have HREST := hide hrest; have HB := hide hb
  have HIW := hide hIw; have HTT := hide (And.intro hBT hNT)
  clear hI hR hr hBd hD hN hrest hb hIw hBT hNT
  go_enter Try.func44, Try.ntmps44
  go_wp2_with fail
  go_loopw [14] (fun i wr => ∃ (k : Nat) (n : Bool) (a : Option Addr) (c : Nat) (L : List Nat), k ≤ R.length ∧ i = .int .i64 k ∧ Box2 wr (w.heap.size + 1) (.bool n) (.slice a L.length c) ∧ Box2 wr w.heap.size (.bool false) (.slice none 0 0) ∧ Hid (IsNum (w.heap.size + 2) wr (.agg #[.bool n, .slice a L.length c]) (exS r s D k)) ∧ Hid (I wr) ∧ Hid (Fr w.heap.size b w wr)) (fun i _ => R.length - (intOf i).toNat)
  case atStart =>
    refine ⟨0, false, none, 0, [], Nat.zero_le _, rfl, ?_, (Box2.new _ _ _).old _, ?_, ?_, ?_⟩
    · have := Box2.new (w.alloc (.cells #[.bool false, .slice none 0 0] 35)) (.bool false) (.slice none 0 0)
      simpa using this
    · exact hide (IsNum.zero _ _ _ _)
    · exact hide (unhide HI _ _ (unhide HIW) (.of (((Below.refl _ _).alloc (Nat.le_refl _) _).alloc (by simp) _)))
    · exact hide (((Fr.refl _ _ _).alloc (Nat.le_refl _) _).alloc (by simp) _)
  case round =>
    obtain ⟨k, n, a, c, L, hk, rfl, hx1, hx0, hnum, hIr, hfr⟩ := hrel
    by_cases hlt : k < R.length
    · have hkI : (k : Int) < (R.length : Int) := by omega
      have CH := hide (fun w => has_any s k w hs (by omega))
      by_cases hbit : s.testBit k = true
      · rw [hbit] at CH
        have hX1 := hide hx1; have hX0 := hide hx0
        clear hx1 hx0
        have hrow := unhide HR _ (unhide hIr)
        obtain ⟨b1, o1, hao, hb1, _⟩ := hrow.ne (by omega)
        subst hao
        clear hrow hb1
        obtain ⟨x, hx⟩ : ∃ x, nmAt R k = x := ⟨_, rfl⟩
        have hxr := unhide HRR k hlt
        rw [hx] at hxr
        have hxB := unhide HBD k hlt
        have hdB := unhide HD k hlt hbit
        obtain ⟨hBT, hNT⟩ := unhide HTT
        have CMUL := hide (fun w' (h : I w') v B' (hv : IsNum B' w' v (D (del s k))) => by
          have h1 := (unhide HR _ h).limbs hlt
          rw [hx] at h1
          have h2 := right_num h1 hxr.1 (NewAt.zero h1)
          rw [hxr.2] at h2
          have hm : (r k * D (del s k)).natAbs ≤ Bd * N := by
            rw [Int.natAbs_mul]; exact Nat.mul_le_mul hxB hdB
          have := unhide HN
          exact mul_new h2 hv (by omega) (by omega) (by omega))
        have CREST := hide (fun w' h => unhide HREST w' k h hlt hbit)
        have CW := hide (fun w => without_any s k w hs (by omega))
        have CA := hide (fun w => above_any s k w hs (by omega))
        have hK : ∀ w', Fr wr.heap.size b wr w' → I w' → Fr wr.heap.size b wr w' ∧ I w' ∧ w'.cell? ⟨b1, o1 + k * 2, none⟩ = some (.bool x.neg) ∧ w'.cell? ⟨b1, o1 + k * 2 + 1, none⟩ = some (.slice x.ao x.L.length x.cap) := fun w' h1 h2 => by
          have := (unhide HR _ h2).cells hlt
          rw [hx] at this
          exact ⟨h1, h2, this⟩
        have hres : Hid (exS r s D (k + 1) = exS r s D k + (if abv s k % 2 = 0 then r k * D (del s k) else -(r k * D (del s k)))) := by
          unfold Hid; conv => lhs; unfold exS
          rw [if_pos hbit]
        have hbnd : Hid ((exS r s D k).natAbs < TOP ∧ (r k * D (del s k)).natAbs < TOP ∧ (exS r s D k + r k * D (del s k)).natAbs < TOP ∧ (exS r s D k - r k * D (del s k)).natAbs < TOP) := by
          unfold Hid
          have e1 := exS_bound r s D Bd N k (fun c hc => unhide HBD c (by omega)) (fun c hc => unhide HD c (by omega))
          have hm : (r k * D (del s k)).natAbs ≤ Bd * N := by
            rw [Int.natAbs_mul]; exact Nat.mul_le_mul hxB hdB
          have h5 : k * (Bd * N) ≤ 5 * (Bd * N) := Nat.mul_le_mul_right _ (by omega)
          have := unhide HN
          generalize Bd * N = BN at *
          generalize r k * D (del s k) = t at *
          generalize exS r s D k = u at *
          generalize k * BN = kb at *
          refine ⟨by omega, by omega, by omega, by omega⟩
        have HK := hide hK
        obtain ⟨nx, ax, cx, Lx⟩ := x
        simp only at hxr HK
        clear hxr hxB hdB hBT hNT hK hx HRR HBD HD HREST HTT HN
        generalize D (del s k) = dv at *
        generalize hdel : del s k = ds at *
        generalize habv : abv s k = av at *
        go_wp2_with (go_at_call 38; refine (unhide CH _).mono ?_; rintro e w' ⟨rfl, rfl⟩)
        refine at_world (fun W => W = wr) rfl ?_
        rintro W0 e0
        subst e0
        have hI0 := unhide hIr
        have HKA := hide (fun wn o (h1 : Fr W0.heap.size b W0 wn) (h2 : I wn) => unhide HK (wn.alloc o) (h1.alloc h1.size o) (unhide HI _ _ h2 (.of ((Below.refl _ _).alloc (Nat.le_refl _) o))))
        have HKS := hide (fun wn g x a n c u u' (h1 : Fr W0.heap.size b W0 wn) (h2 : I wn) (h3 : Box2 wn g (.bool x) (.slice a n c)) (h4 : W0.heap.size ≤ g) => unhide HK _ (h1.put2 h4 u u') (unhide HI _ _ h2 (.put2 h3 (by have := (unhide hfr).size; omega) u u')))
        have BXA := hide (fun wn wm (h1 : Fr (W0.drew.alloc (.cells #[.bool false, .slice none 0 0] 35)).heap.size b (W0.drew.alloc (.cells #[.bool false, .slice none 0 0] 35)) wn) (h2 : Below wn.heap.size wn wm) => (h1.box (Box2.new W0.drew (.bool false) (.slice none 0 0)) (by simp) (fun m e => by have := unhide HB m e; have := (unhide hfr).size; simp; omega)).below h2 (by have := h1.size; simp at this; simp; omega))
        have BXB := hide (fun wn wm (h2 : Below (wn.alloc (.cells #[.bool false, .slice none 0 0] 35)).heap.size (wn.alloc (.cells #[.bool false, .slice none 0 0] 35)) wm) => (Box2.new wn (.bool false) (.slice none 0 0)).below h2 (by simp))
        have IPF := hide (fun (B : Nat) (wm : World) n a c L (h : LimbsAt wm a c L ∧ NewAt B a L ∧ Canon L ∧ n = decide (r k * dv < 0) ∧ val L = (r k * dv).natAbs ∧ L.length ≤ 35184372088832) => (show IsNum B wm (.agg #[.bool n, .slice a L.length c]) (r k * dv) from ⟨n, a, c, L, rfl, h⟩))
        have HT := hide (fun (W : World) (g : Nat) {np : Bool} {ap : Option Addr} {Lp : List Nat} {cp B : Nat} (h1 : Fr W0.heap.size b W0 W) (h2 : I W) (h3 : Box2 W g (.bool np) (.slice ap Lp.length cp)) (h4 : IsNum B W (.agg #[.bool np, .slice ap Lp.length cp]) (r k * dv)) =>
          (show TailF I b w n a L c np ap Lp cp (exS r s D k) (r k * dv) B g W from
            ⟨h3, h4, (unhide hnum).fr h1 (fun m e => by have := unhide HB m e; omega), h2, (unhide hfr).then (Nat.le_refl _) h1, h1.box (unhide hX1) (unhide hX1).lt (fun m e => by have := unhide HB m e; omega), h1.box (unhide hX0) (unhide hX0).lt (fun m e => unhide HB m e)⟩))
        go_region_held3 (fun w' => Fr W0.heap.size b W0 w' ∧ I w' ∧ w'.cell? ⟨b1, o1 + k * 2, none⟩ = some (.bool nx) ∧ w'.cell? ⟨b1, o1 + k * 2 + 1, none⟩ = some (.slice ax Lx.length cx))
          (first | assumption | exact unhide HK _ (Fr.refl _ _ _).drew (unhide HI _ _ (by assumption) Stb.drewed) | exact unhide HK _ (by assumption) (by assumption) | exact unhide HKA _ _ (by assumption) (by assumption) | exact unhide HKA _ _ (And.left (by assumption)) (And.left (And.right (by assumption))) | exact unhide HKS _ _ _ _ _ _ _ _ hFm hIm xb (by first | omega | exact Fr.size (by assumption)) | fail "KK")
          (first | (go_at_call 48; refine (unhide CW _).mono ?_; rintro e wx ⟨rfl, rfl⟩) | (go_at_call 45; refine (unhide CREST _ (And.left (And.right (by assumption)))).mono ?_; rintro e wn ⟨v, rfl, iv, hIn, hfn⟩; have hFn : Fr W0.heap.size b W0 wn := Fr.then (And.left (by assumption)) (Nat.le_refl _) hfn; have IV := hide iv; have HFN := hide hfn; clear hfn iv) | (go_at_call 53; refine (unhide CMUL _ (And.left (And.right (by assumption))) _ 0 (by first | exact unhide IV | exact (unhide IV).below ((Below.refl _ _).alloc (Nat.le_refl _) _))).mono ?_; rintro e wm ⟨pv, rfl, ⟨np, ap, cp, Lp, rfl, ip⟩, hb1⟩; have hFm : Fr W0.heap.size b W0 wm := Fr.thenB (And.left (by assumption)) (Nat.le_refl _) hb1; have hIm : I wm := unhide HI _ _ (And.left (And.right (by assumption))) (.of hb1); have IP := hide (unhide IPF _ _ _ _ _ _ ip); (first | (have xb : Box2 wm W0.heap.size (.bool false) (.slice none 0 0) := unhide BXA _ _ (unhide HFN) hb1) | (have xb : Box2 wm wn.heap.size (.bool false) (.slice none 0 0) := unhide BXB _ _ hb1) | (have xb : True := trivial)); (first | (have y0 := xb.c0; have y1 := xb.c1; have f0 := xb.free 0; have f1 := xb.free 1) | skip); clear hb1 ip) | fail "NO ARM")
        all_goals
          first
            | refine at_then (TailF _ _ _ _ _ _ _ _ _ _ _ _ _ _ W0.heap.size) (unhide HT _ _ (And.left (by assumption)) (And.left (And.right (by assumption))) (xb.put _ _) ((unhide IP).stb (Stb.put2 (Base := 0) xb (Nat.zero_le _) _ _))) ?_
            | refine at_then (TailF _ _ _ _ _ _ _ _ _ _ _ _ _ _ wn.heap.size) (unhide HT _ _ (And.left (by assumption)) (And.left (And.right (by assumption))) (xb.put _ _) ((unhide IP).stb (Stb.put2 (Base := 0) xb (Nat.zero_le _) _ _))) ?_
            | refine at_then (TailF _ _ _ _ _ _ _ _ _ _ _ _ _ _ wm.heap.size) (unhide HT _ _ (And.left (by assumption)) (And.left (And.right (by assumption))) (Box2.new _ _ _) ((unhide IP).below ((Below.refl _ _).alloc (Nat.le_refl _) _))) ?_
            | fail "NO WAY"
        all_goals
          rintro W ⟨xg, iq, isum, hIW, hFW, x1, x0⟩
          have c0 := xg.c0; have c1 := xg.c1; have d0 := x1.c0; have d1 := x1.c1
          have IS := hide isum; have IQ := hide iq; have IW := hide hIW; have FW := hide hFW; have X1 := hide x1; have X0 := hide x0
          try clear y0 y1 f0 f1
          clear xg iq isum hIW hFW x1 x0 xb hFm hIm hIn hFn IP IV HFN HT IPF BXA BXB HKS HKA HK hI0 CREST CMUL CW CH hX1 hX0 hnum hfr hIr HIW HR
          by_cases hpar : av % 2 = 0
          · have hp1 : ((av : Int).tmod 2 == 0) = true := by
              have : (av : Int).tmod 2 = ((av % 2 : Nat) : Int) := by simp [Int.tmod_eq_emod]
              rw [this, hpar]; rfl
            go_wp2_with (go_at_call 54; refine (unhide CA _).mono ?_; rintro e w' ⟨rfl, rfl⟩)
            refine (add_new (unhide IS) (unhide IQ) (unhide hbnd).1 (unhide hbnd).2.1 (unhide hbnd).2.2.1).mono ?_
            rintro e w4 ⟨rr, rfl, ⟨n4, a4, c4, L4, rfl, i4⟩, hb4⟩
            have x4 := (unhide X1).below hb4 (unhide X1).lt
            have x5 := (unhide X0).below hb4 (unhide X0).lt
            have hsz := (unhide X1).lt
            have e0 := x4.c0; have e1 := x4.c1; have fr0 := x4.free 0; have fr1 := x4.free 1
            have N4 := hide (show IsNum W.heap.size w4 (.agg #[.bool n4, .slice a4 L4.length c4]) _ from ⟨n4, a4, c4, L4, rfl, i4⟩)
            have I4 := hide (unhide HI _ _ (unhide HI _ _ (unhide IW) (.of hb4)) (.put2 x4 (by omega) (.bool n4) (.slice a4 L4.length c4)))
            have F4 := hide (((unhide FW).thenB (Nat.le_refl _) hb4).put2 (g := w.heap.size + 1) (by omega) (.bool n4) (.slice a4 L4.length c4))
            have X4 := hide x4; have X5 := hide x5
            clear i4 hb4 x4 x5 X1 X0 IS IQ IW FW hbnd
            go_wp2
            go_roundw
            case rel => exact ⟨k + 1, n4, a4, c4, L4, by omega, by go_num, (unhide X4).put _ _, (unhide X5).other (by omega) _ _, hide (by rw [hres.out, if_pos hpar]; exact ((unhide N4).mono (by omega)).put2 (by omega) _ _), I4, F4⟩
            case measure => simp [intOf]; omega
          · have hp1 : ((av : Int).tmod 2 == 0) = false := by
              have : (av : Int).tmod 2 = ((av % 2 : Nat) : Int) := by simp [Int.tmod_eq_emod]
              rw [this]; simp; omega
            go_wp2_with (go_at_call 54; refine (unhide CA _).mono ?_; rintro e w' ⟨rfl, rfl⟩)
            refine (sub_ok (unhide IS) (unhide IQ) (unhide hbnd).1 (unhide hbnd).2.1 (unhide hbnd).2.2.2).mono ?_
            rintro e w4 ⟨rr, rfl, ⟨n4, a4, c4, L4, rfl, i4⟩, hb4⟩
            have x4 := (unhide X1).below hb4 (unhide X1).lt
            have x5 := (unhide X0).below hb4 (unhide X0).lt
            have hsz := (unhide X1).lt
            have e0 := x4.c0; have e1 := x4.c1; have fr0 := x4.free 0; have fr1 := x4.free 1
            have N4 := hide (show IsNum W.heap.size w4 (.agg #[.bool n4, .slice a4 L4.length c4]) _ from ⟨n4, a4, c4, L4, rfl, i4⟩)
            have I4 := hide (unhide HI _ _ (unhide HI _ _ (unhide IW) (.of hb4)) (.put2 x4 (by omega) (.bool n4) (.slice a4 L4.length c4)))
            have F4 := hide (((unhide FW).thenB (Nat.le_refl _) hb4).put2 (g := w.heap.size + 1) (by omega) (.bool n4) (.slice a4 L4.length c4))
            have X4 := hide x4; have X5 := hide x5
            clear i4 hb4 x4 x5 X1 X0 IS IQ IW FW hbnd
            go_wp2
            go_roundw
            case rel => exact ⟨k + 1, n4, a4, c4, L4, by omega, by go_num, (unhide X4).put _ _, (unhide X5).other (by omega) _ _, hide (by rw [hres.out, if_neg hpar, ← Int.sub_eq_add_neg]; exact ((unhide N4).mono (by omega)).put2 (by omega) _ _), I4, F4⟩
            case measure => simp [intOf]; omega
      · have hbf : s.testBit k = false := by simpa using hbit
        rw [hbf] at CH
        have hres : Hid (exS r s D (k + 1) = exS r s D k) := by
          unfold Hid; conv => lhs; unfold exS
          rw [if_neg hbit, Int.add_zero]
        have hX1 := hide hx1; have hX0 := hide hx0
        clear hx1 hx0
        go_wp2_with (go_at_call 38; refine (unhide CH _).mono ?_; rintro e w' ⟨rfl, rfl⟩)
        go_roundw
        case rel => exact ⟨k + 1, n, a, c, L, by omega, by go_num, unhide hX1, unhide hX0, by rw [hres.out]; exact hnum, hIr, hfr⟩
        case measure => simp [intOf]; omega
    · have hkk : k = R.length := by omega
      have d0 := hx1.c0; have d1 := hx1.c1; have e0 := hx0.c0; have e1 := hx0.c1; have fr0 := hx0.free 0; have fr1 := hx0.free 1
      have I4 := hide (unhide HI _ _ (unhide hIr) (.put2 hx0 hBase (.bool n) (.slice a L.length c)))
      have F4 := hide ((unhide hfr).put2 (g := w.heap.size) (Nat.le_refl _) (.bool n) (.slice a L.length c))
      have N4 := hide (((unhide hnum).put2 (g := w.heap.size) (by omega) (.bool n) (.slice a L.length c)).mono (Nat.zero_le _))
      rw [hkk] at N4
      subst hkk
      clear hx1 hx0 hnum hIr hfr
      go_wp2
      refine bodyPost_ret (v := .agg #[.bool n, .slice a L.length c]) (by simp [results, Try.results44, go_sem, e0, e1]) rfl ⟨_, rfl, unhide N4, unhide I4, unhide F4⟩

end Go.Proofs.Ytnpogpoknbgodaa

