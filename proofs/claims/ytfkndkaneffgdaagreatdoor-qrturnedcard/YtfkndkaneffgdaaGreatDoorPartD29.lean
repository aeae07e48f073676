/- Part 29 of the texts. -/
import Derived.Test.YtfkndkaneffgdaaGreatDoorPartD28
import Derived.Deep.RegionLaw
import Derived.Test.YtfkndkaneffgdaaGreatDoorPartD04
import Derived.Test.YtfkndkaneffgdaaGreatDoorPartD05
import Derived.Test.YtfkndkaneffgdaaGreatDoorPartD02
import Derived.Maps.AppendAt
import Derived.Test.YtfkndkaneffgdaaGreatDoorPartD08
import Derived.Lib.BitFns
import Derived.Test.YtfkndkaneffgdaaGreatDoorPartD06
import Derived.Test.YtfkndkaneffgdaaGreatDoorPartD09
/- The reference of layer 10: With, Copy, Same. -/
namespace Go.Proofs.YtfkndkaneffgdaaGreatDoor
open Go.RowKit
attribute [local go_sem ↓] Go.wp_at_zero Go.wp_at_succ

/-- A number of a list of one's own written over. -/
theorem OwnB.at {base : Nat} {w : World} {ao : Option Addr} {n cap : Nat} {S : List Nat} (h : OwnB base w (.slice ao n cap) S) {j : Nat} (hj : j < S.length) :
    ∃ g, ao = some ⟨g, 0, none⟩ ∧ base ≤ g ∧ g < w.heap.size ∧ w.cell? ⟨g, j, none⟩ = some (.int .u64 (S.getD j 0 : Nat)) ∧ w.frozen? ⟨g, j, none⟩ = false ∧
      ∀ x, x < 18446744073709551616 → OwnB base (w.setCell ⟨g, j, none⟩ (.int .u64 (x : Nat))) (.slice ao n cap) (S.set j x) := by
  obtain ⟨⟨h1, h2⟩, h3⟩ := h
  rcases h2 with ⟨_, h0⟩ | ⟨g, cap', cur, hv, hg, hh, hc, hm, hs, ht⟩
  · omega
  · simp only [Value.slice.injEq] at hv
    obtain ⟨rfl, rfl, rfl⟩ := hv
    have q : (S.map bitV)[j]? = some (.int .u64 ((S[j] : Nat) : Int)) := by
      rw [List.getElem?_map, List.getElem?_eq_getElem hj]; rfl
    rw [← ht, List.getElem?_take, if_pos (by omega)] at q
    refine ⟨g, rfl, hg, (Array.getElem?_eq_some_iff.1 hh).1, ?_, frozen_of_row w g j _ _ hh, fun x hx => ⟨⟨by simp, .inr ⟨g, cap, cur.setIfInBounds j (.int .u64 (x : Nat)), ?_, hg, heap_setCell_same w g j _ _ _ hh, by simpa using hc, hm, by simpa using hs, ?_⟩⟩, ?_⟩⟩
    · rw [cell_of_row w g j _ _ _ hh]
      have e : S.getD j 0 = S[j] := by rw [List.getD_eq_getElem?_getD, List.getElem?_eq_getElem hj]; rfl
      rw [e]
      simpa using q
    · simp
    · rw [Array.toList_setIfInBounds, List.take_set, List.length_set, ht, List.map_set]
      rfl
    · intro y hy
      rcases List.mem_or_eq_of_mem_set hy with e | e
      · exact h3 y e
      · rw [e]; exact hx

set_option maxRecDepth 20000 in
set_option maxHeartbeats 4000000 in
theorem rwith_of (r c n cap i k q x g : Nat) (ao : Option Addr) (po : Option Addr) (pc : Nat) (S : List Nat) (w w1 : World) (hl : S.length = n) (hq : (i : Int) * (c : Int) = (q : Int)) (hlt : q + k < n) (hn : n ≤ 36) (hx : x < 18446744073709551616)
    (run : (Builtin.append_ #[22, 22] 22 #[.slice (some ⟨w.heap.size + 1 + 1, 0, none⟩) 0 0, .slice ao n cap]).run Tryz.prog (((w.alloc (.cells #[.int .i64 r, .int .i64 c, .slice ao n cap] 24)).alloc (.cells #[.int .i64 0, .int .i64 0, .slice none 0 0] 24)).alloc (.cells #[] 30)) = .ok (.slice po n pc) w1)
    (hO : OwnB (w.heap.size + 1 + 1) w1 (.slice po n pc) S) (hB : Below (w.heap.size + 1 + 1) ((w.alloc (.cells #[.int .i64 r, .int .i64 c, .slice ao n cap] 24)).alloc (.cells #[.int .i64 0, .int .i64 0, .slice none 0 0] 24)) w1) (hp : po = some ⟨g, 0, none⟩) :
    Calls Tryz.prog 37 #[.agg #[.int .i64 r, .int .i64 c, .slice ao n cap], .int .i64 i, .int .i64 k, .int .u64 x] w fun e w' => ∃ v, e = .returned v ∧ NewM w.heap.size w' r c (S.set (q + k) x) v ∧ Below w.heap.size w w' := by
  have RUN := hide run
  obtain ⟨hB1, hA, hX⟩ := boxes2 w _ _ _ _ _ _ w1 hB
  obtain ⟨g', e1, hg, hlt2, cx, fx, put⟩ := hO.at (j := q + k) (by omega)
  rw [hp] at e1
  simp only [Option.some.injEq, Addr.mk.injEq] at e1
  obtain ⟨rfl, _⟩ := e1
  subst hp
  have O2 := put x hx
  have hA2 := hA.other (p := ⟨g, q + k, none⟩) (by show w.heap.size ≠ g; omega) (.int .u64 (x : Nat))
  have hX2 := hX.other (p := ⟨g, q + k, none⟩) (by show w.heap.size + 1 ≠ g; omega) (.int .u64 (x : Nat))
  have hB2 := hB1.setCell (p := ⟨g, q + k, none⟩) (by show w.heap.size ≤ g; omega) (.int .u64 (x : Nat))
  have c0 := hA.c0; have c1 := hA.c1; have c2 := hA.c2
  have y0 := hA2.c0; have y1 := hA2.c1; have y2 := hA2.c2
  have u0 := hX2.c0; have u1 := hX2.c1; have u2 := hX2.c2
  have f0 := hX2.free 0; have f1 := hX2.free 1; have f2 := hX2.free 2
  have XP := hX2.put (.int .i64 r) (.int .i64 c) (.slice (some ⟨g, 0, none⟩) n pc)
  have z0 := XP.c0; have z1 := XP.c1; have z2 := XP.c2
  obtain ⟨bo', d', e2, q2⟩ := O2.bits
  have HN := hide (O2.newB.least (H' := w.heap.size) (by omega))
  rw [List.length_set, hl] at e2
  simp only [Value.slice.injEq] at e2
  obtain ⟨rfl, _, rfl⟩ := e2
  have Q := hide (BitsAt.putM q2 hX2 (.int .i64 r) (.int .i64 c) (.slice (some ⟨g, 0, none⟩) n pc))
  have BP := hide (below_putM hB2 (b := w.heap.size + 1) (by omega) (.int .i64 r) (.int .i64 c) (.slice (some ⟨g, 0, none⟩) n pc))
  have hkI : (q : Int) + (k : Int) < (n : Int) := by omega
  have HL := hide hl
  generalize S.getD (q + k) 0 = old at *
  clear run hO hB hB1 hA hX hA2 hX2 hB2 XP O2 q2 put hl hg
  go_enter Tryz.func37, Tryz.ntmps37
  go_wp2_with (at_builtin; refine wpList_append_ran _ rfl _ _ 22 rfl _ _ _ _ rfl rfl (unhide RUN) ?_; clear RUN)
  exact bodyPost_ret (v := .agg #[.int .i64 r, .int .i64 c, .slice (some ⟨g, 0, none⟩) n pc]) (by simp [results, Tryz.results37, go_sem, z0, z1, z2]) rfl ⟨_, rfl, ⟨some ⟨g, 0, none⟩, pc, by rw [List.length_set, unhide HL], unhide HN, unhide Q⟩, unhide BP⟩

end Go.Proofs.YtfkndkaneffgdaaGreatDoor

/- The reference of layer 10: With, Copy, Stack, Same, Eye, Col; the law's told, form. -/
namespace Go.Proofs.YtfkndkaneffgdaaGreatDoor
open Go.RowKit
attribute [local go_sem ↓] Go.wp_at_zero Go.wp_at_succ
theorem rwith_any (r c cap i k x : Nat) (ao : Option Addr) (S : List Nat) (w : World) (h : Mx w ao cap r c S) (hi : i < r) (hk : k < c) (hx : x < 18446744073709551616) :
    Calls Tryz.prog 37 #[.agg #[.int .i64 r, .int .i64 c, .slice ao S.length cap], .int .i64 i, .int .i64 k, .int .u64 x] w fun e w' => ∃ v, e = .returned v ∧ NewM w.heap.size w' r c (S.set (i * c + k) x) v ∧ Below w.heap.size w w' := by
  have hp : i * c + k < S.length := by rw [h.2.1]; exact place_lt hi hk
  have h36 := h.small
  have b0 := below_alloc9 w (.cells #[.int .i64 r, .int .i64 c, .slice ao S.length cap] 24)
  have s0 := size_alloc9 w (.cells #[.int .i64 r, .int .i64 c, .slice ao S.length cap] 24)
  have b1 := below_alloc9 (w.alloc (.cells #[.int .i64 r, .int .i64 c, .slice ao S.length cap] 24)) (.cells #[.int .i64 0, .int .i64 0, .slice none 0 0] 24)
  have s1 := size_alloc9 (w.alloc (.cells #[.int .i64 r, .int .i64 c, .slice ao S.length cap] 24)) (.cells #[.int .i64 0, .int .i64 0, .slice none 0 0] 24)
  have bb := b0.trans (b1.mono b0.size)
  have b2 := below_alloc9 ((w.alloc (.cells #[.int .i64 r, .int .i64 c, .slice ao S.length cap] 24)).alloc (.cells #[.int .i64 0, .int .i64 0, .slice none 0 0] 24)) (.cells #[] 30)
  have on := OwnB.nil ((w.alloc (.cells #[.int .i64 r, .int .i64 c, .slice ao S.length cap] 24)).alloc (.cells #[.int .i64 0, .int .i64 0, .slice none 0 0] 24)) (w.heap.size + 1 + 1) (by rw [s1, s0]; omega)
  have bits := (h.1.below bb).below b2
  obtain ⟨po, pc, w1, run, own, gr⟩ := copy_bits _ (w.heap.size + 1 + 1) 22 ao cap (mxL S) _ bits (by rw [mxL_len]; omega) on.1 (by simp)
  rw [natL_mxL, mxL_len] at *
  have bel := (b2.mono (Nat.le_of_eq (by rw [s1, s0]))).grown gr (by simp) (fun g hg => by cases hg; rw [s1, s0]; exact Nat.le_refl _)
  rw [s1, s0] at run
  obtain ⟨g, hg, _⟩ := own.at hp
  exact rwith_of r c S.length cap i k (i * c) x g ao po pc S w w1 rfl (cast_mul10 i c) hp h36 hx run own bel hg

set_option maxRecDepth 20000 in
set_option maxHeartbeats 2000000 in
theorem rsame_any (r c : Int) (ao bo : Option Addr) (cap d : Nat) (S : List Nat) (w : World) (h : BitsAt w ao cap (mxL S)) (h2 : BitsAt w bo d (mxL S)) (hl : S.length ≤ 1000000) :
    Calls Tryz.prog 18 #[.agg #[.int .i64 r, .int .i64 c, .slice ao S.length cap], .agg #[.int .i64 r, .int .i64 c, .slice bo S.length d]] w fun e w' => e = .returned (.bool true) ∧ Below w.heap.size w w' := by
  have b0 := below_alloc9 w (.cells #[.int .i64 r, .int .i64 c, .slice ao S.length cap] 24)
  have b1 := below_alloc9 (w.alloc (.cells #[.int .i64 r, .int .i64 c, .slice ao S.length cap] 24)) (.cells #[.int .i64 r, .int .i64 c, .slice bo S.length d] 24)
  have bb := b0.trans (b1.mono b0.size)
  have K := hide (same_any ao bo cap d (mxL S) _ (h.below bb) (h2.below bb) (by rw [mxL_len]; omega))
  rw [mxL_len] at K
  have HB := hide bb
  clear b0 b1 bb h h2
  generalize S.length = n at *
  go_enter Tryz.func18, Tryz.ntmps18
  go_wp2_with fail
  refine Calls.mono (unhide K) ?_
  rintro e w1 ⟨rfl, hb1⟩
  clear K
  go_wp2
  go_ret
  exact ⟨rfl, (unhide HB).trans (hb1.mono (unhide HB).size)⟩

end Go.Proofs.YtfkndkaneffgdaaGreatDoor

/- Rows of numbers, as they lie in memory. -/
namespace Go.Proofs.YtfkndkaneffgdaaGreatDoor
open Go.RowKit

/-- A number in memory: its sign, where its limbs lie, the limbs. -/
structure Nm where
  neg : Bool
  ao : Option Addr
  cap : Nat
  L : List Nat

/-- A row in memory: where its numbers lie, the numbers. -/
structure Rw where
  ao : Option Addr
  cap : Nat
  R : List Nm

def Nm.nil : Nm := ⟨false, none, 0, []⟩
def Rw.nil : Rw := ⟨none, 0, []⟩
def nmAt (R : List Nm) (k : Nat) : Nm := R[k]?.getD Nm.nil
def rwAt (M : List Rw) (i : Nat) : Rw := M[i]?.getD Rw.nil
def Nm.v (x : Nm) : Value := .agg #[.bool x.neg, .slice x.ao x.L.length x.cap]
def Rw.v (r : Rw) : Value := .slice r.ao r.R.length r.cap

end Go.Proofs.YtfkndkaneffgdaaGreatDoor

/- Rows of numbers, and rows of rows, that a call itself makes by appending. -/
namespace Go.Proofs.YtfkndkaneffgdaaGreatDoor
open Go.RowKit
def numCells (R : List Nm) : List Value := R.flatMap (fun x => [.bool x.neg, .slice x.ao x.L.length x.cap])

theorem length_numCells (R : List Nm) : (numCells R).length = R.length * 2 := by
  induction R with
  | nil => rfl
  | cons x R ih => simp only [numCells, List.flatMap_cons, List.length_append, List.length_cons, List.length_nil] at ih ⊢; rw [show (List.flatMap (fun x => [Value.bool x.neg, Value.slice x.ao x.L.length x.cap]) R).length = R.length * 2 from ih]; omega
theorem numCells_get : ∀ (R : List Nm) (k : Nat), k < R.length → (numCells R)[k * 2]? = some (.bool (nmAt R k).neg) ∧ (numCells R)[k * 2 + 1]? = some (.slice (nmAt R k).ao (nmAt R k).L.length (nmAt R k).cap)
  | x :: R, 0, _ => by simp [numCells, nmAt]
  | x :: R, k + 1, h => by
    have := numCells_get R k (by simpa using h)
    have e : numCells (x :: R) = .bool x.neg :: .slice x.ao x.L.length x.cap :: numCells R := rfl
    rw [e, show (k + 1) * 2 = k * 2 + 1 + 1 by omega]
    simpa [nmAt] using this

end Go.Proofs.YtfkndkaneffgdaaGreatDoor

/- Frames: what a call leaves alone, but for one block; what a number's box is to others. -/
namespace Go.Proofs.YtfkndkaneffgdaaGreatDoor
open Go.RowKit

/-- Below B nothing has turned but block b. -/
structure Fr (B : Nat) (b : Option Nat) (w w' : World) : Prop where
  os : w'.os = w.os
  tape : w'.tape = w.tape
  output : w'.output = w.output
  size : w.heap.size ≤ w'.heap.size
  block : ∀ k, k < B → some k ≠ b → w'.heap[k]? = w.heap[k]?

theorem Fr.refl (B : Nat) (b : Option Nat) (w : World) : Fr B b w w := ⟨rfl, rfl, rfl, Nat.le_refl _, fun _ _ _ => rfl⟩
theorem Fr.trans {B : Nat} {b : Option Nat} {a c d : World} (h : Fr B b a c) (k : Fr B b c d) : Fr B b a d :=
  ⟨k.os.trans h.os, k.tape.trans h.tape, k.output.trans h.output, Nat.le_trans h.size k.size, fun i hi hb => (k.block i hi hb).trans (h.block i hi hb)⟩
theorem Fr.mono {B B' : Nat} {b : Option Nat} {w w' : World} (h : Fr B b w w') (hB : B' ≤ B) : Fr B' b w w' := ⟨h.os, h.tape, h.output, h.size, fun k hk hb => h.block k (Nat.lt_of_lt_of_le hk hB) hb⟩
theorem Fr.of {B : Nat} {w w' : World} (h : Below B w w') (b : Option Nat) : Fr B b w w' := ⟨h.os, h.tape, h.output, h.size, fun k hk _ => h.block k hk⟩
theorem Fr.drew {B : Nat} {b : Option Nat} {w w' : World} (h : Fr B b w w') : Fr B b w w'.drew := ⟨h.os, h.tape, h.output, h.size, h.block⟩
theorem Fr.alloc {B : Nat} {b : Option Nat} {w w' : World} (h : Fr B b w w') (hB : B ≤ w'.heap.size) (o : Obj) : Fr B b w (w'.alloc o) :=
  h.trans (.of ((Below.refl _ _).alloc hB o) b)
theorem Fr.setCell {B : Nat} {b : Option Nat} {w w' : World} (h : Fr B b w w') {p : Addr} (hp : B ≤ p.block) (u : Value) : Fr B b w (w'.setCell p u) :=
  h.trans (.of ((Below.refl _ _).setCell hp u) b)
/-- One call behind another. -/
theorem Fr.then {B : Nat} {b : Option Nat} {w w1 w2 : World} (h : Fr B b w w1) (hB : B ≤ w.heap.size) (k : Fr w1.heap.size b w1 w2) : Fr B b w w2 := h.trans (k.mono (Nat.le_trans hB h.size))
theorem Fr.below {B : Nat} {b : Option Nat} {w w' : World} (h : Fr B b w w') {C : Nat} (hC : C ≤ B) (hb : ∀ m, b = some m → C ≤ m) : Below C w w' :=
  ⟨h.os, h.tape, h.output, h.size, fun k hk => h.block k (by omega) (fun e => by have := hb k e.symm; omega)⟩
theorem Fr.box {B : Nat} {b : Option Nat} {w w' : World} (h : Fr B b w w') {g : Nat} {x y : Value} (hx : Box2 w g x y) (hg : g < B) (hb : ∀ m, b = some m → m < g) : Box2 w' g x y :=
  (h.block g hg (fun e => by have := hb g e.symm; omega)).trans hx
theorem LimbsAt.fr {w w' : World} {ao : Option Addr} {cap B : Nat} {L : List Nat} (h : LimbsAt w ao cap L) {b : Option Nat} (hf : Fr w.heap.size b w w') (hn : NewAt B ao L) (hb : ∀ m, b = some m → m < B) : LimbsAt w' ao cap L := by
  refine ⟨h.1, h.2.1, ?_⟩
  rcases h.2.2 with h0 | ⟨c, off, h1, h2, h3⟩
  · exact .inl h0
  · rcases hn with h0 | ⟨b', off', h1', h2'⟩
    · exact .inl h0
    · rw [h1] at h1'
      simp only [Option.some.injEq, Addr.mk.injEq] at h1'
      obtain ⟨rfl, rfl, _⟩ := h1'
      refine .inr ⟨c, off, h1, Nat.lt_of_lt_of_le h2 hf.size, fun i hi => ?_⟩
      rw [World.cell?_of_block (a := ⟨c, off + i, none⟩) (hf.block c h2 (fun e => by have := hb c e.symm; omega))]
      exact h3 i hi
theorem IsNum.fr {B : Nat} {w w' : World} {v : Value} {x : Int} (h : IsNum B w v x) {b : Option Nat} (hf : Fr w.heap.size b w w') (hb : ∀ m, b = some m → m < B) : IsNum B w' v x := by
  obtain ⟨neg, ao, cap, L, h1, h2, h3, h4⟩ := h
  exact ⟨neg, ao, cap, L, h1, h2.fr hf h3 hb, h3, h4⟩
end Go.Proofs.YtfkndkaneffgdaaGreatDoor

