/- Part 24 of the texts. -/
import Derived.Test.YtheepcdlakjdcaaDoorPart23
import Derived.Test.YtheepcdlakjdcaaDoorChecked
import Derived.Test.YtheepcdlakjdcaaDoorPart02
import Derived.ProofKit
import Derived.SizedLaws
import Derived.Lib.SmallJoins
import Derived.Test.YtheepcdlakjdcaaDoorRows
import Derived.Test.YtheepcdlakjdcaaDoorPart09
import Derived.Lib.LaidTab
import Derived.OpenShut
import Derived.Deep.DeepHandedRow
import Derived.Test.YtheepcdlakjdcaaDoorPart18
/- The law MatrixParts, walked. -/
namespace Go.Proofs.YtheepcdlakjdcaaDoor
open Go.RowKit
attribute [local go_sem ↓] Go.wp_at_zero Go.wp_at_succ

/-- Block b is a box of four whole numbers. -/
def Box4P (w : World) (b : Nat) (x y z u : Int) : Prop := w.heap[b]? = some (.cells #[.int .i64 x, .int .i64 y, .int .i64 z, .int .i64 u] 43 (0, 0))
theorem Box4P.c0 {w : World} {b : Nat} {x y z u : Int} (h : Box4P w b x y z u) : w.cell? ⟨b, 0, none⟩ = some (.int .i64 x) := by rw [cell_of_row w b 0 _ _ _ h]; rfl
theorem Box4P.c1 {w : World} {b : Nat} {x y z u : Int} (h : Box4P w b x y z u) : w.cell? ⟨b, 1, none⟩ = some (.int .i64 y) := by rw [cell_of_row w b 1 _ _ _ h]; rfl
theorem Box4P.c2 {w : World} {b : Nat} {x y z u : Int} (h : Box4P w b x y z u) : w.cell? ⟨b, 2, none⟩ = some (.int .i64 z) := by rw [cell_of_row w b 2 _ _ _ h]; rfl
theorem Box4P.c3 {w : World} {b : Nat} {x y z u : Int} (h : Box4P w b x y z u) : w.cell? ⟨b, 3, none⟩ = some (.int .i64 u) := by rw [cell_of_row w b 3 _ _ _ h]; rfl
theorem Box4P.all {w w' : World} {b : Nat} {x y z u : Int} (h : Box4P w b x y z u) (hb : Below w.heap.size w w') : Box4P w' b x y z u := (hb.block b (Array.getElem?_eq_some_iff.1 h).1).trans h
theorem Box4P.new (w : World) (x y z u : Int) : Box4P (w.alloc (.cells #[.int .i64 x, .int .i64 y, .int .i64 z, .int .i64 u] 43)) w.heap.size x y z u := heap_alloc_new w _
theorem Box4P.away {w : World} {g b k : Nat} {x y z u : Int} {v : Int} (hx : Box4P w b x y z u) (hc : w.cell? ⟨g, k, none⟩ = some (.int .u64 v)) : b ≠ g := by
  rintro rfl
  rw [cell_of_row w b k _ _ _ hx] at hc
  rcases (show k = 0 ∨ k = 1 ∨ k = 2 ∨ k = 3 ∨ 4 ≤ k by omega) with e | e | e | e | e
  · subst e; simp at hc
  · subst e; simp at hc
  · subst e; simp at hc
  · subst e; simp at hc
  · rw [Array.getElem?_eq_none (by simp; omega)] at hc; simp at hc
theorem Box4P.other {w : World} {b : Nat} {x y z u : Int} (h : Box4P w b x y z u) {p : Addr} (hp : b ≠ p.block) (v : Value) : Box4P (w.setCell p v) b x y z u := (Below.heap_setCell w p v b hp).trans h

/-- A matrix that was answered: its box, its numbers, from block H on. -/
structure AnsAt (wr : World) (H g : Nat) (p q : Nat) (so : Option Addr) (sd : Nat) (S : List Nat) : Prop where
  box : BoxM wr g (.int .i64 p) (.int .i64 q) (.slice so S.length sd)
  bits : BitsAt wr so sd (mxL S)
  new : NewB H so (mxL S)
theorem AnsAt.all {wr w' : World} {H g p q : Nat} {so : Option Addr} {sd : Nat} {S : List Nat} (h : AnsAt wr H g p q so sd S) (hb : Below wr.heap.size wr w') : AnsAt w' H g p q so sd S := ⟨h.box.all hb, h.bits.below hb, h.new⟩
theorem AnsAt.put {wr : World} {H g p q : Nat} {so : Option Addr} {sd : Nat} {S : List Nat} (h : AnsAt wr H g p q so sd S) {b k : Nat} {z0 : Int} (hc : wr.cell? ⟨b, k, none⟩ = some (.int .u64 z0)) (hb : b < H) (z : Int) : AnsAt (wr.setCell ⟨b, k, none⟩ (.int .u64 z)) H g p q so sd S :=
  ⟨h.box.other (p := ⟨b, k, none⟩) (h.box.away hc) _, h.bits.far h.new hb k _, h.new⟩

structure PtSt (w wr : World) (H g2 g3 g4 : Nat) (r c : Int) (ao : Option Addr) (n cap : Nat) (i k a b : Int) (po : Option Addr) (pc p1 p2 q1 q2 : Nat) (so : Option Addr) (sd : Nat) (S : List Nat) (ro : Option Addr) (rd : Nat) (T : List Nat) : Prop where
  bel : Below w.heap.size w wr
  m : BoxM wr w.heap.size (.int .i64 r) (.int .i64 c) (.slice ao n cap)
  x : Box4P wr (w.heap.size + 1) i k a b
  own : BoxM wr g2 (.int .i64 r) (.int .i64 c) (.slice po n pc)
  copy : CopyB w.heap.size H wr po n
  s : AnsAt wr H g3 p1 p2 so sd S
  t : AnsAt wr H g4 q1 q2 ro rd T
theorem PtSt.all {w wr w' : World} {H g2 g3 g4 : Nat} {r c : Int} {ao : Option Addr} {n cap : Nat} {i k a b : Int} {po : Option Addr} {pc p1 p2 q1 q2 : Nat} {so : Option Addr} {sd : Nat} {S : List Nat} {ro : Option Addr} {rd : Nat} {T : List Nat} (h : PtSt w wr H g2 g3 g4 r c ao n cap i k a b po pc p1 p2 q1 q2 so sd S ro rd T) (hb : Below wr.heap.size wr w') : PtSt w w' H g2 g3 g4 r c ao n cap i k a b po pc p1 p2 q1 q2 so sd S ro rd T :=
  ⟨h.bel.trans (hb.mono h.bel.size), h.m.all hb, h.x.all hb, h.own.all hb, h.copy.below hb, h.s.all hb, h.t.all hb⟩
theorem PtSt.put {w wr : World} {H g2 g3 g4 : Nat} {r c : Int} {ao : Option Addr} {n cap : Nat} {i k a b : Int} {po : Option Addr} {pc p1 p2 q1 q2 : Nat} {so : Option Addr} {sd : Nat} {S : List Nat} {ro : Option Addr} {rd : Nat} {T : List Nat} (h : PtSt w wr H g2 g3 g4 r c ao n cap i k a b po pc p1 p2 q1 q2 so sd S ro rd T) {j : Nat} (hj : j < n) :
    ∃ g z0, po = some ⟨g, 0, none⟩ ∧ wr.cell? ⟨g, j, none⟩ = some (.int .u64 z0) ∧ wr.frozen? ⟨g, j, none⟩ = false ∧ ∀ z, PtSt w (wr.setCell ⟨g, j, none⟩ (.int .u64 z)) H g2 g3 g4 r c ao n cap i k a b po pc p1 p2 q1 q2 so sd S ro rd T := by
  obtain ⟨g, e1, e2, e3, e4⟩ := h.copy.resolve_left (by omega)
  obtain ⟨z0, cz⟩ := e4.cell hj
  exact ⟨g, z0, e1, cz, e4.free j, fun z => ⟨h.bel.setCell (p := ⟨g, j, none⟩) e2 _, h.m.other (p := ⟨g, j, none⟩) (h.m.away cz) _, h.x.other (p := ⟨g, j, none⟩) (h.x.away cz) _, h.own.other (p := ⟨g, j, none⟩) (h.own.away cz) _, h.copy.set g j z, h.s.put cz e3 z, h.t.put cz e3 z⟩⟩

set_option maxRecDepth 20000 in
set_option maxHeartbeats 8000000 in
theorem matrixParts_of (r c : Int) (ao : Option Addr) (cap : Nat) (I : List Int) (i k a b : Int) (p1 p2 q1 q2 : Nat) (S T : List Nat) (f h : Int) (ok inn : Bool) (w : World) (hI : BitsAt w ao cap I) (hl : I.length ≤ 17592186043904) (hT : Tab w)
    (way : (ok = false ∧ f = 1 ∧ h = 1 ∧ p1 = 0 ∧ p2 = 0 ∧ q1 = 0 ∧ q2 = 0 ∧ S = [] ∧ T = []) ∨ (ok = true ∧ inn = false ∧ f = 3 ∧ h = 0 ∧ p1 = 0 ∧ p2 = 0 ∧ S = []) ∨ (ok = true ∧ inn = true ∧ f = 0 ∧ h = 0)) (hS : S.length ≤ 36) (hTl : T.length ≤ 36)
    (C2 : ∀ w' po pc, BitsAt w' po pc I → Calls Tryd.prog 19 #[.agg #[.int .i64 r, .int .i64 c, .slice po I.length pc], .int .i64 i, .int .i64 k, .int .i64 a, .int .i64 b] w' fun e w'' => ∃ v, e = .returned (.tuple #[v, .int .i64 f]) ∧ NewM w'.heap.size w'' p1 p2 S v ∧ Below w'.heap.size w' w'')
    (C3 : ∀ w' po pc, BitsAt w' po pc I → Calls Tryd.prog 20 #[.agg #[.int .i64 r, .int .i64 c, .slice po I.length pc]] w' fun e w'' => ∃ v, e = .returned (.tuple #[v, .int .i64 h]) ∧ NewM w'.heap.size w'' q1 q2 T v ∧ Below w'.heap.size w' w'')
    (C5 : okB r c I.length = ok)
    (C6 : ok = true → ∀ w', Below w.heap.size w w' → Calls Tryd.prog 22 #[.agg #[.int .i64 r, .int .i64 c, .slice ao I.length cap]] w' fun e w'' => ∃ v, e = .returned v ∧ NewM 0 w'' q1 q2 T v ∧ Below w'.heap.size w' w'')
    (C7 : ok = true → ∀ w', Calls Tryd.prog 23 #[.agg #[.int .i64 r, .int .i64 c, .slice ao I.length cap], .int .i64 i, .int .i64 k, .int .i64 a, .int .i64 b] w' fun e w'' => e = .returned (.bool inn) ∧ Below w'.heap.size w' w'')
    (C8 : ok = true → inn = true → ∀ w', Below w.heap.size w w' → Calls Tryd.prog 24 #[.agg #[.int .i64 r, .int .i64 c, .slice ao I.length cap], .int .i64 i, .int .i64 k, .int .i64 a, .int .i64 b] w' fun e w'' => ∃ v, e = .returned v ∧ NewM 0 w'' p1 p2 S v ∧ Below w'.heap.size w' w'') :
    Calls Tryd.prog 5 #[.agg #[.int .i64 r, .int .i64 c, .slice ao I.length cap], .agg #[.int .i64 i, .int .i64 k, .int .i64 a, .int .i64 b]] w fun e w' => e = .returned (.bool true) ∧ Below w.heap.size w w' := by
  have HT := hide hT; have WAY := hide way; have HSl := hide hS; have HTl := hide hTl
  have K2 := hide C2; have K3 := hide C3; have K6 := hide C6; have K7 := hide C7; have K8 := hide C8
  have K5 := hide (fun w' => rright_any r c ao I.length cap w')
  rw [C5] at K5
  have b0 := below_alloc9 w (.cells #[.int .i64 r, .int .i64 c, .slice ao I.length cap] 24)
  have s0 := size_alloc9 w (.cells #[.int .i64 r, .int .i64 c, .slice ao I.length cap] 24)
  have x0 := BoxM.new w (.int .i64 r) (.int .i64 c) (.slice ao I.length cap)
  have b1 := below_alloc9 (w.alloc (.cells #[.int .i64 r, .int .i64 c, .slice ao I.length cap] 24)) (.cells #[.int .i64 i, .int .i64 k, .int .i64 a, .int .i64 b] 43)
  have x1 := Box4P.new (w.alloc (.cells #[.int .i64 r, .int .i64 c, .slice ao I.length cap] 24)) i k a b
  rw [s0] at x1
  have bb := b0.trans (b1.mono b0.size)
  have HX0 := hide (x0.all b1); have HX1 := hide x1; have HBB := hide bb
  have K1 := hide (rcopy_any r c ao cap I _ (hI.below bb) hl)
  have SAME := hide (fun base w' po pc (o : OwnB base w' (.slice po I.length pc) (natL I)) => o.same hI)
  have hl2 := hide (show I.length ≤ 35184372088830 by omega)
  clear b0 s0 x0 b1 x1 bb hI hl hT way hS hTl C2 C3 C5 C6 C7 C8
  go_enter Tryd.func5, Tryd.ntmps5
  go_wp2_with fail
  refine Calls.mono (unhide K1) ?_
  rintro e w1 ⟨po, pc, rfl, own1, hb1⟩
  have bel1 := (unhide HBB).trans (hb1.mono (unhide HBB).size)
  have ba := below_alloc9 w1 (.cells #[.int .i64 r, .int .i64 c, .slice po I.length pc] 24)
  have q1' := hide ((unhide SAME _ _ _ _ own1).below ba)
  have cp1 := hide ((own1.copy.base (unhide HBB).size).below ba)
  have bx1 := BoxM.new w1 (.int .i64 r) (.int .i64 c) (.slice po I.length pc)
  have M1 := hide (((unhide HX0).all hb1).all ba)
  have F1 := ((unhide HX1).all hb1).all ba
  have B1 := hide (bel1.trans (ba.mono bel1.size))
  have BX1 := hide bx1; have F1' := hide F1
  have x0 := F1.c0; have x1 := F1.c1; have x2 := F1.c2; have x3 := F1.c3
  clear own1 hb1 bel1 ba bx1 F1 K1 HX0 HX1 HBB SAME
  go_wp2_with fail
  refine (unhide K2 _ _ _ (unhide q1')).mono ?_
  rintro e w2 ⟨v, rfl, ⟨so, sd, rfl, ns, qs⟩, hb2⟩
  have ba := below_alloc9 w2 (.cells #[.int .i64 p1, .int .i64 p2, .slice so S.length sd] 24)
  have zz := hide (size_alloc9 w1 (.cells #[.int .i64 r, .int .i64 c, .slice po I.length pc] 24))
  have NS := hide (ns.least (H' := w1.heap.size) (by rw [unhide zz]; omega))
  have QS := hide (qs.below ba)
  have XS := hide (BoxM.new w2 (.int .i64 p1) (.int .i64 p2) (.slice so S.length sd))
  have B2 := hide (((unhide B1).trans (hb2.mono (unhide B1).size)).trans (ba.mono (Nat.le_trans (unhide B1).size hb2.size)))
  have M2 := hide (((unhide M1).all hb2).all ba); have F2 := hide (((unhide F1').all hb2).all ba); have BX2 := hide (((unhide BX1).all hb2).all ba); have CP2 := hide (((unhide cp1).below hb2).below ba); have Q2 := hide (((unhide q1').below hb2).below ba)
  have HZ2 := hide (show w1.heap.size ≤ w2.heap.size from by have := hb2.size; rw [unhide zz] at this; omega)
  clear x0 x1 x2 x3 ns qs hb2 ba B1 M1 F1' BX1 cp1 q1' K2 zz
  have y0 := (unhide BX2).c0; have y1 := (unhide BX2).c1; have y2 := (unhide BX2).c2
  go_wp2_with fail
  refine (unhide K3 _ _ _ (unhide Q2)).mono ?_
  rintro e w3 ⟨v, rfl, ⟨ro, rd, rfl, nt, qt⟩, hb3⟩
  have ba := below_alloc9 w3 (.cells #[.int .i64 q1, .int .i64 q2, .slice ro T.length rd] 24)
  have zz := hide (size_alloc9 w2 (.cells #[.int .i64 p1, .int .i64 p2, .slice so S.length sd] 24))
  have bel3 := (unhide B2).trans (hb3.mono (unhide B2).size)
  have ST := hide (show PtSt w (w3.alloc (.cells #[.int .i64 q1, .int .i64 q2, .slice ro T.length rd] 24)) w1.heap.size w1.heap.size w2.heap.size w3.heap.size r c ao I.length cap i k a b po pc p1 p2 q1 q2 so sd S ro rd T from
    ⟨bel3.trans (ba.mono bel3.size), ((unhide M2).all hb3).all ba, ((unhide F2).all hb3).all ba, ((unhide BX2).all hb3).all ba, ((unhide CP2).below hb3).below ba, ⟨((unhide XS).all hb3).all ba, ((unhide QS).below hb3).below ba, unhide NS⟩, ⟨BoxM.new w3 _ _ _, qt.below ba, nt.least (by rw [unhide zz]; have := unhide HZ2; omega)⟩⟩)
  clear y0 y1 y2 nt qt hb3 ba bel3 zz B2 M2 F2 BX2 CP2 Q2 XS QS NS K3 HZ2
  have y0 := (unhide ST).own.c0; have y1 := (unhide ST).own.c1; have y2 := (unhide ST).own.c2
  go_wp2_with fail
  generalize w2.heap.size = g3 at *
  generalize w3.heap.size = g4 at *
  refine (spoil10_any (fun W => PtSt w W w1.heap.size w1.heap.size g3 g4 r c ao I.length cap i k a b po pc p1 p2 q1 q2 so sd S ro rd T) r c po I.length pc _ (unhide hl2) (unhide ST) (fun w' w'' h hb => h.all hb) (fun w' j h hj => h.put hj)).mono ?_
  rintro e w4 ⟨rfl, st4⟩
  clear y0 y1 y2 ST
  have ST := hide st4
  have m0 := st4.m.c0; have m1 := st4.m.c1; have m2 := st4.m.c2
  clear st4
  go_wp2_with fail
  refine (unhide K5 _).mono ?_
  rintro e w5 ⟨rfl, hb⟩
  clear m0 m1 m2
  have ST := hide ((unhide ST).all hb)
  have m0 := (unhide ST).m.c0; have m1 := (unhide ST).m.c1; have m2 := (unhide ST).m.c2
  have x0 := (unhide ST).x.c0; have x1 := (unhide ST).x.c1; have x2 := (unhide ST).x.c2; have x3 := (unhide ST).x.c3
  have s0 := (unhide ST).s.box.c0; have s1 := (unhide ST).s.box.c1; have s2 := (unhide ST).s.box.c2
  have t0 := (unhide ST).t.box.c0; have t1 := (unhide ST).t.box.c1; have t2 := (unhide ST).t.box.c2
  clear hb K5
  rcases unhide WAY with ⟨rfl, rfl, rfl, rfl, rfl, rfl, rfl, rfl, rfl⟩ | ⟨rfl, rfl, rfl, rfl, rfl, rfl, rfl⟩ | ⟨rfl, rfl, rfl, rfl⟩
  · clear WAY K6 K7 K8
    simp only [List.length_nil] at s2 t2
    go_wp2_with fail
    refine (told_err _ _ _ _ _ _ _ 1 _ (.inl rfl)).mono ?_
    rintro e w6 ⟨rfl, hb⟩
    clear m0 m1 m2 x0 x1 x2 x3 s0 s1 s2 t0 t1 t2
    have ST := hide ((unhide ST).all hb)
    have m0 := (unhide ST).m.c0; have m1 := (unhide ST).m.c1; have m2 := (unhide ST).m.c2
    have x0 := (unhide ST).x.c0; have x1 := (unhide ST).x.c1; have x2 := (unhide ST).x.c2; have x3 := (unhide ST).x.c3
    have s0 := (unhide ST).s.box.c0; have s1 := (unhide ST).s.box.c1; have s2 := (unhide ST).s.box.c2
    have t0 := (unhide ST).t.box.c0; have t1 := (unhide ST).t.box.c1; have t2 := (unhide ST).t.box.c2
    clear hb
    simp only [List.length_nil] at s2 t2
    go_wp2_with fail
    refine (told_err _ _ _ _ _ _ _ 1 _ (.inl rfl)).mono ?_
    rintro e w6 ⟨rfl, hb⟩
    clear m0 m1 m2 x0 x1 x2 x3 s0 s1 s2 t0 t1 t2
    have ST := hide ((unhide ST).all hb)
    clear hb
    go_wp2_with fail
    refine (awake10_any _ ((unhide HT).all (unhide ST).bel)).mono ?_
    rintro e w9 ⟨rfl, hb⟩
    have BE := hide ((unhide ST).bel.trans (hb.mono (unhide ST).bel.size))
    clear hb ST
    go_wp2
    go_ret
    exact ⟨rfl, unhide BE⟩
  · clear WAY K8
    go_wp2_with fail
    refine at_world (fun W => PtSt w W w1.heap.size w1.heap.size g3 g4 r c ao I.length cap i k a b po pc 0 0 q1 q2 so sd [] ro rd T) (unhide ST) ?_
    intro W st
    have ST := hide st
    have HK := hide (fun w' (h : Below W.heap.size W w') => (show Below W.heap.size W w' ∧ (w'.cell? ⟨w.heap.size, 0, none⟩ = some (.int .i64 r) ∧ w'.cell? ⟨w.heap.size, 1, none⟩ = some (.int .i64 c) ∧ w'.cell? ⟨w.heap.size, 2, none⟩ = some (.slice ao I.length cap)) ∧ (w'.cell? ⟨w.heap.size + 1, 0, none⟩ = some (.int .i64 i) ∧ w'.cell? ⟨w.heap.size + 1, 1, none⟩ = some (.int .i64 k) ∧ w'.cell? ⟨w.heap.size + 1, 2, none⟩ = some (.int .i64 a) ∧ w'.cell? ⟨w.heap.size + 1, 3, none⟩ = some (.int .i64 b)) ∧ (w'.cell? ⟨g3, 0, none⟩ = some (.int .i64 ((0 : Nat) : Int)) ∧ w'.cell? ⟨g3, 1, none⟩ = some (.int .i64 ((0 : Nat) : Int)) ∧ w'.cell? ⟨g3, 2, none⟩ = some (.slice so ([] : List Nat).length sd)) ∧ (w'.cell? ⟨g4, 0, none⟩ = some (.int .i64 q1) ∧ w'.cell? ⟨g4, 1, none⟩ = some (.int .i64 q2) ∧ w'.cell? ⟨g4, 2, none⟩ = some (.slice ro T.length rd)) from
      have y := st.all h; ⟨h, ⟨y.m.c0, y.m.c1, y.m.c2⟩, ⟨y.x.c0, y.x.c1, y.x.c2, y.x.c3⟩, ⟨y.s.box.c0, y.s.box.c1, y.s.box.c2⟩, y.t.box.c0, y.t.box.c1, y.t.box.c2⟩))
    have HW := hide (fun w' (h : Below W.heap.size W w') => st.bel.trans (h.mono st.bel.size))
    clear st m0 m1 m2 x0 x1 x2 x3 s0 s1 s2 t0 t1 t2
    go_region_held3 (fun w' => Below W.heap.size W w' ∧ (w'.cell? ⟨w.heap.size, 0, none⟩ = some (.int .i64 r) ∧ w'.cell? ⟨w.heap.size, 1, none⟩ = some (.int .i64 c) ∧ w'.cell? ⟨w.heap.size, 2, none⟩ = some (.slice ao I.length cap)) ∧ (w'.cell? ⟨w.heap.size + 1, 0, none⟩ = some (.int .i64 i) ∧ w'.cell? ⟨w.heap.size + 1, 1, none⟩ = some (.int .i64 k) ∧ w'.cell? ⟨w.heap.size + 1, 2, none⟩ = some (.int .i64 a) ∧ w'.cell? ⟨w.heap.size + 1, 3, none⟩ = some (.int .i64 b)) ∧ (w'.cell? ⟨g3, 0, none⟩ = some (.int .i64 ((0 : Nat) : Int)) ∧ w'.cell? ⟨g3, 1, none⟩ = some (.int .i64 ((0 : Nat) : Int)) ∧ w'.cell? ⟨g3, 2, none⟩ = some (.slice so ([] : List Nat).length sd)) ∧ (w'.cell? ⟨g4, 0, none⟩ = some (.int .i64 q1) ∧ w'.cell? ⟨g4, 1, none⟩ = some (.int .i64 q2) ∧ w'.cell? ⟨g4, 2, none⟩ = some (.slice ro T.length rd)))
      (first | exact unhide HK _ (Below.refl _ _).drew | exact unhide HK _ (by assumption) | fail "KK")
      (first | (go_at_call 22; refine (unhide K6 (by first | rfl | trivial) _ (unhide HW _ (And.left (by assumption)))).mono ?_; rintro e w5 ⟨v, rfl, ⟨uo, ud, rfl, _, qu⟩, hb5⟩; have hB5 : Below W.heap.size W w5 := Below.trans (And.left (by assumption)) (hb5.mono (Below.size (And.left (by assumption)))); have QU := hide qu; clear qu hb5 K6) | (go_at_call 15; refine (told_ok _ _ _ _ _ _ T _ (by exact ((unhide ST).t.bits).below (And.left (by assumption))) (by exact unhide QU) (by have := unhide HTl; omega)).mono ?_; rintro e w6 ⟨rfl, hb6⟩; have hB6 : Below W.heap.size W w6 := Below.trans (And.left (by assumption)) (hb6.mono (Below.size (And.left (by assumption)))); clear hb6) | fail "NO ARM")
    have ST := hide ((unhide ST).all (And.left (by assumption)))
    have st := unhide ST
    have m0 := st.m.c0; have m1 := st.m.c1; have m2 := st.m.c2
    have x0 := st.x.c0; have x1 := st.x.c1; have x2 := st.x.c2; have x3 := st.x.c3
    clear st HK QU HW
    go_wp2_with fail
    refine (unhide K7 (by first | rfl | trivial) _).mono ?_
    rintro e w8 ⟨rfl, hb⟩
    clear m0 m1 m2 x0 x1 x2 x3
    have ST := hide ((unhide ST).all hb)
    have m0 := (unhide ST).m.c0; have m1 := (unhide ST).m.c1; have m2 := (unhide ST).m.c2
    have x0 := (unhide ST).x.c0; have x1 := (unhide ST).x.c1; have x2 := (unhide ST).x.c2; have x3 := (unhide ST).x.c3
    have s0 := (unhide ST).s.box.c0; have s1 := (unhide ST).s.box.c1; have s2 := (unhide ST).s.box.c2
    have t0 := (unhide ST).t.box.c0; have t1 := (unhide ST).t.box.c1; have t2 := (unhide ST).t.box.c2
    clear hb K7
    simp only [List.length_nil] at s2
    go_wp2_with fail
    refine (told_err _ _ _ _ _ _ _ 3 _ (.inr rfl)).mono ?_
    rintro e w6 ⟨rfl, hb⟩
    clear m0 m1 m2 x0 x1 x2 x3 s0 s1 s2 t0 t1 t2
    have ST := hide ((unhide ST).all hb)
    clear hb
    go_wp2_with fail
    refine (awake10_any _ ((unhide HT).all (unhide ST).bel)).mono ?_
    rintro e w9 ⟨rfl, hb⟩
    have BE := hide ((unhide ST).bel.trans (hb.mono (unhide ST).bel.size))
    clear hb ST
    go_wp2
    go_ret
    exact ⟨rfl, unhide BE⟩
  · clear WAY
    go_wp2_with fail
    refine at_world (fun W => PtSt w W w1.heap.size w1.heap.size g3 g4 r c ao I.length cap i k a b po pc p1 p2 q1 q2 so sd S ro rd T) (unhide ST) ?_
    intro W st
    have ST := hide st
    have HK := hide (fun w' (h : Below W.heap.size W w') => (show Below W.heap.size W w' ∧ (w'.cell? ⟨w.heap.size, 0, none⟩ = some (.int .i64 r) ∧ w'.cell? ⟨w.heap.size, 1, none⟩ = some (.int .i64 c) ∧ w'.cell? ⟨w.heap.size, 2, none⟩ = some (.slice ao I.length cap)) ∧ (w'.cell? ⟨w.heap.size + 1, 0, none⟩ = some (.int .i64 i) ∧ w'.cell? ⟨w.heap.size + 1, 1, none⟩ = some (.int .i64 k) ∧ w'.cell? ⟨w.heap.size + 1, 2, none⟩ = some (.int .i64 a) ∧ w'.cell? ⟨w.heap.size + 1, 3, none⟩ = some (.int .i64 b)) ∧ (w'.cell? ⟨g3, 0, none⟩ = some (.int .i64 p1) ∧ w'.cell? ⟨g3, 1, none⟩ = some (.int .i64 p2) ∧ w'.cell? ⟨g3, 2, none⟩ = some (.slice so S.length sd)) ∧ (w'.cell? ⟨g4, 0, none⟩ = some (.int .i64 q1) ∧ w'.cell? ⟨g4, 1, none⟩ = some (.int .i64 q2) ∧ w'.cell? ⟨g4, 2, none⟩ = some (.slice ro T.length rd)) from
      have y := st.all h; ⟨h, ⟨y.m.c0, y.m.c1, y.m.c2⟩, ⟨y.x.c0, y.x.c1, y.x.c2, y.x.c3⟩, ⟨y.s.box.c0, y.s.box.c1, y.s.box.c2⟩, y.t.box.c0, y.t.box.c1, y.t.box.c2⟩))
    have HW := hide (fun w' (h : Below W.heap.size W w') => st.bel.trans (h.mono st.bel.size))
    clear st m0 m1 m2 x0 x1 x2 x3 s0 s1 s2 t0 t1 t2
    go_region_held3 (fun w' => Below W.heap.size W w' ∧ (w'.cell? ⟨w.heap.size, 0, none⟩ = some (.int .i64 r) ∧ w'.cell? ⟨w.heap.size, 1, none⟩ = some (.int .i64 c) ∧ w'.cell? ⟨w.heap.size, 2, none⟩ = some (.slice ao I.length cap)) ∧ (w'.cell? ⟨w.heap.size + 1, 0, none⟩ = some (.int .i64 i) ∧ w'.cell? ⟨w.heap.size + 1, 1, none⟩ = some (.int .i64 k) ∧ w'.cell? ⟨w.heap.size + 1, 2, none⟩ = some (.int .i64 a) ∧ w'.cell? ⟨w.heap.size + 1, 3, none⟩ = some (.int .i64 b)) ∧ (w'.cell? ⟨g3, 0, none⟩ = some (.int .i64 p1) ∧ w'.cell? ⟨g3, 1, none⟩ = some (.int .i64 p2) ∧ w'.cell? ⟨g3, 2, none⟩ = some (.slice so S.length sd)) ∧ (w'.cell? ⟨g4, 0, none⟩ = some (.int .i64 q1) ∧ w'.cell? ⟨g4, 1, none⟩ = some (.int .i64 q2) ∧ w'.cell? ⟨g4, 2, none⟩ = some (.slice ro T.length rd)))
      (first | exact unhide HK _ (Below.refl _ _).drew | exact unhide HK _ (by assumption) | fail "KK")
      (first | (go_at_call 22; refine (unhide K6 (by first | rfl | trivial) _ (unhide HW _ (And.left (by assumption)))).mono ?_; rintro e w5 ⟨v, rfl, ⟨uo, ud, rfl, _, qu⟩, hb5⟩; have hB5 : Below W.heap.size W w5 := Below.trans (And.left (by assumption)) (hb5.mono (Below.size (And.left (by assumption)))); have QU := hide qu; clear qu hb5 K6) | (go_at_call 15; refine (told_ok _ _ _ _ _ _ T _ (by exact ((unhide ST).t.bits).below (And.left (by assumption))) (by exact unhide QU) (by have := unhide HTl; omega)).mono ?_; rintro e w6 ⟨rfl, hb6⟩; have hB6 : Below W.heap.size W w6 := Below.trans (And.left (by assumption)) (hb6.mono (Below.size (And.left (by assumption)))); clear hb6) | fail "NO ARM")
    have ST := hide ((unhide ST).all (And.left (by assumption)))
    have st := unhide ST
    have m0 := st.m.c0; have m1 := st.m.c1; have m2 := st.m.c2
    have x0 := st.x.c0; have x1 := st.x.c1; have x2 := st.x.c2; have x3 := st.x.c3
    clear st HK QU HW
    go_wp2_with fail
    refine (unhide K7 (by first | rfl | trivial) _).mono ?_
    rintro e w8 ⟨rfl, hb⟩
    clear m0 m1 m2 x0 x1 x2 x3
    have ST := hide ((unhide ST).all hb)
    have m0 := (unhide ST).m.c0; have m1 := (unhide ST).m.c1; have m2 := (unhide ST).m.c2
    have x0 := (unhide ST).x.c0; have x1 := (unhide ST).x.c1; have x2 := (unhide ST).x.c2; have x3 := (unhide ST).x.c3
    have s0 := (unhide ST).s.box.c0; have s1 := (unhide ST).s.box.c1; have s2 := (unhide ST).s.box.c2
    have t0 := (unhide ST).t.box.c0; have t1 := (unhide ST).t.box.c1; have t2 := (unhide ST).t.box.c2
    clear hb K7
    go_wp2_with fail
    refine at_world (fun W => PtSt w W w1.heap.size w1.heap.size g3 g4 r c ao I.length cap i k a b po pc p1 p2 q1 q2 so sd S ro rd T) (unhide ST) ?_
    intro W st
    have ST := hide st
    have HK := hide (fun w' (h : Below W.heap.size W w') => (show Below W.heap.size W w' ∧ (w'.cell? ⟨w.heap.size, 0, none⟩ = some (.int .i64 r) ∧ w'.cell? ⟨w.heap.size, 1, none⟩ = some (.int .i64 c) ∧ w'.cell? ⟨w.heap.size, 2, none⟩ = some (.slice ao I.length cap)) ∧ (w'.cell? ⟨w.heap.size + 1, 0, none⟩ = some (.int .i64 i) ∧ w'.cell? ⟨w.heap.size + 1, 1, none⟩ = some (.int .i64 k) ∧ w'.cell? ⟨w.heap.size + 1, 2, none⟩ = some (.int .i64 a) ∧ w'.cell? ⟨w.heap.size + 1, 3, none⟩ = some (.int .i64 b)) ∧ (w'.cell? ⟨g3, 0, none⟩ = some (.int .i64 p1) ∧ w'.cell? ⟨g3, 1, none⟩ = some (.int .i64 p2) ∧ w'.cell? ⟨g3, 2, none⟩ = some (.slice so S.length sd)) ∧ (w'.cell? ⟨g4, 0, none⟩ = some (.int .i64 q1) ∧ w'.cell? ⟨g4, 1, none⟩ = some (.int .i64 q2) ∧ w'.cell? ⟨g4, 2, none⟩ = some (.slice ro T.length rd)) from
      have y := st.all h; ⟨h, ⟨y.m.c0, y.m.c1, y.m.c2⟩, ⟨y.x.c0, y.x.c1, y.x.c2, y.x.c3⟩, ⟨y.s.box.c0, y.s.box.c1, y.s.box.c2⟩, y.t.box.c0, y.t.box.c1, y.t.box.c2⟩))
    have HW := hide (fun w' (h : Below W.heap.size W w') => st.bel.trans (h.mono st.bel.size))
    clear st m0 m1 m2 x0 x1 x2 x3 s0 s1 s2 t0 t1 t2
    go_region_held3 (fun w' => Below W.heap.size W w' ∧ (w'.cell? ⟨w.heap.size, 0, none⟩ = some (.int .i64 r) ∧ w'.cell? ⟨w.heap.size, 1, none⟩ = some (.int .i64 c) ∧ w'.cell? ⟨w.heap.size, 2, none⟩ = some (.slice ao I.length cap)) ∧ (w'.cell? ⟨w.heap.size + 1, 0, none⟩ = some (.int .i64 i) ∧ w'.cell? ⟨w.heap.size + 1, 1, none⟩ = some (.int .i64 k) ∧ w'.cell? ⟨w.heap.size + 1, 2, none⟩ = some (.int .i64 a) ∧ w'.cell? ⟨w.heap.size + 1, 3, none⟩ = some (.int .i64 b)) ∧ (w'.cell? ⟨g3, 0, none⟩ = some (.int .i64 p1) ∧ w'.cell? ⟨g3, 1, none⟩ = some (.int .i64 p2) ∧ w'.cell? ⟨g3, 2, none⟩ = some (.slice so S.length sd)) ∧ (w'.cell? ⟨g4, 0, none⟩ = some (.int .i64 q1) ∧ w'.cell? ⟨g4, 1, none⟩ = some (.int .i64 q2) ∧ w'.cell? ⟨g4, 2, none⟩ = some (.slice ro T.length rd)))
      (first | exact unhide HK _ (Below.refl _ _).drew | exact unhide HK _ (by assumption) | fail "KK")
      (first | (go_at_call 24; refine (unhide K8 (by first | rfl | trivial) (by first | rfl | trivial) _ (unhide HW _ (And.left (by assumption)))).mono ?_; rintro e w5 ⟨v, rfl, ⟨uo, ud, rfl, _, qu⟩, hb5⟩; have hB5 : Below W.heap.size W w5 := Below.trans (And.left (by assumption)) (hb5.mono (Below.size (And.left (by assumption)))); have QU := hide qu; clear qu hb5 K8) | (go_at_call 15; refine (told_ok _ _ _ _ _ _ S _ (by exact ((unhide ST).s.bits).below (And.left (by assumption))) (by exact unhide QU) (by have := unhide HSl; omega)).mono ?_; rintro e w6 ⟨rfl, hb6⟩; have hB6 : Below W.heap.size W w6 := Below.trans (And.left (by assumption)) (hb6.mono (Below.size (And.left (by assumption)))); clear hb6) | (go_at_call 11; refine (awake10_any _ ((unhide HT).all (unhide HW _ (And.left (by assumption))))).mono ?_; rintro e w7 ⟨rfl, hb7⟩; have hB7 : Below W.heap.size W w7 := Below.trans (And.left (by assumption)) (hb7.mono (Below.size (And.left (by assumption)))); clear hb7) | fail "NO ARM")
    all_goals
      have BE := hide (unhide HW _ (And.left (by assumption)))
      go_wp2
      go_ret
      exact ⟨rfl, unhide BE⟩

theorem Mx.from {w : World} {ao : Option Addr} {cap p q : Nat} {I : List Int} (h : BitsAt w ao cap I) (ho : okB (p : Int) (q : Int) I.length = true) : Mx w ao cap p q (natL I) := by
  obtain ⟨p', q', e1, e2, hM, _⟩ := Mx.of h ho
  obtain rfl : p = p' := by omega
  obtain rfl : q = q' := by omega
  exact hM

theorem matrixParts_walk (r c : Int) (ao : Option Addr) (cap : Nat) (I : List Int) (i k a b : Int) (w : World) (hI : BitsAt w ao cap I) (hl : I.length ≤ 17592186043904) (_hr : -9223372036854775808 ≤ r ∧ r ≤ 9223372036854775807) (_hc : -9223372036854775808 ≤ c ∧ c ≤ 9223372036854775807) (hi : -9223372036854775808 ≤ i ∧ i ≤ 9223372036854775807) (hk : -9223372036854775808 ≤ k ∧ k ≤ 9223372036854775807) (_ha : -9223372036854775808 ≤ a ∧ a ≤ 9223372036854775807) (_hb : -9223372036854775808 ≤ b ∧ b ≤ 9223372036854775807) (hT : Tab w) :
    Calls Tryd.prog 5 #[.agg #[.int .i64 r, .int .i64 c, .slice ao I.length cap], .agg #[.int .i64 i, .int .i64 k, .int .i64 a, .int .i64 b]] w fun e w' => e = .returned (.bool true) ∧ Below w.heap.size w w' := by
  cases h : okB r c I.length
  · exact matrixParts_of r c ao cap I i k a b 0 0 0 0 [] [] 1 1 false false w hI hl hT (.inl ⟨rfl, rfl, rfl, rfl, rfl, rfl, rfl, rfl, rfl⟩) (by simp) (by simp) (fun w' po pc _ => mpart_form r c po _ pc i k a b w' (by omega) h) (fun w' po pc _ => mturn_no r c po _ pc w' (by omega) h) h (fun e => by cases e) (fun e => by cases e) (fun e => by cases e)
  · obtain ⟨p, q, rfl, rfl, hM, hS⟩ := Mx.of hI h
    have p6 := hM.2.2.1
    have q6 := hM.2.2.2
    have tl : (tuM p q (natL I)).length ≤ 36 := by rw [tu_len]; exact Nat.mul_le_mul q6 p6
    have T1 : ∀ w' po pc, BitsAt w' po pc I → Calls Tryd.prog 20 #[.agg #[.int .i64 p, .int .i64 q, .slice po I.length pc]] w' fun e w'' => ∃ v, e = .returned (.tuple #[v, .int .i64 0]) ∧ NewM w'.heap.size w'' q p (tuM p q (natL I)) v ∧ Below w'.heap.size w' w'' := by
      intro w' po pc hb'
      rw [← natL_len]
      exact mTurn_ok p q pc po (natL I) w' (Mx.from hb' h)
    have T2 : ∀ w', Below w.heap.size w w' → Calls Tryd.prog 22 #[.agg #[.int .i64 p, .int .i64 q, .slice ao I.length cap]] w' fun e w'' => ∃ v, e = .returned v ∧ NewM 0 w'' q p (tuM p q (natL I)) v ∧ Below w'.heap.size w' w'' := by
      intro w' hb'
      rw [← natL_len]
      exact rturn_any p q cap ao (natL I) w' (hM.below hb')
    have N1 := fun w' => rin_any p q I.length cap ao i k a b w' p6 q6
    by_cases hin : (0 ≤ i ∧ 0 ≤ a ∧ a ≤ (p : Int) - i) ∧ (0 ≤ k ∧ 0 ≤ b ∧ b ≤ (q : Int) - k)
    · rw [show inB p q i k a b = true from decide_eq_true hin] at N1
      obtain ⟨i', rfl⟩ := Int.eq_ofNat_of_zero_le hin.1.1
      obtain ⟨k', rfl⟩ := Int.eq_ofNat_of_zero_le hin.2.1
      obtain ⟨a', rfl⟩ := Int.eq_ofNat_of_zero_le hin.1.2.1
      obtain ⟨b', rfl⟩ := Int.eq_ofNat_of_zero_le hin.2.2.1
      have h1 : i' + a' ≤ p := by omega
      have h2 : k' + b' ≤ q := by omega
      have sl : (paM q (natL I) i' k' a' b').length ≤ 36 := by
        unfold paM
        rw [mkM_len]
        have : a' * b' ≤ 6 * 6 := Nat.mul_le_mul (show a' ≤ 6 by omega) (show b' ≤ 6 by omega)
        omega
      refine matrixParts_of p q ao cap I i' k' a' b' a' b' q p (paM q (natL I) i' k' a' b') (tuM p q (natL I)) 0 0 true true w hI hl hT (.inr (.inr ⟨rfl, rfl, rfl, rfl⟩)) sl tl ?_ T1 h (fun _ => T2) (fun _ => N1) ?_
      · intro w' po pc hb'
        rw [← natL_len]
        exact mPart_ok p q pc i' k' a' b' po (natL I) w' (Mx.from hb' h) h1 h2
      · intro _ _ w' hb'
        rw [← natL_len]
        exact rpart_any p q cap i' k' a' b' ao (natL I) w' (hM.below hb') h1 h2
    · rw [show inB p q i k a b = false from decide_eq_false hin] at N1
      refine matrixParts_of p q ao cap I i k a b 0 0 q p [] (tuM p q (natL I)) 3 0 true false w hI hl hT (.inr (.inl ⟨rfl, rfl, rfl, rfl, rfl, rfl, rfl⟩)) (by simp) tl ?_ T1 h (fun _ => T2) (fun _ => N1) (fun _ e => by cases e)
      intro w' po pc _
      have L1 := fun w'' => lies_any i a p w'' hi (by omega)
      have L2 := fun w'' => lies_any k b q w'' hk (by omega)
      by_cases h1 : 0 ≤ i ∧ 0 ≤ a ∧ a ≤ (p : Int) - i
      · rw [decide_eq_true h1] at L1
        rw [decide_eq_false (fun h2 => hin ⟨h1, h2⟩)] at L2
        exact mpart_cols p q po _ pc i k a b w' (by omega) h L1 L2
      · rw [decide_eq_false h1] at L1
        exact mpart_rows p q po _ pc i k a b w' (by omega) h L1

end Go.Proofs.YtheepcdlakjdcaaDoor

/- A struct of a sign and limbs that came in, opened. -/
namespace Go.Proofs.YtheepcdlakjdcaaDoor
open Go.ChangeShapes Go.WideShapes Go.ChangeAt Go.RowKit Go.Joins

theorem Tryd.own : ownKnob Tryd.prog.godebug = none := by kernel_rfl
theorem Tryd.laidOut : laidOutB Tryd.prog = true := by kernel_rfl
end Go.Proofs.YtheepcdlakjdcaaDoor

/- The bounds of an int or int64 that came in. -/
namespace Go.Proofs.YtheepcdlakjdcaaDoor

theorem bounds_of_i64 {x : Int} (h : (Lit.int .i64 x).wf = true) : -9223372036854775808 ≤ x ∧ x ≤ 9223372036854775807 := by
  simp [Lit.wf, IntKind.min, IntKind.max, IntKind.signed, IntKind.bits] at h
  omega

end Go.Proofs.YtheepcdlakjdcaaDoor

/- A dyadic number that came in, opened; the library's table, as the row lays it. -/
namespace Go.Proofs.YtheepcdlakjdcaaDoor
open Go.ChangeShapes Go.WideShapes Go.ChangeAt Go.RowKit Go.Joins
theorem Tryd.tabName : Tryd.prog.globalNamed "math/bits.deBruijn32tab" = some 0 := by kernel_rfl
theorem Tryd.tabType : (Tryd.prog.globals[0]?).map (·.type) = some 115 := by kernel_rfl
theorem Tryd.tabCells : Tryd.prog.cellsOf 115 = 32 := by kernel_rfl
theorem Tryd.byteCells : Tryd.prog.cellsOf 5 = 1 := by kernel_rfl

theorem tab_getD : ∀ j, j < Lib.deBruijn32tab.length → (List.map Int.ofNat Lib.deBruijn32tab).getD j 0 = ((Lib.deBruijn32tab.getD j 0 : Nat) : Int) := by decide

/-- What the rows' list gives: the table's cells. -/
theorem tab_of_laid {W : World} (h : laidMetH Tryd.prog [("math/bits.deBruijn32tab", Rows.laid_math_bits_deBruijn32tab)] W) : Tab W := by
  have ht := Lib.tabIs_of_head (zs := Lib.deBruijn32tab.map Int.ofNat) (rest := []) Tryd.tabName Tryd.tabType Tryd.underlying115 Tryd.underlying5 Tryd.byteCells Tryd.tabCells h
  intro j hj
  have := ht.cell Tryd.tabName j (by simpa using hj)
  rw [this]
  congr 2
  exact tab_getD j hj

end Go.Proofs.YtheepcdlakjdcaaDoor

/- A list of bits that came in, opened. -/
namespace Go.Proofs.YtheepcdlakjdcaaDoor
open Go.ChangeShapes Go.WideShapes Go.ChangeAt Go.RowKit Go.Joins Go.Deep

theorem Tryd.cellsBits : Tryd.prog.cellsOf 26 = 1 := by kernel_rfl
theorem Tryd.bytesBits : Tryd.prog.bytesOf 26 = 8 := by kernel_rfl

theorem cellOf_plain {W : World} {a : Addr} {v : Value} (h : W.cell? a = some v) : a.spot = none ∧ a.block < W.heap.size := ⟨World.cell?_spot h, World.block_lt_of_cell? W _ h⟩
theorem addOf_plain (b off i : Nat) : (⟨b, off, none⟩ : Addr).add i = ⟨b, off + i, none⟩ := by simp [Addr.add]

theorem bounds_of_u64 {x : Int} (h : (Lit.int .u64 x).wf = true) : 0 ≤ x ∧ x ≤ 18446744073709551615 := by
  simp [Lit.wf, IntKind.min, IntKind.max, IntKind.signed, IntKind.bits] at h
  omega

end Go.Proofs.YtheepcdlakjdcaaDoor

