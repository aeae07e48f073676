/- Contracts of the reference's Double, Half. -/
import Derived.Test.YtiebegjgaflfiaaR4
import Derived.Test.YtiebegjgaflfiaaH3
namespace Go.Proofs.Ytiebegjgaflfiaa
open Go.RowKit
attribute [local go_sem ↓] Go.wp_at_zero Go.wp_at_succ

set_option maxHeartbeats 1000000 in
theorem double_any (na : Bool) (ao : Option Addr) (ca : Nat) (A : List Nat) (w : World) (hA : LimbsAt w ao ca A) (la : A.length ≤ 35184372088830) :
    Calls Try.prog 45 #[.agg #[.bool na, .slice ao A.length ca]] w fun e w' => ∃ v, e = .returned v ∧ IsNumM (A.length + 1) w.heap.size w' v (sg na (val A + val A)) ∧ Below w.heap.size w w' := by
  have hsum : ∀ L : List Nat, val L = val A + val A → sval na L = sg na (val A + val A) := by
    intro L h; rw [sval_sg, h]
  have HS := hide hsum
  clear hsum
  generalize sg na (val A + val A) = z at *
  go_enter Try.func45, Try.ntmps45
  go_wp2
  refine at_world (fun W => Below w.heap.size w W ∧ W.heap.size = w.heap.size + 2 ∧ Box2 W w.heap.size (.bool na) (.slice ao A.length ca) ∧ Box2 W (w.heap.size + 1) (.bool false) (.slice none 0 0)) ?_ ?_
  · refine ⟨((Below.refl _ _).alloc (Nat.le_refl _) _).alloc (by simp) _, by simp, (Box2.new _ _ _).old _, ?_⟩
    have := Box2.new (w.alloc (.cells #[.bool na, .slice ao A.length ca] 24)) (.bool false) (.slice none 0 0)
    simpa using this
  rintro W0 ⟨hw0, hs0, x0, x2⟩
  have hK : ∀ w', Below (w.heap.size + 1) W0 w' → Below (w.heap.size + 1) W0 w' ∧ w'.cell? ⟨w.heap.size, 0, none⟩ = some (.bool na) ∧ w'.cell? ⟨w.heap.size, 1, none⟩ = some (.slice ao A.length ca) := fun w' h =>
    ⟨h, (x0.below h (by omega)).c0, (x0.below h (by omega)).c1⟩
  have HK := hide hK
  have HA := hide (hA.below hw0)
  have X2 := hide x2
  have HW0 := hide hw0
  clear hK hA x0 x2 hw0
  go_region_held3 (fun w' => Below (w.heap.size + 1) W0 w' ∧ w'.cell? ⟨w.heap.size, 0, none⟩ = some (.bool na) ∧ w'.cell? ⟨w.heap.size, 1, none⟩ = some (.slice ao A.length ca))
    (first | exact unhide HK _ (Below.refl _ _).drew | exact unhide HK _ (by assumption) | exact unhide HK _ ((hB2.setCell (by simp) _).setCell (by simp) _))
    (first | (go_at_call 36; refine (plus_any ao ao ca ca A A _ ((unhide HA).below ((Below.refl _ _).drew)) ((unhide HA).below ((Below.refl _ _).drew)) la la).mono ?_; rintro e w1 ⟨ao', cap', L', rfl, g1, g2, g3, g4, hb1⟩; have hB1 : Below (w.heap.size + 1) W0 w1 := ((Below.refl _ _).drew).trans (hb1.mono (by simp [hs0])); have X3 := hide ((unhide X2).drew.below hb1 (by simp [hs0])); have G1 := hide g1; have G2 := hide g2; have G4 := hide g4; have L4 : L'.length ≤ 35184372088832 := (by omega); have L5 : L'.length ≤ A.length + 1 := (by omega); have s1 := hb1.size; clear g1 g2 g4 g3 hb1) | (go_at_call 35; refine (made_any _ na _ _ _ _ (unhide G1) (unhide G2) L4).mono ?_; rintro e w2 ⟨v, rfl, ⟨n2, a2, c2, L2, rfl, i1⟩, hb2⟩; have hB2 : Below (w.heap.size + 1) W0 w2 := hB1.trans (hb2.mono (by simp at s1; omega)); have X4 := (unhide X3).below hb2 (by simp at s1; omega); have y0 := X4.c0; have y1 := X4.c1; have f0 := X4.free 0; have f1 := X4.free 1; have I1 := hide i1; clear i1 hb2 X4))
  have hz := unhide HS L' (unhide G4)
  have HI := hide (hz ▸ unhide I1)
  clear hz
  go_wp2
  refine bodyPost_ret (v := .agg #[.bool n2, .slice a2 L2.length c2]) (by simp [results, Try.results45, go_sem, y0, y1]) rfl ⟨.agg #[.bool n2, .slice a2 L2.length c2], rfl, ?_, ?_⟩
  · exact (IsNumM.stored (unhide HI) (by simp; omega) (by simp; omega) (by simp; omega) _ _).more (by have := L5; omega)
  · exact (((unhide HW0).trans (hB2.mono (by omega))).setCell (by simp) _).setCell (by simp) _

theorem Box2.other {w : World} {b : Nat} {x y : Value} (h : Box2 w b x y) {p : Addr} (hp : b ≠ p.block) (u : Value) : Box2 (w.setCell p u) b x y := (Below.heap_setCell w p u b hp).trans h

theorem half_limb (d0 d1 : Nat) : ((d1 % 2 * 4294967296 + d0) / 2) % 4294967296 = ((d0 + 4294967296 * d1) / 2 ^ 1) % 4294967296 := by omega

end Go.Proofs.Ytiebegjgaflfiaa
