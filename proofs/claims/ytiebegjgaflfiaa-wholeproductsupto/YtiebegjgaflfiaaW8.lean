/- Contracts of addSigned. -/
import Derived.Test.YtiebegjgaflfiaaW4
import Derived.Test.YtiebegjgaflfiaaW5
import Derived.Test.YtiebegjgaflfiaaW6
import Derived.Test.YtiebegjgaflfiaaReps2
namespace Go.Proofs.Ytiebegjgaflfiaa
open Go.RowKit
attribute [local go_sem ↓] Go.wp_at_zero Go.wp_at_succ

set_option maxHeartbeats 1000000 in
theorem addSigned_same (na : Bool) (ao bo : Option Addr) (ca cb : Nat) (A B : List Nat) (w : World) (hA : LimbsAt w ao ca A) (hB : LimbsAt w bo cb B) (la : A.length ≤ 35184372088830) (lb : B.length ≤ 35184372088830) :
    Calls Try.prog 34 #[.agg #[.bool na, .slice ao A.length ca], .agg #[.bool na, .slice bo B.length cb]] w fun e w' => ∃ v, e = .returned (.tuple #[v, .int .i64 (errOf (sval na A + sval na B))]) ∧ IsNum w.heap.size w' v (numOf (sval na A + sval na B)) ∧ Below w.heap.size w w' := by
  have hsum : ∀ L : List Nat, val L = val A + val B → sval na L = sval na A + sval na B := by
    intro L h; unfold sval; cases na <;> simp [h] <;> omega
  have HS := hide hsum
  clear hsum
  generalize sval na A + sval na B = z at *
  go_enter Try.func34, Try.ntmps34
  go_wp2
  refine at_world (fun W => Below w.heap.size w W ∧ W.heap.size = w.heap.size + 3 ∧ Box2 W w.heap.size (.bool na) (.slice ao A.length ca) ∧ Box2 W (w.heap.size + 1) (.bool na) (.slice bo B.length cb) ∧ Box2 W (w.heap.size + 2) (.bool false) (.slice none 0 0)) ?_ ?_
  · refine ⟨((((Below.refl _ _).alloc (Nat.le_refl _) _).alloc (by simp) _).alloc (by simp; omega) _), by simp, ((Box2.new _ _ _).old _).old _, ?_, ?_⟩
    · have := (Box2.new (w.alloc (.cells #[.bool na, .slice ao A.length ca] 24)) (.bool na) (.slice bo B.length cb)).old (.cells #[.bool false, .slice none 0 0] 24)
      simpa using this
    · have := Box2.new ((w.alloc (.cells #[.bool na, .slice ao A.length ca] 24)).alloc (.cells #[.bool na, .slice bo B.length cb] 24)) (.bool false) (.slice none 0 0)
      simpa using this
  rintro W0 ⟨hw0, hs0, x0, x1, x2⟩
  have hK : ∀ w', Below (w.heap.size + 2) W0 w' → Below (w.heap.size + 2) W0 w' ∧ w'.cell? ⟨w.heap.size, 0, none⟩ = some (.bool na) ∧ w'.cell? ⟨w.heap.size, 1, none⟩ = some (.slice ao A.length ca) ∧ w'.cell? ⟨w.heap.size + 1, 1, none⟩ = some (.slice bo B.length cb) := fun w' h =>
    ⟨h, (x0.below h (by omega)).c0, (x0.below h (by omega)).c1, (x1.below h (by omega)).c1⟩
  have HK := hide hK
  have HA := hide (hA.below hw0)
  have HB := hide (hB.below hw0)
  have X2 := hide x2
  have HW0 := hide hw0
  clear hK hA hB x0 x1 x2 hw0
  go_region_held3 (fun w' => Below (w.heap.size + 2) W0 w' ∧ w'.cell? ⟨w.heap.size, 0, none⟩ = some (.bool na) ∧ w'.cell? ⟨w.heap.size, 1, none⟩ = some (.slice ao A.length ca) ∧ w'.cell? ⟨w.heap.size + 1, 1, none⟩ = some (.slice bo B.length cb))
    (first | exact unhide HK _ (Below.refl _ _).drew | exact unhide HK _ (by assumption) | exact unhide HK _ ((hB2.setCell (by simp) _).setCell (by simp) _))
    (first | (go_at_call 50; refine (addLimbs_any ao bo ca cb A B _ ((unhide HA).below ((Below.refl _ _).drew)) ((unhide HB).below ((Below.refl _ _).drew)) la lb).mono ?_; rintro e w1 ⟨ao', cap', L', rfl, g1, g2, g3, g4, hb1⟩; have hB1 : Below (w.heap.size + 2) W0 w1 := ((Below.refl _ _).drew).trans (hb1.mono (by simp [hs0])); have X3 := hide ((unhide X2).drew.below hb1 (by simp [hs0])); have G1 := hide g1; have G2 := hide g2; have G4 := hide g4; have L4 : L'.length ≤ 35184372088832 := (by omega); have s1 := hb1.size; clear g1 g2 g4 g3 hb1) | (go_at_call 40; refine (fit_any _ na _ _ _ _ (unhide G1) (unhide G2) L4).mono ?_; rintro e w2 ⟨v, rfl, ⟨n2, a2, c2, L2, rfl, i1⟩, hb2⟩; have hB2 : Below (w.heap.size + 2) W0 w2 := hB1.trans (hb2.mono (by simp at s1; omega)); have X4 := (unhide X3).below hb2 (by simp at s1; omega); have y0 := X4.c0; have y1 := X4.c1; have f0 := X4.free 0; have f1 := X4.free 1; have I1 := hide i1; clear i1 hb2 X4))
  have hz := unhide HS L' (unhide G4)
  have HI := hide (hz ▸ unhide I1)
  have HE := hide (show errOf (sval na L') = errOf z by rw [hz])
  clear hz
  go_wp2
  refine bodyPost_ret (v := .tuple #[.agg #[.bool n2, .slice a2 L2.length c2], .int .i64 (errOf (sval na L'))]) (by simp [results, Try.results34, go_sem, y0, y1]) rfl ⟨.agg #[.bool n2, .slice a2 L2.length c2], ?_, ?_, ?_⟩
  · rw [unhide HE]
  · exact IsNum.stored (unhide HI) (by simp; omega) (by simp; omega) (by simp; omega) _ _
  · exact (((unhide HW0).trans (hB2.mono (by omega))).setCell (by simp; omega) _).setCell (by simp; omega) _

end Go.Proofs.Ytiebegjgaflfiaa
