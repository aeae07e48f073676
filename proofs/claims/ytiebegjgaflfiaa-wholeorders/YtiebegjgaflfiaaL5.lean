/- The law WholeOrders, walked. -/
import Derived.Test.YtiebegjgaflfiaaR8
import Derived.Test.YtiebegjgaflfiaaWE
namespace Go.Proofs.Ytiebegjgaflfiaa
open Go.RowKit
attribute [local go_sem ↓] Go.wp_at_zero Go.wp_at_succ

set_option maxHeartbeats 1000000 in
theorem orders_walk (na nb : Bool) (ao bo : Option Addr) (ca cb : Nat) (A B : List Nat) (w : World) (hA : LimbsAt w ao ca A) (hB : LimbsAt w bo cb B) (la : A.length ≤ 35184372088830) (lb : B.length ≤ 35184372088830) :
    Calls Try.prog 7 #[.agg #[.bool na, .slice ao A.length ca], .agg #[.bool nb, .slice bo B.length cb]] w fun e w' => e = .returned (.bool true) ∧ Below w.heap.size w w' := by
  have hF : (rightB na A && rightB nb B) = false → chk2 na A nb B = 1 ∧ cmpE na A nb B = 0 := fun h => by simp [chk2, cmpE, h]
  have hT : (rightB na A && rightB nb B) = true → chk2 na A nb B = 0 ∧ cmpE na A nb B = cmpI (sval na A) (sval nb B) := fun h => by
    refine ⟨by simp [chk2, h], ?_⟩
    unfold cmpE; rw [if_pos h]
  have HF := hide hF
  have HT := hide hT
  clear hF hT
  generalize hok : (rightB na A && rightB nb B) = ok at *
  clear hok
  have C1 := hide (fun w' h1 h2 => compare_any na nb ao bo ca cb A B w' h1 h2 la lb)
  have C2 := hide (fun w' h1 h2 => form_any na nb ao bo ca cb A B w' h1 h2 la lb)
  have C3 := hide (fun w' h1 h2 => refCompare_any na nb ao bo ca cb A B w' h1 h2 la lb)
  have C4 := hide (fun w' h1 => len_any na ao ca A w' h1 la)
  have C5 := hide (fun w' h1 => refLen_any na ao ca A w' h1 la)
  generalize cmpE na A nb B = r at *
  generalize chk2 na A nb B = c at *
  generalize cmpI (sval na A) (sval nb B) = r' at *
  generalize lenL A = ll at *
  go_enter Try.func7, Try.ntmps7
  go_wp2_with fail
  have hb0 : Below w.heap.size w ((w.alloc (.cells #[.bool na, .slice ao A.length ca] 24)).alloc (.cells #[.bool nb, .slice bo B.length cb] 24)) := ((Below.refl _ _).alloc (Nat.le_refl _) _).alloc (by simp) _
  refine (unhide C1 _ (hA.below hb0) (hB.below hb0)).mono ?_
  rintro e w1 ⟨rfl, hb1⟩
  have x0 : Box2 w1 w.heap.size (.bool na) (.slice ao A.length ca) := (((Box2.new _ _ _).old _)).below hb1 (by simp; omega)
  have x1 : Box2 w1 (w.heap.size + 1) (.bool nb) (.slice bo B.length cb) := by
    have := Box2.new (w.alloc (.cells #[.bool na, .slice ao A.length ca] 24)) (.bool nb) (.slice bo B.length cb)
    exact Box2.below (by simpa using this) hb1 (by simp)
  have hb2 : Below w.heap.size w w1 := hb0.trans (hb1.mono (by simp; omega))
  have p0 := x0.c0; have p1 := x0.c1; have q0 := x1.c0; have q1 := x1.c1
  have X0 := hide x0; have X1 := hide x1
  clear hb1 hb0 C1 x0 x1
  go_wp2_with fail
  refine (unhide C2 _ (hA.below hb2) (hB.below hb2)).mono ?_
  rintro e w2 ⟨rfl, hb3⟩
  have hb4 := hb2.trans (hb3.mono hb2.size)
  have x0 := (unhide X0).below hb3 (unhide X0).lt
  have x1 := (unhide X1).below hb3 (unhide X1).lt
  clear p0 p1 q0 q1 X0 X1 hb3 hb2 C2
  cases ok
  · obtain ⟨hc, hr⟩ := unhide HF rfl
    subst hc; subst hr
    clear HF HT C3 C4 C5
    go_wp2_with (go_at_call 11; refine (awake_any _).mono ?_; rintro e w3 ⟨rfl, hb5⟩)
    go_ret
    exact ⟨rfl, hb4.trans (hb5.mono hb4.size)⟩
  · obtain ⟨hc, hr⟩ := unhide HT rfl
    subst hc; subst hr
    clear HF HT
    go_wp2
    refine at_world (fun W => W = w2) rfl ?_
    rintro W0 e0
    subst e0
    have hK : ∀ w', Below W0.heap.size W0 w' → Below W0.heap.size W0 w' ∧ w'.cell? ⟨w.heap.size, 0, none⟩ = some (.bool na) ∧ w'.cell? ⟨w.heap.size, 1, none⟩ = some (.slice ao A.length ca) ∧ w'.cell? ⟨w.heap.size + 1, 0, none⟩ = some (.bool nb) ∧ w'.cell? ⟨w.heap.size + 1, 1, none⟩ = some (.slice bo B.length cb) := fun w' h =>
      ⟨h, (x0.below h x0.lt).c0, (x0.below h x0.lt).c1, (x1.below h x1.lt).c0, (x1.below h x1.lt).c1⟩
    have HK := hide hK
    have HA := hide (hA.below hb4)
    have HB := hide (hB.below hb4)
    have HB4 := hide hb4
    clear hK hA hB x0 x1 hb4
    go_region_held3 (fun w' => Below W0.heap.size W0 w' ∧ w'.cell? ⟨w.heap.size, 0, none⟩ = some (.bool na) ∧ w'.cell? ⟨w.heap.size, 1, none⟩ = some (.slice ao A.length ca) ∧ w'.cell? ⟨w.heap.size + 1, 0, none⟩ = some (.bool nb) ∧ w'.cell? ⟨w.heap.size + 1, 1, none⟩ = some (.slice bo B.length cb))
      (first | exact unhide HK _ (Below.refl _ _).drew | exact unhide HK _ (by assumption))
      (first | (go_at_call 27; refine (unhide C3 _ ((unhide HA).below (And.left (by assumption))) ((unhide HB).below (And.left (by assumption)))).mono ?_; rintro e w1 ⟨rfl, hb1⟩; have hB1 : Below W0.heap.size W0 w1 := Below.trans (And.left (by assumption)) (hb1.mono (Below.size (And.left (by assumption)))); clear hb1) | (go_at_call 28; refine (unhide C4 _ ((unhide HA).below (And.left (by assumption)))).mono ?_; rintro e w1 ⟨rfl, hb1⟩; have hB1 : Below W0.heap.size W0 w1 := Below.trans (And.left (by assumption)) (hb1.mono (Below.size (And.left (by assumption)))); clear hb1) | (go_at_call 29; refine (unhide C5 _ ((unhide HA).below (And.left (by assumption)))).mono ?_; rintro e w1 ⟨rfl, hb1⟩; have hB1 : Below W0.heap.size W0 w1 := Below.trans (And.left (by assumption)) (hb1.mono (Below.size (And.left (by assumption)))); clear hb1) | (go_at_call 11; refine (awake_any _).mono ?_; rintro e w1 ⟨rfl, hb1⟩; have hB1 : Below W0.heap.size W0 w1 := Below.trans (And.left (by assumption)) (hb1.mono (Below.size (And.left (by assumption)))); clear hb1))
    go_wp2
    go_ret
    exact ⟨rfl, (unhide HB4).trans (Below.mono (And.left (by assumption)) (unhide HB4).size)⟩

end Go.Proofs.Ytiebegjgaflfiaa
