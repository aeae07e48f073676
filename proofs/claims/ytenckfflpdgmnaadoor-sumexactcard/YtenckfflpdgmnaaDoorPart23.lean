/- Part 23 of the texts. -/
import Derived.Test.YtenckfflpdgmnaaDoorPart22
import Derived.Deep.RegionHeld3
import Derived.Test.YtenckfflpdgmnaaDoorChecked
import Derived.Test.YtenckfflpdgmnaaDoorPart02
import Derived.ProofKit
import Derived.SizedLaws
import Derived.Lib.SmallJoins
import Derived.Test.YtenckfflpdgmnaaDoorRows
import Derived.Test.YtenckfflpdgmnaaDoorPart12
import Derived.Lib.LaidTab
import Derived.OpenShut
import Derived.Deep.DeepHandedRow
/- The law SumExact, walked. -/
namespace Go.Proofs.YtenckfflpdgmnaaDoor
open Go.RowKit

set_option maxRecDepth 20000 in
set_option maxHeartbeats 8000000 in
theorem sumExact_e1 (a b : Nat) (w : World) (hT : Tab w)
    (C1 : ∀ w', Calls Tryd.prog 17 #[.int .u64 a] w' fun r w'' => r = .returned (.bool false) ∧ w' = w'') :
    Calls Tryd.prog 7 #[.int .u64 a, .int .u64 b] w fun r w' => r = .returned (.bool true) ∧ Below w.heap.size w w' := by
  have K1 := hide C1
  clear C1
  go_enter Tryd.func7, Tryd.ntmps7
  go_wp2_with fail
  refine (unhide K1 _).mono ?_
  rintro e wk ⟨rfl, rfl⟩
  go_wp2_with fail
  refine (awake5_any _ (hT)).mono ?_
  rintro e w9 ⟨rfl, hb9⟩
  go_wp2
  go_ret
  exact ⟨rfl, hb9⟩

set_option maxRecDepth 20000 in
set_option maxHeartbeats 8000000 in
theorem sumExact_e2 (a b : Nat) (w : World) (hT : Tab w)
    (C1 : ∀ w', Calls Tryd.prog 17 #[.int .u64 a] w' fun r w'' => r = .returned (.bool true) ∧ w' = w'')
    (C2 : ∀ w', Calls Tryd.prog 17 #[.int .u64 b] w' fun r w'' => r = .returned (.bool false) ∧ w' = w'') :
    Calls Tryd.prog 7 #[.int .u64 a, .int .u64 b] w fun r w' => r = .returned (.bool true) ∧ Below w.heap.size w w' := by
  have K1 := hide C1
  have K2 := hide C2
  clear C1 C2
  go_enter Tryd.func7, Tryd.ntmps7
  go_wp2_with fail
  refine (unhide K1 _).mono ?_
  rintro e wk ⟨rfl, rfl⟩
  go_wp2_with fail
  refine (unhide K2 _).mono ?_
  rintro e wk ⟨rfl, rfl⟩
  go_wp2_with fail
  refine (awake5_any _ (hT)).mono ?_
  rintro e w9 ⟨rfl, hb9⟩
  go_wp2
  go_ret
  exact ⟨rfl, hb9⟩

set_option maxRecDepth 20000 in
set_option maxHeartbeats 8000000 in
theorem sumExact_e3 (a b : Nat) (s : Bool) (w : World) (hT : Tab w)
    (C1 : ∀ w', Calls Tryd.prog 17 #[.int .u64 a] w' fun r w'' => r = .returned (.bool true) ∧ w' = w'')
    (C2 : ∀ w', Calls Tryd.prog 17 #[.int .u64 b] w' fun r w'' => r = .returned (.bool true) ∧ w' = w'')
    (C3 : ∀ w', Calls Tryd.prog 18 #[.int .u64 a] w' fun r w'' => r = .returned (.bool s) ∧ w' = w'')
    (C4 : ∀ w', Calls Tryd.prog 18 #[.int .u64 b] w' fun r w'' => r = .returned (.bool (!s)) ∧ w' = w'') :
    Calls Tryd.prog 7 #[.int .u64 a, .int .u64 b] w fun r w' => r = .returned (.bool true) ∧ Below w.heap.size w w' := by
  have K1 := hide C1
  have K2 := hide C2
  have K3 := hide C3
  have K4 := hide C4
  clear C1 C2 C3 C4
  go_enter Tryd.func7, Tryd.ntmps7
  go_wp2_with fail
  refine (unhide K1 _).mono ?_
  rintro e wk ⟨rfl, rfl⟩
  go_wp2_with fail
  refine (unhide K2 _).mono ?_
  rintro e wk ⟨rfl, rfl⟩
  go_wp2_with fail
  refine (unhide K3 _).mono ?_
  rintro e wk ⟨rfl, rfl⟩
  go_wp2_with fail
  refine (unhide K4 _).mono ?_
  rintro e wk ⟨rfl, rfl⟩
  cases s
  all_goals
    go_wp2_with fail
    refine (awake5_any _ (hT)).mono ?_
    rintro e w9 ⟨rfl, hb9⟩
    go_wp2
    go_ret
    exact ⟨rfl, hb9⟩

set_option maxRecDepth 20000 in
set_option maxHeartbeats 8000000 in
theorem sumExact_pg1 (a b : Nat) (m1 m2 X1 X2 s2 Y2  : Int) (w : World) (hT : Tab w) 
    (C1 : ∀ w', Calls Tryd.prog 17 #[.int .u64 a] w' fun r w'' => r = .returned (.bool true) ∧ w' = w'')
    (C2 : ∀ w', Calls Tryd.prog 17 #[.int .u64 b] w' fun r w'' => r = .returned (.bool true) ∧ w' = w'')
    (C3 : ∀ w', Calls Tryd.prog 18 #[.int .u64 a] w' fun r w'' => r = .returned (.bool false) ∧ w' = w'')
    (C4 : ∀ w', Calls Tryd.prog 18 #[.int .u64 b] w' fun r w'' => r = .returned (.bool false) ∧ w' = w'')
    (C5 : ∀ w', Calls Tryd.prog 19 #[.int .u64 a] w' fun r w'' => ∃ u, r = .returned u ∧ IsDy w'' u m1 X1 ∧ Below w'.heap.size w' w'')
    (C6 : ∀ w', Calls Tryd.prog 19 #[.int .u64 b] w' fun r w'' => ∃ u, r = .returned u ∧ IsDy w'' u m2 X2 ∧ Below w'.heap.size w' w'')
    (C7 : ∀ w' v, IsDy w' v m2 X2 → Calls Tryd.prog 22 #[v, .int .i64 1] w' fun r w'' => ∃ q, r = .returned q ∧ IsDy w'' q s2 Y2 ∧ Below w'.heap.size w' w'')
    (C8 : ∀ w' v u, IsDy w' v m1 X1 → IsDy w' u s2 Y2 → Calls Tryd.prog 21 #[v, u] w' fun r w'' => r = .returned (.int .i64 (1)) ∧ Below w'.heap.size w' w'') :
    Calls Tryd.prog 7 #[.int .u64 a, .int .u64 b] w fun r w' => r = .returned (.bool true) ∧ Below w.heap.size w w' := by
  have K1 := hide C1
  have K2 := hide C2
  have K3 := hide C3
  have K4 := hide C4
  have K5 := hide C5
  have K6 := hide C6
  have K7 := hide C7
  have K8 := hide C8
  clear C1 C2 C3 C4 C5 C6 C7 C8
  go_enter Tryd.func7, Tryd.ntmps7
  go_wp2_with fail
  refine (unhide K1 _).mono ?_
  rintro e wk ⟨rfl, rfl⟩
  go_wp2_with fail
  refine (unhide K2 _).mono ?_
  rintro e wk ⟨rfl, rfl⟩
  go_wp2_with fail
  refine (unhide K3 _).mono ?_
  rintro e wk ⟨rfl, rfl⟩
  go_wp2_with fail
  refine (unhide K4 _).mono ?_
  rintro e wk ⟨rfl, rfl⟩
  go_wp2_with fail
  refine (unhide K5 _).mono ?_
  rintro e w1 ⟨v, rfl, hv, hb1⟩
  obtain ⟨n1, a1, c1, L1, rfl, i1⟩ := hv
  have hb1a : Below w1.heap.size w1 (w1.alloc (.cells #[.bool n1, .slice a1 L1.length c1, .int .i64 X1] 38)) := (Below.refl _ _).alloc (Nat.le_refl _) _
  have HV := hide ((show IsDy w1 (.agg #[.bool n1, .slice a1 L1.length c1, .int .i64 X1]) m1 X1 from ⟨n1, a1, c1, L1, rfl, i1⟩).below hb1a)
  have X := hide (Box3.new w1 (.bool n1) (.slice a1 L1.length c1) (.int .i64 X1))
  have B1 := hide (hb1.trans (hb1a.mono hb1.size))
  have hs1 := hb1.size
  clear i1 hb1 hb1a
  go_wp2_with fail
  refine (unhide K6 _).mono ?_
  rintro e w2 ⟨v, rfl, hv, hb1⟩
  obtain ⟨n2, a2, c2, L2, rfl, i2⟩ := hv
  have hb1a : Below w2.heap.size w2 (w2.alloc (.cells #[.bool n2, .slice a2 L2.length c2, .int .i64 X2] 38)) := (Below.refl _ _).alloc (Nat.le_refl _) _
  have HU := hide ((show IsDy w2 (.agg #[.bool n2, .slice a2 L2.length c2, .int .i64 X2]) m2 X2 from ⟨n2, a2, c2, L2, rfl, i2⟩).below hb1a)
  have HV2 := hide (((unhide HV).below hb1).below hb1a)
  have x1 := ((unhide X).all hb1).all hb1a
  have x2 := Box3.new w2 (.bool n2) (.slice a2 L2.length c2) (.int .i64 X2)
  have hs2 : w1.heap.size < w2.heap.size := ((unhide X).all hb1).lt
  have B2 := hide ((unhide B1).trans ((hb1.trans (hb1a.mono hb1.size)).mono (unhide B1).size))
  have XX1 := hide x1; have XX2 := hide x2
  clear i2 hb1 hb1a B1 HV X x1 x2
  go_wp2_with (go_at_call 18; refine (unhide K3 _).mono ?_; rintro e wk ⟨rfl, rfl⟩)
  refine at_world (fun W => Below w.heap.size w W ∧ Box3 W w1.heap.size (.bool n1) (.slice a1 L1.length c1) (.int .i64 X1) ∧ Box3 W w2.heap.size (.bool n2) (.slice a2 L2.length c2) (.int .i64 X2) ∧ IsDy W (.agg #[.bool n1, .slice a1 L1.length c1, .int .i64 X1]) m1 X1 ∧ IsDy W (.agg #[.bool n2, .slice a2 L2.length c2, .int .i64 X2]) m2 X2 ∧ Tab W) ⟨unhide B2, unhide XX1, unhide XX2, unhide HV2, unhide HU, hT.all (unhide B2)⟩ ?_
  clear B2 XX1 XX2 HV2 HU
  rintro W0 ⟨b0, x1, x2, hv, hu, ht⟩
  generalize w1.heap.size = gx at *
  generalize w2.heap.size = gy at *
  generalize L1.length = l1 at *
  generalize L2.length = l2 at *
  have hK : ∀ w', Below W0.heap.size W0 w' → Below W0.heap.size W0 w' ∧ w'.cell? ⟨gx, 0, none⟩ = some (.bool n1) ∧ w'.cell? ⟨gx, 1, none⟩ = some (.slice a1 l1 c1) ∧ w'.cell? ⟨gx, 2, none⟩ = some (.int .i64 X1) ∧ w'.cell? ⟨gy, 0, none⟩ = some (.bool n2) ∧ w'.cell? ⟨gy, 1, none⟩ = some (.slice a2 l2 c2) ∧ w'.cell? ⟨gy, 2, none⟩ = some (.int .i64 X2) := fun w' h => ⟨h, (x1.all h).c0, (x1.all h).c1, (x1.all h).c2, (x2.all h).c0, (x2.all h).c1, (x2.all h).c2⟩
  have HK := hide hK; have BB := hide b0; have HV := hide hv; have HU := hide hu; have HT := hide ht
  clear hK b0 x1 x2 hv hu ht
  refine wp_region_held_drew (S := (fun w' => Below W0.heap.size W0 w' ∧ w'.cell? ⟨gx, 0, none⟩ = some (.bool n1) ∧ w'.cell? ⟨gx, 1, none⟩ = some (.slice a1 l1 c1) ∧ w'.cell? ⟨gx, 2, none⟩ = some (.int .i64 X1) ∧ w'.cell? ⟨gy, 0, none⟩ = some (.bool n2) ∧ w'.cell? ⟨gy, 1, none⟩ = some (.slice a2 l2 c2) ∧ w'.cell? ⟨gy, 2, none⟩ = some (.int .i64 X2))) (by kernel_rfl) ?_ (fun hHeld => ?_)
  · exact unhide HK _ (Below.refl _ _).drew
  refine wpAnyH_take (i := 0) (oi := { dst := some 35, op := Op.load 38 (Operand.tmp 5), type := 38, pos := "law.go:65", after := #[], guard := none }) (v := (Value.agg #[.bool n1, .slice a1 l1 c1, .int .i64 X1])) rfl (by kernel_rfl) (by kernel_rfl) (by kernel_rfl) (fun _ _ _ h => h) (Or.inl ⟨by rfl, ?_⟩) (by assumption) ?_
  · (intro w hSw; (try dsimp only at hSw); go_simp)
  simp only [Act.put, List.setIfInBounds_toArray, List.set_cons_zero, List.set_cons_succ]
  refine wpAnyH_take (i := 1) (oi := { dst := some 36, op := Op.load 38 (Operand.tmp 6), type := 38, pos := "law.go:65", after := #[], guard := none }) (v := (Value.agg #[.bool n2, .slice a2 l2 c2, .int .i64 X2])) rfl (by kernel_rfl) (by kernel_rfl) (by kernel_rfl) (fun _ _ _ h => h) (Or.inl ⟨by rfl, ?_⟩) (by assumption) ?_
  · (intro w hSw; (try dsimp only at hSw); go_simp)
  simp only [Act.put, List.setIfInBounds_toArray, List.set_cons_zero, List.set_cons_succ]
  refine wpAnyH_ready (rs := [2]) (by kernel_rfl) (by simp) ?_
  refine AllReadyH.cons (o := { dst := some 37, op := Op.call { callee := Callee.value (Operand.func 22), args := #[Operand.tmp 36, Operand.const (Value.int IntKind.i64 1)], argTypes := #[38, 3] }, type := 38, pos := "law.go:65", after := #[{ on := 1, ground := Ground.data }], guard := none }) rfl (fun K hK => ?_) AllReadyH.nil
  go_simp
  refine (unhide K7 _ _ ((unhide HU).below (And.left (by assumption)))).mono ?_
  rintro e wn5 ⟨q, rfl, hq, hb1⟩; have hB5 : Below W0.heap.size W0 wn5 := Below.trans (And.left (by assumption)) (hb1.mono (Below.size (And.left (by assumption)))); obtain ⟨n5, a5, c5, L5, rfl, j5⟩ := hq; have J2 := hide (show IsDy wn5 (.agg #[.bool n5, .slice a5 L5.length c5, .int .i64 Y2]) s2 Y2 from ⟨n5, a5, c5, L5, rfl, j5⟩); clear hb1 j5
  go_wp2_with fail
  refine hK.out _ _ ?_ (fun hHeld => ?_)
  · exact unhide HK _ hB5
  clear hK K
  refine wpAnyH_ready (rs := [3]) (by kernel_rfl) (by simp) ?_
  refine AllReadyH.cons (o := { dst := some 38, op := Op.call { callee := Callee.value (Operand.func 21), args := #[Operand.tmp 35, Operand.tmp 37], argTypes := #[38, 38] }, type := 3, pos := "law.go:65", after := #[{ on := 0, ground := Ground.data }, { on := 2, ground := Ground.data }, { on := 2, ground := Ground.chain }], guard := none }) rfl (fun K hK => ?_) AllReadyH.nil
  go_simp
  refine (unhide K8 _ _ _ ((unhide HV).below (And.left (by assumption))) (unhide J2)).mono ?_
  rintro e wn6 ⟨rfl, hb1⟩; have hB6 : Below W0.heap.size W0 wn6 := Below.trans (And.left (by assumption)) (hb1.mono (Below.size (And.left (by assumption)))); clear hb1
  go_wp2_with fail
  refine hK.out _ _ ?_ (fun hHeld => ?_)
  · exact unhide HK _ hB6
  clear hK K
  refine wpAnyH_take (i := 4) (oi := { dst := some 39, op := Op.binOp BinOp.gtr 3 (Operand.tmp 38) (Operand.const (Value.int IntKind.i64 0)) 3, type := 4, pos := "law.go:65", after := #[{ on := 3, ground := Ground.data }], guard := none }) (v := (.bool true)) rfl (by kernel_rfl) (by kernel_rfl) (by kernel_rfl) (fun _ _ _ h => h) (Or.inl ⟨by rfl, ?_⟩) (by assumption) ?_
  · (intro w hSw; (try dsimp only at hSw); go_simp)
  simp only [Act.put, List.setIfInBounds_toArray, List.set_cons_zero, List.set_cons_succ]
  refine wpAnyH_take (i := 5) (oi := { dst := some 40, op := Op.move (Operand.tmp 39), type := 4, pos := "law.go:65", after := #[{ on := 4, ground := Ground.data }, { on := 3, ground := Ground.chain }], guard := none }) (v := (.bool true)) rfl (by kernel_rfl) (by kernel_rfl) (by kernel_rfl) (fun _ _ _ h => h) (Or.inl ⟨by rfl, ?_⟩) (by assumption) ?_
  · (intro w hSw; (try dsimp only at hSw); go_simp)
  simp only [Act.put, List.setIfInBounds_toArray, List.set_cons_zero, List.set_cons_succ]
  refine wpAnyH_take (i := 6) (oi := { dst := some 41, op := Op.load 38 (Operand.tmp 6), type := 38, pos := "law.go:65", after := #[{ on := 5, ground := Ground.guard }], guard := some (5, false) }) (v := undef) rfl (by kernel_rfl) (by kernel_rfl) (by kernel_rfl) (fun _ _ _ h => h) (Or.inr ⟨by rfl, rfl⟩) (by assumption) ?_
  simp only [Act.put, List.setIfInBounds_toArray, List.set_cons_zero, List.set_cons_succ]
  refine wpAnyH_take (i := 7) (oi := { dst := some 42, op := Op.load 38 (Operand.tmp 5), type := 38, pos := "law.go:65", after := #[{ on := 5, ground := Ground.guard }], guard := some (5, false) }) (v := undef) rfl (by kernel_rfl) (by kernel_rfl) (by kernel_rfl) (fun _ _ _ h => h) (Or.inr ⟨by rfl, rfl⟩) (by assumption) ?_
  simp only [Act.put, List.setIfInBounds_toArray, List.set_cons_zero, List.set_cons_succ]
  refine wpAnyH_take (i := 8) (oi := { dst := some 43, op := Op.call { callee := Callee.value (Operand.func 22), args := #[Operand.tmp 42, Operand.const (Value.int IntKind.i64 1)], argTypes := #[38, 3] }, type := 38, pos := "law.go:65", after := #[{ on := 7, ground := Ground.data }, { on := 5, ground := Ground.chain }, { on := 5, ground := Ground.guard }], guard := some (5, false) }) (v := undef) rfl (by kernel_rfl) (by kernel_rfl) (by kernel_rfl) (fun _ _ _ h => h) (Or.inr ⟨by rfl, rfl⟩) (by assumption) ?_
  simp only [Act.put, List.setIfInBounds_toArray, List.set_cons_zero, List.set_cons_succ]
  refine wpAnyH_take (i := 9) (oi := { dst := some 44, op := Op.call { callee := Callee.value (Operand.func 21), args := #[Operand.tmp 41, Operand.tmp 43], argTypes := #[38, 38] }, type := 3, pos := "law.go:65", after := #[{ on := 6, ground := Ground.data }, { on := 8, ground := Ground.data }, { on := 8, ground := Ground.chain }, { on := 5, ground := Ground.guard }], guard := some (5, false) }) (v := undef) rfl (by kernel_rfl) (by kernel_rfl) (by kernel_rfl) (fun _ _ _ h => h) (Or.inr ⟨by rfl, rfl⟩) (by assumption) ?_
  simp only [Act.put, List.setIfInBounds_toArray, List.set_cons_zero, List.set_cons_succ]
  refine wpAnyH_take (i := 10) (oi := { dst := some 45, op := Op.binOp BinOp.gtr 3 (Operand.tmp 44) (Operand.const (Value.int IntKind.i64 0)) 3, type := 4, pos := "law.go:65", after := #[{ on := 9, ground := Ground.data }, { on := 5, ground := Ground.guard }], guard := some (5, false) }) (v := undef) rfl (by kernel_rfl) (by kernel_rfl) (by kernel_rfl) (fun _ _ _ h => h) (Or.inr ⟨by rfl, rfl⟩) (by assumption) ?_
  simp only [Act.put, List.setIfInBounds_toArray, List.set_cons_zero, List.set_cons_succ]
  refine wpAnyH_take (i := 11) (oi := { dst := some 46, op := Op.pick (Operand.tmp 40) (Operand.const (Value.bool true)) (Operand.tmp 45), type := 4, pos := "law.go:65", after := #[{ on := 5, ground := Ground.data }, { on := 10, ground := Ground.data }], guard := none }) (v := (.bool true)) rfl (by kernel_rfl) (by kernel_rfl) (by kernel_rfl) (fun _ _ _ h => h) (Or.inl ⟨by rfl, ?_⟩) (by assumption) ?_
  · (intro w hSw; (try dsimp only at hSw); go_simp)
  simp only [Act.put, List.setIfInBounds_toArray, List.set_cons_zero, List.set_cons_succ]
  refine wpAnyH_done (by kernel_rfl) ?_ _
  have hW : Below W0.heap.size W0 _ := And.left (by assumption)
  go_wp2_with fail
  refine (awake5_any _ ((unhide HT).all hW)).mono ?_
  rintro e w9 ⟨rfl, hb9⟩
  have b9 := hW.trans (hb9.mono hW.size)
  go_wp2
  go_ret
  exact ⟨rfl, (unhide BB).trans (b9.mono (unhide BB).size)⟩

set_option maxRecDepth 20000 in
set_option maxHeartbeats 8000000 in
theorem sumExact_pg2m (a b : Nat) (m1 m2 X1 X2 s2 Y2 s1 Y1 : Int) (w : World) (hT : Tab w) 
    (C1 : ∀ w', Calls Tryd.prog 17 #[.int .u64 a] w' fun r w'' => r = .returned (.bool true) ∧ w' = w'')
    (C2 : ∀ w', Calls Tryd.prog 17 #[.int .u64 b] w' fun r w'' => r = .returned (.bool true) ∧ w' = w'')
    (C3 : ∀ w', Calls Tryd.prog 18 #[.int .u64 a] w' fun r w'' => r = .returned (.bool false) ∧ w' = w'')
    (C4 : ∀ w', Calls Tryd.prog 18 #[.int .u64 b] w' fun r w'' => r = .returned (.bool false) ∧ w' = w'')
    (C5 : ∀ w', Calls Tryd.prog 19 #[.int .u64 a] w' fun r w'' => ∃ u, r = .returned u ∧ IsDy w'' u m1 X1 ∧ Below w'.heap.size w' w'')
    (C6 : ∀ w', Calls Tryd.prog 19 #[.int .u64 b] w' fun r w'' => ∃ u, r = .returned u ∧ IsDy w'' u m2 X2 ∧ Below w'.heap.size w' w'')
    (C7 : ∀ w' v, IsDy w' v m2 X2 → Calls Tryd.prog 22 #[v, .int .i64 1] w' fun r w'' => ∃ q, r = .returned q ∧ IsDy w'' q s2 Y2 ∧ Below w'.heap.size w' w'')
    (C8 : ∀ w' v u, IsDy w' v m1 X1 → IsDy w' u s2 Y2 → Calls Tryd.prog 21 #[v, u] w' fun r w'' => r = .returned (.int .i64 (-1)) ∧ Below w'.heap.size w' w'')
    (C9 : ∀ w' v, IsDy w' v m1 X1 → Calls Tryd.prog 22 #[v, .int .i64 1] w' fun r w'' => ∃ q, r = .returned q ∧ IsDy w'' q s1 Y1 ∧ Below w'.heap.size w' w'')
    (C10 : ∀ w' v u, IsDy w' v m2 X2 → IsDy w' u s1 Y1 → Calls Tryd.prog 21 #[v, u] w' fun r w'' => r = .returned (.int .i64 (1)) ∧ Below w'.heap.size w' w'') :
    Calls Tryd.prog 7 #[.int .u64 a, .int .u64 b] w fun r w' => r = .returned (.bool true) ∧ Below w.heap.size w w' := by
  have K1 := hide C1
  have K2 := hide C2
  have K3 := hide C3
  have K4 := hide C4
  have K5 := hide C5
  have K6 := hide C6
  have K7 := hide C7
  have K8 := hide C8
  have K9 := hide C9
  have K10 := hide C10
  clear C1 C2 C3 C4 C5 C6 C7 C8 C9 C10
  go_enter Tryd.func7, Tryd.ntmps7
  go_wp2_with fail
  refine (unhide K1 _).mono ?_
  rintro e wk ⟨rfl, rfl⟩
  go_wp2_with fail
  refine (unhide K2 _).mono ?_
  rintro e wk ⟨rfl, rfl⟩
  go_wp2_with fail
  refine (unhide K3 _).mono ?_
  rintro e wk ⟨rfl, rfl⟩
  go_wp2_with fail
  refine (unhide K4 _).mono ?_
  rintro e wk ⟨rfl, rfl⟩
  go_wp2_with fail
  refine (unhide K5 _).mono ?_
  rintro e w1 ⟨v, rfl, hv, hb1⟩
  obtain ⟨n1, a1, c1, L1, rfl, i1⟩ := hv
  have hb1a : Below w1.heap.size w1 (w1.alloc (.cells #[.bool n1, .slice a1 L1.length c1, .int .i64 X1] 38)) := (Below.refl _ _).alloc (Nat.le_refl _) _
  have HV := hide ((show IsDy w1 (.agg #[.bool n1, .slice a1 L1.length c1, .int .i64 X1]) m1 X1 from ⟨n1, a1, c1, L1, rfl, i1⟩).below hb1a)
  have X := hide (Box3.new w1 (.bool n1) (.slice a1 L1.length c1) (.int .i64 X1))
  have B1 := hide (hb1.trans (hb1a.mono hb1.size))
  have hs1 := hb1.size
  clear i1 hb1 hb1a
  go_wp2_with fail
  refine (unhide K6 _).mono ?_
  rintro e w2 ⟨v, rfl, hv, hb1⟩
  obtain ⟨n2, a2, c2, L2, rfl, i2⟩ := hv
  have hb1a : Below w2.heap.size w2 (w2.alloc (.cells #[.bool n2, .slice a2 L2.length c2, .int .i64 X2] 38)) := (Below.refl _ _).alloc (Nat.le_refl _) _
  have HU := hide ((show IsDy w2 (.agg #[.bool n2, .slice a2 L2.length c2, .int .i64 X2]) m2 X2 from ⟨n2, a2, c2, L2, rfl, i2⟩).below hb1a)
  have HV2 := hide (((unhide HV).below hb1).below hb1a)
  have x1 := ((unhide X).all hb1).all hb1a
  have x2 := Box3.new w2 (.bool n2) (.slice a2 L2.length c2) (.int .i64 X2)
  have hs2 : w1.heap.size < w2.heap.size := ((unhide X).all hb1).lt
  have B2 := hide ((unhide B1).trans ((hb1.trans (hb1a.mono hb1.size)).mono (unhide B1).size))
  have XX1 := hide x1; have XX2 := hide x2
  clear i2 hb1 hb1a B1 HV X x1 x2
  go_wp2_with (go_at_call 18; refine (unhide K3 _).mono ?_; rintro e wk ⟨rfl, rfl⟩)
  refine at_world (fun W => Below w.heap.size w W ∧ Box3 W w1.heap.size (.bool n1) (.slice a1 L1.length c1) (.int .i64 X1) ∧ Box3 W w2.heap.size (.bool n2) (.slice a2 L2.length c2) (.int .i64 X2) ∧ IsDy W (.agg #[.bool n1, .slice a1 L1.length c1, .int .i64 X1]) m1 X1 ∧ IsDy W (.agg #[.bool n2, .slice a2 L2.length c2, .int .i64 X2]) m2 X2 ∧ Tab W) ⟨unhide B2, unhide XX1, unhide XX2, unhide HV2, unhide HU, hT.all (unhide B2)⟩ ?_
  clear B2 XX1 XX2 HV2 HU
  rintro W0 ⟨b0, x1, x2, hv, hu, ht⟩
  generalize w1.heap.size = gx at *
  generalize w2.heap.size = gy at *
  generalize L1.length = l1 at *
  generalize L2.length = l2 at *
  have hK : ∀ w', Below W0.heap.size W0 w' → Below W0.heap.size W0 w' ∧ w'.cell? ⟨gx, 0, none⟩ = some (.bool n1) ∧ w'.cell? ⟨gx, 1, none⟩ = some (.slice a1 l1 c1) ∧ w'.cell? ⟨gx, 2, none⟩ = some (.int .i64 X1) ∧ w'.cell? ⟨gy, 0, none⟩ = some (.bool n2) ∧ w'.cell? ⟨gy, 1, none⟩ = some (.slice a2 l2 c2) ∧ w'.cell? ⟨gy, 2, none⟩ = some (.int .i64 X2) := fun w' h => ⟨h, (x1.all h).c0, (x1.all h).c1, (x1.all h).c2, (x2.all h).c0, (x2.all h).c1, (x2.all h).c2⟩
  have HK := hide hK; have BB := hide b0; have HV := hide hv; have HU := hide hu; have HT := hide ht
  clear hK b0 x1 x2 hv hu ht
  go_region_held3 (fun w' => Below W0.heap.size W0 w' ∧ w'.cell? ⟨gx, 0, none⟩ = some (.bool n1) ∧ w'.cell? ⟨gx, 1, none⟩ = some (.slice a1 l1 c1) ∧ w'.cell? ⟨gx, 2, none⟩ = some (.int .i64 X1) ∧ w'.cell? ⟨gy, 0, none⟩ = some (.bool n2) ∧ w'.cell? ⟨gy, 1, none⟩ = some (.slice a2 l2 c2) ∧ w'.cell? ⟨gy, 2, none⟩ = some (.int .i64 X2))
    (first | exact unhide HK _ (Below.refl _ _).drew | exact unhide HK _ (by assumption) | fail "NO KEEP")
    (first | (go_at_call_of 22 (Value.agg #[.bool n2, .slice a2 l2 c2, .int .i64 X2]); refine (unhide K7 _ _ ((unhide HU).below (And.left (by assumption)))).mono ?_; rintro e wn5 ⟨q, rfl, hq, hb1⟩; have hB5 : Below W0.heap.size W0 wn5 := Below.trans (And.left (by assumption)) (hb1.mono (Below.size (And.left (by assumption)))); obtain ⟨n5, a5, c5, L5, rfl, j5⟩ := hq; have J2 := hide (show IsDy wn5 (.agg #[.bool n5, .slice a5 L5.length c5, .int .i64 Y2]) s2 Y2 from ⟨n5, a5, c5, L5, rfl, j5⟩); clear hb1 j5) | (go_at_call_of 21 (Value.agg #[.bool n1, .slice a1 l1 c1, .int .i64 X1]); refine (unhide K8 _ _ _ ((unhide HV).below (And.left (by assumption))) (unhide J2)).mono ?_; rintro e wn6 ⟨rfl, hb1⟩; have hB6 : Below W0.heap.size W0 wn6 := Below.trans (And.left (by assumption)) (hb1.mono (Below.size (And.left (by assumption)))); clear hb1) | (go_at_call_of 22 (Value.agg #[.bool n1, .slice a1 l1 c1, .int .i64 X1]); refine (unhide K9 _ _ ((unhide HV).below (And.left (by assumption)))).mono ?_; rintro e wn7 ⟨q, rfl, hq, hb1⟩; have hB7 : Below W0.heap.size W0 wn7 := Below.trans (And.left (by assumption)) (hb1.mono (Below.size (And.left (by assumption)))); obtain ⟨n7, a7, c7, L7, rfl, j7⟩ := hq; have J1 := hide (show IsDy wn7 (.agg #[.bool n7, .slice a7 L7.length c7, .int .i64 Y1]) s1 Y1 from ⟨n7, a7, c7, L7, rfl, j7⟩); clear hb1 j7) | (go_at_call_of 21 (Value.agg #[.bool n2, .slice a2 l2 c2, .int .i64 X2]); refine (unhide K10 _ _ _ ((unhide HU).below (And.left (by assumption))) (unhide J1)).mono ?_; rintro e wn8 ⟨rfl, hb1⟩; have hB8 : Below W0.heap.size W0 wn8 := Below.trans (And.left (by assumption)) (hb1.mono (Below.size (And.left (by assumption)))); clear hb1) | fail "NO ARM")
  have hW : Below W0.heap.size W0 _ := And.left (by assumption)
  go_wp2_with fail
  refine (awake5_any _ ((unhide HT).all hW)).mono ?_
  rintro e w9 ⟨rfl, hb9⟩
  have b9 := hW.trans (hb9.mono hW.size)
  go_wp2
  go_ret
  exact ⟨rfl, (unhide BB).trans (b9.mono (unhide BB).size)⟩

set_option maxRecDepth 20000 in
set_option maxHeartbeats 8000000 in
theorem sumExact_pg2z (a b : Nat) (m1 m2 X1 X2 s2 Y2 s1 Y1 : Int) (w : World) (hT : Tab w) 
    (C1 : ∀ w', Calls Tryd.prog 17 #[.int .u64 a] w' fun r w'' => r = .returned (.bool true) ∧ w' = w'')
    (C2 : ∀ w', Calls Tryd.prog 17 #[.int .u64 b] w' fun r w'' => r = .returned (.bool true) ∧ w' = w'')
    (C3 : ∀ w', Calls Tryd.prog 18 #[.int .u64 a] w' fun r w'' => r = .returned (.bool false) ∧ w' = w'')
    (C4 : ∀ w', Calls Tryd.prog 18 #[.int .u64 b] w' fun r w'' => r = .returned (.bool false) ∧ w' = w'')
    (C5 : ∀ w', Calls Tryd.prog 19 #[.int .u64 a] w' fun r w'' => ∃ u, r = .returned u ∧ IsDy w'' u m1 X1 ∧ Below w'.heap.size w' w'')
    (C6 : ∀ w', Calls Tryd.prog 19 #[.int .u64 b] w' fun r w'' => ∃ u, r = .returned u ∧ IsDy w'' u m2 X2 ∧ Below w'.heap.size w' w'')
    (C7 : ∀ w' v, IsDy w' v m2 X2 → Calls Tryd.prog 22 #[v, .int .i64 1] w' fun r w'' => ∃ q, r = .returned q ∧ IsDy w'' q s2 Y2 ∧ Below w'.heap.size w' w'')
    (C8 : ∀ w' v u, IsDy w' v m1 X1 → IsDy w' u s2 Y2 → Calls Tryd.prog 21 #[v, u] w' fun r w'' => r = .returned (.int .i64 (0)) ∧ Below w'.heap.size w' w'')
    (C9 : ∀ w' v, IsDy w' v m1 X1 → Calls Tryd.prog 22 #[v, .int .i64 1] w' fun r w'' => ∃ q, r = .returned q ∧ IsDy w'' q s1 Y1 ∧ Below w'.heap.size w' w'')
    (C10 : ∀ w' v u, IsDy w' v m2 X2 → IsDy w' u s1 Y1 → Calls Tryd.prog 21 #[v, u] w' fun r w'' => r = .returned (.int .i64 (1)) ∧ Below w'.heap.size w' w'') :
    Calls Tryd.prog 7 #[.int .u64 a, .int .u64 b] w fun r w' => r = .returned (.bool true) ∧ Below w.heap.size w w' := by
  have K1 := hide C1
  have K2 := hide C2
  have K3 := hide C3
  have K4 := hide C4
  have K5 := hide C5
  have K6 := hide C6
  have K7 := hide C7
  have K8 := hide C8
  have K9 := hide C9
  have K10 := hide C10
  clear C1 C2 C3 C4 C5 C6 C7 C8 C9 C10
  go_enter Tryd.func7, Tryd.ntmps7
  go_wp2_with fail
  refine (unhide K1 _).mono ?_
  rintro e wk ⟨rfl, rfl⟩
  go_wp2_with fail
  refine (unhide K2 _).mono ?_
  rintro e wk ⟨rfl, rfl⟩
  go_wp2_with fail
  refine (unhide K3 _).mono ?_
  rintro e wk ⟨rfl, rfl⟩
  go_wp2_with fail
  refine (unhide K4 _).mono ?_
  rintro e wk ⟨rfl, rfl⟩
  go_wp2_with fail
  refine (unhide K5 _).mono ?_
  rintro e w1 ⟨v, rfl, hv, hb1⟩
  obtain ⟨n1, a1, c1, L1, rfl, i1⟩ := hv
  have hb1a : Below w1.heap.size w1 (w1.alloc (.cells #[.bool n1, .slice a1 L1.length c1, .int .i64 X1] 38)) := (Below.refl _ _).alloc (Nat.le_refl _) _
  have HV := hide ((show IsDy w1 (.agg #[.bool n1, .slice a1 L1.length c1, .int .i64 X1]) m1 X1 from ⟨n1, a1, c1, L1, rfl, i1⟩).below hb1a)
  have X := hide (Box3.new w1 (.bool n1) (.slice a1 L1.length c1) (.int .i64 X1))
  have B1 := hide (hb1.trans (hb1a.mono hb1.size))
  have hs1 := hb1.size
  clear i1 hb1 hb1a
  go_wp2_with fail
  refine (unhide K6 _).mono ?_
  rintro e w2 ⟨v, rfl, hv, hb1⟩
  obtain ⟨n2, a2, c2, L2, rfl, i2⟩ := hv
  have hb1a : Below w2.heap.size w2 (w2.alloc (.cells #[.bool n2, .slice a2 L2.length c2, .int .i64 X2] 38)) := (Below.refl _ _).alloc (Nat.le_refl _) _
  have HU := hide ((show IsDy w2 (.agg #[.bool n2, .slice a2 L2.length c2, .int .i64 X2]) m2 X2 from ⟨n2, a2, c2, L2, rfl, i2⟩).below hb1a)
  have HV2 := hide (((unhide HV).below hb1).below hb1a)
  have x1 := ((unhide X).all hb1).all hb1a
  have x2 := Box3.new w2 (.bool n2) (.slice a2 L2.length c2) (.int .i64 X2)
  have hs2 : w1.heap.size < w2.heap.size := ((unhide X).all hb1).lt
  have B2 := hide ((unhide B1).trans ((hb1.trans (hb1a.mono hb1.size)).mono (unhide B1).size))
  have XX1 := hide x1; have XX2 := hide x2
  clear i2 hb1 hb1a B1 HV X x1 x2
  go_wp2_with (go_at_call 18; refine (unhide K3 _).mono ?_; rintro e wk ⟨rfl, rfl⟩)
  refine at_world (fun W => Below w.heap.size w W ∧ Box3 W w1.heap.size (.bool n1) (.slice a1 L1.length c1) (.int .i64 X1) ∧ Box3 W w2.heap.size (.bool n2) (.slice a2 L2.length c2) (.int .i64 X2) ∧ IsDy W (.agg #[.bool n1, .slice a1 L1.length c1, .int .i64 X1]) m1 X1 ∧ IsDy W (.agg #[.bool n2, .slice a2 L2.length c2, .int .i64 X2]) m2 X2 ∧ Tab W) ⟨unhide B2, unhide XX1, unhide XX2, unhide HV2, unhide HU, hT.all (unhide B2)⟩ ?_
  clear B2 XX1 XX2 HV2 HU
  rintro W0 ⟨b0, x1, x2, hv, hu, ht⟩
  generalize w1.heap.size = gx at *
  generalize w2.heap.size = gy at *
  generalize L1.length = l1 at *
  generalize L2.length = l2 at *
  have hK : ∀ w', Below W0.heap.size W0 w' → Below W0.heap.size W0 w' ∧ w'.cell? ⟨gx, 0, none⟩ = some (.bool n1) ∧ w'.cell? ⟨gx, 1, none⟩ = some (.slice a1 l1 c1) ∧ w'.cell? ⟨gx, 2, none⟩ = some (.int .i64 X1) ∧ w'.cell? ⟨gy, 0, none⟩ = some (.bool n2) ∧ w'.cell? ⟨gy, 1, none⟩ = some (.slice a2 l2 c2) ∧ w'.cell? ⟨gy, 2, none⟩ = some (.int .i64 X2) := fun w' h => ⟨h, (x1.all h).c0, (x1.all h).c1, (x1.all h).c2, (x2.all h).c0, (x2.all h).c1, (x2.all h).c2⟩
  have HK := hide hK; have BB := hide b0; have HV := hide hv; have HU := hide hu; have HT := hide ht
  clear hK b0 x1 x2 hv hu ht
  go_region_held3 (fun w' => Below W0.heap.size W0 w' ∧ w'.cell? ⟨gx, 0, none⟩ = some (.bool n1) ∧ w'.cell? ⟨gx, 1, none⟩ = some (.slice a1 l1 c1) ∧ w'.cell? ⟨gx, 2, none⟩ = some (.int .i64 X1) ∧ w'.cell? ⟨gy, 0, none⟩ = some (.bool n2) ∧ w'.cell? ⟨gy, 1, none⟩ = some (.slice a2 l2 c2) ∧ w'.cell? ⟨gy, 2, none⟩ = some (.int .i64 X2))
    (first | exact unhide HK _ (Below.refl _ _).drew | exact unhide HK _ (by assumption) | fail "NO KEEP")
    (first | (go_at_call_of 22 (Value.agg #[.bool n2, .slice a2 l2 c2, .int .i64 X2]); refine (unhide K7 _ _ ((unhide HU).below (And.left (by assumption)))).mono ?_; rintro e wn5 ⟨q, rfl, hq, hb1⟩; have hB5 : Below W0.heap.size W0 wn5 := Below.trans (And.left (by assumption)) (hb1.mono (Below.size (And.left (by assumption)))); obtain ⟨n5, a5, c5, L5, rfl, j5⟩ := hq; have J2 := hide (show IsDy wn5 (.agg #[.bool n5, .slice a5 L5.length c5, .int .i64 Y2]) s2 Y2 from ⟨n5, a5, c5, L5, rfl, j5⟩); clear hb1 j5) | (go_at_call_of 21 (Value.agg #[.bool n1, .slice a1 l1 c1, .int .i64 X1]); refine (unhide K8 _ _ _ ((unhide HV).below (And.left (by assumption))) (unhide J2)).mono ?_; rintro e wn6 ⟨rfl, hb1⟩; have hB6 : Below W0.heap.size W0 wn6 := Below.trans (And.left (by assumption)) (hb1.mono (Below.size (And.left (by assumption)))); clear hb1) | (go_at_call_of 22 (Value.agg #[.bool n1, .slice a1 l1 c1, .int .i64 X1]); refine (unhide K9 _ _ ((unhide HV).below (And.left (by assumption)))).mono ?_; rintro e wn7 ⟨q, rfl, hq, hb1⟩; have hB7 : Below W0.heap.size W0 wn7 := Below.trans (And.left (by assumption)) (hb1.mono (Below.size (And.left (by assumption)))); obtain ⟨n7, a7, c7, L7, rfl, j7⟩ := hq; have J1 := hide (show IsDy wn7 (.agg #[.bool n7, .slice a7 L7.length c7, .int .i64 Y1]) s1 Y1 from ⟨n7, a7, c7, L7, rfl, j7⟩); clear hb1 j7) | (go_at_call_of 21 (Value.agg #[.bool n2, .slice a2 l2 c2, .int .i64 X2]); refine (unhide K10 _ _ _ ((unhide HU).below (And.left (by assumption))) (unhide J1)).mono ?_; rintro e wn8 ⟨rfl, hb1⟩; have hB8 : Below W0.heap.size W0 wn8 := Below.trans (And.left (by assumption)) (hb1.mono (Below.size (And.left (by assumption)))); clear hb1) | fail "NO ARM")
  have hW : Below W0.heap.size W0 _ := And.left (by assumption)
  go_wp2_with fail
  refine (awake5_any _ ((unhide HT).all hW)).mono ?_
  rintro e w9 ⟨rfl, hb9⟩
  have b9 := hW.trans (hb9.mono hW.size)
  go_wp2
  go_ret
  exact ⟨rfl, (unhide BB).trans (b9.mono (unhide BB).size)⟩

set_option maxRecDepth 20000 in
set_option maxHeartbeats 8000000 in
theorem sumExact_pmmm (a b o : Nat) (m1 m2 X1 X2 s2 Y2 s1 Y1 md Xd : Int) (w : World) (hT : Tab w) 
    (C1 : ∀ w', Calls Tryd.prog 17 #[.int .u64 a] w' fun r w'' => r = .returned (.bool true) ∧ w' = w'')
    (C2 : ∀ w', Calls Tryd.prog 17 #[.int .u64 b] w' fun r w'' => r = .returned (.bool true) ∧ w' = w'')
    (C3 : ∀ w', Calls Tryd.prog 18 #[.int .u64 a] w' fun r w'' => r = .returned (.bool false) ∧ w' = w'')
    (C4 : ∀ w', Calls Tryd.prog 18 #[.int .u64 b] w' fun r w'' => r = .returned (.bool false) ∧ w' = w'')
    (C5 : ∀ w', Calls Tryd.prog 19 #[.int .u64 a] w' fun r w'' => ∃ u, r = .returned u ∧ IsDy w'' u m1 X1 ∧ Below w'.heap.size w' w'')
    (C6 : ∀ w', Calls Tryd.prog 19 #[.int .u64 b] w' fun r w'' => ∃ u, r = .returned u ∧ IsDy w'' u m2 X2 ∧ Below w'.heap.size w' w'')
    (C7 : ∀ w' v, IsDy w' v m2 X2 → Calls Tryd.prog 22 #[v, .int .i64 1] w' fun r w'' => ∃ q, r = .returned q ∧ IsDy w'' q s2 Y2 ∧ Below w'.heap.size w' w'')
    (C8 : ∀ w' v u, IsDy w' v m1 X1 → IsDy w' u s2 Y2 → Calls Tryd.prog 21 #[v, u] w' fun r w'' => r = .returned (.int .i64 (-1)) ∧ Below w'.heap.size w' w'')
    (C9 : ∀ w' v, IsDy w' v m1 X1 → Calls Tryd.prog 22 #[v, .int .i64 1] w' fun r w'' => ∃ q, r = .returned q ∧ IsDy w'' q s1 Y1 ∧ Below w'.heap.size w' w'')
    (C10 : ∀ w' v u, IsDy w' v m2 X2 → IsDy w' u s1 Y1 → Calls Tryd.prog 21 #[v, u] w' fun r w'' => r = .returned (.int .i64 (-1)) ∧ Below w'.heap.size w' w'')
    (C11 : ∀ w', Tab w' → Calls Tryd.prog 12 #[.int .u64 a, .int .u64 b] w' fun r w'' => r = .returned (.tuple #[.int .u64 o, .int .u8 0]) ∧ Below w'.heap.size w' w'')
    (C12 : ∀ w', Calls Tryd.prog 17 #[.int .u64 o] w' fun r w'' => r = .returned (.bool true) ∧ w' = w'')
    (C13 : ∀ w', Calls Tryd.prog 19 #[.int .u64 o] w' fun r w'' => ∃ u, r = .returned u ∧ IsDy w'' u md Xd ∧ Below w'.heap.size w' w'')
    (C14 : ∀ w' v u, IsDy w' v m1 X1 → IsDy w' u m2 X2 → Calls Tryd.prog 24 #[v, u] w' fun r w'' => ∃ q, r = .returned q ∧ IsDy w'' q md Xd ∧ Below w'.heap.size w' w'') :
    Calls Tryd.prog 7 #[.int .u64 a, .int .u64 b] w fun r w' => r = .returned (.bool true) ∧ Below w.heap.size w w' := by
  have K1 := hide C1
  have K2 := hide C2
  have K3 := hide C3
  have K4 := hide C4
  have K5 := hide C5
  have K6 := hide C6
  have K7 := hide C7
  have K8 := hide C8
  have K9 := hide C9
  have K10 := hide C10
  have K11 := hide C11
  have K12 := hide C12
  have K13 := hide C13
  have K14 := hide C14
  clear C1 C2 C3 C4 C5 C6 C7 C8 C9 C10 C11 C12 C13 C14
  go_enter Tryd.func7, Tryd.ntmps7
  go_wp2_with fail
  refine (unhide K1 _).mono ?_
  rintro e wk ⟨rfl, rfl⟩
  go_wp2_with fail
  refine (unhide K2 _).mono ?_
  rintro e wk ⟨rfl, rfl⟩
  go_wp2_with fail
  refine (unhide K3 _).mono ?_
  rintro e wk ⟨rfl, rfl⟩
  go_wp2_with fail
  refine (unhide K4 _).mono ?_
  rintro e wk ⟨rfl, rfl⟩
  go_wp2_with fail
  refine (unhide K5 _).mono ?_
  rintro e w1 ⟨v, rfl, hv, hb1⟩
  obtain ⟨n1, a1, c1, L1, rfl, i1⟩ := hv
  have hb1a : Below w1.heap.size w1 (w1.alloc (.cells #[.bool n1, .slice a1 L1.length c1, .int .i64 X1] 38)) := (Below.refl _ _).alloc (Nat.le_refl _) _
  have HV := hide ((show IsDy w1 (.agg #[.bool n1, .slice a1 L1.length c1, .int .i64 X1]) m1 X1 from ⟨n1, a1, c1, L1, rfl, i1⟩).below hb1a)
  have X := hide (Box3.new w1 (.bool n1) (.slice a1 L1.length c1) (.int .i64 X1))
  have B1 := hide (hb1.trans (hb1a.mono hb1.size))
  have hs1 := hb1.size
  clear i1 hb1 hb1a
  go_wp2_with fail
  refine (unhide K6 _).mono ?_
  rintro e w2 ⟨v, rfl, hv, hb1⟩
  obtain ⟨n2, a2, c2, L2, rfl, i2⟩ := hv
  have hb1a : Below w2.heap.size w2 (w2.alloc (.cells #[.bool n2, .slice a2 L2.length c2, .int .i64 X2] 38)) := (Below.refl _ _).alloc (Nat.le_refl _) _
  have HU := hide ((show IsDy w2 (.agg #[.bool n2, .slice a2 L2.length c2, .int .i64 X2]) m2 X2 from ⟨n2, a2, c2, L2, rfl, i2⟩).below hb1a)
  have HV2 := hide (((unhide HV).below hb1).below hb1a)
  have x1 := ((unhide X).all hb1).all hb1a
  have x2 := Box3.new w2 (.bool n2) (.slice a2 L2.length c2) (.int .i64 X2)
  have hs2 : w1.heap.size < w2.heap.size := ((unhide X).all hb1).lt
  have B2 := hide ((unhide B1).trans ((hb1.trans (hb1a.mono hb1.size)).mono (unhide B1).size))
  have XX1 := hide x1; have XX2 := hide x2
  clear i2 hb1 hb1a B1 HV X x1 x2
  go_wp2_with (go_at_call 18; refine (unhide K3 _).mono ?_; rintro e wk ⟨rfl, rfl⟩)
  refine at_world (fun W => Below w.heap.size w W ∧ Box3 W w1.heap.size (.bool n1) (.slice a1 L1.length c1) (.int .i64 X1) ∧ Box3 W w2.heap.size (.bool n2) (.slice a2 L2.length c2) (.int .i64 X2) ∧ IsDy W (.agg #[.bool n1, .slice a1 L1.length c1, .int .i64 X1]) m1 X1 ∧ IsDy W (.agg #[.bool n2, .slice a2 L2.length c2, .int .i64 X2]) m2 X2 ∧ Tab W) ⟨unhide B2, unhide XX1, unhide XX2, unhide HV2, unhide HU, hT.all (unhide B2)⟩ ?_
  clear B2 XX1 XX2 HV2 HU
  rintro W0 ⟨b0, x1, x2, hv, hu, ht⟩
  generalize w1.heap.size = gx at *
  generalize w2.heap.size = gy at *
  generalize L1.length = l1 at *
  generalize L2.length = l2 at *
  have hK : ∀ w', Below W0.heap.size W0 w' → Below W0.heap.size W0 w' ∧ w'.cell? ⟨gx, 0, none⟩ = some (.bool n1) ∧ w'.cell? ⟨gx, 1, none⟩ = some (.slice a1 l1 c1) ∧ w'.cell? ⟨gx, 2, none⟩ = some (.int .i64 X1) ∧ w'.cell? ⟨gy, 0, none⟩ = some (.bool n2) ∧ w'.cell? ⟨gy, 1, none⟩ = some (.slice a2 l2 c2) ∧ w'.cell? ⟨gy, 2, none⟩ = some (.int .i64 X2) := fun w' h => ⟨h, (x1.all h).c0, (x1.all h).c1, (x1.all h).c2, (x2.all h).c0, (x2.all h).c1, (x2.all h).c2⟩
  have HK := hide hK; have BB := hide b0; have HV := hide hv; have HU := hide hu; have HT := hide ht
  clear hK b0 x1 x2 hv hu ht
  go_region_held3 (fun w' => Below W0.heap.size W0 w' ∧ w'.cell? ⟨gx, 0, none⟩ = some (.bool n1) ∧ w'.cell? ⟨gx, 1, none⟩ = some (.slice a1 l1 c1) ∧ w'.cell? ⟨gx, 2, none⟩ = some (.int .i64 X1) ∧ w'.cell? ⟨gy, 0, none⟩ = some (.bool n2) ∧ w'.cell? ⟨gy, 1, none⟩ = some (.slice a2 l2 c2) ∧ w'.cell? ⟨gy, 2, none⟩ = some (.int .i64 X2))
    (first | exact unhide HK _ (Below.refl _ _).drew | exact unhide HK _ (by assumption) | fail "NO KEEP")
    (first | (go_at_call_of 22 (Value.agg #[.bool n2, .slice a2 l2 c2, .int .i64 X2]); refine (unhide K7 _ _ ((unhide HU).below (And.left (by assumption)))).mono ?_; rintro e wn5 ⟨q, rfl, hq, hb1⟩; have hB5 : Below W0.heap.size W0 wn5 := Below.trans (And.left (by assumption)) (hb1.mono (Below.size (And.left (by assumption)))); obtain ⟨n5, a5, c5, L5, rfl, j5⟩ := hq; have J2 := hide (show IsDy wn5 (.agg #[.bool n5, .slice a5 L5.length c5, .int .i64 Y2]) s2 Y2 from ⟨n5, a5, c5, L5, rfl, j5⟩); clear hb1 j5) | (go_at_call_of 21 (Value.agg #[.bool n1, .slice a1 l1 c1, .int .i64 X1]); refine (unhide K8 _ _ _ ((unhide HV).below (And.left (by assumption))) (unhide J2)).mono ?_; rintro e wn6 ⟨rfl, hb1⟩; have hB6 : Below W0.heap.size W0 wn6 := Below.trans (And.left (by assumption)) (hb1.mono (Below.size (And.left (by assumption)))); clear hb1) | (go_at_call_of 22 (Value.agg #[.bool n1, .slice a1 l1 c1, .int .i64 X1]); refine (unhide K9 _ _ ((unhide HV).below (And.left (by assumption)))).mono ?_; rintro e wn7 ⟨q, rfl, hq, hb1⟩; have hB7 : Below W0.heap.size W0 wn7 := Below.trans (And.left (by assumption)) (hb1.mono (Below.size (And.left (by assumption)))); obtain ⟨n7, a7, c7, L7, rfl, j7⟩ := hq; have J1 := hide (show IsDy wn7 (.agg #[.bool n7, .slice a7 L7.length c7, .int .i64 Y1]) s1 Y1 from ⟨n7, a7, c7, L7, rfl, j7⟩); clear hb1 j7) | (go_at_call_of 21 (Value.agg #[.bool n2, .slice a2 l2 c2, .int .i64 X2]); refine (unhide K10 _ _ _ ((unhide HU).below (And.left (by assumption))) (unhide J1)).mono ?_; rintro e wn8 ⟨rfl, hb1⟩; have hB8 : Below W0.heap.size W0 wn8 := Below.trans (And.left (by assumption)) (hb1.mono (Below.size (And.left (by assumption)))); clear hb1) | fail "NO ARM")
  have hW : Below W0.heap.size W0 _ := And.left (by assumption)
  go_wp2_with fail
  refine (unhide K11 _ ((unhide HT).all hW)).mono ?_
  rintro e w3 ⟨rfl, hb3⟩
  have B3 := hide (hW.trans (hb3.mono hW.size))
  clear hb3
  go_wp2_with fail
  refine (unhide K12 _).mono ?_
  rintro e wk ⟨rfl, rfl⟩
  go_wp2_with fail
  refine (unhide K13 _).mono ?_
  rintro e w4 ⟨u, rfl, hd, hb4⟩
  obtain ⟨n7, a7, c7, L7, rfl, i7⟩ := hd
  have D1 := hide (show IsDy w4 (.agg #[.bool n7, .slice a7 L7.length c7, .int .i64 Xd]) md Xd from ⟨n7, a7, c7, L7, rfl, i7⟩)
  have B4 := hide ((unhide B3).trans (hb4.mono (unhide B3).size))
  clear hb4 i7 B3
  go_wp2_with fail
  refine (unhide K5 _).mono ?_
  rintro e w5 ⟨u, rfl, hd, hb4⟩
  obtain ⟨n8, a8, c8, L8, rfl, i8⟩ := hd
  have D2 := hide (show IsDy w5 (.agg #[.bool n8, .slice a8 L8.length c8, .int .i64 X1]) m1 X1 from ⟨n8, a8, c8, L8, rfl, i8⟩)
  have B5 := hide ((unhide B4).trans (hb4.mono (unhide B4).size))
  have D1a := hide ((unhide D1).below hb4)
  clear hb4 i8 B4 D1
  go_wp2_with fail
  refine (unhide K6 _).mono ?_
  rintro e w6 ⟨u, rfl, hd, hb4⟩
  obtain ⟨n9, a9, c9, L9, rfl, i9⟩ := hd
  have D3 := hide (show IsDy w6 (.agg #[.bool n9, .slice a9 L9.length c9, .int .i64 X2]) m2 X2 from ⟨n9, a9, c9, L9, rfl, i9⟩)
  have B6 := hide ((unhide B5).trans (hb4.mono (unhide B5).size))
  have D1b := hide ((unhide D1a).below hb4)
  have D2a := hide ((unhide D2).below hb4)
  clear hb4 i9 B5 D1a D2
  go_wp2_with fail
  refine (unhide K14 _ _ _ (unhide D2a) (unhide D3)).mono ?_
  rintro e w7 ⟨u, rfl, hd, hb4⟩
  obtain ⟨nA, aA, cA, LA, rfl, iA⟩ := hd
  have D4 := hide (show IsDy w7 (.agg #[.bool nA, .slice aA LA.length cA, .int .i64 Xd]) md Xd from ⟨nA, aA, cA, LA, rfl, iA⟩)
  have B7 := hide ((unhide B6).trans (hb4.mono (unhide B6).size))
  have D1c := hide ((unhide D1b).below hb4)
  clear hb4 iA B6 D1b D2a D3
  go_wp2_with fail
  refine (sameN (unhide D1c) (unhide D4)).mono ?_
  rintro e w8 ⟨rfl, hb4⟩
  have B8 := hide ((unhide B7).trans (hb4.mono (unhide B7).size))
  clear hb4 B7 D1c D4
  go_wp2_with fail
  refine (awake5_any _ ((unhide HT).all (unhide B8))).mono ?_
  rintro e w9 ⟨rfl, hb9⟩
  have b9 := (unhide B8).trans (hb9.mono (unhide B8).size)
  clear hb9 B8
  go_wp2
  go_ret
  exact ⟨rfl, (unhide BB).trans (b9.mono (unhide BB).size)⟩

set_option maxRecDepth 20000 in
set_option maxHeartbeats 8000000 in
theorem sumExact_pmmz (a b o : Nat) (m1 m2 X1 X2 s2 Y2 s1 Y1 md Xd : Int) (w : World) (hT : Tab w) 
    (C1 : ∀ w', Calls Tryd.prog 17 #[.int .u64 a] w' fun r w'' => r = .returned (.bool true) ∧ w' = w'')
    (C2 : ∀ w', Calls Tryd.prog 17 #[.int .u64 b] w' fun r w'' => r = .returned (.bool true) ∧ w' = w'')
    (C3 : ∀ w', Calls Tryd.prog 18 #[.int .u64 a] w' fun r w'' => r = .returned (.bool false) ∧ w' = w'')
    (C4 : ∀ w', Calls Tryd.prog 18 #[.int .u64 b] w' fun r w'' => r = .returned (.bool false) ∧ w' = w'')
    (C5 : ∀ w', Calls Tryd.prog 19 #[.int .u64 a] w' fun r w'' => ∃ u, r = .returned u ∧ IsDy w'' u m1 X1 ∧ Below w'.heap.size w' w'')
    (C6 : ∀ w', Calls Tryd.prog 19 #[.int .u64 b] w' fun r w'' => ∃ u, r = .returned u ∧ IsDy w'' u m2 X2 ∧ Below w'.heap.size w' w'')
    (C7 : ∀ w' v, IsDy w' v m2 X2 → Calls Tryd.prog 22 #[v, .int .i64 1] w' fun r w'' => ∃ q, r = .returned q ∧ IsDy w'' q s2 Y2 ∧ Below w'.heap.size w' w'')
    (C8 : ∀ w' v u, IsDy w' v m1 X1 → IsDy w' u s2 Y2 → Calls Tryd.prog 21 #[v, u] w' fun r w'' => r = .returned (.int .i64 (-1)) ∧ Below w'.heap.size w' w'')
    (C9 : ∀ w' v, IsDy w' v m1 X1 → Calls Tryd.prog 22 #[v, .int .i64 1] w' fun r w'' => ∃ q, r = .returned q ∧ IsDy w'' q s1 Y1 ∧ Below w'.heap.size w' w'')
    (C10 : ∀ w' v u, IsDy w' v m2 X2 → IsDy w' u s1 Y1 → Calls Tryd.prog 21 #[v, u] w' fun r w'' => r = .returned (.int .i64 (0)) ∧ Below w'.heap.size w' w'')
    (C11 : ∀ w', Tab w' → Calls Tryd.prog 12 #[.int .u64 a, .int .u64 b] w' fun r w'' => r = .returned (.tuple #[.int .u64 o, .int .u8 0]) ∧ Below w'.heap.size w' w'')
    (C12 : ∀ w', Calls Tryd.prog 17 #[.int .u64 o] w' fun r w'' => r = .returned (.bool true) ∧ w' = w'')
    (C13 : ∀ w', Calls Tryd.prog 19 #[.int .u64 o] w' fun r w'' => ∃ u, r = .returned u ∧ IsDy w'' u md Xd ∧ Below w'.heap.size w' w'')
    (C14 : ∀ w' v u, IsDy w' v m1 X1 → IsDy w' u m2 X2 → Calls Tryd.prog 24 #[v, u] w' fun r w'' => ∃ q, r = .returned q ∧ IsDy w'' q md Xd ∧ Below w'.heap.size w' w'') :
    Calls Tryd.prog 7 #[.int .u64 a, .int .u64 b] w fun r w' => r = .returned (.bool true) ∧ Below w.heap.size w w' := by
  have K1 := hide C1
  have K2 := hide C2
  have K3 := hide C3
  have K4 := hide C4
  have K5 := hide C5
  have K6 := hide C6
  have K7 := hide C7
  have K8 := hide C8
  have K9 := hide C9
  have K10 := hide C10
  have K11 := hide C11
  have K12 := hide C12
  have K13 := hide C13
  have K14 := hide C14
  clear C1 C2 C3 C4 C5 C6 C7 C8 C9 C10 C11 C12 C13 C14
  go_enter Tryd.func7, Tryd.ntmps7
  go_wp2_with fail
  refine (unhide K1 _).mono ?_
  rintro e wk ⟨rfl, rfl⟩
  go_wp2_with fail
  refine (unhide K2 _).mono ?_
  rintro e wk ⟨rfl, rfl⟩
  go_wp2_with fail
  refine (unhide K3 _).mono ?_
  rintro e wk ⟨rfl, rfl⟩
  go_wp2_with fail
  refine (unhide K4 _).mono ?_
  rintro e wk ⟨rfl, rfl⟩
  go_wp2_with fail
  refine (unhide K5 _).mono ?_
  rintro e w1 ⟨v, rfl, hv, hb1⟩
  obtain ⟨n1, a1, c1, L1, rfl, i1⟩ := hv
  have hb1a : Below w1.heap.size w1 (w1.alloc (.cells #[.bool n1, .slice a1 L1.length c1, .int .i64 X1] 38)) := (Below.refl _ _).alloc (Nat.le_refl _) _
  have HV := hide ((show IsDy w1 (.agg #[.bool n1, .slice a1 L1.length c1, .int .i64 X1]) m1 X1 from ⟨n1, a1, c1, L1, rfl, i1⟩).below hb1a)
  have X := hide (Box3.new w1 (.bool n1) (.slice a1 L1.length c1) (.int .i64 X1))
  have B1 := hide (hb1.trans (hb1a.mono hb1.size))
  have hs1 := hb1.size
  clear i1 hb1 hb1a
  go_wp2_with fail
  refine (unhide K6 _).mono ?_
  rintro e w2 ⟨v, rfl, hv, hb1⟩
  obtain ⟨n2, a2, c2, L2, rfl, i2⟩ := hv
  have hb1a : Below w2.heap.size w2 (w2.alloc (.cells #[.bool n2, .slice a2 L2.length c2, .int .i64 X2] 38)) := (Below.refl _ _).alloc (Nat.le_refl _) _
  have HU := hide ((show IsDy w2 (.agg #[.bool n2, .slice a2 L2.length c2, .int .i64 X2]) m2 X2 from ⟨n2, a2, c2, L2, rfl, i2⟩).below hb1a)
  have HV2 := hide (((unhide HV).below hb1).below hb1a)
  have x1 := ((unhide X).all hb1).all hb1a
  have x2 := Box3.new w2 (.bool n2) (.slice a2 L2.length c2) (.int .i64 X2)
  have hs2 : w1.heap.size < w2.heap.size := ((unhide X).all hb1).lt
  have B2 := hide ((unhide B1).trans ((hb1.trans (hb1a.mono hb1.size)).mono (unhide B1).size))
  have XX1 := hide x1; have XX2 := hide x2
  clear i2 hb1 hb1a B1 HV X x1 x2
  go_wp2_with (go_at_call 18; refine (unhide K3 _).mono ?_; rintro e wk ⟨rfl, rfl⟩)
  refine at_world (fun W => Below w.heap.size w W ∧ Box3 W w1.heap.size (.bool n1) (.slice a1 L1.length c1) (.int .i64 X1) ∧ Box3 W w2.heap.size (.bool n2) (.slice a2 L2.length c2) (.int .i64 X2) ∧ IsDy W (.agg #[.bool n1, .slice a1 L1.length c1, .int .i64 X1]) m1 X1 ∧ IsDy W (.agg #[.bool n2, .slice a2 L2.length c2, .int .i64 X2]) m2 X2 ∧ Tab W) ⟨unhide B2, unhide XX1, unhide XX2, unhide HV2, unhide HU, hT.all (unhide B2)⟩ ?_
  clear B2 XX1 XX2 HV2 HU
  rintro W0 ⟨b0, x1, x2, hv, hu, ht⟩
  generalize w1.heap.size = gx at *
  generalize w2.heap.size = gy at *
  generalize L1.length = l1 at *
  generalize L2.length = l2 at *
  have hK : ∀ w', Below W0.heap.size W0 w' → Below W0.heap.size W0 w' ∧ w'.cell? ⟨gx, 0, none⟩ = some (.bool n1) ∧ w'.cell? ⟨gx, 1, none⟩ = some (.slice a1 l1 c1) ∧ w'.cell? ⟨gx, 2, none⟩ = some (.int .i64 X1) ∧ w'.cell? ⟨gy, 0, none⟩ = some (.bool n2) ∧ w'.cell? ⟨gy, 1, none⟩ = some (.slice a2 l2 c2) ∧ w'.cell? ⟨gy, 2, none⟩ = some (.int .i64 X2) := fun w' h => ⟨h, (x1.all h).c0, (x1.all h).c1, (x1.all h).c2, (x2.all h).c0, (x2.all h).c1, (x2.all h).c2⟩
  have HK := hide hK; have BB := hide b0; have HV := hide hv; have HU := hide hu; have HT := hide ht
  clear hK b0 x1 x2 hv hu ht
  go_region_held3 (fun w' => Below W0.heap.size W0 w' ∧ w'.cell? ⟨gx, 0, none⟩ = some (.bool n1) ∧ w'.cell? ⟨gx, 1, none⟩ = some (.slice a1 l1 c1) ∧ w'.cell? ⟨gx, 2, none⟩ = some (.int .i64 X1) ∧ w'.cell? ⟨gy, 0, none⟩ = some (.bool n2) ∧ w'.cell? ⟨gy, 1, none⟩ = some (.slice a2 l2 c2) ∧ w'.cell? ⟨gy, 2, none⟩ = some (.int .i64 X2))
    (first | exact unhide HK _ (Below.refl _ _).drew | exact unhide HK _ (by assumption) | fail "NO KEEP")
    (first | (go_at_call_of 22 (Value.agg #[.bool n2, .slice a2 l2 c2, .int .i64 X2]); refine (unhide K7 _ _ ((unhide HU).below (And.left (by assumption)))).mono ?_; rintro e wn5 ⟨q, rfl, hq, hb1⟩; have hB5 : Below W0.heap.size W0 wn5 := Below.trans (And.left (by assumption)) (hb1.mono (Below.size (And.left (by assumption)))); obtain ⟨n5, a5, c5, L5, rfl, j5⟩ := hq; have J2 := hide (show IsDy wn5 (.agg #[.bool n5, .slice a5 L5.length c5, .int .i64 Y2]) s2 Y2 from ⟨n5, a5, c5, L5, rfl, j5⟩); clear hb1 j5) | (go_at_call_of 21 (Value.agg #[.bool n1, .slice a1 l1 c1, .int .i64 X1]); refine (unhide K8 _ _ _ ((unhide HV).below (And.left (by assumption))) (unhide J2)).mono ?_; rintro e wn6 ⟨rfl, hb1⟩; have hB6 : Below W0.heap.size W0 wn6 := Below.trans (And.left (by assumption)) (hb1.mono (Below.size (And.left (by assumption)))); clear hb1) | (go_at_call_of 22 (Value.agg #[.bool n1, .slice a1 l1 c1, .int .i64 X1]); refine (unhide K9 _ _ ((unhide HV).below (And.left (by assumption)))).mono ?_; rintro e wn7 ⟨q, rfl, hq, hb1⟩; have hB7 : Below W0.heap.size W0 wn7 := Below.trans (And.left (by assumption)) (hb1.mono (Below.size (And.left (by assumption)))); obtain ⟨n7, a7, c7, L7, rfl, j7⟩ := hq; have J1 := hide (show IsDy wn7 (.agg #[.bool n7, .slice a7 L7.length c7, .int .i64 Y1]) s1 Y1 from ⟨n7, a7, c7, L7, rfl, j7⟩); clear hb1 j7) | (go_at_call_of 21 (Value.agg #[.bool n2, .slice a2 l2 c2, .int .i64 X2]); refine (unhide K10 _ _ _ ((unhide HU).below (And.left (by assumption))) (unhide J1)).mono ?_; rintro e wn8 ⟨rfl, hb1⟩; have hB8 : Below W0.heap.size W0 wn8 := Below.trans (And.left (by assumption)) (hb1.mono (Below.size (And.left (by assumption)))); clear hb1) | fail "NO ARM")
  have hW : Below W0.heap.size W0 _ := And.left (by assumption)
  go_wp2_with fail
  refine (unhide K11 _ ((unhide HT).all hW)).mono ?_
  rintro e w3 ⟨rfl, hb3⟩
  have B3 := hide (hW.trans (hb3.mono hW.size))
  clear hb3
  go_wp2_with fail
  refine (unhide K12 _).mono ?_
  rintro e wk ⟨rfl, rfl⟩
  go_wp2_with fail
  refine (unhide K13 _).mono ?_
  rintro e w4 ⟨u, rfl, hd, hb4⟩
  obtain ⟨n7, a7, c7, L7, rfl, i7⟩ := hd
  have D1 := hide (show IsDy w4 (.agg #[.bool n7, .slice a7 L7.length c7, .int .i64 Xd]) md Xd from ⟨n7, a7, c7, L7, rfl, i7⟩)
  have B4 := hide ((unhide B3).trans (hb4.mono (unhide B3).size))
  clear hb4 i7 B3
  go_wp2_with fail
  refine (unhide K5 _).mono ?_
  rintro e w5 ⟨u, rfl, hd, hb4⟩
  obtain ⟨n8, a8, c8, L8, rfl, i8⟩ := hd
  have D2 := hide (show IsDy w5 (.agg #[.bool n8, .slice a8 L8.length c8, .int .i64 X1]) m1 X1 from ⟨n8, a8, c8, L8, rfl, i8⟩)
  have B5 := hide ((unhide B4).trans (hb4.mono (unhide B4).size))
  have D1a := hide ((unhide D1).below hb4)
  clear hb4 i8 B4 D1
  go_wp2_with fail
  refine (unhide K6 _).mono ?_
  rintro e w6 ⟨u, rfl, hd, hb4⟩
  obtain ⟨n9, a9, c9, L9, rfl, i9⟩ := hd
  have D3 := hide (show IsDy w6 (.agg #[.bool n9, .slice a9 L9.length c9, .int .i64 X2]) m2 X2 from ⟨n9, a9, c9, L9, rfl, i9⟩)
  have B6 := hide ((unhide B5).trans (hb4.mono (unhide B5).size))
  have D1b := hide ((unhide D1a).below hb4)
  have D2a := hide ((unhide D2).below hb4)
  clear hb4 i9 B5 D1a D2
  go_wp2_with fail
  refine (unhide K14 _ _ _ (unhide D2a) (unhide D3)).mono ?_
  rintro e w7 ⟨u, rfl, hd, hb4⟩
  obtain ⟨nA, aA, cA, LA, rfl, iA⟩ := hd
  have D4 := hide (show IsDy w7 (.agg #[.bool nA, .slice aA LA.length cA, .int .i64 Xd]) md Xd from ⟨nA, aA, cA, LA, rfl, iA⟩)
  have B7 := hide ((unhide B6).trans (hb4.mono (unhide B6).size))
  have D1c := hide ((unhide D1b).below hb4)
  clear hb4 iA B6 D1b D2a D3
  go_wp2_with fail
  refine (sameN (unhide D1c) (unhide D4)).mono ?_
  rintro e w8 ⟨rfl, hb4⟩
  have B8 := hide ((unhide B7).trans (hb4.mono (unhide B7).size))
  clear hb4 B7 D1c D4
  go_wp2_with fail
  refine (awake5_any _ ((unhide HT).all (unhide B8))).mono ?_
  rintro e w9 ⟨rfl, hb9⟩
  have b9 := (unhide B8).trans (hb9.mono (unhide B8).size)
  clear hb9 B8
  go_wp2
  go_ret
  exact ⟨rfl, (unhide BB).trans (b9.mono (unhide BB).size)⟩

set_option maxRecDepth 20000 in
set_option maxHeartbeats 8000000 in
theorem sumExact_pmzm (a b o : Nat) (m1 m2 X1 X2 s2 Y2 s1 Y1 md Xd : Int) (w : World) (hT : Tab w) 
    (C1 : ∀ w', Calls Tryd.prog 17 #[.int .u64 a] w' fun r w'' => r = .returned (.bool true) ∧ w' = w'')
    (C2 : ∀ w', Calls Tryd.prog 17 #[.int .u64 b] w' fun r w'' => r = .returned (.bool true) ∧ w' = w'')
    (C3 : ∀ w', Calls Tryd.prog 18 #[.int .u64 a] w' fun r w'' => r = .returned (.bool false) ∧ w' = w'')
    (C4 : ∀ w', Calls Tryd.prog 18 #[.int .u64 b] w' fun r w'' => r = .returned (.bool false) ∧ w' = w'')
    (C5 : ∀ w', Calls Tryd.prog 19 #[.int .u64 a] w' fun r w'' => ∃ u, r = .returned u ∧ IsDy w'' u m1 X1 ∧ Below w'.heap.size w' w'')
    (C6 : ∀ w', Calls Tryd.prog 19 #[.int .u64 b] w' fun r w'' => ∃ u, r = .returned u ∧ IsDy w'' u m2 X2 ∧ Below w'.heap.size w' w'')
    (C7 : ∀ w' v, IsDy w' v m2 X2 → Calls Tryd.prog 22 #[v, .int .i64 1] w' fun r w'' => ∃ q, r = .returned q ∧ IsDy w'' q s2 Y2 ∧ Below w'.heap.size w' w'')
    (C8 : ∀ w' v u, IsDy w' v m1 X1 → IsDy w' u s2 Y2 → Calls Tryd.prog 21 #[v, u] w' fun r w'' => r = .returned (.int .i64 (0)) ∧ Below w'.heap.size w' w'')
    (C9 : ∀ w' v, IsDy w' v m1 X1 → Calls Tryd.prog 22 #[v, .int .i64 1] w' fun r w'' => ∃ q, r = .returned q ∧ IsDy w'' q s1 Y1 ∧ Below w'.heap.size w' w'')
    (C10 : ∀ w' v u, IsDy w' v m2 X2 → IsDy w' u s1 Y1 → Calls Tryd.prog 21 #[v, u] w' fun r w'' => r = .returned (.int .i64 (-1)) ∧ Below w'.heap.size w' w'')
    (C11 : ∀ w', Tab w' → Calls Tryd.prog 12 #[.int .u64 a, .int .u64 b] w' fun r w'' => r = .returned (.tuple #[.int .u64 o, .int .u8 0]) ∧ Below w'.heap.size w' w'')
    (C12 : ∀ w', Calls Tryd.prog 17 #[.int .u64 o] w' fun r w'' => r = .returned (.bool true) ∧ w' = w'')
    (C13 : ∀ w', Calls Tryd.prog 19 #[.int .u64 o] w' fun r w'' => ∃ u, r = .returned u ∧ IsDy w'' u md Xd ∧ Below w'.heap.size w' w'')
    (C14 : ∀ w' v u, IsDy w' v m1 X1 → IsDy w' u m2 X2 → Calls Tryd.prog 24 #[v, u] w' fun r w'' => ∃ q, r = .returned q ∧ IsDy w'' q md Xd ∧ Below w'.heap.size w' w'') :
    Calls Tryd.prog 7 #[.int .u64 a, .int .u64 b] w fun r w' => r = .returned (.bool true) ∧ Below w.heap.size w w' := by
  have K1 := hide C1
  have K2 := hide C2
  have K3 := hide C3
  have K4 := hide C4
  have K5 := hide C5
  have K6 := hide C6
  have K7 := hide C7
  have K8 := hide C8
  have K9 := hide C9
  have K10 := hide C10
  have K11 := hide C11
  have K12 := hide C12
  have K13 := hide C13
  have K14 := hide C14
  clear C1 C2 C3 C4 C5 C6 C7 C8 C9 C10 C11 C12 C13 C14
  go_enter Tryd.func7, Tryd.ntmps7
  go_wp2_with fail
  refine (unhide K1 _).mono ?_
  rintro e wk ⟨rfl, rfl⟩
  go_wp2_with fail
  refine (unhide K2 _).mono ?_
  rintro e wk ⟨rfl, rfl⟩
  go_wp2_with fail
  refine (unhide K3 _).mono ?_
  rintro e wk ⟨rfl, rfl⟩
  go_wp2_with fail
  refine (unhide K4 _).mono ?_
  rintro e wk ⟨rfl, rfl⟩
  go_wp2_with fail
  refine (unhide K5 _).mono ?_
  rintro e w1 ⟨v, rfl, hv, hb1⟩
  obtain ⟨n1, a1, c1, L1, rfl, i1⟩ := hv
  have hb1a : Below w1.heap.size w1 (w1.alloc (.cells #[.bool n1, .slice a1 L1.length c1, .int .i64 X1] 38)) := (Below.refl _ _).alloc (Nat.le_refl _) _
  have HV := hide ((show IsDy w1 (.agg #[.bool n1, .slice a1 L1.length c1, .int .i64 X1]) m1 X1 from ⟨n1, a1, c1, L1, rfl, i1⟩).below hb1a)
  have X := hide (Box3.new w1 (.bool n1) (.slice a1 L1.length c1) (.int .i64 X1))
  have B1 := hide (hb1.trans (hb1a.mono hb1.size))
  have hs1 := hb1.size
  clear i1 hb1 hb1a
  go_wp2_with fail
  refine (unhide K6 _).mono ?_
  rintro e w2 ⟨v, rfl, hv, hb1⟩
  obtain ⟨n2, a2, c2, L2, rfl, i2⟩ := hv
  have hb1a : Below w2.heap.size w2 (w2.alloc (.cells #[.bool n2, .slice a2 L2.length c2, .int .i64 X2] 38)) := (Below.refl _ _).alloc (Nat.le_refl _) _
  have HU := hide ((show IsDy w2 (.agg #[.bool n2, .slice a2 L2.length c2, .int .i64 X2]) m2 X2 from ⟨n2, a2, c2, L2, rfl, i2⟩).below hb1a)
  have HV2 := hide (((unhide HV).below hb1).below hb1a)
  have x1 := ((unhide X).all hb1).all hb1a
  have x2 := Box3.new w2 (.bool n2) (.slice a2 L2.length c2) (.int .i64 X2)
  have hs2 : w1.heap.size < w2.heap.size := ((unhide X).all hb1).lt
  have B2 := hide ((unhide B1).trans ((hb1.trans (hb1a.mono hb1.size)).mono (unhide B1).size))
  have XX1 := hide x1; have XX2 := hide x2
  clear i2 hb1 hb1a B1 HV X x1 x2
  go_wp2_with (go_at_call 18; refine (unhide K3 _).mono ?_; rintro e wk ⟨rfl, rfl⟩)
  refine at_world (fun W => Below w.heap.size w W ∧ Box3 W w1.heap.size (.bool n1) (.slice a1 L1.length c1) (.int .i64 X1) ∧ Box3 W w2.heap.size (.bool n2) (.slice a2 L2.length c2) (.int .i64 X2) ∧ IsDy W (.agg #[.bool n1, .slice a1 L1.length c1, .int .i64 X1]) m1 X1 ∧ IsDy W (.agg #[.bool n2, .slice a2 L2.length c2, .int .i64 X2]) m2 X2 ∧ Tab W) ⟨unhide B2, unhide XX1, unhide XX2, unhide HV2, unhide HU, hT.all (unhide B2)⟩ ?_
  clear B2 XX1 XX2 HV2 HU
  rintro W0 ⟨b0, x1, x2, hv, hu, ht⟩
  generalize w1.heap.size = gx at *
  generalize w2.heap.size = gy at *
  generalize L1.length = l1 at *
  generalize L2.length = l2 at *
  have hK : ∀ w', Below W0.heap.size W0 w' → Below W0.heap.size W0 w' ∧ w'.cell? ⟨gx, 0, none⟩ = some (.bool n1) ∧ w'.cell? ⟨gx, 1, none⟩ = some (.slice a1 l1 c1) ∧ w'.cell? ⟨gx, 2, none⟩ = some (.int .i64 X1) ∧ w'.cell? ⟨gy, 0, none⟩ = some (.bool n2) ∧ w'.cell? ⟨gy, 1, none⟩ = some (.slice a2 l2 c2) ∧ w'.cell? ⟨gy, 2, none⟩ = some (.int .i64 X2) := fun w' h => ⟨h, (x1.all h).c0, (x1.all h).c1, (x1.all h).c2, (x2.all h).c0, (x2.all h).c1, (x2.all h).c2⟩
  have HK := hide hK; have BB := hide b0; have HV := hide hv; have HU := hide hu; have HT := hide ht
  clear hK b0 x1 x2 hv hu ht
  go_region_held3 (fun w' => Below W0.heap.size W0 w' ∧ w'.cell? ⟨gx, 0, none⟩ = some (.bool n1) ∧ w'.cell? ⟨gx, 1, none⟩ = some (.slice a1 l1 c1) ∧ w'.cell? ⟨gx, 2, none⟩ = some (.int .i64 X1) ∧ w'.cell? ⟨gy, 0, none⟩ = some (.bool n2) ∧ w'.cell? ⟨gy, 1, none⟩ = some (.slice a2 l2 c2) ∧ w'.cell? ⟨gy, 2, none⟩ = some (.int .i64 X2))
    (first | exact unhide HK _ (Below.refl _ _).drew | exact unhide HK _ (by assumption) | fail "NO KEEP")
    (first | (go_at_call_of 22 (Value.agg #[.bool n2, .slice a2 l2 c2, .int .i64 X2]); refine (unhide K7 _ _ ((unhide HU).below (And.left (by assumption)))).mono ?_; rintro e wn5 ⟨q, rfl, hq, hb1⟩; have hB5 : Below W0.heap.size W0 wn5 := Below.trans (And.left (by assumption)) (hb1.mono (Below.size (And.left (by assumption)))); obtain ⟨n5, a5, c5, L5, rfl, j5⟩ := hq; have J2 := hide (show IsDy wn5 (.agg #[.bool n5, .slice a5 L5.length c5, .int .i64 Y2]) s2 Y2 from ⟨n5, a5, c5, L5, rfl, j5⟩); clear hb1 j5) | (go_at_call_of 21 (Value.agg #[.bool n1, .slice a1 l1 c1, .int .i64 X1]); refine (unhide K8 _ _ _ ((unhide HV).below (And.left (by assumption))) (unhide J2)).mono ?_; rintro e wn6 ⟨rfl, hb1⟩; have hB6 : Below W0.heap.size W0 wn6 := Below.trans (And.left (by assumption)) (hb1.mono (Below.size (And.left (by assumption)))); clear hb1) | (go_at_call_of 22 (Value.agg #[.bool n1, .slice a1 l1 c1, .int .i64 X1]); refine (unhide K9 _ _ ((unhide HV).below (And.left (by assumption)))).mono ?_; rintro e wn7 ⟨q, rfl, hq, hb1⟩; have hB7 : Below W0.heap.size W0 wn7 := Below.trans (And.left (by assumption)) (hb1.mono (Below.size (And.left (by assumption)))); obtain ⟨n7, a7, c7, L7, rfl, j7⟩ := hq; have J1 := hide (show IsDy wn7 (.agg #[.bool n7, .slice a7 L7.length c7, .int .i64 Y1]) s1 Y1 from ⟨n7, a7, c7, L7, rfl, j7⟩); clear hb1 j7) | (go_at_call_of 21 (Value.agg #[.bool n2, .slice a2 l2 c2, .int .i64 X2]); refine (unhide K10 _ _ _ ((unhide HU).below (And.left (by assumption))) (unhide J1)).mono ?_; rintro e wn8 ⟨rfl, hb1⟩; have hB8 : Below W0.heap.size W0 wn8 := Below.trans (And.left (by assumption)) (hb1.mono (Below.size (And.left (by assumption)))); clear hb1) | fail "NO ARM")
  have hW : Below W0.heap.size W0 _ := And.left (by assumption)
  go_wp2_with fail
  refine (unhide K11 _ ((unhide HT).all hW)).mono ?_
  rintro e w3 ⟨rfl, hb3⟩
  have B3 := hide (hW.trans (hb3.mono hW.size))
  clear hb3
  go_wp2_with fail
  refine (unhide K12 _).mono ?_
  rintro e wk ⟨rfl, rfl⟩
  go_wp2_with fail
  refine (unhide K13 _).mono ?_
  rintro e w4 ⟨u, rfl, hd, hb4⟩
  obtain ⟨n7, a7, c7, L7, rfl, i7⟩ := hd
  have D1 := hide (show IsDy w4 (.agg #[.bool n7, .slice a7 L7.length c7, .int .i64 Xd]) md Xd from ⟨n7, a7, c7, L7, rfl, i7⟩)
  have B4 := hide ((unhide B3).trans (hb4.mono (unhide B3).size))
  clear hb4 i7 B3
  go_wp2_with fail
  refine (unhide K5 _).mono ?_
  rintro e w5 ⟨u, rfl, hd, hb4⟩
  obtain ⟨n8, a8, c8, L8, rfl, i8⟩ := hd
  have D2 := hide (show IsDy w5 (.agg #[.bool n8, .slice a8 L8.length c8, .int .i64 X1]) m1 X1 from ⟨n8, a8, c8, L8, rfl, i8⟩)
  have B5 := hide ((unhide B4).trans (hb4.mono (unhide B4).size))
  have D1a := hide ((unhide D1).below hb4)
  clear hb4 i8 B4 D1
  go_wp2_with fail
  refine (unhide K6 _).mono ?_
  rintro e w6 ⟨u, rfl, hd, hb4⟩
  obtain ⟨n9, a9, c9, L9, rfl, i9⟩ := hd
  have D3 := hide (show IsDy w6 (.agg #[.bool n9, .slice a9 L9.length c9, .int .i64 X2]) m2 X2 from ⟨n9, a9, c9, L9, rfl, i9⟩)
  have B6 := hide ((unhide B5).trans (hb4.mono (unhide B5).size))
  have D1b := hide ((unhide D1a).below hb4)
  have D2a := hide ((unhide D2).below hb4)
  clear hb4 i9 B5 D1a D2
  go_wp2_with fail
  refine (unhide K14 _ _ _ (unhide D2a) (unhide D3)).mono ?_
  rintro e w7 ⟨u, rfl, hd, hb4⟩
  obtain ⟨nA, aA, cA, LA, rfl, iA⟩ := hd
  have D4 := hide (show IsDy w7 (.agg #[.bool nA, .slice aA LA.length cA, .int .i64 Xd]) md Xd from ⟨nA, aA, cA, LA, rfl, iA⟩)
  have B7 := hide ((unhide B6).trans (hb4.mono (unhide B6).size))
  have D1c := hide ((unhide D1b).below hb4)
  clear hb4 iA B6 D1b D2a D3
  go_wp2_with fail
  refine (sameN (unhide D1c) (unhide D4)).mono ?_
  rintro e w8 ⟨rfl, hb4⟩
  have B8 := hide ((unhide B7).trans (hb4.mono (unhide B7).size))
  clear hb4 B7 D1c D4
  go_wp2_with fail
  refine (awake5_any _ ((unhide HT).all (unhide B8))).mono ?_
  rintro e w9 ⟨rfl, hb9⟩
  have b9 := (unhide B8).trans (hb9.mono (unhide B8).size)
  clear hb9 B8
  go_wp2
  go_ret
  exact ⟨rfl, (unhide BB).trans (b9.mono (unhide BB).size)⟩

set_option maxRecDepth 20000 in
set_option maxHeartbeats 8000000 in
theorem sumExact_pmzz (a b o : Nat) (m1 m2 X1 X2 s2 Y2 s1 Y1 md Xd : Int) (w : World) (hT : Tab w) 
    (C1 : ∀ w', Calls Tryd.prog 17 #[.int .u64 a] w' fun r w'' => r = .returned (.bool true) ∧ w' = w'')
    (C2 : ∀ w', Calls Tryd.prog 17 #[.int .u64 b] w' fun r w'' => r = .returned (.bool true) ∧ w' = w'')
    (C3 : ∀ w', Calls Tryd.prog 18 #[.int .u64 a] w' fun r w'' => r = .returned (.bool false) ∧ w' = w'')
    (C4 : ∀ w', Calls Tryd.prog 18 #[.int .u64 b] w' fun r w'' => r = .returned (.bool false) ∧ w' = w'')
    (C5 : ∀ w', Calls Tryd.prog 19 #[.int .u64 a] w' fun r w'' => ∃ u, r = .returned u ∧ IsDy w'' u m1 X1 ∧ Below w'.heap.size w' w'')
    (C6 : ∀ w', Calls Tryd.prog 19 #[.int .u64 b] w' fun r w'' => ∃ u, r = .returned u ∧ IsDy w'' u m2 X2 ∧ Below w'.heap.size w' w'')
    (C7 : ∀ w' v, IsDy w' v m2 X2 → Calls Tryd.prog 22 #[v, .int .i64 1] w' fun r w'' => ∃ q, r = .returned q ∧ IsDy w'' q s2 Y2 ∧ Below w'.heap.size w' w'')
    (C8 : ∀ w' v u, IsDy w' v m1 X1 → IsDy w' u s2 Y2 → Calls Tryd.prog 21 #[v, u] w' fun r w'' => r = .returned (.int .i64 (0)) ∧ Below w'.heap.size w' w'')
    (C9 : ∀ w' v, IsDy w' v m1 X1 → Calls Tryd.prog 22 #[v, .int .i64 1] w' fun r w'' => ∃ q, r = .returned q ∧ IsDy w'' q s1 Y1 ∧ Below w'.heap.size w' w'')
    (C10 : ∀ w' v u, IsDy w' v m2 X2 → IsDy w' u s1 Y1 → Calls Tryd.prog 21 #[v, u] w' fun r w'' => r = .returned (.int .i64 (0)) ∧ Below w'.heap.size w' w'')
    (C11 : ∀ w', Tab w' → Calls Tryd.prog 12 #[.int .u64 a, .int .u64 b] w' fun r w'' => r = .returned (.tuple #[.int .u64 o, .int .u8 0]) ∧ Below w'.heap.size w' w'')
    (C12 : ∀ w', Calls Tryd.prog 17 #[.int .u64 o] w' fun r w'' => r = .returned (.bool true) ∧ w' = w'')
    (C13 : ∀ w', Calls Tryd.prog 19 #[.int .u64 o] w' fun r w'' => ∃ u, r = .returned u ∧ IsDy w'' u md Xd ∧ Below w'.heap.size w' w'')
    (C14 : ∀ w' v u, IsDy w' v m1 X1 → IsDy w' u m2 X2 → Calls Tryd.prog 24 #[v, u] w' fun r w'' => ∃ q, r = .returned q ∧ IsDy w'' q md Xd ∧ Below w'.heap.size w' w'') :
    Calls Tryd.prog 7 #[.int .u64 a, .int .u64 b] w fun r w' => r = .returned (.bool true) ∧ Below w.heap.size w w' := by
  have K1 := hide C1
  have K2 := hide C2
  have K3 := hide C3
  have K4 := hide C4
  have K5 := hide C5
  have K6 := hide C6
  have K7 := hide C7
  have K8 := hide C8
  have K9 := hide C9
  have K10 := hide C10
  have K11 := hide C11
  have K12 := hide C12
  have K13 := hide C13
  have K14 := hide C14
  clear C1 C2 C3 C4 C5 C6 C7 C8 C9 C10 C11 C12 C13 C14
  go_enter Tryd.func7, Tryd.ntmps7
  go_wp2_with fail
  refine (unhide K1 _).mono ?_
  rintro e wk ⟨rfl, rfl⟩
  go_wp2_with fail
  refine (unhide K2 _).mono ?_
  rintro e wk ⟨rfl, rfl⟩
  go_wp2_with fail
  refine (unhide K3 _).mono ?_
  rintro e wk ⟨rfl, rfl⟩
  go_wp2_with fail
  refine (unhide K4 _).mono ?_
  rintro e wk ⟨rfl, rfl⟩
  go_wp2_with fail
  refine (unhide K5 _).mono ?_
  rintro e w1 ⟨v, rfl, hv, hb1⟩
  obtain ⟨n1, a1, c1, L1, rfl, i1⟩ := hv
  have hb1a : Below w1.heap.size w1 (w1.alloc (.cells #[.bool n1, .slice a1 L1.length c1, .int .i64 X1] 38)) := (Below.refl _ _).alloc (Nat.le_refl _) _
  have HV := hide ((show IsDy w1 (.agg #[.bool n1, .slice a1 L1.length c1, .int .i64 X1]) m1 X1 from ⟨n1, a1, c1, L1, rfl, i1⟩).below hb1a)
  have X := hide (Box3.new w1 (.bool n1) (.slice a1 L1.length c1) (.int .i64 X1))
  have B1 := hide (hb1.trans (hb1a.mono hb1.size))
  have hs1 := hb1.size
  clear i1 hb1 hb1a
  go_wp2_with fail
  refine (unhide K6 _).mono ?_
  rintro e w2 ⟨v, rfl, hv, hb1⟩
  obtain ⟨n2, a2, c2, L2, rfl, i2⟩ := hv
  have hb1a : Below w2.heap.size w2 (w2.alloc (.cells #[.bool n2, .slice a2 L2.length c2, .int .i64 X2] 38)) := (Below.refl _ _).alloc (Nat.le_refl _) _
  have HU := hide ((show IsDy w2 (.agg #[.bool n2, .slice a2 L2.length c2, .int .i64 X2]) m2 X2 from ⟨n2, a2, c2, L2, rfl, i2⟩).below hb1a)
  have HV2 := hide (((unhide HV).below hb1).below hb1a)
  have x1 := ((unhide X).all hb1).all hb1a
  have x2 := Box3.new w2 (.bool n2) (.slice a2 L2.length c2) (.int .i64 X2)
  have hs2 : w1.heap.size < w2.heap.size := ((unhide X).all hb1).lt
  have B2 := hide ((unhide B1).trans ((hb1.trans (hb1a.mono hb1.size)).mono (unhide B1).size))
  have XX1 := hide x1; have XX2 := hide x2
  clear i2 hb1 hb1a B1 HV X x1 x2
  go_wp2_with (go_at_call 18; refine (unhide K3 _).mono ?_; rintro e wk ⟨rfl, rfl⟩)
  refine at_world (fun W => Below w.heap.size w W ∧ Box3 W w1.heap.size (.bool n1) (.slice a1 L1.length c1) (.int .i64 X1) ∧ Box3 W w2.heap.size (.bool n2) (.slice a2 L2.length c2) (.int .i64 X2) ∧ IsDy W (.agg #[.bool n1, .slice a1 L1.length c1, .int .i64 X1]) m1 X1 ∧ IsDy W (.agg #[.bool n2, .slice a2 L2.length c2, .int .i64 X2]) m2 X2 ∧ Tab W) ⟨unhide B2, unhide XX1, unhide XX2, unhide HV2, unhide HU, hT.all (unhide B2)⟩ ?_
  clear B2 XX1 XX2 HV2 HU
  rintro W0 ⟨b0, x1, x2, hv, hu, ht⟩
  generalize w1.heap.size = gx at *
  generalize w2.heap.size = gy at *
  generalize L1.length = l1 at *
  generalize L2.length = l2 at *
  have hK : ∀ w', Below W0.heap.size W0 w' → Below W0.heap.size W0 w' ∧ w'.cell? ⟨gx, 0, none⟩ = some (.bool n1) ∧ w'.cell? ⟨gx, 1, none⟩ = some (.slice a1 l1 c1) ∧ w'.cell? ⟨gx, 2, none⟩ = some (.int .i64 X1) ∧ w'.cell? ⟨gy, 0, none⟩ = some (.bool n2) ∧ w'.cell? ⟨gy, 1, none⟩ = some (.slice a2 l2 c2) ∧ w'.cell? ⟨gy, 2, none⟩ = some (.int .i64 X2) := fun w' h => ⟨h, (x1.all h).c0, (x1.all h).c1, (x1.all h).c2, (x2.all h).c0, (x2.all h).c1, (x2.all h).c2⟩
  have HK := hide hK; have BB := hide b0; have HV := hide hv; have HU := hide hu; have HT := hide ht
  clear hK b0 x1 x2 hv hu ht
  go_region_held3 (fun w' => Below W0.heap.size W0 w' ∧ w'.cell? ⟨gx, 0, none⟩ = some (.bool n1) ∧ w'.cell? ⟨gx, 1, none⟩ = some (.slice a1 l1 c1) ∧ w'.cell? ⟨gx, 2, none⟩ = some (.int .i64 X1) ∧ w'.cell? ⟨gy, 0, none⟩ = some (.bool n2) ∧ w'.cell? ⟨gy, 1, none⟩ = some (.slice a2 l2 c2) ∧ w'.cell? ⟨gy, 2, none⟩ = some (.int .i64 X2))
    (first | exact unhide HK _ (Below.refl _ _).drew | exact unhide HK _ (by assumption) | fail "NO KEEP")
    (first | (go_at_call_of 22 (Value.agg #[.bool n2, .slice a2 l2 c2, .int .i64 X2]); refine (unhide K7 _ _ ((unhide HU).below (And.left (by assumption)))).mono ?_; rintro e wn5 ⟨q, rfl, hq, hb1⟩; have hB5 : Below W0.heap.size W0 wn5 := Below.trans (And.left (by assumption)) (hb1.mono (Below.size (And.left (by assumption)))); obtain ⟨n5, a5, c5, L5, rfl, j5⟩ := hq; have J2 := hide (show IsDy wn5 (.agg #[.bool n5, .slice a5 L5.length c5, .int .i64 Y2]) s2 Y2 from ⟨n5, a5, c5, L5, rfl, j5⟩); clear hb1 j5) | (go_at_call_of 21 (Value.agg #[.bool n1, .slice a1 l1 c1, .int .i64 X1]); refine (unhide K8 _ _ _ ((unhide HV).below (And.left (by assumption))) (unhide J2)).mono ?_; rintro e wn6 ⟨rfl, hb1⟩; have hB6 : Below W0.heap.size W0 wn6 := Below.trans (And.left (by assumption)) (hb1.mono (Below.size (And.left (by assumption)))); clear hb1) | (go_at_call_of 22 (Value.agg #[.bool n1, .slice a1 l1 c1, .int .i64 X1]); refine (unhide K9 _ _ ((unhide HV).below (And.left (by assumption)))).mono ?_; rintro e wn7 ⟨q, rfl, hq, hb1⟩; have hB7 : Below W0.heap.size W0 wn7 := Below.trans (And.left (by assumption)) (hb1.mono (Below.size (And.left (by assumption)))); obtain ⟨n7, a7, c7, L7, rfl, j7⟩ := hq; have J1 := hide (show IsDy wn7 (.agg #[.bool n7, .slice a7 L7.length c7, .int .i64 Y1]) s1 Y1 from ⟨n7, a7, c7, L7, rfl, j7⟩); clear hb1 j7) | (go_at_call_of 21 (Value.agg #[.bool n2, .slice a2 l2 c2, .int .i64 X2]); refine (unhide K10 _ _ _ ((unhide HU).below (And.left (by assumption))) (unhide J1)).mono ?_; rintro e wn8 ⟨rfl, hb1⟩; have hB8 : Below W0.heap.size W0 wn8 := Below.trans (And.left (by assumption)) (hb1.mono (Below.size (And.left (by assumption)))); clear hb1) | fail "NO ARM")
  have hW : Below W0.heap.size W0 _ := And.left (by assumption)
  go_wp2_with fail
  refine (unhide K11 _ ((unhide HT).all hW)).mono ?_
  rintro e w3 ⟨rfl, hb3⟩
  have B3 := hide (hW.trans (hb3.mono hW.size))
  clear hb3
  go_wp2_with fail
  refine (unhide K12 _).mono ?_
  rintro e wk ⟨rfl, rfl⟩
  go_wp2_with fail
  refine (unhide K13 _).mono ?_
  rintro e w4 ⟨u, rfl, hd, hb4⟩
  obtain ⟨n7, a7, c7, L7, rfl, i7⟩ := hd
  have D1 := hide (show IsDy w4 (.agg #[.bool n7, .slice a7 L7.length c7, .int .i64 Xd]) md Xd from ⟨n7, a7, c7, L7, rfl, i7⟩)
  have B4 := hide ((unhide B3).trans (hb4.mono (unhide B3).size))
  clear hb4 i7 B3
  go_wp2_with fail
  refine (unhide K5 _).mono ?_
  rintro e w5 ⟨u, rfl, hd, hb4⟩
  obtain ⟨n8, a8, c8, L8, rfl, i8⟩ := hd
  have D2 := hide (show IsDy w5 (.agg #[.bool n8, .slice a8 L8.length c8, .int .i64 X1]) m1 X1 from ⟨n8, a8, c8, L8, rfl, i8⟩)
  have B5 := hide ((unhide B4).trans (hb4.mono (unhide B4).size))
  have D1a := hide ((unhide D1).below hb4)
  clear hb4 i8 B4 D1
  go_wp2_with fail
  refine (unhide K6 _).mono ?_
  rintro e w6 ⟨u, rfl, hd, hb4⟩
  obtain ⟨n9, a9, c9, L9, rfl, i9⟩ := hd
  have D3 := hide (show IsDy w6 (.agg #[.bool n9, .slice a9 L9.length c9, .int .i64 X2]) m2 X2 from ⟨n9, a9, c9, L9, rfl, i9⟩)
  have B6 := hide ((unhide B5).trans (hb4.mono (unhide B5).size))
  have D1b := hide ((unhide D1a).below hb4)
  have D2a := hide ((unhide D2).below hb4)
  clear hb4 i9 B5 D1a D2
  go_wp2_with fail
  refine (unhide K14 _ _ _ (unhide D2a) (unhide D3)).mono ?_
  rintro e w7 ⟨u, rfl, hd, hb4⟩
  obtain ⟨nA, aA, cA, LA, rfl, iA⟩ := hd
  have D4 := hide (show IsDy w7 (.agg #[.bool nA, .slice aA LA.length cA, .int .i64 Xd]) md Xd from ⟨nA, aA, cA, LA, rfl, iA⟩)
  have B7 := hide ((unhide B6).trans (hb4.mono (unhide B6).size))
  have D1c := hide ((unhide D1b).below hb4)
  clear hb4 iA B6 D1b D2a D3
  go_wp2_with fail
  refine (sameN (unhide D1c) (unhide D4)).mono ?_
  rintro e w8 ⟨rfl, hb4⟩
  have B8 := hide ((unhide B7).trans (hb4.mono (unhide B7).size))
  clear hb4 B7 D1c D4
  go_wp2_with fail
  refine (awake5_any _ ((unhide HT).all (unhide B8))).mono ?_
  rintro e w9 ⟨rfl, hb9⟩
  have b9 := (unhide B8).trans (hb9.mono (unhide B8).size)
  clear hb9 B8
  go_wp2
  go_ret
  exact ⟨rfl, (unhide BB).trans (b9.mono (unhide BB).size)⟩

set_option maxRecDepth 20000 in
set_option maxHeartbeats 8000000 in
theorem sumExact_ng1 (a b : Nat) (m1 m2 X1 X2 p1 p2 s2 Y2  : Int) (w : World) (hT : Tab w) 
    (C1 : ∀ w', Calls Tryd.prog 17 #[.int .u64 a] w' fun r w'' => r = .returned (.bool true) ∧ w' = w'')
    (C2 : ∀ w', Calls Tryd.prog 17 #[.int .u64 b] w' fun r w'' => r = .returned (.bool true) ∧ w' = w'')
    (C3 : ∀ w', Calls Tryd.prog 18 #[.int .u64 a] w' fun r w'' => r = .returned (.bool true) ∧ w' = w'')
    (C4 : ∀ w', Calls Tryd.prog 18 #[.int .u64 b] w' fun r w'' => r = .returned (.bool true) ∧ w' = w'')
    (C5 : ∀ w', Calls Tryd.prog 19 #[.int .u64 a] w' fun r w'' => ∃ u, r = .returned u ∧ IsDy w'' u m1 X1 ∧ Below w'.heap.size w' w'')
    (C6 : ∀ w', Calls Tryd.prog 19 #[.int .u64 b] w' fun r w'' => ∃ u, r = .returned u ∧ IsDy w'' u m2 X2 ∧ Below w'.heap.size w' w'')
    (C7 : ∀ w' v, IsDy w' v m1 X1 → Calls Tryd.prog 20 #[v] w' fun r w'' => ∃ q, r = .returned q ∧ IsDy w'' q p1 X1 ∧ Below w'.heap.size w' w'')
    (C8 : ∀ w' v, IsDy w' v m2 X2 → Calls Tryd.prog 20 #[v] w' fun r w'' => ∃ q, r = .returned q ∧ IsDy w'' q p2 X2 ∧ Below w'.heap.size w' w'')
    (C9 : ∀ w' v, IsDy w' v p2 X2 → Calls Tryd.prog 22 #[v, .int .i64 1] w' fun r w'' => ∃ q, r = .returned q ∧ IsDy w'' q s2 Y2 ∧ Below w'.heap.size w' w'')
    (C10 : ∀ w' v u, IsDy w' v p1 X1 → IsDy w' u s2 Y2 → Calls Tryd.prog 21 #[v, u] w' fun r w'' => r = .returned (.int .i64 (1)) ∧ Below w'.heap.size w' w'') :
    Calls Tryd.prog 7 #[.int .u64 a, .int .u64 b] w fun r w' => r = .returned (.bool true) ∧ Below w.heap.size w w' := by
  have K1 := hide C1
  have K2 := hide C2
  have K3 := hide C3
  have K4 := hide C4
  have K5 := hide C5
  have K6 := hide C6
  have K7 := hide C7
  have K8 := hide C8
  have K9 := hide C9
  have K10 := hide C10
  clear C1 C2 C3 C4 C5 C6 C7 C8 C9 C10
  go_enter Tryd.func7, Tryd.ntmps7
  go_wp2_with fail
  refine (unhide K1 _).mono ?_
  rintro e wk ⟨rfl, rfl⟩
  go_wp2_with fail
  refine (unhide K2 _).mono ?_
  rintro e wk ⟨rfl, rfl⟩
  go_wp2_with fail
  refine (unhide K3 _).mono ?_
  rintro e wk ⟨rfl, rfl⟩
  go_wp2_with fail
  refine (unhide K4 _).mono ?_
  rintro e wk ⟨rfl, rfl⟩
  go_wp2_with fail
  refine (unhide K5 _).mono ?_
  rintro e w1 ⟨v, rfl, hv, hb1⟩
  obtain ⟨n1, a1, c1, L1, rfl, i1⟩ := hv
  have hb1a : Below w1.heap.size w1 (w1.alloc (.cells #[.bool n1, .slice a1 L1.length c1, .int .i64 X1] 38)) := (Below.refl _ _).alloc (Nat.le_refl _) _
  have HV := hide ((show IsDy w1 (.agg #[.bool n1, .slice a1 L1.length c1, .int .i64 X1]) m1 X1 from ⟨n1, a1, c1, L1, rfl, i1⟩).below hb1a)
  have X := hide (Box3.new w1 (.bool n1) (.slice a1 L1.length c1) (.int .i64 X1))
  have B1 := hide (hb1.trans (hb1a.mono hb1.size))
  have hs1 := hb1.size
  clear i1 hb1 hb1a
  go_wp2_with fail
  refine (unhide K6 _).mono ?_
  rintro e w2 ⟨v, rfl, hv, hb1⟩
  obtain ⟨n2, a2, c2, L2, rfl, i2⟩ := hv
  have hb1a : Below w2.heap.size w2 (w2.alloc (.cells #[.bool n2, .slice a2 L2.length c2, .int .i64 X2] 38)) := (Below.refl _ _).alloc (Nat.le_refl _) _
  have HU := hide ((show IsDy w2 (.agg #[.bool n2, .slice a2 L2.length c2, .int .i64 X2]) m2 X2 from ⟨n2, a2, c2, L2, rfl, i2⟩).below hb1a)
  have HV2 := hide (((unhide HV).below hb1).below hb1a)
  have x1 := ((unhide X).all hb1).all hb1a
  have x2 := Box3.new w2 (.bool n2) (.slice a2 L2.length c2) (.int .i64 X2)
  have hs2 : w1.heap.size < w2.heap.size := ((unhide X).all hb1).lt
  have B2 := hide ((unhide B1).trans ((hb1.trans (hb1a.mono hb1.size)).mono (unhide B1).size))
  have XX1 := hide x1; have XX2 := hide x2
  clear i2 hb1 hb1a B1 HV X x1 x2
  go_wp2_with fail
  refine (unhide K3 _).mono ?_
  rintro e wk ⟨rfl, rfl⟩
  have x1 := unhide XX1
  have y0 := x1.c0; have y1 := x1.c1; have y2 := x1.c2
  clear x1
  go_wp2_with fail
  refine (unhide K7 _ _ (unhide HV2)).mono ?_
  rintro e w3 ⟨v, rfl, hv, hb1⟩
  obtain ⟨n3, a3, c3, L3, rfl, i3⟩ := hv
  have x1 := (unhide XX1).all hb1
  have x2 := (unhide XX2).all hb1
  have hu := (unhide HU).below hb1
  have b1 := (unhide B2).trans (hb1.mono (unhide B2).size)
  have hv : IsDy w3 (.agg #[.bool n3, .slice a3 L3.length c3, .int .i64 X1]) p1 X1 := ⟨n3, a3, c3, L3, rfl, i3⟩
  clear y0 y1 y2 B2 XX1 XX2 HV2 HU hb1 i3
  generalize L3.length = l3 at *
  generalize L2.length = l2 at *
  generalize L1.length = l1 at *
  generalize w1.heap.size = gx at *
  generalize w2.heap.size = gy at *
  have hne : gy ≠ gx := by omega
  have y0 := x1.c0; have y1 := x1.c1; have y2 := x1.c2; have f0 := x1.free 0; have f1 := x1.free 1; have f2 := x1.free 2
  have q2 : Box3 (((w3.setCell ⟨gx, 0, none⟩ (.bool n3)).setCell ⟨gx, 1, none⟩ (.slice a3 l3 c3)).setCell ⟨gx, 2, none⟩ (.int .i64 X1)) gy (.bool n2) (.slice a2 l2 c2) (.int .i64 X2) := ((x2.other hne _).other hne _).other hne _
  have v0 := q2.c0; have v1 := q2.c1; have v2 := q2.c2
  have Q1 := hide (x1.put (.bool n3) (.slice a3 l3 c3) (.int .i64 X1)); have Q2 := hide q2
  have HV := hide (hv.put3 x1 (.bool n3) (.slice a3 l3 c3) (.int .i64 X1)); have HU := hide (hu.put3 x1 (.bool n3) (.slice a3 l3 c3) (.int .i64 X1))
  have B3 := hide (below_put3 b1 hs1 (.bool n3) (.slice a3 l3 c3) (.int .i64 X1))
  clear x1 x2 q2 hv hu b1
  go_wp2_with fail
  refine (unhide K8 _ _ (unhide HU)).mono ?_
  rintro e w4 ⟨v, rfl, hu, hb1⟩
  obtain ⟨n4, a4, c4, L4, rfl, i4⟩ := hu
  have x1 := (unhide Q1).all hb1
  have x2 := (unhide Q2).all hb1
  have hv := (unhide HV).below hb1
  have b1 := (unhide B3).trans (hb1.mono (unhide B3).size)
  have hu : IsDy w4 (.agg #[.bool n4, .slice a4 L4.length c4, .int .i64 X2]) p2 X2 := ⟨n4, a4, c4, L4, rfl, i4⟩
  clear y0 y1 y2 f0 f1 f2 v0 v1 v2 B3 Q1 Q2 HV HU hb1 i4
  generalize L4.length = l4 at *
  have hne' : gx ≠ gy := by omega
  have y0 := x2.c0; have y1 := x2.c1; have y2 := x2.c2; have f0 := x2.free 0; have f1 := x2.free 1; have f2 := x2.free 2
  have bF := below_put3 b1 (show w.heap.size ≤ gy by omega) (.bool n4) (.slice a4 l4 c4) (.int .i64 X2)
  have q1 : Box3 (((w4.setCell ⟨gy, 0, none⟩ (.bool n4)).setCell ⟨gy, 1, none⟩ (.slice a4 l4 c4)).setCell ⟨gy, 2, none⟩ (.int .i64 X2)) gx (.bool n3) (.slice a3 l3 c3) (.int .i64 X1) := ((x1.other hne' _).other hne' _).other hne' _
  have F := hide (And.intro bF (And.intro q1 (And.intro (x2.put (.bool n4) (.slice a4 l4 c4) (.int .i64 X2)) (And.intro (hv.put3 x2 (.bool n4) (.slice a4 l4 c4) (.int .i64 X2)) (And.intro (hu.put3 x2 (.bool n4) (.slice a4 l4 c4) (.int .i64 X2)) (hT.all bF))))))
  clear x1 x2 hv hu b1 bF q1
  go_wp2_with fail
  refine at_world (fun W => Below w.heap.size w W ∧ Box3 W gx (.bool n3) (.slice a3 l3 c3) (.int .i64 X1) ∧ Box3 W gy (.bool n4) (.slice a4 l4 c4) (.int .i64 X2) ∧ IsDy W (.agg #[.bool n3, .slice a3 l3 c3, .int .i64 X1]) p1 X1 ∧ IsDy W (.agg #[.bool n4, .slice a4 l4 c4, .int .i64 X2]) p2 X2 ∧ Tab W) (unhide F) ?_
  clear F
  rintro W0 ⟨b0, x1, x2, hv, hu, ht⟩
  have hK : ∀ w', Below W0.heap.size W0 w' → Below W0.heap.size W0 w' ∧ w'.cell? ⟨gx, 0, none⟩ = some (.bool n3) ∧ w'.cell? ⟨gx, 1, none⟩ = some (.slice a3 l3 c3) ∧ w'.cell? ⟨gx, 2, none⟩ = some (.int .i64 X1) ∧ w'.cell? ⟨gy, 0, none⟩ = some (.bool n4) ∧ w'.cell? ⟨gy, 1, none⟩ = some (.slice a4 l4 c4) ∧ w'.cell? ⟨gy, 2, none⟩ = some (.int .i64 X2) := fun w' h => ⟨h, (x1.all h).c0, (x1.all h).c1, (x1.all h).c2, (x2.all h).c0, (x2.all h).c1, (x2.all h).c2⟩
  have HK := hide hK; have BB := hide b0; have HV := hide hv; have HU := hide hu; have HT := hide ht
  clear hK b0 x1 x2 hv hu ht
  refine wp_region_held_drew (S := (fun w' => Below W0.heap.size W0 w' ∧ w'.cell? ⟨gx, 0, none⟩ = some (.bool n3) ∧ w'.cell? ⟨gx, 1, none⟩ = some (.slice a3 l3 c3) ∧ w'.cell? ⟨gx, 2, none⟩ = some (.int .i64 X1) ∧ w'.cell? ⟨gy, 0, none⟩ = some (.bool n4) ∧ w'.cell? ⟨gy, 1, none⟩ = some (.slice a4 l4 c4) ∧ w'.cell? ⟨gy, 2, none⟩ = some (.int .i64 X2))) (by kernel_rfl) ?_ (fun hHeld => ?_)
  · exact unhide HK _ (Below.refl _ _).drew
  refine wpAnyH_take (i := 0) (oi := { dst := some 35, op := Op.load 38 (Operand.tmp 5), type := 38, pos := "law.go:65", after := #[], guard := none }) (v := (Value.agg #[.bool n3, .slice a3 l3 c3, .int .i64 X1])) rfl (by kernel_rfl) (by kernel_rfl) (by kernel_rfl) (fun _ _ _ h => h) (Or.inl ⟨by rfl, ?_⟩) (by assumption) ?_
  · (intro w hSw; (try dsimp only at hSw); go_simp)
  simp only [Act.put, List.setIfInBounds_toArray, List.set_cons_zero, List.set_cons_succ]
  refine wpAnyH_take (i := 1) (oi := { dst := some 36, op := Op.load 38 (Operand.tmp 6), type := 38, pos := "law.go:65", after := #[], guard := none }) (v := (Value.agg #[.bool n4, .slice a4 l4 c4, .int .i64 X2])) rfl (by kernel_rfl) (by kernel_rfl) (by kernel_rfl) (fun _ _ _ h => h) (Or.inl ⟨by rfl, ?_⟩) (by assumption) ?_
  · (intro w hSw; (try dsimp only at hSw); go_simp)
  simp only [Act.put, List.setIfInBounds_toArray, List.set_cons_zero, List.set_cons_succ]
  refine wpAnyH_ready (rs := [2]) (by kernel_rfl) (by simp) ?_
  refine AllReadyH.cons (o := { dst := some 37, op := Op.call { callee := Callee.value (Operand.func 22), args := #[Operand.tmp 36, Operand.const (Value.int IntKind.i64 1)], argTypes := #[38, 3] }, type := 38, pos := "law.go:65", after := #[{ on := 1, ground := Ground.data }], guard := none }) rfl (fun K hK => ?_) AllReadyH.nil
  go_simp
  refine (unhide K9 _ _ ((unhide HU).below (And.left (by assumption)))).mono ?_
  rintro e wn5 ⟨q, rfl, hq, hb1⟩; have hB5 : Below W0.heap.size W0 wn5 := Below.trans (And.left (by assumption)) (hb1.mono (Below.size (And.left (by assumption)))); obtain ⟨n5, a5, c5, L5, rfl, j5⟩ := hq; have J2 := hide (show IsDy wn5 (.agg #[.bool n5, .slice a5 L5.length c5, .int .i64 Y2]) s2 Y2 from ⟨n5, a5, c5, L5, rfl, j5⟩); clear hb1 j5
  go_wp2_with fail
  refine hK.out _ _ ?_ (fun hHeld => ?_)
  · exact unhide HK _ hB5
  clear hK K
  refine wpAnyH_ready (rs := [3]) (by kernel_rfl) (by simp) ?_
  refine AllReadyH.cons (o := { dst := some 38, op := Op.call { callee := Callee.value (Operand.func 21), args := #[Operand.tmp 35, Operand.tmp 37], argTypes := #[38, 38] }, type := 3, pos := "law.go:65", after := #[{ on := 0, ground := Ground.data }, { on := 2, ground := Ground.data }, { on := 2, ground := Ground.chain }], guard := none }) rfl (fun K hK => ?_) AllReadyH.nil
  go_simp
  refine (unhide K10 _ _ _ ((unhide HV).below (And.left (by assumption))) (unhide J2)).mono ?_
  rintro e wn6 ⟨rfl, hb1⟩; have hB6 : Below W0.heap.size W0 wn6 := Below.trans (And.left (by assumption)) (hb1.mono (Below.size (And.left (by assumption)))); clear hb1
  go_wp2_with fail
  refine hK.out _ _ ?_ (fun hHeld => ?_)
  · exact unhide HK _ hB6
  clear hK K
  refine wpAnyH_take (i := 4) (oi := { dst := some 39, op := Op.binOp BinOp.gtr 3 (Operand.tmp 38) (Operand.const (Value.int IntKind.i64 0)) 3, type := 4, pos := "law.go:65", after := #[{ on := 3, ground := Ground.data }], guard := none }) (v := (.bool true)) rfl (by kernel_rfl) (by kernel_rfl) (by kernel_rfl) (fun _ _ _ h => h) (Or.inl ⟨by rfl, ?_⟩) (by assumption) ?_
  · (intro w hSw; (try dsimp only at hSw); go_simp)
  simp only [Act.put, List.setIfInBounds_toArray, List.set_cons_zero, List.set_cons_succ]
  refine wpAnyH_take (i := 5) (oi := { dst := some 40, op := Op.move (Operand.tmp 39), type := 4, pos := "law.go:65", after := #[{ on := 4, ground := Ground.data }, { on := 3, ground := Ground.chain }], guard := none }) (v := (.bool true)) rfl (by kernel_rfl) (by kernel_rfl) (by kernel_rfl) (fun _ _ _ h => h) (Or.inl ⟨by rfl, ?_⟩) (by assumption) ?_
  · (intro w hSw; (try dsimp only at hSw); go_simp)
  simp only [Act.put, List.setIfInBounds_toArray, List.set_cons_zero, List.set_cons_succ]
  refine wpAnyH_take (i := 6) (oi := { dst := some 41, op := Op.load 38 (Operand.tmp 6), type := 38, pos := "law.go:65", after := #[{ on := 5, ground := Ground.guard }], guard := some (5, false) }) (v := undef) rfl (by kernel_rfl) (by kernel_rfl) (by kernel_rfl) (fun _ _ _ h => h) (Or.inr ⟨by rfl, rfl⟩) (by assumption) ?_
  simp only [Act.put, List.setIfInBounds_toArray, List.set_cons_zero, List.set_cons_succ]
  refine wpAnyH_take (i := 7) (oi := { dst := some 42, op := Op.load 38 (Operand.tmp 5), type := 38, pos := "law.go:65", after := #[{ on := 5, ground := Ground.guard }], guard := some (5, false) }) (v := undef) rfl (by kernel_rfl) (by kernel_rfl) (by kernel_rfl) (fun _ _ _ h => h) (Or.inr ⟨by rfl, rfl⟩) (by assumption) ?_
  simp only [Act.put, List.setIfInBounds_toArray, List.set_cons_zero, List.set_cons_succ]
  refine wpAnyH_take (i := 8) (oi := { dst := some 43, op := Op.call { callee := Callee.value (Operand.func 22), args := #[Operand.tmp 42, Operand.const (Value.int IntKind.i64 1)], argTypes := #[38, 3] }, type := 38, pos := "law.go:65", after := #[{ on := 7, ground := Ground.data }, { on := 5, ground := Ground.chain }, { on := 5, ground := Ground.guard }], guard := some (5, false) }) (v := undef) rfl (by kernel_rfl) (by kernel_rfl) (by kernel_rfl) (fun _ _ _ h => h) (Or.inr ⟨by rfl, rfl⟩) (by assumption) ?_
  simp only [Act.put, List.setIfInBounds_toArray, List.set_cons_zero, List.set_cons_succ]
  refine wpAnyH_take (i := 9) (oi := { dst := some 44, op := Op.call { callee := Callee.value (Operand.func 21), args := #[Operand.tmp 41, Operand.tmp 43], argTypes := #[38, 38] }, type := 3, pos := "law.go:65", after := #[{ on := 6, ground := Ground.data }, { on := 8, ground := Ground.data }, { on := 8, ground := Ground.chain }, { on := 5, ground := Ground.guard }], guard := some (5, false) }) (v := undef) rfl (by kernel_rfl) (by kernel_rfl) (by kernel_rfl) (fun _ _ _ h => h) (Or.inr ⟨by rfl, rfl⟩) (by assumption) ?_
  simp only [Act.put, List.setIfInBounds_toArray, List.set_cons_zero, List.set_cons_succ]
  refine wpAnyH_take (i := 10) (oi := { dst := some 45, op := Op.binOp BinOp.gtr 3 (Operand.tmp 44) (Operand.const (Value.int IntKind.i64 0)) 3, type := 4, pos := "law.go:65", after := #[{ on := 9, ground := Ground.data }, { on := 5, ground := Ground.guard }], guard := some (5, false) }) (v := undef) rfl (by kernel_rfl) (by kernel_rfl) (by kernel_rfl) (fun _ _ _ h => h) (Or.inr ⟨by rfl, rfl⟩) (by assumption) ?_
  simp only [Act.put, List.setIfInBounds_toArray, List.set_cons_zero, List.set_cons_succ]
  refine wpAnyH_take (i := 11) (oi := { dst := some 46, op := Op.pick (Operand.tmp 40) (Operand.const (Value.bool true)) (Operand.tmp 45), type := 4, pos := "law.go:65", after := #[{ on := 5, ground := Ground.data }, { on := 10, ground := Ground.data }], guard := none }) (v := (.bool true)) rfl (by kernel_rfl) (by kernel_rfl) (by kernel_rfl) (fun _ _ _ h => h) (Or.inl ⟨by rfl, ?_⟩) (by assumption) ?_
  · (intro w hSw; (try dsimp only at hSw); go_simp)
  simp only [Act.put, List.setIfInBounds_toArray, List.set_cons_zero, List.set_cons_succ]
  refine wpAnyH_done (by kernel_rfl) ?_ _
  have hW : Below W0.heap.size W0 _ := And.left (by assumption)
  go_wp2_with fail
  refine (awake5_any _ ((unhide HT).all hW)).mono ?_
  rintro e w9 ⟨rfl, hb9⟩
  have b9 := hW.trans (hb9.mono hW.size)
  go_wp2
  go_ret
  exact ⟨rfl, (unhide BB).trans (b9.mono (unhide BB).size)⟩

set_option maxRecDepth 20000 in
set_option maxHeartbeats 8000000 in
theorem sumExact_ng2m (a b : Nat) (m1 m2 X1 X2 p1 p2 s2 Y2 s1 Y1 : Int) (w : World) (hT : Tab w) 
    (C1 : ∀ w', Calls Tryd.prog 17 #[.int .u64 a] w' fun r w'' => r = .returned (.bool true) ∧ w' = w'')
    (C2 : ∀ w', Calls Tryd.prog 17 #[.int .u64 b] w' fun r w'' => r = .returned (.bool true) ∧ w' = w'')
    (C3 : ∀ w', Calls Tryd.prog 18 #[.int .u64 a] w' fun r w'' => r = .returned (.bool true) ∧ w' = w'')
    (C4 : ∀ w', Calls Tryd.prog 18 #[.int .u64 b] w' fun r w'' => r = .returned (.bool true) ∧ w' = w'')
    (C5 : ∀ w', Calls Tryd.prog 19 #[.int .u64 a] w' fun r w'' => ∃ u, r = .returned u ∧ IsDy w'' u m1 X1 ∧ Below w'.heap.size w' w'')
    (C6 : ∀ w', Calls Tryd.prog 19 #[.int .u64 b] w' fun r w'' => ∃ u, r = .returned u ∧ IsDy w'' u m2 X2 ∧ Below w'.heap.size w' w'')
    (C7 : ∀ w' v, IsDy w' v m1 X1 → Calls Tryd.prog 20 #[v] w' fun r w'' => ∃ q, r = .returned q ∧ IsDy w'' q p1 X1 ∧ Below w'.heap.size w' w'')
    (C8 : ∀ w' v, IsDy w' v m2 X2 → Calls Tryd.prog 20 #[v] w' fun r w'' => ∃ q, r = .returned q ∧ IsDy w'' q p2 X2 ∧ Below w'.heap.size w' w'')
    (C9 : ∀ w' v, IsDy w' v p2 X2 → Calls Tryd.prog 22 #[v, .int .i64 1] w' fun r w'' => ∃ q, r = .returned q ∧ IsDy w'' q s2 Y2 ∧ Below w'.heap.size w' w'')
    (C10 : ∀ w' v u, IsDy w' v p1 X1 → IsDy w' u s2 Y2 → Calls Tryd.prog 21 #[v, u] w' fun r w'' => r = .returned (.int .i64 (-1)) ∧ Below w'.heap.size w' w'')
    (C11 : ∀ w' v, IsDy w' v p1 X1 → Calls Tryd.prog 22 #[v, .int .i64 1] w' fun r w'' => ∃ q, r = .returned q ∧ IsDy w'' q s1 Y1 ∧ Below w'.heap.size w' w'')
    (C12 : ∀ w' v u, IsDy w' v p2 X2 → IsDy w' u s1 Y1 → Calls Tryd.prog 21 #[v, u] w' fun r w'' => r = .returned (.int .i64 (1)) ∧ Below w'.heap.size w' w'') :
    Calls Tryd.prog 7 #[.int .u64 a, .int .u64 b] w fun r w' => r = .returned (.bool true) ∧ Below w.heap.size w w' := by
  have K1 := hide C1
  have K2 := hide C2
  have K3 := hide C3
  have K4 := hide C4
  have K5 := hide C5
  have K6 := hide C6
  have K7 := hide C7
  have K8 := hide C8
  have K9 := hide C9
  have K10 := hide C10
  have K11 := hide C11
  have K12 := hide C12
  clear C1 C2 C3 C4 C5 C6 C7 C8 C9 C10 C11 C12
  go_enter Tryd.func7, Tryd.ntmps7
  go_wp2_with fail
  refine (unhide K1 _).mono ?_
  rintro e wk ⟨rfl, rfl⟩
  go_wp2_with fail
  refine (unhide K2 _).mono ?_
  rintro e wk ⟨rfl, rfl⟩
  go_wp2_with fail
  refine (unhide K3 _).mono ?_
  rintro e wk ⟨rfl, rfl⟩
  go_wp2_with fail
  refine (unhide K4 _).mono ?_
  rintro e wk ⟨rfl, rfl⟩
  go_wp2_with fail
  refine (unhide K5 _).mono ?_
  rintro e w1 ⟨v, rfl, hv, hb1⟩
  obtain ⟨n1, a1, c1, L1, rfl, i1⟩ := hv
  have hb1a : Below w1.heap.size w1 (w1.alloc (.cells #[.bool n1, .slice a1 L1.length c1, .int .i64 X1] 38)) := (Below.refl _ _).alloc (Nat.le_refl _) _
  have HV := hide ((show IsDy w1 (.agg #[.bool n1, .slice a1 L1.length c1, .int .i64 X1]) m1 X1 from ⟨n1, a1, c1, L1, rfl, i1⟩).below hb1a)
  have X := hide (Box3.new w1 (.bool n1) (.slice a1 L1.length c1) (.int .i64 X1))
  have B1 := hide (hb1.trans (hb1a.mono hb1.size))
  have hs1 := hb1.size
  clear i1 hb1 hb1a
  go_wp2_with fail
  refine (unhide K6 _).mono ?_
  rintro e w2 ⟨v, rfl, hv, hb1⟩
  obtain ⟨n2, a2, c2, L2, rfl, i2⟩ := hv
  have hb1a : Below w2.heap.size w2 (w2.alloc (.cells #[.bool n2, .slice a2 L2.length c2, .int .i64 X2] 38)) := (Below.refl _ _).alloc (Nat.le_refl _) _
  have HU := hide ((show IsDy w2 (.agg #[.bool n2, .slice a2 L2.length c2, .int .i64 X2]) m2 X2 from ⟨n2, a2, c2, L2, rfl, i2⟩).below hb1a)
  have HV2 := hide (((unhide HV).below hb1).below hb1a)
  have x1 := ((unhide X).all hb1).all hb1a
  have x2 := Box3.new w2 (.bool n2) (.slice a2 L2.length c2) (.int .i64 X2)
  have hs2 : w1.heap.size < w2.heap.size := ((unhide X).all hb1).lt
  have B2 := hide ((unhide B1).trans ((hb1.trans (hb1a.mono hb1.size)).mono (unhide B1).size))
  have XX1 := hide x1; have XX2 := hide x2
  clear i2 hb1 hb1a B1 HV X x1 x2
  go_wp2_with fail
  refine (unhide K3 _).mono ?_
  rintro e wk ⟨rfl, rfl⟩
  have x1 := unhide XX1
  have y0 := x1.c0; have y1 := x1.c1; have y2 := x1.c2
  clear x1
  go_wp2_with fail
  refine (unhide K7 _ _ (unhide HV2)).mono ?_
  rintro e w3 ⟨v, rfl, hv, hb1⟩
  obtain ⟨n3, a3, c3, L3, rfl, i3⟩ := hv
  have x1 := (unhide XX1).all hb1
  have x2 := (unhide XX2).all hb1
  have hu := (unhide HU).below hb1
  have b1 := (unhide B2).trans (hb1.mono (unhide B2).size)
  have hv : IsDy w3 (.agg #[.bool n3, .slice a3 L3.length c3, .int .i64 X1]) p1 X1 := ⟨n3, a3, c3, L3, rfl, i3⟩
  clear y0 y1 y2 B2 XX1 XX2 HV2 HU hb1 i3
  generalize L3.length = l3 at *
  generalize L2.length = l2 at *
  generalize L1.length = l1 at *
  generalize w1.heap.size = gx at *
  generalize w2.heap.size = gy at *
  have hne : gy ≠ gx := by omega
  have y0 := x1.c0; have y1 := x1.c1; have y2 := x1.c2; have f0 := x1.free 0; have f1 := x1.free 1; have f2 := x1.free 2
  have q2 : Box3 (((w3.setCell ⟨gx, 0, none⟩ (.bool n3)).setCell ⟨gx, 1, none⟩ (.slice a3 l3 c3)).setCell ⟨gx, 2, none⟩ (.int .i64 X1)) gy (.bool n2) (.slice a2 l2 c2) (.int .i64 X2) := ((x2.other hne _).other hne _).other hne _
  have v0 := q2.c0; have v1 := q2.c1; have v2 := q2.c2
  have Q1 := hide (x1.put (.bool n3) (.slice a3 l3 c3) (.int .i64 X1)); have Q2 := hide q2
  have HV := hide (hv.put3 x1 (.bool n3) (.slice a3 l3 c3) (.int .i64 X1)); have HU := hide (hu.put3 x1 (.bool n3) (.slice a3 l3 c3) (.int .i64 X1))
  have B3 := hide (below_put3 b1 hs1 (.bool n3) (.slice a3 l3 c3) (.int .i64 X1))
  clear x1 x2 q2 hv hu b1
  go_wp2_with fail
  refine (unhide K8 _ _ (unhide HU)).mono ?_
  rintro e w4 ⟨v, rfl, hu, hb1⟩
  obtain ⟨n4, a4, c4, L4, rfl, i4⟩ := hu
  have x1 := (unhide Q1).all hb1
  have x2 := (unhide Q2).all hb1
  have hv := (unhide HV).below hb1
  have b1 := (unhide B3).trans (hb1.mono (unhide B3).size)
  have hu : IsDy w4 (.agg #[.bool n4, .slice a4 L4.length c4, .int .i64 X2]) p2 X2 := ⟨n4, a4, c4, L4, rfl, i4⟩
  clear y0 y1 y2 f0 f1 f2 v0 v1 v2 B3 Q1 Q2 HV HU hb1 i4
  generalize L4.length = l4 at *
  have hne' : gx ≠ gy := by omega
  have y0 := x2.c0; have y1 := x2.c1; have y2 := x2.c2; have f0 := x2.free 0; have f1 := x2.free 1; have f2 := x2.free 2
  have bF := below_put3 b1 (show w.heap.size ≤ gy by omega) (.bool n4) (.slice a4 l4 c4) (.int .i64 X2)
  have q1 : Box3 (((w4.setCell ⟨gy, 0, none⟩ (.bool n4)).setCell ⟨gy, 1, none⟩ (.slice a4 l4 c4)).setCell ⟨gy, 2, none⟩ (.int .i64 X2)) gx (.bool n3) (.slice a3 l3 c3) (.int .i64 X1) := ((x1.other hne' _).other hne' _).other hne' _
  have F := hide (And.intro bF (And.intro q1 (And.intro (x2.put (.bool n4) (.slice a4 l4 c4) (.int .i64 X2)) (And.intro (hv.put3 x2 (.bool n4) (.slice a4 l4 c4) (.int .i64 X2)) (And.intro (hu.put3 x2 (.bool n4) (.slice a4 l4 c4) (.int .i64 X2)) (hT.all bF))))))
  clear x1 x2 hv hu b1 bF q1
  go_wp2_with fail
  refine at_world (fun W => Below w.heap.size w W ∧ Box3 W gx (.bool n3) (.slice a3 l3 c3) (.int .i64 X1) ∧ Box3 W gy (.bool n4) (.slice a4 l4 c4) (.int .i64 X2) ∧ IsDy W (.agg #[.bool n3, .slice a3 l3 c3, .int .i64 X1]) p1 X1 ∧ IsDy W (.agg #[.bool n4, .slice a4 l4 c4, .int .i64 X2]) p2 X2 ∧ Tab W) (unhide F) ?_
  clear F
  rintro W0 ⟨b0, x1, x2, hv, hu, ht⟩
  have hK : ∀ w', Below W0.heap.size W0 w' → Below W0.heap.size W0 w' ∧ w'.cell? ⟨gx, 0, none⟩ = some (.bool n3) ∧ w'.cell? ⟨gx, 1, none⟩ = some (.slice a3 l3 c3) ∧ w'.cell? ⟨gx, 2, none⟩ = some (.int .i64 X1) ∧ w'.cell? ⟨gy, 0, none⟩ = some (.bool n4) ∧ w'.cell? ⟨gy, 1, none⟩ = some (.slice a4 l4 c4) ∧ w'.cell? ⟨gy, 2, none⟩ = some (.int .i64 X2) := fun w' h => ⟨h, (x1.all h).c0, (x1.all h).c1, (x1.all h).c2, (x2.all h).c0, (x2.all h).c1, (x2.all h).c2⟩
  have HK := hide hK; have BB := hide b0; have HV := hide hv; have HU := hide hu; have HT := hide ht
  clear hK b0 x1 x2 hv hu ht
  go_region_held3 (fun w' => Below W0.heap.size W0 w' ∧ w'.cell? ⟨gx, 0, none⟩ = some (.bool n3) ∧ w'.cell? ⟨gx, 1, none⟩ = some (.slice a3 l3 c3) ∧ w'.cell? ⟨gx, 2, none⟩ = some (.int .i64 X1) ∧ w'.cell? ⟨gy, 0, none⟩ = some (.bool n4) ∧ w'.cell? ⟨gy, 1, none⟩ = some (.slice a4 l4 c4) ∧ w'.cell? ⟨gy, 2, none⟩ = some (.int .i64 X2))
    (first | exact unhide HK _ (Below.refl _ _).drew | exact unhide HK _ (by assumption) | fail "NO KEEP")
    (first | (go_at_call_of 22 (Value.agg #[.bool n4, .slice a4 l4 c4, .int .i64 X2]); refine (unhide K9 _ _ ((unhide HU).below (And.left (by assumption)))).mono ?_; rintro e wn5 ⟨q, rfl, hq, hb1⟩; have hB5 : Below W0.heap.size W0 wn5 := Below.trans (And.left (by assumption)) (hb1.mono (Below.size (And.left (by assumption)))); obtain ⟨n5, a5, c5, L5, rfl, j5⟩ := hq; have J2 := hide (show IsDy wn5 (.agg #[.bool n5, .slice a5 L5.length c5, .int .i64 Y2]) s2 Y2 from ⟨n5, a5, c5, L5, rfl, j5⟩); clear hb1 j5) | (go_at_call_of 21 (Value.agg #[.bool n3, .slice a3 l3 c3, .int .i64 X1]); refine (unhide K10 _ _ _ ((unhide HV).below (And.left (by assumption))) (unhide J2)).mono ?_; rintro e wn6 ⟨rfl, hb1⟩; have hB6 : Below W0.heap.size W0 wn6 := Below.trans (And.left (by assumption)) (hb1.mono (Below.size (And.left (by assumption)))); clear hb1) | (go_at_call_of 22 (Value.agg #[.bool n3, .slice a3 l3 c3, .int .i64 X1]); refine (unhide K11 _ _ ((unhide HV).below (And.left (by assumption)))).mono ?_; rintro e wn7 ⟨q, rfl, hq, hb1⟩; have hB7 : Below W0.heap.size W0 wn7 := Below.trans (And.left (by assumption)) (hb1.mono (Below.size (And.left (by assumption)))); obtain ⟨n7, a7, c7, L7, rfl, j7⟩ := hq; have J1 := hide (show IsDy wn7 (.agg #[.bool n7, .slice a7 L7.length c7, .int .i64 Y1]) s1 Y1 from ⟨n7, a7, c7, L7, rfl, j7⟩); clear hb1 j7) | (go_at_call_of 21 (Value.agg #[.bool n4, .slice a4 l4 c4, .int .i64 X2]); refine (unhide K12 _ _ _ ((unhide HU).below (And.left (by assumption))) (unhide J1)).mono ?_; rintro e wn8 ⟨rfl, hb1⟩; have hB8 : Below W0.heap.size W0 wn8 := Below.trans (And.left (by assumption)) (hb1.mono (Below.size (And.left (by assumption)))); clear hb1) | fail "NO ARM")
  have hW : Below W0.heap.size W0 _ := And.left (by assumption)
  go_wp2_with fail
  refine (awake5_any _ ((unhide HT).all hW)).mono ?_
  rintro e w9 ⟨rfl, hb9⟩
  have b9 := hW.trans (hb9.mono hW.size)
  go_wp2
  go_ret
  exact ⟨rfl, (unhide BB).trans (b9.mono (unhide BB).size)⟩

set_option maxRecDepth 20000 in
set_option maxHeartbeats 8000000 in
theorem sumExact_ng2z (a b : Nat) (m1 m2 X1 X2 p1 p2 s2 Y2 s1 Y1 : Int) (w : World) (hT : Tab w) 
    (C1 : ∀ w', Calls Tryd.prog 17 #[.int .u64 a] w' fun r w'' => r = .returned (.bool true) ∧ w' = w'')
    (C2 : ∀ w', Calls Tryd.prog 17 #[.int .u64 b] w' fun r w'' => r = .returned (.bool true) ∧ w' = w'')
    (C3 : ∀ w', Calls Tryd.prog 18 #[.int .u64 a] w' fun r w'' => r = .returned (.bool true) ∧ w' = w'')
    (C4 : ∀ w', Calls Tryd.prog 18 #[.int .u64 b] w' fun r w'' => r = .returned (.bool true) ∧ w' = w'')
    (C5 : ∀ w', Calls Tryd.prog 19 #[.int .u64 a] w' fun r w'' => ∃ u, r = .returned u ∧ IsDy w'' u m1 X1 ∧ Below w'.heap.size w' w'')
    (C6 : ∀ w', Calls Tryd.prog 19 #[.int .u64 b] w' fun r w'' => ∃ u, r = .returned u ∧ IsDy w'' u m2 X2 ∧ Below w'.heap.size w' w'')
    (C7 : ∀ w' v, IsDy w' v m1 X1 → Calls Tryd.prog 20 #[v] w' fun r w'' => ∃ q, r = .returned q ∧ IsDy w'' q p1 X1 ∧ Below w'.heap.size w' w'')
    (C8 : ∀ w' v, IsDy w' v m2 X2 → Calls Tryd.prog 20 #[v] w' fun r w'' => ∃ q, r = .returned q ∧ IsDy w'' q p2 X2 ∧ Below w'.heap.size w' w'')
    (C9 : ∀ w' v, IsDy w' v p2 X2 → Calls Tryd.prog 22 #[v, .int .i64 1] w' fun r w'' => ∃ q, r = .returned q ∧ IsDy w'' q s2 Y2 ∧ Below w'.heap.size w' w'')
    (C10 : ∀ w' v u, IsDy w' v p1 X1 → IsDy w' u s2 Y2 → Calls Tryd.prog 21 #[v, u] w' fun r w'' => r = .returned (.int .i64 (0)) ∧ Below w'.heap.size w' w'')
    (C11 : ∀ w' v, IsDy w' v p1 X1 → Calls Tryd.prog 22 #[v, .int .i64 1] w' fun r w'' => ∃ q, r = .returned q ∧ IsDy w'' q s1 Y1 ∧ Below w'.heap.size w' w'')
    (C12 : ∀ w' v u, IsDy w' v p2 X2 → IsDy w' u s1 Y1 → Calls Tryd.prog 21 #[v, u] w' fun r w'' => r = .returned (.int .i64 (1)) ∧ Below w'.heap.size w' w'') :
    Calls Tryd.prog 7 #[.int .u64 a, .int .u64 b] w fun r w' => r = .returned (.bool true) ∧ Below w.heap.size w w' := by
  have K1 := hide C1
  have K2 := hide C2
  have K3 := hide C3
  have K4 := hide C4
  have K5 := hide C5
  have K6 := hide C6
  have K7 := hide C7
  have K8 := hide C8
  have K9 := hide C9
  have K10 := hide C10
  have K11 := hide C11
  have K12 := hide C12
  clear C1 C2 C3 C4 C5 C6 C7 C8 C9 C10 C11 C12
  go_enter Tryd.func7, Tryd.ntmps7
  go_wp2_with fail
  refine (unhide K1 _).mono ?_
  rintro e wk ⟨rfl, rfl⟩
  go_wp2_with fail
  refine (unhide K2 _).mono ?_
  rintro e wk ⟨rfl, rfl⟩
  go_wp2_with fail
  refine (unhide K3 _).mono ?_
  rintro e wk ⟨rfl, rfl⟩
  go_wp2_with fail
  refine (unhide K4 _).mono ?_
  rintro e wk ⟨rfl, rfl⟩
  go_wp2_with fail
  refine (unhide K5 _).mono ?_
  rintro e w1 ⟨v, rfl, hv, hb1⟩
  obtain ⟨n1, a1, c1, L1, rfl, i1⟩ := hv
  have hb1a : Below w1.heap.size w1 (w1.alloc (.cells #[.bool n1, .slice a1 L1.length c1, .int .i64 X1] 38)) := (Below.refl _ _).alloc (Nat.le_refl _) _
  have HV := hide ((show IsDy w1 (.agg #[.bool n1, .slice a1 L1.length c1, .int .i64 X1]) m1 X1 from ⟨n1, a1, c1, L1, rfl, i1⟩).below hb1a)
  have X := hide (Box3.new w1 (.bool n1) (.slice a1 L1.length c1) (.int .i64 X1))
  have B1 := hide (hb1.trans (hb1a.mono hb1.size))
  have hs1 := hb1.size
  clear i1 hb1 hb1a
  go_wp2_with fail
  refine (unhide K6 _).mono ?_
  rintro e w2 ⟨v, rfl, hv, hb1⟩
  obtain ⟨n2, a2, c2, L2, rfl, i2⟩ := hv
  have hb1a : Below w2.heap.size w2 (w2.alloc (.cells #[.bool n2, .slice a2 L2.length c2, .int .i64 X2] 38)) := (Below.refl _ _).alloc (Nat.le_refl _) _
  have HU := hide ((show IsDy w2 (.agg #[.bool n2, .slice a2 L2.length c2, .int .i64 X2]) m2 X2 from ⟨n2, a2, c2, L2, rfl, i2⟩).below hb1a)
  have HV2 := hide (((unhide HV).below hb1).below hb1a)
  have x1 := ((unhide X).all hb1).all hb1a
  have x2 := Box3.new w2 (.bool n2) (.slice a2 L2.length c2) (.int .i64 X2)
  have hs2 : w1.heap.size < w2.heap.size := ((unhide X).all hb1).lt
  have B2 := hide ((unhide B1).trans ((hb1.trans (hb1a.mono hb1.size)).mono (unhide B1).size))
  have XX1 := hide x1; have XX2 := hide x2
  clear i2 hb1 hb1a B1 HV X x1 x2
  go_wp2_with fail
  refine (unhide K3 _).mono ?_
  rintro e wk ⟨rfl, rfl⟩
  have x1 := unhide XX1
  have y0 := x1.c0; have y1 := x1.c1; have y2 := x1.c2
  clear x1
  go_wp2_with fail
  refine (unhide K7 _ _ (unhide HV2)).mono ?_
  rintro e w3 ⟨v, rfl, hv, hb1⟩
  obtain ⟨n3, a3, c3, L3, rfl, i3⟩ := hv
  have x1 := (unhide XX1).all hb1
  have x2 := (unhide XX2).all hb1
  have hu := (unhide HU).below hb1
  have b1 := (unhide B2).trans (hb1.mono (unhide B2).size)
  have hv : IsDy w3 (.agg #[.bool n3, .slice a3 L3.length c3, .int .i64 X1]) p1 X1 := ⟨n3, a3, c3, L3, rfl, i3⟩
  clear y0 y1 y2 B2 XX1 XX2 HV2 HU hb1 i3
  generalize L3.length = l3 at *
  generalize L2.length = l2 at *
  generalize L1.length = l1 at *
  generalize w1.heap.size = gx at *
  generalize w2.heap.size = gy at *
  have hne : gy ≠ gx := by omega
  have y0 := x1.c0; have y1 := x1.c1; have y2 := x1.c2; have f0 := x1.free 0; have f1 := x1.free 1; have f2 := x1.free 2
  have q2 : Box3 (((w3.setCell ⟨gx, 0, none⟩ (.bool n3)).setCell ⟨gx, 1, none⟩ (.slice a3 l3 c3)).setCell ⟨gx, 2, none⟩ (.int .i64 X1)) gy (.bool n2) (.slice a2 l2 c2) (.int .i64 X2) := ((x2.other hne _).other hne _).other hne _
  have v0 := q2.c0; have v1 := q2.c1; have v2 := q2.c2
  have Q1 := hide (x1.put (.bool n3) (.slice a3 l3 c3) (.int .i64 X1)); have Q2 := hide q2
  have HV := hide (hv.put3 x1 (.bool n3) (.slice a3 l3 c3) (.int .i64 X1)); have HU := hide (hu.put3 x1 (.bool n3) (.slice a3 l3 c3) (.int .i64 X1))
  have B3 := hide (below_put3 b1 hs1 (.bool n3) (.slice a3 l3 c3) (.int .i64 X1))
  clear x1 x2 q2 hv hu b1
  go_wp2_with fail
  refine (unhide K8 _ _ (unhide HU)).mono ?_
  rintro e w4 ⟨v, rfl, hu, hb1⟩
  obtain ⟨n4, a4, c4, L4, rfl, i4⟩ := hu
  have x1 := (unhide Q1).all hb1
  have x2 := (unhide Q2).all hb1
  have hv := (unhide HV).below hb1
  have b1 := (unhide B3).trans (hb1.mono (unhide B3).size)
  have hu : IsDy w4 (.agg #[.bool n4, .slice a4 L4.length c4, .int .i64 X2]) p2 X2 := ⟨n4, a4, c4, L4, rfl, i4⟩
  clear y0 y1 y2 f0 f1 f2 v0 v1 v2 B3 Q1 Q2 HV HU hb1 i4
  generalize L4.length = l4 at *
  have hne' : gx ≠ gy := by omega
  have y0 := x2.c0; have y1 := x2.c1; have y2 := x2.c2; have f0 := x2.free 0; have f1 := x2.free 1; have f2 := x2.free 2
  have bF := below_put3 b1 (show w.heap.size ≤ gy by omega) (.bool n4) (.slice a4 l4 c4) (.int .i64 X2)
  have q1 : Box3 (((w4.setCell ⟨gy, 0, none⟩ (.bool n4)).setCell ⟨gy, 1, none⟩ (.slice a4 l4 c4)).setCell ⟨gy, 2, none⟩ (.int .i64 X2)) gx (.bool n3) (.slice a3 l3 c3) (.int .i64 X1) := ((x1.other hne' _).other hne' _).other hne' _
  have F := hide (And.intro bF (And.intro q1 (And.intro (x2.put (.bool n4) (.slice a4 l4 c4) (.int .i64 X2)) (And.intro (hv.put3 x2 (.bool n4) (.slice a4 l4 c4) (.int .i64 X2)) (And.intro (hu.put3 x2 (.bool n4) (.slice a4 l4 c4) (.int .i64 X2)) (hT.all bF))))))
  clear x1 x2 hv hu b1 bF q1
  go_wp2_with fail
  refine at_world (fun W => Below w.heap.size w W ∧ Box3 W gx (.bool n3) (.slice a3 l3 c3) (.int .i64 X1) ∧ Box3 W gy (.bool n4) (.slice a4 l4 c4) (.int .i64 X2) ∧ IsDy W (.agg #[.bool n3, .slice a3 l3 c3, .int .i64 X1]) p1 X1 ∧ IsDy W (.agg #[.bool n4, .slice a4 l4 c4, .int .i64 X2]) p2 X2 ∧ Tab W) (unhide F) ?_
  clear F
  rintro W0 ⟨b0, x1, x2, hv, hu, ht⟩
  have hK : ∀ w', Below W0.heap.size W0 w' → Below W0.heap.size W0 w' ∧ w'.cell? ⟨gx, 0, none⟩ = some (.bool n3) ∧ w'.cell? ⟨gx, 1, none⟩ = some (.slice a3 l3 c3) ∧ w'.cell? ⟨gx, 2, none⟩ = some (.int .i64 X1) ∧ w'.cell? ⟨gy, 0, none⟩ = some (.bool n4) ∧ w'.cell? ⟨gy, 1, none⟩ = some (.slice a4 l4 c4) ∧ w'.cell? ⟨gy, 2, none⟩ = some (.int .i64 X2) := fun w' h => ⟨h, (x1.all h).c0, (x1.all h).c1, (x1.all h).c2, (x2.all h).c0, (x2.all h).c1, (x2.all h).c2⟩
  have HK := hide hK; have BB := hide b0; have HV := hide hv; have HU := hide hu; have HT := hide ht
  clear hK b0 x1 x2 hv hu ht
  go_region_held3 (fun w' => Below W0.heap.size W0 w' ∧ w'.cell? ⟨gx, 0, none⟩ = some (.bool n3) ∧ w'.cell? ⟨gx, 1, none⟩ = some (.slice a3 l3 c3) ∧ w'.cell? ⟨gx, 2, none⟩ = some (.int .i64 X1) ∧ w'.cell? ⟨gy, 0, none⟩ = some (.bool n4) ∧ w'.cell? ⟨gy, 1, none⟩ = some (.slice a4 l4 c4) ∧ w'.cell? ⟨gy, 2, none⟩ = some (.int .i64 X2))
    (first | exact unhide HK _ (Below.refl _ _).drew | exact unhide HK _ (by assumption) | fail "NO KEEP")
    (first | (go_at_call_of 22 (Value.agg #[.bool n4, .slice a4 l4 c4, .int .i64 X2]); refine (unhide K9 _ _ ((unhide HU).below (And.left (by assumption)))).mono ?_; rintro e wn5 ⟨q, rfl, hq, hb1⟩; have hB5 : Below W0.heap.size W0 wn5 := Below.trans (And.left (by assumption)) (hb1.mono (Below.size (And.left (by assumption)))); obtain ⟨n5, a5, c5, L5, rfl, j5⟩ := hq; have J2 := hide (show IsDy wn5 (.agg #[.bool n5, .slice a5 L5.length c5, .int .i64 Y2]) s2 Y2 from ⟨n5, a5, c5, L5, rfl, j5⟩); clear hb1 j5) | (go_at_call_of 21 (Value.agg #[.bool n3, .slice a3 l3 c3, .int .i64 X1]); refine (unhide K10 _ _ _ ((unhide HV).below (And.left (by assumption))) (unhide J2)).mono ?_; rintro e wn6 ⟨rfl, hb1⟩; have hB6 : Below W0.heap.size W0 wn6 := Below.trans (And.left (by assumption)) (hb1.mono (Below.size (And.left (by assumption)))); clear hb1) | (go_at_call_of 22 (Value.agg #[.bool n3, .slice a3 l3 c3, .int .i64 X1]); refine (unhide K11 _ _ ((unhide HV).below (And.left (by assumption)))).mono ?_; rintro e wn7 ⟨q, rfl, hq, hb1⟩; have hB7 : Below W0.heap.size W0 wn7 := Below.trans (And.left (by assumption)) (hb1.mono (Below.size (And.left (by assumption)))); obtain ⟨n7, a7, c7, L7, rfl, j7⟩ := hq; have J1 := hide (show IsDy wn7 (.agg #[.bool n7, .slice a7 L7.length c7, .int .i64 Y1]) s1 Y1 from ⟨n7, a7, c7, L7, rfl, j7⟩); clear hb1 j7) | (go_at_call_of 21 (Value.agg #[.bool n4, .slice a4 l4 c4, .int .i64 X2]); refine (unhide K12 _ _ _ ((unhide HU).below (And.left (by assumption))) (unhide J1)).mono ?_; rintro e wn8 ⟨rfl, hb1⟩; have hB8 : Below W0.heap.size W0 wn8 := Below.trans (And.left (by assumption)) (hb1.mono (Below.size (And.left (by assumption)))); clear hb1) | fail "NO ARM")
  have hW : Below W0.heap.size W0 _ := And.left (by assumption)
  go_wp2_with fail
  refine (awake5_any _ ((unhide HT).all hW)).mono ?_
  rintro e w9 ⟨rfl, hb9⟩
  have b9 := hW.trans (hb9.mono hW.size)
  go_wp2
  go_ret
  exact ⟨rfl, (unhide BB).trans (b9.mono (unhide BB).size)⟩

set_option maxRecDepth 20000 in
set_option maxHeartbeats 8000000 in
theorem sumExact_nmmm (a b o : Nat) (m1 m2 X1 X2 p1 p2 s2 Y2 s1 Y1 md Xd : Int) (w : World) (hT : Tab w) 
    (C1 : ∀ w', Calls Tryd.prog 17 #[.int .u64 a] w' fun r w'' => r = .returned (.bool true) ∧ w' = w'')
    (C2 : ∀ w', Calls Tryd.prog 17 #[.int .u64 b] w' fun r w'' => r = .returned (.bool true) ∧ w' = w'')
    (C3 : ∀ w', Calls Tryd.prog 18 #[.int .u64 a] w' fun r w'' => r = .returned (.bool true) ∧ w' = w'')
    (C4 : ∀ w', Calls Tryd.prog 18 #[.int .u64 b] w' fun r w'' => r = .returned (.bool true) ∧ w' = w'')
    (C5 : ∀ w', Calls Tryd.prog 19 #[.int .u64 a] w' fun r w'' => ∃ u, r = .returned u ∧ IsDy w'' u m1 X1 ∧ Below w'.heap.size w' w'')
    (C6 : ∀ w', Calls Tryd.prog 19 #[.int .u64 b] w' fun r w'' => ∃ u, r = .returned u ∧ IsDy w'' u m2 X2 ∧ Below w'.heap.size w' w'')
    (C7 : ∀ w' v, IsDy w' v m1 X1 → Calls Tryd.prog 20 #[v] w' fun r w'' => ∃ q, r = .returned q ∧ IsDy w'' q p1 X1 ∧ Below w'.heap.size w' w'')
    (C8 : ∀ w' v, IsDy w' v m2 X2 → Calls Tryd.prog 20 #[v] w' fun r w'' => ∃ q, r = .returned q ∧ IsDy w'' q p2 X2 ∧ Below w'.heap.size w' w'')
    (C9 : ∀ w' v, IsDy w' v p2 X2 → Calls Tryd.prog 22 #[v, .int .i64 1] w' fun r w'' => ∃ q, r = .returned q ∧ IsDy w'' q s2 Y2 ∧ Below w'.heap.size w' w'')
    (C10 : ∀ w' v u, IsDy w' v p1 X1 → IsDy w' u s2 Y2 → Calls Tryd.prog 21 #[v, u] w' fun r w'' => r = .returned (.int .i64 (-1)) ∧ Below w'.heap.size w' w'')
    (C11 : ∀ w' v, IsDy w' v p1 X1 → Calls Tryd.prog 22 #[v, .int .i64 1] w' fun r w'' => ∃ q, r = .returned q ∧ IsDy w'' q s1 Y1 ∧ Below w'.heap.size w' w'')
    (C12 : ∀ w' v u, IsDy w' v p2 X2 → IsDy w' u s1 Y1 → Calls Tryd.prog 21 #[v, u] w' fun r w'' => r = .returned (.int .i64 (-1)) ∧ Below w'.heap.size w' w'')
    (C13 : ∀ w', Tab w' → Calls Tryd.prog 12 #[.int .u64 a, .int .u64 b] w' fun r w'' => r = .returned (.tuple #[.int .u64 o, .int .u8 0]) ∧ Below w'.heap.size w' w'')
    (C14 : ∀ w', Calls Tryd.prog 17 #[.int .u64 o] w' fun r w'' => r = .returned (.bool true) ∧ w' = w'')
    (C15 : ∀ w', Calls Tryd.prog 19 #[.int .u64 o] w' fun r w'' => ∃ u, r = .returned u ∧ IsDy w'' u md Xd ∧ Below w'.heap.size w' w'')
    (C16 : ∀ w' v u, IsDy w' v m1 X1 → IsDy w' u m2 X2 → Calls Tryd.prog 24 #[v, u] w' fun r w'' => ∃ q, r = .returned q ∧ IsDy w'' q md Xd ∧ Below w'.heap.size w' w'') :
    Calls Tryd.prog 7 #[.int .u64 a, .int .u64 b] w fun r w' => r = .returned (.bool true) ∧ Below w.heap.size w w' := by
  have K1 := hide C1
  have K2 := hide C2
  have K3 := hide C3
  have K4 := hide C4
  have K5 := hide C5
  have K6 := hide C6
  have K7 := hide C7
  have K8 := hide C8
  have K9 := hide C9
  have K10 := hide C10
  have K11 := hide C11
  have K12 := hide C12
  have K13 := hide C13
  have K14 := hide C14
  have K15 := hide C15
  have K16 := hide C16
  clear C1 C2 C3 C4 C5 C6 C7 C8 C9 C10 C11 C12 C13 C14 C15 C16
  go_enter Tryd.func7, Tryd.ntmps7
  go_wp2_with fail
  refine (unhide K1 _).mono ?_
  rintro e wk ⟨rfl, rfl⟩
  go_wp2_with fail
  refine (unhide K2 _).mono ?_
  rintro e wk ⟨rfl, rfl⟩
  go_wp2_with fail
  refine (unhide K3 _).mono ?_
  rintro e wk ⟨rfl, rfl⟩
  go_wp2_with fail
  refine (unhide K4 _).mono ?_
  rintro e wk ⟨rfl, rfl⟩
  go_wp2_with fail
  refine (unhide K5 _).mono ?_
  rintro e w1 ⟨v, rfl, hv, hb1⟩
  obtain ⟨n1, a1, c1, L1, rfl, i1⟩ := hv
  have hb1a : Below w1.heap.size w1 (w1.alloc (.cells #[.bool n1, .slice a1 L1.length c1, .int .i64 X1] 38)) := (Below.refl _ _).alloc (Nat.le_refl _) _
  have HV := hide ((show IsDy w1 (.agg #[.bool n1, .slice a1 L1.length c1, .int .i64 X1]) m1 X1 from ⟨n1, a1, c1, L1, rfl, i1⟩).below hb1a)
  have X := hide (Box3.new w1 (.bool n1) (.slice a1 L1.length c1) (.int .i64 X1))
  have B1 := hide (hb1.trans (hb1a.mono hb1.size))
  have hs1 := hb1.size
  clear i1 hb1 hb1a
  go_wp2_with fail
  refine (unhide K6 _).mono ?_
  rintro e w2 ⟨v, rfl, hv, hb1⟩
  obtain ⟨n2, a2, c2, L2, rfl, i2⟩ := hv
  have hb1a : Below w2.heap.size w2 (w2.alloc (.cells #[.bool n2, .slice a2 L2.length c2, .int .i64 X2] 38)) := (Below.refl _ _).alloc (Nat.le_refl _) _
  have HU := hide ((show IsDy w2 (.agg #[.bool n2, .slice a2 L2.length c2, .int .i64 X2]) m2 X2 from ⟨n2, a2, c2, L2, rfl, i2⟩).below hb1a)
  have HV2 := hide (((unhide HV).below hb1).below hb1a)
  have x1 := ((unhide X).all hb1).all hb1a
  have x2 := Box3.new w2 (.bool n2) (.slice a2 L2.length c2) (.int .i64 X2)
  have hs2 : w1.heap.size < w2.heap.size := ((unhide X).all hb1).lt
  have B2 := hide ((unhide B1).trans ((hb1.trans (hb1a.mono hb1.size)).mono (unhide B1).size))
  have XX1 := hide x1; have XX2 := hide x2
  clear i2 hb1 hb1a B1 HV X x1 x2
  go_wp2_with fail
  refine (unhide K3 _).mono ?_
  rintro e wk ⟨rfl, rfl⟩
  have x1 := unhide XX1
  have y0 := x1.c0; have y1 := x1.c1; have y2 := x1.c2
  clear x1
  go_wp2_with fail
  refine (unhide K7 _ _ (unhide HV2)).mono ?_
  rintro e w3 ⟨v, rfl, hv, hb1⟩
  obtain ⟨n3, a3, c3, L3, rfl, i3⟩ := hv
  have x1 := (unhide XX1).all hb1
  have x2 := (unhide XX2).all hb1
  have hu := (unhide HU).below hb1
  have b1 := (unhide B2).trans (hb1.mono (unhide B2).size)
  have hv : IsDy w3 (.agg #[.bool n3, .slice a3 L3.length c3, .int .i64 X1]) p1 X1 := ⟨n3, a3, c3, L3, rfl, i3⟩
  clear y0 y1 y2 B2 XX1 XX2 HV2 HU hb1 i3
  generalize L3.length = l3 at *
  generalize L2.length = l2 at *
  generalize L1.length = l1 at *
  generalize w1.heap.size = gx at *
  generalize w2.heap.size = gy at *
  have hne : gy ≠ gx := by omega
  have y0 := x1.c0; have y1 := x1.c1; have y2 := x1.c2; have f0 := x1.free 0; have f1 := x1.free 1; have f2 := x1.free 2
  have q2 : Box3 (((w3.setCell ⟨gx, 0, none⟩ (.bool n3)).setCell ⟨gx, 1, none⟩ (.slice a3 l3 c3)).setCell ⟨gx, 2, none⟩ (.int .i64 X1)) gy (.bool n2) (.slice a2 l2 c2) (.int .i64 X2) := ((x2.other hne _).other hne _).other hne _
  have v0 := q2.c0; have v1 := q2.c1; have v2 := q2.c2
  have Q1 := hide (x1.put (.bool n3) (.slice a3 l3 c3) (.int .i64 X1)); have Q2 := hide q2
  have HV := hide (hv.put3 x1 (.bool n3) (.slice a3 l3 c3) (.int .i64 X1)); have HU := hide (hu.put3 x1 (.bool n3) (.slice a3 l3 c3) (.int .i64 X1))
  have B3 := hide (below_put3 b1 hs1 (.bool n3) (.slice a3 l3 c3) (.int .i64 X1))
  clear x1 x2 q2 hv hu b1
  go_wp2_with fail
  refine (unhide K8 _ _ (unhide HU)).mono ?_
  rintro e w4 ⟨v, rfl, hu, hb1⟩
  obtain ⟨n4, a4, c4, L4, rfl, i4⟩ := hu
  have x1 := (unhide Q1).all hb1
  have x2 := (unhide Q2).all hb1
  have hv := (unhide HV).below hb1
  have b1 := (unhide B3).trans (hb1.mono (unhide B3).size)
  have hu : IsDy w4 (.agg #[.bool n4, .slice a4 L4.length c4, .int .i64 X2]) p2 X2 := ⟨n4, a4, c4, L4, rfl, i4⟩
  clear y0 y1 y2 f0 f1 f2 v0 v1 v2 B3 Q1 Q2 HV HU hb1 i4
  generalize L4.length = l4 at *
  have hne' : gx ≠ gy := by omega
  have y0 := x2.c0; have y1 := x2.c1; have y2 := x2.c2; have f0 := x2.free 0; have f1 := x2.free 1; have f2 := x2.free 2
  have bF := below_put3 b1 (show w.heap.size ≤ gy by omega) (.bool n4) (.slice a4 l4 c4) (.int .i64 X2)
  have q1 : Box3 (((w4.setCell ⟨gy, 0, none⟩ (.bool n4)).setCell ⟨gy, 1, none⟩ (.slice a4 l4 c4)).setCell ⟨gy, 2, none⟩ (.int .i64 X2)) gx (.bool n3) (.slice a3 l3 c3) (.int .i64 X1) := ((x1.other hne' _).other hne' _).other hne' _
  have F := hide (And.intro bF (And.intro q1 (And.intro (x2.put (.bool n4) (.slice a4 l4 c4) (.int .i64 X2)) (And.intro (hv.put3 x2 (.bool n4) (.slice a4 l4 c4) (.int .i64 X2)) (And.intro (hu.put3 x2 (.bool n4) (.slice a4 l4 c4) (.int .i64 X2)) (hT.all bF))))))
  clear x1 x2 hv hu b1 bF q1
  go_wp2_with fail
  refine at_world (fun W => Below w.heap.size w W ∧ Box3 W gx (.bool n3) (.slice a3 l3 c3) (.int .i64 X1) ∧ Box3 W gy (.bool n4) (.slice a4 l4 c4) (.int .i64 X2) ∧ IsDy W (.agg #[.bool n3, .slice a3 l3 c3, .int .i64 X1]) p1 X1 ∧ IsDy W (.agg #[.bool n4, .slice a4 l4 c4, .int .i64 X2]) p2 X2 ∧ Tab W) (unhide F) ?_
  clear F
  rintro W0 ⟨b0, x1, x2, hv, hu, ht⟩
  have hK : ∀ w', Below W0.heap.size W0 w' → Below W0.heap.size W0 w' ∧ w'.cell? ⟨gx, 0, none⟩ = some (.bool n3) ∧ w'.cell? ⟨gx, 1, none⟩ = some (.slice a3 l3 c3) ∧ w'.cell? ⟨gx, 2, none⟩ = some (.int .i64 X1) ∧ w'.cell? ⟨gy, 0, none⟩ = some (.bool n4) ∧ w'.cell? ⟨gy, 1, none⟩ = some (.slice a4 l4 c4) ∧ w'.cell? ⟨gy, 2, none⟩ = some (.int .i64 X2) := fun w' h => ⟨h, (x1.all h).c0, (x1.all h).c1, (x1.all h).c2, (x2.all h).c0, (x2.all h).c1, (x2.all h).c2⟩
  have HK := hide hK; have BB := hide b0; have HV := hide hv; have HU := hide hu; have HT := hide ht
  clear hK b0 x1 x2 hv hu ht
  go_region_held3 (fun w' => Below W0.heap.size W0 w' ∧ w'.cell? ⟨gx, 0, none⟩ = some (.bool n3) ∧ w'.cell? ⟨gx, 1, none⟩ = some (.slice a3 l3 c3) ∧ w'.cell? ⟨gx, 2, none⟩ = some (.int .i64 X1) ∧ w'.cell? ⟨gy, 0, none⟩ = some (.bool n4) ∧ w'.cell? ⟨gy, 1, none⟩ = some (.slice a4 l4 c4) ∧ w'.cell? ⟨gy, 2, none⟩ = some (.int .i64 X2))
    (first | exact unhide HK _ (Below.refl _ _).drew | exact unhide HK _ (by assumption) | fail "NO KEEP")
    (first | (go_at_call_of 22 (Value.agg #[.bool n4, .slice a4 l4 c4, .int .i64 X2]); refine (unhide K9 _ _ ((unhide HU).below (And.left (by assumption)))).mono ?_; rintro e wn5 ⟨q, rfl, hq, hb1⟩; have hB5 : Below W0.heap.size W0 wn5 := Below.trans (And.left (by assumption)) (hb1.mono (Below.size (And.left (by assumption)))); obtain ⟨n5, a5, c5, L5, rfl, j5⟩ := hq; have J2 := hide (show IsDy wn5 (.agg #[.bool n5, .slice a5 L5.length c5, .int .i64 Y2]) s2 Y2 from ⟨n5, a5, c5, L5, rfl, j5⟩); clear hb1 j5) | (go_at_call_of 21 (Value.agg #[.bool n3, .slice a3 l3 c3, .int .i64 X1]); refine (unhide K10 _ _ _ ((unhide HV).below (And.left (by assumption))) (unhide J2)).mono ?_; rintro e wn6 ⟨rfl, hb1⟩; have hB6 : Below W0.heap.size W0 wn6 := Below.trans (And.left (by assumption)) (hb1.mono (Below.size (And.left (by assumption)))); clear hb1) | (go_at_call_of 22 (Value.agg #[.bool n3, .slice a3 l3 c3, .int .i64 X1]); refine (unhide K11 _ _ ((unhide HV).below (And.left (by assumption)))).mono ?_; rintro e wn7 ⟨q, rfl, hq, hb1⟩; have hB7 : Below W0.heap.size W0 wn7 := Below.trans (And.left (by assumption)) (hb1.mono (Below.size (And.left (by assumption)))); obtain ⟨n7, a7, c7, L7, rfl, j7⟩ := hq; have J1 := hide (show IsDy wn7 (.agg #[.bool n7, .slice a7 L7.length c7, .int .i64 Y1]) s1 Y1 from ⟨n7, a7, c7, L7, rfl, j7⟩); clear hb1 j7) | (go_at_call_of 21 (Value.agg #[.bool n4, .slice a4 l4 c4, .int .i64 X2]); refine (unhide K12 _ _ _ ((unhide HU).below (And.left (by assumption))) (unhide J1)).mono ?_; rintro e wn8 ⟨rfl, hb1⟩; have hB8 : Below W0.heap.size W0 wn8 := Below.trans (And.left (by assumption)) (hb1.mono (Below.size (And.left (by assumption)))); clear hb1) | fail "NO ARM")
  have hW : Below W0.heap.size W0 _ := And.left (by assumption)
  go_wp2_with fail
  refine (unhide K13 _ ((unhide HT).all hW)).mono ?_
  rintro e w3 ⟨rfl, hb3⟩
  have B3 := hide (hW.trans (hb3.mono hW.size))
  clear hb3
  go_wp2_with fail
  refine (unhide K14 _).mono ?_
  rintro e wk ⟨rfl, rfl⟩
  go_wp2_with fail
  refine (unhide K15 _).mono ?_
  rintro e w4 ⟨u, rfl, hd, hb4⟩
  obtain ⟨n7, a7, c7, L7, rfl, i7⟩ := hd
  have D1 := hide (show IsDy w4 (.agg #[.bool n7, .slice a7 L7.length c7, .int .i64 Xd]) md Xd from ⟨n7, a7, c7, L7, rfl, i7⟩)
  have B4 := hide ((unhide B3).trans (hb4.mono (unhide B3).size))
  clear hb4 i7 B3
  go_wp2_with fail
  refine (unhide K5 _).mono ?_
  rintro e w5 ⟨u, rfl, hd, hb4⟩
  obtain ⟨n8, a8, c8, L8, rfl, i8⟩ := hd
  have D2 := hide (show IsDy w5 (.agg #[.bool n8, .slice a8 L8.length c8, .int .i64 X1]) m1 X1 from ⟨n8, a8, c8, L8, rfl, i8⟩)
  have B5 := hide ((unhide B4).trans (hb4.mono (unhide B4).size))
  have D1a := hide ((unhide D1).below hb4)
  clear hb4 i8 B4 D1
  go_wp2_with fail
  refine (unhide K6 _).mono ?_
  rintro e w6 ⟨u, rfl, hd, hb4⟩
  obtain ⟨n9, a9, c9, L9, rfl, i9⟩ := hd
  have D3 := hide (show IsDy w6 (.agg #[.bool n9, .slice a9 L9.length c9, .int .i64 X2]) m2 X2 from ⟨n9, a9, c9, L9, rfl, i9⟩)
  have B6 := hide ((unhide B5).trans (hb4.mono (unhide B5).size))
  have D1b := hide ((unhide D1a).below hb4)
  have D2a := hide ((unhide D2).below hb4)
  clear hb4 i9 B5 D1a D2
  go_wp2_with fail
  refine (unhide K16 _ _ _ (unhide D2a) (unhide D3)).mono ?_
  rintro e w7 ⟨u, rfl, hd, hb4⟩
  obtain ⟨nA, aA, cA, LA, rfl, iA⟩ := hd
  have D4 := hide (show IsDy w7 (.agg #[.bool nA, .slice aA LA.length cA, .int .i64 Xd]) md Xd from ⟨nA, aA, cA, LA, rfl, iA⟩)
  have B7 := hide ((unhide B6).trans (hb4.mono (unhide B6).size))
  have D1c := hide ((unhide D1b).below hb4)
  clear hb4 iA B6 D1b D2a D3
  go_wp2_with fail
  refine (sameN (unhide D1c) (unhide D4)).mono ?_
  rintro e w8 ⟨rfl, hb4⟩
  have B8 := hide ((unhide B7).trans (hb4.mono (unhide B7).size))
  clear hb4 B7 D1c D4
  go_wp2_with fail
  refine (awake5_any _ ((unhide HT).all (unhide B8))).mono ?_
  rintro e w9 ⟨rfl, hb9⟩
  have b9 := (unhide B8).trans (hb9.mono (unhide B8).size)
  clear hb9 B8
  go_wp2
  go_ret
  exact ⟨rfl, (unhide BB).trans (b9.mono (unhide BB).size)⟩

set_option maxRecDepth 20000 in
set_option maxHeartbeats 8000000 in
theorem sumExact_nmmz (a b o : Nat) (m1 m2 X1 X2 p1 p2 s2 Y2 s1 Y1 md Xd : Int) (w : World) (hT : Tab w) 
    (C1 : ∀ w', Calls Tryd.prog 17 #[.int .u64 a] w' fun r w'' => r = .returned (.bool true) ∧ w' = w'')
    (C2 : ∀ w', Calls Tryd.prog 17 #[.int .u64 b] w' fun r w'' => r = .returned (.bool true) ∧ w' = w'')
    (C3 : ∀ w', Calls Tryd.prog 18 #[.int .u64 a] w' fun r w'' => r = .returned (.bool true) ∧ w' = w'')
    (C4 : ∀ w', Calls Tryd.prog 18 #[.int .u64 b] w' fun r w'' => r = .returned (.bool true) ∧ w' = w'')
    (C5 : ∀ w', Calls Tryd.prog 19 #[.int .u64 a] w' fun r w'' => ∃ u, r = .returned u ∧ IsDy w'' u m1 X1 ∧ Below w'.heap.size w' w'')
    (C6 : ∀ w', Calls Tryd.prog 19 #[.int .u64 b] w' fun r w'' => ∃ u, r = .returned u ∧ IsDy w'' u m2 X2 ∧ Below w'.heap.size w' w'')
    (C7 : ∀ w' v, IsDy w' v m1 X1 → Calls Tryd.prog 20 #[v] w' fun r w'' => ∃ q, r = .returned q ∧ IsDy w'' q p1 X1 ∧ Below w'.heap.size w' w'')
    (C8 : ∀ w' v, IsDy w' v m2 X2 → Calls Tryd.prog 20 #[v] w' fun r w'' => ∃ q, r = .returned q ∧ IsDy w'' q p2 X2 ∧ Below w'.heap.size w' w'')
    (C9 : ∀ w' v, IsDy w' v p2 X2 → Calls Tryd.prog 22 #[v, .int .i64 1] w' fun r w'' => ∃ q, r = .returned q ∧ IsDy w'' q s2 Y2 ∧ Below w'.heap.size w' w'')
    (C10 : ∀ w' v u, IsDy w' v p1 X1 → IsDy w' u s2 Y2 → Calls Tryd.prog 21 #[v, u] w' fun r w'' => r = .returned (.int .i64 (-1)) ∧ Below w'.heap.size w' w'')
    (C11 : ∀ w' v, IsDy w' v p1 X1 → Calls Tryd.prog 22 #[v, .int .i64 1] w' fun r w'' => ∃ q, r = .returned q ∧ IsDy w'' q s1 Y1 ∧ Below w'.heap.size w' w'')
    (C12 : ∀ w' v u, IsDy w' v p2 X2 → IsDy w' u s1 Y1 → Calls Tryd.prog 21 #[v, u] w' fun r w'' => r = .returned (.int .i64 (0)) ∧ Below w'.heap.size w' w'')
    (C13 : ∀ w', Tab w' → Calls Tryd.prog 12 #[.int .u64 a, .int .u64 b] w' fun r w'' => r = .returned (.tuple #[.int .u64 o, .int .u8 0]) ∧ Below w'.heap.size w' w'')
    (C14 : ∀ w', Calls Tryd.prog 17 #[.int .u64 o] w' fun r w'' => r = .returned (.bool true) ∧ w' = w'')
    (C15 : ∀ w', Calls Tryd.prog 19 #[.int .u64 o] w' fun r w'' => ∃ u, r = .returned u ∧ IsDy w'' u md Xd ∧ Below w'.heap.size w' w'')
    (C16 : ∀ w' v u, IsDy w' v m1 X1 → IsDy w' u m2 X2 → Calls Tryd.prog 24 #[v, u] w' fun r w'' => ∃ q, r = .returned q ∧ IsDy w'' q md Xd ∧ Below w'.heap.size w' w'') :
    Calls Tryd.prog 7 #[.int .u64 a, .int .u64 b] w fun r w' => r = .returned (.bool true) ∧ Below w.heap.size w w' := by
  have K1 := hide C1
  have K2 := hide C2
  have K3 := hide C3
  have K4 := hide C4
  have K5 := hide C5
  have K6 := hide C6
  have K7 := hide C7
  have K8 := hide C8
  have K9 := hide C9
  have K10 := hide C10
  have K11 := hide C11
  have K12 := hide C12
  have K13 := hide C13
  have K14 := hide C14
  have K15 := hide C15
  have K16 := hide C16
  clear C1 C2 C3 C4 C5 C6 C7 C8 C9 C10 C11 C12 C13 C14 C15 C16
  go_enter Tryd.func7, Tryd.ntmps7
  go_wp2_with fail
  refine (unhide K1 _).mono ?_
  rintro e wk ⟨rfl, rfl⟩
  go_wp2_with fail
  refine (unhide K2 _).mono ?_
  rintro e wk ⟨rfl, rfl⟩
  go_wp2_with fail
  refine (unhide K3 _).mono ?_
  rintro e wk ⟨rfl, rfl⟩
  go_wp2_with fail
  refine (unhide K4 _).mono ?_
  rintro e wk ⟨rfl, rfl⟩
  go_wp2_with fail
  refine (unhide K5 _).mono ?_
  rintro e w1 ⟨v, rfl, hv, hb1⟩
  obtain ⟨n1, a1, c1, L1, rfl, i1⟩ := hv
  have hb1a : Below w1.heap.size w1 (w1.alloc (.cells #[.bool n1, .slice a1 L1.length c1, .int .i64 X1] 38)) := (Below.refl _ _).alloc (Nat.le_refl _) _
  have HV := hide ((show IsDy w1 (.agg #[.bool n1, .slice a1 L1.length c1, .int .i64 X1]) m1 X1 from ⟨n1, a1, c1, L1, rfl, i1⟩).below hb1a)
  have X := hide (Box3.new w1 (.bool n1) (.slice a1 L1.length c1) (.int .i64 X1))
  have B1 := hide (hb1.trans (hb1a.mono hb1.size))
  have hs1 := hb1.size
  clear i1 hb1 hb1a
  go_wp2_with fail
  refine (unhide K6 _).mono ?_
  rintro e w2 ⟨v, rfl, hv, hb1⟩
  obtain ⟨n2, a2, c2, L2, rfl, i2⟩ := hv
  have hb1a : Below w2.heap.size w2 (w2.alloc (.cells #[.bool n2, .slice a2 L2.length c2, .int .i64 X2] 38)) := (Below.refl _ _).alloc (Nat.le_refl _) _
  have HU := hide ((show IsDy w2 (.agg #[.bool n2, .slice a2 L2.length c2, .int .i64 X2]) m2 X2 from ⟨n2, a2, c2, L2, rfl, i2⟩).below hb1a)
  have HV2 := hide (((unhide HV).below hb1).below hb1a)
  have x1 := ((unhide X).all hb1).all hb1a
  have x2 := Box3.new w2 (.bool n2) (.slice a2 L2.length c2) (.int .i64 X2)
  have hs2 : w1.heap.size < w2.heap.size := ((unhide X).all hb1).lt
  have B2 := hide ((unhide B1).trans ((hb1.trans (hb1a.mono hb1.size)).mono (unhide B1).size))
  have XX1 := hide x1; have XX2 := hide x2
  clear i2 hb1 hb1a B1 HV X x1 x2
  go_wp2_with fail
  refine (unhide K3 _).mono ?_
  rintro e wk ⟨rfl, rfl⟩
  have x1 := unhide XX1
  have y0 := x1.c0; have y1 := x1.c1; have y2 := x1.c2
  clear x1
  go_wp2_with fail
  refine (unhide K7 _ _ (unhide HV2)).mono ?_
  rintro e w3 ⟨v, rfl, hv, hb1⟩
  obtain ⟨n3, a3, c3, L3, rfl, i3⟩ := hv
  have x1 := (unhide XX1).all hb1
  have x2 := (unhide XX2).all hb1
  have hu := (unhide HU).below hb1
  have b1 := (unhide B2).trans (hb1.mono (unhide B2).size)
  have hv : IsDy w3 (.agg #[.bool n3, .slice a3 L3.length c3, .int .i64 X1]) p1 X1 := ⟨n3, a3, c3, L3, rfl, i3⟩
  clear y0 y1 y2 B2 XX1 XX2 HV2 HU hb1 i3
  generalize L3.length = l3 at *
  generalize L2.length = l2 at *
  generalize L1.length = l1 at *
  generalize w1.heap.size = gx at *
  generalize w2.heap.size = gy at *
  have hne : gy ≠ gx := by omega
  have y0 := x1.c0; have y1 := x1.c1; have y2 := x1.c2; have f0 := x1.free 0; have f1 := x1.free 1; have f2 := x1.free 2
  have q2 : Box3 (((w3.setCell ⟨gx, 0, none⟩ (.bool n3)).setCell ⟨gx, 1, none⟩ (.slice a3 l3 c3)).setCell ⟨gx, 2, none⟩ (.int .i64 X1)) gy (.bool n2) (.slice a2 l2 c2) (.int .i64 X2) := ((x2.other hne _).other hne _).other hne _
  have v0 := q2.c0; have v1 := q2.c1; have v2 := q2.c2
  have Q1 := hide (x1.put (.bool n3) (.slice a3 l3 c3) (.int .i64 X1)); have Q2 := hide q2
  have HV := hide (hv.put3 x1 (.bool n3) (.slice a3 l3 c3) (.int .i64 X1)); have HU := hide (hu.put3 x1 (.bool n3) (.slice a3 l3 c3) (.int .i64 X1))
  have B3 := hide (below_put3 b1 hs1 (.bool n3) (.slice a3 l3 c3) (.int .i64 X1))
  clear x1 x2 q2 hv hu b1
  go_wp2_with fail
  refine (unhide K8 _ _ (unhide HU)).mono ?_
  rintro e w4 ⟨v, rfl, hu, hb1⟩
  obtain ⟨n4, a4, c4, L4, rfl, i4⟩ := hu
  have x1 := (unhide Q1).all hb1
  have x2 := (unhide Q2).all hb1
  have hv := (unhide HV).below hb1
  have b1 := (unhide B3).trans (hb1.mono (unhide B3).size)
  have hu : IsDy w4 (.agg #[.bool n4, .slice a4 L4.length c4, .int .i64 X2]) p2 X2 := ⟨n4, a4, c4, L4, rfl, i4⟩
  clear y0 y1 y2 f0 f1 f2 v0 v1 v2 B3 Q1 Q2 HV HU hb1 i4
  generalize L4.length = l4 at *
  have hne' : gx ≠ gy := by omega
  have y0 := x2.c0; have y1 := x2.c1; have y2 := x2.c2; have f0 := x2.free 0; have f1 := x2.free 1; have f2 := x2.free 2
  have bF := below_put3 b1 (show w.heap.size ≤ gy by omega) (.bool n4) (.slice a4 l4 c4) (.int .i64 X2)
  have q1 : Box3 (((w4.setCell ⟨gy, 0, none⟩ (.bool n4)).setCell ⟨gy, 1, none⟩ (.slice a4 l4 c4)).setCell ⟨gy, 2, none⟩ (.int .i64 X2)) gx (.bool n3) (.slice a3 l3 c3) (.int .i64 X1) := ((x1.other hne' _).other hne' _).other hne' _
  have F := hide (And.intro bF (And.intro q1 (And.intro (x2.put (.bool n4) (.slice a4 l4 c4) (.int .i64 X2)) (And.intro (hv.put3 x2 (.bool n4) (.slice a4 l4 c4) (.int .i64 X2)) (And.intro (hu.put3 x2 (.bool n4) (.slice a4 l4 c4) (.int .i64 X2)) (hT.all bF))))))
  clear x1 x2 hv hu b1 bF q1
  go_wp2_with fail
  refine at_world (fun W => Below w.heap.size w W ∧ Box3 W gx (.bool n3) (.slice a3 l3 c3) (.int .i64 X1) ∧ Box3 W gy (.bool n4) (.slice a4 l4 c4) (.int .i64 X2) ∧ IsDy W (.agg #[.bool n3, .slice a3 l3 c3, .int .i64 X1]) p1 X1 ∧ IsDy W (.agg #[.bool n4, .slice a4 l4 c4, .int .i64 X2]) p2 X2 ∧ Tab W) (unhide F) ?_
  clear F
  rintro W0 ⟨b0, x1, x2, hv, hu, ht⟩
  have hK : ∀ w', Below W0.heap.size W0 w' → Below W0.heap.size W0 w' ∧ w'.cell? ⟨gx, 0, none⟩ = some (.bool n3) ∧ w'.cell? ⟨gx, 1, none⟩ = some (.slice a3 l3 c3) ∧ w'.cell? ⟨gx, 2, none⟩ = some (.int .i64 X1) ∧ w'.cell? ⟨gy, 0, none⟩ = some (.bool n4) ∧ w'.cell? ⟨gy, 1, none⟩ = some (.slice a4 l4 c4) ∧ w'.cell? ⟨gy, 2, none⟩ = some (.int .i64 X2) := fun w' h => ⟨h, (x1.all h).c0, (x1.all h).c1, (x1.all h).c2, (x2.all h).c0, (x2.all h).c1, (x2.all h).c2⟩
  have HK := hide hK; have BB := hide b0; have HV := hide hv; have HU := hide hu; have HT := hide ht
  clear hK b0 x1 x2 hv hu ht
  go_region_held3 (fun w' => Below W0.heap.size W0 w' ∧ w'.cell? ⟨gx, 0, none⟩ = some (.bool n3) ∧ w'.cell? ⟨gx, 1, none⟩ = some (.slice a3 l3 c3) ∧ w'.cell? ⟨gx, 2, none⟩ = some (.int .i64 X1) ∧ w'.cell? ⟨gy, 0, none⟩ = some (.bool n4) ∧ w'.cell? ⟨gy, 1, none⟩ = some (.slice a4 l4 c4) ∧ w'.cell? ⟨gy, 2, none⟩ = some (.int .i64 X2))
    (first | exact unhide HK _ (Below.refl _ _).drew | exact unhide HK _ (by assumption) | fail "NO KEEP")
    (first | (go_at_call_of 22 (Value.agg #[.bool n4, .slice a4 l4 c4, .int .i64 X2]); refine (unhide K9 _ _ ((unhide HU).below (And.left (by assumption)))).mono ?_; rintro e wn5 ⟨q, rfl, hq, hb1⟩; have hB5 : Below W0.heap.size W0 wn5 := Below.trans (And.left (by assumption)) (hb1.mono (Below.size (And.left (by assumption)))); obtain ⟨n5, a5, c5, L5, rfl, j5⟩ := hq; have J2 := hide (show IsDy wn5 (.agg #[.bool n5, .slice a5 L5.length c5, .int .i64 Y2]) s2 Y2 from ⟨n5, a5, c5, L5, rfl, j5⟩); clear hb1 j5) | (go_at_call_of 21 (Value.agg #[.bool n3, .slice a3 l3 c3, .int .i64 X1]); refine (unhide K10 _ _ _ ((unhide HV).below (And.left (by assumption))) (unhide J2)).mono ?_; rintro e wn6 ⟨rfl, hb1⟩; have hB6 : Below W0.heap.size W0 wn6 := Below.trans (And.left (by assumption)) (hb1.mono (Below.size (And.left (by assumption)))); clear hb1) | (go_at_call_of 22 (Value.agg #[.bool n3, .slice a3 l3 c3, .int .i64 X1]); refine (unhide K11 _ _ ((unhide HV).below (And.left (by assumption)))).mono ?_; rintro e wn7 ⟨q, rfl, hq, hb1⟩; have hB7 : Below W0.heap.size W0 wn7 := Below.trans (And.left (by assumption)) (hb1.mono (Below.size (And.left (by assumption)))); obtain ⟨n7, a7, c7, L7, rfl, j7⟩ := hq; have J1 := hide (show IsDy wn7 (.agg #[.bool n7, .slice a7 L7.length c7, .int .i64 Y1]) s1 Y1 from ⟨n7, a7, c7, L7, rfl, j7⟩); clear hb1 j7) | (go_at_call_of 21 (Value.agg #[.bool n4, .slice a4 l4 c4, .int .i64 X2]); refine (unhide K12 _ _ _ ((unhide HU).below (And.left (by assumption))) (unhide J1)).mono ?_; rintro e wn8 ⟨rfl, hb1⟩; have hB8 : Below W0.heap.size W0 wn8 := Below.trans (And.left (by assumption)) (hb1.mono (Below.size (And.left (by assumption)))); clear hb1) | fail "NO ARM")
  have hW : Below W0.heap.size W0 _ := And.left (by assumption)
  go_wp2_with fail
  refine (unhide K13 _ ((unhide HT).all hW)).mono ?_
  rintro e w3 ⟨rfl, hb3⟩
  have B3 := hide (hW.trans (hb3.mono hW.size))
  clear hb3
  go_wp2_with fail
  refine (unhide K14 _).mono ?_
  rintro e wk ⟨rfl, rfl⟩
  go_wp2_with fail
  refine (unhide K15 _).mono ?_
  rintro e w4 ⟨u, rfl, hd, hb4⟩
  obtain ⟨n7, a7, c7, L7, rfl, i7⟩ := hd
  have D1 := hide (show IsDy w4 (.agg #[.bool n7, .slice a7 L7.length c7, .int .i64 Xd]) md Xd from ⟨n7, a7, c7, L7, rfl, i7⟩)
  have B4 := hide ((unhide B3).trans (hb4.mono (unhide B3).size))
  clear hb4 i7 B3
  go_wp2_with fail
  refine (unhide K5 _).mono ?_
  rintro e w5 ⟨u, rfl, hd, hb4⟩
  obtain ⟨n8, a8, c8, L8, rfl, i8⟩ := hd
  have D2 := hide (show IsDy w5 (.agg #[.bool n8, .slice a8 L8.length c8, .int .i64 X1]) m1 X1 from ⟨n8, a8, c8, L8, rfl, i8⟩)
  have B5 := hide ((unhide B4).trans (hb4.mono (unhide B4).size))
  have D1a := hide ((unhide D1).below hb4)
  clear hb4 i8 B4 D1
  go_wp2_with fail
  refine (unhide K6 _).mono ?_
  rintro e w6 ⟨u, rfl, hd, hb4⟩
  obtain ⟨n9, a9, c9, L9, rfl, i9⟩ := hd
  have D3 := hide (show IsDy w6 (.agg #[.bool n9, .slice a9 L9.length c9, .int .i64 X2]) m2 X2 from ⟨n9, a9, c9, L9, rfl, i9⟩)
  have B6 := hide ((unhide B5).trans (hb4.mono (unhide B5).size))
  have D1b := hide ((unhide D1a).below hb4)
  have D2a := hide ((unhide D2).below hb4)
  clear hb4 i9 B5 D1a D2
  go_wp2_with fail
  refine (unhide K16 _ _ _ (unhide D2a) (unhide D3)).mono ?_
  rintro e w7 ⟨u, rfl, hd, hb4⟩
  obtain ⟨nA, aA, cA, LA, rfl, iA⟩ := hd
  have D4 := hide (show IsDy w7 (.agg #[.bool nA, .slice aA LA.length cA, .int .i64 Xd]) md Xd from ⟨nA, aA, cA, LA, rfl, iA⟩)
  have B7 := hide ((unhide B6).trans (hb4.mono (unhide B6).size))
  have D1c := hide ((unhide D1b).below hb4)
  clear hb4 iA B6 D1b D2a D3
  go_wp2_with fail
  refine (sameN (unhide D1c) (unhide D4)).mono ?_
  rintro e w8 ⟨rfl, hb4⟩
  have B8 := hide ((unhide B7).trans (hb4.mono (unhide B7).size))
  clear hb4 B7 D1c D4
  go_wp2_with fail
  refine (awake5_any _ ((unhide HT).all (unhide B8))).mono ?_
  rintro e w9 ⟨rfl, hb9⟩
  have b9 := (unhide B8).trans (hb9.mono (unhide B8).size)
  clear hb9 B8
  go_wp2
  go_ret
  exact ⟨rfl, (unhide BB).trans (b9.mono (unhide BB).size)⟩

set_option maxRecDepth 20000 in
set_option maxHeartbeats 8000000 in
theorem sumExact_nmzm (a b o : Nat) (m1 m2 X1 X2 p1 p2 s2 Y2 s1 Y1 md Xd : Int) (w : World) (hT : Tab w) 
    (C1 : ∀ w', Calls Tryd.prog 17 #[.int .u64 a] w' fun r w'' => r = .returned (.bool true) ∧ w' = w'')
    (C2 : ∀ w', Calls Tryd.prog 17 #[.int .u64 b] w' fun r w'' => r = .returned (.bool true) ∧ w' = w'')
    (C3 : ∀ w', Calls Tryd.prog 18 #[.int .u64 a] w' fun r w'' => r = .returned (.bool true) ∧ w' = w'')
    (C4 : ∀ w', Calls Tryd.prog 18 #[.int .u64 b] w' fun r w'' => r = .returned (.bool true) ∧ w' = w'')
    (C5 : ∀ w', Calls Tryd.prog 19 #[.int .u64 a] w' fun r w'' => ∃ u, r = .returned u ∧ IsDy w'' u m1 X1 ∧ Below w'.heap.size w' w'')
    (C6 : ∀ w', Calls Tryd.prog 19 #[.int .u64 b] w' fun r w'' => ∃ u, r = .returned u ∧ IsDy w'' u m2 X2 ∧ Below w'.heap.size w' w'')
    (C7 : ∀ w' v, IsDy w' v m1 X1 → Calls Tryd.prog 20 #[v] w' fun r w'' => ∃ q, r = .returned q ∧ IsDy w'' q p1 X1 ∧ Below w'.heap.size w' w'')
    (C8 : ∀ w' v, IsDy w' v m2 X2 → Calls Tryd.prog 20 #[v] w' fun r w'' => ∃ q, r = .returned q ∧ IsDy w'' q p2 X2 ∧ Below w'.heap.size w' w'')
    (C9 : ∀ w' v, IsDy w' v p2 X2 → Calls Tryd.prog 22 #[v, .int .i64 1] w' fun r w'' => ∃ q, r = .returned q ∧ IsDy w'' q s2 Y2 ∧ Below w'.heap.size w' w'')
    (C10 : ∀ w' v u, IsDy w' v p1 X1 → IsDy w' u s2 Y2 → Calls Tryd.prog 21 #[v, u] w' fun r w'' => r = .returned (.int .i64 (0)) ∧ Below w'.heap.size w' w'')
    (C11 : ∀ w' v, IsDy w' v p1 X1 → Calls Tryd.prog 22 #[v, .int .i64 1] w' fun r w'' => ∃ q, r = .returned q ∧ IsDy w'' q s1 Y1 ∧ Below w'.heap.size w' w'')
    (C12 : ∀ w' v u, IsDy w' v p2 X2 → IsDy w' u s1 Y1 → Calls Tryd.prog 21 #[v, u] w' fun r w'' => r = .returned (.int .i64 (-1)) ∧ Below w'.heap.size w' w'')
    (C13 : ∀ w', Tab w' → Calls Tryd.prog 12 #[.int .u64 a, .int .u64 b] w' fun r w'' => r = .returned (.tuple #[.int .u64 o, .int .u8 0]) ∧ Below w'.heap.size w' w'')
    (C14 : ∀ w', Calls Tryd.prog 17 #[.int .u64 o] w' fun r w'' => r = .returned (.bool true) ∧ w' = w'')
    (C15 : ∀ w', Calls Tryd.prog 19 #[.int .u64 o] w' fun r w'' => ∃ u, r = .returned u ∧ IsDy w'' u md Xd ∧ Below w'.heap.size w' w'')
    (C16 : ∀ w' v u, IsDy w' v m1 X1 → IsDy w' u m2 X2 → Calls Tryd.prog 24 #[v, u] w' fun r w'' => ∃ q, r = .returned q ∧ IsDy w'' q md Xd ∧ Below w'.heap.size w' w'') :
    Calls Tryd.prog 7 #[.int .u64 a, .int .u64 b] w fun r w' => r = .returned (.bool true) ∧ Below w.heap.size w w' := by
  have K1 := hide C1
  have K2 := hide C2
  have K3 := hide C3
  have K4 := hide C4
  have K5 := hide C5
  have K6 := hide C6
  have K7 := hide C7
  have K8 := hide C8
  have K9 := hide C9
  have K10 := hide C10
  have K11 := hide C11
  have K12 := hide C12
  have K13 := hide C13
  have K14 := hide C14
  have K15 := hide C15
  have K16 := hide C16
  clear C1 C2 C3 C4 C5 C6 C7 C8 C9 C10 C11 C12 C13 C14 C15 C16
  go_enter Tryd.func7, Tryd.ntmps7
  go_wp2_with fail
  refine (unhide K1 _).mono ?_
  rintro e wk ⟨rfl, rfl⟩
  go_wp2_with fail
  refine (unhide K2 _).mono ?_
  rintro e wk ⟨rfl, rfl⟩
  go_wp2_with fail
  refine (unhide K3 _).mono ?_
  rintro e wk ⟨rfl, rfl⟩
  go_wp2_with fail
  refine (unhide K4 _).mono ?_
  rintro e wk ⟨rfl, rfl⟩
  go_wp2_with fail
  refine (unhide K5 _).mono ?_
  rintro e w1 ⟨v, rfl, hv, hb1⟩
  obtain ⟨n1, a1, c1, L1, rfl, i1⟩ := hv
  have hb1a : Below w1.heap.size w1 (w1.alloc (.cells #[.bool n1, .slice a1 L1.length c1, .int .i64 X1] 38)) := (Below.refl _ _).alloc (Nat.le_refl _) _
  have HV := hide ((show IsDy w1 (.agg #[.bool n1, .slice a1 L1.length c1, .int .i64 X1]) m1 X1 from ⟨n1, a1, c1, L1, rfl, i1⟩).below hb1a)
  have X := hide (Box3.new w1 (.bool n1) (.slice a1 L1.length c1) (.int .i64 X1))
  have B1 := hide (hb1.trans (hb1a.mono hb1.size))
  have hs1 := hb1.size
  clear i1 hb1 hb1a
  go_wp2_with fail
  refine (unhide K6 _).mono ?_
  rintro e w2 ⟨v, rfl, hv, hb1⟩
  obtain ⟨n2, a2, c2, L2, rfl, i2⟩ := hv
  have hb1a : Below w2.heap.size w2 (w2.alloc (.cells #[.bool n2, .slice a2 L2.length c2, .int .i64 X2] 38)) := (Below.refl _ _).alloc (Nat.le_refl _) _
  have HU := hide ((show IsDy w2 (.agg #[.bool n2, .slice a2 L2.length c2, .int .i64 X2]) m2 X2 from ⟨n2, a2, c2, L2, rfl, i2⟩).below hb1a)
  have HV2 := hide (((unhide HV).below hb1).below hb1a)
  have x1 := ((unhide X).all hb1).all hb1a
  have x2 := Box3.new w2 (.bool n2) (.slice a2 L2.length c2) (.int .i64 X2)
  have hs2 : w1.heap.size < w2.heap.size := ((unhide X).all hb1).lt
  have B2 := hide ((unhide B1).trans ((hb1.trans (hb1a.mono hb1.size)).mono (unhide B1).size))
  have XX1 := hide x1; have XX2 := hide x2
  clear i2 hb1 hb1a B1 HV X x1 x2
  go_wp2_with fail
  refine (unhide K3 _).mono ?_
  rintro e wk ⟨rfl, rfl⟩
  have x1 := unhide XX1
  have y0 := x1.c0; have y1 := x1.c1; have y2 := x1.c2
  clear x1
  go_wp2_with fail
  refine (unhide K7 _ _ (unhide HV2)).mono ?_
  rintro e w3 ⟨v, rfl, hv, hb1⟩
  obtain ⟨n3, a3, c3, L3, rfl, i3⟩ := hv
  have x1 := (unhide XX1).all hb1
  have x2 := (unhide XX2).all hb1
  have hu := (unhide HU).below hb1
  have b1 := (unhide B2).trans (hb1.mono (unhide B2).size)
  have hv : IsDy w3 (.agg #[.bool n3, .slice a3 L3.length c3, .int .i64 X1]) p1 X1 := ⟨n3, a3, c3, L3, rfl, i3⟩
  clear y0 y1 y2 B2 XX1 XX2 HV2 HU hb1 i3
  generalize L3.length = l3 at *
  generalize L2.length = l2 at *
  generalize L1.length = l1 at *
  generalize w1.heap.size = gx at *
  generalize w2.heap.size = gy at *
  have hne : gy ≠ gx := by omega
  have y0 := x1.c0; have y1 := x1.c1; have y2 := x1.c2; have f0 := x1.free 0; have f1 := x1.free 1; have f2 := x1.free 2
  have q2 : Box3 (((w3.setCell ⟨gx, 0, none⟩ (.bool n3)).setCell ⟨gx, 1, none⟩ (.slice a3 l3 c3)).setCell ⟨gx, 2, none⟩ (.int .i64 X1)) gy (.bool n2) (.slice a2 l2 c2) (.int .i64 X2) := ((x2.other hne _).other hne _).other hne _
  have v0 := q2.c0; have v1 := q2.c1; have v2 := q2.c2
  have Q1 := hide (x1.put (.bool n3) (.slice a3 l3 c3) (.int .i64 X1)); have Q2 := hide q2
  have HV := hide (hv.put3 x1 (.bool n3) (.slice a3 l3 c3) (.int .i64 X1)); have HU := hide (hu.put3 x1 (.bool n3) (.slice a3 l3 c3) (.int .i64 X1))
  have B3 := hide (below_put3 b1 hs1 (.bool n3) (.slice a3 l3 c3) (.int .i64 X1))
  clear x1 x2 q2 hv hu b1
  go_wp2_with fail
  refine (unhide K8 _ _ (unhide HU)).mono ?_
  rintro e w4 ⟨v, rfl, hu, hb1⟩
  obtain ⟨n4, a4, c4, L4, rfl, i4⟩ := hu
  have x1 := (unhide Q1).all hb1
  have x2 := (unhide Q2).all hb1
  have hv := (unhide HV).below hb1
  have b1 := (unhide B3).trans (hb1.mono (unhide B3).size)
  have hu : IsDy w4 (.agg #[.bool n4, .slice a4 L4.length c4, .int .i64 X2]) p2 X2 := ⟨n4, a4, c4, L4, rfl, i4⟩
  clear y0 y1 y2 f0 f1 f2 v0 v1 v2 B3 Q1 Q2 HV HU hb1 i4
  generalize L4.length = l4 at *
  have hne' : gx ≠ gy := by omega
  have y0 := x2.c0; have y1 := x2.c1; have y2 := x2.c2; have f0 := x2.free 0; have f1 := x2.free 1; have f2 := x2.free 2
  have bF := below_put3 b1 (show w.heap.size ≤ gy by omega) (.bool n4) (.slice a4 l4 c4) (.int .i64 X2)
  have q1 : Box3 (((w4.setCell ⟨gy, 0, none⟩ (.bool n4)).setCell ⟨gy, 1, none⟩ (.slice a4 l4 c4)).setCell ⟨gy, 2, none⟩ (.int .i64 X2)) gx (.bool n3) (.slice a3 l3 c3) (.int .i64 X1) := ((x1.other hne' _).other hne' _).other hne' _
  have F := hide (And.intro bF (And.intro q1 (And.intro (x2.put (.bool n4) (.slice a4 l4 c4) (.int .i64 X2)) (And.intro (hv.put3 x2 (.bool n4) (.slice a4 l4 c4) (.int .i64 X2)) (And.intro (hu.put3 x2 (.bool n4) (.slice a4 l4 c4) (.int .i64 X2)) (hT.all bF))))))
  clear x1 x2 hv hu b1 bF q1
  go_wp2_with fail
  refine at_world (fun W => Below w.heap.size w W ∧ Box3 W gx (.bool n3) (.slice a3 l3 c3) (.int .i64 X1) ∧ Box3 W gy (.bool n4) (.slice a4 l4 c4) (.int .i64 X2) ∧ IsDy W (.agg #[.bool n3, .slice a3 l3 c3, .int .i64 X1]) p1 X1 ∧ IsDy W (.agg #[.bool n4, .slice a4 l4 c4, .int .i64 X2]) p2 X2 ∧ Tab W) (unhide F) ?_
  clear F
  rintro W0 ⟨b0, x1, x2, hv, hu, ht⟩
  have hK : ∀ w', Below W0.heap.size W0 w' → Below W0.heap.size W0 w' ∧ w'.cell? ⟨gx, 0, none⟩ = some (.bool n3) ∧ w'.cell? ⟨gx, 1, none⟩ = some (.slice a3 l3 c3) ∧ w'.cell? ⟨gx, 2, none⟩ = some (.int .i64 X1) ∧ w'.cell? ⟨gy, 0, none⟩ = some (.bool n4) ∧ w'.cell? ⟨gy, 1, none⟩ = some (.slice a4 l4 c4) ∧ w'.cell? ⟨gy, 2, none⟩ = some (.int .i64 X2) := fun w' h => ⟨h, (x1.all h).c0, (x1.all h).c1, (x1.all h).c2, (x2.all h).c0, (x2.all h).c1, (x2.all h).c2⟩
  have HK := hide hK; have BB := hide b0; have HV := hide hv; have HU := hide hu; have HT := hide ht
  clear hK b0 x1 x2 hv hu ht
  go_region_held3 (fun w' => Below W0.heap.size W0 w' ∧ w'.cell? ⟨gx, 0, none⟩ = some (.bool n3) ∧ w'.cell? ⟨gx, 1, none⟩ = some (.slice a3 l3 c3) ∧ w'.cell? ⟨gx, 2, none⟩ = some (.int .i64 X1) ∧ w'.cell? ⟨gy, 0, none⟩ = some (.bool n4) ∧ w'.cell? ⟨gy, 1, none⟩ = some (.slice a4 l4 c4) ∧ w'.cell? ⟨gy, 2, none⟩ = some (.int .i64 X2))
    (first | exact unhide HK _ (Below.refl _ _).drew | exact unhide HK _ (by assumption) | fail "NO KEEP")
    (first | (go_at_call_of 22 (Value.agg #[.bool n4, .slice a4 l4 c4, .int .i64 X2]); refine (unhide K9 _ _ ((unhide HU).below (And.left (by assumption)))).mono ?_; rintro e wn5 ⟨q, rfl, hq, hb1⟩; have hB5 : Below W0.heap.size W0 wn5 := Below.trans (And.left (by assumption)) (hb1.mono (Below.size (And.left (by assumption)))); obtain ⟨n5, a5, c5, L5, rfl, j5⟩ := hq; have J2 := hide (show IsDy wn5 (.agg #[.bool n5, .slice a5 L5.length c5, .int .i64 Y2]) s2 Y2 from ⟨n5, a5, c5, L5, rfl, j5⟩); clear hb1 j5) | (go_at_call_of 21 (Value.agg #[.bool n3, .slice a3 l3 c3, .int .i64 X1]); refine (unhide K10 _ _ _ ((unhide HV).below (And.left (by assumption))) (unhide J2)).mono ?_; rintro e wn6 ⟨rfl, hb1⟩; have hB6 : Below W0.heap.size W0 wn6 := Below.trans (And.left (by assumption)) (hb1.mono (Below.size (And.left (by assumption)))); clear hb1) | (go_at_call_of 22 (Value.agg #[.bool n3, .slice a3 l3 c3, .int .i64 X1]); refine (unhide K11 _ _ ((unhide HV).below (And.left (by assumption)))).mono ?_; rintro e wn7 ⟨q, rfl, hq, hb1⟩; have hB7 : Below W0.heap.size W0 wn7 := Below.trans (And.left (by assumption)) (hb1.mono (Below.size (And.left (by assumption)))); obtain ⟨n7, a7, c7, L7, rfl, j7⟩ := hq; have J1 := hide (show IsDy wn7 (.agg #[.bool n7, .slice a7 L7.length c7, .int .i64 Y1]) s1 Y1 from ⟨n7, a7, c7, L7, rfl, j7⟩); clear hb1 j7) | (go_at_call_of 21 (Value.agg #[.bool n4, .slice a4 l4 c4, .int .i64 X2]); refine (unhide K12 _ _ _ ((unhide HU).below (And.left (by assumption))) (unhide J1)).mono ?_; rintro e wn8 ⟨rfl, hb1⟩; have hB8 : Below W0.heap.size W0 wn8 := Below.trans (And.left (by assumption)) (hb1.mono (Below.size (And.left (by assumption)))); clear hb1) | fail "NO ARM")
  have hW : Below W0.heap.size W0 _ := And.left (by assumption)
  go_wp2_with fail
  refine (unhide K13 _ ((unhide HT).all hW)).mono ?_
  rintro e w3 ⟨rfl, hb3⟩
  have B3 := hide (hW.trans (hb3.mono hW.size))
  clear hb3
  go_wp2_with fail
  refine (unhide K14 _).mono ?_
  rintro e wk ⟨rfl, rfl⟩
  go_wp2_with fail
  refine (unhide K15 _).mono ?_
  rintro e w4 ⟨u, rfl, hd, hb4⟩
  obtain ⟨n7, a7, c7, L7, rfl, i7⟩ := hd
  have D1 := hide (show IsDy w4 (.agg #[.bool n7, .slice a7 L7.length c7, .int .i64 Xd]) md Xd from ⟨n7, a7, c7, L7, rfl, i7⟩)
  have B4 := hide ((unhide B3).trans (hb4.mono (unhide B3).size))
  clear hb4 i7 B3
  go_wp2_with fail
  refine (unhide K5 _).mono ?_
  rintro e w5 ⟨u, rfl, hd, hb4⟩
  obtain ⟨n8, a8, c8, L8, rfl, i8⟩ := hd
  have D2 := hide (show IsDy w5 (.agg #[.bool n8, .slice a8 L8.length c8, .int .i64 X1]) m1 X1 from ⟨n8, a8, c8, L8, rfl, i8⟩)
  have B5 := hide ((unhide B4).trans (hb4.mono (unhide B4).size))
  have D1a := hide ((unhide D1).below hb4)
  clear hb4 i8 B4 D1
  go_wp2_with fail
  refine (unhide K6 _).mono ?_
  rintro e w6 ⟨u, rfl, hd, hb4⟩
  obtain ⟨n9, a9, c9, L9, rfl, i9⟩ := hd
  have D3 := hide (show IsDy w6 (.agg #[.bool n9, .slice a9 L9.length c9, .int .i64 X2]) m2 X2 from ⟨n9, a9, c9, L9, rfl, i9⟩)
  have B6 := hide ((unhide B5).trans (hb4.mono (unhide B5).size))
  have D1b := hide ((unhide D1a).below hb4)
  have D2a := hide ((unhide D2).below hb4)
  clear hb4 i9 B5 D1a D2
  go_wp2_with fail
  refine (unhide K16 _ _ _ (unhide D2a) (unhide D3)).mono ?_
  rintro e w7 ⟨u, rfl, hd, hb4⟩
  obtain ⟨nA, aA, cA, LA, rfl, iA⟩ := hd
  have D4 := hide (show IsDy w7 (.agg #[.bool nA, .slice aA LA.length cA, .int .i64 Xd]) md Xd from ⟨nA, aA, cA, LA, rfl, iA⟩)
  have B7 := hide ((unhide B6).trans (hb4.mono (unhide B6).size))
  have D1c := hide ((unhide D1b).below hb4)
  clear hb4 iA B6 D1b D2a D3
  go_wp2_with fail
  refine (sameN (unhide D1c) (unhide D4)).mono ?_
  rintro e w8 ⟨rfl, hb4⟩
  have B8 := hide ((unhide B7).trans (hb4.mono (unhide B7).size))
  clear hb4 B7 D1c D4
  go_wp2_with fail
  refine (awake5_any _ ((unhide HT).all (unhide B8))).mono ?_
  rintro e w9 ⟨rfl, hb9⟩
  have b9 := (unhide B8).trans (hb9.mono (unhide B8).size)
  clear hb9 B8
  go_wp2
  go_ret
  exact ⟨rfl, (unhide BB).trans (b9.mono (unhide BB).size)⟩

set_option maxRecDepth 20000 in
set_option maxHeartbeats 8000000 in
theorem sumExact_nmzz (a b o : Nat) (m1 m2 X1 X2 p1 p2 s2 Y2 s1 Y1 md Xd : Int) (w : World) (hT : Tab w) 
    (C1 : ∀ w', Calls Tryd.prog 17 #[.int .u64 a] w' fun r w'' => r = .returned (.bool true) ∧ w' = w'')
    (C2 : ∀ w', Calls Tryd.prog 17 #[.int .u64 b] w' fun r w'' => r = .returned (.bool true) ∧ w' = w'')
    (C3 : ∀ w', Calls Tryd.prog 18 #[.int .u64 a] w' fun r w'' => r = .returned (.bool true) ∧ w' = w'')
    (C4 : ∀ w', Calls Tryd.prog 18 #[.int .u64 b] w' fun r w'' => r = .returned (.bool true) ∧ w' = w'')
    (C5 : ∀ w', Calls Tryd.prog 19 #[.int .u64 a] w' fun r w'' => ∃ u, r = .returned u ∧ IsDy w'' u m1 X1 ∧ Below w'.heap.size w' w'')
    (C6 : ∀ w', Calls Tryd.prog 19 #[.int .u64 b] w' fun r w'' => ∃ u, r = .returned u ∧ IsDy w'' u m2 X2 ∧ Below w'.heap.size w' w'')
    (C7 : ∀ w' v, IsDy w' v m1 X1 → Calls Tryd.prog 20 #[v] w' fun r w'' => ∃ q, r = .returned q ∧ IsDy w'' q p1 X1 ∧ Below w'.heap.size w' w'')
    (C8 : ∀ w' v, IsDy w' v m2 X2 → Calls Tryd.prog 20 #[v] w' fun r w'' => ∃ q, r = .returned q ∧ IsDy w'' q p2 X2 ∧ Below w'.heap.size w' w'')
    (C9 : ∀ w' v, IsDy w' v p2 X2 → Calls Tryd.prog 22 #[v, .int .i64 1] w' fun r w'' => ∃ q, r = .returned q ∧ IsDy w'' q s2 Y2 ∧ Below w'.heap.size w' w'')
    (C10 : ∀ w' v u, IsDy w' v p1 X1 → IsDy w' u s2 Y2 → Calls Tryd.prog 21 #[v, u] w' fun r w'' => r = .returned (.int .i64 (0)) ∧ Below w'.heap.size w' w'')
    (C11 : ∀ w' v, IsDy w' v p1 X1 → Calls Tryd.prog 22 #[v, .int .i64 1] w' fun r w'' => ∃ q, r = .returned q ∧ IsDy w'' q s1 Y1 ∧ Below w'.heap.size w' w'')
    (C12 : ∀ w' v u, IsDy w' v p2 X2 → IsDy w' u s1 Y1 → Calls Tryd.prog 21 #[v, u] w' fun r w'' => r = .returned (.int .i64 (0)) ∧ Below w'.heap.size w' w'')
    (C13 : ∀ w', Tab w' → Calls Tryd.prog 12 #[.int .u64 a, .int .u64 b] w' fun r w'' => r = .returned (.tuple #[.int .u64 o, .int .u8 0]) ∧ Below w'.heap.size w' w'')
    (C14 : ∀ w', Calls Tryd.prog 17 #[.int .u64 o] w' fun r w'' => r = .returned (.bool true) ∧ w' = w'')
    (C15 : ∀ w', Calls Tryd.prog 19 #[.int .u64 o] w' fun r w'' => ∃ u, r = .returned u ∧ IsDy w'' u md Xd ∧ Below w'.heap.size w' w'')
    (C16 : ∀ w' v u, IsDy w' v m1 X1 → IsDy w' u m2 X2 → Calls Tryd.prog 24 #[v, u] w' fun r w'' => ∃ q, r = .returned q ∧ IsDy w'' q md Xd ∧ Below w'.heap.size w' w'') :
    Calls Tryd.prog 7 #[.int .u64 a, .int .u64 b] w fun r w' => r = .returned (.bool true) ∧ Below w.heap.size w w' := by
  have K1 := hide C1
  have K2 := hide C2
  have K3 := hide C3
  have K4 := hide C4
  have K5 := hide C5
  have K6 := hide C6
  have K7 := hide C7
  have K8 := hide C8
  have K9 := hide C9
  have K10 := hide C10
  have K11 := hide C11
  have K12 := hide C12
  have K13 := hide C13
  have K14 := hide C14
  have K15 := hide C15
  have K16 := hide C16
  clear C1 C2 C3 C4 C5 C6 C7 C8 C9 C10 C11 C12 C13 C14 C15 C16
  go_enter Tryd.func7, Tryd.ntmps7
  go_wp2_with fail
  refine (unhide K1 _).mono ?_
  rintro e wk ⟨rfl, rfl⟩
  go_wp2_with fail
  refine (unhide K2 _).mono ?_
  rintro e wk ⟨rfl, rfl⟩
  go_wp2_with fail
  refine (unhide K3 _).mono ?_
  rintro e wk ⟨rfl, rfl⟩
  go_wp2_with fail
  refine (unhide K4 _).mono ?_
  rintro e wk ⟨rfl, rfl⟩
  go_wp2_with fail
  refine (unhide K5 _).mono ?_
  rintro e w1 ⟨v, rfl, hv, hb1⟩
  obtain ⟨n1, a1, c1, L1, rfl, i1⟩ := hv
  have hb1a : Below w1.heap.size w1 (w1.alloc (.cells #[.bool n1, .slice a1 L1.length c1, .int .i64 X1] 38)) := (Below.refl _ _).alloc (Nat.le_refl _) _
  have HV := hide ((show IsDy w1 (.agg #[.bool n1, .slice a1 L1.length c1, .int .i64 X1]) m1 X1 from ⟨n1, a1, c1, L1, rfl, i1⟩).below hb1a)
  have X := hide (Box3.new w1 (.bool n1) (.slice a1 L1.length c1) (.int .i64 X1))
  have B1 := hide (hb1.trans (hb1a.mono hb1.size))
  have hs1 := hb1.size
  clear i1 hb1 hb1a
  go_wp2_with fail
  refine (unhide K6 _).mono ?_
  rintro e w2 ⟨v, rfl, hv, hb1⟩
  obtain ⟨n2, a2, c2, L2, rfl, i2⟩ := hv
  have hb1a : Below w2.heap.size w2 (w2.alloc (.cells #[.bool n2, .slice a2 L2.length c2, .int .i64 X2] 38)) := (Below.refl _ _).alloc (Nat.le_refl _) _
  have HU := hide ((show IsDy w2 (.agg #[.bool n2, .slice a2 L2.length c2, .int .i64 X2]) m2 X2 from ⟨n2, a2, c2, L2, rfl, i2⟩).below hb1a)
  have HV2 := hide (((unhide HV).below hb1).below hb1a)
  have x1 := ((unhide X).all hb1).all hb1a
  have x2 := Box3.new w2 (.bool n2) (.slice a2 L2.length c2) (.int .i64 X2)
  have hs2 : w1.heap.size < w2.heap.size := ((unhide X).all hb1).lt
  have B2 := hide ((unhide B1).trans ((hb1.trans (hb1a.mono hb1.size)).mono (unhide B1).size))
  have XX1 := hide x1; have XX2 := hide x2
  clear i2 hb1 hb1a B1 HV X x1 x2
  go_wp2_with fail
  refine (unhide K3 _).mono ?_
  rintro e wk ⟨rfl, rfl⟩
  have x1 := unhide XX1
  have y0 := x1.c0; have y1 := x1.c1; have y2 := x1.c2
  clear x1
  go_wp2_with fail
  refine (unhide K7 _ _ (unhide HV2)).mono ?_
  rintro e w3 ⟨v, rfl, hv, hb1⟩
  obtain ⟨n3, a3, c3, L3, rfl, i3⟩ := hv
  have x1 := (unhide XX1).all hb1
  have x2 := (unhide XX2).all hb1
  have hu := (unhide HU).below hb1
  have b1 := (unhide B2).trans (hb1.mono (unhide B2).size)
  have hv : IsDy w3 (.agg #[.bool n3, .slice a3 L3.length c3, .int .i64 X1]) p1 X1 := ⟨n3, a3, c3, L3, rfl, i3⟩
  clear y0 y1 y2 B2 XX1 XX2 HV2 HU hb1 i3
  generalize L3.length = l3 at *
  generalize L2.length = l2 at *
  generalize L1.length = l1 at *
  generalize w1.heap.size = gx at *
  generalize w2.heap.size = gy at *
  have hne : gy ≠ gx := by omega
  have y0 := x1.c0; have y1 := x1.c1; have y2 := x1.c2; have f0 := x1.free 0; have f1 := x1.free 1; have f2 := x1.free 2
  have q2 : Box3 (((w3.setCell ⟨gx, 0, none⟩ (.bool n3)).setCell ⟨gx, 1, none⟩ (.slice a3 l3 c3)).setCell ⟨gx, 2, none⟩ (.int .i64 X1)) gy (.bool n2) (.slice a2 l2 c2) (.int .i64 X2) := ((x2.other hne _).other hne _).other hne _
  have v0 := q2.c0; have v1 := q2.c1; have v2 := q2.c2
  have Q1 := hide (x1.put (.bool n3) (.slice a3 l3 c3) (.int .i64 X1)); have Q2 := hide q2
  have HV := hide (hv.put3 x1 (.bool n3) (.slice a3 l3 c3) (.int .i64 X1)); have HU := hide (hu.put3 x1 (.bool n3) (.slice a3 l3 c3) (.int .i64 X1))
  have B3 := hide (below_put3 b1 hs1 (.bool n3) (.slice a3 l3 c3) (.int .i64 X1))
  clear x1 x2 q2 hv hu b1
  go_wp2_with fail
  refine (unhide K8 _ _ (unhide HU)).mono ?_
  rintro e w4 ⟨v, rfl, hu, hb1⟩
  obtain ⟨n4, a4, c4, L4, rfl, i4⟩ := hu
  have x1 := (unhide Q1).all hb1
  have x2 := (unhide Q2).all hb1
  have hv := (unhide HV).below hb1
  have b1 := (unhide B3).trans (hb1.mono (unhide B3).size)
  have hu : IsDy w4 (.agg #[.bool n4, .slice a4 L4.length c4, .int .i64 X2]) p2 X2 := ⟨n4, a4, c4, L4, rfl, i4⟩
  clear y0 y1 y2 f0 f1 f2 v0 v1 v2 B3 Q1 Q2 HV HU hb1 i4
  generalize L4.length = l4 at *
  have hne' : gx ≠ gy := by omega
  have y0 := x2.c0; have y1 := x2.c1; have y2 := x2.c2; have f0 := x2.free 0; have f1 := x2.free 1; have f2 := x2.free 2
  have bF := below_put3 b1 (show w.heap.size ≤ gy by omega) (.bool n4) (.slice a4 l4 c4) (.int .i64 X2)
  have q1 : Box3 (((w4.setCell ⟨gy, 0, none⟩ (.bool n4)).setCell ⟨gy, 1, none⟩ (.slice a4 l4 c4)).setCell ⟨gy, 2, none⟩ (.int .i64 X2)) gx (.bool n3) (.slice a3 l3 c3) (.int .i64 X1) := ((x1.other hne' _).other hne' _).other hne' _
  have F := hide (And.intro bF (And.intro q1 (And.intro (x2.put (.bool n4) (.slice a4 l4 c4) (.int .i64 X2)) (And.intro (hv.put3 x2 (.bool n4) (.slice a4 l4 c4) (.int .i64 X2)) (And.intro (hu.put3 x2 (.bool n4) (.slice a4 l4 c4) (.int .i64 X2)) (hT.all bF))))))
  clear x1 x2 hv hu b1 bF q1
  go_wp2_with fail
  refine at_world (fun W => Below w.heap.size w W ∧ Box3 W gx (.bool n3) (.slice a3 l3 c3) (.int .i64 X1) ∧ Box3 W gy (.bool n4) (.slice a4 l4 c4) (.int .i64 X2) ∧ IsDy W (.agg #[.bool n3, .slice a3 l3 c3, .int .i64 X1]) p1 X1 ∧ IsDy W (.agg #[.bool n4, .slice a4 l4 c4, .int .i64 X2]) p2 X2 ∧ Tab W) (unhide F) ?_
  clear F
  rintro W0 ⟨b0, x1, x2, hv, hu, ht⟩
  have hK : ∀ w', Below W0.heap.size W0 w' → Below W0.heap.size W0 w' ∧ w'.cell? ⟨gx, 0, none⟩ = some (.bool n3) ∧ w'.cell? ⟨gx, 1, none⟩ = some (.slice a3 l3 c3) ∧ w'.cell? ⟨gx, 2, none⟩ = some (.int .i64 X1) ∧ w'.cell? ⟨gy, 0, none⟩ = some (.bool n4) ∧ w'.cell? ⟨gy, 1, none⟩ = some (.slice a4 l4 c4) ∧ w'.cell? ⟨gy, 2, none⟩ = some (.int .i64 X2) := fun w' h => ⟨h, (x1.all h).c0, (x1.all h).c1, (x1.all h).c2, (x2.all h).c0, (x2.all h).c1, (x2.all h).c2⟩
  have HK := hide hK; have BB := hide b0; have HV := hide hv; have HU := hide hu; have HT := hide ht
  clear hK b0 x1 x2 hv hu ht
  go_region_held3 (fun w' => Below W0.heap.size W0 w' ∧ w'.cell? ⟨gx, 0, none⟩ = some (.bool n3) ∧ w'.cell? ⟨gx, 1, none⟩ = some (.slice a3 l3 c3) ∧ w'.cell? ⟨gx, 2, none⟩ = some (.int .i64 X1) ∧ w'.cell? ⟨gy, 0, none⟩ = some (.bool n4) ∧ w'.cell? ⟨gy, 1, none⟩ = some (.slice a4 l4 c4) ∧ w'.cell? ⟨gy, 2, none⟩ = some (.int .i64 X2))
    (first | exact unhide HK _ (Below.refl _ _).drew | exact unhide HK _ (by assumption) | fail "NO KEEP")
    (first | (go_at_call_of 22 (Value.agg #[.bool n4, .slice a4 l4 c4, .int .i64 X2]); refine (unhide K9 _ _ ((unhide HU).below (And.left (by assumption)))).mono ?_; rintro e wn5 ⟨q, rfl, hq, hb1⟩; have hB5 : Below W0.heap.size W0 wn5 := Below.trans (And.left (by assumption)) (hb1.mono (Below.size (And.left (by assumption)))); obtain ⟨n5, a5, c5, L5, rfl, j5⟩ := hq; have J2 := hide (show IsDy wn5 (.agg #[.bool n5, .slice a5 L5.length c5, .int .i64 Y2]) s2 Y2 from ⟨n5, a5, c5, L5, rfl, j5⟩); clear hb1 j5) | (go_at_call_of 21 (Value.agg #[.bool n3, .slice a3 l3 c3, .int .i64 X1]); refine (unhide K10 _ _ _ ((unhide HV).below (And.left (by assumption))) (unhide J2)).mono ?_; rintro e wn6 ⟨rfl, hb1⟩; have hB6 : Below W0.heap.size W0 wn6 := Below.trans (And.left (by assumption)) (hb1.mono (Below.size (And.left (by assumption)))); clear hb1) | (go_at_call_of 22 (Value.agg #[.bool n3, .slice a3 l3 c3, .int .i64 X1]); refine (unhide K11 _ _ ((unhide HV).below (And.left (by assumption)))).mono ?_; rintro e wn7 ⟨q, rfl, hq, hb1⟩; have hB7 : Below W0.heap.size W0 wn7 := Below.trans (And.left (by assumption)) (hb1.mono (Below.size (And.left (by assumption)))); obtain ⟨n7, a7, c7, L7, rfl, j7⟩ := hq; have J1 := hide (show IsDy wn7 (.agg #[.bool n7, .slice a7 L7.length c7, .int .i64 Y1]) s1 Y1 from ⟨n7, a7, c7, L7, rfl, j7⟩); clear hb1 j7) | (go_at_call_of 21 (Value.agg #[.bool n4, .slice a4 l4 c4, .int .i64 X2]); refine (unhide K12 _ _ _ ((unhide HU).below (And.left (by assumption))) (unhide J1)).mono ?_; rintro e wn8 ⟨rfl, hb1⟩; have hB8 : Below W0.heap.size W0 wn8 := Below.trans (And.left (by assumption)) (hb1.mono (Below.size (And.left (by assumption)))); clear hb1) | fail "NO ARM")
  have hW : Below W0.heap.size W0 _ := And.left (by assumption)
  go_wp2_with fail
  refine (unhide K13 _ ((unhide HT).all hW)).mono ?_
  rintro e w3 ⟨rfl, hb3⟩
  have B3 := hide (hW.trans (hb3.mono hW.size))
  clear hb3
  go_wp2_with fail
  refine (unhide K14 _).mono ?_
  rintro e wk ⟨rfl, rfl⟩
  go_wp2_with fail
  refine (unhide K15 _).mono ?_
  rintro e w4 ⟨u, rfl, hd, hb4⟩
  obtain ⟨n7, a7, c7, L7, rfl, i7⟩ := hd
  have D1 := hide (show IsDy w4 (.agg #[.bool n7, .slice a7 L7.length c7, .int .i64 Xd]) md Xd from ⟨n7, a7, c7, L7, rfl, i7⟩)
  have B4 := hide ((unhide B3).trans (hb4.mono (unhide B3).size))
  clear hb4 i7 B3
  go_wp2_with fail
  refine (unhide K5 _).mono ?_
  rintro e w5 ⟨u, rfl, hd, hb4⟩
  obtain ⟨n8, a8, c8, L8, rfl, i8⟩ := hd
  have D2 := hide (show IsDy w5 (.agg #[.bool n8, .slice a8 L8.length c8, .int .i64 X1]) m1 X1 from ⟨n8, a8, c8, L8, rfl, i8⟩)
  have B5 := hide ((unhide B4).trans (hb4.mono (unhide B4).size))
  have D1a := hide ((unhide D1).below hb4)
  clear hb4 i8 B4 D1
  go_wp2_with fail
  refine (unhide K6 _).mono ?_
  rintro e w6 ⟨u, rfl, hd, hb4⟩
  obtain ⟨n9, a9, c9, L9, rfl, i9⟩ := hd
  have D3 := hide (show IsDy w6 (.agg #[.bool n9, .slice a9 L9.length c9, .int .i64 X2]) m2 X2 from ⟨n9, a9, c9, L9, rfl, i9⟩)
  have B6 := hide ((unhide B5).trans (hb4.mono (unhide B5).size))
  have D1b := hide ((unhide D1a).below hb4)
  have D2a := hide ((unhide D2).below hb4)
  clear hb4 i9 B5 D1a D2
  go_wp2_with fail
  refine (unhide K16 _ _ _ (unhide D2a) (unhide D3)).mono ?_
  rintro e w7 ⟨u, rfl, hd, hb4⟩
  obtain ⟨nA, aA, cA, LA, rfl, iA⟩ := hd
  have D4 := hide (show IsDy w7 (.agg #[.bool nA, .slice aA LA.length cA, .int .i64 Xd]) md Xd from ⟨nA, aA, cA, LA, rfl, iA⟩)
  have B7 := hide ((unhide B6).trans (hb4.mono (unhide B6).size))
  have D1c := hide ((unhide D1b).below hb4)
  clear hb4 iA B6 D1b D2a D3
  go_wp2_with fail
  refine (sameN (unhide D1c) (unhide D4)).mono ?_
  rintro e w8 ⟨rfl, hb4⟩
  have B8 := hide ((unhide B7).trans (hb4.mono (unhide B7).size))
  clear hb4 B7 D1c D4
  go_wp2_with fail
  refine (awake5_any _ ((unhide HT).all (unhide B8))).mono ?_
  rintro e w9 ⟨rfl, hb9⟩
  have b9 := (unhide B8).trans (hb9.mono (unhide B8).size)
  clear hb9 B8
  go_wp2
  go_ret
  exact ⟨rfl, (unhide BB).trans (b9.mono (unhide BB).size)⟩

end Go.Proofs.YtenckfflpdgmnaaDoor

/- The law SumExact, put together. -/
namespace Go.Proofs.YtenckfflpdgmnaaDoor
open Go.RowKit

theorem cmpI_three (u v : Int) : (cmpI u v = 1 ∧ v < u) ∨ (cmpI u v = -1 ∧ u ≤ v) ∨ (cmpI u v = 0 ∧ u ≤ v) := by
  unfold cmpI
  split
  · right; left; exact ⟨rfl, by omega⟩
  · split
    · left; exact ⟨rfl, by omega⟩
    · right; right; exact ⟨rfl, by omega⟩

theorem twice_Lvl {z : Int} (h : z.natAbs < 2 ^ 2098) : Lvl (-1074) 2099 z ∧ Lvl (-1074) 2099 (z * 2) := by
  have h2 := p2098
  have h3 := Nat.two_pow_pos 2098
  generalize (2 : Nat) ^ 2098 = P at *
  exact ⟨⟨by rw [← h2]; omega, by decide, by decide, by decide⟩, ⟨by rw [← h2]; omega, by decide, by decide, by decide⟩⟩

theorem sumExact_walk (a b : Nat) (w : World) (ha : a < 18446744073709551616) (hb : b < 18446744073709551616) (hT : Tab w) :
    Calls Tryd.prog 7 #[.int .u64 a, .int .u64 b] w fun r w' => r = .returned (.bool true) ∧ Below w.heap.size w w' := by
  have C1 := fun w' => rfinite_any a w' ha
  have C2 := fun w' => rfinite_any b w' hb
  have C3 := fun w' => rneg4_any a w' ha
  have C4 := fun w' => rneg4_any b w' hb
  cases fa : fFin a with
  | false => rw [fa] at C1; exact sumExact_e1 a b w hT C1
  | true =>
  cases fb : fFin b with
  | false => rw [fa] at C1; rw [fb] at C2; exact sumExact_e2 a b w hT C1 C2
  | true =>
  rw [fa] at C1
  rw [fb] at C2
  by_cases hs : fS a = fS b
  · obtain ⟨d1, d2⟩ := fZ_level a ha fa
    obtain ⟨d3, d4⟩ := fZ_level b hb fb
    have C5 := fun w' => rvalue_any a w' ha
    have C6 := fun w' => rvalue_any b w' hb
    rw [← d1, ← d2] at C5
    rw [← d3, ← d4] at C6
    have la := fZ_lt a fa
    have lb := fZ_lt b fb
    have ex := exact5 a b ha hb fa fb hs
    have CU := fun w' t => ssub_any a b w' ha hb t
    have ho := aV_lt a (fN b) ha (fN_lt b hb)
    have CF := fun w' => rfinite_any (aV a (fN b)) w' ho
    have CV := fun w' => rvalue_any (aV a (fN b)) w' ho
    have hlv := fZ_level (aV a (fN b)) ho
    have lvd : Lvl (-1074) 2099 (fZ a) := (twice_Lvl la).1
    have lvb : Lvl (-1074) 2099 (fZ b) := (twice_Lvl lb).1
    have CD : ∀ w' v u, IsDy w' v (oM (fZ a)) (oE (fZ a) (-1074)) → IsDy w' u (oM (fZ b)) (oE (fZ b) (-1074)) → _ := fun w' v u hv hu => rsubN hv hu lvd lvb
    rw [← hs] at C4
    have ua : fZ a = if fS a = true then -(rv (fR a) : Int) else (rv (fR a) : Int) := rfl
    have ub : fZ b = if fS b = true then -(rv (fR b) : Int) else (rv (fR b) : Int) := rfl
    rw [← hs] at ub
    generalize aV a (fN b) = o at *
    cases hsa : fS a with
    | false =>
      rw [hsa] at C3 C4
      rw [hsa, if_neg (by decide)] at ua ub
      have KS2 := fun w' v (h : IsDy w' v (oM (fZ b)) (oE (fZ b) (-1074))) => rscaleN h lvb
      have KS1 := fun w' v (h : IsDy w' v (oM (fZ a)) (oE (fZ a) (-1074))) => rscaleN h lvd
      have KC1 := fun w' v u (hv : IsDy w' v (oM (fZ a)) (oE (fZ a) (-1074))) (hu : IsDy w' u (oM (fZ b * 2)) (oE (fZ b * 2) (-1074))) => rcmpN hv hu lvd (twice_Lvl lb).2
      have KC2 := fun w' v u (hv : IsDy w' v (oM (fZ b)) (oE (fZ b) (-1074))) (hu : IsDy w' u (oM (fZ a * 2)) (oE (fZ a * 2) (-1074))) => rcmpN hv hu lvb (twice_Lvl la).2
      rcases cmpI_three (fZ a) (fZ b * 2) with ⟨k, g1⟩ | ⟨k, g1⟩ | ⟨k, g1⟩
      · rw [k] at KC1
        exact sumExact_pg1 a b _ _ _ _ _ _ w hT C1 C2 C3 C4 C5 C6 KS2 KC1
      all_goals
        rw [k] at KC1
        rcases cmpI_three (fZ b) (fZ a * 2) with ⟨l, g2⟩ | ⟨l, g2⟩ | ⟨l, g2⟩
        · rw [l] at KC2
          first | exact sumExact_pg2m a b _ _ _ _ _ _ _ _ w hT C1 C2 C3 C4 C5 C6 KS2 KC1 KS1 KC2 | exact sumExact_pg2z a b _ _ _ _ _ _ _ _ w hT C1 C2 C3 C4 C5 C6 KS2 KC1 KS1 KC2
        all_goals
          rw [l] at KC2
          obtain ⟨x1, x2, x3⟩ := ex (by omega) (by omega)
          obtain ⟨h1, h2⟩ := hlv x2
          rw [x2] at CF
          rw [← h1, ← h2, x3] at CV
          rw [x1] at CU
          first
            | exact sumExact_pmmm a b _ _ _ _ _ _ _ _ _ _ _ w hT C1 C2 C3 C4 C5 C6 KS2 KC1 KS1 KC2 CU CF CV CD
            | exact sumExact_pmmz a b _ _ _ _ _ _ _ _ _ _ _ w hT C1 C2 C3 C4 C5 C6 KS2 KC1 KS1 KC2 CU CF CV CD
            | exact sumExact_pmzm a b _ _ _ _ _ _ _ _ _ _ _ w hT C1 C2 C3 C4 C5 C6 KS2 KC1 KS1 KC2 CU CF CV CD
            | exact sumExact_pmzz a b _ _ _ _ _ _ _ _ _ _ _ w hT C1 C2 C3 C4 C5 C6 KS2 KC1 KS1 KC2 CU CF CV CD
    | true =>
      rw [hsa] at C3 C4
      rw [hsa, if_pos rfl] at ua ub
      have na := (oM_neg (fZ a)).2 (-1074)
      have nb := (oM_neg (fZ b)).2 (-1074)
      have la' : (- fZ a).natAbs < 2 ^ 2098 := by rw [Int.natAbs_neg]; exact la
      have lb' : (- fZ b).natAbs < 2 ^ 2098 := by rw [Int.natAbs_neg]; exact lb
      have N1 := fun w' v (h : IsDy w' v (oM (fZ a)) (oE (fZ a) (-1074))) => rnegN h lvd
      have N2 := fun w' v (h : IsDy w' v (oM (fZ b)) (oE (fZ b) (-1074))) => rnegN h lvb
      have KS2 := fun w' v (h : IsDy w' v (oM (- fZ b)) (oE (- fZ b) (-1074))) => rscaleN h (twice_Lvl lb').1
      have KS1 := fun w' v (h : IsDy w' v (oM (- fZ a)) (oE (- fZ a) (-1074))) => rscaleN h (twice_Lvl la').1
      have KC1 := fun w' v u (hv : IsDy w' v (oM (- fZ a)) (oE (- fZ a) (-1074))) (hu : IsDy w' u (oM (- fZ b * 2)) (oE (- fZ b * 2) (-1074))) => rcmpN hv hu (twice_Lvl la').1 (twice_Lvl lb').2
      have KC2 := fun w' v u (hv : IsDy w' v (oM (- fZ b)) (oE (- fZ b) (-1074))) (hu : IsDy w' u (oM (- fZ a * 2)) (oE (- fZ a * 2) (-1074))) => rcmpN hv hu (twice_Lvl lb').1 (twice_Lvl la').2
      rw [na] at N1 KS1 KC1
      rw [nb] at N2 KS2 KC2
      rcases cmpI_three (- fZ a) (- fZ b * 2) with ⟨k, g1⟩ | ⟨k, g1⟩ | ⟨k, g1⟩
      · rw [k] at KC1
        exact sumExact_ng1 a b _ _ _ _ _ _ _ _ w hT C1 C2 C3 C4 C5 C6 N1 N2 KS2 KC1
      all_goals
        rw [k] at KC1
        rcases cmpI_three (- fZ b) (- fZ a * 2) with ⟨l, g2⟩ | ⟨l, g2⟩ | ⟨l, g2⟩
        · rw [l] at KC2
          first | exact sumExact_ng2m a b _ _ _ _ _ _ _ _ _ _ w hT C1 C2 C3 C4 C5 C6 N1 N2 KS2 KC1 KS1 KC2 | exact sumExact_ng2z a b _ _ _ _ _ _ _ _ _ _ w hT C1 C2 C3 C4 C5 C6 N1 N2 KS2 KC1 KS1 KC2
        all_goals
          rw [l] at KC2
          obtain ⟨x1, x2, x3⟩ := ex (by omega) (by omega)
          obtain ⟨h1, h2⟩ := hlv x2
          rw [x2] at CF
          rw [← h1, ← h2, x3] at CV
          rw [x1] at CU
          first
            | exact sumExact_nmmm a b _ _ _ _ _ _ _ _ _ _ _ _ _ w hT C1 C2 C3 C4 C5 C6 N1 N2 KS2 KC1 KS1 KC2 CU CF CV CD
            | exact sumExact_nmmz a b _ _ _ _ _ _ _ _ _ _ _ _ _ w hT C1 C2 C3 C4 C5 C6 N1 N2 KS2 KC1 KS1 KC2 CU CF CV CD
            | exact sumExact_nmzm a b _ _ _ _ _ _ _ _ _ _ _ _ _ w hT C1 C2 C3 C4 C5 C6 N1 N2 KS2 KC1 KS1 KC2 CU CF CV CD
            | exact sumExact_nmzz a b _ _ _ _ _ _ _ _ _ _ _ _ _ w hT C1 C2 C3 C4 C5 C6 N1 N2 KS2 KC1 KS1 KC2 CU CF CV CD
  · have e : fS b = !fS a := by cases h1 : fS a <;> cases h2 : fS b <;> simp_all
    rw [e] at C4
    exact sumExact_e3 a b _ w hT C1 C2 C3 C4

end Go.Proofs.YtenckfflpdgmnaaDoor

/- A struct of a sign and limbs that came in, opened. -/
namespace Go.Proofs.YtenckfflpdgmnaaDoor
open Go.ChangeShapes Go.WideShapes Go.ChangeAt Go.RowKit Go.Joins

theorem Tryd.own : ownKnob Tryd.prog.godebug = none := by kernel_rfl
theorem Tryd.laidOut : laidOutB Tryd.prog = true := by kernel_rfl
theorem Tryd.cellsW : Tryd.prog.cellsOf 36 = 2 := by kernel_rfl
theorem Tryd.cellsU : Tryd.prog.cellsOf 74 = 1 := by kernel_rfl
theorem Tryd.bytesU : Tryd.prog.bytesOf 74 = 4 := by kernel_rfl

theorem bounds_of_u32 {x : Int} (h : (Lit.int .u32 x).wf = true) : 0 ≤ x ∧ x < 4294967296 := by
  simp [Lit.wf, IntKind.min, IntKind.max, IntKind.signed, IntKind.bits] at h
  omega

theorem limbs_of_ints {W : World} {a : Addr} {len cap : Nat} {zs : List Int} (hl : len ≤ cap) (hz : zs.length = cap) (hc : ∀ i, i < zs.length → W.cell? (a.add i) = some (.int .u32 (zs.getD i 0))) (hw : ∀ n ∈ zs, (Lit.int .u32 n).wf = true) :
    LimbsAt W (some a) cap ((zs.take len).map Int.toNat) ∧ ((zs.take len).map Int.toNat).length = len := by
  have hlen : ((zs.take len).map Int.toNat).length = len := by simp; omega
  refine ⟨⟨by omega, ?_, ?_⟩, hlen⟩
  · intro x hx
    obtain ⟨y, hy, rfl⟩ := List.mem_map.1 hx
    have := bounds_of_u32 (hw y (List.mem_of_mem_take hy))
    omega
  · rcases Nat.eq_zero_or_pos len with rfl | hp
    · left; simp
    · right
      obtain ⟨b, off, spot⟩ := a
      have h0 := hc 0 (by omega)
      have hspot : spot = none := by simpa [Addr.add] using World.cell?_spot h0
      subst hspot
      have hb : b < W.heap.size := by
        have := World.block_lt_of_cell? W _ h0
        simpa [Addr.add] using this
      refine ⟨b, off, rfl, hb, fun i hi => ?_⟩
      have h1 := hc i (by omega)
      have h2 : (0 : Int) ≤ zs[i]'(by omega) := (bounds_of_u32 (hw _ (List.getElem_mem _))).1
      have h3 : (⟨b, off, none⟩ : Addr).add i = ⟨b, off + i, none⟩ := by simp [Addr.add]
      rw [h3] at h1
      rw [h1]
      have e : ((zs.take len).map Int.toNat)[i]?.getD 0 = (zs[i]'(by omega)).toNat := by
        rw [List.getElem?_map, List.getElem?_take, if_pos (by omega), List.getElem?_eq_getElem (by omega)]; rfl
      rw [e, List.getD_eq_getElem?_getD, List.getElem?_eq_getElem (by omega)]
      simp only [Option.getD_some, Option.some.injEq, Value.int.injEq, true_and]
      omega

set_option maxRecDepth 20000 in
/-- A number that came in: its sign, its limbs, where they lie; by the row's own reach they are not too many. -/
theorem open_whole {H : Type} {enc : TypeId × Value → H} {W : World} {base : Nat} {v : Value} {d : DataW H} {p : List MemPlace} (hval : Value.okWide Tryd.prog W .any base 36 v) (h : DataW.Trod enc Tryd.prog W 0 (fun _ => true) true 36 v d p)
    (hs : ∀ n ∈ d.weights Tryd.prog 36, n ≤ reachBytes) :
    ∃ neg ao cap L, v = .agg #[.bool neg, .slice ao L.length cap] ∧ LimbsAt W ao cap L ∧ L.length ≤ 35184372087808 := by
  obtain ⟨c0, c1, y0, y1, m, rfl, rfl, rfl, hy0, hy1⟩ := open_agg2 Tryd.underlying36 (by kernel_rfl) Tryd.cellsW hval h
  obtain ⟨neg, e0, rfl⟩ := DataW.trod_bool Tryd.underlying4 hy0
  simp at e0
  subst e0
  rcases open_ints Tryd.underlying34 Tryd.underlying74 Tryd.cellsU hy1 with ⟨hcs, _⟩ | ⟨a, len, cap, zs, hcs, _, hl, hm, hz, rfl, hcell, hwz⟩
  · simp at hcs
    subst hcs
    exact ⟨neg, none, 0, [], rfl, LimbsAt.nil _ _ _, by simp⟩
  · simp at hcs
    subst hcs
    obtain ⟨h1, h2⟩ := limbs_of_ints hl (by simpa using hz) hcell hwz
    refine ⟨neg, some a, cap, _, by rw [h2], h1, ?_⟩
    have hk := hs ((zs.length) * 4) (by
      simp only [DataW.weights, Tryd.underlying36, DataW.weightsEach, List.map, Tryd.underlying34, List.nil_append, List.append_nil, List.mem_cons, Tryd.bytesU, lits, List.length_map, List.length_take, List.length_drop]
      left
      omega)
    simp only [reachBytes] at hk
    rw [h2]
    have : zs.length = cap := by simpa using hz
    omega

end Go.Proofs.YtenckfflpdgmnaaDoor

/- The bounds of an int or int64 that came in. -/
namespace Go.Proofs.YtenckfflpdgmnaaDoor

theorem bounds_of_i64 {x : Int} (h : (Lit.int .i64 x).wf = true) : -9223372036854775808 ≤ x ∧ x ≤ 9223372036854775807 := by
  simp [Lit.wf, IntKind.min, IntKind.max, IntKind.signed, IntKind.bits] at h
  omega

end Go.Proofs.YtenckfflpdgmnaaDoor

/- A dyadic number that came in, opened; the library's table, as the row lays it. -/
namespace Go.Proofs.YtenckfflpdgmnaaDoor
open Go.ChangeShapes Go.WideShapes Go.ChangeAt Go.RowKit Go.Joins

theorem Tryd.cellsD : Tryd.prog.cellsOf 38 = 3 := by kernel_rfl
theorem Tryd.cellsI : Tryd.prog.cellsOf 3 = 1 := by kernel_rfl
theorem Tryd.cellsB : Tryd.prog.cellsOf 4 = 1 := by kernel_rfl
theorem Tryd.cellsS : Tryd.prog.cellsOf 34 = 1 := by kernel_rfl

theorem Tryd.tabName : Tryd.prog.globalNamed "math/bits.deBruijn32tab" = some 1 := by kernel_rfl
theorem Tryd.tabType : (Tryd.prog.globals[1]?).map (·.type) = some 103 := by kernel_rfl
theorem Tryd.tabCells : Tryd.prog.cellsOf 103 = 32 := by kernel_rfl
theorem Tryd.byteCells : Tryd.prog.cellsOf 5 = 1 := by kernel_rfl

theorem tab_getD : ∀ j, j < Lib.deBruijn32tab.length → (List.map Int.ofNat Lib.deBruijn32tab).getD j 0 = ((Lib.deBruijn32tab.getD j 0 : Nat) : Int) := by decide

/-- What the rows' list gives: the table's cells. -/
theorem tab_of_laid {W : World} (h : laidMetH Tryd.prog [("math/bits.deBruijn32tab", Rows.laid_math_bits_deBruijn32tab)] W) : Tab W := by
  have ht := Lib.tabIs_of_head (zs := Lib.deBruijn32tab.map Int.ofNat) (rest := []) Tryd.tabName Tryd.tabType Tryd.underlying103 Tryd.underlying5 Tryd.byteCells Tryd.tabCells h
  intro j hj
  have := ht.cell Tryd.tabName j (by simpa using hj)
  rw [this]
  congr 2
  exact tab_getD j hj

set_option maxRecDepth 20000 in
/-- A dyadic number that came in. -/
theorem open_dyadic {H : Type} {enc : TypeId × Value → H} {W : World} {base : Nat} {v : Value} {d : DataW H} {p : List MemPlace} (hval : Value.okWide Tryd.prog W .any base 38 v) (h : DataW.Trod enc Tryd.prog W 0 (fun _ => true) true 38 v d p)
    (hs : ∀ n ∈ d.weights Tryd.prog 38, n ≤ reachBytes) :
    ∃ (neg : Bool) (ao : Option Addr) (cap : Nat) (L : List Nat) (e : Int), v = .agg #[.bool neg, .slice ao L.length cap, .int .i64 e] ∧ LimbsAt W ao cap L ∧ L.length ≤ 35184372087808 ∧ (-9223372036854775808 ≤ e ∧ e ≤ 9223372036854775807) := by
  obtain ⟨cs, rfl, hsz⟩ := okWide_struct Tryd.underlying38 hval
  obtain ⟨c0, c1, c2, rfl⟩ := array3 (hsz.trans Tryd.cellsD)
  obtain ⟨fuel, hf⟩ := h
  obtain ⟨y0, y1, n, hx, _, h0, h1⟩ := trod_struct2 Tryd.underlying38 hf
  simp only [Prod.mk.injEq] at hx
  obtain ⟨rfl, rfl⟩ := hx
  have h0' : DataW.trod enc Tryd.prog W 0 (fun _ => true) true n 36 [c0, c1] = some y0 := by simpa [Value.cells, Tryd.cellsW] using h0
  have h1' : DataW.trod enc Tryd.prog W 0 (fun _ => true) true n 3 [c2] = some y1 := by simpa [Value.cells, Tryd.cellsI] using h1
  clear h0 h1
  obtain ⟨e, e1, e2, we⟩ := DataW.trod_int Tryd.underlying3 h1'
  simp at e1
  subst e1
  obtain ⟨z0, z1, m, hz, _, g0, g1⟩ := trod_struct2 Tryd.underlying36 h0'
  subst hz
  have g0' : DataW.trod enc Tryd.prog W 0 (fun _ => true) true m 4 [c0] = some z0 := by simpa [Tryd.cellsB] using g0
  have g1' : DataW.trod enc Tryd.prog W 0 (fun _ => true) true m 34 [c1] = some z1 := by simpa [Tryd.cellsS] using g1
  clear g0 g1
  obtain ⟨neg, e0, _⟩ := DataW.trod_bool Tryd.underlying4 g0'
  simp at e0
  subst e0
  have be := bounds_of_i64 we
  rcases open_ints Tryd.underlying34 Tryd.underlying74 Tryd.cellsU g1' with ⟨hcs, _⟩ | ⟨a, len, cap, zs, hcs, _, hl, hm, hzz, rfl, hcell, hwz⟩
  · simp at hcs
    subst hcs
    exact ⟨neg, none, 0, [], e, rfl, LimbsAt.nil _ _ _, by simp, be⟩
  · simp at hcs
    subst hcs
    obtain ⟨l1, l2⟩ := limbs_of_ints hl (by simpa using hzz) hcell hwz
    refine ⟨neg, some a, cap, _, e, by rw [l2], l1, ?_, be⟩
    have hk := hs ((zs.length) * 4) (by
      simp only [DataW.weights, Tryd.underlying38, Tryd.underlying36, DataW.weightsEach, List.map, Tryd.underlying34, List.append_nil, List.mem_cons, List.mem_append, Tryd.bytesU, lits, List.length_map, List.length_take, List.length_drop]
      refine .inl (.inr (.inl ?_))
      have : zs.length = cap := by simpa using hzz
      omega)
    simp only [reachBytes] at hk
    rw [l2]
    have : zs.length = cap := by simpa using hzz
    omega

end Go.Proofs.YtenckfflpdgmnaaDoor

