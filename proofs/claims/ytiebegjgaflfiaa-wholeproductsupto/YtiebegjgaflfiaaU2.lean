/- Contract of the reference's Mul. -/
import Derived.Test.YtiebegjgaflfiaaU1
import Derived.Test.YtiebegjgaflfiaaR5
import Derived.Test.YtiebegjgaflfiaaS4
namespace Go.Proofs.Ytiebegjgaflfiaa
open Go.RowKit
attribute [local go_sem ↓] Go.wp_at_zero Go.wp_at_succ

theorem own_zero (W : World) : (W.alloc (.cells #[.int .u32 0] 48)).ownsRow W.heap.size 48 1 (.slice (some ⟨W.heap.size, 0, none⟩) 1 1) 1 [.int .u32 0] :=
  ⟨by simp, .inr ⟨W.heap.size, 1, #[.int .u32 0], rfl, Nat.le_refl _, heap_alloc_new W _, Nat.le_refl _, by simp [maxLen], by simp, by simp⟩⟩

theorem val_drop_succ (B : List Nat) (k : Nat) (h : k < B.length) : val (B.drop k) = B[k]?.getD 0 + 4294967296 * val (B.drop (k + 1)) := by
  rw [List.drop_eq_getElem_cons h]
  simp [val, h]

theorem mul_sign (na nb : Bool) (A B S : List Nat) (h : val S = val A * val B) : sval (na != nb) S = sval na A * sval nb B := by
  unfold sval
  rw [h]
  cases na <;> cases nb <;> simp [Int.natCast_mul, Int.neg_mul, Int.mul_neg]

set_option maxHeartbeats 2000000 in
theorem refMul_any (na nb : Bool) (ao bo : Option Addr) (ca cb : Nat) (A B : List Nat) (w : World) (hA : LimbsAt w ao ca A) (hB : LimbsAt w bo cb B) (la : A.length ≤ 1048576) (lb : B.length ≤ 1048576) :
    Calls Try.prog 23 #[.agg #[.bool na, .slice ao A.length ca], .agg #[.bool nb, .slice bo B.length cb]] w fun e w' => ∃ v, e = .returned v ∧ IsNum 0 w' v (sval na A * sval nb B) ∧ Below w.heap.size w w' := by
  obtain ⟨i0, hi, hz0, hz1, hz2⟩ := info_parts Try.info48
  have HZ := hide (fun S => mul_sign na nb A B S)
  generalize sval na A * sval nb B = z at *
  go_enter Try.func23, Try.ntmps23
  go_wp2
  go_loopw [5, 6, 7] (fun v i _ wr => ∃ (m b off cap : Nat) (S : List Nat), m ≤ B.length ∧ i = .int .i64 ((m : Int) - 1) ∧ v = .slice (some ⟨b, off, none⟩) S.length cap ∧ Hid (LimbsAt wr (some ⟨b, off, none⟩) cap S) ∧ Box2 wr w.heap.size (.bool na) (.slice ao A.length ca) ∧ Box2 wr (w.heap.size + 1) (.bool nb) (.slice bo B.length cb) ∧ Box2 wr (w.heap.size + 2) (.bool false) (.slice none 0 0) ∧ S.length + 2 * m ≤ A.length + 1 + 2 * B.length ∧ Hid (val S = val A * val (B.drop m)) ∧ Below w.heap.size w wr)
    (fun _ i _ _ => (intOf i + 1).toNat)
  case atStart =>
    refine ⟨B.length, w.heap.size + 3, 0, 0, [], Nat.le_refl _, rfl, rfl, LimbsAt.nil _ _ _, (((Box2.new _ _ _).old _).old _).old _, ?_, ?_, by simp, by unfold Hid; simp [val], ?_⟩
    · have := ((Box2.new (w.alloc (.cells #[.bool na, .slice ao A.length ca] 24)) (.bool nb) (.slice bo B.length cb)).old (.cells #[.bool false, .slice none 0 0] 24)).old (.cells #[] 48)
      simpa using this
    · have := (Box2.new ((w.alloc (.cells #[.bool na, .slice ao A.length ca] 24)).alloc (.cells #[.bool nb, .slice bo B.length cb] 24)) (.bool false) (.slice none 0 0)).old (.cells #[] 48)
      simpa using this
    · exact ((((Below.refl _ _).alloc (Nat.le_refl _) _).alloc (by simp) _).alloc (by simp; omega) _).alloc (by simp; omega) _
  case round =>
    obtain ⟨m, b, off, cap, S, hm, rfl, rfl, hS, x0, x1, x2, hlen, hv, hbel⟩ := hrel
    by_cases h0 : m = 0
    · subst h0
      have hz := unhide HZ S (by have := hv.out; simpa using this)
      have Z := hide hz
      have X2 := hide x2; have BEL := hide hbel
      have p0 := x0.c0; have q0 := x1.c0
      have zlt := x2.lt
      clear hz HZ hv x0 x1 x2 hbel hA hB
      go_wp2_with fail
      have hcall := made_any 0 (na != nb) (some ⟨b, off, none⟩) cap S wr (unhide hS) (NewAt.zero (unhide hS)) (by omega)
      rw [unhide Z] at hcall
      have hbool : (!na == nb) = (na != nb) := by cases na <;> cases nb <;> rfl
      rw [hbool]
      refine hcall.mono ?_
      rintro e w2 ⟨v, rfl, ⟨n2, a2, c2, L2, rfl, i1⟩, hb2⟩
      have X4 := (unhide X2).below hb2 (unhide X2).lt
      have y0 := X4.c0; have y1 := X4.c1; have f0 := X4.free 0; have f1 := X4.free 1
      have HB2 := hide ((unhide BEL).trans (hb2.mono (by omega)))
      have I1 := hide i1; have XX4 := hide X4
      clear hcall X4 hb2 i1
      go_wp2
      refine bodyPost_ret (v := .agg #[.bool n2, .slice a2 L2.length c2]) (by simp [results, Try.results23, go_sem, y0, y1]) rfl ⟨.agg #[.bool n2, .slice a2 L2.length c2], rfl, ?_, ?_⟩
      · have i := unhide I1
        exact ⟨n2, a2, c2, L2, rfl, i.1.box (unhide XX4) _ _, i.2.1, i.2.2.1, i.2.2.2.1, i.2.2.2.2.1, by have := i.2.2.2.2.2; omega⟩
      · exact ((unhide HB2).setCell (by simp; omega) _).setCell (by simp; omega) _
    · obtain ⟨k, rfl⟩ : ∃ k, m = k + 1 := ⟨m - 1, by omega⟩
      rw [show (((k + 1 : Nat) : Int) - 1) = (k : Int) by omega]
      clear h0 HZ
      obtain ⟨x, hx⟩ : ∃ x, B[k]?.getD 0 = x := ⟨_, rfl⟩
      have bx : x < 4294967296 := by rw [← hx]; exact hB.lt _
      obtain ⟨b2, o2, hbo, hb2', hc2⟩ := hB.ne (by omega)
      have cb2 := hc2 k (by omega)
      rw [hx] at cb2
      have hstep : ∀ L1 L2 : List Nat, val L1 = val A * x → val L2 = val (0 :: S) + val L1 → val L2 = val A * val (B.drop k) := by
        intro L1 L2 e1 e2
        have := hv.out
        rw [e2, e1, val_drop_succ B k (by omega), hx, Nat.mul_add]
        simp only [val]
        rw [this, Nat.zero_add, ← Nat.mul_assoc, ← Nat.mul_assoc, Nat.mul_comm 4294967296 (val A)]
        omega
      have hnews : ∀ j u, (S.map limbV)[j]? = some u → (wr.alloc (.cells #[.int .u32 0] 48)).cell? ((⟨b, off, none⟩ : Addr).add j) = some u := by
        intro j u hu
        rw [List.getElem?_map] at hu
        have hj : j < S.length := by
          rcases Nat.lt_or_ge j S.length with e | e
          · exact e
          · rw [List.getElem?_eq_none e] at hu; simp at hu
        obtain ⟨b', off', e0, hb', hcl⟩ := (unhide hS).ne (by omega)
        simp only [Option.some.injEq, Addr.mk.injEq, and_true] at e0
        obtain ⟨rfl, rfl⟩ := e0
        have e3 : (⟨b, off, none⟩ : Addr).add j = ⟨b, off + j, none⟩ := by simp [Addr.add]
        rw [e3, ((Below.refl wr.heap.size wr).alloc (Nat.le_refl _) _).cell (p := ⟨b, off + j, none⟩) hb', hcl j hj]
        rw [List.getElem?_eq_getElem hj] at hu ⊢
        simpa [limbV] using hu
      have hone : ∀ u ∈ S.map limbV, u.oneCell' = true := by
        intro u hu
        obtain ⟨y, _, rfl⟩ := List.mem_map.1 hu
        rfl
      have hfit : Fits (0 :: S) := by
        intro y hy
        rcases List.mem_cons.1 hy with rfl | hy
        · decide
        · exact (unhide hS).2.1 y hy
      have HSTEP := hide hstep; have HNEWS := hide hnews; have HONE := hide hone; have HFIT := hide hfit; have HCB := hide cb2
      have X0 := hide x0; have X1 := hide x1; have X2 := hide x2; have BEL := hide hbel; have HLEN := hide hlen
      have z0 := x0.lt; have z1 := x1.lt; have z2 := x2.lt
      have ls : S.length ≤ 4000000 := by omega
      have hk0 : (0 : Int) ≤ (k : Int) := by omega
      have hkI : (k : Int) < (B.length : Int) := by omega
      subst hbo
      have HA := hide hA; have HB := hide hb2'
      clear hstep hnews hone hfit cb2 x0 x1 x2 hbel hlen hv hx hc2 hA hB hS hb2'
      go_wp2_with (at_builtin; refine wpList_append_own _ rfl _ _ 22 rfl wr.heap.size 48 i0 (.int .u32 0) 1 4 Try.underlying22 hi hz0 hz1 hz2 rfl (by decide) _ 1 [.int .u32 0] rfl (own_zero wr) ⟨b, off, none⟩ S.length cap (S.map limbV) rfl (by simp) (unhide HNEWS) (unhide HONE) (by unfold maxLen; omega) (by omega) (by simp) ?_; intro v' w1 hown' hgrow _; have ho2 := hide hown'; have hgr := hide hgrow; clear hown' hgrow)
      obtain ⟨ao', cap', e1, e2, e3, e4⟩ := own_limbs (S := 0 :: S) (unhide ho2) (unhide HFIT)
      subst e1
      have hbl : Below wr.heap.size wr w1 := ((Below.refl _ _).alloc (Nat.le_refl _) _).grown (unhide hgr) (by simp) (fun g hg => by have e : some wr.heap.size = some g := hg; cases e; exact Nat.le_refl _)
      have x0 := (unhide X0).below hbl (unhide X0).lt
      have x1 := (unhide X1).below hbl (unhide X1).lt
      have x2 := (unhide X2).below hbl (unhide X2).lt
      have b1 : Below w.heap.size w w1 := (unhide BEL).trans (hbl.mono (unhide BEL).size)
      have hcb : w1.cell? ⟨b2, o2 + k, none⟩ = some (.int .u32 (x : Int)) := by rw [b1.cell (p := ⟨b2, o2 + k, none⟩) (unhide HB)]; exact unhide HCB
      have hb2w : b2 < w1.heap.size := Nat.lt_of_lt_of_le (unhide HB) b1.size
      have hlS : (0 :: S).length ≤ 35184372088830 := by simp; omega
      have hSA := hide ((unhide HA).below b1)
      have E2 := hide e2; have B1 := hide b1; have Y0 := hide x0; have Y1 := hide x1; have Y2 := hide x2
      have hK : ∀ w', Below w1.heap.size w1 w' → Below w1.heap.size w1 w' ∧ w'.cell? ⟨w.heap.size, 1, none⟩ = some (.slice ao A.length ca) ∧ w'.cell? ⟨w.heap.size + 1, 1, none⟩ = some (.slice (some ⟨b2, o2, none⟩) B.length cb) ∧ w'.cell? ⟨b2, o2 + k, none⟩ = some (.int .u32 (x : Int)) := fun w' h =>
        ⟨h, (x0.below h x0.lt).c1, (x1.below h x1.lt).c1, (h.cell (p := ⟨b2, o2 + k, none⟩) hb2w).trans hcb⟩
      have HK := hide hK
      clear hK x0 x1 x2 b1 hcb e2 e3 e4 ho2 hgr hbl X0 X1 X2 BEL HCB HNEWS HONE HFIT HA HB
      refine at_world (fun W => W = w1) rfl ?_
      rintro W0 e0
      subst e0
      go_region_held3 (fun w' => Below W0.heap.size W0 w' ∧ w'.cell? ⟨w.heap.size, 1, none⟩ = some (.slice ao A.length ca) ∧ w'.cell? ⟨w.heap.size + 1, 1, none⟩ = some (.slice (some ⟨b2, o2, none⟩) B.length cb) ∧ w'.cell? ⟨b2, o2 + k, none⟩ = some (.int .u32 (x : Int)))
        (first | exact unhide HK _ (Below.refl _ _).drew | exact unhide HK _ (by assumption))
        (first | (go_at_call 42; refine (single_any ao ca A x _ ((unhide hSA).below (And.left (by assumption))) bx (by omega)).mono ?_; rintro e w3 ⟨ao3, c3, L3, rfl, g1, g2, g3, g4, hb1⟩; have hB1 : Below W0.heap.size W0 w3 := Below.trans (And.left (by assumption)) (hb1.mono (Below.size (And.left (by assumption)))); have G1 := hide g1; have G3 := hide g3; have G4 := hide g4; have l3 : L3.length ≤ 35184372088830 := (by omega); clear hb1 g1 g2 g3 g4) | (go_at_call 36; refine (plus_any ao' ao3 cap' c3 (0 :: S) L3 _ ((unhide E2).below hB1) (unhide G1) hlS l3).mono ?_; rintro e w4 ⟨ao4, c4, L4, rfl, g1, g2, g3, g4, hb1⟩; have hB2 : Below W0.heap.size W0 w4 := hB1.trans (hb1.mono hB1.size); have J1 := hide g1; have J3 := hide g3; have J4 := hide g4; clear hb1 g1 g2 g3 g4))
      obtain ⟨b5, o5, e5, hb5, hc5⟩ := (unhide J1).ne (by have := unhide J3; omega)
      subst e5
      have HST := hide (unhide HSTEP L3 L4 (unhide G4) (unhide J4))
      have hl4 : L4.length + 2 * k ≤ A.length + 1 + 2 * B.length := by
        have h1 := unhide J3; have h2 := unhide G3; have h3 := unhide HLEN
        simp only [List.length_cons] at h1
        omega
      clear hc5 HSTEP
      go_wp2
      go_roundw
      case rel => exact ⟨k, b5, o5, c4, L4, by omega, by go_num, rfl, unhide J1, (unhide Y0).below hB2 (unhide Y0).lt, (unhide Y1).below hB2 (unhide Y1).lt, (unhide Y2).below hB2 (unhide Y2).lt, hl4, unhide HST, (unhide B1).trans (hB2.mono (unhide B1).size)⟩
      case measure => simp [intOf]

end Go.Proofs.Ytiebegjgaflfiaa
