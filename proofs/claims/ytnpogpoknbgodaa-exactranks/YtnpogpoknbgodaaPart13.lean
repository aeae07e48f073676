/- Part 13 of the texts. -/
import Derived.Test.YtnpogpoknbgodaaPart12
import Derived.Test.YtnpogpoknbgodaaPart11
import Derived.Test.YtnpogpoknbgodaaPart10
import Derived.Test.YtnpogpoknbgodaaPart09
import Derived.Test.YtnpogpoknbgodaaPart08
import Derived.Maps.Own
import Derived.Maps.OwnOps
import Derived.Maps.OwnSet
import Derived.DeepKeys4
/- Contract of the reference's Mul. -/
namespace Go.Proofs.Ytnpogpoknbgodaa
open Go.RowKit
attribute [local go_sem ↓] Go.wp_at_zero Go.wp_at_succ

theorem own_zero (W : World) : (W.alloc (.cells #[.int .u32 0] 60)).ownsRow W.heap.size 60 1 (.slice (some ⟨W.heap.size, 0, none⟩) 1 1) 1 [.int .u32 0] :=
  ⟨by simp, .inr ⟨W.heap.size, 1, #[.int .u32 0], rfl, Nat.le_refl _, heap_alloc_new W _, Nat.le_refl _, by simp [maxLen], by simp, by simp⟩⟩

theorem val_drop_succ (B : List Nat) (k : Nat) (h : k < B.length) : val (B.drop k) = B[k]?.getD 0 + 4294967296 * val (B.drop (k + 1)) := by
  rw [List.drop_eq_getElem_cons h]
  simp [val, h]

theorem mul_sign (na nb : Bool) (A B S : List Nat) (h : val S = val A * val B) : sval (na != nb) S = sval na A * sval nb B := by
  unfold sval
  rw [h]
  cases na <;> cases nb <;> simp [Int.natCast_mul, Int.neg_mul, Int.mul_neg]

set_option maxHeartbeats 2000000 in
theorem refMul_any (na nb : Bool) (ao bo : Option Addr) (ca cb : Nat) (A B : List Nat) (w : World) (hA : LimbsAt w ao ca A) (hB : LimbsAt w bo cb B) (la : A.length ≤ 1048576) (lb : B.length ≤ 1048576) :
    Calls Try.prog 11 #[.agg #[.bool na, .slice ao A.length ca], .agg #[.bool nb, .slice bo B.length cb]] w fun e w' => ∃ v, e = .returned v ∧ IsNum 0 w' v (sval na A * sval nb B) ∧ Below w.heap.size w w' := by
  obtain ⟨i0, hi, hz0, hz1, hz2⟩ := info_parts Try.info60
  have HZ := hide (fun S => mul_sign na nb A B S)
  generalize sval na A * sval nb B = z at *
  go_enter Try.func11, Try.ntmps11
  go_wp2
  go_loopw [5, 6, 7] (fun v i _ wr => ∃ (m b off cap : Nat) (S : List Nat), m ≤ B.length ∧ i = .int .i64 ((m : Int) - 1) ∧ v = .slice (some ⟨b, off, none⟩) S.length cap ∧ Hid (LimbsAt wr (some ⟨b, off, none⟩) cap S) ∧ Box2 wr w.heap.size (.bool na) (.slice ao A.length ca) ∧ Box2 wr (w.heap.size + 1) (.bool nb) (.slice bo B.length cb) ∧ Box2 wr (w.heap.size + 2) (.bool false) (.slice none 0 0) ∧ S.length + 2 * m ≤ A.length + 1 + 2 * B.length ∧ Hid (val S = val A * val (B.drop m)) ∧ Below w.heap.size w wr)
    (fun _ i _ _ => (intOf i + 1).toNat)
  case atStart =>
    refine ⟨B.length, w.heap.size + 3, 0, 0, [], Nat.le_refl _, rfl, rfl, LimbsAt.nil _ _ _, (((Box2.new _ _ _).old _).old _).old _, ?_, ?_, by simp, by unfold Hid; simp [val], ?_⟩
    · have := ((Box2.new (w.alloc (.cells #[.bool na, .slice ao A.length ca] 35)) (.bool nb) (.slice bo B.length cb)).old (.cells #[.bool false, .slice none 0 0] 35)).old (.cells #[] 60)
      simpa using this
    · have := (Box2.new ((w.alloc (.cells #[.bool na, .slice ao A.length ca] 35)).alloc (.cells #[.bool nb, .slice bo B.length cb] 35)) (.bool false) (.slice none 0 0)).old (.cells #[] 60)
      simpa using this
    · exact ((((Below.refl _ _).alloc (Nat.le_refl _) _).alloc (by simp) _).alloc (by simp; omega) _).alloc (by simp; omega) _
  case round =>
    obtain ⟨m, b, off, cap, S, hm, rfl, rfl, hS, x0, x1, x2, hlen, hv, hbel⟩ := hrel
    by_cases h0 : m = 0
    · subst h0
      have hz := unhide HZ S (by have := hv.out; simpa using this)
      have Z := hide hz
      have X2 := hide x2; have BEL := hide hbel
      have p0 := x0.c0; have q0 := x1.c0
      have zlt := x2.lt
      clear hz HZ hv x0 x1 x2 hbel hA hB
      go_wp2_with fail
      have hcall := made_any 0 (na != nb) (some ⟨b, off, none⟩) cap S wr (unhide hS) (NewAt.zero (unhide hS)) (by omega)
      rw [unhide Z] at hcall
      have hbool : (!na == nb) = (na != nb) := by cases na <;> cases nb <;> rfl
      rw [hbool]
      refine hcall.mono ?_
      rintro e w2 ⟨v, rfl, ⟨n2, a2, c2, L2, rfl, i1⟩, hb2⟩
      have X4 := (unhide X2).below hb2 (unhide X2).lt
      have y0 := X4.c0; have y1 := X4.c1; have f0 := X4.free 0; have f1 := X4.free 1
      have HB2 := hide ((unhide BEL).trans (hb2.mono (by omega)))
      have I1 := hide i1; have XX4 := hide X4
      clear hcall X4 hb2 i1
      go_wp2
      refine bodyPost_ret (v := .agg #[.bool n2, .slice a2 L2.length c2]) (by simp [results, Try.results11, go_sem, y0, y1]) rfl ⟨.agg #[.bool n2, .slice a2 L2.length c2], rfl, ?_, ?_⟩
      · have i := unhide I1
        exact ⟨n2, a2, c2, L2, rfl, i.1.box (unhide XX4) _ _, i.2.1, i.2.2.1, i.2.2.2.1, i.2.2.2.2.1, by have := i.2.2.2.2.2; omega⟩
      · exact ((unhide HB2).setCell (by simp; omega) _).setCell (by simp; omega) _
    · obtain ⟨k, rfl⟩ : ∃ k, m = k + 1 := ⟨m - 1, by omega⟩
      rw [show (((k + 1 : Nat) : Int) - 1) = (k : Int) by omega]
      clear h0 HZ
      obtain ⟨x, hx⟩ : ∃ x, B[k]?.getD 0 = x := ⟨_, rfl⟩
      have bx : x < 4294967296 := by rw [← hx]; exact hB.lt _
      obtain ⟨b2, o2, hbo, hb2', hc2⟩ := hB.ne (by omega)
      have cb2 := hc2 k (by omega)
      rw [hx] at cb2
      have hstep : ∀ L1 L2 : List Nat, val L1 = val A * x → val L2 = val (0 :: S) + val L1 → val L2 = val A * val (B.drop k) := by
        intro L1 L2 e1 e2
        have := hv.out
        rw [e2, e1, val_drop_succ B k (by omega), hx, Nat.mul_add]
        simp only [val]
        rw [this, Nat.zero_add, ← Nat.mul_assoc, ← Nat.mul_assoc, Nat.mul_comm 4294967296 (val A)]
        omega
      have hnews : ∀ j u, (S.map limbV)[j]? = some u → (wr.alloc (.cells #[.int .u32 0] 60)).cell? ((⟨b, off, none⟩ : Addr).add j) = some u := by
        intro j u hu
        rw [List.getElem?_map] at hu
        have hj : j < S.length := by
          rcases Nat.lt_or_ge j S.length with e | e
          · exact e
          · rw [List.getElem?_eq_none e] at hu; simp at hu
        obtain ⟨b', off', e0, hb', hcl⟩ := (unhide hS).ne (by omega)
        simp only [Option.some.injEq, Addr.mk.injEq, and_true] at e0
        obtain ⟨rfl, rfl⟩ := e0
        have e3 : (⟨b, off, none⟩ : Addr).add j = ⟨b, off + j, none⟩ := by simp [Addr.add]
        rw [e3, ((Below.refl wr.heap.size wr).alloc (Nat.le_refl _) _).cell (p := ⟨b, off + j, none⟩) hb', hcl j hj]
        rw [List.getElem?_eq_getElem hj] at hu ⊢
        simpa [limbV] using hu
      have hone : ∀ u ∈ S.map limbV, u.oneCell' = true := by
        intro u hu
        obtain ⟨y, _, rfl⟩ := List.mem_map.1 hu
        rfl
      have hfit : Fits (0 :: S) := by
        intro y hy
        rcases List.mem_cons.1 hy with rfl | hy
        · decide
        · exact (unhide hS).2.1 y hy
      have HSTEP := hide hstep; have HNEWS := hide hnews; have HONE := hide hone; have HFIT := hide hfit; have HCB := hide cb2
      have X0 := hide x0; have X1 := hide x1; have X2 := hide x2; have BEL := hide hbel; have HLEN := hide hlen
      have z0 := x0.lt; have z1 := x1.lt; have z2 := x2.lt
      have ls : S.length ≤ 4000000 := by omega
      have hk0 : (0 : Int) ≤ (k : Int) := by omega
      have hkI : (k : Int) < (B.length : Int) := by omega
      subst hbo
      have HA := hide hA; have HB := hide hb2'
      clear hstep hnews hone hfit cb2 x0 x1 x2 hbel hlen hv hx hc2 hA hB hS hb2'
      go_wp2_with (at_builtin; refine wpList_append_own _ rfl _ _ 33 rfl wr.heap.size 60 i0 (.int .u32 0) 1 4 Try.underlying33 hi hz0 hz1 hz2 rfl (by decide) _ 1 [.int .u32 0] rfl (own_zero wr) ⟨b, off, none⟩ S.length cap (S.map limbV) rfl (by simp) (unhide HNEWS) (unhide HONE) (by unfold maxLen; omega) (by omega) (by simp) ?_; intro v' w1 hown' hgrow _; have ho2 := hide hown'; have hgr := hide hgrow; clear hown' hgrow)
      obtain ⟨ao', cap', e1, e2, e3, e4⟩ := own_limbs (S := 0 :: S) (unhide ho2) (unhide HFIT)
      subst e1
      have hbl : Below wr.heap.size wr w1 := ((Below.refl _ _).alloc (Nat.le_refl _) _).grown (unhide hgr) (by simp) (fun g hg => by have e : some wr.heap.size = some g := hg; cases e; exact Nat.le_refl _)
      have x0 := (unhide X0).below hbl (unhide X0).lt
      have x1 := (unhide X1).below hbl (unhide X1).lt
      have x2 := (unhide X2).below hbl (unhide X2).lt
      have b1 : Below w.heap.size w w1 := (unhide BEL).trans (hbl.mono (unhide BEL).size)
      have hcb : w1.cell? ⟨b2, o2 + k, none⟩ = some (.int .u32 (x : Int)) := by rw [b1.cell (p := ⟨b2, o2 + k, none⟩) (unhide HB)]; exact unhide HCB
      have hb2w : b2 < w1.heap.size := Nat.lt_of_lt_of_le (unhide HB) b1.size
      have hlS : (0 :: S).length ≤ 35184372088830 := by simp; omega
      have hSA := hide ((unhide HA).below b1)
      have E2 := hide e2; have B1 := hide b1; have Y0 := hide x0; have Y1 := hide x1; have Y2 := hide x2
      have hK : ∀ w', Below w1.heap.size w1 w' → Below w1.heap.size w1 w' ∧ w'.cell? ⟨w.heap.size, 1, none⟩ = some (.slice ao A.length ca) ∧ w'.cell? ⟨w.heap.size + 1, 1, none⟩ = some (.slice (some ⟨b2, o2, none⟩) B.length cb) ∧ w'.cell? ⟨b2, o2 + k, none⟩ = some (.int .u32 (x : Int)) := fun w' h =>
        ⟨h, (x0.below h x0.lt).c1, (x1.below h x1.lt).c1, (h.cell (p := ⟨b2, o2 + k, none⟩) hb2w).trans hcb⟩
      have HK := hide hK
      clear hK x0 x1 x2 b1 hcb e2 e3 e4 ho2 hgr hbl X0 X1 X2 BEL HCB HNEWS HONE HFIT HA HB
      refine at_world (fun W => W = w1) rfl ?_
      rintro W0 e0
      subst e0
      go_region_held3 (fun w' => Below W0.heap.size W0 w' ∧ w'.cell? ⟨w.heap.size, 1, none⟩ = some (.slice ao A.length ca) ∧ w'.cell? ⟨w.heap.size + 1, 1, none⟩ = some (.slice (some ⟨b2, o2, none⟩) B.length cb) ∧ w'.cell? ⟨b2, o2 + k, none⟩ = some (.int .u32 (x : Int)))
        (first | exact unhide HK _ (Below.refl _ _).drew | exact unhide HK _ (by assumption))
        (first | (go_at_call 29; refine (single_any ao ca A x _ ((unhide hSA).below (And.left (by assumption))) bx (by omega)).mono ?_; rintro e w3 ⟨ao3, c3, L3, rfl, g1, g2, g3, g4, hb1⟩; have hB1 : Below W0.heap.size W0 w3 := Below.trans (And.left (by assumption)) (hb1.mono (Below.size (And.left (by assumption)))); have G1 := hide g1; have G3 := hide g3; have G4 := hide g4; have l3 : L3.length ≤ 35184372088830 := (by omega); clear hb1 g1 g2 g3 g4) | (go_at_call 26; refine (plus_any ao' ao3 cap' c3 (0 :: S) L3 _ ((unhide E2).below hB1) (unhide G1) hlS l3).mono ?_; rintro e w4 ⟨ao4, c4, L4, rfl, g1, g2, g3, g4, hb1⟩; have hB2 : Below W0.heap.size W0 w4 := hB1.trans (hb1.mono hB1.size); have J1 := hide g1; have J3 := hide g3; have J4 := hide g4; clear hb1 g1 g2 g3 g4))
      obtain ⟨b5, o5, e5, hb5, hc5⟩ := (unhide J1).ne (by have := unhide J3; omega)
      subst e5
      have HST := hide (unhide HSTEP L3 L4 (unhide G4) (unhide J4))
      have hl4 : L4.length + 2 * k ≤ A.length + 1 + 2 * B.length := by
        have h1 := unhide J3; have h2 := unhide G3; have h3 := unhide HLEN
        simp only [List.length_cons] at h1
        omega
      clear hc5 HSTEP
      go_wp2
      go_roundw
      case rel => exact ⟨k, b5, o5, c4, L4, by omega, by go_num, rfl, unhide J1, (unhide Y0).below hB2 (unhide Y0).lt, (unhide Y1).below hB2 (unhide Y1).lt, (unhide Y2).below hB2 (unhide Y2).lt, hl4, unhide HST, (unhide B1).trans (hB2.mono (unhide B1).size)⟩
      case measure => simp [intOf]

end Go.Proofs.Ytnpogpoknbgodaa

/- Determinants by the first row, as the reference reckons them. -/
namespace Go.Proofs.Ytnpogpoknbgodaa
open Go.RowKit

/-- The first k products, with turning signs. -/
def exP (r : Nat → Int) (cs : List Nat) (D : List Nat → Int) : Nat → Int
  | 0 => 0
  | k + 1 => exP r cs D k + (if k % 2 = 1 then -(r (cs[k]?.getD 0) * D (cs.eraseIdx k)) else r (cs[k]?.getD 0) * D (cs.eraseIdx k))

theorem exP_cons (r : Nat → Int) (c : Nat) (cs : List Nat) (D : List Nat → Int) : ∀ k, exP r (c :: cs) D (k + 1) = r c * D cs - exP r cs (fun l => D (c :: l)) k
  | 0 => by simp [exP]
  | k + 1 => by
    have ih := exP_cons r c cs D k
    rw [exP, ih]
    conv => rhs; rw [exP]
    simp only [List.getElem?_cons_succ, List.eraseIdx_cons_succ]
    rcases Nat.mod_two_eq_zero_or_one k with h | h
    · rw [if_pos (by omega), if_neg (by omega)]; omega
    · rw [if_neg (by omega), if_pos (by omega)]; omega
theorem exP_exD (r : Nat → Int) : ∀ (cs : List Nat) (D : List Nat → Int), exP r cs D cs.length = exD r cs D
  | [], D => rfl
  | c :: cs, D => by
    rw [List.length_cons, exP_cons, exP_exD r cs]; rfl

theorem exP_bound (r : Nat → Int) (cs : List Nat) (D : List Nat → Int) (Bd N : Nat) (k : Nat) (hr : ∀ j, j < k → (r (cs[j]?.getD 0)).natAbs ≤ Bd) (hD : ∀ j, j < k → (D (cs.eraseIdx j)).natAbs ≤ N) : (exP r cs D k).natAbs ≤ k * (Bd * N) := by
  induction k with
  | zero => simp [exP]
  | succ k ih =>
    have h1 := ih (fun c hc => hr c (by omega)) (fun c hc => hD c (by omega))
    have h2 : (r (cs[k]?.getD 0) * D (cs.eraseIdx k)).natAbs ≤ Bd * N := by
      rw [Int.natAbs_mul]; exact Nat.mul_le_mul (hr k (by omega)) (hD k (by omega))
    unfold exP
    rw [Nat.succ_mul]
    generalize r (cs[k]?.getD 0) * D (cs.eraseIdx k) = t at *
    split <;> omega

theorem refMul_num {B B' : Nat} {w : World} {v u : Value} {x y : Int} (hv : IsNum B w v x) (hu : IsNum B' w u y) (hx : x.natAbs < TOP) (hy : y.natAbs < TOP) :
    Calls Try.prog 11 #[v, u] w fun e w' => ∃ r, e = .returned r ∧ IsNum 0 w' r (x * y) ∧ Below w.heap.size w w' := by
  obtain ⟨na, ao, ca, A, rfl, a1, a2, a3, a4⟩ := hv.right hx
  obtain ⟨nb, bo, cb, C, rfl, b1, b2, b3, b4⟩ := hu.right hy
  have := refMul_any na nb ao bo ca cb A C w a1 b1 (by omega) (by omega)
  rwa [a3, b3] at this
theorem refAdd_num0 {B B' : Nat} {w : World} {v u : Value} {x y : Int} (hv : IsNum B w v x) (hu : IsNum B' w u y) (hx : x.natAbs < TOP) (hy : y.natAbs < TOP) :
    Calls Try.prog 10 #[v, u] w fun e w' => ∃ r, e = .returned r ∧ IsNum 0 w' r (x + y) ∧ Below w.heap.size w w' := by
  obtain ⟨na, ao, ca, A, rfl, a1, a2, a3, a4⟩ := hv.right hx
  obtain ⟨nb, bo, cb, C, rfl, b1, b2, b3, b4⟩ := hu.right hy
  have := refAdd_any na nb ao bo ca cb A C w a1 b1 (by omega) (by omega)
  rw [a3, b3] at this
  exact this.mono fun e w' ⟨r, h1, h2, h3⟩ => ⟨r, h1, (h2.num (by omega)).mono (Nat.zero_le _), h3⟩
theorem refNeg_num {B : Nat} {w : World} {v : Value} {x : Int} (hv : IsNum B w v x) (hx : x.natAbs < TOP) :
    Calls Try.prog 51 #[v] w fun e w' => ∃ r, e = .returned r ∧ IsNum 0 w' r (- x) ∧ Below w.heap.size w w' := by
  obtain ⟨na, ao, ca, A, rfl, a1, a2, a3, a4⟩ := hv.right hx
  have := refNeg_any na ao ca A w a1 (by omega)
  rw [a3] at this
  exact this.mono fun e w' ⟨r, h1, h2, h3⟩ => ⟨r, h1, h2.num (by omega), h3⟩

theorem natI_len (I : List Int) : (natI I).length = I.length := by simp [natI]

/-- Places that are some of the first n. -/
def InI (n : Nat) (I : List Int) : Prop := ∀ x ∈ I, 0 ≤ x ∧ x < n
theorem InI.nat {n : Nat} {I : List Int} (h : InI n I) : ∀ c ∈ natI I, c < n := by
  intro c hc
  obtain ⟨x, hx, rfl⟩ := List.mem_map.1 hc
  have := h x hx
  omega
theorem InI.at {n : Nat} {I : List Int} (h : InI n I) {j : Nat} (hj : j < I.length) : ∃ q : Nat, atI I j = (q : Int) ∧ q < n ∧ (natI I)[j]?.getD 0 = q := by
  have h1 := h _ (List.getElem_mem hj)
  refine ⟨(I[j]).toNat, ?_, by omega, ?_⟩
  · unfold atI; rw [List.getElem?_eq_getElem hj]; simp; omega
  · unfold natI; rw [List.getElem?_map, List.getElem?_eq_getElem hj]; rfl
theorem natI_erase (I : List Int) (k : Nat) : natI (I.eraseIdx k) = (natI I).eraseIdx k := by
  unfold natI; rw [List.eraseIdx_eq_take_drop_succ, List.eraseIdx_eq_take_drop_succ, List.map_append, List.map_take, List.map_drop]
theorem InI.erase {n : Nat} {I : List Int} (h : InI n I) (k : Nat) : InI n (I.eraseIdx k) := fun x hx => h x (List.mem_of_mem_eraseIdx hx)
theorem InI.tail {n : Nat} {x : Int} {I : List Int} (h : InI n (x :: I)) : InI n I := fun y hy => h y (by simp [hy])

theorem IntsAt.tail {w : World} {b off cap : Nat} {x : Int} {I : List Int} (h : IntsAt w (some ⟨b, off, none⟩) cap (x :: I)) : IntsAt w (some ⟨b, off + 1, none⟩) (cap - 1) I := by
  obtain ⟨b', off', e, h2, h3⟩ := h.ne (by simp)
  simp only [Option.some.injEq, Addr.mk.injEq, and_true] at e
  obtain ⟨rfl, rfl⟩ := e
  refine ⟨by have := h.1; simp at this; omega, fun y hy => h.2.1 y (by simp [hy]), .inr ⟨b, off + 1, rfl, h2, fun i hi => ?_⟩⟩
  have := h3 (i + 1) (by simp; omega)
  rw [show off + 1 + i = off + (i + 1) by omega, this]
  simp
theorem IntsAt.nil (w : World) (ao : Option Addr) (cap : Nat) : IntsAt w ao cap [] := ⟨by simp, by simp, .inl rfl⟩

end Go.Proofs.Ytnpogpoknbgodaa

/- Contract of exact's Det. -/
namespace Go.Proofs.Ytnpogpoknbgodaa
open Go.RowKit
attribute [local go_sem ↓] Go.wp_at_zero Go.wp_at_succ

theorem mChk_zero {M : List Rw} (h : mChk M = 0) : shapeB M = true ∧ (M.all (fun r => r.R.all rightN)) = true ∧ (M.all (fun r => r.R.all shortN)) = true := by
  unfold mChk at h
  cases h1 : shapeB M
  · simp [h1] at h
  · cases h2 : M.all (fun r => r.R.all rightN)
    · simp [h1, h2] at h
    · cases h3 : M.all (fun r => r.R.all shortN)
      · simp [h1, h2, h3] at h
      · exact ⟨rfl, rfl, rfl⟩

theorem good_of {M : List Rw} {w : World} {ao : Option Addr} {cap : Nat} (hM : MatAt w ao cap M) (h : mChk M = 0) : GoodM M (width M) := by
  obtain ⟨h1, h2, h3⟩ := mChk_zero h
  unfold shapeB at h1
  simp only [Bool.and_eq_true, decide_eq_true_eq, List.all_eq_true] at h1
  have hrow : ∀ i, i < M.length → (rwAt M i).R.length = width M := fun i hi => h1.2 _ (rwAt_mem hi)
  refine ⟨h1.1.1, h1.1.2, hrow, fun i j hi hj => ?_⟩
  have hmem : nmAt (rwAt M i).R j ∈ (rwAt M i).R := nmAt_mem (by rw [hrow i hi]; exact hj)
  have hr := List.all_eq_true.1 (List.all_eq_true.1 h2 _ (rwAt_mem hi)) _ hmem
  have hs := List.all_eq_true.1 (List.all_eq_true.1 h3 _ (rwAt_mem hi)) _ hmem
  refine ⟨hr, ?_⟩
  have hL := (hM.nums hi).2.1 _ hmem
  unfold valM entry
  rw [natAbs_sval]
  refine Nat.le_of_lt (Nat.lt_of_lt_of_le (val_lt _ hL.2.1) ?_)
  unfold B80
  exact Nat.pow_le_pow_right (by decide) (show _ ≤ N80 by unfold shortN at hs; exact of_decide_eq_true hs)

def detE (M : List Rw) : Int := if mChk M = 0 then (if width M = M.length then 0 else 3) else mChk M
def detV (M : List Rw) : Int := if detE M = 0 then dm M (2 ^ M.length - 1) else 0

theorem mChk_range (M : List Rw) : mChk M = 0 ∨ mChk M = 1 ∨ mChk M = 2 ∨ mChk M = 3 := by
  unfold mChk; split
  · split
    · split <;> simp
    · simp
  · simp

set_option maxHeartbeats 4000000 in
theorem det_any (ao : Option Addr) (cap : Nat) (M : List Rw) (w : World) (h : MatAt w ao cap M) (hs : SmallM M) :
    Calls Try.prog 14 #[.slice ao M.length cap] w fun e w' => ∃ v, e = .returned (.tuple #[v, .int .i64 (detE M)]) ∧ IsNum 0 w' v (detV M) ∧ Below w.heap.size w w' := by
  have C1 := hide (fun w' h' => mcheck_any ao cap M w' h' hs)
  have C2 := hide (fun w' h' => width_any ao cap M w' h' hs)
  have C3 := hide (fun w' (h' : MatAt w' ao cap M) (h0 : mChk M = 0) (hw : width M = M.length) => determinant_any ao cap M w' h' (by have := good_of h' h0; rwa [hw] at this))
  have HM := hide h
  have x0 := Box2.new w (.bool false) (.slice none 0 0)
  have b0 : Below w.heap.size w (w.alloc (.cells #[.bool false, .slice none 0 0] 35)) := (Below.refl _ _).alloc (Nat.le_refl _) _
  have X0 := hide x0; have B0 := hide b0
  have hl := hs.1
  clear h hs x0 b0
  by_cases h0 : mChk M = 0
  · by_cases hw : width M = M.length
    · have hE : detE M = 0 := by unfold detE; rw [if_pos h0, if_pos hw]
      have hV : detV M = dm M (2 ^ M.length - 1) := by unfold detV; rw [if_pos hE]
      rw [hE, hV]
      have C3' := hide (fun w' h' => unhide C3 w' h' h0 hw)
      rw [h0] at C1
      rw [hw] at C2
      clear C3 hE hV hw h0
      generalize dm M (2 ^ M.length - 1) = dv at *
      go_enter Try.func14, Try.ntmps14
      go_wp2_with fail
      refine (unhide C1 _ ((unhide HM).below (unhide B0))).mono ?_
      rintro e w1 ⟨rfl, hb1⟩
      have x1 := (unhide X0).below hb1 (by simp)
      have b1 := (unhide B0).trans (hb1.mono (by simp))
      have X1 := hide x1; have B1 := hide b1
      clear hb1 x1 b1 X0 B0 C1
      go_wp2_with (go_at_call 30; refine (unhide C2 _ ((unhide HM).below (unhide B1))).mono ?_; rintro e w' ⟨rfl, rfl⟩)
      refine (unhide C3' _ ((unhide HM).below (unhide B1))).mono ?_
      rintro e w2 ⟨v, rfl, ⟨n2, a2, c2, L2, rfl, i2⟩, hb2⟩
      have x2 := (unhide X1).below hb2 (unhide X1).lt
      have e0 := x2.c0; have e1 := x2.c1; have f0 := x2.free 0; have f1 := x2.free 1
      have N2 := hide ((show IsNum 0 w2 (.agg #[.bool n2, .slice a2 L2.length c2]) dv from ⟨n2, a2, c2, L2, rfl, i2⟩).stb (Stb.put2 (Base := 0) x2 (Nat.zero_le _) (.bool n2) (.slice a2 L2.length c2)))
      have B2 := hide ((((unhide B1).trans (hb2.mono (unhide B1).size)).setCell (p := ⟨w.heap.size, 0, none⟩) (Nat.le_refl _) (.bool n2)).setCell (p := ⟨w.heap.size, 1, none⟩) (Nat.le_refl _) (.slice a2 L2.length c2))
      clear x2 hb2 i2 X1 B1
      go_wp2
      refine bodyPost_ret (v := .tuple #[.agg #[.bool n2, .slice a2 L2.length c2], .int .i64 0]) (by simp [results, Try.results14, go_sem, e0, e1]) rfl ⟨_, rfl, unhide N2, unhide B2⟩
    · have hE : detE M = 3 := by unfold detE; rw [if_pos h0, if_neg hw]
      have hV : detV M = 0 := by unfold detV; rw [if_neg (by rw [hE]; decide)]
      rw [hE, hV]
      rw [h0] at C1
      have hwI : ((width M : Int) == (M.length : Int)) = false := by simp; omega
      clear C3 hE hV h0 hw
      generalize width M = wd at *
      go_enter Try.func14, Try.ntmps14
      go_wp2_with fail
      refine (unhide C1 _ ((unhide HM).below (unhide B0))).mono ?_
      rintro e w1 ⟨rfl, hb1⟩
      have x1 := (unhide X0).below hb1 (by simp)
      have b1 := (unhide B0).trans (hb1.mono (by simp))
      have e0 := x1.c0; have e1 := x1.c1; have f0 := x1.free 0; have f1 := x1.free 1
      have B1 := hide b1
      have B2 := hide ((b1.setCell (p := ⟨w.heap.size, 0, none⟩) (Nat.le_refl _) (.bool false)).setCell (p := ⟨w.heap.size, 1, none⟩) (Nat.le_refl _) (.slice none 0 0))
      clear hb1 x1 b1 X0 B0 C1
      go_wp2_with (go_at_call 30; refine (unhide C2 _ ((unhide HM).below (unhide B1))).mono ?_; rintro e w' ⟨rfl, rfl⟩)
      refine bodyPost_ret (v := .tuple #[.agg #[.bool false, .slice none 0 0], .int .i64 3]) (by simp [results, Try.results14, go_sem, e0, e1]) rfl ⟨_, rfl, IsNum.zero _ _ _ _, unhide B2⟩
  · have hE : detE M = mChk M := by unfold detE; rw [if_neg h0]
    have hV : detV M = 0 := by unfold detV; rw [if_neg (by rw [hE]; exact h0)]
    rw [hE, hV]
    have hr := mChk_range M
    generalize mChk M = ce at *
    have hne : (ce == 0) = false := by simp; exact h0
    clear C3 C2 hE hV h0
    go_enter Try.func14, Try.ntmps14
    go_wp2_with fail
    refine (unhide C1 _ ((unhide HM).below (unhide B0))).mono ?_
    rintro e w1 ⟨rfl, hb1⟩
    have x1 := (unhide X0).below hb1 (by simp)
    have b1 := (unhide B0).trans (hb1.mono (by simp))
    have e0 := x1.c0; have e1 := x1.c1; have f0 := x1.free 0; have f1 := x1.free 1
    have B2 := hide ((b1.setCell (p := ⟨w.heap.size, 0, none⟩) (Nat.le_refl _) (.bool false)).setCell (p := ⟨w.heap.size, 1, none⟩) (Nat.le_refl _) (.slice none 0 0))
    clear hb1 x1 b1 X0 B0 C1
    go_wp2
    refine bodyPost_ret (v := .tuple #[.agg #[.bool false, .slice none 0 0], .int .i64 ce]) (by simp [results, Try.results14, go_sem, e0, e1]) rfl ⟨_, rfl, IsNum.zero _ _ _ _, unhide B2⟩

end Go.Proofs.Ytnpogpoknbgodaa

/- Contract of exact's expand, with the other closure. Made of X5 by program: the same text, the other function's number. -/
namespace Go.Proofs.Ytnpogpoknbgodaa
open Go.RowKit
attribute [local go_sem ↓] Go.wp_at_zero Go.wp_at_succ

set_option maxHeartbeats 4000000 in
theorem expandL_any (caps : Array Value) (Base : Nat) (b : Option Nat) (I : World → Prop) (r D : Nat → Int) (s Bd N : Nat) (ao : Option Addr) (cap : Nat) (R : List Nm)
    (hI : ∀ w w', I w → Stb Base w w' → I w') (hR : ∀ w, I w → NumsAt w ao cap R)
    (hr : ∀ c, c < R.length → rightN (nmAt R c) = true ∧ sval (nmAt R c).neg (nmAt R c).L = r c)
    (hBd : ∀ c, c < R.length → (r c).natAbs ≤ Bd) (hD : ∀ c, c < R.length → s.testBit c = true → (D (del s c)).natAbs ≤ N) (hN : 6 * (Bd * N) < TOP) (hBT : Bd < TOP) (hNT : N < TOP)
    (hl : R.length ≤ 6) (hs : s < 64)
    (hrest : ∀ w c, I w → c < R.length → s.testBit c = true → Calls Try.prog 47 (#[.int .u64 (del s c)] ++ caps) w fun e w' => ∃ v, e = .returned v ∧ IsNum 0 w' v (D (del s c)) ∧ I w' ∧ Fr w.heap.size b w w')
    (w : World) (hIw : I w) (hBase : Base ≤ w.heap.size) (hb : ∀ m, b = some m → m < w.heap.size) :
    Calls Try.prog 44 #[.slice ao R.length cap, .int .u64 s, .func (.func 47) #[] caps] w fun e w' => ∃ v, e = .returned v ∧ IsNum 0 w' v (exS r s D R.length) ∧ I w' ∧ Fr w.heap.size b w w' := by
  have HI := hide hI; have HR := hide hR; have HRR := hide hr; have HBD := hide hBd; have HD := hide hD; have HN := hide hN; have HREST := hide hrest; have HB := hide hb
  have HIW := hide hIw; have HTT := hide (And.intro hBT hNT)
  clear hI hR hr hBd hD hN hrest hb hIw hBT hNT
  go_enter Try.func44, Try.ntmps44
  go_wp2_with fail
  go_loopw [14] (fun i wr => ∃ (k : Nat) (n : Bool) (a : Option Addr) (c : Nat) (L : List Nat), k ≤ R.length ∧ i = .int .i64 k ∧ Box2 wr (w.heap.size + 1) (.bool n) (.slice a L.length c) ∧ Box2 wr w.heap.size (.bool false) (.slice none 0 0) ∧ Hid (IsNum (w.heap.size + 2) wr (.agg #[.bool n, .slice a L.length c]) (exS r s D k)) ∧ Hid (I wr) ∧ Hid (Fr w.heap.size b w wr)) (fun i _ => R.length - (intOf i).toNat)
  case atStart =>
    refine ⟨0, false, none, 0, [], Nat.zero_le _, rfl, ?_, (Box2.new _ _ _).old _, ?_, ?_, ?_⟩
    · have := Box2.new (w.alloc (.cells #[.bool false, .slice none 0 0] 35)) (.bool false) (.slice none 0 0)
      simpa using this
    · exact hide (IsNum.zero _ _ _ _)
    · exact hide (unhide HI _ _ (unhide HIW) (.of (((Below.refl _ _).alloc (Nat.le_refl _) _).alloc (by simp) _)))
    · exact hide (((Fr.refl _ _ _).alloc (Nat.le_refl _) _).alloc (by simp) _)
  case round =>
    obtain ⟨k, n, a, c, L, hk, rfl, hx1, hx0, hnum, hIr, hfr⟩ := hrel
    by_cases hlt : k < R.length
    · have hkI : (k : Int) < (R.length : Int) := by omega
      have CH := hide (fun w => has_any s k w hs (by omega))
      by_cases hbit : s.testBit k = true
      · rw [hbit] at CH
        have hX1 := hide hx1; have hX0 := hide hx0
        clear hx1 hx0
        have hrow := unhide HR _ (unhide hIr)
        obtain ⟨b1, o1, hao, hb1, _⟩ := hrow.ne (by omega)
        subst hao
        clear hrow hb1
        obtain ⟨x, hx⟩ : ∃ x, nmAt R k = x := ⟨_, rfl⟩
        have hxr := unhide HRR k hlt
        rw [hx] at hxr
        have hxB := unhide HBD k hlt
        have hdB := unhide HD k hlt hbit
        obtain ⟨hBT, hNT⟩ := unhide HTT
        have CMUL := hide (fun w' (h : I w') v B' (hv : IsNum B' w' v (D (del s k))) => by
          have h1 := (unhide HR _ h).limbs hlt
          rw [hx] at h1
          have h2 := right_num h1 hxr.1 (NewAt.zero h1)
          rw [hxr.2] at h2
          have hm : (r k * D (del s k)).natAbs ≤ Bd * N := by
            rw [Int.natAbs_mul]; exact Nat.mul_le_mul hxB hdB
          have := unhide HN
          exact mul_new h2 hv (by omega) (by omega) (by omega))
        have CREST := hide (fun w' h => unhide HREST w' k h hlt hbit)
        have CW := hide (fun w => without_any s k w hs (by omega))
        have CA := hide (fun w => above_any s k w hs (by omega))
        have hK : ∀ w', Fr wr.heap.size b wr w' → I w' → Fr wr.heap.size b wr w' ∧ I w' ∧ w'.cell? ⟨b1, o1 + k * 2, none⟩ = some (.bool x.neg) ∧ w'.cell? ⟨b1, o1 + k * 2 + 1, none⟩ = some (.slice x.ao x.L.length x.cap) := fun w' h1 h2 => by
          have := (unhide HR _ h2).cells hlt
          rw [hx] at this
          exact ⟨h1, h2, this⟩
        have hres : Hid (exS r s D (k + 1) = exS r s D k + (if abv s k % 2 = 0 then r k * D (del s k) else -(r k * D (del s k)))) := by
          unfold Hid; conv => lhs; unfold exS
          rw [if_pos hbit]
        have hbnd : Hid ((exS r s D k).natAbs < TOP ∧ (r k * D (del s k)).natAbs < TOP ∧ (exS r s D k + r k * D (del s k)).natAbs < TOP ∧ (exS r s D k - r k * D (del s k)).natAbs < TOP) := by
          unfold Hid
          have e1 := exS_bound r s D Bd N k (fun c hc => unhide HBD c (by omega)) (fun c hc => unhide HD c (by omega))
          have hm : (r k * D (del s k)).natAbs ≤ Bd * N := by
            rw [Int.natAbs_mul]; exact Nat.mul_le_mul hxB hdB
          have h5 : k * (Bd * N) ≤ 5 * (Bd * N) := Nat.mul_le_mul_right _ (by omega)
          have := unhide HN
          generalize Bd * N = BN at *
          generalize r k * D (del s k) = t at *
          generalize exS r s D k = u at *
          generalize k * BN = kb at *
          refine ⟨by omega, by omega, by omega, by omega⟩
        have HK := hide hK
        obtain ⟨nx, ax, cx, Lx⟩ := x
        simp only at hxr HK
        clear hxr hxB hdB hBT hNT hK hx HRR HBD HD HREST HTT HN
        generalize D (del s k) = dv at *
        generalize hdel : del s k = ds at *
        generalize habv : abv s k = av at *
        go_wp2_with (go_at_call 38; refine (unhide CH _).mono ?_; rintro e w' ⟨rfl, rfl⟩)
        refine at_world (fun W => W = wr) rfl ?_
        rintro W0 e0
        subst e0
        have hI0 := unhide hIr
        have HKA := hide (fun wn o (h1 : Fr W0.heap.size b W0 wn) (h2 : I wn) => unhide HK (wn.alloc o) (h1.alloc h1.size o) (unhide HI _ _ h2 (.of ((Below.refl _ _).alloc (Nat.le_refl _) o))))
        have HKS := hide (fun wn g x a n c u u' (h1 : Fr W0.heap.size b W0 wn) (h2 : I wn) (h3 : Box2 wn g (.bool x) (.slice a n c)) (h4 : W0.heap.size ≤ g) => unhide HK _ (h1.put2 h4 u u') (unhide HI _ _ h2 (.put2 h3 (by have := (unhide hfr).size; omega) u u')))
        have BXA := hide (fun wn wm (h1 : Fr (W0.drew.alloc (.cells #[.bool false, .slice none 0 0] 35)).heap.size b (W0.drew.alloc (.cells #[.bool false, .slice none 0 0] 35)) wn) (h2 : Below wn.heap.size wn wm) => (h1.box (Box2.new W0.drew (.bool false) (.slice none 0 0)) (by simp) (fun m e => by have := unhide HB m e; have := (unhide hfr).size; simp; omega)).below h2 (by have := h1.size; simp at this; simp; omega))
        have BXB := hide (fun wn wm (h2 : Below (wn.alloc (.cells #[.bool false, .slice none 0 0] 35)).heap.size (wn.alloc (.cells #[.bool false, .slice none 0 0] 35)) wm) => (Box2.new wn (.bool false) (.slice none 0 0)).below h2 (by simp))
        have IPF := hide (fun (B : Nat) (wm : World) n a c L (h : LimbsAt wm a c L ∧ NewAt B a L ∧ Canon L ∧ n = decide (r k * dv < 0) ∧ val L = (r k * dv).natAbs ∧ L.length ≤ 35184372088832) => (show IsNum B wm (.agg #[.bool n, .slice a L.length c]) (r k * dv) from ⟨n, a, c, L, rfl, h⟩))
        have HT := hide (fun (W : World) (g : Nat) {np : Bool} {ap : Option Addr} {Lp : List Nat} {cp B : Nat} (h1 : Fr W0.heap.size b W0 W) (h2 : I W) (h3 : Box2 W g (.bool np) (.slice ap Lp.length cp)) (h4 : IsNum B W (.agg #[.bool np, .slice ap Lp.length cp]) (r k * dv)) =>
          (show TailF I b w n a L c np ap Lp cp (exS r s D k) (r k * dv) B g W from
            ⟨h3, h4, (unhide hnum).fr h1 (fun m e => by have := unhide HB m e; omega), h2, (unhide hfr).then (Nat.le_refl _) h1, h1.box (unhide hX1) (unhide hX1).lt (fun m e => by have := unhide HB m e; omega), h1.box (unhide hX0) (unhide hX0).lt (fun m e => unhide HB m e)⟩))
        go_region_held3 (fun w' => Fr W0.heap.size b W0 w' ∧ I w' ∧ w'.cell? ⟨b1, o1 + k * 2, none⟩ = some (.bool nx) ∧ w'.cell? ⟨b1, o1 + k * 2 + 1, none⟩ = some (.slice ax Lx.length cx))
          (first | assumption | exact unhide HK _ (Fr.refl _ _ _).drew (unhide HI _ _ (by assumption) Stb.drewed) | exact unhide HK _ (by assumption) (by assumption) | exact unhide HKA _ _ (by assumption) (by assumption) | exact unhide HKA _ _ (And.left (by assumption)) (And.left (And.right (by assumption))) | exact unhide HKS _ _ _ _ _ _ _ _ hFm hIm xb (by first | omega | exact Fr.size (by assumption)) | fail "KK")
          (first | (go_at_call 48; refine (unhide CW _).mono ?_; rintro e wx ⟨rfl, rfl⟩) | (go_at_call 47; refine (unhide CREST _ (And.left (And.right (by assumption)))).mono ?_; rintro e wn ⟨v, rfl, iv, hIn, hfn⟩; have hFn : Fr W0.heap.size b W0 wn := Fr.then (And.left (by assumption)) (Nat.le_refl _) hfn; have IV := hide iv; have HFN := hide hfn; clear hfn iv) | (go_at_call 53; refine (unhide CMUL _ (And.left (And.right (by assumption))) _ 0 (by first | exact unhide IV | exact (unhide IV).below ((Below.refl _ _).alloc (Nat.le_refl _) _))).mono ?_; rintro e wm ⟨pv, rfl, ⟨np, ap, cp, Lp, rfl, ip⟩, hb1⟩; have hFm : Fr W0.heap.size b W0 wm := Fr.thenB (And.left (by assumption)) (Nat.le_refl _) hb1; have hIm : I wm := unhide HI _ _ (And.left (And.right (by assumption))) (.of hb1); have IP := hide (unhide IPF _ _ _ _ _ _ ip); (first | (have xb : Box2 wm W0.heap.size (.bool false) (.slice none 0 0) := unhide BXA _ _ (unhide HFN) hb1) | (have xb : Box2 wm wn.heap.size (.bool false) (.slice none 0 0) := unhide BXB _ _ hb1) | (have xb : True := trivial)); (first | (have y0 := xb.c0; have y1 := xb.c1; have f0 := xb.free 0; have f1 := xb.free 1) | skip); clear hb1 ip) | fail "NO ARM")
        all_goals
          first
            | refine at_then (TailF _ _ _ _ _ _ _ _ _ _ _ _ _ _ W0.heap.size) (unhide HT _ _ (And.left (by assumption)) (And.left (And.right (by assumption))) (xb.put _ _) ((unhide IP).stb (Stb.put2 (Base := 0) xb (Nat.zero_le _) _ _))) ?_
            | refine at_then (TailF _ _ _ _ _ _ _ _ _ _ _ _ _ _ wn.heap.size) (unhide HT _ _ (And.left (by assumption)) (And.left (And.right (by assumption))) (xb.put _ _) ((unhide IP).stb (Stb.put2 (Base := 0) xb (Nat.zero_le _) _ _))) ?_
            | refine at_then (TailF _ _ _ _ _ _ _ _ _ _ _ _ _ _ wm.heap.size) (unhide HT _ _ (And.left (by assumption)) (And.left (And.right (by assumption))) (Box2.new _ _ _) ((unhide IP).below ((Below.refl _ _).alloc (Nat.le_refl _) _))) ?_
            | fail "NO WAY"
        all_goals
          rintro W ⟨xg, iq, isum, hIW, hFW, x1, x0⟩
          have c0 := xg.c0; have c1 := xg.c1; have d0 := x1.c0; have d1 := x1.c1
          have IS := hide isum; have IQ := hide iq; have IW := hide hIW; have FW := hide hFW; have X1 := hide x1; have X0 := hide x0
          try clear y0 y1 f0 f1
          clear xg iq isum hIW hFW x1 x0 xb hFm hIm hIn hFn IP IV HFN HT IPF BXA BXB HKS HKA HK hI0 CREST CMUL CW CH hX1 hX0 hnum hfr hIr HIW HR
          by_cases hpar : av % 2 = 0
          · have hp1 : ((av : Int).tmod 2 == 0) = true := by
              have : (av : Int).tmod 2 = ((av % 2 : Nat) : Int) := by simp [Int.tmod_eq_emod]
              rw [this, hpar]; rfl
            go_wp2_with (go_at_call 54; refine (unhide CA _).mono ?_; rintro e w' ⟨rfl, rfl⟩)
            refine (add_new (unhide IS) (unhide IQ) (unhide hbnd).1 (unhide hbnd).2.1 (unhide hbnd).2.2.1).mono ?_
            rintro e w4 ⟨rr, rfl, ⟨n4, a4, c4, L4, rfl, i4⟩, hb4⟩
            have x4 := (unhide X1).below hb4 (unhide X1).lt
            have x5 := (unhide X0).below hb4 (unhide X0).lt
            have hsz := (unhide X1).lt
            have e0 := x4.c0; have e1 := x4.c1; have fr0 := x4.free 0; have fr1 := x4.free 1
            have N4 := hide (show IsNum W.heap.size w4 (.agg #[.bool n4, .slice a4 L4.length c4]) _ from ⟨n4, a4, c4, L4, rfl, i4⟩)
            have I4 := hide (unhide HI _ _ (unhide HI _ _ (unhide IW) (.of hb4)) (.put2 x4 (by omega) (.bool n4) (.slice a4 L4.length c4)))
            have F4 := hide (((unhide FW).thenB (Nat.le_refl _) hb4).put2 (g := w.heap.size + 1) (by omega) (.bool n4) (.slice a4 L4.length c4))
            have X4 := hide x4; have X5 := hide x5
            clear i4 hb4 x4 x5 X1 X0 IS IQ IW FW hbnd
            go_wp2
            go_roundw
            case rel => exact ⟨k + 1, n4, a4, c4, L4, by omega, by go_num, (unhide X4).put _ _, (unhide X5).other (by omega) _ _, hide (by rw [hres.out, if_pos hpar]; exact ((unhide N4).mono (by omega)).put2 (by omega) _ _), I4, F4⟩
            case measure => simp [intOf]; omega
          · have hp1 : ((av : Int).tmod 2 == 0) = false := by
              have : (av : Int).tmod 2 = ((av % 2 : Nat) : Int) := by simp [Int.tmod_eq_emod]
              rw [this]; simp; omega
            go_wp2_with (go_at_call 54; refine (unhide CA _).mono ?_; rintro e w' ⟨rfl, rfl⟩)
            refine (sub_ok (unhide IS) (unhide IQ) (unhide hbnd).1 (unhide hbnd).2.1 (unhide hbnd).2.2.2).mono ?_
            rintro e w4 ⟨rr, rfl, ⟨n4, a4, c4, L4, rfl, i4⟩, hb4⟩
            have x4 := (unhide X1).below hb4 (unhide X1).lt
            have x5 := (unhide X0).below hb4 (unhide X0).lt
            have hsz := (unhide X1).lt
            have e0 := x4.c0; have e1 := x4.c1; have fr0 := x4.free 0; have fr1 := x4.free 1
            have N4 := hide (show IsNum W.heap.size w4 (.agg #[.bool n4, .slice a4 L4.length c4]) _ from ⟨n4, a4, c4, L4, rfl, i4⟩)
            have I4 := hide (unhide HI _ _ (unhide HI _ _ (unhide IW) (.of hb4)) (.put2 x4 (by omega) (.bool n4) (.slice a4 L4.length c4)))
            have F4 := hide (((unhide FW).thenB (Nat.le_refl _) hb4).put2 (g := w.heap.size + 1) (by omega) (.bool n4) (.slice a4 L4.length c4))
            have X4 := hide x4; have X5 := hide x5
            clear i4 hb4 x4 x5 X1 X0 IS IQ IW FW hbnd
            go_wp2
            go_roundw
            case rel => exact ⟨k + 1, n4, a4, c4, L4, by omega, by go_num, (unhide X4).put _ _, (unhide X5).other (by omega) _ _, hide (by rw [hres.out, if_neg hpar, ← Int.sub_eq_add_neg]; exact ((unhide N4).mono (by omega)).put2 (by omega) _ _), I4, F4⟩
            case measure => simp [intOf]; omega
      · have hbf : s.testBit k = false := by simpa using hbit
        rw [hbf] at CH
        have hres : Hid (exS r s D (k + 1) = exS r s D k) := by
          unfold Hid; conv => lhs; unfold exS
          rw [if_neg hbit, Int.add_zero]
        have hX1 := hide hx1; have hX0 := hide hx0
        clear hx1 hx0
        go_wp2_with (go_at_call 38; refine (unhide CH _).mono ?_; rintro e w' ⟨rfl, rfl⟩)
        go_roundw
        case rel => exact ⟨k + 1, n, a, c, L, by omega, by go_num, unhide hX1, unhide hX0, by rw [hres.out]; exact hnum, hIr, hfr⟩
        case measure => simp [intOf]; omega
    · have hkk : k = R.length := by omega
      have d0 := hx1.c0; have d1 := hx1.c1; have e0 := hx0.c0; have e1 := hx0.c1; have fr0 := hx0.free 0; have fr1 := hx0.free 1
      have I4 := hide (unhide HI _ _ (unhide hIr) (.put2 hx0 hBase (.bool n) (.slice a L.length c)))
      have F4 := hide ((unhide hfr).put2 (g := w.heap.size) (Nat.le_refl _) (.bool n) (.slice a L.length c))
      have N4 := hide (((unhide hnum).put2 (g := w.heap.size) (by omega) (.bool n) (.slice a L.length c)).mono (Nat.zero_le _))
      rw [hkk] at N4
      subst hkk
      clear hx1 hx0 hnum hIr hfr
      go_wp2
      refine bodyPost_ret (v := .agg #[.bool n, .slice a L.length c]) (by simp [results, Try.results44, go_sem, e0, e1]) rfl ⟨_, rfl, unhide N4, unhide I4, unhide F4⟩

end Go.Proofs.Ytnpogpoknbgodaa

/- The ledger's map: whatever it holds is right. -/
namespace Go.Proofs.Ytnpogpoknbgodaa
open Go.RowKit
open Go.Maps

theorem laidOut : laidOutB Try.prog = true := by kernel_rfl
theorem rowPlaces : (52 : TypeId) < Try.prog.types.size := of_decide_eq_true (by kernel_rfl)
theorem deepPlaces : Try.prog.keyTypeAt (Try.prog.types.size + 1) 52 = true := by kernel_rfl
theorem widePlaces : (match Try.prog.underlying 52 with | some (.array _ _) | some (.struct _) => true | _ => false) = true := by rw [Try.underlying52]
theorem lawPlaces : Keyed Try.prog 52 := Keyed.of_law (deep_law_laid laidOut (m := 2) (by omega) rowPlaces (by kernel_rfl) widePlaces)
theorem cellsPlaces : Try.prog.cellsOf 52 = 2 := by kernel_rfl
theorem cellsSet : Try.prog.cellsOf 50 = 1 := by kernel_rfl

/-- Rows and columns, as a key. -/
def pkey (r c : Nat) : Value := .agg #[.int .u64 (r : Int), .int .u64 (c : Int)]

theorem pkey_inj {r c r' c' : Nat} (h : pkey r c = pkey r' c') : r = r' ∧ c = c' := by
  unfold pkey at h
  simp at h
  omega

theorem pkey_key (r c : Nat) (hr : r < 64) (hc : c < 64) : ∃ l, keyOf Try.prog 52 (pkey r c) = some l := by
  have w1 : (Lit.int .u64 (r : Int)).wf = true := WalkArith.wf_u64 (by omega)
  have w2 : (Lit.int .u64 (c : Int)).wf = true := WalkArith.wf_u64 (by omega)
  have hf : (pkey r c).formed Try.prog 52 = true := by simp [pkey, Value.formed, Try.underlying52, cellsPlaces]
  unfold keyOf
  rw [Try.underlying52]
  simp only
  rw [show Try.prog.keyType 52 = true from deepPlaces, hf]
  have hk : ∃ ls, Try.prog.keyLits (Try.prog.types.size + 1) 52 (pkey r c).cells.toList = some ls := by
    have hsz : ∃ m, Try.prog.types.size = m + 1 := ⟨Try.prog.types.size - 1, (Nat.sub_add_cancel (Nat.lt_of_le_of_lt (Nat.zero_le _) rowPlaces)).symm⟩
    obtain ⟨m, hm⟩ := hsz
    rw [hm]
    simp [Program.keyLits, Try.underlying52, Try.underlying50, pkey, Value.cells, cellsPlaces, cellsSet, w1, w2]
  obtain ⟨ls, hls⟩ := hk
  rw [hls]
  exact ⟨_, rfl⟩

/-- Block m is a map whose entries all are G's numbers. -/
def LedAt (w : World) (m : Nat) (G : Nat → Nat → Int) : Prop :=
  ∃ es clock, w.heap[m]? = some (.map es clock) ∧ ∀ e ∈ es.toList, ∃ r c, r < 64 ∧ c < 64 ∧ e.key = pkey r c ∧ IsNum 0 w e.val (G r c)

theorem LedAt.lt {w : World} {m : Nat} {G : Nat → Nat → Int} (h : LedAt w m G) : m < w.heap.size := by
  obtain ⟨es, clock, h1, _⟩ := h
  exact (Array.getElem?_eq_some_iff.1 h1).1
theorem LimbsAt.frm {w w' : World} {ao : Option Addr} {cap m : Nat} {L : List Nat} (h : LimbsAt w ao cap L) (hf : Fr w.heap.size (some m) w w') {es : Array MapEntry} {cl : Nat} (hm : w.heap[m]? = some (.map es cl)) : LimbsAt w' ao cap L := by
  refine ⟨h.1, h.2.1, ?_⟩
  rcases h.2.2 with h0 | ⟨c, off, h1, h2, h3⟩
  · exact .inl h0
  · by_cases hL : L = []
    · exact .inl hL
    have hc : c ≠ m := by
      rintro rfl
      have h4 := h3 0 (List.length_pos_iff.2 hL)
      simp [World.cell?, hm] at h4
    refine .inr ⟨c, off, h1, Nat.lt_of_lt_of_le h2 hf.size, fun i hi => ?_⟩
    rw [World.cell?_of_block (a := ⟨c, off + i, none⟩) (hf.block c h2 (fun e => hc (Option.some.inj e)))]
    exact h3 i hi
theorem IsNum.frm {B : Nat} {w w' : World} {v : Value} {x : Int} {m : Nat} (h : IsNum B w v x) (hf : Fr w.heap.size (some m) w w') {G : Nat → Nat → Int} (hm : LedAt w m G) : IsNum B w' v x := by
  obtain ⟨es, cl, hm, _⟩ := hm
  obtain ⟨neg, ao, cap, L, h1, h2, h3⟩ := h
  exact ⟨neg, ao, cap, L, h1, h2.frm hf hm, h3⟩
theorem LedAt.below {w w' : World} {m : Nat} {G : Nat → Nat → Int} (h : LedAt w m G) (hb : Below w.heap.size w w') : LedAt w' m G := by
  have hlt := h.lt
  obtain ⟨es, clock, h1, h2⟩ := h
  refine ⟨es, clock, (hb.block m hlt).trans h1, fun e he => ?_⟩
  obtain ⟨r, c, a1, a2, a3, a4⟩ := h2 e he
  exact ⟨r, c, a1, a2, a3, a4.below hb⟩
theorem LedAt.stb {w w' : World} {m Base : Nat} {G : Nat → Nat → Int} (h : LedAt w m G) (hb : Stb Base w w') : LedAt w' m G := by
  obtain ⟨es, clock, h1, h2⟩ := h
  refine ⟨es, clock, hb.keeps h1 (fun x a n c e => by cases e), fun e he => ?_⟩
  obtain ⟨r, c, a1, a2, a3, a4⟩ := h2 e he
  exact ⟨r, c, a1, a2, a3, a4.stb hb⟩
theorem LedAt.made (w : World) (G : Nat → Nat → Int) : LedAt (w.alloc (.map #[] 0)) w.heap.size G :=
  ⟨#[], 0, (MapKept.heap_alloc w _).1, by simp⟩

theorem zeroWhole (w : World) : (zeroValue 35).run Try.prog w = .ok (.agg #[.bool false, .slice none 0 0]) w := by kernel_rfl

theorem LedAt.look {w : World} {m : Nat} {G : Nat → Nat → Int} (h : LedAt w m G) {r c : Nat} (hr : r < 64) (hc : c < 64) :
    (Instr.lookup 45 (.map (some m)) (pkey r c) true).run Try.prog w = .ok (.tuple #[.agg #[.bool false, .slice none 0 0], .bool false]) w ∨
    ∃ v, (Instr.lookup 45 (.map (some m)) (pkey r c) true).run Try.prog w = .ok (.tuple #[v, .bool true]) w ∧ IsNum 0 w v (G r c) := by
  obtain ⟨es, clock, h1, h2⟩ := h
  obtain ⟨l, hl⟩ := pkey_key r c hr hc
  have hks : ∀ e ∈ es.toList, ∃ l, keyOf Try.prog 52 e.key = some l := fun e he => by
    obtain ⟨r', c', a1, a2, a3, _⟩ := h2 e he
    rw [a3]; exact pkey_key r' c' a1 a2
  rcases lawPlaces.find w hl es.toList hks with ⟨f1, _⟩ | ⟨j, e0, f1, f2, f3⟩
  · left
    simp [Instr.lookup, run_underlying Try.underlying45, MapKept.run_getObj_map h1, lawPlaces.check w _ hl, f1, Result.andThen]
  · right
    refine ⟨e0.val, ?_, ?_⟩
    · simp [Instr.lookup, run_underlying Try.underlying45, MapKept.run_getObj_map h1, lawPlaces.check w _ hl, f1, Result.andThen]
    · obtain ⟨r', c', a1, a2, a3, a4⟩ := h2 e0 (List.mem_of_getElem? f2)
      rw [f3] at a3
      obtain ⟨rfl, rfl⟩ := pkey_inj a3
      exact a4

theorem LedAt.put {w : World} {m : Nat} {G : Nat → Nat → Int} (h : LedAt w m G) {r c : Nat} (hr : r < 64) (hc : c < 64) {v : Value} (hv : IsNum 0 w v (G r c)) :
    ∃ w', (Instr.mapUpdate 45 (.map (some m)) (pkey r c) v).run Try.prog w = .ok () w' ∧ LedAt w' m G ∧ Fr w.heap.size (some m) w w' := by
  have hL := h
  obtain ⟨es, clock, h1, h2⟩ := h
  obtain ⟨l, hl⟩ := pkey_key r c hr hc
  have hks : ∀ e ∈ es.toList, ∃ l, keyOf Try.prog 52 e.key = some l := fun e he => by
    obtain ⟨r', c', a1, a2, a3, _⟩ := h2 e he
    rw [a3]; exact pkey_key r' c' a1 a2
  have hfr : ∀ o, Fr w.heap.size (some m) w (ChangeMaps.setBlock w m o) := fun o =>
    ⟨rfl, rfl, rfl, by simp [ChangeMaps.setBlock], fun k _ hne => ChangeMaps.heap_setBlock_other h1 o (fun e => hne (by rw [e]))⟩
  rcases lawPlaces.find w hl es.toList hks with ⟨f1, _⟩ | ⟨j, e0, f1, f2, f3⟩
  · refine ⟨ChangeMaps.setBlock w m (.map (es.push ⟨pkey r c, v, clock⟩) (clock + 1)), ?_, ⟨_, _, ChangeMaps.heap_setBlock_same h1 _, ?_⟩, hfr _⟩
    · simp [Instr.mapUpdate, run_underlying Try.underlying45, MapKept.run_getObj_map h1, lawPlaces.check w false hl, f1, MapKept.run_setObj_map _ h1, Result.andThen, ChangeMaps.setBlock]
    · intro e he
      simp only [Array.toList_push, List.mem_append, List.mem_singleton] at he
      rcases he with he | rfl
      · obtain ⟨r', c', a1, a2, a3, a4⟩ := h2 e he
        exact ⟨r', c', a1, a2, a3, a4.frm (hfr _) hL⟩
      · exact ⟨r, c, hr, hc, rfl, hv.frm (hfr _) hL⟩
  · have hj : es[j]? = some e0 := by simpa using f2
    refine ⟨ChangeMaps.setBlock w m (.map (es.modify j (fun e' => { e' with key := pkey r c, val := v })) clock), ?_, ⟨_, _, ChangeMaps.heap_setBlock_same h1 _, ?_⟩, hfr _⟩
    · simp [Instr.mapUpdate, run_underlying Try.underlying45, MapKept.run_getObj_map h1, lawPlaces.check w false hl, f1, hj, f3, lawPlaces.stays w hl, MapKept.run_setObj_map _ h1, Result.andThen, ChangeMaps.setBlock]
    · intro e he
      rw [Array.toList_modify, ChangeMaps.modify_eq_set _ _ _ _ f2] at he
      obtain ⟨i, hi, ex⟩ := List.getElem_of_mem he
      rw [List.getElem_set] at ex
      split at ex
      · subst ex
        exact ⟨r, c, hr, hc, rfl, hv.frm (hfr _) hL⟩
      · have hi' : i < es.toList.length := by simpa using hi
        obtain ⟨r', c', a1, a2, a3, a4⟩ := h2 e (ex ▸ List.getElem_mem hi')
        exact ⟨r', c', a1, a2, a3, a4.frm (hfr _) hL⟩

end Go.Proofs.Ytnpogpoknbgodaa

