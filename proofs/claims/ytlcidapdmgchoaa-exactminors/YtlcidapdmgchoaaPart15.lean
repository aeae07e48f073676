/- Part 15 of the texts. -/
import Derived.Test.YtlcidapdmgchoaaPart14
import Derived.Test.YtlcidapdmgchoaaPart12
import Derived.Test.YtlcidapdmgchoaaPart13
import Derived.Test.YtlcidapdmgchoaaPart09
import Derived.Test.YtlcidapdmgchoaaPart06
import Derived.Test.YtlcidapdmgchoaaPart07
/- Contract of the reference's Mul. -/
namespace Go.Proofs.Ytlcidapdmgchoaa
open Go.RowKit
attribute [local go_sem ↓] Go.wp_at_zero Go.wp_at_succ

theorem own_zero (W : World) : (W.alloc (.cells #[.int .u32 0] 58)).ownsRow W.heap.size 58 1 (.slice (some ⟨W.heap.size, 0, none⟩) 1 1) 1 [.int .u32 0] :=
  ⟨by simp, .inr ⟨W.heap.size, 1, #[.int .u32 0], rfl, Nat.le_refl _, heap_alloc_new W _, Nat.le_refl _, by simp [maxLen], by simp, by simp⟩⟩

theorem val_drop_succ (B : List Nat) (k : Nat) (h : k < B.length) : val (B.drop k) = B[k]?.getD 0 + 4294967296 * val (B.drop (k + 1)) := by
  rw [List.drop_eq_getElem_cons h]
  simp [val, h]

theorem mul_sign (na nb : Bool) (A B S : List Nat) (h : val S = val A * val B) : sval (na != nb) S = sval na A * sval nb B := by
  unfold sval
  rw [h]
  cases na <;> cases nb <;> simp [Int.natCast_mul, Int.neg_mul, Int.mul_neg]

set_option maxHeartbeats 2000000 in
theorem refMul_any (na nb : Bool) (ao bo : Option Addr) (ca cb : Nat) (A B : List Nat) (w : World) (hA : LimbsAt w ao ca A) (hB : LimbsAt w bo cb B) (la : A.length ≤ 1048576) (lb : B.length ≤ 1048576) :
    Calls Try.prog 25 #[.agg #[.bool na, .slice ao A.length ca], .agg #[.bool nb, .slice bo B.length cb]] w fun e w' => ∃ v, e = .returned v ∧ IsNum 0 w' v (sval na A * sval nb B) ∧ Below w.heap.size w w' := by
  obtain ⟨i0, hi, hz0, hz1, hz2⟩ := info_parts Try.info58
  have HZ := hide (fun S => mul_sign na nb A B S)
  generalize sval na A * sval nb B = z at *
  go_enter Try.func25, Try.ntmps25
  go_wp2
  go_loopw [5, 6, 7] (fun v i _ wr => ∃ (m b off cap : Nat) (S : List Nat), m ≤ B.length ∧ i = .int .i64 ((m : Int) - 1) ∧ v = .slice (some ⟨b, off, none⟩) S.length cap ∧ Hid (LimbsAt wr (some ⟨b, off, none⟩) cap S) ∧ Box2 wr w.heap.size (.bool na) (.slice ao A.length ca) ∧ Box2 wr (w.heap.size + 1) (.bool nb) (.slice bo B.length cb) ∧ Box2 wr (w.heap.size + 2) (.bool false) (.slice none 0 0) ∧ S.length + 2 * m ≤ A.length + 1 + 2 * B.length ∧ Hid (val S = val A * val (B.drop m)) ∧ Below w.heap.size w wr)
    (fun _ i _ _ => (intOf i + 1).toNat)
  case atStart =>
    refine ⟨B.length, w.heap.size + 3, 0, 0, [], Nat.le_refl _, rfl, rfl, LimbsAt.nil _ _ _, (((Box2.new _ _ _).old _).old _).old _, ?_, ?_, by simp, by unfold Hid; simp [val], ?_⟩
    · have := ((Box2.new (w.alloc (.cells #[.bool na, .slice ao A.length ca] 30)) (.bool nb) (.slice bo B.length cb)).old (.cells #[.bool false, .slice none 0 0] 30)).old (.cells #[] 58)
      simpa using this
    · have := (Box2.new ((w.alloc (.cells #[.bool na, .slice ao A.length ca] 30)).alloc (.cells #[.bool nb, .slice bo B.length cb] 30)) (.bool false) (.slice none 0 0)).old (.cells #[] 58)
      simpa using this
    · exact ((((Below.refl _ _).alloc (Nat.le_refl _) _).alloc (by simp) _).alloc (by simp; omega) _).alloc (by simp; omega) _
  case round =>
    obtain ⟨m, b, off, cap, S, hm, rfl, rfl, hS, x0, x1, x2, hlen, hv, hbel⟩ := hrel
    by_cases h0 : m = 0
    · subst h0
      have hz := unhide HZ S (by have := hv.out; simpa using this)
      have Z := hide hz
      have X2 := hide x2; have BEL := hide hbel
      have p0 := x0.c0; have q0 := x1.c0
      have zlt := x2.lt
      clear hz HZ hv x0 x1 x2 hbel hA hB
      go_wp2_with fail
      have hcall := made_any 0 (na != nb) (some ⟨b, off, none⟩) cap S wr (unhide hS) (NewAt.zero (unhide hS)) (by omega)
      rw [unhide Z] at hcall
      have hbool : (!na == nb) = (na != nb) := by cases na <;> cases nb <;> rfl
      rw [hbool]
      refine hcall.mono ?_
      rintro e w2 ⟨v, rfl, ⟨n2, a2, c2, L2, rfl, i1⟩, hb2⟩
      have X4 := (unhide X2).below hb2 (unhide X2).lt
      have y0 := X4.c0; have y1 := X4.c1; have f0 := X4.free 0; have f1 := X4.free 1
      have HB2 := hide ((unhide BEL).trans (hb2.mono (by omega)))
      have I1 := hide i1; have XX4 := hide X4
      clear hcall X4 hb2 i1
      go_wp2
      refine bodyPost_ret (v := .agg #[.bool n2, .slice a2 L2.length c2]) (by simp [results, Try.results25, go_sem, y0, y1]) rfl ⟨.agg #[.bool n2, .slice a2 L2.length c2], rfl, ?_, ?_⟩
      · have i := unhide I1
        exact ⟨n2, a2, c2, L2, rfl, i.1.box (unhide XX4) _ _, i.2.1, i.2.2.1, i.2.2.2.1, i.2.2.2.2.1, by have := i.2.2.2.2.2; omega⟩
      · exact ((unhide HB2).setCell (by simp; omega) _).setCell (by simp; omega) _
    · obtain ⟨k, rfl⟩ : ∃ k, m = k + 1 := ⟨m - 1, by omega⟩
      rw [show (((k + 1 : Nat) : Int) - 1) = (k : Int) by omega]
      clear h0 HZ
      obtain ⟨x, hx⟩ : ∃ x, B[k]?.getD 0 = x := ⟨_, rfl⟩
      have bx : x < 4294967296 := by rw [← hx]; exact hB.lt _
      obtain ⟨b2, o2, hbo, hb2', hc2⟩ := hB.ne (by omega)
      have cb2 := hc2 k (by omega)
      rw [hx] at cb2
      have hstep : ∀ L1 L2 : List Nat, val L1 = val A * x → val L2 = val (0 :: S) + val L1 → val L2 = val A * val (B.drop k) := by
        intro L1 L2 e1 e2
        have := hv.out
        rw [e2, e1, val_drop_succ B k (by omega), hx, Nat.mul_add]
        simp only [val]
        rw [this, Nat.zero_add, ← Nat.mul_assoc, ← Nat.mul_assoc, Nat.mul_comm 4294967296 (val A)]
        omega
      have hnews : ∀ j u, (S.map limbV)[j]? = some u → (wr.alloc (.cells #[.int .u32 0] 58)).cell? ((⟨b, off, none⟩ : Addr).add j) = some u := by
        intro j u hu
        rw [List.getElem?_map] at hu
        have hj : j < S.length := by
          rcases Nat.lt_or_ge j S.length with e | e
          · exact e
          · rw [List.getElem?_eq_none e] at hu; simp at hu
        obtain ⟨b', off', e0, hb', hcl⟩ := (unhide hS).ne (by omega)
        simp only [Option.some.injEq, Addr.mk.injEq, and_true] at e0
        obtain ⟨rfl, rfl⟩ := e0
        have e3 : (⟨b, off, none⟩ : Addr).add j = ⟨b, off + j, none⟩ := by simp [Addr.add]
        rw [e3, ((Below.refl wr.heap.size wr).alloc (Nat.le_refl _) _).cell (p := ⟨b, off + j, none⟩) hb', hcl j hj]
        rw [List.getElem?_eq_getElem hj] at hu ⊢
        simpa [limbV] using hu
      have hone : ∀ u ∈ S.map limbV, u.oneCell' = true := by
        intro u hu
        obtain ⟨y, _, rfl⟩ := List.mem_map.1 hu
        rfl
      have hfit : Fits (0 :: S) := by
        intro y hy
        rcases List.mem_cons.1 hy with rfl | hy
        · decide
        · exact (unhide hS).2.1 y hy
      have HSTEP := hide hstep; have HNEWS := hide hnews; have HONE := hide hone; have HFIT := hide hfit; have HCB := hide cb2
      have X0 := hide x0; have X1 := hide x1; have X2 := hide x2; have BEL := hide hbel; have HLEN := hide hlen
      have z0 := x0.lt; have z1 := x1.lt; have z2 := x2.lt
      have ls : S.length ≤ 4000000 := by omega
      have hk0 : (0 : Int) ≤ (k : Int) := by omega
      have hkI : (k : Int) < (B.length : Int) := by omega
      subst hbo
      have HA := hide hA; have HB := hide hb2'
      clear hstep hnews hone hfit cb2 x0 x1 x2 hbel hlen hv hx hc2 hA hB hS hb2'
      go_wp2_with (at_builtin; refine wpList_append_own _ rfl _ _ 28 rfl wr.heap.size 58 i0 (.int .u32 0) 1 4 Try.underlying28 hi hz0 hz1 hz2 rfl (by decide) _ 1 [.int .u32 0] rfl (own_zero wr) ⟨b, off, none⟩ S.length cap (S.map limbV) rfl (by simp) (unhide HNEWS) (unhide HONE) (by unfold maxLen; omega) (by omega) (by simp) ?_; intro v' w1 hown' hgrow _; have ho2 := hide hown'; have hgr := hide hgrow; clear hown' hgrow)
      obtain ⟨ao', cap', e1, e2, e3, e4⟩ := own_limbs (S := 0 :: S) (unhide ho2) (unhide HFIT)
      subst e1
      have hbl : Below wr.heap.size wr w1 := ((Below.refl _ _).alloc (Nat.le_refl _) _).grown (unhide hgr) (by simp) (fun g hg => by have e : some wr.heap.size = some g := hg; cases e; exact Nat.le_refl _)
      have x0 := (unhide X0).below hbl (unhide X0).lt
      have x1 := (unhide X1).below hbl (unhide X1).lt
      have x2 := (unhide X2).below hbl (unhide X2).lt
      have b1 : Below w.heap.size w w1 := (unhide BEL).trans (hbl.mono (unhide BEL).size)
      have hcb : w1.cell? ⟨b2, o2 + k, none⟩ = some (.int .u32 (x : Int)) := by rw [b1.cell (p := ⟨b2, o2 + k, none⟩) (unhide HB)]; exact unhide HCB
      have hb2w : b2 < w1.heap.size := Nat.lt_of_lt_of_le (unhide HB) b1.size
      have hlS : (0 :: S).length ≤ 35184372088830 := by simp; omega
      have hSA := hide ((unhide HA).below b1)
      have E2 := hide e2; have B1 := hide b1; have Y0 := hide x0; have Y1 := hide x1; have Y2 := hide x2
      have hK : ∀ w', Below w1.heap.size w1 w' → Below w1.heap.size w1 w' ∧ w'.cell? ⟨w.heap.size, 1, none⟩ = some (.slice ao A.length ca) ∧ w'.cell? ⟨w.heap.size + 1, 1, none⟩ = some (.slice (some ⟨b2, o2, none⟩) B.length cb) ∧ w'.cell? ⟨b2, o2 + k, none⟩ = some (.int .u32 (x : Int)) := fun w' h =>
        ⟨h, (x0.below h x0.lt).c1, (x1.below h x1.lt).c1, (h.cell (p := ⟨b2, o2 + k, none⟩) hb2w).trans hcb⟩
      have HK := hide hK
      clear hK x0 x1 x2 b1 hcb e2 e3 e4 ho2 hgr hbl X0 X1 X2 BEL HCB HNEWS HONE HFIT HA HB
      refine at_world (fun W => W = w1) rfl ?_
      rintro W0 e0
      subst e0
      go_region_held3 (fun w' => Below W0.heap.size W0 w' ∧ w'.cell? ⟨w.heap.size, 1, none⟩ = some (.slice ao A.length ca) ∧ w'.cell? ⟨w.heap.size + 1, 1, none⟩ = some (.slice (some ⟨b2, o2, none⟩) B.length cb) ∧ w'.cell? ⟨b2, o2 + k, none⟩ = some (.int .u32 (x : Int)))
        (first | exact unhide HK _ (Below.refl _ _).drew | exact unhide HK _ (by assumption))
        (first | (go_at_call 50; refine (single_any ao ca A x _ ((unhide hSA).below (And.left (by assumption))) bx (by omega)).mono ?_; rintro e w3 ⟨ao3, c3, L3, rfl, g1, g2, g3, g4, hb1⟩; have hB1 : Below W0.heap.size W0 w3 := Below.trans (And.left (by assumption)) (hb1.mono (Below.size (And.left (by assumption)))); have G1 := hide g1; have G3 := hide g3; have G4 := hide g4; have l3 : L3.length ≤ 35184372088830 := (by omega); clear hb1 g1 g2 g3 g4) | (go_at_call 47; refine (plus_any ao' ao3 cap' c3 (0 :: S) L3 _ ((unhide E2).below hB1) (unhide G1) hlS l3).mono ?_; rintro e w4 ⟨ao4, c4, L4, rfl, g1, g2, g3, g4, hb1⟩; have hB2 : Below W0.heap.size W0 w4 := hB1.trans (hb1.mono hB1.size); have J1 := hide g1; have J3 := hide g3; have J4 := hide g4; clear hb1 g1 g2 g3 g4))
      obtain ⟨b5, o5, e5, hb5, hc5⟩ := (unhide J1).ne (by have := unhide J3; omega)
      subst e5
      have HST := hide (unhide HSTEP L3 L4 (unhide G4) (unhide J4))
      have hl4 : L4.length + 2 * k ≤ A.length + 1 + 2 * B.length := by
        have h1 := unhide J3; have h2 := unhide G3; have h3 := unhide HLEN
        simp only [List.length_cons] at h1
        omega
      clear hc5 HSTEP
      go_wp2
      go_roundw
      case rel => exact ⟨k, b5, o5, c4, L4, by omega, by go_num, rfl, unhide J1, (unhide Y0).below hB2 (unhide Y0).lt, (unhide Y1).below hB2 (unhide Y1).lt, (unhide Y2).below hB2 (unhide Y2).lt, hl4, unhide HST, (unhide B1).trans (hB2.mono (unhide B1).size)⟩
      case measure => simp [intOf]

end Go.Proofs.Ytlcidapdmgchoaa

/- Determinants by the first row, as the reference reckons them. -/
namespace Go.Proofs.Ytlcidapdmgchoaa
open Go.RowKit

/-- The first k products, with turning signs. -/
def exP (r : Nat → Int) (cs : List Nat) (D : List Nat → Int) : Nat → Int
  | 0 => 0
  | k + 1 => exP r cs D k + (if k % 2 = 1 then -(r (cs[k]?.getD 0) * D (cs.eraseIdx k)) else r (cs[k]?.getD 0) * D (cs.eraseIdx k))

theorem exP_cons (r : Nat → Int) (c : Nat) (cs : List Nat) (D : List Nat → Int) : ∀ k, exP r (c :: cs) D (k + 1) = r c * D cs - exP r cs (fun l => D (c :: l)) k
  | 0 => by simp [exP]
  | k + 1 => by
    have ih := exP_cons r c cs D k
    rw [exP, ih]
    conv => rhs; rw [exP]
    simp only [List.getElem?_cons_succ, List.eraseIdx_cons_succ]
    rcases Nat.mod_two_eq_zero_or_one k with h | h
    · rw [if_pos (by omega), if_neg (by omega)]; omega
    · rw [if_neg (by omega), if_pos (by omega)]; omega
theorem exP_exD (r : Nat → Int) : ∀ (cs : List Nat) (D : List Nat → Int), exP r cs D cs.length = exD r cs D
  | [], D => rfl
  | c :: cs, D => by
    rw [List.length_cons, exP_cons, exP_exD r cs]; rfl

theorem exP_bound (r : Nat → Int) (cs : List Nat) (D : List Nat → Int) (Bd N : Nat) (k : Nat) (hr : ∀ j, j < k → (r (cs[j]?.getD 0)).natAbs ≤ Bd) (hD : ∀ j, j < k → (D (cs.eraseIdx j)).natAbs ≤ N) : (exP r cs D k).natAbs ≤ k * (Bd * N) := by
  induction k with
  | zero => simp [exP]
  | succ k ih =>
    have h1 := ih (fun c hc => hr c (by omega)) (fun c hc => hD c (by omega))
    have h2 : (r (cs[k]?.getD 0) * D (cs.eraseIdx k)).natAbs ≤ Bd * N := by
      rw [Int.natAbs_mul]; exact Nat.mul_le_mul (hr k (by omega)) (hD k (by omega))
    unfold exP
    rw [Nat.succ_mul]
    generalize r (cs[k]?.getD 0) * D (cs.eraseIdx k) = t at *
    split <;> omega

theorem refMul_num {B B' : Nat} {w : World} {v u : Value} {x y : Int} (hv : IsNum B w v x) (hu : IsNum B' w u y) (hx : x.natAbs < TOP) (hy : y.natAbs < TOP) :
    Calls Try.prog 25 #[v, u] w fun e w' => ∃ r, e = .returned r ∧ IsNum 0 w' r (x * y) ∧ Below w.heap.size w w' := by
  obtain ⟨na, ao, ca, A, rfl, a1, a2, a3, a4⟩ := hv.right hx
  obtain ⟨nb, bo, cb, C, rfl, b1, b2, b3, b4⟩ := hu.right hy
  have := refMul_any na nb ao bo ca cb A C w a1 b1 (by omega) (by omega)
  rwa [a3, b3] at this
theorem refAdd_num0 {B B' : Nat} {w : World} {v u : Value} {x y : Int} (hv : IsNum B w v x) (hu : IsNum B' w u y) (hx : x.natAbs < TOP) (hy : y.natAbs < TOP) :
    Calls Try.prog 24 #[v, u] w fun e w' => ∃ r, e = .returned r ∧ IsNum 0 w' r (x + y) ∧ Below w.heap.size w w' := by
  obtain ⟨na, ao, ca, A, rfl, a1, a2, a3, a4⟩ := hv.right hx
  obtain ⟨nb, bo, cb, C, rfl, b1, b2, b3, b4⟩ := hu.right hy
  have := refAdd_any na nb ao bo ca cb A C w a1 b1 (by omega) (by omega)
  rw [a3, b3] at this
  exact this.mono fun e w' ⟨r, h1, h2, h3⟩ => ⟨r, h1, (h2.num (by omega)).mono (Nat.zero_le _), h3⟩
theorem refNeg_num {B : Nat} {w : World} {v : Value} {x : Int} (hv : IsNum B w v x) (hx : x.natAbs < TOP) :
    Calls Try.prog 23 #[v] w fun e w' => ∃ r, e = .returned r ∧ IsNum 0 w' r (- x) ∧ Below w.heap.size w w' := by
  obtain ⟨na, ao, ca, A, rfl, a1, a2, a3, a4⟩ := hv.right hx
  have := refNeg_any na ao ca A w a1 (by omega)
  rw [a3] at this
  exact this.mono fun e w' ⟨r, h1, h2, h3⟩ => ⟨r, h1, h2.num (by omega), h3⟩

theorem natI_len (I : List Int) : (natI I).length = I.length := by simp [natI]

/-- Places that are some of the first n. -/
def InI (n : Nat) (I : List Int) : Prop := ∀ x ∈ I, 0 ≤ x ∧ x < n
theorem InI.nat {n : Nat} {I : List Int} (h : InI n I) : ∀ c ∈ natI I, c < n := by
  intro c hc
  obtain ⟨x, hx, rfl⟩ := List.mem_map.1 hc
  have := h x hx
  omega
theorem InI.at {n : Nat} {I : List Int} (h : InI n I) {j : Nat} (hj : j < I.length) : ∃ q : Nat, atI I j = (q : Int) ∧ q < n ∧ (natI I)[j]?.getD 0 = q := by
  have h1 := h _ (List.getElem_mem hj)
  refine ⟨(I[j]).toNat, ?_, by omega, ?_⟩
  · unfold atI; rw [List.getElem?_eq_getElem hj]; simp; omega
  · unfold natI; rw [List.getElem?_map, List.getElem?_eq_getElem hj]; rfl
theorem natI_erase (I : List Int) (k : Nat) : natI (I.eraseIdx k) = (natI I).eraseIdx k := by
  unfold natI; rw [List.eraseIdx_eq_take_drop_succ, List.eraseIdx_eq_take_drop_succ, List.map_append, List.map_take, List.map_drop]
theorem InI.erase {n : Nat} {I : List Int} (h : InI n I) (k : Nat) : InI n (I.eraseIdx k) := fun x hx => h x (List.mem_of_mem_eraseIdx hx)
theorem InI.tail {n : Nat} {x : Int} {I : List Int} (h : InI n (x :: I)) : InI n I := fun y hy => h y (by simp [hy])

theorem IntsAt.tail {w : World} {b off cap : Nat} {x : Int} {I : List Int} (h : IntsAt w (some ⟨b, off, none⟩) cap (x :: I)) : IntsAt w (some ⟨b, off + 1, none⟩) (cap - 1) I := by
  obtain ⟨b', off', e, h2, h3⟩ := h.ne (by simp)
  simp only [Option.some.injEq, Addr.mk.injEq, and_true] at e
  obtain ⟨rfl, rfl⟩ := e
  refine ⟨by have := h.1; simp at this; omega, fun y hy => h.2.1 y (by simp [hy]), .inr ⟨b, off + 1, rfl, h2, fun i hi => ?_⟩⟩
  have := h3 (i + 1) (by simp; omega)
  rw [show off + 1 + i = off + (i + 1) by omega, this]
  simp
theorem IntsAt.nil (w : World) (ao : Option Addr) (cap : Nat) : IntsAt w ao cap [] := ⟨by simp, by simp, .inl rfl⟩

end Go.Proofs.Ytlcidapdmgchoaa

/- Contract of the reference's Det. -/
namespace Go.Proofs.Ytlcidapdmgchoaa
open Go.RowKit
attribute [local go_sem ↓] Go.wp_at_zero Go.wp_at_succ

/-- What stands behind the product. -/
def TailD (w : World) (n : Bool) (a : Option Addr) (L : List Nat) (c : Nat) (np : Bool) (ap : Option Addr) (Lp : List Nat) (cp : Nat) (x y : Int) (g : Nat) (W : World) : Prop :=
  Box2 W g (.bool np) (.slice ap Lp.length cp) ∧ IsNum 0 W (.agg #[.bool np, .slice ap Lp.length cp]) y ∧ Below w.heap.size w W ∧ Box2 W (w.heap.size + 1) (.bool n) (.slice a L.length c) ∧ Box2 W w.heap.size (.bool false) (.slice none 0 0) ∧ w.heap.size + 1 < g ∧ IsNum 0 W (.agg #[.bool n, .slice a L.length c]) x

theorem Box2.oth {w : World} {b g : Nat} {x y x' y' : Value} (_ : Box2 w g x' y') (h : Box2 w b x y) (hlt : b < g) (u u' : Value) : Box2 ((w.setCell ⟨g, 0, none⟩ u).setCell ⟨g, 1, none⟩ u') b x y := h.other (Nat.ne_of_lt hlt) u u'
theorem below_put {w w' : World} {B g : Nat} {x y : Value} (_ : Box2 w' g x y) (h : Below B w w') (hg : B ≤ g) (u u' : Value) : Below B w ((w'.setCell ⟨g, 0, none⟩ u).setCell ⟨g, 1, none⟩ u') := (h.setCell (p := ⟨g, 0, none⟩) hg u).setCell (p := ⟨g, 1, none⟩) hg u'

theorem slice_tail (ba oa ca : Nat) (x : Int) (A : List Int) (hc : A.length + 1 ≤ ca) : ∃ asl : Option Addr, (∀ W, (Instr.slice 35 (.slice (some ⟨ba, oa, none⟩) (A.length + 1) ca) (some (.int .i64 1)) none none).run Try.prog W = .ok (.slice asl A.length (ca - 1)) W) ∧ ∀ w', IntsAt w' (some ⟨ba, oa, none⟩) ca (x :: A) → IntsAt w' asl (ca - 1) A := by
  by_cases h1 : ca = 1
  · subst h1
    have h0 : A = [] := List.length_eq_zero_iff.1 (by omega)
    subst h0
    exact ⟨some ⟨ba, oa, none⟩, fun W => by kernel_rfl, fun w' _ => IntsAt.nil _ _ _⟩
  · refine ⟨some ⟨ba, oa + 1, none⟩, fun W => ?_, fun w' h => h.tail⟩
    have h2 : (1 : Int) ≤ (A.length : Int) + 1 := by omega
    simp [Instr.slice, Instr.sliceBounds, Instr.sliceBound, go_sem, h1, h2]

set_option maxHeartbeats 8000000 in
theorem refDet_any (ao : Option Addr) (cap : Nat) (M : List Rw) (n : Nat) (hg : GoodM M n) : ∀ (k : Nat) (A C : List Int) (aa ac : Option Addr) (ca cc : Nat) (w : World), MatAt w ao cap M → A.length = k → C.length = k → k ≤ 6 → InI M.length A → InI n C → IntsAt w aa ca A → IntsAt w ac cc C →
    Calls Try.prog 16 #[.slice ao M.length cap, .slice aa A.length ca, .slice ac C.length cc] w fun e w' => ∃ v, e = .returned v ∧ IsNum 0 w' v (detD ((natI A).map (valM M)) (natI C)) ∧ Below w.heap.size w w' := by
  intro k
  induction k with
  | zero =>
    intro A C aa ac ca cc w hM hA hC _ _ _ _ _
    have e1 : A = [] := List.length_eq_zero_iff.1 hA
    subst e1
    have hv : detD ((natI []).map (valM M)) (natI C) = 1 := rfl
    rw [hv]
    have X0 := hide (Box2.new w (.bool false) (.slice none 0 0))
    have B0 := hide (show Below w.heap.size w (w.alloc (.cells #[.bool false, .slice none 0 0] 30)) from (Below.refl _ _).alloc (Nat.le_refl _) _)
    clear hM hA hC hv
    go_enter Try.func16, Try.ntmps16
    go_wp2_with fail
    refine (refOf_any 1 _ (by decide) (by decide)).mono ?_
    rintro e w1 ⟨v, rfl, iv, hb1⟩
    obtain ⟨n1, a1, c1, L1, rfl, i1⟩ := iv.num (by decide)
    have x3 := (unhide X0).below hb1 (by simp)
    have e0 := x3.c0; have e1 := x3.c1; have f0 := x3.free 0; have f1 := x3.free 1
    have b3 := (unhide B0).trans (hb1.mono (unhide B0).size)
    have N := hide ((IsNum.mono (show IsNum _ w1 (.agg #[.bool n1, .slice a1 L1.length c1]) 1 from ⟨n1, a1, c1, L1, rfl, i1⟩) (Nat.zero_le _)).stb (Stb.put2 (Base := 0) x3 (Nat.zero_le _) (.bool n1) (.slice a1 L1.length c1)))
    have B3 := hide ((b3.setCell (p := ⟨w.heap.size, 0, none⟩) (Nat.le_refl _) (.bool n1)).setCell (p := ⟨w.heap.size, 1, none⟩) (Nat.le_refl _) (.slice a1 L1.length c1))
    clear x3 b3 i1 hb1 X0 B0 iv
    go_wp2_with fail
    refine bodyPost_ret (v := .agg #[.bool n1, .slice a1 L1.length c1]) (by simp [results, Try.results16, go_sem, e0, e1]) rfl ⟨_, rfl, unhide N, unhide B3⟩
  | succ k ih =>
    intro A C aa ac ca cc w hM hA hC hk6 iA iC hAA hCC
    match A, hA with
    | xa :: A', hA =>
    obtain ⟨a0, ha0, ha1, ha2⟩ := iA.at (j := 0) (by simp)
    have hxa : xa = (a0 : Int) := by simpa [atI] using ha0
    subst hxa
    obtain ⟨r, hr⟩ : ∃ r, valM M a0 = r := ⟨_, rfl⟩
    obtain ⟨D, hD⟩ : ∃ D, detD ((natI A').map (valM M)) = D := ⟨_, rfl⟩
    obtain ⟨cs, hcs⟩ : ∃ cs, natI C = cs := ⟨_, rfl⟩
    have hcl : cs.length = k + 1 := by rw [← hcs]; simp [natI]; exact hC
    have hv : detD ((natI ((a0 : Int) :: A')).map (valM M)) (natI C) = exP r cs D cs.length := by
      rw [exP_exD, ← hr, ← hD, ← hcs]; rfl
    rw [hv]
    have hal : A'.length = k := by simpa using hA
    have hk5 : k ≤ 5 := by omega
    have hCin := iC.nat
    rw [hcs] at hCin
    have hBr : ∀ j, j < cs.length → (r (cs[j]?.getD 0)).natAbs ≤ B80 := fun j hj => by
      rw [← hr]
      refine (hg.2.2.2 a0 _ ha1 ?_).2
      rw [List.getElem?_eq_getElem hj]; exact hCin _ (List.getElem_mem hj)
    have hBD : ∀ j, j < cs.length → (D (cs.eraseIdx j)).natAbs ≤ NB k := fun j hj => by
      rw [← hD]
      have := detD_bound B80 ((natI A').map (valM M)) (cs.eraseIdx j) (by rw [List.length_map, natI_len, hal, List.length_eraseIdx, if_pos hj]; omega) (by
        intro f hf d hd
        obtain ⟨i, hi, rfl⟩ := List.mem_map.1 hf
        exact (hg.2.2.2 i d (iA.tail.nat i hi) (hCin d (List.mem_of_mem_eraseIdx hd))).2)
      rw [List.length_map, natI_len, hal] at this
      exact this
    have hN := NB_small k hk5
    have HBND := hide (fun j (hj : j < cs.length) => (show (exP r cs D j).natAbs < TOP ∧ (r (cs[j]?.getD 0)).natAbs < TOP ∧ (D (cs.eraseIdx j)).natAbs < TOP ∧ (r (cs[j]?.getD 0) * D (cs.eraseIdx j)).natAbs < TOP from by
      have e1 := exP_bound r cs D B80 (NB k) j (fun c hc => hBr c (by omega)) (fun c hc => hBD c (by omega))
      have e2 := hBr j hj
      have e3 := hBD j hj
      have hm : (r (cs[j]?.getD 0) * D (cs.eraseIdx j)).natAbs ≤ B80 * NB k := by
        rw [Int.natAbs_mul]; exact Nat.mul_le_mul e2 e3
      have h5 : j * (B80 * NB k) ≤ 5 * (B80 * NB k) := Nat.mul_le_mul_right _ (by omega)
      generalize B80 * NB k = BN at *
      generalize r (cs[j]?.getD 0) * D (cs.eraseIdx j) = t at *
      generalize exP r cs D j = u at *
      generalize j * BN = kb at *
      obtain ⟨g1, g2, g3, g4⟩ := hN
      refine ⟨by omega, by omega, by omega, by omega⟩))
    obtain ⟨ba, oa, hae, hba, hca⟩ := hAA.ne (by simp)
    obtain ⟨bc, oc, hce, hbc, hcc⟩ := hCC.ne (by omega)
    obtain ⟨b, off, hao, hbb, hcm⟩ := hM.ne (by omega)
    subst hae; subst hce; subst hao
    have hca0 := hca 0 (by simp)
    have hrow := hcm a0 ha1
    have hrl := hg.2.2.1 a0 ha1
    have hnum := hM.nums ha1
    obtain ⟨ar, har⟩ : ∃ x, (rwAt M a0).ao = x := ⟨_, rfl⟩
    obtain ⟨cr, hcr⟩ : ∃ x, (rwAt M a0).cap = x := ⟨_, rfl⟩
    obtain ⟨R, hR⟩ : ∃ x, (rwAt M a0).R = x := ⟨_, rfl⟩
    rw [har, hcr, hR] at hrow hnum
    rw [hR] at hrl
    obtain ⟨b1, o1, har1, hb1, hcn⟩ := hnum.ne (by
      obtain ⟨q, _, hq, _⟩ := iC.at (j := 0) (by omega)
      omega)
    subst har1
    have CDT := hide (fun (w' : World) (C' : List Int) (ac' : Option Addr) (cc' : Nat) (hl : C'.length = k) (iC' : InI n C') (hw : Below w.heap.size w w') (hi : IntsAt w' ac' cc' C') (aa' : Option Addr) (ca' : Nat) (hA' : IntsAt w' aa' ca' A') => ih A' C' aa' ac' ca' cc' w' (hM.below hw) hal hl (by omega) iA.tail iC' hA' hi)
    have HR := hide (fun q (hq : q < n) => (show rightN (nmAt R q) = true ∧ sval (nmAt R q).neg (nmAt R q).L = r q by
      have := (hg.2.2.2 a0 q ha1 hq).1
      rw [← hr]; unfold valM; unfold entry at this ⊢; rw [hR] at this ⊢; exact ⟨this, rfl⟩))
    have HIC := hide iC
    have HCC := hide (fun w' (h : Below w.heap.size w w') => hCC.below h)
    have HAA := hide (fun w' (h : Below w.heap.size w w') => hAA.below h)
    have HCEL := hide (fun w' (h : Below w.heap.size w w') => (show w'.cell? ⟨ba, oa, none⟩ = some (.int .i64 (a0 : Int)) ∧ w'.cell? ⟨b, off + a0, none⟩ = some (.slice (some ⟨b1, o1, none⟩) R.length cr) from
      ⟨by rw [h.cell (p := ⟨ba, oa, none⟩) hba]; simpa using hca0, by rw [h.cell (p := ⟨b, off + a0, none⟩) hbb]; exact hrow⟩))
    have HCC2 := hide (fun w' (h : Below w.heap.size w w') j (hj : j < C.length) q (hq : atI C j = (q : Int)) => (show w'.cell? ⟨bc, oc + j, none⟩ = some (.int .i64 (q : Int)) by rw [h.cell (p := ⟨bc, oc + j, none⟩) hbc, hcc j hj]; exact congrArg some (congrArg (Value.int .i64) hq)))
    have HNM := hide (fun w' (h : Below w.heap.size w w') => hnum.below h)
    have hrR : R.length = n := hrl
    have HM6 := hg.1
    have hn6 := hg.2.1
    have hM6I : (a0 : Int) < (M.length : Int) := by omega
    have hcapA := hAA.1
    have hcapC := hCC.1
    have hNat : ∀ j, j < C.length → (natI C)[j]?.getD 0 = cs[j]?.getD 0 := fun j _ => by rw [hcs]
    have HNA := hide hNat
    have HERA := hide (fun j => (show natI (C.eraseIdx j) = cs.eraseIdx j by rw [natI_erase, hcs]))
    have HDD := hide hD
    clear hM hAA hCC hba hbc hbb hb1 hca hcc hcm hcn hca0 hrow hnum hg ih hv hBr hBD hN hCin hNat hcs hD hr iA iC ha0 ha2
    generalize hCl : C.length = cl at *
    have HCL := hide hCl
    have hclk : cl = k + 1 := hC
    have X0 := hide ((Box2.new w (.bool false) (.slice none 0 0)).old (.cells #[.bool false, .slice none 0 0] 30))
    have x1 := Box2.new (w.alloc (.cells #[.bool false, .slice none 0 0] 30)) (.bool false) (.slice none 0 0)
    simp only [World.size_alloc] at x1
    have X1 := hide x1
    have B0 := hide (show Below w.heap.size w ((w.alloc (.cells #[.bool false, .slice none 0 0] 30)).alloc (.cells #[.bool false, .slice none 0 0] 30)) from ((Below.refl _ _).alloc (Nat.le_refl _) _).alloc (by simp) _)
    have hA1 : A'.length + 1 = k + 1 := by omega
    have hcl1 : cs.length = cl := by omega
    have hk0 : (((k : Nat) : Int) + 1 == 0) = false := by simp; omega
    have hcl6 : cl ≤ 6 := by omega
    clear hCl hC x1 hA
    go_enter Try.func16, Try.ntmps16
    go_wp2_with fail
    go_loopw [8] (fun i wr => ∃ (j : Nat) (m : Bool) (a : Option Addr) (c : Nat) (L : List Nat), j ≤ cl ∧ i = .int .i64 j ∧ Box2 wr (w.heap.size + 1) (.bool m) (.slice a L.length c) ∧ Box2 wr w.heap.size (.bool false) (.slice none 0 0) ∧ Hid (IsNum 0 wr (.agg #[.bool m, .slice a L.length c]) (exP r cs D j)) ∧ Hid (Below w.heap.size w wr)) (fun i _ => cl - (intOf i).toNat)
    case atStart => exact ⟨0, false, none, 0, [], Nat.zero_le _, rfl, unhide X1, unhide X0, hide (IsNum.zero _ _ _ _), B0⟩
    case round =>
      obtain ⟨j, m, a, c, L, hj, rfl, hx1, hx0, hnum, hb⟩ := hrel
      by_cases hlt : j < cl
      · obtain ⟨cj, hcj1, hcj2, hcj3⟩ := (unhide HIC).at (j := j) (by rw [unhide HCL]; exact hlt)
        rw [unhide HNA j hlt] at hcj3
        obtain ⟨asl, hsl, hslI⟩ := slice_tail ba oa ca (a0 : Int) A' (by simpa using hcapA)
        have hcR : cj < R.length := by omega
        obtain ⟨x, hx⟩ : ∃ x, nmAt R cj = x := ⟨_, rfl⟩
        obtain ⟨hright, hsv⟩ := unhide HR cj hcj2
        rw [hx] at hright hsv
        have hbnd := unhide HBND j (by omega)
        rw [hcj3] at hbnd
        have CWO := hide (fun w' (h : Below wr.heap.size wr w') => by
          have hh := (unhide hb).trans (h.mono (unhide hb).size)
          have := withoutI_any _ cc C j w' (unhide HCC _ hh) (by rw [unhide HCL]; exact hlt) (by rw [unhide HCL]; omega)
          rw [unhide HCL] at this
          exact this)
        have hlE : (C.eraseIdx j).length = k := by rw [List.length_eraseIdx, unhide HCL, if_pos hlt]; omega
        have CDET := hide (fun w' (ac' : Option Addr) (cc' : Nat) (h : Below wr.heap.size wr w') (hi : IntsAt w' ac' cc' (C.eraseIdx j)) => by
          have hh := (unhide hb).trans (h.mono (unhide hb).size)
          have := unhide CDT w' (C.eraseIdx j) ac' cc' hlE ((unhide HIC).erase j) hh hi asl (ca - 1) (hslI _ (unhide HAA _ hh))
          rw [unhide HERA j, unhide HDD] at this
          exact this)
        have CMUL := hide (fun w' v (h : Below wr.heap.size wr w') (hv : IsNum 0 w' v (D (cs.eraseIdx j))) => by
          have hh := (unhide hb).trans (h.mono (unhide hb).size)
          have h1 := (unhide HNM _ hh).limbs hcR
          rw [hx] at h1
          have h2 := right_num h1 hright (NewAt.zero h1)
          rw [hsv] at h2
          exact refMul_num h2 hv hbnd.2.1 hbnd.2.2.1)
        have HK := hide (fun w' (h : Below wr.heap.size wr w') => (show Below wr.heap.size wr w' ∧ w'.cell? ⟨ba, oa, none⟩ = some (.int .i64 (a0 : Int)) ∧ w'.cell? ⟨b, off + a0, none⟩ = some (.slice (some ⟨b1, o1, none⟩) R.length cr) ∧ w'.cell? ⟨bc, oc + j, none⟩ = some (.int .i64 (cj : Int)) ∧ w'.cell? ⟨b1, o1 + cj * 2, none⟩ = some (.bool x.neg) ∧ w'.cell? ⟨b1, o1 + cj * 2 + 1, none⟩ = some (.slice x.ao x.L.length x.cap) by
          have hh := (unhide hb).trans (h.mono (unhide hb).size)
          have q := (unhide HNM _ hh).cells hcR
          rw [hx] at q
          exact ⟨h, (unhide HCEL _ hh).1, (unhide HCEL _ hh).2, unhide HCC2 _ hh j hlt cj hcj1, q.1, q.2⟩))
        have hres : Hid (exP r cs D (j + 1) = exP r cs D j + (if j % 2 = 1 then -(r cj * D (cs.eraseIdx j)) else r cj * D (cs.eraseIdx j))) := by
          unfold Hid; conv => lhs; unfold exP
          rw [hcj3]
        have HBN := hide hbnd
        have HT := hide (fun (W : World) (g : Nat) {np : Bool} {ap : Option Addr} {Lp : List Nat} {cp : Nat} (h1 : Below wr.heap.size wr W) (h3 : Box2 W g (.bool np) (.slice ap Lp.length cp)) (h4 : IsNum 0 W (.agg #[.bool np, .slice ap Lp.length cp]) (r cj * D (cs.eraseIdx j))) (h5 : wr.heap.size ≤ g) =>
          (show TailD w m a L c np ap Lp cp (exP r cs D j) (r cj * D (cs.eraseIdx j)) g W from ⟨h3, h4, (unhide hb).trans (h1.mono (unhide hb).size), hx1.below h1 hx1.lt, hx0.below h1 hx0.lt, by have := hx1.lt; omega, (unhide hnum).below h1⟩))
        obtain ⟨nx, ax, cx, Lx⟩ := x
        simp only at HK
        have hjI : (j : Int) < (cl : Int) := by omega
        have hcRI : (cj : Int) < (R.length : Int) := by omega
        have hA0 : 0 < A'.length + 1 := by omega
        have hA0I : (0 : Int) < ((A'.length : Int) + 1) := by omega
        have hA1I : (1 : Int) ≤ ((A'.length : Int) + 1) := by omega
        clear hal hA1 hrR hrl hclk hcl1 hcl hlE
        clear hx1 hx0 hright hsv hbnd hx hslI HR HBND CDT HNM HCEL HCC2 HCC HAA HIC HERA HDD HNA X0 X1 B0 hnum hcj1 hcj2 hcj3
        go_wp2_with fail
        refine at_world (fun W => W = wr) rfl ?_
        rintro W0 e0
        subst e0
        have HKA := hide (fun wn o (h1 : Below W0.heap.size W0 wn) => unhide HK (wn.alloc o) (h1.alloc h1.size o))
        have HKS := hide (fun wn g u u' (h1 : Below W0.heap.size W0 wn) (h4 : W0.heap.size ≤ g) => unhide HK ((wn.setCell ⟨g, 0, none⟩ u).setCell ⟨g, 1, none⟩ u') ((h1.setCell (p := ⟨g, 0, none⟩) h4 u).setCell (p := ⟨g, 1, none⟩) h4 u'))
        have BXA := hide (fun wn (h1 : Below (W0.drew.alloc (.cells #[.bool false, .slice none 0 0] 30)).heap.size (W0.drew.alloc (.cells #[.bool false, .slice none 0 0] 30)) wn) => (Box2.new W0.drew (.bool false) (.slice none 0 0)).below h1 (by simp))
        have BXB := hide (fun wn wm (h2 : Below (wn.alloc (.cells #[.bool false, .slice none 0 0] 30)).heap.size (wn.alloc (.cells #[.bool false, .slice none 0 0] 30)) wm) => (Box2.new wn (.bool false) (.slice none 0 0)).below h2 (by simp))
        go_region_held3 (fun w' => Below W0.heap.size W0 w' ∧ w'.cell? ⟨ba, oa, none⟩ = some (.int .i64 (a0 : Int)) ∧ w'.cell? ⟨b, off + a0, none⟩ = some (.slice (some ⟨b1, o1, none⟩) R.length cr) ∧ w'.cell? ⟨bc, oc + j, none⟩ = some (.int .i64 (cj : Int)) ∧ w'.cell? ⟨b1, o1 + cj * 2, none⟩ = some (.bool nx) ∧ w'.cell? ⟨b1, o1 + cj * 2 + 1, none⟩ = some (.slice ax Lx.length cx))
          (first | assumption | exact unhide HK _ (Below.refl _ _).drew | exact unhide HK _ (by assumption) | exact unhide HKA _ _ (by assumption) | exact unhide HKA _ _ (And.left (by assumption)) | exact unhide HKS _ _ _ _ hBwm (by first | exact Nat.le_refl _ | exact Below.size (by assumption)) | fail "KK")
          (first | (go_at_call 36; refine (unhide CWO _ (And.left (by assumption))).mono ?_; rintro e wa ⟨aw, cw, rfl, iw, hb1⟩; have hBwa : Below W0.heap.size W0 wa := Below.trans (And.left (by assumption)) (hb1.mono (Below.size (And.left (by assumption)))); (first | (have xb := Box2.below xb hb1 xb.lt) | (have xb : Box2 wa W0.heap.size (.bool false) (.slice none 0 0) := unhide BXA _ hb1) | (have xb := unhide BXB _ _ hb1) | skip); have IWO := hide iw; clear iw; clear hb1) | (go_at_call 16; refine (unhide CDET _ _ _ (And.left (by assumption)) (by first | exact unhide IWO | exact (unhide IWO).below ((Below.refl _ _).alloc (Nat.le_refl _) _))).mono ?_; rintro e wd ⟨vd, rfl, id, hb1⟩; have hBwd : Below W0.heap.size W0 wd := Below.trans (And.left (by assumption)) (hb1.mono (Below.size (And.left (by assumption)))); (first | (have xb := Box2.below xb hb1 xb.lt) | (have xb : Box2 wd W0.heap.size (.bool false) (.slice none 0 0) := unhide BXA _ hb1) | (have xb := unhide BXB _ _ hb1) | skip); have IDT := hide id; clear id; clear hb1) | (go_at_call 25; refine (unhide CMUL _ _ (And.left (by assumption)) (by first | exact unhide IDT | exact (unhide IDT).below ((Below.refl _ _).alloc (Nat.le_refl _) _))).mono ?_; rintro e wm ⟨pv, rfl, ⟨np, ap, cp, Lp, rfl, ip⟩, hb1⟩; have hBwm : Below W0.heap.size W0 wm := Below.trans (And.left (by assumption)) (hb1.mono (Below.size (And.left (by assumption)))); (first | (have xb := Box2.below xb hb1 xb.lt) | (have xb : Box2 wm W0.heap.size (.bool false) (.slice none 0 0) := unhide BXA _ hb1) | (have xb := unhide BXB _ _ hb1) | skip); have IP := hide (show IsNum 0 wm (.agg #[.bool np, .slice ap Lp.length cp]) (r cj * D (cs.eraseIdx j)) from ⟨np, ap, cp, Lp, rfl, ip⟩); (first | (have y0 := xb.c0; have y1 := xb.c1; have f0 := xb.free 0; have f1 := xb.free 1) | skip); clear ip; clear hb1) | fail "NO ARM")
        all_goals
          first
            | refine at_then (TailD _ _ _ _ _ _ _ _ _ _ _ W0.heap.size) (unhide HT _ _ (And.left (by assumption)) (xb.put _ _) ((unhide IP).stb (Stb.put2 (Base := 0) xb (Nat.zero_le _) _ _)) (by first | exact Nat.le_refl _ | exact Below.size (by assumption))) ?_
            | refine at_then (TailD _ _ _ _ _ _ _ _ _ _ _ wa.heap.size) (unhide HT _ _ (And.left (by assumption)) (xb.put _ _) ((unhide IP).stb (Stb.put2 (Base := 0) xb (Nat.zero_le _) _ _)) (by first | exact Nat.le_refl _ | exact Below.size (by assumption))) ?_
            | refine at_then (TailD _ _ _ _ _ _ _ _ _ _ _ wd.heap.size) (unhide HT _ _ (And.left (by assumption)) (xb.put _ _) ((unhide IP).stb (Stb.put2 (Base := 0) xb (Nat.zero_le _) _ _)) (by first | exact Nat.le_refl _ | exact Below.size (by assumption))) ?_
            | refine at_then (TailD _ _ _ _ _ _ _ _ _ _ _ wm.heap.size) (unhide HT _ _ (And.left (by assumption)) (Box2.new _ _ _) ((unhide IP).below ((Below.refl _ _).alloc (Nat.le_refl _) _)) (Below.size (by assumption))) ?_
            | fail "NO WAY"
        all_goals
          rintro W ⟨xg, iq, hbW, x1, x0, hgl, isum⟩
          have kc0 := xg.c0; have kc1 := xg.c1; have d0 := x1.c0; have d1 := x1.c1; have g0 := xg.free 0; have g1 := xg.free 1
          have IS := hide isum; have IQ := hide iq; have BW := hide hbW; have XS1 := hide x1; have XS0 := hide x0; have XG := hide xg
          try clear y0 y1 f0 f1
          try clear xb
          clear xg iq isum hbW x1 x0 hBwm hBwd hBwa IP IDT IWO HT BXA BXB HKS HKA HK CWO CDET CMUL hb
          by_cases hpar : j % 2 = 1
          · have hp1 : ((j : Int).tmod 2 == 1) = true := by
              have : (j : Int).tmod 2 = ((j % 2 : Nat) : Int) := by simp [Int.tmod_eq_emod]
              rw [this, hpar]; rfl
            go_wp2_with fail
            refine (refNeg_num (unhide IQ) (unhide HBN).2.2.2).mono ?_
            rintro e w1 ⟨v1, rfl, ⟨n1, a1, c1, L1, rfl, i1⟩, hb1⟩
            have xg1 := (unhide XG).below hb1 (unhide XG).lt
            have x11 := (unhide XS1).below hb1 (unhide XS1).lt
            have x01 := (unhide XS0).below hb1 (unhide XS0).lt
            have hw1 := (unhide BW).trans (hb1.mono (unhide BW).size)
            have e0 := xg1.c0; have e1 := xg1.c1; have q0 := xg1.free 0; have q1 := xg1.free 1
            have xgp := xg1.put (.bool n1) (.slice a1 L1.length c1)
            have x1p := Box2.oth xg1 x11 hgl (.bool n1) (.slice a1 L1.length c1)
            have x0p := Box2.oth xg1 x01 (Nat.lt_of_succ_lt hgl) (.bool n1) (.slice a1 L1.length c1)
            have z0 := xgp.c0; have z1 := xgp.c1; have z2 := x1p.c0; have z3 := x1p.c1
            have st : Stb 0 w1 _ := Stb.put2 (Base := 0) xg1 (Nat.zero_le _) (.bool n1) (.slice a1 L1.length c1)
            have IQ2 := hide ((show IsNum 0 w1 (.agg #[.bool n1, .slice a1 L1.length c1]) (-(r cj * D (cs.eraseIdx j))) from ⟨n1, a1, c1, L1, rfl, i1⟩).stb st)
            have IS2 := hide (((unhide IS).below hb1).stb st)
            have BW2 := hide (below_put xg1 hw1 (Nat.le_of_lt (Nat.lt_of_succ_lt hgl)) (.bool n1) (.slice a1 L1.length c1))
            have XP1 := hide x1p; have XP0 := hide x0p
            clear i1 hb1 xg1 x11 x01 hw1 xgp x1p x0p st IQ IS BW XS1 XS0 XG kc0 kc1 d0 d1 g0 g1
            have IQ := IQ2; have IS := IS2; have BW := BW2; have XS1 := XP1; have XS0 := XP0
            clear IQ2 IS2 BW2 XP1 XP0
            go_wp2_with fail
            refine (refAdd_num0 (unhide IS) (unhide IQ) (unhide HBN).1 (by rw [Int.natAbs_neg]; exact (unhide HBN).2.2.2)).mono ?_
            rintro e w4 ⟨rr, rfl, ⟨n4, a4, c4, L4, rfl, i4⟩, hb4⟩
            have x4 := (unhide XS1).below hb4 (unhide XS1).lt
            have x5 := (unhide XS0).below hb4 (unhide XS0).lt
            have e0 := x4.c0; have e1 := x4.c1; have fr0 := x4.free 0; have fr1 := x4.free 1
            have N4 := hide ((show IsNum 0 w4 (.agg #[.bool n4, .slice a4 L4.length c4]) _ from ⟨n4, a4, c4, L4, rfl, i4⟩).stb (Stb.put2 (Base := 0) x4 (Nat.zero_le _) (.bool n4) (.slice a4 L4.length c4)))
            have B4 := hide ((((unhide BW).trans (hb4.mono (unhide BW).size)).setCell (p := ⟨w.heap.size + 1, 0, none⟩) (by simp) (.bool n4)).setCell (p := ⟨w.heap.size + 1, 1, none⟩) (by simp) (.slice a4 L4.length c4))
            have X4 := hide (x4.put (.bool n4) (.slice a4 L4.length c4)); have X5 := hide (x5.other (g := w.heap.size + 1) (by omega) (.bool n4) (.slice a4 L4.length c4))
            clear i4 hb4 x4 x5 XS1 XS0 IS IQ BW HBN
            go_wp2_with fail
            go_roundw
            case rel => exact ⟨j + 1, n4, a4, c4, L4, by omega, by go_num, unhide X4, unhide X5, hide (by rw [hres.out, if_pos hpar]; exact unhide N4), B4⟩
            case measure => simp [intOf]; omega
          · have hp1 : ((j : Int).tmod 2 == 1) = false := by
              have : (j : Int).tmod 2 = ((j % 2 : Nat) : Int) := by simp [Int.tmod_eq_emod]
              rw [this]; simp; omega
            go_wp2_with fail
            refine (refAdd_num0 (unhide IS) (unhide IQ) (unhide HBN).1 (unhide HBN).2.2.2).mono ?_
            rintro e w4 ⟨rr, rfl, ⟨n4, a4, c4, L4, rfl, i4⟩, hb4⟩
            have x4 := (unhide XS1).below hb4 (unhide XS1).lt
            have x5 := (unhide XS0).below hb4 (unhide XS0).lt
            have e0 := x4.c0; have e1 := x4.c1; have fr0 := x4.free 0; have fr1 := x4.free 1
            have N4 := hide ((show IsNum 0 w4 (.agg #[.bool n4, .slice a4 L4.length c4]) _ from ⟨n4, a4, c4, L4, rfl, i4⟩).stb (Stb.put2 (Base := 0) x4 (Nat.zero_le _) (.bool n4) (.slice a4 L4.length c4)))
            have B4 := hide ((((unhide BW).trans (hb4.mono (unhide BW).size)).setCell (p := ⟨w.heap.size + 1, 0, none⟩) (by simp) (.bool n4)).setCell (p := ⟨w.heap.size + 1, 1, none⟩) (by simp) (.slice a4 L4.length c4))
            have X4 := hide (x4.put (.bool n4) (.slice a4 L4.length c4)); have X5 := hide (x5.other (g := w.heap.size + 1) (by omega) (.bool n4) (.slice a4 L4.length c4))
            clear i4 hb4 x4 x5 XS1 XS0 IS IQ BW HBN
            go_wp2_with fail
            go_roundw
            case rel => exact ⟨j + 1, n4, a4, c4, L4, by omega, by go_num, unhide X4, unhide X5, hide (by rw [hres.out, if_neg hpar]; exact unhide N4), B4⟩
            case measure => simp [intOf]; omega
      · have hkk : cl = j := by omega
        have d0 := hx1.c0; have d1 := hx1.c1; have e0 := hx0.c0; have e1 := hx0.c1; have fr0 := hx0.free 0; have fr1 := hx0.free 1
        have N4 := hide ((unhide hnum).stb (Stb.put2 (Base := 0) hx0 (Nat.zero_le _) (.bool m) (.slice a L.length c)))
        have B4 := hide (((unhide hb).setCell (p := ⟨w.heap.size, 0, none⟩) (Nat.le_refl _) (.bool m)).setCell (p := ⟨w.heap.size, 1, none⟩) (Nat.le_refl _) (.slice a L.length c))
        rw [show j = cs.length by omega] at N4
        subst hkk
        clear hx1 hx0 hnum hb X0 X1 B0
        go_wp2_with fail
        refine bodyPost_ret (v := .agg #[.bool m, .slice a L.length c]) (by simp [results, Try.results16, go_sem, e0, e1]) rfl ⟨_, rfl, unhide N4, unhide B4⟩

end Go.Proofs.Ytlcidapdmgchoaa

/- Contracts of the reference's Width, Rising. -/
namespace Go.Proofs.Ytlcidapdmgchoaa
open Go.RowKit
attribute [local go_sem ↓] Go.wp_at_zero Go.wp_at_succ

set_option maxHeartbeats 4000000 in
theorem refWidth_any (ao : Option Addr) (cap : Nat) (M : List Rw) (w : World) (h : MatAt w ao cap M) (hs : SmallM M) :
    Calls Try.prog 19 #[.slice ao M.length cap] w fun e w' => e = .returned (.int .i64 (width M)) ∧ w = w' := by
  by_cases h0 : M = []
  · subst h0
    go_enter Try.func19, Try.ntmps19
    go_wp2
    go_ret
    exact ⟨rfl, rfl⟩
  · have hp : 0 < M.length := List.length_pos_iff.2 h0
    obtain ⟨b, off, rfl, hb, hc⟩ := h.ne hp
    have hc0 := hc 0 hp
    rw [Nat.add_zero] at hc0
    have hne : ((M.length : Int) == 0) = false := by simp; exact h0
    have hr := hs.row 0
    clear h hc hs h0
    unfold width
    generalize (rwAt M 0).R.length = n at *
    generalize (rwAt M 0).ao = a0 at *
    generalize (rwAt M 0).cap = c0 at *
    generalize M.length = m at *
    have hmI : (0 : Int) < (m : Int) := by omega
    go_enter Try.func19, Try.ntmps19
    go_wp2
    go_ret
    exact ⟨rfl, rfl⟩

set_option maxHeartbeats 8000000 in
theorem refRising_any (ao : Option Addr) (cap : Nat) (I : List Int) (n : Int) (w : World) (h : IntsAt w ao cap I) (hl : I.length ≤ 35184372088830) :
    Calls Try.prog 18 #[.slice ao I.length cap, .int .i64 n] w fun e w' => e = .returned (.bool (risB I n)) ∧ Below w.heap.size w w' := by
  obtain ⟨sb, hsb⟩ : ∃ sb, risB I n = sb := ⟨_, rfl⟩
  rw [hsb]
  have HE := hide hsb
  have HI := hide h
  obtain ⟨il, hil⟩ : ∃ il, I.length = il := ⟨_, rfl⟩
  have HL := hide hil
  rw [hil] at hl ⊢
  clear hsb h hil
  go_enter Try.func18, Try.ntmps18
  go_wp2_with fail
  go_loopw [5] (fun i wr => ∃ k : Nat, k ≤ il ∧ i = .int .i64 k ∧ Hid (∀ j, j < k → okAt I n j) ∧ Below w.heap.size w wr) (fun i _ => il - (intOf i).toNat)
  case atStart => exact ⟨0, Nat.zero_le _, rfl, by unfold Hid; intro j hj; omega, Below.refl _ _⟩
  case round =>
    obtain ⟨k, hk, rfl, hq, hb⟩ := hrel
    by_cases hlt : k < il
    · obtain ⟨b, off, hao, hbb, hc⟩ := ((unhide HI).below hb).ne (by rw [unhide HL]; omega)
      have hck := hc k (by rw [unhide HL]; exact hlt)
      have hcp := fun (h : 0 < k) => hc (k - 1) (by rw [unhide HL]; omega)
      change wr.cell? ⟨b, off + k, none⟩ = some (.int .i64 (atI I k)) at hck
      have hkI : (k : Int) < (il : Int) := by omega
      have HF := hide (fun (h : ¬ okAt I n k) => (show sb = false by rw [← unhide HE]; unfold risB; exact decide_eq_false fun hh => h (hh k (by rw [unhide HL]; exact hlt))))
      have HQ := hide (fun (h : okAt I n k) => (show ∀ j, j < k + 1 → okAt I n j from fun j hj => by
        rcases Nat.lt_succ_iff_lt_or_eq.1 hj with h' | rfl
        · exact hq.out j h'
        · exact h))
      have HOK : Hid (okAt I n k ↔ 0 ≤ atI I k ∧ atI I k < n ∧ (0 < k → atI I (k - 1) < atI I k)) := Iff.rfl
      have hcp' : 0 < k → wr.cell? ⟨b, off + (k - 1), none⟩ = some (.int .i64 (atI I (k - 1))) := hcp
      obtain ⟨x, hx⟩ : ∃ x, atI I k = x := ⟨_, rfl⟩
      obtain ⟨y, hy⟩ : ∃ y, atI I (k - 1) = y := ⟨_, rfl⟩
      rw [hx] at hck HOK
      rw [hy] at hcp' HOK
      subst hao
      clear hc hcp hq hx hy
      by_cases g1 : x < 0
      · have d1 : decide (x < 0) = true := decide_eq_true g1
        have HF2 := hide (unhide HF (fun h => by have := (HOK.out.1 h).1; omega))
        clear HF HQ HOK hcp'
        go_wp2_with fail
        go_quiet (fail)
        go_wp2_with fail
        go_ret
        exact ⟨ret_bool (unhide HF2).symm, below_drewN hb nq⟩
      · have d1 : decide (x < 0) = false := decide_eq_false g1
        by_cases g2 : n ≤ x
        · have d2 : decide (n ≤ x) = true := decide_eq_true g2
          have HF2 := hide (unhide HF (fun h => by have := (HOK.out.1 h).2.1; omega))
          clear HF HQ HOK hcp'
          go_wp2_with fail
          go_quiet (fail)
          go_wp2_with fail
          go_ret
          exact ⟨ret_bool (unhide HF2).symm, below_drewN hb nq⟩
        · have d2 : decide (n ≤ x) = false := decide_eq_false g2
          rcases Nat.eq_zero_or_pos k with g3 | g3
          · have HQ2 := hide (unhide HQ (HOK.out.2 ⟨by omega, by omega, fun h => absurd h (by omega)⟩))
            have d3 : decide (0 < k) = false := decide_eq_false (by omega)
            clear HF HQ HOK hcp' g3
            go_wp2_with fail
            go_quiet (fail)
            go_wp2_with fail
            go_roundw
            case rel => exact ⟨k + 1, by omega, by go_num, HQ2, below_drewN hb nq⟩
            case measure => simp [intOf]; omega
          · have d3 : decide ((0 : Int) < (k : Int)) = true := decide_eq_true (by omega)
            have hcy := hcp' g3
            have hk1 : (0 : Int) ≤ (k : Int) - 1 := by omega
            have hk2 : (k : Int) - 1 < (il : Int) := by omega
            have hkt : ((k : Int) - 1).toNat = k - 1 := by omega
            clear hcp'
            by_cases g4 : x ≤ y
            · have d4 : decide (x ≤ y) = true := decide_eq_true g4
              have HF2 := hide (unhide HF (fun h => by have := (HOK.out.1 h).2.2 g3; omega))
              clear HF HQ HOK
              go_wp2_with fail
              go_quiet (fail)
              go_wp2_with fail
              go_ret
              exact ⟨ret_bool (unhide HF2).symm, below_drewN hb nq⟩
            · have d4 : decide (x ≤ y) = false := decide_eq_false g4
              have HQ2 := hide (unhide HQ (HOK.out.2 ⟨by omega, by omega, fun _ => by omega⟩))
              clear HF HQ HOK
              go_wp2_with fail
              go_quiet (fail)
              go_wp2_with fail
              go_roundw
              case rel => exact ⟨k + 1, by omega, by go_num, HQ2, below_drewN hb nq⟩
              case measure => simp [intOf]; omega
    · have hkk : il = k := by omega
      have HC := hide (show sb = true by rw [← unhide HE]; unfold risB; exact decide_eq_true fun j hj => hq.out j (by have := unhide HL; omega))
      subst hkk
      clear hq
      go_wp2_with fail
      go_ret
      exact ⟨ret_bool (unhide HC).symm, hb⟩

end Go.Proofs.Ytlcidapdmgchoaa

/- The law ExactMinors, walked. Written by mkxl3.py. -/
namespace Go.Proofs.Ytlcidapdmgchoaa
open Go.RowKit
attribute [local go_sem ↓] Go.wp_at_zero Go.wp_at_succ

theorem ris_in {I : List Int} {n : Nat} (h : risB I n = true) : InI n I := by
  unfold risB at h
  have h := of_decide_eq_true h
  intro x hx
  obtain ⟨j, hj, rfl⟩ := List.getElem_of_mem hx
  obtain ⟨h1, h2, _⟩ := h j hj
  unfold atI at h1 h2
  rw [List.getElem?_eq_getElem hj] at h1 h2
  simp at h1 h2
  omega
theorem ris_len {I : List Int} {n : Nat} (h : risB I n = true) : I.length ≤ n := by
  unfold risB at h
  have h := of_decide_eq_true h
  have key : ∀ j, j < I.length → (j : Int) ≤ atI I j := by
    intro j
    induction j with
    | zero => intro hj; exact (h 0 hj).1
    | succ j ih =>
      intro hj
      have h1 := ih (by omega)
      have h2 := (h (j + 1) hj).2.2 (by omega)
      rw [Nat.add_sub_cancel] at h2
      omega
  rcases Nat.eq_zero_or_pos I.length with e | e
  · omega
  · have h1 := key (I.length - 1) (by omega)
    have h2 := (h (I.length - 1) (by omega)).2.1
    omega

set_option maxHeartbeats 4000000 in
theorem exactMinors_walk (ao aa ac : Option Addr) (cap ca cc : Nat) (M : List Rw) (A C : List Int) (w : World) (h : MatAt w ao cap M) (hs : SmallM M) (hA : IntsAt w aa ca A) (hC : IntsAt w ac cc C) (la : A.length ≤ 35184372088830) (lc : C.length ≤ 35184372088830) :
    Calls Try.prog 5 #[.slice ao M.length cap, .slice aa A.length ca, .slice ac C.length cc] w fun e w' => e = .returned (.bool true) ∧ Below w.heap.size w w' := by
  have CL := hide (fun w' h' => light_any ao cap M 10 w' h' hs)
  have CD := hide (fun w' h1 h2 h3 => mminor_any ao aa ac cap ca cc M A C w' h1 hs h2 h3 la lc)
  have CC := hide (fun w' h' => refCheck_any ao cap M w' h' hs)
  have CR1 := hide (fun w' h' => refRising_any aa ca A (M.length : Nat) w' h' la)
  have CR2 := hide (fun w' h' => refRising_any ac cc C (width M : Nat) w' h' lc)
  have CW := hide (fun w' h' => refWidth_any ao cap M w' h' hs)
  have HM := hide h; have HA := hide hA; have HC := hide hC
  have hl := hs.1
  have hwl : width M ≤ 35184372088830 := hs.row 0
  by_cases hlit : litB 10 M = true
  rotate_left
  · have hlf : litB 10 M = false := by simpa using hlit
    rw [hlf] at CL
    clear h hs hlit hlf CD CC CR1 CR2 CW hA hC
    go_enter Try.func5, Try.ntmps5
    go_wp2_with fail
    refine (unhide CL _ (unhide HM)).mono ?_
    rintro e w1 ⟨rfl, hb1⟩
    have B1 := hide hb1
    clear hb1 CL HM
    go_wp2_with fail
    refine (awake3_any _).mono ?_
    rintro e w3 ⟨rfl, hb3⟩
    have B3 := hide ((unhide B1).trans (hb3.mono (unhide B1).size))
    clear hb3 B1
    go_wp2_with fail
    go_ret
    exact ⟨rfl, unhide B3⟩
  rw [hlit] at CL
  by_cases h0 : mChk M = 0
  · have hg := good_of h h0
    by_cases r1 : risB A M.length = true
    · by_cases r2 : risB C (width M) = true
      · by_cases hlen : A.length = C.length
        · have hE : mnE M A C = 0 := by unfold mnE; rw [if_pos h0, r1, r2]; simp [hlen]
          have hV : mnV M A C = detD ((natI A).map (valM M)) (natI C) := by unfold mnV; rw [if_pos hE]
          have CR := hide (fun (w' : World) (hM' : MatAt w' ao cap M) (hi : IntsAt w' aa ca A) (hj : IntsAt w' ac cc C) => refDet_any ao cap M (width M) hg A.length A C aa ac ca cc w' hM' rfl hlen.symm (by have := ris_len r1; have := hg.1; omega) (ris_in r1) (ris_in r2) hi hj)
          rw [hE, hV] at CD
          rw [h0] at CC
          rw [r1] at CR1
          rw [r2] at CR2
          generalize detD ((natI A).map (valM M)) (natI C) = dv at *
          generalize width M = wd at *
          have hlenI : ((A.length : Int) == (C.length : Int)) = true := by simp; omega
          generalize hml : M.length = ml at *
          generalize hal : A.length = al at *
          generalize hcl : C.length = cl at *
          clear h hs hlit h0 hg hE hV hml r1 r2 hlen hA hC hal hcl
          go_enter Try.func5, Try.ntmps5
          go_wp2_with fail
          refine (unhide CL _ (unhide HM)).mono ?_
          rintro e w1 ⟨rfl, hb1⟩
          have B1 := hide hb1
          clear hb1 CL
          go_wp2_with fail
          refine (unhide CD _ ((unhide HM).below (unhide B1)) ((unhide HA).below (unhide B1)) ((unhide HC).below (unhide B1))).mono ?_
          rintro e w2 ⟨v, rfl, ⟨n2, a2, c2, L2, rfl, j2⟩, hb2⟩
          have B2 := hide ((unhide B1).trans (hb2.mono (unhide B1).size))
          have bx : Below w2.heap.size w2 (w2.alloc (.cells #[.bool n2, .slice a2 L2.length c2] 30)) := (Below.refl _ _).alloc (Nat.le_refl _) _
          have X2 := hide (Box2.new w2 (.bool n2) (.slice a2 L2.length c2))
          have I2 := hide ((show IsNum 0 w2 (.agg #[.bool n2, .slice a2 L2.length c2]) dv from ⟨n2, a2, c2, L2, rfl, j2⟩).below bx)
          have B2' := hide ((unhide B2).trans (bx.mono (unhide B2).size))
          clear hb2 j2 B1 CD bx B2
          go_wp2_with fail
          refine (unhide CC _ ((unhide HM).below (unhide B2'))).mono ?_
          rintro e w3 ⟨rfl, hb3⟩
          have B3 := hide ((unhide B2').trans (hb3.mono (unhide B2').size))
          have X3 := hide ((unhide X2).below hb3 (by simp))
          have I3 := hide ((unhide I2).below hb3)
          clear hb3 CC B2' X2 I2
          go_wp2_with fail
          refine (unhide CR1 _ ((unhide HA).below (unhide B3))).mono ?_
          rintro e w5 ⟨rfl, hb4⟩
          have B4 := hide ((unhide B3).trans (hb4.mono (unhide B3).size))
          have X4 := hide ((unhide X3).below hb4 (unhide X3).lt)
          have I4 := hide ((unhide I3).below hb4)
          clear hb4 CR1 B3 X3 I3
          have B3 := B4; have X3 := X4; have I3 := I4
          clear B4 X4 I4
          go_wp2_with fail
          refine (unhide CW _ ((unhide HM).below (unhide B3))).mono ?_
          rintro e wz ⟨rfl, rfl⟩
          clear CW
          go_wp2_with fail
          refine (unhide CR2 _ ((unhide HC).below (unhide B3))).mono ?_
          rintro e w6 ⟨rfl, hb4⟩
          have B4 := hide ((unhide B3).trans (hb4.mono (unhide B3).size))
          have X4 := hide ((unhide X3).below hb4 (unhide X3).lt)
          have I4 := hide ((unhide I3).below hb4)
          clear hb4 CR2 B3 X3 I3
          have B3 := B4; have X3 := X4; have I3 := I4
          clear B4 X4 I4
          go_wp2_with fail
          refine at_world (fun W => W = w6) rfl ?_
          rintro W0 e0
          subst e0
          have HK := hide (fun w' (h : Below W0.heap.size W0 w') => show Below W0.heap.size W0 w' ∧ w'.cell? ⟨w2.heap.size, 0, none⟩ = some (.bool n2) ∧ w'.cell? ⟨w2.heap.size, 1, none⟩ = some (.slice a2 L2.length c2) from
            ⟨h, ((unhide X3).below h (unhide X3).lt).c0, ((unhide X3).below h (unhide X3).lt).c1⟩)
          have CR' := hide (fun w' (h : Below W0.heap.size W0 w') => unhide CR w' ((unhide HM).below ((unhide B3).trans (h.mono (unhide B3).size))) ((unhide HA).below ((unhide B3).trans (h.mono (unhide B3).size))) ((unhide HC).below ((unhide B3).trans (h.mono (unhide B3).size))))
          clear CR
          go_region_held3 (fun w' => Below W0.heap.size W0 w' ∧ w'.cell? ⟨w2.heap.size, 0, none⟩ = some (.bool n2) ∧ w'.cell? ⟨w2.heap.size, 1, none⟩ = some (.slice a2 L2.length c2))
            (first | assumption | exact unhide HK _ (Below.refl _ _).drew | exact unhide HK _ (by assumption) | fail "KK")
            (first | (go_at_call 16; refine (unhide CR' _ (And.left (by assumption))).mono ?_; rintro e wn ⟨v, rfl, iv, hb1⟩; have hBn : Below W0.heap.size W0 wn := Below.trans (And.left (by assumption)) (hb1.mono (Below.size (And.left (by assumption)))); have IV := hide iv; clear hb1 iv) | (go_at_call 14; refine (same_yes ((unhide I3).below (And.left (by assumption))) (unhide IV) rfl).mono ?_; rintro e wn ⟨rfl, hb1⟩; have hBn : Below W0.heap.size W0 wn := Below.trans (And.left (by assumption)) (hb1.mono (Below.size (And.left (by assumption)))); clear hb1) | (go_at_call 11; refine (awake3_any _).mono ?_; rintro e wn ⟨rfl, hb1⟩; have hBn : Below W0.heap.size W0 wn := Below.trans (And.left (by assumption)) (hb1.mono (Below.size (And.left (by assumption)))); clear hb1) | fail "NO ARM")
          go_wp2
          go_ret
          exact ⟨rfl, (unhide B3).trans (Below.mono (And.left (by assumption)) (unhide B3).size)⟩
        · have hE : mnE M A C = 3 := by unfold mnE; rw [if_pos h0, r1, r2]; simp [hlen]
          have hV : mnV M A C = 0 := by unfold mnV; rw [if_neg (by rw [hE]; decide)]
          rw [hE, hV] at CD
          rw [h0] at CC
          rw [r1] at CR1
          rw [r2] at CR2
          generalize width M = wd at *
          have hlenI : ((A.length : Int) == (C.length : Int)) = false := by simp; omega
          generalize hml : M.length = ml at *
          generalize hal : A.length = al at *
          generalize hcl : C.length = cl at *
          clear h hs hlit h0 hg hE hV hml r1 r2 hlen hA hC hal hcl
          go_enter Try.func5, Try.ntmps5
          go_wp2_with fail
          refine (unhide CL _ (unhide HM)).mono ?_
          rintro e w1 ⟨rfl, hb1⟩
          have B1 := hide hb1
          clear hb1 CL
          go_wp2_with fail
          refine (unhide CD _ ((unhide HM).below (unhide B1)) ((unhide HA).below (unhide B1)) ((unhide HC).below (unhide B1))).mono ?_
          rintro e w2 ⟨v, rfl, ⟨n2, a2, c2, L2, rfl, j2⟩, hb2⟩
          have B2 := hide ((unhide B1).trans (hb2.mono (unhide B1).size))
          have bx : Below w2.heap.size w2 (w2.alloc (.cells #[.bool n2, .slice a2 L2.length c2] 30)) := (Below.refl _ _).alloc (Nat.le_refl _) _
          have X2 := hide (Box2.new w2 (.bool n2) (.slice a2 L2.length c2))
          have I2 := hide ((show IsNum 0 w2 (.agg #[.bool n2, .slice a2 L2.length c2]) 0 from ⟨n2, a2, c2, L2, rfl, j2⟩).below bx)
          have B2' := hide ((unhide B2).trans (bx.mono (unhide B2).size))
          clear hb2 j2 B1 CD bx B2
          go_wp2_with fail
          refine (unhide CC _ ((unhide HM).below (unhide B2'))).mono ?_
          rintro e w3 ⟨rfl, hb3⟩
          have B3 := hide ((unhide B2').trans (hb3.mono (unhide B2').size))
          have X3 := hide ((unhide X2).below hb3 (by simp))
          have I3 := hide ((unhide I2).below hb3)
          clear hb3 CC B2' X2 I2
          go_wp2_with fail
          refine (unhide CR1 _ ((unhide HA).below (unhide B3))).mono ?_
          rintro e w5 ⟨rfl, hb4⟩
          have B4 := hide ((unhide B3).trans (hb4.mono (unhide B3).size))
          have X4 := hide ((unhide X3).below hb4 (unhide X3).lt)
          have I4 := hide ((unhide I3).below hb4)
          clear hb4 CR1 B3 X3 I3
          have B3 := B4; have X3 := X4; have I3 := I4
          clear B4 X4 I4
          go_wp2_with fail
          refine (unhide CW _ ((unhide HM).below (unhide B3))).mono ?_
          rintro e wz ⟨rfl, rfl⟩
          clear CW
          go_wp2_with fail
          refine (unhide CR2 _ ((unhide HC).below (unhide B3))).mono ?_
          rintro e w6 ⟨rfl, hb4⟩
          have B4 := hide ((unhide B3).trans (hb4.mono (unhide B3).size))
          have X4 := hide ((unhide X3).below hb4 (unhide X3).lt)
          have I4 := hide ((unhide I3).below hb4)
          clear hb4 CR2 B3 X3 I3
          have B3 := B4; have X3 := X4; have I3 := I4
          clear B4 X4 I4
          have d0 := (unhide X3).c0; have d1 := (unhide X3).c1
          go_wp2_with fail
          refine (same_yes (unhide I3) (IsNum.zero 0 _ none 0) rfl).mono ?_
          rintro e w7 ⟨rfl, hb4⟩
          have B4 := hide ((unhide B3).trans (hb4.mono (unhide B3).size))
          clear hb4 B3 X3 I3 d0 d1
          go_wp2_with fail
          refine (awake3_any _).mono ?_
          rintro e w8 ⟨rfl, hb5⟩
          have B5 := hide ((unhide B4).trans (hb5.mono (unhide B4).size))
          clear hb5 B4
          go_wp2_with fail
          go_ret
          exact ⟨rfl, unhide B5⟩
      · have r2' : risB C (width M) = false := by simpa using r2
        have hE : mnE M A C = 1 := by unfold mnE; rw [if_pos h0, r1, r2']; rfl
        have hV : mnV M A C = 0 := by unfold mnV; rw [if_neg (by rw [hE]; decide)]
        rw [hE, hV] at CD
        rw [h0] at CC
        rw [r1] at CR1
        rw [r2'] at CR2
        generalize width M = wd at *
        generalize hml : M.length = ml at *
        generalize hal : A.length = al at *
        generalize hcl : C.length = cl at *
        clear h hs hlit h0 hg hE hV hml r1 r2 r2' hA hC hal hcl
        go_enter Try.func5, Try.ntmps5
        go_wp2_with fail
        refine (unhide CL _ (unhide HM)).mono ?_
        rintro e w1 ⟨rfl, hb1⟩
        have B1 := hide hb1
        clear hb1 CL
        go_wp2_with fail
        refine (unhide CD _ ((unhide HM).below (unhide B1)) ((unhide HA).below (unhide B1)) ((unhide HC).below (unhide B1))).mono ?_
        rintro e w2 ⟨v, rfl, ⟨n2, a2, c2, L2, rfl, j2⟩, hb2⟩
        have B2 := hide ((unhide B1).trans (hb2.mono (unhide B1).size))
        have bx : Below w2.heap.size w2 (w2.alloc (.cells #[.bool n2, .slice a2 L2.length c2] 30)) := (Below.refl _ _).alloc (Nat.le_refl _) _
        have X2 := hide (Box2.new w2 (.bool n2) (.slice a2 L2.length c2))
        have I2 := hide ((show IsNum 0 w2 (.agg #[.bool n2, .slice a2 L2.length c2]) 0 from ⟨n2, a2, c2, L2, rfl, j2⟩).below bx)
        have B2' := hide ((unhide B2).trans (bx.mono (unhide B2).size))
        clear hb2 j2 B1 CD bx B2
        go_wp2_with fail
        refine (unhide CC _ ((unhide HM).below (unhide B2'))).mono ?_
        rintro e w3 ⟨rfl, hb3⟩
        have B3 := hide ((unhide B2').trans (hb3.mono (unhide B2').size))
        have X3 := hide ((unhide X2).below hb3 (by simp))
        have I3 := hide ((unhide I2).below hb3)
        clear hb3 CC B2' X2 I2
        go_wp2_with fail
        refine (unhide CR1 _ ((unhide HA).below (unhide B3))).mono ?_
        rintro e w5 ⟨rfl, hb4⟩
        have B4 := hide ((unhide B3).trans (hb4.mono (unhide B3).size))
        have X4 := hide ((unhide X3).below hb4 (unhide X3).lt)
        have I4 := hide ((unhide I3).below hb4)
        clear hb4 CR1 B3 X3 I3
        have B3 := B4; have X3 := X4; have I3 := I4
        clear B4 X4 I4
        go_wp2_with fail
        refine (unhide CW _ ((unhide HM).below (unhide B3))).mono ?_
        rintro e wz ⟨rfl, rfl⟩
        clear CW
        go_wp2_with fail
        refine (unhide CR2 _ ((unhide HC).below (unhide B3))).mono ?_
        rintro e w6 ⟨rfl, hb4⟩
        have B4 := hide ((unhide B3).trans (hb4.mono (unhide B3).size))
        have X4 := hide ((unhide X3).below hb4 (unhide X3).lt)
        have I4 := hide ((unhide I3).below hb4)
        clear hb4 CR2 B3 X3 I3
        have B3 := B4; have X3 := X4; have I3 := I4
        clear B4 X4 I4
        have d0 := (unhide X3).c0; have d1 := (unhide X3).c1
        go_wp2_with fail
        refine (same_yes (unhide I3) (IsNum.zero 0 _ none 0) rfl).mono ?_
        rintro e w7 ⟨rfl, hb4⟩
        have B4 := hide ((unhide B3).trans (hb4.mono (unhide B3).size))
        clear hb4 B3 X3 I3 d0 d1
        go_wp2_with fail
        refine (awake3_any _).mono ?_
        rintro e w8 ⟨rfl, hb5⟩
        have B5 := hide ((unhide B4).trans (hb5.mono (unhide B4).size))
        clear hb5 B4
        go_wp2_with fail
        go_ret
        exact ⟨rfl, unhide B5⟩
    · have r1' : risB A M.length = false := by simpa using r1
      have hE : mnE M A C = 1 := by unfold mnE; rw [if_pos h0, r1']; rfl
      have hV : mnV M A C = 0 := by unfold mnV; rw [if_neg (by rw [hE]; decide)]
      rw [hE, hV] at CD
      rw [h0] at CC
      rw [r1'] at CR1
      generalize hml : M.length = ml at *
      generalize hal : A.length = al at *
      generalize hcl : C.length = cl at *
      clear h hs hlit h0 hg hE hV hml r1 r1' hA hC hal hcl CR2 CW
      go_enter Try.func5, Try.ntmps5
      go_wp2_with fail
      refine (unhide CL _ (unhide HM)).mono ?_
      rintro e w1 ⟨rfl, hb1⟩
      have B1 := hide hb1
      clear hb1 CL
      go_wp2_with fail
      refine (unhide CD _ ((unhide HM).below (unhide B1)) ((unhide HA).below (unhide B1)) ((unhide HC).below (unhide B1))).mono ?_
      rintro e w2 ⟨v, rfl, ⟨n2, a2, c2, L2, rfl, j2⟩, hb2⟩
      have B2 := hide ((unhide B1).trans (hb2.mono (unhide B1).size))
      have bx : Below w2.heap.size w2 (w2.alloc (.cells #[.bool n2, .slice a2 L2.length c2] 30)) := (Below.refl _ _).alloc (Nat.le_refl _) _
      have X2 := hide (Box2.new w2 (.bool n2) (.slice a2 L2.length c2))
      have I2 := hide ((show IsNum 0 w2 (.agg #[.bool n2, .slice a2 L2.length c2]) 0 from ⟨n2, a2, c2, L2, rfl, j2⟩).below bx)
      have B2' := hide ((unhide B2).trans (bx.mono (unhide B2).size))
      clear hb2 j2 B1 CD bx B2
      go_wp2_with fail
      refine (unhide CC _ ((unhide HM).below (unhide B2'))).mono ?_
      rintro e w3 ⟨rfl, hb3⟩
      have B3 := hide ((unhide B2').trans (hb3.mono (unhide B2').size))
      have X3 := hide ((unhide X2).below hb3 (by simp))
      have I3 := hide ((unhide I2).below hb3)
      clear hb3 CC B2' X2 I2
      go_wp2_with fail
      refine (unhide CR1 _ ((unhide HA).below (unhide B3))).mono ?_
      rintro e w5 ⟨rfl, hb4⟩
      have B4 := hide ((unhide B3).trans (hb4.mono (unhide B3).size))
      have X4 := hide ((unhide X3).below hb4 (unhide X3).lt)
      have I4 := hide ((unhide I3).below hb4)
      clear hb4 CR1 B3 X3 I3
      have B3 := B4; have X3 := X4; have I3 := I4
      clear B4 X4 I4
      have d0 := (unhide X3).c0; have d1 := (unhide X3).c1
      go_wp2_with fail
      refine (same_yes (unhide I3) (IsNum.zero 0 _ none 0) rfl).mono ?_
      rintro e w7 ⟨rfl, hb4⟩
      have B4 := hide ((unhide B3).trans (hb4.mono (unhide B3).size))
      clear hb4 B3 X3 I3 d0 d1
      go_wp2_with fail
      refine (awake3_any _).mono ?_
      rintro e w8 ⟨rfl, hb5⟩
      have B5 := hide ((unhide B4).trans (hb5.mono (unhide B4).size))
      clear hb5 B4
      go_wp2_with fail
      go_ret
      exact ⟨rfl, unhide B5⟩
  · have hE : mnE M A C = mChk M := by unfold mnE; rw [if_neg h0]
    have hV : mnV M A C = 0 := by unfold mnV; rw [if_neg (by rw [hE]; exact h0)]
    rw [hE, hV] at CD
    generalize mChk M = ce at *
    have hne : (ce == 0) = false := by simp; exact h0
    have hee : (ce == ce) = true := by simp
    generalize hml : M.length = ml at *
    generalize hal : A.length = al at *
    generalize hcl : C.length = cl at *
    clear h hs hlit hE hV hml hA hC hal hcl CR1 CR2 CW
    go_enter Try.func5, Try.ntmps5
    go_wp2_with fail
    refine (unhide CL _ (unhide HM)).mono ?_
    rintro e w1 ⟨rfl, hb1⟩
    have B1 := hide hb1
    clear hb1 CL
    go_wp2_with fail
    refine (unhide CD _ ((unhide HM).below (unhide B1)) ((unhide HA).below (unhide B1)) ((unhide HC).below (unhide B1))).mono ?_
    rintro e w2 ⟨v, rfl, ⟨n2, a2, c2, L2, rfl, j2⟩, hb2⟩
    have B2 := hide ((unhide B1).trans (hb2.mono (unhide B1).size))
    have bx : Below w2.heap.size w2 (w2.alloc (.cells #[.bool n2, .slice a2 L2.length c2] 30)) := (Below.refl _ _).alloc (Nat.le_refl _) _
    have X2 := hide (Box2.new w2 (.bool n2) (.slice a2 L2.length c2))
    have I2 := hide ((show IsNum 0 w2 (.agg #[.bool n2, .slice a2 L2.length c2]) 0 from ⟨n2, a2, c2, L2, rfl, j2⟩).below bx)
    have B2' := hide ((unhide B2).trans (bx.mono (unhide B2).size))
    clear hb2 j2 B1 CD bx B2
    go_wp2_with fail
    refine (unhide CC _ ((unhide HM).below (unhide B2'))).mono ?_
    rintro e w3 ⟨rfl, hb3⟩
    have B3 := hide ((unhide B2').trans (hb3.mono (unhide B2').size))
    have X3 := hide ((unhide X2).below hb3 (by simp))
    have I3 := hide ((unhide I2).below hb3)
    clear hb3 CC B2' X2 I2
    have d0 := (unhide X3).c0; have d1 := (unhide X3).c1
    go_wp2_with fail
    refine (same_yes (unhide I3) (IsNum.zero 0 _ none 0) rfl).mono ?_
    rintro e w7 ⟨rfl, hb4⟩
    have B4 := hide ((unhide B3).trans (hb4.mono (unhide B3).size))
    clear hb4 B3 X3 I3 d0 d1
    go_wp2_with fail
    refine (awake3_any _).mono ?_
    rintro e w8 ⟨rfl, hb5⟩
    have B5 := hide ((unhide B4).trans (hb5.mono (unhide B4).size))
    clear hb5 B4
    go_wp2_with fail
    go_ret
    exact ⟨rfl, unhide B5⟩

end Go.Proofs.Ytlcidapdmgchoaa

