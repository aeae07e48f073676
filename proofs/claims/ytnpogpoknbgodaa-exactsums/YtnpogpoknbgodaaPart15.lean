/- Part 15 of the texts. -/
import Derived.Test.YtnpogpoknbgodaaPart04
import Derived.RegionTactic
import Derived.BigRegion
import Derived.Deep.AppendLies
import Derived.Test.YtnpogpoknbgodaaPart14
import Derived.Test.YtnpogpoknbgodaaPart08
import Derived.Test.YtnpogpoknbgodaaPart12
import Derived.Test.YtnpogpoknbgodaaPart09
/- Contract of spoil: it writes into the one row that it is handed, and nowhere else. -/
namespace Go.Proofs.Ytnpogpoknbgodaa
open Go.RowKit

theorem bits_nat (a b : Int) : ∃ y : Nat, y < 4294967296 ∧ bits BinOp.xor IntKind.u32 a b = (y : Int) := by
  refine ⟨(bits BinOp.xor IntKind.u32 a b).toNat, ?_, ?_⟩
  all_goals
    have h : 0 ≤ bits BinOp.xor IntKind.u32 a b ∧ bits BinOp.xor IntKind.u32 a b < 4294967296 := by
      simp only [bits, IntKind.wrap, IntKind.signed, IntKind.bits]
      simp
      omega
    omega

end Go.Proofs.Ytnpogpoknbgodaa

/- Contract of copied. -/
namespace Go.Proofs.Ytnpogpoknbgodaa
open Go.RowKit
attribute [local go_sem ↓] Go.wp_at_zero Go.wp_at_succ

theorem own_empty (W : World) (base g : Nat) (hs : W.heap.size = g) (hb : base ≤ g) : ((W.alloc (.cells #[] 60)).drew).ownsRow base 60 1 (.slice (some ⟨g, 0, none⟩) 0 0) 0 [] := by
  subst hs
  exact World.ownsRow_made W #[] 0 hb (by simp [maxLen]) (by simp)

theorem own_mono {w : World} {base base' : Nat} {v : Value} {n : Nat} {xs : List Value} (h : w.ownsRow base 60 1 v n xs) (hb : base' ≤ base) : w.ownsRow base' 60 1 v n xs := by
  refine ⟨h.1, ?_⟩
  rcases h.2 with h1 | ⟨g, cap, cur, h1, h2, h3⟩
  · exact .inl h1
  · exact .inr ⟨g, cap, cur, h1, by omega, h3⟩

end Go.Proofs.Ytnpogpoknbgodaa

/- What stays where one row is written over; copied of any number. -/
namespace Go.Proofs.Ytnpogpoknbgodaa
open Go.RowKit

theorem own_below {w w' : World} {base : Nat} {v : Value} {n : Nat} {xs : List Value} (h : w.ownsRow base 60 1 v n xs) (hb : Below w.heap.size w w') : w'.ownsRow base 60 1 v n xs := by
  refine ⟨h.1, ?_⟩
  rcases h.2 with h1 | ⟨g, cap, cur, h1, h2, h3, h4⟩
  · exact .inl h1
  · exact .inr ⟨g, cap, cur, h1, h2, by rw [hb.block g (Array.getElem?_eq_some_iff.1 h3).1]; exact h3, h4⟩

theorem own_grown {w w' : World} {base k : Nat} {v : Value} {n : Nat} {xs : List Value} (h : w.ownsRow base 60 1 v n xs) (hg : w.grownBy w' (some k)) (hne : v.ownBlock ≠ some k) : w'.ownsRow base 60 1 v n xs := h.kept hg (.inr hne)

theorem Box2.grown {w w' : World} {b k : Nat} {x y : Value} (h : Box2 w b x y) (hg : w.grownBy w' (some k)) (hne : b ≠ k) : Box2 w' b x y := (hg.block b h.lt (by simpa using hne)).trans h

theorem LimbsAt.grown {w w' : World} {ao : Option Addr} {cap k : Nat} {L : List Nat} (h : LimbsAt w ao cap L) (hg : w.grownBy w' (some k)) (hne : ∀ b off, ao = some ⟨b, off, none⟩ → L ≠ [] → b ≠ k) : LimbsAt w' ao cap L := by
  refine ⟨h.1, h.2.1, ?_⟩
  rcases h.2.2 with h0 | ⟨b, off, h1, h2, h3⟩
  · exact .inl h0
  · by_cases he : L = []
    · exact .inl he
    · have hb := hg.block b h2 (by have := hne b off h1 he; simpa using this)
      refine .inr ⟨b, off, h1, Nat.lt_of_lt_of_le h2 hg.size, fun i hi => ?_⟩
      rw [World.cell?_of_block (a := ⟨b, off + i, none⟩) hb]
      exact h3 i hi

theorem IsNum.grown {w w' : World} {B k : Nat} {v : Value} {x : Int} (h : IsNum B w v x) (hg : w.grownBy w' (some k)) (hk : k < B) : IsNum B w' v x := by
  obtain ⟨neg, ao, cap, L, h1, h2, h3, h4⟩ := h
  refine ⟨neg, ao, cap, L, h1, h2.grown hg ?_, h3, h4⟩
  intro b off e he
  rcases h3 with h0 | ⟨b', off', e', hb'⟩
  · exact absurd h0 he
  · rw [e] at e'
    simp only [Option.some.injEq, Addr.mk.injEq] at e'
    omega

theorem below_grown {w w' : World} {k B : Nat} (hg : w.grownBy w' (some k)) (hk : B ≤ k) (hB : B ≤ w.heap.size) : Below B w w' := (Below.refl _ _).grown hg hB (fun j hj => by simp at hj; omega)

/-- A row of the call's own, as limbs. -/
theorem own_at {w : World} {base g n c : Nat} {S : List Nat} (h : w.ownsRow base 60 1 (.slice (some ⟨g, 0, none⟩) n c) n (S.map limbV)) (hf : Fits S) : LimbsAt w (some ⟨g, 0, none⟩) c S ∧ S.length = n ∧ base ≤ g ∧ g < w.heap.size := by
  obtain ⟨ao, cap, e1, e2, e3, e4⟩ := own_limbs h hf
  simp only [Value.slice.injEq] at e1
  obtain ⟨rfl, _, rfl⟩ := e1
  exact ⟨e2, e4, h.lt g rfl⟩

/-- What told is asked of an operation's answer. -/
theorem told_op (na : Bool) (A : List Nat) (nb : Bool) (B : List Nat) (z : Int) :
    (chk2 na A nb B ≠ 0 → opErr (rightB na A && rightB nb B) z = chk2 na A nb B ∧ opNum (rightB na A && rightB nb B) z = 0) ∧ (chk2 na A nb B = 0 → opErr (rightB na A && rightB nb B) z = errOf z ∧ opNum (rightB na A && rightB nb B) z = numOf z) := by
  cases h : (rightB na A && rightB nb B)
  · simp [chk2, h, opErr_false, opNum_false]
  · simp [chk2, h, opErr_true, opNum_true]

end Go.Proofs.Ytnpogpoknbgodaa

/- Contract of the reference's Mul. -/
namespace Go.Proofs.Ytnpogpoknbgodaa
open Go.RowKit
attribute [local go_sem ↓] Go.wp_at_zero Go.wp_at_succ

theorem own_zero (W : World) : (W.alloc (.cells #[.int .u32 0] 60)).ownsRow W.heap.size 60 1 (.slice (some ⟨W.heap.size, 0, none⟩) 1 1) 1 [.int .u32 0] :=
  ⟨by simp, .inr ⟨W.heap.size, 1, #[.int .u32 0], rfl, Nat.le_refl _, heap_alloc_new W _, Nat.le_refl _, by simp [maxLen], by simp, by simp⟩⟩

theorem val_drop_succ (B : List Nat) (k : Nat) (h : k < B.length) : val (B.drop k) = B[k]?.getD 0 + 4294967296 * val (B.drop (k + 1)) := by
  rw [List.drop_eq_getElem_cons h]
  simp [val, h]

theorem mul_sign (na nb : Bool) (A B S : List Nat) (h : val S = val A * val B) : sval (na != nb) S = sval na A * sval nb B := by
  unfold sval
  rw [h]
  cases na <;> cases nb <;> simp [Int.natCast_mul, Int.neg_mul, Int.mul_neg]

set_option maxHeartbeats 2000000 in
theorem refMul_any (na nb : Bool) (ao bo : Option Addr) (ca cb : Nat) (A B : List Nat) (w : World) (hA : LimbsAt w ao ca A) (hB : LimbsAt w bo cb B) (la : A.length ≤ 1048576) (lb : B.length ≤ 1048576) :
    Calls Try.prog 11 #[.agg #[.bool na, .slice ao A.length ca], .agg #[.bool nb, .slice bo B.length cb]] w fun e w' => ∃ v, e = .returned v ∧ IsNum 0 w' v (sval na A * sval nb B) ∧ Below w.heap.size w w' := by
  obtain ⟨i0, hi, hz0, hz1, hz2⟩ := info_parts Try.info60
  have HZ := hide (fun S => mul_sign na nb A B S)
  generalize sval na A * sval nb B = z at *
  go_enter Try.func11, Try.ntmps11
  go_wp2
  go_loopw [5, 6, 7] (fun v i _ wr => ∃ (m b off cap : Nat) (S : List Nat), m ≤ B.length ∧ i = .int .i64 ((m : Int) - 1) ∧ v = .slice (some ⟨b, off, none⟩) S.length cap ∧ Hid (LimbsAt wr (some ⟨b, off, none⟩) cap S) ∧ Box2 wr w.heap.size (.bool na) (.slice ao A.length ca) ∧ Box2 wr (w.heap.size + 1) (.bool nb) (.slice bo B.length cb) ∧ Box2 wr (w.heap.size + 2) (.bool false) (.slice none 0 0) ∧ S.length + 2 * m ≤ A.length + 1 + 2 * B.length ∧ Hid (val S = val A * val (B.drop m)) ∧ Below w.heap.size w wr)
    (fun _ i _ _ => (intOf i + 1).toNat)
  case atStart =>
    refine ⟨B.length, w.heap.size + 3, 0, 0, [], Nat.le_refl _, rfl, rfl, LimbsAt.nil _ _ _, (((Box2.new _ _ _).old _).old _).old _, ?_, ?_, by simp, by unfold Hid; simp [val], ?_⟩
    · have := ((Box2.new (w.alloc (.cells #[.bool na, .slice ao A.length ca] 35)) (.bool nb) (.slice bo B.length cb)).old (.cells #[.bool false, .slice none 0 0] 35)).old (.cells #[] 60)
      simpa using this
    · have := (Box2.new ((w.alloc (.cells #[.bool na, .slice ao A.length ca] 35)).alloc (.cells #[.bool nb, .slice bo B.length cb] 35)) (.bool false) (.slice none 0 0)).old (.cells #[] 60)
      simpa using this
    · exact ((((Below.refl _ _).alloc (Nat.le_refl _) _).alloc (by simp) _).alloc (by simp; omega) _).alloc (by simp; omega) _
  case round =>
    obtain ⟨m, b, off, cap, S, hm, rfl, rfl, hS, x0, x1, x2, hlen, hv, hbel⟩ := hrel
    by_cases h0 : m = 0
    · subst h0
      have hz := unhide HZ S (by have := hv.out; simpa using this)
      have Z := hide hz
      have X2 := hide x2; have BEL := hide hbel
      have p0 := x0.c0; have q0 := x1.c0
      have zlt := x2.lt
      clear hz HZ hv x0 x1 x2 hbel hA hB
      go_wp2_with fail
      have hcall := made_any 0 (na != nb) (some ⟨b, off, none⟩) cap S wr (unhide hS) (NewAt.zero (unhide hS)) (by omega)
      rw [unhide Z] at hcall
      have hbool : (!na == nb) = (na != nb) := by cases na <;> cases nb <;> rfl
      rw [hbool]
      refine hcall.mono ?_
      rintro e w2 ⟨v, rfl, ⟨n2, a2, c2, L2, rfl, i1⟩, hb2⟩
      have X4 := (unhide X2).below hb2 (unhide X2).lt
      have y0 := X4.c0; have y1 := X4.c1; have f0 := X4.free 0; have f1 := X4.free 1
      have HB2 := hide ((unhide BEL).trans (hb2.mono (by omega)))
      have I1 := hide i1; have XX4 := hide X4
      clear hcall X4 hb2 i1
      go_wp2
      refine bodyPost_ret (v := .agg #[.bool n2, .slice a2 L2.length c2]) (by simp [results, Try.results11, go_sem, y0, y1]) rfl ⟨.agg #[.bool n2, .slice a2 L2.length c2], rfl, ?_, ?_⟩
      · have i := unhide I1
        exact ⟨n2, a2, c2, L2, rfl, i.1.box (unhide XX4) _ _, i.2.1, i.2.2.1, i.2.2.2.1, i.2.2.2.2.1, by have := i.2.2.2.2.2; omega⟩
      · exact ((unhide HB2).setCell (by simp; omega) _).setCell (by simp; omega) _
    · obtain ⟨k, rfl⟩ : ∃ k, m = k + 1 := ⟨m - 1, by omega⟩
      rw [show (((k + 1 : Nat) : Int) - 1) = (k : Int) by omega]
      clear h0 HZ
      obtain ⟨x, hx⟩ : ∃ x, B[k]?.getD 0 = x := ⟨_, rfl⟩
      have bx : x < 4294967296 := by rw [← hx]; exact hB.lt _
      obtain ⟨b2, o2, hbo, hb2', hc2⟩ := hB.ne (by omega)
      have cb2 := hc2 k (by omega)
      rw [hx] at cb2
      have hstep : ∀ L1 L2 : List Nat, val L1 = val A * x → val L2 = val (0 :: S) + val L1 → val L2 = val A * val (B.drop k) := by
        intro L1 L2 e1 e2
        have := hv.out
        rw [e2, e1, val_drop_succ B k (by omega), hx, Nat.mul_add]
        simp only [val]
        rw [this, Nat.zero_add, ← Nat.mul_assoc, ← Nat.mul_assoc, Nat.mul_comm 4294967296 (val A)]
        omega
      have hnews : ∀ j u, (S.map limbV)[j]? = some u → (wr.alloc (.cells #[.int .u32 0] 60)).cell? ((⟨b, off, none⟩ : Addr).add j) = some u := by
        intro j u hu
        rw [List.getElem?_map] at hu
        have hj : j < S.length := by
          rcases Nat.lt_or_ge j S.length with e | e
          · exact e
          · rw [List.getElem?_eq_none e] at hu; simp at hu
        obtain ⟨b', off', e0, hb', hcl⟩ := (unhide hS).ne (by omega)
        simp only [Option.some.injEq, Addr.mk.injEq, and_true] at e0
        obtain ⟨rfl, rfl⟩ := e0
        have e3 : (⟨b, off, none⟩ : Addr).add j = ⟨b, off + j, none⟩ := by simp [Addr.add]
        rw [e3, ((Below.refl wr.heap.size wr).alloc (Nat.le_refl _) _).cell (p := ⟨b, off + j, none⟩) hb', hcl j hj]
        rw [List.getElem?_eq_getElem hj] at hu ⊢
        simpa [limbV] using hu
      have hone : ∀ u ∈ S.map limbV, u.oneCell' = true := by
        intro u hu
        obtain ⟨y, _, rfl⟩ := List.mem_map.1 hu
        rfl
      have hfit : Fits (0 :: S) := by
        intro y hy
        rcases List.mem_cons.1 hy with rfl | hy
        · decide
        · exact (unhide hS).2.1 y hy
      have HSTEP := hide hstep; have HNEWS := hide hnews; have HONE := hide hone; have HFIT := hide hfit; have HCB := hide cb2
      have X0 := hide x0; have X1 := hide x1; have X2 := hide x2; have BEL := hide hbel; have HLEN := hide hlen
      have z0 := x0.lt; have z1 := x1.lt; have z2 := x2.lt
      have ls : S.length ≤ 4000000 := by omega
      have hk0 : (0 : Int) ≤ (k : Int) := by omega
      have hkI : (k : Int) < (B.length : Int) := by omega
      subst hbo
      have HA := hide hA; have HB := hide hb2'
      clear hstep hnews hone hfit cb2 x0 x1 x2 hbel hlen hv hx hc2 hA hB hS hb2'
      go_wp2_with (at_builtin; refine wpList_append_own _ rfl _ _ 33 rfl wr.heap.size 60 i0 (.int .u32 0) 1 4 Try.underlying33 hi hz0 hz1 hz2 rfl (by decide) _ 1 [.int .u32 0] rfl (own_zero wr) ⟨b, off, none⟩ S.length cap (S.map limbV) rfl (by simp) (unhide HNEWS) (unhide HONE) (by unfold maxLen; omega) (by omega) (by simp) ?_; intro v' w1 hown' hgrow _; have ho2 := hide hown'; have hgr := hide hgrow; clear hown' hgrow)
      obtain ⟨ao', cap', e1, e2, e3, e4⟩ := own_limbs (S := 0 :: S) (unhide ho2) (unhide HFIT)
      subst e1
      have hbl : Below wr.heap.size wr w1 := ((Below.refl _ _).alloc (Nat.le_refl _) _).grown (unhide hgr) (by simp) (fun g hg => by have e : some wr.heap.size = some g := hg; cases e; exact Nat.le_refl _)
      have x0 := (unhide X0).below hbl (unhide X0).lt
      have x1 := (unhide X1).below hbl (unhide X1).lt
      have x2 := (unhide X2).below hbl (unhide X2).lt
      have b1 : Below w.heap.size w w1 := (unhide BEL).trans (hbl.mono (unhide BEL).size)
      have hcb : w1.cell? ⟨b2, o2 + k, none⟩ = some (.int .u32 (x : Int)) := by rw [b1.cell (p := ⟨b2, o2 + k, none⟩) (unhide HB)]; exact unhide HCB
      have hb2w : b2 < w1.heap.size := Nat.lt_of_lt_of_le (unhide HB) b1.size
      have hlS : (0 :: S).length ≤ 35184372088830 := by simp; omega
      have hSA := hide ((unhide HA).below b1)
      have E2 := hide e2; have B1 := hide b1; have Y0 := hide x0; have Y1 := hide x1; have Y2 := hide x2
      have hK : ∀ w', Below w1.heap.size w1 w' → Below w1.heap.size w1 w' ∧ w'.cell? ⟨w.heap.size, 1, none⟩ = some (.slice ao A.length ca) ∧ w'.cell? ⟨w.heap.size + 1, 1, none⟩ = some (.slice (some ⟨b2, o2, none⟩) B.length cb) ∧ w'.cell? ⟨b2, o2 + k, none⟩ = some (.int .u32 (x : Int)) := fun w' h =>
        ⟨h, (x0.below h x0.lt).c1, (x1.below h x1.lt).c1, (h.cell (p := ⟨b2, o2 + k, none⟩) hb2w).trans hcb⟩
      have HK := hide hK
      clear hK x0 x1 x2 b1 hcb e2 e3 e4 ho2 hgr hbl X0 X1 X2 BEL HCB HNEWS HONE HFIT HA HB
      refine at_world (fun W => W = w1) rfl ?_
      rintro W0 e0
      subst e0
      go_region_held3 (fun w' => Below W0.heap.size W0 w' ∧ w'.cell? ⟨w.heap.size, 1, none⟩ = some (.slice ao A.length ca) ∧ w'.cell? ⟨w.heap.size + 1, 1, none⟩ = some (.slice (some ⟨b2, o2, none⟩) B.length cb) ∧ w'.cell? ⟨b2, o2 + k, none⟩ = some (.int .u32 (x : Int)))
        (first | exact unhide HK _ (Below.refl _ _).drew | exact unhide HK _ (by assumption))
        (first | (go_at_call 29; refine (single_any ao ca A x _ ((unhide hSA).below (And.left (by assumption))) bx (by omega)).mono ?_; rintro e w3 ⟨ao3, c3, L3, rfl, g1, g2, g3, g4, hb1⟩; have hB1 : Below W0.heap.size W0 w3 := Below.trans (And.left (by assumption)) (hb1.mono (Below.size (And.left (by assumption)))); have G1 := hide g1; have G3 := hide g3; have G4 := hide g4; have l3 : L3.length ≤ 35184372088830 := (by omega); clear hb1 g1 g2 g3 g4) | (go_at_call 26; refine (plus_any ao' ao3 cap' c3 (0 :: S) L3 _ ((unhide E2).below hB1) (unhide G1) hlS l3).mono ?_; rintro e w4 ⟨ao4, c4, L4, rfl, g1, g2, g3, g4, hb1⟩; have hB2 : Below W0.heap.size W0 w4 := hB1.trans (hb1.mono hB1.size); have J1 := hide g1; have J3 := hide g3; have J4 := hide g4; clear hb1 g1 g2 g3 g4))
      obtain ⟨b5, o5, e5, hb5, hc5⟩ := (unhide J1).ne (by have := unhide J3; omega)
      subst e5
      have HST := hide (unhide HSTEP L3 L4 (unhide G4) (unhide J4))
      have hl4 : L4.length + 2 * k ≤ A.length + 1 + 2 * B.length := by
        have h1 := unhide J3; have h2 := unhide G3; have h3 := unhide HLEN
        simp only [List.length_cons] at h1
        omega
      clear hc5 HSTEP
      go_wp2
      go_roundw
      case rel => exact ⟨k, b5, o5, c4, L4, by omega, by go_num, rfl, unhide J1, (unhide Y0).below hB2 (unhide Y0).lt, (unhide Y1).below hB2 (unhide Y1).lt, (unhide Y2).below hB2 (unhide Y2).lt, hl4, unhide HST, (unhide B1).trans (hB2.mono (unhide B1).size)⟩
      case measure => simp [intOf]

end Go.Proofs.Ytnpogpoknbgodaa

/- Determinants by the first row, as the reference reckons them. -/
namespace Go.Proofs.Ytnpogpoknbgodaa
open Go.RowKit

/-- The first k products, with turning signs. -/
def exP (r : Nat → Int) (cs : List Nat) (D : List Nat → Int) : Nat → Int
  | 0 => 0
  | k + 1 => exP r cs D k + (if k % 2 = 1 then -(r (cs[k]?.getD 0) * D (cs.eraseIdx k)) else r (cs[k]?.getD 0) * D (cs.eraseIdx k))

theorem exP_cons (r : Nat → Int) (c : Nat) (cs : List Nat) (D : List Nat → Int) : ∀ k, exP r (c :: cs) D (k + 1) = r c * D cs - exP r cs (fun l => D (c :: l)) k
  | 0 => by simp [exP]
  | k + 1 => by
    have ih := exP_cons r c cs D k
    rw [exP, ih]
    conv => rhs; rw [exP]
    simp only [List.getElem?_cons_succ, List.eraseIdx_cons_succ]
    rcases Nat.mod_two_eq_zero_or_one k with h | h
    · rw [if_pos (by omega), if_neg (by omega)]; omega
    · rw [if_neg (by omega), if_pos (by omega)]; omega
theorem exP_exD (r : Nat → Int) : ∀ (cs : List Nat) (D : List Nat → Int), exP r cs D cs.length = exD r cs D
  | [], D => rfl
  | c :: cs, D => by
    rw [List.length_cons, exP_cons, exP_exD r cs]; rfl

theorem exP_bound (r : Nat → Int) (cs : List Nat) (D : List Nat → Int) (Bd N : Nat) (k : Nat) (hr : ∀ j, j < k → (r (cs[j]?.getD 0)).natAbs ≤ Bd) (hD : ∀ j, j < k → (D (cs.eraseIdx j)).natAbs ≤ N) : (exP r cs D k).natAbs ≤ k * (Bd * N) := by
  induction k with
  | zero => simp [exP]
  | succ k ih =>
    have h1 := ih (fun c hc => hr c (by omega)) (fun c hc => hD c (by omega))
    have h2 : (r (cs[k]?.getD 0) * D (cs.eraseIdx k)).natAbs ≤ Bd * N := by
      rw [Int.natAbs_mul]; exact Nat.mul_le_mul (hr k (by omega)) (hD k (by omega))
    unfold exP
    rw [Nat.succ_mul]
    generalize r (cs[k]?.getD 0) * D (cs.eraseIdx k) = t at *
    split <;> omega

theorem refMul_num {B B' : Nat} {w : World} {v u : Value} {x y : Int} (hv : IsNum B w v x) (hu : IsNum B' w u y) (hx : x.natAbs < TOP) (hy : y.natAbs < TOP) :
    Calls Try.prog 11 #[v, u] w fun e w' => ∃ r, e = .returned r ∧ IsNum 0 w' r (x * y) ∧ Below w.heap.size w w' := by
  obtain ⟨na, ao, ca, A, rfl, a1, a2, a3, a4⟩ := hv.right hx
  obtain ⟨nb, bo, cb, C, rfl, b1, b2, b3, b4⟩ := hu.right hy
  have := refMul_any na nb ao bo ca cb A C w a1 b1 (by omega) (by omega)
  rwa [a3, b3] at this
theorem refAdd_num0 {B B' : Nat} {w : World} {v u : Value} {x y : Int} (hv : IsNum B w v x) (hu : IsNum B' w u y) (hx : x.natAbs < TOP) (hy : y.natAbs < TOP) :
    Calls Try.prog 10 #[v, u] w fun e w' => ∃ r, e = .returned r ∧ IsNum 0 w' r (x + y) ∧ Below w.heap.size w w' := by
  obtain ⟨na, ao, ca, A, rfl, a1, a2, a3, a4⟩ := hv.right hx
  obtain ⟨nb, bo, cb, C, rfl, b1, b2, b3, b4⟩ := hu.right hy
  have := refAdd_any na nb ao bo ca cb A C w a1 b1 (by omega) (by omega)
  rw [a3, b3] at this
  exact this.mono fun e w' ⟨r, h1, h2, h3⟩ => ⟨r, h1, (h2.num (by omega)).mono (Nat.zero_le _), h3⟩
theorem refNeg_num {B : Nat} {w : World} {v : Value} {x : Int} (hv : IsNum B w v x) (hx : x.natAbs < TOP) :
    Calls Try.prog 51 #[v] w fun e w' => ∃ r, e = .returned r ∧ IsNum 0 w' r (- x) ∧ Below w.heap.size w w' := by
  obtain ⟨na, ao, ca, A, rfl, a1, a2, a3, a4⟩ := hv.right hx
  have := refNeg_any na ao ca A w a1 (by omega)
  rw [a3] at this
  exact this.mono fun e w' ⟨r, h1, h2, h3⟩ => ⟨r, h1, h2.num (by omega), h3⟩

theorem natI_len (I : List Int) : (natI I).length = I.length := by simp [natI]

/-- Places that are some of the first n. -/
def InI (n : Nat) (I : List Int) : Prop := ∀ x ∈ I, 0 ≤ x ∧ x < n
theorem InI.nat {n : Nat} {I : List Int} (h : InI n I) : ∀ c ∈ natI I, c < n := by
  intro c hc
  obtain ⟨x, hx, rfl⟩ := List.mem_map.1 hc
  have := h x hx
  omega
theorem InI.at {n : Nat} {I : List Int} (h : InI n I) {j : Nat} (hj : j < I.length) : ∃ q : Nat, atI I j = (q : Int) ∧ q < n ∧ (natI I)[j]?.getD 0 = q := by
  have h1 := h _ (List.getElem_mem hj)
  refine ⟨(I[j]).toNat, ?_, by omega, ?_⟩
  · unfold atI; rw [List.getElem?_eq_getElem hj]; simp; omega
  · unfold natI; rw [List.getElem?_map, List.getElem?_eq_getElem hj]; rfl
theorem natI_erase (I : List Int) (k : Nat) : natI (I.eraseIdx k) = (natI I).eraseIdx k := by
  unfold natI; rw [List.eraseIdx_eq_take_drop_succ, List.eraseIdx_eq_take_drop_succ, List.map_append, List.map_take, List.map_drop]
theorem InI.erase {n : Nat} {I : List Int} (h : InI n I) (k : Nat) : InI n (I.eraseIdx k) := fun x hx => h x (List.mem_of_mem_eraseIdx hx)
theorem InI.tail {n : Nat} {x : Int} {I : List Int} (h : InI n (x :: I)) : InI n I := fun y hy => h y (by simp [hy])

theorem IntsAt.tail {w : World} {b off cap : Nat} {x : Int} {I : List Int} (h : IntsAt w (some ⟨b, off, none⟩) cap (x :: I)) : IntsAt w (some ⟨b, off + 1, none⟩) (cap - 1) I := by
  obtain ⟨b', off', e, h2, h3⟩ := h.ne (by simp)
  simp only [Option.some.injEq, Addr.mk.injEq, and_true] at e
  obtain ⟨rfl, rfl⟩ := e
  refine ⟨by have := h.1; simp at this; omega, fun y hy => h.2.1 y (by simp [hy]), .inr ⟨b, off + 1, rfl, h2, fun i hi => ?_⟩⟩
  have := h3 (i + 1) (by simp; omega)
  rw [show off + 1 + i = off + (i + 1) by omega, this]
  simp
theorem IntsAt.nil (w : World) (ao : Option Addr) (cap : Nat) : IntsAt w ao cap [] := ⟨by simp, by simp, .inl rfl⟩

end Go.Proofs.Ytnpogpoknbgodaa

