/- Part 35 of the texts. -/
import Derived.Test.YtfnnbkclnflpfaaGreatDoorPartQ30
import Derived.Test.YtfnnbkclnflpfaaGreatDoorPartQ29
import Derived.OwnWalk
import Derived.Test.YtfnnbkclnflpfaaGreatDoorPartQ31
import Derived.Test.YtfnnbkclnflpfaaGreatDoorPartQ11
import Derived.Test.YtfnnbkclnflpfaaGreatDoorPartQ10
import Derived.Test.YtfnnbkclnflpfaaGreatDoorPartQ34
import Derived.Test.YtfnnbkclnflpfaaGreatDoorPartQ08
import Derived.Test.YtfnnbkclnflpfaaGreatDoorPartQ22
import Derived.Test.YtfnnbkclnflpfaaGreatDoorPartQ27
import Derived.Test.YtfnnbkclnflpfaaGreatDoorPartQ28
/- Determinants by the first row, as the reference reckons them. -/
namespace Go.Proofs.YtfnnbkclnflpfaaGreatDoor
open Go.RowKit
/-- Places that are some of the first n. -/
def InI (n : Nat) (I : List Int) : Prop := ∀ x ∈ I, 0 ≤ x ∧ x < n
theorem InI.at {n : Nat} {I : List Int} (h : InI n I) {j : Nat} (hj : j < I.length) : ∃ q : Nat, atI I j = (q : Int) ∧ q < n ∧ (natI I)[j]?.getD 0 = q := by
  have h1 := h _ (List.getElem_mem hj)
  refine ⟨(I[j]).toNat, ?_, by omega, ?_⟩
  · unfold atI; rw [List.getElem?_eq_getElem hj]; simp; omega
  · unfold natI; rw [List.getElem?_map, List.getElem?_eq_getElem hj]; rfl
theorem IntsAt.nil (w : World) (ao : Option Addr) (cap : Nat) : IntsAt w ao cap [] := ⟨by simp, by simp, .inl rfl⟩

end Go.Proofs.YtfnnbkclnflpfaaGreatDoor

/- Package certify: the exact rank. -/
namespace Go.Proofs.YtfnnbkclnflpfaaGreatDoor
open Go.RowKit

theorem minor_congr {a b : Nat → Nat → Int} : ∀ (I C : List Nat), (∀ i ∈ I, ∀ c ∈ C, a i c = b i c) → minorD a I C = minorD b I C
  | [], C, _ => rfl
  | i :: I, C, h => by
    show exD (a i) C (detD (I.map _)) = exD (b i) C (detD (I.map _))
    rw [exD_row (a i) (b i) C _ (fun c hc => h i (by simp) c hc)]
    refine exD_congr (b i) C _ _ (fun l hl _ => ?_)
    exact minor_congr I l (fun j hj c hc => h j (by simp [hj]) c (hl.subset hc))
theorem van_congr {k m n : Nat} {a b : Nat → Nat → Int} (h : ∀ i c, i < m → c < n → a i c = b i c) (hv : Van k a m n) : Van k b m n := by
  intro I C hI hC lI lC
  rw [← minor_congr (a := a) I C (fun i hi c hc => h i c (hI.2 i hi) (hC.2 c hc))]
  exact hv I C hI hC lI lC
theorem rank_congr {k m n : Nat} {a b : Nat → Nat → Int} (h : ∀ i c, i < m → c < n → a i c = b i c) (hr : IsRank k a m n) : IsRank k b m n :=
  ⟨fun hv => hr.1 (van_congr (fun i c hi hc => (h i c hi hc).symm) hv), van_congr h hr.2⟩
theorem rank_norows {a : Nat → Nat → Int} (n : Nat) : IsRank 0 a 0 n := by
  refine ⟨fun hv => ?_, fun I C hI _ lI _ => ?_⟩
  · have := hv [] [] ⟨List.Pairwise.nil, by simp⟩ ⟨List.Pairwise.nil, by simp⟩ rfl rfl
    exact absurd (show (1 : Int) = 0 from this) (by decide)
  · cases I with
    | nil => cases lI
    | cons i I => exact absurd (hI.2 i (by simp)) (by omega)

theorem pow_66 (m k : Nat) (h : m ≤ 32 * k) : 2 ^ m ≤ 4294967296 ^ k := by
  rw [show (4294967296 : Nat) = 2 ^ 32 by decide, ← Nat.pow_mul]
  exact Nat.pow_le_pow_right (by decide) h

/-- A number below 2^2098 has at most 66 limbs: right and short. -/
theorem IsNm.good11 {w : World} {x : Nm} {z : Int} (h : IsNm w x z) (hz : z.natAbs < 2 ^ 2098) : rightN x = true ∧ shortN x = true ∧ sval x.neg x.L = z ∧ x.L.length ≤ 66 := by
  obtain ⟨neg, ao, cap, L⟩ := x
  obtain ⟨h1, h3, h4, h5, h6⟩ := h
  simp only at h1 h3 h4 h5 h6 ⊢
  have hl6 : L.length ≤ 66 := (length_le_iff L h1.2.1 h3 66).2 (by
    rw [h5]
    refine Nat.lt_of_lt_of_le hz ?_
    exact pow_66 2098 66 (by decide))
  have hl : L.length ≤ 512 := by omega
  show rightB neg L = true ∧ decide (L.length ≤ 80) = true ∧ sval neg L = z ∧ L.length ≤ 66
  refine ⟨?_, decide_eq_true (by omega), ?_, hl6⟩
  · have e0 : L.length = 0 → neg = false := fun e => by
      have : L = [] := List.length_eq_zero_iff.1 e
      subst this
      rw [h4]; simp [val] at h5; simp; omega
    have e1 : L.length = 0 ∨ L[L.length - 1]?.getD 0 ≠ 0 := by
      rcases h3 with h | h
      · left; rw [h]; rfl
      · exact .inr h
    simp only [rightB, Bool.and_eq_true, decide_eq_true_eq, Bool.not_eq_true', Bool.and_eq_false_iff, decide_eq_false_iff_not, Bool.or_eq_true]
    refine ⟨⟨hl, ?_⟩, e1⟩
    by_cases e : L.length = 0
    · exact .inr (e0 e)
    · exact .inl e
  · unfold sval
    rw [h4]
    by_cases hx0 : z < 0
    · simp [hx0]; omega
    · simp [hx0]; omega

/-- What rows of such numbers are. -/
theorem rows11 {w : World} {M : List Rw} {r c : Nat} {F : Nat → Nat → Int} (hl : M.length = r) (hr : r ≤ 6) (hc : c ≤ 6) (hw : ∀ i, i < r → (rwAt M i).R.length = c) (hx : ∀ i k, i < r → k < c → IsNm w (entry M i k) (F i k)) (hF : ∀ i k, i < r → k < c → (F i k).natAbs < 2 ^ 2098) :
    mChk M = 0 ∧ SmallM M ∧ (∀ i k, i < r → k < c → valM M i k = F i k) ∧ (0 < r → width M = c) := by
  have hm : ∀ y ∈ M, ∃ i, i < r ∧ y = rwAt M i := fun y hy => by
    obtain ⟨i, hi, rfl⟩ := List.getElem_of_mem hy
    exact ⟨i, by omega, by unfold rwAt; rw [List.getElem?_eq_getElem hi]; rfl⟩
  have hn : ∀ i, i < r → ∀ x ∈ (rwAt M i).R, ∃ k, k < c ∧ x = entry M i k := fun i hi x hx => by
    obtain ⟨k, hk, rfl⟩ := List.getElem_of_mem hx
    exact ⟨k, by rw [hw i hi] at hk; exact hk, by unfold entry nmAt; rw [List.getElem?_eq_getElem hk]; rfl⟩
  have hwd : 0 < r → width M = c := fun h => hw 0 h
  have hsh : shapeB M = true := by
    unfold shapeB
    rw [decide_eq_true (by omega), Bool.true_and, Bool.and_eq_true, decide_eq_true_eq, List.all_eq_true]
    rcases Nat.eq_zero_or_pos r with h0 | h0
    · have : M = [] := List.length_eq_zero_iff.1 (by omega)
      subst this
      exact ⟨by decide, fun x hx => by cases hx⟩
    · rw [hwd h0]
      refine ⟨hc, fun y hy => ?_⟩
      obtain ⟨i, hi, rfl⟩ := hm y hy
      exact decide_eq_true (hw i hi)
  have hg : ∀ y ∈ M, ∀ x ∈ y.R, rightN x = true ∧ shortN x = true ∧ x.L.length ≤ 66 := fun y hy x hxx => by
    obtain ⟨i, hi, rfl⟩ := hm y hy
    obtain ⟨k, hk, rfl⟩ := hn i hi x hxx
    have := (hx i k hi hk).good11 (hF i k hi hk)
    exact ⟨this.1, this.2.1, this.2.2.2⟩
  refine ⟨?_, ⟨by omega, fun y hy => ⟨?_, fun x hxx => by have := (hg y hy x hxx).2.2; omega⟩⟩, fun i k hi hk => ((hx i k hi hk).good11 (hF i k hi hk)).2.2.1, hwd⟩
  · unfold mChk
    rw [if_pos hsh, if_pos, if_pos]
    · rw [List.all_eq_true]; intro y hy; rw [List.all_eq_true]; exact fun x hxx => (hg y hy x hxx).2.1
    · rw [List.all_eq_true]; intro y hy; rw [List.all_eq_true]; exact fun x hxx => (hg y hy x hxx).1
  · obtain ⟨i, hi, rfl⟩ := hm y hy
    rw [hw i hi]; omega

theorem rank_of11 {k r c : Nat} {M : List Rw} {F : Nat → Nat → Int} (hl : M.length = r) (hv : ∀ i k, i < r → k < c → valM M i k = F i k) (hw : 0 < r → width M = c) (h : IsRank k (valM M) M.length (width M)) : IsRank k F r c := by
  rcases Nat.eq_zero_or_pos r with h0 | h0
  · subst h0
    rw [hl] at h
    have := h.unique (rank_norows (width M))
    rw [this]
    exact rank_norows c
  · rw [hw h0, hl] at h
    exact rank_congr hv h

theorem cRank_any (r c cap : Nat) (ao : Option Addr) (S : List Nat) (w : World) (h : Mx w ao cap r c S) (hf : ∀ x ∈ S, fFin x = true) (hT : Tab w) :
    Calls Tryz.prog 24 #[.agg #[.int .i64 r, .int .i64 c, .slice ao S.length cap]] w fun e w' => ∃ k : Nat, e = .returned (.tuple #[.int .i64 (k : Nat), .int .i64 0]) ∧ IsRank k (fun i k => fZ (elM c S i k)) r c ∧ Below w.heap.size w w' := by
  refine cRank_of r c S.length cap ao (fun i k => fZ (elM c S i k)) (fun k => IsRank k (fun i k => fZ (elM c S i k)) r c) w (fun w' hb => ccheck_ok r c cap ao S w' (h.below hb) hf) (fun w' hb => wholes_any r c cap ao S w' (h.below hb) hf (hT.all hb)) (fun w' g V hL => ?_)
  obtain ⟨M, m1, m2, m3, m4⟩ := hL.mat
  obtain ⟨q1, q2, q3, q4⟩ := rows11 m1 h.2.2.1 h.2.2.2 m3 m4 (fun i k _ _ => fZ_lt _ (el_fin c S i k hf))
  have C := rank_any (some ⟨g, 0, none⟩) r M w' m2 q2
  rw [m1] at C
  refine C.mono ?_
  rintro e w'' ⟨k, rfl, h1, _, hb⟩
  rw [q1]
  rw [← m1] at h1
  exact ⟨k, rfl, rank_of11 m1 q3 q4 (h1 q1), hb⟩

end Go.Proofs.YtfnnbkclnflpfaaGreatDoor

/- The reference of layer 11: Check, Square, Tame. The law's told, one, awake. -/
namespace Go.Proofs.YtfnnbkclnflpfaaGreatDoor
open Go.RowKit
attribute [local go_sem ↓] Go.wp_at_zero Go.wp_at_succ

theorem ckE_three (r c : Int) (I : List Int) : ckE r c I = 0 ∨ ckE r c I = 1 ∨ ckE r c I = 4 := by
  unfold ckE
  split
  · split
    · exact .inl rfl
    · exact .inr (.inr rfl)
  · exact .inr (.inl rfl)

set_option maxRecDepth 20000 in
set_option maxHeartbeats 4000000 in
theorem r11check_any (r c : Int) (ao : Option Addr) (cap : Nat) (I : List Int) (w : World) (hI : BitsAt w ao cap I) (hn : I.length ≤ 35184372088830) :
    Calls Tryz.prog 11 #[.agg #[.int .i64 r, .int .i64 c, .slice ao I.length cap]] w fun e w' => e = .returned (.int .i64 (ckE r c I)) ∧ Below w.heap.size w w' := by
  have K1 := hide (fun w' => rright_any r c ao I.length cap w')
  have K2 := hide (fun w' (h : BitsAt w' ao cap I) => r9finite_any ao cap I w' h hn)
  have BB := hide (below_alloc9 w (.cells #[.int .i64 r, .int .i64 c, .slice ao I.length cap] 24))
  have X0 := hide (BoxM.new w (.int .i64 r) (.int .i64 c) (.slice ao I.length cap))
  have HI := hide hI
  unfold ckE
  generalize okB r c I.length = b at *
  generalize fnK I I.length = f at *
  generalize I.length = n at *
  clear hI
  cases b
  · clear K2
    go_enter Tryz.func11, Tryz.ntmps11
    go_wp2_with fail
    refine (unhide K1 _).mono ?_
    rintro e w1 ⟨rfl, hb1⟩
    have PB := hide ((unhide BB).trans (hb1.mono (unhide BB).size))
    clear hb1 K1 X0
    go_wp2
    go_ret
    exact ⟨rfl, unhide PB⟩
  · cases f
    all_goals
      go_enter Tryz.func11, Tryz.ntmps11
      go_wp2_with fail
      refine (unhide K1 _).mono ?_
      rintro e w1 ⟨rfl, hb1⟩
      replace BB := hide ((unhide BB).trans (hb1.mono (unhide BB).size)); replace X0 := hide ((unhide X0).all hb1)
      clear hb1 K1
      have y2 := (unhide X0).c2
      go_wp2_with fail
      refine (unhide K2 _ ((unhide HI).below (unhide BB))).mono ?_
      rintro e w2 ⟨rfl, hb1⟩
      replace BB := hide ((unhide BB).trans (hb1.mono (unhide BB).size))
      clear hb1 K2 y2
      go_wp2
      go_ret
      exact ⟨rfl, unhide BB⟩

set_option maxRecDepth 20000 in
set_option maxHeartbeats 4000000 in
theorem r11square_of (r c : Int) (ao : Option Addr) (n cap : Nat) (lo z : Int) (w : World)
    (C : ∀ w', Below w.heap.size w w' → Calls Tryz.prog 44 #[.slice ao n cap] w' fun e w'' => ∃ v, e = .returned v ∧ IsLv w'' v lo z ∧ Below w'.heap.size w' w'') :
    Calls Tryz.prog 15 #[.agg #[.int .i64 r, .int .i64 c, .slice ao n cap]] w fun e w' => ∃ v, e = .returned v ∧ IsLv w' v lo z ∧ Below w.heap.size w w' := by
  obtain ⟨x0, x1, bb⟩ := boxes1D w r c ao n cap
  have X0 := hide x0; have X1 := hide x1; have BB := hide bb; have K := hide C
  clear x0 x1 bb C
  have y2 := (unhide X0).c2
  go_enter Tryz.func15, Tryz.ntmps15
  go_wp2_with fail
  refine (unhide K _ (unhide BB)).mono ?_
  rintro e w2 ⟨v, rfl, ⟨n5, a5, c5, L5, rfl, i5⟩, hb1⟩
  have Q5 : IsLv w2 (.agg #[.bool n5, .slice a5 L5.length c5, .int .i64 (oE z lo)]) lo z := ⟨n5, a5, c5, L5, rfl, i5⟩
  generalize L5.length = l5 at *
  generalize oE z lo = X5 at *
  have xe := (unhide X1).all hb1
  have r0 := xe.c0; have r1 := xe.c1; have r2 := xe.c2; have f0 := xe.free 0; have f1 := xe.free 1; have f2 := xe.free 2
  have xp := xe.put (.bool n5) (.slice a5 l5 c5) (.int .i64 X5)
  have z0 := xp.c0; have z1 := xp.c1; have z2 := xp.c2
  have HV := hide (IsDy.put3 Q5 xe (.bool n5) (.slice a5 l5 c5) (.int .i64 X5))
  have HB := hide (below_put3 ((unhide BB).trans (hb1.mono (unhide BB).size)) (show w.heap.size ≤ w.heap.size + 1 by omega) (.bool n5) (.slice a5 l5 c5) (.int .i64 X5))
  clear i5 Q5 xe xp hb1 BB X0 X1 K y2
  go_wp2
  exact bodyPost_ret (v := .agg #[.bool n5, .slice a5 l5 c5, .int .i64 X5]) (by simp [results, Tryz.results15, go_sem, z0, z1, z2]) rfl ⟨_, rfl, unhide HV, unhide HB⟩

theorem sqK_sm (S : List Nat) : ∀ k, sqK (mxL S) k = smI (fun p => fZ (S.getD p 0) * fZ (S.getD p 0)) k
  | 0 => rfl
  | k + 1 => by
    show sqK (mxL S) k + fZ (atB (mxL S) k) * fZ (atB (mxL S) k) = smI _ k + _
    rw [sqK_sm S k, mxL_at]
theorem fnK_all {I : List Int} : ∀ n, fnK I n = true ↔ ∀ k, k < n → fFin (atB I k) = true
  | 0 => ⟨fun _ k hk => by omega, fun _ => rfl⟩
  | n + 1 => by
    show (fnK I n && fFin (atB I n)) = true ↔ _
    rw [Bool.and_eq_true, fnK_all n]
    constructor
    · rintro ⟨h1, h2⟩ k hk
      by_cases e : k = n
      · subst e; exact h2
      · exact h1 k (by omega)
    · exact fun h => ⟨fun k hk => h k (by omega), h n (by omega)⟩
theorem fin_all {S : List Nat} (h : fnK (mxL S) S.length = true) : ∀ x ∈ S, fFin x = true := fun x hx => by
  obtain ⟨i, hi, rfl⟩ := List.getElem_of_mem hx
  have := (fnK_all _).1 h i hi
  rw [mxL_at] at this
  rwa [List.getD_eq_getElem?_getD, List.getElem?_eq_getElem hi] at this
theorem all_fin {S : List Nat} (h : ∀ x ∈ S, fFin x = true) : fnK (mxL S) S.length = true := (fnK_all _).2 fun k hk => by
  rw [mxL_at, List.getD_eq_getElem?_getD, List.getElem?_eq_getElem hk]
  exact h _ (List.getElem_mem hk)

/-- Of a matrix that may be asked. -/
theorem r11square_any (r c cap : Nat) (ao : Option Addr) (S : List Nat) (w : World) (h : Mx w ao cap r c S) (hf : ∀ x ∈ S, fFin x = true) :
    Calls Tryz.prog 15 #[.agg #[.int .i64 r, .int .i64 c, .slice ao S.length cap]] w fun e w' => ∃ v, e = .returned v ∧ IsLv w' v (-2148) (sqZ S) ∧ Below w.heap.size w w' := by
  refine r11square_of r c ao S.length cap (-2148) (sqZ S) w (fun w' hb => ?_)
  have := r9squares_any ao cap (mxL S) w' (h.1.below hb) (by rw [mxL_len]; have := h.small; omega) (by rw [mxL_len]; exact all_fin hf)
  rw [mxL_len, sqK_sm] at this
  exact this

/-- What Check's answer 0 says. -/
theorem ckE_zero {r c : Int} {I : List Int} (h : ckE r c I = 0) : okB r c I.length = true ∧ fnK I I.length = true := by
  unfold ckE at h
  by_cases h1 : okB r c I.length = true
  · rw [if_pos h1] at h
    refine ⟨h1, ?_⟩
    by_cases h2 : fnK I I.length = true
    · exact h2
    · rw [if_neg h2] at h; omega
  · rw [if_neg h1] at h; omega
theorem Mx.asked {w : World} {ao : Option Addr} {cap : Nat} {I : List Int} {r c : Int} (h : BitsAt w ao cap I) (hc : ckE r c I = 0) : ∃ p q : Nat, r = (p : Int) ∧ c = (q : Int) ∧ Mx w ao cap p q (natL I) ∧ mxL (natL I) = I ∧ (∀ x ∈ natL I, fFin x = true) := by
  obtain ⟨h1, h2⟩ := ckE_zero hc
  obtain ⟨p, q, e1, e2, hM, hS⟩ := Mx.of h h1
  refine ⟨p, q, e1, e2, hM, hS, fin_all ?_⟩
  rw [hS, natL_len]
  exact h2

end Go.Proofs.YtfnnbkclnflpfaaGreatDoor

/- The law of layer 11: told, one, awake. -/
namespace Go.Proofs.YtfnnbkclnflpfaaGreatDoor
open Go.RowKit
attribute [local go_sem ↓] Go.wp_at_zero Go.wp_at_succ

set_option maxRecDepth 20000 in
set_option maxHeartbeats 4000000 in
theorem told11_ok {w : World} {d u : Value} {m x : Int} (hd : IsDy w d m x) (hu : IsDy w u m x) :
    Calls Tryz.prog 13 #[d, .int .i64 0, u, .int .i64 0] w fun e w' => e = .returned (.bool true) ∧ Below w.heap.size w w' := by
  have K := hide (fun w' (hb : Below w.heap.size w w') => dsame_dy (hd.below hb) (hu.below hb))
  simp only [and_self, decide_true] at K
  obtain ⟨na, ao, ca, A, rfl, _⟩ := hd
  obtain ⟨nb, bo, cb, B, rfl, _⟩ := hu
  generalize A.length = la at *
  generalize B.length = lb at *
  have ST := hide (AmSt.start w na nb ao bo la lb ca cb x x)
  have x0 := (unhide ST).1.c0; have x1 := (unhide ST).1.c1; have x2 := (unhide ST).1.c2
  have y0 := (unhide ST).2.1.c0; have y1 := (unhide ST).2.1.c1; have y2 := (unhide ST).2.1.c2
  go_enter Tryz.func13, Tryz.ntmps13
  go_wp2_with fail
  refine (unhide K _ (unhide ST).2.2).mono ?_
  rintro e w1 ⟨rfl, hb1⟩
  clear x0 x1 x2 y0 y1 y2
  replace ST := hide ((unhide ST).all hb1)
  clear hb1 K
  go_wp2
  go_ret
  exact ⟨rfl, (unhide ST).2.2⟩

set_option maxRecDepth 20000 in
set_option maxHeartbeats 4000000 in
theorem told11_err (f : Int) (hf : f = 1 ∨ f = 3 ∨ f = 4) (w : World) :
    Calls Tryz.prog 13 #[.agg #[.bool false, .slice none 0 0, .int .i64 0], .int .i64 f, .agg #[.bool false, .slice none 0 0, .int .i64 0], .int .i64 f] w fun e w' => e = .returned (.bool true) ∧ Below w.heap.size w w' := by
  have K := hide (fun w' => dsame_dy (IsLv.zero w' 0) (IsLv.zero w' 0))
  simp only [and_self, decide_true] at K
  have ST := hide (AmSt.start w false false none none 0 0 0 0 0 0)
  have x0 := (unhide ST).1.c0; have x1 := (unhide ST).1.c1; have x2 := (unhide ST).1.c2
  rcases hf with rfl | rfl | rfl
  all_goals
    go_enter Tryz.func13, Tryz.ntmps13
    go_wp2_with fail
    refine (unhide K _).mono ?_
    rintro e w1 ⟨rfl, hb1⟩
    clear x0 x1 x2
    replace ST := hide ((unhide ST).all hb1)
    clear hb1 K
    go_wp2
    go_ret
    exact ⟨rfl, (unhide ST).2.2⟩

set_option maxRecDepth 20000 in
set_option maxHeartbeats 4000000 in
theorem one11_any (b : Nat) (hb : b < 18446744073709551616) (w : World) :
    Calls Tryz.prog 43 #[.int .u64 b] w fun e w' => ∃ ao cap, e = .returned (.agg #[.int .i64 1, .int .i64 1, .slice ao 1 cap]) ∧ BitsAt w' ao cap (mxL [b]) ∧ Below w.heap.size w w' := by
  have b0 := below_alloc9 w (.cells #[.int .i64 1, .int .i64 1, .slice (some ⟨w.heap.size + 1, 0, none⟩) 1 1] 24)
  have s0 := size_alloc9 w (.cells #[.int .i64 1, .int .i64 1, .slice (some ⟨w.heap.size + 1, 0, none⟩) 1 1] 24)
  have x0 := BoxM.new w (.int .i64 1) (.int .i64 1) (.slice (some ⟨w.heap.size + 1, 0, none⟩) 1 1)
  generalize hw0 : w.alloc (.cells #[.int .i64 1, .int .i64 1, .slice (some ⟨w.heap.size + 1, 0, none⟩) 1 1] 24) = w0 at *
  have b1 := below_alloc9 w0 (.cells #[.int .u64 b] 52)
  have h1 := heap_alloc_new w0 (.cells #[.int .u64 b] 52)
  have s1 := size_alloc9 w0 (.cells #[.int .u64 b] 52)
  have x1 := x0.all b1
  have hB : BitsAt (w0.alloc (.cells #[.int .u64 b] 52)) (some ⟨w.heap.size + 1, 0, none⟩) 1 (mxL [b]) := by
    refine ⟨by simp [mxL], fun x hx => ?_, .inr ⟨_, _, rfl, by omega, fun i hi => ?_⟩⟩
    · obtain rfl : x = (b : Int) := by simpa [mxL] using hx
      omega
    · obtain rfl : i = 0 := by simpa [mxL] using hi
      rw [s0] at h1
      rw [cell_of_row _ _ _ _ _ _ h1]; rfl
  have y0 := x1.c0; have y1 := x1.c1; have y2 := x1.c2
  have HB := hide hB; have BB := hide (b0.trans (b1.mono b0.size))
  rw [← hw0] at y0 y1 y2 HB BB
  clear b0 s0 x0 hw0 b1 h1 s1 x1 hB
  go_enter Tryz.func43, Tryz.ntmps43
  go_wp2_with fail
  exact bodyPost_ret (v := .agg #[.int .i64 1, .int .i64 1, .slice (some ⟨w.heap.size + 1, 0, none⟩) 1 1]) (by simp [results, Tryz.results43, go_sem, y0, y1, y2]) rfl ⟨_, _, rfl, unhide HB, unhide BB⟩

theorem dy_one {w : World} {v : Value} (h : IsDy w v 1 0) : ∃ g off cap, v = .agg #[.bool false, .slice (some ⟨g, off, none⟩) 1 cap, .int .i64 0] ∧ g < w.heap.size ∧ w.cell? ⟨g, off, none⟩ = some (.int .u32 1) := by
  obtain ⟨neg, ao, cap, L, rfl, h1, h2, h3, h4, _⟩ := h.parts
  have e : L = [1] := eq_of_canon L [1] h1.2.1 (by intro x hx; simp at hx; omega) h2 (.inr (by simp)) (by rw [h4]; rfl)
  subst e
  have e2 : neg = false := by rw [h3]; rfl
  subst e2
  obtain ⟨g, off, rfl, hg, hc⟩ := h1.ne (by decide)
  exact ⟨g, off, cap, rfl, hg, hc 0 (by decide)⟩

set_option maxRecDepth 20000 in
set_option maxHeartbeats 8000000 in
theorem awake11_of (w : World)
    (C1 : ∀ w' ao ca bo cb co cc, Below w.heap.size w w' → BitsAt w' ao ca (mxL [4611686018427387904]) → BitsAt w' bo cb (mxL [4607182418800017408]) → BitsAt w' co cc (mxL [4607182418800017408]) → Calls Tryz.prog 17 #[.agg #[.int .i64 1, .int .i64 1, .slice ao 1 ca], .agg #[.int .i64 1, .int .i64 1, .slice bo 1 cb], .agg #[.int .i64 1, .int .i64 1, .slice co 1 cc]] w' fun e w'' => ∃ v, e = .returned (.tuple #[v, .int .i64 0]) ∧ IsDy w'' v 1 0 ∧ Below w'.heap.size w' w'')
    (C2 : ∀ w' ao ca, Below w.heap.size w w' → BitsAt w' ao ca (mxL [4607182418800017408]) → Calls Tryz.prog 24 #[.agg #[.int .i64 1, .int .i64 1, .slice ao 1 ca]] w' fun e w'' => e = .returned (.tuple #[.int .i64 1, .int .i64 0]) ∧ Below w'.heap.size w' w'') :
    Calls Tryz.prog 14 #[] w fun e w' => e = .returned (.bool true) ∧ Below w.heap.size w w' := by
  have K1 := hide C1; have K2 := hide C2
  have K3 := hide (fun w' => one11_any 4611686018427387904 (by decide) w')
  have K4 := hide (fun w' => one11_any 4607182418800017408 (by decide) w')
  have BB := hide (Below.refl w.heap.size w)
  clear C1 C2
  go_enter Tryz.func14, Tryz.ntmps14
  go_wp2_with fail
  refine (unhide K3 _).mono ?_
  rintro e w1 ⟨ao, ca, rfl, qa, hb1⟩
  replace BB := hide ((unhide BB).trans hb1)
  have QA := hide qa
  clear qa hb1 K3
  go_wp2_with fail
  refine (unhide K4 _).mono ?_
  rintro e w2 ⟨bo, cb, rfl, qb, hb1⟩
  replace BB := hide ((unhide BB).trans (hb1.mono (unhide BB).size)); replace QA := hide ((unhide QA).below hb1)
  have QB := hide qb
  clear qb hb1
  go_wp2_with fail
  refine (unhide K4 _).mono ?_
  rintro e w3 ⟨co, cc, rfl, qc, hb1⟩
  replace BB := hide ((unhide BB).trans (hb1.mono (unhide BB).size)); replace QA := hide ((unhide QA).below hb1); replace QB := hide ((unhide QB).below hb1)
  have QC := hide qc
  clear qc hb1
  go_wp2_with fail
  refine (unhide K1 _ _ _ _ _ _ _ (unhide BB) (unhide QA) (unhide QB) (unhide QC)).mono ?_
  rintro e w4 ⟨v, rfl, iL, hb1⟩
  obtain ⟨g, off, lc, rfl, hg, hc⟩ := dy_one iL
  have ba := below_alloc9 w4 (.cells #[.bool false, .slice (some ⟨g, off, none⟩) 1 lc, .int .i64 0] 29)
  have hbb := hb1.trans (ba.mono hb1.size)
  replace BB := hide ((unhide BB).trans (hbb.mono (unhide BB).size))
  have XD := hide (Box3.new w4 (.bool false) (.slice (some ⟨g, off, none⟩) 1 lc) (.int .i64 0))
  have HC := hide (cell_keep hc ba)
  have hg2 : g < (w4.alloc (.cells #[.bool false, .slice (some ⟨g, off, none⟩) 1 lc, .int .i64 0] 29)).heap.size := by simp; omega
  clear hb1 hbb ba QA QB QC K1 iL hc hg
  go_wp2_with fail
  generalize w4.heap.size = d at *
  refine (unhide K4 _).mono ?_
  rintro e w5 ⟨bo, cb, rfl, qb, hb1⟩
  replace BB := hide ((unhide BB).trans (hb1.mono (unhide BB).size)); replace XD := hide ((unhide XD).all hb1); replace HC := hide (cell_keep (unhide HC) hb1)
  have QB := hide qb
  clear qb hb1 K4 hg2
  go_wp2_with fail
  refine (unhide K2 _ _ _ (unhide BB) (unhide QB)).mono ?_
  rintro e w6 ⟨rfl, hb1⟩
  replace BB := hide ((unhide BB).trans (hb1.mono (unhide BB).size)); replace XD := hide ((unhide XD).all hb1); replace HC := hide (cell_keep (unhide HC) hb1)
  clear hb1 K2 QB
  have c0 := unhide HC
  have x0 := (unhide XD).c0; have x1 := (unhide XD).c1; have x2 := (unhide XD).c2
  go_wp2
  go_ret
  exact ⟨rfl, unhide BB⟩

theorem awake_rs : rsQ 1 1 1 [4611686018427387904] [4607182418800017408] [4607182418800017408] = 1 * 2 ^ 4296 := by decide +kernel
theorem awake_dy {w : World} {v : Value} (h : IsLv w v (-4296) (rsQ 1 1 1 [4611686018427387904] [4607182418800017408] [4607182418800017408])) : IsDy w v 1 0 := by
  unfold IsLv at h
  rw [awake_rs] at h
  obtain ⟨e1, e2⟩ := oM_scale 1 4296 (-4296)
  rw [e1, e2] at h
  exact h
theorem rank_one {a : Nat → Nat → Int} (h : a 0 0 ≠ 0) : IsRank 1 a 1 1 := by
  refine ⟨fun hv => h ?_, fun I C hI _ lI _ => ?_⟩
  · have := hv [0] [0] ⟨List.pairwise_singleton _ _, by simp⟩ ⟨List.pairwise_singleton _ _, by simp⟩ rfl rfl
    have e : minorD a [0] [0] = a 0 0 := by simp [minorD, detD, exD]
    rw [← e]; exact this
  · obtain ⟨i, j, rfl⟩ : ∃ i j, I = [i, j] := by
      match I, lI with
      | [i, j], _ => exact ⟨i, j, rfl⟩
    have h1 := hI.2 i (by simp)
    have h2 := hI.2 j (by simp)
    have h3 := hI.1
    simp at h3
    omega
theorem fin_two : ∀ x ∈ [4611686018427387904], fFin x = true := by decide
theorem fin_one : ∀ x ∈ [4607182418800017408], fFin x = true := by decide
theorem fZ_one : fZ 4607182418800017408 ≠ 0 := by decide +kernel
theorem awake11_any (w : World) (hT : Tab w) : Calls Tryz.prog 14 #[] w fun e w' => e = .returned (.bool true) ∧ Below w.heap.size w w' := by
  have hm : ∀ (w' : World) ao cap (b : Nat), BitsAt w' ao cap (mxL [b]) → Mx w' ao cap 1 1 [b] := fun w' ao cap b h => ⟨h, rfl, by omega, by omega⟩
  refine awake11_of w (fun w' ao ca bo cb co cc hb ha hB hc => ?_) (fun w' ao ca hb ha => ?_)
  · refine (cRes_any 1 1 1 ca cb cc ao bo co [4611686018427387904] [4607182418800017408] [4607182418800017408] w' (hm _ _ _ _ ha) (hm _ _ _ _ hB) (hm _ _ _ _ hc) fin_two fin_one fin_one (hT.all hb)).mono ?_
    rintro e w'' ⟨v, h1, h2, h3⟩
    exact ⟨v, h1, awake_dy h2, h3⟩
  · refine (cRank_any 1 1 ca ao [4607182418800017408] w' (hm _ _ _ _ ha) fin_one (hT.all hb)).mono ?_
    rintro e w'' ⟨k, rfl, h2, h3⟩
    have := h2.unique (rank_one (a := fun i k => fZ (elM 1 [4607182418800017408] i k)) fZ_one)
    subst this
    exact ⟨rfl, h3⟩

end Go.Proofs.YtfnnbkclnflpfaaGreatDoor

/- The law CertifySquares, walked. -/
namespace Go.Proofs.YtfnnbkclnflpfaaGreatDoor
open Go.RowKit
attribute [local go_sem ↓] Go.wp_at_zero Go.wp_at_succ

set_option maxRecDepth 20000 in
set_option maxHeartbeats 8000000 in
theorem certifySquares_err (r c : Int) (ao : Option Addr) (n cap : Nat) (f : Int) (hf : f = 1 ∨ f = 4) (w : World)
    (C1 : ∀ w', Below w.heap.size w w' → Calls Tryz.prog 9 #[.agg #[.int .i64 r, .int .i64 c, .slice ao n cap]] w' fun e w'' => e = .returned (.tuple #[.agg #[.bool false, .slice none 0 0, .int .i64 0], .int .i64 f]) ∧ Below w'.heap.size w' w'')
    (C2 : ∀ w', Below w.heap.size w w' → Calls Tryz.prog 10 #[.agg #[.int .i64 r, .int .i64 c, .slice ao n cap]] w' fun e w'' => e = .returned (.tuple #[.agg #[.bool false, .slice none 0 0, .int .i64 0], .int .i64 f]) ∧ Below w'.heap.size w' w'')
    (C3 : ∀ w', Below w.heap.size w w' → Calls Tryz.prog 11 #[.agg #[.int .i64 r, .int .i64 c, .slice ao n cap]] w' fun e w'' => e = .returned (.int .i64 f) ∧ Below w'.heap.size w' w'')
    (C4 : ∀ w', Below w.heap.size w w' → Calls Tryz.prog 12 #[.agg #[.int .i64 r, .int .i64 c, .slice ao n cap]] w' fun e w'' => e = .returned (.int .i64 f) ∧ Below w'.heap.size w' w'')
    (CA : ∀ w', Below w.heap.size w w' → Calls Tryz.prog 14 #[] w' fun e w'' => e = .returned (.bool true) ∧ Below w'.heap.size w' w'') :
    Calls Tryz.prog 3 #[.agg #[.int .i64 r, .int .i64 c, .slice ao n cap]] w fun e w' => e = .returned (.bool true) ∧ Below w.heap.size w w' := by
  have K1 := hide C1; have K2 := hide C2; have K3 := hide C3; have K4 := hide C4; have KA := hide CA
  have K5 := hide (fun w' => told11_err f (by rcases hf with h | h <;> omega) w')
  have BB := hide (below_alloc9 w (.cells #[.int .i64 r, .int .i64 c, .slice ao n cap] 24))
  have X0 := hide (BoxM.new w (.int .i64 r) (.int .i64 c) (.slice ao n cap))
  have hf0 : (f != 0) = true := by rcases hf with rfl | rfl <;> rfl
  clear C1 C2 C3 C4 CA
  have y0 := (unhide X0).c0; have y1 := (unhide X0).c1; have y2 := (unhide X0).c2
  rcases hf with rfl | rfl
  all_goals
    go_enter Tryz.func3, Tryz.ntmps3
    go_wp2_with fail
    refine (unhide K1 _ (unhide BB)).mono ?_
    rintro e w1 ⟨rfl, hb1⟩
    have ba := below_alloc9 w1 (.cells #[.bool false, .slice none 0 0, .int .i64 0] 29)
    have hbb := hb1.trans (ba.mono hb1.size)
    have XS := hide (Box3.new w1 (.bool false) (.slice none 0 0) (.int .i64 0))
    replace BB := hide ((unhide BB).trans (hbb.mono (unhide BB).size)); replace X0 := hide ((unhide X0).all hbb)
    clear hb1 ba hbb K1 y0 y1 y2
    have y0 := (unhide X0).c0; have y1 := (unhide X0).c1; have y2 := (unhide X0).c2
    go_wp2_with fail
    generalize w1.heap.size = g1 at *
    refine (unhide K2 _ (unhide BB)).mono ?_
    rintro e w2 ⟨rfl, hb1⟩
    have ba := below_alloc9 w2 (.cells #[.bool false, .slice none 0 0, .int .i64 0] 29)
    have hbb := hb1.trans (ba.mono hb1.size)
    have XO := hide (Box3.new w2 (.bool false) (.slice none 0 0) (.int .i64 0))
    replace BB := hide ((unhide BB).trans (hbb.mono (unhide BB).size)); replace X0 := hide ((unhide X0).all hbb); replace XS := hide ((unhide XS).all hbb)
    clear hb1 ba hbb K2 y0 y1 y2
    have y0 := (unhide X0).c0; have y1 := (unhide X0).c1; have y2 := (unhide X0).c2
    go_wp2_with fail
    generalize w2.heap.size = g2 at *
    refine (unhide K3 _ (unhide BB)).mono ?_
    rintro e w3 ⟨rfl, hb1⟩
    replace BB := hide ((unhide BB).trans (hb1.mono (unhide BB).size)); replace X0 := hide ((unhide X0).all hb1); replace XS := hide ((unhide XS).all hb1); replace XO := hide ((unhide XO).all hb1)
    clear hb1 K3 y0 y1 y2
    have y0 := (unhide X0).c0; have y1 := (unhide X0).c1; have y2 := (unhide X0).c2
    go_wp2_with fail
    refine (unhide K4 _ (unhide BB)).mono ?_
    rintro e w4 ⟨rfl, hb1⟩
    replace BB := hide ((unhide BB).trans (hb1.mono (unhide BB).size)); replace XS := hide ((unhide XS).all hb1); replace XO := hide ((unhide XO).all hb1)
    clear hb1 K4 y0 y1 y2 X0
    have s0 := (unhide XS).c0; have s1 := (unhide XS).c1; have s2 := (unhide XS).c2
    go_wp2_with fail
    refine (unhide K5 _).mono ?_
    rintro e w5 ⟨rfl, hb1⟩
    replace BB := hide ((unhide BB).trans (hb1.mono (unhide BB).size)); replace XO := hide ((unhide XO).all hb1)
    clear hb1 s0 s1 s2 XS
    have s0 := (unhide XO).c0; have s1 := (unhide XO).c1; have s2 := (unhide XO).c2
    go_wp2_with fail
    refine (unhide K5 _).mono ?_
    rintro e w6 ⟨rfl, hb1⟩
    replace BB := hide ((unhide BB).trans (hb1.mono (unhide BB).size))
    clear hb1 s0 s1 s2 XO K5
    go_wp2_with fail
    refine (unhide KA _ (unhide BB)).mono ?_
    rintro e w7 ⟨rfl, hb1⟩
    replace BB := hide ((unhide BB).trans (hb1.mono (unhide BB).size))
    clear hb1 KA
    go_wp2
    go_ret
    exact ⟨rfl, unhide BB⟩

set_option maxRecDepth 20000 in
set_option maxHeartbeats 16000000 in
theorem certifySquares_ok (r c : Int) (ao : Option Addr) (n cap : Nat) (lo1 z1 lo2 z2 : Int) (w : World)
    (C1 : ∀ w', Below w.heap.size w w' → Calls Tryz.prog 9 #[.agg #[.int .i64 r, .int .i64 c, .slice ao n cap]] w' fun e w'' => ∃ v, e = .returned (.tuple #[v, .int .i64 0]) ∧ IsLv w'' v lo1 z1 ∧ Below w'.heap.size w' w'')
    (C2 : ∀ w', Below w.heap.size w w' → Calls Tryz.prog 10 #[.agg #[.int .i64 r, .int .i64 c, .slice ao n cap]] w' fun e w'' => ∃ v, e = .returned (.tuple #[v, .int .i64 0]) ∧ IsLv w'' v lo2 z2 ∧ Below w'.heap.size w' w'')
    (C3 : ∀ w', Below w.heap.size w w' → Calls Tryz.prog 11 #[.agg #[.int .i64 r, .int .i64 c, .slice ao n cap]] w' fun e w'' => e = .returned (.int .i64 0) ∧ Below w'.heap.size w' w'')
    (C4 : ∀ w', Below w.heap.size w w' → Calls Tryz.prog 12 #[.agg #[.int .i64 r, .int .i64 c, .slice ao n cap]] w' fun e w'' => e = .returned (.int .i64 0) ∧ Below w'.heap.size w' w'')
    (C5 : ∀ w', Below w.heap.size w w' → Calls Tryz.prog 15 #[.agg #[.int .i64 r, .int .i64 c, .slice ao n cap]] w' fun e w'' => ∃ v, e = .returned v ∧ IsLv w'' v lo1 z1 ∧ Below w'.heap.size w' w'')
    (C6 : ∀ w', Below w.heap.size w w' → Calls Tryz.prog 16 #[.agg #[.int .i64 r, .int .i64 c, .slice ao n cap]] w' fun e w'' => ∃ v, e = .returned v ∧ IsLv w'' v lo2 z2 ∧ Below w'.heap.size w' w'')
    (CA : ∀ w', Below w.heap.size w w' → Calls Tryz.prog 14 #[] w' fun e w'' => e = .returned (.bool true) ∧ Below w'.heap.size w' w'') :
    Calls Tryz.prog 3 #[.agg #[.int .i64 r, .int .i64 c, .slice ao n cap]] w fun e w' => e = .returned (.bool true) ∧ Below w.heap.size w w' := by
  have K1 := hide C1; have K2 := hide C2; have K3 := hide C3; have K4 := hide C4; have K5 := hide C5; have K6 := hide C6; have KA := hide CA
  have BB := hide (below_alloc9 w (.cells #[.int .i64 r, .int .i64 c, .slice ao n cap] 24))
  have X0 := hide (BoxM.new w (.int .i64 r) (.int .i64 c) (.slice ao n cap))
  clear C1 C2 C3 C4 C5 C6 CA
  have y0 := (unhide X0).c0; have y1 := (unhide X0).c1; have y2 := (unhide X0).c2
  go_enter Tryz.func3, Tryz.ntmps3
  go_wp2_with fail
  refine (unhide K1 _ (unhide BB)).mono ?_
  rintro e w1 ⟨v, rfl, ⟨n1, a1, c1, L1, rfl, i1⟩, hb1⟩
  have q1 : IsLv w1 (.agg #[.bool n1, .slice a1 L1.length c1, .int .i64 (oE z1 lo1)]) lo1 z1 := ⟨n1, a1, c1, L1, rfl, i1⟩
  generalize L1.length = l1 at *
  generalize hE1 : oE z1 lo1 = E1 at *
  have ba := below_alloc9 w1 (.cells #[.bool n1, .slice a1 l1 c1, .int .i64 E1] 29)
  have hbb := hb1.trans (ba.mono hb1.size)
  have XS := hide (Box3.new w1 (.bool n1) (.slice a1 l1 c1) (.int .i64 E1)); have QS := hide (q1.below ba)
  replace BB := hide ((unhide BB).trans (hbb.mono (unhide BB).size)); replace X0 := hide ((unhide X0).all hbb)
  clear hb1 ba hbb K1 y0 y1 y2 q1 i1
  have y0 := (unhide X0).c0; have y1 := (unhide X0).c1; have y2 := (unhide X0).c2
  have H1 := hide hE1
  clear hE1
  go_wp2_with fail
  generalize w1.heap.size = g1 at *
  refine (unhide K2 _ (unhide BB)).mono ?_
  rintro e w2 ⟨v, rfl, ⟨n2, a2, c2, L2, rfl, i2⟩, hb1⟩
  have q2 : IsLv w2 (.agg #[.bool n2, .slice a2 L2.length c2, .int .i64 (oE z2 lo2)]) lo2 z2 := ⟨n2, a2, c2, L2, rfl, i2⟩
  generalize L2.length = l2 at *
  generalize hE2 : oE z2 lo2 = E2 at *
  have ba := below_alloc9 w2 (.cells #[.bool n2, .slice a2 l2 c2, .int .i64 E2] 29)
  have hbb := hb1.trans (ba.mono hb1.size)
  have XO := hide (Box3.new w2 (.bool n2) (.slice a2 l2 c2) (.int .i64 E2)); have QO := hide (q2.below ba)
  replace BB := hide ((unhide BB).trans (hbb.mono (unhide BB).size)); replace X0 := hide ((unhide X0).all hbb); replace XS := hide ((unhide XS).all hbb); replace QS := hide ((unhide QS).below hbb)
  clear hb1 ba hbb K2 y0 y1 y2 q2 i2
  have y0 := (unhide X0).c0; have y1 := (unhide X0).c1; have y2 := (unhide X0).c2
  have H2 := hide hE2
  clear hE2
  go_wp2_with fail
  generalize w2.heap.size = g2 at *
  refine (unhide K3 _ (unhide BB)).mono ?_
  rintro e w3 ⟨rfl, hb1⟩
  replace BB := hide ((unhide BB).trans (hb1.mono (unhide BB).size)); replace X0 := hide ((unhide X0).all hb1); replace XS := hide ((unhide XS).all hb1); replace XO := hide ((unhide XO).all hb1); replace QS := hide ((unhide QS).below hb1); replace QO := hide ((unhide QO).below hb1)
  clear hb1 K3 y0 y1 y2
  have y0 := (unhide X0).c0; have y1 := (unhide X0).c1; have y2 := (unhide X0).c2
  go_wp2_with fail
  refine (unhide K4 _ (unhide BB)).mono ?_
  rintro e w4 ⟨rfl, hb1⟩
  replace BB := hide ((unhide BB).trans (hb1.mono (unhide BB).size)); replace X0 := hide ((unhide X0).all hb1); replace XS := hide ((unhide XS).all hb1); replace XO := hide ((unhide XO).all hb1); replace QS := hide ((unhide QS).below hb1); replace QO := hide ((unhide QO).below hb1)
  clear hb1 K4 y0 y1 y2
  go_wp2_with fail
  refine at_world (fun W => (Below w.heap.size w W ∧ BoxM W w.heap.size (.int .i64 r) (.int .i64 c) (.slice ao n cap)) ∧ (Box3 W g1 (.bool n1) (.slice a1 l1 c1) (.int .i64 E1) ∧ Box3 W g2 (.bool n2) (.slice a2 l2 c2) (.int .i64 E2)) ∧ (IsLv W (.agg #[.bool n1, .slice a1 l1 c1, .int .i64 E1]) lo1 z1 ∧ IsLv W (.agg #[.bool n2, .slice a2 l2 c2, .int .i64 E2]) lo2 z2)) ⟨⟨unhide BB, unhide X0⟩, ⟨unhide XS, unhide XO⟩, unhide QS, unhide QO⟩ ?_
  clear BB X0 XS XO QS QO
  rintro W0 ⟨⟨bb, x0⟩, ⟨xs, xo⟩, qs, qo⟩
  have HK := hide (show ∀ w', Below W0.heap.size W0 w' → Below W0.heap.size W0 w' ∧ w'.cell? ⟨w.heap.size, 0, none⟩ = some (.int .i64 r) ∧ w'.cell? ⟨w.heap.size, 1, none⟩ = some (.int .i64 c) ∧ w'.cell? ⟨w.heap.size, 2, none⟩ = some (.slice ao n cap) ∧ w'.cell? ⟨g1, 0, none⟩ = some (.bool n1) ∧ w'.cell? ⟨g1, 1, none⟩ = some (.slice a1 l1 c1) ∧ w'.cell? ⟨g1, 2, none⟩ = some (.int .i64 E1) ∧ w'.cell? ⟨g2, 0, none⟩ = some (.bool n2) ∧ w'.cell? ⟨g2, 1, none⟩ = some (.slice a2 l2 c2) ∧ w'.cell? ⟨g2, 2, none⟩ = some (.int .i64 E2) from fun w' h => ⟨h, (x0.all h).c0, (x0.all h).c1, (x0.all h).c2, (xs.all h).c0, (xs.all h).c1, (xs.all h).c2, (xo.all h).c0, (xo.all h).c1, (xo.all h).c2⟩)
  have HW := hide (fun w' (h : Below W0.heap.size W0 w') => bb.trans (h.mono bb.size))
  have HS := hide (fun w' (h : Below W0.heap.size W0 w') => qs.below h)
  have HO := hide (fun w' (h : Below W0.heap.size W0 w') => qo.below h)
  clear bb x0 xs xo qs qo
  go_region_held3 (fun w' => Below W0.heap.size W0 w' ∧ w'.cell? ⟨w.heap.size, 0, none⟩ = some (.int .i64 r) ∧ w'.cell? ⟨w.heap.size, 1, none⟩ = some (.int .i64 c) ∧ w'.cell? ⟨w.heap.size, 2, none⟩ = some (.slice ao n cap) ∧ w'.cell? ⟨g1, 0, none⟩ = some (.bool n1) ∧ w'.cell? ⟨g1, 1, none⟩ = some (.slice a1 l1 c1) ∧ w'.cell? ⟨g1, 2, none⟩ = some (.int .i64 E1) ∧ w'.cell? ⟨g2, 0, none⟩ = some (.bool n2) ∧ w'.cell? ⟨g2, 1, none⟩ = some (.slice a2 l2 c2) ∧ w'.cell? ⟨g2, 2, none⟩ = some (.int .i64 E2))
    (first | exact unhide HK _ (Below.refl _ _).drew | exact unhide HK _ (by assumption))
    (first
      | (go_at_call 15; refine (unhide K5 _ (unhide HW _ (And.left (by assumption)))).mono ?_; rintro e wa ⟨v, rfl, ⟨n5, a5, c5, L5, rfl, i5⟩, hb1⟩; have hBa : Below W0.heap.size W0 wa := Below.trans (And.left (by assumption)) (hb1.mono (Below.size (And.left (by assumption)))); have Q5 := hide (show IsLv wa (.agg #[.bool n5, .slice a5 L5.length c5, .int .i64 (oE z1 lo1)]) lo1 z1 from ⟨n5, a5, c5, L5, rfl, i5⟩); clear hb1 i5; generalize L5.length = l5 at *; rw [unhide H1]; rw [unhide H1] at Q5)
      | (go_at_call_of 13 (Value.agg #[.bool n1, .slice a1 l1 c1, .int .i64 E1]); refine (told11_ok (by exact unhide HS _ (And.left (by assumption))) (unhide Q5)).mono ?_; rintro e wb ⟨rfl, hb1⟩; have hBb : Below W0.heap.size W0 wb := Below.trans (And.left (by assumption)) (hb1.mono (Below.size (And.left (by assumption)))); clear hb1 Q5)
      | (go_at_call 16; refine (unhide K6 _ (unhide HW _ (And.left (by assumption)))).mono ?_; rintro e wc ⟨v, rfl, ⟨n6, a6, c6, L6, rfl, i6⟩, hb1⟩; have hBc : Below W0.heap.size W0 wc := Below.trans (And.left (by assumption)) (hb1.mono (Below.size (And.left (by assumption)))); have Q6 := hide (show IsLv wc (.agg #[.bool n6, .slice a6 L6.length c6, .int .i64 (oE z2 lo2)]) lo2 z2 from ⟨n6, a6, c6, L6, rfl, i6⟩); clear hb1 i6; generalize L6.length = l6 at *; rw [unhide H2]; rw [unhide H2] at Q6)
      | (go_at_call_of 13 (Value.agg #[.bool n2, .slice a2 l2 c2, .int .i64 E2]); refine (told11_ok (by exact unhide HO _ (And.left (by assumption))) (unhide Q6)).mono ?_; rintro e wd ⟨rfl, hb1⟩; have hBd : Below W0.heap.size W0 wd := Below.trans (And.left (by assumption)) (hb1.mono (Below.size (And.left (by assumption)))); clear hb1 Q6)
      | (go_at_call 14; refine (unhide KA _ (unhide HW _ (And.left (by assumption)))).mono ?_; rintro e we ⟨rfl, hb1⟩; have hBe : Below W0.heap.size W0 we := Below.trans (And.left (by assumption)) (hb1.mono (Below.size (And.left (by assumption)))); clear hb1)
      | fail "NO ARM")
  have hn : Below W0.heap.size W0 we := And.left (by assumption)
  go_wp2_with fail
  go_ret
  exact ⟨rfl, unhide HW _ hn⟩

theorem certifySquares_walk (r c : Int) (ao : Option Addr) (cap : Nat) (I : List Int) (w : World) (hI : BitsAt w ao cap I) (hl : I.length ≤ 17592186043904) (_hr : -9223372036854775808 ≤ r ∧ r ≤ 9223372036854775807) (_hc : -9223372036854775808 ≤ c ∧ c ≤ 9223372036854775807) (hT : Tab w) :
    Calls Tryz.prog 3 #[.agg #[.int .i64 r, .int .i64 c, .slice ao I.length cap]] w fun e w' => e = .returned (.bool true) ∧ Below w.heap.size w w' := by
  have CA := fun w' (hb : Below w.heap.size w w') => awake11_any w' (hT.all hb)
  have C3 := fun w' (hb : Below w.heap.size w w') => r11check_any r c ao cap I w' (hI.below hb) (by omega)
  have C4 := fun w' (hb : Below w.heap.size w w') => ccheck_any r c ao cap I w' (hI.below hb) (by omega)
  by_cases h0 : ckE r c I = 0
  · rw [h0] at C3 C4
    obtain ⟨r, c, rfl, rfl, hM, hS, hf⟩ := Mx.asked hI h0
    have hlen : (natL I).length = I.length := natL_len I
    refine certifySquares_ok r c ao I.length cap (-2148) (sqZ (natL I)) (-4296) (orQ r c (natL I)) w (fun w' hb => ?_) (fun w' hb => ?_) C3 C4 (fun w' hb => ?_) (fun w' hb => ?_) CA
    · rw [← hlen]; exact cSquare_any r c cap ao (natL I) w' (hM.below hb) hf (hT.all hb)
    · rw [← hlen]; exact cOrth_any r c cap ao (natL I) w' (hM.below hb) hf (hT.all hb)
    · rw [← hlen]; exact r11square_any r c cap ao (natL I) w' (hM.below hb) hf
    · rw [← hlen]; exact rOrth_any r c cap ao (natL I) w' (hM.below hb) hf
  · have hf : ckE r c I = 1 ∨ ckE r c I = 4 := by rcases ckE_three r c I with h | h | h <;> omega
    exact certifySquares_err r c ao I.length cap (ckE r c I) hf w (fun w' hb => cSquare_err r c ao I.length cap _ w' hf (fun w'' hb2 => C4 w'' (hb.trans (hb2.mono hb.size)))) (fun w' hb => cOrth_err r c ao I.length cap _ w' hf (fun w'' hb2 => C4 w'' (hb.trans (hb2.mono hb.size)))) C3 C4 CA

end Go.Proofs.YtfnnbkclnflpfaaGreatDoor

