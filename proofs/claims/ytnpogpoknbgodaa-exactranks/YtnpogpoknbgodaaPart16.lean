/- Part 16 of the texts. -/
import Derived.Test.YtnpogpoknbgodaaPart15
import Derived.Test.YtnpogpoknbgodaaPart09
import Derived.Test.YtnpogpoknbgodaaPart06
import Derived.Test.YtnpogpoknbgodaaPart13
/- Contract of the reference's Turned. -/
namespace Go.Proofs.Ytnpogpoknbgodaa
open Go.RowKit
attribute [local go_sem ↓] Go.wp_at_zero Go.wp_at_succ

theorem Av.orig {w : World} {x : Nm} (h : LimbsAt w x.ao x.cap x.L) {g : Option Nat} (hg : ∀ m, g = some m → w.heap.size ≤ m) : Av g x := by
  cases g with
  | none => exact Av.none w x h
  | some m => exact Av.new h (hg m rfl)

/-- The first c numbers of column k. -/
def colOf (M : List Rw) (k c : Nat) : List Nm := (List.range c).map (fun j => entry M j k)
theorem colOf_succ (M : List Rw) (k c : Nat) : colOf M k (c + 1) = colOf M k c ++ [entry M c k] := by simp [colOf, List.range_succ]
theorem colOf_len (M : List Rw) (k c : Nat) : (colOf M k c).length = c := by simp [colOf]
/-- The rows N are the columns of M, the first k of them. -/
def TurnIs (N M : List Rw) (k : Nat) : Prop := N.length = k ∧ ∀ i, i < k → (rwAt N i).R = colOf M i M.length
theorem TurnIs.snoc {N M : List Rw} {k : Nat} {r : Rw} (h : TurnIs N M k) (hr : r.R = colOf M k M.length) : TurnIs (N ++ [r]) M (k + 1) := by
  refine ⟨by simp [h.1], fun j hj => ?_⟩
  rw [rwAt_snoc, h.1]
  by_cases e : j < k
  · rw [if_pos e]; exact h.2 j e
  · obtain rfl : j = k := by omega
    rw [if_neg e, if_pos rfl]; exact hr

/-- What holds in the loop over one column. -/
def TuI (w : World) (B : Nat) (v3 v5 : Value) (N : List Rw) (R : List Nm) (wr : World) : Prop :=
  OwnRows w.heap.size wr v3 N ∧ OwnNums B wr v5 R ∧ (∀ x ∈ R, LimbsAt w x.ao x.cap x.L) ∧ Below w.heap.size w wr ∧ B ≤ wr.heap.size

end Go.Proofs.Ytnpogpoknbgodaa

/- Two rows exchanged turn the determinant's sign. No program. -/
namespace Go.Proofs.Ytnpogpoknbgodaa

/-- The rows r and s, wherever they stand, exchanged. -/
theorem detD_exch (r s : Nat → Int) (pre mid rs : List (Nat → Int)) (cs : List Nat) : detD (pre ++ s :: (mid ++ r :: rs)) cs = - detD (pre ++ r :: (mid ++ s :: rs)) cs := by
  have h0 := detD_twice (fun c => 1 * r c + 1 * s c) rs pre mid cs
  rw [detD_lin r s 1 1] at h0
  have h1 := detD_lin r s 1 1 rs (pre ++ r :: mid) cs
  have h2 := detD_lin r s 1 1 rs (pre ++ s :: mid) cs
  have h3 := detD_twice r rs pre mid cs
  have h4 := detD_twice s rs pre mid cs
  simp only [List.append_assoc, List.cons_append] at h1 h2
  rw [h3] at h1
  rw [h4] at h2
  rw [h1, h2] at h0
  omega

/-- A list parted at two of its places. -/
theorem parted2 {α : Type} (L : List α) (i j : Nat) (hij : i < j) (hj : j < L.length) :
    ∃ pre mid post, ∃ r s, L = pre ++ r :: (mid ++ s :: post) ∧ pre.length = i ∧ (pre.length + 1 + mid.length = j) ∧ L[i]? = some r ∧ L[j]? = some s ∧ (∀ x y, (L.set i x).set j y = pre ++ x :: (mid ++ y :: post)) := by
  refine ⟨L.take i, (L.drop (i + 1)).take (j - i - 1), L.drop (j + 1), L[i]'(by omega), L[j], ?_, ?_, ?_, ?_, ?_, ?_⟩
  · have e1 : L = L.take i ++ L.drop i := (List.take_append_drop i L).symm
    have e2 : L.drop i = L[i]'(by omega) :: L.drop (i + 1) := (List.drop_eq_getElem_cons (by omega))
    have e3 : L.drop (i + 1) = (L.drop (i + 1)).take (j - i - 1) ++ (L.drop (i + 1)).drop (j - i - 1) := (List.take_append_drop _ _).symm
    have e4 : (L.drop (i + 1)).drop (j - i - 1) = L.drop j := by rw [List.drop_drop]; congr 1; omega
    have e5 : L.drop j = L[j] :: L.drop (j + 1) := List.drop_eq_getElem_cons hj
    rw [← e5, ← e4, ← e3, ← e2]
    exact e1
  · simp; omega
  · simp; omega
  · exact List.getElem?_eq_getElem _
  · exact List.getElem?_eq_getElem _
  · intro x y
    apply List.ext_getElem?
    intro k
    have lt : (L.take i).length = i := by simp; omega
    have lm : ((L.drop (i + 1)).take (j - i - 1)).length = j - i - 1 := by simp; omega
    rw [List.getElem?_append, lt]
    by_cases hk : k < i
    · rw [if_pos hk, List.getElem?_set_ne (by omega), List.getElem?_set_ne (by omega), List.getElem?_take, if_pos hk]
    · rw [if_neg hk]
      by_cases he : k = i
      · subst he
        rw [List.getElem?_set_ne (by omega), List.getElem?_set_self (by omega), Nat.sub_self, List.getElem?_cons_zero]
      · obtain ⟨d, rfl⟩ : ∃ d, k = i + 1 + d := ⟨k - i - 1, by omega⟩
        rw [show i + 1 + d - i = d + 1 by omega, List.getElem?_cons_succ, List.getElem?_append, lm]
        by_cases hd : d < j - i - 1
        · rw [if_pos hd, List.getElem?_set_ne (by omega), List.getElem?_set_ne (by omega), List.getElem?_take, if_pos hd, List.getElem?_drop]
        · rw [if_neg hd]
          by_cases hd2 : d = j - i - 1
          · subst hd2
            rw [Nat.sub_self, List.getElem?_cons_zero, show i + 1 + (j - i - 1) = j by omega, List.getElem?_set_self (by simpa using hj)]
          · obtain ⟨q, rfl⟩ : ∃ q, d = j - i - 1 + 1 + q := ⟨d - (j - i - 1) - 1, by omega⟩
            rw [show j - i - 1 + 1 + q - (j - i - 1) = q + 1 by omega, List.getElem?_cons_succ, List.getElem?_drop, List.getElem?_set_ne (by omega), List.getElem?_set_ne (by omega)]
            congr 1; omega

/-- Two places of the list of rows exchanged: the sign turns. -/
theorem detD_set {L : List (Nat → Int)} {i j : Nat} {r s : Nat → Int} (hij : i ≠ j) (hr : L[i]? = some r) (hs : L[j]? = some s) (cs : List Nat) :
    detD ((L.set i s).set j r) cs = - detD L cs := by
  have hi : i < L.length := by
    rcases Nat.lt_or_ge i L.length with h | h
    · exact h
    · rw [List.getElem?_eq_none h] at hr; cases hr
  have hj : j < L.length := by
    rcases Nat.lt_or_ge j L.length with h | h
    · exact h
    · rw [List.getElem?_eq_none h] at hs; cases hs
  rcases Nat.lt_or_ge i j with h | h
  · obtain ⟨pre, mid, post, r', s', e, _, _, e1, e2, e3⟩ := parted2 L i j h hj
    rw [e1] at hr; rw [e2] at hs
    cases hr; cases hs
    rw [e3, detD_exch, ← e]
  · obtain ⟨pre, mid, post, s', r', e, _, _, e1, e2, e3⟩ := parted2 L j i (by omega) hi
    rw [e1] at hs; rw [e2] at hr
    cases hr; cases hs
    rw [List.set_comm _ _ hij, e3, detD_exch, ← e]
end Go.Proofs.Ytnpogpoknbgodaa

/- Contract of the law's awake. -/
namespace Go.Proofs.Ytnpogpoknbgodaa
open Go.RowKit
attribute [local go_sem ↓] Go.wp_at_zero Go.wp_at_succ

theorem imat2 (w : World) (a b c d : Int) (ha : -100 ≤ a ∧ a ≤ 100) (hb : -100 ≤ b ∧ b ≤ 100) (hc : -100 ≤ c ∧ c ≤ 100) (hd : -100 ≤ d ∧ d ≤ 100) :
    IMatAt (((w.alloc (.cells #[.int .i64 a, .int .i64 b] 2)).alloc (.cells #[.int .i64 c, .int .i64 d] 2)).alloc (.cells #[.slice (some ⟨w.heap.size, 0, none⟩) 2 2, .slice (some ⟨w.heap.size + 1, 0, none⟩) 2 2] 43)) (some ⟨w.heap.size + 1 + 1, 0, none⟩) 2 [⟨some ⟨w.heap.size, 0, none⟩, 2, [a, b]⟩, ⟨some ⟨w.heap.size + 1, 0, none⟩, 2, [c, d]⟩] := by
  have c1 := ((CellsAt.new w #[.int .i64 a, .int .i64 b] 2).old (.cells #[.int .i64 c, .int .i64 d] 2)).old (.cells #[.slice (some ⟨w.heap.size, 0, none⟩) 2 2, .slice (some ⟨w.heap.size + 1, 0, none⟩) 2 2] 43)
  have c2 := (CellsAt.new (w.alloc (.cells #[.int .i64 a, .int .i64 b] 2)) #[.int .i64 c, .int .i64 d] 2).old (.cells #[.slice (some ⟨w.heap.size, 0, none⟩) 2 2, .slice (some ⟨w.heap.size + 1, 0, none⟩) 2 2] 43)
  have c3 := CellsAt.new ((w.alloc (.cells #[.int .i64 a, .int .i64 b] 2)).alloc (.cells #[.int .i64 c, .int .i64 d] 2)) #[.slice (some ⟨w.heap.size, 0, none⟩) 2 2, .slice (some ⟨w.heap.size + 1, 0, none⟩) 2 2] 43
  simp only [World.size_alloc] at c1 c2 c3
  have l1 := c1.lt; have l2 := c2.lt; have l3 := c3.lt
  refine ⟨by simp, ?_, .inr ⟨_, 0, rfl, l3, ?_⟩⟩
  · intro r hr
    simp only [List.mem_cons, List.not_mem_nil, or_false] at hr
    rcases hr with rfl | rfl
    · refine ⟨⟨by simp, by intro x hx; simp at hx; omega, .inr ⟨_, 0, rfl, l1, ?_⟩⟩, by simp⟩
      intro i hi
      simp only [List.length_cons, List.length_nil] at hi
      rw [c1.cell]
      match i, hi with
      | 0, _ => rfl
      | 1, _ => rfl
    · refine ⟨⟨by simp, by intro x hx; simp at hx; omega, .inr ⟨_, 0, rfl, l2, ?_⟩⟩, by simp⟩
      intro i hi
      simp only [List.length_cons, List.length_nil] at hi
      rw [c2.cell]
      match i, hi with
      | 0, _ => rfl
      | 1, _ => rfl
  · intro i hi
    simp only [List.length_cons, List.length_nil] at hi
    rw [c3.cell]
    match i, hi with
    | 0, _ => rfl
    | 1, _ => rfl

theorem mat2_facts {M : List Rw} {a1 a2 : Option Addr} {c1 c2 : Nat} {a b c d : Int} (h : MatIs M [⟨a1, c1, [a, b]⟩, ⟨a2, c2, [c, d]⟩] 2) :
    M.length = 2 ∧ SmallM M ∧ mChk M = 0 ∧ width M = 2 ∧ (valM M 0 0 = a ∧ valM M 0 1 = b ∧ valM M 1 0 = c ∧ valM M 1 1 = d) := by
  obtain ⟨h1, h2⟩ := h
  have r0 := h2 0 (by omega)
  have r1 := h2 1 (by omega)
  have e0 : (irAt [(⟨a1, c1, [a, b]⟩ : IR), ⟨a2, c2, [c, d]⟩] 0).I = [a, b] := rfl
  have e1 : (irAt [(⟨a1, c1, [a, b]⟩ : IR), ⟨a2, c2, [c, d]⟩] 1).I = [c, d] := rfl
  rw [e0] at r0
  rw [e1] at r1
  obtain ⟨q0, p0⟩ := r0
  obtain ⟨q1, p1⟩ := r1
  simp only [List.length_cons, List.length_nil] at q0 q1 p0 p1
  have n00 := p0 0 (by omega); have n01 := p0 1 (by omega); have n10 := p1 0 (by omega); have n11 := p1 1 (by omega)
  have hrow : ∀ r ∈ M, r.R.length = 2 ∧ ∀ x ∈ r.R, rightN x = true ∧ x.L.length ≤ 2 := by
    intro r hr
    obtain ⟨i, hi, rfl⟩ := List.getElem_of_mem hr
    have e : M[i] = rwAt M i := by unfold rwAt; rw [List.getElem?_eq_getElem hi]; rfl
    rw [e]
    have key : ∀ R : List Nm, R.length = 2 → (rightN (nmAt R 0) = true ∧ (nmAt R 0).L.length ≤ 2) → (rightN (nmAt R 1) = true ∧ (nmAt R 1).L.length ≤ 2) → ∀ x ∈ R, rightN x = true ∧ x.L.length ≤ 2 := by
      intro R hR g0 g1 x hx
      obtain ⟨j, hj, rfl⟩ := List.getElem_of_mem hx
      have e : R[j] = nmAt R j := by unfold nmAt; rw [List.getElem?_eq_getElem hj]; rfl
      rw [e]
      match j, (show j < 2 by omega) with
      | 0, _ => exact g0
      | 1, _ => exact g1
    match i, (show i < 2 by omega) with
    | 0, _ => exact ⟨q0, key _ q0 ⟨n00.1, n00.2.2⟩ ⟨n01.1, n01.2.2⟩⟩
    | 1, _ => exact ⟨q1, key _ q1 ⟨n10.1, n10.2.2⟩ ⟨n11.1, n11.2.2⟩⟩
  have hw : width M = 2 := q0
  refine ⟨h1, ⟨by omega, fun r hr => ⟨by have := (hrow r hr).1; omega, fun x hx => by have := ((hrow r hr).2 x hx).2; omega⟩⟩, ?_, hw, n00.2.1, n01.2.1, n10.2.1, n11.2.1⟩
  have s1 : shapeB M = true := by
    unfold shapeB
    rw [hw, h1]
    simp only [Bool.and_eq_true, List.all_eq_true, decide_eq_true_eq]
    exact ⟨⟨by omega, by omega⟩, fun r hr => (hrow r hr).1⟩
  have s2 : (M.all (fun r => r.R.all rightN)) = true := List.all_eq_true.2 fun r hr => List.all_eq_true.2 fun x hx => ((hrow r hr).2 x hx).1
  have s3 : (M.all (fun r => r.R.all shortN)) = true := List.all_eq_true.2 fun r hr => List.all_eq_true.2 fun x hx => by
    have := ((hrow r hr).2 x hx).2
    unfold shortN; exact decide_eq_true (by omega)
  unfold mChk
  rw [s1, s2, s3]; rfl

theorem det2 (M : List Rw) : dm M (2 ^ 2 - 1) = valM M 0 0 * valM M 1 1 - valM M 0 1 * valM M 1 0 := by
  have e : elems (2 ^ 2 - 1) = [0, 1] := by decide +kernel
  unfold dm sz
  rw [e]
  show detD [valM M 0, valM M 1] [0, 1] = _
  simp [detD, exD]

theorem minor2 (a : Nat → Nat → Int) : minorD a (List.range 2) (List.range 2) = a 0 0 * a 1 1 - a 0 1 * a 1 0 := by
  show detD [a 0, a 1] [0, 1] = _
  simp [detD, exD]

theorem rank2 {a : Nat → Nat → Int} {k : Nat} (h : IsRank k a 2 2) (h0 : a 0 0 ≠ 0) (hd : a 0 0 * a 1 1 - a 0 1 * a 1 0 = 0) : k = 1 := by
  refine h.unique ⟨fun hv => h0 ?_, ?_⟩
  · have := hv [0] [0] ⟨by simp, by simp⟩ ⟨by simp, by simp⟩ rfl rfl
    simpa [minorD, detD, exD] using this
  · exact van_full.2 (by rw [minor2]; exact hd)

set_option maxHeartbeats 4000000 in
theorem awake3_any (w : World) : Calls Try.prog 6 #[] w fun e w' => e = .returned (.bool true) ∧ Below w.heap.size w w' := by
  have A1 := hide (imat2 w 1 2 3 4 (by decide) (by decide) (by decide) (by decide))
  go_enter Try.func6, Try.ntmps6
  go_wp2_with fail
  refine (small_any _ _ _ _ (unhide A1) (by simp)).mono ?_
  rintro e w1 ⟨ao1, cap1, M1, rfl, m1, i1, hb1⟩
  obtain ⟨l1, s1, k1, wd1, v1, v2, v3, v4⟩ := mat2_facts i1
  have b1 : Below w.heap.size w w1 := (((((Below.refl w.heap.size w).alloc (Nat.le_refl _) _).alloc (by simp) _).alloc (by simp; omega) _)).trans (hb1.mono (by simp; omega))
  have CD := hide (det_any ao1 cap1 M1 w1 m1 s1)
  have hE : detE M1 = 0 := by unfold detE; rw [if_pos k1, if_pos (by omega)]
  have hV : detV M1 = -2 := by unfold detV; rw [if_pos hE, l1, det2, v1, v2, v3, v4]; rfl
  rw [hE, hV] at CD
  have B1 := hide b1
  clear i1 m1 s1 k1 wd1 v1 v2 v3 v4 hE hV hb1 b1 A1 l1
  go_wp2_with fail
  refine (unhide CD).mono ?_
  rintro e w2 ⟨v, rfl, ⟨n2, a2, c2, L2, rfl, j2⟩, hb2⟩
  have I2 := hide (show IsNum 0 w2 (.agg #[.bool n2, .slice a2 L2.length c2]) (-2) from ⟨n2, a2, c2, L2, rfl, j2⟩)
  have B2 := hide ((unhide B1).trans (hb2.mono (unhide B1).size))
  clear hb2 j2 B1 CD
  have A2 := hide (imat2 (w2.alloc (.cells #[.bool n2, .slice a2 L2.length c2] 35)) 1 2 2 4 (by decide) (by decide) (by decide) (by decide))
  simp only [World.size_alloc] at A2
  go_wp2_with fail
  refine (small_any _ _ _ _ (unhide A2) (by simp)).mono ?_
  rintro e w3 ⟨ao3, cap3, M3, rfl, m3, i3, hb3⟩
  obtain ⟨l3, s3, k3, wd3, v1, v2, v3, v4⟩ := mat2_facts i3
  have hbx : Below w2.heap.size w2 w3 := (((((Below.refl w2.heap.size w2).alloc (Nat.le_refl _) _).alloc (by simp) _).alloc (by simp; omega) _).alloc (by simp; omega) _).trans (hb3.mono (by simp; omega))
  have x3 : Box2 w3 w2.heap.size (.bool n2) (.slice a2 L2.length c2) := ((((Box2.new w2 _ _).old _).old _).old _).below hb3 (by simp; omega)
  have CR := hide (rank_any ao3 cap3 M3 w3 m3 s3)
  rw [k3] at CR
  have HR := hide (fun k (h : IsRank k (valM M3) M3.length (width M3)) => (show k = 1 by
    rw [l3, wd3] at h
    exact rank2 h (by rw [v1]; decide) (by rw [v1, v2, v3, v4]; decide)))
  have I3 := hide ((unhide I2).below hbx)
  have B3 := hide ((unhide B2).trans (hbx.mono (unhide B2).size))
  have X3 := hide x3
  clear i3 m3 s3 k3 wd3 v1 v2 v3 v4 hb3 A2 l3 hbx x3 I2 B2
  go_wp2_with fail
  refine (unhide CR).mono ?_
  rintro e w4 ⟨kk, rfl, hk1, _, hb4⟩
  obtain rfl := unhide HR kk (hk1 (by first | rfl | trivial))
  have x4 := (unhide X3).below hb4 (unhide X3).lt
  have I4 := hide ((unhide I3).below hb4)
  have B4 := hide ((unhide B3).trans (hb4.mono (unhide B3).size))
  have d0 := x4.c0; have d1 := x4.c1
  have X4 := hide x4
  clear hk1 hb4 x4 X3 I3 B3 CR HR
  go_wp2_with fail
  refine at_world (fun W => W = w4) rfl ?_
  rintro W0 e0
  subst e0
  have HK := hide (fun w' (h : Below W0.heap.size W0 w') => show Below W0.heap.size W0 w' ∧ w'.cell? ⟨w2.heap.size, 0, none⟩ = some (.bool n2) ∧ w'.cell? ⟨w2.heap.size, 1, none⟩ = some (.slice a2 L2.length c2) from
    ⟨h, ((unhide X4).below h (unhide X4).lt).c0, ((unhide X4).below h (unhide X4).lt).c1⟩)
  clear d0 d1
  go_region_held3 (fun w' => Below W0.heap.size W0 w' ∧ w'.cell? ⟨w2.heap.size, 0, none⟩ = some (.bool n2) ∧ w'.cell? ⟨w2.heap.size, 1, none⟩ = some (.slice a2 L2.length c2))
    (first | assumption | exact unhide HK _ (Below.refl _ _).drew | exact unhide HK _ (by assumption) | fail "KK")
    (first | (go_at_call 12; refine (refOf_any (-2) _ (by decide) (by decide)).mono ?_; rintro e wn ⟨v, rfl, iv, hb1⟩; have hBn : Below W0.heap.size W0 wn := Below.trans (And.left (by assumption)) (hb1.mono (Below.size (And.left (by assumption)))); have IV := hide (iv.num (by decide)); clear hb1 iv) | (go_at_call 16; refine (same_yes ((unhide I4).below (And.left (by assumption))) (unhide IV) rfl).mono ?_; rintro e wn ⟨rfl, hb1⟩; have hBn : Below W0.heap.size W0 wn := Below.trans (And.left (by assumption)) (hb1.mono (Below.size (And.left (by assumption)))); clear hb1) | fail "NO ARM")
  go_wp2
  go_ret
  exact ⟨rfl, (unhide B4).trans (Below.mono (And.left (by assumption)) (unhide B4).size)⟩

end Go.Proofs.Ytnpogpoknbgodaa

/- Contract of the reference's Light. -/
namespace Go.Proofs.Ytnpogpoknbgodaa
open Go.RowKit
attribute [local go_sem ↓] Go.wp_at_zero Go.wp_at_succ

/-- Is a number short, or not right? -/
def litN (q : Nat) (x : Nm) : Bool := !(decide (q < x.L.length) && rightN x)
def litB (q : Nat) (M : List Rw) : Bool := M.all (fun r => r.R.all (litN q))

theorem lit_false {q : Nat} {M : List Rw} {k j : Nat} (hk : k < M.length) (hj : j < (rwAt M k).R.length) (h : litN q (nmAt (rwAt M k).R j) = false) : litB q M = false :=
  List.all_eq_false.2 ⟨_, rwAt_mem hk, by rw [Bool.not_eq_true]; exact List.all_eq_false.2 ⟨_, nmAt_mem hj, by rw [h]; decide⟩⟩
theorem lit_true {q : Nat} {M : List Rw} (h : ∀ k, k < M.length → ∀ j, j < (rwAt M k).R.length → litN q (nmAt (rwAt M k).R j) = true) : litB q M = true :=
  List.all_eq_true.2 fun r hr => by
    obtain ⟨i, hi, rfl⟩ := List.getElem_of_mem hr
    have e : M[i] = rwAt M i := by unfold rwAt; rw [List.getElem?_eq_getElem hi]; rfl
    rw [e]
    exact List.all_eq_true.2 fun x hx => by
      obtain ⟨j, hj, rfl⟩ := List.getElem_of_mem hx
      have e : (rwAt M i).R[j] = nmAt (rwAt M i).R j := by unfold nmAt; rw [List.getElem?_eq_getElem hj]; rfl
      rw [e]; exact h i hi j hj

set_option maxHeartbeats 8000000 in
theorem light_any (ao : Option Addr) (cap : Nat) (M : List Rw) (q : Nat) (w : World) (h : MatAt w ao cap M) (hs : SmallM M) :
    Calls Try.prog 5 #[.slice ao M.length cap, .int .i64 (q : Int)] w fun e w' => e = .returned (.bool (litB q M)) ∧ Below w.heap.size w w' := by
  have HM := hide h; have HS := hide hs
  have hl := hs.1
  obtain ⟨ml, hml⟩ : ∃ ml, M.length = ml := ⟨_, rfl⟩
  obtain ⟨ce, hce⟩ : ∃ ce, litB q M = ce := ⟨_, rfl⟩
  have HE := hide hce
  have HL := hide hml
  rw [hml] at hl ⊢
  rw [hce]
  clear h hs hce hml
  go_enter Try.func5, Try.ntmps5
  go_wp2_with fail
  go_loopw [5] (fun i wr => ∃ k : Nat, k ≤ ml ∧ i = .int .i64 k ∧ Hid (∀ a, a < k → ∀ j, j < (rwAt M a).R.length → litN q (nmAt (rwAt M a).R j) = true) ∧ Below w.heap.size w wr) (fun i _ => ml - (intOf i).toNat)
  case atStart => exact ⟨0, Nat.zero_le _, rfl, by unfold Hid; intro j hj; omega, Below.refl _ _⟩
  case round =>
    obtain ⟨k, hk, rfl, hq, hb⟩ := hrel
    by_cases hlt : k < ml
    · have hltM : k < M.length := by rw [unhide HL]; exact hlt
      have hkI : (k : Int) < (ml : Int) := by omega
      obtain ⟨b, off, hao, hbb, hc⟩ := (unhide HM).ne (by omega)
      have hck := hc k hltM
      have hr := (unhide HS).row k
      have hxs := ((unhide HS).2 _ (rwAt_mem hltM)).2
      have hn0 := (unhide HM).nums hltM
      have HR1' := hide (fun j hj h => (show ce = false by rw [← unhide HE]; exact lit_false (q := q) hltM (j := j) hj h))
      have HQN := hide (fun (h : ∀ j, j < (rwAt M k).R.length → litN q (nmAt (rwAt M k).R j) = true) => (show ∀ a, a < k + 1 → ∀ j, j < (rwAt M a).R.length → litN q (nmAt (rwAt M a).R j) = true from fun a hqk j hj => by
        rcases Nat.lt_succ_iff_lt_or_eq.1 hqk with h' | rfl
        · exact hq.out a h' j hj
        · exact h j hj))
      obtain ⟨R, hR⟩ : ∃ R, (rwAt M k).R = R := ⟨_, rfl⟩
      rw [hR] at hck hr hxs hn0 HR1' HQN
      have HCK := hide (fun w' (h : Below w.heap.size w w') => (show w'.cell? ⟨b, off + k, none⟩ = some (.slice (rwAt M k).ao R.length (rwAt M k).cap) by rw [h.cell (p := ⟨b, off + k, none⟩) hbb]; exact hck))
      generalize (rwAt M k).ao = a1 at *
      generalize (rwAt M k).cap = c1 at *
      have HN := hide hn0
      have HX := hide hxs
      obtain ⟨rl, hrl⟩ : ∃ rl, R.length = rl := ⟨_, rfl⟩
      rw [hrl] at HCK hr HQN
      have HRL := hide hrl
      subst hao
      clear hc hck hxs hn0 hq hltM hrl hR HE
      go_wp2_with fail
      go_loopw [6] (fun i wq => ∃ j : Nat, j ≤ rl ∧ i = .int .i64 j ∧ Hid (∀ j', j' < j → litN q (nmAt R j') = true) ∧ Below w.heap.size w wq) (fun i _ => rl - (intOf i).toNat)
      case atStart => exact ⟨0, Nat.zero_le _, rfl, by unfold Hid; intro j hj; omega, hb⟩
      case round =>
        obtain ⟨j, hj, rfl, hqj, hbq⟩ := hrel
        have hck := unhide HCK _ hbq
        by_cases hjl : j < rl
        · have hjR : j < R.length := by rw [unhide HRL]; exact hjl
          obtain ⟨b1, o1, hao1, hb1, hc1⟩ := ((unhide HN).below hbq).ne (by omega)
          obtain ⟨d1, d2⟩ := hc1 j hjR
          have hlx := ((unhide HN).below hbq).limbs hjR
          have hxl := unhide HX _ (nmAt_mem hjR)
          have HR2 := hide (fun h => unhide HR1' j hjR h)
          have HQ2 := hide (fun (h : litN q (nmAt R j) = true) => (show ∀ j', j' < j + 1 → litN q (nmAt R j') = true from fun j' hj' => by
            rcases Nat.lt_succ_iff_lt_or_eq.1 hj' with h' | rfl
            · exact hqj.out j' h'
            · exact h))
          obtain ⟨x, hx⟩ : ∃ x, nmAt R j = x := ⟨_, rfl⟩
          rw [hx] at d1 d2 hlx hxl HR2 HQ2
          have hjI : (j : Int) < (rl : Int) := by omega
          obtain ⟨nx, ax, cx, Lx⟩ := x
          simp only at d1 d2 hlx hxl
          have CR := hide (right_any nx ax cx Lx _ hlx hxl)
          have HRB : Hid (litN q ⟨nx, ax, cx, Lx⟩ = !(decide (q < Lx.length) && rightB nx Lx)) := rfl
          subst hao1
          clear hc1 hlx hx hqj hjR HR1'
          by_cases h8 : q < Lx.length
          · have h8' : (q : Int) < (Lx.length : Int) := by omega
            go_wp2_with fail
            refine (unhide CR).mono ?_
            rintro e w1 ⟨rfl, hb1⟩
            have hbq1 := hbq.trans (hb1.mono hbq.size)
            by_cases hrb : rightB nx Lx = true
            · rw [hrb]
              have HC1 := hide (unhide HR2 (by rw [HRB.out, hrb, decide_eq_true h8]; rfl))
              have BQ := hide hbq1
              clear HQ2 HR2 hb1 hbq1 hck d1 d2 hbq hrb HRB CR
              go_wp2_with fail
              go_ret
              exact ⟨ret_bool (unhide HC1).symm, unhide BQ⟩
            · have hrf : rightB nx Lx = false := by simpa using hrb
              rw [hrf]
              have HQ3 := hide (unhide HQ2 (by rw [HRB.out, hrf, Bool.and_false]; rfl))
              have BQ := hide hbq1
              clear HQ2 HR2 hb1 hbq1 hck d1 d2 hbq hrb hrf HRB CR
              go_wp2_with fail
              go_roundw
              case rel => exact ⟨j + 1, by omega, by go_num, HQ3, unhide BQ⟩
              case measure => simp [intOf]; omega
          · have h8' : ¬ (q : Int) < (Lx.length : Int) := by omega
            have HQ3 := hide (unhide HQ2 (by rw [HRB.out, decide_eq_false h8]; rfl))
            clear HQ2 HR2 HRB CR
            go_wp2_with fail
            go_roundw
            case rel => exact ⟨j + 1, by omega, by go_num, HQ3, hbq⟩
            case measure => simp [intOf]; omega
        · have hjj : rl = j := by omega
          have HQ3 := hide (unhide HQN (fun j' hj' => hqj.out j' (by have := unhide HRL; omega)))
          have BQ := hide hbq
          subst hjj
          clear hqj hbq HQN HR1'
          go_wp2_with fail
          go_roundw
          case rel => exact ⟨k + 1, by omega, by go_num, HQ3, unhide BQ⟩
          case measure => simp [intOf]; omega
    · have hkk : ml = k := by omega
      have HC := hide (show ce = true by rw [← unhide HE]; exact lit_true (fun a ha j hj => hq.out a (by have := unhide HL; omega) j hj))
      subst hkk
      clear hq HE
      go_wp2_with fail
      go_ret
      exact ⟨ret_bool (unhide HC).symm, hb⟩

end Go.Proofs.Ytnpogpoknbgodaa

/- Contract of the reference's Det. -/
namespace Go.Proofs.Ytnpogpoknbgodaa
open Go.RowKit
attribute [local go_sem ↓] Go.wp_at_zero Go.wp_at_succ

/-- What stands behind the product. -/
def TailD (w : World) (n : Bool) (a : Option Addr) (L : List Nat) (c : Nat) (np : Bool) (ap : Option Addr) (Lp : List Nat) (cp : Nat) (x y : Int) (g : Nat) (W : World) : Prop :=
  Box2 W g (.bool np) (.slice ap Lp.length cp) ∧ IsNum 0 W (.agg #[.bool np, .slice ap Lp.length cp]) y ∧ Below w.heap.size w W ∧ Box2 W (w.heap.size + 1) (.bool n) (.slice a L.length c) ∧ Box2 W w.heap.size (.bool false) (.slice none 0 0) ∧ w.heap.size + 1 < g ∧ IsNum 0 W (.agg #[.bool n, .slice a L.length c]) x

theorem Box2.oth {w : World} {b g : Nat} {x y x' y' : Value} (_ : Box2 w g x' y') (h : Box2 w b x y) (hlt : b < g) (u u' : Value) : Box2 ((w.setCell ⟨g, 0, none⟩ u).setCell ⟨g, 1, none⟩ u') b x y := h.other (Nat.ne_of_lt hlt) u u'
theorem below_put {w w' : World} {B g : Nat} {x y : Value} (_ : Box2 w' g x y) (h : Below B w w') (hg : B ≤ g) (u u' : Value) : Below B w ((w'.setCell ⟨g, 0, none⟩ u).setCell ⟨g, 1, none⟩ u') := (h.setCell (p := ⟨g, 0, none⟩) hg u).setCell (p := ⟨g, 1, none⟩) hg u'

end Go.Proofs.Ytnpogpoknbgodaa

