/- Part 36 of the texts. -/
import Derived.Test.YtfkndkaneffgdaaGreatDoorPartA34
import Derived.Test.YtfkndkaneffgdaaGreatDoorPartA35
import Derived.Test.YtfkndkaneffgdaaGreatDoorPartA30
import Derived.Test.YtfkndkaneffgdaaGreatDoorPartA29
import Derived.Test.YtfkndkaneffgdaaGreatDoorPartA33
/- The reference of layer 13: noughts, lead. -/
namespace Go.Proofs.YtfkndkaneffgdaaGreatDoor
open Go.RowKit
attribute [local go_sem ↓] Go.wp_at_zero Go.wp_at_succ

theorem toN_getD (I : List Int) (j : Nat) (hj : j < I.length) : (toN I).getD j 0 = atB I j := by
  rw [List.getD_eq_getElem?_getD, toN_at I j hj]
  rfl
theorem ngt_drop (L : List Nat) {j : Nat} (h : j < L.length) : ngt (L.drop j) = (decide (fK (L.getD j 0) = 0) && ngt (L.drop (j + 1))) := by
  rw [List.drop_eq_getElem_cons h, List.getD_eq_getElem?_getD, List.getElem?_eq_getElem h]
  rfl
theorem ldS_drop (L : List Nat) {j : Nat} (h : j < L.length) : ldS (L.drop j) = if fK (L.getD j 0) = 0 then ldS (L.drop (j + 1)) else fS (L.getD j 0) := by
  rw [List.drop_eq_getElem_cons h, List.getD_eq_getElem?_getD, List.getElem?_eq_getElem h]
  rfl

set_option maxRecDepth 20000 in
set_option maxHeartbeats 4000000 in
theorem rnoughts13_any (ao : Option Addr) (c : Nat) (I : List Int) (w : World) (hI : BitsAt w ao c I) (hn : I.length ≤ 64) :
    Calls Tryz.prog 49 #[.slice ao I.length c] w fun e w' => e = .returned (.bool (ngt ((toN I).drop 1))) ∧ Below w.heap.size w w' := by
  have HI := hide hI
  obtain ⟨G, hG⟩ : ∃ G : Nat → Bool, G = fun j => ngt ((toN I).drop j) := ⟨_, rfl⟩
  have G1 : ngt ((toN I).drop 1) = G 1 := by rw [hG]
  have GE : ∀ j, I.length ≤ j → G j = true := fun j hj => by
    rw [hG]
    show ngt ((toN I).drop j) = true
    rw [List.drop_eq_nil_of_le (by rw [toN_len]; exact hj)]
    rfl
  have GS : ∀ j, j < I.length → G j = (decide (fK (atB I j) = 0) && G (j + 1)) := fun j hj => by
    rw [hG]
    show ngt ((toN I).drop j) = _
    rw [ngt_drop (toN I) (by rw [toN_len]; exact hj), toN_getD I j hj]
  rw [G1]
  obtain ⟨v, hv⟩ : ∃ v, G 1 = v := ⟨_, rfl⟩
  have HE := hide GE; have HS := hide GS
  obtain ⟨n, hnn⟩ : ∃ n, I.length = n := ⟨_, rfl⟩
  rw [hnn] at hn HE HS ⊢
  rw [hv]
  have HN := hide hnn
  have HV := hide hv
  clear hI hG G1 GE GS hnn hv
  go_enter Tryz.func49, Tryz.ntmps49
  go_wp2_with fail
  go_loopw [3] (fun i wr => ∃ j : Nat, 1 ≤ j ∧ j ≤ n + 1 ∧ i = .int .i64 j ∧ Hid (G j = v) ∧ Hid (Below w.heap.size w wr)) (fun i _ => n + 1 - (intOf i).toNat)
  case atStart => exact ⟨1, Nat.le_refl _, by omega, rfl, HV, Below.refl _ _⟩
  case round =>
    obtain ⟨j, hj1, hj, rfl, hG, hB⟩ := hrel
    by_cases hlt : j < n
    · have hjI : (j : Int) < (n : Int) := by omega
      obtain ⟨b, off, hao, hb, hc⟩ := ((unhide HI).below hB.out).ne (by rw [unhide HN]; omega)
      have hck := hide (hc j (by rw [unhide HN]; exact hlt))
      have C1 := hide (fun w' => rkind_any (atB I j) w' ((unhide HI).lt j))
      have HJ := hide (unhide HS j hlt)
      subst hao
      clear hc
      generalize fK (atB I j) = kd at *
      generalize atB I j = x at *
      have hc0 := unhide hck
      by_cases g0 : kd = 0
      · subst g0
        have R := hide (show G (j + 1) = v from by have := unhide HJ; rw [unhide hG] at this; rw [this]; rfl)
        clear HJ
        go_wp2_with fail
        refine (unhide C1 _).mono ?_
        rintro e w2 ⟨rfl, rfl⟩
        clear C1
        go_wp2_with fail
        go_round
        case rel => exact ⟨j + 1, by omega, by omega, by go_num, R, hB⟩
        case measure => simp [intOf]; omega
      · have hv2 : v = false := by have := unhide HJ; rw [unhide hG, decide_eq_false g0] at this; rw [this]; rfl
        subst hv2
        clear HJ
        have g0' : (kd == 0) = false := by rw [beq_eq_false_iff_ne]; exact g0
        go_wp2_with fail
        refine (unhide C1 _).mono ?_
        rintro e w2 ⟨rfl, rfl⟩
        clear C1
        go_wp2_with fail
        exact bodyPost_ret (v := .bool false) (by simp [results, Tryz.results49, go_sem]) rfl ⟨rfl, hB.out⟩
    · have hv2 : v = true := by have := unhide HE j (by omega); rw [unhide hG] at this; exact this
      subst hv2
      have hjI : (n : Int) ≤ (j : Int) := by omega
      go_wp2_with fail
      exact bodyPost_ret (v := .bool true) (by simp [results, Tryz.results49, go_sem]) rfl ⟨rfl, hB.out⟩

set_option maxRecDepth 20000 in
set_option maxHeartbeats 4000000 in
/-- The place of the first number that is no nought: its sign. -/
theorem rlead13_any (ao : Option Addr) (c : Nat) (I : List Int) (w : World) (hI : BitsAt w ao c I) (hn : I.length ≤ 64) (h0 : ngt (toN I) = false) :
    Calls Tryz.prog 52 #[.slice ao I.length c] w fun e w' => ∃ p : Nat, e = .returned (.int .i64 (p : Nat)) ∧ p < I.length ∧ fS (atB I p) = ldS (toN I) ∧ Below w.heap.size w w' := by
  have HI := hide hI
  obtain ⟨G, hG⟩ : ∃ G : Nat → Bool, G = fun j => ngt ((toN I).drop j) := ⟨_, rfl⟩
  obtain ⟨L, hL⟩ : ∃ L : Nat → Bool, L = fun j => ldS ((toN I).drop j) := ⟨_, rfl⟩
  have G0 : G 0 = false := by rw [hG]; exact h0
  have L0 : ldS (toN I) = L 0 := by rw [hL]; rfl
  have GE : ∀ j, I.length ≤ j → G j = true := fun j hj => by
    rw [hG]
    show ngt ((toN I).drop j) = true
    rw [List.drop_eq_nil_of_le (by rw [toN_len]; exact hj)]
    rfl
  have GS : ∀ j, j < I.length → G j = (decide (fK (atB I j) = 0) && G (j + 1)) ∧ L j = if fK (atB I j) = 0 then L (j + 1) else fS (atB I j) := fun j hj => by
    rw [hG, hL]
    show ngt ((toN I).drop j) = _ ∧ ldS ((toN I).drop j) = _
    rw [ngt_drop (toN I) (by rw [toN_len]; exact hj), ldS_drop (toN I) (by rw [toN_len]; exact hj), toN_getD I j hj]
    exact ⟨rfl, rfl⟩
  rw [L0]
  obtain ⟨v, hv⟩ : ∃ v, L 0 = v := ⟨_, rfl⟩
  have HE := hide GE; have HS := hide GS; have HG0 := hide G0
  obtain ⟨n, hnn⟩ : ∃ n, I.length = n := ⟨_, rfl⟩
  rw [hnn] at hn HE HS ⊢
  rw [hv]
  have HN := hide hnn
  have HV := hide hv
  clear hI hG hL G0 L0 GE GS hnn hv h0
  go_enter Tryz.func52, Tryz.ntmps52
  go_wp2_with fail
  go_loopw [3] (fun i wr => ∃ j : Nat, j ≤ n ∧ i = .int .i64 j ∧ Hid (G j = false) ∧ Hid (L j = v) ∧ Hid (Below w.heap.size w wr)) (fun i _ => n - (intOf i).toNat)
  case atStart => exact ⟨0, Nat.zero_le _, rfl, HG0, HV, Below.refl _ _⟩
  case round =>
    obtain ⟨j, hj, rfl, hG, hL, hB⟩ := hrel
    by_cases hlt : j < n
    · have hjI : (j : Int) < (n : Int) := by omega
      obtain ⟨b, off, hao, hb, hc⟩ := ((unhide HI).below hB.out).ne (by rw [unhide HN]; omega)
      have hck := hide (hc j (by rw [unhide HN]; exact hlt))
      have C1 := hide (fun w' => rkind_any (atB I j) w' ((unhide HI).lt j))
      have HJ := hide (unhide HS j hlt)
      have HX := hide (show atB I j = atB I j from rfl)
      subst hao
      clear hc
      by_cases g0 : fK (atB I j) = 0
      · have R := hide (show G (j + 1) = false from by have := (unhide HJ).1; rw [unhide hG, decide_eq_true g0, Bool.true_and] at this; exact this.symm)
        have R2 := hide (show L (j + 1) = v from by have := (unhide HJ).2; rw [unhide hL, if_pos g0] at this; exact this.symm)
        rw [g0] at C1
        clear HJ HX g0
        generalize atB I j = x at *
        have hc0 := unhide hck
        go_wp2_with fail
        refine (unhide C1 _).mono ?_
        rintro e w2 ⟨rfl, rfl⟩
        clear C1
        go_wp2_with fail
        go_round
        case rel => exact ⟨j + 1, by omega, by go_num, R, R2, hB⟩
        case measure => simp [intOf]; omega
      · have R2 := hide (show fS (atB I j) = v from by have := (unhide HJ).2; rw [unhide hL, if_neg g0] at this; exact this.symm)
        have g0' : (fK (atB I j) == 0) = false := by rw [beq_eq_false_iff_ne]; exact g0
        clear HJ HX
        generalize fK (atB I j) = kd at *
        generalize hxx : atB I j = x at *
        have hc0 := unhide hck
        go_wp2_with fail
        refine (unhide C1 _).mono ?_
        rintro e w2 ⟨rfl, rfl⟩
        clear C1
        go_wp2_with fail
        exact bodyPost_ret (v := .int .i64 (j : Nat)) (by simp [results, Tryz.results52, go_sem]) rfl ⟨j, rfl, hlt, by rw [hxx]; exact unhide R2, hB.out⟩
    · have := unhide HE j (by omega)
      rw [unhide hG] at this
      cases this

end Go.Proofs.YtfkndkaneffgdaaGreatDoor

/- A matrix mirrored place by place. Ahead of stage 13. -/
namespace Go.Proofs.YtfkndkaneffgdaaGreatDoor

/-- The columns before d mirrored, of column d the first j numbers. -/
def apJ (r c : Nat) (S : List Nat) (i k : Nat) (vs : List Nat) (tau d j : Nat) : List Nat := mkM r c (fun p q => if (k ≤ q ∧ i ≤ p ∧ p < i + vs.length) ∧ (q < d ∨ (q = d ∧ p < i + j)) then (apL c S i q vs tau).getD (p - i) 0 else elM c S p q)
theorem apJ_len (r c : Nat) (S : List Nat) (i k : Nat) (vs : List Nat) (tau d j : Nat) : (apJ r c S i k vs tau d j).length = r * c := mkM_len _ _ _
theorem apJ_0 (r c : Nat) (S : List Nat) (i k : Nat) (vs : List Nat) (tau : Nat) (h : S.length = r * c) : apJ r c S i k vs tau k 0 = S := by
  unfold apJ
  rw [← mkM_of r c S h]
  refine mkM_congr (fun p q _ _ => ?_)
  rw [mkM_of r c S h, if_neg (fun g => by omega)]
  rfl
theorem apJ_next (r c : Nat) (S : List Nat) (i k : Nat) (vs : List Nat) (tau d : Nat) : apJ r c S i k vs tau d vs.length = apJ r c S i k vs tau (d + 1) 0 := by
  unfold apJ
  refine mkM_congr (fun p q _ _ => ?_)
  by_cases g : (k ≤ q ∧ i ≤ p ∧ p < i + vs.length) ∧ (q < d ∨ (q = d ∧ p < i + vs.length))
  · rw [if_pos g, if_pos ⟨g.1, by omega⟩]
  · rw [if_neg g, if_neg (fun g2 => g ⟨g2.1, by omega⟩)]
theorem apJ_all (r c : Nat) (S : List Nat) (i k : Nat) (vs : List Nat) (tau d : Nat) (hd : c ≤ d) : apJ r c S i k vs tau d 0 = apM r c S i k vs tau := by
  unfold apJ apM
  refine mkM_congr (fun p q _ hq => ?_)
  by_cases g : k ≤ q ∧ i ≤ p ∧ p < i + vs.length
  · rw [if_pos g, if_pos ⟨g, by omega⟩]
  · rw [if_neg g, if_neg (fun g2 => g g2.1)]
theorem apJ_set (r c : Nat) (S : List Nat) {i k : Nat} {vs : List Nat} {tau d j : Nat} (hi : i + vs.length ≤ r) (hd : d < c) (hk : k ≤ d) (hj : j < vs.length) :
    (apJ r c S i k vs tau d j).set ((i + j) * c + d) ((apL c S i d vs tau).getD j 0) = apJ r c S i k vs tau d (j + 1) := by
  unfold apJ
  rw [mkM_set r c _ _ (show i + j < r by omega) hd]
  refine mkM_congr (fun p q _ _ => ?_)
  by_cases e : p = i + j ∧ q = d
  · obtain ⟨rfl, rfl⟩ := e
    rw [if_pos ⟨rfl, rfl⟩, if_pos ⟨⟨hk, by omega, by omega⟩, .inr ⟨rfl, by omega⟩⟩, show i + j - i = j by omega]
  · rw [if_neg e]
    by_cases g : (k ≤ q ∧ i ≤ p ∧ p < i + vs.length) ∧ (q < d ∨ (q = d ∧ p < i + j))
    · rw [if_pos g, if_pos ⟨g.1, by omega⟩]
    · rw [if_neg g, if_neg (fun g2 => g ⟨g2.1, by omega⟩)]
theorem apL_at (c : Nat) (S : List Nat) (i q : Nat) (vs : List Nat) (tau : Nat) {j : Nat} (hj : j < vs.length) :
    (apL c S i q vs tau).getD j 0 = aV (elM c S (i + j) q) (fN (mV (mV tau (dtV 0 vs (colL c S i vs.length q))) (vs.getD j 0))) := by
  unfold apL
  rw [apV_at _ vs _ j (colL_len _ _ _ _ _).symm hj, colL_at c S i vs.length q hj]
theorem apL_lt (c : Nat) (S : List Nat) (i q : Nat) (vs : List Nat) (tau : Nat) {j : Nat} (hj : j < vs.length) (hS : ∀ p q, elM c S p q < 18446744073709551616) : (apL c S i q vs tau).getD j 0 < 18446744073709551616 := by
  rw [apL_at c S i q vs tau hj]
  exact aV_lt _ _ (hS _ _) (fN_lt _ (mV_lt _ _))

/-- A sum of products by places and by lists. -/
theorem dtV_snoc (x y : Nat) : ∀ (xs ys : List Nat) (s : Nat), xs.length = ys.length → dtV s (xs ++ [x]) (ys ++ [y]) = aV (dtV s xs ys) (mV x y) := by
  intro xs
  induction xs with
  | nil =>
    intro ys s h
    match ys with
    | [] => rfl
    | y' :: ys => cases h
  | cons x' xs ih =>
    intro ys s h
    match ys with
    | [] => cases h
    | y' :: ys => exact ih ys _ (by simpa using h)
theorem dtK_dtV (I J : List Int) : ∀ j, j ≤ I.length → j ≤ J.length → dtK I J j = dtV 0 ((toN I).take j) ((toN J).take j) := by
  intro j
  induction j with
  | zero => intro _ _; rfl
  | succ j ih =>
    intro h1 h2
    rw [toN_take I j h1, toN_take J j h2, dtV_snoc _ _ _ _ _ (by simp [toN_len]; omega), ← ih (by omega) (by omega)]
    rfl

end Go.Proofs.YtfkndkaneffgdaaGreatDoor

/- The factors of a matrix in letters. Ahead of stage 14. -/
namespace Go.Proofs.YtfkndkaneffgdaaGreatDoor

/-- A number on the diagonal, and noughts below it down to row i. -/
def clJ (r c : Nat) (S : List Nat) (j b i : Nat) : List Nat := mkM r c (fun p q => if q = j ∧ j ≤ p ∧ p < i then (if p = j then b else 0) else elM c S p q)
theorem clJ_len (r c : Nat) (S : List Nat) (j b i : Nat) : (clJ r c S j b i).length = r * c := mkM_len _ _ _
theorem clJ_first (r c : Nat) (S : List Nat) {j : Nat} (b : Nat) (h : S.length = r * c) (hj : j < r) (hc : j < c) : S.set (j * c + j) b = clJ r c S j b (j + 1) := by
  have e : S = mkM r c (fun p q => elM c S p q) := by
    conv => lhs; rw [← mkM_of r c S h]
    rfl
  conv => lhs; rw [e]
  rw [mkM_set r c _ _ hj hc]
  unfold clJ
  refine mkM_congr (fun p q _ _ => ?_)
  by_cases g : p = j ∧ q = j
  · rw [if_pos g, if_pos ⟨g.2, by omega, by omega⟩, if_pos g.1]
  · rw [if_neg g, if_neg (fun g2 => g (by omega))]
theorem clJ_set (r c : Nat) (S : List Nat) {j i : Nat} (b : Nat) (hj : j < i) (hi : i < r) (hc : j < c) : (clJ r c S j b i).set (i * c + j) 0 = clJ r c S j b (i + 1) := by
  unfold clJ
  rw [mkM_set r c _ _ hi hc]
  refine mkM_congr (fun p q _ _ => ?_)
  by_cases g : p = i ∧ q = j
  · rw [if_pos g, if_pos ⟨g.2, by omega, by omega⟩, if_neg (by omega)]
  · rw [if_neg g]
    by_cases g2 : q = j ∧ j ≤ p ∧ p < i
    · rw [if_pos g2, if_pos (show q = j ∧ j ≤ p ∧ p < i + 1 by omega)]
    · rw [if_neg g2, if_neg (show ¬ (q = j ∧ j ≤ p ∧ p < i + 1) by omega)]
def clM (r c : Nat) (S : List Nat) (j b : Nat) : List Nat := clJ r c S j b r
theorem clM_len (r c : Nat) (S : List Nat) (j b : Nat) : (clM r c S j b).length = r * c := clJ_len _ _ _ _ _ _

/-- Column j from row j on; is there a mirror of it? -/
def qxL (r c : Nat) (S : List Nat) (j : Nat) : List Nat := colL c S j (r - j) j
theorem qxL_len (r c : Nat) (S : List Nat) (j : Nat) : (qxL r c S j).length = r - j := colL_len _ _ _ _ _
def qrS (r c : Nat) (S : List Nat) (j : Nat) : List Nat := clM r c (apM r c S j j (mrV (qxL r c S j)) (mrT (qxL r c S j))) j (mrB (qxL r c S j))
theorem qrS_len (r c : Nat) (S : List Nat) (j : Nat) : (qrS r c S j).length = r * c := clM_len _ _ _ _ _
def finL (xs : List Nat) : Bool := fnK (mxL xs) xs.length
def qrO (r c : Nat) (S : List Nat) (j : Nat) : Bool := finL (qxL r c S j) && mrK (qxL r c S j)
/-- The matrix behind j steps; the column that step j mirrors; can the first j steps be done? -/
def qrR (r c : Nat) (S : List Nat) : Nat → List Nat
  | 0 => S
  | j + 1 => qrS r c (qrR r c S j) j
def qrX (r c : Nat) (S : List Nat) (j : Nat) : List Nat := qxL r c (qrR r c S j) j
def qrK (r c : Nat) (S : List Nat) : Nat → Bool
  | 0 => true
  | j + 1 => qrK r c S j && qrO r c (qrR r c S j) j
theorem qrR_len (r c : Nat) (S : List Nat) (h : S.length = r * c) : ∀ j, (qrR r c S j).length = r * c
  | 0 => h
  | _ + 1 => qrS_len _ _ _ _
theorem qrX_len (r c : Nat) (S : List Nat) (j : Nat) : (qrX r c S j).length = r - j := qxL_len _ _ _ _
/-- How many mirrors there are. -/
def qrN (r c : Nat) : Nat := min c (r - 1)
theorem qrN_lt (r c j : Nat) : j < qrN r c ↔ (j : Int) < (c : Int) ∧ (j : Int) < (r : Int) - 1 := by
  unfold qrN
  omega
/-- The first factor behind the mirrors from the last down to j (of K). -/
def qrQ (r c : Nat) (S : List Nat) (K : Nat) : Nat → List Nat
  | 0 => eyM r
  | t + 1 => apM r r (qrQ r c S K t) (K - 1 - t) 0 (mrV (qrX r c S (K - 1 - t))) (mrT (qrX r c S (K - 1 - t)))
theorem qrQ_len (r c : Nat) (S : List Nat) (K : Nat) : ∀ t, (qrQ r c S K t).length = r * r
  | 0 => show (eyM r).length = r * r from mkM_len r r _
  | _ + 1 => apM_len _ _ _ _ _ _ _
def facQ (r c : Nat) (S : List Nat) : List Nat := qrQ r c S (qrN r c) (qrN r c)
def facR (r c : Nat) (S : List Nat) : List Nat := qrR r c S (qrN r c)
def facK (r c : Nat) (S : List Nat) : Bool := qrK r c S (qrN r c) && (finL (facQ r c S) && finL (facR r c S))
end Go.Proofs.YtfkndkaneffgdaaGreatDoor

/- Package qr: settle. -/
namespace Go.Proofs.YtfkndkaneffgdaaGreatDoor
open Go.RowKit
attribute [local go_sem ↓] Go.wp_at_zero Go.wp_at_succ

theorem grown_trans14 {a w w' : World} {o : Option Nat} (h : a.grownBy w o) (k : w.grownBy w' o) : a.grownBy w' o :=
  ⟨k.os.trans h.os, k.tape.trans h.tape, k.output.trans h.output, Nat.le_trans h.size k.size, fun i hi hr => (k.block i (Nat.lt_of_lt_of_le hi h.size) hr).trans (h.block i hi hr)⟩
theorem grown_below14 {w w' : World} (h : Below w.heap.size w w') (o : Option Nat) : w.grownBy w' o := ⟨h.os, h.tape, h.output, h.size, fun k hk _ => h.block k hk⟩
theorem grown_set14 (w : World) (g j : Nat) (v : Value) : w.grownBy (w.setCell ⟨g, j, none⟩ v) (some g) := by
  have h := (Below.refl w.heap.size w)
  refine ⟨rfl, rfl, rfl, ?_, fun k _ hr => Below.heap_setCell w ⟨g, j, none⟩ v k (fun e => hr (by rw [e]))⟩
  simp [World.setCell]

/-- What holds in settle. -/
structure SeSt (w wr : World) (g r c n : Nat) (S : List Nat) : Prop where
  bel : w.grownBy wr (some g)
  a : BoxM wr w.heap.size (.int .i64 r) (.int .i64 c) (.slice (some ⟨g, 0, none⟩) n n)
  row : RowB wr g S
theorem SeSt.start {w : World} {g n : Nat} {S : List Nat} (h : RowB w g S) (r c : Nat) : SeSt w (w.alloc (.cells #[.int .i64 r, .int .i64 c, .slice (some ⟨g, 0, none⟩) n n] 24)) g r c n S := by
  have b := below_alloc9 w (.cells #[.int .i64 r, .int .i64 c, .slice (some ⟨g, 0, none⟩) n n] 24)
  exact ⟨grown_below14 b _, BoxM.new w _ _ _, h.below b h.lt⟩
theorem SeSt.set {w wr : World} {g r c n : Nat} {S : List Nat} (h : SeSt w wr g r c n S) (hg : g < w.heap.size) (p x : Nat) : SeSt w (wr.setCell ⟨g, p, none⟩ (.int .u64 (x : Int))) g r c n (S.set p x) :=
  ⟨grown_trans14 h.bel (grown_set14 wr g p _), h.a.other (p := ⟨g, p, none⟩) (by show w.heap.size ≠ g; omega) _, h.row.set p x⟩

set_option maxRecDepth 20000 in
set_option maxHeartbeats 4000000 in
theorem settle_of (r c n j beta g p0 : Nat) (S : List Nat) (T : Nat → List Nat) (P : Nat → Nat) (w : World) (h36 : n ≤ 36) (hr : r ≤ 6) (hj : j < r) (h : RowB w g S) (lS : S.length = n) (lT : ∀ i, (T i).length = n)
    (h0 : j * c + j = p0 ∧ p0 < n ∧ S.set p0 beta = T (j + 1)) (hP : ∀ i, j < i → i < r → i * c + j = P i ∧ P i < n ∧ (T i).set (P i) 0 = T (i + 1)) :
    Calls Tryz.prog 44 #[.agg #[.int .i64 r, .int .i64 c, .slice (some ⟨g, 0, none⟩) n n], .int .i64 j, .int .u64 beta] w fun e w' => e = .returned (.tuple #[]) ∧ RowB w' g (T r) ∧ w.grownBy w' (some g) := by
  have HG := hide h.lt
  have ST := hide (SeSt.start (n := n) h r c)
  obtain ⟨q0, hq0⟩ : ∃ q, j * c = q := ⟨_, rfl⟩
  obtain ⟨e0, l0, s0⟩ := h0
  rw [hq0] at e0
  have HP := hide hP; have LT := hide lT
  have e1 : IntKind.i64.wrap ((j : Int) * (c : Int)) = (q0 : Int) := by
    rw [cast_mul10 j c, hq0]
    exact wrap_in _ (by omega)
  have e2 : IntKind.i64.wrap ((q0 : Int) + (j : Int)) = (p0 : Int) := (wrap_in _ (by omega)).trans (by omega)
  have e3 : (j : Int) * (c : Int) = (q0 : Int) := by rw [cast_mul10 j c, hq0]
  have e4 : (q0 : Int) + (j : Int) = (p0 : Int) := by omega
  have w1 : IntKind.i64.wrap (q0 : Int) = (q0 : Int) := wrap_in _ (by omega)
  have w2 : IntKind.i64.wrap (p0 : Int) = (p0 : Int) := wrap_in _ (by omega)
  obtain ⟨j1, hj1⟩ : ∃ j1, j + 1 = j1 := ⟨_, rfl⟩
  have e5 : IntKind.i64.wrap ((j : Int) + 1) = (j1 : Int) := (wrap_in _ (by omega)).trans (by omega)
  have e6 : (j : Int) + 1 = (j1 : Int) := by omega
  have hpI : (p0 : Int) < (n : Int) := by omega
  have y0 := (unhide ST).a.c0; have y1 := (unhide ST).a.c1; have y2 := (unhide ST).a.c2
  have d1 := (unhide ST).row.cell p0 (by rw [lS]; exact l0)
  have f1 := (unhide ST).row.free p0
  have S1 := hide ((unhide ST).set (unhide HG) p0 beta)
  rw [s0, hj1] at S1
  have HJ1 := hide hj1
  clear hP lT h lS s0 hq0 l0 ST hj1
  go_enter Tryz.func44, Tryz.ntmps44
  go_wp2_with fail
  clear y0 y1 y2 d1 f1 e1 e2 e3 e4 e5 e6 w1 w2 hpI
  go_loopw [6] (fun a wr => ∃ i : Nat, j < i ∧ i ≤ r ∧ a = .int .i64 i ∧ Hid (SeSt w wr g r c n (T i))) (fun a _ => r - (intOf a).toNat)
  case atStart => exact ⟨j1, by have := unhide HJ1; omega, by have := unhide HJ1; omega, by first | rfl | go_num, S1⟩
  case round =>
    clear S1
    obtain ⟨i, hji, hir, rfl, hS⟩ := hrel
    have y0 := (unhide hS).a.c0
    by_cases hlt : i < r
    · have hiI : (i : Int) < (r : Int) := by omega
      obtain ⟨e0, l0, s0⟩ := unhide HP i hji hlt
      have y1 := (unhide hS).a.c1; have y2 := (unhide hS).a.c2
      obtain ⟨q, hq⟩ : ∃ q, i * c = q := ⟨_, rfl⟩
      rw [hq] at e0
      have e1 : IntKind.i64.wrap ((i : Int) * (c : Int)) = (q : Int) := by
        rw [cast_mul10 i c, hq]
        exact wrap_in _ (by omega)
      have e2 : IntKind.i64.wrap ((q : Int) + (j : Int)) = (P i : Int) := (wrap_in _ (by omega)).trans (by omega)
      have e3 : (i : Int) * (c : Int) = (q : Int) := by rw [cast_mul10 i c, hq]
      have e4 : (q : Int) + (j : Int) = (P i : Int) := by omega
      have w1 : IntKind.i64.wrap (q : Int) = (q : Int) := wrap_in _ (by omega)
      have w2 : IntKind.i64.wrap (P i : Int) = (P i : Int) := wrap_in _ (by omega)
      have hpI : (P i : Int) < (n : Int) := by omega
      have d1 := (unhide hS).row.cell (P i) (by rw [unhide LT]; exact l0)
      have f1 := (unhide hS).row.free (P i)
      have S2 := hide ((unhide hS).set (unhide HG) (P i) 0)
      rw [s0] at S2
      generalize P i = p at *
      clear hS s0 hq l0
      go_wp2_with fail
      go_round
      case rel => exact ⟨i + 1, by omega, by omega, by go_num, S2⟩
      case measure => simp [intOf]; omega
    · have hii : i = r := by omega
      subst hii
      go_wp2
      first | go_end0 | refine bodyPost_ret (results_none rfl _ _ _) rfl ?_
      exact ⟨rfl, (unhide hS).row, (unhide hS).bel⟩

theorem settle_any (r c j beta g : Nat) (S : List Nat) (w : World) (hr : r ≤ 6) (hc : c ≤ 6) (hj : j < r) (hjc : j < c) (lS : S.length = r * c) (h : RowB w g S) :
    Calls Tryz.prog 44 #[.agg #[.int .i64 r, .int .i64 c, .slice (some ⟨g, 0, none⟩) S.length S.length], .int .i64 j, .int .u64 beta] w fun e w' => e = .returned (.tuple #[]) ∧ RowB w' g (clM r c S j beta) ∧ w.grownBy w' (some g) := by
  have h36 : S.length ≤ 36 := by
    rw [lS]
    exact Nat.mul_le_mul hr hc
  refine settle_of r c S.length j beta g (j * c + j) S (clJ r c S j beta) (fun i => i * c + j) w h36 hr hj h rfl (fun i => by rw [clJ_len, lS]) ⟨rfl, by rw [lS]; exact place_lt hj hjc, clJ_first r c S beta lS hj hjc⟩ (fun i hji hir => ⟨rfl, by rw [lS]; exact place_lt hir hjc, clJ_set r c S beta hji hir hjc⟩)

end Go.Proofs.YtfkndkaneffgdaaGreatDoor

/- The reference of layer 14: cleared. Ahead of stage 14. -/
namespace Go.Proofs.YtfkndkaneffgdaaGreatDoor
open Go.RowKit
attribute [local go_sem ↓] Go.wp_at_zero Go.wp_at_succ

/-- What holds in cleared: the matrix's own box, the result's. -/
def ClSt (w wr : World) (r c n : Nat) (T : List Nat) (po : Option Addr) (pc : Nat) : Prop :=
  BoxM wr w.heap.size (.int .i64 r) (.int .i64 c) (.slice po n pc) ∧ BoxM wr (w.heap.size + 1) (.int .i64 0) (.int .i64 0) (.slice none 0 0) ∧ BitsAt wr po pc (mxL T) ∧ T.length = n ∧ Below w.heap.size w wr
theorem ClSt.all {w wr w' : World} {r c n : Nat} {T : List Nat} {po : Option Addr} {pc : Nat} (h : ClSt w wr r c n T po pc) (hb : Below wr.heap.size wr w') : ClSt w w' r c n T po pc :=
  ⟨h.1.all hb, h.2.1.all hb, h.2.2.1.below hb, h.2.2.2.1, h.2.2.2.2.trans (hb.mono h.2.2.2.2.size)⟩
theorem ClSt.put {w wr : World} {r c n : Nat} {T : List Nat} {po : Option Addr} {pc : Nat} (h : ClSt w wr r c n T po pc) {U : List Nat} {qo : Option Addr} {qc : Nat} (hU : BitsAt wr qo qc (mxL U)) (hl : U.length = n) :
    ClSt w (((wr.setCell ⟨w.heap.size, 0, none⟩ (.int .i64 r)).setCell ⟨w.heap.size, 1, none⟩ (.int .i64 c)).setCell ⟨w.heap.size, 2, none⟩ (.slice qo n qc)) r c n U qo qc := by
  obtain ⟨h1, h2, h3, h4, h5⟩ := h
  have n1 : w.heap.size + 1 ≠ w.heap.size := by omega
  exact ⟨h1.put _ _ _, ((h2.other (p := ⟨w.heap.size, 0, none⟩) n1 _).other (p := ⟨w.heap.size, 1, none⟩) n1 _).other (p := ⟨w.heap.size, 2, none⟩) n1 _, hU.putM h1 _ _ _, hl, below_putM h5 (Nat.le_refl _) _ _ _⟩
theorem ClSt.start (w : World) (r c n cap : Nat) (ao : Option Addr) (T : List Nat) (hT : BitsAt w ao cap (mxL T)) (hl : T.length = n) : ClSt w ((w.alloc (.cells #[.int .i64 r, .int .i64 c, .slice ao n cap] 24)).alloc (.cells #[.int .i64 0, .int .i64 0, .slice none 0 0] 24)) r c n T ao cap := by
  have b0 := below_alloc9 w (.cells #[.int .i64 r, .int .i64 c, .slice ao n cap] 24)
  have s0 := size_alloc9 w (.cells #[.int .i64 r, .int .i64 c, .slice ao n cap] 24)
  have x0 := BoxM.new w (.int .i64 r) (.int .i64 c) (.slice ao n cap)
  have t0 := hT.below b0
  generalize w.alloc (.cells #[.int .i64 r, .int .i64 c, .slice ao n cap] 24) = w0 at *
  have b1 := below_alloc9 w0 (.cells #[.int .i64 0, .int .i64 0, .slice none 0 0] 24)
  have x1 := BoxM.new w0 (.int .i64 0) (.int .i64 0) (.slice none 0 0)
  rw [s0] at x1
  exact ⟨x0.all b1, x1, t0.below b1, hl, b0.trans (b1.mono b0.size)⟩

set_option maxRecDepth 20000 in
set_option maxHeartbeats 8000000 in
theorem rclear_of (r c n cap j b : Nat) (ao : Option Addr) (TJ : Nat → List Nat) (T0 : List Nat) (w : World) (hr : r ≤ 6) (hj : j < r) (h0 : BitsAt w ao cap (mxL T0)) (l0 : T0.length = n) (lJ : ∀ i, (TJ i).length = n)
    (A1 : ∀ w' qo qc, BitsAt w' qo qc (mxL T0) → Calls Tryz.prog 37 #[.agg #[.int .i64 r, .int .i64 c, .slice qo n qc], .int .i64 j, .int .i64 j, .int .u64 b] w' fun e w'' => ∃ po pc, e = .returned (.agg #[.int .i64 r, .int .i64 c, .slice po n pc]) ∧ NewB w'.heap.size po (mxL (TJ (j + 1))) ∧ BitsAt w'' po pc (mxL (TJ (j + 1))) ∧ Below w'.heap.size w' w'')
    (A2 : ∀ w' i qo qc, j < i → i < r → BitsAt w' qo qc (mxL (TJ i)) → Calls Tryz.prog 37 #[.agg #[.int .i64 r, .int .i64 c, .slice qo n qc], .int .i64 (i : Nat), .int .i64 j, .int .u64 0] w' fun e w'' => ∃ po pc, e = .returned (.agg #[.int .i64 r, .int .i64 c, .slice po n pc]) ∧ NewB w'.heap.size po (mxL (TJ (i + 1))) ∧ BitsAt w'' po pc (mxL (TJ (i + 1))) ∧ Below w'.heap.size w' w'') :
    Calls Tryz.prog 28 #[.agg #[.int .i64 r, .int .i64 c, .slice ao n cap], .int .i64 j, .int .u64 b] w fun e w' => ∃ po pc, e = .returned (.agg #[.int .i64 r, .int .i64 c, .slice po n pc]) ∧ NewB w.heap.size po (mxL (TJ r)) ∧ BitsAt w' po pc (mxL (TJ r)) ∧ Below w.heap.size w w' := by
  have ST := hide (ClSt.start w r c n cap ao T0 h0 l0)
  have K1 := hide A1; have K2 := hide A2; have LJ := hide lJ
  clear A1 A2 lJ h0 l0
  have y0 := (unhide ST).1.c0; have y1 := (unhide ST).1.c1; have y2 := (unhide ST).1.c2
  go_enter Tryz.func28, Tryz.ntmps28
  go_wp2_with fail
  clear y0 y1 y2
  refine (unhide K1 _ _ _ (unhide ST).2.2.1).mono ?_
  rintro e w1 ⟨po, pc, rfl, hn, hq, hb⟩
  have HN := hide (NewB.least hn (unhide ST).2.2.2.2.size)
  have S1 := (unhide ST).all hb
  have y0 := S1.1.c0; have y1 := S1.1.c1; have y2 := S1.1.c2
  have f0 := S1.1.free 0; have f1 := S1.1.free 1; have f2 := S1.1.free 2
  have S2 := hide (S1.put hq (unhide LJ (j + 1)))
  clear S1 hn hq hb ST K1
  go_wp2_with fail
  clear y0 y1 y2 f0 f1 f2
  go_loopw [7] (fun a wr => ∃ (i : Nat) (po : Option Addr) (pc : Nat), j < i ∧ i ≤ r ∧ a = .int .i64 i ∧ Hid (NewB w.heap.size po (mxL (TJ i))) ∧ Hid (ClSt w wr r c n (TJ i) po pc)) (fun a _ => r - (intOf a).toNat)
  case atStart => exact ⟨j + 1, po, pc, by omega, by omega, by go_num, HN, S2⟩
  case round =>
    clear S2 HN
    obtain ⟨i, po, pc, hji, hir, rfl, hN, hS⟩ := hrel
    have y0 := (unhide hS).1.c0; have y1 := (unhide hS).1.c1; have y2 := (unhide hS).1.c2
    by_cases hlt : i < r
    · have hiI : (i : Int) < (r : Int) := by omega
      go_wp2_with fail
      clear y0 y1 y2
      refine (unhide K2 _ i _ _ hji hlt (unhide hS).2.2.1).mono ?_
      rintro e w2 ⟨qo, qc, rfl, hn, hq, hb⟩
      have HN := hide (NewB.least hn (unhide hS).2.2.2.2.size)
      have S1 := (unhide hS).all hb
      have y0 := S1.1.c0; have y1 := S1.1.c1; have y2 := S1.1.c2
      have f0 := S1.1.free 0; have f1 := S1.1.free 1; have f2 := S1.1.free 2
      have S2 := hide (S1.put hq (unhide LJ (i + 1)))
      clear S1 hn hq hb hS hN
      go_wp2_with fail
      clear y0 y1 y2 f0 f1 f2
      go_round
      case rel => exact ⟨i + 1, qo, qc, by omega, by omega, by go_num, HN, S2⟩
      case measure => simp [intOf]; omega
    · have hii : i = r := by omega
      subst hii
      obtain ⟨h1, h2, h3, h4, h5⟩ := unhide hS
      have r0 := h2.c0; have r1 := h2.c1; have r2 := h2.c2
      have f0 := h2.free 0; have f1 := h2.free 1; have f2 := h2.free 2
      have XP := h2.put (.int .i64 i) (.int .i64 c) (.slice po n pc)
      have z0 := XP.c0; have z1 := XP.c1; have z2 := XP.c2
      have QP := hide (h3.putM h2 (.int .i64 i) (.int .i64 c) (.slice po n pc))
      have BP := hide (below_putM h5 (b := w.heap.size + 1) (by omega) (.int .i64 i) (.int .i64 c) (.slice po n pc))
      clear XP h1 h2 h3 h4 h5 hS
      go_wp2_with fail
      exact bodyPost_ret (v := .agg #[.int .i64 i, .int .i64 c, .slice po n pc]) (by simp [results, Tryz.results28, go_sem, z0, z1, z2]) rfl ⟨po, pc, rfl, unhide hN, unhide QP, unhide BP⟩

theorem rclear14_any (r c cap j b : Nat) (ao : Option Addr) (S : List Nat) (w : World) (h : Mx w ao cap r c S) (hj : j < r) (hc : j < c) (hb : b < 18446744073709551616) :
    Calls Tryz.prog 28 #[.agg #[.int .i64 r, .int .i64 c, .slice ao S.length cap], .int .i64 j, .int .u64 b] w fun e w' => ∃ po pc, e = .returned (.agg #[.int .i64 r, .int .i64 c, .slice po S.length pc]) ∧ NewB w.heap.size po (mxL (clM r c S j b)) ∧ BitsAt w' po pc (mxL (clM r c S j b)) ∧ Below w.heap.size w w' := by
  have hl := h.2.1
  refine rclear_of r c S.length cap j b ao (fun i => clJ r c S j b i) S w h.2.2.1 hj h.1 rfl (fun i => by rw [clJ_len, hl]) (fun w' qo qc hq => ?_) (fun w' i qo qc hji hir hq => ?_)
  · refine (rwith_any r c qc j j b qo S w' ⟨hq, hl, h.2.2⟩ hj hc hb).mono ?_
    rintro e w'' ⟨v, rfl, ⟨po, pc, rfl, b4, b5⟩, hb⟩
    rw [clJ_first r c S b hl hj hc] at b4 b5 ⊢
    exact ⟨po, pc, by rw [clJ_len, hl], b4, b5, hb⟩
  · have := rwith_any r c qc i j 0 qo _ w' ⟨hq, clJ_len _ _ _ _ _ _, h.2.2⟩ hir hc (by decide)
    rw [clJ_len, ← hl] at this
    refine this.mono ?_
    rintro e w'' ⟨v, rfl, ⟨po, pc, rfl, b4, b5⟩, hb⟩
    rw [clJ_set r c S b hji hir hc] at b4 b5 ⊢
    exact ⟨po, pc, by rw [clJ_len, hl], b4, b5, hb⟩

end Go.Proofs.YtfkndkaneffgdaaGreatDoor

