/- Part 38 of the texts. -/
import Derived.Test.YtimejpbmehegeaaGreatDoorPartd37
import Derived.Test.YtimejpbmehegeaaGreatDoorPartd25
import Derived.Test.YtimejpbmehegeaaGreatDoorPartd31
import Derived.Test.YtimejpbmehegeaaGreatDoorPartd35
/- What the turn of two numbers leaves, in whole numbers (GivensOne, GivensRight); rows turned keep the square (GivensKeeps). Ahead of stage 12. -/
namespace Go.Proofs.YtimejpbmehegeaaGreatDoor
theorem p2_split : p2 (-2148) = p2 (-1074) * p2 (-1074) := by rw [← p2_add]; rfl
end Go.Proofs.YtimejpbmehegeaaGreatDoor

/- The mirror of a vector in the document's order; what it leaves. Ahead of stage 13. -/
namespace Go.Proofs.YtimejpbmehegeaaGreatDoor

/-- Are all noughts? -/
def ngt (xs : List Nat) : Bool := xs.all (fun x => decide (fK x = 0))
/-- The sign of the first number that is no nought. -/
def ldS : List Nat → Bool
  | [] => false
  | x :: xs => if fK x = 0 then ldS xs else fS x
def hmB (a : Nat) (xs : List Nat) : Nat := if ldS (a :: xs) = true then nrV (a :: xs) else fN (nrV (a :: xs))
def hmD (a : Nat) (xs : List Nat) : Nat := aV a (fN (hmB a xs))
/-- The mirror's beta, tau and v; is there one? -/
def mrB : List Nat → Nat
  | [] => 0
  | a :: xs => if ngt xs = true then a else hmB a xs
def mrT : List Nat → Nat
  | [] => 0
  | a :: xs => if ngt xs = true then 0 else dV (aV (hmB a xs) (fN a)) (hmB a xs)
def mrV : List Nat → List Nat
  | [] => []
  | a :: xs => 4607182418800017408 :: xs.map (fun x => if ngt xs = true then 0 else dV x (hmD a xs))
def mrK : List Nat → Bool
  | [] => true
  | a :: xs => ngt xs || (fFin (hmB a xs) && fFin (hmD a xs))

theorem toN_mxL (xs : List Nat) : toN (mxL xs) = xs := by
  unfold toN mxL
  rw [List.map_map]
  exact List.map_id'' (fun x => by simp) xs
theorem nrV_lt (xs : List Nat) : nrV xs < 18446744073709551616 := by
  have := nmV_lt (mxL xs)
  rwa [nmV_nrV, toN_mxL] at this
theorem hmB_lt (a : Nat) (xs : List Nat) : hmB a xs < 18446744073709551616 := by
  unfold hmB
  split
  · exact nrV_lt _
  · exact fN_lt _ (nrV_lt _)
theorem hmD_lt (a : Nat) (xs : List Nat) (ha : a < 18446744073709551616) : hmD a xs < 18446744073709551616 := aV_lt _ _ ha (fN_lt _ (hmB_lt _ _))
theorem mrB_lt (xs : List Nat) (h : ∀ x ∈ xs, x < 18446744073709551616) : mrB xs < 18446744073709551616 := by
  match xs with
  | [] => decide
  | a :: xs =>
    show (if ngt xs = true then a else hmB a xs) < _
    split
    · exact h a List.mem_cons_self
    · exact hmB_lt _ _
theorem mrT_lt (xs : List Nat) : mrT xs < 18446744073709551616 := by
  match xs with
  | [] => decide
  | a :: xs =>
    show (if ngt xs = true then 0 else dV (aV (hmB a xs) (fN a)) (hmB a xs)) < _
    split
    · decide
    · exact dV_lt _ _
theorem mrV_len (xs : List Nat) : (mrV xs).length = xs.length := by
  match xs with
  | [] => rfl
  | a :: xs => simp [mrV]
theorem fN_fN13 (b : Nat) (h : b < 18446744073709551616) : fN (fN b) = b := by
  unfold fN
  repeat' split
  all_goals omega
theorem fK_0_of {x : Nat} (hx : x < 18446744073709551616) (fx : fFin x = true) (h : fQ x = 0) : fK x = 0 := by
  by_cases h0 : fK x = 0
  · exact h0
  · have h1 := (eX_top x hx fx h0).1
    rw [h, ab_zero12] at h1
    have := p2_pos (eX x)
    grind
theorem ngt_true {xs : List Nat} (h : ngt xs = true) : ∀ x ∈ xs, fK x = 0 := fun x hx => of_decide_eq_true (List.all_eq_true.1 h x hx)
theorem ngt_sum {xs : List Nat} (h : ngt xs = true) : sumQ xs = 0 := by
  have h2 := ngt_true h
  clear h
  induction xs with
  | nil => rfl
  | cons x xs ih =>
    show fQ x * fQ x + sumQ xs = 0
    rw [fQ_nought x (h2 x List.mem_cons_self), ih (fun y hy => h2 y (List.mem_cons_of_mem _ hy))]
    grind

/-- Of the first number that is no nought and the vector's first number: their signs. -/
theorem ld_sign (a : Nat) (xs : List Nat) : (ldS (a :: xs) = true → fQ a ≤ 0) ∧ (ldS (a :: xs) = false → 0 ≤ fQ a) := by
  have h1 := mag_0 (fR a)
  by_cases h : fK a = 0
  · rw [fQ_nought a h]
    exact ⟨fun _ => Rat.le_refl, fun _ => Rat.le_refl⟩
  · have e : ldS (a :: xs) = fS a := if_neg h
    rw [e, fQ_sign a]
    refine ⟨fun g => ?_, fun g => ?_⟩
    · rw [if_pos g]; grind
    · rw [if_neg (by rw [g]; decide)]; exact h1

/-- What is known of the mirror of tame numbers of which one behind the first is no nought. -/
theorem mr_facts (a : Nat) (xs : List Nat) (hl : (a :: xs).length ≤ 64) (h : TameV 200 (a :: xs)) (hn : ngt xs = false) :
    bgF 0 (a :: xs) ≠ 0 ∧ fFin (hmB a xs) = true ∧ fK (hmB a xs) ≠ 0 ∧ fFin (hmD a xs) = true ∧ ((fQ (hmB a xs) = fQ (nrV (a :: xs)) ∧ fQ a ≤ 0) ∨ (fQ (hmB a xs) = -fQ (nrV (a :: xs)) ∧ 0 ≤ fQ a)) ∧ ((fS (hmB a xs) = false ∧ hmB a xs = nrV (a :: xs)) ∨ (fS (hmB a xs) = true ∧ fN (hmB a xs) = nrV (a :: xs))) := by
  have hf : ∀ x ∈ a :: xs, fFin x = true := fun x hx => (h x hx).2.1
  have h0 : bgF 0 (a :: xs) ≠ 0 := by
    intro e
    have k := bg_0 (a :: xs) hf e
    have : ngt xs = true := List.all_eq_true.2 (fun x hx => decide_eq_true (fK_0_of (h x (List.mem_cons_of_mem _ hx)).1 (hf x (List.mem_cons_of_mem _ hx)) (k x (List.mem_cons_of_mem _ hx))))
    rw [this] at hn
    cases hn
  obtain ⟨n1, n2, n3, _⟩ := norm_size (a :: xs) hl h h0
  have nl := nrV_lt (a :: xs)
  have nk : fK (nrV (a :: xs)) ≠ 0 := fun e => by rw [fQ_nought _ e] at n1; exact absurd n1 (by decide)
  obtain ⟨s1, s2⟩ := ld_sign a xs
  have key : fFin (hmB a xs) = true ∧ fK (hmB a xs) ≠ 0 ∧ ((fQ (hmB a xs) = fQ (nrV (a :: xs)) ∧ fQ a ≤ 0) ∨ (fQ (hmB a xs) = -fQ (nrV (a :: xs)) ∧ 0 ≤ fQ a)) ∧ ((fS (hmB a xs) = false ∧ hmB a xs = nrV (a :: xs)) ∨ (fS (hmB a xs) = true ∧ fN (hmB a xs) = nrV (a :: xs))) := by
    unfold hmB
    by_cases e : ldS (a :: xs) = true
    · rw [if_pos e]
      exact ⟨n2, nk, .inl ⟨rfl, s1 e⟩, .inl ⟨n3, rfl⟩⟩
    · rw [if_neg e]
      have e2 : ldS (a :: xs) = false := by simpa using e
      have q := fQ_fN (nrV (a :: xs)) nl
      refine ⟨(fFin_fN _ nl).trans n2, fun g => nk ((fK_fN _ nl).symm.trans g), .inr ⟨q, s2 e2⟩, .inr ⟨?_, fN_fN13 _ nl⟩⟩
      rw [fS_fN _ nl, n3]
      rfl
  obtain ⟨k1, k2, k3, k4⟩ := key
  obtain ⟨m1, _⟩ := house_make a (hmB a xs) xs hl h h0 (hmB_lt a xs) k1 k2 k3
  exact ⟨h0, k1, k2, m1, k3, k4⟩

end Go.Proofs.YtimejpbmehegeaaGreatDoor

/- A matrix mirrored, column by column; its square. Ahead of stage 13. -/
namespace Go.Proofs.YtimejpbmehegeaaGreatDoor

/-- A column's numbers from row i on; mirrored; a matrix with its columns from k on mirrored. -/
def colL (c : Nat) (S : List Nat) (i n q : Nat) : List Nat := (List.range n).map (fun j => elM c S (i + j) q)
def apL (c : Nat) (S : List Nat) (i q : Nat) (vs : List Nat) (tau : Nat) : List Nat := apV (mV tau (dtV 0 vs (colL c S i vs.length q))) vs (colL c S i vs.length q)
def apM (r c : Nat) (S : List Nat) (i k : Nat) (vs : List Nat) (tau : Nat) : List Nat := mkM r c (fun p q => if k ≤ q ∧ i ≤ p ∧ p < i + vs.length then (apL c S i q vs tau).getD (p - i) 0 else elM c S p q)
theorem colL_len (c : Nat) (S : List Nat) (i n q : Nat) : (colL c S i n q).length = n := by simp [colL]
theorem apM_len (r c : Nat) (S : List Nat) (i k : Nat) (vs : List Nat) (tau : Nat) : (apM r c S i k vs tau).length = r * c := mkM_len _ _ _
theorem apV_len (t : Nat) : ∀ (vs ys : List Nat), vs.length = ys.length → (apV t vs ys).length = vs.length := by
  intro vs
  induction vs with
  | nil => intro ys _; rfl
  | cons v vs ih =>
    intro ys h
    match ys with
    | [] => cases h
    | y :: ys =>
      show (apV t vs ys).length + 1 = vs.length + 1
      rw [ih ys (by simpa using h)]
theorem apL_len (c : Nat) (S : List Nat) (i q : Nat) (vs : List Nat) (tau : Nat) : (apL c S i q vs tau).length = vs.length := apV_len _ _ _ (colL_len _ _ _ _ _).symm
theorem apV_at (t : Nat) : ∀ (vs ys : List Nat) (j : Nat), vs.length = ys.length → j < vs.length → (apV t vs ys).getD j 0 = aV (ys.getD j 0) (fN (mV t (vs.getD j 0))) := by
  intro vs
  induction vs with
  | nil => intro ys j _ hj; exact absurd hj (Nat.not_lt_zero j)
  | cons v vs ih =>
    intro ys j h hj
    match ys with
    | [] => cases h
    | y :: ys =>
      match j with
      | 0 => rfl
      | j + 1 => exact ih ys j (by simpa using h) (by simpa using hj)
theorem colL_at (c : Nat) (S : List Nat) (i n q : Nat) {j : Nat} (hj : j < n) : (colL c S i n q).getD j 0 = elM c S (i + j) q := by
  simp [colL, List.getD_eq_getElem?_getD, hj]
theorem el_ap (r c : Nat) (S : List Nat) (i k : Nat) (vs : List Nat) (tau : Nat) {p q : Nat} (hp : p < r) (hq : q < c) : elM c (apM r c S i k vs tau) p q = if k ≤ q ∧ i ≤ p ∧ p < i + vs.length then (apL c S i q vs tau).getD (p - i) 0 else elM c S p q := el_mk r c _ hp hq

/-- The square of a list, in units. -/
theorem sum_range (f : Nat → Nat) (n : Nat) : sumQ ((List.range n).map f) = ((smI (fun j => fZ (f j) * fZ (f j)) n : Int) : Rat) * p2 (-2148) := by
  induction n with
  | zero => show (0 : Rat) = ((0 : Int) : Rat) * _; rw [show ((0 : Int) : Rat) = 0 from rfl, Rat.zero_mul]
  | succ n ih =>
    rw [List.range_succ, List.map_append, List.map_cons, List.map_nil, sumQ_snoc, ih]
    show _ = (((smI (fun j => fZ (f j) * fZ (f j)) n + fZ (f n) * fZ (f n) : Int)) : Rat) * p2 (-2148)
    rw [Rat.intCast_add, Rat.intCast_mul, Rat.add_mul, p2_split]
    unfold fQ
    grind
theorem list_range (L : List Nat) : L = (List.range L.length).map (fun j => L.getD j 0) := by
  refine List.ext_getElem (by simp) (fun j h1 h2 => ?_)
  simp [List.getD_eq_getElem?_getD, h1]
theorem sum_list (L : List Nat) : sumQ L = ((smI (fun j => fZ (L.getD j 0) * fZ (L.getD j 0)) L.length : Int) : Rat) * p2 (-2148) := by
  conv => lhs; rw [list_range L]
  exact sum_range (fun j => L.getD j 0) L.length
/-- A number less a nought. -/
theorem less_nought (t v y : Nat) (ft : fFin t = true) (t0 : fQ t = 0) (fv : fFin v = true) (fy : fFin y = true) (hy : ab (fQ y) ≤ p2 900) :
    fFin (aV y (fN (mV t v))) = true ∧ 9007199254740992 * ab (fQ (aV y (fN (mV t v))) - fQ y) ≤ ab (fQ y) := by
  obtain ⟨m1, m2⟩ := mul_noughts t v ft fv (by rw [t0, Rat.zero_mul])
  have n1 : fFin (fN (mV t v)) = true := by rw [fFin_fN _ (mV_lt _ _)]; exact m1
  have n2 : fQ (fN (mV t v)) = 0 := by rw [fQ_fN _ (mV_lt _ _), m2]; grind
  have hs : fQ y + fQ (fN (mV t v)) = fQ y := by rw [n2]; grind
  have f := add_fin y (fN (mV t v)) fy n1 (by rw [hs]; have := p2_lt (show (900 : Int) < 1023 by omega); grind)
  have e := add_err y (fN (mV t v)) fy n1 f
  rw [hs] at e
  exact ⟨f, e⟩

theorem one_nought {u y : Rat} (h : 9007199254740992 * ab (u - y) ≤ ab y) : 274877906944 * ab (u * u - y * y) ≤ y * y := by
  have e : u * u - y * y = (u - y) * (u + y) := by grind
  have ay : ab y * ab y = y * y := by rw [← ab_mul]; exact ab_pos (sq_nonneg y)
  have h1 : ab (u + y) ≤ ab (u - y) + 2 * ab y := by
    have l1 := le_ab (u - y); have l2 := le_ab y
    exact ab_le (by grind) (by grind)
  have a0 := ab_0 (u - y); have y0 := ab_0 y
  have h2 : ab (u + y) ≤ 3 * ab y := by grind
  have h3 := Rat.mul_le_mul_of_nonneg_left h2 a0
  have h4 := Rat.mul_le_mul_of_nonneg_right h y0
  rw [e, ab_mul, ← ay]
  generalize ab (u - y) * ab (u + y) = A at *
  generalize ab (u - y) = B at *
  generalize ab y = C at *
  have h5 : 0 ≤ C * C := Rat.mul_nonneg y0 y0
  have e1 : 9007199254740992 * B * C = 9007199254740992 * (B * C) := by grind
  have e2 : B * (3 * C) = 3 * (B * C) := by grind
  rw [e1] at h4
  rw [e2] at h3
  generalize B * C = D at *
  generalize C * C = E at *
  grind

/-- Mirrored by a nought the numbers stay. -/
theorem nought_col (t : Nat) (ft : fFin t = true) (t0 : fQ t = 0) : ∀ (vs ys : List Nat), vs.length = ys.length → (∀ v ∈ vs, fFin v = true) → (∀ y ∈ ys, fFin y = true ∧ ab (fQ y) ≤ p2 900) →
    (∀ u ∈ apV t vs ys, fFin u = true) ∧ 274877906944 * ab (sumQ (apV t vs ys) - sumQ ys) ≤ sumQ ys := by
  intro vs
  induction vs with
  | nil =>
    intro ys h _ _
    match ys with
    | [] => exact ⟨fun u hu => (by cases hu), (by show 274877906944 * ab (0 - 0 : Rat) ≤ 0; unfold ab; grind)⟩
    | y :: ys => cases h
  | cons v vs ih =>
    intro ys h hv hy
    match ys with
    | [] => cases h
    | y :: ys =>
      obtain ⟨i1, i2⟩ := ih ys (by simpa using h) (fun x hx => hv x (List.mem_cons_of_mem _ hx)) (fun x hx => hy x (List.mem_cons_of_mem _ hx))
      obtain ⟨l1, l2⟩ := less_nought t v y ft t0 (hv v List.mem_cons_self) (hy y List.mem_cons_self).1 (hy y List.mem_cons_self).2
      have l3 := one_nought l2
      refine ⟨fun u hu => ?_, ?_⟩
      · rcases List.mem_cons.1 hu with rfl | hu
        · exact l1
        · exact i1 u hu
      · show 274877906944 * ab (fQ (aV y (fN (mV t v))) * fQ (aV y (fN (mV t v))) + sumQ (apV t vs ys) - (fQ y * fQ y + sumQ ys)) ≤ fQ y * fQ y + sumQ ys
        generalize fQ (aV y (fN (mV t v))) * fQ (aV y (fN (mV t v))) = A at *
        generalize fQ y * fQ y = B at *
        generalize sumQ (apV t vs ys) = C at *
        generalize sumQ ys = D at *
        have := ab_add (A - B) (C - D)
        rw [show A - B + (C - D) = A + C - (B + D) by grind] at this
        grind

theorem s1_len (B : Rat) : ∀ (ys : List Nat), (∀ y ∈ ys, ab (fQ y) ≤ B) → s1Q ys ≤ (ys.length : Rat) * B := by
  intro ys
  induction ys with
  | nil => intro _; show (0 : Rat) ≤ ((0 : Nat) : Rat) * B; rw [show ((0 : Nat) : Rat) = 0 from rfl, Rat.zero_mul]; exact Rat.le_refl
  | cons y ys ih =>
    intro h
    have h1 := h y List.mem_cons_self
    have h2 := ih (fun x hx => h x (List.mem_cons_of_mem _ hx))
    show ab (fQ y) + s1Q ys ≤ ((ys.length + 1 : Nat) : Rat) * B
    rw [Rat.natCast_add, show ((1 : Nat) : Rat) = 1 from rfl]
    grind

/-- What makes a mirror, or leaves all as it is. -/
def MrF (vs : List Nat) (tau : Nat) : Prop := fFin tau = true ∧ (∀ v ∈ vs, fFin v = true ∧ 1000 * ab (fQ v) ≤ 1001) ∧ ((1000 * ab (fQ tau) ≤ 2001 ∧ 8796093022208 * ab (fQ tau * sumQ vs - 2) ≤ 1) ∨ fQ tau = 0)

theorem tame_parts {ys : List Nat} (h : TameV 200 ys) (hl : ys.length ≤ 6) : (∀ y ∈ ys, fFin y = true ∧ ab (fQ y) ≤ p2 900) ∧ s1Q ys ≤ p2 210 ∧ ((∀ y ∈ ys, fQ y = 0) ∨ p2 (-200) ≤ s1Q ys) := by
  have hs : ∀ y ∈ ys, ab (fQ y) ≤ p2 200 := fun y hy => (tame_size 200 y (h y hy).1 (h y hy).2.1 (h y hy).2.2).1
  refine ⟨fun y hy => ⟨(h y hy).2.1, Rat.le_trans (hs y hy) (p2_mono (by omega))⟩, ?_, ?_⟩
  · have h1 := s1_len (p2 200) ys hs
    have h2 : (ys.length : Rat) ≤ 6 := by
      rw [show (6 : Rat) = ((6 : Nat) : Rat) from rfl]
      exact Rat.natCast_le_natCast.2 hl
    have h3 := Rat.mul_le_mul_of_nonneg_right h2 (Rat.le_of_lt (p2_pos 200))
    have e : p2 210 = p2 200 * 1024 := by rw [show (210 : Int) = 200 + 10 by omega, p2_add]; rfl
    have := p2_pos 200
    rw [e]
    grind
  · by_cases g : ∀ y ∈ ys, fK y = 0
    · exact .inl (fun y hy => fQ_nought y (g y hy))
    · right
      obtain ⟨y, hy, g⟩ : ∃ y, y ∈ ys ∧ fK y ≠ 0 := by
        apply Classical.byContradiction
        intro hh
        exact g (fun y hy => Classical.byContradiction (fun k => hh ⟨y, hy, k⟩))
      exact Rat.le_trans ((tame_size 200 y (h y hy).1 (h y hy).2.1 (h y hy).2.2).2 g) (s1_mem ys y hy)

/-- A column mirrored keeps its square. -/
theorem col_keep (vs ys : List Nat) (tau : Nat) (hl : vs.length ≤ 6) (hlen : vs.length = ys.length) (hy : TameV 200 ys) (hM : MrF vs tau) :
    (∀ u ∈ apV (mV tau (dtV 0 vs ys)) vs ys, fFin u = true) ∧ 274877906944 * ab (sumQ (apV (mV tau (dtV 0 vs ys)) vs ys) - sumQ ys) ≤ sumQ ys := by
  obtain ⟨ft, hv, hM⟩ := hM
  obtain ⟨t1, t2, t3⟩ := tame_parts hy (by omega)
  have fv : ∀ v ∈ vs, fFin v = true := fun v h => (hv v h).1
  have fy : ∀ y ∈ ys, fFin y = true := fun y h => (t1 y h).1
  have fd : fFin (dtV 0 vs ys) = true := by
    refine (dot_err0 (p2 800) vs ys (by omega) (p2_mono (by omega)) ?_ fv fy ?_).1
    · have e : p2 800 = p2 (-1075) * p2 1875 := by rw [← p2_add]; rfl
      have e2 : (36028797018963968 : Rat) ≤ p2 1875 := by
        have : p2 55 ≤ p2 1875 := p2_mono (by omega)
        rwa [show p2 55 = 36028797018963968 from rfl] at this
      have := Rat.mul_le_mul_of_nonneg_left e2 (Rat.le_of_lt (p2_pos (-1075)))
      rw [e]
      grind
    · have h1 := da_le vs ys (fun v h => (hv v h).2)
      have h2 : p2 210 * 1024 ≤ p2 800 := by
        have : p2 220 ≤ p2 800 := p2_mono (by omega)
        rwa [show (220 : Int) = 210 + 10 by omega, p2_add, show p2 10 = 1024 from rfl] at this
      have := s1Q_0 ys
      grind
  have nought : fQ (mV tau (dtV 0 vs ys)) = 0 → fFin (mV tau (dtV 0 vs ys)) = true → (∀ u ∈ apV (mV tau (dtV 0 vs ys)) vs ys, fFin u = true) ∧ 274877906944 * ab (sumQ (apV (mV tau (dtV 0 vs ys)) vs ys) - sumQ ys) ≤ sumQ ys :=
    fun e f => nought_col _ f e vs ys hlen fv t1
  rcases hM with ⟨ht, htv⟩ | t0
  · rcases t3 with g | g
    · have d0 := (dot_noughts vs ys 0 fin_zero12 fQ_zero12 fv (fun y h => ⟨fy y h, g y h⟩)).2
      obtain ⟨m1, m2⟩ := mul_noughts tau (dtV 0 vs ys) ft fd (by rw [d0, Rat.mul_zero])
      exact nought m2 m1
    · refine house_col tau vs ys hl hlen ft ht hv fy htv (Rat.le_trans t2 (p2_mono (by omega))) ?_
      have e : (1267650600228229401496703205376 : Rat) * p2 (-1075) = p2 (-975) := by
        rw [show (1267650600228229401496703205376 : Rat) = p2 100 from rfl, ← p2_add]
        rfl
      rw [e]
      exact Rat.le_trans (p2_mono (by omega)) g
  · obtain ⟨m1, m2⟩ := mul_noughts tau (dtV 0 vs ys) ft fd (by rw [t0, Rat.zero_mul])
    exact nought m2 m1

end Go.Proofs.YtimejpbmehegeaaGreatDoor

/- A matrix mirrored keeps its square; a vector mirrored by its own mirror. Ahead of stage 13. -/
namespace Go.Proofs.YtimejpbmehegeaaGreatDoor

theorem col_tame {r c : Nat} {S : List Nat} {i n q : Nat} (hi : i + n ≤ r) (hq : q < c) (hT : ∀ p q, p < r → q < c → elM c S p q < 18446744073709551616 ∧ fFin (elM c S p q) = true ∧ (fK (elM c S p q) = 0 ∨ (-200 ≤ eX (elM c S p q) ∧ eX (elM c S p q) < 200))) : TameV 200 (colL c S i n q) := by
  intro x hx
  obtain ⟨j, hj, rfl⟩ := List.mem_map.1 hx
  exact hT (i + j) q (by have := List.mem_range.1 hj; omega) hq

theorem mem_el {c : Nat} {S : List Nat} {r : Nat} (hS : S.length = r * c) {x : Nat} (hx : x ∈ S) : ∃ p q, p < r ∧ q < c ∧ x = elM c S p q := by
  obtain ⟨p, hp, rfl⟩ := List.getElem_of_mem hx
  have hp' := hp
  rw [hS] at hp'
  have hc0 : 0 < c := by
    rcases Nat.eq_zero_or_pos c with h | h
    · rw [h, Nat.mul_zero] at hp'; omega
    · exact h
  refine ⟨p / c, p % c, Nat.div_lt_of_lt_mul (by rw [Nat.mul_comm]; exact hp'), Nat.mod_lt _ hc0, ?_⟩
  unfold elM
  rw [Nat.mul_comm, Nat.div_add_mod, List.getD_eq_getElem?_getD, List.getElem?_eq_getElem hp]
  rfl
/-- Its numbers are finite. -/
theorem ap_fin {r c : Nat} {S : List Nat} {i k : Nat} {vs : List Nat} {tau : Nat} (hr : r ≤ 6) (hi : i + vs.length ≤ r) (hM : MrF vs tau) (hT : ∀ p q, p < r → q < c → elM c S p q < 18446744073709551616 ∧ fFin (elM c S p q) = true ∧ (fK (elM c S p q) = 0 ∨ (-200 ≤ eX (elM c S p q) ∧ eX (elM c S p q) < 200))) :
    ∀ x ∈ apM r c S i k vs tau, fFin x = true := by
  intro x hx
  obtain ⟨p, q, hp, hq, rfl⟩ := mem_el (apM_len r c S i k vs tau) hx
  rw [el_ap r c S i k vs tau hp hq]
  split
  · rename_i g
    obtain ⟨h, _⟩ := col_keep vs (colL c S i vs.length q) tau (by omega) (colL_len _ _ _ _ _).symm (col_tame hi hq hT) hM
    have hj : p - i < (apL c S i q vs tau).length := by rw [apL_len]; omega
    rw [List.getD_eq_getElem?_getD, List.getElem?_eq_getElem hj]
    exact h _ (List.getElem_mem hj)
  · exact (hT p q hp hq).2.1

/-- What the mirror of tame numbers is. -/
theorem mr_MrF (xs : List Nat) (hx : xs ≠ []) (hl : xs.length ≤ 64) (h : TameV 200 xs) : MrF (mrV xs) (mrT xs) ∧ mrK xs = true := by
  match xs, hx with
  | a :: xs, _ =>
    have one : fFin 4607182418800017408 = true ∧ 1000 * ab (fQ 4607182418800017408) ≤ 1001 := ⟨fin_one12, by rw [fQ_one12]; unfold ab; grind⟩
    cases hn : ngt xs
    · obtain ⟨h0, k1, k2, m1, k3, _⟩ := mr_facts a xs hl h hn
      obtain ⟨f1, f2, f3, f4, f5, f6, _⟩ := house_facts a (hmB a xs) (hmD a xs) (dV (aV (hmB a xs) (fN a)) (hmB a xs)) xs (xs.map (fun x => dV x (hmD a xs))) hl h h0 (hmB_lt a xs) k1 k2 k3 rfl rfl rfl
      have e1 : mrV (a :: xs) = 4607182418800017408 :: xs.map (fun x => dV x (hmD a xs)) := by
        show 4607182418800017408 :: xs.map (fun x => if ngt xs = true then 0 else dV x (hmD a xs)) = _
        rw [hn]
        simp
      have e2 : mrT (a :: xs) = dV (aV (hmB a xs) (fN a)) (hmB a xs) := if_neg (by rw [hn]; decide)
      rw [e1, e2]
      refine ⟨⟨f1, f5, .inl ⟨f2, f6⟩⟩, ?_⟩
      show (ngt xs || (fFin (hmB a xs) && fFin (hmD a xs))) = true
      rw [k1, m1, Bool.and_self, Bool.or_true]
    · have e2 : mrT (a :: xs) = 0 := if_pos hn
      rw [e2]
      refine ⟨⟨fin_zero12, fun v hv => ?_, .inr fQ_zero12⟩, ?_⟩
      · rcases List.mem_cons.1 hv with rfl | hv
        · exact one
        · obtain ⟨x, _, rfl⟩ := List.mem_map.1 hv
          show fFin (if ngt xs = true then 0 else _) = true ∧ 1000 * ab (fQ (if ngt xs = true then 0 else _)) ≤ 1001
          rw [hn, if_pos rfl, fQ_zero12, ab_zero12]
          exact ⟨fin_zero12, by grind⟩
      · show (ngt xs || (fFin (hmB a xs) && fFin (hmD a xs))) = true
        rw [hn, Bool.true_or]

/-- A vector mirrored by its own mirror, in whole numbers. -/
theorem own_mirror (a : Nat) (xs : List Nat) (hl : (a :: xs).length ≤ 6) (h : TameV 200 (a :: xs)) (u : Nat) (us : List Nat) (hu : u :: us = apV (mV (mrT (a :: xs)) (dtV 0 (mrV (a :: xs)) (a :: xs))) (mrV (a :: xs)) (a :: xs)) :
    1208925819614629174706176 * ((fQ u - fQ (mrB (a :: xs))) * (fQ u - fQ (mrB (a :: xs))) + sumQ us) ≤ fQ (mrB (a :: xs)) * fQ (mrB (a :: xs)) := by
  have hul : us.length ≤ 5 := by
    have e := congrArg List.length hu
    rw [apV_len _ _ _ (mrV_len _), mrV_len] at e
    simp at e hl
    omega
  cases hn : ngt xs
  · obtain ⟨h0, k1, k2, m1, k3, _⟩ := mr_facts a xs (by omega) h hn
    have e1 : mrV (a :: xs) = 4607182418800017408 :: xs.map (fun x => dV x (hmD a xs)) := by
      show 4607182418800017408 :: xs.map (fun x => if ngt xs = true then 0 else dV x (hmD a xs)) = _
      rw [hn]
      simp
    have e2 : mrT (a :: xs) = dV (aV (hmB a xs) (fN a)) (hmB a xs) := if_neg (by rw [hn]; decide)
    have e3 : mrB (a :: xs) = hmB a xs := if_neg (by rw [hn]; decide)
    rw [e1, e2] at hu
    rw [e3]
    exact (house_own a (hmB a xs) (hmD a xs) (dV (aV (hmB a xs) (fN a)) (hmB a xs)) u xs (xs.map (fun x => dV x (hmD a xs))) us hl h h0 (hmB_lt a xs) k1 k2 k3 rfl rfl rfl hu hul).2.2
  · have e2 : mrT (a :: xs) = 0 := if_pos hn
    have e3 : mrB (a :: xs) = a := if_pos hn
    obtain ⟨⟨ft, hv, _⟩, _⟩ := mr_MrF (a :: xs) (by simp) (by omega) h
    obtain ⟨t1, t2, t3⟩ := tame_parts h hl
    have fv : ∀ v ∈ mrV (a :: xs), fFin v = true := fun v g => (hv v g).1
    have fd : fFin (dtV 0 (mrV (a :: xs)) (a :: xs)) = true := by
      refine (dot_err0 (p2 800) _ _ (by rw [mrV_len]; omega) (p2_mono (by omega)) ?_ fv (fun y g => (t1 y g).1) ?_).1
      · have e : p2 800 = p2 (-1075) * p2 1875 := by rw [← p2_add]; rfl
        have e2 : (36028797018963968 : Rat) ≤ p2 1875 := by
          have : p2 55 ≤ p2 1875 := p2_mono (by omega)
          rwa [show p2 55 = 36028797018963968 from rfl] at this
        have := Rat.mul_le_mul_of_nonneg_left e2 (Rat.le_of_lt (p2_pos (-1075)))
        rw [e]
        grind
      · have h1 := da_le (mrV (a :: xs)) (a :: xs) (fun v g => (hv v g).2)
        have h2 : p2 210 * 1024 ≤ p2 800 := by
          have : p2 220 ≤ p2 800 := p2_mono (by omega)
          rwa [show (220 : Int) = 210 + 10 by omega, p2_add, show p2 10 = 1024 from rfl] at this
        have := s1Q_0 (a :: xs)
        grind
    rw [e2] at ft hu
    obtain ⟨m1, m2⟩ := mul_noughts 0 (dtV 0 (mrV (a :: xs)) (a :: xs)) ft fd (by rw [fQ_zero12, Rat.zero_mul])
    rw [e3]
    generalize mV 0 (dtV 0 (mrV (a :: xs)) (a :: xs)) = t at *
    have ev : mrV (a :: xs) = 4607182418800017408 :: xs.map (fun x => if ngt xs = true then 0 else dV x (hmD a xs)) := rfl
    rw [ev] at hu fv
    obtain ⟨rfl, hus⟩ := List.cons.inj (show u :: us = aV a (fN (mV t 4607182418800017408)) :: apV t (xs.map (fun x => if ngt xs = true then 0 else dV x (hmD a xs))) xs from hu)
    obtain ⟨_, l2⟩ := less_nought t 4607182418800017408 a m1 m2 fin_one12 (t1 a List.mem_cons_self).1 (t1 a List.mem_cons_self).2
    obtain ⟨_, c2⟩ := nought_col t m1 m2 (xs.map (fun x => if ngt xs = true then 0 else dV x (hmD a xs))) xs (by simp) (fun v g => fv v (List.mem_cons_of_mem _ g)) (fun y g => t1 y (List.mem_cons_of_mem _ g))
    rw [← hus, ngt_sum hn] at c2
    have s0 := sumQ_nonneg us
    have c3 : sumQ us = 0 := by
      rw [show sumQ us - 0 = sumQ us by grind, ab_pos s0] at c2
      grind
    rw [c3]
    generalize fQ (aV a (fN (mV t 4607182418800017408))) = U at *
    have aa : ab (U - fQ a) * ab (U - fQ a) = (U - fQ a) * (U - fQ a) := by rw [← ab_mul]; exact ab_pos (sq_nonneg _)
    have ay : ab (fQ a) * ab (fQ a) = fQ a * fQ a := by rw [← ab_mul]; exact ab_pos (sq_nonneg _)
    rw [← aa, ← ay]
    have a0 := ab_0 (U - fQ a); have y0 := ab_0 (fQ a)
    generalize ab (U - fQ a) = P at *
    generalize ab (fQ a) = Q at *
    have q1 : 1099511627776 * P ≤ Q := by grind
    have q2 := Rat.mul_le_mul_of_nonneg_left q1 a0
    have q3 := Rat.mul_le_mul_of_nonneg_right q1 y0
    have e4 : P * (1099511627776 * P) = 1099511627776 * (P * P) := by grind
    have e5 : 1099511627776 * P * Q = 1099511627776 * (P * Q) := by grind
    rw [e4] at q2
    rw [e5] at q3
    generalize P * P = A at *
    generalize P * Q = B at *
    generalize Q * Q = C at *
    grind

end Go.Proofs.YtimejpbmehegeaaGreatDoor

/- The reference of layer 10: Eye, In. -/
namespace Go.Proofs.YtimejpbmehegeaaGreatDoor
open Go.RowKit
attribute [local go_sem ↓] Go.wp_at_zero Go.wp_at_succ

/-- A matrix in a variable's box at g, the result's box at gr. -/
structure LpSt (w wr : World) (g gr p q : Nat) (mo : Option Addr) (mc : Nat) (S : List Nat) : Prop where
  bel : Below w.heap.size w wr
  box : BoxM wr g (.int .i64 p) (.int .i64 q) (.slice mo S.length mc)
  res : BoxM wr gr (.int .i64 0) (.int .i64 0) (.slice none 0 0)
  bits : BitsAt wr mo mc (mxL S)
  ne : gr ≠ g
  lo : w.heap.size ≤ g
theorem LpSt.all {w wr w' : World} {g gr p q : Nat} {mo : Option Addr} {mc : Nat} {S : List Nat} (h : LpSt w wr g gr p q mo mc S) (hb : Below wr.heap.size wr w') : LpSt w w' g gr p q mo mc S :=
  ⟨h.bel.trans (hb.mono h.bel.size), h.box.all hb, h.res.all hb, h.bits.below hb, h.ne, h.lo⟩
theorem LpSt.put {w wr : World} {g gr p q : Nat} {mo : Option Addr} {mc : Nat} {S : List Nat} (h : LpSt w wr g gr p q mo mc S) {no : Option Addr} {nc : Nat} {T : List Nat} (hT : BitsAt wr no nc (mxL T)) :
    LpSt w (((wr.setCell ⟨g, 0, none⟩ (.int .i64 p)).setCell ⟨g, 1, none⟩ (.int .i64 q)).setCell ⟨g, 2, none⟩ (.slice no T.length nc)) g gr p q no nc T :=
  ⟨below_putM h.bel h.lo _ _ _, h.box.put _ _ _, ((h.res.other (p := ⟨g, 0, none⟩) h.ne _).other (p := ⟨g, 1, none⟩) h.ne _).other (p := ⟨g, 2, none⟩) h.ne _, hT.putM h.box _ _ _, h.ne, h.lo⟩

theorem NewM.any {w : World} {r c : Nat} {S : List Nat} {ao : Option Addr} {cap : Nat} (h : BitsAt w ao cap (mxL S)) : NewM 0 w r c S (.agg #[.int .i64 r, .int .i64 c, .slice ao S.length cap]) := by
  refine ⟨ao, cap, rfl, ?_, h⟩
  rcases h.2.2 with e | ⟨b, off, e1, _, _⟩
  · exact .inl e
  · exact .inr ⟨b, off, e1, Nat.zero_le _⟩

/-- The first j ones of Eye. -/
def eyJ (n j : Nat) : List Nat := mkM n n (fun i k => if k = i ∧ i < j then 4607182418800017408 else 0)
theorem eyJ_0 (n : Nat) : eyJ n 0 = List.replicate (n * n) 0 := by
  rw [mkM_noughts]
  exact mkM_congr (fun i k _ _ => if_neg (by omega))
theorem eyJ_set (n j : Nat) (hj : j < n) : (eyJ n j).set (j * n + j) 4607182418800017408 = eyJ n (j + 1) := by
  unfold eyJ
  rw [mkM_set n n _ _ hj hj]
  refine mkM_congr (fun x y _ _ => ?_)
  by_cases h : x = j ∧ y = j
  · rw [if_pos h, if_pos (by omega)]
  · rw [if_neg h]
    by_cases e : y = x ∧ x < j
    · rw [if_pos e, if_pos (by omega)]
    · rw [if_neg e, if_neg (by omega)]
theorem eyJ_all (n : Nat) : eyJ n n = eyM n := mkM_congr (fun i k hi _ => by
  by_cases e : k = i
  · rw [if_pos ⟨e, hi⟩, if_pos e]
  · rw [if_neg (fun h => e h.1), if_neg e])
theorem eyJ_len (n j : Nat) : (eyJ n j).length = n * n := mkM_len _ _ _

set_option maxRecDepth 20000 in
set_option maxHeartbeats 4000000 in
theorem reye_any (n : Nat) (w : World) (hn : n ≤ 6) :
    Calls Tryz.prog 37 #[.int .i64 n] w fun e w' => ∃ v, e = .returned v ∧ NewM 0 w' n n (eyM n) v ∧ Below w.heap.size w w' := by
  have K1 := hide (fun w' => rzeros_any n n w' hn hn)
  have b0 := below_alloc9 w (.cells #[.int .i64 0, .int .i64 0, .slice none 0 0] 36)
  have X0 := BoxM.new w (.int .i64 0) (.int .i64 0) (.slice none 0 0)
  have s0 := size_alloc9 w (.cells #[.int .i64 0, .int .i64 0, .slice none 0 0] 36)
  have HB0 := hide b0; have HX0 := hide X0; have HS0 := hide s0
  clear b0 X0 s0
  go_enter Tryz.func37, Tryz.ntmps37
  go_wp2_with fail
  refine (unhide K1 _).mono ?_
  rintro e w1 ⟨v, rfl, ⟨mo, mc, rfl, nw, qs⟩, hb1⟩
  have ba := below_alloc9 w1 (.cells #[.int .i64 n, .int .i64 n, .slice mo (List.replicate (n * n) 0).length mc] 36)
  have BB := (unhide HB0).trans (hb1.mono (unhide HB0).size)
  have L0 := hide (show LpSt w (w1.alloc (.cells #[.int .i64 n, .int .i64 n, .slice mo (eyJ n 0).length mc] 36)) w1.heap.size w.heap.size n n mo mc (eyJ n 0) from by
    rw [eyJ_0]
    exact ⟨BB.trans (ba.mono BB.size), BoxM.new w1 _ _ _, ((unhide HX0).all hb1).all ba, qs.below ba, by have := hb1.size; rw [unhide HS0] at this; omega, BB.size⟩)
  rw [← eyJ_0]
  clear K1 hb1 ba BB nw qs HB0 HX0 HS0
  go_wp2_with fail
  generalize w1.heap.size = g at *
  go_loopw [4] (fun i wr => ∃ (j : Nat) (no : Option Addr) (nc : Nat), j ≤ n ∧ i = .int .i64 j ∧ Hid (LpSt w wr g w.heap.size n n no nc (eyJ n j))) (fun i _ => n - (intOf i).toNat)
  case atStart => exact ⟨0, mo, mc, Nat.zero_le _, rfl, L0⟩
  case round =>
    clear L0
    obtain ⟨j, no, nc, hj, rfl, hL⟩ := hrel
    have y0 := (unhide hL).box.c0; have y1 := (unhide hL).box.c1; have y2 := (unhide hL).box.c2
    by_cases hlt : j < n
    · have hjI : (j : Int) < (n : Int) := by omega
      have C := hide (rwith_any n n nc j j 4607182418800017408 no (eyJ n j) _ ⟨(unhide hL).bits, eyJ_len n j, hn, hn⟩ hlt hlt (by decide))
      rw [eyJ_set n j hlt, show ((4607182418800017408 : Nat) : Int) = 4607182418800017408 from rfl] at C
      generalize (eyJ n j).length = l at *
      go_wp2_with fail
      refine Calls.mono (unhide C) ?_
      rintro e w2 ⟨v, rfl, ⟨no', nc', rfl, _, q2⟩, hb2⟩
      have L2 := (unhide hL).all hb2
      have f0 := L2.box.free 0; have f1 := L2.box.free 1; have f2 := L2.box.free 2
      have u0 := L2.box.c0; have u1 := L2.box.c1; have u2 := L2.box.c2
      have L3 := hide (L2.put q2)
      clear C hb2 L2 hL y0 y1 y2 q2
      go_wp2_with fail
      go_round
      case rel => exact ⟨j + 1, no', nc', by omega, by go_num, L3⟩
      case measure => simp [intOf]; omega
    · have hjj : j = n := by omega
      subst hjj
      rw [eyJ_all] at hL y2
      have r0 := (unhide hL).res.c0; have r1 := (unhide hL).res.c1; have r2 := (unhide hL).res.c2
      have f0 := (unhide hL).res.free 0; have f1 := (unhide hL).res.free 1; have f2 := (unhide hL).res.free 2
      have XP := (unhide hL).res.put (.int .i64 j) (.int .i64 j) (.slice no (eyM j).length nc)
      have z0 := XP.c0; have z1 := XP.c1; have z2 := XP.c2
      have Q := hide (BitsAt.putM (unhide hL).bits (unhide hL).res (.int .i64 j) (.int .i64 j) (.slice no (eyM j).length nc))
      have BP := hide (below_putM (unhide hL).bel (Nat.le_refl _) (.int .i64 j) (.int .i64 j) (.slice no (eyM j).length nc))
      clear XP hL
      go_wp2
      exact bodyPost_ret (v := .agg #[.int .i64 j, .int .i64 j, .slice no (eyM j).length nc]) (by simp [results, Tryz.results37, go_sem, z0, z1, z2]) rfl ⟨_, rfl, NewM.any (unhide Q), unhide BP⟩

end Go.Proofs.YtimejpbmehegeaaGreatDoor

