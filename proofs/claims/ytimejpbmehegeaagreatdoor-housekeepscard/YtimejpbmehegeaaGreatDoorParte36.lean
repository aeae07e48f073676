/- Part 36 of the texts. -/
import Derived.Test.YtimejpbmehegeaaGreatDoorParte35
import Derived.Test.YtimejpbmehegeaaGreatDoorParte24
import Derived.Test.YtimejpbmehegeaaGreatDoorParte25
import Derived.Test.YtimejpbmehegeaaGreatDoorParte30
import Derived.Test.YtimejpbmehegeaaGreatDoorParte34
import Derived.Deep.RegionLaw
/- What the turn of two numbers leaves, in whole numbers (GivensOne, GivensRight); rows turned keep the square (GivensKeeps). Ahead of stage 12. -/
namespace Go.Proofs.YtimejpbmehegeaaGreatDoor

theorem ab_int (d : Int) : ab (d : Rat) = ((d.natAbs : Int) : Rat) := by
  unfold ab
  rcases Int.le_total 0 d with g | g
  · have : (0 : Rat) ≤ (d : Rat) := Rat.intCast_nonneg.2 g
    rw [show ((d.natAbs : Nat) : Int) = d by omega]
    grind
  · have : (d : Rat) ≤ 0 := by
      have := Rat.intCast_le_intCast.2 g
      grind
    rw [show ((d.natAbs : Nat) : Int) = -d by omega, Rat.intCast_neg]
    grind
/-- A bound in rational numbers, said in whole ones. -/
theorem int_form {N Z W : Int} {p : Rat} (hp : 0 < p) (h : (N : Rat) * ab ((Z : Rat) * p) ≤ (W : Rat) * p) : (Z.natAbs : Int) * N ≤ W := by
  rw [ab_mul, ab_pos (Rat.le_of_lt hp), ← Rat.mul_assoc] at h
  have h4 := Rat.le_of_mul_le_mul_right h hp
  rw [ab_int, ← Rat.intCast_mul, Rat.intCast_le_intCast] at h4
  rw [Int.mul_comm]
  exact h4
theorem p2_split : p2 (-2148) = p2 (-1074) * p2 (-1074) := by rw [← p2_add]; rfl
theorem smI_small {d v : Nat → Int} {N : Int} (hN : 0 ≤ N) (n : Nat) (h : ∀ i, i < n → ((d i).natAbs : Int) * N ≤ v i) : ((smI d n).natAbs : Int) * N ≤ smI v n := by
  induction n with
  | zero =>
    show ((0 : Int).natAbs : Int) * N ≤ 0
    simp
  | succ n ih =>
    have h1 := ih (fun i hi => h i (by omega))
    have h2 := h n (by omega)
    show ((smI d n + d n).natAbs : Int) * N ≤ smI v n + v n
    have h3 : (((smI d n + d n).natAbs : Nat) : Int) ≤ ((smI d n).natAbs : Int) + ((d n).natAbs : Int) := by omega
    have h4 := Int.mul_le_mul_of_nonneg_right h3 hN
    rw [Int.add_mul] at h4
    omega
theorem smI_sub (f g : Nat → Int) (n : Nat) : smI (fun i => f i - g i) n = smI f n - smI g n := by
  induction n with
  | zero => rfl
  | succ n ih =>
    show smI (fun i => f i - g i) n + (f n - g n) = smI f n + f n - (smI g n + g n)
    rw [ih]
    omega
end Go.Proofs.YtimejpbmehegeaaGreatDoor

/- The mirror of a vector in the document's order; what it leaves. Ahead of stage 13. -/
namespace Go.Proofs.YtimejpbmehegeaaGreatDoor

/-- Are all noughts? -/
def ngt (xs : List Nat) : Bool := xs.all (fun x => decide (fK x = 0))
/-- The sign of the first number that is no nought. -/
def ldS : List Nat → Bool
  | [] => false
  | x :: xs => if fK x = 0 then ldS xs else fS x
def hmB (a : Nat) (xs : List Nat) : Nat := if ldS (a :: xs) = true then nrV (a :: xs) else fN (nrV (a :: xs))
def hmD (a : Nat) (xs : List Nat) : Nat := aV a (fN (hmB a xs))
/-- The mirror's beta, tau and v; is there one? -/
def mrB : List Nat → Nat
  | [] => 0
  | a :: xs => if ngt xs = true then a else hmB a xs
def mrT : List Nat → Nat
  | [] => 0
  | a :: xs => if ngt xs = true then 0 else dV (aV (hmB a xs) (fN a)) (hmB a xs)
def mrV : List Nat → List Nat
  | [] => []
  | a :: xs => 4607182418800017408 :: xs.map (fun x => if ngt xs = true then 0 else dV x (hmD a xs))
def mrK : List Nat → Bool
  | [] => true
  | a :: xs => ngt xs || (fFin (hmB a xs) && fFin (hmD a xs))

theorem toN_mxL (xs : List Nat) : toN (mxL xs) = xs := by
  unfold toN mxL
  rw [List.map_map]
  exact List.map_id'' (fun x => by simp) xs
theorem nrV_lt (xs : List Nat) : nrV xs < 18446744073709551616 := by
  have := nmV_lt (mxL xs)
  rwa [nmV_nrV, toN_mxL] at this
theorem hmB_lt (a : Nat) (xs : List Nat) : hmB a xs < 18446744073709551616 := by
  unfold hmB
  split
  · exact nrV_lt _
  · exact fN_lt _ (nrV_lt _)
theorem hmD_lt (a : Nat) (xs : List Nat) (ha : a < 18446744073709551616) : hmD a xs < 18446744073709551616 := aV_lt _ _ ha (fN_lt _ (hmB_lt _ _))
theorem mrT_lt (xs : List Nat) : mrT xs < 18446744073709551616 := by
  match xs with
  | [] => decide
  | a :: xs =>
    show (if ngt xs = true then 0 else dV (aV (hmB a xs) (fN a)) (hmB a xs)) < _
    split
    · decide
    · exact dV_lt _ _
theorem mrV_len (xs : List Nat) : (mrV xs).length = xs.length := by
  match xs with
  | [] => rfl
  | a :: xs => simp [mrV]
theorem fN_fN13 (b : Nat) (h : b < 18446744073709551616) : fN (fN b) = b := by
  unfold fN
  repeat' split
  all_goals omega
theorem fK_0_of {x : Nat} (hx : x < 18446744073709551616) (fx : fFin x = true) (h : fQ x = 0) : fK x = 0 := by
  by_cases h0 : fK x = 0
  · exact h0
  · have h1 := (eX_top x hx fx h0).1
    rw [h, ab_zero12] at h1
    have := p2_pos (eX x)
    grind
theorem ngt_true {xs : List Nat} (h : ngt xs = true) : ∀ x ∈ xs, fK x = 0 := fun x hx => of_decide_eq_true (List.all_eq_true.1 h x hx)
/-- Of the first number that is no nought and the vector's first number: their signs. -/
theorem ld_sign (a : Nat) (xs : List Nat) : (ldS (a :: xs) = true → fQ a ≤ 0) ∧ (ldS (a :: xs) = false → 0 ≤ fQ a) := by
  have h1 := mag_0 (fR a)
  by_cases h : fK a = 0
  · rw [fQ_nought a h]
    exact ⟨fun _ => Rat.le_refl, fun _ => Rat.le_refl⟩
  · have e : ldS (a :: xs) = fS a := if_neg h
    rw [e, fQ_sign a]
    refine ⟨fun g => ?_, fun g => ?_⟩
    · rw [if_pos g]; grind
    · rw [if_neg (by rw [g]; decide)]; exact h1

/-- What is known of the mirror of tame numbers of which one behind the first is no nought. -/
theorem mr_facts (a : Nat) (xs : List Nat) (hl : (a :: xs).length ≤ 64) (h : TameV 200 (a :: xs)) (hn : ngt xs = false) :
    bgF 0 (a :: xs) ≠ 0 ∧ fFin (hmB a xs) = true ∧ fK (hmB a xs) ≠ 0 ∧ fFin (hmD a xs) = true ∧ ((fQ (hmB a xs) = fQ (nrV (a :: xs)) ∧ fQ a ≤ 0) ∨ (fQ (hmB a xs) = -fQ (nrV (a :: xs)) ∧ 0 ≤ fQ a)) ∧ ((fS (hmB a xs) = false ∧ hmB a xs = nrV (a :: xs)) ∨ (fS (hmB a xs) = true ∧ fN (hmB a xs) = nrV (a :: xs))) := by
  have hf : ∀ x ∈ a :: xs, fFin x = true := fun x hx => (h x hx).2.1
  have h0 : bgF 0 (a :: xs) ≠ 0 := by
    intro e
    have k := bg_0 (a :: xs) hf e
    have : ngt xs = true := List.all_eq_true.2 (fun x hx => decide_eq_true (fK_0_of (h x (List.mem_cons_of_mem _ hx)).1 (hf x (List.mem_cons_of_mem _ hx)) (k x (List.mem_cons_of_mem _ hx))))
    rw [this] at hn
    cases hn
  obtain ⟨n1, n2, n3, _⟩ := norm_size (a :: xs) hl h h0
  have nl := nrV_lt (a :: xs)
  have nk : fK (nrV (a :: xs)) ≠ 0 := fun e => by rw [fQ_nought _ e] at n1; exact absurd n1 (by decide)
  obtain ⟨s1, s2⟩ := ld_sign a xs
  have key : fFin (hmB a xs) = true ∧ fK (hmB a xs) ≠ 0 ∧ ((fQ (hmB a xs) = fQ (nrV (a :: xs)) ∧ fQ a ≤ 0) ∨ (fQ (hmB a xs) = -fQ (nrV (a :: xs)) ∧ 0 ≤ fQ a)) ∧ ((fS (hmB a xs) = false ∧ hmB a xs = nrV (a :: xs)) ∨ (fS (hmB a xs) = true ∧ fN (hmB a xs) = nrV (a :: xs))) := by
    unfold hmB
    by_cases e : ldS (a :: xs) = true
    · rw [if_pos e]
      exact ⟨n2, nk, .inl ⟨rfl, s1 e⟩, .inl ⟨n3, rfl⟩⟩
    · rw [if_neg e]
      have e2 : ldS (a :: xs) = false := by simpa using e
      have q := fQ_fN (nrV (a :: xs)) nl
      refine ⟨(fFin_fN _ nl).trans n2, fun g => nk ((fK_fN _ nl).symm.trans g), .inr ⟨q, s2 e2⟩, .inr ⟨?_, fN_fN13 _ nl⟩⟩
      rw [fS_fN _ nl, n3]
      rfl
  obtain ⟨k1, k2, k3, k4⟩ := key
  obtain ⟨m1, _⟩ := house_make a (hmB a xs) xs hl h h0 (hmB_lt a xs) k1 k2 k3
  exact ⟨h0, k1, k2, m1, k3, k4⟩

end Go.Proofs.YtimejpbmehegeaaGreatDoor

/- A matrix mirrored, column by column; its square. Ahead of stage 13. -/
namespace Go.Proofs.YtimejpbmehegeaaGreatDoor

/-- A column's numbers from row i on; mirrored; a matrix with its columns from k on mirrored. -/
def colL (c : Nat) (S : List Nat) (i n q : Nat) : List Nat := (List.range n).map (fun j => elM c S (i + j) q)
def apL (c : Nat) (S : List Nat) (i q : Nat) (vs : List Nat) (tau : Nat) : List Nat := apV (mV tau (dtV 0 vs (colL c S i vs.length q))) vs (colL c S i vs.length q)
def apM (r c : Nat) (S : List Nat) (i k : Nat) (vs : List Nat) (tau : Nat) : List Nat := mkM r c (fun p q => if k ≤ q ∧ i ≤ p ∧ p < i + vs.length then (apL c S i q vs tau).getD (p - i) 0 else elM c S p q)
theorem colL_len (c : Nat) (S : List Nat) (i n q : Nat) : (colL c S i n q).length = n := by simp [colL]
theorem apM_len (r c : Nat) (S : List Nat) (i k : Nat) (vs : List Nat) (tau : Nat) : (apM r c S i k vs tau).length = r * c := mkM_len _ _ _
theorem apV_len (t : Nat) : ∀ (vs ys : List Nat), vs.length = ys.length → (apV t vs ys).length = vs.length := by
  intro vs
  induction vs with
  | nil => intro ys _; rfl
  | cons v vs ih =>
    intro ys h
    match ys with
    | [] => cases h
    | y :: ys =>
      show (apV t vs ys).length + 1 = vs.length + 1
      rw [ih ys (by simpa using h)]
theorem apL_len (c : Nat) (S : List Nat) (i q : Nat) (vs : List Nat) (tau : Nat) : (apL c S i q vs tau).length = vs.length := apV_len _ _ _ (colL_len _ _ _ _ _).symm
theorem apV_at (t : Nat) : ∀ (vs ys : List Nat) (j : Nat), vs.length = ys.length → j < vs.length → (apV t vs ys).getD j 0 = aV (ys.getD j 0) (fN (mV t (vs.getD j 0))) := by
  intro vs
  induction vs with
  | nil => intro ys j _ hj; exact absurd hj (Nat.not_lt_zero j)
  | cons v vs ih =>
    intro ys j h hj
    match ys with
    | [] => cases h
    | y :: ys =>
      match j with
      | 0 => rfl
      | j + 1 => exact ih ys j (by simpa using h) (by simpa using hj)
theorem colL_at (c : Nat) (S : List Nat) (i n q : Nat) {j : Nat} (hj : j < n) : (colL c S i n q).getD j 0 = elM c S (i + j) q := by
  simp [colL, List.getD_eq_getElem?_getD, hj]
theorem el_ap (r c : Nat) (S : List Nat) (i k : Nat) (vs : List Nat) (tau : Nat) {p q : Nat} (hp : p < r) (hq : q < c) : elM c (apM r c S i k vs tau) p q = if k ≤ q ∧ i ≤ p ∧ p < i + vs.length then (apL c S i q vs tau).getD (p - i) 0 else elM c S p q := el_mk r c _ hp hq

/-- The square of a list, in units. -/
theorem sum_range (f : Nat → Nat) (n : Nat) : sumQ ((List.range n).map f) = ((smI (fun j => fZ (f j) * fZ (f j)) n : Int) : Rat) * p2 (-2148) := by
  induction n with
  | zero => show (0 : Rat) = ((0 : Int) : Rat) * _; rw [show ((0 : Int) : Rat) = 0 from rfl, Rat.zero_mul]
  | succ n ih =>
    rw [List.range_succ, List.map_append, List.map_cons, List.map_nil, sumQ_snoc, ih]
    show _ = (((smI (fun j => fZ (f j) * fZ (f j)) n + fZ (f n) * fZ (f n) : Int)) : Rat) * p2 (-2148)
    rw [Rat.intCast_add, Rat.intCast_mul, Rat.add_mul, p2_split]
    unfold fQ
    grind
theorem list_range (L : List Nat) : L = (List.range L.length).map (fun j => L.getD j 0) := by
  refine List.ext_getElem (by simp) (fun j h1 h2 => ?_)
  simp [List.getD_eq_getElem?_getD, h1]
theorem sum_list (L : List Nat) : sumQ L = ((smI (fun j => fZ (L.getD j 0) * fZ (L.getD j 0)) L.length : Int) : Rat) * p2 (-2148) := by
  conv => lhs; rw [list_range L]
  exact sum_range (fun j => L.getD j 0) L.length
theorem n38 : ((2 ^ 38 : Int) : Rat) = 274877906944 := by
  rw [show (2 ^ 38 : Int) = 274877906944 from rfl]
  rfl
/-- What is known of two squares, in whole numbers. -/
theorem sums_int {L M : List Nat} (hl : L.length = M.length) (h : 274877906944 * ab (sumQ L - sumQ M) ≤ sumQ M) :
    ((smI (fun j => fZ (L.getD j 0) * fZ (L.getD j 0)) M.length - smI (fun j => fZ (M.getD j 0) * fZ (M.getD j 0)) M.length).natAbs : Int) * 2 ^ 38 ≤ smI (fun j => fZ (M.getD j 0) * fZ (M.getD j 0)) M.length := by
  rw [sum_list L, sum_list M, hl] at h
  generalize smI (fun j => fZ (L.getD j 0) * fZ (L.getD j 0)) M.length = A at *
  generalize smI (fun j => fZ (M.getD j 0) * fZ (M.getD j 0)) M.length = B at *
  refine int_form (N := 2 ^ 38) (p2_pos (-2148)) ?_
  rw [n38]
  rw [show ((A - B : Int) : Rat) * p2 (-2148) = (A : Rat) * p2 (-2148) - (B : Rat) * p2 (-2148) by rw [Rat.intCast_sub]; grind]
  exact h

/-- A number less a nought. -/
theorem less_nought (t v y : Nat) (ft : fFin t = true) (t0 : fQ t = 0) (fv : fFin v = true) (fy : fFin y = true) (hy : ab (fQ y) ≤ p2 900) :
    fFin (aV y (fN (mV t v))) = true ∧ 9007199254740992 * ab (fQ (aV y (fN (mV t v))) - fQ y) ≤ ab (fQ y) := by
  obtain ⟨m1, m2⟩ := mul_noughts t v ft fv (by rw [t0, Rat.zero_mul])
  have n1 : fFin (fN (mV t v)) = true := by rw [fFin_fN _ (mV_lt _ _)]; exact m1
  have n2 : fQ (fN (mV t v)) = 0 := by rw [fQ_fN _ (mV_lt _ _), m2]; grind
  have hs : fQ y + fQ (fN (mV t v)) = fQ y := by rw [n2]; grind
  have f := add_fin y (fN (mV t v)) fy n1 (by rw [hs]; have := p2_lt (show (900 : Int) < 1023 by omega); grind)
  have e := add_err y (fN (mV t v)) fy n1 f
  rw [hs] at e
  exact ⟨f, e⟩

theorem one_nought {u y : Rat} (h : 9007199254740992 * ab (u - y) ≤ ab y) : 274877906944 * ab (u * u - y * y) ≤ y * y := by
  have e : u * u - y * y = (u - y) * (u + y) := by grind
  have ay : ab y * ab y = y * y := by rw [← ab_mul]; exact ab_pos (sq_nonneg y)
  have h1 : ab (u + y) ≤ ab (u - y) + 2 * ab y := by
    have l1 := le_ab (u - y); have l2 := le_ab y
    exact ab_le (by grind) (by grind)
  have a0 := ab_0 (u - y); have y0 := ab_0 y
  have h2 : ab (u + y) ≤ 3 * ab y := by grind
  have h3 := Rat.mul_le_mul_of_nonneg_left h2 a0
  have h4 := Rat.mul_le_mul_of_nonneg_right h y0
  rw [e, ab_mul, ← ay]
  generalize ab (u - y) * ab (u + y) = A at *
  generalize ab (u - y) = B at *
  generalize ab y = C at *
  have h5 : 0 ≤ C * C := Rat.mul_nonneg y0 y0
  have e1 : 9007199254740992 * B * C = 9007199254740992 * (B * C) := by grind
  have e2 : B * (3 * C) = 3 * (B * C) := by grind
  rw [e1] at h4
  rw [e2] at h3
  generalize B * C = D at *
  generalize C * C = E at *
  grind

/-- Mirrored by a nought the numbers stay. -/
theorem nought_col (t : Nat) (ft : fFin t = true) (t0 : fQ t = 0) : ∀ (vs ys : List Nat), vs.length = ys.length → (∀ v ∈ vs, fFin v = true) → (∀ y ∈ ys, fFin y = true ∧ ab (fQ y) ≤ p2 900) →
    (∀ u ∈ apV t vs ys, fFin u = true) ∧ 274877906944 * ab (sumQ (apV t vs ys) - sumQ ys) ≤ sumQ ys := by
  intro vs
  induction vs with
  | nil =>
    intro ys h _ _
    match ys with
    | [] => exact ⟨fun u hu => (by cases hu), (by show 274877906944 * ab (0 - 0 : Rat) ≤ 0; unfold ab; grind)⟩
    | y :: ys => cases h
  | cons v vs ih =>
    intro ys h hv hy
    match ys with
    | [] => cases h
    | y :: ys =>
      obtain ⟨i1, i2⟩ := ih ys (by simpa using h) (fun x hx => hv x (List.mem_cons_of_mem _ hx)) (fun x hx => hy x (List.mem_cons_of_mem _ hx))
      obtain ⟨l1, l2⟩ := less_nought t v y ft t0 (hv v List.mem_cons_self) (hy y List.mem_cons_self).1 (hy y List.mem_cons_self).2
      have l3 := one_nought l2
      refine ⟨fun u hu => ?_, ?_⟩
      · rcases List.mem_cons.1 hu with rfl | hu
        · exact l1
        · exact i1 u hu
      · show 274877906944 * ab (fQ (aV y (fN (mV t v))) * fQ (aV y (fN (mV t v))) + sumQ (apV t vs ys) - (fQ y * fQ y + sumQ ys)) ≤ fQ y * fQ y + sumQ ys
        generalize fQ (aV y (fN (mV t v))) * fQ (aV y (fN (mV t v))) = A at *
        generalize fQ y * fQ y = B at *
        generalize sumQ (apV t vs ys) = C at *
        generalize sumQ ys = D at *
        have := ab_add (A - B) (C - D)
        rw [show A - B + (C - D) = A + C - (B + D) by grind] at this
        grind

theorem s1_len (B : Rat) : ∀ (ys : List Nat), (∀ y ∈ ys, ab (fQ y) ≤ B) → s1Q ys ≤ (ys.length : Rat) * B := by
  intro ys
  induction ys with
  | nil => intro _; show (0 : Rat) ≤ ((0 : Nat) : Rat) * B; rw [show ((0 : Nat) : Rat) = 0 from rfl, Rat.zero_mul]; exact Rat.le_refl
  | cons y ys ih =>
    intro h
    have h1 := h y List.mem_cons_self
    have h2 := ih (fun x hx => h x (List.mem_cons_of_mem _ hx))
    show ab (fQ y) + s1Q ys ≤ ((ys.length + 1 : Nat) : Rat) * B
    rw [Rat.natCast_add, show ((1 : Nat) : Rat) = 1 from rfl]
    grind

/-- What makes a mirror, or leaves all as it is. -/
def MrF (vs : List Nat) (tau : Nat) : Prop := fFin tau = true ∧ (∀ v ∈ vs, fFin v = true ∧ 1000 * ab (fQ v) ≤ 1001) ∧ ((1000 * ab (fQ tau) ≤ 2001 ∧ 8796093022208 * ab (fQ tau * sumQ vs - 2) ≤ 1) ∨ fQ tau = 0)

theorem tame_parts {ys : List Nat} (h : TameV 200 ys) (hl : ys.length ≤ 6) : (∀ y ∈ ys, fFin y = true ∧ ab (fQ y) ≤ p2 900) ∧ s1Q ys ≤ p2 210 ∧ ((∀ y ∈ ys, fQ y = 0) ∨ p2 (-200) ≤ s1Q ys) := by
  have hs : ∀ y ∈ ys, ab (fQ y) ≤ p2 200 := fun y hy => (tame_size 200 y (h y hy).1 (h y hy).2.1 (h y hy).2.2).1
  refine ⟨fun y hy => ⟨(h y hy).2.1, Rat.le_trans (hs y hy) (p2_mono (by omega))⟩, ?_, ?_⟩
  · have h1 := s1_len (p2 200) ys hs
    have h2 : (ys.length : Rat) ≤ 6 := by
      rw [show (6 : Rat) = ((6 : Nat) : Rat) from rfl]
      exact Rat.natCast_le_natCast.2 hl
    have h3 := Rat.mul_le_mul_of_nonneg_right h2 (Rat.le_of_lt (p2_pos 200))
    have e : p2 210 = p2 200 * 1024 := by rw [show (210 : Int) = 200 + 10 by omega, p2_add]; rfl
    have := p2_pos 200
    rw [e]
    grind
  · by_cases g : ∀ y ∈ ys, fK y = 0
    · exact .inl (fun y hy => fQ_nought y (g y hy))
    · right
      obtain ⟨y, hy, g⟩ : ∃ y, y ∈ ys ∧ fK y ≠ 0 := by
        apply Classical.byContradiction
        intro hh
        exact g (fun y hy => Classical.byContradiction (fun k => hh ⟨y, hy, k⟩))
      exact Rat.le_trans ((tame_size 200 y (h y hy).1 (h y hy).2.1 (h y hy).2.2).2 g) (s1_mem ys y hy)

/-- A column mirrored keeps its square. -/
theorem col_keep (vs ys : List Nat) (tau : Nat) (hl : vs.length ≤ 6) (hlen : vs.length = ys.length) (hy : TameV 200 ys) (hM : MrF vs tau) :
    (∀ u ∈ apV (mV tau (dtV 0 vs ys)) vs ys, fFin u = true) ∧ 274877906944 * ab (sumQ (apV (mV tau (dtV 0 vs ys)) vs ys) - sumQ ys) ≤ sumQ ys := by
  obtain ⟨ft, hv, hM⟩ := hM
  obtain ⟨t1, t2, t3⟩ := tame_parts hy (by omega)
  have fv : ∀ v ∈ vs, fFin v = true := fun v h => (hv v h).1
  have fy : ∀ y ∈ ys, fFin y = true := fun y h => (t1 y h).1
  have fd : fFin (dtV 0 vs ys) = true := by
    refine (dot_err0 (p2 800) vs ys (by omega) (p2_mono (by omega)) ?_ fv fy ?_).1
    · have e : p2 800 = p2 (-1075) * p2 1875 := by rw [← p2_add]; rfl
      have e2 : (36028797018963968 : Rat) ≤ p2 1875 := by
        have : p2 55 ≤ p2 1875 := p2_mono (by omega)
        rwa [show p2 55 = 36028797018963968 from rfl] at this
      have := Rat.mul_le_mul_of_nonneg_left e2 (Rat.le_of_lt (p2_pos (-1075)))
      rw [e]
      grind
    · have h1 := da_le vs ys (fun v h => (hv v h).2)
      have h2 : p2 210 * 1024 ≤ p2 800 := by
        have : p2 220 ≤ p2 800 := p2_mono (by omega)
        rwa [show (220 : Int) = 210 + 10 by omega, p2_add, show p2 10 = 1024 from rfl] at this
      have := s1Q_0 ys
      grind
  have nought : fQ (mV tau (dtV 0 vs ys)) = 0 → fFin (mV tau (dtV 0 vs ys)) = true → (∀ u ∈ apV (mV tau (dtV 0 vs ys)) vs ys, fFin u = true) ∧ 274877906944 * ab (sumQ (apV (mV tau (dtV 0 vs ys)) vs ys) - sumQ ys) ≤ sumQ ys :=
    fun e f => nought_col _ f e vs ys hlen fv t1
  rcases hM with ⟨ht, htv⟩ | t0
  · rcases t3 with g | g
    · have d0 := (dot_noughts vs ys 0 fin_zero12 fQ_zero12 fv (fun y h => ⟨fy y h, g y h⟩)).2
      obtain ⟨m1, m2⟩ := mul_noughts tau (dtV 0 vs ys) ft fd (by rw [d0, Rat.mul_zero])
      exact nought m2 m1
    · refine house_col tau vs ys hl hlen ft ht hv fy htv (Rat.le_trans t2 (p2_mono (by omega))) ?_
      have e : (1267650600228229401496703205376 : Rat) * p2 (-1075) = p2 (-975) := by
        rw [show (1267650600228229401496703205376 : Rat) = p2 100 from rfl, ← p2_add]
        rfl
      rw [e]
      exact Rat.le_trans (p2_mono (by omega)) g
  · obtain ⟨m1, m2⟩ := mul_noughts tau (dtV 0 vs ys) ft fd (by rw [t0, Rat.zero_mul])
    exact nought m2 m1

end Go.Proofs.YtimejpbmehegeaaGreatDoor

/- A matrix mirrored keeps its square; a vector mirrored by its own mirror. Ahead of stage 13. -/
namespace Go.Proofs.YtimejpbmehegeaaGreatDoor

theorem col_tame {r c : Nat} {S : List Nat} {i n q : Nat} (hi : i + n ≤ r) (hq : q < c) (hT : ∀ p q, p < r → q < c → elM c S p q < 18446744073709551616 ∧ fFin (elM c S p q) = true ∧ (fK (elM c S p q) = 0 ∨ (-200 ≤ eX (elM c S p q) ∧ eX (elM c S p q) < 200))) : TameV 200 (colL c S i n q) := by
  intro x hx
  obtain ⟨j, hj, rfl⟩ := List.mem_map.1 hx
  exact hT (i + j) q (by have := List.mem_range.1 hj; omega) hq

/-- A matrix whose last rows are mirrored has the same square, but for a part in 2^38. -/
theorem ap_keep {r c : Nat} {S : List Nat} {i : Nat} {vs : List Nat} {tau : Nat} (hS : S.length = r * c) (hr : r ≤ 6) (hi : i + vs.length = r) (hM : MrF vs tau) (hT : ∀ p q, p < r → q < c → elM c S p q < 18446744073709551616 ∧ fFin (elM c S p q) = true ∧ (fK (elM c S p q) = 0 ∨ (-200 ≤ eX (elM c S p q) ∧ eX (elM c S p q) < 200))) :
    ((sqZ (apM r c S i 0 vs tau) - sqZ S).natAbs : Int) * 2 ^ 38 ≤ sqZ S := by
  rw [sqZ_grid r c _ (apM_len r c S i 0 vs tau), sqZ_grid r c S hS, smI_swap (fun p q => fZ (elM c (apM r c S i 0 vs tau) p q) * fZ (elM c (apM r c S i 0 vs tau) p q)) r c, smI_swap (fun p q => fZ (elM c S p q) * fZ (elM c S p q)) r c, ← smI_sub]
  refine smI_small (Int.le_of_lt (Int.pow_pos (show (0 : Int) < 2 by decide))) c (fun q hq => ?_)
  obtain ⟨_, h⟩ := col_keep vs (colL c S i vs.length q) tau (by omega) (colL_len _ _ _ _ _).symm (col_tame (by omega) hq hT) hM
  have h1 := sums_int (L := apL c S i q vs tau) (M := colL c S i vs.length q) (by rw [apL_len, colL_len]) h
  rw [colL_len] at h1
  have e1 : smI (fun j => fZ ((colL c S i vs.length q).getD j 0) * fZ ((colL c S i vs.length q).getD j 0)) vs.length = smI (fun j => fZ (elM c S (i + j) q) * fZ (elM c S (i + j) q)) vs.length := smI_congr _ (fun j hj => by rw [colL_at c S i vs.length q hj])
  have e2 : smI (fun j => fZ ((apL c S i q vs tau).getD j 0) * fZ ((apL c S i q vs tau).getD j 0)) vs.length = smI (fun j => fZ (elM c (apM r c S i 0 vs tau) (i + j) q) * fZ (elM c (apM r c S i 0 vs tau) (i + j) q)) vs.length := smI_congr _ (fun j hj => by
    rw [el_ap r c S i 0 vs tau (show i + j < r by omega) hq, if_pos ⟨Nat.zero_le _, by omega, by omega⟩, show i + j - i = j by omega])
  rw [e1, e2] at h1
  have a1 := smI_app (fun p => fZ (elM c (apM r c S i 0 vs tau) p q) * fZ (elM c (apM r c S i 0 vs tau) p q)) i vs.length
  have a2 := smI_app (fun p => fZ (elM c S p q) * fZ (elM c S p q)) i vs.length
  have a3 : smI (fun p => fZ (elM c (apM r c S i 0 vs tau) p q) * fZ (elM c (apM r c S i 0 vs tau) p q)) i = smI (fun p => fZ (elM c S p q) * fZ (elM c S p q)) i := smI_congr _ (fun p hp => by
    rw [el_ap r c S i 0 vs tau (show p < r by omega) hq, if_neg (fun g => by omega)])
  have a4 : 0 ≤ smI (fun p => fZ (elM c S p q) * fZ (elM c S p q)) i := smI_nonneg _ (fun _ _ => sq_ge _)
  rw [hi] at a1 a2
  show ((smI (fun p => fZ (elM c (apM r c S i 0 vs tau) p q) * fZ (elM c (apM r c S i 0 vs tau) p q)) r - smI (fun p => fZ (elM c S p q) * fZ (elM c S p q)) r).natAbs : Int) * 2 ^ 38 ≤ smI (fun p => fZ (elM c S p q) * fZ (elM c S p q)) r
  rw [a1, a2, a3]
  generalize smI (fun p => fZ (elM c S p q) * fZ (elM c S p q)) i = X at *
  generalize smI (fun j => fZ (elM c S (i + j) q) * fZ (elM c S (i + j) q)) vs.length = Y at *
  generalize smI (fun j => fZ (elM c (apM r c S i 0 vs tau) (i + j) q) * fZ (elM c (apM r c S i 0 vs tau) (i + j) q)) vs.length = Z at *
  rw [show X + Z - (X + Y) = Z - Y by omega]
  omega

theorem mem_el {c : Nat} {S : List Nat} {r : Nat} (hS : S.length = r * c) {x : Nat} (hx : x ∈ S) : ∃ p q, p < r ∧ q < c ∧ x = elM c S p q := by
  obtain ⟨p, hp, rfl⟩ := List.getElem_of_mem hx
  have hp' := hp
  rw [hS] at hp'
  have hc0 : 0 < c := by
    rcases Nat.eq_zero_or_pos c with h | h
    · rw [h, Nat.mul_zero] at hp'; omega
    · exact h
  refine ⟨p / c, p % c, Nat.div_lt_of_lt_mul (by rw [Nat.mul_comm]; exact hp'), Nat.mod_lt _ hc0, ?_⟩
  unfold elM
  rw [Nat.mul_comm, Nat.div_add_mod, List.getD_eq_getElem?_getD, List.getElem?_eq_getElem hp]
  rfl
/-- Its numbers are finite. -/
theorem ap_fin {r c : Nat} {S : List Nat} {i k : Nat} {vs : List Nat} {tau : Nat} (hr : r ≤ 6) (hi : i + vs.length ≤ r) (hM : MrF vs tau) (hT : ∀ p q, p < r → q < c → elM c S p q < 18446744073709551616 ∧ fFin (elM c S p q) = true ∧ (fK (elM c S p q) = 0 ∨ (-200 ≤ eX (elM c S p q) ∧ eX (elM c S p q) < 200))) :
    ∀ x ∈ apM r c S i k vs tau, fFin x = true := by
  intro x hx
  obtain ⟨p, q, hp, hq, rfl⟩ := mem_el (apM_len r c S i k vs tau) hx
  rw [el_ap r c S i k vs tau hp hq]
  split
  · rename_i g
    obtain ⟨h, _⟩ := col_keep vs (colL c S i vs.length q) tau (by omega) (colL_len _ _ _ _ _).symm (col_tame hi hq hT) hM
    have hj : p - i < (apL c S i q vs tau).length := by rw [apL_len]; omega
    rw [List.getD_eq_getElem?_getD, List.getElem?_eq_getElem hj]
    exact h _ (List.getElem_mem hj)
  · exact (hT p q hp hq).2.1

/-- What the mirror of tame numbers is. -/
theorem mr_MrF (xs : List Nat) (hx : xs ≠ []) (hl : xs.length ≤ 64) (h : TameV 200 xs) : MrF (mrV xs) (mrT xs) ∧ mrK xs = true := by
  match xs, hx with
  | a :: xs, _ =>
    have one : fFin 4607182418800017408 = true ∧ 1000 * ab (fQ 4607182418800017408) ≤ 1001 := ⟨fin_one12, by rw [fQ_one12]; unfold ab; grind⟩
    cases hn : ngt xs
    · obtain ⟨h0, k1, k2, m1, k3, _⟩ := mr_facts a xs hl h hn
      obtain ⟨f1, f2, f3, f4, f5, f6, _⟩ := house_facts a (hmB a xs) (hmD a xs) (dV (aV (hmB a xs) (fN a)) (hmB a xs)) xs (xs.map (fun x => dV x (hmD a xs))) hl h h0 (hmB_lt a xs) k1 k2 k3 rfl rfl rfl
      have e1 : mrV (a :: xs) = 4607182418800017408 :: xs.map (fun x => dV x (hmD a xs)) := by
        show 4607182418800017408 :: xs.map (fun x => if ngt xs = true then 0 else dV x (hmD a xs)) = _
        rw [hn]
        simp
      have e2 : mrT (a :: xs) = dV (aV (hmB a xs) (fN a)) (hmB a xs) := if_neg (by rw [hn]; decide)
      rw [e1, e2]
      refine ⟨⟨f1, f5, .inl ⟨f2, f6⟩⟩, ?_⟩
      show (ngt xs || (fFin (hmB a xs) && fFin (hmD a xs))) = true
      rw [k1, m1, Bool.and_self, Bool.or_true]
    · have e2 : mrT (a :: xs) = 0 := if_pos hn
      rw [e2]
      refine ⟨⟨fin_zero12, fun v hv => ?_, .inr fQ_zero12⟩, ?_⟩
      · rcases List.mem_cons.1 hv with rfl | hv
        · exact one
        · obtain ⟨x, _, rfl⟩ := List.mem_map.1 hv
          show fFin (if ngt xs = true then 0 else _) = true ∧ 1000 * ab (fQ (if ngt xs = true then 0 else _)) ≤ 1001
          rw [hn, if_pos rfl, fQ_zero12, ab_zero12]
          exact ⟨fin_zero12, by grind⟩
      · show (ngt xs || (fFin (hmB a xs) && fFin (hmD a xs))) = true
        rw [hn, Bool.true_or]

end Go.Proofs.YtimejpbmehegeaaGreatDoor

/- The reference of layer 10: Eye, In. -/
namespace Go.Proofs.YtimejpbmehegeaaGreatDoor
open Go.RowKit
attribute [local go_sem ↓] Go.wp_at_zero Go.wp_at_succ
theorem NewM.any {w : World} {r c : Nat} {S : List Nat} {ao : Option Addr} {cap : Nat} (h : BitsAt w ao cap (mxL S)) : NewM 0 w r c S (.agg #[.int .i64 r, .int .i64 c, .slice ao S.length cap]) := by
  refine ⟨ao, cap, rfl, ?_, h⟩
  rcases h.2.2 with e | ⟨b, off, e1, _, _⟩
  · exact .inl e
  · exact .inr ⟨b, off, e1, Nat.zero_le _⟩

end Go.Proofs.YtimejpbmehegeaaGreatDoor

