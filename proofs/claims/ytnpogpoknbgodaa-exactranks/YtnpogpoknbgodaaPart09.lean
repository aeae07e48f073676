/- Part 9 of the texts. -/
import Derived.Test.YtnpogpoknbgodaaPart01
import Derived.Test.YtnpogpoknbgodaaPart08
import Derived.Test.YtnpogpoknbgodaaPart05
/- Determinants by the first row, over whole numbers: rows are functions of the column, columns a list. No program. -/
namespace Go.Proofs.Ytnpogpoknbgodaa

/-- The sum over the places of cs, the sign turning: r there, times D of the rest. -/
def exD (r : Nat → Int) : List Nat → (List Nat → Int) → Int
  | [], _ => 0
  | c :: cs, D => r c * D cs - exD r cs (fun l => D (c :: l))

def detD : List (Nat → Int) → List Nat → Int
  | [], _ => 1
  | r :: rs, cs => exD r cs (detD rs)

theorem exD_congr (r : Nat → Int) : ∀ (cs : List Nat) (D E : List Nat → Int), (∀ l, l.Sublist cs → l.length + 1 = cs.length → D l = E l) → exD r cs D = exD r cs E
  | [], _, _, _ => rfl
  | c :: cs, D, E, h => by
    unfold exD
    rw [h cs (List.sublist_cons_self c cs) rfl, exD_congr r cs (fun l => D (c :: l)) (fun l => E (c :: l)) (fun l h1 h2 => h (c :: l) (h1.cons_cons c) (by simp; omega))]

theorem exD_row (r s : Nat → Int) : ∀ (cs : List Nat) (D : List Nat → Int), (∀ c ∈ cs, r c = s c) → exD r cs D = exD s cs D
  | [], _, _ => rfl
  | c :: cs, D, h => by
    unfold exD
    rw [h c (by simp), exD_row r s cs _ (fun c hc => h c (by simp [hc]))]

theorem exD_lin (r : Nat → Int) (p q : Int) : ∀ (cs : List Nat) (D E : List Nat → Int), exD r cs (fun l => p * D l + q * E l) = p * exD r cs D + q * exD r cs E
  | [], _, _ => by simp [exD]
  | c :: cs, D, E => by
    unfold exD
    rw [exD_lin r p q cs (fun l => D (c :: l)) (fun l => E (c :: l))]
    grind

theorem exD_smul (r : Nat → Int) (p : Int) (cs : List Nat) (D : List Nat → Int) : exD r cs (fun l => p * D l) = p * exD r cs D := by
  have := exD_lin r p 0 cs D D
  simpa using this

theorem exD_linrow (r s : Nat → Int) (p q : Int) : ∀ (cs : List Nat) (D : List Nat → Int), exD (fun c => p * r c + q * s c) cs D = p * exD r cs D + q * exD s cs D
  | [], _ => by simp [exD]
  | c :: cs, D => by
    unfold exD
    rw [exD_linrow r s p q cs (fun l => D (c :: l))]
    grind

theorem exD_zero (r : Nat → Int) (cs : List Nat) : exD r cs (fun _ => 0) = 0 := by
  have := exD_smul r 0 cs (fun _ => 0)
  simpa using this

/-- Two sums change places. -/
theorem exD_fubini (r s : Nat → Int) : ∀ (cs ks : List Nat) (F : List Nat → List Nat → Int), exD r cs (fun l => exD s ks (fun m => F l m)) = exD s ks (fun m => exD r cs (fun l => F l m))
  | [], ks, F => (exD_zero s ks).symm
  | c :: cs, ks, F => by
    have h := exD_lin s (r c) (-1) ks (fun m => F cs m) (fun m => exD r cs (fun l => F (c :: l) m))
    have e : exD s ks (fun m => exD r (c :: cs) (fun l => F l m)) = exD s ks (fun m => r c * F cs m + -1 * exD r cs (fun l => F (c :: l) m)) := by
      congr 1
      funext m
      show r c * F cs m - exD r cs (fun l => F (c :: l) m) = _
      omega
    rw [e, h, ← exD_fubini r s cs ks (fun l m => F (c :: l) m)]
    show r c * exD s ks (fun m => F cs m) - exD r cs (fun l => exD s ks (fun m => F (c :: l) m)) = _
    omega

/-- Two rows that follow one another change places: the sign turns. -/
theorem exD_swap (r s : Nat → Int) : ∀ (cs : List Nat) (D : List Nat → Int), exD r cs (fun l => exD s l D) = - exD s cs (fun l => exD r l D)
  | [], _ => by simp [exD]
  | c :: cs, D => by
    have step : ∀ r s : Nat → Int, exD r (c :: cs) (fun l => exD s l D) = r c * exD s cs D - s c * exD r cs D + exD r cs (fun l => exD s l (fun m => D (c :: m))) := by
      intro r s
      have e : exD r cs (fun l => exD s (c :: l) D) = s c * exD r cs D + -1 * exD r cs (fun l => exD s l (fun m => D (c :: m))) := by
        rw [← exD_lin]
        congr 1
        funext l
        show s c * D l - exD s l (fun m => D (c :: m)) = _
        omega
      show r c * exD s cs D - exD r cs (fun l => exD s (c :: l) D) = _
      rw [e]
      omega
    rw [step r s, step s r, exD_swap r s cs (fun m => D (c :: m))]
    omega

theorem detD_cons (r : Nat → Int) (rs : List (Nat → Int)) (cs : List Nat) : detD (r :: rs) cs = exD r cs (detD rs) := rfl

theorem detD_swap (r s : Nat → Int) (rs : List (Nat → Int)) (cs : List Nat) : detD (r :: s :: rs) cs = - detD (s :: r :: rs) cs := by
  show exD r cs (fun l => exD s l (detD rs)) = - exD s cs (fun l => exD r l (detD rs))
  exact exD_swap r s cs (detD rs)

theorem detD_same (r : Nat → Int) (rs : List (Nat → Int)) (cs : List Nat) : detD (r :: r :: rs) cs = 0 := by
  have := detD_swap r r rs cs
  omega

/-- What holds behind a beginning holds with it: a factor. -/
theorem detD_pre (p : Int) (rs ss : List (Nat → Int)) (h : ∀ cs, detD rs cs = p * detD ss cs) : ∀ (pre : List (Nat → Int)) (cs : List Nat), detD (pre ++ rs) cs = p * detD (pre ++ ss) cs
  | [], cs => h cs
  | r :: pre, cs => by
    show exD r cs (detD (pre ++ rs)) = p * exD r cs (detD (pre ++ ss))
    rw [← exD_smul]
    congr 1
    funext l
    exact detD_pre p rs ss h pre l

/-- The other order of rows: the same but for the sign. -/
theorem detD_perm {rs ss : List (Nat → Int)} (h : rs.Perm ss) : ∃ p : Int, (p = 1 ∨ p = -1) ∧ ∀ cs, detD rs cs = p * detD ss cs := by
  induction h with
  | nil => exact ⟨1, .inl rfl, fun cs => by simp⟩
  | cons r _ ih =>
    obtain ⟨p, hp, h⟩ := ih
    exact ⟨p, hp, fun cs => detD_pre p _ _ h [r] cs⟩
  | swap r s l => exact ⟨-1, .inr rfl, fun cs => by rw [detD_swap s r l cs]; omega⟩
  | trans _ _ ih1 ih2 =>
    obtain ⟨p, hp, h⟩ := ih1
    obtain ⟨q, hq, g⟩ := ih2
    refine ⟨p * q, ?_, fun cs => by rw [h cs, g cs, Int.mul_assoc]⟩
    rcases hp with rfl | rfl <;> rcases hq with rfl | rfl <;> simp

/-- A row that stands twice: 0. -/
theorem detD_twice (r : Nat → Int) (rs : List (Nat → Int)) (pre mid : List (Nat → Int)) (cs : List Nat) : detD (pre ++ r :: (mid ++ r :: rs)) cs = 0 := by
  have hp : (pre ++ r :: (mid ++ r :: rs)).Perm (r :: r :: (pre ++ (mid ++ rs))) := by
    have h1 : (mid ++ r :: rs).Perm (r :: (mid ++ rs)) := List.perm_middle
    have h2 : (pre ++ r :: (mid ++ r :: rs)).Perm (r :: (pre ++ (mid ++ r :: rs))) := List.perm_middle
    refine h2.trans (List.Perm.cons r ?_)
    refine (List.Perm.append_left pre h1).trans ?_
    exact List.perm_middle
  obtain ⟨p, _, h⟩ := detD_perm hp
  rw [h cs, detD_same]
  simp

/-- A row that is a sum: at any place. -/
theorem detD_lin (r s : Nat → Int) (p q : Int) (rs : List (Nat → Int)) : ∀ (pre : List (Nat → Int)) (cs : List Nat), detD (pre ++ (fun c => p * r c + q * s c) :: rs) cs = p * detD (pre ++ r :: rs) cs + q * detD (pre ++ s :: rs) cs
  | [], cs => exD_linrow r s p q cs (detD rs)
  | t :: pre, cs => by
    show exD t cs (detD (pre ++ (fun c => p * r c + q * s c) :: rs)) = p * exD t cs (detD (pre ++ r :: rs)) + q * exD t cs (detD (pre ++ s :: rs))
    rw [← exD_lin]
    congr 1
    funext l
    exact detD_lin r s p q rs pre l

/-- The last row brought to the front. -/
theorem detD_last (r : Nat → Int) : ∀ (rs : List (Nat → Int)) (cs : List Nat), detD (rs ++ [r]) cs = (-1) ^ rs.length * detD (r :: rs) cs
  | [], cs => by simp
  | s :: rs, cs => by
    have h : detD (s :: (rs ++ [r])) cs = (-1) ^ rs.length * detD (s :: r :: rs) cs := detD_pre _ (rs ++ [r]) (r :: rs) (fun cs => detD_last r rs cs) [s] cs
    show detD (s :: (rs ++ [r])) cs = _
    rw [h, detD_swap s r rs cs, List.length_cons, Int.pow_succ]
    grind

/-- Rows turned into columns: the same. -/
theorem detD_turn (a : Nat → Nat → Int) : ∀ (n : Nat) (R C : List Nat), R.length = n → C.length = n → detD (R.map (fun i => fun j => a i j)) C = detD (C.map (fun j => fun i => a i j)) R
  | 0, R, C, hR, hC => by
    obtain rfl := List.length_eq_zero_iff.1 hR
    obtain rfl := List.length_eq_zero_iff.1 hC
    rfl
  | 1, [i], [j], _, _ => by simp [detD, exD]
  | n + 2, i :: R, j :: C, hR, hC => by
    have ihs : ∀ R C : List Nat, R.length = n + 1 → C.length = n + 1 → detD (R.map (fun i => fun j => a i j)) C = detD (C.map (fun j => fun i => a i j)) R := detD_turn a (n + 1)
    have ih0 : ∀ R C : List Nat, R.length = n → C.length = n → detD (R.map (fun i => fun j => a i j)) C = detD (C.map (fun j => fun i => a i j)) R := detD_turn a n
    simp only [List.length_cons] at hR hC
    show exD (a i) (j :: C) (detD (R.map (fun i => fun j => a i j))) = exD (fun i => a i j) (i :: R) (detD (C.map (fun j => fun i => a i j)))
    unfold exD
    have hA : exD (a i) C (fun l => detD (R.map (fun i => fun j => a i j)) (j :: l)) = exD (a i) C (fun l => exD (fun i => a i j) R (fun k => detD (k.map (fun i => fun j => a i j)) l)) := by
      refine exD_congr _ _ _ _ (fun l hl hlen => ?_)
      rw [ihs R (j :: l) (by omega) (by simp; omega)]
      show exD (fun i => a i j) R (detD (l.map (fun j => fun i => a i j))) = _
      refine exD_congr _ _ _ _ (fun k hk hkl => ?_)
      exact (ih0 k l (by omega) (by omega)).symm
    have hB : exD (fun i => a i j) R (fun l => detD (C.map (fun j => fun i => a i j)) (i :: l)) = exD (fun i => a i j) R (fun k => exD (a i) C (fun l => detD (k.map (fun i => fun j => a i j)) l)) := by
      refine exD_congr _ _ _ _ (fun k hk hkl => ?_)
      rw [← ihs (i :: k) C (by simp; omega) (by omega)]
      rfl
    rw [hA, hB, exD_fubini, ihs R C (by omega) (by omega)]

end Go.Proofs.Ytnpogpoknbgodaa

/- Minors and the rank, over whole numbers. No program. -/
namespace Go.Proofs.Ytnpogpoknbgodaa

/-- Places that rise, all below m. -/
def Rise (m : Nat) (I : List Nat) : Prop := I.Pairwise (· < ·) ∧ ∀ i ∈ I, i < m

/-- The minor of the rows I and the columns C. -/
def minorD (a : Nat → Nat → Int) (I C : List Nat) : Int := detD (I.map a) C

/-- All minors of k rows and columns are 0. -/
def Van (k : Nat) (a : Nat → Nat → Int) (m n : Nat) : Prop := ∀ I C, Rise m I → Rise n C → I.length = k → C.length = k → minorD a I C = 0

/-- r is the rank. -/
def IsRank (r : Nat) (a : Nat → Nat → Int) (m n : Nat) : Prop := ¬ Van r a m n ∧ Van (r + 1) a m n

theorem Rise.sub {m : Nat} {I J : List Nat} (h : Rise m I) (hs : J.Sublist I) : Rise m J := ⟨h.1.sublist hs, fun i hi => h.2 i (hs.subset hi)⟩

theorem Van.succ {k : Nat} {a : Nat → Nat → Int} {m n : Nat} (h : Van k a m n) : Van (k + 1) a m n := by
  intro I C hI hC lI lC
  cases I with
  | nil => simp at lI
  | cons i I =>
    show exD (a i) C (detD (I.map a)) = 0
    rw [exD_congr (a i) C (detD (I.map a)) (fun _ => 0) (fun l hl hlen => ?_), exD_zero]
    simp only [List.length_cons] at lI
    exact h I l (hI.sub (List.sublist_cons_self i I)) (hC.sub hl) (by omega) (by omega)

theorem Van.le {k j : Nat} {a : Nat → Nat → Int} {m n : Nat} (h : Van k a m n) (hj : k ≤ j) : Van j a m n := by
  obtain ⟨d, rfl⟩ : ∃ d, j = k + d := ⟨j - k, by omega⟩
  clear hj
  induction d with
  | zero => exact h
  | succ d ih => exact ih.succ

theorem IsRank.unique {r s : Nat} {a : Nat → Nat → Int} {m n : Nat} (h : IsRank r a m n) (g : IsRank s a m n) : r = s := by
  rcases Nat.lt_trichotomy r s with hlt | e | hlt
  · exact absurd (h.2.le hlt) g.1
  · exact e
  · exact absurd (g.2.le hlt) h.1

theorem dup_split : ∀ (I : List Nat), ¬ I.Nodup → ∃ pre i mid post, I = pre ++ i :: (mid ++ i :: post)
  | [], h => absurd List.nodup_nil h
  | i :: I, h => by
    by_cases hi : i ∈ I
    · obtain ⟨s, t, rfl⟩ := List.append_of_mem hi
      exact ⟨[], i, s, t, rfl⟩
    · have : ¬ I.Nodup := fun hn => h (List.nodup_cons.2 ⟨hi, hn⟩)
      obtain ⟨pre, j, mid, post, e⟩ := dup_split I this
      exact ⟨i :: pre, j, mid, post, by rw [e]; rfl⟩

/-- All minors vanish, the rows in whatever order, also if some stand twice. -/
theorem Van.all {k : Nat} {a : Nat → Nat → Int} {m n : Nat} (h : Van k a m n) (I C : List Nat) (hI : ∀ i ∈ I, i < m) (hC : Rise n C) (lI : I.length = k) (lC : C.length = k) : minorD a I C = 0 := by
  by_cases hn : I.Nodup
  · have hp : (I.mergeSort (fun x y => decide (x ≤ y))).Perm I := List.mergeSort_perm I _
    have hs : (I.mergeSort (fun x y => decide (x ≤ y))).Pairwise (fun x y => decide (x ≤ y) = true) := List.pairwise_mergeSort (fun x y z h1 h2 => by simp at *; omega) (fun x y => by simp; omega) I
    have hn' : (I.mergeSort (fun x y => decide (x ≤ y))).Nodup := hp.nodup_iff.2 hn
    have hr : Rise m (I.mergeSort (fun x y => decide (x ≤ y))) := by
      refine ⟨?_, fun i hi => hI i (hp.mem_iff.1 hi)⟩
      have h2 := List.Pairwise.and hs hn'
      exact h2.imp (fun h => by simp at h; omega)
    obtain ⟨p, _, hd⟩ := detD_perm (hp.map a)
    have h0 := h _ C hr hC (by rw [hp.length_eq]; exact lI) lC
    unfold minorD at h0 ⊢
    have h1 := hd C
    rw [h0] at h1
    rcases (show p = 1 ∨ p = -1 by assumption) with rfl | rfl <;> omega
  · obtain ⟨pre, i, mid, post, rfl⟩ := dup_split I hn
    unfold minorD
    simp only [List.map_append, List.map_cons]
    exact detD_twice (a i) (post.map a) (pre.map a) (mid.map a) C

/-- Rows that are sums of one of a's and of a's d-th: no new minors. -/
theorem van_rows {k m n d : Nat} {a b : Nat → Nat → Int} (hd : d < m) (p q : Nat → Int) (h : ∀ i, i < m → ∀ c, b i c = p i * a i c + q i * a d c) (hv : Van k a m n) : Van k b m n := by
  intro I C hI hC lI lC
  have key : ∀ (J pre : List Nat), (∀ i ∈ pre, i < m) → (∀ i ∈ J, i < m) → pre.length + J.length = k → detD (pre.map a ++ J.map b) C = 0 := by
    intro J
    induction J with
    | nil =>
      intro pre hp _ hl
      simp only [List.map_nil, List.append_nil]
      exact hv.all pre C hp hC (by simpa using hl) lC
    | cons i J ih =>
      intro pre hp hJ hl
      have hb : b i = fun c => p i * a i c + q i * a d c := by funext c; exact h i (hJ i (by simp)) c
      rw [List.map_cons, hb, detD_lin]
      have e1 := ih (pre ++ [i]) (fun j hj => by rcases List.mem_append.1 hj with hj | hj; exact hp j hj; simp at hj; subst hj; exact hJ j (by simp)) (fun j hj => hJ j (by simp [hj])) (by simp at hl ⊢; omega)
      have e2 := ih (pre ++ [d]) (fun j hj => by rcases List.mem_append.1 hj with hj | hj; exact hp j hj; simp at hj; subst hj; exact hd) (fun j hj => hJ j (by simp [hj])) (by simp at hl ⊢; omega)
      simp only [List.map_append, List.map_cons, List.map_nil, List.append_assoc, List.singleton_append] at e1 e2
      rw [e1, e2]
      simp
  have := key I [] (by simp) hI.2 (by simpa using lI)
  simpa [minorD] using this

/-- The other way: where no factor is 0, nothing is lost. -/
theorem van_back {k m n d : Nat} {a b : Nat → Nat → Int} (hd : d < m) (p q : Nat → Int) (h : ∀ i, i < m → ∀ c, p i * a i c = b i c + q i * b d c) (hp0 : ∀ i, i < m → p i ≠ 0) (hv : Van k b m n) : Van k a m n := by
  intro I C hI hC lI lC
  have key : ∀ (J pre : List Nat), (∀ i ∈ pre, i < m) → (∀ i ∈ J, i < m) → pre.length + J.length = k → detD (pre.map b ++ J.map a) C = 0 := by
    intro J
    induction J with
    | nil =>
      intro pre hp _ hl
      simp only [List.map_nil, List.append_nil]
      exact hv.all pre C hp hC (by simpa using hl) lC
    | cons i J ih =>
      intro pre hp hJ hl
      have hi : i < m := hJ i (by simp)
      have e1 := ih (pre ++ [i]) (fun j hj => by rcases List.mem_append.1 hj with hj | hj; exact hp j hj; simp at hj; subst hj; exact hi) (fun j hj => hJ j (by simp [hj])) (by simp at hl ⊢; omega)
      have e2 := ih (pre ++ [d]) (fun j hj => by rcases List.mem_append.1 hj with hj | hj; exact hp j hj; simp at hj; subst hj; exact hd) (fun j hj => hJ j (by simp [hj])) (by simp at hl ⊢; omega)
      simp only [List.map_append, List.map_cons, List.map_nil, List.append_assoc, List.singleton_append] at e1 e2
      have f1 := detD_lin (b i) (b d) 1 (q i) (J.map a) (pre.map b) C
      have f2 := detD_lin (a i) (a i) (p i) 0 (J.map a) (pre.map b) C
      have hrow : (fun c => p i * a i c + 0 * a i c) = (fun c => 1 * b i c + q i * b d c) := by
        funext c
        have := h i hi c
        omega
      rw [hrow, f1, e1, e2] at f2
      have f3 : p i * detD (pre.map b ++ a i :: J.map a) C = 0 := by omega
      rcases Int.mul_eq_zero.1 f3 with e | e
      · exact absurd e (hp0 i hi)
      · simpa using e
  have := key I [] (by simp) hI.2 (by simpa using lI)
  simpa [minorD] using this

/-- Rows in another order. -/
theorem van_perm {k m n : Nat} {a b : Nat → Nat → Int} (s : Nat → Nat) (hs : ∀ i, i < m → s i < m) (h : ∀ i, i < m → b i = a (s i)) (hv : Van k a m n) : Van k b m n := by
  intro I C hI hC lI lC
  have e : I.map b = (I.map s).map a := by
    rw [List.map_map]
    exact List.map_congr_left (fun i hi => h i (hI.2 i hi))
  unfold minorD
  rw [e]
  exact hv.all (I.map s) C (fun i hi => by obtain ⟨j, hj, rfl⟩ := List.mem_map.1 hi; exact hs j (hI.2 j hj)) hC (by simpa using lI) lC

/-- Rows turned into columns. -/
theorem van_turn {k m n : Nat} {a : Nat → Nat → Int} (hv : Van k a m n) : Van k (fun j i => a i j) n m := by
  intro I C hI hC lI lC
  have := detD_turn a k C I lC lI
  unfold minorD
  rw [← this]
  exact hv C I hC hI lC lI

theorem rank_turn {r m n : Nat} {a : Nat → Nat → Int} (h : IsRank r a m n) : IsRank r (fun j i => a i j) n m :=
  ⟨fun hv => h.1 (van_turn hv), van_turn h.2⟩

/-- A row that is 0 at the columns asked for. -/
theorem exD_nought (r : Nat → Int) (cs : List Nat) (D : List Nat → Int) (h : ∀ c ∈ cs, r c = 0) : exD r cs D = 0 := by
  rw [exD_row r (fun _ => 0) cs D h]
  induction cs generalizing D with
  | nil => rfl
  | cons c cs ih =>
    unfold exD
    rw [ih _ (fun c hc => h c (by simp [hc]))]
    simp

theorem detD_nought (r : Nat → Int) (rs : List (Nat → Int)) (cs : List Nat) (h : ∀ c ∈ cs, r c = 0) : ∀ pre : List (Nat → Int), detD (pre ++ r :: rs) cs = 0 := by
  intro pre
  have hp : (pre ++ r :: rs).Perm (r :: (pre ++ rs)) := List.perm_middle
  obtain ⟨p, _, hd⟩ := detD_perm hp
  rw [hd cs]
  show p * exD r cs (detD (pre ++ rs)) = 0
  rw [exD_nought r cs _ h]
  simp

theorem rise_long {m r : Nat} : ∀ (I : List Nat) (b : Nat), I.Pairwise (· < ·) → (∀ i ∈ I, b ≤ i) → r < b + I.length → I ≠ [] → ∃ i ∈ I, r ≤ i
  | [], _, _, _, _, h => absurd rfl h
  | [i], b, _, hb, hl, _ => ⟨i, by simp, by have := hb i (by simp); simp at hl; omega⟩
  | i :: j :: I, b, hp, hb, hl, _ => by
    have hp2 := List.pairwise_cons.1 hp
    obtain ⟨k, hk, hr⟩ := rise_long (m := m) (r := r) (j :: I) (b + 1) hp2.2 (fun t ht => by have := hp2.1 t ht; have := hb i (by simp); omega) (by simp at hl ⊢; omega) (by simp)
    exact ⟨k, by simp [hk], hr⟩

/-- Rows from r on that are 0: no minor of more than r rows. -/
theorem van_low {m n r : Nat} {a : Nat → Nat → Int} (h : ∀ i, r ≤ i → i < m → ∀ c, c < n → a i c = 0) : Van (r + 1) a m n := by
  intro I C hI hC lI _
  obtain ⟨i, hi, hr⟩ := rise_long (m := m) (r := r) I 0 hI.1 (fun _ _ => Nat.zero_le _) (by omega) (by intro e; subst e; simp at lI)
  obtain ⟨s, t, rfl⟩ := List.append_of_mem hi
  unfold minorD
  simp only [List.map_append, List.map_cons]
  exact detD_nought (a i) _ C (fun c hc => h i hr (hI.2 i hi) c (hC.2 c hc)) _

/-- The product of what stands on the stairs. -/
def stairs (a : Nat → Nat → Int) : List Nat → List Nat → Int
  | i :: I, c :: C => a i c * stairs a I C
  | _, _ => 1

/-- Nothing below the stairs: the minor is their product. -/
theorem minor_stairs (a : Nat → Nat → Int) : ∀ (I C : List Nat), I.length = C.length → (∀ I1 i I2 C1 c C2, I = I1 ++ i :: I2 → C = C1 ++ c :: C2 → I1.length = C1.length → ∀ j ∈ I2, a j c = 0) → detD (C.map (fun c i => a i c)) I = stairs a I C
  | [], [], _, _ => rfl
  | i :: I, c :: C, hl, h => by
    simp only [List.length_cons, Nat.add_right_cancel_iff] at hl
    have h0 := h [] i I [] c C rfl rfl rfl
    show exD (fun i => a i c) (i :: I) (detD (C.map (fun c i => a i c))) = a i c * stairs a I C
    unfold exD
    rw [exD_nought (fun i => a i c) I _ h0, minor_stairs a I C hl (fun I1 j I2 C1 d C2 e1 e2 e3 => h (i :: I1) j I2 (c :: C1) d C2 (by rw [e1]; rfl) (by rw [e2]; rfl) (by simp [e3]))]
    omega

theorem stairs_ne (a : Nat → Nat → Int) : ∀ (I C : List Nat), I.length = C.length → (∀ I1 i I2 C1 c C2, I = I1 ++ i :: I2 → C = C1 ++ c :: C2 → I1.length = C1.length → a i c ≠ 0) → stairs a I C ≠ 0
  | [], [], _, _ => by simp [stairs]
  | i :: I, c :: C, hl, h => by
    simp only [List.length_cons, Nat.add_right_cancel_iff] at hl
    have h0 := h [] i I [] c C rfl rfl rfl
    have h1 := stairs_ne a I C hl (fun I1 j I2 C1 d C2 e1 e2 e3 => h (i :: I1) j I2 (c :: C1) d C2 (by rw [e1]; rfl) (by rw [e2]; rfl) (by simp [e3]))
    intro e
    rcases Int.mul_eq_zero.1 (show a i c * stairs a I C = 0 from e) with e | e
    · exact h0 e
    · exact h1 e

theorem rise_range (n : Nat) : Rise n (List.range n) := ⟨List.pairwise_lt_range, fun _ hi => List.mem_range.1 hi⟩

/-- Stairs of P's columns in the first rows, nothing below them, nothing from row r on: r is the rank. -/
theorem rank_stairs {m n : Nat} {a : Nat → Nat → Int} (P : List Nat) (hP : Rise n P) (hm : P.length ≤ m) (h0 : ∀ j, j < P.length → a j (P[j]?.getD 0) ≠ 0) (h1 : ∀ j i, j < P.length → j < i → i < m → a i (P[j]?.getD 0) = 0) (h2 : ∀ i, P.length ≤ i → i < m → ∀ c, c < n → a i c = 0) : IsRank P.length a m n := by
  refine ⟨fun hv => ?_, van_low h2⟩
  have hr : Rise m (List.range P.length) := ⟨(rise_range _).1, fun i hi => by have := (rise_range P.length).2 i hi; omega⟩
  have hz := hv (List.range P.length) P hr hP (by simp) rfl
  unfold minorD at hz
  rw [detD_turn a P.length (List.range P.length) P (by simp) rfl] at hz
  have at_pl : ∀ I1 i I2 C1 c C2, List.range P.length = I1 ++ i :: I2 → P = C1 ++ c :: C2 → I1.length = C1.length → i = I1.length ∧ I1.length < P.length ∧ P[I1.length]?.getD 0 = c ∧ ∀ j ∈ I2, I1.length < j ∧ j < P.length := by
    intro I1 i I2 C1 c C2 e1 e2 e3
    have hi : (List.range P.length)[I1.length]? = some i := by rw [e1]; simp
    have hc : P[I1.length]? = some c := by rw [e2, e3]; simp
    have hlt : I1.length < P.length := by
      rcases Nat.lt_or_ge I1.length P.length with h | h
      · exact h
      · rw [List.getElem?_eq_none h] at hc; simp at hc
    have hi' : i = I1.length := by
      rw [List.getElem?_range hlt] at hi
      exact (Option.some.inj hi).symm
    refine ⟨hi', hlt, by rw [hc]; rfl, fun j hj => ?_⟩
    have hp := (rise_range P.length).1
    rw [e1, List.pairwise_append] at hp
    have := (List.pairwise_cons.1 hp.2.1).1 j hj
    have hj2 : j ∈ List.range P.length := by rw [e1]; simp [hj]
    exact ⟨by omega, List.mem_range.1 hj2⟩
  rw [minor_stairs a (List.range P.length) P (by simp) (fun I1 i I2 C1 c C2 e1 e2 e3 j hj => by
    obtain ⟨g1, g2, g3, g4⟩ := at_pl I1 i I2 C1 c C2 e1 e2 e3
    rw [← g3]
    exact h1 I1.length j g2 (g4 j hj).1 (by have := (g4 j hj).2; omega))] at hz
  refine stairs_ne a (List.range P.length) P (by simp) (fun I1 i I2 C1 c C2 e1 e2 e3 => ?_) hz
  obtain ⟨g1, g2, g3, g4⟩ := at_pl I1 i I2 C1 c C2 e1 e2 e3
  rw [g1, ← g3]
  exact h0 I1.length g2

end Go.Proofs.Ytnpogpoknbgodaa

/- A row that is a sum of others; determinants and full ranks; how great a determinant can be. No program. -/
namespace Go.Proofs.Ytnpogpoknbgodaa

/-- The sum of the first k rows, row i taken t i times. -/
def sumRows (a : Nat → Nat → Int) (t : Nat → Int) : Nat → Nat → Int
  | 0 => fun _ => 0
  | k + 1 => fun c => 1 * sumRows a t k c + t k * a k c

theorem detD_sum (a : Nat → Nat → Int) (t : Nat → Int) (pre rs : List (Nat → Int)) (cs : List Nat) : ∀ k, (∀ i, i < k → detD (pre ++ a i :: rs) cs = 0) → detD (pre ++ sumRows a t k :: rs) cs = 0
  | 0, _ => detD_nought _ rs cs (fun _ _ => rfl) pre
  | k + 1, h => by
    show detD (pre ++ (fun c => 1 * sumRows a t k c + t k * a k c) :: rs) cs = 0
    rw [detD_lin, detD_sum a t pre rs cs k (fun i hi => h i (by omega)), h k (by omega)]
    simp

/-- One row more, a sum of the others: no new minors. -/
theorem van_sum {k m n : Nat} {a b : Nat → Nat → Int} (t : Nat → Int) (h : ∀ i, i < m → b i = a i) (hm : b m = sumRows a t m) : Van k a m n ↔ Van k b (m + 1) n := by
  constructor
  · intro hv I C hI hC lI lC
    have key : ∀ (J pre : List Nat), (∀ i ∈ pre, i < m) → (∀ i ∈ J, i < m + 1) → pre.length + J.length = k → detD (pre.map a ++ J.map b) C = 0 := by
      intro J
      induction J with
      | nil =>
        intro pre hp _ hl
        simp only [List.map_nil, List.append_nil]
        exact hv.all pre C hp hC (by simpa using hl) lC
      | cons i J ih =>
        intro pre hp hJ hl
        have step : ∀ j, j < m → detD (pre.map a ++ a j :: J.map b) C = 0 := fun j hj => by
          have e1 := ih (pre ++ [j]) (fun q hq => by rcases List.mem_append.1 hq with hq | hq; exact hp q hq; simp at hq; subst hq; exact hj) (fun q hq => hJ q (by simp [hq])) (by simp at hl ⊢; omega)
          simp only [List.map_append, List.map_cons, List.map_nil, List.append_assoc, List.singleton_append] at e1
          exact e1
        have hi : i < m + 1 := hJ i (by simp)
        rw [List.map_cons]
        by_cases him : i < m
        · rw [h i him]; exact step i him
        · obtain rfl : i = m := by omega
          rw [hm]
          exact detD_sum a t (pre.map a) (J.map b) C i step
    have := key I [] (by simp) hI.2 (by simpa using lI)
    simpa [minorD] using this
  · intro hv I C hI hC lI lC
    have e : I.map a = I.map b := List.map_congr_left (fun i hi => (h i (hI.2 i hi)).symm)
    unfold minorD
    rw [e]
    exact hv I C ⟨hI.1, fun i hi => by have := hI.2 i hi; omega⟩ hC lI lC

theorem rank_sum {r m n : Nat} {a b : Nat → Nat → Int} (t : Nat → Int) (h : ∀ i, i < m → b i = a i) (hm : b m = sumRows a t m) (hr : IsRank r a m n) : IsRank r b (m + 1) n :=
  ⟨fun hv => hr.1 ((van_sum t h hm).2 hv), (van_sum t h hm).1 hr.2⟩

theorem rise_le {n : Nat} : ∀ (I : List Nat) (b : Nat), I.Pairwise (· < ·) → (∀ i ∈ I, b ≤ i ∧ i < n) → b + I.length ≤ n ∨ I = []
  | [], _, _, _ => .inr rfl
  | [i], b, _, h => .inl (by have := h i (by simp); simp; omega)
  | i :: j :: I, b, hp, h => by
    have hp2 := List.pairwise_cons.1 hp
    have hi := h i (by simp)
    rcases rise_le (n := n) (j :: I) (b + 1) hp2.2 (fun t ht => by have := hp2.1 t ht; have := h t (by simp [ht]); omega) with e | e
    · left; simp at e ⊢; omega
    · simp at e

/-- As many places as can be are all places. -/
theorem rise_full {n : Nat} : ∀ (I : List Nat) (b : Nat), I.Pairwise (· < ·) → (∀ i ∈ I, b ≤ i ∧ i < n) → b + I.length = n → I = (List.range (n - b)).map (b + ·)
  | [], b, _, _, hl => by simp at hl; subst hl; simp
  | i :: I, b, hp, h, hl => by
    have hp2 := List.pairwise_cons.1 hp
    have hi := h i (by simp)
    simp at hl
    have hib : i = b := by
      rcases Nat.lt_or_ge b i with hlt | hge
      · have := rise_le (n := n) (i :: I) (b + 1) hp (fun t ht => by
          rcases List.mem_cons.1 ht with rfl | ht
          · omega
          · have := hp2.1 t ht; have := h t (by simp [ht]); omega)
        rcases this with e | e
        · simp at e; omega
        · simp at e
      · omega
    subst hib
    have ih := rise_full (n := n) I (i + 1) hp2.2 (fun t ht => by have := hp2.1 t ht; have := h t (by simp [ht]); omega) (by omega)
    rw [ih, show n - i = (n - (i + 1)) + 1 by omega, List.range_succ_eq_map]
    simp only [List.map_cons, List.map_map, Nat.add_zero]
    congr 1
    apply List.map_congr_left
    intro j _
    simp only [Function.comp]
    omega

theorem rise_all {n : Nat} (I : List Nat) (h : Rise n I) (hl : I.length = n) : I = List.range n := by
  have := rise_full (n := n) I 0 h.1 (fun i hi => ⟨Nat.zero_le _, h.2 i hi⟩) (by omega)
  rw [this]
  simp

/-- Of as many rows as columns the determinant is not 0 just if the rank is as great as can be. -/
theorem van_full {n : Nat} {a : Nat → Nat → Int} : Van n a n n ↔ minorD a (List.range n) (List.range n) = 0 := by
  constructor
  · exact fun h => h _ _ (rise_range n) (rise_range n) (by simp) (by simp)
  · intro h I C hI hC lI lC
    rw [rise_all I hI lI, rise_all C hC lC]
    exact h

theorem van_over {k m n : Nat} {a : Nat → Nat → Int} (h : m < k ∨ n < k) : Van k a m n := by
  intro I C hI hC lI lC
  exfalso
  have h1 := rise_le (n := m) I 0 hI.1 (fun i hi => ⟨Nat.zero_le _, hI.2 i hi⟩)
  have h2 := rise_le (n := n) C 0 hC.1 (fun i hi => ⟨Nat.zero_le _, hC.2 i hi⟩)
  rcases h with h | h
  · rcases h1 with e | e
    · omega
    · subst e; simp at lI; omega
  · rcases h2 with e | e
    · omega
    · subst e; simp at lC; omega

theorem rank_le {r m n : Nat} {a : Nat → Nat → Int} (h : IsRank r a m n) : r ≤ m ∧ r ≤ n := by
  constructor
  · exact Nat.le_of_not_lt fun hlt => h.1 (van_over (.inl hlt))
  · exact Nat.le_of_not_lt fun hlt => h.1 (van_over (.inr hlt))

theorem rank_full {r n : Nat} {a : Nat → Nat → Int} (h : IsRank r a n n) : r = n ↔ minorD a (List.range n) (List.range n) ≠ 0 := by
  constructor
  · rintro rfl e
    exact h.1 (van_full.2 e)
  · intro e
    have hr : IsRank n a n n := ⟨fun hv => e (van_full.1 hv), van_over (.inl (Nat.lt_succ_self n))⟩
    exact h.unique hr

/-- How great a sum by the first row can be. -/
theorem exD_bound (r : Nat → Int) (B M : Nat) : ∀ (cs : List Nat) (D : List Nat → Int), (∀ c ∈ cs, (r c).natAbs ≤ B) → (∀ l, l.Sublist cs → l.length + 1 = cs.length → (D l).natAbs ≤ M) → (exD r cs D).natAbs ≤ cs.length * (B * M)
  | [], _, _, _ => by simp [exD]
  | c :: cs, D, h, hD => by
    have h1 := exD_bound r B M cs (fun l => D (c :: l)) (fun d hd => h d (by simp [hd])) (fun l hl hlen => hD (c :: l) (hl.cons_cons c) (by simp; omega))
    have h2 : (r c * D cs).natAbs ≤ B * M := by
      rw [Int.natAbs_mul]
      exact Nat.mul_le_mul (h c (by simp)) (hD cs (List.sublist_cons_self c cs) rfl)
    show (r c * D cs - exD r cs (fun l => D (c :: l))).natAbs ≤ _
    have h3 := Int.natAbs_sub_le (r c * D cs) (exD r cs (fun l => D (c :: l)))
    rw [List.length_cons, Nat.add_mul]
    omega

def factN : Nat → Nat
  | 0 => 1
  | n + 1 => (n + 1) * factN n

theorem detD_bound (B : Nat) : ∀ (rs : List (Nat → Int)) (cs : List Nat), rs.length = cs.length → (∀ r ∈ rs, ∀ c ∈ cs, (r c).natAbs ≤ B) → (detD rs cs).natAbs ≤ factN rs.length * B ^ rs.length
  | [], _, _, _ => by simp [detD, factN]
  | r :: rs, cs, hl, h => by
    have := exD_bound r B (factN rs.length * B ^ rs.length) cs (detD rs) (h r (by simp)) (fun l hs hlen => detD_bound B rs l (by simp at hl; omega) (fun s hs' c hc => h s (by simp [hs']) c (hs.subset hc)))
    refine Nat.le_trans this ?_
    rw [← hl, List.length_cons, Nat.pow_succ, show factN (rs.length + 1) = (rs.length + 1) * factN rs.length from rfl]
    generalize factN rs.length = f
    generalize B ^ rs.length = p
    have e : (rs.length + 1) * (B * (f * p)) = (rs.length + 1) * f * (p * B) := by
      simp only [Nat.mul_assoc, Nat.mul_left_comm, Nat.mul_comm]
    rw [e]
    exact Nat.le_refl _

end Go.Proofs.Ytnpogpoknbgodaa

/- Sets of columns and minors: what expand adds up is the minor by its last row. -/
namespace Go.Proofs.Ytnpogpoknbgodaa

theorem exD_snoc (r : Nat → Int) (k : Nat) : ∀ (pre : List Nat) (F : List Nat → Int), exD r (pre ++ [k]) F = exD r pre (fun l => F (l ++ [k])) + (-1) ^ pre.length * (r k * F pre)
  | [], F => by simp [exD]
  | c :: cs, F => by
    show r c * F (cs ++ [k]) - exD r (cs ++ [k]) (fun l => F (c :: l)) = r c * F (cs ++ [k]) - exD r cs (fun l => F (c :: (l ++ [k]))) + (-1) ^ (cs.length + 1) * (r k * F (c :: cs))
    rw [exD_snoc r k cs (fun l => F (c :: l)), Int.pow_succ]
    grind

def preS (s k : Nat) : List Nat := (elems s).filter (fun c => decide (c < k))
def postS (s k : Nat) : List Nat := (elems s).filter (fun c => decide (k ≤ c))

theorem set_step1 : ∀ s, s < 64 → ∀ k, k < 6 → s.testBit k = true → preS s (k + 1) = preS s k ++ [k] ∧ postS s k = k :: postS s (k + 1) ∧ elems (del s k) = preS s k ++ postS s (k + 1) := by decide +kernel
theorem set_step2 : ∀ s, s < 64 → ∀ k, k < 6 → s.testBit k = true → abv s k = (postS s (k + 1)).length ∧ del s k < 64 ∧ sz (del s k) + 1 = sz s := by decide +kernel
theorem set_step (s : Nat) (hs : s < 64) (k : Nat) (hk : k < 6) (hb : s.testBit k = true) : preS s (k + 1) = preS s k ++ [k] ∧ postS s k = k :: postS s (k + 1) ∧ elems (del s k) = preS s k ++ postS s (k + 1) ∧ abv s k = (postS s (k + 1)).length ∧ del s k < 64 ∧ sz (del s k) + 1 = sz s :=
  ⟨(set_step1 s hs k hk hb).1, (set_step1 s hs k hk hb).2.1, (set_step1 s hs k hk hb).2.2, set_step2 s hs k hk hb⟩
theorem set_stay : ∀ s, s < 64 → ∀ k, k < 6 → s.testBit k = false → preS s (k + 1) = preS s k ∧ postS s k = postS s (k + 1) := by decide +kernel
theorem set_ends : ∀ s, s < 64 → preS s 0 = [] ∧ postS s 0 = elems s ∧ sz s ≤ 6 ∧ (0 < s → 0 < sz s) := by decide +kernel
theorem set_width : ∀ n, n ≤ 6 → ∀ s, s < 2 ^ n → sz s ≤ n ∧ preS s n = elems s ∧ postS s n = [] ∧ ∀ c ∈ elems s, c < n := by decide +kernel
theorem set_full : ∀ n, n ≤ 6 → elems (2 ^ n - 1) = List.range n ∧ 2 ^ n ≤ 64 := by decide +kernel
theorem del_lt : ∀ s, s < 64 → ∀ k, k < 6 → s.testBit k = true → del s k < s := by decide +kernel

theorem parity (m : Nat) : ((-1 : Int) ^ m = 1 ∧ m % 2 = 0) ∨ ((-1 : Int) ^ m = -1 ∧ m % 2 = 1) := by
  induction m with
  | zero => simp
  | succ m ih =>
    rw [Int.pow_succ]
    rcases ih with ⟨h1, h2⟩ | ⟨h1, h2⟩
    · right; rw [h1]; constructor
      · rfl
      · omega
    · left; rw [h1]; constructor
      · rfl
      · omega

theorem exS_part (r : Nat → Int) (F : List Nat → Int) (s : Nat) (hs : s < 64) : ∀ k, k ≤ 6 → exS r s (fun t => F (elems t)) k = (-1) ^ (postS s k).length * ((-1) ^ ((preS s k).length + 1) * exD r (preS s k) (fun l => F (l ++ postS s k))) := by
  intro k
  induction k with
  | zero => intro _; rw [(set_ends s hs).1]; simp [exS, exD]
  | succ k ih =>
    intro hk
    unfold exS
    rw [ih (by omega)]
    by_cases hb : s.testBit k = true
    · obtain ⟨h1, h2, h3, h4, _, _⟩ := set_step s hs k (by omega) hb
      rw [if_pos hb, h1, exD_snoc, h2, h3, h4, List.length_append, List.length_cons, Int.pow_succ, Int.pow_succ, Int.pow_succ]
      simp only [List.length_nil, List.length_cons, Nat.zero_add, List.append_assoc, List.cons_append, List.nil_append]
      rw [Int.pow_succ]
      generalize exD r (preS s k) (fun l => F (l ++ k :: postS s (k + 1))) = e
      generalize r k * F (preS s k ++ postS s (k + 1)) = f
      rcases parity (postS s (k + 1)).length with ⟨p1, p2⟩ | ⟨p1, p2⟩ <;> rcases parity (preS s k).length with ⟨q1, _⟩ | ⟨q1, _⟩ <;> rw [p1, q1, p2] <;> simp <;> omega
    · have hb' : s.testBit k = false := by simpa using hb
      obtain ⟨h1, h2⟩ := set_stay s hs k (by omega) hb'
      rw [if_neg hb, h1, h2, Int.add_zero]

/-- What a minor by its last row is. -/
theorem exS_det (r : Nat → Int) (rs : List (Nat → Int)) (s n : Nat) (hn : n ≤ 6) (hs : s < 2 ^ n) (hl : rs.length + 1 = sz s) : exS r s (fun t => detD rs (elems t)) n = detD (rs ++ [r]) (elems s) := by
  have h64 : s < 64 := Nat.lt_of_lt_of_le hs (set_full n hn).2
  obtain ⟨_, h2, h3, _⟩ := set_width n hn s hs
  rw [exS_part r (detD rs) s h64 n hn, h2, h3, detD_last, detD_cons]
  have e : (elems s).length = rs.length + 1 := hl.symm
  rw [e, Int.pow_succ, Int.pow_succ]
  simp

/-- The bound of numbers of 80 limbs; of minors of these. -/
def N80 : Nat := 80
def B80 : Nat := 4294967296 ^ N80
def NB (k : Nat) : Nat := factN k * B80 ^ k
theorem NB_small (k : Nat) (hk : k ≤ 5) : 6 * (B80 * NB k) < TOP ∧ B80 < TOP ∧ NB k < TOP ∧ 1 < TOP := by
  have hB : 1 ≤ B80 := Nat.pow_pos (by decide)
  have hf : factN k ≤ 120 := by
    match k, hk with
    | 0, _ => decide
    | 1, _ => decide
    | 2, _ => decide
    | 3, _ => decide
    | 4, _ => decide
    | 5, _ => decide
  have hp : B80 ^ (k + 1) ≤ B80 ^ 6 := Nat.pow_le_pow_right hB (by omega)
  have hT : 720 * B80 ^ 6 < TOP := by
    obtain ⟨q, hq⟩ : ∃ q, q = N80 * 6 := ⟨_, rfl⟩
    have h1 : B80 ^ 6 = 4294967296 ^ q := by unfold B80; rw [← Nat.pow_mul, hq]
    have hq' : q + 1 ≤ TOPN := by rw [hq]; decide
    have h2 : (4294967296 : Nat) ^ (q + 1) ≤ TOP := Nat.pow_le_pow_right (by decide) hq'
    rw [Nat.pow_succ, ← h1] at h2
    clear h1 hq hq'
    have h3 : 0 < B80 ^ 6 := Nat.pow_pos hB
    generalize B80 ^ 6 = x at *
    omega
  have h0 : B80 ^ 1 ≤ B80 ^ 6 := Nat.pow_le_pow_right hB (by omega)
  rw [Nat.pow_one] at h0
  have h1 : B80 * NB k ≤ 120 * B80 ^ 6 := by
    unfold NB
    rw [show B80 * (factN k * B80 ^ k) = factN k * B80 ^ (k + 1) by rw [Nat.pow_succ, Nat.mul_comm (B80 ^ k) B80, ← Nat.mul_assoc, ← Nat.mul_assoc, Nat.mul_comm B80 (factN k)]]
    exact Nat.mul_le_mul hf hp
  have h2 : NB k ≤ B80 * NB k := Nat.le_mul_of_pos_left _ hB
  generalize B80 ^ 6 = x at *
  generalize B80 * NB k = y at *
  refine ⟨by omega, by omega, by omega, by omega⟩

end Go.Proofs.Ytnpogpoknbgodaa

/- Contract of exact's determinant. -/
namespace Go.Proofs.Ytnpogpoknbgodaa
open Go.RowKit
attribute [local go_sem ↓] Go.wp_at_zero Go.wp_at_succ

/-- A bool or a slice. -/
def isBS : Value → Bool
  | .bool _ => true
  | .slice _ _ _ => true
  | _ => false
/-- Block g is the array of kept numbers. -/
def ArrAt (w : World) (g : Nat) (arr : Array Value) : Prop := w.heap[g]? = some (.cells arr 72 (0, 0)) ∧ arr.size = 128 ∧ ∀ (j : Nat) (v : Value), arr[j]? = some v → isBS v = true

theorem ArrAt.cell {w : World} {g : Nat} {arr : Array Value} (h : ArrAt w g arr) (j : Nat) : w.cell? ⟨g, j, none⟩ = arr[j]? := cell_of_row w g j _ _ _ h.1
theorem ArrAt.free {w : World} {g : Nat} {arr : Array Value} (h : ArrAt w g arr) (j : Nat) : w.frozen? ⟨g, j, none⟩ = false := frozen_of_row w g j _ _ h.1
theorem ArrAt.lt {w : World} {g : Nat} {arr : Array Value} (h : ArrAt w g arr) : g < w.heap.size := (Array.getElem?_eq_some_iff.1 h.1).1
theorem ArrAt.below {w w' : World} {g B : Nat} {arr : Array Value} (h : ArrAt w g arr) (hb : Below B w w') (hg : g < B) : ArrAt w' g arr := ⟨(hb.block g hg).trans h.1, h.2⟩
theorem setBS {arr : Array Value} (h : ∀ (j : Nat) (v : Value), arr[j]? = some v → isBS v = true) (i : Nat) {u : Value} (hu : isBS u = true) : ∀ (j : Nat) (v : Value), (arr.setIfInBounds i u)[j]? = some v → isBS v = true := by
  intro j v hv
  rw [Array.getElem?_setIfInBounds] at hv
  split at hv
  · split at hv
    · cases hv; exact hu
    · cases hv
  · exact h j v hv
theorem ArrAt.set2 {w : World} {g : Nat} {arr : Array Value} (h : ArrAt w g arr) (i j : Nat) {u u' : Value} (hu : isBS u = true) (hu' : isBS u' = true) : ArrAt ((w.setCell ⟨g, i, none⟩ u).setCell ⟨g, j, none⟩ u') g ((arr.setIfInBounds i u).setIfInBounds j u') := by
  refine ⟨?_, by simp [h.2.1], setBS (setBS h.2.2 i hu) j hu'⟩
  rw [heap_setCell_same _ g j _ _ _ (heap_setCell_same w g i _ _ _ h.1)]
theorem ArrAt.stb {w w' : World} {g Base : Nat} {arr : Array Value} (h : ArrAt w g arr) (hs : Stb Base w w') : ArrAt w' g arr :=
  ⟨hs.keeps h.1 (fun x a n c e => by
    have h2 := h.2.1
    injection e with e1 _ _
    rw [e1] at h2; simp at h2), h.2⟩
theorem LimbsAt.arr {w : World} {ao : Option Addr} {cap g : Nat} {L : List Nat} {arr : Array Value} (h : LimbsAt w ao cap L) (ha : ArrAt w g arr) (i j : Nat) (u u' : Value) : LimbsAt ((w.setCell ⟨g, i, none⟩ u).setCell ⟨g, j, none⟩ u') ao cap L := by
  refine ⟨h.1, h.2.1, ?_⟩
  rcases h.2.2 with h0 | ⟨c, off, h1, h2, h3⟩
  · exact .inl h0
  · by_cases hL : L = []
    · exact .inl hL
    have hc : c ≠ g := by
      rintro rfl
      have h4 := h3 0 (List.length_pos_iff.2 hL)
      rw [ha.cell] at h4
      have := ha.2.2 _ _ h4
      simp [isBS] at this
    refine .inr ⟨c, off, h1, by simpa [World.setCell] using h2, fun i' hi' => ?_⟩
    rw [cell_setCell_other _ _ _ _ (show c ≠ g from hc), cell_setCell_other _ _ _ _ (show c ≠ g from hc)]
    exact h3 i' hi'
theorem IsNum.arr {B : Nat} {w : World} {v : Value} {x : Int} {g : Nat} {arr : Array Value} (h : IsNum B w v x) (ha : ArrAt w g arr) (i j : Nat) (u u' : Value) : IsNum B ((w.setCell ⟨g, i, none⟩ u).setCell ⟨g, j, none⟩ u') v x := by
  obtain ⟨neg, ao, cap, L, h1, h2, h3⟩ := h
  exact ⟨neg, ao, cap, L, h1, h2.arr ha i j u u', h3⟩

theorem Box2.other2 {w : World} {b g : Nat} {x y : Value} (h : Box2 w b x y) (hne : b ≠ g) (i j : Nat) (u u' : Value) : Box2 ((w.setCell ⟨g, i, none⟩ u).setCell ⟨g, j, none⟩ u') b x y := by
  unfold Box2
  rw [Below.heap_setCell _ _ _ _ (show b ≠ (⟨g, j, none⟩ : Addr).block from hne), Below.heap_setCell _ _ _ _ (show b ≠ (⟨g, i, none⟩ : Addr).block from hne)]
  exact h

/-- The number kept at s is x. -/
def KeptAt (w : World) (arr : Array Value) (s : Nat) (x : Int) : Prop := ∃ n a L c, arr[s * 2]? = some (.bool n) ∧ arr[s * 2 + 1]? = some (.slice a L c) ∧ IsNum 0 w (.agg #[.bool n, .slice a L c]) x

theorem KeptAt.below {w w' : World} {arr : Array Value} {s : Nat} {x : Int} (h : KeptAt w arr s x) (hb : Below w.heap.size w w') : KeptAt w' arr s x := by
  obtain ⟨n, a, L, c, k1, k2, k3⟩ := h
  exact ⟨n, a, L, c, k1, k2, k3.below hb⟩
theorem KeptAt.stb {w w' : World} {arr : Array Value} {s : Nat} {x : Int} {Base : Nat} (h : KeptAt w arr s x) (hb : Stb Base w w') : KeptAt w' arr s x := by
  obtain ⟨n, a, L, c, k1, k2, k3⟩ := h
  exact ⟨n, a, L, c, k1, k2, k3.stb hb⟩
theorem KeptAt.other {w : World} {arr : Array Value} {s t g : Nat} {x : Int} (h : KeptAt w arr s x) (ha : ArrAt w g arr) (hne : s ≠ t) (u u' : Value) : KeptAt ((w.setCell ⟨g, t * 2, none⟩ u).setCell ⟨g, t * 2 + 1, none⟩ u') ((arr.setIfInBounds (t * 2) u).setIfInBounds (t * 2 + 1) u') s x := by
  obtain ⟨n, a, L, c, k1, k2, k3⟩ := h
  refine ⟨n, a, L, c, ?_, ?_, k3.arr ha _ _ _ _⟩
  · rw [Array.getElem?_setIfInBounds, if_neg (by omega), Array.getElem?_setIfInBounds, if_neg (by omega)]; exact k1
  · rw [Array.getElem?_setIfInBounds, if_neg (by omega), Array.getElem?_setIfInBounds, if_neg (by omega)]; exact k2
theorem KeptAt.new {w : World} {arr : Array Value} {t g : Nat} {x : Int} {n : Bool} {a : Option Addr} {l c : Nat} (hn : IsNum 0 w (.agg #[.bool n, .slice a l c]) x) (ha : ArrAt w g arr) (ht : t < 64) : KeptAt ((w.setCell ⟨g, t * 2, none⟩ (.bool n)).setCell ⟨g, t * 2 + 1, none⟩ (.slice a l c)) ((arr.setIfInBounds (t * 2) (.bool n)).setIfInBounds (t * 2 + 1) (.slice a l c)) t x := by
  have := ha.2.1
  refine ⟨n, a, l, c, ?_, ?_, hn.arr ha _ _ _ _⟩
  · rw [Array.getElem?_setIfInBounds, if_neg (by omega), Array.getElem?_setIfInBounds, if_pos rfl, if_pos (by omega)]
  · rw [Array.getElem?_setIfInBounds, if_pos rfl, if_pos (by simp; omega)]

set_option maxHeartbeats 4000000 in
theorem det1_any (g : Nat) (arr : Array Value) (s : Nat) (x : Int) (w : World) (h : ArrAt w g arr) (hs : s < 64) (hk : KeptAt w arr s x) :
    Calls Try.prog 45 #[.int .u64 s, .pointer (some ⟨g, 0, none⟩)] w fun e w' => ∃ v, e = .returned v ∧ IsNum 0 w' v x ∧ Below w.heap.size w w' := by
  obtain ⟨n, a, L, c, k1, k2, k3⟩ := hk
  have h' : ArrAt (w.alloc (.cells #[.bool false, .slice none 0 0] 35)) g arr := h.below ((Below.refl _ _).alloc (Nat.le_refl _) _) h.lt
  have c0 := h'.cell (s * 2)
  have c1 := h'.cell (s * 2 + 1)
  rw [k1] at c0
  rw [k2] at c1
  have hsI : (s : Int) < 64 := by omega
  have N := hide (k3.below ((Below.refl _ _).alloc (Nat.le_refl _) (.cells #[.bool n, .slice a L c] 35)))
  clear h h' k1 k2 k3
  go_enter Try.func45, Try.ntmps45
  go_wp2
  refine bodyPost_ret (v := .agg #[.bool n, .slice a L c]) (by simp [results, Try.results45, go_sem]) rfl ⟨_, rfl, unhide N, (Below.refl _ _).alloc (Nat.le_refl _) _⟩

/-- What rows say. -/
def valM (M : List Rw) (i j : Nat) : Int := sval (entry M i j).neg (entry M i j).L
/-- The minor of a set of columns with as many of the first rows. -/
def dm (M : List Rw) (s : Nat) : Int := detD ((List.range (sz s)).map (valM M)) (elems s)
/-- Rows that Check lets through. -/
def GoodM (M : List Rw) (n : Nat) : Prop := M.length ≤ 6 ∧ n ≤ 6 ∧ (∀ i, i < M.length → (rwAt M i).R.length = n) ∧ (∀ i j, i < M.length → j < n → rightN (entry M i j) = true ∧ (valM M i j).natAbs ≤ B80)

theorem full_wrap : ∀ n, n ≤ 6 → IntKind.u64.wrap (IntKind.u64.wrap (2 ^ n) - 1) = ((2 ^ n - 1 : Nat) : Int) := by decide +kernel
theorem zero79 : Try.zeroCells72.all isBS = true := by kernel_rfl
theorem cf53 (args : Array Value) (w : World) : (callFunc 45 args).run Try.prog w = .ok (.enter 45 args) w := by
  simp only [callFunc, go_sem]
  rfl

theorem dm_zero (M : List Rw) : dm M 0 = 1 := by unfold dm; rw [show sz 0 = 0 by decide +kernel]; rfl

set_option maxHeartbeats 4000000 in
theorem determinant_any (ao : Option Addr) (cap : Nat) (M : List Rw) (w : World) (h : MatAt w ao cap M) (hg : GoodM M M.length) :
    Calls Try.prog 31 #[.slice ao M.length cap] w fun e w' => ∃ v, e = .returned v ∧ IsNum 0 w' v (dm M (2 ^ M.length - 1)) ∧ Below w.heap.size w w' := by
  have HM := hide h; have HG := hide hg
  have hn : M.length ≤ 6 := hg.1
  clear h hg
  obtain ⟨n, hnn⟩ : ∃ n, M.length = n := ⟨_, rfl⟩
  rw [hnn] at hn HG ⊢
  have hA0 : Hid (ArrAt ((w.alloc (.cells #[.bool false, .slice none 0 0] 35)).alloc (.cells Try.zeroCells72 72)) (w.heap.size + 1) Try.zeroCells72) := by
    unfold Hid
    refine ⟨?_, Try.zeroCells72_size, fun j v hv => ?_⟩
    rotate_left
    · obtain ⟨hj, rfl⟩ := Array.getElem?_eq_some_iff.1 hv
      exact (Array.all_eq_true.1 zero79) j hj
    have := heap_alloc_new (w.alloc (.cells #[.bool false, .slice none 0 0] 35)) (.cells Try.zeroCells72 72)
    simpa using this
  have hz : Hid (∃ x y, (Try.zeroCells72)[0]? = some x ∧ (Try.zeroCells72)[1]? = some y) := by
    unfold Hid
    have := Try.zeroCells72_size
    exact ⟨_, _, Array.getElem?_eq_getElem (by omega), Array.getElem?_eq_getElem (by omega)⟩
  go_enter Try.func31, Try.ntmps31
  go_wp2_with fail
  refine (of_any 1 _ (by decide) (by decide)).mono ?_
  rintro e w1 ⟨v, rfl, ⟨n1, a1, c1, L1, rfl, i1⟩, hb1⟩
  have I1 := hide (show IsNum 0 w1 (.agg #[.bool n1, .slice a1 L1.length c1]) 1 from IsNum.mono ⟨n1, a1, c1, L1, rfl, i1⟩ (Nat.zero_le _))
  have hA1 : ArrAt w1 (w.heap.size + 1) Try.zeroCells72 := (unhide hA0).below hb1 (unhide hA0).lt
  have x0 : Box2 w1 w.heap.size (.bool false) (.slice none 0 0) := ((Box2.new w _ _).old _).below hb1 (by simp; omega)
  have b1 : Below w.heap.size w w1 := (((Below.refl _ _).alloc (Nat.le_refl _) _).alloc (by simp) _).trans (hb1.mono (by simp; omega))
  obtain ⟨zx, zy, z0, z1⟩ := unhide hz
  have y0 := hA1.cell 0; have y1 := hA1.cell 1; have f0 := hA1.free 0; have f1 := hA1.free 1
  rw [z0] at y0; rw [z1] at y1
  have A2 := hide (hA1.set2 0 1 (u := .bool n1) (u' := .slice a1 L1.length c1) rfl rfl)
  have K2 := hide (KeptAt.new (unhide I1) hA1 (t := 0) (by omega))
  have X2 := hide (x0.other (show w.heap.size ≠ w.heap.size + 1 by omega) (.bool n1) (.slice a1 L1.length c1))
  have B2 := hide ((b1.setCell (p := ⟨w.heap.size + 1, 0, none⟩) (by simp) (.bool n1)).setCell (p := ⟨w.heap.size + 1, 1, none⟩) (by simp) (.slice a1 L1.length c1))
  clear hA0 hz z0 z1 hA1 x0 hb1 b1 i1 I1
  simp only [Nat.zero_mul, Nat.zero_add] at K2
  generalize Try.zeroCells72 = z at *
  go_wp2_with fail
  rw [full_wrap n hn]
  obtain ⟨full, hfull⟩ : ∃ f, 2 ^ n - 1 = f := ⟨_, rfl⟩
  have hf64 : full < 64 := by have := (set_full n hn).2; omega
  rw [hfull]
  generalize (z.setIfInBounds 0 (.bool n1)).setIfInBounds 1 (.slice a1 L1.length c1) = z2 at *
  go_loopw [14] (fun i wr => ∃ (k : Nat) (arr : Array Value), k ≤ full ∧ i = .int .u64 k ∧ Hid (ArrAt wr (w.heap.size + 1) arr) ∧ Hid (∀ s, s ≤ k → KeptAt wr arr s (dm M s)) ∧ Hid (Box2 wr w.heap.size (.bool false) (.slice none 0 0)) ∧ Hid (Below w.heap.size w wr)) (fun i _ => full - (intOf i).toNat)
  case atStart =>
    refine ⟨0, z2, Nat.zero_le _, rfl, A2, ?_, X2, B2⟩
    unfold Hid
    intro s hs
    obtain rfl : s = 0 := by omega
    rw [dm_zero]
    exact unhide K2
  case round =>
    obtain ⟨k, arr, hk, rfl, hA, hK, hX, hB⟩ := hrel
    by_cases hlt : k < full
    · have hS : k + 1 < 2 ^ n := by omega
      have h64 : k + 1 < 64 := by omega
      obtain ⟨w1, w2, w3, w4⟩ := set_width n hn (k + 1) hS
      have hpos := (set_ends (k + 1) h64).2.2.2 (by omega)
      obtain ⟨q, hq⟩ : ∃ q, sz (k + 1) = q + 1 := ⟨sz (k + 1) - 1, by omega⟩
      have hqn : q < n := by omega
      have hqM : q < M.length := by omega
      have CS := hide (fun w' => size_x ((k : Int) + 1) (k + 1) w' (by simp) h64)
      rw [hq] at CS
      have hMr := (unhide HM).below (unhide hB)
      obtain ⟨b, off, hao, hbb, hc⟩ := hMr.ne (by omega)
      have hcq := hc q hqM
      have hrl := (unhide HG).2.2.1 q hqM
      obtain ⟨ar, har⟩ : ∃ x, (rwAt M q).ao = x := ⟨_, rfl⟩
      obtain ⟨cr, hcr⟩ : ∃ x, (rwAt M q).cap = x := ⟨_, rfl⟩
      obtain ⟨R, hR⟩ : ∃ x, (rwAt M q).R = x := ⟨_, rfl⟩
      rw [har, hcr, hR] at hcq
      rw [hR] at hrl
      have hdm : Hid (exS (valM M q) (k + 1) (fun t => detD ((List.range q).map (valM M)) (elems t)) R.length = dm M (k + 1)) := by
        unfold Hid
        rw [hrl, exS_det _ _ _ n hn hS (by simp [hq])]
        unfold dm
        rw [hq, List.range_succ, List.map_append]; rfl
      have CE := hide (fun (w' : World) (hw' : Below w.heap.size w w' ∧ ArrAt w' (w.heap.size + 1) arr ∧ ∀ s, s ≤ k → KeptAt w' arr s (dm M s)) =>
        expandD_any #[.pointer (some ⟨w.heap.size + 1, 0, none⟩)] w.heap.size none (fun w' => Below w.heap.size w w' ∧ ArrAt w' (w.heap.size + 1) arr ∧ ∀ s, s ≤ k → KeptAt w' arr s (dm M s)) (valM M q) (fun t => detD ((List.range q).map (valM M)) (elems t)) (k + 1) B80 (NB q) ar cr R
          (fun x y h s => ⟨h.1.trans (s.below h.1.size), h.2.1.stb s, fun a ha => (h.2.2 a ha).stb s⟩)
          (fun x h => by
            have := ((unhide HM).below h.1).nums hqM
            rwa [har, hcr, hR] at this)
          (fun c hc => by
            have := ((unhide HG).2.2.2 q c hqM (by omega)).1
            unfold valM
            unfold entry at this ⊢
            rw [hR] at this ⊢
            exact ⟨this, rfl⟩)
          (fun c hc => ((unhide HG).2.2.2 q c hqM (by omega)).2)
          (fun c hc hb => by
            have hst := set_step (k + 1) h64 c (by omega) hb
            have hlen : (elems (del (k + 1) c)).length = q := by have := hst.2.2.2.2.2; unfold sz at this hq; omega
            have hsub : ∀ d ∈ elems (del (k + 1) c), d < n := by
              have hd := del_lt (k + 1) h64 c (by omega) hb
              exact (set_width n hn (del (k + 1) c) (by omega)).2.2.2
            have := detD_bound B80 ((List.range q).map (valM M)) (elems (del (k + 1) c)) (by simp [hlen]) (by
              intro r hr d hd
              obtain ⟨i, hi, rfl⟩ := List.mem_map.1 hr
              exact ((unhide HG).2.2.2 i d (by have := List.mem_range.1 hi; omega) (hsub d hd)).2)
            simpa [NB] using this)
          (NB_small q (by omega)).1 (NB_small q (by omega)).2.1 (NB_small q (by omega)).2.2.1 (by omega) h64
          (fun x c h hc hb => by
            have hst := set_step (k + 1) h64 c (by omega) hb
            have hd := del_lt (k + 1) h64 c (by omega) hb
            have hkp := h.2.2 (del (k + 1) c) (by omega)
            have e : dm M (del (k + 1) c) = detD ((List.range q).map (valM M)) (elems (del (k + 1) c)) := by
              unfold dm
              rw [show sz (del (k + 1) c) = q by omega]
            rw [e] at hkp
            refine (det1_any (w.heap.size + 1) arr (del (k + 1) c) _ x h.2.1 hst.2.2.2.2.1 hkp).mono ?_
            rintro e w' ⟨v, h1, h2, h3⟩
            exact ⟨v, h1, h2, ⟨h.1.trans (h3.mono h.1.size), h.2.1.below h3 h.2.1.lt, fun a ha => (h.2.2 a ha).below h3⟩, .of h3 none⟩)
          w' hw' hw'.1.size (fun m e => by cases e))
      have hI0 := hide (And.intro (unhide hB) (And.intro (unhide hA) (unhide hK)))
      subst hao
      have hqI : ((q : Int)) < (n : Int) := by omega
      have hkI : (k : Int) < (full : Int) := by omega
      have hsz := (unhide hX).lt
      clear hMr hc hrl w1 w2 w3 w4 hpos har hcr hR hA hK
      go_wp2_with (go_at_call 20; refine (unhide CS _).mono ?_; rintro e w' ⟨rfl, rfl⟩)
      rw [show ((k + 1 : Nat) : Int) = (k : Int) + 1 from rfl] at CE
      refine (unhide CE _ (unhide hI0)).mono ?_
      rintro e w2 ⟨v, rfl, hv, ⟨hB2, hA2, hK2⟩, hf2⟩
      rw [hdm.out] at hv
      obtain ⟨n2, a2, c2, L2, rfl, i2⟩ := hv
      have hv : IsNum 0 w2 (.agg #[.bool n2, .slice a2 L2.length c2]) (dm M (k + 1)) := ⟨n2, a2, c2, L2, rfl, i2⟩
      have hbw : Below wr.heap.size wr w2 := hf2.below (Nat.le_refl _) (fun m e => by cases e)
      have hx2 := (unhide hX).below hbw hsz
      have hs2 := hA2.2.1
      have y0 := hA2.cell ((k + 1) * 2); have y1 := hA2.cell ((k + 1) * 2 + 1); have f0 := hA2.free ((k + 1) * 2); have f1 := hA2.free ((k + 1) * 2 + 1)
      rw [Array.getElem?_eq_getElem (by omega)] at y0 y1
      generalize arr[(k + 1) * 2]'(by omega) = zx at *
      generalize arr[(k + 1) * 2 + 1]'(by omega) = zy at *
      have A3 := hide (hA2.set2 ((k + 1) * 2) ((k + 1) * 2 + 1) (u := .bool n2) (u' := .slice a2 L2.length c2) rfl rfl)
      have K3 : Hid (∀ s, s ≤ k + 1 → KeptAt ((w2.setCell ⟨w.heap.size + 1, (k + 1) * 2, none⟩ (.bool n2)).setCell ⟨w.heap.size + 1, (k + 1) * 2 + 1, none⟩ (.slice a2 L2.length c2)) ((arr.setIfInBounds ((k + 1) * 2) (.bool n2)).setIfInBounds ((k + 1) * 2 + 1) (.slice a2 L2.length c2)) s (dm M s)) := hide (fun s (hs : s ≤ k + 1) => by
        by_cases e : s = k + 1
        · subst e; exact KeptAt.new hv hA2 (t := k + 1) h64
        · exact (hK2 s (by omega)).other hA2 e (.bool n2) (.slice a2 L2.length c2))
      have X3 := hide (hx2.other2 (show w.heap.size ≠ w.heap.size + 1 by omega) ((k + 1) * 2) ((k + 1) * 2 + 1) (.bool n2) (.slice a2 L2.length c2))
      have B3 := hide ((hB2.setCell (p := ⟨w.heap.size + 1, (k + 1) * 2, none⟩) (by simp) (.bool n2)).setCell (p := ⟨w.heap.size + 1, (k + 1) * 2 + 1, none⟩) (by simp) (.slice a2 L2.length c2))
      have hkt : ((k : Int) + 1).toNat = k + 1 := by omega
      have hk64 : (k : Int) + 1 < 64 := by omega
      clear hv hI0 CE CS hdm i2 hbw hx2 hA2 hK2 hB2 hf2 hX hB
      go_wp2_with fail
      go_roundw
      case rel => exact ⟨k + 1, _, by omega, by go_num, A3, K3, X3, B3⟩
      case measure => simp [intOf]; omega
    · have hkk : k = full := by omega
      have hK0 := unhide hK full (by omega)
      obtain ⟨n2, a2, L2, c2, k1, k2, k3⟩ := hK0
      have y0 := (unhide hA).cell (full * 2); have y1 := (unhide hA).cell (full * 2 + 1)
      rw [k1] at y0; rw [k2] at y1
      have x0 := unhide hX
      have e0 := x0.c0; have e1 := x0.c1; have f0 := x0.free 0; have f1 := x0.free 1
      have N3 := hide (k3.stb (Stb.put2 (Base := 0) x0 (Nat.zero_le _) (.bool n2) (.slice a2 L2 c2)))
      have B3 := hide (((unhide hB).setCell (p := ⟨w.heap.size, 0, none⟩) (Nat.le_refl _) (.bool n2)).setCell (p := ⟨w.heap.size, 1, none⟩) (Nat.le_refl _) (.slice a2 L2 c2))
      have hf64I : (full : Int) < 64 := by omega
      subst hkk
      clear k1 k2 k3 x0 hX hB hA hK
      go_wp2
      refine bodyPost_ret (v := .agg #[.bool n2, .slice a2 L2 c2]) (by simp [results, Try.results31, go_sem, e0, e1]) rfl ⟨_, rfl, by rw [hfull]; exact unhide N3, unhide B3⟩

end Go.Proofs.Ytnpogpoknbgodaa

