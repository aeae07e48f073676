/- Plain mathematics of lists of limbs: their value, and that a list without a 0 on top is known by its value. Nothing of Go, nothing of the program. -/
namespace Go.Proofs.Ytiebegjgaflfiaa

/-- The value of limbs, the lowest first. -/
def val : List Nat → Nat
  | [] => 0
  | x :: r => x + 4294967296 * val r

/-- No 0 on top. -/
def Canon (L : List Nat) : Prop := L = [] ∨ L[L.length - 1]?.getD 0 ≠ 0

/-- Each limb fits. -/
def Fits (L : List Nat) : Prop := ∀ x ∈ L, x < 4294967296

theorem val_append (A B : List Nat) : val (A ++ B) = val A + 4294967296 ^ A.length * val B := by
  induction A with
  | nil => simp [val]
  | cons x r ih => simp only [List.cons_append, val, ih, List.length_cons, Nat.pow_succ]; rw [Nat.mul_add, ← Nat.mul_assoc, Nat.mul_comm 4294967296 (4294967296 ^ r.length)]; omega

theorem val_take_succ (L : List Nat) (k : Nat) : val (L.take (k + 1)) = val (L.take k) + 4294967296 ^ k * (L[k]?.getD 0) := by
  by_cases h : k < L.length
  · rw [List.take_succ_eq_append_getElem h, val_append, List.getElem?_eq_getElem h]
    simp [val, Nat.min_eq_left (Nat.le_of_lt h)]
  · rw [List.take_of_length_le (by omega), List.take_of_length_le (by omega), List.getElem?_eq_none (by omega)]; simp

theorem val_take_all (L : List Nat) (k : Nat) (h : L.length ≤ k) : val (L.take k) = val L := by rw [List.take_of_length_le h]

theorem val_lt (L : List Nat) (h : Fits L) : val L < 4294967296 ^ L.length := by
  induction L with
  | nil => simp [val]
  | cons x r ih =>
    have h1 := ih (fun y hy => h y (by simp [hy]))
    have h2 := h x (by simp)
    simp only [val, List.length_cons, Nat.pow_succ]
    have h3 : val r + 1 ≤ 4294967296 ^ r.length := h1
    have h4 := Nat.mul_le_mul_right 4294967296 h3
    omega

theorem Fits.take {L : List Nat} (h : Fits L) (n : Nat) : Fits (L.take n) := fun x hx => h x (List.mem_of_mem_take hx)
theorem Fits.tail {x : Nat} {r : List Nat} (h : Fits (x :: r)) : Fits r := fun y hy => h y (by simp [hy])

theorem val_take_lt (L : List Nat) (h : Fits L) (k : Nat) : val (L.take k) < 4294967296 ^ k := by
  have h1 := val_lt _ (h.take k)
  refine Nat.lt_of_lt_of_le h1 (Nat.pow_le_pow_right (by decide) ?_)
  simp; omega

/-- A list with a top that is not 0 is at least that power. -/
theorem val_ge (L : List Nat) (h : L[L.length - 1]?.getD 0 ≠ 0) : 4294967296 ^ (L.length - 1) ≤ val L := by
  have hp : 0 < L.length := by
    rcases Nat.eq_zero_or_pos L.length with e | e
    · have : L = [] := List.length_eq_zero_iff.1 e
      subst this; simp at h
    · exact e
  have h1 := val_take_succ L (L.length - 1)
  rw [show L.length - 1 + 1 = L.length by omega, List.take_length] at h1
  rw [h1]
  have h2 := Nat.mul_le_mul_left (4294967296 ^ (L.length - 1)) (show 1 ≤ L[L.length - 1]?.getD 0 by omega)
  omega

/-- Lists of one length, of fitting limbs and one value are one. -/
theorem eq_of_val : ∀ (A B : List Nat), Fits A → Fits B → A.length = B.length → val A = val B → A = B
  | [], [], _, _, _, _ => rfl
  | [], _ :: _, _, _, h, _ => by simp at h
  | _ :: _, [], _, _, h, _ => by simp at h
  | x :: r, y :: s, hA, hB, hl, hv => by
    have hx := hA x (by simp)
    have hy := hB y (by simp)
    simp only [val] at hv
    have e1 : x = y := by omega
    have e2 : val r = val s := by omega
    rw [e1, eq_of_val r s hA.tail hB.tail (by simpa using hl) e2]

theorem length_le_of_val (A B : List Nat) (hB : Fits B) (cA : Canon A) (h : val A ≤ val B) : A.length ≤ B.length := by
  rcases cA with rfl | hA
  · simp
  · have h1 := val_ge A hA
    have h2 := val_lt B hB
    have h3 : 4294967296 ^ (A.length - 1) < 4294967296 ^ B.length := by omega
    have h4 := (Nat.pow_lt_pow_iff_right (show 1 < 4294967296 by decide)).1 h3
    omega

/-- Without a 0 on top a list is known by its value. -/
theorem eq_of_canon (A B : List Nat) (hA : Fits A) (hB : Fits B) (cA : Canon A) (cB : Canon B) (h : val A = val B) : A = B :=
  eq_of_val A B hA hB (Nat.le_antisymm (length_le_of_val A B hB cA (by omega)) (length_le_of_val B A hA cB (by omega))) h

theorem val_zero_of_canon (A : List Nat) (cA : Canon A) : val A = 0 ↔ A = [] := by
  constructor
  · intro h
    rcases cA with rfl | hA
    · rfl
    · have h1 := val_ge A hA
      have h2 : 0 < 4294967296 ^ (A.length - 1) := Nat.pow_pos (by decide)
      omega
  · rintro rfl; rfl

theorem length_le_iff (A : List Nat) (hA : Fits A) (cA : Canon A) (k : Nat) : A.length ≤ k ↔ val A < 4294967296 ^ k := by
  constructor
  · intro h
    exact Nat.lt_of_lt_of_le (val_lt A hA) (Nat.pow_le_pow_right (by decide) h)
  · intro h
    rcases cA with rfl | c
    · simp
    · have h1 := val_ge A c
      have h3 : 4294967296 ^ (A.length - 1) < 4294967296 ^ k := by omega
      have h4 := (Nat.pow_lt_pow_iff_right (show 1 < 4294967296 by decide)).1 h3
      omega

/-- A 0 on top adds nothing. -/
theorem val_take_pred (L : List Nat) (n : Nat) (h : L[n - 1]?.getD 0 = 0) : val (L.take (n - 1)) = val (L.take n) := by
  rcases Nat.eq_zero_or_pos n with rfl | hp
  · rfl
  · have h1 := val_take_succ L (n - 1)
    rw [h, show n - 1 + 1 = n by omega] at h1
    omega

theorem val_ext : ∀ (A B : List Nat), (∀ i : Nat, A[i]?.getD 0 = B[i]?.getD 0) → val A = val B
  | [], [], _ => rfl
  | [], y :: s, h => by
    have h0 := h 0
    have hr := val_ext [] s (fun i => by have := h (i + 1); simpa using this)
    simp at h0; simp only [val] at hr ⊢; omega
  | x :: r, [], h => by
    have h0 := h 0
    have hr := val_ext r [] (fun i => by have := h (i + 1); simpa using this)
    simp at h0; simp only [val] at hr ⊢; omega
  | x :: r, y :: s, h => by
    have h0 := h 0
    have hr := val_ext r s (fun i => by have := h (i + 1); simpa using this)
    simp at h0; simp only [val]; omega

theorem val_split (L : List Nat) (k : Nat) : val L = val (L.take k) + 4294967296 ^ k * val (L.drop k) := by
  by_cases h : k ≤ L.length
  · have h1 := val_append (L.take k) (L.drop k)
    rw [List.take_append_drop, List.length_take, Nat.min_eq_left h] at h1
    exact h1
  · rw [List.take_of_length_le (by omega), List.drop_of_length_le (by omega)]; simp [val]

/-- The topmost limb that differs decides. -/
theorem lt_of_top (A B : List Nat) (hA : Fits A) (t : Nat) (heq : ∀ i, t < i → A[i]?.getD 0 = B[i]?.getD 0) (hlt : A[t]?.getD 0 < B[t]?.getD 0) : val A < val B := by
  have a1 := val_split A (t + 1)
  have b1 := val_split B (t + 1)
  have a2 := val_take_succ A t
  have b2 := val_take_succ B t
  have a3 := val_take_lt A hA t
  have e : val (A.drop (t + 1)) = val (B.drop (t + 1)) := val_ext _ _ (fun i => by
    have := heq (t + 1 + i) (by omega)
    simpa [List.getElem?_drop] using this)
  rw [e] at a1
  have m := Nat.mul_le_mul_left (4294967296 ^ t) (show A[t]?.getD 0 + 1 ≤ B[t]?.getD 0 by omega)
  rw [Nat.mul_add, Nat.mul_one] at m
  omega

theorem set_take (S : List Nat) (k x : Nat) : (S.set k x).take k = S.take k := by
  rw [List.take_set]
  exact List.set_eq_of_length_le (by simp; omega)

theorem val_set_take (S : List Nat) (k x : Nat) (h : k < S.length) : val ((S.set k x).take (k + 1)) = val (S.take k) + 4294967296 ^ k * x := by
  rw [val_take_succ, set_take, List.getElem?_set_self h]; rfl

theorem pow_step (P b t : Nat) : P * (t % b) + P * b * (t / b) = P * t := by
  rw [Nat.mul_assoc, ← Nat.mul_add, Nat.mod_add_div]

theorem Fits.set {S : List Nat} (h : Fits S) (k x : Nat) (hx : x < 4294967296) : Fits (S.set k x) := fun y hy => by
  rcases List.mem_or_eq_of_mem_set hy with h1 | h1
  · exact h y h1
  · omega

theorem Fits.zeros (n : Nat) : Fits (List.replicate n 0) := fun y hy => by simp at hy; omega

/-- One step of a sum: a limb of each, and the carry. -/
theorem add_step (A B S : List Nat) (k c x y : Nat) (hk : k < S.length) (hx : A[k]?.getD 0 = x) (hy : B[k]?.getD 0 = y) (h : val (S.take k) + 4294967296 ^ k * c = val (A.take k) + val (B.take k)) :
    val ((S.set k ((c + (x + y)) % 4294967296)).take (k + 1)) + 4294967296 ^ (k + 1) * ((c + (x + y)) / 4294967296) = val (A.take (k + 1)) + val (B.take (k + 1)) := by
  rw [val_set_take S k _ hk, val_take_succ A k, val_take_succ B k, hx, hy]
  have e := pow_step (4294967296 ^ k) 4294967296 (c + (x + y))
  rw [Nat.pow_succ]
  rw [Nat.mul_add, Nat.mul_add] at e
  omega

theorem add_end (A B S : List Nat) (n c : Nat) (hA : Fits A) (hB : Fits B) (ha : A.length + 1 ≤ n) (hb : B.length + 1 ≤ n) (hn : S.length = n) (h : val (S.take n) + 4294967296 ^ n * c = val (A.take n) + val (B.take n)) :
    val S = val A + val B := by
  rw [val_take_all S n (by omega), val_take_all A n (by omega), val_take_all B n (by omega)] at h
  have h1 : val A < 4294967296 ^ (n - 1) := Nat.lt_of_lt_of_le (val_lt A hA) (Nat.pow_le_pow_right (by decide) (by omega))
  have h2 : val B < 4294967296 ^ (n - 1) := Nat.lt_of_lt_of_le (val_lt B hB) (Nat.pow_le_pow_right (by decide) (by omega))
  have h3 : 4294967296 ^ n = 4294967296 ^ (n - 1) * 4294967296 := by rw [← Nat.pow_succ]; congr 1; omega
  rcases Nat.eq_zero_or_pos c with hc | hc
  · subst hc; omega
  · have h4 := Nat.mul_le_mul_left (4294967296 ^ n) hc
    omega

end Go.Proofs.Ytiebegjgaflfiaa
