/- Plain mathematics, more: shifts. -/
import Derived.Test.YtiebegjgaflfiaaNum4
namespace Go.Proofs.Ytiebegjgaflfiaa

theorem or_disj (s y p : Nat) (hs : s < 2 ^ p) (hy : y % 2 ^ p = 0) : s ||| y = s + y := by
  have h := Nat.two_pow_add_eq_or_of_lt hs (y / 2 ^ p)
  have e : 2 ^ p * (y / 2 ^ p) = y := by have := Nat.div_add_mod y (2 ^ p); omega
  rw [e] at h
  rw [Nat.or_comm, ← h]; omega

theorem wide_low (x p : Nat) (hp : p ≤ 32) : (x * 2 ^ p) % 4294967296 % 2 ^ p = 0 := by
  have e : (4294967296 : Nat) = 2 ^ p * 2 ^ (32 - p) := by rw [← Nat.pow_add, show p + (32 - p) = 32 by omega]
  rw [e, Nat.mod_mul_right_mod]
  exact Nat.mul_mod_left _ _

theorem wide_high (x p : Nat) (hx : x < 4294967296) (_hp : p ≤ 31) : (x * 2 ^ p) / 4294967296 < 2 ^ p := by
  rw [Nat.div_lt_iff_lt_mul (by decide), Nat.mul_comm]
  exact Nat.mul_lt_mul_of_pos_left hx (Nat.pow_pos (by decide))

theorem wide_lt (x p : Nat) (hx : x < 4294967296) (hp : p ≤ 31) : x * 2 ^ p < 9223372036854775808 := by
  have h1 : 2 ^ p ≤ 2 ^ 31 := Nat.pow_le_pow_right (by decide) hp
  have h2 := Nat.mul_le_mul (show x ≤ 4294967295 by omega) h1
  omega

/-- One step up: the low part is put into a limb that holds less than 2^p, the high part into the next, which is 0. -/
theorem up_step (A S : List Nat) (i l p x s : Nat) (hlen : i + l + 1 < S.length) (hx : A[i]?.getD 0 = x) (hs : S[i + l]?.getD 0 = s) (h0 : S[i + l + 1]?.getD 0 = 0) (h : val S = 4294967296 ^ l * 2 ^ p * val (A.take i)) :
    val ((S.set (i + l) (s + (x * 2 ^ p) % 4294967296)).set (i + l + 1) ((x * 2 ^ p) / 4294967296)) = 4294967296 ^ l * 2 ^ p * val (A.take (i + 1)) := by
  have h1 := val_set S (i + l) (s + (x * 2 ^ p) % 4294967296) (by omega)
  have h2 := val_set (S.set (i + l) (s + (x * 2 ^ p) % 4294967296)) (i + l + 1) ((x * 2 ^ p) / 4294967296) (by simpa using hlen)
  rw [getD_set_ne _ _ _ _ (by omega), h0, Nat.mul_zero] at h2
  rw [hs, Nat.mul_add] at h1
  have e := pow_step (4294967296 ^ (i + l)) 4294967296 (x * 2 ^ p)
  rw [Nat.pow_succ] at h2
  rw [val_take_succ A i, hx, Nat.mul_add]
  have e2 : 4294967296 ^ l * 2 ^ p * (4294967296 ^ i * x) = 4294967296 ^ (i + l) * (x * 2 ^ p) := by
    rw [Nat.pow_add]
    rw [Nat.mul_assoc, Nat.mul_comm (4294967296 ^ i) (4294967296 ^ l), Nat.mul_assoc]
    congr 1
    rw [Nat.mul_comm (2 ^ p), Nat.mul_assoc]
  rw [e2]
  omega

theorem val_drop (L : List Nat) (h : Fits L) (k : Nat) : val (L.drop k) = val L / 4294967296 ^ k := by
  have h1 := val_split L k
  have h2 := val_take_lt L h k
  rw [h1, Nat.add_comm, Nat.mul_comm, Nat.add_comm]
  rw [Nat.add_mul_div_right _ _ (Nat.pow_pos (by decide)), Nat.div_eq_of_lt h2, Nat.zero_add]

theorem val_two_more (D : List Nat) : val D = D[0]?.getD 0 + 4294967296 * (D[1]?.getD 0) + 4294967296 * 4294967296 * val (D.drop 2) := by
  match D with
  | [] => simp [val]
  | [x] => simp [val]
  | x :: y :: r => simp only [val, List.getElem?_cons_zero, List.getElem?_cons_succ, Option.getD_some, List.drop_succ_cons, List.drop_zero]; rw [Nat.mul_add, ← Nat.mul_assoc]; omega

/-- What lies two limbs higher does not come into the limb. -/
theorem limb_of (d0 d1 r p : Nat) (hp : p ≤ 31) : ((d0 + 4294967296 * d1 + 4294967296 * 4294967296 * r) / 2 ^ p) % 4294967296 = ((d0 + 4294967296 * d1) / 2 ^ p) % 4294967296 := by
  have e : (4294967296 * 4294967296 * r : Nat) = 2 ^ p * (2 ^ (32 - p) * (4294967296 * r)) := by
    rw [← Nat.mul_assoc (2 ^ p), ← Nat.pow_add, show p + (32 - p) = 32 by omega]
    rw [Nat.mul_assoc]
  rw [e, Nat.add_mul_div_left _ _ (Nat.pow_pos (by decide)), ← Nat.mul_assoc, Nat.mul_comm (2 ^ (32 - p)), Nat.mul_assoc, Nat.add_mul_mod_self_left]

/-- One step down. -/
theorem down_step (A S : List Nat) (hA : Fits A) (k l p d0 d1 : Nat) (hp : p ≤ 31) (hk : k < S.length) (h0 : A[k + l]?.getD 0 = d0) (h1 : A[k + l + 1]?.getD 0 = d1) (h : val (S.take k) = (val A / (4294967296 ^ l * 2 ^ p)) % 4294967296 ^ k) :
    val ((S.set k (((d0 + 4294967296 * d1) / 2 ^ p) % 4294967296)).take (k + 1)) = (val A / (4294967296 ^ l * 2 ^ p)) % 4294967296 ^ (k + 1) := by
  rw [val_set_take S k _ hk, h, Nat.pow_succ, Nat.mod_mul]
  congr 2
  have e1 : val A / (4294967296 ^ l * 2 ^ p) / 4294967296 ^ k = val (A.drop (k + l)) / 2 ^ p := by
    rw [val_drop A hA, Nat.div_div_eq_div_mul, Nat.div_div_eq_div_mul, Nat.pow_add]
    congr 1
    rw [Nat.mul_comm (4294967296 ^ k), Nat.mul_assoc, Nat.mul_assoc, Nat.mul_comm (2 ^ p)]
  rw [e1, val_two_more (A.drop (k + l)), List.getElem?_drop, List.getElem?_drop, Nat.add_zero, h0, h1, limb_of _ _ _ _ hp]

theorem down_end (A S : List Nat) (hA : Fits A) (l p : Nat) (hl : S.length = A.length - l) (h : val (S.take S.length) = (val A / (4294967296 ^ l * 2 ^ p)) % 4294967296 ^ S.length) : val S = val A / (4294967296 ^ l * 2 ^ p) := by
  rw [List.take_length] at h
  rw [h]
  apply Nat.mod_eq_of_lt
  have h1 := val_lt A hA
  have h2 : val A / (4294967296 ^ l * 2 ^ p) ≤ val A / 4294967296 ^ l := by
    rw [← Nat.div_div_eq_div_mul]; exact Nat.div_le_self _ _
  refine Nat.lt_of_le_of_lt h2 ?_
  rw [Nat.div_lt_iff_lt_mul (Nat.pow_pos (by decide)), ← Nat.pow_add, hl]
  exact Nat.lt_of_lt_of_le h1 (Nat.pow_le_pow_right (by decide) (by omega))

theorem two_pow_32 (l p : Nat) : 4294967296 ^ l * 2 ^ p = 2 ^ (32 * l + p) := by
  rw [Nat.pow_add, Nat.pow_mul]

end Go.Proofs.Ytiebegjgaflfiaa
