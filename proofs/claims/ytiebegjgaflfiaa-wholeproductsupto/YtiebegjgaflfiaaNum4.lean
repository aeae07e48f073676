/- Plain mathematics, more: products. -/
import Derived.Test.YtiebegjgaflfiaaNum3
namespace Go.Proofs.Ytiebegjgaflfiaa

theorem val_set : ∀ (S : List Nat) (j t : Nat), j < S.length → val (S.set j t) + 4294967296 ^ j * (S[j]?.getD 0) = val S + 4294967296 ^ j * t
  | [], _, _, h => by simp at h
  | x :: r, 0, t, _ => by simp [val]; omega
  | x :: r, j + 1, t, h => by
    have ih := val_set r j t (by simpa using h)
    simp only [List.set_cons_succ, val, List.getElem?_cons_succ, Nat.pow_succ]
    have e1 : 4294967296 ^ j * 4294967296 * (r[j]?.getD 0) = 4294967296 * (4294967296 ^ j * (r[j]?.getD 0)) := by rw [Nat.mul_comm (4294967296 ^ j), Nat.mul_assoc]
    have e2 : 4294967296 ^ j * 4294967296 * t = 4294967296 * (4294967296 ^ j * t) := by rw [Nat.mul_comm (4294967296 ^ j), Nat.mul_assoc]
    rw [e1, e2]
    omega

theorem getD_set_ne (S : List Nat) (j k t : Nat) (h : k ≠ j) : (S.set j t)[k]?.getD 0 = S[k]?.getD 0 := by
  rw [List.getElem?_set_ne (by omega)]

theorem mul_lt (x y : Nat) (hx : x < 4294967296) (hy : y < 4294967296) : x * y ≤ 18446744065119617025 := by
  have := Nat.mul_le_mul (show x ≤ 4294967295 by omega) (show y ≤ 4294967295 by omega)
  simpa using this

theorem mul_ltI (x y : Nat) (hx : x < 4294967296) (hy : y < 4294967296) : (x : Int) * (y : Int) ≤ 18446744065119617025 ∧ (0 : Int) ≤ (x : Int) * (y : Int) := by
  have h := mul_lt x y hx hy
  have e : ((x * y : Nat) : Int) = (x : Int) * (y : Int) := Int.natCast_mul x y
  rw [← e]
  omega
theorem mul_casts (x y z q : Nat) : (((y + (x * z + q)) % 4294967296 : Nat) : Int) = ((y : Int) + ((x : Int) * (z : Int) + (q : Int))) % 4294967296 ∧ (((y + (x * z + q)) / 4294967296 : Nat) : Int) = ((y : Int) + ((x : Int) * (z : Int) + (q : Int))) / 4294967296 := by
  have e : ((x * z : Nat) : Int) = (x : Int) * (z : Int) := Int.natCast_mul x z
  rw [← e]
  omega

/-- One step of the inner loop. -/
theorem mul_step (B Q : List Nat) (V x i k c y q : Nat) (hk : i + k < Q.length) (hy : B[k]?.getD 0 = y) (hq : Q[i + k]?.getD 0 = q) (h : val Q + 4294967296 ^ (i + k) * c = V + 4294967296 ^ i * x * val (B.take k)) :
    val (Q.set (i + k) ((c + (x * y + q)) % 4294967296)) + 4294967296 ^ (i + (k + 1)) * ((c + (x * y + q)) / 4294967296) = V + 4294967296 ^ i * x * val (B.take (k + 1)) := by
  have h1 := val_set Q (i + k) ((c + (x * y + q)) % 4294967296) hk
  rw [hq] at h1
  have e := pow_step (4294967296 ^ (i + k)) 4294967296 (c + (x * y + q))
  rw [show 4294967296 ^ (i + (k + 1)) = 4294967296 ^ (i + k) * 4294967296 by rw [← Nat.add_assoc, Nat.pow_succ], val_take_succ B k, hy]
  have e2 : 4294967296 ^ i * x * (val (B.take k) + 4294967296 ^ k * y) = 4294967296 ^ i * x * val (B.take k) + 4294967296 ^ (i + k) * (x * y) := by
    rw [Nat.mul_add, Nat.pow_add]
    congr 1
    rw [Nat.mul_assoc, Nat.mul_assoc, ← Nat.mul_assoc x, Nat.mul_comm x, Nat.mul_assoc]
  rw [e2]
  have e3 : 4294967296 ^ (i + k) * (c + (x * y + q)) = 4294967296 ^ (i + k) * c + 4294967296 ^ (i + k) * (x * y) + 4294967296 ^ (i + k) * q := by rw [Nat.mul_add, Nat.mul_add]; omega
  omega

/-- The carry put on top. -/
theorem mul_top (A B Q : List Nat) (x i c : Nat) (hk : i + B.length < Q.length) (hx : A[i]?.getD 0 = x) (hq : Q[i + B.length]?.getD 0 = 0) (h : val Q + 4294967296 ^ (i + B.length) * c = val (A.take i) * val B + 4294967296 ^ i * x * val (B.take B.length)) :
    val (Q.set (i + B.length) c) = val (A.take (i + 1)) * val B := by
  have h1 := val_set Q (i + B.length) c hk
  rw [hq, Nat.mul_zero] at h1
  rw [List.take_length] at h
  rw [val_take_succ A i, hx, Nat.add_mul]
  omega

end Go.Proofs.Ytiebegjgaflfiaa
