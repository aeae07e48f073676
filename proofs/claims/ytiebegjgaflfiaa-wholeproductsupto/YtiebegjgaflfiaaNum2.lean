/- Plain mathematics, more: differences. -/
import Derived.Test.YtiebegjgaflfiaaNum
namespace Go.Proofs.Ytiebegjgaflfiaa

/-- One step of a difference: t is the limb that is left, c' the new borrow. -/
theorem sub_step (A B S : List Nat) (k c x y t c' : Nat) (hk : k < S.length) (hx : A[k]?.getD 0 = x) (hy : B[k]?.getD 0 = y) (ht : t + y + c = x + 4294967296 * c') (h : val (S.take k) + val (B.take k) = val (A.take k) + 4294967296 ^ k * c) :
    val ((S.set k t).take (k + 1)) + val (B.take (k + 1)) = val (A.take (k + 1)) + 4294967296 ^ (k + 1) * c' := by
  rw [val_set_take S k _ hk, val_take_succ A k, val_take_succ B k, hx, hy, Nat.pow_succ]
  have e : 4294967296 ^ k * (t + y + c) = 4294967296 ^ k * (x + 4294967296 * c') := by rw [ht]
  rw [Nat.mul_add, Nat.mul_add, Nat.mul_add, ← Nat.mul_assoc] at e
  omega

theorem sub_end (A B S : List Nat) (n c : Nat) (hS : Fits S) (hn : S.length = n) (ha : A.length = n) (hv : val B ≤ val A) (hB : val (B.take n) = val B) (h : val (S.take n) + val (B.take n) = val (A.take n) + 4294967296 ^ n * c) :
    val S = val A - val B := by
  rw [val_take_all S n (by omega), val_take_all A n (by omega), hB] at h
  have h1 := val_lt S hS
  rw [hn] at h1
  rcases Nat.eq_zero_or_pos c with hc | hc
  · subst hc; omega
  · have h4 := Nat.mul_le_mul_left (4294967296 ^ n) hc
    omega

/-- What is no more than A has no more limbs that count. -/
theorem take_le (A B : List Nat) (hA : Fits A) (hv : val B ≤ val A) : val (B.take A.length) = val B := by
  have h1 := val_split B A.length
  have h2 := val_lt A hA
  rcases Nat.eq_zero_or_pos (val (B.drop A.length)) with e | e
  · rw [e] at h1; omega
  · have h4 := Nat.mul_le_mul_left (4294967296 ^ A.length) e
    omega

end Go.Proofs.Ytiebegjgaflfiaa
