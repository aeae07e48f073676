/- Plain mathematics, more: lists that grow at their end. -/
import Derived.Test.YtiebegjgaflfiaaNum2
namespace Go.Proofs.Ytiebegjgaflfiaa

theorem val_snoc (S : List Nat) (x : Nat) : val (S ++ [x]) = val S + 4294967296 ^ S.length * x := by rw [val_append]; simp [val]

theorem Fits.snoc {S : List Nat} (h : Fits S) {x : Nat} (hx : x < 4294967296) : Fits (S ++ [x]) := fun y hy => by
  rcases List.mem_append.1 hy with h1 | h1
  · exact h y h1
  · simp at h1; omega

theorem plus_step (A B S : List Nat) (c x y : Nat) (hx : A[S.length]?.getD 0 = x) (hy : B[S.length]?.getD 0 = y) (h : val S + 4294967296 ^ S.length * c = val (A.take S.length) + val (B.take S.length)) :
    val (S ++ [(x + y + c) % 4294967296]) + 4294967296 ^ (S.length + 1) * ((x + y + c) / 4294967296) = val (A.take (S.length + 1)) + val (B.take (S.length + 1)) := by
  rw [val_snoc, val_take_succ A, val_take_succ B, hx, hy]
  have e := pow_step (4294967296 ^ S.length) 4294967296 (x + y + c)
  rw [Nat.pow_succ]
  rw [Nat.mul_add, Nat.mul_add] at e
  omega

theorem minus_step (A B S : List Nat) (c x y t c' : Nat) (hx : A[S.length]?.getD 0 = x) (hy : B[S.length]?.getD 0 = y) (ht : t + y + c = x + 4294967296 * c') (h : val S + val (B.take S.length) = val (A.take S.length) + 4294967296 ^ S.length * c) :
    val (S ++ [t]) + val (B.take (S.length + 1)) = val (A.take (S.length + 1)) + 4294967296 ^ (S.length + 1) * c' := by
  rw [val_snoc, val_take_succ A, val_take_succ B, hx, hy, Nat.pow_succ]
  have e : 4294967296 ^ S.length * (t + y + c) = 4294967296 ^ S.length * (x + 4294967296 * c') := by rw [ht]
  rw [Nat.mul_add, Nat.mul_add, Nat.mul_add, ← Nat.mul_assoc] at e
  omega

end Go.Proofs.Ytiebegjgaflfiaa
