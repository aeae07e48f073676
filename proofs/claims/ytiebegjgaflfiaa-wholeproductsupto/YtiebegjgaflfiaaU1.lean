/- Contract of the reference's single: limbs times one limb. -/
import Derived.Test.YtiebegjgaflfiaaR2
import Derived.Test.YtiebegjgaflfiaaNum4
namespace Go.Proofs.Ytiebegjgaflfiaa
open Go.RowKit

theorem single_step (A S : List Nat) (x c y : Nat) (hy : A[S.length]?.getD 0 = y) (h : val S + 4294967296 ^ S.length * c = val (A.take S.length) * x) :
    val (S ++ [(y * x + c) % 4294967296]) + 4294967296 ^ (S.length + 1) * ((y * x + c) / 4294967296) = val (A.take (S.length + 1)) * x := by
  rw [val_snoc, val_take_succ A, hy, Nat.add_mul]
  have e := pow_step (4294967296 ^ S.length) 4294967296 (y * x + c)
  rw [Nat.pow_succ]
  rw [Nat.mul_add, ← Nat.mul_assoc] at e
  omega

theorem single_casts (x y c : Nat) : (((y * x + c) % 4294967296 : Nat) : Int) = ((y : Int) * (x : Int) + (c : Int)) % 4294967296 ∧ (((y * x + c) / 4294967296 : Nat) : Int) = ((y : Int) * (x : Int) + (c : Int)) / 4294967296 := by
  have e : ((y * x : Nat) : Int) = (y : Int) * (x : Int) := Int.natCast_mul y x
  rw [← e]
  omega

set_option maxHeartbeats 400000 in
theorem single_any (ao : Option Addr) (ca : Nat) (A : List Nat) (x : Nat) (w : World) (hA : LimbsAt w ao ca A) (bx : x < 4294967296) (la : A.length ≤ 1073741824) :
    Calls Try.prog 42 #[.slice ao A.length ca, .int .u32 (x : Int)] w fun e w' => ∃ ao' cap' L', e = .returned (.slice ao' L'.length cap') ∧ LimbsAt w' ao' cap' L' ∧ NewAt w.heap.size ao' L' ∧ L'.length = A.length + 1 ∧ val L' = val A * x ∧ Below w.heap.size w w' := by
  obtain ⟨i0, hi, hz0, hz1, hz2⟩ := info_parts Try.info48
  have hst := fun (S : List Nat) (c y : Nat) => single_step A S x c y
  have hen : ∀ (S : List Nat) (c : Nat), S.length = A.length → val S + 4294967296 ^ S.length * c = val (A.take S.length) * x → val (S ++ [c]) = val A * x := by
    intro S c hl h
    rw [val_snoc, h, hl, List.take_length]
  have HST := hide hst
  have HEN := hide hen
  clear hst hen
  go_enter Try.func42, Try.ntmps42
  go_wp2
  go_loopw [5, 6, 7, 8] (fun v c i _ wr => ∃ (S : List Nat) (y : Nat), S.length ≤ A.length ∧ i = .int .i64 (S.length : Nat) ∧ c = .int .u64 y ∧ y < 4294967296 ∧ wr.ownsRow w.heap.size 48 1 v S.length (S.map limbV) ∧ Fits S ∧ Below w.heap.size w wr ∧ Hid (val S + 4294967296 ^ S.length * y = val (A.take S.length) * x))
    (fun _ _ i _ _ => A.length - (intOf i).toNat)
  case atStart =>
    refine ⟨[], 0, by simp, rfl, rfl, by omega, ?_, by intro x hx; simp at hx, (Below.refl _ _).alloc (Nat.le_refl _) _, by unfold Hid; simp [val]⟩
    exact World.ownsRow_made w #[] 0 (Nat.le_refl _) (by simp [maxLen]) (by simp)
  case round =>
    obtain ⟨S, y, hk, rfl, rfl, hy, hown, hf, hbel, hv⟩ := hrel
    by_cases hlt : S.length < A.length
    · obtain ⟨z, hz⟩ : ∃ z, A[S.length]?.getD 0 = z := ⟨_, rfl⟩
      have bz : z < 4294967296 := by rw [← hz]; exact hA.lt _
      obtain ⟨b1, o1, hao, hb1', hc1⟩ := hA.ne (by omega)
      have ca1 := hc1 S.length hlt
      rw [hz] at ca1
      have dA : wr.cell? ⟨b1, o1 + S.length, none⟩ = some (.int .u32 (z : Int)) := by rw [hbel.cell (p := ⟨b1, o1 + S.length, none⟩) hb1']; exact ca1
      have HS2 := hide (unhide HST S y z hz hv.out)
      have hzx := mul_lt z x bz bx
      obtain ⟨hzxI, hzx0⟩ := mul_ltI z x bz bx
      obtain ⟨ec, ed⟩ := single_casts x z y
      have by' : (z * x + y) / 4294967296 < 4294967296 := by omega
      have EC := hide ec; have ED := hide ed; have BY := hide by'
      have hsz := hbel.size
      have HF := hide hf
      clear hz hv HST HEN hf hc1 ca1 ec ed by' hzx
      subst hao
      generalize hSl : S.length = k at *
      have HSL := hide hSl
      clear hSl
      have hki : (k : Int) < (A.length : Int) := by omega
      go_wp2_with (at_builtin; refine wpList_append_own _ rfl _ _ 22 rfl w.heap.size 48 i0 (.int .u32 0) 1 4 Try.underlying22 hi hz0 hz1 hz2 rfl (by decide) _ _ _ rfl (hown.alloc _) ⟨wr.heap.size, 0, none⟩ 1 1 [.int .u32 (((z : Int) * (x : Int) + (y : Int)) % 4294967296)] rfl rfl (cell_one_new _ _ _) (fun u hu => by simp at hu; subst hu; rfl) (by unfold maxLen; omega) (by omega) (by simp; omega) ?_; intro v' w1 hown' hgrow _; have hbl : Below w.heap.size w w1 := ((hbel.alloc hsz _).grown hgrow (by simp; omega) (fun g hg => (hown.lt g hg).1)); have ho2 := hide (own_snoc (x := (z * x + y) % 4294967296) hown' (unhide EC).symm); clear hown' hgrow)
      have hS2 := unhide HS2
      have hl2 : (S ++ [(z * x + y) % 4294967296]).length = k + 1 := by simp [unhide HSL]
      go_roundw
      case rel => exact ⟨S ++ [(z * x + y) % 4294967296], (z * x + y) / 4294967296, by omega, by rw [hl2]; go_num, int_eq (unhide ED).symm, unhide BY, by rw [hl2]; exact unhide ho2, (unhide HF).snoc (Nat.mod_lt _ (by decide)), hbl, by rw [hl2]; exact hS2⟩
      case measure => simp [intOf]; omega
    · have hsl : S.length = A.length := by omega
      have hend := unhide HEN S y hsl hv.out
      have HEND := hide hend
      have HSL := hide hsl
      have hsz := hbel.size
      have HF := hide (hf.snoc hy)
      clear hend hv HST HEN hf hsl
      have hki : ¬ ((S.length : Nat) : Int) < (A.length : Int) := by omega
      go_wp2_with (at_builtin; refine wpList_append_own _ rfl _ _ 22 rfl w.heap.size 48 i0 (.int .u32 0) 1 4 Try.underlying22 hi hz0 hz1 hz2 rfl (by decide) _ _ _ rfl (hown.alloc _) ⟨wr.heap.size, 0, none⟩ 1 1 [.int .u32 (y : Int)] rfl rfl (cell_one_new _ _ _) (fun u hu => by simp at hu; subst hu; rfl) (by unfold maxLen; omega) (by omega) (by simp; omega) ?_; intro v' w1 hown' hgrow _; have hbl : Below w.heap.size w w1 := ((hbel.alloc hsz _).grown hgrow (by simp; omega) (fun g hg => (hown.lt g hg).1)); have ho2 := hide (own_snoc (x := y) hown' rfl); clear hown' hgrow)
      obtain ⟨ao', cap', e1, e2, e3, e4⟩ := own_limbs (unhide ho2) (unhide HF)
      subst e1
      go_ret
      exact ⟨ao', cap', S ++ [y], rfl, e2, e3, by have := unhide HSL; simp; omega, unhide HEND, hbl⟩

end Go.Proofs.Ytiebegjgaflfiaa
