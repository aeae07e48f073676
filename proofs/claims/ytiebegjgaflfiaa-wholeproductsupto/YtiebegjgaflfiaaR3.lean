/- Contract of the reference's minus. -/
import Derived.Test.YtiebegjgaflfiaaR2
namespace Go.Proofs.Ytiebegjgaflfiaa
open Go.RowKit

set_option maxHeartbeats 400000 in
theorem minus_any (ao bo : Option Addr) (ca cb : Nat) (A B : List Nat) (w : World) (hA : LimbsAt w ao ca A) (hB : LimbsAt w bo cb B) (la : A.length ≤ 35184372088830) (lb : B.length ≤ 35184372088830) (hv : val B ≤ val A) :
    Calls Try.prog 38 #[.slice ao A.length ca, .slice bo B.length cb] w fun e w' => ∃ ao' cap' L', e = .returned (.slice ao' L'.length cap') ∧ LimbsAt w' ao' cap' L' ∧ NewAt w.heap.size ao' L' ∧ L'.length = A.length ∧ val L' = val A - val B ∧ Below w.heap.size w w' := by
  obtain ⟨i0, hi, hz0, hz1, hz2⟩ := info_parts Try.info48
  have hst : ∀ (S : List Nat) (c x y t c' : Nat), A[S.length]?.getD 0 = x → B[S.length]?.getD 0 = y → t + y + c = x + 4294967296 * c' → val S + val (B.take S.length) = val (A.take S.length) + 4294967296 ^ S.length * c → val (S ++ [t]) + val (B.take (S.length + 1)) = val (A.take (S.length + 1)) + 4294967296 ^ (S.length + 1) * c' := fun S c x y t c' => minus_step A B S c x y t c'
  have hen : ∀ (S : List Nat) (c : Nat), Fits S → S.length = A.length → val S + val (B.take S.length) = val (A.take S.length) + 4294967296 ^ S.length * c → val S = val A - val B := by
    intro S c f hl h
    refine sub_end A B S A.length c f hl rfl hv (take_le A B hA.2.1 hv) ?_
    rw [← hl, List.take_length]; exact h
  have HST := hide hst
  have HEN := hide hen
  clear hst hen hv
  go_enter Try.func38, Try.ntmps38
  go_wp2
  go_loopw [5, 6, 7] (fun v c i wr => ∃ (S : List Nat) (y : Nat), S.length ≤ A.length ∧ i = .int .i64 (S.length : Nat) ∧ c = .int .u64 y ∧ y ≤ 1 ∧ wr.ownsRow w.heap.size 48 1 v S.length (S.map limbV) ∧ Fits S ∧ Below w.heap.size w wr ∧ Hid (val S + val (B.take S.length) = val (A.take S.length) + 4294967296 ^ S.length * y))
    (fun _ _ i _ => A.length - (intOf i).toNat)
  case atStart =>
    refine ⟨[], 0, by simp, rfl, rfl, by omega, ?_, by intro x hx; simp at hx, (Below.refl _ _).alloc (Nat.le_refl _) _, by unfold Hid; simp [val]⟩
    exact World.ownsRow_made w #[] 0 (Nat.le_refl _) (by simp [maxLen]) (by simp)
  case round =>
    obtain ⟨S, y, hk, rfl, rfl, hy, hown, hf, hbel, hv⟩ := hrel
    by_cases hlt : S.length < A.length
    · obtain ⟨xa, hxa⟩ : ∃ x, A[S.length]?.getD 0 = x := ⟨_, rfl⟩
      obtain ⟨xb, hxb⟩ : ∃ x, B[S.length]?.getD 0 = x := ⟨_, rfl⟩
      have ba : xa < 4294967296 := by rw [← hxa]; exact hA.lt _
      have bb : xb < 4294967296 := by rw [← hxb]; exact hB.lt _
      have cA := hA.below hbel
      have cB := hB.below hbel
      have HS2 := hide (unhide HST S y xa xb ((4294967296 + xa - xb - y) % 4294967296) (1 - (4294967296 + xa - xb - y) / 4294967296) hxa hxb (by omega) hv.out)
      have HXA := hide hxa
      have HXB := hide hxb
      have hsz := hbel.size
      have HF := hide hf
      clear hxa hxb hv HST HEN hf
      generalize hSl : S.length = k at *
      have HSL := hide hSl
      clear hSl
      go_wp2_with (first | (go_at_call_of 52 (Value.slice ao A.length ca); refine (limb_x ao ca A _ k xa _ cA la rfl HXA).mono ?_; rintro e w' ⟨rfl, rfl⟩) | (go_at_call_of 52 (Value.slice bo B.length cb); refine (limb_x bo cb B _ k xb _ cB lb rfl HXB).mono ?_; rintro e w' ⟨rfl, rfl⟩) | (at_builtin; refine wpList_append_own _ rfl _ _ 22 rfl w.heap.size 48 i0 (.int .u32 0) 1 4 Try.underlying22 hi hz0 hz1 hz2 rfl (by decide) _ _ _ rfl (hown.alloc _) ⟨wr.heap.size, 0, none⟩ 1 1 [.int .u32 ((4294967296 + (xa : Int) - (xb : Int) - (y : Int)) % 4294967296)] rfl rfl (cell_one_new _ _ _) (fun u hu => by simp at hu; subst hu; rfl) (by unfold maxLen; omega) (by omega) (by simp; omega) ?_; intro v' w1 hown' hgrow _; have hbl : Below w.heap.size w w1 := ((hbel.alloc hsz _).grown hgrow (by simp; omega) (fun g hg => (hown.lt g hg).1)); have ho2 := hide (own_snoc (x := (4294967296 + xa - xb - y) % 4294967296) hown' (by omega)); clear hown' hgrow))
      have hS2 := unhide HS2
      have hl2 : (S ++ [(4294967296 + xa - xb - y) % 4294967296]).length = k + 1 := by simp [unhide HSL]
      go_roundw
      case rel => exact ⟨S ++ [(4294967296 + xa - xb - y) % 4294967296], 1 - (4294967296 + xa - xb - y) / 4294967296, by omega, by rw [hl2]; go_num, int_eq (by omega), by omega, by rw [hl2]; exact unhide ho2, (unhide HF).snoc (by omega), hbl, by rw [hl2]; exact hS2⟩
      case measure => simp [intOf]; omega
    · have hend := unhide HEN S y hf (by omega) hv.out
      have HEND := hide hend
      obtain ⟨ao', cap', e1, e2, e3, e4⟩ := own_limbs hown hf
      have E2 := hide e2
      have E3 := hide e3
      have hsl : S.length = A.length := by omega
      have HSL := hide hsl
      subst e1
      clear hend hv HST hown e2 e3 e4 HEN hsl
      go_wp2
      go_ret
      exact ⟨ao', cap', S, rfl, unhide E2, unhide E3, unhide HSL, unhide HEND, hbel⟩

end Go.Proofs.Ytiebegjgaflfiaa
