/- Contract of subLimbs. -/
import Derived.Test.YtiebegjgaflfiaaW5
import Derived.Test.YtiebegjgaflfiaaNum2
namespace Go.Proofs.Ytiebegjgaflfiaa
open Go.RowKit

theorem wrap_sub2 (x y c : Nat) (hx : x < 4294967296) (hy : y < 4294967296) (hc : c ≤ 1) (h : x < y) :
    IntKind.u64.wrap (IntKind.u64.wrap ((x : Int) - (y : Int)) - (c : Int)) = 18446744073709551616 + (x : Int) - (y : Int) - (c : Int) := by
  simp only [IntKind.wrap, IntKind.signed, IntKind.bits]
  simp
  omega

set_option maxHeartbeats 400000 in
theorem subLimbs_any (ao bo : Option Addr) (ca cb : Nat) (A B : List Nat) (w : World) (hA : LimbsAt w ao ca A) (hB : LimbsAt w bo cb B) (la : A.length ≤ 35184372088830) (lb : B.length ≤ 35184372088830) (hv : val B ≤ val A) :
    Calls Try.prog 51 #[.slice ao A.length ca, .slice bo B.length cb] w fun e w' => ∃ ao' cap' L', e = .returned (.slice ao' L'.length cap') ∧ LimbsAt w' ao' cap' L' ∧ NewAt w.heap.size ao' L' ∧ L'.length = A.length ∧ val L' = val A - val B ∧ Below w.heap.size w w' := by
  obtain ⟨i0, hi, hz0, hz1, hz2⟩ := info_parts Try.info48
  have hE : ∀ (S : List Nat) (k c : Nat), Fits S → S.length = A.length → ¬ k < A.length → k ≤ A.length → val (S.take k) + val (B.take k) = val (A.take k) + 4294967296 ^ k * c → val S = val A - val B := by
    intro S k c f hl h1 h2 h
    rw [show k = A.length by omega] at h
    exact sub_end A B S A.length c f hl rfl hv (take_le A B hA.2.1 hv) h
  have HE := hide hE
  have hst := fun (S : List Nat) (k c t c' : Nat) (hk : k < S.length) => sub_step A B S k c (A[k]?.getD 0) (B[k]?.getD 0) t c' hk rfl rfl
  have HST := hide hst
  clear hE hst hv
  have hcA : 0 < A.length → ∃ b off, ao = some ⟨b, off, none⟩ := fun h => by obtain ⟨b, off, h1, _⟩ := hA.ne h; exact ⟨b, off, h1⟩
  have HCA := hide hcA
  clear hcA
  go_enter Try.func51, Try.ntmps51
  go_wp2_with (at_make; refine wpList_make_full _ rfl _ _ 22 rfl w.heap.size 48 i0 (.int .u32 0) 1 Try.underlying22 hi hz0 hz1 .i64 .i64 _ _ A.length rfl rfl rfl rfl (by rw [hz2]; omega) (by unfold maxLen; omega) (Nat.le_refl _) ?_; intro w1 hown hgrow)
  have hrow := RowAt.made hown
  have hb1 : Below w.heap.size w w1 := (Below.refl _ _).grown hgrow (Nat.le_refl _) (fun k h => by simp at h)
  have hs1 : w.heap.size < w1.heap.size := hrow.lt
  clear hown hgrow
  go_wp2
  go_loopw [6, 14] (fun c i wr => ∃ (k : Nat) (S : List Nat) (y : Nat), k ≤ A.length ∧ i = .int .i64 k ∧ c = .int .u64 y ∧ y ≤ 1 ∧ RowAt wr w.heap.size S ∧ S.length = A.length ∧ Fits S ∧ Below w.heap.size w wr ∧ Hid (val (S.take k) + val (B.take k) = val (A.take k) + 4294967296 ^ k * y))
    (fun _ i _ => A.length - (intOf i).toNat)
  case atStart => exact ⟨0, List.replicate A.length 0, 0, Nat.zero_le _, rfl, rfl, by omega, hrow, by simp, Fits.zeros _, hb1, by unfold Hid; simp [val]⟩
  case round =>
    obtain ⟨k, S, y, hk, rfl, rfl, hy, hr, hsl, hf, hbel, hv⟩ := hrel
    by_cases hlt : k < A.length
    · obtain ⟨xa, hxa⟩ : ∃ x, A[k]?.getD 0 = x := ⟨_, rfl⟩
      obtain ⟨xb, hxb⟩ : ∃ x, B[k]?.getD 0 = x := ⟨_, rfl⟩
      have ba : xa < 4294967296 := by rw [← hxa]; exact hA.lt k
      have bb : xb < 4294967296 := by rw [← hxb]; exact hB.lt k
      have cA := hA.below hbel
      have cB := hB.below hbel
      have hst := fun (t c' : Nat) (ht : t + xb + y = xa + 4294967296 * c') => unhide HST S k y t c' (by omega) (by rw [hxa, hxb]; exact ht) hv.out
      have HS2 := hide hst
      have HXB := hide hxb
      have hcell := hr.cell k (by omega)
      have hfree := hr.free k
      have HR := hide hr
      obtain ⟨b1, o1, hao, hb1', hc1⟩ := cA.ne (by omega)
      have ca1 := hc1 k hlt
      rw [hxa] at ca1
      clear hst hxa hxb hv hr hc1 HST HE
      generalize hS : S[k]?.getD 0 = sk at *
      clear hS
      subst hao
      have hlt' : (k : Int) < (A.length : Int) := by omega
      have fin : ∀ (nq t c' : Nat) (d : Int), d = (t : Int) → t < 4294967296 → c' ≤ 1 → t + xb + y = xa + 4294967296 * c' →
          RowAt ((wr.drewN nq).setCell ⟨w.heap.size, k, none⟩ (.int .u32 d)) w.heap.size (S.set k t) ∧ (S.set k t).length = A.length ∧ Fits (S.set k t) ∧ Below w.heap.size w ((wr.drewN nq).setCell ⟨w.heap.size, k, none⟩ (.int .u32 d)) ∧
          Hid (val ((S.set k t).take (k + 1)) + val (B.take (k + 1)) = val (A.take (k + 1)) + 4294967296 ^ (k + 1) * c') := by
        rintro nq t c' d rfl ht hc he
        exact ⟨((unhide HR).drewN nq).set k t, by simpa using hsl, hf.set _ _ ht, (below_drewN hbel nq).setCell (by simp) _, unhide HS2 t c' he⟩
      have FIN := hide fin
      clear fin HS2 HR
      rcases (show xb + y ≤ xa ∨ xa < xb ∨ (xa = xb ∧ y = 1) by omega) with h1 | h1 | ⟨h1, h2⟩
      · go_wp2
        go_quiet ((go_at_call 53; exact quiet_eq (limbAt_x bo cb B _ k xb _ (cB.below (below_drewN (Below.refl _ _) _)) lb rfl HXB)))
        go_wp2
        have R := unhide FIN nq (xa - xb - y) 0 ((xa : Int) - xb - y) (by omega) (by omega) (by omega) (by omega)
        go_roundw
        case rel => exact ⟨k + 1, _, 0, by omega, by go_num, int_eq (by omega), by omega, R⟩
        case measure => simp [intOf]; omega
      · go_wp2
        go_quiet ((go_at_call 53; exact quiet_eq (limbAt_x bo cb B _ k xb _ (cB.below (below_drewN (Below.refl _ _) _)) lb rfl HXB)))
        go_wp2
        have e := wrap_sub2 xa xb y ba bb hy h1
        have R := unhide FIN nq (4294967296 + xa - xb - y) 1 (IntKind.u64.wrap (IntKind.u64.wrap ((xa : Int) - xb) - y) % 4294967296) (by rw [e]; omega) (by omega) (by omega) (by omega)
        go_roundw
        case rel => exact ⟨k + 1, _, 1, by omega, by go_num, int_eq (by rw [e]; omega), by omega, R⟩
        case measure => simp [intOf]; omega
      · subst h1; subst h2
        go_wp2
        go_quiet ((go_at_call 53; exact quiet_eq (limbAt_x bo cb B _ k xa _ (cB.below (below_drewN (Below.refl _ _) _)) lb rfl HXB)))
        go_wp2
        have e : IntKind.u64.wrap (-1) = 18446744073709551615 := by decide
        have R := unhide FIN nq 4294967295 1 (IntKind.u64.wrap (-1) % 4294967296) (by rw [e]; rfl) (by omega) (by omega) (by omega)
        go_roundw
        case rel => exact ⟨k + 1, _, 1, by omega, by go_num, int_eq (by rw [e]; rfl), by omega, R⟩
        case measure => simp [intOf]; omega
    · have hend := unhide HE S k y hf hsl hlt hk hv.out
      have HEND := hide hend
      have HR := hide hr
      clear hend hr hv
      go_wp2
      go_ret
      exact ⟨some ⟨w.heap.size, 0, none⟩, A.length, S, by rw [hsl]; rfl, (unhide HR).limbs hf _ (by omega), .inr ⟨_, _, rfl, Nat.le_refl _⟩, hsl, unhide HEND, hbel⟩

end Go.Proofs.Ytiebegjgaflfiaa
