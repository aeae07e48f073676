/- Contract of shiftDown. -/
import Derived.Test.YtiebegjgaflfiaaH1
namespace Go.Proofs.Ytiebegjgaflfiaa
open Go.RowKit

theorem down_val (d0 d1 p : Nat) (b0 : d0 < 4294967296) (b1 : d1 < 4294967296) :
    bits BinOp.or IntKind.u64 (d0 : Int) ((d1 : Int) * 4294967296) / 2 ^ p % 4294967296 = (((d0 + 4294967296 * d1) / 2 ^ p % 4294967296 : Nat) : Int) := by
  have e : (d1 : Int) * 4294967296 = ((d1 * 2 ^ 32 : Nat) : Int) := by simp
  have h := Nat.two_pow_add_eq_or_of_lt (i := 32) (b := d0) (by omega) d1
  rw [e, u64_or_nat d0 (d1 * 2 ^ 32) (by omega) (by omega), Nat.or_comm, Nat.mul_comm d1, ← h]
  rw [show 2 ^ 32 * d1 + d0 = d0 + 4294967296 * d1 by omega]
  simp

set_option maxHeartbeats 1000000 in
theorem shiftDown_any (ao : Option Addr) (ca : Nat) (A : List Nat) (l p : Nat) (m : Int) (w : World) (hA : LimbsAt w ao ca A) (la : A.length ≤ 1073741824) (hm : m = 32 * (l : Int) + (p : Int)) (hp : p ≤ 31) (hl : l ≤ 1073741824) :
    Calls Try.prog 43 #[.slice ao A.length ca, .int .i64 m] w fun e w' => ∃ ao' cap' L', e = .returned (.slice ao' L'.length cap') ∧ LimbsAt w' ao' cap' L' ∧ NewAt w.heap.size ao' L' ∧ L'.length ≤ A.length ∧ val L' = val A / (4294967296 ^ l * 2 ^ p) ∧ Below w.heap.size w w' := by
  obtain ⟨i0, hi, hz0, hz1, hz2⟩ := info_parts Try.info48
  have hd : m / 32 = (l : Int) := by omega
  have hr : m % 32 = (p : Int) := by omega
  have hm0 : 0 ≤ m := by omega
  have hm1 : m ≤ 68719476735 := by omega
  clear hm
  by_cases hll : A.length ≤ l
  · have hz : val A / (4294967296 ^ l * 2 ^ p) = 0 := by
      apply Nat.div_eq_of_lt
      have h1 := val_lt A hA.2.1
      have h2 : (4294967296 : Nat) ^ A.length ≤ 4294967296 ^ l := Nat.pow_le_pow_right (by decide) hll
      have h3 := Nat.mul_le_mul_left (4294967296 ^ l) (show 1 ≤ 2 ^ p from Nat.pow_pos (by decide))
      omega
    have HZ := hide hz
    generalize val A / (4294967296 ^ l * 2 ^ p) = q at *
    clear hz
    have hlI : (A.length : Int) ≤ (l : Int) := by omega
    go_enter Try.func43, Try.ntmps43
    go_wp2
    go_ret
    exact ⟨none, 0, [], rfl, LimbsAt.nil _ _ _, .inl rfl, by simp, by rw [unhide HZ]; rfl, Below.refl _ _⟩
  obtain ⟨n, hn⟩ : ∃ n, n + l = A.length := ⟨A.length - l, by omega⟩
  have hlI : ¬ (A.length : Int) ≤ (l : Int) := by omega
  have hst := fun (S : List Nat) (k d0 d1 : Nat) => down_step A S hA.2.1 k l p d0 d1 hp
  have hen := fun (S : List Nat) => down_end A S hA.2.1 l p
  have HST := hide hst
  have HEN := hide hen
  clear hst hen
  have n1 : n ≤ 1073741824 := by omega
  have n2 : n + l ≤ A.length := by omega
  have n3 : A.length ≤ n + l := by omega
  clear hn hll
  go_enter Try.func43, Try.ntmps43
  go_wp2_with (at_make; refine wpList_make_full _ rfl _ _ 22 rfl w.heap.size 48 i0 (.int .u32 0) 1 Try.underlying22 hi hz0 hz1 .i64 .i64 _ _ n rfl rfl (by omega) (by omega) (by rw [hz2]; omega) (by unfold maxLen; omega) (Nat.le_refl _) ?_; intro w1 hown hgrow)
  have hrow := RowAt.made hown
  have hb1 : Below w.heap.size w w1 := (Below.refl _ _).grown hgrow (Nat.le_refl _) (fun k h => by simp at h)
  clear hown hgrow
  go_wp2
  go_loopw [25] (fun c wr => ∃ (i : Nat) (S : List Nat), i ≤ n ∧ c = .int .i64 i ∧ RowAt wr w.heap.size S ∧ S.length = n ∧ Fits S ∧ Below w.heap.size w wr ∧ Hid (val (S.take i) = (val A / (4294967296 ^ l * 2 ^ p)) % 4294967296 ^ i))
    (fun c _ => n - (intOf c).toNat)
  case atStart => exact ⟨0, List.replicate n 0, Nat.zero_le _, rfl, hrow, by simp, Fits.zeros _, hb1, by unfold Hid; simp [val, Nat.mod_one]⟩
  case round =>
    obtain ⟨i, S, hi1, rfl, hr', hsl, hf, hbel, hv⟩ := hrel
    by_cases hlt : i < n
    · obtain ⟨d0, hd0⟩ : ∃ x, A[i + l]?.getD 0 = x := ⟨_, rfl⟩
      obtain ⟨d1, hd1⟩ : ∃ x, A[i + l + 1]?.getD 0 = x := ⟨_, rfl⟩
      have b0 : d0 < 4294967296 := by rw [← hd0]; exact hA.lt _
      have b1' : d1 < 4294967296 := by rw [← hd1]; exact hA.lt _
      obtain ⟨b1, o1, hao, hb1', hc1⟩ := hA.ne (by omega)
      have ca1 := hc1 (i + l) (by omega)
      rw [hd0] at ca1
      have dA : wr.cell? ⟨b1, o1 + (i + l), none⟩ = some (.int .u32 (d0 : Int)) := by rw [hbel.cell (p := ⟨b1, o1 + (i + l), none⟩) hb1']; exact ca1
      have cA := hA.below hbel
      have dS := hr'.cell i (by omega)
      have fS := hr'.free i
      generalize hsi : S[i]?.getD 0 = s at *
      have HST1 := hide (unhide HST S i d0 d1 (by omega) hd0 hd1 hv.out)
      have HD1 := hide hd1
      have HR := hide hr'
      clear hd0 hd1 hc1 ca1 hr' hv hsi HST HEN
      have hltI : (i : Int) + (l : Int) < (A.length : Int) := by omega
      have hil0 : (0 : Int) ≤ (i : Int) + (l : Int) := by omega
      have hltN : (i : Int) < (n : Int) := by omega
      subst hao
      go_wp2
      go_quiet ((go_at_call 53; exact quiet_eq (limbAt_x (some ⟨b1, o1, none⟩) ca A _ (i + l + 1) d1 _ (cA.below (below_drewN (Below.refl _ _) _)) (by omega) (by omega) HD1)))
      go_wp2
      have e := down_val d0 d1 p b0 b1'
      have r1 := ((unhide HR).drewN nq).set i (((d0 + 4294967296 * d1) / 2 ^ p) % 4294967296)
      rw [← e] at r1
      have hmod : ((d0 + 4294967296 * d1) / 2 ^ p) % 4294967296 < 4294967296 := Nat.mod_lt _ (by decide)
      go_roundw
      case rel => exact ⟨i + 1, _, by omega, by go_num, r1, by simpa using hsl, hf.set _ _ hmod, (below_drewN hbel nq).setCell (by simp) _, unhide HST1⟩
      case measure => simp [intOf]; omega
    · have hv' := unhide HEN S (by omega) (by rw [hsl, show n = i by omega]; exact hv.out)
      have HV := hide hv'
      have HR := hide hr'
      clear hv' hv hr' HST HEN
      go_wp2
      go_ret
      exact ⟨some ⟨w.heap.size, 0, none⟩, n, S, by rw [hsl]; rfl, (unhide HR).limbs hf _ (by omega), .inr ⟨_, _, rfl, Nat.le_refl _⟩, by omega, unhide HV, hbel⟩

end Go.Proofs.Ytiebegjgaflfiaa
