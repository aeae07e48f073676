/- Contracts of shiftUp, shiftDown. -/
import Derived.Test.YtiebegjgaflfiaaW5
import Derived.Test.YtiebegjgaflfiaaNum5
import Derived.Laws.BitsAllLaws
namespace Go.Proofs.Ytiebegjgaflfiaa
open Go.RowKit

theorem wrap_wide (x p : Nat) (bx : x < 4294967296) (hp : p ≤ 31) : IntKind.u64.wrap ((x : Int) * 2 ^ p) = ((x * 2 ^ p : Nat) : Int) := by
  have h := wide_lt x p bx hp
  have e : (x : Int) * 2 ^ p = ((x * 2 ^ p : Nat) : Int) := by simp
  rw [e]
  clear e
  generalize x * 2 ^ p = z at *
  simp only [IntKind.wrap, IntKind.signed, IntKind.bits]
  simp
  omega

theorem up_vals (x p s : Nat) (bx : x < 4294967296) (hp : p ≤ 31) (hs : s < 2 ^ p) :
    bits BinOp.or IntKind.u32 (s : Int) (IntKind.u64.wrap ((x : Int) * 2 ^ p) % 4294967296) = ((s + (x * 2 ^ p) % 4294967296 : Nat) : Int) ∧ IntKind.u64.wrap ((x : Int) * 2 ^ p) / 4294967296 % 4294967296 = (((x * 2 ^ p) / 4294967296 : Nat) : Int) ∧ s + (x * 2 ^ p) % 4294967296 < 4294967296 := by
  have h := wide_lt x p bx hp
  have hs2 : s < 4294967296 := Nat.lt_of_lt_of_le hs (by have := Nat.pow_le_pow_right (n := 2) (by decide) (show p ≤ 32 by omega); simpa using this)
  have e := or_disj s ((x * 2 ^ p) % 4294967296) p hs (wide_low x p (by omega))
  have e2 : s ||| (x * 2 ^ p) % 4294967296 < 2 ^ 32 := Nat.or_lt_two_pow (by omega) (by omega)
  rw [wrap_wide x p bx hp]
  generalize x * 2 ^ p = z at *
  have e3 : ((z : Nat) : Int) % 4294967296 = ((z % 4294967296 : Nat) : Int) := by omega
  rw [e3, u32_or_nat s (z % 4294967296) hs2 (by omega), e]
  refine ⟨rfl, by omega, by omega⟩

set_option maxHeartbeats 1000000 in
theorem shiftUp_any (ao : Option Addr) (ca : Nat) (A : List Nat) (l p : Nat) (m : Int) (w : World) (hA : LimbsAt w ao ca A) (la : A.length ≤ 1073741824) (hm : m = 32 * (l : Int) + (p : Int)) (hp : p ≤ 31) (hl : l ≤ 1073741824) :
    Calls Try.prog 44 #[.slice ao A.length ca, .int .i64 m] w fun e w' => ∃ ao' cap' L', e = .returned (.slice ao' L'.length cap') ∧ LimbsAt w' ao' cap' L' ∧ NewAt w.heap.size ao' L' ∧ L'.length = A.length + l + 1 ∧ val L' = 4294967296 ^ l * 2 ^ p * val A ∧ Below w.heap.size w w' := by
  obtain ⟨i0, hi, hz0, hz1, hz2⟩ := info_parts Try.info48
  have hd : m / 32 = (l : Int) := by omega
  have hr : m % 32 = (p : Int) := by omega
  have hm0 : 0 ≤ m := by omega
  have hm1 : m ≤ 68719476735 := by omega
  clear hm
  go_enter Try.func44, Try.ntmps44
  go_wp2_with (at_make; refine wpList_make_full _ rfl _ _ 22 rfl w.heap.size 48 i0 (.int .u32 0) 1 Try.underlying22 hi hz0 hz1 .i64 .i64 _ _ (A.length + l + 1) rfl rfl (by omega) (by omega) (by rw [hz2]; omega) (by unfold maxLen; omega) (Nat.le_refl _) ?_; intro w1 hown hgrow)
  have hrow := RowAt.made hown
  have hb1 : Below w.heap.size w w1 := (Below.refl _ _).grown hgrow (Nat.le_refl _) (fun k h => by simp at h)
  clear hown hgrow
  go_wp2
  go_loopw [22] (fun c wr => ∃ (i : Nat) (S : List Nat), i ≤ A.length ∧ c = .int .i64 i ∧ RowAt wr w.heap.size S ∧ S.length = A.length + l + 1 ∧ Fits S ∧ Below w.heap.size w wr ∧ Hid (val S = 4294967296 ^ l * 2 ^ p * val (A.take i)) ∧ Hid (S[i + l]?.getD 0 < 2 ^ p) ∧ Hid (∀ j, i + l < j → S[j]?.getD 0 = 0))
    (fun c _ => A.length - (intOf c).toNat)
  case atStart =>
    refine ⟨0, List.replicate (A.length + l + 1) 0, Nat.zero_le _, rfl, hrow, by simp, Fits.zeros _, hb1, ?_, ?_, ?_⟩
    · unfold Hid
      have : ∀ k, val (List.replicate k 0) = 0 := by intro k; induction k with | zero => rfl | succ k ih => simp [List.replicate_succ, val, ih]
      rw [this]; simp [val]
    · unfold Hid
      have : (List.replicate (A.length + l + 1) 0)[0 + l]?.getD 0 = 0 := by rw [List.getElem?_replicate]; split <;> rfl
      rw [this]; exact Nat.pow_pos (by decide)
    · intro j _
      rw [List.getElem?_replicate]; split <;> rfl
  case round =>
    obtain ⟨i, S, hi1, rfl, hr', hsl, hf, hbel, hv, hlow, hzr⟩ := hrel
    by_cases hlt : i < A.length
    · obtain ⟨x, hx⟩ : ∃ x, A[i]?.getD 0 = x := ⟨_, rfl⟩
      have bx : x < 4294967296 := by rw [← hx]; exact hA.lt i
      obtain ⟨s, hs⟩ : ∃ s, S[i + l]?.getD 0 = s := ⟨_, rfl⟩
      obtain ⟨b1, o1, hao, hb1', hc1⟩ := hA.ne (by omega)
      have ca1 := hc1 i hlt
      rw [hx] at ca1
      have dA : wr.cell? ⟨b1, o1 + i, none⟩ = some (.int .u32 (x : Int)) := by rw [hbel.cell (p := ⟨b1, o1 + i, none⟩) hb1']; exact ca1
      have dS := hr'.cell (i + l) (by omega)
      rw [hs] at dS
      have dT := hr'.cell (i + l + 1) (by omega)
      rw [hzr.out _ (by omega)] at dT
      have hsp : s < 2 ^ p := by rw [← hs]; exact hlow.out
      obtain ⟨u1, u2, u3⟩ := up_vals x p s bx hp hsp
      have hst := up_step A S i l p x s (by omega) hx hs (hzr.out _ (by omega)) hv.out
      have hhi := wide_high x p bx hp
      have hlow2 : ((S.set (i + l) (s + (x * 2 ^ p) % 4294967296)).set (i + l + 1) ((x * 2 ^ p) / 4294967296))[i + 1 + l]?.getD 0 < 2 ^ p := by
        rw [show i + 1 + l = i + l + 1 by omega, List.getElem?_set_self (by simp; omega)]; exact hhi
      have hzr2 : ∀ j, i + 1 + l < j → ((S.set (i + l) (s + (x * 2 ^ p) % 4294967296)).set (i + l + 1) ((x * 2 ^ p) / 4294967296))[j]?.getD 0 = 0 := fun j hj => by
        rw [getD_set_ne _ _ _ _ (by omega), getD_set_ne _ _ _ _ (by omega)]; exact hzr.out j (by omega)
      have hhi2 : (x * 2 ^ p) / 4294967296 < 4294967296 := by have := wide_lt x p bx hp; omega
      have U1 := hide u1; have U2 := hide u2; have U3 := hide u3; have HST := hide hst; have HLO := hide hlow2; have HZ2 := hide hzr2; have HH := hide hhi2
      have fS := hr'.free (i + l)
      have fT := hr'.free (i + l + 1)
      have HR := hide hr'
      clear u1 u2 u3 hst hlow2 hzr2 hhi hhi2 hsp hx hs hr' hv hlow hzr hc1 ca1
      subst hao
      have hltI : (i : Int) < (A.length : Int) := by omega
      go_wp2
      have r1 := ((unhide HR).set (i + l) (s + (x * 2 ^ p) % 4294967296)).set (i + l + 1) ((x * 2 ^ p) / 4294967296)
      rw [← unhide U1, ← unhide U2] at r1
      go_roundw
      case rel => exact ⟨i + 1, _, by omega, by go_num, r1, by simpa using hsl, (hf.set _ _ (unhide U3)).set _ _ (unhide HH), (hbel.setCell (by simp) _).setCell (by simp) _, unhide HST, unhide HLO, unhide HZ2⟩
      case measure => simp [intOf]; omega
    · have hii : i = A.length := by omega
      have hv' := hv.out
      rw [hii, List.take_length] at hv'
      have HV := hide hv'
      have HR := hide hr'
      clear hv' hv hzr hr' hii hlow
      go_wp2
      go_ret
      exact ⟨some ⟨w.heap.size, 0, none⟩, A.length + l + 1, S, by rw [hsl]; rfl, (unhide HR).limbs hf _ (by omega), .inr ⟨_, _, rfl, Nat.le_refl _⟩, hsl, unhide HV, hbel⟩

end Go.Proofs.Ytiebegjgaflfiaa
