/- Contract of mulLimbs. -/
import Derived.Test.YtiebegjgaflfiaaW5
import Derived.Test.YtiebegjgaflfiaaNum4
namespace Go.Proofs.Ytiebegjgaflfiaa
open Go.RowKit

set_option maxHeartbeats 2000000 in
theorem mulLimbs_any (ao bo : Option Addr) (ca cb : Nat) (A B : List Nat) (w : World) (hA : LimbsAt w ao ca A) (hB : LimbsAt w bo cb B) (la : A.length ≤ 1073741824) (lb : B.length ≤ 1073741824) :
    Calls Try.prog 41 #[.slice ao A.length ca, .slice bo B.length cb] w fun e w' => ∃ ao' cap' L', e = .returned (.slice ao' L'.length cap') ∧ LimbsAt w' ao' cap' L' ∧ NewAt w.heap.size ao' L' ∧ L'.length = A.length + B.length ∧ val L' = val A * val B ∧ Below w.heap.size w w' := by
  obtain ⟨i0, hi, hz0, hz1, hz2⟩ := info_parts Try.info48
  obtain ⟨n, hn⟩ : ∃ n, n = A.length + B.length := ⟨_, rfl⟩
  have HN := hide hn
  have n1 : n ≤ 2147483648 := by omega
  have n2 : A.length + B.length ≤ n := by omega
  clear hn
  go_enter Try.func41, Try.ntmps41
  go_wp2_with (at_make; have hn := unhide HN; refine wpList_make_full _ rfl _ _ 22 rfl w.heap.size 48 i0 (.int .u32 0) 1 Try.underlying22 hi hz0 hz1 .i64 .i64 _ _ n rfl rfl (by omega) (by omega) (by rw [hz2]; omega) (by unfold maxLen; omega) (Nat.le_refl _) ?_; clear hn; intro w1 hown hgrow)
  have hrow := RowAt.made hown
  have hb1 : Below w.heap.size w w1 := (Below.refl _ _).grown hgrow (Nat.le_refl _) (fun k h => by simp at h)
  clear hown hgrow
  go_wp2
  go_loopw [17] (fun c wr => ∃ (i : Nat) (P : List Nat), i ≤ A.length ∧ c = .int .i64 i ∧ RowAt wr w.heap.size P ∧ P.length = n ∧ Fits P ∧ Below w.heap.size w wr ∧ Hid (val P = val (A.take i) * val B) ∧ Hid (∀ j, i + B.length ≤ j → P[j]?.getD 0 = 0))
    (fun c _ => A.length - (intOf c).toNat)
  case atStart =>
    refine ⟨0, List.replicate n 0, Nat.zero_le _, rfl, hrow, by simp, Fits.zeros _, hb1, ?_, ?_⟩
    · unfold Hid
      have : ∀ k, val (List.replicate k 0) = 0 := by intro k; induction k with | zero => rfl | succ k ih => simp [List.replicate_succ, val, ih]
      rw [this]; simp [val]
    · intro j _
      rw [List.getElem?_replicate]; split <;> rfl
  case round =>
    obtain ⟨i, P, hi1, rfl, hr, hpl, hf, hbel, hv, hzr⟩ := hrel
    by_cases hlt : i < A.length
    · obtain ⟨x, hx⟩ : ∃ x, A[i]?.getD 0 = x := ⟨_, rfl⟩
      have bx : x < 4294967296 := by rw [← hx]; exact hA.lt i
      obtain ⟨b1, o1, hao, hb1', hc1⟩ := hA.ne (by omega)
      have ca1 := hc1 i hlt
      rw [hx] at ca1
      have HX := hide hx
      have HC1 := hide ca1
      have HR := hide hr
      have HLT := hide hlt
      clear hx hc1 ca1 hr hrow hb1
      subst hao
      have hltI : (i : Int) < (A.length : Int) := by omega
      go_wp2
      go_loopw [7, 22] (fun c k wq => ∃ (y : Nat) (kk : Nat) (Q : List Nat), kk ≤ B.length ∧ k = .int .i64 kk ∧ c = .int .u64 y ∧ y < 4294967296 ∧ RowAt wq w.heap.size Q ∧ Q.length = n ∧ Fits Q ∧ Below w.heap.size w wq ∧ Hid (val Q + 4294967296 ^ (i + kk) * y = val (A.take i) * val B + 4294967296 ^ i * x * val (B.take kk)) ∧ Hid (∀ j, i + B.length ≤ j → Q[j]?.getD 0 = 0))
        (fun _ k _ => B.length - (intOf k).toNat)
      case atStart => exact ⟨0, 0, P, Nat.zero_le _, rfl, rfl, by omega, unhide HR, hpl, hf, hbel, by unfold Hid; simp [val]; exact hv.out, hzr⟩
      case round =>
        obtain ⟨y, kk, Q, hk1, rfl, rfl, hy, hrq, hql, hfq, hbq, hvq, hzq⟩ := hrel
        by_cases hkl : kk < B.length
        · obtain ⟨z, hz⟩ : ∃ z, B[kk]?.getD 0 = z := ⟨_, rfl⟩
          have bz : z < 4294967296 := by rw [← hz]; exact hB.lt kk
          obtain ⟨q, hq⟩ : ∃ q, Q[i + kk]?.getD 0 = q := ⟨_, rfl⟩
          obtain ⟨b2, o2, hbo, hb2', hc2⟩ := hB.ne (by omega)
          have cb2 := hc2 kk hkl
          rw [hz] at cb2
          have bq : q < 4294967296 := by
            rw [← hq]
            by_cases hh : i + kk < Q.length
            · rw [List.getElem?_eq_getElem hh]; exact hfq _ (List.getElem_mem hh)
            · rw [List.getElem?_eq_none (by omega)]; decide
          have dA : wr.cell? ⟨b1, o1 + i, none⟩ = some (.int .u32 (x : Int)) := by rw [hbq.cell (p := ⟨b1, o1 + i, none⟩) hb1']; exact unhide HC1
          have dB : wr.cell? ⟨b2, o2 + kk, none⟩ = some (.int .u32 (z : Int)) := by rw [hbq.cell (p := ⟨b2, o2 + kk, none⟩) hb2']; exact cb2
          have dQ := hrq.cell (i + kk) (by omega)
          rw [hq] at dQ
          have fQ := hrq.free (i + kk)
          have hxz := mul_lt x z bx bz
          obtain ⟨hxzI, hxz0⟩ := mul_ltI x z bx bz
          have hst := mul_step B Q (val (A.take i) * val B) x i kk y z q (by omega) hz hq hvq.out
          have hzz : ∀ j, i + B.length ≤ j → (Q.set (i + kk) ((y + (x * z + q)) % 4294967296))[j]?.getD 0 = 0 := fun j hj => by rw [getD_set_ne _ _ _ _ (by omega)]; exact hzq.out j hj
          have HST := hide hst
          have HZZ := hide hzz
          have HRQ := hide hrq
          obtain ⟨ec, ed⟩ := mul_casts x y z q
          have EC := hide ec
          have ED := hide ed
          have by' : (y + (x * z + q)) / 4294967296 < 4294967296 := by omega
          have BY := hide by'
          clear hst hzz hrq ec ed hz hq hc2 cb2 hvq hzq by' hxz hv hzr
          subst hbo
          have hkI : (kk : Int) < (B.length : Int) := by omega
          have hqI : (i : Int) + (kk : Int) < (n : Int) := by omega
          go_wp2
          go_quiet (fail)
          go_wp2
          have hr' := ((unhide HRQ).drewN nq).set (i + kk) ((y + (x * z + q)) % 4294967296)
          rw [unhide EC] at hr'
          go_roundw
          case rel => exact ⟨(y + (x * z + q)) / 4294967296, kk + 1, Q.set (i + kk) ((y + (x * z + q)) % 4294967296), by omega, by go_num, int_eq (unhide ED).symm, unhide BY, hr', by simpa using hql, hfq.set _ _ (by omega), (below_drewN hbq nq).setCell (by simp) _, unhide HST, unhide HZZ⟩
          case measure => simp [intOf]; omega
        · have hkk : kk = B.length := by omega
          rw [hkk] at hvq
          have hz0 := hzq.out (i + B.length) (by omega)
          have htop := mul_top A B Q x i y (by omega) (unhide HX) hz0 hvq.out
          have hzz : ∀ j, i + 1 + B.length ≤ j → (Q.set (i + B.length) y)[j]?.getD 0 = 0 := fun j hj => by rw [getD_set_ne _ _ _ _ (by omega)]; exact hzq.out j (by omega)
          have dQ := hrq.cell (i + B.length) (by omega)
          rw [hz0] at dQ
          have fQ := hrq.free (i + B.length)
          have HTOP := hide htop
          have HZZ := hide hzz
          have HRQ := hide hrq
          have hqI : (i : Int) + (B.length : Int) < (n : Int) := by omega
          clear htop hzz hrq hvq hzq hz0 hkk hv hzr HC1
          go_wp2
          have hr' := (unhide HRQ).set (i + B.length) y
          go_roundw
          case rel => exact ⟨i + 1, Q.set (i + B.length) y, by omega, by go_num, hr', by simpa using hql, hfq.set _ _ hy, hbq.setCell (by simp) _, unhide HTOP, unhide HZZ⟩
          case measure => simp [intOf]; omega
    · have hii : i = A.length := by omega
      have hv' := hv.out
      rw [hii, List.take_length] at hv'
      have HV := hide hv'
      have HR := hide hr
      clear hv' hv hzr hr hii
      go_wp2
      go_ret
      exact ⟨some ⟨w.heap.size, 0, none⟩, n, P, by rw [hpl]; rfl, (unhide HR).limbs hf _ (by omega), .inr ⟨_, _, rfl, Nat.le_refl _⟩, by rw [hpl]; exact unhide HN, unhide HV, hbel⟩

end Go.Proofs.Ytiebegjgaflfiaa
