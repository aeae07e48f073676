/- Part 6 of the texts. -/
import Derived.Test.YtnpogpoknbgodaaPart05
import Derived.Test.YtnpogpoknbgodaaPart03
import Derived.Test.YtnpogpoknbgodaaPart01
import Derived.Test.YtnpogpoknbgodaaPart02
/- Plain mathematics, more: products. -/
namespace Go.Proofs.Ytnpogpoknbgodaa

theorem val_set : ∀ (S : List Nat) (j t : Nat), j < S.length → val (S.set j t) + 4294967296 ^ j * (S[j]?.getD 0) = val S + 4294967296 ^ j * t
  | [], _, _, h => by simp at h
  | x :: r, 0, t, _ => by simp [val]; omega
  | x :: r, j + 1, t, h => by
    have ih := val_set r j t (by simpa using h)
    simp only [List.set_cons_succ, val, List.getElem?_cons_succ, Nat.pow_succ]
    have e1 : 4294967296 ^ j * 4294967296 * (r[j]?.getD 0) = 4294967296 * (4294967296 ^ j * (r[j]?.getD 0)) := by rw [Nat.mul_comm (4294967296 ^ j), Nat.mul_assoc]
    have e2 : 4294967296 ^ j * 4294967296 * t = 4294967296 * (4294967296 ^ j * t) := by rw [Nat.mul_comm (4294967296 ^ j), Nat.mul_assoc]
    rw [e1, e2]
    omega

theorem getD_set_ne (S : List Nat) (j k t : Nat) (h : k ≠ j) : (S.set j t)[k]?.getD 0 = S[k]?.getD 0 := by
  rw [List.getElem?_set_ne (by omega)]

theorem mul_lt (x y : Nat) (hx : x < 4294967296) (hy : y < 4294967296) : x * y ≤ 18446744065119617025 := by
  have := Nat.mul_le_mul (show x ≤ 4294967295 by omega) (show y ≤ 4294967295 by omega)
  simpa using this

theorem mul_ltI (x y : Nat) (hx : x < 4294967296) (hy : y < 4294967296) : (x : Int) * (y : Int) ≤ 18446744065119617025 ∧ (0 : Int) ≤ (x : Int) * (y : Int) := by
  have h := mul_lt x y hx hy
  have e : ((x * y : Nat) : Int) = (x : Int) * (y : Int) := Int.natCast_mul x y
  rw [← e]
  omega
theorem mul_casts (x y z q : Nat) : (((y + (x * z + q)) % 4294967296 : Nat) : Int) = ((y : Int) + ((x : Int) * (z : Int) + (q : Int))) % 4294967296 ∧ (((y + (x * z + q)) / 4294967296 : Nat) : Int) = ((y : Int) + ((x : Int) * (z : Int) + (q : Int))) / 4294967296 := by
  have e : ((x * z : Nat) : Int) = (x : Int) * (z : Int) := Int.natCast_mul x z
  rw [← e]
  omega

/-- One step of the inner loop. -/
theorem mul_step (B Q : List Nat) (V x i k c y q : Nat) (hk : i + k < Q.length) (hy : B[k]?.getD 0 = y) (hq : Q[i + k]?.getD 0 = q) (h : val Q + 4294967296 ^ (i + k) * c = V + 4294967296 ^ i * x * val (B.take k)) :
    val (Q.set (i + k) ((c + (x * y + q)) % 4294967296)) + 4294967296 ^ (i + (k + 1)) * ((c + (x * y + q)) / 4294967296) = V + 4294967296 ^ i * x * val (B.take (k + 1)) := by
  have h1 := val_set Q (i + k) ((c + (x * y + q)) % 4294967296) hk
  rw [hq] at h1
  have e := pow_step (4294967296 ^ (i + k)) 4294967296 (c + (x * y + q))
  rw [show 4294967296 ^ (i + (k + 1)) = 4294967296 ^ (i + k) * 4294967296 by rw [← Nat.add_assoc, Nat.pow_succ], val_take_succ B k, hy]
  have e2 : 4294967296 ^ i * x * (val (B.take k) + 4294967296 ^ k * y) = 4294967296 ^ i * x * val (B.take k) + 4294967296 ^ (i + k) * (x * y) := by
    rw [Nat.mul_add, Nat.pow_add]
    congr 1
    rw [Nat.mul_assoc, Nat.mul_assoc, ← Nat.mul_assoc x, Nat.mul_comm x, Nat.mul_assoc]
  rw [e2]
  have e3 : 4294967296 ^ (i + k) * (c + (x * y + q)) = 4294967296 ^ (i + k) * c + 4294967296 ^ (i + k) * (x * y) + 4294967296 ^ (i + k) * q := by rw [Nat.mul_add, Nat.mul_add]; omega
  omega

/-- The carry put on top. -/
theorem mul_top (A B Q : List Nat) (x i c : Nat) (hk : i + B.length < Q.length) (hx : A[i]?.getD 0 = x) (hq : Q[i + B.length]?.getD 0 = 0) (h : val Q + 4294967296 ^ (i + B.length) * c = val (A.take i) * val B + 4294967296 ^ i * x * val (B.take B.length)) :
    val (Q.set (i + B.length) c) = val (A.take (i + 1)) * val B := by
  have h1 := val_set Q (i + B.length) c hk
  rw [hq, Nat.mul_zero] at h1
  rw [List.take_length] at h
  rw [val_take_succ A i, hx, Nat.add_mul]
  omega

end Go.Proofs.Ytnpogpoknbgodaa

/- Contract of mulLimbs. -/
namespace Go.Proofs.Ytnpogpoknbgodaa
open Go.RowKit

set_option maxHeartbeats 2000000 in
theorem mulLimbs_any (ao bo : Option Addr) (ca cb : Nat) (A B : List Nat) (w : World) (hA : LimbsAt w ao ca A) (hB : LimbsAt w bo cb B) (la : A.length ≤ 1073741824) (lb : B.length ≤ 1073741824) :
    Calls Try.prog 60 #[.slice ao A.length ca, .slice bo B.length cb] w fun e w' => ∃ ao' cap' L', e = .returned (.slice ao' L'.length cap') ∧ LimbsAt w' ao' cap' L' ∧ NewAt w.heap.size ao' L' ∧ L'.length = A.length + B.length ∧ val L' = val A * val B ∧ Below w.heap.size w w' := by
  obtain ⟨i0, hi, hz0, hz1, hz2⟩ := info_parts Try.info60
  obtain ⟨n, hn⟩ : ∃ n, n = A.length + B.length := ⟨_, rfl⟩
  have HN := hide hn
  have n1 : n ≤ 2147483648 := by omega
  have n2 : A.length + B.length ≤ n := by omega
  clear hn
  go_enter Try.func60, Try.ntmps60
  go_wp2_with (at_make; have hn := unhide HN; refine wpList_make_full _ rfl _ _ 33 rfl w.heap.size 60 i0 (.int .u32 0) 1 Try.underlying33 hi hz0 hz1 .i64 .i64 _ _ n rfl rfl (by omega) (by omega) (by rw [hz2]; omega) (by unfold maxLen; omega) (Nat.le_refl _) ?_; clear hn; intro w1 hown hgrow)
  have hrow := RowAt.made hown
  have hb1 : Below w.heap.size w w1 := (Below.refl _ _).grown hgrow (Nat.le_refl _) (fun k h => by simp at h)
  clear hown hgrow
  go_wp2
  go_loopw [17] (fun c wr => ∃ (i : Nat) (P : List Nat), i ≤ A.length ∧ c = .int .i64 i ∧ RowAt wr w.heap.size P ∧ P.length = n ∧ Fits P ∧ Below w.heap.size w wr ∧ Hid (val P = val (A.take i) * val B) ∧ Hid (∀ j, i + B.length ≤ j → P[j]?.getD 0 = 0))
    (fun c _ => A.length - (intOf c).toNat)
  case atStart =>
    refine ⟨0, List.replicate n 0, Nat.zero_le _, rfl, hrow, by simp, Fits.zeros _, hb1, ?_, ?_⟩
    · unfold Hid
      have : ∀ k, val (List.replicate k 0) = 0 := by intro k; induction k with | zero => rfl | succ k ih => simp [List.replicate_succ, val, ih]
      rw [this]; simp [val]
    · intro j _
      rw [List.getElem?_replicate]; split <;> rfl
  case round =>
    obtain ⟨i, P, hi1, rfl, hr, hpl, hf, hbel, hv, hzr⟩ := hrel
    by_cases hlt : i < A.length
    · obtain ⟨x, hx⟩ : ∃ x, A[i]?.getD 0 = x := ⟨_, rfl⟩
      have bx : x < 4294967296 := by rw [← hx]; exact hA.lt i
      obtain ⟨b1, o1, hao, hb1', hc1⟩ := hA.ne (by omega)
      have ca1 := hc1 i hlt
      rw [hx] at ca1
      have HX := hide hx
      have HC1 := hide ca1
      have HR := hide hr
      have HLT := hide hlt
      clear hx hc1 ca1 hr hrow hb1
      subst hao
      have hltI : (i : Int) < (A.length : Int) := by omega
      go_wp2
      go_loopw [7, 22] (fun c k wq => ∃ (y : Nat) (kk : Nat) (Q : List Nat), kk ≤ B.length ∧ k = .int .i64 kk ∧ c = .int .u64 y ∧ y < 4294967296 ∧ RowAt wq w.heap.size Q ∧ Q.length = n ∧ Fits Q ∧ Below w.heap.size w wq ∧ Hid (val Q + 4294967296 ^ (i + kk) * y = val (A.take i) * val B + 4294967296 ^ i * x * val (B.take kk)) ∧ Hid (∀ j, i + B.length ≤ j → Q[j]?.getD 0 = 0))
        (fun _ k _ => B.length - (intOf k).toNat)
      case atStart => exact ⟨0, 0, P, Nat.zero_le _, rfl, rfl, by omega, unhide HR, hpl, hf, hbel, by unfold Hid; simp [val]; exact hv.out, hzr⟩
      case round =>
        obtain ⟨y, kk, Q, hk1, rfl, rfl, hy, hrq, hql, hfq, hbq, hvq, hzq⟩ := hrel
        by_cases hkl : kk < B.length
        · obtain ⟨z, hz⟩ : ∃ z, B[kk]?.getD 0 = z := ⟨_, rfl⟩
          have bz : z < 4294967296 := by rw [← hz]; exact hB.lt kk
          obtain ⟨q, hq⟩ : ∃ q, Q[i + kk]?.getD 0 = q := ⟨_, rfl⟩
          obtain ⟨b2, o2, hbo, hb2', hc2⟩ := hB.ne (by omega)
          have cb2 := hc2 kk hkl
          rw [hz] at cb2
          have bq : q < 4294967296 := by
            rw [← hq]
            by_cases hh : i + kk < Q.length
            · rw [List.getElem?_eq_getElem hh]; exact hfq _ (List.getElem_mem hh)
            · rw [List.getElem?_eq_none (by omega)]; decide
          have dA : wr.cell? ⟨b1, o1 + i, none⟩ = some (.int .u32 (x : Int)) := by rw [hbq.cell (p := ⟨b1, o1 + i, none⟩) hb1']; exact unhide HC1
          have dB : wr.cell? ⟨b2, o2 + kk, none⟩ = some (.int .u32 (z : Int)) := by rw [hbq.cell (p := ⟨b2, o2 + kk, none⟩) hb2']; exact cb2
          have dQ := hrq.cell (i + kk) (by omega)
          rw [hq] at dQ
          have fQ := hrq.free (i + kk)
          have hxz := mul_lt x z bx bz
          obtain ⟨hxzI, hxz0⟩ := mul_ltI x z bx bz
          have hst := mul_step B Q (val (A.take i) * val B) x i kk y z q (by omega) hz hq hvq.out
          have hzz : ∀ j, i + B.length ≤ j → (Q.set (i + kk) ((y + (x * z + q)) % 4294967296))[j]?.getD 0 = 0 := fun j hj => by rw [getD_set_ne _ _ _ _ (by omega)]; exact hzq.out j hj
          have HST := hide hst
          have HZZ := hide hzz
          have HRQ := hide hrq
          obtain ⟨ec, ed⟩ := mul_casts x y z q
          have EC := hide ec
          have ED := hide ed
          have by' : (y + (x * z + q)) / 4294967296 < 4294967296 := by omega
          have BY := hide by'
          clear hst hzz hrq ec ed hz hq hc2 cb2 hvq hzq by' hxz hv hzr
          subst hbo
          have hkI : (kk : Int) < (B.length : Int) := by omega
          have hqI : (i : Int) + (kk : Int) < (n : Int) := by omega
          go_wp2
          go_quiet (fail)
          go_wp2
          have hr' := ((unhide HRQ).drewN nq).set (i + kk) ((y + (x * z + q)) % 4294967296)
          rw [unhide EC] at hr'
          go_roundw
          case rel => exact ⟨(y + (x * z + q)) / 4294967296, kk + 1, Q.set (i + kk) ((y + (x * z + q)) % 4294967296), by omega, by go_num, int_eq (unhide ED).symm, unhide BY, hr', by simpa using hql, hfq.set _ _ (by omega), (below_drewN hbq nq).setCell (by simp) _, unhide HST, unhide HZZ⟩
          case measure => simp [intOf]; omega
        · have hkk : kk = B.length := by omega
          rw [hkk] at hvq
          have hz0 := hzq.out (i + B.length) (by omega)
          have htop := mul_top A B Q x i y (by omega) (unhide HX) hz0 hvq.out
          have hzz : ∀ j, i + 1 + B.length ≤ j → (Q.set (i + B.length) y)[j]?.getD 0 = 0 := fun j hj => by rw [getD_set_ne _ _ _ _ (by omega)]; exact hzq.out j (by omega)
          have dQ := hrq.cell (i + B.length) (by omega)
          rw [hz0] at dQ
          have fQ := hrq.free (i + B.length)
          have HTOP := hide htop
          have HZZ := hide hzz
          have HRQ := hide hrq
          have hqI : (i : Int) + (B.length : Int) < (n : Int) := by omega
          clear htop hzz hrq hvq hzq hz0 hkk hv hzr HC1
          go_wp2
          have hr' := (unhide HRQ).set (i + B.length) y
          go_roundw
          case rel => exact ⟨i + 1, Q.set (i + B.length) y, by omega, by go_num, hr', by simpa using hql, hfq.set _ _ hy, hbq.setCell (by simp) _, unhide HTOP, unhide HZZ⟩
          case measure => simp [intOf]; omega
    · have hii : i = A.length := by omega
      have hv' := hv.out
      rw [hii, List.take_length] at hv'
      have HV := hide hv'
      have HR := hide hr
      clear hv' hv hzr hr hii
      go_wp2
      go_ret
      exact ⟨some ⟨w.heap.size, 0, none⟩, n, P, by rw [hpl]; rfl, (unhide HR).limbs hf _ (by omega), .inr ⟨_, _, rfl, Nat.le_refl _⟩, by rw [hpl]; exact unhide HN, unhide HV, hbel⟩

end Go.Proofs.Ytnpogpoknbgodaa

/- Contract of the reference's Check. -/
namespace Go.Proofs.Ytnpogpoknbgodaa
open Go.RowKit
attribute [local go_sem ↓] Go.wp_at_zero Go.wp_at_succ

theorem shape_true {M : List Rw} (h6 : M.length ≤ 6) (h : ∀ j, j < M.length → (rwAt M j).R.length ≤ 6 ∧ (rwAt M j).R.length = width M) : shapeB M = true := by
  unfold shapeB
  simp only [Bool.and_eq_true, List.all_eq_true, decide_eq_true_eq]
  refine ⟨⟨h6, ?_⟩, fun r hr => ?_⟩
  · rcases Nat.eq_zero_or_pos M.length with e | e
    · unfold width rwAt; rw [List.length_eq_zero_iff.1 e]; simp [Rw.nil]
    · exact (h 0 e).1
  · obtain ⟨i, hi, rfl⟩ := List.getElem_of_mem hr
    have e : M[i] = rwAt M i := by unfold rwAt; rw [List.getElem?_eq_getElem hi]; rfl
    rw [e]; exact (h i hi).2
theorem shape_false {M : List Rw} {k : Nat} (hk : k < M.length) (h : ¬ ((rwAt M k).R.length ≤ 6 ∧ (rwAt M k).R.length = width M)) : shapeB M = false := by
  cases hs : shapeB M
  · rfl
  · unfold shapeB at hs
    simp only [Bool.and_eq_true, List.all_eq_true, decide_eq_true_eq] at hs
    have := hs.2 _ (rwAt_mem hk)
    exact absurd ⟨by have := hs.1.2; omega, this⟩ h
theorem mChk_3 {M : List Rw} (h : shapeB M = false) : mChk M = 3 := by unfold mChk; rw [h]; rfl
theorem mChk_1 {M : List Rw} (hs : shapeB M = true) {k j : Nat} (hk : k < M.length) (hj : j < (rwAt M k).R.length) (h : rightN (nmAt (rwAt M k).R j) = false) : mChk M = 1 := by
  have : M.all (fun r => r.R.all rightN) = false := List.all_eq_false.2 ⟨_, rwAt_mem hk, by rw [Bool.not_eq_true]; exact List.all_eq_false.2 ⟨_, nmAt_mem hj, by rw [h]; decide⟩⟩
  unfold mChk; rw [hs, this]; rfl

/-- Is a number among the first k rows, and the first j of row k, too long? -/
def longB (M : List Rw) (k j : Nat) : Bool := !((M.take k).all (fun r => r.R.all shortN) && ((rwAt M k).R.take j).all shortN)

theorem longB_step (M : List Rw) (k j : Nat) (hj : j < (rwAt M k).R.length) : longB M k (j + 1) = (longB M k j || decide (80 < (nmAt (rwAt M k).R j).L.length)) := by
  unfold longB
  have e : ((rwAt M k).R.take (j + 1)).all shortN = (((rwAt M k).R.take j).all shortN && shortN (nmAt (rwAt M k).R j)) := by
    rw [List.take_add_one, List.all_append]
    unfold nmAt
    rw [List.getElem?_eq_getElem hj]
    simp
  rw [e]
  have e2 : shortN (nmAt (rwAt M k).R j) = !decide (80 < (nmAt (rwAt M k).R j).L.length) := by
    unfold shortN
    by_cases h : (nmAt (rwAt M k).R j).L.length ≤ 80
    · rw [decide_eq_true h, decide_eq_false (by omega)]; rfl
    · rw [decide_eq_false h, decide_eq_true (by omega)]; rfl
  rw [e2]
  cases (M.take k).all (fun r => r.R.all shortN) <;> cases ((rwAt M k).R.take j).all shortN <;> cases decide (80 < (nmAt (rwAt M k).R j).L.length) <;> rfl
theorem longB_next (M : List Rw) (k : Nat) (hk : k < M.length) : longB M (k + 1) 0 = longB M k (rwAt M k).R.length := by
  unfold longB
  have e : (M.take (k + 1)).all (fun r => r.R.all shortN) = ((M.take k).all (fun r => r.R.all shortN) && (rwAt M k).R.all shortN) := by
    rw [List.take_add_one, List.all_append]
    unfold rwAt
    rw [List.getElem?_eq_getElem hk]
    simp
  rw [e, List.take_length]
  simp
theorem longB_zero (M : List Rw) : longB M 0 0 = false := by simp [longB]
theorem mChk_end {M : List Rw} (hs : shapeB M = true) (hr : ∀ k, k < M.length → ∀ j, j < (rwAt M k).R.length → rightN (nmAt (rwAt M k).R j) = true) : mChk M = if longB M M.length 0 then 2 else 0 := by
  have h1 : M.all (fun r => r.R.all rightN) = true := List.all_eq_true.2 fun r h => by
    obtain ⟨i, hi, rfl⟩ := List.getElem_of_mem h
    have e : M[i] = rwAt M i := by unfold rwAt; rw [List.getElem?_eq_getElem hi]; rfl
    rw [e]
    exact List.all_eq_true.2 fun x hx => by
      obtain ⟨j, hj, rfl⟩ := List.getElem_of_mem hx
      have e : (rwAt M i).R[j] = nmAt (rwAt M i).R j := by unfold nmAt; rw [List.getElem?_eq_getElem hj]; rfl
      rw [e]; exact hr i hi j hj
  unfold mChk longB
  rw [hs, h1, List.take_length]
  cases M.all (fun r => r.R.all shortN) <;> simp

set_option maxHeartbeats 8000000 in
theorem refCheck_any (ao : Option Addr) (cap : Nat) (M : List Rw) (w : World) (h : MatAt w ao cap M) (hs : SmallM M) :
    Calls Try.prog 8 #[.slice ao M.length cap] w fun e w' => e = .returned (.int .i64 (mChk M)) ∧ Below w.heap.size w w' := by
  have HM := hide h; have HS := hide hs
  have hl := hs.1
  by_cases h6 : M.length ≤ 6
  rotate_left
  · have HF := hide (mChk_3 (M := M) (by unfold shapeB; rw [decide_eq_false h6]; rfl))
    generalize mChk M = ce at *
    have h6' : (6 : Int) < (M.length : Int) := by omega
    clear h hs
    go_enter Try.func8, Try.ntmps8
    go_wp2_with fail
    go_ret
    exact ⟨ret_int (unhide HF).symm, Below.refl _ _⟩
  · have hshT := hide (fun h => shape_true (M := M) h6 h)
    obtain ⟨ml, hml⟩ : ∃ ml, M.length = ml := ⟨_, rfl⟩
    have hs' := hs
    rw [hml] at h6 hl ⊢
    have h6' : ¬ (6 : Int) < (ml : Int) := by omega
    have HL := hide hml
    obtain ⟨ce, hce⟩ : ∃ ce, mChk M = ce := ⟨_, rfl⟩
    have HE := hide hce
    rw [hce]
    clear h hs hs' hce hml
    go_enter Try.func8, Try.ntmps8
    go_wp2_with fail
    go_loopw [3] (fun i wr => ∃ k : Nat, k ≤ ml ∧ i = .int .i64 k ∧ Hid (∀ j, j < k → (rwAt M j).R.length ≤ 6 ∧ (rwAt M j).R.length = width M) ∧ Below w.heap.size w wr) (fun i _ => ml - (intOf i).toNat)
    case atStart => exact ⟨0, Nat.zero_le _, rfl, by unfold Hid; intro j hj; omega, Below.refl _ _⟩
    case round =>
      obtain ⟨k, hk, rfl, hq, hb⟩ := hrel
      by_cases hlt : k < ml
      · obtain ⟨b, off, hao, hbb, hc⟩ := ((unhide HM).below hb).ne (by rw [unhide HL]; omega)
        have hltM : k < M.length := by rw [unhide HL]; exact hlt
        have hck := hc k hltM
        have hc0 := hc 0 (by rw [unhide HL]; omega)
        rw [Nat.add_zero] at hc0
        have hr := (unhide HS).row k
        have hr0 := (unhide HS).row 0
        have hkI : (k : Int) < (ml : Int) := by omega
        have h0I : (0 : Int) < (ml : Int) := by omega
        obtain ⟨n, hn⟩ : ∃ n, (rwAt M k).R.length = n := ⟨_, rfl⟩
        have HQ := hide (fun (h : n ≤ 6 ∧ n = width M) j (hj : j < k + 1) => (show (rwAt M j).R.length ≤ 6 ∧ (rwAt M j).R.length = width M by
          rcases Nat.lt_succ_iff_lt_or_eq.1 hj with h' | rfl
          · exact hq.out j h'
          · rw [hn]; exact h))
        have HF := hide (fun (h : ¬ (n ≤ 6 ∧ n = width M)) => (show ce = 3 by rw [← unhide HE]; exact mChk_3 (shape_false hltM (by rw [hn]; exact h))))
        change _ = some (Value.slice _ (width M) _) at hc0
        change width M ≤ _ at hr0
        rw [hn] at hck hr
        generalize width M = wd at *
        generalize (rwAt M k).ao = a1 at *
        generalize (rwAt M k).cap = c1 at *
        generalize (rwAt M 0).ao = a0 at *
        generalize (rwAt M 0).cap = c0 at *
        subst hao
        clear hc hq hn hltM
        by_cases g1 : n ≤ 6
        · have g1' : ¬ (6 : Int) < (n : Int) := by omega
          have gd : decide ((6 : Int) < (n : Int)) = false := decide_eq_false g1'
          have h0N : 0 < ml := by omega
          by_cases g2 : n = wd
          · have g2' : ((n : Int) == (wd : Int)) = true := by simp; omega
            have HQ2 := hide (unhide HQ ⟨g1, g2⟩)
            clear HQ HF g2
            go_wp2_with fail
            go_quiet (fail)
            go_wp2_with fail
            go_roundw
            case rel => exact ⟨k + 1, by omega, by go_num, HQ2, below_drewN hb nq⟩
            case measure => simp [intOf]; omega
          · have g2' : ((n : Int) == (wd : Int)) = false := by simp; omega
            have HF2 := hide (unhide HF (fun h => g2 h.2))
            clear HQ HF g2
            go_wp2_with fail
            go_quiet (fail)
            go_wp2_with fail
            go_ret
            exact ⟨ret_int (unhide HF2).symm, below_drewN hb nq⟩
        · have g1' : (6 : Int) < (n : Int) := by omega
          have gd : decide ((6 : Int) < (n : Int)) = true := decide_eq_true g1'
          have HF2 := hide (unhide HF (fun h => g1 h.1))
          clear HQ HF g1
          go_wp2_with fail
          go_quiet (fail)
          go_wp2_with fail
          go_ret
          exact ⟨ret_int (unhide HF2).symm, below_drewN hb nq⟩
      · have hsh := hide (unhide hshT (fun j hj => hq.out j (by have := unhide HL; omega)))
        have hkk : ml = k := by omega
        subst hkk
        clear hq
        have HRT := hide (fun (h : ∀ k, k < M.length → ∀ j, j < (rwAt M k).R.length → rightN (nmAt (rwAt M k).R j) = true) => (show ce = if longB M ml 0 then 2 else 0 by rw [← unhide HE, mChk_end (unhide hsh) h, unhide HL]))
        have HR1 := hide (fun k j (hk : k < M.length) (hj : j < (rwAt M k).R.length) (h : rightN (nmAt (rwAt M k).R j) = false) => (show ce = 1 by rw [← unhide HE]; exact mChk_1 (unhide hsh) hk hj h))
        have HB0 := hide hb
        clear hshT hb hsh HE
        go_wp2_with fail
        go_loopw [4, 5] (fun lg i wr => ∃ k : Nat, k ≤ ml ∧ i = .int .i64 k ∧ lg = .bool (longB M k 0) ∧ Hid (∀ q, q < k → ∀ j, j < (rwAt M q).R.length → rightN (nmAt (rwAt M q).R j) = true) ∧ Below w.heap.size w wr) (fun _ i _ => ml - (intOf i).toNat)
        case atStart => exact ⟨0, Nat.zero_le _, rfl, by rw [longB_zero], by unfold Hid; intro j hj; omega, unhide HB0⟩
        case round =>
          obtain ⟨k, hk, rfl, rfl, hq, hb⟩ := hrel
          by_cases hlt : k < ml
          · have hltM : k < M.length := by rw [unhide HL]; exact hlt
            have hkI : (k : Int) < (ml : Int) := by omega
            obtain ⟨b, off, hao, hbb, hc⟩ := (unhide HM).ne (by omega)
            have hck := hc k hltM
            have hr := (unhide HS).row k
            have hxs := ((unhide HS).2 _ (rwAt_mem hltM)).2
            have hn0 := (unhide HM).nums hltM
            have HLS := hide (fun j hj => longB_step M k j hj)
            have HLN := hide (longB_next M k hltM)
            have HR1' := hide (fun j hj h => unhide HR1 k j hltM hj h)
            have HQN := hide (fun (h : ∀ j, j < (rwAt M k).R.length → rightN (nmAt (rwAt M k).R j) = true) => (show ∀ q, q < k + 1 → ∀ j, j < (rwAt M q).R.length → rightN (nmAt (rwAt M q).R j) = true from fun q hqk j hj => by
              rcases Nat.lt_succ_iff_lt_or_eq.1 hqk with h' | rfl
              · exact hq.out q h' j hj
              · exact h j hj))
            obtain ⟨R, hR⟩ : ∃ R, (rwAt M k).R = R := ⟨_, rfl⟩
            rw [hR] at hck hr hxs hn0 HLS HLN HR1' HQN
            have HCK := hide (fun w' (h : Below w.heap.size w w') => (show w'.cell? ⟨b, off + k, none⟩ = some (.slice (rwAt M k).ao R.length (rwAt M k).cap) by rw [h.cell (p := ⟨b, off + k, none⟩) hbb]; exact hck))
            generalize (rwAt M k).ao = a1 at *
            generalize (rwAt M k).cap = c1 at *
            have HN := hide hn0
            have HX := hide hxs
            obtain ⟨rl, hrl⟩ : ∃ rl, R.length = rl := ⟨_, rfl⟩
            rw [hrl] at HCK hr HQN HLN
            have HRL := hide hrl
            subst hao
            clear hc hck hxs hn0 hq hltM hrl hR HR1 HRT
            go_wp2_with fail
            go_loopw [4, 6] (fun lg i wq => ∃ j : Nat, j ≤ rl ∧ i = .int .i64 j ∧ lg = .bool (longB M k j) ∧ Hid (∀ j', j' < j → rightN (nmAt R j') = true) ∧ Below w.heap.size w wq) (fun _ i _ => rl - (intOf i).toNat)
            case atStart => exact ⟨0, Nat.zero_le _, rfl, rfl, by unfold Hid; intro j hj; omega, hb⟩
            case round =>
              obtain ⟨j, hj, rfl, rfl, hqj, hbq⟩ := hrel
              have hck := unhide HCK _ hbq
              by_cases hjl : j < rl
              · have hjR : j < R.length := by rw [unhide HRL]; exact hjl
                obtain ⟨b1, o1, hao1, hb1, hc1⟩ := ((unhide HN).below hbq).ne (by omega)
                obtain ⟨d1, d2⟩ := hc1 j hjR
                have hlx := ((unhide HN).below hbq).limbs hjR
                have hxl := unhide HX _ (nmAt_mem hjR)
                have hls := unhide HLS j hjR
                have HR2 := hide (fun h => unhide HR1' j hjR h)
                have HQ2 := hide (fun (h : rightN (nmAt R j) = true) => (show ∀ j', j' < j + 1 → rightN (nmAt R j') = true from fun j' hj' => by
                  rcases Nat.lt_succ_iff_lt_or_eq.1 hj' with h' | rfl
                  · exact hqj.out j' h'
                  · exact h))
                obtain ⟨x, hx⟩ : ∃ x, nmAt R j = x := ⟨_, rfl⟩
                rw [hx] at d1 d2 hlx hxl hls HR2 HQ2
                have hjI : (j : Int) < (rl : Int) := by omega
                obtain ⟨nx, ax, cx, Lx⟩ := x
                simp only at d1 d2 hlx hxl hls
                have HLX := hide hlx
                have CR := hide (right_any nx ax cx Lx _ hlx hxl)
                have HLSS := hide hls
                obtain ⟨lb2, hlb2⟩ : ∃ x, longB M k (j + 1) = x := ⟨_, rfl⟩
                have HL2 := hide hlb2
                rw [hlb2] at HLSS
                generalize longB M k j = lb at *
                clear hlb2
                subst hao1
                clear hc1 hlx hx hqj hls hjR HLS HR1'
                have HRB : Hid (rightN ⟨nx, ax, cx, Lx⟩ = rightB nx Lx) := rfl
                go_wp2_with fail
                refine (unhide CR).mono ?_
                rintro e w1 ⟨rfl, hb1⟩
                have hbq1 := hbq.trans (hb1.mono hbq.size)
                have hck1 := unhide HCK _ hbq1
                have hltb : b1 < wr.heap.size := World.block_lt_of_cell? _ _ d1
                have d2' : w1.cell? ⟨b1, o1 + j * 2 + 1, none⟩ = some (.slice ax Lx.length cx) := by rw [hb1.cell (p := ⟨b1, o1 + j * 2 + 1, none⟩) hltb]; exact d2
                by_cases hrb : rightB nx Lx = true
                · rw [hrb]
                  have HQ3 := hide (unhide HQ2 (by rw [HRB.out]; exact hrb))
                  have BQ := hide hbq1
                  clear HQ2 HR2 hb1 hbq1 hck d1 d2 hbq hrb HRB CR HLX hltb
                  cases lb
                  · by_cases h8 : 80 < Lx.length
                    · have h8' : (80 : Int) < (Lx.length : Int) := by omega
                      have hl2 : lb2 = true := by rw [unhide HLSS, decide_eq_true h8]; rfl
                      go_wp2_with fail
                      go_roundw
                      case rel => exact ⟨j + 1, by omega, by go_num, by rw [unhide HL2, hl2]; first | done | (simp; omega), HQ3, unhide BQ⟩
                      case measure => simp [intOf]; omega
                    · have h8' : ¬ (80 : Int) < (Lx.length : Int) := by omega
                      have hl2 : lb2 = false := by rw [unhide HLSS, decide_eq_false h8]; rfl
                      go_wp2_with fail
                      go_roundw
                      case rel => exact ⟨j + 1, by omega, by go_num, by rw [unhide HL2, hl2]; first | done | (simp; omega), HQ3, unhide BQ⟩
                      case measure => simp [intOf]; omega
                  · have hl2 : lb2 = true := by rw [unhide HLSS]; rfl
                    go_wp2_with fail
                    go_roundw
                    case rel => exact ⟨j + 1, by omega, by go_num, by rw [unhide HL2, hl2]; first | done | (simp; omega), HQ3, unhide BQ⟩
                    case measure => simp [intOf]; omega
                · have hrf : rightB nx Lx = false := by simpa using hrb
                  rw [hrf]
                  have HC1 := hide (unhide HR2 (by rw [HRB.out]; exact hrf))
                  have BQ := hide hbq1
                  clear HQ2 HR2 hb1 hbq1 hck hck1 d1 d2 d2' hbq hrb hrf HRB CR HLX hltb
                  go_wp2_with fail
                  go_ret
                  exact ⟨ret_int (unhide HC1).symm, unhide BQ⟩
              · have hjj : rl = j := by omega
                have HQ3 := hide (unhide HQN (fun j' hj' => hqj.out j' (by have := unhide HRL; omega)))
                have BQ := hide hbq
                subst hjj
                clear hqj hbq HQN HLS HR1'
                go_wp2_with fail
                go_roundw
                case rel => exact ⟨k + 1, by omega, by go_num, by rw [unhide HLN], HQ3, unhide BQ⟩
                case measure => simp [intOf]; omega
          · have hkk : ml = k := by omega
            have HC := hide (unhide HRT (fun q hq' j hj => hq.out q (by have := unhide HL; omega) j hj))
            subst hkk
            clear hq HRT HR1
            generalize longB M ml 0 = lb at *
            cases lb
            · go_wp2_with fail
              go_ret
              exact ⟨ret_int (by rw [unhide HC]; rfl), hb⟩
            · go_wp2_with fail
              go_ret
              exact ⟨ret_int (by rw [unhide HC]; rfl), hb⟩

end Go.Proofs.Ytnpogpoknbgodaa

/- Contract of the reference's limb. -/
namespace Go.Proofs.Ytnpogpoknbgodaa
open Go.RowKit

set_option maxHeartbeats 400000 in
theorem limb_any (ao : Option Addr) (cap : Nat) (L : List Nat) (i : Int) (k : Nat) (w : World) (h : LimbsAt w ao cap L) (hl : L.length ≤ 35184372088830) (hk : i = (k : Int)) :
    Calls Try.prog 42 #[.slice ao L.length cap, .int .i64 i] w fun e w' => e = .returned (.int .u64 ((L[k]?.getD 0 : Nat) : Int)) ∧ w = w' := by
  subst hk
  by_cases hlt : k < L.length
  · rcases h.2.2 with h0 | ⟨b, off, rfl, hb, hc⟩
    · subst h0; simp at hlt
    · have hc1 := hc k hlt
      have hx : L[k]?.getD 0 < 4294967296 := by rw [List.getElem?_eq_getElem hlt]; exact h.2.1 _ (List.getElem_mem hlt)
      clear h hc
      generalize L[k]?.getD 0 = x at *
      generalize L.length = n at *
      go_enter Try.func42, Try.ntmps42
      go_wp2
      go_ret
      exact ⟨rfl, rfl⟩
  · have hx : L[k]?.getD 0 = 0 := by rw [List.getElem?_eq_none (by omega)]; rfl
    rw [hx]
    clear h hx
    generalize L.length = n at *
    go_enter Try.func42, Try.ntmps42
    go_wp2
    go_ret
    exact ⟨rfl, rfl⟩

end Go.Proofs.Ytnpogpoknbgodaa

/- Contracts of the reference's More, Made. -/
namespace Go.Proofs.Ytnpogpoknbgodaa
open Go.RowKit

theorem limb_x (ao : Option Addr) (cap : Nat) (L : List Nat) (i : Int) (k x : Nat) (w : World) (h : LimbsAt w ao cap L) (hl : L.length ≤ 35184372088830) (hk : i = (k : Int)) (hx : Hid (L[k]?.getD 0 = x)) :
    Calls Try.prog 42 #[.slice ao L.length cap, .int .i64 i] w fun e w' => e = .returned (.int .u64 (x : Int)) ∧ w = w' := by
  have := limb_any ao cap L i k w h hl hk
  rwa [hx.out] at this

set_option maxHeartbeats 400000 in
theorem more_any (ao bo : Option Addr) (ca cb : Nat) (A B : List Nat) (w : World) (hA : LimbsAt w ao ca A) (hB : LimbsAt w bo cb B) (la : A.length ≤ 35184372088830) (lb : B.length ≤ 35184372088830) :
    Calls Try.prog 27 #[.slice ao A.length ca, .slice bo B.length cb] w fun e w' => e = .returned (.int .i64 (cmpI (val A) (val B))) ∧ w = w' := by
  obtain ⟨n, hn⟩ : ∃ n, n = max A.length B.length := ⟨_, rfl⟩
  have hTop : ∀ t : Nat, (∀ i : Nat, t < i → A[i]?.getD 0 = B[i]?.getD 0) → (A[t]?.getD 0 < B[t]?.getD 0 → (-1 : Int) = cmpI (val A) (val B)) ∧ (B[t]?.getD 0 < A[t]?.getD 0 → (1 : Int) = cmpI (val A) (val B)) := by
    intro t h1
    constructor
    · intro h2
      have := lt_of_top A B hA.2.1 t h1 h2
      rw [cmpI_lt (by omega)]
    · intro h2
      have := lt_of_top B A hB.2.1 t (fun i hi => (h1 i hi).symm) h2
      rw [cmpI_gt (by omega)]
  have hEq : (∀ i : Nat, A[i]?.getD 0 = B[i]?.getD 0) → (0 : Int) = cmpI (val A) (val B) := by
    intro h
    have := val_ext A B h
    simp [this, cmpI]
  have hAb : ∀ i : Nat, n ≤ i → A[i]?.getD 0 = B[i]?.getD 0 := fun i hi => by
    rw [List.getElem?_eq_none (by omega), List.getElem?_eq_none (by omega)]
  have HT := hide hTop
  have HQ := hide hEq
  have HA := hide hAb
  have HN := hide hn
  have n3 : n ≤ 35184372088830 := by omega
  clear hTop hEq hAb
  generalize cmpI (val A) (val B) = s at *
  rcases (show (A.length < B.length ∧ n = B.length) ∨ (¬ A.length < B.length ∧ n = A.length) by omega) with ⟨hm, e⟩ | ⟨hm, e⟩
  all_goals
    have HE := hide e
    clear hn e
    go_enter Try.func27, Try.ntmps27
    go_wp2
    go_loop [5] (fun i => ∃ m : Nat, m ≤ n + 1 ∧ i = .int .i64 ((m : Int) - 1) ∧ Hid (∀ j, m ≤ j → A[j]?.getD 0 = B[j]?.getD 0)) (fun i => (intOf i + 1).toNat)
    case atStart => exact ⟨n + 1, by omega, int_eq (by have := unhide HE; omega), fun j hj => unhide HA j (by omega)⟩
    case round =>
      obtain ⟨m, hm1, rfl, hq⟩ := hrel
      clear HA HN HE
      by_cases h0 : m = 0
      · subst h0
        have HS := hide (unhide HQ (fun i => hq.out i (by omega)))
        clear HT HQ
        go_wp2
        go_ret
        exact ⟨ret_int (unhide HS), rfl⟩
      · obtain ⟨xa, hxa⟩ : ∃ x, A[m - 1]?.getD 0 = x := ⟨_, rfl⟩
        obtain ⟨xb, hxb⟩ : ∃ x, B[m - 1]?.getD 0 = x := ⟨_, rfl⟩
        have ba : xa < 4294967296 := by rw [← hxa]; exact hA.lt _
        have bb : xb < 4294967296 := by rw [← hxb]; exact hB.lt _
        have hT := unhide HT (m - 1) (fun i hi => hq.out i (by omega))
        rw [hxa, hxb] at hT
        have HT1 := hide hT
        have HQ1 : Hid (xa = xb → ∀ j, m - 1 ≤ j → A[j]?.getD 0 = B[j]?.getD 0) := fun e j hj => by
          by_cases h : m ≤ j
          · exact hq.out j h
          · rw [show j = m - 1 by omega, hxa, hxb]; exact e
        have HXA := hide hxa
        have HXB := hide hxb
        clear hT hxa hxb hq HT HQ
        rcases Nat.lt_trichotomy xa xb with h | h | h
        · have HS := hide ((unhide HT1).1 h)
          clear HT1 HQ1
          go_wp2_with (first | (go_at_call_of 42 (Value.slice ao A.length ca); refine (limb_x ao ca A _ (m - 1) xa _ hA la (by omega) HXA).mono ?_; rintro e w' ⟨rfl, rfl⟩) | (go_at_call_of 42 (Value.slice bo B.length cb); refine (limb_x bo cb B _ (m - 1) xb _ hB lb (by omega) HXB).mono ?_; rintro e w' ⟨rfl, rfl⟩))
          go_ret
          exact ⟨ret_int (unhide HS), rfl⟩
        · have HS := hide (unhide HQ1 h)
          clear HT1 HQ1
          go_wp2_with (first | (go_at_call_of 42 (Value.slice ao A.length ca); refine (limb_x ao ca A _ (m - 1) xa _ hA la (by omega) HXA).mono ?_; rintro e w' ⟨rfl, rfl⟩) | (go_at_call_of 42 (Value.slice bo B.length cb); refine (limb_x bo cb B _ (m - 1) xb _ hB lb (by omega) HXB).mono ?_; rintro e w' ⟨rfl, rfl⟩))
          go_round
          case rel => exact ⟨m - 1, by omega, int_eq (by omega), unhide HS⟩
          case measure => simp [intOf]; omega
        · have HS := hide ((unhide HT1).2 h)
          clear HT1 HQ1
          go_wp2_with (first | (go_at_call_of 42 (Value.slice ao A.length ca); refine (limb_x ao ca A _ (m - 1) xa _ hA la (by omega) HXA).mono ?_; rintro e w' ⟨rfl, rfl⟩) | (go_at_call_of 42 (Value.slice bo B.length cb); refine (limb_x bo cb B _ (m - 1) xb _ hB lb (by omega) HXB).mono ?_; rintro e w' ⟨rfl, rfl⟩))
          go_ret
          exact ⟨ret_int (unhide HS), rfl⟩

/-- As IsNum, of at most M limbs. -/
def IsNumM (M B : Nat) (w : World) (v : Value) (x : Int) : Prop :=
  ∃ neg ao cap L, v = .agg #[.bool neg, .slice ao L.length cap] ∧ LimbsAt w ao cap L ∧ NewAt B ao L ∧ Canon L ∧ neg = decide (x < 0) ∧ val L = x.natAbs ∧ L.length ≤ M
theorem IsNumM.num {M B : Nat} {w : World} {v : Value} {x : Int} (h : IsNumM M B w v x) (hM : M ≤ 35184372088832) : IsNum B w v x := by
  obtain ⟨neg, ao, cap, L, h1, h2, h3, h4, h5, h6, h7⟩ := h
  exact ⟨neg, ao, cap, L, h1, h2, h3, h4, h5, h6, by omega⟩
theorem IsNumM.below {M B : Nat} {w w' : World} {v : Value} {x : Int} (h : IsNumM M B w v x) (hb : Below w.heap.size w w') : IsNumM M B w' v x := by
  obtain ⟨neg, ao, cap, L, h1, h2, h3⟩ := h
  exact ⟨neg, ao, cap, L, h1, h2.below hb, h3⟩
theorem IsNumM.more {M M' B : Nat} {w : World} {v : Value} {x : Int} (h : IsNumM M B w v x) (hM : M ≤ M') : IsNumM M' B w v x := by
  obtain ⟨neg, ao, cap, L, h1, h2, h3, h4, h5, h6, h7⟩ := h
  exact ⟨neg, ao, cap, L, h1, h2, h3, h4, h5, h6, by omega⟩
theorem IsNumM.zero (M B : Nat) (w : World) (ao : Option Addr) (cap : Nat) : IsNumM M B w (.agg #[.bool false, .slice ao 0 cap]) 0 :=
  ⟨false, ao, cap, [], rfl, LimbsAt.nil _ _ _, .inl rfl, .inl rfl, rfl, rfl, by simp⟩
theorem sval_IsNum {n : Bool} {L : List Nat} {x : Int} (h : n = decide (x < 0)) (hv : val L = x.natAbs) : sval n L = x := by
  unfold sval
  rw [h]
  by_cases hx0 : x < 0
  · simp [hx0]; omega
  · simp [hx0]; omega
/-- A number of at most M limbs, in the world behind the two stores into the result's box. -/
theorem IsNumM.stored {M B B' : Nat} {w : World} {n : Bool} {ao : Option Addr} {cap : Nat} {L : List Nat} {x : Int} (h : LimbsAt w ao cap L ∧ NewAt B ao L ∧ Canon L ∧ n = decide (x < 0) ∧ val L = x.natAbs ∧ L.length ≤ M) {p q : Addr} (hp : p.block < B) (hq : q.block < B) (hB : B' ≤ B) (u u' : Value) :
    IsNumM M B' ((w.setCell p u).setCell q u') (.agg #[.bool n, .slice ao L.length cap]) x :=
  ⟨n, ao, cap, L, rfl, (h.1.store h.2.1 hp u).store h.2.1 hq u', h.2.1.mono hB, h.2.2⟩

set_option maxHeartbeats 400000 in
theorem made_any (B : Nat) (neg : Bool) (ao : Option Addr) (cap : Nat) (L : List Nat) (w : World) (h : LimbsAt w ao cap L) (hn : NewAt B ao L) (hl : L.length ≤ 35184372088832) :
    Calls Try.prog 25 #[.bool neg, .slice ao L.length cap] w fun e w' => ∃ v, e = .returned v ∧ IsNumM L.length B w' v (sval neg L) ∧ Below w.heap.size w w' := by
  have hfin : ∀ (k : Nat) (w' : World), LimbsAt w' ao cap L → k ≤ L.length → val (L.take k) = val L → 0 < k → L[k - 1]?.getD 0 ≠ 0 → IsNumM L.length B w' (.agg #[.bool neg, .slice ao k cap]) (sval neg L) := by
    intro k w' hw hk hv h0 hx
    have hlen : (L.take k).length = k := by rw [List.length_take, Nat.min_eq_left hk]
    have hC : Canon (L.take k) := by
      right
      rw [hlen, List.getElem?_take, if_pos (by omega)]
      exact hx
    have h1 : L.take k ≠ [] := by intro e; rw [e] at hlen; simp at hlen; omega
    have hv0 : val (L.take k) ≠ 0 := fun e => h1 ((val_zero_of_canon _ hC).1 e)
    refine ⟨neg, ao, cap, L.take k, by rw [hlen], hw.take k, hn.take k, hC, ?_, by rw [natAbs_sval]; exact hv, by omega⟩
    rw [hv] at hv0
    unfold sval; cases neg <;> simp <;> omega
  have hzero : val (L.take 0) = val L → sval neg L = 0 := by
    intro hv
    rw [← sval_congr (neg := neg) hv]; exact sval_nil neg
  have HF := hide hfin
  have HZ := hide hzero
  clear hfin hzero hn
  have hcap := h.1
  have H := hide h
  go_enter Try.func25, Try.ntmps25
  go_wp2
  go_loop [5] (fun i => ∃ k : Nat, k ≤ L.length ∧ i = .int .i64 k ∧ Hid (val (L.take k) = val L)) (fun i => (intOf i).toNat)
  case atStart => exact ⟨L.length, Nat.le_refl _, rfl, by unfold Hid; simp⟩
  case round =>
    obtain ⟨k, hk, rfl, hv⟩ := hrel
    by_cases h0 : k = 0
    · subst h0
      have HS := hide (unhide HZ hv.out)
      clear HF HZ hv h
      go_wp2
      refine bodyPost_ret (v := .agg #[.bool false, .slice none 0 0]) (by simp [results, Try.results25, go_sem]) rfl ⟨.agg #[.bool false, .slice none 0 0], rfl, ?_, (Below.refl _ _).alloc (Nat.le_refl _) _⟩
      rw [unhide HS]; exact IsNumM.zero _ _ _ _ _
    · obtain ⟨b, off, hao, hb, hc⟩ := h.ne (by omega)
      have hc1 := hc (k - 1) (by omega)
      have hbz : (w.alloc (.cells #[.bool false, .slice none 0 0] 35)).cell? ⟨b, off + (k - 1), none⟩ = some (.int .u32 ((L[k - 1]?.getD 0 : Nat) : Int)) := by
        rw [((Below.refl _ w).alloc (Nat.le_refl _) _).cell (p := ⟨b, off + (k - 1), none⟩) hb]; exact hc1
      have hne : ((k : Int) == 0) = false := by simp; omega
      have hgt : (0 : Int) < (k : Int) := by omega
      by_cases hx : L[k - 1]?.getD 0 = 0
      · have HS : Hid (val (L.take (k - 1)) = val L) := by unfold Hid; rw [val_take_pred L k hx]; exact hv.out
        rw [hx] at hc1 hbz
        clear HF HZ hv h hx hc
        subst hao
        go_wp2
        go_round
        case rel => exact ⟨k - 1, by omega, int_eq (by omega), HS⟩
        case measure => simp [intOf]; omega
      · have HS := hide (fun w' hw => unhide HF k w' hw hk hv.out (by omega) hx)
        have hx1 : (((L[k - 1]?.getD 0 : Nat) : Int) == 0) = false := by simp; omega
        clear HF HZ hv h hc
        generalize L[k - 1]?.getD 0 = x at *
        clear hx
        subst hao
        go_wp2
        refine bodyPost_ret (v := .agg #[.bool neg, .slice (some ⟨b, off, none⟩) k cap]) (by simp [results, Try.results25, go_sem]) rfl ⟨.agg #[.bool neg, .slice (some ⟨b, off, none⟩) k cap], rfl, ?_, (Below.refl _ _).alloc (Nat.le_refl _) _⟩
        exact unhide HS _ ((unhide H).below ((Below.refl _ _).alloc (Nat.le_refl _) _))

end Go.Proofs.Ytnpogpoknbgodaa

