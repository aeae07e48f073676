/- Part 3 of the texts. -/
import Derived.Test.YtfnnbkclnflpfaaGreatDoorPartS02
import Derived.Laws.BitsAllLaws
import Derived.Test.YtfnnbkclnflpfaaGreatDoorPartS01
import Derived.Deep.RegionHeld3
import Derived.Deep.DrawnRows
import Derived.Deep.RegionWith
import Derived.BigQuiet
import Derived.Outline
/- Plain mathematics, more: shifts. -/
namespace Go.Proofs.YtfnnbkclnflpfaaGreatDoor

theorem or_disj (s y p : Nat) (hs : s < 2 ^ p) (hy : y % 2 ^ p = 0) : s ||| y = s + y := by
  have h := Nat.two_pow_add_eq_or_of_lt hs (y / 2 ^ p)
  have e : 2 ^ p * (y / 2 ^ p) = y := by have := Nat.div_add_mod y (2 ^ p); omega
  rw [e] at h
  rw [Nat.or_comm, ← h]; omega

theorem wide_low (x p : Nat) (hp : p ≤ 32) : (x * 2 ^ p) % 4294967296 % 2 ^ p = 0 := by
  have e : (4294967296 : Nat) = 2 ^ p * 2 ^ (32 - p) := by rw [← Nat.pow_add, show p + (32 - p) = 32 by omega]
  rw [e, Nat.mod_mul_right_mod]
  exact Nat.mul_mod_left _ _

theorem wide_high (x p : Nat) (hx : x < 4294967296) (_hp : p ≤ 31) : (x * 2 ^ p) / 4294967296 < 2 ^ p := by
  rw [Nat.div_lt_iff_lt_mul (by decide), Nat.mul_comm]
  exact Nat.mul_lt_mul_of_pos_left hx (Nat.pow_pos (by decide))

theorem wide_lt (x p : Nat) (hx : x < 4294967296) (hp : p ≤ 31) : x * 2 ^ p < 9223372036854775808 := by
  have h1 : 2 ^ p ≤ 2 ^ 31 := Nat.pow_le_pow_right (by decide) hp
  have h2 := Nat.mul_le_mul (show x ≤ 4294967295 by omega) h1
  omega

/-- One step up: the low part is put into a limb that holds less than 2^p, the high part into the next, which is 0. -/
theorem up_step (A S : List Nat) (i l p x s : Nat) (hlen : i + l + 1 < S.length) (hx : A[i]?.getD 0 = x) (hs : S[i + l]?.getD 0 = s) (h0 : S[i + l + 1]?.getD 0 = 0) (h : val S = 4294967296 ^ l * 2 ^ p * val (A.take i)) :
    val ((S.set (i + l) (s + (x * 2 ^ p) % 4294967296)).set (i + l + 1) ((x * 2 ^ p) / 4294967296)) = 4294967296 ^ l * 2 ^ p * val (A.take (i + 1)) := by
  have h1 := val_set S (i + l) (s + (x * 2 ^ p) % 4294967296) (by omega)
  have h2 := val_set (S.set (i + l) (s + (x * 2 ^ p) % 4294967296)) (i + l + 1) ((x * 2 ^ p) / 4294967296) (by simpa using hlen)
  rw [getD_set_ne _ _ _ _ (by omega), h0, Nat.mul_zero] at h2
  rw [hs, Nat.mul_add] at h1
  have e := pow_step (4294967296 ^ (i + l)) 4294967296 (x * 2 ^ p)
  rw [Nat.pow_succ] at h2
  rw [val_take_succ A i, hx, Nat.mul_add]
  have e2 : 4294967296 ^ l * 2 ^ p * (4294967296 ^ i * x) = 4294967296 ^ (i + l) * (x * 2 ^ p) := by
    rw [Nat.pow_add]
    rw [Nat.mul_assoc, Nat.mul_comm (4294967296 ^ i) (4294967296 ^ l), Nat.mul_assoc]
    congr 1
    rw [Nat.mul_comm (2 ^ p), Nat.mul_assoc]
  rw [e2]
  omega

theorem val_drop (L : List Nat) (h : Fits L) (k : Nat) : val (L.drop k) = val L / 4294967296 ^ k := by
  have h1 := val_split L k
  have h2 := val_take_lt L h k
  rw [h1, Nat.add_comm, Nat.mul_comm, Nat.add_comm]
  rw [Nat.add_mul_div_right _ _ (Nat.pow_pos (by decide)), Nat.div_eq_of_lt h2, Nat.zero_add]

theorem val_two_more (D : List Nat) : val D = D[0]?.getD 0 + 4294967296 * (D[1]?.getD 0) + 4294967296 * 4294967296 * val (D.drop 2) := by
  match D with
  | [] => simp [val]
  | [x] => simp [val]
  | x :: y :: r => simp only [val, List.getElem?_cons_zero, List.getElem?_cons_succ, Option.getD_some, List.drop_succ_cons, List.drop_zero]; rw [Nat.mul_add, ← Nat.mul_assoc]; omega

/-- What lies two limbs higher does not come into the limb. -/
theorem limb_of (d0 d1 r p : Nat) (hp : p ≤ 31) : ((d0 + 4294967296 * d1 + 4294967296 * 4294967296 * r) / 2 ^ p) % 4294967296 = ((d0 + 4294967296 * d1) / 2 ^ p) % 4294967296 := by
  have e : (4294967296 * 4294967296 * r : Nat) = 2 ^ p * (2 ^ (32 - p) * (4294967296 * r)) := by
    rw [← Nat.mul_assoc (2 ^ p), ← Nat.pow_add, show p + (32 - p) = 32 by omega]
    rw [Nat.mul_assoc]
  rw [e, Nat.add_mul_div_left _ _ (Nat.pow_pos (by decide)), ← Nat.mul_assoc, Nat.mul_comm (2 ^ (32 - p)), Nat.mul_assoc, Nat.add_mul_mod_self_left]

/-- One step down. -/
theorem down_step (A S : List Nat) (hA : Fits A) (k l p d0 d1 : Nat) (hp : p ≤ 31) (hk : k < S.length) (h0 : A[k + l]?.getD 0 = d0) (h1 : A[k + l + 1]?.getD 0 = d1) (h : val (S.take k) = (val A / (4294967296 ^ l * 2 ^ p)) % 4294967296 ^ k) :
    val ((S.set k (((d0 + 4294967296 * d1) / 2 ^ p) % 4294967296)).take (k + 1)) = (val A / (4294967296 ^ l * 2 ^ p)) % 4294967296 ^ (k + 1) := by
  rw [val_set_take S k _ hk, h, Nat.pow_succ, Nat.mod_mul]
  congr 2
  have e1 : val A / (4294967296 ^ l * 2 ^ p) / 4294967296 ^ k = val (A.drop (k + l)) / 2 ^ p := by
    rw [val_drop A hA, Nat.div_div_eq_div_mul, Nat.div_div_eq_div_mul, Nat.pow_add]
    congr 1
    rw [Nat.mul_comm (4294967296 ^ k), Nat.mul_assoc, Nat.mul_assoc, Nat.mul_comm (2 ^ p)]
  rw [e1, val_two_more (A.drop (k + l)), List.getElem?_drop, List.getElem?_drop, Nat.add_zero, h0, h1, limb_of _ _ _ _ hp]

theorem down_end (A S : List Nat) (hA : Fits A) (l p : Nat) (hl : S.length = A.length - l) (h : val (S.take S.length) = (val A / (4294967296 ^ l * 2 ^ p)) % 4294967296 ^ S.length) : val S = val A / (4294967296 ^ l * 2 ^ p) := by
  rw [List.take_length] at h
  rw [h]
  apply Nat.mod_eq_of_lt
  have h1 := val_lt A hA
  have h2 : val A / (4294967296 ^ l * 2 ^ p) ≤ val A / 4294967296 ^ l := by
    rw [← Nat.div_div_eq_div_mul]; exact Nat.div_le_self _ _
  refine Nat.lt_of_le_of_lt h2 ?_
  rw [Nat.div_lt_iff_lt_mul (Nat.pow_pos (by decide)), ← Nat.pow_add, hl]
  exact Nat.lt_of_lt_of_le h1 (Nat.pow_le_pow_right (by decide) (by omega))

theorem two_pow_32 (l p : Nat) : 4294967296 ^ l * 2 ^ p = 2 ^ (32 * l + p) := by
  rw [Nat.pow_add, Nat.pow_mul]

end Go.Proofs.YtfnnbkclnflpfaaGreatDoor

/- Contracts of shiftUp, shiftDown. -/
namespace Go.Proofs.YtfnnbkclnflpfaaGreatDoor
open Go.RowKit

theorem wrap_wide (x p : Nat) (bx : x < 4294967296) (hp : p ≤ 31) : IntKind.u64.wrap ((x : Int) * 2 ^ p) = ((x * 2 ^ p : Nat) : Int) := by
  have h := wide_lt x p bx hp
  have e : (x : Int) * 2 ^ p = ((x * 2 ^ p : Nat) : Int) := by simp
  rw [e]
  clear e
  generalize x * 2 ^ p = z at *
  simp only [IntKind.wrap, IntKind.signed, IntKind.bits]
  simp
  omega

theorem up_vals (x p s : Nat) (bx : x < 4294967296) (hp : p ≤ 31) (hs : s < 2 ^ p) :
    bits BinOp.or IntKind.u32 (s : Int) (IntKind.u64.wrap ((x : Int) * 2 ^ p) % 4294967296) = ((s + (x * 2 ^ p) % 4294967296 : Nat) : Int) ∧ IntKind.u64.wrap ((x : Int) * 2 ^ p) / 4294967296 % 4294967296 = (((x * 2 ^ p) / 4294967296 : Nat) : Int) ∧ s + (x * 2 ^ p) % 4294967296 < 4294967296 := by
  have h := wide_lt x p bx hp
  have hs2 : s < 4294967296 := Nat.lt_of_lt_of_le hs (by have := Nat.pow_le_pow_right (n := 2) (by decide) (show p ≤ 32 by omega); simpa using this)
  have e := or_disj s ((x * 2 ^ p) % 4294967296) p hs (wide_low x p (by omega))
  have e2 : s ||| (x * 2 ^ p) % 4294967296 < 2 ^ 32 := Nat.or_lt_two_pow (by omega) (by omega)
  rw [wrap_wide x p bx hp]
  generalize x * 2 ^ p = z at *
  have e3 : ((z : Nat) : Int) % 4294967296 = ((z % 4294967296 : Nat) : Int) := by omega
  rw [e3, u32_or_nat s (z % 4294967296) hs2 (by omega), e]
  refine ⟨rfl, by omega, by omega⟩

set_option maxHeartbeats 1000000 in
theorem shiftUp_any (ao : Option Addr) (ca : Nat) (A : List Nat) (l p : Nat) (m : Int) (w : World) (hA : LimbsAt w ao ca A) (la : A.length ≤ 1073741824) (hm : m = 32 * (l : Int) + (p : Int)) (hp : p ≤ 31) (hl : l ≤ 1073741824) :
    Calls Tryz.prog 155 #[.slice ao A.length ca, .int .i64 m] w fun e w' => ∃ ao' cap' L', e = .returned (.slice ao' L'.length cap') ∧ LimbsAt w' ao' cap' L' ∧ NewAt w.heap.size ao' L' ∧ L'.length = A.length + l + 1 ∧ val L' = 4294967296 ^ l * 2 ^ p * val A ∧ Below w.heap.size w w' := by
  obtain ⟨i0, hi, hz0, hz1, hz2⟩ := info_parts Tryz.info70
  have hd : m / 32 = (l : Int) := by omega
  have hr : m % 32 = (p : Int) := by omega
  have hm0 : 0 ≤ m := by omega
  have hm1 : m ≤ 68719476735 := by omega
  clear hm
  go_enter Tryz.func155, Tryz.ntmps155
  go_wp2_with (at_make; refine wpList_make_full _ rfl _ _ 25 rfl w.heap.size 70 i0 (.int .u32 0) 1 Tryz.underlying25 hi hz0 hz1 .i64 .i64 _ _ (A.length + l + 1) rfl rfl (by omega) (by omega) (by rw [hz2]; omega) (by unfold maxLen; omega) (Nat.le_refl _) ?_; intro w1 hown hgrow)
  have hrow := RowAt.made hown
  have hb1 : Below w.heap.size w w1 := (Below.refl _ _).grown hgrow (Nat.le_refl _) (fun k h => by simp at h)
  clear hown hgrow
  go_wp2
  go_loopw [22] (fun c wr => ∃ (i : Nat) (S : List Nat), i ≤ A.length ∧ c = .int .i64 i ∧ RowAt wr w.heap.size S ∧ S.length = A.length + l + 1 ∧ Fits S ∧ Below w.heap.size w wr ∧ Hid (val S = 4294967296 ^ l * 2 ^ p * val (A.take i)) ∧ Hid (S[i + l]?.getD 0 < 2 ^ p) ∧ Hid (∀ j, i + l < j → S[j]?.getD 0 = 0))
    (fun c _ => A.length - (intOf c).toNat)
  case atStart =>
    refine ⟨0, List.replicate (A.length + l + 1) 0, Nat.zero_le _, rfl, hrow, by simp, Fits.zeros _, hb1, ?_, ?_, ?_⟩
    · unfold Hid
      have : ∀ k, val (List.replicate k 0) = 0 := by intro k; induction k with | zero => rfl | succ k ih => simp [List.replicate_succ, val, ih]
      rw [this]; simp [val]
    · unfold Hid
      have : (List.replicate (A.length + l + 1) 0)[0 + l]?.getD 0 = 0 := by rw [List.getElem?_replicate]; split <;> rfl
      rw [this]; exact Nat.pow_pos (by decide)
    · intro j _
      rw [List.getElem?_replicate]; split <;> rfl
  case round =>
    obtain ⟨i, S, hi1, rfl, hr', hsl, hf, hbel, hv, hlow, hzr⟩ := hrel
    by_cases hlt : i < A.length
    · obtain ⟨x, hx⟩ : ∃ x, A[i]?.getD 0 = x := ⟨_, rfl⟩
      have bx : x < 4294967296 := by rw [← hx]; exact hA.lt i
      obtain ⟨s, hs⟩ : ∃ s, S[i + l]?.getD 0 = s := ⟨_, rfl⟩
      obtain ⟨b1, o1, hao, hb1', hc1⟩ := hA.ne (by omega)
      have ca1 := hc1 i hlt
      rw [hx] at ca1
      have dA : wr.cell? ⟨b1, o1 + i, none⟩ = some (.int .u32 (x : Int)) := by rw [hbel.cell (p := ⟨b1, o1 + i, none⟩) hb1']; exact ca1
      have dS := hr'.cell (i + l) (by omega)
      rw [hs] at dS
      have dT := hr'.cell (i + l + 1) (by omega)
      rw [hzr.out _ (by omega)] at dT
      have hsp : s < 2 ^ p := by rw [← hs]; exact hlow.out
      obtain ⟨u1, u2, u3⟩ := up_vals x p s bx hp hsp
      have hst := up_step A S i l p x s (by omega) hx hs (hzr.out _ (by omega)) hv.out
      have hhi := wide_high x p bx hp
      have hlow2 : ((S.set (i + l) (s + (x * 2 ^ p) % 4294967296)).set (i + l + 1) ((x * 2 ^ p) / 4294967296))[i + 1 + l]?.getD 0 < 2 ^ p := by
        rw [show i + 1 + l = i + l + 1 by omega, List.getElem?_set_self (by simp; omega)]; exact hhi
      have hzr2 : ∀ j, i + 1 + l < j → ((S.set (i + l) (s + (x * 2 ^ p) % 4294967296)).set (i + l + 1) ((x * 2 ^ p) / 4294967296))[j]?.getD 0 = 0 := fun j hj => by
        rw [getD_set_ne _ _ _ _ (by omega), getD_set_ne _ _ _ _ (by omega)]; exact hzr.out j (by omega)
      have hhi2 : (x * 2 ^ p) / 4294967296 < 4294967296 := by have := wide_lt x p bx hp; omega
      have U1 := hide u1; have U2 := hide u2; have U3 := hide u3; have HST := hide hst; have HLO := hide hlow2; have HZ2 := hide hzr2; have HH := hide hhi2
      have fS := hr'.free (i + l)
      have fT := hr'.free (i + l + 1)
      have HR := hide hr'
      clear u1 u2 u3 hst hlow2 hzr2 hhi hhi2 hsp hx hs hr' hv hlow hzr hc1 ca1
      subst hao
      have hltI : (i : Int) < (A.length : Int) := by omega
      go_wp2
      have r1 := ((unhide HR).set (i + l) (s + (x * 2 ^ p) % 4294967296)).set (i + l + 1) ((x * 2 ^ p) / 4294967296)
      rw [← unhide U1, ← unhide U2] at r1
      go_roundw
      case rel => exact ⟨i + 1, _, by omega, by go_num, r1, by simpa using hsl, (hf.set _ _ (unhide U3)).set _ _ (unhide HH), (hbel.setCell (by simp) _).setCell (by simp) _, unhide HST, unhide HLO, unhide HZ2⟩
      case measure => simp [intOf]; omega
    · have hii : i = A.length := by omega
      have hv' := hv.out
      rw [hii, List.take_length] at hv'
      have HV := hide hv'
      have HR := hide hr'
      clear hv' hv hzr hr' hii hlow
      go_wp2
      go_ret
      exact ⟨some ⟨w.heap.size, 0, none⟩, A.length + l + 1, S, by rw [hsl]; rfl, (unhide HR).limbs hf _ (by omega), .inr ⟨_, _, rfl, Nat.le_refl _⟩, hsl, unhide HV, hbel⟩

end Go.Proofs.YtfnnbkclnflpfaaGreatDoor

/- Contract of shiftDown. -/
namespace Go.Proofs.YtfnnbkclnflpfaaGreatDoor
open Go.RowKit

theorem down_val (d0 d1 p : Nat) (b0 : d0 < 4294967296) (b1 : d1 < 4294967296) :
    bits BinOp.or IntKind.u64 (d0 : Int) ((d1 : Int) * 4294967296) / 2 ^ p % 4294967296 = (((d0 + 4294967296 * d1) / 2 ^ p % 4294967296 : Nat) : Int) := by
  have e : (d1 : Int) * 4294967296 = ((d1 * 2 ^ 32 : Nat) : Int) := by simp
  have h := Nat.two_pow_add_eq_or_of_lt (i := 32) (b := d0) (by omega) d1
  rw [e, u64_or_nat d0 (d1 * 2 ^ 32) (by omega) (by omega), Nat.or_comm, Nat.mul_comm d1, ← h]
  rw [show 2 ^ 32 * d1 + d0 = d0 + 4294967296 * d1 by omega]
  simp

set_option maxHeartbeats 1000000 in
theorem shiftDown_any (ao : Option Addr) (ca : Nat) (A : List Nat) (l p : Nat) (m : Int) (w : World) (hA : LimbsAt w ao ca A) (la : A.length ≤ 1073741824) (hm : m = 32 * (l : Int) + (p : Int)) (hp : p ≤ 31) (hl : l ≤ 1073741824) :
    Calls Tryz.prog 154 #[.slice ao A.length ca, .int .i64 m] w fun e w' => ∃ ao' cap' L', e = .returned (.slice ao' L'.length cap') ∧ LimbsAt w' ao' cap' L' ∧ NewAt w.heap.size ao' L' ∧ L'.length ≤ A.length ∧ val L' = val A / (4294967296 ^ l * 2 ^ p) ∧ Below w.heap.size w w' := by
  obtain ⟨i0, hi, hz0, hz1, hz2⟩ := info_parts Tryz.info70
  have hd : m / 32 = (l : Int) := by omega
  have hr : m % 32 = (p : Int) := by omega
  have hm0 : 0 ≤ m := by omega
  have hm1 : m ≤ 68719476735 := by omega
  clear hm
  by_cases hll : A.length ≤ l
  · have hz : val A / (4294967296 ^ l * 2 ^ p) = 0 := by
      apply Nat.div_eq_of_lt
      have h1 := val_lt A hA.2.1
      have h2 : (4294967296 : Nat) ^ A.length ≤ 4294967296 ^ l := Nat.pow_le_pow_right (by decide) hll
      have h3 := Nat.mul_le_mul_left (4294967296 ^ l) (show 1 ≤ 2 ^ p from Nat.pow_pos (by decide))
      omega
    have HZ := hide hz
    generalize val A / (4294967296 ^ l * 2 ^ p) = q at *
    clear hz
    have hlI : (A.length : Int) ≤ (l : Int) := by omega
    go_enter Tryz.func154, Tryz.ntmps154
    go_wp2
    go_ret
    exact ⟨none, 0, [], rfl, LimbsAt.nil _ _ _, .inl rfl, by simp, by rw [unhide HZ]; rfl, Below.refl _ _⟩
  obtain ⟨n, hn⟩ : ∃ n, n + l = A.length := ⟨A.length - l, by omega⟩
  have hlI : ¬ (A.length : Int) ≤ (l : Int) := by omega
  have hst := fun (S : List Nat) (k d0 d1 : Nat) => down_step A S hA.2.1 k l p d0 d1 hp
  have hen := fun (S : List Nat) => down_end A S hA.2.1 l p
  have HST := hide hst
  have HEN := hide hen
  clear hst hen
  have n1 : n ≤ 1073741824 := by omega
  have n2 : n + l ≤ A.length := by omega
  have n3 : A.length ≤ n + l := by omega
  clear hn hll
  go_enter Tryz.func154, Tryz.ntmps154
  go_wp2_with (at_make; refine wpList_make_full _ rfl _ _ 25 rfl w.heap.size 70 i0 (.int .u32 0) 1 Tryz.underlying25 hi hz0 hz1 .i64 .i64 _ _ n rfl rfl (by omega) (by omega) (by rw [hz2]; omega) (by unfold maxLen; omega) (Nat.le_refl _) ?_; intro w1 hown hgrow)
  have hrow := RowAt.made hown
  have hb1 : Below w.heap.size w w1 := (Below.refl _ _).grown hgrow (Nat.le_refl _) (fun k h => by simp at h)
  clear hown hgrow
  go_wp2
  go_loopw [25] (fun c wr => ∃ (i : Nat) (S : List Nat), i ≤ n ∧ c = .int .i64 i ∧ RowAt wr w.heap.size S ∧ S.length = n ∧ Fits S ∧ Below w.heap.size w wr ∧ Hid (val (S.take i) = (val A / (4294967296 ^ l * 2 ^ p)) % 4294967296 ^ i))
    (fun c _ => n - (intOf c).toNat)
  case atStart => exact ⟨0, List.replicate n 0, Nat.zero_le _, rfl, hrow, by simp, Fits.zeros _, hb1, by unfold Hid; simp [val, Nat.mod_one]⟩
  case round =>
    obtain ⟨i, S, hi1, rfl, hr', hsl, hf, hbel, hv⟩ := hrel
    by_cases hlt : i < n
    · obtain ⟨d0, hd0⟩ : ∃ x, A[i + l]?.getD 0 = x := ⟨_, rfl⟩
      obtain ⟨d1, hd1⟩ : ∃ x, A[i + l + 1]?.getD 0 = x := ⟨_, rfl⟩
      have b0 : d0 < 4294967296 := by rw [← hd0]; exact hA.lt _
      have b1' : d1 < 4294967296 := by rw [← hd1]; exact hA.lt _
      obtain ⟨b1, o1, hao, hb1', hc1⟩ := hA.ne (by omega)
      have ca1 := hc1 (i + l) (by omega)
      rw [hd0] at ca1
      have dA : wr.cell? ⟨b1, o1 + (i + l), none⟩ = some (.int .u32 (d0 : Int)) := by rw [hbel.cell (p := ⟨b1, o1 + (i + l), none⟩) hb1']; exact ca1
      have cA := hA.below hbel
      have dS := hr'.cell i (by omega)
      have fS := hr'.free i
      generalize hsi : S[i]?.getD 0 = s at *
      have HST1 := hide (unhide HST S i d0 d1 (by omega) hd0 hd1 hv.out)
      have HD1 := hide hd1
      have HR := hide hr'
      clear hd0 hd1 hc1 ca1 hr' hv hsi HST HEN
      have hltI : (i : Int) + (l : Int) < (A.length : Int) := by omega
      have hil0 : (0 : Int) ≤ (i : Int) + (l : Int) := by omega
      have hltN : (i : Int) < (n : Int) := by omega
      subst hao
      go_wp2
      go_quiet ((go_at_call 176; exact quiet_eq (limbAt_x (some ⟨b1, o1, none⟩) ca A _ (i + l + 1) d1 _ (cA.below (below_drewN (Below.refl _ _) _)) (by omega) (by omega) HD1)))
      go_wp2
      have e := down_val d0 d1 p b0 b1'
      have r1 := ((unhide HR).drewN nq).set i (((d0 + 4294967296 * d1) / 2 ^ p) % 4294967296)
      rw [← e] at r1
      have hmod : ((d0 + 4294967296 * d1) / 2 ^ p) % 4294967296 < 4294967296 := Nat.mod_lt _ (by decide)
      go_roundw
      case rel => exact ⟨i + 1, _, by omega, by go_num, r1, by simpa using hsl, hf.set _ _ hmod, (below_drewN hbel nq).setCell (by simp) _, unhide HST1⟩
      case measure => simp [intOf]; omega
    · have hv' := unhide HEN S (by omega) (by rw [hsl, show n = i by omega]; exact hv.out)
      have HV := hide hv'
      have HR := hide hr'
      clear hv' hv hr' HST HEN
      go_wp2
      go_ret
      exact ⟨some ⟨w.heap.size, 0, none⟩, n, S, by rw [hsl]; rfl, (unhide HR).limbs hf _ (by omega), .inr ⟨_, _, rfl, Nat.le_refl _⟩, by omega, unhide HV, hbel⟩

end Go.Proofs.YtfnnbkclnflpfaaGreatDoor

/- Small laws for a region that draws its order and holds calls that make memory. -/
namespace Go.Proofs.YtfnnbkclnflpfaaGreatDoor
open Go.RowKit

/-- The world at hand under a name, with the facts that are wanted of it. -/
theorem at_world {P : Program} {c : Code} {Q : Exit → Act → World → Prop} {a : Act} {w : World} (F : World → Prop) (h : F w) (k : ∀ W, F W → Code.wp P c Q a W) : Code.wp P c Q a w := k w h

/-- Block b is a box of two cells, x and y. -/
def Box2 (w : World) (b : Nat) (x y : Value) : Prop := w.heap[b]? = some (.cells #[x, y] 27 (0, 0))
theorem Box2.c0 {w : World} {b : Nat} {x y : Value} (h : Box2 w b x y) : w.cell? ⟨b, 0, none⟩ = some x := by rw [cell_of_row w b 0 _ _ _ h]; rfl
theorem Box2.c1 {w : World} {b : Nat} {x y : Value} (h : Box2 w b x y) : w.cell? ⟨b, 1, none⟩ = some y := by rw [cell_of_row w b 1 _ _ _ h]; rfl
theorem Box2.free {w : World} {b : Nat} {x y : Value} (h : Box2 w b x y) (j : Nat) : w.frozen? ⟨b, j, none⟩ = false := frozen_of_row w b j _ _ h
theorem Box2.lt {w : World} {b : Nat} {x y : Value} (h : Box2 w b x y) : b < w.heap.size := (Array.getElem?_eq_some_iff.1 h).1
theorem Box2.below {w w' : World} {b : Nat} {x y : Value} (h : Box2 w b x y) {B : Nat} (hb : Below B w w') (hlt : b < B) : Box2 w' b x y := (hb.block b hlt).trans h
theorem Box2.new (w : World) (x y : Value) : Box2 (w.alloc (.cells #[x, y] 27)) w.heap.size x y := heap_alloc_new w _
theorem Box2.old {w : World} {b : Nat} {x y : Value} (h : Box2 w b x y) (o : Obj) : Box2 (w.alloc o) b x y := by
  unfold Box2; rw [Below.heap_alloc w o b h.lt]; exact h
theorem Box2.drew {w : World} {b : Nat} {x y : Value} (h : Box2 w b x y) : Box2 w.drew b x y := h
theorem Box2.drewN {w : World} {b : Nat} {x y : Value} (h : Box2 w b x y) (n : Nat) : Box2 (w.drewN n) b x y := h

end Go.Proofs.YtfnnbkclnflpfaaGreatDoor

/- What number a struct of a sign and limbs is. -/
namespace Go.Proofs.YtfnnbkclnflpfaaGreatDoor
open Go.RowKit

/-- The value of a sign and limbs. -/
def sval (neg : Bool) (L : List Nat) : Int := if neg then -(val L : Int) else (val L : Int)

/-- v is the number x in w: with no 0 on top, a sign only below 0; its limbs lie in blocks from B on. -/
def IsNum (B : Nat) (w : World) (v : Value) (x : Int) : Prop :=
  ∃ neg ao cap L, v = .agg #[.bool neg, .slice ao L.length cap] ∧ LimbsAt w ao cap L ∧ NewAt B ao L ∧ Canon L ∧ neg = decide (x < 0) ∧ val L = x.natAbs ∧ L.length ≤ 35184372088832

/-- 2^16384: as great as no number of 512 limbs is. -/
def TOPN : Nat := 512
def TOP : Nat := 4294967296 ^ TOPN
/-- What a number that is made answers: none, if it is too great. -/
def errOf (x : Int) : Int := if x.natAbs < TOP then 0 else 2
def numOf (x : Int) : Int := if x.natAbs < TOP then x else 0

theorem NewAt.nil (B : Nat) (ao : Option Addr) : NewAt B ao [] := .inl rfl
theorem NewAt.mono {B B' : Nat} {ao : Option Addr} {L : List Nat} (h : NewAt B ao L) (hb : B' ≤ B) : NewAt B' ao L := by
  rcases h with h | ⟨b, off, h1, h2⟩
  · exact .inl h
  · exact .inr ⟨b, off, h1, Nat.le_trans hb h2⟩
theorem NewAt.zero {w : World} {ao : Option Addr} {cap : Nat} {L : List Nat} (h : LimbsAt w ao cap L) : NewAt 0 ao L := by
  rcases h.2.2 with h | ⟨b, off, h1, _⟩
  · exact .inl h
  · exact .inr ⟨b, off, h1, Nat.zero_le _⟩

theorem IsNum.below {B : Nat} {w w' : World} {v : Value} {x : Int} (h : IsNum B w v x) (hb : Below w.heap.size w w') : IsNum B w' v x := by
  obtain ⟨neg, ao, cap, L, h1, h2, h3⟩ := h
  exact ⟨neg, ao, cap, L, h1, h2.below hb, h3⟩
theorem IsNum.mono {B B' : Nat} {w : World} {v : Value} {x : Int} (h : IsNum B w v x) (hb : B' ≤ B) : IsNum B' w v x := by
  obtain ⟨neg, ao, cap, L, h1, h2, h3, h4⟩ := h
  exact ⟨neg, ao, cap, L, h1, h2, h3.mono hb, h4⟩
theorem IsNum.zero (B : Nat) (w : World) (ao : Option Addr) (cap : Nat) : IsNum B w (.agg #[.bool false, .slice ao 0 cap]) 0 :=
  ⟨false, ao, cap, [], rfl, LimbsAt.nil _ _ _, .inl rfl, .inl rfl, rfl, rfl, by simp⟩

theorem natAbs_sval (neg : Bool) (L : List Nat) : (sval neg L).natAbs = val L := by
  unfold sval; cases neg <;> simp

/-- Limbs without a 0 on top, not none, with a sign. -/
theorem IsNum.mk {B : Nat} {w : World} {neg : Bool} {ao : Option Addr} {cap : Nat} {L : List Nat} (h : LimbsAt w ao cap L) (hn : NewAt B ao L) (c : Canon L) (h0 : L ≠ []) (hl : L.length ≤ 35184372088832) : IsNum B w (.agg #[.bool neg, .slice ao L.length cap]) (sval neg L) := by
  refine ⟨neg, ao, cap, L, rfl, h, hn, c, ?_, (natAbs_sval neg L).symm, hl⟩
  have hv : val L ≠ 0 := fun e => h0 ((val_zero_of_canon L c).1 e)
  unfold sval; cases neg <;> simp <;> omega

theorem sval_congr {neg : Bool} {L L' : List Nat} (h : val L = val L') : sval neg L = sval neg L' := by unfold sval; rw [h]
theorem sval_nil (neg : Bool) : sval neg [] = 0 := by unfold sval; cases neg <;> simp [val]

theorem val_lt_TOP (L : List Nat) (h : Fits L) (c : Canon L) : val L < TOP ↔ L.length ≤ 512 := (length_le_iff L h c TOPN).symm

end Go.Proofs.YtfnnbkclnflpfaaGreatDoor

