/- Part 3 of the texts. -/
import Derived.Test.YtnpogpoknbgodaaPart02
import Derived.Test.YtnpogpoknbgodaaPart01
import Derived.Outline
import Derived.Deep.RegionWith
/- Contracts of Of, checkBoth. -/
namespace Go.Proofs.Ytnpogpoknbgodaa
open Go.RowKit
attribute [local go_sem ↓] Go.wp_at_zero Go.wp_at_succ

/-- What checkBoth says. -/
def chk2 (na : Bool) (A : List Nat) (nb : Bool) (B : List Nat) : Int := if rightB na A && rightB nb B then 0 else 1

theorem chkE_val (neg : Bool) (L : List Nat) : chkE neg L = 0 ∨ chkE neg L = 1 := by unfold chkE; split <;> simp

set_option maxHeartbeats 400000 in
theorem checkBoth_any (na nb : Bool) (ao bo : Option Addr) (ca cb : Nat) (A B : List Nat) (w : World) (hA : LimbsAt w ao ca A) (hB : LimbsAt w bo cb B) (la : A.length ≤ 35184372088830) (lb : B.length ≤ 35184372088830) :
    Calls Try.prog 58 #[.agg #[.bool na, .slice ao A.length ca], .agg #[.bool nb, .slice bo B.length cb]] w fun e w' => e = .returned (.int .i64 (chk2 na A nb B)) ∧ Below w.heap.size w w' := by
  have hE : (rightB na A = false → chk2 na A nb B = 1) ∧ (rightB na A = true → chk2 na A nb B = chkE nb B) := by
    constructor <;> intro h <;> simp [chk2, chkE, h]
  have HE := hide hE
  clear hE
  generalize chk2 na A nb B = r at *
  go_enter Try.func58, Try.ntmps58
  go_wp2_with fail
  refine (check_any na ao ca A _ (hA.below (((Below.refl _ _).alloc (Nat.le_refl _) _).alloc (by simp) _)) la).mono ?_
  rintro e w1 ⟨rfl, hb1⟩
  have hb2 : Below w.heap.size w w1 := (((Below.refl _ _).alloc (Nat.le_refl _) _).alloc (by simp) _).trans (hb1.mono (by simp; omega))
  have hc0 : w1.cell? ⟨w.heap.size + 1, 0, none⟩ = some (.bool nb) := by rw [hb1.cell (p := ⟨w.heap.size + 1, 0, none⟩) (by simp)]; simp [go_sem]
  have hc1 : w1.cell? ⟨w.heap.size + 1, 1, none⟩ = some (.slice bo B.length cb) := by rw [hb1.cell (p := ⟨w.heap.size + 1, 1, none⟩) (by simp)]; simp [go_sem]
  clear hb1
  cases hr : rightB na A
  · have H0 := hide ((unhide HE).1 hr)
    have hc : chkE na A = 1 := by simp [chkE, hr]
    rw [hc]
    clear hc hr HE
    go_wp2
    go_ret
    exact ⟨ret_int (unhide H0).symm, hb2⟩
  · have H0 := hide ((unhide HE).2 hr)
    have hc : chkE na A = 0 := by simp [chkE, hr]
    rw [hc]
    clear hc hr HE
    go_wp2_with fail
    refine (check_any nb bo cb B _ (hB.below hb2) lb).mono ?_
    rintro e w2 ⟨rfl, hb3⟩
    go_wp2
    go_ret
    exact ⟨ret_int (unhide H0).symm, hb2.trans (hb3.mono hb2.size)⟩

end Go.Proofs.Ytnpogpoknbgodaa

/- Contracts of what makes rows of limbs: addLimbs. -/
namespace Go.Proofs.Ytnpogpoknbgodaa
open Go.RowKit

theorem Try.info60 : (Try.prog.info? 60).map (fun i => (i.zero, i.size, i.bytes)) = some (some (.int .u32 0), 1, 4) := by kernel_rfl

theorem int_eq {k : IntKind} {a b : Int} (h : a = b) : Value.int k a = .int k b := by rw [h]

/-- limbAt, what it finds under a name. -/
theorem limbAt_x (ao : Option Addr) (cap : Nat) (L : List Nat) (i : Int) (k x : Nat) (w : World) (h : LimbsAt w ao cap L) (hl : L.length ≤ 35184372088830) (hk : i = (k : Int)) (hx : Hid (L[k]?.getD 0 = x)) :
    Calls Try.prog 67 #[.slice ao L.length cap, .int .i64 i] w fun e w' => e = .returned (.int .u64 (x : Int)) ∧ w = w' := by
  have := limbAt_any ao cap L i k w h hl hk
  rwa [hx.out] at this

set_option maxHeartbeats 400000 in
theorem addLimbs_any (ao bo : Option Addr) (ca cb : Nat) (A B : List Nat) (w : World) (hA : LimbsAt w ao ca A) (hB : LimbsAt w bo cb B) (la : A.length ≤ 35184372088830) (lb : B.length ≤ 35184372088830) :
    Calls Try.prog 64 #[.slice ao A.length ca, .slice bo B.length cb] w fun e w' => ∃ ao' cap' L', e = .returned (.slice ao' L'.length cap') ∧ LimbsAt w' ao' cap' L' ∧ NewAt w.heap.size ao' L' ∧ L'.length = max A.length B.length + 1 ∧ val L' = val A + val B ∧ Below w.heap.size w w' := by
  obtain ⟨i0, hi, hz0, hz1, hz2⟩ := info_parts Try.info60
  obtain ⟨n, hn⟩ : ∃ n, n = max A.length B.length + 1 := ⟨_, rfl⟩
  have n1 : A.length + 1 ≤ n := by omega
  have n2 : B.length + 1 ≤ n := by omega
  have n3 : n ≤ 35184372088831 := by omega
  have HN := hide hn
  clear hn
  go_enter Try.func64, Try.ntmps64
  go_wp2_with (at_make; have hn := unhide HN; refine wpList_make_full _ rfl _ _ 33 rfl w.heap.size 60 i0 (.int .u32 0) 1 Try.underlying33 hi hz0 hz1 .i64 .i64 _ _ n rfl rfl (by omega) (by omega) (by rw [hz2]; omega) (by unfold maxLen; omega) (Nat.le_refl _) ?_; clear hn; intro w1 hown hgrow)
  all_goals
    have hrow := RowAt.made hown
    have hb1 : Below w.heap.size w w1 := (Below.refl _ _).grown hgrow (Nat.le_refl _) (fun k h => by simp at h)
    have hs1 : w.heap.size < w1.heap.size := hrow.lt
    clear hown hgrow
    go_wp2
    go_loopw [6, 17] (fun c i wr => ∃ (k : Nat) (S : List Nat) (y : Nat), k ≤ n ∧ i = .int .i64 k ∧ c = .int .u64 y ∧ y ≤ 1 ∧ RowAt wr w.heap.size S ∧ S.length = n ∧ Fits S ∧ Below w.heap.size w wr ∧ Hid (val (S.take k) + 4294967296 ^ k * y = val (A.take k) + val (B.take k)))
      (fun _ i _ => n - (intOf i).toNat)
    case atStart => exact ⟨0, List.replicate n 0, 0, Nat.zero_le _, rfl, rfl, by omega, hrow, by simp, Fits.zeros _, hb1, by unfold Hid; simp [val]⟩
    case round =>
      obtain ⟨k, S, y, hk, rfl, rfl, hy, hr, hsl, hf, hbel, hv⟩ := hrel
      by_cases hlt : k < n
      · obtain ⟨xa, hxa⟩ : ∃ x, A[k]?.getD 0 = x := ⟨_, rfl⟩
        obtain ⟨xb, hxb⟩ : ∃ x, B[k]?.getD 0 = x := ⟨_, rfl⟩
        have ba : xa < 4294967296 := by rw [← hxa]; exact hA.lt k
        have bb : xb < 4294967296 := by rw [← hxb]; exact hB.lt k
        have cA := hA.below hbel
        have cB := hB.below hbel
        have hst := add_step A B S k y xa xb (by omega) hxa hxb hv.out
        have HST := hide hst
        have HXA := hide hxa
        have HXB := hide hxb
        have hcell := hr.cell k (by omega)
        have hfree := hr.free k
        have HR := hide hr
        clear hst hxa hxb hv hr
        generalize hS : S[k]?.getD 0 = sk at *
        clear hS
        go_wp2_with (first | (go_at_call_of 67 (Value.slice ao A.length ca); refine (limbAt_x ao ca A _ k xa _ cA la rfl HXA).mono ?_; rintro e w' ⟨rfl, rfl⟩) | (go_at_call_of 67 (Value.slice bo B.length cb); refine (limbAt_x bo cb B _ k xb _ cB lb rfl HXB).mono ?_; rintro e w' ⟨rfl, rfl⟩))
        have ec : (((y + (xa + xb)) % 4294967296 : Nat) : Int) = ((y : Int) + ((xa : Int) + (xb : Int))) % 4294967296 := by omega
        have hr' := (unhide HR).set k ((y + (xa + xb)) % 4294967296)
        rw [ec] at hr'
        go_roundw
        case rel => exact ⟨k + 1, S.set k ((y + (xa + xb)) % 4294967296), (y + (xa + xb)) / 4294967296, by omega, by go_num, int_eq (by omega), by omega, hr', by simpa using hsl, hf.set _ _ (by omega), hbel.setCell (by simp) _, HST⟩
        case measure => simp [intOf]; omega
      · have hend := add_end A B S n y hA.2.1 hB.2.1 n1 n2 hsl (by rw [show n = k by omega]; exact hv.out)
        have HEND := hide hend
        have HR := hide hr
        have HV := hide hv
        clear hend hr hv
        go_wp2
        go_ret
        have hN := unhide HN
        refine ⟨some ⟨w.heap.size, 0, none⟩, n, S, by rw [hsl]; rfl, (unhide HR).limbs hf n (by omega), .inr ⟨_, _, rfl, Nat.le_refl _⟩, by rw [hsl]; exact hN, unhide HEND, hbel⟩

end Go.Proofs.Ytnpogpoknbgodaa

/- Plain mathematics, more: differences. -/
namespace Go.Proofs.Ytnpogpoknbgodaa

/-- One step of a difference: t is the limb that is left, c' the new borrow. -/
theorem sub_step (A B S : List Nat) (k c x y t c' : Nat) (hk : k < S.length) (hx : A[k]?.getD 0 = x) (hy : B[k]?.getD 0 = y) (ht : t + y + c = x + 4294967296 * c') (h : val (S.take k) + val (B.take k) = val (A.take k) + 4294967296 ^ k * c) :
    val ((S.set k t).take (k + 1)) + val (B.take (k + 1)) = val (A.take (k + 1)) + 4294967296 ^ (k + 1) * c' := by
  rw [val_set_take S k _ hk, val_take_succ A k, val_take_succ B k, hx, hy, Nat.pow_succ]
  have e : 4294967296 ^ k * (t + y + c) = 4294967296 ^ k * (x + 4294967296 * c') := by rw [ht]
  rw [Nat.mul_add, Nat.mul_add, Nat.mul_add, ← Nat.mul_assoc] at e
  omega

theorem sub_end (A B S : List Nat) (n c : Nat) (hS : Fits S) (hn : S.length = n) (ha : A.length = n) (hv : val B ≤ val A) (hB : val (B.take n) = val B) (h : val (S.take n) + val (B.take n) = val (A.take n) + 4294967296 ^ n * c) :
    val S = val A - val B := by
  rw [val_take_all S n (by omega), val_take_all A n (by omega), hB] at h
  have h1 := val_lt S hS
  rw [hn] at h1
  rcases Nat.eq_zero_or_pos c with hc | hc
  · subst hc; omega
  · have h4 := Nat.mul_le_mul_left (4294967296 ^ n) hc
    omega

/-- What is no more than A has no more limbs that count. -/
theorem take_le (A B : List Nat) (hA : Fits A) (hv : val B ≤ val A) : val (B.take A.length) = val B := by
  have h1 := val_split B A.length
  have h2 := val_lt A hA
  rcases Nat.eq_zero_or_pos (val (B.drop A.length)) with e | e
  · rw [e] at h1; omega
  · have h4 := Nat.mul_le_mul_left (4294967296 ^ A.length) e
    omega

end Go.Proofs.Ytnpogpoknbgodaa

/- Contract of subLimbs. -/
namespace Go.Proofs.Ytnpogpoknbgodaa
open Go.RowKit

theorem wrap_sub2 (x y c : Nat) (hx : x < 4294967296) (hy : y < 4294967296) (hc : c ≤ 1) (h : x < y) :
    IntKind.u64.wrap (IntKind.u64.wrap ((x : Int) - (y : Int)) - (c : Int)) = 18446744073709551616 + (x : Int) - (y : Int) - (c : Int) := by
  simp only [IntKind.wrap, IntKind.signed, IntKind.bits]
  simp
  omega

set_option maxHeartbeats 400000 in
theorem subLimbs_any (ao bo : Option Addr) (ca cb : Nat) (A B : List Nat) (w : World) (hA : LimbsAt w ao ca A) (hB : LimbsAt w bo cb B) (la : A.length ≤ 35184372088830) (lb : B.length ≤ 35184372088830) (hv : val B ≤ val A) :
    Calls Try.prog 66 #[.slice ao A.length ca, .slice bo B.length cb] w fun e w' => ∃ ao' cap' L', e = .returned (.slice ao' L'.length cap') ∧ LimbsAt w' ao' cap' L' ∧ NewAt w.heap.size ao' L' ∧ L'.length = A.length ∧ val L' = val A - val B ∧ Below w.heap.size w w' := by
  obtain ⟨i0, hi, hz0, hz1, hz2⟩ := info_parts Try.info60
  have hE : ∀ (S : List Nat) (k c : Nat), Fits S → S.length = A.length → ¬ k < A.length → k ≤ A.length → val (S.take k) + val (B.take k) = val (A.take k) + 4294967296 ^ k * c → val S = val A - val B := by
    intro S k c f hl h1 h2 h
    rw [show k = A.length by omega] at h
    exact sub_end A B S A.length c f hl rfl hv (take_le A B hA.2.1 hv) h
  have HE := hide hE
  have hst := fun (S : List Nat) (k c t c' : Nat) (hk : k < S.length) => sub_step A B S k c (A[k]?.getD 0) (B[k]?.getD 0) t c' hk rfl rfl
  have HST := hide hst
  clear hE hst hv
  have hcA : 0 < A.length → ∃ b off, ao = some ⟨b, off, none⟩ := fun h => by obtain ⟨b, off, h1, _⟩ := hA.ne h; exact ⟨b, off, h1⟩
  have HCA := hide hcA
  clear hcA
  go_enter Try.func66, Try.ntmps66
  go_wp2_with (at_make; refine wpList_make_full _ rfl _ _ 33 rfl w.heap.size 60 i0 (.int .u32 0) 1 Try.underlying33 hi hz0 hz1 .i64 .i64 _ _ A.length rfl rfl rfl rfl (by rw [hz2]; omega) (by unfold maxLen; omega) (Nat.le_refl _) ?_; intro w1 hown hgrow)
  have hrow := RowAt.made hown
  have hb1 : Below w.heap.size w w1 := (Below.refl _ _).grown hgrow (Nat.le_refl _) (fun k h => by simp at h)
  have hs1 : w.heap.size < w1.heap.size := hrow.lt
  clear hown hgrow
  go_wp2
  go_loopw [6, 14] (fun c i wr => ∃ (k : Nat) (S : List Nat) (y : Nat), k ≤ A.length ∧ i = .int .i64 k ∧ c = .int .u64 y ∧ y ≤ 1 ∧ RowAt wr w.heap.size S ∧ S.length = A.length ∧ Fits S ∧ Below w.heap.size w wr ∧ Hid (val (S.take k) + val (B.take k) = val (A.take k) + 4294967296 ^ k * y))
    (fun _ i _ => A.length - (intOf i).toNat)
  case atStart => exact ⟨0, List.replicate A.length 0, 0, Nat.zero_le _, rfl, rfl, by omega, hrow, by simp, Fits.zeros _, hb1, by unfold Hid; simp [val]⟩
  case round =>
    obtain ⟨k, S, y, hk, rfl, rfl, hy, hr, hsl, hf, hbel, hv⟩ := hrel
    by_cases hlt : k < A.length
    · obtain ⟨xa, hxa⟩ : ∃ x, A[k]?.getD 0 = x := ⟨_, rfl⟩
      obtain ⟨xb, hxb⟩ : ∃ x, B[k]?.getD 0 = x := ⟨_, rfl⟩
      have ba : xa < 4294967296 := by rw [← hxa]; exact hA.lt k
      have bb : xb < 4294967296 := by rw [← hxb]; exact hB.lt k
      have cA := hA.below hbel
      have cB := hB.below hbel
      have hst := fun (t c' : Nat) (ht : t + xb + y = xa + 4294967296 * c') => unhide HST S k y t c' (by omega) (by rw [hxa, hxb]; exact ht) hv.out
      have HS2 := hide hst
      have HXB := hide hxb
      have hcell := hr.cell k (by omega)
      have hfree := hr.free k
      have HR := hide hr
      obtain ⟨b1, o1, hao, hb1', hc1⟩ := cA.ne (by omega)
      have ca1 := hc1 k hlt
      rw [hxa] at ca1
      clear hst hxa hxb hv hr hc1 HST HE
      generalize hS : S[k]?.getD 0 = sk at *
      clear hS
      subst hao
      have hlt' : (k : Int) < (A.length : Int) := by omega
      have fin : ∀ (nq t c' : Nat) (d : Int), d = (t : Int) → t < 4294967296 → c' ≤ 1 → t + xb + y = xa + 4294967296 * c' →
          RowAt ((wr.drewN nq).setCell ⟨w.heap.size, k, none⟩ (.int .u32 d)) w.heap.size (S.set k t) ∧ (S.set k t).length = A.length ∧ Fits (S.set k t) ∧ Below w.heap.size w ((wr.drewN nq).setCell ⟨w.heap.size, k, none⟩ (.int .u32 d)) ∧
          Hid (val ((S.set k t).take (k + 1)) + val (B.take (k + 1)) = val (A.take (k + 1)) + 4294967296 ^ (k + 1) * c') := by
        rintro nq t c' d rfl ht hc he
        exact ⟨((unhide HR).drewN nq).set k t, by simpa using hsl, hf.set _ _ ht, (below_drewN hbel nq).setCell (by simp) _, unhide HS2 t c' he⟩
      have FIN := hide fin
      clear fin HS2 HR
      rcases (show xb + y ≤ xa ∨ xa < xb ∨ (xa = xb ∧ y = 1) by omega) with h1 | h1 | ⟨h1, h2⟩
      · go_wp2
        go_quiet ((go_at_call 67; exact quiet_eq (limbAt_x bo cb B _ k xb _ (cB.below (below_drewN (Below.refl _ _) _)) lb rfl HXB)))
        go_wp2
        have R := unhide FIN nq (xa - xb - y) 0 ((xa : Int) - xb - y) (by omega) (by omega) (by omega) (by omega)
        go_roundw
        case rel => exact ⟨k + 1, _, 0, by omega, by go_num, int_eq (by omega), by omega, R⟩
        case measure => simp [intOf]; omega
      · go_wp2
        go_quiet ((go_at_call 67; exact quiet_eq (limbAt_x bo cb B _ k xb _ (cB.below (below_drewN (Below.refl _ _) _)) lb rfl HXB)))
        go_wp2
        have e := wrap_sub2 xa xb y ba bb hy h1
        have R := unhide FIN nq (4294967296 + xa - xb - y) 1 (IntKind.u64.wrap (IntKind.u64.wrap ((xa : Int) - xb) - y) % 4294967296) (by rw [e]; omega) (by omega) (by omega) (by omega)
        go_roundw
        case rel => exact ⟨k + 1, _, 1, by omega, by go_num, int_eq (by rw [e]; omega), by omega, R⟩
        case measure => simp [intOf]; omega
      · subst h1; subst h2
        go_wp2
        go_quiet ((go_at_call 67; exact quiet_eq (limbAt_x bo cb B _ k xa _ (cB.below (below_drewN (Below.refl _ _) _)) lb rfl HXB)))
        go_wp2
        have e : IntKind.u64.wrap (-1) = 18446744073709551615 := by decide
        have R := unhide FIN nq 4294967295 1 (IntKind.u64.wrap (-1) % 4294967296) (by rw [e]; rfl) (by omega) (by omega) (by omega)
        go_roundw
        case rel => exact ⟨k + 1, _, 1, by omega, by go_num, int_eq (by rw [e]; rfl), by omega, R⟩
        case measure => simp [intOf]; omega
    · have hend := unhide HE S k y hf hsl hlt hk hv.out
      have HEND := hide hend
      have HR := hide hr
      clear hend hr hv
      go_wp2
      go_ret
      exact ⟨some ⟨w.heap.size, 0, none⟩, A.length, S, by rw [hsl]; rfl, (unhide HR).limbs hf _ (by omega), .inr ⟨_, _, rfl, Nat.le_refl _⟩, hsl, unhide HEND, hbel⟩

end Go.Proofs.Ytnpogpoknbgodaa

/- Contracts of what orders: compareLimbs, More. -/
namespace Go.Proofs.Ytnpogpoknbgodaa
open Go.RowKit

/-- What compareLimbs says. -/
def cmpL (A B : List Nat) : Int := if A.length = B.length then cmpI (val A) (val B) else cmpI A.length B.length

theorem cmpI_lt {a b : Int} (h : a < b) : cmpI a b = -1 := by simp [cmpI, h]
theorem cmpI_gt {a b : Int} (h : b < a) : cmpI a b = 1 := by simp only [cmpI]; rw [if_neg (by omega), if_pos h]
theorem cmpI_eq {a b : Int} (h : a = b) : cmpI a b = 0 := by simp [cmpI, h]

theorem cmpI_top (A B : List Nat) (hA : Fits A) (hB : Fits B) (t : Nat) (heq : ∀ i, t < i → A[i]?.getD 0 = B[i]?.getD 0) (hne : A[t]?.getD 0 ≠ B[t]?.getD 0) :
    cmpI ((A[t]?.getD 0 : Nat) : Int) ((B[t]?.getD 0 : Nat) : Int) = cmpI (val A) (val B) := by
  rcases Nat.lt_or_gt_of_ne hne with h | h
  · have := lt_of_top A B hA t heq h
    rw [cmpI_lt (by omega), cmpI_lt (by omega)]
  · have := lt_of_top B A hB t (fun i hi => (heq i hi).symm) h
    rw [cmpI_gt (by omega), cmpI_gt (by omega)]

set_option maxHeartbeats 400000 in
theorem compareLimbs_any (ao bo : Option Addr) (ca cb : Nat) (A B : List Nat) (w : World) (hA : LimbsAt w ao ca A) (hB : LimbsAt w bo cb B) (la : A.length ≤ 35184372088832) (lb : B.length ≤ 35184372088832) :
    Calls Try.prog 65 #[.slice ao A.length ca, .slice bo B.length cb] w fun e w' => e = .returned (.int .i64 (cmpL A B)) ∧ ∃ m, w.drewN m = w' := by
  by_cases hl : A.length ≠ B.length
  · have hne : ((A.length : Int) != (B.length : Int)) = true := by rw [bne_iff_ne]; omega
    have HE := hide (show cmpL A B = cmpI A.length B.length by simp [cmpL, hl])
    go_enter Try.func65, Try.ntmps65
    go_wp2_with (go_at_call 68; refine (cmpi_any _ _ _).mono ?_; rintro e w' ⟨rfl, rfl⟩)
    go_ret
    exact ⟨ret_int (unhide HE).symm, 0, rfl⟩
  have hl : A.length = B.length := by omega
  by_cases h0 : A.length = 0
  · have eA : A = [] := List.length_eq_zero_iff.1 h0
    have eB : B = [] := List.length_eq_zero_iff.1 (by omega)
    subst eA; subst eB
    go_enter Try.func65, Try.ntmps65
    go_wp2
    refine wp_loop_rounds 1 ?_
    rw [rounds_succ]
    go_wp2
    go_ret
    exact ⟨ret_int (by simp [cmpL, cmpI]), 0, rfl⟩
  obtain ⟨b1, o1, rfl, hb1, hc1⟩ := hA.ne (by omega)
  obtain ⟨b2, o2, rfl, hb2, hc2⟩ := hB.ne (by omega)
  have hTop : ∀ t : Nat, (∀ i : Nat, t < i → A[i]?.getD 0 = B[i]?.getD 0) → A[t]?.getD 0 ≠ B[t]?.getD 0 → cmpI ((A[t]?.getD 0 : Nat) : Int) ((B[t]?.getD 0 : Nat) : Int) = cmpL A B := by
    intro t h1 h2
    rw [cmpI_top A B hA.2.1 hB.2.1 t h1 h2]; simp [cmpL, hl]
  have hEq : (∀ i : Nat, A[i]?.getD 0 = B[i]?.getD 0) → (0 : Int) = cmpL A B := by
    intro h
    have := val_ext A B h
    simp [cmpL, hl, this, cmpI]
  have HT := hide hTop
  have HQ := hide hEq
  have hAbove : ∀ i : Nat, A.length ≤ i → A[i]?.getD 0 = B[i]?.getD 0 := fun i hi => by
    rw [List.getElem?_eq_none (by omega), List.getElem?_eq_none (by omega)]
  have HA := hide hAbove
  clear hTop hEq hAbove hA hB
  rw [← hl]
  generalize hb : cmpL A B = s at *
  clear hb
  generalize hm : A.length = n at *
  have hm' : B.length = n := hl.symm
  clear hl
  go_enter Try.func65, Try.ntmps65
  go_wp2
  go_loopw [19] (fun i wr => ∃ k : Nat, k ≤ n ∧ i = .int .i64 k ∧ Hid (∀ j, n - k ≤ j → A[j]?.getD 0 = B[j]?.getD 0) ∧ Hid (∃ m, wr = w.drewN m))
    (fun i _ => n - (intOf i).toNat)
  case atStart => exact ⟨0, Nat.zero_le _, rfl, fun j hj => unhide HA j (by omega), 0, rfl⟩
  case round =>
    obtain ⟨k, hk, rfl, hq, hw⟩ := hrel
    have hwc : ∀ a, wr.cell? a = w.cell? a := by obtain ⟨m, rfl⟩ := hw.out; intro a; rfl
    clear HA
    by_cases hlt : k < n
    · have c1 := hc1 (n - 1 - k) (by omega)
      have c2 := hc2 (n - 1 - k) (by omega)
      rw [← hwc] at c1 c2
      clear hc1 hc2 hm hm' hwc
      have hi0 : (0 : Int) ≤ (n : Int) - 1 - (k : Int) := by omega
      have hi1 : (n : Int) - 1 - (k : Int) < (n : Int) := by omega
      by_cases hx : A[n - 1 - k]?.getD 0 = B[n - 1 - k]?.getD 0
      · have hq' : Hid (∀ j, n - (k + 1) ≤ j → A[j]?.getD 0 = B[j]?.getD 0) := fun j hj => by
          by_cases h : n - k ≤ j
          · exact hq.out j h
          · rw [show j = n - 1 - k by omega]; exact hx
        rw [hx] at c1
        clear hx hq HT HQ
        generalize B[n - 1 - k]?.getD 0 = x at *
        go_wp2
        go_quiet (fail)
        go_wp2
        go_roundw
        case rel => exact ⟨k + 1, by omega, by go_num, hq', by obtain ⟨m, rfl⟩ := hw.out; exact ⟨m + nq, by simp⟩⟩
        case measure => simp [intOf]; omega
      · have HS := hide (unhide HT (n - 1 - k) (fun i hi => hq.out i (by omega)) hx)
        have hx1 : (((A[n - 1 - k]?.getD 0 : Nat) : Int) != ((B[n - 1 - k]?.getD 0 : Nat) : Int)) = true := by rw [bne_iff_ne]; omega
        clear HT HQ hq hx
        generalize B[n - 1 - k]?.getD 0 = x at *
        generalize A[n - 1 - k]?.getD 0 = y at *
        go_wp2
        go_quiet (fail)
        obtain ⟨w2, hw2⟩ : ∃ w2, w2 = wr.drewN nq := ⟨_, rfl⟩
        have c3 : w2.cell? ⟨b1, o1 + (n - 1 - k), none⟩ = some (.int .u32 (y : Int)) := by rw [hw2]; exact c1
        have c4 : w2.cell? ⟨b2, o2 + (n - 1 - k), none⟩ = some (.int .u32 (x : Int)) := by rw [hw2]; exact c2
        rw [← hw2]
        have HW2 : Hid (∃ q, w2 = wr.drewN q) := ⟨nq, hw2⟩
        clear hw2 c1 c2
        go_wp2
        go_quiet ((go_at_call 69; exact quiet_eq (cmpu_any _ _ _)))
        go_wp2
        go_ret
        obtain ⟨m, rfl⟩ := hw.out
        obtain ⟨q, hq2⟩ := HW2.out
        exact ⟨ret_int (unhide HS), m + q + nq, by rw [hq2]; simp⟩
    · have HS := hide (unhide HQ (fun i => hq.out i (by omega)))
      clear HT HQ hc1 hc2 hwc
      go_wp2
      go_ret
      obtain ⟨m, rfl⟩ := hw.out
      exact ⟨ret_int (unhide HS), m, rfl⟩

end Go.Proofs.Ytnpogpoknbgodaa

