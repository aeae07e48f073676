/- Part 5 of the texts. -/
import Derived.Test.YtfnnbkclnflpfaaGreatDoorPartN01
import Derived.Test.YtfnnbkclnflpfaaGreatDoorPartN03
import Derived.Test.YtfnnbkclnflpfaaGreatDoorPartN02
import Derived.Outline
import Derived.Deep.RegionWith
/- Contracts of what orders: compareLimbs, More. -/
namespace Go.Proofs.YtfnnbkclnflpfaaGreatDoor
open Go.RowKit

/-- What compareLimbs says. -/
def cmpL (A B : List Nat) : Int := if A.length = B.length then cmpI (val A) (val B) else cmpI A.length B.length

theorem cmpI_lt {a b : Int} (h : a < b) : cmpI a b = -1 := by simp [cmpI, h]
theorem cmpI_gt {a b : Int} (h : b < a) : cmpI a b = 1 := by simp only [cmpI]; rw [if_neg (by omega), if_pos h]
theorem cmpI_top (A B : List Nat) (hA : Fits A) (hB : Fits B) (t : Nat) (heq : ∀ i, t < i → A[i]?.getD 0 = B[i]?.getD 0) (hne : A[t]?.getD 0 ≠ B[t]?.getD 0) :
    cmpI ((A[t]?.getD 0 : Nat) : Int) ((B[t]?.getD 0 : Nat) : Int) = cmpI (val A) (val B) := by
  rcases Nat.lt_or_gt_of_ne hne with h | h
  · have := lt_of_top A B hA t heq h
    rw [cmpI_lt (by omega), cmpI_lt (by omega)]
  · have := lt_of_top B A hB t (fun i hi => (heq i hi).symm) h
    rw [cmpI_gt (by omega), cmpI_gt (by omega)]

set_option maxHeartbeats 400000 in
theorem compareLimbs_any (ao bo : Option Addr) (ca cb : Nat) (A B : List Nat) (w : World) (hA : LimbsAt w ao ca A) (hB : LimbsAt w bo cb B) (la : A.length ≤ 35184372088832) (lb : B.length ≤ 35184372088832) :
    Calls Tryz.prog 185 #[.slice ao A.length ca, .slice bo B.length cb] w fun e w' => e = .returned (.int .i64 (cmpL A B)) ∧ ∃ m, w.drewN m = w' := by
  by_cases hl : A.length ≠ B.length
  · have hne : ((A.length : Int) != (B.length : Int)) = true := by rw [bne_iff_ne]; omega
    have HE := hide (show cmpL A B = cmpI A.length B.length by simp [cmpL, hl])
    go_enter Tryz.func185, Tryz.ntmps185
    go_wp2_with (go_at_call 188; refine (cmpi_any _ _ _).mono ?_; rintro e w' ⟨rfl, rfl⟩)
    go_ret
    exact ⟨ret_int (unhide HE).symm, 0, rfl⟩
  have hl : A.length = B.length := by omega
  by_cases h0 : A.length = 0
  · have eA : A = [] := List.length_eq_zero_iff.1 h0
    have eB : B = [] := List.length_eq_zero_iff.1 (by omega)
    subst eA; subst eB
    go_enter Tryz.func185, Tryz.ntmps185
    go_wp2
    refine wp_loop_rounds 1 ?_
    rw [rounds_succ]
    go_wp2
    go_ret
    exact ⟨ret_int (by simp [cmpL, cmpI]), 0, rfl⟩
  obtain ⟨b1, o1, rfl, hb1, hc1⟩ := hA.ne (by omega)
  obtain ⟨b2, o2, rfl, hb2, hc2⟩ := hB.ne (by omega)
  have hTop : ∀ t : Nat, (∀ i : Nat, t < i → A[i]?.getD 0 = B[i]?.getD 0) → A[t]?.getD 0 ≠ B[t]?.getD 0 → cmpI ((A[t]?.getD 0 : Nat) : Int) ((B[t]?.getD 0 : Nat) : Int) = cmpL A B := by
    intro t h1 h2
    rw [cmpI_top A B hA.2.1 hB.2.1 t h1 h2]; simp [cmpL, hl]
  have hEq : (∀ i : Nat, A[i]?.getD 0 = B[i]?.getD 0) → (0 : Int) = cmpL A B := by
    intro h
    have := val_ext A B h
    simp [cmpL, hl, this, cmpI]
  have HT := hide hTop
  have HQ := hide hEq
  have hAbove : ∀ i : Nat, A.length ≤ i → A[i]?.getD 0 = B[i]?.getD 0 := fun i hi => by
    rw [List.getElem?_eq_none (by omega), List.getElem?_eq_none (by omega)]
  have HA := hide hAbove
  clear hTop hEq hAbove hA hB
  rw [← hl]
  generalize hb : cmpL A B = s at *
  clear hb
  generalize hm : A.length = n at *
  have hm' : B.length = n := hl.symm
  clear hl
  go_enter Tryz.func185, Tryz.ntmps185
  go_wp2
  go_loopw [19] (fun i wr => ∃ k : Nat, k ≤ n ∧ i = .int .i64 k ∧ Hid (∀ j, n - k ≤ j → A[j]?.getD 0 = B[j]?.getD 0) ∧ Hid (∃ m, wr = w.drewN m))
    (fun i _ => n - (intOf i).toNat)
  case atStart => exact ⟨0, Nat.zero_le _, rfl, fun j hj => unhide HA j (by omega), 0, rfl⟩
  case round =>
    obtain ⟨k, hk, rfl, hq, hw⟩ := hrel
    have hwc : ∀ a, wr.cell? a = w.cell? a := by obtain ⟨m, rfl⟩ := hw.out; intro a; rfl
    clear HA
    by_cases hlt : k < n
    · have c1 := hc1 (n - 1 - k) (by omega)
      have c2 := hc2 (n - 1 - k) (by omega)
      rw [← hwc] at c1 c2
      clear hc1 hc2 hm hm' hwc
      have hi0 : (0 : Int) ≤ (n : Int) - 1 - (k : Int) := by omega
      have hi1 : (n : Int) - 1 - (k : Int) < (n : Int) := by omega
      by_cases hx : A[n - 1 - k]?.getD 0 = B[n - 1 - k]?.getD 0
      · have hq' : Hid (∀ j, n - (k + 1) ≤ j → A[j]?.getD 0 = B[j]?.getD 0) := fun j hj => by
          by_cases h : n - k ≤ j
          · exact hq.out j h
          · rw [show j = n - 1 - k by omega]; exact hx
        rw [hx] at c1
        clear hx hq HT HQ
        generalize B[n - 1 - k]?.getD 0 = x at *
        go_wp2
        go_quiet (fail)
        go_wp2
        go_roundw
        case rel => exact ⟨k + 1, by omega, by go_num, hq', by obtain ⟨m, rfl⟩ := hw.out; exact ⟨m + nq, by simp⟩⟩
        case measure => simp [intOf]; omega
      · have HS := hide (unhide HT (n - 1 - k) (fun i hi => hq.out i (by omega)) hx)
        have hx1 : (((A[n - 1 - k]?.getD 0 : Nat) : Int) != ((B[n - 1 - k]?.getD 0 : Nat) : Int)) = true := by rw [bne_iff_ne]; omega
        clear HT HQ hq hx
        generalize B[n - 1 - k]?.getD 0 = x at *
        generalize A[n - 1 - k]?.getD 0 = y at *
        go_wp2
        go_quiet (fail)
        obtain ⟨w2, hw2⟩ : ∃ w2, w2 = wr.drewN nq := ⟨_, rfl⟩
        have c3 : w2.cell? ⟨b1, o1 + (n - 1 - k), none⟩ = some (.int .u32 (y : Int)) := by rw [hw2]; exact c1
        have c4 : w2.cell? ⟨b2, o2 + (n - 1 - k), none⟩ = some (.int .u32 (x : Int)) := by rw [hw2]; exact c2
        rw [← hw2]
        have HW2 : Hid (∃ q, w2 = wr.drewN q) := ⟨nq, hw2⟩
        clear hw2 c1 c2
        go_wp2
        go_quiet ((go_at_call 189; exact quiet_eq (cmpu_any _ _ _)))
        go_wp2
        go_ret
        obtain ⟨m, rfl⟩ := hw.out
        obtain ⟨q, hq2⟩ := HW2.out
        exact ⟨ret_int (unhide HS), m + q + nq, by rw [hq2]; simp⟩
    · have HS := hide (unhide HQ (fun i => hq.out i (by omega)))
      clear HT HQ hc1 hc2 hwc
      go_wp2
      go_ret
      obtain ⟨m, rfl⟩ := hw.out
      exact ⟨ret_int (unhide HS), m, rfl⟩

end Go.Proofs.YtfnnbkclnflpfaaGreatDoor

/- Numbers and stores elsewhere. -/
namespace Go.Proofs.YtfnnbkclnflpfaaGreatDoor
open Go.RowKit

theorem cell_setCell_other (w : World) (a p : Addr) (u : Value) (h : a.block ≠ p.block) : (w.setCell p u).cell? a = w.cell? a :=
  World.cell?_of_block (Below.heap_setCell w p u a.block h)

theorem LimbsAt.store {w : World} {ao : Option Addr} {cap B : Nat} {L : List Nat} (h : LimbsAt w ao cap L) (hn : NewAt B ao L) {p : Addr} (hp : p.block < B) (u : Value) : LimbsAt (w.setCell p u) ao cap L := by
  refine ⟨h.1, h.2.1, ?_⟩
  rcases h.2.2 with h0 | ⟨b, off, h1, h2, h3⟩
  · exact .inl h0
  · rcases hn with h0 | ⟨b', off', h1', h2'⟩
    · exact .inl h0
    · rw [h1] at h1'
      simp only [Option.some.injEq, Addr.mk.injEq] at h1'
      obtain ⟨rfl, rfl, _⟩ := h1'
      refine .inr ⟨b, off, h1, by simpa [World.setCell] using h2, fun i hi => ?_⟩
      rw [cell_setCell_other w _ p u (by simp; omega)]
      exact h3 i hi

/-- What a function of one number answers through its result's box: the number, in the world behind the two stores. -/
theorem IsNum.stored {B B' : Nat} {w : World} {n : Bool} {ao : Option Addr} {cap : Nat} {L : List Nat} {x : Int} (h : LimbsAt w ao cap L ∧ NewAt B ao L ∧ Canon L ∧ n = decide (x < 0) ∧ val L = x.natAbs ∧ L.length ≤ 35184372088832) {p q : Addr} (hp : p.block < B) (hq : q.block < B) (hB : B' ≤ B) (u u' : Value) :
    IsNum B' ((w.setCell p u).setCell q u') (.agg #[.bool n, .slice ao L.length cap]) x :=
  ⟨n, ao, cap, L, rfl, (h.1.store h.2.1 hp u).store h.2.1 hq u', h.2.1.mono hB, h.2.2⟩

end Go.Proofs.YtfnnbkclnflpfaaGreatDoor

/- Contracts of the reference's More, Made. -/
namespace Go.Proofs.YtfnnbkclnflpfaaGreatDoor
open Go.RowKit
/-- As IsNum, of at most M limbs. -/
def IsNumM (M B : Nat) (w : World) (v : Value) (x : Int) : Prop :=
  ∃ neg ao cap L, v = .agg #[.bool neg, .slice ao L.length cap] ∧ LimbsAt w ao cap L ∧ NewAt B ao L ∧ Canon L ∧ neg = decide (x < 0) ∧ val L = x.natAbs ∧ L.length ≤ M
theorem IsNumM.num {M B : Nat} {w : World} {v : Value} {x : Int} (h : IsNumM M B w v x) (hM : M ≤ 35184372088832) : IsNum B w v x := by
  obtain ⟨neg, ao, cap, L, h1, h2, h3, h4, h5, h6, h7⟩ := h
  exact ⟨neg, ao, cap, L, h1, h2, h3, h4, h5, h6, by omega⟩
theorem IsNumM.below {M B : Nat} {w w' : World} {v : Value} {x : Int} (h : IsNumM M B w v x) (hb : Below w.heap.size w w') : IsNumM M B w' v x := by
  obtain ⟨neg, ao, cap, L, h1, h2, h3⟩ := h
  exact ⟨neg, ao, cap, L, h1, h2.below hb, h3⟩
theorem IsNumM.more {M M' B : Nat} {w : World} {v : Value} {x : Int} (h : IsNumM M B w v x) (hM : M ≤ M') : IsNumM M' B w v x := by
  obtain ⟨neg, ao, cap, L, h1, h2, h3, h4, h5, h6, h7⟩ := h
  exact ⟨neg, ao, cap, L, h1, h2, h3, h4, h5, h6, by omega⟩
theorem IsNumM.zero (M B : Nat) (w : World) (ao : Option Addr) (cap : Nat) : IsNumM M B w (.agg #[.bool false, .slice ao 0 cap]) 0 :=
  ⟨false, ao, cap, [], rfl, LimbsAt.nil _ _ _, .inl rfl, .inl rfl, rfl, rfl, by simp⟩
theorem sval_IsNum {n : Bool} {L : List Nat} {x : Int} (h : n = decide (x < 0)) (hv : val L = x.natAbs) : sval n L = x := by
  unfold sval
  rw [h]
  by_cases hx0 : x < 0
  · simp [hx0]; omega
  · simp [hx0]; omega
/-- A number of at most M limbs, in the world behind the two stores into the result's box. -/
theorem IsNumM.stored {M B B' : Nat} {w : World} {n : Bool} {ao : Option Addr} {cap : Nat} {L : List Nat} {x : Int} (h : LimbsAt w ao cap L ∧ NewAt B ao L ∧ Canon L ∧ n = decide (x < 0) ∧ val L = x.natAbs ∧ L.length ≤ M) {p q : Addr} (hp : p.block < B) (hq : q.block < B) (hB : B' ≤ B) (u u' : Value) :
    IsNumM M B' ((w.setCell p u).setCell q u') (.agg #[.bool n, .slice ao L.length cap]) x :=
  ⟨n, ao, cap, L, rfl, (h.1.store h.2.1 hp u).store h.2.1 hq u', h.2.1.mono hB, h.2.2⟩

end Go.Proofs.YtfnnbkclnflpfaaGreatDoor

/- Contract of subLimbs. -/
namespace Go.Proofs.YtfnnbkclnflpfaaGreatDoor
open Go.RowKit

theorem wrap_sub2 (x y c : Nat) (hx : x < 4294967296) (hy : y < 4294967296) (hc : c ≤ 1) (h : x < y) :
    IntKind.u64.wrap (IntKind.u64.wrap ((x : Int) - (y : Int)) - (c : Int)) = 18446744073709551616 + (x : Int) - (y : Int) - (c : Int) := by
  simp only [IntKind.wrap, IntKind.signed, IntKind.bits]
  simp
  omega

set_option maxHeartbeats 400000 in
theorem subLimbs_any (ao bo : Option Addr) (ca cb : Nat) (A B : List Nat) (w : World) (hA : LimbsAt w ao ca A) (hB : LimbsAt w bo cb B) (la : A.length ≤ 35184372088830) (lb : B.length ≤ 35184372088830) (hv : val B ≤ val A) :
    Calls Tryz.prog 186 #[.slice ao A.length ca, .slice bo B.length cb] w fun e w' => ∃ ao' cap' L', e = .returned (.slice ao' L'.length cap') ∧ LimbsAt w' ao' cap' L' ∧ NewAt w.heap.size ao' L' ∧ L'.length = A.length ∧ val L' = val A - val B ∧ Below w.heap.size w w' := by
  obtain ⟨i0, hi, hz0, hz1, hz2⟩ := info_parts Tryz.info70
  have hE : ∀ (S : List Nat) (k c : Nat), Fits S → S.length = A.length → ¬ k < A.length → k ≤ A.length → val (S.take k) + val (B.take k) = val (A.take k) + 4294967296 ^ k * c → val S = val A - val B := by
    intro S k c f hl h1 h2 h
    rw [show k = A.length by omega] at h
    exact sub_end A B S A.length c f hl rfl hv (take_le A B hA.2.1 hv) h
  have HE := hide hE
  have hst := fun (S : List Nat) (k c t c' : Nat) (hk : k < S.length) => sub_step A B S k c (A[k]?.getD 0) (B[k]?.getD 0) t c' hk rfl rfl
  have HST := hide hst
  clear hE hst hv
  have hcA : 0 < A.length → ∃ b off, ao = some ⟨b, off, none⟩ := fun h => by obtain ⟨b, off, h1, _⟩ := hA.ne h; exact ⟨b, off, h1⟩
  have HCA := hide hcA
  clear hcA
  go_enter Tryz.func186, Tryz.ntmps186
  go_wp2_with (at_make; refine wpList_make_full _ rfl _ _ 25 rfl w.heap.size 70 i0 (.int .u32 0) 1 Tryz.underlying25 hi hz0 hz1 .i64 .i64 _ _ A.length rfl rfl rfl rfl (by rw [hz2]; omega) (by unfold maxLen; omega) (Nat.le_refl _) ?_; intro w1 hown hgrow)
  have hrow := RowAt.made hown
  have hb1 : Below w.heap.size w w1 := (Below.refl _ _).grown hgrow (Nat.le_refl _) (fun k h => by simp at h)
  have hs1 : w.heap.size < w1.heap.size := hrow.lt
  clear hown hgrow
  go_wp2
  go_loopw [6, 14] (fun c i wr => ∃ (k : Nat) (S : List Nat) (y : Nat), k ≤ A.length ∧ i = .int .i64 k ∧ c = .int .u64 y ∧ y ≤ 1 ∧ RowAt wr w.heap.size S ∧ S.length = A.length ∧ Fits S ∧ Below w.heap.size w wr ∧ Hid (val (S.take k) + val (B.take k) = val (A.take k) + 4294967296 ^ k * y))
    (fun _ i _ => A.length - (intOf i).toNat)
  case atStart => exact ⟨0, List.replicate A.length 0, 0, Nat.zero_le _, rfl, rfl, by omega, hrow, by simp, Fits.zeros _, hb1, by unfold Hid; simp [val]⟩
  case round =>
    obtain ⟨k, S, y, hk, rfl, rfl, hy, hr, hsl, hf, hbel, hv⟩ := hrel
    by_cases hlt : k < A.length
    · obtain ⟨xa, hxa⟩ : ∃ x, A[k]?.getD 0 = x := ⟨_, rfl⟩
      obtain ⟨xb, hxb⟩ : ∃ x, B[k]?.getD 0 = x := ⟨_, rfl⟩
      have ba : xa < 4294967296 := by rw [← hxa]; exact hA.lt k
      have bb : xb < 4294967296 := by rw [← hxb]; exact hB.lt k
      have cA := hA.below hbel
      have cB := hB.below hbel
      have hst := fun (t c' : Nat) (ht : t + xb + y = xa + 4294967296 * c') => unhide HST S k y t c' (by omega) (by rw [hxa, hxb]; exact ht) hv.out
      have HS2 := hide hst
      have HXB := hide hxb
      have hcell := hr.cell k (by omega)
      have hfree := hr.free k
      have HR := hide hr
      obtain ⟨b1, o1, hao, hb1', hc1⟩ := cA.ne (by omega)
      have ca1 := hc1 k hlt
      rw [hxa] at ca1
      clear hst hxa hxb hv hr hc1 HST HE
      generalize hS : S[k]?.getD 0 = sk at *
      clear hS
      subst hao
      have hlt' : (k : Int) < (A.length : Int) := by omega
      have fin : ∀ (nq t c' : Nat) (d : Int), d = (t : Int) → t < 4294967296 → c' ≤ 1 → t + xb + y = xa + 4294967296 * c' →
          RowAt ((wr.drewN nq).setCell ⟨w.heap.size, k, none⟩ (.int .u32 d)) w.heap.size (S.set k t) ∧ (S.set k t).length = A.length ∧ Fits (S.set k t) ∧ Below w.heap.size w ((wr.drewN nq).setCell ⟨w.heap.size, k, none⟩ (.int .u32 d)) ∧
          Hid (val ((S.set k t).take (k + 1)) + val (B.take (k + 1)) = val (A.take (k + 1)) + 4294967296 ^ (k + 1) * c') := by
        rintro nq t c' d rfl ht hc he
        exact ⟨((unhide HR).drewN nq).set k t, by simpa using hsl, hf.set _ _ ht, (below_drewN hbel nq).setCell (by simp) _, unhide HS2 t c' he⟩
      have FIN := hide fin
      clear fin HS2 HR
      rcases (show xb + y ≤ xa ∨ xa < xb ∨ (xa = xb ∧ y = 1) by omega) with h1 | h1 | ⟨h1, h2⟩
      · go_wp2
        go_quiet ((go_at_call 176; exact quiet_eq (limbAt_x bo cb B _ k xb _ (cB.below (below_drewN (Below.refl _ _) _)) lb rfl HXB)))
        go_wp2
        have R := unhide FIN nq (xa - xb - y) 0 ((xa : Int) - xb - y) (by omega) (by omega) (by omega) (by omega)
        go_roundw
        case rel => exact ⟨k + 1, _, 0, by omega, by go_num, int_eq (by omega), by omega, R⟩
        case measure => simp [intOf]; omega
      · go_wp2
        go_quiet ((go_at_call 176; exact quiet_eq (limbAt_x bo cb B _ k xb _ (cB.below (below_drewN (Below.refl _ _) _)) lb rfl HXB)))
        go_wp2
        have e := wrap_sub2 xa xb y ba bb hy h1
        have R := unhide FIN nq (4294967296 + xa - xb - y) 1 (IntKind.u64.wrap (IntKind.u64.wrap ((xa : Int) - xb) - y) % 4294967296) (by rw [e]; omega) (by omega) (by omega) (by omega)
        go_roundw
        case rel => exact ⟨k + 1, _, 1, by omega, by go_num, int_eq (by rw [e]; omega), by omega, R⟩
        case measure => simp [intOf]; omega
      · subst h1; subst h2
        go_wp2
        go_quiet ((go_at_call 176; exact quiet_eq (limbAt_x bo cb B _ k xa _ (cB.below (below_drewN (Below.refl _ _) _)) lb rfl HXB)))
        go_wp2
        have e : IntKind.u64.wrap (-1) = 18446744073709551615 := by decide
        have R := unhide FIN nq 4294967295 1 (IntKind.u64.wrap (-1) % 4294967296) (by rw [e]; rfl) (by omega) (by omega) (by omega)
        go_roundw
        case rel => exact ⟨k + 1, _, 1, by omega, by go_num, int_eq (by rw [e]; rfl), by omega, R⟩
        case measure => simp [intOf]; omega
    · have hend := unhide HE S k y hf hsl hlt hk hv.out
      have HEND := hide hend
      have HR := hide hr
      clear hend hr hv
      go_wp2
      go_ret
      exact ⟨some ⟨w.heap.size, 0, none⟩, A.length, S, by rw [hsl]; rfl, (unhide HR).limbs hf _ (by omega), .inr ⟨_, _, rfl, Nat.le_refl _⟩, hsl, unhide HEND, hbel⟩

end Go.Proofs.YtfnnbkclnflpfaaGreatDoor

/- Contracts of fit, Made. -/
namespace Go.Proofs.YtfnnbkclnflpfaaGreatDoor
open Go.RowKit

set_option maxHeartbeats 400000 in
theorem fit_any (B : Nat) (neg : Bool) (ao : Option Addr) (cap : Nat) (L : List Nat) (w : World) (h : LimbsAt w ao cap L) (hn : NewAt B ao L) (hl : L.length ≤ 35184372088832) :
    Calls Tryz.prog 153 #[.bool neg, .slice ao L.length cap] w fun e w' => ∃ v, e = .returned (.tuple #[v, .int .i64 (errOf (sval neg L))]) ∧ IsNum B w' v (numOf (sval neg L)) ∧ Below w.heap.size w w' := by
  have hT : ∀ L' : List Nat, Canon L' → Fits L' → val L' = val L → (L' = [] → errOf (sval neg L) = 0 ∧ numOf (sval neg L) = 0) ∧ (512 < L'.length → errOf (sval neg L) = 2 ∧ numOf (sval neg L) = 0) ∧ (L'.length ≤ 512 → errOf (sval neg L) = 0 ∧ numOf (sval neg L) = sval neg L') := by
    intro L' c f hv
    have hi := val_lt_TOP L' f c
    refine ⟨?_, ?_, ?_⟩
    · rintro rfl
      have : val L = 0 := by rw [← hv]; rfl
      have hT : 0 < TOP := Nat.pow_pos (by decide)
      have e : sval neg L = 0 := by unfold sval; cases neg <;> simp [this]
      simp [errOf, numOf, e, hT]
    · intro h5
      have : ¬ val L' < TOP := fun h => by have := hi.1 h; omega
      simp [errOf, numOf, natAbs_sval, ← hv, this]
    · intro h5
      have := hi.2 h5
      rw [sval_congr (neg := neg) hv]
      simp [errOf, numOf, natAbs_sval, ← hv, this]
  generalize errOf (sval neg L) = er at *
  generalize numOf (sval neg L) = nu at *
  have HT := hide hT
  clear hT
  have HN := hide hn
  clear hn
  go_enter Tryz.func153, Tryz.ntmps153
  go_wp2_with fail
  refine (trim_any ao cap L _ (h.below ?_) hl).mono ?_
  · exact (Below.refl _ _).alloc (Nat.le_refl _) _
  rintro e w' ⟨v, rfl, ⟨ao', cap', L', rfl, h2, h3, h4, h5, h6⟩, rfl⟩
  have h1 := h5 w h
  have H := hide (unhide HT L' h2 h1.2.1 h3)
  have HA := hide (h6 B (unhide HN))
  have H1 := hide h1
  have H2 := hide h2
  clear HT h3 h5 h6 h1 h2 h HN
  by_cases h0 : L' = []
  · have H0 := hide ((unhide H).1 h0)
    have hz : L'.length = 0 := by rw [h0]; rfl
    clear h0
    go_wp2
    refine bodyPost_ret (v := .tuple #[.agg #[.bool false, .slice none 0 0], .int .i64 0]) (by simp [results, Tryz.results153, go_sem]) rfl ⟨.agg #[.bool false, .slice none 0 0], ?_, ?_, (Below.refl _ _).alloc (Nat.le_refl _) _⟩
    · rw [(unhide H0).1]
    · rw [(unhide H0).2]; exact IsNum.zero _ _ _ _
  · have hp : 0 < L'.length := List.length_pos_iff.2 h0
    have hne : ((L'.length : Int) == 0) = false := by simp; exact h0
    by_cases h5 : L'.length ≤ 512
    · have H0 := hide ((unhide H).2.2 h5)
      go_wp2
      refine bodyPost_ret (v := .tuple #[.agg #[.bool neg, .slice ao' L'.length cap'], .int .i64 0]) (by simp [results, Tryz.results153, go_sem]) rfl ⟨.agg #[.bool neg, .slice ao' L'.length cap'], ?_, ?_, ?_⟩
      · rw [(unhide H0).1]
      · rw [(unhide H0).2]
        exact IsNum.mk ((unhide H1).below ((Below.refl _ _).alloc (Nat.le_refl _) _)) (unhide HA) (unhide H2) h0 (by omega)
      · exact (Below.refl _ _).alloc (Nat.le_refl _) _
    · have H0 := hide ((unhide H).2.1 (by omega))
      go_wp2
      refine bodyPost_ret (v := .tuple #[.agg #[.bool false, .slice none 0 0], .int .i64 2]) (by simp [results, Tryz.results153, go_sem]) rfl ⟨.agg #[.bool false, .slice none 0 0], ?_, ?_, (Below.refl _ _).alloc (Nat.le_refl _) _⟩
      · rw [(unhide H0).1]
      · rw [(unhide H0).2]; exact IsNum.zero _ _ _ _

end Go.Proofs.YtfnnbkclnflpfaaGreatDoor

