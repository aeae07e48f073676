/- Part 5 of the texts. -/
import Derived.Test.YtfnnbkclnflpfaaGreatDoorPartS04
import Derived.Test.YtfnnbkclnflpfaaGreatDoorPartS01
import Derived.Test.YtfnnbkclnflpfaaGreatDoorPartS03
import Derived.Test.YtfnnbkclnflpfaaGreatDoorPartS02
/- Contracts of soft's Kind, Finite; of the reference's Kind, Finite, Minus. -/
namespace Go.Proofs.YtfnnbkclnflpfaaGreatDoor
open Go.RowKit

theorem kind_any (b : Nat) (w : World) (h : b < 18446744073709551616) :
    Calls Tryz.prog 90 #[.int .u64 b] w fun e w' => e = .returned (.int .i64 (fK b)) ∧ Below w.heap.size w w' := by
  have C := fun w' => split_any b w' h
  unfold fV at C
  unfold fK
  generalize fF b = f at *
  generalize fP b = p at *
  generalize fS b = s at *
  by_cases h1 : p = 2047
  · subst h1
    rw [if_pos rfl]
    by_cases h2 : f = 0
    · subst h2
      rw [if_pos rfl]
      cases s
      · exact kind_i0 b w C
      · exact kind_i1 b w C
    · rw [if_neg h2]
      have hf : ((f : Int) == 0) = false := by simp; omega
      cases s
      · exact kind_n0 b f w C hf
      · exact kind_n1 b f w C hf
  · rw [if_neg h1]
    by_cases h2 : p = 0
    · subst h2
      rw [if_pos rfl]
      by_cases h3 : f = 0
      · subst h3
        rw [if_pos rfl]
        cases s
        · exact kind_z0 b w C
        · exact kind_z1 b w C
      · rw [if_neg h3]
        have hf : ((f : Int) == 0) = false := by simp; omega
        cases s
        · exact kind_s0 b f w C hf
        · exact kind_s1 b f w C hf
    · rw [if_neg h2]
      have hp : ((p : Int) == 0) = false := by simp; omega
      have hq : ((p : Int) == 2047) = false := by simp; omega
      cases s
      · exact kind_o0 b p f w C hp hq
      · exact kind_o1 b p f w C hp hq

/-- Is it finite? -/
def fFin (b : Nat) : Bool := decide (fP b ≠ 2047)

theorem fK_cases (b : Nat) : (fFin b = false ∧ (fK b = 3 ∨ fK b = 4)) ∨ (fFin b = true ∧ (fK b = 0 ∨ fK b = 1 ∨ fK b = 2)) := by
  unfold fK fFin
  by_cases h1 : fP b = 2047
  · left
    refine ⟨by simp [h1], ?_⟩
    rw [if_pos h1]
    split <;> simp
  · right
    refine ⟨by simp [h1], ?_⟩
    rw [if_neg h1]
    split
    · split <;> simp
    · simp

set_option maxHeartbeats 1000000 in
theorem sfinite_any (b : Nat) (w : World) (h : b < 18446744073709551616) :
    Calls Tryz.prog 42 #[.int .u64 b] w fun e w' => e = .returned (.bool (fFin b)) ∧ Below w.heap.size w w' := by
  have CK := hide (fun w' => kind_any b w' h)
  have hc := fK_cases b
  generalize fFin b = q at *
  generalize fK b = k at *
  rcases hc with ⟨rfl, rfl | rfl⟩ | ⟨rfl, rfl | rfl | rfl⟩
  all_goals
    clear h
    go_enter Tryz.func42, Tryz.ntmps42
    go_wp2_with (go_at_call 90; refine (unhide CK _).mono ?_; rintro e w2 ⟨rfl, hb1⟩)
    go_ret
    exact ⟨rfl, hb1⟩

set_option maxHeartbeats 1000000 in
theorem rfinite_any (b : Nat) (w : World) (h : b < 18446744073709551616) :
    Calls Tryz.prog 89 #[.int .u64 b] w fun e w' => e = .returned (.bool (fFin b)) ∧ w = w' := by
  have CK := hide (fun w' => rpower_any b w' h)
  have hl := fP_lt b
  unfold fFin
  generalize fP b = k at *
  clear h
  by_cases h1 : k = 2047
  · subst h1
    go_enter Tryz.func89, Tryz.ntmps89
    go_wp2_with (go_at_call 71; refine (unhide CK _).mono ?_; rintro e w2 ⟨rfl, rfl⟩)
    go_ret
    exact ⟨rfl, rfl⟩
  · rw [decide_eq_true h1]
    have hk : (k : Int) < 2047 := by omega
    clear h1 hl
    go_enter Tryz.func89, Tryz.ntmps89
    go_wp2_with (go_at_call 71; refine (unhide CK _).mono ?_; rintro e w2 ⟨rfl, rfl⟩)
    go_ret
    exact ⟨rfl, rfl⟩

set_option maxHeartbeats 2000000 in
theorem rkind_any (b : Nat) (w : World) (h : b < 18446744073709551616) :
    Calls Tryz.prog 28 #[.int .u64 b] w fun e w' => e = .returned (.int .i64 (fK b)) ∧ w = w' := by
  have CP := hide (fun w' => rpower_any b w' h)
  have CF := hide (fun w' => rfrac_any b w' h)
  unfold fK
  generalize fF b = f at *
  generalize fP b = p at *
  clear h
  by_cases h1 : p = 2047
  · subst h1
    rw [if_pos rfl]
    by_cases h2 : f = 0
    · subst h2
      rw [if_pos rfl]
      go_enter Tryz.func28, Tryz.ntmps28
      go_wp2_with (first | (go_at_call 71; refine (unhide CP _).mono ?_; rintro e w2 ⟨rfl, rfl⟩) | (go_at_call 72; refine (unhide CF _).mono ?_; rintro e w3 ⟨rfl, rfl⟩))
      go_ret
      exact ⟨rfl, rfl⟩
    · rw [if_neg h2]
      have hf : ((f : Int) == 0) = false := by simp; omega
      clear h2
      go_enter Tryz.func28, Tryz.ntmps28
      go_wp2_with (first | (go_at_call 71; refine (unhide CP _).mono ?_; rintro e w2 ⟨rfl, rfl⟩) | (go_at_call 72; refine (unhide CF _).mono ?_; rintro e w3 ⟨rfl, rfl⟩))
      go_ret
      exact ⟨rfl, rfl⟩
  · rw [if_neg h1]
    have hp1 : ((p : Int) == 2047) = false := by simp; omega
    clear h1
    by_cases h2 : p = 0
    · subst h2
      rw [if_pos rfl]
      by_cases h3 : f = 0
      · subst h3
        rw [if_pos rfl]
        go_enter Tryz.func28, Tryz.ntmps28
        go_wp2_with (first | (go_at_call 71; refine (unhide CP _).mono ?_; rintro e w2 ⟨rfl, rfl⟩) | (go_at_call 72; refine (unhide CF _).mono ?_; rintro e w3 ⟨rfl, rfl⟩))
        go_ret
        exact ⟨rfl, rfl⟩
      · rw [if_neg h3]
        have hf : decide ((0 : Int) < (f : Int)) = true := decide_eq_true (by omega)
        have hf2 : (0 : Int) < (f : Int) := by omega
        clear h3
        go_enter Tryz.func28, Tryz.ntmps28
        go_wp2_with (first | (go_at_call 71; refine (unhide CP _).mono ?_; rintro e w2 ⟨rfl, rfl⟩) | (go_at_call 72; refine (unhide CF _).mono ?_; rintro e w3 ⟨rfl, rfl⟩))
        go_ret
        exact ⟨rfl, rfl⟩
    · rw [if_neg h2]
      have hf : decide ((0 : Int) < (p : Int)) = true := decide_eq_true (by omega)
      have hf2 : (0 : Int) < (p : Int) := by omega
      clear h2
      go_enter Tryz.func28, Tryz.ntmps28
      go_wp2_with (first | (go_at_call 71; refine (unhide CP _).mono ?_; rintro e w2 ⟨rfl, rfl⟩) | (go_at_call 72; refine (unhide CF _).mono ?_; rintro e w3 ⟨rfl, rfl⟩))
      go_ret
      exact ⟨rfl, rfl⟩

end Go.Proofs.YtfnnbkclnflpfaaGreatDoor

/- Contracts of what orders: compareLimbs, More. -/
namespace Go.Proofs.YtfnnbkclnflpfaaGreatDoor
open Go.RowKit

/-- What compareLimbs says. -/
def cmpL (A B : List Nat) : Int := if A.length = B.length then cmpI (val A) (val B) else cmpI A.length B.length

theorem cmpI_lt {a b : Int} (h : a < b) : cmpI a b = -1 := by simp [cmpI, h]
theorem cmpI_gt {a b : Int} (h : b < a) : cmpI a b = 1 := by simp only [cmpI]; rw [if_neg (by omega), if_pos h]
theorem cmpI_top (A B : List Nat) (hA : Fits A) (hB : Fits B) (t : Nat) (heq : ∀ i, t < i → A[i]?.getD 0 = B[i]?.getD 0) (hne : A[t]?.getD 0 ≠ B[t]?.getD 0) :
    cmpI ((A[t]?.getD 0 : Nat) : Int) ((B[t]?.getD 0 : Nat) : Int) = cmpI (val A) (val B) := by
  rcases Nat.lt_or_gt_of_ne hne with h | h
  · have := lt_of_top A B hA t heq h
    rw [cmpI_lt (by omega), cmpI_lt (by omega)]
  · have := lt_of_top B A hB t (fun i hi => (heq i hi).symm) h
    rw [cmpI_gt (by omega), cmpI_gt (by omega)]

set_option maxHeartbeats 400000 in
theorem compareLimbs_any (ao bo : Option Addr) (ca cb : Nat) (A B : List Nat) (w : World) (hA : LimbsAt w ao ca A) (hB : LimbsAt w bo cb B) (la : A.length ≤ 35184372088832) (lb : B.length ≤ 35184372088832) :
    Calls Tryz.prog 185 #[.slice ao A.length ca, .slice bo B.length cb] w fun e w' => e = .returned (.int .i64 (cmpL A B)) ∧ ∃ m, w.drewN m = w' := by
  by_cases hl : A.length ≠ B.length
  · have hne : ((A.length : Int) != (B.length : Int)) = true := by rw [bne_iff_ne]; omega
    have HE := hide (show cmpL A B = cmpI A.length B.length by simp [cmpL, hl])
    go_enter Tryz.func185, Tryz.ntmps185
    go_wp2_with (go_at_call 188; refine (cmpi_any _ _ _).mono ?_; rintro e w' ⟨rfl, rfl⟩)
    go_ret
    exact ⟨ret_int (unhide HE).symm, 0, rfl⟩
  have hl : A.length = B.length := by omega
  by_cases h0 : A.length = 0
  · have eA : A = [] := List.length_eq_zero_iff.1 h0
    have eB : B = [] := List.length_eq_zero_iff.1 (by omega)
    subst eA; subst eB
    go_enter Tryz.func185, Tryz.ntmps185
    go_wp2
    refine wp_loop_rounds 1 ?_
    rw [rounds_succ]
    go_wp2
    go_ret
    exact ⟨ret_int (by simp [cmpL, cmpI]), 0, rfl⟩
  obtain ⟨b1, o1, rfl, hb1, hc1⟩ := hA.ne (by omega)
  obtain ⟨b2, o2, rfl, hb2, hc2⟩ := hB.ne (by omega)
  have hTop : ∀ t : Nat, (∀ i : Nat, t < i → A[i]?.getD 0 = B[i]?.getD 0) → A[t]?.getD 0 ≠ B[t]?.getD 0 → cmpI ((A[t]?.getD 0 : Nat) : Int) ((B[t]?.getD 0 : Nat) : Int) = cmpL A B := by
    intro t h1 h2
    rw [cmpI_top A B hA.2.1 hB.2.1 t h1 h2]; simp [cmpL, hl]
  have hEq : (∀ i : Nat, A[i]?.getD 0 = B[i]?.getD 0) → (0 : Int) = cmpL A B := by
    intro h
    have := val_ext A B h
    simp [cmpL, hl, this, cmpI]
  have HT := hide hTop
  have HQ := hide hEq
  have hAbove : ∀ i : Nat, A.length ≤ i → A[i]?.getD 0 = B[i]?.getD 0 := fun i hi => by
    rw [List.getElem?_eq_none (by omega), List.getElem?_eq_none (by omega)]
  have HA := hide hAbove
  clear hTop hEq hAbove hA hB
  rw [← hl]
  generalize hb : cmpL A B = s at *
  clear hb
  generalize hm : A.length = n at *
  have hm' : B.length = n := hl.symm
  clear hl
  go_enter Tryz.func185, Tryz.ntmps185
  go_wp2
  go_loopw [19] (fun i wr => ∃ k : Nat, k ≤ n ∧ i = .int .i64 k ∧ Hid (∀ j, n - k ≤ j → A[j]?.getD 0 = B[j]?.getD 0) ∧ Hid (∃ m, wr = w.drewN m))
    (fun i _ => n - (intOf i).toNat)
  case atStart => exact ⟨0, Nat.zero_le _, rfl, fun j hj => unhide HA j (by omega), 0, rfl⟩
  case round =>
    obtain ⟨k, hk, rfl, hq, hw⟩ := hrel
    have hwc : ∀ a, wr.cell? a = w.cell? a := by obtain ⟨m, rfl⟩ := hw.out; intro a; rfl
    clear HA
    by_cases hlt : k < n
    · have c1 := hc1 (n - 1 - k) (by omega)
      have c2 := hc2 (n - 1 - k) (by omega)
      rw [← hwc] at c1 c2
      clear hc1 hc2 hm hm' hwc
      have hi0 : (0 : Int) ≤ (n : Int) - 1 - (k : Int) := by omega
      have hi1 : (n : Int) - 1 - (k : Int) < (n : Int) := by omega
      by_cases hx : A[n - 1 - k]?.getD 0 = B[n - 1 - k]?.getD 0
      · have hq' : Hid (∀ j, n - (k + 1) ≤ j → A[j]?.getD 0 = B[j]?.getD 0) := fun j hj => by
          by_cases h : n - k ≤ j
          · exact hq.out j h
          · rw [show j = n - 1 - k by omega]; exact hx
        rw [hx] at c1
        clear hx hq HT HQ
        generalize B[n - 1 - k]?.getD 0 = x at *
        go_wp2
        go_quiet (fail)
        go_wp2
        go_roundw
        case rel => exact ⟨k + 1, by omega, by go_num, hq', by obtain ⟨m, rfl⟩ := hw.out; exact ⟨m + nq, by simp⟩⟩
        case measure => simp [intOf]; omega
      · have HS := hide (unhide HT (n - 1 - k) (fun i hi => hq.out i (by omega)) hx)
        have hx1 : (((A[n - 1 - k]?.getD 0 : Nat) : Int) != ((B[n - 1 - k]?.getD 0 : Nat) : Int)) = true := by rw [bne_iff_ne]; omega
        clear HT HQ hq hx
        generalize B[n - 1 - k]?.getD 0 = x at *
        generalize A[n - 1 - k]?.getD 0 = y at *
        go_wp2
        go_quiet (fail)
        obtain ⟨w2, hw2⟩ : ∃ w2, w2 = wr.drewN nq := ⟨_, rfl⟩
        have c3 : w2.cell? ⟨b1, o1 + (n - 1 - k), none⟩ = some (.int .u32 (y : Int)) := by rw [hw2]; exact c1
        have c4 : w2.cell? ⟨b2, o2 + (n - 1 - k), none⟩ = some (.int .u32 (x : Int)) := by rw [hw2]; exact c2
        rw [← hw2]
        have HW2 : Hid (∃ q, w2 = wr.drewN q) := ⟨nq, hw2⟩
        clear hw2 c1 c2
        go_wp2
        go_quiet ((go_at_call 189; exact quiet_eq (cmpu_any _ _ _)))
        go_wp2
        go_ret
        obtain ⟨m, rfl⟩ := hw.out
        obtain ⟨q, hq2⟩ := HW2.out
        exact ⟨ret_int (unhide HS), m + q + nq, by rw [hq2]; simp⟩
    · have HS := hide (unhide HQ (fun i => hq.out i (by omega)))
      clear HT HQ hc1 hc2 hwc
      go_wp2
      go_ret
      obtain ⟨m, rfl⟩ := hw.out
      exact ⟨ret_int (unhide HS), m, rfl⟩

end Go.Proofs.YtfnnbkclnflpfaaGreatDoor

/- Contract of the reference's limb. -/
namespace Go.Proofs.YtfnnbkclnflpfaaGreatDoor
open Go.RowKit

set_option maxHeartbeats 400000 in
theorem limb_any (ao : Option Addr) (cap : Nat) (L : List Nat) (i : Int) (k : Nat) (w : World) (h : LimbsAt w ao cap L) (hl : L.length ≤ 35184372088830) (hk : i = (k : Int)) :
    Calls Tryz.prog 134 #[.slice ao L.length cap, .int .i64 i] w fun e w' => e = .returned (.int .u64 ((L[k]?.getD 0 : Nat) : Int)) ∧ w = w' := by
  subst hk
  by_cases hlt : k < L.length
  · rcases h.2.2 with h0 | ⟨b, off, rfl, hb, hc⟩
    · subst h0; simp at hlt
    · have hc1 := hc k hlt
      have hx : L[k]?.getD 0 < 4294967296 := by rw [List.getElem?_eq_getElem hlt]; exact h.2.1 _ (List.getElem_mem hlt)
      clear h hc
      generalize L[k]?.getD 0 = x at *
      generalize L.length = n at *
      go_enter Tryz.func134, Tryz.ntmps134
      go_wp2
      go_ret
      exact ⟨rfl, rfl⟩
  · have hx : L[k]?.getD 0 = 0 := by rw [List.getElem?_eq_none (by omega)]; rfl
    rw [hx]
    clear h hx
    generalize L.length = n at *
    go_enter Tryz.func134, Tryz.ntmps134
    go_wp2
    go_ret
    exact ⟨rfl, rfl⟩

end Go.Proofs.YtfnnbkclnflpfaaGreatDoor

/- Numbers and stores elsewhere. -/
namespace Go.Proofs.YtfnnbkclnflpfaaGreatDoor
open Go.RowKit

theorem cell_setCell_other (w : World) (a p : Addr) (u : Value) (h : a.block ≠ p.block) : (w.setCell p u).cell? a = w.cell? a :=
  World.cell?_of_block (Below.heap_setCell w p u a.block h)

theorem LimbsAt.store {w : World} {ao : Option Addr} {cap B : Nat} {L : List Nat} (h : LimbsAt w ao cap L) (hn : NewAt B ao L) {p : Addr} (hp : p.block < B) (u : Value) : LimbsAt (w.setCell p u) ao cap L := by
  refine ⟨h.1, h.2.1, ?_⟩
  rcases h.2.2 with h0 | ⟨b, off, h1, h2, h3⟩
  · exact .inl h0
  · rcases hn with h0 | ⟨b', off', h1', h2'⟩
    · exact .inl h0
    · rw [h1] at h1'
      simp only [Option.some.injEq, Addr.mk.injEq] at h1'
      obtain ⟨rfl, rfl, _⟩ := h1'
      refine .inr ⟨b, off, h1, by simpa [World.setCell] using h2, fun i hi => ?_⟩
      rw [cell_setCell_other w _ p u (by simp; omega)]
      exact h3 i hi

/-- What a function of one number answers through its result's box: the number, in the world behind the two stores. -/
theorem IsNum.stored {B B' : Nat} {w : World} {n : Bool} {ao : Option Addr} {cap : Nat} {L : List Nat} {x : Int} (h : LimbsAt w ao cap L ∧ NewAt B ao L ∧ Canon L ∧ n = decide (x < 0) ∧ val L = x.natAbs ∧ L.length ≤ 35184372088832) {p q : Addr} (hp : p.block < B) (hq : q.block < B) (hB : B' ≤ B) (u u' : Value) :
    IsNum B' ((w.setCell p u).setCell q u') (.agg #[.bool n, .slice ao L.length cap]) x :=
  ⟨n, ao, cap, L, rfl, (h.1.store h.2.1 hp u).store h.2.1 hq u', h.2.1.mono hB, h.2.2⟩

end Go.Proofs.YtfnnbkclnflpfaaGreatDoor

/- Contracts of the reference's More, Made. -/
namespace Go.Proofs.YtfnnbkclnflpfaaGreatDoor
open Go.RowKit

theorem limb_x (ao : Option Addr) (cap : Nat) (L : List Nat) (i : Int) (k x : Nat) (w : World) (h : LimbsAt w ao cap L) (hl : L.length ≤ 35184372088830) (hk : i = (k : Int)) (hx : Hid (L[k]?.getD 0 = x)) :
    Calls Tryz.prog 134 #[.slice ao L.length cap, .int .i64 i] w fun e w' => e = .returned (.int .u64 (x : Int)) ∧ w = w' := by
  have := limb_any ao cap L i k w h hl hk
  rwa [hx.out] at this

/-- As IsNum, of at most M limbs. -/
def IsNumM (M B : Nat) (w : World) (v : Value) (x : Int) : Prop :=
  ∃ neg ao cap L, v = .agg #[.bool neg, .slice ao L.length cap] ∧ LimbsAt w ao cap L ∧ NewAt B ao L ∧ Canon L ∧ neg = decide (x < 0) ∧ val L = x.natAbs ∧ L.length ≤ M
theorem IsNumM.num {M B : Nat} {w : World} {v : Value} {x : Int} (h : IsNumM M B w v x) (hM : M ≤ 35184372088832) : IsNum B w v x := by
  obtain ⟨neg, ao, cap, L, h1, h2, h3, h4, h5, h6, h7⟩ := h
  exact ⟨neg, ao, cap, L, h1, h2, h3, h4, h5, h6, by omega⟩
theorem IsNumM.below {M B : Nat} {w w' : World} {v : Value} {x : Int} (h : IsNumM M B w v x) (hb : Below w.heap.size w w') : IsNumM M B w' v x := by
  obtain ⟨neg, ao, cap, L, h1, h2, h3⟩ := h
  exact ⟨neg, ao, cap, L, h1, h2.below hb, h3⟩
theorem IsNumM.more {M M' B : Nat} {w : World} {v : Value} {x : Int} (h : IsNumM M B w v x) (hM : M ≤ M') : IsNumM M' B w v x := by
  obtain ⟨neg, ao, cap, L, h1, h2, h3, h4, h5, h6, h7⟩ := h
  exact ⟨neg, ao, cap, L, h1, h2, h3, h4, h5, h6, by omega⟩
theorem IsNumM.zero (M B : Nat) (w : World) (ao : Option Addr) (cap : Nat) : IsNumM M B w (.agg #[.bool false, .slice ao 0 cap]) 0 :=
  ⟨false, ao, cap, [], rfl, LimbsAt.nil _ _ _, .inl rfl, .inl rfl, rfl, rfl, by simp⟩
theorem sval_IsNum {n : Bool} {L : List Nat} {x : Int} (h : n = decide (x < 0)) (hv : val L = x.natAbs) : sval n L = x := by
  unfold sval
  rw [h]
  by_cases hx0 : x < 0
  · simp [hx0]; omega
  · simp [hx0]; omega
/-- A number of at most M limbs, in the world behind the two stores into the result's box. -/
theorem IsNumM.stored {M B B' : Nat} {w : World} {n : Bool} {ao : Option Addr} {cap : Nat} {L : List Nat} {x : Int} (h : LimbsAt w ao cap L ∧ NewAt B ao L ∧ Canon L ∧ n = decide (x < 0) ∧ val L = x.natAbs ∧ L.length ≤ M) {p q : Addr} (hp : p.block < B) (hq : q.block < B) (hB : B' ≤ B) (u u' : Value) :
    IsNumM M B' ((w.setCell p u).setCell q u') (.agg #[.bool n, .slice ao L.length cap]) x :=
  ⟨n, ao, cap, L, rfl, (h.1.store h.2.1 hp u).store h.2.1 hq u', h.2.1.mono hB, h.2.2⟩

set_option maxHeartbeats 400000 in
theorem made_any (B : Nat) (neg : Bool) (ao : Option Addr) (cap : Nat) (L : List Nat) (w : World) (h : LimbsAt w ao cap L) (hn : NewAt B ao L) (hl : L.length ≤ 35184372088832) :
    Calls Tryz.prog 92 #[.bool neg, .slice ao L.length cap] w fun e w' => ∃ v, e = .returned v ∧ IsNumM L.length B w' v (sval neg L) ∧ Below w.heap.size w w' := by
  have hfin : ∀ (k : Nat) (w' : World), LimbsAt w' ao cap L → k ≤ L.length → val (L.take k) = val L → 0 < k → L[k - 1]?.getD 0 ≠ 0 → IsNumM L.length B w' (.agg #[.bool neg, .slice ao k cap]) (sval neg L) := by
    intro k w' hw hk hv h0 hx
    have hlen : (L.take k).length = k := by rw [List.length_take, Nat.min_eq_left hk]
    have hC : Canon (L.take k) := by
      right
      rw [hlen, List.getElem?_take, if_pos (by omega)]
      exact hx
    have h1 : L.take k ≠ [] := by intro e; rw [e] at hlen; simp at hlen; omega
    have hv0 : val (L.take k) ≠ 0 := fun e => h1 ((val_zero_of_canon _ hC).1 e)
    refine ⟨neg, ao, cap, L.take k, by rw [hlen], hw.take k, hn.take k, hC, ?_, by rw [natAbs_sval]; exact hv, by omega⟩
    rw [hv] at hv0
    unfold sval; cases neg <;> simp <;> omega
  have hzero : val (L.take 0) = val L → sval neg L = 0 := by
    intro hv
    rw [← sval_congr (neg := neg) hv]; exact sval_nil neg
  have HF := hide hfin
  have HZ := hide hzero
  clear hfin hzero hn
  have hcap := h.1
  have H := hide h
  go_enter Tryz.func92, Tryz.ntmps92
  go_wp2
  go_loop [5] (fun i => ∃ k : Nat, k ≤ L.length ∧ i = .int .i64 k ∧ Hid (val (L.take k) = val L)) (fun i => (intOf i).toNat)
  case atStart => exact ⟨L.length, Nat.le_refl _, rfl, by unfold Hid; simp⟩
  case round =>
    obtain ⟨k, hk, rfl, hv⟩ := hrel
    by_cases h0 : k = 0
    · subst h0
      have HS := hide (unhide HZ hv.out)
      clear HF HZ hv h
      go_wp2
      refine bodyPost_ret (v := .agg #[.bool false, .slice none 0 0]) (by simp [results, Tryz.results92, go_sem]) rfl ⟨.agg #[.bool false, .slice none 0 0], rfl, ?_, (Below.refl _ _).alloc (Nat.le_refl _) _⟩
      rw [unhide HS]; exact IsNumM.zero _ _ _ _ _
    · obtain ⟨b, off, hao, hb, hc⟩ := h.ne (by omega)
      have hc1 := hc (k - 1) (by omega)
      have hbz : (w.alloc (.cells #[.bool false, .slice none 0 0] 27)).cell? ⟨b, off + (k - 1), none⟩ = some (.int .u32 ((L[k - 1]?.getD 0 : Nat) : Int)) := by
        rw [((Below.refl _ w).alloc (Nat.le_refl _) _).cell (p := ⟨b, off + (k - 1), none⟩) hb]; exact hc1
      have hne : ((k : Int) == 0) = false := by simp; omega
      have hgt : (0 : Int) < (k : Int) := by omega
      by_cases hx : L[k - 1]?.getD 0 = 0
      · have HS : Hid (val (L.take (k - 1)) = val L) := by unfold Hid; rw [val_take_pred L k hx]; exact hv.out
        rw [hx] at hc1 hbz
        clear HF HZ hv h hx hc
        subst hao
        go_wp2
        go_round
        case rel => exact ⟨k - 1, by omega, int_eq (by omega), HS⟩
        case measure => simp [intOf]; omega
      · have HS := hide (fun w' hw => unhide HF k w' hw hk hv.out (by omega) hx)
        have hx1 : (((L[k - 1]?.getD 0 : Nat) : Int) == 0) = false := by simp; omega
        clear HF HZ hv h hc
        generalize L[k - 1]?.getD 0 = x at *
        clear hx
        subst hao
        go_wp2
        refine bodyPost_ret (v := .agg #[.bool neg, .slice (some ⟨b, off, none⟩) k cap]) (by simp [results, Tryz.results92, go_sem]) rfl ⟨.agg #[.bool neg, .slice (some ⟨b, off, none⟩) k cap], rfl, ?_, (Below.refl _ _).alloc (Nat.le_refl _) _⟩
        exact unhide HS _ ((unhide H).below ((Below.refl _ _).alloc (Nat.le_refl _) _))

end Go.Proofs.YtfnnbkclnflpfaaGreatDoor

