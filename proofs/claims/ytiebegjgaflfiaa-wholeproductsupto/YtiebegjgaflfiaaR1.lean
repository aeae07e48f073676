/- Contracts of the reference's More, Made. -/
import Derived.Test.YtiebegjgaflfiaaW4
import Derived.Test.YtiebegjgaflfiaaLimb
import Derived.Test.YtiebegjgaflfiaaReps2
import Derived.Test.YtiebegjgaflfiaaW5
namespace Go.Proofs.Ytiebegjgaflfiaa
open Go.RowKit

theorem limb_x (ao : Option Addr) (cap : Nat) (L : List Nat) (i : Int) (k x : Nat) (w : World) (h : LimbsAt w ao cap L) (hl : L.length ≤ 35184372088830) (hk : i = (k : Int)) (hx : Hid (L[k]?.getD 0 = x)) :
    Calls Try.prog 52 #[.slice ao L.length cap, .int .i64 i] w fun e w' => e = .returned (.int .u64 (x : Int)) ∧ w = w' := by
  have := limb_any ao cap L i k w h hl hk
  rwa [hx.out] at this

set_option maxHeartbeats 400000 in
theorem more_any (ao bo : Option Addr) (ca cb : Nat) (A B : List Nat) (w : World) (hA : LimbsAt w ao ca A) (hB : LimbsAt w bo cb B) (la : A.length ≤ 35184372088830) (lb : B.length ≤ 35184372088830) :
    Calls Try.prog 37 #[.slice ao A.length ca, .slice bo B.length cb] w fun e w' => e = .returned (.int .i64 (cmpI (val A) (val B))) ∧ w = w' := by
  obtain ⟨n, hn⟩ : ∃ n, n = max A.length B.length := ⟨_, rfl⟩
  have hTop : ∀ t : Nat, (∀ i : Nat, t < i → A[i]?.getD 0 = B[i]?.getD 0) → (A[t]?.getD 0 < B[t]?.getD 0 → (-1 : Int) = cmpI (val A) (val B)) ∧ (B[t]?.getD 0 < A[t]?.getD 0 → (1 : Int) = cmpI (val A) (val B)) := by
    intro t h1
    constructor
    · intro h2
      have := lt_of_top A B hA.2.1 t h1 h2
      rw [cmpI_lt (by omega)]
    · intro h2
      have := lt_of_top B A hB.2.1 t (fun i hi => (h1 i hi).symm) h2
      rw [cmpI_gt (by omega)]
  have hEq : (∀ i : Nat, A[i]?.getD 0 = B[i]?.getD 0) → (0 : Int) = cmpI (val A) (val B) := by
    intro h
    have := val_ext A B h
    simp [this, cmpI]
  have hAb : ∀ i : Nat, n ≤ i → A[i]?.getD 0 = B[i]?.getD 0 := fun i hi => by
    rw [List.getElem?_eq_none (by omega), List.getElem?_eq_none (by omega)]
  have HT := hide hTop
  have HQ := hide hEq
  have HA := hide hAb
  have HN := hide hn
  have n3 : n ≤ 35184372088830 := by omega
  clear hTop hEq hAb
  generalize cmpI (val A) (val B) = s at *
  rcases (show (A.length < B.length ∧ n = B.length) ∨ (¬ A.length < B.length ∧ n = A.length) by omega) with ⟨hm, e⟩ | ⟨hm, e⟩
  all_goals
    have HE := hide e
    clear hn e
    go_enter Try.func37, Try.ntmps37
    go_wp2
    go_loop [5] (fun i => ∃ m : Nat, m ≤ n + 1 ∧ i = .int .i64 ((m : Int) - 1) ∧ Hid (∀ j, m ≤ j → A[j]?.getD 0 = B[j]?.getD 0)) (fun i => (intOf i + 1).toNat)
    case atStart => exact ⟨n + 1, by omega, int_eq (by have := unhide HE; omega), fun j hj => unhide HA j (by omega)⟩
    case round =>
      obtain ⟨m, hm1, rfl, hq⟩ := hrel
      clear HA HN HE
      by_cases h0 : m = 0
      · subst h0
        have HS := hide (unhide HQ (fun i => hq.out i (by omega)))
        clear HT HQ
        go_wp2
        go_ret
        exact ⟨ret_int (unhide HS), rfl⟩
      · obtain ⟨xa, hxa⟩ : ∃ x, A[m - 1]?.getD 0 = x := ⟨_, rfl⟩
        obtain ⟨xb, hxb⟩ : ∃ x, B[m - 1]?.getD 0 = x := ⟨_, rfl⟩
        have ba : xa < 4294967296 := by rw [← hxa]; exact hA.lt _
        have bb : xb < 4294967296 := by rw [← hxb]; exact hB.lt _
        have hT := unhide HT (m - 1) (fun i hi => hq.out i (by omega))
        rw [hxa, hxb] at hT
        have HT1 := hide hT
        have HQ1 : Hid (xa = xb → ∀ j, m - 1 ≤ j → A[j]?.getD 0 = B[j]?.getD 0) := fun e j hj => by
          by_cases h : m ≤ j
          · exact hq.out j h
          · rw [show j = m - 1 by omega, hxa, hxb]; exact e
        have HXA := hide hxa
        have HXB := hide hxb
        clear hT hxa hxb hq HT HQ
        rcases Nat.lt_trichotomy xa xb with h | h | h
        · have HS := hide ((unhide HT1).1 h)
          clear HT1 HQ1
          go_wp2_with (first | (go_at_call_of 52 (Value.slice ao A.length ca); refine (limb_x ao ca A _ (m - 1) xa _ hA la (by omega) HXA).mono ?_; rintro e w' ⟨rfl, rfl⟩) | (go_at_call_of 52 (Value.slice bo B.length cb); refine (limb_x bo cb B _ (m - 1) xb _ hB lb (by omega) HXB).mono ?_; rintro e w' ⟨rfl, rfl⟩))
          go_ret
          exact ⟨ret_int (unhide HS), rfl⟩
        · have HS := hide (unhide HQ1 h)
          clear HT1 HQ1
          go_wp2_with (first | (go_at_call_of 52 (Value.slice ao A.length ca); refine (limb_x ao ca A _ (m - 1) xa _ hA la (by omega) HXA).mono ?_; rintro e w' ⟨rfl, rfl⟩) | (go_at_call_of 52 (Value.slice bo B.length cb); refine (limb_x bo cb B _ (m - 1) xb _ hB lb (by omega) HXB).mono ?_; rintro e w' ⟨rfl, rfl⟩))
          go_round
          case rel => exact ⟨m - 1, by omega, int_eq (by omega), unhide HS⟩
          case measure => simp [intOf]; omega
        · have HS := hide ((unhide HT1).2 h)
          clear HT1 HQ1
          go_wp2_with (first | (go_at_call_of 52 (Value.slice ao A.length ca); refine (limb_x ao ca A _ (m - 1) xa _ hA la (by omega) HXA).mono ?_; rintro e w' ⟨rfl, rfl⟩) | (go_at_call_of 52 (Value.slice bo B.length cb); refine (limb_x bo cb B _ (m - 1) xb _ hB lb (by omega) HXB).mono ?_; rintro e w' ⟨rfl, rfl⟩))
          go_ret
          exact ⟨ret_int (unhide HS), rfl⟩

/-- As IsNum, of at most M limbs. -/
def IsNumM (M B : Nat) (w : World) (v : Value) (x : Int) : Prop :=
  ∃ neg ao cap L, v = .agg #[.bool neg, .slice ao L.length cap] ∧ LimbsAt w ao cap L ∧ NewAt B ao L ∧ Canon L ∧ neg = decide (x < 0) ∧ val L = x.natAbs ∧ L.length ≤ M
theorem IsNumM.num {M B : Nat} {w : World} {v : Value} {x : Int} (h : IsNumM M B w v x) (hM : M ≤ 35184372088832) : IsNum B w v x := by
  obtain ⟨neg, ao, cap, L, h1, h2, h3, h4, h5, h6, h7⟩ := h
  exact ⟨neg, ao, cap, L, h1, h2, h3, h4, h5, h6, by omega⟩
theorem IsNumM.below {M B : Nat} {w w' : World} {v : Value} {x : Int} (h : IsNumM M B w v x) (hb : Below w.heap.size w w') : IsNumM M B w' v x := by
  obtain ⟨neg, ao, cap, L, h1, h2, h3⟩ := h
  exact ⟨neg, ao, cap, L, h1, h2.below hb, h3⟩
theorem IsNumM.more {M M' B : Nat} {w : World} {v : Value} {x : Int} (h : IsNumM M B w v x) (hM : M ≤ M') : IsNumM M' B w v x := by
  obtain ⟨neg, ao, cap, L, h1, h2, h3, h4, h5, h6, h7⟩ := h
  exact ⟨neg, ao, cap, L, h1, h2, h3, h4, h5, h6, by omega⟩
theorem IsNumM.zero (M B : Nat) (w : World) (ao : Option Addr) (cap : Nat) : IsNumM M B w (.agg #[.bool false, .slice ao 0 cap]) 0 :=
  ⟨false, ao, cap, [], rfl, LimbsAt.nil _ _ _, .inl rfl, .inl rfl, rfl, rfl, by simp⟩
theorem sval_IsNum {n : Bool} {L : List Nat} {x : Int} (h : n = decide (x < 0)) (hv : val L = x.natAbs) : sval n L = x := by
  unfold sval
  rw [h]
  by_cases hx0 : x < 0
  · simp [hx0]; omega
  · simp [hx0]; omega
/-- A number of at most M limbs, in the world behind the two stores into the result's box. -/
theorem IsNumM.stored {M B B' : Nat} {w : World} {n : Bool} {ao : Option Addr} {cap : Nat} {L : List Nat} {x : Int} (h : LimbsAt w ao cap L ∧ NewAt B ao L ∧ Canon L ∧ n = decide (x < 0) ∧ val L = x.natAbs ∧ L.length ≤ M) {p q : Addr} (hp : p.block < B) (hq : q.block < B) (hB : B' ≤ B) (u u' : Value) :
    IsNumM M B' ((w.setCell p u).setCell q u') (.agg #[.bool n, .slice ao L.length cap]) x :=
  ⟨n, ao, cap, L, rfl, (h.1.store h.2.1 hp u).store h.2.1 hq u', h.2.1.mono hB, h.2.2⟩

set_option maxHeartbeats 400000 in
theorem made_any (B : Nat) (neg : Bool) (ao : Option Addr) (cap : Nat) (L : List Nat) (w : World) (h : LimbsAt w ao cap L) (hn : NewAt B ao L) (hl : L.length ≤ 35184372088832) :
    Calls Try.prog 35 #[.bool neg, .slice ao L.length cap] w fun e w' => ∃ v, e = .returned v ∧ IsNumM L.length B w' v (sval neg L) ∧ Below w.heap.size w w' := by
  have hfin : ∀ (k : Nat) (w' : World), LimbsAt w' ao cap L → k ≤ L.length → val (L.take k) = val L → 0 < k → L[k - 1]?.getD 0 ≠ 0 → IsNumM L.length B w' (.agg #[.bool neg, .slice ao k cap]) (sval neg L) := by
    intro k w' hw hk hv h0 hx
    have hlen : (L.take k).length = k := by rw [List.length_take, Nat.min_eq_left hk]
    have hC : Canon (L.take k) := by
      right
      rw [hlen, List.getElem?_take, if_pos (by omega)]
      exact hx
    have h1 : L.take k ≠ [] := by intro e; rw [e] at hlen; simp at hlen; omega
    have hv0 : val (L.take k) ≠ 0 := fun e => h1 ((val_zero_of_canon _ hC).1 e)
    refine ⟨neg, ao, cap, L.take k, by rw [hlen], hw.take k, hn.take k, hC, ?_, by rw [natAbs_sval]; exact hv, by omega⟩
    rw [hv] at hv0
    unfold sval; cases neg <;> simp <;> omega
  have hzero : val (L.take 0) = val L → sval neg L = 0 := by
    intro hv
    rw [← sval_congr (neg := neg) hv]; exact sval_nil neg
  have HF := hide hfin
  have HZ := hide hzero
  clear hfin hzero hn
  have hcap := h.1
  have H := hide h
  go_enter Try.func35, Try.ntmps35
  go_wp2
  go_loop [5] (fun i => ∃ k : Nat, k ≤ L.length ∧ i = .int .i64 k ∧ Hid (val (L.take k) = val L)) (fun i => (intOf i).toNat)
  case atStart => exact ⟨L.length, Nat.le_refl _, rfl, by unfold Hid; simp⟩
  case round =>
    obtain ⟨k, hk, rfl, hv⟩ := hrel
    by_cases h0 : k = 0
    · subst h0
      have HS := hide (unhide HZ hv.out)
      clear HF HZ hv h
      go_wp2
      refine bodyPost_ret (v := .agg #[.bool false, .slice none 0 0]) (by simp [results, Try.results35, go_sem]) rfl ⟨.agg #[.bool false, .slice none 0 0], rfl, ?_, (Below.refl _ _).alloc (Nat.le_refl _) _⟩
      rw [unhide HS]; exact IsNumM.zero _ _ _ _ _
    · obtain ⟨b, off, hao, hb, hc⟩ := h.ne (by omega)
      have hc1 := hc (k - 1) (by omega)
      have hbz : (w.alloc (.cells #[.bool false, .slice none 0 0] 24)).cell? ⟨b, off + (k - 1), none⟩ = some (.int .u32 ((L[k - 1]?.getD 0 : Nat) : Int)) := by
        rw [((Below.refl _ w).alloc (Nat.le_refl _) _).cell (p := ⟨b, off + (k - 1), none⟩) hb]; exact hc1
      have hne : ((k : Int) == 0) = false := by simp; omega
      have hgt : (0 : Int) < (k : Int) := by omega
      by_cases hx : L[k - 1]?.getD 0 = 0
      · have HS : Hid (val (L.take (k - 1)) = val L) := by unfold Hid; rw [val_take_pred L k hx]; exact hv.out
        rw [hx] at hc1 hbz
        clear HF HZ hv h hx hc
        subst hao
        go_wp2
        go_round
        case rel => exact ⟨k - 1, by omega, int_eq (by omega), HS⟩
        case measure => simp [intOf]; omega
      · have HS := hide (fun w' hw => unhide HF k w' hw hk hv.out (by omega) hx)
        have hx1 : (((L[k - 1]?.getD 0 : Nat) : Int) == 0) = false := by simp; omega
        clear HF HZ hv h hc
        generalize L[k - 1]?.getD 0 = x at *
        clear hx
        subst hao
        go_wp2
        refine bodyPost_ret (v := .agg #[.bool neg, .slice (some ⟨b, off, none⟩) k cap]) (by simp [results, Try.results35, go_sem]) rfl ⟨.agg #[.bool neg, .slice (some ⟨b, off, none⟩) k cap], rfl, ?_, (Below.refl _ _).alloc (Nat.le_refl _) _⟩
        exact unhide HS _ ((unhide H).below ((Below.refl _ _).alloc (Nat.le_refl _) _))

end Go.Proofs.Ytiebegjgaflfiaa
