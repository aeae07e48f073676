/- Contracts of the reference's plus, minus. -/
import Derived.Test.YtiebegjgaflfiaaR1
import Derived.Test.YtiebegjgaflfiaaNum3
namespace Go.Proofs.Ytiebegjgaflfiaa
open Go.RowKit

/-- What the call itself has gathered by append, as limbs. -/
theorem own_limbs {w : World} {base : Nat} {v : Value} {n : Nat} {S : List Nat} (h : w.ownsRow base 48 1 v n (S.map limbV)) (hf : Fits S) :
    ∃ ao cap, v = .slice ao S.length cap ∧ LimbsAt w ao cap S ∧ NewAt base ao S ∧ S.length = n := by
  have hl : S.length = n := by have := h.1; simpa using this
  rcases h.2 with ⟨hv, h0⟩ | ⟨g, cap, cur, hv, hg, hh, hc, hm, hs, ht⟩
  · have : S = [] := List.length_eq_zero_iff.1 (by omega)
    subst this
    exact ⟨none, 0, hv, LimbsAt.nil _ _ _, .inl rfl, hl⟩
  · refine ⟨some ⟨g, 0, none⟩, cap, by rw [hl]; exact hv, ⟨by omega, hf, .inr ⟨g, 0, rfl, (Array.getElem?_eq_some_iff.1 hh).1, fun i hi => ?_⟩⟩, .inr ⟨g, 0, rfl, hg⟩, hl⟩
    have hv' := h
    rw [hv] at hv'
    rw [Nat.zero_add, hv'.cellAt i (by omega)]
    simp [limbV, hi]

theorem own_snoc {w : World} {base : Nat} {v : Value} {n : Nat} {S : List Nat} {x : Nat} {d : Int} (h : w.ownsRow base 48 1 v (n + 1) (S.map limbV ++ [.int .u32 d])) (hd : d = (x : Int)) : w.ownsRow base 48 1 v (n + 1) ((S ++ [x]).map limbV) := by
  subst hd
  simpa [limbV] using h

set_option maxHeartbeats 400000 in
theorem plus_any (ao bo : Option Addr) (ca cb : Nat) (A B : List Nat) (w : World) (hA : LimbsAt w ao ca A) (hB : LimbsAt w bo cb B) (la : A.length ≤ 35184372088830) (lb : B.length ≤ 35184372088830) :
    Calls Try.prog 36 #[.slice ao A.length ca, .slice bo B.length cb] w fun e w' => ∃ ao' cap' L', e = .returned (.slice ao' L'.length cap') ∧ LimbsAt w' ao' cap' L' ∧ NewAt w.heap.size ao' L' ∧ L'.length = max A.length B.length + 1 ∧ val L' = val A + val B ∧ Below w.heap.size w w' := by
  obtain ⟨i0, hi, hz0, hz1, hz2⟩ := info_parts Try.info48
  obtain ⟨n, hn⟩ : ∃ n, n = max A.length B.length := ⟨_, rfl⟩
  have n1 : A.length ≤ n := by omega
  have n2 : B.length ≤ n := by omega
  have n3 : n ≤ 35184372088830 := by omega
  have HN := hide hn
  have hst : ∀ (S : List Nat) (c x y : Nat), A[S.length]?.getD 0 = x → B[S.length]?.getD 0 = y → val S + 4294967296 ^ S.length * c = val (A.take S.length) + val (B.take S.length) → val (S ++ [(x + y + c) % 4294967296]) + 4294967296 ^ (S.length + 1) * ((x + y + c) / 4294967296) = val (A.take (S.length + 1)) + val (B.take (S.length + 1)) := fun S c x y => plus_step A B S c x y
  have hen : ∀ (S : List Nat) (c : Nat), S.length = n + 1 → val S + 4294967296 ^ S.length * c = val (A.take S.length) + val (B.take S.length) → val S = val A + val B := by
    intro S c hl h
    refine add_end A B S (n + 1) c hA.2.1 hB.2.1 (by omega) (by omega) hl ?_
    rw [← hl, List.take_length]; exact h
  have HST := hide hst
  have HEN := hide hen
  clear hst hen
  rcases (show (A.length < B.length ∧ n = B.length) ∨ (¬ A.length < B.length ∧ n = A.length) by omega) with ⟨hm, e⟩ | ⟨hm, e⟩
  all_goals
    have HE := hide e
    have n4 : (n : Int) ≤ 35184372088830 := by omega
    clear hn e
    go_enter Try.func36, Try.ntmps36
    go_wp2
    go_loopw [5, 6, 7] (fun v c i wr => ∃ (S : List Nat) (y : Nat), S.length ≤ n + 1 ∧ i = .int .i64 (S.length : Nat) ∧ c = .int .u64 y ∧ y ≤ 1 ∧ wr.ownsRow w.heap.size 48 1 v S.length (S.map limbV) ∧ Fits S ∧ Below w.heap.size w wr ∧ Hid (val S + 4294967296 ^ S.length * y = val (A.take S.length) + val (B.take S.length)))
      (fun _ _ i _ => n + 1 - (intOf i).toNat)
    case atStart => 
      refine ⟨[], 0, by simp, rfl, rfl, by omega, ?_, by intro x hx; simp at hx, (Below.refl _ _).alloc (Nat.le_refl _) _, by unfold Hid; simp [val]⟩
      exact World.ownsRow_made w #[] 0 (Nat.le_refl _) (by simp [maxLen]) (by simp)
    case round =>
      obtain ⟨S, y, hk, rfl, rfl, hy, hown, hf, hbel, hv⟩ := hrel
      have hn := unhide HE
      by_cases hlt : S.length ≤ n
      · obtain ⟨xa, hxa⟩ : ∃ x, A[S.length]?.getD 0 = x := ⟨_, rfl⟩
        obtain ⟨xb, hxb⟩ : ∃ x, B[S.length]?.getD 0 = x := ⟨_, rfl⟩
        have ba : xa < 4294967296 := by rw [← hxa]; exact hA.lt _
        have bb : xb < 4294967296 := by rw [← hxb]; exact hB.lt _
        have cA := hA.below hbel
        have cB := hB.below hbel
        have HS2 := hide (unhide HST S y xa xb hxa hxb hv.out)
        have HXA := hide hxa
        have HXB := hide hxb
        have hsz := hbel.size
        have HF := hide hf
        clear hxa hxb hv HST HEN hf
        generalize hSl : S.length = k at *
        have HSL := hide hSl
        clear hSl
        have hki : (k : Int) ≤ (n : Int) := by omega
        rw [hn] at hki
        clear hn
        go_wp2_with (first | (go_at_call_of 52 (Value.slice ao A.length ca); refine (limb_x ao ca A _ k xa _ cA la rfl HXA).mono ?_; rintro e w' ⟨rfl, rfl⟩) | (go_at_call_of 52 (Value.slice bo B.length cb); refine (limb_x bo cb B _ k xb _ cB lb rfl HXB).mono ?_; rintro e w' ⟨rfl, rfl⟩) | (at_builtin; refine wpList_append_own _ rfl _ _ 22 rfl w.heap.size 48 i0 (.int .u32 0) 1 4 Try.underlying22 hi hz0 hz1 hz2 rfl (by decide) _ _ _ rfl (hown.alloc _) ⟨wr.heap.size, 0, none⟩ 1 1 [.int .u32 (((xa : Int) + (xb : Int) + (y : Int)) % 4294967296)] rfl rfl (cell_one_new _ _ _) (fun u hu => by simp at hu; subst hu; rfl) (by unfold maxLen; omega) (by omega) (by simp; omega) ?_; intro v' w1 hown' hgrow _; have hbl : Below w.heap.size w w1 := ((hbel.alloc hsz _).grown hgrow (by simp; omega) (fun g hg => (hown.lt g hg).1)); have ho2 := hide (own_snoc (x := (xa + xb + y) % 4294967296) hown' (by omega)); clear hown' hgrow))
        have hS2 := unhide HS2
        have hl2 : (S ++ [(xa + xb + y) % 4294967296]).length = k + 1 := by simp [unhide HSL]
        go_roundw
        case rel => exact ⟨S ++ [(xa + xb + y) % 4294967296], (xa + xb + y) / 4294967296, by omega, by rw [hl2]; go_num, int_eq (by omega), by omega, by rw [hl2]; exact unhide ho2, (unhide HF).snoc (by omega), hbl, by rw [hl2]; exact hS2⟩
        case measure => simp [intOf]; omega
      · have hend := unhide HEN S y (by omega) hv.out
        have HEND := hide hend
        obtain ⟨ao', cap', e1, e2, e3, e4⟩ := own_limbs hown hf
        have E2 := hide e2
        have E3 := hide e3
        have hki : ¬ ((S.length : Nat) : Int) ≤ (n : Int) := by omega
        rw [hn] at hki
        have HK := hide hk
        have HLT := hide hlt
        subst e1
        clear hend hv HST hown hn e2 e3 e4 HEN hk hlt
        go_wp2
        go_ret
        have hN := unhide HN
        have h1 := unhide HK
        have h2 := unhide HLT
        exact ⟨ao', cap', S, rfl, unhide E2, unhide E3, by omega, unhide HEND, hbel⟩

end Go.Proofs.Ytiebegjgaflfiaa
