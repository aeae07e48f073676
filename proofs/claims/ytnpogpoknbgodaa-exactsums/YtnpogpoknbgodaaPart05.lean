/- Part 5 of the texts. -/
import Derived.Test.YtnpogpoknbgodaaPart03
import Derived.Test.YtnpogpoknbgodaaPart04
import Derived.Test.YtnpogpoknbgodaaPart02
/- Contract of subLimbs. -/
namespace Go.Proofs.Ytnpogpoknbgodaa
open Go.RowKit

theorem wrap_sub2 (x y c : Nat) (hx : x < 4294967296) (hy : y < 4294967296) (hc : c ≤ 1) (h : x < y) :
    IntKind.u64.wrap (IntKind.u64.wrap ((x : Int) - (y : Int)) - (c : Int)) = 18446744073709551616 + (x : Int) - (y : Int) - (c : Int) := by
  simp only [IntKind.wrap, IntKind.signed, IntKind.bits]
  simp
  omega

set_option maxHeartbeats 400000 in
theorem subLimbs_any (ao bo : Option Addr) (ca cb : Nat) (A B : List Nat) (w : World) (hA : LimbsAt w ao ca A) (hB : LimbsAt w bo cb B) (la : A.length ≤ 35184372088830) (lb : B.length ≤ 35184372088830) (hv : val B ≤ val A) :
    Calls Try.prog 66 #[.slice ao A.length ca, .slice bo B.length cb] w fun e w' => ∃ ao' cap' L', e = .returned (.slice ao' L'.length cap') ∧ LimbsAt w' ao' cap' L' ∧ NewAt w.heap.size ao' L' ∧ L'.length = A.length ∧ val L' = val A - val B ∧ Below w.heap.size w w' := by
  obtain ⟨i0, hi, hz0, hz1, hz2⟩ := info_parts Try.info60
  have hE : ∀ (S : List Nat) (k c : Nat), Fits S → S.length = A.length → ¬ k < A.length → k ≤ A.length → val (S.take k) + val (B.take k) = val (A.take k) + 4294967296 ^ k * c → val S = val A - val B := by
    intro S k c f hl h1 h2 h
    rw [show k = A.length by omega] at h
    exact sub_end A B S A.length c f hl rfl hv (take_le A B hA.2.1 hv) h
  have HE := hide hE
  have hst := fun (S : List Nat) (k c t c' : Nat) (hk : k < S.length) => sub_step A B S k c (A[k]?.getD 0) (B[k]?.getD 0) t c' hk rfl rfl
  have HST := hide hst
  clear hE hst hv
  have hcA : 0 < A.length → ∃ b off, ao = some ⟨b, off, none⟩ := fun h => by obtain ⟨b, off, h1, _⟩ := hA.ne h; exact ⟨b, off, h1⟩
  have HCA := hide hcA
  clear hcA
  go_enter Try.func66, Try.ntmps66
  go_wp2_with (at_make; refine wpList_make_full _ rfl _ _ 33 rfl w.heap.size 60 i0 (.int .u32 0) 1 Try.underlying33 hi hz0 hz1 .i64 .i64 _ _ A.length rfl rfl rfl rfl (by rw [hz2]; omega) (by unfold maxLen; omega) (Nat.le_refl _) ?_; intro w1 hown hgrow)
  have hrow := RowAt.made hown
  have hb1 : Below w.heap.size w w1 := (Below.refl _ _).grown hgrow (Nat.le_refl _) (fun k h => by simp at h)
  have hs1 : w.heap.size < w1.heap.size := hrow.lt
  clear hown hgrow
  go_wp2
  go_loopw [6, 14] (fun c i wr => ∃ (k : Nat) (S : List Nat) (y : Nat), k ≤ A.length ∧ i = .int .i64 k ∧ c = .int .u64 y ∧ y ≤ 1 ∧ RowAt wr w.heap.size S ∧ S.length = A.length ∧ Fits S ∧ Below w.heap.size w wr ∧ Hid (val (S.take k) + val (B.take k) = val (A.take k) + 4294967296 ^ k * y))
    (fun _ i _ => A.length - (intOf i).toNat)
  case atStart => exact ⟨0, List.replicate A.length 0, 0, Nat.zero_le _, rfl, rfl, by omega, hrow, by simp, Fits.zeros _, hb1, by unfold Hid; simp [val]⟩
  case round =>
    obtain ⟨k, S, y, hk, rfl, rfl, hy, hr, hsl, hf, hbel, hv⟩ := hrel
    by_cases hlt : k < A.length
    · obtain ⟨xa, hxa⟩ : ∃ x, A[k]?.getD 0 = x := ⟨_, rfl⟩
      obtain ⟨xb, hxb⟩ : ∃ x, B[k]?.getD 0 = x := ⟨_, rfl⟩
      have ba : xa < 4294967296 := by rw [← hxa]; exact hA.lt k
      have bb : xb < 4294967296 := by rw [← hxb]; exact hB.lt k
      have cA := hA.below hbel
      have cB := hB.below hbel
      have hst := fun (t c' : Nat) (ht : t + xb + y = xa + 4294967296 * c') => unhide HST S k y t c' (by omega) (by rw [hxa, hxb]; exact ht) hv.out
      have HS2 := hide hst
      have HXB := hide hxb
      have hcell := hr.cell k (by omega)
      have hfree := hr.free k
      have HR := hide hr
      obtain ⟨b1, o1, hao, hb1', hc1⟩ := cA.ne (by omega)
      have ca1 := hc1 k hlt
      rw [hxa] at ca1
      clear hst hxa hxb hv hr hc1 HST HE
      generalize hS : S[k]?.getD 0 = sk at *
      clear hS
      subst hao
      have hlt' : (k : Int) < (A.length : Int) := by omega
      have fin : ∀ (nq t c' : Nat) (d : Int), d = (t : Int) → t < 4294967296 → c' ≤ 1 → t + xb + y = xa + 4294967296 * c' →
          RowAt ((wr.drewN nq).setCell ⟨w.heap.size, k, none⟩ (.int .u32 d)) w.heap.size (S.set k t) ∧ (S.set k t).length = A.length ∧ Fits (S.set k t) ∧ Below w.heap.size w ((wr.drewN nq).setCell ⟨w.heap.size, k, none⟩ (.int .u32 d)) ∧
          Hid (val ((S.set k t).take (k + 1)) + val (B.take (k + 1)) = val (A.take (k + 1)) + 4294967296 ^ (k + 1) * c') := by
        rintro nq t c' d rfl ht hc he
        exact ⟨((unhide HR).drewN nq).set k t, by simpa using hsl, hf.set _ _ ht, (below_drewN hbel nq).setCell (by simp) _, unhide HS2 t c' he⟩
      have FIN := hide fin
      clear fin HS2 HR
      rcases (show xb + y ≤ xa ∨ xa < xb ∨ (xa = xb ∧ y = 1) by omega) with h1 | h1 | ⟨h1, h2⟩
      · go_wp2
        go_quiet ((go_at_call 67; exact quiet_eq (limbAt_x bo cb B _ k xb _ (cB.below (below_drewN (Below.refl _ _) _)) lb rfl HXB)))
        go_wp2
        have R := unhide FIN nq (xa - xb - y) 0 ((xa : Int) - xb - y) (by omega) (by omega) (by omega) (by omega)
        go_roundw
        case rel => exact ⟨k + 1, _, 0, by omega, by go_num, int_eq (by omega), by omega, R⟩
        case measure => simp [intOf]; omega
      · go_wp2
        go_quiet ((go_at_call 67; exact quiet_eq (limbAt_x bo cb B _ k xb _ (cB.below (below_drewN (Below.refl _ _) _)) lb rfl HXB)))
        go_wp2
        have e := wrap_sub2 xa xb y ba bb hy h1
        have R := unhide FIN nq (4294967296 + xa - xb - y) 1 (IntKind.u64.wrap (IntKind.u64.wrap ((xa : Int) - xb) - y) % 4294967296) (by rw [e]; omega) (by omega) (by omega) (by omega)
        go_roundw
        case rel => exact ⟨k + 1, _, 1, by omega, by go_num, int_eq (by rw [e]; omega), by omega, R⟩
        case measure => simp [intOf]; omega
      · subst h1; subst h2
        go_wp2
        go_quiet ((go_at_call 67; exact quiet_eq (limbAt_x bo cb B _ k xa _ (cB.below (below_drewN (Below.refl _ _) _)) lb rfl HXB)))
        go_wp2
        have e : IntKind.u64.wrap (-1) = 18446744073709551615 := by decide
        have R := unhide FIN nq 4294967295 1 (IntKind.u64.wrap (-1) % 4294967296) (by rw [e]; rfl) (by omega) (by omega) (by omega)
        go_roundw
        case rel => exact ⟨k + 1, _, 1, by omega, by go_num, int_eq (by rw [e]; rfl), by omega, R⟩
        case measure => simp [intOf]; omega
    · have hend := unhide HE S k y hf hsl hlt hk hv.out
      have HEND := hide hend
      have HR := hide hr
      clear hend hr hv
      go_wp2
      go_ret
      exact ⟨some ⟨w.heap.size, 0, none⟩, A.length, S, by rw [hsl]; rfl, (unhide HR).limbs hf _ (by omega), .inr ⟨_, _, rfl, Nat.le_refl _⟩, hsl, unhide HEND, hbel⟩

end Go.Proofs.Ytnpogpoknbgodaa

/- Contracts of addSigned. -/
namespace Go.Proofs.Ytnpogpoknbgodaa
open Go.RowKit
attribute [local go_sem ↓] Go.wp_at_zero Go.wp_at_succ

set_option maxHeartbeats 1000000 in
theorem addSigned_same (na : Bool) (ao bo : Option Addr) (ca cb : Nat) (A B : List Nat) (w : World) (hA : LimbsAt w ao ca A) (hB : LimbsAt w bo cb B) (la : A.length ≤ 35184372088830) (lb : B.length ≤ 35184372088830) :
    Calls Try.prog 61 #[.agg #[.bool na, .slice ao A.length ca], .agg #[.bool na, .slice bo B.length cb]] w fun e w' => ∃ v, e = .returned (.tuple #[v, .int .i64 (errOf (sval na A + sval na B))]) ∧ IsNum w.heap.size w' v (numOf (sval na A + sval na B)) ∧ Below w.heap.size w w' := by
  have hsum : ∀ L : List Nat, val L = val A + val B → sval na L = sval na A + sval na B := by
    intro L h; unfold sval; cases na <;> simp [h] <;> omega
  have HS := hide hsum
  clear hsum
  generalize sval na A + sval na B = z at *
  go_enter Try.func61, Try.ntmps61
  go_wp2
  refine at_world (fun W => Below w.heap.size w W ∧ W.heap.size = w.heap.size + 3 ∧ Box2 W w.heap.size (.bool na) (.slice ao A.length ca) ∧ Box2 W (w.heap.size + 1) (.bool na) (.slice bo B.length cb) ∧ Box2 W (w.heap.size + 2) (.bool false) (.slice none 0 0)) ?_ ?_
  · refine ⟨((((Below.refl _ _).alloc (Nat.le_refl _) _).alloc (by simp) _).alloc (by simp; omega) _), by simp, ((Box2.new _ _ _).old _).old _, ?_, ?_⟩
    · have := (Box2.new (w.alloc (.cells #[.bool na, .slice ao A.length ca] 35)) (.bool na) (.slice bo B.length cb)).old (.cells #[.bool false, .slice none 0 0] 35)
      simpa using this
    · have := Box2.new ((w.alloc (.cells #[.bool na, .slice ao A.length ca] 35)).alloc (.cells #[.bool na, .slice bo B.length cb] 35)) (.bool false) (.slice none 0 0)
      simpa using this
  rintro W0 ⟨hw0, hs0, x0, x1, x2⟩
  have hK : ∀ w', Below (w.heap.size + 2) W0 w' → Below (w.heap.size + 2) W0 w' ∧ w'.cell? ⟨w.heap.size, 0, none⟩ = some (.bool na) ∧ w'.cell? ⟨w.heap.size, 1, none⟩ = some (.slice ao A.length ca) ∧ w'.cell? ⟨w.heap.size + 1, 1, none⟩ = some (.slice bo B.length cb) := fun w' h =>
    ⟨h, (x0.below h (by omega)).c0, (x0.below h (by omega)).c1, (x1.below h (by omega)).c1⟩
  have HK := hide hK
  have HA := hide (hA.below hw0)
  have HB := hide (hB.below hw0)
  have X2 := hide x2
  have HW0 := hide hw0
  clear hK hA hB x0 x1 x2 hw0
  go_region_held3 (fun w' => Below (w.heap.size + 2) W0 w' ∧ w'.cell? ⟨w.heap.size, 0, none⟩ = some (.bool na) ∧ w'.cell? ⟨w.heap.size, 1, none⟩ = some (.slice ao A.length ca) ∧ w'.cell? ⟨w.heap.size + 1, 1, none⟩ = some (.slice bo B.length cb))
    (first | exact unhide HK _ (Below.refl _ _).drew | exact unhide HK _ (by assumption) | exact unhide HK _ ((hB2.setCell (by simp) _).setCell (by simp) _))
    (first | (go_at_call 64; refine (addLimbs_any ao bo ca cb A B _ ((unhide HA).below ((Below.refl _ _).drew)) ((unhide HB).below ((Below.refl _ _).drew)) la lb).mono ?_; rintro e w1 ⟨ao', cap', L', rfl, g1, g2, g3, g4, hb1⟩; have hB1 : Below (w.heap.size + 2) W0 w1 := ((Below.refl _ _).drew).trans (hb1.mono (by simp [hs0])); have X3 := hide ((unhide X2).drew.below hb1 (by simp [hs0])); have G1 := hide g1; have G2 := hide g2; have G4 := hide g4; have L4 : L'.length ≤ 35184372088832 := (by omega); have s1 := hb1.size; clear g1 g2 g4 g3 hb1) | (go_at_call 59; refine (fit_any _ na _ _ _ _ (unhide G1) (unhide G2) L4).mono ?_; rintro e w2 ⟨v, rfl, ⟨n2, a2, c2, L2, rfl, i1⟩, hb2⟩; have hB2 : Below (w.heap.size + 2) W0 w2 := hB1.trans (hb2.mono (by simp at s1; omega)); have X4 := (unhide X3).below hb2 (by simp at s1; omega); have y0 := X4.c0; have y1 := X4.c1; have f0 := X4.free 0; have f1 := X4.free 1; have I1 := hide i1; clear i1 hb2 X4))
  have hz := unhide HS L' (unhide G4)
  have HI := hide (hz ▸ unhide I1)
  have HE := hide (show errOf (sval na L') = errOf z by rw [hz])
  clear hz
  go_wp2
  refine bodyPost_ret (v := .tuple #[.agg #[.bool n2, .slice a2 L2.length c2], .int .i64 (errOf (sval na L'))]) (by simp [results, Try.results61, go_sem, y0, y1]) rfl ⟨.agg #[.bool n2, .slice a2 L2.length c2], ?_, ?_, ?_⟩
  · rw [unhide HE]
  · exact IsNum.stored (unhide HI) (by simp; omega) (by simp; omega) (by simp; omega) _ _
  · exact (((unhide HW0).trans (hB2.mono (by omega))).setCell (by simp; omega) _).setCell (by simp; omega) _

end Go.Proofs.Ytnpogpoknbgodaa

/- Contracts of addSigned at different signs; of any two numbers without a 0 on top. -/
namespace Go.Proofs.Ytnpogpoknbgodaa
open Go.RowKit
attribute [local go_sem ↓] Go.wp_at_zero Go.wp_at_succ

theorem cmpL_canon (A B : List Nat) (fA : Fits A) (fB : Fits B) (cA : Canon A) (cB : Canon B) : cmpL A B = cmpI (val A) (val B) := by
  unfold cmpL
  split
  · rfl
  · rename_i hl
    rcases Nat.lt_or_gt_of_ne hl with h | h
    · have : val A < val B := by
        have := length_le_of_val B A fA cB
        by_cases hv : val B ≤ val A
        · have := this hv; omega
        · omega
      rw [cmpI_lt (by omega), cmpI_lt (by omega)]
    · have : val B < val A := by
        have := length_le_of_val A B fB cA
        by_cases hv : val A ≤ val B
        · have := this hv; omega
        · omega
      rw [cmpI_gt (by omega), cmpI_gt (by omega)]

set_option maxHeartbeats 1000000 in
theorem addSigned_diff (na nb : Bool) (ao bo : Option Addr) (ca cb : Nat) (A B : List Nat) (w : World) (hA : LimbsAt w ao ca A) (hB : LimbsAt w bo cb B) (la : A.length ≤ 35184372088830) (lb : B.length ≤ 35184372088830) (cA : Canon A) (cB : Canon B) (hn : na ≠ nb) :
    Calls Try.prog 61 #[.agg #[.bool na, .slice ao A.length ca], .agg #[.bool nb, .slice bo B.length cb]] w fun e w' => ∃ v, e = .returned (.tuple #[v, .int .i64 (errOf (sval na A + sval nb B))]) ∧ IsNum w.heap.size w' v (numOf (sval na A + sval nb B)) ∧ Below w.heap.size w w' := by
  have hsum : (∀ L : List Nat, val L = val B - val A → val A < val B → sval nb L = sval na A + sval nb B) ∧ (∀ L : List Nat, val L = val A - val B → val B ≤ val A → sval na L = sval na A + sval nb B) := by
    constructor <;> intro L h h' <;> unfold sval <;> cases na <;> cases nb <;> simp at hn <;> simp [h] <;> omega
  have hcm := cmpL_canon A B hA.2.1 hB.2.1 cA cB
  have HS := hide hsum
  clear hsum
  generalize sval na A + sval nb B = z at *
  have hne : (na == nb) = false := by simpa using hn
  have HC := hide hcm
  clear hcm hn
  go_enter Try.func61, Try.ntmps61
  go_wp2_with fail
  refine (compareLimbs_any ao bo ca cb A B _ (hA.below ?_) (hB.below ?_) (by omega) (by omega)).mono ?_
  · exact (((Below.refl _ _).alloc (Nat.le_refl _) _).alloc (by simp) _).alloc (by simp; omega) _
  · exact (((Below.refl _ _).alloc (Nat.le_refl _) _).alloc (by simp) _).alloc (by simp; omega) _
  rintro e w' ⟨rfl, m, rfl⟩
  rw [unhide HC]
  by_cases hv : val A < val B
  · rw [cmpI_lt (by omega)]
    clear HC
    have HS1 := hide (fun L h => (unhide HS).1 L h hv)
    clear HS
    go_wp2
    refine at_world (fun W => Below w.heap.size w W ∧ W.heap.size = w.heap.size + 3 ∧ Box2 W w.heap.size (.bool na) (.slice ao A.length ca) ∧ Box2 W (w.heap.size + 1) (.bool nb) (.slice bo B.length cb) ∧ Box2 W (w.heap.size + 2) (.bool false) (.slice none 0 0)) ?_ ?_
    · refine ⟨below_drewN ((((Below.refl _ _).alloc (Nat.le_refl _) _).alloc (by simp) _).alloc (by simp; omega) _) _, by simp, (((Box2.new _ _ _).old _).old _).drewN _, ?_, ?_⟩
      · have := ((Box2.new (w.alloc (.cells #[.bool na, .slice ao A.length ca] 35)) (.bool nb) (.slice bo B.length cb)).old (.cells #[.bool false, .slice none 0 0] 35)).drewN m
        simpa using this
      · have := (Box2.new ((w.alloc (.cells #[.bool na, .slice ao A.length ca] 35)).alloc (.cells #[.bool nb, .slice bo B.length cb] 35)) (.bool false) (.slice none 0 0)).drewN m
        simpa using this
    rintro W0 ⟨hw0, hs0, x0, x1, x2⟩
    have hK : ∀ w', Below (w.heap.size + 2) W0 w' → Below (w.heap.size + 2) W0 w' ∧ w'.cell? ⟨w.heap.size + 1, 0, none⟩ = some (.bool nb) ∧ w'.cell? ⟨w.heap.size, 1, none⟩ = some (.slice ao A.length ca) ∧ w'.cell? ⟨w.heap.size + 1, 1, none⟩ = some (.slice bo B.length cb) := fun w' h =>
      ⟨h, (x1.below h (by omega)).c0, (x0.below h (by omega)).c1, (x1.below h (by omega)).c1⟩
    have HK := hide hK
    have HA := hide (hA.below hw0)
    have HB := hide (hB.below hw0)
    have X2 := hide x2
    have HW0 := hide hw0
    have hv' : val A ≤ val B := by omega
    clear hK hA hB x0 x1 x2 hw0
    go_region_held3 (fun w' => Below (w.heap.size + 2) W0 w' ∧ w'.cell? ⟨w.heap.size + 1, 0, none⟩ = some (.bool nb) ∧ w'.cell? ⟨w.heap.size, 1, none⟩ = some (.slice ao A.length ca) ∧ w'.cell? ⟨w.heap.size + 1, 1, none⟩ = some (.slice bo B.length cb))
      (first | exact unhide HK _ (Below.refl _ _).drew | exact unhide HK _ (by assumption) | exact unhide HK _ ((hB2.setCell (by simp) _).setCell (by simp) _))
      (first | (go_at_call 66; refine (subLimbs_any bo ao cb ca B A _ ((unhide HB).below ((Below.refl _ _).drew)) ((unhide HA).below ((Below.refl _ _).drew)) lb la hv').mono ?_; rintro e w1 ⟨ao', cap', L', rfl, g1, g2, g3, g4, hb1⟩; have hB1 : Below (w.heap.size + 2) W0 w1 := ((Below.refl _ _).drew).trans (hb1.mono (by simp [hs0])); have X3 := hide ((unhide X2).drew.below hb1 (by simp [hs0])); have G1 := hide g1; have G2 := hide g2; have G4 := hide g4; have L4 : L'.length ≤ 35184372088832 := (by omega); have s1 := hb1.size; clear g1 g2 g4 g3 hb1) | (go_at_call 59; refine (fit_any _ nb _ _ _ _ (unhide G1) (unhide G2) L4).mono ?_; rintro e w2 ⟨v, rfl, ⟨n2, a2, c2, L2, rfl, i1⟩, hb2⟩; have hB2 : Below (w.heap.size + 2) W0 w2 := hB1.trans (hb2.mono (by simp at s1; omega)); have X4 := (unhide X3).below hb2 (by simp at s1; omega); have y0 := X4.c0; have y1 := X4.c1; have f0 := X4.free 0; have f1 := X4.free 1; have I1 := hide i1; clear i1 hb2 X4))
    have hz := unhide HS1 L' (unhide G4)
    have HI := hide (hz ▸ unhide I1)
    have HE := hide (show errOf (sval nb L') = errOf z by rw [hz])
    clear hz
    go_wp2
    refine bodyPost_ret (v := .tuple #[.agg #[.bool n2, .slice a2 L2.length c2], .int .i64 (errOf (sval nb L'))]) (by simp [results, Try.results61, go_sem, y0, y1]) rfl ⟨.agg #[.bool n2, .slice a2 L2.length c2], ?_, ?_, ?_⟩
    · rw [unhide HE]
    · exact IsNum.stored (unhide HI) (by simp; omega) (by simp; omega) (by simp; omega) _ _
    · exact (((unhide HW0).trans (hB2.mono (by omega))).setCell (by simp; omega) _).setCell (by simp; omega) _
  · have hge : ¬ cmpI (val A) (val B) < 0 := by unfold cmpI; rw [if_neg (by omega)]; split <;> omega
    generalize cmpI (val A) (val B) = cm at *
    clear HC
    have HS1 := hide (fun L h => (unhide HS).2 L h (by omega))
    clear HS
    go_wp2
    refine at_world (fun W => Below w.heap.size w W ∧ W.heap.size = w.heap.size + 3 ∧ Box2 W w.heap.size (.bool na) (.slice ao A.length ca) ∧ Box2 W (w.heap.size + 1) (.bool nb) (.slice bo B.length cb) ∧ Box2 W (w.heap.size + 2) (.bool false) (.slice none 0 0)) ?_ ?_
    · refine ⟨below_drewN ((((Below.refl _ _).alloc (Nat.le_refl _) _).alloc (by simp) _).alloc (by simp; omega) _) _, by simp, (((Box2.new _ _ _).old _).old _).drewN _, ?_, ?_⟩
      · have := ((Box2.new (w.alloc (.cells #[.bool na, .slice ao A.length ca] 35)) (.bool nb) (.slice bo B.length cb)).old (.cells #[.bool false, .slice none 0 0] 35)).drewN m
        simpa using this
      · have := (Box2.new ((w.alloc (.cells #[.bool na, .slice ao A.length ca] 35)).alloc (.cells #[.bool nb, .slice bo B.length cb] 35)) (.bool false) (.slice none 0 0)).drewN m
        simpa using this
    rintro W0 ⟨hw0, hs0, x0, x1, x2⟩
    have hK : ∀ w', Below (w.heap.size + 2) W0 w' → Below (w.heap.size + 2) W0 w' ∧ w'.cell? ⟨w.heap.size, 0, none⟩ = some (.bool na) ∧ w'.cell? ⟨w.heap.size, 1, none⟩ = some (.slice ao A.length ca) ∧ w'.cell? ⟨w.heap.size + 1, 1, none⟩ = some (.slice bo B.length cb) := fun w' h =>
      ⟨h, (x0.below h (by omega)).c0, (x0.below h (by omega)).c1, (x1.below h (by omega)).c1⟩
    have HK := hide hK
    have HA := hide (hA.below hw0)
    have HB := hide (hB.below hw0)
    have X2 := hide x2
    have HW0 := hide hw0
    have hv' : val B ≤ val A := by omega
    clear hK hA hB x0 x1 x2 hw0
    go_region_held3 (fun w' => Below (w.heap.size + 2) W0 w' ∧ w'.cell? ⟨w.heap.size, 0, none⟩ = some (.bool na) ∧ w'.cell? ⟨w.heap.size, 1, none⟩ = some (.slice ao A.length ca) ∧ w'.cell? ⟨w.heap.size + 1, 1, none⟩ = some (.slice bo B.length cb))
      (first | exact unhide HK _ (Below.refl _ _).drew | exact unhide HK _ (by assumption) | exact unhide HK _ ((hB2.setCell (by simp) _).setCell (by simp) _))
      (first | (go_at_call 66; refine (subLimbs_any ao bo ca cb A B _ ((unhide HA).below ((Below.refl _ _).drew)) ((unhide HB).below ((Below.refl _ _).drew)) la lb hv').mono ?_; rintro e w1 ⟨ao', cap', L', rfl, g1, g2, g3, g4, hb1⟩; have hB1 : Below (w.heap.size + 2) W0 w1 := ((Below.refl _ _).drew).trans (hb1.mono (by simp [hs0])); have X3 := hide ((unhide X2).drew.below hb1 (by simp [hs0])); have G1 := hide g1; have G2 := hide g2; have G4 := hide g4; have L4 : L'.length ≤ 35184372088832 := (by omega); have s1 := hb1.size; clear g1 g2 g4 g3 hb1) | (go_at_call 59; refine (fit_any _ na _ _ _ _ (unhide G1) (unhide G2) L4).mono ?_; rintro e w2 ⟨v, rfl, ⟨n2, a2, c2, L2, rfl, i1⟩, hb2⟩; have hB2 : Below (w.heap.size + 2) W0 w2 := hB1.trans (hb2.mono (by simp at s1; omega)); have X4 := (unhide X3).below hb2 (by simp at s1; omega); have y0 := X4.c0; have y1 := X4.c1; have f0 := X4.free 0; have f1 := X4.free 1; have I1 := hide i1; clear i1 hb2 X4))
    have hz := unhide HS1 L' (unhide G4)
    have HI := hide (hz ▸ unhide I1)
    have HE := hide (show errOf (sval na L') = errOf z by rw [hz])
    clear hz
    go_wp2
    refine bodyPost_ret (v := .tuple #[.agg #[.bool n2, .slice a2 L2.length c2], .int .i64 (errOf (sval na L'))]) (by simp [results, Try.results61, go_sem, y0, y1]) rfl ⟨.agg #[.bool n2, .slice a2 L2.length c2], ?_, ?_, ?_⟩
    · rw [unhide HE]
    · exact IsNum.stored (unhide HI) (by simp; omega) (by simp; omega) (by simp; omega) _ _
    · exact (((unhide HW0).trans (hB2.mono (by omega))).setCell (by simp; omega) _).setCell (by simp; omega) _

theorem addSigned_any (na nb : Bool) (ao bo : Option Addr) (ca cb : Nat) (A B : List Nat) (w : World) (hA : LimbsAt w ao ca A) (hB : LimbsAt w bo cb B) (la : A.length ≤ 35184372088830) (lb : B.length ≤ 35184372088830) (cA : Canon A) (cB : Canon B) :
    Calls Try.prog 61 #[.agg #[.bool na, .slice ao A.length ca], .agg #[.bool nb, .slice bo B.length cb]] w fun e w' => ∃ v, e = .returned (.tuple #[v, .int .i64 (errOf (sval na A + sval nb B))]) ∧ IsNum w.heap.size w' v (numOf (sval na A + sval nb B)) ∧ Below w.heap.size w w' := by
  by_cases hn : na = nb
  · subst hn; exact addSigned_same na ao bo ca cb A B w hA hB la lb
  · exact addSigned_diff na nb ao bo ca cb A B w hA hB la lb cA cB hn

end Go.Proofs.Ytnpogpoknbgodaa

/- Contracts of Add, Sub. -/
namespace Go.Proofs.Ytnpogpoknbgodaa
open Go.RowKit

/-- What an operation answers: ok: are its numbers right; z: what it comes to. -/
def opErr (ok : Bool) (z : Int) : Int := if ok then errOf z else 1
def opNum (ok : Bool) (z : Int) : Int := if ok then numOf z else 0

theorem opErr_true (z : Int) : opErr true z = errOf z := by unfold opErr; rw [if_pos rfl]
theorem opNum_true (z : Int) : opNum true z = numOf z := by unfold opNum; rw [if_pos rfl]
theorem opErr_false (z : Int) : opErr false z = 1 := by unfold opErr; rw [if_neg (by decide)]
theorem opNum_false (z : Int) : opNum false z = 0 := by unfold opNum; rw [if_neg (by decide)]

theorem right_canon {neg : Bool} {L : List Nat} (h : rightB neg L = true) : L.length ≤ 512 ∧ Canon L ∧ (neg = true → L ≠ []) := by
  simp only [rightB, Bool.and_eq_true, decide_eq_true_eq, Bool.not_eq_true', Bool.and_eq_false_iff, decide_eq_false_iff_not, Bool.or_eq_true] at h
  obtain ⟨⟨h1, h2⟩, h3⟩ := h
  refine ⟨h1, ?_, ?_⟩
  · rcases h3 with h3 | h3
    · exact .inl (List.length_eq_zero_iff.1 h3)
    · exact .inr h3
  · rintro hn rfl
    rcases h2 with h2 | h2
    · simp at h2
    · rw [hn] at h2; cases h2

theorem sval_not (nb : Bool) (B : List Nat) : sval (!nb) B = - sval nb B := by unfold sval; cases nb <;> simp

set_option maxHeartbeats 400000 in
theorem add_any (na nb : Bool) (ao bo : Option Addr) (ca cb : Nat) (A B : List Nat) (w : World) (hA : LimbsAt w ao ca A) (hB : LimbsAt w bo cb B) (la : A.length ≤ 35184372088830) (lb : B.length ≤ 35184372088830) :
    Calls Try.prog 55 #[.agg #[.bool na, .slice ao A.length ca], .agg #[.bool nb, .slice bo B.length cb]] w fun e w' => ∃ v, e = .returned (.tuple #[v, .int .i64 (opErr (rightB na A && rightB nb B) (sval na A + sval nb B))]) ∧ IsNum w.heap.size w' v (opNum (rightB na A && rightB nb B) (sval na A + sval nb B)) ∧ Below w.heap.size w w' := by
  have hC : (rightB na A && rightB nb B) = true → Canon A ∧ Canon B := fun h => by
    simp only [Bool.and_eq_true] at h; exact ⟨(right_canon h.1).2.1, (right_canon h.2).2.1⟩
  have HC := hide hC
  have H2 := hide (show chk2 na A nb B = if (rightB na A && rightB nb B) then 0 else 1 from rfl)
  clear hC
  generalize hok : (rightB na A && rightB nb B) = ok at *
  clear hok
  go_enter Try.func55, Try.ntmps55
  go_wp2_with fail
  have hb0 : Below w.heap.size w (((w.alloc (.cells #[.bool na, .slice ao A.length ca] 35)).alloc (.cells #[.bool nb, .slice bo B.length cb] 35)).alloc (.cells #[.bool false, .slice none 0 0] 35)) :=
    (((Below.refl _ _).alloc (Nat.le_refl _) _).alloc (by simp) _).alloc (by simp; omega) _
  refine (checkBoth_any na nb ao bo ca cb A B _ (hA.below hb0) (hB.below hb0) la lb).mono ?_
  rintro e w1 ⟨rfl, hb1⟩
  have hs1 : w.heap.size + 3 ≤ w1.heap.size := by have := hb1.size; simpa using this
  have hb2 : Below w.heap.size w w1 := hb0.trans (hb1.mono (by simp; omega))
  have p0 : w1.cell? ⟨w.heap.size, 0, none⟩ = some (.bool na) := by rw [hb1.cell (p := ⟨w.heap.size, 0, none⟩) (by simp; omega)]; simp [go_sem]
  have p1 : w1.cell? ⟨w.heap.size, 1, none⟩ = some (.slice ao A.length ca) := by rw [hb1.cell (p := ⟨w.heap.size, 1, none⟩) (by simp; omega)]; simp [go_sem]
  have q0 : w1.cell? ⟨w.heap.size + 1, 0, none⟩ = some (.bool nb) := by rw [hb1.cell (p := ⟨w.heap.size + 1, 0, none⟩) (by simp)]; simp [go_sem]
  have q1 : w1.cell? ⟨w.heap.size + 1, 1, none⟩ = some (.slice bo B.length cb) := by rw [hb1.cell (p := ⟨w.heap.size + 1, 1, none⟩) (by simp)]; simp [go_sem]
  have r2 : Box2 w1 (w.heap.size + 2) (.bool false) (.slice none 0 0) := by
    have := Box2.new ((w.alloc (.cells #[.bool na, .slice ao A.length ca] 35)).alloc (.cells #[.bool nb, .slice bo B.length cb] 35)) (.bool false) (.slice none 0 0)
    exact Box2.below (by simpa using this) hb1 (by simp)
  rw [unhide H2]
  clear hb1 H2 hb0
  cases ok
  · simp only [Bool.false_eq_true, if_false]
    have y0 := r2.c0; have y1 := r2.c1; have f0 := r2.free 0; have f1 := r2.free 1
    go_wp2
    refine bodyPost_ret (v := .tuple #[.agg #[.bool false, .slice none 0 0], .int .i64 1]) (by simp [results, Try.results55, go_sem, y0, y1]) rfl ⟨.agg #[.bool false, .slice none 0 0], by rw [opErr_false], by rw [opNum_false]; exact IsNum.zero _ _ _ _, ?_⟩
    exact (hb2.setCell (by simp; omega) _).setCell (by simp; omega) _
  · obtain ⟨cA, cB⟩ := unhide HC rfl
    have CA := hide cA
    have CB := hide cB
    clear cA cB
    simp only [if_true]
    go_wp2_with fail
    refine (addSigned_any na nb ao bo ca cb A B _ (hA.below hb2) (hB.below hb2) la lb (unhide CA) (unhide CB)).mono ?_
    rintro e w2 ⟨v, rfl, ⟨n2, a2, c2, L2, rfl, i1⟩, hb3⟩
    have r3 := r2.below hb3 (by omega)
    have y0 := r3.c0; have y1 := r3.c1; have f0 := r3.free 0; have f1 := r3.free 1
    have I1 := hide i1
    have hb4 := hb2.trans (hb3.mono hb2.size)
    clear i1
    go_wp2
    refine bodyPost_ret (v := .tuple #[.agg #[.bool n2, .slice a2 L2.length c2], .int .i64 (errOf (sval na A + sval nb B))]) (by simp [results, Try.results55, go_sem, y0, y1]) rfl ⟨.agg #[.bool n2, .slice a2 L2.length c2], by rw [opErr_true], ?_, ?_⟩
    · rw [opNum_true]; exact IsNum.stored (unhide I1) (by simp; omega) (by simp; omega) (by omega) _ _
    · exact (hb4.setCell (by simp; omega) _).setCell (by simp; omega) _

end Go.Proofs.Ytnpogpoknbgodaa

/- Contract of Of. -/
namespace Go.Proofs.Ytnpogpoknbgodaa
open Go.RowKit

/-- A new block of two limbs. -/
theorem two_row (w : World) (g : Nat) (a b : Int) (lo hi : Nat) (hg : w.heap.size = g) (ha : a = (lo : Int)) (hb : b = (hi : Int)) :
    RowAt (w.alloc (.cells #[.int .u32 a, .int .u32 b] 60)) g [lo, hi] := by
  subst hg; subst ha; subst hb
  exact heap_alloc_new w _

theorem wrap_neg (n : Int) (h0 : -9223372036854775808 ≤ n) (h1 : n < 0) : IntKind.u64.wrap (-IntKind.u64.wrap n) = -n := by
  simp only [IntKind.wrap, IntKind.signed, IntKind.bits]
  simp
  omega

theorem val_two (m : Nat) : val [m % 4294967296, m / 4294967296] = m := by simp only [val]; omega

set_option maxHeartbeats 400000 in
theorem of_any (n : Int) (w : World) (h0 : -9223372036854775808 ≤ n) (h1 : n ≤ 9223372036854775807) :
    Calls Try.prog 43 #[.int .i64 n] w fun e w' => ∃ v, e = .returned v ∧ IsNum w.heap.size w' v n ∧ Below w.heap.size w w' := by
  obtain ⟨m, hm⟩ : ∃ m, m = n.natAbs := ⟨_, rfl⟩
  have hf : Fits [m % 4294967296, m / 4294967296] := by intro x hx; simp at hx; omega
  have HF := hide hf
  have HM := hide hm
  clear hf hm
  by_cases hn : n < 0
  · have hw := wrap_neg n h0 hn
    have HW := hide hw
    clear hw
    go_enter Try.func43, Try.ntmps43
    go_wp2_with fail
    have hm := unhide HM
    have hR := two_row (w.alloc (.cells #[.bool false, .slice none 0 0] 35)) (w.heap.size + 1) (IntKind.u64.wrap (-IntKind.u64.wrap n) % 4294967296) (IntKind.u64.wrap (-IntKind.u64.wrap n) / 4294967296 % 4294967296) (m % 4294967296) (m / 4294967296) (by simp) (by rw [unhide HW]; omega) (by rw [unhide HW]; omega)
    refine (trim_any (some ⟨w.heap.size + 1, 0, none⟩) 2 [m % 4294967296, m / 4294967296] _ (hR.limbs (unhide HF) 2 (by simp)) (by simp)).mono ?_
    rintro e w' ⟨v, rfl, ⟨ao', cap', L', rfl, g1, g2, g3, g4, g5⟩, rfl⟩
    have G4 := hide g4
    have G1 := hide g1
    have G2 := hide g2
    have G5 := hide g5
    clear g1 g2 g4 g5 hR hm
    go_wp2
    refine bodyPost_ret (v := .agg #[.bool true, .slice ao' L'.length cap']) (by simp [results, Try.results43, go_sem]) rfl ⟨.agg #[.bool true, .slice ao' L'.length cap'], rfl, ⟨true, ao', cap', L', rfl, unhide G4 _ ?_, unhide G5 _ (.inr ⟨_, _, rfl, by omega⟩), unhide G1, by simp [hn], ?_⟩, ?_⟩
    · refine (two_row _ (w.heap.size + 1) _ _ _ _ (by simp) ?_ ?_).limbs (unhide HF) 2 (by simp)
      · have hm := unhide HM; rw [unhide HW]; omega
      · have hm := unhide HM; rw [unhide HW]; omega
    · exact ⟨by rw [unhide G2, val_two]; exact unhide HM, by simp at g3; omega⟩
    · exact ((Below.refl _ _).alloc (Nat.le_refl _) _).alloc (by simp) _
  · go_enter Try.func43, Try.ntmps43
    go_wp2_with fail
    have hm := unhide HM
    have hR := two_row (w.alloc (.cells #[.bool false, .slice none 0 0] 35)) (w.heap.size + 1) (n % 4294967296) (n / 4294967296) (m % 4294967296) (m / 4294967296) (by simp) (by omega) (by omega)
    refine (trim_any (some ⟨w.heap.size + 1, 0, none⟩) 2 [m % 4294967296, m / 4294967296] _ (hR.limbs (unhide HF) 2 (by simp)) (by simp)).mono ?_
    rintro e w' ⟨v, rfl, ⟨ao', cap', L', rfl, g1, g2, g3, g4, g5⟩, rfl⟩
    have G4 := hide g4
    have G1 := hide g1
    have G2 := hide g2
    have G5 := hide g5
    clear g1 g2 g4 g5 hR hm
    go_wp2
    refine bodyPost_ret (v := .agg #[.bool false, .slice ao' L'.length cap']) (by simp [results, Try.results43, go_sem]) rfl ⟨.agg #[.bool false, .slice ao' L'.length cap'], rfl, ⟨false, ao', cap', L', rfl, unhide G4 _ ?_, unhide G5 _ (.inr ⟨_, _, rfl, by omega⟩), unhide G1, by simp; omega, ?_⟩, ?_⟩
    · refine (two_row _ (w.heap.size + 1) _ _ _ _ (by simp) ?_ ?_).limbs (unhide HF) 2 (by simp)
      · have hm := unhide HM; omega
      · have hm := unhide HM; omega
    · exact ⟨by rw [unhide G2, val_two]; exact unhide HM, by simp at g3; omega⟩
    · exact ((Below.refl _ _).alloc (Nat.le_refl _) _).alloc (by simp) _

end Go.Proofs.Ytnpogpoknbgodaa

