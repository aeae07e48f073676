/- Contracts of Small, and of the reference's Of. -/
import Derived.Test.YtiebegjgaflfiaaR8
import Derived.Test.YtiebegjgaflfiaaWD
import Derived.Laws.BitsAllLaws
namespace Go.Proofs.Ytiebegjgaflfiaa
open Go.RowKit

/-- Does a number fit 64 bits? -/
def fits64 (x : Int) : Bool := decide (-9223372036854775808 ≤ x ∧ x ≤ 9223372036854775807)
def smE (neg : Bool) (L : List Nat) : Int := if rightB neg L then (if fits64 (sval neg L) then 0 else 2) else 1
def smV (neg : Bool) (L : List Nat) : Int := if rightB neg L && fits64 (sval neg L) then sval neg L else 0

/-- Bits above what is there: put beside it. -/
theorem or_above (v x i : Nat) (hv : v < 2 ^ i) : v ||| x * 2 ^ i = v + x * 2 ^ i := by
  have := Nat.two_pow_add_eq_or_of_lt hv x
  rw [Nat.mul_comm x, Nat.or_comm, ← this]; omega

theorem or_limb (v x k : Nat) (hk : k ≤ 1) (hv : v < 4294967296 ^ k) (hx : x < 4294967296) :
    bits BinOp.or IntKind.u64 (v : Int) (IntKind.u64.wrap ((x : Int) * 2 ^ (k * 32))) = ((v + 4294967296 ^ k * x : Nat) : Int) := by
  rcases (show k = 0 ∨ k = 1 by omega) with rfl | rfl
  · have e : IntKind.u64.wrap ((x : Int) * 2 ^ (0 * 32)) = ((x : Nat) : Int) := by
      simp only [IntKind.wrap, IntKind.signed, IntKind.bits]; simp; omega
    rw [e, u64_or_nat v x (by simp at hv; omega) (by omega)]
    have : v = 0 := by simpa using hv
    subst this; simp
  · have e : IntKind.u64.wrap ((x : Int) * 2 ^ (1 * 32)) = ((x * 2 ^ 32 : Nat) : Int) := by
      simp only [IntKind.wrap, IntKind.signed, IntKind.bits]; simp; omega
    rw [e, u64_or_nat v (x * 2 ^ 32) (by simp at hv; omega) (by omega), or_above v x 32 (by simpa using hv)]
    congr 1
    simp; omega

theorem wrap_back (v : Nat) (hv : v ≤ 9223372036854775808) : wrap64 (IntKind.u64.wrap (-(v : Int))) = -(v : Int) := by
  unfold wrap64
  simp only [IntKind.wrap, IntKind.signed, IntKind.bits]
  simp
  omega

set_option maxHeartbeats 1000000 in
theorem small_right (neg : Bool) (ao : Option Addr) (cap : Nat) (L : List Nat) (w : World) (h : LimbsAt w ao cap L) (hr : rightB neg L = true) (hl : L.length ≤ 2) :
    Calls Try.prog 31 #[.agg #[.bool neg, .slice ao L.length cap]] w fun e w' => e = .returned (.tuple #[.int .i64 (smV neg L), .int .i64 (smE neg L)]) ∧ Below w.heap.size w w' := by
  have hck := check_any neg ao cap L (w.alloc (.cells #[.bool neg, .slice ao L.length cap] 24)) (h.below ((Below.refl _ _).alloc (Nat.le_refl _) _)) (by omega)
  have hz : chkE neg L = 0 := by simp [chkE, hr]
  rw [hz] at hck
  have hF : (neg = true → val L ≤ 9223372036854775808 → smV neg L = -(val L : Int) ∧ smE neg L = 0) ∧ (neg = true → 9223372036854775808 < val L → smV neg L = 0 ∧ smE neg L = 2) ∧ (neg = false → val L < 9223372036854775808 → smV neg L = (val L : Int) ∧ smE neg L = 0) ∧ (neg = false → 9223372036854775808 ≤ val L → smV neg L = 0 ∧ smE neg L = 2) := by
    unfold smV smE
    rw [hr]
    refine ⟨?_, ?_, ?_, ?_⟩ <;> (rintro rfl hv; simp only [sval, fits64, if_true, Bool.true_and, Bool.false_eq_true, if_false])
    · rw [decide_eq_true (by omega)]; simp
    · rw [decide_eq_false (by omega)]; simp
    · rw [decide_eq_true (by omega)]; simp
    · rw [decide_eq_false (by omega)]; simp
  have HF := hide hF
  clear hF
  generalize smV neg L = r at *
  generalize smE neg L = e2 at *
  have HCK := hide hck
  clear hck hz hr
  go_enter Try.func31, Try.ntmps31
  go_wp2_with fail
  refine (unhide HCK).mono ?_
  rintro e w1 ⟨rfl, hb1⟩
  have x0 : Box2 w1 w.heap.size (.bool neg) (.slice ao L.length cap) := (Box2.new _ _ _).below hb1 (by simp)
  have p0 := x0.c0; have p1 := x0.c1
  have bel : Below w.heap.size w w1 := ((Below.refl _ _).alloc (Nat.le_refl _) _).trans (hb1.mono (by simp))
  clear x0 hb1 HCK
  go_wp2
  go_loop [5, 19] (fun s i => ∃ k : Nat, k ≤ L.length ∧ i = .int .i64 k ∧ s = .int .u64 ((val (L.take k) : Nat) : Int)) (fun _ i => L.length - (intOf i).toNat)
  case atStart => exact ⟨0, Nat.zero_le _, rfl, by simp [val]⟩
  case round =>
    obtain ⟨k, hk, rfl, rfl⟩ := hrel
    by_cases hlt : k < L.length
    · obtain ⟨b, off, hao, hb, hc⟩ := h.ne (by omega)
      have c1 := hc k hlt
      have d1 : w1.cell? ⟨b, off + k, none⟩ = some (.int .u32 ((L[k]?.getD 0 : Nat) : Int)) := by rw [bel.cell (p := ⟨b, off + k, none⟩) hb]; exact c1
      have hx := h.lt k
      have hv := val_take_lt L h.2.1 k
      have hvs := val_take_succ L k
      have HVS := hide hvs
      clear c1 hc hvs
      generalize L[k]?.getD 0 = x at *
      generalize hvk : val (L.take k) = v at *
      clear hvk h
      subst hao
      have hk1 : k ≤ 1 := by omega
      have hor := or_limb v x k hk1 hv hx
      have HOR := hide hor
      clear hor
      go_wp2
      go_round
      case rel => exact ⟨k + 1, by omega, by go_num, int_eq (by rw [unhide HOR, unhide HVS])⟩
      case measure => simp [intOf]; omega
    · have hkl : k = L.length := by omega
      rw [hkl, List.take_length]
      clear hkl hk hlt
      have hvl := val_lt L h.2.1
      have hv64 : val L < 18446744073709551616 := by
        refine Nat.lt_of_lt_of_le hvl ?_
        have := Nat.pow_le_pow_right (n := 4294967296) (by decide) hl
        simpa using this
      generalize val L = v at *
      clear hvl h
      cases neg
      · rcases Nat.lt_or_ge v 9223372036854775808 with hv | hv
        · have H := hide ((unhide HF).2.2.1 rfl hv)
          have hv' : (v : Int) < 9223372036854775808 := by omega
          clear HF hv hv64
          go_wp2
          go_ret2
          exact ⟨ret_int2 (unhide H).1.symm (unhide H).2.symm, bel⟩
        · have H := hide ((unhide HF).2.2.2 rfl hv)
          have hv' : ¬ (v : Int) < 9223372036854775808 := by omega
          clear HF
          go_wp2
          go_ret2
          exact ⟨ret_int2 (unhide H).1.symm (unhide H).2.symm, bel⟩
      · rcases Nat.lt_or_ge 9223372036854775808 v with hv | hv
        · have H := hide ((unhide HF).2.1 rfl hv)
          have hv' : ¬ (v : Int) ≤ 9223372036854775808 := by omega
          clear HF
          go_wp2
          go_ret2
          exact ⟨ret_int2 (unhide H).1.symm (unhide H).2.symm, bel⟩
        · have H := hide ((unhide HF).1 rfl hv)
          clear HF
          go_wp2
          go_ret2
          refine ⟨ret_int2 ?_ (unhide H).2.symm, bel⟩
          rw [(unhide H).1]
          exact wrap_back v hv

set_option maxHeartbeats 400000 in
theorem small_any (neg : Bool) (ao : Option Addr) (cap : Nat) (L : List Nat) (w : World) (h : LimbsAt w ao cap L) (hl : L.length ≤ 35184372088830) :
    Calls Try.prog 31 #[.agg #[.bool neg, .slice ao L.length cap]] w fun e w' => e = .returned (.tuple #[.int .i64 (smV neg L), .int .i64 (smE neg L)]) ∧ Below w.heap.size w w' := by
  cases hr : rightB neg L
  · have hck := check_any neg ao cap L (w.alloc (.cells #[.bool neg, .slice ao L.length cap] 24)) (h.below ((Below.refl _ _).alloc (Nat.le_refl _) _)) hl
    have hz : chkE neg L = 1 := by simp [chkE, hr]
    rw [hz] at hck
    have HCK := hide hck
    have H := hide (show smV neg L = 0 ∧ smE neg L = 1 by simp [smV, smE, hr])
    generalize smV neg L = r at *
    generalize smE neg L = e2 at *
    clear hck hz hr
    go_enter Try.func31, Try.ntmps31
    go_wp2_with fail
    refine (unhide HCK).mono ?_
    rintro e w1 ⟨rfl, hb1⟩
    go_wp2
    go_ret2
    exact ⟨ret_int2 (unhide H).1.symm (unhide H).2.symm, ((Below.refl _ _).alloc (Nat.le_refl _) _).trans (hb1.mono (by simp))⟩
  · by_cases h2 : L.length ≤ 2
    · exact small_right neg ao cap L w h hr h2
    · have hck := check_any neg ao cap L (w.alloc (.cells #[.bool neg, .slice ao L.length cap] 24)) (h.below ((Below.refl _ _).alloc (Nat.le_refl _) _)) hl
      have hz : chkE neg L = 0 := by simp [chkE, hr]
      rw [hz] at hck
      have HCK := hide hck
      have hbig : 18446744073709551616 ≤ val L := by
        rcases (right_canon hr).2.1 with e | e
        · rw [e] at h2; simp at h2
        · have h3 := val_ge L e
          have h4 := Nat.pow_le_pow_right (n := 4294967296) (by decide) (show 2 ≤ L.length - 1 by omega)
          simp at h4; omega
      have hf : fits64 (sval neg L) = false := by
        unfold fits64 sval
        rw [decide_eq_false_iff_not]
        cases neg <;> simp <;> omega
      have H := hide (show smV neg L = 0 ∧ smE neg L = 2 by simp [smV, smE, hr, hf])
      generalize smV neg L = r at *
      generalize smE neg L = e2 at *
      clear hck hz hr hbig hf
      go_enter Try.func31, Try.ntmps31
      go_wp2_with fail
      refine (unhide HCK).mono ?_
      rintro e w1 ⟨rfl, hb1⟩
      have x0 : Box2 w1 w.heap.size (.bool neg) (.slice ao L.length cap) := (Box2.new _ _ _).below hb1 (by simp)
      have p0 := x0.c0; have p1 := x0.c1
      have bel : Below w.heap.size w w1 := ((Below.refl _ _).alloc (Nat.le_refl _) _).trans (hb1.mono (by simp))
      clear x0 hb1 HCK
      go_wp2
      go_ret2
      exact ⟨ret_int2 (unhide H).1.symm (unhide H).2.symm, bel⟩

set_option maxHeartbeats 400000 in
theorem refOf_any (n : Int) (w : World) (h0 : -9223372036854775808 ≤ n) (h1 : n ≤ 9223372036854775807) :
    Calls Try.prog 32 #[.int .i64 n] w fun e w' => ∃ v, e = .returned v ∧ IsNumM 2 w.heap.size w' v n ∧ Below w.heap.size w w' := by
  obtain ⟨m, hm⟩ : ∃ m, m = n.natAbs := ⟨_, rfl⟩
  have hf : Fits [m % 4294967296, m / 4294967296] := by intro x hx; simp at hx; omega
  have HF := hide hf
  have HM := hide hm
  clear hf hm
  by_cases hn : n < 0
  · have hs : sval true [m % 4294967296, m / 4294967296] = n := by
      have := unhide HM
      unfold sval; rw [if_pos rfl, val_two]; omega
    have HS := hide hs
    clear hs
    go_enter Try.func32, Try.ntmps32
    go_wp2_with fail
    have hm := unhide HM
    have hR := two_row (w.alloc (.cells #[.bool false, .slice none 0 0] 24)) (w.heap.size + 1) ((-(n + 1) + 1) % 4294967296) ((-(n + 1) + 1) / 4294967296) (m % 4294967296) (m / 4294967296) (by simp) (by omega) (by omega)
    refine (made_any (w.heap.size + 1) true (some ⟨w.heap.size + 1, 0, none⟩) 2 [m % 4294967296, m / 4294967296] _ (hR.limbs (unhide HF) 2 (by simp)) (.inr ⟨_, _, rfl, Nat.le_refl _⟩) (by simp)).mono ?_
    rw [unhide HS]
    rintro e w1 ⟨v, rfl, ⟨n2, a2, c2, L2, rfl, i1⟩, hb1⟩
    have r1 : Box2 w1 w.heap.size (.bool false) (.slice none 0 0) := ((Box2.new _ _ _).old _).below hb1 (by simp; omega)
    have y0 := r1.c0; have y1 := r1.c1; have f0 := r1.free 0; have f1 := r1.free 1
    have I1 := hide i1
    have HB1 := hide ((((Below.refl _ w).alloc (Nat.le_refl _) (.cells #[.bool false, .slice none 0 0] 24)).alloc (by simp) _).trans (hb1.mono (by simp; omega)))
    clear i1 hb1 r1 hR hm
    go_wp2
    refine bodyPost_ret (v := .agg #[.bool n2, .slice a2 L2.length c2]) (by simp [results, Try.results32, go_sem, y0, y1]) rfl ⟨.agg #[.bool n2, .slice a2 L2.length c2], rfl, ?_, ?_⟩
    · exact IsNumM.stored (unhide I1) (by simp) (by simp) (by omega) _ _
    · exact ((unhide HB1).setCell (by simp) _).setCell (by simp) _
  · have hs : sval false [m % 4294967296, m / 4294967296] = n := by
      have := unhide HM
      unfold sval; rw [if_neg (by decide), val_two]; omega
    have HS := hide hs
    clear hs
    go_enter Try.func32, Try.ntmps32
    go_wp2_with fail
    have hm := unhide HM
    have hR := two_row (w.alloc (.cells #[.bool false, .slice none 0 0] 24)) (w.heap.size + 1) (n % 4294967296) (n / 4294967296) (m % 4294967296) (m / 4294967296) (by simp) (by omega) (by omega)
    refine (made_any (w.heap.size + 1) false (some ⟨w.heap.size + 1, 0, none⟩) 2 [m % 4294967296, m / 4294967296] _ (hR.limbs (unhide HF) 2 (by simp)) (.inr ⟨_, _, rfl, Nat.le_refl _⟩) (by simp)).mono ?_
    rw [unhide HS]
    rintro e w1 ⟨v, rfl, ⟨n2, a2, c2, L2, rfl, i1⟩, hb1⟩
    have r1 : Box2 w1 w.heap.size (.bool false) (.slice none 0 0) := ((Box2.new _ _ _).old _).below hb1 (by simp; omega)
    have y0 := r1.c0; have y1 := r1.c1; have f0 := r1.free 0; have f1 := r1.free 1
    have I1 := hide i1
    have HB1 := hide ((((Below.refl _ w).alloc (Nat.le_refl _) (.cells #[.bool false, .slice none 0 0] 24)).alloc (by simp) _).trans (hb1.mono (by simp; omega)))
    clear i1 hb1 r1 hR hm
    go_wp2
    refine bodyPost_ret (v := .agg #[.bool n2, .slice a2 L2.length c2]) (by simp [results, Try.results32, go_sem, y0, y1]) rfl ⟨.agg #[.bool n2, .slice a2 L2.length c2], rfl, ?_, ?_⟩
    · exact IsNumM.stored (unhide I1) (by simp) (by simp) (by omega) _ _
    · exact ((unhide HB1).setCell (by simp) _).setCell (by simp) _

end Go.Proofs.Ytiebegjgaflfiaa
