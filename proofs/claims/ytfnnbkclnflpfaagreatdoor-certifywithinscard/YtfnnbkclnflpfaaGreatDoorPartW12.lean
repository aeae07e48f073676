/- Part 12 of the texts. -/
import Derived.Test.YtfnnbkclnflpfaaGreatDoorPartW11
/- Contracts of the reference's Odd, Right, Top, Sign, Same; of dyadic's Top. -/
namespace Go.Proofs.YtfnnbkclnflpfaaGreatDoor
open Go.RowKit

theorem wrap_small (x : Int) (h : -9000000000000000000 ≤ x ∧ x ≤ 9000000000000000000) : IntKind.i64.wrap x = x := by
  simp only [IntKind.wrap, IntKind.signed, IntKind.bits]
  simp
  omega

theorem val_mod2 (L : List Nat) : val L % 2 = L[0]?.getD 0 % 2 := by
  cases L with
  | nil => rfl
  | cons x r => simp [val]; omega

set_option maxHeartbeats 400000 in
theorem odd_any (neg : Bool) (ao : Option Addr) (cap : Nat) (L : List Nat) (w : World) (h : LimbsAt w ao cap L) :
    Calls Tryz.prog 60 #[.agg #[.bool neg, .slice ao L.length cap]] w fun e w' => e = .returned (.bool (decide (val L % 2 = 1))) ∧ Below w.heap.size w w' := by
  by_cases h0 : L = []
  · subst h0
    go_enter Tryz.func60, Tryz.ntmps60
    go_wp2
    go_ret
    exact ⟨rfl, (Below.refl _ _).alloc (Nat.le_refl _) _⟩
  obtain ⟨b, off, rfl, hb, hc⟩ := h.ne (List.length_pos_iff.2 h0)
  have hp : 0 < L.length := List.length_pos_iff.2 h0
  have hpI : (0 : Int) < (L.length : Int) := by omega
  have hc1 := hc 0 hp
  have hx := h.lt 0
  have hcap := h.1
  rw [val_mod2]
  generalize L[0]?.getD 0 = x at *
  clear hc h h0
  rw [Nat.add_zero] at hc1
  generalize hn : L.length = n at *
  clear hn
  by_cases hx1 : x % 2 = 1
  · have e1 : (((x : Int) % 2) == 1) = true := by rw [beq_iff_eq]; omega
    have HD := hide (decide_eq_true hx1)
    clear hx1
    go_enter Tryz.func60, Tryz.ntmps60
    go_wp2
    go_ret
    exact ⟨ret_bool (unhide HD).symm, (Below.refl _ _).alloc (Nat.le_refl _) _⟩
  · have e1 : (((x : Int) % 2) == 1) = false := by rw [beq_eq_false_iff_ne]; omega
    have HD := hide (decide_eq_false hx1)
    clear hx1
    go_enter Tryz.func60, Tryz.ntmps60
    go_wp2
    go_ret
    exact ⟨ret_bool (unhide HD).symm, (Below.refl _ _).alloc (Nat.le_refl _) _⟩

set_option maxHeartbeats 1000000 in
theorem dright_any (neg : Bool) (ao : Option Addr) (cap : Nat) (L : List Nat) (e : Int) (w : World) (h : LimbsAt w ao cap L) (hl : L.length ≤ 35184372088830) :
    Calls Tryz.prog 22 #[.agg #[.bool neg, .slice ao L.length cap, .int .i64 e]] w fun r w' => r = .returned (.bool (drB neg L e)) ∧ Below w.heap.size w w' := by
  have HR := hide (fun w' h' => right_any neg ao cap L w' h' hl)
  have HO := hide (fun w' h' => odd_any neg ao cap L w' h')
  have HD := hide (show drB neg L e = (rightB neg L && (if L.length = 0 then decide (e = 0) else (decide (val L % 2 = 1) && decide (-16384 ≤ e ∧ e ≤ 16384)))) from rfl)
  generalize drB neg L e = db at *
  generalize rightB neg L = rb at *
  generalize decide (val L % 2 = 1) = ob at *
  have hb0 : Below w.heap.size w (w.alloc (.cells #[.bool neg, .slice ao L.length cap, .int .i64 e] 29)) := (Below.refl _ _).alloc (Nat.le_refl _) _
  have x0 := Box3.new w (.bool neg) (.slice ao L.length cap) (.int .i64 e)
  have X0 := hide x0; have B0 := hide hb0
  clear x0 hb0
  cases rb
  · have hd : db = false := by rw [unhide HD]; rfl
    subst hd
    clear HD HO X0
    go_enter Tryz.func22, Tryz.ntmps22
    go_wp2_with fail
    refine (unhide HR _ (h.below (unhide B0))).mono ?_
    rintro r w1 ⟨rfl, hb1⟩
    go_wp2
    go_ret
    exact ⟨rfl, (unhide B0).trans (hb1.mono (unhide B0).size)⟩
  rw [Bool.true_and] at HD
  by_cases h0 : L.length = 0
  · have hd : db = decide (e = 0) := by rw [unhide HD, if_pos h0]
    have h0' : ((L.length : Int) == 0) = true := by rw [beq_iff_eq]; omega
    have H0 := hide h0'
    have he : (e == 0) = decide (e = 0) := by by_cases h : e = 0 <;> simp [h]
    rw [← he] at hd
    subst hd
    clear HD HO h0 h0' he
    go_enter Tryz.func22, Tryz.ntmps22
    go_wp2_with fail
    refine (unhide HR _ (h.below (unhide B0))).mono ?_
    rintro r w1 ⟨rfl, hb1⟩
    have x0 := (unhide X0).all hb1
    have p1 := x0.c1; have p2 := x0.c2
    have h0 := unhide H0
    have B1 := hide ((unhide B0).trans (hb1.mono (unhide B0).size))
    clear hb1 x0
    go_wp2
    go_ret
    exact ⟨rfl, unhide B1⟩
  · have hd : db = (ob && decide (-16384 ≤ e ∧ e ≤ 16384)) := by rw [unhide HD, if_neg h0]
    have h0' : ((L.length : Int) == 0) = false := by rw [beq_eq_false_iff_ne]; omega
    have H0 := hide h0'
    clear HD h0 h0'
    rcases (show (ob = false ∧ db = false) ∨ (ob = true ∧ ¬ -16384 ≤ e ∧ db = false) ∨ (ob = true ∧ -16384 ≤ e ∧ ¬ e ≤ 16384 ∧ db = false) ∨ (ob = true ∧ -16384 ≤ e ∧ e ≤ 16384 ∧ db = true) by
      cases ob
      · left; exact ⟨rfl, by rw [hd]; rfl⟩
      · right
        rw [Bool.true_and] at hd
        by_cases a : -16384 ≤ e
        · by_cases b : e ≤ 16384
          · right; right; exact ⟨rfl, a, b, by rw [hd, decide_eq_true ⟨a, b⟩]⟩
          · right; left; exact ⟨rfl, a, b, by rw [hd, decide_eq_false (fun h => b h.2)]⟩
        · left; exact ⟨rfl, a, by rw [hd, decide_eq_false (fun h => a h.1)]⟩) with ⟨rfl, rfl⟩ | ⟨rfl, g1, rfl⟩ | ⟨rfl, g1, g2, rfl⟩ | ⟨rfl, g1, g2, rfl⟩
    all_goals
      clear hd
      go_enter Tryz.func22, Tryz.ntmps22
      go_wp2_with fail
      refine (unhide HR _ (h.below (unhide B0))).mono ?_
      rintro r w1 ⟨rfl, hb1⟩
      have x0 := (unhide X0).all hb1
      have p0 := x0.c0; have p1 := x0.c1
      have h0 := unhide H0
      have B1 := hide ((unhide B0).trans (hb1.mono (unhide B0).size))
      have X1 := hide x0
      clear hb1 x0
      go_wp2_with fail
      refine (unhide HO _ (h.below (unhide B1))).mono ?_
      rintro r w2 ⟨rfl, hb1⟩
      have x0 := (unhide X1).all hb1
      have p2 := x0.c2
      clear x0
      go_wp2
      go_ret
      exact ⟨by first | rfl | exact ret_bool (decide_eq_false (by omega)) | exact ret_bool (decide_eq_true (by omega)), (unhide B1).trans (hb1.mono (unhide B1).size)⟩

set_option maxHeartbeats 400000 in
theorem dtop_any (neg : Bool) (ao : Option Addr) (cap : Nat) (L : List Nat) (e : Int) (w : World) (h : LimbsAt w ao cap L) (hl : L.length ≤ 35184372088830) :
    Calls Tryz.prog 100 #[.agg #[.bool neg, .slice ao L.length cap, .int .i64 e]] w fun r w' => r = .returned (.int .i64 (IntKind.i64.wrap (lenL L + e))) ∧ Below w.heap.size w w' := by
  have HR := hide (fun w' h' => len_any neg ao cap L w' h' hl)
  generalize lenL L = n at *
  have hb0 : Below w.heap.size w (w.alloc (.cells #[.bool neg, .slice ao L.length cap, .int .i64 e] 29)) := (Below.refl _ _).alloc (Nat.le_refl _) _
  have x0 := Box3.new w (.bool neg) (.slice ao L.length cap) (.int .i64 e)
  have X0 := hide x0; have B0 := hide hb0
  clear x0 hb0
  go_enter Tryz.func100, Tryz.ntmps100
  go_wp2
  refine at_world (fun W => Below w.heap.size w W ∧ Box3 W w.heap.size (.bool neg) (.slice ao L.length cap) (.int .i64 e)) ⟨unhide B0, unhide X0⟩ ?_
  rintro W0 ⟨b0, x0⟩
  have hK : ∀ w', Below W0.heap.size W0 w' → Below W0.heap.size W0 w' ∧ w'.cell? ⟨w.heap.size, 0, none⟩ = some (.bool neg) ∧ w'.cell? ⟨w.heap.size, 1, none⟩ = some (.slice ao L.length cap) ∧ w'.cell? ⟨w.heap.size, 2, none⟩ = some (.int .i64 e) := fun w' h =>
    ⟨h, (x0.all h).c0, (x0.all h).c1, (x0.all h).c2⟩
  have HK := hide hK
  have HA := hide (h.below b0); have BB := hide b0
  clear hK x0 b0 h X0 B0
  go_region_held3 (fun w' => Below W0.heap.size W0 w' ∧ w'.cell? ⟨w.heap.size, 0, none⟩ = some (.bool neg) ∧ w'.cell? ⟨w.heap.size, 1, none⟩ = some (.slice ao L.length cap) ∧ w'.cell? ⟨w.heap.size, 2, none⟩ = some (.int .i64 e))
    (first | exact unhide HK _ (Below.refl _ _).drew | exact unhide HK _ (by assumption))
    (first | (go_at_call 142; refine (unhide HR _ ((unhide HA).below (And.left (by assumption)))).mono ?_; rintro e w1 ⟨rfl, hb1⟩; have hB1 : Below W0.heap.size W0 w1 := Below.trans (And.left (by assumption)) (hb1.mono (Below.size (And.left (by assumption)))); clear hb1))
  go_wp2
  go_ret
  exact ⟨rfl, (unhide BB).trans (Below.mono (And.left (by assumption)) (unhide BB).size)⟩

/-- The top of a right number. -/
def topR (L : List Nat) (e : Int) : Int := if L.length = 0 then 0 else lenL L + e

set_option maxHeartbeats 400000 in
theorem rtop_any (neg : Bool) (ao : Option Addr) (cap : Nat) (L : List Nat) (e : Int) (w : World) (h : LimbsAt w ao cap L) (hl : L.length ≤ 1073741824) (he : -100000 ≤ e ∧ e ≤ 100000) :
    Calls Tryz.prog 103 #[.agg #[.bool neg, .slice ao L.length cap, .int .i64 e]] w fun r w' => r = .returned (.int .i64 (topR L e)) ∧ Below w.heap.size w w' := by
  have HR := hide (fun w' h' => refLen_any neg ao cap L w' h' (by omega))
  have hn : L.length ≠ 0 → 0 ≤ lenL L ∧ lenL L ≤ 40000000000 := fun h0 => by
    unfold lenL
    rw [if_neg h0]
    have := bitLen_le (L[L.length - 1]?.getD 0)
    omega
  have HT := hide (show (L.length = 0 → topR L e = 0) ∧ (L.length ≠ 0 → topR L e = lenL L + e) by unfold topR; constructor <;> intro h <;> simp [h])
  generalize topR L e = t at *
  generalize lenL L = n at *
  have hb0 : Below w.heap.size w (w.alloc (.cells #[.bool neg, .slice ao L.length cap, .int .i64 e] 29)) := (Below.refl _ _).alloc (Nat.le_refl _) _
  have x0 := Box3.new w (.bool neg) (.slice ao L.length cap) (.int .i64 e)
  have X0 := hide x0; have B0 := hide hb0
  clear x0 hb0
  by_cases h0 : L.length = 0
  · have ht := (unhide HT).1 h0
    subst ht
    have h0' : ((L.length : Int) == 0) = true := by rw [beq_iff_eq]; omega
    clear HT hn HR h0
    go_enter Tryz.func103, Tryz.ntmps103
    go_wp2
    go_ret
    exact ⟨rfl, unhide B0⟩
  have ht := (unhide HT).2 h0
  subst ht
  obtain ⟨hn0, hn1⟩ := hn h0
  have h0' : ((L.length : Int) == 0) = false := by rw [beq_eq_false_iff_ne]; omega
  clear HT hn h0
  go_enter Tryz.func103, Tryz.ntmps103
  go_wp2
  refine at_world (fun W => Below w.heap.size w W ∧ Box3 W w.heap.size (.bool neg) (.slice ao L.length cap) (.int .i64 e)) ⟨unhide B0, unhide X0⟩ ?_
  rintro W0 ⟨b0, x0⟩
  have hK : ∀ w', Below W0.heap.size W0 w' → Below W0.heap.size W0 w' ∧ w'.cell? ⟨w.heap.size, 0, none⟩ = some (.bool neg) ∧ w'.cell? ⟨w.heap.size, 1, none⟩ = some (.slice ao L.length cap) ∧ w'.cell? ⟨w.heap.size, 2, none⟩ = some (.int .i64 e) := fun w' h =>
    ⟨h, (x0.all h).c0, (x0.all h).c1, (x0.all h).c2⟩
  have HK := hide hK
  have HA := hide (h.below b0); have BB := hide b0
  clear hK x0 b0 h X0 B0
  go_region_held3 (fun w' => Below W0.heap.size W0 w' ∧ w'.cell? ⟨w.heap.size, 0, none⟩ = some (.bool neg) ∧ w'.cell? ⟨w.heap.size, 1, none⟩ = some (.slice ao L.length cap) ∧ w'.cell? ⟨w.heap.size, 2, none⟩ = some (.int .i64 e))
    (first | exact unhide HK _ (Below.refl _ _).drew | exact unhide HK _ (by assumption))
    (first | (go_at_call 144; refine (unhide HR _ ((unhide HA).below (And.left (by assumption)))).mono ?_; rintro e w1 ⟨rfl, hb1⟩; have hB1 : Below W0.heap.size W0 w1 := Below.trans (And.left (by assumption)) (hb1.mono (Below.size (And.left (by assumption)))); clear hb1))
  go_wp2
  go_ret
  exact ⟨ret_int (wrap_small _ (by omega)), (unhide BB).trans (Below.mono (And.left (by assumption)) (unhide BB).size)⟩

/-- What the reference's Sign says of a struct. -/
def rsgn (neg : Bool) (n : Nat) : Int := if neg then -1 else if n = 0 then 0 else 1

set_option maxHeartbeats 400000 in
theorem rsign_any (neg : Bool) (ao : Option Addr) (cap : Nat) (n : Nat) (e : Int) (w : World) :
    Calls Tryz.prog 102 #[.agg #[.bool neg, .slice ao n cap, .int .i64 e]] w fun r w' => r = .returned (.int .i64 (rsgn neg n)) ∧ Below w.heap.size w w' := by
  have HS := hide (show rsgn neg n = if neg then -1 else if n = 0 then 0 else 1 from rfl)
  generalize rsgn neg n = s at *
  have hb0 : Below w.heap.size w (w.alloc (.cells #[.bool neg, .slice ao n cap, .int .i64 e] 29)) := (Below.refl _ _).alloc (Nat.le_refl _) _
  have B0 := hide hb0
  clear hb0
  cases neg
  · rcases (show n = 0 ∨ n = 1 ∨ 2 ≤ n by omega) with rfl | rfl | h
    · have hs : s = 0 := by rw [unhide HS]; rfl
      subst hs
      clear HS
      go_enter Tryz.func102, Tryz.ntmps102
      go_wp2
      go_ret
      exact ⟨rfl, unhide B0⟩
    · have hs : s = 1 := by rw [unhide HS]; rfl
      subst hs
      clear HS
      go_enter Tryz.func102, Tryz.ntmps102
      go_wp2
      go_ret
      exact ⟨rfl, unhide B0⟩
    · have hs : s = 1 := by rw [unhide HS, if_neg (by decide), if_neg (by omega)]
      subst hs
      have h' : (1 : Int) < (n : Int) := by omega
      clear HS
      go_enter Tryz.func102, Tryz.ntmps102
      go_wp2
      go_ret
      exact ⟨rfl, unhide B0⟩
  · have hs : s = -1 := by rw [unhide HS]; rfl
    subst hs
    clear HS
    go_enter Tryz.func102, Tryz.ntmps102
    go_wp2
    go_ret
    exact ⟨rfl, unhide B0⟩

end Go.Proofs.YtfnnbkclnflpfaaGreatDoor

/- Contract of the reference's Of. -/
namespace Go.Proofs.YtfnnbkclnflpfaaGreatDoor
open Go.RowKit
attribute [local go_sem ↓] Go.wp_at_zero Go.wp_at_succ

theorem wrap_add (x k : Int) : IntKind.i64.wrap (IntKind.i64.wrap x + k) = IntKind.i64.wrap (x + k) := by
  simp only [IntKind.wrap, IntKind.signed, IntKind.bits]
  simp
  split <;> split <;> split <;> omega

theorem wrap64_is (x : Int) : wrap64 x = IntKind.i64.wrap x := by
  simp only [IntKind.wrap, IntKind.signed, IntKind.bits, wrap64]
  simp
  split <;> omega

theorem wrap_in (x : Int) (h : -9223372036854775808 ≤ x ∧ x ≤ 9223372036854775807) : IntKind.i64.wrap x = x := by
  simp only [IntKind.wrap, IntKind.signed, IntKind.bits]
  simp
  omega

theorem wrap_back64 (x e : Int) (j : Nat) (hj : j < 18446744073709551616) (h : x = IntKind.i64.wrap (e + j)) : ((x - e) % 18446744073709551616).toNat = j := by
  subst h
  simp only [IntKind.wrap, IntKind.signed, IntKind.bits]
  simp
  split <;> omega

theorem sg_abs (x : Int) : sg (decide (x < 0)) x.natAbs = x := by
  unfold sg
  by_cases h : x < 0
  · rw [decide_eq_true h]; simp; omega
  · rw [decide_eq_false h]; simp; omega

/-- What holds at the head of the two loops. -/
def OfI (w wr : World) (z : Int) (j : Nat) (nn : Bool) (a : Option Addr) (c : Nat) (L : List Nat) : Prop :=
  Box2 wr w.heap.size (.bool nn) (.slice a L.length c) ∧ Box3 wr (w.heap.size + 1) (.bool false) (.slice none 0 0) (.int .i64 0) ∧ LimbsAt wr a c L ∧ Canon L ∧ L ≠ [] ∧ L.length ≤ 30000 ∧ sg nn (val L) * 2 ^ j = z ∧ Below w.heap.size w wr

theorem OfI.step {w w2 : World} {z x : Int} {nn n0 n' : Bool} {a0 a' : Option Addr} {l0 c0 c' v M B j : Nat} {L' : List Nat}
    (hb : Box2 w2 w.heap.size (.bool n0) (.slice a0 l0 c0)) (hr : Box3 w2 (w.heap.size + 1) (.bool false) (.slice none 0 0) (.int .i64 0))
    (i : LimbsAt w2 a' c' L' ∧ NewAt B a' L' ∧ Canon L' ∧ n' = decide (x < 0) ∧ val L' = x.natAbs ∧ L'.length ≤ M) (hx : x = sg nn v) (hv : v ≠ 0) (hz : sg nn v * 2 ^ j = z) (hl : M ≤ 30000) (hbel : Below w.heap.size w w2) :
    OfI w ((w2.setCell ⟨w.heap.size, 0, none⟩ (.bool n')).setCell ⟨w.heap.size, 1, none⟩ (.slice a' L'.length c')) z j n' a' c' L' := by
  obtain ⟨i1, i2, i3, i4, i5, i6⟩ := i
  have hs : sg n' (val L') = x := by rw [i4, i5, sg_abs]
  refine ⟨hb.put _ _, (hr.other (by simp) _).other (by simp) _, i1.box hb _ _, i3, ?_, by omega, ?_, (hbel.setCell (by simp) _).setCell (by simp) _⟩
  · rintro rfl
    simp [val] at i5
    have : x.natAbs = v := by rw [hx, natAbs_sg]
    omega
  · rw [hs, hx]; exact hz

theorem OfI.tzs {w wr : World} {z : Int} {j : Nat} {nn : Bool} {a : Option Addr} {c : Nat} {L : List Nat} (h : OfI w wr z j nn a c L) : val L ≠ 0 ∧ tz z.natAbs = j + tz (val L) := by
  obtain ⟨h1, h2, h3, h4, h5, h6, h7, h8⟩ := h
  have hv : val L ≠ 0 := fun e => h5 ((val_zero_of_canon L h4).1 e)
  refine ⟨hv, ?_⟩
  rw [← tz_mul (val L) j (by omega), ← h7, Int.natAbs_mul, natAbs_sg, Int.natAbs_pow, Nat.mul_comm]
  rfl

theorem OfI.last {w wr : World} {z : Int} {j : Nat} {nn : Bool} {a : Option Addr} {c : Nat} {L : List Nat} (h : OfI w wr z j nn a c L) (ho : val L % 2 = 1) : IsNum 0 wr (.agg #[.bool nn, .slice a L.length c]) (oM z) ∧ j = tz z.natAbs := by
  obtain ⟨h1, h2, h3, h4, h5, h6, h7, h8⟩ := h
  have hO : OddOf z (sg nn (val L)) j := ⟨h7.symm, by unfold sg; cases nn <;> simp <;> omega⟩
  obtain ⟨e1, e2, e3⟩ := hO.eq
  rw [← e2, ← sval_sg]
  exact ⟨IsNum.mk h3 (NewAt.zero h3) h4 h5 (by omega), e3⟩

theorem val_mod32 (L : List Nat) (hf : Fits L) : val L % 4294967296 = L[0]?.getD 0 := by
  cases L with
  | nil => rfl
  | cons x r =>
    have := hf x (by simp)
    simp [val]
    omega

theorem OfI.down {w wr : World} {z : Int} {j : Nat} {nn : Bool} {a : Option Addr} {c : Nat} {L : List Nat} (h : OfI w wr z j nn a c L) (k : Nat) (hk : val L % 2 ^ k = 0) : val L / 2 ^ k ≠ 0 ∧ sg nn (val L / 2 ^ k) * 2 ^ (j + k) = z ∧ j + k ≤ tz z.natAbs := by
  obtain ⟨hv, ht⟩ := h.tzs
  obtain ⟨h1, h2, h3, h4, h5, h6, h7, h8⟩ := h
  have hd : val L = 2 ^ k * (val L / 2 ^ k) := by have := Nat.div_add_mod (val L) (2 ^ k); omega
  have hq : val L / 2 ^ k ≠ 0 := fun e => hv (by rw [hd, e]; simp)
  refine ⟨hq, ?_, ?_⟩
  · rw [← h7]
    conv => rhs; rw [hd]
    generalize val L / 2 ^ k = q
    have e : sg nn (2 ^ k * q) = sg nn q * 2 ^ k := by
      unfold sg
      cases nn
      · simp only [Bool.false_eq_true, if_false]; push_cast; rw [Int.mul_comm]
      · simp only [if_true]; push_cast; rw [Int.neg_mul, Int.mul_comm]
    rw [e, Nat.add_comm, Int.pow_add, Int.mul_assoc]
  · rw [ht]
    have e : tz (val L) = k + tz (val L / 2 ^ k) := by
      conv => lhs; rw [hd]
      exact tz_mul _ _ (Nat.pos_of_ne_zero hq)
    omega

set_option maxRecDepth 20000 in
set_option maxHeartbeats 4000000 in
theorem rof_some (na : Bool) (ao : Option Addr) (ca : Nat) (A : List Nat) (e : Int) (w : World) (hA : LimbsAt w ao ca A) (h0 : A ≠ []) (hc : Canon A) (la : A.length ≤ 20000) (be : -9223372036854775808 ≤ e ∧ e ≤ 9223372036854775807) :
    Calls Tryz.prog 48 #[.agg #[.bool na, .slice ao A.length ca], .int .i64 e] w fun r w' => ∃ v, r = .returned v ∧ IsDy w' v (oM (sval na A)) (IntKind.i64.wrap (e + tz (sval na A).natAbs)) ∧ Below w.heap.size w w' := by
  obtain ⟨i0, hi, hz0, hz1, hz2⟩ := info_parts Tryz.info70
  have HZ := hide (sval_sg na A).symm
  have hT : tz (sval na A).natAbs < 18446744073709551616 := by
    rw [natAbs_sval]
    have hv : val A ≠ 0 := fun e => h0 ((val_zero_of_canon A hc).1 e)
    have h1 := val_lt A hA.2.1
    rw [show (4294967296 : Nat) = 2 ^ 32 by decide, ← Nat.pow_mul] at h1
    have := tz_lt (val A) _ (by omega) h1
    omega
  generalize sval na A = z at *
  obtain ⟨T, hTe⟩ : ∃ T, T = tz z.natAbs := ⟨_, rfl⟩
  have HTE := hide hTe
  rw [← hTe] at hT ⊢
  have HM := hide (show oM z = oM z from rfl)
  have HH0 := hide h0; have HC := hide hc
  clear h0 hc hTe
  have hp : 0 < A.length := List.length_pos_iff.2 (unhide HH0)
  have hpI : ((A.length : Int) == 0) = false := by rw [beq_eq_false_iff_ne]; omega
  go_enter Tryz.func48, Tryz.ntmps48
  go_wp2
  clear HM
  go_loopw [1] (fun i wr => ∃ (x : Int) (j : Nat) (nn : Bool) (a : Option Addr) (c : Nat) (L : List Nat), i = .int .i64 x ∧ j ≤ T ∧ Hid (x = IntKind.i64.wrap (e + j)) ∧ Hid (OfI w wr z j nn a c L)) (fun i _ => T - ((intOf i - e) % 18446744073709551616).toNat)
  case atStart =>
    refine ⟨e, 0, na, ao, ca, A, rfl, Nat.zero_le _, ?_, (Box2.new _ _ _).old _, ?_, hA.below (((Below.refl _ _).alloc (Nat.le_refl _) _).alloc (by simp) _), unhide HC, unhide HH0, by omega, by rw [unhide HZ]; simp, ((Below.refl _ _).alloc (Nat.le_refl _) _).alloc (by simp) _⟩
    · unfold Hid; rw [wrap_in _ (by omega)]; omega
    · have := Box3.new (w.alloc (.cells #[.bool na, .slice ao A.length ca] 27)) (.bool false) (.slice none 0 0) (.int .i64 0)
      simpa using this
  case round =>
    obtain ⟨x, j, nn, a, c, L, rfl, hj, hx, hI⟩ := hrel
    clear HZ HC HH0 hA la hp hpI
    obtain ⟨x0, x1, hL, hC, hS, hlen, hz, hbel⟩ := unhide hI
    have hp : 0 < L.length := List.length_pos_iff.2 hS
    have hpI : (0 : Int) < (L.length : Int) := by omega
    have p0 := x0.c0; have p1 := x0.c1
    have hcap := hL.1
    obtain ⟨b, off, rfl, hb, hcl⟩ := hL.ne hp
    have hc0 := hcl 0 hp
    rw [Nat.add_zero] at hc0
    have hm32 := val_mod32 L hL.2.1
    have hlt := hL.lt 0
    by_cases hg : L[0]?.getD 0 = 0
    · rw [hg] at hc0 hm32
      obtain ⟨d1, d2, d3⟩ := (unhide hI).down 32 hm32
      rw [← unhide HTE] at d3
      have HD1 := hide d1; have HD2 := hide d2
      have BEL := hide hbel; have X0 := hide x0; have X1 := hide x1; have HLEN := hide hlen; have HLL := hide (hL.below ((Below.refl _ _).drew))
      clear hz x0 x1 hL hC hS hbel hI hlen hcl hm32 hg d1 d2 hlt
      go_wp2
      have h1I : (1 : Int) ≤ (L.length : Int) := by omega
      have h2I : (L.length : Int) ≤ (c : Int) := by omega
      have h3I : (1 : Int) ≤ (c : Int) := by omega
      by_cases hc1 : c = 1
      · subst hc1
        go_region_with (go_at_call 92; refine (made_drop1 nn b off L _ (unhide HLL)).mono ?_; rintro e w2 ⟨v, rfl, ⟨n2, a2, c2, L2, rfl, i1⟩, hb2⟩; have I1 := hide i1; have Z0 := (unhide X0).drew.below hb2 (unhide X0).drew.lt; have Z1 := (unhide X1).drew.below hb2 (unhide X1).drew.lt; have r0 := Z0.c0; have r1 := Z0.c1; have f0 := Z0.free 0; have f1 := Z0.free 1; have B2 := hide (((unhide BEL).drew).trans (hb2.mono ((unhide BEL).drew).size)); have ZZ0 := hide Z0; have ZZ1 := hide Z1; clear i1 hb2 Z0 Z1)
        all_goals
          go_wp2
          go_roundw
          case rel => exact ⟨_, j + 32, n2, a2, c2, L2, rfl, d3, hide (by rw [wrap64_is, unhide hx, wrap_add]; congr 1; omega), OfI.step (v := val L / 4294967296) (unhide ZZ0) (unhide ZZ1) (unhide I1) rfl (unhide HD1) (unhide HD2) (by have := unhide HLEN; omega) (unhide B2)⟩
          case measure => rw [wrap64_is, unhide hx, wrap_add]; simp only [intOf]; rw [wrap_back64 _ e j (by omega) rfl, wrap_back64 _ e (j + 32) (by omega) (by congr 1; omega)]; omega
      · have hc1I : ¬ (c : Int) = 1 := by omega
        go_region_with (go_at_call 92; refine (made_drop nn b off c L _ (unhide HLL) (by have := unhide HLEN; omega)).mono ?_; rintro e w2 ⟨v, rfl, ⟨n2, a2, c2, L2, rfl, i1⟩, hb2⟩; have I1 := hide i1; have Z0 := (unhide X0).drew.below hb2 (unhide X0).drew.lt; have Z1 := (unhide X1).drew.below hb2 (unhide X1).drew.lt; have r0 := Z0.c0; have r1 := Z0.c1; have f0 := Z0.free 0; have f1 := Z0.free 1; have B2 := hide (((unhide BEL).drew).trans (hb2.mono ((unhide BEL).drew).size)); have ZZ0 := hide Z0; have ZZ1 := hide Z1; clear i1 hb2 Z0 Z1)
        all_goals
          go_wp2
          go_roundw
          case rel => exact ⟨_, j + 32, n2, a2, c2, L2, rfl, d3, hide (by rw [wrap64_is, unhide hx, wrap_add]; congr 1; omega), OfI.step (v := val L / 4294967296) (unhide ZZ0) (unhide ZZ1) (unhide I1) rfl (unhide HD1) (unhide HD2) (by have := unhide HLEN; omega) (unhide B2)⟩
          case measure => rw [wrap64_is, unhide hx, wrap_add]; simp only [intOf]; rw [wrap_back64 _ e j (by omega) rfl, wrap_back64 _ e (j + 32) (by omega) (by congr 1; omega)]; omega
    · have hne : (((L[0]?.getD 0 : Nat) : Int) == 0) = false := by rw [beq_eq_false_iff_ne]; omega
      generalize L[0]?.getD 0 = y at *
      have HI := hI
      clear hI x0 x1 hL hC hS hlen hz hbel hcl hm32 hg
      go_wp2
      go_loopw [1] (fun i wr => ∃ (x : Int) (j : Nat) (nn : Bool) (a : Option Addr) (c : Nat) (L : List Nat), i = .int .i64 x ∧ j ≤ T ∧ Hid (x = IntKind.i64.wrap (e + j)) ∧ Hid (OfI w wr z j nn a c L)) (fun i _ => T - ((intOf i - e) % 18446744073709551616).toNat)
      case atStart => exact ⟨x, j, nn, _, c, L, rfl, hj, hx, HI⟩
      case round =>
        clear HI p0 p1 hpI hp hne hc0 hj hx hb hcap
        obtain ⟨x, j, nn, a, c, L, rfl, hj, hx, hI⟩ := hrel
        obtain ⟨x0, x1, hL, hC, hS, hlen, hz, hbel⟩ := unhide hI
        have p0 := x0.c0; have p1 := x0.c1
        have X0 := hide x0; have X1 := hide x1; have BEL := hide hbel; have HLEN := hide hlen; have HLL := hide hL
        clear x0 x1 hL hC hS hlen hz hbel
        go_wp2_with fail
        refine (odd_any nn a c L wr (unhide HLL)).mono ?_
        by_cases ho : val L % 2 = 1
        · rw [decide_eq_true ho]
          rintro r w3 ⟨rfl, hb1⟩
          obtain ⟨l1, l2⟩ := (unhide hI).last ho
          have L1 := hide (l1.below hb1); have L2 := hide l2
          have x0 := (unhide X0).all hb1; have x1 := (unhide X1).all hb1
          have b1 := (unhide BEL).trans (hb1.mono (unhide BEL).size)
          clear hI l1 l2 hb1 ho p0 p1 X0 X1 BEL HLL
          have p0 := x0.c0; have p1 := x0.c1
          have y0 := x1.c0; have y1 := x1.c1; have y2 := x1.c2; have f0 := x1.free 0; have f1 := x1.free 1; have f2 := x1.free 2
          have X1 := hide x1; have B1 := hide b1
          clear x0 x1 b1
          go_wp2
          have e1 : IntKind.i64.wrap (e + (T : Int)) = x := by rw [unhide hx, unhide HTE, ← unhide L2]
          rw [e1]
          have j2 : IsDy w3 (.agg #[.bool nn, .slice a L.length c, .int .i64 x]) (oM z) x := ⟨nn, a, c, L, rfl, unhide L1⟩
          refine bodyPost_ret (v := .agg #[.bool nn, .slice a L.length c, .int .i64 x]) (by simp [results, Tryz.results48, go_sem, y0, y1, y2]) rfl ⟨_, rfl, j2.put3 (unhide X1) _ _ _, below_put3 (unhide B1) (by omega) _ _ _⟩
        · rw [decide_eq_false ho]
          rintro r w3 ⟨rfl, hb1⟩
          obtain ⟨d1, d2, d3⟩ := (unhide hI).down 1 (by simp; omega)
          rw [← unhide HTE] at d3
          rw [Nat.pow_one] at d1 d2
          have HD1 := hide d1; have HD2 := hide d2
          have x0 := (unhide X0).all hb1; have x1 := (unhide X1).all hb1
          have b1 := (unhide BEL).trans (hb1.mono (unhide BEL).size)
          have hll := (unhide HLL).below hb1
          clear hI d1 d2 hb1 ho p0 p1 X0 X1 BEL HLL
          have p0 := x0.c0; have p1 := x0.c1
          have X0 := hide x0; have X1 := hide x1; have B1 := hide b1; have HLL := hide hll
          clear x0 x1 b1 hll
          go_wp2_with fail
          refine (half_any nn a c L w3 (unhide HLL) (by have := unhide HLEN; omega)).mono ?_
          rintro r w2 ⟨v, rfl, ⟨n2, a2, c2, L2, rfl, i1⟩, hb2⟩
          have I1 := hide i1
          have Z0 := (unhide X0).all hb2
          have Z1 := (unhide X1).all hb2
          have r0 := Z0.c0; have r1 := Z0.c1; have f0 := Z0.free 0; have f1 := Z0.free 1
          have B2 := hide ((unhide B1).trans (hb2.mono (unhide B1).size))
          have ZZ0 := hide Z0; have ZZ1 := hide Z1
          clear i1 hb2 Z0 Z1
          go_wp2
          go_roundw
          case rel => exact ⟨_, j + 1, n2, a2, c2, L2, rfl, d3, hide (by rw [wrap64_is, unhide hx, wrap_add]; congr 1; omega), OfI.step (v := val L / 2) (unhide ZZ0) (unhide ZZ1) (unhide I1) rfl (unhide HD1) (unhide HD2) (by have := unhide HLEN; omega) (unhide B2)⟩
          case measure => rw [wrap64_is, unhide hx, wrap_add]; simp only [intOf]; rw [wrap_back64 _ e j (by omega) rfl, wrap_back64 _ e (j + 1) (by omega) (by congr 1; omega)]; omega

set_option maxHeartbeats 400000 in
theorem rof_none (na : Bool) (ao : Option Addr) (ca : Nat) (e : Int) (w : World) :
    Calls Tryz.prog 48 #[.agg #[.bool na, .slice ao 0 ca], .int .i64 e] w fun r w' => ∃ v, r = .returned v ∧ IsDy w' v 0 0 ∧ Below w.heap.size w w' := by
  go_enter Tryz.func48, Tryz.ntmps48
  go_wp2
  refine bodyPost_ret (v := .agg #[.bool false, .slice none 0 0, .int .i64 0]) (by simp [results, Tryz.results48, go_sem]) rfl ⟨_, rfl, IsDy.zero _ _ _, ?_⟩
  exact ((Below.refl w.heap.size w).alloc (Nat.le_refl _) _).alloc (by simp) _

/-- Of of a number at hand, any power. -/
theorem rof_num {M B : Nat} {w : World} {v : Value} {z : Int} (e : Int) (hv : IsNumM M B w v z) (hM : M ≤ 20000) (be : -9223372036854775808 ≤ e ∧ e ≤ 9223372036854775807) :
    Calls Tryz.prog 48 #[v, .int .i64 e] w fun r w' => ∃ u, r = .returned u ∧ IsDy w' u (oM z) (if z = 0 then 0 else IntKind.i64.wrap (e + tz z.natAbs)) ∧ Below w.heap.size w w' := by
  obtain ⟨na, ao, ca, A, rfl, a1, a2, a3, a4, a5, a6⟩ := hv
  have hs := sval_IsNum a4 a5
  by_cases h0 : A = []
  · subst h0
    rw [sval_nil] at hs
    subst hs
    rw [if_pos rfl, show oM 0 = 0 by simp [oM]]
    exact rof_none na ao ca e w
  · have hz : z ≠ 0 := fun e0 => h0 ((val_zero_of_canon A a3).1 (by rw [a5, e0]; rfl))
    rw [if_neg hz, ← hs]
    exact rof_some na ao ca A e w a1 h0 a3 (by omega) be

/-- Of of a number at hand, a power that is not great. -/
theorem rof_small {M B : Nat} {w : World} {v : Value} {z : Int} (e : Int) (hv : IsNumM M B w v z) (hM : M ≤ 20000) (be : -1000000 ≤ e ∧ e ≤ 1000000) :
    Calls Tryz.prog 48 #[v, .int .i64 e] w fun r w' => ∃ u, r = .returned u ∧ IsDy w' u (oM z) (oE z e) ∧ Below w.heap.size w w' := by
  have h1 := rof_num e hv hM (by omega)
  have : (if z = 0 then 0 else IntKind.i64.wrap (e + tz z.natAbs)) = oE z e := by
    unfold oE
    split
    · rfl
    · rename_i hz
      have ht : tz z.natAbs < 32 * 20000 := by
        obtain ⟨na, ao, ca, A, rfl, a1, a2, a3, a4, a5, a6⟩ := hv
        rw [← a5]
        have hv : val A ≠ 0 := by rw [a5]; omega
        have h1 := val_lt A a1.2.1
        rw [show (4294967296 : Nat) = 2 ^ 32 by decide, ← Nat.pow_mul] at h1
        have := tz_lt (val A) _ (by omega) h1
        omega
      exact wrap_small _ (by omega)
  rwa [this] at h1

end Go.Proofs.YtfnnbkclnflpfaaGreatDoor

/- Contracts of the laws' helpers: told, form, light, awake. -/
namespace Go.Proofs.YtfnnbkclnflpfaaGreatDoor
open Go.RowKit
attribute [local go_sem ↓] Go.wp_at_zero Go.wp_at_succ

/-- Is a number of so many limbs right? -/
def dRt (n y : Int) : Bool := if n = 0 then decide (y = 0) else (decide (n % 2 = 1) && decide (-16384 ≤ y ∧ y ≤ 16384))

theorem IsDy.parts {w : World} {v : Value} {m e : Int} (h : IsDy w v m e) :
    ∃ (neg : Bool) (ao : Option Addr) (cap : Nat) (L : List Nat), v = .agg #[.bool neg, .slice ao L.length cap, .int .i64 e] ∧ LimbsAt w ao cap L ∧ Canon L ∧ neg = decide (m < 0) ∧ val L = m.natAbs ∧ L.length ≤ 35184372088832 := by
  obtain ⟨neg, ao, cap, L, rfl, m1, m2, m3, L1, q1, q2, q3, q4, q5, q6, q7⟩ := h
  simp only [Value.agg.injEq, Array.mk.injEq, List.cons.injEq, Value.bool.injEq, Value.slice.injEq, and_true] at q1
  obtain ⟨rfl, rfl, o3, rfl⟩ := q1
  exact ⟨neg, ao, cap, L1, by rw [o3], q2, q4, q5, q6, q7⟩

theorem mod2_natAbs (n : Int) : (n.natAbs % 2 = 1) ↔ (n % 2 = 1) := by omega

/-- A number of at most 512 limbs, opened: is it right, and what the program's calls ask of it. -/
theorem IsDy.right {w : World} {v : Value} {m e : Int} (h : IsDy w v m e) (hm : m.natAbs < TOP) :
    ∃ (neg : Bool) (ao : Option Addr) (cap : Nat) (L : List Nat), v = .agg #[.bool neg, .slice ao L.length cap, .int .i64 e] ∧ LimbsAt w ao cap L ∧ rightB neg L = true ∧ sval neg L = m ∧ L.length ≤ 512 ∧ drB neg L e = dRt m e := by
  obtain ⟨neg, ao, cap, L, rfl, h1, h2, h3, h4, h5⟩ := h.parts
  have hN : IsNum 0 w (.agg #[.bool neg, .slice ao L.length cap]) m := ⟨neg, ao, cap, L, rfl, h1, NewAt.zero h1, h2, h3, h4, h5⟩
  have hl : L.length ≤ 512 := (val_lt_TOP L h1.2.1 h2).1 (by omega)
  have hr : rightB neg L = true := by
    obtain ⟨neg', ao', cap', L', e1, e2, e3, e4, e5⟩ := hN.right hm
    simp only [Value.agg.injEq, Array.mk.injEq, List.cons.injEq, Value.bool.injEq, Value.slice.injEq, and_true] at e1
    obtain ⟨rfl, rfl, o3, rfl⟩ := e1
    have : L = L' := by
      refine eq_of_canon L L' h1.2.1 e2.2.1 h2 (right_canon e3).2.1 ?_
      rw [h4, ← e4, natAbs_sval]
    rw [this]; exact e3
  refine ⟨neg, ao, cap, L, rfl, h1, hr, sval_IsNum h3 h4, hl, ?_⟩
  unfold drB dRt
  rw [hr, Bool.true_and, h4]
  by_cases h0 : L.length = 0
  · have : m = 0 := by
      have : L = [] := List.length_eq_zero_iff.1 h0
      rw [this] at h4; simp [val] at h4; omega
    rw [if_pos h0, if_pos this]
  · have : m ≠ 0 := fun e0 => h0 (by
      have : L = [] := (val_zero_of_canon L h2).1 (by rw [h4, e0]; rfl)
      rw [this]; rfl)
    rw [if_neg h0, if_neg this]
    congr 1
    rw [decide_eq_decide]
    exact mod2_natAbs m

theorem IsDy.num {w : World} {v : Value} {m e : Int} (h : IsDy w v m e) :
    ∃ (neg : Bool) (ao : Option Addr) (cap : Nat) (L : List Nat), v = .agg #[.bool neg, .slice ao L.length cap, .int .i64 e] ∧ IsNum 0 w (.agg #[.bool neg, .slice ao L.length cap]) m := h

end Go.Proofs.YtfnnbkclnflpfaaGreatDoor

/- What Make answers, and whether it is right. -/
namespace Go.Proofs.YtfnnbkclnflpfaaGreatDoor
open Go.RowKit

theorem oM_le (z : Int) : (oM z).natAbs ≤ z.natAbs := by
  by_cases h : z = 0
  · subst h; simp [oM]
  · have hO := oddOf z h
    have e1 : z.natAbs = (oM z).natAbs * 2 ^ tz z.natAbs := by
      conv => lhs; rw [hO.1]
      rw [Int.natAbs_mul, Int.natAbs_pow]
      rfl
    rw [e1]
    exact Nat.le_mul_of_pos_right _ (Nat.pow_pos (by decide))

theorem oM_zero : oM 0 = 0 := by simp [oM]
theorem oE_zero (e : Int) : oE 0 e = 0 := by simp [oE]
theorem oM_ne (z : Int) (h : z ≠ 0) : oM z ≠ 0 ∧ oM z % 2 = 1 := by
  have hO := (oddOf z h).2
  exact ⟨fun e => by rw [e] at hO; simp at hO, hO⟩
theorem oE_ne (z e : Int) (h : z ≠ 0) : oE z e = e + tz z.natAbs := by unfold oE; rw [if_neg h]

theorem dOk_rt (z e : Int) (he : -32768 ≤ e ∧ e ≤ 32768) : dRt (oM z) (oE z e) = dOk z e := by
  unfold dOk dRt
  rw [decide_eq_true he, Bool.true_and]
  by_cases h : z = 0
  · subst h
    rw [oM_zero, oE_zero]; simp
  · obtain ⟨h1, h2⟩ := oM_ne z h
    rw [if_neg h1, decide_eq_true h2, oE_ne z e h, decide_eq_false h]
    simp

/-- What told asks where Make's answer is held against Of's. -/
theorem told_make (z e : Int) (he : -32768 ≤ e ∧ e ≤ 32768) :
    (dRt (oM z) (oE z e) = true → dErr z e = 0 ∧ dM z e = oM z ∧ dX z e = oE z e) ∧ (dRt (oM z) (oE z e) = false → dErr z e = 2 ∧ dM z e = 0 ∧ dX z e = 0) := by
  rw [dOk_rt z e he]
  constructor <;> intro h <;> simp [dErr, dM, dX, h]

end Go.Proofs.YtfnnbkclnflpfaaGreatDoor

/- Contract of align. -/
namespace Go.Proofs.YtfnnbkclnflpfaaGreatDoor
open Go.RowKit
attribute [local go_sem ↓] Go.wp_at_zero Go.wp_at_succ

/-- A number written with a lesser power: s times 2^(x - l). -/
def up (s x l : Int) : Int := s * 2 ^ (x - l).toNat

theorem shV_upto (na : Bool) (A : List Nat) (n : Int) (h : 0 ≤ n) : shV na A n = sval na A * 2 ^ n.toNat := by
  rw [shV_shF, sval_sg]
  unfold shF
  rw [if_pos h]
  unfold sg
  cases na
  · simp
  · simp [Int.neg_mul]

/-- What a shift up answers: err, number. -/
def upE (s x l : Int) : Int := if (up s x l).natAbs < TOP ∧ x - l ≤ 16384 then 0 else 2
def upN (s x l : Int) : Int := if (up s x l).natAbs < TOP ∧ x - l ≤ 16384 then up s x l else 0

theorem shift_up (na : Bool) (A : List Nat) (x l : Int) (hr : rightB na A = true) (h : l ≤ x) : shE na A (x - l) = upE (sval na A) x l ∧ shN na A (x - l) = upN (sval na A) x l := by
  unfold shE shN shOk upE upN
  rw [hr, shV_upto na A (x - l) (by omega)]
  change (if (true && decide (-16384 ≤ x - l ∧ x - l ≤ 16384)) = true then errOf (up (sval na A) x l) else if true = true then 2 else 1) = _ ∧ (if (true && decide (-16384 ≤ x - l ∧ x - l ≤ 16384)) = true then numOf (up (sval na A) x l) else 0) = _
  rw [Bool.true_and]
  by_cases h1 : x - l ≤ 16384
  · rw [if_pos (decide_eq_true (show -16384 ≤ x - l ∧ x - l ≤ 16384 by omega)), if_pos (decide_eq_true (show -16384 ≤ x - l ∧ x - l ≤ 16384 by omega))]
    unfold errOf numOf
    by_cases h2 : (up (sval na A) x l).natAbs < TOP
    · rw [if_pos h2, if_pos h2, if_pos ⟨h2, h1⟩, if_pos ⟨h2, h1⟩]; exact ⟨rfl, rfl⟩
    · rw [if_neg h2, if_neg h2, if_neg (fun h => h2 h.1), if_neg (fun h => h2 h.1)]; exact ⟨rfl, rfl⟩
  · have hd : decide (-16384 ≤ x - l ∧ x - l ≤ 16384) = false := decide_eq_false (by omega)
    rw [hd, if_neg (show ¬ ((up (sval na A) x l).natAbs < TOP ∧ x - l ≤ 16384) from fun h => h1 h.2), if_neg (show ¬ ((up (sval na A) x l).natAbs < TOP ∧ x - l ≤ 16384) from fun h => h1 h.2)]
    exact ⟨by simp, by simp⟩

theorem up_cases (s x l : Int) : (upE s x l = 0 ∧ upN s x l = up s x l) ∨ upE s x l = 2 := by
  unfold upE upN
  by_cases h : (up s x l).natAbs < TOP ∧ x - l ≤ 16384
  · rw [if_pos h, if_pos h]; exact .inl ⟨rfl, rfl⟩
  · rw [if_neg h]; exact .inr rfl

theorem IsNum.put2 {B : Nat} {w : World} {v : Value} {x : Int} (h : IsNum B w v x) {p q : Addr} (hp : p.block < B) (hq : q.block < B) (u u' : Value) : IsNum B ((w.setCell p u).setCell q u') v x := by
  obtain ⟨n, ao, cap, L, rfl, h1, h2, h3⟩ := h
  exact ⟨n, ao, cap, L, rfl, (h1.store h2 hp u).store h2 hq u', h2, h3⟩

theorem below_put2 {w w' : World} {B b : Nat} (h : Below B w w') (hb : B ≤ b) (u u' : Value) : Below B w ((w'.setCell ⟨b, 0, none⟩ u).setCell ⟨b, 1, none⟩ u') :=
  (h.setCell hb _).setCell hb _

theorem ends_a {w : World} {b c : Nat} {x0 x1 y0 y1 : Value} (h2 : Box2 w b x0 x1) (h3 : Box2 w c y0 y1) (hne : b ≠ c) (u0 u1 v0 v1 : Value) :
    Box2 ((((((w.setCell ⟨c, 0, none⟩ v0).setCell ⟨c, 1, none⟩ v1).setCell ⟨b, 0, none⟩ u0).setCell ⟨b, 1, none⟩ u1).setCell ⟨c, 0, none⟩ v0).setCell ⟨c, 1, none⟩ v1) b u0 u1 ∧
    Box2 ((((((w.setCell ⟨c, 0, none⟩ v0).setCell ⟨c, 1, none⟩ v1).setCell ⟨b, 0, none⟩ u0).setCell ⟨b, 1, none⟩ u1).setCell ⟨c, 0, none⟩ v0).setCell ⟨c, 1, none⟩ v1) c v0 v1 :=
  ⟨((((h2.other (p := ⟨c, 0, none⟩) hne v0).other (p := ⟨c, 1, none⟩) hne v1).put u0 u1).other (p := ⟨c, 0, none⟩) hne v0).other (p := ⟨c, 1, none⟩) hne v1,
   (((h3.put v0 v1).other (p := ⟨b, 0, none⟩) (Ne.symm hne) u0).other (p := ⟨b, 1, none⟩) (Ne.symm hne) u1).put v0 v1⟩

theorem ends_b {w : World} {b c : Nat} {x0 x1 y0 y1 : Value} (h2 : Box2 w b x0 x1) (h3 : Box2 w c y0 y1) (hne : b ≠ c) (u0 u1 v0 v1 : Value) :
    Box2 ((((((w.setCell ⟨b, 0, none⟩ u0).setCell ⟨b, 1, none⟩ u1).setCell ⟨b, 0, none⟩ u0).setCell ⟨b, 1, none⟩ u1).setCell ⟨c, 0, none⟩ v0).setCell ⟨c, 1, none⟩ v1) b u0 u1 ∧
    Box2 ((((((w.setCell ⟨b, 0, none⟩ u0).setCell ⟨b, 1, none⟩ u1).setCell ⟨b, 0, none⟩ u0).setCell ⟨b, 1, none⟩ u1).setCell ⟨c, 0, none⟩ v0).setCell ⟨c, 1, none⟩ v1) c v0 v1 :=
  ⟨(((h2.put u0 u1).put u0 u1).other (p := ⟨c, 0, none⟩) hne v0).other (p := ⟨c, 1, none⟩) hne v1,
   ((((h3.other (p := ⟨b, 0, none⟩) (Ne.symm hne) u0).other (p := ⟨b, 1, none⟩) (Ne.symm hne) u1).other (p := ⟨b, 0, none⟩) (Ne.symm hne) u0).other (p := ⟨b, 1, none⟩) (Ne.symm hne) u1).put v0 v1⟩

/-- What align answers: the two numbers, or an error. -/
def AlignR (w' : World) (r : Ending) (ea eb za zb : Int) : Prop :=
  ∃ (n1 : Bool) (a1 : Option Addr) (l1 c1 : Nat) (n2 : Bool) (a2 : Option Addr) (l2 c2 : Nat) (er : Int), r = .returned (.tuple #[.agg #[.bool n1, .slice a1 l1 c1], .agg #[.bool n2, .slice a2 l2 c2], .int .i64 er]) ∧ (ea = 0 → eb = 0 → er = 0 ∧ IsNum 0 w' (.agg #[.bool n1, .slice a1 l1 c1]) za ∧ IsNum 0 w' (.agg #[.bool n2, .slice a2 l2 c2]) zb) ∧ (¬ (ea = 0 ∧ eb = 0) → er = 2)

set_option maxHeartbeats 4000000 in
theorem align_any (na nb : Bool) (ao bo : Option Addr) (ca cb : Nat) (A B : List Nat) (x y l : Int) (w : World) (hA : LimbsAt w ao ca A) (hB : LimbsAt w bo cb B) (ra : rightB na A = true) (rb : rightB nb B = true) (bx : -16384 ≤ x ∧ x ≤ 16384) (by' : -16384 ≤ y ∧ y ≤ 16384) (hl : l = min x y) :
    Calls Tryz.prog 165 #[.agg #[.bool na, .slice ao A.length ca, .int .i64 x], .agg #[.bool nb, .slice bo B.length cb, .int .i64 y]] w fun r w' => AlignR w' r (upE (sval na A) x l) (upE (sval nb B) y l) (up (sval na A) x l) (up (sval nb B) y l) ∧ Below w.heap.size w w' := by
  have la := (right_canon ra).1
  have lb := (right_canon rb).1
  have hxl : l ≤ x := by omega
  have hyl : l ≤ y := by omega
  have CA := hide (fun n w' h (e : n = x - l) => show Calls Tryz.prog 110 #[.agg #[.bool na, .slice ao A.length ca], .int .i64 n] w' fun e w'' => ∃ v, e = .returned (.tuple #[v, .int .i64 (upE (sval na A) x l)]) ∧ IsNum w'.heap.size w'' v (upN (sval na A) x l) ∧ Below w'.heap.size w' w'' by
    have := shift_any na ao ca A n w' h (by omega) (by omega)
    rwa [e, (shift_up na A x l ra hxl).1, (shift_up na A x l ra hxl).2, ← e] at this)
  have CB := hide (fun n w' h (e : n = y - l) => show Calls Tryz.prog 110 #[.agg #[.bool nb, .slice bo B.length cb], .int .i64 n] w' fun e w'' => ∃ v, e = .returned (.tuple #[v, .int .i64 (upE (sval nb B) y l)]) ∧ IsNum w'.heap.size w'' v (upN (sval nb B) y l) ∧ Below w'.heap.size w' w'' by
    have := shift_any nb bo cb B n w' h (by omega) (by omega)
    rwa [e, (shift_up nb B y l rb hyl).1, (shift_up nb B y l rb hyl).2, ← e] at this)
  have HA := hide (up_cases (sval na A) x l)
  have HB := hide (up_cases (sval nb B) y l)
  have HL := hide hl
  clear hl ra rb hxl hyl
  generalize upE (sval na A) x l = ea at *
  generalize upE (sval nb B) y l = eb at *
  generalize upN (sval na A) x l = ua at *
  generalize upN (sval nb B) y l = ub at *
  generalize up (sval na A) x l = za at *
  generalize up (sval nb B) y l = zb at *
  obtain ⟨bx1, bx2⟩ := bx
  obtain ⟨by1, by2⟩ := by'
  have hb0 : Below w.heap.size w ((((w.alloc (.cells #[.bool na, .slice ao A.length ca, .int .i64 x] 29)).alloc (.cells #[.bool nb, .slice bo B.length cb, .int .i64 y] 29)).alloc (.cells #[.bool false, .slice none 0 0] 27)).alloc (.cells #[.bool false, .slice none 0 0] 27)) :=
    ((((Below.refl _ _).alloc (Nat.le_refl _) _).alloc (by simp) _).alloc (by simp; omega) _).alloc (by simp; omega) _
  have x1 : Box3 ((((w.alloc (.cells #[.bool na, .slice ao A.length ca, .int .i64 x] 29)).alloc (.cells #[.bool nb, .slice bo B.length cb, .int .i64 y] 29)).alloc (.cells #[.bool false, .slice none 0 0] 27)).alloc (.cells #[.bool false, .slice none 0 0] 27)) (w.heap.size + 1) (.bool nb) (.slice bo B.length cb) (.int .i64 y) := by
    have := ((Box3.new (w.alloc (.cells #[.bool na, .slice ao A.length ca, .int .i64 x] 29)) (.bool nb) (.slice bo B.length cb) (.int .i64 y)).old (.cells #[.bool false, .slice none 0 0] 27)).old (.cells #[.bool false, .slice none 0 0] 27)
    simpa using this
  have x2 : Box2 ((((w.alloc (.cells #[.bool na, .slice ao A.length ca, .int .i64 x] 29)).alloc (.cells #[.bool nb, .slice bo B.length cb, .int .i64 y] 29)).alloc (.cells #[.bool false, .slice none 0 0] 27)).alloc (.cells #[.bool false, .slice none 0 0] 27)) (w.heap.size + 1 + 1) (.bool false) (.slice none 0 0) := by
    have := (Box2.new ((w.alloc (.cells #[.bool na, .slice ao A.length ca, .int .i64 x] 29)).alloc (.cells #[.bool nb, .slice bo B.length cb, .int .i64 y] 29)) (.bool false) (.slice none 0 0)).old (.cells #[.bool false, .slice none 0 0] 27)
    simpa using this
  have x3 : Box2 ((((w.alloc (.cells #[.bool na, .slice ao A.length ca, .int .i64 x] 29)).alloc (.cells #[.bool nb, .slice bo B.length cb, .int .i64 y] 29)).alloc (.cells #[.bool false, .slice none 0 0] 27)).alloc (.cells #[.bool false, .slice none 0 0] 27)) (w.heap.size + 1 + 1 + 1) (.bool false) (.slice none 0 0) := by
    have := Box2.new (((w.alloc (.cells #[.bool na, .slice ao A.length ca, .int .i64 x] 29)).alloc (.cells #[.bool nb, .slice bo B.length cb, .int .i64 y] 29)).alloc (.cells #[.bool false, .slice none 0 0] 27)) (.bool false) (.slice none 0 0)
    simpa using this
  have B0 := hide hb0; have X1 := hide x1; have X2 := hide x2; have X3 := hide x3
  clear hb0 x1 x2 x3
  rcases (show x < y ∨ x = y ∨ y < x by omega) with hxy | hxy | hxy
  all_goals
    first | subst hxy | skip
    go_enter Tryz.func165, Tryz.ntmps165
    go_wp2_with fail
    refine (unhide CA _ _ (hA.below (unhide B0)) (by have := unhide HL; omega)).mono ?_
    rintro r w1 ⟨v1, rfl, ⟨n1, a1, c1, L1, rfl, i1⟩, hb1⟩
    have x1 := (unhide X1).all hb1; have x2 := (unhide X2).all hb1; have x3 := (unhide X3).all hb1
    have b1 := (unhide B0).trans (hb1.mono (unhide B0).size)
    have hs : w.heap.size + 4 ≤ w1.heap.size := by have := hb1.size; simp at this; omega
    have i1' : IsNum (w.heap.size + 4) w1 (.agg #[.bool n1, .slice a1 L1.length c1]) ua := by
      refine IsNum.mono ⟨n1, a1, c1, L1, rfl, i1⟩ (by simp)
    have p0 := x1.c0; have p1 := x1.c1; have p2 := x1.c2
    have q0 := x2.c0; have q1 := x2.c1; have f0 := x2.free 0; have f1 := x2.free 1
    have X1' := hide x1; have X2' := hide x2; have X3' := hide x3; have B1 := hide b1; have I1 := hide i1'
    clear hb1 x1 x2 x3 b1 i1 i1' X1 X2 X3 B0
    have s0 := (unhide X3').c0; have s1 := (unhide X3').c1; have g0 := (unhide X3').free 0; have g1 := (unhide X3').free 1
    rcases unhide HA with ⟨rfl, hu⟩ | rfl
    · have HU := hide hu
      clear HA CA hu
      go_wp2_with fail
      have b2 := below_put2 (unhide B1) (show w.heap.size ≤ w.heap.size + 1 + 1 by omega) (.bool n1) (.slice a1 L1.length c1)
      refine (unhide CB _ _ (hB.below b2) (by have := unhide HL; omega)).mono ?_
      rintro r w2 ⟨v2, rfl, ⟨n2, a2, c2, L2, rfl, i2⟩, hb2⟩
      have hs2 : w.heap.size + 4 ≤ w2.heap.size := by have := hb2.size; simp at this; omega
      have y2 := ((unhide X2').put (.bool n1) (.slice a1 L1.length c1)).all hb2
      have y3 := (((unhide X3').other (p := ⟨w.heap.size + 1 + 1, 0, none⟩) (by simp) (.bool n1)).other (p := ⟨w.heap.size + 1 + 1, 1, none⟩) (by simp) (.slice a1 L1.length c1)).all hb2
      have b3 := b2.trans (hb2.mono b2.size)
      have j1 : IsNum (w.heap.size + 4) w2 (.agg #[.bool n1, .slice a1 L1.length c1]) ua := ((unhide I1).put2 (p := ⟨w.heap.size + 1 + 1, 0, none⟩) (q := ⟨w.heap.size + 1 + 1, 1, none⟩) (by simp) (by simp) (.bool n1) (.slice a1 L1.length c1)).below hb2
      have j2 : IsNum (w.heap.size + 4) w2 (.agg #[.bool n2, .slice a2 L2.length c2]) ub := IsNum.mono ⟨n2, a2, c2, L2, rfl, i2⟩ (by simp; omega)
      clear q0 q1 f0 f1 s0 s1 g0 g1 p0 p1 p2 X1' X2' X3' I1 B1 hb2 i2 CB
      have q0 := y2.c0; have q1 := y2.c1; have f0 := y2.free 0; have f1 := y2.free 1
      have s0 := y3.c0; have s1 := y3.c1; have g0 := y3.free 0; have g1 := y3.free 1
      have B3 := hide b3; have J1 := hide j1; have J2 := hide j2
      have EE := hide (fun u0 u1 v0 v1 => ends_a y2 y3 (by omega) u0 u1 v0 v1)
      clear b2 b3 y2 y3 j1 j2
      rcases unhide HB with ⟨rfl, hv⟩ | rfl
      · have HV := hide hv
        clear HB hv
        go_wp2
        go_region_with fail
        all_goals
          go_wp2
          obtain ⟨E1, E2⟩ := unhide EE (.bool n1) (.slice a1 L1.length c1) (.bool n2) (.slice a2 L2.length c2)
          have z0 := E1.c0; have z1 := E1.c1; have z2 := E2.c0; have z3 := E2.c1
          refine bodyPost_ret (v := .tuple #[.agg #[.bool n1, .slice a1 L1.length c1], .agg #[.bool n2, .slice a2 L2.length c2], .int .i64 0]) (by simp [results, Tryz.results165, go_sem, z0, z1, z2, z3]) rfl ⟨⟨n1, a1, L1.length, c1, n2, a2, L2.length, c2, 0, rfl, ?_, ?_⟩, ?_⟩
          · intro _ _
            rw [← unhide HU, ← unhide HV]
            exact ⟨rfl, ((((((unhide J1).put2 (by simp) (by simp) _ _).put2 (by simp) (by simp) _ _).put2 (by simp) (by simp) _ _).below ((Below.refl _ _).drew)).mono (Nat.zero_le _)), ((((((unhide J2).put2 (by simp) (by simp) _ _).put2 (by simp) (by simp) _ _).put2 (by simp) (by simp) _ _).below ((Below.refl _ _).drew)).mono (Nat.zero_le _))⟩
          · intro h; exact absurd ⟨rfl, rfl⟩ h
          · exact (below_put2 (below_put2 (below_put2 (unhide B3) (by omega) _ _) (by omega) _ _) (by omega) _ _).drew
      · clear HB
        go_wp2
        go_region_with fail
        all_goals
          go_wp2
          obtain ⟨E1, E2⟩ := unhide EE (.bool n1) (.slice a1 L1.length c1) (.bool n2) (.slice a2 L2.length c2)
          have z0 := E1.c0; have z1 := E1.c1; have z2 := E2.c0; have z3 := E2.c1
          refine bodyPost_ret (v := .tuple #[.agg #[.bool n1, .slice a1 L1.length c1], .agg #[.bool n2, .slice a2 L2.length c2], .int .i64 2]) (by simp [results, Tryz.results165, go_sem, z0, z1, z2, z3]) rfl ⟨⟨n1, a1, L1.length, c1, n2, a2, L2.length, c2, 2, rfl, ?_, fun _ => rfl⟩, ?_⟩
          · intro _ h; exact absurd h (by decide)
          · exact (below_put2 (below_put2 (below_put2 (unhide B3) (by omega) _ _) (by omega) _ _) (by omega) _ _).drew
    · clear HA HB CA CB
      go_wp2
      go_region_with fail
      all_goals
        go_wp2
        obtain ⟨E1, E2⟩ := ends_b (unhide X2') (unhide X3') (by omega) (.bool n1) (.slice a1 L1.length c1) (.bool false) (.slice none 0 0)
        have z0 := E1.c0; have z1 := E1.c1; have z2 := E2.c0; have z3 := E2.c1
        refine bodyPost_ret (v := .tuple #[.agg #[.bool n1, .slice a1 L1.length c1], .agg #[.bool false, .slice none 0 0], .int .i64 2]) (by simp [results, Tryz.results165, go_sem, z0, z1, z2, z3]) rfl ⟨⟨n1, a1, L1.length, c1, false, none, 0, 0, 2, rfl, ?_, fun _ => rfl⟩, ?_⟩
        · intro h; exact absurd h (by decide)
        · exact (below_put2 (below_put2 (below_put2 (unhide B1) (by omega) _ _) (by omega) _ _) (by omega) _ _).drew

end Go.Proofs.YtfnnbkclnflpfaaGreatDoor

