/- Contract of Shift. -/
import Derived.Test.YtiebegjgaflfiaaH2
import Derived.Test.YtiebegjgaflfiaaWB
namespace Go.Proofs.Ytiebegjgaflfiaa
open Go.RowKit
attribute [local go_sem ↓] Go.wp_at_zero Go.wp_at_succ

/-- A size with a sign. -/
def sg (neg : Bool) (v : Nat) : Int := if neg then -(v : Int) else (v : Int)
theorem sval_sg (neg : Bool) (L : List Nat) : sval neg L = sg neg (val L) := rfl
/-- A number times 2^n, without what is behind the point. -/
def shV (neg : Bool) (L : List Nat) (n : Int) : Int := sg neg (if 0 ≤ n then val L * 2 ^ n.toNat else val L / 2 ^ (-n).toNat)
def shOk (neg : Bool) (L : List Nat) (n : Int) : Bool := rightB neg L && decide (-16384 ≤ n ∧ n ≤ 16384)
def shE (neg : Bool) (L : List Nat) (n : Int) : Int := if shOk neg L n then errOf (shV neg L n) else if rightB neg L then 2 else 1
def shN (neg : Bool) (L : List Nat) (n : Int) : Int := if shOk neg L n then numOf (shV neg L n) else 0

theorem shV_up (neg : Bool) (A L : List Nat) (l p : Nat) (n : Int) (hn : n = 32 * (l : Int) + (p : Int)) (h : val L = 4294967296 ^ l * 2 ^ p * val A) : sval neg L = shV neg A n := by
  rw [sval_sg, h, two_pow_32]
  unfold shV
  rw [if_pos (by omega), show n.toNat = 32 * l + p by omega, Nat.mul_comm]
theorem shV_down (neg : Bool) (A L : List Nat) (l p : Nat) (n : Int) (h0 : n < 0) (hn : -n = 32 * (l : Int) + (p : Int)) (h : val L = val A / (4294967296 ^ l * 2 ^ p)) : sval neg L = shV neg A n := by
  rw [sval_sg, h, two_pow_32]
  unfold shV
  rw [if_neg (by omega), show (-n).toNat = 32 * l + p by omega]

set_option maxHeartbeats 2000000 in
theorem shift_any (na : Bool) (ao : Option Addr) (ca : Nat) (A : List Nat) (n : Int) (w : World) (hA : LimbsAt w ao ca A) (la : A.length ≤ 35184372088830) (bn : -9223372036854775808 ≤ n ∧ n ≤ 9223372036854775807) :
    Calls Try.prog 24 #[.agg #[.bool na, .slice ao A.length ca], .int .i64 n] w fun e w' => ∃ v, e = .returned (.tuple #[v, .int .i64 (shE na A n)]) ∧ IsNum w.heap.size w' v (shN na A n) ∧ Below w.heap.size w w' := by
  have hC1 : rightB na A = false → chkE na A = 1 ∧ shE na A n = 1 ∧ shN na A n = 0 := fun h => by simp [chkE, shE, shN, shOk, h]
  have hC2 : rightB na A = true → ¬ (-16384 ≤ n ∧ n ≤ 16384) → chkE na A = 0 ∧ shE na A n = 2 ∧ shN na A n = 0 := fun h h' => by simp only [chkE, shE, shN, shOk, h, decide_eq_false h']; simp
  have hC3 : rightB na A = true → (-16384 ≤ n ∧ n ≤ 16384) → chkE na A = 0 ∧ A.length ≤ 512 ∧ shE na A n = errOf (shV na A n) ∧ shN na A n = numOf (shV na A n) := fun h h' => by
    refine ⟨by simp [chkE, h], (right_canon h).1, ?_, ?_⟩
    · unfold shE shOk; rw [h, decide_eq_true h', Bool.and_self, if_pos rfl]
    · unfold shN shOk; rw [h, decide_eq_true h', Bool.and_self, if_pos rfl]
  have hUp := fun (L : List Nat) (l p : Nat) => shV_up na A L l p n
  have hDn := fun (L : List Nat) (l p : Nat) => shV_down na A L l p n
  have HC1 := hide hC1; have HC2 := hide hC2; have HC3 := hide hC3; have HUp := hide hUp; have HDn := hide hDn
  have hck := fun w' h' => check_any na ao ca A w' h' la
  have HCK := hide hck
  clear hC1 hC2 hC3 hUp hDn hck
  generalize shV na A n = z at *
  generalize shE na A n = er at *
  generalize shN na A n = nu at *
  generalize chkE na A = ck at *
  generalize rightB na A = rb at *
  go_enter Try.func24, Try.ntmps24
  go_wp2_with fail
  have hb0 : Below w.heap.size w ((w.alloc (.cells #[.bool na, .slice ao A.length ca] 24)).alloc (.cells #[.bool false, .slice none 0 0] 24)) := ((Below.refl _ _).alloc (Nat.le_refl _) _).alloc (by simp) _
  refine (unhide HCK _ (hA.below hb0)).mono ?_
  rintro e w1 ⟨rfl, hb1⟩
  have hs1 : w.heap.size + 2 ≤ w1.heap.size := by have := hb1.size; simpa using this
  have hb2 : Below w.heap.size w w1 := hb0.trans (hb1.mono (by simp; omega))
  have x0 : Box2 w1 w.heap.size (.bool na) (.slice ao A.length ca) := ((Box2.new _ _ _).old _).below hb1 (by simp; omega)
  have r2 : Box2 w1 (w.heap.size + 1) (.bool false) (.slice none 0 0) := by
    have := Box2.new (w.alloc (.cells #[.bool na, .slice ao A.length ca] 24)) (.bool false) (.slice none 0 0)
    exact Box2.below (by simpa using this) hb1 (by simp)
  have p0 := x0.c0; have p1 := x0.c1
  clear hb1 hb0 HCK
  cases rb
  · obtain ⟨c1, c2, c3⟩ := unhide HC1 rfl
    have HT := hide (And.intro c2 c3)
    rw [c1]
    have y0 := r2.c0; have y1 := r2.c1; have f0 := r2.free 0; have f1 := r2.free 1
    clear HC1 HC2 HC3 HUp HDn c1 c2 c3
    go_wp2
    refine bodyPost_ret (v := .tuple #[.agg #[.bool false, .slice none 0 0], .int .i64 1]) (by simp [results, Try.results24, go_sem, y0, y1]) rfl ⟨.agg #[.bool false, .slice none 0 0], by rw [(unhide HT).1], by rw [(unhide HT).2]; exact IsNum.zero _ _ _ _, ?_⟩
    exact (hb2.setCell (by simp) _).setCell (by simp) _
  by_cases hin : -16384 ≤ n ∧ n ≤ 16384
  case neg =>
    obtain ⟨c1, c2, c3⟩ := unhide HC2 rfl hin
    have HT := hide (And.intro c2 c3)
    rw [c1]
    have y0 := r2.c0; have y1 := r2.c1; have f0 := r2.free 0; have f1 := r2.free 1
    clear HC1 HC2 HC3 HUp HDn c1 c2 c3
    rcases (show n < -16384 ∨ (¬ n < -16384 ∧ 16384 < n) by omega) with hx | ⟨hx, hx'⟩
    all_goals
      go_wp2
      refine bodyPost_ret (v := .tuple #[.agg #[.bool false, .slice none 0 0], .int .i64 2]) (by simp [results, Try.results24, go_sem, y0, y1]) rfl ⟨.agg #[.bool false, .slice none 0 0], by rw [(unhide HT).1], by rw [(unhide HT).2]; exact IsNum.zero _ _ _ _, ?_⟩
      exact (hb2.setCell (by simp) _).setCell (by simp) _
  obtain ⟨c1, c4, c2, c3⟩ := unhide HC3 rfl hin
  have HT := hide (And.intro c2 c3)
  rw [c1]
  obtain ⟨hn1, hn2⟩ := hin
  clear HC1 HC2 HC3 c1 c2 c3
  by_cases hneg : n < 0
  · obtain ⟨l, hl⟩ : ∃ l : Nat, (l : Int) = (-n) / 32 := ⟨((-n) / 32).toNat, by omega⟩
    obtain ⟨p, hp⟩ : ∃ p : Nat, (p : Int) = (-n) % 32 := ⟨((-n) % 32).toNat, by omega⟩
    have q1 : -n = 32 * (l : Int) + (p : Int) := by omega
    have HSV := hide (fun L h => unhide HDn L l p hneg q1 h)
    have q2 : p ≤ 31 := by omega
    have q3 : l ≤ 512 := by omega
    have q4 : n = -(32 * (l : Int) + (p : Int)) := by omega
    have Q4 := hide q4
    have hwn : IntKind.i64.wrap (-n) = -n := by
      simp only [IntKind.wrap, IntKind.signed, IntKind.bits]
      simp
      omega
    clear HUp HDn hl hp q1 q4
    go_wp2
    refine at_world (fun W => W = w1) rfl ?_
    rintro W0 e0
    subst e0
    have hK : ∀ w', Below (w.heap.size + 1) W0 w' → Below (w.heap.size + 1) W0 w' ∧ w'.cell? ⟨w.heap.size, 0, none⟩ = some (.bool na) ∧ w'.cell? ⟨w.heap.size, 1, none⟩ = some (.slice ao A.length ca) := fun w' h =>
      ⟨h, (x0.below h (by omega)).c0, (x0.below h (by omega)).c1⟩
    have HK := hide hK
    have HA := hide (hA.below hb2)
    have X2 := hide r2
    have HW0 := hide hb2
    clear hK hA x0 r2 hb2 p0 p1
    go_region_held3 (fun w' => Below (w.heap.size + 1) W0 w' ∧ w'.cell? ⟨w.heap.size, 0, none⟩ = some (.bool na) ∧ w'.cell? ⟨w.heap.size, 1, none⟩ = some (.slice ao A.length ca))
      (first | exact unhide HK _ (Below.refl _ _).drew | exact unhide HK _ (by assumption) | exact unhide HK _ ((hB2.setCell (by simp) _).setCell (by simp) _))
      (first | (go_at_call 43; refine (shiftDown_any ao ca A l p _ _ ((unhide HA).below ((Below.refl _ _).drew)) (by omega) (by have := unhide Q4; omega) (by omega) (by omega)).mono ?_; rintro e w3 ⟨ao', cap', L', rfl, g1, g2, g3, g4, hb1⟩; have hB1 : Below (w.heap.size + 1) W0 w3 := ((Below.refl _ _).drew).trans (hb1.mono (by simp; omega)); have X3 := hide ((unhide X2).drew.below hb1 (by simp; omega)); have G1 := hide g1; have G2 := hide g2; have G4 := hide g4; have L4 : L'.length ≤ 35184372088832 := (by omega); have s1 := hb1.size; clear g1 g2 g4 g3 hb1) | (go_at_call 40; refine (fit_any _ na _ _ _ _ (unhide G1) (unhide G2) L4).mono ?_; rintro e w4 ⟨v, rfl, ⟨n2, a2, c2, L2, rfl, i1⟩, hb2⟩; have hB2 : Below (w.heap.size + 1) W0 w4 := hB1.trans (hb2.mono (by simp at s1; omega)); have X4 := (unhide X3).below hb2 (by simp at s1; omega); have y0 := X4.c0; have y1 := X4.c1; have f0 := X4.free 0; have f1 := X4.free 1; have I1 := hide i1; clear i1 hb2 X4))
    have hz := unhide HSV L' (unhide G4)
    have HI := hide (hz ▸ unhide I1)
    have HE := hide (show errOf (sval na L') = errOf z by rw [hz])
    clear hz
    go_wp2
    refine bodyPost_ret (v := .tuple #[.agg #[.bool n2, .slice a2 L2.length c2], .int .i64 (errOf (sval na L'))]) (by simp [results, Try.results24, go_sem, y0, y1]) rfl ⟨.agg #[.bool n2, .slice a2 L2.length c2], ?_, ?_, ?_⟩
    · rw [(unhide HT).1, unhide HE]
    · rw [(unhide HT).2]; exact IsNum.stored (unhide HI) (by simp; omega) (by simp; omega) (by simp; omega) _ _
    · exact (((unhide HW0).trans (hB2.mono (by omega))).setCell (by simp) _).setCell (by simp) _
  · obtain ⟨l, hl⟩ : ∃ l : Nat, (l : Int) = n / 32 := ⟨(n / 32).toNat, by omega⟩
    obtain ⟨p, hp⟩ : ∃ p : Nat, (p : Int) = n % 32 := ⟨(n % 32).toNat, by omega⟩
    have q1 : n = 32 * (l : Int) + (p : Int) := by omega
    have HSV := hide (fun L h => unhide HUp L l p q1 h)
    have q2 : p ≤ 31 := by omega
    have q3 : l ≤ 512 := by omega
    have Q4 := hide q1
    clear HUp HDn hl hp q1
    go_wp2
    refine at_world (fun W => W = w1) rfl ?_
    rintro W0 e0
    subst e0
    have hK : ∀ w', Below (w.heap.size + 1) W0 w' → Below (w.heap.size + 1) W0 w' ∧ w'.cell? ⟨w.heap.size, 0, none⟩ = some (.bool na) ∧ w'.cell? ⟨w.heap.size, 1, none⟩ = some (.slice ao A.length ca) := fun w' h =>
      ⟨h, (x0.below h (by omega)).c0, (x0.below h (by omega)).c1⟩
    have HK := hide hK
    have HA := hide (hA.below hb2)
    have X2 := hide r2
    have HW0 := hide hb2
    clear hK hA x0 r2 hb2 p0 p1
    go_region_held3 (fun w' => Below (w.heap.size + 1) W0 w' ∧ w'.cell? ⟨w.heap.size, 0, none⟩ = some (.bool na) ∧ w'.cell? ⟨w.heap.size, 1, none⟩ = some (.slice ao A.length ca))
      (first | exact unhide HK _ (Below.refl _ _).drew | exact unhide HK _ (by assumption) | exact unhide HK _ ((hB2.setCell (by simp) _).setCell (by simp) _))
      (first | (go_at_call 44; refine (shiftUp_any ao ca A l p _ _ ((unhide HA).below ((Below.refl _ _).drew)) (by omega) (by have := unhide Q4; omega) (by omega) (by omega)).mono ?_; rintro e w3 ⟨ao', cap', L', rfl, g1, g2, g3, g4, hb1⟩; have hB1 : Below (w.heap.size + 1) W0 w3 := ((Below.refl _ _).drew).trans (hb1.mono (by simp; omega)); have X3 := hide ((unhide X2).drew.below hb1 (by simp; omega)); have G1 := hide g1; have G2 := hide g2; have G4 := hide g4; have L4 : L'.length ≤ 35184372088832 := (by omega); have s1 := hb1.size; clear g1 g2 g4 g3 hb1) | (go_at_call 40; refine (fit_any _ na _ _ _ _ (unhide G1) (unhide G2) L4).mono ?_; rintro e w4 ⟨v, rfl, ⟨n2, a2, c2, L2, rfl, i1⟩, hb2⟩; have hB2 : Below (w.heap.size + 1) W0 w4 := hB1.trans (hb2.mono (by simp at s1; omega)); have X4 := (unhide X3).below hb2 (by simp at s1; omega); have y0 := X4.c0; have y1 := X4.c1; have f0 := X4.free 0; have f1 := X4.free 1; have I1 := hide i1; clear i1 hb2 X4))
    have hz := unhide HSV L' (unhide G4)
    have HI := hide (hz ▸ unhide I1)
    have HE := hide (show errOf (sval na L') = errOf z by rw [hz])
    clear hz
    go_wp2
    refine bodyPost_ret (v := .tuple #[.agg #[.bool n2, .slice a2 L2.length c2], .int .i64 (errOf (sval na L'))]) (by simp [results, Try.results24, go_sem, y0, y1]) rfl ⟨.agg #[.bool n2, .slice a2 L2.length c2], ?_, ?_, ?_⟩
    · rw [(unhide HT).1, unhide HE]
    · rw [(unhide HT).2]; exact IsNum.stored (unhide HI) (by simp; omega) (by simp; omega) (by simp; omega) _ _
    · exact (((unhide HW0).trans (hB2.mono (by omega))).setCell (by simp) _).setCell (by simp) _

end Go.Proofs.Ytiebegjgaflfiaa
