/- Part 14 of the texts. -/
import Derived.Test.YtgegjhkiiejhlaaDoorPart13
/- Contract of align. -/
namespace Go.Proofs.YtgegjhkiiejhlaaDoor
open Go.RowKit
attribute [local go_sem ↓] Go.wp_at_zero Go.wp_at_succ

/-- A number written with a lesser power: s times 2^(x - l). -/
def up (s x l : Int) : Int := s * 2 ^ (x - l).toNat

theorem shV_upto (na : Bool) (A : List Nat) (n : Int) (h : 0 ≤ n) : shV na A n = sval na A * 2 ^ n.toNat := by
  rw [shV_shF, sval_sg]
  unfold shF
  rw [if_pos h]
  unfold sg
  cases na
  · simp
  · simp [Int.neg_mul]

/-- What a shift up answers: err, number. -/
def upE (s x l : Int) : Int := if (up s x l).natAbs < TOP ∧ x - l ≤ 16384 then 0 else 2
def upN (s x l : Int) : Int := if (up s x l).natAbs < TOP ∧ x - l ≤ 16384 then up s x l else 0

theorem shift_up (na : Bool) (A : List Nat) (x l : Int) (hr : rightB na A = true) (h : l ≤ x) : shE na A (x - l) = upE (sval na A) x l ∧ shN na A (x - l) = upN (sval na A) x l := by
  unfold shE shN shOk upE upN
  rw [hr, shV_upto na A (x - l) (by omega)]
  change (if (true && decide (-16384 ≤ x - l ∧ x - l ≤ 16384)) = true then errOf (up (sval na A) x l) else if true = true then 2 else 1) = _ ∧ (if (true && decide (-16384 ≤ x - l ∧ x - l ≤ 16384)) = true then numOf (up (sval na A) x l) else 0) = _
  rw [Bool.true_and]
  by_cases h1 : x - l ≤ 16384
  · rw [if_pos (decide_eq_true (show -16384 ≤ x - l ∧ x - l ≤ 16384 by omega)), if_pos (decide_eq_true (show -16384 ≤ x - l ∧ x - l ≤ 16384 by omega))]
    unfold errOf numOf
    by_cases h2 : (up (sval na A) x l).natAbs < TOP
    · rw [if_pos h2, if_pos h2, if_pos ⟨h2, h1⟩, if_pos ⟨h2, h1⟩]; exact ⟨rfl, rfl⟩
    · rw [if_neg h2, if_neg h2, if_neg (fun h => h2 h.1), if_neg (fun h => h2 h.1)]; exact ⟨rfl, rfl⟩
  · have hd : decide (-16384 ≤ x - l ∧ x - l ≤ 16384) = false := decide_eq_false (by omega)
    rw [hd, if_neg (show ¬ ((up (sval na A) x l).natAbs < TOP ∧ x - l ≤ 16384) from fun h => h1 h.2), if_neg (show ¬ ((up (sval na A) x l).natAbs < TOP ∧ x - l ≤ 16384) from fun h => h1 h.2)]
    exact ⟨by simp, by simp⟩

theorem up_cases (s x l : Int) : (upE s x l = 0 ∧ upN s x l = up s x l) ∨ upE s x l = 2 := by
  unfold upE upN
  by_cases h : (up s x l).natAbs < TOP ∧ x - l ≤ 16384
  · rw [if_pos h, if_pos h]; exact .inl ⟨rfl, rfl⟩
  · rw [if_neg h]; exact .inr rfl

theorem IsNum.put2 {B : Nat} {w : World} {v : Value} {x : Int} (h : IsNum B w v x) {p q : Addr} (hp : p.block < B) (hq : q.block < B) (u u' : Value) : IsNum B ((w.setCell p u).setCell q u') v x := by
  obtain ⟨n, ao, cap, L, rfl, h1, h2, h3⟩ := h
  exact ⟨n, ao, cap, L, rfl, (h1.store h2 hp u).store h2 hq u', h2, h3⟩

theorem below_put2 {w w' : World} {B b : Nat} (h : Below B w w') (hb : B ≤ b) (u u' : Value) : Below B w ((w'.setCell ⟨b, 0, none⟩ u).setCell ⟨b, 1, none⟩ u') :=
  (h.setCell hb _).setCell hb _

theorem ends_a {w : World} {b c : Nat} {x0 x1 y0 y1 : Value} (h2 : Box2 w b x0 x1) (h3 : Box2 w c y0 y1) (hne : b ≠ c) (u0 u1 v0 v1 : Value) :
    Box2 ((((((w.setCell ⟨c, 0, none⟩ v0).setCell ⟨c, 1, none⟩ v1).setCell ⟨b, 0, none⟩ u0).setCell ⟨b, 1, none⟩ u1).setCell ⟨c, 0, none⟩ v0).setCell ⟨c, 1, none⟩ v1) b u0 u1 ∧
    Box2 ((((((w.setCell ⟨c, 0, none⟩ v0).setCell ⟨c, 1, none⟩ v1).setCell ⟨b, 0, none⟩ u0).setCell ⟨b, 1, none⟩ u1).setCell ⟨c, 0, none⟩ v0).setCell ⟨c, 1, none⟩ v1) c v0 v1 :=
  ⟨((((h2.other (p := ⟨c, 0, none⟩) hne v0).other (p := ⟨c, 1, none⟩) hne v1).put u0 u1).other (p := ⟨c, 0, none⟩) hne v0).other (p := ⟨c, 1, none⟩) hne v1,
   (((h3.put v0 v1).other (p := ⟨b, 0, none⟩) (Ne.symm hne) u0).other (p := ⟨b, 1, none⟩) (Ne.symm hne) u1).put v0 v1⟩

theorem ends_b {w : World} {b c : Nat} {x0 x1 y0 y1 : Value} (h2 : Box2 w b x0 x1) (h3 : Box2 w c y0 y1) (hne : b ≠ c) (u0 u1 v0 v1 : Value) :
    Box2 ((((((w.setCell ⟨b, 0, none⟩ u0).setCell ⟨b, 1, none⟩ u1).setCell ⟨b, 0, none⟩ u0).setCell ⟨b, 1, none⟩ u1).setCell ⟨c, 0, none⟩ v0).setCell ⟨c, 1, none⟩ v1) b u0 u1 ∧
    Box2 ((((((w.setCell ⟨b, 0, none⟩ u0).setCell ⟨b, 1, none⟩ u1).setCell ⟨b, 0, none⟩ u0).setCell ⟨b, 1, none⟩ u1).setCell ⟨c, 0, none⟩ v0).setCell ⟨c, 1, none⟩ v1) c v0 v1 :=
  ⟨(((h2.put u0 u1).put u0 u1).other (p := ⟨c, 0, none⟩) hne v0).other (p := ⟨c, 1, none⟩) hne v1,
   ((((h3.other (p := ⟨b, 0, none⟩) (Ne.symm hne) u0).other (p := ⟨b, 1, none⟩) (Ne.symm hne) u1).other (p := ⟨b, 0, none⟩) (Ne.symm hne) u0).other (p := ⟨b, 1, none⟩) (Ne.symm hne) u1).put v0 v1⟩

/-- What align answers: the two numbers, or an error. -/
def AlignR (w' : World) (r : Ending) (ea eb za zb : Int) : Prop :=
  ∃ (n1 : Bool) (a1 : Option Addr) (l1 c1 : Nat) (n2 : Bool) (a2 : Option Addr) (l2 c2 : Nat) (er : Int), r = .returned (.tuple #[.agg #[.bool n1, .slice a1 l1 c1], .agg #[.bool n2, .slice a2 l2 c2], .int .i64 er]) ∧ (ea = 0 → eb = 0 → er = 0 ∧ IsNum 0 w' (.agg #[.bool n1, .slice a1 l1 c1]) za ∧ IsNum 0 w' (.agg #[.bool n2, .slice a2 l2 c2]) zb) ∧ (¬ (ea = 0 ∧ eb = 0) → er = 2)

end Go.Proofs.YtgegjhkiiejhlaaDoor

/- Contract of addRight. -/
namespace Go.Proofs.YtgegjhkiiejhlaaDoor
open Go.RowKit
attribute [local go_sem ↓] Go.wp_at_zero Go.wp_at_succ

/-- The lesser power of two numbers; of one that is 0 the other one's. -/
def lowE (sa x sb y : Int) : Int := if sa = 0 then y else if sb = 0 then x else min x y
/-- The sum, before that power. -/
def sumZ (sa x sb y : Int) : Int := up sa x (lowE sa x sb y) + up sb y (lowE sa x sb y)
/-- Is neither too wide with the lesser power, nor the sum? -/
def fitsB (sa x sb y : Int) : Bool := decide (upE sa x (lowE sa x sb y) = 0 ∧ upE sb y (lowE sa x sb y) = 0 ∧ (sumZ sa x sb y).natAbs < TOP)
def adE (sa x sb y : Int) : Int := if fitsB sa x sb y then dErr (sumZ sa x sb y) (lowE sa x sb y) else 2
def adM (sa x sb y : Int) : Int := if fitsB sa x sb y then dM (sumZ sa x sb y) (lowE sa x sb y) else 0
def adX (sa x sb y : Int) : Int := if fitsB sa x sb y then dX (sumZ sa x sb y) (lowE sa x sb y) else 0

/-- A dyadic number and an error come back. -/
def DyR (w' : World) (r : Ending) (er m e : Int) : Prop := ∃ v, r = .returned (.tuple #[v, .int .i64 er]) ∧ IsDy w' v m e

theorem sval_zero_iff {n : Bool} {L : List Nat} (h : rightB n L = true) : sval n L = 0 ↔ L.length = 0 := by
  have hc := (right_canon h).2.1
  constructor
  · intro e
    have : val L = 0 := by rw [← natAbs_sval n L, e]; rfl
    rw [(val_zero_of_canon L hc).1 this]; rfl
  · intro e
    have : L = [] := List.length_eq_zero_iff.1 e
    rw [this, sval_nil]

theorem sval_TOP {w : World} {ao : Option Addr} {cap : Nat} {n : Bool} {L : List Nat} (h : LimbsAt w ao cap L) (hr : rightB n L = true) : (sval n L).natAbs < TOP := by
  rw [natAbs_sval]; exact (val_lt_TOP L h.2.1 (right_canon hr).2.1).2 (right_canon hr).1

theorem up_zero (x l : Int) : up 0 x l = 0 := by simp [up]
theorem up_self (s x : Int) : up s x x = s := by simp [up]

theorem upE_ok (s x l : Int) (h1 : (up s x l).natAbs < TOP) (h2 : x - l ≤ 16384) : upE s x l = 0 := by unfold upE; rw [if_pos ⟨h1, h2⟩]
theorem upE_TOP {s x l : Int} (h : upE s x l = 0) : (up s x l).natAbs < TOP := by
  unfold upE at h
  by_cases h1 : (up s x l).natAbs < TOP ∧ x - l ≤ 16384
  · exact h1.1
  · rw [if_neg h1] at h; exact absurd h (by decide)

theorem add_zero_l (sb y : Int) (hy : -16384 ≤ y ∧ y ≤ 16384) (hs : sb.natAbs < TOP) : adE 0 0 sb y = dErr sb y ∧ adM 0 0 sb y = dM sb y ∧ adX 0 0 sb y = dX sb y := by
  have hl : lowE 0 0 sb y = y := by simp [lowE]
  have hz : sumZ 0 0 sb y = sb := by unfold sumZ; rw [hl, up_zero, up_self]; omega
  have hf : fitsB 0 0 sb y = true := by
    unfold fitsB
    rw [hl, hz]
    exact decide_eq_true ⟨upE_ok _ _ _ (by rw [up_zero]; exact TOP_pos) (by omega), upE_ok _ _ _ (by rw [up_self]; exact hs) (by omega), hs⟩
  unfold adE adM adX
  rw [hf, hl, hz]
  exact ⟨rfl, rfl, rfl⟩

theorem add_zero_r (sa x : Int) (hx : -16384 ≤ x ∧ x ≤ 16384) (hs : sa.natAbs < TOP) (h0 : sa ≠ 0) : adE sa x 0 0 = dErr sa x ∧ adM sa x 0 0 = dM sa x ∧ adX sa x 0 0 = dX sa x := by
  have hl : lowE sa x 0 0 = x := by simp [lowE, h0]
  have hz : sumZ sa x 0 0 = sa := by unfold sumZ; rw [hl, up_zero, up_self]; omega
  have hf : fitsB sa x 0 0 = true := by
    unfold fitsB
    rw [hl, hz]
    exact decide_eq_true ⟨upE_ok _ _ _ (by rw [up_self]; exact hs) (by omega), upE_ok _ _ _ (by rw [up_zero]; exact TOP_pos) (by omega), hs⟩
  unfold adE adM adX
  rw [hf, hl, hz]
  exact ⟨rfl, rfl, rfl⟩

theorem lowE_ne (sa x sb y : Int) (ha : sa ≠ 0) (hb : sb ≠ 0) : lowE sa x sb y = min x y := by unfold lowE; rw [if_neg ha, if_neg hb]

/-- The ways that a sum of two numbers that are not 0 goes. -/
theorem add_ways (sa x sb y l z : Int) (hl : lowE sa x sb y = l) (hz : sumZ sa x sb y = z) :
    (upE sa x l = 0 ∧ upE sb y l = 0 ∧ z.natAbs < TOP ∧ adE sa x sb y = dErr z l ∧ adM sa x sb y = dM z l ∧ adX sa x sb y = dX z l) ∨
    (upE sa x l = 0 ∧ upE sb y l = 0 ∧ ¬ z.natAbs < TOP ∧ adE sa x sb y = 2 ∧ adM sa x sb y = 0 ∧ adX sa x sb y = 0) ∨
    (¬ (upE sa x l = 0 ∧ upE sb y l = 0) ∧ adE sa x sb y = 2 ∧ adM sa x sb y = 0 ∧ adX sa x sb y = 0) := by
  unfold adE adM adX fitsB
  rw [hl, hz]
  by_cases h1 : upE sa x l = 0 ∧ upE sb y l = 0
  · by_cases h2 : z.natAbs < TOP
    · left
      rw [decide_eq_true (show upE sa x l = 0 ∧ upE sb y l = 0 ∧ z.natAbs < TOP from ⟨h1.1, h1.2, h2⟩)]
      exact ⟨h1.1, h1.2, h2, rfl, rfl, rfl⟩
    · right; left
      rw [decide_eq_false (show ¬ (upE sa x l = 0 ∧ upE sb y l = 0 ∧ z.natAbs < TOP) from fun h => h2 h.2.2)]
      exact ⟨h1.1, h1.2, h2, rfl, rfl, rfl⟩
  · right; right
    rw [decide_eq_false (show ¬ (upE sa x l = 0 ∧ upE sb y l = 0 ∧ z.natAbs < TOP) from fun h => h1 ⟨h.1, h.2.1⟩)]
    exact ⟨h1, rfl, rfl, rfl⟩

end Go.Proofs.YtgegjhkiiejhlaaDoor

/- The law DyadicChecks, walked. -/
namespace Go.Proofs.YtgegjhkiiejhlaaDoor
open Go.RowKit
attribute [local go_sem ↓] Go.wp_at_zero Go.wp_at_succ

theorem drB_bounds {neg : Bool} {L : List Nat} {e : Int} (h : drB neg L e = true) : rightB neg L = true ∧ L.length ≤ 512 ∧ -16384 ≤ e ∧ e ≤ 16384 ∧ (L.length = 0 → e = 0) := by
  unfold drB at h
  rw [Bool.and_eq_true] at h
  obtain ⟨h1, h2⟩ := h
  refine ⟨h1, (right_canon h1).1, ?_⟩
  by_cases h0 : L.length = 0
  · rw [if_pos h0] at h2
    have := of_decide_eq_true h2
    omega
  · rw [if_neg h0, Bool.and_eq_true] at h2
    have := of_decide_eq_true h2.2
    omega

theorem top_same {neg : Bool} {L : List Nat} {e : Int} (h : drB neg L e = true) : IntKind.i64.wrap (lenL L + e) = topR L e := by
  obtain ⟨_, h1, h2, h3, h4⟩ := drB_bounds h
  unfold topR
  by_cases h0 : L.length = 0
  · rw [if_pos h0, h4 h0]
    unfold lenL
    rw [if_pos h0]
    rfl
  · rw [if_neg h0]
    unfold lenL
    rw [if_neg h0]
    have := bitLen_le (L[L.length - 1]?.getD 0)
    exact wrap_small _ (by omega)

end Go.Proofs.YtgegjhkiiejhlaaDoor

/- Contracts of dyadic's Add, Sub, Mul, Scale. -/
namespace Go.Proofs.YtgegjhkiiejhlaaDoor
open Go.RowKit
attribute [local go_sem ↓] Go.wp_at_zero Go.wp_at_succ

theorem neg_right {n : Bool} {L : List Nat} (h : rightB n L = true) : rightB (!n && !decide (L.length = 0)) L = true ∧ sval (!n && !decide (L.length = 0)) L = - sval n L := by
  by_cases h0 : L.length = 0
  · have : L = [] := List.length_eq_zero_iff.1 h0
    subst this
    have hn : n = false := by cases n with
      | false => rfl
      | true => exact absurd rfl ((right_canon h).2.2 rfl)
    subst hn
    simp [rightB, sval_nil]
  · rw [decide_eq_false h0]
    simp only [Bool.not_false, Bool.and_true]
    refine ⟨?_, sval_not n L⟩
    unfold rightB at h ⊢
    rw [decide_eq_false h0] at h ⊢
    simpa using h


end Go.Proofs.YtgegjhkiiejhlaaDoor

/- Contracts of dyadic's Mul, Scale. -/
namespace Go.Proofs.YtgegjhkiiejhlaaDoor
open Go.RowKit
attribute [local go_sem ↓] Go.wp_at_zero Go.wp_at_succ

end Go.Proofs.YtgegjhkiiejhlaaDoor

