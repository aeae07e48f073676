/- Part 18 of the texts. -/
import Derived.Test.YtnpogpoknbgodaaPart17
import Derived.Test.YtnpogpoknbgodaaPart15
import Derived.Test.YtnpogpoknbgodaaPart16
import Derived.Deep.Cut
import Derived.Test.YtnpogpoknbgodaaChecked
import Derived.Test.YtnpogpoknbgodaaPart02
import Derived.ProofKit
import Derived.SizedLaws
import Derived.Lib.SmallJoins
import Derived.Test.YtnpogpoknbgodaaPart05
import Derived.Deep.SlicePairs
/- Rows of the call's own: exchanged, taken off crosswise (for the reference's Rank). -/
namespace Go.Proofs.Ytnpogpoknbgodaa
open Go.RowKit
attribute [local go_sem ↓] Go.wp_at_zero Go.wp_at_succ

theorem lt_TOPk {v k : Nat} (h : v < 2 ^ k) (hk : k ≤ 32 * TOPN) : v < TOP := by
  have e : TOP = 2 ^ (32 * TOPN) := by unfold TOP; rw [show (4294967296 : Nat) = 2 ^ 32 by decide, ← Nat.pow_mul]
  rw [e]
  exact Nat.lt_of_lt_of_le h (Nat.pow_le_pow_right (by decide) hk)

theorem KK_two (c : Nat) (h : c ≤ 5) : 2 * KK c ≤ 32 * TOPN := by
  have := KK_le ⟨c, by omega⟩
  have h2 : KK c ≤ 4159 := this
  unfold TOPN
  omega
theorem KK_mono (c : Nat) : KK c ≤ KK (c + 1) := by show KK c ≤ 2 * KK c + 1; omega

theorem mul_KK {x y : Int} {K : Nat} (h1 : x.natAbs < 2 ^ K) (h2 : y.natAbs < 2 ^ K) : (x * y).natAbs < 2 ^ (2 * K) := by
  rw [Int.natAbs_mul, show 2 * K = K + K by omega, Nat.pow_add]
  rcases Nat.eq_zero_or_pos x.natAbs with e | e
  · rw [e, Nat.zero_mul]; exact Nat.mul_pos (Nat.two_pow_pos _) (Nat.two_pow_pos _)
  · exact Nat.lt_of_lt_of_le (Nat.mul_lt_mul_of_pos_left h2 e) (Nat.mul_le_mul_right _ (Nat.le_of_lt h1))
theorem cross_KK {x y z u : Int} {c : Nat} (h1 : x.natAbs < 2 ^ KK c) (h2 : y.natAbs < 2 ^ KK c) (h3 : z.natAbs < 2 ^ KK c) (h4 : u.natAbs < 2 ^ KK c) : (x * y - z * u).natAbs < 2 ^ KK (c + 1) := by
  have a := mul_KK h1 h2
  have b := mul_KK h3 h4
  show _ < 2 ^ (2 * KK c + 1)
  rw [Nat.pow_succ]
  omega

theorem IsNm.ofRight {w : World} {x : Nm} (h : LimbsAt w x.ao x.cap x.L) (hr : rightB x.neg x.L = true) : IsNm w x (sval x.neg x.L) := by
  have hc := right_canon hr
  refine ⟨h, hc.2.1, ?_, (natAbs_sval _ _).symm, by omega⟩
  cases hn : x.neg
  · unfold sval; simp
  · have hv : val x.L ≠ 0 := fun e => hc.2.2 hn ((val_zero_of_canon x.L hc.2.1).1 e)
    unfold sval
    simp; omega

theorem IsNm.nil_iff {w : World} {x : Nm} {z : Int} (h : IsNm w x z) : x.L.length = 0 ↔ z = 0 := by
  constructor
  · intro e
    have e2 : x.L = [] := List.length_eq_zero_iff.1 e
    have := h.2.2.2.1
    rw [e2] at this
    simp [val] at this
    omega
  · intro e
    have := h.2.2.2.1
    rw [e] at this
    have h0 : x.L = [] := (val_zero_of_canon x.L h.2.1).1 (by simpa using this)
    rw [h0]; rfl

theorem NxAt.swap {w W : World} {g cp g2 cp2 m n K dn p : Nat} {N : List Rw} {a : Nat → Nat → Int} (h : NxAt w W g2 cp2 m n K N a) (ho : NxAt w W g cp m n K N a) (hne : g ≠ g2) (hd : dn < m) (hp : p < m) :
    (W.setCell ⟨g2, dn, none⟩ (.slice (rwAt N p).ao (rwAt N p).R.length (rwAt N p).cap)).cell? ⟨g, dn, none⟩ = some (.slice (rwAt N dn).ao (rwAt N dn).R.length (rwAt N dn).cap) ∧ (∃ u, (W.setCell ⟨g2, dn, none⟩ (.slice (rwAt N p).ao (rwAt N p).R.length (rwAt N p).cap)).cell? ⟨g2, p, none⟩ = some u) ∧ (W.setCell ⟨g2, dn, none⟩ (.slice (rwAt N p).ao (rwAt N p).R.length (rwAt N p).cap)).frozen? ⟨g2, p, none⟩ = false ∧
    NxAt w ((W.setCell ⟨g2, dn, none⟩ (.slice (rwAt N p).ao (rwAt N p).R.length (rwAt N p).cap)).setCell ⟨g2, p, none⟩ (.slice (rwAt N dn).ao (rwAt N dn).R.length (rwAt N dn).cap)) g2 cp2 m n K ((N.set dn (rwAt N p)).set p (rwAt N dn)) (swF a dn p) := by
  have q1 := h.2.2.2.2.1 p hp
  have q2 := h.2.2.2.2.1 dn hd
  have s1 := h.store hd (rwAt N p) (a p) q1.1 q1.2.1 q1.2.2.1 q1.2.2.2
  refine ⟨?_, ⟨_, s1.cell hp⟩, s1.free p, ?_⟩
  · rw [cell_setCell_other _ _ _ _ (show g ≠ g2 from hne)]
    exact ho.cell hd
  · refine (s1.store hp (rwAt N dn) (a dn) (q2.1.apart q2.2.1 _ _) q2.2.1 q2.2.2.1 (fun c hc => ⟨⟨(q2.2.2.2 c hc).1.1.apart (q2.2.1.2 _ (nmAt_mem (by rw [q2.2.2.1]; exact hc))) _ _, (q2.2.2.2 c hc).1.2⟩, (q2.2.2.2 c hc).2⟩)).congr (fun j _ => ?_) (Nat.le_refl _)
    unfold swF
    by_cases e1 : j = p
    · simp [e1]
    · by_cases e2 : j = dn
      · subst e2; simp [e1]
      · simp [e1, e2]

theorem NxAt.facts {w W : World} {g cp m n K i dn c : Nat} {N : List Rw} {a : Nat → Nat → Int} (h : NxAt w W g cp m n K N a) (hi : i < m) (hd : dn < m) (hne : dn ≠ i) (hc : c < n) :
    ∃ bd od cd bi oi ci Rd Ri nd ad kd Ld ni ai ki Li, rwAt N dn = ⟨some ⟨bd, od, none⟩, cd, Rd⟩ ∧ rwAt N i = ⟨some ⟨bi, oi, none⟩, ci, Ri⟩ ∧ Rd.length = n ∧ Ri.length = n ∧ nmAt Rd c = ⟨nd, ad, kd, Ld⟩ ∧ nmAt Ri c = ⟨ni, ai, ki, Li⟩ ∧
    ∀ w', Below W.heap.size W w' → (w'.cell? ⟨g, dn, none⟩ = some (.slice (some ⟨bd, od, none⟩) n cd) ∧ w'.cell? ⟨bd, od + c * 2, none⟩ = some (.bool nd) ∧ w'.cell? ⟨bd, od + c * 2 + 1, none⟩ = some (.slice ad Ld.length kd) ∧ w'.cell? ⟨bi, oi + c * 2, none⟩ = some (.bool ni) ∧ w'.cell? ⟨bi, oi + c * 2 + 1, none⟩ = some (.slice ai Li.length ki)) ∧ w'.cell? ⟨g, i, none⟩ = some (.slice (some ⟨bi, oi, none⟩) n ci) ∧ w'.frozen? ⟨g, i, none⟩ = false ∧
      ∀ u, (w'.setCell ⟨g, i, none⟩ u).cell? ⟨g, dn, none⟩ = some (.slice (some ⟨bd, od, none⟩) n cd) ∧ (w'.setCell ⟨g, i, none⟩ u).cell? ⟨bd, od + c * 2, none⟩ = some (.bool nd) ∧ (w'.setCell ⟨g, i, none⟩ u).cell? ⟨bd, od + c * 2 + 1, none⟩ = some (.slice ad Ld.length kd) ∧ (w'.setCell ⟨g, i, none⟩ u).cell? ⟨bi, oi + c * 2, none⟩ = some (.bool ni) ∧ (w'.setCell ⟨g, i, none⟩ u).cell? ⟨bi, oi + c * 2 + 1, none⟩ = some (.slice ai Li.length ki) := by
  obtain ⟨q1, q2, q3, q4⟩ := h.2.2.2.2.1 dn hd
  obtain ⟨r1, r2, r3, r4⟩ := h.2.2.2.2.1 i hi
  have k1 := h.cell hd
  have k2 := h.cell hi
  have hgl := h.lt
  have hfr := fun w' (hb : Below W.heap.size W w') => (h.below hb).free i
  generalize rwAt N dn = rd at *
  generalize rwAt N i = ri at *
  obtain ⟨ad, cd, Rd⟩ := rd
  obtain ⟨ai, ci, Ri⟩ := ri
  simp only at q1 q3 q4 r1 r3 r4 k1 k2
  obtain ⟨bd, od, rfl, hbd, hcd⟩ := q1.ne (by omega)
  obtain ⟨bi, oi, rfl, hbi, hci⟩ := r1.ne (by omega)
  have d1 := hcd c (by omega)
  have d2 := hci c (by omega)
  have nbd : bd ≠ g := by
    rcases q2.1 with e | ⟨b', o', e, hx⟩
    · exact absurd (congrArg List.length e) (by simp only [List.length_nil]; omega)
    · simp only [Option.some.injEq, Addr.mk.injEq, and_true] at e
      exact fun e2 => hx (by rw [← e.1, e2])
  have nbi : bi ≠ g := by
    rcases r2.1 with e | ⟨b', o', e, hx⟩
    · exact absurd (congrArg List.length e) (by simp only [List.length_nil]; omega)
    · simp only [Option.some.injEq, Addr.mk.injEq, and_true] at e
      exact fun e2 => hx (by rw [← e.1, e2])
  obtain ⟨xd, hxd⟩ : ∃ x, nmAt Rd c = x := ⟨_, rfl⟩
  obtain ⟨xi, hxi⟩ : ∃ x, nmAt Ri c = x := ⟨_, rfl⟩
  rw [hxd] at d1
  rw [hxi] at d2
  obtain ⟨nd, ad, kd, Ld⟩ := xd
  obtain ⟨ni, ai, ki, Li⟩ := xi
  simp only at d1 d2
  rw [q3] at k1
  rw [r3] at k2
  refine ⟨bd, od, cd, bi, oi, ci, Rd, Ri, nd, ad, kd, Ld, ni, ai, ki, Li, rfl, rfl, q3, r3, hxd, hxi, fun w' hb => ?_⟩
  have e1 := (hb.cell (p := ⟨g, dn, none⟩) hgl).trans k1
  have e2 := (hb.cell (p := ⟨bd, od + c * 2, none⟩) hbd).trans d1.1
  have e3 := (hb.cell (p := ⟨bd, od + c * 2 + 1, none⟩) hbd).trans d1.2
  have e4 := (hb.cell (p := ⟨bi, oi + c * 2, none⟩) hbi).trans d2.1
  have e5 := (hb.cell (p := ⟨bi, oi + c * 2 + 1, none⟩) hbi).trans d2.2
  refine ⟨⟨e1, e2, e3, e4, e5⟩, (hb.cell (p := ⟨g, i, none⟩) hgl).trans k2, hfr w' hb, fun u => ⟨?_, ?_, ?_, ?_, ?_⟩⟩
  · rw [World.cell?_setCell_other _ _ _ _ (by intro e; simp only [Addr.mk.injEq] at e; omega)]; exact e1
  · rw [cell_setCell_other _ _ _ _ (show bd ≠ g from nbd)]; exact e2
  · rw [cell_setCell_other _ _ _ _ (show bd ≠ g from nbd)]; exact e3
  · rw [cell_setCell_other _ _ _ _ (show bi ≠ g from nbi)]; exact e4
  · rw [cell_setCell_other _ _ _ _ (show bi ≠ g from nbi)]; exact e5

/-- Row i is what less has made. -/
theorem NxAt.made {w W W' : World} {g cp m n c dn i cap : Nat} {N : List Rw} {s : Nat → Nat → Int} {ao : Option Addr} {R : List Nm} (h : NxAt w W g cp m n (KK (c + 1)) N (fun j => if j < i then crF s dn c j else s j)) (hb : Below W.heap.size W W') (hi : i < m) (hdi : dn < i) (hc : c < n) (hS : ∀ j, j < m → ∀ q, q < n → (s j q).natAbs < 2 ^ KK c) (hz : s i c ≠ 0)
    (hr : NumsAt W' ao cap R) (hn : NewAt W.heap.size ao (R.map (fun _ => 0))) (hl : R.length = n) (hv : ∀ q, q < n → IsNm W' (nmAt R q) (s i q * s dn c - s dn q * s i c)) (hw : ∀ z ∈ R, NewAt W.heap.size z.ao z.L) :
    NxAt w (W'.setCell ⟨g, i, none⟩ (.slice ao n cap)) g cp m n (KK (c + 1)) (N.set i ⟨ao, cap, R⟩) (fun j => if j < i + 1 then crF s dn c j else s j) := by
  have hg := h.lt
  have hav : AvR (some g) ⟨ao, cap, R⟩ := by
    refine ⟨?_, fun z hz => Av.old (hw z hz) (fun m hm => by cases hm; exact hg)⟩
    rcases hn with e | ⟨b, off, e, hbb⟩
    · exact .inl (List.map_eq_nil_iff.1 e)
    · exact .inr ⟨b, off, e, fun e2 => by simp only [Option.some.injEq] at e2; omega⟩
  have := (h.below hb).store hi ⟨ao, cap, R⟩ (fun q => s i q * s dn c - s dn q * s i c) hr hav hl (fun q hq => ⟨hv q hq, cross_KK (hS i hi q hq) (hS dn (by omega) c hc) (hS dn (by omega) q hq) (hS i hi c hc)⟩)
  simp only [hl] at this
  refine this.congr (fun j hj => ?_) (Nat.le_refl _)
  by_cases e : j = i
  · subst e
    rw [if_pos rfl, if_pos (by omega)]
    funext q
    unfold crF
    rw [if_neg (by omega)]
  · rw [if_neg e]
    by_cases e2 : j < i
    · rw [if_pos e2, if_pos (by omega)]
    · rw [if_neg e2, if_neg (by omega)]

theorem NxAt.zeroed {w W : World} {g cp m n c dn i K : Nat} {N : List Rw} {s : Nat → Nat → Int} (h : NxAt w W g cp m n K N (fun j => if j < i then crF s dn c j else s j)) (hz : s i c = 0) : NxAt w W g cp m n K N (fun j => if j < i + 1 then crF s dn c j else s j) := by
  refine h.congr (fun j hj => ?_) (Nat.le_refl _)
  by_cases e : j = i
  · subst e
    rw [if_neg (by omega), if_pos (by omega)]
    funext q
    unfold crF
    rw [if_pos (.inr hz)]
  · by_cases e2 : j < i
    · rw [if_pos e2, if_pos (by omega)]
    · rw [if_neg e2, if_neg (by omega)]

theorem NxAt.begin {w W : World} {g cp m n c dn : Nat} {N : List Rw} {s : Nat → Nat → Int} (h : NxAt w W g cp m n (KK c) N s) : NxAt w W g cp m n (KK (c + 1)) N (fun j => if j < dn + 1 then crF s dn c j else s j) := by
  refine h.congr (fun j hj => ?_) (KK_mono c)
  by_cases e : j < dn + 1
  · rw [if_pos e]
    funext q
    unfold crF
    rw [if_pos (.inl (by omega))]
  · rw [if_neg e]

end Go.Proofs.Ytnpogpoknbgodaa

/- Contract of the reference's Rank. -/
namespace Go.Proofs.Ytnpogpoknbgodaa
open Go.RowKit
attribute [local go_sem ↓] Go.wp_at_zero Go.wp_at_succ

theorem NxAt.lessCall {w W : World} {g cp m n c dn i bd od cd bi oi ci kd ki : Nat} {N : List Rw} {s : Nat → Nat → Int} {Rd Ri : List Nm} {nd ni : Bool} {ad ai : Option Addr} {Ld Li : List Nat} (h : NxAt w W g cp m n (KK (c + 1)) N (fun j => if j < i then crF s dn c j else s j)) (hi : i < m) (hdi : dn < i) (hc : c < n) (hn6 : n ≤ 6) (hS : ∀ j, j < m → ∀ q, q < n → (s j q).natAbs < 2 ^ KK c) (hz : s i c ≠ 0)
    (hrd : rwAt N dn = ⟨some ⟨bd, od, none⟩, cd, Rd⟩) (hri : rwAt N i = ⟨some ⟨bi, oi, none⟩, ci, Ri⟩) (hxd : nmAt Rd c = ⟨nd, ad, kd, Ld⟩) (hxi : nmAt Ri c = ⟨ni, ai, ki, Li⟩) (W' : World) (hb : Below W.heap.size W W') :
    Calls Try.prog 24 #[.slice (some ⟨bi, oi, none⟩) n ci, .agg #[.bool nd, .slice ad Ld.length kd], .slice (some ⟨bd, od, none⟩) n cd, .agg #[.bool ni, .slice ai Li.length ki]] W' fun e w' => ∃ ao cap R, e = .returned (.slice ao n cap) ∧ Hid (NxAt w (w'.setCell ⟨g, i, none⟩ (.slice ao n cap)) g cp m n (KK (c + 1)) (N.set i ⟨ao, cap, R⟩) (fun j => if j < i + 1 then crF s dn c j else s j)) ∧ Below W.heap.size W w' := by
  have h' := h.below hb
  obtain ⟨q1, q2, q3, q4⟩ := h'.2.2.2.2.1 dn (by omega)
  obtain ⟨r1, r2, r3, r4⟩ := h'.2.2.2.2.1 i hi
  rw [hrd] at q1 q3 q4
  rw [hri] at r1 r3 r4
  simp only at q1 q3 q4 r1 r3 r4
  have ed : crF s dn c dn = s dn := by funext q; unfold crF; rw [if_pos (.inl (Nat.le_refl _))]
  rw [if_pos hdi, ed] at q4
  rw [if_neg (Nat.lt_irrefl _)] at r4
  have k5 := KK_two c (by omega)
  have x1 := (q4 c hc).1
  have x2 := (r4 c hc).1
  rw [hxd] at x1
  rw [hxi] at x2
  refine (less_any bi oi ci bd od cd n Ri Rd ⟨nd, ad, kd, Ld⟩ ⟨ni, ai, ki, Li⟩ (s i) (s dn) (s dn c) (s i c) W' r1 q1 r3 q3 (by omega) hn6 (fun q hq => (r4 q hq).1) (fun q hq => (q4 q hq).1) x1 x2 (fun q hq => ⟨lt_TOPk (hS i hi q hq) (by omega), lt_TOPk (hS dn (by omega) q hq) (by omega), lt_TOPk (mul_KK (hS i hi q hq) (hS dn (by omega) c hc)) k5, lt_TOPk (mul_KK (hS dn (by omega) q hq) (hS i hi c hc)) k5⟩) (lt_TOPk (hS dn (by omega) c hc) (by omega)) (lt_TOPk (hS i hi c hc) (by omega))).mono ?_
  rintro e w' ⟨ao, cap, R, rfl, t1, t2, t3, t4, t5, t6⟩
  have hB := hb.trans (t6.mono hb.size)
  exact ⟨ao, cap, R, rfl, hide (h.made hB hi hdi hc hS hz t1 (t2.mono (by have := hb.size; omega)) t3 t4 (fun z hz => (t5 z hz).mono hb.size)), hB⟩

theorem NxAt.nil_iff {w W : World} {g cp m n c dn i bi oi ci ki K : Nat} {N : List Rw} {s : Nat → Nat → Int} {Ri : List Nm} {ni : Bool} {ai : Option Addr} {Li : List Nat} (h : NxAt w W g cp m n K N (fun j => if j < i then crF s dn c j else s j)) (hi : i < m) (hc : c < n) (hri : rwAt N i = ⟨some ⟨bi, oi, none⟩, ci, Ri⟩) (hxi : nmAt Ri c = ⟨ni, ai, ki, Li⟩) : Li.length = 0 ↔ s i c = 0 := by
  have x := ((h.2.2.2.2.1 i hi).2.2.2 c hc).1
  rw [hri] at x
  simp only [hxi] at x
  rw [if_neg (Nat.lt_irrefl _)] at x
  exact x.nil_iff

set_option maxHeartbeats 16000000 in
set_option maxRecDepth 20000 in
theorem refRank_any (b off cap : Nat) (M : List Rw) (n : Nat) (w : World) (h : MatAt w (some ⟨b, off, none⟩) cap M) (hs : SmallM M) (hg : GoodM M n) (hw : width M = n) (hm0 : 0 < M.length) (hl4 : ∀ i c, i < M.length → c < n → (valM M i c).natAbs ≤ 4294967296 ^ 4) :
    Calls Try.prog 9 #[.slice (some ⟨b, off, none⟩) M.length cap] w fun e w' => (∃ k : Nat, e = .returned (.int .i64 k) ∧ Hid (IsRank k (valM M) M.length n)) ∧ Below w.heap.size w w' := by
  obtain ⟨j0, hj0, hy0, hy1, hy2⟩ := info_parts infoRow
  have CW := hide (fun w' h' => refWidth_any (some ⟨b, off, none⟩) cap M w' h' hs)
  rw [hw] at CW
  have hm6 := hg.1
  have hn6 := hg.2.1
  obtain ⟨b', off', e', hbb, hcc⟩ := h.ne hm0
  simp only [Option.some.injEq, Addr.mk.injEq, and_true] at e'
  obtain ⟨rfl, rfl⟩ := e'
  have HV := hide (fun i (hi : i < M.length) => (show NumsAt w (rwAt M i).ao (rwAt M i).cap (rwAt M i).R ∧ (rwAt M i).R.length = n ∧ ∀ c, c < n → IsNm w (nmAt (rwAt M i).R c) (valM M i c) ∧ (valM M i c).natAbs < 2 ^ KK 0 from
    ⟨h.nums hi, hg.2.2.1 i hi, fun c hc => ⟨IsNm.ofRight ((h.nums hi).limbs (by rw [hg.2.2.1 i hi]; exact hc)) (hg.2.2.2 i c hi hc).1, Nat.lt_of_le_of_lt (hl4 i c hi hc) (by decide)⟩⟩))
  obtain ⟨ml, hml⟩ : ∃ ml, M.length = ml := ⟨_, rfl⟩
  have HL := hide hml; have HM := hide h
  rw [hml] at CW hm6 hm0 ⊢
  have hbA : Below w.heap.size w (w.alloc (.cells #[] 32)) := (Below.refl _ _).alloc (Nat.le_refl _) _
  have NEWS := hide (show ∀ j u, (M.map Rw.v)[j]? = some u → (w.alloc (.cells #[] 32)).cell? ((⟨b, off, none⟩ : Addr).add j) = some u from fun j u hu => by
    rw [List.getElem?_map] at hu
    cases hm : M[j]? with
    | none => rw [hm] at hu; cases hu
    | some r =>
      rw [hm] at hu
      have hjl : j < M.length := (List.getElem?_eq_some_iff.1 hm).1
      have hcj := hcc j hjl
      have er : rwAt M j = r := by unfold rwAt; rw [hm]; rfl
      rw [er] at hcj
      rw [show (⟨b, off, none⟩ : Addr).add j = ⟨b, off + j, none⟩ by simp [Addr.add]]
      rw [hbA.cell (p := ⟨b, off + j, none⟩) hbb, hcj]
      exact hu)
  have ONE := hide (show ∀ (N : List Rw), ∀ u ∈ N.map Rw.v, u.oneCell' = true from fun N u hu => by
    obtain ⟨r, _, rfl⟩ := List.mem_map.1 hu
    rfl)
  have OWN := hide (show (w.alloc (.cells #[] 32)).ownsRow w.heap.size 32 1 (.slice (some ⟨w.heap.size, 0, none⟩) 0 0) 0 [] from (OwnRows.start w w.heap.size (Nat.le_refl _)).1)
  have FIN := hide (fun v' w3 (ho : w3.ownsRow w.heap.size 32 1 v' (0 + ml) ([] ++ M.map Rw.v)) (hg' : (w.alloc (.cells #[] 32)).grownBy w3 (some w.heap.size)) =>
    NxAt.copied (w := w) (W := w) (n := n) (K := KK 0) (a := valM M) hm0 hml (Below.refl _ _) (fun i hi => unhide HV i (by rw [hml]; exact hi)) ho (below_of_grown hbA hg' (by simp) (fun m hm => by cases hm; exact Nat.le_refl _)))
  have LN := hide (show (M.map Rw.v).length = ml * 1 by rw [List.length_map, hml]; omega)
  have hST0 := hide (St.start (valM M) ml n)
  clear h hs hg hw hl4 hcc hbb hbA hml HV
  go_enter Try.func9, Try.ntmps9
  go_wp2_with (at_builtin; refine wpList_append_own_at _ rfl _ _ 22 rfl w.heap.size 32 j0 (.slice none 0 0) 1 24 Try.underlying22 hj0 hy0 hy1 hy2 rfl (by decide) _ _ _ rfl (unhide OWN) ⟨b, off, none⟩ ml cap (M.map Rw.v) rfl (unhide LN) (unhide NEWS) (unhide ONE M) (by unfold maxLen; omega) (by omega) (by simp) ?_; intro vA w3 hown' hgrow hnil hloc; obtain ⟨g0, cp0, rfl, nx0, _⟩ := unhide FIN vA w3 hown' hgrow; have NX0 := hide nx0; clear hown' hgrow hloc hnil nx0)
  clear OWN FIN NEWS LN
  go_loopw [3, 4, 5] (fun l d ci wr => ∃ (c dn g cp : Nat) (N : List Rw) (a : Nat → Nat → Int), c ≤ n ∧ dn ≤ ml ∧ l = .slice (some ⟨g, 0, none⟩) ml cp ∧ d = .int .i64 dn ∧ ci = .int .i64 c ∧ Hid (NxAt w wr g cp ml n (KK c) N a) ∧ Hid (St (valM M) a ml n c dn)) (fun _ _ ci _ => n - (intOf ci).toNat)
  case atStart => exact ⟨0, 0, g0, cp0, M, valM M, Nat.zero_le _, Nat.zero_le _, rfl, rfl, rfl, NX0, hST0⟩
  case round =>
    obtain ⟨c, dn, g, cp, N, a, hc, hdn, rfl, rfl, rfl, hNX, hST⟩ := hrel
    clear NX0 hST0
    have hbw := (unhide hNX).2.2.2.2.2
    have CW2 := hide (unhide CW _ ((unhide HM).below hbw))
    by_cases hlt : c < n
    · have hcI : (c : Int) < (n : Int) := by omega
      have hNl := (unhide hNX).1
      have CP := hide (fun w' (hb' : Below wr.heap.size wr w') => pivot_any g 0 cp N dn c n w' ((unhide hNX).below hb').mat (fun i hi => ((unhide hNX).2.2.2.2.1 i (by rw [← hNl]; exact hi)).2.2.1) hlt (by rw [hNl]; exact hdn) (by rw [hNl]; exact hm6) hn6)
      rw [hNl] at CP
      clear hbw
      go_wp2_with (go_at_call 21; refine (unhide CW2).mono ?_; rintro e w' ⟨rfl, rfl⟩)
      refine (unhide CP _ (Below.refl _ _)).mono ?_
      rintro e w1 ⟨⟨k, rfl, hk⟩, hb1⟩
      have hNX1 := hide ((unhide hNX).below hb1)
      clear hNX hb1 CP CW2
      rcases hk with ⟨rfl, hz⟩ | ⟨p, rfl, hp1, hp2, hp3⟩
      · have ST' := hide ((unhide hST).none (fun i h1 h2 => (((unhide hNX1).2.2.2.2.1 i h2).2.2.2 c hlt).1.nil_iff.1 (hz i h1 h2)))
        have NX' := hide ((unhide hNX1).congr (K' := KK (c + 1)) (fun _ _ => rfl) (KK_mono c))
        clear hST hNX1 hz hNl
        go_wp2
        go_roundw
        case rel => exact ⟨c + 1, dn, g, cp, N, a, by omega, hdn, rfl, rfl, by go_num, NX', ST'⟩
        case measure => simp [intOf]; omega
      · have hpz : ¬ (p : Int) < 0 := by omega
        have hpD : decide ((p : Int) < 0) = false := decide_eq_false hpz
        have hpv : a p c ≠ 0 := fun e => hp3 ((((unhide hNX1).2.2.2.2.1 p hp2).2.2.2 c hlt).1.nil_iff.2 e)
        have ST' := hide ((unhide hST).pivot hp1 hp2 hpv)
        have hdm : dn < ml := by omega
        have hdI : (dn : Int) < (ml : Int) := by omega
        have hpI : (p : Int) < (ml : Int) := by omega
        have n1 := unhide hNX1
        have hbA : Below w1.heap.size w1 (w1.alloc (.cells #[] 32)) := (Below.refl _ _).alloc (Nat.le_refl _) _
        have NEWS := hide (show ∀ j u, (N.map Rw.v)[j]? = some u → (w1.alloc (.cells #[] 32)).cell? ((⟨g, 0, none⟩ : Addr).add j) = some u from fun j u hu => by
          rw [List.getElem?_map] at hu
          cases hm : N[j]? with
          | none => rw [hm] at hu; cases hu
          | some r =>
            rw [hm] at hu
            have hjl : j < N.length := (List.getElem?_eq_some_iff.1 hm).1
            have hcj := (n1.below hbA).cell (i := j) (by rw [← hNl]; exact hjl)
            have er : rwAt N j = r := by unfold rwAt; rw [hm]; rfl
            rw [er] at hcj
            rw [show (⟨g, 0, none⟩ : Addr).add j = ⟨g, j, none⟩ by by_cases e : j = 0 <;> simp [Addr.add, e], hcj]
            exact hu)
        have OWN := hide (show (w1.alloc (.cells #[] 32)).ownsRow w1.heap.size 32 1 (.slice (some ⟨w1.heap.size, 0, none⟩) 0 0) 0 [] from (OwnRows.start w1 w1.heap.size (Nat.le_refl _)).1)
        have FIN := hide (fun v' w3 (ho : w3.ownsRow w1.heap.size 32 1 v' (0 + ml) ([] ++ N.map Rw.v)) (hg' : (w1.alloc (.cells #[] 32)).grownBy w3 (some w1.heap.size)) =>
          (show (∃ g2 cp2, v' = .slice (some ⟨g2, 0, none⟩) ml cp2 ∧ NxAt w w3 g2 cp2 ml n (KK c) N a ∧ w1.heap.size ≤ g2) ∧ NxAt w w3 g cp ml n (KK c) N a from by
            have hb13 := below_of_grown hbA hg' (by simp) (fun m hm => by cases hm; exact Nat.le_refl _)
            exact ⟨NxAt.copied hm0 hNl n1.2.2.2.2.2 (fun i hi => ⟨(n1.2.2.2.2.1 i hi).1, (n1.2.2.2.2.1 i hi).2.2⟩) ho hb13, n1.below hb13⟩))
        have LN := hide (show (N.map Rw.v).length = ml * 1 by rw [List.length_map, hNl]; omega)
        have hgl := n1.lt
        clear n1 hbA hp3 hpv hST hNX1
        go_wp2_with (at_builtin; refine wpList_append_own_at _ rfl _ _ 22 rfl w1.heap.size 32 j0 (.slice none 0 0) 1 24 Try.underlying22 hj0 hy0 hy1 hy2 rfl (by decide) _ _ _ rfl (unhide OWN) ⟨g, 0, none⟩ ml cp (N.map Rw.v) rfl (unhide LN) (unhide NEWS) (unhide ONE N) (by unfold maxLen; omega) (by omega) (by simp) ?_; intro vA w3 hown' hgrow hnil hloc; obtain ⟨⟨g2, cp2, rfl, nx2, hg2⟩, nxo⟩ := unhide FIN vA w3 hown' hgrow; have hgg : g ≠ g2 := (by omega); obtain ⟨ce, ⟨uq, cf⟩, ff, nx4⟩ := nx2.swap nxo hgg hdm hp2; have NX4 := hide nx4; have ca := nxo.cell hp2; have cd := nx2.cell hdm; have fd := nx2.free dn; clear hown' hgrow hloc hnil nx2 nxo nx4 OWN FIN)
        clear ca cd fd ce cf ff
        generalize (w3.setCell ⟨g2, dn, none⟩ (Value.slice (rwAt N p).ao (rwAt N p).R.length (rwAt N p).cap)).setCell ⟨g2, p, none⟩ (Value.slice (rwAt N dn).ao (rwAt N dn).R.length (rwAt N dn).cap) = w5 at *
        have hSB := hide (fun j (hj : j < ml) q (hq : q < n) => ((unhide NX4).2.2.2.2.1 j hj).2.2.2 q hq |>.2)
        have NX5 := hide ((unhide NX4).begin (c := c) (dn := dn))
        clear NX4 NEWS LN hgg
        generalize swF a dn p = s at *
        go_loopw [8] (fun i wr' => ∃ (k : Nat) (N2 : List Rw), dn + 1 ≤ k ∧ k ≤ ml ∧ i = .int .i64 k ∧ Hid (NxAt w wr' g2 cp2 ml n (KK (c + 1)) N2 (fun j => if j < k then crF s dn c j else s j))) (fun i _ => ml - (intOf i).toNat)
        case atStart => exact ⟨dn + 1, _, Nat.le_refl _, by omega, by go_num, NX5⟩
        case round =>
          obtain ⟨k, N2, hk1, hk2, rfl, hI⟩ := hrel
          clear NX5
          by_cases hlt2 : k < ml
          · have hkI : (k : Int) < (ml : Int) := by omega
            obtain ⟨bd, od, cdd, bi, oi, ci, Rd, Ri, nd, ad, kd, Ld, ni, ai, ki, Li, hrd, hri, lRd, lRi, hxd, hxi, HF⟩ := (unhide hI).facts hlt2 hdm (by omega) hlt
            have hnil := (unhide hI).nil_iff hlt2 hlt hri hxi
            have HK := hide HF
            obtain ⟨⟨_, _, _, f4, f5⟩, f6, _, _⟩ := HF _ (Below.refl _ _)
            clear HF
            by_cases hz : s k c = 0
            · have NXZ := hide (fun w' (hb : Below wr.heap.size wr w') => ((unhide hI).below hb).zeroed hz)
              have CZ := hide (fun w' => zero3_any ni ai ki Li.length w')
              rw [show decide (Li.length = 0) = true from decide_eq_true (hnil.2 hz)] at CZ
              clear hnil hrd hri lRd lRi hxd hxi HK
              go_wp2_with fail
              refine (unhide CZ _).mono ?_
              rintro e w6 ⟨rfl, hb6⟩
              have NX6 := hide (unhide NXZ _ hb6)
              clear hb6 NXZ CZ hI
              go_wp2
              go_roundw
              case rel => exact ⟨k + 1, N2, by omega, by omega, by go_num, NX6⟩
              case measure => simp [intOf]; omega
            · have CZ := hide (fun w' => zero3_any ni ai ki Li.length w')
              rw [show decide (Li.length = 0) = false from decide_eq_false (fun e => hz (hnil.1 e))] at CZ
              have CL := hide (fun w' (hb : Below wr.heap.size wr w') => (unhide hI).lessCall hlt2 (by omega) hlt hn6 (unhide hSB) hz hrd hri hxd hxi w' hb)
              clear hnil hrd hri lRd lRi hxd hxi
              go_wp2_with fail
              refine (unhide CZ _).mono ?_
              rintro e w6 ⟨rfl, hb6⟩
              have hB6 := hb6
              clear hb6 CZ f4 f5 f6
              go_wp2_with fail
              refine at_world (fun W => W = w6) rfl ?_
              rintro W0 e0
              subst e0
              have hB0 : Below wr.heap.size wr W0.drew := hB6.drew
              refine wp_region_held_drew (S := (fun w' => w'.cell? ⟨g2, dn, none⟩ = some (.slice (some ⟨bd, od, none⟩) n cdd) ∧ w'.cell? ⟨bd, od + c * 2, none⟩ = some (.bool nd) ∧ w'.cell? ⟨bd, od + c * 2 + 1, none⟩ = some (.slice ad Ld.length kd) ∧ w'.cell? ⟨bi, oi + c * 2, none⟩ = some (.bool ni) ∧ w'.cell? ⟨bi, oi + c * 2 + 1, none⟩ = some (.slice ai Li.length ki))) (by kernel_rfl) ?_ (fun hHeld => ?_)
              · exact (unhide HK _ hB0).1
              clear hB6 hI
              refine wpAnyH_take (i := 0) (oi := { dst := some 58, op := Op.move (Operand.tmp 7), type := 22, pos := "ref.go:119", after := #[], guard := none }) (v := ?_) rfl (by kernel_rfl) (by kernel_rfl) (by kernel_rfl) (fun _ _ _ h => h) (Or.inl ⟨by rfl, ?_⟩) (by assumption) ?_
              rotate_left
              · ((intro w hSw; (try dsimp only at hSw); go_simp) <;> with_reducible rfl)
              simp only [Act.put, List.setIfInBounds_toArray, List.set_cons_zero, List.set_cons_succ]
              refine wpAnyH_take (i := 1) (oi := { dst := some 59, op := Op.move (Operand.tmp 8), type := 3, pos := "ref.go:119", after := #[], guard := none }) (v := ?_) rfl (by kernel_rfl) (by kernel_rfl) (by kernel_rfl) (fun _ _ _ h => h) (Or.inl ⟨by rfl, ?_⟩) (by assumption) ?_
              rotate_left
              · ((intro w hSw; (try dsimp only at hSw); go_simp) <;> with_reducible rfl)
              simp only [Act.put, List.setIfInBounds_toArray, List.set_cons_zero, List.set_cons_succ]
              refine wpAnyH_take (i := 2) (oi := { dst := some 60, op := Op.move (Operand.tmp 7), type := 22, pos := "ref.go:119", after := #[], guard := none }) (v := ?_) rfl (by kernel_rfl) (by kernel_rfl) (by kernel_rfl) (fun _ _ _ h => h) (Or.inl ⟨by rfl, ?_⟩) (by assumption) ?_
              rotate_left
              · ((intro w hSw; (try dsimp only at hSw); go_simp) <;> with_reducible rfl)
              simp only [Act.put, List.setIfInBounds_toArray, List.set_cons_zero, List.set_cons_succ]
              refine wpAnyH_take (i := 3) (oi := { dst := some 61, op := Op.move (Operand.tmp 8), type := 3, pos := "ref.go:119", after := #[], guard := none }) (v := ?_) rfl (by kernel_rfl) (by kernel_rfl) (by kernel_rfl) (fun _ _ _ h => h) (Or.inl ⟨by rfl, ?_⟩) (by assumption) ?_
              rotate_left
              · ((intro w hSw; (try dsimp only at hSw); go_simp) <;> with_reducible rfl)
              simp only [Act.put, List.setIfInBounds_toArray, List.set_cons_zero, List.set_cons_succ]
              refine wpAnyH_take (i := 4) (oi := { dst := some 62, op := Op.indexAddr 22 (Operand.tmp 60) (Operand.tmp 61), type := 0, pos := "ref.go:119", after := #[{ on := 2, ground := Ground.data }, { on := 3, ground := Ground.data }], guard := none }) (v := ?_) rfl (by kernel_rfl) (by kernel_rfl) (by kernel_rfl) (fun _ _ _ h => h) (Or.inl ⟨by rfl, ?_⟩) (by assumption) ?_
              rotate_left
              · ((intro w hSw; (try dsimp only at hSw); go_simp) <;> with_reducible rfl)
              simp only [Act.put, List.setIfInBounds_toArray, List.set_cons_zero, List.set_cons_succ]
              refine wpAnyH_take (i := 6) (oi := { dst := some 64, op := Op.move (Operand.tmp 7), type := 22, pos := "ref.go:119", after := #[], guard := none }) (v := ?_) rfl (by kernel_rfl) (by kernel_rfl) (by kernel_rfl) (fun _ _ _ h => h) (Or.inl ⟨by rfl, ?_⟩) (by assumption) ?_
              rotate_left
              · ((intro w hSw; (try dsimp only at hSw); go_simp) <;> with_reducible rfl)
              simp only [Act.put, List.setIfInBounds_toArray, List.set_cons_zero, List.set_cons_succ]
              refine wpAnyH_take (i := 7) (oi := { dst := some 65, op := Op.move (Operand.tmp 4), type := 3, pos := "ref.go:119", after := #[], guard := none }) (v := ?_) rfl (by kernel_rfl) (by kernel_rfl) (by kernel_rfl) (fun _ _ _ h => h) (Or.inl ⟨by rfl, ?_⟩) (by assumption) ?_
              rotate_left
              · ((intro w hSw; (try dsimp only at hSw); go_simp) <;> with_reducible rfl)
              simp only [Act.put, List.setIfInBounds_toArray, List.set_cons_zero, List.set_cons_succ]
              refine wpAnyH_take (i := 8) (oi := { dst := some 66, op := Op.indexAddr 22 (Operand.tmp 64) (Operand.tmp 65), type := 0, pos := "ref.go:119", after := #[{ on := 6, ground := Ground.data }, { on := 7, ground := Ground.data }], guard := none }) (v := ?_) rfl (by kernel_rfl) (by kernel_rfl) (by kernel_rfl) (fun _ _ _ h => h) (Or.inl ⟨by rfl, ?_⟩) (by assumption) ?_
              rotate_left
              · ((intro w hSw; (try dsimp only at hSw); go_simp) <;> with_reducible rfl)
              simp only [Act.put, List.setIfInBounds_toArray, List.set_cons_zero, List.set_cons_succ]
              refine wpAnyH_take (i := 9) (oi := { dst := some 67, op := Op.load 32 (Operand.tmp 66), type := 32, pos := "ref.go:119", after := #[{ on := 8, ground := Ground.data }], guard := none }) (v := ?_) rfl (by kernel_rfl) (by kernel_rfl) (by kernel_rfl) (fun _ _ _ h => h) (Or.inl ⟨by rfl, ?_⟩) (by assumption) ?_
              rotate_left
              · ((intro w hSw; (try dsimp only at hSw); go_simp) <;> with_reducible rfl)
              simp only [Act.put, List.setIfInBounds_toArray, List.set_cons_zero, List.set_cons_succ]
              refine wpAnyH_take (i := 10) (oi := { dst := some 68, op := Op.move (Operand.tmp 5), type := 3, pos := "ref.go:119", after := #[], guard := none }) (v := ?_) rfl (by kernel_rfl) (by kernel_rfl) (by kernel_rfl) (fun _ _ _ h => h) (Or.inl ⟨by rfl, ?_⟩) (by assumption) ?_
              rotate_left
              · ((intro w hSw; (try dsimp only at hSw); go_simp) <;> with_reducible rfl)
              simp only [Act.put, List.setIfInBounds_toArray, List.set_cons_zero, List.set_cons_succ]
              refine wpAnyH_take (i := 11) (oi := { dst := some 69, op := Op.indexAddr 32 (Operand.tmp 67) (Operand.tmp 68), type := 0, pos := "ref.go:119", after := #[{ on := 9, ground := Ground.data }, { on := 10, ground := Ground.data }], guard := none }) (v := ?_) rfl (by kernel_rfl) (by kernel_rfl) (by kernel_rfl) (fun _ _ _ h => h) (Or.inl ⟨by rfl, ?_⟩) (by assumption) ?_
              rotate_left
              · ((intro w hSw; (try dsimp only at hSw); go_simp) <;> with_reducible rfl)
              simp only [Act.put, List.setIfInBounds_toArray, List.set_cons_zero, List.set_cons_succ]
              refine wpAnyH_take (i := 12) (oi := { dst := some 70, op := Op.load 35 (Operand.tmp 69), type := 35, pos := "ref.go:119", after := #[{ on := 11, ground := Ground.data }], guard := none }) (v := ?_) rfl (by kernel_rfl) (by kernel_rfl) (by kernel_rfl) (fun _ _ _ h => h) (Or.inl ⟨by rfl, ?_⟩) (by assumption) ?_
              rotate_left
              · ((intro w hSw; (try dsimp only at hSw); go_simp) <;> with_reducible rfl)
              simp only [Act.put, List.setIfInBounds_toArray, List.set_cons_zero, List.set_cons_succ]
              refine wpAnyH_take (i := 13) (oi := { dst := some 71, op := Op.move (Operand.tmp 7), type := 22, pos := "ref.go:119", after := #[], guard := none }) (v := ?_) rfl (by kernel_rfl) (by kernel_rfl) (by kernel_rfl) (fun _ _ _ h => h) (Or.inl ⟨by rfl, ?_⟩) (by assumption) ?_
              rotate_left
              · ((intro w hSw; (try dsimp only at hSw); go_simp) <;> with_reducible rfl)
              simp only [Act.put, List.setIfInBounds_toArray, List.set_cons_zero, List.set_cons_succ]
              refine wpAnyH_take (i := 14) (oi := { dst := some 72, op := Op.move (Operand.tmp 4), type := 3, pos := "ref.go:119", after := #[], guard := none }) (v := ?_) rfl (by kernel_rfl) (by kernel_rfl) (by kernel_rfl) (fun _ _ _ h => h) (Or.inl ⟨by rfl, ?_⟩) (by assumption) ?_
              rotate_left
              · ((intro w hSw; (try dsimp only at hSw); go_simp) <;> with_reducible rfl)
              simp only [Act.put, List.setIfInBounds_toArray, List.set_cons_zero, List.set_cons_succ]
              refine wpAnyH_take (i := 15) (oi := { dst := some 73, op := Op.indexAddr 22 (Operand.tmp 71) (Operand.tmp 72), type := 0, pos := "ref.go:119", after := #[{ on := 13, ground := Ground.data }, { on := 14, ground := Ground.data }], guard := none }) (v := ?_) rfl (by kernel_rfl) (by kernel_rfl) (by kernel_rfl) (fun _ _ _ h => h) (Or.inl ⟨by rfl, ?_⟩) (by assumption) ?_
              rotate_left
              · ((intro w hSw; (try dsimp only at hSw); go_simp) <;> with_reducible rfl)
              simp only [Act.put, List.setIfInBounds_toArray, List.set_cons_zero, List.set_cons_succ]
              refine wpAnyH_take (i := 16) (oi := { dst := some 74, op := Op.load 32 (Operand.tmp 73), type := 32, pos := "ref.go:119", after := #[{ on := 15, ground := Ground.data }], guard := none }) (v := ?_) rfl (by kernel_rfl) (by kernel_rfl) (by kernel_rfl) (fun _ _ _ h => h) (Or.inl ⟨by rfl, ?_⟩) (by assumption) ?_
              rotate_left
              · ((intro w hSw; (try dsimp only at hSw); go_simp) <;> with_reducible rfl)
              simp only [Act.put, List.setIfInBounds_toArray, List.set_cons_zero, List.set_cons_succ]
              refine wpAnyH_take (i := 17) (oi := { dst := some 75, op := Op.move (Operand.tmp 7), type := 22, pos := "ref.go:119", after := #[], guard := none }) (v := ?_) rfl (by kernel_rfl) (by kernel_rfl) (by kernel_rfl) (fun _ _ _ h => h) (Or.inl ⟨by rfl, ?_⟩) (by assumption) ?_
              rotate_left
              · ((intro w hSw; (try dsimp only at hSw); go_simp) <;> with_reducible rfl)
              simp only [Act.put, List.setIfInBounds_toArray, List.set_cons_zero, List.set_cons_succ]
              refine wpAnyH_take (i := 18) (oi := { dst := some 76, op := Op.move (Operand.tmp 8), type := 3, pos := "ref.go:119", after := #[], guard := none }) (v := ?_) rfl (by kernel_rfl) (by kernel_rfl) (by kernel_rfl) (fun _ _ _ h => h) (Or.inl ⟨by rfl, ?_⟩) (by assumption) ?_
              rotate_left
              · ((intro w hSw; (try dsimp only at hSw); go_simp) <;> with_reducible rfl)
              simp only [Act.put, List.setIfInBounds_toArray, List.set_cons_zero, List.set_cons_succ]
              refine wpAnyH_take (i := 19) (oi := { dst := some 77, op := Op.indexAddr 22 (Operand.tmp 75) (Operand.tmp 76), type := 0, pos := "ref.go:119", after := #[{ on := 17, ground := Ground.data }, { on := 18, ground := Ground.data }], guard := none }) (v := ?_) rfl (by kernel_rfl) (by kernel_rfl) (by kernel_rfl) (fun _ _ _ h => h) (Or.inl ⟨by rfl, ?_⟩) (by assumption) ?_
              rotate_left
              · ((intro w hSw; (try dsimp only at hSw); go_simp) <;> with_reducible rfl)
              simp only [Act.put, List.setIfInBounds_toArray, List.set_cons_zero, List.set_cons_succ]
              refine wpAnyH_take (i := 21) (oi := { dst := some 79, op := Op.move (Operand.tmp 5), type := 3, pos := "ref.go:119", after := #[], guard := none }) (v := ?_) rfl (by kernel_rfl) (by kernel_rfl) (by kernel_rfl) (fun _ _ _ h => h) (Or.inl ⟨by rfl, ?_⟩) (by assumption) ?_
              rotate_left
              · ((intro w hSw; (try dsimp only at hSw); go_simp) <;> with_reducible rfl)
              simp only [Act.put, List.setIfInBounds_toArray, List.set_cons_zero, List.set_cons_succ]
              refine wpAnyH_ready (rs := [5, 20]) (by kernel_rfl) (by simp) ?_
              refine AllReadyH.cons (o := { dst := some 63, op := Op.load 32 (Operand.tmp 62), type := 32, pos := "ref.go:119", after := #[{ on := 4, ground := Ground.data }], guard := none }) rfl (fun K hK => ?_) ?_
              · have kk := (unhide HK _ hB0).2.1
                go_simp
                refine hK.out _ _ ?_ (fun hHeld => ?_)
                · exact by assumption
                clear hK K
                clear kk
                refine wpAnyH_ready (rs := [20]) (by kernel_rfl) (by simp) ?_
                refine AllReadyH.cons (o := { dst := some 78, op := Op.load 32 (Operand.tmp 77), type := 32, pos := "ref.go:119", after := #[{ on := 19, ground := Ground.data }], guard := none }) rfl (fun K hK => ?_) AllReadyH.nil
                have kk := (unhide HK _ hB0).2.1
                go_simp
                refine hK.out _ _ ?_ (fun hHeld => ?_)
                · exact by assumption
                clear hK K
                clear kk
                refine wpAnyH_take (i := 22) (oi := { dst := some 80, op := Op.indexAddr 32 (Operand.tmp 78) (Operand.tmp 79), type := 0, pos := "ref.go:119", after := #[{ on := 20, ground := Ground.data }, { on := 21, ground := Ground.data }], guard := none }) (v := ?_) rfl (by kernel_rfl) (by kernel_rfl) (by kernel_rfl) (fun _ _ _ h => h) (Or.inl ⟨by rfl, ?_⟩) (by assumption) ?_
                rotate_left
                · ((intro w hSw; (try dsimp only at hSw); go_simp) <;> with_reducible rfl)
                simp only [Act.put, List.setIfInBounds_toArray, List.set_cons_zero, List.set_cons_succ]
                refine wpAnyH_take (i := 23) (oi := { dst := some 81, op := Op.load 35 (Operand.tmp 80), type := 35, pos := "ref.go:119", after := #[{ on := 22, ground := Ground.data }], guard := none }) (v := ?_) rfl (by kernel_rfl) (by kernel_rfl) (by kernel_rfl) (fun _ _ _ h => h) (Or.inl ⟨by rfl, ?_⟩) (by assumption) ?_
                rotate_left
                · ((intro w hSw; (try dsimp only at hSw); go_simp) <;> with_reducible rfl)
                simp only [Act.put, List.setIfInBounds_toArray, List.set_cons_zero, List.set_cons_succ]
                refine wpAnyH_ready (rs := [24]) (by kernel_rfl) (by simp) ?_
                refine AllReadyH.cons (o := { dst := some 82, op := Op.call { callee := Callee.value (Operand.func 24), args := #[Operand.tmp 63, Operand.tmp 70, Operand.tmp 74, Operand.tmp 81], argTypes := #[32, 35, 32, 35] }, type := 32, pos := "ref.go:119", after := #[{ on := 5, ground := Ground.data }, { on := 12, ground := Ground.data }, { on := 16, ground := Ground.data }, { on := 23, ground := Ground.data }], guard := none }) rfl (fun K hK => ?_) AllReadyH.nil
                go_simp
                refine (unhide CL _ hB0).mono ?_
                rintro e w7 ⟨a9, c9, R9, rfl, FIN, hB7⟩
                go_wp2_with fail
                refine hK.out _ _ ?_ (fun hHeld => ?_)
                · exact (unhide HK _ hB7).1
                clear hK K
                refine wpAnyH_take (i := 25) (oi := { dst := some 83, op := Op.indexAddr 22 (Operand.tmp 58) (Operand.tmp 59), type := 0, pos := "ref.go:119", after := #[{ on := 0, ground := Ground.data }, { on := 1, ground := Ground.data }, { on := 0, ground := Ground.phase }, { on := 1, ground := Ground.phase }, { on := 2, ground := Ground.phase }, { on := 3, ground := Ground.phase }, { on := 4, ground := Ground.phase }, { on := 5, ground := Ground.phase }, { on := 6, ground := Ground.phase }, { on := 7, ground := Ground.phase }, { on := 8, ground := Ground.phase }, { on := 9, ground := Ground.phase }, { on := 10, ground := Ground.phase }, { on := 11, ground := Ground.phase }, { on := 12, ground := Ground.phase }, { on := 13, ground := Ground.phase }, { on := 14, ground := Ground.phase }, { on := 15, ground := Ground.phase }, { on := 16, ground := Ground.phase }, { on := 17, ground := Ground.phase }, { on := 18, ground := Ground.phase }, { on := 19, ground := Ground.phase }, { on := 20, ground := Ground.phase }, { on := 21, ground := Ground.phase }, { on := 22, ground := Ground.phase }, { on := 23, ground := Ground.phase }, { on := 24, ground := Ground.phase }], guard := none }) (v := ?_) rfl (by kernel_rfl) (by kernel_rfl) (by kernel_rfl) (fun _ _ _ h => h) (Or.inl ⟨by rfl, ?_⟩) (by assumption) ?_
                rotate_left
                · ((intro w hSw; (try dsimp only at hSw); go_simp) <;> with_reducible rfl)
                simp only [Act.put, List.setIfInBounds_toArray, List.set_cons_zero, List.set_cons_succ]
                refine wpAnyH_ready (rs := [26]) (by kernel_rfl) (by simp) ?_
                refine AllReadyH.cons (o := { dst := none, op := Op.store 32 (Operand.tmp 83) (Operand.tmp 82), type := 0, pos := "ref.go:119", after := #[{ on := 25, ground := Ground.data }, { on := 24, ground := Ground.data }, { on := 24, ground := Ground.chain }, { on := 0, ground := Ground.phase }, { on := 1, ground := Ground.phase }, { on := 2, ground := Ground.phase }, { on := 3, ground := Ground.phase }, { on := 4, ground := Ground.phase }, { on := 5, ground := Ground.phase }, { on := 6, ground := Ground.phase }, { on := 7, ground := Ground.phase }, { on := 8, ground := Ground.phase }, { on := 9, ground := Ground.phase }, { on := 10, ground := Ground.phase }, { on := 11, ground := Ground.phase }, { on := 12, ground := Ground.phase }, { on := 13, ground := Ground.phase }, { on := 14, ground := Ground.phase }, { on := 15, ground := Ground.phase }, { on := 16, ground := Ground.phase }, { on := 17, ground := Ground.phase }, { on := 18, ground := Ground.phase }, { on := 19, ground := Ground.phase }, { on := 20, ground := Ground.phase }, { on := 21, ground := Ground.phase }, { on := 22, ground := Ground.phase }, { on := 23, ground := Ground.phase }, { on := 24, ground := Ground.phase }], guard := none }) rfl (fun K hK => ?_) AllReadyH.nil
                have kk := (unhide HK _ hB7).2.1
                have kf := (unhide HK _ hB7).2.2.1
                go_simp
                refine hK.out _ _ ?_ (fun hHeld => ?_)
                · exact (unhide HK _ hB7).2.2.2 _
                clear hK K
                clear kk kf
                refine wpAnyH_done (by kernel_rfl) ?_ _
                clear HK CL hB0 hB7 hHeld
                go_wp2
                go_roundw
                case rel => exact ⟨k + 1, _, by omega, by omega, by go_num, FIN⟩
                case measure => simp [intOf]; omega
              refine AllReadyH.cons (o := { dst := some 78, op := Op.load 32 (Operand.tmp 77), type := 32, pos := "ref.go:119", after := #[{ on := 19, ground := Ground.data }], guard := none }) rfl (fun K hK => ?_) AllReadyH.nil
              have kk := (unhide HK _ hB0).2.1
              go_simp
              refine hK.out _ _ ?_ (fun hHeld => ?_)
              · exact by assumption
              clear hK K
              clear kk
              refine wpAnyH_take (i := 22) (oi := { dst := some 80, op := Op.indexAddr 32 (Operand.tmp 78) (Operand.tmp 79), type := 0, pos := "ref.go:119", after := #[{ on := 20, ground := Ground.data }, { on := 21, ground := Ground.data }], guard := none }) (v := ?_) rfl (by kernel_rfl) (by kernel_rfl) (by kernel_rfl) (fun _ _ _ h => h) (Or.inl ⟨by rfl, ?_⟩) (by assumption) ?_
              rotate_left
              · ((intro w hSw; (try dsimp only at hSw); go_simp) <;> with_reducible rfl)
              simp only [Act.put, List.setIfInBounds_toArray, List.set_cons_zero, List.set_cons_succ]
              refine wpAnyH_take (i := 23) (oi := { dst := some 81, op := Op.load 35 (Operand.tmp 80), type := 35, pos := "ref.go:119", after := #[{ on := 22, ground := Ground.data }], guard := none }) (v := ?_) rfl (by kernel_rfl) (by kernel_rfl) (by kernel_rfl) (fun _ _ _ h => h) (Or.inl ⟨by rfl, ?_⟩) (by assumption) ?_
              rotate_left
              · ((intro w hSw; (try dsimp only at hSw); go_simp) <;> with_reducible rfl)
              simp only [Act.put, List.setIfInBounds_toArray, List.set_cons_zero, List.set_cons_succ]
              refine wpAnyH_ready (rs := [5]) (by kernel_rfl) (by simp) ?_
              refine AllReadyH.cons (o := { dst := some 63, op := Op.load 32 (Operand.tmp 62), type := 32, pos := "ref.go:119", after := #[{ on := 4, ground := Ground.data }], guard := none }) rfl (fun K hK => ?_) AllReadyH.nil
              have kk := (unhide HK _ hB0).2.1
              go_simp
              refine hK.out _ _ ?_ (fun hHeld => ?_)
              · exact by assumption
              clear hK K
              clear kk
              refine wpAnyH_ready (rs := [24]) (by kernel_rfl) (by simp) ?_
              refine AllReadyH.cons (o := { dst := some 82, op := Op.call { callee := Callee.value (Operand.func 24), args := #[Operand.tmp 63, Operand.tmp 70, Operand.tmp 74, Operand.tmp 81], argTypes := #[32, 35, 32, 35] }, type := 32, pos := "ref.go:119", after := #[{ on := 5, ground := Ground.data }, { on := 12, ground := Ground.data }, { on := 16, ground := Ground.data }, { on := 23, ground := Ground.data }], guard := none }) rfl (fun K hK => ?_) AllReadyH.nil
              go_simp
              refine (unhide CL _ hB0).mono ?_
              rintro e w7 ⟨a9, c9, R9, rfl, FIN, hB7⟩
              go_wp2_with fail
              refine hK.out _ _ ?_ (fun hHeld => ?_)
              · exact (unhide HK _ hB7).1
              clear hK K
              refine wpAnyH_take (i := 25) (oi := { dst := some 83, op := Op.indexAddr 22 (Operand.tmp 58) (Operand.tmp 59), type := 0, pos := "ref.go:119", after := #[{ on := 0, ground := Ground.data }, { on := 1, ground := Ground.data }, { on := 0, ground := Ground.phase }, { on := 1, ground := Ground.phase }, { on := 2, ground := Ground.phase }, { on := 3, ground := Ground.phase }, { on := 4, ground := Ground.phase }, { on := 5, ground := Ground.phase }, { on := 6, ground := Ground.phase }, { on := 7, ground := Ground.phase }, { on := 8, ground := Ground.phase }, { on := 9, ground := Ground.phase }, { on := 10, ground := Ground.phase }, { on := 11, ground := Ground.phase }, { on := 12, ground := Ground.phase }, { on := 13, ground := Ground.phase }, { on := 14, ground := Ground.phase }, { on := 15, ground := Ground.phase }, { on := 16, ground := Ground.phase }, { on := 17, ground := Ground.phase }, { on := 18, ground := Ground.phase }, { on := 19, ground := Ground.phase }, { on := 20, ground := Ground.phase }, { on := 21, ground := Ground.phase }, { on := 22, ground := Ground.phase }, { on := 23, ground := Ground.phase }, { on := 24, ground := Ground.phase }], guard := none }) (v := ?_) rfl (by kernel_rfl) (by kernel_rfl) (by kernel_rfl) (fun _ _ _ h => h) (Or.inl ⟨by rfl, ?_⟩) (by assumption) ?_
              rotate_left
              · ((intro w hSw; (try dsimp only at hSw); go_simp) <;> with_reducible rfl)
              simp only [Act.put, List.setIfInBounds_toArray, List.set_cons_zero, List.set_cons_succ]
              refine wpAnyH_ready (rs := [26]) (by kernel_rfl) (by simp) ?_
              refine AllReadyH.cons (o := { dst := none, op := Op.store 32 (Operand.tmp 83) (Operand.tmp 82), type := 0, pos := "ref.go:119", after := #[{ on := 25, ground := Ground.data }, { on := 24, ground := Ground.data }, { on := 24, ground := Ground.chain }, { on := 0, ground := Ground.phase }, { on := 1, ground := Ground.phase }, { on := 2, ground := Ground.phase }, { on := 3, ground := Ground.phase }, { on := 4, ground := Ground.phase }, { on := 5, ground := Ground.phase }, { on := 6, ground := Ground.phase }, { on := 7, ground := Ground.phase }, { on := 8, ground := Ground.phase }, { on := 9, ground := Ground.phase }, { on := 10, ground := Ground.phase }, { on := 11, ground := Ground.phase }, { on := 12, ground := Ground.phase }, { on := 13, ground := Ground.phase }, { on := 14, ground := Ground.phase }, { on := 15, ground := Ground.phase }, { on := 16, ground := Ground.phase }, { on := 17, ground := Ground.phase }, { on := 18, ground := Ground.phase }, { on := 19, ground := Ground.phase }, { on := 20, ground := Ground.phase }, { on := 21, ground := Ground.phase }, { on := 22, ground := Ground.phase }, { on := 23, ground := Ground.phase }, { on := 24, ground := Ground.phase }], guard := none }) rfl (fun K hK => ?_) AllReadyH.nil
              have kk := (unhide HK _ hB7).2.1
              have kf := (unhide HK _ hB7).2.2.1
              go_simp
              refine hK.out _ _ ?_ (fun hHeld => ?_)
              · exact (unhide HK _ hB7).2.2.2 _
              clear hK K
              clear kk kf
              refine wpAnyH_done (by kernel_rfl) ?_ _
              clear HK CL hB0 hB7 hHeld
              go_wp2
              go_roundw
              case rel => exact ⟨k + 1, _, by omega, by omega, by go_num, FIN⟩
              case measure => simp [intOf]; omega
          · have hkm : k = ml := by omega
            have hgD : decide ((k : Int) < (ml : Int)) = false := decide_eq_false (by omega)
            have hgI : ¬ (k : Int) < (ml : Int) := by omega
            have NX' := hide ((unhide hI).congr (a' := crF s dn c) (fun j hj => if_pos (by omega)) (Nat.le_refl _))
            clear hI hSB hkm
            go_wp2
            go_roundw
            case rel => exact ⟨c + 1, dn + 1, g2, cp2, N2, crF s dn c, by omega, by omega, rfl, by go_num, by go_num, NX', ST'⟩
            case measure => simp [intOf]; omega
    · have hcn : c = n := by omega
      have hgD : decide ((c : Int) < (n : Int)) = false := decide_eq_false (by omega)
      have hgI : ¬ (c : Int) < (n : Int) := by omega
      subst hcn
      have RK := hide (unhide hST).rank
      have BW := hide hbw
      clear hST hNX hbw
      go_wp2_with (go_at_call 21; refine (unhide CW2).mono ?_; rintro e w' ⟨rfl, rfl⟩)
      go_ret
      exact ⟨⟨dn, rfl, RK⟩, unhide BW⟩

end Go.Proofs.Ytnpogpoknbgodaa

/- The law ExactRanks, walked. -/
namespace Go.Proofs.Ytnpogpoknbgodaa
open Go.RowKit
attribute [local go_sem ↓] Go.wp_at_zero Go.wp_at_succ

set_option maxHeartbeats 4000000 in
theorem refRank_nil (ao : Option Addr) (cap : Nat) (w : World) (h : MatAt w ao cap []) :
    Calls Try.prog 9 #[.slice ao 0 cap] w fun e w' => e = .returned (.int .i64 0) ∧ Below w.heap.size w w' := by
  have CW := hide (fun w' (hb : Below w.heap.size w w') => refWidth_any ao cap [] w' (h.below hb) ⟨by simp, by simp⟩)
  simp only [List.length_nil, show width [] = 0 from rfl] at CW
  have B0 := hide (show Below w.heap.size w (w.alloc (.cells #[] 32)) from (Below.refl _ _).alloc (Nat.le_refl _) _)
  clear h
  rcases ao with _ | a
  · go_enter Try.func9, Try.ntmps9
    go_wp2_with fail
    go_loopw [3, 4, 5] (fun _ d ci wr => d = .int .i64 0 ∧ ci = .int .i64 0 ∧ Hid (Below w.heap.size w wr)) (fun _ _ _ _ => 0)
    case atStart => exact ⟨rfl, rfl, B0⟩
    case round =>
      obtain ⟨rfl, rfl, hB⟩ := hrel
      clear B0
      have CW2 := hide (unhide CW _ (unhide hB))
      go_wp2_with (go_at_call 21; refine (unhide CW2).mono ?_; rintro e w' ⟨rfl, rfl⟩)
      go_ret
      exact ⟨rfl, unhide hB⟩
  · go_enter Try.func9, Try.ntmps9
    go_wp2_with fail
    go_loopw [3, 4, 5] (fun _ d ci wr => d = .int .i64 0 ∧ ci = .int .i64 0 ∧ Hid (Below w.heap.size w wr)) (fun _ _ _ _ => 0)
    case atStart => exact ⟨rfl, rfl, B0⟩
    case round =>
      obtain ⟨rfl, rfl, hB⟩ := hrel
      clear B0
      have CW2 := hide (unhide CW _ (unhide hB))
      go_wp2_with (go_at_call 21; refine (unhide CW2).mono ?_; rintro e w' ⟨rfl, rfl⟩)
      go_ret
      exact ⟨rfl, unhide hB⟩

/-- The reference's rank is the rank, whatever right rows there are. -/
theorem refRank_all (ao : Option Addr) (cap : Nat) (M : List Rw) (w : World) (h : MatAt w ao cap M) (hs : SmallM M) (h0 : mChk M = 0) (hl : litB 4 M = true) :
    Calls Try.prog 9 #[.slice ao M.length cap] w fun e w' => ∃ k : Nat, e = .returned (.int .i64 k) ∧ IsRank k (valM M) M.length (width M) ∧ Below w.heap.size w w' := by
  have hg := good_of h h0
  by_cases hm : M = []
  · subst hm
    refine (refRank_nil ao cap w h).mono ?_
    rintro e w' ⟨rfl, hb⟩
    exact ⟨0, rfl, (St.start (valM []) 0 0).rank, hb⟩
  · have hm0 : 0 < M.length := List.length_pos_iff.2 hm
    obtain ⟨b, off, rfl, hbb, hcc⟩ := h.ne hm0
    refine (refRank_any b off cap M (width M) w h hs hg rfl hm0 (fun i c hi hc => lit_bound h hl hg hi hc)).mono ?_
    rintro e w' ⟨⟨k, rfl, hk⟩, hb⟩
    exact ⟨k, rfl, unhide hk, hb⟩

set_option maxHeartbeats 4000000 in
theorem exactRanks_walk (ao : Option Addr) (cap : Nat) (M : List Rw) (w : World) (h : MatAt w ao cap M) (hs : SmallM M) :
    Calls Try.prog 3 #[.slice ao M.length cap] w fun e w' => e = .returned (.bool true) ∧ Below w.heap.size w w' := by
  have CL := hide (fun w' h' => light_any ao cap M 4 w' h' hs)
  have CC := hide (fun w' h' => refCheck_any ao cap M w' h' hs)
  have CR := hide (fun w' h' => rank_any ao cap M w' h' hs)
  have HM := hide h
  by_cases hlit : litB 4 M = true
  rotate_left
  · have hlf : litB 4 M = false := by simpa using hlit
    rw [hlf] at CL
    clear h hs hlit hlf CC CR
    go_enter Try.func3, Try.ntmps3
    go_wp2_with fail
    refine (unhide CL _ (unhide HM)).mono ?_
    rintro e w1 ⟨rfl, hb1⟩
    have B1 := hide hb1
    clear hb1 CL HM
    go_wp2_with fail
    refine (awake3_any _).mono ?_
    rintro e w3 ⟨rfl, hb3⟩
    have B3 := hide ((unhide B1).trans (hb3.mono (unhide B1).size))
    clear hb3 B1
    go_wp2_with fail
    go_ret
    exact ⟨rfl, unhide B3⟩
  rw [hlit] at CL
  by_cases h0 : mChk M = 0
  rotate_left
  · have CR' := hide (fun w' h' => (unhide CR w' h').mono (fun e w'' hh => (show e = .returned (.tuple #[.int .i64 0, .int .i64 (mChk M)]) ∧ Below w'.heap.size w' w'' from by
      obtain ⟨k, e1, e2, e3, e4⟩ := hh
      rw [e3 h0] at e1
      exact ⟨e1, e4⟩)))
    generalize mChk M = ce at *
    have hne : (ce == 0) = false := by simp; exact h0
    have hne2 : (ce != 0) = true := by simp [bne, hne]
    have hce : (ce == ce) = true := by simp
    have hce2 : (ce != ce) = false := by simp
    clear h hs hlit CR h0
    go_enter Try.func3, Try.ntmps3
    go_wp2_with fail
    refine (unhide CL _ (unhide HM)).mono ?_
    rintro e w1 ⟨rfl, hb1⟩
    have B1 := hide hb1
    clear hb1 CL
    go_wp2_with fail
    refine (unhide CR' _ ((unhide HM).below (unhide B1))).mono ?_
    rintro e w2 ⟨rfl, hb2⟩
    have B2 := hide ((unhide B1).trans (hb2.mono (unhide B1).size))
    clear hb2 B1 CR'
    go_wp2_with fail
    refine (unhide CC _ ((unhide HM).below (unhide B2))).mono ?_
    rintro e w3 ⟨rfl, hb3⟩
    have B3 := hide ((unhide B2).trans (hb3.mono (unhide B2).size))
    clear hb3 B2 CC HM
    go_wp2_with fail
    refine (awake3_any _).mono ?_
    rintro e w4 ⟨rfl, hb4⟩
    have B4 := hide ((unhide B3).trans (hb4.mono (unhide B3).size))
    clear hb4 B3
    go_wp2_with fail
    go_ret
    exact ⟨rfl, unhide B4⟩
  · have CK := hide (fun w' h' => refRank_all ao cap M w' h' hs h0 hlit)
    have CR' := hide (fun w' h' => (unhide CR w' h').mono (fun e w'' hh => (show ∃ k : Nat, e = .returned (.tuple #[.int .i64 (k : Int), .int .i64 0]) ∧ IsRank k (valM M) M.length (width M) ∧ Below w'.heap.size w' w'' from by
      obtain ⟨k, e1, e2, e3, e4⟩ := hh
      rw [h0] at e1
      exact ⟨k, e1, e2 h0, e4⟩)))
    rw [h0] at CC
    clear h hs hlit CR h0
    go_enter Try.func3, Try.ntmps3
    go_wp2_with fail
    refine (unhide CL _ (unhide HM)).mono ?_
    rintro e w1 ⟨rfl, hb1⟩
    have B1 := hide hb1
    clear hb1 CL
    go_wp2_with fail
    refine (unhide CR' _ ((unhide HM).below (unhide B1))).mono ?_
    rintro e w2 ⟨k, rfl, hk, hb2⟩
    have B2 := hide ((unhide B1).trans (hb2.mono (unhide B1).size)); have RK := hide hk
    clear hb2 B1 CR' hk
    go_wp2_with fail
    refine (unhide CC _ ((unhide HM).below (unhide B2))).mono ?_
    rintro e w3 ⟨rfl, hb3⟩
    have B3 := hide ((unhide B2).trans (hb3.mono (unhide B2).size))
    clear hb3 B2 CC
    go_wp2_with fail
    refine (unhide CK _ ((unhide HM).below (unhide B3))).mono ?_
    rintro e w4 ⟨k', rfl, hk', hb4⟩
    have B4 := hide ((unhide B3).trans (hb4.mono (unhide B3).size))
    obtain rfl : k = k' := (unhide RK).unique hk'
    clear hb4 B3 CK HM RK hk'
    have hkk : ((k : Int) == (k : Int)) = true := by simp
    go_wp2_with fail
    refine (awake3_any _).mono ?_
    rintro e w5 ⟨rfl, hb5⟩
    have B5 := hide ((unhide B4).trans (hb5.mono (unhide B4).size))
    clear hb5 B4
    go_wp2_with fail
    go_ret
    exact ⟨rfl, unhide B5⟩

end Go.Proofs.Ytnpogpoknbgodaa

/- A struct of a sign and limbs that came in, opened. -/
namespace Go.Proofs.Ytnpogpoknbgodaa
open Go.ChangeShapes Go.WideShapes Go.ChangeAt Go.RowKit Go.Joins

theorem Try.own : ownKnob Try.prog.godebug = none := by kernel_rfl
theorem Try.laidOut : laidOutB Try.prog = true := by kernel_rfl
theorem Try.cellsW : Try.prog.cellsOf 35 = 2 := by kernel_rfl
theorem Try.cellsU : Try.prog.cellsOf 60 = 1 := by kernel_rfl
theorem Try.bytesU : Try.prog.bytesOf 60 = 4 := by kernel_rfl

theorem bounds_of_u32 {x : Int} (h : (Lit.int .u32 x).wf = true) : 0 ≤ x ∧ x < 4294967296 := by
  simp [Lit.wf, IntKind.min, IntKind.max, IntKind.signed, IntKind.bits] at h
  omega

theorem limbs_of_ints {W : World} {a : Addr} {len cap : Nat} {zs : List Int} (hl : len ≤ cap) (hz : zs.length = cap) (hc : ∀ i, i < zs.length → W.cell? (a.add i) = some (.int .u32 (zs.getD i 0))) (hw : ∀ n ∈ zs, (Lit.int .u32 n).wf = true) :
    LimbsAt W (some a) cap ((zs.take len).map Int.toNat) ∧ ((zs.take len).map Int.toNat).length = len := by
  have hlen : ((zs.take len).map Int.toNat).length = len := by simp; omega
  refine ⟨⟨by omega, ?_, ?_⟩, hlen⟩
  · intro x hx
    obtain ⟨y, hy, rfl⟩ := List.mem_map.1 hx
    have := bounds_of_u32 (hw y (List.mem_of_mem_take hy))
    omega
  · rcases Nat.eq_zero_or_pos len with rfl | hp
    · left; simp
    · right
      obtain ⟨b, off, spot⟩ := a
      have h0 := hc 0 (by omega)
      have hspot : spot = none := by simpa [Addr.add] using World.cell?_spot h0
      subst hspot
      have hb : b < W.heap.size := by
        have := World.block_lt_of_cell? W _ h0
        simpa [Addr.add] using this
      refine ⟨b, off, rfl, hb, fun i hi => ?_⟩
      have h1 := hc i (by omega)
      have h2 : (0 : Int) ≤ zs[i]'(by omega) := (bounds_of_u32 (hw _ (List.getElem_mem _))).1
      have h3 : (⟨b, off, none⟩ : Addr).add i = ⟨b, off + i, none⟩ := by simp [Addr.add]
      rw [h3] at h1
      rw [h1]
      have e : ((zs.take len).map Int.toNat)[i]?.getD 0 = (zs[i]'(by omega)).toNat := by
        rw [List.getElem?_map, List.getElem?_take, if_pos (by omega), List.getElem?_eq_getElem (by omega)]; rfl
      rw [e, List.getD_eq_getElem?_getD, List.getElem?_eq_getElem (by omega)]
      simp only [Option.getD_some, Option.some.injEq, Value.int.injEq, true_and]
      omega

/-- A number that came in: its sign, its limbs, where they lie; by the row's own reach they are not too many. -/
theorem open_whole {H : Type} {enc : TypeId × Value → H} {W : World} {base : Nat} {v : Value} {d : DataW H} {p : List MemPlace} (hval : Value.okWide Try.prog W .any base 35 v) (h : DataW.Trod enc Try.prog W 0 (fun _ => true) true 35 v d p)
    (hs : ∀ n ∈ d.weights Try.prog 35, n ≤ reachBytes) :
    ∃ neg ao cap L, v = .agg #[.bool neg, .slice ao L.length cap] ∧ LimbsAt W ao cap L ∧ L.length ≤ 35184372087808 := by
  obtain ⟨c0, c1, y0, y1, m, rfl, rfl, rfl, hy0, hy1⟩ := open_agg2 Try.underlying35 (by kernel_rfl) Try.cellsW hval h
  obtain ⟨neg, e0, rfl⟩ := DataW.trod_bool Try.underlying4 hy0
  simp at e0
  subst e0
  rcases open_ints Try.underlying33 Try.underlying60 Try.cellsU hy1 with ⟨hcs, _⟩ | ⟨a, len, cap, zs, hcs, _, hl, hm, hz, rfl, hcell, hwz⟩
  · simp at hcs
    subst hcs
    exact ⟨neg, none, 0, [], rfl, LimbsAt.nil _ _ _, by simp⟩
  · simp at hcs
    subst hcs
    obtain ⟨h1, h2⟩ := limbs_of_ints hl (by simpa using hz) hcell hwz
    refine ⟨neg, some a, cap, _, by rw [h2], h1, ?_⟩
    have hk := hs ((zs.length) * 4) (by
      simp only [DataW.weights, Try.underlying35, DataW.weightsEach, List.map, Try.underlying33, List.nil_append, List.append_nil, List.mem_cons, Try.bytesU, lits, List.length_map, List.length_take, List.length_drop]
      left
      omega)
    simp only [reachBytes] at hk
    rw [h2]
    have : zs.length = cap := by simpa using hz
    omega

end Go.Proofs.Ytnpogpoknbgodaa

/- Rows of numbers that came in, opened. -/
namespace Go.Proofs.Ytnpogpoknbgodaa
open Go.ChangeShapes Go.WideShapes Go.ChangeAt Go.RowKit Go.Joins Go.Deep

instance : Inhabited Nm := ⟨Nm.nil⟩
instance : Inhabited Rw := ⟨Rw.nil⟩
theorem Try.cellsB : Try.prog.cellsOf 4 = 1 := by kernel_rfl
theorem Try.cellsL : Try.prog.cellsOf 33 = 1 := by kernel_rfl
theorem Try.cellsR : Try.prog.cellsOf 32 = 1 := by kernel_rfl
theorem Try.bytesW : Try.prog.bytesOf 35 = 32 := by kernel_rfl
theorem Try.bytesR : Try.prog.bytesOf 32 = 24 := by kernel_rfl

theorem mem_weightsAll {H : Type} {P : Program} {e : TypeId} : ∀ {ds : List (DataW H)} {d : DataW H}, d ∈ ds → ∀ n ∈ d.weights P e, n ∈ DataW.weightsAll P e ds
  | d0 :: ds, d, hd, n, hn => by
    show n ∈ d0.weights P e ++ DataW.weightsAll P e ds
    rcases List.mem_cons.1 hd with rfl | hd
    · exact List.mem_append_left _ hn
    · exact List.mem_append_right _ (mem_weightsAll hd n hn)

theorem cell_plain {W : World} {a : Addr} {v : Value} (h : W.cell? a = some v) : a.spot = none ∧ a.block < W.heap.size := ⟨World.cell?_spot h, World.block_lt_of_cell? W _ h⟩

theorem add_plain (b off i : Nat) : (⟨b, off, none⟩ : Addr).add i = ⟨b, off + i, none⟩ := by simp [Addr.add]

/-- The two parts of a number. -/
theorem open_parts {H : Type} {enc : TypeId × Value → H} {W : World} {n : Nat} {v0 v1 : Value} {d0 d1 : DataW H} {p0 p1 : List MemPlace} (h0 : DataW.trod enc Try.prog W 0 (fun _ => true) true n 4 [v0] = some (d0, p0)) (h1 : DataW.trod enc Try.prog W 0 (fun _ => true) true n 33 [v1] = some (d1, p1))
    (hs : ∀ k ∈ d1.weights Try.prog 33, k ≤ reachBytes) : ∃ x : Nm, v0 = .bool x.neg ∧ v1 = .slice x.ao x.L.length x.cap ∧ LimbsAt W x.ao x.cap x.L ∧ x.L.length ≤ 35184372087808 := by
  obtain ⟨neg, e0, -⟩ := DataW.trod_bool Try.underlying4 h0
  simp at e0
  subst e0
  rcases open_ints Try.underlying33 Try.underlying60 Try.cellsU h1 with ⟨hcs, _⟩ | ⟨a, len, cap, zs, hcs, _, hl, hm, hz, hx, hcell, hwz⟩
  · simp at hcs
    subst hcs
    exact ⟨⟨neg, none, 0, []⟩, rfl, rfl, LimbsAt.nil _ _ _, by simp⟩
  · simp at hcs
    subst hcs
    simp only [Prod.mk.injEq] at hx
    obtain ⟨rfl, -⟩ := hx
    obtain ⟨h1, h2⟩ := limbs_of_ints hl (by simpa using hz) hcell hwz
    refine ⟨⟨neg, some a, cap, _⟩, rfl, by rw [h2], h1, ?_⟩
    have hk := hs ((zs.length) * 4) (by
      simp only [DataW.weights, Try.underlying33, List.mem_cons, Try.bytesU, lits, List.length_map, List.length_take, List.length_drop]
      left
      omega)
    simp only [reachBytes] at hk
    show _ ≤ 35184372087808
    rw [h2]
    have : zs.length = cap := by simpa using hz
    omega

/-- A row of numbers. -/
theorem open_nums {H : Type} {enc : TypeId × Value → H} {W : World} {fuel : Nat} {cs : List Value} {x : DataW H × List MemPlace} (h : DataW.trod enc Try.prog W 0 (fun _ => true) true fuel 32 cs = some x)
    (hs : ∀ k ∈ x.1.weights Try.prog 32, k ≤ reachBytes) : ∃ r : Rw, cs = [.slice r.ao r.R.length r.cap] ∧ NumsAt W r.ao r.cap r.R ∧ r.R.length ≤ 35184372088830 ∧ ∀ y ∈ r.R, y.L.length ≤ 35184372088830 := by
  rcases open_slice_pairs Try.underlying32 Try.underlying35 Try.cellsW rfl rfl Try.cellsB Try.cellsL h with ⟨hc, _⟩ | ⟨a, len, cap, m, n, V0, V1, D0, D1, P0, P1, hc, _, hl, hm, hmm, hx, hall⟩
  · exact ⟨Rw.nil, hc, ⟨by simp [Rw.nil], by simp [Rw.nil], .inl rfl⟩, by simp [Rw.nil], by simp [Rw.nil]⟩
  · subst hx
    have hmm' : m = cap := by simpa using hmm
    subst hmm'
    have hw : ∀ i, i < len → ∀ k ∈ (D1 i).weights Try.prog 33, k ≤ reachBytes := by
      intro i hi k hk
      refine hs k ?_
      simp only [DataW.weights, Try.underlying32]
      refine List.mem_cons_of_mem _ (List.mem_append_left _ (mem_weightsAll (d := .agg [D0 i, D1 i]) (List.mem_map.2 ⟨i, List.mem_range.2 hi, rfl⟩) k ?_))
      simp only [DataW.weights, Try.underlying35]
      exact DataW.weights_mem_each (j := 1) rfl rfl k hk
    obtain ⟨f, hf⟩ := choose_lt (n := len) (p := fun i (y : Nm) => V0 i = .bool y.neg ∧ V1 i = .slice y.ao y.L.length y.cap ∧ LimbsAt W y.ao y.cap y.L ∧ y.L.length ≤ 35184372087808) (fun i hi => by
      obtain ⟨_, _, t0, t1⟩ := hall i (by omega)
      exact open_parts t0 t1 (hw i hi))
    have hlen : ((List.range len).map f).length = len := by simp
    have hlb : len ≤ 35184372088830 := by
      have := hs ((len + (m - len)) * 32) (by
        simp only [DataW.weights, Try.underlying32, Try.bytesW, List.length_map, List.length_range]
        exact List.mem_cons_self)
      simp only [reachBytes] at this
      omega
    have hnm : ∀ k, k < len → nmAt ((List.range len).map f) k = f k := fun k hk => by
      unfold nmAt
      rw [List.getElem?_map, List.getElem?_range hk]; rfl
    refine ⟨⟨some a, m, (List.range len).map f⟩, by rw [hc]; simp, ⟨by simp; omega, ?_, ?_⟩, by simp; omega, ?_⟩
    · intro y hy
      obtain ⟨i, hi, rfl⟩ := List.mem_map.1 hy
      exact (hf i (List.mem_range.1 hi)).2.2.1
    · rcases Nat.eq_zero_or_pos len with rfl | hp
      · left; simp
      · right
        obtain ⟨b, off, spot⟩ := a
        obtain ⟨e1, e2⟩ := cell_plain (hall 0 (by omega)).1
        have hspot : spot = none := by simpa [Addr.add] using e1
        subst hspot
        refine ⟨b, off, rfl, by simpa [Addr.add] using e2, fun k hk => ?_⟩
        simp only [hlen] at hk
        obtain ⟨g0, g1, g2, _⟩ := hf k hk
        obtain ⟨q0, q1, _, _⟩ := hall k (by omega)
        rw [hnm k hk, ← g0, ← g1]
        rw [add_plain] at q0 q1
        refine ⟨q0, ?_⟩
        rw [Nat.add_assoc]; exact q1
    · intro y hy
      obtain ⟨i, hi, rfl⟩ := List.mem_map.1 hy
      have := (hf i (List.mem_range.1 hi)).2.2.2
      omega

/-- Rows of numbers that came in. -/
theorem open_rows {H : Type} {enc : TypeId × Value → H} {W : World} {base : Nat} {v : Value} {d : DataW H} {p : List MemPlace} (hval : Value.okWide Try.prog W .any base 22 v) (h : DataW.Trod enc Try.prog W 0 (fun _ => true) true 22 v d p)
    (hs : ∀ n ∈ d.weights Try.prog 22, n ≤ reachBytes) : ∃ ao cap M, v = .slice ao M.length cap ∧ MatAt W ao cap M ∧ SmallM M := by
  obtain ⟨a0, len0, cap0, rfl⟩ := okWide_slice Try.underlying22 hval
  obtain ⟨fuel, hf0⟩ := h
  rcases open_slice1 Try.underlying22 Try.cellsR hf0 with ⟨hc, _⟩ | ⟨a, len, cap, m, n, V, D, Pl, hc, _, hl, hm, hmm, hx, hall⟩
  · simp [Value.cells] at hc
    obtain ⟨rfl, rfl, rfl⟩ := hc
    exact ⟨none, 0, [], rfl, ⟨by simp, by simp, .inl rfl⟩, ⟨by simp, by simp⟩⟩
  · simp [Value.cells] at hc
    obtain ⟨rfl, rfl, rfl⟩ := hc
    simp only [Prod.mk.injEq] at hx
    obtain ⟨rfl, -⟩ := hx
    have hmm' : m = cap0 := by simpa using hmm
    subst hmm'
    have hw : ∀ i, i < len0 → ∀ k ∈ (D i).weights Try.prog 32, k ≤ reachBytes := by
      intro i hi k hk
      refine hs k ?_
      simp only [DataW.weights, Try.underlying22]
      exact List.mem_cons_of_mem _ (List.mem_append_left _ (mem_weightsAll (List.mem_map.2 ⟨i, List.mem_range.2 hi, rfl⟩) k hk))
    obtain ⟨f, hf⟩ := choose_lt (n := len0) (p := fun i (r : Rw) => [V i] = [.slice r.ao r.R.length r.cap] ∧ NumsAt W r.ao r.cap r.R ∧ r.R.length ≤ 35184372088830 ∧ ∀ y ∈ r.R, y.L.length ≤ 35184372088830) (fun i hi => open_nums (hall i (by omega)).2 (hw i hi))
    have hlen : ((List.range len0).map f).length = len0 := by simp
    have hlb : len0 ≤ 35184372088830 := by
      have := hs ((len0 + (m - len0)) * 24) (by
        simp only [DataW.weights, Try.underlying22, Try.bytesR, List.length_map, List.length_range]
        exact List.mem_cons_self)
      simp only [reachBytes] at this
      omega
    have hnm : ∀ k, k < len0 → rwAt ((List.range len0).map f) k = f k := fun k hk => by
      unfold rwAt
      rw [List.getElem?_map, List.getElem?_range hk]; rfl
    refine ⟨some a, m, (List.range len0).map f, by rw [hlen], ⟨by simp; omega, ?_, ?_⟩, ⟨by simp; omega, ?_⟩⟩
    · intro r hr
      obtain ⟨i, hi, rfl⟩ := List.mem_map.1 hr
      exact (hf i (List.mem_range.1 hi)).2.1
    · rcases Nat.eq_zero_or_pos len0 with rfl | hp
      · left; simp
      · right
        obtain ⟨b, off, spot⟩ := a
        obtain ⟨e1, e2⟩ := cell_plain (hall 0 (by omega)).1
        have hspot : spot = none := by simpa [Addr.add] using e1
        subst hspot
        refine ⟨b, off, rfl, by simpa [Addr.add] using e2, fun i hi => ?_⟩
        simp only [hlen] at hi
        obtain ⟨g0, _⟩ := hf i hi
        have q0 := (hall i (by omega)).1
        rw [hnm i hi]
        rw [add_plain] at q0
        simp only [List.cons.injEq, and_true] at g0
        rw [q0, g0]; rfl
    · intro r hr
      obtain ⟨i, hi, rfl⟩ := List.mem_map.1 hr
      exact (hf i (List.mem_range.1 hi)).2.2

end Go.Proofs.Ytnpogpoknbgodaa

