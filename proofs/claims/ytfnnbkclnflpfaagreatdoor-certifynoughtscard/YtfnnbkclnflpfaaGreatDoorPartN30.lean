/- Part 30 of the texts. -/
import Derived.Test.YtfnnbkclnflpfaaGreatDoorPartN22
import Derived.Test.YtfnnbkclnflpfaaGreatDoorPartN23
import Derived.Test.YtfnnbkclnflpfaaGreatDoorPartN24
import Derived.Deep.RegionLaw
import Derived.Test.YtfnnbkclnflpfaaGreatDoorPartN15
import Derived.Deep.RegionHeld3
import Derived.Test.YtfnnbkclnflpfaaGreatDoorPartN16
import Derived.Test.YtfnnbkclnflpfaaGreatDoorPartN29
import Derived.Test.YtfnnbkclnflpfaaGreatDoorPartN25
import Derived.Test.YtfnnbkclnflpfaaGreatDoorPartN07
import Derived.Test.YtfnnbkclnflpfaaGreatDoorPartN26
import Derived.Deep.AppendLies
import Derived.Test.YtfnnbkclnflpfaaGreatDoorPartN17
/- The reference of layer 11: Check, Square, Tame. The law's told, one, awake. -/
namespace Go.Proofs.YtfnnbkclnflpfaaGreatDoor
open Go.RowKit
attribute [local go_sem ↓] Go.wp_at_zero Go.wp_at_succ

theorem ckE_three (r c : Int) (I : List Int) : ckE r c I = 0 ∨ ckE r c I = 1 ∨ ckE r c I = 4 := by
  unfold ckE
  split
  · split
    · exact .inl rfl
    · exact .inr (.inr rfl)
  · exact .inr (.inl rfl)

set_option maxRecDepth 20000 in
set_option maxHeartbeats 4000000 in
theorem r11check_any (r c : Int) (ao : Option Addr) (cap : Nat) (I : List Int) (w : World) (hI : BitsAt w ao cap I) (hn : I.length ≤ 35184372088830) :
    Calls Tryz.prog 11 #[.agg #[.int .i64 r, .int .i64 c, .slice ao I.length cap]] w fun e w' => e = .returned (.int .i64 (ckE r c I)) ∧ Below w.heap.size w w' := by
  have K1 := hide (fun w' => rright_any r c ao I.length cap w')
  have K2 := hide (fun w' (h : BitsAt w' ao cap I) => r9finite_any ao cap I w' h hn)
  have BB := hide (below_alloc9 w (.cells #[.int .i64 r, .int .i64 c, .slice ao I.length cap] 24))
  have X0 := hide (BoxM.new w (.int .i64 r) (.int .i64 c) (.slice ao I.length cap))
  have HI := hide hI
  unfold ckE
  generalize okB r c I.length = b at *
  generalize fnK I I.length = f at *
  generalize I.length = n at *
  clear hI
  cases b
  · clear K2
    go_enter Tryz.func11, Tryz.ntmps11
    go_wp2_with fail
    refine (unhide K1 _).mono ?_
    rintro e w1 ⟨rfl, hb1⟩
    have PB := hide ((unhide BB).trans (hb1.mono (unhide BB).size))
    clear hb1 K1 X0
    go_wp2
    go_ret
    exact ⟨rfl, unhide PB⟩
  · cases f
    all_goals
      go_enter Tryz.func11, Tryz.ntmps11
      go_wp2_with fail
      refine (unhide K1 _).mono ?_
      rintro e w1 ⟨rfl, hb1⟩
      replace BB := hide ((unhide BB).trans (hb1.mono (unhide BB).size)); replace X0 := hide ((unhide X0).all hb1)
      clear hb1 K1
      have y2 := (unhide X0).c2
      go_wp2_with fail
      refine (unhide K2 _ ((unhide HI).below (unhide BB))).mono ?_
      rintro e w2 ⟨rfl, hb1⟩
      replace BB := hide ((unhide BB).trans (hb1.mono (unhide BB).size))
      clear hb1 K2 y2
      go_wp2
      go_ret
      exact ⟨rfl, unhide BB⟩

theorem fnK_all {I : List Int} : ∀ n, fnK I n = true ↔ ∀ k, k < n → fFin (atB I k) = true
  | 0 => ⟨fun _ k hk => by omega, fun _ => rfl⟩
  | n + 1 => by
    show (fnK I n && fFin (atB I n)) = true ↔ _
    rw [Bool.and_eq_true, fnK_all n]
    constructor
    · rintro ⟨h1, h2⟩ k hk
      by_cases e : k = n
      · subst e; exact h2
      · exact h1 k (by omega)
    · exact fun h => ⟨fun k hk => h k (by omega), h n (by omega)⟩
theorem fin_all {S : List Nat} (h : fnK (mxL S) S.length = true) : ∀ x ∈ S, fFin x = true := fun x hx => by
  obtain ⟨i, hi, rfl⟩ := List.getElem_of_mem hx
  have := (fnK_all _).1 h i hi
  rw [mxL_at] at this
  rwa [List.getD_eq_getElem?_getD, List.getElem?_eq_getElem hi] at this
/-- What Check's answer 0 says. -/
theorem ckE_zero {r c : Int} {I : List Int} (h : ckE r c I = 0) : okB r c I.length = true ∧ fnK I I.length = true := by
  unfold ckE at h
  by_cases h1 : okB r c I.length = true
  · rw [if_pos h1] at h
    refine ⟨h1, ?_⟩
    by_cases h2 : fnK I I.length = true
    · exact h2
    · rw [if_neg h2] at h; omega
  · rw [if_neg h1] at h; omega
theorem Mx.asked {w : World} {ao : Option Addr} {cap : Nat} {I : List Int} {r c : Int} (h : BitsAt w ao cap I) (hc : ckE r c I = 0) : ∃ p q : Nat, r = (p : Int) ∧ c = (q : Int) ∧ Mx w ao cap p q (natL I) ∧ mxL (natL I) = I ∧ (∀ x ∈ natL I, fFin x = true) := by
  obtain ⟨h1, h2⟩ := ckE_zero hc
  obtain ⟨p, q, e1, e2, hM, hS⟩ := Mx.of h h1
  refine ⟨p, q, e1, e2, hM, hS, fin_all ?_⟩
  rw [hS, natL_len]
  exact h2

end Go.Proofs.YtfnnbkclnflpfaaGreatDoor

/- The law of layer 11: told, one, awake. -/
namespace Go.Proofs.YtfnnbkclnflpfaaGreatDoor
open Go.RowKit
attribute [local go_sem ↓] Go.wp_at_zero Go.wp_at_succ
set_option maxRecDepth 20000 in
set_option maxHeartbeats 4000000 in
theorem one11_any (b : Nat) (hb : b < 18446744073709551616) (w : World) :
    Calls Tryz.prog 43 #[.int .u64 b] w fun e w' => ∃ ao cap, e = .returned (.agg #[.int .i64 1, .int .i64 1, .slice ao 1 cap]) ∧ BitsAt w' ao cap (mxL [b]) ∧ Below w.heap.size w w' := by
  have b0 := below_alloc9 w (.cells #[.int .i64 1, .int .i64 1, .slice (some ⟨w.heap.size + 1, 0, none⟩) 1 1] 24)
  have s0 := size_alloc9 w (.cells #[.int .i64 1, .int .i64 1, .slice (some ⟨w.heap.size + 1, 0, none⟩) 1 1] 24)
  have x0 := BoxM.new w (.int .i64 1) (.int .i64 1) (.slice (some ⟨w.heap.size + 1, 0, none⟩) 1 1)
  generalize hw0 : w.alloc (.cells #[.int .i64 1, .int .i64 1, .slice (some ⟨w.heap.size + 1, 0, none⟩) 1 1] 24) = w0 at *
  have b1 := below_alloc9 w0 (.cells #[.int .u64 b] 52)
  have h1 := heap_alloc_new w0 (.cells #[.int .u64 b] 52)
  have s1 := size_alloc9 w0 (.cells #[.int .u64 b] 52)
  have x1 := x0.all b1
  have hB : BitsAt (w0.alloc (.cells #[.int .u64 b] 52)) (some ⟨w.heap.size + 1, 0, none⟩) 1 (mxL [b]) := by
    refine ⟨by simp [mxL], fun x hx => ?_, .inr ⟨_, _, rfl, by omega, fun i hi => ?_⟩⟩
    · obtain rfl : x = (b : Int) := by simpa [mxL] using hx
      omega
    · obtain rfl : i = 0 := by simpa [mxL] using hi
      rw [s0] at h1
      rw [cell_of_row _ _ _ _ _ _ h1]; rfl
  have y0 := x1.c0; have y1 := x1.c1; have y2 := x1.c2
  have HB := hide hB; have BB := hide (b0.trans (b1.mono b0.size))
  rw [← hw0] at y0 y1 y2 HB BB
  clear b0 s0 x0 hw0 b1 h1 s1 x1 hB
  go_enter Tryz.func43, Tryz.ntmps43
  go_wp2_with fail
  exact bodyPost_ret (v := .agg #[.int .i64 1, .int .i64 1, .slice (some ⟨w.heap.size + 1, 0, none⟩) 1 1]) (by simp [results, Tryz.results43, go_sem, y0, y1, y2]) rfl ⟨_, _, rfl, unhide HB, unhide BB⟩

theorem dy_one {w : World} {v : Value} (h : IsDy w v 1 0) : ∃ g off cap, v = .agg #[.bool false, .slice (some ⟨g, off, none⟩) 1 cap, .int .i64 0] ∧ g < w.heap.size ∧ w.cell? ⟨g, off, none⟩ = some (.int .u32 1) := by
  obtain ⟨neg, ao, cap, L, rfl, h1, h2, h3, h4, _⟩ := h.parts
  have e : L = [1] := eq_of_canon L [1] h1.2.1 (by intro x hx; simp at hx; omega) h2 (.inr (by simp)) (by rw [h4]; rfl)
  subst e
  have e2 : neg = false := by rw [h3]; rfl
  subst e2
  obtain ⟨g, off, rfl, hg, hc⟩ := h1.ne (by decide)
  exact ⟨g, off, cap, rfl, hg, hc 0 (by decide)⟩

set_option maxRecDepth 20000 in
set_option maxHeartbeats 8000000 in
theorem awake11_of (w : World)
    (C1 : ∀ w' ao ca bo cb co cc, Below w.heap.size w w' → BitsAt w' ao ca (mxL [4611686018427387904]) → BitsAt w' bo cb (mxL [4607182418800017408]) → BitsAt w' co cc (mxL [4607182418800017408]) → Calls Tryz.prog 17 #[.agg #[.int .i64 1, .int .i64 1, .slice ao 1 ca], .agg #[.int .i64 1, .int .i64 1, .slice bo 1 cb], .agg #[.int .i64 1, .int .i64 1, .slice co 1 cc]] w' fun e w'' => ∃ v, e = .returned (.tuple #[v, .int .i64 0]) ∧ IsDy w'' v 1 0 ∧ Below w'.heap.size w' w'')
    (C2 : ∀ w' ao ca, Below w.heap.size w w' → BitsAt w' ao ca (mxL [4607182418800017408]) → Calls Tryz.prog 24 #[.agg #[.int .i64 1, .int .i64 1, .slice ao 1 ca]] w' fun e w'' => e = .returned (.tuple #[.int .i64 1, .int .i64 0]) ∧ Below w'.heap.size w' w'') :
    Calls Tryz.prog 14 #[] w fun e w' => e = .returned (.bool true) ∧ Below w.heap.size w w' := by
  have K1 := hide C1; have K2 := hide C2
  have K3 := hide (fun w' => one11_any 4611686018427387904 (by decide) w')
  have K4 := hide (fun w' => one11_any 4607182418800017408 (by decide) w')
  have BB := hide (Below.refl w.heap.size w)
  clear C1 C2
  go_enter Tryz.func14, Tryz.ntmps14
  go_wp2_with fail
  refine (unhide K3 _).mono ?_
  rintro e w1 ⟨ao, ca, rfl, qa, hb1⟩
  replace BB := hide ((unhide BB).trans hb1)
  have QA := hide qa
  clear qa hb1 K3
  go_wp2_with fail
  refine (unhide K4 _).mono ?_
  rintro e w2 ⟨bo, cb, rfl, qb, hb1⟩
  replace BB := hide ((unhide BB).trans (hb1.mono (unhide BB).size)); replace QA := hide ((unhide QA).below hb1)
  have QB := hide qb
  clear qb hb1
  go_wp2_with fail
  refine (unhide K4 _).mono ?_
  rintro e w3 ⟨co, cc, rfl, qc, hb1⟩
  replace BB := hide ((unhide BB).trans (hb1.mono (unhide BB).size)); replace QA := hide ((unhide QA).below hb1); replace QB := hide ((unhide QB).below hb1)
  have QC := hide qc
  clear qc hb1
  go_wp2_with fail
  refine (unhide K1 _ _ _ _ _ _ _ (unhide BB) (unhide QA) (unhide QB) (unhide QC)).mono ?_
  rintro e w4 ⟨v, rfl, iL, hb1⟩
  obtain ⟨g, off, lc, rfl, hg, hc⟩ := dy_one iL
  have ba := below_alloc9 w4 (.cells #[.bool false, .slice (some ⟨g, off, none⟩) 1 lc, .int .i64 0] 29)
  have hbb := hb1.trans (ba.mono hb1.size)
  replace BB := hide ((unhide BB).trans (hbb.mono (unhide BB).size))
  have XD := hide (Box3.new w4 (.bool false) (.slice (some ⟨g, off, none⟩) 1 lc) (.int .i64 0))
  have HC := hide (cell_keep hc ba)
  have hg2 : g < (w4.alloc (.cells #[.bool false, .slice (some ⟨g, off, none⟩) 1 lc, .int .i64 0] 29)).heap.size := by simp; omega
  clear hb1 hbb ba QA QB QC K1 iL hc hg
  go_wp2_with fail
  generalize w4.heap.size = d at *
  refine (unhide K4 _).mono ?_
  rintro e w5 ⟨bo, cb, rfl, qb, hb1⟩
  replace BB := hide ((unhide BB).trans (hb1.mono (unhide BB).size)); replace XD := hide ((unhide XD).all hb1); replace HC := hide (cell_keep (unhide HC) hb1)
  have QB := hide qb
  clear qb hb1 K4 hg2
  go_wp2_with fail
  refine (unhide K2 _ _ _ (unhide BB) (unhide QB)).mono ?_
  rintro e w6 ⟨rfl, hb1⟩
  replace BB := hide ((unhide BB).trans (hb1.mono (unhide BB).size)); replace XD := hide ((unhide XD).all hb1); replace HC := hide (cell_keep (unhide HC) hb1)
  clear hb1 K2 QB
  have c0 := unhide HC
  have x0 := (unhide XD).c0; have x1 := (unhide XD).c1; have x2 := (unhide XD).c2
  go_wp2
  go_ret
  exact ⟨rfl, unhide BB⟩

theorem awake_rs : rsQ 1 1 1 [4611686018427387904] [4607182418800017408] [4607182418800017408] = 1 * 2 ^ 4296 := by decide +kernel
theorem awake_dy {w : World} {v : Value} (h : IsLv w v (-4296) (rsQ 1 1 1 [4611686018427387904] [4607182418800017408] [4607182418800017408])) : IsDy w v 1 0 := by
  unfold IsLv at h
  rw [awake_rs] at h
  obtain ⟨e1, e2⟩ := oM_scale 1 4296 (-4296)
  rw [e1, e2] at h
  exact h
theorem rank_one {a : Nat → Nat → Int} (h : a 0 0 ≠ 0) : IsRank 1 a 1 1 := by
  refine ⟨fun hv => h ?_, fun I C hI _ lI _ => ?_⟩
  · have := hv [0] [0] ⟨List.pairwise_singleton _ _, by simp⟩ ⟨List.pairwise_singleton _ _, by simp⟩ rfl rfl
    have e : minorD a [0] [0] = a 0 0 := by simp [minorD, detD, exD]
    rw [← e]; exact this
  · obtain ⟨i, j, rfl⟩ : ∃ i j, I = [i, j] := by
      match I, lI with
      | [i, j], _ => exact ⟨i, j, rfl⟩
    have h1 := hI.2 i (by simp)
    have h2 := hI.2 j (by simp)
    have h3 := hI.1
    simp at h3
    omega
theorem fin_two : ∀ x ∈ [4611686018427387904], fFin x = true := by decide
theorem fin_one : ∀ x ∈ [4607182418800017408], fFin x = true := by decide
theorem fZ_one : fZ 4607182418800017408 ≠ 0 := by decide +kernel
theorem awake11_any (w : World) (hT : Tab w) : Calls Tryz.prog 14 #[] w fun e w' => e = .returned (.bool true) ∧ Below w.heap.size w w' := by
  have hm : ∀ (w' : World) ao cap (b : Nat), BitsAt w' ao cap (mxL [b]) → Mx w' ao cap 1 1 [b] := fun w' ao cap b h => ⟨h, rfl, by omega, by omega⟩
  refine awake11_of w (fun w' ao ca bo cb co cc hb ha hB hc => ?_) (fun w' ao ca hb ha => ?_)
  · refine (cRes_any 1 1 1 ca cb cc ao bo co [4611686018427387904] [4607182418800017408] [4607182418800017408] w' (hm _ _ _ _ ha) (hm _ _ _ _ hB) (hm _ _ _ _ hc) fin_two fin_one fin_one (hT.all hb)).mono ?_
    rintro e w'' ⟨v, h1, h2, h3⟩
    exact ⟨v, h1, awake_dy h2, h3⟩
  · refine (cRank_any 1 1 ca ao [4607182418800017408] w' (hm _ _ _ _ ha) fin_one (hT.all hb)).mono ?_
    rintro e w'' ⟨k, rfl, h2, h3⟩
    have := h2.unique (rank_one (a := fun i k => fZ (elM 1 [4607182418800017408] i k)) fZ_one)
    subst this
    exact ⟨rfl, h3⟩

end Go.Proofs.YtfnnbkclnflpfaaGreatDoor

/- Contract of the reference's less. -/
namespace Go.Proofs.YtfnnbkclnflpfaaGreatDoor
open Go.RowKit
attribute [local go_sem ↓] Go.wp_at_zero Go.wp_at_succ
/-- What holds in less's loop. -/
def LsI (w wr : World) (v : Value) (R : List Nm) (k : Nat) (f : Nat → Int) (x y : Nm) : Prop :=
  OwnNums (w.heap.size + 2) wr v R ∧ R.length = k ∧ (∀ q, q < k → IsNm wr (nmAt R q) (f q)) ∧ (∀ z ∈ R, NewAt w.heap.size z.ao z.L) ∧ Below w.heap.size w wr ∧ Box2 wr w.heap.size (.bool x.neg) (.slice x.ao x.L.length x.cap) ∧ Box2 wr (w.heap.size + 1) (.bool y.neg) (.slice y.ao y.L.length y.cap) ∧ w.heap.size + 2 ≤ wr.heap.size

theorem LsI.below {w wr w2 : World} {v : Value} {R : List Nm} {k : Nat} {f : Nat → Int} {x y : Nm} (h : LsI w wr v R k f x y) (hb : Below wr.heap.size wr w2) : LsI w w2 v R k f x y :=
  ⟨h.1.below hb, h.2.1, fun q hq => (h.2.2.1 q hq).below hb, h.2.2.2.1, h.2.2.2.2.1.trans (hb.mono h.2.2.2.2.1.size), h.2.2.2.2.2.1.below hb h.2.2.2.2.2.1.lt, h.2.2.2.2.2.2.1.below hb h.2.2.2.2.2.2.1.lt, Nat.le_trans h.2.2.2.2.2.2.2 hb.size⟩

end Go.Proofs.YtfnnbkclnflpfaaGreatDoor

/- Rows taken off crosswise, column by column: what stays true, and the rank at the end. No program. -/
namespace Go.Proofs.YtfnnbkclnflpfaaGreatDoor

/-- c columns are done, dn of them with a pivot. -/
def St (A a : Nat → Nat → Int) (m n c dn : Nat) : Prop :=
  (∀ k, Van k A m n ↔ Van k a m n) ∧ dn ≤ m ∧ ∃ P : List Nat, P.Pairwise (· < ·) ∧ (∀ p ∈ P, p < c) ∧ P.length = dn ∧ (∀ j, j < dn → a j (P[j]?.getD 0) ≠ 0) ∧ (∀ j i, j < dn → j < i → i < m → a i (P[j]?.getD 0) = 0) ∧ (∀ i, dn ≤ i → i < m → ∀ c', c' < c → a i c' = 0)

theorem St.none {A a : Nat → Nat → Int} {m n c dn : Nat} (h : St A a m n c dn) (hz : ∀ i, dn ≤ i → i < m → a i c = 0) : St A a m n (c + 1) dn := by
  obtain ⟨h1, h2, P, p1, p2, p3, p4, p5, p6⟩ := h
  refine ⟨h1, h2, P, p1, fun p hp => by have := p2 p hp; omega, p3, p4, p5, fun i hi hm c' hc => ?_⟩
  rcases Nat.lt_or_ge c' c with h | h
  · exact p6 i hi hm c' h
  · obtain rfl : c' = c := by omega
    exact hz i hi hm

end Go.Proofs.YtfnnbkclnflpfaaGreatDoor

/- Rows in a block of the call's own, row by row overwritten, and what they are (for the reference's Rank). -/
namespace Go.Proofs.YtfnnbkclnflpfaaGreatDoor
open Go.RowKit

/-- How many digits the numbers have behind c columns. -/
def KK : Nat → Nat
  | 0 => 2098
  | c + 1 => 2 * KK c + 1
/-- Block g holds the rows N, of the numbers a. -/
def NxAt (w W : World) (g cp m n K : Nat) (N : List Rw) (a : Nat → Nat → Int) : Prop :=
  N.length = m ∧ w.heap.size ≤ g ∧ m ≤ cp ∧ (∃ cur, W.heap[g]? = some (.cells cur 87 (0, 0)) ∧ ∀ i, i < m → cur[i]? = some (rwAt N i).v) ∧
  (∀ i, i < m → NumsAt W (rwAt N i).ao (rwAt N i).cap (rwAt N i).R ∧ AvR (some g) (rwAt N i) ∧ (rwAt N i).R.length = n ∧ ∀ c, c < n → IsNm W (nmAt (rwAt N i).R c) (a i c) ∧ (a i c).natAbs < 2 ^ K) ∧ Below w.heap.size w W

theorem NxAt.below {w W W' : World} {g cp m n K : Nat} {N : List Rw} {a : Nat → Nat → Int} (h : NxAt w W g cp m n K N a) (hb : Below W.heap.size W W') : NxAt w W' g cp m n K N a := by
  obtain ⟨h1, h2, h3, ⟨cur, h4, h5⟩, h6, h7⟩ := h
  have hg : g < W.heap.size := (Array.getElem?_eq_some_iff.1 h4).1
  exact ⟨h1, h2, h3, ⟨cur, (hb.block g hg).trans h4, h5⟩, fun i hi => ⟨(h6 i hi).1.below hb, (h6 i hi).2.1, (h6 i hi).2.2.1, fun c hc => ⟨((h6 i hi).2.2.2 c hc).1.below hb, ((h6 i hi).2.2.2 c hc).2⟩⟩, h7.trans (hb.mono h7.size)⟩

theorem NxAt.congr {w W : World} {g cp m n K K' : Nat} {N : List Rw} {a a' : Nat → Nat → Int} (h : NxAt w W g cp m n K N a) (he : ∀ i, i < m → a i = a' i) (hK : K ≤ K') : NxAt w W g cp m n K' N a' := by
  obtain ⟨h1, h2, h3, h4, h6, h7⟩ := h
  exact ⟨h1, h2, h3, h4, fun i hi => ⟨(h6 i hi).1, (h6 i hi).2.1, (h6 i hi).2.2.1, fun c hc => by
    rw [← he i hi]
    exact ⟨((h6 i hi).2.2.2 c hc).1, Nat.lt_of_lt_of_le ((h6 i hi).2.2.2 c hc).2 (Nat.pow_le_pow_right (by decide) hK)⟩⟩, h7⟩

theorem NxAt.cell {w W : World} {g cp m n K : Nat} {N : List Rw} {a : Nat → Nat → Int} (h : NxAt w W g cp m n K N a) {i : Nat} (hi : i < m) : W.cell? ⟨g, i, none⟩ = some (.slice (rwAt N i).ao (rwAt N i).R.length (rwAt N i).cap) := by
  obtain ⟨h1, h2, h3, ⟨cur, h4, h5⟩, h6, h7⟩ := h
  rw [cell_of_row W g i _ _ _ h4, h5 i hi]; rfl
theorem NxAt.free {w W : World} {g cp m n K : Nat} {N : List Rw} {a : Nat → Nat → Int} (h : NxAt w W g cp m n K N a) (i : Nat) : W.frozen? ⟨g, i, none⟩ = false := by
  obtain ⟨h1, h2, h3, ⟨cur, h4, h5⟩, h6, h7⟩ := h
  exact frozen_of_row W g i _ _ h4
theorem NxAt.lt {w W : World} {g cp m n K : Nat} {N : List Rw} {a : Nat → Nat → Int} (h : NxAt w W g cp m n K N a) : g < W.heap.size := by
  obtain ⟨h1, h2, h3, ⟨cur, h4, h5⟩, h6, h7⟩ := h
  exact (Array.getElem?_eq_some_iff.1 h4).1

end Go.Proofs.YtfnnbkclnflpfaaGreatDoor

