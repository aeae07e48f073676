/- Part 35 of the texts. -/
import Derived.Test.YtfnnbkclnflpfaaGreatDoorPartR27
import Derived.Test.YtfnnbkclnflpfaaGreatDoorPartR29
import Derived.Test.YtfnnbkclnflpfaaGreatDoorPartR34
import Derived.Test.YtfnnbkclnflpfaaGreatDoorChecked
import Derived.Test.YtfnnbkclnflpfaaGreatDoorPartR03
import Derived.ProofKit
import Derived.SizedLaws
import Derived.Lib.SmallJoins
/- The reference of layer 11: Check, Square, Tame. The law's told, one, awake. -/
namespace Go.Proofs.YtfnnbkclnflpfaaGreatDoor
open Go.RowKit
attribute [local go_sem ↓] Go.wp_at_zero Go.wp_at_succ

theorem ckE_three (r c : Int) (I : List Int) : ckE r c I = 0 ∨ ckE r c I = 1 ∨ ckE r c I = 4 := by
  unfold ckE
  split
  · split
    · exact .inl rfl
    · exact .inr (.inr rfl)
  · exact .inr (.inl rfl)

set_option maxRecDepth 20000 in
set_option maxHeartbeats 4000000 in
theorem r11check_any (r c : Int) (ao : Option Addr) (cap : Nat) (I : List Int) (w : World) (hI : BitsAt w ao cap I) (hn : I.length ≤ 35184372088830) :
    Calls Tryz.prog 11 #[.agg #[.int .i64 r, .int .i64 c, .slice ao I.length cap]] w fun e w' => e = .returned (.int .i64 (ckE r c I)) ∧ Below w.heap.size w w' := by
  have K1 := hide (fun w' => rright_any r c ao I.length cap w')
  have K2 := hide (fun w' (h : BitsAt w' ao cap I) => r9finite_any ao cap I w' h hn)
  have BB := hide (below_alloc9 w (.cells #[.int .i64 r, .int .i64 c, .slice ao I.length cap] 24))
  have X0 := hide (BoxM.new w (.int .i64 r) (.int .i64 c) (.slice ao I.length cap))
  have HI := hide hI
  unfold ckE
  generalize okB r c I.length = b at *
  generalize fnK I I.length = f at *
  generalize I.length = n at *
  clear hI
  cases b
  · clear K2
    go_enter Tryz.func11, Tryz.ntmps11
    go_wp2_with fail
    refine (unhide K1 _).mono ?_
    rintro e w1 ⟨rfl, hb1⟩
    have PB := hide ((unhide BB).trans (hb1.mono (unhide BB).size))
    clear hb1 K1 X0
    go_wp2
    go_ret
    exact ⟨rfl, unhide PB⟩
  · cases f
    all_goals
      go_enter Tryz.func11, Tryz.ntmps11
      go_wp2_with fail
      refine (unhide K1 _).mono ?_
      rintro e w1 ⟨rfl, hb1⟩
      replace BB := hide ((unhide BB).trans (hb1.mono (unhide BB).size)); replace X0 := hide ((unhide X0).all hb1)
      clear hb1 K1
      have y2 := (unhide X0).c2
      go_wp2_with fail
      refine (unhide K2 _ ((unhide HI).below (unhide BB))).mono ?_
      rintro e w2 ⟨rfl, hb1⟩
      replace BB := hide ((unhide BB).trans (hb1.mono (unhide BB).size))
      clear hb1 K2 y2
      go_wp2
      go_ret
      exact ⟨rfl, unhide BB⟩

theorem fnK_all {I : List Int} : ∀ n, fnK I n = true ↔ ∀ k, k < n → fFin (atB I k) = true
  | 0 => ⟨fun _ k hk => by omega, fun _ => rfl⟩
  | n + 1 => by
    show (fnK I n && fFin (atB I n)) = true ↔ _
    rw [Bool.and_eq_true, fnK_all n]
    constructor
    · rintro ⟨h1, h2⟩ k hk
      by_cases e : k = n
      · subst e; exact h2
      · exact h1 k (by omega)
    · exact fun h => ⟨fun k hk => h k (by omega), h n (by omega)⟩
theorem fin_all {S : List Nat} (h : fnK (mxL S) S.length = true) : ∀ x ∈ S, fFin x = true := fun x hx => by
  obtain ⟨i, hi, rfl⟩ := List.getElem_of_mem hx
  have := (fnK_all _).1 h i hi
  rw [mxL_at] at this
  rwa [List.getD_eq_getElem?_getD, List.getElem?_eq_getElem hi] at this
/-- What Check's answer 0 says. -/
theorem ckE_zero {r c : Int} {I : List Int} (h : ckE r c I = 0) : okB r c I.length = true ∧ fnK I I.length = true := by
  unfold ckE at h
  by_cases h1 : okB r c I.length = true
  · rw [if_pos h1] at h
    refine ⟨h1, ?_⟩
    by_cases h2 : fnK I I.length = true
    · exact h2
    · rw [if_neg h2] at h; omega
  · rw [if_neg h1] at h; omega
theorem Mx.asked {w : World} {ao : Option Addr} {cap : Nat} {I : List Int} {r c : Int} (h : BitsAt w ao cap I) (hc : ckE r c I = 0) : ∃ p q : Nat, r = (p : Int) ∧ c = (q : Int) ∧ Mx w ao cap p q (natL I) ∧ mxL (natL I) = I ∧ (∀ x ∈ natL I, fFin x = true) := by
  obtain ⟨h1, h2⟩ := ckE_zero hc
  obtain ⟨p, q, e1, e2, hM, hS⟩ := Mx.of h h1
  refine ⟨p, q, e1, e2, hM, hS, fin_all ?_⟩
  rw [hS, natL_len]
  exact h2

end Go.Proofs.YtfnnbkclnflpfaaGreatDoor

/- The law of layer 11: told, one, awake. -/
namespace Go.Proofs.YtfnnbkclnflpfaaGreatDoor
open Go.RowKit
attribute [local go_sem ↓] Go.wp_at_zero Go.wp_at_succ

set_option maxRecDepth 20000 in
set_option maxHeartbeats 4000000 in
theorem told11_ok {w : World} {d u : Value} {m x : Int} (hd : IsDy w d m x) (hu : IsDy w u m x) :
    Calls Tryz.prog 13 #[d, .int .i64 0, u, .int .i64 0] w fun e w' => e = .returned (.bool true) ∧ Below w.heap.size w w' := by
  have K := hide (fun w' (hb : Below w.heap.size w w') => dsame_dy (hd.below hb) (hu.below hb))
  simp only [and_self, decide_true] at K
  obtain ⟨na, ao, ca, A, rfl, _⟩ := hd
  obtain ⟨nb, bo, cb, B, rfl, _⟩ := hu
  generalize A.length = la at *
  generalize B.length = lb at *
  have ST := hide (AmSt.start w na nb ao bo la lb ca cb x x)
  have x0 := (unhide ST).1.c0; have x1 := (unhide ST).1.c1; have x2 := (unhide ST).1.c2
  have y0 := (unhide ST).2.1.c0; have y1 := (unhide ST).2.1.c1; have y2 := (unhide ST).2.1.c2
  go_enter Tryz.func13, Tryz.ntmps13
  go_wp2_with fail
  refine (unhide K _ (unhide ST).2.2).mono ?_
  rintro e w1 ⟨rfl, hb1⟩
  clear x0 x1 x2 y0 y1 y2
  replace ST := hide ((unhide ST).all hb1)
  clear hb1 K
  go_wp2
  go_ret
  exact ⟨rfl, (unhide ST).2.2⟩

set_option maxRecDepth 20000 in
set_option maxHeartbeats 4000000 in
theorem told11_err (f : Int) (hf : f = 1 ∨ f = 3 ∨ f = 4) (w : World) :
    Calls Tryz.prog 13 #[.agg #[.bool false, .slice none 0 0, .int .i64 0], .int .i64 f, .agg #[.bool false, .slice none 0 0, .int .i64 0], .int .i64 f] w fun e w' => e = .returned (.bool true) ∧ Below w.heap.size w w' := by
  have K := hide (fun w' => dsame_dy (IsLv.zero w' 0) (IsLv.zero w' 0))
  simp only [and_self, decide_true] at K
  have ST := hide (AmSt.start w false false none none 0 0 0 0 0 0)
  have x0 := (unhide ST).1.c0; have x1 := (unhide ST).1.c1; have x2 := (unhide ST).1.c2
  rcases hf with rfl | rfl | rfl
  all_goals
    go_enter Tryz.func13, Tryz.ntmps13
    go_wp2_with fail
    refine (unhide K _).mono ?_
    rintro e w1 ⟨rfl, hb1⟩
    clear x0 x1 x2
    replace ST := hide ((unhide ST).all hb1)
    clear hb1 K
    go_wp2
    go_ret
    exact ⟨rfl, (unhide ST).2.2⟩

set_option maxRecDepth 20000 in
set_option maxHeartbeats 4000000 in
theorem one11_any (b : Nat) (hb : b < 18446744073709551616) (w : World) :
    Calls Tryz.prog 43 #[.int .u64 b] w fun e w' => ∃ ao cap, e = .returned (.agg #[.int .i64 1, .int .i64 1, .slice ao 1 cap]) ∧ BitsAt w' ao cap (mxL [b]) ∧ Below w.heap.size w w' := by
  have b0 := below_alloc9 w (.cells #[.int .i64 1, .int .i64 1, .slice (some ⟨w.heap.size + 1, 0, none⟩) 1 1] 24)
  have s0 := size_alloc9 w (.cells #[.int .i64 1, .int .i64 1, .slice (some ⟨w.heap.size + 1, 0, none⟩) 1 1] 24)
  have x0 := BoxM.new w (.int .i64 1) (.int .i64 1) (.slice (some ⟨w.heap.size + 1, 0, none⟩) 1 1)
  generalize hw0 : w.alloc (.cells #[.int .i64 1, .int .i64 1, .slice (some ⟨w.heap.size + 1, 0, none⟩) 1 1] 24) = w0 at *
  have b1 := below_alloc9 w0 (.cells #[.int .u64 b] 52)
  have h1 := heap_alloc_new w0 (.cells #[.int .u64 b] 52)
  have s1 := size_alloc9 w0 (.cells #[.int .u64 b] 52)
  have x1 := x0.all b1
  have hB : BitsAt (w0.alloc (.cells #[.int .u64 b] 52)) (some ⟨w.heap.size + 1, 0, none⟩) 1 (mxL [b]) := by
    refine ⟨by simp [mxL], fun x hx => ?_, .inr ⟨_, _, rfl, by omega, fun i hi => ?_⟩⟩
    · obtain rfl : x = (b : Int) := by simpa [mxL] using hx
      omega
    · obtain rfl : i = 0 := by simpa [mxL] using hi
      rw [s0] at h1
      rw [cell_of_row _ _ _ _ _ _ h1]; rfl
  have y0 := x1.c0; have y1 := x1.c1; have y2 := x1.c2
  have HB := hide hB; have BB := hide (b0.trans (b1.mono b0.size))
  rw [← hw0] at y0 y1 y2 HB BB
  clear b0 s0 x0 hw0 b1 h1 s1 x1 hB
  go_enter Tryz.func43, Tryz.ntmps43
  go_wp2_with fail
  exact bodyPost_ret (v := .agg #[.int .i64 1, .int .i64 1, .slice (some ⟨w.heap.size + 1, 0, none⟩) 1 1]) (by simp [results, Tryz.results43, go_sem, y0, y1, y2]) rfl ⟨_, _, rfl, unhide HB, unhide BB⟩

theorem dy_one {w : World} {v : Value} (h : IsDy w v 1 0) : ∃ g off cap, v = .agg #[.bool false, .slice (some ⟨g, off, none⟩) 1 cap, .int .i64 0] ∧ g < w.heap.size ∧ w.cell? ⟨g, off, none⟩ = some (.int .u32 1) := by
  obtain ⟨neg, ao, cap, L, rfl, h1, h2, h3, h4, _⟩ := h.parts
  have e : L = [1] := eq_of_canon L [1] h1.2.1 (by intro x hx; simp at hx; omega) h2 (.inr (by simp)) (by rw [h4]; rfl)
  subst e
  have e2 : neg = false := by rw [h3]; rfl
  subst e2
  obtain ⟨g, off, rfl, hg, hc⟩ := h1.ne (by decide)
  exact ⟨g, off, cap, rfl, hg, hc 0 (by decide)⟩

set_option maxRecDepth 20000 in
set_option maxHeartbeats 8000000 in
theorem awake11_of (w : World)
    (C1 : ∀ w' ao ca bo cb co cc, Below w.heap.size w w' → BitsAt w' ao ca (mxL [4611686018427387904]) → BitsAt w' bo cb (mxL [4607182418800017408]) → BitsAt w' co cc (mxL [4607182418800017408]) → Calls Tryz.prog 17 #[.agg #[.int .i64 1, .int .i64 1, .slice ao 1 ca], .agg #[.int .i64 1, .int .i64 1, .slice bo 1 cb], .agg #[.int .i64 1, .int .i64 1, .slice co 1 cc]] w' fun e w'' => ∃ v, e = .returned (.tuple #[v, .int .i64 0]) ∧ IsDy w'' v 1 0 ∧ Below w'.heap.size w' w'')
    (C2 : ∀ w' ao ca, Below w.heap.size w w' → BitsAt w' ao ca (mxL [4607182418800017408]) → Calls Tryz.prog 24 #[.agg #[.int .i64 1, .int .i64 1, .slice ao 1 ca]] w' fun e w'' => e = .returned (.tuple #[.int .i64 1, .int .i64 0]) ∧ Below w'.heap.size w' w'') :
    Calls Tryz.prog 14 #[] w fun e w' => e = .returned (.bool true) ∧ Below w.heap.size w w' := by
  have K1 := hide C1; have K2 := hide C2
  have K3 := hide (fun w' => one11_any 4611686018427387904 (by decide) w')
  have K4 := hide (fun w' => one11_any 4607182418800017408 (by decide) w')
  have BB := hide (Below.refl w.heap.size w)
  clear C1 C2
  go_enter Tryz.func14, Tryz.ntmps14
  go_wp2_with fail
  refine (unhide K3 _).mono ?_
  rintro e w1 ⟨ao, ca, rfl, qa, hb1⟩
  replace BB := hide ((unhide BB).trans hb1)
  have QA := hide qa
  clear qa hb1 K3
  go_wp2_with fail
  refine (unhide K4 _).mono ?_
  rintro e w2 ⟨bo, cb, rfl, qb, hb1⟩
  replace BB := hide ((unhide BB).trans (hb1.mono (unhide BB).size)); replace QA := hide ((unhide QA).below hb1)
  have QB := hide qb
  clear qb hb1
  go_wp2_with fail
  refine (unhide K4 _).mono ?_
  rintro e w3 ⟨co, cc, rfl, qc, hb1⟩
  replace BB := hide ((unhide BB).trans (hb1.mono (unhide BB).size)); replace QA := hide ((unhide QA).below hb1); replace QB := hide ((unhide QB).below hb1)
  have QC := hide qc
  clear qc hb1
  go_wp2_with fail
  refine (unhide K1 _ _ _ _ _ _ _ (unhide BB) (unhide QA) (unhide QB) (unhide QC)).mono ?_
  rintro e w4 ⟨v, rfl, iL, hb1⟩
  obtain ⟨g, off, lc, rfl, hg, hc⟩ := dy_one iL
  have ba := below_alloc9 w4 (.cells #[.bool false, .slice (some ⟨g, off, none⟩) 1 lc, .int .i64 0] 29)
  have hbb := hb1.trans (ba.mono hb1.size)
  replace BB := hide ((unhide BB).trans (hbb.mono (unhide BB).size))
  have XD := hide (Box3.new w4 (.bool false) (.slice (some ⟨g, off, none⟩) 1 lc) (.int .i64 0))
  have HC := hide (cell_keep hc ba)
  have hg2 : g < (w4.alloc (.cells #[.bool false, .slice (some ⟨g, off, none⟩) 1 lc, .int .i64 0] 29)).heap.size := by simp; omega
  clear hb1 hbb ba QA QB QC K1 iL hc hg
  go_wp2_with fail
  generalize w4.heap.size = d at *
  refine (unhide K4 _).mono ?_
  rintro e w5 ⟨bo, cb, rfl, qb, hb1⟩
  replace BB := hide ((unhide BB).trans (hb1.mono (unhide BB).size)); replace XD := hide ((unhide XD).all hb1); replace HC := hide (cell_keep (unhide HC) hb1)
  have QB := hide qb
  clear qb hb1 K4 hg2
  go_wp2_with fail
  refine (unhide K2 _ _ _ (unhide BB) (unhide QB)).mono ?_
  rintro e w6 ⟨rfl, hb1⟩
  replace BB := hide ((unhide BB).trans (hb1.mono (unhide BB).size)); replace XD := hide ((unhide XD).all hb1); replace HC := hide (cell_keep (unhide HC) hb1)
  clear hb1 K2 QB
  have c0 := unhide HC
  have x0 := (unhide XD).c0; have x1 := (unhide XD).c1; have x2 := (unhide XD).c2
  go_wp2
  go_ret
  exact ⟨rfl, unhide BB⟩

theorem awake_rs : rsQ 1 1 1 [4611686018427387904] [4607182418800017408] [4607182418800017408] = 1 * 2 ^ 4296 := by decide +kernel
theorem awake_dy {w : World} {v : Value} (h : IsLv w v (-4296) (rsQ 1 1 1 [4611686018427387904] [4607182418800017408] [4607182418800017408])) : IsDy w v 1 0 := by
  unfold IsLv at h
  rw [awake_rs] at h
  obtain ⟨e1, e2⟩ := oM_scale 1 4296 (-4296)
  rw [e1, e2] at h
  exact h
theorem rank_one {a : Nat → Nat → Int} (h : a 0 0 ≠ 0) : IsRank 1 a 1 1 := by
  refine ⟨fun hv => h ?_, fun I C hI _ lI _ => ?_⟩
  · have := hv [0] [0] ⟨List.pairwise_singleton _ _, by simp⟩ ⟨List.pairwise_singleton _ _, by simp⟩ rfl rfl
    have e : minorD a [0] [0] = a 0 0 := by simp [minorD, detD, exD]
    rw [← e]; exact this
  · obtain ⟨i, j, rfl⟩ : ∃ i j, I = [i, j] := by
      match I, lI with
      | [i, j], _ => exact ⟨i, j, rfl⟩
    have h1 := hI.2 i (by simp)
    have h2 := hI.2 j (by simp)
    have h3 := hI.1
    simp at h3
    omega
theorem fin_two : ∀ x ∈ [4611686018427387904], fFin x = true := by decide
theorem fin_one : ∀ x ∈ [4607182418800017408], fFin x = true := by decide
theorem fZ_one : fZ 4607182418800017408 ≠ 0 := by decide +kernel
theorem awake11_any (w : World) (hT : Tab w) : Calls Tryz.prog 14 #[] w fun e w' => e = .returned (.bool true) ∧ Below w.heap.size w w' := by
  have hm : ∀ (w' : World) ao cap (b : Nat), BitsAt w' ao cap (mxL [b]) → Mx w' ao cap 1 1 [b] := fun w' ao cap b h => ⟨h, rfl, by omega, by omega⟩
  refine awake11_of w (fun w' ao ca bo cb co cc hb ha hB hc => ?_) (fun w' ao ca hb ha => ?_)
  · refine (cRes_any 1 1 1 ca cb cc ao bo co [4611686018427387904] [4607182418800017408] [4607182418800017408] w' (hm _ _ _ _ ha) (hm _ _ _ _ hB) (hm _ _ _ _ hc) fin_two fin_one fin_one (hT.all hb)).mono ?_
    rintro e w'' ⟨v, h1, h2, h3⟩
    exact ⟨v, h1, awake_dy h2, h3⟩
  · refine (cRank_any 1 1 ca ao [4607182418800017408] w' (hm _ _ _ _ ha) fin_one (hT.all hb)).mono ?_
    rintro e w'' ⟨k, rfl, h2, h3⟩
    have := h2.unique (rank_one (a := fun i k => fZ (elM 1 [4607182418800017408] i k)) fZ_one)
    subst this
    exact ⟨rfl, h3⟩

end Go.Proofs.YtfnnbkclnflpfaaGreatDoor

/- The law CertifyResiduals, walked. Written by mke3.py. -/
namespace Go.Proofs.YtfnnbkclnflpfaaGreatDoor
open Go.RowKit
attribute [local go_sem ↓] Go.wp_at_zero Go.wp_at_succ

/-- Three matrices' boxes. -/
def T3St (w wr : World) (r c p q s d : Int) (ao bo co : Option Addr) (na nb nc ca cb cc : Nat) : Prop :=
  BoxM wr w.heap.size (.int .i64 r) (.int .i64 c) (.slice ao na ca) ∧ BoxM wr (w.heap.size + 1) (.int .i64 p) (.int .i64 q) (.slice bo nb cb) ∧ BoxM wr (w.heap.size + 1 + 1) (.int .i64 s) (.int .i64 d) (.slice co nc cc) ∧ Below w.heap.size w wr
theorem T3St.all {w wr w' : World} {r c p q s d : Int} {ao bo co : Option Addr} {na nb nc ca cb cc : Nat} (h : T3St w wr r c p q s d ao bo co na nb nc ca cb cc) (hb : Below wr.heap.size wr w') : T3St w w' r c p q s d ao bo co na nb nc ca cb cc := ⟨h.1.all hb, h.2.1.all hb, h.2.2.1.all hb, h.2.2.2.trans (hb.mono h.2.2.2.size)⟩
theorem T3St.start (w : World) (r c p q s d : Int) (ao bo co : Option Addr) (na nb nc ca cb cc : Nat) : T3St w (((w.alloc (.cells #[.int .i64 r, .int .i64 c, .slice ao na ca] 24)).alloc (.cells #[.int .i64 p, .int .i64 q, .slice bo nb cb] 24)).alloc (.cells #[.int .i64 s, .int .i64 d, .slice co nc cc] 24)) r c p q s d ao bo co na nb nc ca cb cc := by
  have b0 := below_alloc9 w (.cells #[.int .i64 r, .int .i64 c, .slice ao na ca] 24)
  have s0 := size_alloc9 w (.cells #[.int .i64 r, .int .i64 c, .slice ao na ca] 24)
  have x0 := BoxM.new w (.int .i64 r) (.int .i64 c) (.slice ao na ca)
  generalize w.alloc (.cells #[.int .i64 r, .int .i64 c, .slice ao na ca] 24) = w0 at *
  have b1 := below_alloc9 w0 (.cells #[.int .i64 p, .int .i64 q, .slice bo nb cb] 24)
  have s1 := size_alloc9 w0 (.cells #[.int .i64 p, .int .i64 q, .slice bo nb cb] 24)
  have x1 := BoxM.new w0 (.int .i64 p) (.int .i64 q) (.slice bo nb cb)
  generalize w0.alloc (.cells #[.int .i64 p, .int .i64 q, .slice bo nb cb] 24) = w1 at *
  have b2 := below_alloc9 w1 (.cells #[.int .i64 s, .int .i64 d, .slice co nc cc] 24)
  have x2 := BoxM.new w1 (.int .i64 s) (.int .i64 d) (.slice co nc cc)
  rw [s0] at x1 s1
  rw [s1] at x2
  have b01 := b0.trans (b1.mono b0.size)
  exact ⟨(x0.all b1).all b2, x1.all b2, x2, b01.trans (b2.mono b01.size)⟩

set_option maxRecDepth 20000 in
set_option maxHeartbeats 16000000 in
theorem certifyResiduals_e1 (r c p q s d : Int) (ao bo co : Option Addr) (na nb nc ca cb cc : Nat) (w : World) (f : Int) (hf : f = 1 ∨ f = 4)
    (C1 : ∀ w', Below w.heap.size w w' → Calls Tryz.prog 17 #[.agg #[.int .i64 r, .int .i64 c, .slice ao na ca], .agg #[.int .i64 p, .int .i64 q, .slice bo nb cb], .agg #[.int .i64 s, .int .i64 d, .slice co nc cc]] w' fun e w'' => e = .returned (.tuple #[.agg #[.bool false, .slice none 0 0, .int .i64 0], .int .i64 f]) ∧ Below w'.heap.size w' w'')
    (C2 : ∀ w', Below w.heap.size w w' → Calls Tryz.prog 18 #[.agg #[.int .i64 p, .int .i64 q, .slice bo nb cb], .agg #[.int .i64 s, .int .i64 d, .slice co nc cc], .agg #[.int .i64 r, .int .i64 c, .slice ao na ca]] w' fun e w'' => e = .returned (.tuple #[.agg #[.bool false, .slice none 0 0, .int .i64 0], .int .i64 f]) ∧ Below w'.heap.size w' w'')
    (C3 : ∀ w', Below w.heap.size w w' → Calls Tryz.prog 11 #[.agg #[.int .i64 r, .int .i64 c, .slice ao na ca]] w' fun e w'' => e = .returned (.int .i64 f) ∧ Below w'.heap.size w' w'')
    (CA : ∀ w', Below w.heap.size w w' → Calls Tryz.prog 14 #[] w' fun e w'' => e = .returned (.bool true) ∧ Below w'.heap.size w' w'') :
    Calls Tryz.prog 4 #[.agg #[.int .i64 r, .int .i64 c, .slice ao na ca], .agg #[.int .i64 p, .int .i64 q, .slice bo nb cb], .agg #[.int .i64 s, .int .i64 d, .slice co nc cc]] w fun e w' => e = .returned (.bool true) ∧ Below w.heap.size w w' := by
  have KT := hide (fun w' => told11_err f (by rcases hf with h | h <;> omega) w')
  have K1 := hide C1; have K2 := hide C2; have KA := hide CA; have K3 := hide C3
  have ST := hide (T3St.start w r c p q s d ao bo co na nb nc ca cb cc)
  have a0 := (unhide ST).1.c0; have a1 := (unhide ST).1.c1; have a2 := (unhide ST).1.c2; have b0 := (unhide ST).2.1.c0; have b1 := (unhide ST).2.1.c1; have b2 := (unhide ST).2.1.c2; have e0 := (unhide ST).2.2.1.c0; have e1 := (unhide ST).2.2.1.c1; have e2 := (unhide ST).2.2.1.c2
  clear C1 C2 CA C3
  rcases hf with rfl | rfl
  all_goals
    go_enter Tryz.func4, Tryz.ntmps4
    go_wp2_with fail
    refine (unhide K1 _ (unhide ST).2.2.2).mono ?_
    rintro e w1 ⟨rfl, hb1⟩
    have ba := below_alloc9 w1 (.cells #[.bool false, .slice none 0 0, .int .i64 0] 29)
    have hbb := hb1.trans (ba.mono hb1.size)
    have XS := hide (Box3.new w1 (.bool false) (.slice none 0 0) (.int .i64 0))
    replace ST := hide ((unhide ST).all hbb)
    clear hb1 ba hbb K1 a0 a1 a2 b0 b1 b2 e0 e1 e2
    have a0 := (unhide ST).1.c0; have a1 := (unhide ST).1.c1; have a2 := (unhide ST).1.c2; have b0 := (unhide ST).2.1.c0; have b1 := (unhide ST).2.1.c1; have b2 := (unhide ST).2.1.c2; have e0 := (unhide ST).2.2.1.c0; have e1 := (unhide ST).2.2.1.c1; have e2 := (unhide ST).2.2.1.c2
    go_wp2_with fail
    generalize w1.heap.size = g1 at *
    refine (unhide K2 _ (unhide ST).2.2.2).mono ?_
    rintro e w2 ⟨rfl, hb1⟩
    have ba := below_alloc9 w2 (.cells #[.bool false, .slice none 0 0, .int .i64 0] 29)
    have hbb := hb1.trans (ba.mono hb1.size)
    have XO := hide (Box3.new w2 (.bool false) (.slice none 0 0) (.int .i64 0))
    replace ST := hide ((unhide ST).all hbb)
    replace XS := hide ((unhide XS).all hbb)
    clear hb1 ba hbb K2 a0 a1 a2 b0 b1 b2 e0 e1 e2
    have a0 := (unhide ST).1.c0; have a1 := (unhide ST).1.c1; have a2 := (unhide ST).1.c2; have b0 := (unhide ST).2.1.c0; have b1 := (unhide ST).2.1.c1; have b2 := (unhide ST).2.1.c2; have e0 := (unhide ST).2.2.1.c0; have e1 := (unhide ST).2.2.1.c1; have e2 := (unhide ST).2.2.1.c2
    go_wp2_with fail
    generalize w2.heap.size = g2 at *
    refine (unhide K3 _ (unhide ST).2.2.2).mono ?_
    rintro e w3 ⟨rfl, hb1⟩
    replace ST := hide ((unhide ST).all hb1)
    replace XS := hide ((unhide XS).all hb1); replace XO := hide ((unhide XO).all hb1)
    clear hb1 a0 a1 a2 b0 b1 b2 e0 e1 e2
    have a0 := (unhide ST).1.c0; have a1 := (unhide ST).1.c1; have a2 := (unhide ST).1.c2; have b0 := (unhide ST).2.1.c0; have b1 := (unhide ST).2.1.c1; have b2 := (unhide ST).2.1.c2; have e0 := (unhide ST).2.2.1.c0; have e1 := (unhide ST).2.2.1.c1; have e2 := (unhide ST).2.2.1.c2
    have s0 := (unhide XS).c0; have s1 := (unhide XS).c1; have s2 := (unhide XS).c2
    go_wp2_with fail
    refine (unhide KT _).mono ?_
    rintro e w6 ⟨rfl, hb1⟩
    replace ST := hide ((unhide ST).all hb1)
    replace XO := hide ((unhide XO).all hb1)
    clear hb1 s0 s1 s2 XS a0 a1 a2 b0 b1 b2 e0 e1 e2
    have s0 := (unhide XO).c0; have s1 := (unhide XO).c1; have s2 := (unhide XO).c2
    go_wp2_with fail
    refine (unhide KT _).mono ?_
    rintro e w7 ⟨rfl, hb1⟩
    replace ST := hide ((unhide ST).all hb1)
    clear hb1 s0 s1 s2 XO KT
    go_wp2_with fail
    refine (unhide KA _ (unhide ST).2.2.2).mono ?_
    rintro e w8 ⟨rfl, hb1⟩
    replace ST := hide ((unhide ST).all hb1)
    clear hb1 KA
    go_wp2
    go_ret
    exact ⟨rfl, (unhide ST).2.2.2⟩

set_option maxRecDepth 20000 in
set_option maxHeartbeats 16000000 in
theorem certifyResiduals_e2 (r c p q s d : Int) (ao bo co : Option Addr) (na nb nc ca cb cc : Nat) (w : World) (f : Int) (hf : f = 1 ∨ f = 4)
    (C1 : ∀ w', Below w.heap.size w w' → Calls Tryz.prog 17 #[.agg #[.int .i64 r, .int .i64 c, .slice ao na ca], .agg #[.int .i64 p, .int .i64 q, .slice bo nb cb], .agg #[.int .i64 s, .int .i64 d, .slice co nc cc]] w' fun e w'' => e = .returned (.tuple #[.agg #[.bool false, .slice none 0 0, .int .i64 0], .int .i64 f]) ∧ Below w'.heap.size w' w'')
    (C2 : ∀ w', Below w.heap.size w w' → Calls Tryz.prog 18 #[.agg #[.int .i64 p, .int .i64 q, .slice bo nb cb], .agg #[.int .i64 s, .int .i64 d, .slice co nc cc], .agg #[.int .i64 r, .int .i64 c, .slice ao na ca]] w' fun e w'' => e = .returned (.tuple #[.agg #[.bool false, .slice none 0 0, .int .i64 0], .int .i64 f]) ∧ Below w'.heap.size w' w'')
    (C3 : ∀ w', Below w.heap.size w w' → Calls Tryz.prog 11 #[.agg #[.int .i64 r, .int .i64 c, .slice ao na ca]] w' fun e w'' => e = .returned (.int .i64 0) ∧ Below w'.heap.size w' w'')
    (C4 : ∀ w', Below w.heap.size w w' → Calls Tryz.prog 11 #[.agg #[.int .i64 p, .int .i64 q, .slice bo nb cb]] w' fun e w'' => e = .returned (.int .i64 f) ∧ Below w'.heap.size w' w'')
    (CA : ∀ w', Below w.heap.size w w' → Calls Tryz.prog 14 #[] w' fun e w'' => e = .returned (.bool true) ∧ Below w'.heap.size w' w'') :
    Calls Tryz.prog 4 #[.agg #[.int .i64 r, .int .i64 c, .slice ao na ca], .agg #[.int .i64 p, .int .i64 q, .slice bo nb cb], .agg #[.int .i64 s, .int .i64 d, .slice co nc cc]] w fun e w' => e = .returned (.bool true) ∧ Below w.heap.size w w' := by
  have KT := hide (fun w' => told11_err f (by rcases hf with h | h <;> omega) w')
  have K1 := hide C1; have K2 := hide C2; have KA := hide CA; have K3 := hide C3; have K4 := hide C4
  have ST := hide (T3St.start w r c p q s d ao bo co na nb nc ca cb cc)
  have a0 := (unhide ST).1.c0; have a1 := (unhide ST).1.c1; have a2 := (unhide ST).1.c2; have b0 := (unhide ST).2.1.c0; have b1 := (unhide ST).2.1.c1; have b2 := (unhide ST).2.1.c2; have e0 := (unhide ST).2.2.1.c0; have e1 := (unhide ST).2.2.1.c1; have e2 := (unhide ST).2.2.1.c2
  clear C1 C2 CA C3 C4
  rcases hf with rfl | rfl
  all_goals
    go_enter Tryz.func4, Tryz.ntmps4
    go_wp2_with fail
    refine (unhide K1 _ (unhide ST).2.2.2).mono ?_
    rintro e w1 ⟨rfl, hb1⟩
    have ba := below_alloc9 w1 (.cells #[.bool false, .slice none 0 0, .int .i64 0] 29)
    have hbb := hb1.trans (ba.mono hb1.size)
    have XS := hide (Box3.new w1 (.bool false) (.slice none 0 0) (.int .i64 0))
    replace ST := hide ((unhide ST).all hbb)
    clear hb1 ba hbb K1 a0 a1 a2 b0 b1 b2 e0 e1 e2
    have a0 := (unhide ST).1.c0; have a1 := (unhide ST).1.c1; have a2 := (unhide ST).1.c2; have b0 := (unhide ST).2.1.c0; have b1 := (unhide ST).2.1.c1; have b2 := (unhide ST).2.1.c2; have e0 := (unhide ST).2.2.1.c0; have e1 := (unhide ST).2.2.1.c1; have e2 := (unhide ST).2.2.1.c2
    go_wp2_with fail
    generalize w1.heap.size = g1 at *
    refine (unhide K2 _ (unhide ST).2.2.2).mono ?_
    rintro e w2 ⟨rfl, hb1⟩
    have ba := below_alloc9 w2 (.cells #[.bool false, .slice none 0 0, .int .i64 0] 29)
    have hbb := hb1.trans (ba.mono hb1.size)
    have XO := hide (Box3.new w2 (.bool false) (.slice none 0 0) (.int .i64 0))
    replace ST := hide ((unhide ST).all hbb)
    replace XS := hide ((unhide XS).all hbb)
    clear hb1 ba hbb K2 a0 a1 a2 b0 b1 b2 e0 e1 e2
    have a0 := (unhide ST).1.c0; have a1 := (unhide ST).1.c1; have a2 := (unhide ST).1.c2; have b0 := (unhide ST).2.1.c0; have b1 := (unhide ST).2.1.c1; have b2 := (unhide ST).2.1.c2; have e0 := (unhide ST).2.2.1.c0; have e1 := (unhide ST).2.2.1.c1; have e2 := (unhide ST).2.2.1.c2
    go_wp2_with fail
    generalize w2.heap.size = g2 at *
    refine (unhide K3 _ (unhide ST).2.2.2).mono ?_
    rintro e w3 ⟨rfl, hb1⟩
    replace ST := hide ((unhide ST).all hb1)
    replace XS := hide ((unhide XS).all hb1); replace XO := hide ((unhide XO).all hb1)
    clear hb1 a0 a1 a2 b0 b1 b2 e0 e1 e2
    have a0 := (unhide ST).1.c0; have a1 := (unhide ST).1.c1; have a2 := (unhide ST).1.c2; have b0 := (unhide ST).2.1.c0; have b1 := (unhide ST).2.1.c1; have b2 := (unhide ST).2.1.c2; have e0 := (unhide ST).2.2.1.c0; have e1 := (unhide ST).2.2.1.c1; have e2 := (unhide ST).2.2.1.c2
    go_wp2_with fail
    refine (unhide K4 _ (unhide ST).2.2.2).mono ?_
    rintro e w4 ⟨rfl, hb1⟩
    replace ST := hide ((unhide ST).all hb1)
    replace XS := hide ((unhide XS).all hb1); replace XO := hide ((unhide XO).all hb1)
    clear hb1 a0 a1 a2 b0 b1 b2 e0 e1 e2
    have a0 := (unhide ST).1.c0; have a1 := (unhide ST).1.c1; have a2 := (unhide ST).1.c2; have b0 := (unhide ST).2.1.c0; have b1 := (unhide ST).2.1.c1; have b2 := (unhide ST).2.1.c2; have e0 := (unhide ST).2.2.1.c0; have e1 := (unhide ST).2.2.1.c1; have e2 := (unhide ST).2.2.1.c2
    have s0 := (unhide XS).c0; have s1 := (unhide XS).c1; have s2 := (unhide XS).c2
    go_wp2_with fail
    refine (unhide KT _).mono ?_
    rintro e w6 ⟨rfl, hb1⟩
    replace ST := hide ((unhide ST).all hb1)
    replace XO := hide ((unhide XO).all hb1)
    clear hb1 s0 s1 s2 XS a0 a1 a2 b0 b1 b2 e0 e1 e2
    have s0 := (unhide XO).c0; have s1 := (unhide XO).c1; have s2 := (unhide XO).c2
    go_wp2_with fail
    refine (unhide KT _).mono ?_
    rintro e w7 ⟨rfl, hb1⟩
    replace ST := hide ((unhide ST).all hb1)
    clear hb1 s0 s1 s2 XO KT
    go_wp2_with fail
    refine (unhide KA _ (unhide ST).2.2.2).mono ?_
    rintro e w8 ⟨rfl, hb1⟩
    replace ST := hide ((unhide ST).all hb1)
    clear hb1 KA
    go_wp2
    go_ret
    exact ⟨rfl, (unhide ST).2.2.2⟩

set_option maxRecDepth 20000 in
set_option maxHeartbeats 16000000 in
theorem certifyResiduals_e3 (r c p q s d : Int) (ao bo co : Option Addr) (na nb nc ca cb cc : Nat) (w : World) (f : Int) (hf : f = 1 ∨ f = 4)
    (C1 : ∀ w', Below w.heap.size w w' → Calls Tryz.prog 17 #[.agg #[.int .i64 r, .int .i64 c, .slice ao na ca], .agg #[.int .i64 p, .int .i64 q, .slice bo nb cb], .agg #[.int .i64 s, .int .i64 d, .slice co nc cc]] w' fun e w'' => e = .returned (.tuple #[.agg #[.bool false, .slice none 0 0, .int .i64 0], .int .i64 f]) ∧ Below w'.heap.size w' w'')
    (C2 : ∀ w', Below w.heap.size w w' → Calls Tryz.prog 18 #[.agg #[.int .i64 p, .int .i64 q, .slice bo nb cb], .agg #[.int .i64 s, .int .i64 d, .slice co nc cc], .agg #[.int .i64 r, .int .i64 c, .slice ao na ca]] w' fun e w'' => e = .returned (.tuple #[.agg #[.bool false, .slice none 0 0, .int .i64 0], .int .i64 f]) ∧ Below w'.heap.size w' w'')
    (C3 : ∀ w', Below w.heap.size w w' → Calls Tryz.prog 11 #[.agg #[.int .i64 r, .int .i64 c, .slice ao na ca]] w' fun e w'' => e = .returned (.int .i64 0) ∧ Below w'.heap.size w' w'')
    (C4 : ∀ w', Below w.heap.size w w' → Calls Tryz.prog 11 #[.agg #[.int .i64 p, .int .i64 q, .slice bo nb cb]] w' fun e w'' => e = .returned (.int .i64 0) ∧ Below w'.heap.size w' w'')
    (C5 : ∀ w', Below w.heap.size w w' → Calls Tryz.prog 11 #[.agg #[.int .i64 s, .int .i64 d, .slice co nc cc]] w' fun e w'' => e = .returned (.int .i64 f) ∧ Below w'.heap.size w' w'')
    (CA : ∀ w', Below w.heap.size w w' → Calls Tryz.prog 14 #[] w' fun e w'' => e = .returned (.bool true) ∧ Below w'.heap.size w' w'') :
    Calls Tryz.prog 4 #[.agg #[.int .i64 r, .int .i64 c, .slice ao na ca], .agg #[.int .i64 p, .int .i64 q, .slice bo nb cb], .agg #[.int .i64 s, .int .i64 d, .slice co nc cc]] w fun e w' => e = .returned (.bool true) ∧ Below w.heap.size w w' := by
  have KT := hide (fun w' => told11_err f (by rcases hf with h | h <;> omega) w')
  have K1 := hide C1; have K2 := hide C2; have KA := hide CA; have K3 := hide C3; have K4 := hide C4; have K5 := hide C5
  have ST := hide (T3St.start w r c p q s d ao bo co na nb nc ca cb cc)
  have a0 := (unhide ST).1.c0; have a1 := (unhide ST).1.c1; have a2 := (unhide ST).1.c2; have b0 := (unhide ST).2.1.c0; have b1 := (unhide ST).2.1.c1; have b2 := (unhide ST).2.1.c2; have e0 := (unhide ST).2.2.1.c0; have e1 := (unhide ST).2.2.1.c1; have e2 := (unhide ST).2.2.1.c2
  clear C1 C2 CA C3 C4 C5
  rcases hf with rfl | rfl
  all_goals
    go_enter Tryz.func4, Tryz.ntmps4
    go_wp2_with fail
    refine (unhide K1 _ (unhide ST).2.2.2).mono ?_
    rintro e w1 ⟨rfl, hb1⟩
    have ba := below_alloc9 w1 (.cells #[.bool false, .slice none 0 0, .int .i64 0] 29)
    have hbb := hb1.trans (ba.mono hb1.size)
    have XS := hide (Box3.new w1 (.bool false) (.slice none 0 0) (.int .i64 0))
    replace ST := hide ((unhide ST).all hbb)
    clear hb1 ba hbb K1 a0 a1 a2 b0 b1 b2 e0 e1 e2
    have a0 := (unhide ST).1.c0; have a1 := (unhide ST).1.c1; have a2 := (unhide ST).1.c2; have b0 := (unhide ST).2.1.c0; have b1 := (unhide ST).2.1.c1; have b2 := (unhide ST).2.1.c2; have e0 := (unhide ST).2.2.1.c0; have e1 := (unhide ST).2.2.1.c1; have e2 := (unhide ST).2.2.1.c2
    go_wp2_with fail
    generalize w1.heap.size = g1 at *
    refine (unhide K2 _ (unhide ST).2.2.2).mono ?_
    rintro e w2 ⟨rfl, hb1⟩
    have ba := below_alloc9 w2 (.cells #[.bool false, .slice none 0 0, .int .i64 0] 29)
    have hbb := hb1.trans (ba.mono hb1.size)
    have XO := hide (Box3.new w2 (.bool false) (.slice none 0 0) (.int .i64 0))
    replace ST := hide ((unhide ST).all hbb)
    replace XS := hide ((unhide XS).all hbb)
    clear hb1 ba hbb K2 a0 a1 a2 b0 b1 b2 e0 e1 e2
    have a0 := (unhide ST).1.c0; have a1 := (unhide ST).1.c1; have a2 := (unhide ST).1.c2; have b0 := (unhide ST).2.1.c0; have b1 := (unhide ST).2.1.c1; have b2 := (unhide ST).2.1.c2; have e0 := (unhide ST).2.2.1.c0; have e1 := (unhide ST).2.2.1.c1; have e2 := (unhide ST).2.2.1.c2
    go_wp2_with fail
    generalize w2.heap.size = g2 at *
    refine (unhide K3 _ (unhide ST).2.2.2).mono ?_
    rintro e w3 ⟨rfl, hb1⟩
    replace ST := hide ((unhide ST).all hb1)
    replace XS := hide ((unhide XS).all hb1); replace XO := hide ((unhide XO).all hb1)
    clear hb1 a0 a1 a2 b0 b1 b2 e0 e1 e2
    have a0 := (unhide ST).1.c0; have a1 := (unhide ST).1.c1; have a2 := (unhide ST).1.c2; have b0 := (unhide ST).2.1.c0; have b1 := (unhide ST).2.1.c1; have b2 := (unhide ST).2.1.c2; have e0 := (unhide ST).2.2.1.c0; have e1 := (unhide ST).2.2.1.c1; have e2 := (unhide ST).2.2.1.c2
    go_wp2_with fail
    refine (unhide K4 _ (unhide ST).2.2.2).mono ?_
    rintro e w4 ⟨rfl, hb1⟩
    replace ST := hide ((unhide ST).all hb1)
    replace XS := hide ((unhide XS).all hb1); replace XO := hide ((unhide XO).all hb1)
    clear hb1 a0 a1 a2 b0 b1 b2 e0 e1 e2
    have a0 := (unhide ST).1.c0; have a1 := (unhide ST).1.c1; have a2 := (unhide ST).1.c2; have b0 := (unhide ST).2.1.c0; have b1 := (unhide ST).2.1.c1; have b2 := (unhide ST).2.1.c2; have e0 := (unhide ST).2.2.1.c0; have e1 := (unhide ST).2.2.1.c1; have e2 := (unhide ST).2.2.1.c2
    go_wp2_with fail
    refine (unhide K5 _ (unhide ST).2.2.2).mono ?_
    rintro e w5 ⟨rfl, hb1⟩
    replace ST := hide ((unhide ST).all hb1)
    replace XS := hide ((unhide XS).all hb1); replace XO := hide ((unhide XO).all hb1)
    clear hb1 a0 a1 a2 b0 b1 b2 e0 e1 e2
    have a0 := (unhide ST).1.c0; have a1 := (unhide ST).1.c1; have a2 := (unhide ST).1.c2; have b0 := (unhide ST).2.1.c0; have b1 := (unhide ST).2.1.c1; have b2 := (unhide ST).2.1.c2; have e0 := (unhide ST).2.2.1.c0; have e1 := (unhide ST).2.2.1.c1; have e2 := (unhide ST).2.2.1.c2
    have s0 := (unhide XS).c0; have s1 := (unhide XS).c1; have s2 := (unhide XS).c2
    go_wp2_with fail
    refine (unhide KT _).mono ?_
    rintro e w6 ⟨rfl, hb1⟩
    replace ST := hide ((unhide ST).all hb1)
    replace XO := hide ((unhide XO).all hb1)
    clear hb1 s0 s1 s2 XS a0 a1 a2 b0 b1 b2 e0 e1 e2
    have s0 := (unhide XO).c0; have s1 := (unhide XO).c1; have s2 := (unhide XO).c2
    go_wp2_with fail
    refine (unhide KT _).mono ?_
    rintro e w7 ⟨rfl, hb1⟩
    replace ST := hide ((unhide ST).all hb1)
    clear hb1 s0 s1 s2 XO KT
    go_wp2_with fail
    refine (unhide KA _ (unhide ST).2.2.2).mono ?_
    rintro e w8 ⟨rfl, hb1⟩
    replace ST := hide ((unhide ST).all hb1)
    clear hb1 KA
    go_wp2
    go_ret
    exact ⟨rfl, (unhide ST).2.2.2⟩

set_option maxRecDepth 20000 in
set_option maxHeartbeats 16000000 in
theorem certifyResiduals_shape (r c p q s d : Int) (ao bo co : Option Addr) (na nb nc ca cb cc : Nat) (w : World) (h : ¬ q = s ∨ (q = s ∧ ¬ r = p) ∨ (q = s ∧ r = p ∧ ¬ c = d))
    (C1 : ∀ w', Below w.heap.size w w' → Calls Tryz.prog 17 #[.agg #[.int .i64 r, .int .i64 c, .slice ao na ca], .agg #[.int .i64 p, .int .i64 q, .slice bo nb cb], .agg #[.int .i64 s, .int .i64 d, .slice co nc cc]] w' fun e w'' => e = .returned (.tuple #[.agg #[.bool false, .slice none 0 0, .int .i64 0], .int .i64 3]) ∧ Below w'.heap.size w' w'')
    (C2 : ∀ w', Below w.heap.size w w' → Calls Tryz.prog 18 #[.agg #[.int .i64 p, .int .i64 q, .slice bo nb cb], .agg #[.int .i64 s, .int .i64 d, .slice co nc cc], .agg #[.int .i64 r, .int .i64 c, .slice ao na ca]] w' fun e w'' => e = .returned (.tuple #[.agg #[.bool false, .slice none 0 0, .int .i64 0], .int .i64 3]) ∧ Below w'.heap.size w' w'')
    (C3 : ∀ w', Below w.heap.size w w' → Calls Tryz.prog 11 #[.agg #[.int .i64 r, .int .i64 c, .slice ao na ca]] w' fun e w'' => e = .returned (.int .i64 0) ∧ Below w'.heap.size w' w'')
    (C4 : ∀ w', Below w.heap.size w w' → Calls Tryz.prog 11 #[.agg #[.int .i64 p, .int .i64 q, .slice bo nb cb]] w' fun e w'' => e = .returned (.int .i64 0) ∧ Below w'.heap.size w' w'')
    (C5 : ∀ w', Below w.heap.size w w' → Calls Tryz.prog 11 #[.agg #[.int .i64 s, .int .i64 d, .slice co nc cc]] w' fun e w'' => e = .returned (.int .i64 0) ∧ Below w'.heap.size w' w'')
    (CA : ∀ w', Below w.heap.size w w' → Calls Tryz.prog 14 #[] w' fun e w'' => e = .returned (.bool true) ∧ Below w'.heap.size w' w'') :
    Calls Tryz.prog 4 #[.agg #[.int .i64 r, .int .i64 c, .slice ao na ca], .agg #[.int .i64 p, .int .i64 q, .slice bo nb cb], .agg #[.int .i64 s, .int .i64 d, .slice co nc cc]] w fun e w' => e = .returned (.bool true) ∧ Below w.heap.size w w' := by
  have KT := hide (fun w' => told11_err 3 (by decide) w')
  have K1 := hide C1; have K2 := hide C2; have KA := hide CA; have K3 := hide C3; have K4 := hide C4; have K5 := hide C5
  have ST := hide (T3St.start w r c p q s d ao bo co na nb nc ca cb cc)
  have a0 := (unhide ST).1.c0; have a1 := (unhide ST).1.c1; have a2 := (unhide ST).1.c2; have b0 := (unhide ST).2.1.c0; have b1 := (unhide ST).2.1.c1; have b2 := (unhide ST).2.1.c2; have e0 := (unhide ST).2.2.1.c0; have e1 := (unhide ST).2.2.1.c1; have e2 := (unhide ST).2.2.1.c2
  clear C1 C2 CA C3 C4 C5
  rcases h with h | ⟨rfl, h⟩ | ⟨rfl, rfl, h⟩
  all_goals
    go_enter Tryz.func4, Tryz.ntmps4
    go_wp2_with fail
    refine (unhide K1 _ (unhide ST).2.2.2).mono ?_
    rintro e w1 ⟨rfl, hb1⟩
    have ba := below_alloc9 w1 (.cells #[.bool false, .slice none 0 0, .int .i64 0] 29)
    have hbb := hb1.trans (ba.mono hb1.size)
    have XS := hide (Box3.new w1 (.bool false) (.slice none 0 0) (.int .i64 0))
    replace ST := hide ((unhide ST).all hbb)
    clear hb1 ba hbb K1 a0 a1 a2 b0 b1 b2 e0 e1 e2
    have a0 := (unhide ST).1.c0; have a1 := (unhide ST).1.c1; have a2 := (unhide ST).1.c2; have b0 := (unhide ST).2.1.c0; have b1 := (unhide ST).2.1.c1; have b2 := (unhide ST).2.1.c2; have e0 := (unhide ST).2.2.1.c0; have e1 := (unhide ST).2.2.1.c1; have e2 := (unhide ST).2.2.1.c2
    go_wp2_with fail
    generalize w1.heap.size = g1 at *
    refine (unhide K2 _ (unhide ST).2.2.2).mono ?_
    rintro e w2 ⟨rfl, hb1⟩
    have ba := below_alloc9 w2 (.cells #[.bool false, .slice none 0 0, .int .i64 0] 29)
    have hbb := hb1.trans (ba.mono hb1.size)
    have XO := hide (Box3.new w2 (.bool false) (.slice none 0 0) (.int .i64 0))
    replace ST := hide ((unhide ST).all hbb)
    replace XS := hide ((unhide XS).all hbb)
    clear hb1 ba hbb K2 a0 a1 a2 b0 b1 b2 e0 e1 e2
    have a0 := (unhide ST).1.c0; have a1 := (unhide ST).1.c1; have a2 := (unhide ST).1.c2; have b0 := (unhide ST).2.1.c0; have b1 := (unhide ST).2.1.c1; have b2 := (unhide ST).2.1.c2; have e0 := (unhide ST).2.2.1.c0; have e1 := (unhide ST).2.2.1.c1; have e2 := (unhide ST).2.2.1.c2
    go_wp2_with fail
    generalize w2.heap.size = g2 at *
    refine (unhide K3 _ (unhide ST).2.2.2).mono ?_
    rintro e w3 ⟨rfl, hb1⟩
    replace ST := hide ((unhide ST).all hb1)
    replace XS := hide ((unhide XS).all hb1); replace XO := hide ((unhide XO).all hb1)
    clear hb1 a0 a1 a2 b0 b1 b2 e0 e1 e2
    have a0 := (unhide ST).1.c0; have a1 := (unhide ST).1.c1; have a2 := (unhide ST).1.c2; have b0 := (unhide ST).2.1.c0; have b1 := (unhide ST).2.1.c1; have b2 := (unhide ST).2.1.c2; have e0 := (unhide ST).2.2.1.c0; have e1 := (unhide ST).2.2.1.c1; have e2 := (unhide ST).2.2.1.c2
    go_wp2_with fail
    refine (unhide K4 _ (unhide ST).2.2.2).mono ?_
    rintro e w4 ⟨rfl, hb1⟩
    replace ST := hide ((unhide ST).all hb1)
    replace XS := hide ((unhide XS).all hb1); replace XO := hide ((unhide XO).all hb1)
    clear hb1 a0 a1 a2 b0 b1 b2 e0 e1 e2
    have a0 := (unhide ST).1.c0; have a1 := (unhide ST).1.c1; have a2 := (unhide ST).1.c2; have b0 := (unhide ST).2.1.c0; have b1 := (unhide ST).2.1.c1; have b2 := (unhide ST).2.1.c2; have e0 := (unhide ST).2.2.1.c0; have e1 := (unhide ST).2.2.1.c1; have e2 := (unhide ST).2.2.1.c2
    go_wp2_with fail
    refine (unhide K5 _ (unhide ST).2.2.2).mono ?_
    rintro e w5 ⟨rfl, hb1⟩
    replace ST := hide ((unhide ST).all hb1)
    replace XS := hide ((unhide XS).all hb1); replace XO := hide ((unhide XO).all hb1)
    clear hb1 a0 a1 a2 b0 b1 b2 e0 e1 e2
    have a0 := (unhide ST).1.c0; have a1 := (unhide ST).1.c1; have a2 := (unhide ST).1.c2; have b0 := (unhide ST).2.1.c0; have b1 := (unhide ST).2.1.c1; have b2 := (unhide ST).2.1.c2; have e0 := (unhide ST).2.2.1.c0; have e1 := (unhide ST).2.2.1.c1; have e2 := (unhide ST).2.2.1.c2
    have s0 := (unhide XS).c0; have s1 := (unhide XS).c1; have s2 := (unhide XS).c2
    go_wp2_with fail
    refine (unhide KT _).mono ?_
    rintro e w6 ⟨rfl, hb1⟩
    replace ST := hide ((unhide ST).all hb1)
    replace XO := hide ((unhide XO).all hb1)
    clear hb1 s0 s1 s2 XS a0 a1 a2 b0 b1 b2 e0 e1 e2
    have s0 := (unhide XO).c0; have s1 := (unhide XO).c1; have s2 := (unhide XO).c2
    go_wp2_with fail
    refine (unhide KT _).mono ?_
    rintro e w7 ⟨rfl, hb1⟩
    replace ST := hide ((unhide ST).all hb1)
    clear hb1 s0 s1 s2 XO KT
    go_wp2_with fail
    refine (unhide KA _ (unhide ST).2.2.2).mono ?_
    rintro e w8 ⟨rfl, hb1⟩
    replace ST := hide ((unhide ST).all hb1)
    clear hb1 KA
    go_wp2
    go_ret
    exact ⟨rfl, (unhide ST).2.2.2⟩

set_option maxRecDepth 20000 in
set_option maxHeartbeats 16000000 in
theorem certifyResiduals_ok (r c p q s d : Int) (ao bo co : Option Addr) (na nb nc ca cb cc : Nat) (w : World) (lo1 z1 lo2 z2 : Int) (h1 : q = s) (h2 : r = p) (h3 : c = d)
    (C1 : ∀ w', Below w.heap.size w w' → Calls Tryz.prog 17 #[.agg #[.int .i64 r, .int .i64 c, .slice ao na ca], .agg #[.int .i64 p, .int .i64 q, .slice bo nb cb], .agg #[.int .i64 s, .int .i64 d, .slice co nc cc]] w' fun e w'' => ∃ v, e = .returned (.tuple #[v, .int .i64 0]) ∧ IsLv w'' v lo1 z1 ∧ Below w'.heap.size w' w'')
    (C2 : ∀ w', Below w.heap.size w w' → Calls Tryz.prog 18 #[.agg #[.int .i64 p, .int .i64 q, .slice bo nb cb], .agg #[.int .i64 s, .int .i64 d, .slice co nc cc], .agg #[.int .i64 r, .int .i64 c, .slice ao na ca]] w' fun e w'' => ∃ v, e = .returned (.tuple #[v, .int .i64 0]) ∧ IsLv w'' v lo2 z2 ∧ Below w'.heap.size w' w'')
    (C3 : ∀ w', Below w.heap.size w w' → Calls Tryz.prog 11 #[.agg #[.int .i64 r, .int .i64 c, .slice ao na ca]] w' fun e w'' => e = .returned (.int .i64 0) ∧ Below w'.heap.size w' w'')
    (C4 : ∀ w', Below w.heap.size w w' → Calls Tryz.prog 11 #[.agg #[.int .i64 p, .int .i64 q, .slice bo nb cb]] w' fun e w'' => e = .returned (.int .i64 0) ∧ Below w'.heap.size w' w'')
    (C5 : ∀ w', Below w.heap.size w w' → Calls Tryz.prog 11 #[.agg #[.int .i64 s, .int .i64 d, .slice co nc cc]] w' fun e w'' => e = .returned (.int .i64 0) ∧ Below w'.heap.size w' w'')
    (C6 : ∀ w', Below w.heap.size w w' → Calls Tryz.prog 19 #[.agg #[.int .i64 r, .int .i64 c, .slice ao na ca], .agg #[.int .i64 p, .int .i64 q, .slice bo nb cb], .agg #[.int .i64 s, .int .i64 d, .slice co nc cc]] w' fun e w'' => ∃ v, e = .returned v ∧ IsLv w'' v lo1 z1 ∧ Below w'.heap.size w' w'')
    (C7 : ∀ w', Below w.heap.size w w' → Calls Tryz.prog 20 #[.agg #[.int .i64 p, .int .i64 q, .slice bo nb cb], .agg #[.int .i64 s, .int .i64 d, .slice co nc cc], .agg #[.int .i64 r, .int .i64 c, .slice ao na ca]] w' fun e w'' => ∃ v, e = .returned v ∧ IsLv w'' v lo2 z2 ∧ Below w'.heap.size w' w'')
    (CA : ∀ w', Below w.heap.size w w' → Calls Tryz.prog 14 #[] w' fun e w'' => e = .returned (.bool true) ∧ Below w'.heap.size w' w'') :
    Calls Tryz.prog 4 #[.agg #[.int .i64 r, .int .i64 c, .slice ao na ca], .agg #[.int .i64 p, .int .i64 q, .slice bo nb cb], .agg #[.int .i64 s, .int .i64 d, .slice co nc cc]] w fun e w' => e = .returned (.bool true) ∧ Below w.heap.size w w' := by
  have K1 := hide C1; have K2 := hide C2; have KA := hide CA; have K3 := hide C3; have K4 := hide C4; have K5 := hide C5; have K6 := hide C6; have K7 := hide C7
  have ST := hide (T3St.start w r c p q s d ao bo co na nb nc ca cb cc)
  have a0 := (unhide ST).1.c0; have a1 := (unhide ST).1.c1; have a2 := (unhide ST).1.c2; have b0 := (unhide ST).2.1.c0; have b1 := (unhide ST).2.1.c1; have b2 := (unhide ST).2.1.c2; have e0 := (unhide ST).2.2.1.c0; have e1 := (unhide ST).2.2.1.c1; have e2 := (unhide ST).2.2.1.c2
  clear C1 C2 CA C3 C4 C5 C6 C7
  subst h1 h2 h3
  go_enter Tryz.func4, Tryz.ntmps4
  go_wp2_with fail
  refine (unhide K1 _ (unhide ST).2.2.2).mono ?_
  rintro e w1 ⟨v, rfl, ⟨n1, a1', c1', L1, rfl, i1⟩, hb1⟩
  have q1 : IsLv w1 (.agg #[.bool n1, .slice a1' L1.length c1', .int .i64 (oE z1 lo1)]) lo1 z1 := ⟨n1, a1', c1', L1, rfl, i1⟩
  generalize L1.length = l1 at *
  generalize hE1 : oE z1 lo1 = E1 at *
  have ba := below_alloc9 w1 (.cells #[.bool n1, .slice a1' l1 c1', .int .i64 E1] 29)
  have hbb := hb1.trans (ba.mono hb1.size)
  have XS := hide (Box3.new w1 (.bool n1) (.slice a1' l1 c1') (.int .i64 E1)); have QS := hide (q1.below ba)
  replace ST := hide ((unhide ST).all hbb)
  clear hb1 ba hbb K1 a0 a1 a2 b0 b1 b2 e0 e1 e2 q1 i1
  have a0 := (unhide ST).1.c0; have a1 := (unhide ST).1.c1; have a2 := (unhide ST).1.c2; have b0 := (unhide ST).2.1.c0; have b1 := (unhide ST).2.1.c1; have b2 := (unhide ST).2.1.c2; have e0 := (unhide ST).2.2.1.c0; have e1 := (unhide ST).2.2.1.c1; have e2 := (unhide ST).2.2.1.c2
  have H1 := hide hE1
  clear hE1
  go_wp2_with fail
  generalize w1.heap.size = g1 at *
  refine (unhide K2 _ (unhide ST).2.2.2).mono ?_
  rintro e w2 ⟨v, rfl, ⟨n2, a2', c2', L2, rfl, i2⟩, hb1⟩
  have q2 : IsLv w2 (.agg #[.bool n2, .slice a2' L2.length c2', .int .i64 (oE z2 lo2)]) lo2 z2 := ⟨n2, a2', c2', L2, rfl, i2⟩
  generalize L2.length = l2 at *
  generalize hE2 : oE z2 lo2 = E2 at *
  have ba := below_alloc9 w2 (.cells #[.bool n2, .slice a2' l2 c2', .int .i64 E2] 29)
  have hbb := hb1.trans (ba.mono hb1.size)
  have XO := hide (Box3.new w2 (.bool n2) (.slice a2' l2 c2') (.int .i64 E2)); have QO := hide (q2.below ba)
  replace ST := hide ((unhide ST).all hbb); replace XS := hide ((unhide XS).all hbb); replace QS := hide ((unhide QS).below hbb)
  clear hb1 ba hbb K2 a0 a1 a2 b0 b1 b2 e0 e1 e2 q2 i2
  have a0 := (unhide ST).1.c0; have a1 := (unhide ST).1.c1; have a2 := (unhide ST).1.c2; have b0 := (unhide ST).2.1.c0; have b1 := (unhide ST).2.1.c1; have b2 := (unhide ST).2.1.c2; have e0 := (unhide ST).2.2.1.c0; have e1 := (unhide ST).2.2.1.c1; have e2 := (unhide ST).2.2.1.c2
  have H2 := hide hE2
  clear hE2
  go_wp2_with fail
  generalize w2.heap.size = g2 at *
  refine (unhide K3 _ (unhide ST).2.2.2).mono ?_
  rintro e w3 ⟨rfl, hb1⟩
  replace ST := hide ((unhide ST).all hb1); replace XS := hide ((unhide XS).all hb1); replace XO := hide ((unhide XO).all hb1); replace QS := hide ((unhide QS).below hb1); replace QO := hide ((unhide QO).below hb1)
  clear hb1 a0 a1 a2 b0 b1 b2 e0 e1 e2 K3
  have a0 := (unhide ST).1.c0; have a1 := (unhide ST).1.c1; have a2 := (unhide ST).1.c2; have b0 := (unhide ST).2.1.c0; have b1 := (unhide ST).2.1.c1; have b2 := (unhide ST).2.1.c2; have e0 := (unhide ST).2.2.1.c0; have e1 := (unhide ST).2.2.1.c1; have e2 := (unhide ST).2.2.1.c2
  go_wp2_with fail
  refine (unhide K4 _ (unhide ST).2.2.2).mono ?_
  rintro e w4 ⟨rfl, hb1⟩
  replace ST := hide ((unhide ST).all hb1); replace XS := hide ((unhide XS).all hb1); replace XO := hide ((unhide XO).all hb1); replace QS := hide ((unhide QS).below hb1); replace QO := hide ((unhide QO).below hb1)
  clear hb1 a0 a1 a2 b0 b1 b2 e0 e1 e2 K4
  have a0 := (unhide ST).1.c0; have a1 := (unhide ST).1.c1; have a2 := (unhide ST).1.c2; have b0 := (unhide ST).2.1.c0; have b1 := (unhide ST).2.1.c1; have b2 := (unhide ST).2.1.c2; have e0 := (unhide ST).2.2.1.c0; have e1 := (unhide ST).2.2.1.c1; have e2 := (unhide ST).2.2.1.c2
  go_wp2_with fail
  refine (unhide K5 _ (unhide ST).2.2.2).mono ?_
  rintro e w5 ⟨rfl, hb1⟩
  replace ST := hide ((unhide ST).all hb1); replace XS := hide ((unhide XS).all hb1); replace XO := hide ((unhide XO).all hb1); replace QS := hide ((unhide QS).below hb1); replace QO := hide ((unhide QO).below hb1)
  clear hb1 a0 a1 a2 b0 b1 b2 e0 e1 e2 K5
  have a0 := (unhide ST).1.c0; have a1 := (unhide ST).1.c1; have a2 := (unhide ST).1.c2; have b0 := (unhide ST).2.1.c0; have b1 := (unhide ST).2.1.c1; have b2 := (unhide ST).2.1.c2; have e0 := (unhide ST).2.2.1.c0; have e1 := (unhide ST).2.2.1.c1; have e2 := (unhide ST).2.2.1.c2
  go_wp2_with fail
  refine at_world (fun W => T3St w W r c r q q c ao bo co na nb nc ca cb cc ∧ (Box3 W g1 (.bool n1) (.slice a1' l1 c1') (.int .i64 E1) ∧ Box3 W g2 (.bool n2) (.slice a2' l2 c2') (.int .i64 E2)) ∧ (IsLv W (.agg #[.bool n1, .slice a1' l1 c1', .int .i64 E1]) lo1 z1 ∧ IsLv W (.agg #[.bool n2, .slice a2' l2 c2', .int .i64 E2]) lo2 z2)) ⟨unhide ST, ⟨unhide XS, unhide XO⟩, unhide QS, unhide QO⟩ ?_
  clear ST XS XO QS QO a0 a1 a2 b0 b1 b2 e0 e1 e2
  rintro W0 ⟨st, ⟨xs, xo⟩, qs, qo⟩
  have HK := hide (show ∀ w', Below W0.heap.size W0 w' → Below W0.heap.size W0 w' ∧ w'.cell? ⟨w.heap.size, 0, none⟩ = some (.int .i64 r) ∧ w'.cell? ⟨w.heap.size, 1, none⟩ = some (.int .i64 c) ∧ w'.cell? ⟨w.heap.size, 2, none⟩ = some (.slice ao na ca) ∧ w'.cell? ⟨w.heap.size + 1, 0, none⟩ = some (.int .i64 r) ∧ w'.cell? ⟨w.heap.size + 1, 1, none⟩ = some (.int .i64 q) ∧ w'.cell? ⟨w.heap.size + 1, 2, none⟩ = some (.slice bo nb cb) ∧ w'.cell? ⟨w.heap.size + 1 + 1, 0, none⟩ = some (.int .i64 q) ∧ w'.cell? ⟨w.heap.size + 1 + 1, 1, none⟩ = some (.int .i64 c) ∧ w'.cell? ⟨w.heap.size + 1 + 1, 2, none⟩ = some (.slice co nc cc) ∧ w'.cell? ⟨g1, 0, none⟩ = some (.bool n1) ∧ w'.cell? ⟨g1, 1, none⟩ = some (.slice a1' l1 c1') ∧ w'.cell? ⟨g1, 2, none⟩ = some (.int .i64 E1) ∧ w'.cell? ⟨g2, 0, none⟩ = some (.bool n2) ∧ w'.cell? ⟨g2, 1, none⟩ = some (.slice a2' l2 c2') ∧ w'.cell? ⟨g2, 2, none⟩ = some (.int .i64 E2) from fun w' h => ⟨h, (st.all h).1.c0, (st.all h).1.c1, (st.all h).1.c2, (st.all h).2.1.c0, (st.all h).2.1.c1, (st.all h).2.1.c2, (st.all h).2.2.1.c0, (st.all h).2.2.1.c1, (st.all h).2.2.1.c2, (xs.all h).c0, (xs.all h).c1, (xs.all h).c2, (xo.all h).c0, (xo.all h).c1, (xo.all h).c2⟩)
  have HW := hide (fun w' (h : Below W0.heap.size W0 w') => (st.all h).2.2.2)
  have HS := hide (fun w' (h : Below W0.heap.size W0 w') => qs.below h)
  have HO := hide (fun w' (h : Below W0.heap.size W0 w') => qo.below h)
  clear st xs xo qs qo
  go_region_held3 (fun w' => Below W0.heap.size W0 w' ∧ w'.cell? ⟨w.heap.size, 0, none⟩ = some (.int .i64 r) ∧ w'.cell? ⟨w.heap.size, 1, none⟩ = some (.int .i64 c) ∧ w'.cell? ⟨w.heap.size, 2, none⟩ = some (.slice ao na ca) ∧ w'.cell? ⟨w.heap.size + 1, 0, none⟩ = some (.int .i64 r) ∧ w'.cell? ⟨w.heap.size + 1, 1, none⟩ = some (.int .i64 q) ∧ w'.cell? ⟨w.heap.size + 1, 2, none⟩ = some (.slice bo nb cb) ∧ w'.cell? ⟨w.heap.size + 1 + 1, 0, none⟩ = some (.int .i64 q) ∧ w'.cell? ⟨w.heap.size + 1 + 1, 1, none⟩ = some (.int .i64 c) ∧ w'.cell? ⟨w.heap.size + 1 + 1, 2, none⟩ = some (.slice co nc cc) ∧ w'.cell? ⟨g1, 0, none⟩ = some (.bool n1) ∧ w'.cell? ⟨g1, 1, none⟩ = some (.slice a1' l1 c1') ∧ w'.cell? ⟨g1, 2, none⟩ = some (.int .i64 E1) ∧ w'.cell? ⟨g2, 0, none⟩ = some (.bool n2) ∧ w'.cell? ⟨g2, 1, none⟩ = some (.slice a2' l2 c2') ∧ w'.cell? ⟨g2, 2, none⟩ = some (.int .i64 E2))
    (first | exact unhide HK _ (Below.refl _ _).drew | exact unhide HK _ (by assumption))
    (first
      | (go_at_call 19; refine (unhide K6 _ (unhide HW _ (And.left (by assumption)))).mono ?_; rintro e wa ⟨v, rfl, ⟨n5, a5, c5, L5, rfl, i5⟩, hb1⟩; have hBwa : Below W0.heap.size W0 wa := Below.trans (And.left (by assumption)) (hb1.mono (Below.size (And.left (by assumption)))); have Q5 := hide (show IsLv wa (.agg #[.bool n5, .slice a5 L5.length c5, .int .i64 (oE z1 lo1)]) lo1 z1 from ⟨n5, a5, c5, L5, rfl, i5⟩); clear hb1 i5; generalize L5.length = l5 at *; rw [unhide H1]; rw [unhide H1] at Q5)
      | (go_at_call_of 13 (Value.agg #[.bool n1, .slice a1' l1 c1', .int .i64 E1]); refine (told11_ok (by exact unhide HS _ (And.left (by assumption))) (unhide Q5)).mono ?_; rintro e wb ⟨rfl, hb1⟩; have hBwb : Below W0.heap.size W0 wb := Below.trans (And.left (by assumption)) (hb1.mono (Below.size (And.left (by assumption)))); clear hb1 Q5)
      | (go_at_call 20; refine (unhide K7 _ (unhide HW _ (And.left (by assumption)))).mono ?_; rintro e wc ⟨v, rfl, ⟨n6, a6, c6, L6, rfl, i6⟩, hb1⟩; have hBwc : Below W0.heap.size W0 wc := Below.trans (And.left (by assumption)) (hb1.mono (Below.size (And.left (by assumption)))); have Q6 := hide (show IsLv wc (.agg #[.bool n6, .slice a6 L6.length c6, .int .i64 (oE z2 lo2)]) lo2 z2 from ⟨n6, a6, c6, L6, rfl, i6⟩); clear hb1 i6; generalize L6.length = l6 at *; rw [unhide H2]; rw [unhide H2] at Q6)
      | (go_at_call_of 13 (Value.agg #[.bool n2, .slice a2' l2 c2', .int .i64 E2]); refine (told11_ok (by exact unhide HO _ (And.left (by assumption))) (unhide Q6)).mono ?_; rintro e wd ⟨rfl, hb1⟩; have hBwd : Below W0.heap.size W0 wd := Below.trans (And.left (by assumption)) (hb1.mono (Below.size (And.left (by assumption)))); clear hb1 Q6)
      | (go_at_call 14; refine (unhide KA _ (unhide HW _ (And.left (by assumption)))).mono ?_; rintro e we ⟨rfl, hb1⟩; have hBe : Below W0.heap.size W0 we := Below.trans (And.left (by assumption)) (hb1.mono (Below.size (And.left (by assumption)))); clear hb1)
      | fail "NO ARM")
  have hn : Below W0.heap.size W0 we := And.left (by assumption)
  go_wp2_with fail
  go_ret
  exact ⟨rfl, unhide HW _ hn⟩

theorem certifyResiduals_walk (r c : Int) (ao : Option Addr) (ca : Nat) (I : List Int) (p q : Int) (bo : Option Addr) (cb : Nat) (J : List Int) (s d : Int) (co : Option Addr) (cc : Nat) (K : List Int) (w : World)
    (hI : BitsAt w ao ca I) (hl : I.length ≤ 17592186043904) (_hr : -9223372036854775808 ≤ r ∧ r ≤ 9223372036854775807) (_hc : -9223372036854775808 ≤ c ∧ c ≤ 9223372036854775807)
    (hJ : BitsAt w bo cb J) (hlj : J.length ≤ 17592186043904) (_hp : -9223372036854775808 ≤ p ∧ p ≤ 9223372036854775807) (_hq : -9223372036854775808 ≤ q ∧ q ≤ 9223372036854775807)
    (hK : BitsAt w co cc K) (hlk : K.length ≤ 17592186043904) (_hs : -9223372036854775808 ≤ s ∧ s ≤ 9223372036854775807) (_hd : -9223372036854775808 ≤ d ∧ d ≤ 9223372036854775807) (hT : Tab w) :
    Calls Tryz.prog 4 #[.agg #[.int .i64 r, .int .i64 c, .slice ao I.length ca], .agg #[.int .i64 p, .int .i64 q, .slice bo J.length cb], .agg #[.int .i64 s, .int .i64 d, .slice co K.length cc]] w fun e w' => e = .returned (.bool true) ∧ Below w.heap.size w w' := by
  have CA := fun w' (hb : Below w.heap.size w w') => awake11_any w' (hT.all hb)
  have R1 := fun w' (hb : Below w.heap.size w w') => r11check_any r c ao ca I w' (hI.below hb) (by omega)
  have R2 := fun w' (hb : Below w.heap.size w w') => r11check_any p q bo cb J w' (hJ.below hb) (by omega)
  have R3 := fun w' (hb : Below w.heap.size w w') => r11check_any s d co cc K w' (hK.below hb) (by omega)
  have P1 := fun w' (hb : Below w.heap.size w w') => ccheck_any r c ao ca I w' (hI.below hb) (by omega)
  have P2 := fun w' (hb : Below w.heap.size w w') => ccheck_any p q bo cb J w' (hJ.below hb) (by omega)
  have P3 := fun w' (hb : Below w.heap.size w w') => ccheck_any s d co cc K w' (hK.below hb) (by omega)
  have PC := fun w' (hb : Below w.heap.size w w') => checkProduct_of r c p q s d ao bo co I.length J.length K.length ca cb cc (ckE r c I) (ckE p q J) (ckE s d K) w' (ckE_three r c I) (ckE_three p q J) (ckE_three s d K) (fun w'' h => P1 w'' (hb.trans (h.mono hb.size))) (fun w'' h => P2 w'' (hb.trans (h.mono hb.size))) (fun w'' h => P3 w'' (hb.trans (h.mono hb.size)))
  have ER := fun (f : Int) (hf : f = 1 ∨ f = 3 ∨ f = 4) (he : fst3 (ckE r c I) (ckE p q J) (ckE s d K) (if q = s ∧ r = p ∧ c = d then 0 else 3) = f) w' (hb : Below w.heap.size w w') => cRes_err r c p q s d ao bo co I.length J.length K.length ca cb cc f w' hf (fun w'' h => by have := PC w'' (hb.trans (h.mono hb.size)); rwa [he] at this)
  have EG := fun (f : Int) (hf : f = 1 ∨ f = 3 ∨ f = 4) (he : fst3 (ckE r c I) (ckE p q J) (ckE s d K) (if q = s ∧ r = p ∧ c = d then 0 else 3) = f) w' (hb : Below w.heap.size w w') => cGrad_err p q s d r c bo co ao J.length K.length I.length cb cc ca f w' hf (fun w'' h => by have := PC w'' (hb.trans (h.mono hb.size)); rwa [he] at this)
  by_cases h1 : ckE r c I = 0
  · rw [h1] at R1
    by_cases h2 : ckE p q J = 0
    · rw [h2] at R2
      by_cases h3 : ckE s d K = 0
      · rw [h3] at R3
        by_cases hsh : q = s ∧ r = p ∧ c = d
        · obtain ⟨rfl, rfl, rfl⟩ := hsh
          obtain ⟨r, c, rfl, rfl, hM, _, fA⟩ := Mx.asked hI h1
          obtain ⟨r', q, e1, rfl, hN, _, fB⟩ := Mx.asked hJ h2
          obtain ⟨q', c', e2, e3, hO, _, fC⟩ := Mx.asked hK h3
          obtain rfl : r = r' := by omega
          obtain rfl : q = q' := by omega
          obtain rfl : c = c' := by omega
          have lI : (natL I).length = I.length := natL_len I
          have lJ : (natL J).length = J.length := natL_len J
          have lK : (natL K).length = K.length := natL_len K
          refine certifyResiduals_ok r c r q q c ao bo co I.length J.length K.length ca cb cc w (-4296) (rsQ r q c (natL I) (natL J) (natL K)) (-6444) (grQ r q c (natL J) (natL K) (natL I)) rfl rfl rfl (fun w' hb => ?_) (fun w' hb => ?_) R1 R2 R3 (fun w' hb => ?_) (fun w' hb => ?_) CA
          · rw [← lI, ← lJ, ← lK]; exact cRes_any r q c ca cb cc ao bo co (natL I) (natL J) (natL K) w' (hM.below hb) (hN.below hb) (hO.below hb) fA fB fC (hT.all hb)
          · rw [← lI, ← lJ, ← lK]; exact cGrad_any r q c cb cc ca bo co ao (natL J) (natL K) (natL I) w' (hN.below hb) (hO.below hb) (hM.below hb) fB fC fA (hT.all hb)
          · rw [← lI, ← lJ, ← lK]; exact rRes_any r q c ca cb cc ao bo co (natL I) (natL J) (natL K) w' (hM.below hb) (hN.below hb) (hO.below hb) fA fB fC
          · rw [← lI, ← lJ, ← lK]; exact rGrad_any r q c cb cc ca bo co ao (natL J) (natL K) (natL I) w' (hN.below hb) (hO.below hb) (hM.below hb) fB fC fA
        · have he : fst3 (ckE r c I) (ckE p q J) (ckE s d K) (if q = s ∧ r = p ∧ c = d then 0 else 3) = 3 := by unfold fst3; rw [h1, h2, h3, if_neg hsh]; rfl
          exact certifyResiduals_shape r c p q s d ao bo co I.length J.length K.length ca cb cc w (by omega) (ER 3 (by omega) he) (EG 3 (by omega) he) R1 R2 R3 CA
      · have hf : ckE s d K = 1 ∨ ckE s d K = 4 := by rcases ckE_three s d K with h | h | h <;> omega
        have he : fst3 (ckE r c I) (ckE p q J) (ckE s d K) (if q = s ∧ r = p ∧ c = d then 0 else 3) = ckE s d K := by unfold fst3; rw [h1, h2, if_neg (by decide), if_neg (by decide), if_pos h3]
        exact certifyResiduals_e3 r c p q s d ao bo co I.length J.length K.length ca cb cc w (ckE s d K) hf (ER _ (by omega) he) (EG _ (by omega) he) R1 R2 R3 CA
    · have hf : ckE p q J = 1 ∨ ckE p q J = 4 := by rcases ckE_three p q J with h | h | h <;> omega
      have he : fst3 (ckE r c I) (ckE p q J) (ckE s d K) (if q = s ∧ r = p ∧ c = d then 0 else 3) = ckE p q J := by unfold fst3; rw [h1, if_neg (by decide), if_pos h2]
      exact certifyResiduals_e2 r c p q s d ao bo co I.length J.length K.length ca cb cc w (ckE p q J) hf (ER _ (by omega) he) (EG _ (by omega) he) R1 R2 CA
  · have hf : ckE r c I = 1 ∨ ckE r c I = 4 := by rcases ckE_three r c I with h | h | h <;> omega
    have he : fst3 (ckE r c I) (ckE p q J) (ckE s d K) (if q = s ∧ r = p ∧ c = d then 0 else 3) = ckE r c I := by unfold fst3; rw [if_pos h1]
    exact certifyResiduals_e1 r c p q s d ao bo co I.length J.length K.length ca cb cc w (ckE r c I) hf (ER _ (by omega) he) (EG _ (by omega) he) R1 CA

end Go.Proofs.YtfnnbkclnflpfaaGreatDoor

/- A struct of a sign and limbs that came in, opened. -/
namespace Go.Proofs.YtfnnbkclnflpfaaGreatDoor
open Go.ChangeShapes Go.WideShapes Go.ChangeAt Go.RowKit Go.Joins

theorem Tryz.own : ownKnob Tryz.prog.godebug = none := by kernel_rfl
theorem Tryz.laidOut : laidOutB Tryz.prog = true := by kernel_rfl
end Go.Proofs.YtfnnbkclnflpfaaGreatDoor

/- The bounds of an int or int64 that came in. -/
namespace Go.Proofs.YtfnnbkclnflpfaaGreatDoor

theorem bounds_of_i64 {x : Int} (h : (Lit.int .i64 x).wf = true) : -9223372036854775808 ≤ x ∧ x ≤ 9223372036854775807 := by
  simp [Lit.wf, IntKind.min, IntKind.max, IntKind.signed, IntKind.bits] at h
  omega

end Go.Proofs.YtfnnbkclnflpfaaGreatDoor

