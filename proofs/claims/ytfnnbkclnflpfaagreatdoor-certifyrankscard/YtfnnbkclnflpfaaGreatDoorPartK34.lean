/- Part 34 of the texts. -/
import Derived.Test.YtfnnbkclnflpfaaGreatDoorPartK32
import Derived.Test.YtfnnbkclnflpfaaGreatDoorPartK26
import Derived.Test.YtfnnbkclnflpfaaGreatDoorPartK33
import Derived.Test.YtfnnbkclnflpfaaGreatDoorPartK29
import Derived.Test.YtfnnbkclnflpfaaGreatDoorPartK11
import Derived.WalkSmall
import Derived.Test.YtfnnbkclnflpfaaGreatDoorPartK30
import Derived.Test.YtfnnbkclnflpfaaGreatDoorPartK08
import Derived.OwnWalk
import Derived.Test.YtfnnbkclnflpfaaGreatDoorPartK31
/- Package certify: lines walked; Rank. -/
namespace Go.Proofs.YtfnnbkclnflpfaaGreatDoor
open Go.RowKit
attribute [local go_sem ↓] Go.wp_at_zero Go.wp_at_succ

/-- How many numbers stand in row i, when row j has k. -/
def lnC (c j k i : Nat) : Nat := if i < j then c else if i = j then k else 0
theorem lnC_step (c j k i : Nat) : (if i = j then lnC c j k j + 1 else lnC c j k i) = lnC c j (k + 1) i := by
  unfold lnC
  by_cases h : i = j
  · subst h; rw [if_pos rfl, if_neg (by omega), if_pos rfl, if_neg (by omega), if_pos rfl]
  · rw [if_neg h]
    by_cases h2 : i < j
    · rw [if_pos h2, if_pos h2]
    · rw [if_neg h2, if_neg h2, if_neg h, if_neg h]
theorem lnC_row (c j i : Nat) : lnC c j c i = lnC c (j + 1) 0 i := by
  unfold lnC
  by_cases h : i < j
  · rw [if_pos h, if_pos (by omega)]
  · rw [if_neg h]
    by_cases h2 : i = j
    · rw [if_pos h2, if_pos (by omega)]
    · rw [if_neg h2, if_neg (by omega)]
      split <;> rfl
theorem lnC_self (c j k : Nat) : lnC c j k j = k := by unfold lnC; rw [if_neg (by omega), if_pos rfl]

/-- What holds in lines: the grid's box, the rows. -/
def LiSt (w wr : World) (r c rc cap : Nat) (ao : Option Addr) (V : List Value) (cnt : Nat → Nat) (F : Nat → Nat → Int) : Prop :=
  BoxT 89 wr w.heap.size (.int .i64 r) (.int .i64 c) (.slice ao rc cap) ∧ LnAt (w.heap.size + 1 + 1) wr (w.heap.size + 1) r V cnt F ∧ Below w.heap.size w wr
theorem LiSt.all {w wr w' : World} {r c rc cap : Nat} {ao : Option Addr} {V : List Value} {cnt : Nat → Nat} {F : Nat → Nat → Int} (h : LiSt w wr r c rc cap ao V cnt F) (hb : Below wr.heap.size wr w') : LiSt w w' r c rc cap ao V cnt F :=
  ⟨h.1.all hb, h.2.1.below hb, h.2.2.trans (hb.mono h.2.2.size)⟩
theorem LiSt.push {w w4 : World} {r c rc cap : Nat} {ao : Option Addr} {V : List Value} {j k : Nat} {F : Nat → Nat → Int} {po : Option Addr} {pc : Nat} (h : LiSt w w4 r c rc cap ao V (lnC c j k) F) (hj : j < r) (hv : vAt V j = .slice po k pc) (ng : Bool) (a : Option Addr) (l cp : Nat) (hx : IsNum 0 w4 (.agg #[.bool ng, .slice a l cp]) (F j k)) (hn : k ≤ 36) (ty : TypeId) :
    ∃ qo qc w', (Builtin.append_ #[87, 87] ty #[.slice po k pc, .slice (some ⟨w4.heap.size, 0, none⟩) 1 1]).run Tryz.prog (w4.alloc (.cells #[.bool ng, .slice a l cp] 27)) = .ok (.slice qo (k + 1) qc) w' ∧ ((w'.cell? ⟨w.heap.size + 1, j, none⟩ = some (.slice po k pc) ∧ w'.frozen? ⟨w.heap.size + 1, j, none⟩ = false) ∧ LiSt w (w'.setCell ⟨w.heap.size + 1, j, none⟩ (.slice qo (k + 1) qc)) r c rc cap ao (V.set j (.slice qo (k + 1) qc)) (lnC c j (k + 1)) F) := by
  obtain ⟨h1, h2, h3⟩ := h
  have hl := h2.lt
  obtain ⟨qo, qc, w', e1, ⟨c1, c2⟩, hL, hB⟩ := h2.push hj ng a l cp (by rw [lnC_self]; exact hx) (by omega) (by rw [lnC_self]; exact hn) ty
  rw [lnC_self] at e1 hL hB
  rw [hv] at e1 c1
  refine ⟨qo, qc, w', e1, ⟨c1, c2⟩, h1.below hB (by omega), hL.congr (fun i _ => ?_), h3.trans (hB.mono (by omega))⟩
  have := lnC_step c j k i
  rw [lnC_self] at this
  exact this

set_option maxRecDepth 20000 in
set_option maxHeartbeats 8000000 in
theorem lines_of (r c rc cap : Nat) (ao : Option Addr) (F : Nat → Nat → Int) (w : World) (hr : r ≤ 6) (hc : c ≤ 6)
    (C : ∀ w' i k, Below w.heap.size w w' → i < r → k < c → Calls Tryz.prog 111 #[.agg #[.int .i64 r, .int .i64 c, .slice ao rc cap], .int .i64 (i : Nat), .int .i64 (k : Nat)] w' fun e w'' => ∃ v, e = .returned v ∧ IsNum 0 w'' v (F i k) ∧ Below w'.heap.size w' w'') :
    Calls Tryz.prog 65 #[.agg #[.int .i64 r, .int .i64 c, .slice ao rc cap]] w fun e w' => ∃ g V, e = .returned (.slice (some ⟨g, 0, none⟩) r r) ∧ LnAt (g + 1) w' g r V (fun _ => c) F ∧ Below w.heap.size w w' := by
  have K := hide C
  have hmk := run_make_row' (P := Tryz.prog) 86 87 (.slice none 0 0) 24 Tryz.underlying86 (by kernel_rfl) rfl .i64 .i64 r (by omega) (by omega)
  have b0 := below_alloc9 w (.cells #[.int .i64 r, .int .i64 c, .slice ao rc cap] 89)
  have s0 := size_alloc9 w (.cells #[.int .i64 r, .int .i64 c, .slice ao rc cap] 89)
  have x0 := BoxT.new 89 w (.int .i64 r) (.int .i64 c) (.slice ao rc cap)
  have l0 := LnAt.start (w.alloc (.cells #[.int .i64 r, .int .i64 c, .slice ao rc cap] 89)) r F
  have b1 := below_alloc9 (w.alloc (.cells #[.int .i64 r, .int .i64 c, .slice ao rc cap] 89)) (.cells (madeCells #[.slice none 0 0] r) 87)
  rw [s0] at l0
  have ST := hide (show LiSt w _ r c rc cap ao _ (lnC c 0 0) F from ⟨x0.all b1, l0.congr (fun i _ => by unfold lnC; rw [if_neg (by omega)]; split <;> rfl), b0.trans (b1.mono b0.size)⟩)
  clear C b0 b1 s0 x0 l0
  go_enter Tryz.func65, Tryz.ntmps65
  have y0 := (unhide ST).1.c0
  go_wp2_with fail
  clear hmk y0
  go_loopw [11] (fun i wr => ∃ (j : Nat) (V : List Value), j ≤ r ∧ i = .int .i64 j ∧ Hid (LiSt w wr r c rc cap ao V (lnC c j 0) F)) (fun i _ => r - (intOf i).toNat)
  case atStart => exact ⟨0, _, Nat.zero_le _, rfl, ST⟩
  case round =>
    clear ST
    obtain ⟨j, V, hj, rfl, hS⟩ := hrel
    by_cases hlt : j < r
    · have hjI : (j : Int) < (r : Int) := by omega
      have y1 := (unhide hS).1.c1
      go_wp2_with fail
      clear y1
      go_loopw [16] (fun i wr => ∃ (k : Nat) (V : List Value), k ≤ c ∧ i = .int .i64 k ∧ Hid (LiSt w wr r c rc cap ao V (lnC c j k) F)) (fun i _ => c - (intOf i).toNat)
      case atStart => exact ⟨0, V, Nat.zero_le _, rfl, hS⟩
      case round =>
        clear hS
        obtain ⟨k, V, hk, rfl, hS⟩ := hrel
        by_cases hkc : k < c
        · have hkI : (k : Int) < (c : Int) := by omega
          have C := hide (fun w' h => unhide K w' j k h hlt hkc)
          obtain ⟨po, pc, hv⟩ := ((unhide hS).2.1.2.2.2.1 j hlt).slice
          rw [lnC_self] at hv
          have HV := hide hv
          clear hv
          go_wp2_with fail
          refine at_world (fun W => LiSt w W r c rc cap ao V (lnC c j k) F) (unhide hS) ?_
          clear hS
          rintro W0 hS
          replace hS := hS.all ((Below.refl W0.heap.size W0).drew)
          obtain ⟨y2, f2⟩ := hS.2.1.cell hlt
          rw [unhide HV] at y2
          have x0 := hS.1.c0; have x1 := hS.1.c1; have x2 := hS.1.c2
          have SS := hide hS
          have hk36 := hide (show k ≤ 36 by omega)
          have HJ := hide hlt
          clear hS
          go_region_law (first | (refine step_append_ex _ (by rfl) _ _ 87 (by rfl) _ _ _ _ (by rfl) (by rfl) (unhide PU) ?_; rintro qo qc w5 ⟨⟨y2, f2⟩, st⟩; have ST5 := hide st; clear st PU) | (go_simp; refine (unhide C _ (unhide SS).2.2).mono ?_; rintro e w4 ⟨q, rfl, ⟨n4, a4, c4, L4, rfl, i4⟩, hb4⟩; clear y2 f2 x0 x1 x2; have S4 := (unhide SS).all hb4; have Q4 := hide (show IsNum 0 w4 (.agg #[.bool n4, .slice a4 L4.length c4]) (F j k) from ⟨n4, a4, c4, L4, rfl, i4⟩); generalize L4.length = l4 at *; obtain ⟨y2, f2⟩ := S4.2.1.cell (unhide HJ); rw [unhide HV] at y2; have x0 := S4.1.c0; have x1 := S4.1.c1; have x2 := S4.1.c2; have y3 := cell_keep y2 (below_alloc9 w4 (.cells #[.bool n4, .slice a4 l4 c4] 27)); have PU := hide (S4.push (unhide HJ) (unhide HV) n4 a4 l4 c4 (unhide Q4) (unhide hk36) 87); clear i4 hb4 SS S4 Q4))
          all_goals
            go_wp2_with fail
            go_round
            case rel => exact ⟨k + 1, _, by omega, by go_num, ST5⟩
            case measure => simp [intOf]; omega
        · have hkk : k = c := by omega
          subst hkk
          go_wp2_with fail
          go_round
          case rel => exact ⟨j + 1, V, by omega, by go_num, hide ⟨(unhide hS).1, (unhide hS).2.1.congr (fun i _ => lnC_row k j i), (unhide hS).2.2⟩⟩
          case measure => simp [intOf]; omega
    · have hjj : j = r := by omega
      subst hjj
      have HL := hide ((unhide hS).2.1.congr (cnt' := fun _ => c) (fun i hi => by unfold lnC; rw [if_pos hi]))
      have HB := hide (unhide hS).2.2
      clear hS
      go_wp2_with fail
      go_ret
      exact ⟨w.heap.size + 1, V, rfl, unhide HL, unhide HB⟩

theorem lines_any (r c cap : Nat) (ao : Option Addr) (F : Nat → Nat → Int) (w : World) (h : GrW w ao cap r c F) :
    Calls Tryz.prog 65 #[.agg #[.int .i64 r, .int .i64 c, .slice ao (r * c) cap]] w fun e w' => ∃ g V, e = .returned (.slice (some ⟨g, 0, none⟩) r r) ∧ LnAt (g + 1) w' g r V (fun _ => c) F ∧ Below w.heap.size w w' :=
  lines_of r c (r * c) cap ao F w h.2.1 h.2.2 (fun w' i k hb hi hk => wat_any r c cap i k ao F w' (h.below hb) hi hk)

set_option maxRecDepth 20000 in
set_option maxHeartbeats 4000000 in
theorem cRank_err (r c : Int) (ao : Option Addr) (n cap : Nat) (f : Int) (w : World) (hf : f = 1 ∨ f = 4)
    (C : ∀ w', Below w.heap.size w w' → Calls Tryz.prog 12 #[.agg #[.int .i64 r, .int .i64 c, .slice ao n cap]] w' fun e w'' => e = .returned (.int .i64 f) ∧ Below w'.heap.size w' w'') :
    Calls Tryz.prog 24 #[.agg #[.int .i64 r, .int .i64 c, .slice ao n cap]] w fun e w' => e = .returned (.tuple #[.int .i64 0, .int .i64 f]) ∧ Below w.heap.size w w' := by
  have BB := hide (below_alloc9 w (.cells #[.int .i64 r, .int .i64 c, .slice ao n cap] 24))
  have K := hide C
  clear C
  rcases hf with rfl | rfl
  all_goals
    go_enter Tryz.func24, Tryz.ntmps24
    go_wp2_with fail
    refine (unhide K _ (unhide BB)).mono ?_
    rintro e w1 ⟨rfl, hb1⟩
    have PB := hide ((unhide BB).trans (hb1.mono (unhide BB).size))
    clear hb1 BB K
    go_wp2
    exact bodyPost_ret (v := .tuple #[.int .i64 0, .int .i64 _]) (by simp [results, Tryz.results24, go_sem]) rfl ⟨rfl, unhide PB⟩

set_option maxRecDepth 20000 in
set_option maxHeartbeats 4000000 in
theorem cRank_of (r c n cap : Nat) (ao : Option Addr) (F : Nat → Nat → Int) (Z : Nat → Prop) (w : World)
    (C1 : ∀ w', Below w.heap.size w w' → Calls Tryz.prog 12 #[.agg #[.int .i64 r, .int .i64 c, .slice ao n cap]] w' fun e w'' => e = .returned (.int .i64 0) ∧ Below w'.heap.size w' w'')
    (C2 : ∀ w', Below w.heap.size w w' → Calls Tryz.prog 64 #[.agg #[.int .i64 r, .int .i64 c, .slice ao n cap]] w' fun e w'' => ∃ ho d, e = .returned (.agg #[.int .i64 r, .int .i64 c, .slice ho (r * c) d]) ∧ GrW w'' ho d r c F ∧ Below w'.heap.size w' w'')
    (C3 : ∀ w' g V, LnAt (g + 1) w' g r V (fun _ => c) F → Calls Tryz.prog 63 #[.slice (some ⟨g, 0, none⟩) r r] w' fun e w'' => ∃ k : Nat, e = .returned (.tuple #[.int .i64 (k : Nat), .int .i64 0]) ∧ Z k ∧ Below w'.heap.size w' w'') :
    Calls Tryz.prog 24 #[.agg #[.int .i64 r, .int .i64 c, .slice ao n cap]] w fun e w' => ∃ k : Nat, e = .returned (.tuple #[.int .i64 (k : Nat), .int .i64 0]) ∧ Z k ∧ Below w.heap.size w w' := by
  have BB := hide (below_alloc9 w (.cells #[.int .i64 r, .int .i64 c, .slice ao n cap] 24))
  have X0 := hide (BoxM.new w (.int .i64 r) (.int .i64 c) (.slice ao n cap))
  have K1 := hide C1; have K2 := hide C2; have K3 := hide C3
  have K4 := hide (fun w' ho d (h : GrW w' ho d r c F) => lines_any r c d ho F w' h)
  clear C1 C2 C3
  generalize r * c = rc at *
  go_enter Tryz.func24, Tryz.ntmps24
  go_wp2_with fail
  refine (unhide K1 _ (unhide BB)).mono ?_
  rintro e w1 ⟨rfl, hb1⟩
  replace BB := hide ((unhide BB).trans (hb1.mono (unhide BB).size)); replace X0 := hide ((unhide X0).all hb1)
  clear hb1 K1
  have y0 := (unhide X0).c0; have y1 := (unhide X0).c1; have y2 := (unhide X0).c2
  go_wp2_with fail
  refine (unhide K2 _ (unhide BB)).mono ?_
  rintro e w2 ⟨ho, d, rfl, hg, hb1⟩
  replace BB := hide ((unhide BB).trans (hb1.mono (unhide BB).size))
  have HG := hide hg
  clear hb1 K2 hg y0 y1 y2 X0
  go_wp2_with fail
  refine (unhide K4 _ _ _ (unhide HG)).mono ?_
  rintro e w3 ⟨g, V, rfl, hl, hb1⟩
  replace BB := hide ((unhide BB).trans (hb1.mono (unhide BB).size))
  have HL := hide hl
  clear hb1 K4 hl HG
  go_wp2_with fail
  refine (unhide K3 _ _ _ (unhide HL)).mono ?_
  rintro e w4 ⟨k, rfl, hz, hb1⟩
  replace BB := hide ((unhide BB).trans (hb1.mono (unhide BB).size))
  have HZ := hide hz
  clear hb1 K3 hz HL
  go_wp2
  exact bodyPost_ret (v := .tuple #[.int .i64 (k : Nat), .int .i64 0]) (by simp [results, Tryz.results24, go_sem]) rfl ⟨k, rfl, unhide HZ, unhide BB⟩

end Go.Proofs.YtfnnbkclnflpfaaGreatDoor

/- Contract of the law's small. -/
namespace Go.Proofs.YtfnnbkclnflpfaaGreatDoor
open Go.RowKit
attribute [local go_sem ↓] Go.wp_at_zero Go.wp_at_succ

/-- The number of memory is z, right, of at most m limbs. -/
def NumIs (m : Nat) (x : Nm) (z : Int) : Prop := rightN x = true ∧ sval x.neg x.L = z ∧ x.L.length ≤ m

theorem IsNumM.parts {m B : Nat} {w : World} {v : Value} {z : Int} (h : IsNumM m B w v z) (hm : m ≤ 512) : ∃ x : Nm, v = .agg #[.bool x.neg, .slice x.ao x.L.length x.cap] ∧ LimbsAt w x.ao x.cap x.L ∧ NewAt B x.ao x.L ∧ NumIs m x z := by
  obtain ⟨neg, ao, cap, L, rfl, h1, h2, h3, h4, h5, h6⟩ := h
  refine ⟨⟨neg, ao, cap, L⟩, rfl, h1, h2, ?_, ?_, h6⟩
  · have e0 : L.length = 0 → neg = false := fun e => by
      have : L = [] := List.length_eq_zero_iff.1 e
      subst this
      rw [h4]; simp [val] at h5; simp; omega
    have e1 : L.length = 0 ∨ L[L.length - 1]?.getD 0 ≠ 0 := by
      rcases h3 with h | h
      · left; rw [h]; rfl
      · exact .inr h
    unfold rightN
    simp only [rightB, Bool.and_eq_true, decide_eq_true_eq, Bool.not_eq_true', Bool.and_eq_false_iff, decide_eq_false_iff_not, Bool.or_eq_true]
    refine ⟨⟨by omega, ?_⟩, e1⟩
    by_cases e : L.length = 0
    · exact .inr (e0 e)
    · exact .inl e
  · unfold sval
    simp only
    rw [h4]
    by_cases hx0 : z < 0
    · simp [hx0]; omega
    · simp [hx0]; omega

/-- A list of whole numbers in memory. -/
structure IR where
  ao : Option Addr
  cap : Nat
  I : List Int
def IR.nil : IR := ⟨none, 0, []⟩
def irAt (Ls : List IR) (i : Nat) : IR := Ls[i]?.getD IR.nil
def IMatAt (w : World) (ao : Option Addr) (cap : Nat) (Ls : List IR) : Prop :=
  Ls.length ≤ cap ∧ (∀ r ∈ Ls, IntsAt w r.ao r.cap r.I ∧ r.I.length ≤ 1000000) ∧ (Ls = [] ∨ ∃ b off, ao = some ⟨b, off, none⟩ ∧ b < w.heap.size ∧ ∀ i, i < Ls.length → w.cell? ⟨b, off + i, none⟩ = some (.slice (irAt Ls i).ao (irAt Ls i).I.length (irAt Ls i).cap))
theorem IMatAt.below {w w' : World} {ao : Option Addr} {cap : Nat} {Ls : List IR} (h : IMatAt w ao cap Ls) (hb : Below w.heap.size w w') : IMatAt w' ao cap Ls := by
  refine ⟨h.1, fun r hr => ⟨(h.2.1 r hr).1.below hb, (h.2.1 r hr).2⟩, ?_⟩
  rcases h.2.2 with e | ⟨b, off, h1, h2, h3⟩
  · exact .inl e
  · refine .inr ⟨b, off, h1, Nat.lt_of_lt_of_le h2 hb.size, fun i hi => ?_⟩
    rw [hb.cell (p := ⟨b, off + i, none⟩) h2]
    exact h3 i hi
theorem IMatAt.ne {w : World} {ao : Option Addr} {cap : Nat} {Ls : List IR} (h : IMatAt w ao cap Ls) (h0 : 0 < Ls.length) : ∃ b off, ao = some ⟨b, off, none⟩ ∧ b < w.heap.size ∧ ∀ i, i < Ls.length → w.cell? ⟨b, off + i, none⟩ = some (.slice (irAt Ls i).ao (irAt Ls i).I.length (irAt Ls i).cap) := by
  rcases h.2.2 with e | e
  · rw [e] at h0; simp at h0
  · exact e

/-- The row r says what the list I says, the first k of it. -/
def RowIs (R : List Nm) (I : List Int) (k : Nat) : Prop := R.length = k ∧ ∀ j, j < k → NumIs 2 (nmAt R j) (atI I j)

theorem nmAt_snoc (R : List Nm) (x : Nm) (j : Nat) : nmAt (R ++ [x]) j = if j < R.length then nmAt R j else if j = R.length then x else Nm.nil := by
  unfold nmAt
  by_cases h : j < R.length
  · rw [if_pos h, List.getElem?_append_left h]
  · rw [if_neg h]
    by_cases e : j = R.length
    · subst e; simp
    · rw [if_neg e, List.getElem?_eq_none (by simp; omega)]; rfl
theorem rwAt_snoc (M : List Rw) (x : Rw) (j : Nat) : rwAt (M ++ [x]) j = if j < M.length then rwAt M j else if j = M.length then x else Rw.nil := by
  unfold rwAt
  by_cases h : j < M.length
  · rw [if_pos h, List.getElem?_append_left h]
  · rw [if_neg h]
    by_cases e : j = M.length
    · subst e; simp
    · rw [if_neg e, List.getElem?_eq_none (by simp; omega)]; rfl
theorem RowIs.snoc {R : List Nm} {I : List Int} {k : Nat} {x : Nm} (h : RowIs R I k) (hx : NumIs 2 x (atI I k)) : RowIs (R ++ [x]) I (k + 1) := by
  refine ⟨by simp [h.1], fun j hj => ?_⟩
  rw [nmAt_snoc, h.1]
  by_cases e : j < k
  · rw [if_pos e]; exact h.2 j e
  · obtain rfl : j = k := by omega
    rw [if_neg e, if_pos rfl]; exact hx

/-- The rows M say what the lists say, the first k of them. -/
def MatIs (M : List Rw) (Ls : List IR) (k : Nat) : Prop := M.length = k ∧ ∀ i, i < k → RowIs (rwAt M i).R (irAt Ls i).I (irAt Ls i).I.length
theorem MatIs.snoc {M : List Rw} {Ls : List IR} {k : Nat} {r : Rw} (h : MatIs M Ls k) (hr : RowIs r.R (irAt Ls k).I (irAt Ls k).I.length) : MatIs (M ++ [r]) Ls (k + 1) := by
  refine ⟨by simp [h.1], fun j hj => ?_⟩
  rw [rwAt_snoc, h.1]
  by_cases e : j < k
  · rw [if_pos e]; exact h.2 j e
  · obtain rfl : j = k := by omega
    rw [if_neg e, if_pos rfl]; exact hr

theorem infoWhole : (Tryz.prog.info? 27).map (fun i => (i.zero, i.size, i.bytes)) = some (some (.agg #[.bool false, .slice none 0 0]), 2, 32) := by kernel_rfl
theorem infoRow : (Tryz.prog.info? 87).map (fun i => (i.zero, i.size, i.bytes)) = some (some (.slice none 0 0), 1, 24) := by kernel_rfl

end Go.Proofs.YtfnnbkclnflpfaaGreatDoor

/- Contracts of the reference's Width, Rising. -/
namespace Go.Proofs.YtfnnbkclnflpfaaGreatDoor
open Go.RowKit
attribute [local go_sem ↓] Go.wp_at_zero Go.wp_at_succ

set_option maxHeartbeats 4000000 in
theorem refWidth_any (ao : Option Addr) (cap : Nat) (M : List Rw) (w : World) (h : MatAt w ao cap M) (hs : SmallM M) :
    Calls Tryz.prog 114 #[.slice ao M.length cap] w fun e w' => e = .returned (.int .i64 (width M)) ∧ w = w' := by
  by_cases h0 : M = []
  · subst h0
    go_enter Tryz.func114, Tryz.ntmps114
    go_wp2
    go_ret
    exact ⟨rfl, rfl⟩
  · have hp : 0 < M.length := List.length_pos_iff.2 h0
    obtain ⟨b, off, rfl, hb, hc⟩ := h.ne hp
    have hc0 := hc 0 hp
    rw [Nat.add_zero] at hc0
    have hne : ((M.length : Int) == 0) = false := by simp; exact h0
    have hr := hs.row 0
    clear h hc hs h0
    unfold width
    generalize (rwAt M 0).R.length = n at *
    generalize (rwAt M 0).ao = a0 at *
    generalize (rwAt M 0).cap = c0 at *
    generalize M.length = m at *
    have hmI : (0 : Int) < (m : Int) := by omega
    go_enter Tryz.func114, Tryz.ntmps114
    go_wp2
    go_ret
    exact ⟨rfl, rfl⟩

end Go.Proofs.YtfnnbkclnflpfaaGreatDoor

/- Contract of the reference's Turned. -/
namespace Go.Proofs.YtfnnbkclnflpfaaGreatDoor
open Go.RowKit
attribute [local go_sem ↓] Go.wp_at_zero Go.wp_at_succ
/-- The first c numbers of column k. -/
def colOf (M : List Rw) (k c : Nat) : List Nm := (List.range c).map (fun j => entry M j k)
/-- The rows N are the columns of M, the first k of them. -/
def TurnIs (N M : List Rw) (k : Nat) : Prop := N.length = k ∧ ∀ i, i < k → (rwAt N i).R = colOf M i M.length
theorem TurnIs.snoc {N M : List Rw} {k : Nat} {r : Rw} (h : TurnIs N M k) (hr : r.R = colOf M k M.length) : TurnIs (N ++ [r]) M (k + 1) := by
  refine ⟨by simp [h.1], fun j hj => ?_⟩
  rw [rwAt_snoc, h.1]
  by_cases e : j < k
  · rw [if_pos e]; exact h.2 j e
  · obtain rfl : j = k := by omega
    rw [if_neg e, if_pos rfl]; exact hr

end Go.Proofs.YtfnnbkclnflpfaaGreatDoor

/- Determinants by the first row, as the reference reckons them. -/
namespace Go.Proofs.YtfnnbkclnflpfaaGreatDoor
open Go.RowKit
/-- Places that are some of the first n. -/
def InI (n : Nat) (I : List Int) : Prop := ∀ x ∈ I, 0 ≤ x ∧ x < n
theorem InI.at {n : Nat} {I : List Int} (h : InI n I) {j : Nat} (hj : j < I.length) : ∃ q : Nat, atI I j = (q : Int) ∧ q < n ∧ (natI I)[j]?.getD 0 = q := by
  have h1 := h _ (List.getElem_mem hj)
  refine ⟨(I[j]).toNat, ?_, by omega, ?_⟩
  · unfold atI; rw [List.getElem?_eq_getElem hj]; simp; omega
  · unfold natI; rw [List.getElem?_map, List.getElem?_eq_getElem hj]; rfl
theorem IntsAt.nil (w : World) (ao : Option Addr) (cap : Nat) : IntsAt w ao cap [] := ⟨by simp, by simp, .inl rfl⟩

end Go.Proofs.YtfnnbkclnflpfaaGreatDoor

