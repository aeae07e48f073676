/- Part 39 of the texts. -/
import Derived.Test.YtimejpbmehegeaaGreatDoorPartc38
import Derived.Test.YtimejpbmehegeaaGreatDoorPartc31
import Derived.Test.YtimejpbmehegeaaGreatDoorPartc36
import Derived.Test.YtimejpbmehegeaaGreatDoorPartc34
import Derived.Test.YtimejpbmehegeaaGreatDoorPartc35
import Derived.Test.YtimejpbmehegeaaGreatDoorPartc30
import Derived.Deep.RegionHeld3
import Derived.Test.YtimejpbmehegeaaGreatDoorPartc32
import Derived.Test.YtimejpbmehegeaaGreatDoorPartc33
import Derived.Deep.RegionLaw
import Derived.Deep.RegionWith
import Derived.Laws.CopyOwn
import Derived.Test.YtimejpbmehegeaaGreatDoorChecked
import Derived.Test.YtimejpbmehegeaaGreatDoorPartc02
import Derived.ProofKit
import Derived.SizedLaws
import Derived.Lib.SmallJoins
import Derived.Test.YtimejpbmehegeaaGreatDoorRows
import Derived.Test.YtimejpbmehegeaaGreatDoorPartc11
import Derived.Lib.LaidTab
import Derived.OpenShut
import Derived.Deep.DeepHandedRow
import Derived.Test.YtimejpbmehegeaaGreatDoorPartc29
/- HouseRight by what house.Make answers. -/
namespace Go.Proofs.YtimejpbmehegeaaGreatDoor
open Go.RowKit
attribute [local go_sem ↓] Go.wp_at_zero Go.wp_at_succ

theorem rone13 (w : World) (B : Nat) (v : Value) (h : IsNum B w v 1) : Calls Tryz.prog 63 #[v, .int .i64 0] w fun e w' => ∃ u, e = .returned u ∧ IsLv w' u 0 1 ∧ Below w.heap.size w w' := by
  refine (rof_small 0 (h.toM (lt_TOP (k := 1) (by decide) (by decide))) (by decide) (by decide)).mono ?_
  rintro e w' ⟨u, rfl, hu, hb⟩
  exact ⟨u, rfl, hu, hb⟩

set_option maxRecDepth 20000 in
set_option maxHeartbeats 2000000 in
theorem one13_any (w : World) : Calls Tryz.prog 27 #[] w fun e w' => ∃ v, e = .returned v ∧ IsLv w' v 0 1 ∧ Below w.heap.size w w' := by
  have ST := hide (And.intro (Box3.new w (.bool false) (.slice none 0 0) (.int .i64 0)) (below_alloc9 w (.cells #[.bool false, .slice none 0 0, .int .i64 0] 54)))
  obtain ⟨E0, hE0⟩ : ∃ E0, oE 1 0 = E0 := ⟨_, rfl⟩
  have HE := hide hE0
  clear hE0
  go_enter Tryz.func27, Tryz.ntmps27
  go_wp2_with fail
  refine (rof11 _).mono ?_
  rintro e w1 ⟨v, rfl, qn, hb⟩
  replace ST := hide (And.intro ((unhide ST).1.all hb) ((unhide ST).2.trans (hb.mono (unhide ST).2.size)))
  have QN := hide qn
  clear hb
  obtain ⟨n2, a2, c2, M, rfl, iv⟩ := qn
  generalize M.length = l2 at *
  clear iv M
  go_wp2_with fail
  refine (rone13 _ _ _ (unhide QN)).mono ?_
  rintro e w3 ⟨u, rfl, lv, hb⟩
  have h2 := (unhide ST).1.all hb
  have h6 := (unhide ST).2.trans (hb.mono (unhide ST).2.size)
  have L1 := hide lv
  obtain ⟨n5, a5, c5, L5, rfl, i5⟩ := lv
  clear i5
  generalize L5.length = l5 at *
  rw [unhide HE] at L1
  rw [unhide HE]
  have r0 := h2.c0; have r1 := h2.c1; have r2 := h2.c2
  have f0 := h2.free 0; have f1 := h2.free 1; have f2 := h2.free 2
  have XP := h2.put (.bool n5) (.slice a5 l5 c5) (.int .i64 E0)
  have z0 := XP.c0; have z1 := XP.c1; have z2 := XP.c2
  have Q := hide (IsDy.put3 (unhide L1) h2 (.bool n5) (.slice a5 l5 c5) (.int .i64 E0))
  have BP := hide (below_put3 h6 (Nat.le_refl _) (.bool n5) (.slice a5 l5 c5) (.int .i64 E0))
  clear XP h2 h6 hb ST L1 QN
  go_wp2_with fail
  exact bodyPost_ret (v := .agg #[.bool n5, .slice a5 l5 c5, .int .i64 E0]) (by simp [results, Tryz.results27, go_sem, z0, z1, z2]) rfl ⟨_, rfl, unhide Q, unhide BP⟩

theorem cmpI_ge13 (u v : Int) : 0 ≤ cmpI u v ↔ v ≤ u := by
  rcases (show u < v ∨ u = v ∨ v < u by omega) with g | g | g
  · rw [cmpI8_lt g]; omega
  · rw [cmpI8_eq g]; omega
  · rw [cmpI8_gt g]; omega

/-- tau at its level, held against a number at level -40. -/
theorem cmp13 {w : World} {v u : Value} {x y : Int} (hv : IsLv w v (-1074) x) (hu : IsLv w u (-40) y) (l1 : x.natAbs < 2 ^ 2098) (l2 : y.natAbs < 2 ^ 60) :
    Calls Tryz.prog 31 #[v, u] w fun e w' => e = .returned (.int .i64 (cmpI x (y * 2 ^ 1034))) ∧ Below w.heap.size w w' := by
  have h2 := hu.lower 1034
  rw [show (-40 : Int) - ((1034 : Nat) : Int) = -1074 by decide] at h2
  exact rcmpN hv h2 (W := 2098) ⟨l1, by decide, by decide, by decide⟩ ⟨up_ltV (j := 60) (k := 1034) (V := 2098) (by decide) l2, by decide, by decide, by decide⟩

theorem sq_one13 (B : Nat) : sqK [(B : Int)] 1 = fZ B * fZ B := by
  show 0 + fZ (atB [(B : Int)] 0) * fZ (atB [(B : Int)] 0) = _
  rw [Int.zero_add]
  rfl
/-- Where all numbers but the first are noughts, the square is the first one's. -/
theorem sq_noughts {J : List Int} (h : 1 ≤ J.length) (hn : ngt ((toN J).drop 1) = true) : sqK J J.length = fZ (atB J 0) * fZ (atB J 0) := by
  have e := sqK_all J
  rw [toN_cons h] at e
  have e2 : sumQ (atB J 0 :: (toN J).drop 1) = fQ (atB J 0) * fQ (atB J 0) := by
    show _ + sumQ ((toN J).drop 1) = _
    rw [ngt_sum hn, Rat.add_zero]
  rw [e2] at e
  have e3 : fQ (atB J 0) * fQ (atB J 0) = ((fZ (atB J 0) * fZ (atB J 0) : Int) : Rat) * p2 (-2148) := by
    rw [Rat.intCast_mul, p2_split]
    unfold fQ
    grind
  rw [e3] at e
  have p := p2_pos (-2148)
  have : (sqK J J.length : Rat) = ((fZ (atB J 0) * fZ (atB J 0) : Int) : Rat) := by
    have h1 : (sqK J J.length : Rat) * p2 (-2148) ≤ ((fZ (atB J 0) * fZ (atB J 0) : Int) : Rat) * p2 (-2148) := by rw [e]; exact Rat.le_refl
    have h2 : ((fZ (atB J 0) * fZ (atB J 0) : Int) : Rat) * p2 (-2148) ≤ (sqK J J.length : Rat) * p2 (-2148) := by rw [e]; exact Rat.le_refl
    exact Rat.le_antisymm (Rat.le_of_mul_le_mul_right h1 p) (Rat.le_of_mul_le_mul_right h2 p)
  exact Rat.intCast_inj.1 this

/-- HouseRight, by what house.Make answers. -/
theorem houseRight_by (xo : Option Addr) (xc : Nat) (J : List Int) (w : World) (hJ : BitsAt w xo xc J) (hlj : J.length ≤ 17592186043904)
    (CM : ∀ w' ao c I, Below w.heap.size w w' → BitsAt w' ao c I → 1 ≤ I.length → I.length ≤ 64 → fnK I I.length = true → mrK (toN I) = true → Calls Tryz.prog 8 #[.slice ao I.length c] w' fun e w'' => ∃ vo vc, e = .returned (.tuple #[.slice vo I.length vc, .int .u64 (mrT (toN I) : Nat), .int .u64 (mrB (toN I) : Nat), .int .i64 0]) ∧ BitsAt w'' vo vc (mxL (mrV (toN I))) ∧ Below w'.heap.size w' w'')
    (CA : ∀ w', Below w.heap.size w w' → Calls Tryz.prog 12 #[] w' fun e w'' => e = .returned (.bool true) ∧ Below w'.heap.size w' w'') :
    Calls Tryz.prog 5 #[.slice xo J.length xc] w fun e w' => e = .returned (.bool true) ∧ Below w.heap.size w w' := by
  have C1 := fun w' (hb : Below w.heap.size w w') => r9tame_any xo xc J 200 w' (hJ.below hb) (by omega) (by omega)
  by_cases ht : 1 ≤ J.length ∧ J.length ≤ 64 ∧ tmK 200 J J.length = true
  · obtain ⟨t1, t2, t3⟩ := ht
    rw [t3] at C1
    have hTJ := tame_list hJ t3
    have hfn := tame_fn J 200 t3
    obtain ⟨⟨ft, _, _⟩, mk⟩ := mr_MrF (toN J) (toN_ne t1) (by rw [toN_len]; omega) hTJ
    have F1 := fun w' => rfinite_any (mrT (toN J)) w' (mrT_lt _)
    rw [ft] at F1
    have lB := mrB_lt (toN J) (toN_mem hJ)
    have hV : (mrV (toN J)).getD 0 0 = 4607182418800017408 := by rw [toN_cons t1]; rfl
    have hL : (mrV (toN J)).length = J.length := by rw [mrV_len, toN_len]
    obtain ⟨eB, eT, _⟩ := mk_facts t1
    have N1 := fun w' => rneg4_any (mrB (toN J)) w' lB
    have M1 := fun w' => rminus4_any (mrB (toN J)) w' lB
    have VA := fun w' => rvalueN (mrT (toN J)) w' (mrT_lt _) ft
    have hB : (fS (mrB (toN J)) = false ∧ (if fS (mrB (toN J)) = true then fN (mrB (toN J)) else mrB (toN J)) = mrB (toN J)) ∨ (fS (mrB (toN J)) = true ∧ (if fS (mrB (toN J)) = true then fN (mrB (toN J)) else mrB (toN J)) = fN (mrB (toN J))) := by
      cases h : fS (mrB (toN J))
      · exact .inl ⟨rfl, if_neg (by decide)⟩
      · exact .inr ⟨rfl, if_pos rfl⟩
    cases hn : ngt ((toN J).drop 1)
    · obtain ⟨h0, k1, k2, m1, k3, k4⟩ := mr_facts (atB J 0) ((toN J).drop 1) (by rw [← toN_cons t1, toN_len]; omega) (by rw [← toN_cons t1]; exact hTJ) hn
      rw [← toN_cons t1] at h0 k3 k4
      have hh : (atB J 0 :: (toN J).drop 1) = toN J := (toN_cons t1).symm
      obtain ⟨f1, f2, f3, f4, _⟩ := house_facts (atB J 0) (hmB (atB J 0) ((toN J).drop 1)) (hmD (atB J 0) ((toN J).drop 1)) (dV (aV (hmB (atB J 0) ((toN J).drop 1)) (fN (atB J 0))) (hmB (atB J 0) ((toN J).drop 1))) ((toN J).drop 1) (((toN J).drop 1).map (fun x => dV x (hmD (atB J 0) ((toN J).drop 1)))) (by rw [hh, toN_len]; omega) (by rw [hh]; exact hTJ) (by rw [hh]; exact h0) (hmB_lt _ _) k1 k2 (by rw [hh]; exact k3) rfl rfl rfl
      rw [hn, if_neg (by decide)] at eB eT
      rw [← eT] at f3 f4
      obtain ⟨i1, i2⟩ := tau_int f3 f4
      have hT0 : ¬ ((mrT (toN J) : Nat) : Int) = 0 := by
        intro e
        have e' : mrT (toN J) = 0 := by omega
        rw [e', fZ_zero11] at i1
        have : (2 : Int) ^ 1074 = 2 ^ 1034 * 2 ^ 40 := by rw [← Int.pow_add]
        rw [this] at i1
        have p : (0 : Int) < 2 ^ 1034 := Int.pow_pos (by decide)
        generalize (2 : Int) ^ 1034 = P at *
        omega
      have eB2 : (if fS (mrB (toN J)) = true then fN (mrB (toN J)) else mrB (toN J)) = nrV (toN J) := by
        rw [eB]
        rcases k4 with ⟨s1, s2⟩ | ⟨s1, s2⟩
        · rw [if_neg (by rw [s1]; decide), s2]
        · rw [if_pos s1, s2]
      have lz := fZ_lt (mrT (toN J)) ft
      have c1 : (2 ^ 40 - 1 : Int) * 2 ^ 1034 ≤ fZ (mrT (toN J)) := by
        refine Int.le_trans (Int.le_of_eq ?_) i1
        rw [Int.sub_mul, ← Int.pow_add, Int.one_mul]
      have c2 : fZ (mrT (toN J)) ≤ (2 ^ 41 + 1 : Int) * 2 ^ 1034 := by
        refine Int.le_trans i2 (Int.le_of_eq ?_)
        rw [Int.add_mul, ← Int.pow_add, Int.one_mul]
      refine houseRight_big J.length xc (mrT (toN J)) (mrB (toN J)) (fN (mrB (toN J))) (if fS (mrB (toN J)) = true then fN (mrB (toN J)) else mrB (toN J)) (fS (mrB (toN J))) xo (mrV (toN J)) (-1074) (fZ (mrT (toN J))) 0 1 (-40) 1 (2 ^ 40 - 1) (2 ^ 41 + 1) (cmpI (fZ (mrT (toN J))) ((2 ^ 40 - 1) * 2 ^ 1034)) (cmpI (fZ (mrT (toN J))) ((2 ^ 41 + 1) * 2 ^ 1034)) w t1 t2 hV hL hB hT0 ((cmpI_ge13 _ _).2 c1) ((cmpI_le11 _ _).2 c2) C1 (fun w' hb => CM w' xo xc J hb (hJ.below hb) t1 t2 hfn mk) F1 N1 M1 VA one13_any (fun w' v h => ?_) (fun w' v h => ?_) (fun w' v u h1 h2 => ?_) (fun w' v u h1 h2 => ?_) (fun w' hb => ?_) (fun w' v u h1 h2 => cmp13 h1 h2 lz (by decide)) (fun w' v u h1 h2 => cmp13 h1 h2 lz (by decide)) CA
      · exact rscaleL (-40) h (W := 10) ⟨by decide, by decide, by decide, by decide⟩ (by decide)
      · exact rscaleL 1 h (W := 10) ⟨by decide, by decide, by decide, by decide⟩ (by decide)
      · have h3 := h1.lower 40
        rw [show (0 : Int) - ((40 : Nat) : Int) = -40 by decide, Int.one_mul] at h3
        exact rsubL h3 h2 (W := 60) ⟨by decide, by decide, by decide, by decide⟩ ⟨by decide, by decide, by decide, by decide⟩
      · have h3 := h1.lower 41
        rw [show (1 : Int) - ((41 : Nat) : Int) = -40 by decide, Int.one_mul] at h3
        exact raddL h3 h2 (W := 60) ⟨by decide, by decide, by decide, by decide⟩ ⟨by decide, by decide, by decide, by decide⟩
      · have := r9norm_any xo xc J w' (hJ.below hb) (by omega)
        rw [nmV_nrV] at this
        rw [eB2]
        exact this
    · rw [if_pos hn] at eB eT
      have l2 : (if fS (mrB (toN J)) = true then fN (mrB (toN J)) else mrB (toN J)) < 18446744073709551616 := by
        split
        · exact fN_lt _ lB
        · exact lB
      have f2 : fFin (if fS (mrB (toN J)) = true then fN (mrB (toN J)) else mrB (toN J)) = true := by
        have fa : fFin (mrB (toN J)) = true := by rw [eB]; exact (hTJ _ (by rw [toN_cons t1]; exact List.mem_cons_self)).2.1
        split
        · rw [fFin_fN _ lB]; exact fa
        · exact fa
      have z2 : fZ (if fS (mrB (toN J)) = true then fN (mrB (toN J)) else mrB (toN J)) * fZ (if fS (mrB (toN J)) = true then fN (mrB (toN J)) else mrB (toN J)) = sqK J J.length := by
        rw [sq_noughts t1 hn, ← eB]
        split
        · rw [fZ_fN _ lB, Int.neg_mul, Int.mul_neg, Int.neg_neg]
        · rfl
      have hfb : fnK [((if fS (mrB (toN J)) = true then fN (mrB (toN J)) else mrB (toN J) : Nat) : Int)] 1 = true := by
        show (true && fFin _) = true
        rw [Bool.true_and]
        exact f2
      refine houseRight_zero J.length xc (mrT (toN J)) (mrB (toN J)) (fN (mrB (toN J))) (if fS (mrB (toN J)) = true then fN (mrB (toN J)) else mrB (toN J)) (fS (mrB (toN J))) xo (mrV (toN J)) (-1074) (fZ (mrT (toN J))) (-2148) (sqK [((if fS (mrB (toN J)) = true then fN (mrB (toN J)) else mrB (toN J) : Nat) : Int)] 1) (sqK J J.length) w t1 t2 hV hL hB eT l2 C1 (fun w' hb => CM w' xo xc J hb (hJ.below hb) t1 t2 hfn mk) F1 N1 M1 VA (fun w' ao h => r9squares_any ao 1 _ w' h (by simp) hfb) (fun w' hb => r9squares_any xo xc J w' (hJ.below hb) t2 hfn) (fun w' v u h1 h2 => ?_) CA
      have l3 := sqK_lvl J J.length t2 hfn J.length (Nat.le_refl _)
      rw [sq_one13, z2] at h1
      have := near_any 40 h1 h2 l3 l3 (by decide) (by decide) (by decide) (by decide)
      have g0 : 0 ≤ sqK J J.length := by
        rw [← z2]
        exact sq_ge _
      have g1 : ((sqK J J.length - sqK J J.length).natAbs : Int) * 2 ^ 40 ≤ sqK J J.length := by
        rw [Int.sub_self]
        simpa using g0
      rw [decide_eq_true g1] at this
      exact this
  · refine houseRight_no J.length xc xo (tmK 200 J J.length) w (by omega) ?_ C1 CA
    rcases Nat.eq_zero_or_pos J.length with h2 | h2
    · exact .inl h2
    · rcases Nat.lt_or_ge 64 J.length with h3 | h3
      · exact .inr (.inl h3)
      · refine .inr (.inr ⟨h2, h3, ?_⟩)
        cases h4 : tmK 200 J J.length
        · rfl
        · exact absurd ⟨h2, h3, h4⟩ ht

end Go.Proofs.YtimejpbmehegeaaGreatDoor

/- The laws of layer 13, walked. -/
namespace Go.Proofs.YtimejpbmehegeaaGreatDoor
open Go.RowKit

/-- What Make answers, at any later time. -/
theorem house_cm (w : World) (hT : Tab w) : ∀ w' ao c I, Below w.heap.size w w' → BitsAt w' ao c I → 1 ≤ I.length → I.length ≤ 64 → fnK I I.length = true → mrK (toN I) = true → Calls Tryz.prog 8 #[.slice ao I.length c] w' fun e w'' => ∃ vo vc, e = .returned (.tuple #[.slice vo I.length vc, .int .u64 (mrT (toN I) : Nat), .int .u64 (mrB (toN I) : Nat), .int .i64 0]) ∧ BitsAt w'' vo vc (mxL (mrV (toN I))) ∧ Below w'.heap.size w' w'' := by
  intro w' ao c I hb hI h1 h2 hf hk
  refine (hMake_ok ao c I w' hI h1 h2 hf hk (hT.all hb)).mono ?_
  rintro e w'' ⟨vo, vc, rfl, _, hv, hb2⟩
  exact ⟨vo, vc, rfl, hv, hb2⟩

theorem house_ca (w : World) (hT : Tab w) : ∀ w', Below w.heap.size w w' → Calls Tryz.prog 12 #[] w' fun e w'' => e = .returned (.bool true) ∧ Below w'.heap.size w' w'' := by
  intro w' hb
  have hT' := hT.all hb
  refine awake13_of (mrT [4613937818241073152, 4616189618054758400]) w' (fun w2 ao hb2 hI => ?_)
  obtain ⟨e1, e2, e3⟩ := mr_345
  have hn : toN [((4613937818241073152 : Nat) : Int), ((4616189618054758400 : Nat) : Int)] = [4613937818241073152, 4616189618054758400] := rfl
  have hf : fnK [((4613937818241073152 : Nat) : Int), ((4616189618054758400 : Nat) : Int)] 2 = true := by
    show ((true && fFin 4613937818241073152) && fFin 4616189618054758400) = true
    rw [w13_facts.2.1, w13_facts.2.2.2.2.2.2.2.2.2.2.2.2]
    rfl
  have M := house_cm w' hT' w2 ao 2 [((4613937818241073152 : Nat) : Int), ((4616189618054758400 : Nat) : Int)] hb2 hI (by decide) (by decide) hf (by rw [hn, e3])
  rw [hn, e1, e2] at M
  exact M

theorem houseRight_walk (ao : Option Addr) (c : Nat) (I : List Int) (w : World) (hI : BitsAt w ao c I) (hi : I.length ≤ 17592186043904) (hT : Tab w) :
    Calls Tryz.prog 5 #[.slice ao I.length c] w fun r w' => r = .returned (.bool true) ∧ Below w.heap.size w w' :=
  houseRight_by ao c I w hI hi (house_cm w hT) (house_ca w hT)

end Go.Proofs.YtimejpbmehegeaaGreatDoor

/- A struct of a sign and limbs that came in, opened. -/
namespace Go.Proofs.YtimejpbmehegeaaGreatDoor
open Go.ChangeShapes Go.WideShapes Go.ChangeAt Go.RowKit Go.Joins

theorem Tryz.own : ownKnob Tryz.prog.godebug = none := by kernel_rfl
theorem Tryz.laidOut : laidOutB Tryz.prog = true := by kernel_rfl
end Go.Proofs.YtimejpbmehegeaaGreatDoor

/- A dyadic number that came in, opened; the library's table, as the row lays it. -/
namespace Go.Proofs.YtimejpbmehegeaaGreatDoor
open Go.ChangeShapes Go.WideShapes Go.ChangeAt Go.RowKit Go.Joins
theorem Tryz.tabName : Tryz.prog.globalNamed "math/bits.deBruijn32tab" = some 1 := by kernel_rfl
theorem Tryz.tabType : (Tryz.prog.globals[1]?).map (·.type) = some 174 := by kernel_rfl
theorem Tryz.tabCells : Tryz.prog.cellsOf 174 = 32 := by kernel_rfl
theorem Tryz.byteCells : Tryz.prog.cellsOf 5 = 1 := by kernel_rfl

theorem tab_getD : ∀ j, j < Lib.deBruijn32tab.length → (List.map Int.ofNat Lib.deBruijn32tab).getD j 0 = ((Lib.deBruijn32tab.getD j 0 : Nat) : Int) := by decide

/-- What the rows' list gives: the table's cells. -/
theorem tab_of_laid {W : World} (h : laidMetH Tryz.prog [("math/bits.deBruijn32tab", Rows.laid_math_bits_deBruijn32tab)] W) : Tab W := by
  have ht := Lib.tabIs_of_head (zs := Lib.deBruijn32tab.map Int.ofNat) (rest := []) Tryz.tabName Tryz.tabType Tryz.underlying174 Tryz.underlying5 Tryz.byteCells Tryz.tabCells h
  intro j hj
  have := ht.cell Tryz.tabName j (by simpa using hj)
  rw [this]
  congr 2
  exact tab_getD j hj

end Go.Proofs.YtimejpbmehegeaaGreatDoor

/- A list of bits that came in, opened. -/
namespace Go.Proofs.YtimejpbmehegeaaGreatDoor
open Go.ChangeShapes Go.WideShapes Go.ChangeAt Go.RowKit Go.Joins Go.Deep

theorem Tryz.cellsBits : Tryz.prog.cellsOf 24 = 1 := by kernel_rfl
theorem Tryz.bytesBits : Tryz.prog.bytesOf 24 = 8 := by kernel_rfl

theorem cellOf_plain {W : World} {a : Addr} {v : Value} (h : W.cell? a = some v) : a.spot = none ∧ a.block < W.heap.size := ⟨World.cell?_spot h, World.block_lt_of_cell? W _ h⟩
theorem addOf_plain (b off i : Nat) : (⟨b, off, none⟩ : Addr).add i = ⟨b, off + i, none⟩ := by simp [Addr.add]

theorem bounds_of_u64 {x : Int} (h : (Lit.int .u64 x).wf = true) : 0 ≤ x ∧ x ≤ 18446744073709551615 := by
  simp [Lit.wf, IntKind.min, IntKind.max, IntKind.signed, IntKind.bits] at h
  omega

end Go.Proofs.YtimejpbmehegeaaGreatDoor

