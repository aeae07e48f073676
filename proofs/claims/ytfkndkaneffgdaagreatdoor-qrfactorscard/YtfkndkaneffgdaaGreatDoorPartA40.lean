/- Part 40 of the texts. -/
import Derived.Test.YtfkndkaneffgdaaGreatDoorPartA39
import Derived.Test.YtfkndkaneffgdaaGreatDoorPartA38
import Derived.Test.YtfkndkaneffgdaaGreatDoorPartA34
import Derived.Deep.RegionWith
import Derived.Test.YtfkndkaneffgdaaGreatDoorPartA30
import Derived.Test.YtfkndkaneffgdaaGreatDoorPartA36
import Derived.Test.YtfkndkaneffgdaaGreatDoorPartA37
import Derived.Test.YtfkndkaneffgdaaGreatDoorPartA31
import Derived.Test.YtfkndkaneffgdaaGreatDoorPartA33
import Derived.Test.YtfkndkaneffgdaaGreatDoorPartA16
import Derived.Test.YtfkndkaneffgdaaGreatDoorPartA17
import Derived.Test.YtfkndkaneffgdaaGreatDoorPartA18
import Derived.Deep.Cut
import Derived.BigQuiet
import Derived.Test.YtfkndkaneffgdaaGreatDoorPartA32
import Derived.Deep.CutRange
import Derived.Test.YtfkndkaneffgdaaGreatDoorPartA08
import Derived.Test.YtfkndkaneffgdaaGreatDoorPartA35
import Derived.Maps.Own
import Derived.Maps.OwnOps
import Derived.Maps.OwnSet
import Derived.DeepKeys4
import Derived.Test.YtfkndkaneffgdaaGreatDoorPartA10
import Derived.WalkSmall
import Derived.Test.YtfkndkaneffgdaaGreatDoorPartA09
import Derived.Lib.BitFns
import Derived.Test.YtfkndkaneffgdaaGreatDoorPartA01
import Derived.OwnWalk
import Derived.Test.YtfkndkaneffgdaaGreatDoorPartA05
import Derived.Test.YtfkndkaneffgdaaGreatDoorPartA02
import Derived.Test.YtfkndkaneffgdaaGreatDoorPartA07
/- The reference of layer 13: what Apply answers. -/
namespace Go.Proofs.YtfkndkaneffgdaaGreatDoor
open Go.RowKit

theorem BitsAt.front {w : World} {ao : Option Addr} {cap : Nat} {I J : List Int} (h : BitsAt w ao cap I) (hl : J.length ≤ I.length) (he : ∀ j, j < J.length → J[j]? = I[j]?) : BitsAt w ao cap J := by
  refine ⟨Nat.le_trans hl h.1, fun x hx => ?_, ?_⟩
  · obtain ⟨j, hj, rfl⟩ := List.getElem_of_mem hx
    have e := he j hj
    rw [List.getElem?_eq_getElem hj] at e
    exact h.2.1 _ (List.mem_of_getElem? e.symm)
  · rcases Nat.eq_zero_or_pos J.length with g | g
    · exact .inl (List.eq_nil_of_length_eq_zero g)
    · obtain ⟨b, off, e1, e2, e3⟩ := h.2.2.resolve_left (fun e => by rw [e, List.length_nil] at hl; omega)
      refine .inr ⟨b, off, e1, e2, fun j hj => ?_⟩
      rw [e3 j (by omega), he j hj]

theorem dtV_lt : ∀ (xs ys : List Nat) (s : Nat), s < 18446744073709551616 → dtV s xs ys < 18446744073709551616 := by
  intro xs
  induction xs with
  | nil => intro ys s h; exact h
  | cons x xs ih =>
    intro ys s h
    match ys with
    | [] => exact h
    | y :: ys => exact ih ys _ (aV_lt _ _ h (mV_lt _ _))

theorem col_front (c : Nat) (S : List Nat) (i q : Nat) {m l : Nat} (h : m ≤ l) : ∀ j, j < (mxL (colL c S i m q)).length → (mxL (colL c S i m q))[j]? = (mxL (colL c S i l q))[j]? := by
  intro j hj
  rw [mxL_len, colL_len] at hj
  unfold mxL colL
  rw [List.getElem?_map, List.getElem?_map, List.getElem?_map, List.getElem?_map, List.getElem?_range hj, List.getElem?_range (show j < l by omega)]

/-- The reference's Apply, of a part that lies in a matrix. -/
theorem rapply13_any (r c cap i k tau : Nat) (ao vo : Option Addr) (vc : Nat) (S vs : List Nat) (w : World) (h : Mx w ao cap r c S) (hv : BitsAt w vo vc (mxL vs)) (hi : i + vs.length ≤ r) (hk : k ≤ c) (ht : tau < 18446744073709551616) :
    Calls Tryz.prog 29 #[.agg #[.int .i64 r, .int .i64 c, .slice ao S.length cap], .int .i64 i, .int .i64 k, .slice vo vs.length vc, .int .u64 tau] w fun e w' => ∃ po pc, e = .returned (.agg #[.int .i64 r, .int .i64 c, .slice po S.length pc]) ∧ BitsAt w' po pc (mxL (apM r c S i k vs tau)) ∧ Below w.heap.size w w' := by
  have c6 := h.2.2.2
  have r6 := h.2.2.1
  have lJ : ∀ d j, (apJ r c S i k vs tau d j).length = S.length := fun d j => by rw [apJ_len, h.2.1]
  have hvl : ∀ j, vs.getD j 0 < 18446744073709551616 := fun j => by
    have := hv.lt j
    rwa [mxL_at] at this
  rw [← apJ_all r c S i k vs tau c (Nat.le_refl _)]
  refine rapply13_of r c S.length cap i k vs.length tau ao vo vc (fun d j => apJ r c S i k vs tau d j) (fun d => colL c S i (r - i) d) (fun j => vs.getD j 0) (fun d => dtV 0 vs (colL c S i vs.length d)) (fun d => mV tau (dtV 0 vs (colL c S i vs.length d))) (fun d j => mV (mV tau (dtV 0 vs (colL c S i vs.length d))) (vs.getD j 0)) (fun d j => (apL c S i d vs tau).getD j 0) w c6 r6 hk hi (by show BitsAt w ao cap (mxL (apJ r c S i k vs tau k 0)); rw [apJ_0 r c S i k vs tau h.2.1]; exact h.1) lJ (fun d => apJ_next r c S i k vs tau d) (fun d => colL_len _ _ _ _ _) (fun w' hb j hj => ?_) (fun w' d hb hd => ?_) (fun w' d bo dd hb hd hc => ?_) (fun w' d hd => ?_) (fun w' d j hd hj => ?_) (fun w' d j hd hj => ?_) (fun w' d j qo qc hkd hd hj hq => ?_)
  · obtain ⟨b, off, e1, _, e3⟩ := (hv.below hb).ne (by rw [mxL_len]; omega)
    refine ⟨b, off, e1, ?_⟩
    rw [e3 j (by rw [mxL_len]; exact hj), mxL_at]
  · exact rcolF_any r c cap d i ao S w' (h.below hb) hd (by omega)
  · have hf := hc.front (J := mxL (colL c S i vs.length d)) (by rw [mxL_len, mxL_len, colL_len, colL_len]; omega) (col_front c S i d (by omega))
    have := r9dot_any vo bo vc dd (mxL vs) (mxL (colL c S i vs.length d)) w' (hv.below hb) hf (by rw [mxL_len, mxL_len, colL_len]) (by rw [mxL_len]; omega)
    rw [dtK_dtV (mxL vs) (mxL (colL c S i vs.length d)) (mxL vs).length (Nat.le_refl _) (by rw [mxL_len, mxL_len, colL_len]; exact Nat.le_refl _), toN_mxL, toN_mxL, mxL_len, mxL_len, colL_len, List.take_of_length_le (Nat.le_refl _), List.take_of_length_le (by rw [colL_len]; exact Nat.le_refl _)] at this
    exact this
  · exact r9mul_any tau _ w' ht (dtV_lt _ _ _ (by decide))
  · exact r9mul_any _ _ w' (mV_lt _ _) (hvl j)
  · show Calls Tryz.prog 54 #[.int .u64 ((colL c S i (r - i) d).getD j 0 : Nat), _] w' _
    rw [colL_at c S i (r - i) d (show j < r - i by omega), apL_at c S i d vs tau hj]
    exact r9sub_any _ _ w' (h.el_lt _ _) (mV_lt _ _)
  · have hX : Mx w' qo qc r c (apJ r c S i k vs tau d j) := ⟨hq, apJ_len _ _ _ _ _ _ _ _ _, r6, c6⟩
    have := rwith_any r c qc (i + j) d ((apL c S i d vs tau).getD j 0) qo _ w' hX (by omega) hd (apL_lt c S i d vs tau hj (fun p q => h.el_lt p q))
    rw [lJ d j] at this
    refine this.mono ?_
    rintro e w'' ⟨v, rfl, ⟨po, pc, rfl, _, b5⟩, hb⟩
    rw [apJ_set r c S hi hd hkd hj] at b5 ⊢
    exact ⟨_, rfl, ⟨po, pc, by rw [lJ d (j + 1)], b5⟩, hb⟩

end Go.Proofs.YtfkndkaneffgdaaGreatDoor

/- The reference of layer 14: what Factor answers. Ahead of stage 14. -/
namespace Go.Proofs.YtfkndkaneffgdaaGreatDoor
open Go.RowKit

theorem qrK_all (r c : Nat) (S : List Nat) : ∀ K, qrK r c S K = true ↔ ∀ j, j < K → finL (qrX r c S j) = true ∧ mrK (qrX r c S j) = true := by
  intro K
  induction K with
  | zero => exact ⟨fun _ j h => absurd h (Nat.not_lt_zero j), fun _ => rfl⟩
  | succ K ih =>
    show (qrK r c S K && (finL (qrX r c S K) && mrK (qrX r c S K))) = true ↔ _
    rw [Bool.and_eq_true, Bool.and_eq_true, ih]
    constructor
    · rintro ⟨h1, h2⟩ j hj
      by_cases g : j < K
      · exact h1 j g
      · rw [show j = K by omega]; exact h2
    · intro h
      exact ⟨fun j hj => h j (by omega), h K (by omega)⟩

theorem elS_lt {S : List Nat} (h : ∀ x ∈ S, x < 18446744073709551616) (c p q : Nat) : elM c S p q < 18446744073709551616 := by
  unfold elM
  rw [List.getD_eq_getElem?_getD]
  cases e : S[p * c + q]? with
  | none => decide
  | some x => exact h x (List.mem_of_getElem? e)
theorem colL_lt {S : List Nat} (h : ∀ x ∈ S, x < 18446744073709551616) (c i n q : Nat) : ∀ x ∈ colL c S i n q, x < 18446744073709551616 := by
  intro x hx
  obtain ⟨j, _, rfl⟩ := List.mem_map.1 hx
  exact elS_lt h c _ _
theorem apS_lt {r c : Nat} {S : List Nat} (hS : ∀ x ∈ S, x < 18446744073709551616) (i k : Nat) (vs : List Nat) (tau : Nat) : ∀ x ∈ apM r c S i k vs tau, x < 18446744073709551616 := by
  intro x hx
  unfold apM mkM at hx
  obtain ⟨p, _, rfl⟩ := List.mem_map.1 hx
  show (if _ then _ else _) < _
  split
  · exact apL_lt c S i _ vs tau (by omega) (fun p q => elS_lt hS c p q)
  · exact elS_lt hS c _ _
theorem clS_lt {r c : Nat} {S : List Nat} (hS : ∀ x ∈ S, x < 18446744073709551616) (j b : Nat) (hb : b < 18446744073709551616) : ∀ x ∈ clM r c S j b, x < 18446744073709551616 := by
  intro x hx
  unfold clM clJ mkM at hx
  obtain ⟨p, _, rfl⟩ := List.mem_map.1 hx
  show (if _ then (if _ then _ else _) else _) < _
  split
  · split
    · exact hb
    · decide
  · exact elS_lt hS c _ _
theorem qrR_lt {r c : Nat} {S : List Nat} (hS : ∀ x ∈ S, x < 18446744073709551616) : ∀ j, ∀ x ∈ qrR r c S j, x < 18446744073709551616
  | 0 => hS
  | j + 1 => clS_lt (apS_lt (qrR_lt hS j) _ _ _ _) _ _ (mrB_lt _ (colL_lt (qrR_lt hS j) _ _ _ _))
theorem finL_mx {w : World} {ao : Option Addr} {c : Nat} {xs : List Nat} (h : BitsAt w ao c (mxL xs)) (hl : xs.length ≤ 64) :
    Calls Tryz.prog 25 #[.slice ao xs.length c] w fun e w' => e = .returned (.bool (finL xs)) ∧ Below w.heap.size w w' := by
  have := r9finite_any ao c (mxL xs) w h (by rw [mxL_len]; omega)
  rw [mxL_len] at this
  exact this

/-- The reference's Factor, of a matrix that is right. -/
theorem rfactor14_any (r c cap : Nat) (ao : Option Addr) (S : List Nat) (w : World) (h : Mx w ao cap r c S) :
    Calls Tryz.prog 12 #[.agg #[.int .i64 r, .int .i64 c, .slice ao S.length cap]] w fun e w' => FacAns w' (facK r c S) r c (r * r) S.length (facQ r c S) (facR r c S) e ∧ Below w.heap.size w w' := by
  have hl := h.2.1
  have r6 := h.2.2.1
  have c6 := h.2.2.2
  have lR := fun j => (qrR_len r c S hl j).trans hl.symm
  have lX : ∀ j, (qrX r c S j).length = r - j := qrX_len r c S
  have lV : ∀ j, (mrV (qrX r c S j)).length = r - j := fun j => by rw [mrV_len, lX]
  refine rfactor_of r c S.length (r * r) cap (qrN r c) ao (qrR r c S) (fun j => apM r c (qrR r c S j) j j (mrV (qrX r c S j)) (mrT (qrX r c S j))) (qrX r c S) (fun j => mrV (qrX r c S j)) (qrQ r c S (qrN r c)) (fun j => mrT (qrX r c S j)) (fun j => mrB (qrX r c S j)) (fun j => finL (qrX r c S j)) (fun j => mrK (qrX r c S j)) (finL (facQ r c S)) (finL (facR r c S)) (facK r c S) w r6 c6 (qrN_lt r c) h.1 lR lV ?_ ?_ ?_ ?_ ?_ ?_ ?_ ?_ ?_ ?_ ?_
  · unfold facK
    rw [Bool.and_eq_true, Bool.and_eq_true, qrK_all]
  · intro w' j po pc hj hb
    have hj2 := (qrN_lt r c j).1 hj
    have := rcolF_any r c pc j j po (qrR r c S j) w' ⟨hb, qrR_len r c S hl j, r6, c6⟩ (by omega) (by omega)
    rw [lR j] at this
    exact this
  · intro w' j bo d hj hb
    have := finL_mx hb (by rw [lX]; omega)
    rw [lX] at this
    exact this
  · intro w' j bo d hj hk hb
    have hj2 := (qrN_lt r c j).1 hj
    have := rmake13_new bo d (mxL (qrX r c S j)) w' hb (by rw [mxL_len, lX]; omega) (by rw [mxL_len, lX]; omega) (by rw [toN_mxL]; exact hk)
    rw [toN_mxL, mxL_len, lX] at this
    exact this
  · intro w' j bo d hj hk hb
    have hj2 := (qrN_lt r c j).1 hj
    have := rmake13_no bo d (mxL (qrX r c S j)) w' hb (by rw [mxL_len, lX]; omega) (by rw [mxL_len, lX]; omega) (by rw [toN_mxL]; exact hk)
    rw [mxL_len, lX] at this
    exact this
  · intro w' j po pc vo vc hj hp hv
    have hj2 := (qrN_lt r c j).1 hj
    have := rapply13_any r c pc j j (mrT (qrX r c S j)) po vo vc (qrR r c S j) (mrV (qrX r c S j)) w' ⟨hp, qrR_len r c S hl j, r6, c6⟩ hv (by rw [lV]; omega) (by omega) (mrT_lt _)
    rw [lR j, lV] at this
    exact this
  · intro w' j po pc hj hp
    have hj2 := (qrN_lt r c j).1 hj
    have la : (apM r c (qrR r c S j) j j (mrV (qrX r c S j)) (mrT (qrX r c S j))).length = S.length := by rw [apM_len, hl]
    have hB : mrB (qrX r c S j) < 18446744073709551616 := mrB_lt _ (colL_lt (qrR_lt h.1.nat j) _ _ _ _)
    have := rclear14_any r c pc j (mrB (qrX r c S j)) po _ w' ⟨hp, apM_len _ _ _ _ _ _ _, r6, c6⟩ (by omega) (by omega) hB
    rw [la] at this
    exact this
  · intro w'
    refine (reye_any r w' r6).mono ?_
    rintro e w'' ⟨v, rfl, ⟨qo, qc, rfl, _, hb⟩, hb2⟩
    exact ⟨qo, qc, by rw [show (eyM r).length = r * r from mkM_len r r _], hb, hb2⟩
  · intro w' t j po pc vo vc ht hj hp hv
    have hj2 := (qrN_lt r c j).1 (by omega)
    have := rapply13_any r r pc j 0 (mrT (qrX r c S j)) po vo vc (qrQ r c S (qrN r c) t) (mrV (qrX r c S j)) w' ⟨hp, qrQ_len r c S _ t, r6, r6⟩ hv (by rw [lV]; omega) (by omega) (mrT_lt _)
    rw [qrQ_len, lV] at this
    refine this.mono ?_
    rintro e w'' ⟨qo, qc, rfl, hb, hb2⟩
    refine ⟨qo, qc, rfl, ?_, hb2⟩
    show BitsAt w'' qo qc (mxL (apM r r (qrQ r c S (qrN r c) t) (qrN r c - 1 - t) 0 (mrV (qrX r c S (qrN r c - 1 - t))) (mrT (qrX r c S (qrN r c - 1 - t)))))
    rw [← hj]
    exact hb
  · intro w' po pc hb
    have hs : r * r ≤ 36 := Nat.mul_le_mul r6 r6
    have := finL_mx hb (by rw [qrQ_len]; omega)
    rw [qrQ_len] at this
    exact this
  · intro w' po pc hb
    have hs : r * c ≤ 36 := Nat.mul_le_mul r6 c6
    have := finL_mx hb (by rw [qrR_len r c S hl]; omega)
    rw [lR] at this
    exact this

end Go.Proofs.YtfkndkaneffgdaaGreatDoor

/- Package house: belowZero, betaOf, oneAnd, the functions of one number. -/
namespace Go.Proofs.YtfkndkaneffgdaaGreatDoor
open Go.RowKit
attribute [local go_sem ↓] Go.wp_at_zero Go.wp_at_succ

set_option maxRecDepth 20000 in
set_option maxHeartbeats 4000000 in
theorem hbelow_any (ao : Option Addr) (c : Nat) (I : List Int) (w : World) (hI : BitsAt w ao c I) (hn : I.length ≤ 64) :
    Calls Tryz.prog 95 #[.slice ao I.length c] w fun e w' => e = .returned (.bool (ldS (toN I))) ∧ Below w.heap.size w w' := by
  have HI := hide hI
  obtain ⟨L, hL⟩ : ∃ L : Nat → Bool, L = fun j => ldS ((toN I).drop j) := ⟨_, rfl⟩
  have L0 : ldS (toN I) = L 0 := by rw [hL]; rfl
  have LE : ∀ j, I.length ≤ j → L j = false := fun j hj => by
    rw [hL]
    show ldS ((toN I).drop j) = false
    rw [List.drop_eq_nil_of_le (by rw [toN_len]; exact hj)]
    rfl
  have LS : ∀ j, j < I.length → L j = if fK (atB I j) = 0 then L (j + 1) else fS (atB I j) := fun j hj => by
    rw [hL]
    show ldS ((toN I).drop j) = _
    rw [ldS_drop (toN I) (by rw [toN_len]; exact hj), toN_getD I j hj]
  rw [L0]
  obtain ⟨v, hv⟩ : ∃ v, L 0 = v := ⟨_, rfl⟩
  have HE := hide LE; have HS := hide LS
  obtain ⟨n, hnn⟩ : ∃ n, I.length = n := ⟨_, rfl⟩
  rw [hnn] at hn HE HS ⊢
  rw [hv]
  have HN := hide hnn
  have HV := hide hv
  clear hI hL L0 LE LS hnn hv
  go_enter Tryz.func95, Tryz.ntmps95
  go_wp2_with fail
  go_loopw [7] (fun i wr => ∃ j : Nat, j ≤ n ∧ i = .int .i64 j ∧ Hid (L j = v) ∧ Hid (Below w.heap.size w wr)) (fun i _ => n - (intOf i).toNat)
  case atStart => exact ⟨0, Nat.zero_le _, rfl, HV, Below.refl _ _⟩
  case round =>
    obtain ⟨j, hj, rfl, hL, hB⟩ := hrel
    by_cases hlt : j < n
    · have hjI : (j : Int) < (n : Int) := by omega
      obtain ⟨b, off, hao, hb, hc⟩ := ((unhide HI).below hB.out).ne (by rw [unhide HN]; omega)
      have hck := hide (hc j (by rw [unhide HN]; exact hlt))
      have C1 := hide (fun w' => kind_any (atB I j) w' ((unhide HI).lt j))
      have C2 := hide (fun w' => ssign_any (atB I j) w' ((unhide HI).lt j))
      have HJ := hide (unhide HS j hlt)
      subst hao
      clear hc
      by_cases g0 : fK (atB I j) = 0
      · have R2 := hide (show L (j + 1) = v from by have := unhide HJ; rw [unhide hL, if_pos g0] at this; exact this.symm)
        rw [g0] at C1
        clear HJ g0 C2
        generalize atB I j = x at *
        have hc0 := unhide hck
        go_wp2_with fail
        refine (unhide C1 _).mono ?_
        rintro e w2 ⟨rfl, hb2⟩
        have B2 : Hid (Below w.heap.size w w2) := hB.out.trans (hb2.mono hB.out.size)
        clear C1 hb2 hck hc0 hB
        go_wp2_with fail
        go_round
        case rel => exact ⟨j + 1, by omega, by go_num, R2, B2⟩
        case measure => simp [intOf]; omega
      · have R2 : fS (atB I j) = v := by have := unhide HJ; rw [unhide hL, if_neg g0] at this; exact this.symm
        have g0' : (fK (atB I j) == 0) = false := by rw [beq_eq_false_iff_ne]; exact g0
        rw [R2] at C2
        clear HJ R2
        generalize fK (atB I j) = kd at *
        generalize atB I j = x at *
        have hc0 := unhide hck
        go_wp2_with fail
        refine (unhide C1 _).mono ?_
        rintro e w2 ⟨rfl, hb2⟩
        have B2 : Hid (Below w.heap.size w w2) := hB.out.trans (hb2.mono hB.out.size)
        clear C1 hb2 hck hc0 hB
        go_wp2_with fail
        refine (unhide C2 _).mono ?_
        rintro e w3 ⟨rfl, hb2⟩
        have B3 : Hid (Below w.heap.size w w3) := B2.out.trans (hb2.mono B2.out.size)
        clear C2 hb2 B2
        go_wp2_with fail
        exact bodyPost_ret (v := .bool v) (by simp [results, Tryz.results95, go_sem]) rfl ⟨rfl, B3.out⟩
    · have hv2 : v = false := by have := unhide HE j (by omega); rw [unhide hL] at this; exact this
      subst hv2
      have hjI : (n : Int) ≤ (j : Int) := by omega
      go_wp2_with fail
      exact bodyPost_ret (v := .bool false) (by simp [results, Tryz.results95, go_sem]) rfl ⟨rfl, hB.out⟩

set_option maxRecDepth 20000 in
set_option maxHeartbeats 4000000 in
theorem hbeta_of (ao : Option Addr) (n c m o : Nat) (s : Bool) (w : World) (h : (s = true ∧ o = m) ∨ (s = false ∧ o = fN m)) (hm : m < 18446744073709551616)
    (C1 : Calls Tryz.prog 94 #[.slice ao n c] w fun e w'' => e = .returned (.tuple #[.int .u64 (m : Nat), .int .i64 0]) ∧ Below w.heap.size w w'')
    (C2 : ∀ w', Below w.heap.size w w' → Calls Tryz.prog 95 #[.slice ao n c] w' fun e w'' => e = .returned (.bool s) ∧ Below w'.heap.size w' w'') :
    Calls Tryz.prog 72 #[.slice ao n c] w fun e w' => e = .returned (.int .u64 (o : Nat)) ∧ Below w.heap.size w w' := by
  have K1 := hide C1; have K2 := hide C2
  have K3 := hide (fun w' => sminus_any m w' hm)
  clear C1 C2 hm
  rcases h with ⟨rfl, rfl⟩ | ⟨rfl, rfl⟩
  · clear K3
    go_enter Tryz.func72, Tryz.ntmps72
    go_wp2_with fail
    refine Calls.mono (unhide K1) ?_
    rintro e w1 ⟨rfl, hb1⟩
    have B1 := hide hb1
    clear K1 hb1
    go_wp2_with fail
    refine (unhide K2 _ (unhide B1)).mono ?_
    rintro e w2 ⟨rfl, hb2⟩
    have B2 := hide ((unhide B1).trans (hb2.mono (unhide B1).size))
    clear K2 hb2 B1
    go_wp2
    go_ret
    exact ⟨rfl, unhide B2⟩
  · generalize fN m = o at *
    go_enter Tryz.func72, Tryz.ntmps72
    go_wp2_with fail
    refine Calls.mono (unhide K1) ?_
    rintro e w1 ⟨rfl, hb1⟩
    have B1 := hide hb1
    clear K1 hb1
    go_wp2_with fail
    refine (unhide K2 _ (unhide B1)).mono ?_
    rintro e w2 ⟨rfl, hb2⟩
    have B2 := hide ((unhide B1).trans (hb2.mono (unhide B1).size))
    clear K2 hb2 B1
    go_wp2_with fail
    refine (unhide K3 _).mono ?_
    rintro e w3 ⟨rfl, rfl⟩
    clear K3
    go_wp2
    go_ret
    exact ⟨rfl, unhide B2⟩

theorem hbeta_any (ao : Option Addr) (c : Nat) (I : List Int) (w : World) (hI : BitsAt w ao c I) (hn : I.length ≤ 64) (hT : Tab w) :
    Calls Tryz.prog 72 #[.slice ao I.length c] w fun e w' => e = .returned (.int .u64 ((if ldS (toN I) = true then nrV (toN I) else fN (nrV (toN I)) : Nat) : Nat)) ∧ Below w.heap.size w w' := by
  have C1 := vNorm_ok ao c I w hI hn hT
  rw [nmV_nrV] at C1
  refine hbeta_of ao I.length c (nrV (toN I)) _ (ldS (toN I)) w ?_ (nrV_lt _) C1 (fun w' hb => hbelow_any ao c I w' (hI.below hb) hn)
  cases ldS (toN I)
  · exact .inr ⟨rfl, if_neg (by decide)⟩
  · exact .inl ⟨rfl, if_pos rfl⟩

set_option maxRecDepth 20000 in
set_option maxHeartbeats 2000000 in
theorem hmake1_any (x : Nat) (w : World) :
    Calls Tryz.prog 71 #[.int .u64 x] w fun e w' => e = .returned (.int .u64 (0 : Nat)) ∧ Below w.heap.size w w' := by
  go_enter Tryz.func71, Tryz.ntmps71
  go_wp2
  go_ret
  exact ⟨rfl, Below.refl _ _⟩

set_option maxRecDepth 20000 in
set_option maxHeartbeats 2000000 in
theorem hmake2_any (x d g : Nat) (w : World) (hx : x < 18446744073709551616) (hd : d < 18446744073709551616) (hg : w.cell? ⟨g, 0, none⟩ = some (.int .u64 (d : Nat))) (hT : Tab w) :
    Calls Tryz.prog 74 #[.int .u64 x, .pointer (some ⟨g, 0, none⟩)] w fun e w' => e = .returned (.int .u64 (dV x d : Nat)) ∧ Below w.heap.size w w' := by
  have K := hide (pdiv_any x d w hx hd hT)
  generalize dV x d = o at *
  clear hx hd hT
  go_enter Tryz.func74, Tryz.ntmps74
  go_wp2_with fail
  refine Calls.mono (unhide K) ?_
  rintro e w1 ⟨rfl, hb1⟩
  clear K
  go_wp2
  go_ret
  exact ⟨rfl, hb1⟩

/-- One, and then k numbers. -/
def oaL (f : Nat → Nat) (k : Nat) : List Nat := 4607182418800017408 :: fsL f k
theorem oaL_len (f : Nat → Nat) (k : Nat) : (oaL f k).length = k + 1 := by
  show (fsL f k).length + 1 = _
  rw [fsL_len]
theorem oaL_succ (f : Nat → Nat) (k : Nat) : oaL f (k + 1) = oaL f k ++ [f k] := by
  show 4607182418800017408 :: fsL f (k + 1) = (4607182418800017408 :: fsL f k) ++ [f k]
  rw [fsL_succ]
  rfl

set_option maxRecDepth 20000 in
set_option maxHeartbeats 4000000 in
theorem oneAnd_any (fn : Nat) (caps : Array Value) (ao : Option Addr) (c : Nat) (J : List Int) (f : Nat → Nat) (w : World)
    (hcf : ∀ args w, (callFunc fn args).run Tryz.prog w = .ok (.enter fn args) w) (hJ : BitsAt w ao c J) (hn : J.length ≤ 64) (hf : ∀ k, k < J.length → f k < 18446744073709551616)
    (hstep : ∀ w' k, Below w.heap.size w w' → k < J.length → Calls Tryz.prog fn (#[.int .u64 (atB J k : Nat)] ++ caps) w' fun e w'' => e = .returned (.int .u64 (f k : Nat)) ∧ Below w'.heap.size w' w'') :
    Calls Tryz.prog 70 #[.slice ao J.length c, .func (.func fn) #[] caps] w fun e w' => ∃ bo d, e = .returned (.slice bo (J.length + 1 : Nat) d) ∧ NewB w.heap.size bo (mxL (oaL f J.length)) ∧ BitsAt w' bo d (mxL (oaL f J.length)) ∧ Below w.heap.size w w' := by
  obtain ⟨i0, hi0, hz0, hz1, hz2⟩ := info_parts infoBits
  have HS := hide hstep; have HF := hide hf; have HJ := hide hJ
  obtain ⟨n, hnn⟩ : ∃ n, J.length = n := ⟨_, rfl⟩
  rw [hnn] at hn HS HF ⊢
  have HN := hide hnn
  obtain ⟨m, hm⟩ : ∃ m, n + 1 = m := ⟨_, rfl⟩
  have hmI : (1 : Int) + (n : Int) = (m : Int) := by omega
  obtain ⟨w1, hmk, own1, gr1⟩ := run_make_own (P := Tryz.prog) w w.heap.size 22 30 i0 (.int .u64 0) 1 Tryz.underlying22 hi0 hz0 hz1 .i64 .i64 m (by rw [hz2]; omega) (by unfold maxLen; omega) (by simp)
  have B1 : Below w.heap.size w w1 := (Below.refl w.heap.size w).grown gr1 (by simp) (fun g hg => by cases hg)
  have O1 : OwnB w.heap.size w1 (.slice (some ⟨w.heap.size, 0, none⟩) 0 m) [] := ⟨by simpa using own1, by intro x hx; cases hx⟩
  generalize Value.slice (some ⟨w.heap.size, 0, none⟩) 0 m = v1 at hmk O1
  obtain ⟨v2, w2, run2, own2, bel2, _, _⟩ := O1.push 4607182418800017408 (by decide) (by simp) B1.size 22
  have RUN := hide (show (Builtin.append_ #[22, 22] 22 #[v1, .slice (some ⟨w1.heap.size, 0, none⟩) 1 1]).run Tryz.prog (w1.alloc (.cells #[.int .u64 4607182418800017408] 30)) = .ok v2 w2 from run2)
  have O2 := hide (show OwnB w.heap.size w2 v2 (oaL f 0) from own2)
  have B2 := hide (B1.trans bel2)
  clear own1 gr1 O1 B1 run2 own2 bel2 hstep hf hJ hnn
  go_enter Tryz.func70, Tryz.ntmps70
  go_wp2_with (at_builtin; refine wpList_append_ran _ rfl _ _ 22 rfl _ _ _ _ rfl rfl (unhide RUN) ?_; clear RUN)
  clear hmk
  go_loopw [5, 17] (fun v i wr => ∃ k : Nat, k ≤ n ∧ i = .int .i64 k ∧ Hid (OwnB w.heap.size wr v (oaL f k)) ∧ Hid (Below w.heap.size w wr)) (fun _ i _ => n - (intOf i).toNat)
  case atStart => exact ⟨0, Nat.zero_le _, rfl, O2, B2⟩
  case round =>
    clear O2 B2
    obtain ⟨k, hk, rfl, hO, hB⟩ := hrel
    by_cases hlt : k < n
    · have hkI : (k : Int) < (n : Int) := by omega
      obtain ⟨b, off, hao, hb, hc⟩ := ((unhide HJ).below hB.out).ne (by rw [unhide HN]; omega)
      have hck := hc k (by rw [unhide HN]; exact hlt)
      have C := hide (fun w' h => unhide HS w' k h hlt)
      have ho := hide (unhide HF k hlt)
      have eo := hide (show f k = f k from rfl)
      have hlen := hide (show (oaL f k).length ≤ 1000000 from by rw [oaL_len]; omega)
      subst hao
      clear hc
      obtain ⟨o, eo⟩ : ∃ o, f k = o := ⟨_, rfl⟩
      rw [eo] at C ho
      have eV := hide eo
      clear eo
      generalize atB J k = x at *
      go_wp2_with fail
      refine (unhide C _ hB.out).mono ?_
      rintro e w2 ⟨rfl, hb2⟩
      have own2 := (unhide hO).below hb2
      have B2 := hB.out.trans (hb2.mono hB.out.size)
      obtain ⟨v3, w3, run3, own3, bel3, _, _⟩ := own2.push o (unhide ho) (unhide hlen) B2.size 22
      have RUN := hide run3
      have O3 := hide (show OwnB w.heap.size w3 v3 (oaL f (k + 1)) from by
        rw [oaL_succ, unhide eV]; exact own3)
      have B3 := hide (B2.trans bel3)
      clear hb2 C hO hB own2 B2 run3 own3 bel3 ho eV hlen hck
      go_wp2_with (at_builtin; refine wpList_append_ran _ rfl _ _ 22 rfl _ _ _ _ rfl rfl (unhide RUN) ?_; clear RUN)
      go_round
      case rel => exact ⟨k + 1, by omega, by go_num, O3, B3⟩
      case measure => simp [intOf]; omega
    · have hkk : k = n := by omega
      subst hkk
      obtain ⟨b1, d1, e1, q1⟩ := (unhide hO).bits
      rw [oaL_len, hm] at e1
      subst e1
      have HNew := hide (unhide hO).newB
      have Q1 := hide q1
      clear q1 hO
      go_wp2_with fail
      exact bodyPost_ret (v := .slice b1 m d1) (by simp [results, Tryz.results70, go_sem]) rfl ⟨b1, d1, by rw [hm], unhide HNew, unhide Q1, hB.out⟩

end Go.Proofs.YtfkndkaneffgdaaGreatDoor

/- The reference of layer 11: Orthogonal by letters. -/
namespace Go.Proofs.YtfkndkaneffgdaaGreatDoor
open Go.RowKit
attribute [local go_sem ↓] Go.wp_at_zero Go.wp_at_succ
theorem Box3.ex {w : World} {b : Nat} {x y z : Value} (h : Box3 w b x y z) : ∃ g, g = b ∧ Box3 w g x y z := ⟨b, rfl, h⟩
end Go.Proofs.YtfkndkaneffgdaaGreatDoor

/- The reference of layer 11: Check, Square, Tame. The law's told, one, awake. -/
namespace Go.Proofs.YtfkndkaneffgdaaGreatDoor
open Go.RowKit
attribute [local go_sem ↓] Go.wp_at_zero Go.wp_at_succ
set_option maxRecDepth 20000 in
set_option maxHeartbeats 4000000 in
theorem r11check_any (r c : Int) (ao : Option Addr) (cap : Nat) (I : List Int) (w : World) (hI : BitsAt w ao cap I) (hn : I.length ≤ 35184372088830) :
    Calls Tryz.prog 9 #[.agg #[.int .i64 r, .int .i64 c, .slice ao I.length cap]] w fun e w' => e = .returned (.int .i64 (ckE r c I)) ∧ Below w.heap.size w w' := by
  have K1 := hide (fun w' => rright_any r c ao I.length cap w')
  have K2 := hide (fun w' (h : BitsAt w' ao cap I) => r9finite_any ao cap I w' h hn)
  have BB := hide (below_alloc9 w (.cells #[.int .i64 r, .int .i64 c, .slice ao I.length cap] 24))
  have X0 := hide (BoxM.new w (.int .i64 r) (.int .i64 c) (.slice ao I.length cap))
  have HI := hide hI
  unfold ckE
  generalize okB r c I.length = b at *
  generalize fnK I I.length = f at *
  generalize I.length = n at *
  clear hI
  cases b
  · clear K2
    go_enter Tryz.func9, Tryz.ntmps9
    go_wp2_with fail
    refine (unhide K1 _).mono ?_
    rintro e w1 ⟨rfl, hb1⟩
    have PB := hide ((unhide BB).trans (hb1.mono (unhide BB).size))
    clear hb1 K1 X0
    go_wp2
    go_ret
    exact ⟨rfl, unhide PB⟩
  · cases f
    all_goals
      go_enter Tryz.func9, Tryz.ntmps9
      go_wp2_with fail
      refine (unhide K1 _).mono ?_
      rintro e w1 ⟨rfl, hb1⟩
      replace BB := hide ((unhide BB).trans (hb1.mono (unhide BB).size)); replace X0 := hide ((unhide X0).all hb1)
      clear hb1 K1
      have y2 := (unhide X0).c2
      go_wp2_with fail
      refine (unhide K2 _ ((unhide HI).below (unhide BB))).mono ?_
      rintro e w2 ⟨rfl, hb1⟩
      replace BB := hide ((unhide BB).trans (hb1.mono (unhide BB).size))
      clear hb1 K2 y2
      go_wp2
      go_ret
      exact ⟨rfl, unhide BB⟩

theorem fnK_all {I : List Int} : ∀ n, fnK I n = true ↔ ∀ k, k < n → fFin (atB I k) = true
  | 0 => ⟨fun _ k hk => by omega, fun _ => rfl⟩
  | n + 1 => by
    show (fnK I n && fFin (atB I n)) = true ↔ _
    rw [Bool.and_eq_true, fnK_all n]
    constructor
    · rintro ⟨h1, h2⟩ k hk
      by_cases e : k = n
      · subst e; exact h2
      · exact h1 k (by omega)
    · exact fun h => ⟨fun k hk => h k (by omega), h n (by omega)⟩
/-- What Check's answer 0 says. -/
theorem ckE_zero {r c : Int} {I : List Int} (h : ckE r c I = 0) : okB r c I.length = true ∧ fnK I I.length = true := by
  unfold ckE at h
  by_cases h1 : okB r c I.length = true
  · rw [if_pos h1] at h
    refine ⟨h1, ?_⟩
    by_cases h2 : fnK I I.length = true
    · exact h2
    · rw [if_neg h2] at h; omega
  · rw [if_neg h1] at h; omega
end Go.Proofs.YtfkndkaneffgdaaGreatDoor

