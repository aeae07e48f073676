/- Part 42 of the texts. -/
import Derived.Test.YtceofkjefmilfaaGreatDoorPartd41
import Derived.Test.YtceofkjefmilfaaGreatDoorChecked
import Derived.Test.YtceofkjefmilfaaGreatDoorPartd02
import Derived.ProofKit
import Derived.SizedLaws
import Derived.Lib.SmallJoins
/- Package givens: Rows, Cols (mkes.py). -/
namespace Go.Proofs.YtceofkjefmilfaaGreatDoor
open Go.RowKit
attribute [local go_sem ↓] Go.wp_at_zero Go.wp_at_succ

/-- What holds in Rows and Cols. -/
def GsSt (w W : World) (r c n cap : Nat) (ao : Option Addr) : Prop := Below w.heap.size w W ∧ BoxM W w.heap.size (.int .i64 r) (.int .i64 c) (.slice ao n cap) ∧ BoxM W (w.heap.size + 1) (.int .i64 0) (.int .i64 0) (.slice none 0 0)
theorem GsSt.all {w W W' : World} {r c n cap : Nat} {ao : Option Addr} (h : GsSt w W r c n cap ao) (hb : Below W.heap.size W W') : GsSt w W' r c n cap ao := ⟨h.1.trans (hb.mono h.1.size), h.2.1.all hb, h.2.2.all hb⟩

set_option maxRecDepth 20000 in
set_option maxHeartbeats 4000000 in
theorem gRows_of (r c n cap i k C s u0 u1 u2 l0 l1 l2 : Nat) (ao : Option Addr) (S : List Nat) (w : World) (hl : S.length = n) (hS : ∀ x ∈ S, x < 18446744073709551616)
    (C1 : ∀ w', Calls Tryz.prog 47 #[.agg #[.int .i64 r, .int .i64 c, .slice ao n cap], .int .i64 r, .int .i64 i, .int .i64 k] w' fun e w'' => e = .returned (.int .i64 0) ∧ Below w'.heap.size w' w'')
    (C2 : ∀ w', Calls Tryz.prog 49 #[.agg #[.int .i64 r, .int .i64 c, .slice ao n cap], .int .i64 i] w' fun e w'' => e = .returned (.agg #[.int .i64 u0, .int .i64 u1, .int .i64 u2]) ∧ Below w'.heap.size w' w'')
    (C3 : ∀ w', Calls Tryz.prog 49 #[.agg #[.int .i64 r, .int .i64 c, .slice ao n cap], .int .i64 k] w' fun e w'' => e = .returned (.agg #[.int .i64 l0, .int .i64 l1, .int .i64 l2]) ∧ Below w'.heap.size w' w'')
    (C4 : ∀ w', Below w.heap.size w w' → Calls Tryz.prog 48 #[.agg #[.int .i64 r, .int .i64 c, .slice ao n cap], .agg #[.int .i64 u0, .int .i64 u1, .int .i64 u2], .agg #[.int .i64 l0, .int .i64 l1, .int .i64 l2], .int .u64 C, .int .u64 s] w' fun e w'' => ∃ g, e = .returned (.agg #[.int .i64 r, .int .i64 c, .slice (some ⟨g, 0, none⟩) n n]) ∧ w'.heap.size ≤ g ∧ RowB w'' g S ∧ Below w'.heap.size w' w'') :
    Calls Tryz.prog 13 #[.agg #[.int .i64 r, .int .i64 c, .slice ao n cap], .int .i64 i, .int .i64 k, .int .u64 C, .int .u64 s] w fun e w' => ∃ v, e = .returned (.tuple #[v, .int .i64 0]) ∧ NewM w.heap.size w' r c S v ∧ Below w.heap.size w w' := by
  have K := hide (C1 ((w.alloc (.cells #[.int .i64 r, .int .i64 c, .slice ao n cap] 35)).alloc (.cells #[.int .i64 0, .int .i64 0, .slice none 0 0] 35)))
  simp only [size_alloc9] at K
  have KB := hide (boxes2 w (.int .i64 r) (.int .i64 c) (.slice ao n cap) (.int .i64 0) (.int .i64 0) (.slice none 0 0))
  have K2 := hide C2; have K3 := hide C3; have K4 := hide C4; have HL := hide hl; have HS := hide hS
  clear C1 C2 C3 C4 hl hS
  go_enter Tryz.func13, Tryz.ntmps13
  go_wp2_with fail
  refine Calls.mono (unhide K) ?_
  rintro e w1 ⟨rfl, hb1⟩
  obtain ⟨hB, hA, hX⟩ := unhide KB w1 hb1
  clear K KB hb1
  have ST := hide (show GsSt w w1 r c n cap ao from ⟨hB, hA, hX⟩)
  have a0 := hA.c0; have a1 := hA.c1; have a2 := hA.c2
  clear hB hA hX
  go_wp2_with fail
  clear a0 a1 a2
  refine at_world (fun W => GsSt w W r c n cap ao) (unhide ST) ?_
  clear ST
  rintro W0 st
  have ST := hide (st.all ((Below.refl W0.heap.size W0).drew))
  clear st
  have a0 := (unhide ST).2.1.c0; have a1 := (unhide ST).2.1.c1; have a2 := (unhide ST).2.1.c2
  go_region_with (first
    | (go_at_call 49; refine (unhide K2 _).mono ?_; rintro e w4 ⟨rfl, hb⟩; clear a0 a1 a2; have S4 := (unhide ST).all hb; have a0 := S4.2.1.c0; have a1 := S4.2.1.c1; have a2 := S4.2.1.c2; replace ST := hide S4; clear S4 hb K2)
    | (go_at_call 49; refine (unhide K3 _).mono ?_; rintro e w5 ⟨rfl, hb⟩; clear a0 a1 a2; have S4 := (unhide ST).all hb; have a0 := S4.2.1.c0; have a1 := S4.2.1.c1; have a2 := S4.2.1.c2; replace ST := hide S4; clear S4 hb K3)
    | (go_at_call 48; refine (unhide K4 _ (unhide ST).1).mono ?_; rintro e w6 ⟨g, rfl, hg, hr, hb⟩; clear a0 a1 a2; have S4 := (unhide ST).all hb; have f0 := S4.2.2.free 0; have f1 := S4.2.2.free 1; have f2 := S4.2.2.free 2; have s0 := S4.2.2.c0; have s1 := S4.2.2.c1; have s2 := S4.2.2.c2; have HG := hide (Nat.le_trans (unhide ST).1.size hg); have hr2 := hr.bits (unhide HS); have XP := S4.2.2.put (.int .i64 r) (.int .i64 c) (.slice (some ⟨g, 0, none⟩) n n); have z0 := XP.c0; have z1 := XP.c1; have z2 := XP.c2; have Q := hide (hr2.putM S4.2.2 (.int .i64 r) (.int .i64 c) (.slice (some ⟨g, 0, none⟩) n n)); have BP := hide (below_putM S4.1 (b := w.heap.size + 1) (by omega) (.int .i64 r) (.int .i64 c) (.slice (some ⟨g, 0, none⟩) n n)); clear S4 hb hg hr hr2 XP ST K4)
    | fail "NO ARM")
  all_goals
    go_wp2
    exact bodyPost_ret (v := .tuple #[.agg #[.int .i64 r, .int .i64 c, .slice (some ⟨g, 0, none⟩) n n], .int .i64 0]) (by simp [results, Tryz.results13, go_sem, z0, z1, z2]) rfl ⟨_, rfl, ⟨_, n, by rw [unhide HL], .inr ⟨g, 0, rfl, unhide HG⟩, by have := unhide Q; rwa [unhide HL] at this⟩, unhide BP⟩

end Go.Proofs.YtceofkjefmilfaaGreatDoor

/- Package givens: what Rows and Cols answer. -/
namespace Go.Proofs.YtceofkjefmilfaaGreatDoor
open Go.RowKit
theorem chk_ok {l i k : Nat} (hi : i < l) (hk : k < l) (hne : i ≠ k) :
    ((i : Int) < 0 ∧ (0 : Int) = 7) ∨ (0 ≤ (i : Int) ∧ (l : Int) ≤ i ∧ (0 : Int) = 7) ∨ (0 ≤ (i : Int) ∧ (i : Int) < l ∧ (k : Int) < 0 ∧ (0 : Int) = 7) ∨ (0 ≤ (i : Int) ∧ (i : Int) < l ∧ 0 ≤ (k : Int) ∧ (l : Int) ≤ k ∧ (0 : Int) = 7) ∨ (0 ≤ (i : Int) ∧ (i : Int) < l ∧ 0 ≤ (k : Int) ∧ (k : Int) < l ∧ (i : Int) = k ∧ (0 : Int) = 7) ∨ (0 ≤ (i : Int) ∧ (i : Int) < l ∧ 0 ≤ (k : Int) ∧ (k : Int) < l ∧ ¬ (i : Int) = k ∧ (0 : Int) = 0) := by
  omega

theorem at_el (c : Nat) (S : List Nat) (i k : Nat) : S[i * c + k]?.getD 0 = elM c S i k := by
  unfold elM
  rw [List.getD_eq_getElem?_getD]
theorem roM_lt {w : World} {ao : Option Addr} {cap r c : Nat} {S : List Nat} (h : Mx w ao cap r c S) (i k C s : Nat) : ∀ x ∈ roM r c S i k C s, x < 18446744073709551616 := by
  intro x hx
  unfold roM mkM at hx
  obtain ⟨p, _, rfl⟩ := List.mem_map.1 hx
  show (if _ then _ else if _ then _ else _) < _
  split
  · exact aV_lt _ _ (mV_lt _ _) (mV_lt _ _)
  · split
    · exact aV_lt _ _ (mV_lt _ _) (fN_lt _ (mV_lt _ _))
    · exact h.el_lt _ _

/-- Two rows turned. -/
theorem gRows_ok (r c cap i k C s : Nat) (ao : Option Addr) (S : List Nat) (w : World) (h : Mx w ao cap r c S) (hi : i < r) (hk : k < r) (hne : i ≠ k) (hC : C < 18446744073709551616) (hs : s < 18446744073709551616) (hT : Tab w) :
    Calls Tryz.prog 13 #[.agg #[.int .i64 r, .int .i64 c, .slice ao S.length cap], .int .i64 i, .int .i64 k, .int .u64 C, .int .u64 s] w fun e w' => ∃ v, e = .returned (.tuple #[v, .int .i64 0]) ∧ NewM w.heap.size w' r c (roM r c S i k C s) v ∧ Below w.heap.size w w' := by
  have h36 := h.small
  have r6 := h.2.2.1
  have c6 := h.2.2.2
  have bi : i * c ≤ 36 := Nat.mul_le_mul (show i ≤ 6 by omega) c6
  have bk : k * c ≤ 36 := Nat.mul_le_mul (show k ≤ 6 by omega) c6
  refine gRows_of r c S.length cap i k C s (i * c) 1 c (k * c) 1 c ao (roM r c S i k C s) w (by rw [roM_len, h.2.1]) (roM_lt h i k C s)
    (fun w' => gcheck_any r c ao S.length cap r i k 0 w' (by omega) (mx_ok h) (chk_ok hi hk hne))
    (fun w' => (growOf_of r c S.length cap i (i * c) ao w' (cast_mul10 i c) bi).mono (by rintro e w'' ⟨rfl, hb⟩; exact ⟨rfl, hb⟩))
    (fun w' => (growOf_of r c S.length cap k (k * c) ao w' (cast_mul10 k c) bk).mono (by rintro e w'' ⟨rfl, hb⟩; exact ⟨rfl, hb⟩))
    (fun w' hb => ?_)
  have hM := h.below hb
  rw [← roJ_all]
  refine turned_of r c S.length cap (i * c) 1 c (k * c) 1 c C s ao (fun j => roJ r c S i k C s j) (fun j => i * c + j) (fun j => k * c + j) (fun j => elM c S i j) (fun j => elM c S k j) (fun j => aV (mV C (elM c S i j)) (mV s (elM c S k j))) (fun j => aV (mV C (elM c S k j)) (fN (mV s (elM c S i j)))) w' h36 c6 (by show BitsAt w' ao cap (mxL (roJ r c S i k C s 0)); rw [roJ_0 r c S i k C s h.2.1]; exact hM.1) (fun j => by rw [roJ_len, h.2.1]) (fun j hj => ?_) (fun w'' j hj => ?_) (fun w'' j hj => ?_) (fun w'' j hb2 hj => gpair_any _ _ C s w'' (h.el_lt _ _) (h.el_lt _ _) hC hs ((hT.all hb).all hb2))
  · have p1 : i * c + j < S.length := by rw [h.2.1]; exact place_lt hi hj
    have p2 : k * c + j < S.length := by rw [h.2.1]; exact place_lt hk hj
    refine ⟨p1, p2, fun e => hne (Nat.eq_of_mul_eq_mul_right (show 0 < c by omega) (by have e' : i * c + j = k * c + j := e; omega)), ?_, ?_, roJ_set r c S hi hk hne hj⟩
    · show (roJ r c S i k C s j)[i * c + j]?.getD 0 = _
      rw [at_el]
      unfold roJ
      rw [el_mk r c _ hi hj, if_neg (Nat.lt_irrefl j)]
    · show (roJ r c S i k C s j)[k * c + j]?.getD 0 = _
      rw [at_el]
      unfold roJ
      rw [el_mk r c _ hk hj, if_neg (Nat.lt_irrefl j)]
  · have p1 : i * c + j < S.length := by rw [h.2.1]; exact place_lt hi hj
    exact gplace_of (i * c) 1 c j j (i * c + j) w'' (by simp) (by simp) (by omega)
  · have p2 : k * c + j < S.length := by rw [h.2.1]; exact place_lt hk hj
    exact gplace_of (k * c) 1 c j j (k * c + j) w'' (by simp) (by simp) (by omega)

end Go.Proofs.YtceofkjefmilfaaGreatDoor

/- The law GivensKeeps, with the program's own Turn and Rows. -/
namespace Go.Proofs.YtceofkjefmilfaaGreatDoor
open Go.RowKit

theorem givensKeeps_walk (r c : Int) (ao : Option Addr) (cap : Nat) (I : List Int) (f g : Nat) (w : World) (hI : BitsAt w ao cap I) (hl : I.length ≤ 17592186043904) (_hr : -9223372036854775808 ≤ r ∧ r ≤ 9223372036854775807) (_hc : -9223372036854775808 ≤ c ∧ c ≤ 9223372036854775807) (hf : f < 18446744073709551616) (hg : g < 18446744073709551616) (hT : Tab w) :
    Calls Tryz.prog 7 #[.agg #[.int .i64 r, .int .i64 c, .slice ao I.length cap], .int .u64 f, .int .u64 g] w fun e w' => e = .returned (.bool true) ∧ Below w.heap.size w w' := by
  refine givensKeeps_by r c ao cap I f g w hI hl hf hg (ct12 w hT) (fun w' r c cap ao S i k C s hb hM hi hk hne hC hs => ?_) (ca12 w hT)
  refine (gRows_ok r c cap i k C s ao S w' hM hi hk hne hC hs (hT.all hb)).mono ?_
  rintro e w'' ⟨v, rfl, ⟨qo, qc, rfl, _, hq⟩, hb2⟩
  exact ⟨qo, qc, by rw [roM_len, hM.2.1], hq, hb2⟩

end Go.Proofs.YtceofkjefmilfaaGreatDoor

/- A struct of a sign and limbs that came in, opened. -/
namespace Go.Proofs.YtceofkjefmilfaaGreatDoor
open Go.ChangeShapes Go.WideShapes Go.ChangeAt Go.RowKit Go.Joins

theorem Tryz.own : ownKnob Tryz.prog.godebug = none := by kernel_rfl
theorem Tryz.laidOut : laidOutB Tryz.prog = true := by kernel_rfl
end Go.Proofs.YtceofkjefmilfaaGreatDoor

/- The bounds of an int or int64 that came in. -/
namespace Go.Proofs.YtceofkjefmilfaaGreatDoor

theorem bounds_of_i64 {x : Int} (h : (Lit.int .i64 x).wf = true) : -9223372036854775808 ≤ x ∧ x ≤ 9223372036854775807 := by
  simp [Lit.wf, IntKind.min, IntKind.max, IntKind.signed, IntKind.bits] at h
  omega

end Go.Proofs.YtceofkjefmilfaaGreatDoor

