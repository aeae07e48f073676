/- Part 35 of the texts. -/
import Derived.Test.YtimejpbmehegeaaGreatDoorPartb34
import Derived.Test.YtimejpbmehegeaaGreatDoorPartb27
import Derived.Test.YtimejpbmehegeaaGreatDoorPartb30
import Derived.Test.YtimejpbmehegeaaGreatDoorPartb33
import Derived.Test.YtimejpbmehegeaaGreatDoorPartb25
import Derived.Test.YtimejpbmehegeaaGreatDoorPartb29
import Derived.Test.YtimejpbmehegeaaGreatDoorPartb32
import Derived.Test.YtimejpbmehegeaaGreatDoorPartb26
import Derived.Test.YtimejpbmehegeaaGreatDoorPartb28
import Derived.Test.YtimejpbmehegeaaGreatDoorPartb13
import Derived.Test.YtimejpbmehegeaaGreatDoorPartb15
import Derived.Deep.Cut
import Derived.BigQuiet
import Derived.Test.YtimejpbmehegeaaGreatDoorPartb24
import Derived.Test.YtimejpbmehegeaaGreatDoorPartb07
import Derived.Deep.CutRange
import Derived.Test.YtimejpbmehegeaaGreatDoorPartb31
/- Package house: Apply. -/
namespace Go.Proofs.YtimejpbmehegeaaGreatDoor
open Go.RowKit
attribute [local go_sem ↓] Go.wp_at_zero Go.wp_at_succ

set_option maxRecDepth 20000 in
set_option maxHeartbeats 4000000 in
theorem happly_form (r c : Int) (ao : Option Addr) (n cap : Nat) (i k : Int) (vo : Option Addr) (L vc tau : Nat) (w : World)
    (C1 : ∀ w', Calls Tryz.prog 52 #[.agg #[.int .i64 r, .int .i64 c, .slice ao n cap]] w' fun e w'' => e = .returned (.int .i64 1) ∧ Below w'.heap.size w' w'') :
    Calls Tryz.prog 14 #[.agg #[.int .i64 r, .int .i64 c, .slice ao n cap], .int .i64 i, .int .i64 k, .slice vo L vc, .int .u64 tau] w fun e w' => ∃ v, e = .returned (.tuple #[v, .int .i64 1]) ∧ NewM w.heap.size w' 0 0 [] v ∧ Below w.heap.size w w' := by
  have K := hide (C1 ((w.alloc (.cells #[.int .i64 r, .int .i64 c, .slice ao n cap] 36)).alloc (.cells #[.int .i64 0, .int .i64 0, .slice none 0 0] 36)))
  simp only [size_alloc9] at K
  have KB := hide (boxes2 w (.int .i64 r) (.int .i64 c) (.slice ao n cap) (.int .i64 0) (.int .i64 0) (.slice none 0 0))
  clear C1
  go_enter Tryz.func14, Tryz.ntmps14
  go_wp2_with fail
  refine Calls.mono (unhide K) ?_
  rintro e w1 ⟨rfl, hb1⟩
  obtain ⟨hB, hA, hX⟩ := unhide KB w1 hb1
  clear K KB hb1 hA
  have f0 := hX.free 0; have f1 := hX.free 1; have f2 := hX.free 2
  have s0 := hX.c0; have s1 := hX.c1; have s2 := hX.c2
  have XP := hX.put (.int .i64 0) (.int .i64 0) (.slice none 0 0)
  have z0 := XP.c0; have z1 := XP.c1; have z2 := XP.c2
  have BP := hide (below_putM hB (b := w.heap.size + 1) (by omega) (.int .i64 0) (.int .i64 0) (.slice none 0 0))
  clear XP hX hB
  go_wp2
  refine bodyPost_ret (v := .tuple #[.agg #[.int .i64 0, .int .i64 0, .slice none 0 0], _]) (by simp [results, Tryz.results14, go_sem, z0, z1, z2]) rfl ⟨_, rfl, NewM.zero _ _, unhide BP⟩

set_option maxRecDepth 20000 in
set_option maxHeartbeats 4000000 in
theorem happly_shape (r c : Nat) (ao : Option Addr) (n cap : Nat) (i k : Int) (vo : Option Addr) (L vc tau : Nat) (w : World) (hr : r ≤ 6) (hL : L ≤ 17592186043904)
    (h : i < 0 ∨ (0 ≤ i ∧ (r : Int) - (L : Int) < i) ∨ (0 ≤ i ∧ i ≤ (r : Int) - (L : Int) ∧ k < 0) ∨ (0 ≤ i ∧ i ≤ (r : Int) - (L : Int) ∧ 0 ≤ k ∧ (c : Int) < k))
    (C1 : ∀ w', Calls Tryz.prog 52 #[.agg #[.int .i64 r, .int .i64 c, .slice ao n cap]] w' fun e w'' => e = .returned (.int .i64 0) ∧ Below w'.heap.size w' w'') :
    Calls Tryz.prog 14 #[.agg #[.int .i64 r, .int .i64 c, .slice ao n cap], .int .i64 i, .int .i64 k, .slice vo L vc, .int .u64 tau] w fun e w' => ∃ v, e = .returned (.tuple #[v, .int .i64 3]) ∧ NewM w.heap.size w' 0 0 [] v ∧ Below w.heap.size w w' := by
  have K := hide (C1 ((w.alloc (.cells #[.int .i64 r, .int .i64 c, .slice ao n cap] 36)).alloc (.cells #[.int .i64 0, .int .i64 0, .slice none 0 0] 36)))
  simp only [size_alloc9] at K
  have KB := hide (boxes2 w (.int .i64 r) (.int .i64 c) (.slice ao n cap) (.int .i64 0) (.int .i64 0) (.slice none 0 0))
  have hw : IntKind.i64.wrap ((r : Int) - (L : Int)) = (r : Int) - (L : Int) := wrap_in _ (by omega)
  clear C1
  rcases h with h1 | ⟨h1, h2⟩ | ⟨h1, h2, h3⟩ | ⟨h1, h2, h3, h4⟩
  all_goals
    go_enter Tryz.func14, Tryz.ntmps14
    go_wp2_with fail
    refine Calls.mono (unhide K) ?_
    rintro e w1 ⟨rfl, hb1⟩
    obtain ⟨hB, hA, hX⟩ := unhide KB w1 hb1
    clear K KB hb1
    have a0 := hA.c0; have a1 := hA.c1; have a2 := hA.c2
    have f0 := hX.free 0; have f1 := hX.free 1; have f2 := hX.free 2
    have s0 := hX.c0; have s1 := hX.c1; have s2 := hX.c2
    have XP := hX.put (.int .i64 0) (.int .i64 0) (.slice none 0 0)
    have z0 := XP.c0; have z1 := XP.c1; have z2 := XP.c2
    have BP := hide (below_putM hB (b := w.heap.size + 1) (by omega) (.int .i64 0) (.int .i64 0) (.slice none 0 0))
    clear XP hX hB hA
    go_wp2
    refine bodyPost_ret (v := .tuple #[.agg #[.int .i64 0, .int .i64 0, .slice none 0 0], .int .i64 3]) (by simp [results, Tryz.results14, go_sem, z0, z1, z2]) rfl ⟨_, rfl, NewM.zero _ _, unhide BP⟩

set_option maxRecDepth 20000 in
set_option maxHeartbeats 4000000 in
theorem happly_of (r c n cap i k L vc tau : Nat) (ao vo : Option Addr) (S : List Nat) (w : World) (hr : r ≤ 6) (hi : i + L ≤ r) (hk : k ≤ c) (hl : S.length = n) (hS : ∀ x ∈ S, x < 18446744073709551616)
    (C1 : ∀ w', Calls Tryz.prog 52 #[.agg #[.int .i64 r, .int .i64 c, .slice ao n cap]] w' fun e w'' => e = .returned (.int .i64 0) ∧ Below w'.heap.size w' w'')
    (C2 : ∀ w', Below w.heap.size w w' → Calls Tryz.prog 53 #[.agg #[.int .i64 r, .int .i64 c, .slice ao n cap], .int .i64 i, .int .i64 k, .slice vo L vc, .int .u64 tau] w' fun e w'' => ∃ g, e = .returned (.agg #[.int .i64 r, .int .i64 c, .slice (some ⟨g, 0, none⟩) n n]) ∧ w'.heap.size ≤ g ∧ RowB w'' g S ∧ Below w'.heap.size w' w'') :
    Calls Tryz.prog 14 #[.agg #[.int .i64 r, .int .i64 c, .slice ao n cap], .int .i64 i, .int .i64 k, .slice vo L vc, .int .u64 tau] w fun e w' => ∃ v, e = .returned (.tuple #[v, .int .i64 0]) ∧ NewM w.heap.size w' r c S v ∧ Below w.heap.size w w' := by
  have K := hide (C1 ((w.alloc (.cells #[.int .i64 r, .int .i64 c, .slice ao n cap] 36)).alloc (.cells #[.int .i64 0, .int .i64 0, .slice none 0 0] 36)))
  simp only [size_alloc9] at K
  have KB := hide (boxes2 w (.int .i64 r) (.int .i64 c) (.slice ao n cap) (.int .i64 0) (.int .i64 0) (.slice none 0 0))
  have K2 := hide C2; have HL := hide hl; have HS := hide hS
  have hw : IntKind.i64.wrap ((r : Int) - (L : Int)) = (r : Int) - (L : Int) := wrap_in _ (by omega)
  have h1 : (i : Int) ≤ (r : Int) - (L : Int) := by omega
  have h2 : (k : Int) ≤ (c : Int) := by omega
  clear C1 C2 hl hS
  go_enter Tryz.func14, Tryz.ntmps14
  go_wp2_with fail
  refine Calls.mono (unhide K) ?_
  rintro e w1 ⟨rfl, hb1⟩
  obtain ⟨hB, hA, hX⟩ := unhide KB w1 hb1
  clear K KB hb1
  have a0 := hA.c0; have a1 := hA.c1; have a2 := hA.c2
  have HB := hide hB; have HX := hide hX
  clear hB hA hX
  go_wp2_with fail
  clear a0 a1 a2
  refine (unhide K2 _ (unhide HB)).mono ?_
  rintro e w2 ⟨g, rfl, hg, hr, hb⟩
  have hB := (unhide HB).trans (hb.mono (unhide HB).size)
  have hX := (unhide HX).all hb
  have HG := hide (Nat.le_trans (unhide HB).size hg)
  have hr2 := hr.bits (unhide HS)
  have f0 := hX.free 0; have f1 := hX.free 1; have f2 := hX.free 2
  have s0 := hX.c0; have s1 := hX.c1; have s2 := hX.c2
  have XP := hX.put (.int .i64 r) (.int .i64 c) (.slice (some ⟨g, 0, none⟩) n n)
  have z0 := XP.c0; have z1 := XP.c1; have z2 := XP.c2
  have Q := hide (hr2.putM hX (.int .i64 r) (.int .i64 c) (.slice (some ⟨g, 0, none⟩) n n))
  have BP := hide (below_putM hB (b := w.heap.size + 1) (by omega) (.int .i64 r) (.int .i64 c) (.slice (some ⟨g, 0, none⟩) n n))
  clear hB hX hb hg hr hr2 XP HB HX K2
  go_wp2
  exact bodyPost_ret (v := .tuple #[.agg #[.int .i64 r, .int .i64 c, .slice (some ⟨g, 0, none⟩) n n], .int .i64 0]) (by simp [results, Tryz.results14, go_sem, z0, z1, z2]) rfl ⟨_, rfl, ⟨_, n, by rw [unhide HL], .inr ⟨g, 0, rfl, unhide HG⟩, by have := unhide Q; rwa [unhide HL] at this⟩, unhide BP⟩

theorem apM_lt {r c : Nat} {S : List Nat} (hS : ∀ p q, elM c S p q < 18446744073709551616) (i k : Nat) (vs : List Nat) (tau : Nat) : ∀ x ∈ apM r c S i k vs tau, x < 18446744073709551616 := by
  intro x hx
  unfold apM mkM at hx
  obtain ⟨p, _, rfl⟩ := List.mem_map.1 hx
  show (if _ then _ else _) < _
  split
  · rename_i g
    exact apL_lt c S i _ vs tau (by omega) hS
  · exact hS _ _

/-- A column as a part. -/
theorem pa_col (c : Nat) (S : List Nat) (i d n : Nat) : paM c S i d n 1 = colL c S i n d := by
  unfold paM mkM colL
  rw [Nat.mul_one]
  refine List.map_congr_left (fun p _ => ?_)
  show elM c S (i + p / 1) (d + p % 1) = _
  rw [Nat.div_one, Nat.mod_one, Nat.add_zero]

theorem hApply_ok (r c cap i k vc tau : Nat) (ao vo : Option Addr) (S vs : List Nat) (w : World) (h : Mx w ao cap r c S) (hV : BitsAt w vo vc (mxL vs)) (hi : i + vs.length ≤ r) (hk : k ≤ c) (ht : tau < 18446744073709551616) (hT : Tab w) :
    Calls Tryz.prog 14 #[.agg #[.int .i64 r, .int .i64 c, .slice ao S.length cap], .int .i64 i, .int .i64 k, .slice vo vs.length vc, .int .u64 tau] w fun e w' => ∃ v, e = .returned (.tuple #[v, .int .i64 0]) ∧ NewM w.heap.size w' r c (apM r c S i k vs tau) v ∧ Below w.heap.size w w' := by
  have h36 := h.small
  have r6 := h.2.2.1
  have c6 := h.2.2.2
  refine happly_of r c S.length cap i k vs.length vc tau ao vo (apM r c S i k vs tau) w r6 hi hk (by rw [apM_len, h.2.1]) (apM_lt (fun p q => h.el_lt p q) i k vs tau) (fun w' => ?_) (fun w' hb => ?_)
  · have := mcheck_any (r : Int) (c : Int) ao S.length cap w' (by omega)
    rw [if_pos (mx_ok h)] at this
    exact this
  have hM := h.below hb
  have hV' := hV.below hb
  have hT' := hT.all hb
  rw [← apJ_all r c S i k vs tau c (Nat.le_refl _)]
  refine mirrored_of r c S.length cap i k vs.length vc tau ao vo (fun d j => apJ r c S i k vs tau d j) (fun d => mxL (colL c S i vs.length d)) (fun d j => (i + j) * c + d) (fun d j => (apL c S i d vs tau).getD j 0) (fun d => mV tau (dtV 0 vs (colL c S i vs.length d))) w' h36 c6 r6 hi hk
    (by show BitsAt w' ao cap (mxL (apJ r c S i k vs tau k 0)); rw [apJ_0 r c S i k vs tau h.2.1]; exact hM.1) (fun d j => by rw [apJ_len, h.2.1]) (fun d => apJ_next r c S i k vs tau d)
    (fun d j hd hdc hj => ⟨by rw [h.2.1]; exact place_lt (by omega) hdc, rfl, apJ_set r c S hi hdc hd hj⟩) (fun w'' d hb2 hd hdc => ?_) (fun w'' d po pc hb2 hd hdc hX => ?_) (fun w'' d j po pc bx bt bv hb2 hd hdc hj hX hx ht' hv => ?_)
  · refine (mPart_ok r c cap i d vs.length 1 ao S w'' (hM.below hb2) hi (by omega)).mono ?_
    rintro e w3 ⟨v, rfl, ⟨po, pc, rfl, hn, hx⟩, hb3⟩
    rw [pa_col] at hn hx ⊢
    rw [colL_len]
    exact ⟨po, pc, rfl, hn, hx, hb3⟩
  · have I := himage_any po vo pc vc tau (colL c S i vs.length d) vs w'' hX (hV'.below hb2) (colL_len _ _ _ _ _) (by omega) ht (hT'.all hb2)
    rw [colL_len] at I
    exact I
  · have hV2 := hV'.below hb2
    have hT2 := hT'.all hb2
    obtain ⟨b1, o1, e1, _, z1⟩ := hX.ne (by rw [mxL_len, colL_len]; omega)
    obtain ⟨b2, o2, e2, _, z2⟩ := hV2.ne (by rw [mxL_len]; omega)
    subst e1
    subst e2
    have q1 := z1 j (by rw [mxL_len, colL_len]; exact hj)
    have q2 := z2 j (by rw [mxL_len]; exact hj)
    rw [mxL_at, colL_at c S i vs.length d hj] at q1
    rw [mxL_at] at q2
    have lv : vs.getD j 0 < 18446744073709551616 := by
      have := hV.lt j
      rwa [mxL_at] at this
    show Calls _ _ _ w'' fun e w3 => e = .returned (.int .u64 ((apL c S i d vs tau).getD j 0 : Nat)) ∧ _
    rw [apL_at c S i d vs tau hj]
    exact himage1_of _ _ _ (mV (mV tau (dtV 0 vs (colL c S i vs.length d))) (vs.getD j 0)) _ j vs.length vs.length pc vc bx bv bt b1 o1 b2 o2 w'' hj hj hx hv ht' q1 q2
      (fun w3 hb3 => vmul_any _ _ w3 (mV_lt _ _) lv (hT2.all hb3)) (fun w3 hb3 => psub_any _ _ w3 (h.el_lt _ _) (mV_lt _ _) (hT2.all hb3))

end Go.Proofs.YtimejpbmehegeaaGreatDoor

/- The law MatrixParts, walked. -/
namespace Go.Proofs.YtimejpbmehegeaaGreatDoor
open Go.RowKit
attribute [local go_sem ↓] Go.wp_at_zero Go.wp_at_succ

/-- A matrix that was answered: its box, its numbers, from block H on. -/
structure AnsAt (wr : World) (H g : Nat) (p q : Nat) (so : Option Addr) (sd : Nat) (S : List Nat) : Prop where
  box : BoxM wr g (.int .i64 p) (.int .i64 q) (.slice so S.length sd)
  bits : BitsAt wr so sd (mxL S)
  new : NewB H so (mxL S)
theorem AnsAt.all {wr w' : World} {H g p q : Nat} {so : Option Addr} {sd : Nat} {S : List Nat} (h : AnsAt wr H g p q so sd S) (hb : Below wr.heap.size wr w') : AnsAt w' H g p q so sd S := ⟨h.box.all hb, h.bits.below hb, h.new⟩
theorem AnsAt.put {wr : World} {H g p q : Nat} {so : Option Addr} {sd : Nat} {S : List Nat} (h : AnsAt wr H g p q so sd S) {b k : Nat} {z0 : Int} (hc : wr.cell? ⟨b, k, none⟩ = some (.int .u64 z0)) (hb : b < H) (z : Int) : AnsAt (wr.setCell ⟨b, k, none⟩ (.int .u64 z)) H g p q so sd S :=
  ⟨h.box.other (p := ⟨b, k, none⟩) (h.box.away hc) _, h.bits.far h.new hb k _, h.new⟩

theorem Mx.from {w : World} {ao : Option Addr} {cap p q : Nat} {I : List Int} (h : BitsAt w ao cap I) (ho : okB (p : Int) (q : Int) I.length = true) : Mx w ao cap p q (natL I) := by
  obtain ⟨p', q', e1, e2, hM, _⟩ := Mx.of h ho
  obtain rfl : p = p' := by omega
  obtain rfl : q = q' := by omega
  exact hM

end Go.Proofs.YtimejpbmehegeaaGreatDoor

/- The law HouseApplies, walked (mkht.py). -/
namespace Go.Proofs.YtimejpbmehegeaaGreatDoor
open Go.RowKit
attribute [local go_sem ↓] Go.wp_at_zero Go.wp_at_succ

/-- What holds while the law's copy is spoiled, and behind it. -/
structure HaSt (w wr : World) (H go ga : Nat) (r c : Int) (ao : Option Addr) (n cap : Nat) (i k : Int) (tau : Nat) (po : Option Addr) (pc p1 p2 : Nat) (so : Option Addr) (sd : Nat) (S : List Nat) : Prop where
  bel : Below w.heap.size w wr
  m : BoxM wr w.heap.size (.int .i64 r) (.int .i64 c) (.slice ao n cap)
  x : BoxT 38 wr (w.heap.size + 1) (.int .i64 i) (.int .i64 k) (.int .u64 (tau : Nat))
  own : BoxM wr go (.int .i64 r) (.int .i64 c) (.slice po n pc)
  copy : CopyB (w.heap.size + 1 + 1) H wr po n
  s : AnsAt wr H ga p1 p2 so sd S
theorem HaSt.all {w wr : World} {H go ga : Nat} {r c : Int} {ao : Option Addr} {n cap : Nat} {i k : Int} {tau : Nat} {po : Option Addr} {pc p1 p2 : Nat} {so : Option Addr} {sd : Nat} {S : List Nat} {w' : World} (h : HaSt w wr H go ga r c ao n cap i k tau po pc p1 p2 so sd S) (hb : Below wr.heap.size wr w') : HaSt w w' H go ga r c ao n cap i k tau po pc p1 p2 so sd S :=
  ⟨h.bel.trans (hb.mono h.bel.size), h.m.all hb, h.x.all hb, h.own.all hb, h.copy.below hb, h.s.all hb⟩
theorem HaSt.put {w wr : World} {H go ga : Nat} {r c : Int} {ao : Option Addr} {n cap : Nat} {i k : Int} {tau : Nat} {po : Option Addr} {pc p1 p2 : Nat} {so : Option Addr} {sd : Nat} {S : List Nat} (h : HaSt w wr H go ga r c ao n cap i k tau po pc p1 p2 so sd S) {j : Nat} (hj : j < n) : ∃ g z0, po = some ⟨g, 0, none⟩ ∧ wr.cell? ⟨g, j, none⟩ = some (.int .u64 z0) ∧ wr.frozen? ⟨g, j, none⟩ = false ∧ ∀ z, HaSt w (wr.setCell ⟨g, j, none⟩ (.int .u64 z)) H go ga r c ao n cap i k tau po pc p1 p2 so sd S := by
  obtain ⟨g, e1, e2, e3, e4⟩ := h.copy.resolve_left (by omega)
  obtain ⟨z0, cz⟩ := e4.cell hj
  exact ⟨g, z0, e1, cz, e4.free j, fun z => ⟨h.bel.setCell (p := ⟨g, j, none⟩) (by show w.heap.size ≤ g; omega) _, h.m.other (p := ⟨g, j, none⟩) (h.m.away cz) _, h.x.other (p := ⟨g, j, none⟩) (by show w.heap.size + 1 ≠ g; omega) _, h.own.other (p := ⟨g, j, none⟩) (h.own.away cz) _, h.copy.set g j z, h.s.put cz e3 z⟩⟩

set_option maxRecDepth 20000 in
set_option maxHeartbeats 16000000 in
theorem houseApplies_of (r c : Int) (ao : Option Addr) (cap : Nat) (I : List Int) (i k : Int) (tau : Nat) (vo : Option Addr) (vn vc : Nat) (p1 p2 : Nat) (S : List Nat) (f : Int) (ok inn : Bool) (w : World) (hI : BitsAt w ao cap I) (hl : I.length ≤ 17592186043904)
    (way : (ok = false ∧ f = 1 ∧ p1 = 0 ∧ p2 = 0 ∧ S = []) ∨ (ok = true ∧ inn = false ∧ f = 3 ∧ p1 = 0 ∧ p2 = 0 ∧ S = []) ∨ (ok = true ∧ inn = true ∧ f = 0)) (hS : S.length ≤ 36)
    (C2 : ∀ w' po pc, Below w.heap.size w w' → BitsAt w' po pc I → Calls Tryz.prog 14 #[.agg #[.int .i64 r, .int .i64 c, .slice po I.length pc], .int .i64 i, .int .i64 k, .slice vo vn vc, .int .u64 tau] w' fun e w'' => ∃ v, e = .returned (.tuple #[v, .int .i64 f]) ∧ NewM w'.heap.size w'' p1 p2 S v ∧ Below w'.heap.size w' w'')
    (C5 : okB r c I.length = ok)
    (C7 : ok = true → ∀ w', Calls Tryz.prog 16 #[.agg #[.int .i64 r, .int .i64 c, .slice ao I.length cap], .int .i64 i, .int .i64 k, .int .i64 (vn : Nat)] w' fun e w'' => e = .returned (.bool inn) ∧ Below w'.heap.size w' w'')
    (C8 : ok = true → inn = true → ∀ w', Below w.heap.size w w' → Calls Tryz.prog 18 #[.agg #[.int .i64 r, .int .i64 c, .slice ao I.length cap], .int .i64 i, .int .i64 k, .slice vo vn vc, .int .u64 tau] w' fun e w'' => ∃ v, e = .returned v ∧ NewM 0 w'' p1 p2 S v ∧ Below w'.heap.size w' w'')
    (CA : ∀ w', Below w.heap.size w w' → Calls Tryz.prog 12 #[] w' fun e w'' => e = .returned (.bool true) ∧ Below w'.heap.size w' w'') :
    Calls Tryz.prog 4 #[.agg #[.int .i64 r, .int .i64 c, .slice ao I.length cap], .agg #[.int .i64 i, .int .i64 k, .int .u64 (tau : Nat)], .slice vo vn vc] w fun e w' => e = .returned (.bool true) ∧ Below w.heap.size w w' := by
  have WAY := hide way; have HSl := hide hS
  have K2 := hide C2; have K7 := hide C7; have K8 := hide C8; have KA := hide CA
  have K5 := hide (fun w' => rright_any r c ao I.length cap w')
  have KZ := hide (fun w' ao cap => rsame_any 0 0 ao none cap 0 [] w' (BitsAt.nilAt w' _ _) (BitsAt.nilAt w' _ _) (by simp))
  simp only [List.length_nil] at KZ
  rw [C5] at K5
  have b0 := below_alloc9 w (.cells #[.int .i64 r, .int .i64 c, .slice ao I.length cap] 36)
  have s0 := size_alloc9 w (.cells #[.int .i64 r, .int .i64 c, .slice ao I.length cap] 36)
  have x0 := BoxM.new w (.int .i64 r) (.int .i64 c) (.slice ao I.length cap)
  have b1 := below_alloc9 (w.alloc (.cells #[.int .i64 r, .int .i64 c, .slice ao I.length cap] 36)) (.cells #[.int .i64 i, .int .i64 k, .int .u64 (tau : Nat)] 38)
  have z1 := size_alloc9 (w.alloc (.cells #[.int .i64 r, .int .i64 c, .slice ao I.length cap] 36)) (.cells #[.int .i64 i, .int .i64 k, .int .u64 (tau : Nat)] 38)
  have x1 := BoxT.new 38 (w.alloc (.cells #[.int .i64 r, .int .i64 c, .slice ao I.length cap] 36)) (.int .i64 i) (.int .i64 k) (.int .u64 (tau : Nat))
  rw [s0] at x1 z1
  have bb := b0.trans (b1.mono b0.size)
  have HX0 := hide (x0.all b1); have HX1 := hide x1; have HBB := hide bb; have HZ2 := hide z1
  have K1 := hide (rcopy_any r c ao cap I _ (hI.below bb) hl)
  have SAME := hide (fun base w' po pc (o : OwnB base w' (.slice po I.length pc) (natL I)) => o.same hI)
  have hl2 := hide (show I.length ≤ 35184372088830 by omega)
  clear b0 s0 x0 b1 x1 z1 bb hI hl way hS C2 C5 C7 C8 CA
  go_enter Tryz.func4, Tryz.ntmps4
  go_wp2_with fail
  refine Calls.mono (unhide K1) ?_
  rintro e w1 ⟨po, pc, rfl, own1, hb1⟩
  have bel1 := (unhide HBB).trans (hb1.mono (unhide HBB).size)
  have ba := below_alloc9 w1 (.cells #[.int .i64 r, .int .i64 c, .slice po I.length pc] 36)
  have Q1 := hide ((unhide SAME _ _ _ _ own1).below ba)
  have CP := hide (((own1.copy.base (Nat.le_refl _)).base (show w.heap.size + 1 + 1 ≤ _ by rw [unhide HZ2]; exact Nat.le_refl _)).below ba)
  have BX := hide (BoxM.new w1 (.int .i64 r) (.int .i64 c) (.slice po I.length pc))
  have A0 := hide (((unhide HX0).all hb1).all ba); have A1 := hide (((unhide HX1).all hb1).all ba)
  have B1 := hide (bel1.trans (ba.mono bel1.size))
  clear own1 hb1 bel1 ba K1 HX0 HX1 HBB SAME HZ2
  have e0 := (unhide A1).c0; have e1 := (unhide A1).c1; have e2 := (unhide A1).c2
  have y0 := (unhide BX).c0; have y1 := (unhide BX).c1; have y2 := (unhide BX).c2
  go_wp2_with fail
  refine (unhide K2 _ _ _ (unhide B1) (unhide Q1)).mono ?_
  rintro e w2 ⟨v, rfl, ⟨so, sd, rfl, ns, qs⟩, hb2⟩
  have zz := hide (size_alloc9 w1 (.cells #[.int .i64 r, .int .i64 c, .slice po I.length pc] 36))
  have ba := below_alloc9 w2 (.cells #[.int .i64 p1, .int .i64 p2, .slice so S.length sd] 36)
  have bel2 := (unhide B1).trans (hb2.mono (unhide B1).size)
  have ST := hide (show HaSt w (w2.alloc (.cells #[.int .i64 p1, .int .i64 p2, .slice so S.length sd] 36)) w1.heap.size w1.heap.size w2.heap.size r c ao I.length cap i k tau po pc p1 p2 so sd S from
    ⟨bel2.trans (ba.mono bel2.size), ((unhide A0).all hb2).all ba, ((unhide A1).all hb2).all ba, ((unhide BX).all hb2).all ba, ((unhide CP).below hb2).below ba, ⟨BoxM.new w2 _ _ _, qs.below ba, ns.least (by rw [unhide zz]; omega)⟩⟩)
  clear e0 e1 e2 y0 y1 y2 ns qs hb2 ba bel2 zz B1 A0 A1 BX CP Q1 K2
  have y0 := (unhide ST).own.c0; have y1 := (unhide ST).own.c1; have y2 := (unhide ST).own.c2
  generalize hg3 : w2.heap.size = g3 at *
  go_wp2_with fail
  clear y0 y1 y2
  generalize hn : I.length = n at *
  go_loopw [10] (fun a wr => ∃ j : Nat, j ≤ n ∧ a = .int .i64 j ∧ Hid (HaSt w wr w1.heap.size w1.heap.size g3 r c ao n cap i k tau po pc p1 p2 so sd S)) (fun a _ => n - (intOf a).toNat)
  case atStart => exact ⟨0, Nat.zero_le _, rfl, ST⟩
  case round =>
    clear ST
    obtain ⟨j, hj, rfl, hX⟩ := hrel
    have t2 := (unhide hX).own.c2
    by_cases hlt : j < n
    · have hkI : (j : Int) < (n : Int) := by omega
      have hn2 := unhide hl2
      obtain ⟨g, z0, rfl, cz, fz, put⟩ := (unhide hX).put hlt
      have PUT := hide (fun z => put z)
      clear put hX
      go_wp2_with fail
      go_region_with fail
      all_goals
        go_wp2_with fail
        go_round
        case rel => exact ⟨j + 1, by omega, by go_num, hide ((unhide PUT _).all (Below.refl _ _).drew)⟩
        case measure => simp [intOf]; omega
    · have hkk : n = j := by omega
      subst hkk
      have a0 := (unhide hX).m.c0; have a1 := (unhide hX).m.c1; have a2 := (unhide hX).m.c2
      have ST := hX
      clear hX
      go_wp2_with fail
      refine (unhide K5 _).mono ?_
      rintro e w5 ⟨rfl, hb⟩
      clear a0 a1 a2 t2
      replace ST := hide ((unhide ST).all hb)
      have a0 := (unhide ST).m.c0; have a1 := (unhide ST).m.c1; have a2 := (unhide ST).m.c2
      have e0 := (unhide ST).x.c0; have e1 := (unhide ST).x.c1; have e2 := (unhide ST).x.c2
      have s0' := (unhide ST).s.box.c0; have s1' := (unhide ST).s.box.c1; have s2' := (unhide ST).s.box.c2
      clear hb K5
      rcases unhide WAY with ⟨rfl, rfl, rfl, rfl, rfl⟩ | ⟨rfl, rfl, rfl, rfl, rfl, rfl⟩ | ⟨rfl, rfl, rfl⟩
      · clear WAY K7 K8
        simp only [List.length_nil] at s2'
        go_wp2_with fail
        refine (unhide KZ _ _ _).mono ?_
        rintro e w8 ⟨rfl, hb⟩
        have BE := hide ((unhide ST).bel.trans (hb.mono (unhide ST).bel.size))
        clear a0 a1 a2 e0 e1 e2 s0' s1' s2' hb ST
        go_wp2_with fail
        refine (unhide KA _ (unhide BE)).mono ?_
        rintro e w19 ⟨rfl, hb⟩
        replace BE := hide ((unhide BE).trans (hb.mono (unhide BE).size))
        clear hb
        go_wp2
        go_ret
        exact ⟨rfl, unhide BE⟩
      · clear WAY K8
        go_wp2_with fail
        refine (unhide K7 (by first | rfl | trivial) _).mono ?_
        rintro e w6 ⟨rfl, hb⟩
        clear a0 a1 a2 e0 e1 e2 s0' s1' s2'
        replace ST := hide ((unhide ST).all hb)
        have a0 := (unhide ST).m.c0; have a1 := (unhide ST).m.c1; have a2 := (unhide ST).m.c2
        have e0 := (unhide ST).x.c0; have e1 := (unhide ST).x.c1; have e2 := (unhide ST).x.c2
        have s0' := (unhide ST).s.box.c0; have s1' := (unhide ST).s.box.c1; have s2' := (unhide ST).s.box.c2
        clear hb K7
        simp only [List.length_nil] at s2'
        go_wp2_with fail
        refine (unhide KZ _ _ _).mono ?_
        rintro e w8 ⟨rfl, hb⟩
        have BE := hide ((unhide ST).bel.trans (hb.mono (unhide ST).bel.size))
        clear a0 a1 a2 e0 e1 e2 s0' s1' s2' hb ST
        go_wp2_with fail
        refine (unhide KA _ (unhide BE)).mono ?_
        rintro e w19 ⟨rfl, hb⟩
        replace BE := hide ((unhide BE).trans (hb.mono (unhide BE).size))
        clear hb
        go_wp2
        go_ret
        exact ⟨rfl, unhide BE⟩
      · clear WAY
        go_wp2_with fail
        refine (unhide K7 (by first | rfl | trivial) _).mono ?_
        rintro e w6 ⟨rfl, hb⟩
        clear a0 a1 a2 e0 e1 e2 s0' s1' s2'
        replace ST := hide ((unhide ST).all hb)
        have a0 := (unhide ST).m.c0; have a1 := (unhide ST).m.c1; have a2 := (unhide ST).m.c2
        have e0 := (unhide ST).x.c0; have e1 := (unhide ST).x.c1; have e2 := (unhide ST).x.c2
        have s0' := (unhide ST).s.box.c0; have s1' := (unhide ST).s.box.c1; have s2' := (unhide ST).s.box.c2
        clear hb K7
        go_wp2_with fail
        refine at_world (fun W => HaSt w W w1.heap.size w1.heap.size g3 r c ao n cap i k tau po pc p1 p2 so sd S) (unhide ST) ?_
        intro W st
        have ST := hide st
        have HK := hide (fun w' (h : Below W.heap.size W w') => (show Below W.heap.size W w' ∧ (w'.cell? ⟨w.heap.size, 0, none⟩ = some (.int .i64 r) ∧ w'.cell? ⟨w.heap.size, 1, none⟩ = some (.int .i64 c) ∧ w'.cell? ⟨w.heap.size, 2, none⟩ = some (.slice ao n cap)) ∧ (w'.cell? ⟨w.heap.size + 1, 0, none⟩ = some (.int .i64 i) ∧ w'.cell? ⟨w.heap.size + 1, 1, none⟩ = some (.int .i64 k) ∧ w'.cell? ⟨w.heap.size + 1, 2, none⟩ = some (.int .u64 (tau : Nat))) ∧ (w'.cell? ⟨g3, 0, none⟩ = some (.int .i64 p1) ∧ w'.cell? ⟨g3, 1, none⟩ = some (.int .i64 p2) ∧ w'.cell? ⟨g3, 2, none⟩ = some (.slice so S.length sd)) from
          have y := st.all h; ⟨h, ⟨y.m.c0, y.m.c1, y.m.c2⟩, ⟨y.x.c0, y.x.c1, y.x.c2⟩, y.s.box.c0, y.s.box.c1, y.s.box.c2⟩))
        have HW := hide (fun w' (h : Below W.heap.size W w') => st.bel.trans (h.mono st.bel.size))
        clear st a0 a1 a2 e0 e1 e2 s0' s1' s2'
        go_region_held3 (fun w' => Below W.heap.size W w' ∧ (w'.cell? ⟨w.heap.size, 0, none⟩ = some (.int .i64 r) ∧ w'.cell? ⟨w.heap.size, 1, none⟩ = some (.int .i64 c) ∧ w'.cell? ⟨w.heap.size, 2, none⟩ = some (.slice ao n cap)) ∧ (w'.cell? ⟨w.heap.size + 1, 0, none⟩ = some (.int .i64 i) ∧ w'.cell? ⟨w.heap.size + 1, 1, none⟩ = some (.int .i64 k) ∧ w'.cell? ⟨w.heap.size + 1, 2, none⟩ = some (.int .u64 (tau : Nat))) ∧ (w'.cell? ⟨g3, 0, none⟩ = some (.int .i64 p1) ∧ w'.cell? ⟨g3, 1, none⟩ = some (.int .i64 p2) ∧ w'.cell? ⟨g3, 2, none⟩ = some (.slice so S.length sd)))
          (first | exact unhide HK _ (Below.refl _ _).drew | exact unhide HK _ (by assumption) | fail "KK")
          (first | (go_at_call 18; refine (unhide K8 (by first | rfl | trivial) (by first | rfl | trivial) _ (unhide HW _ (And.left (by assumption)))).mono ?_; rintro e w5 ⟨v, rfl, ⟨uo, ud, rfl, _, qu⟩, hb5⟩; have hB5 : Below W.heap.size W w5 := Below.trans (And.left (by assumption)) (hb5.mono (Below.size (And.left (by assumption)))); have QU := hide qu; clear qu hb5 K8) | (go_at_call 17; refine (rsame_any _ _ _ _ _ _ S _ (by exact ((unhide ST).s.bits).below (And.left (by assumption))) (by exact unhide QU) (by have := unhide HSl; omega)).mono ?_; rintro e w6 ⟨rfl, hb6⟩; have hB6 : Below W.heap.size W w6 := Below.trans (And.left (by assumption)) (hb6.mono (Below.size (And.left (by assumption)))); clear hb6) | (go_at_call 12; refine (unhide KA _ (unhide HW _ (And.left (by assumption)))).mono ?_; rintro e w7 ⟨rfl, hb7⟩; have hB7 : Below W.heap.size W w7 := Below.trans (And.left (by assumption)) (hb7.mono (Below.size (And.left (by assumption)))); clear hb7) | fail "NO ARM")
        all_goals
          have BE := hide (unhide HW _ (And.left (by assumption)))
          go_wp2
          go_ret
          exact ⟨rfl, unhide BE⟩

end Go.Proofs.YtimejpbmehegeaaGreatDoor

/- The law HouseApplies, by what house.Apply answers. -/
namespace Go.Proofs.YtimejpbmehegeaaGreatDoor
open Go.RowKit

theorem inH_yes {r c : Nat} {i k n : Int} (h : inH r c i k n = true) : 0 ≤ i ∧ n ≤ (r : Int) ∧ i ≤ (r : Int) - n ∧ 0 ≤ k ∧ k ≤ (c : Int) := of_decide_eq_true h

theorem houseApplies_by (r c : Int) (ao : Option Addr) (cap : Nat) (I : List Int) (i k : Int) (tau : Nat) (vo : Option Addr) (vc : Nat) (J : List Int) (w : World) (hI : BitsAt w ao cap I) (hl : I.length ≤ 17592186043904) (hJ : BitsAt w vo vc J) (ht : tau < 18446744073709551616)
    (CF : ∀ w' po pc, Below w.heap.size w w' → BitsAt w' po pc I → okB r c I.length = false → Calls Tryz.prog 14 #[.agg #[.int .i64 r, .int .i64 c, .slice po I.length pc], .int .i64 i, .int .i64 k, .slice vo J.length vc, .int .u64 (tau : Nat)] w' fun e w'' => ∃ v, e = .returned (.tuple #[v, .int .i64 1]) ∧ NewM w'.heap.size w'' 0 0 [] v ∧ Below w'.heap.size w' w'')
    (CS : ∀ w' (p q : Nat) po pc, Below w.heap.size w w' → Mx w' po pc p q (natL I) → inH p q i k (J.length : Nat) = false → Calls Tryz.prog 14 #[.agg #[.int .i64 (p : Nat), .int .i64 (q : Nat), .slice po I.length pc], .int .i64 i, .int .i64 k, .slice vo J.length vc, .int .u64 (tau : Nat)] w' fun e w'' => ∃ v, e = .returned (.tuple #[v, .int .i64 3]) ∧ NewM w'.heap.size w'' 0 0 [] v ∧ Below w'.heap.size w' w'')
    (CP : ∀ w' r c cap ao S i k vo vc vs tau, Below w.heap.size w w' → Mx w' ao cap r c S → BitsAt w' vo vc (mxL vs) → i + vs.length ≤ r → k ≤ c → tau < 18446744073709551616 → Calls Tryz.prog 14 #[.agg #[.int .i64 (r : Nat), .int .i64 (c : Nat), .slice ao S.length cap], .int .i64 (i : Nat), .int .i64 (k : Nat), .slice vo vs.length vc, .int .u64 (tau : Nat)] w' fun e w'' => ∃ v, e = .returned (.tuple #[v, .int .i64 0]) ∧ NewM w'.heap.size w'' r c (apM r c S i k vs tau) v ∧ Below w'.heap.size w' w'')
    (CA : ∀ w', Below w.heap.size w w' → Calls Tryz.prog 12 #[] w' fun e w'' => e = .returned (.bool true) ∧ Below w'.heap.size w' w'') :
    Calls Tryz.prog 4 #[.agg #[.int .i64 r, .int .i64 c, .slice ao I.length cap], .agg #[.int .i64 i, .int .i64 k, .int .u64 (tau : Nat)], .slice vo J.length vc] w fun e w' => e = .returned (.bool true) ∧ Below w.heap.size w w' := by
  cases h : okB r c I.length
  · exact houseApplies_of r c ao cap I i k tau vo J.length vc 0 0 [] 1 false false w hI hl (.inl ⟨rfl, rfl, rfl, rfl, rfl⟩) (by simp) (fun w' po pc hb hx => CF w' po pc hb hx h) h (fun e => by cases e) (fun e => by cases e) CA
  · obtain ⟨p, q, rfl, rfl, hM, hS⟩ := Mx.of hI h
    have CI := fun w' => rin13_any p q I.length cap ao i k (J.length : Nat) w' hM.2.2.1 hM.2.2.2 (by omega)
    cases hn : inH p q i k (J.length : Nat)
    · rw [hn] at CI
      exact houseApplies_of p q ao cap I i k tau vo J.length vc 0 0 [] 3 true false w hI hl (.inr (.inl ⟨rfl, rfl, rfl, rfl, rfl, rfl⟩)) (by simp) (fun w' po pc hb hx => CS w' p q po pc hb (Mx.from hx h) hn) h (fun _ => CI) (fun _ e => by cases e) CA
    · rw [hn] at CI
      obtain ⟨h1, h2, h3, h4, h5⟩ := inH_yes hn
      obtain ⟨a, rfl⟩ := Int.eq_ofNat_of_zero_le h1
      obtain ⟨d, rfl⟩ := Int.eq_ofNat_of_zero_le h4
      have hv : BitsAt w vo vc (mxL (natL J)) := by rw [mxL_natL hJ]; exact hJ
      have e1 := natL_len I
      have e2 := natL_len J
      refine houseApplies_of p q ao cap I a d tau vo J.length vc p q (apM p q (natL I) a d (natL J) tau) 0 true true w hI hl (.inr (.inr ⟨rfl, rfl, rfl⟩)) ?_ (fun w' po pc hb hx => ?_) h (fun _ => CI) (fun _ _ w' hb => ?_) CA
      · rw [apM_len]; exact Nat.mul_le_mul hM.2.2.1 hM.2.2.2
      · have := CP w' p q pc po (natL I) a d vo vc (natL J) tau hb (Mx.from hx h) (hv.below hb) (by omega) (by omega) ht
        rw [e1, e2] at this
        exact this
      · have := rapply13_any p q cap a d tau ao vo vc (natL I) (natL J) w' (hM.below hb) (hv.below hb) (by omega) (by omega) ht
        rw [e1, e2] at this
        refine this.mono ?_
        rintro e w'' ⟨po, pc, rfl, b1, b2⟩
        refine ⟨_, rfl, ⟨po, pc, ?_, ?_, b1⟩, b2⟩
        · rw [apM_len, ← hM.2.1, e1]
        · by_cases hz : (mxL (apM p q (natL I) a d (natL J) tau)) = []
          · exact .inl hz
          · obtain ⟨b, off, e3, _⟩ := b1.ne (List.length_pos_iff.2 hz)
            exact .inr ⟨b, off, e3, Nat.zero_le _⟩

end Go.Proofs.YtimejpbmehegeaaGreatDoor

/- The laws of layer 13, walked. -/
namespace Go.Proofs.YtimejpbmehegeaaGreatDoor
open Go.RowKit

/-- What Make answers, at any later time. -/
theorem house_cm (w : World) (hT : Tab w) : ∀ w' ao c I, Below w.heap.size w w' → BitsAt w' ao c I → 1 ≤ I.length → I.length ≤ 64 → fnK I I.length = true → mrK (toN I) = true → Calls Tryz.prog 8 #[.slice ao I.length c] w' fun e w'' => ∃ vo vc, e = .returned (.tuple #[.slice vo I.length vc, .int .u64 (mrT (toN I) : Nat), .int .u64 (mrB (toN I) : Nat), .int .i64 0]) ∧ BitsAt w'' vo vc (mxL (mrV (toN I))) ∧ Below w'.heap.size w' w'' := by
  intro w' ao c I hb hI h1 h2 hf hk
  refine (hMake_ok ao c I w' hI h1 h2 hf hk (hT.all hb)).mono ?_
  rintro e w'' ⟨vo, vc, rfl, _, hv, hb2⟩
  exact ⟨vo, vc, rfl, hv, hb2⟩

theorem house_ca (w : World) (hT : Tab w) : ∀ w', Below w.heap.size w w' → Calls Tryz.prog 12 #[] w' fun e w'' => e = .returned (.bool true) ∧ Below w'.heap.size w' w'' := by
  intro w' hb
  have hT' := hT.all hb
  refine awake13_of (mrT [4613937818241073152, 4616189618054758400]) w' (fun w2 ao hb2 hI => ?_)
  obtain ⟨e1, e2, e3⟩ := mr_345
  have hn : toN [((4613937818241073152 : Nat) : Int), ((4616189618054758400 : Nat) : Int)] = [4613937818241073152, 4616189618054758400] := rfl
  have hf : fnK [((4613937818241073152 : Nat) : Int), ((4616189618054758400 : Nat) : Int)] 2 = true := by
    show ((true && fFin 4613937818241073152) && fFin 4616189618054758400) = true
    rw [w13_facts.2.1, w13_facts.2.2.2.2.2.2.2.2.2.2.2.2]
    rfl
  have M := house_cm w' hT' w2 ao 2 [((4613937818241073152 : Nat) : Int), ((4616189618054758400 : Nat) : Int)] hb2 hI (by decide) (by decide) hf (by rw [hn, e3])
  rw [hn, e1, e2] at M
  exact M

theorem house_cp (w : World) (hT : Tab w) : ∀ w' r c cap ao S i k vo vc vs tau, Below w.heap.size w w' → Mx w' ao cap r c S → BitsAt w' vo vc (mxL vs) → i + vs.length ≤ r → k ≤ c → tau < 18446744073709551616 → Calls Tryz.prog 14 #[.agg #[.int .i64 (r : Nat), .int .i64 (c : Nat), .slice ao S.length cap], .int .i64 (i : Nat), .int .i64 (k : Nat), .slice vo vs.length vc, .int .u64 (tau : Nat)] w' fun e w'' => ∃ v, e = .returned (.tuple #[v, .int .i64 0]) ∧ NewM w'.heap.size w'' r c (apM r c S i k vs tau) v ∧ Below w'.heap.size w' w'' :=
  fun w' r c cap ao S i k vo vc vs tau hb hM hV hi hk ht => hApply_ok r c cap i k vc tau ao vo S vs w' hM hV hi hk ht (hT.all hb)

theorem in_no {r c : Nat} {i k : Int} {L : Nat} (h : inH r c i k (L : Nat) = false) : i < 0 ∨ (0 ≤ i ∧ (r : Int) - (L : Int) < i) ∨ (0 ≤ i ∧ i ≤ (r : Int) - (L : Int) ∧ k < 0) ∨ (0 ≤ i ∧ i ≤ (r : Int) - (L : Int) ∧ 0 ≤ k ∧ (c : Int) < k) := by
  have g := of_decide_eq_false h
  omega

theorem houseApplies_walk (r c : Int) (ao : Option Addr) (cap : Nat) (I : List Int) (i k : Int) (tau : Nat) (vo : Option Addr) (vc : Nat) (J : List Int) (w : World) (hI : BitsAt w ao cap I) (hl : I.length ≤ 17592186043904) (_hr : -9223372036854775808 ≤ r ∧ r ≤ 9223372036854775807) (_hc : -9223372036854775808 ≤ c ∧ c ≤ 9223372036854775807) (_hi : -9223372036854775808 ≤ i ∧ i ≤ 9223372036854775807) (_hk : -9223372036854775808 ≤ k ∧ k ≤ 9223372036854775807) (ht : tau < 18446744073709551616) (hJ : BitsAt w vo vc J) (hlj : J.length ≤ 17592186043904) (hT : Tab w) :
    Calls Tryz.prog 4 #[.agg #[.int .i64 r, .int .i64 c, .slice ao I.length cap], .agg #[.int .i64 i, .int .i64 k, .int .u64 (tau : Nat)], .slice vo J.length vc] w fun e w' => e = .returned (.bool true) ∧ Below w.heap.size w w' := by
  refine houseApplies_by r c ao cap I i k tau vo vc J w hI hl hJ ht (fun w' po pc _ _ ho => ?_) (fun w' p q po pc _ hM hn => ?_) (house_cp w hT) (house_ca w hT)
  · refine happly_form r c po I.length pc i k vo J.length vc tau w' (fun w'' => ?_)
    have := mcheck_any r c po I.length pc w'' (by omega)
    rw [if_neg (by rw [ho]; decide)] at this
    exact this
  · have e := natL_len I
    have hs := hM.small
    have ho := mx_ok hM
    rw [e] at hs ho
    refine happly_shape p q po I.length pc i k vo J.length vc tau w' hM.2.2.1 hlj (in_no hn) (fun w'' => ?_)
    have := mcheck_any (p : Int) (q : Int) po I.length pc w'' (by omega)
    rw [if_pos ho] at this
    exact this

end Go.Proofs.YtimejpbmehegeaaGreatDoor

