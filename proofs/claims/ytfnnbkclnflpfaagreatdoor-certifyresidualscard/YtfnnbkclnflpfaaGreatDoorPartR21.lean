/- Part 21 of the texts. -/
import Derived.Test.YtfnnbkclnflpfaaGreatDoorPartR20
import Derived.OwnWalk
import Derived.Deep.RegionHeld3
import Derived.Deep.AppendLies
import Derived.Maps.AppendAt
import Derived.Test.YtfnnbkclnflpfaaGreatDoorPartR01
/- The reference's product of any two exact numbers, at their levels. Ahead of stage 11. -/
namespace Go.Proofs.YtfnnbkclnflpfaaGreatDoor
open Go.RowKit
attribute [local go_sem ↓] Go.wp_at_zero Go.wp_at_succ

set_option maxHeartbeats 2000000 in
theorem rmul_wide (na nb : Bool) (ao bo : Option Addr) (ca cb : Nat) (A B : List Nat) (x y : Int) (w : World) (hA : LimbsAt w ao ca A) (hB : LimbsAt w bo cb B) (la : A.length ≤ 512) (lb : B.length ≤ 512) (hz : (sval na A * sval nb B).natAbs < TOP) :
    Calls Tryz.prog 51 #[.agg #[.bool na, .slice ao A.length ca, .int .i64 x], .agg #[.bool nb, .slice bo B.length cb, .int .i64 y]] w fun r w' => ∃ v, r = .returned v ∧ IsDy w' v (oM (sval na A * sval nb B)) (if sval na A * sval nb B = 0 then 0 else IntKind.i64.wrap (IntKind.i64.wrap (x + y) + tz (sval na A * sval nb B).natAbs)) ∧ Below w.heap.size w w' := by
  have CM := hide (fun w' h h' => refMul_any na nb ao bo ca cb A B w' h h' (by omega) (by omega))
  have CO := hide (fun e' w' u B' (iu : IsNum B' w' u (sval na A * sval nb B)) (he : e' = IntKind.i64.wrap (x + y)) => show Calls Tryz.prog 48 #[u, .int .i64 e'] w' fun r w'' => ∃ u, r = .returned u ∧ IsDy w'' u (oM (sval na A * sval nb B)) (if sval na A * sval nb B = 0 then 0 else IntKind.i64.wrap (IntKind.i64.wrap (x + y) + tz (sval na A * sval nb B).natAbs)) ∧ Below w'.heap.size w' w'' by
    subst he
    exact rof_num _ (iu.toM hz) (by decide) (wrap_range _))
  clear hz
  generalize sval na A * sval nb B = z at *
  generalize (if z = 0 then 0 else IntKind.i64.wrap (IntKind.i64.wrap (x + y) + tz z.natAbs)) = ox at *
  generalize oM z = om at *
  have hb0 : Below w.heap.size w (((w.alloc (.cells #[.bool na, .slice ao A.length ca, .int .i64 x] 29)).alloc (.cells #[.bool nb, .slice bo B.length cb, .int .i64 y] 29)).alloc (.cells #[.bool false, .slice none 0 0, .int .i64 0] 29)) :=
    (((Below.refl _ _).alloc (Nat.le_refl _) _).alloc (by simp) _).alloc (by simp; omega) _
  have x0 : Box3 (((w.alloc (.cells #[.bool na, .slice ao A.length ca, .int .i64 x] 29)).alloc (.cells #[.bool nb, .slice bo B.length cb, .int .i64 y] 29)).alloc (.cells #[.bool false, .slice none 0 0, .int .i64 0] 29)) w.heap.size (.bool na) (.slice ao A.length ca) (.int .i64 x) := ((Box3.new _ _ _ _).old _).old _
  have x1 : Box3 (((w.alloc (.cells #[.bool na, .slice ao A.length ca, .int .i64 x] 29)).alloc (.cells #[.bool nb, .slice bo B.length cb, .int .i64 y] 29)).alloc (.cells #[.bool false, .slice none 0 0, .int .i64 0] 29)) (w.heap.size + 1) (.bool nb) (.slice bo B.length cb) (.int .i64 y) := by
    have := (Box3.new (w.alloc (.cells #[.bool na, .slice ao A.length ca, .int .i64 x] 29)) (.bool nb) (.slice bo B.length cb) (.int .i64 y)).old (.cells #[.bool false, .slice none 0 0, .int .i64 0] 29)
    simpa using this
  have x2 : Box3 (((w.alloc (.cells #[.bool na, .slice ao A.length ca, .int .i64 x] 29)).alloc (.cells #[.bool nb, .slice bo B.length cb, .int .i64 y] 29)).alloc (.cells #[.bool false, .slice none 0 0, .int .i64 0] 29)) (w.heap.size + 1 + 1) (.bool false) (.slice none 0 0) (.int .i64 0) := by
    have := Box3.new ((w.alloc (.cells #[.bool na, .slice ao A.length ca, .int .i64 x] 29)).alloc (.cells #[.bool nb, .slice bo B.length cb, .int .i64 y] 29)) (.bool false) (.slice none 0 0) (.int .i64 0)
    simpa using this
  have B0 := hide hb0; have X0 := hide x0; have X1 := hide x1; have X2 := hide x2
  clear hb0 x0 x1 x2
  go_enter Tryz.func51, Tryz.ntmps51
  go_wp2_with fail
  refine at_world (fun W => Below w.heap.size w W ∧ Box3 W w.heap.size (.bool na) (.slice ao A.length ca) (.int .i64 x) ∧ Box3 W (w.heap.size + 1) (.bool nb) (.slice bo B.length cb) (.int .i64 y) ∧ Box3 W (w.heap.size + 1 + 1) (.bool false) (.slice none 0 0) (.int .i64 0)) ⟨unhide B0, unhide X0, unhide X1, unhide X2⟩ ?_
  clear B0 X0 X1 X2
  rintro W0 ⟨b0, x0, x1, x2⟩
  have s0 : w.heap.size + 1 + 1 < W0.heap.size := x2.lt
  have hK : ∀ w', Below (w.heap.size + 1 + 1) W0 w' → Below (w.heap.size + 1 + 1) W0 w' ∧ w'.cell? ⟨w.heap.size, 0, none⟩ = some (.bool na) ∧ w'.cell? ⟨w.heap.size, 1, none⟩ = some (.slice ao A.length ca) ∧ w'.cell? ⟨w.heap.size, 2, none⟩ = some (.int .i64 x) ∧ w'.cell? ⟨w.heap.size + 1, 0, none⟩ = some (.bool nb) ∧ w'.cell? ⟨w.heap.size + 1, 1, none⟩ = some (.slice bo B.length cb) ∧ w'.cell? ⟨w.heap.size + 1, 2, none⟩ = some (.int .i64 y) := fun w' h =>
    ⟨h, (x0.below h (by omega)).c0, (x0.below h (by omega)).c1, (x0.below h (by omega)).c2, (x1.below h (by omega)).c0, (x1.below h (by omega)).c1, (x1.below h (by omega)).c2⟩
  have HK := hide hK; have BB := hide b0; have X2 := hide x2
  clear hK b0 x0 x1 x2
  go_region_held3 (fun w' => Below (w.heap.size + 1 + 1) W0 w' ∧ w'.cell? ⟨w.heap.size, 0, none⟩ = some (.bool na) ∧ w'.cell? ⟨w.heap.size, 1, none⟩ = some (.slice ao A.length ca) ∧ w'.cell? ⟨w.heap.size, 2, none⟩ = some (.int .i64 x) ∧ w'.cell? ⟨w.heap.size + 1, 0, none⟩ = some (.bool nb) ∧ w'.cell? ⟨w.heap.size + 1, 1, none⟩ = some (.slice bo B.length cb) ∧ w'.cell? ⟨w.heap.size + 1, 2, none⟩ = some (.int .i64 y))
    (first | exact unhide HK _ (Below.refl _ _).drew | exact unhide HK _ (by assumption) | exact unhide HK _ (below_put3 hB2 (by omega) _ _ _))
    (first | (go_at_call 96; refine (unhide CM _ (hA.below ((unhide BB).trans ((Below.refl _ _).drew))) (hB.below ((unhide BB).trans ((Below.refl _ _).drew)))).mono ?_; rintro e w3 ⟨v, rfl, ⟨n4, a4, c4, L4, rfl, i4⟩, hb1⟩; have hB1 : Below (w.heap.size + 1 + 1) W0 w3 := ((Below.refl _ _).drew).trans (hb1.mono (by simp; omega)); have X3 := hide ((unhide X2).drew.below hb1 (by simp; omega)); have IZ := hide (show IsNum 0 w3 (.agg #[.bool n4, .slice a4 L4.length c4]) z from ⟨n4, a4, c4, L4, rfl, i4⟩); have s1 := hb1.size; have BB1 := hide ((unhide BB).trans (hB1.mono (by omega))); clear hb1 i4) | (go_at_call 48; refine (unhide CO _ _ _ _ (unhide IZ) (by first | rfl | exact (wrap64_is _))).mono ?_; rintro e w4 ⟨u, rfl, iu, hb2⟩; obtain ⟨n5, a5, c5, L5, rfl, i5⟩ := iu.num; have hB2 : Below (w.heap.size + 1 + 1) W0 w4 := hB1.trans (hb2.mono (by simp at s1; omega)); have X4 := (unhide X3).below hb2 (by simp at s1; omega); have y0 := X4.c0; have y1 := X4.c1; have y2 := X4.c2; have f0 := X4.free 0; have f1 := X4.free 1; have f2 := X4.free 2; have IU := hide iu; have X5 := hide X4; have BB2 := hide ((unhide BB1).trans (hb2.mono (by simp at s1; omega))); clear hb2 iu i5 X4))
  go_wp2
  refine bodyPost_ret (v := .agg #[.bool n5, .slice a5 L5.length c5, .int .i64 ox]) (by simp [results, Tryz.results51, go_sem, y0, y1, y2]) rfl ⟨_, rfl, (unhide IU).put3 (unhide X5) _ _ _, below_put3 (unhide BB2) (by omega) _ _ _⟩

/-- The product of two numbers at their levels. -/
theorem rmulL {w : World} {v u : Value} {lo1 lo2 : Int} {W1 W2 : Nat} {z1 z2 : Int} (hv : IsLv w v lo1 z1) (hu : IsLv w u lo2 z2) (h1 : Lvl lo1 W1 z1) (h2 : Lvl lo2 W2 z2) (hW : W1 + W2 ≤ 16384) :
    Calls Tryz.prog 51 #[v, u] w fun r w' => ∃ q, r = .returned q ∧ IsLv w' q (lo1 + lo2) (z1 * z2) ∧ Below w.heap.size w w' := by
  unfold IsLv at *
  have hb : ∀ {z lo : Int} {W : Nat}, Lvl lo W z → -16384 ≤ oE z lo ∧ oE z lo ≤ 16384 := fun {z lo W} h => by
    by_cases z0 : z = 0
    · rw [z0, oE_zero]; decide
    · have := h.tzs z0
      have := h.2
      rw [oE_ne _ _ z0]; omega
  have b1 := hb h1
  have b2 := hb h2
  obtain ⟨na, ao, ca, A, rfl, a1, a2, a3, a4, a5⟩ := hv.right h1.right.2
  obtain ⟨nb, bo, cb, B, rfl, c1, c2, c3, c4, c5⟩ := hu.right h2.right.2
  have hw : (oM z1 * oM z2).natAbs < 2 ^ (W1 + W2) := by
    rw [Int.natAbs_mul]
    exact Nat.lt_of_le_of_lt (Nat.mul_le_mul (oM_le z1) (oM_le z2)) (mul_lt_pow h1.1 h2.1)
  have ho : (oM z1 * oM z2).natAbs < TOP := lt_TOP hw hW
  have := rmul_wide na nb ao bo ca cb A B (oE z1 lo1) (oE z2 lo2) w a1 c1 a4 c4 (by rw [a3, c3]; exact ho)
  rw [a3, c3] at this
  by_cases e1 : z1 = 0
  · subst e1
    rw [oM_zero, Int.zero_mul, oM_zero, if_pos rfl] at this
    rw [Int.zero_mul, oM_zero, oE_zero]
    exact this
  by_cases e2 : z2 = 0
  · subst e2
    rw [oM_zero, Int.mul_zero, oM_zero, if_pos rfl] at this
    rw [Int.mul_zero, oM_zero, oE_zero]
    exact this
  obtain ⟨m1, m2⟩ := mul_level7 z1 z2 lo1 lo2 e1 e2 (oE_ge _ _ e1) (oE_ge _ _ e2)
  have o1 := (oM_ne z1 e1).1
  have o2 := (oM_ne z2 e2).1
  have o0 : oM z1 * oM z2 ≠ 0 := Int.mul_ne_zero o1 o2
  have ht : tz (oM z1 * oM z2).natAbs < W1 + W2 := tz_lt _ (W1 + W2) (by omega) hw
  rw [if_neg o0, wrap_small (oE z1 lo1 + oE z2 lo2) (by omega), wrap_small _ (by omega), ← oE_ne _ (oE z1 lo1 + oE z2 lo2) o0] at this
  rw [m1, m2]
  exact this

end Go.Proofs.YtfnnbkclnflpfaaGreatDoor

/- Lists of bits that a call itself makes; the reference's Times and Axpy. -/
namespace Go.Proofs.YtfnnbkclnflpfaaGreatDoor
open Go.RowKit
attribute [local go_sem ↓] Go.wp_at_zero Go.wp_at_succ

theorem infoBits : (Tryz.prog.info? 52).map (fun i => (i.zero, i.size, i.bytes)) = some (some (.int .u64 0), 1, 8) := by kernel_rfl

/-- v is a list S of the call's own. -/
def OwnB (base : Nat) (w : World) (v : Value) (S : List Nat) : Prop := w.ownsRow base 52 1 v S.length (S.map bitV) ∧ ∀ x ∈ S, x < 18446744073709551616
theorem OwnB.below {base : Nat} {w w' : World} {v : Value} {S : List Nat} (h : OwnB base w v S) (hb : Below w.heap.size w w') : OwnB base w' v S :=
  ⟨h.1.kept (row := none) ⟨hb.os, hb.tape, hb.output, hb.size, fun k hk _ => hb.block k hk⟩ (by cases hv : v.ownBlock <;> simp), h.2⟩
theorem OwnB.bits {base : Nat} {w : World} {v : Value} {S : List Nat} (h : OwnB base w v S) : ∃ ao cap, v = .slice ao S.length cap ∧ BitsAt w ao cap (S.map (fun x : Nat => (x : Int))) := by
  have hl : (S.map bitV).length = S.length := by simp
  have hf : ∀ x ∈ S.map (fun x : Nat => (x : Int)), 0 ≤ x ∧ x ≤ 18446744073709551615 := by
    intro x hx
    obtain ⟨y, hy, rfl⟩ := List.mem_map.1 hx
    have := h.2 y hy
    omega
  rcases h.1.2 with ⟨hv, h0⟩ | ⟨g, cap, cur, hv, hg, hh, hc, hm, hs, ht⟩
  · have : S = [] := List.length_eq_zero_iff.1 (by omega)
    subst this
    exact ⟨none, 0, hv, ⟨by simp, by simp, .inl rfl⟩⟩
  · refine ⟨some ⟨g, 0, none⟩, cap, hv, ⟨by simp; omega, hf, .inr ⟨g, 0, rfl, (Array.getElem?_eq_some_iff.1 hh).1, fun i hi => ?_⟩⟩⟩
    have hi' : i < S.length := by simpa using hi
    have q : (S.map bitV)[i]? = some (.int .u64 ((S[i] : Nat) : Int)) := by
      rw [List.getElem?_map, List.getElem?_eq_getElem hi']; rfl
    rw [← ht, List.getElem?_take, if_pos (by omega)] at q
    rw [cell_of_row w g _ _ _ _ hh, Nat.zero_add]
    have e : (S.map (fun x : Nat => (x : Int)))[i]?.getD 0 = ((S[i] : Nat) : Int) := by simp [hi']
    rw [e]
    simpa using q
theorem OwnB.nil (w : World) (base : Nat) (h : base ≤ w.heap.size) : OwnB base (w.alloc (.cells #[] 52)) (.slice (some ⟨w.heap.size, 0, none⟩) 0 0) [] :=
  ⟨World.ownsRow_made w #[] 0 h (by simp [maxLen]) (by simp), by simp⟩
theorem OwnB.snoc {base : Nat} {w : World} {v : Value} {S : List Nat} {x n : Nat} (hn : n = S.length) (h : w.ownsRow base 52 1 v (n + 1) (S.map bitV ++ [.int .u64 (x : Int)])) (hS : ∀ x ∈ S, x < 18446744073709551616) (hx : x < 18446744073709551616) : OwnB base w v (S ++ [x]) := by
  subst hn
  refine ⟨by simpa [bitV] using h, fun y hy => ?_⟩
  rcases List.mem_append.1 hy with h1 | h1
  · exact hS y h1
  · simp at h1; subst h1; exact hx

/-- The first k places of what f makes. -/
def fsL (f : Nat → Nat) (k : Nat) : List Nat := (List.range k).map f
theorem fsL_len (f : Nat → Nat) (k : Nat) : (fsL f k).length = k := by simp [fsL]
theorem fsL_succ (f : Nat → Nat) (k : Nat) : fsL f (k + 1) = fsL f k ++ [f k] := by simp [fsL, List.range_succ]
end Go.Proofs.YtfnnbkclnflpfaaGreatDoor

/- One number more onto a list of the call's own. -/
namespace Go.Proofs.YtfnnbkclnflpfaaGreatDoor
open Go.RowKit

/-- An append whose run is known. -/
theorem wpList_append_ran {P : Program} (w : World) {ops : Array Oper} {rest : List Oper} {o : Oper} {a : Act} {Q : Exit → Act → World → Prop} (hgd : o.guard = none) (s x : Operand) (t : TypeId)
    (ho : o.op = .call { callee := .builtin .append, args := #[s, x], argTypes := #[t, t] }) (v1 v2 v' : Value) (w' : World) (hs : a.eval s = v1) (hx : a.eval x = v2)
    (hr : (Builtin.append_ #[t, t] o.type #[v1, v2]).run P w = .ok v' w') (h : wpList P ops Q rest (a.put o.dst v') w') : wpList P ops Q (o :: rest) a w :=
  wpList_plain hgd fun _ hK => by
    unfold Oper.wp execOp
    simp only [ho, resolve, invoke, builtin, Sem.run_bind, Sem.run_pure, Result.andThen_ok, List.map_toArray, List.map_cons, List.map_nil, hs, hx, hr]
    exact hK _ _ h

/-- Two lists of one's own lie apart. -/
def Apart (v u : Value) : Prop := ∀ g, v.ownBlock = some g → u.ownBlock ≠ some g
theorem Apart.symm {v u : Value} (h : Apart v u) : Apart u v := fun g h1 h2 => h g h2 h1

/-- The number x behind a list of one's own: what append does. -/
theorem OwnB.push {base : Nat} {w : World} {v : Value} {S : List Nat} (h : OwnB base w v S) (x : Nat) (hx : x < 18446744073709551616) (hl : S.length ≤ 1000000) (hb : base ≤ w.heap.size) (ty : TypeId) :
    ∃ v' w', (Builtin.append_ #[22, 22] ty #[v, .slice (some ⟨w.heap.size, 0, none⟩) 1 1]).run Tryz.prog (w.alloc (.cells #[.int .u64 (x : Int)] 52)) = .ok v' w' ∧ OwnB base w' v' (S ++ [x]) ∧ Below base w w' ∧
      (∀ u T, OwnB base w u T → Apart v u → OwnB base w' u T ∧ Apart v' u) ∧ (∀ ao c I, BitsAt w ao c I → (I = [] ∨ ∃ b off, ao = some ⟨b, off, none⟩ ∧ v.ownBlock ≠ some b) → BitsAt w' ao c I) := by
  obtain ⟨i0, hi, hz0, hz1, hz2⟩ := info_parts infoBits
  obtain ⟨v', w', e1, e2, e3, e4, e5⟩ := run_append_own_at (P := Tryz.prog) (w.alloc (.cells #[.int .u64 (x : Int)] 52)) base 22 ty 52 i0 (.int .u64 0) 1 8 Tryz.underlying22 hi hz0 hz1 hz2 rfl (by decide) v S.length (S.map bitV) (h.1.alloc _) ⟨w.heap.size, 0, none⟩ 1 1 [.int .u64 (x : Int)] rfl (cell_one_new _ _ _) (fun u hu => by simp at hu; subst hu; rfl) (by unfold maxLen; omega) (by omega) (by simp; omega)
  have hn : OwnB base w' v' (S ++ [x]) := OwnB.snoc rfl e2 h.2 hx
  refine ⟨v', w', e1, hn, ((below_alloc9 w _).mono hb).grown e3 (by simp; omega) (fun g hg => (h.1.lt g hg).1), ?_, ?_⟩
  · intro u T hu ha
    refine ⟨⟨(hu.1.alloc _).kept e3 ?_, hu.2⟩, ?_⟩
    · cases hv : u.ownBlock with
      | none => exact .inl rfl
      | some g =>
        right
        intro e
        exact ha g e.symm hv
    · intro g hg hg2
      rcases e5 with e5 | e5
      · exact ha g (by rw [← e5]; exact hg) hg2
      · rw [hg] at e5
        have h1 := (hu.1.lt g hg2).2
        simp at e5
        omega
  · intro ao c I hI hn2
    have hA := hI.below (below_alloc9 w (.cells #[.int .u64 (x : Int)] 52))
    refine ⟨hA.1, hA.2.1, ?_⟩
    rcases hA.2.2 with e | ⟨b, off, f1, f2, f3⟩
    · exact .inl e
    rcases hn2 with e | ⟨b', off', g1, g2⟩
    · exact .inl e
    rw [f1] at g1
    simp only [Option.some.injEq, Addr.mk.injEq] at g1
    obtain ⟨rfl, rfl, _⟩ := g1
    refine .inr ⟨b, off, f1, Nat.lt_of_lt_of_le f2 e3.size, fun i hi => ?_⟩
    exact e3.cell (f3 i hi) (fun e => g2 e.symm)

end Go.Proofs.YtfnnbkclnflpfaaGreatDoor

/- Rows of exact numbers that a call itself makes by appending: no limb lies in such a row. -/
namespace Go.Proofs.YtfnnbkclnflpfaaGreatDoor
open Go.RowKit

/-- Is a cell no limb? -/
def noLimb : Value → Bool
  | .int .u32 _ => false
  | _ => true

/-- The block that v lies in holds no limb. -/
def Clear (w : World) (v : Value) : Prop := ∀ g, v.ownBlock = some g → ∃ cur e, w.heap[g]? = some (.cells cur e (0, 0)) ∧ ∀ u ∈ cur.toList, noLimb u = true

theorem Clear.below {w w' : World} {v : Value} (h : Clear w v) (hb : Below w.heap.size w w') : Clear w' v := by
  intro g hg
  obtain ⟨cur, e, h1, h2⟩ := h g hg
  exact ⟨cur, e, (hb.block g (Array.getElem?_eq_some_iff.1 h1).1).trans h1, h2⟩

theorem Clear.alloc {w : World} {v : Value} (h : Clear w v) (o : Obj) : Clear (w.alloc o) v := h.below ((Below.refl _ _).alloc (Nat.le_refl _) o)

theorem Clear.nil (w : World) (n c : Nat) : Clear w (.slice none n c) := fun g hg => by cases hg

/-- Limbs lie elsewhere. -/
theorem Clear.limbs {w : World} {v : Value} (h : Clear w v) {ao : Option Addr} {cap : Nat} {L : List Nat} (hL : LimbsAt w ao cap L) : L = [] ∨ ∃ b off, ao = some ⟨b, off, none⟩ ∧ b < w.heap.size ∧ some b ≠ v.ownBlock ∧ ∀ i, i < L.length → w.cell? ⟨b, off + i, none⟩ = some (.int .u32 ((L[i]?.getD 0 : Nat) : Int)) := by
  rcases hL.2.2 with e | ⟨b, off, h1, h2, h3⟩
  · exact .inl e
  · by_cases he : L = []
    · exact .inl he
    · refine .inr ⟨b, off, h1, h2, fun hb => ?_, h3⟩
      obtain ⟨cur, e, g1, g2⟩ := h b hb.symm
      have hp : 0 < L.length := List.length_pos_iff.2 he
      have h4 := h3 0 hp
      rw [cell_of_row w b (off + 0) _ _ _ g1] at h4
      have hm := Array.mem_of_getElem? h4
      have := g2 _ (Array.mem_toList_iff.2 hm)
      cases this

/-- Limbs stay where that row grows. -/
theorem LimbsAt.grownClear {w w' : World} {v : Value} {ao : Option Addr} {cap : Nat} {L : List Nat} (hL : LimbsAt w ao cap L) (h : Clear w v) (hg : w.grownBy w' v.ownBlock) : LimbsAt w' ao cap L := by
  refine ⟨hL.1, hL.2.1, ?_⟩
  rcases h.limbs hL with e | ⟨b, off, h1, h2, h3, h4⟩
  · exact .inl e
  · refine .inr ⟨b, off, h1, Nat.lt_of_lt_of_le h2 hg.size, fun i hi => ?_⟩
    rw [World.cell?_of_block (a := ⟨b, off + i, none⟩) (hg.block b h2 h3)]
    exact h4 i hi

theorem IsNum.grownClear {B : Nat} {w w' : World} {v u : Value} {z : Int} (hu : IsNum B w u z) (h : Clear w v) (hg : w.grownBy w' v.ownBlock) : IsNum B w' u z := by
  obtain ⟨neg, ao, cap, L, h1, h2, h3⟩ := hu
  exact ⟨neg, ao, cap, L, h1, h2.grownClear h hg, h3⟩

theorem IsLv.grownClear {w w' : World} {v u : Value} {lo z : Int} (hu : IsLv w u lo z) (h : Clear w v) (hg : w.grownBy w' v.ownBlock) : IsLv w' u lo z := by
  obtain ⟨neg, ao, cap, L, h1, h2⟩ := hu
  exact ⟨neg, ao, cap, L, h1, h2.grownClear h hg⟩

theorem noLimb_zeroCells (z : Array Value) (n : Nat) (h : ∀ u ∈ z.toList, noLimb u = true) : ∀ u ∈ (Builtin.zeroCells z n).toList, noLimb u = true := by
  intro u hu
  unfold Builtin.zeroCells at hu
  rw [Array.mem_toList_iff, Array.mem_map] at hu
  obtain ⟨i, hi, rfl⟩ := hu
  have hi' : i < n * z.size := by simpa using hi
  have hz : 0 < z.size := by
    rcases Nat.eq_zero_or_pos z.size with e | e
    · rw [e] at hi'; simp at hi'
    · exact e
  have hlt : i % z.size < z.size := Nat.mod_lt _ hz
  rw [getElem!_pos z (i % z.size) hlt]
  exact h _ (Array.mem_toList_iff.2 (Array.getElem_mem hlt))

/-- An append onto such a row: it stays one. -/
theorem run_append_clear {P : Program} (w : World) (base : Nat) (t ty e : TypeId) (i : TypeInfo) (z : Value) (size bytes : Nat) (ht : P.underlying t = some (.slice e)) (hi : P.info? e = some i) (hz : i.zero = some z)
    (hsize : i.size = size) (hby : i.bytes = bytes) (hzs : z.cells.size = size) (hsz : 0 < size)
    (v : Value) (n : Nat) (xs : List Value) (hown : w.ownsRow base e size v n xs)
    (a : Addr) (m c : Nat) (news : List Value) (hl : news.length = m * size) (hnews : ∀ j u, news[j]? = some u → w.cell? (a.add j) = some u) (h1 : ∀ u ∈ news, u.oneCell' = true)
    (h63 : n + m ≤ maxLen) (hbytes : (n + m) * bytes ≤ 140737488355328) (hbase : base ≤ w.heap.size) (hm : 0 < m)
    (hcl : Clear w v) (hzc : ∀ u ∈ z.cells.toList, noLimb u = true) (hnc : ∀ u ∈ news, noLimb u = true) :
    ∃ v' w', (Builtin.append_ #[t, t] ty #[v, .slice (some a) m c]).run P w = .ok v' w' ∧ w'.ownsRow base e size v' (n + m) (xs ++ news) ∧ w.grownBy w' v.ownBlock ∧
      (v'.ownBlock = v.ownBlock ∨ v'.ownBlock = some w.heap.size) ∧ Clear w' v' := by
  obtain ⟨v', w', e1, e2, e3, _, e5⟩ := run_append_own_at (P := P) w base t ty e i z size bytes ht hi hz hsize hby hzs hsz v n xs hown a m c news hl hnews h1 h63 hbytes hbase
  refine ⟨v', w', e1, e2, e3, e5, ?_⟩
  subst hsize
  subst hby
  have hsmall : n + m ≤ 9223372036854775807 := by simp only [maxLen] at h63; omega
  have hzz := fun k => noLimb_zeroCells z.cells k hzc
  have hx : ∀ u ∈ xs, noLimb u = true := by
    rcases hown.2 with ⟨rfl, rfl⟩ | ⟨g, cap, cur, rfl, _, hg, _, _, _, htake⟩
    · intro u hu
      have : xs = [] := List.eq_nil_of_length_eq_zero (by simpa using hown.1)
      rw [this] at hu
      cases hu
    · intro u hu
      obtain ⟨cur', e', g1, g2⟩ := hcl g rfl
      rw [hg] at g1
      cases g1
      rw [← htake] at hu
      exact g2 u (List.mem_of_mem_take hu)
  rcases hown.2 with ⟨rfl, rfl⟩ | ⟨g, cap, cur, rfl, hbg, hg, hnc', hcm, hcs, htake⟩
  · have hr := run_append_nil (P := P) w t ty e i z ht hi hz a m c news hl hnews hm (by omega) (by have hb := hbytes; simp only [Nat.zero_add] at hb; omega)
    rw [e1] at hr
    cases hr
    intro g hg
    cases hg
    refine ⟨_, e, heap_alloc_new w.drew _, fun u hu => ?_⟩
    simp only [Array.toList_append, List.mem_append] at hu
    rcases hu with hu | hu
    · exact hnc u (by simpa using hu)
    · exact hzz _ u hu
  · by_cases hroom : n + m ≤ cap
    · have hfit : n * i.size + news.length ≤ cur.size := by rw [hl, hcs, ← Nat.add_mul]; exact Nat.mul_le_mul_right _ hroom
      have hr := run_append_room (P := P) w t ty e i ht hi g n cap cur hg a m c news hl hnews h1 hroom hfit
      rw [e1] at hr
      cases hr
      intro k hk
      cases hk
      refine ⟨_, e, setRow_heap w g cur _ e _ hg, fun u hu => ?_⟩
      obtain ⟨cur', e', g1, g2⟩ := hcl g rfl
      rw [hg] at g1
      cases g1
      simp only [List.mem_append] at hu
      rcases hu with (hu | hu) | hu
      · exact g2 u (List.mem_of_mem_take hu)
      · exact hnc u hu
      · exact g2 u (List.mem_of_mem_drop hu)
    · have holds : ∀ j u, xs[j]? = some u → w.cell? ((⟨g, 0, none⟩ : Addr).add j) = some u := hown.cells (g := g) rfl
      have hr := run_append_grow (P := P) w t ty e i z ht hi hz ⟨g, 0, none⟩ n cap xs hown.1 holds a m c news hl hnews (by omega) (by omega) (growslice_fits (by omega) hbytes)
      rw [e1] at hr
      cases hr
      intro k hk
      cases hk
      refine ⟨_, e, heap_alloc_new w.drew _, fun u hu => ?_⟩
      simp only [Array.toList_append, List.mem_append] at hu
      rcases hu with (hu | hu) | hu
      · exact hx u (by simpa using hu)
      · exact hnc u (by simpa using hu)
      · exact hzz _ u hu

end Go.Proofs.YtfnnbkclnflpfaaGreatDoor

/- Determinants by the first row, over whole numbers: rows are functions of the column, columns a list. No program. -/
namespace Go.Proofs.YtfnnbkclnflpfaaGreatDoor

/-- The sum over the places of cs, the sign turning: r there, times D of the rest. -/
def exD (r : Nat → Int) : List Nat → (List Nat → Int) → Int
  | [], _ => 0
  | c :: cs, D => r c * D cs - exD r cs (fun l => D (c :: l))

def detD : List (Nat → Int) → List Nat → Int
  | [], _ => 1
  | r :: rs, cs => exD r cs (detD rs)

theorem exD_congr (r : Nat → Int) : ∀ (cs : List Nat) (D E : List Nat → Int), (∀ l, l.Sublist cs → l.length + 1 = cs.length → D l = E l) → exD r cs D = exD r cs E
  | [], _, _, _ => rfl
  | c :: cs, D, E, h => by
    unfold exD
    rw [h cs (List.sublist_cons_self c cs) rfl, exD_congr r cs (fun l => D (c :: l)) (fun l => E (c :: l)) (fun l h1 h2 => h (c :: l) (h1.cons_cons c) (by simp; omega))]

theorem exD_row (r s : Nat → Int) : ∀ (cs : List Nat) (D : List Nat → Int), (∀ c ∈ cs, r c = s c) → exD r cs D = exD s cs D
  | [], _, _ => rfl
  | c :: cs, D, h => by
    unfold exD
    rw [h c (by simp), exD_row r s cs _ (fun c hc => h c (by simp [hc]))]

theorem exD_lin (r : Nat → Int) (p q : Int) : ∀ (cs : List Nat) (D E : List Nat → Int), exD r cs (fun l => p * D l + q * E l) = p * exD r cs D + q * exD r cs E
  | [], _, _ => by simp [exD]
  | c :: cs, D, E => by
    unfold exD
    rw [exD_lin r p q cs (fun l => D (c :: l)) (fun l => E (c :: l))]
    grind

theorem exD_smul (r : Nat → Int) (p : Int) (cs : List Nat) (D : List Nat → Int) : exD r cs (fun l => p * D l) = p * exD r cs D := by
  have := exD_lin r p 0 cs D D
  simpa using this

theorem exD_linrow (r s : Nat → Int) (p q : Int) : ∀ (cs : List Nat) (D : List Nat → Int), exD (fun c => p * r c + q * s c) cs D = p * exD r cs D + q * exD s cs D
  | [], _ => by simp [exD]
  | c :: cs, D => by
    unfold exD
    rw [exD_linrow r s p q cs (fun l => D (c :: l))]
    grind

theorem exD_zero (r : Nat → Int) (cs : List Nat) : exD r cs (fun _ => 0) = 0 := by
  have := exD_smul r 0 cs (fun _ => 0)
  simpa using this

/-- Two sums change places. -/
theorem exD_fubini (r s : Nat → Int) : ∀ (cs ks : List Nat) (F : List Nat → List Nat → Int), exD r cs (fun l => exD s ks (fun m => F l m)) = exD s ks (fun m => exD r cs (fun l => F l m))
  | [], ks, F => (exD_zero s ks).symm
  | c :: cs, ks, F => by
    have h := exD_lin s (r c) (-1) ks (fun m => F cs m) (fun m => exD r cs (fun l => F (c :: l) m))
    have e : exD s ks (fun m => exD r (c :: cs) (fun l => F l m)) = exD s ks (fun m => r c * F cs m + -1 * exD r cs (fun l => F (c :: l) m)) := by
      congr 1
      funext m
      show r c * F cs m - exD r cs (fun l => F (c :: l) m) = _
      omega
    rw [e, h, ← exD_fubini r s cs ks (fun l m => F (c :: l) m)]
    show r c * exD s ks (fun m => F cs m) - exD r cs (fun l => exD s ks (fun m => F (c :: l) m)) = _
    omega

/-- Two rows that follow one another change places: the sign turns. -/
theorem exD_swap (r s : Nat → Int) : ∀ (cs : List Nat) (D : List Nat → Int), exD r cs (fun l => exD s l D) = - exD s cs (fun l => exD r l D)
  | [], _ => by simp [exD]
  | c :: cs, D => by
    have step : ∀ r s : Nat → Int, exD r (c :: cs) (fun l => exD s l D) = r c * exD s cs D - s c * exD r cs D + exD r cs (fun l => exD s l (fun m => D (c :: m))) := by
      intro r s
      have e : exD r cs (fun l => exD s (c :: l) D) = s c * exD r cs D + -1 * exD r cs (fun l => exD s l (fun m => D (c :: m))) := by
        rw [← exD_lin]
        congr 1
        funext l
        show s c * D l - exD s l (fun m => D (c :: m)) = _
        omega
      show r c * exD s cs D - exD r cs (fun l => exD s (c :: l) D) = _
      rw [e]
      omega
    rw [step r s, step s r, exD_swap r s cs (fun m => D (c :: m))]
    omega

theorem detD_cons (r : Nat → Int) (rs : List (Nat → Int)) (cs : List Nat) : detD (r :: rs) cs = exD r cs (detD rs) := rfl

theorem detD_swap (r s : Nat → Int) (rs : List (Nat → Int)) (cs : List Nat) : detD (r :: s :: rs) cs = - detD (s :: r :: rs) cs := by
  show exD r cs (fun l => exD s l (detD rs)) = - exD s cs (fun l => exD r l (detD rs))
  exact exD_swap r s cs (detD rs)

theorem detD_same (r : Nat → Int) (rs : List (Nat → Int)) (cs : List Nat) : detD (r :: r :: rs) cs = 0 := by
  have := detD_swap r r rs cs
  omega

/-- What holds behind a beginning holds with it: a factor. -/
theorem detD_pre (p : Int) (rs ss : List (Nat → Int)) (h : ∀ cs, detD rs cs = p * detD ss cs) : ∀ (pre : List (Nat → Int)) (cs : List Nat), detD (pre ++ rs) cs = p * detD (pre ++ ss) cs
  | [], cs => h cs
  | r :: pre, cs => by
    show exD r cs (detD (pre ++ rs)) = p * exD r cs (detD (pre ++ ss))
    rw [← exD_smul]
    congr 1
    funext l
    exact detD_pre p rs ss h pre l

/-- The other order of rows: the same but for the sign. -/
theorem detD_perm {rs ss : List (Nat → Int)} (h : rs.Perm ss) : ∃ p : Int, (p = 1 ∨ p = -1) ∧ ∀ cs, detD rs cs = p * detD ss cs := by
  induction h with
  | nil => exact ⟨1, .inl rfl, fun cs => by simp⟩
  | cons r _ ih =>
    obtain ⟨p, hp, h⟩ := ih
    exact ⟨p, hp, fun cs => detD_pre p _ _ h [r] cs⟩
  | swap r s l => exact ⟨-1, .inr rfl, fun cs => by rw [detD_swap s r l cs]; omega⟩
  | trans _ _ ih1 ih2 =>
    obtain ⟨p, hp, h⟩ := ih1
    obtain ⟨q, hq, g⟩ := ih2
    refine ⟨p * q, ?_, fun cs => by rw [h cs, g cs, Int.mul_assoc]⟩
    rcases hp with rfl | rfl <;> rcases hq with rfl | rfl <;> simp

/-- A row that stands twice: 0. -/
theorem detD_twice (r : Nat → Int) (rs : List (Nat → Int)) (pre mid : List (Nat → Int)) (cs : List Nat) : detD (pre ++ r :: (mid ++ r :: rs)) cs = 0 := by
  have hp : (pre ++ r :: (mid ++ r :: rs)).Perm (r :: r :: (pre ++ (mid ++ rs))) := by
    have h1 : (mid ++ r :: rs).Perm (r :: (mid ++ rs)) := List.perm_middle
    have h2 : (pre ++ r :: (mid ++ r :: rs)).Perm (r :: (pre ++ (mid ++ r :: rs))) := List.perm_middle
    refine h2.trans (List.Perm.cons r ?_)
    refine (List.Perm.append_left pre h1).trans ?_
    exact List.perm_middle
  obtain ⟨p, _, h⟩ := detD_perm hp
  rw [h cs, detD_same]
  simp

/-- A row that is a sum: at any place. -/
theorem detD_lin (r s : Nat → Int) (p q : Int) (rs : List (Nat → Int)) : ∀ (pre : List (Nat → Int)) (cs : List Nat), detD (pre ++ (fun c => p * r c + q * s c) :: rs) cs = p * detD (pre ++ r :: rs) cs + q * detD (pre ++ s :: rs) cs
  | [], cs => exD_linrow r s p q cs (detD rs)
  | t :: pre, cs => by
    show exD t cs (detD (pre ++ (fun c => p * r c + q * s c) :: rs)) = p * exD t cs (detD (pre ++ r :: rs)) + q * exD t cs (detD (pre ++ s :: rs))
    rw [← exD_lin]
    congr 1
    funext l
    exact detD_lin r s p q rs pre l

/-- The last row brought to the front. -/
theorem detD_last (r : Nat → Int) : ∀ (rs : List (Nat → Int)) (cs : List Nat), detD (rs ++ [r]) cs = (-1) ^ rs.length * detD (r :: rs) cs
  | [], cs => by simp
  | s :: rs, cs => by
    have h : detD (s :: (rs ++ [r])) cs = (-1) ^ rs.length * detD (s :: r :: rs) cs := detD_pre _ (rs ++ [r]) (r :: rs) (fun cs => detD_last r rs cs) [s] cs
    show detD (s :: (rs ++ [r])) cs = _
    rw [h, detD_swap s r rs cs, List.length_cons, Int.pow_succ]
    grind

/-- Rows turned into columns: the same. -/
theorem detD_turn (a : Nat → Nat → Int) : ∀ (n : Nat) (R C : List Nat), R.length = n → C.length = n → detD (R.map (fun i => fun j => a i j)) C = detD (C.map (fun j => fun i => a i j)) R
  | 0, R, C, hR, hC => by
    obtain rfl := List.length_eq_zero_iff.1 hR
    obtain rfl := List.length_eq_zero_iff.1 hC
    rfl
  | 1, [i], [j], _, _ => by simp [detD, exD]
  | n + 2, i :: R, j :: C, hR, hC => by
    have ihs : ∀ R C : List Nat, R.length = n + 1 → C.length = n + 1 → detD (R.map (fun i => fun j => a i j)) C = detD (C.map (fun j => fun i => a i j)) R := detD_turn a (n + 1)
    have ih0 : ∀ R C : List Nat, R.length = n → C.length = n → detD (R.map (fun i => fun j => a i j)) C = detD (C.map (fun j => fun i => a i j)) R := detD_turn a n
    simp only [List.length_cons] at hR hC
    show exD (a i) (j :: C) (detD (R.map (fun i => fun j => a i j))) = exD (fun i => a i j) (i :: R) (detD (C.map (fun j => fun i => a i j)))
    unfold exD
    have hA : exD (a i) C (fun l => detD (R.map (fun i => fun j => a i j)) (j :: l)) = exD (a i) C (fun l => exD (fun i => a i j) R (fun k => detD (k.map (fun i => fun j => a i j)) l)) := by
      refine exD_congr _ _ _ _ (fun l hl hlen => ?_)
      rw [ihs R (j :: l) (by omega) (by simp; omega)]
      show exD (fun i => a i j) R (detD (l.map (fun j => fun i => a i j))) = _
      refine exD_congr _ _ _ _ (fun k hk hkl => ?_)
      exact (ih0 k l (by omega) (by omega)).symm
    have hB : exD (fun i => a i j) R (fun l => detD (C.map (fun j => fun i => a i j)) (i :: l)) = exD (fun i => a i j) R (fun k => exD (a i) C (fun l => detD (k.map (fun i => fun j => a i j)) l)) := by
      refine exD_congr _ _ _ _ (fun k hk hkl => ?_)
      rw [← ihs (i :: k) C (by simp; omega) (by omega)]
      rfl
    rw [hA, hB, exD_fubini, ihs R C (by omega) (by omega)]

end Go.Proofs.YtfnnbkclnflpfaaGreatDoor

