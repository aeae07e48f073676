/- Part 16 of the texts. -/
import Derived.Test.YtfnnbkclnflpfaaGreatDoorPartN15
import Derived.Test.YtfnnbkclnflpfaaGreatDoorPartN12
import Derived.Test.YtfnnbkclnflpfaaGreatDoorPartN13
import Derived.Test.YtfnnbkclnflpfaaGreatDoorPartN04
import Derived.Test.YtfnnbkclnflpfaaGreatDoorPartN08
import Derived.Test.YtfnnbkclnflpfaaGreatDoorPartN07
import Derived.Lib.BitFns
import Derived.Test.YtfnnbkclnflpfaaGreatDoorPartN06
import Derived.Laws.BitsAllLaws
import Derived.BigQuiet
import Derived.Test.YtfnnbkclnflpfaaGreatDoorPartN09
import Derived.Test.YtfnnbkclnflpfaaGreatDoorPartN14
import Derived.Laws.BitsLemmas
import Derived.Deep.RegionHeld3
import Derived.Laws.Cover2
import Derived.Laws.Externs
import Derived.Laws.FloatArith
import Derived.Test.YtfnnbkclnflpfaaGreatDoorPartN11
import Derived.OwnWalk
import Derived.Deep.AppendLies
import Derived.Maps.AppendAt
/- The reference's Biggest, Finite, Norm, Tame. -/
namespace Go.Proofs.YtfnnbkclnflpfaaGreatDoor
open Go.RowKit
attribute [local go_sem ↓] Go.wp_at_zero Go.wp_at_succ

theorem fnK_down (I : List Int) : ∀ (m k : Nat), k ≤ m → fnK I m = true → fnK I k = true := by
  intro m
  induction m with
  | zero => intro k hk _; rw [show k = 0 by omega]; rfl
  | succ m ih =>
    intro k hk h
    have h' : (fnK I m && fFin (atB I m)) = true := h
    rw [Bool.and_eq_true] at h'
    by_cases e : k = m + 1
    · subst e; exact h
    · exact ih k (by omega) h'.1
theorem fnK_no (I : List Int) (n k : Nat) (hk : k < n) (h : fFin (atB I k) = false) : fnK I n = false := by
  cases e : fnK I n
  · rfl
  · have h2 : (fnK I k && fFin (atB I k)) = true := fnK_down I n (k + 1) (by omega) e
    rw [h, Bool.and_false] at h2
    cases h2

set_option maxRecDepth 20000 in
set_option maxHeartbeats 4000000 in
theorem r9finite_any (ao : Option Addr) (c : Nat) (I : List Int) (w : World) (hI : BitsAt w ao c I) (hn : I.length ≤ 35184372088830) :
    Calls Tryz.prog 40 #[.slice ao I.length c] w fun e w' => e = .returned (.bool (fnK I I.length)) ∧ Below w.heap.size w w' := by
  have HI := hide hI
  obtain ⟨n, hnn⟩ : ∃ n, I.length = n := ⟨_, rfl⟩
  rw [hnn] at hn ⊢
  have HN := hide hnn
  clear hI hnn
  obtain ⟨v, hv⟩ : ∃ v, fnK I n = v := ⟨_, rfl⟩
  rw [hv]
  have HV := hide hv
  clear hv
  go_enter Tryz.func40, Tryz.ntmps40
  go_wp2_with fail
  go_loopw [3] (fun i wr => ∃ k : Nat, k ≤ n ∧ i = .int .i64 k ∧ Hid (fnK I k = true) ∧ Hid (Below w.heap.size w wr)) (fun i _ => n - (intOf i).toNat)
  case atStart => exact ⟨0, Nat.zero_le _, rfl, rfl, Below.refl _ _⟩
  case round =>
    obtain ⟨k, hk, rfl, hq, hB⟩ := hrel
    by_cases hlt : k < n
    · have hkI : (k : Int) < (n : Int) := by omega
      obtain ⟨b, off, hao, hb, hc⟩ := ((unhide HI).below hB.out).ne (by rw [unhide HN]; omega)
      have hck := hc k (by rw [unhide HN]; exact hlt)
      have C1 := hide (fun w' => rfinite_any (atB I k) w' ((unhide HI).lt k))
      have eV : Hid (fnK I (k + 1) = (fnK I k && fFin (atB I k))) := rfl
      have eF := hide (fun h => fnK_no I n k hlt h)
      subst hao
      clear hc
      generalize atB I k = x at *
      cases hf : fFin x
      · have e2 := hide ((unhide HV).symm.trans (unhide eF hf))
        rw [hf] at C1
        have hv2 := unhide e2
        subst hv2
        go_wp2_with fail
        refine (unhide C1 _).mono ?_
        rintro e w2 ⟨rfl, rfl⟩
        clear C1
        go_wp2_with fail
        exact bodyPost_ret (v := .bool false) (by simp [results, Tryz.results40, go_sem]) rfl ⟨rfl, hB.out⟩
      · rw [hf] at C1 eV
        go_wp2_with fail
        refine (unhide C1 _).mono ?_
        rintro e w2 ⟨rfl, rfl⟩
        clear C1
        go_wp2_with fail
        go_round
        case rel => exact ⟨k + 1, by omega, by go_num, by unfold Hid; rw [eV.out, hq.out]; rfl, hB⟩
        case measure => simp [intOf]; omega
    · have hkk : k = n := by omega
      subst hkk
      have e2 := (unhide HV).symm.trans hq.out
      subst e2
      go_wp2_with fail
      exact bodyPost_ret (v := .bool true) (by simp [results, Tryz.results40, go_sem]) rfl ⟨rfl, hB.out⟩

end Go.Proofs.YtfnnbkclnflpfaaGreatDoor

/- Exact numbers at a level: the reference's values, products, powers of two. -/
namespace Go.Proofs.YtfnnbkclnflpfaaGreatDoor
open Go.RowKit

/-- The number z times 2^lo. -/
def IsLv (w : World) (v : Value) (lo z : Int) : Prop := IsDy w v (oM z) (oE z lo)
theorem IsLv.below {w w' : World} {v : Value} {lo z : Int} (h : IsLv w v lo z) (hb : Below w.heap.size w w') : IsLv w' v lo z := IsDy.below h hb
theorem IsLv.zero (w : World) (lo : Int) : IsLv w (.agg #[.bool false, .slice none 0 0, .int .i64 0]) lo 0 := by
  unfold IsLv
  rw [oM_zero, oE_zero]
  exact IsDy.zero w none 0
/-- The same number at a lower level. -/
theorem IsLv.lower {w : World} {v : Value} {lo z : Int} (h : IsLv w v lo z) (k : Nat) : IsLv w v (lo - k) (z * 2 ^ k) := by
  unfold IsLv
  have s := oM_scale z k (lo - k)
  rw [show lo - (k : Int) + k = lo by omega] at s
  rw [s.1, s.2]
  exact h
theorem oM_neg_iff (z : Int) : oM z < 0 ↔ z < 0 := by
  by_cases h : z = 0
  · subst h; rw [oM_zero]
  · have x := oM_level z 0 h
    have hp : (0 : Int) < 2 ^ (oE z 0 - 0).toNat := Int.pow_pos (by decide)
    constructor
    · intro g
      rw [← x]
      exact Int.mul_neg_of_neg_of_pos g hp
    · intro g
      rcases Int.lt_or_le (oM z) 0 with k | k
      · exact k
      · have := Int.mul_nonneg k (Int.le_of_lt hp)
        omega
theorem fZ_ne {b : Nat} (h : fZ b ≠ 0) : fK b ≠ 0 := fun e => h (by
  have := fZ_abs b
  rw [(fK_zero b).1 e, rv_zero] at this
  omega)
end Go.Proofs.YtfnnbkclnflpfaaGreatDoor

/- The reference's Near and Squares, at a level. -/
namespace Go.Proofs.YtfnnbkclnflpfaaGreatDoor
open Go.RowKit
attribute [local go_sem ↓] Go.wp_at_zero Go.wp_at_succ
theorem Lvl.more {lo : Int} {W W' : Nat} {z : Int} (h : Lvl lo W z) (hW : W ≤ W') (h1 : lo + W' ≤ 16384) (h2 : W' ≤ 16384) : Lvl lo W' z :=
  ⟨Nat.lt_of_lt_of_le h.1 (Nat.pow_le_pow_right (by decide) hW), h.2.1, h1, h2⟩
theorem Lvl.at {lo lo' : Int} {W : Nat} {z : Int} (h : Lvl lo W z) (h1 : -16384 ≤ lo') (h2 : lo' + W ≤ 16384) : Lvl lo' W z := ⟨h.1, h1, h2, h.2.2.2⟩

end Go.Proofs.YtfnnbkclnflpfaaGreatDoor

/- Lists of bits that a call itself makes; the reference's Times and Axpy. -/
namespace Go.Proofs.YtfnnbkclnflpfaaGreatDoor
open Go.RowKit
attribute [local go_sem ↓] Go.wp_at_zero Go.wp_at_succ

theorem infoBits : (Tryz.prog.info? 52).map (fun i => (i.zero, i.size, i.bytes)) = some (some (.int .u64 0), 1, 8) := by kernel_rfl

/-- v is a list S of the call's own. -/
def OwnB (base : Nat) (w : World) (v : Value) (S : List Nat) : Prop := w.ownsRow base 52 1 v S.length (S.map bitV) ∧ ∀ x ∈ S, x < 18446744073709551616
theorem OwnB.below {base : Nat} {w w' : World} {v : Value} {S : List Nat} (h : OwnB base w v S) (hb : Below w.heap.size w w') : OwnB base w' v S :=
  ⟨h.1.kept (row := none) ⟨hb.os, hb.tape, hb.output, hb.size, fun k hk _ => hb.block k hk⟩ (by cases hv : v.ownBlock <;> simp), h.2⟩
theorem OwnB.bits {base : Nat} {w : World} {v : Value} {S : List Nat} (h : OwnB base w v S) : ∃ ao cap, v = .slice ao S.length cap ∧ BitsAt w ao cap (S.map (fun x : Nat => (x : Int))) := by
  have hl : (S.map bitV).length = S.length := by simp
  have hf : ∀ x ∈ S.map (fun x : Nat => (x : Int)), 0 ≤ x ∧ x ≤ 18446744073709551615 := by
    intro x hx
    obtain ⟨y, hy, rfl⟩ := List.mem_map.1 hx
    have := h.2 y hy
    omega
  rcases h.1.2 with ⟨hv, h0⟩ | ⟨g, cap, cur, hv, hg, hh, hc, hm, hs, ht⟩
  · have : S = [] := List.length_eq_zero_iff.1 (by omega)
    subst this
    exact ⟨none, 0, hv, ⟨by simp, by simp, .inl rfl⟩⟩
  · refine ⟨some ⟨g, 0, none⟩, cap, hv, ⟨by simp; omega, hf, .inr ⟨g, 0, rfl, (Array.getElem?_eq_some_iff.1 hh).1, fun i hi => ?_⟩⟩⟩
    have hi' : i < S.length := by simpa using hi
    have q : (S.map bitV)[i]? = some (.int .u64 ((S[i] : Nat) : Int)) := by
      rw [List.getElem?_map, List.getElem?_eq_getElem hi']; rfl
    rw [← ht, List.getElem?_take, if_pos (by omega)] at q
    rw [cell_of_row w g _ _ _ _ hh, Nat.zero_add]
    have e : (S.map (fun x : Nat => (x : Int)))[i]?.getD 0 = ((S[i] : Nat) : Int) := by simp [hi']
    rw [e]
    simpa using q
theorem OwnB.nil (w : World) (base : Nat) (h : base ≤ w.heap.size) : OwnB base (w.alloc (.cells #[] 52)) (.slice (some ⟨w.heap.size, 0, none⟩) 0 0) [] :=
  ⟨World.ownsRow_made w #[] 0 h (by simp [maxLen]) (by simp), by simp⟩
theorem OwnB.snoc {base : Nat} {w : World} {v : Value} {S : List Nat} {x n : Nat} (hn : n = S.length) (h : w.ownsRow base 52 1 v (n + 1) (S.map bitV ++ [.int .u64 (x : Int)])) (hS : ∀ x ∈ S, x < 18446744073709551616) (hx : x < 18446744073709551616) : OwnB base w v (S ++ [x]) := by
  subst hn
  refine ⟨by simpa [bitV] using h, fun y hy => ?_⟩
  rcases List.mem_append.1 hy with h1 | h1
  · exact hS y h1
  · simp at h1; subst h1; exact hx

end Go.Proofs.YtfnnbkclnflpfaaGreatDoor

/- One number more onto a list of the call's own. -/
namespace Go.Proofs.YtfnnbkclnflpfaaGreatDoor
open Go.RowKit

/-- An append whose run is known. -/
theorem wpList_append_ran {P : Program} (w : World) {ops : Array Oper} {rest : List Oper} {o : Oper} {a : Act} {Q : Exit → Act → World → Prop} (hgd : o.guard = none) (s x : Operand) (t : TypeId)
    (ho : o.op = .call { callee := .builtin .append, args := #[s, x], argTypes := #[t, t] }) (v1 v2 v' : Value) (w' : World) (hs : a.eval s = v1) (hx : a.eval x = v2)
    (hr : (Builtin.append_ #[t, t] o.type #[v1, v2]).run P w = .ok v' w') (h : wpList P ops Q rest (a.put o.dst v') w') : wpList P ops Q (o :: rest) a w :=
  wpList_plain hgd fun _ hK => by
    unfold Oper.wp execOp
    simp only [ho, resolve, invoke, builtin, Sem.run_bind, Sem.run_pure, Result.andThen_ok, List.map_toArray, List.map_cons, List.map_nil, hs, hx, hr]
    exact hK _ _ h

/-- Two lists of one's own lie apart. -/
def Apart (v u : Value) : Prop := ∀ g, v.ownBlock = some g → u.ownBlock ≠ some g
theorem Apart.symm {v u : Value} (h : Apart v u) : Apart u v := fun g h1 h2 => h g h2 h1

/-- The number x behind a list of one's own: what append does. -/
theorem OwnB.push {base : Nat} {w : World} {v : Value} {S : List Nat} (h : OwnB base w v S) (x : Nat) (hx : x < 18446744073709551616) (hl : S.length ≤ 1000000) (hb : base ≤ w.heap.size) (ty : TypeId) :
    ∃ v' w', (Builtin.append_ #[22, 22] ty #[v, .slice (some ⟨w.heap.size, 0, none⟩) 1 1]).run Tryz.prog (w.alloc (.cells #[.int .u64 (x : Int)] 52)) = .ok v' w' ∧ OwnB base w' v' (S ++ [x]) ∧ Below base w w' ∧
      (∀ u T, OwnB base w u T → Apart v u → OwnB base w' u T ∧ Apart v' u) ∧ (∀ ao c I, BitsAt w ao c I → (I = [] ∨ ∃ b off, ao = some ⟨b, off, none⟩ ∧ v.ownBlock ≠ some b) → BitsAt w' ao c I) := by
  obtain ⟨i0, hi, hz0, hz1, hz2⟩ := info_parts infoBits
  obtain ⟨v', w', e1, e2, e3, e4, e5⟩ := run_append_own_at (P := Tryz.prog) (w.alloc (.cells #[.int .u64 (x : Int)] 52)) base 22 ty 52 i0 (.int .u64 0) 1 8 Tryz.underlying22 hi hz0 hz1 hz2 rfl (by decide) v S.length (S.map bitV) (h.1.alloc _) ⟨w.heap.size, 0, none⟩ 1 1 [.int .u64 (x : Int)] rfl (cell_one_new _ _ _) (fun u hu => by simp at hu; subst hu; rfl) (by unfold maxLen; omega) (by omega) (by simp; omega)
  have hn : OwnB base w' v' (S ++ [x]) := OwnB.snoc rfl e2 h.2 hx
  refine ⟨v', w', e1, hn, ((below_alloc9 w _).mono hb).grown e3 (by simp; omega) (fun g hg => (h.1.lt g hg).1), ?_, ?_⟩
  · intro u T hu ha
    refine ⟨⟨(hu.1.alloc _).kept e3 ?_, hu.2⟩, ?_⟩
    · cases hv : u.ownBlock with
      | none => exact .inl rfl
      | some g =>
        right
        intro e
        exact ha g e.symm hv
    · intro g hg hg2
      rcases e5 with e5 | e5
      · exact ha g (by rw [← e5]; exact hg) hg2
      · rw [hg] at e5
        have h1 := (hu.1.lt g hg2).2
        simp at e5
        omega
  · intro ao c I hI hn2
    have hA := hI.below (below_alloc9 w (.cells #[.int .u64 (x : Int)] 52))
    refine ⟨hA.1, hA.2.1, ?_⟩
    rcases hA.2.2 with e | ⟨b, off, f1, f2, f3⟩
    · exact .inl e
    rcases hn2 with e | ⟨b', off', g1, g2⟩
    · exact .inl e
    rw [f1] at g1
    simp only [Option.some.injEq, Addr.mk.injEq] at g1
    obtain ⟨rfl, rfl, _⟩ := g1
    refine .inr ⟨b, off, f1, Nat.lt_of_lt_of_le f2 e3.size, fun i hi => ?_⟩
    exact e3.cell (f3 i hi) (fun e => g2 e.symm)

end Go.Proofs.YtfnnbkclnflpfaaGreatDoor

