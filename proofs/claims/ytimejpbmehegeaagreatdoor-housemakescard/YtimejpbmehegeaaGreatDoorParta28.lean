/- Part 28 of the texts. -/
import Derived.Test.YtimejpbmehegeaaGreatDoorParta27
import Derived.Test.YtimejpbmehegeaaGreatDoorParta26
import Derived.Test.YtimejpbmehegeaaGreatDoorParta19
import Derived.Test.YtimejpbmehegeaaGreatDoorParta22
import Derived.Test.YtimejpbmehegeaaGreatDoorParta17
import Derived.Test.YtimejpbmehegeaaGreatDoorParta18
import Derived.Deep.Cut
import Derived.BigQuiet
import Derived.Test.YtimejpbmehegeaaGreatDoorParta16
import Derived.Test.YtimejpbmehegeaaGreatDoorParta13
import Derived.OwnWalk
import Derived.Deep.RegionHeld3
import Derived.Deep.AppendLies
import Derived.Maps.AppendAt
/- The reference's Norm. -/
namespace Go.Proofs.YtimejpbmehegeaaGreatDoor
open Go.RowKit
attribute [local go_sem ↓] Go.wp_at_zero Go.wp_at_succ

set_option maxRecDepth 20000 in
set_option maxHeartbeats 4000000 in
theorem r9norm_odd (ao : Option Addr) (n c m : Nat) (f : Bool) (w : World) (hm : m = 0 ∨ (m ≠ 0 ∧ f = false))
    (C1 : Calls Tryz.prog 69 #[.slice ao n c] w fun e w'' => e = .returned (.int .u64 (m : Nat)) ∧ Below w.heap.size w w'')
    (C2 : ∀ w', Calls Tryz.prog 20 #[.int .u64 m] w' fun e w'' => e = .returned (.bool f) ∧ w' = w'') :
    Calls Tryz.prog 30 #[.slice ao n c] w fun e w' => e = .returned (.int .u64 (m : Nat)) ∧ Below w.heap.size w w' := by
  have K1 := hide C1; have K2 := hide C2
  clear C1 C2
  rcases hm with rfl | ⟨h0, rfl⟩
  · go_enter Tryz.func30, Tryz.ntmps30
    go_wp2_with fail
    refine Calls.mono (unhide K1) ?_
    rintro e w1 ⟨rfl, hb1⟩
    clear K1 K2
    go_wp2
    go_ret
    exact ⟨rfl, hb1⟩
  · have g0 : ((m : Int) == 0) = false := by rw [beq_eq_false_iff_ne]; omega
    clear h0
    go_enter Tryz.func30, Tryz.ntmps30
    go_wp2_with fail
    refine Calls.mono (unhide K1) ?_
    rintro e w1 ⟨rfl, hb1⟩
    clear K1
    go_wp2_with fail
    refine (unhide K2 _).mono ?_
    rintro e w2 ⟨rfl, rfl⟩
    clear K2
    go_wp2
    go_ret
    exact ⟨rfl, hb1⟩

set_option maxRecDepth 20000 in
set_option maxHeartbeats 4000000 in
theorem r9norm_even (ao : Option Addr) (c m : Nat) (k : Int) (I : List Int) (w : World) (hI : BitsAt w ao c I) (hn : I.length ≤ 35184372088830) (h0 : m ≠ 0) (hk : -5000 ≤ k ∧ k ≤ 5000)
    (C1 : Calls Tryz.prog 69 #[.slice ao I.length c] w fun e w'' => e = .returned (.int .u64 (m : Nat)) ∧ Below w.heap.size w w'')
    (C2 : ∀ w', Calls Tryz.prog 20 #[.int .u64 m] w' fun e w'' => e = .returned (.bool true) ∧ w' = w'')
    (C3 : ∀ w', Calls Tryz.prog 58 #[.int .u64 m] w' fun e w'' => e = .returned (.int .i64 k) ∧ Below w'.heap.size w' w'') :
    Calls Tryz.prog 30 #[.slice ao I.length c] w fun e w' => e = .returned (.int .u64 (xV (sV (dtK (tL k I) (tL k I) I.length)) k : Nat)) ∧ Below w.heap.size w w' := by
  have HI := hide hI
  have K1 := hide C1; have K2 := hide C2; have K3 := hide C3
  have g0 : ((m : Int) == 0) = false := by rw [beq_eq_false_iff_ne]; omega
  have hw : IntKind.i64.wrap (-k) = -k := by simp only [IntKind.wrap_i64]; omega
  have hw2 : (0 : Int) - k = -k := by omega
  have HK := hide hk
  have CF := hide (fun w' => r9sqrt_any (dtK (tL k I) (tL k I) I.length) w' (dtK_lt _ _ _))
  have CG := hide (fun w' => r9shift_any (sV (dtK (tL k I) (tL k I) I.length)) k w' (sV_lt _ (dtK_lt _ _ _)) hk)
  have HD : Hid (dtK (tL k I) (tL k I) 0 = 0) := rfl
  have HS := hide (fun j (hj : j < I.length) => show dtK (tL k I) (tL k I) (j + 1) = aV (dtK (tL k I) (tL k I) j) (mV (xV (atB I j) (-k)) (xV (atB I j) (-k))) by
    show aV (dtK (tL k I) (tL k I) j) (mV (atB (tL k I) j) (atB (tL k I) j)) = _
    rw [show atB (tL k I) j = xV (atB I j) (-k) from mkL_at _ _ j hj])
  have HL := hide (fun j => dtK_lt (tL k I) (tL k I) j)
  generalize dtK (tL k I) (tL k I) = F at *
  obtain ⟨n, hnn⟩ : ∃ n, I.length = n := ⟨_, rfl⟩
  rw [hnn] at hn K1 HS CF CG ⊢
  have HN := hide hnn
  clear hI hnn C1 C2 C3 h0 hk
  generalize xV (sV (F n)) k = rr at *
  generalize sV (F n) = ss at *
  go_enter Tryz.func30, Tryz.ntmps30
  go_wp2_with fail
  refine Calls.mono (unhide K1) ?_
  rintro e w1 ⟨rfl, hb1⟩
  have B := hide hb1
  clear K1 hb1
  go_wp2_with fail
  refine (unhide K2 _).mono ?_
  rintro e w2 ⟨rfl, rfl⟩
  clear K2
  go_wp2_with fail
  refine (unhide K3 _).mono ?_
  rintro e w2 ⟨rfl, hb2⟩
  have B2 := hide ((unhide B).trans (hb2.mono (unhide B).size))
  clear K3 hb2 B
  go_wp2_with fail
  go_loopw [5, 6] (fun t i wr => ∃ j : Nat, j ≤ n ∧ i = .int .i64 j ∧ t = .int .u64 (F j : Nat) ∧ Hid (Below w.heap.size w wr)) (fun _ i _ => n - (intOf i).toNat)
  case atStart => exact ⟨0, Nat.zero_le _, rfl, by rw [unhide HD]; rfl, B2⟩
  case round =>
    clear B2
    obtain ⟨j, hj, rfl, rfl, hB⟩ := hrel
    by_cases hlt : j < n
    · have hjI : (j : Int) < (n : Int) := by omega
      obtain ⟨b, off, hao, hb, hc⟩ := ((unhide HI).below hB.out).ne (by rw [unhide HN]; omega)
      have hck := hc j (by rw [unhide HN]; exact hlt)
      have x64 := (unhide HI).lt j
      have D1 := hide (fun w' => r9shift_any (atB I j) (-k) w' x64 (by have := unhide HK; omega))
      have D2 := hide (fun w' => r9mul_any (xV (atB I j) (-k)) (xV (atB I j) (-k)) w' (xV_lt _ _ x64) (xV_lt _ _ x64))
      have D3 := hide (fun w' => r9add_any (F j) (mV (xV (atB I j) (-k)) (xV (atB I j) (-k))) w' (unhide HL j) (mV_lt _ _))
      have eV := hide (unhide HS j hlt)
      subst hao
      clear hc x64
      generalize aV (F j) (mV (xV (atB I j) (-k)) (xV (atB I j) (-k))) = o at *
      generalize mV (xV (atB I j) (-k)) (xV (atB I j) (-k)) = p at *
      generalize xV (atB I j) (-k) = t at *
      generalize atB I j = x at *
      go_wp2_with fail
      refine (unhide D1 _).mono ?_
      rintro e w3 ⟨rfl, hb3⟩
      have B3 := hide (hB.out.trans (hb3.mono hB.out.size))
      clear hb3 D1 hB
      go_wp2_with fail
      refine (unhide D2 _).mono ?_
      rintro e w4 ⟨rfl, hb4⟩
      have B4 := hide ((unhide B3).trans (hb4.mono (unhide B3).size))
      clear hb4 D2 B3
      go_wp2_with fail
      refine (unhide D3 _).mono ?_
      rintro e w5 ⟨rfl, hb5⟩
      have B5 := hide ((unhide B4).trans (hb5.mono (unhide B4).size))
      clear hb5 D3 B4
      go_wp2_with fail
      go_round
      case rel => exact ⟨j + 1, by omega, by go_num, by rw [unhide eV], B5⟩
      case measure => simp [intOf]; omega
    · have hkk : j = n := by omega
      subst hkk
      go_wp2_with fail
      refine (unhide CF _).mono ?_
      rintro e w3 ⟨rfl, hb3⟩
      have B3 := hide (hB.out.trans (hb3.mono hB.out.size))
      clear hb3 CF hB
      go_wp2_with fail
      refine (unhide CG _).mono ?_
      rintro e w4 ⟨rfl, hb4⟩
      have B4 := hide ((unhide B3).trans (hb4.mono (unhide B3).size))
      clear hb4 CG B3
      go_wp2
      exact bodyPost_ret (v := .int .u64 (rr : Nat)) (by simp [results, Tryz.results30, go_sem]) rfl ⟨rfl, unhide B4⟩

theorem r9norm_any (ao : Option Addr) (c : Nat) (I : List Int) (w : World) (hI : BitsAt w ao c I) (hn : I.length ≤ 35184372088830) :
    Calls Tryz.prog 30 #[.slice ao I.length c] w fun e w' => e = .returned (.int .u64 (nmV I : Nat)) ∧ Below w.heap.size w w' := by
  have C1 := r9biggest_any ao c I w hI hn
  have hm := bgK_lt I I.length
  have C2 := fun w' => rfinite_any (bgK I I.length) w' hm
  unfold nmV
  by_cases h0 : bgK I I.length = 0
  · rw [if_pos (.inl h0)]
    exact r9norm_odd ao _ c _ _ w (.inl h0) C1 C2
  cases hf : fFin (bgK I I.length)
  · rw [hf] at C2
    rw [if_pos (.inr rfl)]
    exact r9norm_odd ao _ c _ _ w (.inr ⟨h0, rfl⟩) C1 C2
  · rw [hf] at C2
    rw [if_neg (fun e => e.elim h0 (fun e => by cases e))]
    have hr := eX_range _ hm
    exact r9norm_even ao c _ _ I w hI hn h0 (by omega) C1 C2 (fun w' => r8exp_any _ w' hm)

end Go.Proofs.YtimejpbmehegeaaGreatDoor

/- The reference's Near and Squares, at a level. -/
namespace Go.Proofs.YtimejpbmehegeaaGreatDoor
open Go.RowKit
attribute [local go_sem ↓] Go.wp_at_zero Go.wp_at_succ
theorem Lvl.at {lo lo' : Int} {W : Nat} {z : Int} (h : Lvl lo W z) (h1 : -16384 ≤ lo') (h2 : lo' + W ≤ 16384) : Lvl lo' W z := ⟨h.1, h1, h2, h.2.2.2⟩

end Go.Proofs.YtimejpbmehegeaaGreatDoor

/- What is reckoned place by place, and what is known of lists. -/
namespace Go.Proofs.YtimejpbmehegeaaGreatDoor
open Go.RowKit

/-- The numbers of a list. -/
def toN (I : List Int) : List Nat := I.map Int.toNat
theorem toN_len (I : List Int) : (toN I).length = I.length := by simp [toN]
theorem toN_at (I : List Int) (j : Nat) (hj : j < I.length) : (toN I)[j]? = some (atB I j) := by simp [toN, atB, hj]
theorem toN_take (I : List Int) (j : Nat) (hj : j < I.length) : (toN I).take (j + 1) = (toN I).take j ++ [atB I j] := by
  rw [List.take_add_one, toN_at I j hj]
  rfl
theorem toN_all (I : List Int) (P : Nat → Prop) (h : ∀ j, j < I.length → P (atB I j)) : ∀ x ∈ toN I, P x := by
  intro x hx
  obtain ⟨j, hj, rfl⟩ := List.getElem_of_mem hx
  have hj' : j < I.length := by rw [← toN_len]; exact hj
  have e := toN_at I j hj'
  rw [List.getElem?_eq_getElem hj] at e
  rw [Option.some.inj e]
  exact h j hj'

theorem bgF_snoc (x : Nat) : ∀ (xs : List Nat) (m : Nat), bgF m (xs ++ [x]) = mx (bgF m xs) (fR x) := by
  intro xs
  induction xs with
  | nil => intro m; rfl
  | cons y ys ih => intro m; exact ih _
theorem ssV_snoc (k : Int) (x : Nat) : ∀ (xs : List Nat) (s : Nat), ssV k s (xs ++ [x]) = sqV k (ssV k s xs) x := by
  intro xs
  induction xs with
  | nil => intro m; rfl
  | cons y ys ih => intro m; exact ih _
theorem bgK_list (I : List Int) : ∀ j, j ≤ I.length → bgK I j = bgF 0 ((toN I).take j) := by
  intro j
  induction j with
  | zero => intro _; rfl
  | succ j ih =>
    intro hj
    rw [toN_take I j (by omega), bgF_snoc, ← ih (by omega)]
    rfl
theorem bgK_all (I : List Int) : bgK I I.length = bgF 0 (toN I) := by
  rw [bgK_list I _ (Nat.le_refl _), List.take_of_length_le (by rw [toN_len]; exact Nat.le_refl _)]
theorem dtK_list (k : Int) (I : List Int) : ∀ j, j ≤ I.length → dtK (tL k I) (tL k I) j = ssV k 0 ((toN I).take j) := by
  intro j
  induction j with
  | zero => intro _; rfl
  | succ j ih =>
    intro hj
    rw [toN_take I j (by omega), ssV_snoc, ← ih (by omega)]
    show aV (dtK (tL k I) (tL k I) j) (mV (atB (tL k I) j) (atB (tL k I) j)) = _
    rw [show atB (tL k I) j = xV (atB I j) (-k) from mkL_at _ _ j (by omega)]
    rfl
theorem dtK_all (k : Int) (I : List Int) : dtK (tL k I) (tL k I) I.length = ssV k 0 (toN I) := by
  rw [dtK_list k I _ (Nat.le_refl _), List.take_of_length_le (by rw [toN_len]; exact Nat.le_refl _)]
/-- The norm by places is the norm of the list. -/
theorem nmV_nrV (I : List Int) : nmV I = nrV (toN I) := by
  unfold nmV nrV
  rw [dtK_all, bgK_all]

end Go.Proofs.YtimejpbmehegeaaGreatDoor

/- Lists of bits that a call itself makes; the reference's Times and Axpy. -/
namespace Go.Proofs.YtimejpbmehegeaaGreatDoor
open Go.RowKit
attribute [local go_sem ↓] Go.wp_at_zero Go.wp_at_succ

theorem infoBits : (Tryz.prog.info? 24).map (fun i => (i.zero, i.size, i.bytes)) = some (some (.int .u64 0), 1, 8) := by kernel_rfl

/-- v is a list S of the call's own. -/
def OwnB (base : Nat) (w : World) (v : Value) (S : List Nat) : Prop := w.ownsRow base 24 1 v S.length (S.map bitV) ∧ ∀ x ∈ S, x < 18446744073709551616
theorem OwnB.below {base : Nat} {w w' : World} {v : Value} {S : List Nat} (h : OwnB base w v S) (hb : Below w.heap.size w w') : OwnB base w' v S :=
  ⟨h.1.kept (row := none) ⟨hb.os, hb.tape, hb.output, hb.size, fun k hk _ => hb.block k hk⟩ (by cases hv : v.ownBlock <;> simp), h.2⟩
theorem OwnB.bits {base : Nat} {w : World} {v : Value} {S : List Nat} (h : OwnB base w v S) : ∃ ao cap, v = .slice ao S.length cap ∧ BitsAt w ao cap (S.map (fun x : Nat => (x : Int))) := by
  have hl : (S.map bitV).length = S.length := by simp
  have hf : ∀ x ∈ S.map (fun x : Nat => (x : Int)), 0 ≤ x ∧ x ≤ 18446744073709551615 := by
    intro x hx
    obtain ⟨y, hy, rfl⟩ := List.mem_map.1 hx
    have := h.2 y hy
    omega
  rcases h.1.2 with ⟨hv, h0⟩ | ⟨g, cap, cur, hv, hg, hh, hc, hm, hs, ht⟩
  · have : S = [] := List.length_eq_zero_iff.1 (by omega)
    subst this
    exact ⟨none, 0, hv, ⟨by simp, by simp, .inl rfl⟩⟩
  · refine ⟨some ⟨g, 0, none⟩, cap, hv, ⟨by simp; omega, hf, .inr ⟨g, 0, rfl, (Array.getElem?_eq_some_iff.1 hh).1, fun i hi => ?_⟩⟩⟩
    have hi' : i < S.length := by simpa using hi
    have q : (S.map bitV)[i]? = some (.int .u64 ((S[i] : Nat) : Int)) := by
      rw [List.getElem?_map, List.getElem?_eq_getElem hi']; rfl
    rw [← ht, List.getElem?_take, if_pos (by omega)] at q
    rw [cell_of_row w g _ _ _ _ hh, Nat.zero_add]
    have e : (S.map (fun x : Nat => (x : Int)))[i]?.getD 0 = ((S[i] : Nat) : Int) := by simp [hi']
    rw [e]
    simpa using q
theorem OwnB.nil (w : World) (base : Nat) (h : base ≤ w.heap.size) : OwnB base (w.alloc (.cells #[] 24)) (.slice (some ⟨w.heap.size, 0, none⟩) 0 0) [] :=
  ⟨World.ownsRow_made w #[] 0 h (by simp [maxLen]) (by simp), by simp⟩
theorem OwnB.snoc {base : Nat} {w : World} {v : Value} {S : List Nat} {x n : Nat} (hn : n = S.length) (h : w.ownsRow base 24 1 v (n + 1) (S.map bitV ++ [.int .u64 (x : Int)])) (hS : ∀ x ∈ S, x < 18446744073709551616) (hx : x < 18446744073709551616) : OwnB base w v (S ++ [x]) := by
  subst hn
  refine ⟨by simpa [bitV] using h, fun y hy => ?_⟩
  rcases List.mem_append.1 hy with h1 | h1
  · exact hS y h1
  · simp at h1; subst h1; exact hx

/-- The first k places of what f makes. -/
def fsL (f : Nat → Nat) (k : Nat) : List Nat := (List.range k).map f
theorem fsL_len (f : Nat → Nat) (k : Nat) : (fsL f k).length = k := by simp [fsL]
theorem fsL_succ (f : Nat → Nat) (k : Nat) : fsL f (k + 1) = fsL f k ++ [f k] := by simp [fsL, List.range_succ]
end Go.Proofs.YtimejpbmehegeaaGreatDoor

/- One number more onto a list of the call's own. -/
namespace Go.Proofs.YtimejpbmehegeaaGreatDoor
open Go.RowKit

/-- An append whose run is known. -/
theorem wpList_append_ran {P : Program} (w : World) {ops : Array Oper} {rest : List Oper} {o : Oper} {a : Act} {Q : Exit → Act → World → Prop} (hgd : o.guard = none) (s x : Operand) (t : TypeId)
    (ho : o.op = .call { callee := .builtin .append, args := #[s, x], argTypes := #[t, t] }) (v1 v2 v' : Value) (w' : World) (hs : a.eval s = v1) (hx : a.eval x = v2)
    (hr : (Builtin.append_ #[t, t] o.type #[v1, v2]).run P w = .ok v' w') (h : wpList P ops Q rest (a.put o.dst v') w') : wpList P ops Q (o :: rest) a w :=
  wpList_plain hgd fun _ hK => by
    unfold Oper.wp execOp
    simp only [ho, resolve, invoke, builtin, Sem.run_bind, Sem.run_pure, Result.andThen_ok, List.map_toArray, List.map_cons, List.map_nil, hs, hx, hr]
    exact hK _ _ h

/-- Two lists of one's own lie apart. -/
def Apart (v u : Value) : Prop := ∀ g, v.ownBlock = some g → u.ownBlock ≠ some g
theorem Apart.symm {v u : Value} (h : Apart v u) : Apart u v := fun g h1 h2 => h g h2 h1

/-- The number x behind a list of one's own: what append does. -/
theorem OwnB.push {base : Nat} {w : World} {v : Value} {S : List Nat} (h : OwnB base w v S) (x : Nat) (hx : x < 18446744073709551616) (hl : S.length ≤ 1000000) (hb : base ≤ w.heap.size) (ty : TypeId) :
    ∃ v' w', (Builtin.append_ #[22, 22] ty #[v, .slice (some ⟨w.heap.size, 0, none⟩) 1 1]).run Tryz.prog (w.alloc (.cells #[.int .u64 (x : Int)] 24)) = .ok v' w' ∧ OwnB base w' v' (S ++ [x]) ∧ Below base w w' ∧
      (∀ u T, OwnB base w u T → Apart v u → OwnB base w' u T ∧ Apart v' u) ∧ (∀ ao c I, BitsAt w ao c I → (I = [] ∨ ∃ b off, ao = some ⟨b, off, none⟩ ∧ v.ownBlock ≠ some b) → BitsAt w' ao c I) := by
  obtain ⟨i0, hi, hz0, hz1, hz2⟩ := info_parts infoBits
  obtain ⟨v', w', e1, e2, e3, e4, e5⟩ := run_append_own_at (P := Tryz.prog) (w.alloc (.cells #[.int .u64 (x : Int)] 24)) base 22 ty 24 i0 (.int .u64 0) 1 8 Tryz.underlying22 hi hz0 hz1 hz2 rfl (by decide) v S.length (S.map bitV) (h.1.alloc _) ⟨w.heap.size, 0, none⟩ 1 1 [.int .u64 (x : Int)] rfl (cell_one_new _ _ _) (fun u hu => by simp at hu; subst hu; rfl) (by unfold maxLen; omega) (by omega) (by simp; omega)
  have hn : OwnB base w' v' (S ++ [x]) := OwnB.snoc rfl e2 h.2 hx
  refine ⟨v', w', e1, hn, ((below_alloc9 w _).mono hb).grown e3 (by simp; omega) (fun g hg => (h.1.lt g hg).1), ?_, ?_⟩
  · intro u T hu ha
    refine ⟨⟨(hu.1.alloc _).kept e3 ?_, hu.2⟩, ?_⟩
    · cases hv : u.ownBlock with
      | none => exact .inl rfl
      | some g =>
        right
        intro e
        exact ha g e.symm hv
    · intro g hg hg2
      rcases e5 with e5 | e5
      · exact ha g (by rw [← e5]; exact hg) hg2
      · rw [hg] at e5
        have h1 := (hu.1.lt g hg2).2
        simp at e5
        omega
  · intro ao c I hI hn2
    have hA := hI.below (below_alloc9 w (.cells #[.int .u64 (x : Int)] 24))
    refine ⟨hA.1, hA.2.1, ?_⟩
    rcases hA.2.2 with e | ⟨b, off, f1, f2, f3⟩
    · exact .inl e
    rcases hn2 with e | ⟨b', off', g1, g2⟩
    · exact .inl e
    rw [f1] at g1
    simp only [Option.some.injEq, Addr.mk.injEq] at g1
    obtain ⟨rfl, rfl, _⟩ := g1
    refine .inr ⟨b, off, f1, Nat.lt_of_lt_of_le f2 e3.size, fun i hi => ?_⟩
    exact e3.cell (f3 i hi) (fun e => g2 e.symm)

end Go.Proofs.YtimejpbmehegeaaGreatDoor

